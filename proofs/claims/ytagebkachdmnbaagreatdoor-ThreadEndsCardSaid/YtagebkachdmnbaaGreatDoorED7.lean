/- Part 38 of the proof: what is used of the texts UnrH. -/
import Derived.Test.YtagebkachdmnbaaGreatDoorEB5
import Derived.Test.YtagebkachdmnbaaGreatDoorED6
import Derived.Test.YtagebkachdmnbaaGreatDoorED5
import Derived.Laws.Tables
section
namespace Go.Proofs.YtagebkachdmnbaaGreatDoor.Unr
open Go.RowKit Go.Shelf Go.Proofs.YtagebkachdmnbaaGreatDoor.Mem Go.Proofs.YtagebkachdmnbaaGreatDoor.Expr Go.Proofs.YtagebkachdmnbaaGreatDoor.Prog Go.Proofs.YtagebkachdmnbaaGreatDoor.Row Go.Proofs.YtagebkachdmnbaaGreatDoor.Chk
abbrev Tc:=List In × Int
def unrollT (t:Ts) (k:Int):Option (List Tc):=threadsF (checkL t) k.toNat t.threads
def unrollE (t:Ts) (k:Int):Nat:=if checkE t≠0 then checkE t else if k<0 \/ 8<k then 1 else if (unrollT t k).isNone then 4 else 0
theorem threads_snoc {locs:List UInt8} {times:Nat} {b:Blk} {x:Tc} (hx:threadF locs times b=some x):∀ {l:List Blk} {xs:List Tc},threadsF locs times l=some xs->threadsF locs times (l ++ [b])=some (xs ++ [x])
  | [],xs,h=>by
    injection h with h
    subst h
    show (match threadF locs times b with | none=>none | some x=>(some []).map (x :: ·))=_
    rw [hx];rfl
  | a :: l,xs,h=>by
    have h':(match threadF locs times a with | none=>none | some x=>(threadsF locs times l).map (x :: ·))=some xs:=h
    show (match threadF locs times a with | none=>none | some x=>(threadsF locs times (l ++ [b])).map (x :: ·))=_
    cases ha:threadF locs times a with
    | none=>rw [ha] at h';cases h'
    | some y =>
      rw [ha] at h'
      cases hl:threadsF locs times l with
      | none=>simp only [hl] at h';cases h'
      | some ys =>
        simp only [hl] at h'
        injection h' with h'
        subst h'
        simp only [threads_snoc hx hl];rfl
theorem threads_stop {locs:List UInt8} {times:Nat} {b:Blk} (hx:threadF locs times b=none):∀ (l r:List Blk),threadsF locs times (l ++ b :: r)=none
  | [],r=>by
    show (match threadF locs times b with | none=>none | some x=>(threadsF locs times r).map (x :: ·))=_
    rw [hx]
  | a :: l,r=>by
    show (match threadF locs times a with | none=>none | some x=>(threadsF locs times (l ++ b :: r)).map (x :: ·))=_
    cases threadF locs times a with
    | none=>rfl
    | some y=>simp only [threads_stop hx l r];rfl
def CodeIn (n₁:Nat) (w:World) (r:Option Addr):Prop:=∀ g o s,r=some ⟨g,o,s⟩->n₁<=g/\∃ cs,Sits w g 82 cs
theorem codeIn_cut {n₀ n₁:Nat} {w:World} {r:Option Addr} {n d:Nat} {css:List Value} (h:Cut2 82 8 n₀ w r n d css) (hn:n₁<=n₀):CodeIn n₁ w r:=fun g o s e=>by
  refine ⟨Nat.le_trans hn (h.fresh g o s e).1,?_⟩
  obtain ⟨cs,hc⟩:=cut2_block h g (by rw [e];rfl)
  exact ⟨cs,hc⟩
def InsD (w:World) (l:List In) (d:Nat) (css:List Value):Prop:=InsV w l css/\l.length<=d
theorem InsD.stable {w w':World} {l:List In} {d:Nat} {css:List Value} (h:InsD w l d css) (hs:Stable 204 w w'):InsD w' l d css:=⟨h.1.stable hs,h.2⟩
def ThCells (n₁:Nat) (w:World):List Tc->List Value->Prop
  | [],cs=>cs=[]
  | x :: l,cs=>∃ r d css cr,cs=[.slice r x.1.length d,.int .i64 x.2] ++ cr/\Lay w r css/\InsD w x.1 d css/\CodeIn n₁ w r/\ThCells n₁ w l cr
theorem ThCells.keep {n₁:Nat} {X:Nat->Prop} {w w':World} (hk:Keeps X w w') (hX:∀ g cs,n₁<=g->Sits w g 82 cs->¬ X g) (hs:Stable 204 w w'):∀ {l:List Tc} {cs:List Value},ThCells n₁ w l cs->ThCells n₁ w' l cs
  | [],_,h=>h
  | _ :: _, _, ⟨r, d, css, cr, e, h1, h2, hf, h3⟩ => ⟨r, d, css, cr, e, fun j u hu => by
      obtain ⟨g,o,e2,hlt,hc⟩:=h1 j u hu
      obtain ⟨hn,cs',hcs⟩:=hf g o none e2
      exact ⟨g,o,e2,Nat.lt_of_lt_of_le hlt hk.size,(World.cell?_of_block (a:=⟨g,o+j,none⟩) (hk.block g hlt (hX g cs' hn hcs))).trans hc⟩,h2.stable hs,fun g o s e2=>by
      obtain ⟨hn,cs',hcs⟩:=hf g o s e2
      exact ⟨hn,cs',hcs.keep hk (hX g cs' hn hcs)⟩,h3.keep hk hX hs⟩
theorem ThCells.below {n₁:Nat} {w w':World} (hb:Below w.heap.size w w') {l:List Tc} {cs:List Value} (h:ThCells n₁ w l cs):ThCells n₁ w' l cs :=
  h.keep (X:=fun _=>False) (Keeps.of_below hb) (fun _ _ _ _ e=>e) (Stable.below hb)
theorem ThCells.weak {n₁:Nat} {w:World}:∀ {l:List Tc} {cs:List Value},ThCells n₁ w l cs->ThCells 0 w l cs
  | [],_,h=>h
  | _ :: _,_,⟨r,d,css,cr,e,h1,h2,hf,h3⟩=>⟨r,d,css,cr,e,h1,h2,fun g o s e2=>⟨Nat.zero_le _,(hf g o s e2).2⟩,h3.weak⟩
theorem ThCells.snoc {n₁:Nat} {w:World} {x:Tc} {r:Option Addr} {d:Nat} {css:List Value} (h1:Lay w r css) (h2:InsD w x.1 d css) (hf:CodeIn n₁ w r):∀ {l:List Tc} {cs:List Value},ThCells n₁ w l cs->ThCells n₁ w (l ++ [x]) (cs ++ [.slice r x.1.length d,.int .i64 x.2])
  | [],cs,h=>by
    rw [show cs=[] from h]
    exact ⟨r,d,css,[],by simp,h1,h2,hf,rfl⟩
  | _ :: _,_,⟨r',d',css',cr,e,h1',h2',hf',h⟩=>⟨r',d',css',cr ++ [.slice r _ d,.int .i64 _],by rw [e,List.append_assoc],h1',h2',hf',ThCells.snoc h1 h2 hf h⟩
theorem stable_row {t t':TypeId} {W:World} {g:Nat} {cs:Array Value} (hs:Sits W g t' cs) (hne:t≠t') (cs':Array Value):Stable t W (W.setRow g cs'):=fun k _ h=>(setRow_other W g k cs' (h.differ hs hne)).trans h
theorem keeps_row (X:Nat->Prop) {W:World} {g:Nat} (hg:X g) (cs':Array Value):Keeps X W (W.setRow g cs'):=⟨rfl,rfl,rfl,by simp [World.setRow],fun b _ hn=>setRow_other W g b cs' (fun e=>hn (by rw [e];exact hg))⟩
def ThsV (w:World) (v:Value) (l:List Tc):Prop:=∃ r d cs,v = .slice r l.length d/\Lay w r cs/\ThCells 0 w l cs
theorem ThsV.below {w w':World} {v:Value} {l:List Tc} (h:ThsV w v l) (hb:Below w.heap.size w w'):ThsV w' v l:=by
  obtain ⟨r,d,cs,e,h1,h2⟩:=h
  exact ⟨r,d,cs,e,h1.below hb,h2.below hb⟩
abbrev zeroPg:Array Value:=#[.slice none 0 0,.string ⟨#[]⟩,.slice none 0 0,.bool false,.pointer none]
def startsU (t:Ts):List Nat:=(checkL t).map fun c=>knF t.init.reverse c.toNat
def GivesU (t:Ts) (k:Int) (va:Value) (w:World) (e:Ending) (w':World):Prop :=
  Below w.heap.size w w' /\ ((unrollE t k≠0/\e = .returned (.tuple #[.agg zeroPg,.int .i64 (unrollE t k:Nat)])) \/
    ∃ ths vth vst,unrollE t k=0/\unrollT t k=some ths/\e = .returned (.tuple #[.agg #[vth,.string (str (checkL t)),vst,.bool t.all,va],.int .i64 0])/\ThsV w' vth ths/\URow w' vst (startsU t))
theorem checkL_few (t:Ts):(checkL t).length<=1000:=by
  unfold checkL
  split
  · have:=preL_len (namedL t) 26
    have e:locsF t=preL (namedL t) 26:=rfl
    rw [e];omega
  · simp
theorem rowTh:RowT Tryz.prog 30 44 2 32:=rowT_of (z:=.agg #[.slice none 0 0,.int .i64 0]) Tryz.underlying30 (by kernel_rfl) rfl (by decide)
theorem pgSize:(Tryz.prog.info? 33).map (·.size)=some 5:=by kernel_rfl
theorem zeroPg_one:zeroPg.all (·.oneCell')=true:=by simp [Value.oneCell']
theorem pg_one (r:Option Addr) (n d:Nat) (s:ByteArray) (r2:Option Addr) (n2 d2:Nat) (b:Bool) (p:Option Addr):(#[.slice r n d,.string s,.slice r2 n2 d2,.bool b,.pointer p]:Array Value).all (·.oneCell')=true:=by simp [Value.oneCell']
def rowTN (n1:Nat) (cs:List Value):Value->World->Prop:=fun u W=>∃ g,u = .slice (some ⟨g,0,none⟩) 1 1/\n1<=g/\Sits W g 44 cs.toArray
def appTN (n₀ n:Nat) (cs:List Value):Value->World->Prop:=fun u W=>∃ r d,u = .slice r n d/\Cut2 44 2 n₀ W r n d cs
structure UnAt (w:World) (tc z4:Array Value) (W:World):Prop where
  at2:Sits W w.heap.size 40 tc
  at4:Sits W (w.heap.size+1) 33 z4
  low:Below w.heap.size w W
theorem UnAt.grown {w W W':World} {tc z4:Array Value} (h:UnAt w tc z4 W) (hb:Below W.heap.size W W'):UnAt w tc z4 W':=⟨h.at2.below hb h.at2.lt,h.at4.below hb h.at4.lt,h.low.trans (hb.mono h.low.size)⟩
theorem UnAt.put {w W:World} {tc z4:Array Value} (h:UnAt w tc z4 W) (z:Array Value):UnAt w tc z (W.setRow (w.heap.size+1) z) :=
  ⟨(setRow_other W _ _ _ (by omega)).trans h.at2,setRow_heap W _ _ _ _ _ h.at4,⟨h.low.os,h.low.tape,h.low.output,by simpa [World.setRow] using h.low.size,fun b hb=>(setRow_other W _ b _ (by omega)).trans (h.low.block b hb)⟩⟩
theorem urow_ne {W:World} {r:Option Addr} {n d:Nat} {u:List Nat} {g:Nat} (h:URow W (.slice r n d) u) (hs:Sits W g 33 zeroPg):∀ i a,u[i]? = some a->∃ g' o,r=some ⟨g',o,none⟩/\g' ≠ g/\g' < W.heap.size/\W.cell? ⟨g',o+i,none⟩=some (.int .u64 (a:Nat)):=fun i a hi=>by
  rcases h with ⟨rfl,_⟩ | ⟨g',o,cap,hv,_,hc⟩
  · simp at hi
  · injection hv with h1 h2 h3
    have hc':=hc i a hi
    refine ⟨g',o,h1,fun e=>?_,World.block_lt_of_cell? _ _ hc',hc'⟩
    subst e
    rw [hs.cell] at hc'
    have hl:=(Array.getElem?_eq_some_iff.1 hc').1
    have hl:o+i<5:=hl
    obtain e | e | e | e | e:o+i=0 \/ o+i=1 \/ o+i=2 \/ o+i=3 \/ o+i=4:=by omega
    all_goals (rw [e] at hc';simp at hc')
structure PgAt (w Wt:World) (tc:Array Value) (g8:Nat) (locs:List UInt8) (r32:Option Addr) (n32 d32:Nat) (al:Bool) (pa:Option Addr) (r:Option Addr) (d:Nat) (l:List Tc) (cs:List Value) (W:World):Prop where
  un:UnAt w tc zeroPg W
  at8:Sits W g8 33 #[.slice r l.length d,.string (str locs),.slice r32 n32 d32,.bool al,.pointer pa]
  cut:Cut2 44 2 Wt.heap.size W r l.length d cs
  ths:ThCells Wt.heap.size W l cs
  ge8:w.heap.size+1<g8
  lt8:g8<Wt.heap.size
  base:Keeps (fun x=>x=g8 \/ Wt.heap.size<=x) Wt W
section
variable {w Wt W W' : World} {tc : Array Value} {g8 : Nat} {locs : List UInt8} {r32 : Option Addr} {n32 d32 : Nat} {al : Bool} {pa : Option Addr} {r : Option Addr} {d : Nat} {l : List Tc} {cs : List Value}
theorem PgAt.grown (h:PgAt w Wt tc g8 locs r32 n32 d32 al pa r d l cs W) (hb:Below W.heap.size W W'):PgAt w Wt tc g8 locs r32 n32 d32 al pa r d l cs W' :=
  ⟨h.un.grown hb,h.at8.below hb h.at8.lt,h.cut.below hb,h.ths.below hb,h.ge8,h.lt8,h.base.trans (Keeps.of_below hb)⟩
theorem PgAt.new (h:UnAt w tc zeroPg W) (h8:Sits W g8 33 zeroPg) (hn:w.heap.size+1<g8) (locs:List UInt8) (r32:Option Addr) (n32 d32:Nat) (al:Bool) (pa:Option Addr) :
    PgAt w (W.setRow g8 #[.slice none 0 0,.string (str locs),.slice r32 n32 d32,.bool al,.pointer pa]) tc g8 locs r32 n32 d32 al pa none 0 [] [] (W.setRow g8 #[.slice none 0 0,.string (str locs),.slice r32 n32 d32,.bool al,.pointer pa]) :=
  ⟨⟨(setRow_other W _ _ _ (by omega)).trans h.at2,(setRow_other W _ _ _ (by omega)).trans h.at4,⟨h.low.os,h.low.tape,h.low.output,by simpa [World.setRow] using h.low.size,fun b hb=>(setRow_other W _ b _ (by omega)).trans (h.low.block b hb)⟩⟩,
    setRow_heap W _ _ _ _ _ h8,nil_cut _ _ _ _,rfl,by omega,by have:=h8.lt;simpa [World.setRow] using this,Keeps.refl _ _⟩
theorem PgAt.put (h:PgAt w Wt tc g8 locs r32 n32 d32 al pa r d l cs W) (hk:Keeps (Own r l.length d) W W') {x:Tc} {r':Option Addr} {d':Nat} {css:List Value} (h1:Lay W r' css) (h2:InsD W x.1 d' css) (hf:CodeIn Wt.heap.size W r')
    {r5:Option Addr} {d5:Nat} (hc:Cut2 44 2 Wt.heap.size W' r5 (l.length+1) d5 (cs ++ [.slice r' x.1.length d',.int .i64 x.2])) :
    PgAt w Wt tc g8 locs r32 n32 d32 al pa r5 d5 (l ++ [x]) (cs ++ [.slice r' x.1.length d',.int .i64 x.2]) (W'.setCell ⟨g8,0,none⟩ (.slice r5 (l.length+1) d5)):=by
  have el:(l ++ [x]).length=l.length+1:=by simp
  have no:∀ (k:Nat) (t:TypeId) (cs':Array Value),Sits W k t cs' -> t≠44->¬ Own r l.length d k:=fun k t cs' hs hne=>own_other h.cut hs hne
  have h8:=h.at8.keep hk (no _ _ _ h.at8 (by decide))
  have h2':=h.un.at2.keep hk (no _ _ _ h.un.at2 (by decide))
  have h4':=h.un.at4.keep hk (no _ _ _ h.un.at4 (by decide))
  have hst:Stable 204 W (W'.setCell ⟨g8,0,none⟩ (.slice r5 (l.length+1) d5)):=fun g cs' hs=>(hs.keep hk (no _ _ _ hs (by decide))).far ((hs.keep hk (no _ _ _ hs (by decide))).differ h8 (by decide)) _
  have own_ge:∀ k,Own r l.length d k->Wt.heap.size<=k:=fun k e=>by
    cases hr:r with
    | none=>rw [hr] at e;simp [Own,Value.ownBlock] at e
    | some a =>
      obtain ⟨g,o,s⟩:=a
      rw [hr] at e
      simp [Own,Value.ownBlock] at e
      subst e
      exact (h.cut.fresh g o s hr).1
  have hge:=h.ge8
  have hlt:=h.lt8
  have hKW:Keeps (fun x=>Own r l.length d x \/ x=g8) W (W'.setCell ⟨g8,0,none⟩ (.slice r5 (l.length+1) d5)):=(hk.wider (fun _ _ e => .inl e)).put (p:=⟨g8,0,none⟩) (.inl (.inr rfl)) _
  refine ⟨⟨h2'.far (show w.heap.size≠g8 by omega) _,h4'.far (show w.heap.size+1≠g8 by omega) _,?_⟩,?_,?_,?_,hge,hlt,?_⟩
  · refine ⟨hKW.os.trans h.un.low.os,hKW.tape.trans h.un.low.tape,hKW.output.trans h.un.low.output,Nat.le_trans h.un.low.size hKW.size,fun b hb=>(hKW.block b (Nat.lt_of_lt_of_le hb h.un.low.size) (fun e=>?_)).trans (h.un.low.block b hb)⟩
    rcases e with e | e
    · have:=own_ge b e;omega
    · omega
  · rw [el];exact h8.put 0 _
  · rw [el];exact cut2_other hc h8 (by decide) 0 _
  · exact (ThCells.snoc h1 h2 hf h.ths).keep hKW (fun g cs' hn hs e=>by
      rcases e with e | e
      · exact no _ _ _ hs (by decide) e
      · omega) hst
  · exact h.base.trans (hKW.wider fun b _ e=>by
      rcases e with e | e
      · exact .inr (own_ge b e)
      · exact .inl e)
theorem urow_keep {u:List Nat} (h:∀ i a,u[i]? = some a->∃ g' o,r32=some ⟨g',o,none⟩/\g' ≠ g8/\g' < Wt.heap.size/\Wt.cell? ⟨g',o+i,none⟩=some (.int .u64 (a:Nat))) (hk:Keeps (fun x=>x=g8 \/ Wt.heap.size<=x) Wt W) (hl:n32=u.length) (hm:u.length<=1000000):URow W (.slice r32 n32 d32) u:=by
  subst hl
  cases u with
  | nil=>exact .inl ⟨rfl,_,_,rfl⟩
  | cons a u =>
    obtain ⟨g',o,e,_⟩:=h 0 a rfl
    refine .inr ⟨g',o,d32,by rw [e],hm,fun i b hi=>?_⟩
    obtain ⟨g2,o2,e2,hne,hlt,hc⟩:=h i b hi
    rw [e] at e2
    injection e2 with e2;injection e2 with e3 e4;subst e3 e4
    rw [World.cell?_of_block (a:=⟨g',o+i,none⟩) (hk.block g' hlt (fun e=>by rcases e with e | e <;> omega))]
    exact hc
end
def startW (t:Ts):Value->World->Prop:=fun u W=>URow W u (startsU t)
theorem startW_mono (t:Ts):Flow.Mono (startW t):=fun _ _ _ h hb=>URow.below h hb
theorem startW_slice {t:Ts} {u:Value} {W:World} (h:startW t u W):∃ r n d,u = .slice r n d/\URow W (.slice r n d) (startsU t):=by
  have h':=h
  rcases h with ⟨_,p,cap,rfl⟩ | ⟨g,o,cap,rfl,_⟩
  · exact ⟨_,_,_,rfl,h'⟩
  · exact ⟨_,_,_,rfl,h'⟩
def pgW (t:Ts) (pa:Option Addr):Value->World->Prop:=fun u W=>∃ r n d,URow W (.slice r n d) (startsU t)/\u = .agg #[.slice none 0 0,.string (str (checkL t)),.slice r n d,.bool t.all,.pointer pa]
theorem pgW_mono (t:Ts) (pa:Option Addr):Flow.Mono (pgW t pa):=fun _ _ _ ⟨r,n,d,h,e⟩ hb=>⟨r,n,d,URow.below h hb,e⟩
def pgBox (n:Nat):Value->World->Prop:=fun u W=>∃ g,u = .pointer (some ⟨g,0,none⟩)/\n<=g/\Sits W g 33 zeroPg
theorem pgBox_mono (n:Nat):Flow.Mono (pgBox n):=fun _ _ _ ⟨g,e,h,hs⟩ hb=>⟨g,e,h,hs.below hb hs.lt⟩
set_option maxRecDepth 100000 in
set_option maxHeartbeats 8000000 in
theorem unroll_any (t:Ts) (ht:t.small) (k:Int) (vi vt va:Value) (w:World) (hK:KindAt w) (hV:TestV w t vi vt va) :
    Calls Tryz.prog 9 #[testAgg vi vt t.all va,.int .i64 k] w (GivesU t k va w):=by
  obtain ⟨pi,ci,rfl⟩:=hV.init.len
  obtain ⟨pt,ct,rfl⟩:=hV.threads.len
  obtain ⟨pa,rfl,_⟩:=hV.ask.ptr
  simp only [testAgg]
  have H0:Hid (UnAt w #[.slice pi t.init.length ci,.slice pt t.threads.length ct,.bool t.all,.pointer pa] zeroPg ((w.alloc (.cells #[.slice pi t.init.length ci,.slice pt t.threads.length ct,.bool t.all,.pointer pa] 40)).alloc (.cells zeroPg 33))):=Lib.hid
    ⟨(Sits.new _ _ _).alloc _,Sits.made (by simp) _ _,two_low _ _ _⟩
  have HV:=Lib.hid hV
  have HT:=Lib.hid ht
  have HK:=Lib.hid hK
  clear hV ht hK
  go_enter Tryz.func9,Tryz.ntmps9
  go_upto_region 1 with (fail)
  generalize (w.alloc (.cells #[.slice pi t.init.length ci,.slice pt t.threads.length ct,.bool t.all,.pointer pa] 40)).alloc (.cells zeroPg 33)=w1 at H0 ⊢
  have a0:w1.cell? ⟨w.heap.size,0,none⟩=some (.slice pi t.init.length ci):=H0.out.at2.cell 0
  have a1:w1.cell? ⟨w.heap.size,1,none⟩=some (.slice pt t.threads.length ct):=H0.out.at2.cell 1
  have a2:w1.cell? ⟨w.heap.size,2,none⟩=some (.bool t.all):=H0.out.at2.cell 2
  have a3:w1.cell? ⟨w.heap.size,3,none⟩=some (.pointer pa):=H0.out.at2.cell 3
  have la:=H0.out.at2.lt
  have HCH:=Lib.hid (check_any t HT.out (.slice pi t.init.length ci) (.slice pt t.threads.length ct) (.pointer pa) w1 (KindAt.below HK.out H0.out.low) (HV.out.below H0.out.low))
  have HUE:Hid (unrollE t k=if checkE t≠0 then checkE t else if k<0 \/ 8<k then 1 else if (unrollT t k).isNone then 4 else 0):=Lib.hid rfl
  have HLO:Hid ((checkL t).length<=1000):=Lib.hid (checkL_few t)
  generalize he:checkE t=er at HCH HUE ⊢
  unfold testAgg at HCH
  go_wp2_with fail
  refine HCH.out.mono ?_
  rintro e w2 ⟨rfl,hb⟩
  have H2:=Lib.hid (H0.out.grown hb)
  have HB1:=Lib.hid H0.out.low
  clear hb HCH H0 a0 a1 a2 a3 la
  by_cases h0:er=0
  rotate_left
  · have HE:Hid (unrollE t k=er):=Lib.hid (by rw [HUE.out,if_pos h0])
    have hz:((er:Int) != 0)=true:=by simp;omega
    have HN:=Lib.hid h0
    clear h0
    go_wp2_with (refine wpList_store_row rfl 33 _ _ rfl (w.heap.size+1) zeroPg rfl rfl 33 _ H2.out.at4 pgSize rfl zeroPg_one ?_)
    have HP:=Lib.hid (H2.out.put zeroPg)
    generalize w2.setRow (w.heap.size+1) zeroPg=w3 at HP ⊢
    go_wp2_with fail
    have r0:w3.cell? ⟨w.heap.size+1,0,none⟩=some (.slice none 0 0):=HP.out.at4.cell 0
    have r1:w3.cell? ⟨w.heap.size+1,1,none⟩=some (.string ⟨#[]⟩):=HP.out.at4.cell 1
    have r2:w3.cell? ⟨w.heap.size+1,2,none⟩=some (.slice none 0 0):=HP.out.at4.cell 2
    have r3:w3.cell? ⟨w.heap.size+1,3,none⟩=some (.bool false):=HP.out.at4.cell 3
    have r4:w3.cell? ⟨w.heap.size+1,4,none⟩=some (.pointer none):=HP.out.at4.cell 4
    have lr:=HP.out.at4.lt
    exact bodyPost_ret (v:=.tuple #[.agg zeroPg,.int .i64 er]) (by simp [results,Tryz.results9,go_sem,r0,r1,r2,r3,r4]) rfl ⟨HP.out.low,.inl ⟨by rw [HE.out];exact HN.out,by rw [HE.out]⟩⟩
  · subst h0
    by_cases hk1:k<0
    · have HE:Hid (unrollE t k=1):=Lib.hid (by rw [HUE.out,if_neg (by simp),if_pos (.inl hk1)])
      go_wp2_with (refine wpList_store_row rfl 33 _ _ rfl (w.heap.size+1) zeroPg rfl rfl 33 _ H2.out.at4 pgSize rfl zeroPg_one ?_)
      have HP:=Lib.hid (H2.out.put zeroPg)
      generalize w2.setRow (w.heap.size+1) zeroPg=w3 at HP ⊢
      go_wp2_with fail
      have r0:w3.cell? ⟨w.heap.size+1,0,none⟩=some (.slice none 0 0):=HP.out.at4.cell 0
      have r1:w3.cell? ⟨w.heap.size+1,1,none⟩=some (.string ⟨#[]⟩):=HP.out.at4.cell 1
      have r2:w3.cell? ⟨w.heap.size+1,2,none⟩=some (.slice none 0 0):=HP.out.at4.cell 2
      have r3:w3.cell? ⟨w.heap.size+1,3,none⟩=some (.bool false):=HP.out.at4.cell 3
      have r4:w3.cell? ⟨w.heap.size+1,4,none⟩=some (.pointer none):=HP.out.at4.cell 4
      have lr:=HP.out.at4.lt
      exact bodyPost_ret (v:=.tuple #[.agg zeroPg,.int .i64 1]) (by simp [results,Tryz.results9,go_sem,r0,r1,r2,r3,r4]) rfl ⟨HP.out.low,.inl ⟨by rw [HE.out];decide,by rw [HE.out];rfl⟩⟩
    by_cases hk2:8<k
    · have HE:Hid (unrollE t k=1):=Lib.hid (by rw [HUE.out,if_neg (by simp),if_pos (.inr hk2)])
      go_wp2_with (refine wpList_store_row rfl 33 _ _ rfl (w.heap.size+1) zeroPg rfl rfl 33 _ H2.out.at4 pgSize rfl zeroPg_one ?_)
      have HP:=Lib.hid (H2.out.put zeroPg)
      generalize w2.setRow (w.heap.size+1) zeroPg=w3 at HP ⊢
      go_wp2_with fail
      have r0:w3.cell? ⟨w.heap.size+1,0,none⟩=some (.slice none 0 0):=HP.out.at4.cell 0
      have r1:w3.cell? ⟨w.heap.size+1,1,none⟩=some (.string ⟨#[]⟩):=HP.out.at4.cell 1
      have r2:w3.cell? ⟨w.heap.size+1,2,none⟩=some (.slice none 0 0):=HP.out.at4.cell 2
      have r3:w3.cell? ⟨w.heap.size+1,3,none⟩=some (.bool false):=HP.out.at4.cell 3
      have r4:w3.cell? ⟨w.heap.size+1,4,none⟩=some (.pointer none):=HP.out.at4.cell 4
      have lr:=HP.out.at4.lt
      exact bodyPost_ret (v:=.tuple #[.agg zeroPg,.int .i64 1]) (by simp [results,Tryz.results9,go_sem,r0,r1,r2,r3,r4]) rfl ⟨HP.out.low,.inl ⟨by rw [HE.out];decide,by rw [HE.out];rfl⟩⟩
    obtain ⟨n,rfl⟩:∃ n:Nat,k=(n:Int):=⟨k.toNat,by omega⟩
    have HNN:Hid (n<=8):=Lib.hid (by omega)
    have HUE2:Hid (unrollE t n=if (unrollT t n).isNone then 4 else 0):=Lib.hid (by rw [HUE.out,if_neg (by omega),if_neg (by omega)])
    have HUT:Hid (unrollT t n=threadsF (checkL t) n t.threads):=Lib.hid rfl
    clear hk2 HUE
    have hk2:¬ (8:Int)<(n:Int):=by have:=HNN.out;omega
    have hk0:¬ (n:Int)<0:=by omega
    clear hk1
    go_upto_region 6 with (fail)
    have HST:=Lib.hid (fun W (h:Below w.heap.size w W)=>start_any t HT.out (checkL t) HLO.out (.slice pi t.init.length ci) (.slice pt t.threads.length ct) (.pointer pa) W (HV.out.below h))
    unfold testAgg at HST
    refine Flow.wp_flowG [29,30,31,32,33,34,35,36,37,8]
      [Flow.eqV (.string (str (checkL t))),Flow.eqV (.agg #[.slice pi t.init.length ci,.slice pt t.threads.length ct,.bool t.all,.pointer pa]),Flow.eqV (.string (str (checkL t))),startW t,Flow.eqV (.pointer (some ⟨w.heap.size,2,none⟩)),Flow.eqV (.bool t.all),Flow.eqV (.pointer (some ⟨w.heap.size,3,none⟩)),Flow.eqV (.pointer pa),pgW t pa,pgBox w2.heap.size]
      (by kernel_rfl) (by kernel_rfl) (by kernel_rfl) (by kernel_rfl) (by rfl) (by simp only [List.mem_cons,List.not_mem_nil,or_false,forall_eq_or_imp,forall_eq];refine ⟨?_,?_,?_,?_,?_,?_,?_,?_,?_,?_⟩ <;> (first | exact Flow.eqV_mono _ | exact startW_mono _ | exact pgW_mono _ _ | exact pgBox_mono _)) ?_ ?_
    · intro i o hi ho A W hW hk he
      simp only [List.length_cons,List.length_nil,Nat.zero_add,Nat.reduceAdd] at hi
      have hT:=(H2.out.grown hW).at2
      have la:=hT.lt
      have a0:W.cell? ⟨w.heap.size,0,none⟩=some (.slice pi t.init.length ci):=hT.cell 0
      have a1:W.cell? ⟨w.heap.size,1,none⟩=some (.slice pt t.threads.length ct):=hT.cell 1
      have a2:W.cell? ⟨w.heap.size,2,none⟩=some (.bool t.all):=hT.cell 2
      have a3:W.cell? ⟨w.heap.size,3,none⟩=some (.pointer pa):=hT.cell 3
      obtain rfl | rfl | rfl | rfl | rfl | rfl | rfl | rfl | rfl | rfl:i=0 \/ i=1 \/ i=2 \/ i=3 \/ i=4 \/ i=5 \/ i=6 \/ i=7 \/ i=8 \/ i=9:=by omega
      · injection ho with ho;subst ho
        refine .inl ⟨Flow.wanted_free rfl,?_⟩
        have h6:A.tmps[6]?.getD undef = .string (str (checkL t)):=hk 6 (by rfl)
        go_simp
        exact ⟨rfl,Below.refl _ _⟩
      · injection ho with ho;subst ho
        refine .inl ⟨Flow.wanted_free rfl,?_⟩
        have h2:A.tmps[2]?.getD undef = .pointer (some ⟨w.heap.size,0,none⟩):=hk 2 (by rfl)
        go_simp
        exact ⟨rfl,Below.refl _ _⟩
      · injection ho with ho;subst ho
        refine .inl ⟨Flow.wanted_free rfl,?_⟩
        have h6:A.tmps[6]?.getD undef = .string (str (checkL t)):=hk 6 (by rfl)
        go_simp
        exact ⟨rfl,Below.refl _ _⟩
      · injection ho with ho;subst ho
        refine .inl ⟨Flow.wanted_free rfl,?_⟩
        have h30:A.tmps[30]?.getD undef = .agg #[.slice pi t.init.length ci,.slice pt t.threads.length ct,.bool t.all,.pointer pa]:=he 1 (by kernel_rfl)
        have h31:A.tmps[31]?.getD undef = .string (str (checkL t)):=he 2 (by kernel_rfl)
        go_simp
        refine Calls.mono (HST.out W (H2.out.low.trans (hW.mono H2.out.low.size))) ?_
        rintro e' w' ⟨v,rfl,hv,hb⟩
        exact ⟨_,rfl,hv,hb⟩
      · injection ho with ho;subst ho
        refine .inl ⟨Flow.wanted_free rfl,?_⟩
        have h2:A.tmps[2]?.getD undef = .pointer (some ⟨w.heap.size,0,none⟩):=hk 2 (by rfl)
        go_simp
        exact ⟨rfl,Below.refl _ _⟩
      · injection ho with ho;subst ho
        refine .inl ⟨Flow.wanted_free rfl,?_⟩
        have h33:A.tmps[33]?.getD undef = .pointer (some ⟨w.heap.size,2,none⟩):=he 4 (by kernel_rfl)
        go_simp
        exact ⟨rfl,Below.refl _ _⟩
      · injection ho with ho;subst ho
        refine .inl ⟨Flow.wanted_free rfl,?_⟩
        have h2:A.tmps[2]?.getD undef = .pointer (some ⟨w.heap.size,0,none⟩):=hk 2 (by rfl)
        go_simp
        exact ⟨rfl,Below.refl _ _⟩
      · injection ho with ho;subst ho
        refine .inl ⟨Flow.wanted_free rfl,?_⟩
        have h35:A.tmps[35]?.getD undef = .pointer (some ⟨w.heap.size,3,none⟩):=he 6 (by kernel_rfl)
        go_simp
        exact ⟨rfl,Below.refl _ _⟩
      · injection ho with ho;subst ho
        refine .inl ⟨Flow.wanted_free rfl,?_⟩
        have h29:A.tmps[29]?.getD undef = .string (str (checkL t)):=he 0 (by kernel_rfl)
        have h34:A.tmps[34]?.getD undef = .bool t.all:=he 5 (by kernel_rfl)
        have h36:A.tmps[36]?.getD undef = .pointer pa:=he 7 (by kernel_rfl)
        obtain ⟨r32,n32,d32,h32,h32u⟩:=startW_slice (show startW t (A.tmps[32]?.getD undef) W from he 3 (by kernel_rfl))
        go_simp
        exact ⟨⟨r32,n32,d32,h32u,rfl⟩,Below.refl _ _⟩
      · injection ho with ho;subst ho
        refine .inl ⟨Flow.wanted_free rfl,?_⟩
        have hsz:=hW.size
        go_simp
        exact ⟨⟨W.heap.size,rfl,hsz,Sits.new _ _ _⟩,(Below.refl _ _).alloc (Nat.le_refl _) _⟩
    · intro xs W hW hV
      obtain ⟨r32,n32,d32,hu,e37⟩:pgW t pa (xs 8) W:=hV 8 (by simp)
      obtain ⟨g8,e8,hg8,hs8⟩:pgBox w2.heap.size (xs 9) W:=hV 9 (by simp)
      have e29:xs 0 = .string (str (checkL t)):=hV 0 (by simp)
      have H3:=Lib.hid (H2.out.grown hW)
      have HU:=Lib.hid hu
      have HS8:=Lib.hid hs8
      have HG8:=Lib.hid hg8
      simp only [List.length_cons,List.length_nil,Nat.zero_add,Nat.reduceAdd,List.drop_succ_cons,List.drop_zero,Flow.putL,Act.put,List.setIfInBounds_toArray,List.set_cons_zero,List.set_cons_succ,e37,e8]
      clear hV hu hs8 hg8 e37 e8 e29 hW
      have HUN:=Lib.hid (urow_ne HU.out HS8.out)
      have HUL:Hid (n32=(startsU t).length/\(startsU t).length<=1000000):=Lib.hid (by
        refine ⟨?_,by unfold startsU;rw [List.length_map];have:=HLO.out;omega⟩
        rcases HU.out with ⟨e,p,cap,hv⟩ | ⟨g,o,cap,hv,_⟩
        · rw [e];injection hv
        · injection hv)
      have HP:Hid (PgAt w (W.setRow g8 #[.slice none 0 0,.string (str (checkL t)),.slice r32 n32 d32,.bool t.all,.pointer pa]) #[.slice pi t.init.length ci,.slice pt t.threads.length ct,.bool t.all,.pointer pa] g8 (checkL t) r32 n32 d32 t.all pa none 0 [] [] (W.setRow g8 #[.slice none 0 0,.string (str (checkL t)),.slice r32 n32 d32,.bool t.all,.pointer pa])):=Lib.hid (PgAt.new H3.out HS8.out (by have:=H2.out.at4.lt;have:=HG8.out;omega) _ _ _ _ _ _)
      have HUR:Hid (∀ i a,(startsU t)[i]? = some a->∃ g' o,r32=some ⟨g',o,none⟩/\g' ≠ g8/\g' < (W.setRow g8 #[.slice none 0 0,.string (str (checkL t)),.slice r32 n32 d32,.bool t.all,.pointer pa]).heap.size/\(W.setRow g8 #[.slice none 0 0,.string (str (checkL t)),.slice r32 n32 d32,.bool t.all,.pointer pa]).cell? ⟨g',o+i,none⟩=some (.int .u64 (a:Nat))):=Lib.hid fun i a hi=>by
        obtain ⟨g',o,e,hne,hlt,hc⟩:=HUN.out i a hi
        exact ⟨g',o,e,hne,by simpa [World.setRow] using hlt,(World.cell?_of_block (a:=⟨g',o+i,none⟩) (setRow_other W _ _ _ hne)).trans hc⟩
      go_upto_region 7 with (refine wpList_store_row rfl 33 _ _ rfl g8 #[.slice none 0 0,.string (str (checkL t)),.slice r32 n32 d32,.bool t.all,.pointer pa] rfl rfl 33 _ HS8.out pgSize rfl (pg_one _ _ _ _ _ _ _ _ _) ?_)
      generalize W.setRow g8 #[.slice none 0 0,.string (str (checkL t)),.slice r32 n32 d32,.bool t.all,.pointer pa]=Wt at HP HUR ⊢
      clear HU HUN HS8 HG8 H3
      have a1:Wt.cell? ⟨w.heap.size,1,none⟩=some (.slice pt t.threads.length ct):=HP.out.un.at2.cell 1
      have la:=HP.out.un.at2.lt
      have hlt3:(t.threads.length:Int)<=1000:=by have:=HT.out.threads;omega
      go_wp2_with fail
      clear a1 la
      go_loopg [41] t.threads.length (fun gg v41 wx=>∃ k r d l cs,k<=t.threads.length/\gg=t.threads.length - k/\v41 = .int .i64 (k:Nat)/\Hid (threadsF (checkL t) n (t.threads.take k)=some l)/\Hid (l.length=k)/\Hid (PgAt w Wt #[.slice pi t.init.length ci,.slice pt t.threads.length ct,.bool t.all,.pointer pa] g8 (checkL t) r32 n32 d32 t.all pa r d l cs wx))
      case atStart=>exact ⟨0,none,0,[],[],by omega,by omega,rfl,Lib.hid rfl,Lib.hid rfl,HP⟩
      case round =>
        obtain ⟨k,r,d,l,cs,hk,rfl,rfl,HTK,HLK,HPk⟩:=hrel
        by_cases hlt:k<t.threads.length
        · have hb:t.threads[k]? = some t.threads[k]:=List.getElem?_eq_getElem hlt
          have HTA:Hid (t.threads=t.threads.take k ++ t.threads[k] :: t.threads.drop (k+1)):=Lib.hid (by rw [<- List.drop_eq_getElem_cons hlt,List.take_append_drop])
          have HTS:Hid (t.threads.take (k+1)=t.threads.take k ++ [t.threads[k]]):=Lib.hid (by rw [List.take_add_one,hb];rfl)
          generalize t.threads[k]=b at hb HTA HTS
          obtain ⟨vs,hrow,hvl,hst⟩:=(HV.out.below HPk.out.un.low).threads
          have hv:vs[k]? = some (vs[k]'(by omega)):=List.getElem?_eq_getElem _
          generalize vs[k]'(by omega)=v at hv
          have HS:=Lib.hid (hst k b v hb hv)
          obtain ⟨ps,cs1,rfl,_⟩:=HS.out.len
          rcases hrow with ⟨h0,_⟩ | ⟨g,o,cap,hvt,_,_,hcl⟩
          · omega
          injection hvt with e1 _ e3
          subst e1
          have hck:wr.cell? ⟨g,o+k,none⟩=some (.slice ps b.len cs1):=hcl k _ hv
          have lgk:g<wr.heap.size:=World.block_lt_of_cell? _ _ hck
          have j1:(k:Int)<(t.threads.length:Int):=by omega
          have j0:(0:Int)<=(k:Int):=by omega
          have HKL:=Lib.hid hlt
          have HNC:=Lib.hid (newCoder_any (checkL t) n wr)
          clear hb hv hst hcl hvl hlt hk e3 vs
          go_wp2_with fail
          refine HNC.out.mono ?_
          rintro e w3 ⟨gc,bc,bm,rfl,hc⟩
          have HBA:=Lib.hid (block_any HLO.out HNN.out b ([],false) (-1) _ w3 hc HS.out (by omega) (by omega))
          clear hc hck lgk HNC
          go_wp2_with fail
          refine HBA.out.mono ?_
          rintro e w4 ⟨rfl,hc,_⟩
          have HC4:=Lib.hid hc
          have HB4:Hid (Below wr.heap.size wr w4):=Lib.hid (hc.base.below (Nat.le_refl _))
          have HP4:=Lib.hid (HPk.out.grown HB4.out)
          have HPS:Hid (Wt.heap.size<=wr.heap.size):=Lib.hid HPk.out.base.size
          have HTF:Hid (threadF (checkL t) n b=if (blockF (checkL t) n b ([],false) (-1)).1.2=true then none else some ((blockF (checkL t) n b ([],false) (-1)).1.1,(blockF (checkL t) n b ([],false) (-1)).2)):=Lib.hid rfl
          clear hc HBA HPk HS
          generalize (blockF (checkL t) n b ([],false) (-1)).2=begin at HTF ⊢
          generalize (blockF (checkL t) n b ([],false) (-1)).1=c at HTF HC4
          obtain ⟨r',d',css,hgc,hcut,hins⟩:=HC4.out.cod
          have HGC:=Lib.hid hgc
          have HLY:=Lib.hid hcut.lay
          have HCF:Hid (CodeIn Wt.heap.size w4 r'):=Lib.hid (codeIn_cut hcut HPS.out)
          have HIN:Hid (InsD w4 c.1 d' css):=Lib.hid ⟨hins,hcut.room⟩
          have c0:w4.cell? ⟨gc,0,none⟩=some (.slice r' c.1.length d'):=hgc.cell 0
          have c1:w4.cell? ⟨gc,1,none⟩=some (.bool c.2):=hgc.cell 1
          have lc:=hgc.lt
          clear hgc hcut hins
          cases hf:c.2
          · rw [hf] at c1
            have HX:Hid (threadF (checkL t) n b=some (c.1,begin)):=Lib.hid (by rw [HTF.out,hf];rfl)
            clear hf HTF
            go_upto_region 14 with (fail)
            clear c0 c1 lc
            have HNF:Hid (∀ k,w4.heap.size<=k->¬ Own r l.length d k):=Lib.hid fun k hk e=>by
              obtain ⟨cs,hc⟩:=cut2_block HP4.out.cut k e
              have:=(Array.getElem?_eq_some_iff.1 hc).1
              omega
            have HNO:Hid (∀ (k:Nat) (t:TypeId) (cs:Array Value),Sits w4 k t cs->t≠44->¬ Own r l.length d k):=Lib.hid fun k t cs hs hne=>own_other HP4.out.cut hs hne
            have HL32:Hid (l.length<=1000):=Lib.hid (by have:=HLK.out;have:=HKL.out;have:=HT.out.threads;omega)
            refine Flow.wp_flowB Flow.rel_below (Flow.rel_keeps (Own r l.length d)) (fun x y h=>Keeps.of_below h) [56,57,58,59,60,61,62,63,64,65,66]
              [Flow.eqV (.pointer (some ⟨g8,0,none⟩)),Flow.eqV (.slice r l.length d),Flow.eqV (.pointer (some ⟨gc,0,none⟩)),Flow.eqV (.pointer (some ⟨gc,0,none⟩)),Flow.eqV (.pointer (some ⟨gc,0,none⟩)),Flow.eqV (.slice r' c.1.length d'),Flow.eqV (.int .i64 begin),Flow.eqV (.agg #[.slice r' c.1.length d',.int .i64 begin]),rowTN w4.heap.size [.slice r' c.1.length d',.int .i64 begin],appTN Wt.heap.size (l.length+1) (cs ++ [.slice r' c.1.length d',.int .i64 begin]),Flow.eqV (.pointer (some ⟨g8,0,none⟩))] 9
              (fun _ _=>False) (by decide) (by kernel_rfl) (by kernel_rfl) (by kernel_rfl) (by kernel_rfl) (by rfl) ?_ ?_ ?_ ?_ (fun _ _ _ _ h=>h.elim) ?_
            · simp only [List.mem_cons,List.not_mem_nil,or_false,forall_eq_or_imp,forall_eq]
              refine ⟨Flow.eqV_monoR _,Flow.eqV_monoR _,Flow.eqV_monoR _,Flow.eqV_monoR _,Flow.eqV_monoR _,Flow.eqV_monoR _,Flow.eqV_monoR _,Flow.eqV_monoR _,?_,?_,Flow.eqV_monoR _⟩
              · rintro u W W' ⟨g,h1,h2,h3⟩ hb
                exact ⟨g,h1,h2,h3.below hb h3.lt⟩
              · rintro u W W' ⟨r',d',h1,h2⟩ hb
                exact ⟨r',d',h1,h2.below hb⟩
            · intro i hi
              match i,hi with
              | 0,_=>exact Flow.eqV_monoR _
              | 1,_=>exact Flow.eqV_monoR _
              | 2,_=>exact Flow.eqV_monoR _
              | 3,_=>exact Flow.eqV_monoR _
              | 4,_=>exact Flow.eqV_monoR _
              | 5,_=>exact Flow.eqV_monoR _
              | 6,_=>exact Flow.eqV_monoR _
              | 7,_=>exact Flow.eqV_monoR _
              | 8,_=>exact fun u W W' ⟨g,h1,h2,h3⟩ hk=>⟨g,h1,h2,h3.keep hk (HNF.out g h2)⟩
              | 10,_=>exact Flow.eqV_monoR _
              | n+11,_=>exact fun u W W' _ _=>trivial
            · intro i o' hi hia ho A W hW hk he
              simp only [List.length_cons,List.length_nil,Nat.zero_add,Nat.reduceAdd] at hi
              have h8:=HP4.out.at8.keep hW (HNO.out _ _ _ HP4.out.at8 (by decide))
              have q0:W.cell? ⟨g8,0,none⟩=some (.slice r l.length d):=h8.cell 0
              have l8:=h8.lt
              have hgc:=HGC.out.keep hW (HNO.out _ _ _ HGC.out (by decide))
              have c0:W.cell? ⟨gc,0,none⟩=some (.slice r' c.1.length d'):=hgc.cell 0
              have lc:=hgc.lt
              obtain rfl | rfl | rfl | rfl | rfl | rfl | rfl | rfl | rfl | rfl:i=0 \/ i=1 \/ i=2 \/ i=3 \/ i=4 \/ i=5 \/ i=6 \/ i=7 \/ i=8 \/ i=10:=by omega
              · injection ho with ho;subst ho
                have t8:A.tmps[8]?.getD undef = .pointer (some ⟨g8,0,none⟩):=hk 8 (by rfl)
                refine .inl ⟨by kernel_rfl,?_⟩
                go_simp
                exact ⟨rfl,Below.refl _ _⟩
              · injection ho with ho;subst ho
                have t56:A.tmps[56]?.getD undef = .pointer (some ⟨g8,0,none⟩):=he 0 (by decide) (by kernel_rfl)
                refine .inl ⟨by kernel_rfl,?_⟩
                go_simp
                exact ⟨rfl,Below.refl _ _⟩
              · injection ho with ho;subst ho
                have t11:A.tmps[11]?.getD undef = .pointer (some ⟨gc,0,none⟩):=hk 11 (by rfl)
                refine .inl ⟨by kernel_rfl,?_⟩
                go_simp
                exact ⟨rfl,Below.refl _ _⟩
              · injection ho with ho;subst ho
                have t58:A.tmps[58]?.getD undef = .pointer (some ⟨gc,0,none⟩):=he 2 (by decide) (by kernel_rfl)
                refine .inl ⟨by kernel_rfl,?_⟩
                go_simp
                exact ⟨rfl,Below.refl _ _⟩
              · injection ho with ho;subst ho
                have t59:A.tmps[59]?.getD undef = .pointer (some ⟨gc,0,none⟩):=he 3 (by decide) (by kernel_rfl)
                refine .inl ⟨by kernel_rfl,?_⟩
                go_simp
                exact ⟨rfl,Below.refl _ _⟩
              · injection ho with ho;subst ho
                have t60:A.tmps[60]?.getD undef = .pointer (some ⟨gc,0,none⟩):=he 4 (by decide) (by kernel_rfl)
                refine .inl ⟨by kernel_rfl,?_⟩
                go_simp
                exact ⟨rfl,Below.refl _ _⟩
              · injection ho with ho;subst ho
                have t12:A.tmps[12]?.getD undef = .int .i64 begin:=hk 12 (by rfl)
                refine .inl ⟨by kernel_rfl,?_⟩
                go_simp
                exact ⟨rfl,Below.refl _ _⟩
              · injection ho with ho;subst ho
                have t61:A.tmps[61]?.getD undef = .slice r' c.1.length d':=he 5 (by decide) (by kernel_rfl)
                have t62:A.tmps[62]?.getD undef = .int .i64 begin:=he 6 (by decide) (by kernel_rfl)
                refine .inl ⟨by kernel_rfl,?_⟩
                go_simp
                exact ⟨rfl,Below.refl _ _⟩
              · injection ho with ho;subst ho
                have t63:A.tmps[63]?.getD undef = .agg #[.slice r' c.1.length d',.int .i64 begin]:=he 7 (by decide) (by kernel_rfl)
                have hsz:=hW.size
                refine .inl ⟨by kernel_rfl,?_⟩
                go_simp
                exact ⟨⟨W.heap.size,rfl,hsz,Sits.new _ _ _⟩,(Below.refl _ _).alloc (Nat.le_refl _) _⟩
              · injection ho with ho;subst ho
                have t8:A.tmps[8]?.getD undef = .pointer (some ⟨g8,0,none⟩):=hk 8 (by rfl)
                refine .inl ⟨by kernel_rfl,?_⟩
                go_simp
                exact ⟨rfl,Below.refl _ _⟩
            · intro o' ho A W hW hk he
              injection ho with ho;subst ho
              have t57:A.tmps[57]?.getD undef = .slice r l.length d:=he 1 (by decide) (by kernel_rfl)
              obtain ⟨g64,t64,hg64,hs64⟩:rowTN w4.heap.size [.slice r' c.1.length d',.int .i64 begin] (A.tmps[64]?.getD undef) W:=he 8 (by decide) (by kernel_rfl)
              obtain ⟨r5,d5,W',hr,⟨hgr,_⟩,hbl,hc⟩:=run_append_cut2 rowTh 30 (HP4.out.cut.below hW) (Nat.le_trans HP4.out.base.size hW.size) (some ⟨g64,0,none⟩) 1 1 [.slice r' c.1.length d',.int .i64 begin] rfl (lay_new hs64 ⟨[],by simp⟩) (by intro u hu;simp at hu;rcases hu with rfl | rfl <;> rfl) (by unfold maxLen;have:=HL32.out;omega) (by have:=HL32.out;omega)
              refine ⟨by kernel_rfl,?_⟩
              have HRes:Hid (Cut2 44 2 Wt.heap.size W' r5 (l.length+1) d5 (cs ++ [.slice r' c.1.length d',.int .i64 begin])/\Keeps (Own r l.length d) W W'):=Lib.hid ⟨hc,⟨hgr.os,hgr.tape,hgr.output,hgr.size,fun b hb hn=>hgr.block b hb (fun e=>hn e.symm)⟩⟩
              clear hgr hbl hc hk he
              have e57:A.eval (.tmp 57) = .slice r l.length d:=(Flow.eval_form A 57).trans t57
              have e64:A.eval (.tmp 64) = .slice (some ⟨g64,0,none⟩) 1 1:=(Flow.eval_form A 64).trans t64
              unfold execOp
              simp only [resolve,invoke,builtin,Sem.run_bind,Sem.run_pure,Result.andThen_ok,List.map_toArray,List.map_cons,List.map_nil,e57,e64,hr]
              exact ⟨⟨r5,d5,rfl,HRes.out.1⟩,HRes.out.2⟩
            · intro xs W hW hv
              obtain ⟨r5,d5,x65,hcut⟩:∃ r5 d5,xs 9 = .slice r5 (l.length+1) d5/\Cut2 44 2 Wt.heap.size W r5 (l.length+1) d5 (cs ++ [Value.slice r' c.1.length d',Value.int .i64 begin]):=hv 9 (by decide)
              have x66:xs 10 = .pointer (some ⟨g8,0,none⟩):=hv 10 (by decide)
              have HPN:=Lib.hid (HP4.out.put (x:=(c.1,begin)) hW HLY.out HIN.out HCF.out hcut)
              have h8:=HP4.out.at8.keep hW (HNO.out _ _ _ HP4.out.at8 (by decide))
              have q0:W.cell? ⟨g8,0,none⟩=some (.slice r l.length d):=h8.cell 0
              have l8:=h8.lt
              have f8:=h8.free 0
              simp only [List.length_cons,List.length_nil,Nat.zero_add,Nat.reduceAdd,List.drop_succ_cons,List.drop_zero,Flow.putL,Act.put,List.setIfInBounds_toArray,List.set_cons_zero,List.set_cons_succ,x65,x66]
              clear hv hW hcut h8 x65 x66
              have HLN:Hid ((l ++ [(c.1,begin)]).length=k+1):=Lib.hid (by rw [List.length_append,HLK.out];rfl)
              have HTN:Hid (threadsF (checkL t) n (t.threads.take (k+1))=some (l ++ [(c.1,begin)])):=Lib.hid (by rw [HTS.out];exact threads_snoc HX.out HTK.out)
              go_wp2_with fail
              go_roundg (t.threads.length - (k+1))
              case measure=>have:=HKL.out;omega
              case rel=>exact ⟨k+1,r5,d5,l ++ [(c.1,begin)],_,HKL.out,rfl,by go_num,HTN,HLN,HPN⟩
          · rw [hf] at c1
            have HX:Hid (threadF (checkL t) n b=none):=Lib.hid (by rw [HTF.out,hf];rfl)
            have HE:Hid (unrollE t n=4):=Lib.hid (by
              rw [HUE2.out,HUT.out,HTA.out,threads_stop HX.out];rfl)
            clear hf HTF
            go_wp2_with (refine wpList_store_row rfl 33 _ _ rfl (w.heap.size+1) zeroPg rfl rfl 33 _ HP4.out.un.at4 pgSize rfl zeroPg_one ?_)
            have HPZ:=Lib.hid (HP4.out.un.put zeroPg)
            generalize w4.setRow (w.heap.size+1) zeroPg=w5 at HPZ ⊢
            go_wp2_with fail
            have r0:w5.cell? ⟨w.heap.size+1,0,none⟩=some (.slice none 0 0):=HPZ.out.at4.cell 0
            have r1:w5.cell? ⟨w.heap.size+1,1,none⟩=some (.string ⟨#[]⟩):=HPZ.out.at4.cell 1
            have r2:w5.cell? ⟨w.heap.size+1,2,none⟩=some (.slice none 0 0):=HPZ.out.at4.cell 2
            have r3:w5.cell? ⟨w.heap.size+1,3,none⟩=some (.bool false):=HPZ.out.at4.cell 3
            have r4:w5.cell? ⟨w.heap.size+1,4,none⟩=some (.pointer none):=HPZ.out.at4.cell 4
            have lr:=HPZ.out.at4.lt
            exact bodyPost_ret (v:=.tuple #[.agg zeroPg,.int .i64 4]) (by simp [results,Tryz.results9,go_sem,r0,r1,r2,r3,r4]) rfl ⟨HPZ.out.low,.inl ⟨by rw [HE.out];decide,by rw [HE.out];rfl⟩⟩
        · obtain rfl:k=t.threads.length:=by omega
          rw [List.take_length] at HTK
          have k1:¬ ((t.threads.length:Int)<(t.threads.length:Int)):=by omega
          have HTO:Hid (unrollT t n=some l):=Lib.hid (by rw [HUT.out,HTK.out])
          have HE:Hid (unrollE t n=0):=Lib.hid (by rw [HUE2.out,HTO.out];rfl)
          clear hlt hk
          have p0:wr.cell? ⟨g8,0,none⟩=some (.slice r l.length d):=HPk.out.at8.cell 0
          have p1:wr.cell? ⟨g8,1,none⟩=some (.string (str (checkL t))):=HPk.out.at8.cell 1
          have p2:wr.cell? ⟨g8,2,none⟩=some (.slice r32 n32 d32):=HPk.out.at8.cell 2
          have p3:wr.cell? ⟨g8,3,none⟩=some (.bool t.all):=HPk.out.at8.cell 3
          have p4:wr.cell? ⟨g8,4,none⟩=some (.pointer pa):=HPk.out.at8.cell 4
          have l8:=HPk.out.at8.lt
          go_wp2_with (refine wpList_store_row rfl 33 _ _ rfl (w.heap.size+1) #[.slice r l.length d,.string (str (checkL t)),.slice r32 n32 d32,.bool t.all,.pointer pa] rfl rfl 33 _ HPk.out.un.at4 pgSize rfl (pg_one _ _ _ _ _ _ _ _ _) ?_)
          have HPZ:=Lib.hid (HPk.out.un.put #[.slice r l.length d,.string (str (checkL t)),.slice r32 n32 d32,.bool t.all,.pointer pa])
          have HLT:=Lib.hid HPk.out.lt8
          have HTV:Hid (ThsV (wr.setRow (w.heap.size+1) #[.slice r l.length d,.string (str (checkL t)),.slice r32 n32 d32,.bool t.all,.pointer pa]) (.slice r l.length d) l):=Lib.hid (by
            have hk:Keeps (fun x=>x=w.heap.size+1) wr (wr.setRow (w.heap.size+1) #[.slice r l.length d,.string (str (checkL t)),.slice r32 n32 d32,.bool t.all,.pointer pa]):=keeps_row (fun x=>x=w.heap.size+1) rfl _
            have hl:=HPk.out.lt8
            have hg:=HPk.out.ge8
            refine ⟨r,d,cs,rfl,fun j u hu=>?_,(HPk.out.ths.keep hk (fun x _ hx _ e=>by omega) (stable_row HPk.out.un.at4 (by decide) _)).weak⟩
            obtain ⟨g',o',e2,hlt,hc⟩:=HPk.out.cut.lay j u hu
            have hf:=(HPk.out.cut.fresh g' o' none e2).1
            exact ⟨g',o',e2,Nat.lt_of_lt_of_le hlt hk.size,(World.cell?_of_block (a:=⟨g',o' + j,none⟩) (hk.block g' hlt (fun hx=>by omega))).trans hc⟩)
          have HUF:Hid (URow (wr.setRow (w.heap.size+1) #[.slice r l.length d,.string (str (checkL t)),.slice r32 n32 d32,.bool t.all,.pointer pa]) (.slice r32 n32 d32) (startsU t)):=Lib.hid (by
            have h1:URow wr (.slice r32 n32 d32) (startsU t):=urow_keep HUR.out HPk.out.base HUL.out.1 HUL.out.2
            have h2:=urow_ne h1 HPk.out.un.at4
            exact urow_keep (g8:=w.heap.size+1) (Wt:=wr) h2 (keeps_row (fun x=>x=w.heap.size+1 \/ wr.heap.size<=x) (.inl rfl) _) HUL.out.1 HUL.out.2)
          generalize wr.setRow (w.heap.size+1) #[.slice r l.length d,.string (str (checkL t)),.slice r32 n32 d32,.bool t.all,.pointer pa]=w5 at HPZ HTV HUF ⊢
          clear p0 p1 p2 p3 p4 l8
          go_wp2_with fail
          have r0:w5.cell? ⟨w.heap.size+1,0,none⟩=some (.slice r l.length d):=HPZ.out.at4.cell 0
          have r1:w5.cell? ⟨w.heap.size+1,1,none⟩=some (.string (str (checkL t))):=HPZ.out.at4.cell 1
          have r2:w5.cell? ⟨w.heap.size+1,2,none⟩=some (.slice r32 n32 d32):=HPZ.out.at4.cell 2
          have r3:w5.cell? ⟨w.heap.size+1,3,none⟩=some (.bool t.all):=HPZ.out.at4.cell 3
          have r4:w5.cell? ⟨w.heap.size+1,4,none⟩=some (.pointer pa):=HPZ.out.at4.cell 4
          have lr:=HPZ.out.at4.lt
          exact bodyPost_ret (v:=.tuple #[.agg #[.slice r l.length d,.string (str (checkL t)),.slice r32 n32 d32,.bool t.all,.pointer pa],.int .i64 0]) (by simp [results,Tryz.results9,go_sem,r0,r1,r2,r3,r4]) rfl ⟨HPZ.out.low,.inr ⟨l,_,_,HE.out,HTO.out,rfl,HTV.out,HUF.out⟩⟩
end Go.Proofs.YtagebkachdmnbaaGreatDoor.Unr
end
