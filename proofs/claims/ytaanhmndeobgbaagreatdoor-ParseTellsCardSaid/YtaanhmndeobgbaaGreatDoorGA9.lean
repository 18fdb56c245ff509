/- Part 10 of the proof: what is used of the texts ExprI, ExprK, ExprL, ExprM, ExprN, ExprR, ExprP. -/
import Derived.Test.YtaanhmndeobgbaaGreatDoorGA6
import Derived.Test.YtaanhmndeobgbaaGreatDoorGA7
import Derived.Test.YtaanhmndeobgbaaGreatDoorGA3
import Derived.Deep.RegionWith
import Derived.Deep.AppendLies
import Derived.Deep.DeepCutAuto
import Derived.Test.YtaanhmndeobgbaaGreatDoorGA4
import Derived.Test.YtaanhmndeobgbaaGreatDoorGA8
set_option maxRecDepth 100000
set_option maxHeartbeats 4000000
namespace Go.Proofs.YtaanhmndeobgbaaGreatDoor.Expr
open Go.RowKit Mem Go.Lib
structure Fr (B:Nat) (ts:List TypeId) (w w':World):Prop where
 low:Below B w w'
 U9:∀ t,t ∉ ts->Stable t w w'
section
variable {B : Nat} {ts us : List TypeId} {w w' w'' : World}
theorem Fr.trans (h:Fr B ts w w') (k:Fr B ts w' w''):Fr B ts w w'':=⟨h.low.trans k.low,fun t ht=>(h.U9 t ht).trans (k.U9 t ht)⟩
theorem Fr.below (h:Below w.heap.size w w') (hB:B<=w.heap.size):Fr B ts w w':=⟨h.mono hB,fun _ _=>Stable.below h⟩
theorem Fr.size (h:Fr B ts w w'):w.heap.size<=w'.heap.size:=h.low.size
end
theorem uf {w w':World} {base:Nat} {e:TypeId} {size n:Nat} {v:Value} {xs:List Value} (h:w.ownsRow base e size v n xs) (hs:Stable e w w'):w'.ownsRow base e size v n xs:=by
 refine ⟨h.1,?_⟩;rcases h.2 with h2 | ⟨g,cap,cur,rfl,hb,hh,r⟩
 ·exact .inl h2
 ·exact .inr ⟨g,cap,cur,rfl,hb,hs g cur hh,r⟩
theorem aK {w:World} {base:Nat} {e t:TypeId} {size n g:Nat} {v:Value} {xs:List Value} {cs:Array Value} (h:w.ownsRow base e size v n xs) (hg:Sits w g t cs) (hne:e≠t):v.ownBlock≠some g:=by
 rcases h.2 with ⟨rfl,_⟩ | ⟨g',cap,cur,rfl,_,hh,_⟩
 ·simp [Value.ownBlock]
 ·intro he
  have:g' = g:=by simpa [Value.ownBlock] using he
  subst this;exact Sits.differ (t:=e) hh hg hne rfl
theorem kC {w:World} {base:Nat} {e:TypeId} {size n:Nat} {v:Value} {xs:List Value} (h:w.ownsRow base e size v n xs):∃ p cap,v = .slice p n cap:=by
 rcases h.2 with ⟨rfl,rfl⟩ | ⟨g,cap,cur,rfl,_⟩
 ·exact ⟨_,_,rfl⟩
 ·exact ⟨_,_,rfl⟩
theorem MH {w:World} {base:Nat} {e:TypeId} {size n:Nat} {v:Value} {xs ys:List Value} (h:w.ownsRow base e size v (n+1) (xs ++ ys)) (hx:xs.length=n * size) :
  ∃ g cap,v = .slice (some ⟨g,0,none⟩) (n+1) cap/\n+1<=cap/\cap<=maxLen/\g<w.heap.size/\(∀ j u,ys[j]? = some u->w.cell? ⟨g,n * size+j,none⟩=some u)/\w.ownsRow base e size (.slice (some ⟨g,0,none⟩) n cap) n xs:=by
 have h':=h;rcases h.2 with ⟨_,h0⟩ | ⟨g,cap,cur,rfl,hb,hh,hc,hm,hcs,ht⟩
 ·omega
 ·refine ⟨g,cap,rfl,hc,hm,lt_of_block hh,fun j u hu=>?_,hx,.inr ⟨g,cap,cur,rfl,hb,hh,by omega,hm,hcs,?_⟩⟩
  ·have:=h'.cells (g:=g) rfl (n * size+j) u (by rw [List.getElem?_append_right (by omega),hx];rw [Nat.add_sub_cancel_left];exact hu)
   rwa [Addr.add_lit,Nat.zero_add] at this
  ·have e1:(cur.toList.take ((n+1) * size)).take (n * size)=cur.toList.take (n * size):=by
    rw [List.take_take,Nat.min_eq_left (Nat.mul_le_mul_right _ (Nat.le_succ n))]
   rw [<- e1,ht,<- hx,List.take_left']
   rfl
theorem CQ {w w':World} {base:Nat} {e t:TypeId} {size n:Nat} {v:Value} {xs:List Value} (h:w.ownsRow base e size v n xs) (hg:w.grownBy w' v.ownBlock) (hne:e≠t):Stable t w w' :=
 fun _ _ hs=>hs.grown hg (aK h hs hne)
def jE (p:List UInt8 × Nat):List Value:=[.string (str p.1),.int .i64 (p.2:Nat)]
def parts (st:List (List UInt8 × Nat)):List Value:=st.flatMap jE
theorem yS (st:List (List UInt8 × Nat)) (p:List UInt8 × Nat):parts (st ++ [p])=parts st ++ jE p:=by simp [parts]
theorem J4 (st:List (List UInt8 × Nat)):(parts st).length=st.length * 2:=by
 induction st with
 | nil=>rfl
 | cons p st ih=>simp only [parts,List.flatMap_cons,List.length_append,List.length_cons] at ih ⊢;rw [ih];simp [jE];omega
def uR (B g:Nat) (w:World) (st:List (List UInt8 × Nat)):Prop:=∃ v,Sits w g 144 #[v]/\B<=g/\w.ownsRow B 149 2 v st.length (parts st)
def MI (C B g:Nat) (w:World) (st:List (List UInt8 × Nat)):Prop:=∃ v,Sits w g 144 #[v]/\B<=g/\w.ownsRow B 149 2 v st.length (parts st)/\∀ b,v.ownBlock=some b->b<C
theorem uR.VB {B g:Nat} {w:World} {st:List (List UInt8 × Nat)} (h:uR B g w st):MI w.heap.size B g w st:=by
 obtain ⟨v,hs,hB,ho⟩:=h;exact ⟨v,hs,hB,ho,fun b e=>(ho.lt b e).2⟩
theorem MI.Pp {C B g:Nat} {w:World} {st:List (List UInt8 × Nat)} (h:MI C B g w st):uR B g w st:=by
 obtain ⟨v,hs,hB,ho,_⟩:=h;exact ⟨v,hs,hB,ho⟩
def Va:List TypeId:=[144,149]
theorem uR.keep {B C g:Nat} {w w':World} {st:List (List UInt8 × Nat)} {ts:List TypeId} (h:uR B g w st) (hf:Fr C ts w w') (h1:144 ∉ ts) (h2:149 ∉ ts):uR B g w' st:=by
 obtain ⟨v,hs,hB,ho⟩:=h;exact ⟨v,hf.U9 _ h1 _ _ hs,hB,uf ho (hf.U9 _ h2)⟩
theorem MI.keeps {C B g:Nat} {w w':World} {st:List (List UInt8 × Nat)} {X:Nat->Prop} (h:MI C B g w st) (hk:aa X w w') (h1:¬ X g) (h2:∀ b,b<C->¬ X b):MI C B g w' st:=by
 obtain ⟨v,hs,hB,ho,hc⟩:=h;refine ⟨v,hs.keep hk h1,hB,⟨ho.1,?_⟩,hc⟩;rcases ho.2 with h3 | ⟨g',cap,cur,rfl,hb,hh,r⟩
 ·exact .inl h3
 ·exact .inr ⟨g',cap,cur,rfl,hb,Sits.keep hh hk (h2 g' (hc g' rfl)),r⟩
theorem uR.below {B g:Nat} {w w':World} {st:List (List UInt8 × Nat)} (h:uR B g w st) (hb:Below w.heap.size w w'):uR B g w' st:=h.keep (Fr.below (ts:=[]) hb (Nat.le_refl _)) (by simp) (by simp)
theorem EO:(Tryz.prog.info? 149).map (fun i=>(i.zero,i.size,i.bytes))=some (some (.agg #[.string .empty,.int .i64 0]),2,24):=by kernel_rfl
theorem P8 (W:World) (p:List UInt8 × Nat):∀ j u,(jE p)[j]? = some u->((W.alloc (.cells #[.string (str p.1),.int .i64 (p.2:Nat)] 149)).drew).cell? ((⟨W.heap.size,0,none⟩:Addr).add j)=some u:=by
 intro j u hu;have:=((Sits.new W 149 #[.string (str p.1),.int .i64 (p.2:Nat)]).drew).cell j;rw [Addr.add_lit,Nat.zero_add,this];simpa [jE] using hu
theorem MJ (p:List UInt8 × Nat):∀ u ∈ jE p,u.oneCell' = true:=by
 intro u hu;simp only [jE,List.mem_cons,List.not_mem_nil,or_false] at hu
 rcases hu with rfl | rfl <;> rfl
def P9 (B g:Nat) (st:List (List UInt8 × Nat)) (w:World) (e:Ending) (w':World):Prop:=e = .returned (.tuple #[])/\uR B g w' st/\Fr B Va w w'
theorem J5 (B g:Nat) (st:List (List UInt8 × Nat)) (l:List UInt8) (k:Nat) (w:World) (hB:B<=w.heap.size) (hl:st.length<=1000) (h:uR B g w st) :
  Calls Tryz.prog 108 #[.pointer (some ⟨g,0,none⟩),.agg #[.string (str l),.int .i64 (k:Nat)]] w (P9 B g (st ++ [(l,k)]) w):=by
 obtain ⟨i0,hi,hz0,hz1,hz2⟩:=info_parts EO;have hb0:Below w.heap.size w (w.alloc (.cells #[.string (str l),.int .i64 (k:Nat)] 149)):=(Below.refl _ _).alloc (Nat.le_refl _) _;obtain ⟨v,hs0,hBg,ho0⟩:=h;have ab:v.ownBlock≠some w.heap.size:=fun e=>by have:=(ho0.lt _ e).2;omega
 have hs:=hs0.alloc (.cells #[.string (str l),.int .i64 (k:Nat)] 149);have ho:=ho0.alloc (.cells #[.string (str l),.int .i64 (k:Nat)] 149);have hbx:=Sits.new w 149 #[.string (str l),.int .i64 (k:Nat)];have HF0:=hid (Fr.below (B:=B) (ts:=Va) hb0 hB);have hwW:w.heap.size<(w.alloc (.cells #[.string (str l),.int .i64 (k:Nat)] 149)).heap.size:=by simp
 have a0y:g<w.heap.size:=hs0.lt;clear hb0 hs0 ho0;go_enter Tryz.func108,Tryz.ntmps108;go_wp2_with fail
 change Code.wp _ _ _ _ (w.alloc (.cells #[.string (str l),.int .i64 (k:Nat)] 149));generalize w.alloc (.cells #[.string (str l),.int .i64 (k:Nat)] 149)=W at hs ho hbx HF0 hwW ⊢;have c0:=hs.c0;obtain ⟨b0,b1⟩:=hbx.e2;have hBW:B<=W.heap.size:=by omega
 have hgW:g<W.heap.size:=by omega
 have f0:=hs.free 0;have af:=aK ho hs (by decide);have HS:=hid hs;have iW:=hid hbx;clear hbx hs
 go_region_law ((refine step_append_lies _ (by rfl) _ _ _ (by rfl) B 149 i0 _ 2 24 Tryz.underlying140 hi hz0 hz1 hz2 rfl (by omega) v st.length (parts st) (by rfl) ((ho.alloc _).drew) ⟨W.heap.size,0,none⟩ 1 1 [.string (str l),.int .i64 (k:Nat)] (by rfl) (by rfl) (P8 W (l,k)) (MJ (l,k)) (by omega) (by unfold maxLen;omega) (by omega) (by simp;omega) (W.heap.size+1) (by simp) ?_;intro gg cap w1 hown1 hgrow hat hlt1;have S1:=hid ((HS.out.alloc _).drew.grown hgrow af);have c1:w1.cell? ⟨g,0,none⟩=some v:=S1.out.cell 0;have f1:=S1.out.free 0;have a0z:=S1.out.lt))
 all_goals
  have HF1:Hid (Fr B Va W w1):=hid ⟨(((Below.refl B W).alloc hBW _).drew).grown hgrow (by simp;omega) (fun k hk=>(ho.lt k hk).1),fun t ht=>(Stable.below (((Below.refl _ W).alloc (Nat.le_refl _) _).drew)).trans (CQ ((ho.alloc _).drew) hgrow (fun e=>ht (by rw [<- e];decide)))⟩;have YU:=hid hown1;clear hown1 hgrow;go_wp2_with fail
  go_end0
  exact ⟨rfl,⟨_,S1.out.put 0 _,hBg,by rw [List.length_append,yS];exact uf YU.out (Stable.put S1.out (by decide) 0 _)⟩,(HF0.out.trans HF1.out).trans ⟨(Below.refl _ _).setCell hBg _,fun t ht=>Stable.put S1.out (fun e=>ht (by rw [e];decide)) 0 _⟩⟩
def Jb (C B g:Nat) (p:List UInt8 × Nat) (st:List (List UInt8 × Nat)) (w:World) (e:Ending) (w':World):Prop:=e = .returned (.agg #[.string (str p.1),.int .i64 (p.2:Nat)])/\MI C B g w' st/\Fr B Va w w' /\ aa (fun b=>b=g) w w'
theorem MK (C B g:Nat) (st:List (List UInt8 × Nat)) (l:List UInt8) (k:Nat) (w:World) (hB:B<=w.heap.size) (hl:st.length<=1000) (h:MI C B g w (st ++ [(l,k)])) :
  Calls Tryz.prog 77 #[.pointer (some ⟨g,0,none⟩)] w (Jb C B g (l,k) st w):=by
 obtain ⟨v,hs,hBg,ho,hC⟩:=h;rw [List.length_append,yS] at ho;obtain ⟨g1,cap,rfl,hc1,hc2,hlt1,hcell,ho2⟩:=MH (ys:=jE (l,k)) ho (J4 st);have c0:=hs.c0;have f0:=hs.free 0;have hlt:=hs.lt;have cx:w.cell? ⟨g1,st.length * 2,none⟩=some (.string (str l)):=by have:=hcell 0 _ rfl;simpa using this
 have cy:w.cell? ⟨g1,st.length * 2+1,none⟩=some (.int .i64 (k:Nat)):=hcell 1 _ rfl;have HS:=hid hs;have HO:=hid ho2;have HC:=hid (hC g1 rfl);have i1:(0:Int)<=(st.length:Int):=by omega
 have i2:(st.length:Int)<=1000:=by omega
 have i3:(st.length:Int)+1<=cap:=by omega
 unfold maxLen at hc2;clear hs ho ho2 hcell hC;go_enter Tryz.func77,Tryz.ntmps77;go_wp2_with fail
 go_region
 all_goals
  go_wp2_with fail
  refine bodyPost_ret (v:=.agg #[.string (str l),.int .i64 (k:Nat)]) (by simp [results,go_sem]) rfl ?_;have HS2:=HS.out.put 0 (.slice (some ⟨g1,0,none⟩) st.length cap);have hp:Fr B Va w (w.setCell ⟨g,0,none⟩ (.slice (some ⟨g1,0,none⟩) st.length cap)):=⟨(Below.refl _ _).setCell hBg _,fun t ht=>Stable.put HS.out (fun e=>ht (by rw [e];decide)) 0 _⟩
  have hk:aa (fun b=>b=g) w (w.setCell ⟨g,0,none⟩ (.slice (some ⟨g1,0,none⟩) st.length cap)):=(aa.refl (fun b=>b=g) w).put (p:=⟨g,0,none⟩) (.inl (Eq.refl g)) _;have hs0:MI C B g (w.setCell ⟨g,0,none⟩ (.slice (some ⟨g1,0,none⟩) st.length cap)) st:=⟨_,HS2,hBg,uf HO.out (Stable.put HS.out (by decide) 0 _),fun b e=>by cases e;exact HC.out⟩
  generalize w.setCell ⟨g,0,none⟩ (.slice (some ⟨g1,0,none⟩) st.length cap)=W at hs0 hp hk ⊢;have hb:=((((Below.refl W.heap.size W).alloc (Nat.le_refl _) (.cells #[.string (str l),.int .i64 (k:Nat)] 149)).alloc (by simp) (.cells #[.string (str l),.int .i64 (k:Nat)] 149)).drew)
  exact ⟨rfl,hs0.keeps (aa.of_below (X:=fun _=>False) hb) (fun h=>h) (fun _ _ h=>h),hp.trans (Fr.below hb (Nat.le_trans hB hp.size)),hk.trans (aa.of_below hb)⟩
theorem J6 (C B g:Nat) (w:World) (hB:B<=w.heap.size) (h:MI C B g w []):Calls Tryz.prog 77 #[.pointer (some ⟨g,0,none⟩)] w (Jb C B g ([],0) [] w):=by
 have HV:=hid h;obtain ⟨v,hs,hBg,ho,_⟩:=h;obtain ⟨p,cap,rfl⟩:=kC ho;have c0:=hs.c0;have hlt:=hs.lt;clear hs ho;go_enter Tryz.func77,Tryz.ntmps77;go_wp2_with fail
 refine bodyPost_ret (v:=.agg #[.string ⟨#[]⟩,.int .i64 0]) (by simp [results,go_sem]) rfl ?_;have hb:=(((Below.refl w.heap.size w).alloc (Nat.le_refl _) (.cells #[.string ⟨#[]⟩,.int .i64 0] 149)).alloc (by simp) (.cells #[.string ⟨#[]⟩,.int .i64 0] 149))
 exact ⟨rfl,HV.out.keeps (aa.of_below (X:=fun _=>False) hb) (fun h=>h) (fun _ _ h=>h),Fr.below hb hB,aa.of_below hb⟩
structure Wr (w0:World) (g:Nat) (st:List (List UInt8 × Nat)) (w:World):Prop where
 Pp:uR w0.heap.size g w st
 low:Below w0.heap.size w0 w
section
variable {w0 w w' : World} {g : Nat} {st st' : List (List UInt8 × Nat)}
theorem Wr.grown (h:Wr w0 g st w) (hb:Below w.heap.size w w'):Wr w0 g st w':=⟨h.Pp.below hb,h.low.trans (hb.mono h.low.size)⟩
theorem Wr.drew (h:Wr w0 g st w):Wr w0 g st w.drew:=h.grown (Below.refl _ _).drew
theorem Wr.put (h:Wr w0 g st w) (hs:uR w0.heap.size g w' st') (hf:Fr w0.heap.size Va w w'):Wr w0 g st' w':=⟨hs,h.low.trans hf.low⟩
theorem Wr.tabs (h:Wr w0 g st w) (hT:pE w0):pE w:=hT.below h.low
theorem Wr.lt (h:Wr w0 g st w):g<w.heap.size:=by obtain ⟨v,hs,_⟩:=h.Pp;exact hs.lt
theorem Wr.push (h:Wr w0 g st w) (l:List UInt8) (k:Nat) (hl:st.length<=1000):Calls Tryz.prog 108 #[.pointer (some ⟨g,0,none⟩),.agg #[.string (str l),.int .i64 (k:Nat)]] w (Done (Wr w0 g (st ++ [(l,k)])) w) :=
 (J5 w0.heap.size g st l k w h.low.size hl h.Pp).mono fun _ _ hp=>⟨hp.1,h.put hp.2.1 hp.2.2,hp.2.2.U9 _ (by decide)⟩
structure wu (C:Nat) (w0:World) (g:Nat) (st:List (List UInt8 × Nat)) (w:World):Prop where
 Pp:MI C w0.heap.size g w st
 low:Below w0.heap.size w0 w
theorem Wr.VB (h:Wr w0 g st w):wu w.heap.size w0 g st w:=⟨h.Pp.VB,h.low⟩
theorem wu.wr {C:Nat} (h:wu C w0 g st w):Wr w0 g st w:=⟨h.Pp.Pp,h.low⟩
theorem wu.lt {C:Nat} (h:wu C w0 g st w):g<w.heap.size:=h.wr.lt
theorem wu.keeps {C:Nat} {X:Nat->Prop} (h:wu C w0 g st w) (hk:aa X w w') (h1:¬ X g) (h2:∀ b,b<C->¬ X b) (h3:∀ b,b<w0.heap.size->¬ X b):wu C w0 g st w' :=
 ⟨h.Pp.keeps hk h1 h2,⟨hk.os.trans h.low.os,hk.tape.trans h.low.tape,hk.output.trans h.low.output,Nat.le_trans h.low.size hk.size,fun b hb=>(hk.block b (Nat.lt_of_lt_of_le hb h.low.size) (h3 b hb)).trans (h.low.block b hb)⟩⟩
theorem wu.drew {C:Nat} (h:wu C w0 g st w):wu C w0 g st w.drew:=h.keeps (X:=fun _=>False) (aa.refl _ w).drew (fun h=>h) (fun _ _ h=>h) (fun _ _ h=>h)
theorem wu.alloc {C:Nat} (h:wu C w0 g st w) (o:Obj):wu C w0 g st (w.alloc o):=h.keeps (X:=fun _=>False) ((aa.refl _ w).alloc o) (fun h=>h) (fun _ _ h=>h) (fun _ _ h=>h)
def VC (C:Nat) (w0:World) (g:Nat) (l:List UInt8) (k:Nat) (st:List (List UInt8 × Nat)) (w:World) (e:Ending) (w':World):Prop:=e = .returned (.agg #[.string (str l),.int .i64 (k:Nat)])/\wu C w0 g st w' /\ Stable 159 w w' /\ aa (fun b=>b=g) w w'
theorem wu.pop {C:Nat} {l:List UInt8} {k:Nat} (h:wu C w0 g (st ++ [(l,k)]) w) (hl:st.length<=1000):Calls Tryz.prog 77 #[.pointer (some ⟨g,0,none⟩)] w (VC C w0 g l k st w) :=
 (MK C w0.heap.size g st l k w h.low.size hl h.Pp).mono fun _ _ hp=>⟨hp.1,⟨hp.2.1,h.low.trans hp.2.2.1.low⟩,hp.2.2.1.U9 _ (by decide),hp.2.2.2⟩
theorem Wr.pop {l:List UInt8} {k:Nat} (h:Wr w0 g (st ++ [(l,k)]) w) (hl:st.length<=1000):Calls Tryz.prog 77 #[.pointer (some ⟨g,0,none⟩)] w (VC w.heap.size w0 g l k st w):=h.VB.pop hl
end
def Bl (e:Ex) (st:List (List UInt8 × Nat)):List (List UInt8 × Nat):=st ++ [(e.text,e.strong)]
theorem J7 (w0:World) (hT:pE w0) (g:Nat) (e:Ex) (hle:e.vZ=true) (ho:e.ok) (st:List (List UInt8 × Nat)) (hl:st.length<=900) (w:World) (h:Wr w0 g st w) :
  Calls Tryz.prog 75 #[.pointer (some ⟨g,0,none⟩),lK e] w (Done (Wr w0 g (Bl e st)) w):=by
 have es:e.strong=5:=by
  cases e with
  | one op a=>cases hle
  | two op a b=>cases hle
  | _=>rfl
 unfold Bl;rw [es];have HL:=hid (fun W (hW:Wr w0 g st W)=>EJ e hle ho W (hW.tabs hT));have HU:=hid (fun W (hW:Wr w0 g st W)=>hW.push e.text 5 (by omega));unfold lK aM at HL ⊢;generalize e.text=tx at HL HU ⊢;generalize jQ e=it at HL ⊢;obtain ⟨q,op,n,t,i,x⟩:=it;simp only at HL ⊢
 have hb:Below w.heap.size w (w.alloc (.cells #[.int .u8 q,.int .u8 op,.int .u64 n,.int .u8 t,.int .u8 i,.int .u8 x,.pointer none,.pointer none] 159)):=(Below.refl _ _).alloc (Nat.le_refl _) _;have H1:=hid (h.grown hb);have LP:=hid (Stable.below (t:=159) hb);have hlt:=h.lt;clear h hb es;go_enter Tryz.func75,Tryz.ntmps75;go_wp2_with fail
 go_region_with (first
  | (go_at_call 109;refine (HL.out _ H1.out.drew).mono ?_;rintro e w1 ⟨rfl,hb1⟩;have H2:=hid (H1.out.drew.grown hb1);have nC:=hid (LP.out.trans (Stable.trans (w':=World.drew _) (fun _ _ hs=>hs.drew) (Stable.below hb1)));clear hb1)
  | (go_at_call 108;refine (HU.out _ H2.out).mono ?_;rintro e w2 ⟨rfl,hw2,hs2⟩;have H3:=hid hw2;have HS2:=hid (nC.out.trans hs2);clear hw2 hs2))
 all_goals
  go_wp2_with fail
  go_end0
  exact ⟨rfl,H3.out,HS2.out⟩
theorem EP (op:Nat):ai op<=4:=by
 unfold ai
 repeat' split
 all_goals omega
theorem bT (w:World) (o:Obj):Stable 159 w (w.alloc o):=Stable.below ((Below.refl _ w).alloc (Nat.le_refl _) o)
abbrev nZ:Obj:=.cells #[.string ⟨#[]⟩,.int .i64 0] 149
def tF (w:World) (b:Nat):Prop:=Sits w b 149 #[.string ⟨#[]⟩,.int .i64 0]
theorem tF.new (w:World):tF (w.alloc nZ) w.heap.size:=Sits.new _ _ _
theorem tF.VD (w:World):tF ((w.alloc nZ).alloc nZ) (w.heap.size+1):=by
 have:=tF.new (w.alloc nZ);simpa using this
theorem tF.alloc {w:World} {b:Nat} (h:tF w b) (o:Obj):tF (w.alloc o) b:=Sits.alloc h o
theorem tF.keep {w w':World} {b g:Nat} (h:tF w b) (k:aa (fun b=>b=g) w w') (hn:g<b):tF w' b:=Sits.keep h k (fun e=>by omega)
theorem tF.facts {w:World} {b:Nat} (h:tF w b):(w.cell? ⟨b,0,none⟩=some (.string ⟨#[]⟩)/\w.cell? ⟨b,1,none⟩=some (.int .i64 0))/\w.frozen? ⟨b,0,none⟩=false/\w.frozen? ⟨b,1,none⟩=false/\b<w.heap.size:=⟨⟨Sits.cell h 0,Sits.cell h 1⟩,Sits.free h 0,Sits.free h 1,Sits.lt h⟩
theorem nE (w:World):Stable 159 w w.drew:=fun _ _ hs=>hs.drew
theorem J8 (w0:World) (hT:pE w0) (g op:Nat) (hop:op=13 \/ op=14) (ta:List UInt8) (ka:Nat) (hla:ta.length<=1000000) (st:List (List UInt8 × Nat)) (hl:st.length<=900) (w:World) (h:Wr w0 g (st ++ [(ta,ka)]) w) :
  Calls Tryz.prog 76 #[.pointer (some ⟨g,0,none⟩),.int .u8 (op:Nat)] w (Done (Wr w0 g (st ++ [(sign op ++ dG (ai op) ka ta,ai op)])) w):=by
 have Vb:=hid (oJ.2 hop);have wy:=hid (fun W (hW:pE W)=>fA op (by omega) W hW);have HST:=hid (fun W=>jR op W);have HP:=hid (fun W (hW:Wr w0 g (st ++ [(ta,ka)]) W)=>hW.pop (by omega));have la:=jD (ai op) ka ta;have ls:=uQ op;have p3:∀ W,(Op.stringOp .add (str (sign op)) (str (dG (ai op) ka ta))).run Tryz.prog W = .ok (.string (str (sign op ++ dG (ai op) ka ta))) W:=fun W=>ig _ _ (by omega) W
 have HA:=hid (fun W=>qQ ta ka (ai op) hla W);have HU:=hid (fun W (hW:Wr w0 g st W)=>hW.push (sign op ++ dG (ai op) ka ta) (ai op) (by omega));have VE:=hid (h.tabs hT);have H0:=hid h;have hlt:=h.lt;clear h la ls hT hla hop;generalize sign op ++ dG (ai op) ka ta=tr at p3 HU ⊢;generalize dG (ai op) ka ta=tb at p3 HA;generalize ai op=so at *;generalize sign op=sg at *;go_enter Tryz.func76,Tryz.ntmps76;go_wp2_with (first | (go_at_call 110;refine (wy.out _ VE.out).mono ?_;rintro e w' ⟨rfl,rfl⟩) | (go_at_call 83;refine (HST.out _).mono ?_;rintro e w' ⟨rfl,rfl⟩) | (go_at_call 111;refine (jC _ _).mono ?_;rw [Vb.out];rintro e w' ⟨rfl,rfl⟩))
 go_region_with (first
  | (go_at_call 77;refine (HP.out _ H0.out.drew).mono ?_;rintro e w1 ⟨rfl,hw1,hs1,_⟩;have H1:=hid hw1.wr;have nC:=hid ((nE w).trans hs1);clear hw1 hs1)
  | (go_at_call 112;refine (HA.out _).mono ?_;rintro e w2 ⟨rfl,hb2⟩;have H2:=hid (H1.out.grown hb2);have HS2:=hid (nC.out.trans (Stable.below hb2));clear hb2)
  | (go_at_call 108;refine (HU.out _ H2.out).mono ?_;rintro e w3 ⟨rfl,hw3,hs3⟩;have H3:=hid hw3;have qp:=hid (HS2.out.trans hs3);clear hw3 hs3))
 all_goals
  go_wp2_with fail
  go_end0
  exact ⟨rfl,H3.out,qp.out⟩
structure Fin (w0 w:World) (g:Nat) (st:List (List UInt8 × Nat)) (a b:List UInt8 × Nat) (b6 b7:Nat) (W:World):Prop where
 right:Sits W b6 149 #[.string (str b.1),.int .i64 (b.2:Nat)]
 left:Sits W b7 149 #[.string (str a.1),.int .i64 (a.2:Nat)]
 wr:Wr w0 g st W
 tree:Stable 159 w W
section
variable {w0 w w2 : World} {g : Nat} {st : List (List UInt8 × Nat)} {ta tb : List UInt8} {ka kb : Nat} {b6 b7 : Nat}
theorem Fin.grown {W W':World} {a b:List UInt8 × Nat} (h:Fin w0 w g st a b b6 b7 W) (hb:Below W.heap.size W W'):Fin w0 w g st a b b6 b7 W':=⟨h.right.below hb h.right.lt,h.left.below hb h.left.lt,h.wr.grown hb,h.tree.trans (Stable.below hb)⟩
theorem Fin.drew {W:World} {a b:List UInt8 × Nat} (h:Fin w0 w g st a b b6 b7 W):Fin w0 w g st a b b6 b7 W.drew:=h.grown (Below.refl _ _).drew
theorem Fin.facts {W:World} {a b:List UInt8 × Nat} (h:Fin w0 w g st a b b6 b7 W):(W.cell? ⟨b6,0,none⟩=some (.string (str b.1))/\W.cell? ⟨b6,1,none⟩=some (.int .i64 (b.2:Nat)))/\(W.cell? ⟨b7,0,none⟩=some (.string (str a.1))/\W.cell? ⟨b7,1,none⟩=some (.int .i64 (a.2:Nat)))/\g<W.heap.size:=⟨⟨h.right.cell 0,h.right.cell 1⟩,⟨h.left.cell 0,h.left.cell 1⟩,h.wr.lt⟩
theorem tF.put {b:Nat} (h:tF w2 b) (t:List UInt8) (k:Nat):Sits ((w2.setCell ⟨b,0,none⟩ (.string (str t))).setCell ⟨b,1,none⟩ (.int .i64 (k:Nat))) b 149 #[.string (str t),.int .i64 (k:Nat)]:=(Sits.put h 0 _).put 1 _
theorem wu.put {b:Nat} (h:wu w.heap.size w0 g st w2) (hg:g<w.heap.size) (h0:w0.heap.size<=w.heap.size) (hb:w.heap.size<=b) (u v:Value):wu w.heap.size w0 g st ((w2.setCell ⟨b,0,none⟩ u).setCell ⟨b,1,none⟩ v) :=
 h.keeps (X:=fun x=>x=b) (((aa.refl (fun x=>x=b) w2).put (p:=⟨b,0,none⟩) (.inl (Eq.refl b)) u).put (p:=⟨b,1,none⟩) (.inl (Eq.refl b)) v) (fun e=>by omega) (fun x hx e=>by omega) (fun x hx e=>by omega)
theorem uS {b:Nat} {cs:Array Value} (hs:Sits w2 b 149 cs) (u v:Value):Stable 159 w2 ((w2.setCell ⟨b,0,none⟩ u).setCell ⟨b,1,none⟩ v) :=
 (Stable.put hs (by decide) 0 u).trans (Stable.put (hs.put 0 u) (by decide) 1 v)
theorem Fin.YV (h:wu w.heap.size w0 g st w2) (hs:Stable 159 w w2):Fin w0 w g st (ta,ka) (tb,kb) w2.heap.size (w2.heap.size+1) ((w2.alloc (.cells #[.string (str tb),.int .i64 (kb:Nat)] 149)).alloc (.cells #[.string (str ta),.int .i64 (ka:Nat)] 149)) :=
 ⟨(Sits.new _ _ _).alloc _,Sits.made (by simp) _ _,((h.alloc _).alloc _).wr,(hs.trans (bT _ _)).trans (bT _ _)⟩
theorem Fin.YW (h:wu w.heap.size w0 g st w2) (hs:Stable 159 w w2):Fin w0 w g st (ta,ka) (tb,kb) (w2.heap.size+1) w2.heap.size ((w2.alloc (.cells #[.string (str ta),.int .i64 (ka:Nat)] 149)).alloc (.cells #[.string (str tb),.int .i64 (kb:Nat)] 149)) :=
 ⟨Sits.made (by simp) _ _,(Sits.new _ _ _).alloc _,((h.alloc _).alloc _).wr,(hs.trans (bT _ _)).trans (bT _ _)⟩
theorem Fin.YX (h:wu w.heap.size w0 g st w2) (hs:Stable 159 w w2) (hg:g<w.heap.size) (h0:w0.heap.size<=w.heap.size) (z:tF w2 b6) (hb:w.heap.size<=b6):Fin w0 w g st (ta,ka) (tb,kb) b6 w2.heap.size (((w2.setCell ⟨b6,0,none⟩ (.string (str tb))).setCell ⟨b6,1,none⟩ (.int .i64 (kb:Nat))).alloc (.cells #[.string (str ta),.int .i64 (ka:Nat)] 149)) :=
 ⟨(z.put tb kb).alloc _,Sits.made (by simp [World.setCell]) _ _,((h.put hg h0 hb _ _).alloc _).wr,(hs.trans (uS z _ _)).trans (bT _ _)⟩
theorem Fin.YY (h:wu w.heap.size w0 g st w2) (hs:Stable 159 w w2) (hg:g<w.heap.size) (h0:w0.heap.size<=w.heap.size) (z:tF w2 b7) (hb:w.heap.size<=b7):Fin w0 w g st (ta,ka) (tb,kb) w2.heap.size b7 (((w2.setCell ⟨b7,0,none⟩ (.string (str ta))).setCell ⟨b7,1,none⟩ (.int .i64 (ka:Nat))).alloc (.cells #[.string (str tb),.int .i64 (kb:Nat)] 149)) :=
 ⟨Sits.made (by simp [World.setCell]) _ _,(z.put ta ka).alloc _,((h.put hg h0 hb _ _).alloc _).wr,(hs.trans (uS z _ _)).trans (bT _ _)⟩
theorem Fin.VF (h:wu w.heap.size w0 g st w2) (hs:Stable 159 w w2) (hg:g<w.heap.size) (h0:w0.heap.size<=w.heap.size) (z6:tF w2 b6) (z7:tF w2 b7) (hb:w.heap.size<=b6) (hb':w.heap.size<=b7) (hne:b6≠b7):Fin w0 w g st (ta,ka) (tb,kb) b6 b7 ((((w2.setCell ⟨b6,0,none⟩ (.string (str tb))).setCell ⟨b6,1,none⟩ (.int .i64 (kb:Nat))).setCell ⟨b7,0,none⟩ (.string (str ta))).setCell ⟨b7,1,none⟩ (.int .i64 (ka:Nat))):=by
 have z7':tF ((w2.setCell ⟨b6,0,none⟩ (.string (str tb))).setCell ⟨b6,1,none⟩ (.int .i64 (kb:Nat))) b7:=(Sits.far z7 (p:=⟨b6,0,none⟩) (Ne.symm hne) _).far (p:=⟨b6,1,none⟩) (Ne.symm hne) _;exact ⟨((z6.put tb kb).far (p:=⟨b7,0,none⟩) hne _).far (p:=⟨b7,1,none⟩) hne _,z7'.put ta ka,((h.put hg h0 hb _ _).put hg h0 hb' _ _).wr,(hs.trans (uS z6 _ _)).trans (uS z7' _ _)⟩
end
theorem J9 (w0:World) (hT:pE w0) (g op:Nat) (h1:1<=op) (h2:op<=12) (ta tb:List UInt8) (ka kb:Nat) (hla:ta.length<=1000000) (hlb:tb.length<=1000000) (st:List (List UInt8 × Nat)) (hl:st.length<=900) (w:World) (h:Wr w0 g (st ++ [(ta,ka)] ++ [(tb,kb)]) w) :
  Calls Tryz.prog 76 #[.pointer (some ⟨g,0,none⟩),.int .u8 (op:Nat)] w (Done (Wr w0 g (st ++ [(dG (ai op) ka ta ++ [32] ++ sign op ++ [32] ++ dG (ai op+1) kb tb,ai op)])) w):=by
 have Vb:=hid (jB.2 ⟨h1,h2⟩);have wy:=hid (fun W (hW:pE W)=>fA op (by omega) W hW);have HST:=hid (fun W=>jR op W);have F8:=hid (fun W (hW:wu w.heap.size w0 g (st ++ [(ta,ka)] ++ [(tb,kb)]) W)=>hW.pop (by simp;omega));have ML:=hid (fun W (hW:wu w.heap.size w0 g (st ++ [(ta,ka)]) W)=>hW.pop (by omega));have lA:=jD (ai op) ka ta;have lB:=jD (ai op+1) kb tb;have ls:=uQ op;have HA:=hid (fun W=>qQ ta ka (ai op) hla W);have HB:=hid (fun W=>show Calls Tryz.prog 112 #[.agg #[.string (str tb),.int .i64 kb],.int .i64 ((ai op:Int)+1)] W fun e' w'=>Made (.returned (.string (str (dG (ai op+1) kb tb)))) W e' w' from qQ tb kb (ai op+1) hlb W);have hso:=EP op;generalize dG (ai op) ka ta=A at HA lA ⊢;generalize dG (ai op+1) kb tb=Bt at HB lB ⊢;have s1:∀ W,(Op.stringOp .add (str A) ⟨#[32]⟩).run Tryz.prog W = .ok (.string (str (A ++ [32]))) W:=fun W=>ig A [32] (by simp;omega) W
 obtain ⟨L1,e1⟩:∃ L,L=A ++ [32]:=⟨_,rfl⟩
 have l1:L1.length<=1000003:=by rw [e1];simp;omega
 rw [<- e1] at s1 ⊢;have s2:∀ W,(Op.stringOp .add (str L1) (str (sign op))).run Tryz.prog W = .ok (.string (str (L1 ++ sign op))) W:=fun W=>ig L1 (sign op) (by omega) W
 obtain ⟨L2,e2⟩:∃ L,L=L1 ++ sign op:=⟨_,rfl⟩
 have l2:L2.length<=1000005:=by rw [e2];simp;omega
 rw [<- e2] at s2 ⊢;have s3:∀ W,(Op.stringOp .add (str L2) ⟨#[32]⟩).run Tryz.prog W = .ok (.string (str (L2 ++ [32]))) W:=fun W=>ig L2 [32] (by simp;omega) W
 obtain ⟨L3,e3⟩:∃ L,L=L2 ++ [32]:=⟨_,rfl⟩
 have l3:L3.length<=1000006:=by rw [e3];simp;omega
 rw [<- e3] at s3 ⊢;have s4:∀ W,(Op.stringOp .add (str L3) (str Bt)).run Tryz.prog W = .ok (.string (str (L3 ++ Bt))) W:=fun W=>ig L3 Bt (by omega) W
 obtain ⟨L4,e4⟩:∃ L,L=L3 ++ Bt:=⟨_,rfl⟩
 rw [<- e4] at s4 ⊢;have HU:=hid (fun W (hW:Wr w0 g st W)=>hW.push L4 (ai op) (by omega));have VE:=hid (h.tabs hT);have H0:=hid h.VB;have hg0:w0.heap.size<=w.heap.size:=h.low.size;have hlt:=h.lt;clear h hT hla hlb e1 e2 e3 e4 l1 l2 l3 lA lB ls h1 h2;generalize ai op=so at *;generalize sign op=sg at *;have hw:IntKind.i64.wrap ((so:Int)+1)=(so:Int)+1:=IntWalk.i64_in _ (by omega);go_enter Tryz.func76,Tryz.ntmps76;go_wp2_with (first | (go_at_call 110;refine (wy.out _ VE.out).mono ?_;rintro e w' ⟨rfl,rfl⟩) | (go_at_call 83;refine (HST.out _).mono ?_;rintro e w' ⟨rfl,rfl⟩) | (go_at_call 111;refine (jC _ _).mono ?_;rw [Vb.out];rintro e w' ⟨rfl,rfl⟩))
 go_upto_region 3 with fail
 go_cut [6,7] (fun s6 s7 wx=>∃ b6 b7,s6 = .pointer (some ⟨b6,0,none⟩)/\s7 = .pointer (some ⟨b7,0,none⟩)/\Fin w0 w g st (ta,ka) (tb,kb) b6 b7 wx)
 case first =>
  go_region_with (first
   | (go_at_call 77;refine (F8.out (World.drew w) H0.out.drew).mono ?_;rintro e w1 ⟨rfl,hw1,hs1,hk1⟩;have H1:=hid hw1;have nC:=hid ((nE w).trans hs1);have hl1:w.heap.size+0<=w1.heap.size:=(by have:=hk1.size;simpa using this);have Ka:g<w1.heap.size:=H1.out.lt;clear hw1 hs1 hk1 H0)
   | (go_at_call 77;refine (F8.out (World.alloc (World.drew w) nZ) (H0.out.drew.alloc _)).mono ?_;rintro e w1 ⟨rfl,hw1,hs1,hk1⟩;have H1:=hid hw1;have nC:=hid (((nE w).trans (bT _ nZ)).trans hs1);have XA:Hid (tF w1 w.heap.size):=hid ((tF.new (World.drew w)).keep hk1 hlt);have hl1:w.heap.size+1<=w1.heap.size:=(by have:=hk1.size;simpa using this);have Ka:g<w1.heap.size:=H1.out.lt;clear hw1 hs1 hk1 H0)
   | (go_at_call 77;refine (F8.out (World.alloc (World.alloc (World.drew w) nZ) nZ) ((H0.out.drew.alloc _).alloc _)).mono ?_;rintro e w1 ⟨rfl,hw1,hs1,hk1⟩;have H1:=hid hw1;have nC:=hid ((((nE w).trans (bT _ nZ)).trans (bT _ nZ)).trans hs1);have XA:Hid (tF w1 w.heap.size):=hid (((tF.new (World.drew w)).alloc nZ).keep hk1 hlt);have XB:Hid (tF w1 (w.heap.size+1)):=hid (((tF.VD (World.drew w))).keep hk1 (Nat.lt_succ_of_lt hlt));have hl1:w.heap.size+2<=w1.heap.size:=(by have:=hk1.size;simpa using this);have Ka:g<w1.heap.size:=H1.out.lt;clear hw1 hs1 hk1 H0)
   | (go_at_call 77;(fail_if_success (have:=XA));refine (ML.out w1 H1.out).mono ?_;rintro e w2 ⟨rfl,hw2,hs2,hk2⟩;have H2:=hid hw2;have HS2:=hid (nC.out.trans hs2);have hl2:w1.heap.size+0<=w2.heap.size:=(by have:=hk2.size;simpa using this);have MM:g<w2.heap.size:=H2.out.lt;clear hw2 hs2 hk2)
   | (go_at_call 77;(fail_if_success (have:=XA));refine (ML.out (World.alloc w1 nZ) (H1.out.alloc _)).mono ?_;rintro e w2 ⟨rfl,hw2,hs2,hk2⟩;have H2:=hid hw2;have HS2:=hid ((nC.out.trans (bT _ nZ)).trans hs2);have hl2:w1.heap.size+1<=w2.heap.size:=(by have:=hk2.size;simpa using this);have Ya:=((tF.new w1).keep hk2 Ka);obtain ⟨⟨XT,XU⟩,XV,XW,la⟩:=Ya.facts;have RY:=hid Ya;clear Ya;have MM:g<w2.heap.size:=H2.out.lt;clear hw2 hs2 hk2)
   | (go_at_call 77;(fail_if_success (have:=XA));refine (ML.out (World.alloc (World.alloc w1 nZ) nZ) ((H1.out.alloc _).alloc _)).mono ?_;rintro e w2 ⟨rfl,hw2,hs2,hk2⟩;have H2:=hid hw2;have HS2:=hid (((nC.out.trans (bT _ nZ)).trans (bT _ nZ)).trans hs2);have hl2:w1.heap.size+2<=w2.heap.size:=(by have:=hk2.size;simpa using this);have Ya:=((tF.alloc (tF.new w1) nZ).keep hk2 Ka);obtain ⟨⟨XT,XU⟩,XV,XW,la⟩:=Ya.facts;have RY:=hid Ya;clear Ya;have Yb:=((tF.VD w1).keep hk2 (Nat.lt_succ_of_lt Ka));obtain ⟨⟨yb0,yb1⟩,zb0,zb1,lb⟩:=Yb.facts;have XX:=hid Yb;clear Yb;have MM:g<w2.heap.size:=H2.out.lt;clear hw2 hs2 hk2)
   | (go_at_call 77;have VG:=XA.out;(fail_if_success (have:=XB));refine (ML.out w1 H1.out).mono ?_;rintro e w2 ⟨rfl,hw2,hs2,hk2⟩;have H2:=hid hw2;have HS2:=hid (nC.out.trans hs2);have hl2:w1.heap.size+0<=w2.heap.size:=(by have:=hk2.size;simpa using this);have Ya:=(VG.keep hk2 hlt);obtain ⟨⟨XT,XU⟩,XV,XW,la⟩:=Ya.facts;have RY:=hid Ya;clear Ya;have MM:g<w2.heap.size:=H2.out.lt;clear hw2 hs2 hk2)
   | (go_at_call 77;have VG:=XA.out;(fail_if_success (have:=XB));refine (ML.out (World.alloc w1 nZ) (H1.out.alloc _)).mono ?_;rintro e w2 ⟨rfl,hw2,hs2,hk2⟩;have H2:=hid hw2;have HS2:=hid ((nC.out.trans (bT _ nZ)).trans hs2);have hl2:w1.heap.size+1<=w2.heap.size:=(by have:=hk2.size;simpa using this);have Ya:=((tF.alloc VG nZ).keep hk2 hlt);obtain ⟨⟨XT,XU⟩,XV,XW,la⟩:=Ya.facts;have RY:=hid Ya;clear Ya;have Yb:=((tF.new w1).keep hk2 Ka);obtain ⟨⟨yb0,yb1⟩,zb0,zb1,lb⟩:=Yb.facts;have XX:=hid Yb;clear Yb;have MM:g<w2.heap.size:=H2.out.lt;clear hw2 hs2 hk2)
   | (go_at_call 77;have VG:=XA.out;have XB':=XB.out;refine (ML.out w1 H1.out).mono ?_;rintro e w2 ⟨rfl,hw2,hs2,hk2⟩;have H2:=hid hw2;have HS2:=hid (nC.out.trans hs2);have hl2:w1.heap.size+0<=w2.heap.size:=(by have:=hk2.size;simpa using this);have Ya:=(VG.keep hk2 hlt);obtain ⟨⟨XT,XU⟩,XV,XW,la⟩:=Ya.facts;have RY:=hid Ya;clear Ya;have Yb:=(XB'.keep hk2 (Nat.lt_succ_of_lt hlt));obtain ⟨⟨yb0,yb1⟩,zb0,zb1,lb⟩:=Yb.facts;have XX:=hid Yb;clear Yb;have MM:g<w2.heap.size:=H2.out.lt;clear hw2 hs2 hk2))
  all_goals
   go_wp2_with fail
   go_meet
   first
    | exact ⟨_,_,rfl,rfl,Fin.YV H2.out HS2.out⟩
    | exact ⟨_,_,rfl,rfl,Fin.YW H2.out HS2.out⟩
    | exact ⟨_,_,rfl,rfl,Fin.YX H2.out HS2.out hlt hg0 RY.out (by omega)⟩
    | exact ⟨_,_,rfl,rfl,Fin.YY H2.out HS2.out hlt hg0 RY.out (by omega)⟩
    | exact ⟨_,_,rfl,rfl,Fin.VF H2.out HS2.out hlt hg0 RY.out XX.out (by omega) (by omega) (by omega)⟩
    | exact ⟨_,_,rfl,rfl,Fin.VF H2.out HS2.out hlt hg0 XX.out RY.out (by omega) (by omega) (by omega)⟩
 case rest =>
  obtain ⟨b6,b7,rfl,rfl,hfin⟩:=hcut;obtain ⟨⟨p00,p01⟩,⟨q00,q01⟩,r0⟩:=hfin.facts;have F0:=hid hfin;clear hfin;go_wp2_with fail
  go_region_with (first
   | (go_at_call 112;(fail_if_success (have:=F1));have F:=F0.out.drew;(with_reducible refine (HA.out _).mono ?_);rintro e v1 ⟨rfl,hb1⟩;have G:=F.grown hb1;obtain ⟨⟨p10,p11⟩,⟨q10,q11⟩,r1⟩:=G.facts;have F1:=hid G;clear F G hb1)
   | (go_at_call 112;(fail_if_success (have:=F1));have F:=F0.out.drew;(with_reducible refine (HB.out _).mono ?_);rintro e v1 ⟨rfl,hb1⟩;have G:=F.grown hb1;obtain ⟨⟨p10,p11⟩,⟨q10,q11⟩,r1⟩:=G.facts;have F1:=hid G;clear F G hb1)
   | (go_at_call 112;have F:=F1.out;(with_reducible refine (HA.out _).mono ?_);rintro e v2 ⟨rfl,hb2⟩;have G:=F.grown hb2;obtain ⟨⟨p20,p21⟩,⟨q20,q21⟩,r2⟩:=G.facts;have F2:=hid G;clear F G hb2)
   | (go_at_call 112;have F:=F1.out;(with_reducible refine (HB.out _).mono ?_);rintro e v2 ⟨rfl,hb2⟩;have G:=F.grown hb2;obtain ⟨⟨p20,p21⟩,⟨q20,q21⟩,r2⟩:=G.facts;have F2:=hid G;clear F G hb2)
   | (go_at_call 108;refine (HU.out _ F2.out.wr).mono ?_;rintro e w3 ⟨rfl,hw3,hs3⟩;have H3:=hid hw3;have qp:=hid (F2.out.tree.trans hs3);clear hw3 hs3))
  all_goals
   go_wp2_with fail
   go_end0
   exact ⟨rfl,H3.out,qp.out⟩
theorem CR:Enters 75:=enters_of Tryz.func75 (by kernel_rfl) rfl
theorem CS:Enters 76:=enters_of Tryz.func76 (by kernel_rfl) rfl
theorem GA (w0:World) (hT:pE w0) (g:Nat):Ja (σ:=List (List UInt8 × Nat)) 75 76 #[.pointer (some ⟨g,0,none⟩)] #[] #[.pointer (some ⟨g,0,none⟩)] #[] Bl
  (fun s w=>Wr w0 g s w) (fun s e=>s.length+e.depth<=100/\e.depth<=12) where
 e1:=CR
 e2:=CS
 leaf:=fun e s w hle ho hb h=>J7 w0 hT g e hle ho s (by omega) w h
 one:=fun op a s w hop ho hb h=>by
  simp only [Ex.depth] at hb
  exact J8 w0 hT g op hop a.text a.strong (by have:=pJ a ho (by omega);omega) s (by omega) w h
 two:=fun op a b s w h1 h2 hoa hob hb h=>by
  simp only [Ex.depth] at hb
  exact J9 w0 hT g op h1 h2 a.text b.text a.strong b.strong (by have:=pJ a hoa (by omega);omega) (by have:=pJ b hob (by omega);omega) s (by omega) w h
 RV:=fun op a s hb=>by simp only [Ex.depth] at hb;omega
 RX:=fun op a b s hb=>by simp only [Ex.depth,Bl,List.length_append,List.length_singleton] at hb ⊢;omega
theorem tH (a b:Value) (W:World):(Instr.field 149 (.agg #[a,b]) 0).run Tryz.prog W = .ok a W:=by kernel_rfl
theorem xH (w:World):Below w.heap.size w (w.alloc (.cells #[.slice none 0 0] 144)):=(Below.refl _ _).alloc (Nat.le_refl _) _
theorem xI (w:World):uR w.heap.size w.heap.size (w.alloc (.cells #[.slice none 0 0] 144)) []:=⟨_,Sits.new _ _ _,Nat.le_refl _,World.ownsRow_nil _ _ _ _⟩
theorem bI (e:Ex) (ho:e.ok) (hd:e.depth<=12) (v:Value) (w:World) (hX:pE w) (hT:Tree w (bA e) v) :
  Calls Tryz.prog 32 #[v] w fun e' w'=>Made (.returned (.string (str e.text))) w e' w':=by
 have hb:=xH w;have hI:Wr w w.heap.size [] (w.alloc (.cells #[.slice none 0 0] 144)):=⟨xI w,hb⟩
 have HW:=hid (MF (GA w hX w.heap.size) (fun s w w' h hb=>h.grown hb) e [] v _ ho hd ⟨by simp only [List.length_nil];omega,hd⟩ (hT.below hb) hI);have HP:=hid (fun W (h:Wr w w.heap.size (Bl e []) W)=>(show Wr w w.heap.size ([] ++ [(e.text,e.strong)]) W from h).pop (by simp));obtain ⟨p,rfl,_⟩:=hT.ptr;clear hb hI hT hX;generalize e.text=tx at *;generalize e.strong=es at *;generalize Bl e []=s2 at HP HW;have hfd:=tH;go_enter Tryz.func32,Tryz.ntmps32;go_wp2_with fail
 change Calls _ _ _ (World.alloc w _) _;generalize w.alloc (.cells #[.slice none 0 0] 144)=W at HW ⊢;refine HW.out.mono ?_;rintro e w1 ⟨rfl,hr,_⟩;have HR:=hid hr;have hlt:=hr.lt;clear hr;go_wp2_with fail
 refine (HP.out _ HR.out).mono ?_;rintro e w2 ⟨rfl,hq,_⟩;have HQ:=hid hq.low;clear hq;go_wp2_with fail
 go_ret;exact ⟨rfl,HQ.out⟩
theorem MN (t:Tr) (v:Value) (w:World) (hT:Tree w t v) (hf:bC t 12=false):Calls Tryz.prog 32 #[v] w fun e' w'=>Made (.returned (.string ⟨#[]⟩)) w e' w':=by
 have hb:=xH w;have HW:=hid (fun x y=>ME t x y v (w.alloc (.cells #[.slice none 0 0] 144)) (hT.below hb) hf);have HS:=hid (xI w);have HB:=hid hb;obtain ⟨p,rfl,_⟩:=hT.ptr;have hz:(w.alloc (.cells #[.slice none 0 0] 144)).heap.size=w.heap.size+1:=by simp
 have HZ:=hid hz;clear hT hf hb hz;have hfd:=tH;go_enter Tryz.func32,Tryz.ntmps32;go_wp2_with fail
 change Calls _ _ _ (World.alloc w _) _;generalize w.alloc (.cells #[.slice none 0 0] 144)=W at HW HS HB HZ ⊢;refine (HW.out _ _).mono ?_;rintro e w1 ⟨rfl,hb⟩;have nC:=hid (HS.out.below hb).VB;have hlt:w.heap.size<w1.heap.size:=by have:=hb.size;have:=HZ.out;omega
 have HB1:=hid (HB.out.trans (hb.mono HB.out.size));clear hb HZ;go_wp2_with fail
 refine (J6 _ _ _ _ (Nat.le_of_lt hlt) nC.out).mono ?_;rintro e w2 ⟨rfl,_,hfr,_⟩;have HB2:=hid (HB1.out.trans hfr.low);clear hfr;go_wp2_with fail
 go_ret;exact ⟨rfl,HB2.out⟩
def at_ (g:Nat):Value:=.pointer (some ⟨g,0,none⟩)
theorem Kb (l:List It):(∃ z,EN (qU l) = .tuple #[.int .i64 z,.bool false]/\∀ e m,Sp l 0 e m->12<e.depth) \/ ∃ e m,Sp l 0 e m/\e.depth<=12/\EN (qU l) = .tuple #[.int .i64 (m:Nat),.bool true]:=by
 have hsp:∀ e m,Sp l 0 e m->qU l=some (m,e.depth):=fun e m h=>I6 h _ (by omega)
 cases h:qU l with
 | none =>
  refine .inl ⟨-1,rfl,fun e m hs=>?_⟩;have:=hsp e m hs;rw [h] at this;cases this
 | some p =>
  obtain ⟨m,d⟩:=p;obtain ⟨e,hs,rfl⟩:=I5 _ _ _ _ h;by_cases hd:e.depth<=12
  ·exact .inr ⟨e,m,hs,hd,by simp [EN,hd]⟩
  ·refine .inl ⟨m,by simp [EN,hd],fun e' m' hs'=>?_⟩
   obtain ⟨rfl,_⟩:=hs.CG hs';omega
theorem Qa {l:List It} {e:Ex} {m:Nat} (hs:Sp l 0 e m) (hd:e.depth<=12) (v:Value) (w:World) (hv:Row w v l) :
  Calls Tryz.prog 65 #[v,.int .i64 0,.int .i64 20] w fun e' w'=>∃ p,e' = .returned (.tuple #[.pointer p,.int .i64 (m:Nat)])/\Tree w' (bA e) (.pointer p)/\Below w.heap.size w w':=by
 refine Calls.mono (show Calls _ _ #[v,.int .i64 0,.int .i64 20] _ _ from pI l 20 0 v w (by omega) hv) ?_;rintro e' w' ⟨p,rfl,ht,hb⟩;rw [hs.made 20 (by omega)] at ht ⊢;obtain ⟨q,rfl,_⟩:=ht.tree.ptr;exact ⟨q,rfl,ht.tree,hb⟩
end Go.Proofs.YtaanhmndeobgbaaGreatDoor.Expr
namespace Go.Proofs.YtaanhmndeobgbaaGreatDoor.Expr
open Go.RowKit Go.ChangeShapes Go.WideShapes Go.ChangeAt Card
theorem own:ownKnob Tryz.prog.godebug=none:=by kernel_rfl
theorem MO : Tryz.prog.globalNamed "troth/num.texts" = some 2 := by kernel_rfl
theorem GD:(Tryz.prog.globals[2]?).map (·.type)=some 210:=by kernel_rfl
theorem YZ : Tryz.prog.globalNamed "internal/strconv.uint64pow10" = some 1 := by kernel_rfl
theorem MP:(Tryz.prog.globals[1]?).map (·.type)=some 207:=by kernel_rfl
theorem GG {w : World} (h : Num.Bi Tryz.prog w "troth/num.texts" Num.texts) : Num.rU w := by
 have hc:=fun (i:Nat) (hi:i<15)=>h.cell MO i (by simpa [Num.texts] using hi)
 refine ⟨?_,hc⟩;have h0:=hc 0 (by omega);apply Nat.lt_of_not_le;intro hle;have hn:w.heap[2]? = none:=Array.getElem?_eq_none hle;simp [World.cell?,hn] at h0
end Go.Proofs.YtaanhmndeobgbaaGreatDoor.Expr
