/- Part 27 of the proof: what is used of the texts StmE, StmH. -/
import Derived.Test.YtbkdappgmcebaaaGreatDoorKC5
import Derived.Test.YtbkdappgmcebaaaGreatDoorKB8
section
namespace Go.Proofs.YtbkdappgmcebaaaGreatDoor.Prog
open Go.RowKit Go.Proofs.YtbkdappgmcebaaaGreatDoor.Mem Go.Proofs.YtbkdappgmcebaaaGreatDoor.Expr Go.Proofs.YtbkdappgmcebaaaGreatDoor.Flow Go.Lib
def initCell (i:Nat × Nat):List Value:=[.int .u8 i.1,.int .u64 i.2]
def Inits (w:World) (v:Value) (l:List (Nat × Nat)):Prop:=RowAt any_ w v l.length (l.flatMap initCell)
def Threads (w:World) (v:Value) (bs:List Blk):Prop:=∃ vs:List Value,RowAt any_ w v bs.length vs/\vs.length=bs.length/\∀ (i:Nat) (b:Blk) (u:Value),bs[i]? = some b->vs[i]? = some u->Stand any_ w b u
def testAgg (vi vt:Value) (all:Bool) (va:Value):Value:=.agg #[vi,vt,.bool all,va]
structure TestV (w:World) (t:Ts) (vi vt va:Value):Prop where
  init:Inits w vi t.init
  threads:Threads w vt t.threads
  ask:Tree w (trO t.ask) va
structure Ts.small (t:Ts):Prop where
  init:t.init.length<=1000
  each:∀ i ∈ t.init,i.1<256/\i.2<18446744073709551616
  threads:t.threads.length<=1000
  fine:∀ b ∈ t.threads,b.fine/\b.size<=10000
  ask:okO t.ask
section
variable {w w' : World} {v : Value}
theorem Inits.below {l:List (Nat × Nat)} (h:Inits w v l) (hb:Below w.heap.size w w'):Inits w' v l:=RowAt.below h hb
theorem Threads.below {bs:List Blk} (h:Threads w v bs) (hb:Below w.heap.size w w'):Threads w' v bs:=by
  obtain ⟨vs,h1,h2,h3⟩:=h
  exact ⟨vs,h1.below hb,h2,fun i b u hi hu=>(h3 i b u hi hu).below hb⟩
theorem TestV.below {t:Ts} {vi vt va:Value} (h:TestV w t vi vt va) (hb:Below w.heap.size w w'):TestV w' t vi vt va:=⟨h.init.below hb,h.threads.below hb,h.ask.below hb⟩
theorem initCells_at:∀ (l:List (Nat × Nat)) (k:Nat) (i:Nat × Nat),l[k]? = some i->(l.flatMap initCell)[k * 2]? = some (.int .u8 i.1)/\(l.flatMap initCell)[k * 2+1]? = some (.int .u64 i.2):=by
  intro l
  induction l with
  | nil=>intro k i h;simp at h
  | cons x l ih =>
    intro k i h
    cases k with
    | zero=>simp at h;subst h;exact ⟨rfl,rfl⟩
    | succ k =>
      have:=ih k i (by simpa using h)
      refine ⟨?_,?_⟩
      · rw [show (k+1) * 2=k * 2+2 by omega];simpa [initCell] using this.1
      · rw [show (k+1) * 2+1=(k * 2+1)+2 by omega];simpa [initCell] using this.2
theorem Inits.at {l:List (Nat × Nat)} (h:Inits w v l) {k:Nat} {i:Nat × Nat} (hk:l[k]? = some i):∃ g o cap,v = .slice (some ⟨g,o,none⟩) l.length cap/\w.cell? ⟨g,o+k * 2,none⟩=some (.int .u8 i.1)/\w.cell? ⟨g,o+k * 2+1,none⟩=some (.int .u64 i.2):=by
  rcases h with ⟨h0,_⟩ | ⟨g,o,cap,hv,_,_,hc⟩
  · have:=(List.getElem?_eq_some_iff.1 hk).1;omega
  · have h2:=initCells_at l k i hk
    exact ⟨g,o,cap,hv,hc _ _ h2.1,by rw [Nat.add_assoc];exact hc _ _ h2.2⟩
theorem Threads.at {bs:List Blk} (h:Threads w v bs) {k:Nat} {b:Blk} (hk:bs[k]? = some b):∃ g o cap u,v = .slice (some ⟨g,o,none⟩) bs.length cap/\w.cell? ⟨g,o+k,none⟩=some u/\Stand any_ w b u:=by
  obtain ⟨vs,h1,h2,h3⟩:=h
  have hlt:=(List.getElem?_eq_some_iff.1 hk).1
  have hu:vs[k]? = some vs[k]:=List.getElem?_eq_getElem (by omega)
  rcases h1 with ⟨h0,_⟩ | ⟨g,o,cap,hv,_,_,hc⟩
  · omega
  · exact ⟨g,o,cap,_,hv,hc _ _ hu,h3 k b _ hk hu⟩
theorem Threads.len {bs:List Blk} (h:Threads w v bs):∃ p cap,v = .slice p bs.length cap:=by
  obtain ⟨vs,h1,_⟩:=h
  obtain ⟨p,cap,hv,_⟩:=h1.len
  exact ⟨p,cap,hv⟩
theorem Inits.len {l:List (Nat × Nat)} (h:Inits w v l):∃ p cap,v = .slice p l.length cap:=by
  obtain ⟨p,cap,hv,_⟩:=RowAt.len h
  exact ⟨p,cap,hv⟩
end
theorem quant_any (vi vt va:Value) (p q:Option Addr) (n m c c':Nat) (all:Bool) (hi:vi = .slice p n c) (ht:vt = .slice q m c') (r:Option Addr) (ha:va = .pointer r) (w:World) :
    Calls Tryz.prog 66 #[testAgg vi vt all va] w fun e w'=>Made (.returned (.string (str (quant all)))) w e w':=by
  subst hi ht ha
  unfold testAgg
  cases all
  all_goals
    go_enter Tryz.func66,Tryz.ntmps66
    go_wp2_with fail
    go_ret
    exact ⟨rfl,(Below.refl _ _).alloc (Nat.le_refl _) _⟩
structure Tx (w0:World) (bB gb gm bx:Nat) (cs:Array Value) (l:List UInt8) (W:World):Prop where
  bld:Bld w0 bB l W
  q1:Sits W gb 119 #[.pointer (some ⟨bB,0,none⟩)]
  q2:Sits W gm 9 #[.string (str (indent 0))]
  box:Sits W bx 27 cs
section
variable {w0 W W' : World} {bB gb gm bx : Nat} {cs : Array Value} {l l' : List UInt8}
theorem Tx.grown (h:Tx w0 bB gb gm bx cs l W) (hb:Below W.heap.size W W'):Tx w0 bB gb gm bx cs l W' :=
  ⟨h.bld.grown hb,h.q1.below hb h.q1.lt,h.q2.below hb h.q2.lt,h.box.below hb h.box.lt⟩
theorem Tx.put (h:Tx w0 bB gb gm bx cs l W) (hB:Bld w0 bB l' W') (k:Moved bB W W'):Tx w0 bB gb gm bx cs l' W' :=
  ⟨hB,Sits.moved h.q1 k (by decide) (h.bld.far h.q1 (by decide)),Sits.moved h.q2 k (by decide) (h.bld.far h.q2 (by decide)),Sits.moved h.box k (by decide) (h.bld.far h.box (by decide))⟩
theorem Tx.lineW (h:Tx w0 bB gb gm bx cs l W) (ws:List (List UInt8)) (vw:Value) (hw:Words W vw ws) (hn:ws.length<=100) (hlen:l.length+ws.flatten.length<=110000000000000) :
    Calls Tryz.prog 121 #[vw,.pointer (some ⟨gb,0,none⟩),.pointer (some ⟨gm,0,none⟩)] W fun e w'=>e = .returned (.tuple #[])/\Tx w0 bB gb gm bx cs (l ++ (ws.flatten ++ [10])) w':=by
  refine (put_line w0 bB 0 l ws gb gm _ _ (by omega) h.bld h.q1 h.q2 hw hn hlen).mono ?_
  rintro e w' ⟨rfl,hB,hM⟩
  exact ⟨rfl,h.put hB hM⟩
theorem Tx.line (h:Tx w0 bB gb gm bx cs l W) (x:List UInt8) (hlen:l.length+x.length<=110000000000000) :
    Calls Tryz.prog 121 #[.slice (some ⟨W.heap.size,0,none⟩) 1 1,.pointer (some ⟨gb,0,none⟩),.pointer (some ⟨gm,0,none⟩)] (W.alloc (.cells #[.string (str x)] 9))
      fun e w'=>e = .returned (.tuple #[])/\Tx w0 bB gb gm bx cs (l ++ (x ++ [10])) w':=by
  have h1:=h.grown ((Below.refl _ _).alloc (Nat.le_refl _) (.cells #[.string (str x)] 9))
  have:=h1.lineW [x] _ (words1 W x) (by simp) (by simpa using hlen)
  simpa using this
end
theorem fresh_builder (w:World):Bld w w.heap.size [] (w.alloc (.cells #[.pointer none,.slice none 0 0] tB)) :=
  ⟨.inl ⟨Nat.le_refl _,.slice none 0 0,Sits.new _ _ _,World.ownsRowF_nil _ _ _ _,by simp [Value.ownBlock]⟩,(Below.refl _ _).alloc (Nat.le_refl _) _⟩
theorem initTxt_flat (x n:Nat):[[105,110,105,116,32],[x.toUInt8],[32,61,32],dec n,[59]].flatten ++ [10]=initTxt (x,n):=by simp [initTxt]
theorem initTxt_len (i:Nat × Nat) (h:i.2<18446744073709551616):(initTxt i).length<=40:=by
  have:=dec_len i.2 h
  simp only [initTxt,List.length_cons,List.length_append,List.length_nil];omega
theorem inits_len (l:List (Nat × Nat)) (h:∀ i ∈ l,i.2<18446744073709551616):(l.flatMap initTxt).length<=40 * l.length:=by
  induction l with
  | nil=>simp
  | cons i l ih =>
    have h1:=initTxt_len i (h i List.mem_cons_self)
    have h2:=ih (fun j hj=>h j (List.mem_cons_of_mem _ hj))
    simp only [List.flatMap_cons,List.length_append,List.length_cons];omega
theorem threads_len (l:List Blk) (h:∀ b ∈ l,b.fine/\b.size<=10000):(l.flatMap threadTxt).length<=2400000011 * l.length:=by
  induction l with
  | nil=>simp
  | cons b l ih =>
    have h1:=Blk.text_len (h b List.mem_cons_self).1 1
    have h3:=(h b List.mem_cons_self).2
    have h2:=ih (fun j hj=>h j (List.mem_cons_of_mem _ hj))
    simp only [List.flatMap_cons,List.length_append,List.length_cons,threadTxt,List.length_nil];omega
theorem take_flat {α:Type} (f:α->List UInt8) (l:List α) (k:Nat) (x:α) (h:l[k]? = some x):(l.take (k+1)).flatMap f=(l.take k).flatMap f ++ f x:=by
  obtain ⟨hlt,rfl⟩:=List.getElem?_eq_some_iff.1 h
  rw [List.take_succ_eq_append_getElem hlt,List.flatMap_append];simp
def tBox (w:World) (vi vt:Value) (all:Bool) (va:Value):World:=w.alloc (.cells #[vi,vt,.bool all,va] 27)
def iBox (w:World) (x n:Nat):World:=w.alloc (.cells #[.int .u8 x,.int .u64 n] 53)
set_option maxRecDepth 100000 in
set_option maxHeartbeats 4000000 in
theorem text_test (t:Ts) (ht:t.small) (vi vt va:Value) (w:World) (hX:All w) (hT:TestV w t vi vt va):Calls Tryz.prog 20 #[testAgg vi vt t.all va] w fun e w'=>Made (.returned (.string (str t.text))) w e w':=by
  obtain ⟨pi,ci,rfl⟩:=hT.init.len
  obtain ⟨pt,ct,rfl⟩:=hT.threads.len
  obtain ⟨pa,rfl,_⟩:=hT.ask.ptr
  have hb0:Below w.heap.size w (tBox w (.slice pi t.init.length ci) (.slice pt t.threads.length ct) t.all (.pointer pa)):=(Below.refl _ _).alloc (Nat.le_refl _) _
  have hz:w.heap.size+1=(tBox w (.slice pi t.init.length ci) (.slice pt t.threads.length ct) t.all (.pointer pa)).heap.size:=by simp [tBox]
  have hbx:Sits (tBox w (.slice pi t.init.length ci) (.slice pt t.threads.length ct) t.all (.pointer pa)) w.heap.size 27 #[.slice pi t.init.length ci,.slice pt t.threads.length ct,.bool t.all,.pointer pa]:=Sits.new _ _ _
  have HX:=Lib.hid (hX.below hb0)
  have HT:=Lib.hid (hT.below hb0)
  have HB0:=Lib.hid hb0
  have HBX:=Lib.hid hbx
  have HS:=Lib.hid ht
  have i1:(t.init.length:Int)<=1000:=by have:=ht.init;omega
  have i2:(t.threads.length:Int)<=1000:=by have:=ht.threads;omega
  have HTX:Hid (t.text=t.init.flatMap initTxt ++ (t.threads.flatMap threadTxt ++ (quant t.all ++ 32 :: (exO t.ask ++ [59,10])))):=Lib.hid rfl
  clear hX hT hb0 hbx ht
  unfold testAgg
  go_enter Tryz.func20,Tryz.ntmps20
  go_wp2_with fail
  change Calls _ _ _ ((tBox w (.slice pi t.init.length ci) (.slice pt t.threads.length ct) t.all (.pointer pa)).alloc (.cells #[.pointer none,.slice none 0 0] tB)) _
  generalize tBox w (.slice pi t.init.length ci) (.slice pt t.threads.length ct) t.all (.pointer pa)=w0 at HX HT HB0 HBX hz ⊢
  generalize w.heap.size+1=bB at hz ⊢
  subst hz
  have HFB:=Lib.hid (fresh_builder w0)
  have HBX1:=Lib.hid (HBX.out.alloc (.cells #[.pointer none,.slice none 0 0] tB))
  refine (linesOf_any w0.heap.size 0 (by omega) _).mono ?_
  rintro e w1 ⟨vp,rfl,hp,hb⟩
  obtain ⟨gb,gm,rfl,hp1,hp2⟩:=hp.fn
  have HT1:Hid (Tx w0 w0.heap.size gb gm w.heap.size #[.slice pi t.init.length ci,.slice pt t.threads.length ct,.bool t.all,.pointer pa] [] w1):=Lib.hid ⟨HFB.out.grown hb,hp1,hp2,HBX1.out.below hb HBX1.out.lt⟩
  have c0:=HT1.out.box.cell 0
  have lb:=HT1.out.box.lt
  generalize w.heap.size=bx at HBX HT1 c0 lb ⊢
  clear hp hb hp1 hp2 HFB HBX1
  go_wp2_with fail
  go_loopg [13] t.init.length (fun gg v13 wx=>∃ k,k<=t.init.length/\gg=t.init.length - k/\v13 = .int .i64 (k:Nat)/\Hid (Tx w0 w0.heap.size gb gm bx #[.slice pi t.init.length ci,.slice pt t.threads.length ct,.bool t.all,.pointer pa] ((t.init.take k).flatMap initTxt) wx))
  case atStart=>exact ⟨0,by omega,by omega,rfl,HT1⟩
  case round =>
    obtain ⟨k,hk,rfl,rfl,HTk⟩:=hrel
    by_cases hlt:k<t.init.length
    · have j1:(k:Int)<(t.init.length:Int):=by omega
      have j0:(0:Int)<=(k:Int):=by omega
      have hik:t.init[k]? = some t.init[k]:=List.getElem?_eq_getElem hlt
      obtain ⟨g,o,cap,e1,c1,c2⟩:=(HT.out.init.below HTk.out.bld.low).at hik
      injection e1 with e1 _ e2
      subst e1 e2
      have lg:=World.block_lt_of_cell? _ _ c1
      have HEX:=Lib.hid (HS.out.each _ (List.mem_of_getElem? hik))
      have HFL:=Lib.hid (take_flat initTxt t.init k _ hik)
      generalize t.init[k]=ik at c1 c2 HEX HFL
      obtain ⟨x,n⟩:=ik
      simp only at c1 c2 HEX
      have hx:=HEX.out.1
      have hL:((t.init.take k).flatMap initTxt).length<=40 * k:=by
        have:=inits_len (t.init.take k) (fun i hi=>(HS.out.each i (List.mem_of_mem_take hi)).2)
        rw [List.length_take] at this;omega
      have HL:=Lib.hid hL
      have HTb:Hid (Tx w0 w0.heap.size gb gm bx #[.slice (some ⟨g,o,none⟩) t.init.length ci,.slice pt t.threads.length ct,.bool t.all,.pointer pa] ((t.init.take k).flatMap initTxt) (iBox wr x n)):=Lib.hid (HTk.out.grown ((Below.refl _ _).alloc (Nat.le_refl _) _))
      have HIB:Hid (Sits (iBox wr x n) wr.heap.size 53 #[.int .u8 x,.int .u64 n]):=Lib.hid (Sits.new _ _ _)
      have HK:=Lib.hid hk
      clear hL hik c0 hx hk
      go_wp2_with fail
      change Code.wp _ _ _ _ (iBox wr x n)
      generalize iBox wr x n=wa at HTb HIB ⊢
      generalize wr.heap.size=ib at HIB ⊢
      have HLT:=Lib.hid (fun W=>letter_any x HEX.out.1 W)
      have HFM:=Lib.hid (fun W (h:Below w0.heap.size w0 W)=>formatUint_any n HEX.out.2 W ((HX.out.1.below h).2))
      refine wp_flow [17,18,19,20,21,22,23,24] [eqV (putV gb gm),eqV (.pointer (some ⟨ib,0,none⟩)),eqV (.int .u8 (x:Nat)),eqV (.string (str [x.toUInt8])),eqV (.pointer (some ⟨ib,1,none⟩)),eqV (.int .u64 (n:Nat)),eqV (.string (str (dec n))),
        rowV 9 5 (words [[105,110,105,116,32],[x.toUInt8],[32,61,32],dec n,[59]])] (by kernel_rfl) (by kernel_rfl) (by kernel_rfl) (by rfl)
        (by simp only [List.mem_cons,List.not_mem_nil,or_false,forall_eq_or_imp,forall_eq];refine ⟨?_,?_,?_,?_,?_,?_,?_,?_⟩ <;> first | exact eqV_mono _ | exact rowV_mono _ _ _) ?_ ?_
      · intro i o hi ho A W hW hk he
        simp only [List.length_cons,List.length_nil,Nat.zero_add,Nat.reduceAdd] at hi
        obtain rfl | rfl | rfl | rfl | rfl | rfl | rfl | rfl:i=0 \/ i=1 \/ i=2 \/ i=3 \/ i=4 \/ i=5 \/ i=6 \/ i=7:=by omega
        · injection ho with ho;subst ho
          have h4:A.tmps[4]?.getD undef=putV gb gm:=hk 4 (by rfl)
          unfold putV at h4
          go_simp
          exact ⟨rfl,Below.refl _ _⟩
        · injection ho with ho;subst ho
          have h6:A.tmps[6]?.getD undef = .pointer (some ⟨ib,0,none⟩):=hk 6 (by rfl)
          go_simp
          exact ⟨rfl,Below.refl _ _⟩
        · injection ho with ho;subst ho
          have hs:A.tmps[18]?.getD undef = .pointer (some ⟨ib,0,none⟩):=he 1 (by kernel_rfl)
          have cc:=(HIB.out.below hW HIB.out.lt).cell 0
          go_simp
          exact ⟨rfl,Below.refl _ _⟩
        · injection ho with ho;subst ho
          have hs:A.tmps[19]?.getD undef = .int .u8 (x:Nat):=he 2 (by kernel_rfl)
          go_simp
          refine Calls.mono (HLT.out W) ?_
          rintro e' w' ⟨rfl,hb⟩
          exact ⟨_,rfl,rfl,hb⟩
        · injection ho with ho;subst ho
          have h6:A.tmps[6]?.getD undef = .pointer (some ⟨ib,0,none⟩):=hk 6 (by rfl)
          go_simp
          exact ⟨rfl,Below.refl _ _⟩
        · injection ho with ho;subst ho
          have hs:A.tmps[21]?.getD undef = .pointer (some ⟨ib,1,none⟩):=he 4 (by kernel_rfl)
          have cc:=(HIB.out.below hW HIB.out.lt).cell 1
          go_simp
          exact ⟨rfl,Below.refl _ _⟩
        · injection ho with ho;subst ho
          have hs:A.tmps[22]?.getD undef = .int .u64 (n:Nat):=he 5 (by kernel_rfl)
          go_simp
          refine Calls.mono (HFM.out W (HTb.out.bld.low.trans (hW.mono HTb.out.bld.low.size))) ?_
          rintro e' w' ⟨rfl,hb⟩
          exact ⟨_,rfl,rfl,hb⟩
        · injection ho with ho;subst ho
          have hs3:A.tmps[20]?.getD undef = .string (str [x.toUInt8]):=he 3 (by kernel_rfl)
          have hs6:A.tmps[23]?.getD undef = .string (str (dec n)):=he 6 (by kernel_rfl)
          go_simp
          exact ⟨⟨_,rfl,Sits.new _ _ _⟩,(Below.refl _ _).alloc (Nat.le_refl _) _⟩
      · intro xs W hW hV
        have e0:xs 0=putV gb gm:=hV 0 (by simp)
        obtain ⟨gw,ew,hsits⟩:rowV 9 5 (words [[105,110,105,116,32],[x.toUInt8],[32,61,32],dec n,[59]]) (xs 7) W:=hV 7 (by simp)
        have HOW:=Lib.hid (HTb.out.grown hW)
        have HWS:=Lib.hid hsits
        unfold putV at e0
        simp only [List.length_cons,List.length_nil,Nat.zero_add,Nat.reduceAdd,List.drop_succ_cons,List.drop_zero,putL,Act.put,List.setIfInBounds_toArray,List.set_cons_zero,List.set_cons_succ,e0,ew]
        clear hV hsits hW e0 ew
        go_wp2_with fail
        have hline:=HOW.out.lineW [[105,110,105,116,32],[x.toUInt8],[32,61,32],dec n,[59]] _ ⟨gw,rfl,HWS.out⟩ (by simp) (by
          have h1:=initTxt_len (x,n) HEX.out.2
          have h2:=congrArg List.length (initTxt_flat x n)
          rw [List.length_append] at h2
          have:=HL.out;have:=HK.out;have:=HS.out.init
          simp only [List.length_cons,List.length_nil] at h2
          omega)
        rw [initTxt_flat] at hline
        refine hline.mono ?_
        rintro e' w5 ⟨rfl,hO⟩
        have HO5:=Lib.hid hO
        clear hO hline
        go_wp2_with fail
        go_roundg (t.init.length - (k+1))
        case measure=>omega
        case rel=>exact ⟨k+1,by omega,rfl,by go_num,Lib.hid (by rw [HFL.out];exact HO5.out)⟩
    · obtain rfl:k=t.init.length:=by omega
      have j1:¬ ((t.init.length:Int)<(t.init.length:Int)):=by omega
      rw [List.take_of_length_le (Nat.le_refl _)] at HTk
      have c1:=HTk.out.box.cell 1
      have l1:=HTk.out.box.lt
      clear c0
      have hL1:(t.init.flatMap initTxt).length<=40000:=by
        have:=inits_len t.init (fun i hi=>(HS.out.each i hi).2)
        have:=HS.out.init;omega
      have HL1:=Lib.hid hL1
      clear hL1
      go_wp2_with fail
      go_loopg [30] t.threads.length (fun gg v30 wx=>∃ k,k<=t.threads.length/\gg=t.threads.length - k/\v30 = .int .i64 (k:Nat)/\Hid (Tx w0 w0.heap.size gb gm bx #[.slice pi t.init.length ci,.slice pt t.threads.length ct,.bool t.all,.pointer pa] (t.init.flatMap initTxt ++ (t.threads.take k).flatMap threadTxt) wx))
      case atStart=>exact ⟨0,by omega,by omega,rfl,Lib.hid (by simpa using HTk.out)⟩
      case round =>
        obtain ⟨k,hk,rfl,rfl,HTj⟩:=hrel
        by_cases hlt:k<t.threads.length
        · have j2:(k:Int)<(t.threads.length:Int):=by omega
          have j0:(0:Int)<=(k:Int):=by omega
          have hik:t.threads[k]? = some t.threads[k]:=List.getElem?_eq_getElem hlt
          obtain ⟨g,o,cap,u,e1,c2,hst⟩:=HT.out.threads.at hik
          injection e1 with e1 _ e2
          subst e1 e2
          have c3:=cell_below (U:=any_) HTj.out.bld.low g trivial _ _ c2
          have lg:=World.block_lt_of_cell? _ _ c3
          have HEX:=Lib.hid (HS.out.fine _ (List.mem_of_getElem? hik))
          have HFL:=Lib.hid (take_flat threadTxt t.threads k _ hik)
          have hL2:((t.threads.take k).flatMap threadTxt).length<=2400000011 * 1000:=by
            have:=threads_len (t.threads.take k) (fun b hb=>HS.out.fine b (List.mem_of_mem_take hb))
            have:=HS.out.threads
            rw [List.length_take] at *;omega
          have HL2:=Lib.hid hL2
          have HST:=Lib.hid hst
          obtain ⟨pu,cu,rfl,_⟩:=hst.len
          generalize t.threads[k]=b at HEX HFL HST c2 c3
          have HBL:=Lib.hid (Blk.text_len HEX.out.1 1)
          clear hL2 hst hik hk c2 c1
          go_wp2_with fail
          refine (HTj.out.line [116,104,114,101,97,100,32,123] (by rw [List.length_append];have:=HL1.out;have:=HL2.out;simp only [List.length_cons,List.length_nil];omega)).mono ?_
          rintro e' w3 ⟨rfl,hO⟩
          have HO3:=Lib.hid hO
          clear hO
          go_wp2_with fail
          refine (put_any w0 HX.out w0.heap.size (b.size+1) b (by omega) HEX.out.1 1 (by omega) _ _ _ HST.out HO3.out.bld (by simp only [List.length_append,List.length_cons,List.length_nil];have:=HL1.out;have:=HL2.out;have:=HEX.out.2;omega)).mono ?_
          rintro e' w4 ⟨rfl,hB,hM⟩
          have HO4:=Lib.hid (HO3.out.put hB hM)
          clear hB hM
          go_wp2_with fail
          refine (HO4.out.line [125] (by simp only [List.length_append,List.length_cons,List.length_nil];have:=HL1.out;have:=HL2.out;have:=HEX.out.2;have:=HBL.out;omega)).mono ?_
          rintro e' w5 ⟨rfl,hO⟩
          have HO5:=Lib.hid hO
          clear hO
          go_wp2_with fail
          go_roundg (t.threads.length - (k+1))
          case measure=>omega
          case rel=>exact ⟨k+1,by omega,rfl,by go_num,Lib.hid (by
            rw [HFL.out]
            have h:=HO5.out
            simp only [threadTxt,List.append_assoc,List.cons_append,List.nil_append] at h ⊢
            exact h)⟩
        · obtain rfl:k=t.threads.length:=by omega
          rw [List.take_of_length_le (Nat.le_refl _)] at HTj
          have hL2:(t.threads.flatMap threadTxt).length<=2400000011 * 1000:=by
            have:=threads_len t.threads (fun b hb=>HS.out.fine b hb)
            have:=HS.out.threads
            omega
          have HL2:=Lib.hid hL2
          have HQ:=Lib.hid (fun W=>quant_any (.slice pi t.init.length ci) (.slice pt t.threads.length ct) (.pointer pa) pi pt t.init.length t.threads.length ci ct t.all rfl rfl pa rfl W)
          have HA:=Lib.hid (fun W (h:Below w0.heap.size w0 W)=>textO_any t.ask HS.out.ask (.pointer pa) W (HX.out.1.below h) (HT.out.ask.below h))
          have HAL:=Lib.hid (exO_len HS.out.ask)
          have hql:(quant t.all).length=6:=by cases t.all <;> rfl
          have HQL:=Lib.hid hql
          clear hL2 c1 l1 hql
          go_wp2_with fail
          refine wp_flow [43,44,45,46,47,48,49] [eqV (putV gb gm),eqV (testAgg (.slice pi t.init.length ci) (.slice pt t.threads.length ct) t.all (.pointer pa)),eqV (.string (str (quant t.all))),eqV (.pointer (some ⟨bx,3,none⟩)),eqV (.pointer pa),eqV (.string (str (exO t.ask))),
            rowV 9 4 (words [quant t.all,[32],exO t.ask,[59]])] (by kernel_rfl) (by kernel_rfl) (by kernel_rfl) (by rfl)
            (by simp only [List.mem_cons,List.not_mem_nil,or_false,forall_eq_or_imp,forall_eq];refine ⟨?_,?_,?_,?_,?_,?_,?_⟩ <;> first | exact eqV_mono _ | exact rowV_mono _ _ _) ?_ ?_
          · intro i o hi ho A W hW hk he
            simp only [List.length_cons,List.length_nil,Nat.zero_add,Nat.reduceAdd] at hi
            obtain rfl | rfl | rfl | rfl | rfl | rfl | rfl:i=0 \/ i=1 \/ i=2 \/ i=3 \/ i=4 \/ i=5 \/ i=6:=by omega
            · injection ho with ho;subst ho
              have h4:A.tmps[4]?.getD undef=putV gb gm:=hk 4 (by rfl)
              unfold putV at h4
              go_simp
              exact ⟨rfl,Below.refl _ _⟩
            · injection ho with ho;subst ho
              have h1:A.tmps[1]?.getD undef = .pointer (some ⟨bx,0,none⟩):=hk 1 (by rfl)
              have hO:=HTj.out.grown hW
              have c0:=hO.box.cell 0
              have c1:=hO.box.cell 1
              have c2:=hO.box.cell 2
              have c3:=hO.box.cell 3
              go_simp
              exact ⟨rfl,Below.refl _ _⟩
            · injection ho with ho;subst ho
              have hs:A.tmps[44]?.getD undef=testAgg (.slice pi t.init.length ci) (.slice pt t.threads.length ct) t.all (.pointer pa):=he 1 (by kernel_rfl)
              unfold testAgg at hs
              go_simp
              refine Calls.mono (HQ.out W) ?_
              rintro e' w' ⟨rfl,hb⟩
              exact ⟨_,rfl,rfl,hb⟩
            · injection ho with ho;subst ho
              have h1:A.tmps[1]?.getD undef = .pointer (some ⟨bx,0,none⟩):=hk 1 (by rfl)
              go_simp
              exact ⟨rfl,Below.refl _ _⟩
            · injection ho with ho;subst ho
              have hs:A.tmps[46]?.getD undef = .pointer (some ⟨bx,3,none⟩):=he 3 (by kernel_rfl)
              have cc:=(HTj.out.grown hW).box.cell 3
              go_simp
              exact ⟨rfl,Below.refl _ _⟩
            · injection ho with ho;subst ho
              have hs:A.tmps[47]?.getD undef = .pointer pa:=he 4 (by kernel_rfl)
              go_simp
              refine Calls.mono (HA.out W (HTj.out.grown hW).bld.low) ?_
              rintro e' w' ⟨rfl,hb⟩
              exact ⟨_,rfl,rfl,hb⟩
            · injection ho with ho;subst ho
              have hs2:A.tmps[45]?.getD undef = .string (str (quant t.all)):=he 2 (by kernel_rfl)
              have hs5:A.tmps[48]?.getD undef = .string (str (exO t.ask)):=he 5 (by kernel_rfl)
              go_simp
              exact ⟨⟨_,rfl,Sits.new _ _ _⟩,(Below.refl _ _).alloc (Nat.le_refl _) _⟩
          · intro xs W hW hV
            have e0:xs 0=putV gb gm:=hV 0 (by simp)
            obtain ⟨gw,ew,hsits⟩:rowV 9 4 (words [quant t.all,[32],exO t.ask,[59]]) (xs 6) W:=hV 6 (by simp)
            have HOW:=Lib.hid (HTj.out.grown hW)
            have HWS:=Lib.hid hsits
            unfold putV at e0
            simp only [List.length_cons,List.length_nil,Nat.zero_add,Nat.reduceAdd,List.drop_succ_cons,List.drop_zero,putL,Act.put,List.setIfInBounds_toArray,List.set_cons_zero,List.set_cons_succ,e0,ew]
            clear hV hsits hW e0 ew
            go_wp2_with fail
            refine (HOW.out.lineW [quant t.all,[32],exO t.ask,[59]] _ ⟨gw,rfl,HWS.out⟩ (by simp) (by
              simp only [List.length_append,List.flatten_cons,List.flatten_nil,List.length_cons,List.length_nil]
              have:=HL1.out;have:=HL2.out;have:=HAL.out;have:=HQL.out
              omega)).mono ?_
            rintro e' w5 ⟨rfl,hO⟩
            have HO5:=Lib.hid hO
            clear hO
            go_wp2_with fail
            refine (Tryz.Builder_String_any_k w0.heap.size w0.heap.size _ _ HO5.out.bld.is HO5.out.bld.low.size).mono ?_
            rintro e' w6 ⟨rfl,_,hb,_⟩
            have HB6:=Lib.hid (HB0.out.trans ((HO5.out.bld.low.trans hb).mono HB0.out.size))
            clear hb
            go_wp2_with fail
            go_ret
            refine ⟨?_,HB6.out⟩
            refine ret_str ?_
            rw [HTX.out]
            simp [str]
end Go.Proofs.YtbkdappgmcebaaaGreatDoor.Prog
end
section
namespace Go.Proofs.YtbkdappgmcebaaaGreatDoor.Prog
open Go.RowKit Go.Proofs.YtbkdappgmcebaaaGreatDoor.Mem Go.Proofs.YtbkdappgmcebaaaGreatDoor.Expr Go.Lib
theorem over_mono:∀ (b:Blk) (n m:Nat),n<=m->b.over n=false->b.over m=false:=by
  intro b
  induction b with
  | nil=>intro n m _ _;simp [Blk.over]
  | cons s t e r iht ihe ihr =>
    intro n m hnm h
    cases n with
    | zero=>simp [Blk.over] at h
    | succ n =>
      obtain ⟨m,rfl⟩:∃ k,m=k+1:=⟨m - 1,by omega⟩
      simp only [Blk.over,Bool.or_eq_false_iff] at h ⊢
      exact ⟨⟨iht n m (by omega) h.1.1,ihe n m (by omega) h.1.2⟩,ihr (n+1) (m+1) (by omega) h.2⟩
theorem over_deep:∀ (b:Blk) (n:Nat),b.proper->b.deep<=n->b.over n=false:=by
  intro b
  induction b with
  | nil=>intro n _ _;simp [Blk.over]
  | cons m t e r iht ihe ihr =>
    intro n hp hd
    obtain ⟨hm,ht,he,hr,hne,hnt⟩:=proper_cons hp
    have h1:=(Blk.cons m t e r).deep_pos
    obtain ⟨n,rfl⟩:∃ k,n=k+1:=⟨n - 1,by omega⟩
    have hr':r.over (n+1)=false:=ihr (n+1) hr (by simp only [Blk.deep] at hd;omega)
    by_cases h8:m.kind=8
    · have ht':=iht n ht (by simp only [Blk.deep,if_pos h8] at hd;omega)
      have he':=ihe n he (by simp only [Blk.deep,if_pos h8] at hd;omega)
      simp [Blk.over,ht',he',hr']
    · obtain rfl:=hne h8
      by_cases h9:m.kind=9
      · have ht':=iht n ht (by simp only [Blk.deep,if_neg h8,if_pos h9] at hd;omega)
        simp [Blk.over,ht',hr']
      · obtain rfl:=hnt h8 h9
        simp [Blk.over,hr']
theorem over_app (q r:Blk) (n:Nat):(q.app r).over (n+1)=(q.over (n+1) || r.over (n+1)):=by
  induction q with
  | nil=>simp [Blk.app,Blk.over]
  | cons m t e q _ _ ih=>simp only [Blk.app,Blk.over,ih,Bool.or_assoc]
theorem val_len (q:Blk) (m:Mk) (t e:Blk):Value.int .i64 ((q.len:Int)+1) = .int .i64 ((q.snoc m t e).len:Nat):=by rw [Blk.len_snoc];rfl
def DeepIs (c:Blk) (rm:Int) (r:Bool):Prop:=∀ (v:Value) (w:World),Stand any_ w c v->Calls Tryz.prog 96 #[v,.int .i64 rm] w fun e w'=>Made (.returned (.bool r)) w e w'
set_option maxRecDepth 100000 in
theorem deeper1_any (m:Mk) (t e:Blk) (room:Nat) (h1:1<=room) (h2:room<=1000) (pa pb:Option Addr) (tv ev:Value) (w:World) (rb:Nat) (hrb:Sits w rb 3 #[.int .i64 (room:Nat)])
    (ht:Stand any_ w t tv) (he:Stand any_ w e ev) (bt be:Bool) (HT:DeepIs t ((room:Int) - 1) bt) (HE:DeepIs e ((room:Int) - 1) be) :
    Calls Tryz.prog 147 #[stAgg m (.pointer pa) (.pointer pb) tv ev,.pointer (some ⟨rb,0,none⟩)] w fun e' w'=>Made (.returned (.bool (bt || be))) w e' w':=by
  have hb0:Below w.heap.size w (w.alloc (.cells #[.int .u8 m.kind,.int .u8 m.reg,.int .u8 m.mode,.int .u8 m.loc,.pointer pa,.pointer pb,tv,ev] 150)):=(Below.refl _ _).alloc (Nat.le_refl _) _
  have hs0:Sits (w.alloc (.cells #[.int .u8 m.kind,.int .u8 m.reg,.int .u8 m.mode,.int .u8 m.loc,.pointer pa,.pointer pb,tv,ev] 150)) w.heap.size 150 #[.int .u8 m.kind,.int .u8 m.reg,.int .u8 m.mode,.int .u8 m.loc,.pointer pa,.pointer pb,tv,ev]:=Sits.new _ _ _
  have HB0:=Lib.hid hb0
  have HS0:=Lib.hid hs0
  have HR0:=Lib.hid (hrb.below hb0 hrb.lt)
  have HST:=Lib.hid (ht.below hb0)
  have HSE:=Lib.hid (he.below hb0)
  have HHT:=Lib.hid HT
  have HHE:=Lib.hid HE
  obtain ⟨pt,ct,rfl,_⟩:=ht.len
  obtain ⟨pe,ce,rfl,_⟩:=he.len
  have i1:(1:Int)<=(room:Int):=by omega
  have i2:(room:Int)<=1000:=by omega
  have lr:=hrb.lt
  have cr:=hrb.cell 0
  clear hrb ht he HT HE h1 h2 hb0 hs0
  unfold stAgg
  go_enter Tryz.func147,Tryz.ntmps147
  go_wp2_with fail
  generalize w.alloc (.cells #[.int .u8 m.kind,.int .u8 m.reg,.int .u8 m.mode,.int .u8 m.loc,.pointer pa,.pointer pb,.slice pt t.len ct,.slice pe e.len ce] 150)=wa at HB0 HS0 HR0 HST HSE ⊢
  refine (HHT.out _ _ HST.out).mono ?_
  rintro e' w1 ⟨rfl,hb⟩
  have HB1:=Lib.hid (HB0.out.trans (hb.mono HB0.out.size))
  have c7:=(HS0.out.below hb HS0.out.lt).cell 7
  have l7:=(HS0.out.below hb HS0.out.lt).lt
  have cr:=(HR0.out.below hb HR0.out.lt).cell 0
  have lr:=(HR0.out.below hb HR0.out.lt).lt
  have HSE1:=Lib.hid (HSE.out.below hb)
  clear hb
  cases bt
  · go_wp2_with fail
    refine (HHE.out _ _ HSE1.out).mono ?_
    rintro e' w2 ⟨rfl,hb⟩
    have HB2:=Lib.hid (HB1.out.trans (hb.mono HB1.out.size))
    clear hb
    go_wp2_with fail
    go_ret
    exact ⟨rfl,HB2.out⟩
  · go_wp2_with fail
    go_ret
    exact ⟨rfl,HB1.out⟩
theorem deeper1_enters:Expr.Enters 147:=enters_of Tryz.func147 (by kernel_rfl) rfl
def SomeIdx (r:Bool) (w:World) (e:Ending) (w':World):Prop:=∃ z:Int,e = .returned (.int .i64 z)/\decide (0<=z)=r/\Below w.heap.size w w'
set_option maxRecDepth 100000 in
set_option maxHeartbeats 1000000 in
theorem index_any (b:Blk) (room:Nat) (h1:1<=room) (h2:room<=1000) (v:Value) (w:World) (rb:Nat) (hrb:Sits w rb 3 #[.int .i64 (room:Nat)]) (hS:Stand any_ w b v)
    (IH:∀ c:Blk,c.size<b.size->DeepIs c ((room:Int) - 1) (c.over (room - 1))) :
    Calls Tryz.prog 188 #[v,.func (.func 147) #[] #[.pointer (some ⟨rb,0,none⟩)]] w (SomeIdx (b.over room) w):=by
  obtain ⟨p,cap,rfl,hl,hr⟩:=hS.rests
  have HR:=Lib.hid hr
  have HIH:=Lib.hid IH
  have HRB:=Lib.hid hrb
  have H1:=Lib.hid h1
  have H2:=Lib.hid h2
  have hen:=deeper1_enters
  unfold Expr.Enters at hen
  have i1:(b.len:Int)<=1000000:=by omega
  clear hS IH hr hl hrb h1 h2
  go_enter Tryz.func188,Tryz.ntmps188
  go_wp2_with fail
  go_loopg [8] b.len (fun gg v8 wx=>∃ (q r:Blk),gg=r.len/\b.len=q.len+r.len/\v8 = .int .i64 (q.len:Nat)/\Hid (b=q.app r)/\Hid (q.over room=false)/\Hid (Rests w p b.len r q.len)/\Hid (Below w.heap.size w wx))
  case atStart=>exact ⟨Blk.nil,b,rfl,by simp [Blk.len],rfl,Lib.hid rfl,Lib.hid (by simp [Blk.over]),HR,Lib.hid (Below.refl _ _)⟩
  case round =>
    obtain ⟨q,r,rfl,hlen,rfl,HE,HOV,HRr,HB⟩:=hrel
    obtain ⟨rm,hrm⟩:∃ k,room=k+1:=⟨room - 1,by have:=H1.out;omega⟩
    cases r with
    | nil =>
      have e:b.len=q.len:=by simpa [Blk.len] using hlen
      have HOB:=Lib.hid (show b.over room=false by rw [HE.out,Blk.app_nil];exact HOV.out)
      have i4:¬ ((q.len:Int)<(b.len:Int)):=by omega
      clear e hlen hrm
      go_wp2_with fail
      go_ret
      exact ⟨-1,rfl,by rw [HOB.out];rfl,HB.out⟩
    | cons m t e r =>
      obtain ⟨g,o,rfl,hk,hr',av,bv,tv,ev,hst,hta,htb,hst1,hst2⟩:=HRr.out.next
      obtain ⟨pa,rfl,_⟩:=hta.ptr
      obtain ⟨pb,rfl,_⟩:=htb.ptr
      have HNX:=Lib.hid hr'
      have HSZ:=Lib.hid (show t.size<b.size/\e.size<b.size by rw [HE.out,Blk.size_app];simp only [Blk.size];omega)
      have HD1:=Lib.hid (deeper1_any m t e room H1.out H2.out pa pb tv ev wr rb (HRB.out.below HB.out HRB.out.lt) (hst1.below HB.out) (hst2.below HB.out) (t.over (room - 1)) (e.over (room - 1)) (HIH.out t HSZ.out.1) (HIH.out e HSZ.out.2))
      obtain ⟨c0,c1,c2,c3,c4,c5,c6,c7⟩:=hst.low HB.out
      have lg:=World.block_lt_of_cell? _ _ c0
      obtain ⟨pt,ct,rfl,_⟩:=hst1.len
      obtain ⟨pe,ce,rfl,_⟩:=hst2.len
      have HE':=Lib.hid (show b=(q.snoc m t e).app r by rw [HE.out,Blk.snoc_app])
      have lq:(q.len:Int)<(b.len:Int):=by omega
      have lq0:(0:Int)<=(q.len:Int):=by omega
      have HLN:=Lib.hid (show b.len=(q.snoc m t e).len+r.len by rw [Blk.len_snoc];simp only [Blk.len] at hlen;omega)
      have HOA:Hid (b.over room=((t.over (room - 1) || e.over (room - 1)) || r.over room)/\(q.snoc m t e).over room=(t.over (room - 1) || e.over (room - 1))):=Lib.hid (by
        have h:=HOV.out
        rw [HE.out,Blk.snoc_eq,hrm,over_app,over_app]
        rw [hrm] at h
        rw [h]
        simp [Blk.over])
      clear hst hta htb hst1 hst2 hr' hlen hrm
      generalize (t.over (room - 1) || e.over (room - 1))=bo at HD1 HOA
      unfold stAgg at HD1
      cases bo
      · go_wp2_with fail
        refine HD1.out.mono ?_
        rintro e' w2 ⟨rfl,hb⟩
        have HB2:=Lib.hid (HB.out.trans (hb.mono HB.out.size))
        clear hb
        go_wp2_with fail
        go_roundg r.len
        case measure=>simp [Blk.len]
        case rel=>exact ⟨q.snoc m t e,r,rfl,HLN.out,val_len q m t e,HE',Lib.hid HOA.out.2,Lib.hid (by rw [Blk.len_snoc];exact HNX.out),HB2⟩
      · go_wp2_with fail
        refine HD1.out.mono ?_
        rintro e' w2 ⟨rfl,hb⟩
        have HB2:=Lib.hid (HB.out.trans (hb.mono HB.out.size))
        clear hb
        go_wp2_with fail
        go_ret
        exact ⟨q.len,rfl,by rw [HOA.out.1];simp,HB2.out⟩
set_option maxRecDepth 100000 in
theorem contains_any (r:Bool) (p:Option Addr) (n cap:Nat) (c:Array Value) (w:World) (HI:Calls Tryz.prog 188 #[.slice p n cap,.func (.func 147) #[] c] w (SomeIdx r w)) :
    Calls Tryz.prog 146 #[.slice p n cap,.func (.func 147) #[] c] w fun e w'=>Made (.returned (.bool r)) w e w':=by
  have H:=Lib.hid HI
  clear HI
  go_enter Tryz.func146,Tryz.ntmps146
  go_wp2_with fail
  refine H.out.mono ?_
  rintro e w1 ⟨z,rfl,hz,hb⟩
  have HB:=Lib.hid hb
  have HZ:=Lib.hid hz
  clear hb hz
  go_wp2_with fail
  go_ret
  exact ⟨ret_bool HZ.out,HB.out⟩
set_option maxRecDepth 100000 in
theorem deeper_any:∀ (n:Nat) (b:Blk),b.size<n->∀ (room:Nat),room<=1000->DeepIs b (room:Nat) (b.over room):=by
  intro n
  induction n with
  | zero=>intro b h;omega
  | succ n ih =>
    intro b hb room hr v w hS
    have h0:Below w.heap.size w (w.alloc (.cells #[.int .i64 (room:Nat)] 3)):=(Below.refl _ _).alloc (Nat.le_refl _) _
    have hI:1<=room->∀ W,Below (w.alloc (.cells #[.int .i64 (room:Nat)] 3)).heap.size (w.alloc (.cells #[.int .i64 (room:Nat)] 3)) W ->
        Calls Tryz.prog 188 #[v,.func (.func 147) #[] #[.pointer (some ⟨w.heap.size,0,none⟩)]] W (SomeIdx (b.over room) W):=fun h1 W hW =>
      index_any b room h1 hr v W w.heap.size ((Sits.new w 3 #[.int .i64 (room:Nat)]).below hW (by simp)) ((hS.below h0).below hW) fun c hc=>by
        have:=ih c (by omega) (room - 1) (by omega)
        rwa [show ((room - 1:Nat):Int)=(room:Int) - 1 by omega] at this
    have HI:=Lib.hid hI
    have HB0:=Lib.hid h0
    obtain ⟨p,cap,rfl,hl⟩:=hS.len
    have hov:b.len=0->b.over room=false:=fun h=>by rw [Blk.len_zero h];simp [Blk.over]
    have hov0:b.len≠0->room=0->b.over room=true:=fun h h'=>by
      subst h'
      cases b with
      | nil=>simp [Blk.len] at h
      | cons m t e r=>simp [Blk.over]
    have i1:(b.len:Int)<=1000000:=by omega
    have i2:(room:Int)<=1000:=by omega
    clear hS h0 hI
    by_cases hb0:b.len=0
    · have HO:=Lib.hid (hov hb0)
      have i3:(b.len:Int)=0:=by omega
      rw [hb0]
      clear hov hov0 i3 hb0 i1 hl
      go_enter Tryz.func96,Tryz.ntmps96
      go_wp2_with fail
      go_ret
      exact ⟨ret_bool HO.out.symm,HB0.out⟩
    · have i3:(0:Int)<(b.len:Int):=by omega
      by_cases hr0:room=0
      · have HO:=Lib.hid (hov0 hb0 hr0)
        subst hr0
        clear hov hov0 hb0 hl
        go_enter Tryz.func96,Tryz.ntmps96
        go_wp2_with fail
        go_ret
        exact ⟨ret_bool HO.out.symm,HB0.out⟩
      · have HI2:=Lib.hid (contains_any (b.over room) p b.len cap _ _ (HI.out (by omega) _ (Below.refl _ _)))
        have z0:((room:Int) == 0)=false:=beq_eq_false_iff_ne.2 (by omega)
        clear hov hov0 hb0 hl hr0 HI
        go_enter Tryz.func96,Tryz.ntmps96
        go_wp2_with fail
        refine HI2.out.mono ?_
        rintro e w1 ⟨rfl,hb⟩
        have HB:=Lib.hid (HB0.out.trans (hb.mono HB0.out.size))
        clear hb
        go_wp2_with fail
        go_ret
        exact ⟨rfl,HB.out⟩
end Go.Proofs.YtbkdappgmcebaaaGreatDoor.Prog
end
