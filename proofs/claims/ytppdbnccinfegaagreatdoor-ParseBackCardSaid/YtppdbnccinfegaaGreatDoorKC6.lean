/- Part 27 of the proof: what is used of the texts StmE, StmT, StmU, StmN. -/
import Derived.Test.YtppdbnccinfegaaGreatDoorKC5
import Derived.Test.YtppdbnccinfegaaGreatDoorKC4
import Derived.Test.YtppdbnccinfegaaGreatDoorKB0
section
namespace Go.Proofs.YtppdbnccinfegaaGreatDoor.Prog
open Go.RowKit Go.Proofs.YtppdbnccinfegaaGreatDoor.Mem Go.Proofs.YtppdbnccinfegaaGreatDoor.Expr Go.Proofs.YtppdbnccinfegaaGreatDoor.Flow Go.Lib
def initCell (i:Nat × Nat):List Value:=[.int .u8 i.1,.int .u64 i.2]
def Inits (w:World) (v:Value) (l:List (Nat × Nat)):Prop:=RowAt any_ w v l.length (l.flatMap initCell)
def Threads (w:World) (v:Value) (bs:List Blk):Prop:=∃ vs:List Value,RowAt any_ w v bs.length vs/\vs.length=bs.length/\∀ (i:Nat) (b:Blk) (u:Value),bs[i]? = some b->vs[i]? = some u->Stand any_ w b u
def testAgg (vi vt:Value) (all:Bool) (va:Value):Value:=.agg #[vi,vt,.bool all,va]
structure TestV (w:World) (t:Ts) (vi vt va:Value):Prop where
  init:Inits w vi t.init
  threads:Threads w vt t.threads
  ask:Tree w (trO t.ask) va
structure Ts.small (t:Ts):Prop where
  init:t.init.length<=1000
  each:∀ i ∈ t.init,i.1<256/\i.2<18446744073709551616
  threads:t.threads.length<=1000
  fine:∀ b ∈ t.threads,b.fine/\b.size<=10000
  ask:okO t.ask
section
variable {w w' : World} {v : Value}
theorem Inits.below {l:List (Nat × Nat)} (h:Inits w v l) (hb:Below w.heap.size w w'):Inits w' v l:=RowAt.below h hb
theorem Threads.below {bs:List Blk} (h:Threads w v bs) (hb:Below w.heap.size w w'):Threads w' v bs:=by
  obtain ⟨vs,h1,h2,h3⟩:=h
  exact ⟨vs,h1.below hb,h2,fun i b u hi hu=>(h3 i b u hi hu).below hb⟩
theorem TestV.below {t:Ts} {vi vt va:Value} (h:TestV w t vi vt va) (hb:Below w.heap.size w w'):TestV w' t vi vt va:=⟨h.init.below hb,h.threads.below hb,h.ask.below hb⟩
theorem initCells_at:∀ (l:List (Nat × Nat)) (k:Nat) (i:Nat × Nat),l[k]? = some i->(l.flatMap initCell)[k * 2]? = some (.int .u8 i.1)/\(l.flatMap initCell)[k * 2+1]? = some (.int .u64 i.2):=by
  intro l
  induction l with
  | nil=>intro k i h;simp at h
  | cons x l ih =>
    intro k i h
    cases k with
    | zero=>simp at h;subst h;exact ⟨rfl,rfl⟩
    | succ k =>
      have:=ih k i (by simpa using h)
      refine ⟨?_,?_⟩
      · rw [show (k+1) * 2=k * 2+2 by omega];simpa [initCell] using this.1
      · rw [show (k+1) * 2+1=(k * 2+1)+2 by omega];simpa [initCell] using this.2
theorem Inits.at {l:List (Nat × Nat)} (h:Inits w v l) {k:Nat} {i:Nat × Nat} (hk:l[k]? = some i):∃ g o cap,v = .slice (some ⟨g,o,none⟩) l.length cap/\w.cell? ⟨g,o+k * 2,none⟩=some (.int .u8 i.1)/\w.cell? ⟨g,o+k * 2+1,none⟩=some (.int .u64 i.2):=by
  rcases h with ⟨h0,_⟩ | ⟨g,o,cap,hv,_,_,hc⟩
  · have:=(List.getElem?_eq_some_iff.1 hk).1;omega
  · have h2:=initCells_at l k i hk
    exact ⟨g,o,cap,hv,hc _ _ h2.1,by rw [Nat.add_assoc];exact hc _ _ h2.2⟩
theorem Threads.at {bs:List Blk} (h:Threads w v bs) {k:Nat} {b:Blk} (hk:bs[k]? = some b):∃ g o cap u,v = .slice (some ⟨g,o,none⟩) bs.length cap/\w.cell? ⟨g,o+k,none⟩=some u/\Stand any_ w b u:=by
  obtain ⟨vs,h1,h2,h3⟩:=h
  have hlt:=(List.getElem?_eq_some_iff.1 hk).1
  have hu:vs[k]? = some vs[k]:=List.getElem?_eq_getElem (by omega)
  rcases h1 with ⟨h0,_⟩ | ⟨g,o,cap,hv,_,_,hc⟩
  · omega
  · exact ⟨g,o,cap,_,hv,hc _ _ hu,h3 k b _ hk hu⟩
theorem Threads.len {bs:List Blk} (h:Threads w v bs):∃ p cap,v = .slice p bs.length cap:=by
  obtain ⟨vs,h1,_⟩:=h
  obtain ⟨p,cap,hv,_⟩:=h1.len
  exact ⟨p,cap,hv⟩
theorem Inits.len {l:List (Nat × Nat)} (h:Inits w v l):∃ p cap,v = .slice p l.length cap:=by
  obtain ⟨p,cap,hv,_⟩:=RowAt.len h
  exact ⟨p,cap,hv⟩
end
theorem quant_any (vi vt va:Value) (p q:Option Addr) (n m c c':Nat) (all:Bool) (hi:vi = .slice p n c) (ht:vt = .slice q m c') (r:Option Addr) (ha:va = .pointer r) (w:World) :
    Calls Tryz.prog 77 #[testAgg vi vt all va] w fun e w'=>Made (.returned (.string (str (quant all)))) w e w':=by
  subst hi ht ha
  unfold testAgg
  cases all
  all_goals
    go_enter Tryz.func77,Tryz.ntmps77
    go_wp2_with fail
    go_ret
    exact ⟨rfl,(Below.refl _ _).alloc (Nat.le_refl _) _⟩
structure Tx (w0:World) (bB gb gm bx:Nat) (cs:Array Value) (l:List UInt8) (W:World):Prop where
  bld:Bld w0 bB l W
  q1:Sits W gb 168 #[.pointer (some ⟨bB,0,none⟩)]
  q2:Sits W gm 9 #[.string (str (indent 0))]
  box:Sits W bx 27 cs
section
variable {w0 W W' : World} {bB gb gm bx : Nat} {cs : Array Value} {l l' : List UInt8}
theorem Tx.grown (h:Tx w0 bB gb gm bx cs l W) (hb:Below W.heap.size W W'):Tx w0 bB gb gm bx cs l W' :=
  ⟨h.bld.grown hb,h.q1.below hb h.q1.lt,h.q2.below hb h.q2.lt,h.box.below hb h.box.lt⟩
theorem Tx.put (h:Tx w0 bB gb gm bx cs l W) (hB:Bld w0 bB l' W') (k:Moved bB W W'):Tx w0 bB gb gm bx cs l' W' :=
  ⟨hB,Sits.moved h.q1 k (by decide) (h.bld.far h.q1 (by decide)),Sits.moved h.q2 k (by decide) (h.bld.far h.q2 (by decide)),Sits.moved h.box k (by decide) (h.bld.far h.box (by decide))⟩
theorem Tx.lineW (h:Tx w0 bB gb gm bx cs l W) (ws:List (List UInt8)) (vw:Value) (hw:Words W vw ws) (hn:ws.length<=100) (hlen:l.length+ws.flatten.length<=110000000000000) :
    Calls Tryz.prog 166 #[vw,.pointer (some ⟨gb,0,none⟩),.pointer (some ⟨gm,0,none⟩)] W fun e w'=>e = .returned (.tuple #[])/\Tx w0 bB gb gm bx cs (l ++ (ws.flatten ++ [10])) w':=by
  refine (put_line w0 bB 0 l ws gb gm _ _ (by omega) h.bld h.q1 h.q2 hw hn hlen).mono ?_
  rintro e w' ⟨rfl,hB,hM⟩
  exact ⟨rfl,h.put hB hM⟩
theorem Tx.line (h:Tx w0 bB gb gm bx cs l W) (x:List UInt8) (hlen:l.length+x.length<=110000000000000) :
    Calls Tryz.prog 166 #[.slice (some ⟨W.heap.size,0,none⟩) 1 1,.pointer (some ⟨gb,0,none⟩),.pointer (some ⟨gm,0,none⟩)] (W.alloc (.cells #[.string (str x)] 9))
      fun e w'=>e = .returned (.tuple #[])/\Tx w0 bB gb gm bx cs (l ++ (x ++ [10])) w':=by
  have h1:=h.grown ((Below.refl _ _).alloc (Nat.le_refl _) (.cells #[.string (str x)] 9))
  have:=h1.lineW [x] _ (words1 W x) (by simp) (by simpa using hlen)
  simpa using this
end
theorem fresh_builder (w:World):Bld w w.heap.size [] (w.alloc (.cells #[.pointer none,.slice none 0 0] tB)) :=
  ⟨.inl ⟨Nat.le_refl _,.slice none 0 0,Sits.new _ _ _,World.ownsRowF_nil _ _ _ _,by simp [Value.ownBlock]⟩,(Below.refl _ _).alloc (Nat.le_refl _) _⟩
theorem initTxt_flat (x n:Nat):[[105,110,105,116,32],[x.toUInt8],[32,61,32],dec n,[59]].flatten ++ [10]=initTxt (x,n):=by simp [initTxt]
theorem initTxt_len (i:Nat × Nat) (h:i.2<18446744073709551616):(initTxt i).length<=40:=by
  have:=dec_len i.2 h
  simp only [initTxt,List.length_cons,List.length_append,List.length_nil];omega
theorem inits_len (l:List (Nat × Nat)) (h:∀ i ∈ l,i.2<18446744073709551616):(l.flatMap initTxt).length<=40 * l.length:=by
  induction l with
  | nil=>simp
  | cons i l ih =>
    have h1:=initTxt_len i (h i List.mem_cons_self)
    have h2:=ih (fun j hj=>h j (List.mem_cons_of_mem _ hj))
    simp only [List.flatMap_cons,List.length_append,List.length_cons];omega
theorem threads_len (l:List Blk) (h:∀ b ∈ l,b.fine/\b.size<=10000):(l.flatMap threadTxt).length<=2400000011 * l.length:=by
  induction l with
  | nil=>simp
  | cons b l ih =>
    have h1:=Blk.text_len (h b List.mem_cons_self).1 1
    have h3:=(h b List.mem_cons_self).2
    have h2:=ih (fun j hj=>h j (List.mem_cons_of_mem _ hj))
    simp only [List.flatMap_cons,List.length_append,List.length_cons,threadTxt,List.length_nil];omega
theorem take_flat {α:Type} (f:α->List UInt8) (l:List α) (k:Nat) (x:α) (h:l[k]? = some x):(l.take (k+1)).flatMap f=(l.take k).flatMap f ++ f x:=by
  obtain ⟨hlt,rfl⟩:=List.getElem?_eq_some_iff.1 h
  rw [List.take_succ_eq_append_getElem hlt,List.flatMap_append];simp
def tBox (w:World) (vi vt:Value) (all:Bool) (va:Value):World:=w.alloc (.cells #[vi,vt,.bool all,va] 27)
def iBox (w:World) (x n:Nat):World:=w.alloc (.cells #[.int .u8 x,.int .u64 n] 54)
set_option maxRecDepth 100000 in
set_option maxHeartbeats 4000000 in
theorem text_test (t:Ts) (ht:t.small) (vi vt va:Value) (w:World) (hX:All w) (hT:TestV w t vi vt va):Calls Tryz.prog 17 #[testAgg vi vt t.all va] w fun e w'=>Made (.returned (.string (str t.text))) w e w':=by
  obtain ⟨pi,ci,rfl⟩:=hT.init.len
  obtain ⟨pt,ct,rfl⟩:=hT.threads.len
  obtain ⟨pa,rfl,_⟩:=hT.ask.ptr
  have hb0:Below w.heap.size w (tBox w (.slice pi t.init.length ci) (.slice pt t.threads.length ct) t.all (.pointer pa)):=(Below.refl _ _).alloc (Nat.le_refl _) _
  have hz:w.heap.size+1=(tBox w (.slice pi t.init.length ci) (.slice pt t.threads.length ct) t.all (.pointer pa)).heap.size:=by simp [tBox]
  have hbx:Sits (tBox w (.slice pi t.init.length ci) (.slice pt t.threads.length ct) t.all (.pointer pa)) w.heap.size 27 #[.slice pi t.init.length ci,.slice pt t.threads.length ct,.bool t.all,.pointer pa]:=Sits.new _ _ _
  have HX:=Lib.hid (hX.below hb0)
  have HT:=Lib.hid (hT.below hb0)
  have HB0:=Lib.hid hb0
  have HBX:=Lib.hid hbx
  have HS:=Lib.hid ht
  have i1:(t.init.length:Int)<=1000:=by have:=ht.init;omega
  have i2:(t.threads.length:Int)<=1000:=by have:=ht.threads;omega
  have HTX:Hid (t.text=t.init.flatMap initTxt ++ (t.threads.flatMap threadTxt ++ (quant t.all ++ 32 :: (exO t.ask ++ [59,10])))):=Lib.hid rfl
  clear hX hT hb0 hbx ht
  unfold testAgg
  go_enter Tryz.func17,Tryz.ntmps17
  go_wp2_with fail
  change Calls _ _ _ ((tBox w (.slice pi t.init.length ci) (.slice pt t.threads.length ct) t.all (.pointer pa)).alloc (.cells #[.pointer none,.slice none 0 0] tB)) _
  generalize tBox w (.slice pi t.init.length ci) (.slice pt t.threads.length ct) t.all (.pointer pa)=w0 at HX HT HB0 HBX hz ⊢
  generalize w.heap.size+1=bB at hz ⊢
  subst hz
  have HFB:=Lib.hid (fresh_builder w0)
  have HBX1:=Lib.hid (HBX.out.alloc (.cells #[.pointer none,.slice none 0 0] tB))
  refine (linesOf_any w0.heap.size 0 (by omega) _).mono ?_
  rintro e w1 ⟨vp,rfl,hp,hb⟩
  obtain ⟨gb,gm,rfl,hp1,hp2⟩:=hp.fn
  have HT1:Hid (Tx w0 w0.heap.size gb gm w.heap.size #[.slice pi t.init.length ci,.slice pt t.threads.length ct,.bool t.all,.pointer pa] [] w1):=Lib.hid ⟨HFB.out.grown hb,hp1,hp2,HBX1.out.below hb HBX1.out.lt⟩
  have c0:=HT1.out.box.cell 0
  have lb:=HT1.out.box.lt
  generalize w.heap.size=bx at HBX HT1 c0 lb ⊢
  clear hp hb hp1 hp2 HFB HBX1
  go_wp2_with fail
  go_loopg [13] t.init.length (fun gg v13 wx=>∃ k,k<=t.init.length/\gg=t.init.length - k/\v13 = .int .i64 (k:Nat)/\Hid (Tx w0 w0.heap.size gb gm bx #[.slice pi t.init.length ci,.slice pt t.threads.length ct,.bool t.all,.pointer pa] ((t.init.take k).flatMap initTxt) wx))
  case atStart=>exact ⟨0,by omega,by omega,rfl,HT1⟩
  case round =>
    obtain ⟨k,hk,rfl,rfl,HTk⟩:=hrel
    by_cases hlt:k<t.init.length
    · have j1:(k:Int)<(t.init.length:Int):=by omega
      have j0:(0:Int)<=(k:Int):=by omega
      have hik:t.init[k]? = some t.init[k]:=List.getElem?_eq_getElem hlt
      obtain ⟨g,o,cap,e1,c1,c2⟩:=(HT.out.init.below HTk.out.bld.low).at hik
      injection e1 with e1 _ e2
      subst e1 e2
      have lg:=World.block_lt_of_cell? _ _ c1
      have HEX:=Lib.hid (HS.out.each _ (List.mem_of_getElem? hik))
      have HFL:=Lib.hid (take_flat initTxt t.init k _ hik)
      generalize t.init[k]=ik at c1 c2 HEX HFL
      obtain ⟨x,n⟩:=ik
      simp only at c1 c2 HEX
      have hx:=HEX.out.1
      have hL:((t.init.take k).flatMap initTxt).length<=40 * k:=by
        have:=inits_len (t.init.take k) (fun i hi=>(HS.out.each i (List.mem_of_mem_take hi)).2)
        rw [List.length_take] at this;omega
      have HL:=Lib.hid hL
      have HTb:Hid (Tx w0 w0.heap.size gb gm bx #[.slice (some ⟨g,o,none⟩) t.init.length ci,.slice pt t.threads.length ct,.bool t.all,.pointer pa] ((t.init.take k).flatMap initTxt) (iBox wr x n)):=Lib.hid (HTk.out.grown ((Below.refl _ _).alloc (Nat.le_refl _) _))
      have HIB:Hid (Sits (iBox wr x n) wr.heap.size 54 #[.int .u8 x,.int .u64 n]):=Lib.hid (Sits.new _ _ _)
      have HK:=Lib.hid hk
      clear hL hik c0 hx hk
      go_wp2_with fail
      change Code.wp _ _ _ _ (iBox wr x n)
      generalize iBox wr x n=wa at HTb HIB ⊢
      generalize wr.heap.size=ib at HIB ⊢
      have HLT:=Lib.hid (fun W=>letter_any x HEX.out.1 W)
      have HFM:=Lib.hid (fun W (h:Below w0.heap.size w0 W)=>formatUint_any n HEX.out.2 W ((HX.out.1.below h).2))
      refine wp_flow [17,18,19,20,21,22,23,24] [eqV (putV gb gm),eqV (.pointer (some ⟨ib,0,none⟩)),eqV (.int .u8 (x:Nat)),eqV (.string (str [x.toUInt8])),eqV (.pointer (some ⟨ib,1,none⟩)),eqV (.int .u64 (n:Nat)),eqV (.string (str (dec n))),
        rowV 9 5 (words [[105,110,105,116,32],[x.toUInt8],[32,61,32],dec n,[59]])] (by kernel_rfl) (by kernel_rfl) (by kernel_rfl) (by rfl)
        (by simp only [List.mem_cons,List.not_mem_nil,or_false,forall_eq_or_imp,forall_eq];refine ⟨?_,?_,?_,?_,?_,?_,?_,?_⟩ <;> first | exact eqV_mono _ | exact rowV_mono _ _ _) ?_ ?_
      · intro i o hi ho A W hW hk he
        simp only [List.length_cons,List.length_nil,Nat.zero_add,Nat.reduceAdd] at hi
        obtain rfl | rfl | rfl | rfl | rfl | rfl | rfl | rfl:i=0 \/ i=1 \/ i=2 \/ i=3 \/ i=4 \/ i=5 \/ i=6 \/ i=7:=by omega
        · injection ho with ho;subst ho
          have h4:A.tmps[4]?.getD undef=putV gb gm:=hk 4 (by rfl)
          unfold putV at h4
          go_simp
          exact ⟨rfl,Below.refl _ _⟩
        · injection ho with ho;subst ho
          have h6:A.tmps[6]?.getD undef = .pointer (some ⟨ib,0,none⟩):=hk 6 (by rfl)
          go_simp
          exact ⟨rfl,Below.refl _ _⟩
        · injection ho with ho;subst ho
          have hs:A.tmps[18]?.getD undef = .pointer (some ⟨ib,0,none⟩):=he 1 (by kernel_rfl)
          have cc:=(HIB.out.below hW HIB.out.lt).cell 0
          go_simp
          exact ⟨rfl,Below.refl _ _⟩
        · injection ho with ho;subst ho
          have hs:A.tmps[19]?.getD undef = .int .u8 (x:Nat):=he 2 (by kernel_rfl)
          go_simp
          refine Calls.mono (HLT.out W) ?_
          rintro e' w' ⟨rfl,hb⟩
          exact ⟨_,rfl,rfl,hb⟩
        · injection ho with ho;subst ho
          have h6:A.tmps[6]?.getD undef = .pointer (some ⟨ib,0,none⟩):=hk 6 (by rfl)
          go_simp
          exact ⟨rfl,Below.refl _ _⟩
        · injection ho with ho;subst ho
          have hs:A.tmps[21]?.getD undef = .pointer (some ⟨ib,1,none⟩):=he 4 (by kernel_rfl)
          have cc:=(HIB.out.below hW HIB.out.lt).cell 1
          go_simp
          exact ⟨rfl,Below.refl _ _⟩
        · injection ho with ho;subst ho
          have hs:A.tmps[22]?.getD undef = .int .u64 (n:Nat):=he 5 (by kernel_rfl)
          go_simp
          refine Calls.mono (HFM.out W (HTb.out.bld.low.trans (hW.mono HTb.out.bld.low.size))) ?_
          rintro e' w' ⟨rfl,hb⟩
          exact ⟨_,rfl,rfl,hb⟩
        · injection ho with ho;subst ho
          have hs3:A.tmps[20]?.getD undef = .string (str [x.toUInt8]):=he 3 (by kernel_rfl)
          have hs6:A.tmps[23]?.getD undef = .string (str (dec n)):=he 6 (by kernel_rfl)
          go_simp
          exact ⟨⟨_,rfl,Sits.new _ _ _⟩,(Below.refl _ _).alloc (Nat.le_refl _) _⟩
      · intro xs W hW hV
        have e0:xs 0=putV gb gm:=hV 0 (by simp)
        obtain ⟨gw,ew,hsits⟩:rowV 9 5 (words [[105,110,105,116,32],[x.toUInt8],[32,61,32],dec n,[59]]) (xs 7) W:=hV 7 (by simp)
        have HOW:=Lib.hid (HTb.out.grown hW)
        have HWS:=Lib.hid hsits
        unfold putV at e0
        simp only [List.length_cons,List.length_nil,Nat.zero_add,Nat.reduceAdd,List.drop_succ_cons,List.drop_zero,putL,Act.put,List.setIfInBounds_toArray,List.set_cons_zero,List.set_cons_succ,e0,ew]
        clear hV hsits hW e0 ew
        go_wp2_with fail
        have hline:=HOW.out.lineW [[105,110,105,116,32],[x.toUInt8],[32,61,32],dec n,[59]] _ ⟨gw,rfl,HWS.out⟩ (by simp) (by
          have h1:=initTxt_len (x,n) HEX.out.2
          have h2:=congrArg List.length (initTxt_flat x n)
          rw [List.length_append] at h2
          have:=HL.out;have:=HK.out;have:=HS.out.init
          simp only [List.length_cons,List.length_nil] at h2
          omega)
        rw [initTxt_flat] at hline
        refine hline.mono ?_
        rintro e' w5 ⟨rfl,hO⟩
        have HO5:=Lib.hid hO
        clear hO hline
        go_wp2_with fail
        go_roundg (t.init.length - (k+1))
        case measure=>omega
        case rel=>exact ⟨k+1,by omega,rfl,by go_num,Lib.hid (by rw [HFL.out];exact HO5.out)⟩
    · obtain rfl:k=t.init.length:=by omega
      have j1:¬ ((t.init.length:Int)<(t.init.length:Int)):=by omega
      rw [List.take_of_length_le (Nat.le_refl _)] at HTk
      have c1:=HTk.out.box.cell 1
      have l1:=HTk.out.box.lt
      clear c0
      have hL1:(t.init.flatMap initTxt).length<=40000:=by
        have:=inits_len t.init (fun i hi=>(HS.out.each i hi).2)
        have:=HS.out.init;omega
      have HL1:=Lib.hid hL1
      clear hL1
      go_wp2_with fail
      go_loopg [30] t.threads.length (fun gg v30 wx=>∃ k,k<=t.threads.length/\gg=t.threads.length - k/\v30 = .int .i64 (k:Nat)/\Hid (Tx w0 w0.heap.size gb gm bx #[.slice pi t.init.length ci,.slice pt t.threads.length ct,.bool t.all,.pointer pa] (t.init.flatMap initTxt ++ (t.threads.take k).flatMap threadTxt) wx))
      case atStart=>exact ⟨0,by omega,by omega,rfl,Lib.hid (by simpa using HTk.out)⟩
      case round =>
        obtain ⟨k,hk,rfl,rfl,HTj⟩:=hrel
        by_cases hlt:k<t.threads.length
        · have j2:(k:Int)<(t.threads.length:Int):=by omega
          have j0:(0:Int)<=(k:Int):=by omega
          have hik:t.threads[k]? = some t.threads[k]:=List.getElem?_eq_getElem hlt
          obtain ⟨g,o,cap,u,e1,c2,hst⟩:=HT.out.threads.at hik
          injection e1 with e1 _ e2
          subst e1 e2
          have c3:=cell_below (U:=any_) HTj.out.bld.low g trivial _ _ c2
          have lg:=World.block_lt_of_cell? _ _ c3
          have HEX:=Lib.hid (HS.out.fine _ (List.mem_of_getElem? hik))
          have HFL:=Lib.hid (take_flat threadTxt t.threads k _ hik)
          have hL2:((t.threads.take k).flatMap threadTxt).length<=2400000011 * 1000:=by
            have:=threads_len (t.threads.take k) (fun b hb=>HS.out.fine b (List.mem_of_mem_take hb))
            have:=HS.out.threads
            rw [List.length_take] at *;omega
          have HL2:=Lib.hid hL2
          have HST:=Lib.hid hst
          obtain ⟨pu,cu,rfl,_⟩:=hst.len
          generalize t.threads[k]=b at HEX HFL HST c2 c3
          have HBL:=Lib.hid (Blk.text_len HEX.out.1 1)
          clear hL2 hst hik hk c2 c1
          go_wp2_with fail
          refine (HTj.out.line [116,104,114,101,97,100,32,123] (by rw [List.length_append];have:=HL1.out;have:=HL2.out;simp only [List.length_cons,List.length_nil];omega)).mono ?_
          rintro e' w3 ⟨rfl,hO⟩
          have HO3:=Lib.hid hO
          clear hO
          go_wp2_with fail
          refine (put_any w0 HX.out w0.heap.size (b.size+1) b (by omega) HEX.out.1 1 (by omega) _ _ _ HST.out HO3.out.bld (by simp only [List.length_append,List.length_cons,List.length_nil];have:=HL1.out;have:=HL2.out;have:=HEX.out.2;omega)).mono ?_
          rintro e' w4 ⟨rfl,hB,hM⟩
          have HO4:=Lib.hid (HO3.out.put hB hM)
          clear hB hM
          go_wp2_with fail
          refine (HO4.out.line [125] (by simp only [List.length_append,List.length_cons,List.length_nil];have:=HL1.out;have:=HL2.out;have:=HEX.out.2;have:=HBL.out;omega)).mono ?_
          rintro e' w5 ⟨rfl,hO⟩
          have HO5:=Lib.hid hO
          clear hO
          go_wp2_with fail
          go_roundg (t.threads.length - (k+1))
          case measure=>omega
          case rel=>exact ⟨k+1,by omega,rfl,by go_num,Lib.hid (by
            rw [HFL.out]
            have h:=HO5.out
            simp only [threadTxt,List.append_assoc,List.cons_append,List.nil_append] at h ⊢
            exact h)⟩
        · obtain rfl:k=t.threads.length:=by omega
          rw [List.take_of_length_le (Nat.le_refl _)] at HTj
          have hL2:(t.threads.flatMap threadTxt).length<=2400000011 * 1000:=by
            have:=threads_len t.threads (fun b hb=>HS.out.fine b hb)
            have:=HS.out.threads
            omega
          have HL2:=Lib.hid hL2
          have HQ:=Lib.hid (fun W=>quant_any (.slice pi t.init.length ci) (.slice pt t.threads.length ct) (.pointer pa) pi pt t.init.length t.threads.length ci ct t.all rfl rfl pa rfl W)
          have HA:=Lib.hid (fun W (h:Below w0.heap.size w0 W)=>textO_any t.ask HS.out.ask (.pointer pa) W (HX.out.1.below h) (HT.out.ask.below h))
          have HAL:=Lib.hid (exO_len HS.out.ask)
          have hql:(quant t.all).length=6:=by cases t.all <;> rfl
          have HQL:=Lib.hid hql
          clear hL2 c1 l1 hql
          go_wp2_with fail
          refine wp_flow [43,44,45,46,47,48,49] [eqV (putV gb gm),eqV (testAgg (.slice pi t.init.length ci) (.slice pt t.threads.length ct) t.all (.pointer pa)),eqV (.string (str (quant t.all))),eqV (.pointer (some ⟨bx,3,none⟩)),eqV (.pointer pa),eqV (.string (str (exO t.ask))),
            rowV 9 4 (words [quant t.all,[32],exO t.ask,[59]])] (by kernel_rfl) (by kernel_rfl) (by kernel_rfl) (by rfl)
            (by simp only [List.mem_cons,List.not_mem_nil,or_false,forall_eq_or_imp,forall_eq];refine ⟨?_,?_,?_,?_,?_,?_,?_⟩ <;> first | exact eqV_mono _ | exact rowV_mono _ _ _) ?_ ?_
          · intro i o hi ho A W hW hk he
            simp only [List.length_cons,List.length_nil,Nat.zero_add,Nat.reduceAdd] at hi
            obtain rfl | rfl | rfl | rfl | rfl | rfl | rfl:i=0 \/ i=1 \/ i=2 \/ i=3 \/ i=4 \/ i=5 \/ i=6:=by omega
            · injection ho with ho;subst ho
              have h4:A.tmps[4]?.getD undef=putV gb gm:=hk 4 (by rfl)
              unfold putV at h4
              go_simp
              exact ⟨rfl,Below.refl _ _⟩
            · injection ho with ho;subst ho
              have h1:A.tmps[1]?.getD undef = .pointer (some ⟨bx,0,none⟩):=hk 1 (by rfl)
              have hO:=HTj.out.grown hW
              have c0:=hO.box.cell 0
              have c1:=hO.box.cell 1
              have c2:=hO.box.cell 2
              have c3:=hO.box.cell 3
              go_simp
              exact ⟨rfl,Below.refl _ _⟩
            · injection ho with ho;subst ho
              have hs:A.tmps[44]?.getD undef=testAgg (.slice pi t.init.length ci) (.slice pt t.threads.length ct) t.all (.pointer pa):=he 1 (by kernel_rfl)
              unfold testAgg at hs
              go_simp
              refine Calls.mono (HQ.out W) ?_
              rintro e' w' ⟨rfl,hb⟩
              exact ⟨_,rfl,rfl,hb⟩
            · injection ho with ho;subst ho
              have h1:A.tmps[1]?.getD undef = .pointer (some ⟨bx,0,none⟩):=hk 1 (by rfl)
              go_simp
              exact ⟨rfl,Below.refl _ _⟩
            · injection ho with ho;subst ho
              have hs:A.tmps[46]?.getD undef = .pointer (some ⟨bx,3,none⟩):=he 3 (by kernel_rfl)
              have cc:=(HTj.out.grown hW).box.cell 3
              go_simp
              exact ⟨rfl,Below.refl _ _⟩
            · injection ho with ho;subst ho
              have hs:A.tmps[47]?.getD undef = .pointer pa:=he 4 (by kernel_rfl)
              go_simp
              refine Calls.mono (HA.out W (HTj.out.grown hW).bld.low) ?_
              rintro e' w' ⟨rfl,hb⟩
              exact ⟨_,rfl,rfl,hb⟩
            · injection ho with ho;subst ho
              have hs2:A.tmps[45]?.getD undef = .string (str (quant t.all)):=he 2 (by kernel_rfl)
              have hs5:A.tmps[48]?.getD undef = .string (str (exO t.ask)):=he 5 (by kernel_rfl)
              go_simp
              exact ⟨⟨_,rfl,Sits.new _ _ _⟩,(Below.refl _ _).alloc (Nat.le_refl _) _⟩
          · intro xs W hW hV
            have e0:xs 0=putV gb gm:=hV 0 (by simp)
            obtain ⟨gw,ew,hsits⟩:rowV 9 4 (words [quant t.all,[32],exO t.ask,[59]]) (xs 6) W:=hV 6 (by simp)
            have HOW:=Lib.hid (HTj.out.grown hW)
            have HWS:=Lib.hid hsits
            unfold putV at e0
            simp only [List.length_cons,List.length_nil,Nat.zero_add,Nat.reduceAdd,List.drop_succ_cons,List.drop_zero,putL,Act.put,List.setIfInBounds_toArray,List.set_cons_zero,List.set_cons_succ,e0,ew]
            clear hV hsits hW e0 ew
            go_wp2_with fail
            refine (HOW.out.lineW [quant t.all,[32],exO t.ask,[59]] _ ⟨gw,rfl,HWS.out⟩ (by simp) (by
              simp only [List.length_append,List.flatten_cons,List.flatten_nil,List.length_cons,List.length_nil]
              have:=HL1.out;have:=HL2.out;have:=HAL.out;have:=HQL.out
              omega)).mono ?_
            rintro e' w5 ⟨rfl,hO⟩
            have HO5:=Lib.hid hO
            clear hO
            go_wp2_with fail
            refine (Tryz.Builder_String_any_k w0.heap.size w0.heap.size _ _ HO5.out.bld.is HO5.out.bld.low.size).mono ?_
            rintro e' w6 ⟨rfl,_,hb,_⟩
            have HB6:=Lib.hid (HB0.out.trans ((HO5.out.bld.low.trans hb).mono HB0.out.size))
            clear hb
            go_wp2_with fail
            go_ret
            refine ⟨?_,HB6.out⟩
            refine ret_str ?_
            rw [HTX.out]
            simp [str]
end Go.Proofs.YtppdbnccinfegaaGreatDoor.Prog
end
section
namespace Go.Proofs.YtppdbnccinfegaaGreatDoor.Prog
open Go.RowKit Go.Proofs.YtppdbnccinfegaaGreatDoor.Mem Go.Proofs.YtppdbnccinfegaaGreatDoor.Expr Go.Lib
structure Rt where
  init:List (Nat × Nat)
  threads:List (List Mark)
  all:Bool
  ask:List It
def MRows (w:World) (v:Value) (ls:List (List Mark)):Prop:=∃ vs:List Value,RowAt any_ w v ls.length vs/\vs.length=ls.length/\∀ (i:Nat) (l:List Mark) (u:Value),ls[i]? = some l->vs[i]? = some u->MRow w u l
structure RtV (w:World) (t:Rt) (vi vt va:Value):Prop where
  init:Inits w vi t.init
  threads:MRows w vt t.threads
  ask:Row w va t.ask
section
variable {w w' : World} {v : Value} {ls : List (List Mark)}
theorem MRows.below (h:MRows w v ls) (hb:Below w.heap.size w w'):MRows w' v ls:=by
  obtain ⟨vs,h1,h2,h3⟩:=h
  exact ⟨vs,h1.below hb,h2,fun i l u hl hu=>(h3 i l u hl hu).below hb⟩
theorem MRows.len (h:MRows w v ls):∃ p cap,v = .slice p ls.length cap/\ls.length<=1000000:=by
  obtain ⟨vs,h1,_⟩:=h
  exact h1.len
theorem MRows.at (h:MRows w v ls) {i:Nat} {l:List Mark} (hl:ls[i]? = some l):∃ g o cap u,v = .slice (some ⟨g,o,none⟩) ls.length cap/\i<ls.length/\w.cell? ⟨g,o+i,none⟩=some u/\MRow w u l:=by
  obtain ⟨vs,h1,h2,h3⟩:=h
  have hi:=(List.getElem?_eq_some_iff.1 hl).1
  have hv:vs[i]? = some vs[i]:=List.getElem?_eq_getElem (by omega)
  rcases h1 with ⟨h0,_⟩ | ⟨g,o,cap,e,_,_,hc⟩
  · omega
  · exact ⟨g,o,cap,_,e,hi,hc i _ hv,h3 i l _ hl hv⟩
theorem RtV.below {t:Rt} {vi vt va:Value} (h:RtV w t vi vt va) (hb:Below w.heap.size w w'):RtV w' t vi vt va:=⟨h.init.below hb,h.threads.below hb,h.ask.below hb⟩
end
def rtCells (vi vt:Value) (all:Bool) (va:Value):Array Value:=#[vi,vt,.bool all,va]
def slim (x:Mark):Prop:=x.a.length<=30/\x.b.length<=30
def lean (l:List Mark):Prop:=l.length<=60/\∀ (i:Nat) (x:Mark),l[i]? = some x->slim x
structure Rt.meek (t:Rt):Prop where
  threads:t.threads.length<=8
  init:t.init.length<=10
  ask:t.ask.length<=30
  each:∀ (i:Nat) (l:List Mark),t.threads[i]? = some l->lean l
def Told (p:Prop) (w:World) (e:Ending) (w':World):Prop:=∃ z,e = .returned (.bool z)/\(z=true->p)/\Below w.heap.size w w'
def Told0 (p:Prop) (w:World) (e:Ending) (w':World):Prop:=∃ z,e = .returned (.bool z)/\(z=false->p)/\Below w.heap.size w w'
end Go.Proofs.YtppdbnccinfegaaGreatDoor.Prog
end
section
namespace Go.Proofs.YtppdbnccinfegaaGreatDoor.Prog
open Go.RowKit Go.Proofs.YtppdbnccinfegaaGreatDoor.Mem Go.Proofs.YtppdbnccinfegaaGreatDoor.Expr Go.Lib
noncomputable def blkOf (l:List Mark):Blk:=(BSp.ex l (l.length+1) 0 (by omega)).choose
noncomputable def endOf (l:List Mark):Nat:=(BSp.ex l (l.length+1) 0 (by omega)).choose_spec.choose
theorem blkOf_sp (l:List Mark):BSp l 0 (blkOf l) (endOf l):=(BSp.ex l (l.length+1) 0 (by omega)).choose_spec.choose_spec
theorem endOf_le {l:List Mark} (h:l.length<=1000000):endOf l<=10000000/\(blkOf l).size<=l.length:=by
  have:=(blkOf_sp l).le;omega
noncomputable def tsOf (t:Rt):Ts:=⟨t.init,t.threads.map blkOf,t.all,exOf t.ask⟩
structure Rt.flat (t:Rt):Prop where
  threads:∀ (i:Nat) (l:List Mark),t.threads[i]? = some l->(blkOf l).deep<=8
  init:∀ (i:Nat) (x:Nat × Nat),t.init[i]? = some x->x.1<=127
set_option maxRecDepth 100000 in
set_option maxHeartbeats 2000000 in
theorem shallow_any (t:Rt) (vi vt va:Value) (w:World) (hT:RtV w t vi vt va):Calls Tryz.prog 19 #[.agg (rtCells vi vt t.all va)] w (Told t.flat w):=by
  obtain ⟨pi,ci,rfl⟩:=hT.init.len
  obtain ⟨pt,ct,rfl,hlt⟩:=hT.threads.len
  obtain ⟨pa,ca,rfl,hla⟩:=hT.ask.len
  obtain ⟨li,lt,al,la⟩:=t
  simp only at hT hlt hla ⊢
  have hli:li.length<=1000000:=by obtain ⟨_,_,_,h⟩:=RowAt.len hT.init;exact h
  have HT:=Lib.hid hT
  have hb:Below w.heap.size w (w.alloc (.cells #[.slice pi li.length ci,.slice pt lt.length ct,.bool al,.slice pa la.length ca] 37)):=(Below.refl _ _).alloc (Nat.le_refl _) _
  have HB0:=Lib.hid hb
  have HBX:=Lib.hid (Sits.new w 37 #[.slice pi li.length ci,.slice pt lt.length ct,.bool al,.slice pa la.length ca])
  have j1:(lt.length:Int)<=1000000:=by omega
  have j2:(li.length:Int)<=1000000:=by omega
  unfold rtCells
  clear hT hb hli hla hlt
  go_enter Tryz.func19,Tryz.ntmps19
  go_wp2_with fail
  generalize w.alloc (.cells #[.slice pi li.length ci,.slice pt lt.length ct,.bool al,.slice pa la.length ca] 37)=w1 at HB0 HBX ⊢
  generalize w.heap.size=gb at HBX ⊢
  go_loopg [3] lt.length (fun gg v3 wx=>∃ j,j<=lt.length/\gg=lt.length - j/\v3 = .int .i64 (j:Nat)/\Hid (Below w1.heap.size w1 wx)/\Hid (∀ (i:Nat) (l:List Mark),i<j->lt[i]? = some l->(blkOf l).deep<=8))
  case atStart=>exact ⟨0,by omega,by omega,rfl,Lib.hid (Below.refl _ _),Lib.hid fun i l h=>by omega⟩
  case round =>
    obtain ⟨j,hj,rfl,rfl,HBj,HF⟩:=hrel
    have hbx:=HBX.out.below HBj.out HBX.out.lt
    have c1:wr.cell? ⟨gb,1,none⟩=some (.slice pt lt.length ct):=hbx.cell 1
    have lb:=hbx.lt
    by_cases hlt:j<lt.length
    · have hx:lt[j]? = some lt[j]:=List.getElem?_eq_getElem hlt
      generalize lt[j]=l at hx
      obtain ⟨g,o,cap',u,e1,_,hc,hm⟩:=(((HT.out.below HB0.out).below HBj.out).threads).at hx
      injection e1 with e1 _ e2
      subst e1 e2
      obtain ⟨pl,cl,rfl,hll⟩:=hm.len
      have hD:=deepRow_any l (l.length+1) 0 (endOf l) (blkOf l) (by omega) (blkOf_sp l) (endOf_le hll).1 _ wr hm
      have dd:((blkOf l).deep:Int)<=1000001:=by have:=deepBlk_size (blkOf l);have:=(endOf_le hll).2;omega
      have HD:=Lib.hid hD
      have lg:=World.block_lt_of_cell? _ _ hc
      have m1:(j:Int)<(lt.length:Int):=by omega
      have m2:(0:Int)<=(j:Int):=by omega
      have HX:=Lib.hid hx
      have HJ:=Lib.hid hlt
      clear hx hm hll hlt hj hD hbx
      go_wp2_with fail
      refine HD.out.mono ?_
      rintro e' w2 ⟨rfl,hb⟩
      have HB2:=Lib.hid (HBj.out.trans (hb.mono HBj.out.size))
      clear hb
      by_cases h8:8<(blkOf l).deep
      · have n1:(8:Int)<((blkOf l).deep:Int):=by omega
        clear h8
        go_wp2_with fail
        go_ret
        exact ⟨false,rfl,by simp,HB0.out.trans (HB2.out.mono HB0.out.size)⟩
      have n1:¬ (8:Int)<((blkOf l).deep:Int):=by omega
      have H8:=Lib.hid (show (blkOf l).deep<=8 by omega)
      clear h8
      go_wp2_with fail
      go_roundg (lt.length - (j+1))
      case measure=>have:=HJ.out;omega
      case rel=>exact ⟨j+1,HJ.out,rfl,by go_num,HB2,Lib.hid fun i y hi hy=>by
        by_cases e:i<j
        · exact HF.out i y e hy
        · obtain rfl:i=j:=by omega
          rw [HX.out] at hy;cases hy;exact H8.out⟩
    · obtain rfl:j=lt.length:=by omega
      have m1:¬ ((lt.length:Int)<(lt.length:Int)):=by omega
      clear hlt hj hbx
      go_wp2_with fail
      generalize wr=w3 at HBj ⊢
      go_loopg [6] li.length (fun gg v6 wx=>∃ j,j<=li.length/\gg=li.length - j/\v6 = .int .i64 (j:Nat)/\Hid (Below w1.heap.size w1 wx)/\Hid (∀ (i:Nat) (x:Nat × Nat),i<j->li[i]? = some x->x.1<=127))
      case atStart=>exact ⟨0,by omega,by omega,rfl,HBj,Lib.hid fun i l h=>by omega⟩
      case round =>
        obtain ⟨k,hk,rfl,rfl,HBk,HG⟩:=hrel
        have hbx:=HBX.out.below HBk.out HBX.out.lt
        have c0:wr.cell? ⟨gb,0,none⟩=some (.slice pi li.length ci):=hbx.cell 0
        have lb:=hbx.lt
        by_cases hkl:k<li.length
        · have hx:li[k]? = some li[k]:=List.getElem?_eq_getElem hkl
          generalize li[k]=x at hx
          have hin:=((HT.out.below HB0.out).below HBk.out).init
          obtain ⟨g,o,cap',e1,d0,_⟩:=hin.at hx
          injection e1 with e1 _ e2
          subst e1 e2
          have lg:=World.block_lt_of_cell? _ _ d0
          have p1:(k:Int)<(li.length:Int):=by omega
          have p0:(0:Int)<=(k:Int):=by omega
          have HX:=Lib.hid hx
          have HK:=Lib.hid hkl
          clear hx hin hkl hk hbx
          by_cases h1:127<x.1
          · have n1:(127:Int)<(x.1:Int):=by omega
            clear h1
            go_wp2_with fail
            go_ret
            exact ⟨false,rfl,by simp,HB0.out.trans (HBk.out.mono HB0.out.size)⟩
          have n1:¬ (127:Int)<(x.1:Int):=by omega
          have H1:=Lib.hid (show x.1<=127 by omega)
          clear h1
          go_wp2_with fail
          go_roundg (li.length - (k+1))
          case measure=>have:=HK.out;omega
          case rel=>exact ⟨k+1,HK.out,rfl,by go_num,HBk,Lib.hid fun i y hi hy=>by
            by_cases e:i<k
            · exact HG.out i y e hy
            · obtain rfl:i=k:=by omega
              rw [HX.out] at hy;cases hy;exact H1.out⟩
        · obtain rfl:k=li.length:=by omega
          have p1:¬ ((li.length:Int)<(li.length:Int)):=by omega
          clear hkl hk hbx
          go_wp2_with fail
          go_ret
          exact ⟨true,rfl,fun _=>⟨fun i l hl=>HF.out i l (List.getElem?_eq_some_iff.1 hl).1 hl,fun i x hx=>HG.out i x (List.getElem?_eq_some_iff.1 hx).1 hx⟩,HB0.out.trans (HBk.out.mono HB0.out.size)⟩
end Go.Proofs.YtppdbnccinfegaaGreatDoor.Prog
end
section
namespace Go.Proofs.YtppdbnccinfegaaGreatDoor.Prog
open Go.RowKit Go.Proofs.YtppdbnccinfegaaGreatDoor.Mem Go.Proofs.YtppdbnccinfegaaGreatDoor.Expr Go.Lib
def modesOf (k:Nat):List Nat:=if k=2 then [1,2,3] else if k=3 then [1,2,4] else if k=4 \/ k=5 \/ k=6 then [2,3,4,5] else if k=7 then [3,4,5,6] else []
def Small (w:World) (v:Value) (l:List Nat):Prop:=(l=[]/\v = .slice none 0 0) \/ ∃ g,v = .slice (some ⟨g,0,none⟩) l.length l.length/\Sits w g 5 (l.map fun (n:Nat)=>Value.int .u8 (n:Int)).toArray
set_option maxRecDepth 100000 in
theorem rowb_any (p:Option Addr) (n c:Nat) (w:World):Calls Tryz.prog 323 #[.slice p n c] w fun e w'=>e = .returned (.slice p n c)/\w=w':=by
  go_enter Tryz.func323,Tryz.ntmps323
  go_wp2_with fail
  go_ret
  exact ⟨rfl,rfl⟩
def ModesMade (k:Nat) (w:World) (e:Ending) (w':World):Prop:=∃ v,e = .returned v/\Small w' v (modesOf k)/\Below w.heap.size w w'
set_option maxRecDepth 100000 in
theorem modes_any (k:Nat) (hk:k<256) (w:World):Calls Tryz.prog 250 #[.int .u8 (k:Nat)] w (ModesMade k w):=by
  by_cases h:k=2 \/ k=3 \/ k=4 \/ k=5 \/ k=6 \/ k=7
  · obtain rfl | rfl | rfl | rfl | rfl | rfl:=h <;>
    · clear hk
      go_enter Tryz.func250,Tryz.ntmps250
      go_wp2_with fail
      refine (rowb_any _ _ _ _).mono ?_
      rintro e w1 ⟨rfl,rfl⟩
      go_wp2_with fail
      go_ret
      exact ⟨_,rfl,.inr ⟨_,rfl,Sits.made (by simp) _ _⟩,(Below.refl _ _).alloc (Nat.le_refl _) _⟩
  · have hm:modesOf k=[]:=by unfold modesOf;rw [if_neg (by omega),if_neg (by omega),if_neg (by omega),if_neg (by omega)]
    have HM:=Lib.hid hm
    have i2:((k:Int) == 2)=false:=beq_eq_false_iff_ne.2 (by omega)
    have i3:((k:Int) == 3)=false:=beq_eq_false_iff_ne.2 (by omega)
    have i4:((k:Int) == 4)=false:=beq_eq_false_iff_ne.2 (by omega)
    have i5:((k:Int) == 5)=false:=beq_eq_false_iff_ne.2 (by omega)
    have i6:((k:Int) == 6)=false:=beq_eq_false_iff_ne.2 (by omega)
    have i7:((k:Int) == 7)=false:=beq_eq_false_iff_ne.2 (by omega)
    clear h hm
    go_enter Tryz.func250,Tryz.ntmps250
    go_wp2_with fail
    go_ret
    exact ⟨_,rfl,.inl ⟨HM.out,rfl⟩,Below.refl _ _⟩
end Go.Proofs.YtppdbnccinfegaaGreatDoor.Prog
end
