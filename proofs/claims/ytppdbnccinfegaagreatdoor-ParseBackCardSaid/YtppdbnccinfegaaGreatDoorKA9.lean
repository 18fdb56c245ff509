/- Part 10 of the proof: what is used of the texts ExprF. -/
import Derived.Test.YtppdbnccinfegaaGreatDoorKA8
section
namespace Go.Proofs.YtppdbnccinfegaaGreatDoor.Expr
open Go.RowKit Go.Proofs.YtppdbnccinfegaaGreatDoor.Mem Go.Lib
def Ex.size:Ex->Nat
  | .one _ a=>a.size+1
  | .two _ a b=>a.size+b.size+1
  | _=>1
theorem atLeast_len (n k:Nat) (l:List UInt8):(atLeast n k l).length<=l.length+2:=by
  unfold atLeast;split <;> simp
theorem sign_len (op:Nat):(sign op).length<=2:=by
  unfold sign
  by_cases h:op<15
  · have:∀ y:Fin 15,(([[],[61,61],[33,61],[60],[60,61],[43],[45],[124],[94],[42],[47],[37],[38],[33],[45]]:List (List UInt8)).getD y.val []).length<=2:=by decide
    exact this ⟨op,h⟩
  · rw [List.getD_eq_getElem?_getD,List.getElem?_eq_none (by simp;omega)];simp
theorem text_len (e:Ex) (h:e.ok):e.text.length<=28 * e.size:=by
  induction e with
  | num n=>have:=dec_len n h;simp only [Ex.text,Ex.size];omega
  | reg i=>have h':i<8:=h;have:=dec_len i (by omega);simp only [Ex.text,Ex.size,List.length_cons];omega
  | of t i =>
    have h':t<4/\i<8:=h
    have:(dec t).length<=1:=by unfold dec;rw [Lib.decDigits_length,Lib.nDigits_small (by omega)];exact Nat.le_refl _
    have:=dec_len i (by omega);simp only [Ex.text,Ex.size,List.length_cons,List.length_append];omega
  | loc x=>simp [Ex.text,Ex.size]
  | one op a ih =>
    have:=ih h.2;have:=atLeast_len (strongOp op) a.strong a.text;have:=sign_len op
    simp only [Ex.text,Ex.size,List.length_append];omega
  | two op a b iha ihb =>
    have:=iha h.2.2.1;have:=ihb h.2.2.2;have:=atLeast_len (strongOp op) a.strong a.text;have:=atLeast_len (strongOp op+1) b.strong b.text;have:=sign_len op
    simp only [Ex.text,Ex.size,List.length_append,List.length_cons,List.length_nil];omega
theorem size_depth (e:Ex):e.size+1<=2 ^ e.depth:=by
  induction e with
  | one op a ih=>simp only [Ex.size,Ex.depth,Nat.pow_succ];omega
  | two op a b iha ihb =>
    have h1:2 ^ a.depth<=2 ^ max a.depth b.depth:=Nat.pow_le_pow_right (by omega) (Nat.le_max_left _ _)
    have h2:2 ^ b.depth<=2 ^ max a.depth b.depth:=Nat.pow_le_pow_right (by omega) (Nat.le_max_right _ _)
    simp only [Ex.size,Ex.depth,Nat.pow_succ];omega
  | _=>simp [Ex.size,Ex.depth]
theorem text_len12 (e:Ex) (h:e.ok) (hd:e.depth<=12):e.text.length<=114660:=by
  have h1:=text_len e h
  have h2:=size_depth e
  have h3:2 ^ e.depth<=2 ^ 12:=Nat.pow_le_pow_right (by omega) hd
  have h4:(2:Nat) ^ 12=4096:=rfl
  omega
theorem Sp.size {l:List It} {k m:Nat} {e:Ex} (h:Sp l k e m):e.size<=m - k:=by
  induction h with
  | one _ _ _ hs ih=>have:=hs.le;simp only [Ex.size];omega
  | two _ _ _ _ hs1 hs2 ih1 ih2=>have:=hs1.le;have:=hs2.le;simp only [Ex.size];omega
  | _=>simp [Ex.size]
theorem Sp.strong {l:List It} {k m:Nat} {e:Ex} (h:Sp l k e m):∃ a,l[k]? = some a/\strongIt a=e.strong:=by
  cases h with
  | num h hk=>exact ⟨_,h,by unfold strongIt;rw [if_pos (by omega)];rfl⟩
  | reg h hk _=>exact ⟨_,h,by unfold strongIt;rw [if_pos (by omega)];rfl⟩
  | of h hk _ _=>exact ⟨_,h,by unfold strongIt;rw [if_pos (by omega)];rfl⟩
  | loc h hk _ _ _=>exact ⟨_,h,by unfold strongIt;rw [if_pos (by omega)];rfl⟩
  | one h hk ho _=>exact ⟨_,h,by unfold strongIt;rw [if_neg (by omega),if_pos hk];rcases ho with e | e <;> rw [Ex.strong,e] <;> rfl⟩
  | @two _ a e f m j h hk h1 h2 _ _=>exact ⟨a,h,by
      show strongIt a=strongOp a.op
      unfold strongIt strongOp
      rw [if_neg (by omega),if_neg (by omega)]
      by_cases a1:a.op<5
      · rw [if_pos a1,if_pos ⟨h1,by omega⟩]
      · rw [if_neg a1,if_neg (show ¬ (1<=a.op/\a.op<=4) by omega)]
        by_cases a2:a.op<9
        · rw [if_pos a2,if_pos (show 5<=a.op/\a.op<=8 by omega)]
        · rw [if_neg a2,if_neg (show ¬ (5<=a.op/\a.op<=8) by omega),if_pos (show 9<=a.op/\a.op<=12 by omega)]⟩
theorem rsign_any (op:Nat) (h:op<=255) (w:World):Calls Tryz.prog 322 #[.int .u8 op] w fun e w'=>Made (.returned (.string (str (sign op)))) w e w' :=
  (Num.rtext_any op (by omega) (by omega) w).mono fun _ _ h=>h
theorem sign_any (op:Nat) (h:op<=255) (w:World) (hT:Tabs w):Calls Tryz.prog 263 #[.int .u8 op] w fun e w'=>e = .returned (.string (str (sign op)))/\w=w' :=
  (Num.text_any op (by omega) (by omega) w hT.1).mono fun _ _ h=>h
def RText (k:Nat) (e:Ex) (m:Nat) (v:Value) (w:World):Prop :=
  Calls Tryz.prog 249 #[v,.int .i64 (k:Nat)] w fun e' w'=>Made (.returned (.tuple #[.string (str e.text),.int .i64 (m:Nat)])) w e' w'
section
variable (l : List It) (k : Nat) (v : Value) (w : World)
set_option maxRecDepth 100000 in
theorem rtext_num (hv:Row w v l) (op n t i x:Nat) (hn:n<18446744073709551616) (hk:l[k]? = some ⟨0,op,n,t,i,x⟩):RText k (.num n) (k+1) v w:=by
  unfold RText
  obtain ⟨g,o,cap,rfl,hl,hkl,c0,c1,c2,c3,c4,c5⟩:=hv.item hk
  simp only at c0 c1 c2 c3 c4 c5
  have i1:(k:Int)<(l.length:Int):=by omega
  have i2:(0:Int)<=k:=by omega
  have i3:(l.length:Int)<=1000000:=by omega
  clear hv hk
  go_enter Tryz.func249,Tryz.ntmps249
  go_wp2_with fail
  refine (decimal_any n _ hn).mono ?_
  rintro e w1 ⟨rfl,rfl⟩
  go_wp2_with fail
  go_ret2
  exact ⟨rfl,((Below.refl _ _).alloc (Nat.le_refl _) _)⟩
set_option maxRecDepth 100000 in
theorem rtext_reg (hv:Row w v l) (op n t i x:Nat) (hi:i<256) (hk:l[k]? = some ⟨1,op,n,t,i,x⟩):RText k (.reg i) (k+1) v w:=by
  unfold RText
  obtain ⟨g,o,cap,rfl,hl,hkl,c0,c1,c2,c3,c4,c5⟩:=hv.item hk
  simp only at c0 c1 c2 c3 c4 c5
  have i1:(k:Int)<(l.length:Int):=by omega
  have i2:(0:Int)<=k:=by omega
  have i3:(l.length:Int)<=1000000:=by omega
  have l1:=dec_len i (by omega)
  have h1:∀ W,(Op.stringOp .add ⟨#[114]⟩ (str (dec i))).run Tryz.prog W = .ok (.string (str (114 :: dec i))) W:=fun W=>add_str [114] (dec i) (by simp;omega) W
  clear l1
  clear hv hk
  go_enter Tryz.func249,Tryz.ntmps249
  go_wp2_with fail
  refine (decimal_any i _ (by omega)).mono ?_
  rintro e w1 ⟨rfl,rfl⟩
  go_wp2_with fail
  go_ret2
  exact ⟨rfl,((Below.refl _ _).alloc (Nat.le_refl _) _)⟩
set_option maxRecDepth 100000 in
theorem rtext_of (hv:Row w v l) (op n t i x:Nat) (ht:t<256) (hi:i<256) (hk:l[k]? = some ⟨2,op,n,t,i,x⟩):RText k (.of t i) (k+1) v w:=by
  unfold RText
  obtain ⟨g,o,cap,rfl,hl,hkl,c0,c1,c2,c3,c4,c5⟩:=hv.item hk
  simp only at c0 c1 c2 c3 c4 c5
  have i1:(k:Int)<(l.length:Int):=by omega
  have i2:(0:Int)<=k:=by omega
  have i3:(l.length:Int)<=1000000:=by omega
  have l1:=dec_len i (by omega)
  have l2:=dec_len t (by omega)
  have h1:∀ W,(Op.stringOp .add (str (dec t)) ⟨#[58,114]⟩).run Tryz.prog W = .ok (.string (str (dec t ++ [58,114]))) W:=fun W=>add_str (dec t) [58,114] (by simp;omega) W
  have h2:∀ W,(Op.stringOp .add (str (dec t ++ [58,114])) (str (dec i))).run Tryz.prog W = .ok (.string (str (dec t ++ 58 :: 114 :: dec i))) W:=fun W=>by
    rw [add_str _ _ (by simp;omega)];simp
  have w1:IntKind.u64.wrap (t:Int)=t:=IntWalk.u64_in _ (by omega)
  have w2:IntKind.u64.wrap (i:Int)=i:=IntWalk.u64_in _ (by omega)
  have w3:IntKind.i64.wrap ((k:Int)+1)=(k:Int)+1:=IntWalk.i64_in _ (by omega)
  have DT:=Lib.hid (fun W=>decimal_any t W (by omega))
  have DI:=Lib.hid (fun W=>decimal_any i W (by omega))
  clear l1 l2
  clear hv hk
  go_enter Tryz.func249,Tryz.ntmps249
  go_wp2_with fail
  go_quiet ((first | (go_at_call_of 320 (t:Int);exact quiet_eq (DT.out _)) | (go_at_call_of 320 (i:Int);exact quiet_eq (DI.out _))))
  go_wp2_with fail
  go_ret2
  exact ⟨rfl,drewN_below ((Below.refl _ _).alloc (Nat.le_refl _) _) _⟩
set_option maxRecDepth 100000 in
theorem rtext_loc (hv:Row w v l) (op n t i x:Nat) (hx:x<256) (hk:l[k]? = some ⟨3,op,n,t,i,x⟩):RText k (.loc x) (k+1) v w:=by
  unfold RText
  obtain ⟨g,o,cap,rfl,hl,hkl,c0,c1,c2,c3,c4,c5⟩:=hv.item hk
  simp only at c0 c1 c2 c3 c4 c5
  have i1:(k:Int)<(l.length:Int):=by omega
  have i2:(0:Int)<=k:=by omega
  have i3:(l.length:Int)<=1000000:=by omega
  have hcv:(convert 169 9 (.slice (some ⟨w.heap.size+1,0,none⟩) 1 1)).run Tryz.prog ((w.alloc (.cells #[.int .u8 3,.int .u8 op,.int .u64 n,.int .u8 t,.int .u8 i,.int .u8 x] 165)).alloc (.cells #[.int .u8 x] 5)) = .ok (.string (str [x.toUInt8])) ((w.alloc (.cells #[.int .u8 3,.int .u8 op,.int .u64 n,.int .u8 t,.int .u8 i,.int .u8 x] 165)).alloc (.cells #[.int .u8 x] 5)):=by
    refine run_convert_bytes_back (P:=Tryz.prog) ((w.alloc (.cells #[.int .u8 3,.int .u8 op,.int .u64 n,.int .u8 t,.int .u8 i,.int .u8 x] 165)).alloc (.cells #[.int .u8 x] 5)) 169 9 5 ⟨w.heap.size+1,0,none⟩ 1 [x.toUInt8] Tryz.underlying169 Tryz.underlying5 Tryz.underlying9 fun j hj=>?_
    obtain rfl:j=0:=by simpa using hj
    have e:((x.toUInt8.toNat:Nat):Int)=x:=by simp;omega
    show _=some (Value.int .u8 (x.toUInt8.toNat:Int))
    rw [e]
    exact (Sits.made (w:=w.alloc (.cells #[.int .u8 3,.int .u8 op,.int .u64 n,.int .u8 t,.int .u8 i,.int .u8 x] 165)) (by simp) 5 #[.int .u8 x]).cell 0
  clear hv hk
  go_enter Tryz.func249,Tryz.ntmps249
  go_wp2_with fail
  go_ret2
  exact ⟨rfl,((Below.refl _ _).alloc (Nat.le_refl _) _).alloc (by simp) _⟩
end
set_option maxRecDepth 100000 in
set_option maxHeartbeats 1000000 in
theorem rtext_one (l:List It) (k m:Nat) (v:Value) (w:World) (hv:Row w v l) (op n t i x:Nat) (ho:op=13 \/ op=14) (hk:l[k]? = some ⟨4,op,n,t,i,x⟩) (e:Ex) (hs:Sp l (k+1) e m) (hlen:e.text.length<=1000000)
    (ih:∀ W,Below w.heap.size w W->RText (k+1) e m v W):RText k (.one op e) m v w:=by
  unfold RText
  obtain ⟨a1,h1,hst⟩:=hs.strong
  have HA:=Lib.hid (fun W (hb:Below w.heap.size w W)=>hv.below hb)
  have IH:=Lib.hid (fun W hb=>show Calls Tryz.prog 249 #[v,.int .i64 ((k:Int)+1)] W fun e' w'=>Made (.returned (.tuple #[.string (str e.text),.int .i64 (m:Nat)])) W e' w' from ih W hb)
  have hkm:=hs.le
  obtain ⟨g,o,cap,rfl,hl,hkl,c0,c1,c2,c3,c4,c5⟩:=hv.item hk
  simp only at c0 c1 c2 c3 c4 c5
  have i1:(k:Int)+1<(l.length:Int):=by omega
  have i2:(0:Int)<=k:=by omega
  have i3:(l.length:Int)<=1000000:=by omega
  have HI:Hid (∀ W,Below w.heap.size w W->ItemAt W g (o+(k+1) * 6) a1):=Lib.hid fun W hb=>by
    obtain ⟨g',o',cap',hv',_,_,hit⟩:=(HA.out W hb).item h1
    injection hv' with e1 _ _
    injection e1 with e1
    injection e1 with e1 e2
    subst e1;subst e2
    exact hit
  have HS:=Lib.hid (fun W=>rstrength_any a1 W)
  have ET:(Ex.one op e).text=sign op ++ atLeast 4 e.strong e.text:=by rcases ho with rfl | rfl <;> rfl
  rw [ET];clear ET
  obtain ⟨q1,op1,n1,t1,i1',x1⟩:=a1
  have HS2:Hid (∀ W,Calls Tryz.prog 321 #[.agg #[.int .u8 q1,.int .u8 op1,.int .u64 n1,.int .u8 t1,.int .u8 i1',.int .u8 x1]] W fun e' w'=>Made (.returned (.int .i64 (e.strong:Nat))) W e' w'):=Lib.hid fun W=>by rw [<- hst];exact HS.out W
  clear HS hst hs hv hk h1 ih hkm
  generalize e.strong=st at HS2 ⊢
  generalize e.text=tx at IH hlen ⊢
  have h255:op<=255:=by omega
  have sl:=sign_len op
  by_cases hs4:st<4
  · have EA:atLeast 4 st tx=40 :: (tx ++ [41]):=by unfold atLeast;rw [if_pos hs4]
    rw [EA];clear EA
    have p1:∀ W,(Op.stringOp .add ⟨#[40]⟩ (str tx)).run Tryz.prog W = .ok (.string (str (40 :: tx))) W:=fun W=>add_str [40] tx (by simp;omega) W
    have p2:∀ W,(Op.stringOp .add (str (40 :: tx)) ⟨#[41]⟩).run Tryz.prog W = .ok (.string (str (40 :: (tx ++ [41])))) W:=fun W=>add_str (40 :: tx) [41] (by simp;omega) W
    have p3:∀ W,(Op.stringOp .add (str (sign op)) (str (40 :: (tx ++ [41])))).run Tryz.prog W = .ok (.string (str (sign op ++ 40 :: (tx ++ [41])))) W:=fun W=>add_str _ _ (by simp;omega) W
    have i4:(st:Int)<4:=by omega
    clear sl hlen
    go_enter Tryz.func249,Tryz.ntmps249
    go_wp2_with fail
    refine (IH.out _ ((Below.refl _ _).alloc (Nat.le_refl _) _)).mono ?_
    rintro e w1 ⟨rfl,hb⟩
    have S1:=(Sits.new w 165 #[.int .u8 4,.int .u8 op,.int .u64 n,.int .u8 t,.int .u8 i,.int .u8 x]).below hb (by simp)
    have HB1:=Lib.hid (Below.boxed _ _ hb)
    have x0:w1.cell? ⟨w.heap.size,0,none⟩=some (.int .u8 4):=S1.cell 0
    have S1H:=Lib.hid S1
    obtain ⟨d0,d1,d2,d3,d4,d5⟩:=HI.out _ HB1.out
    simp only at d0 d1 d2 d3 d4 d5
    clear hb S1 c0 c1 c2 c3 c4 c5
    go_wp2_with fail
    refine (HS2.out _).mono ?_
    rintro e w2 ⟨rfl,hb⟩
    have S2:=S1H.out.below hb S1H.out.lt
    have HB2:=Lib.hid (HB1.out.trans (hb.mono HB1.out.size))
    have x1':w2.cell? ⟨w.heap.size,1,none⟩=some (.int .u8 op):=S2.cell 1
    clear hb S2 d0 d1 d2 d3 d4 d5 x0
    go_wp2_with fail
    refine (rsign_any op h255 _).mono ?_
    rintro e w3 ⟨rfl,hb⟩
    have HB3:=Lib.hid (HB2.out.trans (hb.mono HB2.out.size))
    clear hb x1'
    go_wp2_with fail
    go_ret2
    exact ⟨rfl,HB3.out⟩
  · have EA:atLeast 4 st tx=tx:=by unfold atLeast;rw [if_neg hs4]
    rw [EA];clear EA
    have p3:∀ W,(Op.stringOp .add (str (sign op)) (str tx)).run Tryz.prog W = .ok (.string (str (sign op ++ tx))) W:=fun W=>add_str _ _ (by omega) W
    have i4:(4:Int)<=(st:Int):=by omega
    clear sl hlen
    go_enter Tryz.func249,Tryz.ntmps249
    go_wp2_with fail
    refine (IH.out _ ((Below.refl _ _).alloc (Nat.le_refl _) _)).mono ?_
    rintro e w1 ⟨rfl,hb⟩
    have S1:=(Sits.new w 165 #[.int .u8 4,.int .u8 op,.int .u64 n,.int .u8 t,.int .u8 i,.int .u8 x]).below hb (by simp)
    have HB1:=Lib.hid (Below.boxed _ _ hb)
    have x0:w1.cell? ⟨w.heap.size,0,none⟩=some (.int .u8 4):=S1.cell 0
    have S1H:=Lib.hid S1
    obtain ⟨d0,d1,d2,d3,d4,d5⟩:=HI.out _ HB1.out
    simp only at d0 d1 d2 d3 d4 d5
    clear hb S1 c0 c1 c2 c3 c4 c5
    go_wp2_with fail
    refine (HS2.out _).mono ?_
    rintro e w2 ⟨rfl,hb⟩
    have S2:=S1H.out.below hb S1H.out.lt
    have HB2:=Lib.hid (HB1.out.trans (hb.mono HB1.out.size))
    have x1':w2.cell? ⟨w.heap.size,1,none⟩=some (.int .u8 op):=S2.cell 1
    clear hb S2 d0 d1 d2 d3 d4 d5 x0
    go_wp2_with fail
    refine (rsign_any op h255 _).mono ?_
    rintro e w3 ⟨rfl,hb⟩
    have HB3:=Lib.hid (HB2.out.trans (hb.mono HB2.out.size))
    clear hb x1'
    go_wp2_with fail
    go_ret2
    exact ⟨rfl,HB3.out⟩
theorem item_keep {l:List It} {g o cap:Nat} {w:World} (h:∀ W,Below w.heap.size w W->Row W (.slice (some ⟨g,o,none⟩) l.length cap) l) {k:Nat} {a:It} (ha:l[k]? = some a):Hid (∀ W,Below w.heap.size w W->ItemAt W g (o+k * 6) a):=Lib.hid fun W hb=>by
  obtain ⟨g',o',cap',hv',_,_,hit⟩:=(h W hb).item ha
  injection hv' with e1 _ _
  injection e1 with e1
  injection e1 with e1 e2
  subst e1;subst e2
  exact hit
set_option maxRecDepth 100000 in
set_option maxHeartbeats 2000000 in
theorem rtext_two11 (l:List It) (k m j:Nat) (w:World) (g o cap op n t i x q1 op1 n1 t1 i1' x1 q2 op2 n2 t2 i2' x2 so se sf:Nat) (te tf:List UInt8) (h255:op<=255)
    (c0:w.cell? ⟨g,o+k * 6,none⟩=some (.int .u8 5)) (c1:w.cell? ⟨g,o+k * 6+1,none⟩=some (.int .u8 op)) (c2:w.cell? ⟨g,o+k * 6+2,none⟩=some (.int .u64 n)) (c3:w.cell? ⟨g,o+k * 6+3,none⟩=some (.int .u8 t)) (c4:w.cell? ⟨g,o+k * 6+4,none⟩=some (.int .u8 i)) (c5:w.cell? ⟨g,o+k * 6+5,none⟩=some (.int .u8 x))
    (i1:(k:Int)+1<(l.length:Int)) (i3:(l.length:Int)<=1000000) (i5:(m:Int)<(l.length:Int)) (i6:(0:Int)<=m)
    (hlen:te.length<=1000000) (hlen2:tf.length<=1000000)
    (IH:Hid (∀ W,Below w.heap.size w W->Calls Tryz.prog 249 #[.slice (some ⟨g,o,none⟩) l.length cap,.int .i64 ((k:Int)+1)] W fun e' w'=>Made (.returned (.tuple #[.string (str te),.int .i64 (m:Nat)])) W e' w'))
    (IH2:Hid (∀ W,Below w.heap.size w W->Calls Tryz.prog 249 #[.slice (some ⟨g,o,none⟩) l.length cap,.int .i64 (m:Nat)] W fun e' w'=>Made (.returned (.tuple #[.string (str tf),.int .i64 (j:Nat)])) W e' w'))
    (HI:Hid (∀ W,Below w.heap.size w W->ItemAt W g (o+(k+1) * 6) ⟨q1,op1,n1,t1,i1',x1⟩)) (HI2:Hid (∀ W,Below w.heap.size w W->ItemAt W g (o+m * 6) ⟨q2,op2,n2,t2,i2',x2⟩))
    (HS0:Hid (∀ W,Calls Tryz.prog 321 #[.agg #[.int .u8 5,.int .u8 op,.int .u64 n,.int .u8 t,.int .u8 i,.int .u8 x]] W fun e' w'=>Made (.returned (.int .i64 (so:Nat))) W e' w'))
    (HS1:Hid (∀ W,Calls Tryz.prog 321 #[.agg #[.int .u8 q1,.int .u8 op1,.int .u64 n1,.int .u8 t1,.int .u8 i1',.int .u8 x1]] W fun e' w'=>Made (.returned (.int .i64 (se:Nat))) W e' w'))
    (HS2:Hid (∀ W,Calls Tryz.prog 321 #[.agg #[.int .u8 q2,.int .u8 op2,.int .u64 n2,.int .u8 t2,.int .u8 i2',.int .u8 x2]] W fun e' w'=>Made (.returned (.int .i64 (sf:Nat))) W e' w'))
    (hA:se<so) (hB:sf<so+1) :
    Calls Tryz.prog 249 #[.slice (some ⟨g,o,none⟩) l.length cap,.int .i64 (k:Nat)] w fun e' w'=>Made (.returned (.tuple #[.string (str (atLeast so se te ++ [32] ++ sign op ++ [32] ++ atLeast (so+1) sf tf)),.int .i64 (j:Nat)])) w e' w':=by
  have sl:=sign_len op
  have i8:decide ((se:Int)<so)=true:=decide_eq_true (by omega)
  have i9:decide ((sf:Int)<=so)=true:=decide_eq_true (by omega)
  have hw:IntKind.i64.wrap ((k:Int)+1)=(k:Int)+1:=IntWalk.i64_in _ (by omega)
  have n1':((k:Int)+1).toNat=k+1:=by omega
  have i7:(0:Int)<=(k:Int)+1:=by omega
  have EA:atLeast so se te=40 :: (te ++ [41]):=by unfold atLeast;rw [if_pos hA]
  have EB:atLeast (so+1) sf tf=40 :: (tf ++ [41]):=by unfold atLeast;rw [if_pos hB]
  rw [EA,EB];clear EA EB
  have a1:∀ W,(Op.stringOp .add ⟨#[40]⟩ (str te)).run Tryz.prog W = .ok (.string (str (40 :: te))) W:=fun W=>add_str [40] te (by simp;omega) W
  have a2:∀ W,(Op.stringOp .add (str (40 :: te)) ⟨#[41]⟩).run Tryz.prog W = .ok (.string (str (40 :: (te ++ [41])))) W:=fun W=>add_str (40 :: te) [41] (by simp;omega) W
  obtain ⟨A,hAe⟩:∃ A,A=40 :: (te ++ [41]):=⟨_,rfl⟩
  have lA:A.length<=1000002:=by rw [hAe];simp;omega
  rw [<- hAe] at a2 ⊢
  clear hAe
  have b1:∀ W,(Op.stringOp .add ⟨#[40]⟩ (str tf)).run Tryz.prog W = .ok (.string (str (40 :: tf))) W:=fun W=>add_str [40] tf (by simp;omega) W
  have b2:∀ W,(Op.stringOp .add (str (40 :: tf)) ⟨#[41]⟩).run Tryz.prog W = .ok (.string (str (40 :: (tf ++ [41])))) W:=fun W=>add_str (40 :: tf) [41] (by simp;omega) W
  obtain ⟨B,hBe⟩:∃ B,B=40 :: (tf ++ [41]):=⟨_,rfl⟩
  have lB:B.length<=1000002:=by rw [hBe];simp;omega
  rw [<- hBe] at b2 ⊢
  clear hBe
  have s1:∀ W,(Op.stringOp .add (str A) ⟨#[32]⟩).run Tryz.prog W = .ok (.string (str (A ++ [32]))) W:=fun W=>add_str A [32] (by simp;omega) W
  obtain ⟨L1,h1⟩:∃ L,L=A ++ [32]:=⟨_,rfl⟩
  have l1:L1.length<=1000003:=by rw [h1];simp;omega
  rw [<- h1] at s1 ⊢
  clear h1
  have s2:∀ W,(Op.stringOp .add (str L1) (str (sign op))).run Tryz.prog W = .ok (.string (str (L1 ++ sign op))) W:=fun W=>add_str L1 (sign op) (by omega) W
  obtain ⟨L2,h2⟩:∃ L,L=L1 ++ sign op:=⟨_,rfl⟩
  have l2:L2.length<=1000005:=by rw [h2];simp;omega
  rw [<- h2] at s2 ⊢
  clear h2
  have s3:∀ W,(Op.stringOp .add (str L2) ⟨#[32]⟩).run Tryz.prog W = .ok (.string (str (L2 ++ [32]))) W:=fun W=>add_str L2 [32] (by simp;omega) W
  obtain ⟨L3,h3⟩:∃ L,L=L2 ++ [32]:=⟨_,rfl⟩
  have l3:L3.length<=1000006:=by rw [h3];simp;omega
  rw [<- h3] at s3 ⊢
  clear h3
  have s4:∀ W,(Op.stringOp .add (str L3) (str B)).run Tryz.prog W = .ok (.string (str (L3 ++ B))) W:=fun W=>add_str L3 B (by omega) W
  obtain ⟨L4,h4⟩:∃ L,L=L3 ++ B:=⟨_,rfl⟩
  rw [<- h4] at s4 ⊢
  clear h4 l1 l2 l3 lA lB sl hlen hlen2
  go_enter Tryz.func249,Tryz.ntmps249
  go_wp2_with fail
  refine (IH.out _ ((Below.refl _ _).alloc (Nat.le_refl _) _)).mono ?_
  rintro e w1 ⟨rfl,hb⟩
  have S1:=Lib.hid ((Sits.new w 165 #[.int .u8 5,.int .u8 op,.int .u64 n,.int .u8 t,.int .u8 i,.int .u8 x]).below hb (by simp))
  have HB1:=Lib.hid (Below.boxed _ _ hb)
  have x0:w1.cell? ⟨w.heap.size,0,none⟩=some (.int .u8 5):=S1.out.cell 0
  clear hb c0 c1 c2 c3 c4 c5
  go_wp2_with fail
  refine (IH2.out _ HB1.out).mono ?_
  rintro e w2 ⟨rfl,hb⟩
  have S2:=Lib.hid (S1.out.below hb S1.out.lt)
  have HB2:=Lib.hid (HB1.out.trans (hb.mono HB1.out.size))
  clear hb x0
  go_wp2_with fail
  have D:=fun y:Within (Under w2)=>HI.out y.now (HB2.out.trans (Below.mono y.ok HB2.out.size))
  have X0:∀ y:Within (Under w2),y.now.cell? ⟨w.heap.size,0,none⟩=some (.int .u8 5):=fun y=>(S2.out.below y.ok S2.out.lt).cell 0
  have X1:∀ y:Within (Under w2),y.now.cell? ⟨w.heap.size,1,none⟩=some (.int .u8 op):=fun y=>(S2.out.below y.ok S2.out.lt).cell 1
  have X2:∀ y:Within (Under w2),y.now.cell? ⟨w.heap.size,2,none⟩=some (.int .u64 n):=fun y=>(S2.out.below y.ok S2.out.lt).cell 2
  have X3:∀ y:Within (Under w2),y.now.cell? ⟨w.heap.size,3,none⟩=some (.int .u8 t):=fun y=>(S2.out.below y.ok S2.out.lt).cell 3
  have X4:∀ y:Within (Under w2),y.now.cell? ⟨w.heap.size,4,none⟩=some (.int .u8 i):=fun y=>(S2.out.below y.ok S2.out.lt).cell 4
  have X5:∀ y:Within (Under w2),y.now.cell? ⟨w.heap.size,5,none⟩=some (.int .u8 x):=fun y=>(S2.out.below y.ok S2.out.lt).cell 5
  unfold ItemAt at D
  simp only at D
  have ne:Nonempty (Within (Under w2)):=⟨⟨_,Under.refl w2⟩⟩
  refine wp_region_within (Under w2) (Under.refl w2) (by kernel_rfl) (by kernel_rfl) ?_
  repeat (go_big_quiet_step (first | (go_at_call_of 321 (q1:Int);exact under_made (HS1.out _)) | (go_at_call_of 321 (op:Int);exact under_made (HS0.out _))))
  refine wpQuiet_nil ?_
  intro w3 hw3
  have hb:Under w2 w3:=by obtain ⟨y,rfl⟩:=hw3;exact y.ok
  have S3:=Lib.hid (S2.out.below hb S2.out.lt)
  have HB3:=Lib.hid (HB2.out.trans (Below.mono hb HB2.out.size))
  clear hb hw3 D X0 X1 X2 X3 X4 X5 ne
  go_wp2_with fail
  have D:=fun y:Within (Under w3)=>HI2.out y.now (HB3.out.trans (Below.mono y.ok HB3.out.size))
  have X0:∀ y:Within (Under w3),y.now.cell? ⟨w.heap.size,0,none⟩=some (.int .u8 5):=fun y=>(S3.out.below y.ok S3.out.lt).cell 0
  have X1:∀ y:Within (Under w3),y.now.cell? ⟨w.heap.size,1,none⟩=some (.int .u8 op):=fun y=>(S3.out.below y.ok S3.out.lt).cell 1
  have X2:∀ y:Within (Under w3),y.now.cell? ⟨w.heap.size,2,none⟩=some (.int .u64 n):=fun y=>(S3.out.below y.ok S3.out.lt).cell 2
  have X3:∀ y:Within (Under w3),y.now.cell? ⟨w.heap.size,3,none⟩=some (.int .u8 t):=fun y=>(S3.out.below y.ok S3.out.lt).cell 3
  have X4:∀ y:Within (Under w3),y.now.cell? ⟨w.heap.size,4,none⟩=some (.int .u8 i):=fun y=>(S3.out.below y.ok S3.out.lt).cell 4
  have X5:∀ y:Within (Under w3),y.now.cell? ⟨w.heap.size,5,none⟩=some (.int .u8 x):=fun y=>(S3.out.below y.ok S3.out.lt).cell 5
  unfold ItemAt at D
  simp only at D
  have ne:Nonempty (Within (Under w3)):=⟨⟨_,Under.refl w3⟩⟩
  refine wp_region_within (Under w3) (Under.refl w3) (by kernel_rfl) (by kernel_rfl) ?_
  repeat (go_big_quiet_step (first | (go_at_call_of 321 (q2:Int);exact under_made (HS2.out _)) | (go_at_call_of 321 (op:Int);exact under_made (HS0.out _))))
  refine wpQuiet_nil ?_
  intro w4 hw4
  have hb:Under w3 w4:=by obtain ⟨y,rfl⟩:=hw4;exact y.ok
  have S4:=S3.out.below hb S3.out.lt
  have x1':w4.cell? ⟨w.heap.size,1,none⟩=some (.int .u8 op):=S4.cell 1
  have HB4:=Lib.hid (HB3.out.trans (Below.mono hb HB3.out.size))
  clear hb hw4 D X0 X1 X2 X3 X4 X5 ne S4
  go_wp2_with fail
  refine (rsign_any op h255 _).mono ?_
  rintro e w5 ⟨rfl,hb⟩
  have HB5:=Lib.hid (HB4.out.trans (hb.mono HB4.out.size))
  clear hb x1'
  go_wp2_with fail
  go_ret2
  exact ⟨rfl,HB5.out⟩
set_option maxRecDepth 100000 in
set_option maxHeartbeats 2000000 in
theorem rtext_two10 (l:List It) (k m j:Nat) (w:World) (g o cap op n t i x q1 op1 n1 t1 i1' x1 q2 op2 n2 t2 i2' x2 so se sf:Nat) (te tf:List UInt8) (h255:op<=255)
    (c0:w.cell? ⟨g,o+k * 6,none⟩=some (.int .u8 5)) (c1:w.cell? ⟨g,o+k * 6+1,none⟩=some (.int .u8 op)) (c2:w.cell? ⟨g,o+k * 6+2,none⟩=some (.int .u64 n)) (c3:w.cell? ⟨g,o+k * 6+3,none⟩=some (.int .u8 t)) (c4:w.cell? ⟨g,o+k * 6+4,none⟩=some (.int .u8 i)) (c5:w.cell? ⟨g,o+k * 6+5,none⟩=some (.int .u8 x))
    (i1:(k:Int)+1<(l.length:Int)) (i3:(l.length:Int)<=1000000) (i5:(m:Int)<(l.length:Int)) (i6:(0:Int)<=m)
    (hlen:te.length<=1000000) (hlen2:tf.length<=1000000)
    (IH:Hid (∀ W,Below w.heap.size w W->Calls Tryz.prog 249 #[.slice (some ⟨g,o,none⟩) l.length cap,.int .i64 ((k:Int)+1)] W fun e' w'=>Made (.returned (.tuple #[.string (str te),.int .i64 (m:Nat)])) W e' w'))
    (IH2:Hid (∀ W,Below w.heap.size w W->Calls Tryz.prog 249 #[.slice (some ⟨g,o,none⟩) l.length cap,.int .i64 (m:Nat)] W fun e' w'=>Made (.returned (.tuple #[.string (str tf),.int .i64 (j:Nat)])) W e' w'))
    (HI:Hid (∀ W,Below w.heap.size w W->ItemAt W g (o+(k+1) * 6) ⟨q1,op1,n1,t1,i1',x1⟩)) (HI2:Hid (∀ W,Below w.heap.size w W->ItemAt W g (o+m * 6) ⟨q2,op2,n2,t2,i2',x2⟩))
    (HS0:Hid (∀ W,Calls Tryz.prog 321 #[.agg #[.int .u8 5,.int .u8 op,.int .u64 n,.int .u8 t,.int .u8 i,.int .u8 x]] W fun e' w'=>Made (.returned (.int .i64 (so:Nat))) W e' w'))
    (HS1:Hid (∀ W,Calls Tryz.prog 321 #[.agg #[.int .u8 q1,.int .u8 op1,.int .u64 n1,.int .u8 t1,.int .u8 i1',.int .u8 x1]] W fun e' w'=>Made (.returned (.int .i64 (se:Nat))) W e' w'))
    (HS2:Hid (∀ W,Calls Tryz.prog 321 #[.agg #[.int .u8 q2,.int .u8 op2,.int .u64 n2,.int .u8 t2,.int .u8 i2',.int .u8 x2]] W fun e' w'=>Made (.returned (.int .i64 (sf:Nat))) W e' w'))
    (hA:se<so) (hB:¬ sf<so+1) :
    Calls Tryz.prog 249 #[.slice (some ⟨g,o,none⟩) l.length cap,.int .i64 (k:Nat)] w fun e' w'=>Made (.returned (.tuple #[.string (str (atLeast so se te ++ [32] ++ sign op ++ [32] ++ atLeast (so+1) sf tf)),.int .i64 (j:Nat)])) w e' w':=by
  have sl:=sign_len op
  have i8:decide ((se:Int)<so)=true:=decide_eq_true (by omega)
  have i9:decide ((sf:Int)<=so)=false:=decide_eq_false (by omega)
  have hw:IntKind.i64.wrap ((k:Int)+1)=(k:Int)+1:=IntWalk.i64_in _ (by omega)
  have n1':((k:Int)+1).toNat=k+1:=by omega
  have i7:(0:Int)<=(k:Int)+1:=by omega
  have EA:atLeast so se te=40 :: (te ++ [41]):=by unfold atLeast;rw [if_pos hA]
  have EB:atLeast (so+1) sf tf=tf:=by unfold atLeast;rw [if_neg hB]
  rw [EA,EB];clear EA EB
  have a1:∀ W,(Op.stringOp .add ⟨#[40]⟩ (str te)).run Tryz.prog W = .ok (.string (str (40 :: te))) W:=fun W=>add_str [40] te (by simp;omega) W
  have a2:∀ W,(Op.stringOp .add (str (40 :: te)) ⟨#[41]⟩).run Tryz.prog W = .ok (.string (str (40 :: (te ++ [41])))) W:=fun W=>add_str (40 :: te) [41] (by simp;omega) W
  obtain ⟨A,hAe⟩:∃ A,A=40 :: (te ++ [41]):=⟨_,rfl⟩
  have lA:A.length<=1000002:=by rw [hAe];simp;omega
  rw [<- hAe] at a2 ⊢
  clear hAe
  obtain ⟨B,hBe⟩:∃ B,B=tf:=⟨_,rfl⟩
  have lB:B.length<=1000002:=by rw [hBe];omega
  subst hBe
  have s1:∀ W,(Op.stringOp .add (str A) ⟨#[32]⟩).run Tryz.prog W = .ok (.string (str (A ++ [32]))) W:=fun W=>add_str A [32] (by simp;omega) W
  obtain ⟨L1,h1⟩:∃ L,L=A ++ [32]:=⟨_,rfl⟩
  have l1:L1.length<=1000003:=by rw [h1];simp;omega
  rw [<- h1] at s1 ⊢
  clear h1
  have s2:∀ W,(Op.stringOp .add (str L1) (str (sign op))).run Tryz.prog W = .ok (.string (str (L1 ++ sign op))) W:=fun W=>add_str L1 (sign op) (by omega) W
  obtain ⟨L2,h2⟩:∃ L,L=L1 ++ sign op:=⟨_,rfl⟩
  have l2:L2.length<=1000005:=by rw [h2];simp;omega
  rw [<- h2] at s2 ⊢
  clear h2
  have s3:∀ W,(Op.stringOp .add (str L2) ⟨#[32]⟩).run Tryz.prog W = .ok (.string (str (L2 ++ [32]))) W:=fun W=>add_str L2 [32] (by simp;omega) W
  obtain ⟨L3,h3⟩:∃ L,L=L2 ++ [32]:=⟨_,rfl⟩
  have l3:L3.length<=1000006:=by rw [h3];simp;omega
  rw [<- h3] at s3 ⊢
  clear h3
  have s4:∀ W,(Op.stringOp .add (str L3) (str B)).run Tryz.prog W = .ok (.string (str (L3 ++ B))) W:=fun W=>add_str L3 B (by omega) W
  obtain ⟨L4,h4⟩:∃ L,L=L3 ++ B:=⟨_,rfl⟩
  rw [<- h4] at s4 ⊢
  clear h4 l1 l2 l3 lA lB sl hlen hlen2
  go_enter Tryz.func249,Tryz.ntmps249
  go_wp2_with fail
  refine (IH.out _ ((Below.refl _ _).alloc (Nat.le_refl _) _)).mono ?_
  rintro e w1 ⟨rfl,hb⟩
  have S1:=Lib.hid ((Sits.new w 165 #[.int .u8 5,.int .u8 op,.int .u64 n,.int .u8 t,.int .u8 i,.int .u8 x]).below hb (by simp))
  have HB1:=Lib.hid (Below.boxed _ _ hb)
  have x0:w1.cell? ⟨w.heap.size,0,none⟩=some (.int .u8 5):=S1.out.cell 0
  clear hb c0 c1 c2 c3 c4 c5
  go_wp2_with fail
  refine (IH2.out _ HB1.out).mono ?_
  rintro e w2 ⟨rfl,hb⟩
  have S2:=Lib.hid (S1.out.below hb S1.out.lt)
  have HB2:=Lib.hid (HB1.out.trans (hb.mono HB1.out.size))
  clear hb x0
  go_wp2_with fail
  have D:=fun y:Within (Under w2)=>HI.out y.now (HB2.out.trans (Below.mono y.ok HB2.out.size))
  have X0:∀ y:Within (Under w2),y.now.cell? ⟨w.heap.size,0,none⟩=some (.int .u8 5):=fun y=>(S2.out.below y.ok S2.out.lt).cell 0
  have X1:∀ y:Within (Under w2),y.now.cell? ⟨w.heap.size,1,none⟩=some (.int .u8 op):=fun y=>(S2.out.below y.ok S2.out.lt).cell 1
  have X2:∀ y:Within (Under w2),y.now.cell? ⟨w.heap.size,2,none⟩=some (.int .u64 n):=fun y=>(S2.out.below y.ok S2.out.lt).cell 2
  have X3:∀ y:Within (Under w2),y.now.cell? ⟨w.heap.size,3,none⟩=some (.int .u8 t):=fun y=>(S2.out.below y.ok S2.out.lt).cell 3
  have X4:∀ y:Within (Under w2),y.now.cell? ⟨w.heap.size,4,none⟩=some (.int .u8 i):=fun y=>(S2.out.below y.ok S2.out.lt).cell 4
  have X5:∀ y:Within (Under w2),y.now.cell? ⟨w.heap.size,5,none⟩=some (.int .u8 x):=fun y=>(S2.out.below y.ok S2.out.lt).cell 5
  unfold ItemAt at D
  simp only at D
  have ne:Nonempty (Within (Under w2)):=⟨⟨_,Under.refl w2⟩⟩
  refine wp_region_within (Under w2) (Under.refl w2) (by kernel_rfl) (by kernel_rfl) ?_
  repeat (go_big_quiet_step (first | (go_at_call_of 321 (q1:Int);exact under_made (HS1.out _)) | (go_at_call_of 321 (op:Int);exact under_made (HS0.out _))))
  refine wpQuiet_nil ?_
  intro w3 hw3
  have hb:Under w2 w3:=by obtain ⟨y,rfl⟩:=hw3;exact y.ok
  have S3:=Lib.hid (S2.out.below hb S2.out.lt)
  have HB3:=Lib.hid (HB2.out.trans (Below.mono hb HB2.out.size))
  clear hb hw3 D X0 X1 X2 X3 X4 X5 ne
  go_wp2_with fail
  have D:=fun y:Within (Under w3)=>HI2.out y.now (HB3.out.trans (Below.mono y.ok HB3.out.size))
  have X0:∀ y:Within (Under w3),y.now.cell? ⟨w.heap.size,0,none⟩=some (.int .u8 5):=fun y=>(S3.out.below y.ok S3.out.lt).cell 0
  have X1:∀ y:Within (Under w3),y.now.cell? ⟨w.heap.size,1,none⟩=some (.int .u8 op):=fun y=>(S3.out.below y.ok S3.out.lt).cell 1
  have X2:∀ y:Within (Under w3),y.now.cell? ⟨w.heap.size,2,none⟩=some (.int .u64 n):=fun y=>(S3.out.below y.ok S3.out.lt).cell 2
  have X3:∀ y:Within (Under w3),y.now.cell? ⟨w.heap.size,3,none⟩=some (.int .u8 t):=fun y=>(S3.out.below y.ok S3.out.lt).cell 3
  have X4:∀ y:Within (Under w3),y.now.cell? ⟨w.heap.size,4,none⟩=some (.int .u8 i):=fun y=>(S3.out.below y.ok S3.out.lt).cell 4
  have X5:∀ y:Within (Under w3),y.now.cell? ⟨w.heap.size,5,none⟩=some (.int .u8 x):=fun y=>(S3.out.below y.ok S3.out.lt).cell 5
  unfold ItemAt at D
  simp only at D
  have ne:Nonempty (Within (Under w3)):=⟨⟨_,Under.refl w3⟩⟩
  refine wp_region_within (Under w3) (Under.refl w3) (by kernel_rfl) (by kernel_rfl) ?_
  repeat (go_big_quiet_step (first | (go_at_call_of 321 (q2:Int);exact under_made (HS2.out _)) | (go_at_call_of 321 (op:Int);exact under_made (HS0.out _))))
  refine wpQuiet_nil ?_
  intro w4 hw4
  have hb:Under w3 w4:=by obtain ⟨y,rfl⟩:=hw4;exact y.ok
  have S4:=S3.out.below hb S3.out.lt
  have x1':w4.cell? ⟨w.heap.size,1,none⟩=some (.int .u8 op):=S4.cell 1
  have HB4:=Lib.hid (HB3.out.trans (Below.mono hb HB3.out.size))
  clear hb hw4 D X0 X1 X2 X3 X4 X5 ne S4
  go_wp2_with fail
  refine (rsign_any op h255 _).mono ?_
  rintro e w5 ⟨rfl,hb⟩
  have HB5:=Lib.hid (HB4.out.trans (hb.mono HB4.out.size))
  clear hb x1'
  go_wp2_with fail
  go_ret2
  exact ⟨rfl,HB5.out⟩
set_option maxRecDepth 100000 in
set_option maxHeartbeats 2000000 in
theorem rtext_two01 (l:List It) (k m j:Nat) (w:World) (g o cap op n t i x q1 op1 n1 t1 i1' x1 q2 op2 n2 t2 i2' x2 so se sf:Nat) (te tf:List UInt8) (h255:op<=255)
    (c0:w.cell? ⟨g,o+k * 6,none⟩=some (.int .u8 5)) (c1:w.cell? ⟨g,o+k * 6+1,none⟩=some (.int .u8 op)) (c2:w.cell? ⟨g,o+k * 6+2,none⟩=some (.int .u64 n)) (c3:w.cell? ⟨g,o+k * 6+3,none⟩=some (.int .u8 t)) (c4:w.cell? ⟨g,o+k * 6+4,none⟩=some (.int .u8 i)) (c5:w.cell? ⟨g,o+k * 6+5,none⟩=some (.int .u8 x))
    (i1:(k:Int)+1<(l.length:Int)) (i3:(l.length:Int)<=1000000) (i5:(m:Int)<(l.length:Int)) (i6:(0:Int)<=m)
    (hlen:te.length<=1000000) (hlen2:tf.length<=1000000)
    (IH:Hid (∀ W,Below w.heap.size w W->Calls Tryz.prog 249 #[.slice (some ⟨g,o,none⟩) l.length cap,.int .i64 ((k:Int)+1)] W fun e' w'=>Made (.returned (.tuple #[.string (str te),.int .i64 (m:Nat)])) W e' w'))
    (IH2:Hid (∀ W,Below w.heap.size w W->Calls Tryz.prog 249 #[.slice (some ⟨g,o,none⟩) l.length cap,.int .i64 (m:Nat)] W fun e' w'=>Made (.returned (.tuple #[.string (str tf),.int .i64 (j:Nat)])) W e' w'))
    (HI:Hid (∀ W,Below w.heap.size w W->ItemAt W g (o+(k+1) * 6) ⟨q1,op1,n1,t1,i1',x1⟩)) (HI2:Hid (∀ W,Below w.heap.size w W->ItemAt W g (o+m * 6) ⟨q2,op2,n2,t2,i2',x2⟩))
    (HS0:Hid (∀ W,Calls Tryz.prog 321 #[.agg #[.int .u8 5,.int .u8 op,.int .u64 n,.int .u8 t,.int .u8 i,.int .u8 x]] W fun e' w'=>Made (.returned (.int .i64 (so:Nat))) W e' w'))
    (HS1:Hid (∀ W,Calls Tryz.prog 321 #[.agg #[.int .u8 q1,.int .u8 op1,.int .u64 n1,.int .u8 t1,.int .u8 i1',.int .u8 x1]] W fun e' w'=>Made (.returned (.int .i64 (se:Nat))) W e' w'))
    (HS2:Hid (∀ W,Calls Tryz.prog 321 #[.agg #[.int .u8 q2,.int .u8 op2,.int .u64 n2,.int .u8 t2,.int .u8 i2',.int .u8 x2]] W fun e' w'=>Made (.returned (.int .i64 (sf:Nat))) W e' w'))
    (hA:¬ se<so) (hB:sf<so+1) :
    Calls Tryz.prog 249 #[.slice (some ⟨g,o,none⟩) l.length cap,.int .i64 (k:Nat)] w fun e' w'=>Made (.returned (.tuple #[.string (str (atLeast so se te ++ [32] ++ sign op ++ [32] ++ atLeast (so+1) sf tf)),.int .i64 (j:Nat)])) w e' w':=by
  have sl:=sign_len op
  have i8:decide ((se:Int)<so)=false:=decide_eq_false (by omega)
  have i9:decide ((sf:Int)<=so)=true:=decide_eq_true (by omega)
  have hw:IntKind.i64.wrap ((k:Int)+1)=(k:Int)+1:=IntWalk.i64_in _ (by omega)
  have n1':((k:Int)+1).toNat=k+1:=by omega
  have i7:(0:Int)<=(k:Int)+1:=by omega
  have EA:atLeast so se te=te:=by unfold atLeast;rw [if_neg hA]
  have EB:atLeast (so+1) sf tf=40 :: (tf ++ [41]):=by unfold atLeast;rw [if_pos hB]
  rw [EA,EB];clear EA EB
  obtain ⟨A,hAe⟩:∃ A,A=te:=⟨_,rfl⟩
  have lA:A.length<=1000002:=by rw [hAe];omega
  subst hAe
  have b1:∀ W,(Op.stringOp .add ⟨#[40]⟩ (str tf)).run Tryz.prog W = .ok (.string (str (40 :: tf))) W:=fun W=>add_str [40] tf (by simp;omega) W
  have b2:∀ W,(Op.stringOp .add (str (40 :: tf)) ⟨#[41]⟩).run Tryz.prog W = .ok (.string (str (40 :: (tf ++ [41])))) W:=fun W=>add_str (40 :: tf) [41] (by simp;omega) W
  obtain ⟨B,hBe⟩:∃ B,B=40 :: (tf ++ [41]):=⟨_,rfl⟩
  have lB:B.length<=1000002:=by rw [hBe];simp;omega
  rw [<- hBe] at b2 ⊢
  clear hBe
  have s1:∀ W,(Op.stringOp .add (str A) ⟨#[32]⟩).run Tryz.prog W = .ok (.string (str (A ++ [32]))) W:=fun W=>add_str A [32] (by simp;omega) W
  obtain ⟨L1,h1⟩:∃ L,L=A ++ [32]:=⟨_,rfl⟩
  have l1:L1.length<=1000003:=by rw [h1];simp;omega
  rw [<- h1] at s1 ⊢
  clear h1
  have s2:∀ W,(Op.stringOp .add (str L1) (str (sign op))).run Tryz.prog W = .ok (.string (str (L1 ++ sign op))) W:=fun W=>add_str L1 (sign op) (by omega) W
  obtain ⟨L2,h2⟩:∃ L,L=L1 ++ sign op:=⟨_,rfl⟩
  have l2:L2.length<=1000005:=by rw [h2];simp;omega
  rw [<- h2] at s2 ⊢
  clear h2
  have s3:∀ W,(Op.stringOp .add (str L2) ⟨#[32]⟩).run Tryz.prog W = .ok (.string (str (L2 ++ [32]))) W:=fun W=>add_str L2 [32] (by simp;omega) W
  obtain ⟨L3,h3⟩:∃ L,L=L2 ++ [32]:=⟨_,rfl⟩
  have l3:L3.length<=1000006:=by rw [h3];simp;omega
  rw [<- h3] at s3 ⊢
  clear h3
  have s4:∀ W,(Op.stringOp .add (str L3) (str B)).run Tryz.prog W = .ok (.string (str (L3 ++ B))) W:=fun W=>add_str L3 B (by omega) W
  obtain ⟨L4,h4⟩:∃ L,L=L3 ++ B:=⟨_,rfl⟩
  rw [<- h4] at s4 ⊢
  clear h4 l1 l2 l3 lA lB sl hlen hlen2
  go_enter Tryz.func249,Tryz.ntmps249
  go_wp2_with fail
  refine (IH.out _ ((Below.refl _ _).alloc (Nat.le_refl _) _)).mono ?_
  rintro e w1 ⟨rfl,hb⟩
  have S1:=Lib.hid ((Sits.new w 165 #[.int .u8 5,.int .u8 op,.int .u64 n,.int .u8 t,.int .u8 i,.int .u8 x]).below hb (by simp))
  have HB1:=Lib.hid (Below.boxed _ _ hb)
  have x0:w1.cell? ⟨w.heap.size,0,none⟩=some (.int .u8 5):=S1.out.cell 0
  clear hb c0 c1 c2 c3 c4 c5
  go_wp2_with fail
  refine (IH2.out _ HB1.out).mono ?_
  rintro e w2 ⟨rfl,hb⟩
  have S2:=Lib.hid (S1.out.below hb S1.out.lt)
  have HB2:=Lib.hid (HB1.out.trans (hb.mono HB1.out.size))
  clear hb x0
  go_wp2_with fail
  have D:=fun y:Within (Under w2)=>HI.out y.now (HB2.out.trans (Below.mono y.ok HB2.out.size))
  have X0:∀ y:Within (Under w2),y.now.cell? ⟨w.heap.size,0,none⟩=some (.int .u8 5):=fun y=>(S2.out.below y.ok S2.out.lt).cell 0
  have X1:∀ y:Within (Under w2),y.now.cell? ⟨w.heap.size,1,none⟩=some (.int .u8 op):=fun y=>(S2.out.below y.ok S2.out.lt).cell 1
  have X2:∀ y:Within (Under w2),y.now.cell? ⟨w.heap.size,2,none⟩=some (.int .u64 n):=fun y=>(S2.out.below y.ok S2.out.lt).cell 2
  have X3:∀ y:Within (Under w2),y.now.cell? ⟨w.heap.size,3,none⟩=some (.int .u8 t):=fun y=>(S2.out.below y.ok S2.out.lt).cell 3
  have X4:∀ y:Within (Under w2),y.now.cell? ⟨w.heap.size,4,none⟩=some (.int .u8 i):=fun y=>(S2.out.below y.ok S2.out.lt).cell 4
  have X5:∀ y:Within (Under w2),y.now.cell? ⟨w.heap.size,5,none⟩=some (.int .u8 x):=fun y=>(S2.out.below y.ok S2.out.lt).cell 5
  unfold ItemAt at D
  simp only at D
  have ne:Nonempty (Within (Under w2)):=⟨⟨_,Under.refl w2⟩⟩
  refine wp_region_within (Under w2) (Under.refl w2) (by kernel_rfl) (by kernel_rfl) ?_
  repeat (go_big_quiet_step (first | (go_at_call_of 321 (q1:Int);exact under_made (HS1.out _)) | (go_at_call_of 321 (op:Int);exact under_made (HS0.out _))))
  refine wpQuiet_nil ?_
  intro w3 hw3
  have hb:Under w2 w3:=by obtain ⟨y,rfl⟩:=hw3;exact y.ok
  have S3:=Lib.hid (S2.out.below hb S2.out.lt)
  have HB3:=Lib.hid (HB2.out.trans (Below.mono hb HB2.out.size))
  clear hb hw3 D X0 X1 X2 X3 X4 X5 ne
  go_wp2_with fail
  have D:=fun y:Within (Under w3)=>HI2.out y.now (HB3.out.trans (Below.mono y.ok HB3.out.size))
  have X0:∀ y:Within (Under w3),y.now.cell? ⟨w.heap.size,0,none⟩=some (.int .u8 5):=fun y=>(S3.out.below y.ok S3.out.lt).cell 0
  have X1:∀ y:Within (Under w3),y.now.cell? ⟨w.heap.size,1,none⟩=some (.int .u8 op):=fun y=>(S3.out.below y.ok S3.out.lt).cell 1
  have X2:∀ y:Within (Under w3),y.now.cell? ⟨w.heap.size,2,none⟩=some (.int .u64 n):=fun y=>(S3.out.below y.ok S3.out.lt).cell 2
  have X3:∀ y:Within (Under w3),y.now.cell? ⟨w.heap.size,3,none⟩=some (.int .u8 t):=fun y=>(S3.out.below y.ok S3.out.lt).cell 3
  have X4:∀ y:Within (Under w3),y.now.cell? ⟨w.heap.size,4,none⟩=some (.int .u8 i):=fun y=>(S3.out.below y.ok S3.out.lt).cell 4
  have X5:∀ y:Within (Under w3),y.now.cell? ⟨w.heap.size,5,none⟩=some (.int .u8 x):=fun y=>(S3.out.below y.ok S3.out.lt).cell 5
  unfold ItemAt at D
  simp only at D
  have ne:Nonempty (Within (Under w3)):=⟨⟨_,Under.refl w3⟩⟩
  refine wp_region_within (Under w3) (Under.refl w3) (by kernel_rfl) (by kernel_rfl) ?_
  repeat (go_big_quiet_step (first | (go_at_call_of 321 (q2:Int);exact under_made (HS2.out _)) | (go_at_call_of 321 (op:Int);exact under_made (HS0.out _))))
  refine wpQuiet_nil ?_
  intro w4 hw4
  have hb:Under w3 w4:=by obtain ⟨y,rfl⟩:=hw4;exact y.ok
  have S4:=S3.out.below hb S3.out.lt
  have x1':w4.cell? ⟨w.heap.size,1,none⟩=some (.int .u8 op):=S4.cell 1
  have HB4:=Lib.hid (HB3.out.trans (Below.mono hb HB3.out.size))
  clear hb hw4 D X0 X1 X2 X3 X4 X5 ne S4
  go_wp2_with fail
  refine (rsign_any op h255 _).mono ?_
  rintro e w5 ⟨rfl,hb⟩
  have HB5:=Lib.hid (HB4.out.trans (hb.mono HB4.out.size))
  clear hb x1'
  go_wp2_with fail
  go_ret2
  exact ⟨rfl,HB5.out⟩
set_option maxRecDepth 100000 in
set_option maxHeartbeats 2000000 in
theorem rtext_two00 (l:List It) (k m j:Nat) (w:World) (g o cap op n t i x q1 op1 n1 t1 i1' x1 q2 op2 n2 t2 i2' x2 so se sf:Nat) (te tf:List UInt8) (h255:op<=255)
    (c0:w.cell? ⟨g,o+k * 6,none⟩=some (.int .u8 5)) (c1:w.cell? ⟨g,o+k * 6+1,none⟩=some (.int .u8 op)) (c2:w.cell? ⟨g,o+k * 6+2,none⟩=some (.int .u64 n)) (c3:w.cell? ⟨g,o+k * 6+3,none⟩=some (.int .u8 t)) (c4:w.cell? ⟨g,o+k * 6+4,none⟩=some (.int .u8 i)) (c5:w.cell? ⟨g,o+k * 6+5,none⟩=some (.int .u8 x))
    (i1:(k:Int)+1<(l.length:Int)) (i3:(l.length:Int)<=1000000) (i5:(m:Int)<(l.length:Int)) (i6:(0:Int)<=m)
    (hlen:te.length<=1000000) (hlen2:tf.length<=1000000)
    (IH:Hid (∀ W,Below w.heap.size w W->Calls Tryz.prog 249 #[.slice (some ⟨g,o,none⟩) l.length cap,.int .i64 ((k:Int)+1)] W fun e' w'=>Made (.returned (.tuple #[.string (str te),.int .i64 (m:Nat)])) W e' w'))
    (IH2:Hid (∀ W,Below w.heap.size w W->Calls Tryz.prog 249 #[.slice (some ⟨g,o,none⟩) l.length cap,.int .i64 (m:Nat)] W fun e' w'=>Made (.returned (.tuple #[.string (str tf),.int .i64 (j:Nat)])) W e' w'))
    (HI:Hid (∀ W,Below w.heap.size w W->ItemAt W g (o+(k+1) * 6) ⟨q1,op1,n1,t1,i1',x1⟩)) (HI2:Hid (∀ W,Below w.heap.size w W->ItemAt W g (o+m * 6) ⟨q2,op2,n2,t2,i2',x2⟩))
    (HS0:Hid (∀ W,Calls Tryz.prog 321 #[.agg #[.int .u8 5,.int .u8 op,.int .u64 n,.int .u8 t,.int .u8 i,.int .u8 x]] W fun e' w'=>Made (.returned (.int .i64 (so:Nat))) W e' w'))
    (HS1:Hid (∀ W,Calls Tryz.prog 321 #[.agg #[.int .u8 q1,.int .u8 op1,.int .u64 n1,.int .u8 t1,.int .u8 i1',.int .u8 x1]] W fun e' w'=>Made (.returned (.int .i64 (se:Nat))) W e' w'))
    (HS2:Hid (∀ W,Calls Tryz.prog 321 #[.agg #[.int .u8 q2,.int .u8 op2,.int .u64 n2,.int .u8 t2,.int .u8 i2',.int .u8 x2]] W fun e' w'=>Made (.returned (.int .i64 (sf:Nat))) W e' w'))
    (hA:¬ se<so) (hB:¬ sf<so+1) :
    Calls Tryz.prog 249 #[.slice (some ⟨g,o,none⟩) l.length cap,.int .i64 (k:Nat)] w fun e' w'=>Made (.returned (.tuple #[.string (str (atLeast so se te ++ [32] ++ sign op ++ [32] ++ atLeast (so+1) sf tf)),.int .i64 (j:Nat)])) w e' w':=by
  have sl:=sign_len op
  have i8:decide ((se:Int)<so)=false:=decide_eq_false (by omega)
  have i9:decide ((sf:Int)<=so)=false:=decide_eq_false (by omega)
  have hw:IntKind.i64.wrap ((k:Int)+1)=(k:Int)+1:=IntWalk.i64_in _ (by omega)
  have n1':((k:Int)+1).toNat=k+1:=by omega
  have i7:(0:Int)<=(k:Int)+1:=by omega
  have EA:atLeast so se te=te:=by unfold atLeast;rw [if_neg hA]
  have EB:atLeast (so+1) sf tf=tf:=by unfold atLeast;rw [if_neg hB]
  rw [EA,EB];clear EA EB
  obtain ⟨A,hAe⟩:∃ A,A=te:=⟨_,rfl⟩
  have lA:A.length<=1000002:=by rw [hAe];omega
  subst hAe
  obtain ⟨B,hBe⟩:∃ B,B=tf:=⟨_,rfl⟩
  have lB:B.length<=1000002:=by rw [hBe];omega
  subst hBe
  have s1:∀ W,(Op.stringOp .add (str A) ⟨#[32]⟩).run Tryz.prog W = .ok (.string (str (A ++ [32]))) W:=fun W=>add_str A [32] (by simp;omega) W
  obtain ⟨L1,h1⟩:∃ L,L=A ++ [32]:=⟨_,rfl⟩
  have l1:L1.length<=1000003:=by rw [h1];simp;omega
  rw [<- h1] at s1 ⊢
  clear h1
  have s2:∀ W,(Op.stringOp .add (str L1) (str (sign op))).run Tryz.prog W = .ok (.string (str (L1 ++ sign op))) W:=fun W=>add_str L1 (sign op) (by omega) W
  obtain ⟨L2,h2⟩:∃ L,L=L1 ++ sign op:=⟨_,rfl⟩
  have l2:L2.length<=1000005:=by rw [h2];simp;omega
  rw [<- h2] at s2 ⊢
  clear h2
  have s3:∀ W,(Op.stringOp .add (str L2) ⟨#[32]⟩).run Tryz.prog W = .ok (.string (str (L2 ++ [32]))) W:=fun W=>add_str L2 [32] (by simp;omega) W
  obtain ⟨L3,h3⟩:∃ L,L=L2 ++ [32]:=⟨_,rfl⟩
  have l3:L3.length<=1000006:=by rw [h3];simp;omega
  rw [<- h3] at s3 ⊢
  clear h3
  have s4:∀ W,(Op.stringOp .add (str L3) (str B)).run Tryz.prog W = .ok (.string (str (L3 ++ B))) W:=fun W=>add_str L3 B (by omega) W
  obtain ⟨L4,h4⟩:∃ L,L=L3 ++ B:=⟨_,rfl⟩
  rw [<- h4] at s4 ⊢
  clear h4 l1 l2 l3 lA lB sl hlen hlen2
  go_enter Tryz.func249,Tryz.ntmps249
  go_wp2_with fail
  refine (IH.out _ ((Below.refl _ _).alloc (Nat.le_refl _) _)).mono ?_
  rintro e w1 ⟨rfl,hb⟩
  have S1:=Lib.hid ((Sits.new w 165 #[.int .u8 5,.int .u8 op,.int .u64 n,.int .u8 t,.int .u8 i,.int .u8 x]).below hb (by simp))
  have HB1:=Lib.hid (Below.boxed _ _ hb)
  have x0:w1.cell? ⟨w.heap.size,0,none⟩=some (.int .u8 5):=S1.out.cell 0
  clear hb c0 c1 c2 c3 c4 c5
  go_wp2_with fail
  refine (IH2.out _ HB1.out).mono ?_
  rintro e w2 ⟨rfl,hb⟩
  have S2:=Lib.hid (S1.out.below hb S1.out.lt)
  have HB2:=Lib.hid (HB1.out.trans (hb.mono HB1.out.size))
  clear hb x0
  go_wp2_with fail
  have D:=fun y:Within (Under w2)=>HI.out y.now (HB2.out.trans (Below.mono y.ok HB2.out.size))
  have X0:∀ y:Within (Under w2),y.now.cell? ⟨w.heap.size,0,none⟩=some (.int .u8 5):=fun y=>(S2.out.below y.ok S2.out.lt).cell 0
  have X1:∀ y:Within (Under w2),y.now.cell? ⟨w.heap.size,1,none⟩=some (.int .u8 op):=fun y=>(S2.out.below y.ok S2.out.lt).cell 1
  have X2:∀ y:Within (Under w2),y.now.cell? ⟨w.heap.size,2,none⟩=some (.int .u64 n):=fun y=>(S2.out.below y.ok S2.out.lt).cell 2
  have X3:∀ y:Within (Under w2),y.now.cell? ⟨w.heap.size,3,none⟩=some (.int .u8 t):=fun y=>(S2.out.below y.ok S2.out.lt).cell 3
  have X4:∀ y:Within (Under w2),y.now.cell? ⟨w.heap.size,4,none⟩=some (.int .u8 i):=fun y=>(S2.out.below y.ok S2.out.lt).cell 4
  have X5:∀ y:Within (Under w2),y.now.cell? ⟨w.heap.size,5,none⟩=some (.int .u8 x):=fun y=>(S2.out.below y.ok S2.out.lt).cell 5
  unfold ItemAt at D
  simp only at D
  have ne:Nonempty (Within (Under w2)):=⟨⟨_,Under.refl w2⟩⟩
  refine wp_region_within (Under w2) (Under.refl w2) (by kernel_rfl) (by kernel_rfl) ?_
  repeat (go_big_quiet_step (first | (go_at_call_of 321 (q1:Int);exact under_made (HS1.out _)) | (go_at_call_of 321 (op:Int);exact under_made (HS0.out _))))
  refine wpQuiet_nil ?_
  intro w3 hw3
  have hb:Under w2 w3:=by obtain ⟨y,rfl⟩:=hw3;exact y.ok
  have S3:=Lib.hid (S2.out.below hb S2.out.lt)
  have HB3:=Lib.hid (HB2.out.trans (Below.mono hb HB2.out.size))
  clear hb hw3 D X0 X1 X2 X3 X4 X5 ne
  go_wp2_with fail
  have D:=fun y:Within (Under w3)=>HI2.out y.now (HB3.out.trans (Below.mono y.ok HB3.out.size))
  have X0:∀ y:Within (Under w3),y.now.cell? ⟨w.heap.size,0,none⟩=some (.int .u8 5):=fun y=>(S3.out.below y.ok S3.out.lt).cell 0
  have X1:∀ y:Within (Under w3),y.now.cell? ⟨w.heap.size,1,none⟩=some (.int .u8 op):=fun y=>(S3.out.below y.ok S3.out.lt).cell 1
  have X2:∀ y:Within (Under w3),y.now.cell? ⟨w.heap.size,2,none⟩=some (.int .u64 n):=fun y=>(S3.out.below y.ok S3.out.lt).cell 2
  have X3:∀ y:Within (Under w3),y.now.cell? ⟨w.heap.size,3,none⟩=some (.int .u8 t):=fun y=>(S3.out.below y.ok S3.out.lt).cell 3
  have X4:∀ y:Within (Under w3),y.now.cell? ⟨w.heap.size,4,none⟩=some (.int .u8 i):=fun y=>(S3.out.below y.ok S3.out.lt).cell 4
  have X5:∀ y:Within (Under w3),y.now.cell? ⟨w.heap.size,5,none⟩=some (.int .u8 x):=fun y=>(S3.out.below y.ok S3.out.lt).cell 5
  unfold ItemAt at D
  simp only at D
  have ne:Nonempty (Within (Under w3)):=⟨⟨_,Under.refl w3⟩⟩
  refine wp_region_within (Under w3) (Under.refl w3) (by kernel_rfl) (by kernel_rfl) ?_
  repeat (go_big_quiet_step (first | (go_at_call_of 321 (q2:Int);exact under_made (HS2.out _)) | (go_at_call_of 321 (op:Int);exact under_made (HS0.out _))))
  refine wpQuiet_nil ?_
  intro w4 hw4
  have hb:Under w3 w4:=by obtain ⟨y,rfl⟩:=hw4;exact y.ok
  have S4:=S3.out.below hb S3.out.lt
  have x1':w4.cell? ⟨w.heap.size,1,none⟩=some (.int .u8 op):=S4.cell 1
  have HB4:=Lib.hid (HB3.out.trans (Below.mono hb HB3.out.size))
  clear hb hw4 D X0 X1 X2 X3 X4 X5 ne S4
  go_wp2_with fail
  refine (rsign_any op h255 _).mono ?_
  rintro e w5 ⟨rfl,hb⟩
  have HB5:=Lib.hid (HB4.out.trans (hb.mono HB4.out.size))
  clear hb x1'
  go_wp2_with fail
  go_ret2
  exact ⟨rfl,HB5.out⟩
set_option maxRecDepth 100000 in
set_option maxHeartbeats 2000000 in
theorem rtext_two (l:List It) (k m j:Nat) (v:Value) (w:World) (hv:Row w v l) (op n t i x:Nat) (o1:1<=op) (o2:op<=12) (hk:l[k]? = some ⟨5,op,n,t,i,x⟩) (e f:Ex) (hs:Sp l (k+1) e m) (hs2:Sp l m f j)
    (hlen:e.text.length<=1000000) (hlen2:f.text.length<=1000000)
    (ih:∀ W,Below w.heap.size w W->RText (k+1) e m v W) (ih2:∀ W,Below w.heap.size w W->RText m f j v W):RText k (.two op e f) j v w:=by
  unfold RText
  obtain ⟨a1,h1,hst⟩:=hs.strong
  obtain ⟨a2,h2,hst2⟩:=hs2.strong
  have HA:=fun W (hb:Below w.heap.size w W)=>hv.below hb
  have IH:=Lib.hid (fun W hb=>show Calls Tryz.prog 249 #[v,.int .i64 ((k:Int)+1)] W fun e' w'=>Made (.returned (.tuple #[.string (str e.text),.int .i64 (m:Nat)])) W e' w' from ih W hb)
  have IH2:=Lib.hid (fun W hb=>show Calls Tryz.prog 249 #[v,.int .i64 (m:Nat)] W fun e' w'=>Made (.returned (.tuple #[.string (str f.text),.int .i64 (j:Nat)])) W e' w' from ih2 W hb)
  have hkm:=hs.le
  have hkj:=hs2.le
  obtain ⟨g,o,cap,rfl,hl,hkl,c0,c1,c2,c3,c4,c5⟩:=hv.item hk
  simp only at c0 c1 c2 c3 c4 c5
  have i1:(k:Int)+1<(l.length:Int):=by omega
  have i3:(l.length:Int)<=1000000:=by omega
  have i5:(m:Int)<(l.length:Int):=by omega
  have i6:(0:Int)<=m:=by omega
  have HI:=item_keep HA h1
  have HI2:=item_keep HA h2
  have HS0:Hid (∀ W,Calls Tryz.prog 321 #[.agg #[.int .u8 5,.int .u8 op,.int .u64 n,.int .u8 t,.int .u8 i,.int .u8 x]] W fun e' w'=>Made (.returned (.int .i64 (strongOp op:Nat))) W e' w'):=Lib.hid fun W=>by
    have e:strongOp op=strongIt ⟨5,op,n,t,i,x⟩:=by
      obtain ⟨a,ha,he⟩:=(Sp.two hk rfl o1 o2 hs hs2).strong
      rw [hk] at ha
      injection ha with ha
      rw [ha,he];rfl
    rw [e];exact rstrength_any _ W
  have ET:(Ex.two op e f).text=atLeast (strongOp op) e.strong e.text ++ [32] ++ sign op ++ [32] ++ atLeast (strongOp op+1) f.strong f.text:=rfl
  rw [ET];clear ET
  obtain ⟨q1,op1,n1,t1,i1',x1⟩:=a1
  obtain ⟨q2,op2,n2,t2,i2',x2⟩:=a2
  have HS1:Hid (∀ W,Calls Tryz.prog 321 #[.agg #[.int .u8 q1,.int .u8 op1,.int .u64 n1,.int .u8 t1,.int .u8 i1',.int .u8 x1]] W fun e' w'=>Made (.returned (.int .i64 (e.strong:Nat))) W e' w'):=Lib.hid fun W=>by rw [<- hst];exact rstrength_any _ W
  have HS2:Hid (∀ W,Calls Tryz.prog 321 #[.agg #[.int .u8 q2,.int .u8 op2,.int .u64 n2,.int .u8 t2,.int .u8 i2',.int .u8 x2]] W fun e' w'=>Made (.returned (.int .i64 (f.strong:Nat))) W e' w'):=Lib.hid fun W=>by rw [<- hst2];exact rstrength_any _ W
  clear hst hst2 hs hs2 hv hk h1 h2 ih ih2 HA
  have h255:op<=255:=by omega
  generalize strongOp op=so at HS0 ⊢
  generalize e.strong=se at HS1 ⊢
  generalize f.strong=sf at HS2 ⊢
  generalize e.text=te at IH hlen ⊢
  generalize f.text=tf at IH2 hlen2 ⊢
  by_cases hA:se<so <;> by_cases hB:sf<so+1
  · exact rtext_two11 l k m j w g o cap op n t i x q1 op1 n1 t1 i1' x1 q2 op2 n2 t2 i2' x2 so se sf te tf h255 c0 c1 c2 c3 c4 c5 i1 i3 i5 i6 hlen hlen2 IH IH2 HI HI2 HS0 HS1 HS2 hA hB
  · exact rtext_two10 l k m j w g o cap op n t i x q1 op1 n1 t1 i1' x1 q2 op2 n2 t2 i2' x2 so se sf te tf h255 c0 c1 c2 c3 c4 c5 i1 i3 i5 i6 hlen hlen2 IH IH2 HI HI2 HS0 HS1 HS2 hA hB
  · exact rtext_two01 l k m j w g o cap op n t i x q1 op1 n1 t1 i1' x1 q2 op2 n2 t2 i2' x2 so se sf te tf h255 c0 c1 c2 c3 c4 c5 i1 i3 i5 i6 hlen hlen2 IH IH2 HI HI2 HS0 HS1 HS2 hA hB
  · exact rtext_two00 l k m j w g o cap op n t i x q1 op1 n1 t1 i1' x1 q2 op2 n2 t2 i2' x2 so se sf te tf h255 c0 c1 c2 c3 c4 c5 i1 i3 i5 i6 hlen hlen2 IH IH2 HI HI2 HS0 HS1 HS2 hA hB
theorem rtext_any {l:List It} (hbd:∀ a ∈ l,a.bd) {k m:Nat} {e:Ex} (h:Sp l k e m):∀ (v:Value) (w:World),l.length<=10000->Row w v l->RText k e m v w:=by
  have ln:∀ {k m:Nat} {e:Ex},Sp l k e m->l.length<=10000->e.text.length<=1000000:=fun {k m e} h hl=>by
    have h1:=text_len e (h.ok hbd)
    have h2:=h.size
    have h3:=h.le
    omega
  induction h with
  | @num k a h hk =>
    intro v w hl hv
    have hb:=hbd a (List.mem_of_getElem? h)
    obtain ⟨q,op,n,t,i,x⟩:=a
    obtain rfl:q=0:=hk
    exact rtext_num l k v w hv op n t i x hb.2.2.1 h
  | @reg k a h hk hi =>
    intro v w hl hv
    obtain ⟨q,op,n,t,i,x⟩:=a
    obtain rfl:q=1:=hk
    exact rtext_reg l k v w hv op n t i x (Nat.lt_trans hi (by decide)) h
  | @of k a h hk ht hi =>
    intro v w hl hv
    obtain ⟨q,op,n,t,i,x⟩:=a
    obtain rfl:q=2:=hk
    exact rtext_of l k v w hv op n t i x (Nat.lt_trans ht (by decide)) (Nat.lt_trans hi (by decide)) h
  | @loc k a h hk h1 h2 h3 =>
    intro v w hl hv
    obtain ⟨q,op,n,t,i,x⟩:=a
    obtain rfl:q=3:=hk
    exact rtext_loc l k v w hv op n t i x (Nat.lt_of_le_of_lt h2 (by decide)) h
  | @one k a e m h hk ho hs ih =>
    intro v w hl hv
    obtain ⟨q,op,n,t,i,x⟩:=a
    obtain rfl:q=4:=hk
    exact rtext_one l k m v w hv op n t i x ho h e hs (ln hs hl) fun W hb=>ih v W hl (hv.below hb)
  | @two k a e f m j h hk h1 h2 hs1 hs2 ih1 ih2 =>
    intro v w hl hv
    obtain ⟨q,op,n,t,i,x⟩:=a
    obtain rfl:q=5:=hk
    exact rtext_two l k m j v w hv op n t i x h1 h2 h e f hs1 hs2 (ln hs1 hl) (ln hs2 hl) (fun W hb=>ih1 v W hl (hv.below hb)) (fun W hb=>ih2 v W hl (hv.below hb))
end Go.Proofs.YtppdbnccinfegaaGreatDoor.Expr
end
