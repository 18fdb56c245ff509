/- Part 6 of the proof: what is used of the texts ExprA. -/
import Derived.Test.YtppdbnccinfegaaGreatDoorKA4
import Derived.Test.YtppdbnccinfegaaGreatDoorKA2
import Derived.Test.YtppdbnccinfegaaGreatDoorKA3
import Derived.Test.YtppdbnccinfegaaGreatDoorKA0
import Derived.Lib.ItoaMem
import Derived.Lib.ItoaLen
import Derived.Lib.AppendIntMem
section
namespace Go.Proofs.YtppdbnccinfegaaGreatDoor.Expr
open Go.RowKit Go.Proofs.YtppdbnccinfegaaGreatDoor.Mem Go.Lib
def str (l:List UInt8):ByteArray:=⟨l.toArray⟩
theorem itoa_any (i:Nat) (hi:i<100) (w:World) :
    Calls Tryz.prog 218 #[.int .i64 i] w fun e w'=>e = .returned (.string (str (dec i)))/\w=w' :=
  (Tryz.strconv_Itoa_small i hi w).mono fun _ _ h=>⟨h.1,h.2.symm⟩
theorem add_str {P:Program} (x y:List UInt8) (h:x.length+y.length<=9223372036854775807) (w:World):(Op.stringOp .add (str x) (str y)).run P w = .ok (.string (str (x ++ y))) w:=by
  rw [run_string_add_sum w _ _ (by simpa [str,ByteArray.size] using h)]
  congr 2
theorem dec_len (n:Nat) (h:n<18446744073709551616):(dec n).length<=20:=by
  unfold dec;rw [Lib.decDigits_length];exact Lib.nDigits_le20 n h
theorem register_any (i:Nat) (hi:i<8) (w:World) :
    Calls Tryz.prog 334 #[.int .u8 i] w fun e w'=>e = .returned (.string (str (114 :: dec i)))/\w=w':=by
  have hl:=dec_len i (by omega)
  have h1:∀ W,(Op.stringOp .add ⟨#[114]⟩ (str (dec i))).run Tryz.prog W = .ok (.string (str (114 :: dec i))) W:=fun W=>add_str [114] (dec i) (by simp;omega) W
  go_enter Tryz.func334,Tryz.ntmps334
  go_wp2_with (go_at_call 218;refine (itoa_any _ (by omega) _).mono ?_;rintro e w' ⟨rfl,rfl⟩)
  go_ret
  exact ⟨rfl,rfl⟩
def PowAt (w : World) : Prop := TabIs Tryz.prog w "internal/strconv.uint64pow10" .u64 pow10Tab
theorem PowAt.below {w w':World} (h:PowAt w) (hb:Below w.heap.size w w'):PowAt w':=tabBelow_of_tabIs h w' hb
set_option maxRecDepth 100000 in
set_option maxHeartbeats 3200000 in
theorem format_any (u:Nat) (hu64:u<18446744073709551616) (w:World) (hP:PowAt w) :
    Calls Tryz.prog 169 #[.int .u64 u,.int .i64 10] w fun e w'=>Made (.returned (.string (str (dec u)))) w e w':=by
  by_cases hu:u<100
  · have iu:(u:Int)<100:=by omega
    go_enter Tryz.func169,Tryz.ntmps169
    go_wp2_with (go_at_call 256;refine (Tryz.internal_strconv_small u hu _).mono ?_;rintro e w' ⟨rfl,rfl⟩)
    go_ret
    exact ⟨rfl,Below.refl _ _⟩
  · have hu1:1<=u:=by omega
    have hnd20:nDigits u<=20:=nDigits_le20 u hu64
    have hal:Tryz.prog.arrayLen 363=24:=by kernel_rfl
    have hsl:∀ W,(Instr.sliceAt 363 (.pointer (some ⟨w.heap.size,0,none⟩)) none (some (.int .i64 (nDigits u:Int))) none).run Tryz.prog W = .ok (.slice (some ⟨w.heap.size,0,none⟩) (nDigits u) 24) W:=fun W=>by
      rw [run_sliceAt_array_h W 363 ⟨w.heap.size,0,none⟩ (by kernel_rfl) .i64 (nDigits u:Int) (by omega) (by rw [hal];omega)]
      go_simp
    have hH0:=holds_zero0 w 363 (nDigits u) (by omega)
    have hfmt:=Tryz.internal_strconv_formatBase10 w.heap.size 0 24 u (Array.replicate (nDigits u) 0) (w.alloc (.cells zeros24 363)) hH0 (by rw [Array.size_replicate];exact lt_pow_nDigits u) hu64 (by rw [Array.size_replicate];omega)
    rw [Array.size_replicate] at hfmt
    have HH0:=Lib.hid hH0
    have HF:=Lib.hid hfmt
    have iu:(100:Int)<=(u:Int):=by omega
    clear hH0 hal hfmt
    go_enter Tryz.func169,Tryz.ntmps169
    go_wp2_with (go_at_call 257;refine (Tryz.internal_strconv_numDigits u hu1 hu64 _ (tabIs_alloc hP _)).mono ?_;rintro e w' ⟨rfl,rfl⟩)
    go_at_call 258
    refine HF.out.mono ?_
    rintro e w' ⟨rfl,k,v',dk,rfl,hF⟩
    have hcv:(convert 169 9 (.slice (some ⟨w.heap.size,0,none⟩) (nDigits u) 24)).run Tryz.prog ((Sort.putRow (fun (b:UInt8)=>Value.int .u8 (b.toNat:Int)) (w.alloc (.cells zeros24 363)) w.heap.size 0 dk).drewN k) = .ok (.string (str (dec u))) ((Sort.putRow (fun (b:UInt8)=>Value.int .u8 (b.toNat:Int)) (w.alloc (.cells zeros24 363)) w.heap.size 0 dk).drewN k):=by
      have h:=run_convert_bytes_back (P:=Tryz.prog) ((Sort.putRow (fun (b:UInt8)=>Value.int .u8 (b.toNat:Int)) (w.alloc (.cells zeros24 363)) w.heap.size 0 dk).drewN k) 169 9 5 ⟨w.heap.size,0,none⟩ 24 (decDigits u) Tryz.underlying169 Tryz.underlying5 Tryz.underlying9 (fun j hj=>by
        rw [row_is_numeral hF j hj,add_plain,World.cell?_drewN]
        exact Sort.cell?_putRow (fun (b:UInt8)=>Value.int .u8 (b.toNat:Int)) _ w.heap.size 0 _ dk HH0.out (by rw [hF.size,Array.size_replicate]) j (by rw [hF.size];rw [decDigits_length] at hj;exact hj))
      rw [decDigits_length] at h
      exact h
    have HB:Hid (Below w.heap.size w ((Sort.putRow (fun (b:UInt8)=>Value.int .u8 (b.toNat:Int)) (w.alloc (.cells zeros24 363)) w.heap.size 0 dk).drewN k)):=by
      obtain ⟨os,eo⟩:=fin_at w (.cells zeros24 363) dk k 0
      exact Lib.hid (by rw [eo];exact below_grow w.heap.size w (Nat.le_refl _) k os)
    clear HF
    generalize (Sort.putRow (fun (b:UInt8)=>Value.int .u8 (b.toNat:Int)) (w.alloc (.cells zeros24 363)) w.heap.size 0 dk).drewN k=W at hcv HB ⊢
    go_wp2_with fail
    go_ret
    exact ⟨rfl,HB.out⟩
theorem formatUint_any (u:Nat) (hu64:u<18446744073709551616) (w:World) (hP:PowAt w) :
    Calls Tryz.prog 75 #[.int .u64 u,.int .i64 10] w fun e w'=>Made (.returned (.string (str (dec u)))) w e w':=by
  go_enter Tryz.func75,Tryz.ntmps75
  go_wp2_with fail
  refine (format_any u hu64 _ hP).mono ?_
  rintro e w1 ⟨rfl,hb⟩
  go_wp2_with fail
  go_ret
  exact ⟨rfl,hb⟩
def Tabs (w:World):Prop:=Num.TextsAt w/\PowAt w
theorem Tabs.below {w w':World} (h:Tabs w) (hb:Below w.heap.size w w'):Tabs w':=⟨h.1.below hb,h.2.below hb⟩
def exprCells (a:It) (lv rv:Value):Array Value:=#[.int .u8 a.kind,.int .u8 a.op,.int .u64 a.n,.int .u8 a.t,.int .u8 a.i,.int .u8 a.x,lv,rv]
def leafIt:Ex->It
  | .num n=>⟨0,0,n,0,0,0⟩
  | .reg i=>⟨1,0,0,0,i,0⟩
  | .of t i=>⟨2,0,0,t,i,0⟩
  | .loc x=>⟨3,0,0,0,0,x⟩
  | .one op _=>⟨4,op,0,0,0,0⟩
  | .two op _ _=>⟨5,op,0,0,0,0⟩
def leafVal (e:Ex):Value:=.agg (exprCells (leafIt e) (.pointer none) (.pointer none))
theorem strength_any (op:Nat) (w:World) :
    Calls Tryz.prog 237 #[.int .u8 op] w fun e w'=>e = .returned (.int .i64 (strongOp op))/\w=w':=by
  by_cases h1:1<=op/\op<=4
  · have a1:(1:Int)<=(op:Int):=by omega
    have a2:(op:Int)<=4:=by omega
    have e:strongOp op=1:=by unfold strongOp;rw [if_pos h1]
    rw [e];clear e
    go_enter Tryz.func237,Tryz.ntmps237
    go_wp2
    go_ret
    exact ⟨rfl,rfl⟩
  by_cases h2:5<=op/\op<=8
  · have a1:(5:Int)<=(op:Int):=by omega
    have a2:(op:Int)<=8:=by omega
    have e:strongOp op=2:=by unfold strongOp;rw [if_neg h1,if_pos h2]
    rw [e];clear e
    go_enter Tryz.func237,Tryz.ntmps237
    go_wp2
    go_ret
    exact ⟨rfl,rfl⟩
  by_cases h3:9<=op/\op<=12
  · have a1:(9:Int)<=(op:Int):=by omega
    have a2:(op:Int)<=12:=by omega
    have e:strongOp op=3:=by unfold strongOp;rw [if_neg h1,if_neg h2,if_pos h3]
    rw [e];clear e
    go_enter Tryz.func237,Tryz.ntmps237
    go_wp2
    go_ret
    exact ⟨rfl,rfl⟩
  by_cases h13:op=13
  · subst h13
    go_enter Tryz.func237,Tryz.ntmps237
    go_wp2
    go_ret
    exact ⟨rfl,rfl⟩
  by_cases h14:op=14
  · subst h14
    go_enter Tryz.func237,Tryz.ntmps237
    go_wp2
    go_ret
    exact ⟨rfl,rfl⟩
  have e:strongOp op=0:=by unfold strongOp;rw [if_neg h1,if_neg h2,if_neg h3,if_neg (by omega)]
  rw [e];clear e
  have e1:((op:Int) == 13)=false:=beq_eq_false_iff_ne.2 (by omega)
  have e2:((op:Int) == 14)=false:=beq_eq_false_iff_ne.2 (by omega)
  by_cases hz:op=0
  · subst hz
    go_enter Tryz.func237,Tryz.ntmps237
    go_wp2
    go_ret
    exact ⟨rfl,rfl⟩
  · have a1:(14:Int)<(op:Int):=by omega
    go_enter Tryz.func237,Tryz.ntmps237
    go_wp2
    go_ret
    exact ⟨rfl,rfl⟩
theorem letters_num (n:Nat) (hn:n<18446744073709551616) (w:World) (hT:Tabs w) :
    Calls Tryz.prog 262 #[leafVal (.num n)] w fun e' w'=>Made (.returned (.string (str (dec n)))) w e' w':=by
  have hP:=(Tabs.below hT ((Below.refl _ w).alloc (Nat.le_refl _) (.cells #[.int .u8 0,.int .u8 0,.int .u64 n,.int .u8 0,.int .u8 0,.int .u8 0,.pointer none,.pointer none] 297))).2
  show Calls _ _ #[.agg #[.int .u8 0,.int .u8 0,.int .u64 n,.int .u8 0,.int .u8 0,.int .u8 0,.pointer none,.pointer none]] _ _
  go_enter Tryz.func262,Tryz.ntmps262
  go_wp2_with fail
  go_at_call 75
  refine (formatUint_any n hn _ hP).mono ?_
  rintro e w1 ⟨rfl,hb⟩
  go_wp2_with fail
  go_ret
  exact ⟨rfl,Below.boxed _ _ hb⟩
theorem letters_reg (i:Nat) (hi:i<8) (w:World) :
    Calls Tryz.prog 262 #[leafVal (.reg i)] w fun e' w'=>Made (.returned (.string (str (114 :: dec i)))) w e' w':=by
  show Calls _ _ #[.agg #[.int .u8 1,.int .u8 0,.int .u64 0,.int .u8 0,.int .u8 i,.int .u8 0,.pointer none,.pointer none]] _ _
  go_enter Tryz.func262,Tryz.ntmps262
  go_wp2_with (go_at_call 334;refine (register_any _ hi _).mono ?_;rintro e w' ⟨rfl,rfl⟩)
  go_ret
  exact ⟨rfl,(Below.refl _ _).alloc (Nat.le_refl _) _⟩
theorem letters_of (t i:Nat) (ht:t<4) (hi:i<8) (w:World) :
    Calls Tryz.prog 262 #[leafVal (.of t i)] w fun e' w'=>Made (.returned (.string (str (dec t ++ 58 :: 114 :: dec i)))) w e' w':=by
  have l1:=dec_len t (by omega)
  have l2:=dec_len i (by omega)
  have h1:∀ W,(Op.stringOp .add (str (dec t)) ⟨#[58]⟩).run Tryz.prog W = .ok (.string (str (dec t ++ [58]))) W:=fun W=>add_str (dec t) [58] (by simp;omega) W
  have h2:∀ W,(Op.stringOp .add (str (dec t ++ [58])) (str (114 :: dec i))).run Tryz.prog W = .ok (.string (str (dec t ++ [58] ++ 114 :: dec i))) W:=fun W=>add_str _ _ (by simp;omega) W
  clear l1 l2
  have hw:IntKind.i64.wrap (t:Int)=t:=IntWalk.i64_in _ (by omega)
  show Calls _ _ #[.agg #[.int .u8 2,.int .u8 0,.int .u64 0,.int .u8 t,.int .u8 i,.int .u8 0,.pointer none,.pointer none]] _ _
  go_enter Tryz.func262,Tryz.ntmps262
  go_wp2_with fail
  go_quiet ((first | (go_at_call 218;exact quiet_eq (itoa_any t (Nat.lt_trans ht (by decide)) _)) | (go_at_call 334;exact quiet_eq (register_any i hi _))))
  go_wp2
  go_ret
  exact ⟨rfl,drewN_below ((Below.refl _ _).alloc (Nat.le_refl _) _) _⟩
theorem encode_letter (x:Nat) (hx:97<=x/\x<=122):Utf8.encode x=str [x.toUInt8]:=by
  have h:∀ y:Fin 26,Utf8.encode ((97+y.val:Nat):Int)=str [(97+y.val).toUInt8]:=by decide +kernel
  have:=h ⟨x - 97,by omega⟩
  simp only at this
  rw [show 97+(x - 97)=x by omega] at this
  exact this
theorem letters_loc (x:Nat) (hx:97<=x/\x<=122) (w:World) :
    Calls Tryz.prog 262 #[leafVal (.loc x)] w fun e' w'=>Made (.returned (.string (str [x.toUInt8]))) w e' w':=by
  have HE:=Lib.hid (encode_letter x hx)
  show Calls _ _ #[.agg #[.int .u8 3,.int .u8 0,.int .u64 0,.int .u8 0,.int .u8 0,.int .u8 x,.pointer none,.pointer none]] _ _
  go_enter Tryz.func262,Tryz.ntmps262
  go_wp2_with fail
  go_ret
  exact ⟨ret_str HE.out,(Below.refl _ _).alloc (Nat.le_refl _) _⟩
theorem letters_any (e:Ex) (hl:e.isLeaf=true) (ho:e.ok) (w:World) (hT:Tabs w) :
    Calls Tryz.prog 262 #[leafVal e] w fun e' w'=>Made (.returned (.string (str e.text))) w e' w':=by
  cases e with
  | one op a=>cases hl
  | two op a b=>cases hl
  | num n=>exact letters_num n ho w hT
  | reg i=>exact letters_reg i ho w
  | of t i=>exact letters_of t i ho.1 ho.2 w
  | loc x=>exact letters_loc x ⟨ho.1,ho.2.1⟩ w
theorem atLeast_any (l:List UInt8) (k n:Nat) (hl:l.length<=1000000) (w:World) :
    Calls Tryz.prog 265 #[.agg #[.string (str l),.int .i64 k],.int .i64 n] w fun e' w'=>Made (.returned (.string (str (atLeast n k l)))) w e' w':=by
  by_cases h:k<n
  · have e:atLeast n k l=40 :: (l ++ [41]):=by unfold atLeast;rw [if_pos h]
    rw [e];clear e
    have h1:∀ W,(Op.stringOp .add ⟨#[40]⟩ (str l)).run Tryz.prog W = .ok (.string (str (40 :: l))) W:=fun W=>add_str [40] l (by simp;omega) W
    have h2:∀ W,(Op.stringOp .add (str (40 :: l)) ⟨#[41]⟩).run Tryz.prog W = .ok (.string (str (40 :: (l ++ [41])))) W:=fun W=>add_str (40 :: l) [41] (by simp;omega) W
    have i1:(k:Int)<(n:Int):=by omega
    clear hl
    go_enter Tryz.func265,Tryz.ntmps265
    go_wp2_with fail
    go_ret
    exact ⟨rfl,(Below.refl _ _).alloc (Nat.le_refl _) _⟩
  · have e:atLeast n k l=l:=by unfold atLeast;rw [if_neg h]
    rw [e];clear e
    have i1:(n:Int)<=(k:Int):=by omega
    go_enter Tryz.func265,Tryz.ntmps265
    go_wp2_with fail
    go_ret
    exact ⟨rfl,(Below.refl _ _).alloc (Nat.le_refl _) _⟩
def itVal (a:It):Value:=.agg #[.int .u8 a.kind,.int .u8 a.op,.int .u64 a.n,.int .u8 a.t,.int .u8 a.i,.int .u8 a.x]
theorem leaf_any (a:It) (w:World):Calls Tryz.prog 318 #[itVal a] w fun e' w'=>Made (.returned (.bool (leafOk a))) w e' w':=by
  obtain ⟨k,op,n,t,i,x⟩:=a
  show Calls _ _ #[.agg #[.int .u8 k,.int .u8 op,.int .u64 n,.int .u8 t,.int .u8 i,.int .u8 x]] _ _
  by_cases h0:k=0
  · subst h0
    go_enter Tryz.func318,Tryz.ntmps318
    go_wp2
    go_ret
    exact ⟨rfl,(Below.refl _ _).alloc (Nat.le_refl _) _⟩
  by_cases h1:k=1
  · subst h1
    go_enter Tryz.func318,Tryz.ntmps318
    go_wp2
    go_ret
    exact ⟨ret_bool (by simp [leafOk];omega),(Below.refl _ _).alloc (Nat.le_refl _) _⟩
  by_cases h2:k=2
  · subst h2
    by_cases ht:t<4
    · have e:leafOk ⟨2,op,n,t,i,x⟩=decide ((i:Int)<8):=by simp [leafOk,ht];omega
      rw [e];clear e
      have i1:(t:Int)<4:=by omega
      go_enter Tryz.func318,Tryz.ntmps318
      go_wp2
      go_ret
      exact ⟨rfl,(Below.refl _ _).alloc (Nat.le_refl _) _⟩
    · have e:leafOk ⟨2,op,n,t,i,x⟩=false:=by simp [leafOk,ht]
      rw [e];clear e
      have i1:(4:Int)<=t:=by omega
      go_enter Tryz.func318,Tryz.ntmps318
      go_wp2
      go_ret
      exact ⟨rfl,(Below.refl _ _).alloc (Nat.le_refl _) _⟩
  by_cases h3:k=3
  · subst h3
    by_cases ha:97<=x
    · have i1:(97:Int)<=x:=by omega
      by_cases hb:x<=122
      · have e:leafOk ⟨3,op,n,t,i,x⟩=((x:Int) != 114):=by
          by_cases hx:x=114
          · subst hx;rfl
          · have h:((x:Int) != 114)=true:=by rw [bne_iff_ne];omega
            rw [h];simp [leafOk,ha,hb,hx]
        rw [e];clear e
        have i2:(x:Int)<=122:=by omega
        go_enter Tryz.func318,Tryz.ntmps318
        go_wp2
        go_ret
        exact ⟨rfl,(Below.refl _ _).alloc (Nat.le_refl _) _⟩
      · have e:leafOk ⟨3,op,n,t,i,x⟩=false:=by simp [leafOk,hb]
        rw [e];clear e
        have i2:(122:Int)<x:=by omega
        go_enter Tryz.func318,Tryz.ntmps318
        go_wp2
        go_ret
        exact ⟨rfl,(Below.refl _ _).alloc (Nat.le_refl _) _⟩
    · have e:leafOk ⟨3,op,n,t,i,x⟩=false:=by simp [leafOk,ha]
      rw [e];clear e
      have i2:(x:Int)<97:=by omega
      go_enter Tryz.func318,Tryz.ntmps318
      go_wp2
      go_ret
      exact ⟨rfl,(Below.refl _ _).alloc (Nat.le_refl _) _⟩
  have e:leafOk ⟨k,op,n,t,i,x⟩=false:=by simp [leafOk,h0,h1,h2,h3]
  rw [e];clear e
  have e0:((k:Int) == 0)=false:=beq_eq_false_iff_ne.2 (by omega)
  have e1:((k:Int) == 1)=false:=beq_eq_false_iff_ne.2 (by omega)
  have e2:((k:Int) == 2)=false:=beq_eq_false_iff_ne.2 (by omega)
  have e3:((k:Int) == 3)=false:=beq_eq_false_iff_ne.2 (by omega)
  clear h0 h1 h2 h3
  go_enter Tryz.func318,Tryz.ntmps318
  go_wp2
  go_ret
  exact ⟨rfl,(Below.refl _ _).alloc (Nat.le_refl _) _⟩
theorem sidesF_nat (op:Nat):Num.sidesF (op:Int)=(sides op:Nat):=by
  unfold Num.sidesF sides
  by_cases h:1<=op/\op<=12
  · rw [if_pos h,if_pos (by omega)];rfl
  · rw [if_neg h,if_neg (by omega)]
    by_cases h2:op=13 \/ op=14
    · rw [if_pos h2,if_pos (by omega)];rfl
    · rw [if_neg h2,if_neg (by omega)];rfl
theorem sides_nat (op:Nat) (w:World):Calls Tryz.prog 264 #[.int .u8 op] w fun e w'=>e = .returned (.int .i64 (sides op:Nat))/\w=w':=by
  rw [<- sidesF_nat];exact Num.sides_any op w
theorem rsides_nat (op:Nat) (w:World):Calls Tryz.prog 317 #[.int .u8 op] w fun e w'=>e = .returned (.int .i64 (sides op:Nat))/\w=w':=by
  rw [<- sidesF_nat];exact Num.rsides_any op w
def partsI (a:It):Int:=match partsF a with
  | some n=>n
  | none => -1
theorem partsI_leaf {a:It} (h:partsF a=if leafOk a then some 0 else none):partsI a=if leafOk a then 0 else -1:=by
  unfold partsI;rw [h];split <;> split <;> simp_all
theorem parts_any (a:It) (w:World):Calls Tryz.prog 244 #[itVal a] w fun e' w'=>Made (.returned (.int .i64 (partsI a))) w e' w':=by
  by_cases h1:a.kind=4/\sides a.op=1
  · have e:partsI a=1:=by unfold partsI partsF;rw [if_pos h1];rfl
    rw [e];clear e
    obtain ⟨k,op,n,t,i,x⟩:=a
    obtain ⟨rfl,hs⟩:=h1
    have HS:=Lib.hid hs;clear hs
    show Calls _ _ #[.agg #[.int .u8 4,.int .u8 op,.int .u64 n,.int .u8 t,.int .u8 i,.int .u8 x]] _ _
    go_enter Tryz.func244,Tryz.ntmps244
    go_wp2_with (go_at_call 317;refine (rsides_nat _ _).mono ?_;rw [HS.out];rintro e w' ⟨rfl,rfl⟩)
    go_ret
    exact ⟨rfl,(Below.refl _ _).alloc (Nat.le_refl _) _⟩
  by_cases h2:a.kind=5/\sides a.op=2
  · have e:partsI a=2:=by unfold partsI partsF;rw [if_neg h1,if_pos h2];rfl
    rw [e];clear e h1
    obtain ⟨k,op,n,t,i,x⟩:=a
    obtain ⟨rfl,hs⟩:=h2
    have HS:=Lib.hid hs;clear hs
    show Calls _ _ #[.agg #[.int .u8 5,.int .u8 op,.int .u64 n,.int .u8 t,.int .u8 i,.int .u8 x]] _ _
    go_enter Tryz.func244,Tryz.ntmps244
    go_wp2_with (go_at_call 317;refine (rsides_nat _ _).mono ?_;rw [HS.out];rintro e w' ⟨rfl,rfl⟩)
    go_ret
    exact ⟨rfl,(Below.refl _ _).alloc (Nat.le_refl _) _⟩
  have HP:=Lib.hid (partsI_leaf (a:=a) (by unfold partsF;rw [if_neg h1,if_neg h2]))
  have HLL:=Lib.hid (fun W=>leaf_any a W)
  generalize partsI a=q at HP ⊢
  generalize leafOk a=b at HP HLL
  obtain ⟨k,op,n,t,i,x⟩:=a
  simp only at h1 h2
  have hend:∀ w1:World,Below (w.alloc (.cells #[.int .u8 k,.int .u8 op,.int .u64 n,.int .u8 t,.int .u8 i,.int .u8 x] 165)).heap.size (w.alloc (.cells #[.int .u8 k,.int .u8 op,.int .u64 n,.int .u8 t,.int .u8 i,.int .u8 x] 165)) w1->Below w.heap.size w w1:=fun w1 h=>Below.boxed _ _ h
  have HE:=Lib.hid hend;clear hend
  show Calls _ _ #[.agg #[.int .u8 k,.int .u8 op,.int .u64 n,.int .u8 t,.int .u8 i,.int .u8 x]] _ _
  by_cases h4:k=4
  · subst h4
    have hs:(((sides op:Nat):Int) == 1)=false:=beq_eq_false_iff_ne.2 (by have:=fun h=>h1 ⟨rfl,h⟩;omega)
    clear h1 h2
    cases b
    all_goals
      go_enter Tryz.func244,Tryz.ntmps244
      go_wp2_with (first | (go_at_call 317;refine (rsides_nat _ _).mono ?_;rintro e w' ⟨rfl,rfl⟩) | (go_at_call 318;refine (HLL.out _).mono ?_;rintro e w1 ⟨rfl,hb⟩;have HB:=Lib.hid hb;clear hb))
      go_ret
      exact ⟨ret_int (by rw [HP.out];rfl),HE.out _ HB.out⟩
  by_cases h5:k=5
  · subst h5
    have hs:(((sides op:Nat):Int) == 2)=false:=beq_eq_false_iff_ne.2 (by have:=fun h=>h2 ⟨rfl,h⟩;omega)
    clear h1 h2
    cases b
    all_goals
      go_enter Tryz.func244,Tryz.ntmps244
      go_wp2_with (first | (go_at_call 317;refine (rsides_nat _ _).mono ?_;rintro e w' ⟨rfl,rfl⟩) | (go_at_call 318;refine (HLL.out _).mono ?_;rintro e w1 ⟨rfl,hb⟩;have HB:=Lib.hid hb;clear hb))
      go_ret
      exact ⟨ret_int (by rw [HP.out];rfl),HE.out _ HB.out⟩
  have e4:((k:Int) == 4)=false:=beq_eq_false_iff_ne.2 (by omega)
  have e5:((k:Int) == 5)=false:=beq_eq_false_iff_ne.2 (by omega)
  clear h1 h2 h4 h5
  cases b
  all_goals
    go_enter Tryz.func244,Tryz.ntmps244
    go_wp2_with (go_at_call 318;refine (HLL.out _).mono ?_;rintro e w1 ⟨rfl,hb⟩;have HB:=Lib.hid hb;clear hb)
    go_ret
    exact ⟨ret_int (by rw [HP.out];rfl),HE.out _ HB.out⟩
def strongIt (a:It):Nat:=if a.kind<4 then 5 else if a.kind=4 then 4 else if a.op<5 then 1 else if a.op<9 then 2 else 3
theorem rstrength_any (a:It) (w:World):Calls Tryz.prog 321 #[itVal a] w fun e' w'=>Made (.returned (.int .i64 (strongIt a:Nat))) w e' w':=by
  obtain ⟨k,op,n,t,i,x⟩:=a
  show Calls _ _ #[.agg #[.int .u8 k,.int .u8 op,.int .u64 n,.int .u8 t,.int .u8 i,.int .u8 x]] _ _
  by_cases h0:k<4
  · have e:strongIt ⟨k,op,n,t,i,x⟩=5:=by unfold strongIt;rw [if_pos h0]
    rw [e];clear e
    have i1:(k:Int)<4:=by omega
    go_enter Tryz.func321,Tryz.ntmps321
    go_wp2
    go_ret
    exact ⟨rfl,(Below.refl _ _).alloc (Nat.le_refl _) _⟩
  by_cases h4:k=4
  · subst h4
    go_enter Tryz.func321,Tryz.ntmps321
    go_wp2
    go_ret
    exact ⟨rfl,(Below.refl _ _).alloc (Nat.le_refl _) _⟩
  have i1:(4:Int)<k:=by omega
  have e4:((k:Int) == 4)=false:=beq_eq_false_iff_ne.2 (by omega)
  by_cases h5:op<5
  · have e:strongIt ⟨k,op,n,t,i,x⟩=1:=by unfold strongIt;rw [if_neg h0,if_neg h4,if_pos h5]
    rw [e];clear e
    have i2:(op:Int)<5:=by omega
    go_enter Tryz.func321,Tryz.ntmps321
    go_wp2
    go_ret
    exact ⟨rfl,(Below.refl _ _).alloc (Nat.le_refl _) _⟩
  have i2:(5:Int)<=op:=by omega
  by_cases h9:op<9
  · have e:strongIt ⟨k,op,n,t,i,x⟩=2:=by unfold strongIt;rw [if_neg h0,if_neg h4,if_neg h5,if_pos h9]
    rw [e];clear e
    have i3:(op:Int)<9:=by omega
    go_enter Tryz.func321,Tryz.ntmps321
    go_wp2
    go_ret
    exact ⟨rfl,(Below.refl _ _).alloc (Nat.le_refl _) _⟩
  have i3:(9:Int)<=op:=by omega
  have e:strongIt ⟨k,op,n,t,i,x⟩=3:=by unfold strongIt;rw [if_neg h0,if_neg h4,if_neg h5,if_neg h9]
  rw [e];clear e
  go_enter Tryz.func321,Tryz.ntmps321
  go_wp2
  go_ret
  exact ⟨rfl,(Below.refl _ _).alloc (Nat.le_refl _) _⟩
theorem digit_cut (n:Nat) (h:n<10):ByteArray.extract ⟨#[48,49,50,51,52,53,54,55,56,57]⟩ n (n+1)=str (dec n):=by
  have e:dec n=[UInt8.ofNat (48+n)]:=by unfold dec;rw [decDigits,dif_pos h]
  rw [e]
  have:=(show ∀ y:Fin 10,ByteArray.extract ⟨#[48,49,50,51,52,53,54,55,56,57]⟩ y.val (y.val+1)=str [UInt8.ofNat (48+y.val)] by decide +kernel) ⟨n,h⟩
  exact this
theorem dec_more (n:Nat) (h:¬ n<10):dec (n / 10) ++ dec (n % 10)=dec n:=by
  unfold dec
  rw [decDigits.eq_def n,dif_neg h,decDigits.eq_def (n % 10),dif_pos (by omega)]
set_option maxRecDepth 100000 in
theorem decimal_any:∀ (n:Nat) (w:World),n<18446744073709551616->Calls Tryz.prog 320 #[.int .u64 n] w fun e w'=>e = .returned (.string (str (dec n)))/\w=w':=by
  intro n
  induction n using Nat.strongRecOn with
  | ind n ih =>
    intro w hn
    by_cases h:n<10
    · have i1:(n:Int)<10:=by omega
      have hsl:∀ W,(Instr.slice 9 (.string ⟨#[48,49,50,51,52,53,54,55,56,57]⟩) (some (.int .u64 (n:Int))) (some (.int .u64 ((n:Int)+1))) none).run Tryz.prog W = .ok (.string (str (dec n))) W:=fun W=>by
        rw [<- digit_cut n h]
        have hz:ByteArray.size ⟨#[48,49,50,51,52,53,54,55,56,57]⟩=10:=rfl
        rw [run_slice_string W 9 _ .u64 .u64 (n:Int) ((n:Int)+1) Tryz.underlying9 (by omega) (by omega) (by rw [hz];omega)]
        congr 3
      clear ih
      go_enter Tryz.func320,Tryz.ntmps320
      go_wp2_with fail
      go_ret
      exact ⟨rfl,rfl⟩
    · have i1:(10:Int)<=(n:Int):=by omega
      have l1:=dec_len (n / 10) (by omega)
      have l2:=dec_len (n % 10) (by omega)
      have h2:∀ W,(Op.stringOp .add (str (dec (n / 10))) (str (dec (n % 10)))).run Tryz.prog W = .ok (.string (str (dec n))) W:=fun W=>by rw [add_str _ _ (by omega),dec_more n h]
      have H1:=Lib.hid (ih (n / 10) (by omega));have H2:=Lib.hid (ih (n % 10) (by omega))
      have E1:=Lib.hid (show ((n:Int) / 10)=((n / 10:Nat):Int) by omega)
      have E2:=Lib.hid (show ((n:Int) % 10)=((n % 10:Nat):Int) by omega)
      clear l1 l2 ih
      go_enter Tryz.func320,Tryz.ntmps320
      go_wp2_with fail
      rw [E1.out]
      refine (H1.out _ (by omega)).mono ?_
      rintro e w' ⟨rfl,rfl⟩
      go_wp2_with fail
      rw [E2.out]
      refine (H2.out _ (by omega)).mono ?_
      rintro e w' ⟨rfl,rfl⟩
      go_wp2_with fail
      go_ret
      exact ⟨rfl,rfl⟩
end Go.Proofs.YtppdbnccinfegaaGreatDoor.Expr
end
