/- Part 47 of the proof: what is used of the texts ThrM. -/
import Derived.Test.YtagebkachdmnbaaGreatDoorME5
section
namespace Go.Proofs.YtagebkachdmnbaaGreatDoor.Thr
open Go.RowKit Go.Shelf Go.Proofs.YtagebkachdmnbaaGreatDoor.Mem Go.Proofs.YtagebkachdmnbaaGreatDoor.Expr Go.Proofs.YtagebkachdmnbaaGreatDoor.Prog Go.Proofs.YtagebkachdmnbaaGreatDoor.Chk Go.Proofs.YtagebkachdmnbaaGreatDoor.Row Go.Proofs.YtagebkachdmnbaaGreatDoor.Unr Go.Lib
theorem modeR_is (o:Option Nat):∃ (m:Nat) (b:Bool),modeR o = .tuple #[.int .u8 m,.bool b]:=by
  cases o with
  | none=>exact ⟨0,false,rfl⟩
  | some m=>exact ⟨m,true,rfl⟩
theorem writeR_is (o:Option (Int × Nat)):∃ (n:Int) (m:Nat) (b:Bool),writeR o = .tuple #[.int .u64 n,.int .u8 m,.bool b]:=by
  cases o with
  | none=>exact ⟨0,0,false,rfl⟩
  | some x=>exact ⟨x.1,x.2,true,rfl⟩
set_option maxRecDepth 100000 in
set_option maxHeartbeats 8000000 in
theorem modes_any (a:Ac) (n:Int) (h1:0<=n) (h2:n<18446744073709551616) (ha:0<=a.a) (w:World) (hX:AllK w) :
    Calls Tryz.prog 4 #[acV a,.int .u64 n] w (Made (.returned (.bool true)) w):=by
  have HX:=Lib.hid hX
  obtain ⟨mr,br,er⟩:=modeR_is (readsF a)
  obtain ⟨wn,wm,wb,ew⟩:=writeR_is (writesF a n)
  have HR:=Lib.hid (fun W=>reads_any a W)
  have HD:=Lib.hid (fun W=>dreads_any a W)
  have HW:=Lib.hid (fun W=>writes_any a n h1 h2 ha W)
  have HV:=Lib.hid (fun W=>dwrites_any a n W)
  have HU:=Lib.hid (fun W=>update_any a W)
  have HK:=Lib.hid (fun W (h:Below w.heap.size w W)=>wakes_any W (HX.out.below h))
  rw [er] at HR HD
  rw [ew] at HW HV
  clear er ew h1 h2 ha hX
  obtain ⟨k,m,l,x,y⟩:=a
  have HR:Hid (∀ W,Calls Tryz.prog 23 #[.agg #[.int .u8 k,.int .u8 m,.int .i64 l,.int .u64 x,.int .u64 y]] W (Made (.returned (.tuple #[.int .u8 mr,.bool br])) W)):=HR
  have HD:Hid (∀ W,Calls Tryz.prog 24 #[.agg #[.int .u8 k,.int .u8 m,.int .i64 l,.int .u64 x,.int .u64 y]] W (Made (.returned (.tuple #[.int .u8 mr,.bool br])) W)):=HD
  have HW:Hid (∀ W,Calls Tryz.prog 25 #[.agg #[.int .u8 k,.int .u8 m,.int .i64 l,.int .u64 x,.int .u64 y],.int .u64 n] W (Made (.returned (.tuple #[.int .u64 wn,.int .u8 wm,.bool wb])) W)):=HW
  have HV:Hid (∀ W,Calls Tryz.prog 26 #[.agg #[.int .u8 k,.int .u8 m,.int .i64 l,.int .u64 x,.int .u64 y],.int .u64 n] W (Made (.returned (.tuple #[.int .u64 wn,.int .u8 wm,.bool wb])) W)):=HV
  have HU:Hid (∀ W,Calls Tryz.prog 27 #[.agg #[.int .u8 k,.int .u8 m,.int .i64 l,.int .u64 x,.int .u64 y]] W (Made (.returned (.bool (updK k))) W)):=HU
  show Calls _ _ #[.agg #[.int .u8 k,.int .u8 m,.int .i64 l,.int .u64 x,.int .u64 y],_] _ _
  have HB:=Lib.hid (two_low w (.cells #[.int .u8 k,.int .u8 m,.int .i64 l,.int .u64 x,.int .u64 y] 60) (.cells #[.int .u8 k,.int .u8 m,.int .i64 l,.int .u64 x,.int .u64 y] 57))
  have S2:Hid (Sits ((w.alloc (.cells #[.int .u8 k,.int .u8 m,.int .i64 l,.int .u64 x,.int .u64 y] 60)).alloc (.cells #[.int .u8 k,.int .u8 m,.int .i64 l,.int .u64 x,.int .u64 y] 57)) w.heap.size 60 #[.int .u8 k,.int .u8 m,.int .i64 l,.int .u64 x,.int .u64 y]):=Lib.hid ((Sits.new _ _ _).alloc _)
  have S5:Hid (Sits ((w.alloc (.cells #[.int .u8 k,.int .u8 m,.int .i64 l,.int .u64 x,.int .u64 y] 60)).alloc (.cells #[.int .u8 k,.int .u8 m,.int .i64 l,.int .u64 x,.int .u64 y] 57)) (w.heap.size+1) 57 #[.int .u8 k,.int .u8 m,.int .i64 l,.int .u64 x,.int .u64 y]):=Lib.hid (Sits.made (by simp) _ _)
  go_enter Tryz.func4,Tryz.ntmps4
  go_upto_region 2 with (fail)
  change Code.wp _ _ _ _ ((w.alloc (.cells #[.int .u8 k,.int .u8 m,.int .i64 l,.int .u64 x,.int .u64 y] 60)).alloc (.cells #[.int .u8 k,.int .u8 m,.int .i64 l,.int .u64 x,.int .u64 y] 57))
  generalize (w.alloc (.cells #[.int .u8 k,.int .u8 m,.int .i64 l,.int .u64 x,.int .u64 y] 60)).alloc (.cells #[.int .u8 k,.int .u8 m,.int .i64 l,.int .u64 x,.int .u64 y] 57)=w0 at HB S2 S5 ⊢
  have a0:w0.cell? ⟨w.heap.size,0,none⟩=some (.int .u8 k):=S2.out.cell 0
  have b0:w0.cell? ⟨w.heap.size+1,0,none⟩=some (.int .u8 k):=S5.out.cell 0
  have a1:w0.cell? ⟨w.heap.size,1,none⟩=some (.int .u8 m):=S2.out.cell 1
  have b1:w0.cell? ⟨w.heap.size+1,1,none⟩=some (.int .u8 m):=S5.out.cell 1
  have a2:w0.cell? ⟨w.heap.size,2,none⟩=some (.int .i64 l):=S2.out.cell 2
  have b2:w0.cell? ⟨w.heap.size+1,2,none⟩=some (.int .i64 l):=S5.out.cell 2
  have a3:w0.cell? ⟨w.heap.size,3,none⟩=some (.int .u64 x):=S2.out.cell 3
  have b3:w0.cell? ⟨w.heap.size+1,3,none⟩=some (.int .u64 x):=S5.out.cell 3
  have a4:w0.cell? ⟨w.heap.size,4,none⟩=some (.int .u64 y):=S2.out.cell 4
  have b4:w0.cell? ⟨w.heap.size+1,4,none⟩=some (.int .u64 y):=S5.out.cell 4
  have la:=S2.out.lt
  have lb:=S5.out.lt
  go_wp2_with fail
  refine (HR.out _).mono ?_
  rintro e w1 ⟨rfl,hb⟩
  have HB:=Lib.hid (HB.out.trans (hb.mono HB.out.size))
  have S2:=Lib.hid (S2.out.below hb S2.out.lt)
  have S5:=Lib.hid (S5.out.below hb S5.out.lt)
  clear hb a0 a1 a2 a3 a4 b0 b1 b2 b3 b4 la lb
  have a0:w1.cell? ⟨w.heap.size,0,none⟩=some (.int .u8 k):=S2.out.cell 0
  have b0:w1.cell? ⟨w.heap.size+1,0,none⟩=some (.int .u8 k):=S5.out.cell 0
  have a1:w1.cell? ⟨w.heap.size,1,none⟩=some (.int .u8 m):=S2.out.cell 1
  have b1:w1.cell? ⟨w.heap.size+1,1,none⟩=some (.int .u8 m):=S5.out.cell 1
  have a2:w1.cell? ⟨w.heap.size,2,none⟩=some (.int .i64 l):=S2.out.cell 2
  have b2:w1.cell? ⟨w.heap.size+1,2,none⟩=some (.int .i64 l):=S5.out.cell 2
  have a3:w1.cell? ⟨w.heap.size,3,none⟩=some (.int .u64 x):=S2.out.cell 3
  have b3:w1.cell? ⟨w.heap.size+1,3,none⟩=some (.int .u64 x):=S5.out.cell 3
  have a4:w1.cell? ⟨w.heap.size,4,none⟩=some (.int .u64 y):=S2.out.cell 4
  have b4:w1.cell? ⟨w.heap.size+1,4,none⟩=some (.int .u64 y):=S5.out.cell 4
  have la:=S2.out.lt
  have lb:=S5.out.lt
  go_wp2_with fail
  refine (HD.out _).mono ?_
  rintro e w2 ⟨rfl,hb⟩
  have HB:=Lib.hid (HB.out.trans (hb.mono HB.out.size))
  have S2:=Lib.hid (S2.out.below hb S2.out.lt)
  have S5:=Lib.hid (S5.out.below hb S5.out.lt)
  clear hb a0 a1 a2 a3 a4 b0 b1 b2 b3 b4 la lb
  have a0:w2.cell? ⟨w.heap.size,0,none⟩=some (.int .u8 k):=S2.out.cell 0
  have b0:w2.cell? ⟨w.heap.size+1,0,none⟩=some (.int .u8 k):=S5.out.cell 0
  have a1:w2.cell? ⟨w.heap.size,1,none⟩=some (.int .u8 m):=S2.out.cell 1
  have b1:w2.cell? ⟨w.heap.size+1,1,none⟩=some (.int .u8 m):=S5.out.cell 1
  have a2:w2.cell? ⟨w.heap.size,2,none⟩=some (.int .i64 l):=S2.out.cell 2
  have b2:w2.cell? ⟨w.heap.size+1,2,none⟩=some (.int .i64 l):=S5.out.cell 2
  have a3:w2.cell? ⟨w.heap.size,3,none⟩=some (.int .u64 x):=S2.out.cell 3
  have b3:w2.cell? ⟨w.heap.size+1,3,none⟩=some (.int .u64 x):=S5.out.cell 3
  have a4:w2.cell? ⟨w.heap.size,4,none⟩=some (.int .u64 y):=S2.out.cell 4
  have b4:w2.cell? ⟨w.heap.size+1,4,none⟩=some (.int .u64 y):=S5.out.cell 4
  have la:=S2.out.lt
  have lb:=S5.out.lt
  go_wp2_with fail
  refine (HW.out _).mono ?_
  rintro e w3 ⟨rfl,hb⟩
  have HB:=Lib.hid (HB.out.trans (hb.mono HB.out.size))
  have S2:=Lib.hid (S2.out.below hb S2.out.lt)
  have S5:=Lib.hid (S5.out.below hb S5.out.lt)
  clear hb a0 a1 a2 a3 a4 b0 b1 b2 b3 b4 la lb
  have a0:w3.cell? ⟨w.heap.size,0,none⟩=some (.int .u8 k):=S2.out.cell 0
  have b0:w3.cell? ⟨w.heap.size+1,0,none⟩=some (.int .u8 k):=S5.out.cell 0
  have a1:w3.cell? ⟨w.heap.size,1,none⟩=some (.int .u8 m):=S2.out.cell 1
  have b1:w3.cell? ⟨w.heap.size+1,1,none⟩=some (.int .u8 m):=S5.out.cell 1
  have a2:w3.cell? ⟨w.heap.size,2,none⟩=some (.int .i64 l):=S2.out.cell 2
  have b2:w3.cell? ⟨w.heap.size+1,2,none⟩=some (.int .i64 l):=S5.out.cell 2
  have a3:w3.cell? ⟨w.heap.size,3,none⟩=some (.int .u64 x):=S2.out.cell 3
  have b3:w3.cell? ⟨w.heap.size+1,3,none⟩=some (.int .u64 x):=S5.out.cell 3
  have a4:w3.cell? ⟨w.heap.size,4,none⟩=some (.int .u64 y):=S2.out.cell 4
  have b4:w3.cell? ⟨w.heap.size+1,4,none⟩=some (.int .u64 y):=S5.out.cell 4
  have la:=S2.out.lt
  have lb:=S5.out.lt
  go_wp2_with fail
  refine (HV.out _).mono ?_
  rintro e w4 ⟨rfl,hb⟩
  have HB:=Lib.hid (HB.out.trans (hb.mono HB.out.size))
  have S2:=Lib.hid (S2.out.below hb S2.out.lt)
  have S5:=Lib.hid (S5.out.below hb S5.out.lt)
  clear hb a0 a1 a2 a3 a4 b0 b1 b2 b3 b4 la lb
  have a0:w4.cell? ⟨w.heap.size,0,none⟩=some (.int .u8 k):=S2.out.cell 0
  have b0:w4.cell? ⟨w.heap.size+1,0,none⟩=some (.int .u8 k):=S5.out.cell 0
  have a1:w4.cell? ⟨w.heap.size,1,none⟩=some (.int .u8 m):=S2.out.cell 1
  have b1:w4.cell? ⟨w.heap.size+1,1,none⟩=some (.int .u8 m):=S5.out.cell 1
  have a2:w4.cell? ⟨w.heap.size,2,none⟩=some (.int .i64 l):=S2.out.cell 2
  have b2:w4.cell? ⟨w.heap.size+1,2,none⟩=some (.int .i64 l):=S5.out.cell 2
  have a3:w4.cell? ⟨w.heap.size,3,none⟩=some (.int .u64 x):=S2.out.cell 3
  have b3:w4.cell? ⟨w.heap.size+1,3,none⟩=some (.int .u64 x):=S5.out.cell 3
  have a4:w4.cell? ⟨w.heap.size,4,none⟩=some (.int .u64 y):=S2.out.cell 4
  have b4:w4.cell? ⟨w.heap.size+1,4,none⟩=some (.int .u64 y):=S5.out.cell 4
  have la:=S2.out.lt
  have lb:=S5.out.lt
  go_upto_region 6 with (fail)
  by_cases h4:4<=k
  · have d4:decide ((4:Int)<=(k:Int))=true:=decide_eq_true (by omega)
    have d4':decide (4<=k)=true:=decide_eq_true h4
    have d6:decide ((k:Int)<=6)=updK k:=by
      unfold updK
      by_cases h:k<=6
      · rw [decide_eq_true (show (k:Int)<=6 by omega),decide_eq_true (by omega)]
      · rw [decide_eq_false (show ¬ (k:Int)<=6 by omega),decide_eq_false (by omega)]
    have d6':decide (k<=6)=updK k:=by rw [<- d6];simp;omega
    generalize updK k=u at HU d6 d6'
    clear h4
    clear a0 a1 a2 a3 a4 b0 b1 b2 b3 b4 la lb
    refine Flow.wp_flowG [51,52,53,54,55,56,57,58,59,60,61,62,63,64,65,66,67,68,69,70,71,72,73,74,75,76,77,78,79,80,81,82,83,84,85,86,87,88,89] [Flow.eqV (.int .u8 mr),Flow.eqV (.int .u8 mr),Flow.eqV (.bool true),Flow.eqV (.bool true),Flow.eqV (.bool br),Flow.eqV (.bool br),Flow.eqV (.bool true),Flow.eqV (.bool true),Flow.eqV (.bool true),Flow.eqV (.int .u64 wn),Flow.eqV (.int .u64 wn),Flow.eqV (.bool true),Flow.eqV (.bool true),Flow.eqV (.bool true),Flow.eqV (.int .u8 wm),Flow.eqV (.int .u8 wm),Flow.eqV (.bool true),Flow.eqV (.bool true),Flow.eqV (.bool true),Flow.eqV (.bool wb),Flow.eqV (.bool wb),Flow.eqV (.bool true),Flow.eqV (.bool true),Flow.eqV (.bool true),Flow.eqV (.agg #[.int .u8 k,.int .u8 m,.int .i64 l,.int .u64 x,.int .u64 y]),Flow.eqV (.bool u),Flow.eqV (.pointer (some ⟨w.heap.size,0,none⟩)),Flow.eqV (.int .u8 k),Flow.eqV (.bool true),Flow.eqV (.bool true),Flow.eqV (.pointer (some ⟨w.heap.size,0,none⟩)),Flow.eqV (.int .u8 k),Flow.eqV (.bool u),Flow.eqV (.bool u),Flow.eqV (.bool true),Flow.eqV (.bool true),Flow.eqV (.bool true),Flow.eqV (.bool true),Flow.eqV (.bool true)]
      (by kernel_rfl) (by kernel_rfl) (by kernel_rfl) (by kernel_rfl) (by rfl) (by simp only [List.mem_cons,List.not_mem_nil,or_false,forall_eq_or_imp,forall_eq];refine ⟨?_,?_,?_,?_,?_,?_,?_,?_,?_,?_,?_,?_,?_,?_,?_,?_,?_,?_,?_,?_,?_,?_,?_,?_,?_,?_,?_,?_,?_,?_,?_,?_,?_,?_,?_,?_,?_,?_,?_⟩ <;> exact Flow.eqV_mono _) ?_ ?_
    · intro i o hi ho A W hW hk he
      simp only [List.length_cons,List.length_nil,Nat.zero_add,Nat.reduceAdd] at hi
      have s2:=S2.out.below hW S2.out.lt
      have s5:=S5.out.below hW S5.out.lt
      have HBW:=Lib.hid (HB.out.trans (hW.mono HB.out.size))
      have a0:W.cell? ⟨w.heap.size,0,none⟩=some (.int .u8 k):=s2.cell 0
      have b0:W.cell? ⟨w.heap.size+1,0,none⟩=some (.int .u8 k):=s5.cell 0
      have a1:W.cell? ⟨w.heap.size,1,none⟩=some (.int .u8 m):=s2.cell 1
      have b1:W.cell? ⟨w.heap.size+1,1,none⟩=some (.int .u8 m):=s5.cell 1
      have a2:W.cell? ⟨w.heap.size,2,none⟩=some (.int .i64 l):=s2.cell 2
      have b2:W.cell? ⟨w.heap.size+1,2,none⟩=some (.int .i64 l):=s5.cell 2
      have a3:W.cell? ⟨w.heap.size,3,none⟩=some (.int .u64 x):=s2.cell 3
      have b3:W.cell? ⟨w.heap.size+1,3,none⟩=some (.int .u64 x):=s5.cell 3
      have a4:W.cell? ⟨w.heap.size,4,none⟩=some (.int .u64 y):=s2.cell 4
      have b4:W.cell? ⟨w.heap.size+1,4,none⟩=some (.int .u64 y):=s5.cell 4
      have la:=s2.lt
      have lb:=s5.lt
      clear s2 s5
      obtain rfl | rfl | rfl | rfl | rfl | rfl | rfl | rfl | rfl | rfl | rfl | rfl | rfl | rfl | rfl | rfl | rfl | rfl | rfl | rfl | rfl | rfl | rfl | rfl | rfl | rfl | rfl | rfl | rfl | rfl | rfl | rfl | rfl | rfl | rfl | rfl | rfl | rfl | rfl:i=0 \/ i=1 \/ i=2 \/ i=3 \/ i=4 \/ i=5 \/ i=6 \/ i=7 \/ i=8 \/ i=9 \/ i=10 \/ i=11 \/ i=12 \/ i=13 \/ i=14 \/ i=15 \/ i=16 \/ i=17 \/ i=18 \/ i=19 \/ i=20 \/ i=21 \/ i=22 \/ i=23 \/ i=24 \/ i=25 \/ i=26 \/ i=27 \/ i=28 \/ i=29 \/ i=30 \/ i=31 \/ i=32 \/ i=33 \/ i=34 \/ i=35 \/ i=36 \/ i=37 \/ i=38:=by omega
      · injection ho with ho;subst ho
        refine .inl ⟨Flow.wanted_free rfl,?_⟩
        have t6:A.tmps[6]?.getD undef = .int .u8 mr:=hk 6 (by rfl)
        go_simp
        exact ⟨rfl,Below.refl _ _⟩
      · injection ho with ho;subst ho
        refine .inl ⟨Flow.wanted_free rfl,?_⟩
        have t8:A.tmps[8]?.getD undef = .int .u8 mr:=hk 8 (by rfl)
        go_simp
        exact ⟨rfl,Below.refl _ _⟩
      · injection ho with ho;subst ho
        refine .inl ⟨Flow.wanted_free rfl,?_⟩
        have t51:A.tmps[51]?.getD undef = .int .u8 mr:=he 0 (by kernel_rfl)
        have t52:A.tmps[52]?.getD undef = .int .u8 mr:=he 1 (by kernel_rfl)
        go_simp
        exact ⟨rfl,Below.refl _ _⟩
      · injection ho with ho;subst ho
        refine .inl ⟨Flow.wanted_free rfl,?_⟩
        have t53:A.tmps[53]?.getD undef = .bool true:=he 2 (by kernel_rfl)
        go_simp
        exact ⟨rfl,Below.refl _ _⟩
      · injection ho with ho;subst ho
        have hg:A.tmps[54]?.getD undef = .bool true:=he 3 (by kernel_rfl)
        refine .inl ⟨Flow.wanted_yes rfl rfl hg,?_⟩
        have t7:A.tmps[7]?.getD undef = .bool br:=hk 7 (by rfl)
        go_simp
        exact ⟨rfl,Below.refl _ _⟩
      · injection ho with ho;subst ho
        have hg:A.tmps[54]?.getD undef = .bool true:=he 3 (by kernel_rfl)
        refine .inl ⟨Flow.wanted_yes rfl rfl hg,?_⟩
        have t9:A.tmps[9]?.getD undef = .bool br:=hk 9 (by rfl)
        go_simp
        exact ⟨rfl,Below.refl _ _⟩
      · injection ho with ho;subst ho
        have hg:A.tmps[54]?.getD undef = .bool true:=he 3 (by kernel_rfl)
        refine .inl ⟨Flow.wanted_yes rfl rfl hg,?_⟩
        have t55:A.tmps[55]?.getD undef = .bool br:=he 4 (by kernel_rfl)
        have t56:A.tmps[56]?.getD undef = .bool br:=he 5 (by kernel_rfl)
        go_simp
        exact ⟨rfl,Below.refl _ _⟩
      · injection ho with ho;subst ho
        refine .inl ⟨Flow.wanted_free rfl,?_⟩
        have t54:A.tmps[54]?.getD undef = .bool true:=he 3 (by kernel_rfl)
        have t57:A.tmps[57]?.getD undef = .bool true:=he 6 (by kernel_rfl)
        go_simp
        exact ⟨rfl,Below.refl _ _⟩
      · injection ho with ho;subst ho
        refine .inl ⟨Flow.wanted_free rfl,?_⟩
        have t58:A.tmps[58]?.getD undef = .bool true:=he 7 (by kernel_rfl)
        go_simp
        exact ⟨rfl,Below.refl _ _⟩
      · injection ho with ho;subst ho
        have hg:A.tmps[59]?.getD undef = .bool true:=he 8 (by kernel_rfl)
        refine .inl ⟨Flow.wanted_yes rfl rfl hg,?_⟩
        have t10:A.tmps[10]?.getD undef = .int .u64 wn:=hk 10 (by rfl)
        go_simp
        exact ⟨rfl,Below.refl _ _⟩
      · injection ho with ho;subst ho
        have hg:A.tmps[59]?.getD undef = .bool true:=he 8 (by kernel_rfl)
        refine .inl ⟨Flow.wanted_yes rfl rfl hg,?_⟩
        have t13:A.tmps[13]?.getD undef = .int .u64 wn:=hk 13 (by rfl)
        go_simp
        exact ⟨rfl,Below.refl _ _⟩
      · injection ho with ho;subst ho
        have hg:A.tmps[59]?.getD undef = .bool true:=he 8 (by kernel_rfl)
        refine .inl ⟨Flow.wanted_yes rfl rfl hg,?_⟩
        have t60:A.tmps[60]?.getD undef = .int .u64 wn:=he 9 (by kernel_rfl)
        have t61:A.tmps[61]?.getD undef = .int .u64 wn:=he 10 (by kernel_rfl)
        go_simp
        exact ⟨rfl,Below.refl _ _⟩
      · injection ho with ho;subst ho
        refine .inl ⟨Flow.wanted_free rfl,?_⟩
        have t59:A.tmps[59]?.getD undef = .bool true:=he 8 (by kernel_rfl)
        have t62:A.tmps[62]?.getD undef = .bool true:=he 11 (by kernel_rfl)
        go_simp
        exact ⟨rfl,Below.refl _ _⟩
      · injection ho with ho;subst ho
        refine .inl ⟨Flow.wanted_free rfl,?_⟩
        have t63:A.tmps[63]?.getD undef = .bool true:=he 12 (by kernel_rfl)
        go_simp
        exact ⟨rfl,Below.refl _ _⟩
      · injection ho with ho;subst ho
        have hg:A.tmps[64]?.getD undef = .bool true:=he 13 (by kernel_rfl)
        refine .inl ⟨Flow.wanted_yes rfl rfl hg,?_⟩
        have t11:A.tmps[11]?.getD undef = .int .u8 wm:=hk 11 (by rfl)
        go_simp
        exact ⟨rfl,Below.refl _ _⟩
      · injection ho with ho;subst ho
        have hg:A.tmps[64]?.getD undef = .bool true:=he 13 (by kernel_rfl)
        refine .inl ⟨Flow.wanted_yes rfl rfl hg,?_⟩
        have t14:A.tmps[14]?.getD undef = .int .u8 wm:=hk 14 (by rfl)
        go_simp
        exact ⟨rfl,Below.refl _ _⟩
      · injection ho with ho;subst ho
        have hg:A.tmps[64]?.getD undef = .bool true:=he 13 (by kernel_rfl)
        refine .inl ⟨Flow.wanted_yes rfl rfl hg,?_⟩
        have t65:A.tmps[65]?.getD undef = .int .u8 wm:=he 14 (by kernel_rfl)
        have t66:A.tmps[66]?.getD undef = .int .u8 wm:=he 15 (by kernel_rfl)
        go_simp
        exact ⟨rfl,Below.refl _ _⟩
      · injection ho with ho;subst ho
        refine .inl ⟨Flow.wanted_free rfl,?_⟩
        have t64:A.tmps[64]?.getD undef = .bool true:=he 13 (by kernel_rfl)
        have t67:A.tmps[67]?.getD undef = .bool true:=he 16 (by kernel_rfl)
        go_simp
        exact ⟨rfl,Below.refl _ _⟩
      · injection ho with ho;subst ho
        refine .inl ⟨Flow.wanted_free rfl,?_⟩
        have t68:A.tmps[68]?.getD undef = .bool true:=he 17 (by kernel_rfl)
        go_simp
        exact ⟨rfl,Below.refl _ _⟩
      · injection ho with ho;subst ho
        have hg:A.tmps[69]?.getD undef = .bool true:=he 18 (by kernel_rfl)
        refine .inl ⟨Flow.wanted_yes rfl rfl hg,?_⟩
        have t12:A.tmps[12]?.getD undef = .bool wb:=hk 12 (by rfl)
        go_simp
        exact ⟨rfl,Below.refl _ _⟩
      · injection ho with ho;subst ho
        have hg:A.tmps[69]?.getD undef = .bool true:=he 18 (by kernel_rfl)
        refine .inl ⟨Flow.wanted_yes rfl rfl hg,?_⟩
        have t15:A.tmps[15]?.getD undef = .bool wb:=hk 15 (by rfl)
        go_simp
        exact ⟨rfl,Below.refl _ _⟩
      · injection ho with ho;subst ho
        have hg:A.tmps[69]?.getD undef = .bool true:=he 18 (by kernel_rfl)
        refine .inl ⟨Flow.wanted_yes rfl rfl hg,?_⟩
        have t70:A.tmps[70]?.getD undef = .bool wb:=he 19 (by kernel_rfl)
        have t71:A.tmps[71]?.getD undef = .bool wb:=he 20 (by kernel_rfl)
        go_simp
        exact ⟨rfl,Below.refl _ _⟩
      · injection ho with ho;subst ho
        refine .inl ⟨Flow.wanted_free rfl,?_⟩
        have t69:A.tmps[69]?.getD undef = .bool true:=he 18 (by kernel_rfl)
        have t72:A.tmps[72]?.getD undef = .bool true:=he 21 (by kernel_rfl)
        go_simp
        exact ⟨rfl,Below.refl _ _⟩
      · injection ho with ho;subst ho
        refine .inl ⟨Flow.wanted_free rfl,?_⟩
        have t73:A.tmps[73]?.getD undef = .bool true:=he 22 (by kernel_rfl)
        go_simp
        exact ⟨rfl,Below.refl _ _⟩
      · injection ho with ho;subst ho
        have hg:A.tmps[74]?.getD undef = .bool true:=he 23 (by kernel_rfl)
        refine .inl ⟨Flow.wanted_yes rfl rfl hg,?_⟩
        have t5:A.tmps[5]?.getD undef = .pointer (some ⟨w.heap.size+1,0,none⟩):=hk 5 (by rfl)
        go_simp
        exact ⟨rfl,Below.refl _ _⟩
      · injection ho with ho;subst ho
        have hg:A.tmps[74]?.getD undef = .bool true:=he 23 (by kernel_rfl)
        refine .inl ⟨Flow.wanted_yes rfl rfl hg,?_⟩
        have t75:A.tmps[75]?.getD undef = .agg #[.int .u8 k,.int .u8 m,.int .i64 l,.int .u64 x,.int .u64 y]:=he 24 (by kernel_rfl)
        clear a0 a1 a2 a3 a4 b0 b1 b2 b3 b4 la lb
        go_simp
        refine Calls.mono (HU.out W) ?_
        rintro e' w' ⟨rfl,hb⟩
        exact ⟨_,rfl,rfl,hb⟩
      · injection ho with ho;subst ho
        have hg:A.tmps[74]?.getD undef = .bool true:=he 23 (by kernel_rfl)
        refine .inl ⟨Flow.wanted_yes rfl rfl hg,?_⟩
        have t2:A.tmps[2]?.getD undef = .pointer (some ⟨w.heap.size,0,none⟩):=hk 2 (by rfl)
        go_simp
        exact ⟨rfl,Below.refl _ _⟩
      · injection ho with ho;subst ho
        have hg:A.tmps[74]?.getD undef = .bool true:=he 23 (by kernel_rfl)
        refine .inl ⟨Flow.wanted_yes rfl rfl hg,?_⟩
        have t77:A.tmps[77]?.getD undef = .pointer (some ⟨w.heap.size,0,none⟩):=he 26 (by kernel_rfl)
        go_simp
        exact ⟨rfl,Below.refl _ _⟩
      · injection ho with ho;subst ho
        have hg:A.tmps[74]?.getD undef = .bool true:=he 23 (by kernel_rfl)
        refine .inl ⟨Flow.wanted_yes rfl rfl hg,?_⟩
        have t78:A.tmps[78]?.getD undef = .int .u8 k:=he 27 (by kernel_rfl)
        go_simp
        exact ⟨rfl,Below.refl _ _⟩
      · injection ho with ho;subst ho
        have hg:A.tmps[74]?.getD undef = .bool true:=he 23 (by kernel_rfl)
        refine .inl ⟨Flow.wanted_yes rfl rfl hg,?_⟩
        have t79:A.tmps[79]?.getD undef = .bool true:=he 28 (by kernel_rfl)
        go_simp
        exact ⟨rfl,Below.refl _ _⟩
      · injection ho with ho;subst ho
        have hg:A.tmps[80]?.getD undef = .bool true:=he 29 (by kernel_rfl)
        refine .inl ⟨Flow.wanted_yes rfl rfl hg,?_⟩
        have t2:A.tmps[2]?.getD undef = .pointer (some ⟨w.heap.size,0,none⟩):=hk 2 (by rfl)
        go_simp
        exact ⟨rfl,Below.refl _ _⟩
      · injection ho with ho;subst ho
        have hg:A.tmps[80]?.getD undef = .bool true:=he 29 (by kernel_rfl)
        refine .inl ⟨Flow.wanted_yes rfl rfl hg,?_⟩
        have t81:A.tmps[81]?.getD undef = .pointer (some ⟨w.heap.size,0,none⟩):=he 30 (by kernel_rfl)
        go_simp
        exact ⟨rfl,Below.refl _ _⟩
      · injection ho with ho;subst ho
        have hg:A.tmps[80]?.getD undef = .bool true:=he 29 (by kernel_rfl)
        refine .inl ⟨Flow.wanted_yes rfl rfl hg,?_⟩
        have t82:A.tmps[82]?.getD undef = .int .u8 k:=he 31 (by kernel_rfl)
        go_simp
        exact ⟨rfl,Below.refl _ _⟩
      · injection ho with ho;subst ho
        have hg:A.tmps[74]?.getD undef = .bool true:=he 23 (by kernel_rfl)
        refine .inl ⟨Flow.wanted_yes rfl rfl hg,?_⟩
        have t80:A.tmps[80]?.getD undef = .bool true:=he 29 (by kernel_rfl)
        have t83:A.tmps[83]?.getD undef = .bool u:=he 32 (by kernel_rfl)
        go_simp
        exact ⟨rfl,Below.refl _ _⟩
      · injection ho with ho;subst ho
        have hg:A.tmps[74]?.getD undef = .bool true:=he 23 (by kernel_rfl)
        refine .inl ⟨Flow.wanted_yes rfl rfl hg,?_⟩
        have t76:A.tmps[76]?.getD undef = .bool u:=he 25 (by kernel_rfl)
        have t84:A.tmps[84]?.getD undef = .bool u:=he 33 (by kernel_rfl)
        go_simp
        exact ⟨rfl,Below.refl _ _⟩
      · injection ho with ho;subst ho
        refine .inl ⟨Flow.wanted_free rfl,?_⟩
        have t74:A.tmps[74]?.getD undef = .bool true:=he 23 (by kernel_rfl)
        have t85:A.tmps[85]?.getD undef = .bool true:=he 34 (by kernel_rfl)
        go_simp
        exact ⟨rfl,Below.refl _ _⟩
      · injection ho with ho;subst ho
        refine .inl ⟨Flow.wanted_free rfl,?_⟩
        have t86:A.tmps[86]?.getD undef = .bool true:=he 35 (by kernel_rfl)
        go_simp
        exact ⟨rfl,Below.refl _ _⟩
      · injection ho with ho;subst ho
        have hg:A.tmps[87]?.getD undef = .bool true:=he 36 (by kernel_rfl)
        refine .inl ⟨Flow.wanted_yes rfl rfl hg,?_⟩
        clear a0 a1 a2 a3 a4 b0 b1 b2 b3 b4 la lb
        go_simp
        refine Calls.mono (HK.out W HBW.out) ?_
        rintro e' w' ⟨rfl,hb⟩
        exact ⟨_,rfl,rfl,hb⟩
      · injection ho with ho;subst ho
        refine .inl ⟨Flow.wanted_free rfl,?_⟩
        have t87:A.tmps[87]?.getD undef = .bool true:=he 36 (by kernel_rfl)
        have t88:A.tmps[88]?.getD undef = .bool true:=he 37 (by kernel_rfl)
        go_simp
        exact ⟨rfl,Below.refl _ _⟩
    · intro xs W hW hV
      have q:xs 38 = .bool true:=hV 38 (by simp)
      have HBW:=Lib.hid (HB.out.trans (hW.mono HB.out.size))
      simp only [List.length_cons,List.length_nil,Nat.zero_add,Nat.reduceAdd,List.drop_succ_cons,List.drop_zero,Flow.putL,Act.put,List.setIfInBounds_toArray,List.set_cons_zero,List.set_cons_succ,q]
      clear hV hW q
      go_wp2_with fail
      go_ret
      exact ⟨rfl,HBW.out⟩
  · have d4:decide ((4:Int)<=(k:Int))=false:=decide_eq_false (by omega)
    have d4':decide (4<=k)=false:=decide_eq_false h4
    rw [updK_false (by omega) (by omega) (by omega)] at HU
    clear h4
    clear a0 a1 a2 a3 a4 b0 b1 b2 b3 b4 la lb
    refine Flow.wp_flowG [51,52,53,54,55,56,57,58,59,60,61,62,63,64,65,66,67,68,69,70,71,72,73,74,75,76,77,78,79,80,81,82,83,84,85,86,87,88,89] [Flow.eqV (.int .u8 mr),Flow.eqV (.int .u8 mr),Flow.eqV (.bool true),Flow.eqV (.bool true),Flow.eqV (.bool br),Flow.eqV (.bool br),Flow.eqV (.bool true),Flow.eqV (.bool true),Flow.eqV (.bool true),Flow.eqV (.int .u64 wn),Flow.eqV (.int .u64 wn),Flow.eqV (.bool true),Flow.eqV (.bool true),Flow.eqV (.bool true),Flow.eqV (.int .u8 wm),Flow.eqV (.int .u8 wm),Flow.eqV (.bool true),Flow.eqV (.bool true),Flow.eqV (.bool true),Flow.eqV (.bool wb),Flow.eqV (.bool wb),Flow.eqV (.bool true),Flow.eqV (.bool true),Flow.eqV (.bool true),Flow.eqV (.agg #[.int .u8 k,.int .u8 m,.int .i64 l,.int .u64 x,.int .u64 y]),Flow.eqV (.bool false),Flow.eqV (.pointer (some ⟨w.heap.size,0,none⟩)),Flow.eqV (.int .u8 k),Flow.eqV (.bool false),Flow.eqV (.bool false),Flow.eqV (undef),Flow.eqV (undef),Flow.eqV (undef),Flow.eqV (.bool false),Flow.eqV (.bool true),Flow.eqV (.bool true),Flow.eqV (.bool true),Flow.eqV (.bool true),Flow.eqV (.bool true)]
      (by kernel_rfl) (by kernel_rfl) (by kernel_rfl) (by kernel_rfl) (by rfl) (by simp only [List.mem_cons,List.not_mem_nil,or_false,forall_eq_or_imp,forall_eq];refine ⟨?_,?_,?_,?_,?_,?_,?_,?_,?_,?_,?_,?_,?_,?_,?_,?_,?_,?_,?_,?_,?_,?_,?_,?_,?_,?_,?_,?_,?_,?_,?_,?_,?_,?_,?_,?_,?_,?_,?_⟩ <;> exact Flow.eqV_mono _) ?_ ?_
    · intro i o hi ho A W hW hk he
      simp only [List.length_cons,List.length_nil,Nat.zero_add,Nat.reduceAdd] at hi
      have s2:=S2.out.below hW S2.out.lt
      have s5:=S5.out.below hW S5.out.lt
      have HBW:=Lib.hid (HB.out.trans (hW.mono HB.out.size))
      have a0:W.cell? ⟨w.heap.size,0,none⟩=some (.int .u8 k):=s2.cell 0
      have b0:W.cell? ⟨w.heap.size+1,0,none⟩=some (.int .u8 k):=s5.cell 0
      have a1:W.cell? ⟨w.heap.size,1,none⟩=some (.int .u8 m):=s2.cell 1
      have b1:W.cell? ⟨w.heap.size+1,1,none⟩=some (.int .u8 m):=s5.cell 1
      have a2:W.cell? ⟨w.heap.size,2,none⟩=some (.int .i64 l):=s2.cell 2
      have b2:W.cell? ⟨w.heap.size+1,2,none⟩=some (.int .i64 l):=s5.cell 2
      have a3:W.cell? ⟨w.heap.size,3,none⟩=some (.int .u64 x):=s2.cell 3
      have b3:W.cell? ⟨w.heap.size+1,3,none⟩=some (.int .u64 x):=s5.cell 3
      have a4:W.cell? ⟨w.heap.size,4,none⟩=some (.int .u64 y):=s2.cell 4
      have b4:W.cell? ⟨w.heap.size+1,4,none⟩=some (.int .u64 y):=s5.cell 4
      have la:=s2.lt
      have lb:=s5.lt
      clear s2 s5
      obtain rfl | rfl | rfl | rfl | rfl | rfl | rfl | rfl | rfl | rfl | rfl | rfl | rfl | rfl | rfl | rfl | rfl | rfl | rfl | rfl | rfl | rfl | rfl | rfl | rfl | rfl | rfl | rfl | rfl | rfl | rfl | rfl | rfl | rfl | rfl | rfl | rfl | rfl | rfl:i=0 \/ i=1 \/ i=2 \/ i=3 \/ i=4 \/ i=5 \/ i=6 \/ i=7 \/ i=8 \/ i=9 \/ i=10 \/ i=11 \/ i=12 \/ i=13 \/ i=14 \/ i=15 \/ i=16 \/ i=17 \/ i=18 \/ i=19 \/ i=20 \/ i=21 \/ i=22 \/ i=23 \/ i=24 \/ i=25 \/ i=26 \/ i=27 \/ i=28 \/ i=29 \/ i=30 \/ i=31 \/ i=32 \/ i=33 \/ i=34 \/ i=35 \/ i=36 \/ i=37 \/ i=38:=by omega
      · injection ho with ho;subst ho
        refine .inl ⟨Flow.wanted_free rfl,?_⟩
        have t6:A.tmps[6]?.getD undef = .int .u8 mr:=hk 6 (by rfl)
        go_simp
        exact ⟨rfl,Below.refl _ _⟩
      · injection ho with ho;subst ho
        refine .inl ⟨Flow.wanted_free rfl,?_⟩
        have t8:A.tmps[8]?.getD undef = .int .u8 mr:=hk 8 (by rfl)
        go_simp
        exact ⟨rfl,Below.refl _ _⟩
      · injection ho with ho;subst ho
        refine .inl ⟨Flow.wanted_free rfl,?_⟩
        have t51:A.tmps[51]?.getD undef = .int .u8 mr:=he 0 (by kernel_rfl)
        have t52:A.tmps[52]?.getD undef = .int .u8 mr:=he 1 (by kernel_rfl)
        go_simp
        exact ⟨rfl,Below.refl _ _⟩
      · injection ho with ho;subst ho
        refine .inl ⟨Flow.wanted_free rfl,?_⟩
        have t53:A.tmps[53]?.getD undef = .bool true:=he 2 (by kernel_rfl)
        go_simp
        exact ⟨rfl,Below.refl _ _⟩
      · injection ho with ho;subst ho
        have hg:A.tmps[54]?.getD undef = .bool true:=he 3 (by kernel_rfl)
        refine .inl ⟨Flow.wanted_yes rfl rfl hg,?_⟩
        have t7:A.tmps[7]?.getD undef = .bool br:=hk 7 (by rfl)
        go_simp
        exact ⟨rfl,Below.refl _ _⟩
      · injection ho with ho;subst ho
        have hg:A.tmps[54]?.getD undef = .bool true:=he 3 (by kernel_rfl)
        refine .inl ⟨Flow.wanted_yes rfl rfl hg,?_⟩
        have t9:A.tmps[9]?.getD undef = .bool br:=hk 9 (by rfl)
        go_simp
        exact ⟨rfl,Below.refl _ _⟩
      · injection ho with ho;subst ho
        have hg:A.tmps[54]?.getD undef = .bool true:=he 3 (by kernel_rfl)
        refine .inl ⟨Flow.wanted_yes rfl rfl hg,?_⟩
        have t55:A.tmps[55]?.getD undef = .bool br:=he 4 (by kernel_rfl)
        have t56:A.tmps[56]?.getD undef = .bool br:=he 5 (by kernel_rfl)
        go_simp
        exact ⟨rfl,Below.refl _ _⟩
      · injection ho with ho;subst ho
        refine .inl ⟨Flow.wanted_free rfl,?_⟩
        have t54:A.tmps[54]?.getD undef = .bool true:=he 3 (by kernel_rfl)
        have t57:A.tmps[57]?.getD undef = .bool true:=he 6 (by kernel_rfl)
        go_simp
        exact ⟨rfl,Below.refl _ _⟩
      · injection ho with ho;subst ho
        refine .inl ⟨Flow.wanted_free rfl,?_⟩
        have t58:A.tmps[58]?.getD undef = .bool true:=he 7 (by kernel_rfl)
        go_simp
        exact ⟨rfl,Below.refl _ _⟩
      · injection ho with ho;subst ho
        have hg:A.tmps[59]?.getD undef = .bool true:=he 8 (by kernel_rfl)
        refine .inl ⟨Flow.wanted_yes rfl rfl hg,?_⟩
        have t10:A.tmps[10]?.getD undef = .int .u64 wn:=hk 10 (by rfl)
        go_simp
        exact ⟨rfl,Below.refl _ _⟩
      · injection ho with ho;subst ho
        have hg:A.tmps[59]?.getD undef = .bool true:=he 8 (by kernel_rfl)
        refine .inl ⟨Flow.wanted_yes rfl rfl hg,?_⟩
        have t13:A.tmps[13]?.getD undef = .int .u64 wn:=hk 13 (by rfl)
        go_simp
        exact ⟨rfl,Below.refl _ _⟩
      · injection ho with ho;subst ho
        have hg:A.tmps[59]?.getD undef = .bool true:=he 8 (by kernel_rfl)
        refine .inl ⟨Flow.wanted_yes rfl rfl hg,?_⟩
        have t60:A.tmps[60]?.getD undef = .int .u64 wn:=he 9 (by kernel_rfl)
        have t61:A.tmps[61]?.getD undef = .int .u64 wn:=he 10 (by kernel_rfl)
        go_simp
        exact ⟨rfl,Below.refl _ _⟩
      · injection ho with ho;subst ho
        refine .inl ⟨Flow.wanted_free rfl,?_⟩
        have t59:A.tmps[59]?.getD undef = .bool true:=he 8 (by kernel_rfl)
        have t62:A.tmps[62]?.getD undef = .bool true:=he 11 (by kernel_rfl)
        go_simp
        exact ⟨rfl,Below.refl _ _⟩
      · injection ho with ho;subst ho
        refine .inl ⟨Flow.wanted_free rfl,?_⟩
        have t63:A.tmps[63]?.getD undef = .bool true:=he 12 (by kernel_rfl)
        go_simp
        exact ⟨rfl,Below.refl _ _⟩
      · injection ho with ho;subst ho
        have hg:A.tmps[64]?.getD undef = .bool true:=he 13 (by kernel_rfl)
        refine .inl ⟨Flow.wanted_yes rfl rfl hg,?_⟩
        have t11:A.tmps[11]?.getD undef = .int .u8 wm:=hk 11 (by rfl)
        go_simp
        exact ⟨rfl,Below.refl _ _⟩
      · injection ho with ho;subst ho
        have hg:A.tmps[64]?.getD undef = .bool true:=he 13 (by kernel_rfl)
        refine .inl ⟨Flow.wanted_yes rfl rfl hg,?_⟩
        have t14:A.tmps[14]?.getD undef = .int .u8 wm:=hk 14 (by rfl)
        go_simp
        exact ⟨rfl,Below.refl _ _⟩
      · injection ho with ho;subst ho
        have hg:A.tmps[64]?.getD undef = .bool true:=he 13 (by kernel_rfl)
        refine .inl ⟨Flow.wanted_yes rfl rfl hg,?_⟩
        have t65:A.tmps[65]?.getD undef = .int .u8 wm:=he 14 (by kernel_rfl)
        have t66:A.tmps[66]?.getD undef = .int .u8 wm:=he 15 (by kernel_rfl)
        go_simp
        exact ⟨rfl,Below.refl _ _⟩
      · injection ho with ho;subst ho
        refine .inl ⟨Flow.wanted_free rfl,?_⟩
        have t64:A.tmps[64]?.getD undef = .bool true:=he 13 (by kernel_rfl)
        have t67:A.tmps[67]?.getD undef = .bool true:=he 16 (by kernel_rfl)
        go_simp
        exact ⟨rfl,Below.refl _ _⟩
      · injection ho with ho;subst ho
        refine .inl ⟨Flow.wanted_free rfl,?_⟩
        have t68:A.tmps[68]?.getD undef = .bool true:=he 17 (by kernel_rfl)
        go_simp
        exact ⟨rfl,Below.refl _ _⟩
      · injection ho with ho;subst ho
        have hg:A.tmps[69]?.getD undef = .bool true:=he 18 (by kernel_rfl)
        refine .inl ⟨Flow.wanted_yes rfl rfl hg,?_⟩
        have t12:A.tmps[12]?.getD undef = .bool wb:=hk 12 (by rfl)
        go_simp
        exact ⟨rfl,Below.refl _ _⟩
      · injection ho with ho;subst ho
        have hg:A.tmps[69]?.getD undef = .bool true:=he 18 (by kernel_rfl)
        refine .inl ⟨Flow.wanted_yes rfl rfl hg,?_⟩
        have t15:A.tmps[15]?.getD undef = .bool wb:=hk 15 (by rfl)
        go_simp
        exact ⟨rfl,Below.refl _ _⟩
      · injection ho with ho;subst ho
        have hg:A.tmps[69]?.getD undef = .bool true:=he 18 (by kernel_rfl)
        refine .inl ⟨Flow.wanted_yes rfl rfl hg,?_⟩
        have t70:A.tmps[70]?.getD undef = .bool wb:=he 19 (by kernel_rfl)
        have t71:A.tmps[71]?.getD undef = .bool wb:=he 20 (by kernel_rfl)
        go_simp
        exact ⟨rfl,Below.refl _ _⟩
      · injection ho with ho;subst ho
        refine .inl ⟨Flow.wanted_free rfl,?_⟩
        have t69:A.tmps[69]?.getD undef = .bool true:=he 18 (by kernel_rfl)
        have t72:A.tmps[72]?.getD undef = .bool true:=he 21 (by kernel_rfl)
        go_simp
        exact ⟨rfl,Below.refl _ _⟩
      · injection ho with ho;subst ho
        refine .inl ⟨Flow.wanted_free rfl,?_⟩
        have t73:A.tmps[73]?.getD undef = .bool true:=he 22 (by kernel_rfl)
        go_simp
        exact ⟨rfl,Below.refl _ _⟩
      · injection ho with ho;subst ho
        have hg:A.tmps[74]?.getD undef = .bool true:=he 23 (by kernel_rfl)
        refine .inl ⟨Flow.wanted_yes rfl rfl hg,?_⟩
        have t5:A.tmps[5]?.getD undef = .pointer (some ⟨w.heap.size+1,0,none⟩):=hk 5 (by rfl)
        go_simp
        exact ⟨rfl,Below.refl _ _⟩
      · injection ho with ho;subst ho
        have hg:A.tmps[74]?.getD undef = .bool true:=he 23 (by kernel_rfl)
        refine .inl ⟨Flow.wanted_yes rfl rfl hg,?_⟩
        have t75:A.tmps[75]?.getD undef = .agg #[.int .u8 k,.int .u8 m,.int .i64 l,.int .u64 x,.int .u64 y]:=he 24 (by kernel_rfl)
        clear a0 a1 a2 a3 a4 b0 b1 b2 b3 b4 la lb
        go_simp
        refine Calls.mono (HU.out W) ?_
        rintro e' w' ⟨rfl,hb⟩
        exact ⟨_,rfl,rfl,hb⟩
      · injection ho with ho;subst ho
        have hg:A.tmps[74]?.getD undef = .bool true:=he 23 (by kernel_rfl)
        refine .inl ⟨Flow.wanted_yes rfl rfl hg,?_⟩
        have t2:A.tmps[2]?.getD undef = .pointer (some ⟨w.heap.size,0,none⟩):=hk 2 (by rfl)
        go_simp
        exact ⟨rfl,Below.refl _ _⟩
      · injection ho with ho;subst ho
        have hg:A.tmps[74]?.getD undef = .bool true:=he 23 (by kernel_rfl)
        refine .inl ⟨Flow.wanted_yes rfl rfl hg,?_⟩
        have t77:A.tmps[77]?.getD undef = .pointer (some ⟨w.heap.size,0,none⟩):=he 26 (by kernel_rfl)
        go_simp
        exact ⟨rfl,Below.refl _ _⟩
      · injection ho with ho;subst ho
        have hg:A.tmps[74]?.getD undef = .bool true:=he 23 (by kernel_rfl)
        refine .inl ⟨Flow.wanted_yes rfl rfl hg,?_⟩
        have t78:A.tmps[78]?.getD undef = .int .u8 k:=he 27 (by kernel_rfl)
        go_simp
        exact ⟨rfl,Below.refl _ _⟩
      · injection ho with ho;subst ho
        have hg:A.tmps[74]?.getD undef = .bool true:=he 23 (by kernel_rfl)
        refine .inl ⟨Flow.wanted_yes rfl rfl hg,?_⟩
        have t79:A.tmps[79]?.getD undef = .bool false:=he 28 (by kernel_rfl)
        go_simp
        exact ⟨rfl,Below.refl _ _⟩
      · injection ho with ho;subst ho
        have hg:A.tmps[80]?.getD undef = .bool false:=he 29 (by kernel_rfl)
        exact .inr ⟨Flow.wanted_no rfl rfl hg,rfl⟩
      · injection ho with ho;subst ho
        have hg:A.tmps[80]?.getD undef = .bool false:=he 29 (by kernel_rfl)
        exact .inr ⟨Flow.wanted_no rfl rfl hg,rfl⟩
      · injection ho with ho;subst ho
        have hg:A.tmps[80]?.getD undef = .bool false:=he 29 (by kernel_rfl)
        exact .inr ⟨Flow.wanted_no rfl rfl hg,rfl⟩
      · injection ho with ho;subst ho
        have hg:A.tmps[74]?.getD undef = .bool true:=he 23 (by kernel_rfl)
        refine .inl ⟨Flow.wanted_yes rfl rfl hg,?_⟩
        have t80:A.tmps[80]?.getD undef = .bool false:=he 29 (by kernel_rfl)
        go_simp
        exact ⟨rfl,Below.refl _ _⟩
      · injection ho with ho;subst ho
        have hg:A.tmps[74]?.getD undef = .bool true:=he 23 (by kernel_rfl)
        refine .inl ⟨Flow.wanted_yes rfl rfl hg,?_⟩
        have t76:A.tmps[76]?.getD undef = .bool false:=he 25 (by kernel_rfl)
        have t84:A.tmps[84]?.getD undef = .bool false:=he 33 (by kernel_rfl)
        go_simp
        exact ⟨rfl,Below.refl _ _⟩
      · injection ho with ho;subst ho
        refine .inl ⟨Flow.wanted_free rfl,?_⟩
        have t74:A.tmps[74]?.getD undef = .bool true:=he 23 (by kernel_rfl)
        have t85:A.tmps[85]?.getD undef = .bool true:=he 34 (by kernel_rfl)
        go_simp
        exact ⟨rfl,Below.refl _ _⟩
      · injection ho with ho;subst ho
        refine .inl ⟨Flow.wanted_free rfl,?_⟩
        have t86:A.tmps[86]?.getD undef = .bool true:=he 35 (by kernel_rfl)
        go_simp
        exact ⟨rfl,Below.refl _ _⟩
      · injection ho with ho;subst ho
        have hg:A.tmps[87]?.getD undef = .bool true:=he 36 (by kernel_rfl)
        refine .inl ⟨Flow.wanted_yes rfl rfl hg,?_⟩
        clear a0 a1 a2 a3 a4 b0 b1 b2 b3 b4 la lb
        go_simp
        refine Calls.mono (HK.out W HBW.out) ?_
        rintro e' w' ⟨rfl,hb⟩
        exact ⟨_,rfl,rfl,hb⟩
      · injection ho with ho;subst ho
        refine .inl ⟨Flow.wanted_free rfl,?_⟩
        have t87:A.tmps[87]?.getD undef = .bool true:=he 36 (by kernel_rfl)
        have t88:A.tmps[88]?.getD undef = .bool true:=he 37 (by kernel_rfl)
        go_simp
        exact ⟨rfl,Below.refl _ _⟩
    · intro xs W hW hV
      have q:xs 38 = .bool true:=hV 38 (by simp)
      have HBW:=Lib.hid (HB.out.trans (hW.mono HB.out.size))
      simp only [List.length_cons,List.length_nil,Nat.zero_add,Nat.reduceAdd,List.drop_succ_cons,List.drop_zero,Flow.putL,Act.put,List.setIfInBounds_toArray,List.set_cons_zero,List.set_cons_succ,q]
      clear hV hW q
      go_wp2_with fail
      go_ret
      exact ⟨rfl,HBW.out⟩
end Go.Proofs.YtagebkachdmnbaaGreatDoor.Thr
end
