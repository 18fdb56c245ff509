/- Part 46 of the proof: what is used of the texts ThrL. -/
import Derived.Test.YtagebkachdmnbaaGreatDoorME4
section
namespace Go.Proofs.YtagebkachdmnbaaGreatDoor.Thr
open Go.RowKit Go.Shelf Go.Proofs.YtagebkachdmnbaaGreatDoor.Mem Go.Proofs.YtagebkachdmnbaaGreatDoor.Expr Go.Proofs.YtagebkachdmnbaaGreatDoor.Prog Go.Proofs.YtagebkachdmnbaaGreatDoor.Row Go.Proofs.YtagebkachdmnbaaGreatDoor.Unr Go.Lib
set_option maxRecDepth 100000 in
theorem dreads_any (a:Ac) (w:World):Calls Tryz.prog 24 #[acV a] w (Made (.returned (modeR (readsF a))) w):=by
  obtain ⟨k,m,l,x,y⟩:=a
  show Calls _ _ #[.agg #[.int .u8 k,.int .u8 m,.int .i64 l,.int .u64 x,.int .u64 y]] _ _
  by_cases h2:k=2
  · subst h2
    show Calls _ _ _ _ (Made (.returned (.tuple #[.int .u8 m,.bool true])) w)
    go_enter Tryz.func24,Tryz.ntmps24
    go_wp2_with fail
    go_ret2
    exact ⟨rfl,(Below.refl _ _).alloc (Nat.le_refl _) _⟩
  have e2:((k:Int) == 2)=false:=nbeq h2
  by_cases h4:k<4
  · have d4:decide ((k:Int)<4)=true:=decide_eq_true (by omega)
    have e:readsF ⟨k,m,l,x,y⟩=none:=by unfold readsF;rw [if_neg h2,if_neg (show ¬ updK k=true by rw [updK_false (by omega) (by omega) (by omega)];decide)]
    rw [e]
    show Calls _ _ _ _ (Made (.returned (.tuple #[.int .u8 0,.bool false])) w)
    clear e h2 h4
    go_enter Tryz.func24,Tryz.ntmps24
    go_wp2_with fail
    go_ret2
    exact ⟨rfl,(Below.refl _ _).alloc (Nat.le_refl _) _⟩
  have d4:decide ((k:Int)<4)=false:=decide_eq_false (by omega)
  by_cases h6:6<k
  · have d6:decide ((6:Int)<(k:Int))=true:=decide_eq_true (by omega)
    have e:readsF ⟨k,m,l,x,y⟩=none:=by unfold readsF;rw [if_neg h2,if_neg (show ¬ updK k=true by rw [updK_false (by omega) (by omega) (by omega)];decide)]
    rw [e]
    show Calls _ _ _ _ (Made (.returned (.tuple #[.int .u8 0,.bool false])) w)
    clear e h2 h4 h6
    go_enter Tryz.func24,Tryz.ntmps24
    go_wp2_with fail
    go_ret2
    exact ⟨rfl,(Below.refl _ _).alloc (Nat.le_refl _) _⟩
  have d6:decide ((6:Int)<(k:Int))=false:=decide_eq_false (by omega)
  have e:readsF ⟨k,m,l,x,y⟩=some (halfF m 3):=by unfold readsF;rw [if_neg h2,if_pos (by unfold updK;exact decide_eq_true (by show k=4 \/ k=5 \/ k=6;omega))]
  rw [e]
  clear e h2 h4 h6
  by_cases h3:m=3
  · subst h3
    show Calls _ _ _ _ (Made (.returned (.tuple #[.int .u8 3,.bool true])) w)
    go_enter Tryz.func24,Tryz.ntmps24
    go_wp2_with fail
    go_ret2
    exact ⟨rfl,(Below.refl _ _).alloc (Nat.le_refl _) _⟩
  have e3:((m:Int) == 3)=false:=nbeq h3
  by_cases h5:m=5
  · subst h5
    show Calls _ _ _ _ (Made (.returned (.tuple #[.int .u8 3,.bool true])) w)
    clear h3
    go_enter Tryz.func24,Tryz.ntmps24
    go_wp2_with fail
    go_ret2
    exact ⟨rfl,(Below.refl _ _).alloc (Nat.le_refl _) _⟩
  have e5:((m:Int) == 5)=false:=nbeq h5
  have eh:halfF m 3=2:=by unfold halfF;rw [if_neg (by omega)]
  rw [eh]
  show Calls _ _ _ _ (Made (.returned (.tuple #[.int .u8 2,.bool true])) w)
  clear eh h3 h5
  go_enter Tryz.func24,Tryz.ntmps24
  go_wp2_with fail
  go_ret2
  exact ⟨rfl,(Below.refl _ _).alloc (Nat.le_refl _) _⟩
set_option maxRecDepth 100000 in
set_option maxHeartbeats 2000000 in
theorem dwrites_any (a:Ac) (n:Int) (w:World):Calls Tryz.prog 26 #[acV a,.int .u64 n] w (Made (.returned (writeR (writesF a n))) w):=by
  obtain ⟨k,m,l,x,y⟩:=a
  show Calls _ _ #[.agg #[.int .u8 k,.int .u8 m,.int .i64 l,.int .u64 x,.int .u64 y],_] _ _
  by_cases h3:k=3
  · subst h3
    show Calls _ _ _ _ (Made (.returned (.tuple #[.int .u64 x,.int .u8 m,.bool true])) w)
    go_enter Tryz.func26,Tryz.ntmps26
    go_upto_region 2 with (fail)
    go_quiet (fail)
    go_wp2_with fail
    go_ret3
    exact ⟨rfl,drewN_below ((Below.refl _ _).alloc (Nat.le_refl _) _) _⟩
  have e3:((k:Int) == 3)=false:=nbeq h3
  have hm:(m=4 \/ m=5) \/ (m≠4/\m≠5):=by omega
  rcases hm with (hm | hm) | hm
  · have m4:((m:Int) == 4)=true:=by rw [hm];rfl
    have eh:halfF m 4=4:=by unfold halfF;rw [if_pos (.inl hm)]
    clear hm
    by_cases h4:k=4
    · subst h4
      show Calls _ _ _ _ (Made (.returned (.tuple #[.int .u64 x,.int .u8 (halfF m 4:Nat),.bool true])) w)
      rw [eh]
      clear eh h3
      go_enter Tryz.func26,Tryz.ntmps26
      go_wp2_with fail
      go_ret3
      exact ⟨rfl,(Below.refl _ _).alloc (Nat.le_refl _) _⟩
    have e4:((k:Int) == 4)=false:=nbeq h4
    by_cases h5:k=5
    · subst h5
      show Calls _ _ _ _ (Made (.returned (.tuple #[.int .u64 (IntKind.u64.wrap (n+x)),.int .u8 (halfF m 4:Nat),.bool true])) w)
      rw [eh]
      clear eh h3 h4
      go_enter Tryz.func26,Tryz.ntmps26
      go_wp2_with fail
      go_ret3
      exact ⟨rfl,(Below.refl _ _).alloc (Nat.le_refl _) _⟩
    have e5:((k:Int) == 5)=false:=nbeq h5
    by_cases h6:k=6
    · subst h6
      by_cases hn:n=x
      · have e:writesF ⟨6,m,l,x,y⟩ n=some (y,halfF m 4):=by unfold writesF;rw [if_neg (by simp),if_neg (by simp),if_neg (by simp),if_pos ⟨rfl,hn⟩]
        rw [e]
        show Calls _ _ _ _ (Made (.returned (.tuple #[.int .u64 y,.int .u8 (halfF m 4:Nat),.bool true])) w)
        rw [eh]
        have en:(n == x)=true:=by simpa using hn
        clear eh e h3 h4 h5 hn
        go_enter Tryz.func26,Tryz.ntmps26
        go_wp2_with fail
        go_ret3
        exact ⟨rfl,(Below.refl _ _).alloc (Nat.le_refl _) _⟩
      · have e:writesF ⟨6,m,l,x,y⟩ n=none:=by unfold writesF;rw [if_neg (by simp),if_neg (by simp),if_neg (by simp),if_neg (fun h=>hn h.2)]
        rw [e]
        show Calls _ _ _ _ (Made (.returned (.tuple #[.int .u64 0,.int .u8 0,.bool false])) w)
        have en:(n == x)=false:=beq_eq_false_iff_ne.2 hn
        clear eh e h3 h4 h5 hn
        go_enter Tryz.func26,Tryz.ntmps26
        go_wp2_with fail
        go_ret3
        exact ⟨rfl,(Below.refl _ _).alloc (Nat.le_refl _) _⟩
    have e6:((k:Int) == 6)=false:=nbeq h6
    have e:writesF ⟨k,m,l,x,y⟩ n=none:=by unfold writesF;rw [if_neg h3,if_neg h4,if_neg h5,if_neg (fun h=>h6 h.1)]
    rw [e]
    show Calls _ _ _ _ (Made (.returned (.tuple #[.int .u64 0,.int .u8 0,.bool false])) w)
    clear eh e h3 h4 h5 h6
    go_enter Tryz.func26,Tryz.ntmps26
    go_wp2_with fail
    go_ret3
    exact ⟨rfl,(Below.refl _ _).alloc (Nat.le_refl _) _⟩
  · have m4:((m:Int) == 4)=false:=nbeq (n:=4) (by omega)
    have m5:((m:Int) == 5)=true:=by rw [hm];rfl
    have eh:halfF m 4=4:=by unfold halfF;rw [if_pos (.inr hm)]
    clear hm
    by_cases h4:k=4
    · subst h4
      show Calls _ _ _ _ (Made (.returned (.tuple #[.int .u64 x,.int .u8 (halfF m 4:Nat),.bool true])) w)
      rw [eh]
      clear eh h3
      go_enter Tryz.func26,Tryz.ntmps26
      go_wp2_with fail
      go_ret3
      exact ⟨rfl,(Below.refl _ _).alloc (Nat.le_refl _) _⟩
    have e4:((k:Int) == 4)=false:=nbeq h4
    by_cases h5:k=5
    · subst h5
      show Calls _ _ _ _ (Made (.returned (.tuple #[.int .u64 (IntKind.u64.wrap (n+x)),.int .u8 (halfF m 4:Nat),.bool true])) w)
      rw [eh]
      clear eh h3 h4
      go_enter Tryz.func26,Tryz.ntmps26
      go_wp2_with fail
      go_ret3
      exact ⟨rfl,(Below.refl _ _).alloc (Nat.le_refl _) _⟩
    have e5:((k:Int) == 5)=false:=nbeq h5
    by_cases h6:k=6
    · subst h6
      by_cases hn:n=x
      · have e:writesF ⟨6,m,l,x,y⟩ n=some (y,halfF m 4):=by unfold writesF;rw [if_neg (by simp),if_neg (by simp),if_neg (by simp),if_pos ⟨rfl,hn⟩]
        rw [e]
        show Calls _ _ _ _ (Made (.returned (.tuple #[.int .u64 y,.int .u8 (halfF m 4:Nat),.bool true])) w)
        rw [eh]
        have en:(n == x)=true:=by simpa using hn
        clear eh e h3 h4 h5 hn
        go_enter Tryz.func26,Tryz.ntmps26
        go_wp2_with fail
        go_ret3
        exact ⟨rfl,(Below.refl _ _).alloc (Nat.le_refl _) _⟩
      · have e:writesF ⟨6,m,l,x,y⟩ n=none:=by unfold writesF;rw [if_neg (by simp),if_neg (by simp),if_neg (by simp),if_neg (fun h=>hn h.2)]
        rw [e]
        show Calls _ _ _ _ (Made (.returned (.tuple #[.int .u64 0,.int .u8 0,.bool false])) w)
        have en:(n == x)=false:=beq_eq_false_iff_ne.2 hn
        clear eh e h3 h4 h5 hn
        go_enter Tryz.func26,Tryz.ntmps26
        go_wp2_with fail
        go_ret3
        exact ⟨rfl,(Below.refl _ _).alloc (Nat.le_refl _) _⟩
    have e6:((k:Int) == 6)=false:=nbeq h6
    have e:writesF ⟨k,m,l,x,y⟩ n=none:=by unfold writesF;rw [if_neg h3,if_neg h4,if_neg h5,if_neg (fun h=>h6 h.1)]
    rw [e]
    show Calls _ _ _ _ (Made (.returned (.tuple #[.int .u64 0,.int .u8 0,.bool false])) w)
    clear eh e h3 h4 h5 h6
    go_enter Tryz.func26,Tryz.ntmps26
    go_wp2_with fail
    go_ret3
    exact ⟨rfl,(Below.refl _ _).alloc (Nat.le_refl _) _⟩
  · have m4:((m:Int) == 4)=false:=nbeq hm.1
    have m5:((m:Int) == 5)=false:=nbeq hm.2
    have eh:halfF m 4=2:=by unfold halfF;rw [if_neg (by omega)]
    clear hm
    by_cases h4:k=4
    · subst h4
      show Calls _ _ _ _ (Made (.returned (.tuple #[.int .u64 x,.int .u8 (halfF m 4:Nat),.bool true])) w)
      rw [eh]
      clear eh h3
      go_enter Tryz.func26,Tryz.ntmps26
      go_wp2_with fail
      go_ret3
      exact ⟨rfl,(Below.refl _ _).alloc (Nat.le_refl _) _⟩
    have e4:((k:Int) == 4)=false:=nbeq h4
    by_cases h5:k=5
    · subst h5
      show Calls _ _ _ _ (Made (.returned (.tuple #[.int .u64 (IntKind.u64.wrap (n+x)),.int .u8 (halfF m 4:Nat),.bool true])) w)
      rw [eh]
      clear eh h3 h4
      go_enter Tryz.func26,Tryz.ntmps26
      go_wp2_with fail
      go_ret3
      exact ⟨rfl,(Below.refl _ _).alloc (Nat.le_refl _) _⟩
    have e5:((k:Int) == 5)=false:=nbeq h5
    by_cases h6:k=6
    · subst h6
      by_cases hn:n=x
      · have e:writesF ⟨6,m,l,x,y⟩ n=some (y,halfF m 4):=by unfold writesF;rw [if_neg (by simp),if_neg (by simp),if_neg (by simp),if_pos ⟨rfl,hn⟩]
        rw [e]
        show Calls _ _ _ _ (Made (.returned (.tuple #[.int .u64 y,.int .u8 (halfF m 4:Nat),.bool true])) w)
        rw [eh]
        have en:(n == x)=true:=by simpa using hn
        clear eh e h3 h4 h5 hn
        go_enter Tryz.func26,Tryz.ntmps26
        go_wp2_with fail
        go_ret3
        exact ⟨rfl,(Below.refl _ _).alloc (Nat.le_refl _) _⟩
      · have e:writesF ⟨6,m,l,x,y⟩ n=none:=by unfold writesF;rw [if_neg (by simp),if_neg (by simp),if_neg (by simp),if_neg (fun h=>hn h.2)]
        rw [e]
        show Calls _ _ _ _ (Made (.returned (.tuple #[.int .u64 0,.int .u8 0,.bool false])) w)
        have en:(n == x)=false:=beq_eq_false_iff_ne.2 hn
        clear eh e h3 h4 h5 hn
        go_enter Tryz.func26,Tryz.ntmps26
        go_wp2_with fail
        go_ret3
        exact ⟨rfl,(Below.refl _ _).alloc (Nat.le_refl _) _⟩
    have e6:((k:Int) == 6)=false:=nbeq h6
    have e:writesF ⟨k,m,l,x,y⟩ n=none:=by unfold writesF;rw [if_neg h3,if_neg h4,if_neg h5,if_neg (fun h=>h6 h.1)]
    rw [e]
    show Calls _ _ _ _ (Made (.returned (.tuple #[.int .u64 0,.int .u8 0,.bool false])) w)
    clear eh e h3 h4 h5 h6
    go_enter Tryz.func26,Tryz.ntmps26
    go_wp2_with fail
    go_ret3
    exact ⟨rfl,(Below.refl _ _).alloc (Nat.le_refl _) _⟩
end Go.Proofs.YtagebkachdmnbaaGreatDoor.Thr
end
