/- Part 37 of the proof: what is used of the texts TelA, TelB, TelD. -/
import Derived.Test.YtbkdappgmcebaaaGreatDoorLD4
import Derived.Test.YtbkdappgmcebaaaGreatDoorLA5
import Derived.Test.YtbkdappgmcebaaaGreatDoorLC1
import Derived.Test.YtbkdappgmcebaaaGreatDoorLD5
section
namespace Go.Proofs.YtbkdappgmcebaaaGreatDoor.Chk
open Go.RowKit Go.Proofs.YtbkdappgmcebaaaGreatDoor.Mem Go.Proofs.YtbkdappgmcebaaaGreatDoor.Expr Go.Proofs.YtbkdappgmcebaaaGreatDoor.Prog Go.Lib
def wholeE (l:List It):Bool:=match endF l (l.length+1) 0 with
  | some (m,d)=>decide (m=l.length) && decide (d<=12)
  | none=>false
def kindOk (ask:Bool) (k:Nat):Bool:=if ask then !decide (k=1) else !decide (k=2) && !decide (k=3)
def rexF (l:List It) (ask:Bool):Bool:=wholeE l && l.all fun a=>kindOk ask a.kind
theorem all_drop {l:List It} {i:Nat} {a:It} {p:It->Bool} (h:l[i]? = some a):(l.drop i).all p=(p a && (l.drop (i+1)).all p):=by rw [drop_at h,List.all_cons]
set_option maxRecDepth 100000 in
set_option maxHeartbeats 1000000 in
theorem rex_any (l:List It) (ask:Bool) (v:Value) (w:World) (hv:Row w v l):Calls Tryz.prog 57 #[v,.bool ask] w fun e w'=>Made (.returned (.bool (rexF l ask))) w e w':=by
  have HE:=Lib.hid (end_any l (l.length+1) 0 v w hv (by omega))
  have HV:=Lib.hid (fun W (h:Below w.heap.size w W)=>hv.below h)
  obtain ⟨p,cap,rfl,hl⟩:=hv.len
  have HR:=Lib.hid (show rexF l ask=(wholeE l && l.all fun a=>kindOk ask a.kind) from rfl)
  have m1:(l.length:Int)<=1000000:=by omega
  unfold wholeE at HR
  clear hv hl
  go_enter Tryz.func57,Tryz.ntmps57
  go_wp2_with fail
  refine HE.out.mono ?_
  rintro e w1 ⟨rfl,hb⟩
  have HB:=Lib.hid hb
  clear hb HE
  cases he:endF l (l.length+1) 0 with
  | none =>
    rw [he] at HR
    have HR:=Lib.hid (show rexF l ask=false by rw [HR.out];rfl)
    have n1:((-1:Int) != (l.length:Int))=true:=bne_iff_ne.2 (by omega)
    clear he
    simp only [endV]
    go_wp2_with fail
    go_ret
    exact ⟨by rw [HR.out];rfl,HB.out⟩
  | some q =>
    obtain ⟨m,d⟩:=q
    rw [he] at HR
    simp only at HR
    clear he
    simp only [endV]
    by_cases hm:m=l.length
    · subst hm
      rw [decide_eq_true rfl,Bool.true_and] at HR
      have n1:((l.length:Int) != (l.length:Int))=false:=by simp
      by_cases hd:d<=12
      · rw [decide_eq_true hd,Bool.true_and] at HR
        have n2:¬ ((12:Int)<(d:Int)):=by omega
        clear hd
        go_wp2_with fail
        clear n1 n2
        go_loopg [7] l.length (fun gg v7 wx=>∃ i,i<=l.length/\gg=l.length - i/\v7 = .int .i64 (i:Nat)/\Hid (rexF l ask=(l.drop i).all fun a=>kindOk ask a.kind)/\w1=wx)
        case atStart=>exact ⟨0,by omega,by omega,rfl,HR,rfl⟩
        case round =>
          obtain ⟨i,hi,rfl,rfl,HA,rfl⟩:=hrel
          by_cases hlt:i<l.length
          · have hx:l[i]? = some l[i]:=List.getElem?_eq_getElem hlt
            generalize l[i]=x at hx
            obtain ⟨g,o,cp,ev,_,_,hit⟩:=(HV.out w1 HB.out).item hx
            injection ev with ev1 _ ev2
            subst ev1 ev2
            obtain ⟨kd,op,n,t,ii,xx⟩:=x
            obtain ⟨c0,_⟩:=hit
            dsimp only at c0
            have lg:=World.block_lt_of_cell? w1 _ c0
            have hd:=HA.out
            rw [all_drop hx] at hd
            have HD:=Lib.hid (show rexF l ask=(kindOk ask kd && (l.drop (i+1)).all fun a=>kindOk ask a.kind) from hd)
            have i1:(i:Int)<(l.length:Int):=by omega
            have i2:(0:Int)<=(i:Int):=by omega
            have HI:=Lib.hid hlt
            clear hx hd hlt hi
            cases ask with
            | true =>
              by_cases hk:kd=1
              · subst hk
                have HF:=Lib.hid (show rexF l true=false by rw [HD.out];rfl)
                go_wp2_with fail
                go_ret
                exact ⟨by rw [HF.out];rfl,HB.out⟩
              · have n1:((kd:Int) == 1)=false:=beq_eq_false_iff_ne.2 (by omega)
                have HF:=Lib.hid (show rexF l true=(l.drop (i+1)).all fun a=>kindOk true a.kind by rw [HD.out,show kindOk true kd=true by simp [kindOk,hk],Bool.true_and])
                clear hk
                go_wp2_with fail
                go_roundg (l.length - (i+1))
                case measure=>have:=HI.out;omega
                case rel=>exact ⟨i+1,HI.out,rfl,by go_num,HF,rfl⟩
            | false =>
              by_cases hk:kd=2
              · subst hk
                have HF:=Lib.hid (show rexF l false=false by rw [HD.out];rfl)
                go_wp2_with fail
                go_ret
                exact ⟨by rw [HF.out];rfl,HB.out⟩
              · by_cases hk3:kd=3
                · subst hk3
                  have HF:=Lib.hid (show rexF l false=false by rw [HD.out];rfl)
                  clear hk
                  go_wp2_with fail
                  go_ret
                  exact ⟨by rw [HF.out];rfl,HB.out⟩
                · have n1:((kd:Int) == 2)=false:=beq_eq_false_iff_ne.2 (by omega)
                  have n2:((kd:Int) == 3)=false:=beq_eq_false_iff_ne.2 (by omega)
                  have HF:=Lib.hid (show rexF l false=(l.drop (i+1)).all fun a=>kindOk false a.kind by rw [HD.out,show kindOk false kd=true by simp [kindOk,hk,hk3],Bool.true_and])
                  clear hk hk3
                  go_wp2_with fail
                  go_roundg (l.length - (i+1))
                  case measure=>have:=HI.out;omega
                  case rel=>exact ⟨i+1,HI.out,rfl,by go_num,HF,rfl⟩
          · obtain rfl:i=l.length:=by omega
            have hd:=HA.out
            rw [List.drop_length] at hd
            have HF:=Lib.hid (show rexF l ask=true from hd)
            clear hd hlt hi
            go_wp2_with fail
            go_ret
            exact ⟨by rw [HF.out];rfl,HB.out⟩
      · rw [decide_eq_false hd,Bool.false_and] at HR
        have n2:(12:Int)<(d:Int):=by omega
        clear hd
        go_wp2_with fail
        go_ret
        exact ⟨by rw [HR.out];rfl,HB.out⟩
    · rw [decide_eq_false hm,Bool.false_and,Bool.false_and] at HR
      have n1:((m:Int) != (l.length:Int))=true:=bne_iff_ne.2 (by omega)
      clear hm
      go_wp2_with fail
      go_ret
      exact ⟨by rw [HR.out];rfl,HB.out⟩
set_option maxRecDepth 100000 in
theorem rloc_any (x:Nat) (w:World):Calls Tryz.prog 58 #[.int .u8 (x:Nat)] w fun e w'=>e = .returned (.bool (isLoc x))/\w=w':=by
  by_cases h1:97<=x
  · by_cases h2:x<=122
    · by_cases h3:x=114
      · subst h3
        go_enter Tryz.func58,Tryz.ntmps58
        go_wp2_with fail
        go_ret
        exact ⟨rfl,rfl⟩
      · rw [isLoc_true h1 h2 h3]
        have a1:(97:Int)<=(x:Int):=by omega
        have a2:(x:Int)<=122:=by omega
        have a3:((x:Int) != 114)=true:=bne_iff_ne.2 (by omega)
        clear h1 h2 h3
        go_enter Tryz.func58,Tryz.ntmps58
        go_wp2_with fail
        go_ret
        exact ⟨rfl,rfl⟩
    · have e:isLoc x=false:=by simp [isLoc,h2]
      rw [e]
      have a1:(97:Int)<=(x:Int):=by omega
      have a2:¬ ((x:Int)<=122):=by omega
      clear h1 h2 e
      go_enter Tryz.func58,Tryz.ntmps58
      go_wp2_with fail
      go_ret
      exact ⟨rfl,rfl⟩
  · have e:isLoc x=false:=by simp [isLoc,h1]
    rw [e]
    have a1:¬ ((97:Int)<=(x:Int)):=by omega
    clear h1 e
    go_enter Tryz.func58,Tryz.ntmps58
    go_wp2_with fail
    go_ret
    exact ⟨rfl,rfl⟩
end Go.Proofs.YtbkdappgmcebaaaGreatDoor.Chk
end
section
namespace Go.Proofs.YtbkdappgmcebaaaGreatDoor.Chk
open Go.RowKit Go.Proofs.YtbkdappgmcebaaaGreatDoor.Mem Go.Proofs.YtbkdappgmcebaaaGreatDoor.Expr Go.Proofs.YtbkdappgmcebaaaGreatDoor.Prog Go.Lib
def rmodeF (k m:Nat):Bool :=
  if k=2 then decide (0<m) && decide (m<4) else if k=3 then decide (m=1) || decide (m=2) || decide (m=4)
  else if k=4 \/ k=5 \/ k=6 then decide (1<m) && decide (m<6) else if k=7 then decide (2<m) && decide (m<7) else decide (m=0)
set_option maxRecDepth 100000 in
private theorem mode2 (m:Nat) (w:World):Calls Tryz.prog 118 #[.int .u8 (2:Nat),.int .u8 (m:Nat)] w fun e w'=>e = .returned (.bool (rmodeF 2 m))/\w=w':=by
  by_cases h1:0<m
  · by_cases h2:m<4
    · have e:rmodeF 2 m=true:=by simp [rmodeF,h1,h2]
      rw [e]
      have a1:(0:Int)<(m:Int):=by omega
      have a2:(m:Int)<4:=by omega
      clear h1 h2 e
      go_enter Tryz.func118,Tryz.ntmps118
      go_wp2_with fail
      go_ret
      exact ⟨rfl,rfl⟩
    · have e:rmodeF 2 m=false:=by simp [rmodeF,h1,h2]
      rw [e]
      have a1:(0:Int)<(m:Int):=by omega
      have a2:¬ ((m:Int)<4):=by omega
      clear h1 h2 e
      go_enter Tryz.func118,Tryz.ntmps118
      go_wp2_with fail
      go_ret
      exact ⟨rfl,rfl⟩
  · have e:rmodeF 2 m=false:=by simp [rmodeF,h1]
    rw [e]
    have a1:¬ ((0:Int)<(m:Int)):=by omega
    clear h1 e
    go_enter Tryz.func118,Tryz.ntmps118
    go_wp2_with fail
    go_ret
    exact ⟨rfl,rfl⟩
set_option maxRecDepth 100000 in
private theorem mode4 (m:Nat) (w:World):Calls Tryz.prog 118 #[.int .u8 (4:Nat),.int .u8 (m:Nat)] w fun e w'=>e = .returned (.bool (rmodeF 4 m))/\w=w':=by
  by_cases h1:1<m
  · by_cases h2:m<6
    · have e:rmodeF 4 m=true:=by simp [rmodeF,h1,h2]
      rw [e]
      have a1:(1:Int)<(m:Int):=by omega
      have a2:(m:Int)<6:=by omega
      clear h1 h2 e
      go_enter Tryz.func118,Tryz.ntmps118
      go_wp2_with fail
      go_ret
      exact ⟨rfl,rfl⟩
    · have e:rmodeF 4 m=false:=by simp [rmodeF,h1,h2]
      rw [e]
      have a1:(1:Int)<(m:Int):=by omega
      have a2:¬ ((m:Int)<6):=by omega
      clear h1 h2 e
      go_enter Tryz.func118,Tryz.ntmps118
      go_wp2_with fail
      go_ret
      exact ⟨rfl,rfl⟩
  · have e:rmodeF 4 m=false:=by simp [rmodeF,h1]
    rw [e]
    have a1:¬ ((1:Int)<(m:Int)):=by omega
    clear h1 e
    go_enter Tryz.func118,Tryz.ntmps118
    go_wp2_with fail
    go_ret
    exact ⟨rfl,rfl⟩
set_option maxRecDepth 100000 in
private theorem mode5 (m:Nat) (w:World):Calls Tryz.prog 118 #[.int .u8 (5:Nat),.int .u8 (m:Nat)] w fun e w'=>e = .returned (.bool (rmodeF 5 m))/\w=w':=by
  by_cases h1:1<m
  · by_cases h2:m<6
    · have e:rmodeF 5 m=true:=by simp [rmodeF,h1,h2]
      rw [e]
      have a1:(1:Int)<(m:Int):=by omega
      have a2:(m:Int)<6:=by omega
      clear h1 h2 e
      go_enter Tryz.func118,Tryz.ntmps118
      go_wp2_with fail
      go_ret
      exact ⟨rfl,rfl⟩
    · have e:rmodeF 5 m=false:=by simp [rmodeF,h1,h2]
      rw [e]
      have a1:(1:Int)<(m:Int):=by omega
      have a2:¬ ((m:Int)<6):=by omega
      clear h1 h2 e
      go_enter Tryz.func118,Tryz.ntmps118
      go_wp2_with fail
      go_ret
      exact ⟨rfl,rfl⟩
  · have e:rmodeF 5 m=false:=by simp [rmodeF,h1]
    rw [e]
    have a1:¬ ((1:Int)<(m:Int)):=by omega
    clear h1 e
    go_enter Tryz.func118,Tryz.ntmps118
    go_wp2_with fail
    go_ret
    exact ⟨rfl,rfl⟩
set_option maxRecDepth 100000 in
private theorem mode6 (m:Nat) (w:World):Calls Tryz.prog 118 #[.int .u8 (6:Nat),.int .u8 (m:Nat)] w fun e w'=>e = .returned (.bool (rmodeF 6 m))/\w=w':=by
  by_cases h1:1<m
  · by_cases h2:m<6
    · have e:rmodeF 6 m=true:=by simp [rmodeF,h1,h2]
      rw [e]
      have a1:(1:Int)<(m:Int):=by omega
      have a2:(m:Int)<6:=by omega
      clear h1 h2 e
      go_enter Tryz.func118,Tryz.ntmps118
      go_wp2_with fail
      go_ret
      exact ⟨rfl,rfl⟩
    · have e:rmodeF 6 m=false:=by simp [rmodeF,h1,h2]
      rw [e]
      have a1:(1:Int)<(m:Int):=by omega
      have a2:¬ ((m:Int)<6):=by omega
      clear h1 h2 e
      go_enter Tryz.func118,Tryz.ntmps118
      go_wp2_with fail
      go_ret
      exact ⟨rfl,rfl⟩
  · have e:rmodeF 6 m=false:=by simp [rmodeF,h1]
    rw [e]
    have a1:¬ ((1:Int)<(m:Int)):=by omega
    clear h1 e
    go_enter Tryz.func118,Tryz.ntmps118
    go_wp2_with fail
    go_ret
    exact ⟨rfl,rfl⟩
set_option maxRecDepth 100000 in
private theorem mode7 (m:Nat) (w:World):Calls Tryz.prog 118 #[.int .u8 (7:Nat),.int .u8 (m:Nat)] w fun e w'=>e = .returned (.bool (rmodeF 7 m))/\w=w':=by
  by_cases h1:2<m
  · by_cases h2:m<7
    · have e:rmodeF 7 m=true:=by simp [rmodeF,h1,h2]
      rw [e]
      have a1:(2:Int)<(m:Int):=by omega
      have a2:(m:Int)<7:=by omega
      clear h1 h2 e
      go_enter Tryz.func118,Tryz.ntmps118
      go_wp2_with fail
      go_ret
      exact ⟨rfl,rfl⟩
    · have e:rmodeF 7 m=false:=by simp [rmodeF,h1,h2]
      rw [e]
      have a1:(2:Int)<(m:Int):=by omega
      have a2:¬ ((m:Int)<7):=by omega
      clear h1 h2 e
      go_enter Tryz.func118,Tryz.ntmps118
      go_wp2_with fail
      go_ret
      exact ⟨rfl,rfl⟩
  · have e:rmodeF 7 m=false:=by simp [rmodeF,h1]
    rw [e]
    have a1:¬ ((2:Int)<(m:Int)):=by omega
    clear h1 e
    go_enter Tryz.func118,Tryz.ntmps118
    go_wp2_with fail
    go_ret
    exact ⟨rfl,rfl⟩
set_option maxRecDepth 100000 in
private theorem mode3 (m:Nat) (w:World):Calls Tryz.prog 118 #[.int .u8 (3:Nat),.int .u8 (m:Nat)] w fun e w'=>e = .returned (.bool (rmodeF 3 m))/\w=w':=by
  by_cases h1:m=1
  · subst h1
    go_enter Tryz.func118,Tryz.ntmps118
    go_wp2_with fail
    go_ret
    exact ⟨rfl,rfl⟩
  · by_cases h2:m=2
    · subst h2
      go_enter Tryz.func118,Tryz.ntmps118
      go_wp2_with fail
      go_ret
      exact ⟨rfl,rfl⟩
    · by_cases h3:m=4
      · subst h3
        go_enter Tryz.func118,Tryz.ntmps118
        go_wp2_with fail
        go_ret
        exact ⟨rfl,rfl⟩
      · have e:rmodeF 3 m=false:=by simp [rmodeF,h1,h2,h3]
        rw [e]
        have a1:((m:Int) == 1)=false:=beq_eq_false_iff_ne.2 (by omega)
        have a2:((m:Int) == 2)=false:=beq_eq_false_iff_ne.2 (by omega)
        have a3:((m:Int) == 4)=false:=beq_eq_false_iff_ne.2 (by omega)
        clear h1 h2 h3 e
        go_enter Tryz.func118,Tryz.ntmps118
        go_wp2_with fail
        go_ret
        exact ⟨rfl,rfl⟩
set_option maxRecDepth 100000 in
private theorem mode_else (k m:Nat) (w:World) (h2:k≠2) (h3:k≠3) (h4:k≠4) (h5:k≠5) (h6:k≠6) (h7:k≠7):Calls Tryz.prog 118 #[.int .u8 (k:Nat),.int .u8 (m:Nat)] w fun e w'=>e = .returned (.bool (rmodeF k m))/\w=w':=by
  have e:rmodeF k m=decide (m=0):=by simp [rmodeF,h2,h3,h4,h5,h6,h7]
  rw [e]
  have b2:((k:Int) == 2)=false:=beq_eq_false_iff_ne.2 (by omega)
  have b3:((k:Int) == 3)=false:=beq_eq_false_iff_ne.2 (by omega)
  have b4:((k:Int) == 4)=false:=beq_eq_false_iff_ne.2 (by omega)
  have b5:((k:Int) == 5)=false:=beq_eq_false_iff_ne.2 (by omega)
  have b6:((k:Int) == 6)=false:=beq_eq_false_iff_ne.2 (by omega)
  have b7:((k:Int) == 7)=false:=beq_eq_false_iff_ne.2 (by omega)
  clear h2 h3 h4 h5 h6 h7 e
  by_cases h0:m=0
  · subst h0
    go_enter Tryz.func118,Tryz.ntmps118
    go_wp2_with fail
    go_ret
    exact ⟨rfl,rfl⟩
  · have e:decide (m=0)=false:=by simp [h0]
    rw [e]
    have a1:((m:Int) == 0)=false:=beq_eq_false_iff_ne.2 (by omega)
    clear h0 e
    go_enter Tryz.func118,Tryz.ntmps118
    go_wp2_with fail
    go_ret
    exact ⟨rfl,rfl⟩
theorem rmode6_any (k m:Nat) (w:World):Calls Tryz.prog 118 #[.int .u8 (k:Nat),.int .u8 (m:Nat)] w fun e w'=>e = .returned (.bool (rmodeF k m))/\w=w':=by
  by_cases h2:k=2
  · subst h2;exact mode2 m w
  by_cases h3:k=3
  · subst h3;exact mode3 m w
  by_cases h4:k=4
  · subst h4;exact mode4 m w
  by_cases h5:k=5
  · subst h5;exact mode5 m w
  by_cases h6:k=6
  · subst h6;exact mode6 m w
  by_cases h7:k=7
  · subst h7;exact mode7 m w
  exact mode_else k m w h2 h3 h4 h5 h6 h7
end Go.Proofs.YtbkdappgmcebaaaGreatDoor.Chk
end
section
namespace Go.Proofs.YtbkdappgmcebaaaGreatDoor.Chk
open Go.RowKit Go.Proofs.YtbkdappgmcebaaaGreatDoor.Mem Go.Proofs.YtbkdappgmcebaaaGreatDoor.Expr Go.Proofs.YtbkdappgmcebaaaGreatDoor.Prog Go.Lib
def pureE (l:List It):Bool:=decide (l.length=0) || wholeE l
set_option maxRecDepth 100000 in
set_option maxHeartbeats 1000000 in
theorem refs_any (l:List It) (v:Value) (w:World) (hv:Row w v l):Calls Tryz.prog 39 #[v] w fun e w'=>Made (.returned (.bool (pureE l))) w e w':=by
  have HE:=Lib.hid (end_any l (l.length+1) 0 v w hv (by omega))
  obtain ⟨p,cap,rfl,hl⟩:=hv.len
  have HR:=Lib.hid (show pureE l=(decide (l.length=0) || match endF l (l.length+1) 0 with | some (m,d)=>decide (m=l.length) && decide (d<=12) | none=>false) from rfl)
  have m1:(l.length:Int)<=1000000:=by omega
  clear hv
  go_enter Tryz.func39,Tryz.ntmps39
  go_wp2_with fail
  refine HE.out.mono ?_
  rintro e w1 ⟨rfl,hb⟩
  have HB:=Lib.hid hb
  clear hb HE
  by_cases h0:l.length=0
  · have HF:=Lib.hid (show pureE l=true by rw [HR.out,decide_eq_true h0,Bool.true_or])
    have n0:((l.length:Int) == 0)=true:=beq_iff_eq.2 (by omega)
    clear h0 HR hl
    cases he:endF l (l.length+1) 0 with
    | none =>
      clear he
      simp only [endV]
      go_wp2_with fail
      go_ret
      exact ⟨by rw [HF.out];rfl,HB.out⟩
    | some q =>
      obtain ⟨m,d⟩:=q
      clear he
      simp only [endV]
      go_wp2_with fail
      go_ret
      exact ⟨by rw [HF.out];rfl,HB.out⟩
  have n0:((l.length:Int) == 0)=false:=beq_eq_false_iff_ne.2 (by omega)
  have hr:=HR.out
  rw [decide_eq_false h0,Bool.false_or] at hr
  clear h0 HR hl
  cases he:endF l (l.length+1) 0 with
  | none =>
    rw [he] at hr
    have HF:=Lib.hid (show pureE l=false from hr)
    have n1:((-1:Int) == (l.length:Int))=false:=beq_eq_false_iff_ne.2 (by omega)
    clear he hr
    simp only [endV]
    go_wp2_with fail
    go_ret
    exact ⟨by rw [HF.out];rfl,HB.out⟩
  | some q =>
    obtain ⟨m,d⟩:=q
    rw [he] at hr
    simp only at hr
    clear he
    simp only [endV]
    by_cases hm:m=l.length
    · subst hm
      rw [decide_eq_true rfl,Bool.true_and] at hr
      have n1:((l.length:Int) == (l.length:Int))=true:=by simp
      by_cases hd:d<=12
      · have HF:=Lib.hid (show pureE l=true by rw [hr,decide_eq_true hd])
        have n2:(d:Int)<=12:=by omega
        clear hd hr
        go_wp2_with fail
        go_ret
        exact ⟨by rw [HF.out];rfl,HB.out⟩
      · have HF:=Lib.hid (show pureE l=false by rw [hr,decide_eq_false hd])
        have n2:¬ ((d:Int)<=12):=by omega
        clear hd hr
        go_wp2_with fail
        go_ret
        exact ⟨by rw [HF.out];rfl,HB.out⟩
    · have HF:=Lib.hid (show pureE l=false by rw [hr,decide_eq_false hm,Bool.false_and])
      have n1:((m:Int) == (l.length:Int))=false:=beq_eq_false_iff_ne.2 (by omega)
      clear hm hr
      go_wp2_with fail
      go_ret
      exact ⟨by rw [HF.out];rfl,HB.out⟩
def wholeT (t:Rt):Prop:=∀ (i:Nat) (l:List Prog.Mark),t.threads[i]? = some l->Prog.endOf l=l.length
set_option maxRecDepth 100000 in
set_option maxHeartbeats 2000000 in
theorem whole_any (t:Rt) (hbd:t.bd) (vi vt va:Value) (w:World) (hT:RtV w t vi vt va):Calls Tryz.prog 13 #[.agg (rtCells vi vt t.all va)] w (Prog.Told (wholeT t) w):=by
  obtain ⟨pi,ci,rfl⟩:=hT.init.len
  obtain ⟨pt,ct,rfl,hlt⟩:=hT.threads.len
  obtain ⟨pa,ca,rfl,hla⟩:=hT.ask.len
  obtain ⟨li,lt,al,la⟩:=t
  simp only at hT hlt hla ⊢
  have HT:=Lib.hid hT
  have HD:=Lib.hid hbd
  have hb:Below w.heap.size w (w.alloc (.cells #[.slice pi li.length ci,.slice pt lt.length ct,.bool al,.slice pa la.length ca] 37)):=(Below.refl _ _).alloc (Nat.le_refl _) _
  have HB0:=Lib.hid hb
  have HBX:=Lib.hid (Sits.new w 37 #[.slice pi li.length ci,.slice pt lt.length ct,.bool al,.slice pa la.length ca])
  have j1:(lt.length:Int)<=1000000:=by omega
  unfold rtCells
  clear hT hb hla hlt hbd
  go_enter Tryz.func13,Tryz.ntmps13
  go_wp2_with fail
  generalize w.alloc (.cells #[.slice pi li.length ci,.slice pt lt.length ct,.bool al,.slice pa la.length ca] 37)=w1 at HB0 HBX ⊢
  generalize w.heap.size=gb at HBX ⊢
  go_loopg [3] lt.length (fun gg v3 wx=>∃ j,j<=lt.length/\gg=lt.length - j/\v3 = .int .i64 (j:Nat)/\Hid (Below w1.heap.size w1 wx)/\Hid (∀ (i:Nat) (l:List Prog.Mark),i<j->lt[i]? = some l->Prog.endOf l=l.length))
  case atStart=>exact ⟨0,by omega,by omega,rfl,Lib.hid (Below.refl _ _),Lib.hid fun i l h=>by omega⟩
  case round =>
    obtain ⟨j,hj,rfl,rfl,HBj,HF⟩:=hrel
    have hbx:=HBX.out.below HBj.out HBX.out.lt
    have c1:wr.cell? ⟨gb,1,none⟩=some (.slice pt lt.length ct):=hbx.cell 1
    have lb:=hbx.lt
    by_cases hlt:j<lt.length
    · have hx:lt[j]? = some lt[j]:=List.getElem?_eq_getElem hlt
      generalize lt[j]=l at hx
      obtain ⟨g,o,cap',u,e1,_,hc,hm⟩:=(((HT.out.below HB0.out).below HBj.out).threads).at hx
      injection e1 with e1 _ e2
      subst e1 e2
      obtain ⟨pl,cl,rfl,hll⟩:=hm.len
      have HC:=Lib.hid (block_any l (HD.out.each l (List.mem_of_getElem? hx)) (l.length+1) 0 (Prog.endOf l) (blkOf l) (by omega) (blkOf_sp l) (endOf_le hll).1 _ wr hm)
      have dd:(Prog.endOf l:Int)<=10000000:=by have:=(endOf_le hll).1;omega
      have HCC:=Lib.hid hc
      have lg:=World.block_lt_of_cell? _ _ hc
      have m1:(j:Int)<(lt.length:Int):=by omega
      have m2:(0:Int)<=(j:Int):=by omega
      have m3:(l.length:Int)<=1000000:=by omega
      have HX:=Lib.hid hx
      have HJ:=Lib.hid hlt
      clear hx hm hll hlt hj
      go_wp2_with fail
      refine HC.out.mono ?_
      rintro e' w2 ⟨vv,rfl,_,hb⟩
      have HB2:=Lib.hid (HBj.out.trans (hb.mono HBj.out.size))
      have hby:=hbx.below hb hbx.lt
      have c1':w2.cell? ⟨gb,1,none⟩=some (.slice (some ⟨g,o,none⟩) lt.length ct):=hby.cell 1
      have lb':=hby.lt
      have hc':w2.cell? ⟨g,o+j,none⟩=some (.slice pl l.length cl):=cell_below (U:=any_) hb g trivial _ _ HCC.out
      have lg':=World.block_lt_of_cell? _ _ hc'
      clear hb hby hbx c1 lb hc lg
      by_cases h8:Prog.endOf l=l.length
      · have H8:=Lib.hid h8
        have n1:((Prog.endOf l:Int) != (l.length:Int))=false:=by simp [h8]
        clear h8
        go_wp2_with fail
        go_roundg (lt.length - (j+1))
        case measure=>have:=HJ.out;omega
        case rel=>exact ⟨j+1,HJ.out,rfl,by go_num,HB2,Lib.hid fun i y hi hy=>by
          by_cases e:i<j
          · exact HF.out i y e hy
          · obtain rfl:i=j:=by omega
            rw [HX.out] at hy;cases hy;exact H8.out⟩
      · have n1:((Prog.endOf l:Int) != (l.length:Int))=true:=bne_iff_ne.2 (by omega)
        clear h8
        go_wp2_with fail
        go_ret
        exact ⟨false,rfl,by simp,HB0.out.trans (HB2.out.mono HB0.out.size)⟩
    · obtain rfl:j=lt.length:=by omega
      have m1:¬ ((lt.length:Int)<(lt.length:Int)):=by omega
      clear hlt hj hbx
      go_wp2_with fail
      go_ret
      exact ⟨true,rfl,fun _ i l hl=>HF.out i l (List.getElem?_eq_some_iff.1 hl).1 hl,HB0.out.trans (HBj.out.mono HB0.out.size)⟩
def pureT (t:Rt):Prop:=pureE t.ask=true/\∀ (i:Nat) (l:List Prog.Mark),t.threads[i]? = some l->∀ (k:Nat) (x:Prog.Mark),l[k]? = some x->pureE x.a=true/\pureE x.b=true
set_option maxRecDepth 100000 in
set_option maxHeartbeats 2000000 in
theorem pure_any (t:Rt) (vi vt va:Value) (w:World) (hT:RtV w t vi vt va):Calls Tryz.prog 14 #[.agg (rtCells vi vt t.all va)] w (Prog.Told (pureT t) w):=by
  obtain ⟨pi,ci,rfl⟩:=hT.init.len
  obtain ⟨pt,ct,rfl,hlt⟩:=hT.threads.len
  obtain ⟨pa,ca,rfl,hla⟩:=hT.ask.len
  obtain ⟨li,lt,al,la⟩:=t
  simp only at hT hlt hla ⊢
  have hb:Below w.heap.size w (w.alloc (.cells #[.slice pi li.length ci,.slice pt lt.length ct,.bool al,.slice pa la.length ca] 37)):=(Below.refl _ _).alloc (Nat.le_refl _) _
  have HT:=Lib.hid (hT.below hb)
  have HB0:=Lib.hid hb
  have HBX:=Lib.hid (Sits.new w 37 #[.slice pi li.length ci,.slice pt lt.length ct,.bool al,.slice pa la.length ca])
  have HE:=Lib.hid (fun W (h:Row W (.slice pa la.length ca) la)=>refs_any la (.slice pa la.length ca) W h)
  have j1:(lt.length:Int)<=1000000:=by omega
  unfold rtCells
  clear hT hb hla hlt
  go_enter Tryz.func14,Tryz.ntmps14
  go_wp2_with fail
  generalize w.alloc (.cells #[.slice pi li.length ci,.slice pt lt.length ct,.bool al,.slice pa la.length ca] 37)=w1 at HT HB0 HBX ⊢
  generalize w.heap.size=gb at HBX ⊢
  refine (HE.out _ HT.out.ask).mono ?_
  rintro e w2 ⟨rfl,hb⟩
  have HB2:=Lib.hid hb
  clear hb
  cases hz:pureE la
  case false =>
    clear hz
    go_wp2_with fail
    go_ret
    exact ⟨false,rfl,(fun h=>by cases h),HB0.out.trans (HB2.out.mono HB0.out.size)⟩
  have HASK:=Lib.hid hz
  clear hz
  go_wp2_with fail
  go_loopg [3] lt.length (fun gg v3 wx=>∃ j,j<=lt.length/\gg=lt.length - j/\v3 = .int .i64 (j:Nat)/\Hid (Below w1.heap.size w1 wx)/\Hid (∀ (i:Nat) (l:List Prog.Mark),i<j->lt[i]? = some l->∀ (k:Nat) (x:Prog.Mark),l[k]? = some x->pureE x.a=true/\pureE x.b=true))
  case atStart=>exact ⟨0,by omega,by omega,rfl,HB2,Lib.hid fun i l h=>by omega⟩
  case round =>
    obtain ⟨j,hj,rfl,rfl,HBj,HF⟩:=hrel
    have hbx:=HBX.out.below HBj.out HBX.out.lt
    have c1:wr.cell? ⟨gb,1,none⟩=some (.slice pt lt.length ct):=hbx.cell 1
    have lb:=hbx.lt
    by_cases hlt:j<lt.length
    · have hx:lt[j]? = some lt[j]:=List.getElem?_eq_getElem hlt
      generalize lt[j]=l at hx
      obtain ⟨g,o,cap',u,e1,_,hc,hm⟩:=((HT.out.below HBj.out).threads).at hx
      injection e1 with e1 _ e2
      subst e1 e2
      obtain ⟨pl,cl,rfl,hll⟩:=hm.len
      have HC:=Lib.hid hc
      have HMR:=Lib.hid hm
      have m1:(j:Int)<(lt.length:Int):=by omega
      have m2:(0:Int)<=(j:Int):=by omega
      have m3:(l.length:Int)<=1000000:=by omega
      have HX:=Lib.hid hx
      have HJ:=Lib.hid hlt
      clear hx hm hc hll hlt hj hbx
      go_wp2_with fail
      clear c1 lb
      generalize wr=w4 at HC HMR HBj ⊢
      go_loopg [4] l.length (fun gg v5 wx=>∃ k,k<=l.length/\gg=l.length - k/\v5 = .int .i64 (k:Nat)/\Hid (Below w1.heap.size w1 wx)/\Hid (Below w4.heap.size w4 wx)/\Hid (∀ (i:Nat) (x:Prog.Mark),i<k->l[i]? = some x->pureE x.a=true/\pureE x.b=true))
      case atStart=>exact ⟨0,by omega,by omega,rfl,HBj,Lib.hid (Below.refl _ _),Lib.hid fun i x h=>by omega⟩
      case round =>
        obtain ⟨k,hk,rfl,rfl,HBk,HBk4,HG⟩:=hrel
        have hbx:=HBX.out.below HBk.out HBX.out.lt
        have c1:wr.cell? ⟨gb,1,none⟩=some (.slice (some ⟨g,o,none⟩) lt.length ct):=hbx.cell 1
        have lb:=hbx.lt
        have hcc:wr.cell? ⟨g,o+j,none⟩=some (.slice pl l.length cl):=cell_below (U:=any_) HBk4.out g trivial _ _ HC.out
        have lg:=World.block_lt_of_cell? _ _ hcc
        by_cases hkl:k<l.length
        · have hx:l[k]? = some l[k]:=List.getElem?_eq_getElem hkl
          generalize l[k]=x at hx
          obtain ⟨g5,o5,cap5,av,bv,e1,_,hmk⟩:=(HMR.out.below HBk4.out).at hx
          injection e1 with e1 _ e2
          subst e1 e2
          obtain ⟨d0,d1,d2,d3,d4,d5,hra,hrb⟩:=hmk
          obtain ⟨pa',ca',rfl,_⟩:=hra.len
          obtain ⟨pb',cb',rfl,_⟩:=hrb.len
          have HPA:=Lib.hid (refs_any x.a _ wr hra)
          have HPB:=Lib.hid (fun W (h:Below wr.heap.size wr W)=>refs_any x.b _ W (hrb.below h))
          have HD5:=Lib.hid d5
          have lg5:=World.block_lt_of_cell? _ _ d0
          have p1:(k:Int)<(l.length:Int):=by omega
          have p0:(0:Int)<=(k:Int):=by omega
          have HX2:=Lib.hid hx
          have HK:=Lib.hid hkl
          clear hx hra hrb hkl hk
          go_wp2_with fail
          refine HPA.out.mono ?_
          rintro e w5 ⟨rfl,hb⟩
          have HBk':=Lib.hid (HBk.out.trans (hb.mono HBk.out.size))
          have HBk4':=Lib.hid (HBk4.out.trans (hb.mono HBk4.out.size))
          have HB5:=Lib.hid hb
          have hby:=hbx.below hb hbx.lt
          have c1':w5.cell? ⟨gb,1,none⟩=some (.slice (some ⟨g,o,none⟩) lt.length ct):=hby.cell 1
          have lb':=hby.lt
          have hcc':w5.cell? ⟨g,o+j,none⟩=some (.slice (some ⟨g5,o5,none⟩) l.length cl):=cell_below (U:=any_) hb g trivial _ _ hcc
          have lg':=World.block_lt_of_cell? _ _ hcc'
          have d5':w5.cell? ⟨g5,o5+k * 6+5,none⟩=some (.slice pb' x.b.length cb'):=cell_below (U:=any_) hb g5 trivial _ _ HD5.out
          have lg5':=World.block_lt_of_cell? _ _ d5'
          clear hb hby hbx d0 d1 d2 d3 d4 d5 c1 hcc lb lg lg5
          cases hza:pureE x.a
          · clear hza
            go_wp2_with fail
            go_ret
            exact ⟨false,rfl,(fun h=>by cases h),HB0.out.trans (HBk'.out.mono HB0.out.size)⟩
          · have HZ1:=Lib.hid hza
            clear hza
            go_wp2_with fail
            refine (HPB.out _ HB5.out).mono ?_
            rintro e w6 ⟨rfl,hb⟩
            have HBk6:=Lib.hid (HBk'.out.trans (hb.mono HBk'.out.size))
            have HBk46:=Lib.hid (HBk4'.out.trans (hb.mono HBk4'.out.size))
            clear hb c1' lb' hcc' lg' d5' lg5'
            cases hzb:pureE x.b
            · clear hzb
              go_wp2_with fail
              go_ret
              exact ⟨false,rfl,(fun h=>by cases h),HB0.out.trans (HBk6.out.mono HB0.out.size)⟩
            · have HZ2:=Lib.hid hzb
              clear hzb
              go_wp2_with fail
              go_roundg (l.length - (k+1))
              case measure=>have:=HK.out;omega
              case rel=>exact ⟨k+1,HK.out,rfl,by go_num,HBk6,HBk46,Lib.hid fun i y hi hy=>by
                by_cases e:i<k
                · exact HG.out i y e hy
                · obtain rfl:i=k:=by omega
                  rw [HX2.out] at hy;cases hy;exact ⟨HZ1.out,HZ2.out⟩⟩
        · obtain rfl:k=l.length:=by omega
          have p1:¬ ((l.length:Int)<(l.length:Int)):=by omega
          clear hkl hk hbx
          go_wp2_with fail
          go_roundg (lt.length - (j+1))
          case measure=>have:=HJ.out;omega
          case rel=>exact ⟨j+1,HJ.out,rfl,by go_num,HBk,Lib.hid fun i y hi hy=>by
            by_cases e:i<j
            · exact HF.out i y e hy
            · obtain rfl:i=j:=by omega
              rw [HX.out] at hy;cases hy;exact fun i x hx=>HG.out i x (List.getElem?_eq_some_iff.1 hx).1 hx⟩
    · obtain rfl:j=lt.length:=by omega
      have m1:¬ ((lt.length:Int)<(lt.length:Int)):=by omega
      clear hlt hj hbx
      go_wp2_with fail
      go_ret
      exact ⟨true,rfl,(fun _=>⟨HASK.out,fun i l hl=>HF.out i l (List.getElem?_eq_some_iff.1 hl).1 hl⟩),HB0.out.trans (HBj.out.mono HB0.out.size)⟩
end Go.Proofs.YtbkdappgmcebaaaGreatDoor.Chk
end
