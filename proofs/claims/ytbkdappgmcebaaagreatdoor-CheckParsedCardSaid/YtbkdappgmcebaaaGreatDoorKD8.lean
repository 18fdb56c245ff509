/- Part 39 of the proof: what is used of the texts StmJ. -/
import Derived.Test.YtbkdappgmcebaaaGreatDoorKD7
import Derived.Test.YtbkdappgmcebaaaGreatDoorKC6
import Derived.Test.YtbkdappgmcebaaaGreatDoorKB3
import Derived.Laws.EntriesVeiled
section
namespace Go.Proofs.YtbkdappgmcebaaaGreatDoor.Prog
open Go.RowKit Go.Proofs.YtbkdappgmcebaaaGreatDoor.Mem Go.Proofs.YtbkdappgmcebaaaGreatDoor.Expr Go.Proofs.YtbkdappgmcebaaaGreatDoor.Flow Go.Lib
set_option maxRecDepth 100000 in
theorem sameBlocks_any (w:World):Calls Tryz.prog 35 #[] w fun e w'=>∃ sB stB mB,e = .returned (.func (.func 95) #[] #[.pointer (some ⟨mB,0,none⟩),.pointer (some ⟨stB,0,none⟩)])/\SEnv w' sB stB mB/\Below w.heap.size w w':=by
  go_enter Tryz.func35,Tryz.ntmps35
  go_wp2_with fail
  go_ret
  exact ⟨w.heap.size+1,w.heap.size+1+1,w.heap.size,rfl,⟨(Sits.made (by simp) _ _).alloc _,Sits.made (by simp) _ _⟩,(((Below.refl _ _).alloc (Nat.le_refl _) _).alloc (by simp) _).alloc (by simp;omega) _⟩
theorem structI:Tryz.prog.underlying 53=some (.struct (Tryz.prog.fieldsOf 53)):=by kernel_rfl
theorem heldI:Tryz.prog.stoodInHeld 53=false:=by kernel_rfl
theorem run_neq_init (x n x' n':Nat) (W:World):(binOp .neq 53 (.agg #[.int .u8 x,.int .u64 n]) (.agg #[.int .u8 x',.int .u64 n'])).run Tryz.prog W = .ok (.bool (!(decide ((x,n)=(x',n'))))) W:=by
  have u3:=Tryz.underlying5
  have a3:=Tryz.isAgg5
  have z3:=Tryz.sizeOf5
  have u4:=Tryz.underlying50
  have a4:=Tryz.isAgg50
  have z4:=Tryz.sizeOf50
  rw [run_neq_struct,show (10000:Nat)=9999+1 from rfl,run_equalIn_agg W 9999 53 _ _ structI heldI]
  simp only [Program.fieldsOf,Tryz.underlying53]
  by_cases h:x=x' /\ n=n'
  · obtain ⟨rfl,rfl⟩:=h
    go_simp
  · have e:decide ((x,n)=(x',n'))=false:=by
      rw [decide_eq_false_iff_not]
      intro h'
      injection h' with h1 h2
      exact h ⟨h1,h2⟩
    rw [e]
    go_simp
    intro h1 h2
    exact absurd ⟨by omega,by omega⟩ h
set_option maxRecDepth 100000 in
set_option maxHeartbeats 1000000 in
theorem equal_init (l l':List (Nat × Nat)) (hs:l.length<=1000) (u v:Value) (w:World) (hu:Inits w u l) (hv:Inits w v l') :
    Calls Tryz.prog 33 #[u,v] w fun e w'=>Made (.returned (.bool (decide (l=l')))) w e w':=by
  have HU:=Lib.hid hu
  have HV:=Lib.hid hv
  obtain ⟨p,c,rfl⟩:=hu.len
  obtain ⟨p',c',rfl⟩:=hv.len
  have i1:(l.length:Int)<=1000:=by omega
  by_cases hll:l.length=l'.length
  · rw [<- hll]
    have HLL:=Lib.hid hll
    clear hu hv hs hll
    go_enter Tryz.func33,Tryz.ntmps33
    go_wp2_with fail
    go_loopg [13] l.length (fun gg v13 wx=>∃ k,k<=l.length/\gg=l.length - k/\v13 = .int .i64 (k:Nat)/\Hid (∀ j,j<k->l[j]? = l'[j]?)/\Hid (Below w.heap.size w wx))
    case atStart=>exact ⟨0,by omega,by omega,rfl,Lib.hid (fun j hj=>by omega),Lib.hid (Below.refl _ _)⟩
    case round =>
      obtain ⟨k,hk,rfl,rfl,HJ,HB⟩:=hrel
      by_cases hlt:k<l.length
      · have hlt':k<l'.length:=by rw [<- HLL.out];exact hlt
        have h1:l[k]? = some l[k]:=List.getElem?_eq_getElem hlt
        have h2:l'[k]? = some l'[k]:=List.getElem?_eq_getElem hlt'
        obtain ⟨g,o,cap,e1,c1,c2⟩:=(HU.out.below HB.out).at h1
        obtain ⟨g',o',cap',e2,d1,d2⟩:=(HV.out.below HB.out).at h2
        injection e1 with e1 _ e3
        injection e2 with e2 _ e4
        subst e1 e2 e3 e4
        have lg:=World.block_lt_of_cell? _ _ c1
        have lg':=World.block_lt_of_cell? _ _ d1
        have HEQ:=Lib.hid (show l[k]=l'[k]->∀ j,j<k+1->l[j]? = l'[j]? from fun e j hj=>by
          by_cases h:j<k
          · exact HJ.out j h
          · obtain rfl:j=k:=by omega
            rw [h1,h2,e])
        have HNE:=Lib.hid (show l[k]≠l'[k]->l≠l' from fun hne e=>hne (by
          have h3:l'[k]? = some l[k]:=by rw [<- e];exact h1
          rw [h2] at h3
          exact (Option.some.inj h3).symm))
        generalize l[k]=a at c1 c2 HEQ HNE
        generalize l'[k]=b at d1 d2 HEQ HNE
        obtain ⟨x,n⟩:=a
        obtain ⟨x',n'⟩:=b
        simp only at c1 c2 d1 d2
        have j1:(k:Int)<(l.length:Int):=by omega
        have j2:(k:Int)<(l'.length:Int):=by omega
        have j0:(0:Int)<=(k:Int):=by omega
        have hq:=run_neq_init x n x' n'
        clear h1 h2 hlt'
        by_cases he:(x,n)=(x',n')
        · have HE:=Lib.hid (HEQ.out he)
          rw [decide_eq_true he] at hq
          clear he HEQ HNE
          go_wp2_with fail
          go_quiet (fail)
          go_wp2_with fail
          go_roundg (l.length - (k+1))
          case measure=>omega
          case rel=>exact ⟨k+1,by omega,rfl,by go_num,HE,Lib.hid (drewN_below HB.out _)⟩
        · have HN:=Lib.hid (decide_eq_false (HNE.out he))
          rw [decide_eq_false he] at hq
          clear he HEQ HNE
          go_wp2_with fail
          go_quiet (fail)
          go_wp2_with fail
          go_ret
          exact ⟨ret_bool HN.out.symm,drewN_below HB.out _⟩
      · obtain rfl:k=l.length:=by omega
        have HE:=Lib.hid (show decide (l=l')=true from decide_eq_true (List.ext_getElem? fun j=>by
          by_cases h:j<l.length
          · exact HJ.out j h
          · rw [List.getElem?_eq_none (by omega),List.getElem?_eq_none (by have:=HLL.out;omega)]))
        go_wp2_with fail
        go_ret
        exact ⟨ret_bool HE.out.symm,HB.out⟩
  · have HN:=Lib.hid (show decide (l=l')=false from decide_eq_false fun e=>hll (by rw [e]))
    have ne:¬ ((l.length:Int)=(l'.length:Int)):=by omega
    clear hu hv hs hll HU HV
    go_enter Tryz.func33,Tryz.ntmps33
    go_wp2_with fail
    go_ret
    exact ⟨ret_bool HN.out.symm,Below.refl _ _⟩
set_option maxRecDepth 100000 in
set_option maxHeartbeats 1000000 in
theorem equal_threads (l l':List Blk) (hl:l.length<=1000) (hf:∀ b ∈ l,b.fine/\b.over 8=false) (u v:Value) (w:World) (sB stB mB:Nat) (hE:SEnv w sB stB mB) (hu:Threads w u l) (hv:Threads w v l') :
    Calls Tryz.prog 34 #[u,v,.func (.func 95) #[] #[.pointer (some ⟨mB,0,none⟩),.pointer (some ⟨stB,0,none⟩)]] w
      fun e w'=>Made (.returned (.bool (decide (l=l')))) w e w':=by
  have HU:=Lib.hid hu
  have HV:=Lib.hid hv
  have HEN:=Lib.hid hE
  have HF:=Lib.hid hf
  obtain ⟨p,c,rfl⟩:=hu.len
  obtain ⟨p',c',rfl⟩:=hv.len
  have hen:=same2_enters
  unfold Expr.Enters at hen
  have i1:(l.length:Int)<=1000:=by omega
  by_cases hll:l.length=l'.length
  · rw [<- hll]
    have HLL:=Lib.hid hll
    clear hu hv hl hll hE hf
    go_enter Tryz.func34,Tryz.ntmps34
    go_wp2_with fail
    go_loopg [17] l.length (fun gg v17 wx=>∃ k,k<=l.length/\gg=l.length - k/\v17 = .int .i64 (k:Nat)/\Hid (∀ j,j<k->l[j]? = l'[j]?)/\Hid (Below w.heap.size w wx))
    case atStart=>exact ⟨0,by omega,by omega,rfl,Lib.hid (fun j hj=>by omega),Lib.hid (Below.refl _ _)⟩
    case round =>
      obtain ⟨k,hk,rfl,rfl,HJ,HB⟩:=hrel
      by_cases hlt:k<l.length
      · have hlt':k<l'.length:=by rw [<- HLL.out];exact hlt
        have h1:l[k]? = some l[k]:=List.getElem?_eq_getElem hlt
        have h2:l'[k]? = some l'[k]:=List.getElem?_eq_getElem hlt'
        obtain ⟨g,o,cap,x,e1,c1,hx⟩:=(HU.out.below HB.out).at h1
        obtain ⟨g',o',cap',y,e2,d1,hy⟩:=(HV.out.below HB.out).at h2
        injection e1 with e1 _ e3
        injection e2 with e2 _ e4
        subst e1 e2 e3 e4
        have lg:=World.block_lt_of_cell? _ _ c1
        have lg':=World.block_lt_of_cell? _ _ d1
        have HEQ:=Lib.hid (show l[k]=l'[k]->∀ j,j<k+1->l[j]? = l'[j]? from fun e j hj=>by
          by_cases h:j<k
          · exact HJ.out j h
          · obtain rfl:j=k:=by omega
            rw [h1,h2,e])
        have HNE:=Lib.hid (show l[k]≠l'[k]->l≠l' from fun hne e=>hne (by
          have h3:l'[k]? = some l[k]:=by rw [<- e];exact h1
          rw [h2] at h3
          exact (Option.some.inj h3).symm))
        have hff:=HF.out _ (List.mem_of_getElem? h1)
        have HC:=Lib.hid (same2_any sB stB mB (l[k].size+1) l[k] (by omega) hff.1 hff.2 l'[k] x y wr (HEN.out.below HB.out) hx hy)
        obtain ⟨px,cx,rfl,_⟩:=hx.len
        obtain ⟨py,cy,rfl,_⟩:=hy.len
        have HE:=Lib.hid (show decide (l[k]=l'[k])=true->∀ j,j<k+1->l[j]? = l'[j]? from fun h=>HEQ.out (of_decide_eq_true h))
        have HN:=Lib.hid (show decide (l[k]=l'[k])=false->decide (l=l')=false from fun h=>decide_eq_false (HNE.out (of_decide_eq_false h)))
        clear HEQ HNE hx hy hff h1 h2
        generalize decide (l[k]=l'[k])=r at HC HE HN
        generalize l[k].len=n1 at c1 HC
        generalize l'[k].len=n2 at d1 HC
        have j1:(k:Int)<(l.length:Int):=by omega
        have j2:(k:Int)<(l'.length:Int):=by have:=HLL.out;omega
        have j0:(0:Int)<=(k:Int):=by omega
        cases r
        · have HNN:=Lib.hid (HN.out rfl)
          clear HE HN
          go_wp2_with fail
          refine HC.out.mono ?_
          rintro e w2 ⟨rfl,hb⟩
          have HB2:=Lib.hid (HB.out.trans (hb.mono HB.out.size))
          clear hb
          go_wp2_with fail
          go_ret
          exact ⟨ret_bool HNN.out.symm,HB2.out⟩
        · have HEE:=Lib.hid (HE.out rfl)
          clear HE HN
          go_wp2_with fail
          refine HC.out.mono ?_
          rintro e w2 ⟨rfl,hb⟩
          have HB2:=Lib.hid (HB.out.trans (hb.mono HB.out.size))
          clear hb
          go_wp2_with fail
          go_roundg (l.length - (k+1))
          case measure=>omega
          case rel=>exact ⟨k+1,by omega,rfl,by go_num,HEE,HB2⟩
      · obtain rfl:k=l.length:=by omega
        have HE:=Lib.hid (show decide (l=l')=true from decide_eq_true (List.ext_getElem? fun j=>by
          by_cases h:j<l.length
          · exact HJ.out j h
          · rw [List.getElem?_eq_none (by omega),List.getElem?_eq_none (by have:=HLL.out;omega)]))
        go_wp2_with fail
        go_ret
        exact ⟨ret_bool HE.out.symm,HB.out⟩
  · have HN:=Lib.hid (show decide (l=l')=false from decide_eq_false fun e=>hll (by rw [e]))
    have ne:¬ ((l.length:Int)=(l'.length:Int)):=by omega
    clear hu hv hll HU HV HEN HF hE hf hl
    go_enter Tryz.func34,Tryz.ntmps34
    go_wp2_with fail
    go_ret
    exact ⟨ret_bool HN.out.symm,Below.refl _ _⟩
structure Ts.good (t:Ts):Prop where
  init:t.init.length<=1000
  threads:t.threads.length<=1000
  each:∀ b ∈ t.threads,b.fine/\b.over 8=false
  ask:okO t.ask
theorem ts_eq (s t:Ts):(decide (s.all=t.all) && decide (s.ask=t.ask) && decide (s.init=t.init) && decide (s.threads=t.threads))=decide (s=t):=by
  obtain ⟨i,th,al,q⟩:=s
  obtain ⟨i',th',al',q'⟩:=t
  rw [Bool.eq_iff_iff]
  simp only [Bool.and_eq_true,decide_eq_true_eq,Ts.mk.injEq]
  constructor
  · rintro ⟨⟨⟨h1,h2⟩,h3⟩,h4⟩;exact ⟨h3,h4,h1,h2⟩
  · rintro ⟨h3,h4,h1,h2⟩;exact ⟨⟨⟨h1,h2⟩,h3⟩,h4⟩
def closeV:Value->World->Prop:=fun u w=>∃ sB stB mB,u = .func (.func 95) #[] #[.pointer (some ⟨mB,0,none⟩),.pointer (some ⟨stB,0,none⟩)]/\SEnv w sB stB mB
theorem closeV_mono:Mono closeV:=fun _ _ _ ⟨sB,stB,mB,hu,hE⟩ hb=>⟨sB,stB,mB,hu,hE.below hb⟩
def twoTs (w:World) (vi vt va vi' vt' va':Value) (al al':Bool):World:=(w.alloc (.cells #[vi,vt,.bool al,va] 27)).alloc (.cells #[vi',vt',.bool al',va'] 27)
structure Pair (w0:World) (g1 g2:Nat) (c1 c2:Array Value) (s t:Ts) (vi vt va vi' vt' va':Value) (W:World):Prop where
  s1:Sits W g1 27 c1
  s2:Sits W g2 27 c2
  s:TestV W s vi vt va
  t:TestV W t vi' vt' va'
  low:Below w0.heap.size w0 W
theorem Pair.grown {w0:World} {g1 g2:Nat} {c1 c2:Array Value} {s t:Ts} {vi vt va vi' vt' va':Value} {W W':World} (h:Pair w0 g1 g2 c1 c2 s t vi vt va vi' vt' va' W) (hb:Below W.heap.size W W'):Pair w0 g1 g2 c1 c2 s t vi vt va vi' vt' va' W' :=
  ⟨h.s1.below hb h.s1.lt,h.s2.below hb h.s2.lt,h.s.below hb,h.t.below hb,h.low.trans (hb.mono h.low.size)⟩
set_option maxRecDepth 100000 in
set_option maxHeartbeats 2000000 in
theorem same_test (s t:Ts) (hs:s.good) (vi vt va vi' vt' va':Value) (w:World) (hS:TestV w s vi vt va) (hT:TestV w t vi' vt' va') :
    Calls Tryz.prog 9 #[testAgg vi vt s.all va,testAgg vi' vt' t.all va'] w fun e w'=>Made (.returned (.bool (decide (s=t)))) w e w':=by
  rw [<- ts_eq]
  have hlow:Below w.heap.size w (twoTs w vi vt va vi' vt' va' s.all t.all):=((Below.refl _ _).alloc (Nat.le_refl _) _).alloc (by simp) _
  have H0:Pair w w.heap.size (w.heap.size+1) #[vi,vt,.bool s.all,va] #[vi',vt',.bool t.all,va'] s t vi vt va vi' vt' va' (twoTs w vi vt va vi' vt' va' s.all t.all):=⟨(Sits.new _ _ _).alloc _,Sits.made (by simp) _ _,hS.below hlow,hT.below hlow,hlow⟩
  have HP:=Lib.hid H0
  have HA:=Lib.hid (fun W (h:Pair w w.heap.size (w.heap.size+1) #[vi,vt,.bool s.all,va] #[vi',vt',.bool t.all,va'] s t vi vt va vi' vt' va' W)=>sameExpr_any s.ask t.ask hs.ask va va' W h.s.ask h.t.ask)
  have HI:=Lib.hid (fun W (h:Pair w w.heap.size (w.heap.size+1) #[vi,vt,.bool s.all,va] #[vi',vt',.bool t.all,va'] s t vi vt va vi' vt' va' W)=>equal_init s.init t.init hs.init vi vi' W h.s.init h.t.init)
  have HB:=Lib.hid (fun (sB stB mB:Nat) W (h:Pair w w.heap.size (w.heap.size+1) #[vi,vt,.bool s.all,va] #[vi',vt',.bool t.all,va'] s t vi vt va vi' vt' va' W) (hE:SEnv W sB stB mB)=>equal_threads s.threads t.threads hs.threads hs.each vt vt' W sB stB mB hE h.s.threads h.t.threads)
  obtain ⟨pi,ci,rfl⟩:=hS.init.len
  obtain ⟨pt,ct,rfl⟩:=hS.threads.len
  obtain ⟨pa,rfl,_⟩:=hS.ask.ptr
  obtain ⟨pi',ci',rfl⟩:=hT.init.len
  obtain ⟨pt',ct',rfl⟩:=hT.threads.len
  obtain ⟨pa',rfl,_⟩:=hT.ask.ptr
  have HAL:Hid ((s.all == t.all)=decide (s.all=t.all)):=Lib.hid (by cases s.all <;> cases t.all <;> rfl)
  clear hlow H0 hs hS hT
  generalize decide (s.all=t.all)=r1 at HAL ⊢
  generalize decide (s.ask=t.ask)=r2 at HA ⊢
  generalize decide (s.init=t.init)=r3 at HI ⊢
  generalize decide (s.threads=t.threads)=r4 at HB ⊢
  unfold testAgg
  go_enter Tryz.func9,Tryz.ntmps9
  go_wp2_with fail
  change Code.wp _ _ _ _ (twoTs w (.slice pi s.init.length ci) (.slice pt s.threads.length ct) (.pointer pa) (.slice pi' t.init.length ci') (.slice pt' t.threads.length ct') (.pointer pa') s.all t.all)
  generalize twoTs w (.slice pi s.init.length ci) (.slice pt s.threads.length ct) (.pointer pa) (.slice pi' t.init.length ci') (.slice pt' t.threads.length ct') (.pointer pa') s.all t.all=wa at HP ⊢
  generalize w.heap.size+1=g2 at HP HA HI HB ⊢
  generalize hg1:w.heap.size=g1 at HP HA HI HB ⊢
  cases r1
  ·
    refine wp_flowG [5,6,7,8,9,10,11,12,13,14,15,16,17,18,19,20,21,22,23,24,25,26,27,28,29,30,31] [eqV (.pointer (some ⟨g1,2,none⟩)),eqV (.bool s.all),eqV (.pointer (some ⟨g2,2,none⟩)),eqV (.bool t.all),eqV (.bool false),eqV (.bool false),eqV undef,eqV undef,eqV undef,eqV undef,eqV undef,eqV (.bool false),eqV (.bool false),eqV undef,eqV undef,eqV undef,eqV undef,eqV undef,eqV (.bool false),eqV (.bool false),eqV undef,eqV undef,eqV undef,eqV undef,eqV undef,eqV undef,eqV (.bool false)] (by kernel_rfl) (by kernel_rfl) (by kernel_rfl) (by kernel_rfl) (by rfl) (by simp only [List.mem_cons,List.not_mem_nil,or_false,forall_eq_or_imp,forall_eq];refine ⟨?_,?_,?_,?_,?_,?_,?_,?_,?_,?_,?_,?_,?_,?_,?_,?_,?_,?_,?_,?_,?_,?_,?_,?_,?_,?_,?_⟩ <;> first | exact eqV_mono _ | exact closeV_mono) ?_ ?_
    · intro i o hi ho A W hW hk he
      simp only [List.length_cons,List.length_nil,Nat.zero_add,Nat.reduceAdd] at hi
      obtain rfl | rfl | rfl | rfl | rfl | rfl | rfl | rfl | rfl | rfl | rfl | rfl | rfl | rfl | rfl | rfl | rfl | rfl | rfl | rfl | rfl | rfl | rfl | rfl | rfl | rfl | rfl:i=0 \/ i=1 \/ i=2 \/ i=3 \/ i=4 \/ i=5 \/ i=6 \/ i=7 \/ i=8 \/ i=9 \/ i=10 \/ i=11 \/ i=12 \/ i=13 \/ i=14 \/ i=15 \/ i=16 \/ i=17 \/ i=18 \/ i=19 \/ i=20 \/ i=21 \/ i=22 \/ i=23 \/ i=24 \/ i=25 \/ i=26:=by omega
      · injection ho with ho;subst ho
        refine .inl ⟨wanted_free rfl,?_⟩
        have hx:A.tmps[2]?.getD undef = .pointer (some ⟨g1,0,none⟩):=hk 2 (by rfl)
        go_simp
        exact ⟨rfl,Below.refl _ _⟩
      · injection ho with ho;subst ho
        refine .inl ⟨wanted_free rfl,?_⟩
        have hx:A.tmps[5]?.getD undef = .pointer (some ⟨g1,2,none⟩):=he 0 (by kernel_rfl)
        have cc:=(HP.out.grown hW).s1.cell 2
        go_simp
        exact ⟨rfl,Below.refl _ _⟩
      · injection ho with ho;subst ho
        refine .inl ⟨wanted_free rfl,?_⟩
        have hx:A.tmps[3]?.getD undef = .pointer (some ⟨g2,0,none⟩):=hk 3 (by rfl)
        go_simp
        exact ⟨rfl,Below.refl _ _⟩
      · injection ho with ho;subst ho
        refine .inl ⟨wanted_free rfl,?_⟩
        have hx:A.tmps[7]?.getD undef = .pointer (some ⟨g2,2,none⟩):=he 2 (by kernel_rfl)
        have cc:=(HP.out.grown hW).s2.cell 2
        go_simp
        exact ⟨rfl,Below.refl _ _⟩
      · injection ho with ho;subst ho
        refine .inl ⟨wanted_free rfl,?_⟩
        have hx:A.tmps[6]?.getD undef=(.bool s.all):=he 1 (by kernel_rfl)
        have hy:A.tmps[8]?.getD undef=(.bool t.all):=he 3 (by kernel_rfl)
        go_simp
        exact ⟨congrArg Value.bool HAL.out,Below.refl _ _⟩
      · injection ho with ho;subst ho
        refine .inl ⟨wanted_free rfl,?_⟩
        have hx:A.tmps[9]?.getD undef=(.bool false):=he 4 (by kernel_rfl)
        go_simp
        exact ⟨rfl,Below.refl _ _⟩
      · injection ho with ho;subst ho
        have hg:A.tmps[10]?.getD undef = .bool false:=he 5 (by kernel_rfl)
        exact .inr ⟨wanted_no (d:=10) rfl (by kernel_rfl) hg,rfl⟩
      · injection ho with ho;subst ho
        have hg:A.tmps[10]?.getD undef = .bool false:=he 5 (by kernel_rfl)
        exact .inr ⟨wanted_no (d:=10) rfl (by kernel_rfl) hg,rfl⟩
      · injection ho with ho;subst ho
        have hg:A.tmps[10]?.getD undef = .bool false:=he 5 (by kernel_rfl)
        exact .inr ⟨wanted_no (d:=10) rfl (by kernel_rfl) hg,rfl⟩
      · injection ho with ho;subst ho
        have hg:A.tmps[10]?.getD undef = .bool false:=he 5 (by kernel_rfl)
        exact .inr ⟨wanted_no (d:=10) rfl (by kernel_rfl) hg,rfl⟩
      · injection ho with ho;subst ho
        have hg:A.tmps[10]?.getD undef = .bool false:=he 5 (by kernel_rfl)
        exact .inr ⟨wanted_no (d:=10) rfl (by kernel_rfl) hg,rfl⟩
      · injection ho with ho;subst ho
        refine .inl ⟨wanted_free rfl,?_⟩
        have hx:A.tmps[10]?.getD undef=(.bool false):=he 5 (by kernel_rfl)
        have hy:A.tmps[15]?.getD undef=undef:=he 10 (by kernel_rfl)
        go_simp
        exact ⟨rfl,Below.refl _ _⟩
      · injection ho with ho;subst ho
        refine .inl ⟨wanted_free rfl,?_⟩
        have hx:A.tmps[16]?.getD undef=(.bool false):=he 11 (by kernel_rfl)
        go_simp
        exact ⟨rfl,Below.refl _ _⟩
      · injection ho with ho;subst ho
        have hg:A.tmps[17]?.getD undef = .bool false:=he 12 (by kernel_rfl)
        exact .inr ⟨wanted_no (d:=17) rfl (by kernel_rfl) hg,rfl⟩
      · injection ho with ho;subst ho
        have hg:A.tmps[17]?.getD undef = .bool false:=he 12 (by kernel_rfl)
        exact .inr ⟨wanted_no (d:=17) rfl (by kernel_rfl) hg,rfl⟩
      · injection ho with ho;subst ho
        have hg:A.tmps[17]?.getD undef = .bool false:=he 12 (by kernel_rfl)
        exact .inr ⟨wanted_no (d:=17) rfl (by kernel_rfl) hg,rfl⟩
      · injection ho with ho;subst ho
        have hg:A.tmps[17]?.getD undef = .bool false:=he 12 (by kernel_rfl)
        exact .inr ⟨wanted_no (d:=17) rfl (by kernel_rfl) hg,rfl⟩
      · injection ho with ho;subst ho
        have hg:A.tmps[17]?.getD undef = .bool false:=he 12 (by kernel_rfl)
        exact .inr ⟨wanted_no (d:=17) rfl (by kernel_rfl) hg,rfl⟩
      · injection ho with ho;subst ho
        refine .inl ⟨wanted_free rfl,?_⟩
        have hx:A.tmps[17]?.getD undef=(.bool false):=he 12 (by kernel_rfl)
        have hy:A.tmps[22]?.getD undef=undef:=he 17 (by kernel_rfl)
        go_simp
        exact ⟨rfl,Below.refl _ _⟩
      · injection ho with ho;subst ho
        refine .inl ⟨wanted_free rfl,?_⟩
        have hx:A.tmps[23]?.getD undef=(.bool false):=he 18 (by kernel_rfl)
        go_simp
        exact ⟨rfl,Below.refl _ _⟩
      · injection ho with ho;subst ho
        have hg:A.tmps[24]?.getD undef = .bool false:=he 19 (by kernel_rfl)
        exact .inr ⟨wanted_no (d:=24) rfl (by kernel_rfl) hg,rfl⟩
      · injection ho with ho;subst ho
        have hg:A.tmps[24]?.getD undef = .bool false:=he 19 (by kernel_rfl)
        exact .inr ⟨wanted_no (d:=24) rfl (by kernel_rfl) hg,rfl⟩
      · injection ho with ho;subst ho
        have hg:A.tmps[24]?.getD undef = .bool false:=he 19 (by kernel_rfl)
        exact .inr ⟨wanted_no (d:=24) rfl (by kernel_rfl) hg,rfl⟩
      · injection ho with ho;subst ho
        have hg:A.tmps[24]?.getD undef = .bool false:=he 19 (by kernel_rfl)
        exact .inr ⟨wanted_no (d:=24) rfl (by kernel_rfl) hg,rfl⟩
      · injection ho with ho;subst ho
        have hg:A.tmps[24]?.getD undef = .bool false:=he 19 (by kernel_rfl)
        exact .inr ⟨wanted_no (d:=24) rfl (by kernel_rfl) hg,rfl⟩
      · injection ho with ho;subst ho
        have hg:A.tmps[24]?.getD undef = .bool false:=he 19 (by kernel_rfl)
        exact .inr ⟨wanted_no (d:=24) rfl (by kernel_rfl) hg,rfl⟩
      · injection ho with ho;subst ho
        refine .inl ⟨wanted_free rfl,?_⟩
        have hx:A.tmps[24]?.getD undef=(.bool false):=he 19 (by kernel_rfl)
        have hy:A.tmps[30]?.getD undef=undef:=he 25 (by kernel_rfl)
        go_simp
        exact ⟨rfl,Below.refl _ _⟩
    · intro xs W hW hV
      have ew:xs 26 = .bool false:=hV 26 (by simp)
      have HLW:=Lib.hid ((HP.out.grown hW).low)
      simp only [List.length_cons,List.length_nil,Nat.zero_add,Nat.reduceAdd,List.drop_succ_cons,List.drop_zero,putL,Act.put,List.setIfInBounds_toArray,List.set_cons_zero,List.set_cons_succ,ew]
      clear hV hW ew
      go_wp2_with fail
      go_ret
      exact ⟨rfl,HLW.out⟩
  cases r2
  ·
    refine wp_flowG [5,6,7,8,9,10,11,12,13,14,15,16,17,18,19,20,21,22,23,24,25,26,27,28,29,30,31] [eqV (.pointer (some ⟨g1,2,none⟩)),eqV (.bool s.all),eqV (.pointer (some ⟨g2,2,none⟩)),eqV (.bool t.all),eqV (.bool true),eqV (.bool true),eqV (.pointer (some ⟨g1,3,none⟩)),eqV (.pointer pa),eqV (.pointer (some ⟨g2,3,none⟩)),eqV (.pointer pa'),eqV (.bool false),eqV (.bool false),eqV (.bool false),eqV undef,eqV undef,eqV undef,eqV undef,eqV undef,eqV (.bool false),eqV (.bool false),eqV undef,eqV undef,eqV undef,eqV undef,eqV undef,eqV undef,eqV (.bool false)] (by kernel_rfl) (by kernel_rfl) (by kernel_rfl) (by kernel_rfl) (by rfl) (by simp only [List.mem_cons,List.not_mem_nil,or_false,forall_eq_or_imp,forall_eq];refine ⟨?_,?_,?_,?_,?_,?_,?_,?_,?_,?_,?_,?_,?_,?_,?_,?_,?_,?_,?_,?_,?_,?_,?_,?_,?_,?_,?_⟩ <;> first | exact eqV_mono _ | exact closeV_mono) ?_ ?_
    · intro i o hi ho A W hW hk he
      simp only [List.length_cons,List.length_nil,Nat.zero_add,Nat.reduceAdd] at hi
      obtain rfl | rfl | rfl | rfl | rfl | rfl | rfl | rfl | rfl | rfl | rfl | rfl | rfl | rfl | rfl | rfl | rfl | rfl | rfl | rfl | rfl | rfl | rfl | rfl | rfl | rfl | rfl:i=0 \/ i=1 \/ i=2 \/ i=3 \/ i=4 \/ i=5 \/ i=6 \/ i=7 \/ i=8 \/ i=9 \/ i=10 \/ i=11 \/ i=12 \/ i=13 \/ i=14 \/ i=15 \/ i=16 \/ i=17 \/ i=18 \/ i=19 \/ i=20 \/ i=21 \/ i=22 \/ i=23 \/ i=24 \/ i=25 \/ i=26:=by omega
      · injection ho with ho;subst ho
        refine .inl ⟨wanted_free rfl,?_⟩
        have hx:A.tmps[2]?.getD undef = .pointer (some ⟨g1,0,none⟩):=hk 2 (by rfl)
        go_simp
        exact ⟨rfl,Below.refl _ _⟩
      · injection ho with ho;subst ho
        refine .inl ⟨wanted_free rfl,?_⟩
        have hx:A.tmps[5]?.getD undef = .pointer (some ⟨g1,2,none⟩):=he 0 (by kernel_rfl)
        have cc:=(HP.out.grown hW).s1.cell 2
        go_simp
        exact ⟨rfl,Below.refl _ _⟩
      · injection ho with ho;subst ho
        refine .inl ⟨wanted_free rfl,?_⟩
        have hx:A.tmps[3]?.getD undef = .pointer (some ⟨g2,0,none⟩):=hk 3 (by rfl)
        go_simp
        exact ⟨rfl,Below.refl _ _⟩
      · injection ho with ho;subst ho
        refine .inl ⟨wanted_free rfl,?_⟩
        have hx:A.tmps[7]?.getD undef = .pointer (some ⟨g2,2,none⟩):=he 2 (by kernel_rfl)
        have cc:=(HP.out.grown hW).s2.cell 2
        go_simp
        exact ⟨rfl,Below.refl _ _⟩
      · injection ho with ho;subst ho
        refine .inl ⟨wanted_free rfl,?_⟩
        have hx:A.tmps[6]?.getD undef=(.bool s.all):=he 1 (by kernel_rfl)
        have hy:A.tmps[8]?.getD undef=(.bool t.all):=he 3 (by kernel_rfl)
        go_simp
        exact ⟨congrArg Value.bool HAL.out,Below.refl _ _⟩
      · injection ho with ho;subst ho
        refine .inl ⟨wanted_free rfl,?_⟩
        have hx:A.tmps[9]?.getD undef=(.bool true):=he 4 (by kernel_rfl)
        go_simp
        exact ⟨rfl,Below.refl _ _⟩
      · injection ho with ho;subst ho
        have hg:A.tmps[10]?.getD undef = .bool true:=he 5 (by kernel_rfl)
        refine .inl ⟨wanted_yes (d:=10) rfl (by kernel_rfl) hg,?_⟩
        have hx:A.tmps[2]?.getD undef = .pointer (some ⟨g1,0,none⟩):=hk 2 (by rfl)
        go_simp
        exact ⟨rfl,Below.refl _ _⟩
      · injection ho with ho;subst ho
        have hg:A.tmps[10]?.getD undef = .bool true:=he 5 (by kernel_rfl)
        refine .inl ⟨wanted_yes (d:=10) rfl (by kernel_rfl) hg,?_⟩
        have hx:A.tmps[11]?.getD undef = .pointer (some ⟨g1,3,none⟩):=he 6 (by kernel_rfl)
        have cc:=(HP.out.grown hW).s1.cell 3
        go_simp
        exact ⟨rfl,Below.refl _ _⟩
      · injection ho with ho;subst ho
        have hg:A.tmps[10]?.getD undef = .bool true:=he 5 (by kernel_rfl)
        refine .inl ⟨wanted_yes (d:=10) rfl (by kernel_rfl) hg,?_⟩
        have hx:A.tmps[3]?.getD undef = .pointer (some ⟨g2,0,none⟩):=hk 3 (by rfl)
        go_simp
        exact ⟨rfl,Below.refl _ _⟩
      · injection ho with ho;subst ho
        have hg:A.tmps[10]?.getD undef = .bool true:=he 5 (by kernel_rfl)
        refine .inl ⟨wanted_yes (d:=10) rfl (by kernel_rfl) hg,?_⟩
        have hx:A.tmps[13]?.getD undef = .pointer (some ⟨g2,3,none⟩):=he 8 (by kernel_rfl)
        have cc:=(HP.out.grown hW).s2.cell 3
        go_simp
        exact ⟨rfl,Below.refl _ _⟩
      · injection ho with ho;subst ho
        have hg:A.tmps[10]?.getD undef = .bool true:=he 5 (by kernel_rfl)
        refine .inl ⟨wanted_yes (d:=10) rfl (by kernel_rfl) hg,?_⟩
        have hx:A.tmps[12]?.getD undef=(.pointer pa):=he 7 (by kernel_rfl)
        have hy:A.tmps[14]?.getD undef=(.pointer pa'):=he 9 (by kernel_rfl)
        go_simp
        refine Calls.mono (HA.out W (HP.out.grown hW)) ?_
        rintro e' w' ⟨rfl,hb⟩
        exact ⟨_,rfl,rfl,hb⟩
      · injection ho with ho;subst ho
        refine .inl ⟨wanted_free rfl,?_⟩
        have hx:A.tmps[10]?.getD undef=(.bool true):=he 5 (by kernel_rfl)
        have hy:A.tmps[15]?.getD undef=(.bool false):=he 10 (by kernel_rfl)
        go_simp
        exact ⟨rfl,Below.refl _ _⟩
      · injection ho with ho;subst ho
        refine .inl ⟨wanted_free rfl,?_⟩
        have hx:A.tmps[16]?.getD undef=(.bool false):=he 11 (by kernel_rfl)
        go_simp
        exact ⟨rfl,Below.refl _ _⟩
      · injection ho with ho;subst ho
        have hg:A.tmps[17]?.getD undef = .bool false:=he 12 (by kernel_rfl)
        exact .inr ⟨wanted_no (d:=17) rfl (by kernel_rfl) hg,rfl⟩
      · injection ho with ho;subst ho
        have hg:A.tmps[17]?.getD undef = .bool false:=he 12 (by kernel_rfl)
        exact .inr ⟨wanted_no (d:=17) rfl (by kernel_rfl) hg,rfl⟩
      · injection ho with ho;subst ho
        have hg:A.tmps[17]?.getD undef = .bool false:=he 12 (by kernel_rfl)
        exact .inr ⟨wanted_no (d:=17) rfl (by kernel_rfl) hg,rfl⟩
      · injection ho with ho;subst ho
        have hg:A.tmps[17]?.getD undef = .bool false:=he 12 (by kernel_rfl)
        exact .inr ⟨wanted_no (d:=17) rfl (by kernel_rfl) hg,rfl⟩
      · injection ho with ho;subst ho
        have hg:A.tmps[17]?.getD undef = .bool false:=he 12 (by kernel_rfl)
        exact .inr ⟨wanted_no (d:=17) rfl (by kernel_rfl) hg,rfl⟩
      · injection ho with ho;subst ho
        refine .inl ⟨wanted_free rfl,?_⟩
        have hx:A.tmps[17]?.getD undef=(.bool false):=he 12 (by kernel_rfl)
        have hy:A.tmps[22]?.getD undef=undef:=he 17 (by kernel_rfl)
        go_simp
        exact ⟨rfl,Below.refl _ _⟩
      · injection ho with ho;subst ho
        refine .inl ⟨wanted_free rfl,?_⟩
        have hx:A.tmps[23]?.getD undef=(.bool false):=he 18 (by kernel_rfl)
        go_simp
        exact ⟨rfl,Below.refl _ _⟩
      · injection ho with ho;subst ho
        have hg:A.tmps[24]?.getD undef = .bool false:=he 19 (by kernel_rfl)
        exact .inr ⟨wanted_no (d:=24) rfl (by kernel_rfl) hg,rfl⟩
      · injection ho with ho;subst ho
        have hg:A.tmps[24]?.getD undef = .bool false:=he 19 (by kernel_rfl)
        exact .inr ⟨wanted_no (d:=24) rfl (by kernel_rfl) hg,rfl⟩
      · injection ho with ho;subst ho
        have hg:A.tmps[24]?.getD undef = .bool false:=he 19 (by kernel_rfl)
        exact .inr ⟨wanted_no (d:=24) rfl (by kernel_rfl) hg,rfl⟩
      · injection ho with ho;subst ho
        have hg:A.tmps[24]?.getD undef = .bool false:=he 19 (by kernel_rfl)
        exact .inr ⟨wanted_no (d:=24) rfl (by kernel_rfl) hg,rfl⟩
      · injection ho with ho;subst ho
        have hg:A.tmps[24]?.getD undef = .bool false:=he 19 (by kernel_rfl)
        exact .inr ⟨wanted_no (d:=24) rfl (by kernel_rfl) hg,rfl⟩
      · injection ho with ho;subst ho
        have hg:A.tmps[24]?.getD undef = .bool false:=he 19 (by kernel_rfl)
        exact .inr ⟨wanted_no (d:=24) rfl (by kernel_rfl) hg,rfl⟩
      · injection ho with ho;subst ho
        refine .inl ⟨wanted_free rfl,?_⟩
        have hx:A.tmps[24]?.getD undef=(.bool false):=he 19 (by kernel_rfl)
        have hy:A.tmps[30]?.getD undef=undef:=he 25 (by kernel_rfl)
        go_simp
        exact ⟨rfl,Below.refl _ _⟩
    · intro xs W hW hV
      have ew:xs 26 = .bool false:=hV 26 (by simp)
      have HLW:=Lib.hid ((HP.out.grown hW).low)
      simp only [List.length_cons,List.length_nil,Nat.zero_add,Nat.reduceAdd,List.drop_succ_cons,List.drop_zero,putL,Act.put,List.setIfInBounds_toArray,List.set_cons_zero,List.set_cons_succ,ew]
      clear hV hW ew
      go_wp2_with fail
      go_ret
      exact ⟨rfl,HLW.out⟩
  cases r3
  ·
    refine wp_flowG [5,6,7,8,9,10,11,12,13,14,15,16,17,18,19,20,21,22,23,24,25,26,27,28,29,30,31] [eqV (.pointer (some ⟨g1,2,none⟩)),eqV (.bool s.all),eqV (.pointer (some ⟨g2,2,none⟩)),eqV (.bool t.all),eqV (.bool true),eqV (.bool true),eqV (.pointer (some ⟨g1,3,none⟩)),eqV (.pointer pa),eqV (.pointer (some ⟨g2,3,none⟩)),eqV (.pointer pa'),eqV (.bool true),eqV (.bool true),eqV (.bool true),eqV (.pointer (some ⟨g1,0,none⟩)),eqV (.slice pi s.init.length ci),eqV (.pointer (some ⟨g2,0,none⟩)),eqV (.slice pi' t.init.length ci'),eqV (.bool false),eqV (.bool false),eqV (.bool false),eqV undef,eqV undef,eqV undef,eqV undef,eqV undef,eqV undef,eqV (.bool false)] (by kernel_rfl) (by kernel_rfl) (by kernel_rfl) (by kernel_rfl) (by rfl) (by simp only [List.mem_cons,List.not_mem_nil,or_false,forall_eq_or_imp,forall_eq];refine ⟨?_,?_,?_,?_,?_,?_,?_,?_,?_,?_,?_,?_,?_,?_,?_,?_,?_,?_,?_,?_,?_,?_,?_,?_,?_,?_,?_⟩ <;> first | exact eqV_mono _ | exact closeV_mono) ?_ ?_
    · intro i o hi ho A W hW hk he
      simp only [List.length_cons,List.length_nil,Nat.zero_add,Nat.reduceAdd] at hi
      obtain rfl | rfl | rfl | rfl | rfl | rfl | rfl | rfl | rfl | rfl | rfl | rfl | rfl | rfl | rfl | rfl | rfl | rfl | rfl | rfl | rfl | rfl | rfl | rfl | rfl | rfl | rfl:i=0 \/ i=1 \/ i=2 \/ i=3 \/ i=4 \/ i=5 \/ i=6 \/ i=7 \/ i=8 \/ i=9 \/ i=10 \/ i=11 \/ i=12 \/ i=13 \/ i=14 \/ i=15 \/ i=16 \/ i=17 \/ i=18 \/ i=19 \/ i=20 \/ i=21 \/ i=22 \/ i=23 \/ i=24 \/ i=25 \/ i=26:=by omega
      · injection ho with ho;subst ho
        refine .inl ⟨wanted_free rfl,?_⟩
        have hx:A.tmps[2]?.getD undef = .pointer (some ⟨g1,0,none⟩):=hk 2 (by rfl)
        go_simp
        exact ⟨rfl,Below.refl _ _⟩
      · injection ho with ho;subst ho
        refine .inl ⟨wanted_free rfl,?_⟩
        have hx:A.tmps[5]?.getD undef = .pointer (some ⟨g1,2,none⟩):=he 0 (by kernel_rfl)
        have cc:=(HP.out.grown hW).s1.cell 2
        go_simp
        exact ⟨rfl,Below.refl _ _⟩
      · injection ho with ho;subst ho
        refine .inl ⟨wanted_free rfl,?_⟩
        have hx:A.tmps[3]?.getD undef = .pointer (some ⟨g2,0,none⟩):=hk 3 (by rfl)
        go_simp
        exact ⟨rfl,Below.refl _ _⟩
      · injection ho with ho;subst ho
        refine .inl ⟨wanted_free rfl,?_⟩
        have hx:A.tmps[7]?.getD undef = .pointer (some ⟨g2,2,none⟩):=he 2 (by kernel_rfl)
        have cc:=(HP.out.grown hW).s2.cell 2
        go_simp
        exact ⟨rfl,Below.refl _ _⟩
      · injection ho with ho;subst ho
        refine .inl ⟨wanted_free rfl,?_⟩
        have hx:A.tmps[6]?.getD undef=(.bool s.all):=he 1 (by kernel_rfl)
        have hy:A.tmps[8]?.getD undef=(.bool t.all):=he 3 (by kernel_rfl)
        go_simp
        exact ⟨congrArg Value.bool HAL.out,Below.refl _ _⟩
      · injection ho with ho;subst ho
        refine .inl ⟨wanted_free rfl,?_⟩
        have hx:A.tmps[9]?.getD undef=(.bool true):=he 4 (by kernel_rfl)
        go_simp
        exact ⟨rfl,Below.refl _ _⟩
      · injection ho with ho;subst ho
        have hg:A.tmps[10]?.getD undef = .bool true:=he 5 (by kernel_rfl)
        refine .inl ⟨wanted_yes (d:=10) rfl (by kernel_rfl) hg,?_⟩
        have hx:A.tmps[2]?.getD undef = .pointer (some ⟨g1,0,none⟩):=hk 2 (by rfl)
        go_simp
        exact ⟨rfl,Below.refl _ _⟩
      · injection ho with ho;subst ho
        have hg:A.tmps[10]?.getD undef = .bool true:=he 5 (by kernel_rfl)
        refine .inl ⟨wanted_yes (d:=10) rfl (by kernel_rfl) hg,?_⟩
        have hx:A.tmps[11]?.getD undef = .pointer (some ⟨g1,3,none⟩):=he 6 (by kernel_rfl)
        have cc:=(HP.out.grown hW).s1.cell 3
        go_simp
        exact ⟨rfl,Below.refl _ _⟩
      · injection ho with ho;subst ho
        have hg:A.tmps[10]?.getD undef = .bool true:=he 5 (by kernel_rfl)
        refine .inl ⟨wanted_yes (d:=10) rfl (by kernel_rfl) hg,?_⟩
        have hx:A.tmps[3]?.getD undef = .pointer (some ⟨g2,0,none⟩):=hk 3 (by rfl)
        go_simp
        exact ⟨rfl,Below.refl _ _⟩
      · injection ho with ho;subst ho
        have hg:A.tmps[10]?.getD undef = .bool true:=he 5 (by kernel_rfl)
        refine .inl ⟨wanted_yes (d:=10) rfl (by kernel_rfl) hg,?_⟩
        have hx:A.tmps[13]?.getD undef = .pointer (some ⟨g2,3,none⟩):=he 8 (by kernel_rfl)
        have cc:=(HP.out.grown hW).s2.cell 3
        go_simp
        exact ⟨rfl,Below.refl _ _⟩
      · injection ho with ho;subst ho
        have hg:A.tmps[10]?.getD undef = .bool true:=he 5 (by kernel_rfl)
        refine .inl ⟨wanted_yes (d:=10) rfl (by kernel_rfl) hg,?_⟩
        have hx:A.tmps[12]?.getD undef=(.pointer pa):=he 7 (by kernel_rfl)
        have hy:A.tmps[14]?.getD undef=(.pointer pa'):=he 9 (by kernel_rfl)
        go_simp
        refine Calls.mono (HA.out W (HP.out.grown hW)) ?_
        rintro e' w' ⟨rfl,hb⟩
        exact ⟨_,rfl,rfl,hb⟩
      · injection ho with ho;subst ho
        refine .inl ⟨wanted_free rfl,?_⟩
        have hx:A.tmps[10]?.getD undef=(.bool true):=he 5 (by kernel_rfl)
        have hy:A.tmps[15]?.getD undef=(.bool true):=he 10 (by kernel_rfl)
        go_simp
        exact ⟨rfl,Below.refl _ _⟩
      · injection ho with ho;subst ho
        refine .inl ⟨wanted_free rfl,?_⟩
        have hx:A.tmps[16]?.getD undef=(.bool true):=he 11 (by kernel_rfl)
        go_simp
        exact ⟨rfl,Below.refl _ _⟩
      · injection ho with ho;subst ho
        have hg:A.tmps[17]?.getD undef = .bool true:=he 12 (by kernel_rfl)
        refine .inl ⟨wanted_yes (d:=17) rfl (by kernel_rfl) hg,?_⟩
        have hx:A.tmps[2]?.getD undef = .pointer (some ⟨g1,0,none⟩):=hk 2 (by rfl)
        go_simp
        exact ⟨rfl,Below.refl _ _⟩
      · injection ho with ho;subst ho
        have hg:A.tmps[17]?.getD undef = .bool true:=he 12 (by kernel_rfl)
        refine .inl ⟨wanted_yes (d:=17) rfl (by kernel_rfl) hg,?_⟩
        have hx:A.tmps[18]?.getD undef = .pointer (some ⟨g1,0,none⟩):=he 13 (by kernel_rfl)
        have cc:=(HP.out.grown hW).s1.cell 0
        go_simp
        exact ⟨rfl,Below.refl _ _⟩
      · injection ho with ho;subst ho
        have hg:A.tmps[17]?.getD undef = .bool true:=he 12 (by kernel_rfl)
        refine .inl ⟨wanted_yes (d:=17) rfl (by kernel_rfl) hg,?_⟩
        have hx:A.tmps[3]?.getD undef = .pointer (some ⟨g2,0,none⟩):=hk 3 (by rfl)
        go_simp
        exact ⟨rfl,Below.refl _ _⟩
      · injection ho with ho;subst ho
        have hg:A.tmps[17]?.getD undef = .bool true:=he 12 (by kernel_rfl)
        refine .inl ⟨wanted_yes (d:=17) rfl (by kernel_rfl) hg,?_⟩
        have hx:A.tmps[20]?.getD undef = .pointer (some ⟨g2,0,none⟩):=he 15 (by kernel_rfl)
        have cc:=(HP.out.grown hW).s2.cell 0
        go_simp
        exact ⟨rfl,Below.refl _ _⟩
      · injection ho with ho;subst ho
        have hg:A.tmps[17]?.getD undef = .bool true:=he 12 (by kernel_rfl)
        refine .inl ⟨wanted_yes (d:=17) rfl (by kernel_rfl) hg,?_⟩
        have hx:A.tmps[19]?.getD undef=(.slice pi s.init.length ci):=he 14 (by kernel_rfl)
        have hy:A.tmps[21]?.getD undef=(.slice pi' t.init.length ci'):=he 16 (by kernel_rfl)
        go_simp
        refine Calls.mono (HI.out W (HP.out.grown hW)) ?_
        rintro e' w' ⟨rfl,hb⟩
        exact ⟨_,rfl,rfl,hb⟩
      · injection ho with ho;subst ho
        refine .inl ⟨wanted_free rfl,?_⟩
        have hx:A.tmps[17]?.getD undef=(.bool true):=he 12 (by kernel_rfl)
        have hy:A.tmps[22]?.getD undef=(.bool false):=he 17 (by kernel_rfl)
        go_simp
        exact ⟨rfl,Below.refl _ _⟩
      · injection ho with ho;subst ho
        refine .inl ⟨wanted_free rfl,?_⟩
        have hx:A.tmps[23]?.getD undef=(.bool false):=he 18 (by kernel_rfl)
        go_simp
        exact ⟨rfl,Below.refl _ _⟩
      · injection ho with ho;subst ho
        have hg:A.tmps[24]?.getD undef = .bool false:=he 19 (by kernel_rfl)
        exact .inr ⟨wanted_no (d:=24) rfl (by kernel_rfl) hg,rfl⟩
      · injection ho with ho;subst ho
        have hg:A.tmps[24]?.getD undef = .bool false:=he 19 (by kernel_rfl)
        exact .inr ⟨wanted_no (d:=24) rfl (by kernel_rfl) hg,rfl⟩
      · injection ho with ho;subst ho
        have hg:A.tmps[24]?.getD undef = .bool false:=he 19 (by kernel_rfl)
        exact .inr ⟨wanted_no (d:=24) rfl (by kernel_rfl) hg,rfl⟩
      · injection ho with ho;subst ho
        have hg:A.tmps[24]?.getD undef = .bool false:=he 19 (by kernel_rfl)
        exact .inr ⟨wanted_no (d:=24) rfl (by kernel_rfl) hg,rfl⟩
      · injection ho with ho;subst ho
        have hg:A.tmps[24]?.getD undef = .bool false:=he 19 (by kernel_rfl)
        exact .inr ⟨wanted_no (d:=24) rfl (by kernel_rfl) hg,rfl⟩
      · injection ho with ho;subst ho
        have hg:A.tmps[24]?.getD undef = .bool false:=he 19 (by kernel_rfl)
        exact .inr ⟨wanted_no (d:=24) rfl (by kernel_rfl) hg,rfl⟩
      · injection ho with ho;subst ho
        refine .inl ⟨wanted_free rfl,?_⟩
        have hx:A.tmps[24]?.getD undef=(.bool false):=he 19 (by kernel_rfl)
        have hy:A.tmps[30]?.getD undef=undef:=he 25 (by kernel_rfl)
        go_simp
        exact ⟨rfl,Below.refl _ _⟩
    · intro xs W hW hV
      have ew:xs 26 = .bool false:=hV 26 (by simp)
      have HLW:=Lib.hid ((HP.out.grown hW).low)
      simp only [List.length_cons,List.length_nil,Nat.zero_add,Nat.reduceAdd,List.drop_succ_cons,List.drop_zero,putL,Act.put,List.setIfInBounds_toArray,List.set_cons_zero,List.set_cons_succ,ew]
      clear hV hW ew
      go_wp2_with fail
      go_ret
      exact ⟨rfl,HLW.out⟩
  cases r4
  ·
    refine wp_flowG [5,6,7,8,9,10,11,12,13,14,15,16,17,18,19,20,21,22,23,24,25,26,27,28,29,30,31] [eqV (.pointer (some ⟨g1,2,none⟩)),eqV (.bool s.all),eqV (.pointer (some ⟨g2,2,none⟩)),eqV (.bool t.all),eqV (.bool true),eqV (.bool true),eqV (.pointer (some ⟨g1,3,none⟩)),eqV (.pointer pa),eqV (.pointer (some ⟨g2,3,none⟩)),eqV (.pointer pa'),eqV (.bool true),eqV (.bool true),eqV (.bool true),eqV (.pointer (some ⟨g1,0,none⟩)),eqV (.slice pi s.init.length ci),eqV (.pointer (some ⟨g2,0,none⟩)),eqV (.slice pi' t.init.length ci'),eqV (.bool true),eqV (.bool true),eqV (.bool true),eqV (.pointer (some ⟨g1,1,none⟩)),eqV (.slice pt s.threads.length ct),eqV (.pointer (some ⟨g2,1,none⟩)),eqV (.slice pt' t.threads.length ct'),closeV,eqV (.bool false),eqV (.bool false)] (by kernel_rfl) (by kernel_rfl) (by kernel_rfl) (by kernel_rfl) (by rfl) (by simp only [List.mem_cons,List.not_mem_nil,or_false,forall_eq_or_imp,forall_eq];refine ⟨?_,?_,?_,?_,?_,?_,?_,?_,?_,?_,?_,?_,?_,?_,?_,?_,?_,?_,?_,?_,?_,?_,?_,?_,?_,?_,?_⟩ <;> first | exact eqV_mono _ | exact closeV_mono) ?_ ?_
    · intro i o hi ho A W hW hk he
      simp only [List.length_cons,List.length_nil,Nat.zero_add,Nat.reduceAdd] at hi
      obtain rfl | rfl | rfl | rfl | rfl | rfl | rfl | rfl | rfl | rfl | rfl | rfl | rfl | rfl | rfl | rfl | rfl | rfl | rfl | rfl | rfl | rfl | rfl | rfl | rfl | rfl | rfl:i=0 \/ i=1 \/ i=2 \/ i=3 \/ i=4 \/ i=5 \/ i=6 \/ i=7 \/ i=8 \/ i=9 \/ i=10 \/ i=11 \/ i=12 \/ i=13 \/ i=14 \/ i=15 \/ i=16 \/ i=17 \/ i=18 \/ i=19 \/ i=20 \/ i=21 \/ i=22 \/ i=23 \/ i=24 \/ i=25 \/ i=26:=by omega
      · injection ho with ho;subst ho
        refine .inl ⟨wanted_free rfl,?_⟩
        have hx:A.tmps[2]?.getD undef = .pointer (some ⟨g1,0,none⟩):=hk 2 (by rfl)
        go_simp
        exact ⟨rfl,Below.refl _ _⟩
      · injection ho with ho;subst ho
        refine .inl ⟨wanted_free rfl,?_⟩
        have hx:A.tmps[5]?.getD undef = .pointer (some ⟨g1,2,none⟩):=he 0 (by kernel_rfl)
        have cc:=(HP.out.grown hW).s1.cell 2
        go_simp
        exact ⟨rfl,Below.refl _ _⟩
      · injection ho with ho;subst ho
        refine .inl ⟨wanted_free rfl,?_⟩
        have hx:A.tmps[3]?.getD undef = .pointer (some ⟨g2,0,none⟩):=hk 3 (by rfl)
        go_simp
        exact ⟨rfl,Below.refl _ _⟩
      · injection ho with ho;subst ho
        refine .inl ⟨wanted_free rfl,?_⟩
        have hx:A.tmps[7]?.getD undef = .pointer (some ⟨g2,2,none⟩):=he 2 (by kernel_rfl)
        have cc:=(HP.out.grown hW).s2.cell 2
        go_simp
        exact ⟨rfl,Below.refl _ _⟩
      · injection ho with ho;subst ho
        refine .inl ⟨wanted_free rfl,?_⟩
        have hx:A.tmps[6]?.getD undef=(.bool s.all):=he 1 (by kernel_rfl)
        have hy:A.tmps[8]?.getD undef=(.bool t.all):=he 3 (by kernel_rfl)
        go_simp
        exact ⟨congrArg Value.bool HAL.out,Below.refl _ _⟩
      · injection ho with ho;subst ho
        refine .inl ⟨wanted_free rfl,?_⟩
        have hx:A.tmps[9]?.getD undef=(.bool true):=he 4 (by kernel_rfl)
        go_simp
        exact ⟨rfl,Below.refl _ _⟩
      · injection ho with ho;subst ho
        have hg:A.tmps[10]?.getD undef = .bool true:=he 5 (by kernel_rfl)
        refine .inl ⟨wanted_yes (d:=10) rfl (by kernel_rfl) hg,?_⟩
        have hx:A.tmps[2]?.getD undef = .pointer (some ⟨g1,0,none⟩):=hk 2 (by rfl)
        go_simp
        exact ⟨rfl,Below.refl _ _⟩
      · injection ho with ho;subst ho
        have hg:A.tmps[10]?.getD undef = .bool true:=he 5 (by kernel_rfl)
        refine .inl ⟨wanted_yes (d:=10) rfl (by kernel_rfl) hg,?_⟩
        have hx:A.tmps[11]?.getD undef = .pointer (some ⟨g1,3,none⟩):=he 6 (by kernel_rfl)
        have cc:=(HP.out.grown hW).s1.cell 3
        go_simp
        exact ⟨rfl,Below.refl _ _⟩
      · injection ho with ho;subst ho
        have hg:A.tmps[10]?.getD undef = .bool true:=he 5 (by kernel_rfl)
        refine .inl ⟨wanted_yes (d:=10) rfl (by kernel_rfl) hg,?_⟩
        have hx:A.tmps[3]?.getD undef = .pointer (some ⟨g2,0,none⟩):=hk 3 (by rfl)
        go_simp
        exact ⟨rfl,Below.refl _ _⟩
      · injection ho with ho;subst ho
        have hg:A.tmps[10]?.getD undef = .bool true:=he 5 (by kernel_rfl)
        refine .inl ⟨wanted_yes (d:=10) rfl (by kernel_rfl) hg,?_⟩
        have hx:A.tmps[13]?.getD undef = .pointer (some ⟨g2,3,none⟩):=he 8 (by kernel_rfl)
        have cc:=(HP.out.grown hW).s2.cell 3
        go_simp
        exact ⟨rfl,Below.refl _ _⟩
      · injection ho with ho;subst ho
        have hg:A.tmps[10]?.getD undef = .bool true:=he 5 (by kernel_rfl)
        refine .inl ⟨wanted_yes (d:=10) rfl (by kernel_rfl) hg,?_⟩
        have hx:A.tmps[12]?.getD undef=(.pointer pa):=he 7 (by kernel_rfl)
        have hy:A.tmps[14]?.getD undef=(.pointer pa'):=he 9 (by kernel_rfl)
        go_simp
        refine Calls.mono (HA.out W (HP.out.grown hW)) ?_
        rintro e' w' ⟨rfl,hb⟩
        exact ⟨_,rfl,rfl,hb⟩
      · injection ho with ho;subst ho
        refine .inl ⟨wanted_free rfl,?_⟩
        have hx:A.tmps[10]?.getD undef=(.bool true):=he 5 (by kernel_rfl)
        have hy:A.tmps[15]?.getD undef=(.bool true):=he 10 (by kernel_rfl)
        go_simp
        exact ⟨rfl,Below.refl _ _⟩
      · injection ho with ho;subst ho
        refine .inl ⟨wanted_free rfl,?_⟩
        have hx:A.tmps[16]?.getD undef=(.bool true):=he 11 (by kernel_rfl)
        go_simp
        exact ⟨rfl,Below.refl _ _⟩
      · injection ho with ho;subst ho
        have hg:A.tmps[17]?.getD undef = .bool true:=he 12 (by kernel_rfl)
        refine .inl ⟨wanted_yes (d:=17) rfl (by kernel_rfl) hg,?_⟩
        have hx:A.tmps[2]?.getD undef = .pointer (some ⟨g1,0,none⟩):=hk 2 (by rfl)
        go_simp
        exact ⟨rfl,Below.refl _ _⟩
      · injection ho with ho;subst ho
        have hg:A.tmps[17]?.getD undef = .bool true:=he 12 (by kernel_rfl)
        refine .inl ⟨wanted_yes (d:=17) rfl (by kernel_rfl) hg,?_⟩
        have hx:A.tmps[18]?.getD undef = .pointer (some ⟨g1,0,none⟩):=he 13 (by kernel_rfl)
        have cc:=(HP.out.grown hW).s1.cell 0
        go_simp
        exact ⟨rfl,Below.refl _ _⟩
      · injection ho with ho;subst ho
        have hg:A.tmps[17]?.getD undef = .bool true:=he 12 (by kernel_rfl)
        refine .inl ⟨wanted_yes (d:=17) rfl (by kernel_rfl) hg,?_⟩
        have hx:A.tmps[3]?.getD undef = .pointer (some ⟨g2,0,none⟩):=hk 3 (by rfl)
        go_simp
        exact ⟨rfl,Below.refl _ _⟩
      · injection ho with ho;subst ho
        have hg:A.tmps[17]?.getD undef = .bool true:=he 12 (by kernel_rfl)
        refine .inl ⟨wanted_yes (d:=17) rfl (by kernel_rfl) hg,?_⟩
        have hx:A.tmps[20]?.getD undef = .pointer (some ⟨g2,0,none⟩):=he 15 (by kernel_rfl)
        have cc:=(HP.out.grown hW).s2.cell 0
        go_simp
        exact ⟨rfl,Below.refl _ _⟩
      · injection ho with ho;subst ho
        have hg:A.tmps[17]?.getD undef = .bool true:=he 12 (by kernel_rfl)
        refine .inl ⟨wanted_yes (d:=17) rfl (by kernel_rfl) hg,?_⟩
        have hx:A.tmps[19]?.getD undef=(.slice pi s.init.length ci):=he 14 (by kernel_rfl)
        have hy:A.tmps[21]?.getD undef=(.slice pi' t.init.length ci'):=he 16 (by kernel_rfl)
        go_simp
        refine Calls.mono (HI.out W (HP.out.grown hW)) ?_
        rintro e' w' ⟨rfl,hb⟩
        exact ⟨_,rfl,rfl,hb⟩
      · injection ho with ho;subst ho
        refine .inl ⟨wanted_free rfl,?_⟩
        have hx:A.tmps[17]?.getD undef=(.bool true):=he 12 (by kernel_rfl)
        have hy:A.tmps[22]?.getD undef=(.bool true):=he 17 (by kernel_rfl)
        go_simp
        exact ⟨rfl,Below.refl _ _⟩
      · injection ho with ho;subst ho
        refine .inl ⟨wanted_free rfl,?_⟩
        have hx:A.tmps[23]?.getD undef=(.bool true):=he 18 (by kernel_rfl)
        go_simp
        exact ⟨rfl,Below.refl _ _⟩
      · injection ho with ho;subst ho
        have hg:A.tmps[24]?.getD undef = .bool true:=he 19 (by kernel_rfl)
        refine .inl ⟨wanted_yes (d:=24) rfl (by kernel_rfl) hg,?_⟩
        have hx:A.tmps[2]?.getD undef = .pointer (some ⟨g1,0,none⟩):=hk 2 (by rfl)
        go_simp
        exact ⟨rfl,Below.refl _ _⟩
      · injection ho with ho;subst ho
        have hg:A.tmps[24]?.getD undef = .bool true:=he 19 (by kernel_rfl)
        refine .inl ⟨wanted_yes (d:=24) rfl (by kernel_rfl) hg,?_⟩
        have hx:A.tmps[25]?.getD undef = .pointer (some ⟨g1,1,none⟩):=he 20 (by kernel_rfl)
        have cc:=(HP.out.grown hW).s1.cell 1
        go_simp
        exact ⟨rfl,Below.refl _ _⟩
      · injection ho with ho;subst ho
        have hg:A.tmps[24]?.getD undef = .bool true:=he 19 (by kernel_rfl)
        refine .inl ⟨wanted_yes (d:=24) rfl (by kernel_rfl) hg,?_⟩
        have hx:A.tmps[3]?.getD undef = .pointer (some ⟨g2,0,none⟩):=hk 3 (by rfl)
        go_simp
        exact ⟨rfl,Below.refl _ _⟩
      · injection ho with ho;subst ho
        have hg:A.tmps[24]?.getD undef = .bool true:=he 19 (by kernel_rfl)
        refine .inl ⟨wanted_yes (d:=24) rfl (by kernel_rfl) hg,?_⟩
        have hx:A.tmps[27]?.getD undef = .pointer (some ⟨g2,1,none⟩):=he 22 (by kernel_rfl)
        have cc:=(HP.out.grown hW).s2.cell 1
        go_simp
        exact ⟨rfl,Below.refl _ _⟩
      · injection ho with ho;subst ho
        have hg:A.tmps[24]?.getD undef = .bool true:=he 19 (by kernel_rfl)
        refine .inl ⟨wanted_yes (d:=24) rfl (by kernel_rfl) hg,?_⟩
        go_simp
        refine Calls.mono (sameBlocks_any W) ?_
        rintro e' w' ⟨sB,stB,mB,rfl,hE,hb⟩
        exact ⟨_,rfl,⟨sB,stB,mB,rfl,hE⟩,hb⟩
      · injection ho with ho;subst ho
        have hg:A.tmps[24]?.getD undef = .bool true:=he 19 (by kernel_rfl)
        refine .inl ⟨wanted_yes (d:=24) rfl (by kernel_rfl) hg,?_⟩
        have hx:A.tmps[26]?.getD undef=(.slice pt s.threads.length ct):=he 21 (by kernel_rfl)
        have hy:A.tmps[28]?.getD undef=(.slice pt' t.threads.length ct'):=he 23 (by kernel_rfl)
        obtain ⟨sB,stB,mB,hz,hE⟩:closeV (A.tmps[29]?.getD undef) W:=he 24 (by kernel_rfl)
        go_simp
        refine Calls.mono (HB.out sB stB mB W (HP.out.grown hW) hE) ?_
        rintro e' w' ⟨rfl,hb⟩
        exact ⟨_,rfl,rfl,hb⟩
      · injection ho with ho;subst ho
        refine .inl ⟨wanted_free rfl,?_⟩
        have hx:A.tmps[24]?.getD undef=(.bool true):=he 19 (by kernel_rfl)
        have hy:A.tmps[30]?.getD undef=(.bool false):=he 25 (by kernel_rfl)
        go_simp
        exact ⟨rfl,Below.refl _ _⟩
    · intro xs W hW hV
      have ew:xs 26 = .bool false:=hV 26 (by simp)
      have HLW:=Lib.hid ((HP.out.grown hW).low)
      simp only [List.length_cons,List.length_nil,Nat.zero_add,Nat.reduceAdd,List.drop_succ_cons,List.drop_zero,putL,Act.put,List.setIfInBounds_toArray,List.set_cons_zero,List.set_cons_succ,ew]
      clear hV hW ew
      go_wp2_with fail
      go_ret
      exact ⟨rfl,HLW.out⟩
  ·
    refine wp_flowG [5,6,7,8,9,10,11,12,13,14,15,16,17,18,19,20,21,22,23,24,25,26,27,28,29,30,31] [eqV (.pointer (some ⟨g1,2,none⟩)),eqV (.bool s.all),eqV (.pointer (some ⟨g2,2,none⟩)),eqV (.bool t.all),eqV (.bool true),eqV (.bool true),eqV (.pointer (some ⟨g1,3,none⟩)),eqV (.pointer pa),eqV (.pointer (some ⟨g2,3,none⟩)),eqV (.pointer pa'),eqV (.bool true),eqV (.bool true),eqV (.bool true),eqV (.pointer (some ⟨g1,0,none⟩)),eqV (.slice pi s.init.length ci),eqV (.pointer (some ⟨g2,0,none⟩)),eqV (.slice pi' t.init.length ci'),eqV (.bool true),eqV (.bool true),eqV (.bool true),eqV (.pointer (some ⟨g1,1,none⟩)),eqV (.slice pt s.threads.length ct),eqV (.pointer (some ⟨g2,1,none⟩)),eqV (.slice pt' t.threads.length ct'),closeV,eqV (.bool true),eqV (.bool true)] (by kernel_rfl) (by kernel_rfl) (by kernel_rfl) (by kernel_rfl) (by rfl) (by simp only [List.mem_cons,List.not_mem_nil,or_false,forall_eq_or_imp,forall_eq];refine ⟨?_,?_,?_,?_,?_,?_,?_,?_,?_,?_,?_,?_,?_,?_,?_,?_,?_,?_,?_,?_,?_,?_,?_,?_,?_,?_,?_⟩ <;> first | exact eqV_mono _ | exact closeV_mono) ?_ ?_
    · intro i o hi ho A W hW hk he
      simp only [List.length_cons,List.length_nil,Nat.zero_add,Nat.reduceAdd] at hi
      obtain rfl | rfl | rfl | rfl | rfl | rfl | rfl | rfl | rfl | rfl | rfl | rfl | rfl | rfl | rfl | rfl | rfl | rfl | rfl | rfl | rfl | rfl | rfl | rfl | rfl | rfl | rfl:i=0 \/ i=1 \/ i=2 \/ i=3 \/ i=4 \/ i=5 \/ i=6 \/ i=7 \/ i=8 \/ i=9 \/ i=10 \/ i=11 \/ i=12 \/ i=13 \/ i=14 \/ i=15 \/ i=16 \/ i=17 \/ i=18 \/ i=19 \/ i=20 \/ i=21 \/ i=22 \/ i=23 \/ i=24 \/ i=25 \/ i=26:=by omega
      · injection ho with ho;subst ho
        refine .inl ⟨wanted_free rfl,?_⟩
        have hx:A.tmps[2]?.getD undef = .pointer (some ⟨g1,0,none⟩):=hk 2 (by rfl)
        go_simp
        exact ⟨rfl,Below.refl _ _⟩
      · injection ho with ho;subst ho
        refine .inl ⟨wanted_free rfl,?_⟩
        have hx:A.tmps[5]?.getD undef = .pointer (some ⟨g1,2,none⟩):=he 0 (by kernel_rfl)
        have cc:=(HP.out.grown hW).s1.cell 2
        go_simp
        exact ⟨rfl,Below.refl _ _⟩
      · injection ho with ho;subst ho
        refine .inl ⟨wanted_free rfl,?_⟩
        have hx:A.tmps[3]?.getD undef = .pointer (some ⟨g2,0,none⟩):=hk 3 (by rfl)
        go_simp
        exact ⟨rfl,Below.refl _ _⟩
      · injection ho with ho;subst ho
        refine .inl ⟨wanted_free rfl,?_⟩
        have hx:A.tmps[7]?.getD undef = .pointer (some ⟨g2,2,none⟩):=he 2 (by kernel_rfl)
        have cc:=(HP.out.grown hW).s2.cell 2
        go_simp
        exact ⟨rfl,Below.refl _ _⟩
      · injection ho with ho;subst ho
        refine .inl ⟨wanted_free rfl,?_⟩
        have hx:A.tmps[6]?.getD undef=(.bool s.all):=he 1 (by kernel_rfl)
        have hy:A.tmps[8]?.getD undef=(.bool t.all):=he 3 (by kernel_rfl)
        go_simp
        exact ⟨congrArg Value.bool HAL.out,Below.refl _ _⟩
      · injection ho with ho;subst ho
        refine .inl ⟨wanted_free rfl,?_⟩
        have hx:A.tmps[9]?.getD undef=(.bool true):=he 4 (by kernel_rfl)
        go_simp
        exact ⟨rfl,Below.refl _ _⟩
      · injection ho with ho;subst ho
        have hg:A.tmps[10]?.getD undef = .bool true:=he 5 (by kernel_rfl)
        refine .inl ⟨wanted_yes (d:=10) rfl (by kernel_rfl) hg,?_⟩
        have hx:A.tmps[2]?.getD undef = .pointer (some ⟨g1,0,none⟩):=hk 2 (by rfl)
        go_simp
        exact ⟨rfl,Below.refl _ _⟩
      · injection ho with ho;subst ho
        have hg:A.tmps[10]?.getD undef = .bool true:=he 5 (by kernel_rfl)
        refine .inl ⟨wanted_yes (d:=10) rfl (by kernel_rfl) hg,?_⟩
        have hx:A.tmps[11]?.getD undef = .pointer (some ⟨g1,3,none⟩):=he 6 (by kernel_rfl)
        have cc:=(HP.out.grown hW).s1.cell 3
        go_simp
        exact ⟨rfl,Below.refl _ _⟩
      · injection ho with ho;subst ho
        have hg:A.tmps[10]?.getD undef = .bool true:=he 5 (by kernel_rfl)
        refine .inl ⟨wanted_yes (d:=10) rfl (by kernel_rfl) hg,?_⟩
        have hx:A.tmps[3]?.getD undef = .pointer (some ⟨g2,0,none⟩):=hk 3 (by rfl)
        go_simp
        exact ⟨rfl,Below.refl _ _⟩
      · injection ho with ho;subst ho
        have hg:A.tmps[10]?.getD undef = .bool true:=he 5 (by kernel_rfl)
        refine .inl ⟨wanted_yes (d:=10) rfl (by kernel_rfl) hg,?_⟩
        have hx:A.tmps[13]?.getD undef = .pointer (some ⟨g2,3,none⟩):=he 8 (by kernel_rfl)
        have cc:=(HP.out.grown hW).s2.cell 3
        go_simp
        exact ⟨rfl,Below.refl _ _⟩
      · injection ho with ho;subst ho
        have hg:A.tmps[10]?.getD undef = .bool true:=he 5 (by kernel_rfl)
        refine .inl ⟨wanted_yes (d:=10) rfl (by kernel_rfl) hg,?_⟩
        have hx:A.tmps[12]?.getD undef=(.pointer pa):=he 7 (by kernel_rfl)
        have hy:A.tmps[14]?.getD undef=(.pointer pa'):=he 9 (by kernel_rfl)
        go_simp
        refine Calls.mono (HA.out W (HP.out.grown hW)) ?_
        rintro e' w' ⟨rfl,hb⟩
        exact ⟨_,rfl,rfl,hb⟩
      · injection ho with ho;subst ho
        refine .inl ⟨wanted_free rfl,?_⟩
        have hx:A.tmps[10]?.getD undef=(.bool true):=he 5 (by kernel_rfl)
        have hy:A.tmps[15]?.getD undef=(.bool true):=he 10 (by kernel_rfl)
        go_simp
        exact ⟨rfl,Below.refl _ _⟩
      · injection ho with ho;subst ho
        refine .inl ⟨wanted_free rfl,?_⟩
        have hx:A.tmps[16]?.getD undef=(.bool true):=he 11 (by kernel_rfl)
        go_simp
        exact ⟨rfl,Below.refl _ _⟩
      · injection ho with ho;subst ho
        have hg:A.tmps[17]?.getD undef = .bool true:=he 12 (by kernel_rfl)
        refine .inl ⟨wanted_yes (d:=17) rfl (by kernel_rfl) hg,?_⟩
        have hx:A.tmps[2]?.getD undef = .pointer (some ⟨g1,0,none⟩):=hk 2 (by rfl)
        go_simp
        exact ⟨rfl,Below.refl _ _⟩
      · injection ho with ho;subst ho
        have hg:A.tmps[17]?.getD undef = .bool true:=he 12 (by kernel_rfl)
        refine .inl ⟨wanted_yes (d:=17) rfl (by kernel_rfl) hg,?_⟩
        have hx:A.tmps[18]?.getD undef = .pointer (some ⟨g1,0,none⟩):=he 13 (by kernel_rfl)
        have cc:=(HP.out.grown hW).s1.cell 0
        go_simp
        exact ⟨rfl,Below.refl _ _⟩
      · injection ho with ho;subst ho
        have hg:A.tmps[17]?.getD undef = .bool true:=he 12 (by kernel_rfl)
        refine .inl ⟨wanted_yes (d:=17) rfl (by kernel_rfl) hg,?_⟩
        have hx:A.tmps[3]?.getD undef = .pointer (some ⟨g2,0,none⟩):=hk 3 (by rfl)
        go_simp
        exact ⟨rfl,Below.refl _ _⟩
      · injection ho with ho;subst ho
        have hg:A.tmps[17]?.getD undef = .bool true:=he 12 (by kernel_rfl)
        refine .inl ⟨wanted_yes (d:=17) rfl (by kernel_rfl) hg,?_⟩
        have hx:A.tmps[20]?.getD undef = .pointer (some ⟨g2,0,none⟩):=he 15 (by kernel_rfl)
        have cc:=(HP.out.grown hW).s2.cell 0
        go_simp
        exact ⟨rfl,Below.refl _ _⟩
      · injection ho with ho;subst ho
        have hg:A.tmps[17]?.getD undef = .bool true:=he 12 (by kernel_rfl)
        refine .inl ⟨wanted_yes (d:=17) rfl (by kernel_rfl) hg,?_⟩
        have hx:A.tmps[19]?.getD undef=(.slice pi s.init.length ci):=he 14 (by kernel_rfl)
        have hy:A.tmps[21]?.getD undef=(.slice pi' t.init.length ci'):=he 16 (by kernel_rfl)
        go_simp
        refine Calls.mono (HI.out W (HP.out.grown hW)) ?_
        rintro e' w' ⟨rfl,hb⟩
        exact ⟨_,rfl,rfl,hb⟩
      · injection ho with ho;subst ho
        refine .inl ⟨wanted_free rfl,?_⟩
        have hx:A.tmps[17]?.getD undef=(.bool true):=he 12 (by kernel_rfl)
        have hy:A.tmps[22]?.getD undef=(.bool true):=he 17 (by kernel_rfl)
        go_simp
        exact ⟨rfl,Below.refl _ _⟩
      · injection ho with ho;subst ho
        refine .inl ⟨wanted_free rfl,?_⟩
        have hx:A.tmps[23]?.getD undef=(.bool true):=he 18 (by kernel_rfl)
        go_simp
        exact ⟨rfl,Below.refl _ _⟩
      · injection ho with ho;subst ho
        have hg:A.tmps[24]?.getD undef = .bool true:=he 19 (by kernel_rfl)
        refine .inl ⟨wanted_yes (d:=24) rfl (by kernel_rfl) hg,?_⟩
        have hx:A.tmps[2]?.getD undef = .pointer (some ⟨g1,0,none⟩):=hk 2 (by rfl)
        go_simp
        exact ⟨rfl,Below.refl _ _⟩
      · injection ho with ho;subst ho
        have hg:A.tmps[24]?.getD undef = .bool true:=he 19 (by kernel_rfl)
        refine .inl ⟨wanted_yes (d:=24) rfl (by kernel_rfl) hg,?_⟩
        have hx:A.tmps[25]?.getD undef = .pointer (some ⟨g1,1,none⟩):=he 20 (by kernel_rfl)
        have cc:=(HP.out.grown hW).s1.cell 1
        go_simp
        exact ⟨rfl,Below.refl _ _⟩
      · injection ho with ho;subst ho
        have hg:A.tmps[24]?.getD undef = .bool true:=he 19 (by kernel_rfl)
        refine .inl ⟨wanted_yes (d:=24) rfl (by kernel_rfl) hg,?_⟩
        have hx:A.tmps[3]?.getD undef = .pointer (some ⟨g2,0,none⟩):=hk 3 (by rfl)
        go_simp
        exact ⟨rfl,Below.refl _ _⟩
      · injection ho with ho;subst ho
        have hg:A.tmps[24]?.getD undef = .bool true:=he 19 (by kernel_rfl)
        refine .inl ⟨wanted_yes (d:=24) rfl (by kernel_rfl) hg,?_⟩
        have hx:A.tmps[27]?.getD undef = .pointer (some ⟨g2,1,none⟩):=he 22 (by kernel_rfl)
        have cc:=(HP.out.grown hW).s2.cell 1
        go_simp
        exact ⟨rfl,Below.refl _ _⟩
      · injection ho with ho;subst ho
        have hg:A.tmps[24]?.getD undef = .bool true:=he 19 (by kernel_rfl)
        refine .inl ⟨wanted_yes (d:=24) rfl (by kernel_rfl) hg,?_⟩
        go_simp
        refine Calls.mono (sameBlocks_any W) ?_
        rintro e' w' ⟨sB,stB,mB,rfl,hE,hb⟩
        exact ⟨_,rfl,⟨sB,stB,mB,rfl,hE⟩,hb⟩
      · injection ho with ho;subst ho
        have hg:A.tmps[24]?.getD undef = .bool true:=he 19 (by kernel_rfl)
        refine .inl ⟨wanted_yes (d:=24) rfl (by kernel_rfl) hg,?_⟩
        have hx:A.tmps[26]?.getD undef=(.slice pt s.threads.length ct):=he 21 (by kernel_rfl)
        have hy:A.tmps[28]?.getD undef=(.slice pt' t.threads.length ct'):=he 23 (by kernel_rfl)
        obtain ⟨sB,stB,mB,hz,hE⟩:closeV (A.tmps[29]?.getD undef) W:=he 24 (by kernel_rfl)
        go_simp
        refine Calls.mono (HB.out sB stB mB W (HP.out.grown hW) hE) ?_
        rintro e' w' ⟨rfl,hb⟩
        exact ⟨_,rfl,rfl,hb⟩
      · injection ho with ho;subst ho
        refine .inl ⟨wanted_free rfl,?_⟩
        have hx:A.tmps[24]?.getD undef=(.bool true):=he 19 (by kernel_rfl)
        have hy:A.tmps[30]?.getD undef=(.bool true):=he 25 (by kernel_rfl)
        go_simp
        exact ⟨rfl,Below.refl _ _⟩
    · intro xs W hW hV
      have ew:xs 26 = .bool true:=hV 26 (by simp)
      have HLW:=Lib.hid ((HP.out.grown hW).low)
      simp only [List.length_cons,List.length_nil,Nat.zero_add,Nat.reduceAdd,List.drop_succ_cons,List.drop_zero,putL,Act.put,List.setIfInBounds_toArray,List.set_cons_zero,List.set_cons_succ,ew]
      clear hV hW ew
      go_wp2_with fail
      go_ret
      exact ⟨rfl,HLW.out⟩
end Go.Proofs.YtbkdappgmcebaaaGreatDoor.Prog
end
