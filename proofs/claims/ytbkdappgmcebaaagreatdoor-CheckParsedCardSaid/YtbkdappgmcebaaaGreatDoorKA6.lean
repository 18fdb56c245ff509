/- Part 7 of the proof: what is used of the texts ExprC, ExprE, ExprH. -/
import Derived.Test.YtbkdappgmcebaaaGreatDoorKA5
import Derived.LoopN
section
namespace Go.Proofs.YtbkdappgmcebaaaGreatDoor.Expr
open Go.RowKit Go.Proofs.YtbkdappgmcebaaaGreatDoor.Mem Go.Lib
def Reads (e0:Ending) (w:World) (e:Ending) (w':World):Prop:=e=e0/\∃ n,w' = w.drewN n
theorem Reads.below {e0 e:Ending} {w w':World} (h:Reads e0 w e w'):Made e0 w e w':=by
  obtain ⟨he,n,rfl⟩:=h;exact ⟨he,drewN_below (Below.refl _ _) n⟩
theorem Tree.drewN {w:World} {t:Tr} {v:Value} (h:Tree w t v) (n:Nat):Tree (w.drewN n) t v:=h.below (drewN_below (Below.refl _ _) n)
theorem quiet_reads {P:Program} {f:FuncId} {args:Array Value} {w:World} {n:Nat} {v:Value}
    (h:Calls P f args (w.drewN n) fun e w'=>Reads (.returned v) (w.drewN n) e w'):Calls P f args (w.drewN n) fun e w''=>e = .returned v/\∃ m,w'' = w.drewN m :=
  Calls.quiet_of (h.mono fun _ _ h=>h)
set_option maxRecDepth 100000 in
theorem depth_any (t:Tr):∀ (m:Nat) (v:Value) (w:World),m<1000->Tree w t v->Calls Tryz.prog 182 #[v,.int .i64 (m:Nat)] w fun e w'=>Reads (.returned (.int .i64 (deepF t m:Nat))) w e w':=by
  induction t with
  | nil =>
    intro m v w _ h
    obtain rfl:=h
    show Calls _ _ _ _ fun e w'=>Reads (.returned (.int .i64 0)) w e w'
    go_enter Tryz.func182,Tryz.ntmps182
    go_wp2_with fail
    go_ret
    exact ⟨rfl,0,(World.drewN_zero _).symm⟩
  | node a l r ihl ihr =>
    intro m v w hm h
    obtain ⟨g,lv,rv,rfl,hg,hl,hr⟩:=h
    obtain ⟨pl,rfl,hpl⟩:=hl.ptr
    obtain ⟨pr,rfl,hpr⟩:=hr.ptr
    clear hpl hpr
    cases m with
    | zero =>
      show Calls _ _ #[.pointer (some ⟨g,0,none⟩),.int .i64 0] _ fun e w'=>Reads (.returned (.int .i64 0)) w e w'
      clear hg hl hr ihl ihr
      go_enter Tryz.func182,Tryz.ntmps182
      go_wp2_with fail
      go_ret
      exact ⟨rfl,0,(World.drewN_zero _).symm⟩
    | succ m =>
      have q6:w.cell? ⟨g,6,none⟩=some (.pointer pl):=hg.cell 6
      have q7:w.cell? ⟨g,7,none⟩=some (.pointer pr):=hg.cell 7
      have hlt:=hg.lt
      have HL:=Lib.hid (fun n=>ihl m (.pointer pl) (w.drewN n) (by omega) (hl.drewN n))
      have HR:=Lib.hid (fun n=>ihr m (.pointer pr) (w.drewN n) (by omega) (hr.drewN n))
      have z0:(((m+1:Nat):Int) == 0)=false:=beq_eq_false_iff_ne.2 (by omega)
      have d1:=deepF_le l m
      have d2:=deepF_le r m
      have E:=Lib.hid (show deepF (.node a l r) (m+1)=1+max (deepF l m) (deepF r m) from rfl)
      clear hg hl hr ihl ihr
      generalize deepF (.node a l r) (m+1)=D at E ⊢
      generalize deepF l m=x at HL E d1 ⊢
      generalize deepF r m=y at HR E d2 ⊢
      have hw:IntKind.i64.wrap (((m+1:Nat):Int) - 1)=(m:Int):=by rw [IntWalk.i64_in _ (by omega)];omega
      have hw2:IntKind.i64.wrap ((m:Int)+1 - 1)=(m:Int):=by rw [IntWalk.i64_in _ (by omega)];omega
      go_enter Tryz.func182,Tryz.ntmps182
      go_wp2_with fail
      go_quiet ((first | (go_at_call_of 182 (Value.pointer pl);exact quiet_reads (HL.out _)) | (go_at_call_of 182 (Value.pointer pr);exact quiet_reads (HR.out _))))
      go_wp2_with fail
      go_ret
      exact ⟨ret_int (by rw [E.out];omega),nq,rfl⟩
def twoBox (w:World) (a b:It):World:=((w.alloc (.cells (exprCells a (.pointer none) (.pointer none)) 171)).alloc (.cells (exprCells b (.pointer none) (.pointer none)) 171)).drew
theorem twoBox_first (w:World) (a b:It):Sits (twoBox w a b) w.heap.size 171 (exprCells a (.pointer none) (.pointer none)):=((Sits.new w _ _).alloc _).drew
theorem twoBox_second (w:World) (a b:It):Sits (twoBox w a b) (w.heap.size+1) 171 (exprCells b (.pointer none) (.pointer none)):=(Sits.made (by simp) _ _).drew
theorem twoBox_low (w:World) (a b:It):Below w.heap.size w (twoBox w a b):=(((Below.refl _ _).alloc (Nat.le_refl _) _).alloc (by simp) _).drew
theorem Sits.allIn {W:World} {g:Nat} {a:It} {lv rv:Value} (h:Sits W g 171 (exprCells a lv rv)) (x:Within (Under W)) :
    x.now.cell? ⟨g,0,none⟩=some (.int .u8 a.kind)/\x.now.cell? ⟨g,1,none⟩=some (.int .u8 a.op)/\x.now.cell? ⟨g,2,none⟩=some (.int .u64 a.n)/\x.now.cell? ⟨g,3,none⟩=some (.int .u8 a.t) /\
    x.now.cell? ⟨g,4,none⟩=some (.int .u8 a.i)/\x.now.cell? ⟨g,5,none⟩=some (.int .u8 a.x)/\x.now.cell? ⟨g,6,none⟩=some lv/\x.now.cell? ⟨g,7,none⟩=some rv :=
  Sits.all8 (h.below x.ok h.lt)
set_option maxRecDepth 100000 in
set_option maxHeartbeats 2000000 in
theorem same_node (k op n t i x k' op' n' t' i' x':Nat) (g g':Nat) (pl pr pl' pr':Option Addr) (bl br:Bool) (w:World)
    (hg:Sits w g 171 (exprCells ⟨k,op,n,t,i,x⟩ (.pointer pl) (.pointer pr))) (hg':Sits w g' 171 (exprCells ⟨k',op',n',t',i',x'⟩ (.pointer pl') (.pointer pr')))
    (HL:Hid (∀ W:World,Below w.heap.size w W->Calls Tryz.prog 145 #[.pointer pl,.pointer pl'] W fun e w'=>Made (.returned (.bool bl)) W e w'))
    (HR:Hid (∀ W:World,Below w.heap.size w W->Calls Tryz.prog 145 #[.pointer pr,.pointer pr'] W fun e w'=>Made (.returned (.bool br)) W e w')) :
    Calls Tryz.prog 145 #[.pointer (some ⟨g,0,none⟩),.pointer (some ⟨g',0,none⟩)] w fun e w'=>Made (.returned (.bool (eqIt ⟨k,op,n,t,i,x⟩ ⟨k',op',n',t',i',x'⟩ && bl && br))) w e w':=by
  obtain ⟨q0,q1,q2,q3,q4,q5,q6,q7⟩:=Sits.all8 hg
  obtain ⟨r0,r1,r2,r3,r4,r5,r6,r7⟩:=Sits.all8 hg'
  simp only at q0 q1 q2 q3 q4 q5 r0 r1 r2 r3 r4 r5
  have hlt:=hg.lt
  have hlt':=hg'.lt
  have hq:∀ W,(binOp .eql 171 (.agg #[.int .u8 k,.int .u8 op,.int .u64 n,.int .u8 t,.int .u8 i,.int .u8 x,.pointer none,.pointer none]) (.agg #[.int .u8 k',.int .u8 op',.int .u64 n',.int .u8 t',.int .u8 i',.int .u8 x',.pointer none,.pointer none])).run Tryz.prog W = .ok (.bool (eqIt ⟨k,op,n,t,i,x⟩ ⟨k',op',n',t',i',x'⟩ && true && true)) W :=
    fun W=>eq_expr ⟨k,op,n,t,i,x⟩ ⟨k',op',n',t',i',x'⟩ none none none none _ _ (ptr_same none) (ptr_same none) W
  cases he:eqIt ⟨k,op,n,t,i,x⟩ ⟨k',op',n',t',i',x'⟩ with
  | false =>
    rw [he] at hq
    clear he HL HR
    go_enter Tryz.func145,Tryz.ntmps145
    go_wp2_with fail
    go_region
    all_goals
      go_wp2_with fail
      go_quiet (fail)
      go_wp2_with fail
      go_ret
      exact ⟨rfl,drewN_below (((Below.refl _ _).alloc (Nat.le_refl _) _).alloc (by simp) _).drew _⟩
  | true =>
    rw [he] at hq
    clear he
    cases bl with
    | false =>
      clear HR
      go_enter Tryz.func145,Tryz.ntmps145
      go_wp2_with fail
      go_region
      · go_wp2_with fail
        change Code.wp _ _ _ _ (twoBox w ⟨k,op,n,t,i,x⟩ ⟨k',op',n',t',i',x'⟩)
        have cA:=Sits.allIn (twoBox_first w ⟨k,op,n,t,i,x⟩ ⟨k',op',n',t',i',x'⟩)
        have cB:=Sits.allIn (twoBox_second w ⟨k,op,n,t,i,x⟩ ⟨k',op',n',t',i',x'⟩)
        have c1:=Sits.allIn (hg.below (twoBox_low w ⟨k,op,n,t,i,x⟩ ⟨k',op',n',t',i',x'⟩) hg.lt)
        have c2:=Sits.allIn (hg'.below (twoBox_low w ⟨k,op,n,t,i,x⟩ ⟨k',op',n',t',i',x'⟩) hg'.lt)
        have HLOW:=Lib.hid (twoBox_low w ⟨k,op,n,t,i,x⟩ ⟨k',op',n',t',i',x'⟩)
        simp only at cA cB c1 c2
        generalize twoBox w ⟨k,op,n,t,i,x⟩ ⟨k',op',n',t',i',x'⟩=W at cA cB c1 c2 HLOW ⊢
        have ne:Nonempty (Within (Under W)):=⟨⟨_,Under.refl W⟩⟩
        refine wp_region_within (Under W) (Under.refl W) (by kernel_rfl) (by kernel_rfl) ?_
        repeat (go_big_quiet_step ((go_at_call 145;exact under_made (HL.out _ (HLOW.out.trans (Below.mono (Within.ok _) HLOW.out.size))))))
        refine wpQuiet_nil ?_
        intro w' hw'
        obtain ⟨y,rfl⟩:=hw'
        have HEND:=Lib.hid (HLOW.out.trans (Below.mono y.ok HLOW.out.size))
        clear cA cB c1 c2
        go_wp2_with fail
        go_ret
        exact ⟨rfl,HEND.out⟩
      · go_wp2_with fail
        change Code.wp _ _ _ _ (twoBox w ⟨k',op',n',t',i',x'⟩ ⟨k,op,n,t,i,x⟩)
        have cA:=Sits.allIn (twoBox_second w ⟨k',op',n',t',i',x'⟩ ⟨k,op,n,t,i,x⟩)
        have cB:=Sits.allIn (twoBox_first w ⟨k',op',n',t',i',x'⟩ ⟨k,op,n,t,i,x⟩)
        have c1:=Sits.allIn (hg.below (twoBox_low w ⟨k',op',n',t',i',x'⟩ ⟨k,op,n,t,i,x⟩) hg.lt)
        have c2:=Sits.allIn (hg'.below (twoBox_low w ⟨k',op',n',t',i',x'⟩ ⟨k,op,n,t,i,x⟩) hg'.lt)
        have HLOW:=Lib.hid (twoBox_low w ⟨k',op',n',t',i',x'⟩ ⟨k,op,n,t,i,x⟩)
        simp only at cA cB c1 c2
        generalize twoBox w ⟨k',op',n',t',i',x'⟩ ⟨k,op,n,t,i,x⟩=W at cA cB c1 c2 HLOW ⊢
        have ne:Nonempty (Within (Under W)):=⟨⟨_,Under.refl W⟩⟩
        refine wp_region_within (Under W) (Under.refl W) (by kernel_rfl) (by kernel_rfl) ?_
        repeat (go_big_quiet_step ((go_at_call 145;exact under_made (HL.out _ (HLOW.out.trans (Below.mono (Within.ok _) HLOW.out.size))))))
        refine wpQuiet_nil ?_
        intro w' hw'
        obtain ⟨y,rfl⟩:=hw'
        have HEND:=Lib.hid (HLOW.out.trans (Below.mono y.ok HLOW.out.size))
        clear cA cB c1 c2
        go_wp2_with fail
        go_ret
        exact ⟨rfl,HEND.out⟩
    | true =>
      go_enter Tryz.func145,Tryz.ntmps145
      go_wp2_with fail
      go_region
      · go_wp2_with fail
        change Code.wp _ _ _ _ (twoBox w ⟨k,op,n,t,i,x⟩ ⟨k',op',n',t',i',x'⟩)
        have cA:=Sits.allIn (twoBox_first w ⟨k,op,n,t,i,x⟩ ⟨k',op',n',t',i',x'⟩)
        have cB:=Sits.allIn (twoBox_second w ⟨k,op,n,t,i,x⟩ ⟨k',op',n',t',i',x'⟩)
        have c1:=Sits.allIn (hg.below (twoBox_low w ⟨k,op,n,t,i,x⟩ ⟨k',op',n',t',i',x'⟩) hg.lt)
        have c2:=Sits.allIn (hg'.below (twoBox_low w ⟨k,op,n,t,i,x⟩ ⟨k',op',n',t',i',x'⟩) hg'.lt)
        have HLOW:=Lib.hid (twoBox_low w ⟨k,op,n,t,i,x⟩ ⟨k',op',n',t',i',x'⟩)
        simp only at cA cB c1 c2
        generalize twoBox w ⟨k,op,n,t,i,x⟩ ⟨k',op',n',t',i',x'⟩=W at cA cB c1 c2 HLOW ⊢
        have ne:Nonempty (Within (Under W)):=⟨⟨_,Under.refl W⟩⟩
        refine wp_region_within (Under W) (Under.refl W) (by kernel_rfl) (by kernel_rfl) ?_
        repeat (go_big_quiet_step (first | (go_at_call_of 145 (Value.pointer pl);exact under_made (HL.out _ (HLOW.out.trans (Below.mono (Within.ok _) HLOW.out.size)))) | (go_at_call_of 145 (Value.pointer pr);exact under_made (HR.out _ (HLOW.out.trans (Below.mono (Within.ok _) HLOW.out.size))))))
        refine wpQuiet_nil ?_
        intro w' hw'
        obtain ⟨y,rfl⟩:=hw'
        have HEND:=Lib.hid (HLOW.out.trans (Below.mono y.ok HLOW.out.size))
        clear cA cB c1 c2
        go_wp2_with fail
        go_ret
        exact ⟨rfl,HEND.out⟩
      · go_wp2_with fail
        change Code.wp _ _ _ _ (twoBox w ⟨k',op',n',t',i',x'⟩ ⟨k,op,n,t,i,x⟩)
        have cA:=Sits.allIn (twoBox_second w ⟨k',op',n',t',i',x'⟩ ⟨k,op,n,t,i,x⟩)
        have cB:=Sits.allIn (twoBox_first w ⟨k',op',n',t',i',x'⟩ ⟨k,op,n,t,i,x⟩)
        have c1:=Sits.allIn (hg.below (twoBox_low w ⟨k',op',n',t',i',x'⟩ ⟨k,op,n,t,i,x⟩) hg.lt)
        have c2:=Sits.allIn (hg'.below (twoBox_low w ⟨k',op',n',t',i',x'⟩ ⟨k,op,n,t,i,x⟩) hg'.lt)
        have HLOW:=Lib.hid (twoBox_low w ⟨k',op',n',t',i',x'⟩ ⟨k,op,n,t,i,x⟩)
        simp only at cA cB c1 c2
        generalize twoBox w ⟨k',op',n',t',i',x'⟩ ⟨k,op,n,t,i,x⟩=W at cA cB c1 c2 HLOW ⊢
        have ne:Nonempty (Within (Under W)):=⟨⟨_,Under.refl W⟩⟩
        refine wp_region_within (Under W) (Under.refl W) (by kernel_rfl) (by kernel_rfl) ?_
        repeat (go_big_quiet_step (first | (go_at_call_of 145 (Value.pointer pl);exact under_made (HL.out _ (HLOW.out.trans (Below.mono (Within.ok _) HLOW.out.size)))) | (go_at_call_of 145 (Value.pointer pr);exact under_made (HR.out _ (HLOW.out.trans (Below.mono (Within.ok _) HLOW.out.size))))))
        refine wpQuiet_nil ?_
        intro w' hw'
        obtain ⟨y,rfl⟩:=hw'
        have HEND:=Lib.hid (HLOW.out.trans (Below.mono y.ok HLOW.out.size))
        clear cA cB c1 c2
        go_wp2_with fail
        go_ret
        exact ⟨rfl,HEND.out⟩
theorem eq_node (a b:It) (l r l' r':Tr):decide (Tr.node a l r=Tr.node b l' r')=(eqIt a b && decide (l=l') && decide (r=r')):=by
  by_cases h1:a=b <;> by_cases h2:l=l' <;> by_cases h3:r=r' <;> simp [eqIt,h1,h2,h3]
theorem nil_eq (a:Addr) (W:World):(binOp .eql 25 (.pointer none) (.pointer (some a))).run Tryz.prog W = .ok (.bool false) W:=by
  have h:∀ d:Nat,(Op.equalIn (d+1) 25 (.pointer none) (.pointer (some a))).run Tryz.prog W = .ok false W:=fun d=>by
    simp [Op.equalIn,run_underlying Tryz.underlying25]
  simp only [binOp]
  simp [Op.equal,Op.maxDepth,h 9999]
set_option maxRecDepth 100000 in
theorem same_any (s:Tr):∀ (t:Tr) (u v:Value) (w:World),Tree w s u->Tree w t v->Calls Tryz.prog 145 #[u,v] w fun e w'=>Made (.returned (.bool (decide (s=t)))) w e w':=by
  induction s with
  | nil =>
    intro t u v w hs ht
    obtain rfl:=hs
    cases t with
    | nil =>
      obtain rfl:=ht
      show Calls _ _ _ _ fun e w'=>Made (.returned (.bool true)) w e w'
      go_enter Tryz.func145,Tryz.ntmps145
      go_wp2_with fail
      go_ret
      exact ⟨rfl,Below.refl _ _⟩
    | node b l r =>
      obtain ⟨g,lv,rv,rfl,_⟩:=ht
      show Calls _ _ _ _ fun e w'=>Made (.returned (.bool false)) w e w'
      have hn:=nil_eq ⟨g,0,none⟩
      go_enter Tryz.func145,Tryz.ntmps145
      go_wp2_with fail
      go_ret
      exact ⟨rfl,Below.refl _ _⟩
  | node a l r ihl ihr =>
    intro t u v w hs ht
    obtain ⟨g,lv,rv,rfl,hg,hl,hr⟩:=hs
    cases t with
    | nil =>
      obtain rfl:=ht
      show Calls _ _ _ _ fun e w'=>Made (.returned (.bool false)) w e w'
      clear hg hl hr ihl ihr
      go_enter Tryz.func145,Tryz.ntmps145
      go_wp2_with fail
      go_ret
      exact ⟨rfl,Below.refl _ _⟩
    | node b l' r' =>
      obtain ⟨g',lv',rv',rfl,hg',hl',hr'⟩:=ht
      obtain ⟨pl,rfl,_⟩:=hl.ptr
      obtain ⟨pr,rfl,_⟩:=hr.ptr
      obtain ⟨pl',rfl,_⟩:=hl'.ptr
      obtain ⟨pr',rfl,_⟩:=hr'.ptr
      rw [eq_node]
      obtain ⟨k,op,n,t,i,x⟩:=a
      obtain ⟨k',op',n',t',i',x'⟩:=b
      exact same_node k op n t i x k' op' n' t' i' x' g g' pl pr pl' pr' _ _ w hg hg' (Lib.hid fun W hb=>ihl l' _ _ W (hl.below hb) (hl'.below hb)) (Lib.hid fun W hb=>ihr r' _ _ W (hr.below hb) (hr'.below hb))
theorem Same_any (s t:Tr) (u v:Value) (w:World) (hs:Tree w s u) (ht:Tree w t v):Calls Tryz.prog 93 #[u,v] w fun e w'=>Made (.returned (.bool (fitsF s 12 && decide (s=t)))) w e w':=by
  have HM:=Lib.hid (may_any s u w hs)
  have HS:=Lib.hid (fun (W:World) (hb:Below w.heap.size w W)=>same_any s t u v W (hs.below hb) (ht.below hb))
  obtain ⟨p,rfl,_⟩:=hs.ptr
  obtain ⟨q,rfl,_⟩:=ht.ptr
  clear hs ht
  generalize decide (s=t)=b at HS ⊢
  cases hf:fitsF s 12
  · rw [hf] at HM
    clear hf HS
    go_enter Tryz.func93,Tryz.ntmps93
    go_wp2_with fail
    refine HM.out.mono ?_
    rintro e w1 ⟨rfl,hb⟩
    have HB:=Lib.hid hb;clear hb
    go_wp2_with fail
    go_ret
    exact ⟨rfl,HB.out⟩
  · rw [hf] at HM
    clear hf
    go_enter Tryz.func93,Tryz.ntmps93
    go_wp2_with fail
    refine HM.out.mono ?_
    rintro e w1 ⟨rfl,hb⟩
    have HB:=Lib.hid hb;clear hb
    go_wp2_with fail
    refine (HS.out _ HB.out).mono ?_
    rintro e w2 ⟨rfl,hb⟩
    have HB2:=Lib.hid (HB.out.trans (hb.mono HB.out.size));clear hb
    go_wp2_with fail
    go_ret
    exact ⟨rfl,HB2.out⟩
theorem Depth_any (t:Tr) (v:Value) (w:World) (h:Tree w t v):Calls Tryz.prog 138 #[v] w fun e w'=>Made (.returned (.int .i64 (deepF t 13:Nat))) w e w':=by
  have H:=Lib.hid (depth_any t 13 v w (by omega) h)
  obtain ⟨p,rfl,_⟩:=h.ptr
  clear h
  go_enter Tryz.func138,Tryz.ntmps138
  go_wp2_with fail
  refine H.out.mono ?_
  rintro e w1 hr
  obtain ⟨rfl,hb⟩:=Reads.below hr
  have HB:=Lib.hid hb;clear hb hr
  go_wp2_with fail
  go_ret
  exact ⟨rfl,HB.out⟩
end Go.Proofs.YtbkdappgmcebaaaGreatDoor.Expr
end
section
namespace Go.Proofs.YtbkdappgmcebaaaGreatDoor.Expr
open Go.RowKit Go.Proofs.YtbkdappgmcebaaaGreatDoor.Mem Go.Lib
section
variable (l : List It) (k f : Nat) (v : Value) (w : World)
end
theorem nat_beq (a b:Nat):((a:Int) == (b:Int))=decide (a=b):=by
  by_cases h:a=b
  · subst h;simp
  · rw [beq_eq_false_iff_ne.2 (by omega)];simp [h]
end Go.Proofs.YtbkdappgmcebaaaGreatDoor.Expr
end
section
namespace Go.Proofs.YtbkdappgmcebaaaGreatDoor.Expr
open Go.RowKit Go.Proofs.YtbkdappgmcebaaaGreatDoor.Mem Go.Lib
def Enters (F:FuncId):Prop:=∀ (args:Array Value) (W:World),(callFunc F args).run Tryz.prog W = .ok (.enter F args) W
def Done (I:World->Prop) (w:World) (e:Ending) (w':World):Prop:=e = .returned (.tuple #[])/\I w' /\ Stable 171 w w'
structure Tells {σ:Type} (F1 F2:FuncId) (f1 c1 f2 c2:Array Value) (R:Ex->σ->σ) (I:σ->World->Prop) (B:σ->Ex->Prop):Prop where
  e1:Enters F1
  e2:Enters F2
  leaf:∀ (e:Ex) (s:σ) (w:World),e.isLeaf=true->e.ok->B s e->I s w->Calls Tryz.prog F1 (f1.push (leafVal e) ++ c1) w (Done (I (R e s)) w)
  one:∀ (op:Nat) (a:Ex) (s:σ) (w:World),(op=13 \/ op=14)->a.ok->B s (.one op a)->I (R a s) w->Calls Tryz.prog F2 (f2.push (.int .u8 (op:Nat)) ++ c2) w (Done (I (R (.one op a) s)) w)
  two:∀ (op:Nat) (a b:Ex) (s:σ) (w:World),1<=op->op<=12->a.ok->b.ok->B s (.two op a b)->I (R b (R a s)) w->Calls Tryz.prog F2 (f2.push (.int .u8 (op:Nat)) ++ c2) w (Done (I (R (.two op a b) s)) w)
  inOne:∀ (op:Nat) (a:Ex) (s:σ),B s (.one op a)->B s a
  inTwo:∀ (op:Nat) (a b:Ex) (s:σ),B s (.two op a b)->B s a/\B (R a s) b
theorem leaf_tree {e:Ex} (he:e.isLeaf=true):treeOf e = .node (leafIt e) .nil .nil/\(leafIt e).kind<4:=by
  cases e with
  | one op a=>cases he
  | two op a b=>cases he
  | _=>exact ⟨rfl,by simp [leafIt]⟩
section
variable {σ : Type} {F1 F2 : FuncId} {f1 c1 f2 c2 : Array Value} {R : Ex → σ → σ} {I : σ → World → Prop} {B : σ → Ex → Prop}
theorem tell_leaf (T:Tells F1 F2 f1 c1 f2 c2 R I B) (e:Ex) (he:e.isLeaf=true) (ho:e.ok) (s:σ) (hB:B s e) (v:Value) (w:World) (hT:Tree w (treeOf e) v) (hI:I s w) :
    Calls Tryz.prog 167 #[v,.func (.func F1) f1 c1,.func (.func F2) f2 c2] w (Done (I (R e s)) w):=by
  obtain ⟨ht,hk⟩:=leaf_tree he
  rw [ht] at hT
  obtain ⟨g,lv,rv,rfl,hg,rfl,rfl⟩:=hT
  have H:=Lib.hid (T.leaf e s w he ho hB hI)
  unfold leafVal exprCells at H
  have e1:=T.e1
  unfold Enters at e1
  generalize I (R e s)=J at H ⊢
  generalize leafIt e=it at *
  obtain ⟨q,op,n,t,i,x⟩:=it
  obtain ⟨q0,q1,q2,q3,q4,q5,q6,q7⟩:=Sits.all8 hg
  simp only at q0 q1 q2 q3 q4 q5 hk
  have hlt:=hg.lt
  have i4:((q:Int) == 4)=false:=beq_eq_false_iff_ne.2 (by omega)
  have i5:((q:Int) == 5)=false:=beq_eq_false_iff_ne.2 (by omega)
  clear hg ht hI hB T ho he hk
  go_enter Tryz.func167,Tryz.ntmps167
  go_wp2_with fail
  refine H.out.mono ?_
  rintro e w1 ⟨rfl,hj,hs⟩
  have HJ:=Lib.hid hj
  have HS:=Lib.hid hs
  clear hj hs
  go_wp2_with fail
  go_end0
  exact ⟨rfl,HJ.out,HS.out⟩
theorem tell_one (e2:Enters F2) (op:Nat) (t:Tr) (v:Value) (w:World) (hT:Tree w (.node ⟨4,op,0,0,0,0⟩ t .nil) v) (J J2:World->Prop)
    (ih:∀ p,Tree w t p->Calls Tryz.prog 167 #[p,.func (.func F1) f1 c1,.func (.func F2) f2 c2] w (Done J w))
    (hop:∀ w1,J w1->Calls Tryz.prog F2 (f2.push (.int .u8 (op:Nat)) ++ c2) w1 (Done J2 w1)) :
    Calls Tryz.prog 167 #[v,.func (.func F1) f1 c1,.func (.func F2) f2 c2] w (Done J2 w):=by
  obtain ⟨g,lv,rv,rfl,hg,hl,rfl⟩:=hT
  obtain ⟨pl,rfl,_⟩:=hl.ptr
  have IH:=Lib.hid (ih _ hl)
  have HO:=Lib.hid hop
  have HG:=Lib.hid hg
  unfold Enters at e2
  obtain ⟨q0,q1,q2,q3,q4,q5,q6,q7⟩:=Sits.all8 hg
  simp only at q0 q1 q2 q3 q4 q5
  have hlt:=hg.lt
  clear hg hl ih hop
  go_enter Tryz.func167,Tryz.ntmps167
  go_wp2_with fail
  refine IH.out.mono ?_
  rintro e w1 ⟨rfl,hj,hs⟩
  have S1:=hs _ _ HG.out
  have r1:w1.cell? ⟨g,1,none⟩=some (.int .u8 op):=S1.cell 1
  have hlt1:=S1.lt
  have HJ:=Lib.hid hj
  have HS:=Lib.hid hs
  clear hj hs S1 q0 q1 q2 q3 q4 q5 q6 q7 hlt
  go_wp2_with fail
  refine (HO.out _ HJ.out).mono ?_
  rintro e w2 ⟨rfl,hj,hs⟩
  have HJ2:=Lib.hid hj
  have HS2:=Lib.hid (HS.out.trans hs)
  clear hj hs
  go_wp2_with fail
  go_end0
  exact ⟨rfl,HJ2.out,HS2.out⟩
theorem tell_two (e2:Enters F2) (op:Nat) (t u:Tr) (v:Value) (w:World) (hT:Tree w (.node ⟨5,op,0,0,0,0⟩ t u) v) (J J1 J2:World->Prop)
    (ih:∀ p,Tree w t p->Calls Tryz.prog 167 #[p,.func (.func F1) f1 c1,.func (.func F2) f2 c2] w (Done J w))
    (ih2:∀ p w1,J w1->Tree w1 u p->Calls Tryz.prog 167 #[p,.func (.func F1) f1 c1,.func (.func F2) f2 c2] w1 (Done J1 w1))
    (hop:∀ w1,J1 w1->Calls Tryz.prog F2 (f2.push (.int .u8 (op:Nat)) ++ c2) w1 (Done J2 w1)) :
    Calls Tryz.prog 167 #[v,.func (.func F1) f1 c1,.func (.func F2) f2 c2] w (Done J2 w):=by
  obtain ⟨g,lv,rv,rfl,hg,hl,hr⟩:=hT
  obtain ⟨pl,rfl,_⟩:=hl.ptr
  obtain ⟨pr,rfl,_⟩:=hr.ptr
  have IH:=Lib.hid (ih _ hl)
  have IH2:=Lib.hid (fun w1 (hj:J w1) (hs:Stable 171 w w1)=>ih2 _ w1 hj (hr.stable hs))
  have HO:=Lib.hid hop
  have HG:=Lib.hid hg
  unfold Enters at e2
  obtain ⟨q0,q1,q2,q3,q4,q5,q6,q7⟩:=Sits.all8 hg
  simp only at q0 q1 q2 q3 q4 q5
  have hlt:=hg.lt
  clear hg hl hr ih ih2 hop
  go_enter Tryz.func167,Tryz.ntmps167
  go_wp2_with fail
  refine IH.out.mono ?_
  rintro e w1 ⟨rfl,hj,hs⟩
  have S1:=hs _ _ HG.out
  have r7:w1.cell? ⟨g,7,none⟩=some (.pointer pr):=S1.cell 7
  have hlt1:=S1.lt
  have HS1:=Lib.hid S1
  have HJ:=Lib.hid hj
  have HS:=Lib.hid hs
  clear hj hs S1 q0 q1 q2 q3 q4 q5 q6 q7 hlt
  go_wp2_with fail
  refine (IH2.out _ HJ.out HS.out).mono ?_
  rintro e w2 ⟨rfl,hj,hs⟩
  have S2:=hs _ _ HS1.out
  have r1:w2.cell? ⟨g,1,none⟩=some (.int .u8 op):=S2.cell 1
  have hlt2:=S2.lt
  have HJ2:=Lib.hid hj
  have HS2:=Lib.hid (HS.out.trans hs)
  clear hj hs S2 r7 hlt1
  go_wp2_with fail
  refine (HO.out _ HJ2.out).mono ?_
  rintro e w3 ⟨rfl,hj,hs⟩
  have HJ3:=Lib.hid hj
  have HS3:=Lib.hid (HS2.out.trans hs)
  clear hj hs
  go_wp2_with fail
  go_end0
  exact ⟨rfl,HJ3.out,HS3.out⟩
theorem tell_any (T:Tells F1 F2 f1 c1 f2 c2 R I B) (e:Ex):∀ (s:σ) (v:Value) (w:World),e.ok->B s e->Tree w (treeOf e) v->I s w ->
    Calls Tryz.prog 167 #[v,.func (.func F1) f1 c1,.func (.func F2) f2 c2] w (Done (I (R e s)) w):=by
  induction e with
  | one op a ih =>
    intro s v w ho hB hT hI
    exact tell_one T.e2 op (treeOf a) v w hT _ _ (fun p hp=>ih s p w ho.2 (T.inOne op a s hB) hp hI) fun w1 h1=>T.one op a s w1 ho.1 ho.2 hB h1
  | two op a b iha ihb =>
    intro s v w ho hB hT hI
    obtain ⟨ba,bb⟩:=T.inTwo op a b s hB
    exact tell_two T.e2 op (treeOf a) (treeOf b) v w hT _ _ _ (fun p hp=>iha s p w ho.2.2.1 ba hp hI) (fun p w1 h1 hp=>ihb _ p w1 ho.2.2.2 bb hp h1) fun w1 h1=>T.two op a b s w1 ho.1 ho.2.1 ho.2.2.1 ho.2.2.2 hB h1
  | num n=>intro s v w ho hB hT hI;exact tell_leaf T _ rfl ho s hB v w hT hI
  | reg n=>intro s v w ho hB hT hI;exact tell_leaf T _ rfl ho s hB v w hT hI
  | of n m=>intro s v w ho hB hT hI;exact tell_leaf T _ rfl ho s hB v w hT hI
  | loc n=>intro s v w ho hB hT hI;exact tell_leaf T _ rfl ho s hB v w hT hI
theorem walk_not (t:Tr) (x y v:Value) (w:World) (hT:Tree w t v) (hf:fitsF t 12=false):Calls Tryz.prog 128 #[v,x,y] w fun e w'=>Made (.returned (.tuple #[])) w e w':=by
  have HM:=may_any t v w hT
  rw [hf] at HM
  have HH:=Lib.hid HM
  obtain ⟨p,rfl,_⟩:=hT.ptr
  clear HM hT hf
  go_enter Tryz.func128,Tryz.ntmps128
  go_wp2_with fail
  refine HH.out.mono ?_
  rintro e w1 ⟨rfl,hb⟩
  have HB:=Lib.hid hb;clear hb
  go_wp2_with fail
  go_end0
  exact ⟨rfl,HB.out⟩
theorem walk_any (T:Tells F1 F2 f1 c1 f2 c2 R I B) (hIb:∀ s w w',I s w->Below w.heap.size w w' -> I s w') (e:Ex) (s:σ) (v:Value) (w:World) (ho:e.ok) (hd:e.depth<=12) (hB:B s e) (hT:Tree w (treeOf e) v) (hI:I s w) :
    Calls Tryz.prog 128 #[v,.func (.func F1) f1 c1,.func (.func F2) f2 c2] w (Done (I (R e s)) w):=by
  have HM:=may_any _ v w hT
  rw [fits_of e ho 12 hd] at HM
  have HH:=Lib.hid HM
  have IH:=Lib.hid (fun w1 (hb:Below w.heap.size w w1)=>tell_any T e s v w1 ho hB (hT.below hb) (hIb s w w1 hI hb))
  obtain ⟨p,rfl,_⟩:=hT.ptr
  clear HM hT hI hIb T hB
  generalize I (R e s)=J at IH ⊢
  go_enter Tryz.func128,Tryz.ntmps128
  go_wp2_with fail
  refine HH.out.mono ?_
  rintro e w1 ⟨rfl,hb⟩
  have HB:=Lib.hid hb;clear hb
  go_wp2_with fail
  refine (IH.out _ HB.out).mono ?_
  rintro e w2 ⟨rfl,hj,hs⟩
  have HJ:=Lib.hid hj
  have HS:=Lib.hid ((Stable.below (t:=171) HB.out).trans hs)
  clear hj hs
  go_wp2_with fail
  go_end0
  exact ⟨rfl,HJ.out,HS.out⟩
end
end Go.Proofs.YtbkdappgmcebaaaGreatDoor.Expr
end
