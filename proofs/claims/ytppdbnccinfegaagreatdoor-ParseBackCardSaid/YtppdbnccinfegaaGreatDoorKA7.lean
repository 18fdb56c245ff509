/- Part 8 of the proof: what is used of the texts ExprC, ExprD. -/
import Derived.Test.YtppdbnccinfegaaGreatDoorKA6
section
namespace Go.Proofs.YtppdbnccinfegaaGreatDoor.Expr
open Go.RowKit Go.Proofs.YtppdbnccinfegaaGreatDoor.Mem Go.Lib
def Reads (e0:Ending) (w:World) (e:Ending) (w':World):Prop:=e=e0/\∃ n,w' = w.drewN n
theorem Reads.below {e0 e:Ending} {w w':World} (h:Reads e0 w e w'):Made e0 w e w':=by
  obtain ⟨he,n,rfl⟩:=h;exact ⟨he,drewN_below (Below.refl _ _) n⟩
theorem Tree.drewN {w:World} {t:Tr} {v:Value} (h:Tree w t v) (n:Nat):Tree (w.drewN n) t v:=h.below (drewN_below (Below.refl _ _) n)
theorem quiet_reads {P:Program} {f:FuncId} {args:Array Value} {w:World} {n:Nat} {v:Value}
    (h:Calls P f args (w.drewN n) fun e w'=>Reads (.returned v) (w.drewN n) e w'):Calls P f args (w.drewN n) fun e w''=>e = .returned v/\∃ m,w'' = w.drewN m :=
  Calls.quiet_of (h.mono fun _ _ h=>h)
set_option maxRecDepth 100000 in
theorem depth_any (t:Tr):∀ (m:Nat) (v:Value) (w:World),m<1000->Tree w t v->Calls Tryz.prog 313 #[v,.int .i64 (m:Nat)] w fun e w'=>Reads (.returned (.int .i64 (deepF t m:Nat))) w e w':=by
  induction t with
  | nil =>
    intro m v w _ h
    obtain rfl:=h
    show Calls _ _ _ _ fun e w'=>Reads (.returned (.int .i64 0)) w e w'
    go_enter Tryz.func313,Tryz.ntmps313
    go_wp2_with fail
    go_ret
    exact ⟨rfl,0,(World.drewN_zero _).symm⟩
  | node a l r ihl ihr =>
    intro m v w hm h
    obtain ⟨g,lv,rv,rfl,hg,hl,hr⟩:=h
    obtain ⟨pl,rfl,hpl⟩:=hl.ptr
    obtain ⟨pr,rfl,hpr⟩:=hr.ptr
    clear hpl hpr
    cases m with
    | zero =>
      show Calls _ _ #[.pointer (some ⟨g,0,none⟩),.int .i64 0] _ fun e w'=>Reads (.returned (.int .i64 0)) w e w'
      clear hg hl hr ihl ihr
      go_enter Tryz.func313,Tryz.ntmps313
      go_wp2_with fail
      go_ret
      exact ⟨rfl,0,(World.drewN_zero _).symm⟩
    | succ m =>
      have q6:w.cell? ⟨g,6,none⟩=some (.pointer pl):=hg.cell 6
      have q7:w.cell? ⟨g,7,none⟩=some (.pointer pr):=hg.cell 7
      have hlt:=hg.lt
      have HL:=Lib.hid (fun n=>ihl m (.pointer pl) (w.drewN n) (by omega) (hl.drewN n))
      have HR:=Lib.hid (fun n=>ihr m (.pointer pr) (w.drewN n) (by omega) (hr.drewN n))
      have z0:(((m+1:Nat):Int) == 0)=false:=beq_eq_false_iff_ne.2 (by omega)
      have d1:=deepF_le l m
      have d2:=deepF_le r m
      have E:=Lib.hid (show deepF (.node a l r) (m+1)=1+max (deepF l m) (deepF r m) from rfl)
      clear hg hl hr ihl ihr
      generalize deepF (.node a l r) (m+1)=D at E ⊢
      generalize deepF l m=x at HL E d1 ⊢
      generalize deepF r m=y at HR E d2 ⊢
      have hw:IntKind.i64.wrap (((m+1:Nat):Int) - 1)=(m:Int):=by rw [IntWalk.i64_in _ (by omega)];omega
      have hw2:IntKind.i64.wrap ((m:Int)+1 - 1)=(m:Int):=by rw [IntWalk.i64_in _ (by omega)];omega
      go_enter Tryz.func313,Tryz.ntmps313
      go_wp2_with fail
      go_quiet ((first | (go_at_call_of 313 (Value.pointer pl);exact quiet_reads (HL.out _)) | (go_at_call_of 313 (Value.pointer pr);exact quiet_reads (HR.out _))))
      go_wp2_with fail
      go_ret
      exact ⟨ret_int (by rw [E.out];omega),nq,rfl⟩
def twoBox (w:World) (a b:It):World:=((w.alloc (.cells (exprCells a (.pointer none) (.pointer none)) 297)).alloc (.cells (exprCells b (.pointer none) (.pointer none)) 297)).drew
theorem twoBox_first (w:World) (a b:It):Sits (twoBox w a b) w.heap.size 297 (exprCells a (.pointer none) (.pointer none)):=((Sits.new w _ _).alloc _).drew
theorem twoBox_second (w:World) (a b:It):Sits (twoBox w a b) (w.heap.size+1) 297 (exprCells b (.pointer none) (.pointer none)):=(Sits.made (by simp) _ _).drew
theorem twoBox_low (w:World) (a b:It):Below w.heap.size w (twoBox w a b):=(((Below.refl _ _).alloc (Nat.le_refl _) _).alloc (by simp) _).drew
theorem Sits.allIn {W:World} {g:Nat} {a:It} {lv rv:Value} (h:Sits W g 297 (exprCells a lv rv)) (x:Within (Under W)) :
    x.now.cell? ⟨g,0,none⟩=some (.int .u8 a.kind)/\x.now.cell? ⟨g,1,none⟩=some (.int .u8 a.op)/\x.now.cell? ⟨g,2,none⟩=some (.int .u64 a.n)/\x.now.cell? ⟨g,3,none⟩=some (.int .u8 a.t) /\
    x.now.cell? ⟨g,4,none⟩=some (.int .u8 a.i)/\x.now.cell? ⟨g,5,none⟩=some (.int .u8 a.x)/\x.now.cell? ⟨g,6,none⟩=some lv/\x.now.cell? ⟨g,7,none⟩=some rv :=
  Sits.all8 (h.below x.ok h.lt)
set_option maxRecDepth 100000 in
set_option maxHeartbeats 2000000 in
theorem same_node (k op n t i x k' op' n' t' i' x':Nat) (g g':Nat) (pl pr pl' pr':Option Addr) (bl br:Bool) (w:World)
    (hg:Sits w g 297 (exprCells ⟨k,op,n,t,i,x⟩ (.pointer pl) (.pointer pr))) (hg':Sits w g' 297 (exprCells ⟨k',op',n',t',i',x'⟩ (.pointer pl') (.pointer pr')))
    (HL:Hid (∀ W:World,Below w.heap.size w W->Calls Tryz.prog 245 #[.pointer pl,.pointer pl'] W fun e w'=>Made (.returned (.bool bl)) W e w'))
    (HR:Hid (∀ W:World,Below w.heap.size w W->Calls Tryz.prog 245 #[.pointer pr,.pointer pr'] W fun e w'=>Made (.returned (.bool br)) W e w')) :
    Calls Tryz.prog 245 #[.pointer (some ⟨g,0,none⟩),.pointer (some ⟨g',0,none⟩)] w fun e w'=>Made (.returned (.bool (eqIt ⟨k,op,n,t,i,x⟩ ⟨k',op',n',t',i',x'⟩ && bl && br))) w e w':=by
  obtain ⟨q0,q1,q2,q3,q4,q5,q6,q7⟩:=Sits.all8 hg
  obtain ⟨r0,r1,r2,r3,r4,r5,r6,r7⟩:=Sits.all8 hg'
  simp only at q0 q1 q2 q3 q4 q5 r0 r1 r2 r3 r4 r5
  have hlt:=hg.lt
  have hlt':=hg'.lt
  have hq:∀ W,(binOp .eql 297 (.agg #[.int .u8 k,.int .u8 op,.int .u64 n,.int .u8 t,.int .u8 i,.int .u8 x,.pointer none,.pointer none]) (.agg #[.int .u8 k',.int .u8 op',.int .u64 n',.int .u8 t',.int .u8 i',.int .u8 x',.pointer none,.pointer none])).run Tryz.prog W = .ok (.bool (eqIt ⟨k,op,n,t,i,x⟩ ⟨k',op',n',t',i',x'⟩ && true && true)) W :=
    fun W=>eq_expr ⟨k,op,n,t,i,x⟩ ⟨k',op',n',t',i',x'⟩ none none none none _ _ (ptr_same none) (ptr_same none) W
  cases he:eqIt ⟨k,op,n,t,i,x⟩ ⟨k',op',n',t',i',x'⟩ with
  | false =>
    rw [he] at hq
    clear he HL HR
    go_enter Tryz.func245,Tryz.ntmps245
    go_wp2_with fail
    go_region
    all_goals
      go_wp2_with fail
      go_quiet (fail)
      go_wp2_with fail
      go_ret
      exact ⟨rfl,drewN_below (((Below.refl _ _).alloc (Nat.le_refl _) _).alloc (by simp) _).drew _⟩
  | true =>
    rw [he] at hq
    clear he
    cases bl with
    | false =>
      clear HR
      go_enter Tryz.func245,Tryz.ntmps245
      go_wp2_with fail
      go_region
      · go_wp2_with fail
        change Code.wp _ _ _ _ (twoBox w ⟨k,op,n,t,i,x⟩ ⟨k',op',n',t',i',x'⟩)
        have cA:=Sits.allIn (twoBox_first w ⟨k,op,n,t,i,x⟩ ⟨k',op',n',t',i',x'⟩)
        have cB:=Sits.allIn (twoBox_second w ⟨k,op,n,t,i,x⟩ ⟨k',op',n',t',i',x'⟩)
        have c1:=Sits.allIn (hg.below (twoBox_low w ⟨k,op,n,t,i,x⟩ ⟨k',op',n',t',i',x'⟩) hg.lt)
        have c2:=Sits.allIn (hg'.below (twoBox_low w ⟨k,op,n,t,i,x⟩ ⟨k',op',n',t',i',x'⟩) hg'.lt)
        have HLOW:=Lib.hid (twoBox_low w ⟨k,op,n,t,i,x⟩ ⟨k',op',n',t',i',x'⟩)
        simp only at cA cB c1 c2
        generalize twoBox w ⟨k,op,n,t,i,x⟩ ⟨k',op',n',t',i',x'⟩=W at cA cB c1 c2 HLOW ⊢
        have ne:Nonempty (Within (Under W)):=⟨⟨_,Under.refl W⟩⟩
        refine wp_region_within (Under W) (Under.refl W) (by kernel_rfl) (by kernel_rfl) ?_
        repeat (go_big_quiet_step ((go_at_call 245;exact under_made (HL.out _ (HLOW.out.trans (Below.mono (Within.ok _) HLOW.out.size))))))
        refine wpQuiet_nil ?_
        intro w' hw'
        obtain ⟨y,rfl⟩:=hw'
        have HEND:=Lib.hid (HLOW.out.trans (Below.mono y.ok HLOW.out.size))
        clear cA cB c1 c2
        go_wp2_with fail
        go_ret
        exact ⟨rfl,HEND.out⟩
      · go_wp2_with fail
        change Code.wp _ _ _ _ (twoBox w ⟨k',op',n',t',i',x'⟩ ⟨k,op,n,t,i,x⟩)
        have cA:=Sits.allIn (twoBox_second w ⟨k',op',n',t',i',x'⟩ ⟨k,op,n,t,i,x⟩)
        have cB:=Sits.allIn (twoBox_first w ⟨k',op',n',t',i',x'⟩ ⟨k,op,n,t,i,x⟩)
        have c1:=Sits.allIn (hg.below (twoBox_low w ⟨k',op',n',t',i',x'⟩ ⟨k,op,n,t,i,x⟩) hg.lt)
        have c2:=Sits.allIn (hg'.below (twoBox_low w ⟨k',op',n',t',i',x'⟩ ⟨k,op,n,t,i,x⟩) hg'.lt)
        have HLOW:=Lib.hid (twoBox_low w ⟨k',op',n',t',i',x'⟩ ⟨k,op,n,t,i,x⟩)
        simp only at cA cB c1 c2
        generalize twoBox w ⟨k',op',n',t',i',x'⟩ ⟨k,op,n,t,i,x⟩=W at cA cB c1 c2 HLOW ⊢
        have ne:Nonempty (Within (Under W)):=⟨⟨_,Under.refl W⟩⟩
        refine wp_region_within (Under W) (Under.refl W) (by kernel_rfl) (by kernel_rfl) ?_
        repeat (go_big_quiet_step ((go_at_call 245;exact under_made (HL.out _ (HLOW.out.trans (Below.mono (Within.ok _) HLOW.out.size))))))
        refine wpQuiet_nil ?_
        intro w' hw'
        obtain ⟨y,rfl⟩:=hw'
        have HEND:=Lib.hid (HLOW.out.trans (Below.mono y.ok HLOW.out.size))
        clear cA cB c1 c2
        go_wp2_with fail
        go_ret
        exact ⟨rfl,HEND.out⟩
    | true =>
      go_enter Tryz.func245,Tryz.ntmps245
      go_wp2_with fail
      go_region
      · go_wp2_with fail
        change Code.wp _ _ _ _ (twoBox w ⟨k,op,n,t,i,x⟩ ⟨k',op',n',t',i',x'⟩)
        have cA:=Sits.allIn (twoBox_first w ⟨k,op,n,t,i,x⟩ ⟨k',op',n',t',i',x'⟩)
        have cB:=Sits.allIn (twoBox_second w ⟨k,op,n,t,i,x⟩ ⟨k',op',n',t',i',x'⟩)
        have c1:=Sits.allIn (hg.below (twoBox_low w ⟨k,op,n,t,i,x⟩ ⟨k',op',n',t',i',x'⟩) hg.lt)
        have c2:=Sits.allIn (hg'.below (twoBox_low w ⟨k,op,n,t,i,x⟩ ⟨k',op',n',t',i',x'⟩) hg'.lt)
        have HLOW:=Lib.hid (twoBox_low w ⟨k,op,n,t,i,x⟩ ⟨k',op',n',t',i',x'⟩)
        simp only at cA cB c1 c2
        generalize twoBox w ⟨k,op,n,t,i,x⟩ ⟨k',op',n',t',i',x'⟩=W at cA cB c1 c2 HLOW ⊢
        have ne:Nonempty (Within (Under W)):=⟨⟨_,Under.refl W⟩⟩
        refine wp_region_within (Under W) (Under.refl W) (by kernel_rfl) (by kernel_rfl) ?_
        repeat (go_big_quiet_step (first | (go_at_call_of 245 (Value.pointer pl);exact under_made (HL.out _ (HLOW.out.trans (Below.mono (Within.ok _) HLOW.out.size)))) | (go_at_call_of 245 (Value.pointer pr);exact under_made (HR.out _ (HLOW.out.trans (Below.mono (Within.ok _) HLOW.out.size))))))
        refine wpQuiet_nil ?_
        intro w' hw'
        obtain ⟨y,rfl⟩:=hw'
        have HEND:=Lib.hid (HLOW.out.trans (Below.mono y.ok HLOW.out.size))
        clear cA cB c1 c2
        go_wp2_with fail
        go_ret
        exact ⟨rfl,HEND.out⟩
      · go_wp2_with fail
        change Code.wp _ _ _ _ (twoBox w ⟨k',op',n',t',i',x'⟩ ⟨k,op,n,t,i,x⟩)
        have cA:=Sits.allIn (twoBox_second w ⟨k',op',n',t',i',x'⟩ ⟨k,op,n,t,i,x⟩)
        have cB:=Sits.allIn (twoBox_first w ⟨k',op',n',t',i',x'⟩ ⟨k,op,n,t,i,x⟩)
        have c1:=Sits.allIn (hg.below (twoBox_low w ⟨k',op',n',t',i',x'⟩ ⟨k,op,n,t,i,x⟩) hg.lt)
        have c2:=Sits.allIn (hg'.below (twoBox_low w ⟨k',op',n',t',i',x'⟩ ⟨k,op,n,t,i,x⟩) hg'.lt)
        have HLOW:=Lib.hid (twoBox_low w ⟨k',op',n',t',i',x'⟩ ⟨k,op,n,t,i,x⟩)
        simp only at cA cB c1 c2
        generalize twoBox w ⟨k',op',n',t',i',x'⟩ ⟨k,op,n,t,i,x⟩=W at cA cB c1 c2 HLOW ⊢
        have ne:Nonempty (Within (Under W)):=⟨⟨_,Under.refl W⟩⟩
        refine wp_region_within (Under W) (Under.refl W) (by kernel_rfl) (by kernel_rfl) ?_
        repeat (go_big_quiet_step (first | (go_at_call_of 245 (Value.pointer pl);exact under_made (HL.out _ (HLOW.out.trans (Below.mono (Within.ok _) HLOW.out.size)))) | (go_at_call_of 245 (Value.pointer pr);exact under_made (HR.out _ (HLOW.out.trans (Below.mono (Within.ok _) HLOW.out.size))))))
        refine wpQuiet_nil ?_
        intro w' hw'
        obtain ⟨y,rfl⟩:=hw'
        have HEND:=Lib.hid (HLOW.out.trans (Below.mono y.ok HLOW.out.size))
        clear cA cB c1 c2
        go_wp2_with fail
        go_ret
        exact ⟨rfl,HEND.out⟩
theorem eq_node (a b:It) (l r l' r':Tr):decide (Tr.node a l r=Tr.node b l' r')=(eqIt a b && decide (l=l') && decide (r=r')):=by
  by_cases h1:a=b <;> by_cases h2:l=l' <;> by_cases h3:r=r' <;> simp [eqIt,h1,h2,h3]
theorem nil_eq (a:Addr) (W:World):(binOp .eql 25 (.pointer none) (.pointer (some a))).run Tryz.prog W = .ok (.bool false) W:=by
  have h:∀ d:Nat,(Op.equalIn (d+1) 25 (.pointer none) (.pointer (some a))).run Tryz.prog W = .ok false W:=fun d=>by
    simp [Op.equalIn,run_underlying Tryz.underlying25]
  simp only [binOp]
  simp [Op.equal,Op.maxDepth,h 9999]
set_option maxRecDepth 100000 in
theorem same_any (s:Tr):∀ (t:Tr) (u v:Value) (w:World),Tree w s u->Tree w t v->Calls Tryz.prog 245 #[u,v] w fun e w'=>Made (.returned (.bool (decide (s=t)))) w e w':=by
  induction s with
  | nil =>
    intro t u v w hs ht
    obtain rfl:=hs
    cases t with
    | nil =>
      obtain rfl:=ht
      show Calls _ _ _ _ fun e w'=>Made (.returned (.bool true)) w e w'
      go_enter Tryz.func245,Tryz.ntmps245
      go_wp2_with fail
      go_ret
      exact ⟨rfl,Below.refl _ _⟩
    | node b l r =>
      obtain ⟨g,lv,rv,rfl,_⟩:=ht
      show Calls _ _ _ _ fun e w'=>Made (.returned (.bool false)) w e w'
      have hn:=nil_eq ⟨g,0,none⟩
      go_enter Tryz.func245,Tryz.ntmps245
      go_wp2_with fail
      go_ret
      exact ⟨rfl,Below.refl _ _⟩
  | node a l r ihl ihr =>
    intro t u v w hs ht
    obtain ⟨g,lv,rv,rfl,hg,hl,hr⟩:=hs
    cases t with
    | nil =>
      obtain rfl:=ht
      show Calls _ _ _ _ fun e w'=>Made (.returned (.bool false)) w e w'
      clear hg hl hr ihl ihr
      go_enter Tryz.func245,Tryz.ntmps245
      go_wp2_with fail
      go_ret
      exact ⟨rfl,Below.refl _ _⟩
    | node b l' r' =>
      obtain ⟨g',lv',rv',rfl,hg',hl',hr'⟩:=ht
      obtain ⟨pl,rfl,_⟩:=hl.ptr
      obtain ⟨pr,rfl,_⟩:=hr.ptr
      obtain ⟨pl',rfl,_⟩:=hl'.ptr
      obtain ⟨pr',rfl,_⟩:=hr'.ptr
      rw [eq_node]
      obtain ⟨k,op,n,t,i,x⟩:=a
      obtain ⟨k',op',n',t',i',x'⟩:=b
      exact same_node k op n t i x k' op' n' t' i' x' g g' pl pr pl' pr' _ _ w hg hg' (Lib.hid fun W hb=>ihl l' _ _ W (hl.below hb) (hl'.below hb)) (Lib.hid fun W hb=>ihr r' _ _ W (hr.below hb) (hr'.below hb))
theorem Same_any (s t:Tr) (u v:Value) (w:World) (hs:Tree w s u) (ht:Tree w t v):Calls Tryz.prog 155 #[u,v] w fun e w'=>Made (.returned (.bool (fitsF s 12 && decide (s=t)))) w e w':=by
  have HM:=Lib.hid (may_any s u w hs)
  have HS:=Lib.hid (fun (W:World) (hb:Below w.heap.size w W)=>same_any s t u v W (hs.below hb) (ht.below hb))
  obtain ⟨p,rfl,_⟩:=hs.ptr
  obtain ⟨q,rfl,_⟩:=ht.ptr
  clear hs ht
  generalize decide (s=t)=b at HS ⊢
  cases hf:fitsF s 12
  · rw [hf] at HM
    clear hf HS
    go_enter Tryz.func155,Tryz.ntmps155
    go_wp2_with fail
    refine HM.out.mono ?_
    rintro e w1 ⟨rfl,hb⟩
    have HB:=Lib.hid hb;clear hb
    go_wp2_with fail
    go_ret
    exact ⟨rfl,HB.out⟩
  · rw [hf] at HM
    clear hf
    go_enter Tryz.func155,Tryz.ntmps155
    go_wp2_with fail
    refine HM.out.mono ?_
    rintro e w1 ⟨rfl,hb⟩
    have HB:=Lib.hid hb;clear hb
    go_wp2_with fail
    refine (HS.out _ HB.out).mono ?_
    rintro e w2 ⟨rfl,hb⟩
    have HB2:=Lib.hid (HB.out.trans (hb.mono HB.out.size));clear hb
    go_wp2_with fail
    go_ret
    exact ⟨rfl,HB2.out⟩
theorem Depth_any (t:Tr) (v:Value) (w:World) (h:Tree w t v):Calls Tryz.prog 238 #[v] w fun e w'=>Made (.returned (.int .i64 (deepF t 13:Nat))) w e w':=by
  have H:=Lib.hid (depth_any t 13 v w (by omega) h)
  obtain ⟨p,rfl,_⟩:=h.ptr
  clear h
  go_enter Tryz.func238,Tryz.ntmps238
  go_wp2_with fail
  refine H.out.mono ?_
  rintro e w1 hr
  obtain ⟨rfl,hb⟩:=Reads.below hr
  have HB:=Lib.hid hb;clear hb hr
  go_wp2_with fail
  go_ret
  exact ⟨rfl,HB.out⟩
end Go.Proofs.YtppdbnccinfegaaGreatDoor.Expr
end
section
namespace Go.Proofs.YtppdbnccinfegaaGreatDoor.Expr
open Go.RowKit Go.Proofs.YtppdbnccinfegaaGreatDoor.Mem Go.Lib
def ItemAt (w:World) (g o:Nat) (a:It):Prop :=
  w.cell? ⟨g,o,none⟩=some (.int .u8 a.kind)/\w.cell? ⟨g,o+1,none⟩=some (.int .u8 a.op)/\w.cell? ⟨g,o+2,none⟩=some (.int .u64 a.n) /\
    w.cell? ⟨g,o+3,none⟩=some (.int .u8 a.t)/\w.cell? ⟨g,o+4,none⟩=some (.int .u8 a.i)/\w.cell? ⟨g,o+5,none⟩=some (.int .u8 a.x)
def Row (w:World) (v:Value) (l:List It):Prop :=
  (l=[]/\∃ p cap,v = .slice p 0 cap) \/ ∃ g o cap,v = .slice (some ⟨g,o,none⟩) l.length cap/\l.length<=1000000/\∀ i a,l[i]? = some a->ItemAt w g (o+i * 6) a
theorem ItemAt.lt {w:World} {g o:Nat} {a:It} (h:ItemAt w g o a):g<w.heap.size:=World.block_lt_of_cell? w _ h.1
theorem ItemAt.keep {w w':World} {g o:Nat} {a:It} (h:ItemAt w g o a) (hk:∀ j,w'.cell? ⟨g,j,none⟩=w.cell? ⟨g,j,none⟩):ItemAt w' g o a:=by
  unfold ItemAt at h ⊢
  simp only [hk];exact h
theorem ItemAt.below {w w':World} {g o:Nat} {a:It} (h:ItemAt w g o a) (hb:Below w.heap.size w w'):ItemAt w' g o a:=h.keep fun j=>hb.cell (p:=⟨g,j,none⟩) h.lt
theorem Row.below {w w':World} {v:Value} {l:List It} (h:Row w v l) (hb:Below w.heap.size w w'):Row w' v l:=by
  rcases h with h | ⟨g,o,cap,hv,hl,h⟩
  · exact .inl h
  · exact .inr ⟨g,o,cap,hv,hl,fun i a ha=>(h i a ha).below hb⟩
theorem Row.len {w:World} {v:Value} {l:List It} (h:Row w v l):∃ p cap,v = .slice p l.length cap/\l.length<=1000000:=by
  rcases h with ⟨rfl,p,cap,hv⟩ | ⟨g,o,cap,hv,hl,_⟩
  · exact ⟨p,cap,hv,by simp⟩
  · exact ⟨_,cap,hv,hl⟩
theorem Row.item {w:World} {v:Value} {l:List It} (h:Row w v l) {i:Nat} {a:It} (ha:l[i]? = some a):∃ g o cap,v = .slice (some ⟨g,o,none⟩) l.length cap/\l.length<=1000000/\i<l.length/\ItemAt w g (o+i * 6) a:=by
  have hi:=(List.getElem?_eq_some_iff.1 ha).1
  rcases h with ⟨rfl,_⟩ | ⟨g,o,cap,hv,hl,h⟩
  · simp at hi
  · exact ⟨g,o,cap,hv,hl,hi,h i a ha⟩
def TreeB (B:Nat) (w:World):Tr->Value->Prop
  | .nil,v=>v = .pointer none
  | .node a l r,v=>∃ g lv rv,v = .pointer (some ⟨g,0,none⟩)/\B<=g/\Sits w g 297 (exprCells a lv rv)/\TreeB B w l lv/\TreeB B w r rv
section
variable {B C : Nat} {w w' : World}
theorem TreeB.tree:∀ {t:Tr} {v:Value},TreeB B w t v->Tree w t v:=by
  intro t
  induction t with
  | nil=>intro v h;exact h
  | node a l r ihl ihr=>intro v h;obtain ⟨g,lv,rv,hv,_,hg,hl,hr⟩:=h;exact ⟨g,lv,rv,hv,hg,ihl hl,ihr hr⟩
theorem TreeB.keep (hk:∀ g cs,B<=g->Sits w g 297 cs->Sits w' g 297 cs) (hB:C<=B):∀ {t:Tr} {v:Value},TreeB B w t v->TreeB C w' t v:=by
  intro t
  induction t with
  | nil=>intro v h;exact h
  | node a l r ihl ihr=>intro v h;obtain ⟨g,lv,rv,hv,hg0,hg,hl,hr⟩:=h;exact ⟨g,lv,rv,hv,Nat.le_trans hB hg0,hk _ _ hg0 hg,ihl hl,ihr hr⟩
theorem TreeB.below {t:Tr} {v:Value} (h:TreeB B w t v) (hb:Below w.heap.size w w') (hB:C<=B):TreeB C w' t v:=h.keep (fun _ _ _ hs=>hs.below hb hs.lt) hB
theorem TreeB.far {t:Tr} {v:Value} (h:TreeB B w t v) {g:Nat} (hg:g<B) (i:Nat) (u:Value) (hB:C<=B):TreeB C (w.setCell ⟨g,i,none⟩ u) t v :=
  h.keep (fun g' _ hg' hs=>hs.far (by show g' ≠ g;omega) u) hB
end
def OfMade (l:List It) (most k:Nat) (w:World) (e:Ending) (w':World):Prop :=
  ∃ p,e = .returned (.tuple #[p,.int .i64 ((ofF l most k).2:Nat)])/\TreeB w.heap.size w' (ofF l most k).1 p/\Below w.heap.size w w'
theorem of_none (l:List It) (k m:Nat) (v:Value) (w:World) (hv:Row w v l) (hk:l[k]? = none):Calls Tryz.prog 162 #[v,.int .i64 (k:Nat),.int .i64 (m:Nat)] w (OfMade l m k w):=by
  have e:=ofF_none m hk
  obtain ⟨p,cap,rfl,hl⟩:=hv.len
  have hk':l.length<=k:=List.getElem?_eq_none_iff.1 hk
  have h:∀ e w',e = .returned (.tuple #[.pointer none,.int .i64 (k:Nat)])/\w=w' -> OfMade l m k w e w':=by
    rintro e' w' ⟨rfl,rfl⟩
    exact ⟨_,by rw [e],by rw [e];exact rfl,Below.refl _ _⟩
  refine Calls.mono ?_ h
  clear h e hv hk
  have i1:(l.length:Int)<=(k:Int):=by omega
  go_enter Tryz.func162,Tryz.ntmps162
  go_wp2_with fail
  go_ret2
  exact ⟨rfl,rfl⟩
theorem of_zero (l:List It) (k:Nat) (v:Value) (w:World) (hv:Row w v l):Calls Tryz.prog 162 #[v,.int .i64 (k:Nat),.int .i64 (0:Nat)] w (OfMade l 0 k w):=by
  cases hk:l[k]? with
  | none=>exact of_none l k 0 v w hv hk
  | some a =>
    obtain ⟨p,cap,rfl,hl⟩:=hv.len
    have hk':=(List.getElem?_eq_some_iff.1 hk).1
    have h:∀ e w',e = .returned (.tuple #[.pointer none,.int .i64 (k:Nat)])/\w=w' -> OfMade l 0 k w e w':=by
      rintro e' w' ⟨rfl,rfl⟩
      exact ⟨_,rfl,rfl,Below.refl _ _⟩
    refine Calls.mono ?_ h
    show Calls _ _ #[_,_,.int .i64 0] _ _
    clear h hv hk
    have i1:(k:Int)<(l.length:Int):=by omega
    go_enter Tryz.func162,Tryz.ntmps162
    go_wp2_with fail
    go_ret2
    exact ⟨rfl,rfl⟩
theorem of_fin {l:List It} {m k:Nat} {w W':World} {b:It} (H:ofF l m k=(.node b .nil .nil,k+1)) {g':Nat} (hg:w.heap.size<=g') (hs:Sits W' g' 297 (exprCells b (.pointer none) (.pointer none))) (hb:Below w.heap.size w W') :
    OfMade l m k w (.returned (.tuple #[.pointer (some ⟨g',0,none⟩),.int .i64 ((k:Int)+1)])) W' :=
  ⟨_,by rw [H];rfl,by rw [H];exact ⟨g',_,_,rfl,hg,hs,rfl,rfl⟩,hb⟩
set_option maxRecDepth 100000 in
theorem of_leaf0 (l:List It) (k m:Nat) (v:Value) (w:World) (hv:Row w v l) (op n t i x:Nat) (hk:l[k]? = some ⟨0,op,n,t,i,x⟩):Calls Tryz.prog 162 #[v,.int .i64 (k:Nat),.int .i64 (m+1:Nat)] w (OfMade l (m+1) k w):=by
  have e:ofF l (m+1) k=(.node ⟨0,0,n,0,0,0⟩ .nil .nil,k+1):=by
    rw [ofF_leaf m hk (by simp only;omega) (by simp only;omega)]
    simp [leafT]
  obtain ⟨g,o,cap,rfl,hl,hkl,c0,c1,c2,c3,c4,c5⟩:=hv.item hk
  simp only at c0 c1 c2 c3 c4 c5
  have i1:(k:Int)<(l.length:Int):=by omega
  have i2:(0:Int)<=k:=by omega
  have i3:((m:Int)+1 == 0)=false:=beq_eq_false_iff_ne.2 (by omega)
  have i4:(l.length:Int)<=1000000:=by omega
  have H:=Lib.hid e
  clear e hv hk
  go_enter Tryz.func162,Tryz.ntmps162
  go_wp2_with fail
  go_ret2
  exact of_fin H.out (Nat.le_succ _) ((Sits.made (by simp) _ _)) ((((Below.refl _ _).alloc (Nat.le_refl _) _).alloc (by simp) _))
set_option maxRecDepth 100000 in
theorem of_leaf1 (l:List It) (k m:Nat) (v:Value) (w:World) (hv:Row w v l) (op n t i x:Nat) (hk:l[k]? = some ⟨1,op,n,t,i,x⟩):Calls Tryz.prog 162 #[v,.int .i64 (k:Nat),.int .i64 (m+1:Nat)] w (OfMade l (m+1) k w):=by
  have e:ofF l (m+1) k=(.node ⟨1,0,0,0,i,0⟩ .nil .nil,k+1):=by
    rw [ofF_leaf m hk (by simp only;omega) (by simp only;omega)]
    simp [leafT]
  obtain ⟨g,o,cap,rfl,hl,hkl,c0,c1,c2,c3,c4,c5⟩:=hv.item hk
  simp only at c0 c1 c2 c3 c4 c5
  have i1:(k:Int)<(l.length:Int):=by omega
  have i2:(0:Int)<=k:=by omega
  have i3:((m:Int)+1 == 0)=false:=beq_eq_false_iff_ne.2 (by omega)
  have i4:(l.length:Int)<=1000000:=by omega
  have H:=Lib.hid e
  clear e hv hk
  go_enter Tryz.func162,Tryz.ntmps162
  go_wp2_with fail
  go_ret2
  exact of_fin H.out (Nat.le_succ _) ((Sits.made (by simp) _ _)) ((((Below.refl _ _).alloc (Nat.le_refl _) _).alloc (by simp) _))
set_option maxRecDepth 100000 in
theorem of_leaf2 (l:List It) (k m:Nat) (v:Value) (w:World) (hv:Row w v l) (op n t i x:Nat) (hk:l[k]? = some ⟨2,op,n,t,i,x⟩):Calls Tryz.prog 162 #[v,.int .i64 (k:Nat),.int .i64 (m+1:Nat)] w (OfMade l (m+1) k w):=by
  have e:ofF l (m+1) k=(.node ⟨2,0,0,t,i,0⟩ .nil .nil,k+1):=by
    rw [ofF_leaf m hk (by simp only;omega) (by simp only;omega)]
    simp [leafT]
  obtain ⟨g,o,cap,rfl,hl,hkl,c0,c1,c2,c3,c4,c5⟩:=hv.item hk
  simp only at c0 c1 c2 c3 c4 c5
  have i1:(k:Int)<(l.length:Int):=by omega
  have i2:(0:Int)<=k:=by omega
  have i3:((m:Int)+1 == 0)=false:=beq_eq_false_iff_ne.2 (by omega)
  have i4:(l.length:Int)<=1000000:=by omega
  have H:=Lib.hid e
  clear e hv hk
  go_enter Tryz.func162,Tryz.ntmps162
  go_wp2_with fail
  go_region
  go_wp2_with fail
  go_ret2
  exact of_fin H.out (Nat.le_succ _) (Sits.drew (Sits.made (by simp) _ _)) ((((Below.refl _ _).alloc (Nat.le_refl _) _).alloc (by simp) _).drew)
set_option maxRecDepth 100000 in
theorem of_leaf3 (l:List It) (k m:Nat) (v:Value) (w:World) (hv:Row w v l) (op n t i x:Nat) (hk:l[k]? = some ⟨3,op,n,t,i,x⟩):Calls Tryz.prog 162 #[v,.int .i64 (k:Nat),.int .i64 (m+1:Nat)] w (OfMade l (m+1) k w):=by
  have e:ofF l (m+1) k=(.node ⟨3,0,0,0,0,x⟩ .nil .nil,k+1):=by
    rw [ofF_leaf m hk (by simp only;omega) (by simp only;omega)]
    simp [leafT]
  obtain ⟨g,o,cap,rfl,hl,hkl,c0,c1,c2,c3,c4,c5⟩:=hv.item hk
  simp only at c0 c1 c2 c3 c4 c5
  have i1:(k:Int)<(l.length:Int):=by omega
  have i2:(0:Int)<=k:=by omega
  have i3:((m:Int)+1 == 0)=false:=beq_eq_false_iff_ne.2 (by omega)
  have i4:(l.length:Int)<=1000000:=by omega
  have H:=Lib.hid e
  clear e hv hk
  go_enter Tryz.func162,Tryz.ntmps162
  go_wp2_with fail
  go_ret2
  exact of_fin H.out (Nat.le_succ _) ((Sits.made (by simp) _ _)) ((((Below.refl _ _).alloc (Nat.le_refl _) _).alloc (by simp) _))
set_option maxRecDepth 100000 in
theorem of_leaf6 (l:List It) (k m:Nat) (v:Value) (w:World) (hv:Row w v l) (q:Nat) (hq:5<q) (op n t i x:Nat) (hk:l[k]? = some ⟨q,op,n,t,i,x⟩):Calls Tryz.prog 162 #[v,.int .i64 (k:Nat),.int .i64 (m+1:Nat)] w (OfMade l (m+1) k w):=by
  have e:ofF l (m+1) k=(.node ⟨q,0,0,0,0,0⟩ .nil .nil,k+1):=by
    rw [ofF_leaf m hk (by simp only;omega) (by simp only;omega)]
    simp [leafT,show ¬ q=0 by omega,show ¬ q=1 by omega,show ¬ q=2 by omega,show ¬ q=3 by omega]
  obtain ⟨g,o,cap,rfl,hl,hkl,c0,c1,c2,c3,c4,c5⟩:=hv.item hk
  simp only at c0 c1 c2 c3 c4 c5
  have i1:(k:Int)<(l.length:Int):=by omega
  have i2:(0:Int)<=k:=by omega
  have i3:((m:Int)+1 == 0)=false:=beq_eq_false_iff_ne.2 (by omega)
  have i4:(l.length:Int)<=1000000:=by omega
  have H:=Lib.hid e
  have e0:((q:Int) == 0)=false:=beq_eq_false_iff_ne.2 (by omega)
  have e1:((q:Int) == 1)=false:=beq_eq_false_iff_ne.2 (by omega)
  have e2:((q:Int) == 2)=false:=beq_eq_false_iff_ne.2 (by omega)
  have e3:((q:Int) == 3)=false:=beq_eq_false_iff_ne.2 (by omega)
  have e4:((q:Int) == 4)=false:=beq_eq_false_iff_ne.2 (by omega)
  have e5:((q:Int) == 5)=false:=beq_eq_false_iff_ne.2 (by omega)
  clear e hv hk hq
  go_enter Tryz.func162,Tryz.ntmps162
  go_wp2_with fail
  go_ret2
  exact of_fin H.out (Nat.le_succ _) ((Sits.made (by simp) _ _)) ((((Below.refl _ _).alloc (Nat.le_refl _) _).alloc (by simp) _))
def ofBox (w:World) (a b:It):World:=(w.alloc (.cells #[.int .u8 a.kind,.int .u8 a.op,.int .u64 a.n,.int .u8 a.t,.int .u8 a.i,.int .u8 a.x] 165)).alloc (.cells (exprCells b (.pointer none) (.pointer none)) 297)
theorem ofBox_node (w:World) (a b:It):Sits (ofBox w a b) (w.heap.size+1) 297 (exprCells b (.pointer none) (.pointer none)):=Sits.made (by simp) _ _
theorem ofBox_low (w:World) (a b:It):Below w.heap.size w (ofBox w a b):=((Below.refl _ _).alloc (Nat.le_refl _) _).alloc (by simp) _
theorem ofBox_size (w:World) (a b:It):(ofBox w a b).heap.size=w.heap.size+2:=by simp [ofBox]
theorem of_fin1 {l:List It} {m k:Nat} {w w1:World} {b:It} {t:Tr} {j:Nat} {p:Value} (H:ofF l m k=(.node b t .nil,j)) (hS:Sits w1 (w.heap.size+1) 297 (exprCells b (.pointer none) (.pointer none)))
    (hT:TreeB (w.heap.size+2) w1 t p) (hb:Below w.heap.size w w1) :
    OfMade l m k w (.returned (.tuple #[.pointer (some ⟨w.heap.size+1,0,none⟩),.int .i64 (j:Nat)])) (w1.setCell ⟨w.heap.size+1,6,none⟩ p) :=
  ⟨_,by rw [H],by rw [H];exact ⟨_,_,_,rfl,by omega,hS.put 6 p,hT.far (by omega) 6 p (by omega),rfl⟩,hb.setCell (by simp) _⟩
theorem of_fin2 {l:List It} {m k:Nat} {w w1 w2:World} {b:It} {t t':Tr} {j:Nat} {p q:Value} (H:ofF l m k=(.node b t t',j)) (hS:Sits w1 (w.heap.size+1) 297 (exprCells b p (.pointer none)))
    (hT:TreeB (w.heap.size+2) w1 t p) (hT':TreeB w1.heap.size w2 t' q) (hb:Below w.heap.size w w1) (hs:w.heap.size+2<=w1.heap.size) (hb2:Below w1.heap.size w1 w2) :
    OfMade l m k w (.returned (.tuple #[.pointer (some ⟨w.heap.size+1,0,none⟩),.int .i64 (j:Nat)])) (w2.setCell ⟨w.heap.size+1,7,none⟩ q) :=
  ⟨_,by rw [H],by rw [H];exact ⟨_,_,_,rfl,by omega,(hS.below hb2 (by omega)).put 7 q,(hT.below hb2 (Nat.le_refl _)).far (by omega) 7 q (by omega),hT'.far (by omega) 7 q (by omega)⟩,(hb.trans (hb2.mono (by omega))).setCell (by simp) _⟩
set_option maxRecDepth 100000 in
set_option maxHeartbeats 1000000 in
theorem of_one (l:List It) (k m:Nat) (hm:m<1000) (v:Value) (w:World) (hv:Row w v l) (op n t i x:Nat) (hk:l[k]? = some ⟨4,op,n,t,i,x⟩)
    (ih:Hid (∀ (k:Nat) (w:World),Row w v l->Calls Tryz.prog 162 #[v,.int .i64 (k:Nat),.int .i64 (m:Nat)] w (OfMade l m k w))) :
    Calls Tryz.prog 162 #[v,.int .i64 (k:Nat),.int .i64 (m+1:Nat)] w (OfMade l (m+1) k w):=by
  have e:=ofF_one m hk rfl
  have hih:=Lib.hid (fun W (hb:Below w.heap.size w W)=>ih.out (k+1) W (hv.below hb))
  obtain ⟨g,o,cap,rfl,hl,hkl,c0,c1,c2,c3,c4,c5⟩:=hv.item hk
  simp only at c0 c1 c2 c3 c4 c5
  have i1:(k:Int)<(l.length:Int):=by omega
  have i2:(0:Int)<=k:=by omega
  have i3:((m:Int)+1 == 0)=false:=beq_eq_false_iff_ne.2 (by omega)
  have i4:(l.length:Int)<=1000000:=by omega
  have i5:(m:Int)<1000:=by omega
  have H:=Lib.hid e
  clear e hv hk ih
  go_enter Tryz.func162,Tryz.ntmps162
  go_wp2_with fail
  change Calls _ _ _ (ofBox w ⟨4,op,n,t,i,x⟩ ⟨4,op,0,0,0,0⟩) _
  have hS:=ofBox_node w ⟨4,op,n,t,i,x⟩ ⟨4,op,0,0,0,0⟩
  have hz:=ofBox_size w ⟨4,op,n,t,i,x⟩ ⟨4,op,0,0,0,0⟩
  have hlow:=ofBox_low w ⟨4,op,n,t,i,x⟩ ⟨4,op,0,0,0,0⟩
  generalize ofBox w ⟨4,op,n,t,i,x⟩ ⟨4,op,0,0,0,0⟩=W at hS hz hlow ⊢
  refine (hih.out W hlow).mono ?_
  rintro e w1 ⟨p,rfl,hT,hb⟩
  obtain ⟨pp,rfl,_⟩:=hT.tree.ptr
  have S1:=Lib.hid (hS.below hb hS.lt)
  have HL:=Lib.hid (hlow.trans (hb.mono hlow.size))
  have q6:w1.cell? ⟨w.heap.size+1,6,none⟩=some (.pointer none):=S1.out.cell 6
  have f6:=S1.out.free 6
  have hlt:=S1.out.lt
  rw [hz] at hT
  have HT:=Lib.hid hT
  clear hT hb hlow hS hz
  generalize (ofF l m (k+1)).2=j at H ⊢
  generalize (ofF l m (k+1)).1=t at H HT
  go_wp2_with fail
  go_ret2
  exact of_fin1 H.out S1.out HT.out HL.out
set_option maxRecDepth 100000 in
set_option maxHeartbeats 2000000 in
theorem of_two (l:List It) (k m:Nat) (hm:m<1000) (v:Value) (w:World) (hv:Row w v l) (op n t i x:Nat) (hk:l[k]? = some ⟨5,op,n,t,i,x⟩)
    (ih:Hid (∀ (k:Nat) (w:World),Row w v l->Calls Tryz.prog 162 #[v,.int .i64 (k:Nat),.int .i64 (m:Nat)] w (OfMade l m k w))) :
    Calls Tryz.prog 162 #[v,.int .i64 (k:Nat),.int .i64 (m+1:Nat)] w (OfMade l (m+1) k w):=by
  have e:=ofF_two m hk rfl
  have hih:=Lib.hid (fun W (hb:Below w.heap.size w W)=>ih.out (k+1) W (hv.below hb))
  have hih2:=Lib.hid (fun W (hb:Below w.heap.size w W)=>ih.out (ofF l m (k+1)).2 W (hv.below hb))
  have hj:=ofF_le l m (k+1)
  obtain ⟨g,o,cap,rfl,hl,hkl,c0,c1,c2,c3,c4,c5⟩:=hv.item hk
  simp only at c0 c1 c2 c3 c4 c5
  have i1:(k:Int)<(l.length:Int):=by omega
  have i2:(0:Int)<=k:=by omega
  have i3:((m:Int)+1 == 0)=false:=beq_eq_false_iff_ne.2 (by omega)
  have i4:(l.length:Int)<=1000000:=by omega
  have i5:(m:Int)<1000:=by omega
  have H:=Lib.hid e
  clear e hv hk ih
  go_enter Tryz.func162,Tryz.ntmps162
  go_wp2_with fail
  change Calls _ _ _ (ofBox w ⟨5,op,n,t,i,x⟩ ⟨5,op,0,0,0,0⟩) _
  have hS:=ofBox_node w ⟨5,op,n,t,i,x⟩ ⟨5,op,0,0,0,0⟩
  have hz:=ofBox_size w ⟨5,op,n,t,i,x⟩ ⟨5,op,0,0,0,0⟩
  have hlow:=ofBox_low w ⟨5,op,n,t,i,x⟩ ⟨5,op,0,0,0,0⟩
  generalize ofBox w ⟨5,op,n,t,i,x⟩ ⟨5,op,0,0,0,0⟩=W at hS hz hlow ⊢
  refine (hih.out W hlow).mono ?_
  rintro e w1 ⟨p,rfl,hT,hb⟩
  obtain ⟨pp,rfl,_⟩:=hT.tree.ptr
  have S1:=Lib.hid (hS.below hb hS.lt)
  have HL:=Lib.hid (hlow.trans (hb.mono hlow.size))
  have q6:w1.cell? ⟨w.heap.size+1,6,none⟩=some (.pointer none):=S1.out.cell 6
  have f6:=S1.out.free 6
  have hlt:=S1.out.lt
  have hz1:w.heap.size+2<=w1.heap.size:=by have:=hb.size;omega
  rw [hz] at hT
  have HT:=Lib.hid hT
  clear hT hb hlow hS hz
  generalize (ofF l m (k+1)).2=j at H hj hih2 ⊢
  generalize (ofF l m (k+1)).1=t1 at H HT
  have j0:(0:Int)<=j:=by omega
  go_wp2_with fail
  have S2:=Lib.hid (show Sits (w1.setCell ⟨w.heap.size+1,6,none⟩ (.pointer pp)) (w.heap.size+1) 297 (exprCells ⟨5,op,0,0,0,0⟩ (.pointer pp) (.pointer none)) from S1.out.put 6 _)
  have HL2:=Lib.hid (HL.out.setCell (p:=⟨w.heap.size+1,6,none⟩) (by simp) (.pointer pp))
  have HT2:=Lib.hid (HT.out.far (g:=w.heap.size+1) (by omega) 6 (.pointer pp) (Nat.le_refl _))
  have hz2:(w1.setCell ⟨w.heap.size+1,6,none⟩ (.pointer pp)).heap.size=w1.heap.size:=by simp [World.setCell]
  clear q6 f6 hlt
  generalize w1.setCell ⟨w.heap.size+1,6,none⟩ (.pointer pp)=W2 at S2 HL2 HT2 hz2 ⊢
  clear S1 HL HT
  refine (hih2.out W2 HL2.out).mono ?_
  rintro e w3 ⟨p3,rfl,hT,hb⟩
  obtain ⟨pq,rfl,_⟩:=hT.tree.ptr
  have S3:=Lib.hid (S2.out.below hb S2.out.lt)
  have q7:w3.cell? ⟨w.heap.size+1,7,none⟩=some (.pointer none):=S3.out.cell 7
  have f7:=S3.out.free 7
  have hlt:=S3.out.lt
  have HT3:=Lib.hid hT
  have HB:=Lib.hid hb
  have hz3:w.heap.size+2<=W2.heap.size:=by omega
  clear hT hb hz2
  generalize (ofF l m j).2=j2 at H ⊢
  generalize (ofF l m j).1=t2 at H HT3
  go_wp2_with fail
  go_ret2
  exact of_fin2 H.out S2.out HT2.out HT3.out HL2.out hz3 HB.out
theorem of_any (l:List It):∀ (m k:Nat) (v:Value) (w:World),m<1000->Row w v l->Calls Tryz.prog 162 #[v,.int .i64 (k:Nat),.int .i64 (m:Nat)] w (OfMade l m k w):=by
  intro m
  induction m with
  | zero=>intro k v w _ hv;exact of_zero l k v w hv
  | succ m ih =>
    intro k v w hm hv
    cases hk:l[k]? with
    | none=>exact of_none l k (m+1) v w hv hk
    | some a =>
      obtain ⟨q,op,n,t,i,x⟩:=a
      by_cases h0:q=0
      · subst h0;exact of_leaf0 l k m v w hv op n t i x hk
      by_cases h1:q=1
      · subst h1;exact of_leaf1 l k m v w hv op n t i x hk
      by_cases h2:q=2
      · subst h2;exact of_leaf2 l k m v w hv op n t i x hk
      by_cases h3:q=3
      · subst h3;exact of_leaf3 l k m v w hv op n t i x hk
      by_cases h4:q=4
      · subst h4;exact of_one l k m (by omega) v w hv op n t i x hk (Lib.hid fun k w h=>ih k v w (by omega) h)
      by_cases h5:q=5
      · subst h5;exact of_two l k m (by omega) v w hv op n t i x hk (Lib.hid fun k w h=>ih k v w (by omega) h)
      · exact of_leaf6 l k m v w hv q (by omega) op n t i x hk
end Go.Proofs.YtppdbnccinfegaaGreatDoor.Expr
end
