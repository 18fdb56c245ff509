/- Part 33 of the proof: what is used of the texts PrsX. -/
import Derived.Test.YtagebkachdmnbaaGreatDoorMD1
section
namespace Go.Proofs.YtagebkachdmnbaaGreatDoor.Prs
open Go.RowKit Go.Proofs.YtagebkachdmnbaaGreatDoor.Mem Go.Proofs.YtagebkachdmnbaaGreatDoor.Expr Go.Proofs.YtagebkachdmnbaaGreatDoor.Prog
open Go.Proofs.YtagebkachdmnbaaGreatDoor.Lex (Tok isL isLD isD)
inductive PRes
  | ok (t:Ts)
  | err (l c e:Nat)
open Classical in
noncomputable def txOut (ts:List Lex.Tok):Out Ts:=if h:∃ out,Tx ts (.inits []) 0 out then h.choose else .bad 0 0
theorem txOut_is {ts:List Lex.Tok} {out:Out Ts} (h:Tx ts (.inits []) 0 out):txOut ts=out:=by
  unfold txOut
  rw [dif_pos ⟨out,h⟩]
  exact (⟨out,h⟩:∃ out,Tx ts (.inits []) 0 out).choose_spec.det h
theorem txOut_of {ts:List Lex.Tok} (hp:Pcs ts):Tx ts (.inits []) 0 (txOut ts):=by
  obtain ⟨out,h⟩:=tx_total hp.good _ 0 (Nat.le_refl _) hp.some []
  rw [txOut_is h];exact h
noncomputable def parseAll (s:List UInt8):PRes:=match Lex.lexAll s with
  | .err e l c => .err l c e
  | .ok ts=>match txOut ts with
    | .ok t _ => .ok t
    | .bad j e => .err (tk ts j).line (tk ts j).col e
theorem parseAll_lex {s:List UInt8} {e l c:Nat} (h:Lex.lexAll s = .err e l c):parseAll s = .err l c e:=by unfold parseAll;rw [h]
theorem parseAll_ok {s:List UInt8} {ts:List Lex.Tok} {t:Ts} {k:Nat} (h:Lex.lexAll s = .ok ts) (ht:txOut ts = .ok t k):parseAll s = .ok t:=by unfold parseAll;rw [h];simp only [ht]
theorem parseAll_bad {s:List UInt8} {ts:List Lex.Tok} {j e:Nat} (h:Lex.lexAll s = .ok ts) (ht:txOut ts = .bad j e):parseAll s = .err (tk ts j).line (tk ts j).col e:=by unfold parseAll;rw [h];simp only [ht]
theorem read_of {s:List UInt8} {t:Ts} (h:parseAll s = .ok t):Read t:=by
  cases hl:Lex.lexAll s with
  | err e l c=>rw [parseAll_lex hl] at h;cases h
  | ok ts =>
    cases ht:txOut ts with
    | bad j e=>rw [parseAll_bad hl ht] at h;cases h
    | ok t' k =>
      rw [parseAll_ok hl ht] at h
      injection h with h
      subst h
      exact read_ok hl (ht ▸ txOut_of (pcs_of hl))
def ParseMade (r:PRes) (w:World) (e:Ending) (w':World):Prop :=
  Below w.heap.size w w' /\ match r with
    | .ok t=>∃ vi vt pa,e = .returned (.tuple #[testAgg vi vt t.all (.pointer pa),.agg #[.int .i64 0,.int .i64 0],.int .i64 0])/\TestV w' t vi vt (.pointer pa)
    | .err l c er=>e = .returned (.tuple #[testAgg (.slice none 0 0) (.slice none 0 0) false (.pointer none),.agg #[.int .i64 l,.int .i64 c],.int .i64 er])
theorem toks_in:∀ (ts:List Lex.Tok) (i r:Nat) (t:Lex.Tok),ts[i]? = some t->r<5->(Lex.toks ts)[i * 5+r]? = (Lex.tokCells t)[r]?
  | [],i,r,t,h,_=>by simp at h
  | a :: ts,0,r,t,h,hr=>by
    have:a=t:=by simpa using h
    subst this
    show (Lex.tokCells a ++ Lex.toks ts)[0 * 5+r]? = _
    rw [Nat.zero_mul,Nat.zero_add,List.getElem?_append_left (by exact hr)]
  | a :: ts,i+1,r,t,h,hr=>by
    show (Lex.tokCells a ++ Lex.toks ts)[(i+1) * 5+r]? = _
    have e:(Lex.tokCells a).length=5:=rfl
    rw [List.getElem?_append_right (by rw [e];omega),e]
    have e2:(i+1) * 5+r - 5=i * 5+r:=by omega
    rw [e2]
    exact toks_in ts i r t (by simpa using h) hr
theorem toks_at (ts:List Lex.Tok) (j i:Nat) (u:Value) (hj:j<ts.length) (hu:(pc (tk ts j))[i]? = some u):(Lex.toks ts)[j * 5+i]? = some u:=by
  have hi:i<5:=by
    by_cases h:i<5
    · exact h
    · rw [Array.getElem?_eq_none (by show 5<=i;omega)] at hu;cases hu
  have ht:ts[j]? = some (tk ts j):=by
    unfold tk
    rw [List.getD_eq_getElem?_getD,List.getElem?_eq_getElem hj];rfl
  rw [toks_in ts j i _ ht hi]
  have e:(pc (tk ts j)).toList=Lex.tokCells (tk ts j):=rfl
  rw [<- e,Array.getElem?_toList];exact hu
theorem rd_new {w W1 W:World} {ts:List Lex.Tok} {gp cap' gR B:Nat} {X:Nat->Prop} (hX:Prog.All w) (hp:Pcs ts) (hlow:Below w.heap.size w W1) {v:Value} (hown:W1.ownsRow B 278 5 v ts.length (Lex.toks ts)) (hv:v = .slice (some ⟨gp,0,none⟩) ts.length cap')
    (hk:Keeps X W1 W) (hx:∀ x,X x->w.heap.size<=x/\x≠gp) (hR:Sits W gR 216 #[v]) (hg:w.heap.size<=gR):Rd W gR gp cap' ts 0:=by
  have ho:v.ownBlock=some gp:=by rw [hv];rfl
  have hcells:=hown.cells (g:=gp) ho
  have hlt:=hown.lt gp ho
  have hcap:ts.length<=cap' /\ ts.length<=4097:=⟨by
    rcases hown.2 with ⟨h,_⟩ | ⟨g',cap2,cur,h,hB,hh,h3,h4,h5,h6⟩
    · rw [hv] at h;cases h
    · rw [hv] at h
      injection h with _ _ e3
      omega,hp.few⟩
  have hne:gp≠gR:=fun e=>by
    subst e
    exact own_far (own_keeps hown hk (fun g hg hx'=>by rw [ho] at hg;injection hg with hg;exact (hx g hx').2 hg.symm)) hR (by decide) ho
  refine ⟨by rw [Nat.zero_mul,Nat.sub_zero,Nat.sub_zero,<- hv];exact hR,fun j i u hj hu=>?_,hp.some,hcap.1,by omega,hne,hp.good,w,hX,behind hlow hk hlow.size (fun x e=>(hx x e).1),hg⟩
  have:=hcells _ u (toks_at ts j i u hj hu)
  rw [Addr.add_lit,Nat.zero_add] at this
  rw [World.cell?_of_block (hk.block gp hlt.2 (fun e=>(hx gp e).2 rfl))]
  exact this
structure Same3 (g2 g3 g4:Nat) (l c e:Nat) (w0:World) (d:Nat->Bool) (xs:Nat->Value) (W:World):Prop where
  a0:d 0=true->xs 0 = .agg zeroT
  a1:d 1=true->xs 1 = .agg #[.int .i64 l,.int .i64 c]
  a2:d 2=true->xs 2 = .int .i64 e
  b0:Sits W g2 40 zeroT
  b1:Sits W g3 139 #[.int .i64 l,.int .i64 c]
  b2:Sits W g4 34 #[.int .i64 e]
  k:Below w0.heap.size w0 W
  ne:g2≠g3/\g2≠g4/\g3≠g4/\w0.heap.size<=g2/\w0.heap.size<=g3/\w0.heap.size<=g4
section
variable {g2 g3 g4 l c e : Nat} {w0 W : World} {d : Nat → Bool} {xs : Nat → Value}
theorem Same3.r0 (h:Same3 g2 g3 g4 l c e w0 d xs W):Same3 g2 g3 g4 l c e w0 (Flow.setB1 d 0) (Flow.setX1 xs 0 (.agg zeroT)) W :=
  ⟨fun _=>rfl,by simpa [Flow.setB1,Flow.setX1] using h.a1,by simpa [Flow.setB1,Flow.setX1] using h.a2,h.b0,h.b1,h.b2,h.k,h.ne⟩
theorem Same3.r1 (h:Same3 g2 g3 g4 l c e w0 d xs W):Same3 g2 g3 g4 l c e w0 (Flow.setB1 d 1) (Flow.setX1 xs 1 (.agg #[.int .i64 l,.int .i64 c])) W :=
  ⟨by simpa [Flow.setB1,Flow.setX1] using h.a0,fun _=>rfl,by simpa [Flow.setB1,Flow.setX1] using h.a2,h.b0,h.b1,h.b2,h.k,h.ne⟩
theorem Same3.r2 (h:Same3 g2 g3 g4 l c e w0 d xs W):Same3 g2 g3 g4 l c e w0 (Flow.setB1 d 2) (Flow.setX1 xs 2 (.int .i64 e)) W :=
  ⟨by simpa [Flow.setB1,Flow.setX1] using h.a0,by simpa [Flow.setB1,Flow.setX1] using h.a1,fun _=>rfl,h.b0,h.b1,h.b2,h.k,h.ne⟩
theorem Same3.w3 (h:Same3 g2 g3 g4 l c e w0 d xs W) (v:Value):Same3 g2 g3 g4 l c e w0 (Flow.setB1 d 3) (Flow.setX1 xs 3 v) (W.setRow g2 zeroT):=by
  have hr:=row_keeps W g2 zeroT
  exact ⟨by simpa [Flow.setB1,Flow.setX1] using h.a0,by simpa [Flow.setB1,Flow.setX1] using h.a1,by simpa [Flow.setB1,Flow.setX1] using h.a2,setRow_heap _ _ _ _ _ _ h.b0,h.b1.keep hr (by have:=h.ne;omega),h.b2.keep hr (by have:=h.ne;omega),behind h.k hr h.k.size (fun x e=>by have:=h.ne;omega),h.ne⟩
theorem Same3.w4 (h:Same3 g2 g3 g4 l c e w0 d xs W) (v:Value):Same3 g2 g3 g4 l c e w0 (Flow.setB1 d 4) (Flow.setX1 xs 4 v) (W.setRow g3 #[.int .i64 l,.int .i64 c]):=by
  have hr:=row_keeps W g3 #[.int .i64 l,.int .i64 c]
  exact ⟨by simpa [Flow.setB1,Flow.setX1] using h.a0,by simpa [Flow.setB1,Flow.setX1] using h.a1,by simpa [Flow.setB1,Flow.setX1] using h.a2,h.b0.keep hr (by have:=h.ne;omega),setRow_heap _ _ _ _ _ _ h.b1,h.b2.keep hr (by have:=h.ne;omega),behind h.k hr h.k.size (fun x e=>by have:=h.ne;omega),h.ne⟩
theorem Same3.w5 (h:Same3 g2 g3 g4 l c e w0 d xs W) (v:Value):Same3 g2 g3 g4 l c e w0 (Flow.setB1 d 5) (Flow.setX1 xs 5 v) (W.setCell ⟨g4,0,none⟩ (.int .i64 e)):=by
  have hr:Keeps (fun x=>x=g4) W (W.setCell ⟨g4,0,none⟩ (.int .i64 e)):=(Keeps.refl (fun x=>x=g4) W).put (p:=⟨g4,0,none⟩) (.inl rfl) _
  exact ⟨by simpa [Flow.setB1,Flow.setX1] using h.a0,by simpa [Flow.setB1,Flow.setX1] using h.a1,by simpa [Flow.setB1,Flow.setX1] using h.a2,h.b0.keep hr (by have:=h.ne;omega),h.b1.keep hr (by have:=h.ne;omega),h.b2.put 0 _,behind h.k hr h.k.size (fun x e=>by have:=h.ne;omega),h.ne⟩
end
theorem lexF_err:∀ (f:Nat) (l:List UInt8) (p:Nat × Nat) (e a b:Nat),Lex.lexF f l p = .err e a b->e≠0:=by
  intro f
  induction f with
  | zero=>intro l p e a b h;cases h
  | succ f ih =>
    intro l p e a b h
    rw [Lex.lexF] at h
    cases ho:Lex.one l with
    | fin=>rw [ho] at h;cases h
    | bad e2 =>
      rw [ho] at h
      injection h with h
      subst h
      cases l with
      | nil=>cases ho
      | cons c r =>
        rw [Lex.one_cons] at ho
        repeat' split at ho
        all_goals first | (injection ho with ho;omega) | cases ho
    | skip n=>rw [ho] at h;exact ih _ _ _ _ _ h
    | piece k n v =>
      rw [ho] at h
      simp only at h
      cases hx:Lex.lexF f (l.drop n) (Lex.adv p (l.take n)) with
      | ok ts=>rw [hx] at h;cases h
      | err e2 a2 b2 =>
        rw [hx] at h
        injection h with h1
        subst h1
        exact ih _ _ _ _ _ hx
theorem lexAll_err {l:List UInt8} {e a b:Nat} (h:Lex.lexAll l = .err e a b):e≠0:=by
  unfold Lex.lexAll at h
  split at h
  · exact lexF_err _ _ _ _ _ _ h
  · injection h with h;omega
set_option maxRecDepth 100000 in
set_option maxHeartbeats 4000000 in
theorem parse_any (s:ByteArray) (w:World) (hs:s.size<=9223372036854775807) (hX:Prog.All w):Calls Tryz.prog 55 #[.string s] w (ParseMade (parseAll s.data.toList) w):=by
  have hmf:∀ (fn:Fn) (first cap:Array Value) (w:World),(Instr.makeFunc fn first cap).run Tryz.prog w = .ok (.func fn first cap) w:=fun _ _ _ _=>rfl
  have HL:=Lib.hid (fun W=>Lex.lex_all s W hs)
  have hb:Below w.heap.size w (((w.alloc (.cells zeroT 40)).alloc (.cells #[.int .i64 0,.int .i64 0] 139)).alloc (.cells #[.int .i64 0] 34)):=(((Below.refl _ _).alloc (Nat.le_refl _) _).alloc (by simp) _).alloc (by simp;omega) _
  have HB:=Lib.hid hb
  have HX:=Lib.hid hX
  have HZ2:=Lib.hid (show Sits (((w.alloc (.cells zeroT 40)).alloc (.cells #[.int .i64 0,.int .i64 0] 139)).alloc (.cells #[.int .i64 0] 34)) w.heap.size 40 zeroT from ((Sits.new _ _ _).alloc _).alloc _)
  have HZ3:=Lib.hid (show Sits (((w.alloc (.cells zeroT 40)).alloc (.cells #[.int .i64 0,.int .i64 0] 139)).alloc (.cells #[.int .i64 0] 34)) (w.heap.size+1) 139 #[.int .i64 0,.int .i64 0] from (Sits.made (by simp) _ _).alloc _)
  have HZ4:=Lib.hid (show Sits (((w.alloc (.cells zeroT 40)).alloc (.cells #[.int .i64 0,.int .i64 0] 139)).alloc (.cells #[.int .i64 0] 34)) (w.heap.size+1+1) 34 #[.int .i64 0] from Sits.made (by simp) _ _)
  clear hb hX hs
  go_enter_defers Tryz.func55,Tryz.ntmps55
  go_wp2_with fail
  change Calls _ _ _ (((w.alloc (.cells zeroT 40)).alloc (.cells #[.int .i64 0,.int .i64 0] 139)).alloc (.cells #[.int .i64 0] 34)) _
  generalize ((w.alloc (.cells zeroT 40)).alloc (.cells #[.int .i64 0,.int .i64 0] 139)).alloc (.cells #[.int .i64 0] 34)=W0 at HB HZ2 HZ3 HZ4 ⊢
  generalize hg4:w.heap.size+1+1=g4 at HZ4 ⊢
  generalize hg3:w.heap.size+1=g3 at HZ3 ⊢
  obtain ⟨g2,hg2⟩:∃ g2,g2=w.heap.size:=⟨_,rfl⟩
  rw [<- hg2] at HZ2
  have HG:=Lib.hid (show g2=w.heap.size/\g2<g3/\g3<g4 by omega)
  clear hg4 hg3 hg2
  refine (HL.out _).mono ?_
  rintro e w1 ⟨hlow,hm⟩
  have HB1:=Lib.hid (HB.out.trans (hlow.mono HB.out.size))
  have hz2:=HZ2.out.below hlow HZ2.out.lt
  have hz3:=HZ3.out.below hlow HZ3.out.lt
  have hz4:=HZ4.out.below hlow HZ4.out.lt
  have c30:w1.cell? ⟨g3,0,none⟩=some (.int .i64 0):=hz3.cell 0
  have c31:w1.cell? ⟨g3,1,none⟩=some (.int .i64 0):=hz3.cell 1
  have c40:w1.cell? ⟨g4,0,none⟩=some (.int .i64 0):=hz4.cell 0
  have f30:=hz3.free 0
  have f31:=hz3.free 1
  have f40:=hz4.free 0
  have l3:=hz3.lt
  have l4:=hz4.lt
  have n34:g3≠g4:=by have:=HG.out;omega
  have HZ2b:=Lib.hid hz2
  have HZ3b:=Lib.hid hz3
  have HZ4b:=Lib.hid hz4
  clear hlow hz2 hz3 hz4 HZ2 HZ3 HZ4 HB HL
  cases hl:Lex.lexAll s.data.toList with
  | err er l c =>
    rw [hl] at hm
    simp only at hm
    subst hm
    have HE:=Lib.hid (parseAll_lex hl)
    have e1:((er:Int) != 0)=true:=by have:=lexAll_err hl;rw [bne_iff_ne];omega
    have HS3:=Lib.hid (show Same3 g2 g3 g4 l c er w (fun _=>false) (fun _=>undef) (((w1.setCell ⟨g3,0,none⟩ (.int .i64 l)).setCell ⟨g3,1,none⟩ (.int .i64 c)).setCell ⟨g4,0,none⟩ (.int .i64 er)) from by
      have hg:=HG.out
      have h0:=HB1.out
      have n1:g2≠g3:=by omega
      have n2:g2≠g4:=by omega
      exact ⟨fun h=>(by cases h),fun h=>(by cases h),fun h=>(by cases h),((HZ2b.out.far n1 _).far n1 _).far n2 _,((HZ3b.out.put 0 _).put 1 _).far n34 _,((HZ4b.out.far (p:=⟨g3,0,none⟩) n34.symm _).far (p:=⟨g3,1,none⟩) n34.symm _).put 0 _,
        ((h0.setCell (p:=⟨g3,0,none⟩) (by show w.heap.size<=g3;omega) _).setCell (p:=⟨g3,1,none⟩) (by show w.heap.size<=g3;omega) _).setCell (p:=⟨g4,0,none⟩) (by show w.heap.size<=g4;omega) _,by omega⟩)
    clear hl
    go_wp2_with fail
    generalize ((w1.setCell ⟨g3,0,none⟩ (.int .i64 l)).setCell ⟨g3,1,none⟩ (.int .i64 c)).setCell ⟨g4,0,none⟩ (.int .i64 er)=W3 at HS3 ⊢
    clear c30 c31 c40 f30 f31 f40 l3 l4
    have hg2:=HG.out.1
    refine Flow.wp_flowD [some 15,some 16,some 17,none,none,none] (Same3 g2 g3 g4 l c er w) (by kernel_rfl) (by kernel_rfl) (by rfl) ?_ ?_ ?_
    · intro xs
      exact ⟨fun h=>(by cases h),fun h=>(by cases h),fun h=>(by cases h),HS3.out.b0,HS3.out.b1,HS3.out.b2,HS3.out.k.trans ((drew_low W3).mono HS3.out.k.size),HS3.out.ne⟩
    · intro i o hi ho d A W hd he hI hk
      simp only [List.length_cons,List.length_nil,Nat.zero_add,Nat.reduceAdd] at hi
      have HI:=Lib.hid hI
      have k2:A.tmps[2]?.getD undef = .pointer (some ⟨g2,0,none⟩):=by rw [hg2];exact hk 2 (by rfl)
      have k3:A.tmps[3]?.getD undef = .pointer (some ⟨g3,0,none⟩):=hk 3 (by rfl)
      have k4:A.tmps[4]?.getD undef = .pointer (some ⟨g4,0,none⟩):=hk 4 (by rfl)
      clear hk
      refine ⟨?_,?_⟩
      · obtain rfl | rfl | rfl | rfl | rfl | rfl:i=0 \/ i=1 \/ i=2 \/ i=3 \/ i=4 \/ i=5:=by omega
        all_goals (injection ho with ho;subst ho;kernel_rfl)
      obtain rfl | rfl | rfl | rfl | rfl | rfl:i=0 \/ i=1 \/ i=2 \/ i=3 \/ i=4 \/ i=5:=by omega
      · injection ho with ho;subst ho
        refine yw_mono (Y:=EqVW (.agg zeroT) W) (fun u W' h=>by obtain ⟨rfl,rfl⟩:=h;exact HI.out.r0) ?_
        clear hI he
        go_simp
        exact ⟨rfl,rfl⟩
      · injection ho with ho;subst ho
        have f0:=hI.b1.cell 0
        have f1:=hI.b1.cell 1
        refine yw_mono (Y:=EqVW (.agg #[.int .i64 l,.int .i64 c]) W) (fun u W' h=>by obtain ⟨rfl,rfl⟩:=h;exact HI.out.r1) ?_
        clear hI he
        go_simp
        exact ⟨rfl,rfl⟩
      · injection ho with ho;subst ho
        have f2:=hI.b2.cell 0
        refine yw_mono (Y:=EqVW (.int .i64 er) W) (fun u W' h=>by obtain ⟨rfl,rfl⟩:=h;exact HI.out.r2) ?_
        clear hI he
        go_simp
        exact ⟨rfl,rfl⟩
      · injection ho with ho;subst ho
        have s0:A.tmps[15]?.getD undef = .agg zeroT:=(Flow.eval_form A 15).symm.trans (hI.a0 (he 0 (by kernel_rfl)))
        exact yw_store rfl k2 s0 hI.b0 testSize rfl z_one (HI.out.w3 undef)
      · injection ho with ho;subst ho
        have s0:A.tmps[16]?.getD undef = .agg #[.int .i64 l,.int .i64 c]:=(Flow.eval_form A 16).symm.trans (hI.a1 (he 1 (by kernel_rfl)))
        exact yw_store rfl k3 s0 hI.b1 plSize rfl (p_one l c) (HI.out.w4 undef)
      · injection ho with ho;subst ho
        have s0:A.tmps[17]?.getD undef = .int .i64 er:=(Flow.eval_form A 17).symm.trans (hI.a2 (he 2 (by kernel_rfl)))
        have cc:W.cell? ⟨g4,0,none⟩=some (.int .i64 er):=hI.b2.cell 0
        have ff:=hI.b2.free 0
        have l2:=hI.b2.lt
        refine yw_mono (Y:=EqVW undef (W.setCell ⟨g4,0,none⟩ (.int .i64 er))) (fun u W' h=>by obtain ⟨rfl,rfl⟩:=h;exact HI.out.w5 undef) ?_
        clear hI he
        go_simp
        exact ⟨rfl,rfl⟩
    · intro d xs W hd hI
      have x0:=hI.a0 (hd 0 (by decide))
      have x1:=hI.a1 (hd 1 (by decide))
      have x2:=hI.a2 (hd 2 (by decide))
      have HI:=Lib.hid hI
      simp only [Flow.putM,Act.put,List.setIfInBounds_toArray,List.set_cons_zero,List.set_cons_succ,Nat.zero_add,Nat.reduceAdd,x0,x1,x2]
      have r0:W.cell? ⟨w.heap.size,0,none⟩=some (.slice none 0 0):=by rw [<- hg2];exact hI.b0.cell 0
      have r1:W.cell? ⟨w.heap.size,1,none⟩=some (.slice none 0 0):=by rw [<- hg2];exact hI.b0.cell 1
      have r2:W.cell? ⟨w.heap.size,2,none⟩=some (.bool false):=by rw [<- hg2];exact hI.b0.cell 2
      have r3:W.cell? ⟨w.heap.size,3,none⟩=some (.pointer none):=by rw [<- hg2];exact hI.b0.cell 3
      have p0:W.cell? ⟨g3,0,none⟩=some (.int .i64 l):=hI.b1.cell 0
      have p1:W.cell? ⟨g3,1,none⟩=some (.int .i64 c):=hI.b1.cell 1
      have q0:W.cell? ⟨g4,0,none⟩=some (.int .i64 er):=hI.b2.cell 0
      clear hI
      go_wp2_with fail
      show Leaves _ _ _ _ [] .returning W
      refine ⟨.tuple #[.agg zeroT,.agg #[.int .i64 l,.int .i64 c],.int .i64 er],?_,?_⟩
      · simp [results,Tryz.results55,go_sem,r0,r1,r2,r3,p0,p1,q0,zeroT]
      · rw [HE.out]
        exact ⟨HI.out.k,rfl⟩
  | ok ts =>
    rw [hl] at hm
    obtain ⟨v,rfl,hown⟩:=hm
    have hp:=pcs_of hl
    obtain ⟨gp,cap',hv⟩:∃ gp cap',v = .slice (some ⟨gp,0,none⟩) ts.length cap':=by
      rcases hown.2 with ⟨_,h0⟩ | ⟨g',cap2,cur,h,_⟩
      · have:=hp.some;omega
      · exact ⟨g',cap2,h⟩
    subst hv
    have HL:=Lib.hid hl
    have HPC:=Lib.hid hp
    have HOW:=Lib.hid hown
    have H2:=Lib.hid (show Sits (((w1.setCell ⟨g3,0,none⟩ (.int .i64 0)).setCell ⟨g3,1,none⟩ (.int .i64 0)).setCell ⟨g4,0,none⟩ (.int .i64 0)) g2 40 zeroT/\Sits (((w1.setCell ⟨g3,0,none⟩ (.int .i64 0)).setCell ⟨g3,1,none⟩ (.int .i64 0)).setCell ⟨g4,0,none⟩ (.int .i64 0)) g3 139 #[.int .i64 0,.int .i64 0]/\Sits (((w1.setCell ⟨g3,0,none⟩ (.int .i64 0)).setCell ⟨g3,1,none⟩ (.int .i64 0)).setCell ⟨g4,0,none⟩ (.int .i64 0)) g4 34 #[.int .i64 0]/\Keeps (fun x=>x=g3 \/ x=g4) w1 (((w1.setCell ⟨g3,0,none⟩ (.int .i64 0)).setCell ⟨g3,1,none⟩ (.int .i64 0)).setCell ⟨g4,0,none⟩ (.int .i64 0)) from by
      have hg:=HG.out
      have n1:g2≠g3:=by omega
      have n2:g2≠g4:=by omega
      exact ⟨((HZ2b.out.far (p:=⟨g3,0,none⟩) n1 _).far (p:=⟨g3,1,none⟩) n1 _).far (p:=⟨g4,0,none⟩) n2 _,((HZ3b.out.put 0 _).put 1 _).far (p:=⟨g4,0,none⟩) n34 _,((HZ4b.out.far (p:=⟨g3,0,none⟩) n34.symm _).far (p:=⟨g3,1,none⟩) n34.symm _).put 0 _,
        (((Keeps.refl _ w1).put (p:=⟨g3,0,none⟩) (.inl (.inl rfl)) _).put (p:=⟨g3,1,none⟩) (.inl (.inl rfl)) _).put (p:=⟨g4,0,none⟩) (.inl (.inr rfl)) _⟩)
    clear hl hown hp
    go_upto_region 4 with fail
    generalize ((w1.setCell ⟨g3,0,none⟩ (.int .i64 0)).setCell ⟨g3,1,none⟩ (.int .i64 0)).setCell ⟨g4,0,none⟩ (.int .i64 0)=W2 at H2 ⊢
    clear c30 c31 c40 f30 f31 f40 l3 l4
    have HW:=Lib.hid (show Below w.heap.size w W2 from behind HB1.out H2.out.2.2.2 HB1.out.size (fun x e=>by have:=HG.out;omega))
    have HRD:=Lib.hid (rd_new (gR:=W2.heap.size) (W:=W2.alloc (.cells #[.slice (some ⟨gp,0,none⟩) ts.length cap'] 216)) HX.out HPC.out HB1.out HOW.out rfl (H2.out.2.2.2.alloc _)
      (fun x e=>⟨by have:=HG.out;omega,fun e2=>by
        subst e2
        rcases e with rfl | rfl
        · exact own_far HOW.out HZ3b.out (by decide) rfl
        · exact own_far HOW.out HZ4b.out (by decide) rfl⟩) (Sits.new _ _ _) HW.out.size)
    have HT:=Lib.hid (test_rd HPC.out 0 (txOut ts) _ (txOut_of HPC.out) HRD.out)
    have HA:=Lib.hid (show Below w.heap.size w (W2.alloc (.cells #[.slice (some ⟨gp,0,none⟩) ts.length cap'] 216)) from HW.out.alloc HW.out.size _)
    go_wp2_with fail
    refine HT.out.mono ?_
    rintro e w4 ⟨hk,hm⟩
    have hgR:∀ g,g<W2.heap.size->g≠W2.heap.size:=fun g h=>by omega
    have Z2:=(H2.out.1.alloc (.cells #[.slice (some ⟨gp,0,none⟩) ts.length cap'] 216)).keep hk (hgR _ H2.out.1.lt)
    have Z3:=(H2.out.2.1.alloc (.cells #[.slice (some ⟨gp,0,none⟩) ts.length cap'] 216)).keep hk (hgR _ H2.out.2.1.lt)
    have Z4:=(H2.out.2.2.1.alloc (.cells #[.slice (some ⟨gp,0,none⟩) ts.length cap'] 216)).keep hk (hgR _ H2.out.2.2.1.lt)
    have HB4:=Lib.hid (show Below w.heap.size w w4 from behind HA.out hk HA.out.size (fun x e=>by rw [e];exact HW.out.size))
    have HZ2:=Lib.hid Z2
    have HZ3:=Lib.hid Z3
    have HZ4:=Lib.hid Z4
    have HGL:=Lib.hid (show g2<W2.heap.size/\g3<W2.heap.size/\g4<W2.heap.size from ⟨H2.out.1.lt,H2.out.2.1.lt,H2.out.2.2.1.lt⟩)
    have hg2:=HG.out.1
    clear hk hgR
    cases ho:txOut ts with
    | bad j er =>
      rw [ho] at hm
      simp only at hm
      subst hm
      have HE:=Lib.hid (parseAll_bad HL.out ho)
      clear ho Z2 Z3 Z4
      go_wp2_with fail
      show Leaves _ _ _ _ [_] (.panicking (flt (tk ts j) er)) w4
      refine leaves_cons (f:=110) (args:=#[.pointer (some ⟨g2,0,none⟩),.pointer (some ⟨g3,0,none⟩),.pointer (some ⟨g4,0,none⟩)]) (by simp) (by rw [hg2];simp [go_sem]) ?_
      refine (catch_fault g2 g3 g4 _ _ _ (tk ts j).line (tk ts j).col er [] w4 HZ2.out rfl HZ3.out rfl HZ4.out).mono ?_
      rintro e u' w5 ⟨rfl,rfl,y2,y3,y4,hk⟩
      have HB5:=Lib.hid (show Below w.heap.size w w5 from behind HB4.out hk HB4.out.size (fun x e=>by have:=HG.out;omega))
      show Leaves _ _ _ _ [] .returning w5
      have r0:w5.cell? ⟨w.heap.size,0,none⟩=some (.slice none 0 0):=by rw [<- hg2];exact y2.cell 0
      have r1:w5.cell? ⟨w.heap.size,1,none⟩=some (.slice none 0 0):=by rw [<- hg2];exact y2.cell 1
      have r2:w5.cell? ⟨w.heap.size,2,none⟩=some (.bool false):=by rw [<- hg2];exact y2.cell 2
      have r3:w5.cell? ⟨w.heap.size,3,none⟩=some (.pointer none):=by rw [<- hg2];exact y2.cell 3
      have p0:w5.cell? ⟨g3,0,none⟩=some (.int .i64 (tk ts j).line):=y3.cell 0
      have p1:w5.cell? ⟨g3,1,none⟩=some (.int .i64 (tk ts j).col):=y3.cell 1
      have q0:w5.cell? ⟨g4,0,none⟩=some (.int .i64 er):=y4.cell 0
      clear y2 y3 y4 hk
      refine ⟨.tuple #[.agg zeroT,.agg #[.int .i64 (tk ts j).line,.int .i64 (tk ts j).col],.int .i64 er],?_,?_⟩
      · simp [results,Tryz.results55,go_sem,r0,r1,r2,r3,p0,p1,q0,zeroT]
      · rw [HE.out]
        exact ⟨HB5.out,rfl⟩
    | ok t k =>
      rw [ho] at hm
      obtain ⟨vi,vt,pa,rfl,hv⟩:=hm
      have HE:=Lib.hid (parseAll_ok HL.out ho)
      have HV:=Lib.hid hv
      obtain ⟨pi,ci,rfl⟩:∃ pi ci,vi = .slice pi t.init.length ci:=by obtain ⟨p,c,h,_⟩:=hv.init.len;exact ⟨p,c,h⟩
      obtain ⟨pt,ct,rfl⟩:∃ pt ct,vt = .slice pt t.threads.length ct:=by obtain ⟨vs,h1,_⟩:=hv.threads;obtain ⟨p,c,h,_⟩:=h1.len;exact ⟨p,c,h⟩
      have n23:g3≠w.heap.size:=by have:=HG.out;omega
      have n24:g4≠w.heap.size:=by have:=HG.out;omega
      have HZ2w:=Lib.hid (show Sits w4 w.heap.size 40 zeroT from hg2 ▸ Z2)
      have hrk:=row_keeps w4 w.heap.size (tCells (.slice pi t.init.length ci) (.slice pt t.threads.length ct) t.all pa)
      have y2:Sits (w4.setRow w.heap.size (tCells (.slice pi t.init.length ci) (.slice pt t.threads.length ct) t.all pa)) w.heap.size 40 (tCells (.slice pi t.init.length ci) (.slice pt t.threads.length ct) t.all pa):=setRow_heap _ _ _ _ _ _ HZ2w.out
      have y3:=Z3.keep hrk n23
      have y4:=Z4.keep hrk n24
      have hVR:=hv.keep (Stable.keeps hrk fun y cs hs hx=>by subst hx;exact hs.differ HZ2w.out (by decide) rfl) (fun g hg j u hu=>by
        rw [World.cell?_of_block (hrk.block g (World.block_lt_of_cell? _ _ hu) (fun e=>by
          have h1:=HGL.out
          have h2:(W2.alloc (.cells #[.slice (some ⟨gp,0,none⟩) ts.length cap'] 216)).heap.size=W2.heap.size+1:=by simp
          omega))];exact hu)
      have hBR:=behind HB4.out hrk HB4.out.size (fun x e=>by rw [e];exact Nat.le_refl _)
      unfold testAgg
      clear ho hv Z2 Z3 Z4 hrk
      generalize hWR:w4.setRow w.heap.size (tCells (.slice pi t.init.length ci) (.slice pt t.threads.length ct) t.all pa)=WR at y2 y3 y4 hVR hBR
      have HWR:=Lib.hid hWR
      clear hWR
      have p30:WR.cell? ⟨g3,0,none⟩=some (.int .i64 0):=y3.cell 0
      have p31:WR.cell? ⟨g3,1,none⟩=some (.int .i64 0):=y3.cell 1
      have p40:WR.cell? ⟨g4,0,none⟩=some (.int .i64 0):=y4.cell 0
      have f30:=y3.free 0
      have f31:=y3.free 1
      have f40:=y4.free 0
      have l3:=y3.lt
      have l4:=y4.lt
      have b0:WR.cell? ⟨w.heap.size,0,none⟩=some (.slice pi t.init.length ci):=y2.cell 0
      have b1:WR.cell? ⟨w.heap.size,1,none⟩=some (.slice pt t.threads.length ct):=y2.cell 1
      have b2:WR.cell? ⟨w.heap.size,2,none⟩=some (.bool t.all):=y2.cell 2
      have b3:WR.cell? ⟨w.heap.size,3,none⟩=some (.pointer pa):=y2.cell 3
      have HVR:=Lib.hid hVR
      have HBR:=Lib.hid hBR
      have HY2:=Lib.hid y2
      have HY3:=Lib.hid y3
      have HY4:=Lib.hid y4
      clear y2 y3 y4 hVR hBR
      go_wp2_with (refine wpList_store_row rfl 40 _ _ rfl w.heap.size (tCells (.slice pi t.init.length ci) (.slice pt t.threads.length ct) t.all pa) rfl rfl 40 zeroT HZ2w.out testSize rfl (t_one _ _ _ _ _ _ _ _) ?_;rw [HWR.out])
      have hU:∀ g,(W2.alloc (.cells #[.slice (some ⟨gp,0,none⟩) ts.length cap'] 216)).heap.size<=g->g≠g3/\g≠g4:=fun g hg=>by
        have h1:=HGL.out
        have h2:(W2.alloc (.cells #[.slice (some ⟨gp,0,none⟩) ts.length cap'] 216)).heap.size=W2.heap.size+1:=by simp
        omega
      have hk:Keeps (fun x=>x=g3 \/ x=g4) WR (((WR.setCell ⟨g3,0,none⟩ (.int .i64 0)).setCell ⟨g3,1,none⟩ (.int .i64 0)).setCell ⟨g4,0,none⟩ (.int .i64 0)) :=
        (((Keeps.refl _ WR).put (p:=⟨g3,0,none⟩) (.inl (.inl rfl)) _).put (p:=⟨g3,1,none⟩) (.inl (.inl rfl)) _).put (p:=⟨g4,0,none⟩) (.inl (.inr rfl)) _
      have hy3:Sits (((WR.setCell ⟨g3,0,none⟩ (.int .i64 0)).setCell ⟨g3,1,none⟩ (.int .i64 0)).setCell ⟨g4,0,none⟩ (.int .i64 0)) g3 139 #[.int .i64 0,.int .i64 0]:=((HY3.out.put 0 _).put 1 _).far (p:=⟨g4,0,none⟩) n34 _
      have hy4:Sits (((WR.setCell ⟨g3,0,none⟩ (.int .i64 0)).setCell ⟨g3,1,none⟩ (.int .i64 0)).setCell ⟨g4,0,none⟩ (.int .i64 0)) g4 34 #[.int .i64 0]:=((HY4.out.far (p:=⟨g3,0,none⟩) n34.symm _).far (p:=⟨g3,1,none⟩) n34.symm _).put 0 _
      have hy2:=HY2.out.keep hk (by rintro (e | e);exact n23 e.symm;exact n24 e.symm)
      have hVE:=HVR.out.keep (Stable.keeps hk fun y cs hs hx=>by
        rcases hx with rfl | rfl
        · exact hs.differ HY3.out (by decide) rfl
        · exact hs.differ HY4.out (by decide) rfl) (fun g hg j u hu=>by
        rw [World.cell?_of_block (hk.block g (World.block_lt_of_cell? _ _ hu) (fun e=>e.elim (hU g hg).1 (hU g hg).2))];exact hu)
      have hBE:=behind HBR.out hk HBR.out.size (fun x e=>by have:=HG.out;omega)
      generalize ((WR.setCell ⟨g3,0,none⟩ (.int .i64 0)).setCell ⟨g3,1,none⟩ (.int .i64 0)).setCell ⟨g4,0,none⟩ (.int .i64 0)=WE at hy2 hy3 hy4 hVE hBE ⊢
      clear p30 p31 p40 f30 f31 f40 l3 l4 b0 b1 b2 b3 hk hU
      show Leaves _ _ _ _ [_] .returning WE
      refine leaves_cons (f:=110) (args:=#[.pointer (some ⟨g2,0,none⟩),.pointer (some ⟨g3,0,none⟩),.pointer (some ⟨g4,0,none⟩)]) (by simp) (by rw [hg2];simp [go_sem]) ?_
      refine (catch_idle g2 g3 g4 WE).mono ?_
      rintro e u' w5 ⟨rfl,rfl,hb5⟩
      have y2:=hy2.below hb5 hy2.lt
      have y3:=hy3.below hb5 hy3.lt
      have y4:=hy4.below hb5 hy4.lt
      have HB5:=Lib.hid (hBE.trans (hb5.mono hBE.size))
      have HV5:=Lib.hid (hVE.v.below hb5)
      show Leaves _ _ _ _ [] .returning w5
      have r0:w5.cell? ⟨w.heap.size,0,none⟩=some (.slice pi t.init.length ci):=y2.cell 0
      have r1:w5.cell? ⟨w.heap.size,1,none⟩=some (.slice pt t.threads.length ct):=y2.cell 1
      have r2:w5.cell? ⟨w.heap.size,2,none⟩=some (.bool t.all):=y2.cell 2
      have r3:w5.cell? ⟨w.heap.size,3,none⟩=some (.pointer pa):=y2.cell 3
      have p0:w5.cell? ⟨g3,0,none⟩=some (.int .i64 0):=y3.cell 0
      have p1:w5.cell? ⟨g3,1,none⟩=some (.int .i64 0):=y3.cell 1
      have q0:w5.cell? ⟨g4,0,none⟩=some (.int .i64 0):=y4.cell 0
      clear y2 y3 y4 hb5 hy2 hy3 hy4 hVE hBE
      refine ⟨.tuple #[testAgg (.slice pi t.init.length ci) (.slice pt t.threads.length ct) t.all (.pointer pa),.agg #[.int .i64 0,.int .i64 0],.int .i64 0],?_,?_⟩
      · simp [results,Tryz.results55,go_sem,r0,r1,r2,r3,p0,p1,q0,testAgg]
      · rw [HE.out]
        exact ⟨HB5.out,_,_,_,rfl,HV5.out⟩
end Go.Proofs.YtagebkachdmnbaaGreatDoor.Prs
end
