/- Part 40 of the proof: what is used of the texts PbkT, PbkE. -/
import Derived.Test.YtbkdappgmcebaaaGreatDoorKC2
import Derived.Test.YtbkdappgmcebaaaGreatDoorKB8
import Derived.Test.YtbkdappgmcebaaaGreatDoorKA8
import Derived.Test.YtbkdappgmcebaaaGreatDoorKA4
import Derived.Test.YtbkdappgmcebaaaGreatDoorKA6
import Derived.Test.YtbkdappgmcebaaaGreatDoorKC6
import Derived.KernelRfl
import Derived.Test.YtbkdappgmcebaaaGreatDoorKD0
import Derived.Test.YtbkdappgmcebaaaGreatDoorKC3
import Derived.Test.YtbkdappgmcebaaaGreatDoorKB3
import Derived.Deep.AppendLies
import Derived.Test.YtbkdappgmcebaaaGreatDoorKD8
section
namespace Go.Proofs.YtbkdappgmcebaaaGreatDoor.Prs
open Go.Proofs.YtbkdappgmcebaaaGreatDoor.Expr Go.Proofs.YtbkdappgmcebaaaGreatDoor.Prog
theorem proper_loc {m:Mk} (h:m.proper):m.mode<256/\m.loc<256/\m.kind<256:=by
  obtain ⟨kind,reg,mode,loc,a,b⟩:=m
  obtain ⟨_,_,h⟩:=h
  simp only at h ⊢
  match kind,h with
  | 1,⟨h,hl,_⟩=>exact ⟨by omega,by omega,by omega⟩
  | 2,⟨h,hl,_⟩ | 4,⟨h,hl,_⟩ | 5,⟨h,hl,_⟩ | 6,⟨h,hl,_⟩=>exact ⟨by omega,by have:=hl.2;omega,by omega⟩
  | 3,⟨h,hl,_⟩=>exact ⟨by omega,by have:=hl.2;omega,by omega⟩
  | 7,⟨h,hl,_⟩=>exact ⟨by omega,by omega,by omega⟩
  | 8,⟨h,hl,_⟩ | 9,⟨h,hl,_⟩=>exact ⟨by omega,by omega,by omega⟩
  | 0,h | n+10,h=>exact h.elim
theorem fine_of:∀ {b:Blk},b.proper->plainB b->b.fine
  | .nil,_,_=>trivial
  | .cons m t e r,⟨hm,ht,he,hr,_⟩,⟨pm,pt,pe,pr⟩=>by
    obtain ⟨h1,h2,h3⟩:=proper_loc hm
    exact ⟨hm.1,hm.2.1,by have:=pm.reg;omega,h1,h2,h3,fine_of ht pt,fine_of he pe,fine_of hr pr⟩
theorem Read.good {t:Ts} (h:Read t):t.good/\t.small:=by
  have h4:=h.prints.few
  have hp:=h.prints.proper
  have hf:∀ b ∈ t.threads,b.fine:=fun b hb=>fine_of (hp.threads b hb).1 (h.prints.threads b hb)
  exact ⟨⟨h.init,by omega,fun b hb=>⟨hf b hb,over_deep b 8 (hp.threads b hb).1 (hp.threads b hb).2⟩,hp.ask⟩,
    ⟨h.init,fun i hi=>⟨by have:=(hp.init i hi).2;omega,(h.prints.init i hi).2⟩,by omega,fun b hb=>⟨hf b hb,by have:=h.each b hb;omega⟩,hp.ask⟩⟩
end Go.Proofs.YtbkdappgmcebaaaGreatDoor.Prs
end
section
namespace Go.Proofs.YtbkdappgmcebaaaGreatDoor.Prs
open Go.Proofs.YtbkdappgmcebaaaGreatDoor.Expr Go.Proofs.YtbkdappgmcebaaaGreatDoor.Prog
open Go.Proofs.YtbkdappgmcebaaaGreatDoor.Lex (Tok)
section
variable {ts : List Lex.Tok}
def Out.Er {α:Type} (o:Out α):Prop:=∀ j e,o = .bad j e->e≠0
def Out.InE {α:Type} (n lo:Nat) (o:Out α):Prop:=(∀ a k,o = .ok a k->lo<=k/\k<n)/\o.Er
theorem er_bad {α:Type} {j e:Nat} (h:e≠0):(Out.bad (α:=α) j e).Er:=fun _ _ h'=>by injection h' with _ h';rw [<- h'];exact h
theorem er_ok {α:Type} {a:α} {k:Nat}:(Out.ok a k).Er:=fun _ _ h=>by cases h
theorem er_map {α β:Type} {o:Out α} {f:α->β} (h:o.Er):(o.map f).Er:=by
  cases o with
  | bad j e=>exact er_bad (h _ _ rfl)
  | ok a k=>exact er_ok
theorem er_bind {α β:Type} {o:Out α} {f:α->Nat->Out β} (h:o.Er) (h2:∀ a k,(f a k).Er):(o.bind f).Er:=by
  cases o with
  | bad j e=>exact er_bad (h _ _ rfl)
  | ok a k=>exact h2 a k
theorem er_word {α:Type} {f:List UInt8->Option α} {k:Nat}:(wordF ts f k).Er:=by
  unfold wordF
  split
  · split
    · exact er_ok
    · exact er_bad (by decide)
  · exact er_bad (by decide)
theorem er_sign {s:List UInt8} {k:Nat}:(signF ts s k).Er:=by
  unfold signF
  split
  · exact er_ok
  · exact er_bad (by decide)
theorem er_leaf {ask:Bool} {k:Nat}:(leafF ts ask k).Er:=by
  unfold leafF
  split
  · split
    · split
      · split
        · exact er_map er_word
        · exact er_bad (by decide)
      · exact er_ok
    · exact er_map er_word
  · split
    · exact er_ok
    · exact er_map er_word
theorem px_er {ask:Bool} {g:Gl} {k:Nat} {out:Out Ex} (h:Px ts ask g k out):out.Er:=by
  induction h with
  | leaf _ _=>exact er_leaf
  | deep _ _=>exact er_bad (by decide)
  | sign _ _ _ ih=>exact er_map ih
  | paren _ _ _ _ ih=>exact er_bind ih fun _ _=>er_map er_sign
  | first _ _ _ ih=>exact ih
  | firstBad _ ih=>exact er_bad (ih _ _ rfl)
  | stop _=>exact er_ok
  | go _ _ _ _ ih=>exact ih
  | goBad _ _ ih=>exact er_bad (ih _ _ rfl)
theorem e_bad {α:Type} {n lo j e:Nat} (h:e≠0):(Out.bad (α:=α) j e).InE n lo:=⟨fun _ _ h'=>(by cases h'),er_bad h⟩
theorem e_ok {α:Type} {n lo k:Nat} {a:α} (h1:lo<=k) (h2:k<n):(Out.ok a k).InE n lo:=⟨fun _ _ h=>by injection h with _ h;subst h;exact ⟨h1,h2⟩,er_ok⟩
theorem e_bind {α β:Type} {n lo:Nat} {o:Out α} {f:α->Nat->Out β} (h1:o.InE n lo) (h2:∀ a k,lo<=k->k<n->(f a k).InE n lo):(o.bind f).InE n lo:=by
  cases o with
  | bad j e=>exact e_bad (h1.2 _ _ rfl)
  | ok a k=>exact h2 a k (h1.1 a k rfl).1 (h1.1 a k rfl).2
theorem e_map {α β:Type} {n lo:Nat} {o:Out α} {f:α->β} (h1:o.InE n lo):(o.map f).InE n lo:=by
  cases o with
  | bad j e=>exact e_bad (h1.2 _ _ rfl)
  | ok a k=>exact e_ok (h1.1 a k rfl).1 (h1.1 a k rfl).2
theorem e_low {α:Type} {n lo l2:Nat} {o:Out α} (h:o.InE n l2) (hl:lo<=l2):o.InE n lo:=⟨fun a k e=>⟨Nat.le_trans hl (h.1 a k e).1,(h.1 a k e).2⟩,h.2⟩
theorem word_inE (hg:Good ts) {α:Type} {f:List UInt8->Option α} {k lo:Nat} (hk:k<ts.length) (hl:lo<=k+1):(wordF ts f k).InE ts.length lo:=by
  unfold wordF
  split
  · rename_i hq
    have:=hg.more k hk (by omega)
    split
    · exact e_ok hl (by omega)
    · exact e_bad (by decide)
  · exact e_bad (by decide)
theorem sign_inE (hg:Good ts) {s:List UInt8} (hs:s ≠ []) {k lo:Nat} (hk:k<ts.length) (hl:lo<=k+1):(signF ts s k).InE ts.length lo:=by
  unfold signF
  split
  · rename_i hc
    have:=hg.more k hk fun h0=>hs (by rw [<- hc,hg.fin k hk h0])
    exact e_ok hl (by omega)
  · exact e_bad (by decide)
theorem expr_inE (hg:Good ts) (ask:Bool) {k lo:Nat} (hk:k<ts.length) (hl:lo<=k+1):(exprF ts ask k).InE ts.length lo:=by
  obtain ⟨out,hx,hb⟩:=(px_total (ask:=ask) hg (ts.length - k) k (Nat.le_refl _) hk).2 0 1 (by omega) (by omega)
  rw [exprF_of hx]
  cases out with
  | bad j e=>exact e_bad (px_er hx _ _ rfl)
  | ok a k1 =>
    have h1:k<k1:=hx.grows _ _ rfl
    have h2:=hb _ _ rfl
    show (if 12<a.depth then Out.bad k 4 else Out.ok a k1).InE ts.length lo
    split
    · exact e_bad (by decide)
    · exact e_ok (by omega) h2
theorem call_inE (hg:Good ts) (kind r:Nat) {k lo:Nat} (hk:k<ts.length) (hl:lo<=k+1):(callF ts kind r k).InE ts.length lo:=by
  unfold callF
  refine e_bind (sign_inE hg (by simp) hk hl) fun _ k h1 h2=>e_bind ?_ fun x k h1 h2=>e_bind ?_ fun a k h1 h2=>e_bind ?_ fun b k h1 h2=>e_bind (word_inE hg h2 (by omega)) fun m k h1 h2=>e_bind (sign_inE hg (by simp) h2 (by omega)) fun _ k h1 h2=>e_map (sign_inE hg (by simp) h2 (by omega))
  · split
    · exact e_ok h1 h2
    · exact e_bind (word_inE hg h2 (by omega)) fun x k h1 h2=>e_map (sign_inE hg (by simp) h2 (by omega))
  · split
    · exact e_ok h1 h2
    · exact e_bind (expr_inE hg false h2 (by omega)) fun x k h1 h2=>e_map (sign_inE hg (by simp) h2 (by omega))
  · split
    · exact e_bind (expr_inE hg false h2 (by omega)) fun x k h1 h2=>e_map (sign_inE hg (by simp) h2 (by omega))
    · exact e_ok h1 h2
theorem got_inE (hg:Good ts) (r:Nat) {k lo:Nat} (hk:k<ts.length) (hl:lo<=k+1):(gotF ts r k).InE ts.length lo:=by
  have hm:∀ s:List UInt8,s ≠ []->ltrs ts k=s->k+1<ts.length:=fun s hs hc=>hg.more k hk fun h0=>hs (by rw [<- hc,hg.fin k hk h0])
  unfold gotF
  split
  · rename_i hc;exact call_inE hg 2 r (hm _ (by decide) hc) (by omega)
  split
  · rename_i hc;exact call_inE hg 4 r (hm _ (by decide) hc) (by omega)
  split
  · rename_i hc;exact call_inE hg 5 r (hm _ (by decide) hc) (by omega)
  split
  · rename_i hc;exact call_inE hg 6 r (hm _ (by decide) hc) (by omega)
  exact e_bind (expr_inE hg false hk hl) fun x k h1 h2=>e_map (sign_inE hg (by simp) h2 (by omega))
theorem flat_inE (hg:Good ts) {k lo:Nat} (hk:k<ts.length) (hl:lo<=k+1):(flatF ts k).InE ts.length lo:=by
  have hm:∀ s:List UInt8,s ≠ []->ltrs ts k=s->k+1<ts.length:=fun s hs hc=>hg.more k hk fun h0=>hs (by rw [<- hc,hg.fin k hk h0])
  unfold flatF
  split
  · rename_i hc;exact call_inE hg 3 0 (hm _ (by decide) hc) (by omega)
  split
  · rename_i hc;exact call_inE hg 7 0 (hm _ (by decide) hc) (by omega)
  exact e_bind (word_inE hg hk hl) fun r k h1 h2=>e_bind (sign_inE hg (by simp) h2 (by omega)) fun _ k h1 h2=>e_low (got_inE hg r h2 (by omega)) h1
theorem cond_inE (hg:Good ts) {k lo:Nat} (hk:k<ts.length) (hl:lo<=k+1):(condF ts k).InE ts.length lo:=by
  unfold condF
  exact e_bind (sign_inE hg (by simp) hk hl) fun _ k h1 h2=>e_bind (expr_inE hg false h2 (by omega)) fun a k h1 h2=>e_map (sign_inE hg (by simp) h2 (by omega))
theorem bx_totalE (hg:Good ts):∀ (n k:Nat),ts.length - k<=n->k<ts.length->∀ d,(∃ out,Bx ts (.block d) k out/\out.InE ts.length (k+1))/\(∃ out,Bx ts (.stmt d) k out/\out.InE ts.length (k+1)/\∀ b k1,out = .ok b k1->∃ m t e,b = .cons m t e .nil) /\
    ∀ q,∃ out,Bx ts (.more d q) k out/\out.InE ts.length (k+1):=by
  intro n
  induction n with
  | zero=>intro k h1 h2;omega
  | succ n ih =>
    intro k h1 h2 d
    have hm:∀ s:List UInt8,s ≠ []->ltrs ts k=s->k+1<ts.length:=fun s hs hc=>hg.more k h2 fun h0=>hs (by rw [<- hc,hg.fin k h2 h0])
    have hst:∃ out,Bx ts (.stmt d) k out/\out.InE ts.length (k+1)/\∀ b k1,out = .ok b k1->∃ m t e,b = .cons m t e .nil:=by
      by_cases hq:ltrs ts k=wIf \/ ltrs ts k=wWhile
      · have hk1:k+1<ts.length:=hq.elim (hm _ (by decide)) (hm _ (by decide))
        have hc:=cond_inE hg hk1 (lo:=k+1) (by omega)
        cases hcc:condF ts (k+1) with
        | bad j er=>exact ⟨_,.headBad hq hcc,e_bad (hc.2 _ _ hcc),fun _ _ h=>by cases h⟩
        | ok a k1 =>
          obtain ⟨l1,l2⟩:=hc.1 a k1 hcc
          obtain ⟨o1,hb1,hi1⟩:=(ih k1 (by omega) l2 (d+1)).1
          cases o1 with
          | bad j er=>exact ⟨_,.thenBad hq hcc hb1,e_bad (hi1.2 _ _ rfl),fun _ _ h=>by cases h⟩
          | ok t k2 =>
            obtain ⟨l3,l4⟩:=hi1.1 t k2 rfl
            rcases hq with hq | hq
            · by_cases he:ltrs ts k2=wElse
              · have hk3:k2+1<ts.length:=hg.more k2 l4 fun h0=>by rw [hg.fin k2 l4 h0] at he;cases he
                obtain ⟨o2,hb2,hi2⟩:=(ih (k2+1) (by omega) hk3 (d+1)).1
                refine ⟨_,.other hq hcc hb1 he hb2,e_map (e_low hi2 (by omega)),fun b k1 h=>?_⟩
                cases o2 with
                | bad j er=>cases h
                | ok e k4=>injection h with h _;exact ⟨_,_,_,h.symm⟩
              · exact ⟨_,.cond hq hcc hb1 he,e_ok (by omega) l4,fun b k1 h=>by injection h with h _;exact ⟨_,_,_,h.symm⟩⟩
            · exact ⟨_,.loop hq hcc hb1,e_ok (by omega) l4,fun b k1 h=>by injection h with h _;exact ⟨_,_,_,h.symm⟩⟩
      · refine ⟨_,.flat (fun h=>hq (.inl h)) (fun h=>hq (.inr h)),e_map (flat_inE hg h2 (Nat.le_refl _)),fun b k1 h=>?_⟩
        cases hf:flatF ts k with
        | bad j er=>rw [hf] at h;cases h
        | ok m k1=>rw [hf] at h;injection h with h _;exact ⟨_,_,_,h.symm⟩
    have hmo:∀ q,∃ out,Bx ts (.more d q) k out/\out.InE ts.length (k+1):=by
      intro q
      by_cases hc:ltrs ts k=[125]
      · exact ⟨_,.close hc,e_ok (Nat.le_refl _) (hm _ (by simp) hc)⟩
      · obtain ⟨out,hs,hi,hf⟩:=hst
        cases out with
        | bad j er=>exact ⟨_,.stepBad hc hs,e_bad (hi.2 _ _ rfl)⟩
        | ok b k1 =>
          obtain ⟨m,t,e,rfl⟩:=hf _ _ rfl
          obtain ⟨l1,l2⟩:=hi.1 _ _ rfl
          obtain ⟨o2,hb2,hi2⟩:=(ih k1 (by omega) l2 d).2.2 (q.snoc m t e)
          exact ⟨_,.step hc hs hb2,e_low hi2 (by omega)⟩
    refine ⟨?_,hst,hmo⟩
    by_cases hc:ltrs ts k=[123]
    · by_cases hd:8<d
      · exact ⟨_,.deep hc hd,e_bad (by decide)⟩
      · have hk1:=hm _ (by simp) hc
        obtain ⟨o,hb,hi⟩:=(ih (k+1) (by omega) hk1 d).2.2 .nil
        exact ⟨_,.block hc (by omega) hb,e_low hi (by omega)⟩
    · exact ⟨_,.none hc,e_bad (by decide)⟩
theorem init_inE (hg:Good ts) {k lo:Nat} (hk:k<ts.length) (hl:lo<=k+1):(initF ts k).InE ts.length lo:=by
  unfold initF
  refine e_bind (word_inE hg hk hl) fun x k h1 h2=>e_bind (sign_inE hg (by simp) h2 (by omega)) fun _ k h1 h2=>e_bind ?_ fun n k h1 h2=>e_map (sign_inE hg (by simp) h2 (by omega))
  split
  · rename_i hq
    have:=hg.more k h2 (by omega)
    exact e_ok (by omega) (by omega)
  · exact e_bad (by decide)
theorem ask_er (hg:Good ts) {l:List (Nat × Nat)} {q:List Blk} {k:Nat} (hk:k<ts.length):(askF ts l q k).Er:=by
  rw [askF_of]
  unfold forallF
  split
  · rename_i hq
    have hm:=hg.more k hk (by omega)
    split
    · rw [ok_bind]
      exact er_bind (expr_inE hg true (lo:=0) hm (by omega)).2 fun _ _=>er_bind er_sign fun _ _=>by
        split
        · exact er_ok
        · exact er_bad (by decide)
    · exact er_bad (by decide)
  · exact er_bad (by decide)
theorem tx_threadsE (hg:Good ts) (l:List (Nat × Nat)):∀ (n k:Nat),ts.length - k<=n->k<ts.length->∀ q,∃ out,Tx ts (.threads l q) k out/\out.Er:=by
  intro n
  induction n with
  | zero=>intro k h1 h2;omega
  | succ n ih =>
    intro k h1 h2 q
    by_cases ht:ltrs ts k=wThread
    · by_cases hq:4<=q.length
      · exact ⟨_,.many ht hq,er_bad (by decide)⟩
      · have hk1:k+1<ts.length:=hg.more k h2 fun h0=>by rw [hg.fin k h2 h0] at ht;cases ht
        obtain ⟨o,hb,hi⟩:=(bx_totalE hg _ (k+1) (Nat.le_refl _) hk1 1).1
        cases o with
        | bad j er=>exact ⟨_,.threadBad ht (by omega) hb,er_bad (hi.2 _ _ rfl)⟩
        | ok b k1 =>
          obtain ⟨l1,l2⟩:=hi.1 _ _ rfl
          obtain ⟨out,hx,he⟩:=ih k1 (by omega) l2 (q ++ [b])
          exact ⟨_,.thread ht (by omega) hb hx,he⟩
    · exact ⟨_,.ask ht,ask_er hg h2⟩
theorem tx_totalE (hg:Good ts):∀ (n k:Nat),ts.length - k<=n->k<ts.length->∀ l,∃ out,Tx ts (.inits l) k out/\out.Er:=by
  intro n
  induction n with
  | zero=>intro k h1 h2;omega
  | succ n ih =>
    intro k h1 h2 l
    by_cases hi:ltrs ts k=wInit
    · have hk1:k+1<ts.length:=hg.more k h2 fun h0=>by rw [hg.fin k h2 h0] at hi;cases hi
      have hin:=init_inE hg hk1 (lo:=k+1) (by omega)
      cases hx:initF ts (k+1) with
      | bad j er=>exact ⟨_,.initBad hi hx,er_bad (hin.2 _ _ hx)⟩
      | ok x k1 =>
        obtain ⟨l1,l2⟩:=hin.1 _ _ hx
        obtain ⟨out,ho,he⟩:=ih k1 (by omega) l2 (l ++ [x])
        exact ⟨_,.init hi hx ho,he⟩
    · obtain ⟨out,ho,he⟩:=tx_threadsE hg l _ k (Nat.le_refl _) h2 []
      exact ⟨_,.inited hi ho,he⟩
end
theorem txOut_er {ts:List Lex.Tok} (hp:Pcs ts):(txOut ts).Er:=by
  obtain ⟨out,h,he⟩:=tx_totalE hp.good _ 0 (Nat.le_refl _) hp.some []
  rw [txOut_is h];exact he
theorem oneE_bad {l:List UInt8} {e:Nat} (h:Lex.one l = .bad e):e≠0:=by
  cases l with
  | nil=>cases h
  | cons a m =>
    rw [Lex.one_cons] at h
    repeat' split at h
    all_goals first | (injection h with e1;omega) | cases h
theorem lexE_err:∀ (f:Nat) (l:List UInt8) (p:Nat × Nat) (e x y:Nat),Lex.lexF f l p = .err e x y->e≠0:=by
  intro f
  induction f with
  | zero=>intro l p e x y h;cases h
  | succ f ih =>
    intro l p e x y h
    rw [Lex.lexF] at h
    cases ho:Lex.one l with
    | fin=>rw [ho] at h;cases h
    | bad e' =>
      rw [ho] at h
      injection h with a b c
      subst a;subst b;subst c
      exact oneE_bad ho
    | skip n =>
      rw [ho] at h
      exact ih _ _ _ _ _ h
    | piece k n v =>
      rw [ho] at h
      simp only at h
      cases hx:Lex.lexF f (l.drop n) (Lex.adv p (l.take n)) with
      | ok ts'=>rw [hx] at h;cases h
      | err e' x' y' =>
        rw [hx] at h
        injection h with a b c
        subst a;subst b;subst c
        exact ih _ _ _ _ _ hx
theorem parse_er {s:List UInt8} {l c e:Nat} (h:parseAll s = .err l c e):e≠0:=by
  cases hl:Lex.lexAll s with
  | err e' l' c' =>
    rw [parseAll_lex hl] at h
    injection h with _ _ h
    subst h
    unfold Lex.lexAll at hl
    split at hl
    · exact lexE_err _ _ _ _ _ _ hl
    · injection hl with hl _ _;omega
  | ok ts =>
    cases ht:txOut ts with
    | ok t k=>rw [parseAll_ok hl ht] at h;cases h
    | bad j e' =>
      rw [parseAll_bad hl ht] at h
      injection h with _ _ h
      rw [<- h]
      exact txOut_er (pcs_of hl) _ _ ht
end Go.Proofs.YtbkdappgmcebaaaGreatDoor.Prs
end
