/- Part 20 of the proof: what is used of the texts LexS, LexA. -/
import Derived.KernelRfl
import Derived.Test.YtagebkachdmnbaaGreatDoorRows
import Derived.WalkKit
import Derived.WalkLawsBesides
import Derived.WalkMore
import Derived.Scope
import Derived.ScopeJumps
import Derived.Outline
import Derived.Lib.Hide
import Derived.Lib.Bytealg
import Derived.LoopTactic
import Derived.Below
import Derived.BigRegion
import Derived.RegionTactic
import Derived.StillTailTactics
section
namespace Go.Proofs.YtagebkachdmnbaaGreatDoor.Lex
def isD (c:UInt8):Bool:=decide (48<=c.toNat) && decide (c.toNat<=57)
def isL (c:UInt8):Bool:=decide (97<=c.toNat) && decide (c.toNat<=122)
def isLD (c:UInt8):Bool:=isL c || isD c
def signs:List UInt8:=[61,33,60,43,45,124,94,42,47,37,38,40,41,123,125,44,59,58]
def isS (c:UInt8):Bool:=decide (c ∈ signs)
def isB (c:UInt8):Bool:=c == 32 || c == 9 || c == 10
def isR (c:UInt8):Bool:=c != 10
def grows (c:UInt8):Bool:=c == 61 || c == 33 || c == 60
structure Tok where
  kind:Nat
  text:List UInt8
  num:Nat
  line:Nat
  col:Nat
deriving DecidableEq
inductive Res where
  | ok (ts:List Tok)
  | err (e line col:Nat)
deriving DecidableEq
def Res.more (acc:List Tok):Res->Res
  | .ok ts => .ok (acc ++ ts)
  | r=>r
inductive Step where
  | fin
  | skip (n:Nat)
  | piece (kind n v:Nat)
  | bad (e:Nat)
deriving DecidableEq
def num (l:List UInt8):Nat:=l.foldl (fun n c=>10 * n+(c.toNat - 48)) 0
def top:Nat:=18446744073709551616
def step1 (p:Nat × Nat) (c:UInt8):Nat × Nat:=if c == 10 then (p.1+1,1) else (p.1,p.2+1)
def adv (p:Nat × Nat) (l:List UInt8):Nat × Nat:=l.foldl step1 p
def one:List UInt8->Step
  | [] => .fin
  | c :: r =>
    if isB c then .skip 1
    else if c == 35 then .skip ((c :: r).takeWhile isR).length
    else if isD c then
      if num ((c :: r).takeWhile isD)<top then .piece 1 ((c :: r).takeWhile isD).length (num ((c :: r).takeWhile isD)) else .bad 4
    else if isL c then .piece 2 ((c :: r).takeWhile isLD).length 0
    else if isS c then
      if grows c && r.head? == some 61 then .piece 3 2 0 else .piece 3 1 0
    else .bad 3
def lexF:Nat->List UInt8->Nat × Nat->Res
  | 0,_,p => .ok [⟨0,[],0,p.1,p.2⟩]
  | f+1,l,p =>
    match one l with
    | .fin => .ok [⟨0,[],0,p.1,p.2⟩]
    | .skip n=>lexF f (l.drop n) (adv p (l.take n))
    | .piece k n v=>(lexF f (l.drop n) (adv p (l.take n))).more [⟨k,l.take n,v,p.1,p.2⟩]
    | .bad e => .err e p.1 p.2
def lex (l:List UInt8) (p:Nat × Nat):Res:=lexF (l.length+1) l p
def lexAll (l:List UInt8):Res:=if l.length<=4096 then lex l (1,1) else .err 4 1 1
def Step.len:Step->Nat
  | .skip n=>n
  | .piece _ n _=>n
  | _=>1
theorem takeWhile_pos {q:UInt8->Bool} {c:UInt8} {r:List UInt8} (h:q c=true):0<((c :: r).takeWhile q).length:=by
  simp [h]
theorem one_len (c:UInt8) (r:List UInt8):0<(one (c :: r)).len/\(one (c :: r)).len<=(c :: r).length:=by
  have tw:∀ q:UInt8->Bool,((c :: r).takeWhile q).length<=(c :: r).length:=fun q=>(List.takeWhile_prefix q).length_le
  unfold one
  by_cases h1:isB c=true
  · simp [h1,Step.len]
  by_cases h2:(c == 35)=true
  · have:isR c=true:=by
      have:c=35:=by simpa using h2
      subst this;rfl
    simp only [h1,h2,Step.len,if_true,Bool.false_eq_true,if_false]
    exact ⟨takeWhile_pos this,tw _⟩
  by_cases h3:isD c=true
  · by_cases h4:num ((c :: r).takeWhile isD)<top
    · simp only [h1,h2,h3,h4,Step.len,if_true,Bool.false_eq_true,if_false]
      exact ⟨takeWhile_pos h3,tw _⟩
    · simp only [h1,h2,h3,h4,Step.len,if_true,Bool.false_eq_true,if_false]
      simp
  by_cases h5:isL c=true
  · simp only [h1,h2,h3,h5,Step.len,if_true,Bool.false_eq_true,if_false]
    exact ⟨takeWhile_pos (by simp [isLD,h5]),tw _⟩
  by_cases h6:isS c=true
  · by_cases h7:(grows c && r.head? == some 61)=true
    · simp only [h1,h2,h3,h5,h6,h7,Step.len,if_true,Bool.false_eq_true,if_false]
      cases r with
      | nil=>simp at h7
      | cons d r=>simp
    · simp [h1,h2,h3,h5,h6,h7,Step.len]
  · simp [h1,h2,h3,h5,h6,Step.len]
theorem lexF_same:∀ (f g:Nat) (l:List UInt8) (p:Nat × Nat),l.length<f->l.length<g->lexF f l p=lexF g l p:=by
  intro f
  induction f with
  | zero=>intro g l p h;omega
  | succ f ih =>
    intro g l p hf hg
    obtain ⟨g,rfl⟩:∃ k,g=k+1:=⟨g - 1,by omega⟩
    cases l with
    | nil=>simp [lexF,one]
    | cons c r =>
      have hl:=one_len c r
      simp only [lexF]
      cases ho:one (c :: r) with
      | fin=>rfl
      | bad e=>rfl
      | skip n =>
        rw [ho] at hl;simp only [Step.len] at hl
        exact ih g _ _ (by simp only [List.length_drop];omega) (by simp only [List.length_drop];omega)
      | piece k n v =>
        rw [ho] at hl;simp only [Step.len] at hl
        show Res.more _ _=Res.more _ _
        rw [ih g _ _ (by simp only [List.length_drop];omega) (by simp only [List.length_drop];omega)]
theorem lex_fin (p:Nat × Nat):lex [] p = .ok [⟨0,[],0,p.1,p.2⟩]:=rfl
theorem lex_skip {l:List UInt8} {p:Nat × Nat} {n:Nat} (h:one l = .skip n):lex l p=lex (l.drop n) (adv p (l.take n)):=by
  cases l with
  | nil=>simp [one] at h
  | cons c r =>
    have hl:=one_len c r
    rw [h] at hl;simp only [Step.len] at hl
    unfold lex
    rw [lexF,h]
    exact lexF_same _ _ _ _ (by simp only [List.length_drop];omega) (by omega)
theorem lex_piece {l:List UInt8} {p:Nat × Nat} {k n v:Nat} (h:one l = .piece k n v) :
    lex l p=(lex (l.drop n) (adv p (l.take n))).more [⟨k,l.take n,v,p.1,p.2⟩]:=by
  cases l with
  | nil=>simp [one] at h
  | cons c r =>
    have hl:=one_len c r
    rw [h] at hl;simp only [Step.len] at hl
    unfold lex
    rw [lexF,h]
    show Res.more _ _=Res.more _ _
    rw [lexF_same _ _ _ _ (by simp only [List.length_drop];omega) (Nat.lt_succ_self _)]
theorem lex_bad {l:List UInt8} {p:Nat × Nat} {e:Nat} (h:one l = .bad e):lex l p = .err e p.1 p.2:=by
  unfold lex;rw [lexF,h]
theorem more_more (a b:List Tok) (r:Res):(r.more b).more a=r.more (a ++ b):=by
  cases r <;> simp [Res.more]
theorem more_nil (r:Res):r.more []=r:=by cases r <;> simp [Res.more]
def pl (l:List UInt8) (k:Nat):Nat × Nat:=adv (1,1) (l.take k)
theorem adv_append (p:Nat × Nat) (a b:List UInt8):adv p (a ++ b)=adv (adv p a) b:=by simp [adv]
theorem pl_succ (l:List UInt8) (k:Nat) (h:k<l.length):pl l (k+1)=step1 (pl l k) (l.getD k 0):=by
  have e:l.getD k 0=l[k]:=by simp [List.getD,h]
  unfold pl
  rw [List.take_succ_eq_append_getElem h,adv_append,e];rfl
theorem pl_add (l:List UInt8) (k n:Nat):adv (pl l k) ((l.drop k).take n)=pl l (k+n):=by
  unfold pl
  rw [<- adv_append,List.take_add]
theorem pl_bd (l:List UInt8) (k:Nat):1<=(pl l k).1/\(pl l k).1<=k+1/\1<=(pl l k).2/\(pl l k).2<=k+1:=by
  induction k with
  | zero=>simp [pl,adv]
  | succ k ih =>
    by_cases h:k<l.length
    · rw [pl_succ l k h]
      unfold step1
      split <;> simp <;> omega
    · have:pl l (k+1)=pl l k:=by
        unfold pl;rw [List.take_of_length_le (by omega),List.take_of_length_le (by omega)]
      rw [this];omega
theorem takeWhile_upto {q:UInt8->Bool} {l:List UInt8} {k j:Nat} (hk:k<=j) (hj:j<=l.length) (hin:∀ i,k<=i->i<j->q (l.getD i 0)=true)
    (hout:j<l.length->q (l.getD j 0)=false):(l.drop k).takeWhile q=(l.drop k).take (j - k):=by
  obtain ⟨n,rfl⟩:∃ n,j=k+n:=⟨j - k,by omega⟩
  clear hk
  rw [Nat.add_sub_cancel_left]
  induction n generalizing k with
  | zero =>
    by_cases h:k<l.length
    · have h0:=hout (by omega)
      have e:l.getD (k+0) 0=l[k]:=by simp [List.getD,h]
      rw [e] at h0
      rw [List.drop_eq_getElem_cons h,List.takeWhile_cons,h0];simp
    · rw [List.drop_of_length_le (by omega)];simp
  | succ n ih =>
    have h:k<l.length:=by omega
    have e:l.getD k 0=l[k]:=by simp [List.getD,h]
    rw [List.drop_eq_getElem_cons h,List.takeWhile_cons,<- e,hin k (Nat.le_refl _) (by omega),List.take_succ_cons]
    simp only [if_true]
    rw [ih (k:=k+1) (by omega) (fun i h1 h2=>hin i (by omega) (by omega)) (fun h=>by have:=hout (by omega);rw [Nat.add_assoc,Nat.add_comm 1 n];exact this)]
theorem drop_cons (l:List UInt8) (k:Nat) (h:k<l.length):l.drop k=l.getD k 0 :: l.drop (k+1):=by
  rw [List.drop_eq_getElem_cons h];simp [List.getD,h]
theorem take_snoc (l:List UInt8) (k j:Nat) (hk:k<=j) (h:j<l.length):(l.drop k).take (j+1 - k)=(l.drop k).take (j - k) ++ [l.getD j 0]:=by
  have e:j+1 - k=(j - k)+1:=by omega
  rw [e,List.take_succ_eq_append_getElem (by simp;omega)]
  congr 1
  have:k+(j - k)=j:=by omega
  simp [List.getD,h,this]
theorem num_snoc (l:List UInt8) (c:UInt8):num (l ++ [c])=10 * num l+(c.toNat - 48):=by simp [num]
theorem num_le_append (a b:List UInt8):num a<=num (a ++ b):=by
  induction b generalizing a with
  | nil=>simp
  | cons c r ih =>
    have h:=ih (a ++ [c])
    rw [num_snoc] at h
    rw [List.append_assoc] at h
    simp at h
    omega
theorem lex_on_skip {l:List UInt8} {k n:Nat} (h:one (l.drop k) = .skip n):lex (l.drop k) (pl l k)=lex (l.drop (k+n)) (pl l (k+n)):=by
  rw [lex_skip h,pl_add,List.drop_drop]
theorem lex_on_piece {l:List UInt8} {k d n v:Nat} (h:one (l.drop k) = .piece d n v) :
    lex (l.drop k) (pl l k)=(lex (l.drop (k+n)) (pl l (k+n))).more [⟨d,(l.drop k).take n,v,(pl l k).1,(pl l k).2⟩]:=by
  rw [lex_piece h,pl_add,List.drop_drop]
def Scan (q:UInt8->Bool) (l:List UInt8) (k j:Nat):Prop:=∀ i,k<=i->i<j->q (l.getD i 0)=true
def Stops (q:UInt8->Bool) (l:List UInt8) (j:Nat):Prop:=j<l.length->q (l.getD j 0)=false
theorem Scan.none (q:UInt8->Bool) (l:List UInt8) (k:Nat):Scan q l k k:=fun i h1 h2=>absurd h2 (by omega)
theorem Scan.next {q:UInt8->Bool} {l:List UInt8} {k j:Nat} (h:Scan q l k j) (hq:q (l.getD j 0)=true):Scan q l k (j+1):=by
  intro i h1 h2
  by_cases e:i=j
  · subst e;exact hq
  · exact h i h1 (by omega)
theorem scanned {q:UInt8->Bool} {l:List UInt8} {k j:Nat} (hk:k<=j) (hj:j<=l.length) (h:Scan q l k j) (hs:Stops q l j):(l.drop k).takeWhile q=(l.drop k).take (j - k) :=
  takeWhile_upto hk hj h hs
theorem scan_split {q:UInt8->Bool} {l:List UInt8} {k j:Nat} (hk:k<=j) (hj:j<=l.length) (h:Scan q l k j):(l.drop k).takeWhile q=(l.drop k).take (j - k) ++ (l.drop j).takeWhile q:=by
  obtain ⟨n,rfl⟩:∃ n,j=k+n:=⟨j - k,by omega⟩
  clear hk
  rw [Nat.add_sub_cancel_left]
  induction n generalizing k with
  | zero=>simp
  | succ n ih =>
    have hl:k<l.length:=by omega
    rw [drop_cons l k hl,List.takeWhile_cons,h k (Nat.le_refl _) (by omega),List.take_succ_cons]
    have e:k+(n+1)=k+1+n:=by omega
    have:=ih (k:=k+1) (by omega) (fun i h1 h2=>h i (by omega) (by omega))
    simp only [if_true,List.cons_append,e,this]
section
variable {l : List UInt8} {k j : Nat}
theorem one_blank (hk:k<l.length) (h:isB (l.getD k 0)=true):one (l.drop k) = .skip 1:=by
  rw [drop_cons l k hk];simp only [one,h,if_true]
theorem one_remark (hk:k<l.length) (hb:isB (l.getD k 0)=false) (h:(l.getD k 0 == 35)=true) (hkj:k<=j) (hj:j<=l.length) (hs:Scan isR l k j) (ht:Stops isR l j):one (l.drop k) = .skip (j - k):=by
  have e:=scanned hkj hj hs ht
  rw [drop_cons l k hk] at e ⊢
  simp only [one,hb,h,e,Bool.false_eq_true,if_false,if_true,List.length_take]
  congr 1
  simp only [List.length_cons,List.length_drop];omega
theorem one_number (hk:k<l.length) (hb:isB (l.getD k 0)=false) (h35:(l.getD k 0 == 35)=false) (h:isD (l.getD k 0)=true) (hkj:k<=j) (hj:j<=l.length) (hs:Scan isD l k j) (ht:Stops isD l j)
    (hn:num ((l.drop k).take (j - k))<top):one (l.drop k) = .piece 1 (j - k) (num ((l.drop k).take (j - k))):=by
  have e:=scanned hkj hj hs ht
  have hl:((l.drop k).take (j - k)).length=j - k:=by simp only [List.length_take,List.length_drop];omega
  rw [drop_cons l k hk] at e hl hn ⊢
  simp only [one,hb,h35,h,e,hn,hl,Bool.false_eq_true,if_false,if_true]
theorem one_number_bad (hk:k<l.length) (hb:isB (l.getD k 0)=false) (h35:(l.getD k 0 == 35)=false) (h:isD (l.getD k 0)=true) (hkj:k<=j) (hj:j<=l.length) (hs:Scan isD l k j)
    (hn:¬ num ((l.drop k).take (j - k))<top):one (l.drop k) = .bad 4:=by
  have e:=scan_split hkj hj hs
  have hn':¬ num ((l.drop k).takeWhile isD)<top:=by
    rw [e];have:=num_le_append ((l.drop k).take (j - k)) ((l.drop j).takeWhile isD);omega
  rw [drop_cons l k hk] at hn' ⊢
  simp only [one,hb,h35,h,hn',Bool.false_eq_true,if_false,if_true]
theorem one_word (hk:k<l.length) (hb:isB (l.getD k 0)=false) (h35:(l.getD k 0 == 35)=false) (hd:isD (l.getD k 0)=false) (h:isL (l.getD k 0)=true) (hkj:k<=j) (hj:j<=l.length) (hs:Scan isLD l k j) (ht:Stops isLD l j) :
    one (l.drop k) = .piece 2 (j - k) 0:=by
  have e:=scanned hkj hj hs ht
  have hl:((l.drop k).take (j - k)).length=j - k:=by simp only [List.length_take,List.length_drop];omega
  rw [drop_cons l k hk] at e hl ⊢
  simp only [one,hb,h35,hd,h,e,hl,Bool.false_eq_true,if_false,if_true]
theorem skip_pos {n:Nat} (hk:k<l.length) (h:one (l.drop k) = .skip n):0<n:=by
  rw [drop_cons l k hk] at h
  have:=one_len (l.getD k 0) (l.drop (k+1));rw [h] at this;exact this.1
theorem piece_pos {d n v:Nat} (hk:k<l.length) (h:one (l.drop k) = .piece d n v):0<n:=by
  rw [drop_cons l k hk] at h
  have:=one_len (l.getD k 0) (l.drop (k+1));rw [h] at this;exact this.1
theorem head_next (hk:k+1<l.length):(l.drop (k+1)).head? = some (l.getD (k+1) 0):=by rw [drop_cons l (k+1) hk];rfl
theorem one_sign (hk:k<l.length) (hb:isB (l.getD k 0)=false) (h35:(l.getD k 0 == 35)=false) (hd:isD (l.getD k 0)=false) (hl:isL (l.getD k 0)=false) (h:isS (l.getD k 0)=true) :
    one (l.drop k) = .piece 3 (if grows (l.getD k 0) && l.getD (k+1) 0 == 61 then 2 else 1) 0:=by
  have e:(grows (l.getD k 0) && (l.drop (k+1)).head? == some 61)=(grows (l.getD k 0) && l.getD (k+1) 0 == 61):=by
    by_cases hk1:k+1<l.length
    · rw [head_next hk1];rfl
    · rw [List.drop_of_length_le (by omega)]
      have:l.getD (k+1) 0=0:=by rw [List.getD_eq_getElem?_getD,List.getElem?_eq_none (by omega)];rfl
      rw [this];rfl
  rw [drop_cons l k hk]
  simp only [one,hb,h35,hd,hl,h,e,Bool.false_eq_true,if_false,if_true]
  split <;> rfl
theorem one_form (hk:k<l.length) (hb:isB (l.getD k 0)=false) (h35:(l.getD k 0 == 35)=false) (hd:isD (l.getD k 0)=false) (hl:isL (l.getD k 0)=false) (h:isS (l.getD k 0)=false):one (l.drop k) = .bad 3:=by
  rw [drop_cons l k hk]
  simp only [one,hb,h35,hd,hl,h,Bool.false_eq_true,if_false]
end
end Go.Proofs.YtagebkachdmnbaaGreatDoor.Lex
end
section
namespace Go.Proofs.YtagebkachdmnbaaGreatDoor.Lex
open Go.RowKit
def Sits (w:World) (g:Nat) (t:TypeId) (cs:Array Value):Prop:=w.heap[g]? = some (.cells cs t (0,0))
structure Keeps (X:Nat->Prop) (w w':World):Prop where
  os:w'.os=w.os
  tape:w'.tape=w.tape
  output:w'.output=w.output
  size:w.heap.size<=w'.heap.size
  block:∀ b,b<w.heap.size->¬ X b->w'.heap[b]? = w.heap[b]?
section
variable {w w' w'' : World} {g : Nat} {t : TypeId} {cs : Array Value} {X Y : Nat → Prop}
theorem Sits.lt (h:Sits w g t cs):g<w.heap.size:=lt_of_block h
theorem Sits.cell (h:Sits w g t cs) (i:Nat):w.cell? ⟨g,i,none⟩=cs[i]?:=cell_of_row w g i cs t (0,0) h
theorem Sits.free (h:Sits w g t cs) (i:Nat):w.frozen? ⟨g,i,none⟩=false:=by
  unfold Sits at h;simp [World.frozen?,h]
theorem Sits.keep (h:Sits w g t cs) (k:Keeps X w w') (hn:¬ X g):Sits w' g t cs:=(k.block g h.lt hn).trans h
theorem Sits.alloc (h:Sits w g t cs) (o:Obj):Sits (w.alloc o) g t cs:=(Below.heap_alloc w o g h.lt).trans h
theorem Sits.new (w:World) (t:TypeId) (cs:Array Value):Sits (w.alloc (.cells cs t)) w.heap.size t cs:=heap_alloc_new w _
theorem Sits.made (hg:g=w.heap.size) (t:TypeId) (cs:Array Value):Sits (w.alloc (.cells cs t)) g t cs:=by rw [hg];exact Sits.new w t cs
theorem Sits.drew (h:Sits w g t cs):Sits w.drew g t cs:=h
theorem Sits.put (h:Sits w g t cs) (i:Nat) (u:Value):Sits (w.setCell ⟨g,i,none⟩ u) g t (cs.setIfInBounds i u):=by
  unfold Sits at h ⊢;simp [World.setCell,Array.getElem?_modify,h]
theorem Sits.far (h:Sits w g t cs) {p:Addr} (hp:g≠p.block) (u:Value):Sits (w.setCell p u) g t cs:=(Below.heap_setCell w p u g hp).trans h
theorem Sits.below {B:Nat} (h:Sits w g t cs) (hb:Below B w w') (hg:g<B):Sits w' g t cs:=(hb.block g hg).trans h
theorem Sits.grown {row:Option Nat} (h:Sits w g t cs) (hb:w.grownBy w' row) (hg:row≠some g):Sits w' g t cs:=(hb.block g h.lt (fun e=>hg e.symm)).trans h
theorem Sits.differ {g':Nat} {t':TypeId} {cs':Array Value} (h:Sits w g t cs) (h':Sits w g' t' cs') (hne:t≠t'):g≠g':=by
  rintro rfl
  unfold Sits at h h'
  rw [h] at h'
  injection h' with h'
  injection h' with _ ht
  exact hne ht
theorem Keeps.refl (X:Nat->Prop) (w:World):Keeps X w w:=⟨rfl,rfl,rfl,Nat.le_refl _,fun _ _ _=>rfl⟩
theorem Keeps.trans (h:Keeps X w w') (k:Keeps X w' w''):Keeps X w w'' :=
  ⟨k.os.trans h.os,k.tape.trans h.tape,k.output.trans h.output,Nat.le_trans h.size k.size,fun b hb hn=>(k.block b (Nat.lt_of_lt_of_le hb h.size) hn).trans (h.block b hb hn)⟩
theorem Keeps.drew (h:Keeps X w w'):Keeps X w w'.drew:=⟨h.os,h.tape,h.output,h.size,h.block⟩
theorem Keeps.alloc (h:Keeps X w w') (o:Obj):Keeps X w (w'.alloc o) :=
  h.trans ⟨rfl,rfl,rfl,by simp,fun b hb _=>Below.heap_alloc _ _ _ hb⟩
theorem Keeps.put (h:Keeps X w w') {p:Addr} (hp:X p.block \/ w.heap.size<=p.block) (u:Value):Keeps X w (w'.setCell p u) :=
  ⟨h.os,h.tape,h.output,by simpa [World.setCell] using h.size,fun b hb hn=>(Below.heap_setCell _ _ _ _ (by
    rintro rfl
    rcases hp with hp | hp
    · exact hn hp
    · omega)).trans (h.block b hb hn)⟩
theorem behind {B:Nat} {a:World} (h:Below B a w) (k:Keeps X w w') (hB:B<=w.heap.size) (hx:∀ b,X b->B<=b):Below B a w' :=
  h.trans ⟨k.os,k.tape,k.output,k.size,fun b hb=>k.block b (by omega) (fun hb'=>by have:=hx b hb';omega)⟩
end
theorem ret_bool {a b:Bool} (h:a=b):Ending.returned (.bool a) = .returned (.bool b):=by rw [h]
def byt (s:ByteArray) (k:Nat):UInt8:=s.data.toList.getD k 0
def bAt (s:ByteArray) (k:Nat):Int:=(byt s k).toNat
def endAt (s:ByteArray) (k:Nat):Bool:=decide (k=s.size)
def lineAt (s:ByteArray) (k:Nat):Int:=(pl s.data.toList k).1
def colAt (s:ByteArray) (k:Nat):Int:=(pl s.data.toList k).2
theorem bAt_bd (s:ByteArray) (k:Nat):0<=bAt s k/\bAt s k<256:=by
  have:=(byt s k).toNat_lt
  unfold bAt;omega
theorem byt_in (s:ByteArray) (k:Nat) (h:k<s.size):s[k]=byt s k:=by
  have hl:k<s.data.toList.length:=h
  unfold byt
  rw [List.getD_eq_getElem?_getD,List.getElem?_eq_getElem hl];rfl
theorem byt_out (s:ByteArray) (k:Nat) (h:s.size<=k):byt s k=0:=by
  have hl:s.data.toList.length<=k:=h
  unfold byt
  rw [List.getD_eq_getElem?_getD,List.getElem?_eq_none hl];rfl
theorem bAt_in (s:ByteArray) (k:Nat) (h:k<s.size):(s[k].toNat:Int)=bAt s k:=by unfold bAt;rw [byt_in s k h]
theorem bAt_out (s:ByteArray) (k:Nat) (h:s.size<=k):bAt s k=0:=by unfold bAt;rw [byt_out s k h];rfl
theorem place_bd (s:ByteArray) (k:Nat):1<=lineAt s k/\lineAt s k<=k+1/\1<=colAt s k/\colAt s k<=k+1:=by
  have:=pl_bd s.data.toList k
  unfold lineAt colAt;omega
theorem line_nl (s:ByteArray) (k:Nat) (h:k<s.size) (hb:bAt s k=10):lineAt s (k+1)=lineAt s k+1/\colAt s (k+1)=1:=by
  have hl:k<s.data.toList.length:=h
  have hc:byt s k=10:=by unfold bAt at hb;exact UInt8.toNat_inj.1 (by have:(10:UInt8).toNat=10:=rfl;omega)
  have e:=pl_succ s.data.toList k hl
  have e':s.data.toList.getD k 0=10:=hc
  rw [e'] at e
  unfold lineAt colAt;rw [e];simp [step1]
theorem line_go (s:ByteArray) (k:Nat) (h:k<s.size) (hb:¬ bAt s k=10):lineAt s (k+1)=lineAt s k/\colAt s (k+1)=colAt s k+1:=by
  have hl:k<s.data.toList.length:=h
  have hc:¬ byt s k=10:=by intro e;apply hb;unfold bAt;rw [e];rfl
  have e:=pl_succ s.data.toList k hl
  have e':(s.data.toList.getD k 0 == 10)=false:=by simpa [byt] using hc
  unfold step1 at e
  rw [e'] at e
  unfold lineAt colAt;rw [e];simp
def tellCells (s:ByteArray) (k:Nat):Array Value:=#[.int .u8 (bAt s k),.bool (endAt s k),.int .i64 k,.int .i64 (lineAt s k),.int .i64 (colAt s k)]
def nextAt (s:ByteArray) (k:Nat):Nat:=if k<s.size then k+1 else k
theorem digit_any (s:ByteArray) (k:Nat) (w:World) :
    Calls Tryz.prog 171 #[.int .u8 (bAt s k)] w fun e w'=>e = .returned (.bool (isD (byt s k)))/\w=w':=by
  have e:isD (byt s k)=(decide (48<=bAt s k) && decide (bAt s k<=57)):=by
    unfold isD bAt;congr 1 <;> (simp;omega)
  rw [e];clear e
  have b0:=(bAt_bd s k).1
  generalize bAt s k=b at *
  by_cases h:48<=b
  all_goals
    by_cases h':b<=57
    all_goals
      go_enter Tryz.func171,Tryz.ntmps171
      go_wp2
      go_ret
      exact ⟨ret_bool (by simp [h,h']),rfl⟩
theorem letter_any (s:ByteArray) (k:Nat) (w:World) :
    Calls Tryz.prog 172 #[.int .u8 (bAt s k)] w fun e w'=>e = .returned (.bool (isL (byt s k)))/\w=w':=by
  have e:isL (byt s k)=(decide (97<=bAt s k) && decide (bAt s k<=122)):=by
    unfold isL bAt;congr 1 <;> (simp;omega)
  rw [e];clear e
  have b0:=(bAt_bd s k).1
  generalize bAt s k=b at *
  by_cases h:97<=b
  all_goals
    by_cases h':b<=122
    all_goals
      go_enter Tryz.func172,Tryz.ntmps172
      go_wp2
      go_ret
      exact ⟨ret_bool (by simp [h,h']),rfl⟩
theorem bAt_eq (s:ByteArray) (k n:Nat) (hn:n<256):decide (bAt s k=(n:Int))=(byt s k == n.toUInt8):=by
  have e:(bAt s k=(n:Int)) ↔ (byt s k=n.toUInt8):=by
    unfold bAt
    constructor
    · intro h
      apply UInt8.toNat_inj.1
      have:n.toUInt8.toNat=n:=by simp;omega
      omega
    · intro h;rw [h]
      have:n.toUInt8.toNat=n:=by simp;omega
      omega
  simp only [e];rfl
theorem bAt_beq (s:ByteArray) (k n:Nat) (hn:n<256):(bAt s k == (n:Int))=(byt s k == n.toUInt8):=by
  rw [<- bAt_eq s k n hn];exact Bool.eq_iff_iff.2 (by simp)
theorem blank_no {s:ByteArray} {k:Nat} (h:isB (byt s k)=false):(bAt s k == 32)=false/\(bAt s k == 9)=false/\(bAt s k == 10)=false:=by
  have h1:=bAt_beq s k 32 (by omega);have h2:=bAt_beq s k 9 (by omega);have h3:=bAt_beq s k 10 (by omega)
  unfold isB at h
  simp only [Bool.or_eq_false_iff] at h
  exact ⟨h1.trans h.1.1,h2.trans h.1.2,h3.trans h.2⟩
theorem blank_yes {s:ByteArray} {k:Nat} (h:isB (byt s k)=true) :
    (bAt s k == 32)=true \/ ((bAt s k == 32)=false/\(bAt s k == 9)=true) \/ ((bAt s k == 32)=false/\(bAt s k == 9)=false/\(bAt s k == 10)=true):=by
  have h1:=bAt_beq s k 32 (by omega);have h2:=bAt_beq s k 9 (by omega);have h3:=bAt_beq s k 10 (by omega)
  unfold isB at h
  rw [<- show (bAt s k == 32)=(byt s k == 32) from h1,<- show (bAt s k == 9)=(byt s k == 9) from h2,<- show (bAt s k == 10)=(byt s k == 10) from h3] at h
  cases e1:(bAt s k == 32) <;> cases e2:(bAt s k == 9) <;> cases e3:(bAt s k == 10) <;> simp [e1,e2,e3] at h ⊢
theorem hash_is (s:ByteArray) (k:Nat):(bAt s k == 35)=(byt s k == 35):=bAt_beq s k 35 (by omega)
theorem nl_not (s:ByteArray) (k:Nat):(bAt s k != 10)=isR (byt s k):=by
  have h:=bAt_beq s k 10 (by omega)
  unfold isR bne
  exact congrArg _ h
theorem grows_any (s:ByteArray) (k:Nat) (w:World) :
    Calls Tryz.prog 174 #[.int .u8 (bAt s k)] w fun e w'=>e = .returned (.bool (grows (byt s k)))/\w=w':=by
  have e:grows (byt s k)=(decide (bAt s k=61) || decide (bAt s k=33) || decide (bAt s k=60)):=by
    have h1:=bAt_eq s k 61 (by omega);have h2:=bAt_eq s k 33 (by omega);have h3:=bAt_eq s k 60 (by omega)
    unfold grows
    exact congr (congrArg _ (congr (congrArg _ h1.symm) h2.symm)) h3.symm
  rw [e];clear e
  generalize bAt s k=b
  by_cases h:b=61
  · subst h
    go_enter Tryz.func174,Tryz.ntmps174
    go_wp2
    go_ret
    exact ⟨rfl,rfl⟩
  by_cases h':b=33
  · subst h'
    go_enter Tryz.func174,Tryz.ntmps174
    go_wp2
    go_ret
    exact ⟨rfl,rfl⟩
  by_cases h'':b=60
  · subst h''
    go_enter Tryz.func174,Tryz.ntmps174
    go_wp2
    go_ret
    exact ⟨rfl,rfl⟩
  go_enter Tryz.func174,Tryz.ntmps174
  go_wp2
  go_ret
  exact ⟨ret_bool (by simp [h,h',h'']),rfl⟩
set_option maxRecDepth 100000 in
theorem inner_any (t:ByteArray) (b:Int) (w:World) :
    Calls Tryz.prog 218 #[.string t,.int .u8 b] w fun e w'=>e = .returned (.int .i64 (Lib.indexByte t.data.toList b.toNat.toUInt8))/\w=w':=by
  go_enter Tryz.func218,Tryz.ntmps218
  go_wp2
  rw [run_callFunc_extern Tryz.func252 (by kernel_rfl) (by kernel_rfl) (by kernel_rfl) (e:=Extern.BytealgIndexByte.indexByte) (by kernel_rfl),Lib.run_indexByteString]
  simp only [Result.andThen]
  rw [Oper.upon_value]
  go_wp2
  go_ret
  exact ⟨rfl,rfl⟩
theorem indexByte_in (l:List UInt8) (c:UInt8):0<=Lib.indexByte l c ↔ c ∈ l:=by
  induction l with
  | nil=>simp [Lib.indexByte]
  | cons b r ih =>
    have hg:=Lib.indexByte_ge r c
    by_cases h:b=c
    · subst h;simp [Lib.indexByte]
    · have h':(b == c)=false:=by simpa using h
      have h'':¬ c=b:=fun e=>h e.symm
      by_cases hr:Lib.indexByte r c = -1
      · have hn:¬ c ∈ r:=fun hm=>by have:=ih.2 hm;omega
        simp [Lib.indexByte,h',hr,h'',hn]
      · have hr':(Lib.indexByte r c == -1)=false:=by simpa using hr
        have hm:c ∈ r:=ih.1 (by omega)
        simp only [Lib.indexByte,h',hr',Bool.false_eq_true,if_false,List.mem_cons,hm,or_true,iff_true]
        omega
theorem sign_any (s:ByteArray) (k:Nat) (w:World) :
    Calls Tryz.prog 173 #[.int .u8 (bAt s k)] w fun e w'=>e = .returned (.bool (isS (byt s k)))/\w=w':=by
  have hc:(bAt s k).toNat.toUInt8=byt s k:=by unfold bAt;simp
  have e:isS (byt s k)=decide (0<=Lib.indexByte (ByteArray.mk #[61,33,60,43,45,124,94,42,47,37,38,40,41,123,125,44,59,58]).data.toList (bAt s k).toNat.toUInt8):=by
    rw [hc]
    have:=indexByte_in signs (byt s k)
    unfold isS
    exact decide_eq_decide.2 this.symm
  rw [e];clear e hc
  go_enter Tryz.func173,Tryz.ntmps173
  go_wp2_with (first | (go_at_call 218;refine (inner_any _ _ _).mono ?_;rintro e w' ⟨rfl,rfl⟩) | go_in)
  go_ret
  exact ⟨rfl,rfl⟩
def tellMade (s:ByteArray) (k T I A:Nat) (w w':World) (e:Ending):Prop :=
  e = .returned (.agg #[.int .u8 (bAt s k),.bool (endAt s k),.int .i64 k,.int .i64 (lineAt s k),.int .i64 (colAt s k)])/\Sits w' T 9 #[.string s]/\Sits w' I 3 #[.int .i64 (nextAt s k)]/\Sits w' A 139 #[.int .i64 (lineAt s (nextAt s k)),.int .i64 (colAt s (nextAt s k))]/\Keeps (fun b=>b=I \/ b=A) w w'
set_option maxHeartbeats 1000000 in
/-- The closure tells the byte at k, and goes on; at the end it tells the end, however often. -/
theorem tell_any (s:ByteArray) (k T I A:Nat) (w:World) (hs:s.size<=1048576) (hk:k<=s.size) (hT:Sits w T 9 #[.string s]) (hI:Sits w I 3 #[.int .i64 k])
    (hA:Sits w A 139 #[.int .i64 (lineAt s k),.int .i64 (colAt s k)]) :
    Calls Tryz.prog 226 #[.pointer (some ⟨I,0,none⟩),.pointer (some ⟨T,0,none⟩),.pointer (some ⟨A,0,none⟩)] w fun e w'=>tellMade s k T I A w w' e:=by
  have cT:=hT.cell 0
  have cI:=hI.cell 0
  have fI:=hI.free 0
  have cA0:=hA.cell 0
  have cA1:=hA.cell 1
  have fA0:=hA.free 0
  have fA1:=hA.free 1
  have hTI:T≠I:=hT.differ hI (by decide)
  have hTA:T≠A:=hT.differ hA (by decide)
  have hIA:I≠A:=hI.differ hA (by decide)
  have lT:=hT.lt
  have lI:=hI.lt
  have lA:=hA.lt
  have hp:=place_bd s k
  simp only [List.getElem?_toArray,List.getElem?_cons_zero,List.getElem?_cons_succ] at cT cI cA0 cA1
  by_cases hlt:k<s.size
  · have hb:=bAt_in s k hlt
    have he:endAt s k=false:=by simp [endAt];omega
    have e:nextAt s k=k+1:=by simp [nextAt,hlt]
    have HE:=Lib.hid he;clear he
    have HN:=Lib.hid e;clear e
    by_cases hn:bAt s k=10
    · have HL:=Lib.hid (line_nl s k hlt hn)
      go_enter Tryz.func226,Tryz.ntmps226
      go_wp2
      go_region
      go_wp2
      refine bodyPost_ret (v:=.agg (tellCells s k)) (by simp [results,go_sem,tellCells,HE.out,hn]) rfl ⟨rfl,?_,?_,?_,?_⟩
      · exact ((((((hT.far hTI _).far hTA _).far hTA _).far hTA _).alloc _).alloc _).drew
      · rw [HN.out]
        exact ((((((hI.put 0 _).far hIA _).far hIA _).far hIA _).alloc _).alloc _).drew
      · rw [HN.out,HL.out.1,HL.out.2]
        exact ((((((hA.far (Ne.symm hIA) _).put 1 _).put 0 _).put 1 _).alloc _).alloc _).drew
      · exact ((((((Keeps.refl _ _).put (.inl (.inl rfl)) _).put (.inl (.inr rfl)) _).put (.inl (.inr rfl)) _).put (.inl (.inr rfl)) _).alloc _).alloc _ |>.drew
    · have HL:=Lib.hid (line_go s k hlt hn)
      go_enter Tryz.func226,Tryz.ntmps226
      go_wp2
      go_region
      go_wp2
      refine bodyPost_ret (v:=.agg (tellCells s k)) (by simp [results,go_sem,tellCells,HE.out]) rfl ⟨rfl,?_,?_,?_,?_⟩
      · exact ((((hT.far hTI _).far hTA _).alloc _).alloc _).drew
      · rw [HN.out]
        exact ((((hI.put 0 _).far hIA _).alloc _).alloc _).drew
      · rw [HN.out,HL.out.1,HL.out.2]
        exact ((((hA.far (Ne.symm hIA) _).put 1 _).alloc _).alloc _).drew
      · exact ((((Keeps.refl _ _).put (.inl (.inl rfl)) _).put (.inl (.inr rfl)) _).alloc _).alloc _ |>.drew
  · obtain rfl:k=s.size:=by omega
    have hb:=bAt_out s s.size (Nat.le_refl _)
    go_enter Tryz.func226,Tryz.ntmps226
    go_wp2
    have e:nextAt s s.size=s.size:=by simp [nextAt]
    refine bodyPost_ret (v:=.agg (tellCells s s.size)) (by simp [results,go_sem,tellCells,endAt,hb]) rfl ⟨rfl,hT.alloc _,by rw [e];exact hI.alloc _,by rw [e];exact hA.alloc _,(Keeps.refl _ _).alloc _⟩
def tellerMade (s:ByteArray) (w w':World) (e:Ending):Prop :=
  ∃ T I A:Nat,e = .returned (.func (.func 226) #[] #[.pointer (some ⟨I,0,none⟩),.pointer (some ⟨T,0,none⟩),.pointer (some ⟨A,0,none⟩)])/\w.heap.size<=T/\w.heap.size<=I/\w.heap.size<=A /\
    Sits w' T 9 #[.string s]/\Sits w' I 3 #[.int .i64 0]/\Sits w' A 139 #[.int .i64 1,.int .i64 1]/\Below w.heap.size w w'
theorem teller_any (s:ByteArray) (w:World):Calls Tryz.prog 170 #[.string s] w fun e w'=>tellerMade s w w' e:=by
  go_enter Tryz.func170,Tryz.ntmps170
  go_wp2
  go_ret
  refine ⟨w.heap.size,w.heap.size+1,w.heap.size+1+1,rfl,by omega,by omega,by omega,((Sits.new _ _ _).alloc _).alloc _,(Sits.made (by simp) _ _).alloc _,Sits.made (by simp) _ _,?_⟩
  exact (((Below.refl _ _).alloc (by omega) _).alloc (by simp) _).alloc (by simp;omega) _
end Go.Proofs.YtagebkachdmnbaaGreatDoor.Lex
end
