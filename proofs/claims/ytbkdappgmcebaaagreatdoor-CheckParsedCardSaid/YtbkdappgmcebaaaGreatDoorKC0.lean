/- Part 21 of the proof: what is used of the texts PrsL, PrsM. -/
import Derived.Test.YtbkdappgmcebaaaGreatDoorKB9
import Derived.Test.YtbkdappgmcebaaaGreatDoorKB0
section
namespace Go.Proofs.YtbkdappgmcebaaaGreatDoor.Prs
open Go.Proofs.YtbkdappgmcebaaaGreatDoor.Expr Go.Proofs.YtbkdappgmcebaaaGreatDoor.Prog
open Go.Proofs.YtbkdappgmcebaaaGreatDoor.Lex (Tok one lex isB isD isL isLD isS isR grows)
structure Raw where
  kind:Nat
  text:List UInt8
  num:Nat
deriving DecidableEq
def raw (t:Lex.Tok):Raw:=⟨t.kind,t.text,t.num⟩
def rawEnd:Raw:=⟨0,[],0⟩
def Lexes (l:List UInt8) (rs:List Raw):Prop:=∀ p,∃ ts,lex l p = .ok ts/\ts.map raw=rs
def sg (s:List UInt8):Raw:=⟨3,s,0⟩
def wd (s:List UInt8):Raw:=⟨2,s,0⟩
def nm (n:Nat):Raw:=⟨1,dec n,n⟩
def Stops (l:List UInt8):Prop:=∀ c r,l=c :: r->isLD c=false
def NoEq (l:List UInt8):Prop:=∀ c r,l=c :: r->c≠61
theorem lexes_nil:Lexes [] [rawEnd]:=fun p=>⟨_,Lex.lex_fin p,rfl⟩
theorem lexes_blank {c:UInt8} (hc:isB c=true) {l:List UInt8} {rs:List Raw} (h:Lexes l rs):Lexes (c :: l) rs:=fun p=>by
  obtain ⟨ts,h1,h2⟩:=h (Lex.adv p [c])
  exact ⟨ts,(Lex.lex_skip (n:=1) (by rw [Lex.one_cons,if_pos hc])).trans h1,h2⟩
theorem lexes_blanks {s:List UInt8} (hs:∀ c ∈ s,isB c=true) {l:List UInt8} {rs:List Raw} (h:Lexes l rs):Lexes (s ++ l) rs:=by
  induction s with
  | nil=>exact h
  | cons c s ih=>exact lexes_blank (hs c (by simp)) (ih fun c hc=>hs c (by simp [hc]))
theorem lexes_piece {s l:List UInt8} {k n:Nat} {rs:List Raw} (ho:one (s ++ l) = .piece k s.length n) (h:Lexes l rs):Lexes (s ++ l) (⟨k,s,n⟩ :: rs):=fun p=>by
  obtain ⟨ts,h1,h2⟩:=h (Lex.adv p s)
  exact ⟨⟨k,s,n,p.1,p.2⟩ :: ts,by rw [Lex.lex_piece ho,List.drop_left,List.take_left,h1];rfl,by rw [List.map_cons,h2];rfl⟩
theorem while_all {q:UInt8->Bool} {s l:List UInt8} (hs:∀ c ∈ s,q c=true) (hl:∀ c r,l=c :: r->q c=false):(s ++ l).takeWhile q=s:=by
  rw [List.takeWhile_append_of_pos hs]
  cases l with
  | nil=>simp
  | cons c r=>rw [List.takeWhile_cons,hl c r rfl];simp
theorem letter_plain {c:UInt8} (h:isL c=true):isB c=false/\(c == 35)=false/\isD c=false:=by
  unfold isL at h
  simp only [Bool.and_eq_true,decide_eq_true_eq] at h
  refine ⟨?_,?_,?_⟩
  · cases hb:isB c with
    | false=>rfl
    | true=>rcases Lex.blank_is hb with rfl | rfl | rfl <;> exact absurd h.1 (by decide)
  · rw [beq_eq_false_iff_ne];rintro rfl;exact absurd h.1 (by decide)
  · unfold isD;simp only [Bool.and_eq_false_iff,decide_eq_false_iff_not];omega
theorem digit_plain {c:UInt8} (h:isD c=true):isB c=false/\(c == 35)=false:=by
  unfold isD at h
  simp only [Bool.and_eq_true,decide_eq_true_eq] at h
  refine ⟨?_,?_⟩
  · cases hb:isB c with
    | false=>rfl
    | true=>rcases Lex.blank_is hb with rfl | rfl | rfl <;> exact absurd h.1 (by decide)
  · rw [beq_eq_false_iff_ne];rintro rfl;exact absurd h.1 (by decide)
theorem lexes_word {c:UInt8} {s l:List UInt8} {rs:List Raw} (hc:isL c=true) (hs:∀ c ∈ s,isLD c=true) (hl:Stops l) (h:Lexes l rs):Lexes (c :: s ++ l) (wd (c :: s) :: rs):=by
  refine lexes_piece ?_ h
  obtain ⟨h1,h2,h3⟩:=letter_plain hc
  have e:(c :: (s ++ l)).takeWhile isLD=c :: s:=while_all (s:=c :: s) (fun x hx=>by rcases List.mem_cons.1 hx with rfl | hx;exact (by simp [isLD,hc]);exact hs x hx) hl
  show one (c :: (s ++ l))=_
  rw [Lex.one_cons,if_neg (by rw [h1];decide),if_neg (by rw [h2];decide),if_neg (by rw [h3];decide),if_pos hc,e]
theorem isDig_isD {c:UInt8} (h:isDig c=true):isD c=true:=by
  unfold isDig at h
  unfold isD
  simpa using h
theorem dec_num (n:Nat):Lex.num (dec n)=n:=(dec_spell n).2.1
theorem dec_all (n:Nat):∀ c ∈ dec n,isD c=true:=fun c hc=>isDig_isD ((dec_spell n).1 c hc)
theorem lexes_num {n:Nat} {l:List UInt8} {rs:List Raw} (hn:n<18446744073709551616) (hl:Stops l) (h:Lexes l rs):Lexes (dec n ++ l) (nm n :: rs):=by
  refine lexes_piece ?_ h
  obtain ⟨c,d,hd,hc⟩:=dec_cons n
  obtain ⟨h1,h2⟩:=digit_plain (isDig_isD hc)
  have e:(dec n ++ l).takeWhile isD=dec n:=while_all (dec_all n) fun c r e=>by
    have:=hl c r e
    unfold isLD at this
    simp only [Bool.or_eq_false_iff] at this
    exact this.2
  have hx:dec n ++ l=c :: (d ++ l):=by rw [hd];rfl
  rw [hx] at e ⊢
  rw [Lex.one_cons,if_neg (by rw [h1];decide),if_neg (by rw [h2];decide),if_pos (isDig_isD hc),e,dec_num,if_pos (show n<Lex.top from hn)]
def sgs:List (List UInt8):=[[61,61],[33,61],[60],[60,61],[43],[45],[124],[94],[42],[47],[37],[38],[33],[40],[41],[123],[125],[44],[59],[58],[61]]
theorem sg_two {c:UInt8} (hc:isB c=false/\(c == 35)=false/\isD c=false/\isL c=false/\isS c=true) (hg:grows c=true) (l:List UInt8):one (c :: 61 :: l) = .piece 3 2 0:=by
  obtain ⟨h1,h2,h3,h4,h5⟩:=hc
  rw [Lex.one_cons,if_neg (by rw [h1];decide),if_neg (by rw [h2];decide),if_neg (by rw [h3];decide),if_neg (by rw [h4];decide),if_pos h5,if_pos (by rw [hg];rfl)]
theorem sg_one {c:UInt8} (hc:isB c=false/\(c == 35)=false/\isD c=false/\isL c=false/\isS c=true) {l:List UInt8} (hl:grows c=false \/ NoEq l):one (c :: l) = .piece 3 1 0:=by
  obtain ⟨h1,h2,h3,h4,h5⟩:=hc
  have h6:(grows c && l.head? == some 61)=false:=by
    rcases hl with hl | hl
    · rw [hl];rfl
    · cases l with
      | nil=>simp
      | cons d r =>
        have:=hl d r rfl
        simp [this]
  rw [Lex.one_cons,if_neg (by rw [h1];decide),if_neg (by rw [h2];decide),if_neg (by rw [h3];decide),if_neg (by rw [h4];decide),if_pos h5,if_neg (by rw [h6];decide)]
theorem lexes_sign {s l:List UInt8} {rs:List Raw} (hs:s ∈ sgs) (hl:NoEq l) (h:Lexes l rs):Lexes (s ++ l) (sg s :: rs):=by
  refine lexes_piece ?_ h
  unfold sgs at hs
  simp only [List.mem_cons,List.not_mem_nil,or_false] at hs
  rcases hs with rfl | rfl | rfl | rfl | rfl | rfl | rfl | rfl | rfl | rfl | rfl | rfl | rfl | rfl | rfl | rfl | rfl | rfl | rfl | rfl | rfl
  all_goals first
    | exact sg_two (by decide) (by decide) l
    | exact sg_one (by decide) (.inr hl)
theorem stops_cons {c:UInt8} {r:List UInt8} (h:isLD c=false):Stops (c :: r):=fun _ _ e=>by injection e with e _;rw [<- e];exact h
theorem noeq_cons {c:UInt8} {r:List UInt8} (h:c≠61):NoEq (c :: r):=fun _ _ e=>by injection e with e _;rw [<- e];exact h
def parR (rs:List Raw):List Raw:=sg [40] :: (rs ++ [sg [41]])
def rawsE:Ex->List Raw
  | .num n=>[nm n]
  | .reg i=>[wd (114 :: dec i)]
  | .of t i=>[nm t,sg [58],wd (114 :: dec i)]
  | .loc x=>[wd [x.toUInt8]]
  | .one op a=>sg (sign op) :: (if a.strong<strongOp op then parR (rawsE a) else rawsE a)
  | .two op a b=>(if a.strong<strongOp op then parR (rawsE a) else rawsE a) ++ (sg (sign op) :: (if b.strong<strongOp op+1 then parR (rawsE b) else rawsE b))
def atR (n:Nat) (e:Ex):List Raw:=if e.strong<n then parR (rawsE e) else rawsE e
theorem raws_one (op:Nat) (a:Ex):rawsE (Ex.one op a)=sg (sign op) :: atR (strongOp op) a:=rfl
theorem raws_two (op:Nat) (a b:Ex):rawsE (Ex.two op a b)=atR (strongOp op) a ++ (sg (sign op) :: atR (strongOp op+1) b):=rfl
theorem sign_mem {op:Nat} (h1:1<=op) (h2:op<=14):sign op ∈ sgs:=by
  obtain rfl | rfl | rfl | rfl | rfl | rfl | rfl | rfl | rfl | rfl | rfl | rfl | rfl | rfl:op=1 \/ op=2 \/ op=3 \/ op=4 \/ op=5 \/ op=6 \/ op=7 \/ op=8 \/ op=9 \/ op=10 \/ op=11 \/ op=12 \/ op=13 \/ op=14:=by omega
  all_goals decide
theorem dec_ld (n:Nat):∀ c ∈ dec n,isLD c=true:=fun c hc=>by unfold isLD;rw [dec_all n c hc,Bool.or_true]
theorem loc_letter {x:Nat} (h:isLetter x):isL x.toUInt8=true/\x.toUInt8.toNat=x:=by
  have e:x.toUInt8.toNat=x:=by
    show x % 256=x
    have:=h.2;omega
  refine ⟨?_,e⟩
  unfold isL
  rw [e]
  simp only [Bool.and_eq_true,decide_eq_true_eq]
  exact h
theorem text_noeq (e:Ex) (h:e.ok) (l:List UInt8):NoEq (e.text ++ l)/\e.text ≠ []:=by
  induction e generalizing l with
  | num n =>
    obtain ⟨c,d,hd,hc⟩:=dec_cons n
    refine ⟨?_,by show dec n ≠ [];rw [hd];simp⟩
    show NoEq (dec n ++ l)
    rw [hd]
    refine noeq_cons ?_
    rintro rfl;exact absurd hc (by decide)
  | reg i=>exact ⟨noeq_cons (by decide),by show (114 :: dec i) ≠ [];simp⟩
  | of t i =>
    obtain ⟨c,d,hd,hc⟩:=dec_cons t
    refine ⟨?_,by show dec t ++ _ ≠ [];rw [hd];simp⟩
    show NoEq (dec t ++ _ ++ l)
    rw [hd]
    refine noeq_cons ?_
    rintro rfl;exact absurd hc (by decide)
  | loc x =>
    have hl:=loc_letter (x:=x) ⟨h.1,h.2.1⟩
    refine ⟨noeq_cons ?_,by show [x.toUInt8] ≠ [];simp⟩
    intro e;rw [e] at hl;exact absurd hl.1 (by decide)
  | one op a ih =>
    obtain ⟨h1,h2⟩:=h
    rcases h1 with rfl | rfl
    · exact ⟨noeq_cons (by decide),by show [33] ++ _ ≠ [];simp⟩
    · exact ⟨noeq_cons (by decide),by show [45] ++ _ ≠ [];simp⟩
  | two op a b iha ihb =>
    have ha:∀ l,NoEq (atLeast (strongOp op) a.strong a.text ++ l)/\atLeast (strongOp op) a.strong a.text ≠ []:=fun l=>by
      unfold atLeast
      split
      · exact ⟨noeq_cons (by decide),by simp⟩
      · exact iha h.2.2.1 l
    show NoEq ((atLeast (strongOp op) a.strong a.text ++ [32] ++ sign op ++ [32] ++ atLeast (strongOp op+1) b.strong b.text) ++ l)/\(atLeast (strongOp op) a.strong a.text ++ [32] ++ sign op ++ [32] ++ atLeast (strongOp op+1) b.strong b.text) ≠ []
    simp only [List.append_assoc]
    exact ⟨(ha _).1,fun e=>(ha []).2 (List.append_eq_nil_iff.1 e).1⟩
theorem at_noeq (e:Ex) (h:e.ok) (n:Nat) (l:List UInt8):NoEq (atLeast n e.strong e.text ++ l):=by
  unfold atLeast
  split
  · exact noeq_cons (by decide)
  · exact (text_noeq e h l).1
theorem lexes_at {n:Nat} {e:Ex} (ih:∀ l rs,Stops l->NoEq l->Lexes l rs->Lexes (e.text ++ l) (rawsE e ++ rs)) (h:e.ok) {l:List UInt8} {rs:List Raw} (hl:Stops l) (hq:NoEq l) (hx:Lexes l rs):Lexes (atLeast n e.strong e.text ++ l) (atR n e ++ rs):=by
  unfold atLeast atR
  split
  · have:=lexes_sign (s:=[40]) (by decide) (text_noeq e h ([41] ++ l)).1 (ih _ _ (stops_cons (by decide)) (noeq_cons (by decide)) (lexes_sign (s:=[41]) (by decide) hq hx))
    simpa [parR] using this
  · exact ih _ _ hl hq hx
theorem lexes_text (e:Ex) (h:e.ok):∀ l rs,Stops l->NoEq l->Lexes l rs->Lexes (e.text ++ l) (rawsE e ++ rs):=by
  induction e with
  | num n=>exact fun l rs hl _ hx=>lexes_num h hl hx
  | reg i=>exact fun l rs hl _ hx=>lexes_word (c:=114) (by decide) (dec_ld i) hl hx
  | of t i =>
    intro l rs hl _ hx
    show Lexes (dec t ++ 58 :: 114 :: dec i ++ l) (nm t :: sg [58] :: wd (114 :: dec i) :: rs)
    rw [List.append_assoc]
    exact lexes_num (by have:=h.1;omega) (stops_cons (by decide)) (lexes_sign (s:=[58]) (by decide) (noeq_cons (by decide)) (lexes_word (c:=114) (by decide) (dec_ld i) hl hx))
  | loc x=>exact fun l rs hl _ hx=>lexes_word (s:=[]) (loc_letter ⟨h.1,h.2.1⟩).1 (by simp) hl hx
  | one op a ih =>
    intro l rs hl hq hx
    show Lexes (sign op ++ atLeast (strongOp op) a.strong a.text ++ l) (sg (sign op) :: atR (strongOp op) a ++ rs)
    rw [List.append_assoc]
    exact lexes_sign (sign_mem (by have:=h.1;omega) (by have:=h.1;omega)) (at_noeq a h.2 _ l) (lexes_at (ih h.2) h.2 hl hq hx)
  | two op a b iha ihb =>
    intro l rs hl hq hx
    show Lexes (atLeast (strongOp op) a.strong a.text ++ [32] ++ sign op ++ [32] ++ atLeast (strongOp op+1) b.strong b.text ++ l) ((atR (strongOp op) a ++ (sg (sign op) :: atR (strongOp op+1) b)) ++ rs)
    simp only [List.append_assoc,List.cons_append,List.nil_append]
    exact lexes_at (iha h.2.2.1) h.2.2.1 (stops_cons (by decide)) (noeq_cons (by decide)) (lexes_blank (by decide) (lexes_sign (sign_mem h.1 (by have:=h.2.1;omega)) (noeq_cons (by decide)) (lexes_blank (by decide) (lexes_at (ihb h.2.2.2) h.2.2.2 hl hq hx))))
def exR:Option Ex->List Raw
  | none=>[]
  | some e=>rawsE e
theorem lexes_exO {a:Option Ex} (h:okO a) {l:List UInt8} {rs:List Raw} (hl:Stops l) (hq:NoEq l) (hx:Lexes l rs):Lexes (exO a ++ l) (exR a ++ rs):=by
  cases a with
  | none=>exact hx
  | some e=>exact lexes_text e h.1 l rs hl hq hx
def headR (m:Mk):List Raw :=
  match m.kind with
  | 1=>wd (114 :: dec m.reg) :: sg [61] :: (exR m.a ++ [sg [59]])
  | 2=>wd (114 :: dec m.reg) :: sg [61] :: wd wLoad :: sg [40] :: wd [m.loc.toUInt8] :: sg [44] :: wd (modeTxt m.mode) :: [sg [41],sg [59]]
  | 3=>wd wStore :: sg [40] :: wd [m.loc.toUInt8] :: sg [44] :: (exR m.a ++ sg [44] :: wd (modeTxt m.mode) :: [sg [41],sg [59]])
  | 4=>wd (114 :: dec m.reg) :: sg [61] :: wd wSwap :: sg [40] :: wd [m.loc.toUInt8] :: sg [44] :: (exR m.a ++ sg [44] :: wd (modeTxt m.mode) :: [sg [41],sg [59]])
  | 5=>wd (114 :: dec m.reg) :: sg [61] :: wd wAdd :: sg [40] :: wd [m.loc.toUInt8] :: sg [44] :: (exR m.a ++ sg [44] :: wd (modeTxt m.mode) :: [sg [41],sg [59]])
  | 6=>wd (114 :: dec m.reg) :: sg [61] :: wd wCas :: sg [40] :: wd [m.loc.toUInt8] :: sg [44] :: (exR m.a ++ sg [44] :: (exR m.b ++ sg [44] :: wd (modeTxt m.mode) :: [sg [41],sg [59]]))
  | 7=>wd wFence :: sg [40] :: wd (modeTxt m.mode) :: [sg [41],sg [59]]
  | 8=>wd wIf :: sg [40] :: (exR m.a ++ [sg [41],sg [123]])
  | 9=>wd wWhile :: sg [40] :: (exR m.a ++ [sg [41],sg [123]])
  | _=>[]
theorem lexes_w {s l:List UInt8} {rs:List Raw} (hs:∃ c r,s=c :: r/\isL c=true/\∀ c ∈ r,isLD c=true) (hl:Stops l) (h:Lexes l rs):Lexes (s ++ l) (wd s :: rs):=by
  obtain ⟨c,r,rfl,h1,h2⟩:=hs
  exact lexes_word h1 h2 hl h
theorem lexes_s {c:UInt8} {l:List UInt8} {rs:List Raw} (hs:[c] ∈ sgs) (hl:NoEq l) (h:Lexes l rs):Lexes (c :: l) (sg [c] :: rs):=lexes_sign hs hl h
theorem mode_word {m:Nat} (h:1<=m/\m<=6):∃ c r,modeTxt m=c :: r/\isL c=true/\∀ c ∈ r,isLD c=true:=by
  obtain rfl | rfl | rfl | rfl | rfl | rfl:m=1 \/ m=2 \/ m=3 \/ m=4 \/ m=5 \/ m=6:=by omega
  all_goals exact ⟨_,_,rfl,by decide,by decide⟩
theorem lexes_mode {m:Nat} (h:1<=m/\m<=6) {l:List UInt8} {rs:List Raw} (hl:NoEq l) (hx:Lexes l rs):Lexes (modeTxt m ++ 41 :: 59 :: l) (wd (modeTxt m) :: sg [41] :: sg [59] :: rs) :=
  lexes_w (mode_word h) (stops_cons (by decide)) (lexes_s (by decide) (noeq_cons (by decide)) (lexes_s (by decide) hl hx))
theorem lexes_reg {i:Nat} {l:List UInt8} {rs:List Raw} (_hl:NoEq l) (hx:Lexes l rs):Lexes (114 :: (dec i ++ 32 :: 61 :: 32 :: l)) (wd (114 :: dec i) :: sg [61] :: rs) :=
  lexes_word (c:=114) (by decide) (dec_ld i) (stops_cons (by decide)) (lexes_blank (by decide) (lexes_s (by decide) (noeq_cons (by decide)) (lexes_blank (by decide) hx)))
theorem lexes_loc {x:Nat} (h:isLetter x) {l:List UInt8} {rs:List Raw} (_hl:NoEq l) (hx:Lexes l rs):Lexes (x.toUInt8 :: 44 :: 32 :: l) (wd [x.toUInt8] :: sg [44] :: rs) :=
  lexes_word (s:=[]) (loc_letter h).1 (by simp) (stops_cons (by decide)) (lexes_s (by decide) (noeq_cons (by decide)) (lexes_blank (by decide) hx))
theorem exO_noeq {a:Option Ex} (h:okO a) {l:List UInt8} (hl:NoEq l):NoEq (exO a ++ l):=by
  cases a with
  | none=>exact hl
  | some e=>exact (text_noeq e h.1 l).1
theorem mode_noeq {m:Nat} (h:1<=m/\m<=6) (l:List UInt8):NoEq (modeTxt m ++ l):=by
  obtain rfl | rfl | rfl | rfl | rfl | rfl:m=1 \/ m=2 \/ m=3 \/ m=4 \/ m=5 \/ m=6:=by omega
  all_goals exact noeq_cons (by decide)
theorem mode_of {m:Mk} (h:m.proper) (h2:2<=m.kind) (h7:m.kind<=7):1<=m.mode/\m.mode<=6:=by
  obtain ⟨kind,reg,mode,loc,a,b⟩:=m
  obtain ⟨_,_,h⟩:=h
  simp only at h h2 h7 ⊢
  match kind,h with
  | 2,h=>rcases h.1 with rfl | rfl | rfl <;> omega
  | 3,h=>rcases h.1 with rfl | rfl | rfl <;> omega
  | 4,h=>rcases h.1 with rfl | rfl | rfl | rfl <;> omega
  | 5,h=>rcases h.1 with rfl | rfl | rfl | rfl <;> omega
  | 6,h=>rcases h.1 with rfl | rfl | rfl | rfl <;> omega
  | 7,h=>rcases h.1 with rfl | rfl | rfl | rfl <;> omega
  | 0,_=>omega
  | 1,_=>omega
  | n+8,_=>omega
theorem lexes_head {m:Mk} (h:m.proper) {l:List UInt8} {rs:List Raw} (hl:NoEq l) (hx:Lexes l rs):Lexes (headOf m ++ l) (headR m ++ rs):=by
  have hmo:=mode_of h
  obtain ⟨kind,reg,mode,loc,a,b⟩:=m
  obtain ⟨ha,hb,h⟩:=h
  simp only at ha hb h hmo
  have hexp:∀ {l rs},NoEq l->Lexes l rs->Lexes (exO a ++ 44 :: 32 :: l) (exR a ++ sg [44] :: rs):=fun _ hx=>lexes_exO ha (stops_cons (by decide)) (noeq_cons (by decide)) (lexes_s (by decide) (noeq_cons (by decide)) (lexes_blank (by decide) hx))
  have hexpb:∀ {l rs},NoEq l->Lexes l rs->Lexes (exO b ++ 44 :: 32 :: l) (exR b ++ sg [44] :: rs):=fun _ hx=>lexes_exO hb (stops_cons (by decide)) (noeq_cons (by decide)) (lexes_s (by decide) (noeq_cons (by decide)) (lexes_blank (by decide) hx))
  match kind,h,hmo with
  | 1,h,hmo =>
    simp only [headOf,headR,List.cons_append,List.append_assoc,List.nil_append]
    exact lexes_reg (exO_noeq ha (noeq_cons (by decide))) (lexes_exO ha (stops_cons (by decide)) (noeq_cons (by decide)) (lexes_s (by decide) hl hx))
  | 2,h,hmo =>
    simp only [headOf,headR,List.cons_append,List.append_assoc,List.nil_append]
    exact lexes_reg (noeq_cons (by decide)) (lexes_w (s:=wLoad) ⟨_,_,rfl,by decide,by decide⟩ (stops_cons (by decide)) (lexes_s (by decide) (by intro c r e;injection e with e _;rw [<- e];intro e;have:=(loc_letter h.2.1).1;rw [e] at this;exact absurd this (by decide)) (lexes_loc h.2.1 (mode_noeq (hmo (by omega) (by omega)) _) (lexes_mode (hmo (by omega) (by omega)) hl hx))))
  | 3,h,hmo =>
    simp only [headOf,headR,List.cons_append,List.append_assoc,List.nil_append]
    exact lexes_w (s:=wStore) ⟨_,_,rfl,by decide,by decide⟩ (stops_cons (by decide)) (lexes_s (by decide) (by intro c r e;injection e with e _;rw [<- e];intro e;have:=(loc_letter h.2.1).1;rw [e] at this;exact absurd this (by decide)) (lexes_loc h.2.1 (exO_noeq ha (noeq_cons (by decide))) (hexp (mode_noeq (hmo (by omega) (by omega)) _) (lexes_mode (hmo (by omega) (by omega)) hl hx))))
  | 4,h,hmo =>
    simp only [headOf,headR,List.cons_append,List.append_assoc,List.nil_append]
    exact lexes_reg (noeq_cons (by decide)) (lexes_w (s:=wSwap) ⟨_,_,rfl,by decide,by decide⟩ (stops_cons (by decide)) (lexes_s (by decide) (by intro c r e;injection e with e _;rw [<- e];intro e;have:=(loc_letter h.2.1).1;rw [e] at this;exact absurd this (by decide)) (lexes_loc h.2.1 (exO_noeq ha (noeq_cons (by decide))) (hexp (mode_noeq (hmo (by omega) (by omega)) _) (lexes_mode (hmo (by omega) (by omega)) hl hx)))))
  | 5,h,hmo =>
    simp only [headOf,headR,List.cons_append,List.append_assoc,List.nil_append]
    exact lexes_reg (noeq_cons (by decide)) (lexes_w (s:=wAdd) ⟨_,_,rfl,by decide,by decide⟩ (stops_cons (by decide)) (lexes_s (by decide) (by intro c r e;injection e with e _;rw [<- e];intro e;have:=(loc_letter h.2.1).1;rw [e] at this;exact absurd this (by decide)) (lexes_loc h.2.1 (exO_noeq ha (noeq_cons (by decide))) (hexp (mode_noeq (hmo (by omega) (by omega)) _) (lexes_mode (hmo (by omega) (by omega)) hl hx)))))
  | 6,h,hmo =>
    simp only [headOf,headR,List.cons_append,List.append_assoc,List.nil_append]
    exact lexes_reg (noeq_cons (by decide)) (lexes_w (s:=wCas) ⟨_,_,rfl,by decide,by decide⟩ (stops_cons (by decide)) (lexes_s (by decide) (by intro c r e;injection e with e _;rw [<- e];intro e;have:=(loc_letter h.2.1).1;rw [e] at this;exact absurd this (by decide)) (lexes_loc h.2.1 (exO_noeq ha (noeq_cons (by decide))) (hexp (exO_noeq hb (noeq_cons (by decide))) (hexpb (mode_noeq (hmo (by omega) (by omega)) _) (lexes_mode (hmo (by omega) (by omega)) hl hx))))))
  | 7,h,hmo =>
    simp only [headOf,headR,List.cons_append,List.append_assoc,List.nil_append]
    exact lexes_w (s:=wFence) ⟨_,_,rfl,by decide,by decide⟩ (stops_cons (by decide)) (lexes_s (by decide) (mode_noeq (hmo (by omega) (by omega)) _) (lexes_mode (hmo (by omega) (by omega)) hl hx))
  | 8,h,hmo =>
    simp only [headOf,headR,List.cons_append,List.append_assoc,List.nil_append]
    exact lexes_w (s:=wIf) ⟨_,_,rfl,by decide,by decide⟩ (stops_cons (by decide)) (lexes_blank (by decide) (lexes_s (by decide) (exO_noeq ha (noeq_cons (by decide))) (lexes_exO ha (stops_cons (by decide)) (noeq_cons (by decide)) (lexes_s (by decide) (noeq_cons (by decide)) (lexes_blank (by decide) (lexes_s (by decide) hl hx))))))
  | 9,h,hmo =>
    simp only [headOf,headR,List.cons_append,List.append_assoc,List.nil_append]
    exact lexes_w (s:=wWhile) ⟨_,_,rfl,by decide,by decide⟩ (stops_cons (by decide)) (lexes_blank (by decide) (lexes_s (by decide) (exO_noeq ha (noeq_cons (by decide))) (lexes_exO ha (stops_cons (by decide)) (noeq_cons (by decide)) (lexes_s (by decide) (noeq_cons (by decide)) (lexes_blank (by decide) (lexes_s (by decide) hl hx))))))
  | 0,h,_=>exact h.elim
  | n+10,h,_=>exact h.elim
theorem lexes_line {d:Nat} {s l:List UInt8} {rs rr:List Raw} (hs:∀ l rs,NoEq l->Lexes l rs->Lexes (s ++ l) (rr ++ rs)) (hx:Lexes l rs):Lexes (line d s ++ l) (rr ++ rs):=by
  unfold line
  rw [List.append_assoc,List.append_assoc]
  exact lexes_blanks (fun c hc=>by rw [(List.mem_replicate.1 hc).2];decide) (hs _ _ (noeq_cons (by decide)) (lexes_blank (by decide) hx))
theorem lexes_close {d:Nat} {l:List UInt8} {rs:List Raw} (hx:Lexes l rs):Lexes (line d [125] ++ l) (sg [125] :: rs) :=
  lexes_line (rr:=[sg [125]]) (fun _ _ hl hx=>lexes_s (by decide) hl hx) hx
theorem lexes_else {d:Nat} {l:List UInt8} {rs:List Raw} (hx:Lexes l rs):Lexes (line d elseTxt ++ l) (sg [125] :: wd wElse :: sg [123] :: rs) :=
  lexes_line (rr:=[sg [125],wd wElse,sg [123]]) (fun _ _ hl hx=>lexes_s (by decide) (noeq_cons (by decide)) (lexes_blank (by decide) (lexes_w (s:=wElse) ⟨_,_,rfl,by decide,by decide⟩ (stops_cons (by decide)) (lexes_blank (by decide) (lexes_s (by decide) hl hx))))) hx
def rawsB:Blk->List Raw
  | .nil=>[]
  | .cons m t e r=>headR m ++ ((if m.kind=8 then rawsB t ++ ((if e.len=0 then [] else sg [125] :: wd wElse :: sg [123] :: rawsB e) ++ [sg [125]]) else if m.kind=9 then rawsB t ++ [sg [125]] else []) ++ rawsB r)
theorem proper_kind {m:Mk} (h:m.proper):1<=m.kind/\m.kind<=9:=by
  obtain ⟨kind,reg,mode,loc,a,b⟩:=m
  obtain ⟨_,_,h⟩:=h
  simp only at h ⊢
  match kind,h with
  | 0,h=>exact h.elim
  | n+10,h=>exact h.elim
  | 1,_ | 2,_ | 3,_ | 4,_ | 5,_ | 6,_ | 7,_ | 8,_ | 9,_=>omega
theorem lexes_blk (b:Blk):∀ (d:Nat),b.proper->d+b.deep<=9->∀ l rs,Lexes l rs->Lexes (b.text d ++ l) (rawsB b ++ rs):=by
  induction b with
  | nil=>exact fun d _ _ l rs hx=>hx
  | cons m t e r iht ihe ihr =>
    intro d hp hd l rs hx
    obtain ⟨hm,ht,he,hr,_,_⟩:=hp
    simp only [Blk.deep] at hd
    have hk:=proper_kind hm
    have hrx:=ihr d hr (by omega) l rs hx
    have hdp:=r.deep_pos
    have hn:¬ 8<d:=by omega
    simp only [Blk.text,rawsB,if_neg hn]
    by_cases h8:m.kind=8
    · rw [if_pos h8,if_pos h8]
      rw [if_pos h8] at hd
      simp only [List.append_assoc]
      refine lexes_line (fun _ _ hl hx=>lexes_head hm hl hx) (iht (d+1) ht (by omega) _ _ ?_)
      by_cases h0:e.len=0
      · rw [if_pos h0,if_pos h0]
        exact lexes_close hrx
      · rw [if_neg h0,if_neg h0]
        simp only [List.append_assoc,List.cons_append]
        exact lexes_else (ihe (d+1) he (by omega) _ _ (lexes_close hrx))
    · rw [if_neg h8,if_neg h8]
      rw [if_neg h8] at hd
      by_cases h9:m.kind=9
      · rw [if_pos h9,if_pos h9]
        rw [if_pos h9] at hd
        simp only [List.append_assoc]
        exact lexes_line (fun _ _ hl hx=>lexes_head hm hl hx) (iht (d+1) ht (by omega) _ _ (lexes_close hrx))
      · rw [if_neg h9,if_neg h9,if_pos (by omega)]
        simp only [List.append_assoc,List.nil_append]
        exact lexes_line (fun _ _ hl hx=>lexes_head hm hl hx) hrx
def initR (i:Nat × Nat):List Raw:=[wd wInit,wd [i.1.toUInt8],sg [61],nm i.2,sg [59]]
def threadR (b:Blk):List Raw:=wd wThread :: sg [123] :: (rawsB b ++ [sg [125]])
def rawsT (t:Ts):List Raw:=t.init.flatMap initR ++ (t.threads.flatMap threadR ++ (wd (if t.all then wForall else wExists) :: (exR t.ask ++ [sg [59],rawEnd])))
theorem lexes_init {i:Nat × Nat} (h:isLetter i.1) (hn:i.2<18446744073709551616) {l:List UInt8} {rs:List Raw} (hx:Lexes l rs):Lexes (initTxt i ++ l) (initR i ++ rs):=by
  unfold initTxt initR
  simp only [List.cons_append,List.append_assoc,List.nil_append]
  exact lexes_w (s:=wInit) ⟨_,_,rfl,by decide,by decide⟩ (stops_cons (by decide)) (lexes_blank (by decide) (lexes_word (s:=[]) (loc_letter h).1 (by simp) (stops_cons (by decide)) (lexes_blank (by decide) (lexes_s (by decide) (noeq_cons (by decide)) (lexes_blank (by decide)
    (lexes_num hn (stops_cons (by decide)) (lexes_s (by decide) (noeq_cons (by decide)) (lexes_blank (by decide) hx))))))))
theorem lexes_thread {b:Blk} (h:b.proper) (hd:b.deep<=8) {l:List UInt8} {rs:List Raw} (hx:Lexes l rs):Lexes (threadTxt b ++ l) (threadR b ++ rs):=by
  unfold threadTxt threadR
  simp only [List.cons_append,List.append_assoc,List.nil_append]
  exact lexes_w (s:=wThread) ⟨_,_,rfl,by decide,by decide⟩ (stops_cons (by decide)) (lexes_blank (by decide) (lexes_s (by decide) (noeq_cons (by decide)) (lexes_blank (by decide) (lexes_blk b 1 h (by omega) _ _ (lexes_s (by decide) (noeq_cons (by decide)) (lexes_blank (by decide) hx))))))
theorem lexes_flat {α:Type} (f:α->List UInt8) (g:α->List Raw) (P:α->Prop) (hf:∀ a,P a->∀ l rs,Lexes l rs->Lexes (f a ++ l) (g a ++ rs)):∀ (q:List α),(∀ a ∈ q,P a)->∀ l rs,Lexes l rs->Lexes (q.flatMap f ++ l) (q.flatMap g ++ rs):=by
  intro q
  induction q with
  | nil=>exact fun _ l rs h=>h
  | cons a q ih =>
    intro hq l rs h
    simp only [List.flatMap_cons,List.append_assoc]
    exact hf a (hq a (by simp)) _ _ (ih (fun a ha=>hq a (by simp [ha])) _ _ h)
theorem lexes_test (t:Ts) (h:t.proper) (hn:∀ i ∈ t.init,i.2<18446744073709551616):Lexes t.text (rawsT t):=by
  unfold Ts.text rawsT
  refine lexes_flat initTxt initR (fun i=>isLetter i.1/\i.2<18446744073709551616) (fun i hi l rs hx=>lexes_init hi.1 hi.2 hx) t.init (fun i hi=>⟨h.init i hi,hn i hi⟩) _ _ ?_
  refine lexes_flat threadTxt threadR (fun b=>b.proper/\b.deep<=8) (fun b hb l rs hx=>lexes_thread hb.1 hb.2 hx) t.threads h.threads _ _ ?_
  have hq:Lexes (exO t.ask ++ [59,10]) (exR t.ask ++ [sg [59],rawEnd]):=lexes_exO h.ask (stops_cons (by decide)) (noeq_cons (by decide)) (lexes_s (by decide) (noeq_cons (by decide)) (lexes_blank (by decide) lexes_nil))
  cases t.all with
  | true=>exact lexes_w (s:=wForall) ⟨_,_,rfl,by decide,by decide⟩ (stops_cons (by decide)) (lexes_blank (by decide) hq)
  | false=>exact lexes_w (s:=wExists) ⟨_,_,rfl,by decide,by decide⟩ (stops_cons (by decide)) (lexes_blank (by decide) hq)
end Go.Proofs.YtbkdappgmcebaaaGreatDoor.Prs
end
section
namespace Go.Proofs.YtbkdappgmcebaaaGreatDoor.Prs
open Go.Proofs.YtbkdappgmcebaaaGreatDoor.Expr Go.Proofs.YtbkdappgmcebaaaGreatDoor.Prog
open Go.Proofs.YtbkdappgmcebaaaGreatDoor.Lex (Tok isL isLD isD)
def At (ts:List Lex.Tok) (k:Nat) (rs:List Raw):Prop:=∀ i r,rs[i]? = some r->raw (tk ts (k+i))=r
section
variable {ts : List Lex.Tok} {ask : Bool} {k : Nat} {rs r2 : List Raw}
theorem At.head {r:Raw} (h:At ts k (r :: rs)):raw (tk ts k)=r:=h 0 r rfl
theorem At.tail {r:Raw} (h:At ts k (r :: rs)):At ts (k+1) rs:=fun i x hx=>by
  rw [show k+1+i=k+(i+1) by omega];exact h (i+1) x (by simpa using hx)
theorem At.left (h:At ts k (rs ++ r2)):At ts k rs:=fun i x hx=>h i x (by rw [List.getElem?_append_left (List.getElem?_eq_some_iff.1 hx).1];exact hx)
theorem At.right (h:At ts k (rs ++ r2)):At ts (k+rs.length) r2:=fun i x hx=>by
  rw [Nat.add_assoc];exact h (rs.length+i) x (by rw [List.getElem?_append_right (by omega)];simpa using hx)
theorem At.sg {s:List UInt8} (h:At ts k (sg s :: rs)):ltrs ts k=s/\kindAt ts k=3:=⟨congrArg Raw.text h.head,congrArg Raw.kind h.head⟩
theorem At.wd {s:List UInt8} (h:At ts k (wd s :: rs)):ltrs ts k=s/\kindAt ts k=2:=⟨congrArg Raw.text h.head,congrArg Raw.kind h.head⟩
theorem At.nm {n:Nat} (h:At ts k (nm n :: rs)):ltrs ts k=dec n/\kindAt ts k=1/\numAt ts k=n:=⟨congrArg Raw.text h.head,congrArg Raw.kind h.head,congrArg Raw.num h.head⟩
theorem At.sign {s:List UInt8} (h:At ts k (Prs.sg s :: rs)):signF ts s k = .ok () (k+1):=by unfold signF;rw [if_pos h.sg.1]
theorem At.word {α:Type} {f:List UInt8->Option α} {s:List UInt8} {a:α} (h:At ts k (Prs.wd s :: rs)) (hf:f s=some a):wordF ts f k = .ok a (k+1):=by
  unfold wordF;rw [if_pos h.wd.2,h.wd.1,hf]
theorem dec_small {i:Nat} (h:i<8):dec i=[(48+i).toUInt8]:=by
  obtain rfl | rfl | rfl | rfl | rfl | rfl | rfl | rfl:i=0 \/ i=1 \/ i=2 \/ i=3 \/ i=4 \/ i=5 \/ i=6 \/ i=7:=by omega
  all_goals simp [dec,Lib.decDigits]
theorem regOf_dec {i:Nat} (h:i<8):regOf (114 :: dec i)=some i:=by
  rw [dec_small h]
  obtain rfl | rfl | rfl | rfl | rfl | rfl | rfl | rfl:i=0 \/ i=1 \/ i=2 \/ i=3 \/ i=4 \/ i=5 \/ i=6 \/ i=7:=by omega
  all_goals decide
theorem At.reg {i:Nat} (hi:i<8) (h:At ts k (Prs.wd (114 :: dec i) :: rs)):regF ts k = .ok i (k+1):=h.word (regOf_dec hi)
theorem locOf_x {x:Nat} (h:isLetter x) (hr:x≠114):locOf [x.toUInt8]=some x:=by
  have e:=(loc_letter h).2
  have hne:x.toUInt8≠114:=fun h=>hr (by rw [<- e,h];rfl)
  unfold locOf
  simp only
  rw [if_neg hne,e]
theorem At.loc {x:Nat} (h:isLetter x) (hr:x≠114) (ha:At ts k (Prs.wd [x.toUInt8] :: rs)):locF ts k = .ok x (k+1):=ha.word (locOf_x h hr)
def leafy (ask:Bool):Ex->Prop
  | .num _=>True
  | .reg _=>ask=false
  | .of _ _=>ask=true
  | .loc _=>ask=true
  | .one _ a=>leafy ask a
  | .two _ a b=>leafy ask a/\leafy ask b
def Fo (ts:List Lex.Tok) (j n:Nat):Prop:=strongOp (op2 ts j)<=n/\ltrs ts j ≠ [58]
theorem opOf_ld {n:Nat} {c:UInt8} {s:List UInt8} (h:isLD c=true):opOf n (c :: s)=0:=by
  refine opOf_miss fun i h1 h2=>?_
  unfold opIs
  have hne:sign i≠c :: s:=by
    intro e
    obtain rfl | rfl | rfl | rfl | rfl | rfl | rfl | rfl | rfl | rfl | rfl | rfl | rfl | rfl:i=1 \/ i=2 \/ i=3 \/ i=4 \/ i=5 \/ i=6 \/ i=7 \/ i=8 \/ i=9 \/ i=10 \/ i=11 \/ i=12 \/ i=13 \/ i=14:=by omega
    all_goals
      injection e with e _
      subst e
      exact absurd h (by decide)
  rw [decide_eq_false hne,Bool.and_false]
theorem not_paren {c:UInt8} {s:List UInt8} (h:isLD c=true):c :: s ≠ [40]:=by
  intro e
  injection e with e _
  subst e
  exact absurd h (by decide)
theorem dec_head (n:Nat):∃ c r,dec n=c :: r/\isLD c=true:=by
  obtain ⟨c,r,h,_⟩:=dec_cons n
  exact ⟨c,r,h,dec_ld n c (by rw [h];simp)⟩
theorem opOf_two {op:Nat} (h1:1<=op) (h2:op<=12):opOf 2 (sign op)=op:=by
  obtain rfl | rfl | rfl | rfl | rfl | rfl | rfl | rfl | rfl | rfl | rfl | rfl:op=1 \/ op=2 \/ op=3 \/ op=4 \/ op=5 \/ op=6 \/ op=7 \/ op=8 \/ op=9 \/ op=10 \/ op=11 \/ op=12:=by omega
  all_goals decide
theorem opOf_one {op:Nat} (h:op=13 \/ op=14):opOf 1 (sign op)=op:=by
  rcases h with rfl | rfl <;> decide
theorem leaf_px {e:Ex} (hl:e.isLeaf=true) (ho:e.ok) (hy:leafy ask e) (h:At ts k (rawsE e)) (hf:ltrs ts (k+(rawsE e).length) ≠ [58]) (o:Nat):Px ts ask (.part o) k (.ok e (k+(rawsE e).length)):=by
  have key:leafF ts ask k = .ok e (k+(rawsE e).length)/\op1 ts k=0/\ltrs ts k ≠ [40]:=by
    cases e with
    | num n =>
      have h:At ts k [nm n]:=h
      obtain ⟨h1,h2,h3⟩:=h.nm
      obtain ⟨c,r,hd,hc⟩:=dec_head n
      refine ⟨?_,by unfold op1;rw [h1,hd];exact opOf_ld hc,by rw [h1,hd];exact not_paren hc⟩
      unfold leafF
      rw [h2,h3]
      have hf:ltrs ts (k+1) ≠ [58]:=hf
      cases ask with
      | true=>simp only [if_true,if_neg hf];rfl
      | false=>rfl
    | reg i =>
      have h:At ts k [Prs.wd (114 :: dec i)]:=h
      obtain ⟨h1,h2⟩:=h.wd
      refine ⟨?_,by unfold op1;rw [h1];exact opOf_ld (by decide),by rw [h1];exact not_paren (by decide)⟩
      have hy:ask=false:=hy
      subst hy
      unfold leafF
      rw [h2,h.reg ho]
      rfl
    | of t i =>
      have h:At ts k [nm t,Prs.sg [58],Prs.wd (114 :: dec i)]:=h
      obtain ⟨h1,h2,h3⟩:=h.nm
      obtain ⟨c,r,hd,hc⟩:=dec_head t
      refine ⟨?_,by unfold op1;rw [h1,hd];exact opOf_ld hc,by rw [h1,hd];exact not_paren hc⟩
      have hy:ask=true:=hy
      subst hy
      unfold leafF
      rw [h2,h3,h.tail.sg.1]
      simp only [if_true,if_pos ho.1]
      rw [show k+2=k+1+1 from rfl,h.tail.tail.reg ho.2]
      rfl
    | loc x =>
      have h:At ts k [Prs.wd [x.toUInt8]]:=h
      obtain ⟨h1,h2⟩:=h.wd
      have hx:isLetter x:=⟨ho.1,ho.2.1⟩
      have hld:isLD x.toUInt8=true:=by unfold isLD;rw [(loc_letter hx).1];rfl
      refine ⟨?_,by unfold op1;rw [h1];exact opOf_ld hld,by rw [h1];exact not_paren hld⟩
      have hy:ask=true:=hy
      subst hy
      unfold leafF
      rw [h2,h.loc hx ho.2.2]
      rfl
    | one op a=>cases hl
    | two op a b=>cases hl
  rw [<- key.1]
  exact .leaf key.2.1 key.2.2
def req:Ex->Nat->Prop
  | .two op a b,o=>o+(Ex.two op a b).depth<=14
  | e,o=>o+e.depth<=13
theorem req_of {e:Ex} {o:Nat} (h:o+e.depth<=13):req e o:=by
  cases e <;> simp only [req] <;> omega
theorem len_par (rs:List Raw):(parR rs).length=rs.length+2:=by simp [parR]
theorem op2_of {s:List UInt8} (hc:opOf 2 s=0) (h:ltrs ts k=s):op2 ts k=0:=by unfold op2;rw [h];exact hc
structure Reads (ts:List Lex.Tok) (ask:Bool) (e:Ex):Prop where
  ops:∀ (o k least:Nat) (out:Out Ex),req e o->1<=least->least<=e.strong->At ts k (rawsE e)->Fo ts (k+(rawsE e).length) e.strong->Px ts ask (.loop o least e) (k+(rawsE e).length) out->Px ts ask (.ops o least) k out
  part:4<=e.strong->∀ (o k:Nat),req e o->At ts k (rawsE e)->ltrs ts (k+(rawsE e).length) ≠ [58]->Px ts ask (.part o) k (.ok e (k+(rawsE e).length))
theorem Reads.par {e:Ex} (H:Reads ts ask e) (he:e.ok) (h2:2<=e.depth) (hs:e.strong<4) (h1s:1<=e.strong) {o k:Nat} (ho:o+e.depth<=13) (h:At ts k (parR (rawsE e))):Px ts ask (.part o) k (.ok e (k+(rawsE e).length+2)):=by
  have ht:=h.tail
  have hc:At ts (k+1+(rawsE e).length) [sg [41]]:=ht.right
  have h41:=hc.sg.1
  have h0:op2 ts (k+1+(rawsE e).length)=0:=op2_of (by decide) h41
  have hq:req e (o+1):=by
    cases e with
    | one op a =>
      have h4:=one_strong he.1
      have hs:strongOp op<4:=hs
      omega
    | two op a b=>simp only [req];omega
    | _=>exact absurd h2 (by simp [Ex.depth])
  have hin:=H.ops (o+1) (k+1) 1 (.ok e (k+1+(rawsE e).length)) hq (by omega) h1s ht.left ⟨by rw [h0];exact Nat.zero_le _,by rw [h41];decide⟩ (.stop (by rw [h0];decide))
  have:=Px.paren (o:=o) (by unfold op1;rw [h.sg.1];decide) h.sg.1 (by omega) hin
  have e2:(Out.ok e (k+1+(rawsE e).length)).close ts = .ok e (k+(rawsE e).length+2):=by
    show (signF ts [41] (k+1+(rawsE e).length)).map _=_
    rw [hc.sign]
    show Out.ok e _=_
    congr 1;omega
  rwa [e2] at this
theorem Ex.two_of {e:Ex} (ho:e.ok) (h:e.strong<4):2<=e.depth/\1<=e.strong:=by
  cases e with
  | two op a b =>
    have:=depth_pos a
    have h1:=strong_pos ho.1 ho.2.1
    simp only [Ex.depth,Ex.strong];omega
  | one op a=>rcases ho.1 with rfl | rfl <;> exact absurd h (by simp [Ex.strong,strongOp])
  | _=>exact absurd h (by simp [Ex.strong])
theorem Reads.at {e:Ex} (H:Reads ts ask e) (he:e.ok) {n:Nat} (hn:n<=4) {o k least:Nat} {out:Out Ex} (ho:o+e.depth<=13) (h1:1<=least) (hl:least<=n) (h:At ts k (atR n e)) (hf:Fo ts (k+(atR n e).length) n)
    (hx:Px ts ask (.loop o least e) (k+(atR n e).length) out):Px ts ask (.ops o least) k out:=by
  by_cases hs:e.strong<n
  · have ea:atR n e=parR (rawsE e):=if_pos hs
    rw [ea] at h hx
    rw [len_par] at hx
    have h2:=Ex.two_of he (by omega)
    exact .first (H.par he h2.1 (by omega) h2.2 ho h) hx
  · have ea:atR n e=rawsE e:=if_neg hs
    rw [ea] at h hx hf
    exact H.ops o k least out (req_of ho) h1 (by omega) h ⟨Nat.le_trans hf.1 (by omega),hf.2⟩ hx
theorem Reads.at4 {e:Ex} (H:Reads ts ask e) (he:e.ok) {o k:Nat} (ho:o+e.depth<=13) (h:At ts k (atR 4 e)) (hf:ltrs ts (k+(atR 4 e).length) ≠ [58]):Px ts ask (.part o) k (.ok e (k+(atR 4 e).length)):=by
  by_cases hs:e.strong<4
  · have ea:atR 4 e=parR (rawsE e):=if_pos hs
    rw [ea] at h ⊢
    rw [len_par]
    have h2:=Ex.two_of he hs
    exact H.par he h2.1 hs h2.2 ho h
  · have ea:atR 4 e=rawsE e:=if_neg hs
    rw [ea] at h hf ⊢
    exact H.part (by omega) o k (req_of ho) h hf
theorem Reads.leaf {e:Ex} (hl:e.isLeaf=true) (ho:e.ok) (hy:leafy ask e):Reads ts ask e :=
  ⟨fun _ _ _ _ _ _ _ h hf hx => .first (leaf_px hl ho hy h hf.2 _) hx,fun _ _ _ _ h hf=>leaf_px hl ho hy h hf _⟩
theorem reads (e:Ex) (he:e.ok) (hy:leafy ask e):Reads ts ask e:=by
  induction e with
  | num n=>exact .leaf rfl he hy
  | reg i=>exact .leaf rfl he hy
  | of t i=>exact .leaf rfl he hy
  | loc x=>exact .leaf rfl he hy
  | one op a ih =>
    have H:=ih he.2 hy
    have hp:∀ (o k:Nat),req (.one op a) o->At ts k (rawsE (.one op a))->ltrs ts (k+(rawsE (.one op a)).length) ≠ [58]->Px ts ask (.part o) k (.ok (.one op a) (k+(rawsE (.one op a)).length)):=by
      intro o k hr h hf
      rw [raws_one,one_strong he.1] at h hf ⊢
      have hr:o+(a.depth+1)<=13:=hr
      have hd:=depth_pos a
      have h1:=h.sg.1
      have ho1:op1 ts k=op:=by unfold op1;rw [h1];exact opOf_one he.1
      simp only [List.length_cons] at hf ⊢
      have hin:=H.at4 he.2 (o:=o+1) (k:=k+1) (by omega) h.tail (by rw [show k+1+(atR 4 a).length=k+((atR 4 a).length+1) by omega];exact hf)
      have:=Px.sign (o:=o) (k:=k) (ts:=ts) (ask:=ask) (by rw [ho1];rcases he.1 with h | h <;> omega) (by omega) hin
      rw [ho1] at this
      rw [show k+((atR 4 a).length+1)=k+1+(atR 4 a).length by omega]
      exact this
    exact ⟨fun o k least out hr _ _ h hf hx => .first (hp o k hr h hf.2) hx,fun _=>hp⟩
  | two op a b iha ihb =>
    have hs:=strong_pos he.1 he.2.1
    refine ⟨fun o k least out hr h1 hl h hf hx=>?_,fun h4=>absurd h4 (by simp only [Ex.strong];omega)⟩
    have hl:least<=strongOp op:=hl
    have hf:Fo ts (k+(rawsE (.two op a b)).length) (strongOp op):=hf
    have hr:o+(max a.depth b.depth+1)<=14:=hr
    rw [raws_two] at h hf hx
    simp only [List.length_append,List.length_cons] at hf hx
    have hm:=h.right
    have h2:op2 ts (k+(atR (strongOp op) a).length)=op:=by unfold op2;rw [hm.sg.1];exact opOf_two he.1 he.2.1
    have hne:sign op ≠ [58]:=fun e=>by
      have:=opOf_two he.1 he.2.1
      rw [e,show opOf 2 [58]=0 by decide] at this
      have:=he.1;omega
    refine (iha he.2.2.1 hy.1).at he.2.2.1 (n:=strongOp op) (by omega) (by omega) h1 hl h.left ⟨by rw [h2];exact Nat.le_refl _,by rw [hm.sg.1];exact hne⟩ ?_
    have e3:k+((atR (strongOp op) a).length+((atR (strongOp op+1) b).length+1))=k+(atR (strongOp op) a).length+1+(atR (strongOp op+1) b).length:=by omega
    rw [e3] at hf hx
    refine .go (k2:=k+(atR (strongOp op) a).length+1+(atR (strongOp op+1) b).length) (r:=b) (by rw [h2];exact hl) ?_ (by rw [h2];exact hx)
    rw [h2]
    exact (ihb he.2.2.2 hy.2).at he.2.2.2 (n:=strongOp op+1) (by omega) (by omega) (by omega) (Nat.le_refl _) hm.tail ⟨Nat.le_succ_of_le hf.1,hf.2⟩ (.stop (Nat.lt_succ_of_le hf.1))
theorem expr_at {e:Ex} (he:e.ok) (hd:e.depth<=12) (hy:leafy ask e) (h:At ts k (rawsE e ++ rs)) (h0:op2 ts (k+(rawsE e).length)=0) (hc:ltrs ts (k+(rawsE e).length) ≠ [58]):exprF ts ask k = .ok e (k+(rawsE e).length):=by
  have hpos:1<=e.strong:=by
    by_cases hs:e.strong<4
    · exact (Ex.two_of he hs).2
    · omega
  rw [exprF_of ((reads e he hy).ops 0 k 1 (.ok e (k+(rawsE e).length)) (req_of (by omega)) (Nat.le_refl _) hpos h.left ⟨by rw [h0];exact Nat.zero_le _,hc⟩ (.stop (by rw [h0];decide)))]
  show (if 12<e.depth then _ else _)=_
  rw [if_neg (by omega)]
end
end Go.Proofs.YtbkdappgmcebaaaGreatDoor.Prs
end
