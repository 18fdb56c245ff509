/- Part 47 of the proof: what is used of the texts PtlX. -/
import Derived.Test.YtaanhmndeobgbaaGreatDoorGE4
import Derived.Test.YtaanhmndeobgbaaGreatDoorGE2
import Derived.Test.YtaanhmndeobgbaaGreatDoorGE5
import Derived.Deep.DeepCutAuto
import Derived.Deep.CutBlock
set_option maxRecDepth 100000
set_option maxHeartbeats 8000000
namespace Go.Proofs.YtaanhmndeobgbaaGreatDoor.fT
open Go.RowKit Mem Go.Proofs.YtaanhmndeobgbaaGreatDoor.Expr Prog Go.Lib ae
open Go.Proofs.YtaanhmndeobgbaaGreatDoor.Row (Lay cellsOf bO dQ mU eX cz eY dM ax ed aO iU)
open Lex (Tok cO jA iO)
def O9 (r:UM) (w:World) (e:Ending) (w':World):Prop :=
 Below w.heap.size w w' /\ match r with
  | .ok t=>∃ vi vt va,e = .returned (.tuple #[.agg (yw vi vt t.all va),.agg #[.int .i64 0,.int .i64 0],.int .i64 0])/\QF w' (zH t) vi vt va
  | .err l c er=>er≠0/\e = .returned (.tuple #[.agg #[.slice none 0 0,.slice none 0 0,.bool false,.slice none 0 0],.agg #[.int .i64 (l:Nat),.int .i64 (c:Nat)],.int .i64 (er:Nat)])
theorem RF {W:World} {B:Nat} {v:Value} {ts:List Lex.Tok} (hp:gM ts) (h:W.ownsRow B 66 5 v ts.length (Lex.toks ts)):∃ gp c,v = .slice (some ⟨gp,0,none⟩) ts.length c/\dK W v ts:=by
 rcases h.2 with ⟨_,h0⟩ | ⟨g,cap,cur,e,hB,hh,_⟩
 ·exact absurd h0 (by have:=hp.some;omega)
 ·refine ⟨g,cap,e,⟨g,0,cap,e,by have:=hp.few;omega,fun i r t ht hr=>?_⟩⟩
  have hx:=D6 ts i r t ht hr;have hs:(Lex.eG t)[r]? = some ((Lex.eG t)[r]'(by simp [Lex.eG];omega)):=List.getElem?_eq_getElem _;have hc:=h.cells (g:=g) (by rw [e];rfl) (i * 5+r) _ (hx.trans hs);rw [Nat.zero_add,hs,<- hc];generalize i * 5+r=j;have e':(⟨g,0,none⟩:Addr).add j=⟨g,j,none⟩:=by unfold Addr.add;by_cases hj:j=0 <;> simp [hj]
  rw [e']
def vT (w:World) (g:Nat) (a b:Value):World:=(w.setCell ⟨g,0,none⟩ a).setCell ⟨g,1,none⟩ b
theorem Cm {w:World} {g:Nat} {t:TypeId} {z0 z1:Value} (h:Sits w g t #[z0,z1]) (a b:Value):Sits (vT w g a b) g t #[a,b]:=(h.put 0 a).put 1 b
theorem FZ {B:Nat} {a0 w:World} (h:Below B a0 w) {g:Nat} (hg:B<=g) (a b:Value):Below B a0 (vT w g a b):=(h.setCell hg a).setCell hg b
theorem Xy {w:World} {g g':Nat} {t:TypeId} {cs:Array Value} (h:Sits w g t cs) (hne:g≠g') (a b:Value):Sits (vT w g' a b) g t cs:=(h.far (p:=⟨g',0,none⟩) hne a).far (p:=⟨g',1,none⟩) hne b
theorem Am (w:World) (g:Nat) (a b:Value):aa (fun x=>x=g) w (vT w g a b):=((aa.refl (fun x=>x=g) w).put (p:=⟨g,0,none⟩) (.inl rfl) a).put (p:=⟨g,1,none⟩) (.inl rfl) b
def U1 (ts:List Lex.Tok) (out:Out Ts) (m:Nat) (l:List (Nat × Nat)) (k j e:Nat):Prop :=
 (e=0/\j=0/\k<ts.length/\m=ts.length - k/\Tx ts (.inits l) k out/\l.length<=k) \/ (e≠0/\j<ts.length/\k<ts.length/\m=0/\out = .bad j e)
def LpI (ts:List Lex.Tok) (gp c B1:Nat) (out:Out Ts) (m g8 g9:Nat) (W:World):Prop:=∃ r d l k j e,cz 61 2 B1 W r (l:List (Nat × Nat)).length d (l.flatMap aX)/\Sits W g8 57 #[.slice (some ⟨gp,0,none⟩) ts.length c,.int .i64 (k:Nat),.int .i64 (j:Nat),.int .i64 (e:Nat)]/\Sits W g9 37 #[.slice r l.length d,.slice none 0 0,.bool false,.slice none 0 0]/\l.length<=ts.length+1/\U1 ts out m l k j e
theorem U1.lt {ts:List Lex.Tok} {out:Out Ts} {m:Nat} {l:List (Nat × Nat)} {k j e:Nat} (h:U1 ts out m l k j e):k<ts.length:=by
 rcases h with ⟨_,_,hk,_⟩ | ⟨_,_,hk,_⟩ <;> exact hk
theorem Cn {ts:List Lex.Tok} {k e:Nat} {s:List UInt8} (hs:s ≠ []) (h:aZ ts 2 k e=s):e=0/\au ts k=2/\aj ts k=s:=by
 unfold aZ at h;by_cases hq:e=0/\au ts k=2
 ·rw [if_pos hq] at h;exact ⟨hq.1,hq.2,h⟩
 ·rw [if_neg hq] at h;exact absurd h.symm hs
theorem Co {ts:List Lex.Tok} {k j e:Nat} (h:((jo ts k).bind fun _ k=>ak ts [61] k) = .bad j e):dC ts k = .bad j e:=by
 unfold dC;cases h1:jo ts k with
 | bad a b=>rw [h1] at h;injection h with e1 e2;subst e1 e2;rfl
 | ok x q =>
  rw [h1,aN] at h;rw [aN,h];rfl
theorem Pb {ts:List Lex.Tok} {k q:Nat} {u:Unit} (h:((jo ts k).bind fun _ k=>ak ts [61] k) = .ok u q):∃ x q0,jo ts k = .ok x q0/\dC ts k=(if au ts q=1 then Out.ok (aT ts q) (q+1) else Out.bad q 3).bind fun n k=>(ak ts [59] k).map fun _=>(x,n):=by
 obtain ⟨x,q0,h1,h2⟩:=aJ h;refine ⟨x,q0,h1,?_⟩;unfold dC;rw [h1,aN,h2,aN]
theorem xm {ts:List Lex.Tok} (hG:gM ts) {v:Value} {out:Out Ts} {m:Nat} {l:List (Nat × Nat)} {k1 j1 k5 j5 e5 x2 nn:Nat} (hst:U1 ts out m l k1 j1 0) (hlt:aj ts k1=nM) (PH:aP v ts.length (dC ts (k1+1)) (.agg #[v,.int .i64 (k5:Nat),.int .i64 (j5:Nat),.int .i64 (e5:Nat)])) (hv:∀ x k',dC ts (k1+1) = .ok x k' -> x=(x2,nn)) :
  ∃ m',m' < m/\U1 ts out m' (l ++ [(x2,nn)]) k5 j5 e5:=by
 rcases hst with ⟨_,_,hk,rfl,hx,hl⟩ | ⟨h,_⟩
 ·have hkn:=eF hG hk (by decide) hlt
  rcases lZ hx with ⟨_,x,k',hi,ht⟩ | ⟨_,j,er,hi,rfl⟩ | ⟨h,_⟩
  ·have hin:=Di hG.good hkn (lo:=k1+2) (by omega) x k' hi
   rw [hi] at PH;obtain ⟨rfl,rfl,rfl,hk5⟩:=PH.nQ;have hx2:=hv x k5 hi;subst hx2;exact ⟨ts.length - k5,by omega,.inl ⟨rfl,rfl,hk5,rfl,ht,by rw [List.length_append];simp only [List.length_cons,List.length_nil];omega⟩⟩
  ·rw [hi] at PH
   obtain ⟨rfl,rfl,ne,hj,hk5⟩:=PH.mV;exact ⟨0,by omega,.inr ⟨ne,hj,hk5,rfl,rfl⟩⟩
  ·exact absurd hlt h
 ·exact absurd rfl h
theorem Ao {ts:List Lex.Tok} {out:Out Ts} {m:Nat} {l:List (Nat × Nat)} {k1 j1 x2 nn:Nat} (hst:U1 ts out m l k1 j1 0):(l ++ [(x2,nn)]).length<=ts.length+1:=by
 rw [List.length_append];simp only [List.length_cons,List.length_nil]
 rcases hst with ⟨_,_,hk,rfl,hx,hl⟩ | ⟨h,_⟩
 ·omega
 ·exact absurd rfl h
def PI (ts:List Lex.Tok) (out:Out Ts) (m:Nat) (l:List (Nat × Nat)) (q:List az) (ls:List (List Prog.Mark)) (k j e:Nat):Prop :=
 (e=0/\j=0/\k<ts.length/\m=ts.length - k/\Tx ts (.threads l q) k out/\ls=q.map aS/\q.length<=4) \/ (e≠0/\j<ts.length/\k<ts.length/\m=0/\out = .bad j e/\ls.length<=5)
theorem PI.lt {ts:List Lex.Tok} {out:Out Ts} {m:Nat} {l:List (Nat × Nat)} {q:List az} {ls:List (List Prog.Mark)} {k j e:Nat} (h:PI ts out m l q ls k j e):k<ts.length:=by
 rcases h with ⟨_,_,hk,_⟩ | ⟨_,_,hk,_⟩ <;> exact hk
theorem PI.few {ts:List Lex.Tok} {out:Out Ts} {m:Nat} {l:List (Nat × Nat)} {q:List az} {ls:List (List Prog.Mark)} {k j e:Nat} (h:PI ts out m l q ls k j e):ls.length<=5:=by
 rcases h with ⟨_,_,_,_,_,rfl,hq⟩ | ⟨_,_,_,_,_,hl⟩
 ·rw [List.length_map];omega
 ·exact hl
theorem Lv {ts:List Lex.Tok} (hG:gM ts) {out:Out Ts} {m:Nat} {l:List (Nat × Nat)} {k j e:Nat} (h:U1 ts out m l k j e) (hn:aZ ts 2 k e≠nM):∃ m',PI ts out m' l [] [] k j e:=by
 rcases h with ⟨rfl,rfl,hk,rfl,hx,hl⟩ | ⟨he,hj,hk,_,ho⟩
 ·have hne:aj ts k≠nM:=fun h=>hn (kV hG ⟨_,_,rfl,by decide⟩ h)
  rcases lZ hx with ⟨h,_⟩ | ⟨h,_⟩ | ⟨_,h⟩
  ·exact absurd h hne
  ·exact absurd h hne
  ·exact ⟨_,.inl ⟨rfl,rfl,hk,rfl,h,rfl,by simp⟩⟩
 ·exact ⟨0,.inr ⟨he,hj,hk,rfl,ho,by simp⟩⟩
theorem Pd {ts:List Lex.Tok} (hG:gM ts) {v:Value} {out:Out Ts} {m:Nat} {l:List (Nat × Nat)} {q:List az} {ls:List (List Prog.Mark)} {lb:List Prog.Mark} {k1 j1 k5 j5 e5:Nat} (hst:PI ts out m l q ls k1 j1 0) (hlt:aj ts k1=eT) (h3:ls.length<=3) (PH:aP v ts.length (kW ts 1 (k1+1)) (.agg #[v,.int .i64 (k5:Nat),.int .i64 (j5:Nat),.int .i64 (e5:Nat)])) (hv:∀ a k',kW ts 1 (k1+1) = .ok a k' -> lb=aS a) :
  ∃ m' q',m' < m/\PI ts out m' l q' (ls ++ [lb]) k5 j5 e5:=by
 rcases hst with ⟨_,_,hk,rfl,hx,rfl,hq⟩ | ⟨h,_⟩
 ·rw [List.length_map] at h3
  have hkn:=eF hG hk (by decide) hlt;rcases iN hx with ⟨_,h,_⟩ | ⟨_,hq4,o1,hb,ho⟩ | ⟨h,_⟩
  ·omega
  ·rw [lY hb] at PH hv
   rcases ho with ⟨j,er,rfl,rfl⟩ | ⟨b,k',rfl,ht⟩
   ·obtain ⟨rfl,rfl,ne,hj,hk5⟩:=PH.mV
    exact ⟨0,q,by omega,.inr ⟨ne,hj,hk5,rfl,rfl,by simp;omega⟩⟩
   ·obtain ⟨rfl,rfl,rfl,hk5⟩:=PH.nQ
    have hl:=hv b k5 rfl;subst hl;have:=(DR hG hb hkn b k5 rfl).2.1;exact ⟨ts.length - k5,q ++ [b],by omega,.inl ⟨rfl,rfl,hk5,rfl,ht,by simp,by simp;omega⟩⟩
  ·exact absurd hlt h
 ·exact absurd rfl h
def LpT (ts:List Lex.Tok) (gp c B1 B2:Nat) (out:Out Ts) (l:List (Nat × Nat)) (r:Option Addr) (d m g8 g9:Nat) (W:World):Prop:=∃ r2 d2 q ls vs k j e,cz 68 1 B2 W r2 (ls:List (List Prog.Mark)).length d2 vs/\yB (fun g=>0<=g/\(Value.slice r2 ls.length d2).ownBlock≠some g) W ls vs/\Sits W g8 57 #[.slice (some ⟨gp,0,none⟩) ts.length c,.int .i64 (k:Nat),.int .i64 (j:Nat),.int .i64 (e:Nat)]/\Sits W g9 37 #[.slice r l.length d,.slice r2 ls.length d2,.bool false,.slice none 0 0]/\cz 61 2 B1 W r l.length d (l.flatMap aX)/\PI ts out m l q ls k j e
theorem Lx {e:TypeId} {size B B2:Nat} {w W:World} {r:Option Addr} {n d:Nat} {xs:List Value} (h:cz e size B w r n d xs) (hb:Below B2 w W) (ho:∀ g,(Value.slice r n d).ownBlock=some g->g<B2):cz e size B W r n d xs :=
 dM ⟨h.own.1,h.own.2.imp id fun ⟨g',cap,cur,e1,e2,e3,e4⟩=>⟨g',cap,cur,e1,e2,(hb.block g' (ho g' (by rw [e1];rfl))).trans e3,e4⟩⟩
theorem yB.below {U:Nat->Prop} {w w':World} {ls:List (List Prog.Mark)} {vs:List Value} (h:yB U w ls vs) (hb:Below w.heap.size w w'):yB U w' ls vs:=h.imp fun _ _ h=>h.below hb
theorem yB.off {U:Nat->Prop} {w W:World} {g:Nat} {ls:List (List Prog.Mark)} {vs:List Value} (h:yB U w ls vs) (hs:Iu w g) (hk:aa (fun b=>b=g) w W):yB U W ls vs:=h.imp fun _ _ h=>h.off hs hk
theorem RG {ts:List Lex.Tok} (hG:gM ts) {v:Value} {out:Out Ts} {m:Nat} {l:List (Nat × Nat)} {q:List az} {ls:List (List Prog.Mark)} {k j e:Nat} (h:PI ts out m l q ls k j e) (hn:aZ ts 2 k e≠eT) :
  ∃ o0:Out Unit,aP v ts.length o0 (.agg #[v,.int .i64 (k:Nat),.int .i64 (j:Nat),.int .i64 (e:Nat)])/\out=o0.bind (fun _ k=>uk ts l q k)/\∀ t k,out = .ok t k->ls=q.map aS:=by
 rcases h with ⟨rfl,rfl,hk,rfl,hx,rfl,hl⟩ | ⟨he,hj,hk,_,rfl,_⟩
 ·have hne:aj ts k≠eT:=fun h=>hn (kV hG ⟨_,_,rfl,by decide⟩ h)
  rcases iN hx with ⟨h,_⟩ | ⟨h,_⟩ | ⟨_,h⟩
  ·exact absurd h hne
  ·exact absurd h hne
  ·exact ⟨.ok () k,⟨rfl,hk⟩,h,fun _ _ _=>rfl⟩
 ·exact ⟨.bad j e,⟨k,rfl,he,hj,hk⟩,rfl,fun t k h=>by cases h⟩
theorem U2 (w:World):qI (w.alloc (.cells #[.string ⟨#[101,120,105,115,116,115]⟩,.string ⟨#[102,111,114,97,108,108]⟩] 9)) (.slice (some ⟨w.heap.size,0,none⟩) 2 2) [fC,dX]:=⟨w.heap.size,0,2,rfl,by decide,fun i x hx=>by
 rcases i with _ | _ | i
 ·injection hx with hx;subst hx;exact (Sits.new w 9 #[.string ⟨#[101,120,105,115,116,115]⟩,.string ⟨#[102,111,114,97,108,108]⟩]).cell 0
 ·injection hx with hx;subst hx;exact (Sits.new w 9 #[.string ⟨#[101,120,105,115,116,115]⟩,.string ⟨#[102,111,114,97,108,108]⟩]).cell 1
 ·cases hx⟩
theorem Ap {w:World} {g:Nat} {t:TypeId} {p q r:Option Addr} {n c n' c' n2 c2:Nat} {b:Bool} (hs:Sits w g t #[.slice p n c,.slice q n' c',.bool b,.slice r n2 c2]):∀ i x,w.cell? ⟨g,i,none⟩ ≠ some (.int .u64 x):=fun i x hc=>by
 rw [hs.cell i] at hc;rcases i with _ | _ | _ | _ | i <;> simp at hc
theorem JP {w:World} {g:Nat} {t:TypeId} {p q r:Option Addr} {n c n' c' n2 c2:Nat} {b:Bool} (hs:Sits w g t #[.slice p n c,.slice q n' c',.bool b,.slice r n2 c2]):∀ i x,w.cell? ⟨g,i,none⟩ ≠ some (.int .u8 x):=fun i x hc=>by
 rw [hs.cell i] at hc;rcases i with _ | _ | _ | _ | i <;> simp at hc
theorem F3 {w:World} {g:Nat} {t:TypeId} {x y:Int} (hs:Sits w g t #[.int .i64 x,.int .i64 y]):∀ i z,w.cell? ⟨g,i,none⟩ ≠ some (.int .u8 z):=fun i z hc=>by
 rw [hs.cell i] at hc;rcases i with _ | _ | i <;> simp at hc
theorem F4 {w:World} {g:Nat} {t:TypeId} {x y:Int} (hs:Sits w g t #[.int .i64 x,.int .i64 y]):∀ i z,w.cell? ⟨g,i,none⟩ ≠ some (.int .u64 z):=fun i z hc=>by
 rw [hs.cell i] at hc;rcases i with _ | _ | i <;> simp at hc
theorem IC {w:World} {g:Nat} {t:TypeId} {x y:Int} (hs:Sits w g t #[.int .i64 x,.int .i64 y]):Iu w g:=fun i u hc=>by
 rw [hs.cell i] at hc;rcases i with _ | _ | i
 ·have e:=Option.some.inj hc;subst e;rintro (⟨_,h⟩ | ⟨_,h⟩) <;> cases h
 ·have e:=Option.some.inj hc;subst e;rintro (⟨_,h⟩ | ⟨_,h⟩) <;> cases h
 ·simp at hc
theorem RH {α:Type} {v:Value} {n:Nat} {o:Out α} {k j e:Nat} (h:aP v n o (.agg #[v,.int .i64 (k:Nat),.int .i64 (j:Nat),.int .i64 (e:Nat)])) (he:e≠0):j<n/\o = .bad j e:=by
 cases o with
 | ok a q=>exact absurd h.nQ.2.2.1 he
 | bad a b=>obtain ⟨rfl,rfl,_,hj,_⟩:=h.mV;exact ⟨hj,rfl⟩
theorem Pe {ts:List Lex.Tok} {l:List (Nat × Nat)} {q:List az} {o0:Out Unit} {j e:Nat} (h:(((o0.bind fun _ k=>bg ts [fC,dX] k).bind fun _ k=>bG ts true k).bind fun _ k=>ak ts [59] k) = .bad j e):(o0.bind fun _ k=>uk ts l q k) = .bad j e:=by
 cases o0 with
 | bad a b=>injection h with h1 h2;subst h1 h2;rfl
 | ok u k =>
  rw [aN] at h ⊢;unfold bg at h;unfold uk;by_cases h2:au ts k=2
  ·rw [if_pos h2] at h ⊢
   by_cases hm:aj ts k ∈ [fC,dX]
   ·rw [if_pos hm,aN] at h
    rw [if_pos (by simpa using hm)];cases hx:bG ts true (k+1) with
    | bad a b=>rw [hx] at h;injection h with h1 h2;subst h1 h2;rfl
    | ok a k'=>rw [hx,aN] at h;rw [aN,h];rfl
   ·rw [if_neg hm] at h
    rw [if_neg (by simpa using hm)];injection h with h1 h2;subst h1 h2;rfl
  ·rw [if_neg h2] at h ⊢
   injection h with h1 h2;subst h1 h2;rfl
theorem RI {ts:List Lex.Tok} {l:List (Nat × Nat)} {q:List az} {o0:Out Unit} {u:Unit} {k4:Nat} (h:(((o0.bind fun _ k=>bg ts [fC,dX] k).bind fun _ k=>bG ts true k).bind fun _ k=>ak ts [59] k) = .ok u k4):∃ xw kw a ka,(o0.bind fun _ k=>bg ts [fC,dX] k) = .ok xw kw/\((o0.bind fun _ k=>bg ts [fC,dX] k).bind fun _ k=>bG ts true k) = .ok a ka/\(o0.bind fun _ k=>uk ts l q k)=if au ts k4=0 then .ok ⟨l,q,decide (xw=dX),some a⟩ (k4+1) else .bad k4 3:=by
 obtain ⟨a,ka,h1,h2⟩:=aJ h;obtain ⟨xw,kw,h3,h4⟩:=aJ h1;refine ⟨xw,kw,a,ka,h3,h1,?_⟩;obtain ⟨u0,k,rfl,h5⟩:=aJ h3;rw [aN];unfold bg at h5;unfold uk;by_cases hk:au ts k=2
 ·rw [if_pos hk] at h5 ⊢
  by_cases hm:aj ts k ∈ [fC,dX]
  ·rw [if_pos hm] at h5
   injection h5 with e1 e2;subst e1 e2;rw [if_pos (by simpa using hm),h4,aN,h2,aN]
  ·rw [if_neg hm] at h5;cases h5
 ·rw [if_neg hk] at h5;cases h5
theorem Pf {ts:List Lex.Tok} {out:Out Ts} {m:Nat} {l:List (Nat × Nat)} {q:List az} {ls:List (List Prog.Mark)} {k1 j1:Nat} (hst:PI ts out m l q ls k1 j1 0) (hlt:aj ts k1=eT) (h3:4<=ls.length):out = .bad k1 4:=by
 rcases hst with ⟨_,_,hk,rfl,hx,rfl,hq⟩ | ⟨h,_⟩
 ·rw [List.length_map] at h3
  rcases iN hx with ⟨_,_,h⟩ | ⟨_,h,_⟩ | ⟨h,_⟩
  ·exact h
  ·omega
  ·exact absurd hlt h
 ·exact absurd rfl h
structure Pg (B:Nat) (w0:World) (gb l c:Nat) (V:World):Prop where
 y:Sits V gb 37 #[.slice none 0 0,.slice none 0 0,.bool false,.slice none 0 0]
 z0:V.cell? ⟨gb+1,0,none⟩=some (.int .i64 (l:Nat))
 z1:V.cell? ⟨gb+1,1,none⟩=some (.int .i64 (c:Nat))
 low:Below B w0 V
theorem Pg.of {B:Nat} {w0 W:World} {gb:Nat} {a b c' d x y:Value} (hy:Sits W gb 37 #[a,b,c',d]) (hz:Sits W (gb+1) 29 #[x,y]) (hl:Below B w0 W) (hg:B<=gb) (l c:Nat):Pg B w0 gb l c (World.drew (vT (aF W gb (.slice none 0 0) (.slice none 0 0) (.bool false) (.slice none 0 0)) (gb+1) (.int .i64 (l:Nat)) (.int .i64 (c:Nat)))) :=
 have hp:=(Cm (bP hz (show gb+1≠gb by omega) (.slice none 0 0) (.slice none 0 0) (.bool false) (.slice none 0 0)) (.int .i64 (l:Nat)) (.int .i64 (c:Nat))).drew
 ⟨(Xy (aA hy _ _ _ _) (show gb≠gb+1 by omega) _ _).drew,hp.cell 0,hp.cell 1,(FZ (aG hl hg _ _ _ _) (Nat.le_succ_of_le hg) _ _).drew⟩
theorem ne_of {e:Nat} (h:((e:Int) == 0)=false):e≠0:=fun e0=>by rw [e0] at h;cases h
def TlI (ts:List Lex.Tok) (gp c B1 B2:Nat) (out:Out Ts) (l:List (Nat × Nat)) (r:Option Addr) (d gb g6:Nat) (w1 W:World):Prop:=∃ r2 d2 q ls vs k j e,∃ o0:Out Unit,Hid (cz 68 1 B2 W r2 (ls:List (List Prog.Mark)).length d2 vs)/\Hid (yB (fun g=>0<=g/\(Value.slice r2 ls.length d2).ownBlock≠some g) W ls vs)/\Hid (Sits W (g6+1) 57 #[.slice (some ⟨gp,0,none⟩) ts.length c,.int .i64 (k:Nat),.int .i64 (j:Nat),.int .i64 (e:Nat)])/\Hid (Sits W (g6+2) 37 #[.slice r l.length d,.slice r2 ls.length d2,.bool false,.slice none 0 0])/\Hid (cz 61 2 B1 W r l.length d (l.flatMap aX))/\Hid (aP (.slice (some ⟨gp,0,none⟩) ts.length c) ts.length o0 (.agg #[.slice (some ⟨gp,0,none⟩) ts.length c,.int .i64 (k:Nat),.int .i64 (j:Nat),.int .i64 (e:Nat)]))/\Hid (out=o0.bind fun _ k=>uk ts l q k)/\Hid (∀ t k,out = .ok t k->ls=q.map aS)/\Hid (ls.length<=5) /\
 Hid (Sits W gb 37 #[.slice none 0 0,.slice none 0 0,.bool false,.slice none 0 0])/\Hid (Sits W (gb+1) 29 #[.int .i64 0,.int .i64 0])/\Hid (Below w1.heap.size w1 W)/\Hid (B2<=W.heap.size)
theorem IE (s:ByteArray) (w:World) (hs:s.size<=9223372036854775807):Calls Tryz.prog 6 #[.string s] w (O9 (fG s.data.toList) w):=by
 have HLX:=hid (fun W=>Lex.RD s W hs);have Qz:=hid (fun er l c (h:Lex.fq s.data.toList = .err er l c)=>(show fG s.data.toList = .err l c er/\er≠0 from ⟨ql h,Ak h⟩));have Qu:=hid (fun ts (h:Lex.fq s.data.toList = .ok ts)=>And.intro (zF h) (And.intro (fun t k (ht:qB ts = .ok t k)=>nU h ht) (fun j e (ht:qB ts = .bad j e)=>ma h ht)));have HL:=hid (show Below w.heap.size w ((w.alloc (.cells #[.slice none 0 0,.slice none 0 0,.bool false,.slice none 0 0] 37)).alloc (.cells #[.int .i64 0,.int .i64 0] 29)) from ((Below.refl _ _).alloc (Nat.le_refl _) _).alloc (by simp) _);have HY:=hid (show Sits ((w.alloc (.cells #[.slice none 0 0,.slice none 0 0,.bool false,.slice none 0 0] 37)).alloc (.cells #[.int .i64 0,.int .i64 0] 29)) w.heap.size 37 #[.slice none 0 0,.slice none 0 0,.bool false,.slice none 0 0] from (Sits.new _ _ _).alloc _);have HZ:=hid (show Sits ((w.alloc (.cells #[.slice none 0 0,.slice none 0 0,.bool false,.slice none 0 0] 37)).alloc (.cells #[.int .i64 0,.int .i64 0] 29)) (w.heap.size+1) 29 #[.int .i64 0,.int .i64 0] from Sits.made (by simp) _ _);generalize X5:fG s.data.toList=pa at Qz Qu ⊢;generalize hlx:Lex.fq s.data.toList=lx at HLX Qz Qu;clear hs X5 hlx;go_enter Tryz.func6,Tryz.ntmps6;go_upto_region 1 with (fail)
 change Code.wp _ _ _ _ ((w.alloc (.cells #[.slice none 0 0,.slice none 0 0,.bool false,.slice none 0 0] 37)).alloc (.cells #[.int .i64 0,.int .i64 0] 29));generalize (w.alloc (.cells #[.slice none 0 0,.slice none 0 0,.bool false,.slice none 0 0] 37)).alloc (.cells #[.int .i64 0,.int .i64 0] 29)=w0 at HL HY HZ ⊢;generalize hgb:w.heap.size=gb at HY HZ ⊢;have di:=hid hgb;clear hgb;go_wp2_with fail
 refine (HLX.out _).mono ?_;rintro x w1 ⟨hb,hres⟩;have HY:=hid (HY.out.below hb HY.out.lt);have HZ:=hid (HZ.out.below hb HZ.out.lt);have HL:=hid (HL.out.trans (hb.mono HL.out.size));clear HLX;cases lx with
 | err er l c =>
  have hres:x = .returned (.tuple #[.slice none 0 0,.agg #[.int .i64 (l:Nat),.int .i64 (c:Nat)],.int .i64 (er:Nat)]):=hres;subst hres;obtain ⟨hq,hne⟩:=Qz.out er l c rfl;have HQ:=hid hq;have n1:((er:Int) == 0)=false:=by simp;omega
  have n2:((er:Int) != 0)=true:=by rw [bne,n1];rfl
  have a0t:=hid HZ.out.lt;clear hb hq hne;go_upto_region 2 with (fail)
  refine hA ?_;intro w2 hlow H6;have HY:=hid (HY.out.below hlow HY.out.lt);have HZ:=hid (HZ.out.below hlow HZ.out.lt);have HL:=hid (HL.out.trans (hlow.mono HL.out.size));have iE:=hid (show gb+1<w1.heap.size from a0t.out);generalize w1.heap.size=g6 at H6 iE ⊢;clear hlow;have ng:¬ (g6=gb):=by have:=iE.out;omega
  have YJ:¬ (g6=gb+1):=by have:=iE.out;omega
  have YK:¬ (gb=g6):=by have:=iE.out;omega
  have Xz:¬ (gb+1=g6):=by have:=iE.out;omega
  obtain ⟨p0,p1⟩:w2.cell? ⟨g6,0,none⟩=some (.int .i64 (l:Nat))/\w2.cell? ⟨g6,1,none⟩=some (.int .i64 (c:Nat)):=⟨H6.out.cell 0,H6.out.cell 1⟩
  have lp:=H6.out.lt;have y0:=ag HY.out;have L8:=aL HY.out;obtain ⟨q0,q1⟩:w2.cell? ⟨gb+1,0,none⟩=some (.int .i64 0)/\w2.cell? ⟨gb+1,1,none⟩=some (.int .i64 0):=⟨HZ.out.cell 0,HZ.out.cell 1⟩
  have lq:=HZ.out.lt;have qf0:=HZ.out.free 0;have qf1:=HZ.out.free 1;go_wp2_with fail
  go_region
  go_wp2_with fail
  refine oQ (Pg.of HY.out HZ.out HL.out (by have:=di.out;omega) (l) (c)) ?_;intro W9 F;have s0:=ag F.out.y;exact bodyPost_ret (v:=.tuple #[.agg #[.slice none 0 0,.slice none 0 0,.bool false,.slice none 0 0],.agg #[.int .i64 (l:Nat),.int .i64 (c:Nat)],.int .i64 (er:Nat)]) (by simp [results,Tryz.results6,go_sem,s0,F.out.z0,F.out.z1]) rfl (by rw [HQ.out];exact ⟨F.out.low,ne_of n1,rfl⟩)
 | ok ts =>
  obtain ⟨v,hx,hown⟩:∃ v,x = .returned (.tuple #[v,.agg #[.int .i64 0,.int .i64 0],.int .i64 0])/\w1.ownsRow w0.heap.size 66 5 v ts.length (Lex.toks ts):=hres;subst hx;obtain ⟨hG,hok,hbd⟩:=Qu.out ts rfl;obtain ⟨gp,c,rfl,hP⟩:=RF hG hown;have HG:=hid hG;have Bz:=hid (Aj hG);have Yr:=hid hok;have Vn:=hid hbd;have xU:=hid HL.out;have HP:=hid (fun W (hl:Below w1.heap.size w1 W)=>hP.below hl);have HN:=hid (show ts.length<=5000/\0<ts.length from ⟨by have:=hG.few;omega,hG.some⟩);generalize qB ts=out at Bz Yr Vn;clear hown hG hok hbd hP hb Qz Qu;go_wp2_with fail
  have hlow:=((aO w1 (.cells #[.int .i64 0,.int .i64 0] 29)).alloc (by simp) (.cells #[.slice (some ⟨gp,0,none⟩) ts.length c,.int .i64 0,.int .i64 0,.int .i64 0] 57)).alloc (by simp;omega) (.cells #[.slice none 0 0,.slice none 0 0,.bool false,.slice none 0 0] 37);have HA:=hid (show Sits (((w1.alloc (.cells #[.int .i64 0,.int .i64 0] 29)).alloc (.cells #[.slice (some ⟨gp,0,none⟩) ts.length c,.int .i64 0,.int .i64 0,.int .i64 0] 57)).alloc (.cells #[.slice none 0 0,.slice none 0 0,.bool false,.slice none 0 0] 37)) (w1.heap.size+1) 57 #[.slice (some ⟨gp,0,none⟩) ts.length c,.int .i64 (0:Nat),.int .i64 (0:Nat),.int .i64 (0:Nat)] from (Sits.made (by simp) _ _).alloc _);have HT:=hid (show Sits (((w1.alloc (.cells #[.int .i64 0,.int .i64 0] 29)).alloc (.cells #[.slice (some ⟨gp,0,none⟩) ts.length c,.int .i64 0,.int .i64 0,.int .i64 0] 57)).alloc (.cells #[.slice none 0 0,.slice none 0 0,.bool false,.slice none 0 0] 37)) (w1.heap.size+2) 37 #[.slice none 0 0,.slice none 0 0,.bool false,.slice none 0 0] from Sits.made (by simp) _ _);have iE:=hid (show gb+1<w1.heap.size from HZ.out.lt);have HY:=hid (HY.out.below hlow HY.out.lt);have HZ:=hid (HZ.out.below hlow HZ.out.lt);change Code.wp _ _ _ _ (((w1.alloc (.cells #[.int .i64 0,.int .i64 0] 29)).alloc (.cells #[.slice (some ⟨gp,0,none⟩) ts.length c,.int .i64 0,.int .i64 0,.int .i64 0] 57)).alloc (.cells #[.slice none 0 0,.slice none 0 0,.bool false,.slice none 0 0] 37));have HQ:=hid (show Below w1.heap.size w1 (((w1.alloc (.cells #[.int .i64 0,.int .i64 0] 29)).alloc (.cells #[.slice (some ⟨gp,0,none⟩) ts.length c,.int .i64 0,.int .i64 0,.int .i64 0] 57)).alloc (.cells #[.slice none 0 0,.slice none 0 0,.bool false,.slice none 0 0] 37)) from hlow)
  generalize ((w1.alloc (.cells #[.int .i64 0,.int .i64 0] 29)).alloc (.cells #[.slice (some ⟨gp,0,none⟩) ts.length c,.int .i64 0,.int .i64 0,.int .i64 0] 57)).alloc (.cells #[.slice none 0 0,.slice none 0 0,.bool false,.slice none 0 0] 37)=w5 at HA HT HY HZ HQ ⊢;generalize hg6:w1.heap.size=g6 at HA HT iE ⊢;have sN:=hid hg6;clear hlow hg6 HL;have HI0:Hid (LpI ts gp c w5.heap.size out ts.length (g6+1) (g6+2) w5):=hid ⟨none,0,[],0,0,0,eY _ _ _ _,HA.out,HT.out,Nat.zero_le _,.inl ⟨rfl,rfl,HN.out.2,rfl,Bz.out,Nat.le_refl _⟩⟩;have jK:=hid HT.out.lt
  go_loopg [] ts.length (fun gg wx=>Hid (LpI ts gp c w5.heap.size out gg (g6+1) (g6+2) wx)/\Hid (Sits wx gb 37 #[.slice none 0 0,.slice none 0 0,.bool false,.slice none 0 0])/\Hid (Sits wx (gb+1) 29 #[.int .i64 0,.int .i64 0])/\Hid (Below w1.heap.size w1 wx)/\Hid (w5.heap.size<=wx.heap.size))
  case atStart=>exact ⟨HI0,HY,HZ,HQ,hid (Nat.le_refl _)⟩
  case round =>
   obtain ⟨HI,HY,HZ,HQ,HS⟩:=hrel;obtain ⟨r,d,l,k1,j1,e1,hc,hA,hT,hl,hst⟩:=HI.out;have HA:=hid hA;have HT:=hid hT;have HC:=hid hc;have yu:=hid hl;have HST:=hid hst;clear hc hA hT hl hst HI;have a0:=ag HA.out;go_wp2_with fail
   refine (bI _ ts k1 j1 e1 2 _ (HP.out _ HQ.out) (fun _=>HST.out.lt)).mono ?_;rintro x w6 ⟨rfl,hb⟩;have HY:=hid (HY.out.below hb HY.out.lt);have HZ:=hid (HZ.out.below hb HZ.out.lt);have HA:=hid (HA.out.below hb HA.out.lt);have HT:=hid (HT.out.below hb HT.out.lt);have HQ:=hid (HQ.out.trans (hb.mono HQ.out.size));have HC:=hid (HC.out.below hb);have HS:=hid (Nat.le_trans HS.out hb.size);clear hb a0;generalize hnm:aZ ts 2 k1 e1=nm;by_cases hq:nm=nM
   ·subst hq
    obtain ⟨rfl,hkd,hlt⟩:=Cn (by decide) hnm;have hkn:k1+1<ts.length:=eF HG.out HST.out.lt (by decide) hlt;have NT:=hid hkn;have hj0:j1=0:=by
     rcases HST.out with ⟨_,h,_⟩ | ⟨h,_⟩
     ·exact h
     ·exact absurd rfl h
    subst hj0;have HLC:=hid (show ∀ W,Below w1.heap.size w1 W->Calls Tryz.prog 15 #[.agg #[.slice (some ⟨gp,0,none⟩) ts.length c,.int .i64 ((k1:Int)+1),.int .i64 (0:Nat),.int .i64 (0:Nat)]] W (qc (.slice (some ⟨gp,0,none⟩) ts.length c) ts.length (jo ts (k1+1)) W) from fun W hl=>rJ (o:=Out.ok () (k1+1)) HG.out W (HP.out W hl) ⟨rfl,hkn⟩);have sP:=hid hlt;have WA:=hid (Nat.le_refl 0);have k7:(k1:Int)<=5000:=by have:=HN.out;omega
    have k8:(0:Int)<=(k1:Int):=by omega
    clear hnm hkd hlt hkn;rw [show str nM=⟨#[105,110,105,116]⟩ from rfl];have a0:=ag HA.out;have eZ:=aL HA.out;go_wp2_with fail
    have hA:=(HA.out.put 1 (.int .i64 ((k1:Int)+1))).alloc (.cells #[.int .u8 0,.int .u64 0] 61);have hY:=(HY.out.far (p:=⟨g6+1,1,none⟩) (show ¬ (gb=g6+1) by have:=iE.out;omega) (.int .i64 ((k1:Int)+1))).alloc (.cells #[.int .u8 0,.int .u64 0] 61);have hZ:=(HZ.out.far (p:=⟨g6+1,1,none⟩) (show ¬ (gb+1=g6+1) by have:=iE.out;omega) (.int .i64 ((k1:Int)+1))).alloc (.cells #[.int .u8 0,.int .u64 0] 61);have hT:=(HT.out.far (p:=⟨g6+1,1,none⟩) (show ¬ (g6+2=g6+1) by omega) (.int .i64 ((k1:Int)+1))).alloc (.cells #[.int .u8 0,.int .u64 0] 61);have hQ0:=HQ.out.setCell (p:=⟨g6+1,1,none⟩) (by have:=sN.out;simp;omega) (.int .i64 ((k1:Int)+1));have hQ:=hQ0.alloc hQ0.size (.cells #[.int .u8 0,.int .u64 0] 61);have hC:=(bW HC.out (show g6+1<w5.heap.size by have:=jK.out;omega) 1 (.int .i64 ((k1:Int)+1))).below (aO _ (.cells #[.int .u8 0,.int .u64 0] 61));have hX:Sits ((w6.setCell ⟨g6+1,1,none⟩ (.int .i64 ((k1:Int)+1))).alloc (.cells #[.int .u8 0,.int .u64 0] 61)) w6.heap.size 61 #[.int .u8 0,.int .u64 0]:=Sits.made (by simp) _ _;have hS:w5.heap.size<=((w6.setCell ⟨g6+1,1,none⟩ (.int .i64 ((k1:Int)+1))).alloc (.cells #[.int .u8 0,.int .u64 0] 61)).heap.size:=by have:=HS.out;simp;omega
    have hW:w6.heap.size<((w6.setCell ⟨g6+1,1,none⟩ (.int .i64 ((k1:Int)+1))).alloc (.cells #[.int .u8 0,.int .u64 0] 61)).heap.size:=by simp
    have hO:∀ g,(Value.slice r l.length d).ownBlock=some g->g<w6.heap.size:=xc HC.out;change Calls _ _ _ ((w6.setCell ⟨g6+1,1,none⟩ (.int .i64 ((k1:Int)+1))).alloc (.cells #[.int .u8 0,.int .u64 0] 61)) _;generalize (w6.setCell ⟨g6+1,1,none⟩ (.int .i64 ((k1:Int)+1))).alloc (.cells #[.int .u8 0,.int .u64 0] 61)=w8 at hA hY hZ hT hQ hC hX hS hW ⊢;have HA:=hid hA;have HY:=hid hY;have HZ:=hid hZ;have HT:=hid hT;have HQ:=hid hQ;have HC:=hid hC;have HX:=hid hX;have HS2:=hid hS;have HO:=hid (show ∀ g,(Value.slice r l.length d).ownBlock=some g->g≠w6.heap.size from fun g hg e=>by have:=hO g hg;omega);have Yz:=hid HS.out;have a0H:=jK;generalize w6.heap.size=g10 at HX HO Yz hW;have og:=hid (show ¬ (g6+1=g10)/\¬ (gb=g10)/\¬ (gb+1=g10)/\¬ (g6+2=g10) by have:=Yz.out;have:=jK.out;have:=iE.out;omega);have HXG:=hid (show w1.heap.size<=g10 by have:=Yz.out;have:=jK.out;have:=sN.out;omega);clear hA hY hZ hT hQ0 hQ hC hX hS hW hO HS WA a0 eZ;have HS:=HS2;refine (HLC.out _ HQ.out).mono ?_;rintro x w7 ⟨u,x2,rfl,h1,h2,hb⟩;obtain ⟨k2,j2,e2,rfl⟩:=h1.cells;have HR2:=hid h1;have lh:=hid h2;have HY:=hid (HY.out.below hb HY.out.lt);have HZ:=hid (HZ.out.below hb HZ.out.lt);have HA:=hid (HA.out.below hb HA.out.lt);have HT:=hid (HT.out.below hb HT.out.lt);have HX:=hid (HX.out.below hb HX.out.lt);have HQ:=hid (HQ.out.trans (hb.mono HQ.out.size));have HC:=hid (HC.out.below hb);have HS:=hid (Nat.le_trans HS.out hb.size);clear h1 h2 hb HLC;have a0:=ag HA.out;have eZ:=aL HA.out;obtain ⟨x0,x1⟩:_/\_:=⟨HX.out.cell 0,HX.out.cell 1⟩
    have xl:=HX.out.lt;have RJ:=HX.out.free 0;have RL:=HX.out.free 1;have ne1:=og.out.1;have RN:¬ (g10=g6+1):=fun e=>og.out.1 e.symm
    go_wp2_with fail
    clear a0 eZ x0 x1 xl RJ RL ne1 RN;refine hC (dz (tS (aA (HA.out.far (p:=⟨g10,0,none⟩) og.out.1 (.int .u8 (x2:Nat))) _ _ _ _)) (dz (tS (bP (HY.out.far (p:=⟨g10,0,none⟩) og.out.2.1 (.int .u8 (x2:Nat))) (show gb≠g6+1 by have:=iE.out;omega) _ _ _ _)) (dz (tS (bP (HZ.out.far (p:=⟨g10,0,none⟩) og.out.2.2.1 (.int .u8 (x2:Nat))) (show gb+1≠g6+1 by have:=iE.out;omega) _ _ _ _)) (dz (tS (bP (HT.out.far (p:=⟨g10,0,none⟩) og.out.2.2.2 (.int .u8 (x2:Nat))) (show g6+2≠g6+1 by omega) _ _ _ _)) (dz (tS (bP (HX.out.put 0 (.int .u8 (x2:Nat))) (show g10≠g6+1 from fun e=>og.out.1 e.symm) _ _ _ _)) (dz (tC (bX (Ci HC.out (eD _ g10 0 (.int .u8 (x2:Nat))) (fun g hg e=>HO.out g hg e)) (show g6+1<w5.heap.size by have:=jK.out;omega) _ _ _ _)) (dz (aG (HQ.out.setCell (p:=⟨g10,0,none⟩) HXG.out (.int .u8 (x2:Nat))) (g:=g6+1) (by have:=sN.out;omega) _ _ _ _) (tZ HS.out (by simp))))))))) ?_;rintro w9 ⟨HA,HY,HZ,HT,HX,HC,HQ,HS⟩;have HS:Hid (w5.heap.size<=w9.heap.size):=HS;have HX:=hid (show Sits w9 g10 61 #[.int .u8 (x2:Nat),.int .u64 0] from HX.out);refine (bF HG.out [61] ⟨61,[],rfl,by decide⟩ _ (HP.out _ HQ.out) HR2.out).mono ?_;rintro x wA ⟨u,rfl,h1,hb⟩;obtain ⟨k3,j3,e3,rfl⟩:=h1.cells;have HR3:=hid h1;have HY:=hid (HY.out.below hb HY.out.lt);have HZ:=hid (HZ.out.below hb HZ.out.lt);have HA:=hid (HA.out.below hb HA.out.lt);have HT:=hid (HT.out.below hb HT.out.lt);have HX:=hid (HX.out.below hb HX.out.lt);have HQ:=hid (HQ.out.trans (hb.mono HQ.out.size))
    have HC:=hid (HC.out.below hb);have HS:=hid (Nat.le_trans HS.out hb.size);clear h1 hb;have a0:=ag HA.out;have eZ:=aL HA.out;go_upto_region 11 with (fail)
    clear a0 eZ;refine hW (dz (tS (aA HA.out _ _ _ _)) (dz (tS (bP HY.out (show gb≠g6+1 by have:=iE.out;omega) _ _ _ _)) (dz (tS (bP HZ.out (show gb+1≠g6+1 by have:=iE.out;omega) _ _ _ _)) (dz (tS (bP HT.out (show g6+2≠g6+1 by omega) _ _ _ _)) (dz (tS (bP HX.out (show g10≠g6+1 from fun e=>og.out.1 e.symm) _ _ _ _)) (dz (tC (bX HC.out (show g6+1<w5.heap.size by have:=jK.out;omega) _ _ _ _)) (dz (aG HQ.out (g:=g6+1) (by have:=sN.out;omega) _ _ _ _) (tZ HS.out (by simp))))))))) ?_;rintro wB ⟨HA,HY,HZ,HT,HX,HC,HQ,HS⟩;have HS:Hid (w5.heap.size<=wB.heap.size):=HS;have HX:=hid (show Sits wB g10 61 #[.int .u8 (x2:Nat),.int .u64 0] from HX.out);by_cases Hw:e3=0
    ·subst Hw
     obtain ⟨u3,ho3,rfl⟩:=HR3.out.FO rfl;have hk3:=HR3.out.lt rfl;obtain ⟨xl,q0,hloc,Qt⟩:=Pb ho3;have A9:=hid (lh.out xl q0 hloc);have Nb:=hid Qt;obtain ⟨c0,c1,c2,c3,c4,lp⟩:=gU (HP.out _ HQ.out) hk3;simp only [Nat.zero_add] at c0 c1 c2 c3 c4
     have m1:(k3:Int)<(ts.length:Int):=by omega
     have m0:(0:Int)<=(k3:Int):=by omega
     have m5:(k3:Int)<=5000:=by have:=HN.out;omega
     by_cases hkd:au ts k3=1
     ·have XC:=hid hkd
      have ve:=hid (show k3+1<ts.length from HG.out.good.more k3 hk3 (by show au ts k3≠0;omega));rw [hkd] at c0;clear ho3 hk3 hloc Qt hkd c1 c3 c4;have a0:=ag HA.out;have eZ:=aL HA.out;obtain ⟨x0,x1⟩:_/\_:=⟨HX.out.cell 0,HX.out.cell 1⟩
      have xl:=HX.out.lt;have RJ:=HX.out.free 0;have RL:=HX.out.free 1;have ne1:=og.out.1;have RN:¬ (g10=g6+1):=fun e=>og.out.1 e.symm
      go_wp2_with fail
      clear a0 eZ x0 x1 xl RJ RL ne1 RN c0 c2 lp;refine hC (dz (tS ((HA.out.far (p:=⟨g10,1,none⟩) og.out.1 (.int .u64 (aT ts k3:Nat))).put 1 (.int .i64 ((k3:Int)+1)))) (dz (tS ((HY.out.far (p:=⟨g10,1,none⟩) og.out.2.1 (.int .u64 (aT ts k3:Nat))).far (p:=⟨g6+1,1,none⟩) (show ¬ (gb=g6+1) by have:=iE.out;omega) (.int .i64 ((k3:Int)+1)))) (dz (tS ((HZ.out.far (p:=⟨g10,1,none⟩) og.out.2.2.1 (.int .u64 (aT ts k3:Nat))).far (p:=⟨g6+1,1,none⟩) (show ¬ (gb+1=g6+1) by have:=iE.out;omega) (.int .i64 ((k3:Int)+1)))) (dz (tS ((HT.out.far (p:=⟨g10,1,none⟩) og.out.2.2.2 (.int .u64 (aT ts k3:Nat))).far (p:=⟨g6+1,1,none⟩) (show ¬ (g6+2=g6+1) by omega) (.int .i64 ((k3:Int)+1)))) (dz (tS ((HX.out.put 1 (.int .u64 (aT ts k3:Nat))).far (p:=⟨g6+1,1,none⟩) (show ¬ (g10=g6+1) from fun e=>og.out.1 e.symm) (.int .i64 ((k3:Int)+1)))) (dz (tC (bW (Ci HC.out (eD _ g10 1 (.int .u64 (aT ts k3:Nat))) (fun g hg e=>HO.out g hg e)) (show g6+1<w5.heap.size by have:=jK.out;omega) 1 (.int .i64 ((k3:Int)+1)))) (dz ((HQ.out.setCell (p:=⟨g10,1,none⟩) HXG.out (.int .u64 (aT ts k3:Nat))).setCell (p:=⟨g6+1,1,none⟩) (by have:=sN.out;simp;omega) (.int .i64 ((k3:Int)+1))) (tZ HS.out (by simp))))))))) ?_;rintro wC ⟨HA,HY,HZ,HT,HX,HC,HQ,HS⟩;have HS:Hid (w5.heap.size<=wC.heap.size):=HS;have HX:=hid (show Sits wC g10 61 #[.int .u8 (x2:Nat),.int .u64 (aT ts k3:Nat)] from HX.out);have HR4:Hid (aP (.slice (some ⟨gp,0,none⟩) ts.length c) ts.length (.ok () (k3+1):Out Unit) (.agg #[.slice (some ⟨gp,0,none⟩) ts.length c,.int .i64 ((k3:Int)+1),.int .i64 (0:Nat),.int .i64 (0:Nat)])):=hid ⟨rfl,ve.out⟩
      refine (bF HG.out [59] ⟨59,[],rfl,by decide⟩ _ (HP.out _ HQ.out) HR4.out).mono ?_;rintro x wD ⟨u,rfl,h1,hb⟩;obtain ⟨k5,j5,e5,rfl⟩:=h1.cells;have qE:Hid (aP (.slice (some ⟨gp,0,none⟩) ts.length c) ts.length (dC ts (k1+1)) (.agg #[.slice (some ⟨gp,0,none⟩) ts.length c,.int .i64 (k5:Nat),.int .i64 (j5:Nat),.int .i64 (e5:Nat)])):=hid (h1.as (by rw [Nb.out,if_pos XC.out];simp only [aN,jX]));have HY:=hid (HY.out.below hb HY.out.lt);have HZ:=hid (HZ.out.below hb HZ.out.lt);have HA:=hid (HA.out.below hb HA.out.lt);have HT:=hid (HT.out.below hb HT.out.lt);have HX:=hid (HX.out.below hb HX.out.lt);have HQ:=hid (HQ.out.trans (hb.mono HQ.out.size));have HC:=hid (HC.out.below hb);have HS:=hid (Nat.le_trans HS.out hb.size);clear h1 hb HR4;have a0:=ag HA.out;have eZ:=aL HA.out;go_upto_region 17 with (fail)
      clear a0 eZ;refine hW (dz (tS (aA HA.out _ _ _ _)) (dz (tS (bP HY.out (show gb≠g6+1 by have:=iE.out;omega) _ _ _ _)) (dz (tS (bP HZ.out (show gb+1≠g6+1 by have:=iE.out;omega) _ _ _ _)) (dz (tS (bP HT.out (show g6+2≠g6+1 by omega) _ _ _ _)) (dz (tS (bP HX.out (show g10≠g6+1 from fun e=>og.out.1 e.symm) _ _ _ _)) (dz (tC (bX HC.out (show g6+1<w5.heap.size by have:=jK.out;omega) _ _ _ _)) (dz (aG HQ.out (g:=g6+1) (by have:=sN.out;omega) _ _ _ _) (tZ HS.out (by simp))))))))) ?_;rintro wE ⟨HA,HY,HZ,HT,HX,HC,HQ,HS⟩;have HS:Hid (w5.heap.size<=wE.heap.size):=HS;have HX:=hid (show Sits wE g10 61 #[.int .u8 (x2:Nat),.int .u64 ((aT ts k3):Nat)] from HX.out);have HV:Hid (∀ x k',dC ts (k1+1) = .ok x k' -> x=(x2,(aT ts k3))):=hid (by intro x k' h;rw [Nb.out,if_pos XC.out,aN] at h;obtain ⟨_,_,rfl⟩:=map_ok h;rw [A9.out]);have t0:=ag HT.out;have Eb:=aL HT.out;obtain ⟨x0,x1⟩:_/\_:=⟨HX.out.cell 0,HX.out.cell 1⟩
      have xl:=HX.out.lt;have RJ:=HX.out.free 0;have RL:=HX.out.free 1;have ne1:=og.out.1;have RN:¬ (g10=g6+1):=fun e=>og.out.1 e.symm
      go_wp2_with (at_builtin;refine ax D7 rfl _ _ rfl (B:=w5.heap.size) (r:=r) (n:=l.length) (d:=d) (xs:=l.flatMap aX) rfl (HC.out.below (aO _ _)) (by have:=HS.out;simp;omega) (some ⟨wE.heap.size,0,none⟩) 1 1 [.int .u8 (x2:Nat),.int .u64 ((aT ts k3):Nat)] rfl rfl (gq (Sits.new wE 61 #[.int .u8 (x2:Nat),.int .u64 ((aT ts k3):Nat)])) (by intro u hu;simp only [List.mem_cons,List.not_mem_nil,or_false] at hu;rcases hu with rfl | rfl <;> rfl) (by have:=yu.out;have:=HN.out;unfold maxLen;omega) (by have:=yu.out;have:=HN.out;omega) ?_)
      intro rN dN wN hgN Td hbN Ph;clear t0 Eb x0 x1 xl RJ RL ne1 RN;have hbb:=((aO wE (.cells #[.int .u8 (x2:Nat),.int .u64 ((aT ts k3):Nat)] 61)).mono HS.out).trans hbN;have hA:=HA.out.below hbb (by have:=jK.out;omega);have hT:=HT.out.below hbb jK.out;have hY:=HY.out.below hbb (by have:=jK.out;have:=iE.out;omega);have hZ:=HZ.out.below hbb (by have:=jK.out;have:=iE.out;omega);have hQ:=HQ.out.trans (hbb.mono (by have:=jK.out;have:=sN.out;omega));have hS:=Nat.le_trans HS.out hbb.size;have HA:=hid hA;have HT:=hid hT;have HY:=hid hY;have HZ:=hid hZ;have HQ:=hid hQ;have HS:=hid hS;have HC:=hid Ph;clear hA hT hY hZ hQ hS hgN Td hbN Ph hbb;have t0:=ag HT.out;have Eb:=aL HT.out;go_wp2_with fail
      clear t0 Eb;have Te:=HT.out.put 0 (.slice rN (l.length+1) dN);have hAn:=HA.out.far (p:=⟨g6+2,0,none⟩) (show ¬ (g6+1=g6+2) by omega) (.slice rN (l.length+1) dN);have Tf:=HY.out.far (p:=⟨g6+2,0,none⟩) (show ¬ (gb=g6+2) by have:=iE.out;omega) (.slice rN (l.length+1) dN);have Tg:=HZ.out.far (p:=⟨g6+2,0,none⟩) (show ¬ (gb+1=g6+2) by have:=iE.out;omega) (.slice rN (l.length+1) dN);have hQn:=HQ.out.setCell (p:=⟨g6+2,0,none⟩) (by have:=sN.out;simp;omega) (.slice rN (l.length+1) dN);have Ti:=bW HC.out jK.out 0 (.slice rN (l.length+1) dN);have Tj:w5.heap.size<=(wN.setCell ⟨g6+2,0,none⟩ (.slice rN (l.length+1) dN)).heap.size:=by simpa using HS.out
      have HF:=hid (And.intro hAn (And.intro Te (And.intro Ti Tj)));have XD:=hid Tf;have XE:=hid Tg;have XF:=hid hQn;have hst:=xm HG.out HST.out sP.out qE.out HV.out;obtain ⟨m',hm',hst⟩:=hst;have U3:=hid hst;have SF:=hid hm';clear Te hAn Tf Tg hQn Ti Tj hst hm'
      go_roundg m'
      case measure=>exact SF.out
      case rel=>exact ⟨hid ⟨rN,dN,l ++ [(x2,(aT ts k3))],k5,j5,e5,by rw [List.length_append,List.flatMap_append];exact HF.out.2.2.1,HF.out.1,by rw [List.length_append];exact HF.out.2.1,Ao HST.out,U3.out⟩,XD,XE,XF,hid HF.out.2.2.2⟩
     ·have XC:=hid hkd
      have b1:((au ts k3:Int) == 1)=false:=by simp;omega
      have b2:((au ts k3:Int) != 1)=true:=by rw [bne,b1];rfl
      obtain ⟨k4,j4,e4,h4⟩:∃ k4 j4 e4:Nat,k4=k3/\j4=k3/\e4=3:=⟨_,_,_,rfl,rfl,rfl⟩
      have tO:=hid (show ∀ W,Calls Tryz.prog 17 #[.agg #[.slice (some ⟨gp,0,none⟩) ts.length c,.int .i64 (k3:Nat),.int .i64 0,.int .i64 0],.int .i64 (k3:Nat),.int .i64 3] W (Made (.returned (.agg #[.slice (some ⟨gp,0,none⟩) ts.length c,.int .i64 (k4:Nat),.int .i64 (j4:Nat),.int .i64 (e4:Nat)])) W) from fun W=>by rw [h4.1,h4.2.1,h4.2.2];exact fZ (some ⟨gp,0,none⟩) ts.length c k3 0 0 k3 3 W);have HR4:Hid (aP (.slice (some ⟨gp,0,none⟩) ts.length c) ts.length (.bad k3 3:Out Unit) (.agg #[.slice (some ⟨gp,0,none⟩) ts.length c,.int .i64 (k4:Nat),.int .i64 (j4:Nat),.int .i64 (e4:Nat)])):=hid (by rw [h4.1,h4.2.1,h4.2.2];exact ⟨k3,rfl,by decide,hk3,hk3⟩);have n4:((e4:Int) == 0)=false:=by simp;omega
      clear ho3 hk3 hloc Qt hkd c1 c2 c3 c4 h4;generalize au ts k3=kdx at c0 b1 b2;have a0:=ag HA.out;have eZ:=aL HA.out;go_wp2_with fail
      clear a0 eZ c0 lp;refine (tO.out _).mono ?_;rintro x wF ⟨rfl,hb⟩;have HY:=hid (HY.out.below hb HY.out.lt);have HZ:=hid (HZ.out.below hb HZ.out.lt);have HA:=hid (HA.out.below hb HA.out.lt);have HT:=hid (HT.out.below hb HT.out.lt);have HX:=hid (HX.out.below hb HX.out.lt);have HQ:=hid (HQ.out.trans (hb.mono HQ.out.size));have HC:=hid (HC.out.below hb);have HS:=hid (Nat.le_trans HS.out hb.size);clear hb tO;have a0:=ag HA.out;have eZ:=aL HA.out;go_wp2_with fail
      clear a0 eZ;refine hC (dz (tS (aA HA.out _ _ _ _)) (dz (tS (bP HY.out (show gb≠g6+1 by have:=iE.out;omega) _ _ _ _)) (dz (tS (bP HZ.out (show gb+1≠g6+1 by have:=iE.out;omega) _ _ _ _)) (dz (tS (bP HT.out (show g6+2≠g6+1 by omega) _ _ _ _)) (dz (tS (bP HX.out (show g10≠g6+1 from fun e=>og.out.1 e.symm) _ _ _ _)) (dz (tC (bX HC.out (show g6+1<w5.heap.size by have:=jK.out;omega) _ _ _ _)) (dz (aG HQ.out (g:=g6+1) (by have:=sN.out;omega) _ _ _ _) (tZ HS.out (by simp))))))))) ?_;rintro wC ⟨HA,HY,HZ,HT,HX,HC,HQ,HS⟩;have HS:Hid (w5.heap.size<=wC.heap.size):=HS;have HX:=hid (show Sits wC g10 61 #[.int .u8 (x2:Nat),.int .u64 0] from HX.out);refine (bF HG.out [59] ⟨59,[],rfl,by decide⟩ _ (HP.out _ HQ.out) HR4.out).mono ?_;rintro x wD ⟨u,rfl,h1,hb⟩;obtain ⟨k5,j5,e5,rfl⟩:=h1.cells;have qE:Hid (aP (.slice (some ⟨gp,0,none⟩) ts.length c) ts.length (dC ts (k1+1)) (.agg #[.slice (some ⟨gp,0,none⟩) ts.length c,.int .i64 (k5:Nat),.int .i64 (j5:Nat),.int .i64 (e5:Nat)])):=hid (h1.as (by rw [Nb.out,if_neg XC.out];rfl));have HY:=hid (HY.out.below hb HY.out.lt);have HZ:=hid (HZ.out.below hb HZ.out.lt);have HA:=hid (HA.out.below hb HA.out.lt);have HT:=hid (HT.out.below hb HT.out.lt);have HX:=hid (HX.out.below hb HX.out.lt);have HQ:=hid (HQ.out.trans (hb.mono HQ.out.size));have HC:=hid (HC.out.below hb);have HS:=hid (Nat.le_trans HS.out hb.size);clear h1 hb HR4;have a0:=ag HA.out;have eZ:=aL HA.out;go_upto_region 17 with (fail)
      clear a0 eZ;refine hW (dz (tS (aA HA.out _ _ _ _)) (dz (tS (bP HY.out (show gb≠g6+1 by have:=iE.out;omega) _ _ _ _)) (dz (tS (bP HZ.out (show gb+1≠g6+1 by have:=iE.out;omega) _ _ _ _)) (dz (tS (bP HT.out (show g6+2≠g6+1 by omega) _ _ _ _)) (dz (tS (bP HX.out (show g10≠g6+1 from fun e=>og.out.1 e.symm) _ _ _ _)) (dz (tC (bX HC.out (show g6+1<w5.heap.size by have:=jK.out;omega) _ _ _ _)) (dz (aG HQ.out (g:=g6+1) (by have:=sN.out;omega) _ _ _ _) (tZ HS.out (by simp))))))))) ?_;rintro wE ⟨HA,HY,HZ,HT,HX,HC,HQ,HS⟩;have HS:Hid (w5.heap.size<=wE.heap.size):=HS;have HX:=hid (show Sits wE g10 61 #[.int .u8 (x2:Nat),.int .u64 (0:Nat)] from HX.out);have HV:Hid (∀ x k',dC ts (k1+1) = .ok x k' -> x=(x2,0)):=hid (by intro x k' h;rw [Nb.out,if_neg XC.out] at h;cases h);have t0:=ag HT.out;have Eb:=aL HT.out;obtain ⟨x0,x1⟩:_/\_:=⟨HX.out.cell 0,HX.out.cell 1⟩
      have xl:=HX.out.lt;have RJ:=HX.out.free 0;have RL:=HX.out.free 1;have ne1:=og.out.1;have RN:¬ (g10=g6+1):=fun e=>og.out.1 e.symm
      go_wp2_with (at_builtin;refine ax D7 rfl _ _ rfl (B:=w5.heap.size) (r:=r) (n:=l.length) (d:=d) (xs:=l.flatMap aX) rfl (HC.out.below (aO _ _)) (by have:=HS.out;simp;omega) (some ⟨wE.heap.size,0,none⟩) 1 1 [.int .u8 (x2:Nat),.int .u64 (0:Nat)] rfl rfl (gq (Sits.new wE 61 #[.int .u8 (x2:Nat),.int .u64 (0:Nat)])) (by intro u hu;simp only [List.mem_cons,List.not_mem_nil,or_false] at hu;rcases hu with rfl | rfl <;> rfl) (by have:=yu.out;have:=HN.out;unfold maxLen;omega) (by have:=yu.out;have:=HN.out;omega) ?_)
      intro rN dN wN hgN Td hbN Ph;clear t0 Eb x0 x1 xl RJ RL ne1 RN;have hbb:=((aO wE (.cells #[.int .u8 (x2:Nat),.int .u64 (0:Nat)] 61)).mono HS.out).trans hbN;have hA:=HA.out.below hbb (by have:=jK.out;omega);have hT:=HT.out.below hbb jK.out;have hY:=HY.out.below hbb (by have:=jK.out;have:=iE.out;omega);have hZ:=HZ.out.below hbb (by have:=jK.out;have:=iE.out;omega);have hQ:=HQ.out.trans (hbb.mono (by have:=jK.out;have:=sN.out;omega));have hS:=Nat.le_trans HS.out hbb.size;have HA:=hid hA;have HT:=hid hT;have HY:=hid hY;have HZ:=hid hZ;have HQ:=hid hQ;have HS:=hid hS;have HC:=hid Ph;clear hA hT hY hZ hQ hS hgN Td hbN Ph hbb;have t0:=ag HT.out;have Eb:=aL HT.out;go_wp2_with fail
      clear t0 Eb;have Te:=HT.out.put 0 (.slice rN (l.length+1) dN);have hAn:=HA.out.far (p:=⟨g6+2,0,none⟩) (show ¬ (g6+1=g6+2) by omega) (.slice rN (l.length+1) dN);have Tf:=HY.out.far (p:=⟨g6+2,0,none⟩) (show ¬ (gb=g6+2) by have:=iE.out;omega) (.slice rN (l.length+1) dN);have Tg:=HZ.out.far (p:=⟨g6+2,0,none⟩) (show ¬ (gb+1=g6+2) by have:=iE.out;omega) (.slice rN (l.length+1) dN);have hQn:=HQ.out.setCell (p:=⟨g6+2,0,none⟩) (by have:=sN.out;simp;omega) (.slice rN (l.length+1) dN);have Ti:=bW HC.out jK.out 0 (.slice rN (l.length+1) dN);have Tj:w5.heap.size<=(wN.setCell ⟨g6+2,0,none⟩ (.slice rN (l.length+1) dN)).heap.size:=by simpa using HS.out
      have HF:=hid (And.intro hAn (And.intro Te (And.intro Ti Tj)));have XD:=hid Tf;have XE:=hid Tg;have XF:=hid hQn;have hst:=xm HG.out HST.out sP.out qE.out HV.out;obtain ⟨m',hm',hst⟩:=hst;have U3:=hid hst;have SF:=hid hm';clear Te hAn Tf Tg hQn Ti Tj hst hm'
      go_roundg m'
      case measure=>exact SF.out
      case rel=>exact ⟨hid ⟨rN,dN,l ++ [(x2,0)],k5,j5,e5,by rw [List.length_append,List.flatMap_append];exact HF.out.2.2.1,HF.out.1,by rw [List.length_append];exact HF.out.2.1,Ao HST.out,U3.out⟩,XD,XE,XF,hid HF.out.2.2.2⟩
    ·have n1:((e3:Int) == 0)=false:=by simp;omega
     have hbad:∃ j e,((jo ts (k1+1)).bind fun _ k=>ak ts [61] k) = .bad j e:=by
      cases ho:((jo ts (k1+1)).bind fun _ k=>ak ts [61] k) with
      | bad j e=>exact ⟨j,e,rfl⟩
      | ok u q=>have h:=HR3.out;rw [ho] at h;exact absurd h.nQ.2.2.1 Hw
     have Ma:=hid hbad;have HR4:=HR3;clear Hw hbad;have a0:=ag HA.out;go_wp2_with fail
     clear a0;refine (bF HG.out [59] ⟨59,[],rfl,by decide⟩ _ (HP.out _ HQ.out) HR4.out).mono ?_;rintro x wD ⟨u,rfl,h1,hb⟩;obtain ⟨k5,j5,e5,rfl⟩:=h1.cells;have qE:Hid (aP (.slice (some ⟨gp,0,none⟩) ts.length c) ts.length (dC ts (k1+1)) (.agg #[.slice (some ⟨gp,0,none⟩) ts.length c,.int .i64 (k5:Nat),.int .i64 (j5:Nat),.int .i64 (e5:Nat)])):=hid (h1.as (by obtain ⟨j,e,hb⟩:=Ma.out;rw [hb,Co hb];rfl));have HY:=hid (HY.out.below hb HY.out.lt);have HZ:=hid (HZ.out.below hb HZ.out.lt);have HA:=hid (HA.out.below hb HA.out.lt);have HT:=hid (HT.out.below hb HT.out.lt);have HX:=hid (HX.out.below hb HX.out.lt);have HQ:=hid (HQ.out.trans (hb.mono HQ.out.size));have HC:=hid (HC.out.below hb);have HS:=hid (Nat.le_trans HS.out hb.size);clear h1 hb HR4;have a0:=ag HA.out;have eZ:=aL HA.out;go_upto_region 17 with (fail)
     clear a0 eZ;refine hW (dz (tS (aA HA.out _ _ _ _)) (dz (tS (bP HY.out (show gb≠g6+1 by have:=iE.out;omega) _ _ _ _)) (dz (tS (bP HZ.out (show gb+1≠g6+1 by have:=iE.out;omega) _ _ _ _)) (dz (tS (bP HT.out (show g6+2≠g6+1 by omega) _ _ _ _)) (dz (tS (bP HX.out (show g10≠g6+1 from fun e=>og.out.1 e.symm) _ _ _ _)) (dz (tC (bX HC.out (show g6+1<w5.heap.size by have:=jK.out;omega) _ _ _ _)) (dz (aG HQ.out (g:=g6+1) (by have:=sN.out;omega) _ _ _ _) (tZ HS.out (by simp))))))))) ?_;rintro wE ⟨HA,HY,HZ,HT,HX,HC,HQ,HS⟩;have HS:Hid (w5.heap.size<=wE.heap.size):=HS;have HX:=hid (show Sits wE g10 61 #[.int .u8 (x2:Nat),.int .u64 (0:Nat)] from HX.out);have HV:Hid (∀ x k',dC ts (k1+1) = .ok x k' -> x=(x2,0)):=hid (by intro x k' h;obtain ⟨j,e,hb⟩:=Ma.out;rw [Co hb] at h;cases h);have t0:=ag HT.out;have Eb:=aL HT.out;obtain ⟨x0,x1⟩:_/\_:=⟨HX.out.cell 0,HX.out.cell 1⟩
     have xl:=HX.out.lt;have RJ:=HX.out.free 0;have RL:=HX.out.free 1;have ne1:=og.out.1;have RN:¬ (g10=g6+1):=fun e=>og.out.1 e.symm
     go_wp2_with (at_builtin;refine ax D7 rfl _ _ rfl (B:=w5.heap.size) (r:=r) (n:=l.length) (d:=d) (xs:=l.flatMap aX) rfl (HC.out.below (aO _ _)) (by have:=HS.out;simp;omega) (some ⟨wE.heap.size,0,none⟩) 1 1 [.int .u8 (x2:Nat),.int .u64 (0:Nat)] rfl rfl (gq (Sits.new wE 61 #[.int .u8 (x2:Nat),.int .u64 (0:Nat)])) (by intro u hu;simp only [List.mem_cons,List.not_mem_nil,or_false] at hu;rcases hu with rfl | rfl <;> rfl) (by have:=yu.out;have:=HN.out;unfold maxLen;omega) (by have:=yu.out;have:=HN.out;omega) ?_)
     intro rN dN wN hgN Td hbN Ph;clear t0 Eb x0 x1 xl RJ RL ne1 RN;have hbb:=((aO wE (.cells #[.int .u8 (x2:Nat),.int .u64 (0:Nat)] 61)).mono HS.out).trans hbN;have hA:=HA.out.below hbb (by have:=jK.out;omega);have hT:=HT.out.below hbb jK.out;have hY:=HY.out.below hbb (by have:=jK.out;have:=iE.out;omega);have hZ:=HZ.out.below hbb (by have:=jK.out;have:=iE.out;omega);have hQ:=HQ.out.trans (hbb.mono (by have:=jK.out;have:=sN.out;omega));have hS:=Nat.le_trans HS.out hbb.size;have HA:=hid hA;have HT:=hid hT;have HY:=hid hY;have HZ:=hid hZ;have HQ:=hid hQ;have HS:=hid hS;have HC:=hid Ph;clear hA hT hY hZ hQ hS hgN Td hbN Ph hbb;have t0:=ag HT.out;have Eb:=aL HT.out;go_wp2_with fail
     clear t0 Eb;have Te:=HT.out.put 0 (.slice rN (l.length+1) dN);have hAn:=HA.out.far (p:=⟨g6+2,0,none⟩) (show ¬ (g6+1=g6+2) by omega) (.slice rN (l.length+1) dN);have Tf:=HY.out.far (p:=⟨g6+2,0,none⟩) (show ¬ (gb=g6+2) by have:=iE.out;omega) (.slice rN (l.length+1) dN);have Tg:=HZ.out.far (p:=⟨g6+2,0,none⟩) (show ¬ (gb+1=g6+2) by have:=iE.out;omega) (.slice rN (l.length+1) dN);have hQn:=HQ.out.setCell (p:=⟨g6+2,0,none⟩) (by have:=sN.out;simp;omega) (.slice rN (l.length+1) dN);have Ti:=bW HC.out jK.out 0 (.slice rN (l.length+1) dN);have Tj:w5.heap.size<=(wN.setCell ⟨g6+2,0,none⟩ (.slice rN (l.length+1) dN)).heap.size:=by simpa using HS.out
     have HF:=hid (And.intro hAn (And.intro Te (And.intro Ti Tj)));have XD:=hid Tf;have XE:=hid Tg;have XF:=hid hQn;have hst:=xm HG.out HST.out sP.out qE.out HV.out;obtain ⟨m',hm',hst⟩:=hst;have U3:=hid hst;have SF:=hid hm';clear Te hAn Tf Tg hQn Ti Tj hst hm'
     go_roundg m'
     case measure=>exact SF.out
     case rel=>exact ⟨hid ⟨rN,dN,l ++ [(x2,0)],k5,j5,e5,by rw [List.length_append,List.flatMap_append];exact HF.out.2.2.1,HF.out.1,by rw [List.length_append];exact HF.out.2.1,Ao HST.out,U3.out⟩,XD,XE,XF,hid HF.out.2.2.2⟩
   ·have hlb:=uy nm [105,110,105,116]
    rw [decide_eq_false (show ¬ (nm=[105,110,105,116]) from hq)] at hlb;have HNI:=hid (show aZ ts 2 k1 e1≠nM from hnm ▸ hq);generalize str nm=S at hlb ⊢;clear hnm hq;obtain ⟨m2,hs2⟩:=Lv HG.out HST.out HNI.out;have HOI:=hid (xc HC.out)
    go_upto_block 2 with fail
    obtain ⟨B2,hB2⟩:∃ B2,B2=w6.heap.size:=⟨_,rfl⟩
    have HOI:=hid (show ∀ g,(Value.slice r l.length d).ownBlock=some g->g<B2 from hB2 ▸ HOI.out);have F5:=hid (show g6+1<B2 from by rw [hB2];exact HA.out.lt);have Bc:=hid (show g6+2<B2 from by rw [hB2];exact HT.out.lt);have HI2:Hid (LpT ts gp c w5.heap.size B2 out l r d m2 (g6+1) (g6+2) w6):=hid ⟨none,0,[],[],[],k1,j1,e1,eY _ _ _ _,rfl,HA.out,HT.out,HC.out,hs2⟩;have HS2:=hid (show B2<=w6.heap.size from Nat.le_of_eq hB2);clear hs2 hB2
    go_cut [] (fun wx=>TlI ts gp c w5.heap.size B2 out l r d gb g6 w1 wx)
    case first =>
     go_wp2_with fail
     go_loopg [] m2 (fun gg wx=>Hid (LpT ts gp c w5.heap.size B2 out l r d gg (g6+1) (g6+2) wx)/\Hid (Sits wx gb 37 #[.slice none 0 0,.slice none 0 0,.bool false,.slice none 0 0])/\Hid (Sits wx (gb+1) 29 #[.int .i64 0,.int .i64 0])/\Hid (Below w1.heap.size w1 wx)/\Hid (B2<=wx.heap.size))
     case atStart=>exact ⟨HI2,HY,HZ,HQ,HS2⟩
     case round =>
      obtain ⟨HI,HY,HZ,HQ,HS⟩:=hrel;obtain ⟨r2,d2,q,ls,vs,k1,j1,e1,hv,hu,hA,hT,hc,hst⟩:=HI.out;have HA:=hid hA;have HT:=hid hT;have HC:=hid hc;have HV:=hid hv;have HU:=hid hu;have PK:=hid hst;clear hv hu hA hT hc hst HI;have a0:=ag HA.out;go_wp2_with fail
      refine (bI _ ts k1 j1 e1 2 _ (HP.out _ HQ.out) (fun _=>PK.out.lt)).mono ?_;rintro x wC ⟨rfl,hb⟩;have HY:=hid (HY.out.below hb HY.out.lt);have HZ:=hid (HZ.out.below hb HZ.out.lt);have HA:=hid (HA.out.below hb HA.out.lt);have HT:=hid (HT.out.below hb HT.out.lt);have HQ:=hid (HQ.out.trans (hb.mono HQ.out.size));have HC:=hid (HC.out.below hb);have HV:=hid (HV.out.below hb);have HU:=hid (HU.out.below hb);have HS:=hid (Nat.le_trans HS.out hb.size);clear hb a0;generalize hnm:aZ ts 2 k1 e1=nm;by_cases hq:nm=eT
      ·subst hq
       obtain ⟨rfl,hkd,hlt⟩:=Cn (by decide) hnm;have hj0:j1=0:=by
        rcases PK.out with ⟨_,h,_⟩ | ⟨h,_⟩
        ·exact h
        ·exact absurd rfl h
       subst hj0;have hkn:k1+1<ts.length:=eF HG.out PK.out.lt (by decide) hlt;have sP:=hid hlt;have k7:(k1:Int)<=5000:=by have:=HN.out;omega
       have k8:(0:Int)<=(k1:Int):=by omega
       have rz:=hid PK.out.lt;rw [show str eT=⟨#[116,104,114,101,97,100]⟩ from rfl];by_cases h3:3<ls.length
       ·have l3:(3:Int)<(ls.length:Int):=by omega
        obtain ⟨k9,j9,e9,h9⟩:∃ k9 j9 e9:Nat,k9=k1/\j9=k1/\e9=4:=⟨_,_,_,rfl,rfl,rfl⟩
        have tO:=hid (show ∀ W,Calls Tryz.prog 17 #[.agg #[.slice (some ⟨gp,0,none⟩) ts.length c,.int .i64 (k1:Nat),.int .i64 0,.int .i64 0],.int .i64 (k1:Nat),.int .i64 4] W (Made (.returned (.agg #[.slice (some ⟨gp,0,none⟩) ts.length c,.int .i64 (k9:Nat),.int .i64 (j9:Nat),.int .i64 (e9:Nat)])) W) from fun W=>by rw [h9.1,h9.2.1,h9.2.2];exact fZ (some ⟨gp,0,none⟩) ts.length c k1 0 0 k1 4 W);have hmo:=Pf PK.out hlt (by omega);obtain ⟨o0,ho0⟩:∃ o0:Out Unit,o0 = .bad k1 4:=⟨_,rfl⟩
        have Au:=hid (show aP (.slice (some ⟨gp,0,none⟩) ts.length c) ts.length o0 (.agg #[.slice (some ⟨gp,0,none⟩) ts.length c,.int .i64 (k9:Nat),.int .i64 (j9:Nat),.int .i64 (e9:Nat)]) from by rw [ho0,h9.1,h9.2.1,h9.2.2];exact ⟨k1,rfl,by decide,rz.out,rz.out⟩);have LA:=hid (show out=o0.bind (fun _ k=>uk ts l q k) from by rw [ho0,hmo];rfl);have AU:=hid (show ∀ t k,out = .ok t k->ls=q.map aS from fun t k h=>by rw [hmo] at h;cases h);clear hnm hkd hlt hkn h3 h9 ho0 hmo;have a0:=ag HA.out;have eZ:=aL HA.out;have t0:=ag HT.out;go_wp2_with fail
        clear a0 eZ t0;refine (tO.out _).mono ?_;rintro x wM ⟨rfl,hb⟩;have HY:=hid (HY.out.below hb HY.out.lt);have HZ:=hid (HZ.out.below hb HZ.out.lt);have HA:=hid (HA.out.below hb HA.out.lt);have HT:=hid (HT.out.below hb HT.out.lt);have HQ:=hid (HQ.out.trans (hb.mono HQ.out.size));have HC:=hid (HC.out.below hb);have HV:=hid (HV.out.below hb);have HU:=hid (HU.out.below hb);have HS:=hid (Nat.le_trans HS.out hb.size);clear hb tO l3;have a0:=ag HA.out;have eZ:=aL HA.out;go_wp2_with fail
        go_meet
        exact ⟨r2,d2,q,ls,vs,k9,j9,e9,o0,bX HV.out F5.out _ _ _ _,HU.out.off (nk HA.out) (bQ _ _ _ _ _ _),aA HA.out _ _ _ _,bP HT.out (by omega) _ _ _ _,bX HC.out (by have:=jK.out;omega) _ _ _ _,Au,LA,AU,hid PK.out.few,bP HY.out (by have:=iE.out;omega) _ _ _ _,bP HZ.out (by have:=iE.out;omega) _ _ _ _,aG HQ.out (by have:=sN.out;omega) _ _ _ _,tZ HS.out (by simp)⟩
       ·have l3:¬ (3:Int)<(ls.length:Int):=by omega
        have BA:=hid (show ls.length<=3 by omega);have HBK:=hid (show ∀ W,Below w1.heap.size w1 W->Calls Tryz.prog 18 #[.agg #[.slice (some ⟨gp,0,none⟩) ts.length c,.int .i64 ((k1:Int)+1),.int .i64 (0:Nat),.int .i64 (0:Nat)],.int .i64 1] W (dP (.slice (some ⟨gp,0,none⟩) ts.length c) ts.length (ts.length+3) (kW ts 1 (k1+1)) W) from fun W hl=>OP (o:=Out.ok () (k1+1)) HG.out 1 (by omega) W (HP.out W hl) ⟨rfl,hkn⟩);clear hnm hkd hlt hkn h3;have a0:=ag HA.out;have eZ:=aL HA.out;have t0:=ag HT.out;go_wp2_with fail
        clear a0 eZ t0;refine hC (dz (tS (HA.out.put 1 (.int .i64 ((k1:Int)+1)))) (dz (tS (HY.out.far (p:=⟨g6+1,1,none⟩) (show ¬ (gb=g6+1) by have:=iE.out;omega) (.int .i64 ((k1:Int)+1)))) (dz (tS (HZ.out.far (p:=⟨g6+1,1,none⟩) (show ¬ (gb+1=g6+1) by have:=iE.out;omega) (.int .i64 ((k1:Int)+1)))) (dz (tS (HT.out.far (p:=⟨g6+1,1,none⟩) (show ¬ (g6+2=g6+1) by omega) (.int .i64 ((k1:Int)+1)))) (dz (tC (bW HC.out (show g6+1<w5.heap.size by have:=jK.out;omega) 1 (.int .i64 ((k1:Int)+1)))) (dz (tC (bW HV.out F5.out 1 (.int .i64 ((k1:Int)+1)))) (dz (tU (HU.out.off (nk HA.out) (eD wC (g6+1) 1 (.int .i64 ((k1:Int)+1))))) (dz (HQ.out.setCell (p:=⟨g6+1,1,none⟩) (by have:=sN.out;simp;omega) (.int .i64 ((k1:Int)+1))) (tZ HS.out (by simp)))))))))) ?_;rintro wD ⟨HA,HY,HZ,HT,HC,HV,HU,HQ,HS⟩;have HS:Hid (B2<=wD.heap.size):=HS;have HT:=hid (show Sits wD (g6+2) 37 #[.slice r l.length d,.slice r2 ls.length d2,.bool false,.slice none 0 0] from HT.out);refine (HBK.out _ HQ.out).mono ?_;rintro x wE ⟨lv,lb,u,rfl,h1,h2,h3,h4,hb⟩;obtain ⟨k5,j5,e5,rfl⟩:=h1.cells;have hmu:=Eg.of h2;obtain ⟨rb,db,cb,rfl,_⟩:=h2;have qE:=hid h1;have HIT:=hid (⟨h3,h4⟩:_/\_);have hlow:=aO wE (.cells #[.slice (some ⟨gp,0,none⟩) ts.length c,.int .i64 (k5:Nat),.int .i64 (j5:Nat),.int .i64 (e5:Nat)] 57);have hb2:=hb.trans (hlow.mono hb.size);have HOW:=hid (show ∀ g,(Value.slice r2 ls.length d2).ownBlock=some g->g<wD.heap.size from xc HV.out);have RO:=hid hb.size;have Vb:=hid HS.out
        have HY:=hid (HY.out.below hb2 HY.out.lt);have HZ:=hid (HZ.out.below hb2 HZ.out.lt);have HA:=hid (HA.out.below hb2 HA.out.lt);have HT:=hid (HT.out.below hb2 HT.out.lt);have HQ:=hid (HQ.out.trans (hb2.mono HQ.out.size));have HC:=hid (HC.out.below hb2);have HV:=hid (HV.out.below hb2);have HU:=hid (HU.out.below hb2);have HS:=hid (Nat.le_trans HS.out hb2.size);have HMU:=hid (hmu.below hlow);have Vu:=hid (Sits.new wE 57 #[.slice (some ⟨gp,0,none⟩) ts.length c,.int .i64 (k5:Nat),.int .i64 (j5:Nat),.int .i64 (e5:Nat)]);clear h1 h3 h4 hb hmu hlow hb2 HBK;go_upto_region 23 with (fail)
        change Code.wp _ _ _ _ (wE.alloc (.cells #[.slice (some ⟨gp,0,none⟩) ts.length c,.int .i64 (k5:Nat),.int .i64 (j5:Nat),.int .i64 (e5:Nat)] 57));generalize wE.alloc (.cells #[.slice (some ⟨gp,0,none⟩) ts.length c,.int .i64 (k5:Nat),.int .i64 (j5:Nat),.int .i64 (e5:Nat)] 57)=wF at HY HZ HA HT HQ HC HV HU HS HMU Vu ⊢;generalize wE.heap.size=g12 at Vu RO ⊢;have YJ:¬ (g12=g6+1+1):=by have:=RO.out;have:=Vb.out;have:=Bc.out;omega
        have YK:¬ (g12=g6+1):=by have:=RO.out;have:=Vb.out;have:=Bc.out;omega
        have Xz:¬ (g6+1=g12):=fun e=>YK e.symm
        have YL:¬ (g6+1+1=g12):=fun e=>YJ e.symm
        have t0:=ag HT.out;have Eb:=aL HT.out;have hls:=PK.out.few;have Wv:=hid hls;clear hls;go_wp2_with (at_builtin;refine ax Rv rfl _ _ rfl (B:=B2) (r:=r2) (n:=ls.length) (d:=d2) (xs:=vs) rfl (HV.out.below (aO _ _)) (by have:=HS.out;simp;omega) (some ⟨wF.heap.size,0,none⟩) 1 1 [.slice rb lb.length db] rfl rfl (gq (Sits.new wF 68 #[.slice rb lb.length db])) (by intro u hu;simp only [List.mem_cons,List.not_mem_nil,or_false] at hu;subst hu;rfl) (by have:=Wv.out;unfold maxLen;omega) (by have:=Wv.out;omega) ?_)
        intro rN dN wN hgN Td hbN Ph;clear t0 Eb;have F6:=aO wF (.cells #[.slice rb lb.length db] 68);have U4:∀ g o s,rN=some ⟨g,o,s⟩->(Value.slice r2 ls.length d2).ownBlock=some g \/ (wF.alloc (.cells #[.slice rb lb.length db] 68)).heap.size<=g:=fun g o s h=>by simpa using Td g o s h
        have hun:yB (fun g=>0<=g/\(Value.slice rN (ls.length+1) dN).ownBlock≠some g) wN (ls ++ [lb]) (vs ++ [.slice rb lb.length db]):=yB.snoc
         ((HMU.out.below F6).grow hgN (fun g h e=>absurd (HOW.out g e) (by omega)) U4 (fun g _=>Nat.zero_le g)) (by have:=HIT.out.2;have:=HN.out;omega)
         ((HU.out.below F6).imp fun _ _ h=>h.grow hgN (fun g h=>h.2) U4 (fun g _=>Nat.zero_le g))
        have hbb:=(F6.mono HS.out).trans hbN;have hA:=HA.out.below hbb F5.out;have hT:=HT.out.below hbb Bc.out;have hY:=HY.out.below hbb (by have:=Bc.out;have:=iE.out;omega);have hZ:=HZ.out.below hbb (by have:=Bc.out;have:=iE.out;omega);have hQ:=HQ.out.trans (hbb.mono (by have:=Bc.out;have:=sN.out;omega));have h12:=(Vu.out.below F6 Vu.out.lt).grown hgN (fun e=>absurd (HOW.out _ e) (by have:=RO.out;omega));have hC:=Lx HC.out hbb HOI.out;have hS:=Nat.le_trans HS.out hbb.size;have HA:=hid hA;have HT:=hid hT;have HY:=hid hY;have HZ:=hid hZ;have HQ:=hid hQ;have HC:=hid hC;have HS:=hid hS;have Vu:=hid h12;have HV:=hid Ph;have HU:=hid hun;clear hA hT hY hZ hQ hC hS h12 Ph hun hgN Td U4 hbN F6 hbb;have t0:=ag HT.out;have Eb:=aL HT.out;have y0:=ag Vu.out;have a0:=ag HA.out;have eZ:=aL HA.out;go_wp2_with fail
        clear t0 Eb y0 a0 eZ;obtain ⟨m',q',hm',hst⟩:=Pd HG.out PK.out sP.out BA.out qE.out HIT.out.1;have U3:=hid hst;have SF:=hid hm';clear hst hm';have hA:=(aA (HA.out.far (p:=⟨g6+2,1,none⟩) (show ¬ (g6+1=g6+2) by omega) (.slice rN (ls.length+1) dN)) (.slice (some ⟨gp,0,none⟩) ts.length c) (.int .i64 (k5:Nat)) (.int .i64 (j5:Nat)) (.int .i64 (e5:Nat)))
        have hY:=(bP (HY.out.far (p:=⟨g6+2,1,none⟩) (show ¬ (gb=g6+2) by have:=iE.out;omega) (.slice rN (ls.length+1) dN)) (show gb≠g6+1 by have:=iE.out;omega) (.slice (some ⟨gp,0,none⟩) ts.length c) (.int .i64 (k5:Nat)) (.int .i64 (j5:Nat)) (.int .i64 (e5:Nat)))
        have hZ:=(bP (HZ.out.far (p:=⟨g6+2,1,none⟩) (show ¬ (gb+1=g6+2) by have:=iE.out;omega) (.slice rN (ls.length+1) dN)) (show gb+1≠g6+1 by have:=iE.out;omega) (.slice (some ⟨gp,0,none⟩) ts.length c) (.int .i64 (k5:Nat)) (.int .i64 (j5:Nat)) (.int .i64 (e5:Nat)))
        have hT:=(bP (HT.out.put 1 (.slice rN (ls.length+1) dN)) (show g6+2≠g6+1 by omega) (.slice (some ⟨gp,0,none⟩) ts.length c) (.int .i64 (k5:Nat)) (.int .i64 (j5:Nat)) (.int .i64 (e5:Nat)))
        have hC:=(bX (bW HC.out jK.out 1 (.slice rN (ls.length+1) dN)) (show g6+1<w5.heap.size by have:=jK.out;omega) (.slice (some ⟨gp,0,none⟩) ts.length c) (.int .i64 (k5:Nat)) (.int .i64 (j5:Nat)) (.int .i64 (e5:Nat)))
        have hV:=(bX (bW HV.out Bc.out 1 (.slice rN (ls.length+1) dN)) F5.out (.slice (some ⟨gp,0,none⟩) ts.length c) (.int .i64 (k5:Nat)) (.int .i64 (j5:Nat)) (.int .i64 (e5:Nat)))
        have hU:=((HU.out.off (sK HT.out) (eD wN (g6+2) 1 (.slice rN (ls.length+1) dN))).off (nk (HA.out.far (p:=⟨g6+2,1,none⟩) (show ¬ (g6+1=g6+2) by omega) (.slice rN (ls.length+1) dN))) (bQ (wN.setCell ⟨g6+2,1,none⟩ (.slice rN (ls.length+1) dN)) (g6+1) (.slice (some ⟨gp,0,none⟩) ts.length c) (.int .i64 (k5:Nat)) (.int .i64 (j5:Nat)) (.int .i64 (e5:Nat))))
        have hQ:=(aG (HQ.out.setCell (p:=⟨g6+2,1,none⟩) (by have:=sN.out;simp;omega) (.slice rN (ls.length+1) dN)) (g:=g6+1) (by have:=sN.out;omega) (.slice (some ⟨gp,0,none⟩) ts.length c) (.int .i64 (k5:Nat)) (.int .i64 (j5:Nat)) (.int .i64 (e5:Nat)))
        have hS:B2<=((aF (wN.setCell ⟨g6+2,1,none⟩ (.slice rN (ls.length+1) dN)) (g6+1) (.slice (some ⟨gp,0,none⟩) ts.length c) (.int .i64 (k5:Nat)) (.int .i64 (j5:Nat)) (.int .i64 (e5:Nat)))).heap.size:=by simpa [aF] using HS.out
        change Handed _ _ _ ((aF (wN.setCell ⟨g6+2,1,none⟩ (.slice rN (ls.length+1) dN)) (g6+1) (.slice (some ⟨gp,0,none⟩) ts.length c) (.int .i64 (k5:Nat)) (.int .i64 (j5:Nat)) (.int .i64 (e5:Nat))));generalize (aF (wN.setCell ⟨g6+2,1,none⟩ (.slice rN (ls.length+1) dN)) (g6+1) (.slice (some ⟨gp,0,none⟩) ts.length c) (.int .i64 (k5:Nat)) (.int .i64 (j5:Nat)) (.int .i64 (e5:Nat)))=wP at hA hY hZ hT hC hV hU hQ hS ⊢;have HA:=hid (show Sits wP (g6+1) 57 #[.slice (some ⟨gp,0,none⟩) ts.length c,.int .i64 (k5:Nat),.int .i64 (j5:Nat),.int .i64 (e5:Nat)] from hA);have HY:=hid hY;have HZ:=hid hZ;have HT:=hid (show Sits wP (g6+2) 37 #[.slice r l.length d,.slice rN (ls.length+1) dN,.bool false,.slice none 0 0] from hT);have HC:=hid hC;have HV:=hid hV;have HU:=hid hU;have HQ:=hid hQ;have HS:=hid hS;clear hA hY hZ hT hC hV hU hQ hS;have hln:(ls ++ [lb]).length=ls.length+1:=by simp
        go_roundg m'
        case measure=>exact SF.out
        case rel=>exact ⟨hid ⟨rN,dN,q',ls ++ [lb],vs ++ [.slice rb lb.length db],k5,j5,e5,by rw [hln];exact HV.out,by rw [hln];exact HU.out,HA.out,by rw [hln];exact HT.out,HC.out,U3.out⟩,HY,HZ,HQ,HS⟩
      ·have hlb:=uy nm [116,104,114,101,97,100]
       rw [decide_eq_false (show ¬ (nm=[116,104,114,101,97,100]) from hq)] at hlb;have ZF:=hid (show aZ ts 2 k1 e1≠eT from hnm ▸ hq);generalize str nm=S at hlb ⊢;clear hnm hq;obtain ⟨o0,hr0,hout,Wm⟩:=RG (v:=.slice (some ⟨gp,0,none⟩) ts.length c) HG.out PK.out ZF.out;have Au:=hid hr0;have LA:=hid hout;have AU:=hid Wm;clear hr0 hout Wm;go_wp2_with fail
       go_meet
       exact ⟨r2,d2,q,ls,vs,k1,j1,e1,o0,HV,HU,HA,HT,HC,Au,LA,AU,hid PK.out.few,HY,HZ,HQ,HS⟩
    case rest =>
     obtain ⟨r2,d2,q,ls,vs,k1,j1,e1,o0,HV,HU,HA,HT,HC,Au,LA,AU,Ws,HY,HZ,HQ,HS⟩:=hcut;have a0:=ag HA.out;have eZ:=aL HA.out;go_wp2_with fail
     clear a0 eZ;have Pt:=aO wc (.cells #[.string ⟨#[101,120,105,115,116,115]⟩,.string ⟨#[102,111,114,97,108,108]⟩] 9);refine (sF (o:=o0) (ws:=[fC,dX]) HG.out _ ((HP.out _ HQ.out).below Pt) (U2 wc) Au.out).mono ?_;rintro x wD ⟨u,xw,rfl,h1,h2,h3,hb⟩;obtain ⟨k2,j2,e2,rfl⟩:=h1.cells;have HR2:=hid h1;have Sy:=hid (⟨h2,h3⟩:_/\_);have hb:=Pt.trans (hb.mono Pt.size);have HY:=hid (HY.out.below hb HY.out.lt);have HZ:=hid (HZ.out.below hb HZ.out.lt);have HA:=hid (HA.out.below hb HA.out.lt);have HT:=hid (HT.out.below hb HT.out.lt);have HQ:=hid (HQ.out.trans (hb.mono HQ.out.size));have HC:=hid (HC.out.below hb);have HV:=hid (HV.out.below hb);have HU:=hid (HU.out.below hb);have HS:=hid (Nat.le_trans HS.out hb.size);clear h1 h2 h3 hb Pt;have hlb:=uy xw [102,111,114,97,108,108];have iW:=hid (show decide (xw=[102,111,114,97,108,108])=decide (xw=dX) from rfl);generalize decide (xw=[102,111,114,97,108,108])=bx at hlb iW;generalize str xw=S at hlb ⊢;have a0:=ag HA.out;have eZ:=aL HA.out;have t0:=ag HT.out;have Eb:=aL HT.out;go_wp2_with fail
     clear a0 eZ t0 Eb;refine hC (dz (tS ((aA HA.out _ _ _ _).far (p:=⟨g6+2,2,none⟩) (show ¬ (g6+1=g6+2) by omega) (.bool bx))) (dz (tS ((bP HY.out (show gb≠g6+1 by have:=iE.out;omega) _ _ _ _).far (p:=⟨g6+2,2,none⟩) (show ¬ (gb=g6+2) by have:=iE.out;omega) (.bool bx))) (dz (tS ((bP HZ.out (show gb+1≠g6+1 by have:=iE.out;omega) _ _ _ _).far (p:=⟨g6+2,2,none⟩) (show ¬ (gb+1=g6+2) by have:=iE.out;omega) (.bool bx))) (dz (tS ((bP HT.out (show g6+2≠g6+1 by omega) _ _ _ _).put 2 (.bool bx))) (dz (tC (bW (bX HC.out (show g6+1<w5.heap.size by have:=jK.out;omega) _ _ _ _) jK.out 2 (.bool bx))) (dz (tC (bW (bX HV.out F5.out _ _ _ _) Bc.out 2 (.bool bx))) (dz (tU ((HU.out.off (nk HA.out) (bQ wD (g6+1) _ _ _ _)).off (sK (bP HT.out (show g6+2≠g6+1 by omega) _ _ _ _)) (eD (aF wD (g6+1) _ _ _ _) (g6+2) 2 (.bool bx)))) (dz ((aG HQ.out (g:=g6+1) (by have:=sN.out;omega) _ _ _ _).setCell (p:=⟨g6+2,2,none⟩) (by have:=sN.out;simp;omega) (.bool bx)) (tZ HS.out (by simp)))))))))) ?_;rintro wE ⟨HA,HY,HZ,HT,HC,HV,HU,HQ,HS⟩;have HS:Hid (B2<=wE.heap.size):=HS;have HT:=hid (show Sits wE (g6+2) 37 #[.slice r l.length d,.slice r2 ls.length d2,.bool bx,.slice none 0 0] from HT.out);refine (kJ (o:=o0.bind fun _ k=>bg ts [fC,dX] k) HG.out true _ (HP.out _ HQ.out) HR2.out).mono ?_;rintro x wF ⟨lv,li,u,rfl,h1,h2,h3,h4,hb⟩;obtain ⟨k3,j3,e3,rfl⟩:=h1.cells;have JB:=h2.low (Nat.zero_le _);obtain ⟨rl,dl,rfl,_,_⟩:=h2
     have HR3:=hid h1;have HLI:=hid (⟨h3,h4⟩:_/\_);have gX:=hid JB;have HY:=hid (HY.out.below hb HY.out.lt);have HZ:=hid (HZ.out.below hb HZ.out.lt);have HA:=hid (HA.out.below hb HA.out.lt);have HT:=hid (HT.out.below hb HT.out.lt);have HQ:=hid (HQ.out.trans (hb.mono HQ.out.size));have HC:=hid (HC.out.below hb);have HV:=hid (HV.out.below hb);have HU:=hid (HU.out.below hb);have HS:=hid (Nat.le_trans HS.out hb.size);clear h1 h3 h4 hb JB;have a0:=ag HA.out;have eZ:=aL HA.out;have t0:=ag HT.out;have Eb:=aL HT.out;go_wp2_with fail
     clear a0 eZ t0 Eb;refine hC (dz (tS (aA (HA.out.far (p:=⟨g6+2,3,none⟩) (show ¬ (g6+1=g6+2) by omega) (.slice rl li.length dl)) _ _ _ _)) (dz (tS (bP (HY.out.far (p:=⟨g6+2,3,none⟩) (show ¬ (gb=g6+2) by have:=iE.out;omega) (.slice rl li.length dl)) (show gb≠g6+1 by have:=iE.out;omega) _ _ _ _)) (dz (tS (bP (HZ.out.far (p:=⟨g6+2,3,none⟩) (show ¬ (gb+1=g6+2) by have:=iE.out;omega) (.slice rl li.length dl)) (show gb+1≠g6+1 by have:=iE.out;omega) _ _ _ _)) (dz (tS (bP (HT.out.put 3 (.slice rl li.length dl)) (show g6+2≠g6+1 by omega) _ _ _ _)) (dz (tC (bX (bW HC.out jK.out 3 (.slice rl li.length dl)) (show g6+1<w5.heap.size by have:=jK.out;omega) _ _ _ _)) (dz (tC (bX (bW HV.out Bc.out 3 (.slice rl li.length dl)) F5.out _ _ _ _)) (dz (tU ((HU.out.off (sK HT.out) (eD wF (g6+2) 3 (.slice rl li.length dl))).off (nk (HA.out.far (p:=⟨g6+2,3,none⟩) (show ¬ (g6+1=g6+2) by omega) (.slice rl li.length dl))) (bQ (wF.setCell ⟨g6+2,3,none⟩ (.slice rl li.length dl)) (g6+1) _ _ _ _))) (dz (aG (HQ.out.setCell (p:=⟨g6+2,3,none⟩) (by have:=sN.out;simp;omega) (.slice rl li.length dl)) (g:=g6+1) (by have:=sN.out;omega) _ _ _ _) (dz (tZ HS.out (by simp)) (tI ((gX.out.apart (Ap HT.out) (eD wF (g6+2) 3 (.slice rl li.length dl))).off (HA.out.far (p:=⟨g6+2,3,none⟩) (show ¬ (g6+1=g6+2) by omega) (.slice rl li.length dl)) (bQ (wF.setCell ⟨g6+2,3,none⟩ (.slice rl li.length dl)) (g6+1) _ _ _ _)))))))))))) ?_
     rintro wG ⟨HA,HY,HZ,HT,HC,HV,HU,HQ,HS,gX⟩;have HS:Hid (B2<=wG.heap.size):=HS;have HT:=hid (show Sits wG (g6+2) 37 #[.slice r l.length d,.slice r2 ls.length d2,.bool bx,.slice rl li.length dl] from HT.out);refine (bF HG.out [59] ⟨59,[],rfl,by decide⟩ _ (HP.out _ HQ.out) HR3.out).mono ?_;rintro x wH ⟨u,rfl,h1,hb⟩;obtain ⟨k4,j4,e4,rfl⟩:=h1.cells;have HR4:=hid h1;have gX:=hid (gX.out.below hb);have HY:=hid (HY.out.below hb HY.out.lt);have HZ:=hid (HZ.out.below hb HZ.out.lt);have HA:=hid (HA.out.below hb HA.out.lt);have HT:=hid (HT.out.below hb HT.out.lt);have HQ:=hid (HQ.out.trans (hb.mono HQ.out.size));have HC:=hid (HC.out.below hb);have HV:=hid (HV.out.below hb);have HU:=hid (HU.out.below hb);have HS:=hid (Nat.le_trans HS.out hb.size);clear h1 hb;have a0:=ag HA.out;have eZ:=aL HA.out;go_upto_region 29 with (fail)
     clear a0 eZ;refine hW (dz (tS (aA HA.out _ _ _ _)) (dz (tS (bP HY.out (show gb≠g6+1 by have:=iE.out;omega) _ _ _ _)) (dz (tS (bP HZ.out (show gb+1≠g6+1 by have:=iE.out;omega) _ _ _ _)) (dz (tS (bP HT.out (show g6+2≠g6+1 by omega) _ _ _ _)) (dz (tC (bX HC.out (show g6+1<w5.heap.size by have:=jK.out;omega) _ _ _ _)) (dz (tC (bX HV.out F5.out _ _ _ _)) (dz (tU (HU.out.off (nk HA.out) (bQ wH (g6+1) _ _ _ _))) (dz (aG HQ.out (g:=g6+1) (by have:=sN.out;omega) _ _ _ _) (dz (tZ HS.out (by simp)) (tI (gX.out.off HA.out (bQ wH (g6+1) _ _ _ _)))))))))))) ?_;rintro wI ⟨HA,HY,HZ,HT,HC,HV,HU,HQ,HS,gX⟩;have HS:Hid (B2<=wI.heap.size):=HS;have HT:=hid (show Sits wI (g6+2) 37 #[.slice r l.length d,.slice r2 ls.length d2,.bool bx,.slice rl li.length dl] from HT.out);by_cases he4:e4=0
     ·subst he4
      obtain ⟨u4,UF,rfl⟩:=HR4.out.FO rfl;have hk4:=HR4.out.lt rfl;obtain ⟨xw',kw,a,ka,hx1,hx2,hout⟩:=RI (l:=l) (q:=q) UF;have hout:=LA.out.trans hout;obtain ⟨c0,c1,c2,c3,c4,lp⟩:=gU (HP.out _ HQ.out) hk4;simp only [Nat.zero_add] at c0 c1 c2 c3 c4
      have m1:(k4:Int)<(ts.length:Int):=by omega
      have m0:(0:Int)<=(k4:Int):=by omega
      have m5:(k4:Int)<=5000:=by have:=HN.out;omega
      by_cases hkd:au ts k4=0
      ·rw [if_pos hkd] at hout
       have hxe:=(Sy.out.1 xw' kw hx1).1;have a0u:=hid (AU.out _ _ hout);have HOT:=hid (show pa = .ok ⟨l,q,bx,some a⟩ from by rw [Yr.out _ _ hout,<- hxe,<- iW.out]);have HLA:=hid (HLI.out.1 a ka hx2);rw [hkd] at c0;clear hxe hx1 hx2 hout UF hkd hk4 c1 c2 c3 c4;have a0:=ag HA.out;have eZ:=aL HA.out;have t0:=ag HT.out;have y0:=ag HY.out;have L8:=aL HY.out;obtain ⟨q0,q1⟩:wI.cell? ⟨gb+1,0,none⟩=some (.int .i64 0)/\wI.cell? ⟨gb+1,1,none⟩=some (.int .i64 0):=⟨HZ.out.cell 0,HZ.out.cell 1⟩
       have lq:=HZ.out.lt;have qf0:=HZ.out.free 0;have qf1:=HZ.out.free 1;go_wp2_with fail
       clear a0 eZ t0;have hs:=Xy (aA HY.out (.slice r l.length d) (.slice r2 ls.length d2) (.bool bx) (.slice rl li.length dl)) (show gb≠gb+1 by omega) (.int .i64 0) (.int .i64 0);have hp0:=bP HZ.out (show gb+1≠gb by omega) (.slice r l.length d) (.slice r2 ls.length d2) (.bool bx) (.slice rl li.length dl);have hp:=Cm hp0 (.int .i64 0) (.int .i64 0);have hl:=FZ (aG (xU.out.trans (HQ.out.mono (by have:=xU.out.size;omega))) (g:=gb) (by have:=di.out;omega) (.slice r l.length d) (.slice r2 ls.length d2) (.bool bx) (.slice rl li.length dl)) (g:=gb+1) (by have:=di.out;omega) (.int .i64 0) (.int .i64 0);have hg5:gb+1<w5.heap.size:=by have:=iE.out;have:=jK.out;omega
       have hg2:gb+1<B2:=by have:=iE.out;have:=Bc.out;omega
       have hc:=bW (bW (bX HC.out (show gb<w5.heap.size by omega) (.slice r l.length d) (.slice r2 ls.length d2) (.bool bx) (.slice rl li.length dl)) hg5 0 (.int .i64 0)) hg5 1 (.int .i64 0);have hv:=bW (bW (bX HV.out (show gb<B2 by omega) (.slice r l.length d) (.slice r2 ls.length d2) (.bool bx) (.slice rl li.length dl)) hg2 0 (.int .i64 0)) hg2 1 (.int .i64 0);have hu:=(HU.out.off (sK HY.out) (bQ wI gb (.slice r l.length d) (.slice r2 ls.length d2) (.bool bx) (.slice rl li.length dl))).off (IC hp0) (Am _ (gb+1) (.int .i64 0) (.int .i64 0));have hi:=(gX.out.apart (Ap HY.out) (bQ wI gb (.slice r l.length d) (.slice r2 ls.length d2) (.bool bx) (.slice rl li.length dl))).apart (F4 hp0) (Am _ (gb+1) (.int .i64 0) (.int .i64 0));change cz _ _ _ (vT (aF wI gb (.slice r l.length d) (.slice r2 ls.length d2) (.bool bx) (.slice rl li.length dl)) (gb+1) (.int .i64 0) (.int .i64 0)) _ _ _ _ at hc hv;change bodyPost _ _ _ _ _ (vT (aF wI gb (.slice r l.length d) (.slice r2 ls.length d2) (.bool bx) (.slice rl li.length dl)) (gb+1) (.int .i64 0) (.int .i64 0));change Sits (vT (aF wI gb (.slice r l.length d) (.slice r2 ls.length d2) (.bool bx) (.slice rl li.length dl)) (gb+1) (.int .i64 0) (.int .i64 0)) _ _ _ at hs hp;clear hp0;generalize vT (aF wI gb (.slice r l.length d) (.slice r2 ls.length d2) (.bool bx) (.slice rl li.length dl)) (gb+1) (.int .i64 0) (.int .i64 0)=W9 at hs hp hl hc hv hu hi ⊢
       obtain ⟨s0,s1,s2,s3,_⟩:=ag hs;obtain ⟨s4,s5⟩:W9.cell? ⟨gb+1,0,none⟩=some (.int .i64 0)/\W9.cell? ⟨gb+1,1,none⟩=some (.int .i64 0):=⟨hp.cell 0,hp.cell 1⟩
       have hrt:QF W9 (zH ⟨l,q,bx,some a⟩) (.slice r l.length d) (.slice r2 ls.length d2) (.slice rl li.length dl):=⟨O0.inits (B1:=w5.heap.size) ⟨r,d,rfl,hc⟩ (show l.length<=1000000 by have:=yu.out;have:=HN.out;omega),
        by show tN W9 _ (q.map aS);rw [<- a0u.out];exact UX.rows (B:=0) (B1:=B2) ⟨r2,d2,vs,rfl,hv,hu⟩ (by have:=Ws.out;omega),
        by show Expr.Row W9 _ (bZ a);rw [<- HLA.out];exact hi.row (by have:=HLI.out.2;have:=HN.out;omega)⟩
       have HF:=hid (And.intro hl hrt);clear hs hp hl hc hv hu hi hrt hg5 hg2;exact bodyPost_ret (v:=.tuple #[.agg #[.slice r l.length d,.slice r2 ls.length d2,.bool bx,.slice rl li.length dl],.agg #[.int .i64 0,.int .i64 0],.int .i64 0]) (by simp [results,Tryz.results6,go_sem,s0,s1,s2,s3,s4,s5]) rfl (by rw [HOT.out];exact ⟨HF.out.1,_,_,_,rfl,HF.out.2⟩)
      ·have Wl:=hid (show out = .bad k4 3 from by rw [hout,if_neg hkd])
       obtain ⟨k5,j5,e5,h5⟩:∃ k5 j5 e5:Nat,k5=k4/\j5=k4/\e5=3:=⟨_,_,_,rfl,rfl,rfl⟩
       have tO:=hid (show ∀ W,Calls Tryz.prog 17 #[.agg #[.slice (some ⟨gp,0,none⟩) ts.length c,.int .i64 (k4:Nat),.int .i64 0,.int .i64 0],.int .i64 (k4:Nat),.int .i64 3] W (Made (.returned (.agg #[.slice (some ⟨gp,0,none⟩) ts.length c,.int .i64 (k5:Nat),.int .i64 (j5:Nat),.int .i64 (e5:Nat)])) W) from fun W=>by rw [h5.1,h5.2.1,h5.2.2];exact fZ (some ⟨gp,0,none⟩) ts.length c k4 0 0 k4 3 W);have HJ:=hid (show j5<ts.length by omega);have HE:=hid (show out = .bad j5 e5 from by rw [h5.2.1,h5.2.2];exact Wl.out);have n1:((e5:Int) == 0)=false:=by simp;omega
       have b1:((au ts k4:Int) == 0)=false:=by simp;omega
       have b2:((au ts k4:Int) != 0)=true:=by rw [bne,b1];rfl
       clear hx1 hx2 hout UF hkd hk4 c1 c2 c3 c4 h5;generalize au ts k4=kdx at c0 b1 b2;have a0:=ag HA.out;have eZ:=aL HA.out;go_wp2_with fail
       clear a0 eZ c0 lp m1 m0 m5 b1 b2;refine (tO.out _).mono ?_;rintro x wJ ⟨rfl,hb⟩;have gX:=hid (gX.out.below hb);have HY:=hid (HY.out.below hb HY.out.lt);have HZ:=hid (HZ.out.below hb HZ.out.lt);have HA:=hid (HA.out.below hb HA.out.lt);have HT:=hid (HT.out.below hb HT.out.lt);have HQ:=hid (HQ.out.trans (hb.mono HQ.out.size));have HC:=hid (HC.out.below hb);have HV:=hid (HV.out.below hb);have HU:=hid (HU.out.below hb);have HS:=hid (Nat.le_trans HS.out hb.size);clear hb tO;have a0:=ag HA.out;have eZ:=aL HA.out;go_upto_region 31 with (fail)
       clear a0 eZ;refine hW (dz (tS (aA HA.out _ _ _ _)) (dz (tS (bP HY.out (show gb≠g6+1 by have:=iE.out;omega) _ _ _ _)) (dz (tS (bP HZ.out (show gb+1≠g6+1 by have:=iE.out;omega) _ _ _ _)) (dz (tS (bP HT.out (show g6+2≠g6+1 by omega) _ _ _ _)) (dz (tC (bX HC.out (show g6+1<w5.heap.size by have:=jK.out;omega) _ _ _ _)) (dz (tC (bX HV.out F5.out _ _ _ _)) (dz (tU (HU.out.off (nk HA.out) (bQ wJ (g6+1) _ _ _ _))) (dz (aG HQ.out (g:=g6+1) (by have:=sN.out;omega) _ _ _ _) (dz (tZ HS.out (by simp)) (tI (gX.out.off HA.out (bQ wJ (g6+1) _ _ _ _)))))))))))) ?_;rintro wK ⟨HA,HY,HZ,HT,HC,HV,HU,HQ,HS,gX⟩;have HS:Hid (B2<=wK.heap.size):=HS;have HT:=hid (show Sits wK (g6+2) 37 #[.slice r l.length d,.slice r2 ls.length d2,.bool bx,.slice rl li.length dl] from HT.out);obtain ⟨d0,d1,d2,d3,d4,dp⟩:=gU (HP.out _ HQ.out) HJ.out;simp only [Nat.zero_add] at d0 d1 d2 d3 d4
       have m1:(j5:Int)<(ts.length:Int):=by have:=HJ.out;omega
       have m0:(0:Int)<=(j5:Int):=by omega
       have m5:(j5:Int)<=5000:=by have:=HN.out;omega
       have n2:((e5:Int) != 0)=true:=by rw [bne,n1];rfl
       have a0:=ag HA.out;have eZ:=aL HA.out;have y0:=ag HY.out;have L8:=aL HY.out;obtain ⟨q0,q1⟩:wK.cell? ⟨gb+1,0,none⟩=some (.int .i64 0)/\wK.cell? ⟨gb+1,1,none⟩=some (.int .i64 0):=⟨HZ.out.cell 0,HZ.out.cell 1⟩
       have lq:=HZ.out.lt;have qf0:=HZ.out.free 0;have qf1:=HZ.out.free 1;have Xz:¬ (gp=gb):=fun e=>JP HY.out _ _ (e ▸ d0)
       have YL:¬ (gp=gb+1):=fun e=>F3 HZ.out _ _ (e ▸ d0)
       have ng5:¬ (gb=gp):=fun e=>Xz e.symm
       have ng6:¬ (gb+1=gp):=fun e=>YL e.symm
       have YJ:¬ (g6+1=gb):=by have:=iE.out;omega
       have YK:¬ (g6+1=gb+1):=by have:=iE.out;omega
       go_wp2_with fail
       go_region
       go_wp2_with fail
       clear a0 eZ;refine oQ (Pg.of HY.out HZ.out (xU.out.trans (HQ.out.mono (by have:=xU.out.size;omega))) (by have:=di.out;omega) ((tk ts j5).line) ((tk ts j5).xy)) ?_;intro W9 F;have s0:=ag F.out.y;exact bodyPost_ret (v:=.tuple #[.agg #[.slice none 0 0,.slice none 0 0,.bool false,.slice none 0 0],.agg #[.int .i64 ((tk ts j5).line:Nat),.int .i64 ((tk ts j5).xy:Nat)],.int .i64 (e5:Nat)]) (by simp [results,Tryz.results6,go_sem,s0,F.out.z0,F.out.z1]) rfl (by rw [Vn.out _ _ HE.out];exact ⟨F.out.low,ne_of n1,rfl⟩)
     ·have n1:((e4:Int) == 0)=false:=by simp;omega
      obtain ⟨hj4,he⟩:=RH HR4.out he4;have HJ:=hid hj4;have HE:=hid (show out = .bad j4 e4 from LA.out.trans (Pe he));clear he4 hj4 he;obtain ⟨d0,d1,d2,d3,d4,dp⟩:=gU (HP.out _ HQ.out) HJ.out;simp only [Nat.zero_add] at d0 d1 d2 d3 d4
      have m1:(j4:Int)<(ts.length:Int):=by have:=HJ.out;omega
      have m0:(0:Int)<=(j4:Int):=by omega
      have m5:(j4:Int)<=5000:=by have:=HN.out;omega
      have n2:((e4:Int) != 0)=true:=by rw [bne,n1];rfl
      have a0:=ag HA.out;have eZ:=aL HA.out;have y0:=ag HY.out;have L8:=aL HY.out;obtain ⟨q0,q1⟩:wI.cell? ⟨gb+1,0,none⟩=some (.int .i64 0)/\wI.cell? ⟨gb+1,1,none⟩=some (.int .i64 0):=⟨HZ.out.cell 0,HZ.out.cell 1⟩
      have lq:=HZ.out.lt;have qf0:=HZ.out.free 0;have qf1:=HZ.out.free 1;have Xz:¬ (gp=gb):=fun e=>JP HY.out _ _ (e ▸ d0)
      have YL:¬ (gp=gb+1):=fun e=>F3 HZ.out _ _ (e ▸ d0)
      have ng5:¬ (gb=gp):=fun e=>Xz e.symm
      have ng6:¬ (gb+1=gp):=fun e=>YL e.symm
      have YJ:¬ (g6+1=gb):=by have:=iE.out;omega
      have YK:¬ (g6+1=gb+1):=by have:=iE.out;omega
      go_wp2_with fail
      go_region
      go_wp2_with fail
      clear a0 eZ;refine oQ (Pg.of HY.out HZ.out (xU.out.trans (HQ.out.mono (by have:=xU.out.size;omega))) (by have:=di.out;omega) ((tk ts j4).line) ((tk ts j4).xy)) ?_;intro W9 F;have s0:=ag F.out.y;exact bodyPost_ret (v:=.tuple #[.agg #[.slice none 0 0,.slice none 0 0,.bool false,.slice none 0 0],.agg #[.int .i64 ((tk ts j4).line:Nat),.int .i64 ((tk ts j4).xy:Nat)],.int .i64 (e4:Nat)]) (by simp [results,Tryz.results6,go_sem,s0,F.out.z0,F.out.z1]) rfl (by rw [Vn.out _ _ HE.out];exact ⟨F.out.low,ne_of n1,rfl⟩)
end Go.Proofs.YtaanhmndeobgbaaGreatDoor.fT
