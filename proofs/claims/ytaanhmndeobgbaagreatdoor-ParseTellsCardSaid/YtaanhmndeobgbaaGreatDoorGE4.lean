/- Part 45 of the proof: what is used of the texts PtlW, PtlY. -/
import Derived.Test.YtaanhmndeobgbaaGreatDoorGD8
import Derived.Test.YtaanhmndeobgbaaGreatDoorGC0
import Derived.Test.YtaanhmndeobgbaaGreatDoorGE0
import Derived.Test.YtaanhmndeobgbaaGreatDoorGE2
import Derived.Test.YtaanhmndeobgbaaGreatDoorGE3
import Derived.Test.YtaanhmndeobgbaaGreatDoorGC1
namespace Go.Proofs.YtaanhmndeobgbaaGreatDoor.fT
open Go.RowKit Mem Go.Proofs.YtaanhmndeobgbaaGreatDoor.Expr Prog Go.Lib ae
open Go.Proofs.YtaanhmndeobgbaaGreatDoor.Row (Lay cellsOf bO dQ mU eX cz eY dM ax ed aO iU)
open Lex (Tok cO jA iO)
def Eg (U:Nat->Prop) (w:World) (v:Value) (l:List Prog.Mark):Prop:=∃ r d cs,v = .slice r l.length d/\Lay w r cs/\iM U w l cs/\(l ≠ []->∀ g o s,r=some ⟨g,o,s⟩->U g)
theorem Eg.of {B:Nat} {w:World} {v:Value} {l:List Prog.Mark} (h:o8 B w v l):Eg (fun g=>B<=g) w v l:=by
 obtain ⟨r,d,cs,e,h1,h2,h3⟩:=h;exact ⟨r,d,cs,e,h1,h2,fun _=>h3⟩
theorem Eg.below {U:Nat->Prop} {w w':World} {v:Value} {l:List Prog.Mark} (h:Eg U w v l) (hb:Below w.heap.size w w'):Eg U w' v l:=by
 obtain ⟨r,d,cs,e,h1,h2,h3⟩:=h;exact ⟨r,d,cs,e,h1.below hb,h2.below hb,h3⟩
theorem iM.nonempty {U:Nat->Prop} {w:World} {l:List Prog.Mark} {cs:List Value} (h:iM U w l cs) {j:Nat} {u:Value} (hu:cs[j]? = some u):l ≠ []:=fun e=>by
 subst e;rw [show cs=[] from h] at hu;simp at hu
theorem Eg.grow {U:Nat->Prop} {w w':World} {row:Option Nat} {r':Option Addr} {n d:Nat} (hg:w.grownBy w' row) (hU:∀ g,U g->row≠some g) (hr:∀ g o s,r' = some ⟨g,o,s⟩->row=some g \/ w.heap.size<=g) {B:Nat} (hB:∀ g,U g->B<=g) {v:Value} {l:List Prog.Mark} (h:Eg U w v l):Eg (fun g=>B<=g/\(Value.slice r' n d).ownBlock≠some g) w' v l:=by
 obtain ⟨p,c,cs,rfl,h1,h2,h3⟩:=h;refine ⟨p,c,cs,rfl,fun j u hu=>?_,h2.imp fun _ _ h=>h.grow hg hU hr hB,fun hl g o s e=>?_⟩
 ·obtain ⟨g,o,e1,e2,e3⟩:=h1 j u hu
  have hu':=hU g (h3 (h2.nonempty hu) g o none e1);exact ⟨g,o,e1,Nat.lt_of_lt_of_le e2 hg.size,(World.cell?_of_block (hg.block g e2 (fun e=>hu' e.symm))).trans e3⟩
 ·have WX:=h3 hl g o s e
  refine ⟨hB g WX,fun he=>?_⟩;cases r' with
  | none=>simp [Value.ownBlock] at he
  | some a =>
   obtain ⟨g',o',s'⟩:=a;simp [Value.ownBlock] at he
   subst he;rcases hr _ _ _ rfl with h | h
   ·exact hU _ WX h
   ·obtain ⟨x,hx⟩:=h2.first hl
    obtain ⟨g2,o2,e4,e5,_⟩:=h1 0 _ hx;rw [e4] at e;injection e with e;injection e with e _
    omega
def Iu (w:World) (g:Nat):Prop:=∀ i u,w.cell? ⟨g,i,none⟩=some u->¬ ((∃ x,u = .int .u8 x) \/ ∃ x,u = .int .u64 x)
theorem nk {w:World} {g:Nat} {t:TypeId} {p:Option Addr} {n c:Nat} {x y z:Int} (hs:Sits w g t #[.slice p n c,.int .i64 x,.int .i64 y,.int .i64 z]):Iu w g:=fun _ _ hc=>uu hs hc
theorem sK {w:World} {g:Nat} {t:TypeId} {p q r:Option Addr} {n c n' c' n2 c2:Nat} {b:Bool} (hs:Sits w g t #[.slice p n c,.slice q n' c',.bool b,.slice r n2 c2]):Iu w g:=fun i u hc=>by
 rw [hs.cell i] at hc;rcases i with _ | _ | _ | _ | i
 ·have e:=Option.some.inj hc;subst e;rintro (⟨_,h⟩ | ⟨_,h⟩) <;> cases h
 ·have e:=Option.some.inj hc;subst e;rintro (⟨_,h⟩ | ⟨_,h⟩) <;> cases h
 ·have e:=Option.some.inj hc;subst e;rintro (⟨_,h⟩ | ⟨_,h⟩) <;> cases h
 ·have e:=Option.some.inj hc;subst e;rintro (⟨_,h⟩ | ⟨_,h⟩) <;> cases h
 ·simp at hc
theorem Iu.apart {B:Nat} {w W:World} {g:Nat} (hg:Iu w g) (hk:aa (fun b=>b=g) w W) {v:Value} {l:List It} (h:dF B w v l):dF B W v l:=h.apart (fun i x hc=>hg i _ hc (.inr ⟨x,rfl⟩)) hk
theorem Eg.off {U:Nat->Prop} {w W:World} {g:Nat} (hs:Iu w g) (hk:aa (fun b=>b=g) w W) {v:Value} {l:List Prog.Mark} (h:Eg U w v l):Eg U W v l:=by
 obtain ⟨r,d,cs,e,h1,h2,h3⟩:=h;refine ⟨r,d,cs,e,fun j u hu=>?_,h2.imp fun _ _ h=>h.imp (fun h=>hs.apart hk h) fun _ h=>h,h3⟩;obtain ⟨q,hq⟩:=h2.first (h2.nonempty hu)
 obtain ⟨g0,o0,e0,_,hc0⟩:=h1 0 _ hq;have hne:¬ (g0=g):=fun e=>hs _ _ (e ▸ hc0) (.inl ⟨_,rfl⟩)
 obtain ⟨g',o,e1,e2,e3⟩:=h1 j u hu;rw [e1] at e0;injection e0 with e0;injection e0 with e0 _
 subst e0;exact ⟨g',o,e1,Nat.lt_of_lt_of_le e2 hk.size,(World.cell?_of_block (hk.block g' e2 hne)).trans e3⟩
theorem iM.at_ {U:Nat->Prop} {w:World}:∀ {l:List Prog.Mark} {cs:List Value},iM U w l cs->∀ {k:Nat} {x:Prog.Mark},l[k]? = some x->∃ av bv,vW U w av x.a/\vW U w bv x.b/\(x.a.length<=10000/\x.b.length<=10000)/\∀ i,i<6->cs[k * 6+i]? = (JH x av bv)[i]?
 | y :: l,_,⟨av,bv,cr,e,ha,hb,hl,_⟩,0,x,hx=>by
  simp at hx;subst hx
  refine ⟨av,bv,ha,hb,hl,fun i hi=>?_⟩;rw [e,Nat.zero_mul,Nat.zero_add,List.getElem?_append_left (by simp [JH];omega)]
 | y :: l,_,⟨av,bv,cr,e,_,_,_,h⟩,k+1,x,hx=>by
  obtain ⟨Sk,Sl,ha',hb',hl',hc⟩:=h.at_ (k:=k) (x:=x) (by simpa using hx);refine ⟨Sk,Sl,ha',hb',hl',fun i hi=>?_⟩;rw [e,List.getElem?_append_right (by simp [JH];omega)];have:(k+1) * 6+i - (JH y av bv).length=k * 6+i:=by simp [JH];omega
  rw [this];exact hc i hi
theorem Eg.row {U:Nat->Prop} {w:World} {v:Value} {l:List Prog.Mark} (h:Eg U w v l) (hn:l.length<=1000000):wT w v l:=by
 obtain ⟨r,d,cs,rfl,h1,h2,_⟩:=h;cases l with
 | nil=>exact .inl ⟨rfl,r,d,rfl⟩
 | cons a l =>
  obtain ⟨q,hq⟩:=h2.first (by simp)
  obtain ⟨g,o,e,_,_⟩:=h1 0 _ hq;subst e;refine .inr ⟨g,o,d,rfl,hn,fun i x hx=>?_⟩;obtain ⟨av,bv,ha,hb,hl,hc⟩:=h2.at_ hx;have k':∀ j,j<6->w.cell? ⟨g,o+i * 6+j,none⟩=(JH x av bv)[j]?:=fun j hj=>by
   have hs:(JH x av bv)[j]? = some ((JH x av bv)[j]'(by simp [JH];omega)):=List.getElem?_eq_getElem _;obtain ⟨g',o',e,_,hc'⟩:=h1 (i * 6+j) _ ((hc j hj).trans hs);injection e with e;injection e with e1 e2;subst e1 e2;rw [Nat.add_assoc];exact hc'.trans hs.symm
  exact ⟨av,bv,k' 0 (by omega),k' 1 (by omega),k' 2 (by omega),k' 3 (by omega),k' 4 (by omega),k' 5 (by omega),ha.1.row (by omega),hb.1.row (by omega)⟩
def yB (U:Nat->Prop) (w:World):List (List Prog.Mark)->List Value->Prop
 | [],vs=>vs=[]
 | l :: ls,vs=>∃ v vr,vs=v :: vr/\Eg U w v l/\l.length<=10000/\yB U w ls vr
section
variable {U V : Nat → Prop} {w w' : World}
def Tu (U:Nat->Prop) (ls:List (List Prog.Mark)) (vs:List Value) (W:World):Prop:=yB U W ls vs
theorem tU {U:Nat->Prop} {W:World} {ls:List (List Prog.Mark)} {vs:List Value} (h:yB U W ls vs):Tu U ls vs W:=h
theorem yB.imp (f:∀ v l,Eg U w v l->Eg V w' v l):∀ {ls:List (List Prog.Mark)} {vs:List Value},yB U w ls vs->yB V w' ls vs
 | [],_,h=>h
 | _ :: _,_,⟨v,vr,e,h1,hl,h⟩=>⟨v,vr,e,f _ _ h1,hl,h.imp f⟩
theorem yB.snoc {v:Value} {l:List Prog.Mark} (h1:Eg U w v l) (hl:l.length<=10000):∀ {ls:List (List Prog.Mark)} {vs:List Value},yB U w ls vs->yB U w (ls ++ [l]) (vs ++ [v])
 | [],vs,h=>by rw [show vs=[] from h];exact ⟨v,[],rfl,h1,hl,rfl⟩
 | _ :: _,_,⟨v',vr,e,h1',hl',h⟩=>⟨v',vr ++ [v],by rw [e];rfl,h1',hl',h.snoc h1 hl⟩
theorem yB.len:∀ {ls:List (List Prog.Mark)} {vs:List Value},yB U w ls vs->vs.length=ls.length
 | [],vs,h=>by rw [show vs=[] from h];rfl
 | _ :: _,_,⟨v',vr,e,_,_,h⟩=>by rw [e,List.length_cons,List.length_cons,h.len]
theorem yB.at_:∀ {ls:List (List Prog.Mark)} {vs:List Value},yB U w ls vs->∀ (i:Nat) (l:List Prog.Mark) (u:Value),ls[i]? = some l->vs[i]? = some u->wT w u l
 | [],_,_,i,l,u,h1,_=>by simp at h1
 | _ :: _,_,⟨v',vr,e,h,hl,_⟩,0,l,u,h1,h2=>by
  rw [e] at h2;simp at h1 h2
  subst h1 h2;exact h.row (by omega)
 | _ :: _,_,⟨v',vr,e,_,_,h⟩,i+1,l,u,h1,h2=>by
  rw [e] at h2;exact h.at_ i l u (by simpa using h1) (by simpa using h2)
end
def O0 (B1:Nat) (w:World) (v:Value) (l:List (Nat × Nat)):Prop:=∃ r d,v = .slice r l.length d/\cz 61 2 B1 w r l.length d (l.flatMap aX)
def UX (B B1:Nat) (w:World) (v:Value) (ls:List (List Prog.Mark)):Prop:=∃ r d vs,v = .slice r ls.length d/\cz 68 1 B1 w r ls.length d vs/\yB (fun g=>B<=g/\v.ownBlock≠some g) w ls vs
theorem Ci {e:TypeId} {size B:Nat} {w W:World} {r:Option Addr} {n d:Nat} {xs:List Value} {X:Nat->Prop} (h:cz e size B w r n d xs) (hk:aa X w W) (hX:∀ g,(Value.slice r n d).ownBlock=some g->¬ X g):cz e size B W r n d xs :=
 dM ⟨h.own.1,h.own.2.imp id fun ⟨g',cap,cur,e1,e2,e3,e4⟩=>⟨g',cap,cur,e1,e2,(hk.block g' (lt_of_block e3) (hX g' (by rw [e1];rfl))).trans e3,e4⟩⟩
theorem O0.inits {B1:Nat} {w:World} {v:Value} {l:List (Nat × Nat)} (h:O0 B1 w v l) (hn:l.length<=1000000):qy w v l:=by
 obtain ⟨r,d,e,h⟩:=h;have:=yA h.own hn;rw [e];rcases this with ⟨h0,h1⟩ | ⟨g,o,cap,h1,_,h2,h3⟩
 ·exact .inl ⟨h0,h1⟩
 ·exact .inr ⟨g,o,cap,h1,trivial,h2,h3⟩
theorem UX.rows {B B1:Nat} {w:World} {v:Value} {ls:List (List Prog.Mark)} (h:UX B B1 w v ls) (hn:ls.length<=1000000):tN w v ls:=by
 obtain ⟨r,d,vs,e,h1,h2⟩:=h;have:=yA h1.own hn;refine ⟨vs,?_,h2.len,h2.at_⟩;rw [e];rcases this with ⟨h0,h1⟩ | ⟨g,o,cap,h1,_,h2,h3⟩
 ·exact .inl ⟨h0,h1⟩
 ·exact .inr ⟨g,o,cap,h1,trivial,h2,h3⟩
theorem O1:(Tryz.prog.info? 61).map (fun i=>(i.zero,i.size,i.bytes))=some (some (.agg #[.int .u8 0,.int .u64 0]),2,16):=by kernel_rfl
theorem D7:mU Tryz.prog 33 61 2 16:=eX Tryz.underlying33 O1 (by rfl) (by decide)
theorem O3:(Tryz.prog.info? 68).map (fun i=>(i.zero,i.size,i.bytes))=some (some (.slice none 0 0),1,24):=by kernel_rfl
theorem Rv:mU Tryz.prog 34 68 1 24:=eX Tryz.underlying34 O3 (by rfl) (by decide)
end Go.Proofs.YtaanhmndeobgbaaGreatDoor.fT
namespace Go.Proofs.YtaanhmndeobgbaaGreatDoor.fT
open Go.Proofs.YtaanhmndeobgbaaGreatDoor.Expr Prog
theorem UY (e:Ex):e.ok->∀ a ∈ bZ e,a.bd:=by
 induction e with
 | num n | reg i | of t i | loc x =>
  intro h a ha;obtain rfl:=List.mem_singleton.1 ha;simp only [It.bd,Ex.ok] at h ⊢
  omega
 | one op a ih =>
  intro h x hx;rcases List.mem_cons.1 hx with rfl | hx
  ·have:=h.1
   simp only [It.bd]
   omega
  ·exact ih h.2 x hx
 | two op a b iha ihb =>
  intro h x hx;rcases List.mem_cons.1 hx with rfl | hx
  ·have:=h.1
   have:=h.2.1;simp only [It.bd]
   omega
  ·rcases List.mem_append.1 hx with hx | hx
   ·exact iha h.2.2.1 x hx
   ·exact ihb h.2.2.2 x hx
theorem D8 {o:Option Ex} (h:okO o):∀ a ∈ Du o,a.bd:=by
 cases o with
 | none=>exact fun a ha=>nomatch ha
 | some e=>exact UY e h.1
theorem Rw {m:Mk} (h:m.proper) (hp:Plain m):(gN m).bd:=by
 have hr:=hp.reg;obtain ⟨kind,reg,mode,loc,a,b⟩:=m;obtain ⟨ha,hb,hk⟩:=h;have h3:kind<256/\mode<256/\loc<256:=by
  simp only at hk
  match kind,hk with
  | 1,hk | 2,hk | 3,hk | 4,hk | 5,hk | 6,hk | 7,hk | 8,hk | 9,hk=>simp only [fV] at hk;refine ⟨by omega,?_,?_⟩ <;> omega
 exact ⟨h3.1,by show reg<256;exact Nat.lt_of_lt_of_le hr (by decide),h3.2.1,h3.2.2,D8 ha,D8 hb⟩
theorem xk:noMark.bd:=by simp [Mark.bd,noMark]
theorem O4 (b:az):b.proper->um b->∀ x ∈ aS b,x.bd:=by
 induction b with
 | nil=>exact fun _ _ x hx=>nomatch hx
 | cons m t e r F9 Kh ihr =>
  intro hp hq x hx;obtain ⟨hm,ht,he,hr,_,_⟩:=hp;obtain ⟨qm,qt,qe,qr⟩:=hq;rcases List.mem_cons.1 hx with rfl | hx
  ·exact Rw hm qm
  rcases List.mem_append.1 hx with hx | hx
  ·split at hx
   ·rcases List.mem_append.1 hx with hx | hx
    ·exact F9 ht qt x hx
    rcases List.mem_cons.1 hx with rfl | hx
    ·exact xk
    rcases List.mem_append.1 hx with hx | hx
    ·exact Kh he qe x hx
    ·obtain rfl:=List.mem_singleton.1 hx;exact xk
   ·split at hx
    ·rcases List.mem_append.1 hx with hx | hx
     ·exact F9 ht qt x hx
     ·obtain rfl:=List.mem_singleton.1 hx;exact xk
    ·cases hx
  ·exact ihr hr qr x hx
theorem Xv {t:Ts} (h:Read t):(zH t).bd:=by
 have hp:=h.prints;refine ⟨D8 hp.proper.ask,fun x hx=>⟨?_,(hp.init x hx).2⟩,fun l hl x hx=>?_⟩
 ·have:=hp.proper.init x hx;unfold fV at this;omega
 ·obtain ⟨b,hb,rfl⟩:=List.mem_map.1 hl
  exact O4 b (hp.proper.threads b hb).1 (hp.threads b hb) x hx
theorem UZ {t:Ts} (h:Read t):(zH t).few :=
 ⟨by show (t.threads.map aS).length<=1000;rw [List.length_map];have:=h.prints.few;omega,h.init⟩
end Go.Proofs.YtaanhmndeobgbaaGreatDoor.fT
