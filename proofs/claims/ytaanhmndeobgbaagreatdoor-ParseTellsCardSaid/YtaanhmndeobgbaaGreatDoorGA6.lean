/- Part 7 of the proof: what is used of the texts ExprD, ExprE, ExprH. -/
import Derived.Test.YtaanhmndeobgbaaGreatDoorGA5
import Derived.LoopN
set_option maxRecDepth 100000
set_option maxHeartbeats 2000000
namespace Go.Proofs.YtaanhmndeobgbaaGreatDoor.Expr
open Go.RowKit Mem Go.Lib
def jS (w:World) (g o:Nat) (a:It):Prop :=
 w.cell? ⟨g,o,none⟩=some (.int .u8 a.kind)/\w.cell? ⟨g,o+1,none⟩=some (.int .u8 a.op)/\w.cell? ⟨g,o+2,none⟩=some (.int .u64 a.n) /\
  w.cell? ⟨g,o+3,none⟩=some (.int .u8 a.t)/\w.cell? ⟨g,o+4,none⟩=some (.int .u8 a.i)/\w.cell? ⟨g,o+5,none⟩=some (.int .u8 a.x)
def Row (w:World) (v:Value) (l:List It):Prop :=
 (l=[]/\∃ p cap,v = .slice p 0 cap) \/ ∃ g o cap,v = .slice (some ⟨g,o,none⟩) l.length cap/\l.length<=1000000/\∀ i a,l[i]? = some a->jS w g (o+i * 6) a
theorem jS.lt {w:World} {g o:Nat} {a:It} (h:jS w g o a):g<w.heap.size:=World.block_lt_of_cell? w _ h.1
theorem jS.keep {w w':World} {g o:Nat} {a:It} (h:jS w g o a) (hk:∀ j,w'.cell? ⟨g,j,none⟩=w.cell? ⟨g,j,none⟩):jS w' g o a:=by
 unfold jS at h ⊢;simp only [hk];exact h
theorem jS.below {w w':World} {g o:Nat} {a:It} (h:jS w g o a) (hb:Below w.heap.size w w'):jS w' g o a:=h.keep fun j=>hb.cell (p:=⟨g,j,none⟩) h.lt
theorem Row.below {w w':World} {v:Value} {l:List It} (h:Row w v l) (hb:Below w.heap.size w w'):Row w' v l:=by
 rcases h with h | ⟨g,o,cap,hv,hl,h⟩
 ·exact .inl h
 ·exact .inr ⟨g,o,cap,hv,hl,fun i a ha=>(h i a ha).below hb⟩
theorem Row.len {w:World} {v:Value} {l:List It} (h:Row w v l):∃ p cap,v = .slice p l.length cap/\l.length<=1000000:=by
 rcases h with ⟨rfl,p,cap,hv⟩ | ⟨g,o,cap,hv,hl,_⟩
 ·exact ⟨p,cap,hv,by simp⟩
 ·exact ⟨_,cap,hv,hl⟩
theorem Row.item {w:World} {v:Value} {l:List It} (h:Row w v l) {i:Nat} {a:It} (ha:l[i]? = some a):∃ g o cap,v = .slice (some ⟨g,o,none⟩) l.length cap/\l.length<=1000000/\i<l.length/\jS w g (o+i * 6) a:=by
 have hi:=(List.getElem?_eq_some_iff.1 ha).1;rcases h with ⟨rfl,_⟩ | ⟨g,o,cap,hv,hl,h⟩
 ·simp at hi
 ·exact ⟨g,o,cap,hv,hl,hi,h i a ha⟩
def kQ (B:Nat) (w:World):Tr->Value->Prop
 | .nil,v=>v = .pointer none
 | .node a l r,v=>∃ g lv rv,v = .pointer (some ⟨g,0,none⟩)/\B<=g/\Sits w g 159 (aM a lv rv)/\kQ B w l lv/\kQ B w r rv
section
variable {B C : Nat} {w w' : World}
theorem kQ.tree:∀ {t:Tr} {v:Value},kQ B w t v->Tree w t v:=by
 intro t;induction t with
 | nil=>intro v h;exact h
 | node a l r ihl ihr=>intro v h;obtain ⟨g,lv,rv,hv,_,hg,hl,hr⟩:=h;exact ⟨g,lv,rv,hv,hg,ihl hl,ihr hr⟩
theorem kQ.keep (hk:∀ g cs,B<=g->Sits w g 159 cs->Sits w' g 159 cs) (hB:C<=B):∀ {t:Tr} {v:Value},kQ B w t v->kQ C w' t v:=by
 intro t;induction t with
 | nil=>intro v h;exact h
 | node a l r ihl ihr=>intro v h;obtain ⟨g,lv,rv,hv,hg0,hg,hl,hr⟩:=h;exact ⟨g,lv,rv,hv,Nat.le_trans hB hg0,hk _ _ hg0 hg,ihl hl,ihr hr⟩
theorem kQ.below {t:Tr} {v:Value} (h:kQ B w t v) (hb:Below w.heap.size w w') (hB:C<=B):kQ C w' t v:=h.keep (fun _ _ _ hs=>hs.below hb hs.lt) hB
theorem kQ.far {t:Tr} {v:Value} (h:kQ B w t v) {g:Nat} (hg:g<B) (i:Nat) (u:Value) (hB:C<=B):kQ C (w.setCell ⟨g,i,none⟩ u) t v :=
 h.keep (fun g' _ hg' hs=>hs.far (by show g' ≠ g;omega) u) hB
end
def gH (l:List It) (most k:Nat) (w:World) (e:Ending) (w':World):Prop :=
 ∃ p,e = .returned (.tuple #[p,.int .i64 ((nA l most k).2:Nat)])/\kQ w.heap.size w' (nA l most k).1 p/\Below w.heap.size w w'
theorem I7 (l:List It) (k m:Nat) (v:Value) (w:World) (hv:Row w v l) (hk:l[k]? = none):Calls Tryz.prog 65 #[v,.int .i64 (k:Nat),.int .i64 (m:Nat)] w (gH l m k w):=by
 have e:=EE m hk;obtain ⟨p,cap,rfl,hl⟩:=hv.len;have hk':l.length<=k:=List.getElem?_eq_none_iff.1 hk;have h:∀ e w',e = .returned (.tuple #[.pointer none,.int .i64 (k:Nat)])/\w=w' -> gH l m k w e w':=by
  rintro e' w' ⟨rfl,rfl⟩;exact ⟨_,by rw [e],by rw [e];exact rfl,Below.refl _ _⟩
 refine Calls.mono ?_ h;clear h e hv hk;have i1:(l.length:Int)<=(k:Int):=by omega
 go_enter Tryz.func65,Tryz.ntmps65;go_wp2_with fail
 go_ret2;exact ⟨rfl,rfl⟩
theorem PW (l:List It) (k:Nat) (v:Value) (w:World) (hv:Row w v l):Calls Tryz.prog 65 #[v,.int .i64 (k:Nat),.int .i64 (0:Nat)] w (gH l 0 k w):=by
 cases hk:l[k]? with
 | none=>exact I7 l k 0 v w hv hk
 | some a =>
  obtain ⟨p,cap,rfl,hl⟩:=hv.len;have hk':=(List.getElem?_eq_some_iff.1 hk).1;have h:∀ e w',e = .returned (.tuple #[.pointer none,.int .i64 (k:Nat)])/\w=w' -> gH l 0 k w e w':=by
   rintro e' w' ⟨rfl,rfl⟩;exact ⟨_,rfl,rfl,Below.refl _ _⟩
  refine Calls.mono ?_ h;show Calls _ _ #[_,_,.int .i64 0] _ _
  clear h hv hk;have i1:(k:Int)<(l.length:Int):=by omega
  go_enter Tryz.func65,Tryz.ntmps65;go_wp2_with fail
  go_ret2;exact ⟨rfl,rfl⟩
theorem yO {l:List It} {m k:Nat} {w W':World} {b:It} (H:nA l m k=(.node b .nil .nil,k+1)) {g':Nat} (hg:w.heap.size<=g') (hs:Sits W' g' 159 (aM b (.pointer none) (.pointer none))) (hb:Below w.heap.size w W') :
  gH l m k w (.returned (.tuple #[.pointer (some ⟨g',0,none⟩),.int .i64 ((k:Int)+1)])) W' :=
 ⟨_,by rw [H];rfl,by rw [H];exact ⟨g',_,_,rfl,hg,hs,rfl,rfl⟩,hb⟩
theorem Mq (l:List It) (k m:Nat) (v:Value) (w:World) (hv:Row w v l) (op n t i x:Nat) (hk:l[k]? = some ⟨0,op,n,t,i,x⟩):Calls Tryz.prog 65 #[v,.int .i64 (k:Nat),.int .i64 (m+1:Nat)] w (gH l (m+1) k w):=by
 have e:nA l (m+1) k=(.node ⟨0,0,n,0,0,0⟩ .nil .nil,k+1):=by
  rw [iZ m hk (by simp only;omega) (by simp only;omega)];simp [uO]
 obtain ⟨g,o,cap,rfl,hl,hkl,c0,c1,c2,c3,c4,c5⟩:=hv.item hk;simp only at c0 c1 c2 c3 c4 c5
 have i1:(k:Int)<(l.length:Int):=by omega
 have i2:(0:Int)<=k:=by omega
 have i3:((m:Int)+1 == 0)=false:=beq_eq_false_iff_ne.2 (by omega);have i4:(l.length:Int)<=1000000:=by omega
 have H:=hid e;clear e hv hk;go_enter Tryz.func65,Tryz.ntmps65;go_wp2_with fail
 go_ret2;exact yO H.out (Nat.le_succ _) ((Sits.made (by simp) _ _)) ((((Below.refl _ _).alloc (Nat.le_refl _) _).alloc (by simp) _))
theorem Mr (l:List It) (k m:Nat) (v:Value) (w:World) (hv:Row w v l) (op n t i x:Nat) (hk:l[k]? = some ⟨1,op,n,t,i,x⟩):Calls Tryz.prog 65 #[v,.int .i64 (k:Nat),.int .i64 (m+1:Nat)] w (gH l (m+1) k w):=by
 have e:nA l (m+1) k=(.node ⟨1,0,0,0,i,0⟩ .nil .nil,k+1):=by
  rw [iZ m hk (by simp only;omega) (by simp only;omega)];simp [uO]
 obtain ⟨g,o,cap,rfl,hl,hkl,c0,c1,c2,c3,c4,c5⟩:=hv.item hk;simp only at c0 c1 c2 c3 c4 c5
 have i1:(k:Int)<(l.length:Int):=by omega
 have i2:(0:Int)<=k:=by omega
 have i3:((m:Int)+1 == 0)=false:=beq_eq_false_iff_ne.2 (by omega);have i4:(l.length:Int)<=1000000:=by omega
 have H:=hid e;clear e hv hk;go_enter Tryz.func65,Tryz.ntmps65;go_wp2_with fail
 go_ret2;exact yO H.out (Nat.le_succ _) ((Sits.made (by simp) _ _)) ((((Below.refl _ _).alloc (Nat.le_refl _) _).alloc (by simp) _))
theorem Ms (l:List It) (k m:Nat) (v:Value) (w:World) (hv:Row w v l) (op n t i x:Nat) (hk:l[k]? = some ⟨2,op,n,t,i,x⟩):Calls Tryz.prog 65 #[v,.int .i64 (k:Nat),.int .i64 (m+1:Nat)] w (gH l (m+1) k w):=by
 have e:nA l (m+1) k=(.node ⟨2,0,0,t,i,0⟩ .nil .nil,k+1):=by
  rw [iZ m hk (by simp only;omega) (by simp only;omega)];simp [uO]
 obtain ⟨g,o,cap,rfl,hl,hkl,c0,c1,c2,c3,c4,c5⟩:=hv.item hk;simp only at c0 c1 c2 c3 c4 c5
 have i1:(k:Int)<(l.length:Int):=by omega
 have i2:(0:Int)<=k:=by omega
 have i3:((m:Int)+1 == 0)=false:=beq_eq_false_iff_ne.2 (by omega);have i4:(l.length:Int)<=1000000:=by omega
 have H:=hid e;clear e hv hk;go_enter Tryz.func65,Tryz.ntmps65;go_wp2_with fail
 go_region
 go_wp2_with fail
 go_ret2;exact yO H.out (Nat.le_succ _) (Sits.drew (Sits.made (by simp) _ _)) ((((Below.refl _ _).alloc (Nat.le_refl _) _).alloc (by simp) _).drew)
theorem Mt (l:List It) (k m:Nat) (v:Value) (w:World) (hv:Row w v l) (op n t i x:Nat) (hk:l[k]? = some ⟨3,op,n,t,i,x⟩):Calls Tryz.prog 65 #[v,.int .i64 (k:Nat),.int .i64 (m+1:Nat)] w (gH l (m+1) k w):=by
 have e:nA l (m+1) k=(.node ⟨3,0,0,0,0,x⟩ .nil .nil,k+1):=by
  rw [iZ m hk (by simp only;omega) (by simp only;omega)];simp [uO]
 obtain ⟨g,o,cap,rfl,hl,hkl,c0,c1,c2,c3,c4,c5⟩:=hv.item hk;simp only at c0 c1 c2 c3 c4 c5
 have i1:(k:Int)<(l.length:Int):=by omega
 have i2:(0:Int)<=k:=by omega
 have i3:((m:Int)+1 == 0)=false:=beq_eq_false_iff_ne.2 (by omega);have i4:(l.length:Int)<=1000000:=by omega
 have H:=hid e;clear e hv hk;go_enter Tryz.func65,Tryz.ntmps65;go_wp2_with fail
 go_ret2;exact yO H.out (Nat.le_succ _) ((Sits.made (by simp) _ _)) ((((Below.refl _ _).alloc (Nat.le_refl _) _).alloc (by simp) _))
theorem Mv (l:List It) (k m:Nat) (v:Value) (w:World) (hv:Row w v l) (q:Nat) (hq:5<q) (op n t i x:Nat) (hk:l[k]? = some ⟨q,op,n,t,i,x⟩):Calls Tryz.prog 65 #[v,.int .i64 (k:Nat),.int .i64 (m+1:Nat)] w (gH l (m+1) k w):=by
 have e:nA l (m+1) k=(.node ⟨q,0,0,0,0,0⟩ .nil .nil,k+1):=by
  rw [iZ m hk (by simp only;omega) (by simp only;omega)];simp [uO,show ¬ q=0 by omega,show ¬ q=1 by omega,show ¬ q=2 by omega,show ¬ q=3 by omega]
 obtain ⟨g,o,cap,rfl,hl,hkl,c0,c1,c2,c3,c4,c5⟩:=hv.item hk;simp only at c0 c1 c2 c3 c4 c5
 have i1:(k:Int)<(l.length:Int):=by omega
 have i2:(0:Int)<=k:=by omega
 have i3:((m:Int)+1 == 0)=false:=beq_eq_false_iff_ne.2 (by omega);have i4:(l.length:Int)<=1000000:=by omega
 have H:=hid e;have e0:((q:Int) == 0)=false:=beq_eq_false_iff_ne.2 (by omega);have e1:((q:Int) == 1)=false:=beq_eq_false_iff_ne.2 (by omega);have e2:((q:Int) == 2)=false:=beq_eq_false_iff_ne.2 (by omega);have e3:((q:Int) == 3)=false:=beq_eq_false_iff_ne.2 (by omega);have e4:((q:Int) == 4)=false:=beq_eq_false_iff_ne.2 (by omega);have e5:((q:Int) == 5)=false:=beq_eq_false_iff_ne.2 (by omega);clear e hv hk hq;go_enter Tryz.func65,Tryz.ntmps65;go_wp2_with fail
 go_ret2;exact yO H.out (Nat.le_succ _) ((Sits.made (by simp) _ _)) ((((Below.refl _ _).alloc (Nat.le_refl _) _).alloc (by simp) _))
def xG (w:World) (a b:It):World:=(w.alloc (.cells #[.int .u8 a.kind,.int .u8 a.op,.int .u64 a.n,.int .u8 a.t,.int .u8 a.i,.int .u8 a.x] 166)).alloc (.cells (aM b (.pointer none) (.pointer none)) 159)
theorem yP (w:World) (a b:It):Sits (xG w a b) (w.heap.size+1) 159 (aM b (.pointer none) (.pointer none)):=Sits.made (by simp) _ _
theorem Bj (w:World) (a b:It):Below w.heap.size w (xG w a b):=((Below.refl _ _).alloc (Nat.le_refl _) _).alloc (by simp) _
theorem yQ (w:World) (a b:It):(xG w a b).heap.size=w.heap.size+2:=by simp [xG]
theorem PX {l:List It} {m k:Nat} {w w1:World} {b:It} {t:Tr} {j:Nat} {p:Value} (H:nA l m k=(.node b t .nil,j)) (hS:Sits w1 (w.heap.size+1) 159 (aM b (.pointer none) (.pointer none)))
  (hT:kQ (w.heap.size+2) w1 t p) (hb:Below w.heap.size w w1) :
  gH l m k w (.returned (.tuple #[.pointer (some ⟨w.heap.size+1,0,none⟩),.int .i64 (j:Nat)])) (w1.setCell ⟨w.heap.size+1,6,none⟩ p) :=
 ⟨_,by rw [H],by rw [H];exact ⟨_,_,_,rfl,by omega,hS.put 6 p,hT.far (by omega) 6 p (by omega),rfl⟩,hb.setCell (by simp) _⟩
theorem PY {l:List It} {m k:Nat} {w w1 w2:World} {b:It} {t t':Tr} {j:Nat} {p q:Value} (H:nA l m k=(.node b t t',j)) (hS:Sits w1 (w.heap.size+1) 159 (aM b p (.pointer none)))
  (hT:kQ (w.heap.size+2) w1 t p) (hT':kQ w1.heap.size w2 t' q) (hb:Below w.heap.size w w1) (hs:w.heap.size+2<=w1.heap.size) (hb2:Below w1.heap.size w1 w2) :
  gH l m k w (.returned (.tuple #[.pointer (some ⟨w.heap.size+1,0,none⟩),.int .i64 (j:Nat)])) (w2.setCell ⟨w.heap.size+1,7,none⟩ q) :=
 ⟨_,by rw [H],by rw [H];exact ⟨_,_,_,rfl,by omega,(hS.below hb2 (by omega)).put 7 q,(hT.below hb2 (Nat.le_refl _)).far (by omega) 7 q (by omega),hT'.far (by omega) 7 q (by omega)⟩,(hb.trans (hb2.mono (by omega))).setCell (by simp) _⟩
theorem TB (l:List It) (k m:Nat) (hm:m<1000) (v:Value) (w:World) (hv:Row w v l) (op n t i x:Nat) (hk:l[k]? = some ⟨4,op,n,t,i,x⟩)
  (ih:Hid (∀ (k:Nat) (w:World),Row w v l->Calls Tryz.prog 65 #[v,.int .i64 (k:Nat),.int .i64 (m:Nat)] w (gH l m k w))) :
  Calls Tryz.prog 65 #[v,.int .i64 (k:Nat),.int .i64 (m+1:Nat)] w (gH l (m+1) k w):=by
 have e:=CJ m hk rfl;have hih:=hid (fun W (hb:Below w.heap.size w W)=>ih.out (k+1) W (hv.below hb));obtain ⟨g,o,cap,rfl,hl,hkl,c0,c1,c2,c3,c4,c5⟩:=hv.item hk;simp only at c0 c1 c2 c3 c4 c5
 have i1:(k:Int)<(l.length:Int):=by omega
 have i2:(0:Int)<=k:=by omega
 have i3:((m:Int)+1 == 0)=false:=beq_eq_false_iff_ne.2 (by omega);have i4:(l.length:Int)<=1000000:=by omega
 have i5:(m:Int)<1000:=by omega
 have H:=hid e;clear e hv hk ih;go_enter Tryz.func65,Tryz.ntmps65;go_wp2_with fail
 change Calls _ _ _ (xG w ⟨4,op,n,t,i,x⟩ ⟨4,op,0,0,0,0⟩) _;have hS:=yP w ⟨4,op,n,t,i,x⟩ ⟨4,op,0,0,0,0⟩;have hz:=yQ w ⟨4,op,n,t,i,x⟩ ⟨4,op,0,0,0,0⟩;have hlow:=Bj w ⟨4,op,n,t,i,x⟩ ⟨4,op,0,0,0,0⟩;generalize xG w ⟨4,op,n,t,i,x⟩ ⟨4,op,0,0,0,0⟩=W at hS hz hlow ⊢;refine (hih.out W hlow).mono ?_;rintro e w1 ⟨p,rfl,hT,hb⟩;obtain ⟨pp,rfl,_⟩:=hT.tree.ptr;have S1:=hid (hS.below hb hS.lt);have HL:=hid (hlow.trans (hb.mono hlow.size));have q6:=S1.out.c6;have f6:=S1.out.free 6;have hlt:=S1.out.lt;rw [hz] at hT;have HT:=hid hT;clear hT hb hlow hS hz;generalize (nA l m (k+1)).2=j at H ⊢;generalize (nA l m (k+1)).1=t at H HT;go_wp2_with fail
 go_ret2;exact PX H.out S1.out HT.out HL.out
theorem TC (l:List It) (k m:Nat) (hm:m<1000) (v:Value) (w:World) (hv:Row w v l) (op n t i x:Nat) (hk:l[k]? = some ⟨5,op,n,t,i,x⟩)
  (ih:Hid (∀ (k:Nat) (w:World),Row w v l->Calls Tryz.prog 65 #[v,.int .i64 (k:Nat),.int .i64 (m:Nat)] w (gH l m k w))) :
  Calls Tryz.prog 65 #[v,.int .i64 (k:Nat),.int .i64 (m+1:Nat)] w (gH l (m+1) k w):=by
 have e:=CK m hk rfl;have hih:=hid (fun W (hb:Below w.heap.size w W)=>ih.out (k+1) W (hv.below hb));have Vz:=hid (fun W (hb:Below w.heap.size w W)=>ih.out (nA l m (k+1)).2 W (hv.below hb));have hj:=Tn l m (k+1);obtain ⟨g,o,cap,rfl,hl,hkl,c0,c1,c2,c3,c4,c5⟩:=hv.item hk;simp only at c0 c1 c2 c3 c4 c5
 have i1:(k:Int)<(l.length:Int):=by omega
 have i2:(0:Int)<=k:=by omega
 have i3:((m:Int)+1 == 0)=false:=beq_eq_false_iff_ne.2 (by omega);have i4:(l.length:Int)<=1000000:=by omega
 have i5:(m:Int)<1000:=by omega
 have H:=hid e;clear e hv hk ih;go_enter Tryz.func65,Tryz.ntmps65;go_wp2_with fail
 change Calls _ _ _ (xG w ⟨5,op,n,t,i,x⟩ ⟨5,op,0,0,0,0⟩) _;have hS:=yP w ⟨5,op,n,t,i,x⟩ ⟨5,op,0,0,0,0⟩;have hz:=yQ w ⟨5,op,n,t,i,x⟩ ⟨5,op,0,0,0,0⟩;have hlow:=Bj w ⟨5,op,n,t,i,x⟩ ⟨5,op,0,0,0,0⟩;generalize xG w ⟨5,op,n,t,i,x⟩ ⟨5,op,0,0,0,0⟩=W at hS hz hlow ⊢;refine (hih.out W hlow).mono ?_;rintro e w1 ⟨p,rfl,hT,hb⟩;obtain ⟨pp,rfl,_⟩:=hT.tree.ptr;have S1:=hid (hS.below hb hS.lt);have HL:=hid (hlow.trans (hb.mono hlow.size));have q6:=S1.out.c6;have f6:=S1.out.free 6;have hlt:=S1.out.lt;have hz1:w.heap.size+2<=w1.heap.size:=by have:=hb.size;omega
 rw [hz] at hT;have HT:=hid hT;clear hT hb hlow hS hz;generalize (nA l m (k+1)).2=j at H hj Vz ⊢;generalize (nA l m (k+1)).1=t1 at H HT;have j0:(0:Int)<=j:=by omega
 go_wp2_with fail
 have S2:=hid (show Sits (w1.setCell ⟨w.heap.size+1,6,none⟩ (.pointer pp)) (w.heap.size+1) 159 (aM ⟨5,op,0,0,0,0⟩ (.pointer pp) (.pointer none)) from S1.out.put 6 _);have HL2:=hid (HL.out.setCell (p:=⟨w.heap.size+1,6,none⟩) (by simp) (.pointer pp));have HT2:=hid (HT.out.far (g:=w.heap.size+1) (by omega) 6 (.pointer pp) (Nat.le_refl _));have hz2:(w1.setCell ⟨w.heap.size+1,6,none⟩ (.pointer pp)).heap.size=w1.heap.size:=by simp [World.setCell]
 clear q6 f6 hlt;generalize w1.setCell ⟨w.heap.size+1,6,none⟩ (.pointer pp)=W2 at S2 HL2 HT2 hz2 ⊢;clear S1 HL HT;refine (Vz.out W2 HL2.out).mono ?_;rintro e w3 ⟨p3,rfl,hT,hb⟩;obtain ⟨pq,rfl,_⟩:=hT.tree.ptr;have S3:=hid (S2.out.below hb S2.out.lt);have q7:=S3.out.c7;have f7:=S3.out.free 7;have hlt:=S3.out.lt;have HT3:=hid hT;have HB:=hid hb;have hz3:w.heap.size+2<=W2.heap.size:=by omega
 clear hT hb hz2;generalize (nA l m j).2=j2 at H ⊢;generalize (nA l m j).1=t2 at H HT3;go_wp2_with fail
 go_ret2;exact PY H.out S2.out HT2.out HT3.out HL2.out hz3 HB.out
theorem pI (l:List It):∀ (m k:Nat) (v:Value) (w:World),m<1000->Row w v l->Calls Tryz.prog 65 #[v,.int .i64 (k:Nat),.int .i64 (m:Nat)] w (gH l m k w):=by
 intro m;induction m with
 | zero=>intro k v w _ hv;exact PW l k v w hv
 | succ m ih =>
  intro k v w hm hv;cases hk:l[k]? with
  | none=>exact I7 l k (m+1) v w hv hk
  | some a =>
   obtain ⟨q,op,n,t,i,x⟩:=a;by_cases h0:q=0
   ·subst h0;exact Mq l k m v w hv op n t i x hk
   by_cases h1:q=1
   ·subst h1;exact Mr l k m v w hv op n t i x hk
   by_cases h2:q=2
   ·subst h2;exact Ms l k m v w hv op n t i x hk
   by_cases h3:q=3
   ·subst h3;exact Mt l k m v w hv op n t i x hk
   by_cases h4:q=4
   ·subst h4;exact TB l k m (by omega) v w hv op n t i x hk (hid fun k w h=>ih k v w (by omega) h)
   by_cases h5:q=5
   ·subst h5;exact TC l k m (by omega) v w hv op n t i x hk (hid fun k w h=>ih k v w (by omega) h)
   ·exact Mv l k m v w hv q (by omega) op n t i x hk
def nY:Option (Nat × Nat)->Value
 | some p => .tuple #[.int .i64 (p.1:Nat),.int .i64 (p.2:Nat)]
 | none => .tuple #[.int .i64 (-1),.int .i64 0]
theorem EM {k k':IntKind} {a b a' b':Int} (h1:a=a') (h2:b=b'):Ending.returned (.tuple #[.int k a,.int k' b]) = .returned (.tuple #[.int k a',.int k' b']):=by rw [h1,h2]
theorem YQ (d:Nat):max (0:Int) (d:Int)=(d:Int):=by omega
section
variable (l : List It) (k f : Nat) (v : Value) (w : World)
theorem I8 (hv:Row w v l) (hk:l[k]? = none):Calls Tryz.prog 57 #[v,.int .i64 (k:Nat)] w fun e w'=>Made (.returned (nY none)) w e w':=by
 obtain ⟨p,cap,rfl,hl⟩:=hv.len;have hk':l.length<=k:=List.getElem?_eq_none_iff.1 hk;clear hv hk;have i1:(l.length:Int)<=(k:Int):=by omega
 show Calls _ _ _ _ fun e w'=>Made (.returned (.tuple #[.int .i64 (-1),.int .i64 0])) w e w'
 go_enter Tryz.func57,Tryz.ntmps57;go_wp2_with fail
 go_ret2;exact ⟨rfl,Below.refl _ _⟩
theorem PZ (hv:Row w v l) (q op n t i x:Nat) (hk:l[k]? = some ⟨q,op,n,t,i,x⟩) (hp:bf ⟨q,op,n,t,i,x⟩=none):Calls Tryz.prog 57 #[v,.int .i64 (k:Nat)] w fun e w'=>Made (.returned (nY none)) w e w':=by
 obtain ⟨g,o,cap,rfl,hl,hkl,c0,c1,c2,c3,c4,c5⟩:=hv.item hk;simp only at c0 c1 c2 c3 c4 c5
 have i1:(k:Int)<(l.length:Int):=by omega
 have i2:(0:Int)<=k:=by omega
 have HP:Hid (∀ W,Calls Tryz.prog 90 #[.agg #[.int .u8 q,.int .u8 op,.int .u64 n,.int .u8 t,.int .u8 i,.int .u8 x]] W fun e' w'=>Made (.returned (.int .i64 (-1))) W e' w'):=hid fun W=>by
  have:=rW ⟨q,op,n,t,i,x⟩ W;unfold kY at this;rw [hp] at this;exact this
 clear hv hk hp;show Calls _ _ _ _ fun e w'=>Made (.returned (.tuple #[.int .i64 (-1),.int .i64 0])) w e w'
 go_enter Tryz.func57,Tryz.ntmps57;go_wp2_with fail
 refine (HP.out _).mono ?_;rintro e w1 ⟨rfl,hb⟩;have HB:=hid hb;clear hb;go_wp2_with fail
 go_ret2;exact ⟨rfl,HB.out⟩
theorem Mw (hv:Row w v l) (q op n t i x:Nat) (hk:l[k]? = some ⟨q,op,n,t,i,x⟩) (hp:bf ⟨q,op,n,t,i,x⟩=some 0):Calls Tryz.prog 57 #[v,.int .i64 (k:Nat)] w fun e w'=>Made (.returned (nY (some (k+1,1)))) w e w':=by
 have HI:=hid (fun W (hb:Below w.heap.size w W) (g o:Nat) (h:jS w g (o+k * 6) ⟨q,op,n,t,i,x⟩)=>h.below hb);obtain ⟨g,o,cap,rfl,hl,hkl,hc⟩:=hv.item hk;have HC:=hid hc;obtain ⟨c0,c1,c2,c3,c4,c5⟩:=hc;simp only at c0 c1 c2 c3 c4 c5
 have i1:(k:Int)<(l.length:Int):=by omega
 have i2:(0:Int)<=k:=by omega
 have i3:(l.length:Int)<=1000000:=by omega
 have HP:Hid (∀ W,Calls Tryz.prog 90 #[.agg #[.int .u8 q,.int .u8 op,.int .u64 n,.int .u8 t,.int .u8 i,.int .u8 x]] W fun e' w'=>Made (.returned (.int .i64 0)) W e' w'):=hid fun W=>by
  have:=rW ⟨q,op,n,t,i,x⟩ W;unfold kY at this;rw [hp] at this;exact this
 clear hv hk hp;show Calls _ _ _ _ fun e w'=>Made (.returned (.tuple #[.int .i64 ((k:Int)+1),.int .i64 1])) w e w'
 go_enter Tryz.func57,Tryz.ntmps57;go_wp2_with fail
 refine (HP.out _).mono ?_;rintro e w1 ⟨rfl,hb⟩;obtain ⟨d0,d1,d2,d3,d4,d5⟩:=HI.out _ hb _ _ HC.out;simp only at d0 d1 d2 d3 d4 d5
 have HB:=hid hb;clear hb c0 c1 c2 c3 c4 c5;go_wp2_with fail
 refine (HP.out _).mono ?_;rintro e w2 ⟨rfl,hb⟩;have HB2:=hid (HB.out.trans (hb.mono HB.out.size));clear hb;clear d0 d1 d2 d3 d4 d5;go_wp2_with fail
 refine wp_loop_rounds 1 ?_;rw [rounds_succ];go_wp2_with fail
 go_ret2;exact ⟨rfl,HB2.out⟩
theorem P5 (hv:Row w v l) (q op n t i x:Nat) (hk:l[k]? = some ⟨q,op,n,t,i,x⟩) (hp:bf ⟨q,op,n,t,i,x⟩=some 1) (r:Option (Nat × Nat)) (hr:∀ p,r=some p->p.1<=l.length/\p.2<=l.length)
  (ih:∀ W,Below w.heap.size w W->Calls Tryz.prog 57 #[v,.int .i64 ((k:Int)+1)] W fun e w'=>Made (.returned (nY r)) W e w') :
  Calls Tryz.prog 57 #[v,.int .i64 (k:Nat)] w fun e w'=>Made (.returned (nY (r.map fun p=>(p.1,p.2+1)))) w e w':=by
 have HI:=hid (fun W (hb:Below w.heap.size w W) (g o:Nat) (h:jS w g (o+k * 6) ⟨q,op,n,t,i,x⟩)=>h.below hb);obtain ⟨g,o,cap,rfl,hl,hkl,hc⟩:=hv.item hk;have HC:=hid hc;have IH:=hid ih;obtain ⟨c0,c1,c2,c3,c4,c5⟩:=hc;simp only at c0 c1 c2 c3 c4 c5
 have i1:(k:Int)<(l.length:Int):=by omega
 have i2:(0:Int)<=k:=by omega
 have i3:(l.length:Int)<=1000000:=by omega
 have HP:Hid (∀ W,Calls Tryz.prog 90 #[.agg #[.int .u8 q,.int .u8 op,.int .u64 n,.int .u8 t,.int .u8 i,.int .u8 x]] W fun e' w'=>Made (.returned (.int .i64 1)) W e' w'):=hid fun W=>by
  have:=rW ⟨q,op,n,t,i,x⟩ W;unfold kY at this;rw [hp] at this;exact this
 clear hv hk hp ih;generalize hR:nY (r.map fun p=>(p.1,p.2+1))=R;have HR:=hid hR;clear hR;go_enter Tryz.func57,Tryz.ntmps57;go_wp2_with fail
 refine (HP.out _).mono ?_;rintro e w1 ⟨rfl,hb⟩;obtain ⟨d0,d1,d2,d3,d4,d5⟩:=HI.out _ hb _ _ HC.out;simp only at d0 d1 d2 d3 d4 d5
 have HB:=hid hb;clear hb c0 c1 c2 c3 c4 c5;go_wp2_with fail
 refine (HP.out _).mono ?_;rintro e w2 ⟨rfl,hb⟩;have HB2:=hid (HB.out.trans (hb.mono HB.out.size));clear hb;clear d0 d1 d2 d3 d4 d5;go_wp2_with fail
 refine wp_loop_rounds 2 ?_;rw [rounds_succ];go_wp2_with fail
 refine (IH.out _ HB2.out).mono ?_;rintro e w3 ⟨rfl,hb⟩;have HB3:=hid (HB2.out.trans (hb.mono HB2.out.size));clear hb;cases r with
 | none =>
  simp only [nY]
  go_wp2_with fail
  go_ret2;exact ⟨by rw [<- HR.out];rfl,HB3.out⟩
 | some p =>
  obtain ⟨m,d⟩:=p;have h0:=hr _ rfl;simp only at h0
  have j1:(0:Int)<=m:=by omega
  have j2:(d:Int)<=1000000:=by omega
  have HM:=hid (YQ d);clear hr;simp only [nY]
  go_wp2_with fail
  rw [rounds_succ];go_wp2_with fail
  go_ret2;exact ⟨by rw [<- HR.out];exact EM rfl (by simp only;omega),HB3.out⟩
theorem P6 (hv:Row w v l) (q op n t i x:Nat) (hk:l[k]? = some ⟨q,op,n,t,i,x⟩) (hp:bf ⟨q,op,n,t,i,x⟩=some 2) (r:Option (Nat × Nat)) (hr:∀ p,r=some p->p.1<=l.length/\p.2<=l.length)
  (ih:∀ W,Below w.heap.size w W->Calls Tryz.prog 57 #[v,.int .i64 ((k:Int)+1)] W fun e w'=>Made (.returned (nY r)) W e w')
  (r2:Nat × Nat->Option (Nat × Nat)) (hr2:∀ p q,r2 p=some q->q.1<=l.length/\q.2<=l.length)
  (ih2:∀ p,r=some p->∀ W,Below w.heap.size w W->Calls Tryz.prog 57 #[v,.int .i64 (p.1:Nat)] W fun e w'=>Made (.returned (nY (r2 p))) W e w') :
  Calls Tryz.prog 57 #[v,.int .i64 (k:Nat)] w fun e w'=>Made (.returned (nY (r.bind fun p=>(r2 p).map fun q=>(q.1,max p.2 q.2+1)))) w e w':=by
 have HI:=hid (fun W (hb:Below w.heap.size w W) (g o:Nat) (h:jS w g (o+k * 6) ⟨q,op,n,t,i,x⟩)=>h.below hb);obtain ⟨g,o,cap,rfl,hl,hkl,hc⟩:=hv.item hk;have HC:=hid hc;have IH:=hid ih;have XR:=hid ih2;have HR2:=hid hr2;obtain ⟨c0,c1,c2,c3,c4,c5⟩:=hc;simp only at c0 c1 c2 c3 c4 c5
 have i1:(k:Int)<(l.length:Int):=by omega
 have i2:(0:Int)<=k:=by omega
 have i3:(l.length:Int)<=1000000:=by omega
 have HP:Hid (∀ W,Calls Tryz.prog 90 #[.agg #[.int .u8 q,.int .u8 op,.int .u64 n,.int .u8 t,.int .u8 i,.int .u8 x]] W fun e' w'=>Made (.returned (.int .i64 2)) W e' w'):=hid fun W=>by
  have:=rW ⟨q,op,n,t,i,x⟩ W;unfold kY at this;rw [hp] at this;exact this
 clear hv hk hp ih ih2 hr2;generalize hR:nY (r.bind fun p=>(r2 p).map fun q=>(q.1,max p.2 q.2+1))=R;have HR:=hid hR;clear hR;go_enter Tryz.func57,Tryz.ntmps57;go_wp2_with fail
 refine (HP.out _).mono ?_;rintro e w1 ⟨rfl,hb⟩;obtain ⟨d0,d1,d2,d3,d4,d5⟩:=HI.out _ hb _ _ HC.out;simp only at d0 d1 d2 d3 d4 d5
 have HB:=hid hb;clear hb c0 c1 c2 c3 c4 c5;go_wp2_with fail
 refine (HP.out _).mono ?_;rintro e w2 ⟨rfl,hb⟩;have HB2:=hid (HB.out.trans (hb.mono HB.out.size));clear hb;clear d0 d1 d2 d3 d4 d5;go_wp2_with fail
 refine wp_loop_rounds 3 ?_;rw [rounds_succ];go_wp2_with fail
 refine (IH.out _ HB2.out).mono ?_;rintro e w3 ⟨rfl,hb⟩;have HB3:=hid (HB2.out.trans (hb.mono HB2.out.size));clear hb;cases r with
 | none =>
  simp only [nY]
  go_wp2_with fail
  go_ret2;exact ⟨by rw [<- HR.out];rfl,HB3.out⟩
 | some p =>
  obtain ⟨m,d⟩:=p;have h0:=hr _ rfl;have YR:=hid (XR.out _ rfl);have h3:=hid (HR2.out (m,d));simp only at h0
  have j1:(0:Int)<=m:=by omega
  have j2:(d:Int)<=1000000:=by omega
  clear hr XR HR2 IH;have HR2:Hid (nY ((r2 (m,d)).map fun q=>(q.1,max d q.2+1))=R):=HR;clear HR;simp only [nY]
  generalize r2 (m,d)=s at YR h3 HR2;go_wp2_with fail
  rw [rounds_succ];go_wp2_with fail
  refine (YR.out _ HB3.out).mono ?_;rintro e w4 ⟨rfl,hb⟩;have sZ:=hid (HB3.out.trans (hb.mono HB3.out.size));clear hb;cases s with
  | none =>
   simp only [nY]
   go_wp2_with fail
   go_ret2;exact ⟨by rw [<- HR2.out];rfl,sZ.out⟩
  | some p =>
   obtain ⟨m2,d2⟩:=p;have h4:=h3.out _ rfl;simp only at h4
   have j3:(0:Int)<=m2:=by omega
   have j4:(d2:Int)<=1000000:=by omega
   clear h3 YR;simp only [nY]
   go_wp2_with fail
   rw [rounds_succ];go_wp2_with fail
   go_ret2;exact ⟨by rw [<- HR2.out];exact EM rfl (by simp only;omega),sZ.out⟩
end
theorem I9 (l:List It):∀ (f k:Nat) (v:Value) (w:World),Row w v l->l.length<k+f->Calls Tryz.prog 57 #[v,.int .i64 (k:Nat)] w fun e w'=>Made (.returned (nY (dS l f k))) w e w':=by
 intro f;induction f with
 | zero=>intro k v w hv hf;exact I8 l k v w hv (List.getElem?_eq_none (by omega))
 | succ f ih =>
  intro k v w hv hf;cases hk:l[k]? with
  | none =>
   have:dS l (f+1) k=none:=by simp [dS,hk]
   rw [this];exact I8 l k v w hv hk
  | some a =>
   obtain ⟨q,op,n,t,i,x⟩:=a;have hkl:=(List.getElem?_eq_some_iff.1 hk).1;have hl:∀ k p,dS l f k=some p->p.1<=l.length/\p.2<=l.length:=fun k p h=>⟨(CL (m:=p.1) (d:=p.2) h).2.1,(CL (m:=p.1) (d:=p.2) h).2.2⟩
   cases hp:bf ⟨q,op,n,t,i,x⟩ with
   | none =>
    have:dS l (f+1) k=none:=by simp [dS,hk,hp]
    rw [this];exact PZ l k v w hv q op n t i x hk hp
   | some c =>
    have hc:c=0 \/ c=1 \/ c=2:=by
     unfold bf at hp
     repeat' split at hp
     all_goals first | (injection hp with hp;omega) | cases hp
    rcases hc with rfl | rfl | rfl
    ·have:dS l (f+1) k=some (k+1,1):=by simp [dS,hk,hp]
     rw [this];exact Mw l k v w hv q op n t i x hk hp
    ·have:dS l (f+1) k=(dS l f (k+1)).map fun p=>(p.1,p.2+1):=by simp [dS,hk,hp]
     rw [this];exact P5 l k v w hv q op n t i x hk hp _ (hl _) fun W hb=>ih (k+1) v W (hv.below hb) (by omega)
    ·have:dS l (f+1) k=(dS l f (k+1)).bind fun p=>(dS l f p.1).map fun q=>(q.1,max p.2 q.2+1):=by simp [dS,hk,hp]
     rw [this];refine P6 l k v w hv q op n t i x hk hp _ (hl _) (fun W hb=>ih (k+1) v W (hv.below hb) (by omega)) (fun p=>dS l f p.1) (fun p q h=>hl _ q h) fun p hp' W hb=>?_
     have:=(CL (m:=p.1) (d:=p.2) hp').1;exact ih p.1 v W (hv.below hb) (by omega)
def qU (l:List It):Option (Nat × Nat):=dS l (l.length+1) 0
def EN (r:Option (Nat × Nat)):Value:=match r with
 | some p => .tuple #[.int .i64 (p.1:Nat),.bool (decide (p.2<=12))]
 | none => .tuple #[.int .i64 (-1),.bool false]
theorem Mx (l:List It) (v:Value) (w:World) (hv:Row w v l):Calls Tryz.prog 64 #[v] w fun e w'=>Made (.returned (EN (qU l))) w e w':=by
 have H:=hid (I9 l (l.length+1) 0 v w hv (by omega));obtain ⟨p,cap,rfl,_⟩:=hv.len;clear hv;change Hid (Calls _ _ #[_,.int .i64 0] _ fun e w'=>Made (.returned (nY (qU l))) w e w') at H;generalize qU l=r at H ⊢;cases r with
 | none =>
  go_enter Tryz.func64,Tryz.ntmps64;go_wp2_with fail
  refine H.out.mono ?_;rintro e w1 ⟨rfl,hb⟩;have HB:=hid hb;clear hb;simp only [nY]
  go_wp2_with fail
  go_ret2;exact ⟨rfl,HB.out⟩
 | some p =>
  obtain ⟨m,d⟩:=p;have j1:(0:Int)<=m:=by omega
  go_enter Tryz.func64,Tryz.ntmps64;go_wp2_with fail
  refine H.out.mono ?_;rintro e w1 ⟨rfl,hb⟩;have HB:=hid hb;clear hb;simp only [nY]
  go_wp2_with fail
  go_ret2;exact ⟨by congr 4;simp;omega,HB.out⟩
theorem uP (a b:Nat):((a:Int) == (b:Int))=decide (a=b):=by
 by_cases h:a=b
 ·subst h;simp
 ·rw [beq_eq_false_iff_ne.2 (by omega)];simp [h]
def Enters (F:FuncId):Prop:=∀ (args:Array Value) (W:World),(callFunc F args).run Tryz.prog W = .ok (.enter F args) W
def Done (I:World->Prop) (w:World) (e:Ending) (w':World):Prop:=e = .returned (.tuple #[])/\I w' /\ Stable 159 w w'
structure Ja {σ:Type} (F1 F2:FuncId) (f1 c1 f2 c2:Array Value) (R:Ex->σ->σ) (I:σ->World->Prop) (B:σ->Ex->Prop):Prop where
 e1:Enters F1
 e2:Enters F2
 leaf:∀ (e:Ex) (s:σ) (w:World),e.vZ=true->e.ok->B s e->I s w->Calls Tryz.prog F1 (f1.push (lK e) ++ c1) w (Done (I (R e s)) w)
 one:∀ (op:Nat) (a:Ex) (s:σ) (w:World),(op=13 \/ op=14)->a.ok->B s (.one op a)->I (R a s) w->Calls Tryz.prog F2 (f2.push (.int .u8 (op:Nat)) ++ c2) w (Done (I (R (.one op a) s)) w)
 two:∀ (op:Nat) (a b:Ex) (s:σ) (w:World),1<=op->op<=12->a.ok->b.ok->B s (.two op a b)->I (R b (R a s)) w->Calls Tryz.prog F2 (f2.push (.int .u8 (op:Nat)) ++ c2) w (Done (I (R (.two op a b) s)) w)
 RV:∀ (op:Nat) (a:Ex) (s:σ),B s (.one op a)->B s a
 RX:∀ (op:Nat) (a b:Ex) (s:σ),B s (.two op a b)->B s a/\B (R a s) b
theorem wm {e:Ex} (he:e.vZ=true):bA e = .node (jQ e) .nil .nil/\(jQ e).kind<4:=by
 cases e with
 | one op a=>cases he
 | two op a b=>cases he
 | _=>exact ⟨rfl,by simp [jQ]⟩
section
variable {σ : Type} {F1 F2 : FuncId} {f1 c1 f2 c2 : Array Value} {R : Ex → σ → σ} {I : σ → World → Prop} {B : σ → Ex → Prop}
theorem rX (T:Ja F1 F2 f1 c1 f2 c2 R I B) (e:Ex) (he:e.vZ=true) (ho:e.ok) (s:σ) (hB:B s e) (v:Value) (w:World) (hT:Tree w (bA e) v) (hI:I s w) :
  Calls Tryz.prog 107 #[v,.func (.func F1) f1 c1,.func (.func F2) f2 c2] w (Done (I (R e s)) w):=by
 obtain ⟨ht,hk⟩:=wm he;rw [ht] at hT;obtain ⟨g,lv,rv,rfl,hg,rfl,rfl⟩:=hT;have H:=hid (T.leaf e s w he ho hB hI);unfold lK aM at H;have e1:=T.e1;unfold Enters at e1;generalize I (R e s)=J at H ⊢;generalize jQ e=it at *;obtain ⟨q,op,n,t,i,x⟩:=it;obtain ⟨q0,q1,q2,q3,q4,q5,q6,q7⟩:=Sits.tY hg;simp only at q0 q1 q2 q3 q4 q5 hk
 have hlt:=hg.lt;have i4:((q:Int) == 4)=false:=beq_eq_false_iff_ne.2 (by omega);have i5:((q:Int) == 5)=false:=beq_eq_false_iff_ne.2 (by omega);clear hg ht hI hB T ho he hk;go_enter Tryz.func107,Tryz.ntmps107;go_wp2_with fail
 refine H.out.mono ?_;rintro e w1 ⟨rfl,hj,hs⟩;have HJ:=hid hj;have HS:=hid hs;clear hj hs;go_wp2_with fail
 go_end0
 exact ⟨rfl,HJ.out,HS.out⟩
theorem MB (e2:Enters F2) (op:Nat) (t:Tr) (v:Value) (w:World) (hT:Tree w (.node ⟨4,op,0,0,0,0⟩ t .nil) v) (J J2:World->Prop)
  (ih:∀ p,Tree w t p->Calls Tryz.prog 107 #[p,.func (.func F1) f1 c1,.func (.func F2) f2 c2] w (Done J w))
  (hop:∀ w1,J w1->Calls Tryz.prog F2 (f2.push (.int .u8 (op:Nat)) ++ c2) w1 (Done J2 w1)) :
  Calls Tryz.prog 107 #[v,.func (.func F1) f1 c1,.func (.func F2) f2 c2] w (Done J2 w):=by
 obtain ⟨g,lv,rv,rfl,hg,hl,rfl⟩:=hT;obtain ⟨pl,rfl,_⟩:=hl.ptr;have IH:=hid (ih _ hl);have HO:=hid hop;have HG:=hid hg;unfold Enters at e2;obtain ⟨q0,q1,q2,q3,q4,q5,q6,q7⟩:=Sits.tY hg;simp only at q0 q1 q2 q3 q4 q5
 have hlt:=hg.lt;clear hg hl ih hop;go_enter Tryz.func107,Tryz.ntmps107;go_wp2_with fail
 refine IH.out.mono ?_;rintro e w1 ⟨rfl,hj,hs⟩;have S1:=hs _ _ HG.out;have r1:=S1.c1;have hlt1:=S1.lt;have HJ:=hid hj;have HS:=hid hs;clear hj hs S1 q0 q1 q2 q3 q4 q5 q6 q7 hlt;go_wp2_with fail
 refine (HO.out _ HJ.out).mono ?_;rintro e w2 ⟨rfl,hj,hs⟩;have HJ2:=hid hj;have HS2:=hid (HS.out.trans hs);clear hj hs;go_wp2_with fail
 go_end0
 exact ⟨rfl,HJ2.out,HS2.out⟩
theorem MC (e2:Enters F2) (op:Nat) (t u:Tr) (v:Value) (w:World) (hT:Tree w (.node ⟨5,op,0,0,0,0⟩ t u) v) (J J1 J2:World->Prop)
  (ih:∀ p,Tree w t p->Calls Tryz.prog 107 #[p,.func (.func F1) f1 c1,.func (.func F2) f2 c2] w (Done J w))
  (ih2:∀ p w1,J w1->Tree w1 u p->Calls Tryz.prog 107 #[p,.func (.func F1) f1 c1,.func (.func F2) f2 c2] w1 (Done J1 w1))
  (hop:∀ w1,J1 w1->Calls Tryz.prog F2 (f2.push (.int .u8 (op:Nat)) ++ c2) w1 (Done J2 w1)) :
  Calls Tryz.prog 107 #[v,.func (.func F1) f1 c1,.func (.func F2) f2 c2] w (Done J2 w):=by
 obtain ⟨g,lv,rv,rfl,hg,hl,hr⟩:=hT;obtain ⟨pl,rfl,_⟩:=hl.ptr;obtain ⟨pr,rfl,_⟩:=hr.ptr;have IH:=hid (ih _ hl);have XR:=hid (fun w1 (hj:J w1) (hs:Stable 159 w w1)=>ih2 _ w1 hj (hr.stable hs));have HO:=hid hop;have HG:=hid hg;unfold Enters at e2;obtain ⟨q0,q1,q2,q3,q4,q5,q6,q7⟩:=Sits.tY hg;simp only at q0 q1 q2 q3 q4 q5
 have hlt:=hg.lt;clear hg hl hr ih ih2 hop;go_enter Tryz.func107,Tryz.ntmps107;go_wp2_with fail
 refine IH.out.mono ?_;rintro e w1 ⟨rfl,hj,hs⟩;have S1:=hs _ _ HG.out;have r7:=S1.c7;have hlt1:=S1.lt;have nC:=hid S1;have HJ:=hid hj;have HS:=hid hs;clear hj hs S1 q0 q1 q2 q3 q4 q5 q6 q7 hlt;go_wp2_with fail
 refine (XR.out _ HJ.out HS.out).mono ?_;rintro e w2 ⟨rfl,hj,hs⟩;have S2:=hs _ _ nC.out;have r1:=S2.c1;have hlt2:=S2.lt;have HJ2:=hid hj;have HS2:=hid (HS.out.trans hs);clear hj hs S2 r7 hlt1;go_wp2_with fail
 refine (HO.out _ HJ2.out).mono ?_;rintro e w3 ⟨rfl,hj,hs⟩;have HJ3:=hid hj;have qp:=hid (HS2.out.trans hs);clear hj hs;go_wp2_with fail
 go_end0
 exact ⟨rfl,HJ3.out,qp.out⟩
theorem jM (T:Ja F1 F2 f1 c1 f2 c2 R I B) (e:Ex):∀ (s:σ) (v:Value) (w:World),e.ok->B s e->Tree w (bA e) v->I s w ->
  Calls Tryz.prog 107 #[v,.func (.func F1) f1 c1,.func (.func F2) f2 c2] w (Done (I (R e s)) w):=by
 induction e with
 | one op a ih =>
  intro s v w ho hB hT hI;exact MB T.e2 op (bA a) v w hT _ _ (fun p hp=>ih s p w ho.2 (T.RV op a s hB) hp hI) fun w1 h1=>T.one op a s w1 ho.1 ho.2 hB h1
 | two op a b iha ihb =>
  intro s v w ho hB hT hI;obtain ⟨ba,bb⟩:=T.RX op a b s hB;exact MC T.e2 op (bA a) (bA b) v w hT _ _ _ (fun p hp=>iha s p w ho.2.2.1 ba hp hI) (fun p w1 h1 hp=>ihb _ p w1 ho.2.2.2 bb hp h1) fun w1 h1=>T.two op a b s w1 ho.1 ho.2.1 ho.2.2.1 ho.2.2.2 hB h1
 | num n=>intro s v w ho hB hT hI;exact rX T _ rfl ho s hB v w hT hI
 | reg n=>intro s v w ho hB hT hI;exact rX T _ rfl ho s hB v w hT hI
 | of n m=>intro s v w ho hB hT hI;exact rX T _ rfl ho s hB v w hT hI
 | loc n=>intro s v w ho hB hT hI;exact rX T _ rfl ho s hB v w hT hI
theorem ME (t:Tr) (x y v:Value) (w:World) (hT:Tree w t v) (hf:bC t 12=false):Calls Tryz.prog 74 #[v,x,y] w fun e w'=>Made (.returned (.tuple #[])) w e w':=by
 have HM:=CO t v w hT;rw [hf] at HM;have HH:=hid HM;obtain ⟨p,rfl,_⟩:=hT.ptr;clear HM hT hf;go_enter Tryz.func74,Tryz.ntmps74;go_wp2_with fail
 refine HH.out.mono ?_;rintro e w1 ⟨rfl,hb⟩;have HB:=hid hb;clear hb;go_wp2_with fail
 go_end0
 exact ⟨rfl,HB.out⟩
theorem MF (T:Ja F1 F2 f1 c1 f2 c2 R I B) (hIb:∀ s w w',I s w->Below w.heap.size w w' -> I s w') (e:Ex) (s:σ) (v:Value) (w:World) (ho:e.ok) (hd:e.depth<=12) (hB:B s e) (hT:Tree w (bA e) v) (hI:I s w) :
  Calls Tryz.prog 74 #[v,.func (.func F1) f1 c1,.func (.func F2) f2 c2] w (Done (I (R e s)) w):=by
 have HM:=CO _ v w hT;rw [I4 e ho 12 hd] at HM;have HH:=hid HM;have IH:=hid (fun w1 (hb:Below w.heap.size w w1)=>jM T e s v w1 ho hB (hT.below hb) (hIb s w w1 hI hb));obtain ⟨p,rfl,_⟩:=hT.ptr;clear HM hT hI hIb T hB;generalize I (R e s)=J at IH ⊢;go_enter Tryz.func74,Tryz.ntmps74;go_wp2_with fail
 refine HH.out.mono ?_;rintro e w1 ⟨rfl,hb⟩;have HB:=hid hb;clear hb;go_wp2_with fail
 refine (IH.out _ HB.out).mono ?_;rintro e w2 ⟨rfl,hj,hs⟩;have HJ:=hid hj;have HS:=hid ((Stable.below (t:=159) HB.out).trans hs);clear hj hs;go_wp2_with fail
 go_end0
 exact ⟨rfl,HJ.out,HS.out⟩
end
end Go.Proofs.YtaanhmndeobgbaaGreatDoor.Expr
