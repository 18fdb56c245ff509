/- Part 3 of the proof: what is used of the texts Mem. -/
import Derived.WalkKit
import Derived.WalkLawsBesides
import Derived.WalkMore
import Derived.Scope
import Derived.ScopeJumps
import Derived.Outline
import Derived.Lib.Hide
import Derived.LoopTactic
import Derived.Below
import Derived.BigRegion
import Derived.RegionTactic
import Derived.StillTailTactics
import Derived.Deep.QuietTactic
import Derived.BigQuiet
import Derived.IntWalk
namespace Go.Proofs.YtaanhmndeobgbaaGreatDoor.Mem
open Go.RowKit
def Sits (w:World) (g:Nat) (t:TypeId) (cs:Array Value):Prop:=w.heap[g]? = some (.cells cs t (0,0))
structure aa (X:Nat->Prop) (w w':World):Prop where
 os:w'.os=w.os
 tape:w'.tape=w.tape
 output:w'.output=w.output
 size:w.heap.size<=w'.heap.size
 block:∀ b,b<w.heap.size->¬ X b->w'.heap[b]? = w.heap[b]?
section
variable {w w' w'' : World} {g : Nat} {t : TypeId} {cs : Array Value} {X Y : Nat → Prop}
theorem Sits.lt (h:Sits w g t cs):g<w.heap.size:=lt_of_block h
theorem Sits.cell (h:Sits w g t cs) (i:Nat):w.cell? ⟨g,i,none⟩=cs[i]?:=cell_of_row w g i cs t (0,0) h
theorem Sits.c0 {w:World} {g:Nat} {t:TypeId} {a0:Value} {l:List Value} (h:Sits w g t ⟨a0::l⟩):w.cell? ⟨g,0,none⟩=some a0:=(h.cell 0).trans (by simp)
theorem Sits.c1 {w:World} {g:Nat} {t:TypeId} {a0 a1:Value} {l:List Value} (h:Sits w g t ⟨a0::a1::l⟩):w.cell? ⟨g,1,none⟩=some a1:=(h.cell 1).trans (by simp)
theorem Sits.c2 {w:World} {g:Nat} {t:TypeId} {a0 a1 a2:Value} {l:List Value} (h:Sits w g t ⟨a0::a1::a2::l⟩):w.cell? ⟨g,2,none⟩=some a2:=(h.cell 2).trans (by simp)
theorem Sits.c3 {w:World} {g:Nat} {t:TypeId} {a0 a1 a2 a3:Value} {l:List Value} (h:Sits w g t ⟨a0::a1::a2::a3::l⟩):w.cell? ⟨g,3,none⟩=some a3:=(h.cell 3).trans (by simp)
theorem Sits.c4 {w:World} {g:Nat} {t:TypeId} {a0 a1 a2 a3 a4:Value} {l:List Value} (h:Sits w g t ⟨a0::a1::a2::a3::a4::l⟩):w.cell? ⟨g,4,none⟩=some a4:=(h.cell 4).trans (by simp)
theorem Sits.c5 {w:World} {g:Nat} {t:TypeId} {a0 a1 a2 a3 a4 a5:Value} {l:List Value} (h:Sits w g t ⟨a0::a1::a2::a3::a4::a5::l⟩):w.cell? ⟨g,5,none⟩=some a5:=(h.cell 5).trans (by simp)
theorem Sits.c6 {w:World} {g:Nat} {t:TypeId} {a0 a1 a2 a3 a4 a5 a6:Value} {l:List Value} (h:Sits w g t ⟨a0::a1::a2::a3::a4::a5::a6::l⟩):w.cell? ⟨g,6,none⟩=some a6:=(h.cell 6).trans (by simp)
theorem Sits.c7 {w:World} {g:Nat} {t:TypeId} {a0 a1 a2 a3 a4 a5 a6 a7:Value} {l:List Value} (h:Sits w g t ⟨a0::a1::a2::a3::a4::a5::a6::a7::l⟩):w.cell? ⟨g,7,none⟩=some a7:=(h.cell 7).trans (by simp)
theorem Sits.c8 {w:World} {g:Nat} {t:TypeId} {a0 a1 a2 a3 a4 a5 a6 a7 a8:Value} {l:List Value} (h:Sits w g t ⟨a0::a1::a2::a3::a4::a5::a6::a7::a8::l⟩):w.cell? ⟨g,8,none⟩=some a8:=(h.cell 8).trans (by simp)
theorem Sits.c9 {w:World} {g:Nat} {t:TypeId} {a0 a1 a2 a3 a4 a5 a6 a7 a8 a9:Value} {l:List Value} (h:Sits w g t ⟨a0::a1::a2::a3::a4::a5::a6::a7::a8::a9::l⟩):w.cell? ⟨g,9,none⟩=some a9:=(h.cell 9).trans (by simp)
theorem Sits.e2 {w:World} {g:Nat} {t:TypeId} {a0 a1:Value} {l:List Value} (h:Sits w g t ⟨a0::a1::l⟩):w.cell? ⟨g,0,none⟩=some a0/\w.cell? ⟨g,1,none⟩=some a1:=⟨h.c0,h.c1⟩
theorem Sits.e3 {w:World} {g:Nat} {t:TypeId} {a0 a1 a2:Value} {l:List Value} (h:Sits w g t ⟨a0::a1::a2::l⟩):w.cell? ⟨g,0,none⟩=some a0/\w.cell? ⟨g,1,none⟩=some a1/\w.cell? ⟨g,2,none⟩=some a2:=⟨h.c0,h.c1,h.c2⟩
theorem Sits.e4 {w:World} {g:Nat} {t:TypeId} {a0 a1 a2 a3:Value} {l:List Value} (h:Sits w g t ⟨a0::a1::a2::a3::l⟩):w.cell? ⟨g,0,none⟩=some a0/\w.cell? ⟨g,1,none⟩=some a1/\w.cell? ⟨g,2,none⟩=some a2/\w.cell? ⟨g,3,none⟩=some a3:=⟨h.c0,h.c1,h.c2,h.c3⟩
theorem Sits.e5 {w:World} {g:Nat} {t:TypeId} {a0 a1 a2 a3 a4:Value} {l:List Value} (h:Sits w g t ⟨a0::a1::a2::a3::a4::l⟩):w.cell? ⟨g,0,none⟩=some a0/\w.cell? ⟨g,1,none⟩=some a1/\w.cell? ⟨g,2,none⟩=some a2/\w.cell? ⟨g,3,none⟩=some a3/\w.cell? ⟨g,4,none⟩=some a4:=⟨h.c0,h.c1,h.c2,h.c3,h.c4⟩
theorem Sits.e6 {w:World} {g:Nat} {t:TypeId} {a0 a1 a2 a3 a4 a5:Value} {l:List Value} (h:Sits w g t ⟨a0::a1::a2::a3::a4::a5::l⟩):w.cell? ⟨g,0,none⟩=some a0/\w.cell? ⟨g,1,none⟩=some a1/\w.cell? ⟨g,2,none⟩=some a2/\w.cell? ⟨g,3,none⟩=some a3/\w.cell? ⟨g,4,none⟩=some a4/\w.cell? ⟨g,5,none⟩=some a5:=⟨h.c0,h.c1,h.c2,h.c3,h.c4,h.c5⟩
theorem Sits.e7 {w:World} {g:Nat} {t:TypeId} {a0 a1 a2 a3 a4 a5 a6:Value} {l:List Value} (h:Sits w g t ⟨a0::a1::a2::a3::a4::a5::a6::l⟩):w.cell? ⟨g,0,none⟩=some a0/\w.cell? ⟨g,1,none⟩=some a1/\w.cell? ⟨g,2,none⟩=some a2/\w.cell? ⟨g,3,none⟩=some a3/\w.cell? ⟨g,4,none⟩=some a4/\w.cell? ⟨g,5,none⟩=some a5/\w.cell? ⟨g,6,none⟩=some a6:=⟨h.c0,h.c1,h.c2,h.c3,h.c4,h.c5,h.c6⟩
theorem Sits.e8 {w:World} {g:Nat} {t:TypeId} {a0 a1 a2 a3 a4 a5 a6 a7:Value} {l:List Value} (h:Sits w g t ⟨a0::a1::a2::a3::a4::a5::a6::a7::l⟩):w.cell? ⟨g,0,none⟩=some a0/\w.cell? ⟨g,1,none⟩=some a1/\w.cell? ⟨g,2,none⟩=some a2/\w.cell? ⟨g,3,none⟩=some a3/\w.cell? ⟨g,4,none⟩=some a4/\w.cell? ⟨g,5,none⟩=some a5/\w.cell? ⟨g,6,none⟩=some a6/\w.cell? ⟨g,7,none⟩=some a7:=⟨h.c0,h.c1,h.c2,h.c3,h.c4,h.c5,h.c6,h.c7⟩
theorem Sits.e9 {w:World} {g:Nat} {t:TypeId} {a0 a1 a2 a3 a4 a5 a6 a7 a8:Value} {l:List Value} (h:Sits w g t ⟨a0::a1::a2::a3::a4::a5::a6::a7::a8::l⟩):w.cell? ⟨g,0,none⟩=some a0/\w.cell? ⟨g,1,none⟩=some a1/\w.cell? ⟨g,2,none⟩=some a2/\w.cell? ⟨g,3,none⟩=some a3/\w.cell? ⟨g,4,none⟩=some a4/\w.cell? ⟨g,5,none⟩=some a5/\w.cell? ⟨g,6,none⟩=some a6/\w.cell? ⟨g,7,none⟩=some a7/\w.cell? ⟨g,8,none⟩=some a8:=⟨h.c0,h.c1,h.c2,h.c3,h.c4,h.c5,h.c6,h.c7,h.c8⟩
theorem Sits.free (h:Sits w g t cs) (i:Nat):w.frozen? ⟨g,i,none⟩=false:=by
 unfold Sits at h;simp [World.frozen?,h]
theorem Sits.same {t':TypeId} {cs':Array Value} (h:Sits w g t cs) (h':Sits w g t' cs'):t=t' /\ cs=cs':=by
 unfold Sits at h h';rw [h] at h';injection h' with h';injection h' with a b;exact ⟨b,a⟩
theorem Sits.keep (h:Sits w g t cs) (k:aa X w w') (hn:¬ X g):Sits w' g t cs:=(k.block g h.lt hn).trans h
theorem Sits.alloc (h:Sits w g t cs) (o:Obj):Sits (w.alloc o) g t cs:=(Below.heap_alloc w o g h.lt).trans h
theorem Sits.new (w:World) (t:TypeId) (cs:Array Value):Sits (w.alloc (.cells cs t)) w.heap.size t cs:=heap_alloc_new w _
theorem Sits.made (hg:g=w.heap.size) (t:TypeId) (cs:Array Value):Sits (w.alloc (.cells cs t)) g t cs:=by rw [hg];exact Sits.new w t cs
theorem Sits.drew (h:Sits w g t cs):Sits w.drew g t cs:=h
theorem Sits.put (h:Sits w g t cs) (i:Nat) (u:Value):Sits (w.setCell ⟨g,i,none⟩ u) g t (cs.setIfInBounds i u):=by
 unfold Sits at h ⊢;simp [World.setCell,Array.getElem?_modify,h]
theorem Sits.far (h:Sits w g t cs) {p:Addr} (hp:g≠p.block) (u:Value):Sits (w.setCell p u) g t cs:=(Below.heap_setCell w p u g hp).trans h
theorem Sits.below {B:Nat} (h:Sits w g t cs) (hb:Below B w w') (hg:g<B):Sits w' g t cs:=(hb.block g hg).trans h
theorem Sits.grown {row:Option Nat} (h:Sits w g t cs) (hb:w.grownBy w' row) (hg:row≠some g):Sits w' g t cs:=(hb.block g h.lt (fun e=>hg e.symm)).trans h
theorem Sits.differ {g':Nat} {t':TypeId} {cs':Array Value} (h:Sits w g t cs) (h':Sits w g' t' cs') (hne:t≠t'):g≠g':=by
 rintro rfl;exact hne (h.same h').1
theorem aa.refl (X:Nat->Prop) (w:World):aa X w w:=⟨rfl,rfl,rfl,Nat.le_refl _,fun _ _ _=>rfl⟩
theorem aa.trans (h:aa X w w') (k:aa X w' w''):aa X w w'' :=
 ⟨k.os.trans h.os,k.tape.trans h.tape,k.output.trans h.output,Nat.le_trans h.size k.size,fun b hb hn=>(k.block b (Nat.lt_of_lt_of_le hb h.size) hn).trans (h.block b hb hn)⟩
theorem aa.wider (h:aa X w w') (hx:∀ b,b<w.heap.size->X b->Y b):aa Y w w' :=
 ⟨h.os,h.tape,h.output,h.size,fun b hb hn=>h.block b hb (fun hb'=>hn (hx b hb hb'))⟩
theorem aa.drew (h:aa X w w'):aa X w w'.drew:=⟨h.os,h.tape,h.output,h.size,h.block⟩
theorem aa.alloc (h:aa X w w') (o:Obj):aa X w (w'.alloc o) :=
 h.trans ⟨rfl,rfl,rfl,by simp,fun b hb _=>Below.heap_alloc _ _ _ hb⟩
theorem aa.put (h:aa X w w') {p:Addr} (hp:X p.block \/ w.heap.size<=p.block) (u:Value):aa X w (w'.setCell p u) :=
 ⟨h.os,h.tape,h.output,by simpa [World.setCell] using h.size,fun b hb hn=>(Below.heap_setCell _ _ _ _ (by
  rintro rfl;rcases hp with hp | hp
  ·exact hn hp
  ·omega)).trans (h.block b hb hn)⟩
theorem aa.of_below (h:Below w.heap.size w w'):aa X w w':=⟨h.os,h.tape,h.output,h.size,fun b hb _=>h.block b hb⟩
theorem aa.below (h:aa X w w') {B:Nat} (hB:B<=w.heap.size) (hx:∀ b,X b->B<=b):Below B w w' :=
 ⟨h.os,h.tape,h.output,h.size,fun b hb=>h.block b (by omega) (fun hb'=>by have:=hx b hb';omega)⟩
theorem behind {B:Nat} {a:World} (h:Below B a w) (k:aa X w w') (hB:B<=w.heap.size) (hx:∀ b,X b->B<=b):Below B a w' :=
 h.trans ⟨k.os,k.tape,k.output,k.size,fun b hb=>k.block b (by omega) (fun hb'=>by have:=hx b hb';omega)⟩
theorem Below.boxed (w:World) (o:Obj) {w':World} (h:Below (w.alloc o).heap.size (w.alloc o) w'):Below w.heap.size w w' :=
 ((Below.refl _ w).alloc (Nat.le_refl _) o).trans (h.mono (by simp))
end
theorem Below.tX {w:World} {o:Obj} {w':World} (h:Below (w.alloc o).drew.heap.size (w.alloc o).drew w'):Below w.heap.size w w' :=
 Below.boxed w o ⟨h.os,h.tape,h.output,h.size,h.block⟩
def Stable (t:TypeId) (w w':World):Prop:=∀ g cs,Sits w g t cs->Sits w' g t cs
section
variable {w w' w'' : World} {g : Nat} {t t' : TypeId} {cs : Array Value} {X : Nat → Prop}
theorem Stable.trans (h:Stable t w w') (k:Stable t w' w''):Stable t w w'':=fun g cs hs=>k g cs (h g cs hs)
theorem Stable.below (h:Below w.heap.size w w'):Stable t w w':=fun _ _ hs=>hs.below h hs.lt
theorem Stable.keeps (k:aa X w w') (h:∀ b cs,Sits w b t cs->¬ X b):Stable t w w':=fun g cs hs=>hs.keep k (h g cs hs)
theorem Stable.put (hs:Sits w g t' cs) (hne:t≠t') (i:Nat) (u:Value):Stable t w (w.setCell ⟨g,i,none⟩ u) :=
 fun _ _ h=>h.far (h.differ hs hne) u
end
theorem jO {k:IntKind} {a b:Int} (h:a=b):Ending.returned (.int k a) = .returned (.int k b):=by rw [h]
theorem cZ {a b:Bool} (h:a=b):Ending.returned (.bool a) = .returned (.bool b):=by rw [h]
theorem I1 {a b:ByteArray} (h:a=b):Ending.returned (.string a) = .returned (.string b):=by rw [h]
theorem Ez {P:Program} {f:FuncId} {args:Array Value} {w:World} {n:Nat} {v:Value}
  (h:Calls P f args (w.drewN n) fun e w'=>e = .returned v/\w.drewN n=w'):Calls P f args (w.drewN n) fun e w''=>e = .returned v/\∃ m,w'' = w.drewN m :=
 h.mono fun _ _ h=>⟨h.1,n,h.2.symm⟩
theorem bu {B:Nat} {a w:World} (h:Below B a w) (n:Nat):Below B a (w.drewN n):=h.trans ⟨rfl,rfl,rfl,Nat.le_refl _,fun _ _=>rfl⟩
structure Within (R:World->Prop) where
 now:World
 ok:R now
theorem bS {P:Program} (R:World->Prop) {id:Nat} {Q:Exit->Act->World->Prop} {a:Act} {w:World} {l:List Oper} (h0:R w.drew) (hm:P.follows .mixedOrders=true) (hB:Region.lexB .any l.toArray=true)
  (h:wpQuiet P l.toArray (fun w'=>∃ x:Within R,w' = x.now) (fun a'=>∀ w',(∃ x:Within R,w' = x.now)->Q .normal a' w') l a):(Code.region id l.toArray true).wp P Q a w :=
 wp_region_quiet (C:=fun w'=>∃ x:Within R,w' = x.now) hm hB ⟨⟨_,h0⟩,rfl⟩ (by simpa using h)
theorem xB {P:Program} {R:World->Prop} {f:FuncId} {args:Array Value} {x:Within R} {v:Value} {S:Ending->World->Prop}
  (h:Calls P f args x.now S) (hs:∀ e w',S e w' -> e = .returned v/\R w'):Calls P f args x.now fun e w''=>e = .returned v/\∃ y:Within R,w'' = y.now :=
 h.mono fun e w' h=>⟨(hs e w' h).1,⟨w',(hs e w' h).2⟩,rfl⟩
def Under (W:World):World->Prop:=Below W.heap.size W
theorem Under.refl (W:World):Under W W.drew:=(Below.refl _ W).drew
def Made (e0:Ending) (w:World) (e:Ending) (w':World):Prop:=e=e0/\Below w.heap.size w w'
theorem iF {P:Program} {W:World} {f:FuncId} {args:Array Value} {x:Within (Under W)} {v:Value}
  (h:Calls P f args x.now fun e w'=>Made (.returned v) x.now e w'):Calls P f args x.now fun e w''=>e = .returned v/\∃ y:Within (Under W),w'' = y.now :=
 xB h fun _ _ h=>⟨h.1,x.ok.trans (h.2.mono x.ok.size)⟩
theorem oI {P:Program} {R:World->Prop} {f:FuncId} {args:Array Value} {x:Within R} {v:Value}
  (h:Calls P f args x.now fun e w'=>e = .returned v/\x.now=w'):Calls P f args x.now fun e w''=>e = .returned v/\∃ y:Within R,w'' = y.now :=
 xB h fun _ _ h=>⟨h.1,h.2 ▸ x.ok⟩
end Go.Proofs.YtaanhmndeobgbaaGreatDoor.Mem
