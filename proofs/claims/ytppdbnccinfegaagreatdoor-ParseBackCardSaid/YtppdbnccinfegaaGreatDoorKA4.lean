/- Part 5 of the proof: what is used of the texts Mem, Card. -/
import Derived.WalkKit
import Derived.WalkLawsBesides
import Derived.WalkMore
import Derived.Scope
import Derived.ScopeJumps
import Derived.Outline
import Derived.Lib.Hide
import Derived.LoopTactic
import Derived.Below
import Derived.BigRegion
import Derived.RegionTactic
import Derived.StillTailTactics
import Derived.Deep.QuietTactic
import Derived.BigQuiet
import Derived.IntWalk
import Derived.Test.YtppdbnccinfegaaGreatDoorCards
import Derived.Test.YtppdbnccinfegaaGreatDoorTie
import Derived.Test.YtppdbnccinfegaaGreatDoorKA3
import Derived.ProofKit
import Derived.OpenShut
import Derived.Deep.DeepHandedRow
import Derived.Lib.LaidU8
import Derived.WideKeyArgs
import Derived.Deep.Slices
section
namespace Go.Proofs.YtppdbnccinfegaaGreatDoor.Mem
open Go.RowKit
def Sits (w:World) (g:Nat) (t:TypeId) (cs:Array Value):Prop:=w.heap[g]? = some (.cells cs t (0,0))
structure Keeps (X:Nat->Prop) (w w':World):Prop where
  os:w'.os=w.os
  tape:w'.tape=w.tape
  output:w'.output=w.output
  size:w.heap.size<=w'.heap.size
  block:∀ b,b<w.heap.size->¬ X b->w'.heap[b]? = w.heap[b]?
section
variable {w w' w'' : World} {g : Nat} {t : TypeId} {cs : Array Value} {X Y : Nat → Prop}
theorem Sits.lt (h:Sits w g t cs):g<w.heap.size:=lt_of_block h
theorem Sits.cell (h:Sits w g t cs) (i:Nat):w.cell? ⟨g,i,none⟩=cs[i]?:=cell_of_row w g i cs t (0,0) h
theorem Sits.free (h:Sits w g t cs) (i:Nat):w.frozen? ⟨g,i,none⟩=false:=by
  unfold Sits at h;simp [World.frozen?,h]
theorem Sits.same {t':TypeId} {cs':Array Value} (h:Sits w g t cs) (h':Sits w g t' cs'):t=t' /\ cs=cs':=by
  unfold Sits at h h'
  rw [h] at h'
  injection h' with h'
  injection h' with a b
  exact ⟨b,a⟩
theorem Sits.keep (h:Sits w g t cs) (k:Keeps X w w') (hn:¬ X g):Sits w' g t cs:=(k.block g h.lt hn).trans h
theorem Sits.alloc (h:Sits w g t cs) (o:Obj):Sits (w.alloc o) g t cs:=(Below.heap_alloc w o g h.lt).trans h
theorem Sits.new (w:World) (t:TypeId) (cs:Array Value):Sits (w.alloc (.cells cs t)) w.heap.size t cs:=heap_alloc_new w _
theorem Sits.made (hg:g=w.heap.size) (t:TypeId) (cs:Array Value):Sits (w.alloc (.cells cs t)) g t cs:=by rw [hg];exact Sits.new w t cs
theorem Sits.drew (h:Sits w g t cs):Sits w.drew g t cs:=h
theorem Sits.put (h:Sits w g t cs) (i:Nat) (u:Value):Sits (w.setCell ⟨g,i,none⟩ u) g t (cs.setIfInBounds i u):=by
  unfold Sits at h ⊢;simp [World.setCell,Array.getElem?_modify,h]
theorem Sits.far (h:Sits w g t cs) {p:Addr} (hp:g≠p.block) (u:Value):Sits (w.setCell p u) g t cs:=(Below.heap_setCell w p u g hp).trans h
theorem Sits.below {B:Nat} (h:Sits w g t cs) (hb:Below B w w') (hg:g<B):Sits w' g t cs:=(hb.block g hg).trans h
theorem Sits.grown {row:Option Nat} (h:Sits w g t cs) (hb:w.grownBy w' row) (hg:row≠some g):Sits w' g t cs:=(hb.block g h.lt (fun e=>hg e.symm)).trans h
theorem Sits.differ {g':Nat} {t':TypeId} {cs':Array Value} (h:Sits w g t cs) (h':Sits w g' t' cs') (hne:t≠t'):g≠g':=by
  rintro rfl
  exact hne (h.same h').1
theorem Keeps.refl (X:Nat->Prop) (w:World):Keeps X w w:=⟨rfl,rfl,rfl,Nat.le_refl _,fun _ _ _=>rfl⟩
theorem Keeps.trans (h:Keeps X w w') (k:Keeps X w' w''):Keeps X w w'' :=
  ⟨k.os.trans h.os,k.tape.trans h.tape,k.output.trans h.output,Nat.le_trans h.size k.size,fun b hb hn=>(k.block b (Nat.lt_of_lt_of_le hb h.size) hn).trans (h.block b hb hn)⟩
theorem Keeps.wider (h:Keeps X w w') (hx:∀ b,b<w.heap.size->X b->Y b):Keeps Y w w' :=
  ⟨h.os,h.tape,h.output,h.size,fun b hb hn=>h.block b hb (fun hb'=>hn (hx b hb hb'))⟩
theorem Keeps.drew (h:Keeps X w w'):Keeps X w w'.drew:=⟨h.os,h.tape,h.output,h.size,h.block⟩
theorem Keeps.alloc (h:Keeps X w w') (o:Obj):Keeps X w (w'.alloc o) :=
  h.trans ⟨rfl,rfl,rfl,by simp,fun b hb _=>Below.heap_alloc _ _ _ hb⟩
theorem Keeps.put (h:Keeps X w w') {p:Addr} (hp:X p.block \/ w.heap.size<=p.block) (u:Value):Keeps X w (w'.setCell p u) :=
  ⟨h.os,h.tape,h.output,by simpa [World.setCell] using h.size,fun b hb hn=>(Below.heap_setCell _ _ _ _ (by
    rintro rfl
    rcases hp with hp | hp
    · exact hn hp
    · omega)).trans (h.block b hb hn)⟩
theorem Keeps.of_below (h:Below w.heap.size w w'):Keeps X w w':=⟨h.os,h.tape,h.output,h.size,fun b hb _=>h.block b hb⟩
theorem Keeps.below (h:Keeps X w w') {B:Nat} (hB:B<=w.heap.size) (hx:∀ b,X b->B<=b):Below B w w' :=
  ⟨h.os,h.tape,h.output,h.size,fun b hb=>h.block b (by omega) (fun hb'=>by have:=hx b hb';omega)⟩
theorem behind {B:Nat} {a:World} (h:Below B a w) (k:Keeps X w w') (hB:B<=w.heap.size) (hx:∀ b,X b->B<=b):Below B a w' :=
  h.trans ⟨k.os,k.tape,k.output,k.size,fun b hb=>k.block b (by omega) (fun hb'=>by have:=hx b hb';omega)⟩
theorem Below.boxed (w:World) (o:Obj) {w':World} (h:Below (w.alloc o).heap.size (w.alloc o) w'):Below w.heap.size w w' :=
  ((Below.refl _ w).alloc (Nat.le_refl _) o).trans (h.mono (by simp))
end
theorem Below.boxedDrawn {w:World} {o:Obj} {w':World} (h:Below (w.alloc o).drew.heap.size (w.alloc o).drew w'):Below w.heap.size w w' :=
  Below.boxed w o ⟨h.os,h.tape,h.output,h.size,h.block⟩
def Stable (t:TypeId) (w w':World):Prop:=∀ g cs,Sits w g t cs->Sits w' g t cs
section
variable {w w' w'' : World} {g : Nat} {t t' : TypeId} {cs : Array Value} {X : Nat → Prop}
theorem Stable.trans (h:Stable t w w') (k:Stable t w' w''):Stable t w w'':=fun g cs hs=>k g cs (h g cs hs)
theorem Stable.below (h:Below w.heap.size w w'):Stable t w w':=fun _ _ hs=>hs.below h hs.lt
theorem Stable.keeps (k:Keeps X w w') (h:∀ b cs,Sits w b t cs->¬ X b):Stable t w w':=fun g cs hs=>hs.keep k (h g cs hs)
theorem Stable.put (hs:Sits w g t' cs) (hne:t≠t') (i:Nat) (u:Value):Stable t w (w.setCell ⟨g,i,none⟩ u) :=
  fun _ _ h=>h.far (h.differ hs hne) u
end
theorem ret_int {k:IntKind} {a b:Int} (h:a=b):Ending.returned (.int k a) = .returned (.int k b):=by rw [h]
theorem ret_bool {a b:Bool} (h:a=b):Ending.returned (.bool a) = .returned (.bool b):=by rw [h]
theorem ret_str {a b:ByteArray} (h:a=b):Ending.returned (.string a) = .returned (.string b):=by rw [h]
theorem quiet_eq {P:Program} {f:FuncId} {args:Array Value} {w:World} {n:Nat} {v:Value}
    (h:Calls P f args (w.drewN n) fun e w'=>e = .returned v/\w.drewN n=w'):Calls P f args (w.drewN n) fun e w''=>e = .returned v/\∃ m,w'' = w.drewN m :=
  h.mono fun _ _ h=>⟨h.1,n,h.2.symm⟩
theorem drewN_below {B:Nat} {a w:World} (h:Below B a w) (n:Nat):Below B a (w.drewN n):=h.trans ⟨rfl,rfl,rfl,Nat.le_refl _,fun _ _=>rfl⟩
structure Within (R:World->Prop) where
  now:World
  ok:R now
theorem wp_region_within {P:Program} (R:World->Prop) {id:Nat} {Q:Exit->Act->World->Prop} {a:Act} {w:World} {l:List Oper} (h0:R w.drew) (hm:P.follows .mixedOrders=true) (hB:Region.lexB .any l.toArray=true)
    (h:wpQuiet P l.toArray (fun w'=>∃ x:Within R,w' = x.now) (fun a'=>∀ w',(∃ x:Within R,w' = x.now)->Q .normal a' w') l a):(Code.region id l.toArray true).wp P Q a w :=
  wp_region_quiet (C:=fun w'=>∃ x:Within R,w' = x.now) hm hB ⟨⟨_,h0⟩,rfl⟩ (by simpa using h)
theorem within_call {P:Program} {R:World->Prop} {f:FuncId} {args:Array Value} {x:Within R} {v:Value} {S:Ending->World->Prop}
    (h:Calls P f args x.now S) (hs:∀ e w',S e w' -> e = .returned v/\R w'):Calls P f args x.now fun e w''=>e = .returned v/\∃ y:Within R,w'' = y.now :=
  h.mono fun e w' h=>⟨(hs e w' h).1,⟨w',(hs e w' h).2⟩,rfl⟩
def Under (W:World):World->Prop:=Below W.heap.size W
theorem Under.refl (W:World):Under W W.drew:=(Below.refl _ W).drew
def Made (e0:Ending) (w:World) (e:Ending) (w':World):Prop:=e=e0/\Below w.heap.size w w'
theorem under_made {P:Program} {W:World} {f:FuncId} {args:Array Value} {x:Within (Under W)} {v:Value}
    (h:Calls P f args x.now fun e w'=>Made (.returned v) x.now e w'):Calls P f args x.now fun e w''=>e = .returned v/\∃ y:Within (Under W),w'' = y.now :=
  within_call h fun _ _ h=>⟨h.1,x.ok.trans (h.2.mono x.ok.size)⟩
theorem under_eq {P:Program} {R:World->Prop} {f:FuncId} {args:Array Value} {x:Within R} {v:Value}
    (h:Calls P f args x.now fun e w'=>e = .returned v/\x.now=w'):Calls P f args x.now fun e w''=>e = .returned v/\∃ y:Within R,w'' = y.now :=
  within_call h fun _ _ h=>⟨h.1,h.2 ▸ x.ok⟩
end Go.Proofs.YtppdbnccinfegaaGreatDoor.Mem
end
section
namespace Go.Proofs.YtppdbnccinfegaaGreatDoor.Card
open Go.RowKit Go.ChangeShapes Go.WideShapes Go.ChangeAt
section
variable {H : Type} {enc : TypeId × Value → H} {P : Program}
theorem post_below {f:Func} {s:ChangeSpec} {apart fresh handsOn again:Bool} {W W':World} {args:Array Value} {v:Value} {ds gs:List (DataW H)} {before pa pv:List MemPlace}
    (hW:DataW.Whole enc P f.params.toList s.vars apart W args.toList ds gs before)
    (hres:∀ (b:Nat) (sp:Nat->Bool) (hd:Bool),DataW.TrodAll enc P W' b sp hd f.resultTypes.toList (v.resultList f.resultTypes.size) (s.fn H (ds ++ gs)).results [])
    (hargs:∀ sp:Nat->Bool,(∀ p ∈ before,sp p.block=true)->DataW.TrodAll enc P W' 0 sp true f.params.toList args.toList (s.fn H (ds ++ gs)).args pa)
    (hvars:∀ sp:Nat->Bool,(∀ p ∈ before,sp p.block=true)->DataW.TrodVars enc P W' sp s.vars (s.fn H (ds ++ gs)).vars pv)
    (hps:before=pa ++ pv) (hb:Below W.heap.size W W')
    (hok:∀ (j:Nat) (t:TypeId) (r:Value),f.resultTypes[j]? = some t->(v.resultList f.resultTypes.size)[j]? = some r->Value.okWide P W' .any 0 t r) :
    s.post enc P f apart fresh handsOn again W args v W':=by
  have hin:∀ p ∈ before,p.block<W.heap.size:=fun p hp=>hW.lt p hp
  have hyes:∀ p ∈ before,(fun b=>decide (b<W.heap.size)) p.block=true:=fun p hp=>decide_eq_true (hin p hp)
  refine ⟨ds,gs,before,[],pa,pv,hW,hres _ _ _,hargs _ hyes,hvars _ hyes,World.keptBut_mono (fun p hp=>⟨hp,?_⟩) (hb.frame (· ∈ before)),fun _=>?_⟩
  · rw [hps,List.mem_append] at hp;exact Or.inr hp
  · obtain ⟨_,_,_,_,_,hfz,hnd⟩:=hW
    refine ⟨hok,_,_,([] ++ pa) ++ pv,⟨[] ++ pa,pv,trodAll_append (hargs _ (fun _ _=>rfl)) (hres _ _ _),hvars _ (fun _ _=>rfl),rfl,fun b off hp=>?_,fun ha=>?_⟩,fun p hp _=>?_⟩
    · have hp':MemPlace.cell b off ∈ before:=by rw [hps];simpa using hp
      rw [hb.frozen (hin _ hp')];exact hfz b off hp'
    · have h2:=hnd ha
      rw [hps] at h2;simpa using h2
    · rw [hps];simpa using hp
end
theorem trodAll_below {H:Type} {enc:TypeId × Value->H} {P:Program} {W W':World} {sp:Nat->Bool} (hl:laidOutB P=true) (hb:Below W.heap.size W W') :
    ∀ {ts:List TypeId} {vs:List Value} {ds:List (DataW H)} {ps:List MemPlace},(∀ t ∈ ts,P.readableRec t=true/\t<P.types.size)->DataW.TrodAll enc P W 0 (fun _=>true) true ts vs ds ps ->
      (∀ x ∈ ps,x.block<W.heap.size)->(∀ x ∈ ps,sp x.block=true)->DataW.TrodAll enc P W' 0 sp true ts vs ds ps
  | [],[],[],_,_,h,_,_=>h
  | _ :: _,_ :: _,_ :: _,_,hT,⟨p,q,h1,h2,e⟩,hlt,hs =>
    ⟨p,q,WideElems.Trod_stays hl (hT _ (List.mem_cons.2 (.inl rfl))).1 (hT _ (List.mem_cons.2 (.inl rfl))).2 h1 (fun x hx=>hb.same (hlt x (by rw [e];exact List.mem_append_left _ hx))) (fun x hx=>hs x (by rw [e];exact List.mem_append_left _ hx)),
      trodAll_below hl hb (fun t ht=>hT t (List.mem_cons.2 (.inr ht))) h2 (fun x hx=>hlt x (by rw [e];exact List.mem_append_right _ hx)) (fun x hx=>hs x (by rw [e];exact List.mem_append_right _ hx)),e⟩
theorem field_int {H:Type} {enc:TypeId × Value->H} {P:Program} {w:World} {base:Nat} {sp:Nat->Bool} {held:Bool} {n:Nat} {fs:Array Field} {xs:List (DataW H × List MemPlace)} {cs:List Value} {j o:Nat} {k:IntKind}
    (hi:(fs[j]?).map (fun f=>(P.underlying f.type,f.offset,P.cellsOf f.type))=some (some (.int k),o,1)) (hx:xs.length=fs.size)
    (h:∀ (i:Nat) (f:Field),fs[i]? = some f->DataW.trod enc P w base sp held n f.type ((cs.drop f.offset).take (P.cellsOf f.type))=xs[i]?):∃ z,cs[o]? = some (.int k z)/\(Lit.int k z).wf=true:=by
  obtain ⟨f,hf,he⟩:=Option.map_eq_some_iff.1 hi
  simp only [Prod.mk.injEq] at he
  obtain ⟨hu,rfl,hc⟩:=he
  have hj:j<xs.length:=by rw [hx];exact (Array.getElem?_eq_some_iff.1 hf).1
  have h1:=h j f hf
  rw [List.getElem?_eq_getElem hj] at h1
  obtain ⟨z,hz,_,hw⟩:=DataW.trod_int hu h1
  rw [hc] at hz
  refine ⟨z,?_,hw⟩
  have:=congrArg (·[0]?) hz
  simpa [List.getElem?_take,List.getElem?_drop] using this
theorem list_of {α:Type} {n:Nat} {Q:Nat->α->Prop} (h:∀ i,i<n->∃ a,Q i a):∃ l:List α,l.length=n/\∀ i a,l[i]? = some a->Q i a:=by
  induction n with
  | zero=>exact ⟨[],rfl,fun i a h=>by simp at h⟩
  | succ n ih =>
    obtain ⟨l,hl,hq⟩:=ih (fun i hi=>h i (by omega))
    obtain ⟨a,ha⟩:=h n (by omega)
    refine ⟨l ++ [a],by simp [hl],fun i b hb=>?_⟩
    by_cases hi:i<n
    · exact hq i b (by rwa [List.getElem?_append_left (by omega)] at hb)
    · have hlt:=(List.getElem?_eq_some_iff.1 hb).1
      simp [hl] at hlt
      obtain rfl:i=n:=by omega
      rw [List.getElem?_append_right (by omega),hl,Nat.sub_self] at hb
      cases hb
      exact ha
section
variable {P : Program} {W : World} {name : String} {g : Nat} {t e : TypeId} {n : Nat}
theorem strs_of_reads {zs:List (List UInt8)} (hg:P.globalNamed name=some g) (hty:(P.globals[g]?).map (·.type)=some t) (ht:P.underlying t=some (.array n e)) (he:P.underlying e=some .string) (hce:P.cellsOf e=1) (hct:P.cellsOf t=n)
    (h:Lib.VarReads P W name (Num.strData zs)):Num.StrIs P W name zs:=by
  obtain ⟨g',t',cs,fuel,p,hg',ht',hvar,hd⟩:=h
  obtain rfl:=Option.some.inj (hg.symm.trans hg')
  obtain rfl:=Option.some.inj (hty.symm.trans ht')
  unfold Num.StrIs
  rw [hvar,<- Num.cells_of_strs ht he hce hct hd]
theorem tab_of_reads {k:IntKind} {zs:List Int} (hg:P.globalNamed name=some g) (hty:(P.globals[g]?).map (·.type)=some t) (ht:P.underlying t=some (.array n e)) (he:P.underlying e=some (.int k)) (hce:P.cellsOf e=1) (hct:P.cellsOf t=n)
    (h:Lib.VarReads P W name (Lib.tabData k zs)):Lib.TabIs P W name k zs:=by
  obtain ⟨g',t',cs,fuel,p,hg',ht',hvar,hd⟩:=h
  obtain rfl:=Option.some.inj (hg.symm.trans hg')
  obtain rfl:=Option.some.inj (hty.symm.trans ht')
  unfold Lib.TabIs
  rw [hvar,<- Lib.cells_of_tab ht he hce hct hd]
end
def litCell:DataW Unit->Value
  | .lit (.int k z) => .int k z
  | .lit (.string z)=>Num.strVal z
  | _ => .tuple #[]
def tabCells:DataW Unit->Array Value
  | .agg xs=>(xs.map litCell).toArray
  | _=>#[]
def layOne (d:DataW Unit):Obj->Obj
  | .cells _ t frozen => .cells (tabCells d) t frozen
  | o=>o
end Go.Proofs.YtppdbnccinfegaaGreatDoor.Card
end
