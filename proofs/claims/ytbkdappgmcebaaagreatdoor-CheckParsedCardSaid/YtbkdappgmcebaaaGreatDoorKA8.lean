/- Part 9 of the proof: what is used of the texts ExprG, ExprI, ExprK, ExprL, ExprM, ExprN. -/
import Derived.Test.YtbkdappgmcebaaaGreatDoorKA7
import Derived.Test.YtbkdappgmcebaaaGreatDoorKA3
import Derived.Test.YtbkdappgmcebaaaGreatDoorKA6
import Derived.Deep.RegionWith
import Derived.Deep.AppendLies
import Derived.Deep.DeepCutAuto
section
namespace Go.Proofs.YtbkdappgmcebaaaGreatDoor.Expr
open Go.RowKit Go.Proofs.YtbkdappgmcebaaaGreatDoor.Mem Go.Lib
def URow (w:World) (v:Value) (u:List Nat):Prop :=
  (u=[]/\∃ p cap,v = .slice p 0 cap) \/ ∃ g o cap,v = .slice (some ⟨g,o,none⟩) u.length cap/\u.length<=1000000/\∀ i a,u[i]? = some a->w.cell? ⟨g,o+i,none⟩=some (.int .u64 (a:Nat))
section
variable (l : List It) (u : List Nat) (k n : Nat) (v uv : Value) (w : World)
end
end Go.Proofs.YtbkdappgmcebaaaGreatDoor.Expr
end
section
namespace Go.Proofs.YtbkdappgmcebaaaGreatDoor.Expr
open Go.RowKit Go.Proofs.YtbkdappgmcebaaaGreatDoor.Mem Go.Lib
structure Fr (B:Nat) (ts:List TypeId) (w w':World):Prop where
  low:Below B w w'
  by_:∀ t,t ∉ ts->Stable t w w'
section
variable {B : Nat} {ts us : List TypeId} {w w' w'' : World}
theorem Fr.trans (h:Fr B ts w w') (k:Fr B ts w' w''):Fr B ts w w'':=⟨h.low.trans k.low,fun t ht=>(h.by_ t ht).trans (k.by_ t ht)⟩
theorem Fr.below (h:Below w.heap.size w w') (hB:B<=w.heap.size):Fr B ts w w':=⟨h.mono hB,fun _ _=>Stable.below h⟩
theorem Fr.size (h:Fr B ts w w'):w.heap.size<=w'.heap.size:=h.low.size
end
theorem own_stable {w w':World} {base:Nat} {e:TypeId} {size n:Nat} {v:Value} {xs:List Value} (h:w.ownsRow base e size v n xs) (hs:Stable e w w'):w'.ownsRow base e size v n xs:=by
  refine ⟨h.1,?_⟩
  rcases h.2 with h2 | ⟨g,cap,cur,rfl,hb,hh,r⟩
  · exact .inl h2
  · exact .inr ⟨g,cap,cur,rfl,hb,hs g cur hh,r⟩
theorem own_far {w:World} {base:Nat} {e t:TypeId} {size n g:Nat} {v:Value} {xs:List Value} {cs:Array Value} (h:w.ownsRow base e size v n xs) (hg:Sits w g t cs) (hne:e≠t):v.ownBlock≠some g:=by
  rcases h.2 with ⟨rfl,_⟩ | ⟨g',cap,cur,rfl,_,hh,_⟩
  · simp [Value.ownBlock]
  · intro he
    have:g' = g:=by simpa [Value.ownBlock] using he
    subst this
    exact Sits.differ (t:=e) hh hg hne rfl
theorem own_slice {w:World} {base:Nat} {e:TypeId} {size n:Nat} {v:Value} {xs:List Value} (h:w.ownsRow base e size v n xs):∃ p cap,v = .slice p n cap:=by
  rcases h.2 with ⟨rfl,rfl⟩ | ⟨g,cap,cur,rfl,_⟩
  · exact ⟨_,_,rfl⟩
  · exact ⟨_,_,rfl⟩
theorem own_last {w:World} {base:Nat} {e:TypeId} {size n:Nat} {v:Value} {xs ys:List Value} (h:w.ownsRow base e size v (n+1) (xs ++ ys)) (hx:xs.length=n * size) :
    ∃ g cap,v = .slice (some ⟨g,0,none⟩) (n+1) cap/\n+1<=cap/\cap<=maxLen/\g<w.heap.size/\(∀ j u,ys[j]? = some u->w.cell? ⟨g,n * size+j,none⟩=some u)/\w.ownsRow base e size (.slice (some ⟨g,0,none⟩) n cap) n xs:=by
  have h':=h
  rcases h.2 with ⟨_,h0⟩ | ⟨g,cap,cur,rfl,hb,hh,hc,hm,hcs,ht⟩
  · omega
  · refine ⟨g,cap,rfl,hc,hm,lt_of_block hh,fun j u hu=>?_,hx,.inr ⟨g,cap,cur,rfl,hb,hh,by omega,hm,hcs,?_⟩⟩
    · have:=h'.cells (g:=g) rfl (n * size+j) u (by rw [List.getElem?_append_right (by omega),hx];rw [Nat.add_sub_cancel_left];exact hu)
      rwa [Addr.add_lit,Nat.zero_add] at this
    · have e1:(cur.toList.take ((n+1) * size)).take (n * size)=cur.toList.take (n * size):=by
        rw [List.take_take,Nat.min_eq_left (Nat.mul_le_mul_right _ (Nat.le_succ n))]
      rw [<- e1,ht,<- hx,List.take_left']
      rfl
theorem grown_stable {w w':World} {base:Nat} {e t:TypeId} {size n:Nat} {v:Value} {xs:List Value} (h:w.ownsRow base e size v n xs) (hg:w.grownBy w' v.ownBlock) (hne:e≠t):Stable t w w' :=
  fun _ _ hs=>hs.grown hg (own_far h hs hne)
end Go.Proofs.YtbkdappgmcebaaaGreatDoor.Expr
end
section
namespace Go.Proofs.YtbkdappgmcebaaaGreatDoor.Expr
open Go.RowKit Go.Proofs.YtbkdappgmcebaaaGreatDoor.Mem Go.Lib
def partCells (p:List UInt8 × Nat):List Value:=[.string (str p.1),.int .i64 (p.2:Nat)]
def parts (st:List (List UInt8 × Nat)):List Value:=st.flatMap partCells
theorem parts_snoc (st:List (List UInt8 × Nat)) (p:List UInt8 × Nat):parts (st ++ [p])=parts st ++ partCells p:=by simp [parts]
theorem parts_len (st:List (List UInt8 × Nat)):(parts st).length=st.length * 2:=by
  induction st with
  | nil=>rfl
  | cons p st ih=>simp only [parts,List.flatMap_cons,List.length_append,List.length_cons] at ih ⊢;rw [ih];simp [partCells];omega
def TStk (B g:Nat) (w:World) (st:List (List UInt8 × Nat)):Prop:=∃ v,Sits w g 189 #[v]/\B<=g/\w.ownsRow B 192 2 v st.length (parts st)
def TIn (C B g:Nat) (w:World) (st:List (List UInt8 × Nat)):Prop:=∃ v,Sits w g 189 #[v]/\B<=g/\w.ownsRow B 192 2 v st.length (parts st)/\∀ b,v.ownBlock=some b->b<C
theorem TStk.in_ {B g:Nat} {w:World} {st:List (List UInt8 × Nat)} (h:TStk B g w st):TIn w.heap.size B g w st:=by
  obtain ⟨v,hs,hB,ho⟩:=h
  exact ⟨v,hs,hB,ho,fun b e=>(ho.lt b e).2⟩
theorem TIn.stk {C B g:Nat} {w:World} {st:List (List UInt8 × Nat)} (h:TIn C B g w st):TStk B g w st:=by
  obtain ⟨v,hs,hB,ho,_⟩:=h
  exact ⟨v,hs,hB,ho⟩
def tts:List TypeId:=[189,192]
theorem TStk.keep {B C g:Nat} {w w':World} {st:List (List UInt8 × Nat)} {ts:List TypeId} (h:TStk B g w st) (hf:Fr C ts w w') (h1:189 ∉ ts) (h2:192 ∉ ts):TStk B g w' st:=by
  obtain ⟨v,hs,hB,ho⟩:=h
  exact ⟨v,hf.by_ _ h1 _ _ hs,hB,own_stable ho (hf.by_ _ h2)⟩
theorem TIn.keeps {C B g:Nat} {w w':World} {st:List (List UInt8 × Nat)} {X:Nat->Prop} (h:TIn C B g w st) (hk:Keeps X w w') (h1:¬ X g) (h2:∀ b,b<C->¬ X b):TIn C B g w' st:=by
  obtain ⟨v,hs,hB,ho,hc⟩:=h
  refine ⟨v,hs.keep hk h1,hB,⟨ho.1,?_⟩,hc⟩
  rcases ho.2 with h3 | ⟨g',cap,cur,rfl,hb,hh,r⟩
  · exact .inl h3
  · exact .inr ⟨g',cap,cur,rfl,hb,Sits.keep hh hk (h2 g' (hc g' rfl)),r⟩
theorem TStk.below {B g:Nat} {w w':World} {st:List (List UInt8 × Nat)} (h:TStk B g w st) (hb:Below w.heap.size w w'):TStk B g w' st:=h.keep (Fr.below (ts:=[]) hb (Nat.le_refl _)) (by simp) (by simp)
theorem writtenInfo:(Tryz.prog.info? 192).map (fun i=>(i.zero,i.size,i.bytes))=some (some (.agg #[.string .empty,.int .i64 0]),2,24):=by kernel_rfl
theorem part_at (W:World) (p:List UInt8 × Nat):∀ j u,(partCells p)[j]? = some u->((W.alloc (.cells #[.string (str p.1),.int .i64 (p.2:Nat)] 192)).drew).cell? ((⟨W.heap.size,0,none⟩:Addr).add j)=some u:=by
  intro j u hu
  have:=((Sits.new W 192 #[.string (str p.1),.int .i64 (p.2:Nat)]).drew).cell j
  rw [Addr.add_lit,Nat.zero_add,this]
  simpa [partCells] using hu
theorem part_one (p:List UInt8 × Nat):∀ u ∈ partCells p,u.oneCell' = true:=by
  intro u hu
  simp only [partCells,List.mem_cons,List.not_mem_nil,or_false] at hu
  rcases hu with rfl | rfl <;> rfl
def TPushed (B g:Nat) (st:List (List UInt8 × Nat)) (w:World) (e:Ending) (w':World):Prop:=e = .returned (.tuple #[])/\TStk B g w' st/\Fr B tts w w'
set_option maxRecDepth 100000 in
set_option maxHeartbeats 2000000 in
theorem push_text (B g:Nat) (st:List (List UInt8 × Nat)) (l:List UInt8) (k:Nat) (w:World) (hB:B<=w.heap.size) (hl:st.length<=1000) (h:TStk B g w st) :
    Calls Tryz.prog 168 #[.pointer (some ⟨g,0,none⟩),.agg #[.string (str l),.int .i64 (k:Nat)]] w (TPushed B g (st ++ [(l,k)]) w):=by
  obtain ⟨i0,hi,hz0,hz1,hz2⟩:=info_parts writtenInfo
  have hb0:Below w.heap.size w (w.alloc (.cells #[.string (str l),.int .i64 (k:Nat)] 192)):=(Below.refl _ _).alloc (Nat.le_refl _) _
  obtain ⟨v,hs0,hBg,ho0⟩:=h
  have ab:v.ownBlock≠some w.heap.size:=fun e=>by have:=(ho0.lt _ e).2;omega
  have hs:=hs0.alloc (.cells #[.string (str l),.int .i64 (k:Nat)] 192)
  have ho:=ho0.alloc (.cells #[.string (str l),.int .i64 (k:Nat)] 192)
  have hbx:=Sits.new w 192 #[.string (str l),.int .i64 (k:Nat)]
  have HF0:=Lib.hid (Fr.below (B:=B) (ts:=tts) hb0 hB)
  have hwW:w.heap.size<(w.alloc (.cells #[.string (str l),.int .i64 (k:Nat)] 192)).heap.size:=by simp
  have hlt0:g<w.heap.size:=hs0.lt
  clear hb0 hs0 ho0
  go_enter Tryz.func168,Tryz.ntmps168
  go_wp2_with fail
  change Code.wp _ _ _ _ (w.alloc (.cells #[.string (str l),.int .i64 (k:Nat)] 192))
  generalize w.alloc (.cells #[.string (str l),.int .i64 (k:Nat)] 192)=W at hs ho hbx HF0 hwW ⊢
  have c0:W.cell? ⟨g,0,none⟩=some v:=hs.cell 0
  have b0:W.cell? ⟨w.heap.size,0,none⟩=some (.string (str l)):=hbx.cell 0
  have b1:W.cell? ⟨w.heap.size,1,none⟩=some (.int .i64 (k:Nat)):=hbx.cell 1
  have hBW:B<=W.heap.size:=by omega
  have hgW:g<W.heap.size:=by omega
  have f0:=hs.free 0
  have af:=own_far ho hs (by decide)
  have HS:=Lib.hid hs
  have HBX:=Lib.hid hbx
  clear hbx hs
  go_region_law ((refine step_append_lies _ (by rfl) _ _ _ (by rfl) B 192 i0 _ 2 24 Tryz.underlying185 hi hz0 hz1 hz2 rfl (by omega) v st.length (parts st) (by rfl) ((ho.alloc _).drew) ⟨W.heap.size,0,none⟩ 1 1 [.string (str l),.int .i64 (k:Nat)] (by rfl) (by rfl) (part_at W (l,k)) (part_one (l,k)) (by omega) (by unfold maxLen;omega) (by omega) (by simp;omega) (W.heap.size+1) (by simp) ?_;intro gg cap w1 hown1 hgrow hat hlt1;have S1:=Lib.hid ((HS.out.alloc _).drew.grown hgrow af);have c1:w1.cell? ⟨g,0,none⟩=some v:=S1.out.cell 0;have f1:=S1.out.free 0;have hgl1:=S1.out.lt))
  all_goals
    have HF1:Hid (Fr B tts W w1):=Lib.hid ⟨(((Below.refl B W).alloc hBW _).drew).grown hgrow (by simp;omega) (fun k hk=>(ho.lt k hk).1),fun t ht=>(Stable.below (((Below.refl _ W).alloc (Nat.le_refl _) _).drew)).trans (grown_stable ((ho.alloc _).drew) hgrow (fun e=>ht (by rw [<- e];decide)))⟩
    have HO1:=Lib.hid hown1
    clear hown1 hgrow
    go_wp2_with fail
    go_end0
    exact ⟨rfl,⟨_,S1.out.put 0 _,hBg,by rw [List.length_append,parts_snoc];exact own_stable HO1.out (Stable.put S1.out (by decide) 0 _)⟩,(HF0.out.trans HF1.out).trans ⟨(Below.refl _ _).setCell hBg _,fun t ht=>Stable.put S1.out (fun e=>ht (by rw [e];decide)) 0 _⟩⟩
def TPopped (C B g:Nat) (p:List UInt8 × Nat) (st:List (List UInt8 × Nat)) (w:World) (e:Ending) (w':World):Prop:=e = .returned (.agg #[.string (str p.1),.int .i64 (p.2:Nat)])/\TIn C B g w' st/\Fr B tts w w' /\ Keeps (fun b=>b=g) w w'
set_option maxRecDepth 100000 in
set_option maxHeartbeats 1000000 in
theorem pop_text (C B g:Nat) (st:List (List UInt8 × Nat)) (l:List UInt8) (k:Nat) (w:World) (hB:B<=w.heap.size) (hl:st.length<=1000) (h:TIn C B g w (st ++ [(l,k)])) :
    Calls Tryz.prog 131 #[.pointer (some ⟨g,0,none⟩)] w (TPopped C B g (l,k) st w):=by
  obtain ⟨v,hs,hBg,ho,hC⟩:=h
  rw [List.length_append,parts_snoc] at ho
  obtain ⟨g1,cap,rfl,hc1,hc2,hlt1,hcell,ho2⟩:=own_last (ys:=partCells (l,k)) ho (parts_len st)
  have c0:w.cell? ⟨g,0,none⟩=some (.slice (some ⟨g1,0,none⟩) (st.length+1) cap):=hs.cell 0
  have f0:=hs.free 0
  have hlt:=hs.lt
  have cx:w.cell? ⟨g1,st.length * 2,none⟩=some (.string (str l)):=by have:=hcell 0 _ rfl;simpa using this
  have cy:w.cell? ⟨g1,st.length * 2+1,none⟩=some (.int .i64 (k:Nat)):=hcell 1 _ rfl
  have HS:=Lib.hid hs
  have HO:=Lib.hid ho2
  have HC:=Lib.hid (hC g1 rfl)
  have i1:(0:Int)<=(st.length:Int):=by omega
  have i2:(st.length:Int)<=1000:=by omega
  have i3:(st.length:Int)+1<=cap:=by omega
  unfold maxLen at hc2
  clear hs ho ho2 hcell hC
  go_enter Tryz.func131,Tryz.ntmps131
  go_wp2_with fail
  go_region
  all_goals
    go_wp2_with fail
    refine bodyPost_ret (v:=.agg #[.string (str l),.int .i64 (k:Nat)]) (by simp [results,go_sem]) rfl ?_
    have HS2:=HS.out.put 0 (.slice (some ⟨g1,0,none⟩) st.length cap)
    have hp:Fr B tts w (w.setCell ⟨g,0,none⟩ (.slice (some ⟨g1,0,none⟩) st.length cap)):=⟨(Below.refl _ _).setCell hBg _,fun t ht=>Stable.put HS.out (fun e=>ht (by rw [e];decide)) 0 _⟩
    have hk:Keeps (fun b=>b=g) w (w.setCell ⟨g,0,none⟩ (.slice (some ⟨g1,0,none⟩) st.length cap)):=(Keeps.refl (fun b=>b=g) w).put (p:=⟨g,0,none⟩) (.inl (Eq.refl g)) _
    have hs0:TIn C B g (w.setCell ⟨g,0,none⟩ (.slice (some ⟨g1,0,none⟩) st.length cap)) st:=⟨_,HS2,hBg,own_stable HO.out (Stable.put HS.out (by decide) 0 _),fun b e=>by cases e;exact HC.out⟩
    generalize w.setCell ⟨g,0,none⟩ (.slice (some ⟨g1,0,none⟩) st.length cap)=W at hs0 hp hk ⊢
    have hb:=((((Below.refl W.heap.size W).alloc (Nat.le_refl _) (.cells #[.string (str l),.int .i64 (k:Nat)] 192)).alloc (by simp) (.cells #[.string (str l),.int .i64 (k:Nat)] 192)).drew)
    exact ⟨rfl,hs0.keeps (Keeps.of_below (X:=fun _=>False) hb) (fun h=>h) (fun _ _ h=>h),hp.trans (Fr.below hb (Nat.le_trans hB hp.size)),hk.trans (Keeps.of_below hb)⟩
theorem tpop_none (C B g:Nat) (w:World) (hB:B<=w.heap.size) (h:TIn C B g w []):Calls Tryz.prog 131 #[.pointer (some ⟨g,0,none⟩)] w (TPopped C B g ([],0) [] w):=by
  have HV:=Lib.hid h
  obtain ⟨v,hs,hBg,ho,_⟩:=h
  obtain ⟨p,cap,rfl⟩:=own_slice ho
  have c0:w.cell? ⟨g,0,none⟩=some (.slice p 0 cap):=hs.cell 0
  have hlt:=hs.lt
  clear hs ho
  go_enter Tryz.func131,Tryz.ntmps131
  go_wp2_with fail
  refine bodyPost_ret (v:=.agg #[.string ⟨#[]⟩,.int .i64 0]) (by simp [results,go_sem]) rfl ?_
  have hb:=(((Below.refl w.heap.size w).alloc (Nat.le_refl _) (.cells #[.string ⟨#[]⟩,.int .i64 0] 192)).alloc (by simp) (.cells #[.string ⟨#[]⟩,.int .i64 0] 192))
  exact ⟨rfl,HV.out.keeps (Keeps.of_below (X:=fun _=>False) hb) (fun h=>h) (fun _ _ h=>h),Fr.below hb hB,Keeps.of_below hb⟩
end Go.Proofs.YtbkdappgmcebaaaGreatDoor.Expr
end
section
namespace Go.Proofs.YtbkdappgmcebaaaGreatDoor.Expr
open Go.RowKit Go.Proofs.YtbkdappgmcebaaaGreatDoor.Mem Go.Lib
structure Wr (w0:World) (g:Nat) (st:List (List UInt8 × Nat)) (w:World):Prop where
  stk:TStk w0.heap.size g w st
  low:Below w0.heap.size w0 w
section
variable {w0 w w' : World} {g : Nat} {st st' : List (List UInt8 × Nat)}
theorem Wr.grown (h:Wr w0 g st w) (hb:Below w.heap.size w w'):Wr w0 g st w':=⟨h.stk.below hb,h.low.trans (hb.mono h.low.size)⟩
theorem Wr.drew (h:Wr w0 g st w):Wr w0 g st w.drew:=h.grown (Below.refl _ _).drew
theorem Wr.put (h:Wr w0 g st w) (hs:TStk w0.heap.size g w' st') (hf:Fr w0.heap.size tts w w'):Wr w0 g st' w':=⟨hs,h.low.trans hf.low⟩
theorem Wr.tabs (h:Wr w0 g st w) (hT:Tabs w0):Tabs w:=hT.below h.low
theorem Wr.lt (h:Wr w0 g st w):g<w.heap.size:=by obtain ⟨v,hs,_⟩:=h.stk;exact hs.lt
theorem Wr.push (h:Wr w0 g st w) (l:List UInt8) (k:Nat) (hl:st.length<=1000):Calls Tryz.prog 168 #[.pointer (some ⟨g,0,none⟩),.agg #[.string (str l),.int .i64 (k:Nat)]] w (Done (Wr w0 g (st ++ [(l,k)])) w) :=
  (push_text w0.heap.size g st l k w h.low.size hl h.stk).mono fun _ _ hp=>⟨hp.1,h.put hp.2.1 hp.2.2,hp.2.2.by_ _ (by decide)⟩
structure WrC (C:Nat) (w0:World) (g:Nat) (st:List (List UInt8 × Nat)) (w:World):Prop where
  stk:TIn C w0.heap.size g w st
  low:Below w0.heap.size w0 w
theorem Wr.in_ (h:Wr w0 g st w):WrC w.heap.size w0 g st w:=⟨h.stk.in_,h.low⟩
theorem WrC.wr {C:Nat} (h:WrC C w0 g st w):Wr w0 g st w:=⟨h.stk.stk,h.low⟩
theorem WrC.lt {C:Nat} (h:WrC C w0 g st w):g<w.heap.size:=h.wr.lt
theorem WrC.keeps {C:Nat} {X:Nat->Prop} (h:WrC C w0 g st w) (hk:Keeps X w w') (h1:¬ X g) (h2:∀ b,b<C->¬ X b) (h3:∀ b,b<w0.heap.size->¬ X b):WrC C w0 g st w' :=
  ⟨h.stk.keeps hk h1 h2,⟨hk.os.trans h.low.os,hk.tape.trans h.low.tape,hk.output.trans h.low.output,Nat.le_trans h.low.size hk.size,fun b hb=>(hk.block b (Nat.lt_of_lt_of_le hb h.low.size) (h3 b hb)).trans (h.low.block b hb)⟩⟩
theorem WrC.drew {C:Nat} (h:WrC C w0 g st w):WrC C w0 g st w.drew:=h.keeps (X:=fun _=>False) (Keeps.refl _ w).drew (fun h=>h) (fun _ _ h=>h) (fun _ _ h=>h)
theorem WrC.alloc {C:Nat} (h:WrC C w0 g st w) (o:Obj):WrC C w0 g st (w.alloc o):=h.keeps (X:=fun _=>False) ((Keeps.refl _ w).alloc o) (fun h=>h) (fun _ _ h=>h) (fun _ _ h=>h)
def WPop (C:Nat) (w0:World) (g:Nat) (l:List UInt8) (k:Nat) (st:List (List UInt8 × Nat)) (w:World) (e:Ending) (w':World):Prop:=e = .returned (.agg #[.string (str l),.int .i64 (k:Nat)])/\WrC C w0 g st w' /\ Stable 171 w w' /\ Keeps (fun b=>b=g) w w'
theorem WrC.pop {C:Nat} {l:List UInt8} {k:Nat} (h:WrC C w0 g (st ++ [(l,k)]) w) (hl:st.length<=1000):Calls Tryz.prog 131 #[.pointer (some ⟨g,0,none⟩)] w (WPop C w0 g l k st w) :=
  (pop_text C w0.heap.size g st l k w h.low.size hl h.stk).mono fun _ _ hp=>⟨hp.1,⟨hp.2.1,h.low.trans hp.2.2.1.low⟩,hp.2.2.1.by_ _ (by decide),hp.2.2.2⟩
theorem Wr.pop {l:List UInt8} {k:Nat} (h:Wr w0 g (st ++ [(l,k)]) w) (hl:st.length<=1000):Calls Tryz.prog 131 #[.pointer (some ⟨g,0,none⟩)] w (WPop w.heap.size w0 g l k st w):=h.in_.pop hl
end
def textR (e:Ex) (st:List (List UInt8 × Nat)):List (List UInt8 × Nat):=st ++ [(e.text,e.strong)]
set_option maxRecDepth 100000 in
set_option maxHeartbeats 1000000 in
theorem tleaf_any (w0:World) (hT:Tabs w0) (g:Nat) (e:Ex) (hle:e.isLeaf=true) (ho:e.ok) (st:List (List UInt8 × Nat)) (hl:st.length<=900) (w:World) (h:Wr w0 g st w) :
    Calls Tryz.prog 129 #[.pointer (some ⟨g,0,none⟩),leafVal e] w (Done (Wr w0 g (textR e st)) w):=by
  have es:e.strong=5:=by
    cases e with
    | one op a=>cases hle
    | two op a b=>cases hle
    | _=>rfl
  unfold textR
  rw [es]
  have HL:=Lib.hid (fun W (hW:Wr w0 g st W)=>letters_any e hle ho W (hW.tabs hT))
  have HU:=Lib.hid (fun W (hW:Wr w0 g st W)=>hW.push e.text 5 (by omega))
  unfold leafVal exprCells at HL ⊢
  generalize e.text=tx at HL HU ⊢
  generalize leafIt e=it at HL ⊢
  obtain ⟨q,op,n,t,i,x⟩:=it
  simp only at HL ⊢
  have hb:Below w.heap.size w (w.alloc (.cells #[.int .u8 q,.int .u8 op,.int .u64 n,.int .u8 t,.int .u8 i,.int .u8 x,.pointer none,.pointer none] 171)):=(Below.refl _ _).alloc (Nat.le_refl _) _
  have H1:=Lib.hid (h.grown hb)
  have HS0:=Lib.hid (Stable.below (t:=171) hb)
  have hlt:=h.lt
  clear h hb es
  go_enter Tryz.func129,Tryz.ntmps129
  go_wp2_with fail
  go_region_with (first
    | (go_at_call 169;refine (HL.out _ H1.out.drew).mono ?_;rintro e w1 ⟨rfl,hb1⟩;have H2:=Lib.hid (H1.out.drew.grown hb1);have HS1:=Lib.hid (HS0.out.trans (Stable.trans (w':=World.drew _) (fun _ _ hs=>hs.drew) (Stable.below hb1)));clear hb1)
    | (go_at_call 168;refine (HU.out _ H2.out).mono ?_;rintro e w2 ⟨rfl,hw2,hs2⟩;have H3:=Lib.hid hw2;have HS2:=Lib.hid (HS1.out.trans hs2);clear hw2 hs2))
  all_goals
    go_wp2_with fail
    go_end0
    exact ⟨rfl,H3.out,HS2.out⟩
theorem strong_pos' (op:Nat):strongOp op<=4:=by
  unfold strongOp
  repeat' split
  all_goals omega
theorem alloc_stable (w:World) (o:Obj):Stable 171 w (w.alloc o):=Stable.below ((Below.refl _ w).alloc (Nat.le_refl _) o)
abbrev zbox:Obj:=.cells #[.string ⟨#[]⟩,.int .i64 0] 192
def Zat (w:World) (b:Nat):Prop:=Sits w b 192 #[.string ⟨#[]⟩,.int .i64 0]
theorem Zat.new (w:World):Zat (w.alloc zbox) w.heap.size:=Sits.new _ _ _
theorem Zat.new2 (w:World):Zat ((w.alloc zbox).alloc zbox) (w.heap.size+1):=by
  have:=Zat.new (w.alloc zbox)
  simpa using this
theorem Zat.alloc {w:World} {b:Nat} (h:Zat w b) (o:Obj):Zat (w.alloc o) b:=Sits.alloc h o
theorem Zat.keep {w w':World} {b g:Nat} (h:Zat w b) (k:Keeps (fun b=>b=g) w w') (hn:g<b):Zat w' b:=Sits.keep h k (fun e=>by omega)
theorem Zat.facts {w:World} {b:Nat} (h:Zat w b):(w.cell? ⟨b,0,none⟩=some (.string ⟨#[]⟩)/\w.cell? ⟨b,1,none⟩=some (.int .i64 0))/\w.frozen? ⟨b,0,none⟩=false/\w.frozen? ⟨b,1,none⟩=false/\b<w.heap.size:=⟨⟨Sits.cell h 0,Sits.cell h 1⟩,Sits.free h 0,Sits.free h 1,Sits.lt h⟩
theorem drew_stable (w:World):Stable 171 w w.drew:=fun _ _ hs=>hs.drew
set_option maxRecDepth 100000 in
set_option maxHeartbeats 1000000 in
theorem tjoin_one (w0:World) (hT:Tabs w0) (g op:Nat) (hop:op=13 \/ op=14) (ta:List UInt8) (ka:Nat) (hla:ta.length<=1000000) (st:List (List UInt8 × Nat)) (hl:st.length<=900) (w:World) (h:Wr w0 g (st ++ [(ta,ka)]) w) :
    Calls Tryz.prog 130 #[.pointer (some ⟨g,0,none⟩),.int .u8 (op:Nat)] w (Done (Wr w0 g (st ++ [(sign op ++ atLeast (strongOp op) ka ta,strongOp op)])) w):=by
  have HSD:=Lib.hid (sides_one.2 hop)
  have HSG:=Lib.hid (fun W (hW:Tabs W)=>sign_any op (by omega) W hW)
  have HST:=Lib.hid (fun W=>strength_any op W)
  have HP:=Lib.hid (fun W (hW:Wr w0 g (st ++ [(ta,ka)]) W)=>hW.pop (by omega))
  have la:=atLeast_len (strongOp op) ka ta
  have ls:=sign_len op
  have p3:∀ W,(Op.stringOp .add (str (sign op)) (str (atLeast (strongOp op) ka ta))).run Tryz.prog W = .ok (.string (str (sign op ++ atLeast (strongOp op) ka ta))) W:=fun W=>add_str _ _ (by omega) W
  have HA:=Lib.hid (fun W=>atLeast_any ta ka (strongOp op) hla W)
  have HU:=Lib.hid (fun W (hW:Wr w0 g st W)=>hW.push (sign op ++ atLeast (strongOp op) ka ta) (strongOp op) (by omega))
  have HTB:=Lib.hid (h.tabs hT)
  have H0:=Lib.hid h
  have hlt:=h.lt
  clear h la ls hT hla hop
  generalize sign op ++ atLeast (strongOp op) ka ta=tr at p3 HU ⊢
  generalize atLeast (strongOp op) ka ta=tb at p3 HA
  generalize strongOp op=so at *
  generalize sign op=sg at *
  go_enter Tryz.func130,Tryz.ntmps130
  go_wp2_with (first | (go_at_call 170;refine (HSG.out _ HTB.out).mono ?_;rintro e w' ⟨rfl,rfl⟩) | (go_at_call 137;refine (HST.out _).mono ?_;rintro e w' ⟨rfl,rfl⟩) | (go_at_call 171;refine (sides_nat _ _).mono ?_;rw [HSD.out];rintro e w' ⟨rfl,rfl⟩))
  go_region_with (first
    | (go_at_call 131;refine (HP.out _ H0.out.drew).mono ?_;rintro e w1 ⟨rfl,hw1,hs1,_⟩;have H1:=Lib.hid hw1.wr;have HS1:=Lib.hid ((drew_stable w).trans hs1);clear hw1 hs1)
    | (go_at_call 172;refine (HA.out _).mono ?_;rintro e w2 ⟨rfl,hb2⟩;have H2:=Lib.hid (H1.out.grown hb2);have HS2:=Lib.hid (HS1.out.trans (Stable.below hb2));clear hb2)
    | (go_at_call 168;refine (HU.out _ H2.out).mono ?_;rintro e w3 ⟨rfl,hw3,hs3⟩;have H3:=Lib.hid hw3;have HS3:=Lib.hid (HS2.out.trans hs3);clear hw3 hs3))
  all_goals
    go_wp2_with fail
    go_end0
    exact ⟨rfl,H3.out,HS3.out⟩
structure Fin (w0 w:World) (g:Nat) (st:List (List UInt8 × Nat)) (a b:List UInt8 × Nat) (b6 b7:Nat) (W:World):Prop where
  right:Sits W b6 192 #[.string (str b.1),.int .i64 (b.2:Nat)]
  left:Sits W b7 192 #[.string (str a.1),.int .i64 (a.2:Nat)]
  wr:Wr w0 g st W
  tree:Stable 171 w W
section
variable {w0 w w2 : World} {g : Nat} {st : List (List UInt8 × Nat)} {ta tb : List UInt8} {ka kb : Nat} {b6 b7 : Nat}
theorem Fin.grown {W W':World} {a b:List UInt8 × Nat} (h:Fin w0 w g st a b b6 b7 W) (hb:Below W.heap.size W W'):Fin w0 w g st a b b6 b7 W':=⟨h.right.below hb h.right.lt,h.left.below hb h.left.lt,h.wr.grown hb,h.tree.trans (Stable.below hb)⟩
theorem Fin.drew {W:World} {a b:List UInt8 × Nat} (h:Fin w0 w g st a b b6 b7 W):Fin w0 w g st a b b6 b7 W.drew:=h.grown (Below.refl _ _).drew
theorem Fin.facts {W:World} {a b:List UInt8 × Nat} (h:Fin w0 w g st a b b6 b7 W):(W.cell? ⟨b6,0,none⟩=some (.string (str b.1))/\W.cell? ⟨b6,1,none⟩=some (.int .i64 (b.2:Nat)))/\(W.cell? ⟨b7,0,none⟩=some (.string (str a.1))/\W.cell? ⟨b7,1,none⟩=some (.int .i64 (a.2:Nat)))/\g<W.heap.size:=⟨⟨h.right.cell 0,h.right.cell 1⟩,⟨h.left.cell 0,h.left.cell 1⟩,h.wr.lt⟩
theorem Zat.put {b:Nat} (h:Zat w2 b) (t:List UInt8) (k:Nat):Sits ((w2.setCell ⟨b,0,none⟩ (.string (str t))).setCell ⟨b,1,none⟩ (.int .i64 (k:Nat))) b 192 #[.string (str t),.int .i64 (k:Nat)]:=(Sits.put h 0 _).put 1 _
theorem WrC.put {b:Nat} (h:WrC w.heap.size w0 g st w2) (hg:g<w.heap.size) (h0:w0.heap.size<=w.heap.size) (hb:w.heap.size<=b) (u v:Value):WrC w.heap.size w0 g st ((w2.setCell ⟨b,0,none⟩ u).setCell ⟨b,1,none⟩ v) :=
  h.keeps (X:=fun x=>x=b) (((Keeps.refl (fun x=>x=b) w2).put (p:=⟨b,0,none⟩) (.inl (Eq.refl b)) u).put (p:=⟨b,1,none⟩) (.inl (Eq.refl b)) v) (fun e=>by omega) (fun x hx e=>by omega) (fun x hx e=>by omega)
theorem tree_put {b:Nat} {cs:Array Value} (hs:Sits w2 b 192 cs) (u v:Value):Stable 171 w2 ((w2.setCell ⟨b,0,none⟩ u).setCell ⟨b,1,none⟩ v) :=
  (Stable.put hs (by decide) 0 u).trans (Stable.put (hs.put 0 u) (by decide) 1 v)
theorem Fin.way1 (h:WrC w.heap.size w0 g st w2) (hs:Stable 171 w w2):Fin w0 w g st (ta,ka) (tb,kb) w2.heap.size (w2.heap.size+1) ((w2.alloc (.cells #[.string (str tb),.int .i64 (kb:Nat)] 192)).alloc (.cells #[.string (str ta),.int .i64 (ka:Nat)] 192)) :=
  ⟨(Sits.new _ _ _).alloc _,Sits.made (by simp) _ _,((h.alloc _).alloc _).wr,(hs.trans (alloc_stable _ _)).trans (alloc_stable _ _)⟩
theorem Fin.way2 (h:WrC w.heap.size w0 g st w2) (hs:Stable 171 w w2):Fin w0 w g st (ta,ka) (tb,kb) (w2.heap.size+1) w2.heap.size ((w2.alloc (.cells #[.string (str ta),.int .i64 (ka:Nat)] 192)).alloc (.cells #[.string (str tb),.int .i64 (kb:Nat)] 192)) :=
  ⟨Sits.made (by simp) _ _,(Sits.new _ _ _).alloc _,((h.alloc _).alloc _).wr,(hs.trans (alloc_stable _ _)).trans (alloc_stable _ _)⟩
theorem Fin.way3 (h:WrC w.heap.size w0 g st w2) (hs:Stable 171 w w2) (hg:g<w.heap.size) (h0:w0.heap.size<=w.heap.size) (z:Zat w2 b6) (hb:w.heap.size<=b6):Fin w0 w g st (ta,ka) (tb,kb) b6 w2.heap.size (((w2.setCell ⟨b6,0,none⟩ (.string (str tb))).setCell ⟨b6,1,none⟩ (.int .i64 (kb:Nat))).alloc (.cells #[.string (str ta),.int .i64 (ka:Nat)] 192)) :=
  ⟨(z.put tb kb).alloc _,Sits.made (by simp [World.setCell]) _ _,((h.put hg h0 hb _ _).alloc _).wr,(hs.trans (tree_put z _ _)).trans (alloc_stable _ _)⟩
theorem Fin.way4 (h:WrC w.heap.size w0 g st w2) (hs:Stable 171 w w2) (hg:g<w.heap.size) (h0:w0.heap.size<=w.heap.size) (z:Zat w2 b7) (hb:w.heap.size<=b7):Fin w0 w g st (ta,ka) (tb,kb) w2.heap.size b7 (((w2.setCell ⟨b7,0,none⟩ (.string (str ta))).setCell ⟨b7,1,none⟩ (.int .i64 (ka:Nat))).alloc (.cells #[.string (str tb),.int .i64 (kb:Nat)] 192)) :=
  ⟨Sits.made (by simp [World.setCell]) _ _,(z.put ta ka).alloc _,((h.put hg h0 hb _ _).alloc _).wr,(hs.trans (tree_put z _ _)).trans (alloc_stable _ _)⟩
theorem Fin.way5 (h:WrC w.heap.size w0 g st w2) (hs:Stable 171 w w2) (hg:g<w.heap.size) (h0:w0.heap.size<=w.heap.size) (z6:Zat w2 b6) (z7:Zat w2 b7) (hb:w.heap.size<=b6) (hb':w.heap.size<=b7) (hne:b6≠b7):Fin w0 w g st (ta,ka) (tb,kb) b6 b7 ((((w2.setCell ⟨b6,0,none⟩ (.string (str tb))).setCell ⟨b6,1,none⟩ (.int .i64 (kb:Nat))).setCell ⟨b7,0,none⟩ (.string (str ta))).setCell ⟨b7,1,none⟩ (.int .i64 (ka:Nat))):=by
  have z7':Zat ((w2.setCell ⟨b6,0,none⟩ (.string (str tb))).setCell ⟨b6,1,none⟩ (.int .i64 (kb:Nat))) b7:=(Sits.far z7 (p:=⟨b6,0,none⟩) (Ne.symm hne) _).far (p:=⟨b6,1,none⟩) (Ne.symm hne) _
  exact ⟨((z6.put tb kb).far (p:=⟨b7,0,none⟩) hne _).far (p:=⟨b7,1,none⟩) hne _,z7'.put ta ka,((h.put hg h0 hb _ _).put hg h0 hb' _ _).wr,(hs.trans (tree_put z6 _ _)).trans (tree_put z7' _ _)⟩
end
set_option maxRecDepth 100000 in
set_option maxHeartbeats 4000000 in
theorem tjoin_two (w0:World) (hT:Tabs w0) (g op:Nat) (h1:1<=op) (h2:op<=12) (ta tb:List UInt8) (ka kb:Nat) (hla:ta.length<=1000000) (hlb:tb.length<=1000000) (st:List (List UInt8 × Nat)) (hl:st.length<=900) (w:World) (h:Wr w0 g (st ++ [(ta,ka)] ++ [(tb,kb)]) w) :
    Calls Tryz.prog 130 #[.pointer (some ⟨g,0,none⟩),.int .u8 (op:Nat)] w (Done (Wr w0 g (st ++ [(atLeast (strongOp op) ka ta ++ [32] ++ sign op ++ [32] ++ atLeast (strongOp op+1) kb tb,strongOp op)])) w):=by
  have HSD:=Lib.hid (sides_two.2 ⟨h1,h2⟩)
  have HSG:=Lib.hid (fun W (hW:Tabs W)=>sign_any op (by omega) W hW)
  have HST:=Lib.hid (fun W=>strength_any op W)
  have HP1:=Lib.hid (fun W (hW:WrC w.heap.size w0 g (st ++ [(ta,ka)] ++ [(tb,kb)]) W)=>hW.pop (by simp;omega))
  have HP2:=Lib.hid (fun W (hW:WrC w.heap.size w0 g (st ++ [(ta,ka)]) W)=>hW.pop (by omega))
  have lA:=atLeast_len (strongOp op) ka ta
  have lB:=atLeast_len (strongOp op+1) kb tb
  have ls:=sign_len op
  have HA:=Lib.hid (fun W=>atLeast_any ta ka (strongOp op) hla W)
  have HB:=Lib.hid (fun W=>show Calls Tryz.prog 172 #[.agg #[.string (str tb),.int .i64 kb],.int .i64 ((strongOp op:Int)+1)] W fun e' w'=>Made (.returned (.string (str (atLeast (strongOp op+1) kb tb)))) W e' w' from atLeast_any tb kb (strongOp op+1) hlb W)
  have hso:=strong_pos' op
  generalize atLeast (strongOp op) ka ta=A at HA lA ⊢
  generalize atLeast (strongOp op+1) kb tb=Bt at HB lB ⊢
  have s1:∀ W,(Op.stringOp .add (str A) ⟨#[32]⟩).run Tryz.prog W = .ok (.string (str (A ++ [32]))) W:=fun W=>add_str A [32] (by simp;omega) W
  obtain ⟨L1,e1⟩:∃ L,L=A ++ [32]:=⟨_,rfl⟩
  have l1:L1.length<=1000003:=by rw [e1];simp;omega
  rw [<- e1] at s1 ⊢
  have s2:∀ W,(Op.stringOp .add (str L1) (str (sign op))).run Tryz.prog W = .ok (.string (str (L1 ++ sign op))) W:=fun W=>add_str L1 (sign op) (by omega) W
  obtain ⟨L2,e2⟩:∃ L,L=L1 ++ sign op:=⟨_,rfl⟩
  have l2:L2.length<=1000005:=by rw [e2];simp;omega
  rw [<- e2] at s2 ⊢
  have s3:∀ W,(Op.stringOp .add (str L2) ⟨#[32]⟩).run Tryz.prog W = .ok (.string (str (L2 ++ [32]))) W:=fun W=>add_str L2 [32] (by simp;omega) W
  obtain ⟨L3,e3⟩:∃ L,L=L2 ++ [32]:=⟨_,rfl⟩
  have l3:L3.length<=1000006:=by rw [e3];simp;omega
  rw [<- e3] at s3 ⊢
  have s4:∀ W,(Op.stringOp .add (str L3) (str Bt)).run Tryz.prog W = .ok (.string (str (L3 ++ Bt))) W:=fun W=>add_str L3 Bt (by omega) W
  obtain ⟨L4,e4⟩:∃ L,L=L3 ++ Bt:=⟨_,rfl⟩
  rw [<- e4] at s4 ⊢
  have HU:=Lib.hid (fun W (hW:Wr w0 g st W)=>hW.push L4 (strongOp op) (by omega))
  have HTB:=Lib.hid (h.tabs hT)
  have H0:=Lib.hid h.in_
  have hg0:w0.heap.size<=w.heap.size:=h.low.size
  have hlt:=h.lt
  clear h hT hla hlb e1 e2 e3 e4 l1 l2 l3 lA lB ls h1 h2
  generalize strongOp op=so at *
  generalize sign op=sg at *
  have hw:IntKind.i64.wrap ((so:Int)+1)=(so:Int)+1:=IntWalk.i64_in _ (by omega)
  go_enter Tryz.func130,Tryz.ntmps130
  go_wp2_with (first | (go_at_call 170;refine (HSG.out _ HTB.out).mono ?_;rintro e w' ⟨rfl,rfl⟩) | (go_at_call 137;refine (HST.out _).mono ?_;rintro e w' ⟨rfl,rfl⟩) | (go_at_call 171;refine (sides_nat _ _).mono ?_;rw [HSD.out];rintro e w' ⟨rfl,rfl⟩))
  go_upto_region 3 with fail
  go_cut [6,7] (fun s6 s7 wx=>∃ b6 b7,s6 = .pointer (some ⟨b6,0,none⟩)/\s7 = .pointer (some ⟨b7,0,none⟩)/\Fin w0 w g st (ta,ka) (tb,kb) b6 b7 wx)
  case first =>
    go_region_with (first
      | (go_at_call 131;refine (HP1.out (World.drew w) H0.out.drew).mono ?_;rintro e w1 ⟨rfl,hw1,hs1,hk1⟩;have H1:=Lib.hid hw1;have HS1:=Lib.hid ((drew_stable w).trans hs1);have hl1:w.heap.size+0<=w1.heap.size:=(by have:=hk1.size;simpa using this);have hlg1:g<w1.heap.size:=H1.out.lt;clear hw1 hs1 hk1 H0)
      | (go_at_call 131;refine (HP1.out (World.alloc (World.drew w) zbox) (H0.out.drew.alloc _)).mono ?_;rintro e w1 ⟨rfl,hw1,hs1,hk1⟩;have H1:=Lib.hid hw1;have HS1:=Lib.hid (((drew_stable w).trans (alloc_stable _ zbox)).trans hs1);have XA:Hid (Zat w1 w.heap.size):=Lib.hid ((Zat.new (World.drew w)).keep hk1 hlt);have hl1:w.heap.size+1<=w1.heap.size:=(by have:=hk1.size;simpa using this);have hlg1:g<w1.heap.size:=H1.out.lt;clear hw1 hs1 hk1 H0)
      | (go_at_call 131;refine (HP1.out (World.alloc (World.alloc (World.drew w) zbox) zbox) ((H0.out.drew.alloc _).alloc _)).mono ?_;rintro e w1 ⟨rfl,hw1,hs1,hk1⟩;have H1:=Lib.hid hw1;have HS1:=Lib.hid ((((drew_stable w).trans (alloc_stable _ zbox)).trans (alloc_stable _ zbox)).trans hs1);have XA:Hid (Zat w1 w.heap.size):=Lib.hid (((Zat.new (World.drew w)).alloc zbox).keep hk1 hlt);have XB:Hid (Zat w1 (w.heap.size+1)):=Lib.hid (((Zat.new2 (World.drew w))).keep hk1 (Nat.lt_succ_of_lt hlt));have hl1:w.heap.size+2<=w1.heap.size:=(by have:=hk1.size;simpa using this);have hlg1:g<w1.heap.size:=H1.out.lt;clear hw1 hs1 hk1 H0)
      | (go_at_call 131;(fail_if_success (have:=XA));refine (HP2.out w1 H1.out).mono ?_;rintro e w2 ⟨rfl,hw2,hs2,hk2⟩;have H2:=Lib.hid hw2;have HS2:=Lib.hid (HS1.out.trans hs2);have hl2:w1.heap.size+0<=w2.heap.size:=(by have:=hk2.size;simpa using this);have hlg2:g<w2.heap.size:=H2.out.lt;clear hw2 hs2 hk2)
      | (go_at_call 131;(fail_if_success (have:=XA));refine (HP2.out (World.alloc w1 zbox) (H1.out.alloc _)).mono ?_;rintro e w2 ⟨rfl,hw2,hs2,hk2⟩;have H2:=Lib.hid hw2;have HS2:=Lib.hid ((HS1.out.trans (alloc_stable _ zbox)).trans hs2);have hl2:w1.heap.size+1<=w2.heap.size:=(by have:=hk2.size;simpa using this);have Ya:=((Zat.new w1).keep hk2 hlg1);obtain ⟨⟨ya0,ya1⟩,za0,za1,la⟩:=Ya.facts;have HYa:=Lib.hid Ya;clear Ya;have hlg2:g<w2.heap.size:=H2.out.lt;clear hw2 hs2 hk2)
      | (go_at_call 131;(fail_if_success (have:=XA));refine (HP2.out (World.alloc (World.alloc w1 zbox) zbox) ((H1.out.alloc _).alloc _)).mono ?_;rintro e w2 ⟨rfl,hw2,hs2,hk2⟩;have H2:=Lib.hid hw2;have HS2:=Lib.hid (((HS1.out.trans (alloc_stable _ zbox)).trans (alloc_stable _ zbox)).trans hs2);have hl2:w1.heap.size+2<=w2.heap.size:=(by have:=hk2.size;simpa using this);have Ya:=((Zat.alloc (Zat.new w1) zbox).keep hk2 hlg1);obtain ⟨⟨ya0,ya1⟩,za0,za1,la⟩:=Ya.facts;have HYa:=Lib.hid Ya;clear Ya;have Yb:=((Zat.new2 w1).keep hk2 (Nat.lt_succ_of_lt hlg1));obtain ⟨⟨yb0,yb1⟩,zb0,zb1,lb⟩:=Yb.facts;have HYb:=Lib.hid Yb;clear Yb;have hlg2:g<w2.heap.size:=H2.out.lt;clear hw2 hs2 hk2)
      | (go_at_call 131;have XA':=XA.out;(fail_if_success (have:=XB));refine (HP2.out w1 H1.out).mono ?_;rintro e w2 ⟨rfl,hw2,hs2,hk2⟩;have H2:=Lib.hid hw2;have HS2:=Lib.hid (HS1.out.trans hs2);have hl2:w1.heap.size+0<=w2.heap.size:=(by have:=hk2.size;simpa using this);have Ya:=(XA'.keep hk2 hlt);obtain ⟨⟨ya0,ya1⟩,za0,za1,la⟩:=Ya.facts;have HYa:=Lib.hid Ya;clear Ya;have hlg2:g<w2.heap.size:=H2.out.lt;clear hw2 hs2 hk2)
      | (go_at_call 131;have XA':=XA.out;(fail_if_success (have:=XB));refine (HP2.out (World.alloc w1 zbox) (H1.out.alloc _)).mono ?_;rintro e w2 ⟨rfl,hw2,hs2,hk2⟩;have H2:=Lib.hid hw2;have HS2:=Lib.hid ((HS1.out.trans (alloc_stable _ zbox)).trans hs2);have hl2:w1.heap.size+1<=w2.heap.size:=(by have:=hk2.size;simpa using this);have Ya:=((Zat.alloc XA' zbox).keep hk2 hlt);obtain ⟨⟨ya0,ya1⟩,za0,za1,la⟩:=Ya.facts;have HYa:=Lib.hid Ya;clear Ya;have Yb:=((Zat.new w1).keep hk2 hlg1);obtain ⟨⟨yb0,yb1⟩,zb0,zb1,lb⟩:=Yb.facts;have HYb:=Lib.hid Yb;clear Yb;have hlg2:g<w2.heap.size:=H2.out.lt;clear hw2 hs2 hk2)
      | (go_at_call 131;have XA':=XA.out;have XB':=XB.out;refine (HP2.out w1 H1.out).mono ?_;rintro e w2 ⟨rfl,hw2,hs2,hk2⟩;have H2:=Lib.hid hw2;have HS2:=Lib.hid (HS1.out.trans hs2);have hl2:w1.heap.size+0<=w2.heap.size:=(by have:=hk2.size;simpa using this);have Ya:=(XA'.keep hk2 hlt);obtain ⟨⟨ya0,ya1⟩,za0,za1,la⟩:=Ya.facts;have HYa:=Lib.hid Ya;clear Ya;have Yb:=(XB'.keep hk2 (Nat.lt_succ_of_lt hlt));obtain ⟨⟨yb0,yb1⟩,zb0,zb1,lb⟩:=Yb.facts;have HYb:=Lib.hid Yb;clear Yb;have hlg2:g<w2.heap.size:=H2.out.lt;clear hw2 hs2 hk2))
    all_goals
      go_wp2_with fail
      go_meet
      first
        | exact ⟨_,_,rfl,rfl,Fin.way1 H2.out HS2.out⟩
        | exact ⟨_,_,rfl,rfl,Fin.way2 H2.out HS2.out⟩
        | exact ⟨_,_,rfl,rfl,Fin.way3 H2.out HS2.out hlt hg0 HYa.out (by omega)⟩
        | exact ⟨_,_,rfl,rfl,Fin.way4 H2.out HS2.out hlt hg0 HYa.out (by omega)⟩
        | exact ⟨_,_,rfl,rfl,Fin.way5 H2.out HS2.out hlt hg0 HYa.out HYb.out (by omega) (by omega) (by omega)⟩
        | exact ⟨_,_,rfl,rfl,Fin.way5 H2.out HS2.out hlt hg0 HYb.out HYa.out (by omega) (by omega) (by omega)⟩
  case rest =>
    obtain ⟨b6,b7,rfl,rfl,hfin⟩:=hcut
    obtain ⟨⟨p00,p01⟩,⟨q00,q01⟩,r0⟩:=hfin.facts
    have F0:=Lib.hid hfin
    clear hfin
    go_wp2_with fail
    go_region_with (first
      | (go_at_call 172;(fail_if_success (have:=F1));have F:=F0.out.drew;(with_reducible refine (HA.out _).mono ?_);rintro e v1 ⟨rfl,hb1⟩;have G:=F.grown hb1;obtain ⟨⟨p10,p11⟩,⟨q10,q11⟩,r1⟩:=G.facts;have F1:=Lib.hid G;clear F G hb1)
      | (go_at_call 172;(fail_if_success (have:=F1));have F:=F0.out.drew;(with_reducible refine (HB.out _).mono ?_);rintro e v1 ⟨rfl,hb1⟩;have G:=F.grown hb1;obtain ⟨⟨p10,p11⟩,⟨q10,q11⟩,r1⟩:=G.facts;have F1:=Lib.hid G;clear F G hb1)
      | (go_at_call 172;have F:=F1.out;(with_reducible refine (HA.out _).mono ?_);rintro e v2 ⟨rfl,hb2⟩;have G:=F.grown hb2;obtain ⟨⟨p20,p21⟩,⟨q20,q21⟩,r2⟩:=G.facts;have F2:=Lib.hid G;clear F G hb2)
      | (go_at_call 172;have F:=F1.out;(with_reducible refine (HB.out _).mono ?_);rintro e v2 ⟨rfl,hb2⟩;have G:=F.grown hb2;obtain ⟨⟨p20,p21⟩,⟨q20,q21⟩,r2⟩:=G.facts;have F2:=Lib.hid G;clear F G hb2)
      | (go_at_call 168;refine (HU.out _ F2.out.wr).mono ?_;rintro e w3 ⟨rfl,hw3,hs3⟩;have H3:=Lib.hid hw3;have HS3:=Lib.hid (F2.out.tree.trans hs3);clear hw3 hs3))
    all_goals
      go_wp2_with fail
      go_end0
      exact ⟨rfl,H3.out,HS3.out⟩
end Go.Proofs.YtbkdappgmcebaaaGreatDoor.Expr
end
section
namespace Go.Proofs.YtbkdappgmcebaaaGreatDoor.Expr
open Go.RowKit Go.Proofs.YtbkdappgmcebaaaGreatDoor.Mem Go.Lib
theorem tleaf_enters:Enters 129:=enters_of Tryz.func129 (by kernel_rfl) rfl
theorem tjoin_enters:Enters 130:=enters_of Tryz.func130 (by kernel_rfl) rfl
theorem text_tells (w0:World) (hT:Tabs w0) (g:Nat):Tells (σ:=List (List UInt8 × Nat)) 129 130 #[.pointer (some ⟨g,0,none⟩)] #[] #[.pointer (some ⟨g,0,none⟩)] #[] textR
    (fun s w=>Wr w0 g s w) (fun s e=>s.length+e.depth<=100/\e.depth<=12) where
  e1:=tleaf_enters
  e2:=tjoin_enters
  leaf:=fun e s w hle ho hb h=>tleaf_any w0 hT g e hle ho s (by omega) w h
  one:=fun op a s w hop ho hb h=>by
    simp only [Ex.depth] at hb
    exact tjoin_one w0 hT g op hop a.text a.strong (by have:=text_len12 a ho (by omega);omega) s (by omega) w h
  two:=fun op a b s w h1 h2 hoa hob hb h=>by
    simp only [Ex.depth] at hb
    exact tjoin_two w0 hT g op h1 h2 a.text b.text a.strong b.strong (by have:=text_len12 a hoa (by omega);omega) (by have:=text_len12 b hob (by omega);omega) s (by omega) w h
  inOne:=fun op a s hb=>by simp only [Ex.depth] at hb;omega
  inTwo:=fun op a b s hb=>by simp only [Ex.depth,textR,List.length_append,List.length_singleton] at hb ⊢;omega
theorem field_letters (a b:Value) (W:World):(Instr.field 192 (.agg #[a,b]) 0).run Tryz.prog W = .ok a W:=by kernel_rfl
theorem textBox_low (w:World):Below w.heap.size w (w.alloc (.cells #[.slice none 0 0] 189)):=(Below.refl _ _).alloc (Nat.le_refl _) _
theorem textBox_stk (w:World):TStk w.heap.size w.heap.size (w.alloc (.cells #[.slice none 0 0] 189)) []:=⟨_,Sits.new _ _ _,Nat.le_refl _,World.ownsRow_nil _ _ _ _⟩
set_option maxRecDepth 100000 in
theorem text_any (e:Ex) (ho:e.ok) (hd:e.depth<=12) (v:Value) (w:World) (hX:Tabs w) (hT:Tree w (treeOf e) v) :
    Calls Tryz.prog 67 #[v] w fun e' w'=>Made (.returned (.string (str e.text))) w e' w':=by
  have hb:=textBox_low w
  have hI:Wr w w.heap.size [] (w.alloc (.cells #[.slice none 0 0] 189)):=⟨textBox_stk w,hb⟩
  have HW:=Lib.hid (walk_any (text_tells w hX w.heap.size) (fun s w w' h hb=>h.grown hb) e [] v _ ho hd ⟨by simp only [List.length_nil];omega,hd⟩ (hT.below hb) hI)
  have HP:=Lib.hid (fun W (h:Wr w w.heap.size (textR e []) W)=>(show Wr w w.heap.size ([] ++ [(e.text,e.strong)]) W from h).pop (by simp))
  obtain ⟨p,rfl,_⟩:=hT.ptr
  clear hb hI hT hX
  generalize e.text=tx at *
  generalize e.strong=es at *
  generalize textR e []=s2 at HP HW
  have hfd:=field_letters
  go_enter Tryz.func67,Tryz.ntmps67
  go_wp2_with fail
  change Calls _ _ _ (World.alloc w _) _
  generalize w.alloc (.cells #[.slice none 0 0] 189)=W at HW ⊢
  refine HW.out.mono ?_
  rintro e w1 ⟨rfl,hr,_⟩
  have HR:=Lib.hid hr
  have hlt:=hr.lt
  clear hr
  go_wp2_with fail
  refine (HP.out _ HR.out).mono ?_
  rintro e w2 ⟨rfl,hq,_⟩
  have HQ:=Lib.hid hq.low
  clear hq
  go_wp2_with fail
  go_ret
  exact ⟨rfl,HQ.out⟩
set_option maxRecDepth 100000 in
theorem text_not (t:Tr) (v:Value) (w:World) (hT:Tree w t v) (hf:fitsF t 12=false):Calls Tryz.prog 67 #[v] w fun e' w'=>Made (.returned (.string ⟨#[]⟩)) w e' w':=by
  have hb:=textBox_low w
  have HW:=Lib.hid (fun x y=>walk_not t x y v (w.alloc (.cells #[.slice none 0 0] 189)) (hT.below hb) hf)
  have HS:=Lib.hid (textBox_stk w)
  have HB:=Lib.hid hb
  obtain ⟨p,rfl,_⟩:=hT.ptr
  have hz:(w.alloc (.cells #[.slice none 0 0] 189)).heap.size=w.heap.size+1:=by simp
  have HZ:=Lib.hid hz
  clear hT hf hb hz
  have hfd:=field_letters
  go_enter Tryz.func67,Tryz.ntmps67
  go_wp2_with fail
  change Calls _ _ _ (World.alloc w _) _
  generalize w.alloc (.cells #[.slice none 0 0] 189)=W at HW HS HB HZ ⊢
  refine (HW.out _ _).mono ?_
  rintro e w1 ⟨rfl,hb⟩
  have HS1:=Lib.hid (HS.out.below hb).in_
  have hlt:w.heap.size<w1.heap.size:=by have:=hb.size;have:=HZ.out;omega
  have HB1:=Lib.hid (HB.out.trans (hb.mono HB.out.size))
  clear hb HZ
  go_wp2_with fail
  refine (tpop_none _ _ _ _ (Nat.le_of_lt hlt) HS1.out).mono ?_
  rintro e w2 ⟨rfl,_,hfr,_⟩
  have HB2:=Lib.hid (HB1.out.trans hfr.low)
  clear hfr
  go_wp2_with fail
  go_ret
  exact ⟨rfl,HB2.out⟩
theorem do_nil (F:FuncId) (f c:Array Value) (W:World):(binOp .neq 173 (.func (.func F) f c) .nilFunc).run Tryz.prog W = .ok (.bool true) W:=by
  have h:∀ d:Nat,(Op.equalIn (d+1) 173 (.func (.func F) f c) .nilFunc).run Tryz.prog W = .ok false W:=fun d=>by
    simp [Op.equalIn,run_underlying Tryz.underlying173]
  simp only [binOp]
  simp [Op.equal,Op.maxDepth,h 9999]
theorem walk1_enters:Enters 153:=enters_of Tryz.func153 (by kernel_rfl) rfl
theorem walk1_any (op:Nat) (w:World):Calls Tryz.prog 153 #[.int .u8 (op:Nat)] w fun e' w'=>e' = .returned (.tuple #[])/\w=w':=by
  go_enter Tryz.func153,Tryz.ntmps153
  go_wp2_with fail
  go_end0
  exact ⟨rfl,rfl⟩
theorem Walk_any {σ:Type} {F:FuncId} {f c:Array Value} {R:Ex->σ->σ} {I:σ->World->Prop} {B:σ->Ex->Prop}
    (T:Tells F 153 f c #[] #[] R I B) (hIb:∀ s w w',I s w->Below w.heap.size w w' -> I s w') (e:Ex) (s:σ) (v:Value) (w:World) (ho:e.ok) (hd:e.depth<=12) (hB:B s e) (hT:Tree w (treeOf e) v) (hI:I s w) :
    Calls Tryz.prog 109 #[v,.func (.func F) f c] w (Done (I (R e s)) w):=by
  have HW:=Lib.hid (walk_any T hIb e s v w ho hd hB hT hI)
  obtain ⟨p,rfl,_⟩:=hT.ptr
  clear hT hI hIb T hB
  generalize I (R e s)=J at HW ⊢
  have hn:=do_nil F f c
  go_enter Tryz.func109,Tryz.ntmps109
  go_wp2_with fail
  refine HW.out.mono ?_
  rintro e w1 ⟨rfl,hj,hs⟩
  have HJ:=Lib.hid hj
  have HS:=Lib.hid hs
  clear hj hs
  go_wp2_with fail
  go_end0
  exact ⟨rfl,HJ.out,HS.out⟩
end Go.Proofs.YtbkdappgmcebaaaGreatDoor.Expr
end
section
namespace Go.Proofs.YtbkdappgmcebaaaGreatDoor.Expr
open Go.RowKit Go.Proofs.YtbkdappgmcebaaaGreatDoor.Mem Go.Lib
def at_ (g:Nat):Value:=.pointer (some ⟨g,0,none⟩)
end Go.Proofs.YtbkdappgmcebaaaGreatDoor.Expr
end
