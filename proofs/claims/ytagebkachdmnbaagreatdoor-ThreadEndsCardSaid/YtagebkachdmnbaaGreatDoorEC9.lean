/- Part 30 of the proof: what is used of the texts StmL. -/
import Derived.Test.YtagebkachdmnbaaGreatDoorEA9
import Derived.Test.YtagebkachdmnbaaGreatDoorEA7
import Derived.Test.YtagebkachdmnbaaGreatDoorEA3
import Derived.LoopN
import Derived.Test.YtagebkachdmnbaaGreatDoorEA8
import Derived.Deep.AppendLies
import Derived.Laws.Tables
section
namespace Go.Proofs.YtagebkachdmnbaaGreatDoor.Prog
open Go.RowKit Go.Proofs.YtagebkachdmnbaaGreatDoor.Mem Go.Proofs.YtagebkachdmnbaaGreatDoor.Expr Go.Proofs.YtagebkachdmnbaaGreatDoor.Flow Go.Lib
theorem Holds.snoc {U:Nat->Prop} {w:World} {m:Mk} {t e:Blk} {av bv tv ev:Value} (ha:Tree w (trO m.a) av) (hb:Tree w (trO m.b) bv) (ht:Stand U w t tv) (he:Stand U w e ev) :
    ∀ {q:Blk} {cs:List Value},Holds U w q cs->Holds U w (q.snoc m t e) (cs ++ stCells m av bv tv ev):=by
  intro q
  induction q with
  | nil =>
    intro cs h
    obtain rfl:cs=[]:=h
    obtain ⟨ct,h1,h2⟩:=ht
    obtain ⟨ce,h3,h4⟩:=he
    exact ⟨av,bv,tv,ev,ct,ce,[],by simp,ha,hb,h1,h2,h3,h4,rfl⟩
  | cons m' t' e' r' _ _ ih =>
    intro cs h
    obtain ⟨av',bv',tv',ev',ct,ce,cr,rfl,h1,h2,h3,h4,h5,h6,h7⟩:=h
    exact ⟨av',bv',tv',ev',ct,ce,_,List.append_assoc _ _ _,h1,h2,h3,h4,h5,h6,ih h7⟩
def Outs (B:Nat) (w:World) (q:Blk) (v:Value):Prop:=∃ cs,w.ownsRow B 169 8 v q.len cs/\Holds (fun g=>B<=g/\g<w.heap.size/\v.ownBlock≠some g) w q cs
def fresh (B:Nat) (w:World):Nat->Prop:=fun g=>B<=g/\g<w.heap.size
section
variable {B : Nat} {w w' : World} {q : Blk} {v : Value}
theorem Outs.nil (B:Nat) (w:World):Outs B w .nil (.slice none 0 0):=⟨[],World.ownsRow_nil _ _ _ _,rfl⟩
theorem Outs.below (h:Outs B w q v) (hb:Below w.heap.size w w'):Outs B w' q v:=by
  obtain ⟨cs,h1,h2⟩:=h
  exact ⟨cs,h1.kept (row:=none) ⟨hb.os,hb.tape,hb.output,hb.size,fun k hk _=>hb.block k hk⟩ (by cases hv:v.ownBlock <;> simp),(h2.below hb).wider fun g ⟨g1,g2,g3⟩=>⟨g1,Nat.lt_of_lt_of_le g2 hb.size,g3⟩⟩
theorem Outs.slice (h:Outs B w q v):∃ p cap,v = .slice p q.len cap:=by
  obtain ⟨cs,h1,_⟩:=h
  exact own_slice h1
theorem Outs.lt (h:Outs B w q v):∀ g,v.ownBlock=some g->g<w.heap.size:=by
  obtain ⟨cs,h1,_⟩:=h
  intro g hg
  rcases h1.2 with ⟨rfl,_⟩ | ⟨g',cap,cur,rfl,_,hh,_⟩
  · simp [Value.ownBlock] at hg
  · have:g' = g:=by simpa [Value.ownBlock] using hg
    subst this;exact lt_of_block hh
theorem Outs.stand (h:Outs B w q v) (hl:q.len<=1000000):Stand (fresh B w) w q v:=by
  obtain ⟨cs,h1,h2⟩:=h
  refine ⟨cs,?_,h2.wider fun g ⟨g1,g2,_⟩=>⟨g1,g2⟩⟩
  rcases h1.2 with ⟨rfl,h0⟩ | ⟨g,cap,cur,rfl,hB,hh,_,_,_,_⟩
  · exact .inl ⟨h0,none,0,rfl⟩
  · refine .inr ⟨g,0,cap,rfl,⟨hB,lt_of_block hh⟩,hl,fun j u hu=>?_⟩
    have:=h1.cells (g:=g) rfl j u hu
    rw [Nat.zero_add]
    have e:(⟨g,0,none⟩:Addr).add j=⟨g,j,none⟩:=by unfold Addr.add;by_cases hj:j=0 <;> simp [hj]
    rwa [e] at this
theorem Outs.append {m:Mk} {t e:Blk} {av bv tv ev v':Value} {cs:List Value} {g' cap:Nat} (h1:w.ownsRow B 169 8 v q.len cs) (h2:Holds (fun g=>B<=g/\g<w.heap.size/\v.ownBlock≠some g) w q cs)
    (ha:Tree w (trO m.a) av) (hb:Tree w (trO m.b) bv) (ht:Stand (fun g=>B<=g/\g<w.heap.size/\v.ownBlock≠some g) w t tv) (he:Stand (fun g=>B<=g/\g<w.heap.size/\v.ownBlock≠some g) w e ev)
    (hv':v' = .slice (some ⟨g',0,none⟩) (q.len+1) cap) (hown:w'.ownsRow B 169 8 v' (q.len+1) (cs ++ stCells m av bv tv ev)) (hg:w.grownBy w' v.ownBlock) (hat:v.ownBlock=some g' \/ w.heap.size<=g'):Outs B w' (q.snoc m t e) v':=by
  refine ⟨cs ++ stCells m av bv tv ev,by rw [Blk.len_snoc];exact hown,?_⟩
  have h3:=Holds.snoc ha hb ht he h2
  have hst:Stable 204 w w':=fun g cs' hs=>(hg.block g hs.lt (fun he=>own_far h1 hs (by decide) he.symm)).trans hs
  refine (h3.keep hst (fun g ⟨g1,g2,g3⟩ j u hu=>?_)).wider fun g ⟨g1,g2,g3⟩=>⟨g1,Nat.lt_of_lt_of_le g2 hg.size,?_⟩
  · rw [World.cell?_of_block (hg.block g g2 (fun e=>g3 e.symm))];exact hu
  · subst hv'
    simp only [Value.ownBlock,ne_eq,Option.some.injEq]
    rcases hat with h | h
    · intro e;subst e;exact g3 h
    · omega
end
def zone (B:Nat) (W:World) (v:Value) (g:Nat):Nat->Prop:=fun x=>B<=x/\x<W.heap.size/\v.ownBlock≠some x/\x≠g
def boxCells (m:Mk) (pa pb:Option Addr) (tv ev:Value):Array Value:=#[.int .u8 m.kind,.int .u8 m.reg,.int .u8 m.mode,.int .u8 m.loc,.pointer pa,.pointer pb,tv,ev]
theorem zone_mono {B:Nat} {W W':World} {v:Value} {g:Nat} (h:W.heap.size<=W'.heap.size):∀ x,zone B W v g x->zone B W' v g x:=fun _ ⟨h1,h2,h3,h4⟩=>⟨h1,Nat.lt_of_lt_of_le h2 h,h3,h4⟩
theorem Stand.nil (U:Nat->Prop) (w:World):Stand U w .nil (.slice none 0 0):=⟨[],.inl ⟨rfl,none,0,rfl⟩,rfl⟩
section
variable {w0 W W' : World} {q : Blk} {v : Value} {g : Nat} {m : Mk} {pa pb : Option Addr} {t e : Blk} {tv ev : Value}
theorem set_size (W:World) (p:Addr) (u:Value):(W.setCell p u).heap.size=W.heap.size:=by simp [World.setCell]
theorem zone_set {B:Nat} {g:Nat} {i:Nat} {u:Value}:∀ x,zone B W v g x->∀ j y,W.cell? ⟨x,j,none⟩=some y->(W.setCell ⟨g,i,none⟩ u).cell? ⟨x,j,none⟩=some y:=fun x ⟨_,_,_,hx⟩ j y hy=>by
  rw [World.cell?_of_block (Below.heap_setCell W ⟨g,i,none⟩ u x hx)];exact hy
end
def zeroSt:Array Value:=#[.int .u8 0,.int .u8 0,.int .u8 0,.int .u8 0,.pointer none,.pointer none,.slice none 0 0,.slice none 0 0]
def laid (W:World) (g:Nat) (m:Mk) (pa pb:Option Addr):World:=W.setRow g (boxCells m pa pb (.slice none 0 0) (.slice none 0 0))
theorem stSize:(Tryz.prog.info? 169).map (·.size)=some 8:=by kernel_rfl
theorem stInfo:(Tryz.prog.info? 169).map (fun i=>(i.zero,i.size,i.bytes))=some (some (.agg zeroSt),8,72):=by kernel_rfl
theorem st_one (m:Mk) (pa pb:Option Addr) (p q:Option Addr) (n c n' c':Nat):∀ u ∈ stCells m (.pointer pa) (.pointer pb) (.slice p n c) (.slice q n' c'),u.oneCell' = true:=by
  intro u hu
  simp only [stCells,List.mem_cons,List.not_mem_nil,or_false] at hu
  rcases hu with rfl | rfl | rfl | rfl | rfl | rfl | rfl | rfl <;> rfl
theorem st_at (W:World) (m:Mk) (av bv tv ev:Value):∀ j u,(stCells m av bv tv ev)[j]? = some u->(W.alloc (.cells #[.int .u8 m.kind,.int .u8 m.reg,.int .u8 m.mode,.int .u8 m.loc,av,bv,tv,ev] 169)).cell? ((⟨W.heap.size,0,none⟩:Addr).add j)=some u:=by
  intro j u hj
  have e:(⟨W.heap.size,0,none⟩:Addr).add j=⟨W.heap.size,j,none⟩:=by unfold Addr.add;by_cases h:j=0 <;> simp [h]
  rw [e,(Sits.new W _ _).cell]
  simpa [stCells] using hj
theorem box_one (m:Mk) (pa pb:Option Addr) (p q:Option Addr) (n c n' c':Nat):(boxCells m pa pb (.slice p n c) (.slice q n' c')).all (·.oneCell')=true:=by
  rw [Array.all_eq_true']
  intro u hu
  simp only [boxCells,List.mem_toArray,List.mem_cons,List.not_mem_nil,or_false] at hu
  rcases hu with rfl | rfl | rfl | rfl | rfl | rfl | rfl | rfl <;> rfl
end Go.Proofs.YtagebkachdmnbaaGreatDoor.Prog
end
