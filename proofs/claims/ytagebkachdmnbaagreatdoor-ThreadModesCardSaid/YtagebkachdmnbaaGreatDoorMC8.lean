/- Part 29 of the proof: what is used of the texts PrsR. -/
import Derived.Test.YtagebkachdmnbaaGreatDoorMC4
import Derived.Test.YtagebkachdmnbaaGreatDoorMC6
import Derived.Test.YtagebkachdmnbaaGreatDoorMC7
section
namespace Go.Proofs.YtagebkachdmnbaaGreatDoor.Prs
open Go.RowKit Go.Proofs.YtagebkachdmnbaaGreatDoor.Mem Go.Proofs.YtagebkachdmnbaaGreatDoor.Expr Go.Proofs.YtagebkachdmnbaaGreatDoor.Prog
open Go.Proofs.YtagebkachdmnbaaGreatDoor.Lex (Tok isL isLD isD)
section
variable {gR gp cap : Nat} {ts : List Lex.Tok}
def zoneS (gS:Nat) (W:World):Nat->Prop:=fun x=>gS<x/\x<W.heap.size
structure Sb (W:World) (gS gR gp:Nat) (m:Mk) (t e:Blk) (pa pb:Option Addr) (tv ev:Value):Prop where
  box:Sits W gS 169 (boxCells m pa pb tv ev)
  a:Tree W (trO m.a) (.pointer pa)
  b:Tree W (trO m.b) (.pointer pb)
  t:Stand (zoneS gS W) W t tv
  e:Stand (zoneS gS W) W e ev
  far:gp≠gS
  late:gR<gS
theorem St.sb {W:World} {gS:Nat} {m:Mk} (h:St W gS gR gp m):∃ pa pb,Sb W gS gR gp m .nil .nil pa pb nilRow nilRow:=by
  obtain ⟨⟨av,bv,hx,h1,h2⟩,hf,hl⟩:=h
  obtain ⟨pa,rfl,_⟩:=h1.ptr
  obtain ⟨pb,rfl,_⟩:=h2.ptr
  exact ⟨pa,pb,hx,h1,h2,Stand.nil _ _,Stand.nil _ _,hf,hl⟩
section
variable {W W' : World} {gS : Nat} {m : Mk} {t e : Blk} {pa pb : Option Addr} {tv ev : Value}
theorem Sb.keepR {k:Nat} (h:Sb W gS gR gp m t e pa pb tv ev) (hr:Rd W gR gp cap ts k) (hk:Keeps (fun x=>x=gR) W W'):Sb W' gS gR gp m t e pa pb tv ev:=by
  have hs:=hr.stable hk
  have hz:∀ g,zoneS gS W g->∀ j u,W.cell? ⟨g,j,none⟩=some u->W'.cell? ⟨g,j,none⟩=some u:=fun g hg j u hu=>by
    rw [World.cell?_of_block (hk.block g hg.2 (fun e=>by have:=hg.1;have:=h.late;omega))];exact hu
  have hw:∀ g,zoneS gS W g->zoneS gS W' g:=fun g hg=>⟨hg.1,Nat.lt_of_lt_of_le hg.2 hk.size⟩
  exact ⟨h.box.keep hk (by have:=h.late;omega),h.a.stable hs,h.b.stable hs,(h.t.keep hs hz).wider hw,(h.e.keep hs hz).wider hw,h.far,h.late⟩
theorem Sb.below (h:Sb W gS gR gp m t e pa pb tv ev) (hb:Below W.heap.size W W'):Sb W' gS gR gp m t e pa pb tv ev:=by
  have hw:∀ g,zoneS gS W g->zoneS gS W' g:=fun g hg=>⟨hg.1,Nat.lt_of_lt_of_le hg.2 hb.size⟩
  exact ⟨h.box.below hb h.box.lt,h.a.below hb,h.b.below hb,(h.t.below hb).wider hw,(h.e.below hb).wider hw,h.far,h.late⟩
theorem Sb.put (h:Sb W gS gR gp m t e pa pb tv ev) (i:Nat) (u:Value):Stable 204 W (W.setCell ⟨gS,i,none⟩ u)/\(∀ g,zoneS gS W g->∀ j u',W.cell? ⟨g,j,none⟩=some u' -> (W.setCell ⟨gS,i,none⟩ u).cell? ⟨g,j,none⟩=some u')/\∀ g,zoneS gS W g->zoneS gS (W.setCell ⟨gS,i,none⟩ u) g :=
  ⟨Stable.put h.box (by decide) i u,fun g hg j u' hu=>by rw [World.cell?_of_block (Below.heap_setCell W ⟨gS,i,none⟩ u g (by have:=hg.1;show g≠gS;omega))];exact hu,fun g hg=>⟨hg.1,by rw [set_size];exact hg.2⟩⟩
theorem Sb.setT (h:Sb W gS gR gp m t e pa pb tv ev) {c:Blk} {u:Value} (hc:Stand (zoneS gS W) W c u):Sb (W.setCell ⟨gS,6,none⟩ u) gS gR gp m c e pa pb u ev:=by
  obtain ⟨hs,hz,hw⟩:=h.put 6 u
  exact ⟨h.box.put 6 u,h.a.stable hs,h.b.stable hs,(hc.keep hs hz).wider hw,(h.e.keep hs hz).wider hw,h.far,h.late⟩
theorem Sb.setE (h:Sb W gS gR gp m t e pa pb tv ev) {c:Blk} {u:Value} (hc:Stand (zoneS gS W) W c u):Sb (W.setCell ⟨gS,7,none⟩ u) gS gR gp m t c pa pb tv u:=by
  obtain ⟨hs,hz,hw⟩:=h.put 7 u
  exact ⟨h.box.put 7 u,h.a.stable hs,h.b.stable hs,(h.t.keep hs hz).wider hw,(hc.keep hs hz).wider hw,h.far,h.late⟩
theorem Sb.at8 (h:Sb W gS gR gp m t e pa pb tv ev):W.cell? ⟨gS,0,none⟩=some (.int .u8 m.kind)/\W.cell? ⟨gS,1,none⟩=some (.int .u8 m.reg)/\W.cell? ⟨gS,2,none⟩=some (.int .u8 m.mode)/\W.cell? ⟨gS,3,none⟩=some (.int .u8 m.loc)/\W.cell? ⟨gS,4,none⟩=some (.pointer pa)/\W.cell? ⟨gS,5,none⟩=some (.pointer pb)/\W.cell? ⟨gS,6,none⟩=some tv/\W.cell? ⟨gS,7,none⟩=some ev/\gS<W.heap.size :=
  ⟨h.box.cell 0,h.box.cell 1,h.box.cell 2,h.box.cell 3,h.box.cell 4,h.box.cell 5,h.box.cell 6,h.box.cell 7,h.box.lt⟩
end
def stmtV (B:Nat):Blk->Ending->World->Prop:=fun q e W=>∃ (m:Mk) (t e':Blk) (pa pb:Option Addr) (tv ev:Value),q = .cons m t e' .nil/\e = .returned (.agg (boxCells m pa pb tv ev))/\Tree W (trO m.a) (.pointer pa)/\Tree W (trO m.b) (.pointer pb)/\Stand (fresh B W) W t tv/\Stand (fresh B W) W e' ev
def blkV (B:Nat):Blk->Ending->World->Prop:=fun q e W=>∃ v,e = .returned v/\Stand (fresh B W) W q v
def StmtC (gR gp cap:Nat) (ts:List Lex.Tok) (k:Nat):Prop:=∀ (d:Nat) (out:Out Blk) (w:World),d<=8->Bx ts (.stmt d) k out->Rd w gR gp cap ts k->Calls Tryz.prog 228 #[.pointer (some ⟨gR,0,none⟩),.int .i64 (d:Nat)] w (Done gR gp cap ts (stmtV w.heap.size) out w)
def BlockC (gR gp cap:Nat) (ts:List Lex.Tok) (k:Nat):Prop:=∀ (d:Nat) (out:Out Blk) (w:World),d<=9->Bx ts (.block d) k out->Rd w gR gp cap ts k->Calls Tryz.prog 180 #[.pointer (some ⟨gR,0,none⟩),.int .i64 (d:Nat)] w (Done gR gp cap ts (blkV w.heap.size) out w)
theorem keep2 {w W W':World} {gS:Nat} (h:Keeps (fun x=>x=gR) w W) (k:Keeps (two_ gR gS) W W') (hg:w.heap.size<=gS):Keeps (fun x=>x=gR) w W' :=
  (((h.wider fun _ _ e => .inl e).trans k:Keeps (two_ gR gS) w W')).wider fun x hx e=>e.elim id fun e=>by omega
theorem stmt_end {w W:World} {g4 gS k0 k:Nat} {m:Mk} {t e:Blk} {pa pb:Option Addr} {tv ev:Value} (h0:Rd w gR gp cap ts k0) (hK:Keeps (fun x=>x=gR) w W) (hR:Rd W gR gp cap ts k) (hS:Sb W gS gR gp m t e pa pb tv ev) (h4:Sits W g4 169 zeroSt) (hg4:w.heap.size<=g4) (h45:g4<gS) (hgp:gp<w.heap.size) :
    Done gR gp cap ts (stmtV w.heap.size) (.ok (.cons m t e .nil) k) w (.returned (.agg (boxCells m pa pb tv ev))) (W.setRow g4 (boxCells m pa pb tv ev)):=by
  have hk:=row_keeps W g4 (boxCells m pa pb tv ev)
  have hKK:Keeps (fun x=>x=gR) w (W.setRow g4 (boxCells m pa pb tv ev)):=((hK.wider (fun x _ h => .inl h)).trans (hk.wider (fun x _ h => .inr h)):Keeps (fun x=>x=gR \/ x=g4) w _).wider fun x hx h=>h.elim id (fun h=>by omega)
  have hs:Stable 204 W (W.setRow g4 (boxCells m pa pb tv ev)):=Stable.keeps hk fun b cs hb e=>(hb.differ h4 (by decide)) e
  have hz:∀ g,zoneS gS W g->∀ j u,W.cell? ⟨g,j,none⟩=some u->(W.setRow g4 (boxCells m pa pb tv ev)).cell? ⟨g,j,none⟩=some u:=fun g hg j u hu=>by
    rw [World.cell?_of_block (hk.block g hg.2 (fun e=>by have:=hg.1;omega))];exact hu
  have hw:∀ g,zoneS gS W g->fresh w.heap.size (W.setRow g4 (boxCells m pa pb tv ev)) g:=fun g hg=>⟨by have:=hg.1;omega,Nat.lt_of_lt_of_le hg.2 hk.size⟩
  have hl:=hS.late
  have hlR:=h0.box.lt
  exact ⟨hKK,⟨m,t,e,pa,pb,tv,ev,rfl,rfl,hS.a.stable hs,hS.b.stable hs,(hS.t.keep hs hz).wider hw,(hS.e.keep hs hz).wider hw⟩,hR.setRow h0 hKK (by omega) (by omega)⟩
theorem word_kind (hp:Pcs ts) {k:Nat} {c:UInt8} {r:List UInt8} (h:ltrs ts k=c :: r) (hc:isL c=true):kindAt ts k=2:=by
  have h3:=hp.low k
  have hld:isLD c=true:=by unfold Lex.isLD;rw [hc];rfl
  have hd:isD c=false:=(letter_plain hc).2.2
  obtain h0 | h1 | h2 | h3:kindAt ts k=0 \/ kindAt ts k=1 \/ kindAt ts k=2 \/ kindAt ts k=3:=by omega
  · rw [hp.fin k h0] at h;cases h
  · obtain ⟨c',r',h',hc'⟩:=hp.digit k h1
    rw [h] at h';injection h' with e _;subst e;rw [hd] at hc';cases hc'
  · exact h2
  · obtain ⟨c',r',h',hc'⟩:=hp.sign k h3
    rw [h] at h';injection h' with e _;subst e;rw [hld] at hc';cases hc'
theorem bx_stmt {d k:Nat} {out:Out Blk} (h:Bx ts (.stmt d) k out):(ltrs ts k≠wIf/\ltrs ts k≠wWhile/\out=(flatF ts k).map fun m => .cons m .nil .nil .nil) \/
    ((ltrs ts k=wIf \/ ltrs ts k=wWhile)/\∃ j er,condF ts (k+1) = .bad j er/\out = .bad j er) \/
    ((ltrs ts k=wIf \/ ltrs ts k=wWhile)/\∃ a k1 j er,condF ts (k+1) = .ok a k1/\Bx ts (.block (d+1)) k1 (.bad j er)/\out = .bad j er) \/
    (ltrs ts k=wWhile/\∃ a k1 t k2,condF ts (k+1) = .ok a k1/\Bx ts (.block (d+1)) k1 (.ok t k2)/\out = .ok (.cons ⟨9,0,0,0,some a,none⟩ t .nil .nil) k2) \/
    (ltrs ts k=wIf/\∃ a k1 t k2,condF ts (k+1) = .ok a k1/\Bx ts (.block (d+1)) k1 (.ok t k2)/\ltrs ts k2≠wElse/\out = .ok (.cons ⟨8,0,0,0,some a,none⟩ t .nil .nil) k2) \/
    (ltrs ts k=wIf/\∃ a k1 t k2 o2,condF ts (k+1) = .ok a k1/\Bx ts (.block (d+1)) k1 (.ok t k2)/\ltrs ts k2=wElse/\Bx ts (.block (d+1)) (k2+1) o2/\out=o2.map fun e => .cons ⟨8,0,0,0,some a,none⟩ t e .nil):=by
  cases h with
  | flat h1 h2=>exact .inl ⟨h1,h2,rfl⟩
  | headBad h1 h2=>exact .inr (.inl ⟨h1,_,_,h2,rfl⟩)
  | thenBad h1 h2 h3=>exact .inr (.inr (.inl ⟨h1,_,_,_,_,h2,h3,rfl⟩))
  | loop h1 h2 h3=>exact .inr (.inr (.inr (.inl ⟨h1,_,_,_,_,h2,h3,rfl⟩)))
  | cond h1 h2 h3 h4=>exact .inr (.inr (.inr (.inr (.inl ⟨h1,_,_,_,_,h2,h3,h4,rfl⟩))))
  | other h1 h2 h3 h4 h5=>exact .inr (.inr (.inr (.inr (.inr ⟨h1,_,_,_,_,_,h2,h3,h4,h5,rfl⟩))))
theorem stmt_word (hp:Pcs ts) {d k:Nat} {out:Out Blk} (h:Bx ts (.stmt d) k out) (hq:kindAt ts k≠2):out = .bad k 3:=by
  have ni:ltrs ts k≠wIf:=fun e=>hq (word_kind hp e (by decide))
  have nw:ltrs ts k≠wWhile:=fun e=>hq (word_kind hp e (by decide))
  have ns:ltrs ts k≠wStore:=fun e=>hq (word_kind hp e (by decide))
  have nf:ltrs ts k≠wFence:=fun e=>hq (word_kind hp e (by decide))
  rcases bx_stmt h with ⟨_,_,rfl⟩ | ⟨h1,_⟩ | ⟨h1,_⟩ | ⟨h1,_⟩ | ⟨h1,_⟩ | ⟨h1,_⟩
  · unfold flatF
    rw [if_neg ns,if_neg nf,show regF ts k = .bad k 3 from wordF_kind hq];rfl
  · exact (h1.elim ni nw).elim
  · exact (h1.elim ni nw).elim
  · exact (nw h1).elim
  · exact (ni h1).elim
  · exact (ni h1).elim
theorem cond_within (m:Mk) (k:Nat):withinF ts ([wFirst ts].map (·.2)) m k=(condF ts k).map fun a=>{ m with a:=some a }:=by
  show withinF ts [firstF ts] m k=_
  simp [withinF,partsF,firstF,condF,obind_assoc,omap_bind,obind_map,omap_map,ok_bind]
theorem lit_eq (k:Nat) (w:List UInt8):((str (ltrs ts k)).toList == w)=decide (ltrs ts k=w):=by
  have:=str_eq (ltrs ts k) w
  rwa [str_lit w] at this
theorem zero_st {W:World} {g gR' gp':Nat} (h:Sits W g 169 zeroSt) (hf:gp' ≠ g) (hl:gR' < g):St W g gR' gp' ⟨0,0,0,0,none,none⟩:=⟨⟨.pointer none,.pointer none,h,rfl,rfl⟩,hf,hl⟩
set_option maxRecDepth 100000 in
set_option maxHeartbeats 4000000 in
theorem stmt_any (hp:Pcs ts) (k:Nat) (IB:∀ k',k<k' -> BlockC gR gp cap ts k'):StmtC gR gp cap ts k:=by
  intro d out w hd hx h
  have HP:=Lib.hid hp
  have HX:=Lib.hid hx
  have HR0:=Lib.hid h
  have HIB:=Lib.hid IB
  have HGP:=Lib.hid (show gp<w.heap.size from World.block_lt_of_cell? _ _ (h.at h.lt).1)
  have HGR:=Lib.hid (show gR<w.heap.size from h.box.lt)
  have hb:Below w.heap.size w ((w.alloc (.cells zeroSt 169)).alloc (.cells zeroSt 169)):=((Below.refl _ _).alloc (Nat.le_refl _) _).alloc (by simp) _
  have HZ:=Lib.hid (show Sits ((w.alloc (.cells zeroSt 169)).alloc (.cells zeroSt 169)) w.heap.size 169 zeroSt from (Sits.new _ _ _).alloc _)
  have HZ5:=Lib.hid (show Sits ((w.alloc (.cells zeroSt 169)).alloc (.cells zeroSt 169)) (w.heap.size+1) 169 zeroSt from Sits.made (by simp) _ _)
  have HB:=Lib.hid (Keeps.of_below hb:Keeps (fun x=>x=gR) w _)
  have HO:=Lib.hid (of_any (h.below hb) 2)
  have HR:=Lib.hid (h.below hb)
  have HM:=Lib.hid (fun e=>h.good.more k h.lt e)
  have dd:(d:Int)<=8:=by omega
  have d0:(0:Int)<=(d:Int):=by omega
  have HD1:=Lib.hid (show ((d:Nat):Int)+1=((d+1:Nat):Int) by omega)
  have HDD:=Lib.hid (show d+1<=9 by omega)
  have HSG:=Lib.hid (fun k2 s (hs:s ≠ []) W (hr:Rd W gR gp cap ts k2)=>sign_any hr s hs)
  have HRO:=Lib.hid (fun W=>registerOf_any (tk ts k) W)
  have E1:=lit_eq (ts:=ts) k [105,102]
  have E2:=lit_eq (ts:=ts) k [119,104,105,108,101]
  have E3:=lit_eq (ts:=ts) k [115,116,111,114,101]
  have E4:=lit_eq (ts:=ts) k [102,101,110,99,101]
  clear h hb hp hx IB hd
  go_enter Tryz.func228,Tryz.ntmps228
  go_wp2_with fail
  change Calls _ _ _ ((w.alloc (.cells zeroSt 169)).alloc (.cells zeroSt 169)) _
  generalize (w.alloc (.cells zeroSt 169)).alloc (.cells zeroSt 169)=W0 at HZ HZ5 HB HO HR ⊢
  generalize hg5:w.heap.size+1=g5 at HZ5 ⊢
  generalize hg4:w.heap.size=g4 at HZ ⊢
  have HG4:=Lib.hid (show w.heap.size<=g4 by omega)
  have HG5:=Lib.hid (show g4<g5 by omega)
  have HNE:=Lib.hid (show gp≠g5/\gR<g5/\w.heap.size<=g5/\gR≠g4/\g4≠g5 by have:=HGP.out;have:=HGR.out;omega)
  have HS:=Lib.hid (zero_st HZ5.out HNE.out.1 HNE.out.2.1)
  clear hg4 hg5
  refine HO.out.mono ?_
  rintro e w1 ⟨hk,hq⟩
  have HK1:=Lib.hid (HB.out.trans hk)
  have HZ1:=Lib.hid (HZ.out.keep hk HNE.out.2.2.2.1.symm)
  have HS1:=Lib.hid (HS.out.keepR HR.out hk)
  rcases hq with ⟨hq,rfl,hr⟩ | ⟨hq,rfl⟩
  · have HQ:=Lib.hid hq
    have HR1:=Lib.hid (hr (HM.out (by rw [hq];decide)))
    have hz:=Sits.new w1 278 zeroPc
    have HZP:=Lib.hid hz
    have hkk:=row_keeps (w1.alloc (.cells zeroPc 278)) w1.heap.size (pc (tk ts k))
    have hs:Sits ((w1.alloc (.cells zeroPc 278)).setRow w1.heap.size (pc (tk ts k))) w1.heap.size 278 (pc (tk ts k)):=setRow_heap _ _ _ _ _ _ hz
    have hlow:Below w1.heap.size w1 ((w1.alloc (.cells zeroPc 278)).setRow w1.heap.size (pc (tk ts k))):=behind ((Below.refl _ _).alloc (Nat.le_refl _) _) hkk (by simp) (fun x e=>by rw [e];exact Nat.le_refl _)
    have HN6:=Lib.hid (show w1.heap.size≠gR/\w1.heap.size≠g5 by have:=HK1.out.size;have:=HGR.out;have:=(HS1.out.at0).2.2;omega)
    clear hk hq hr hz hkk
    go_upto_region 3 with (refine wpList_store_row rfl 278 _ _ rfl w1.heap.size (pc (tk ts k)) rfl rfl 278 zeroPc HZP.out pcSize rfl (pc_one _) ?_)
    change Code.wp _ _ _ _ ((w1.alloc (.cells zeroPc 278)).setRow w1.heap.size (pc (tk ts k)))
    generalize (w1.alloc (.cells zeroPc 278)).setRow w1.heap.size (pc (tk ts k))=W2 at hs hlow ⊢
    generalize w1.heap.size=g6 at hs HN6 ⊢
    have HK2:=Lib.hid (HK1.out.trans (Keeps.of_below hlow))
    have HPC:=Lib.hid hs
    have HZ2:=Lib.hid (HZ1.out.below hlow HZ1.out.lt)
    have HS2:=Lib.hid (HS1.out.below hlow)
    have HR2:=Lib.hid (HR1.out.below hlow)
    obtain ⟨s0,s1,s2,s3,s4⟩:=pc_at hs
    have l6:=hs.lt
    change W2.cell? ⟨g6,1,none⟩=some (.string (str (ltrs ts k))) at s1
    unfold pc at HRO
    change Hid (∀ W,Calls _ _ #[.agg #[_,.string (str (ltrs ts k)),_,_,_]] W _) at HRO
    clear hs hlow HO HB HZP HS HS1 HZ HZ1 HR HR1 HK1 HZ5
    obtain ⟨c0,f0,l0⟩:=HS2.out.at0
    by_cases hif:ltrs ts k=wIf
    · rw [decide_eq_true (show ltrs ts k=[105,102] from hif)] at E1
      have HIF:=Lib.hid hif
      generalize str (ltrs ts k)=x at s1 E1 E2 E3 E4 HRO
      clear hif
      have HSk:=Lib.hid ((HS2.out.byte (m':=⟨8,0,0,0,none,none⟩) 0 (.int .u8 (8:Nat)) (fun _ _=>rfl) rfl rfl))
      have HRk:=Lib.hid (HR2.out.cell_put HS2.out.far HS2.out.late 0 (.int .u8 (8:Nat)))
      have HKk:=Lib.hid (HK2.out.put (p:=⟨g5,0,none⟩) (.inr HNE.out.2.2.1) (.int .u8 (8:Nat)))
      have HZk:=Lib.hid (HZ2.out.far (p:=⟨g5,0,none⟩) HNE.out.2.2.2.2 (.int .u8 (8:Nat)))
      go_wp2_with fail
      have HC:=Lib.hid (within_new [wFirst ts] (by simp) (by simp) 347 _ rfl HRk.out HSk.out 1 (set_sz _ _ _))
      refine HC.out.mono ?_
      rintro e w3 ⟨hk,hq⟩
      have HK3:=Lib.hid (keep2 HKk.out hk HNE.out.2.2.1)
      have HZ3:=Lib.hid (HZk.out.keep hk (fun e=>e.elim HNE.out.2.2.2.1.symm HNE.out.2.2.2.2))
      clear hk c0 f0 l0 HC s0 s1 s2 s3 s4 l6
      have HCW:=Lib.hid (cond_within (ts:=ts) ⟨8,0,0,0,none,none⟩ (k+1))
      rw [HCW.out] at hq
      cases ho:condF ts (k+1) with
      | bad j er =>
        rw [ho] at hq
        simp only [Out.map] at hq
        subst hq
        have HOB:Hid (out = .bad j er):=Lib.hid (HX.out.det (.headBad (.inl HIF.out) ho))
        clear ho
        go_wp2_with fail
        rw [HOB.out]
        exact ⟨rfl,HK3.out,rfl⟩
      | ok a k3 =>
        rw [ho] at hq
        simp only [Out.map] at hq
        obtain ⟨rfl,hs3,hr3⟩:=hq
        obtain ⟨pa,pb,hsb⟩:=hs3.sb
        have HS3:=Lib.hid hsb
        have HR3:=Lib.hid hr3
        have HHO:=Lib.hid ho
        have HK13:=Lib.hid (cond_ok HP.out (HM.out (by rw [HQ.out];decide)) ho)
        obtain ⟨o1,hb1,_⟩:=(bx_total hr3.good _ k3 (Nat.le_refl _) hr3.lt (d+1)).1
        have HB1:=Lib.hid hb1
        have hib:=HIB.out k3 (by have:=HK13.out.2.2.1;omega) (d+1) o1 w3 HDD.out hb1 hr3
        rw [<- HD1.out] at hib
        have HIB1:=Lib.hid hib
        clear ho hs3 hr3 hsb hb1 hib
        go_wp2_with fail
        refine HIB1.out.mono ?_
        rintro e w4 ⟨hk,hq⟩
        have HK4:=Lib.hid (HK3.out.trans hk)
        have HZ4:=Lib.hid (HZ3.out.keep hk HNE.out.2.2.2.1.symm)
        have HS4:=Lib.hid (HS3.out.keepR HR3.out hk)
        have HL34:=Lib.hid (show g5<w3.heap.size from HS3.out.box.lt)
        clear hk
        cases o1 with
        | bad j er =>
          simp only at hq
          subst hq
          have HOB:Hid (out = .bad j er):=Lib.hid (HX.out.det (.thenBad (.inl HIF.out) HHO.out HB1.out))
          go_wp2_with fail
          rw [HOB.out]
          exact ⟨rfl,HK4.out,rfl⟩
        | ok t k4 =>
          obtain ⟨⟨v,rfl,hv⟩,hr4⟩:=hq
          have hvz:Stand (zoneS g5 w4) w4 t v:=hv.wider fun x hx=>⟨Nat.lt_of_lt_of_le HL34.out hx.1,hx.2⟩
          have HS5:=Lib.hid (HS4.out.setT hvz)
          have HR5:=Lib.hid (hr4.cell_put HS4.out.far HS4.out.late 6 v)
          have HK5:=Lib.hid (HK4.out.put (p:=⟨g5,6,none⟩) (.inr HNE.out.2.2.1) v)
          have HZ5:=Lib.hid (HZ4.out.far (p:=⟨g5,6,none⟩) HNE.out.2.2.2.2 v)
          have c6:=HS4.out.box.cell 6
          have f6:=HS4.out.box.free 6
          have l6:=HS4.out.box.lt
          change w4.cell? ⟨g5,6,none⟩=some nilRow at c6
          unfold nilRow at c6
          obtain ⟨pv,cv,rfl,_⟩:=hvz.len
          clear hv hvz hr4
          have HHE:=Lib.hid (fun W (hr:Rd W gR gp cap ts k4)=>(has_any hr wElse (by decide):Calls _ _ #[_,.string (str [101,108,115,101])] W _))
          go_upto_region 11 with fail
          generalize w4.setCell ⟨g5,6,none⟩ (.slice pv t.len cv)=W5 at HS5 HR5 HK5 HZ5 ⊢
          clear c6 f6 l6
          go_wp2_with fail
          refine (HHE.out _ HR5.out).mono ?_
          intro e w6 hq
          rcases hq with ⟨hc,rfl,hk,hr⟩ | ⟨hc,rfl,hb⟩
          · have HS6:=Lib.hid (HS5.out.keepR HR5.out hk)
            have HZ6:=Lib.hid (HZ5.out.keep hk HNE.out.2.2.2.1.symm)
            have HK6:=Lib.hid (HK5.out.trans hk)
            have HR6:=Lib.hid hr
            have HEL:=Lib.hid hc
            have HKG:=Lib.hid (show k<k4 by
              have h1:=HK13.out.2.2.1
              have h2:=((bx_ok HP.out HB1.out HR3.out.lt trivial t k4 rfl).2).2
              omega)
            obtain ⟨o2,hb2,_⟩:=(bx_total hr.good _ (k4+1) (Nat.le_refl _) hr.lt (d+1)).1
            have HB2:=Lib.hid hb2
            have hib:=HIB.out (k4+1) (by have:=HKG.out;omega) (d+1) o2 w6 HDD.out hb2 hr
            rw [<- HD1.out] at hib
            have HIB2:=Lib.hid hib
            have HOO:=Lib.hid (HX.out.det (.other HIF.out HHO.out HB1.out hc hb2))
            clear hk hr hc hb2 hib
            go_wp2_with fail
            refine HIB2.out.mono ?_
            rintro e w7 ⟨hk,hq⟩
            have HK7:=Lib.hid (HK6.out.trans hk)
            have HZ7:=Lib.hid (HZ6.out.keep hk HNE.out.2.2.2.1.symm)
            have HS7:=Lib.hid (HS6.out.keepR HR6.out hk)
            have HL67:=Lib.hid (show g5<w6.heap.size from HS6.out.box.lt)
            clear hk
            cases o2 with
            | bad j er =>
              simp only at hq
              subst hq
              go_wp2_with fail
              rw [HOO.out]
              exact ⟨rfl,HK7.out,rfl⟩
            | ok el k7 =>
              obtain ⟨⟨v,rfl,hv⟩,hr7⟩:=hq
              have hvz:Stand (zoneS g5 w7) w7 el v:=hv.wider fun x hx=>⟨Nat.lt_of_lt_of_le HL67.out hx.1,hx.2⟩
              have HS8:=Lib.hid (HS7.out.setE hvz)
              have HR8:=Lib.hid (hr7.cell_put HS7.out.far HS7.out.late 7 v)
              have HK8:=Lib.hid (HK7.out.put (p:=⟨g5,7,none⟩) (.inr HNE.out.2.2.1) v)
              have HZ8:=Lib.hid (HZ7.out.far (p:=⟨g5,7,none⟩) HNE.out.2.2.2.2 v)
              have c7:=HS7.out.box.cell 7
              have f7:=HS7.out.box.free 7
              have l7:=HS7.out.box.lt
              change w7.cell? ⟨g5,7,none⟩=some nilRow at c7
              unfold nilRow at c7
              obtain ⟨pv2,cv2,rfl,_⟩:=hvz.len
              have HOB:Hid (out = .ok (.cons ⟨8,0,0,0,some a,none⟩ t el .nil) k7):=Lib.hid HOO.out
              clear hv hvz hr7
              go_upto_region 13 with fail
              generalize w7.setCell ⟨g5,7,none⟩ (.slice pv2 el.len cv2)=W8 at HS8 HR8 HK8 HZ8 ⊢
              have HSS:=Lib.hid (show Sb W8 g5 gR gp ⟨8,0,0,0,some a,none⟩ t el pa pb (.slice pv t.len cv) (.slice pv2 el.len cv2) from HS8.out)
              obtain ⟨b0,b1,b2,b3,b4,b5,b6,b7,l8⟩:=HSS.out.at8
              have hD:=stmt_end HR0.out HK8.out HR8.out HSS.out HZ8.out HG4.out HG5.out HGP.out
              clear c7 f7 l7
              go_wp2_with (refine wpList_store_row rfl 169 _ _ rfl g4 (boxCells ⟨8,0,0,0,some a,none⟩ pa pb (.slice pv t.len cv) (.slice pv2 el.len cv2)) rfl rfl 169 zeroSt HZ8.out stSize rfl (box_one _ _ _ _ _ _ _ _ _) ?_)
              have hz4:Sits (W8.setRow g4 (boxCells ⟨8,0,0,0,some a,none⟩ pa pb (.slice pv t.len cv) (.slice pv2 el.len cv2))) g4 169 (boxCells ⟨8,0,0,0,some a,none⟩ pa pb (.slice pv t.len cv) (.slice pv2 el.len cv2)):=setRow_heap _ _ _ _ _ _ HZ8.out
              generalize W8.setRow g4 (boxCells ⟨8,0,0,0,some a,none⟩ pa pb (.slice pv t.len cv) (.slice pv2 el.len cv2))=WE at hz4 hD ⊢
              have e0:=hz4.cell 0
              have e1:=hz4.cell 1
              have e2:=hz4.cell 2
              have e3:=hz4.cell 3
              have e4:=hz4.cell 4
              have e5:=hz4.cell 5
              have e6:=hz4.cell 6
              have e7:=hz4.cell 7
              have HD:=Lib.hid hD
              clear b0 b1 b2 b3 b4 b5 b6 b7 l8 hD hz4
              unfold boxCells at e0 e1 e2 e3 e4 e5 e6 e7
              rw [HOB.out]
              exact bodyPost_ret (v:=.agg (boxCells ⟨8,0,0,0,some a,none⟩ pa pb (.slice pv t.len cv) (.slice pv2 el.len cv2))) (by simp [results,Tryz.results228,go_sem,e0,e1,e2,e3,e4,e5,e6,e7,boxCells]) rfl HD.out
          · have HS6:=Lib.hid (HS5.out.below hb)
            have HZ6:=Lib.hid (HZ5.out.below hb HZ5.out.lt)
            have HK6:=Lib.hid (HK5.out.trans (Keeps.of_below hb))
            have HR6:=Lib.hid (HR5.out.below hb)
            have HOB:Hid (out = .ok (.cons ⟨8,0,0,0,some a,none⟩ t .nil .nil) k4):=Lib.hid (HX.out.det (.cond HIF.out HHO.out HB1.out hc))
            clear hc hb
            have HSS:=Lib.hid (show Sb w6 g5 gR gp ⟨8,0,0,0,some a,none⟩ t .nil pa pb (.slice pv t.len cv) (.slice none 0 0) from HS6.out)
            obtain ⟨b0,b1,b2,b3,b4,b5,b6,b7,l8⟩:=HSS.out.at8
            have hD:=stmt_end HR0.out HK6.out HR6.out HSS.out HZ6.out HG4.out HG5.out HGP.out
            skip
            go_wp2_with (refine wpList_store_row rfl 169 _ _ rfl g4 (boxCells ⟨8,0,0,0,some a,none⟩ pa pb (.slice pv t.len cv) (.slice none 0 0)) rfl rfl 169 zeroSt HZ6.out stSize rfl (box_one _ _ _ _ _ _ _ _ _) ?_)
            have hz4:Sits (w6.setRow g4 (boxCells ⟨8,0,0,0,some a,none⟩ pa pb (.slice pv t.len cv) (.slice none 0 0))) g4 169 (boxCells ⟨8,0,0,0,some a,none⟩ pa pb (.slice pv t.len cv) (.slice none 0 0)):=setRow_heap _ _ _ _ _ _ HZ6.out
            generalize w6.setRow g4 (boxCells ⟨8,0,0,0,some a,none⟩ pa pb (.slice pv t.len cv) (.slice none 0 0))=WE at hz4 hD ⊢
            have e0:=hz4.cell 0
            have e1:=hz4.cell 1
            have e2:=hz4.cell 2
            have e3:=hz4.cell 3
            have e4:=hz4.cell 4
            have e5:=hz4.cell 5
            have e6:=hz4.cell 6
            have e7:=hz4.cell 7
            have HD:=Lib.hid hD
            clear b0 b1 b2 b3 b4 b5 b6 b7 l8 hD hz4
            unfold boxCells at e0 e1 e2 e3 e4 e5 e6 e7
            rw [HOB.out]
            exact bodyPost_ret (v:=.agg (boxCells ⟨8,0,0,0,some a,none⟩ pa pb (.slice pv t.len cv) (.slice none 0 0))) (by simp [results,Tryz.results228,go_sem,e0,e1,e2,e3,e4,e5,e6,e7,boxCells,Act.put]) rfl HD.out
    by_cases hwh:ltrs ts k=wWhile
    · rw [decide_eq_false (show ltrs ts k ≠ [105,102] from hif)] at E1
      rw [decide_eq_true (show ltrs ts k=[119,104,105,108,101] from hwh)] at E2
      have HIF:=Lib.hid hif
      have HWH:=Lib.hid hwh
      generalize str (ltrs ts k)=x at s1 E1 E2 E3 E4 HRO
      clear hif hwh
      have HSk:=Lib.hid ((HS2.out.byte (m':=⟨9,0,0,0,none,none⟩) 0 (.int .u8 (9:Nat)) (fun _ _=>rfl) rfl rfl))
      have HRk:=Lib.hid (HR2.out.cell_put HS2.out.far HS2.out.late 0 (.int .u8 (9:Nat)))
      have HKk:=Lib.hid (HK2.out.put (p:=⟨g5,0,none⟩) (.inr HNE.out.2.2.1) (.int .u8 (9:Nat)))
      have HZk:=Lib.hid (HZ2.out.far (p:=⟨g5,0,none⟩) HNE.out.2.2.2.2 (.int .u8 (9:Nat)))
      go_wp2_with fail
      have HC:=Lib.hid (within_new [wFirst ts] (by simp) (by simp) 347 _ rfl HRk.out HSk.out 1 (set_sz _ _ _))
      refine HC.out.mono ?_
      rintro e w3 ⟨hk,hq⟩
      have HK3:=Lib.hid (keep2 HKk.out hk HNE.out.2.2.1)
      have HZ3:=Lib.hid (HZk.out.keep hk (fun e=>e.elim HNE.out.2.2.2.1.symm HNE.out.2.2.2.2))
      clear hk c0 f0 l0 HC s0 s1 s2 s3 s4 l6
      have HCW:=Lib.hid (cond_within (ts:=ts) ⟨9,0,0,0,none,none⟩ (k+1))
      rw [HCW.out] at hq
      cases ho:condF ts (k+1) with
      | bad j er =>
        rw [ho] at hq
        simp only [Out.map] at hq
        subst hq
        have HOB:Hid (out = .bad j er):=Lib.hid (HX.out.det (.headBad (.inr HWH.out) ho))
        clear ho
        go_wp2_with fail
        rw [HOB.out]
        exact ⟨rfl,HK3.out,rfl⟩
      | ok a k3 =>
        rw [ho] at hq
        simp only [Out.map] at hq
        obtain ⟨rfl,hs3,hr3⟩:=hq
        obtain ⟨pa,pb,hsb⟩:=hs3.sb
        have HS3:=Lib.hid hsb
        have HR3:=Lib.hid hr3
        have HHO:=Lib.hid ho
        have HK13:=Lib.hid (cond_ok HP.out (HM.out (by rw [HQ.out];decide)) ho)
        obtain ⟨o1,hb1,_⟩:=(bx_total hr3.good _ k3 (Nat.le_refl _) hr3.lt (d+1)).1
        have HB1:=Lib.hid hb1
        have hib:=HIB.out k3 (by have:=HK13.out.2.2.1;omega) (d+1) o1 w3 HDD.out hb1 hr3
        rw [<- HD1.out] at hib
        have HIB1:=Lib.hid hib
        clear ho hs3 hr3 hsb hb1 hib
        go_wp2_with fail
        refine HIB1.out.mono ?_
        rintro e w4 ⟨hk,hq⟩
        have HK4:=Lib.hid (HK3.out.trans hk)
        have HZ4:=Lib.hid (HZ3.out.keep hk HNE.out.2.2.2.1.symm)
        have HS4:=Lib.hid (HS3.out.keepR HR3.out hk)
        have HL34:=Lib.hid (show g5<w3.heap.size from HS3.out.box.lt)
        clear hk
        cases o1 with
        | bad j er =>
          simp only at hq
          subst hq
          have HOB:Hid (out = .bad j er):=Lib.hid (HX.out.det (.thenBad (.inr HWH.out) HHO.out HB1.out))
          go_wp2_with fail
          rw [HOB.out]
          exact ⟨rfl,HK4.out,rfl⟩
        | ok t k4 =>
          obtain ⟨⟨v,rfl,hv⟩,hr4⟩:=hq
          have hvz:Stand (zoneS g5 w4) w4 t v:=hv.wider fun x hx=>⟨Nat.lt_of_lt_of_le HL34.out hx.1,hx.2⟩
          have HS5:=Lib.hid (HS4.out.setT hvz)
          have HR5:=Lib.hid (hr4.cell_put HS4.out.far HS4.out.late 6 v)
          have HK5:=Lib.hid (HK4.out.put (p:=⟨g5,6,none⟩) (.inr HNE.out.2.2.1) v)
          have HZ5:=Lib.hid (HZ4.out.far (p:=⟨g5,6,none⟩) HNE.out.2.2.2.2 v)
          have c6:=HS4.out.box.cell 6
          have f6:=HS4.out.box.free 6
          have l6:=HS4.out.box.lt
          change w4.cell? ⟨g5,6,none⟩=some nilRow at c6
          unfold nilRow at c6
          obtain ⟨pv,cv,rfl,_⟩:=hvz.len
          clear hv hvz hr4
          have HOB:Hid (out = .ok (.cons ⟨9,0,0,0,some a,none⟩ t .nil .nil) k4):=Lib.hid (HX.out.det (.loop HWH.out HHO.out HB1.out))
          go_upto_region 18 with fail
          generalize w4.setCell ⟨g5,6,none⟩ (.slice pv t.len cv)=W5 at HS5 HR5 HK5 HZ5 ⊢
          have HSS:=Lib.hid (show Sb W5 g5 gR gp ⟨9,0,0,0,some a,none⟩ t .nil pa pb (.slice pv t.len cv) (.slice none 0 0) from HS5.out)
          obtain ⟨b0,b1,b2,b3,b4,b5,b6,b7,l8⟩:=HSS.out.at8
          have hD:=stmt_end HR0.out HK5.out HR5.out HSS.out HZ5.out HG4.out HG5.out HGP.out
          clear c6 f6 l6
          go_wp2_with (refine wpList_store_row rfl 169 _ _ rfl g4 (boxCells ⟨9,0,0,0,some a,none⟩ pa pb (.slice pv t.len cv) (.slice none 0 0)) rfl rfl 169 zeroSt HZ5.out stSize rfl (box_one _ _ _ _ _ _ _ _ _) ?_)
          have hz4:Sits (W5.setRow g4 (boxCells ⟨9,0,0,0,some a,none⟩ pa pb (.slice pv t.len cv) (.slice none 0 0))) g4 169 (boxCells ⟨9,0,0,0,some a,none⟩ pa pb (.slice pv t.len cv) (.slice none 0 0)):=setRow_heap _ _ _ _ _ _ HZ5.out
          generalize W5.setRow g4 (boxCells ⟨9,0,0,0,some a,none⟩ pa pb (.slice pv t.len cv) (.slice none 0 0))=WE at hz4 hD ⊢
          have e0:=hz4.cell 0
          have e1:=hz4.cell 1
          have e2:=hz4.cell 2
          have e3:=hz4.cell 3
          have e4:=hz4.cell 4
          have e5:=hz4.cell 5
          have e6:=hz4.cell 6
          have e7:=hz4.cell 7
          have HD:=Lib.hid hD
          clear b0 b1 b2 b3 b4 b5 b6 b7 l8 hD hz4
          unfold boxCells at e0 e1 e2 e3 e4 e5 e6 e7
          rw [HOB.out]
          exact bodyPost_ret (v:=.agg (boxCells ⟨9,0,0,0,some a,none⟩ pa pb (.slice pv t.len cv) (.slice none 0 0))) (by simp [results,Tryz.results228,go_sem,e0,e1,e2,e3,e4,e5,e6,e7,boxCells]) rfl HD.out
    have HOF:Hid (out=(flatF ts k).map fun m => .cons m .nil .nil .nil):=Lib.hid (by
      rcases bx_stmt HX.out with ⟨_,_,h⟩ | ⟨h1,_⟩ | ⟨h1,_⟩ | ⟨h1,_⟩ | ⟨h1,_⟩ | ⟨h1,_⟩
      · exact h
      · exact (h1.elim hif hwh).elim
      · exact (h1.elim hif hwh).elim
      · exact (hwh h1).elim
      · exact (hif h1).elim
      · exact (hif h1).elim)
    rw [decide_eq_false (show ltrs ts k ≠ [105,102] from hif)] at E1
    rw [decide_eq_false (show ltrs ts k ≠ [119,104,105,108,101] from hwh)] at E2
    clear hif hwh
    by_cases hst:ltrs ts k=wStore
    · rw [decide_eq_true (show ltrs ts k=[115,116,111,114,101] from hst)] at E3
      have HST:=Lib.hid hst
      generalize str (ltrs ts k)=x at s1 E1 E2 E3 E4 HRO
      clear hst
      have HSk:=Lib.hid ((HS2.out.byte (m':=⟨3,0,0,0,none,none⟩) 0 (.int .u8 (3:Nat)) (fun _ _=>rfl) rfl rfl))
      have HRk:=Lib.hid (HR2.out.cell_put HS2.out.far HS2.out.late 0 (.int .u8 (3:Nat)))
      have HKk:=Lib.hid (HK2.out.put (p:=⟨g5,0,none⟩) (.inr HNE.out.2.2.1) (.int .u8 (3:Nat)))
      have HZk:=Lib.hid (HZ2.out.far (p:=⟨g5,0,none⟩) HNE.out.2.2.2.2 (.int .u8 (3:Nat)))
      go_wp2_with fail
      have HC:=Lib.hid (within_new [wPlace ts,wFirst ts,wMode ts] (by simp) (by simp) 347 _ rfl HRk.out HSk.out 3 (set_sz _ _ _))
      refine HC.out.mono ?_
      rintro e w3 ⟨hk,hq⟩
      have HK3:=Lib.hid (keep2 HKk.out hk HNE.out.2.2.1)
      have HZ3:=Lib.hid (HZk.out.keep hk (fun e=>e.elim HNE.out.2.2.2.1.symm HNE.out.2.2.2.2))
      clear hk c0 f0 l0 HC s0 s1 s2 s3 s4 l6
      cases ho:withinF ts ([wPlace ts,wFirst ts,wMode ts].map (·.2)) ⟨3,0,0,0,none,none⟩ (k+1) with
      | bad j er =>
        rw [ho] at hq
        simp only at hq
        subst hq
        have HOB:Hid (out = .bad j er):=Lib.hid (by rw [HOF.out,show flatF ts k=_ from (by unfold flatF;rw [if_pos HST.out];exact call_3 ts 0 (k+1):flatF ts k=(withinF ts ([wPlace ts,wFirst ts,wMode ts].map (·.2)) ⟨3,0,0,0,none,none⟩ (k+1)).bind (endF ts)),bind_bad ho];rfl)
        clear ho
        go_wp2_with fail
        rw [HOB.out]
        exact ⟨rfl,HK3.out,rfl⟩
      | ok a k3 =>
        rw [ho] at hq
        obtain ⟨rfl,hs3,hr3⟩:=hq
        have HS3:=Lib.hid hs3
        have HR3:=Lib.hid hr3
        have HHO:=Lib.hid ho
        clear ho hs3 hr3
        have HSG3:=Lib.hid (HSG.out k3 [59] (by simp) w3 HR3.out)
        go_wp2_with fail
        refine HSG3.out.mono ?_
        rintro e w4 ⟨hk,hq⟩
        have HK4:=Lib.hid (HK3.out.trans hk)
        have HZ4:=Lib.hid (HZ3.out.keep hk HNE.out.2.2.2.1.symm)
        obtain ⟨pa,pb,hsb⟩:=(HS3.out.keepR HR3.out hk).sb
        have HS4:=Lib.hid hsb
        clear hk hsb
        cases ho:signF ts [59] k3 with
        | bad j er =>
          rw [ho] at hq
          simp only at hq
          subst hq
          have HOB:Hid (out = .bad j er):=Lib.hid (by rw [HOF.out,show flatF ts k=_ from (by unfold flatF;rw [if_pos HST.out];exact call_3 ts 0 (k+1):flatF ts k=(withinF ts ([wPlace ts,wFirst ts,wMode ts].map (·.2)) ⟨3,0,0,0,none,none⟩ (k+1)).bind (endF ts)),bind_ok HHO.out];show ((signF ts [59] k3).map _).map _=_;rw [ho];rfl)
          clear ho
          go_wp2_with fail
          rw [HOB.out]
          exact ⟨rfl,HK4.out,rfl⟩
        | ok u kz =>
          rw [ho] at hq
          obtain ⟨hv,hr⟩:=hq
          simp only [unitV] at hv
          subst hv
          have HR4:=Lib.hid hr
          have HOB:Hid (out = .ok (.cons a .nil .nil .nil) kz):=Lib.hid (by rw [HOF.out,show flatF ts k=_ from (by unfold flatF;rw [if_pos HST.out];exact call_3 ts 0 (k+1):flatF ts k=(withinF ts ([wPlace ts,wFirst ts,wMode ts].map (·.2)) ⟨3,0,0,0,none,none⟩ (k+1)).bind (endF ts)),bind_ok HHO.out];show ((signF ts [59] k3).map _).map _=_;rw [ho];rfl)
          clear ho hr
          have HSS:=Lib.hid (show Sb w4 g5 gR gp a .nil .nil pa pb (.slice none 0 0) (.slice none 0 0) from HS4.out)
          obtain ⟨b0,b1,b2,b3,b4,b5,b6,b7,l8⟩:=HSS.out.at8
          have hD:=stmt_end HR0.out HK4.out HR4.out HSS.out HZ4.out HG4.out HG5.out HGP.out
          skip
          go_wp2_with (refine wpList_store_row rfl 169 _ _ rfl g4 (boxCells a pa pb (.slice none 0 0) (.slice none 0 0)) rfl rfl 169 zeroSt HZ4.out stSize rfl (box_one _ _ _ _ _ _ _ _ _) ?_)
          have hz4:Sits (w4.setRow g4 (boxCells a pa pb (.slice none 0 0) (.slice none 0 0))) g4 169 (boxCells a pa pb (.slice none 0 0) (.slice none 0 0)):=setRow_heap _ _ _ _ _ _ HZ4.out
          generalize w4.setRow g4 (boxCells a pa pb (.slice none 0 0) (.slice none 0 0))=WE at hz4 hD ⊢
          have e0:=hz4.cell 0
          have e1:=hz4.cell 1
          have e2:=hz4.cell 2
          have e3:=hz4.cell 3
          have e4:=hz4.cell 4
          have e5:=hz4.cell 5
          have e6:=hz4.cell 6
          have e7:=hz4.cell 7
          have HD:=Lib.hid hD
          clear b0 b1 b2 b3 b4 b5 b6 b7 l8 hD hz4
          unfold boxCells at e0 e1 e2 e3 e4 e5 e6 e7
          rw [HOB.out]
          exact bodyPost_ret (v:=.agg (boxCells a pa pb (.slice none 0 0) (.slice none 0 0))) (by simp [results,Tryz.results228,go_sem,e0,e1,e2,e3,e4,e5,e6,e7,boxCells,Act.put]) rfl HD.out
    by_cases hfe:ltrs ts k=wFence
    · rw [decide_eq_false (show ltrs ts k ≠ [115,116,111,114,101] from hst)] at E3
      rw [decide_eq_true (show ltrs ts k=[102,101,110,99,101] from hfe)] at E4
      have HST:=Lib.hid hst
      have HFE:=Lib.hid hfe
      generalize str (ltrs ts k)=x at s1 E1 E2 E3 E4 HRO
      clear hst hfe
      have HSk:=Lib.hid ((HS2.out.byte (m':=⟨7,0,0,0,none,none⟩) 0 (.int .u8 (7:Nat)) (fun _ _=>rfl) rfl rfl))
      have HRk:=Lib.hid (HR2.out.cell_put HS2.out.far HS2.out.late 0 (.int .u8 (7:Nat)))
      have HKk:=Lib.hid (HK2.out.put (p:=⟨g5,0,none⟩) (.inr HNE.out.2.2.1) (.int .u8 (7:Nat)))
      have HZk:=Lib.hid (HZ2.out.far (p:=⟨g5,0,none⟩) HNE.out.2.2.2.2 (.int .u8 (7:Nat)))
      go_wp2_with fail
      have HC:=Lib.hid (within_new [wMode ts] (by simp) (by simp) 347 _ rfl HRk.out HSk.out 1 (set_sz _ _ _))
      refine HC.out.mono ?_
      rintro e w3 ⟨hk,hq⟩
      have HK3:=Lib.hid (keep2 HKk.out hk HNE.out.2.2.1)
      have HZ3:=Lib.hid (HZk.out.keep hk (fun e=>e.elim HNE.out.2.2.2.1.symm HNE.out.2.2.2.2))
      clear hk c0 f0 l0 HC s0 s1 s2 s3 s4 l6
      cases ho:withinF ts ([wMode ts].map (·.2)) ⟨7,0,0,0,none,none⟩ (k+1) with
      | bad j er =>
        rw [ho] at hq
        simp only at hq
        subst hq
        have HOB:Hid (out = .bad j er):=Lib.hid (by rw [HOF.out,show flatF ts k=_ from (by unfold flatF;rw [if_neg HST.out,if_pos HFE.out];exact call_7 ts 0 (k+1):flatF ts k=(withinF ts ([wMode ts].map (·.2)) ⟨7,0,0,0,none,none⟩ (k+1)).bind (endF ts)),bind_bad ho];rfl)
        clear ho
        go_wp2_with fail
        rw [HOB.out]
        exact ⟨rfl,HK3.out,rfl⟩
      | ok a k3 =>
        rw [ho] at hq
        obtain ⟨rfl,hs3,hr3⟩:=hq
        have HS3:=Lib.hid hs3
        have HR3:=Lib.hid hr3
        have HHO:=Lib.hid ho
        clear ho hs3 hr3
        have HSG3:=Lib.hid (HSG.out k3 [59] (by simp) w3 HR3.out)
        go_wp2_with fail
        refine HSG3.out.mono ?_
        rintro e w4 ⟨hk,hq⟩
        have HK4:=Lib.hid (HK3.out.trans hk)
        have HZ4:=Lib.hid (HZ3.out.keep hk HNE.out.2.2.2.1.symm)
        obtain ⟨pa,pb,hsb⟩:=(HS3.out.keepR HR3.out hk).sb
        have HS4:=Lib.hid hsb
        clear hk hsb
        cases ho:signF ts [59] k3 with
        | bad j er =>
          rw [ho] at hq
          simp only at hq
          subst hq
          have HOB:Hid (out = .bad j er):=Lib.hid (by rw [HOF.out,show flatF ts k=_ from (by unfold flatF;rw [if_neg HST.out,if_pos HFE.out];exact call_7 ts 0 (k+1):flatF ts k=(withinF ts ([wMode ts].map (·.2)) ⟨7,0,0,0,none,none⟩ (k+1)).bind (endF ts)),bind_ok HHO.out];show ((signF ts [59] k3).map _).map _=_;rw [ho];rfl)
          clear ho
          go_wp2_with fail
          rw [HOB.out]
          exact ⟨rfl,HK4.out,rfl⟩
        | ok u kz =>
          rw [ho] at hq
          obtain ⟨hv,hr⟩:=hq
          simp only [unitV] at hv
          subst hv
          have HR4:=Lib.hid hr
          have HOB:Hid (out = .ok (.cons a .nil .nil .nil) kz):=Lib.hid (by rw [HOF.out,show flatF ts k=_ from (by unfold flatF;rw [if_neg HST.out,if_pos HFE.out];exact call_7 ts 0 (k+1):flatF ts k=(withinF ts ([wMode ts].map (·.2)) ⟨7,0,0,0,none,none⟩ (k+1)).bind (endF ts)),bind_ok HHO.out];show ((signF ts [59] k3).map _).map _=_;rw [ho];rfl)
          clear ho hr
          have HSS:=Lib.hid (show Sb w4 g5 gR gp a .nil .nil pa pb (.slice none 0 0) (.slice none 0 0) from HS4.out)
          obtain ⟨b0,b1,b2,b3,b4,b5,b6,b7,l8⟩:=HSS.out.at8
          have hD:=stmt_end HR0.out HK4.out HR4.out HSS.out HZ4.out HG4.out HG5.out HGP.out
          skip
          go_wp2_with (refine wpList_store_row rfl 169 _ _ rfl g4 (boxCells a pa pb (.slice none 0 0) (.slice none 0 0)) rfl rfl 169 zeroSt HZ4.out stSize rfl (box_one _ _ _ _ _ _ _ _ _) ?_)
          have hz4:Sits (w4.setRow g4 (boxCells a pa pb (.slice none 0 0) (.slice none 0 0))) g4 169 (boxCells a pa pb (.slice none 0 0) (.slice none 0 0)):=setRow_heap _ _ _ _ _ _ HZ4.out
          generalize w4.setRow g4 (boxCells a pa pb (.slice none 0 0) (.slice none 0 0))=WE at hz4 hD ⊢
          have e0:=hz4.cell 0
          have e1:=hz4.cell 1
          have e2:=hz4.cell 2
          have e3:=hz4.cell 3
          have e4:=hz4.cell 4
          have e5:=hz4.cell 5
          have e6:=hz4.cell 6
          have e7:=hz4.cell 7
          have HD:=Lib.hid hD
          clear b0 b1 b2 b3 b4 b5 b6 b7 l8 hD hz4
          unfold boxCells at e0 e1 e2 e3 e4 e5 e6 e7
          rw [HOB.out]
          exact bodyPost_ret (v:=.agg (boxCells a pa pb (.slice none 0 0) (.slice none 0 0))) (by simp [results,Tryz.results228,go_sem,e0,e1,e2,e3,e4,e5,e6,e7,boxCells,Act.put]) rfl HD.out
    rw [decide_eq_false (show ltrs ts k ≠ [115,116,111,114,101] from hst)] at E3
    rw [decide_eq_false (show ltrs ts k ≠ [102,101,110,99,101] from hfe)] at E4
    have HST:=Lib.hid hst
    have HFE:=Lib.hid hfe
    generalize str (ltrs ts k)=x at s1 E1 E2 E3 E4 HRO
    clear hst hfe
    have HFL:Hid (flatF ts k=(regF ts k).bind fun r k=>(signF ts [61] k).bind fun _ k=>gotF ts r k):=Lib.hid (by unfold flatF;rw [if_neg HST.out,if_neg HFE.out])
    go_wp2_with fail
    refine (HRO.out _).mono ?_
    rintro e w3 ⟨hb,hm⟩
    have HK3:=Lib.hid (HK2.out.trans (Keeps.of_below hb))
    have HZ3:=Lib.hid (HZ2.out.below hb HZ2.out.lt)
    have HS3:=Lib.hid (HS2.out.below hb)
    have HR3:=Lib.hid (HR2.out.below hb)
    clear hb c0 f0 l0 s0 s1 s2 s3 s4 l6
    cases hx:regOf (tk ts k).text with
    | none =>
      have hm:e = .panicked (flt (tk ts k) 7):=by
        change (match regOf (tk ts k).text with | some i=>e = .returned (.int .u8 (i:Nat)) | none=>e = .panicked (flt (tk ts k) 7)) at hm
        rw [hx] at hm;exact hm
      subst hm
      have HOB:Hid (out = .bad k 7):=Lib.hid (by rw [HOF.out,HFL.out,show regF ts k = .bad k 7 from wordF_none HQ.out hx];rfl)
      clear hx
      go_wp2_with fail
      rw [HOB.out]
      exact ⟨rfl,HK3.out,rfl⟩
    | some rg =>
      have hm:e = .returned (.int .u8 (rg:Nat)):=by
        change (match regOf (tk ts k).text with | some i=>e = .returned (.int .u8 (i:Nat)) | none=>e = .panicked (flt (tk ts k) 7)) at hm
        rw [hx] at hm;exact hm
      subst hm
      have HFM:Hid (flatF ts k=(signF ts [61] (k+1)).bind fun _ k=>gotF ts rg k):=Lib.hid (by rw [HFL.out,show regF ts k = .ok rg (k+1) from wordF_some HQ.out hx];rfl)
      have HSr:=Lib.hid (HS3.out.byte (m':=⟨0,rg,0,0,none,none⟩) 1 (.int .u8 (rg:Nat)) (fun _ _=>rfl) rfl rfl)
      have HRr:=Lib.hid (HR3.out.cell_put HS3.out.far HS3.out.late 1 (.int .u8 (rg:Nat)))
      have HKr:=Lib.hid (HK3.out.put (p:=⟨g5,1,none⟩) (.inr HNE.out.2.2.1) (.int .u8 (rg:Nat)))
      have HZr:=Lib.hid (HZ3.out.far (p:=⟨g5,1,none⟩) HNE.out.2.2.2.2 (.int .u8 (rg:Nat)))
      obtain ⟨⟨av,bv,hbx,_,_⟩,_,_⟩:=HS3.out
      have c1:w3.cell? ⟨g5,1,none⟩=some (.int .u8 (0:Nat)):=hbx.cell 1
      have f1:=hbx.free 1
      have l1:=hbx.lt
      have HSG2:=Lib.hid (HSG.out (k+1) [61] (by simp) _ HRr.out)
      clear hx hbx
      go_wp2_with fail
      refine HSG2.out.mono ?_
      rintro e w4 ⟨hk,hq⟩
      have HK4:=Lib.hid (HKr.out.trans hk)
      have HZ4:=Lib.hid (HZr.out.keep hk HNE.out.2.2.2.1.symm)
      have HS4:=Lib.hid (HSr.out.keepR HRr.out hk)
      clear hk c1 f1 l1
      cases ho:signF ts [61] (k+1) with
      | bad j er =>
        rw [ho] at hq
        simp only at hq
        subst hq
        have HOB:Hid (out = .bad j er):=Lib.hid (by rw [HOF.out,HFM.out,ho];rfl)
        clear ho
        go_wp2_with fail
        rw [HOB.out]
        exact ⟨rfl,HK4.out,rfl⟩
      | ok u k4 =>
        rw [ho] at hq
        obtain ⟨hv,hr⟩:=hq
        simp only [unitV] at hv
        subst hv
        have HR4:=Lib.hid hr
        have HFN:Hid (flatF ts k=gotF ts rg k4):=Lib.hid (by rw [HFM.out,ho];rfl)
        have HC:=Lib.hid (got_any g5 _ k4 w4 HR4.out HS4.out)
        clear ho hr
        go_wp2_with fail
        refine HC.out.mono ?_
        rintro e w3 ⟨hk,hq⟩
        have HK3:=Lib.hid (keep2 HK4.out hk HNE.out.2.2.1)
        have HZ3:=Lib.hid (HZ4.out.keep hk (fun e=>e.elim HNE.out.2.2.2.1.symm HNE.out.2.2.2.2))
        clear hk HC
        cases ho:gotM ts ⟨0,rg,0,0,none,none⟩ k4 with
        | bad j er =>
          rw [ho] at hq
          simp only at hq
          subst hq
          have HOB:Hid (out = .bad j er):=Lib.hid (by rw [HOF.out,HFN.out,gotF_of,show got0 ts rg k4=gotM ts ⟨0,rg,0,0,none,none⟩ k4 from rfl,bind_bad ho];rfl)
          clear ho
          go_wp2_with fail
          rw [HOB.out]
          exact ⟨rfl,HK3.out,rfl⟩
        | ok a k3 =>
          rw [ho] at hq
          obtain ⟨rfl,hs3,hr3⟩:=hq
          have HS3:=Lib.hid hs3
          have HR3:=Lib.hid hr3
          have HHO:=Lib.hid ho
          clear ho hs3 hr3
          have HSG3:=Lib.hid (HSG.out k3 [59] (by simp) w3 HR3.out)
          go_wp2_with fail
          refine HSG3.out.mono ?_
          rintro e w4 ⟨hk,hq⟩
          have HK4:=Lib.hid (HK3.out.trans hk)
          have HZ4:=Lib.hid (HZ3.out.keep hk HNE.out.2.2.2.1.symm)
          obtain ⟨pa,pb,hsb⟩:=(HS3.out.keepR HR3.out hk).sb
          have HS4:=Lib.hid hsb
          clear hk hsb
          cases ho:signF ts [59] k3 with
          | bad j er =>
            rw [ho] at hq
            simp only at hq
            subst hq
            have HOB:Hid (out = .bad j er):=Lib.hid (by rw [HOF.out,(show flatF ts k=(gotM ts ⟨0,rg,0,0,none,none⟩ k4).bind (endF ts) from HFN.out.trans (gotF_of ts rg k4)),bind_ok HHO.out];show ((signF ts [59] k3).map _).map _=_;rw [ho];rfl)
            clear ho
            go_wp2_with fail
            rw [HOB.out]
            exact ⟨rfl,HK4.out,rfl⟩
          | ok u kz =>
            rw [ho] at hq
            obtain ⟨hv,hr⟩:=hq
            simp only [unitV] at hv
            subst hv
            have HR4:=Lib.hid hr
            have HOB:Hid (out = .ok (.cons a .nil .nil .nil) kz):=Lib.hid (by rw [HOF.out,(show flatF ts k=(gotM ts ⟨0,rg,0,0,none,none⟩ k4).bind (endF ts) from HFN.out.trans (gotF_of ts rg k4)),bind_ok HHO.out];show ((signF ts [59] k3).map _).map _=_;rw [ho];rfl)
            clear ho hr
            have HSS:=Lib.hid (show Sb w4 g5 gR gp a .nil .nil pa pb (.slice none 0 0) (.slice none 0 0) from HS4.out)
            obtain ⟨b0,b1,b2,b3,b4,b5,b6,b7,l8⟩:=HSS.out.at8
            have hD:=stmt_end HR0.out HK4.out HR4.out HSS.out HZ4.out HG4.out HG5.out HGP.out
            skip
            go_wp2_with (refine wpList_store_row rfl 169 _ _ rfl g4 (boxCells a pa pb (.slice none 0 0) (.slice none 0 0)) rfl rfl 169 zeroSt HZ4.out stSize rfl (box_one _ _ _ _ _ _ _ _ _) ?_)
            have hz4:Sits (w4.setRow g4 (boxCells a pa pb (.slice none 0 0) (.slice none 0 0))) g4 169 (boxCells a pa pb (.slice none 0 0) (.slice none 0 0)):=setRow_heap _ _ _ _ _ _ HZ4.out
            generalize w4.setRow g4 (boxCells a pa pb (.slice none 0 0) (.slice none 0 0))=WE at hz4 hD ⊢
            have e0:=hz4.cell 0
            have e1:=hz4.cell 1
            have e2:=hz4.cell 2
            have e3:=hz4.cell 3
            have e4:=hz4.cell 4
            have e5:=hz4.cell 5
            have e6:=hz4.cell 6
            have e7:=hz4.cell 7
            have HD:=Lib.hid hD
            clear b0 b1 b2 b3 b4 b5 b6 b7 l8 hD hz4
            unfold boxCells at e0 e1 e2 e3 e4 e5 e6 e7
            rw [HOB.out]
            exact bodyPost_ret (v:=.agg (boxCells a pa pb (.slice none 0 0) (.slice none 0 0))) (by simp [results,Tryz.results228,go_sem,e0,e1,e2,e3,e4,e5,e6,e7,boxCells,Act.put]) rfl HD.out
  · have HE:=Lib.hid (stmt_word HP.out HX.out hq)
    clear hk hq
    go_wp2_with fail
    rw [HE.out]
    exact ⟨rfl,HK1.out,rfl⟩
end
end Go.Proofs.YtagebkachdmnbaaGreatDoor.Prs
end
