/- Part 32 of the proof: what is used of the texts PrsT, PrsU. -/
import Derived.Test.YtagebkachdmnbaaGreatDoorED0
import Derived.Test.YtagebkachdmnbaaGreatDoorEA9
section
namespace Go.Proofs.YtagebkachdmnbaaGreatDoor.Prs
open Go.RowKit Go.Proofs.YtagebkachdmnbaaGreatDoor.Mem Go.Proofs.YtagebkachdmnbaaGreatDoor.Expr Go.Proofs.YtagebkachdmnbaaGreatDoor.Prog
open Go.Proofs.YtagebkachdmnbaaGreatDoor.Lex (Tok isL isLD isD)
section
variable {gR gp cap : Nat} {ts : List Lex.Tok}
theorem outs_keepR {B:Nat} {w w':World} {q:Blk} {v:Value} {k:Nat} (h:Outs B w q v) (hr:Rd w gR gp cap ts k) (hB:gR<B) (hk:Keeps (fun x=>x=gR) w w'):Outs B w' q v:=by
  have hol:v.ownBlock≠some gR:=by
    obtain ⟨cs,h1,_⟩:=h
    intro e
    rcases h1.2 with ⟨rfl,_⟩ | ⟨g',cap,cur,rfl,hg,hh,_⟩
    · simp [Value.ownBlock] at e
    · have:g' = gR:=by simpa [Value.ownBlock] using e
      omega
  obtain ⟨cs,h1,h2⟩:=h
  have hs:=hr.stable hk
  refine ⟨cs,h1.kept (row:=some gR) ⟨hk.os,hk.tape,hk.output,hk.size,fun k hk' hne=>hk.block k hk' (fun e=>hne (by rw [e]))⟩ (.inr hol),(h2.keep hs fun g hg j u hu=>?_).wider fun g ⟨g1,g2,g3⟩=>⟨g1,Nat.lt_of_lt_of_le g2 hk.size,g3⟩⟩
  rw [World.cell?_of_block (hk.block g hg.2.1 (fun e=>by have:=hg.1;omega))];exact hu
theorem keeps_grown' {X:Nat->Prop} {w W W':World} {row:Option Nat} (h:Keeps X w W) (hg:W.grownBy W' row) (hr:∀ g,row=some g->w.heap.size<=g):Keeps X w W' :=
  ⟨hg.os.trans h.os,hg.tape.trans h.tape,hg.output.trans h.output,Nat.le_trans h.size hg.size,fun b hb hn=>(hg.block b (Nat.lt_of_lt_of_le hb h.size) (fun e=>by have:=hr b e.symm;omega)).trans (h.block b hb hn)⟩
theorem Rd.grown {w W W':World} {k0 k:Nat} {row:Option Nat} (h0:Rd w gR gp cap ts k0) (h:Rd W gR gp cap ts k) (hK:Keeps (fun x=>x=gR) w W') (hg:W.grownBy W' row) (hr:∀ g,row=some g->w.heap.size<=g):Rd W' gR gp cap ts k:=by
  have hgp:gp<w.heap.size:=World.block_lt_of_cell? _ _ (h0.at h0.lt).1
  have hgpW:gp<W.heap.size:=World.block_lt_of_cell? _ _ (h.at h.lt).1
  refine ⟨h.box.grown hg (fun e=>by have:=hr gR e;have:=h0.box.lt;omega),fun j i u hj hu=>?_,h.lt,h.cap,h.few,h.far,h.good,h0.baseK hK⟩
  rw [World.cell?_of_block (hg.block gp hgpW (fun e=>by have:=hr gp e.symm;omega))];exact h.row j i u hj hu
theorem bx_more_inv {d k:Nat} {q:Blk} {out:Out Blk} (h:Bx ts (.more d q) k out):(ltrs ts k=[125]/\out = .ok q (k+1)) \/ (ltrs ts k ≠ [125]/\∃ o1,Bx ts (.stmt d) k o1 /\
    ((∃ j er,o1 = .bad j er/\out = .bad j er) \/ ∃ m t e k1,o1 = .ok (.cons m t e .nil) k1/\Bx ts (.more d (q.snoc m t e)) k1 out)):=by
  cases h with
  | close h1=>exact .inl ⟨h1,rfl⟩
  | step h1 h2 h3=>exact .inr ⟨h1,_,h2,.inr ⟨_,_,_,_,rfl,h3⟩⟩
  | stepBad h1 h2=>exact .inr ⟨h1,_,h2,.inl ⟨_,_,rfl,rfl⟩⟩
theorem bx_block_inv {d k:Nat} {out:Out Blk} (h:Bx ts (.block d) k out):(ltrs ts k ≠ [123]/\out = .bad k 3) \/ (ltrs ts k=[123]/\8<d/\out = .bad k 4) \/ (ltrs ts k=[123]/\d<=8/\Bx ts (.more d .nil) (k+1) out):=by
  cases h with
  | none h1=>exact .inl ⟨h1,rfl⟩
  | deep h1 h2=>exact .inr (.inl ⟨h1,h2,rfl⟩)
  | block h1 h2 h3=>exact .inr (.inr ⟨h1,h2,h3⟩)
set_option maxRecDepth 100000 in
set_option maxHeartbeats 4000000 in
theorem block_rd (hp:Pcs ts) (k:Nat) (IS:∀ k',k<k' -> StmtC gR gp cap ts k'):BlockC gR gp cap ts k:=by
  intro d out w hd hx h
  obtain ⟨i0,hi0,hz0,hz1,hz2⟩:=info_parts stInfo
  have HP:=Lib.hid hp
  have HX:=Lib.hid hx
  have HR0:=Lib.hid h
  have HIS:=Lib.hid IS
  have HGP:=Lib.hid (show gp<w.heap.size from World.block_lt_of_cell? _ _ (h.at h.lt).1)
  have HGR:=Lib.hid (show gR<w.heap.size from h.box.lt)
  have HN:=Lib.hid (next_any h)
  have HTH:=Lib.hid (fun W=>throw_any (tk ts k) 4 W)
  have HSG:=Lib.hid (fun W (hr:Rd W gR gp cap ts k)=>(sign_any hr [123] (by simp):Calls _ _ #[_,.string (str [123])] W _))
  have HHC:=Lib.hid (fun k2 W (hr:Rd W gR gp cap ts k2)=>(has_any hr [125] (by simp):Calls _ _ #[_,.string (str [125])] W _))
  have dd:(d:Int)<=9:=by omega
  have d0:(0:Int)<=(d:Int):=by omega
  unfold pc at HTH
  clear h hp hx IS hd
  go_enter Tryz.func180,Tryz.ntmps180
  go_wp2_with fail
  refine HN.out.mono ?_
  rintro e w1 ⟨rfl,hb⟩
  have hz:=Sits.new w1 278 zeroPc
  have HZ:=Lib.hid hz
  have hkk:=row_keeps (w1.alloc (.cells zeroPc 278)) w1.heap.size (pc (tk ts k))
  have hs:Sits ((w1.alloc (.cells zeroPc 278)).setRow w1.heap.size (pc (tk ts k))) w1.heap.size 278 (pc (tk ts k)):=setRow_heap _ _ _ _ _ _ hz
  have hlow1:Below w1.heap.size w1 ((w1.alloc (.cells zeroPc 278)).setRow w1.heap.size (pc (tk ts k))):=behind ((Below.refl _ _).alloc (Nat.le_refl _) _) hkk (by simp) (fun x e=>by rw [e];exact Nat.le_refl _)
  have hlow:=hb.trans (hlow1.mono hb.size)
  have HNE:=Lib.hid (show gR≠w1.heap.size by have:=hb.size;have:=HGR.out;omega)
  clear hz hkk hlow1 hb
  go_upto_region 2 with (refine wpList_store_row rfl 278 _ _ rfl w1.heap.size (pc (tk ts k)) rfl rfl 278 zeroPc HZ.out pcSize rfl (pc_one _) ?_)
  change Code.wp _ _ _ _ ((w1.alloc (.cells zeroPc 278)).setRow w1.heap.size (pc (tk ts k)))
  generalize (w1.alloc (.cells zeroPc 278)).setRow w1.heap.size (pc (tk ts k))=W3 at hs hlow ⊢
  generalize w1.heap.size=g0 at hs HNE ⊢
  have HS:=Lib.hid hs
  have HLW:=Lib.hid hlow
  have HR:=Lib.hid (HR0.out.below hlow)
  have HSG1:=Lib.hid (HSG.out _ HR.out)
  clear hs hlow HZ HN HSG
  go_wp2_with fail
  refine HSG1.out.mono ?_
  rintro e w4 ⟨hk,hq⟩
  have HK4:=Lib.hid ((Keeps.of_below HLW.out:Keeps (fun x=>x=gR) w W3).trans hk)
  have hs4:=HS.out.keep hk HNE.out.symm
  obtain ⟨z0,z1,z2,z3,z4⟩:=pc_at hs4
  have lz:=hs4.lt
  clear hk hs4
  rcases bx_block_inv HX.out with ⟨hc,rfl⟩ | ⟨hc,h8,rfl⟩ | ⟨hc,h8,hm⟩
  · rw [show signF ts [123] k = .bad k 3 from (by unfold signF;rw [if_neg hc])] at hq
    simp only at hq
    subst hq
    clear hc
    go_wp2_with fail
    exact ⟨rfl,HK4.out,rfl⟩
  · rw [show signF ts [123] k = .ok () (k+1) from (by unfold signF;rw [if_pos hc])] at hq
    obtain ⟨hv,hr⟩:=hq
    simp only [unitV] at hv
    subst hv
    have m1:(8:Int)<(d:Int):=by omega
    clear hc hr
    go_wp2_with fail
    refine (HTH.out _).mono ?_
    rintro e w5 ⟨rfl,hb⟩
    have HB5:=Lib.hid (HK4.out.trans (Keeps.of_below hb))
    clear hb
    go_wp2_with fail
    exact ⟨rfl,HB5.out,rfl⟩
  · rw [show signF ts [123] k = .ok () (k+1) from (by unfold signF;rw [if_pos hc])] at hq
    obtain ⟨hv,hr⟩:=hq
    simp only [unitV] at hv
    subst hv
    have m1:¬ (8:Int)<(d:Int):=by omega
    have HR4:=Lib.hid hr
    have HMO:=Lib.hid hm
    have H8:=Lib.hid h8
    clear hc hr hm h8 z0 z1 z2 z3 z4 lz
    go_wp2_with fail
    go_loopg [6] (ts.length - (k+1)) (fun gg v6 wx=>∃ (k2:Nat) (q:Blk),gg=ts.length - k2/\Hid (Bx ts (.more d q) k2 out)/\Hid (Outs w.heap.size wx q v6)/\Hid (Rd wx gR gp cap ts k2)/\Hid (Keeps (fun x=>x=gR) w wx)/\Hid (k<k2/\q.len<=k2))
    case atStart=>exact ⟨k+1,.nil,rfl,HMO,Lib.hid (Outs.nil _ _),HR4,HK4,Lib.hid ⟨by omega,Nat.zero_le _⟩⟩
    case round =>
      obtain ⟨k2,q,rfl,HMO,HOS,HR2,HK2,HKK⟩:=hrel
      obtain ⟨p6,c6,rfl⟩:=HOS.out.slice
      have HH:=Lib.hid (HHC.out k2 _ HR2.out)
      go_wp2_with fail
      refine HH.out.mono ?_
      intro e w5 hq
      rcases bx_more_inv HMO.out with ⟨hc,rfl⟩ | ⟨hc,o1,hst,ho⟩
      · rcases hq with ⟨_,rfl,hk,hr⟩ | ⟨hn,_⟩
        · have HD:=Lib.hid (show Done gR gp cap ts (blkV w.heap.size) (.ok q (k2+1)) w (.returned (.slice p6 q.len c6)) w5 from
            ⟨HK2.out.trans hk,⟨_,rfl,(outs_keepR HOS.out HR2.out HGR.out hk).stand (by have:=HKK.out;have:=HR2.out.few;have:=HR2.out.lt;omega)⟩,hr⟩)
          clear hk hr hc
          go_wp2_with fail
          go_ret
          exact HD.out
        · exact absurd hc hn
      · rcases hq with ⟨hn,_⟩ | ⟨_,rfl,hb⟩
        · exact absurd hn hc
        · have HR5:=Lib.hid (HR2.out.below hb)
          have HOS5:=Lib.hid (HOS.out.below hb)
          have HK5:=Lib.hid (HK2.out.trans (Keeps.of_below hb))
          have HIS1:=Lib.hid (HIS.out k2 HKK.out.1 d o1 w5 H8.out hst HR5.out)
          have HST:=Lib.hid hst
          clear hc hb
          go_wp2_with fail
          refine HIS1.out.mono ?_
          rintro e w6 ⟨hk,hq⟩
          have HK6:=Lib.hid (HK5.out.trans hk)
          have HOS6:=Lib.hid (outs_keepR HOS5.out HR5.out HGR.out hk)
          have HSZ:=Lib.hid (show w.heap.size<=w5.heap.size/\(∀ g,(Value.slice p6 q.len c6).ownBlock=some g->g<w5.heap.size) from ⟨HK5.out.size,HOS5.out.lt⟩)
          clear hk
          rcases ho with ⟨j,er,rfl,rfl⟩ | ⟨m,t,e',k3,rfl,hmo⟩
          · simp only at hq
            subst hq
            go_wp2_with fail
            exact ⟨rfl,HK6.out,rfl⟩
          · obtain ⟨⟨m',t',e2,pa,pb,tv,ev,hcons,rfl,ha,hbb,ht,he⟩,hr6⟩:=hq
            injection hcons with h1 h2 h3
            subst h1 h2 h3
            obtain ⟨pt,ct,rfl,_⟩:=ht.len
            obtain ⟨pe,ce,rfl,_⟩:=he.len
            have hgrow:=((bx_ok HP.out HST.out HR5.out.lt H8.out _ _ rfl).2).2
            have HG:=Lib.hid (show k2<k3 by have:=hgrow.1;simp only [Blk.size] at this;omega)
            have hal:Below w6.heap.size w6 (w6.alloc (.cells #[.int .u8 m.kind,.int .u8 m.reg,.int .u8 m.mode,.int .u8 m.loc,.pointer pa,.pointer pb,.slice pt t.len ct,.slice pe e'.len ce] 169)):=(Below.refl _ _).alloc (Nat.le_refl _) _
            have HAL:=Lib.hid hal
            have HTA:=Lib.hid (ha.below hal)
            have HTB:=Lib.hid (hbb.below hal)
            have HOW:=Lib.hid (HOS6.out.below hal)
            have HT:=Lib.hid (show Stand (fun g=>w.heap.size<=g/\g<(w6.alloc (.cells #[.int .u8 m.kind,.int .u8 m.reg,.int .u8 m.mode,.int .u8 m.loc,.pointer pa,.pointer pb,.slice pt t.len ct,.slice pe e'.len ce] 169)).heap.size/\(Value.slice p6 q.len c6).ownBlock≠some g) _ t (.slice pt t.len ct) from
              (ht.below hal).wider fun g hg=>⟨Nat.le_trans HSZ.out.1 hg.1,Nat.lt_of_lt_of_le hg.2 hal.size,fun e=>by have:=HSZ.out.2 g e;have:=hg.1;omega⟩)
            have HE:=Lib.hid (show Stand (fun g=>w.heap.size<=g/\g<(w6.alloc (.cells #[.int .u8 m.kind,.int .u8 m.reg,.int .u8 m.mode,.int .u8 m.loc,.pointer pa,.pointer pb,.slice pt t.len ct,.slice pe e'.len ce] 169)).heap.size/\(Value.slice p6 q.len c6).ownBlock≠some g) _ e' (.slice pe e'.len ce) from
              (he.below hal).wider fun g hg=>⟨Nat.le_trans HSZ.out.1 hg.1,Nat.lt_of_lt_of_le hg.2 hal.size,fun e=>by have:=HSZ.out.2 g e;have:=hg.1;omega⟩)
            have HR6:=Lib.hid hr6
            have HMO3:=Lib.hid hmo
            have HMM:Hid (m=m):=Lib.hid rfl
            have lws:w.heap.size<=w6.heap.size:=HK6.out.size
            have lq6:q.len<=5000:=by have:=HKK.out;have:=HR2.out.few;have:=HR2.out.lt;omega
            obtain ⟨cs,hown,hhold⟩:=HOW.out
            have HHO:=Lib.hid hhold
            have HOWN:=Lib.hid hown
            clear ha hbb ht he hr6 hmo hal hgrow hhold
            unfold boxCells
            go_wp2_with (at_builtin;refine wpList_append_lies _ rfl _ _ 110 rfl w.heap.size 169 i0 (.agg zeroSt) 8 72 Tryz.underlying110 hi0 hz0 hz1 hz2 rfl (by omega) _ q.len cs rfl hown ⟨w6.heap.size,0,none⟩ 1 1 (stCells m (.pointer pa) (.pointer pb) (.slice pt t.len ct) (.slice pe e'.len ce)) rfl rfl (st_at _ _ _ _ _ _) (st_one _ _ _ _ _ _ _ _ _) (by omega) (by unfold maxLen;omega) (by omega) (by simp;omega) (w6.heap.size+1) (by simp) ?_)
            intro g' cap' w7 hown7 hgrow hat hlt7
            have HO7:=Lib.hid (Outs.append HOWN.out HHO.out HTA.out HTB.out HT.out HE.out rfl hown7 hgrow (hat.imp id (fun h=>by rw [h];simp)))
            have hgk:∀ g,(Value.slice p6 q.len c6).ownBlock=some g->w.heap.size<=g:=fun g hg=>(HOWN.out.lt g hg).1
            have hK7:=keeps_grown' (HK6.out.trans (Keeps.of_below HAL.out)) hgrow hgk
            have HK7:=Lib.hid hK7
            have HR7:=Lib.hid (HR0.out.grown (HR6.out.below HAL.out) hK7 hgrow hgk)
            clear hown7 hgrow hat hlt7 hown hgk hK7
            go_wp2_with fail
            go_roundg (ts.length - k3)
            case measure=>have:=HG.out;have:=HR2.out.lt;omega
            case rel=>exact ⟨k3,q.snoc m t e',rfl,HMO3,HO7,HR7,HK7,Lib.hid ⟨by have:=HG.out;have:=HKK.out;omega,by rw [Blk.len_snoc];have:=HG.out;have:=HKK.out;omega⟩⟩
end
end Go.Proofs.YtagebkachdmnbaaGreatDoor.Prs
end
section
namespace Go.Proofs.YtagebkachdmnbaaGreatDoor.Prs
open Go.RowKit Go.Proofs.YtagebkachdmnbaaGreatDoor.Mem Go.Proofs.YtagebkachdmnbaaGreatDoor.Expr Go.Proofs.YtagebkachdmnbaaGreatDoor.Prog
open Go.Proofs.YtagebkachdmnbaaGreatDoor.Lex (Tok isL isLD isD)
def tCells (vi vt:Value) (al:Bool) (pa:Option Addr):Array Value:=#[vi,vt,.bool al,.pointer pa]
def zeroT:Array Value:=#[.slice none 0 0,.slice none 0 0,.bool false,.pointer none]
theorem t_one (p q:Option Addr) (n c n' c':Nat) (al:Bool) (pa:Option Addr):(tCells (.slice p n c) (.slice q n' c') al pa).all (·.oneCell')=true:=by
  rw [Array.all_eq_true']
  intro u hu
  simp only [tCells,List.mem_toArray,List.mem_cons,List.not_mem_nil,or_false] at hu
  rcases hu with rfl | rfl | rfl | rfl <;> rfl
theorem own_keeps {w w':World} {base:Nat} {e:TypeId} {size n:Nat} {v:Value} {xs:List Value} {X:Nat->Prop} (h:w.ownsRow base e size v n xs) (k:Keeps X w w') (hn:∀ g,v.ownBlock=some g->¬ X g):w'.ownsRow base e size v n xs:=by
  refine ⟨h.1,?_⟩
  rcases h.2 with h2 | ⟨g,cap,cur,rfl,hb,hh,r⟩
  · exact .inl h2
  · exact .inr ⟨g,cap,cur,rfl,hb,(k.block g (lt_of_block hh) (hn g rfl)).trans hh,r⟩
theorem own_others {w:World} {base:Nat} {e e':TypeId} {size size' n n':Nat} {v v':Value} {xs xs':List Value} (h:w.ownsRow base e size v n xs) (h':w.ownsRow base e' size' v' n' xs') (hne:e≠e'):∀ g,v'.ownBlock=some g->v.ownBlock≠some g:=by
  intro g hg
  rcases h'.2 with ⟨rfl,_⟩ | ⟨g',cap,cur,rfl,_,hh,_⟩
  · simp [Value.ownBlock] at hg
  · have:g' = g:=by simpa [Value.ownBlock] using hg
    subst this
    exact own_far h (show Sits w g' e' cur from hh) hne
section
variable {gR gp cap : Nat} {ts : List Lex.Tok}
structure Mkr (w:World) (gR g:Nat) (li:List (Nat × Nat)) (bs:List Blk) (al:Bool) (ask:Option Ex) (vi vt:Value) (pa:Option Addr) (W:World):Prop where
  low:Keeps (fun x=>x=gR) w W
  lt:gR<w.heap.size
  box:Sits W g 40 (tCells vi vt al pa)
  gB:w.heap.size<=g
  init:W.ownsRow w.heap.size 126 2 vi li.length (li.flatMap initCell)
  row:∃ vs:List Value,W.ownsRow w.heap.size 110 1 vt bs.length vs/\vs.length=bs.length/\∀ (i:Nat) (b:Blk) (u:Value),bs[i]? = some b->vs[i]? = some u->Stand (zone (w.heap.size+2) W vt g) W b u
  ask:Tree W (trO ask) (.pointer pa)
  two:w.heap.size+2<=W.heap.size
theorem low2 {X:Nat->Prop} {w W W':World} (h:Keeps (fun x=>x=gR) w W) (hk:Keeps X W W') (hX:∀ x,X x->x=gR \/ w.heap.size<=x):Keeps (fun x=>x=gR) w W' :=
  (((h.wider fun x _ e => .inl e).trans (hk.wider fun x _ e => .inr e):Keeps (fun x=>x=gR \/ X x) w W')).wider fun x hx e=>e.elim id fun e=>(hX x e).resolve_right (by omega)
section
variable {w W W' : World} {g : Nat} {li : List (Nat × Nat)} {bs : List Blk} {al : Bool} {ask : Option Ex} {vi vt : Value} {pa : Option Addr}
theorem Mkr.keep {X:Nat->Prop} (h:Mkr w gR g li bs al ask vi vt pa W) (hk:Keeps X W W') (hX:∀ x,X x->x=gR \/ W.heap.size<=x) (hs:Stable 204 W W'):Mkr w gR g li bs al ask vi vt pa W':=by
  have hlt:=h.lt
  have nx:∀ x,w.heap.size<=x->x<W.heap.size->¬ X x:=fun x h1 h2 hx=>by rcases hX x hx with rfl | h3 <;> omega
  have ho:∀ {e:TypeId} {size n:Nat} {v:Value} {xs:List Value},W.ownsRow w.heap.size e size v n xs->W'.ownsRow w.heap.size e size v n xs:=fun ho=>own_keeps ho hk fun y hy=>nx y (ho.lt y hy).1 (ho.lt y hy).2
  refine ⟨low2 h.low hk fun x hx=>(hX x hx).imp id fun e=>Nat.le_trans h.low.size e,h.lt,h.box.keep hk (nx g h.gB h.box.lt),h.gB,ho h.init,?_,h.ask.stable hs,Nat.le_trans h.two hk.size⟩
  obtain ⟨vs,h1,h2,h3⟩:=h.row
  exact ⟨vs,ho h1,h2,fun i b u hb hu=>((h3 i b u hb hu).keep hs fun x ⟨a,b,_,_⟩ j y hy=>by
    rw [World.cell?_of_block (hk.block x b (nx x (by omega) b))];exact hy).wider (zone_mono hk.size)⟩
theorem Mkr.below (h:Mkr w gR g li bs al ask vi vt pa W) (hb:Below W.heap.size W W'):Mkr w gR g li bs al ask vi vt pa W' :=
  h.keep (Keeps.of_below (X:=fun _=>False) hb) (fun _ hx=>hx.elim) (Stable.below hb)
theorem Mkr.keepR {k:Nat} (h:Mkr w gR g li bs al ask vi vt pa W) (hr:Rd W gR gp cap ts k) (hk:Keeps (fun x=>x=gR) W W'):Mkr w gR g li bs al ask vi vt pa W' :=
  h.keep hk (fun _ hx => .inl hx) (hr.stable hk)
theorem Mkr.made {c:Blk} {u:Value} (h:Mkr w gR g li bs al ask vi vt pa W) (hc:Stand (fresh W.heap.size W') W' c u):Stand (zone (w.heap.size+2) W' vt g) W' c u :=
  hc.wider fun x ⟨h1,h2⟩=>⟨Nat.le_trans h.two h1,h2,fun e=>by
    obtain ⟨vs,hv,_⟩:=h.row
    have:=(hv.lt x e).2;omega,by have:=h.box.lt;omega⟩
theorem Mkr.put0 {vi':Value} {x:Nat × Nat} (h:Mkr w gR g li [] al ask vi vt pa W) (hk:Keeps (fun x=>vi.ownBlock=some x \/ x=g) W W')
    (hown:W'.ownsRow w.heap.size 126 2 vi' (li.length+1) (li.flatMap initCell ++ initCell x)) (hbox:Sits W' g 40 (tCells vi' vt al pa)):Mkr w gR g (li ++ [x]) [] al ask vi' vt pa W' where
  low:=low2 h.low hk fun y e => .inr (e.elim (fun e=>(h.init.lt y e).1) (fun e=>by rw [e];exact h.gB))
  two:=Nat.le_trans h.two hk.size
  lt:=h.lt
  box:=hbox
  gB:=h.gB
  init:=by simpa using hown
  row:=by
    obtain ⟨vs,h1,h2,h3⟩:=h.row
    refine ⟨vs,own_keeps h1 hk fun y hy hx=>?_,h2,fun i b u hb=>by simp at hb⟩
    rcases hx with hx | rfl
    · exact own_others h.init h1 (by decide) y hy hx
    · exact own_far h1 h.box (by decide) hy
  ask:=h.ask.stable (Stable.keeps hk fun y cs hs hx=>by
    rcases hx with hx | rfl
    · exact own_far h.init hs (by decide) hx
    · exact hs.differ h.box (by decide) rfl)
theorem Mkr.put1 {vt' u:Value} {b:Blk} (h:Mkr w gR g li bs al ask vi vt pa W) (hu:Stand (zone (w.heap.size+2) W vt g) W b u) (hk:Keeps (fun x=>vt.ownBlock=some x \/ x=g) W W')
    {vs:List Value} (h1:W.ownsRow w.heap.size 110 1 vt bs.length vs) (h2:vs.length=bs.length) (h3:∀ (i:Nat) (b:Blk) (u:Value),bs[i]? = some b->vs[i]? = some u->Stand (zone (w.heap.size+2) W vt g) W b u)
    (hown:W'.ownsRow w.heap.size 110 1 vt' (bs.length+1) (vs ++ [u])) (hat:∀ x,vt'.ownBlock=some x->vt.ownBlock=some x \/ W.heap.size<=x) (hbox:Sits W' g 40 (tCells vi vt' al pa)):Mkr w gR g li (bs ++ [b]) al ask vi vt' pa W' where
  low:=low2 h.low hk fun y e => .inr (e.elim (fun e=>(h1.lt y e).1) (fun e=>by rw [e];exact h.gB))
  two:=Nat.le_trans h.two hk.size
  lt:=h.lt
  box:=hbox
  gB:=h.gB
  init:=own_keeps h.init hk fun y hy hx=>by
    rcases hx with hx | rfl
    · exact own_others h1 h.init (by decide) y hy hx
    · exact own_far h.init h.box (by decide) hy
  row:=by
    have hs:Stable 204 W W':=Stable.keeps hk fun y cs hs hx=>by
      rcases hx with hx | rfl
      · exact own_far h1 hs (by decide) hx
      · exact hs.differ h.box (by decide) rfl
    have hz:∀ x,zone (w.heap.size+2) W vt g x->zone (w.heap.size+2) W' vt' g x:=fun x ⟨a,b,c,d⟩=>⟨a,Nat.lt_of_lt_of_le b hk.size,fun e=>(hat x e).elim (fun h=>c h) (fun h=>by omega),d⟩
    have hzk:∀ x,zone (w.heap.size+2) W vt g x->∀ j y,W.cell? ⟨x,j,none⟩=some y->W'.cell? ⟨x,j,none⟩=some y:=fun x ⟨_,h2,h3,h4⟩ j y hy=>by
      rw [World.cell?_of_block (hk.block x h2 (by rintro (h | h) <;> contradiction))];exact hy
    refine ⟨vs ++ [u],by simpa using hown,by simp [h2],fun i c y hc hy=>?_⟩
    by_cases hi:i<bs.length
    · rw [List.getElem?_append_left hi] at hc
      rw [List.getElem?_append_left (by omega)] at hy
      exact ((h3 i c y hc hy).keep hs hzk).wider hz
    · have hlt:=(List.getElem?_eq_some_iff.1 hc).1
      simp at hlt
      obtain rfl:i=bs.length:=by omega
      rw [List.getElem?_append_right (by omega),Nat.sub_self] at hc
      rw [List.getElem?_append_right (by omega),h2,Nat.sub_self] at hy
      simp only [List.getElem?_cons_zero,Option.some.injEq] at hc hy
      subst hc hy
      exact (hu.keep hs hzk).wider hz
  ask:=h.ask.stable (Stable.keeps hk fun y cs hs hx=>by
    rcases hx with hx | rfl
    · exact own_far h1 hs (by decide) hx
    · exact hs.differ h.box (by decide) rfl)
theorem Mkr.cell {i:Nat} {u:Value} (h:Mkr w gR g li bs al ask vi vt pa W) {al':Bool} {ask':Option Ex} {pa':Option Addr} (hc:(tCells vi vt al pa).setIfInBounds i u=tCells vi vt al' pa') (ha:Tree W (trO ask') (.pointer pa')):Mkr w gR g li bs al' ask' vi vt pa' (W.setCell ⟨g,i,none⟩ u):=by
  have hs:Stable 204 W (W.setCell ⟨g,i,none⟩ u):=Stable.put h.box (by decide) i u
  have hk:Keeps (fun x=>x=g) W (W.setCell ⟨g,i,none⟩ u):=(Keeps.refl (fun x=>x=g) W).put (p:=⟨g,i,none⟩) (.inl rfl) u
  obtain ⟨vs,h1,h2,h3⟩:=h.row
  have hb:=h.box.put i u
  rw [hc] at hb
  refine ⟨h.low.put (p:=⟨g,i,none⟩) (.inr h.gB) u,h.lt,hb,h.gB,own_keeps h.init hk fun y hy e=>by subst e;exact own_far h.init h.box (by decide) hy,
    ⟨vs,own_keeps h1 hk fun y hy e=>by subst e;exact own_far h1 h.box (by decide) hy,h2,fun i' b u' hb' hu=>((h3 i' b u' hb' hu).keep hs zone_set).wider (zone_mono (by rw [set_size];exact Nat.le_refl _))⟩,ha.stable hs,by rw [set_size];exact h.two⟩
theorem own_row {w:World} {base:Nat} {e:TypeId} {size n:Nat} {v:Value} {xs:List Value} (h:w.ownsRow base e size v n xs) (hn:n<=1000000):RowAt (fun g=>base<=g) w v n xs:=by
  rcases h.2 with ⟨rfl,rfl⟩ | ⟨g,cap,cur,rfl,hB,hh,_,_,_,_⟩
  · exact .inl ⟨rfl,none,0,rfl⟩
  · refine .inr ⟨g,0,cap,rfl,hB,hn,fun j u hu=>?_⟩
    have:=h.cells (g:=g) rfl j u hu
    rw [Nat.zero_add]
    have e:(⟨g,0,none⟩:Addr).add j=⟨g,j,none⟩:=by unfold Addr.add;by_cases hj:j=0 <;> simp [hj]
    rwa [e] at this
structure TestIn (U:Nat->Prop) (w:World) (t:Ts) (vi vt va:Value):Prop where
  init:RowAt U w vi t.init.length (t.init.flatMap initCell)
  threads:∃ vs:List Value,RowAt U w vt t.threads.length vs/\vs.length=t.threads.length/\∀ (i:Nat) (b:Blk) (u:Value),t.threads[i]? = some b->vs[i]? = some u->Stand U w b u
  ask:Tree w (trO t.ask) va
theorem TestIn.keep {U:Nat->Prop} {w w':World} {t:Ts} {vi vt va:Value} (h:TestIn U w t vi vt va) (hs:Stable 204 w w') (hk:∀ g,U g->∀ j u,w.cell? ⟨g,j,none⟩=some u->w'.cell? ⟨g,j,none⟩=some u):TestIn U w' t vi vt va:=by
  obtain ⟨h1,⟨vs,h2,h3,h4⟩,h5⟩:=h
  exact ⟨h1.keep hk,⟨vs,h2.keep hk,h3,fun i b u hb hu=>(h4 i b u hb hu).keep hs hk⟩,h5.stable hs⟩
theorem TestIn.v {U:Nat->Prop} {w:World} {t:Ts} {vi vt va:Value} (h:TestIn U w t vi vt va):TestV w t vi vt va:=by
  obtain ⟨h1,⟨vs,h2,h3,h4⟩,h5⟩:=h
  exact ⟨h1.wider fun _ _=>trivial,⟨vs,h2.wider fun _ _=>trivial,h3,fun i b u hb hu=>(h4 i b u hb hu).wider fun _ _=>trivial⟩,h5⟩
theorem Mkr.final {g2:Nat} (h:Mkr w gR g li bs al ask vi vt pa W) (h2:Sits W g2 40 zeroT) (hg:g2=w.heap.size) (hne:g2≠g) (hl:li.length<=1000000) (hb:bs.length<=1000000) :
    TestIn (fun g=>w.heap.size<=g) (W.setRow g2 (tCells vi vt al pa)) ⟨li,bs,al,ask⟩ vi vt (.pointer pa)/\Keeps (fun x=>x=gR) w (W.setRow g2 (tCells vi vt al pa)):=by
  have k:=row_keeps W g2 (tCells vi vt al pa)
  have hs:Stable 204 W (W.setRow g2 (tCells vi vt al pa)):=Stable.keeps k fun y cs hs hx=>hs.differ h2 (by decide) hx
  obtain ⟨vs,h1,h3,h4⟩:=h.row
  refine ⟨⟨own_row (own_keeps h.init k fun y hy hx=>by subst hx;exact own_far h.init h2 (by decide) hy) hl,
    ⟨vs,own_row (own_keeps h1 k fun y hy hx=>by subst hx;exact own_far h1 h2 (by decide) hy) hb,h3,fun i b u hb hu=>?_⟩,h.ask.stable hs⟩,low2 h.low k fun x e => .inr (by omega)⟩
  refine ((h4 i b u hb hu).keep hs fun x ⟨a,b,_,_⟩ j y hy=>?_).wider fun x ⟨a,_⟩=>by omega
  rw [World.cell?_of_block (k.block x b (by omega))];exact hy
end
end
end Go.Proofs.YtagebkachdmnbaaGreatDoor.Prs
end
