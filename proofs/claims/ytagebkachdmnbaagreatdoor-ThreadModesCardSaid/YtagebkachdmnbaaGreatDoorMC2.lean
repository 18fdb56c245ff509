/- Part 23 of the proof: what is used of the texts PrsE, PrsF. -/
import Derived.Test.YtagebkachdmnbaaGreatDoorMC1
import Derived.Test.YtagebkachdmnbaaGreatDoorMA5
import Derived.Laws.EntriesVeiled
section
namespace Go.Proofs.YtagebkachdmnbaaGreatDoor.Prs
open Go.RowKit Go.Proofs.YtagebkachdmnbaaGreatDoor.Mem Go.Proofs.YtagebkachdmnbaaGreatDoor.Expr
open Go.Proofs.YtagebkachdmnbaaGreatDoor.Lex (Tok)
theorem opOf_none {n:Nat} {s:List UInt8} (h:opOf n s≠0):s ≠ []:=by
  rintro rfl
  refine h (opOf_miss fun i h1 h2=>?_)
  unfold opIs
  rw [decide_eq_false (p:=sign i=[]),Bool.and_false]
  obtain rfl | rfl | rfl | rfl | rfl | rfl | rfl | rfl | rfl | rfl | rfl | rfl | rfl | rfl:i=1 \/ i=2 \/ i=3 \/ i=4 \/ i=5 \/ i=6 \/ i=7 \/ i=8 \/ i=9 \/ i=10 \/ i=11 \/ i=12 \/ i=13 \/ i=14:=by omega
  all_goals decide
theorem opOf_lt (n:Nat) (s:List UInt8):opOf n s<15:=by
  unfold opOf
  cases h:List.find? (fun op=>decide (sides op=n) && decide (sign op=s)) [1,2,3,4,5,6,7,8,9,10,11,12,13,14] with
  | none=>simp
  | some a =>
    have:=List.mem_of_find?_eq_some h
    simp at this ⊢
    omega
structure Leaf (F:FuncId) (ask:Bool) (gR gp cap:Nat) (ts:List Lex.Tok):Prop where
  enters:Expr.Enters F
  leaf:∀ (k:Nat) (w:World),Rd w gR gp cap ts k->Calls Tryz.prog F #[.pointer (some ⟨gR,0,none⟩)] w (Done gR gp cap ts treeV (leafF ts ask k) w)
def leafFn (F:FuncId) (gR:Nat):Value:=.func (.func F) #[.pointer (some ⟨gR,0,none⟩)] #[]
section
variable {F : FuncId} {ask : Bool} {gR gp cap : Nat} {ts : List Lex.Tok}
def PartC (F:FuncId) (ask:Bool) (gR gp cap:Nat) (ts:List Lex.Tok) (k:Nat):Prop:=∀ (o:Nat) (out:Out Ex) (w:World),o<=12->Px ts ask (.part o) k out->Rd w gR gp cap ts k ->
  Calls Tryz.prog 259 #[.pointer (some ⟨gR,0,none⟩),leafFn F gR,.int .i64 (o:Nat)] w (Done gR gp cap ts treeV out w)
def OpsC (F:FuncId) (ask:Bool) (gR gp cap:Nat) (ts:List Lex.Tok) (k:Nat):Prop:=∀ (o least:Nat) (out:Out Ex) (w:World),o<=12->1<=least->least<=5->Px ts ask (.ops o least) k out->Rd w gR gp cap ts k ->
  Calls Tryz.prog 229 #[.pointer (some ⟨gR,0,none⟩),leafFn F gR,.int .i64 (o:Nat),.int .i64 (least:Nat)] w (Done gR gp cap ts treeV out w)
theorem Rd.stable {w w':World} {k:Nat} (h:Rd w gR gp cap ts k) (hk:Keeps (fun x=>x=gR) w w'):Stable 204 w w':=Stable.keeps hk fun b cs hs e=>h.box.differ (show Sits w b 204 cs from hs) (by decide) e.symm
theorem px_part {o k:Nat} {out:Out Ex} (h:Px ts ask (.part o) k out):(op1 ts k=0/\ltrs ts k ≠ [40]/\out=leafF ts ask k) \/ ((op1 ts k≠0 \/ ltrs ts k=[40])/\o=12/\out = .bad k 4) \/
    (op1 ts k≠0/\o≠12/\∃ o2,Px ts ask (.part (o+1)) (k+1) o2/\out=o2.map (.one (op1 ts k))) \/ (op1 ts k=0/\ltrs ts k=[40]/\o≠12/\∃ o2,Px ts ask (.ops (o+1) 1) (k+1) o2/\out=o2.close ts):=by
  cases h with
  | leaf h1 h2=>exact .inl ⟨h1,h2,rfl⟩
  | deep h1 h2=>exact .inr (.inl ⟨h1,h2,rfl⟩)
  | sign h1 h2 h3=>exact .inr (.inr (.inl ⟨h1,h2,_,h3,rfl⟩))
  | paren h1 h2 h3 h4=>exact .inr (.inr (.inr ⟨h1,h2,h3,_,h4,rfl⟩))
set_option maxRecDepth 100000 in
set_option maxHeartbeats 1000000 in
theorem part_any (L:Leaf F ask gR gp cap ts) (k:Nat) (IP:PartC F ask gR gp cap ts (k+1)) (IO:OpsC F ask gR gp cap ts (k+1)):PartC F ask gR gp cap ts k:=by
  intro o out w ho hx h
  have en:=L.enters
  unfold Expr.Enters at en
  have HN:=Lib.hid (next_any h)
  have HGR:=Lib.hid (show gR<w.heap.size from h.box.lt)
  have HL:=Lib.hid (fun W hr=>L.leaf k W hr)
  have HIP:=Lib.hid IP
  have HIO:=Lib.hid IO
  have HRW:=Lib.hid h
  have HX:=Lib.hid hx
  have HM:=Lib.hid (h.more)
  have ho1:(o:Int)<=12:=by omega
  have ho0:(0:Int)<=(o:Int):=by omega
  have HREC:=Lib.hid (show ((o:Nat):Int)+1=((o+1:Nat):Int) by omega)
  clear h hx IP IO L
  unfold leafFn
  go_enter Tryz.func259,Tryz.ntmps259
  go_wp2_with fail
  refine HN.out.mono ?_
  rintro e w1 ⟨rfl,hb⟩
  have hz:=Sits.new w1 278 zeroPc
  have HZ:=Lib.hid hz
  have hkk:=row_keeps (w1.alloc (.cells zeroPc 278)) w1.heap.size (pc (tk ts k))
  have hs:Sits ((w1.alloc (.cells zeroPc 278)).setRow w1.heap.size (pc (tk ts k))) w1.heap.size 278 (pc (tk ts k)):=setRow_heap _ _ _ _ _ _ hz
  have hlow1:Below w1.heap.size w1 ((w1.alloc (.cells zeroPc 278)).setRow w1.heap.size (pc (tk ts k))):=behind ((Below.refl _ _).alloc (Nat.le_refl _) _) hkk (by simp) (fun x e=>by rw [e];exact Nat.le_refl _)
  have hlow:=hb.trans (hlow1.mono hb.size)
  have HNE:=Lib.hid (show gR≠w1.heap.size by have:=hb.size;have:=HGR.out;omega)
  clear hz hkk hlow1 hb
  go_upto_region 2 with (refine wpList_store_row rfl 278 _ _ rfl w1.heap.size (pc (tk ts k)) rfl rfl 278 zeroPc HZ.out pcSize rfl (pc_one _) ?_)
  change Code.wp _ _ _ _ ((w1.alloc (.cells zeroPc 278)).setRow w1.heap.size (pc (tk ts k)))
  generalize (w1.alloc (.cells zeroPc 278)).setRow w1.heap.size (pc (tk ts k))=W3 at hs hlow ⊢
  generalize w1.heap.size=g0 at hs HNE ⊢
  have HS:=Lib.hid hs
  have HLW:=Lib.hid hlow
  have HR:=Lib.hid (HRW.out.below hlow)
  have HO:=Lib.hid (operation_any (tk ts k) 1 W3 HR.out.all.1)
  obtain ⟨z0,z1,z2,z3,z4⟩:=pc_at hs
  have lz:=hs.lt
  unfold pc at HO
  clear hs hlow HZ HN
  have HS1:=Lib.hid (z1)
  go_wp2_with fail
  refine HO.out.mono ?_
  rintro e w4 ⟨rfl,hb⟩
  have HR4:=Lib.hid (HR.out.below hb)
  have HB4:=Lib.hid (HLW.out.trans (hb.mono HLW.out.size))
  have HS4:=Lib.hid (HS.out.below hb HS.out.lt)
  have HT:=Lib.hid (fun W (hb:Below w4.heap.size w4 W)=>take_any (HR4.out.below hb))
  have HP:=Lib.hid (fun W=>throw_any (tk ts k) 4 W)
  have HE:=str_eq (ltrs ts k) [40]
  rw [show (str [40]).toList=[40] by simp [str]] at HE
  unfold pc at HP
  clear hb z0 z1 z2 z3 z4 lz HS1 HO HS HR HLW
  obtain ⟨z0,z1,z2,z3,z4⟩:=pc_at HS4.out
  have lz:=HS4.out.lt
  change w4.cell? ⟨g0,1,none⟩=some (.string (str (ltrs ts k))) at z1
  have HTX:Hid (str (tk ts k).text=str (ltrs ts k)):=Lib.hid rfl
  rw [HTX.out] at HP
  generalize str (ltrs ts k)=x at z1 HE HP
  have hpz:opOf 1 (tk ts k).text=op1 ts k:=rfl
  have HPL:=Lib.hid (show op1 ts k<15 from opOf_lt 1 (ltrs ts k))
  rw [hpz]
  clear hpz
  rcases px_part HX.out with ⟨h0,ht,rfl⟩ | ⟨h0,rfl,rfl⟩ | ⟨h0,hd,o2,h2,rfl⟩ | ⟨h0,ht,hd,o2,h2,rfl⟩
  · rw [decide_eq_false ht] at HE
    have e0:((op1 ts k:Int) == 0)=true:=by rw [h0];rfl
    generalize op1 ts k=p at e0
    clear h0 ht
    go_wp2_with fail
    refine (HL.out _ HR4.out).mono ?_
    rintro e w5 ⟨hk,hp⟩
    have HD:=Lib.hid (show Done gR gp cap ts treeV (leafF ts ask k) w e w5 from ⟨(Keeps.of_below HB4.out).trans hk,hp⟩)
    cases ho:leafF ts ask k with
    | ok a k2 =>
      rw [ho] at hp
      obtain ⟨⟨p,rfl,hv⟩,hr⟩:=hp
      clear hv hr ho hk
      go_wp2_with fail
      go_ret
      exact HD.out
    | bad j er =>
      rw [ho] at hp HD
      simp only at hp
      subst hp
      clear ho hk
      go_wp2_with fail
      exact ⟨rfl,HD.out⟩
  · have tail:∀ (b:Bool),True:=fun _=>trivial
    clear tail
    have o12:((12:Nat):Int)=12:=rfl
    by_cases h1:op1 ts k=0
    · rw [decide_eq_true (h0.resolve_left (fun h=>h h1))] at HE
      have e0:((op1 ts k:Int) == 0)=true:=by rw [h1];rfl
      generalize op1 ts k=p at e0
      clear h0 h1
      go_wp2_with fail
      refine (HP.out _).mono ?_
      rintro e w5 ⟨rfl,hb⟩
      have HB5:=Lib.hid (HB4.out.trans (hb.mono HB4.out.size))
      clear hb
      go_wp2_with fail
      exact ⟨rfl,Keeps.of_below HB5.out,rfl⟩
    · have e0:((op1 ts k:Int) == 0)=false:=beq_eq_false_iff_ne.2 (by omega)
      generalize op1 ts k=p at e0
      clear h0 h1
      go_wp2_with fail
      refine (HP.out _).mono ?_
      rintro e w5 ⟨rfl,hb⟩
      have HB5:=Lib.hid (HB4.out.trans (hb.mono HB4.out.size))
      clear hb
      go_wp2_with fail
      exact ⟨rfl,Keeps.of_below HB5.out,rfl⟩
  · have e0:((op1 ts k:Int) == 0)=false:=beq_eq_false_iff_ne.2 (by omega)
    have e1:((op1 ts k:Int) != 0)=true:=by rw [bne,e0];rfl
    have o12:((o:Int) == 12)=false:=beq_eq_false_iff_ne.2 (by omega)
    have HT5:=Lib.hid (HT.out w4 (Below.refl _ _))
    have hi:=fun W hr=>HIP.out (o+1) o2 W (by omega) h2 hr
    simp only [leafFn,<- HREC.out] at hi
    have HI:=Lib.hid hi
    clear hi
    have HK:=Lib.hid (HM.out (opOf_none h0))
    generalize hp:op1 ts k=p at *
    clear h0 hd h2
    go_wp2_with fail
    refine HT5.out.mono ?_
    rintro e w5 ⟨rfl,hk,hr⟩
    have HR5:=Lib.hid (hr HK.out)
    have HK5:=Lib.hid ((Keeps.of_below HB4.out).trans hk)
    clear hk hr z0 z1 z2 z3 z4 lz HT5
    go_wp2_with fail
    refine (HI.out _ HR5.out).mono ?_
    rintro e w6 ⟨hk,hp⟩
    have HK6:=Lib.hid (HK5.out.trans hk)
    clear hk
    cases o2 with
    | ok a k2 =>
      obtain ⟨⟨pt,rfl,hv⟩,hr⟩:=hp
      have ha:Below w6.heap.size w6 (w6.alloc (.cells (exprCells ⟨4,p,0,0,0,0⟩ (.pointer pt) (.pointer none)) 204)):=(Below.refl _ _).alloc (Nat.le_refl _) _
      have HD:=Lib.hid (show Done gR gp cap ts treeV (Out.map (.one p) (.ok a k2)) w (.returned (.pointer (some ⟨w6.heap.size,0,none⟩))) (w6.alloc (.cells (exprCells ⟨4,p,0,0,0,0⟩ (.pointer pt) (.pointer none)) 204)) from
        ⟨HK6.out.trans (Keeps.of_below ha),⟨_,rfl,w6.heap.size,.pointer pt,.pointer none,rfl,Sits.new _ _ _,hv.below ha,rfl⟩,hr.below ha⟩)
      clear hv hr ha
      go_wp2_with fail
      go_ret
      exact HD.out
    | bad j er =>
      simp only at hp
      subst hp
      go_wp2_with fail
      exact ⟨rfl,HK6.out,rfl⟩
  · have e0:((op1 ts k:Int) == 0)=true:=by rw [h0];rfl
    have e1:((op1 ts k:Int) != 0)=false:=by rw [bne,e0];rfl
    rw [decide_eq_true ht] at HE
    have o12:((o:Int) == 12)=false:=beq_eq_false_iff_ne.2 (by omega)
    have HT5:=Lib.hid (HT.out w4 (Below.refl _ _))
    have hi:=fun W hr=>HIO.out (o+1) 1 o2 W (by omega) (by omega) (by omega) h2 hr
    simp only [leafFn,<- HREC.out] at hi
    have HI:=Lib.hid hi
    clear hi
    have HK:=Lib.hid (HM.out (by rw [ht];simp))
    have HST:=Lib.hid (fun W=>(show Calls _ _ #[.int .u8 (1:Int)] W fun e w'=>e = .returned (.int .i64 (1:Int))/\W=w' from strength_any 1 W))
    have HSG:=Lib.hid (fun k2 W (hr:Rd W gR gp cap ts k2)=>sign_any hr [41] (by simp))
    generalize hp:op1 ts k=p at *
    clear h0 ht hd h2
    go_wp2_with fail
    refine HT5.out.mono ?_
    rintro e w5 ⟨rfl,hk,hr⟩
    have HR5:=Lib.hid (hr HK.out)
    have HK5:=Lib.hid ((Keeps.of_below HB4.out).trans hk)
    clear hk hr z0 z1 z2 z3 z4 lz HT5
    go_wp2_with fail
    refine (HST.out _).mono ?_
    rintro e w6 ⟨rfl,rfl⟩
    go_wp2_with fail
    refine (HI.out _ HR5.out).mono ?_
    rintro e w6 ⟨hk,hp⟩
    have HK6:=Lib.hid (HK5.out.trans hk)
    clear hk
    cases o2 with
    | ok a k2 =>
      obtain ⟨⟨pt,rfl,hv⟩,hr⟩:=hp
      have HS6:=Lib.hid (HSG.out k2 w6 hr)
      have HV:=Lib.hid hv
      have HRK:=Lib.hid hr
      clear hv hr
      go_wp2_with fail
      refine HS6.out.mono ?_
      rintro e w7 ⟨hk,hp⟩
      have HK7:=Lib.hid (HK6.out.trans hk)
      have HV7:=Lib.hid (HV.out.stable (HRK.out.stable hk))
      clear hk
      cases hc:signF ts [41] k2 with
      | ok u k3 =>
        rw [hc] at hp
        obtain ⟨hu,hr⟩:=hp
        simp only [unitV] at hu
        subst hu
        have HD:=Lib.hid (show Done gR gp cap ts treeV (Out.close ts (.ok a k2)) w (.returned (.pointer pt)) w7 by
          unfold Out.close Out.bind
          simp only [hc]
          exact ⟨HK7.out,⟨_,rfl,HV7.out⟩,hr⟩)
        clear hc hr
        go_wp2_with fail
        go_ret
        exact HD.out
      | bad j er =>
        rw [hc] at hp
        simp only at hp
        subst hp
        have HD:=Lib.hid (show Done gR gp cap ts treeV (Out.close ts (.ok a k2)) w (.panicked (flt (tk ts j) er)) w7 by
          unfold Out.close Out.bind
          simp only [hc]
          exact ⟨HK7.out,rfl⟩)
        clear hc
        go_wp2_with fail
        exact ⟨rfl,HD.out⟩
    | bad j er =>
      simp only at hp
      subst hp
      go_wp2_with fail
      exact ⟨rfl,HK6.out,rfl⟩
theorem map_ok {α β:Type} {f:α->β} {o:Out α} {b:β} {k:Nat} (h:o.map f = .ok b k):∃ a,o = .ok a k/\b=f a:=by
  cases o with
  | ok a k'=>injection h with h1 h2;subst h2;exact ⟨a,rfl,h1.symm⟩
  | bad j e=>cases h
theorem wordF_ok {α:Type} {f:List UInt8->Option α} {a:α} {k k1:Nat} (h:wordF ts f k = .ok a k1):k1=k+1:=by
  unfold wordF at h
  split at h
  · split at h
    · injection h with _ h;exact h.symm
    · cases h
  · cases h
theorem leafF_grows {e:Ex} {k k1:Nat} (h:leafF ts ask k = .ok e k1):k<k1:=by
  unfold leafF at h
  split at h
  · split at h
    · split at h
      · split at h
        · obtain ⟨a,h,_⟩:=map_ok h
          have:=wordF_ok h;omega
        · cases h
      · injection h with _ h;omega
    · obtain ⟨a,h,_⟩:=map_ok h
      have:=wordF_ok h;omega
  · split at h
    · injection h with _ h;omega
    · obtain ⟨a,h,_⟩:=map_ok h
      have:=wordF_ok h;omega
theorem close_ok {o:Out Ex} {e:Ex} {k:Nat} (h:o.close ts = .ok e k):∃ k0,o = .ok e k0/\k=k0+1:=by
  cases o with
  | ok a k' =>
    have h:(signF ts [41] k').map (fun _=>a) = .ok e k:=h
    obtain ⟨u,h,rfl⟩:=map_ok h
    unfold signF at h
    split at h
    · injection h with _ h;exact ⟨k',rfl,h.symm⟩
    · cases h
  | bad j er=>cases h
def Gl.low:Gl->Nat->Nat->Prop
  | .loop _ _ _,k,k1=>k<=k1
  | _,k,k1=>k<k1
theorem Px.grows {g:Gl} {k:Nat} {out:Out Ex} (h:Px ts ask g k out):∀ e k1,out = .ok e k1->g.low k k1:=by
  induction h with
  | leaf _ _=>intro e k1 h;exact leafF_grows h
  | deep _ _=>intro e k1 h;cases h
  | sign _ _ _ ih =>
    intro e k1 h
    obtain ⟨a,h,_⟩:=map_ok h
    have:=ih _ _ h
    simp only [Gl.low] at this ⊢;omega
  | paren _ _ _ _ ih =>
    intro e k1 h
    obtain ⟨k0,h2,h3⟩:=close_ok h
    have:=ih _ _ h2
    simp only [Gl.low] at this ⊢;omega
  | first _ _ ih1 ih2 =>
    intro e k1 h
    have h1:=ih1 _ _ rfl
    have h2:=ih2 _ _ h
    simp only [Gl.low] at h1 h2 ⊢;omega
  | firstBad _ _=>intro e k1 h;cases h
  | stop _=>intro e k1 h;injection h with _ h;simp only [Gl.low];omega
  | go _ _ _ ih1 ih2 =>
    intro e k1 h
    have h1:=ih1 _ _ rfl
    have h2:=ih2 _ _ h
    simp only [Gl.low] at h1 h2 ⊢;omega
  | goBad _ _ _=>intro e k1 h;cases h
theorem px_loop {o least k:Nat} {e:Ex} {out:Out Ex} (h:Px ts ask (.loop o least e) k out):(strongOp (op2 ts k)<least/\out = .ok e k) \/
    (least<=strongOp (op2 ts k)/\∃ r k2,Px ts ask (.ops o (strongOp (op2 ts k)+1)) (k+1) (.ok r k2)/\Px ts ask (.loop o least (.two (op2 ts k) e r)) k2 out) \/
    (least<=strongOp (op2 ts k)/\∃ j er,Px ts ask (.ops o (strongOp (op2 ts k)+1)) (k+1) (.bad j er)/\out = .bad j er):=by
  cases h with
  | stop h1=>exact .inl ⟨h1,rfl⟩
  | go h1 h2 h3=>exact .inr (.inl ⟨h1,_,_,h2,h3⟩)
  | goBad h1 h2=>exact .inr (.inr ⟨h1,_,_,h2,rfl⟩)
theorem px_ops {o least k:Nat} {out:Out Ex} (h:Px ts ask (.ops o least) k out):(∃ e k1,Px ts ask (.part o) k (.ok e k1)/\Px ts ask (.loop o least e) k1 out) \/ ∃ j er,Px ts ask (.part o) k (.bad j er)/\out = .bad j er:=by
  cases h with
  | first h1 h2=>exact .inl ⟨_,_,h1,h2⟩
  | firstBad h1=>exact .inr ⟨_,_,h1,rfl⟩
theorem strongOp_le (op:Nat):strongOp op<=4:=by unfold strongOp;(repeat' split) <;> omega
theorem strongOp_pos {op:Nat} (h:0<strongOp op):op≠0:=by rintro rfl;exact absurd h (by decide)
set_option maxRecDepth 100000 in
set_option maxHeartbeats 1000000 in
theorem ops_any (k:Nat) (IP:PartC F ask gR gp cap ts k) (IO:∀ k',k<k' -> OpsC F ask gR gp cap ts k'):OpsC F ask gR gp cap ts k:=by
  intro o least out w ho hl1 hl5 hx h
  have HX:=Lib.hid hx
  have hip:=fun out hx=>IP o out w ho hx h
  have hio:=fun k' (hk:k<k') least out W hl0 hl hx hr=>IO k' hk o least out W ho hl0 hl hx hr
  simp only [leafFn] at hip hio
  have HIP:=Lib.hid hip
  have HIO:=Lib.hid hio
  have ho1:(o:Int)<=12:=by omega
  have ho0:(0:Int)<=(o:Int):=by omega
  clear h hx IP IO hip hio
  unfold leafFn
  go_enter Tryz.func229,Tryz.ntmps229
  go_wp2_with fail
  rcases px_ops HX.out with ⟨e1,k1,hp1,hl⟩ | ⟨j,er,hp1,rfl⟩
  · have HL:=Lib.hid hl
    have HK1:=Lib.hid (show k<k1 from hp1.grows _ _ rfl)
    refine (HIP.out _ hp1).mono ?_
    rintro e w1 ⟨hk,⟨pt,rfl,hv⟩,hr⟩
    have HKP:=Lib.hid hk
    have HV:=Lib.hid hv
    have HR:=Lib.hid hr
    clear hk hv hr hp1 hl
    go_wp2_with fail
    go_loopg [9] (ts.length - k1) (fun gg v9 wx=>∃ (e:Ex) (k2:Nat) (pt:Option Addr),gg=ts.length - k2/\v9 = .pointer pt/\Hid (Tree wx (treeOf e) (.pointer pt))/\Hid (Rd wx gR gp cap ts k2)/\Hid (Keeps (fun x=>x=gR) w wx)/\Hid (Px ts ask (.loop o least e) k2 out)/\Hid (k<k2))
    case atStart=>exact ⟨e1,k1,pt,rfl,rfl,HV,HR,HKP,HL,HK1⟩
    case round =>
      obtain ⟨e,k2,pt,rfl,rfl,HV,HR,HKP,HL,HK2⟩:=hrel
      have HN:=Lib.hid (next_any HR.out)
      have HO:=Lib.hid (fun W (hb:Below wr.heap.size wr W)=>operation_any (tk ts k2) 2 W (HR.out.below hb).all.1)
      have HST:=Lib.hid (fun W=>strength_any (op2 ts k2) W)
      have HT:=Lib.hid (fun W (hb:Below wr.heap.size wr W)=>take_any (HR.out.below hb))
      change Hid (∀ W,_->Calls _ _ _ _ fun e w'=>Made (.returned (.int .u8 (op2 ts k2:Nat))) W e w') at HO
      have HM:=Lib.hid (fun (h:op2 ts k2≠0)=>HR.out.more (opOf_none h))
      have HLE:=Lib.hid (strongOp_le (op2 ts k2))
      have HPO:=Lib.hid (fun h=>strongOp_pos (op:=op2 ts k2) h)
      rcases px_loop HL.out with ⟨hlt,rfl⟩ | ⟨hge,r,k3,h2,h3⟩ | ⟨hge,j,er,h2,rfl⟩
      · have m1:((strongOp (op2 ts k2):Nat):Int)<(least:Int):=by omega
        generalize strongOp (op2 ts k2)=s at m1 HST
        generalize op2 ts k2=p at HO HST
        clear hlt
        go_wp2_with fail
        refine HN.out.mono ?_
        rintro e2 w2 ⟨rfl,hb⟩
        have HB:=Lib.hid hb
        clear hb
        go_wp2_with fail
        refine (HO.out _ HB.out).mono ?_
        rintro e2 w3 ⟨rfl,hb⟩
        have HB3:=Lib.hid (HB.out.trans (hb.mono HB.out.size))
        clear hb
        go_wp2_with fail
        refine (HST.out _).mono ?_
        rintro e2 w4 ⟨rfl,rfl⟩
        go_wp2_with fail
        go_ret
        exact ⟨HKP.out.trans (Keeps.of_below HB3.out),⟨_,rfl,HV.out.below HB3.out⟩,HR.out.below HB3.out⟩
      · have m1:¬ ((strongOp (op2 ts k2):Nat):Int)<(least:Int):=by omega
        have m2:((strongOp (op2 ts k2):Nat):Int)<=4:=by have:=HLE.out;omega
        have m3:(0:Int)<=((strongOp (op2 ts k2):Nat):Int):=by omega
        have HK3:=Lib.hid (show k2+1<k3 from h2.grows _ _ rfl)
        have hi:=fun W hr=>HIO.out (k2+1) (by have:=HK2.out;omega) (strongOp (op2 ts k2)+1) (.ok r k3) W (by omega) (by have:=HLE.out;omega) h2 hr
        have hs1:((strongOp (op2 ts k2)+1:Nat):Int)=(strongOp (op2 ts k2):Int)+1:=by omega
        simp only [hs1] at hi
        have HI:=Lib.hid hi
        have HK1:=Lib.hid (HM.out (HPO.out (by omega)))
        have HL3:=Lib.hid h3
        clear hi hs1 h2 h3 hge HLE HPO HM HIO
        generalize hs:strongOp (op2 ts k2)=s at m1 m2 m3 HST HI
        generalize hp:op2 ts k2=p at HO HST HL3
        clear hs hp
        go_wp2_with fail
        refine HN.out.mono ?_
        rintro e2 w2 ⟨rfl,hb⟩
        have HB:=Lib.hid hb
        clear hb
        go_wp2_with fail
        refine (HO.out _ HB.out).mono ?_
        rintro e2 w3 ⟨rfl,hb⟩
        have HB3:=Lib.hid (HB.out.trans (hb.mono HB.out.size))
        clear hb
        go_wp2_with fail
        refine (HST.out _).mono ?_
        rintro e2 w4 ⟨rfl,rfl⟩
        go_wp2_with fail
        refine (HT.out _ HB3.out).mono ?_
        rintro e2 w5 ⟨rfl,hk,hr⟩
        have HR5:=Lib.hid (hr HK1.out)
        have HV5:=Lib.hid ((HV.out.below HB3.out).stable ((HR.out.below HB3.out).stable hk))
        have HKP5:=Lib.hid ((HKP.out.trans (Keeps.of_below HB3.out)).trans hk)
        clear hk hr
        go_wp2_with fail
        refine (HI.out _ HR5.out).mono ?_
        rintro e2 w6 ⟨hk,⟨pr,rfl,hv⟩,hr⟩
        have HV6:=Lib.hid (HV5.out.stable (HR5.out.stable hk))
        have HKP6:=Lib.hid (HKP5.out.trans hk)
        have ha:Below w6.heap.size w6 (w6.alloc (.cells (exprCells ⟨5,p,0,0,0,0⟩ (.pointer pt) (.pointer pr)) 204)):=(Below.refl _ _).alloc (Nat.le_refl _) _
        have HKP7:=Lib.hid (HKP6.out.trans (Keeps.of_below ha))
        have HR7:=Lib.hid (hr.below ha)
        have HV7:=Lib.hid (show Tree (w6.alloc (.cells (exprCells ⟨5,p,0,0,0,0⟩ (.pointer pt) (.pointer pr)) 204)) (treeOf (.two p e r)) (.pointer (some ⟨w6.heap.size,0,none⟩)) from ⟨w6.heap.size,.pointer pt,.pointer pr,rfl,Sits.new _ _ _,HV6.out.below ha,hv.below ha⟩)
        have HK7:=Lib.hid (show k<k3 by have:=HK2.out;have:=HK3.out;omega)
        have HLT:=Lib.hid hr.lt
        clear hk hv hr ha
        go_wp2_with fail
        go_roundg (ts.length - k3)
        case measure=>have:=HK3.out;have:=HLT.out;omega
        case rel=>exact ⟨.two p e r,k3,_,rfl,rfl,HV7,HR7,HKP7,HL3,HK7⟩
      · have m1:¬ ((strongOp (op2 ts k2):Nat):Int)<(least:Int):=by omega
        have m2:((strongOp (op2 ts k2):Nat):Int)<=4:=by have:=HLE.out;omega
        have m3:(0:Int)<=((strongOp (op2 ts k2):Nat):Int):=by omega
        have hi:=fun W hr=>HIO.out (k2+1) (by have:=HK2.out;omega) (strongOp (op2 ts k2)+1) (.bad j er) W (by omega) (by have:=HLE.out;omega) h2 hr
        have hs1:((strongOp (op2 ts k2)+1:Nat):Int)=(strongOp (op2 ts k2):Int)+1:=by omega
        simp only [hs1] at hi
        have HI:=Lib.hid hi
        have HK1:=Lib.hid (HM.out (HPO.out (by omega)))
        clear hi hs1 h2 hge HLE HPO HM HIO
        generalize hs:strongOp (op2 ts k2)=s at m1 m2 m3 HST HI
        generalize hp:op2 ts k2=p at HO HST
        clear hs hp
        go_wp2_with fail
        refine HN.out.mono ?_
        rintro e2 w2 ⟨rfl,hb⟩
        have HB:=Lib.hid hb
        clear hb
        go_wp2_with fail
        refine (HO.out _ HB.out).mono ?_
        rintro e2 w3 ⟨rfl,hb⟩
        have HB3:=Lib.hid (HB.out.trans (hb.mono HB.out.size))
        clear hb
        go_wp2_with fail
        refine (HST.out _).mono ?_
        rintro e2 w4 ⟨rfl,rfl⟩
        go_wp2_with fail
        refine (HT.out _ HB3.out).mono ?_
        rintro e2 w5 ⟨rfl,hk,hr⟩
        have HR5:=Lib.hid (hr HK1.out)
        have HKP5:=Lib.hid ((HKP.out.trans (Keeps.of_below HB3.out)).trans hk)
        clear hk hr
        go_wp2_with fail
        refine (HI.out _ HR5.out).mono ?_
        rintro e2 w6 ⟨hk,rfl⟩
        have HKP6:=Lib.hid (HKP5.out.trans hk)
        clear hk
        go_wp2_with fail
        exact ⟨rfl,HKP6.out,rfl⟩
  · refine (HIP.out _ hp1).mono ?_
    rintro e w1 ⟨hk,rfl⟩
    have HKP:=Lib.hid hk
    clear hk hp1
    go_wp2_with fail
    exact ⟨rfl,HKP.out,rfl⟩
end
end Go.Proofs.YtagebkachdmnbaaGreatDoor.Prs
end
section
namespace Go.Proofs.YtagebkachdmnbaaGreatDoor.Prs
open Go.RowKit Go.Proofs.YtagebkachdmnbaaGreatDoor.Mem Go.Proofs.YtagebkachdmnbaaGreatDoor.Expr
open Go.Proofs.YtagebkachdmnbaaGreatDoor.Lex (Tok)
section
variable {F : FuncId} {ask : Bool} {gR gp cap : Nat} {ts : List Lex.Tok}
theorem all_any (L:Leaf F ask gR gp cap ts):∀ (m k:Nat),ts.length - k<=m->PartC F ask gR gp cap ts k/\OpsC F ask gR gp cap ts k:=by
  intro m
  induction m with
  | zero=>exact fun k hk=>⟨fun o out w _ _ h=>absurd h.lt (by omega),fun o least out w _ _ _ _ h=>absurd h.lt (by omega)⟩
  | succ m ih =>
    intro k hk
    by_cases hlt:k<ts.length
    · have hp:=part_any L k (ih (k+1) (by omega)).1 (ih (k+1) (by omega)).2
      exact ⟨hp,ops_any k hp fun k' hk'=>(ih k' (by omega)).2⟩
    · exact ⟨fun o out w _ _ h=>absurd h.lt hlt,fun o least out w _ _ _ _ h=>absurd h.lt hlt⟩
theorem deep_min (e:Ex):∀ m,deepF (treeOf e) m=min e.depth m:=by
  induction e with
  | one op a ih =>
    intro m
    cases m with
    | zero=>simp [treeOf,deepF]
    | succ m=>simp only [treeOf,deepF,Ex.depth,ih m];omega
  | two op a b iha ihb =>
    intro m
    cases m with
    | zero=>simp [treeOf,deepF]
    | succ m=>simp only [treeOf,deepF,Ex.depth,iha m,ihb m];omega
  | _ =>
    intro m
    cases m with
    | zero=>simp [treeOf,deepF]
    | succ m=>simp [treeOf,deepF,Ex.depth];try omega
theorem loop_total {k0:Nat} (hops:∀ k,k0<k->k<ts.length->∀ o least,o<=12->1<=least->∃ out,Px ts ask (.ops o least) k out/\∀ e k1,out = .ok e k1->k1<ts.length) (hg:Good ts) :
    ∀ (m k:Nat),ts.length - k<=m->k0<=k->k<ts.length->∀ o least e,o<=12->1<=least->∃ out,Px ts ask (.loop o least e) k out/\∀ e k1,out = .ok e k1->k1<ts.length:=by
  intro m
  induction m with
  | zero=>intro k h1 _ h2;omega
  | succ m ih =>
    intro k h1 hk0 h2 o least e ho hl
    by_cases h:strongOp (op2 ts k)<least
    · exact ⟨_,.stop h,fun e k1 h=>by injection h with _ h;omega⟩
    · have hne:op2 ts k≠0:=strongOp_pos (by omega)
      have hk1:k+1<ts.length:=hg.more k h2 fun h0=>opOf_none hne (hg.fin k h2 h0)
      obtain ⟨out,hx,hb⟩:=hops (k+1) (by omega) hk1 o (strongOp (op2 ts k)+1) ho (by omega)
      cases out with
      | ok r k2 =>
        have h3:k+1<k2:=hx.grows _ _ rfl
        obtain ⟨out,hx2,hb2⟩:=ih k2 (by omega) (by omega) (hb _ _ rfl) o least (.two (op2 ts k) e r) ho hl
        exact ⟨out,.go (by omega) hx hx2,hb2⟩
      | bad j er=>exact ⟨_,.goBad (by omega) hx,fun e k1 h=>by cases h⟩
theorem leafF_in (hg:Good ts) {e:Ex} {k k1:Nat} (hk:k<ts.length) (h:leafF ts ask k = .ok e k1):k1<ts.length:=by
  have w:∀ {α:Type} {f:List UInt8->Option α} {a:α} {k k1:Nat},k<ts.length->wordF ts f k = .ok a k1->k1<ts.length:=fun {α f a k k1} hk h=>by
    have e:=wordF_ok h
    have hq:kindAt ts k=2:=by
      by_cases hq:kindAt ts k=2
      · exact hq
      · rw [wordF_kind hq] at h;cases h
    have:=hg.more k hk (by omega)
    omega
  unfold leafF at h
  split at h
  · split at h
    · rename_i hq
      have h1:=hg.more k hk (by omega)
      split at h
      · rename_i hc
        have h2:=hg.more (k+1) h1 fun h0=>by rw [hg.fin (k+1) h1 h0] at hc;cases hc
        split at h
        · obtain ⟨a,h,_⟩:=map_ok h
          exact w h2 h
        · cases h
      · injection h with _ h;omega
    · obtain ⟨a,h,_⟩:=map_ok h
      exact w hk h
  · split at h
    · rename_i hq
      have h1:=hg.more k hk (by omega)
      injection h with _ h;omega
    · obtain ⟨a,h,_⟩:=map_ok h
      exact w hk h
theorem close_in (hg:Good ts) {o:Out Ex} {e:Ex} {k:Nat} (ho:∀ e k,o = .ok e k->k<ts.length) (h:o.close ts = .ok e k):k<ts.length:=by
  cases o with
  | ok a k' =>
    have h:(signF ts [41] k').map (fun _=>a) = .ok e k:=h
    obtain ⟨u,h,_⟩:=map_ok h
    unfold signF at h
    split at h
    · rename_i hc
      injection h with _ h
      have hk':=ho a k' rfl
      have:=hg.more k' hk' fun h0=>by rw [hg.fin k' hk' h0] at hc;cases hc
      omega
    · cases h
  | bad j er=>cases h
theorem px_total (hg:Good ts):∀ (m k:Nat),ts.length - k<=m->k<ts.length->(∀ o,o<=12->∃ out,Px ts ask (.part o) k out/\∀ e k1,out = .ok e k1->k1<ts.length) /\
    ∀ o least,o<=12->1<=least->∃ out,Px ts ask (.ops o least) k out/\∀ e k1,out = .ok e k1->k1<ts.length:=by
  intro m
  induction m with
  | zero=>intro k h1 h2;omega
  | succ m ih =>
    intro k h1 h2
    have hp:∀ o,o<=12->∃ out,Px ts ask (.part o) k out/\∀ e k1,out = .ok e k1->k1<ts.length:=by
      intro o ho
      by_cases h0:op1 ts k=0
      · by_cases ht:ltrs ts k=[40]
        · by_cases hd:o=12
          · exact ⟨_,.deep (.inr ht) hd,fun e k1 h=>by cases h⟩
          · have hk1:=hg.more k h2 fun hq=>by rw [hg.fin k h2 hq] at ht;cases ht
            obtain ⟨out,hx,hb⟩:=(ih (k+1) (by omega) hk1).2 (o+1) 1 (by omega) (by omega)
            exact ⟨_,.paren h0 ht hd hx,fun e k1 h=>close_in hg hb h⟩
        · exact ⟨_,.leaf h0 ht,fun e k1 h=>leafF_in hg h2 h⟩
      · by_cases hd:o=12
        · exact ⟨_,.deep (.inl h0) hd,fun e k1 h=>by cases h⟩
        · have hk1:=hg.more k h2 fun hq=>opOf_none h0 (hg.fin k h2 hq)
          obtain ⟨out,hx,hb⟩:=(ih (k+1) (by omega) hk1).1 (o+1) (by omega)
          exact ⟨_,.sign h0 hd hx,fun e k1 h=>by obtain ⟨a,h,_⟩:=map_ok h;exact hb _ _ h⟩
    refine ⟨hp,fun o least ho hl=>?_⟩
    obtain ⟨out,hx,hb⟩:=hp o ho
    cases out with
    | ok e k1 =>
      have hlt:k<k1:=hx.grows _ _ rfl
      obtain ⟨out,hx2,hb2⟩:=loop_total (k0:=k) (fun k' h1' h2'=>(ih k' (by omega) h2').2) hg (ts.length - k1) k1 (Nat.le_refl _) (by omega) (hb _ _ rfl) o least e ho hl
      exact ⟨out,.first hx hx2,hb2⟩
    | bad j er=>exact ⟨_,.firstBad hx,fun e k1 h=>by cases h⟩
set_option maxRecDepth 100000 in
set_option maxHeartbeats 1000000 in
theorem expression_any (L:Leaf F ask gR gp cap ts) {k:Nat} {w:World} (h:Rd w gR gp cap ts k):Calls Tryz.prog 182 #[.pointer (some ⟨gR,0,none⟩),leafFn F gR] w (Done gR gp cap ts treeV (exprF ts ask k) w):=by
  obtain ⟨out,hx,_⟩:=(px_total (ask:=ask) h.good (ts.length - k) k (Nat.le_refl _) h.lt).2 0 1 (by omega) (by omega)
  have hex:=exprF_of hx
  rw [hex]
  have hi:=fun W hr=>(all_any L (ts.length - k) k (Nat.le_refl _)).2 0 1 out W (by omega) (by omega) (by omega) hx hr
  simp only [leafFn] at hi
  change ∀ W,_->Calls _ _ #[_,_,.int .i64 (0:Int),.int .i64 (1:Int)] _ _ at hi
  have HI:=Lib.hid hi
  have HN:=Lib.hid (next_any h)
  have HGR:=Lib.hid (show gR<w.heap.size from h.box.lt)
  have HRW:=Lib.hid h
  have HST:=Lib.hid (fun W=>(show Calls _ _ #[.int .u8 (1:Int)] W fun e w'=>e = .returned (.int .i64 (1:Int))/\W=w' from strength_any 1 W))
  have HP:=Lib.hid (fun W=>throw_any (tk ts k) 4 W)
  unfold pc at HP
  clear h hex hi hx
  unfold leafFn
  go_enter Tryz.func182,Tryz.ntmps182
  go_wp2_with fail
  refine HN.out.mono ?_
  rintro e w1 ⟨rfl,hb⟩
  have hz:=Sits.new w1 278 zeroPc
  have HZ:=Lib.hid hz
  have hkk:=row_keeps (w1.alloc (.cells zeroPc 278)) w1.heap.size (pc (tk ts k))
  have hs:Sits ((w1.alloc (.cells zeroPc 278)).setRow w1.heap.size (pc (tk ts k))) w1.heap.size 278 (pc (tk ts k)):=setRow_heap _ _ _ _ _ _ hz
  have hlow1:Below w1.heap.size w1 ((w1.alloc (.cells zeroPc 278)).setRow w1.heap.size (pc (tk ts k))):=behind ((Below.refl _ _).alloc (Nat.le_refl _) _) hkk (by simp) (fun x e=>by rw [e];exact Nat.le_refl _)
  have hlow:=hb.trans (hlow1.mono hb.size)
  have HNE:=Lib.hid (show gR≠w1.heap.size by have:=hb.size;have:=HGR.out;omega)
  clear hz hkk hlow1 hb
  go_upto_region 2 with (refine wpList_store_row rfl 278 _ _ rfl w1.heap.size (pc (tk ts k)) rfl rfl 278 zeroPc HZ.out pcSize rfl (pc_one _) ?_)
  change Code.wp _ _ _ _ ((w1.alloc (.cells zeroPc 278)).setRow w1.heap.size (pc (tk ts k)))
  generalize (w1.alloc (.cells zeroPc 278)).setRow w1.heap.size (pc (tk ts k))=W3 at hs hlow ⊢
  generalize w1.heap.size=g0 at hs HNE ⊢
  have HS:=Lib.hid hs
  have HR:=Lib.hid (HRW.out.below hlow)
  have HK:=Lib.hid (Keeps.of_below hlow:Keeps (fun x=>x=gR) w W3)
  clear hs hlow HZ HN
  go_wp2_with fail
  refine (HST.out _).mono ?_
  rintro e w4 ⟨rfl,rfl⟩
  go_wp2_with fail
  refine (HI.out _ HR.out).mono ?_
  rintro e w5 ⟨hk,hp⟩
  have HK5:=Lib.hid (HK.out.trans hk)
  have HS5:=Lib.hid (HS.out.keep hk HNE.out.symm)
  clear hk
  cases out with
  | ok a k2 =>
    obtain ⟨⟨pt,rfl,hv⟩,hr⟩:=hp
    have HV:=Lib.hid hv
    have HR5:=Lib.hid hr
    have HD:=Lib.hid (Depth_any (treeOf a) _ w5 hv)
    rw [deep_min] at HD
    obtain ⟨z0,z1,z2,z3,z4⟩:=pc_at HS5.out
    have lz:=HS5.out.lt
    clear hv hr
    by_cases hd:12<a.depth
    · have HE:=Lib.hid (show deepen k (.ok a k2) = .bad k 4 by unfold deepen;simp only;rw [if_pos hd])
      have m1:(12:Int)<((min a.depth 13:Nat):Int):=by omega
      generalize min a.depth 13=d at m1 HD
      clear hd z0 z1 z2 z3 z4 lz
      go_wp2_with fail
      refine HD.out.mono ?_
      rintro e w6 ⟨rfl,hb⟩
      have HB:=Lib.hid hb
      obtain ⟨z0,z1,z2,z3,z4⟩:=pc_at (HS5.out.below hb HS5.out.lt)
      have lz:=(HS5.out.below hb HS5.out.lt).lt
      clear hb
      generalize str (tk ts k).text=x at z1 HP
      go_wp2_with fail
      refine (HP.out _).mono ?_
      rintro e w7 ⟨rfl,hb⟩
      have HB7:=Lib.hid (HB.out.trans (hb.mono HB.out.size))
      clear hb
      go_wp2_with fail
      rw [HE.out]
      exact ⟨rfl,HK5.out.trans (Keeps.of_below HB7.out),rfl⟩
    · have HE:=Lib.hid (show deepen k (.ok a k2) = .ok a k2 by unfold deepen;simp only;rw [if_neg hd])
      have m1:¬ (12:Int)<((min a.depth 13:Nat):Int):=by omega
      generalize min a.depth 13=d at m1 HD
      clear hd z0 z1 z2 z3 z4 lz
      go_wp2_with fail
      refine HD.out.mono ?_
      rintro e w6 ⟨rfl,hb⟩
      have HB:=Lib.hid hb
      clear hb
      go_wp2_with fail
      go_ret
      rw [HE.out]
      exact ⟨HK5.out.trans (Keeps.of_below HB.out),⟨_,rfl,HV.out.below HB.out⟩,HR5.out.below HB.out⟩
  | bad j er =>
    simp only at hp
    subst hp
    go_wp2_with fail
    exact ⟨rfl,HK5.out,rfl⟩
end
end Go.Proofs.YtagebkachdmnbaaGreatDoor.Prs
end
