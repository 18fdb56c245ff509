/- Part 27 of the proof: what is used of the texts PrsQ, PrsK, PrsL. -/
import Derived.Test.YtagebkachdmnbaaGreatDoorEC5
import Derived.Test.YtagebkachdmnbaaGreatDoorEA9
import Derived.Deep.QuietTactic
import Derived.BigQuiet
import Derived.Test.YtagebkachdmnbaaGreatDoorEC0
section
namespace Go.Proofs.YtagebkachdmnbaaGreatDoor.Prs
open Go.RowKit Go.Proofs.YtagebkachdmnbaaGreatDoor.Mem Go.Proofs.YtagebkachdmnbaaGreatDoor.Expr Go.Proofs.YtagebkachdmnbaaGreatDoor.Prog
open Go.Proofs.YtagebkachdmnbaaGreatDoor.Lex (Tok)
theorem find_at {p:Nat->Bool}:∀ {l:List Nat} {j x:Nat},l[j]? = some x->p x=true->(∀ (i y:Nat),i<j->l[i]? = some y->p y=false)->l.find? p=some x:=by
  intro l
  induction l with
  | nil=>intro j x h;simp at h
  | cons a l ih =>
    intro j x h hp hb
    cases j with
    | zero =>
      obtain rfl:a=x:=by simpa using h
      rw [List.find?_cons_of_pos hp]
    | succ j =>
      rw [List.find?_cons_of_neg (by rw [hb 0 a (by omega) rfl];exact Bool.false_ne_true)]
      exact ih (by simpa using h) hp fun i y hi hy=>hb (i+1) y (by omega) (by simpa using hy)
theorem find_no {p:Nat->Bool} {l:List Nat} (h:∀ (i y:Nat),l[i]? = some y->p y=false):l.find? p=none:=by
  rw [List.find?_eq_none]
  intro y hy
  obtain ⟨i,hi⟩:=List.mem_iff_getElem?.1 hy
  rw [h i y hi];exact Bool.false_ne_true
set_option maxRecDepth 100000 in
theorem modes_all (k:Nat) (w:World):Calls Tryz.prog 213 #[.int .u8 (k:Nat)] w (ModesMade k w):=by
  by_cases hk:k<256
  · exact modes_any k hk w
  · have hm:modesOf k=[]:=by unfold modesOf;rw [if_neg (by omega),if_neg (by omega),if_neg (by omega),if_neg (by omega)]
    have HM:=Lib.hid hm
    have i2:((k:Int) == 2)=false:=beq_eq_false_iff_ne.2 (by omega)
    have i3:((k:Int) == 3)=false:=beq_eq_false_iff_ne.2 (by omega)
    have i4:((k:Int) == 4)=false:=beq_eq_false_iff_ne.2 (by omega)
    have i5:((k:Int) == 5)=false:=beq_eq_false_iff_ne.2 (by omega)
    have i6:((k:Int) == 6)=false:=beq_eq_false_iff_ne.2 (by omega)
    have i7:((k:Int) == 7)=false:=beq_eq_false_iff_ne.2 (by omega)
    clear hk hm
    go_enter Tryz.func213,Tryz.ntmps213
    go_wp2_with fail
    go_ret
    exact ⟨_,rfl,.inl ⟨HM.out,rfl⟩,Below.refl _ _⟩
theorem modes_slice (k:Nat) (w:World):Calls Tryz.prog 213 #[.int .u8 (k:Nat)] w fun e' w'=>∃ p,e' = .returned (.slice p (modesOf k).length (modesOf k).length)/\(∀ i,i<(modesOf k).length->∃ g,p=some ⟨g,0,none⟩/\Sits w' g 5 ((modesOf k).map fun (n:Nat)=>Value.int .u8 (n:Int)).toArray)/\Below w.heap.size w w' :=
  (modes_all k w).mono fun e' w' hp=>by
    obtain ⟨v,he,hs,hb⟩:=hp
    rcases hs with ⟨h0,hv⟩ | ⟨g,hv,hs⟩
    · exact ⟨none,by rw [he,hv,h0];rfl,⟨fun i h=>(by rw [h0] at h;cases h),hb⟩⟩
    · exact ⟨_,by rw [he,hv],⟨fun _ _=>⟨g,rfl,hs⟩,hb⟩⟩
theorem modesOf_small (k:Nat):(modesOf k).length<=4/\∀ (i y:Nat),(modesOf k)[i]? = some y->y<256:=by
  unfold modesOf
  have key:∀ l:List Nat,(l.all fun y=>decide (y<256))=true->∀ (i y:Nat),l[i]? = some y->y<256:=fun l hl i y hy=>by
    simpa using List.all_eq_true.1 hl y (List.mem_of_getElem? hy)
  split
  · exact ⟨by decide,key _ (by decide)⟩
  split
  · exact ⟨by decide,key _ (by decide)⟩
  split
  · exact ⟨by decide,key _ (by decide)⟩
  split
  · exact ⟨by decide,key _ (by decide)⟩
  · exact ⟨by decide,key _ (by decide)⟩
section
variable {gR gp cap : Nat} {ts : List Lex.Tok}
theorem St.below {w w':World} {gS:Nat} {m:Mk} (h:St w gS gR gp m) (hb:Below w.heap.size w w'):St w' gS gR gp m :=
  h.stable (Stable.below hb) fun _ hc=>hc.below hb hc.lt
theorem St.byte {w:World} {gS:Nat} {m m':Mk} (h:St w gS gR gp m) (i:Nat) (v:Value) (he:∀ av bv,(sArr m av bv nilRow nilRow).setIfInBounds i v=sArr m' av bv nilRow nilRow) (ha:m'.a=m.a) (hb:m'.b=m.b):St (w.setCell ⟨gS,i,none⟩ v) gS gR gp m':=by
  obtain ⟨⟨av,bv,hx,h1,h2⟩,hf,hl⟩:=h
  have hst:=Stable.put (t:=204) hx (by decide) i v
  have hp:=hx.put i v
  rw [he] at hp
  exact ⟨⟨av,bv,hp,by rw [ha];exact h1.stable hst,by rw [hb];exact h2.stable hst⟩,hf,hl⟩
theorem mode_hit {m:Mk} {k x:Nat} (hq:kindAt ts k=2) (h:((modesOf m.kind).find? fun x=>decide (modeTxt x=ltrs ts k))=some x):modeMF ts m k = .ok { m with mode:=x } (k+1):=by
  unfold modeMF
  rw [show modeF ts m.kind k = .ok x (k+1) from wordF_some (f:=fun s=>(modesL m.kind).find? fun m=>decide (modeTxt m=s)) hq h];rfl
theorem mode_miss {m:Mk} {k:Nat} (hq:kindAt ts k=2) (h:((modesOf m.kind).find? fun x=>decide (modeTxt x=ltrs ts k))=none):modeMF ts m k = .bad k 7:=by
  unfold modeMF
  rw [show modeF ts m.kind k = .bad k 7 from wordF_none (f:=fun s=>(modesL m.kind).find? fun m=>decide (modeTxt m=s)) hq h];rfl
set_option maxRecDepth 100000 in
set_option maxHeartbeats 1000000 in
theorem mode_want:WantC 256 (modeMF ts) gR gp cap ts:=by
  intro gS m k w h hs
  have HO:=Lib.hid (of_any h 2)
  have HP:=Lib.hid (fun W=>throw_any (tk ts k) 7 W)
  have HM:=Lib.hid (fun e=>h.good.more k h.lt e)
  have HS:=Lib.hid hs
  have HR:=Lib.hid h
  have HNE:=Lib.hid (show gS≠gR by have:=hs.late;omega)
  clear h hs
  go_enter Tryz.func256,Tryz.ntmps256
  go_wp2_with fail
  refine HO.out.mono ?_
  rintro e w1 ⟨hk,hp⟩
  have HK:=Lib.hid hk
  rcases hp with ⟨hq,rfl,hr⟩ | ⟨hq,rfl⟩
  · have HR1:=Lib.hid (hr (HM.out (by rw [hq];decide)))
    have HQ:=Lib.hid hq
    have HS1:=Lib.hid (HS.out.keepR HR.out hk)
    have hz:=Sits.new w1 278 zeroPc
    have HZ:=Lib.hid hz
    have hkk:=row_keeps (w1.alloc (.cells zeroPc 278)) w1.heap.size (pc (tk ts k))
    have hs:Sits ((w1.alloc (.cells zeroPc 278)).setRow w1.heap.size (pc (tk ts k))) w1.heap.size 278 (pc (tk ts k)):=setRow_heap _ _ _ _ _ _ hz
    have hlow:Below w1.heap.size w1 ((w1.alloc (.cells zeroPc 278)).setRow w1.heap.size (pc (tk ts k))):=behind ((Below.refl _ _).alloc (Nat.le_refl _) _) hkk (by simp) (fun x e=>by rw [e];exact Nat.le_refl _)
    clear hk hq hr hz hkk
    go_upto_region 1 with (refine wpList_store_row rfl 278 _ _ rfl w1.heap.size (pc (tk ts k)) rfl rfl 278 zeroPc HZ.out pcSize rfl (pc_one _) ?_)
    change Code.wp _ _ _ _ ((w1.alloc (.cells zeroPc 278)).setRow w1.heap.size (pc (tk ts k)))
    generalize (w1.alloc (.cells zeroPc 278)).setRow w1.heap.size (pc (tk ts k))=W2 at hs hlow ⊢
    generalize w1.heap.size=g1 at hs ⊢
    have HLW:=Lib.hid hlow
    have HPC:=Lib.hid hs
    have HS2:=Lib.hid (HS1.out.below hlow)
    have HR2:=Lib.hid (HR1.out.below hlow)
    have HK2:=Lib.hid (HK.out.trans (Keeps.of_below hlow))
    obtain ⟨⟨av,bv,hb,_,_⟩,_,_⟩:=HS2.out
    have c0:W2.cell? ⟨gS,0,none⟩=some (.int .u8 m.kind):=hb.cell 0
    have lS:=hb.lt
    have HMO:=Lib.hid (modes_slice m.kind W2)
    have HSM:=Lib.hid (modesOf_small m.kind)
    unfold pc at HP
    clear hs hlow hb HO
    go_wp2_with fail
    refine HMO.out.mono ?_
    rintro e W3 ⟨p,rfl,hrow,hb3⟩
    have HROW:=Lib.hid hrow
    have HB3:=Lib.hid hb3
    have HPC3:=Lib.hid (HPC.out.below hb3 HPC.out.lt)
    have n4:(((modesOf m.kind).length:Nat):Int)<=4:=by have:=HSM.out.1;omega
    clear hrow hb3 c0 lS HMO
    generalize hln:(modesOf m.kind).length=n at HROW n4
    have HN:=Lib.hid hln
    clear hln
    go_wp2_with fail
    go_loopg [15] n (fun gg v15 wx=>∃ j:Nat,j<=n/\gg=n - j/\v15 = .int .i64 (j:Nat)/\Hid (Below W3.heap.size W3 wx)/\Hid (∀ (i y:Nat),i<j->(modesOf m.kind)[i]? = some y->decide (modeTxt y=ltrs ts k)=false))
    case atStart=>exact ⟨0,by omega,by omega,rfl,Lib.hid (Below.refl _ _),Lib.hid fun i y h=>by omega⟩
    case round =>
      obtain ⟨j,hj,rfl,rfl,HBj,HF⟩:=hrel
      have hpc:=HPC3.out.below HBj.out HPC3.out.lt
      obtain ⟨z0,z1,z2,z3,z4⟩:=pc_at hpc
      have lz:=hpc.lt
      change wr.cell? ⟨g1,1,none⟩=some (.string (str (ltrs ts k))) at z1
      by_cases hjn:j<n
      · obtain ⟨x,hx⟩:∃ x,(modesOf m.kind)[j]? = some x:=⟨_,List.getElem?_eq_getElem (by have:=HN.out;omega:j<(modesOf m.kind).length)⟩
        obtain ⟨gm,rfl,hm⟩:=HROW.out j hjn
        have hm':=hm.below HBj.out hm.lt
        have cm:wr.cell? ⟨gm,j,none⟩=some (.int .u8 (x:Nat)):=by
          have:=hm'.cell j
          rw [this]
          have e:((modesOf m.kind).map fun (n:Nat)=>Value.int .u8 (n:Int)).toArray[j]? = some (.int .u8 (x:Nat)):=by
            rw [List.getElem?_toArray,List.getElem?_map,hx];rfl
          exact e
        have lm:=hm'.lt
        have hx256:=HSM.out.2 j x hx
        have HMT:=Lib.hid (fun W (hb:Below wr.heap.size wr W)=>mode_any x hx256 W ((HR2.out.all.2.below (HB3.out.trans (HBj.out.mono HB3.out.size))).below hb))
        have HX:=Lib.hid hx
        have m1:(j:Int)<(n:Int):=by omega
        have m0:(0:Int)<=(j:Int):=by omega
        have HE:=str_eq (modeTxt x) (ltrs ts k)
        have HTXT:=Lib.hid (show str (tk ts k).text=str (ltrs ts k) from rfl)
        clear hm hm' hx hx256 hpc
        rw [HTXT.out] at HP
        generalize str (ltrs ts k)=y at z1 HE HP HTXT
        generalize str (modeTxt x)=u at HMT HE
        have HSJ:=Lib.hid (HS2.out.below (HB3.out.trans (HBj.out.mono HB3.out.size)))
        have HRJ:=Lib.hid (HR2.out.below (HB3.out.trans (HBj.out.mono HB3.out.size)))
        have HPJ:=Lib.hid (HPC3.out.below HBj.out HPC3.out.lt)
        by_cases hxe:modeTxt x=ltrs ts k
        · have HFX:Hid (modeMF ts m k = .ok { m with mode:=x } (k+1)):=Lib.hid (mode_hit HQ.out (find_at HX.out (decide_eq_true hxe) HF.out))
          rw [decide_eq_true hxe] at HE
          clear hxe
          go_wp2_with fail
          have X1:∀ y':Within (Under wr),y'.now.cell? ⟨g1,1,none⟩=some (.string y):=fun y'=>by
            have:=(HPJ.out.below y'.ok HPJ.out.lt).cell 1
            rw [this]
            exact congrArg (fun z=>some (Value.string z)) HTXT.out
          have LT:∀ y':Within (Under wr),g1<y'.now.heap.size:=fun y'=>(HPJ.out.below y'.ok HPJ.out.lt).lt
          have ne:Nonempty (Within (Under wr)):=⟨⟨_,Under.refl wr⟩⟩
          have YT:=Lib.hid (fun y':Within (Under wr)=>HMT.out y'.now y'.ok)
          refine wp_region_within (Under wr) (Under.refl wr) (by kernel_rfl) (by kernel_rfl) ?_
          repeat (go_big_quiet_step (with_reducible exact under_made (YT.out _)))
          refine wpQuiet_nil ?_
          intro w3 hw3
          have hb:Under wr w3:=by obtain ⟨y,rfl⟩:=hw3;exact y.ok
          have HS4:=Lib.hid (HSJ.out.below hb)
          have HR4:=Lib.hid (HRJ.out.below hb)
          have HK4:=Lib.hid (HK2.out.trans (Keeps.of_below (HB3.out.trans ((HBj.out.trans (hb.mono HBj.out.size)).mono HB3.out.size))))
          obtain ⟨⟨av,bv,hbx,_,_⟩,_,_⟩:=HS4.out
          have c2:w3.cell? ⟨gS,2,none⟩=some (.int .u8 m.mode):=hbx.cell 2
          have f2:=hbx.free 2
          have l2:=hbx.lt
          have HD:=Lib.hid (show Got gR gp gS cap ts (modeMF ts m k) w (.returned (.tuple #[])) (w3.setCell ⟨gS,2,none⟩ (.int .u8 (x:Nat))) by
            rw [HFX.out]
            exact ⟨(one_two HK4.out).put (p:=⟨gS,2,none⟩) (.inl (.inr rfl)) _,rfl,HS4.out.byte (m':={ m with mode:=x }) 2 _ (fun _ _=>rfl) rfl rfl,HR4.out.cell_put HS4.out.far HS4.out.late 2 _⟩)
          clear hw3 hb X1 LT ne z0 z1 z2 z3 z4 lz cm lm hbx
          go_wp2_with fail
          go_end0
          exact HD.out
        · rw [decide_eq_false hxe] at HE
          have HNX:=Lib.hid hxe
          clear hxe
          go_wp2_with fail
          have X1:∀ y':Within (Under wr),y'.now.cell? ⟨g1,1,none⟩=some (.string y):=fun y'=>by
            have:=(HPJ.out.below y'.ok HPJ.out.lt).cell 1
            rw [this]
            exact congrArg (fun z=>some (Value.string z)) HTXT.out
          have LT:∀ y':Within (Under wr),g1<y'.now.heap.size:=fun y'=>(HPJ.out.below y'.ok HPJ.out.lt).lt
          have ne:Nonempty (Within (Under wr)):=⟨⟨_,Under.refl wr⟩⟩
          have YT:=Lib.hid (fun y':Within (Under wr)=>HMT.out y'.now y'.ok)
          refine wp_region_within (Under wr) (Under.refl wr) (by kernel_rfl) (by kernel_rfl) ?_
          repeat (go_big_quiet_step (with_reducible exact under_made (YT.out _)))
          refine wpQuiet_nil ?_
          intro w3 hw3
          have hb:Under wr w3:=by obtain ⟨y,rfl⟩:=hw3;exact y.ok
          have HB4:=Lib.hid (HBj.out.trans (hb.mono HBj.out.size))
          clear hw3 hb X1 LT ne
          go_wp2_with fail
          go_roundg (n - (j+1))
          case measure=>omega
          case rel=>exact ⟨j+1,by omega,rfl,by go_num,HB4,Lib.hid fun i z hi hz=>by
            by_cases e:i<j
            · exact HF.out i z e hz
            · obtain rfl:i=j:=by omega
              rw [HX.out] at hz
              injection hz with hz
              subst hz
              exact decide_eq_false HNX.out⟩
      · obtain rfl:j=n:=by omega
        have m1:¬ ((j:Int)<(j:Int)):=by omega
        have HTXT:=Lib.hid (show str (tk ts k).text=str (ltrs ts k) from rfl)
        have HFX:Hid (modeMF ts m k = .bad k 7):=Lib.hid (mode_miss HQ.out (find_no fun i z hz=>HF.out i z (by have:=(List.getElem?_eq_some_iff.1 hz).1;have:=HN.out;omega) hz))
        have HB4:=Lib.hid (HB3.out.trans (HBj.out.mono HB3.out.size))
        rw [HTXT.out] at HP
        generalize str (ltrs ts k)=y at z1 HP
        clear hpc hj hjn
        go_wp2_with fail
        refine (HP.out _).mono ?_
        rintro e w5 ⟨rfl,hb⟩
        have HB5:=Lib.hid (HB4.out.trans (hb.mono HB4.out.size))
        clear hb
        go_wp2_with fail
        rw [HFX.out]
        exact ⟨rfl,one_two (HK2.out.trans (Keeps.of_below HB5.out)),rfl⟩
  · have HF:Hid (modeMF ts m k = .bad k 3):=Lib.hid (by unfold modeMF;rw [show modeF ts m.kind k = .bad k 3 from wordF_kind hq];rfl)
    clear hk hq
    go_wp2_with fail
    rw [HF.out]
    exact ⟨rfl,one_two HK.out,rfl⟩
theorem set_sz (W:World) (p:Addr) (u:Value):(W.setCell p u).heap.size=W.heap.size:=by simp [World.setCell]
theorem place_enters:Expr.Enters 255:=enters_of Tryz.func255 (by kernel_rfl) rfl
theorem first_enters:Expr.Enters 254:=enters_of Tryz.func254 (by kernel_rfl) rfl
theorem second_enters:Expr.Enters 284:=enters_of Tryz.func284 (by kernel_rfl) rfl
theorem mode_enters:Expr.Enters 256:=enters_of Tryz.func256 (by kernel_rfl) rfl
def wPlace (ts:List Lex.Tok):FuncId × (Mk->Nat->Out Mk):=(255,placeF ts)
noncomputable def wFirst (ts:List Lex.Tok):FuncId × (Mk->Nat->Out Mk):=(254,firstF ts)
noncomputable def wSecond (ts:List Lex.Tok):FuncId × (Mk->Nat->Out Mk):=(284,secondF ts)
def wMode (ts:List Lex.Tok):FuncId × (Mk->Nat->Out Mk):=(256,modeMF ts)
theorem Got.since {gS:Nat} {o:Out Mk} {w w1 w':World} {e:Ending} (hk:Keeps (two_ gR gS) w w1) (h:Got gR gp gS cap ts o w1 e w'):Got gR gp gS cap ts o w e w':=⟨hk.trans h.1,h.2⟩
theorem wants_each {l:List (FuncId × (Mk->Nat->Out Mk))} (h:∀ p ∈ l,p=wPlace ts \/ p=wFirst ts \/ p=wSecond ts \/ p=wMode ts):∀ p ∈ l,Expr.Enters p.1/\WantC p.1 p.2 gR gp cap ts:=fun p hp=>by
  rcases h p hp with rfl | rfl | rfl | rfl
  · exact ⟨place_enters,place_any⟩
  · exact ⟨first_enters,first_any⟩
  · exact ⟨second_enters,second_any⟩
  · exact ⟨mode_enters,mode_want⟩
theorem within_new {w:World} {gS k:Nat} {m:Mk} (l:List (FuncId × (Mk->Nat->Out Mk))) (hl:l.length<=100) (he:∀ p ∈ l,p=wPlace ts \/ p=wFirst ts \/ p=wSecond ts \/ p=wMode ts) (t:TypeId) (cs:Array Value) (hcs:cs=(l.map fun p=>leafFn p.1 gR).toArray)
    (h:Rd w gR gp cap ts k) (hs:St w gS gR gp m) (cw:Nat) {n:Nat} (hn:w.heap.size=n):Calls Tryz.prog 253 #[.pointer (some ⟨gR,0,none⟩),.pointer (some ⟨gS,0,none⟩),.slice (some ⟨n,0,none⟩) l.length cw] (w.alloc (.cells cs t)) (Got gR gp gS cap ts (withinF ts (l.map (·.2)) m k) w):=by
  subst hn
  have hb:Below w.heap.size w (w.alloc (.cells cs t)):=(Below.refl _ _).alloc (Nat.le_refl _) _
  have hgS:gS<w.heap.size:=by obtain ⟨⟨_,_,hx,_,_⟩,_,_⟩:=hs;exact hx.lt
  refine (within_any gS w.heap.size cw l hl m k _ (h.below hb) (hs.below hb) ⟨fun i p hp=>?_,wants_each he,by have:=h.box.lt;omega,by omega⟩).mono fun e w' hg=>hg.since (Keeps.of_below hb)
  have hc:=(Sits.new w t cs).cell i
  rw [hc,hcs]
  rw [List.getElem?_toArray,List.getElem?_map,hp];rfl
noncomputable def gotM (ts:List Lex.Tok) (m:Mk) (k:Nat):Out Mk :=
  if ltrs ts k=wLoad then withinF ts (partsOf ts 2) { m with kind:=2 } (k+1)
  else if ltrs ts k=wSwap then withinF ts (partsOf ts 4) { m with kind:=4 } (k+1)
  else if ltrs ts k=wAdd then withinF ts (partsOf ts 5) { m with kind:=5 } (k+1)
  else if ltrs ts k=wCas then withinF ts (partsOf ts 6) { m with kind:=6 } (k+1)
  else firstF ts { m with kind:=1 } k
theorem St.at0 {w:World} {gS:Nat} {m:Mk} (h:St w gS gR gp m):w.cell? ⟨gS,0,none⟩=some (.int .u8 m.kind)/\w.frozen? ⟨gS,0,none⟩=false/\gS<w.heap.size:=by
  obtain ⟨⟨_,_,hx,_,_⟩,_,_⟩:=h
  exact ⟨hx.cell 0,hx.free 0,hx.lt⟩
set_option maxRecDepth 100000 in
set_option maxHeartbeats 2000000 in
theorem got_any:WantC 258 (gotM ts) gR gp cap ts:=by
  intro gS m k w h hs
  have H2:=Lib.hid (fun W (hr:Rd W gR gp cap ts k)=>(has_any hr wLoad (by decide):Calls _ _ #[_,.string (str [108,111,97,100])] W _))
  have H4:=Lib.hid (fun W (hr:Rd W gR gp cap ts k)=>(has_any hr wSwap (by decide):Calls _ _ #[_,.string (str [115,119,97,112])] W _))
  have H5:=Lib.hid (fun W (hr:Rd W gR gp cap ts k)=>(has_any hr wAdd (by decide):Calls _ _ #[_,.string (str [97,100,100])] W _))
  have H6:=Lib.hid (fun W (hr:Rd W gR gp cap ts k)=>(has_any hr wCas (by decide):Calls _ _ #[_,.string (str [99,97,115])] W _))
  have HFI:=Lib.hid (first_any (gR:=gR) (gp:=gp) (cap:=cap) (ts:=ts))
  have HS:=Lib.hid hs
  have HR:=Lib.hid h
  have HK:=Lib.hid (Keeps.refl (two_ gR gS) w)
  have HT:=Lib.hid (show gotM ts m k=gotM ts m k from rfl)
  have ec:gS=gS:=rfl
  clear h hs ec HT
  go_enter Tryz.func258,Tryz.ntmps258
  go_wp2_with fail
  refine (H2.out _ HR.out).mono ?_
  intro e v0 hp
  rcases hp with ⟨hc,rfl,hk,hr⟩ | ⟨hc,rfl,hb⟩
  · have hs1:=HS.out.keepR HR.out hk
    have HX:Hid (gotM ts m k=withinF ts ([wPlace ts,wMode ts].map (·.2)) { m with kind:=2 } (k+1)):=Lib.hid (by unfold gotM;rw [if_pos hc];rfl)
    have HS1:=Lib.hid (hs1.byte (m':={ m with kind:=2 }) 0 (.int .u8 (2:Nat)) (fun _ _=>rfl) rfl rfl)
    have HR1:=Lib.hid (hr.cell_put hs1.far hs1.late 0 (.int .u8 (2:Nat)))
    have HK1:=Lib.hid ((HK.out.trans (one_two hk)).put (p:=⟨gS,0,none⟩) (.inl (.inr rfl)) (.int .u8 (2:Nat)))
    obtain ⟨c0,f0,l0⟩:=hs1.at0
    clear hc hk hr hs1
    go_wp2_with fail
    have HC:=Lib.hid (within_new [wPlace ts,wMode ts] (by simp) (by simp) 347 _ rfl HR1.out HS1.out 2 (set_sz _ _ _))
    refine (HC.out).mono ?_
    intro e w2 hg
    have HD:=Lib.hid (Got.since HK1.out hg)
    rw [<- HX.out] at HD
    clear c0 f0 l0
    cases ho:gotM ts m k with
    | ok a k2 =>
      have he:=HD.out.2
      rw [ho] at he
      obtain ⟨rfl,_,_⟩:=he
      clear ho hg
      go_wp2_with fail
      go_end0
      exact HD.out
    | bad j er =>
      have he:=HD.out.2
      rw [ho] at he
      simp only at he
      subst he
      rw [ho] at HD
      clear ho hg
      go_wp2_with fail
      exact ⟨rfl,HD.out⟩
  have HN0:=Lib.hid hc
  have HS0b:=Lib.hid (HS.out.below hb)
  have HR0b:=Lib.hid (HR.out.below hb)
  have HK0b:=Lib.hid (HK.out.trans (Keeps.of_below hb))
  clear hc hb
  go_wp2_with fail
  refine (H4.out _ HR0b.out).mono ?_
  intro e v1 hp
  rcases hp with ⟨hc,rfl,hk,hr⟩ | ⟨hc,rfl,hb⟩
  · have hs1:=HS0b.out.keepR HR0b.out hk
    have HX:Hid (gotM ts m k=withinF ts ([wPlace ts,wFirst ts,wMode ts].map (·.2)) { m with kind:=4 } (k+1)):=Lib.hid (by unfold gotM;rw [if_neg HN0.out,if_pos hc];rfl)
    have HS1:=Lib.hid (hs1.byte (m':={ m with kind:=4 }) 0 (.int .u8 (4:Nat)) (fun _ _=>rfl) rfl rfl)
    have HR1:=Lib.hid (hr.cell_put hs1.far hs1.late 0 (.int .u8 (4:Nat)))
    have HK1:=Lib.hid ((HK0b.out.trans (one_two hk)).put (p:=⟨gS,0,none⟩) (.inl (.inr rfl)) (.int .u8 (4:Nat)))
    obtain ⟨c0,f0,l0⟩:=hs1.at0
    clear hc hk hr hs1
    go_wp2_with fail
    have HC:=Lib.hid (within_new [wPlace ts,wFirst ts,wMode ts] (by simp) (by simp) 347 _ rfl HR1.out HS1.out 3 (set_sz _ _ _))
    refine (HC.out).mono ?_
    intro e w2 hg
    have HD:=Lib.hid (Got.since HK1.out hg)
    rw [<- HX.out] at HD
    clear c0 f0 l0
    cases ho:gotM ts m k with
    | ok a k2 =>
      have he:=HD.out.2
      rw [ho] at he
      obtain ⟨rfl,_,_⟩:=he
      clear ho hg
      go_wp2_with fail
      go_end0
      exact HD.out
    | bad j er =>
      have he:=HD.out.2
      rw [ho] at he
      simp only at he
      subst he
      rw [ho] at HD
      clear ho hg
      go_wp2_with fail
      exact ⟨rfl,HD.out⟩
  have HN1:=Lib.hid hc
  have HS1b:=Lib.hid (HS0b.out.below hb)
  have HR1b:=Lib.hid (HR0b.out.below hb)
  have HK1b:=Lib.hid (HK0b.out.trans (Keeps.of_below hb))
  clear hc hb
  go_wp2_with fail
  refine (H5.out _ HR1b.out).mono ?_
  intro e v2 hp
  rcases hp with ⟨hc,rfl,hk,hr⟩ | ⟨hc,rfl,hb⟩
  · have hs1:=HS1b.out.keepR HR1b.out hk
    have HX:Hid (gotM ts m k=withinF ts ([wPlace ts,wFirst ts,wMode ts].map (·.2)) { m with kind:=5 } (k+1)):=Lib.hid (by unfold gotM;rw [if_neg HN0.out,if_neg HN1.out,if_pos hc];rfl)
    have HS1:=Lib.hid (hs1.byte (m':={ m with kind:=5 }) 0 (.int .u8 (5:Nat)) (fun _ _=>rfl) rfl rfl)
    have HR1:=Lib.hid (hr.cell_put hs1.far hs1.late 0 (.int .u8 (5:Nat)))
    have HK1:=Lib.hid ((HK1b.out.trans (one_two hk)).put (p:=⟨gS,0,none⟩) (.inl (.inr rfl)) (.int .u8 (5:Nat)))
    obtain ⟨c0,f0,l0⟩:=hs1.at0
    clear hc hk hr hs1
    go_wp2_with fail
    have HC:=Lib.hid (within_new [wPlace ts,wFirst ts,wMode ts] (by simp) (by simp) 347 _ rfl HR1.out HS1.out 3 (set_sz _ _ _))
    refine (HC.out).mono ?_
    intro e w2 hg
    have HD:=Lib.hid (Got.since HK1.out hg)
    rw [<- HX.out] at HD
    clear c0 f0 l0
    cases ho:gotM ts m k with
    | ok a k2 =>
      have he:=HD.out.2
      rw [ho] at he
      obtain ⟨rfl,_,_⟩:=he
      clear ho hg
      go_wp2_with fail
      go_end0
      exact HD.out
    | bad j er =>
      have he:=HD.out.2
      rw [ho] at he
      simp only at he
      subst he
      rw [ho] at HD
      clear ho hg
      go_wp2_with fail
      exact ⟨rfl,HD.out⟩
  have HN2:=Lib.hid hc
  have HS2b:=Lib.hid (HS1b.out.below hb)
  have HR2b:=Lib.hid (HR1b.out.below hb)
  have HK2b:=Lib.hid (HK1b.out.trans (Keeps.of_below hb))
  clear hc hb
  go_wp2_with fail
  refine (H6.out _ HR2b.out).mono ?_
  intro e v3 hp
  rcases hp with ⟨hc,rfl,hk,hr⟩ | ⟨hc,rfl,hb⟩
  · have hs1:=HS2b.out.keepR HR2b.out hk
    have HX:Hid (gotM ts m k=withinF ts ([wPlace ts,wFirst ts,wSecond ts,wMode ts].map (·.2)) { m with kind:=6 } (k+1)):=Lib.hid (by unfold gotM;rw [if_neg HN0.out,if_neg HN1.out,if_neg HN2.out,if_pos hc];rfl)
    have HS1:=Lib.hid (hs1.byte (m':={ m with kind:=6 }) 0 (.int .u8 (6:Nat)) (fun _ _=>rfl) rfl rfl)
    have HR1:=Lib.hid (hr.cell_put hs1.far hs1.late 0 (.int .u8 (6:Nat)))
    have HK1:=Lib.hid ((HK2b.out.trans (one_two hk)).put (p:=⟨gS,0,none⟩) (.inl (.inr rfl)) (.int .u8 (6:Nat)))
    obtain ⟨c0,f0,l0⟩:=hs1.at0
    clear hc hk hr hs1
    go_wp2_with fail
    have HC:=Lib.hid (within_new [wPlace ts,wFirst ts,wSecond ts,wMode ts] (by simp) (by simp) 347 _ rfl HR1.out HS1.out 4 (set_sz _ _ _))
    refine (HC.out).mono ?_
    intro e w2 hg
    have HD:=Lib.hid (Got.since HK1.out hg)
    rw [<- HX.out] at HD
    clear c0 f0 l0
    cases ho:gotM ts m k with
    | ok a k2 =>
      have he:=HD.out.2
      rw [ho] at he
      obtain ⟨rfl,_,_⟩:=he
      clear ho hg
      go_wp2_with fail
      go_end0
      exact HD.out
    | bad j er =>
      have he:=HD.out.2
      rw [ho] at he
      simp only at he
      subst he
      rw [ho] at HD
      clear ho hg
      go_wp2_with fail
      exact ⟨rfl,HD.out⟩
  have HN3:=Lib.hid hc
  have HS3b:=Lib.hid (HS2b.out.below hb)
  have HR3b:=Lib.hid (HR2b.out.below hb)
  have HK3b:=Lib.hid (HK2b.out.trans (Keeps.of_below hb))
  clear hc hb
  have HX:Hid (gotM ts m k=firstF ts { m with kind:=1 } k):=Lib.hid (by unfold gotM;rw [if_neg HN0.out,if_neg HN1.out,if_neg HN2.out,if_neg HN3.out])
  have HS1:=Lib.hid (HS3b.out.byte (m':={ m with kind:=1 }) 0 (.int .u8 (1:Nat)) (fun _ _=>rfl) rfl rfl)
  have HR1:=Lib.hid (HR3b.out.cell_put HS3b.out.far HS3b.out.late 0 (.int .u8 (1:Nat)))
  have HK1:=Lib.hid (HK3b.out.put (p:=⟨gS,0,none⟩) (.inl (.inr rfl)) (.int .u8 (1:Nat)))
  obtain ⟨c0,f0,l0⟩:=HS3b.out.at0
  go_wp2_with fail
  refine (HFI.out gS _ k _ HR1.out HS1.out).mono ?_
  intro e w2 hg
  have HD:=Lib.hid (Got.since HK1.out hg)
  rw [<- HX.out] at HD
  clear c0 f0 l0
  cases ho:gotM ts m k with
  | ok a k2 =>
    have he:=HD.out.2
    rw [ho] at he
    obtain ⟨rfl,_,_⟩:=he
    clear ho hg
    go_wp2_with fail
    go_end0
    exact HD.out
  | bad j er =>
    have he:=HD.out.2
    rw [ho] at he
    simp only at he
    subst he
    rw [ho] at HD
    clear ho hg
    go_wp2_with fail
    exact ⟨rfl,HD.out⟩
end
end Go.Proofs.YtagebkachdmnbaaGreatDoor.Prs
end
section
namespace Go.Proofs.YtagebkachdmnbaaGreatDoor.Prs
open Go.Proofs.YtagebkachdmnbaaGreatDoor.Expr Go.Proofs.YtagebkachdmnbaaGreatDoor.Prog
open Go.Proofs.YtagebkachdmnbaaGreatDoor.Lex (Tok)
section
variable {ask : Bool} {ts : List Lex.Tok}
theorem opOf_sides {n:Nat} {s:List UInt8} (h:opOf n s≠0):sides (opOf n s)=n/\sign (opOf n s)=s:=by
  unfold opOf at h ⊢
  cases hf:List.find? (fun op=>decide (sides op=n) && decide (sign op=s)) [1,2,3,4,5,6,7,8,9,10,11,12,13,14] with
  | none=>rw [hf] at h;exact absurd rfl h
  | some a =>
    have:=List.find?_some hf
    simpa using this
end
end Go.Proofs.YtagebkachdmnbaaGreatDoor.Prs
end
section
namespace Go.Proofs.YtagebkachdmnbaaGreatDoor.Prs
open Go.Proofs.YtagebkachdmnbaaGreatDoor.Expr Go.Proofs.YtagebkachdmnbaaGreatDoor.Prog
open Go.Proofs.YtagebkachdmnbaaGreatDoor.Lex (Tok lex isB isD isL isLD isS isR grows)
structure Raw where
  kind:Nat
  text:List UInt8
  num:Nat
deriving DecidableEq
def raw (t:Lex.Tok):Raw:=⟨t.kind,t.text,t.num⟩
def rawEnd:Raw:=⟨0,[],0⟩
def sg (s:List UInt8):Raw:=⟨3,s,0⟩
def wd (s:List UInt8):Raw:=⟨2,s,0⟩
def nm (n:Nat):Raw:=⟨1,dec n,n⟩
theorem letter_plain {c:UInt8} (h:isL c=true):isB c=false/\(c == 35)=false/\isD c=false:=by
  unfold isL at h
  simp only [Bool.and_eq_true,decide_eq_true_eq] at h
  refine ⟨?_,?_,?_⟩
  · cases hb:isB c with
    | false=>rfl
    | true=>rcases Lex.blank_is hb with rfl | rfl | rfl <;> exact absurd h.1 (by decide)
  · rw [beq_eq_false_iff_ne];rintro rfl;exact absurd h.1 (by decide)
  · unfold isD;simp only [Bool.and_eq_false_iff,decide_eq_false_iff_not];omega
theorem isDig_isD {c:UInt8} (h:isDig c=true):isD c=true:=by
  unfold isDig at h
  unfold isD
  simpa using h
theorem dec_all (n:Nat):∀ c ∈ dec n,isD c=true:=fun c hc=>isDig_isD ((dec_spell n).1 c hc)
def parR (rs:List Raw):List Raw:=sg [40] :: (rs ++ [sg [41]])
def rawsE:Ex->List Raw
  | .num n=>[nm n]
  | .reg i=>[wd (114 :: dec i)]
  | .of t i=>[nm t,sg [58],wd (114 :: dec i)]
  | .loc x=>[wd [x.toUInt8]]
  | .one op a=>sg (sign op) :: (if a.strong<strongOp op then parR (rawsE a) else rawsE a)
  | .two op a b=>(if a.strong<strongOp op then parR (rawsE a) else rawsE a) ++ (sg (sign op) :: (if b.strong<strongOp op+1 then parR (rawsE b) else rawsE b))
def atR (n:Nat) (e:Ex):List Raw:=if e.strong<n then parR (rawsE e) else rawsE e
theorem raws_one (op:Nat) (a:Ex):rawsE (Ex.one op a)=sg (sign op) :: atR (strongOp op) a:=rfl
theorem raws_two (op:Nat) (a b:Ex):rawsE (Ex.two op a b)=atR (strongOp op) a ++ (sg (sign op) :: atR (strongOp op+1) b):=rfl
theorem dec_ld (n:Nat):∀ c ∈ dec n,isLD c=true:=fun c hc=>by unfold isLD;rw [dec_all n c hc,Bool.or_true]
theorem loc_letter {x:Nat} (h:isLetter x):isL x.toUInt8=true/\x.toUInt8.toNat=x:=by
  have e:x.toUInt8.toNat=x:=by
    show x % 256=x
    have:=h.2;omega
  refine ⟨?_,e⟩
  unfold isL
  rw [e]
  simp only [Bool.and_eq_true,decide_eq_true_eq]
  exact h
def exR:Option Ex->List Raw
  | none=>[]
  | some e=>rawsE e
def headR (m:Mk):List Raw :=
  match m.kind with
  | 1=>wd (114 :: dec m.reg) :: sg [61] :: (exR m.a ++ [sg [59]])
  | 2=>wd (114 :: dec m.reg) :: sg [61] :: wd wLoad :: sg [40] :: wd [m.loc.toUInt8] :: sg [44] :: wd (modeTxt m.mode) :: [sg [41],sg [59]]
  | 3=>wd wStore :: sg [40] :: wd [m.loc.toUInt8] :: sg [44] :: (exR m.a ++ sg [44] :: wd (modeTxt m.mode) :: [sg [41],sg [59]])
  | 4=>wd (114 :: dec m.reg) :: sg [61] :: wd wSwap :: sg [40] :: wd [m.loc.toUInt8] :: sg [44] :: (exR m.a ++ sg [44] :: wd (modeTxt m.mode) :: [sg [41],sg [59]])
  | 5=>wd (114 :: dec m.reg) :: sg [61] :: wd wAdd :: sg [40] :: wd [m.loc.toUInt8] :: sg [44] :: (exR m.a ++ sg [44] :: wd (modeTxt m.mode) :: [sg [41],sg [59]])
  | 6=>wd (114 :: dec m.reg) :: sg [61] :: wd wCas :: sg [40] :: wd [m.loc.toUInt8] :: sg [44] :: (exR m.a ++ sg [44] :: (exR m.b ++ sg [44] :: wd (modeTxt m.mode) :: [sg [41],sg [59]]))
  | 7=>wd wFence :: sg [40] :: wd (modeTxt m.mode) :: [sg [41],sg [59]]
  | 8=>wd wIf :: sg [40] :: (exR m.a ++ [sg [41],sg [123]])
  | 9=>wd wWhile :: sg [40] :: (exR m.a ++ [sg [41],sg [123]])
  | _=>[]
def rawsB:Blk->List Raw
  | .nil=>[]
  | .cons m t e r=>headR m ++ ((if m.kind=8 then rawsB t ++ ((if e.len=0 then [] else sg [125] :: wd wElse :: sg [123] :: rawsB e) ++ [sg [125]]) else if m.kind=9 then rawsB t ++ [sg [125]] else []) ++ rawsB r)
theorem proper_kind {m:Mk} (h:m.proper):1<=m.kind/\m.kind<=9:=by
  obtain ⟨kind,reg,mode,loc,a,b⟩:=m
  obtain ⟨_,_,h⟩:=h
  simp only at h ⊢
  match kind,h with
  | 0,h=>exact h.elim
  | n+10,h=>exact h.elim
  | 1,_ | 2,_ | 3,_ | 4,_ | 5,_ | 6,_ | 7,_ | 8,_ | 9,_=>omega
def initR (i:Nat × Nat):List Raw:=[wd wInit,wd [i.1.toUInt8],sg [61],nm i.2,sg [59]]
def threadR (b:Blk):List Raw:=wd wThread :: sg [123] :: (rawsB b ++ [sg [125]])
def rawsT (t:Ts):List Raw:=t.init.flatMap initR ++ (t.threads.flatMap threadR ++ (wd (if t.all then wForall else wExists) :: (exR t.ask ++ [sg [59],rawEnd])))
end Go.Proofs.YtagebkachdmnbaaGreatDoor.Prs
end
