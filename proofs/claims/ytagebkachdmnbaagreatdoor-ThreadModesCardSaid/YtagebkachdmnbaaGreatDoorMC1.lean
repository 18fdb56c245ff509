/- Part 22 of the proof: what is used of the texts PrsB, PrsC, PrsD. -/
import Derived.Test.YtagebkachdmnbaaGreatDoorMC0
import Derived.Test.YtagebkachdmnbaaGreatDoorMA6
import Derived.Test.YtagebkachdmnbaaGreatDoorMA9
section
namespace Go.Proofs.YtagebkachdmnbaaGreatDoor.Prs
open Go.RowKit Go.Proofs.YtagebkachdmnbaaGreatDoor.Mem Go.Proofs.YtagebkachdmnbaaGreatDoor.Expr
open Go.Proofs.YtagebkachdmnbaaGreatDoor.Lex (Tok)
def RegMade (t:Lex.Tok) (w:World) (e:Ending) (w':World):Prop:=Below w.heap.size w w' /\ match regOf t.text with
  | some i=>e = .returned (.int .u8 (i:Nat))
  | none=>e = .panicked (flt t 7)
set_option maxRecDepth 100000 in
theorem reg_bad (t:Lex.Tok) (w:World) (hl:((t.text.length:Int) != 2)=true):Calls Tryz.prog 257 #[.agg (pc t)] w fun e w'=>Made (.panicked (flt t 7)) w e w':=by
  have HP:=Lib.hid (fun W=>throw_any t 7 W)
  have hb:Below w.heap.size w (w.alloc (.cells (pc t) 278)):=(Below.refl _ _).alloc (Nat.le_refl _) _
  have HB:=Lib.hid hb
  have hz:(str t.text).size=t.text.length:=by simp [str,ByteArray.size]
  rw [<- hz] at hl
  unfold pc at HB HP ⊢
  generalize str t.text=x at hl HP HB ⊢
  clear hb hz
  go_enter Tryz.func257,Tryz.ntmps257
  go_wp2_with fail
  refine (HP.out _).mono ?_
  rintro e w3 ⟨rfl,hb⟩
  have HB3:=Lib.hid (HB.out.trans (hb.mono HB.out.size))
  clear hb
  go_wp2_with fail
  exact ⟨rfl,rfl,HB3.out⟩
set_option maxRecDepth 100000 in
theorem reg_two (kd nm ln cl:Nat) (a d:UInt8) (w:World):Calls Tryz.prog 257 #[.agg (pc ⟨kd,[a,d],nm,ln,cl⟩)] w (RegMade ⟨kd,[a,d],nm,ln,cl⟩ w):=by
  have HP:=Lib.hid (fun W=>throw_any ⟨kd,[a,d],nm,ln,cl⟩ 7 W)
  have hb:Below w.heap.size w (w.alloc (.cells (pc ⟨kd,[a,d],nm,ln,cl⟩) 278)):=(Below.refl _ _).alloc (Nat.le_refl _) _
  have HB:=Lib.hid hb
  clear hb
  unfold pc at HB HP ⊢
  have e0:∀ h,(str [a,d])[0]'h=a:=fun _=>rfl
  have e1:∀ h,(str [a,d])[1]'h=d:=fun _=>rfl
  have hsz:(str [a,d]).size=2:=rfl
  generalize str [a,d]=x at e0 e1 hsz HP HB ⊢
  by_cases ha:a=114
  · have ea:((a.toNat:Int) != 114)=false:=by rw [ha];rfl
    by_cases hd:48<=d.toNat/\d.toNat<=55
    · have hn:((d.toNat:Int) - 48) % 256=((d.toNat - 48:Nat):Int):=by omega
      have h8:¬ (8:Int)<=((d.toNat - 48:Nat):Int):=by omega
      have HR:Hid (regOf [a,d]=some (d.toNat - 48)):=Lib.hid (by unfold regOf;simp only;rw [if_pos ⟨ha,hd.1,hd.2⟩])
      generalize d.toNat - 48=n at hn h8 HR
      clear ha hd
      go_enter Tryz.func257,Tryz.ntmps257
      go_wp2_with fail
      go_ret
      exact ⟨HB.out,by show match regOf [a,d] with | some i=>_ | none=>_;rw [HR.out];rfl⟩
    · have hn:(8:Int)<=((d.toNat:Int) - 48) % 256:=by have:=d.toNat_lt;omega
      have HR:Hid (regOf [a,d]=none):=Lib.hid (by unfold regOf;simp only;rw [if_neg (by omega)])
      clear ha hd
      go_enter Tryz.func257,Tryz.ntmps257
      go_wp2_with fail
      refine (HP.out _).mono ?_
      rintro e w3 ⟨rfl,hb⟩
      have HB3:=Lib.hid (HB.out.trans (hb.mono HB.out.size))
      clear hb
      go_wp2_with fail
      exact ⟨rfl,HB3.out,by show match regOf [a,d] with | some i=>_ | none=>_;rw [HR.out]⟩
  · have ea:((a.toNat:Int) != 114)=true:=by
      rw [bne_iff_ne];intro h;exact ha (UInt8.toNat_inj.1 (by show a.toNat=114;omega))
    have HR:Hid (regOf [a,d]=none):=Lib.hid (by unfold regOf;simp only;rw [if_neg (fun h=>ha h.1)])
    clear ha
    go_enter Tryz.func257,Tryz.ntmps257
    go_wp2_with fail
    refine (HP.out _).mono ?_
    rintro e w3 ⟨rfl,hb⟩
    have HB3:=Lib.hid (HB.out.trans (hb.mono HB.out.size))
    clear hb
    go_wp2_with fail
    exact ⟨rfl,HB3.out,by show match regOf [a,d] with | some i=>_ | none=>_;rw [HR.out]⟩
theorem registerOf_any (t:Lex.Tok) (w:World):Calls Tryz.prog 257 #[.agg (pc t)] w (RegMade t w):=by
  obtain ⟨kd,tx,nm,ln,cl⟩:=t
  have bad:tx.length≠2->Calls Tryz.prog 257 #[.agg (pc ⟨kd,tx,nm,ln,cl⟩)] w (RegMade ⟨kd,tx,nm,ln,cl⟩ w):=fun h =>
    (reg_bad ⟨kd,tx,nm,ln,cl⟩ w (by rw [bne_iff_ne];show ((tx.length:Nat):Int)≠2;omega)).mono fun e w' hp=>⟨hp.2,by
      have:regOf tx=none:=by
        unfold regOf
        split
        · simp at h
        · rfl
      show match regOf tx with | some i=>_ | none=>_
      rw [this];exact hp.1⟩
  match tx,bad with
  | [],bad=>exact bad (by simp)
  | [_],bad=>exact bad (by simp)
  | [a,d],_=>exact reg_two kd nm ln cl a d w
  | _ :: _ :: _ :: _,bad=>exact bad (by simp)
theorem locOf_some {s:List UInt8} {a:Nat} (h:locOf s=some a):∃ c:UInt8,s=[c]/\c≠114/\c.toNat=a:=by
  unfold locOf at h
  split at h
  · rename_i c
    split at h
    · cases h
    · rename_i hc
      exact ⟨c,rfl,hc,Option.some.inj h⟩
  · cases h
theorem locOf_none {s:List UInt8} (h:locOf s=none):s.length≠1 \/ s=[114]:=by
  unfold locOf at h
  split at h
  · rename_i c
    split at h
    · rename_i hc;exact .inr (by rw [hc])
    · cases h
  · rename_i hn
    refine .inl fun hl=>?_
    match s,hl with
    | [c],_=>exact hn c rfl
section
variable {w : World} {gR gp cap : Nat} {ts : List Lex.Tok} {k : Nat}
theorem wordF_some {α:Type} {f:List UInt8->Option α} {a:α} (hq:kindAt ts k=2) (h:f (tk ts k).text=some a):wordF ts f k = .ok a (k+1):=by
  unfold wordF;rw [if_pos hq];show (match f (tk ts k).text with | some a=>Out.ok a (k+1) | none=>Out.bad k 7)=_;rw [h]
theorem wordF_none {α:Type} {f:List UInt8->Option α} (hq:kindAt ts k=2) (h:f (tk ts k).text=none):wordF ts f k = .bad k 7:=by
  unfold wordF;rw [if_pos hq];show (match f (tk ts k).text with | some a=>Out.ok a (k+1) | none=>Out.bad k 7)=_;rw [h]
theorem wordF_kind {α:Type} {f:List UInt8->Option α} (hq:kindAt ts k≠2):wordF ts f k = .bad k 3:=by
  unfold wordF;rw [if_neg hq]
set_option maxRecDepth 100000 in
theorem register_any (h:Rd w gR gp cap ts k):Calls Tryz.prog 232 #[.pointer (some ⟨gR,0,none⟩)] w (Done gR gp cap ts byteV (regF ts k) w):=by
  have HO:=Lib.hid (of_any h 2)
  have HG:=Lib.hid (fun W=>registerOf_any (tk ts k) W)
  have HM:=Lib.hid (fun e=>h.good.more k h.lt e)
  clear h
  go_enter Tryz.func232,Tryz.ntmps232
  go_wp2_with fail
  refine HO.out.mono ?_
  rintro e w1 ⟨hk,hp⟩
  have HK:=Lib.hid hk
  rcases hp with ⟨hq,rfl,hr⟩ | ⟨hq,rfl⟩
  · have HR1:=Lib.hid (hr (HM.out (by rw [hq];decide)))
    have HQ:=Lib.hid hq
    clear hk hq hr
    go_wp2_with fail
    refine (HG.out _).mono ?_
    rintro e w2 ⟨hb,hm⟩
    have HB:=Lib.hid hb
    clear hb
    cases hx:regOf (tk ts k).text with
    | some a =>
      rw [hx] at hm
      simp only at hm
      subst hm
      have HX:=Lib.hid (show regF ts k = .ok a (k+1) from wordF_some HQ.out hx)
      clear hx
      go_wp2_with fail
      go_ret
      rw [HX.out]
      exact ⟨HK.out.trans (Keeps.of_below HB.out),rfl,HR1.out.below HB.out⟩
    | none =>
      rw [hx] at hm
      simp only at hm
      subst hm
      have HX:=Lib.hid (show regF ts k = .bad k 7 from wordF_none HQ.out hx)
      clear hx
      go_wp2_with fail
      rw [HX.out]
      exact ⟨rfl,HK.out.trans (Keeps.of_below HB.out),rfl⟩
  · have HF:Hid (regF ts k = .bad k 3):=Lib.hid (wordF_kind hq)
    clear hk hq
    go_wp2_with fail
    rw [HF.out]
    exact ⟨rfl,HK.out,rfl⟩
set_option maxRecDepth 100000 in
theorem location_any (h:Rd w gR gp cap ts k):Calls Tryz.prog 227 #[.pointer (some ⟨gR,0,none⟩)] w (Done gR gp cap ts byteV (locF ts k) w):=by
  have HO:=Lib.hid (of_any h 2)
  have HP:=Lib.hid (fun W=>throw_any (tk ts k) 7 W)
  have HM:=Lib.hid (fun e=>h.good.more k h.lt e)
  clear h
  go_enter Tryz.func227,Tryz.ntmps227
  go_wp2_with fail
  refine HO.out.mono ?_
  rintro e w1 ⟨hk,hp⟩
  have HK:=Lib.hid hk
  rcases hp with ⟨hq,rfl,hr⟩ | ⟨hq,rfl⟩
  · have HR1:=Lib.hid (hr (HM.out (by rw [hq];decide)))
    have HQ:=Lib.hid hq
    have hz:=Sits.new w1 278 zeroPc
    have HZ:=Lib.hid hz
    have hkk:=row_keeps (w1.alloc (.cells zeroPc 278)) w1.heap.size (pc (tk ts k))
    have hs:Sits ((w1.alloc (.cells zeroPc 278)).setRow w1.heap.size (pc (tk ts k))) w1.heap.size 278 (pc (tk ts k)):=setRow_heap _ _ _ _ _ _ hz
    have hlow:Below w1.heap.size w1 ((w1.alloc (.cells zeroPc 278)).setRow w1.heap.size (pc (tk ts k))):=behind ((Below.refl _ _).alloc (Nat.le_refl _) _) hkk (by simp) (fun x e=>by rw [e];exact Nat.le_refl _)
    clear hk hq hr hz hkk
    go_upto_region 2 with (refine wpList_store_row rfl 278 _ _ rfl w1.heap.size (pc (tk ts k)) rfl rfl 278 zeroPc HZ.out pcSize rfl (pc_one _) ?_)
    change Code.wp _ _ _ _ ((w1.alloc (.cells zeroPc 278)).setRow w1.heap.size (pc (tk ts k)))
    generalize (w1.alloc (.cells zeroPc 278)).setRow w1.heap.size (pc (tk ts k))=W2 at hs hlow ⊢
    generalize w1.heap.size=g1 at hs ⊢
    have HLW:=Lib.hid hlow
    obtain ⟨s0,s1,s2,s3,s4⟩:=pc_at hs
    have l1:=hs.lt
    clear hlow hs HZ
    unfold pc at HP
    cases hx:locOf (tk ts k).text with
    | some a =>
      have HX:=Lib.hid (show locF ts k = .ok a (k+1) from wordF_some HQ.out hx)
      obtain ⟨c,htx,hc,rfl⟩:=locOf_some hx
      rw [htx] at s1
      have e0:∀ h,(str [c])[0]'h=c:=fun _=>rfl
      have hsz:(str [c]).size=1:=rfl
      have hne:((str [c]).toList == [114])=false:=by
        rw [beq_eq_false_iff_ne];intro h;exact hc (by simpa [str] using h)
      generalize str [c]=x at s1 e0 hsz hne
      clear hx htx hc
      go_wp2_with fail
      go_ret
      rw [HX.out]
      exact ⟨HK.out.trans (Keeps.of_below HLW.out),rfl,HR1.out.below HLW.out⟩
    | none =>
      have HX:=Lib.hid (show locF ts k = .bad k 7 from wordF_none HQ.out hx)
      have hz:(str (tk ts k).text).size=(tk ts k).text.length:=by simp [str,ByteArray.size]
      rcases locOf_none hx with hl | hl
      · have hsz:(((str (tk ts k).text).size:Int) != 1)=true:=by rw [hz,bne_iff_ne];omega
        generalize str (tk ts k).text=x at s1 hsz HP
        clear hx hl hz
        go_wp2_with fail
        refine (HP.out _).mono ?_
        rintro e w3 ⟨rfl,hb⟩
        have HB3:=Lib.hid (HLW.out.trans (hb.mono HLW.out.size))
        clear hb
        go_wp2_with fail
        rw [HX.out]
        exact ⟨rfl,HK.out.trans (Keeps.of_below HB3.out),rfl⟩
      · have hsz:(str (tk ts k).text).size=1:=by rw [hz,hl];rfl
        have hne:((str (tk ts k).text).toList == [114])=true:=by rw [hl,beq_iff_eq];simp [str]
        generalize str (tk ts k).text=x at s1 hsz hne HP
        clear hx hl hz
        go_wp2_with fail
        refine (HP.out _).mono ?_
        rintro e w3 ⟨rfl,hb⟩
        have HB3:=Lib.hid (HLW.out.trans (hb.mono HLW.out.size))
        clear hb
        go_wp2_with fail
        rw [HX.out]
        exact ⟨rfl,HK.out.trans (Keeps.of_below HB3.out),rfl⟩
  · have HF:Hid (locF ts k = .bad k 3):=Lib.hid (wordF_kind hq)
    clear hk hq
    go_wp2_with fail
    rw [HF.out]
    exact ⟨rfl,HK.out,rfl⟩
end
end Go.Proofs.YtagebkachdmnbaaGreatDoor.Prs
end
section
namespace Go.Proofs.YtagebkachdmnbaaGreatDoor.Prs
open Go.RowKit Go.Proofs.YtagebkachdmnbaaGreatDoor.Mem Go.Proofs.YtagebkachdmnbaaGreatDoor.Expr
open Go.Proofs.YtagebkachdmnbaaGreatDoor.Lex (Tok)
def opIs (n:Nat) (s:List UInt8) (i:Nat):Bool:=decide (sides i=n) && decide (sign i=s)
theorem opOf_hit {n j:Nat} {s:List UInt8} (h1:1<=j) (h2:j<=14) (hj:opIs n s j=true) (hb:∀ i,1<=i->i<j->opIs n s i=false):opOf n s=j:=by
  have e:opOf n s=(([1,2,3,4,5,6,7,8,9,10,11,12,13,14]:List Nat).find? (opIs n s)).getD 0:=rfl
  rw [e]
  have hb':∀ i,1<=i->i<j->¬ opIs n s i=true:=fun i a b=>by rw [hb i a b];exact Bool.false_ne_true
  obtain rfl | rfl | rfl | rfl | rfl | rfl | rfl | rfl | rfl | rfl | rfl | rfl | rfl | rfl:j=1 \/ j=2 \/ j=3 \/ j=4 \/ j=5 \/ j=6 \/ j=7 \/ j=8 \/ j=9 \/ j=10 \/ j=11 \/ j=12 \/ j=13 \/ j=14:=by omega
  all_goals
    repeat (first | rw [List.find?_cons_of_pos hj] | rw [List.find?_cons_of_neg (hb' _ (by omega) (by omega))])
    rfl
theorem opOf_miss {n:Nat} {s:List UInt8} (hb:∀ i,1<=i->i<15->opIs n s i=false):opOf n s=0:=by
  have e:opOf n s=(([1,2,3,4,5,6,7,8,9,10,11,12,13,14]:List Nat).find? (opIs n s)).getD 0:=rfl
  rw [e,List.find?_eq_none.2]
  · rfl
  · intro i hi
    rw [hb i (by simp at hi;omega) (by simp at hi;omega)]
    exact Bool.false_ne_true
set_option maxRecDepth 100000 in
set_option maxHeartbeats 1000000 in
theorem operation_any (t:Lex.Tok) (n:Nat) (w:World) (hX:Tabs w):Calls Tryz.prog 260 #[.agg (pc t),.int .i64 (n:Nat)] w fun e w'=>Made (.returned (.int .u8 (opOf n t.text:Nat))) w e w':=by
  have hb:Below w.heap.size w (w.alloc (.cells (pc t) 278)):=(Below.refl _ _).alloc (Nat.le_refl _) _
  have HB:=Lib.hid hb
  have HBX:=Lib.hid (Sits.new w 278 (pc t))
  have HX:=Lib.hid (hX.below hb)
  have HEQ:=Lib.hid (fun i=>str_eq (sign i) t.text)
  clear hX hb
  unfold pc at HBX HB HX ⊢
  generalize str t.text=x at HBX HB HX HEQ ⊢
  go_enter Tryz.func260,Tryz.ntmps260
  go_wp2_with fail
  generalize w.alloc (.cells #[.int .u8 t.kind,.string x,.int .u64 t.num,.int .i64 t.line,.int .i64 t.col] 278)=w1 at HB HBX HX ⊢
  generalize w.heap.size=g at HBX ⊢
  go_loopg [5] 14 (fun gg v5 wx=>∃ j,1<=j/\j<=15/\gg=15 - j/\v5 = .int .u8 (j:Nat)/\Hid (Below w1.heap.size w1 wx)/\Hid (∀ i,1<=i->i<j->opIs n t.text i=false))
  case atStart=>exact ⟨1,by omega,by omega,rfl,rfl,Lib.hid (Below.refl _ _),Lib.hid fun i h1 h2=>by omega⟩
  case round =>
    obtain ⟨j,h1,h15,rfl,rfl,HBj,HF⟩:=hrel
    by_cases hj:j<=14
    · have m1:(j:Int)<=14:=by omega
      have m0:(1:Int)<=(j:Int):=by omega
      have YS:=Lib.hid (fun y:Within (Under wr)=>sides_nat j y.now)
      have YT:=Lib.hid (fun y:Within (Under wr)=>Expr.sign_any j (by omega) y.now ((HX.out.below HBj.out).below y.ok))
      have HXb:=Lib.hid (HBX.out.below HBj.out HBX.out.lt)
      have HE:=Lib.hid (HEQ.out j)
      generalize str (sign j)=y at YT HE
      by_cases hs:sides j=n
      · have es:((sides j:Int) == (n:Int))=true:=by rw [hs];exact beq_iff_eq.2 rfl
        by_cases ht:sign j=t.text
        · have et:(y.toList == x.toList)=true:=by rw [HE.out];exact decide_eq_true ht
          have HO:=Lib.hid (opOf_hit h1 hj (by unfold opIs;rw [decide_eq_true hs,decide_eq_true ht];rfl) HF.out)
          generalize hsd:sides j=sd at es YS
          clear hs ht hsd
          go_wp2_with fail
          have X1:∀ y:Within (Under wr),y.now.cell? ⟨g,1,none⟩=some (.string x):=fun y=>(HXb.out.below y.ok HXb.out.lt).cell 1
          have LT:∀ y:Within (Under wr),g<y.now.heap.size:=fun y=>(HXb.out.below y.ok HXb.out.lt).lt
          have ne:Nonempty (Within (Under wr)):=⟨⟨_,Under.refl wr⟩⟩
          refine wp_region_within (Under wr) (Under.refl wr) (by kernel_rfl) (by kernel_rfl) ?_
          repeat (go_big_quiet_step (first | with_reducible exact under_eq (YS.out _) | with_reducible exact under_eq (YT.out _)))
          refine wpQuiet_nil ?_
          intro w3 hw3
          have hb:Under wr w3:=by obtain ⟨y,rfl⟩:=hw3;exact y.ok
          have HB3:=Lib.hid (HBj.out.trans (hb.mono HBj.out.size))
          clear hw3 hb X1 LT ne
          go_wp2_with fail
          go_ret
          rw [HO.out]
          exact ⟨rfl,HB.out.trans (HB3.out.mono HB.out.size)⟩
        · have et:(y.toList == x.toList)=false:=by rw [HE.out];exact decide_eq_false ht
          have HN:=Lib.hid (show opIs n t.text j=false by unfold opIs;rw [decide_eq_false ht,Bool.and_false])
          generalize hsd:sides j=sd at es YS
          clear hs ht hsd
          go_wp2_with fail
          have X1:∀ y:Within (Under wr),y.now.cell? ⟨g,1,none⟩=some (.string x):=fun y=>(HXb.out.below y.ok HXb.out.lt).cell 1
          have LT:∀ y:Within (Under wr),g<y.now.heap.size:=fun y=>(HXb.out.below y.ok HXb.out.lt).lt
          have ne:Nonempty (Within (Under wr)):=⟨⟨_,Under.refl wr⟩⟩
          refine wp_region_within (Under wr) (Under.refl wr) (by kernel_rfl) (by kernel_rfl) ?_
          repeat (go_big_quiet_step (first | with_reducible exact under_eq (YS.out _) | with_reducible exact under_eq (YT.out _)))
          refine wpQuiet_nil ?_
          intro w3 hw3
          have hb:Under wr w3:=by obtain ⟨y,rfl⟩:=hw3;exact y.ok
          have HB3:=Lib.hid (HBj.out.trans (hb.mono HBj.out.size))
          clear hw3 hb X1 LT ne
          go_wp2_with fail
          go_roundg (15 - (j+1))
          case measure=>omega
          case rel=>exact ⟨j+1,by omega,by omega,rfl,by go_num,HB3,Lib.hid fun i h1 h2=>by
            by_cases e:i<j
            · exact HF.out i h1 e
            · obtain rfl:i=j:=by omega
              exact HN.out⟩
      · have es:((sides j:Int) == (n:Int))=false:=beq_eq_false_iff_ne.2 (fun h=>hs (by omega))
        have HN:=Lib.hid (show opIs n t.text j=false by unfold opIs;rw [decide_eq_false hs,Bool.false_and])
        generalize hsd:sides j=sd at es YS
        clear hs hsd
        go_wp2_with fail
        have X1:∀ y:Within (Under wr),y.now.cell? ⟨g,1,none⟩=some (.string x):=fun y=>(HXb.out.below y.ok HXb.out.lt).cell 1
        have LT:∀ y:Within (Under wr),g<y.now.heap.size:=fun y=>(HXb.out.below y.ok HXb.out.lt).lt
        have ne:Nonempty (Within (Under wr)):=⟨⟨_,Under.refl wr⟩⟩
        refine wp_region_within (Under wr) (Under.refl wr) (by kernel_rfl) (by kernel_rfl) ?_
        repeat (go_big_quiet_step (first | with_reducible exact under_eq (YS.out _) | with_reducible exact under_eq (YT.out _)))
        refine wpQuiet_nil ?_
        intro w3 hw3
        have hb:Under wr w3:=by obtain ⟨y,rfl⟩:=hw3;exact y.ok
        have HB3:=Lib.hid (HBj.out.trans (hb.mono HBj.out.size))
        clear hw3 hb X1 LT ne
        go_wp2_with fail
        go_roundg (15 - (j+1))
        case measure=>omega
        case rel=>exact ⟨j+1,by omega,by omega,rfl,by go_num,HB3,Lib.hid fun i h1 h2=>by
          by_cases e:i<j
          · exact HF.out i h1 e
          · obtain rfl:i=j:=by omega
            exact HN.out⟩
    · obtain rfl:j=15:=by omega
      have HO:=Lib.hid (opOf_miss HF.out)
      go_wp2_with fail
      go_ret
      rw [HO.out]
      exact ⟨rfl,HB.out.trans (HBj.out.mono HB.out.size)⟩
end Go.Proofs.YtagebkachdmnbaaGreatDoor.Prs
end
section
namespace Go.Proofs.YtagebkachdmnbaaGreatDoor.Prs
open Go.RowKit Go.Proofs.YtagebkachdmnbaaGreatDoor.Mem Go.Proofs.YtagebkachdmnbaaGreatDoor.Expr
open Go.Proofs.YtagebkachdmnbaaGreatDoor.Lex (Tok)
theorem field_kind (a b c d e:Value) (w:World):(Instr.field 278 (.agg #[a,b,c,d,e]) 0).run Tryz.prog w = .ok a w:=by kernel_rfl
theorem field_num (a b c d e:Value) (w:World):(Instr.field 278 (.agg #[a,b,c,d,e]) 2).run Tryz.prog w = .ok c w:=by kernel_rfl
def treeV:Ex->Ending->World->Prop:=fun a e w=>∃ p,e = .returned (.pointer p)/\Tree w (treeOf a) (.pointer p)
def leafCells (it:It):Array Value:=exprCells it (.pointer none) (.pointer none)
theorem treeV_leaf {a:Ex} (he:a.isLeaf=true) (w:World) (c:Array Value) (h:c=leafCells (leafIt a)):treeV a (.returned (.pointer (some ⟨w.heap.size,0,none⟩))) (w.alloc (.cells c 204)) :=
  ⟨_,rfl,by rw [(leaf_tree he).1,h];exact ⟨w.heap.size,.pointer none,.pointer none,rfl,Sits.new _ _ _,rfl,rfl⟩⟩
section
variable {w : World} {gR gp cap : Nat} {ts : List Lex.Tok} {k : Nat}
theorem leaf_num {ask:Bool} (hq:kindAt ts k=1) (ha:ask=true->ltrs ts (k+1) ≠ [58]):leafF ts ask k = .ok (.num (numAt ts k)) (k+1):=by
  unfold leafF
  cases ask with
  | false=>simp [hq]
  | true=>simp [hq,ha rfl]
theorem leaf_reg (hq:kindAt ts k≠1):leafF ts false k=(regF ts k).map .reg:=by simp [leafF,hq]
theorem leaf_loc (hq:kindAt ts k≠1):leafF ts true k=(locF ts k).map .loc:=by simp [leafF,hq]
theorem leaf_far (hq:kindAt ts k=1) (ha:ltrs ts (k+1)=[58]) (hn:¬ numAt ts k<4):leafF ts true k = .bad k 7:=by simp [leafF,hq,ha,hn]
theorem leaf_of (hq:kindAt ts k=1) (ha:ltrs ts (k+1)=[58]) (hn:numAt ts k<4):leafF ts true k=(regF ts (k+2)).map (.of (numAt ts k)):=by simp [leafF,hq,ha,hn]
theorem kind_eq {t:Nat} (q:Nat):((t:Int) == (q:Int))=decide (t=q):=by
  rw [Bool.eq_iff_iff,beq_iff_eq,decide_eq_true_eq];omega
set_option maxRecDepth 100000 in
set_option maxHeartbeats 1000000 in
theorem known_any (h:Rd w gR gp cap ts k):Calls Tryz.prog 282 #[.pointer (some ⟨gR,0,none⟩)] w (Done gR gp cap ts treeV (leafF ts false k) w):=by
  have hfk:=field_kind
  have hfn:=field_num
  have HN:=Lib.hid (next_any h)
  have HT:=Lib.hid (fun W (hb:Below w.heap.size w W)=>take_any (h.below hb))
  have HG:=Lib.hid (fun W (hb:Below w.heap.size w W)=>register_any (h.below hb))
  have HM:=Lib.hid (fun e=>h.good.more k h.lt e)
  have HE:=kind_eq (t:=kindAt ts k) 1
  change Hid (Calls _ _ _ _ fun e w'=>Made (.returned (.agg #[.int .u8 (kindAt ts k:Nat),.string (str (ltrs ts k)),.int .u64 (numAt ts k:Nat),.int .i64 (tk ts k).line,.int .i64 (tk ts k).col])) w e w') at HN
  clear h
  generalize str (ltrs ts k)=x at HN
  go_enter Tryz.func282,Tryz.ntmps282
  by_cases hq:kindAt ts k=1
  · rw [decide_eq_true hq] at HE
    have HL:=Lib.hid (leaf_num (ts:=ts) (ask:=false) hq (fun h=>by cases h))
    have HK1:=Lib.hid (HM.out (by omega))
    clear hq
    go_wp2_with fail
    refine HN.out.mono ?_
    rintro e w1 ⟨rfl,hb⟩
    have HB:=Lib.hid hb
    clear hb
    go_wp2_with fail
    refine (HT.out _ HB.out).mono ?_
    rintro e w2 ⟨rfl,hk,hr⟩
    have HK:=Lib.hid (show Keeps (fun x=>x=gR) w w2 from (Keeps.of_below HB.out).trans hk)
    have HR:=Lib.hid (hr HK1.out)
    clear hk hr
    unfold pc
    go_wp2_with fail
    go_ret
    rw [HL.out]
    have ha:Below w2.heap.size w2 (w2.alloc (.cells (leafCells (leafIt (.num (numAt ts k)))) 204)):=(Below.refl _ _).alloc (Nat.le_refl _) _
    exact ⟨HK.out.trans (Keeps.of_below ha),treeV_leaf (a:=.num (numAt ts k)) rfl w2 _ rfl,HR.out.below ha⟩
  · rw [decide_eq_false hq] at HE
    have HL:=Lib.hid (leaf_reg (ts:=ts) hq)
    clear hq
    go_wp2_with fail
    refine HN.out.mono ?_
    rintro e w1 ⟨rfl,hb⟩
    have HB:=Lib.hid hb
    clear hb
    go_wp2_with fail
    refine (HG.out _ HB.out).mono ?_
    rintro e w2 ⟨hk,hp⟩
    have HK:=Lib.hid (show Keeps (fun x=>x=gR) w w2 from (Keeps.of_below HB.out).trans hk)
    clear hk
    cases ho:regF ts k with
    | ok a k2 =>
      rw [ho] at hp HL
      obtain ⟨hv,hr⟩:=hp
      simp only [byteV] at hv
      subst hv
      have HR:=Lib.hid hr
      clear hr ho
      go_wp2_with fail
      go_ret
      rw [HL.out]
      have ha:Below w2.heap.size w2 (w2.alloc (.cells (leafCells (leafIt (.reg a))) 204)):=(Below.refl _ _).alloc (Nat.le_refl _) _
      exact ⟨HK.out.trans (Keeps.of_below ha),treeV_leaf (a:=.reg a) rfl w2 _ rfl,HR.out.below ha⟩
    | bad j er =>
      rw [ho] at hp HL
      simp only at hp
      subst hp
      clear ho
      go_wp2_with fail
      rw [HL.out]
      exact ⟨rfl,HK.out,rfl⟩
def gotV (gR gp cap:Nat) (ts:List Lex.Tok) (k:Nat):Value->World->Prop:=fun u W=>∃ a k3,regF ts k = .ok a k3/\u = .int .u8 (a:Nat)/\Rd W gR gp cap ts k3
def aggV (ts:List Lex.Tok) (k n:Nat):Value->World->Prop:=fun u _=>∃ a k3,regF ts k = .ok a k3/\u = .agg (leafCells (leafIt (.of n a)))
def boxV (ts:List Lex.Tok) (k n gR:Nat):Value->World->Prop:=fun u W=>∃ a k3,regF ts k = .ok a k3/\∃ g,u = .pointer (some ⟨g,0,none⟩)/\g≠gR/\Sits W g 204 (leafCells (leafIt (.of n a)))
def badV (gR:Nat) (ts:List Lex.Tok) (k:Nat) (w:World):List PanicEntry->World->Prop:=fun c W=>∃ j er,regF ts k = .bad j er/\c=flt (tk ts j) er/\Keeps (fun x=>x=gR) w W
theorem u8_small {n:Nat} (h:n<256):IntKind.wrap .u8 (n:Int)=n:=by show (n:Int) % 256=n;omega
set_option maxRecDepth 100000 in
set_option maxHeartbeats 1000000 in
theorem asked_any (h:Rd w gR gp cap ts k):Calls Tryz.prog 183 #[.pointer (some ⟨gR,0,none⟩)] w (Done gR gp cap ts treeV (leafF ts true k) w):=by
  have hfk:=field_kind
  have HN:=Lib.hid (next_any h)
  have HT:=Lib.hid (fun W (hb:Below w.heap.size w W)=>take_any (h.below hb))
  have HG:=Lib.hid (fun W (hb:Below w.heap.size w W)=>location_any (h.below hb))
  have HM:=Lib.hid (fun e=>h.good.more k h.lt e)
  have HGR:=Lib.hid (show gR<w.heap.size from h.box.lt)
  have HU:=Lib.hid (h.good.num k)
  have HE:((kindAt ts k:Int) != (1:Int)) = !decide (kindAt ts k=1):=congrArg Bool.not (kind_eq (t:=kindAt ts k) 1)
  change Hid (Calls _ _ _ _ fun e w'=>Made (.returned (.agg #[.int .u8 (kindAt ts k:Nat),.string (str (ltrs ts k)),.int .u64 (numAt ts k:Nat),.int .i64 (tk ts k).line,.int .i64 (tk ts k).col])) w e w') at HN
  clear h
  generalize str (ltrs ts k)=x at HN
  go_enter Tryz.func183,Tryz.ntmps183
  by_cases hq:kindAt ts k=1
  · rw [decide_eq_true hq] at HE
    have HK1:=Lib.hid (HM.out (by omega))
    have HQ:=Lib.hid hq
    clear hq
    go_wp2_with fail
    refine HN.out.mono ?_
    rintro e w1 ⟨rfl,hb⟩
    have HB:=Lib.hid hb
    clear hb
    go_wp2_with fail
    refine (HT.out _ HB.out).mono ?_
    rintro e w2 ⟨rfl,hk,hr⟩
    have HK:=Lib.hid (show Keeps (fun x=>x=gR) w w2 from (Keeps.of_below HB.out).trans hk)
    have hR2:=hr HK1.out
    have hz:=Sits.new w2 278 zeroPc
    have HZ:=Lib.hid hz
    have hkk:=row_keeps (w2.alloc (.cells zeroPc 278)) w2.heap.size (pc (tk ts k))
    have hs:Sits ((w2.alloc (.cells zeroPc 278)).setRow w2.heap.size (pc (tk ts k))) w2.heap.size 278 (pc (tk ts k)):=setRow_heap _ _ _ _ _ _ hz
    have hlow:Below w2.heap.size w2 ((w2.alloc (.cells zeroPc 278)).setRow w2.heap.size (pc (tk ts k))):=behind ((Below.refl _ _).alloc (Nat.le_refl _) _) hkk (by simp) (fun x e=>by rw [e];exact Nat.le_refl _)
    have HR:=Lib.hid (hR2.below hlow)
    have HH:=Lib.hid (has_any (hR2.below hlow) [58] (by simp))
    have HNE:=Lib.hid (show gR≠w2.heap.size by have:=HK.out.size;have:=HGR.out;omega)
    clear hk hr hR2 hz hkk
    go_upto_region 4 with (refine wpList_store_row rfl 278 _ _ rfl w2.heap.size (pc (tk ts k)) rfl rfl 278 zeroPc HZ.out pcSize rfl (pc_one _) ?_)
    change Code.wp _ _ _ _ ((w2.alloc (.cells zeroPc 278)).setRow w2.heap.size (pc (tk ts k)))
    have HK3:=Lib.hid (HK.out.trans (Keeps.of_below hlow))
    generalize (w2.alloc (.cells zeroPc 278)).setRow w2.heap.size (pc (tk ts k))=W3 at hs hlow HR HH HK3 ⊢
    generalize w2.heap.size=g0 at hs HNE ⊢
    have HS:=Lib.hid hs
    clear hs hlow HZ HK HN HT HG
    go_wp2_with fail
    refine HH.out.mono ?_
    intro e w4 hp
    rcases hp with ⟨hc,rfl,hk,hr⟩ | ⟨hc,rfl,hb⟩
    · have HC:=Lib.hid hc
      have HR4:=Lib.hid hr
      have HK4:=Lib.hid (HK3.out.trans hk)
      have HS4:=Lib.hid (HS.out.keep hk HNE.out.symm)
      clear hc hr hk HR HH
      obtain ⟨z0,z1,z2,z3,z4⟩:=pc_at HS4.out
      have lz:=HS4.out.lt
      by_cases hn:numAt ts k<4
      · have hn1:¬ (4:Int)<=((tk ts k).num:Int):=by have:(tk ts k).num<4:=hn;omega
        have HL:=Lib.hid (leaf_of HQ.out HC.out hn)
        have HU8:=Lib.hid (u8_small (show (tk ts k).num<256 by have:(tk ts k).num<4:=hn;omega))
        have HRG:=Lib.hid (fun W (hb:Below w4.heap.size w4 W)=>register_any (HR4.out.below hb))
        have mK:∀ x,Flow.MonoR (Keeps (fun y=>y=gR)) (Flow.eqV x):=fun x=>Flow.eqV_monoR x
        clear hn
        go_wp2_with fail
        refine Flow.wp_flowB Flow.rel_below (Flow.rel_keeps (fun x=>x=gR)) (fun x y h=>Keeps.of_below h) [26,27,28,29,30,31,32]
          [Flow.eqV (.pointer (some ⟨g0,2,none⟩)),Flow.eqV (.int .u64 (tk ts k).num),Flow.eqV (.int .u8 (tk ts k).num),Flow.eqV (.pointer (some ⟨gR,0,none⟩)),gotV gR gp cap ts (k+2),aggV ts (k+2) (numAt ts k),boxV ts (k+2) (numAt ts k) gR] 4
          (badV gR ts (k+2) w) (by decide) (by kernel_rfl) (by kernel_rfl) (by kernel_rfl) (by kernel_rfl) (by rfl) ?_ ?_ ?_ ?_ ?_ ?_
        · simp only [List.mem_cons,List.not_mem_nil,or_false,forall_eq_or_imp,forall_eq]
          refine ⟨Flow.eqV_monoR _,Flow.eqV_monoR _,Flow.eqV_monoR _,Flow.eqV_monoR _,?_,?_,?_⟩
          · rintro u W W' ⟨a,k3,h1,h2,h3⟩ hb
            exact ⟨a,k3,h1,h2,h3.below hb⟩
          · rintro u W W' h hb
            exact h
          · rintro u W W' ⟨a,k3,h1,g,h2,h3,h4⟩ hb
            exact ⟨a,k3,h1,g,h2,h3,h4.below hb h4.lt⟩
        · intro i hi
          match i,hi with
          | 0,_=>exact mK _
          | 1,_=>exact mK _
          | 2,_=>exact mK _
          | 3,_=>exact mK _
          | 5,_=>exact fun u W W' h _=>h
          | 6,_=>exact fun u W W' ⟨a,k3,h1,g,h2,h3,h4⟩ hk=>⟨a,k3,h1,g,h2,h3,h4.keep hk h3⟩
          | n+7,_=>exact fun u W W' _ _=>trivial
        · intro i o' hi hia ho A W hW hk he
          have hBX:=HS4.out.keep hW HNE.out.symm
          simp only [List.length_cons,List.length_nil,Nat.zero_add,Nat.reduceAdd] at hi
          obtain rfl | rfl | rfl | rfl | rfl | rfl:i=0 \/ i=1 \/ i=2 \/ i=3 \/ i=5 \/ i=6:=by omega
          · injection ho with ho;subst ho
            have t3:A.tmps[3]?.getD undef = .pointer (some ⟨g0,0,none⟩):=hk 3 (by rfl)
            refine .inl ⟨by kernel_rfl,?_⟩
            go_simp
            exact ⟨rfl,Below.refl _ _⟩
          · injection ho with ho;subst ho
            have s26:A.tmps[26]?.getD undef = .pointer (some ⟨g0,2,none⟩):=he 0 (by decide) (by kernel_rfl)
            have cc:=hBX.cell 2
            unfold pc at cc
            refine .inl ⟨by kernel_rfl,?_⟩
            go_simp
            exact ⟨rfl,Below.refl _ _⟩
          · injection ho with ho;subst ho
            have s27:A.tmps[27]?.getD undef = .int .u64 (tk ts k).num:=he 1 (by decide) (by kernel_rfl)
            refine .inl ⟨by kernel_rfl,?_⟩
            go_simp
            exact ⟨congrArg (Value.int .u8) HU8.out,Below.refl _ _⟩
          · injection ho with ho;subst ho
            have t0:A.tmps[0]?.getD undef = .pointer (some ⟨gR,0,none⟩):=hk 0 (by rfl)
            refine .inl ⟨by kernel_rfl,?_⟩
            go_simp
            exact ⟨rfl,Below.refl _ _⟩
          · injection ho with ho;subst ho
            have s28:A.tmps[28]?.getD undef = .int .u8 (tk ts k).num:=he 2 (by decide) (by kernel_rfl)
            have s30:gotV gR gp cap ts (k+2) (A.tmps[30]?.getD undef) W:=he 4 (by decide) (by kernel_rfl)
            obtain ⟨a,k3,h1,s30,_⟩:=s30
            have H1:=Lib.hid h1
            clear h1
            refine .inl ⟨by kernel_rfl,?_⟩
            go_simp
            exact ⟨⟨a,k3,H1.out,rfl⟩,Below.refl _ _⟩
          · injection ho with ho;subst ho
            have s31:aggV ts (k+2) (numAt ts k) (A.tmps[31]?.getD undef) W:=he 5 (by decide) (by kernel_rfl)
            obtain ⟨a,k3,h1,s31⟩:=s31
            have H1:=Lib.hid h1
            have HLG:=Lib.hid (show W.heap.size≠gR by have:=hBX.lt;have:=HGR.out;have:=HK4.out.size;have:=hW.size;omega)
            clear h1
            refine .inl ⟨by kernel_rfl,?_⟩
            unfold leafCells leafIt exprCells at s31
            go_simp
            exact ⟨⟨a,k3,H1.out,W.heap.size,rfl,HLG.out,Sits.new _ _ _⟩,(Below.refl _ _).alloc (Nat.le_refl _) _⟩
        · intro o' ho A W hW hk he
          injection ho with ho;subst ho
          have s29:A.tmps[29]?.getD undef = .pointer (some ⟨gR,0,none⟩):=he 3 (by decide) (by kernel_rfl)
          refine ⟨by kernel_rfl,?_⟩
          have HC1:=Lib.hid (HRG.out W hW)
          go_simp
          refine HC1.out.mono ?_
          rintro e w5 ⟨hk5,hp5⟩
          cases ho5:regF ts (k+2) with
          | ok a k3 =>
            rw [show k+1+1=k+2 from rfl,ho5] at hp5
            exact .inl ⟨_,hp5.1,⟨a,k3,ho5,rfl,hp5.2⟩,hk5⟩
          | bad j er =>
            rw [show k+1+1=k+2 from rfl,ho5] at hp5
            exact .inr ⟨_,hp5,j,er,ho5,rfl,HK4.out.trans ((Keeps.of_below hW).trans hk5)⟩
        · rintro c A W hdf ⟨j,er,h1,h2,h3⟩
          refine ⟨hdf,?_⟩
          rw [HL.out,h1]
          subst h2
          exact ⟨h3,rfl⟩
        · intro xs W hW hv
          have x0:xs 0 = .pointer (some ⟨g0,2,none⟩):=hv 0 (by decide)
          have x4:=hv 4 (by decide)
          have x6:=hv 6 (by decide)
          obtain ⟨a,k3,h1,h2,h3⟩:=x4
          obtain ⟨a',k3',h1',g,hg,hgR,hS⟩:=x6
          obtain ⟨rfl,rfl⟩:a=a' /\ k3=k3':=by rw [h1] at h1';injection h1' with e1 e2;exact ⟨e1,e2⟩
          generalize hx6:xs 6=u6 at hg
          have H1:=Lib.hid h1
          have H3:=Lib.hid h3
          have HS6:=Lib.hid hS
          have HGG:=Lib.hid hgR
          clear h1 h1' h3 hS hgR h2 hv
          subst hg
          have HD:=Lib.hid (show Done gR gp cap ts treeV (leafF ts true k) w (.returned (.pointer (some ⟨g,0,none⟩))) W by
            rw [HL.out,H1.out]
            exact ⟨HK4.out.trans hW,⟨_,rfl,by rw [(leaf_tree (e:=.of (numAt ts k) a) rfl).1];exact ⟨g,.pointer none,.pointer none,rfl,HS6.out,rfl,rfl⟩⟩,H3.out⟩)
          clear x0 hW HS HS4 HR4 HK4 HRG HL z0 z1 z2 z3 z4 lz
          simp only [Flow.putL,hx6]
          go_wp2_with fail
          go_ret
          exact HD.out
      · have hn1:(4:Int)<=((tk ts k).num:Int):=by have:¬ (tk ts k).num<4:=hn;omega
        have HL:=Lib.hid (leaf_far HQ.out HC.out hn)
        have HP:=Lib.hid (fun W=>throw_any (tk ts k) 7 W)
        unfold pc at HP
        clear hn
        go_wp2_with fail
        refine (HP.out _).mono ?_
        rintro e w3 ⟨rfl,hb⟩
        have HB3:=Lib.hid hb
        clear hb
        go_wp2_with fail
        rw [HL.out]
        exact ⟨rfl,HK4.out.trans (Keeps.of_below HB3.out),rfl⟩
    · have HL:=Lib.hid (leaf_num (ts:=ts) (ask:=true) HQ.out (fun _=>hc))
      have HR4:=Lib.hid (HR.out.below hb)
      have HK4:=Lib.hid (HK3.out.trans (Keeps.of_below hb))
      have hs4:=HS.out.below hb HS.out.lt
      obtain ⟨z0,z1,z2,z3,z4⟩:=pc_at hs4
      have lz:=hs4.lt
      clear hc hb hs4 HR HH
      go_wp2_with fail
      go_ret
      rw [HL.out]
      have ha:Below w4.heap.size w4 (w4.alloc (.cells (leafCells (leafIt (.num (numAt ts k)))) 204)):=(Below.refl _ _).alloc (Nat.le_refl _) _
      exact ⟨HK4.out.trans (Keeps.of_below ha),treeV_leaf (a:=.num (numAt ts k)) rfl w4 _ rfl,HR4.out.below ha⟩
  · rw [decide_eq_false hq] at HE
    have HL:=Lib.hid (leaf_loc (ts:=ts) hq)
    clear hq
    go_wp2_with fail
    refine HN.out.mono ?_
    rintro e w1 ⟨rfl,hb⟩
    have HB:=Lib.hid hb
    clear hb
    go_wp2_with fail
    refine (HG.out _ HB.out).mono ?_
    rintro e w2 ⟨hk,hp⟩
    have HK:=Lib.hid (show Keeps (fun x=>x=gR) w w2 from (Keeps.of_below HB.out).trans hk)
    clear hk
    cases ho:locF ts k with
    | ok a k2 =>
      rw [ho] at hp HL
      obtain ⟨hv,hr⟩:=hp
      simp only [byteV] at hv
      subst hv
      have HR:=Lib.hid hr
      clear hr ho
      go_wp2_with fail
      go_ret
      rw [HL.out]
      have ha:Below w2.heap.size w2 (w2.alloc (.cells (leafCells (leafIt (.loc a))) 204)):=(Below.refl _ _).alloc (Nat.le_refl _) _
      exact ⟨HK.out.trans (Keeps.of_below ha),treeV_leaf (a:=.loc a) rfl w2 _ rfl,HR.out.below ha⟩
    | bad j er =>
      rw [ho] at hp HL
      simp only at hp
      subst hp
      clear ho
      go_wp2_with fail
      rw [HL.out]
      exact ⟨rfl,HK.out,rfl⟩
end
end Go.Proofs.YtagebkachdmnbaaGreatDoor.Prs
end
