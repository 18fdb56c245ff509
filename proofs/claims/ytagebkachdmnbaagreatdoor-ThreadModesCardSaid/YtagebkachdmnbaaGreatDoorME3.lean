/- Part 44 of the proof: what is used of the texts ThrH, ThrI, ThrJ. -/
import Derived.Test.YtagebkachdmnbaaGreatDoorME1
import Derived.Test.YtagebkachdmnbaaGreatDoorME2
import Derived.Test.YtagebkachdmnbaaGreatDoorMD4
import Derived.KernelRfl
section
namespace Go.Proofs.YtagebkachdmnbaaGreatDoor.Thr
open Go.RowKit Go.Shelf Go.Proofs.YtagebkachdmnbaaGreatDoor.Mem Go.Proofs.YtagebkachdmnbaaGreatDoor.Expr Go.Proofs.YtagebkachdmnbaaGreatDoor.Prog Go.Proofs.YtagebkachdmnbaaGreatDoor.Row Go.Proofs.YtagebkachdmnbaaGreatDoor.Unr Go.Lib
theorem mayWrite_enters:Go.Proofs.YtagebkachdmnbaaGreatDoor.Expr.Enters 50:=enters_of Tryz.func50 (by kernel_rfl) rfl
theorem update_enters:Go.Proofs.YtagebkachdmnbaaGreatDoor.Expr.Enters 27:=enters_of Tryz.func27 (by kernel_rfl) rfl
def mostW (code:List In) (i:Int):Nat:=mostF wrK code i
def mostU (code:List In) (i:Int):Nat:=mostF updK code i
set_option maxRecDepth 100000 in
theorem Most_any (code:List In) (hl:code.length<=32) (r:Option Addr) (d:Nat) (hd:code.length<=d) (b i:Int) (w:World) (hC:CodV w r code) :
    Calls Tryz.prog 18 #[thV r code.length d b,.int .i64 i] w (Made (.returned (.int .i64 (mostW code i:Nat))) w):=by
  have HB0:Hid (Below w.heap.size w (w.alloc (.cells #[.slice r code.length d,.int .i64 b] 44))):=Lib.hid (one_low _ _)
  have HM:Hid (Calls Tryz.prog 49 #[thV r code.length d b,.int .i64 i,.func (.func 50) #[] #[]] (w.alloc (.cells #[.slice r code.length d,.int .i64 b] 44)) (Made (.returned (.int .i64 (mostW code i:Nat))) (w.alloc (.cells #[.slice r code.length d,.int .i64 b] 44)))):=Lib.hid (most_any wrK _ mayWrite_enters (fun k W=>mayWrite_any ⟨k,0,0,0,0⟩ W) code hl r d hd b i _ (hC.below HB0.out))
  clear hC hl hd
  generalize mostW code i=z at HM ⊢
  generalize code.length=n at HB0 HM ⊢
  go_enter Tryz.func18,Tryz.ntmps18
  go_wp2_with fail
  refine HM.out.mono ?_
  rintro e W1 ⟨rfl,hb⟩
  have HB1:=Lib.hid (HB0.out.trans (hb.mono HB0.out.size))
  clear hb
  go_wp2_with fail
  go_ret
  exact ⟨rfl,HB1.out⟩
set_option maxRecDepth 100000 in
theorem Updates_any (code:List In) (hl:code.length<=32) (r:Option Addr) (d:Nat) (hd:code.length<=d) (b i:Int) (w:World) (hC:CodV w r code) :
    Calls Tryz.prog 19 #[thV r code.length d b,.int .i64 i] w (Made (.returned (.bool (decide (0<mostU code i)))) w):=by
  have HB0:Hid (Below w.heap.size w (w.alloc (.cells #[.slice r code.length d,.int .i64 b] 44))):=Lib.hid (one_low _ _)
  have HM:Hid (Calls Tryz.prog 49 #[thV r code.length d b,.int .i64 i,.func (.func 27) #[] #[]] (w.alloc (.cells #[.slice r code.length d,.int .i64 b] 44)) (Made (.returned (.int .i64 (mostU code i:Nat))) (w.alloc (.cells #[.slice r code.length d,.int .i64 b] 44)))):=Lib.hid (most_any updK _ update_enters (fun k W=>update_any ⟨k,0,0,0,0⟩ W) code hl r d hd b i _ (hC.below HB0.out))
  clear hC hl hd
  generalize mostU code i=z at HM ⊢
  generalize code.length=n at HB0 HM ⊢
  go_enter Tryz.func19,Tryz.ntmps19
  go_wp2_with fail
  refine HM.out.mono ?_
  rintro e W1 ⟨rfl,hb⟩
  have HB1:=Lib.hid (HB0.out.trans (hb.mono HB0.out.size))
  have hz:decide ((0:Int)<(z:Int))=decide (0<z):=by simp
  clear hb
  go_wp2_with fail
  go_ret
  exact ⟨by simp,HB1.out⟩
end Go.Proofs.YtagebkachdmnbaaGreatDoor.Thr
end
section
namespace Go.Proofs.YtagebkachdmnbaaGreatDoor.Thr
open Go.RowKit Go.Shelf Go.Proofs.YtagebkachdmnbaaGreatDoor.Mem Go.Proofs.YtagebkachdmnbaaGreatDoor.Expr Go.Proofs.YtagebkachdmnbaaGreatDoor.Prog Go.Proofs.YtagebkachdmnbaaGreatDoor.Prs Go.Proofs.YtagebkachdmnbaaGreatDoor.Chk Go.Proofs.YtagebkachdmnbaaGreatDoor.Row Go.Proofs.YtagebkachdmnbaaGreatDoor.Unr Go.Lib
noncomputable def madeF (s:List UInt8) (k:Int):Option Ts:=match parseAll s with
  | .ok t=>if unrollE t k=0 then some t else none
  | .err _ _ _=>none
def GivesM (s:List UInt8) (k:Int) (w:World) (e:Ending) (w':World):Prop :=
  Below w.heap.size w w' /\ match madeF s k with
    | none=>∃ p n c st q n2 c2 al va,e = .returned (.tuple #[.agg #[.slice p n c,.string st,.slice q n2 c2,.bool al,.pointer va],.bool false])
    | some t=>∃ ths vth vst va,unrollT t k=some ths/\e = .returned (.tuple #[.agg #[vth,.string (str (checkL t)),vst,.bool t.all,.pointer va],.bool true])/\ThsV w' vth ths/\URow w' vst (startsU t)
theorem result_pb {fn:Func} {p q:Tmp} (h:fn.results=#[.cell p 33,.tmp q]) {T:Array Value} {W:World} {g:Nat} {cs:Array Value} {b:Bool} (hz:cs.size=5) (hp:T.getD p undef = .pointer (some ⟨g,0,none⟩)) (hq:T.getD q undef = .bool b) (hs:Sits W g 33 cs) :
    (results fn T).run Tryz.prog W = .ok (.tuple #[.agg cs,.bool b]) W:=by
  have hl:=run_loadVar_row (P:=Tryz.prog) W g 33 33 cs (0,0) _ hs Tryz.underlying33 rfl (by rw [hz];exact pgSize)
  have hp':T[p]?.getD undef = .pointer (some ⟨g,0,none⟩):=by simpa using hp
  have hq':T[q]?.getD undef = .bool b:=by simpa using hq
  simp [results,h,hp',hq',asAddr,hl]
def zeroTs:Ts:=⟨[],[],false,none⟩
theorem zeroTs_small:zeroTs.small:=⟨by decide,fun i hi=>by simp [zeroTs] at hi,by decide,fun b hb=>by simp [zeroTs] at hb,trivial⟩
theorem zeroTs_not (k:Int):unrollE zeroTs k≠0:=by
  have h:checkE zeroTs≠0:=by decide
  unfold unrollE;rw [if_pos h];exact h
theorem zeroTs_at (w:World):TestV w zeroTs (.slice none 0 0) (.slice none 0 0) (.pointer none) :=
  ⟨.inl ⟨rfl,none,0,rfl⟩,⟨[],.inl ⟨rfl,none,0,rfl⟩,rfl,fun i b u h=>by simp [zeroTs] at h⟩,rfl⟩
theorem parse_made (s:ByteArray) (w:World) (hs:s.size<=9223372036854775807) (hX:AllK w):Calls Tryz.prog 55 #[.string s] w fun e w'=>Below w.heap.size w w' /\
    ∃ t pi ci pt ct pa,∃ l c er:Nat,t.small/\e = .returned (.tuple #[.agg #[.slice pi t.init.length ci,.slice pt t.threads.length ct,.bool t.all,.pointer pa],.agg #[.int .i64 l,.int .i64 c],.int .i64 er]) /\
      TestV w' t (.slice pi t.init.length ci) (.slice pt t.threads.length ct) (.pointer pa)/\∀ k,madeF s.data.toList k=if er=0/\unrollE t k=0 then some t else none:=by
  refine (parse_any s w hs hX.1).mono fun e w' hm=>?_
  cases hp:parseAll s.data.toList with
  | ok t =>
    rw [hp] at hm
    obtain ⟨hb,vi,vt,pa,he,hv⟩:=hm
    obtain ⟨pi,ci,rfl⟩:=hv.init.len
    obtain ⟨pt,ct,rfl⟩:=hv.threads.len
    refine ⟨hb,t,pi,ci,pt,ct,pa,0,0,0,read_small (read_of hp),he,hv,fun k=>?_⟩
    unfold madeF;rw [hp]
    show (if unrollE t k=0 then some t else none)=_
    by_cases h:unrollE t k=0
    · rw [if_pos h,if_pos ⟨rfl,h⟩]
    · rw [if_neg h,if_neg (fun h'=>h h'.2)]
  | err l c er =>
    rw [hp] at hm
    obtain ⟨hb,he⟩:=hm
    refine ⟨hb,zeroTs,none,0,none,0,none,l,c,er,zeroTs_small,he,zeroTs_at _,fun k=>?_⟩
    unfold madeF;rw [hp,if_neg (fun h=>zeroTs_not k h.2)]
theorem thsV_row {W:World} {g:Nat} {v:Value} {l:List Tc} (h:ThsV W v l) (hs:Sits W g 33 zeroPg) (cs':Array Value):ThsV (W.setRow g cs') v l:=by
  obtain ⟨r,d,cs,rfl,hl,ht⟩:=h
  refine ⟨r,d,cs,rfl,fun j u hu=>?_,ht.keep (X:=fun x=>x=g) (keeps_row (fun x=>x=g) rfl cs') (fun k cs _ hk e=>(hk.differ hs (by decide)) e) (stable_row hs (by decide) cs')⟩
  obtain ⟨g',o,e,hlt,hc⟩:=hl j u hu
  have hne:g' ≠ g:=fun eg=>by
    subst eg
    cases l with
    | nil=>rw [show cs=[] from ht] at hu;simp at hu
    | cons x l =>
      obtain ⟨r',d',css,cr,ec,_⟩:=ht
      obtain ⟨g2,o2,e2,_,hc2⟩:=hl 1 (.int .i64 x.2) (by rw [ec];rfl)
      rw [e] at e2
      injection e2 with e2;injection e2 with e3 e4;subst e3 e4
      rw [hs.cell] at hc2
      have h5:=(Array.getElem?_eq_some_iff.1 hc2).1
      have h5:o+1<5:=h5
      obtain rfl | rfl | rfl | rfl:o=0 \/ o=1 \/ o=2 \/ o=3:=by omega
      all_goals simp at hc2
  exact ⟨g',o,e,by simpa [World.setRow] using hlt,(World.cell?_of_block (a:=⟨g',o+j,none⟩) (setRow_other W g g' cs' hne)).trans hc⟩
theorem urow_row {W:World} {g:Nat} {r:Option Addr} {n d:Nat} {u:List Nat} (h:URow W (.slice r n d) u) (hs:Sits W g 33 zeroPg) (cs':Array Value):URow (W.setRow g cs') (.slice r n d) u:=by
  have h2:=urow_ne h hs
  have hl:n=u.length/\u.length<=1000000:=by
    rcases h with ⟨e,p,cap,hv⟩ | ⟨g,o,cap,hv,hm,_⟩
    · rw [e];injection hv with _ hn _;exact ⟨hn,by simp⟩
    · injection hv with _ hn _;exact ⟨hn,hm⟩
  exact urow_keep (g8:=g) (Wt:=W) h2 (keeps_row (fun x=>x=g \/ W.heap.size<=x) (.inl rfl) _) hl.1 hl.2
set_option maxRecDepth 100000 in
set_option maxHeartbeats 4000000 in
theorem made_any (s:ByteArray) (k:Int) (w:World) (hs:s.size<=9223372036854775807) (hX:AllK w):Calls Tryz.prog 28 #[.string s,.int .i64 k] w (GivesM s.data.toList k w):=by
  have HX:=Lib.hid hX
  have HP:=Lib.hid (fun W (h:Below w.heap.size w W)=>parse_made s W hs (hX.below h))
  have HB0:=Lib.hid (one_low w (.cells zeroPg 33))
  have HS0:Hid (Sits (w.alloc (.cells zeroPg 33)) w.heap.size 33 zeroPg):=Lib.hid (Sits.new _ _ _)
  have HG:Hid (∀ e w',GivesM s.data.toList k w e w' ↔ (Below w.heap.size w w' /\ match madeF s.data.toList k with
    | none=>∃ p n c st q n2 c2 al va,e = .returned (.tuple #[.agg #[.slice p n c,.string st,.slice q n2 c2,.bool al,.pointer va],.bool false])
    | some t=>∃ ths vth vst va,unrollT t k=some ths/\e = .returned (.tuple #[.agg #[vth,.string (str (checkL t)),vst,.bool t.all,.pointer va],.bool true])/\ThsV w' vth ths/\URow w' vst (startsU t))):=Lib.hid (fun _ _=>Iff.rfl)
  generalize GivesM s.data.toList k w=G at HG ⊢
  clear hX hs
  go_enter Tryz.func28,Tryz.ntmps28
  go_wp2_with fail
  refine (HP.out _ HB0.out).mono ?_
  rintro e w1 ⟨hb,t,pi,ci,pt,ct,pa,l,c,er,ht,rfl,hv,hmf⟩
  have HS1:=Lib.hid (HS0.out.below hb HS0.out.lt)
  have HB1:=Lib.hid (HB0.out.trans (hb.mono HB0.out.size))
  have HT:=Lib.hid ht
  have HMF:=Lib.hid hmf
  have HV:=Lib.hid hv
  clear hb ht hmf hv
  have HU:Hid (∀ W,Below w.heap.size w W->TestV W t (.slice pi t.init.length ci) (.slice pt t.threads.length ct) (.pointer pa)->Calls Tryz.prog 9 #[.agg #[.slice pi t.init.length ci,.slice pt t.threads.length ct,.bool t.all,.pointer pa],.int .i64 k] W (GivesU t k (.pointer pa) W)) :=
    Lib.hid (fun W hb hv=>unroll_any t HT.out k _ _ _ W (HX.out.below hb).2 hv)
  go_upto_region 2 with (fail)
  have HB2:=Lib.hid (two_low w1 (.cells #[.slice pi t.init.length ci,.slice pt t.threads.length ct,.bool t.all,.pointer pa] 40) (.cells #[.int .i64 l,.int .i64 c] 139))
  have HS2:=Lib.hid (HS1.out.below HB2.out HS1.out.lt)
  have HV2:=Lib.hid (HV.out.below HB2.out)
  have HT2:Hid (Sits ((w1.alloc (.cells #[.slice pi t.init.length ci,.slice pt t.threads.length ct,.bool t.all,.pointer pa] 40)).alloc (.cells #[.int .i64 l,.int .i64 c] 139)) w1.heap.size 40 #[.slice pi t.init.length ci,.slice pt t.threads.length ct,.bool t.all,.pointer pa]):=Lib.hid ((Sits.new _ _ _).alloc _)
  have HL2:=Lib.hid (HB1.out.trans (HB2.out.mono HB1.out.size))
  generalize (w1.alloc (.cells #[.slice pi t.init.length ci,.slice pt t.threads.length ct,.bool t.all,.pointer pa] 40)).alloc (.cells #[.int .i64 l,.int .i64 c] 139)=w2 at HB2 HS2 HV2 HT2 HL2 ⊢
  generalize w1.heap.size=g1 at HT2 ⊢
  clear HB0 HS0 HS1 HB1 HB2 HV HP
  have a0:w2.cell? ⟨g1,0,none⟩=some (.slice pi t.init.length ci):=HT2.out.cell 0
  have a1:w2.cell? ⟨g1,1,none⟩=some (.slice pt t.threads.length ct):=HT2.out.cell 1
  have a2:w2.cell? ⟨g1,2,none⟩=some (.bool t.all):=HT2.out.cell 2
  have a3:w2.cell? ⟨g1,3,none⟩=some (.pointer pa):=HT2.out.cell 3
  have la:=HT2.out.lt
  go_wp2_with fail
  refine (HU.out _ HL2.out HV2.out).mono ?_
  rintro e w3 ⟨hb,hres⟩
  have HL3:=Lib.hid (HL2.out.trans (hb.mono HL2.out.size))
  have HS3:=Lib.hid (HS2.out.below hb HS2.out.lt)
  clear hb a0 a1 a2 a3 la HU HT2 HV2 HL2 HS2
  rcases hres with ⟨hne,rfl⟩ | ⟨ths,vth,vst,h0,hth,rfl,hv,hst⟩
  · have HN:Hid (madeF s.data.toList k=none):=Lib.hid (by rw [HMF.out,if_neg (fun h=>hne h.2)])
    have HNE:=Lib.hid hne
    generalize unrollE t k=ue at HNE
    have hu:((ue:Int) == 0)=false:=nbeq (n:=0) HNE.out
    clear hne
    by_cases he:er=0
    · have h1:((er:Int) == 0)=true:=by rw [he];rfl
      clear he
      go_upto_region 3 with (fail)
      have HB4:=Lib.hid (one_low w3 (.cells #[.slice none 0 0,.string ⟨#[]⟩,.slice none 0 0,.bool false,.pointer none] 33))
      have HS4:=Lib.hid (HS3.out.below HB4.out HS3.out.lt)
      have HL4:=Lib.hid (HL3.out.trans (HB4.out.mono HL3.out.size))
      have HP4:Hid (Sits (w3.alloc (.cells #[.slice none 0 0,.string ⟨#[]⟩,.slice none 0 0,.bool false,.pointer none] 33)) w3.heap.size 33 #[.slice none 0 0,.string ⟨#[]⟩,.slice none 0 0,.bool false,.pointer none]):=Lib.hid (Sits.new _ _ _)
      change Code.wp _ _ _ _ (w3.alloc (.cells #[.slice none 0 0,.string ⟨#[]⟩,.slice none 0 0,.bool false,.pointer none] 33))
      generalize w3.alloc (.cells #[.slice none 0 0,.string ⟨#[]⟩,.slice none 0 0,.bool false,.pointer none] 33)=w4 at HB4 HS4 HL4 HP4 ⊢
      generalize w3.heap.size=g9 at HP4 ⊢
      have p0:=HP4.out.cell 0
      have p1:=HP4.out.cell 1
      have p2:=HP4.out.cell 2
      have p3:=HP4.out.cell 3
      have p4:=HP4.out.cell 4
      have lp:=HP4.out.lt
      go_wp2_with (refine wpList_store_row rfl 33 _ _ rfl w.heap.size #[.slice none 0 0,.string ⟨#[]⟩,.slice none 0 0,.bool false,.pointer none] rfl rfl 33 _ HS4.out pgSize rfl (zeroPg_one) ?_)
      refine bodyPost_ret (v:=.tuple #[.agg #[.slice none 0 0,.string ⟨#[]⟩,.slice none 0 0,.bool false,.pointer none],.bool false]) (result_pb Tryz.results28 rfl rfl rfl (setRow_heap _ _ _ _ _ _ HS4.out)) rfl ?_
      refine (HG.out _ _).2 ⟨row_low' HL4.out (Nat.le_refl _) _,?_⟩
      rw [HN.out]
      exact ⟨_,_,_,_,_,_,_,_,_,rfl⟩
    · have h1:((er:Int) == 0)=false:=nbeq (n:=0) he
      clear he
      go_upto_region 3 with (fail)
      have HB4:=Lib.hid (one_low w3 (.cells #[.slice none 0 0,.string ⟨#[]⟩,.slice none 0 0,.bool false,.pointer none] 33))
      have HS4:=Lib.hid (HS3.out.below HB4.out HS3.out.lt)
      have HL4:=Lib.hid (HL3.out.trans (HB4.out.mono HL3.out.size))
      have HP4:Hid (Sits (w3.alloc (.cells #[.slice none 0 0,.string ⟨#[]⟩,.slice none 0 0,.bool false,.pointer none] 33)) w3.heap.size 33 #[.slice none 0 0,.string ⟨#[]⟩,.slice none 0 0,.bool false,.pointer none]):=Lib.hid (Sits.new _ _ _)
      change Code.wp _ _ _ _ (w3.alloc (.cells #[.slice none 0 0,.string ⟨#[]⟩,.slice none 0 0,.bool false,.pointer none] 33))
      generalize w3.alloc (.cells #[.slice none 0 0,.string ⟨#[]⟩,.slice none 0 0,.bool false,.pointer none] 33)=w4 at HB4 HS4 HL4 HP4 ⊢
      generalize w3.heap.size=g9 at HP4 ⊢
      have p0:=HP4.out.cell 0
      have p1:=HP4.out.cell 1
      have p2:=HP4.out.cell 2
      have p3:=HP4.out.cell 3
      have p4:=HP4.out.cell 4
      have lp:=HP4.out.lt
      go_wp2_with (refine wpList_store_row rfl 33 _ _ rfl w.heap.size #[.slice none 0 0,.string ⟨#[]⟩,.slice none 0 0,.bool false,.pointer none] rfl rfl 33 _ HS4.out pgSize rfl (zeroPg_one) ?_)
      refine bodyPost_ret (v:=.tuple #[.agg #[.slice none 0 0,.string ⟨#[]⟩,.slice none 0 0,.bool false,.pointer none],.bool false]) (result_pb Tryz.results28 rfl rfl rfl (setRow_heap _ _ _ _ _ _ HS4.out)) rfl ?_
      refine (HG.out _ _).2 ⟨row_low' HL4.out (Nat.le_refl _) _,?_⟩
      rw [HN.out]
      exact ⟨_,_,_,_,_,_,_,_,_,rfl⟩
  · obtain ⟨rt,dt,ct2,rfl,hlay,hcs⟩:=hv
    have HVT:Hid (ThsV w3 (.slice rt ths.length dt) ths):=Lib.hid ⟨rt,dt,ct2,rfl,hlay,hcs⟩
    obtain ⟨rs,ns,ds,rfl,hst⟩:=startW_slice (t:=t) (show startW t vst w3 from hst)
    have HST:=Lib.hid hst
    have HTH:=Lib.hid hth
    clear hlay hcs hst hth
    have hu:(((unrollE t k:Nat):Int) == 0)=true:=by rw [h0];rfl
    by_cases he:er=0
    · have h1:((er:Int) == 0)=true:=by rw [he];rfl
      have HN:Hid (madeF s.data.toList k=some t):=Lib.hid (by rw [HMF.out,if_pos ⟨he,h0⟩])
      clear he h0 hu
      go_upto_region 3 with (fail)
      have HB4:=Lib.hid (one_low w3 (.cells #[.slice rt ths.length dt,.string (str (checkL t)),.slice rs ns ds,.bool t.all,.pointer pa] 33))
      have HS4:=Lib.hid (HS3.out.below HB4.out HS3.out.lt)
      have HL4:=Lib.hid (HL3.out.trans (HB4.out.mono HL3.out.size))
      have HP4:Hid (Sits (w3.alloc (.cells #[.slice rt ths.length dt,.string (str (checkL t)),.slice rs ns ds,.bool t.all,.pointer pa] 33)) w3.heap.size 33 #[.slice rt ths.length dt,.string (str (checkL t)),.slice rs ns ds,.bool t.all,.pointer pa]):=Lib.hid (Sits.new _ _ _)
      change Code.wp _ _ _ _ (w3.alloc (.cells #[.slice rt ths.length dt,.string (str (checkL t)),.slice rs ns ds,.bool t.all,.pointer pa] 33))
      generalize w3.alloc (.cells #[.slice rt ths.length dt,.string (str (checkL t)),.slice rs ns ds,.bool t.all,.pointer pa] 33)=w4 at HB4 HS4 HL4 HP4 ⊢
      generalize w3.heap.size=g9 at HP4 ⊢
      have p0:=HP4.out.cell 0
      have p1:=HP4.out.cell 1
      have p2:=HP4.out.cell 2
      have p3:=HP4.out.cell 3
      have p4:=HP4.out.cell 4
      have lp:=HP4.out.lt
      go_wp2_with (refine wpList_store_row rfl 33 _ _ rfl w.heap.size #[.slice rt ths.length dt,.string (str (checkL t)),.slice rs ns ds,.bool t.all,.pointer pa] rfl rfl 33 _ HS4.out pgSize rfl (pg_one _ _ _ _ _ _ _ _ _) ?_)
      refine bodyPost_ret (v:=.tuple #[.agg #[.slice rt ths.length dt,.string (str (checkL t)),.slice rs ns ds,.bool t.all,.pointer pa],.bool true]) (result_pb Tryz.results28 rfl rfl rfl (setRow_heap _ _ _ _ _ _ HS4.out)) rfl ?_
      refine (HG.out _ _).2 ⟨row_low' HL4.out (Nat.le_refl _) _,?_⟩
      rw [HN.out]
      exact ⟨ths,_,_,_,HTH.out,rfl,thsV_row (HVT.out.below HB4.out) HS4.out _,urow_row (HST.out.below HB4.out) HS4.out _⟩
    · have h1:((er:Int) == 0)=false:=nbeq (n:=0) he
      have HN:Hid (madeF s.data.toList k=none):=Lib.hid (by rw [HMF.out,if_neg (fun h=>he h.1)])
      clear he h0 hu
      go_upto_region 3 with (fail)
      have HB4:=Lib.hid (one_low w3 (.cells #[.slice rt ths.length dt,.string (str (checkL t)),.slice rs ns ds,.bool t.all,.pointer pa] 33))
      have HS4:=Lib.hid (HS3.out.below HB4.out HS3.out.lt)
      have HL4:=Lib.hid (HL3.out.trans (HB4.out.mono HL3.out.size))
      have HP4:Hid (Sits (w3.alloc (.cells #[.slice rt ths.length dt,.string (str (checkL t)),.slice rs ns ds,.bool t.all,.pointer pa] 33)) w3.heap.size 33 #[.slice rt ths.length dt,.string (str (checkL t)),.slice rs ns ds,.bool t.all,.pointer pa]):=Lib.hid (Sits.new _ _ _)
      change Code.wp _ _ _ _ (w3.alloc (.cells #[.slice rt ths.length dt,.string (str (checkL t)),.slice rs ns ds,.bool t.all,.pointer pa] 33))
      generalize w3.alloc (.cells #[.slice rt ths.length dt,.string (str (checkL t)),.slice rs ns ds,.bool t.all,.pointer pa] 33)=w4 at HB4 HS4 HL4 HP4 ⊢
      generalize w3.heap.size=g9 at HP4 ⊢
      have p0:=HP4.out.cell 0
      have p1:=HP4.out.cell 1
      have p2:=HP4.out.cell 2
      have p3:=HP4.out.cell 3
      have p4:=HP4.out.cell 4
      have lp:=HP4.out.lt
      go_wp2_with (refine wpList_store_row rfl 33 _ _ rfl w.heap.size #[.slice rt ths.length dt,.string (str (checkL t)),.slice rs ns ds,.bool t.all,.pointer pa] rfl rfl 33 _ HS4.out pgSize rfl (pg_one _ _ _ _ _ _ _ _ _) ?_)
      refine bodyPost_ret (v:=.tuple #[.agg #[.slice rt ths.length dt,.string (str (checkL t)),.slice rs ns ds,.bool t.all,.pointer pa],.bool false]) (result_pb Tryz.results28 rfl rfl rfl (setRow_heap _ _ _ _ _ _ HS4.out)) rfl ?_
      refine (HG.out _ _).2 ⟨row_low' HL4.out (Nat.le_refl _) _,?_⟩
      rw [HN.out]
      exact ⟨_,_,_,_,_,_,_,_,_,rfl⟩
end Go.Proofs.YtagebkachdmnbaaGreatDoor.Thr
end
section
namespace Go.Proofs.YtagebkachdmnbaaGreatDoor.Thr
open Go.Proofs.YtagebkachdmnbaaGreatDoor.Expr Go.Proofs.YtagebkachdmnbaaGreatDoor.Prog Go.Proofs.YtagebkachdmnbaaGreatDoor.Prs Go.Proofs.YtagebkachdmnbaaGreatDoor.Chk Go.Proofs.YtagebkachdmnbaaGreatDoor.Unr
open Go.Proofs.YtagebkachdmnbaaGreatDoor.Lex (Tok)
theorem dec0:dec 0=[48]:=dec_small (by decide)
theorem dec1:dec 1=[49]:=dec_small (by decide)
theorem dec7:dec 7=[55]:=dec_small (by decide)
def ttext:List UInt8:=[116,104,114,101,97,100,32,123,32,114,48,32,61,32,108,111,97,100,40,120,44,32,97,99,113,41,59,32,105,102,32,40,114,48,32,61,61,32,55,41,32,123,32,114,49,32,61,32,97,100,100,40,121,44,32,114,48,44,32,97,114,41,59,32,125,32,125,32,101,120,105,115,116,115,32,49,59]
def ttoks:List Lex.Tok:=[⟨2,[116,104,114,101,97,100],0,1,1⟩,⟨3,[123],0,1,8⟩,⟨2,[114,48],0,1,10⟩,⟨3,[61],0,1,13⟩,⟨2,[108,111,97,100],0,1,15⟩,⟨3,[40],0,1,19⟩,⟨2,[120],0,1,20⟩,⟨3,[44],0,1,21⟩,⟨2,[97,99,113],0,1,23⟩,⟨3,[41],0,1,26⟩,⟨3,[59],0,1,27⟩,⟨2,[105,102],0,1,29⟩,⟨3,[40],0,1,32⟩,⟨2,[114,48],0,1,33⟩,⟨3,[61,61],0,1,36⟩,⟨1,[55],7,1,39⟩,⟨3,[41],0,1,40⟩,⟨3,[123],0,1,42⟩,⟨2,[114,49],0,1,44⟩,⟨3,[61],0,1,47⟩,⟨2,[97,100,100],0,1,49⟩,⟨3,[40],0,1,52⟩,⟨2,[121],0,1,53⟩,⟨3,[44],0,1,54⟩,⟨2,[114,48],0,1,56⟩,⟨3,[44],0,1,58⟩,⟨2,[97,114],0,1,60⟩,⟨3,[41],0,1,62⟩,⟨3,[59],0,1,63⟩,⟨3,[125],0,1,65⟩,⟨3,[125],0,1,67⟩,⟨2,[101,120,105,115,116,115],0,1,69⟩,⟨1,[49],1,1,76⟩,⟨3,[59],0,1,77⟩,⟨0,[],0,1,78⟩]
def ttest:Ts:=⟨[],[.cons ⟨2,0,3,120,none,none⟩ .nil .nil (.cons ⟨8,0,0,0,some (.two 1 (.reg 0) (.num 7)),none⟩ (.cons ⟨5,1,5,121,some (.reg 0),none⟩ .nil .nil .nil) .nil .nil)],false,some (.num 1)⟩
theorem tlex:Lex.lexAll ttext = .ok ttoks:=by kernel_rfl
theorem traws:ttoks.map raw=rawsT ttest:=by
  simp [rawsT,ttest,threadR,rawsB,headR,exR,rawsE,Ex.strong,strongOp,nm,sg,wd,dec0,dec1,dec7,ttoks,raw,rawEnd,sign,modeTxt,wLoad,wAdd,wIf,wThread,wExists,Blk.len]
theorem tprints:Prints ttest:=by
  refine ⟨⟨?_,?_,rfl,?_⟩,?_,?_,by decide,?_⟩
  · intro i hi;simp [ttest] at hi
  · intro b hb
    obtain rfl:b=_:=by simpa [ttest] using hb
    refine ⟨?_,by decide⟩
    simp [Blk.proper,Mk.proper,okO,Ex.ok,Ex.depth,isLetter]
  · exact ⟨by simp [Ex.ok],by decide⟩
  · intro i hi;simp [ttest] at hi
  · intro b hb
    obtain rfl:b=_:=by simpa [ttest] using hb
    exact ⟨⟨trivial,trivial,by decide,by decide⟩,trivial,trivial,⟨⟨rfl,trivial⟩,trivial,by decide,by decide⟩,⟨⟨rfl,trivial,by decide,by decide⟩,trivial,trivial,trivial⟩,trivial,trivial⟩
  · trivial
theorem tcall:parseAll ttext = .ok ttest:=known_all tlex traws tprints
def tcode:List In:=[⟨5,1,5,1,some (.reg 0),none,-1,-1⟩,⟨8,0,0,0,some (.two 1 (.reg 0) (.num 7)),none,0,-1⟩,⟨2,0,3,0,none,none,1,1⟩]
theorem tunroll:unrollT ttest 0=some [(tcode,2)]:=by kernel_rfl
theorem tunrollE:unrollE ttest 0=0:=by kernel_rfl
theorem tmade:madeF ttext 0=some ttest:=by
  unfold madeF;rw [tcall]
  show (if unrollE ttest 0=0 then some ttest else none)=_
  rw [if_pos tunrollE]
theorem tokI:∀ x ∈ tcode,okI x:=by
  intro x hx
  simp only [tcode,List.mem_cons,List.not_mem_nil,or_false] at hx
  rcases hx with rfl | rfl | rfl
  · exact ⟨⟨show 0<8 by decide,by decide⟩,trivial⟩
  · exact ⟨⟨⟨by decide,by decide,show 0<8 by decide,show 7<18446744073709551616 by decide⟩,by decide⟩,trivial⟩
  · exact ⟨trivial,trivial⟩
def ts0:St:=beginF tcode 2
def ts1:St:=doneF tcode ts0 7
def ts2:St:=doneF tcode ts1 3
theorem ts0_V:stV ts0 = .agg #[.int .i64 2,.int .u64 0,.int .u64 0,.int .u64 0,.int .u64 0,.int .u64 0,.int .u64 0,.int .u64 0,.int .u64 0]:=by kernel_rfl
theorem ts1_V:stV ts1 = .agg #[.int .i64 0,.int .u64 7,.int .u64 0,.int .u64 0,.int .u64 0,.int .u64 0,.int .u64 0,.int .u64 0,.int .u64 0]:=by kernel_rfl
theorem ts2_V:stV ts2 = .agg #[.int .i64 (-1),.int .u64 7,.int .u64 3,.int .u64 0,.int .u64 0,.int .u64 0,.int .u64 0,.int .u64 0,.int .u64 0]:=by kernel_rfl
theorem tnext0:nextR (nextF tcode ts0) = .tuple #[.agg #[.int .u8 2,.int .u8 3,.int .i64 0,.int .u64 0,.int .u64 0],.bool true]:=by kernel_rfl
def tac1:Ac:=⟨5,5,1,7,0⟩
theorem tnext1:nextF tcode ts1=some tac1:=by kernel_rfl
theorem twrites:writeR (writesF tac1 3) = .tuple #[.int .u64 10,.int .u8 4,.bool true]:=by kernel_rfl
theorem treads:modeR (readsF tac1) = .tuple #[.int .u8 3,.bool true]:=by kernel_rfl
theorem tmost:mostW tcode 2=1:=by kernel_rfl
theorem tmostU:decide (0<mostU tcode 2)=true:=by kernel_rfl
theorem tend:endF tcode.length ts2.at_=true:=by kernel_rfl
theorem reg64_zero:Reg64 (fun _=>0):=fun _=>⟨show (0:Int)<=0 by decide,show (0:Int)<18446744073709551616 by decide⟩
theorem runF_64 {code:List In} (hI:∀ x ∈ code,okI x):∀ (n:Nat) (s:St),Reg64 s.r->Reg64 (runF code n s).r
  | 0,_,h=>h
  | n+1,s,h=>by
    show Reg64 (match atI code s.at_ with | none=>s | some x=>if x.kind=1 then runF code n (setS s x) else if x.kind=8 then runF code n (goS s x) else s).r
    cases hx:atI code s.at_ with
    | none=>exact h
    | some x =>
      have hm:x ∈ code:=by
        unfold atI at hx
        split at hx
        · exact List.mem_of_getElem? hx
        · cases hx
      show Reg64 (if x.kind=1 then runF code n (setS s x) else if x.kind=8 then runF code n (goS s x) else s).r
      split
      · exact runF_64 hI n _ (putR_64 h _ (val64 h _ (hI x hm).1))
      · split
        · exact runF_64 hI n _ h
        · exact h
theorem begin_64 {code:List In} (hI:∀ x ∈ code,okI x) (b:Int):Reg64 (beginF code b).r:=runF_64 hI _ _ reg64_zero
theorem done_64 {code:List In} (hI:∀ x ∈ code,okI x) {s:St} (h:Reg64 s.r) {rd:Int} (hr:U64 rd):Reg64 (doneF code s rd).r:=by
  unfold doneF
  split
  · exact h
  · next x _ =>
    split
    · exact h
    · refine runF_64 hI _ _ ?_
      show Reg64 (if (readsF (acOf s.r x)).isSome then putR s.r x.reg rd else s.r)
      split
      · exact putR_64 h _ hr
      · exact h
end Go.Proofs.YtagebkachdmnbaaGreatDoor.Thr
end
