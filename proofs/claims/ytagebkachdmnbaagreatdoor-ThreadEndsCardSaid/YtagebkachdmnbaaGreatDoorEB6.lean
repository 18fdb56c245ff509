/- Part 17 of the proof: what is used of the texts ChkA, ChkS, ChkB, ChkD, ChkE, ChkC. -/
import Derived.Test.YtagebkachdmnbaaGreatDoorEA9
import Derived.Test.YtagebkachdmnbaaGreatDoorEA7
import Derived.Test.YtagebkachdmnbaaGreatDoorEA3
import Derived.Lib.BufferRead
section
namespace Go.Proofs.YtagebkachdmnbaaGreatDoor.Prog
open Go.RowKit Go.Proofs.YtagebkachdmnbaaGreatDoor.Mem Go.Proofs.YtagebkachdmnbaaGreatDoor.Expr Go.Lib
def Blk.fold {σ:Type} (R:Mk->Nat->Nat->σ->σ):Blk->Nat->σ->σ
  | .nil,_,s=>s
  | .cons _ _ _ _,0,s=>s
  | .cons m t e r,room+1,s=>r.fold R (room+1) (if m.kind=8 then e.fold R room (t.fold R room (R m t.len e.len s)) else if m.kind=9 then t.fold R room (R m t.len e.len s) else R m t.len e.len s)
theorem Blk.fold_zero {σ:Type} (R:Mk->Nat->Nat->σ->σ) (b:Blk) (s:σ):b.fold R 0 s=s:=by cases b <;> rfl
structure FineM (m:Mk):Prop where
  a:okO m.a
  b:okO m.b
  reg:m.reg<256
  mode:m.mode<256
  loc:m.loc<256
  kind:m.kind<256
theorem Blk.fine_at {q:Blk} {m:Mk} {t e r:Blk} (h:(q.app (.cons m t e r)).fine):FineM m/\t.fine/\e.fine:=by
  induction q with
  | nil =>
    obtain ⟨h1,h2,h3,h4,h5,h6,h7,h8,h9⟩:=h
    exact ⟨⟨h1,h2,h3,h4,h5,h6⟩,h7,h8⟩
  | cons m' t' e' r' _ _ ih =>
    obtain ⟨h1,h2,h3,h4,h5,h6,h7,h8,h9⟩:=h
    exact ih h9
def ToldS (g:Nat) (ty0:TypeId) (cs:Array Value) (w:World) (e:Ending) (w':World):Prop:=e = .returned (.tuple #[])/\Sits w' g ty0 cs/\Keeps (fun x=>x=g) w w'
structure Tale {σ:Type} (F:FuncId) (g:Nat) (ty0:TypeId) (C:σ->Array Value) (R:Mk->Nat->Nat->σ->σ) (W0:World):Prop where
  enters:Expr.Enters F
  neE:204≠ty0
  neS:ty0≠169
  neK:110≠ty0
  call:∀ (m:Mk) (pa pb pt pe:Option Addr) (nt ct ne ce:Nat) (s:σ) (w:World),FineM m->nt<=1000000->ne<=1000000->Sits w g ty0 (C s)->Keeps (fun x=>x=g) W0 w->Tree w (trO m.a) (.pointer pa)->Tree w (trO m.b) (.pointer pb) ->
    Calls Tryz.prog F #[stAgg m (.pointer pa) (.pointer pb) (.slice pt nt ct) (.slice pe ne ce),.pointer (some ⟨g,0,none⟩)] w (ToldS g ty0 (C (R m nt ne s)) w)
section
variable {g : Nat} {w w' : World} {ty0 : TypeId} {cs : Array Value}
theorem Stand.tickg {b:Blk} {v:Value} (h:Stand (off g) w b v) (hn:Sits w g ty0 cs) (hne:204≠ty0) (k:Keeps (fun x=>x=g) w w'):Stand (off g) w' b v :=
  h.keep (Stable.keeps k fun b cs hs e=>by subst e;exact absurd (hs.same hn).1 hne) (tick_cell k)
theorem Kids.tickg {v:Value} {l:List Value} (h:Kids w v l) (hn:Sits w g ty0 cs) (hne:110≠ty0) (k:Keeps (fun x=>x=g) w w'):Kids w' v l:=by
  rcases h with h | ⟨x,hv,hs⟩
  · exact .inl h
  · exact .inr ⟨x,hv,hs.keep k (fun e=>absurd (hs.differ hn hne) (by simpa using e))⟩
theorem tree_tale {t:Tr} {v:Value} (h:Tree w t v) (hn:Sits w g ty0 cs) (hne:204≠ty0) (k:Keeps (fun x=>x=g) w w'):Tree w' t v :=
  h.stable (Stable.keeps k fun b cs hs e=>by subst e;exact absurd (hs.same hn).1 hne)
end
section
variable {σ : Type} (R : Mk → Nat → Nat → σ → σ)
def kf (room:Nat) (l:List Blk) (s:σ):σ:=l.foldl (fun s b=>b.fold R room s) s
theorem kf_take (room:Nat) (l:List Blk) (k:Nat) (b:Blk) (h:l[k]? = some b) (s:σ):kf R room (l.take (k+1)) s=b.fold R room (kf R room (l.take k) s):=by
  unfold kf
  rw [List.take_add_one,h]
  simp
theorem fold_cons (m:Mk) (t e r:Blk) {room:Nat} (h:1<=room) (s:σ):(Blk.cons m t e r).fold R room s=r.fold R room (kf R (room - 1) (kids m t e) (R m t.len e.len s)):=by
  obtain ⟨room,rfl⟩:∃ x,room=x+1:=⟨room - 1,by omega⟩
  simp only [Blk.fold,kids,kf,Nat.add_sub_cancel]
  split
  · simp
  · split <;> simp
theorem fold_app (q r:Blk) {room:Nat} (h:1<=room) (s:σ):(q.app r).fold R room s=r.fold R room (q.fold R room s):=by
  induction q generalizing s with
  | nil=>simp [Blk.app,Blk.fold]
  | cons m t e q _ _ ih=>simp only [Blk.app,fold_cons R _ _ _ _ h,ih]
theorem fold_snoc (q:Blk) (m:Mk) (t e:Blk) {room:Nat} (h:1<=room) (s:σ):(q.snoc m t e).fold R room s=kf R (room - 1) (kids m t e) (R m t.len e.len (q.fold R room s)):=by
  rw [Blk.snoc_eq,fold_app R _ _ h,fold_cons R _ _ _ _ h];simp [Blk.fold]
end
section
variable {σ : Type} {F : FuncId} {g0 : Nat} {ty0 : TypeId} {C : σ → Array Value} {R : Mk → Nat → Nat → σ → σ} {W0 : World}
set_option maxRecDepth 100000 in
set_option maxHeartbeats 1000000 in
theorem walkg_step (T:Tale F g0 ty0 C R W0) (b:Blk) (room:Nat) (hr:room<=1000) (v:Value) (s:σ) (w:World) (hf:b.fine) (hC:Sits w g0 ty0 (C s)) (hW:Keeps (fun x=>x=g0) W0 w) (hS:Stand (off g0) w b v)
    (IH:∀ (c:Blk),c.size<b.size->c.fine->1<=room->∀ (v:Value) (s:σ) (w:World),Sits w g0 ty0 (C s)->Keeps (fun x=>x=g0) W0 w->Stand (off g0) w c v->Calls Tryz.prog 211 #[v,.int .i64 ((room:Int) - 1),.func (.func F) #[] #[.pointer (some ⟨g0,0,none⟩)]] w (ToldS g0 ty0 (C (c.fold R (room - 1) s)) w)) :
    Calls Tryz.prog 211 #[v,.int .i64 (room:Nat),.func (.func F) #[] #[.pointer (some ⟨g0,0,none⟩)]] w (ToldS g0 ty0 (C (b.fold R room s)) w):=by
  obtain ⟨p,cap,rfl,hl,hR⟩:=hS.left
  have HC:=Lib.hid hC
  by_cases h0:room=0
  · subst h0
    have HZ:=Lib.hid (b.fold_zero R s)
    have HT:=Lib.hid T
    clear hS IH hl hR hC hf hr T hW
    go_enter Tryz.func211,Tryz.ntmps211
    go_wp2_with fail
    go_end0
    exact ⟨rfl,by rw [HZ.out];exact HC.out,Keeps.refl _ _⟩
  have h1:1<=room:=by omega
  have H1:=Lib.hid h1
  have HR:=Lib.hid hR
  have HS:=Lib.hid hS
  have HIH:=Lib.hid IH
  have HT:=Lib.hid T
  have HF:=Lib.hid hf
  have en:=T.enters
  unfold Expr.Enters at en
  have i1:(b.len:Int)<=1000000:=by omega
  have i2:((room:Int) == 0)=false:=beq_eq_false_iff_ne.2 (by omega)
  have i3:(room:Int)<=1000:=by omega
  have i4:(1:Int)<=(room:Int):=by omega
  have HW0:=Lib.hid hW
  clear hS IH hR hl hr hC T hf h0 h1 hW
  go_enter Tryz.func211,Tryz.ntmps211
  go_wp2_with fail
  go_loopg [14] b.len (fun gg v14 wx=>∃ (q r:Blk),gg=r.len/\b.len=q.len+r.len/\v14 = .int .i64 (q.len:Nat)/\Hid (b=q.app r)/\Hid (Left (off g0) w p b.len r q.len)/\Hid (Sits wx g0 ty0 (C (q.fold R room s)))/\Hid (Keeps (fun x=>x=g0) w wx))
  case atStart=>exact ⟨Blk.nil,b,rfl,by simp [Blk.len],rfl,Lib.hid rfl,HR,HC,Lib.hid (Keeps.refl _ _)⟩
  case round =>
    obtain ⟨q,r,rfl,hlen,rfl,HE,HRr,HQ,HB⟩:=hrel
    cases r with
    | nil =>
      have e:b.len=q.len:=by simpa [Blk.len] using hlen
      have HEq:=Lib.hid (show b=q by rw [HE.out,Blk.app_nil])
      have i4:¬ ((q.len:Int)<(b.len:Int)):=by omega
      clear e hlen
      go_wp2_with fail
      go_end0
      exact ⟨rfl,by rw [HEq.out];exact HQ.out,HB.out⟩
    | cons m t e r =>
      obtain ⟨g,o,rfl,hg,hk,hr',av,bv,tv,ev,hst,hta,htb,hst1,hst2⟩:=HRr.out.next
      obtain ⟨pa,rfl,_⟩:=hta.ptr
      obtain ⟨pb,rfl,_⟩:=htb.ptr
      have HTA:=Lib.hid hta
      have HTB:=Lib.hid htb
      have HFF:=Lib.hid (Blk.fine_at (HE.out ▸ HF.out))
      have HTT:=Lib.hid hst1
      have HEE:=Lib.hid hst2
      have HNX:=Lib.hid hr'
      obtain ⟨c0,c1,c2,c3,c4,c5,c6,c7⟩:=hst.tick hg HB.out
      have lg:=World.block_lt_of_cell? _ _ c0
      obtain ⟨pt,ct,rfl,ht1⟩:=hst1.len
      obtain ⟨pe,ce,rfl,he1⟩:=hst2.len
      have HL2:=Lib.hid (And.intro ht1 he1)
      clear ht1 he1
      have HSZ:=Lib.hid (show t.size<b.size/\e.size<b.size by rw [HE.out,Blk.size_app];simp only [Blk.size];omega)
      have HE':=Lib.hid (show b=(q.snoc m t e).app r by rw [HE.out,Blk.snoc_app])
      have lq:(q.len:Int)<(b.len:Int):=by omega
      have lq0:(0:Int)<=(q.len:Int):=by omega
      have HLN:=Lib.hid (show b.len=(q.snoc m t e).len+r.len by rw [Blk.len_snoc];simp only [Blk.len] at hlen;omega)
      clear hst hta htb hst1 hst2 hr' hlen
      have HBL:=Lib.hid (fun W=>blocks_any m (.pointer pa) (.pointer pb) pa pb rfl rfl pt pe t.len ct e.len ce W)
      have HB0:=Lib.hid (HB.out.alloc (.cells #[.int .u8 m.kind,.int .u8 m.reg,.int .u8 m.mode,.int .u8 m.loc,.pointer pa,.pointer pb,.slice pt t.len ct,.slice pe e.len ce] 169))
      have HQ0:=Lib.hid (HQ.out.alloc (.cells #[.int .u8 m.kind,.int .u8 m.reg,.int .u8 m.mode,.int .u8 m.loc,.pointer pa,.pointer pb,.slice pt t.len ct,.slice pe e.len ce] 169))
      have HBX:=Lib.hid (Sits.new wr 169 #[.int .u8 m.kind,.int .u8 m.reg,.int .u8 m.mode,.int .u8 m.loc,.pointer pa,.pointer pb,.slice pt t.len ct,.slice pe e.len ce])
      clear hg hk
      go_wp2_with fail
      change Calls _ F #[stAgg m (.pointer pa) (.pointer pb) (.slice pt t.len ct) (.slice pe e.len ce),.pointer (some ⟨g0,0,none⟩)] (wr.alloc (.cells #[.int .u8 m.kind,.int .u8 m.reg,.int .u8 m.mode,.int .u8 m.loc,.pointer pa,.pointer pb,.slice pt t.len ct,.slice pe e.len ce] 169)) _
      generalize wr.alloc (.cells #[.int .u8 m.kind,.int .u8 m.reg,.int .u8 m.mode,.int .u8 m.loc,.pointer pa,.pointer pb,.slice pt t.len ct,.slice pe e.len ce] 169)=wa at HB0 HQ0 HBX ⊢
      refine (HT.out.call m pa pb pt pe _ _ _ _ _ wa HFF.out.1 HL2.out.1 HL2.out.2 HQ0.out (HW0.out.trans HB0.out) (tree_tale HTA.out HC.out HT.out.neE HB0.out) (tree_tale HTB.out HC.out HT.out.neE HB0.out)).mono ?_
      rintro e' w2 ⟨rfl,hc,hk⟩
      have HQ2:=Lib.hid hc
      have HB2:=Lib.hid (HB0.out.trans hk)
      have S1:=HBX.out.keep hk (fun e=>absurd (HBX.out.differ HQ0.out (fun h=>HT.out.neS h.symm)) (by simpa using e))
      have s1:=S1.lt
      have q0:w2.cell? ⟨wr.heap.size,0,none⟩=some (.int .u8 m.kind):=S1.cell 0
      have q1:w2.cell? ⟨wr.heap.size,1,none⟩=some (.int .u8 m.reg):=S1.cell 1
      have q2:w2.cell? ⟨wr.heap.size,2,none⟩=some (.int .u8 m.mode):=S1.cell 2
      have q3:w2.cell? ⟨wr.heap.size,3,none⟩=some (.int .u8 m.loc):=S1.cell 3
      have q4:w2.cell? ⟨wr.heap.size,4,none⟩=some (.pointer pa):=S1.cell 4
      have q5:w2.cell? ⟨wr.heap.size,5,none⟩=some (.pointer pb):=S1.cell 5
      have q6:w2.cell? ⟨wr.heap.size,6,none⟩=some (.slice pt t.len ct):=S1.cell 6
      have q7:w2.cell? ⟨wr.heap.size,7,none⟩=some (.slice pe e.len ce):=S1.cell 7
      clear S1 hc hk c0 c1 c2 c3 c4 c5 c6 c7 lg
      generalize wr.heap.size=gx at q0 q1 q2 q3 q4 q5 q6 q7 s1 ⊢
      go_wp2_with fail
      change Calls _ _ #[stAgg m (.pointer pa) (.pointer pb) (.slice pt t.len ct) (.slice pe e.len ce)] w2 _
      refine (HBL.out w2).mono ?_
      rintro e' w3 ⟨kv,rfl,hkv,hb⟩
      have HB3:=Lib.hid (HB2.out.trans (Keeps.of_below hb))
      have HQ3:=Lib.hid (HQ2.out.below hb HQ2.out.lt)
      have HKV:=Lib.hid hkv
      obtain ⟨pk,rfl⟩:=hkv.len
      have hkl:=kids_len m t e (Value.slice pt t.len ct) (Value.slice pe e.len ce)
      clear hb hkv q0 q1 q2 q3 q4 q5 q6 q7 s1 HBL HBX HB0 HQ0 HB2 HQ2
      have ik:((kids m (Value.slice pt t.len ct) (Value.slice pe e.len ce)).length:Int)<=2:=by omega
      have HKL:=Lib.hid hkl
      clear hkl
      go_wp2_with fail
      go_loopg [24] (kids m t e).length (fun gg v24 wx=>∃ j,j<=(kids m t e).length/\gg=(kids m t e).length - j/\v24 = .int .i64 (j:Nat)/\Hid (Sits wx g0 ty0 (C (kf R (room - 1) ((kids m t e).take j) (R m t.len e.len (q.fold R room s)))))/\Hid (Keeps (fun x=>x=g0) w wx)/\Hid (Keeps (fun x=>x=g0) w3 wx))
      case atStart=>exact ⟨0,by omega,by omega,rfl,HQ3,HB3,Lib.hid (Keeps.refl _ _)⟩
      case round =>
        obtain ⟨j,hj,rfl,rfl,HQj,HBj,HB3j⟩:=hrel
        have HK3:=Lib.hid (HKV.out.tickg HQ3.out HT.out.neK HB3j.out)
        by_cases hlt:j<(kids m t e).length
        · have hlt':j<(kids m (Value.slice pt t.len ct) (Value.slice pe e.len ce)).length:=by rw [<- HKL.out.1];exact hlt
          have hu:(kids m (Value.slice pt t.len ct) (Value.slice pe e.len ce))[j]? = some (kids m (Value.slice pt t.len ct) (Value.slice pe e.len ce))[j]:=List.getElem?_eq_getElem hlt'
          have hc:(kids m t e)[j]? = some (kids m t e)[j]:=List.getElem?_eq_getElem hlt
          have HSt:=Lib.hid (kids_stand m (HTT.out.tickg HC.out HT.out.neE HBj.out) (HEE.out.tickg HC.out HT.out.neE HBj.out) hc hu)
          have HCS:=Lib.hid (show (kids m t e)[j].size<b.size by rcases kids_map m t e j _ hc with h | h <;> rw [h] <;> first | exact HSZ.out.1 | exact HSZ.out.2)
          have HDT:=Lib.hid (kf_take R (room - 1) _ _ _ hc (R m t.len e.len (q.fold R room s)))
          have HCF:=Lib.hid (show ((kids m t e)[j]).fine by rcases kids_map m t e j _ hc with h | h <;> rw [h] <;> first | exact HFF.out.2.1 | exact HFF.out.2.2)
          obtain ⟨p1,n1,c1,hu1⟩:=kids_slice rfl rfl hu
          rw [hu1] at HSt hu
          clear hu1
          obtain ⟨gk,e1,ck,hs⟩:=HK3.out.at hu
          injection e1 with e1 _ _
          subst e1
          have lk:=hs.lt
          have jj:(j:Int)<((kids m (Value.slice pt t.len ct) (Value.slice pe e.len ce)).length:Int):=by omega
          generalize (kids m t e)[j]=c at HSt HCS HDT HCF
          clear hu hc hs hlt'
          have HCL:=Lib.hid (HIH.out c HCS.out HCF.out H1.out _ _ _ HQj.out (HW0.out.trans HBj.out) HSt.out)
          have HJN:=Lib.hid (show j+1<=(kids m t e).length by omega)
          go_wp2_with fail
          refine HCL.out.mono ?_
          rintro e' w4 ⟨rfl,hc,hk⟩
          have HQ4:=Lib.hid hc
          have HB4:=Lib.hid (HBj.out.trans hk)
          have HB34:=Lib.hid (HB3j.out.trans hk)
          clear hc hk
          go_wp2_with fail
          go_roundg ((kids m t e).length - (j+1))
          case measure=>omega
          case rel=>exact ⟨j+1,HJN.out,rfl,by go_num,Lib.hid (by rw [HDT.out];exact HQ4.out),HB4,HB34⟩
        · obtain rfl:j=(kids m t e).length:=by omega
          have jj:¬ (((kids m t e).length:Int)<((kids m (Value.slice pt t.len ct) (Value.slice pe e.len ce)).length:Int)):=by have:=HKL.out;omega
          go_wp2_with fail
          go_roundg r.len
          case measure=>simp [Blk.len]
          case rel=>exact ⟨q.snoc m t e,r,rfl,HLN.out,val_int (by rw [Blk.len_snoc];rfl),HE',Lib.hid (by rw [Blk.len_snoc];exact HNX.out),Lib.hid (by have:=HQj.out;rw [List.take_length] at this;rw [fold_snoc R _ _ _ _ H1.out];exact this),HBj⟩
theorem walkg_any (T:Tale F g0 ty0 C R W0):∀ (k:Nat) (b:Blk),b.size<k->b.fine->∀ (room:Nat),room<=1000->∀ (v:Value) (s:σ) (w:World),Sits w g0 ty0 (C s)->Keeps (fun x=>x=g0) W0 w->Stand (off g0) w b v ->
    Calls Tryz.prog 211 #[v,.int .i64 (room:Nat),.func (.func F) #[] #[.pointer (some ⟨g0,0,none⟩)]] w (ToldS g0 ty0 (C (b.fold R room s)) w):=by
  intro k
  induction k with
  | zero=>intro b h;omega
  | succ k ih =>
    intro b hb hf room hr v s w hC hW hS
    refine walkg_step T b room hr v s w hf hC hW hS fun c hc hf hm v s w hC hW hS=>?_
    have:=ih c (by omega) hf (room - 1) (by omega) v s w hC hW hS
    rwa [show ((room - 1:Nat):Int)=(room:Int) - 1 by omega] at this
set_option maxRecDepth 100000 in
theorem Walkg_any (T:Tale F g0 ty0 C R W0) (b:Blk) (v:Value) (s:σ) (w:World) (hf:b.fine) (hC:Sits w g0 ty0 (C s)) (hW:Keeps (fun x=>x=g0) W0 w) (hS:Stand (off g0) w b v) :
    Calls Tryz.prog 139 #[v,.func (.func F) #[] #[.pointer (some ⟨g0,0,none⟩)]] w (ToldS g0 ty0 (C (b.fold R 8 s)) w):=by
  have H:=Lib.hid (walkg_any T (b.size+1) b (by omega) hf 8 (by omega) v s w hC hW hS)
  obtain ⟨p,cap,rfl,_⟩:=hS.len
  have hfn:=fn_isnt F #[] #[.pointer (some ⟨g0,0,none⟩)]
  clear hS hC T hf hW
  generalize C (b.fold R 8 s)=J at H ⊢
  go_enter Tryz.func139,Tryz.ntmps139
  go_wp2_with fail
  refine H.out.mono ?_
  rintro e w1 ⟨rfl,hc,hk⟩
  have HB:=Lib.hid hk
  have HC:=Lib.hid hc
  clear hc hk
  go_wp2_with fail
  go_end0
  exact ⟨rfl,HC.out,HB.out⟩
end
end Go.Proofs.YtagebkachdmnbaaGreatDoor.Prog
end
section
namespace Go.Proofs.YtagebkachdmnbaaGreatDoor.Chk
open Go.Proofs.YtagebkachdmnbaaGreatDoor.Expr Go.Proofs.YtagebkachdmnbaaGreatDoor.Prog
def exFold {σ:Type} (L:Ex->σ->σ):Ex->σ->σ
  | .one _ a,s=>exFold L a s
  | .two _ a b,s=>exFold L b (exFold L a s)
  | e,s=>L e s
theorem exFold_leaf {σ:Type} (L:Ex->σ->σ) {e:Ex} (h:e.isLeaf=true) (s:σ):exFold L e s=L e s:=by
  cases e with
  | one _ _=>cases h
  | two _ _ _=>cases h
  | _=>rfl
def exFoldO {σ:Type} (L:Ex->σ->σ):Option Ex->σ->σ
  | none,s=>s
  | some e,s=>exFold L e s
def kindL (ks:List Nat) (e:Ex) (b:Bool):Bool:=b && ks.contains (leafIt e).kind
def exMay (ks:List Nat):Option Ex->Bool
  | none=>false
  | some e=>exFold (kindL ks) e true
def isLoc (x:Nat):Bool:=decide (97<=x) && decide (x<=122) && !decide (x=114)
def hasL:Nat->List Bool
  | 1=>[true,false,false,true,false,false,false]
  | 2=>[true,true,true,false,false,false,false]
  | 3=>[false,true,true,true,false,false,false]
  | 4=>[true,true,true,true,false,false,false]
  | 5=>[true,true,true,true,false,false,false]
  | 6=>[true,true,true,true,true,false,false]
  | 7=>[false,false,true,false,false,false,false]
  | 8=>[false,false,false,true,false,true,true]
  | 9=>[false,false,false,true,false,true,false]
  | _=>[false,false,false,false,false,false,false]
def has (k i:Nat):Bool:=(hasL k).getD i false
def fitB (h may zero:Bool):Bool:=if h then may else zero
def stMay (m:Mk) (nt ne:Nat):Bool :=
  decide (1<=m.kind) && decide (m.kind<=9) && (fitB (has m.kind 0) (decide (m.reg<8)) (decide (m.reg=0)) && fitB (has m.kind 1) (isLoc m.loc) (decide (m.loc=0)) && fitB (has m.kind 2) ((modesOf m.kind).contains m.mode) (decide (m.mode=0)) &&
    fitB (has m.kind 3) (exMay [0,1] m.a) (!m.a.isSome) && fitB (has m.kind 4) (exMay [0,1] m.b) (!m.b.isSome) && fitB (has m.kind 5) true (decide (nt=0)) && fitB (has m.kind 6) true (decide (ne=0)))
def mayR (m:Mk) (nt ne:Nat) (b:Bool):Bool:=b && stMay m nt ne
def stsMay (l:List Blk) (b:Bool):Bool:=l.foldl (fun b c=>c.fold mayR 8 b) b
abbrev Let:=Nat->Bool
def noLet:Let:=fun _=>false
def putL (x:Nat) (l:Let):Let:=fun i=>l i || (isLoc x && i == x - 97)
def startsF:List (Nat × Nat)->Let->Bool
  | [],_=>true
  | i :: l,m=>isLoc i.1 && !m (i.1 - 97) && startsF l (putL i.1 m)
def initL (l:List (Nat × Nat)) (m:Let):Let:=l.foldl (fun m i=>putL i.1 m) m
def locR (m:Mk) (_ _:Nat) (l:Let):Let:=putL m.loc l
def thrL (l:List Blk) (m:Let):Let:=l.foldl (fun m c=>c.fold locR 8 m) m
def leafL (e:Ex) (m:Let):Let:=putL (leafIt e).x m
def namedL (t:Ts):Let:=exFoldO leafL t.ask (thrL t.threads (initL t.init noLet))
def lettersOf (m:Let):List UInt8:=((List.range 26).filter m).map fun i=>(97+i).toUInt8
def locsF (t:Ts):List UInt8:=lettersOf (namedL t)
def nobodyL (n:Nat) (e:Ex) (b:Bool):Bool:=b || (decide ((leafIt e).kind=2) && decide (n<=(leafIt e).t))
def nobodyF (t:Ts):Bool:=exFoldO (nobodyL t.threads.length) t.ask false
def checkE (t:Ts):Nat :=
  if t.threads.length=0 then 1 else if stsMay t.threads true=false then 1 else if startsF t.init noLet=false then 1 else if exMay [0,2,3] t.ask=false then 1 else
  if 4<t.threads.length then 4 else if t.threads.any (fun b=>decide (8<b.deep)) then 4 else if 4<(locsF t).length then 4 else if nobodyF t then 7 else 0
def checkL (t:Ts):List UInt8:=if checkE t=0 then locsF t else []
end Go.Proofs.YtagebkachdmnbaaGreatDoor.Chk
end
section
namespace Go.Proofs.YtagebkachdmnbaaGreatDoor.Chk
open Go.RowKit Go.Proofs.YtagebkachdmnbaaGreatDoor.Mem Go.Proofs.YtagebkachdmnbaaGreatDoor.Expr Go.Proofs.YtagebkachdmnbaaGreatDoor.Prog Go.Lib
theorem isLoc_true {x:Nat} (h1:97<=x) (h2:x<=122) (h3:x≠114):isLoc x=true:=by simp [isLoc,h1,h2,h3]
theorem isLoc_of {x:Nat} (h:isLoc x=true):97<=x/\x<=122/\x≠114:=by simpa [isLoc,and_assoc] using h
set_option maxRecDepth 100000 in
theorem isLoc_any (x:Nat) (w:World):Calls Tryz.prog 142 #[.int .u8 (x:Nat)] w fun e w'=>e = .returned (.bool (isLoc x))/\w=w':=by
  by_cases h1:97<=x
  · by_cases h2:x<=122
    · by_cases h3:x=114
      · subst h3
        go_enter Tryz.func142,Tryz.ntmps142
        go_wp2_with fail
        go_ret
        exact ⟨rfl,rfl⟩
      · rw [isLoc_true h1 h2 h3]
        have a1:(97:Int)<=(x:Int):=by omega
        have a2:(x:Int)<=122:=by omega
        have a3:((x:Int) != 114)=true:=bne_iff_ne.2 (by omega)
        clear h1 h2 h3
        go_enter Tryz.func142,Tryz.ntmps142
        go_wp2_with fail
        go_ret
        exact ⟨rfl,rfl⟩
    · have e:isLoc x=false:=by simp [isLoc,h2]
      rw [e]
      have a1:(97:Int)<=(x:Int):=by omega
      have a2:¬ ((x:Int)<=122):=by omega
      clear h1 h2 e
      go_enter Tryz.func142,Tryz.ntmps142
      go_wp2_with fail
      go_ret
      exact ⟨rfl,rfl⟩
  · have e:isLoc x=false:=by simp [isLoc,h1]
    rw [e]
    have a1:¬ ((97:Int)<=(x:Int)):=by omega
    clear h1 e
    go_enter Tryz.func142,Tryz.ntmps142
    go_wp2_with fail
    go_ret
    exact ⟨rfl,rfl⟩
def letC (m:Let):Array Value:=((List.range 26).map fun i=>Value.bool (m i)).toArray
theorem letC_at (m:Let) {i:Nat} (h:i<26):(letC m)[i]? = some (.bool (m i)):=by
  simp [letC,h]
theorem letC_put (m:Let) {x:Nat} (h:isLoc x=true):(letC m).setIfInBounds (x - 97) (.bool true)=letC (putL x m):=by
  obtain ⟨h1,h2,_⟩:=isLoc_of h
  apply Array.ext
  · simp [letC]
  · intro i h3 h4
    have hi:i<26:=by simpa [letC] using h4
    by_cases e:x - 97=i
    · subst e
      simp [letC,putL,h]
    · have e':(i == x - 97)=false:=beq_eq_false_iff_ne.2 (fun h=>e h.symm)
      simp [letC,putL,e,e']
theorem putL_not {x:Nat} (h:isLoc x=false) (m:Let):putL x m=m:=by
  funext i
  simp [putL,h]
def Put (g:Nat) (m:Let) (w:World) (e:Ending) (w':World):Prop:=e = .returned (.tuple #[])/\Sits w' g 252 (letC m)/\Keeps (fun x=>x=g) w w'
set_option maxRecDepth 100000 in
theorem put_any (g x:Nat) (m:Let) (w:World) (hS:Sits w g 252 (letC m)):Calls Tryz.prog 144 #[.pointer (some ⟨g,0,none⟩),.int .u8 (x:Nat)] w (Put g (putL x m) w):=by
  have HI:=Lib.hid (fun W=>isLoc_any x W)
  have lg:=hS.lt
  cases hl:isLoc x with
  | true =>
    obtain ⟨h1,h2,_⟩:=isLoc_of hl
    have HP:=Lib.hid (show Put g (putL x m) w (.returned (.tuple #[])) (w.setCell ⟨g,x - 97,none⟩ (.bool true)) from
      ⟨rfl,by have:=hS.put (x - 97) (.bool true);rwa [letC_put m hl] at this,(Keeps.refl (fun x=>x=g) w).put (p:=⟨g,x - 97,none⟩) (.inl rfl) _⟩)
    obtain ⟨i,hi⟩:∃ i,x=i+97:=⟨x - 97,by omega⟩
    have HIx:=Lib.hid (show x - 97=i by omega)
    rw [show x - 97=i by omega] at HP
    have hw:IntKind.u8.wrap ((x:Int) - 97)=(i:Int):=by rw [IntWalk.u8_in _ (by omega)];omega
    have i1:(i:Int)<26:=by omega
    have i2:(0:Int)<=(i:Int):=by omega
    have c0:w.cell? ⟨g,i,none⟩=some (.bool (m i)):=(hS.cell i).trans (letC_at m (by omega))
    have f0:=hS.free i
    rw [hl] at HI
    clear hl h1 h2 hi hS
    go_enter Tryz.func144,Tryz.ntmps144
    go_wp2_with fail
    refine (HI.out _).mono ?_
    rintro e w' ⟨rfl,rfl⟩
    go_wp2_with fail
    go_end0
    exact HP.out
  | false =>
    rw [putL_not hl]
    rw [hl] at HI
    have HP:=Lib.hid (show Put g m w (.returned (.tuple #[])) w from ⟨rfl,hS,Keeps.refl _ _⟩)
    clear hl hS
    go_enter Tryz.func144,Tryz.ntmps144
    go_wp2_with fail
    refine (HI.out _).mono ?_
    rintro e w' ⟨rfl,rfl⟩
    go_wp2_with fail
    go_end0
    exact HP.out
set_option maxRecDepth 100000 in
theorem has_any (g x:Nat) (m:Let) (w:World) (hS:Sits w g 252 (letC m)) (hl:isLoc x=true):Calls Tryz.prog 143 #[.pointer (some ⟨g,0,none⟩),.int .u8 (x:Nat)] w fun e w'=>e = .returned (.bool (m (x - 97)))/\w=w':=by
  have lg:=hS.lt
  obtain ⟨h1,h2,_⟩:=isLoc_of hl
  obtain ⟨i,hi⟩:∃ i,x=i+97:=⟨x - 97,by omega⟩
  have hw:IntKind.u8.wrap ((x:Int) - 97)=(i:Int):=by rw [IntWalk.u8_in _ (by omega)];omega
  rw [show x - 97=i by omega]
  have i1:(i:Int)<26:=by omega
  have i2:(0:Int)<=(i:Int):=by omega
  have c0:w.cell? ⟨g,i,none⟩=some (.bool (m i)):=(hS.cell i).trans (letC_at m (by omega))
  clear hl h1 h2 hi hS
  generalize m i=b at c0 ⊢
  go_enter Tryz.func143,Tryz.ntmps143
  go_wp2_with fail
  go_ret
  exact ⟨rfl,rfl⟩
end Go.Proofs.YtagebkachdmnbaaGreatDoor.Chk
end
section
namespace Go.Proofs.YtagebkachdmnbaaGreatDoor.Chk
open Go.RowKit Go.Proofs.YtagebkachdmnbaaGreatDoor.Mem Go.Proofs.YtagebkachdmnbaaGreatDoor.Expr Go.Proofs.YtagebkachdmnbaaGreatDoor.Prog Go.Lib
structure TaleE {σ:Type} (F:FuncId) (g:Nat) (ty0:TypeId) (c:Array Value) (C:σ->Array Value) (L:Ex->σ->σ) (W0:World):Prop where
  enters:Expr.Enters F
  neE:204≠ty0
  call:∀ (e:Ex) (s:σ) (w:World),e.isLeaf=true->e.ok->Sits w g ty0 (C s)->Keeps (fun x=>x=g) W0 w->Calls Tryz.prog F ((#[]:Array Value).push (leafVal e) ++ c) w (ToldS g ty0 (C (L e s)) w)
def StE {σ:Type} (g:Nat) (ty0:TypeId) (C:σ->Array Value) (W0:World) (s:σ) (w:World):Prop:=Sits w g ty0 (C s)/\Keeps (fun x=>x=g) W0 w
section
variable {σ : Type} {F : FuncId} {g : Nat} {ty0 : TypeId} {c : Array Value} {C : σ → Array Value} {L : Ex → σ → σ} {W0 : World}
theorem TaleE.tells (T:TaleE F g ty0 c C L W0):Tells F 215 #[] c #[] #[] (exFold L) (StE g ty0 C W0) (fun _ _=>True) where
  e1:=T.enters
  e2:=walk1_enters
  leaf:=fun e s w hl ho _ hI=>(T.call e s w hl ho hI.1 hI.2).mono fun e' w' ⟨h1,h2,h3⟩=>⟨h1,⟨by rw [exFold_leaf L hl];exact h2,hI.2.trans h3⟩,Stable.keeps h3 fun b cs hs hb=>by subst hb;exact T.neE (hs.same hI.1).1⟩
  one:=fun op a s w _ _ _ hI=>(walk1_any op w).mono fun e' w' ⟨h1,h2⟩=>by subst h2;exact ⟨h1,hI,Stable.refl _ _⟩
  two:=fun op a b s w _ _ _ _ _ hI=>(walk1_any op w).mono fun e' w' ⟨h1,h2⟩=>by subst h2;exact ⟨h1,hI,Stable.refl _ _⟩
  inOne:=fun _ _ _ _=>trivial
  inTwo:=fun _ _ _ _ _=>⟨trivial,trivial⟩
set_option maxRecDepth 100000 in
theorem walk_nil (F:FuncId) (c:Array Value) (v:Value) (w:World) (hT:Tree w .nil v):Calls Tryz.prog 146 #[v,.func (.func F) #[] c] w fun e w'=>Made (.returned (.tuple #[])) w e w':=by
  have HW:=Lib.hid (fun x y=>walk_not .nil x y v w hT rfl)
  obtain ⟨p,rfl,_⟩:=hT.ptr
  clear hT
  have hn:=do_nil F #[] c
  go_enter Tryz.func146,Tryz.ntmps146
  go_wp2_with fail
  refine (HW.out _ _).mono ?_
  rintro e w1 ⟨rfl,hb⟩
  have HB:=Lib.hid hb
  clear hb
  go_wp2_with fail
  go_end0
  exact ⟨rfl,HB.out⟩
theorem WalkE_any (T:TaleE F g ty0 c C L W0) (e:Option Ex) (ho:okO e) (v:Value) (s:σ) (hT:Tree W0 (trO e) v) (hI:Sits W0 g ty0 (C s)) :
    Calls Tryz.prog 146 #[v,.func (.func F) #[] c] W0 (ToldS g ty0 (C (exFoldO L e s)) W0):=by
  cases e with
  | none=>exact (walk_nil F c v W0 hT).mono fun e w ⟨h1,h2⟩=>⟨h1,hI.below h2 hI.lt,Keeps.of_below h2⟩
  | some e =>
    have hIb:∀ (s:σ) (w w':World),StE g ty0 C W0 s w->Below w.heap.size w w' -> StE g ty0 C W0 s w':=fun s w w' h hb=>⟨h.1.below hb h.1.lt,h.2.trans (Keeps.of_below hb)⟩
    exact (Walk_any T.tells hIb e s v W0 ho.1 ho.2 trivial hT ⟨hI,Keeps.refl _ _⟩).mono fun e w ⟨h1,⟨h2,h3⟩,_⟩=>⟨h1,h2,h3⟩
end
set_option maxRecDepth 100000 in
theorem index_any (l:List Nat) (x:Nat) (v:Value) (w:World) (hv:Small w v l) (hl:l.length<=1000):Calls Tryz.prog 216 #[v,.int .u8 (x:Nat)] w fun e w'=>(∃ k:Int,e = .returned (.int .i64 k)/\decide (0<=k)=l.contains x)/\w=w':=by
  rcases hv with ⟨rfl,rfl⟩ | ⟨g,rfl,hs⟩
  · clear hl
    go_enter Tryz.func216,Tryz.ntmps216
    go_wp2_with fail
    go_loopg [8] 0 (fun gg v8 wx=>gg=0/\v8 = .int .i64 0/\w=wx)
    case atStart=>exact ⟨rfl,rfl,rfl⟩
    case round =>
      obtain ⟨rfl,rfl,rfl⟩:=hrel
      go_wp2_with fail
      go_ret
      exact ⟨⟨-1,rfl,rfl⟩,rfl⟩
  · have HS:=Lib.hid hs
    have lg:=hs.lt
    have m1:(l.length:Int)<=1000:=by omega
    clear hs hl
    go_enter Tryz.func216,Tryz.ntmps216
    go_wp2_with fail
    go_loopg [8] l.length (fun gg v8 wx=>∃ i,i<=l.length/\gg=l.length - i/\v8 = .int .i64 (i:Nat)/\Hid (∀ q y,q<i->l[q]? = some y->y≠x)/\w=wx)
    case atStart=>exact ⟨0,by omega,by omega,rfl,Lib.hid (fun q y h=>by omega),rfl⟩
    case round =>
      obtain ⟨i,hi,rfl,rfl,HN,rfl⟩:=hrel
      by_cases hlt:i<l.length
      · have hy:l[i]? = some l[i]:=List.getElem?_eq_getElem hlt
        generalize l[i]=y at hy
        have c0:w.cell? ⟨g,i,none⟩=some (.int .u8 (y:Nat)):=(HS.out.cell i).trans (by simp [hy])
        have i1:(i:Int)<(l.length:Int):=by omega
        have i2:(0:Int)<=(i:Int):=by omega
        have HI:=Lib.hid hlt
        have HY:=Lib.hid hy
        clear hy hlt hi
        by_cases hc:x=y
        · have HC:=Lib.hid hc
          have e1:((x:Int) == (y:Int))=true:=by rw [beq_iff_eq];omega
          clear hc
          go_wp2_with fail
          go_ret
          exact ⟨⟨_,rfl,by rw [show decide (0<=(i:Int))=true by simp];exact (List.contains_iff_mem.2 (HC.out ▸ List.mem_of_getElem? HY.out)).symm⟩,rfl⟩
        · have HC:=Lib.hid hc
          have e1:((x:Int) == (y:Int))=false:=by rw [beq_eq_false_iff_ne];omega
          clear hc
          go_wp2_with fail
          go_roundg (l.length - (i+1))
          case measure=>have:=HI.out;omega
          case rel=>exact ⟨i+1,HI.out,rfl,by go_num,Lib.hid fun q z hq hz=>by
            by_cases e:q<i
            · exact HN.out q z e hz
            · obtain rfl:q=i:=by omega
              rw [HY.out] at hz;cases hz;exact fun h=>HC.out h.symm,rfl⟩
      · obtain rfl:i=l.length:=by omega
        clear hlt hi
        go_wp2_with fail
        go_ret
        refine ⟨⟨-1,rfl,?_⟩,rfl⟩
        rw [show decide (0<=(-1:Int))=false by decide]
        cases hc:l.contains x with
        | false=>rfl
        | true =>
          obtain ⟨q,hq⟩:=List.getElem?_of_mem (List.contains_iff_mem.1 hc)
          exact absurd rfl (HN.out q x (List.getElem?_eq_some_iff.1 hq).1 hq)
set_option maxRecDepth 100000 in
theorem contains_any (l:List Nat) (x:Nat) (v:Value) (w:World) (hv:Small w v l) (hl:l.length<=1000):Calls Tryz.prog 148 #[v,.int .u8 (x:Nat)] w fun e w'=>e = .returned (.bool (l.contains x))/\w=w':=by
  have H:=Lib.hid (index_any l x v w hv hl)
  obtain ⟨p,n,c,rfl⟩:∃ p n c,v = .slice p n c:=by
    rcases hv with ⟨_,rfl⟩ | ⟨g,rfl,_⟩ <;> exact ⟨_,_,_,rfl⟩
  clear hv hl
  generalize l.contains x=b at H ⊢
  go_enter Tryz.func148,Tryz.ntmps148
  go_wp2_with fail
  refine H.out.mono ?_
  rintro e w' ⟨⟨k,rfl,hk⟩,rfl⟩
  go_wp2_with fail
  go_ret
  exact ⟨by rw [<- hk];rfl,rfl⟩
end Go.Proofs.YtagebkachdmnbaaGreatDoor.Chk
end
section
namespace Go.Proofs.YtagebkachdmnbaaGreatDoor.Chk
open Go.RowKit Go.Proofs.YtagebkachdmnbaaGreatDoor.Mem Go.Proofs.YtagebkachdmnbaaGreatDoor.Expr Go.Proofs.YtagebkachdmnbaaGreatDoor.Prog Go.Lib
def boolC (b:Bool):Array Value:=#[.bool b]
theorem small_keep {w w':World} {v:Value} {l:List Nat} {g:Nat} {t:TypeId} {cs:Array Value} (h:Small w v l) (hg:Sits w g t cs) (hne:5≠t) (k:Keeps (fun x=>x=g) w w'):Small w' v l:=by
  rcases h with h | ⟨x,hv,hs⟩
  · exact .inl h
  · exact .inr ⟨x,hv,hs.keep k (fun e=>hs.differ hg hne e)⟩
theorem small_below {w w':World} {v:Value} {l:List Nat} (h:Small w v l) (hb:Below w.heap.size w w'):Small w' v l:=by
  rcases h with h | ⟨x,hv,hs⟩
  · exact .inl h
  · exact .inr ⟨x,hv,hs.below hb hs.lt⟩
theorem small_slice {w:World} {v:Value} {l:List Nat} (h:Small w v l):∃ p n c,v = .slice p n c:=by
  rcases h with ⟨_,rfl⟩ | ⟨g,rfl,_⟩ <;> exact ⟨_,_,_,rfl⟩
theorem boxed_told {w:World} {g:Nat} {b b':Bool} (h:Sits w g 4 (boolC b)) (o:Obj):ToldS g 4 (boolC b') w (.returned (.tuple #[])) ((w.setCell ⟨g,0,none⟩ (.bool b')).alloc o) :=
  ⟨rfl,(h.put 0 (.bool b')).alloc o,((Keeps.refl (fun x=>x=g) w).put (p:=⟨g,0,none⟩) (.inl rfl) _).alloc o⟩
set_option maxRecDepth 100000 in
theorem exprMay1_any (ks:List Nat) (kv:Value) (gm gk:Nat) (hl:ks.length<=1000) (e:Ex) (s:Bool) (w:World) (hK:Sits w gk 158 #[kv]) (hS:Small w kv ks) (hB:Sits w gm 4 (boolC s)) :
    Calls Tryz.prog 147 #[leafVal e,.pointer (some ⟨gm,0,none⟩),.pointer (some ⟨gk,0,none⟩)] w (ToldS gm 4 (boolC (kindL ks e s)) w):=by
  obtain ⟨p,n,c,rfl⟩:=small_slice hS
  have b0:w.cell? ⟨gm,0,none⟩=some (.bool s):=hB.cell 0
  have k0:w.cell? ⟨gk,0,none⟩=some (.slice p n c):=hK.cell 0
  have f0:=hB.free 0
  have lm:=hB.lt
  have lk:=hK.lt
  have HC:=Lib.hid (fun x (W:World) (hb:Below w.heap.size w W)=>contains_any ks x (.slice p n c) W (small_below hS hb) hl)
  have HT:=Lib.hid (fun b' o=>boxed_told (b':=b') hB o)
  have HTL:=Lib.hid (fun o=>(Below.refl w.heap.size w).alloc (Nat.le_refl _) o)
  unfold kindL leafVal
  generalize leafIt e=it
  obtain ⟨q,op,nn,t,i,x⟩:=it
  simp only [exprCells]
  cases s with
  | false =>
    rw [Bool.false_and]
    clear hK hS hB HC
    go_enter Tryz.func147,Tryz.ntmps147
    go_wp2_with fail
    go_end0
    exact HT.out _ _
  | true =>
    rw [Bool.true_and]
    have HR:=Lib.hid (HC.out q)
    generalize ks.contains q=r at HR ⊢
    clear hK hS hB HC
    have HN:=Lib.hid (Sits.new w 204 #[.int .u8 q,.int .u8 op,.int .u64 nn,.int .u8 t,.int .u8 i,.int .u8 x,.pointer none,.pointer none])
    go_enter Tryz.func147,Tryz.ntmps147
    go_wp2_with fail
    refine (HR.out _ (HTL.out _)).mono ?_
    rintro e w' ⟨rfl,rfl⟩
    go_wp2_with fail
    go_end0
    exact HT.out _ _
theorem exprMay1_enters:Expr.Enters 147:=enters_of Tryz.func147 (by kernel_rfl) rfl
theorem exprMay1_tale (ks:List Nat) (kv:Value) (gm gk:Nat) (hl:ks.length<=1000) {W0:World} {b:Bool} (hK:Sits W0 gk 158 #[kv]) (hS:Small W0 kv ks) (hB:Sits W0 gm 4 (boolC b)) :
    TaleE 147 gm 4 #[.pointer (some ⟨gm,0,none⟩),.pointer (some ⟨gk,0,none⟩)] boolC (kindL ks) W0 where
  enters:=exprMay1_enters
  neE:=by decide
  call:=fun e s w _ _ h1 h2=>exprMay1_any ks kv gm gk hl e s w (hK.keep h2 (fun e=>hK.differ hB (by decide) e)) (small_keep hS hB (by decide) h2) h1
set_option maxRecDepth 100000 in
theorem exMay_any (e:Option Ex) (ho:okO e) (ks:List Nat) (hl:ks.length<=1000) (v kv:Value) (w:World) (hT:Tree w (trO e) v) (hS:Small w kv ks) :
    Calls Tryz.prog 84 #[v,kv] w fun e' w'=>Made (.returned (.bool (exMay ks e))) w e' w':=by
  have HM:=Lib.hid (fun W (hb:Below w.heap.size w W)=>may_any (trO e) v W (hT.below hb))
  rw [show fitsF (trO e) 12=e.isSome by cases e with
    | none=>rfl
    | some e=>exact fits_of e ho.1 12 ho.2] at HM
  have HW:=Lib.hid (fun (W W2:World) (gk:Nat) (hb:Below w.heap.size w W) (hK:Sits W gk 158 #[kv]) (gm:Nat) (hB:Sits W gm 4 (boolC e.isSome))=>WalkE_any (exprMay1_tale ks kv gm gk hl hK (small_below hS hb) hB) e ho v e.isSome (hT.below hb) hB)
  have HE:=Lib.hid (show exFoldO (kindL ks) e e.isSome=exMay ks e by cases e <;> rfl)
  obtain ⟨p,rfl,_⟩:=hT.ptr
  obtain ⟨p2,n2,c2,rfl⟩:=small_slice hS
  have hb0:Below w.heap.size w (w.alloc (.cells #[.slice p2 n2 c2] 158)):=(Below.refl _ w).alloc (Nat.le_refl _) _
  have HB0:=Lib.hid hb0
  have HK0:=Lib.hid (Sits.new w 158 #[.slice p2 n2 c2])
  clear hT hS ho hb0
  rw [HE.out] at HW
  generalize e.isSome=b at HM HW
  generalize exMay ks e=r at HW ⊢
  clear HE
  go_enter Tryz.func84,Tryz.ntmps84
  go_wp2_with fail
  generalize w.alloc (.cells #[.slice p2 n2 c2] 158)=w1 at HB0 HK0 ⊢
  generalize hgk:w.heap.size=gk at HK0 ⊢
  have HG:=Lib.hid hgk
  clear hgk
  refine (HM.out _ HB0.out).mono ?_
  rintro e' w2 ⟨rfl,hb⟩
  have HB2:=Lib.hid (HB0.out.trans (hb.mono HB0.out.size))
  have HK2:=Lib.hid (HK0.out.below hb HK0.out.lt)
  clear hb
  have hb3:Below w.heap.size w (w2.alloc (.cells #[.bool b] 4)):=HB2.out.alloc HB2.out.size _
  have HB3:=Lib.hid hb3
  have HK3:=Lib.hid (show Sits (w2.alloc (.cells #[.bool b] 4)) gk 158 #[.slice p2 n2 c2] from HK2.out.alloc _)
  have HM3:=Lib.hid (show Sits (w2.alloc (.cells #[.bool b] 4)) w2.heap.size 4 (boolC b) from Sits.new w2 _ _)
  clear hb3
  go_wp2_with fail
  generalize w2.alloc (.cells #[.bool b] 4)=w3 at HB3 HK3 HM3 ⊢
  have HGM:=Lib.hid HB2.out.size
  generalize w2.heap.size=gm at HM3 HGM ⊢
  refine (HW.out w3 w3 gk HB3.out HK3.out gm HM3.out).mono ?_
  rintro e' w4 ⟨rfl,hs,hk⟩
  have HF:=Lib.hid (behind HB3.out hk HB3.out.size (fun x e=>by have:=HGM.out;omega))
  have c0:w4.cell? ⟨gm,0,none⟩=some (.bool r):=hs.cell 0
  have lm:=hs.lt
  clear hs hk
  go_wp2_with fail
  go_ret
  exact ⟨rfl,HF.out⟩
end Go.Proofs.YtagebkachdmnbaaGreatDoor.Chk
end
section
namespace Go.Proofs.YtagebkachdmnbaaGreatDoor.Chk
open Go.RowKit Go.Proofs.YtagebkachdmnbaaGreatDoor.Mem Go.Proofs.YtagebkachdmnbaaGreatDoor.Expr Go.Proofs.YtagebkachdmnbaaGreatDoor.Prog Go.Lib
def preL (m:Let) (i:Nat):List UInt8:=((List.range i).filter m).map fun i=>(97+i).toUInt8
theorem preL_yes (m:Let) (i:Nat) (h:m i=true):preL m (i+1)=preL m i ++ [(97+i).toUInt8]:=by
  simp [preL,List.range_succ,List.filter_append,h]
theorem preL_no (m:Let) (i:Nat) (h:m i=false):preL m (i+1)=preL m i:=by
  simp [preL,List.range_succ,List.filter_append,h]
theorem preL_len (m:Let) (i:Nat):(preL m i).length<=i:=by
  have:=List.length_filter_le m (List.range i)
  simpa [preL] using this
def byteV (c:UInt8):Value:=.int .u8 (c.toNat:Int)
theorem u8Info:(Tryz.prog.info? 5).map (fun i=>(i.zero,i.size,i.bytes))=some (some (.int .u8 0),1,1):=by kernel_rfl
theorem text_conv {w:World} {B:Nat} {v:Value} {l:List UInt8} (h:w.ownsRow B 5 1 v l.length (l.map byteV)):(convert 158 9 v).run Tryz.prog w = .ok (.string (str l)) w:=by
  rcases h.2 with ⟨rfl,hl⟩ | ⟨g,cap,cur,rfl,_⟩
  · have:l=[]:=by simpa using hl
    subst this
    exact run_convert_nil_bytes (P:=Tryz.prog) w 158 9 5 0 Tryz.underlying158 Tryz.underlying5 Tryz.underlying9
  · refine run_convert_bytes_back (P:=Tryz.prog) w 158 9 5 ⟨g,0,none⟩ cap l Tryz.underlying158 Tryz.underlying5 Tryz.underlying9 (fun j hj=>?_)
    have:=h.cells (g:=g) rfl j (byteV l[j]) (by rw [List.getElem?_map,List.getElem?_eq_getElem hj];rfl)
    exact this
set_option maxRecDepth 100000 in
set_option maxHeartbeats 1000000 in
theorem text_any (g:Nat) (m:Let) (w:World) (hS:Sits w g 252 (letC m)):Calls Tryz.prog 153 #[.pointer (some ⟨g,0,none⟩)] w fun e w'=>Made (.returned (.string (str (lettersOf m)))) w e w':=by
  obtain ⟨i0,hi,hz0,hz1,hz2⟩:=info_parts u8Info
  have HS:=Lib.hid hS
  have lg0:=Lib.hid hS.lt
  clear hS
  rw [show lettersOf m=preL m 26 from rfl]
  go_enter Tryz.func153,Tryz.ntmps153
  go_wp2_with fail
  go_loopg [3,7] 26 (fun gg v3 v7 wx=>∃ i,i<=26/\gg=26 - i/\v7 = .int .i64 (i:Nat)/\Hid (wx.ownsRow w.heap.size 5 1 v3 (preL m i).length ((preL m i).map byteV))/\Hid (Below w.heap.size w wx))
  case atStart=>exact ⟨0,by omega,by omega,rfl,Lib.hid (World.ownsRow_nil _ _ _ _),Lib.hid (Below.refl _ _)⟩
  case round =>
    obtain ⟨i,hle,rfl,rfl,HO,HB⟩:=hrel
    have hs:=HS.out.below HB.out lg0.out
    have lg:=hs.lt
    by_cases hlt:i<26
    · have c0:wr.cell? ⟨g,i,none⟩=some (.bool (m i)):=(hs.cell i).trans (letC_at m hlt)
      have i1:(i:Int)<26:=by omega
      have i2:(0:Int)<=(i:Int):=by omega
      have HI:=Lib.hid hlt
      clear hle hlt hs
      cases hm:m i with
      | true =>
        have HN:=Lib.hid (preL_yes m i hm)
        rw [hm] at c0
        have hv:((97+i).toUInt8.toNat:Int)=97+(i:Int):=by
          have:=HI.out
          simp;omega
        have HV:=Lib.hid hv
        clear hm hv
        obtain ⟨p3,c3,hv3⟩:=own_slice HO.out
        subst hv3
        have ho:=HO.out
        go_wp2_with fail
        go_quiet (fail)
        go_wp2_with (at_builtin;refine wpList_append_own _ rfl (.tmp 14) (.tmp 18) 158 rfl w.heap.size 5 i0 _ 1 1 Tryz.underlying158 hi hz0 hz1 hz2 rfl (by decide) _ (preL m i).length ((preL m i).map byteV) rfl ?c0 ⟨_,0,none⟩ 1 1 [byteV ((97+i).toUInt8)] rfl rfl ?c1 ?c2 ?c3 ?c4 ?c5 ?_)
        case c0=>exact World.ownsRow.alloc (show (wr.drewN nq).ownsRow _ _ _ _ _ _ from ho) _
        case c1 =>
          intro j u hu
          have:=(Sits.new (wr.drewN nq) 5 #[.int .u8 (97+(i:Int))]).cell j
          rw [Addr.add_lit,Nat.zero_add]
          refine this.trans ?_
          rw [<- hu]
          rcases j with _ | j
          · have h:=HV.out
            show some (Value.int IntKind.u8 (97+(i:Int)))=some (Value.int IntKind.u8 ((97+i).toUInt8.toNat:Int))
            rw [h]
          · simp
        case c2=>intro u hu;simp only [List.mem_singleton] at hu;subst hu;rfl
        case c3=>unfold maxLen;have:=preL_len m i;have:=HI.out;omega
        case c4=>have:=preL_len m i;have:=HI.out;omega
        case c5=>have:=HB.out.size;simp;omega
        intro v' w1 own' grow _
        have HO2:=Lib.hid own'
        have HB2:=Lib.hid (show Below w.heap.size w w1 from ((show Below w.heap.size w (wr.drewN nq) from HB.out.trans ⟨rfl,rfl,rfl,Nat.le_refl _,fun _ _=>rfl⟩).alloc (show w.heap.size<=wr.heap.size from HB.out.size) _).grown grow (by have:=HB.out.size;simp;omega) (fun k hk=>(ho.lt k hk).1))
        obtain ⟨p4,c4,hv4⟩:=own_slice own'
        subst hv4
        clear own' grow ho c0
        go_wp2_with fail
        go_roundg (26 - (i+1))
        case measure=>have:=HI.out;omega
        case rel=>exact ⟨i+1,HI.out,rfl,by go_num,Lib.hid (by rw [HN.out];simpa using HO2.out),HB2⟩
      | false =>
        have HN:=Lib.hid (preL_no m i hm)
        rw [hm] at c0
        clear hm
        obtain ⟨p3,c3,hv3⟩:=own_slice HO.out
        subst hv3
        go_wp2_with fail
        go_quiet (fail)
        go_wp2_with fail
        go_roundg (26 - (i+1))
        case measure=>have:=HI.out;omega
        case rel=>exact ⟨i+1,HI.out,rfl,by go_num,Lib.hid (by rw [HN.out];exact HO.out),Lib.hid (HB.out.trans ⟨rfl,rfl,rfl,Nat.le_refl _,fun _ _=>rfl⟩)⟩
    · obtain rfl:i=26:=by omega
      have HC:=Lib.hid (text_conv HO.out)
      clear hle hlt hs
      obtain ⟨p3,c3,hv3⟩:=own_slice HO.out
      subst hv3
      have hc:=HC.out
      go_wp2_with fail
      go_ret
      exact ⟨rfl,HB.out⟩
end Go.Proofs.YtagebkachdmnbaaGreatDoor.Chk
end
