/- Part 41 of the proof: what is used of the texts TelG, TelH, TelI. -/
import Derived.Test.YtbkdappgmcebaaaGreatDoorLD9
import Derived.Test.YtbkdappgmcebaaaGreatDoorLD0
import Derived.Test.YtbkdappgmcebaaaGreatDoorLC8
section
namespace Go.Proofs.YtbkdappgmcebaaaGreatDoor.Chk
open Go.RowKit Go.Proofs.YtbkdappgmcebaaaGreatDoor.Mem Go.Proofs.YtbkdappgmcebaaaGreatDoor.Expr Go.Proofs.YtbkdappgmcebaaaGreatDoor.Prog Go.Lib
def u64V (n:Nat):Value:=.int .u64 (n:Nat)
def cellsU (L:List Nat) (i:Nat):List Value:=(L.take i).map u64V
theorem cellsU_next {L:List Nat} {i n:Nat} (h:L[i]? = some n):cellsU L (i+1)=cellsU L i ++ [u64V n]:=by simp [cellsU,List.take_add_one,h]
theorem cellsU_all {L:List Nat}:cellsU L L.length=L.map u64V:=by simp [cellsU]
theorem knF_step {l:List (Nat × Nat)} {m:Nat} {x:Nat × Nat} (hx:l[m]? = some x):knF (l.reverse.take (l.length - m))=upd (knF (l.reverse.take (l.length - (m+1)))) x:=by
  have hm:m<l.length:=(List.getElem?_eq_some_iff.1 hx).1
  have:=rev_at (l:=l) (k:=l.length - (m+1)) (t:=m) (x:=x) (by omega) (by omega) hx
  rw [show l.length - m=l.length - (m+1)+1 by omega,this,knF_snoc]
theorem u64_row {w:World} {B:Nat} {v:Value} {L:List Nat} (h:w.ownsRow B 50 1 v L.length (L.map u64V)) (hL:L.length<=1000):URow w v L:=by
  rcases h.2 with ⟨rfl,hl⟩ | ⟨g,cap,cur,rfl,_⟩
  · have:L=[]:=by simpa using hl
    subst this
    exact .inl ⟨rfl,_,_,rfl⟩
  · refine .inr ⟨g,0,cap,rfl,by omega,fun i a ha=>?_⟩
    have:=h.cells (g:=g) rfl i (u64V a) (by rw [List.getElem?_map,ha];rfl)
    rw [Nat.zero_add]
    rwa [Addr.add_lit,Nat.zero_add] at this
set_option maxRecDepth 100000 in
set_option maxHeartbeats 4000000 in
theorem start_doc (t:Rt) (locs:List UInt8) (hl:locs.length<=1000) (vi vt va:Value) (w:World) (hT:RtV w t vi vt va):Calls Tryz.prog 19 #[.agg (rtCells vi vt t.all va),.string (str locs)] w fun e w'=>∃ v,e = .returned v/\URow w' v (locs.map fun c=>knF t.init.reverse c.toNat)/\Below w.heap.size w w':=by
  obtain ⟨pi,ci,rfl⟩:=hT.init.len
  obtain ⟨pt,ct,rfl,hlt⟩:=hT.threads.len
  obtain ⟨pa,ca,rfl,hla⟩:=hT.ask.len
  obtain ⟨i0,hi,hz0,hz1,hz2⟩:=info_parts u64Info
  have hli:t.init.length<=1000000:=by obtain ⟨_,_,_,h⟩:=RowAt.len hT.init;exact h
  obtain ⟨li,lt,al,la⟩:=t
  simp only [rtCells] at hT hlt hla hli ⊢
  have hb:Below w.heap.size w (w.alloc (.cells #[.slice pi li.length ci,.slice pt lt.length ct,.bool al,.slice pa la.length ca] 37)):=(Below.refl _ _).alloc (Nat.le_refl _) _
  have HT:=Lib.hid (hT.below hb)
  have HB0:=Lib.hid hb
  have HBX:=Lib.hid (Sits.new w 37 #[.slice pi li.length ci,.slice pt lt.length ct,.bool al,.slice pa la.length ca])
  have j2:(li.length:Int)<=1000000:=by omega
  have j4:(locs.length:Int)<=1000:=by omega
  have HLL:=Lib.hid hl
  have hsl:(str locs).size=locs.length:=strSize locs
  have HSX:=Lib.hid (show ∀ (i:Nat) (c:UInt8),locs[i]? = some c->(str locs).data[i]? = some c from fun i c h=>by simpa [str] using h)
  generalize str locs=S at hsl HSX ⊢
  have HSZ:=Lib.hid (show w.heap.size<=(w.alloc (.cells #[.slice pi li.length ci,.slice pt lt.length ct,.bool al,.slice pa la.length ca] 37)).heap.size from hb.size)
  clear hT hb hla hlt hli hl
  go_enter Tryz.func19,Tryz.ntmps19
  go_wp2_with fail
  generalize w.alloc (.cells #[.slice pi li.length ci,.slice pt lt.length ct,.bool al,.slice pa la.length ca] 37)=w1 at HT HB0 HBX HSZ ⊢
  generalize w.heap.size=gb at HBX ⊢
  go_loopg [5,6] locs.length (fun gg v5 v6 wx=>∃ i,i<=locs.length/\gg=locs.length - i/\v6 = .int .i64 (i:Nat)/\Hid (wx.ownsRow w1.heap.size 50 1 v5 i (cellsU (locs.map fun c=>knF li.reverse c.toNat) i))/\Hid (Below w1.heap.size w1 wx))
  case atStart=>exact ⟨0,by omega,by omega,rfl,Lib.hid (World.ownsRow_nil _ _ _ _),Lib.hid (Below.refl _ _)⟩
  case round =>
    obtain ⟨i,hle,rfl,rfl,HO,HBj⟩:=hrel
    by_cases hlt:i<locs.length
    · have hc:locs[i]? = some locs[i]:=List.getElem?_eq_getElem hlt
      generalize locs[i]=c at hc
      have c256:(c.toNat:Int)<256:=by have:=c.toNat_lt;omega
      have hbd:i<S.size:=by omega
      have hd:S[i]'hbd=c:=by
        have:=HSX.out i c hc
        rw [Array.getElem?_eq_getElem (by exact hbd)] at this
        exact Option.some.inj this
      have i1:(i:Int)<(locs.length:Int):=by omega
      have i2:(0:Int)<=(i:Int):=by omega
      have HI:=Lib.hid hlt
      have HTK:=Lib.hid (cellsU_next (L:=locs.map fun c=>knF li.reverse c.toNat) (i:=i) (n:=knF li.reverse c.toNat) (by rw [List.getElem?_map,hc];rfl))
      have hbx:=HBX.out.below HBj.out HBX.out.lt
      have c0:wr.cell? ⟨gb,0,none⟩=some (.slice pi li.length ci):=hbx.cell 0
      have lb:=hbx.lt
      clear hc hlt hle hbx
      obtain ⟨p3,c3,hv3⟩:=own_slice HO.out
      subst hv3
      go_wp2_with fail
      clear c0 lb
      go_loopg [7,8] li.length (fun gg v7 v8 wx=>∃ (k:Nat) (z:Int) (n:Nat),k<=li.length/\gg=0+k/\v8 = .int .i64 z/\Hid (z=(k:Int) - 1)/\v7 = .int .u64 (n:Nat)/\Hid (n=knF (li.reverse.take (li.length - k)) c.toNat)/\Hid (wx.ownsRow w1.heap.size 50 1 (.slice p3 i c3) i (cellsU (locs.map fun c=>knF li.reverse c.toNat) i))/\Hid (Below w1.heap.size w1 wx))
      case atStart=>exact ⟨li.length,_,0,by omega,by omega,rfl,Lib.hid rfl,rfl,Lib.hid (by rw [Nat.sub_self];rfl),HO,HBj⟩
      case round =>
        clear HO HBj
        obtain ⟨k,z,n,hk,rfl,rfl,HZ,rfl,HN,HO,HBj⟩:=hrel
        have hbx:=HBX.out.below HBj.out HBX.out.lt
        have c0:wr.cell? ⟨gb,0,none⟩=some (.slice pi li.length ci):=hbx.cell 0
        have lb:=hbx.lt
        by_cases hk0:k=0
        · subst hk0
          have z0:¬ ((0:Int)<=z):=by have:=HZ.out;omega
          have HV:=Lib.hid (show n=knF li.reverse c.toNat by rw [HN.out,Nat.sub_zero,List.take_of_length_le (by rw [List.length_reverse];exact Nat.le_refl _)])
          have ho:=HO.out
          clear hk hbx
          go_wp2_with (at_builtin;refine wpList_append_own _ rfl (.tmp 39) (.tmp 41) 47 rfl w1.heap.size 50 i0 _ 1 8 Tryz.underlying47 hi hz0 hz1 hz2 rfl (by decide) _ i (cellsU (locs.map fun c=>knF li.reverse c.toNat) i) rfl ?c0 ⟨_,0,none⟩ 1 1 [u64V n] rfl rfl ?c1 ?c2 ?c3 ?c4 ?c5 ?_)
          case c0=>exact World.ownsRow.alloc ho _
          case c1=>intro j u hu;exact hu
          case c2=>rfl
          case c3=>unfold maxLen;have:=HI.out;have:=HLL.out;omega
          case c4=>have:=HI.out;have:=HLL.out;omega
          case c5=>have:=HBj.out.size;simp;omega
          intro v' w3 own' grow _
          have HO2:=Lib.hid own'
          have HB2:=Lib.hid (show Below w1.heap.size w1 w3 from (HBj.out.alloc (show w1.heap.size<=wr.heap.size from HBj.out.size) _).grown grow (by have:=HBj.out.size;simp;omega) (fun k hk=>(ho.lt k hk).1))
          clear own' grow ho c0 lb
          go_wp2_with fail
          go_roundg (locs.length - (i+1))
          case measure=>have:=HI.out;omega
          case rel=>exact ⟨i+1,HI.out,rfl,by go_num,Lib.hid (by rw [HTK.out,<- HV.out];exact HO2.out),HB2⟩
        · obtain ⟨m,rfl⟩:∃ m,k=m+1:=⟨k - 1,by omega⟩
          obtain rfl:z=(m:Int):=by have:=HZ.out;omega
          have hx:li[m]? = some li[m]:=List.getElem?_eq_getElem (by omega)
          generalize li[m]=x at hx
          obtain ⟨g,o,cap',e1,d0,d1⟩:=(HT.out.below HBj.out).init.at hx
          injection e1 with e1 _ e2
          subst e1 e2
          have lg:=World.block_lt_of_cell? _ _ d0
          have z0:(0:Int)<=(m:Int):=by omega
          have z1:(m:Int)<(li.length:Int):=by omega
          have hst:=knF_step hx
          have HK:=Lib.hid hk
          clear hx hk hk0 hbx HZ
          by_cases hq:x.1=c.toNat
          · have HV:=Lib.hid (show x.2=knF (li.reverse.take (li.length - m)) c.toNat by rw [hst,upd,if_pos hq.symm])
            have q1:((x.1:Int) == (c.toNat:Int))=true:=beq_iff_eq.2 (by omega)
            clear hst hq
            go_wp2_with fail
            go_quiet (fail)
            go_wp2_with fail
            go_roundg (0+m)
            case measure=>omega
            case rel=>exact ⟨m,_,x.2,by have:=HK.out;omega,rfl,rfl,Lib.hid (by go_num),rfl,HV,HO,Lib.hid (drw HBj.out)⟩
          · have HV:=Lib.hid (show n=knF (li.reverse.take (li.length - m)) c.toNat by rw [hst,upd,if_neg (fun e=>hq e.symm)];exact HN.out)
            have q1:((x.1:Int) == (c.toNat:Int))=false:=beq_eq_false_iff_ne.2 (by omega)
            clear hst hq
            go_wp2_with fail
            go_quiet (fail)
            go_wp2_with fail
            go_roundg (0+m)
            case measure=>omega
            case rel=>exact ⟨m,_,n,by have:=HK.out;omega,rfl,rfl,Lib.hid (by go_num),rfl,HV,HO,Lib.hid (drw HBj.out)⟩
    · obtain rfl:i=locs.length:=by omega
      have HF:=Lib.hid (u64_row (L:=locs.map fun c=>knF li.reverse c.toNat) (by rw [List.length_map];have:=HO.out;rw [<- cellsU_all,List.length_map];exact this) (by rw [List.length_map];exact HLL.out))
      have i1:¬ ((locs.length:Int)<(locs.length:Int)):=by omega
      clear hlt hle
      go_wp2_with fail
      go_ret
      exact ⟨_,rfl,HF.out,HB0.out.trans (HBj.out.mono HB0.out.size)⟩
end Go.Proofs.YtbkdappgmcebaaaGreatDoor.Chk
end
section
namespace Go.Proofs.YtbkdappgmcebaaaGreatDoor.Chk
open Go.Proofs.YtbkdappgmcebaaaGreatDoor.Mem Go.Proofs.YtbkdappgmcebaaaGreatDoor.Expr Go.Proofs.YtbkdappgmcebaaaGreatDoor.Prog Go.Lib
theorem locOf {x:Nat} (h1:97<=x) (h2:x<=122) (h3:x≠114):isLoc x=true:=by simp [isLoc,h1,h2,h3]
theorem isLoc_zero:isLoc 0=false:=by decide
def ksOf (ask:Bool):List Nat:=if ask then [0,2,3] else [0,1]
theorem fold_kinds {l:List It} {ask:Bool} {k m:Nat} {e:Ex} (h:Sp l k e m):∀ b:Bool,(b && (l.drop k).all fun a=>kindOk ask a.kind)=(exFold (kindL (ksOf ask)) e b && (l.drop m).all fun a=>kindOk ask a.kind):=by
  induction h with
  | @num k a hk h0=>intro b;rw [all_dropG hk,h0];cases ask <;> simp [exFold,kindL,ksOf,kindOk,leafIt]
  | @reg k a hk h0 _=>intro b;rw [all_dropG hk,h0];cases ask <;> simp [exFold,kindL,ksOf,kindOk,leafIt]
  | @of k a hk h0 _ _=>intro b;rw [all_dropG hk,h0];cases ask <;> simp [exFold,kindL,ksOf,kindOk,leafIt]
  | @loc k a hk h0 _ _ _=>intro b;rw [all_dropG hk,h0];cases ask <;> simp [exFold,kindL,ksOf,kindOk,leafIt]
  | @one k a e m hk h0 _ _ ih=>intro b;rw [all_dropG hk,h0,show kindOk ask 4=true by cases ask <;> rfl,Bool.true_and,ih b,exFold]
  | @two k a e f m j hk h0 _ _ _ _ ih1 ih2=>intro b;rw [all_dropG hk,h0,show kindOk ask 5=true by cases ask <;> rfl,Bool.true_and,ih1 b,ih2,exFold]
theorem fold_leafs {l:List It} {i:Nat} {k m:Nat} {e:Ex} (h:Sp l k e m):∀ s:Let,(s i || (l.drop k).any (apred (97+i)))=(exFold leafL e s i || (l.drop m).any (apred (97+i))):=by
  induction h with
  | @num k a hk h0=>intro s;rw [any_drop hk,show apred (97+i) a=false by simp [apred,h0]];simp [exFold,leafL,leafIt,putL,isLoc_zero]
  | @reg k a hk h0 _=>intro s;rw [any_drop hk,show apred (97+i) a=false by simp [apred,h0]];simp [exFold,leafL,leafIt,putL,isLoc_zero]
  | @of k a hk h0 _ _=>intro s;rw [any_drop hk,show apred (97+i) a=false by simp [apred,h0]];simp [exFold,leafL,leafIt,putL,isLoc_zero]
  | @loc k a hk h0 h1 h2 h3 =>
    intro s
    rw [any_drop hk,show apred (97+i) a=(i == a.x - 97) by
      simp only [apred,h0,decide_true,Bool.true_and]
      by_cases q:a.x=97+i
      · simp [q]
      · rw [decide_eq_false q];symm;exact beq_eq_false_iff_ne.2 (by omega)]
    show (s i || ((i == a.x - 97) || _))=((s i || (isLoc a.x && i == a.x - 97)) || _)
    rw [locOf h1 h2 h3,Bool.true_and,Bool.or_assoc]
  | @one k a e m hk h0 _ _ ih=>intro s;rw [any_drop hk,show apred (97+i) a=false by simp [apred,h0],Bool.false_or,ih s,exFold]
  | @two k a e f m j hk h0 _ _ _ _ ih1 ih2=>intro s;rw [any_drop hk,show apred (97+i) a=false by simp [apred,h0],Bool.false_or,ih1 s,ih2,exFold]
theorem fold_nobody {l:List It} {n:Nat} {k m:Nat} {e:Ex} (h:Sp l k e m):∀ s:Bool,(s || (l.drop k).any (npred n))=(exFold (nobodyL n) e s || (l.drop m).any (npred n)):=by
  induction h with
  | @num k a hk h0=>intro s;rw [any_drop hk,show npred n a=false by simp [npred,h0]];simp [exFold,nobodyL,leafIt]
  | @reg k a hk h0 _=>intro s;rw [any_drop hk,show npred n a=false by simp [npred,h0]];simp [exFold,nobodyL,leafIt]
  | @of k a hk h0 _ _=>intro s;rw [any_drop hk,show npred n a=decide (n<=a.t) by simp [npred,h0]];show (s || (decide (n<=a.t) || _))=((s || (decide ((2:Nat)=2) && decide (n<=a.t))) || _);rw [decide_eq_true rfl,Bool.true_and,Bool.or_assoc]
  | @loc k a hk h0 h1 h2 h3=>intro s;rw [any_drop hk,show npred n a=false by simp [npred,h0]];simp [exFold,nobodyL,leafIt]
  | @one k a e m hk h0 _ _ ih=>intro s;rw [any_drop hk,show npred n a=false by simp [npred,h0],Bool.false_or,ih s,exFold]
  | @two k a e f m j hk h0 _ _ _ _ ih1 ih2=>intro s;rw [any_drop hk,show npred n a=false by simp [npred,h0],Bool.false_or,ih1 s,ih2,exFold]
theorem whole_sp {l:List It} (h:wholeE l=true):∃ e,exOf l=some e/\Sp l 0 e l.length:=by
  unfold wholeE at h
  cases he:endF l (l.length+1) 0 with
  | none=>rw [he] at h;cases h
  | some q =>
    obtain ⟨m,d⟩:=q
    rw [he] at h
    simp only [Bool.and_eq_true,decide_eq_true_eq] at h
    obtain ⟨rfl,hd⟩:=h
    obtain ⟨e,hs,rfl⟩:=endF_sp _ _ _ _ he
    exact ⟨e,exOf_some hs hd,hs⟩
theorem pure_way {l:List It} (h:pureE l=true):(l=[]/\exOf l=none/\wholeE l=false) \/ (wholeE l=true/\l ≠ []/\∃ e,exOf l=some e/\Sp l 0 e l.length):=by
  unfold pureE at h
  by_cases h0:l.length=0
  · obtain rfl:l=[]:=List.eq_nil_of_length_eq_zero h0
    exact .inl ⟨rfl,exOf_nil,rfl⟩
  · rw [decide_eq_false h0,Bool.false_or] at h
    exact .inr ⟨h,fun e=>h0 (by rw [e];rfl),whole_sp h⟩
theorem rex_same {l:List It} {ask:Bool} (h:pureE l=true):exMay (ksOf ask) (exOf l)=rexF l ask:=by
  rcases pure_way h with ⟨rfl,h1,h2⟩ | ⟨h1,_,e,h2,h3⟩
  · rw [h1,rexF,h2];rfl
  · have:=fold_kinds (ask:=ask) h3 true
    rw [List.drop_zero,List.drop_length,List.all_nil,Bool.and_true,Bool.true_and] at this
    rw [h2,rexF,h1,Bool.true_and,exMay,this]
theorem none_same {l:List It} (h:pureE l=true):(!(exOf l).isSome)=decide (l.length=0):=by
  rcases pure_way h with ⟨rfl,h1,h2⟩ | ⟨h1,h0,e,h2,h3⟩
  · rw [h1];rfl
  · rw [h2,decide_eq_false (fun e=>h0 (List.eq_nil_of_length_eq_zero e))];rfl
theorem ask_letters {l:List It} (h:pureE l=true) (s:Let) (i:Nat):exFoldO leafL (exOf l) s i=(s i || l.any (apred (97+i))):=by
  rcases pure_way h with ⟨rfl,h1,h2⟩ | ⟨h1,h0,e,h2,h3⟩
  · rw [h1];simp [exFoldO]
  · have:=fold_leafs (i:=i) h3 s
    rw [List.drop_zero,List.drop_length,List.any_nil,Bool.or_false] at this
    rw [h2,exFoldO,this]
theorem ask_nobody {l:List It} (h:pureE l=true) (n:Nat):exFoldO (nobodyL n) (exOf l) false=l.any (npred n):=by
  rcases pure_way h with ⟨rfl,h1,h2⟩ | ⟨h1,h0,e,h2,h3⟩
  · rw [h1];simp [exFoldO]
  · have:=fold_nobody (n:=n) h3 false
    rw [List.drop_zero,List.drop_length,List.any_nil,Bool.or_false,Bool.false_or] at this
    rw [h2,exFoldO,this]
theorem any_same {α:Type} {p q:α->Bool}:∀ {l:List α},(∀ a ∈ l,p a=q a)->l.any p=l.any q:=by
  intro l
  induction l with
  | nil=>intro _;rfl
  | cons a r ih=>intro h;rw [List.any_cons,List.any_cons,h a (List.mem_cons_self ..),ih fun b hb=>h b (List.mem_cons_of_mem _ hb)]
theorem starts_same:∀ (l p:List (Nat × Nat)) (m:Let),(∀ j,m j=p.any fun y=>isLoc y.1 && (j == y.1 - 97))->(∀ y ∈ p,isLoc y.1=true)->startsF l m=initsD p l:=by
  intro l
  induction l with
  | nil=>intro p m _ _;rfl
  | cons x r ih =>
    intro p m hm hp
    rw [startsF,initsD]
    cases hx:isLoc x.1 with
    | false=>simp
    | true =>
      have e:m (x.1 - 97)=p.any (ipred x.1):=by
        rw [hm]
        refine any_same fun y hy=>?_
        have h1:=hp y hy
        rw [h1,Bool.true_and,ipred]
        have b1:97<=y.1:=by unfold isLoc at h1;simp at h1;omega
        have b2:97<=x.1:=by unfold isLoc at hx;simp at hx;omega
        by_cases q:y.1=x.1
        · rw [decide_eq_true q,q];simp
        · rw [decide_eq_false q];exact beq_eq_false_iff_ne.2 (by omega)
      rw [e,Bool.true_and,Bool.true_and]
      congr 1
      refine ih (p ++ [x]) _ (fun j=>?_) (fun y hy=>?_)
      · rw [putL,hm,List.any_append];simp [hx]
      · rcases List.mem_append.1 hy with h | h
        · exact hp y h
        · rw [List.mem_singleton] at h;rw [h];exact hx
theorem bsp_ends {l:List Prog.Mark} {k m:Nat} {b:Blk} (h:BSp l k b m):l[m]? = none \/ ∃ x,l[m]? = some x/\x.kind=0:=by
  induction h with
  | out h=>exact .inl h
  | stop h h0=>exact .inr ⟨_,h,h0⟩
  | plain _ _ _ _ _ ih=>exact ih
  | loop _ _ _ _ _ ih=>exact ih
  | cond _ _ _ _ _ _ _ ih=>exact ih
theorem any_end {l:List Prog.Mark} {p:Prog.Mark->Bool} (hp:∀ x:Prog.Mark,x.kind=0->p x=false) {m:Nat} (h:l[m]? = none \/ ∃ x,l[m]? = some x/\x.kind=0):(l.drop m).any p=(l.drop (m+1)).any p:=by
  rcases h with h | ⟨x,h,h0⟩
  · have:=List.getElem?_eq_none_iff.1 h
    rw [List.drop_eq_nil_of_le this,List.drop_eq_nil_of_le (by omega)]
  · rw [any_drop h,hp x h0,Bool.false_or]
theorem all_end {l:List Prog.Mark} {p:Prog.Mark->Bool} (hp:∀ x:Prog.Mark,x.kind=0->p x=true) {m:Nat} (h:l[m]? = none \/ ∃ x,l[m]? = some x/\x.kind=0):(l.drop m).all p=(l.drop (m+1)).all p:=by
  rcases h with h | ⟨x,h,h0⟩
  · have:=List.getElem?_eq_none_iff.1 h
    rw [List.drop_eq_nil_of_le this,List.drop_eq_nil_of_le (by omega)]
  · rw [all_dropG h,hp x h0,Bool.true_and]
theorem fold_any {σ:Type} {R:Mk->Nat->Nat->σ->σ} {f:σ->Bool} {p:Prog.Mark->Bool} (hp:∀ x:Prog.Mark,x.kind=0->p x=false) {l:List Prog.Mark}
    (hR:∀ x ∈ l,x.kind≠0->∀ nt ne s,(x.kind≠8->ne=0)->(x.kind≠8->x.kind≠9->nt=0)->f (R (mkOf x) nt ne s)=(f s || p x)) {k m:Nat} {b:Blk} (h:BSp l k b m) :
    ∀ (room:Nat) (s:σ),b.deep<=room->(f s || (l.drop k).any p)=(f (b.fold R room s) || (l.drop m).any p):=by
  induction h with
  | out _=>intro room s _;simp only [Blk.fold]
  | stop _ _=>intro room s _;simp only [Blk.fold]
  | @plain k m x r hx h0 h8 h9 _ ih =>
    intro room s hd
    have hk:(mkOf x).kind=x.kind:=rfl
    simp only [Blk.deep,hk,if_neg h8,if_neg h9] at hd
    obtain ⟨n,rfl⟩:∃ n,room=n+1:=⟨room - 1,by omega⟩
    simp only [Blk.fold,hk,if_neg h8,if_neg h9]
    rw [any_drop hx,<- Bool.or_assoc,<- hR x (List.mem_of_getElem? hx) h0 Blk.nil.len Blk.nil.len s (fun _=>rfl) (fun _ _=>rfl)]
    exact ih (n+1) _ (by omega)
  | @loop k j m x t r hx h9 h1 _ ih1 ih2 =>
    intro room s hd
    have hk:(mkOf x).kind=x.kind:=rfl
    have h8:x.kind≠8:=by omega
    simp only [Blk.deep,hk,if_neg h8,if_pos h9] at hd
    have:=t.deep_pos
    obtain ⟨n,rfl⟩:∃ n,room=n+1:=⟨room - 1,by omega⟩
    simp only [Blk.fold,hk,if_neg h8,if_pos h9]
    rw [any_drop hx,<- Bool.or_assoc,<- hR x (List.mem_of_getElem? hx) (by omega) t.len Blk.nil.len s (fun _=>rfl) (fun _ h=>absurd h9 h),ih1 n _ (by omega),any_end hp (bsp_ends h1)]
    exact ih2 (n+1) _ (by omega)
  | @cond k j i m x t e r hx h8 h1 h2 _ ih1 ih2 ih3 =>
    intro room s hd
    have hk:(mkOf x).kind=x.kind:=rfl
    simp only [Blk.deep,hk,if_pos h8] at hd
    have:=t.deep_pos
    obtain ⟨n,rfl⟩:∃ n,room=n+1:=⟨room - 1,by omega⟩
    simp only [Blk.fold,hk,if_pos h8]
    rw [any_drop hx,<- Bool.or_assoc,<- hR x (List.mem_of_getElem? hx) (by omega) t.len e.len s (fun h=>absurd h8 h) (fun h=>absurd h8 h),ih1 n _ (by omega),any_end hp (bsp_ends h1),ih2 n _ (by omega),any_end hp (bsp_ends h2)]
    exact ih3 (n+1) _ (by omega)
theorem fold_all {σ:Type} {R:Mk->Nat->Nat->σ->σ} {f:σ->Bool} {p:Prog.Mark->Bool} (hp:∀ x:Prog.Mark,x.kind=0->p x=true) {l:List Prog.Mark}
    (hR:∀ x ∈ l,x.kind≠0->∀ nt ne s,(x.kind≠8->ne=0)->(x.kind≠8->x.kind≠9->nt=0)->f (R (mkOf x) nt ne s)=(f s && p x)) {k m:Nat} {b:Blk} (h:BSp l k b m) :
    ∀ (room:Nat) (s:σ),b.deep<=room->(f s && (l.drop k).all p)=(f (b.fold R room s) && (l.drop m).all p):=by
  induction h with
  | out _=>intro room s _;simp only [Blk.fold]
  | stop _ _=>intro room s _;simp only [Blk.fold]
  | @plain k m x r hx h0 h8 h9 _ ih =>
    intro room s hd
    have hk:(mkOf x).kind=x.kind:=rfl
    simp only [Blk.deep,hk,if_neg h8,if_neg h9] at hd
    obtain ⟨n,rfl⟩:∃ n,room=n+1:=⟨room - 1,by omega⟩
    simp only [Blk.fold,hk,if_neg h8,if_neg h9]
    rw [all_dropG hx,<- Bool.and_assoc,<- hR x (List.mem_of_getElem? hx) h0 Blk.nil.len Blk.nil.len s (fun _=>rfl) (fun _ _=>rfl)]
    exact ih (n+1) _ (by omega)
  | @loop k j m x t r hx h9 h1 _ ih1 ih2 =>
    intro room s hd
    have hk:(mkOf x).kind=x.kind:=rfl
    have h8:x.kind≠8:=by omega
    simp only [Blk.deep,hk,if_neg h8,if_pos h9] at hd
    have:=t.deep_pos
    obtain ⟨n,rfl⟩:∃ n,room=n+1:=⟨room - 1,by omega⟩
    simp only [Blk.fold,hk,if_neg h8,if_pos h9]
    rw [all_dropG hx,<- Bool.and_assoc,<- hR x (List.mem_of_getElem? hx) (by omega) t.len Blk.nil.len s (fun _=>rfl) (fun _ h=>absurd h9 h),ih1 n _ (by omega),all_end hp (bsp_ends h1)]
    exact ih2 (n+1) _ (by omega)
  | @cond k j i m x t e r hx h8 h1 h2 _ ih1 ih2 ih3 =>
    intro room s hd
    have hk:(mkOf x).kind=x.kind:=rfl
    simp only [Blk.deep,hk,if_pos h8] at hd
    have:=t.deep_pos
    obtain ⟨n,rfl⟩:∃ n,room=n+1:=⟨room - 1,by omega⟩
    simp only [Blk.fold,hk,if_pos h8]
    rw [all_dropG hx,<- Bool.and_assoc,<- hR x (List.mem_of_getElem? hx) (by omega) t.len e.len s (fun h=>absurd h8 h) (fun h=>absurd h8 h),ih1 n _ (by omega),all_end hp (bsp_ends h1),ih2 n _ (by omega),all_end hp (bsp_ends h2)]
    exact ih3 (n+1) _ (by omega)
theorem mode_same (k md:Nat) (h:1<=k) (h9:k<=9):fitB (has k 2) ((modesOf k).contains md) (decide (md=0))=rmodeF k md:=by
  have:k=1 \/ k=2 \/ k=3 \/ k=4 \/ k=5 \/ k=6 \/ k=7 \/ k=8 \/ k=9:=by omega
  rcases this with rfl | rfl | rfl | rfl | rfl | rfl | rfl | rfl | rfl <;>
  · rw [Bool.eq_iff_iff]
    simp [fitB,has,hasL,modesOf,rmodeF]
    try omega
theorem reg_same (k rg:Nat) (h:1<=k) (h9:k<=9):fitB (has k 0) (decide (rg<8)) (decide (rg=0))=if rregK k then decide (rg<=7) else decide (rg=0):=by
  have e:decide (rg<8)=decide (rg<=7):=by rw [Bool.eq_iff_iff];simp;omega
  have:k=1 \/ k=2 \/ k=3 \/ k=4 \/ k=5 \/ k=6 \/ k=7 \/ k=8 \/ k=9:=by omega
  rw [e]
  rcases this with rfl | rfl | rfl | rfl | rfl | rfl | rfl | rfl | rfl <;> rfl
theorem loc_same (k:Nat) (a b:Bool) (h:1<=k) (h9:k<=9):fitB (has k 1) a b=if ratK k then a else b:=by
  have:k=1 \/ k=2 \/ k=3 \/ k=4 \/ k=5 \/ k=6 \/ k=7 \/ k=8 \/ k=9:=by omega
  rcases this with rfl | rfl | rfl | rfl | rfl | rfl | rfl | rfl | rfl <;> rfl
theorem a_same (k:Nat) (a b:Bool) (h:1<=k) (h9:k<=9):fitB (has k 3) a b=if raK k then a else b:=by
  have:k=1 \/ k=2 \/ k=3 \/ k=4 \/ k=5 \/ k=6 \/ k=7 \/ k=8 \/ k=9:=by omega
  rcases this with rfl | rfl | rfl | rfl | rfl | rfl | rfl | rfl | rfl <;> rfl
theorem b_same (k:Nat) (a b:Bool) (h:1<=k) (h9:k<=9):fitB (has k 4) a b=if k=6 then a else b:=by
  have:k=1 \/ k=2 \/ k=3 \/ k=4 \/ k=5 \/ k=6 \/ k=7 \/ k=8 \/ k=9:=by omega
  rcases this with rfl | rfl | rfl | rfl | rfl | rfl | rfl | rfl | rfl <;> rfl
theorem then_same (k nt:Nat) (h:1<=k) (h9:k<=9) (hnt:k≠8->k≠9->nt=0):fitB (has k 5) true (decide (nt=0))=true:=by
  have:k=1 \/ k=2 \/ k=3 \/ k=4 \/ k=5 \/ k=6 \/ k=7 \/ k=8 \/ k=9:=by omega
  rcases this with rfl | rfl | rfl | rfl | rfl | rfl | rfl | rfl | rfl <;> first | rfl | (rw [hnt (by decide) (by decide)];rfl)
theorem else_same (k ne:Nat) (h:1<=k) (h9:k<=9) (hne:k≠8->ne=0):fitB (has k 6) true (decide (ne=0))=true:=by
  have:k=1 \/ k=2 \/ k=3 \/ k=4 \/ k=5 \/ k=6 \/ k=7 \/ k=8 \/ k=9:=by omega
  rcases this with rfl | rfl | rfl | rfl | rfl | rfl | rfl | rfl | rfl <;> first | rfl | (rw [hne (by decide)];rfl)
theorem mark_same {x:Prog.Mark} (h0:x.kind≠0) (ha:pureE x.a=true) (hb:pureE x.b=true) {nt ne:Nat} (hne:x.kind≠8->ne=0) (hnt:x.kind≠8->x.kind≠9->nt=0):stMay (mkOf x) nt ne=rmarkF x:=by
  have e1:=rex_same (ask:=false) ha
  have e2:=rex_same (ask:=false) hb
  have e3:=none_same ha
  have e4:=none_same hb
  obtain ⟨k,rg,md,lc,la,lb⟩:=x
  dsimp only at h0 ha hb hne hnt e1 e2 e3 e4
  have e1':exMay [0,1] (exOf la)=rexF la false:=e1
  have e2':exMay [0,1] (exOf lb)=rexF lb false:=e2
  have eS:stMay (mkOf (Prog.Mark.mk k rg md lc la lb)) nt ne=(decide (1<=k) && decide (k<=9) && (fitB (has k 0) (decide (rg<8)) (decide (rg=0)) && fitB (has k 1) (isLoc lc) (decide (lc=0)) && fitB (has k 2) ((modesOf k).contains md) (decide (md=0)) &&
    fitB (has k 3) (exMay [0,1] (exOf la)) (!(exOf la).isSome) && fitB (has k 4) (exMay [0,1] (exOf lb)) (!(exOf lb).isSome) && fitB (has k 5) true (decide (nt=0)) && fitB (has k 6) true (decide (ne=0)))):=rfl
  have eR:rmarkF (Prog.Mark.mk k rg md lc la lb)=(if k=0 then true else if 9<k then false else rmodeF k md && ((if rregK k then decide (rg<=7) else decide (rg=0)) && ((if ratK k then isLoc lc else decide (lc=0)) &&
    ((if raK k then rexF la false else decide (la.length=0)) && (if k=6 then rexF lb false else decide (lb.length=0)))))):=rfl
  rw [eS,eR,e1',e2',e3,e4]
  by_cases h9:9<k
  · have n9:¬ k<=9:=by omega
    simp [h0,h9,n9]
  have k1:1<=k:=by omega
  have k9:k<=9:=by omega
  rw [reg_same k rg k1 k9,loc_same k _ _ k1 k9,mode_same k md k1 k9,a_same k _ _ k1 k9,b_same k _ _ k1 k9,then_same k nt k1 k9 hnt,else_same k ne k1 k9 hne,if_neg h0,if_neg h9,decide_eq_true k1,decide_eq_true k9]
  simp only [Bool.true_and,Bool.and_true]
  generalize rmodeF k md=m
  cases m <;> simp [Bool.and_assoc]
end Go.Proofs.YtbkdappgmcebaaaGreatDoor.Chk
end
section
namespace Go.Proofs.YtbkdappgmcebaaaGreatDoor.Chk
open Go.Proofs.YtbkdappgmcebaaaGreatDoor.Mem Go.Proofs.YtbkdappgmcebaaaGreatDoor.Expr Go.Proofs.YtbkdappgmcebaaaGreatDoor.Prog Go.Lib
theorem one_may {l:List Prog.Mark} (hd:(blkOf l).deep<=8) (hw:Prog.endOf l=l.length) (hp:∀ (k:Nat) (x:Prog.Mark),l[k]? = some x->pureE x.a=true/\pureE x.b=true) (b:Bool):(blkOf l).fold mayR 8 b=(b && marksD l):=by
  have hsp:=blkOf_sp l
  rw [hw] at hsp
  have:=fold_all (R:=mayR) (f:=id) (p:=rmarkF) (fun x h=>by rw [rmarkF,if_pos h]) (l:=l) (fun x hx h0 nt ne s hne hnt=>by
    obtain ⟨k,hk,hx⟩:=List.mem_iff_getElem.1 hx
    have hq:=hp k x (by rw [<- hx];exact List.getElem?_eq_getElem hk)
    show (s && stMay (mkOf x) nt ne)=_
    rw [mark_same h0 hq.1 hq.2 hne hnt];rfl) hsp 8 b hd
  rw [List.drop_zero,List.drop_length,List.all_nil,Bool.and_true] at this
  exact this.symm
theorem sts_same:∀ (ls:List (List Prog.Mark)),(∀ l ∈ ls,(blkOf l).deep<=8/\Prog.endOf l=l.length/\∀ (k:Nat) (x:Prog.Mark),l[k]? = some x->pureE x.a=true/\pureE x.b=true)->∀ b:Bool,stsMay (ls.map blkOf) b=(b && ls.all marksD):=by
  intro ls
  induction ls with
  | nil=>intro _ b;simp [stsMay]
  | cons l r ih =>
    intro h b
    obtain ⟨h1,h2,h3⟩:=h l (List.mem_cons_self ..)
    have hr:=ih fun x hx=>h x (List.mem_cons_of_mem _ hx)
    have:stsMay ((l :: r).map blkOf) b=stsMay (r.map blkOf) ((blkOf l).fold mayR 8 b):=rfl
    rw [this,hr,one_may h1 h2 h3,List.all_cons,Bool.and_assoc]
theorem loc_way {x i:Nat} (h:isLoc x=true \/ x=0):(isLoc x && i == x - 97)=decide (x=97+i):=by
  rcases h with h | rfl
  · have b:97<=x:=by unfold isLoc at h;simp at h;omega
    rw [h,Bool.true_and]
    by_cases q:x=97+i
    · rw [decide_eq_true q];exact beq_iff_eq.2 (by omega)
    · rw [decide_eq_false q];exact beq_eq_false_iff_ne.2 (by omega)
  · rw [isLoc_zero,Bool.false_and,decide_eq_false (by omega)]
theorem mark_loc {x:Prog.Mark} (h:rmarkF x=true) (h0:x.kind≠0):isLoc x.loc=true \/ x.loc=0:=by
  unfold rmarkF at h
  rw [if_neg h0] at h
  by_cases h9:9<x.kind
  · rw [if_pos h9] at h;cases h
  · rw [if_neg h9] at h
    simp only [Bool.and_eq_true] at h
    have:=h.2.2.1
    split at this
    · exact .inl this
    · exact .inr (of_decide_eq_true this)
theorem one_letters {l:List Prog.Mark} (hd:(blkOf l).deep<=8) (hw:Prog.endOf l=l.length) (hm:marksD l=true) (s:Let) (i:Nat):(blkOf l).fold locR 8 s i=(s i || tpred (97+i) l):=by
  have hsp:=blkOf_sp l
  rw [hw] at hsp
  have:=fold_any (R:=locR) (f:=fun s:Let=>s i) (p:=mpred (97+i)) (fun x h=>by simp [mpred,h]) (l:=l) (fun x hx h0 nt ne s _ _=>by
    have hr:rmarkF x=true:=List.all_eq_true.1 hm x hx
    show (s i || (isLoc x.loc && i == x.loc - 97))=_
    rw [loc_way (mark_loc hr h0),mpred,decide_eq_false h0];rfl) hsp 8 s hd
  rw [List.drop_zero,List.drop_length,List.any_nil,Bool.or_false] at this
  exact this.symm
theorem thr_same (i:Nat):∀ (ls:List (List Prog.Mark)),(∀ l ∈ ls,(blkOf l).deep<=8/\Prog.endOf l=l.length)->ls.all marksD=true->∀ s:Let,thrL (ls.map blkOf) s i=(s i || ls.any (tpred (97+i))):=by
  intro ls
  induction ls with
  | nil=>intro _ _ s;simp [thrL]
  | cons l r ih =>
    intro h hm s
    rw [List.all_cons,Bool.and_eq_true] at hm
    obtain ⟨h1,h2⟩:=h l (List.mem_cons_self ..)
    have:thrL ((l :: r).map blkOf) s=thrL (r.map blkOf) ((blkOf l).fold locR 8 s):=rfl
    rw [this,ih (fun x hx=>h x (List.mem_cons_of_mem _ hx)) hm.2,one_letters h1 h2 hm.1,List.any_cons,Bool.or_assoc]
theorem inits_loc:∀ (l p:List (Nat × Nat)),initsD p l=true->∀ x ∈ l,isLoc x.1=true:=by
  intro l
  induction l with
  | nil=>intro p _ x hx;cases hx
  | cons y r ih =>
    intro p h x hx
    rw [initsD,Bool.and_eq_true,Bool.and_eq_true] at h
    rcases List.mem_cons.1 hx with rfl | hx
    · exact h.2.1
    · exact ih _ h.2.2 x hx
theorem init_same (i:Nat):∀ (l:List (Nat × Nat)),(∀ x ∈ l,isLoc x.1=true)->∀ m:Let,initL l m i=(m i || l.any (ipred (97+i))):=by
  intro l
  induction l with
  | nil=>intro _ m;simp [initL]
  | cons x r ih =>
    intro h m
    have:initL (x :: r) m=initL r (putL x.1 m):=rfl
    rw [this,ih fun y hy=>h y (List.mem_cons_of_mem _ hy),List.any_cons,putL,loc_way (.inl (h x (List.mem_cons_self ..))),<- Bool.or_assoc]
    rfl
structure Okay (t:Rt):Prop where
  flat:t.flat
  whole:wholeT t
  pure:pureT t
theorem Okay.each {t:Rt} (h:Okay t):∀ l ∈ t.threads,(blkOf l).deep<=8/\Prog.endOf l=l.length/\∀ (k:Nat) (x:Prog.Mark),l[k]? = some x->pureE x.a=true/\pureE x.b=true:=fun l hl=>by
  obtain ⟨i,hi,hx⟩:=List.mem_iff_getElem.1 hl
  have hq:t.threads[i]? = some l:=by rw [<- hx];exact List.getElem?_eq_getElem hi
  exact ⟨h.flat.threads i l hq,h.whole i l hq,h.pure.2 i l hq⟩
theorem locs_same {t:Rt} (h:Okay t) (hi:initsD [] t.init=true) (hm:t.threads.all marksD=true):locsF (tsOf t)=rlocsF t:=by
  have e:namedL (tsOf t)=letD t:=by
    funext i
    show exFoldO leafL (exOf t.ask) (thrL (t.threads.map blkOf) (initL t.init noLet)) i=_
    rw [ask_letters h.pure.1,thr_same i t.threads (fun l hl=>⟨(h.each l hl).1,(h.each l hl).2.1⟩) hm,init_same i t.init (inits_loc _ _ hi)]
    show (((false || _) || _) || _)=((_ || _) || _)
    rw [Bool.false_or,Bool.or_right_comm]
  rw [locsF,e];rfl
theorem check_same {t:Rt} (h:Okay t):checkE (tsOf t)=rcheckE t/\checkL (tsOf t)=rcheckL t:=by
  have e1:(tsOf t).threads.length=t.threads.length:=by simp [tsOf]
  have e2:stsMay (tsOf t).threads true=t.threads.all marksD:=by rw [show (tsOf t).threads=t.threads.map blkOf from rfl,sts_same _ h.each,Bool.true_and]
  have e3:startsF (tsOf t).init noLet=initsD [] t.init:=starts_same t.init [] noLet (fun j=>rfl) (fun y hy=>by cases hy)
  have e4:exMay [0,2,3] (tsOf t).ask=rexF t.ask true:=rex_same (ask:=true) h.pure.1
  have e5:(tsOf t).threads.any (fun b=>decide (8<b.deep))=false:=by
    rw [Bool.eq_false_iff]
    intro hc
    obtain ⟨b,hb,hq⟩:=List.any_eq_true.1 hc
    obtain ⟨l,hl,rfl⟩:=List.mem_map.1 (show b ∈ t.threads.map blkOf from hb)
    have:=(h.each l hl).1
    have:=of_decide_eq_true hq
    omega
  have e6:nobodyF (tsOf t)=t.ask.any (npred t.threads.length):=by
    rw [nobodyF,e1];exact ask_nobody h.pure.1 _
  have hE:checkE (tsOf t)=rcheckE t:=by
    unfold checkE rcheckE
    rw [e1,e2,e3,e4,e5,e6]
    by_cases h0:t.threads.length=0
    · rw [if_pos h0,if_pos h0]
    rw [if_neg h0,if_neg h0]
    cases hA:rexF t.ask true <;> cases hB:initsD [] t.init <;> cases hC:t.threads.all marksD <;> try (simp;done)
    rw [locs_same h hB hC]
    simp
  refine ⟨hE,?_⟩
  rw [checkL,rcheckL,hE]
  by_cases h0:rcheckE t=0
  · rw [if_pos h0,if_pos h0]
    have hB:initsD [] t.init=true:=by
      unfold rcheckE at h0
      by_cases q:initsD [] t.init=true
      · exact q
      · rw [Bool.not_eq_true] at q
        rw [q] at h0
        split at h0;cases h0
        split at h0;cases h0
        rw [if_pos rfl] at h0;cases h0
    have hC:t.threads.all marksD=true:=by
      unfold rcheckE at h0
      by_cases q:t.threads.all marksD=true
      · exact q
      · rw [Bool.not_eq_true] at q
        rw [q] at h0
        split at h0;cases h0
        split at h0;cases h0
        split at h0;cases h0
        rw [if_pos rfl] at h0;cases h0
    exact locs_same h hB hC
  · rw [if_neg h0,if_neg h0]
end Go.Proofs.YtbkdappgmcebaaaGreatDoor.Chk
end
