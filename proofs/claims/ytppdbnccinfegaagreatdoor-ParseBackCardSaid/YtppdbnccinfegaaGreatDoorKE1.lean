/- Part 42 of the proof: what is used of the texts PbkS, PbkT, PbkU, PbkA, PbkE. -/
import Derived.Test.YtppdbnccinfegaaGreatDoorKC3
import Derived.Test.YtppdbnccinfegaaGreatDoorKC6
import Derived.KernelRfl
import Derived.Test.YtppdbnccinfegaaGreatDoorKD3
import Derived.Test.YtppdbnccinfegaaGreatDoorKD8
import Derived.Test.YtppdbnccinfegaaGreatDoorKE0
section
namespace Go.Proofs.YtppdbnccinfegaaGreatDoor.Prs
open Go.Proofs.YtppdbnccinfegaaGreatDoor.Expr Go.Proofs.YtppdbnccinfegaaGreatDoor.Prog
open Go.Proofs.YtppdbnccinfegaaGreatDoor.Lex (Tok)
def known1:List UInt8:=[105,110,105,116,32,120,32,61,32,51,59,32,116,104,114,101,97,100,32,123,32,114,49,32,61,32,108,111,97,100,40,120,44,32,97,99,113,41,59,32,105,102,32,40,114,49,32,61,61,32,49,41,32,123,32,115,116,111,114,101,40,121,44,32,45,114,49,32,43,32,50,44,32,114,108,120,41,59,32,125,32,125,10,102,111,114,97,108,108,32,48,58,114,49,32,60,61,32,120,59]
def toks1:List Lex.Tok:=[⟨2,[105,110,105,116],0,1,1⟩,⟨2,[120],0,1,6⟩,⟨3,[61],0,1,8⟩,⟨1,[51],3,1,10⟩,⟨3,[59],0,1,11⟩,⟨2,[116,104,114,101,97,100],0,1,13⟩,⟨3,[123],0,1,20⟩,⟨2,[114,49],0,1,22⟩,⟨3,[61],0,1,25⟩,⟨2,[108,111,97,100],0,1,27⟩,⟨3,[40],0,1,31⟩,⟨2,[120],0,1,32⟩,⟨3,[44],0,1,33⟩,⟨2,[97,99,113],0,1,35⟩,⟨3,[41],0,1,38⟩,⟨3,[59],0,1,39⟩,⟨2,[105,102],0,1,41⟩,⟨3,[40],0,1,44⟩,⟨2,[114,49],0,1,45⟩,⟨3,[61,61],0,1,48⟩,⟨1,[49],1,1,51⟩,⟨3,[41],0,1,52⟩,⟨3,[123],0,1,54⟩,⟨2,[115,116,111,114,101],0,1,56⟩,⟨3,[40],0,1,61⟩,⟨2,[121],0,1,62⟩,⟨3,[44],0,1,63⟩,⟨3,[45],0,1,65⟩,⟨2,[114,49],0,1,66⟩,⟨3,[43],0,1,69⟩,⟨1,[50],2,1,71⟩,⟨3,[44],0,1,72⟩,⟨2,[114,108,120],0,1,74⟩,⟨3,[41],0,1,77⟩,⟨3,[59],0,1,78⟩,⟨3,[125],0,1,80⟩,⟨3,[125],0,1,82⟩,⟨2,[102,111,114,97,108,108],0,2,1⟩,⟨1,[48],0,2,8⟩,⟨3,[58],0,2,9⟩,⟨2,[114,49],0,2,10⟩,⟨3,[60,61],0,2,13⟩,⟨2,[120],0,2,16⟩,⟨3,[59],0,2,17⟩,⟨0,[],0,2,18⟩]
def test1:Ts:=⟨[(120,3)],[.cons ⟨2,1,3,120,none,none⟩ .nil .nil (.cons ⟨8,0,0,0,some (.two 1 (.reg 1) (.num 1)),none⟩ (.cons ⟨3,0,2,121,some (.two 5 (.one 14 (.reg 1)) (.num 2)),none⟩ .nil .nil .nil) .nil .nil)],true,some (.two 4 (.of 0 1) (.loc 120))⟩
def told1:List UInt8:=[105,110,105,116,32,120,32,61,32,51,59,10,116,104,114,101,97,100,32,123,10,32,32,114,49,32,61,32,108,111,97,100,40,120,44,32,97,99,113,41,59,10,32,32,105,102,32,40,114,49,32,61,61,32,49,41,32,123,10,32,32,32,32,115,116,111,114,101,40,121,44,32,45,114,49,32,43,32,50,44,32,114,108,120,41,59,10,32,32,125,10,125,10,102,111,114,97,108,108,32,48,58,114,49,32,60,61,32,120,59,10]
def known2:List UInt8:=[116,104,114,101,97,100,32,123,32,114,48,32,61,32,108,111,97,100,40,120,44,32,114,101,108,41,59,32,125,32,101,120,105,115,116,115,32,49,59]
def toks2:List Lex.Tok:=[⟨2,[116,104,114,101,97,100],0,1,1⟩,⟨3,[123],0,1,8⟩,⟨2,[114,48],0,1,10⟩,⟨3,[61],0,1,13⟩,⟨2,[108,111,97,100],0,1,15⟩,⟨3,[40],0,1,19⟩,⟨2,[120],0,1,20⟩,⟨3,[44],0,1,21⟩,⟨2,[114,101,108],0,1,23⟩,⟨3,[41],0,1,26⟩,⟨3,[59],0,1,27⟩,⟨3,[125],0,1,29⟩,⟨2,[101,120,105,115,116,115],0,1,31⟩,⟨1,[49],1,1,38⟩,⟨3,[59],0,1,39⟩,⟨0,[],0,1,40⟩]
theorem lex_known1:Lex.lexAll known1 = .ok toks1:=by kernel_rfl
theorem lex_known2:Lex.lexAll known2 = .ok toks2:=by kernel_rfl
theorem dec_0:dec 0=[48]:=dec_small (by decide)
theorem dec_1:dec 1=[49]:=dec_small (by decide)
theorem dec_2:dec 2=[50]:=dec_small (by decide)
theorem dec_3:dec 3=[51]:=dec_small (by decide)
theorem raws_test1:toks1.map raw=rawsT test1:=by
  simp [rawsT,test1,initR,threadR,rawsB,headR,exR,rawsE,Ex.strong,strongOp,nm,sg,wd,dec_0,dec_1,dec_2,dec_3,toks1,raw,rawEnd,sign,modeTxt,wLoad,wStore,wIf,wInit,wThread,wForall,Blk.len]
theorem text_test1:test1.text=told1:=by
  simp [Ts.text,test1,initTxt,threadTxt,Blk.text,headOf,line,indent,exO,Ex.text,atLeast,Ex.strong,strongOp,dec_0,dec_1,dec_2,dec_3,told1,sign,modeTxt,quant,Blk.len,List.replicate]
theorem prints1:Prints test1:=by
  refine ⟨⟨?_,?_,rfl,?_⟩,?_,?_,by decide,?_⟩
  · intro i hi
    obtain rfl:i=(120,3):=by simpa [test1] using hi
    exact ⟨by decide,by decide⟩
  · intro b hb
    obtain rfl:b=_:=by simpa [test1] using hb
    refine ⟨?_,by decide⟩
    simp [Blk.proper,Mk.proper,okO,Ex.ok,Ex.depth,isLetter]
  · exact ⟨by simp [Ex.ok],by decide⟩
  · intro i hi
    obtain rfl:i=(120,3):=by simpa [test1] using hi
    exact ⟨by decide,by decide⟩
  · intro b hb
    obtain rfl:b=_:=by simpa [test1] using hb
    exact ⟨⟨trivial,trivial,by decide,by decide⟩,trivial,trivial,⟨⟨rfl,trivial⟩,trivial,by decide,by decide⟩,⟨⟨⟨rfl,trivial⟩,trivial,by decide,by decide⟩,trivial,trivial,trivial⟩,trivial,trivial⟩
  · exact ⟨rfl,rfl⟩
theorem known1_tx:∃ k,Tx toks1 (.inits []) 0 (.ok test1 k) :=
  tx_inits_at prints1 test1.init [] 0 rfl (fun i hi=>⟨prints1.proper.init i hi,(prints1.init i hi).1⟩) (at_raws raws_test1)
theorem flat2:flatF toks2 2 = .bad 8 7:=by
  unfold flatF
  rw [if_neg (by decide),if_neg (by decide),show regF toks2 2 = .ok 0 3 from rfl,ok_bind,show signF toks2 [61] 3 = .ok () 4 from rfl,ok_bind]
  unfold gotF
  rw [if_pos (by decide)]
  unfold callF
  rw [show signF toks2 [40] 5 = .ok () 6 from rfl,ok_bind,if_neg (by decide),show locF toks2 6 = .ok 120 7 from rfl,ok_bind,show signF toks2 [44] 7 = .ok () 8 from rfl]
  rw [show (Out.map (fun _=>120) (Out.ok () 8):Out Nat) = .ok 120 8 from rfl,ok_bind]
  rw [if_pos (by decide),ok_bind,if_neg (by decide),ok_bind,show modeF toks2 2 8 = .bad 8 7 from rfl]
  rfl
theorem known2_tx:Tx toks2 (.inits []) 0 (.bad 8 7):=by
  have h:=Bx.flat (ts:=toks2) (d:=1) (k:=2) (by decide) (by decide)
  rw [flat2] at h
  exact .inited (by decide) (.threadBad (by decide) (by decide) (.block (by decide) (by decide) (.stepBad (by decide) h)))
end Go.Proofs.YtppdbnccinfegaaGreatDoor.Prs
end
section
namespace Go.Proofs.YtppdbnccinfegaaGreatDoor.Prs
open Go.Proofs.YtppdbnccinfegaaGreatDoor.Expr Go.Proofs.YtppdbnccinfegaaGreatDoor.Prog
structure PlainM (x:Prog.Mark):Prop where
  a:∀ i ∈ x.a,i.kind≠2/\i.kind≠3
  b:∀ i ∈ x.b,i.kind≠2/\i.kind≠3
  loc:x.loc≠114
  reg:x.reg<8
structure PlainT (t:Rt):Prop where
  few:t.threads.length<=4
  ask:∀ i ∈ t.ask,i.kind≠1
  init:∀ x ∈ t.init,x.1≠114
  each:∀ l ∈ t.threads,∀ x ∈ l,PlainM x
theorem sp_false {l:List It} (h:∀ i ∈ l,i.kind≠2/\i.kind≠3) {k m:Nat} {e:Ex} (hs:Sp l k e m):leafy false e:=by
  induction hs with
  | num _ _=>trivial
  | reg _ _ _=>rfl
  | of hx h2 _ _=>exact absurd h2 (h _ (List.mem_of_getElem? hx)).1
  | loc hx h3 _ _ _=>exact absurd h3 (h _ (List.mem_of_getElem? hx)).2
  | one _ _ _ _ ih=>exact ih
  | two _ _ _ _ _ _ ih1 ih2=>exact ⟨ih1,ih2⟩
theorem sp_true {l:List It} (h:∀ i ∈ l,i.kind≠1) {k m:Nat} {e:Ex} (hs:Sp l k e m):leafy true e:=by
  induction hs with
  | num _ _=>trivial
  | reg hx h1 _=>exact absurd h1 (h _ (List.mem_of_getElem? hx))
  | of _ _ _ _=>rfl
  | loc _ _ _ _ _=>rfl
  | one _ _ _ _ ih=>exact ih
  | two _ _ _ _ _ _ ih1 ih2=>exact ⟨ih1,ih2⟩
theorem exOf_false {l:List It} (h:∀ i ∈ l,i.kind≠2/\i.kind≠3):leafyO false (exOf l):=by
  cases he:exOf l with
  | none=>trivial
  | some e=>obtain ⟨⟨m,hs⟩,_⟩:=exOf_spec he;exact sp_false h hs
theorem exOf_true {l:List It} (h:∀ i ∈ l,i.kind≠1):leafyO true (exOf l):=by
  cases he:exOf l with
  | none=>trivial
  | some e=>obtain ⟨⟨m,hs⟩,_⟩:=exOf_spec he;exact sp_true h hs
theorem mk_plain {x:Prog.Mark} (h:PlainM x):Plain (mkOf x):=⟨exOf_false h.a,exOf_false h.b,h.loc,h.reg⟩
theorem bsp_plain {l:List Prog.Mark} (h:∀ x ∈ l,PlainM x) {k m:Nat} {b:Blk} (hs:BSp l k b m):plainB b:=by
  induction hs with
  | out _=>trivial
  | stop _ _=>trivial
  | plain hx _ _ _ _ ih=>exact ⟨mk_plain (h _ (List.mem_of_getElem? hx)),trivial,trivial,ih⟩
  | loop hx _ _ _ ih1 ih2=>exact ⟨mk_plain (h _ (List.mem_of_getElem? hx)),ih1,trivial,ih2⟩
  | cond hx _ _ _ _ ih1 ih2 ih3=>exact ⟨mk_plain (h _ (List.mem_of_getElem? hx)),ih1,ih2,ih3⟩
theorem prints_of {t:Rt} (hp:t.propB) (hf:t.flat) (hb:t.bd) (hy:PlainT t):Prints (tsOf t) where
  proper:=tsOf_proper hp hf hb
  init:=fun i hi=>⟨hy.init i hi,(hb.init i hi).2⟩
  threads:=fun b hb'=>by
    obtain ⟨l,hl,rfl⟩:=List.mem_map.1 hb'
    exact bsp_plain (hy.each l hl) (blkOf_sp l)
  few:=by show (t.threads.map blkOf).length<=4;rw [List.length_map];exact hy.few
  ask:=exOf_true hy.ask
theorem proper_loc {m:Mk} (h:m.proper):m.mode<256/\m.loc<256/\m.kind<256:=by
  obtain ⟨kind,reg,mode,loc,a,b⟩:=m
  obtain ⟨_,_,h⟩:=h
  simp only at h ⊢
  match kind,h with
  | 1,⟨h,hl,_⟩=>exact ⟨by omega,by omega,by omega⟩
  | 2,⟨h,hl,_⟩ | 4,⟨h,hl,_⟩ | 5,⟨h,hl,_⟩ | 6,⟨h,hl,_⟩=>exact ⟨by omega,by have:=hl.2;omega,by omega⟩
  | 3,⟨h,hl,_⟩=>exact ⟨by omega,by have:=hl.2;omega,by omega⟩
  | 7,⟨h,hl,_⟩=>exact ⟨by omega,by omega,by omega⟩
  | 8,⟨h,hl,_⟩ | 9,⟨h,hl,_⟩=>exact ⟨by omega,by omega,by omega⟩
  | 0,h | n+10,h=>exact h.elim
theorem fine_of:∀ {b:Blk},b.proper->plainB b->b.fine
  | .nil,_,_=>trivial
  | .cons m t e r,⟨hm,ht,he,hr,_⟩,⟨pm,pt,pe,pr⟩=>by
    obtain ⟨h1,h2,h3⟩:=proper_loc hm
    exact ⟨hm.1,hm.2.1,by have:=pm.reg;omega,h1,h2,h3,fine_of ht pt,fine_of he pe,fine_of hr pr⟩
theorem Read.good {t:Ts} (h:Read t):t.good/\t.small:=by
  have h4:=h.prints.few
  have hp:=h.prints.proper
  have hf:∀ b ∈ t.threads,b.fine:=fun b hb=>fine_of (hp.threads b hb).1 (h.prints.threads b hb)
  exact ⟨⟨h.init,by omega,fun b hb=>⟨hf b hb,over_deep b 8 (hp.threads b hb).1 (hp.threads b hb).2⟩,hp.ask⟩,
    ⟨h.init,fun i hi=>⟨by have:=(hp.init i hi).2;omega,(h.prints.init i hi).2⟩,by omega,fun b hb=>⟨hf b hb,by have:=h.each b hb;omega⟩,hp.ask⟩⟩
theorem tsOf_good {t:Rt} (hm:t.meek) (hp:(tsOf t).proper) (hb:t.bd):(tsOf t).good/\(tsOf t).small:=by
  have h1:(t.threads.map blkOf).length<=1000:=by rw [List.length_map];have:=hm.threads;omega
  have hf:∀ b ∈ t.threads.map blkOf,b.fine/\b.size<=10000:=fun b hb'=>by
    obtain ⟨l,hl,rfl⟩:=List.mem_map.1 hb'
    obtain ⟨i,hi⟩:=List.getElem?_of_mem hl
    have:=(hm.each i l hi).1
    exact ⟨(blkOf_sp l).fine (hb.each l hl),by have:=(endOf_le (l:=l) (by omega)).2;omega⟩
  exact ⟨⟨by have:=hm.init;show t.init.length<=1000;omega,h1,fun b hb'=>⟨(hf b hb').1,over_deep b 8 (hp.threads b hb').1 (hp.threads b hb').2⟩,hp.ask⟩,
    ⟨by have:=hm.init;show t.init.length<=1000;omega,hb.init,h1,hf,hp.ask⟩⟩
theorem small1:test1.good/\test1.small:=Read.good ⟨prints1,by decide,by
  intro b hb
  obtain rfl:b=_:=by simpa [test1] using hb
  decide⟩
theorem known1_all:parseAll known1 = .ok test1:=by
  obtain ⟨k,h⟩:=known1_tx
  exact parseAll_ok lex_known1 (txOut_is h)
theorem known2_all:parseAll known2 = .err 1 23 7:=parseAll_bad lex_known2 (txOut_is known2_tx)
end Go.Proofs.YtppdbnccinfegaaGreatDoor.Prs
end
section
namespace Go.Proofs.YtppdbnccinfegaaGreatDoor.Prs
open Go.RowKit Go.Proofs.YtppdbnccinfegaaGreatDoor.Mem Go.Proofs.YtppdbnccinfegaaGreatDoor.Expr Go.Proofs.YtppdbnccinfegaaGreatDoor.Prog Go.Lib
def kb1:ByteArray:=⟨([105,110,105,116,32,120,32,61,32,51,59,32,116,104,114,101,97,100,32,123,32,114,49,32,61,32,108,111,97,100,40,120,44,32,97,99,113,41,59,32,105,102,32,40,114,49,32,61,61,32].append [49,41,32,123,32,115,116,111,114,101,40,121,44,32,45,114,49,32,43,32,50,44,32,114,108,120,41,59,32,125,32,125,10,102,111,114,97,108,108,32,48,58,114,49,32,60,61,32,120,59]).toArray⟩
def kb2:ByteArray:=⟨#[116,104,114,101,97,100,32,123,32,114,48,32,61,32,108,111,97,100,40,120,44,32,114,101,108,41,59,32,125,32,101,120,105,115,116,115,32,49,59]⟩
def kb3:ByteArray:=⟨([105,110,105,116,32,120,32,61,32,51,59,10,116,104,114,101,97,100,32,123,10,32,32,114,49,32,61,32,108,111,97,100,40,120,44,32,97,99,113,41,59,10,32,32,105,102,32,40,114,49,32,61,61,32].append [49,41,32,123,10,32,32,32,32,115,116,111,114,101,40,121,44,32,45,114,49,32,43,32,50,44,32,114,108,120,41,59,10,32,32,125,10,125,10,102,111,114,97,108,108,32,48,58,114,49,32,60,61,32,120,59,10]).toArray⟩
theorem kb1_list:kb1.data.toList=known1:=by kernel_rfl
theorem kb2_list:kb2.data.toList=known2:=by kernel_rfl
theorem kb3_str:str told1=kb3:=by kernel_rfl
set_option maxRecDepth 100000 in
/-- The two texts are read, and the first is written, as the document says. -/
theorem woken_any (w:World) (hX:Prog.All w):Calls Tryz.prog 11 #[] w fun e w'=>Made (.returned (.bool true)) w e w':=by
  have HP1:=Lib.hid (fun W (h:Below w.heap.size w W)=>(show Calls Tryz.prog _ #[.string ⟨([105,110,105,116,32,120,32,61,32,51,59,32,116,104,114,101,97,100,32,123,32,114,49,32,61,32,108,111,97,100,40,120,44,32,97,99,113,41,59,32,105,102,32,40,114,49,32,61,61,32].append [49,41,32,123,32,115,116,111,114,101,40,121,44,32,45,114,49,32,43,32,50,44,32,114,108,120,41,59,32,125,32,125,10,102,111,114,97,108,108,32,48,58,114,49,32,60,61,32,120,59]).toArray⟩] W fun e W'=>∃ pi ci pt ct pa,e = .returned (.tuple #[.agg #[.slice pi 1 ci,.slice pt 1 ct,.bool true,.pointer pa],.agg #[.int .i64 0,.int .i64 0],.int .i64 0])/\TestV W' test1 (.slice pi 1 ci) (.slice pt 1 ct) (.pointer pa)/\Below w.heap.size w W' /\ W.heap.size<=W'.heap.size from
    (parse_any kb1 W (by decide) (hX.below h)).mono fun e W' hm=>by
      rw [kb1_list,known1_all] at hm
      obtain ⟨hb,vi,vt,pa,he,hv⟩:=hm
      obtain ⟨pi,ci,rfl⟩:=hv.init.len
      obtain ⟨pt,ct,rfl⟩:=hv.threads.len
      exact ⟨pi,ci,pt,ct,pa,he,hv,h.trans (hb.mono h.size),hb.size⟩))
  have HP2:=Lib.hid (fun W (h:Below w.heap.size w W)=>(show Calls Tryz.prog _ #[.string ⟨#[116,104,114,101,97,100,32,123,32,114,48,32,61,32,108,111,97,100,40,120,44,32,114,101,108,41,59,32,125,32,101,120,105,115,116,115,32,49,59]⟩] W fun e W'=>e = .returned (.tuple #[.agg #[.slice none 0 0,.slice none 0 0,.bool false,.pointer none],.agg #[.int .i64 1,.int .i64 23],.int .i64 7])/\Below W.heap.size W W' from
    (parse_any kb2 W (by decide) (hX.below h)).mono fun e W' hm=>by
      rw [kb2_list,known2_all] at hm
      exact ⟨hm.2,hm.1⟩))
  have HT:=Lib.hid (fun pi ci pt ct pa W (h:Below w.heap.size w W) (hv:TestV W test1 (.slice pi 1 ci) (.slice pt 1 ct) (.pointer pa))=>(show Calls Tryz.prog _ #[.agg #[.slice pi 1 ci,.slice pt 1 ct,.bool true,.pointer pa]] W fun e W'=>e = .returned (.string ⟨([105,110,105,116,32,120,32,61,32,51,59,10,116,104,114,101,97,100,32,123,10,32,32,114,49,32,61,32,108,111,97,100,40,120,44,32,97,99,113,41,59,10,32,32,105,102,32,40,114,49,32,61,61,32].append [49,41,32,123,10,32,32,32,32,115,116,111,114,101,40,121,44,32,45,114,49,32,43,32,50,44,32,114,108,120,41,59,10,32,32,125,10,125,10,102,111,114,97,108,108,32,48,58,114,49,32,60,61,32,120,59,10]).toArray⟩)/\Below W.heap.size W W' from
    (text_test test1 small1.2 _ _ _ W (hX.below h) hv).mono fun e W' hm=>by
      rw [text_test1,kb3_str] at hm
      exact hm))
  have HB:=Lib.hid (Below.refl w.heap.size w)
  clear hX
  go_enter Tryz.func11,Tryz.ntmps11
  go_wp2_with fail
  refine (HP1.out _ HB.out).mono ?_
  rintro e w1 ⟨pi,ci,pt,ct,pa,rfl,hv,hb,hz⟩
  have HV:=Lib.hid hv
  have HB1:=Lib.hid hb
  clear hv hb hz HP1
  have hlow:Below w1.heap.size w1 ((w1.alloc (.cells #[.slice pi 1 ci,.slice pt 1 ct,.bool true,.pointer pa] 27)).alloc (.cells #[.int .i64 0,.int .i64 0] 29)):=((Below.refl _ _).alloc (Nat.le_refl _) _).alloc (by simp) _
  have HS2:=Lib.hid (show Sits ((w1.alloc (.cells #[.slice pi 1 ci,.slice pt 1 ct,.bool true,.pointer pa] 27)).alloc (.cells #[.int .i64 0,.int .i64 0] 29)) w1.heap.size 27 #[.slice pi 1 ci,.slice pt 1 ct,.bool true,.pointer pa] from (Sits.new _ _ _).alloc _)
  have HV2:=Lib.hid (HV.out.below hlow)
  have HB2:=Lib.hid (HB1.out.trans (hlow.mono HB1.out.size))
  clear hlow HV
  go_wp2_with fail
  generalize (w1.alloc (.cells #[.slice pi 1 ci,.slice pt 1 ct,.bool true,.pointer pa] 27)).alloc (.cells #[.int .i64 0,.int .i64 0] 29)=w2 at HS2 HV2 HB2 ⊢
  generalize w1.heap.size=g1 at HS2 ⊢
  refine (HP2.out _ HB2.out).mono ?_
  rintro e w3 ⟨rfl,hb⟩
  have HS3:=Lib.hid (HS2.out.below hb HS2.out.lt)
  have HV3:=Lib.hid (HV2.out.below hb)
  have HB3:=Lib.hid (HB2.out.trans (hb.mono HB2.out.size))
  have hlow:Below w3.heap.size w3 ((w3.alloc (.cells #[.slice none 0 0,.slice none 0 0,.bool false,.pointer none] 27)).alloc (.cells #[.int .i64 1,.int .i64 23] 29)):=((Below.refl _ _).alloc (Nat.le_refl _) _).alloc (by simp) _
  have HTX:=Lib.hid (HT.out pi ci pt ct pa _ (HB3.out.trans (hlow.mono HB3.out.size)) (HV3.out.below hlow))
  have HB4:=Lib.hid (HB3.out.trans (hlow.mono HB3.out.size))
  have HP4:=Lib.hid (show Sits ((w3.alloc (.cells #[.slice none 0 0,.slice none 0 0,.bool false,.pointer none] 27)).alloc (.cells #[.int .i64 1,.int .i64 23] 29)) (w3.heap.size+1) 29 #[.int .i64 1,.int .i64 23] from Sits.made (by simp) _ _)
  have a0:=HS3.out.cell 0
  have a1:=HS3.out.cell 1
  have a2:=HS3.out.cell 2
  have a3:=HS3.out.cell 3
  have la:=HS3.out.lt
  clear hb hlow HP2 HT
  go_wp2_with fail
  generalize (w3.alloc (.cells #[.slice none 0 0,.slice none 0 0,.bool false,.pointer none] 27)).alloc (.cells #[.int .i64 1,.int .i64 23] 29)=w4 at HTX HB4 HP4 ⊢
  generalize w3.heap.size+1=gp at HP4 ⊢
  refine HTX.out.mono ?_
  rintro e w5 ⟨rfl,hb⟩
  have HB5:=Lib.hid (HB4.out.trans (hb.mono HB4.out.size))
  have HP5:=Lib.hid (HP4.out.below hb HP4.out.lt)
  have b0:=HP5.out.cell 0
  have b1:=HP5.out.cell 1
  have lb:=HP5.out.lt
  clear a0 a1 a2 a3 la hb
  go_wp2_with fail
  go_ret
  exact ⟨rfl,HB5.out⟩
end Go.Proofs.YtppdbnccinfegaaGreatDoor.Prs
end
section
namespace Go.Proofs.YtppdbnccinfegaaGreatDoor.Prog
open Go.RowKit Go.Proofs.YtppdbnccinfegaaGreatDoor.Mem Go.Proofs.YtppdbnccinfegaaGreatDoor.Expr Go.Lib
def GRow (w:World) (p:Option Addr) (n:Nat):Prop:=∀ k,k<n->∃ g o pa na ca pb nb cb,p=some ⟨g,o,none⟩/\w.cell? ⟨g,o+k * 6+4,none⟩=some (.slice pa na ca)/\w.cell? ⟨g,o+k * 6+5,none⟩=some (.slice pb nb cb)/\na<=9223372036854775807/\nb<=9223372036854775807
def GrV (w:World) (pt:Option Addr) (nt:Nat):Prop:=∀ i,i<nt->∃ g o p n c,pt=some ⟨g,o,none⟩/\w.cell? ⟨g,o+i,none⟩=some (.slice p n c)/\n<=9223372036854775807/\(n<=60->GRow w p n)
def rowSmall (w:World) (p:Option Addr) (n:Nat):Prop:=n<=60/\∀ k g o,k<n->p=some ⟨g,o,none⟩->(∀ pa na ca,w.cell? ⟨g,o+k * 6+4,none⟩=some (.slice pa na ca)->na<=30)/\∀ pb nb cb,w.cell? ⟨g,o+k * 6+5,none⟩=some (.slice pb nb cb)->nb<=30
def thrSmall (w:World) (pt:Option Addr) (i:Nat):Prop:=∀ g o p n c,pt=some ⟨g,o,none⟩->w.cell? ⟨g,o+i,none⟩=some (.slice p n c)->rowSmall w p n
structure GSmall (w:World) (ni:Nat) (pt:Option Addr) (nt na:Nat):Prop where
  init:ni<=10
  threads:nt<=8
  ask:na<=30
  each:∀ i,i<nt->thrSmall w pt i
set_option maxRecDepth 100000 in
set_option maxHeartbeats 2000000 in
theorem great_raw (pi:Option Addr) (ni ci:Nat) (pt:Option Addr) (nt ct:Nat) (al:Bool) (pa:Option Addr) (na ca:Nat) (w:World) (bi:ni<=9223372036854775807) (bt:nt<=9223372036854775807) (ba:na<=9223372036854775807) (hG:GrV w pt nt) :
    Calls Tryz.prog 18 #[.agg #[.slice pi ni ci,.slice pt nt ct,.bool al,.slice pa na ca]] w (Told0 (GSmall w ni pt nt na) w):=by
  have hb:Below w.heap.size w (w.alloc (.cells #[.slice pi ni ci,.slice pt nt ct,.bool al,.slice pa na ca] 37)):=(Below.refl _ _).alloc (Nat.le_refl _) _
  have HG:=Lib.hid hG
  have HB0:=Lib.hid hb
  have HBX:=Lib.hid (Sits.new w 37 #[.slice pi ni ci,.slice pt nt ct,.bool al,.slice pa na ca])
  clear hG hb
  by_cases h1:8<nt
  · have k1:(8:Int)<(nt:Int):=by omega
    clear h1
    go_enter Tryz.func18,Tryz.ntmps18
    go_wp2_with fail
    go_ret
    exact ⟨true,rfl,by simp,HB0.out⟩
  have k1:¬ (8:Int)<(nt:Int):=by omega
  by_cases h2:10<ni
  · have k2:(10:Int)<(ni:Int):=by omega
    clear h1 h2
    go_enter Tryz.func18,Tryz.ntmps18
    go_wp2_with fail
    go_ret
    exact ⟨true,rfl,by simp,HB0.out⟩
  have k2:¬ (10:Int)<(ni:Int):=by omega
  by_cases h3:30<na
  · have k3:(30:Int)<(na:Int):=by omega
    clear h1 h2 h3
    go_enter Tryz.func18,Tryz.ntmps18
    go_wp2_with fail
    go_ret
    exact ⟨true,rfl,by simp,HB0.out⟩
  have k3:¬ (30:Int)<(na:Int):=by omega
  have HN:=Lib.hid (show nt<=8/\ni<=10/\na<=30 by omega)
  have j1:(nt:Int)<=8:=by omega
  clear h1 h2 h3 bi bt ba
  go_enter Tryz.func18,Tryz.ntmps18
  go_wp2_with fail
  generalize w.alloc (.cells #[.slice pi ni ci,.slice pt nt ct,.bool al,.slice pa na ca] 37)=w1 at HB0 HBX ⊢
  generalize hgb:w.heap.size=gb at HBX ⊢
  have HGB:=Lib.hid hgb
  clear hgb
  go_loopg [3] nt (fun gg v3 wx=>∃ j,j<=nt/\gg=nt - j/\v3 = .int .i64 (j:Nat)/\Hid (Below w1.heap.size w1 wx)/\Hid (∀ i,i<j->thrSmall w pt i))
  case atStart=>exact ⟨0,by omega,by omega,rfl,Lib.hid (Below.refl _ _),Lib.hid fun i h=>by omega⟩
  case round =>
    obtain ⟨j,hj,rfl,rfl,HBj,HF⟩:=hrel
    have HLW:=Lib.hid (HB0.out.trans (HBj.out.mono HB0.out.size))
    have hbx:=HBX.out.below HBj.out HBX.out.lt
    have c1:wr.cell? ⟨gb,1,none⟩=some (.slice pt nt ct):=hbx.cell 1
    have lb:=hbx.lt
    clear hbx
    by_cases hlt:j<nt
    · obtain ⟨g,o,p,n,c,rfl,hc0,hn,hr⟩:=HG.out j hlt
      have hc:wr.cell? ⟨g,o+j,none⟩=some (.slice p n c):=cell_below (U:=any_) HLW.out g trivial _ _ hc0
      have HC0:=Lib.hid hc0
      have HR:=Lib.hid hr
      have lg:=World.block_lt_of_cell? _ _ hc
      have m1:(j:Int)<(nt:Int):=by omega
      have m2:(0:Int)<=(j:Int):=by omega
      have m3:(n:Int)<=9223372036854775807:=by omega
      have HJ:=Lib.hid hlt
      clear hc0 hr hn hlt hj
      by_cases h60:60<n
      · have n1:(60:Int)<(n:Int):=by omega
        clear h60
        go_wp2_with fail
        go_ret
        exact ⟨true,rfl,by simp,HLW.out⟩
      have n1:¬ (60:Int)<(n:Int):=by omega
      have H60:=Lib.hid (show n<=60 by omega)
      have HRW:=Lib.hid (HR.out (by omega))
      have m4:(n:Int)<=60:=by omega
      clear h60 m3
      go_wp2_with fail
      generalize wr=w2 at HBj hc ⊢
      have HCC:=Lib.hid hc
      clear hc c1 lb lg
      go_loopg [5] n (fun gg v5 wx=>∃ k,k<=n/\gg=n - k/\v5 = .int .i64 (k:Nat)/\Hid (Below w1.heap.size w1 wx)/\Hid (∀ i g o,i<k->p=some ⟨g,o,none⟩->(∀ pa na ca,w.cell? ⟨g,o+i * 6+4,none⟩=some (.slice pa na ca)->na<=30)/\∀ pb nb cb,w.cell? ⟨g,o+i * 6+5,none⟩=some (.slice pb nb cb)->nb<=30))
      case atStart=>exact ⟨0,by omega,by omega,rfl,HBj,Lib.hid fun i g o h=>by omega⟩
      case round =>
        obtain ⟨k,hk,rfl,rfl,HBk,HG2⟩:=hrel
        have HLK:=Lib.hid (HB0.out.trans (HBk.out.mono HB0.out.size))
        have q1:(k:Int)<=1000000:=by omega
        have q0:(0:Int)<=(k:Int):=by omega
        by_cases hkl:k<n
        · obtain ⟨g5,o5,pa',na',ca',pb',nb',cb',rfl,e4,e5,l4,l5⟩:=HRW.out k hkl
          have d4:wr.cell? ⟨g5,o5+k * 6+4,none⟩=some (.slice pa' na' ca'):=cell_below (U:=any_) HLK.out g5 trivial _ _ e4
          have d5:wr.cell? ⟨g5,o5+k * 6+5,none⟩=some (.slice pb' nb' cb'):=cell_below (U:=any_) HLK.out g5 trivial _ _ e5
          have HE4:=Lib.hid e4
          have HE5:=Lib.hid e5
          have lg:=World.block_lt_of_cell? _ _ d4
          have p1:(k:Int)<(n:Int):=by omega
          have HK:=Lib.hid hkl
          clear e4 e5 hkl hk
          by_cases ha:30<na'
          · have r1:(30:Int)<(na':Int):=by omega
            clear ha
            go_wp2_with fail
            go_ret
            exact ⟨true,rfl,by simp,HLK.out⟩
          have r1:¬ (30:Int)<(na':Int):=by omega
          by_cases hb:30<nb'
          · have r2:(30:Int)<(nb':Int):=by omega
            clear ha hb
            go_wp2_with fail
            go_ret
            exact ⟨true,rfl,by simp,HLK.out⟩
          have r2:¬ (30:Int)<(nb':Int):=by omega
          have HSL:=Lib.hid (show na' <= 30/\nb' <= 30 from ⟨by omega,by omega⟩)
          clear ha hb l4 l5
          go_wp2_with fail
          go_roundg (n - (k+1))
          case measure=>have:=HK.out;omega
          case rel=>exact ⟨k+1,HK.out,rfl,by go_num,HBk,Lib.hid fun i g o hi hp=>by
            by_cases e:i<k
            · exact HG2.out i g o e hp
            · obtain rfl:i=k:=by omega
              injection hp with hp
              injection hp with hp1 hp2
              subst hp1 hp2
              exact ⟨fun pa na ca h=>by rw [HE4.out] at h;injection h with h;injection h with _ h _;rw [<- h];exact HSL.out.1,fun pb nb cb h=>by rw [HE5.out] at h;injection h with h;injection h with _ h _;rw [<- h];exact HSL.out.2⟩⟩
        · obtain rfl:k=n:=by omega
          have p1:¬ ((k:Int)<(k:Int)):=by omega
          clear hkl hk
          go_wp2_with fail
          go_roundg (nt - (j+1))
          case measure=>have:=HJ.out;omega
          case rel=>exact ⟨j+1,HJ.out,rfl,by go_num,HBk,Lib.hid fun i hi=>by
            by_cases e:i<j
            · exact HF.out i e
            · obtain rfl:i=j:=by omega
              intro g' o' p' n' c' hp hcell
              injection hp with hp
              injection hp with hp1 hp2
              subst hp1 hp2
              rw [HC0.out] at hcell
              injection hcell with hcell
              injection hcell with h1 h2 _
              subst h1 h2
              exact ⟨H60.out,fun i g o hi hp=>HG2.out i g o hi hp⟩⟩
    · obtain rfl:j=nt:=by omega
      have m1:¬ ((j:Int)<(j:Int)):=by omega
      clear hlt hj
      go_wp2_with fail
      go_ret
      exact ⟨false,rfl,fun _=>⟨HN.out.2.1,HN.out.1,HN.out.2.2,HF.out⟩,HLW.out⟩
structure ArgV (w:World) (pi:Option Addr) (ni ci:Nat) (pt:Option Addr) (nt ct:Nat) (al:Bool) (pa:Option Addr) (na ca:Nat):Prop where
  bi:ni<=9223372036854775807
  bt:nt<=9223372036854775807
  ba:na<=9223372036854775807
  raw:GrV w pt nt
  read:GSmall w ni pt nt na->∃ t:Rt,t.all=al/\RtV w t (.slice pi ni ci) (.slice pt nt ct) (.slice pa na ca)/\t.meek/\(∀ a ∈ t.ask,a.bd)/\(∀ x ∈ t.init,x.1<256/\x.2<18446744073709551616)/\∀ l ∈ t.threads,∀ x ∈ l,x.bd
end Go.Proofs.YtppdbnccinfegaaGreatDoor.Prog
namespace Go.Proofs.YtppdbnccinfegaaGreatDoor.Prog
open Go.RowKit Go.Proofs.YtppdbnccinfegaaGreatDoor.Mem Go.Proofs.YtppdbnccinfegaaGreatDoor.Expr Go.Lib
theorem GrV.below {w W:World} {p:Option Addr} {n:Nat} (h:GrV w p n) (hb:Below w.heap.size w W):GrV W p n:=fun i hi=>by
  obtain ⟨g,o,q,m,c,h1,h2,h3,h4⟩:=h i hi
  refine ⟨g,o,q,m,c,h1,cell_below (U:=any_) hb g trivial _ _ h2,h3,fun h60 k hk=>?_⟩
  obtain ⟨g',o',pa,na,ca,pb,nb,cb,k1,k2,k3,k4,k5⟩:=h4 h60 k hk
  exact ⟨g',o',pa,na,ca,pb,nb,cb,k1,cell_below (U:=any_) hb g' trivial _ _ k2,cell_below (U:=any_) hb g' trivial _ _ k3,k4,k5⟩
theorem GSmall.back {w W:World} {ni:Nat} {pt:Option Addr} {nt na:Nat} (h:GSmall W ni pt nt na) (hb:Below w.heap.size w W):GSmall w ni pt nt na :=
  ⟨h.init,h.threads,h.ask,fun i hi g o p n c hp hc=>by
    have h1:=h.each i hi g o p n c hp (cell_below (U:=any_) hb g trivial _ _ hc)
    exact ⟨h1.1,fun k g' o' hk hp'=>⟨fun pa na ca h=>(h1.2 k g' o' hk hp').1 pa na ca (cell_below (U:=any_) hb g' trivial _ _ h),fun pb nb cb h=>(h1.2 k g' o' hk hp').2 pb nb cb (cell_below (U:=any_) hb g' trivial _ _ h)⟩⟩⟩
end Go.Proofs.YtppdbnccinfegaaGreatDoor.Prog
end
section
namespace Go.Proofs.YtppdbnccinfegaaGreatDoor.Prs
open Go.Proofs.YtppdbnccinfegaaGreatDoor.Expr Go.Proofs.YtppdbnccinfegaaGreatDoor.Prog
open Go.Proofs.YtppdbnccinfegaaGreatDoor.Lex (Tok)
section
variable {ts : List Lex.Tok}
def Out.Er {α:Type} (o:Out α):Prop:=∀ j e,o = .bad j e->e≠0
def Out.InE {α:Type} (n lo:Nat) (o:Out α):Prop:=(∀ a k,o = .ok a k->lo<=k/\k<n)/\o.Er
theorem er_bad {α:Type} {j e:Nat} (h:e≠0):(Out.bad (α:=α) j e).Er:=fun _ _ h'=>by injection h' with _ h';rw [<- h'];exact h
theorem er_ok {α:Type} {a:α} {k:Nat}:(Out.ok a k).Er:=fun _ _ h=>by cases h
theorem er_map {α β:Type} {o:Out α} {f:α->β} (h:o.Er):(o.map f).Er:=by
  cases o with
  | bad j e=>exact er_bad (h _ _ rfl)
  | ok a k=>exact er_ok
theorem er_bind {α β:Type} {o:Out α} {f:α->Nat->Out β} (h:o.Er) (h2:∀ a k,(f a k).Er):(o.bind f).Er:=by
  cases o with
  | bad j e=>exact er_bad (h _ _ rfl)
  | ok a k=>exact h2 a k
theorem er_word {α:Type} {f:List UInt8->Option α} {k:Nat}:(wordF ts f k).Er:=by
  unfold wordF
  split
  · split
    · exact er_ok
    · exact er_bad (by decide)
  · exact er_bad (by decide)
theorem er_sign {s:List UInt8} {k:Nat}:(signF ts s k).Er:=by
  unfold signF
  split
  · exact er_ok
  · exact er_bad (by decide)
theorem er_leaf {ask:Bool} {k:Nat}:(leafF ts ask k).Er:=by
  unfold leafF
  split
  · split
    · split
      · split
        · exact er_map er_word
        · exact er_bad (by decide)
      · exact er_ok
    · exact er_map er_word
  · split
    · exact er_ok
    · exact er_map er_word
theorem px_er {ask:Bool} {g:Gl} {k:Nat} {out:Out Ex} (h:Px ts ask g k out):out.Er:=by
  induction h with
  | leaf _ _=>exact er_leaf
  | deep _ _=>exact er_bad (by decide)
  | sign _ _ _ ih=>exact er_map ih
  | paren _ _ _ _ ih=>exact er_bind ih fun _ _=>er_map er_sign
  | first _ _ _ ih=>exact ih
  | firstBad _ ih=>exact er_bad (ih _ _ rfl)
  | stop _=>exact er_ok
  | go _ _ _ _ ih=>exact ih
  | goBad _ _ ih=>exact er_bad (ih _ _ rfl)
theorem e_bad {α:Type} {n lo j e:Nat} (h:e≠0):(Out.bad (α:=α) j e).InE n lo:=⟨fun _ _ h'=>(by cases h'),er_bad h⟩
theorem e_ok {α:Type} {n lo k:Nat} {a:α} (h1:lo<=k) (h2:k<n):(Out.ok a k).InE n lo:=⟨fun _ _ h=>by injection h with _ h;subst h;exact ⟨h1,h2⟩,er_ok⟩
theorem e_bind {α β:Type} {n lo:Nat} {o:Out α} {f:α->Nat->Out β} (h1:o.InE n lo) (h2:∀ a k,lo<=k->k<n->(f a k).InE n lo):(o.bind f).InE n lo:=by
  cases o with
  | bad j e=>exact e_bad (h1.2 _ _ rfl)
  | ok a k=>exact h2 a k (h1.1 a k rfl).1 (h1.1 a k rfl).2
theorem e_map {α β:Type} {n lo:Nat} {o:Out α} {f:α->β} (h1:o.InE n lo):(o.map f).InE n lo:=by
  cases o with
  | bad j e=>exact e_bad (h1.2 _ _ rfl)
  | ok a k=>exact e_ok (h1.1 a k rfl).1 (h1.1 a k rfl).2
theorem e_low {α:Type} {n lo l2:Nat} {o:Out α} (h:o.InE n l2) (hl:lo<=l2):o.InE n lo:=⟨fun a k e=>⟨Nat.le_trans hl (h.1 a k e).1,(h.1 a k e).2⟩,h.2⟩
theorem word_inE (hg:Good ts) {α:Type} {f:List UInt8->Option α} {k lo:Nat} (hk:k<ts.length) (hl:lo<=k+1):(wordF ts f k).InE ts.length lo:=by
  unfold wordF
  split
  · rename_i hq
    have:=hg.more k hk (by omega)
    split
    · exact e_ok hl (by omega)
    · exact e_bad (by decide)
  · exact e_bad (by decide)
theorem sign_inE (hg:Good ts) {s:List UInt8} (hs:s ≠ []) {k lo:Nat} (hk:k<ts.length) (hl:lo<=k+1):(signF ts s k).InE ts.length lo:=by
  unfold signF
  split
  · rename_i hc
    have:=hg.more k hk fun h0=>hs (by rw [<- hc,hg.fin k hk h0])
    exact e_ok hl (by omega)
  · exact e_bad (by decide)
theorem expr_inE (hg:Good ts) (ask:Bool) {k lo:Nat} (hk:k<ts.length) (hl:lo<=k+1):(exprF ts ask k).InE ts.length lo:=by
  obtain ⟨out,hx,hb⟩:=(px_total (ask:=ask) hg (ts.length - k) k (Nat.le_refl _) hk).2 0 1 (by omega) (by omega)
  rw [exprF_of hx]
  cases out with
  | bad j e=>exact e_bad (px_er hx _ _ rfl)
  | ok a k1 =>
    have h1:k<k1:=hx.grows _ _ rfl
    have h2:=hb _ _ rfl
    show (if 12<a.depth then Out.bad k 4 else Out.ok a k1).InE ts.length lo
    split
    · exact e_bad (by decide)
    · exact e_ok (by omega) h2
theorem call_inE (hg:Good ts) (kind r:Nat) {k lo:Nat} (hk:k<ts.length) (hl:lo<=k+1):(callF ts kind r k).InE ts.length lo:=by
  unfold callF
  refine e_bind (sign_inE hg (by simp) hk hl) fun _ k h1 h2=>e_bind ?_ fun x k h1 h2=>e_bind ?_ fun a k h1 h2=>e_bind ?_ fun b k h1 h2=>e_bind (word_inE hg h2 (by omega)) fun m k h1 h2=>e_bind (sign_inE hg (by simp) h2 (by omega)) fun _ k h1 h2=>e_map (sign_inE hg (by simp) h2 (by omega))
  · split
    · exact e_ok h1 h2
    · exact e_bind (word_inE hg h2 (by omega)) fun x k h1 h2=>e_map (sign_inE hg (by simp) h2 (by omega))
  · split
    · exact e_ok h1 h2
    · exact e_bind (expr_inE hg false h2 (by omega)) fun x k h1 h2=>e_map (sign_inE hg (by simp) h2 (by omega))
  · split
    · exact e_bind (expr_inE hg false h2 (by omega)) fun x k h1 h2=>e_map (sign_inE hg (by simp) h2 (by omega))
    · exact e_ok h1 h2
theorem got_inE (hg:Good ts) (r:Nat) {k lo:Nat} (hk:k<ts.length) (hl:lo<=k+1):(gotF ts r k).InE ts.length lo:=by
  have hm:∀ s:List UInt8,s ≠ []->ltrs ts k=s->k+1<ts.length:=fun s hs hc=>hg.more k hk fun h0=>hs (by rw [<- hc,hg.fin k hk h0])
  unfold gotF
  split
  · rename_i hc;exact call_inE hg 2 r (hm _ (by decide) hc) (by omega)
  split
  · rename_i hc;exact call_inE hg 4 r (hm _ (by decide) hc) (by omega)
  split
  · rename_i hc;exact call_inE hg 5 r (hm _ (by decide) hc) (by omega)
  split
  · rename_i hc;exact call_inE hg 6 r (hm _ (by decide) hc) (by omega)
  exact e_bind (expr_inE hg false hk hl) fun x k h1 h2=>e_map (sign_inE hg (by simp) h2 (by omega))
theorem flat_inE (hg:Good ts) {k lo:Nat} (hk:k<ts.length) (hl:lo<=k+1):(flatF ts k).InE ts.length lo:=by
  have hm:∀ s:List UInt8,s ≠ []->ltrs ts k=s->k+1<ts.length:=fun s hs hc=>hg.more k hk fun h0=>hs (by rw [<- hc,hg.fin k hk h0])
  unfold flatF
  split
  · rename_i hc;exact call_inE hg 3 0 (hm _ (by decide) hc) (by omega)
  split
  · rename_i hc;exact call_inE hg 7 0 (hm _ (by decide) hc) (by omega)
  exact e_bind (word_inE hg hk hl) fun r k h1 h2=>e_bind (sign_inE hg (by simp) h2 (by omega)) fun _ k h1 h2=>e_low (got_inE hg r h2 (by omega)) h1
theorem cond_inE (hg:Good ts) {k lo:Nat} (hk:k<ts.length) (hl:lo<=k+1):(condF ts k).InE ts.length lo:=by
  unfold condF
  exact e_bind (sign_inE hg (by simp) hk hl) fun _ k h1 h2=>e_bind (expr_inE hg false h2 (by omega)) fun a k h1 h2=>e_map (sign_inE hg (by simp) h2 (by omega))
theorem bx_totalE (hg:Good ts):∀ (n k:Nat),ts.length - k<=n->k<ts.length->∀ d,(∃ out,Bx ts (.block d) k out/\out.InE ts.length (k+1))/\(∃ out,Bx ts (.stmt d) k out/\out.InE ts.length (k+1)/\∀ b k1,out = .ok b k1->∃ m t e,b = .cons m t e .nil) /\
    ∀ q,∃ out,Bx ts (.more d q) k out/\out.InE ts.length (k+1):=by
  intro n
  induction n with
  | zero=>intro k h1 h2;omega
  | succ n ih =>
    intro k h1 h2 d
    have hm:∀ s:List UInt8,s ≠ []->ltrs ts k=s->k+1<ts.length:=fun s hs hc=>hg.more k h2 fun h0=>hs (by rw [<- hc,hg.fin k h2 h0])
    have hst:∃ out,Bx ts (.stmt d) k out/\out.InE ts.length (k+1)/\∀ b k1,out = .ok b k1->∃ m t e,b = .cons m t e .nil:=by
      by_cases hq:ltrs ts k=wIf \/ ltrs ts k=wWhile
      · have hk1:k+1<ts.length:=hq.elim (hm _ (by decide)) (hm _ (by decide))
        have hc:=cond_inE hg hk1 (lo:=k+1) (by omega)
        cases hcc:condF ts (k+1) with
        | bad j er=>exact ⟨_,.headBad hq hcc,e_bad (hc.2 _ _ hcc),fun _ _ h=>by cases h⟩
        | ok a k1 =>
          obtain ⟨l1,l2⟩:=hc.1 a k1 hcc
          obtain ⟨o1,hb1,hi1⟩:=(ih k1 (by omega) l2 (d+1)).1
          cases o1 with
          | bad j er=>exact ⟨_,.thenBad hq hcc hb1,e_bad (hi1.2 _ _ rfl),fun _ _ h=>by cases h⟩
          | ok t k2 =>
            obtain ⟨l3,l4⟩:=hi1.1 t k2 rfl
            rcases hq with hq | hq
            · by_cases he:ltrs ts k2=wElse
              · have hk3:k2+1<ts.length:=hg.more k2 l4 fun h0=>by rw [hg.fin k2 l4 h0] at he;cases he
                obtain ⟨o2,hb2,hi2⟩:=(ih (k2+1) (by omega) hk3 (d+1)).1
                refine ⟨_,.other hq hcc hb1 he hb2,e_map (e_low hi2 (by omega)),fun b k1 h=>?_⟩
                cases o2 with
                | bad j er=>cases h
                | ok e k4=>injection h with h _;exact ⟨_,_,_,h.symm⟩
              · exact ⟨_,.cond hq hcc hb1 he,e_ok (by omega) l4,fun b k1 h=>by injection h with h _;exact ⟨_,_,_,h.symm⟩⟩
            · exact ⟨_,.loop hq hcc hb1,e_ok (by omega) l4,fun b k1 h=>by injection h with h _;exact ⟨_,_,_,h.symm⟩⟩
      · refine ⟨_,.flat (fun h=>hq (.inl h)) (fun h=>hq (.inr h)),e_map (flat_inE hg h2 (Nat.le_refl _)),fun b k1 h=>?_⟩
        cases hf:flatF ts k with
        | bad j er=>rw [hf] at h;cases h
        | ok m k1=>rw [hf] at h;injection h with h _;exact ⟨_,_,_,h.symm⟩
    have hmo:∀ q,∃ out,Bx ts (.more d q) k out/\out.InE ts.length (k+1):=by
      intro q
      by_cases hc:ltrs ts k=[125]
      · exact ⟨_,.close hc,e_ok (Nat.le_refl _) (hm _ (by simp) hc)⟩
      · obtain ⟨out,hs,hi,hf⟩:=hst
        cases out with
        | bad j er=>exact ⟨_,.stepBad hc hs,e_bad (hi.2 _ _ rfl)⟩
        | ok b k1 =>
          obtain ⟨m,t,e,rfl⟩:=hf _ _ rfl
          obtain ⟨l1,l2⟩:=hi.1 _ _ rfl
          obtain ⟨o2,hb2,hi2⟩:=(ih k1 (by omega) l2 d).2.2 (q.snoc m t e)
          exact ⟨_,.step hc hs hb2,e_low hi2 (by omega)⟩
    refine ⟨?_,hst,hmo⟩
    by_cases hc:ltrs ts k=[123]
    · by_cases hd:8<d
      · exact ⟨_,.deep hc hd,e_bad (by decide)⟩
      · have hk1:=hm _ (by simp) hc
        obtain ⟨o,hb,hi⟩:=(ih (k+1) (by omega) hk1 d).2.2 .nil
        exact ⟨_,.block hc (by omega) hb,e_low hi (by omega)⟩
    · exact ⟨_,.none hc,e_bad (by decide)⟩
theorem init_inE (hg:Good ts) {k lo:Nat} (hk:k<ts.length) (hl:lo<=k+1):(initF ts k).InE ts.length lo:=by
  unfold initF
  refine e_bind (word_inE hg hk hl) fun x k h1 h2=>e_bind (sign_inE hg (by simp) h2 (by omega)) fun _ k h1 h2=>e_bind ?_ fun n k h1 h2=>e_map (sign_inE hg (by simp) h2 (by omega))
  split
  · rename_i hq
    have:=hg.more k h2 (by omega)
    exact e_ok (by omega) (by omega)
  · exact e_bad (by decide)
theorem ask_er (hg:Good ts) {l:List (Nat × Nat)} {q:List Blk} {k:Nat} (hk:k<ts.length):(askF ts l q k).Er:=by
  rw [askF_of]
  unfold forallF
  split
  · rename_i hq
    have hm:=hg.more k hk (by omega)
    split
    · rw [ok_bind]
      exact er_bind (expr_inE hg true (lo:=0) hm (by omega)).2 fun _ _=>er_bind er_sign fun _ _=>by
        split
        · exact er_ok
        · exact er_bad (by decide)
    · exact er_bad (by decide)
  · exact er_bad (by decide)
theorem tx_threadsE (hg:Good ts) (l:List (Nat × Nat)):∀ (n k:Nat),ts.length - k<=n->k<ts.length->∀ q,∃ out,Tx ts (.threads l q) k out/\out.Er:=by
  intro n
  induction n with
  | zero=>intro k h1 h2;omega
  | succ n ih =>
    intro k h1 h2 q
    by_cases ht:ltrs ts k=wThread
    · by_cases hq:4<=q.length
      · exact ⟨_,.many ht hq,er_bad (by decide)⟩
      · have hk1:k+1<ts.length:=hg.more k h2 fun h0=>by rw [hg.fin k h2 h0] at ht;cases ht
        obtain ⟨o,hb,hi⟩:=(bx_totalE hg _ (k+1) (Nat.le_refl _) hk1 1).1
        cases o with
        | bad j er=>exact ⟨_,.threadBad ht (by omega) hb,er_bad (hi.2 _ _ rfl)⟩
        | ok b k1 =>
          obtain ⟨l1,l2⟩:=hi.1 _ _ rfl
          obtain ⟨out,hx,he⟩:=ih k1 (by omega) l2 (q ++ [b])
          exact ⟨_,.thread ht (by omega) hb hx,he⟩
    · exact ⟨_,.ask ht,ask_er hg h2⟩
theorem tx_totalE (hg:Good ts):∀ (n k:Nat),ts.length - k<=n->k<ts.length->∀ l,∃ out,Tx ts (.inits l) k out/\out.Er:=by
  intro n
  induction n with
  | zero=>intro k h1 h2;omega
  | succ n ih =>
    intro k h1 h2 l
    by_cases hi:ltrs ts k=wInit
    · have hk1:k+1<ts.length:=hg.more k h2 fun h0=>by rw [hg.fin k h2 h0] at hi;cases hi
      have hin:=init_inE hg hk1 (lo:=k+1) (by omega)
      cases hx:initF ts (k+1) with
      | bad j er=>exact ⟨_,.initBad hi hx,er_bad (hin.2 _ _ hx)⟩
      | ok x k1 =>
        obtain ⟨l1,l2⟩:=hin.1 _ _ hx
        obtain ⟨out,ho,he⟩:=ih k1 (by omega) l2 (l ++ [x])
        exact ⟨_,.init hi hx ho,he⟩
    · obtain ⟨out,ho,he⟩:=tx_threadsE hg l _ k (Nat.le_refl _) h2 []
      exact ⟨_,.inited hi ho,he⟩
end
theorem txOut_er {ts:List Lex.Tok} (hp:Pcs ts):(txOut ts).Er:=by
  obtain ⟨out,h,he⟩:=tx_totalE hp.good _ 0 (Nat.le_refl _) hp.some []
  rw [txOut_is h];exact he
theorem oneE_bad {l:List UInt8} {e:Nat} (h:Lex.one l = .bad e):e≠0:=by
  cases l with
  | nil=>cases h
  | cons a m =>
    rw [Lex.one_cons] at h
    repeat' split at h
    all_goals first | (injection h with e1;omega) | cases h
theorem lexE_err:∀ (f:Nat) (l:List UInt8) (p:Nat × Nat) (e x y:Nat),Lex.lexF f l p = .err e x y->e≠0:=by
  intro f
  induction f with
  | zero=>intro l p e x y h;cases h
  | succ f ih =>
    intro l p e x y h
    rw [Lex.lexF] at h
    cases ho:Lex.one l with
    | fin=>rw [ho] at h;cases h
    | bad e' =>
      rw [ho] at h
      injection h with a b c
      subst a;subst b;subst c
      exact oneE_bad ho
    | skip n =>
      rw [ho] at h
      exact ih _ _ _ _ _ h
    | piece k n v =>
      rw [ho] at h
      simp only at h
      cases hx:Lex.lexF f (l.drop n) (Lex.adv p (l.take n)) with
      | ok ts'=>rw [hx] at h;cases h
      | err e' x' y' =>
        rw [hx] at h
        injection h with a b c
        subst a;subst b;subst c
        exact ih _ _ _ _ _ hx
theorem parse_er {s:List UInt8} {l c e:Nat} (h:parseAll s = .err l c e):e≠0:=by
  cases hl:Lex.lexAll s with
  | err e' l' c' =>
    rw [parseAll_lex hl] at h
    injection h with _ _ h
    subst h
    unfold Lex.lexAll at hl
    split at hl
    · exact lexE_err _ _ _ _ _ _ hl
    · injection hl with hl _ _;omega
  | ok ts =>
    cases ht:txOut ts with
    | ok t k=>rw [parseAll_ok hl ht] at h;cases h
    | bad j e' =>
      rw [parseAll_bad hl ht] at h
      injection h with _ _ h
      rw [<- h]
      exact txOut_er (pcs_of hl) _ _ ht
end Go.Proofs.YtppdbnccinfegaaGreatDoor.Prs
end
