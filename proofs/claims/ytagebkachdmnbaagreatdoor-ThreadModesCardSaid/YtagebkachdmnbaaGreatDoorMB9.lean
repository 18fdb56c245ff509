/- Part 20 of the proof: what is used of the texts LexC. -/
import Derived.Test.YtagebkachdmnbaaGreatDoorMB8
import Derived.Deep.LoopGhost
import Derived.Deep.RegionHeld3
import Derived.Deep.AppendLies
section
namespace Go.Proofs.YtagebkachdmnbaaGreatDoor.Lex
open Go.RowKit
def LexMade (r:Res) (w:World) (e:Ending) (w':World):Prop :=
  Below w.heap.size w w' /\ match r with
    | .ok ts=>∃ v,e = .returned (.tuple #[v,.agg #[.int .i64 0,.int .i64 0],.int .i64 0])/\w'.ownsRow w.heap.size 278 5 v ts.length (toks ts)
    | .err er l c=>e = .returned (.tuple #[.slice none 0 0,.agg #[.int .i64 l,.int .i64 c],.int .i64 er])
def Hub (s:ByteArray) (w:World) (n:Nat) (a:Act) (wr:World):Prop :=
  ∃ (b:Seats) (k:Nat) (v c0 c1 c2 c3 c4:Value) (acc:List Tok),a.defers=[]/\a.tmps.size=153/\slot a.tmps 0 = .string s/\slot a.tmps 3 = .pointer (some ⟨b.R,0,none⟩)/\slot a.tmps 5=v /\
    slot a.tmps 6 = .pointer (some ⟨b.F,0,none⟩)/\slot a.tmps 8 = .func (.func 226) #[] #[.pointer (some ⟨b.I,0,none⟩),.pointer (some ⟨b.T,0,none⟩),.pointer (some ⟨b.A,0,none⟩)] /\
    slot a.tmps 9 = .pointer (some ⟨b.H,0,none⟩)/\n=s.size - k/\k<=s.size/\acc.length<=k /\
    lex s.data.toList (1,1)=(lex (s.data.toList.drop k) (pl s.data.toList k)).more acc/\Mem s w wr b k #[c0,c1,c2,c3,c4] v acc
theorem pieceInfo:(Tryz.prog.info? 278).map (fun i=>(i.zero,i.size,i.bytes))=some (some (.agg #[.int .u8 0,.string .empty,.int .u64 0,.int .i64 0,.int .i64 0]),5,48):=by kernel_rfl
theorem five_one {k n l c:Int} {t:ByteArray}:∀ u ∈ [Value.int .u8 k,.string t,.int .u64 n,.int .i64 l,.int .i64 c],u.oneCell' = true:=by
  intro u hu
  simp only [List.mem_cons,List.not_mem_nil,or_false] at hu
  rcases hu with rfl | rfl | rfl | rfl | rfl <;> rfl
theorem five_at {w:World} {t:TypeId} {g:Nat} {c0 c1 c2 c3 c4:Value} (hg:g=w.heap.size):∀ j u,[c0,c1,c2,c3,c4][j]? = some u->(w.alloc (.cells #[c0,c1,c2,c3,c4] t)).cell? ((⟨g,0,none⟩:Addr).add j)=some u:=by
  intro j u hu
  have:=(Sits.made (w:=w) hg t #[c0,c1,c2,c3,c4]).cell j
  rw [Addr.add_lit,Nat.zero_add,this]
  simpa using hu
set_option maxHeartbeats 8000000 in
set_option maxRecDepth 100000 in
theorem lex_any (s:ByteArray) (w:World) (hs:s.size<=4096) :
    Calls Tryz.prog 109 #[.string s] w fun e w'=>LexMade (lex s.data.toList (1,1)) w e w':=by
  obtain ⟨i0,hi,hz0,hz1,hz2⟩:=info_parts pieceInfo
  go_enter Tryz.func109,Tryz.ntmps109
  go_wp2
  refine wp_scope_hub 0 (Hub s w) rfl ?_ ?_
  · rintro n ⟨tm,df⟩ wr ⟨b,k,v,c0,c1,c2,c3,c4,acc,hdf,hsz,h0,h3,h5,h6,h8,h9,rfl,hk,hacc,hlex,hm⟩
    simp only at hdf hsz h0 h3 h5 h6 h8 h9
    subst hdf
    have hsp:=spread tm 153 hsz
    simp only [List.range,List.range.loop,List.map_cons,List.map_nil,h0,h3,h5,h6,h8,h9] at hsp
    rw [hsp]
    clear hsp h0 h3 h5 h6 h8 h9 hsz
    have HX:=Lib.hid hlex;clear hlex
    obtain ⟨f0,f1,f2,f3,f4,ff0,ff1,ff2,ff3,ff4⟩:=hm.hF.all5
    obtain ⟨g0,g1,g2,g3,g4,gg0,gg1,gg2,gg3,gg4⟩:=(show Sits wr b.H 274 #[.int .u8 (bAt s k),.bool (endAt s k),.int .i64 k,.int .i64 (lineAt s k),.int .i64 (colAt s k)] from hm.hH).all5
    have hFH:=hm.nFH
    have hm1:=hm.first
    by_cases hend:k=s.size
    · subst hend
      have he:endAt s s.size=true:=by simp [endAt]
      rw [he] at hm1 g1
      have HE:=Lib.hid he;clear he
      go_wp2_with fail
      go_step3
      refine to_label _ (fun _ h=>h) (by decide) rfl ?_
      go_wp2_with (at_builtin;refine wpList_append_own _ rfl (.tmp 146) (.tmp 150) 209 rfl w.heap.size 278 i0 _ 5 48 Tryz.underlying209 hi hz0 hz1 hz2 rfl (by decide) v acc.length (toks acc) rfl (hm1.own.alloc _) ⟨wr.heap.size,0,none⟩ 1 1 [.int .u8 0,.string ⟨#[]⟩,.int .u64 0,.int .i64 (lineAt s s.size),.int .i64 (colAt s s.size)] rfl rfl (five_at (by simp)) five_one (by unfold maxLen;omega) (by omega) (by have:=hm.low.size;simp;omega) ?_)
      intro v3 w3 own3 grown3 _
      have hm3:=hm1.grew ⟨0,[],0,(pl s.data.toList s.size).1,(pl s.data.toList s.size).2⟩ rfl own3 grown3
      obtain ⟨r0,r1,rr0,rr1⟩:=hm3.hR.all2
      clear own3 grown3
      go_wp2
      refine bodyPost_ret (v:=.tuple #[v3,.agg #[.int .i64 0,.int .i64 0],.int .i64 0]) (by simp [results,go_sem,r0,r1]) rfl ?_
      have hR3:=own_far hm3.own hm3.hR (by decide)
      rw [HX.out,show s.data.toList.drop s.size=[] from List.drop_of_length_le (Nat.le_refl _),lex_fin]
      exact ⟨(hm3.low.setCell hm3.lR _).setCell hm3.lR _,v3,rfl,ownsRow_setCell_other (ownsRow_setCell_other hm3.own hR3 _) hR3 _⟩
    · have hlt:k<s.size:=by omega
      have hll:k<s.data.toList.length:=hlt
      have he:endAt s k=false:=by simp [endAt,hend]
      rw [he] at hm1 g1
      have HE:=Lib.hid he;clear he
      have HN:=Lib.hid (nextAt_in s k hlt)
      have HNL:=nextAt_le s k hk
      obtain ⟨r0,r1,rr0,rr1⟩:=hm.hR.all2
      have hFR:=hm.apart.1
      by_cases hbl:isB (byt s k)=true
      · have HX2:=Lib.hid (HX.out.trans (congrArg _ (lex_on_skip (one_blank hll hbl))))
        rw [<- HN.out] at HX2
        rcases blank_yes hbl with h32 | ⟨h32,h9⟩ | ⟨h32,h9,h10⟩
        all_goals
          go_wp2_with fail
          go_step3
          refine to_label _ (fun _ h=>h) (by decide) rfl ?_
          go_wp2_with fail
          refine (tell_any s (nextAt s k) b.T b.I b.A _ (by omega) HNL hm1.hT hm1.hI hm1.hA).mono ?_
          rintro e w2 hmade
          obtain ⟨hH2,hm2⟩:=hm1.told hmade
          obtain ⟨d0,d1,d2,d3,d4,dd0,dd1,dd2,dd3,dd4⟩:=hH2.allTold
          obtain ⟨rfl,_⟩:=hmade
          go_wp2_with fail
          go_step3
          exact to_hub (Q:=fun _ _ _=>True) (n':=s.size - nextAt s k) (by have:=HN.out;omega) ⟨b,_,v,_,_,_,_,_,acc,rfl,rfl,rfl,rfl,rfl,rfl,rfl,rfl,rfl,HNL,by have:=HN.out;omega,HX2.out,hm2⟩
      have HB:=Lib.hid (Bool.eq_false_iff.2 hbl)
      obtain ⟨n32,n9,n10⟩:=blank_no HB.out
      clear hbl
      by_cases hre:(bAt s k == 35)=true
      · go_wp2_with fail
        go_step3
        refine to_label _ (fun _ h=>h) (by decide) rfl ?_
        go_wp2_with fail
        go_loopg [] (s.size - k) (fun g wx=>∃ j,k<=j/\j<=s.size/\g=s.size - j/\Hid (Scan isR s.data.toList k j)/\Mem s w wx b j (tellCells s k) v acc)
        case atStart=>exact ⟨k,Nat.le_refl _,hk,rfl,Scan.none _ _ _,hm1⟩
        case round =>
          obtain ⟨j,hkj,hj,rfl,HS,hmj⟩:=hrel
          have hjl:j<=s.data.toList.length:=hj
          obtain ⟨d0,d1,d2,d3,d4,dd0,dd1,dd2,dd3,dd4⟩:=hmj.hH.allTold
          by_cases hst:j=s.size \/ (bAt s j != 10)=false
          · have ht:Stops isR s.data.toList j:=fun h=>by
              rcases hst with e | e
              · exact absurd h (by rw [e];exact Nat.lt_irrefl _)
              · exact (nl_not s j).symm.trans e
            have ho:=one_remark hll HB.out ((hash_is s k).symm.trans hre) hkj hjl HS.out ht
            have hpos:=skip_pos hll ho
            have HX2:=Lib.hid (HX.out.trans (congrArg _ (lex_on_skip ho)))
            rw [show k+(j - k)=j by omega] at HX2
            clear ho ht
            by_cases hje:j=s.size
            · have he:endAt s j=true:=by simp [endAt,hje]
              clear hst hje
              go_wp2_with fail
              go_step3
              exact to_hub (Q:=fun _ _ _=>True) (n':=s.size - j) (by omega) ⟨b,_,v,_,_,_,_,_,acc,rfl,rfl,rfl,rfl,rfl,rfl,rfl,rfl,rfl,hj,by omega,HX2.out,hmj⟩
            · have he:endAt s j=false:=by simp [endAt,hje]
              have hn:(bAt s j != 10)=false:=hst.resolve_left hje
              clear hst
              go_wp2_with fail
              go_step3
              exact to_hub (Q:=fun _ _ _=>True) (n':=s.size - j) (by omega) ⟨b,_,v,_,_,_,_,_,acc,rfl,rfl,rfl,rfl,rfl,rfl,rfl,rfl,rfl,hj,by omega,HX2.out,hmj⟩
          · have hje:¬ j=s.size:=fun e=>hst (.inl e)
            have hjlt:j<s.size:=by omega
            have he:endAt s j=false:=by simp [endAt,hje]
            have hn:(bAt s j != 10)=true:=by cases h:(bAt s j != 10) <;> simp [h] at hst ⊢
            have HS2:=Lib.hid (HS.out.next ((nl_not s j).symm.trans hn))
            have HN2:=Lib.hid (nextAt_in s j hjlt)
            rw [<- HN2.out] at HS2
            have HNL2:=nextAt_le s j hj
            clear hst
            go_wp2_with fail
            refine (tell_any s (nextAt s j) b.T b.I b.A _ (by omega) HNL2 hmj.hT hmj.hI hmj.hA).mono ?_
            rintro e w2 hmade
            obtain ⟨hH2,hm2⟩:=hmj.told hmade
            obtain ⟨x0,x1,x2,x3,x4,xx0,xx1,xx2,xx3,xx4⟩:=hH2.allTold
            obtain ⟨rfl,_⟩:=hmade
            go_wp2_with fail
            go_roundg (s.size - nextAt s j)
            case measure=>have:=HN2.out;omega
            case rel=>exact ⟨nextAt s j,by have:=HN2.out;omega,HNL2,rfl,HS2,hm2⟩
      have n35:=Bool.eq_false_iff.2 hre
      clear hre
      have H35:=Lib.hid ((hash_is s k).symm.trans n35)
      by_cases hdi:isD (byt s k)=true
      · go_wp2_with (go_at_call 171;refine (digit_any _ _ _).mono ?_;rintro e w' ⟨rfl,rfl⟩)
        go_step3
        refine to_label _ (fun _ h=>h) (by decide) rfl ?_
        go_wp2_with fail
        go_loopg [7] (s.size - k) (fun g v7 wx=>∃ j,k<=j/\j<=s.size/\g=s.size - j/\Hid (Scan isD s.data.toList k j)/\v7 = .int .u64 (numAt s k j:Nat)/\(numAt s k j:Int)<=18446744073709551615/\Mem s w wx b j (tellCells s k) v acc)
        case atStart=>exact ⟨k,Nat.le_refl _,hk,rfl,Scan.none _ _ _,by rw [numAt_none];rfl,by rw [numAt_none];decide,hm1⟩
        case round =>
          obtain ⟨j,hkj,hj,rfl,HS,rfl,hnb,hmj⟩:=hrel
          have hjl:j<=s.data.toList.length:=hj
          obtain ⟨d0,d1,d2,d3,d4,dd0,dd1,dd2,dd3,dd4⟩:=hmj.hH.allTold
          by_cases hdj:isD (byt s j)=true
          · have hjlt:=digit_lt hdj
            obtain ⟨hb1,hb2⟩:=digit_bd hdj
            have HS2:=Lib.hid (HS.out.next (q:=isD) hdj)
            have HN2:=Lib.hid (nextAt_in s j hjlt)
            have HNUM:=Lib.hid (numAt_next s k j hkj hjlt hb1)
            rw [<- HN2.out] at HS2
            have HNL2:=nextAt_le s j hj
            have hn0:(0:Int)<=(numAt s k j:Nat):=Int.natCast_nonneg _
            obtain ⟨e0,e1,e2,e3,e4,ee0,ee1,ee2,ee3,ee4⟩:=hmj.hF.allTold
            obtain ⟨q0,q1,qq0,qq1⟩:=hmj.hR.all2
            by_cases hov:(18446744073709551615 - (bAt s j - 48)) / 10<(numAt s k j:Int)
            · have hbad:¬ numAt s k (j+1)<top:=by have:=HNUM.out;unfold top;omega
              have HBAD:=Lib.hid (one_number_bad (j:=j+1) hll HB.out H35.out hdi (Nat.le_succ_of_le hkj) hjlt (by rw [<- HN2.out];exact HS2.out) hbad)
              have hFR':=hmj.apart.1
              clear hbad
              go_wp2_with (go_at_call 171;refine (digit_any _ _ _).mono ?_;rintro e w' ⟨rfl,rfl⟩)
              go_region
              go_wp2
              refine bodyPost_ret (v:=.tuple #[.slice none 0 0,.agg #[.int .i64 (lineAt s k),.int .i64 (colAt s k)],.int .i64 4]) (by simp [results,go_sem,q0,q1]) rfl ?_
              rw [HX.out,lex_bad HBAD.out]
              exact ⟨((hmj.low.setCell hmj.lR _).setCell hmj.lR _).drew,rfl⟩
            · have hsum:(numAt s k (nextAt s j):Int)<=18446744073709551615:=by rw [HN2.out,HNUM.out];omega
              go_wp2_with (go_at_call 171;refine (digit_any _ _ _).mono ?_;rintro e w' ⟨rfl,rfl⟩)
              refine (tell_any s (nextAt s j) b.T b.I b.A _ (by omega) HNL2 hmj.hT hmj.hI hmj.hA).mono ?_
              rintro e w2 hmade
              obtain ⟨hH2,hm2⟩:=hmj.told hmade
              obtain ⟨x0,x1,x2,x3,x4,xx0,xx1,xx2,xx3,xx4⟩:=hH2.allTold
              obtain ⟨rfl,_⟩:=hmade
              go_wp2_with fail
              go_roundg (s.size - nextAt s j)
              case measure=>have:=HN2.out;omega
              case rel=>exact ⟨nextAt s j,by have:=HN2.out;omega,HNL2,rfl,HS2,by rw [HN2.out,HNUM.out],hsum,hm2⟩
          · have hdf:=Bool.eq_false_iff.2 hdj
            clear hdj
            have ho:=one_number hll HB.out H35.out hdi hkj hjl HS.out (fun _=>hdf) (by show numAt s k j<_;unfold top;omega)
            have hpos:=piece_pos hll ho
            have HX2:=Lib.hid (HX.out.trans (congrArg _ (lex_on_piece ho)))
            rw [show k+(j - k)=j by omega,more_more] at HX2
            clear ho
            obtain ⟨e0,e1,e2,e3,e4,ee0,ee1,ee2,ee3,ee4⟩:=hmj.hF.allTold
            have k0:(0:Int)<=(k:Int):=Int.natCast_nonneg _
            have k1:(k:Int)<=(j:Int):=by omega
            have k2:(j:Int)<=(s.size:Int):=by omega
            have af:=own_far hmj.own hmj.hF (by decide)
            have ah:=own_far hmj.own hmj.hH (by decide)
            have lF:=hmj.hF.lt
            have lH:=hmj.hH.lt
            have z1:=hmj.low.size
            go_wp2_with (go_at_call 171;refine (digit_any _ _ _).mono ?_;rintro e w' ⟨rfl,rfl⟩)
            go_region_held3 (fun w'=>w'.cell? ⟨b.F,2,none⟩=some (.int .i64 k)/\w'.cell? ⟨b.F,3,none⟩=some (.int .i64 (lineAt s k))/\w'.cell? ⟨b.F,4,none⟩=some (.int .i64 (colAt s k))/\w'.cell? ⟨b.H,2,none⟩=some (.int .i64 j))
              (first
                | go_keep
                | (go_split_ands
                   refine ⟨?_,?_,?_,?_⟩
                   · (rw [hgrow.cell_far _ (by simp;omega) (Ne.symm af)];assumption)
                   · (rw [hgrow.cell_far _ (by simp;omega) (Ne.symm af)];assumption)
                   · (rw [hgrow.cell_far _ (by simp;omega) (Ne.symm af)];assumption)
                   · (rw [hgrow.cell_far _ (by simp;omega) (Ne.symm ah)];assumption)))
              ((refine step_append_lies _ (by rfl) _ _ _ (by rfl) w.heap.size 278 i0 _ 5 48 Tryz.underlying209 hi hz0 hz1 hz2 rfl (by omega) v acc.length (toks acc) (by rfl) ((hmj.own.alloc _).drew)
                  ⟨wr.heap.size,0,none⟩ 1 1 [.int .u8 1,.string (s.extract k j),.int .u64 (numAt s k j:Nat),.int .i64 (lineAt s k),.int .i64 (colAt s k)] (by rfl) (by rfl) (five_at (by simp)) five_one
                  (by omega) (by unfold maxLen;omega) (by omega) (by simp;omega) (wr.heap.size+1) (by simp) ?_;intro gg cap w1 hown1 hgrow hat hlt))
            have hm3:=hmj.grewDrawn ⟨1,(s.data.toList.drop k).take (j - k),numAt s k j,(pl s.data.toList k).1,(pl s.data.toList k).2⟩ (by rw [cut_eq];rfl) hown1 hgrow
            go_wp2_with fail
            go_step3
            exact to_hub (Q:=fun _ _ _=>True) (n':=s.size - j) (by omega) ⟨b,j,_,_,_,_,_,_,_,rfl,rfl,rfl,rfl,rfl,rfl,rfl,rfl,rfl,hj,by simp;omega,HX2.out,hm3⟩
      have nD:=Bool.eq_false_iff.2 hdi
      clear hdi
      by_cases hle:isL (byt s k)=true
      · go_wp2_with (first | (go_at_call 171;refine (digit_any _ _ _).mono ?_;rintro e w' ⟨rfl,rfl⟩) | (go_at_call 172;refine (letter_any _ _ _).mono ?_;rintro e w' ⟨rfl,rfl⟩))
        go_step3
        refine to_label _ (fun _ h=>h) (by decide) rfl ?_
        go_wp2_with fail
        go_loopg [] (s.size - k) (fun g wx=>∃ j,k<=j/\j<=s.size/\g=s.size - j/\Hid (Scan isLD s.data.toList k j)/\Mem s w wx b j (tellCells s k) v acc)
        case atStart=>exact ⟨k,Nat.le_refl _,hk,rfl,Scan.none _ _ _,hm1⟩
        case round =>
          obtain ⟨j,hkj,hj,rfl,HS,hmj⟩:=hrel
          have hjl:j<=s.data.toList.length:=hj
          obtain ⟨d0,d1,d2,d3,d4,dd0,dd1,dd2,dd3,dd4⟩:=hmj.hH.allTold
          by_cases hld:isLD (byt s j)=true
          · have hjlt:=ld_lt hld
            have HS2:=Lib.hid (HS.out.next (q:=isLD) hld)
            have HN2:=Lib.hid (nextAt_in s j hjlt)
            rw [<- HN2.out] at HS2
            have HNL2:=nextAt_le s j hj
            have hcase:isL (byt s j)=true \/ (isL (byt s j)=false/\isD (byt s j)=true):=by
              unfold isLD at hld
              cases h:isL (byt s j) <;> simp [h] at hld ⊢;exact hld
            clear hld
            rcases hcase with hL | ⟨hL,hD⟩
            all_goals
              go_wp2_with (first | (go_at_call 171;refine (digit_any _ _ _).mono ?_;rintro e w' ⟨rfl,rfl⟩) | (go_at_call 172;refine (letter_any _ _ _).mono ?_;rintro e w' ⟨rfl,rfl⟩))
              refine (tell_any s (nextAt s j) b.T b.I b.A _ (by omega) HNL2 hmj.hT hmj.hI hmj.hA).mono ?_
              rintro e w2 hmade
              obtain ⟨hH2,hm2⟩:=hmj.told hmade
              obtain ⟨x0,x1,x2,x3,x4,xx0,xx1,xx2,xx3,xx4⟩:=hH2.allTold
              obtain ⟨rfl,_⟩:=hmade
              go_wp2_with fail
              go_roundg (s.size - nextAt s j)
              case measure=>have:=HN2.out;omega
              case rel=>exact ⟨nextAt s j,by have:=HN2.out;omega,HNL2,rfl,HS2,hm2⟩
          · have hlf:=Bool.eq_false_iff.2 hld
            clear hld
            have ho:=one_word hll HB.out H35.out nD hle hkj hjl HS.out (fun _=>hlf)
            have hpos:=piece_pos hll ho
            have HX2:=Lib.hid (HX.out.trans (congrArg _ (lex_on_piece ho)))
            rw [show k+(j - k)=j by omega,more_more] at HX2
            clear ho
            have hL:isL (byt s j)=false:=by unfold isLD at hlf;simp only [Bool.or_eq_false_iff] at hlf;exact hlf.1
            have hD:isD (byt s j)=false:=by unfold isLD at hlf;simp only [Bool.or_eq_false_iff] at hlf;exact hlf.2
            clear hlf
            obtain ⟨e0,e1,e2,e3,e4,ee0,ee1,ee2,ee3,ee4⟩:=hmj.hF.allTold
            have k0:(0:Int)<=(k:Int):=Int.natCast_nonneg _
            have k1:(k:Int)<=(j:Nat):=by omega
            have k2:((j:Nat):Int)<=(s.size:Int):=by omega
            have af:=own_far hmj.own hmj.hF (by decide)
            have ah:=own_far hmj.own hmj.hH (by decide)
            have lF:=hmj.hF.lt
            have lH:=hmj.hH.lt
            have z1:=hmj.low.size
            go_wp2_with (first | (go_at_call 171;refine (digit_any _ _ _).mono ?_;rintro e w' ⟨rfl,rfl⟩) | (go_at_call 172;refine (letter_any _ _ _).mono ?_;rintro e w' ⟨rfl,rfl⟩))
            go_region_held3 (fun w'=>w'.cell? ⟨b.F,2,none⟩=some (.int .i64 k)/\w'.cell? ⟨b.F,3,none⟩=some (.int .i64 (lineAt s k))/\w'.cell? ⟨b.F,4,none⟩=some (.int .i64 (colAt s k))/\w'.cell? ⟨b.H,2,none⟩=some (.int .i64 (j:Nat)))
              (first
                | go_keep
                | (go_split_ands
                   refine ⟨?_,?_,?_,?_⟩
                   · (rw [hgrow.cell_far _ (by simp;omega) (Ne.symm af)];assumption)
                   · (rw [hgrow.cell_far _ (by simp;omega) (Ne.symm af)];assumption)
                   · (rw [hgrow.cell_far _ (by simp;omega) (Ne.symm af)];assumption)
                   · (rw [hgrow.cell_far _ (by simp;omega) (Ne.symm ah)];assumption)))
              ((refine step_append_lies _ (by rfl) _ _ _ (by rfl) w.heap.size 278 i0 _ 5 48 Tryz.underlying209 hi hz0 hz1 hz2 rfl (by omega) v acc.length (toks acc) (by rfl) ((hmj.own.alloc _).drew)
                  ⟨wr.heap.size,0,none⟩ 1 1 [.int .u8 2,.string (s.extract k (j)),.int .u64 0,.int .i64 (lineAt s k),.int .i64 (colAt s k)] (by rfl) (by rfl) (five_at (by simp)) five_one
                  (by omega) (by unfold maxLen;omega) (by omega) (by simp;omega) (wr.heap.size+1) (by simp) ?_;intro gg cap w1 hown1 hgrow hat hlt))
            have hm9:=hmj.grewDrawn ⟨2,(s.data.toList.drop k).take (j - k),0,(pl s.data.toList k).1,(pl s.data.toList k).2⟩ (by rw [cut_eq];rfl) hown1 hgrow
            go_wp2_with fail
            go_step3
            exact to_hub (Q:=fun _ _ _=>True) (n':=s.size - j) (by omega) ⟨b,j,_,_,_,_,_,_,_,rfl,rfl,rfl,rfl,rfl,rfl,rfl,rfl,rfl,by omega,by simp;omega,HX2.out,hm9⟩
      have nL:=Bool.eq_false_iff.2 hle
      clear hle
      by_cases hsi:isS (byt s k)=true
      · have HP:=Lib.hid (one_sign hll HB.out H35.out nD nL hsi)
        go_wp2_with (first | (go_at_call 171;refine (digit_any _ _ _).mono ?_;rintro e w' ⟨rfl,rfl⟩) | (go_at_call 172;refine (letter_any _ _ _).mono ?_;rintro e w' ⟨rfl,rfl⟩) | (go_at_call 173;refine (sign_any _ _ _).mono ?_;rintro e w' ⟨rfl,rfl⟩))
        go_step3
        refine to_label _ (fun _ h=>h) (by decide) rfl ?_
        go_wp2_with fail
        refine (tell_any s (nextAt s k) b.T b.I b.A _ (by omega) HNL hm1.hT hm1.hI hm1.hA).mono ?_
        rintro e w2 hmade
        obtain ⟨hH2,hm2⟩:=hm1.told hmade
        obtain ⟨x0,x1,x2,x3,x4,xx0,xx1,xx2,xx3,xx4⟩:=hH2.allTold
        obtain ⟨y0,y1,y2,y3,y4,yy0,yy1,yy2,yy3,yy4⟩:=(hm1.hF.keep hmade.2.2.2.2 (by rintro (h | h);exact hm.apart.2.2.1 h;exact hm.apart.2.2.2.1 h)).allTold
        obtain ⟨rfl,_⟩:=hmade
        have HNB:=Lib.hid (show byt s (nextAt s k)=s.data.toList.getD (k+1) 0 from by rw [HN.out];rfl)
        by_cases h61:(bAt s (nextAt s k) == 61)=true
        · have hl2:=eq61_lt h61
          have HNL2:=nextAt_le s (nextAt s k) HNL
          by_cases hg:grows (byt s k)=true
          · have HN4:=Lib.hid (show nextAt s (nextAt s k)=k+2 from by rw [nextAt_in s _ hl2,HN.out])
            have HX2:=Lib.hid (piece_step HX.out (d:=3) (n:=2) (v:=0) (by rw [HP.out,<- HNB.out,<- eq61,h61,show grows (s.data.toList.getD k 0)=true from hg];rfl) HN4.out)
            have tT:=hm2.hT
            have tI:=hm2.hI
            have tA:=hm2.hA
            go_wp2_with (go_at_call 174;refine (grows_any _ _ _).mono ?_;rintro e w' ⟨rfl,rfl⟩)
            refine (tell_any s (nextAt s (nextAt s k)) b.T b.I b.A _ (by omega) HNL2 tT tI tA).mono ?_
            rintro e w4 hmade
            obtain ⟨hH4,hm4⟩:=hm2.told hmade
            obtain ⟨u0,u1,u2,u3,u4,uu0,uu1,uu2,uu3,uu4⟩:=hH4.allTold
            obtain ⟨rfl,_⟩:=hmade
            go_wp2_with fail
            rw [<- set5.eq_1]
            generalize set5 w4 b.H (.int .u8 (bAt s (nextAt s (nextAt s k)))) (.bool (endAt s (nextAt s (nextAt s k)))) (.int .i64 (nextAt s (nextAt s k):Nat)) (.int .i64 (lineAt s (nextAt s (nextAt s k)))) (.int .i64 (colAt s (nextAt s (nextAt s k))))=W at hm4 ⊢
            clear x0 x1 x2 x3 x4 xx0 xx1 xx2 xx3 xx4 y0 y1 y2 y3 y4 yy0 yy1 yy2 yy3 yy4 u0 u1 u2 u3 u4 uu0 uu1 uu2 uu3 uu4
            obtain ⟨x0,x1,x2,x3,x4,xx0,xx1,xx2,xx3,xx4⟩:=hm4.hH.allTold
            have hkn:nextAt s (nextAt s k)=k+2:=HN4.out
            have hkj:k<nextAt s (nextAt s k):=by omega
            clear hkn
            obtain ⟨e0,e1,e2,e3,e4,ee0,ee1,ee2,ee3,ee4⟩:=hm4.hF.allTold
            have k0:(0:Int)<=(k:Int):=Int.natCast_nonneg _
            have k1:(k:Int)<=(nextAt s (nextAt s k):Nat):=by omega
            have k2:((nextAt s (nextAt s k):Nat):Int)<=(s.size:Int):=by omega
            have af:=own_far hm4.own hm4.hF (by decide)
            have ah:=own_far hm4.own hm4.hH (by decide)
            have lF:=hm4.hF.lt
            have lH:=hm4.hH.lt
            have z1:=hm4.low.size
            go_region_held3 (fun w'=>w'.cell? ⟨b.F,2,none⟩=some (.int .i64 k)/\w'.cell? ⟨b.F,3,none⟩=some (.int .i64 (lineAt s k))/\w'.cell? ⟨b.F,4,none⟩=some (.int .i64 (colAt s k))/\w'.cell? ⟨b.H,2,none⟩=some (.int .i64 (nextAt s (nextAt s k):Nat)))
              (first
                | go_keep
                | (go_split_ands
                   refine ⟨?_,?_,?_,?_⟩
                   · (rw [hgrow.cell_far _ (by simp;omega) (Ne.symm af)];assumption)
                   · (rw [hgrow.cell_far _ (by simp;omega) (Ne.symm af)];assumption)
                   · (rw [hgrow.cell_far _ (by simp;omega) (Ne.symm af)];assumption)
                   · (rw [hgrow.cell_far _ (by simp;omega) (Ne.symm ah)];assumption)))
              ((refine step_append_lies _ (by rfl) _ _ _ (by rfl) w.heap.size 278 i0 _ 5 48 Tryz.underlying209 hi hz0 hz1 hz2 rfl (by omega) v acc.length (toks acc) (by rfl) ((hm4.own.alloc _).drew)
                  ⟨W.heap.size,0,none⟩ 1 1 [.int .u8 3,.string (s.extract k (nextAt s (nextAt s k))),.int .u64 0,.int .i64 (lineAt s k),.int .i64 (colAt s k)] (by rfl) (by rfl) (five_at (by simp)) five_one
                  (by omega) (by unfold maxLen;omega) (by omega) (by simp;omega) (W.heap.size+1) (by simp) ?_;intro gg cap w1 hown1 hgrow hat hlt))
            have hm9:=hm4.grewDrawn ⟨3,(s.data.toList.drop k).take (nextAt s (nextAt s k) - k),0,(pl s.data.toList k).1,(pl s.data.toList k).2⟩ (by rw [cut_eq];rfl) hown1 hgrow
            go_wp2_with fail
            go_step3
            exact to_hub (Q:=fun _ _ _=>True) (n':=s.size - nextAt s (nextAt s k)) (by omega) ⟨b,nextAt s (nextAt s k),_,_,_,_,_,_,_,rfl,rfl,rfl,rfl,rfl,rfl,rfl,rfl,rfl,by omega,by simp;omega,HX2.out,hm9⟩
          · have hgf:=Bool.eq_false_iff.2 hg
            clear hg
            have HX2:=Lib.hid (piece_step HX.out (d:=3) (n:=1) (v:=0) (by rw [HP.out,show grows (s.data.toList.getD k 0)=false from hgf,Bool.false_and];rfl) HN.out)
            go_wp2_with (go_at_call 174;refine (grows_any _ _ _).mono ?_;rintro e w' ⟨rfl,rfl⟩)
            rw [<- set5.eq_1]
            generalize set5 w2 b.H (.int .u8 (bAt s (nextAt s k))) (.bool (endAt s (nextAt s k))) (.int .i64 (nextAt s k:Nat)) (.int .i64 (lineAt s (nextAt s k))) (.int .i64 (colAt s (nextAt s k)))=W at hm2 ⊢
            clear x0 x1 x2 x3 x4 xx0 xx1 xx2 xx3 xx4 y0 y1 y2 y3 y4 yy0 yy1 yy2 yy3 yy4
            obtain ⟨x0,x1,x2,x3,x4,xx0,xx1,xx2,xx3,xx4⟩:=hm2.hH.allTold
            have hkn:nextAt s k=k+1:=HN.out
            have hkj:k<nextAt s k:=by omega
            clear hkn
            obtain ⟨e0,e1,e2,e3,e4,ee0,ee1,ee2,ee3,ee4⟩:=hm2.hF.allTold
            have k0:(0:Int)<=(k:Int):=Int.natCast_nonneg _
            have k1:(k:Int)<=(nextAt s k:Nat):=by omega
            have k2:((nextAt s k:Nat):Int)<=(s.size:Int):=by omega
            have af:=own_far hm2.own hm2.hF (by decide)
            have ah:=own_far hm2.own hm2.hH (by decide)
            have lF:=hm2.hF.lt
            have lH:=hm2.hH.lt
            have z1:=hm2.low.size
            go_region_held3 (fun w'=>w'.cell? ⟨b.F,2,none⟩=some (.int .i64 k)/\w'.cell? ⟨b.F,3,none⟩=some (.int .i64 (lineAt s k))/\w'.cell? ⟨b.F,4,none⟩=some (.int .i64 (colAt s k))/\w'.cell? ⟨b.H,2,none⟩=some (.int .i64 (nextAt s k:Nat)))
              (first
                | go_keep
                | (go_split_ands
                   refine ⟨?_,?_,?_,?_⟩
                   · (rw [hgrow.cell_far _ (by simp;omega) (Ne.symm af)];assumption)
                   · (rw [hgrow.cell_far _ (by simp;omega) (Ne.symm af)];assumption)
                   · (rw [hgrow.cell_far _ (by simp;omega) (Ne.symm af)];assumption)
                   · (rw [hgrow.cell_far _ (by simp;omega) (Ne.symm ah)];assumption)))
              ((refine step_append_lies _ (by rfl) _ _ _ (by rfl) w.heap.size 278 i0 _ 5 48 Tryz.underlying209 hi hz0 hz1 hz2 rfl (by omega) v acc.length (toks acc) (by rfl) ((hm2.own.alloc _).drew)
                  ⟨W.heap.size,0,none⟩ 1 1 [.int .u8 3,.string (s.extract k (nextAt s k)),.int .u64 0,.int .i64 (lineAt s k),.int .i64 (colAt s k)] (by rfl) (by rfl) (five_at (by simp)) five_one
                  (by omega) (by unfold maxLen;omega) (by omega) (by simp;omega) (W.heap.size+1) (by simp) ?_;intro gg cap w1 hown1 hgrow hat hlt))
            have hm9:=hm2.grewDrawn ⟨3,(s.data.toList.drop k).take (nextAt s k - k),0,(pl s.data.toList k).1,(pl s.data.toList k).2⟩ (by rw [cut_eq];rfl) hown1 hgrow
            go_wp2_with fail
            go_step3
            exact to_hub (Q:=fun _ _ _=>True) (n':=s.size - nextAt s k) (by omega) ⟨b,nextAt s k,_,_,_,_,_,_,_,rfl,rfl,rfl,rfl,rfl,rfl,rfl,rfl,rfl,by omega,by simp;omega,HX2.out,hm9⟩
        · have n61:=Bool.eq_false_iff.2 h61
          clear h61
          have HX2:=Lib.hid (piece_step HX.out (d:=3) (n:=1) (v:=0) (by rw [HP.out,<- HNB.out,<- eq61,n61,Bool.and_false];rfl) HN.out)
          go_wp2_with fail
          rw [<- set5.eq_1]
          generalize set5 w2 b.H (.int .u8 (bAt s (nextAt s k))) (.bool (endAt s (nextAt s k))) (.int .i64 (nextAt s k:Nat)) (.int .i64 (lineAt s (nextAt s k))) (.int .i64 (colAt s (nextAt s k)))=W at hm2 ⊢
          clear x0 x1 x2 x3 x4 xx0 xx1 xx2 xx3 xx4 y0 y1 y2 y3 y4 yy0 yy1 yy2 yy3 yy4
          obtain ⟨x0,x1,x2,x3,x4,xx0,xx1,xx2,xx3,xx4⟩:=hm2.hH.allTold
          have hkn:nextAt s k=k+1:=HN.out
          have hkj:k<nextAt s k:=by omega
          clear hkn
          obtain ⟨e0,e1,e2,e3,e4,ee0,ee1,ee2,ee3,ee4⟩:=hm2.hF.allTold
          have k0:(0:Int)<=(k:Int):=Int.natCast_nonneg _
          have k1:(k:Int)<=(nextAt s k:Nat):=by omega
          have k2:((nextAt s k:Nat):Int)<=(s.size:Int):=by omega
          have af:=own_far hm2.own hm2.hF (by decide)
          have ah:=own_far hm2.own hm2.hH (by decide)
          have lF:=hm2.hF.lt
          have lH:=hm2.hH.lt
          have z1:=hm2.low.size
          go_region_held3 (fun w'=>w'.cell? ⟨b.F,2,none⟩=some (.int .i64 k)/\w'.cell? ⟨b.F,3,none⟩=some (.int .i64 (lineAt s k))/\w'.cell? ⟨b.F,4,none⟩=some (.int .i64 (colAt s k))/\w'.cell? ⟨b.H,2,none⟩=some (.int .i64 (nextAt s k:Nat)))
            (first
              | go_keep
              | (go_split_ands
                 refine ⟨?_,?_,?_,?_⟩
                 · (rw [hgrow.cell_far _ (by simp;omega) (Ne.symm af)];assumption)
                 · (rw [hgrow.cell_far _ (by simp;omega) (Ne.symm af)];assumption)
                 · (rw [hgrow.cell_far _ (by simp;omega) (Ne.symm af)];assumption)
                 · (rw [hgrow.cell_far _ (by simp;omega) (Ne.symm ah)];assumption)))
            ((refine step_append_lies _ (by rfl) _ _ _ (by rfl) w.heap.size 278 i0 _ 5 48 Tryz.underlying209 hi hz0 hz1 hz2 rfl (by omega) v acc.length (toks acc) (by rfl) ((hm2.own.alloc _).drew)
                ⟨W.heap.size,0,none⟩ 1 1 [.int .u8 3,.string (s.extract k (nextAt s k)),.int .u64 0,.int .i64 (lineAt s k),.int .i64 (colAt s k)] (by rfl) (by rfl) (five_at (by simp)) five_one
                (by omega) (by unfold maxLen;omega) (by omega) (by simp;omega) (W.heap.size+1) (by simp) ?_;intro gg cap w1 hown1 hgrow hat hlt))
          have hm9:=hm2.grewDrawn ⟨3,(s.data.toList.drop k).take (nextAt s k - k),0,(pl s.data.toList k).1,(pl s.data.toList k).2⟩ (by rw [cut_eq];rfl) hown1 hgrow
          go_wp2_with fail
          go_step3
          exact to_hub (Q:=fun _ _ _=>True) (n':=s.size - nextAt s k) (by omega) ⟨b,nextAt s k,_,_,_,_,_,_,_,rfl,rfl,rfl,rfl,rfl,rfl,rfl,rfl,rfl,by omega,by simp;omega,HX2.out,hm9⟩
      have nS:=Bool.eq_false_iff.2 hsi
      clear hsi
      go_wp2_with (first
        | (go_at_call 171;refine (digit_any _ _ _).mono ?_;rintro e w' ⟨rfl,rfl⟩)
        | (go_at_call 172;refine (letter_any _ _ _).mono ?_;rintro e w' ⟨rfl,rfl⟩)
        | (go_at_call 173;refine (sign_any _ _ _).mono ?_;rintro e w' ⟨rfl,rfl⟩))
      go_region
      go_wp2
      refine bodyPost_ret (v:=.tuple #[.slice none 0 0,.agg #[.int .i64 (lineAt s k),.int .i64 (colAt s k)],.int .i64 3]) (by simp [results,go_sem,r0,r1]) rfl ?_
      rw [HX.out,lex_bad (one_form hll HB.out H35.out nD nL nS)]
      exact ⟨((hm1.low.setCell hm1.lR _).setCell hm1.lR _).drew,rfl⟩
  · intro hpass
    go_wp2_with fail
    refine (teller_any _ _).mono ?_
    rintro e w1 ⟨T,I,A,rfl,lT,lI,lA,hT,hI,hA,hlow⟩
    simp only [World.size_alloc] at lT lI lA
    go_wp2_with fail
    refine (tell_any s 0 T I A w1 (by omega) (Nat.zero_le _) hT hI hA).mono ?_
    rintro e w2 hmade
    have HM:=Lib.hid hmade
    obtain ⟨rfl,_⟩:=hmade
    go_wp2_with fail
    go_step3
    refine (by assumption:∀ (a:Act) (w:World),_->_) _ _ ?_
    refine hpass _ _ _ ⟨⟨w.heap.size,w.heap.size+1,w2.heap.size,T,I,A⟩,0,.slice none 0 0,.int .u8 0,.bool false,.int .i64 0,.int .i64 0,.int .i64 0,[],rfl,rfl,rfl,rfl,rfl,rfl,rfl,rfl,rfl,Nat.zero_le _,Nat.le_refl _,?_,?_⟩
    · simp [pl,adv,more_nil]
    · exact Mem.begin lT lI lA hlow HM.out rfl rfl
set_option maxRecDepth 100000 in
theorem lex_long (s:ByteArray) (w:World) (hs:4096<s.size) (hm:s.size<=9223372036854775807) :
    Calls Tryz.prog 109 #[.string s] w fun e w'=>LexMade (.err 4 1 1) w e w':=by
  go_enter Tryz.func109,Tryz.ntmps109
  go_wp2
  go_step3
  go_wp2
  rw [Exit.noGoto_ret]
  refine bodyPost_ret (v:=.tuple #[.slice none 0 0,.agg #[.int .i64 1,.int .i64 1],.int .i64 4]) (by simp [results,go_sem]) rfl ?_
  exact ⟨(Below.refl _ _).alloc (Nat.le_refl _) _,rfl⟩
theorem lex_all (s:ByteArray) (w:World) (hm:s.size<=9223372036854775807):Calls Tryz.prog 109 #[.string s] w fun e w'=>LexMade (lexAll s.data.toList) w e w':=by
  by_cases h:s.size<=4096
  · have e:lexAll s.data.toList=lex s.data.toList (1,1):=if_pos h
    rw [e];exact lex_any s w h
  · have e:lexAll s.data.toList = .err 4 1 1:=if_neg h
    rw [e];exact lex_long s w (by omega) hm
end Go.Proofs.YtagebkachdmnbaaGreatDoor.Lex
end
