/- Part 12 of the proof: what is used of the texts LexC. -/
import Derived.Test.YtaanhmndeobgbaaGreatDoorGA1
import Derived.Deep.LoopGhost
import Derived.Deep.RegionHeld3
import Derived.Deep.AppendLies
set_option maxRecDepth 100000
set_option maxHeartbeats 8000000
namespace Go.Proofs.YtaanhmndeobgbaaGreatDoor.Lex
open Go.RowKit
def CV (r:vU) (w:World) (e:Ending) (w':World):Prop :=
 Below w.heap.size w w' /\ match r with
  | .ok ts=>∃ v,e = .returned (.tuple #[v,.agg #[.int .i64 0,.int .i64 0],.int .i64 0])/\w'.ownsRow w.heap.size 99 5 v ts.length (toks ts)
  | .err er l c=>e = .returned (.tuple #[.slice none 0 0,.agg #[.int .i64 l,.int .i64 c],.int .i64 er])
def Hub (s:ByteArray) (w:World) (n:Nat) (a:Act) (wr:World):Prop :=
 ∃ (b:Mg) (k:Nat) (v c0 c1 c2 c3 c4:Value) (acc:List Tok),a.defers=[]/\a.tmps.size=153/\slot a.tmps 0 = .string s/\slot a.tmps 3 = .pointer (some ⟨b.R,0,none⟩)/\slot a.tmps 5=v /\
  slot a.tmps 6 = .pointer (some ⟨b.F,0,none⟩)/\slot a.tmps 8 = .func (.func 78) #[] #[.pointer (some ⟨b.I,0,none⟩),.pointer (some ⟨b.T,0,none⟩),.pointer (some ⟨b.A,0,none⟩)] /\
  slot a.tmps 9 = .pointer (some ⟨b.H,0,none⟩)/\n=s.size - k/\k<=s.size/\acc.length<=k /\
  lex s.data.toList (1,1)=(lex (s.data.toList.drop k) (pl s.data.toList k)).more acc/\Mem s w wr b k #[c0,c1,c2,c3,c4] v acc
theorem Km:(Tryz.prog.info? 99).map (fun i=>(i.zero,i.size,i.bytes))=some (some (.agg #[.int .u8 0,.string .empty,.int .u64 0,.int .i64 0,.int .i64 0]),5,48):=by kernel_rfl
theorem gT {k n l c:Int} {t:ByteArray}:∀ u ∈ [Value.int .u8 k,.string t,.int .u64 n,.int .i64 l,.int .i64 c],u.oneCell' = true:=by
 intro u hu;simp only [List.mem_cons,List.not_mem_nil,or_false] at hu
 rcases hu with rfl | rfl | rfl | rfl | rfl <;> rfl
theorem jh {w:World} {t:TypeId} {g:Nat} {c0 c1 c2 c3 c4:Value} (hg:g=w.heap.size):∀ j u,[c0,c1,c2,c3,c4][j]? = some u->(w.alloc (.cells #[c0,c1,c2,c3,c4] t)).cell? ((⟨g,0,none⟩:Addr).add j)=some u:=by
 intro j u hu;have:=(Sits.made (w:=w) hg t #[c0,c1,c2,c3,c4]).cell j;rw [Addr.add_lit,Nat.zero_add,this];simpa using hu
theorem Qd (s:ByteArray) (w:World) (hs:s.size<=4096) :
    Calls Tryz.prog 10 #[.string s] w fun e w'=>CV (lex s.data.toList (1,1)) w e w':=by
  obtain ⟨i0,hi,hz0,hz1,hz2⟩:=info_parts Km;go_enter Tryz.func10,Tryz.ntmps10;go_wp2
  refine CB 0 (Hub s w) rfl ?_ ?_
  · rintro n ⟨tm,df⟩ wr ⟨b,k,v,c0,c1,c2,c3,c4,acc,hdf,hsz,h0,h3,h5,h6,h8,h9,rfl,hk,hacc,hlex,hm⟩;simp only at hdf hsz h0 h3 h5 h6 h8 h9
    subst hdf;have hsp:=spread tm 153 hsz;simp only [List.range,List.range.loop,List.map_cons,List.map_nil,h0,h3,h5,h6,h8,h9] at hsp
    rw [hsp];clear hsp h0 h3 h5 h6 h8 h9 hsz;have HX:=Lib.hid hlex;clear hlex;obtain ⟨f0,f1,f2,f3,f4,ff0,ff1,ff2,ff3,ff4⟩:=hm.hF.JW;obtain ⟨g0,g1,g2,g3,g4,gg0,gg1,gg2,gg3,gg4⟩:=(show Sits wr b.H 95 #[.int .u8 (dJ s k),.bool (ic s k),.int .i64 k,.int .i64 (aY s k),.int .i64 (bL s k)] from hm.hH).JW;have hFH:=hm.U8;have hm1:=hm.first
    by_cases hend:k=s.size
    · subst hend;have he:ic s s.size=true:=by simp [ic]
      rw [he] at hm1 g1;have HE:=Lib.hid he;clear he;go_wp2_with fail
      go_step3
      refine oD _ (fun _ h=>h) (by decide) rfl ?_;go_wp2_with (at_builtin;refine wpList_append_own _ rfl (.tmp 146) (.tmp 150) 44 rfl w.heap.size 99 i0 _ 5 48 Tryz.underlying44 hi hz0 hz1 hz2 rfl (by decide) v acc.length (toks acc) rfl (hm1.own.alloc _) ⟨wr.heap.size,0,none⟩ 1 1 [.int .u8 0,.string ⟨#[]⟩,.int .u64 0,.int .i64 (aY s s.size),.int .i64 (bL s s.size)] rfl rfl (jh (by simp)) gT (by unfold maxLen;omega) (by omega) (by have:=hm.low.size;simp;omega) ?_)
      intro v3 w3 oK fK _;have uH:=hm1.grew ⟨0,[],0,(pl s.data.toList s.size).1,(pl s.data.toList s.size).2⟩ rfl oK fK;obtain ⟨r0,r1,Y1,Y2⟩:=uH.hR.all2;clear oK fK;go_wp2
      refine bodyPost_ret (v:=.tuple #[v3,.agg #[.int .i64 0,.int .i64 0],.int .i64 0]) (by simp [results,go_sem,r0,r1]) rfl ?_;have VL:=aK uH.own uH.hR (by decide);rw [HX.out,show s.data.toList.drop s.size=[] from List.drop_of_length_le (Nat.le_refl _),IW];exact ⟨(uH.low.setCell uH.lR _).setCell uH.lR _,v3,rfl,ownsRow_setCell_other (ownsRow_setCell_other uH.own VL _) VL _⟩
    · have hlt:k<s.size:=by omega
      have hll:k<s.data.toList.length:=hlt;have he:ic s k=false:=by simp [ic,hend]
      rw [he] at hm1 g1;have HE:=Lib.hid he;clear he;have HN:=Lib.hid (oG s k hlt);have XZ:=oF s k hk;obtain ⟨r0,r1,Y1,Y2⟩:=hm.hR.all2;have hFR:=hm.apart.1;by_cases hbl:yE (fJ s k)=true
      · have lh:=Lib.hid (HX.out.trans (congrArg _ (nz (Bf hll hbl))));rw [<- HN.out] at lh;rcases Bg hbl with h32 | ⟨h32,h9⟩ | ⟨h32,h9,h10⟩
        all_goals
          go_wp2_with fail
          go_step3
          refine oD _ (fun _ h=>h) (by decide) rfl ?_;go_wp2_with fail
          refine (jM s (aB s k) b.T b.I b.A _ (by omega) XZ hm1.hT hm1.hI hm1.hA).mono ?_;rintro e w2 ja;obtain ⟨hH2,hm2⟩:=hm1.told ja;obtain ⟨d0,d1,d2,d3,d4,Y3,dd1,Y4,Y5,Y6⟩:=hH2.eu;obtain ⟨rfl,_⟩:=ja;go_wp2_with fail
          go_step3
          exact qL (Q:=fun _ _ _=>True) (n':=s.size - aB s k) (by have:=HN.out;omega) ⟨b,_,v,_,_,_,_,_,acc,rfl,rfl,rfl,rfl,rfl,rfl,rfl,rfl,rfl,XZ,by have:=HN.out;omega,lh.out,hm2⟩
      have HB:=Lib.hid (Bool.eq_false_iff.2 hbl);obtain ⟨n32,n9,n10⟩:=Et HB.out;clear hbl;by_cases hre:(dJ s k == 35)=true
      · go_wp2_with fail
        go_step3
        refine oD _ (fun _ h=>h) (by decide) rfl ?_;go_wp2_with fail
        go_loopg [] (s.size - k) (fun g wx=>∃ j,k<=j/\j<=s.size/\g=s.size - j/\Hid (Scan LM s.data.toList k j)/\Mem s w wx b j (dU s k) v acc)
        case atStart=>exact ⟨k,Nat.le_refl _,hk,rfl,Scan.none _ _ _,hm1⟩
        case round =>
          obtain ⟨j,hkj,hj,rfl,HS,ko⟩:=hrel;have hjl:j<=s.data.toList.length:=hj;obtain ⟨d0,d1,d2,d3,d4,Y3,dd1,Y4,Y5,Y6⟩:=ko.hH.eu;by_cases hst:j=s.size \/ (dJ s j != 10)=false
          · have ht:Stops LM s.data.toList j:=fun h=>by
              rcases hst with e | e
              · exact absurd h (by rw [e];exact Nat.lt_irrefl _)
              · exact (Cy s j).symm.trans e
            have ho:=yH hll HB.out ((yn s k).symm.trans hre) hkj hjl HS.out ht;have hpos:=Eo hll ho;have lh:=Lib.hid (HX.out.trans (congrArg _ (nz ho)));rw [show k+(j - k)=j by omega] at lh;clear ho ht;by_cases MU:j=s.size
            · have he:ic s j=true:=by simp [ic,MU]
              clear hst MU;go_wp2_with fail
              go_step3
              exact qL (Q:=fun _ _ _=>True) (n':=s.size - j) (by omega) ⟨b,_,v,_,_,_,_,_,acc,rfl,rfl,rfl,rfl,rfl,rfl,rfl,rfl,rfl,hj,by omega,lh.out,ko⟩
            · have he:ic s j=false:=by simp [ic,MU]
              have hn:(dJ s j != 10)=false:=hst.resolve_left MU;clear hst;go_wp2_with fail
              go_step3
              exact qL (Q:=fun _ _ _=>True) (n':=s.size - j) (by omega) ⟨b,_,v,_,_,_,_,_,acc,rfl,rfl,rfl,rfl,rfl,rfl,rfl,rfl,rfl,hj,by omega,lh.out,ko⟩
          · have MU:¬ j=s.size:=fun e=>hst (.inl e)
            have hjlt:j<s.size:=by omega
            have he:ic s j=false:=by simp [ic,MU]
            have hn:(dJ s j != 10)=true:=by cases h:(dJ s j != 10) <;> simp [h] at hst ⊢
            have HS2:=Lib.hid (HS.out.next ((Cy s j).symm.trans hn));have E8:=Lib.hid (oG s j hjlt);rw [<- E8.out] at HS2;have AL:=oF s j hj;clear hst;go_wp2_with fail
            refine (jM s (aB s j) b.T b.I b.A _ (by omega) AL ko.hT ko.hI ko.hA).mono ?_;rintro e w2 ja;obtain ⟨hH2,hm2⟩:=ko.told ja;obtain ⟨x0,x1,x2,x3,x4,Qe,Qf,Qg,Qh,Qi⟩:=hH2.eu;obtain ⟨rfl,_⟩:=ja;go_wp2_with fail
            go_roundg (s.size - aB s j)
            case measure=>have:=E8.out;omega
            case rel=>exact ⟨aB s j,by have:=E8.out;omega,AL,rfl,HS2,hm2⟩
      have n35:=Bool.eq_false_iff.2 hre;clear hre;have MV:=Lib.hid ((yn s k).symm.trans n35);by_cases hdi:iO (fJ s k)=true
      · go_wp2_with (go_at_call 35;refine (iP _ _ _).mono ?_;rintro e w' ⟨rfl,rfl⟩)
        go_step3
        refine oD _ (fun _ h=>h) (by decide) rfl ?_;go_wp2_with fail
        go_loopg [7] (s.size - k) (fun g v7 wx=>∃ j,k<=j/\j<=s.size/\g=s.size - j/\Hid (Scan iO s.data.toList k j)/\v7 = .int .u64 (aT s k j:Nat)/\(aT s k j:Int)<=18446744073709551615/\Mem s w wx b j (dU s k) v acc)
        case atStart=>exact ⟨k,Nat.le_refl _,hk,rfl,Scan.none _ _ _,by rw [pz];rfl,by rw [pz];decide,hm1⟩
        case round =>
          obtain ⟨j,hkj,hj,rfl,HS,rfl,hnb,ko⟩:=hrel;have hjl:j<=s.data.toList.length:=hj;obtain ⟨d0,d1,d2,d3,d4,Y3,dd1,Y4,Y5,Y6⟩:=ko.hH.eu;by_cases hdj:iO (fJ s j)=true
          · have hjlt:=Ev hdj;obtain ⟨hb1,hb2⟩:=yM hdj;have HS2:=Lib.hid (HS.out.next (q:=iO) hdj);have E8:=Lib.hid (oG s j hjlt);have GJ:=Lib.hid (yL s k j hkj hjlt hb1);rw [<- E8.out] at HS2;have AL:=oF s j hj;have hn0:(0:Int)<=(aT s k j:Nat):=Int.natCast_nonneg _;obtain ⟨e0,e1,e2,e3,e4,VM,VN,VO,VP,VQ⟩:=ko.hF.eu;obtain ⟨q0,q1,Y7,Y8⟩:=ko.hR.all2;by_cases hov:(18446744073709551615 - (dJ s j - 48)) / 10<(aT s k j:Int)
            · have hbad:¬ aT s k (j+1)<top:=by have:=GJ.out;unfold top;omega
              have HBAD:=Lib.hid (qK (j:=j+1) hll HB.out MV.out hdi (Nat.le_succ_of_le hkj) hjlt (by rw [<- E8.out];exact HS2.out) hbad);have a0A:=ko.apart.1;clear hbad;go_wp2_with (go_at_call 35;refine (iP _ _ _).mono ?_;rintro e w' ⟨rfl,rfl⟩)
              go_region
              go_wp2
              refine bodyPost_ret (v:=.tuple #[.slice none 0 0,.agg #[.int .i64 (aY s k),.int .i64 (bL s k)],.int .i64 4]) (by simp [results,go_sem,q0,q1]) rfl ?_;rw [HX.out,yl HBAD.out];exact ⟨((ko.low.setCell ko.lR _).setCell ko.lR _).drew,rfl⟩
            · have hsum:(aT s k (aB s j):Int)<=18446744073709551615:=by rw [E8.out,GJ.out];omega
              go_wp2_with (go_at_call 35;refine (iP _ _ _).mono ?_;rintro e w' ⟨rfl,rfl⟩)
              refine (jM s (aB s j) b.T b.I b.A _ (by omega) AL ko.hT ko.hI ko.hA).mono ?_;rintro e w2 ja;obtain ⟨hH2,hm2⟩:=ko.told ja;obtain ⟨x0,x1,x2,x3,x4,Qe,Qf,Qg,Qh,Qi⟩:=hH2.eu;obtain ⟨rfl,_⟩:=ja;go_wp2_with fail
              go_roundg (s.size - aB s j)
              case measure=>have:=E8.out;omega
              case rel=>exact ⟨aB s j,by have:=E8.out;omega,AL,rfl,HS2,by rw [E8.out,GJ.out],hsum,hm2⟩
          · have hdf:=Bool.eq_false_iff.2 hdj;clear hdj;have ho:=yI hll HB.out MV.out hdi hkj hjl HS.out (fun _=>hdf) (by show aT s k j<_;unfold top;omega);have hpos:=vX hll ho;have lh:=Lib.hid (HX.out.trans (congrArg _ (jL ho)));rw [show k+(j - k)=j by omega,oC] at lh;clear ho;obtain ⟨e0,e1,e2,e3,e4,VM,VN,VO,VP,VQ⟩:=ko.hF.eu;have k0:(0:Int)<=(k:Int):=Int.natCast_nonneg _;have k1:(k:Int)<=(j:Int):=by omega
            have k2:(j:Int)<=(s.size:Int):=by omega
            have af:=aK ko.own ko.hF (by decide);have ah:=aK ko.own ko.hH (by decide);have lF:=ko.hF.lt;have lH:=ko.hH.lt;have z1:=ko.low.size;go_wp2_with (go_at_call 35;refine (iP _ _ _).mono ?_;rintro e w' ⟨rfl,rfl⟩)
            go_region_held3 (fun w'=>w'.cell? ⟨b.F,2,none⟩=some (.int .i64 k)/\w'.cell? ⟨b.F,3,none⟩=some (.int .i64 (aY s k))/\w'.cell? ⟨b.F,4,none⟩=some (.int .i64 (bL s k))/\w'.cell? ⟨b.H,2,none⟩=some (.int .i64 j))
              (first
                | go_keep
                | (go_split_ands
                   refine ⟨?_,?_,?_,?_⟩
                   · (rw [hgrow.cell_far _ (by simp;omega) (Ne.symm af)];assumption)
                   · (rw [hgrow.cell_far _ (by simp;omega) (Ne.symm af)];assumption)
                   · (rw [hgrow.cell_far _ (by simp;omega) (Ne.symm af)];assumption)
                   · (rw [hgrow.cell_far _ (by simp;omega) (Ne.symm ah)];assumption)))
              ((refine step_append_lies _ (by rfl) _ _ _ (by rfl) w.heap.size 99 i0 _ 5 48 Tryz.underlying44 hi hz0 hz1 hz2 rfl (by omega) v acc.length (toks acc) (by rfl) ((ko.own.alloc _).drew)
                  ⟨wr.heap.size,0,none⟩ 1 1 [.int .u8 1,.string (s.extract k j),.int .u64 (aT s k j:Nat),.int .i64 (aY s k),.int .i64 (bL s k)] (by rfl) (by rfl) (jh (by simp)) gT
                  (by omega) (by unfold maxLen;omega) (by omega) (by simp;omega) (wr.heap.size+1) (by simp) ?_;intro gg cap w1 hown1 hgrow hat hlt))
            have uH:=ko.oH ⟨1,(s.data.toList.drop k).take (j - k),aT s k j,(pl s.data.toList k).1,(pl s.data.toList k).2⟩ (by rw [jN];rfl) hown1 hgrow;go_wp2_with fail
            go_step3
            exact qL (Q:=fun _ _ _=>True) (n':=s.size - j) (by omega) ⟨b,j,_,_,_,_,_,_,_,rfl,rfl,rfl,rfl,rfl,rfl,rfl,rfl,rfl,hj,by simp;omega,lh.out,uH⟩
      have nD:=Bool.eq_false_iff.2 hdi;clear hdi;by_cases hle:jA (fJ s k)=true
      · go_wp2_with (first | (go_at_call 35;refine (iP _ _ _).mono ?_;rintro e w' ⟨rfl,rfl⟩) | (go_at_call 36;refine (gG _ _ _).mono ?_;rintro e w' ⟨rfl,rfl⟩))
        go_step3
        refine oD _ (fun _ h=>h) (by decide) rfl ?_;go_wp2_with fail
        go_loopg [] (s.size - k) (fun g wx=>∃ j,k<=j/\j<=s.size/\g=s.size - j/\Hid (Scan cO s.data.toList k j)/\Mem s w wx b j (dU s k) v acc)
        case atStart=>exact ⟨k,Nat.le_refl _,hk,rfl,Scan.none _ _ _,hm1⟩
        case round =>
          obtain ⟨j,hkj,hj,rfl,HS,ko⟩:=hrel;have hjl:j<=s.data.toList.length:=hj;obtain ⟨d0,d1,d2,d3,d4,Y3,dd1,Y4,Y5,Y6⟩:=ko.hH.eu;by_cases hld:cO (fJ s j)=true
          · have hjlt:=RS hld;have HS2:=Lib.hid (HS.out.next (q:=cO) hld);have E8:=Lib.hid (oG s j hjlt);rw [<- E8.out] at HS2;have AL:=oF s j hj;have hcase:jA (fJ s j)=true \/ (jA (fJ s j)=false/\iO (fJ s j)=true):=by
              unfold cO at hld;cases h:jA (fJ s j) <;> simp [h] at hld ⊢;exact hld
            clear hld;rcases hcase with hL | ⟨hL,hD⟩
            all_goals
              go_wp2_with (first | (go_at_call 35;refine (iP _ _ _).mono ?_;rintro e w' ⟨rfl,rfl⟩) | (go_at_call 36;refine (gG _ _ _).mono ?_;rintro e w' ⟨rfl,rfl⟩))
              refine (jM s (aB s j) b.T b.I b.A _ (by omega) AL ko.hT ko.hI ko.hA).mono ?_;rintro e w2 ja;obtain ⟨hH2,hm2⟩:=ko.told ja;obtain ⟨x0,x1,x2,x3,x4,Qe,Qf,Qg,Qh,Qi⟩:=hH2.eu;obtain ⟨rfl,_⟩:=ja;go_wp2_with fail
              go_roundg (s.size - aB s j)
              case measure=>have:=E8.out;omega
              case rel=>exact ⟨aB s j,by have:=E8.out;omega,AL,rfl,HS2,hm2⟩
          · have hlf:=Bool.eq_false_iff.2 hld;clear hld;have ho:=En hll HB.out MV.out nD hle hkj hjl HS.out (fun _=>hlf);have hpos:=vX hll ho;have lh:=Lib.hid (HX.out.trans (congrArg _ (jL ho)));rw [show k+(j - k)=j by omega,oC] at lh;clear ho;have hL:jA (fJ s j)=false:=by unfold cO at hlf;simp only [Bool.or_eq_false_iff] at hlf;exact hlf.1
            have hD:iO (fJ s j)=false:=by unfold cO at hlf;simp only [Bool.or_eq_false_iff] at hlf;exact hlf.2
            clear hlf;obtain ⟨e0,e1,e2,e3,e4,VM,VN,VO,VP,VQ⟩:=ko.hF.eu;have k0:(0:Int)<=(k:Int):=Int.natCast_nonneg _;have k1:(k:Int)<=(j:Nat):=by omega
            have k2:((j:Nat):Int)<=(s.size:Int):=by omega
            have af:=aK ko.own ko.hF (by decide);have ah:=aK ko.own ko.hH (by decide);have lF:=ko.hF.lt;have lH:=ko.hH.lt;have z1:=ko.low.size;go_wp2_with (first | (go_at_call 35;refine (iP _ _ _).mono ?_;rintro e w' ⟨rfl,rfl⟩) | (go_at_call 36;refine (gG _ _ _).mono ?_;rintro e w' ⟨rfl,rfl⟩))
            go_region_held3 (fun w'=>w'.cell? ⟨b.F,2,none⟩=some (.int .i64 k)/\w'.cell? ⟨b.F,3,none⟩=some (.int .i64 (aY s k))/\w'.cell? ⟨b.F,4,none⟩=some (.int .i64 (bL s k))/\w'.cell? ⟨b.H,2,none⟩=some (.int .i64 (j:Nat)))
              (first
                | go_keep
                | (go_split_ands
                   refine ⟨?_,?_,?_,?_⟩
                   · (rw [hgrow.cell_far _ (by simp;omega) (Ne.symm af)];assumption)
                   · (rw [hgrow.cell_far _ (by simp;omega) (Ne.symm af)];assumption)
                   · (rw [hgrow.cell_far _ (by simp;omega) (Ne.symm af)];assumption)
                   · (rw [hgrow.cell_far _ (by simp;omega) (Ne.symm ah)];assumption)))
              ((refine step_append_lies _ (by rfl) _ _ _ (by rfl) w.heap.size 99 i0 _ 5 48 Tryz.underlying44 hi hz0 hz1 hz2 rfl (by omega) v acc.length (toks acc) (by rfl) ((ko.own.alloc _).drew)
                  ⟨wr.heap.size,0,none⟩ 1 1 [.int .u8 2,.string (s.extract k (j)),.int .u64 0,.int .i64 (aY s k),.int .i64 (bL s k)] (by rfl) (by rfl) (jh (by simp)) gT
                  (by omega) (by unfold maxLen;omega) (by omega) (by simp;omega) (wr.heap.size+1) (by simp) ?_;intro gg cap w1 hown1 hgrow hat hlt))
            have wQ:=ko.oH ⟨2,(s.data.toList.drop k).take (j - k),0,(pl s.data.toList k).1,(pl s.data.toList k).2⟩ (by rw [jN];rfl) hown1 hgrow;go_wp2_with fail
            go_step3
            exact qL (Q:=fun _ _ _=>True) (n':=s.size - j) (by omega) ⟨b,j,_,_,_,_,_,_,_,rfl,rfl,rfl,rfl,rfl,rfl,rfl,rfl,rfl,by omega,by simp;omega,lh.out,wQ⟩
      have nL:=Bool.eq_false_iff.2 hle;clear hle;by_cases hsi:Cs (fJ s k)=true
      · have HP:=Lib.hid (Ep hll HB.out MV.out nD nL hsi);go_wp2_with (first | (go_at_call 35;refine (iP _ _ _).mono ?_;rintro e w' ⟨rfl,rfl⟩) | (go_at_call 36;refine (gG _ _ _).mono ?_;rintro e w' ⟨rfl,rfl⟩) | (go_at_call 37;refine (fA _ _ _).mono ?_;rintro e w' ⟨rfl,rfl⟩))
        go_step3
        refine oD _ (fun _ h=>h) (by decide) rfl ?_;go_wp2_with fail
        refine (jM s (aB s k) b.T b.I b.A _ (by omega) XZ hm1.hT hm1.hI hm1.hA).mono ?_;rintro e w2 ja;obtain ⟨hH2,hm2⟩:=hm1.told ja;obtain ⟨x0,x1,x2,x3,x4,Qe,Qf,Qg,Qh,Qi⟩:=hH2.eu;obtain ⟨y0,y1,y2,y3,y4,Y9,Za,Zb,Zc,Zd⟩:=(hm1.hF.keep ja.2.2.2.2 (by rintro (h | h);exact hm.apart.2.2.1 h;exact hm.apart.2.2.2.1 h)).eu;obtain ⟨rfl,_⟩:=ja;have HNB:=Lib.hid (show fJ s (aB s k)=s.data.toList.getD (k+1) 0 from by rw [HN.out];rfl);by_cases X0:(dJ s (aB s k) == 61)=true
        · have hl2:=PT X0;have AL:=oF s (aB s k) XZ;by_cases hg:grows (fJ s k)=true
          · have HN4:=Lib.hid (show aB s (aB s k)=k+2 from by rw [oG s _ hl2,HN.out]);have lh:=Lib.hid (pg HX.out (d:=3) (n:=2) (v:=0) (by rw [HP.out,<- HNB.out,<- Vx,X0,show grows (s.data.toList.getD k 0)=true from hg];rfl) HN4.out);have tT:=hm2.hT;have tI:=hm2.hI;have tA:=hm2.hA;go_wp2_with (go_at_call 38;refine (Bh _ _ _).mono ?_;rintro e w' ⟨rfl,rfl⟩)
            refine (jM s (aB s (aB s k)) b.T b.I b.A _ (by omega) AL tT tI tA).mono ?_;rintro e w4 ja;obtain ⟨hH4,LQ⟩:=hm2.told ja;obtain ⟨u0,u1,u2,u3,u4,uu0,uu1,uu2,uu3,uu4⟩:=hH4.eu;obtain ⟨rfl,_⟩:=ja;go_wp2_with fail
            rw [<- uM.eq_1];generalize uM w4 b.H (.int .u8 (dJ s (aB s (aB s k)))) (.bool (ic s (aB s (aB s k)))) (.int .i64 (aB s (aB s k):Nat)) (.int .i64 (aY s (aB s (aB s k)))) (.int .i64 (bL s (aB s (aB s k))))=W at LQ ⊢;clear x0 x1 x2 x3 x4 Qe Qf Qg Qh Qi y0 y1 y2 y3 y4 Y9 Za Zb Zc Zd u0 u1 u2 u3 u4 uu0 uu1 uu2 uu3 uu4;obtain ⟨x0,x1,x2,x3,x4,Qe,Qf,Qg,Qh,Qi⟩:=LQ.hH.eu;have hkn:aB s (aB s k)=k+2:=HN4.out;have hkj:k<aB s (aB s k):=by omega
            clear hkn;obtain ⟨e0,e1,e2,e3,e4,VM,VN,VO,VP,VQ⟩:=LQ.hF.eu;have k0:(0:Int)<=(k:Int):=Int.natCast_nonneg _;have k1:(k:Int)<=(aB s (aB s k):Nat):=by omega
            have k2:((aB s (aB s k):Nat):Int)<=(s.size:Int):=by omega
            have af:=aK LQ.own LQ.hF (by decide);have ah:=aK LQ.own LQ.hH (by decide);have lF:=LQ.hF.lt;have lH:=LQ.hH.lt;have z1:=LQ.low.size
            go_region_held3 (fun w'=>w'.cell? ⟨b.F,2,none⟩=some (.int .i64 k)/\w'.cell? ⟨b.F,3,none⟩=some (.int .i64 (aY s k))/\w'.cell? ⟨b.F,4,none⟩=some (.int .i64 (bL s k))/\w'.cell? ⟨b.H,2,none⟩=some (.int .i64 (aB s (aB s k):Nat)))
              (first
                | go_keep
                | (go_split_ands
                   refine ⟨?_,?_,?_,?_⟩
                   · (rw [hgrow.cell_far _ (by simp;omega) (Ne.symm af)];assumption)
                   · (rw [hgrow.cell_far _ (by simp;omega) (Ne.symm af)];assumption)
                   · (rw [hgrow.cell_far _ (by simp;omega) (Ne.symm af)];assumption)
                   · (rw [hgrow.cell_far _ (by simp;omega) (Ne.symm ah)];assumption)))
              ((refine step_append_lies _ (by rfl) _ _ _ (by rfl) w.heap.size 99 i0 _ 5 48 Tryz.underlying44 hi hz0 hz1 hz2 rfl (by omega) v acc.length (toks acc) (by rfl) ((LQ.own.alloc _).drew)
                  ⟨W.heap.size,0,none⟩ 1 1 [.int .u8 3,.string (s.extract k (aB s (aB s k))),.int .u64 0,.int .i64 (aY s k),.int .i64 (bL s k)] (by rfl) (by rfl) (jh (by simp)) gT
                  (by omega) (by unfold maxLen;omega) (by omega) (by simp;omega) (W.heap.size+1) (by simp) ?_;intro gg cap w1 hown1 hgrow hat hlt))
            have wQ:=LQ.oH ⟨3,(s.data.toList.drop k).take (aB s (aB s k) - k),0,(pl s.data.toList k).1,(pl s.data.toList k).2⟩ (by rw [jN];rfl) hown1 hgrow;go_wp2_with fail
            go_step3
            exact qL (Q:=fun _ _ _=>True) (n':=s.size - aB s (aB s k)) (by omega) ⟨b,aB s (aB s k),_,_,_,_,_,_,_,rfl,rfl,rfl,rfl,rfl,rfl,rfl,rfl,rfl,by omega,by simp;omega,lh.out,wQ⟩
          · have hgf:=Bool.eq_false_iff.2 hg;clear hg;have lh:=Lib.hid (pg HX.out (d:=3) (n:=1) (v:=0) (by rw [HP.out,show grows (s.data.toList.getD k 0)=false from hgf,Bool.false_and];rfl) HN.out);go_wp2_with (go_at_call 38;refine (Bh _ _ _).mono ?_;rintro e w' ⟨rfl,rfl⟩)
            rw [<- uM.eq_1];generalize uM w2 b.H (.int .u8 (dJ s (aB s k))) (.bool (ic s (aB s k))) (.int .i64 (aB s k:Nat)) (.int .i64 (aY s (aB s k))) (.int .i64 (bL s (aB s k)))=W at hm2 ⊢;clear x0 x1 x2 x3 x4 Qe Qf Qg Qh Qi y0 y1 y2 y3 y4 Y9 Za Zb Zc Zd;obtain ⟨x0,x1,x2,x3,x4,Qe,Qf,Qg,Qh,Qi⟩:=hm2.hH.eu;have hkn:aB s k=k+1:=HN.out;have hkj:k<aB s k:=by omega
            clear hkn;obtain ⟨e0,e1,e2,e3,e4,VM,VN,VO,VP,VQ⟩:=hm2.hF.eu;have k0:(0:Int)<=(k:Int):=Int.natCast_nonneg _;have k1:(k:Int)<=(aB s k:Nat):=by omega
            have k2:((aB s k:Nat):Int)<=(s.size:Int):=by omega
            have af:=aK hm2.own hm2.hF (by decide);have ah:=aK hm2.own hm2.hH (by decide);have lF:=hm2.hF.lt;have lH:=hm2.hH.lt;have z1:=hm2.low.size
            go_region_held3 (fun w'=>w'.cell? ⟨b.F,2,none⟩=some (.int .i64 k)/\w'.cell? ⟨b.F,3,none⟩=some (.int .i64 (aY s k))/\w'.cell? ⟨b.F,4,none⟩=some (.int .i64 (bL s k))/\w'.cell? ⟨b.H,2,none⟩=some (.int .i64 (aB s k:Nat)))
              (first
                | go_keep
                | (go_split_ands
                   refine ⟨?_,?_,?_,?_⟩
                   · (rw [hgrow.cell_far _ (by simp;omega) (Ne.symm af)];assumption)
                   · (rw [hgrow.cell_far _ (by simp;omega) (Ne.symm af)];assumption)
                   · (rw [hgrow.cell_far _ (by simp;omega) (Ne.symm af)];assumption)
                   · (rw [hgrow.cell_far _ (by simp;omega) (Ne.symm ah)];assumption)))
              ((refine step_append_lies _ (by rfl) _ _ _ (by rfl) w.heap.size 99 i0 _ 5 48 Tryz.underlying44 hi hz0 hz1 hz2 rfl (by omega) v acc.length (toks acc) (by rfl) ((hm2.own.alloc _).drew)
                  ⟨W.heap.size,0,none⟩ 1 1 [.int .u8 3,.string (s.extract k (aB s k)),.int .u64 0,.int .i64 (aY s k),.int .i64 (bL s k)] (by rfl) (by rfl) (jh (by simp)) gT
                  (by omega) (by unfold maxLen;omega) (by omega) (by simp;omega) (W.heap.size+1) (by simp) ?_;intro gg cap w1 hown1 hgrow hat hlt))
            have wQ:=hm2.oH ⟨3,(s.data.toList.drop k).take (aB s k - k),0,(pl s.data.toList k).1,(pl s.data.toList k).2⟩ (by rw [jN];rfl) hown1 hgrow;go_wp2_with fail
            go_step3
            exact qL (Q:=fun _ _ _=>True) (n':=s.size - aB s k) (by omega) ⟨b,aB s k,_,_,_,_,_,_,_,rfl,rfl,rfl,rfl,rfl,rfl,rfl,rfl,rfl,by omega,by simp;omega,lh.out,wQ⟩
        · have n61:=Bool.eq_false_iff.2 X0;clear X0;have lh:=Lib.hid (pg HX.out (d:=3) (n:=1) (v:=0) (by rw [HP.out,<- HNB.out,<- Vx,n61,Bool.and_false];rfl) HN.out);go_wp2_with fail
          rw [<- uM.eq_1];generalize uM w2 b.H (.int .u8 (dJ s (aB s k))) (.bool (ic s (aB s k))) (.int .i64 (aB s k:Nat)) (.int .i64 (aY s (aB s k))) (.int .i64 (bL s (aB s k)))=W at hm2 ⊢;clear x0 x1 x2 x3 x4 Qe Qf Qg Qh Qi y0 y1 y2 y3 y4 Y9 Za Zb Zc Zd;obtain ⟨x0,x1,x2,x3,x4,Qe,Qf,Qg,Qh,Qi⟩:=hm2.hH.eu;have hkn:aB s k=k+1:=HN.out;have hkj:k<aB s k:=by omega
          clear hkn;obtain ⟨e0,e1,e2,e3,e4,VM,VN,VO,VP,VQ⟩:=hm2.hF.eu;have k0:(0:Int)<=(k:Int):=Int.natCast_nonneg _;have k1:(k:Int)<=(aB s k:Nat):=by omega
          have k2:((aB s k:Nat):Int)<=(s.size:Int):=by omega
          have af:=aK hm2.own hm2.hF (by decide);have ah:=aK hm2.own hm2.hH (by decide);have lF:=hm2.hF.lt;have lH:=hm2.hH.lt;have z1:=hm2.low.size
          go_region_held3 (fun w'=>w'.cell? ⟨b.F,2,none⟩=some (.int .i64 k)/\w'.cell? ⟨b.F,3,none⟩=some (.int .i64 (aY s k))/\w'.cell? ⟨b.F,4,none⟩=some (.int .i64 (bL s k))/\w'.cell? ⟨b.H,2,none⟩=some (.int .i64 (aB s k:Nat)))
            (first
              | go_keep
              | (go_split_ands
                 refine ⟨?_,?_,?_,?_⟩
                 · (rw [hgrow.cell_far _ (by simp;omega) (Ne.symm af)];assumption)
                 · (rw [hgrow.cell_far _ (by simp;omega) (Ne.symm af)];assumption)
                 · (rw [hgrow.cell_far _ (by simp;omega) (Ne.symm af)];assumption)
                 · (rw [hgrow.cell_far _ (by simp;omega) (Ne.symm ah)];assumption)))
            ((refine step_append_lies _ (by rfl) _ _ _ (by rfl) w.heap.size 99 i0 _ 5 48 Tryz.underlying44 hi hz0 hz1 hz2 rfl (by omega) v acc.length (toks acc) (by rfl) ((hm2.own.alloc _).drew)
                ⟨W.heap.size,0,none⟩ 1 1 [.int .u8 3,.string (s.extract k (aB s k)),.int .u64 0,.int .i64 (aY s k),.int .i64 (bL s k)] (by rfl) (by rfl) (jh (by simp)) gT
                (by omega) (by unfold maxLen;omega) (by omega) (by simp;omega) (W.heap.size+1) (by simp) ?_;intro gg cap w1 hown1 hgrow hat hlt))
          have wQ:=hm2.oH ⟨3,(s.data.toList.drop k).take (aB s k - k),0,(pl s.data.toList k).1,(pl s.data.toList k).2⟩ (by rw [jN];rfl) hown1 hgrow;go_wp2_with fail
          go_step3
          exact qL (Q:=fun _ _ _=>True) (n':=s.size - aB s k) (by omega) ⟨b,aB s k,_,_,_,_,_,_,_,rfl,rfl,rfl,rfl,rfl,rfl,rfl,rfl,rfl,by omega,by simp;omega,lh.out,wQ⟩
      have nS:=Bool.eq_false_iff.2 hsi;clear hsi
      go_wp2_with (first
        | (go_at_call 35;refine (iP _ _ _).mono ?_;rintro e w' ⟨rfl,rfl⟩)
        | (go_at_call 36;refine (gG _ _ _).mono ?_;rintro e w' ⟨rfl,rfl⟩)
        | (go_at_call 37;refine (fA _ _ _).mono ?_;rintro e w' ⟨rfl,rfl⟩))
      go_region
      go_wp2
      refine bodyPost_ret (v:=.tuple #[.slice none 0 0,.agg #[.int .i64 (aY s k),.int .i64 (bL s k)],.int .i64 3]) (by simp [results,go_sem,r0,r1]) rfl ?_;rw [HX.out,yl (Er hll HB.out MV.out nD nL nS)];exact ⟨((hm1.low.setCell hm1.lR _).setCell hm1.lR _).drew,rfl⟩
  · intro VR;go_wp2_with fail
    refine (Gp _ _).mono ?_;rintro e w1 ⟨T,I,A,rfl,lT,lI,lA,hT,hI,hA,hlow⟩;simp only [World.size_alloc] at lT lI lA
    go_wp2_with fail
    refine (jM s 0 T I A w1 (by omega) (Nat.zero_le _) hT hI hA).mono ?_;rintro e w2 ja;have HM:=Lib.hid ja;obtain ⟨rfl,_⟩:=ja;go_wp2_with fail
    go_step3
    refine (by assumption:∀ (a:Act) (w:World),_->_) _ _ ?_;refine VR _ _ _ ⟨⟨w.heap.size,w.heap.size+1,w2.heap.size,T,I,A⟩,0,.slice none 0 0,.int .u8 0,.bool false,.int .i64 0,.int .i64 0,.int .i64 0,[],rfl,rfl,rfl,rfl,rfl,rfl,rfl,rfl,rfl,Nat.zero_le _,Nat.le_refl _,?_,?_⟩
    · simp [pl,Gj,El]
    · exact Mem.begin lT lI lA hlow HM.out rfl rfl
theorem MW (s:ByteArray) (w:World) (hs:4096<s.size) (hm:s.size<=9223372036854775807) :
  Calls Tryz.prog 10 #[.string s] w fun e w'=>CV (.err 4 1 1) w e w':=by
 go_enter Tryz.func10,Tryz.ntmps10;go_wp2
 go_step3
 go_wp2
 rw [Exit.noGoto_ret];refine bodyPost_ret (v:=.tuple #[.slice none 0 0,.agg #[.int .i64 1,.int .i64 1],.int .i64 4]) (by simp [results,go_sem]) rfl ?_;exact ⟨(Below.refl _ _).alloc (Nat.le_refl _) _,rfl⟩
theorem Qj (s:ByteArray) (w:World) (hm:s.size<=9223372036854775807):Calls Tryz.prog 10 #[.string s] w fun e w'=>CV (fq s.data.toList) w e w':=by
 by_cases h:s.size<=4096
 ·have e:fq s.data.toList=lex s.data.toList (1,1):=if_pos h
  rw [e];exact Qd s w h
 ·have e:fq s.data.toList = .err 4 1 1:=if_neg h
  rw [e];exact MW s w (by omega) hm
end Go.Proofs.YtaanhmndeobgbaaGreatDoor.Lex
