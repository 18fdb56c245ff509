/- Part 39 of the proof: what is used of the texts TelE. -/
import Derived.Test.YtbkdappgmcebaaaGreatDoorLD6
import Derived.Test.YtbkdappgmcebaaaGreatDoorLC8
section
namespace Go.Proofs.YtbkdappgmcebaaaGreatDoor.Chk
open Go.RowKit Go.Proofs.YtbkdappgmcebaaaGreatDoor.Mem Go.Proofs.YtbkdappgmcebaaaGreatDoor.Expr Go.Proofs.YtbkdappgmcebaaaGreatDoor.Prog Go.Lib
theorem any_drop {α:Type} {l:List α} {i:Nat} {a:α} {p:α->Bool} (h:l[i]? = some a):(l.drop i).any p=(p a || (l.drop (i+1)).any p):=by rw [drop_at h,List.any_cons]
def ipred (c:Nat) (x:Nat × Nat):Bool:=decide (x.1=c)
def apred (c:Nat) (a:It):Bool:=decide (a.kind=3) && decide (a.x=c)
def mpred (c:Nat) (x:Prog.Mark):Bool:=!decide (x.kind=0) && decide (x.loc=c)
def tpred (c:Nat) (l:List Prog.Mark):Bool:=l.any (mpred c)
def namedD (t:Rt) (c:Nat):Bool:=((t.init.any (ipred c) || t.ask.any (apred c)) || t.threads.any (tpred c))
def letD (t:Rt):Let:=fun i=>namedD t (97+i)
def rlocsF (t:Rt):List UInt8:=preL (letD t) 26
theorem strSize (l:List UInt8):(str l).size=l.length:=by simp [str,ByteArray.size]
theorem str_add (a b:List UInt8):str a ++ str b=str (a ++ b):=by
  apply ByteArray.ext;simp [str]
theorem one_conv (w:World) (c:Nat) (hc:c<256):(convert 120 9 (.slice (some ⟨w.heap.size,0,none⟩) 1 1)).run Tryz.prog (w.alloc (.cells #[.int .u8 (c:Nat)] 5)) = .ok (.string (str [c.toUInt8])) (w.alloc (.cells #[.int .u8 (c:Nat)] 5)):=by
  refine run_convert_bytes_back (P:=Tryz.prog) _ 120 9 5 ⟨w.heap.size,0,none⟩ 1 [c.toUInt8] Tryz.underlying120 Tryz.underlying5 Tryz.underlying9 (fun j hj=>?_)
  have hj0:j=0:=by simpa using hj
  subst hj0
  have:=(Sits.new w 5 #[.int .u8 (c:Nat)]).cell 0
  have e:(c.toUInt8.toNat:Int)=(c:Int):=by simp;omega
  show _=some (Value.int .u8 ((c.toUInt8).toNat:Int))
  rw [e]
  exact this
set_option maxRecDepth 100000 in
set_option maxHeartbeats 4000000 in
theorem locations_doc (t:Rt) (vi vt va:Value) (w:World) (hT:RtV w t vi vt va):Calls Tryz.prog 60 #[.agg (rtCells vi vt t.all va)] w fun e w'=>Made (.returned (.string (str (rlocsF t)))) w e w':=by
  obtain ⟨pi,ci,rfl⟩:=hT.init.len
  obtain ⟨pt,ct,rfl,hlt⟩:=hT.threads.len
  obtain ⟨pa,ca,rfl,hla⟩:=hT.ask.len
  have hli:t.init.length<=1000000:=by obtain ⟨_,_,_,h⟩:=RowAt.len hT.init;exact h
  have HLC:=Lib.hid (show rlocsF t=preL (letD t) 26 from rfl)
  have HND:=Lib.hid (fun c=>(show namedD t c=((t.init.any (ipred c) || t.ask.any (apred c)) || t.threads.any (tpred c)) from rfl))
  have HLD:=Lib.hid (fun i=>(show letD t i=namedD t (97+i) from rfl))
  generalize rlocsF t=rl at HLC ⊢
  generalize letD t=ld at HLC HLD
  generalize namedD t=nd at HND HLD
  obtain ⟨li,lt,al,la⟩:=t
  simp only at hT hlt hla hli HND ⊢
  have hb:Below w.heap.size w (w.alloc (.cells #[.slice pi li.length ci,.slice pt lt.length ct,.bool al,.slice pa la.length ca] 37)):=(Below.refl _ _).alloc (Nat.le_refl _) _
  have HT:=Lib.hid (hT.below hb)
  have HB0:=Lib.hid hb
  have HBX:=Lib.hid (Sits.new w 37 #[.slice pi li.length ci,.slice pt lt.length ct,.bool al,.slice pa la.length ca])
  have j1:(lt.length:Int)<=1000000:=by omega
  have j2:(li.length:Int)<=1000000:=by omega
  have j3:(la.length:Int)<=1000000:=by omega
  unfold rtCells
  clear hT hb hla hlt hli
  go_enter Tryz.func60,Tryz.ntmps60
  go_wp2_with fail
  generalize w.alloc (.cells #[.slice pi li.length ci,.slice pt lt.length ct,.bool al,.slice pa la.length ca] 37)=w1 at HT HB0 HBX ⊢
  generalize w.heap.size=gb at HBX ⊢
  go_loopg [3,4] 26 (fun gg v3 v4 wx=>∃ n c,n<=26/\gg=26 - n/\Hid (c=97+n)/\v4 = .int .u8 (c:Nat)/\v3 = .string (str (preL ld n))/\Hid (Below w1.heap.size w1 wx))
  case atStart=>exact ⟨0,97,by omega,by omega,Lib.hid rfl,rfl,rfl,Lib.hid (Below.refl _ _)⟩
  case round =>
    obtain ⟨n,c,hn,rfl,HCN,rfl,rfl,HBj⟩:=hrel
    have hbx:=HBX.out.below HBj.out HBX.out.lt
    have c0:wr.cell? ⟨gb,0,none⟩=some (.slice pi li.length ci):=hbx.cell 0
    have c1:wr.cell? ⟨gb,1,none⟩=some (.slice pt lt.length ct):=hbx.cell 1
    have c3:wr.cell? ⟨gb,3,none⟩=some (.slice pa la.length ca):=hbx.cell 3
    have lb:=hbx.lt
    have HTW:=Lib.hid (HT.out.below HBj.out)
    clear hbx
    by_cases hlt:n<26
    · have k1:(c:Int)<=122:=by have:=HCN.out;omega
      have HN:=Lib.hid hlt
      have HI:=Lib.hid (show li.any (ipred c)=(false || (li.drop 0).any (ipred c)) by rw [List.drop_zero,Bool.false_or])
      clear hlt hn
      go_wp2_with fail
      generalize wr=w2 at c0 c1 c3 lb HTW HBj ⊢
      go_loopg [5,6] li.length (fun gg v5 v6 wx=>∃ k b,k<=li.length/\gg=li.length - k/\v6 = .int .i64 (k:Nat)/\v5 = .bool b/\Hid (li.any (ipred c)=(b || (li.drop k).any (ipred c)))/\w2=wx)
      case atStart=>exact ⟨0,false,by omega,by omega,rfl,rfl,HI,rfl⟩
      case round =>
        obtain ⟨k,b,hk,rfl,rfl,rfl,HA,rfl⟩:=hrel
        by_cases hkl:k<li.length
        · have hx:li[k]? = some li[k]:=List.getElem?_eq_getElem hkl
          generalize li[k]=x at hx
          obtain ⟨g,o,cap',e1,d0,_⟩:=(HTW.out).init.at hx
          injection e1 with e1 _ e2
          subst e1 e2
          have lg:=World.block_lt_of_cell? _ _ d0
          have p1:(k:Int)<(li.length:Int):=by omega
          have p0:(0:Int)<=(k:Int):=by omega
          have hd:=HA.out
          rw [any_drop hx] at hd
          have HK:=Lib.hid hkl
          clear hx hkl hk HA
          cases b with
          | true =>
            have HD:=Lib.hid (show li.any (ipred c)=(true || (li.drop (k+1)).any (ipred c)) by rw [hd,Bool.true_or,Bool.true_or])
            clear hd
            go_wp2_with fail
            go_roundg (li.length - (k+1))
            case measure=>have:=HK.out;omega
            case rel=>exact ⟨k+1,true,HK.out,rfl,by go_num,rfl,HD,rfl⟩
          | false =>
            by_cases he:x.1=c
            · have HD:=Lib.hid (show li.any (ipred c)=(true || (li.drop (k+1)).any (ipred c)) by rw [hd,show ipred c x=true from decide_eq_true he,Bool.true_or,Bool.false_or])
              have q1:((x.1:Int) == (c:Int))=true:=beq_iff_eq.2 (by omega)
              clear hd he
              go_wp2_with fail
              go_roundg (li.length - (k+1))
              case measure=>have:=HK.out;omega
              case rel=>exact ⟨k+1,true,HK.out,rfl,by go_num,rfl,HD,rfl⟩
            · have HD:=Lib.hid (show li.any (ipred c)=(false || (li.drop (k+1)).any (ipred c)) by rw [hd,show ipred c x=false from decide_eq_false he,Bool.false_or])
              have q1:((x.1:Int) == (c:Int))=false:=beq_eq_false_iff_ne.2 (by omega)
              clear hd he
              go_wp2_with fail
              go_roundg (li.length - (k+1))
              case measure=>have:=HK.out;omega
              case rel=>exact ⟨k+1,false,HK.out,rfl,by go_num,rfl,HD,rfl⟩
        · obtain rfl:k=li.length:=by omega
          have p1:¬ ((li.length:Int)<(li.length:Int)):=by omega
          have HI2:=Lib.hid (show (li.any (ipred c) || la.any (apred c))=(b || (la.drop 0).any (apred c)) by rw [HA.out,List.drop_length,List.any_nil,Bool.or_false,List.drop_zero])
          clear hkl hk HA
          go_wp2_with fail
          go_loopg [5,7] la.length (fun gg v5 v7 wx=>∃ k b,k<=la.length/\gg=la.length - k/\v7 = .int .i64 (k:Nat)/\v5 = .bool b/\Hid ((li.any (ipred c) || la.any (apred c))=(b || (la.drop k).any (apred c)))/\w2=wx)
          case atStart=>exact ⟨0,b,by omega,by omega,rfl,rfl,HI2,rfl⟩
          case round =>
            clear HI2
            generalize li.any (ipred c)=ib at HND ⊢
            obtain ⟨k,b,hk,rfl,rfl,rfl,HA,rfl⟩:=hrel
            by_cases hkl:k<la.length
            · have hx:la[k]? = some la[k]:=List.getElem?_eq_getElem hkl
              generalize la[k]=x at hx
              obtain ⟨g,o,cap',e1,_,_,hit⟩:=(HTW.out).ask.item hx
              injection e1 with e1 _ e2
              subst e1 e2
              obtain ⟨d0,_,_,_,_,d5⟩:=hit
              have lg:=World.block_lt_of_cell? _ _ d0
              have p1:(k:Int)<(la.length:Int):=by omega
              have p0:(0:Int)<=(k:Int):=by omega
              have hd:=HA.out
              rw [any_drop hx] at hd
              have HK:=Lib.hid hkl
              clear hx hkl hk HA
              cases b with
              | true =>
                have HD:=Lib.hid (show (li.any (ipred c) || la.any (apred c))=(true || (la.drop (k+1)).any (apred c)) by rw [hd,Bool.true_or,Bool.true_or])
                clear hd
                go_wp2_with fail
                go_roundg (la.length - (k+1))
                case measure=>have:=HK.out;omega
                case rel=>exact ⟨k+1,true,HK.out,rfl,by go_num,rfl,HD,rfl⟩
              | false =>
                by_cases h3:x.kind=3
                · have q3:((x.kind:Int) == 3)=true:=beq_iff_eq.2 (by omega)
                  by_cases he:x.x=c
                  · have HD:=Lib.hid (show (li.any (ipred c) || la.any (apred c))=(true || (la.drop (k+1)).any (apred c)) by rw [hd,show apred c x=true by rw [apred,decide_eq_true h3,decide_eq_true he];rfl,Bool.true_or,Bool.false_or])
                    have q1:((x.x:Int) == (c:Int))=true:=beq_iff_eq.2 (by omega)
                    clear hd he h3
                    go_wp2_with fail
                    go_roundg (la.length - (k+1))
                    case measure=>have:=HK.out;omega
                    case rel=>exact ⟨k+1,true,HK.out,rfl,by go_num,rfl,HD,rfl⟩
                  · have HD:=Lib.hid (show (li.any (ipred c) || la.any (apred c))=(false || (la.drop (k+1)).any (apred c)) by rw [hd,show apred c x=false by rw [apred,decide_eq_false he,Bool.and_false],Bool.false_or])
                    have q1:((x.x:Int) == (c:Int))=false:=beq_eq_false_iff_ne.2 (by omega)
                    clear hd he h3
                    go_wp2_with fail
                    go_roundg (la.length - (k+1))
                    case measure=>have:=HK.out;omega
                    case rel=>exact ⟨k+1,false,HK.out,rfl,by go_num,rfl,HD,rfl⟩
                · have q3:((x.kind:Int) == 3)=false:=beq_eq_false_iff_ne.2 (by omega)
                  have HD:=Lib.hid (show (li.any (ipred c) || la.any (apred c))=(false || (la.drop (k+1)).any (apred c)) by rw [hd,show apred c x=false by rw [apred,decide_eq_false h3,Bool.false_and],Bool.false_or])
                  clear hd h3
                  go_wp2_with fail
                  go_roundg (la.length - (k+1))
                  case measure=>have:=HK.out;omega
                  case rel=>exact ⟨k+1,false,HK.out,rfl,by go_num,rfl,HD,rfl⟩
            · obtain rfl:k=la.length:=by omega
              have p1:¬ ((la.length:Int)<(la.length:Int)):=by omega
              have HT2:=Lib.hid (show nd c=(b || (lt.drop 0).any (tpred c)) by rw [HND.out c,HA.out,List.drop_length,List.any_nil,Bool.or_false,List.drop_zero])
              clear hkl hk HA
              go_wp2_with fail
              go_loopg [5,8] lt.length (fun gg v5 v8 wx=>∃ k b,k<=lt.length/\gg=lt.length - k/\v8 = .int .i64 (k:Nat)/\v5 = .bool b/\Hid (nd c=(b || (lt.drop k).any (tpred c)))/\w2=wx)
              case atStart=>exact ⟨0,b,by omega,by omega,rfl,rfl,HT2,rfl⟩
              case round =>
                clear HT2
                obtain ⟨j,b,hj,rfl,rfl,rfl,HA,rfl⟩:=hrel
                by_cases hjl:j<lt.length
                · have hx:lt[j]? = some lt[j]:=List.getElem?_eq_getElem hjl
                  generalize lt[j]=l at hx
                  obtain ⟨g,o,cap',u,e1,_,hc,hm⟩:=(HTW.out).threads.at hx
                  injection e1 with e1 _ e2
                  subst e1 e2
                  obtain ⟨pl,cl,rfl,hll⟩:=hm.len
                  have HMR:=Lib.hid hm
                  have lg:=World.block_lt_of_cell? _ _ hc
                  have m1:(j:Int)<(lt.length:Int):=by omega
                  have m2:(0:Int)<=(j:Int):=by omega
                  have m3:(l.length:Int)<=1000000:=by omega
                  have hd:=HA.out
                  rw [any_drop hx] at hd
                  have HL:=Lib.hid (show nd c=((b || (l.drop 0).any (mpred c)) || (lt.drop (j+1)).any (tpred c)) by rw [hd,List.drop_zero,Bool.or_assoc];rfl)
                  have HJ:=Lib.hid hjl
                  clear hx hm hll hjl hj HA hd
                  go_wp2_with fail
                  go_loopg [5,9] l.length (fun gg v5 v9 wx=>∃ k b,k<=l.length/\gg=l.length - k/\v9 = .int .i64 (k:Nat)/\v5 = .bool b/\Hid (nd c=((b || (l.drop k).any (mpred c)) || (lt.drop (j+1)).any (tpred c)))/\w2=wx)
                  case atStart=>exact ⟨0,b,by omega,by omega,rfl,rfl,HL,rfl⟩
                  case round =>
                    clear HL
                    obtain ⟨k,b,hk,rfl,rfl,rfl,HA,rfl⟩:=hrel
                    by_cases hkl:k<l.length
                    · have hx:l[k]? = some l[k]:=List.getElem?_eq_getElem hkl
                      generalize l[k]=x at hx
                      obtain ⟨g5,o5,cap5,av,bv,e1,_,hmk⟩:=HMR.out.at hx
                      injection e1 with e1 _ e2
                      subst e1 e2
                      obtain ⟨d0,_,_,d3,_⟩:=hmk
                      have lg5:=World.block_lt_of_cell? _ _ d0
                      have p1:(k:Int)<(l.length:Int):=by omega
                      have p0:(0:Int)<=(k:Int):=by omega
                      have hd:=HA.out
                      rw [any_drop hx] at hd
                      have HK:=Lib.hid hkl
                      clear hx hkl hk HA
                      cases b with
                      | true =>
                        have HD:=Lib.hid (show nd c=((true || (l.drop (k+1)).any (mpred c)) || (lt.drop (j+1)).any (tpred c)) by rw [hd];simp)
                        clear hd
                        go_wp2_with fail
                        go_roundg (l.length - (k+1))
                        case measure=>have:=HK.out;omega
                        case rel=>exact ⟨k+1,true,HK.out,rfl,by go_num,rfl,HD,rfl⟩
                      | false =>
                        by_cases h3:x.kind=0
                        · have q3:((x.kind:Int) != 0)=false:=by simp [h3]
                          have HD:=Lib.hid (show nd c=((false || (l.drop (k+1)).any (mpred c)) || (lt.drop (j+1)).any (tpred c)) by rw [hd,show mpred c x=false by rw [mpred,decide_eq_true h3];rfl,Bool.false_or])
                          clear hd h3
                          go_wp2_with fail
                          go_roundg (l.length - (k+1))
                          case measure=>have:=HK.out;omega
                          case rel=>exact ⟨k+1,false,HK.out,rfl,by go_num,rfl,HD,rfl⟩
                        · have q3:((x.kind:Int) != 0)=true:=bne_iff_ne.2 (by omega)
                          by_cases he:x.loc=c
                          · have HD:=Lib.hid (show nd c=((true || (l.drop (k+1)).any (mpred c)) || (lt.drop (j+1)).any (tpred c)) by rw [hd,show mpred c x=true by rw [mpred,decide_eq_false h3,decide_eq_true he];rfl,Bool.true_or,Bool.false_or])
                            have q1:((x.loc:Int) == (c:Int))=true:=beq_iff_eq.2 (by omega)
                            clear hd he h3
                            go_wp2_with fail
                            go_roundg (l.length - (k+1))
                            case measure=>have:=HK.out;omega
                            case rel=>exact ⟨k+1,true,HK.out,rfl,by go_num,rfl,HD,rfl⟩
                          · have HD:=Lib.hid (show nd c=((false || (l.drop (k+1)).any (mpred c)) || (lt.drop (j+1)).any (tpred c)) by rw [hd,show mpred c x=false by rw [mpred,decide_eq_false he,Bool.and_false],Bool.false_or])
                            have q1:((x.loc:Int) == (c:Int))=false:=beq_eq_false_iff_ne.2 (by omega)
                            clear hd he h3
                            go_wp2_with fail
                            go_roundg (l.length - (k+1))
                            case measure=>have:=HK.out;omega
                            case rel=>exact ⟨k+1,false,HK.out,rfl,by go_num,rfl,HD,rfl⟩
                    · obtain rfl:k=l.length:=by omega
                      have p1:¬ ((l.length:Int)<(l.length:Int)):=by omega
                      have HA2:=Lib.hid (show nd c=(b || (lt.drop (j+1)).any (tpred c)) by rw [HA.out,List.drop_length,List.any_nil,Bool.or_false])
                      clear hkl hk HA
                      go_wp2_with fail
                      go_roundg (lt.length - (j+1))
                      case measure=>have:=HJ.out;omega
                      case rel=>exact ⟨j+1,b,HJ.out,rfl,by go_num,rfl,HA2,rfl⟩
                · obtain rfl:j=lt.length:=by omega
                  have m1:¬ ((lt.length:Int)<(lt.length:Int)):=by omega
                  have HB:=Lib.hid (show ld n=b by rw [HLD.out n,<- HCN.out,HA.out,List.drop_length,List.any_nil,Bool.or_false])
                  clear hjl hj HA
                  cases b with
                  | true =>
                    have hcv:=one_conv w2 c (by omega)
                    have HS:=Lib.hid (show str (preL ld n) ++ str [c.toUInt8]=str (preL ld (n+1)) by rw [preL_yes ld n HB.out,str_add,HCN.out])
                    have nz:¬ ((str (preL ld n)).size+(str [c.toUInt8]).size > 9223372036854775807):=by have:=preL_len ld n;have:=HN.out;rw [strSize,strSize,List.length_singleton];omega
                    generalize str (preL ld n)=s1 at nz HS ⊢
                    generalize str [c.toUInt8]=s2 at nz HS hcv
                    go_wp2_with fail
                    go_roundg (26 - (n+1))
                    case measure=>have:=HN.out;omega
                    case rel=>exact ⟨n+1,c+1,HN.out,rfl,Lib.hid (by rw [HCN.out];omega),by go_num,by rw [HS.out],Lib.hid (HBj.out.alloc HBj.out.size _)⟩
                  | false =>
                    have HS:=Lib.hid (preL_no ld n HB.out)
                    go_wp2_with fail
                    go_roundg (26 - (n+1))
                    case measure=>have:=HN.out;omega
                    case rel=>exact ⟨n+1,c+1,HN.out,rfl,Lib.hid (by rw [HCN.out];omega),by go_num,by rw [HS.out],HBj⟩
    · obtain rfl:n=26:=by omega
      have k1:¬ ((c:Int)<=122):=by have:=HCN.out;omega
      have HF:=Lib.hid HLC.out.symm
      clear hlt hn
      go_wp2_with fail
      go_ret
      exact ⟨by rw [HLC.out];rfl,HB0.out.trans (HBj.out.mono HB0.out.size)⟩
end Go.Proofs.YtbkdappgmcebaaaGreatDoor.Chk
end
