/- Part 1 of the proof: what is used of the texts Shelf. -/
import Derived.Shelf.Strings.Builder1
import Derived.Shelf.Strings.Builder2
import Derived.Shelf.Strings.OnBuilder
import Derived.Shelf.Small.Strs
import Derived.Shelf.Strings.BuilderF
import Derived.Shelf.Strings.BuilderK
import Derived.Shelf.Strings.Builder2Cap
import Derived.Shelf.Strconv.Itoa0
import Derived.Shelf.Strconv.Itoa1
import Derived.Shelf.LaysM
import Derived.Shelf.Strconv.Itoa2
import Derived.Shelf.Strconv.Itoa3
import Derived.Shelf.Strings.Search1
import Derived.Shelf.Strings.Prefix
import Derived.Shelf.Bits.Mul64
import Derived.Shelf.Strings.Repeat
import Derived.Shelf.Strings.BuilderCap
import Derived.Test.YtbkdappgmcebaaaGreatDoorProg
section
namespace Go.Proofs
open Go.Shelf
def Tryz.lays169_ren:Go.Shelf.Ren:=⟨fun | 169=>68 | n=>n,fun | 70=>119 | 9=>9 | 0=>0 | 72=>122 | 37=>120 | 127=>194 | 3=>3 | 5=>5 | n=>n,fun | n=>n⟩
theorem Tryz.lays169:Go.Proofs.Lays.n169 Tryz.prog Tryz.lays169_ren:={
  mixed:=by kernel_rfl
  f169:=Tryz.func68.trans (congrArg some (by kernel_rfl))
  t0:=Tryz.underlying0
  a0:=Tryz.isAgg0
  z0:=Tryz.sizeOf0
  v0:=Tryz.zeroValue0
  t3:=Tryz.underlying3
  a3:=Tryz.isAgg3
  z3:=Tryz.sizeOf3
  v3:=Tryz.zeroValue3
  t9:=Tryz.underlying9
  a9:=Tryz.isAgg9
  z9:=Tryz.sizeOf9
  v9:=Tryz.zeroValue9
  t37:=Tryz.underlying120
  a37:=Tryz.isAgg120
  z37:=Tryz.sizeOf120
  v37:=Tryz.zeroValue120
  t70:=Tryz.underlying119
  a70:=Tryz.isAgg119
  z70:=Tryz.sizeOf119
  v70:=Tryz.zeroValue119
  t72:=Tryz.underlying122
  a72:=Tryz.isAgg122
  z72:=Tryz.sizeOf122
  v72:=Tryz.zeroValue122
  t127:=Tryz.underlying194
  a127:=Tryz.isAgg194
  z127:=Tryz.sizeOf194
  v127:=Tryz.zeroValue194 }
theorem Tryz.Builder_Extra_169:Builder.Extra Tryz.prog Tryz.lays169_ren:={
  sizeBuilder:=by kernel_rfl
  liesBuilder:=by kernel_rfl
  t5:=Tryz.underlying5
  a5:=Tryz.isAgg5
  z5:=Tryz.sizeOf5
  v5:=Tryz.zeroValue5
  infoByte:=by kernel_rfl
  cellsByte:=by kernel_rfl
  sizeByte:=by kernel_rfl
  neB5:=by decide }
def Tryz.lays156_ren:Go.Shelf.Ren:=⟨fun | 156=>166 | 165=>158 | 166=>122 | 169=>68 | 240=>160 | 241=>194 | 276=>195 | 277=>209 | n=>n,fun | 31=>82 | 9=>9 | 3=>3 | 4=>4 | 0=>0 | 20=>20 | 72=>122 | 76=>181 | 70=>119 | 37=>120 | 75=>180 | 127=>194 | 164=>253 | 5=>5 | 80=>54 | n=>n,fun | n=>n⟩
theorem Tryz.lays156:Go.Proofs.Lays.n156 Tryz.prog Tryz.lays156_ren:={
  mixed:=by kernel_rfl
  f156:=Tryz.func166.trans (congrArg some (by kernel_rfl))
  f165:=Tryz.func158.trans (congrArg some (by kernel_rfl))
  f166:=Tryz.func122.trans (congrArg some (by kernel_rfl))
  f169:=Tryz.func68.trans (congrArg some (by kernel_rfl))
  f240:=Tryz.func160.trans (congrArg some (by kernel_rfl))
  f241:=Tryz.func194.trans (congrArg some (by kernel_rfl))
  f276:=Tryz.func195.trans (congrArg some (by kernel_rfl))
  f277:=Tryz.func209.trans (congrArg some (by kernel_rfl))
  t0:=Tryz.underlying0
  a0:=Tryz.isAgg0
  z0:=Tryz.sizeOf0
  v0:=Tryz.zeroValue0
  t3:=Tryz.underlying3
  a3:=Tryz.isAgg3
  z3:=Tryz.sizeOf3
  v3:=Tryz.zeroValue3
  t4:=Tryz.underlying4
  a4:=Tryz.isAgg4
  z4:=Tryz.sizeOf4
  v4:=Tryz.zeroValue4
  t9:=Tryz.underlying9
  a9:=Tryz.isAgg9
  z9:=Tryz.sizeOf9
  v9:=Tryz.zeroValue9
  t20:=Tryz.underlying20
  a20:=Tryz.isAgg20
  z20:=Tryz.sizeOf20
  v20:=Tryz.zeroValue20
  t31:=Tryz.underlying82
  a31:=Tryz.isAgg82
  z31:=Tryz.sizeOf82
  v31:=Tryz.zeroValue82
  t37:=Tryz.underlying120
  a37:=Tryz.isAgg120
  z37:=Tryz.sizeOf120
  v37:=Tryz.zeroValue120
  t70:=Tryz.underlying119
  a70:=Tryz.isAgg119
  z70:=Tryz.sizeOf119
  v70:=Tryz.zeroValue119
  t72:=Tryz.underlying122
  a72:=Tryz.isAgg122
  z72:=Tryz.sizeOf122
  v72:=Tryz.zeroValue122
  t75:=Tryz.underlying180
  a75:=Tryz.isAgg180
  z75:=Tryz.sizeOf180
  v75:=Tryz.zeroValue180
  t76:=Tryz.underlying181
  a76:=Tryz.isAgg181
  z76:=Tryz.sizeOf181
  v76:=Tryz.zeroValue181
  t127:=Tryz.underlying194
  a127:=Tryz.isAgg194
  z127:=Tryz.sizeOf194
  v127:=Tryz.zeroValue194
  t164:=Tryz.underlying253
  a164:=Tryz.isAgg253
  z164:=Tryz.sizeOf253
  v164:=Tryz.zeroValue253 }
theorem Tryz.Builder_Extra_156:Builder.Extra Tryz.prog Tryz.lays156_ren:={
  sizeBuilder:=by kernel_rfl
  liesBuilder:=by kernel_rfl
  t5:=Tryz.underlying5
  a5:=Tryz.isAgg5
  z5:=Tryz.sizeOf5
  v5:=Tryz.zeroValue5
  infoByte:=by kernel_rfl
  cellsByte:=by kernel_rfl
  sizeByte:=by kernel_rfl
  neB5:=by decide }
open Go.RowKit in
theorem Tryz.strings_Join (bk o c:Nat) (xs:List ByteArray) (sep:ByteArray) (w:World) (hcells:∀ (j:Nat) x,xs[j]? = some x->w.cell? ⟨bk,o+j,none⟩=some (.string x)) (hbk:bk<w.heap.size) (hN:xs.length<=140737488355328) (hcap:xs.length<=c) (hlen:(Lib.join (xs.map (·.data.toList)) sep.data.toList).length<=140737488355328) :
    Calls Tryz.prog 166 #[.slice (some ⟨bk,o,none⟩) xs.length c,.string sep] w fun e w'=>e = .returned (.string ⟨(Lib.join (xs.map (·.data.toList)) sep.data.toList).toArray⟩)/\Below w.heap.size w w':=Any.strings_Join Tryz.lays156 Tryz.Builder_Extra_156 bk o c xs sep w hcells hbk hN hcap hlen
open Go.RowKit in
theorem Tryz.Builder_String_any_k (B b:Nat) (l:List UInt8) (w:World) (h:Lib.IsBuilderF 122 5 B b (Lib.byteCells l) w) (hBw:B<=w.heap.size) :
    Calls Tryz.prog 68 #[.pointer (some ⟨b,0,none⟩)] w fun e w'=>e = .returned (.string ⟨l.toArray⟩)/\(Lib.IsBuilderF 122 5 B b (Lib.byteCells l) w' /\ Below B w w' /\ Lib.OthersKept 5 (some b) w w'):=Any.Builder_String_any_k Tryz.lays169 Tryz.Builder_Extra_169 B b l w h hBw
def Tryz.lays283_ren:Go.Shelf.Ren:=⟨fun | 283=>161 | n=>n,fun | 3=>3 | 9=>9 | 4=>4 | n=>n,fun | n=>n⟩
theorem Tryz.lays283:Go.Proofs.Lays.n283 Tryz.prog Tryz.lays283_ren:={
  mixed:=by kernel_rfl
  f283:=Tryz.func161.trans (congrArg some (by kernel_rfl))
  t3:=Tryz.underlying3
  a3:=Tryz.isAgg3
  z3:=Tryz.sizeOf3
  v3:=Tryz.zeroValue3
  t4:=Tryz.underlying4
  a4:=Tryz.isAgg4
  z4:=Tryz.sizeOf4
  v4:=Tryz.zeroValue4
  t9:=Tryz.underlying9
  a9:=Tryz.isAgg9
  z9:=Tryz.sizeOf9
  v9:=Tryz.zeroValue9 }
open Go.Lib in
theorem Tryz.internal_strconv_small (i:Nat) (h:i<100) (w:World) :
    Calls Tryz.prog 161 #[.int .i64 i] w fun e w'=>e = .returned (.string ⟨(Lib.decDigits i).toArray⟩)/\w' = w:=Any.internal_strconv_small Tryz.lays283 i h w
def Tryz.laysM284_ren:Go.Shelf.Ren:=⟨fun | 284=>162 | 129=>197 | 317=>196 | 318=>198 | n=>n,fun | 53=>50 | 3=>3 | 212=>256 | 0=>0 | 4=>4 | 46=>220 | 5=>5 | 9=>9 | n=>n,fun | 17=>2 | n=>n⟩
theorem Tryz.laysM284:Go.Proofs.LaysM.n284 Tryz.prog Tryz.laysM284_ren:={
  mixed:=by kernel_rfl
  f129:=Tryz.func197.trans (congrArg some (by kernel_rfl))
  f284:=Tryz.func162.trans (congrArg some (by kernel_rfl))
  f317:=Tryz.func196.trans (congrArg some (by kernel_rfl))
  f318:=Tryz.func198.trans (congrArg some (by kernel_rfl))
  t0:=Tryz.underlying0
  a0:=Tryz.isAgg0
  z0:=Tryz.sizeOf0
  v0:=Tryz.zeroValue0
  t3:=Tryz.underlying3
  a3:=Tryz.isAgg3
  z3:=Tryz.sizeOf3
  v3:=Tryz.zeroValue3
  t4:=Tryz.underlying4
  a4:=Tryz.isAgg4
  z4:=Tryz.sizeOf4
  v4:=Tryz.zeroValue4
  t5:=Tryz.underlying5
  a5:=Tryz.isAgg5
  z5:=Tryz.sizeOf5
  v5:=Tryz.zeroValue5
  t9:=Tryz.underlying9
  a9:=Tryz.isAgg9
  z9:=Tryz.sizeOf9
  v9:=Tryz.zeroValue9
  t46:=Tryz.underlying220
  a46:=Tryz.isAgg220
  z46:=Tryz.sizeOf220
  v46:=Tryz.zeroValue220
  t53:=Tryz.underlying50
  a53:=Tryz.isAgg50
  z53:=Tryz.sizeOf50
  v53:=Tryz.zeroValue50
  t212:=Tryz.underlying256
  a212:=Tryz.isAgg256
  z212:=Tryz.sizeOf256
  v212:=Tryz.zeroValue256
  g17:=by kernel_rfl
  i0:=by kernel_rfl
  i3:=by kernel_rfl
  i4:=by kernel_rfl
  i5:=by kernel_rfl
  i9:=by kernel_rfl
  i46:=by kernel_rfl
  i53:=by kernel_rfl
  i212:=by kernel_rfl
  m17:=by kernel_rfl }
open Go.Lib in
theorem Tryz.internal_strconv_numDigits (u : Nat) (h1 : 1 ≤ u) (h2 : u < 18446744073709551616) (w : World) (htab : Lib.TabIs Tryz.prog w "internal/strconv.uint64pow10" .u64 Lib.pow10Tab) :
    Calls Tryz.prog 162 #[.int .u64 u] w fun e w'=>e = .returned (.int .i64 (Lib.nDigits u))/\w' = w:=Any.internal_strconv_numDigits Tryz.laysM284 u h1 h2 w htab
def Tryz.lays285_ren:Go.Shelf.Ren:=⟨fun | 285=>163 | n=>n,fun | 37=>120 | 53=>50 | 3=>3 | 4=>4 | 51=>248 | 9=>9 | 5=>5 | 0=>0 | n=>n,fun | n=>n⟩
theorem Tryz.lays285:Go.Proofs.Lays.n285 Tryz.prog Tryz.lays285_ren:={
  mixed:=by kernel_rfl
  f285:=Tryz.func163.trans (congrArg some (by kernel_rfl))
  t0:=Tryz.underlying0
  a0:=Tryz.isAgg0
  z0:=Tryz.sizeOf0
  v0:=Tryz.zeroValue0
  t3:=Tryz.underlying3
  a3:=Tryz.isAgg3
  z3:=Tryz.sizeOf3
  v3:=Tryz.zeroValue3
  t4:=Tryz.underlying4
  a4:=Tryz.isAgg4
  z4:=Tryz.sizeOf4
  v4:=Tryz.zeroValue4
  t5:=Tryz.underlying5
  a5:=Tryz.isAgg5
  z5:=Tryz.sizeOf5
  v5:=Tryz.zeroValue5
  t9:=Tryz.underlying9
  a9:=Tryz.isAgg9
  z9:=Tryz.sizeOf9
  v9:=Tryz.zeroValue9
  t37:=Tryz.underlying120
  a37:=Tryz.isAgg120
  z37:=Tryz.sizeOf120
  v37:=Tryz.zeroValue120
  t51:=Tryz.underlying248
  a51:=Tryz.isAgg248
  z51:=Tryz.sizeOf248
  v51:=Tryz.zeroValue248
  t53:=Tryz.underlying50
  a53:=Tryz.isAgg50
  z53:=Tryz.sizeOf50
  v53:=Tryz.zeroValue50 }
open Go.RowKit Go.Sort Go.Lib in
theorem Tryz.internal_strconv_formatBase10 (blk off cap:Nat) (u:Nat) (d:Array UInt8) (w:World) (hH:Holds (fun (b:UInt8)=>Value.int .u8 (b.toNat:Int)) w blk off d) (hu:u<10 ^ d.size) (hu64:u<18446744073709551616) (hsz:d.size<4611686018427387904) :
    Calls Tryz.prog 163 #[.slice (some ⟨blk,off,none⟩) d.size cap,.int .u64 u] w fun e w' =>
      e = .returned (.tuple #[])/\∃ (n v':Nat) (dk:Array UInt8),w' = (putRow (fun (b:UInt8)=>Value.int .u8 (b.toNat:Int)) w blk off dk).drewN n/\FmtInv d.size u 0 v' dk:=Any.internal_strconv_formatBase10 Tryz.lays285 blk off cap u d w hH hu hu64 hsz
def Tryz.laysM246_ren:Go.Shelf.Ren:=⟨fun | 246=>212 | 283=>161 | 284=>162 | 285=>163 | 286=>164 | 129=>197 | 317=>196 | 318=>198 | 319=>199 | 320=>200 | 337=>210 | 338=>211 | n=>n,fun | 2=>2 | 3=>3 | 9=>9 | 4=>4 | 171=>226 | 0=>0 | 53=>50 | 37=>120 | 5=>5 | 173=>229 | 212=>256 | 51=>248 | 20=>20 | 213=>257 | 46=>220 | 232=>265 | 233=>266 | n=>n,fun | 17=>2 | 18=>5 | 19=>6 | n=>n⟩
def Tryz.laysM243_ren:Go.Shelf.Ren:=⟨fun | 243=>201 | 246=>212 | 283=>161 | 284=>162 | 285=>163 | 286=>164 | 129=>197 | 317=>196 | 318=>198 | 319=>199 | 320=>200 | 337=>210 | 338=>211 | n=>n,fun | 3=>3 | 9=>9 | 2=>2 | 4=>4 | 171=>226 | 0=>0 | 53=>50 | 37=>120 | 5=>5 | 173=>229 | 212=>256 | 51=>248 | 20=>20 | 213=>257 | 46=>220 | 232=>265 | 233=>266 | n=>n,fun | 17=>2 | 18=>5 | 19=>6 | n=>n⟩
def Tryz.laysM171_ren:Go.Shelf.Ren:=⟨fun | 171=>165 | 243=>201 | 246=>212 | 283=>161 | 284=>162 | 285=>163 | 286=>164 | 129=>197 | 317=>196 | 318=>198 | 319=>199 | 320=>200 | 337=>210 | 338=>211 | n=>n,fun | 3=>3 | 9=>9 | 2=>2 | 4=>4 | 171=>226 | 0=>0 | 53=>50 | 37=>120 | 5=>5 | 173=>229 | 212=>256 | 51=>248 | 20=>20 | 213=>257 | 46=>220 | 232=>265 | 233=>266 | n=>n,fun | 17=>2 | 18=>5 | 19=>6 | n=>n⟩
theorem Tryz.laysM171:Go.Proofs.LaysM.n171 Tryz.prog Tryz.laysM171_ren:={
  mixed:=by kernel_rfl
  f129:=Tryz.func197.trans (congrArg some (by kernel_rfl))
  f171:=Tryz.func165.trans (congrArg some (by kernel_rfl))
  f243:=Tryz.func201.trans (congrArg some (by kernel_rfl))
  f246:=Tryz.func212.trans (congrArg some (by kernel_rfl))
  f283:=Tryz.func161.trans (congrArg some (by kernel_rfl))
  f284:=Tryz.func162.trans (congrArg some (by kernel_rfl))
  f285:=Tryz.func163.trans (congrArg some (by kernel_rfl))
  f286:=Tryz.func164.trans (congrArg some (by kernel_rfl))
  f317:=Tryz.func196.trans (congrArg some (by kernel_rfl))
  f318:=Tryz.func198.trans (congrArg some (by kernel_rfl))
  f319:=Tryz.func199.trans (congrArg some (by kernel_rfl))
  f320:=Tryz.func200.trans (congrArg some (by kernel_rfl))
  f337:=Tryz.func210.trans (congrArg some (by kernel_rfl))
  f338:=Tryz.func211.trans (congrArg some (by kernel_rfl))
  t0:=Tryz.underlying0
  a0:=Tryz.isAgg0
  z0:=Tryz.sizeOf0
  v0:=Tryz.zeroValue0
  t2:=Tryz.underlying2
  a2:=Tryz.isAgg2
  z2:=Tryz.sizeOf2
  v2:=Tryz.zeroValue2
  t3:=Tryz.underlying3
  a3:=Tryz.isAgg3
  z3:=Tryz.sizeOf3
  v3:=Tryz.zeroValue3
  t4:=Tryz.underlying4
  a4:=Tryz.isAgg4
  z4:=Tryz.sizeOf4
  v4:=Tryz.zeroValue4
  t5:=Tryz.underlying5
  a5:=Tryz.isAgg5
  z5:=Tryz.sizeOf5
  v5:=Tryz.zeroValue5
  t9:=Tryz.underlying9
  a9:=Tryz.isAgg9
  z9:=Tryz.sizeOf9
  v9:=Tryz.zeroValue9
  t20:=Tryz.underlying20
  a20:=Tryz.isAgg20
  z20:=Tryz.sizeOf20
  v20:=Tryz.zeroValue20
  t37:=Tryz.underlying120
  a37:=Tryz.isAgg120
  z37:=Tryz.sizeOf120
  v37:=Tryz.zeroValue120
  t46:=Tryz.underlying220
  a46:=Tryz.isAgg220
  z46:=Tryz.sizeOf220
  v46:=Tryz.zeroValue220
  t51:=Tryz.underlying248
  a51:=Tryz.isAgg248
  z51:=Tryz.sizeOf248
  v51:=Tryz.zeroValue248
  t53:=Tryz.underlying50
  a53:=Tryz.isAgg50
  z53:=Tryz.sizeOf50
  v53:=Tryz.zeroValue50
  t171:=Tryz.underlying226
  a171:=Tryz.isAgg226
  z171:=Tryz.sizeOf226
  v171:=Tryz.zeroValue226
  t173:=Tryz.underlying229
  a173:=Tryz.isAgg229
  z173:=Tryz.sizeOf229
  v173:=Tryz.zeroValue229
  t212:=Tryz.underlying256
  a212:=Tryz.isAgg256
  z212:=Tryz.sizeOf256
  v212:=Tryz.zeroValue256
  t213:=Tryz.underlying257
  a213:=Tryz.isAgg257
  z213:=Tryz.sizeOf257
  t232:=Tryz.underlying265
  a232:=Tryz.isAgg265
  z232:=Tryz.sizeOf265
  v232:=Tryz.zeroValue265
  t233:=Tryz.underlying266
  a233:=Tryz.isAgg266
  z233:=Tryz.sizeOf266
  v233:=Tryz.zeroValue266
  g17:=by kernel_rfl
  g18:=by kernel_rfl
  g19:=by kernel_rfl
  i0:=by kernel_rfl
  i2:=by kernel_rfl
  i3:=by kernel_rfl
  i4:=by kernel_rfl
  i5:=by kernel_rfl
  i9:=by kernel_rfl
  i20:=by kernel_rfl
  i37:=by kernel_rfl
  i46:=by kernel_rfl
  i51:=by kernel_rfl
  i53:=by kernel_rfl
  i171:=by kernel_rfl
  i173:=by kernel_rfl
  i212:=by kernel_rfl
  i232:=by kernel_rfl
  i233:=by kernel_rfl
  m17:=by kernel_rfl
  m18:=by kernel_rfl
  m19:=by kernel_rfl }
open Go.RowKit Go.Sort Go.Lib in
theorem Tryz.strconv_Itoa (n : Int) (h0 : -9223372036854775808 ≤ n) (h1 : n ≤ 9223372036854775807) (w : World) (htab : Lib.TabIs Tryz.prog w "internal/strconv.uint64pow10" .u64 Lib.pow10Tab) :
    Calls Tryz.prog 165 #[.int .i64 n] w fun e w'=>e = .returned (.string ⟨(Lib.itoa n).toArray⟩)/\∃ k os,w' = grow (w.drewN k) os:=Any.strconv_Itoa Tryz.laysM171 n h0 h1 w htab
def Tryz.lays171_ren:Go.Shelf.Ren:=⟨fun | 171=>165 | 243=>201 | 246=>212 | 283=>161 | 284=>162 | 285=>163 | 286=>164 | 129=>197 | 317=>196 | 318=>198 | 319=>199 | 320=>200 | 337=>210 | 338=>211 | n=>n,fun | 3=>3 | 9=>9 | 2=>2 | 4=>4 | 171=>226 | 0=>0 | 53=>50 | 37=>120 | 5=>5 | 173=>229 | 212=>256 | 51=>248 | 20=>20 | 213=>257 | 46=>220 | 232=>265 | 233=>266 | n=>n,fun | 17=>2 | 18=>5 | 19=>6 | n=>n⟩
theorem Tryz.lays171:Go.Proofs.Lays.n171 Tryz.prog Tryz.lays171_ren:={
  mixed:=by kernel_rfl
  f129:=Tryz.func197.trans (congrArg some (by kernel_rfl))
  f171:=Tryz.func165.trans (congrArg some (by kernel_rfl))
  f243:=Tryz.func201.trans (congrArg some (by kernel_rfl))
  f246:=Tryz.func212.trans (congrArg some (by kernel_rfl))
  f283:=Tryz.func161.trans (congrArg some (by kernel_rfl))
  f284:=Tryz.func162.trans (congrArg some (by kernel_rfl))
  f285:=Tryz.func163.trans (congrArg some (by kernel_rfl))
  f286:=Tryz.func164.trans (congrArg some (by kernel_rfl))
  f317:=Tryz.func196.trans (congrArg some (by kernel_rfl))
  f318:=Tryz.func198.trans (congrArg some (by kernel_rfl))
  f319:=Tryz.func199.trans (congrArg some (by kernel_rfl))
  f320:=Tryz.func200.trans (congrArg some (by kernel_rfl))
  f337:=Tryz.func210.trans (congrArg some (by kernel_rfl))
  f338:=Tryz.func211.trans (congrArg some (by kernel_rfl))
  t0:=Tryz.underlying0
  a0:=Tryz.isAgg0
  z0:=Tryz.sizeOf0
  v0:=Tryz.zeroValue0
  t2:=Tryz.underlying2
  a2:=Tryz.isAgg2
  z2:=Tryz.sizeOf2
  v2:=Tryz.zeroValue2
  t3:=Tryz.underlying3
  a3:=Tryz.isAgg3
  z3:=Tryz.sizeOf3
  v3:=Tryz.zeroValue3
  t4:=Tryz.underlying4
  a4:=Tryz.isAgg4
  z4:=Tryz.sizeOf4
  v4:=Tryz.zeroValue4
  t5:=Tryz.underlying5
  a5:=Tryz.isAgg5
  z5:=Tryz.sizeOf5
  v5:=Tryz.zeroValue5
  t9:=Tryz.underlying9
  a9:=Tryz.isAgg9
  z9:=Tryz.sizeOf9
  v9:=Tryz.zeroValue9
  t20:=Tryz.underlying20
  a20:=Tryz.isAgg20
  z20:=Tryz.sizeOf20
  v20:=Tryz.zeroValue20
  t37:=Tryz.underlying120
  a37:=Tryz.isAgg120
  z37:=Tryz.sizeOf120
  v37:=Tryz.zeroValue120
  t46:=Tryz.underlying220
  a46:=Tryz.isAgg220
  z46:=Tryz.sizeOf220
  v46:=Tryz.zeroValue220
  t51:=Tryz.underlying248
  a51:=Tryz.isAgg248
  z51:=Tryz.sizeOf248
  v51:=Tryz.zeroValue248
  t53:=Tryz.underlying50
  a53:=Tryz.isAgg50
  z53:=Tryz.sizeOf50
  v53:=Tryz.zeroValue50
  t171:=Tryz.underlying226
  a171:=Tryz.isAgg226
  z171:=Tryz.sizeOf226
  v171:=Tryz.zeroValue226
  t173:=Tryz.underlying229
  a173:=Tryz.isAgg229
  z173:=Tryz.sizeOf229
  v173:=Tryz.zeroValue229
  t212:=Tryz.underlying256
  a212:=Tryz.isAgg256
  z212:=Tryz.sizeOf256
  v212:=Tryz.zeroValue256
  t213:=Tryz.underlying257
  a213:=Tryz.isAgg257
  z213:=Tryz.sizeOf257
  t232:=Tryz.underlying265
  a232:=Tryz.isAgg265
  z232:=Tryz.sizeOf265
  v232:=Tryz.zeroValue265
  t233:=Tryz.underlying266
  a233:=Tryz.isAgg266
  z233:=Tryz.sizeOf266
  v233:=Tryz.zeroValue266
  g17:=by kernel_rfl
  g18:=by kernel_rfl
  g19:=by kernel_rfl }
open Go.RowKit Go.Sort Go.Lib in
theorem Tryz.strconv_Itoa_small (i:Nat) (hi:i<100) (w:World) :
    Calls Tryz.prog 165 #[.int .i64 i] w fun e w'=>e = .returned (.string ⟨(Lib.decDigits i).toArray⟩)/\w' = w:=Any.strconv_Itoa_small Tryz.lays171 i hi w
def Tryz.lays105_ren:Go.Shelf.Ren:=⟨fun | 105=>120 | 212=>156 | 99=>157 | 165=>158 | 166=>122 | 170=>159 | 169=>68 | 263=>191 | 264=>192 | 206=>193 | 240=>160 | 241=>194 | 276=>195 | 277=>209 | n=>n,fun | 9=>9 | 3=>3 | 4=>4 | 20=>20 | 0=>0 | 46=>220 | 109=>221 | 5=>5 | 72=>122 | 76=>181 | 51=>248 | 146=>249 | 53=>50 | 148=>251 | 70=>119 | 37=>120 | 75=>180 | 127=>194 | 164=>253 | 80=>54 | n=>n,fun | n=>n⟩
theorem Tryz.lays105:Go.Proofs.Lays.n105 Tryz.prog Tryz.lays105_ren:={
  mixed:=by kernel_rfl
  f99:=Tryz.func157.trans (congrArg some (by kernel_rfl))
  f105:=Tryz.func120.trans (congrArg some (by kernel_rfl))
  f165:=Tryz.func158.trans (congrArg some (by kernel_rfl))
  f166:=Tryz.func122.trans (congrArg some (by kernel_rfl))
  f169:=Tryz.func68.trans (congrArg some (by kernel_rfl))
  f170:=Tryz.func159.trans (congrArg some (by kernel_rfl))
  f206:=Tryz.func193.trans (congrArg some (by kernel_rfl))
  f212:=Tryz.func156.trans (congrArg some (by kernel_rfl))
  f240:=Tryz.func160.trans (congrArg some (by kernel_rfl))
  f241:=Tryz.func194.trans (congrArg some (by kernel_rfl))
  f263:=Tryz.func191.trans (congrArg some (by kernel_rfl))
  f264:=Tryz.func192.trans (congrArg some (by kernel_rfl))
  f276:=Tryz.func195.trans (congrArg some (by kernel_rfl))
  f277:=Tryz.func209.trans (congrArg some (by kernel_rfl))
  t0:=Tryz.underlying0
  a0:=Tryz.isAgg0
  z0:=Tryz.sizeOf0
  v0:=Tryz.zeroValue0
  t3:=Tryz.underlying3
  a3:=Tryz.isAgg3
  z3:=Tryz.sizeOf3
  v3:=Tryz.zeroValue3
  t4:=Tryz.underlying4
  a4:=Tryz.isAgg4
  z4:=Tryz.sizeOf4
  v4:=Tryz.zeroValue4
  t5:=Tryz.underlying5
  a5:=Tryz.isAgg5
  z5:=Tryz.sizeOf5
  v5:=Tryz.zeroValue5
  t9:=Tryz.underlying9
  a9:=Tryz.isAgg9
  z9:=Tryz.sizeOf9
  v9:=Tryz.zeroValue9
  t20:=Tryz.underlying20
  a20:=Tryz.isAgg20
  z20:=Tryz.sizeOf20
  v20:=Tryz.zeroValue20
  t37:=Tryz.underlying120
  a37:=Tryz.isAgg120
  z37:=Tryz.sizeOf120
  v37:=Tryz.zeroValue120
  t46:=Tryz.underlying220
  a46:=Tryz.isAgg220
  z46:=Tryz.sizeOf220
  v46:=Tryz.zeroValue220
  t51:=Tryz.underlying248
  a51:=Tryz.isAgg248
  z51:=Tryz.sizeOf248
  v51:=Tryz.zeroValue248
  t53:=Tryz.underlying50
  a53:=Tryz.isAgg50
  z53:=Tryz.sizeOf50
  v53:=Tryz.zeroValue50
  t70:=Tryz.underlying119
  a70:=Tryz.isAgg119
  z70:=Tryz.sizeOf119
  v70:=Tryz.zeroValue119
  t72:=Tryz.underlying122
  a72:=Tryz.isAgg122
  z72:=Tryz.sizeOf122
  v72:=Tryz.zeroValue122
  t75:=Tryz.underlying180
  a75:=Tryz.isAgg180
  z75:=Tryz.sizeOf180
  v75:=Tryz.zeroValue180
  t76:=Tryz.underlying181
  a76:=Tryz.isAgg181
  z76:=Tryz.sizeOf181
  v76:=Tryz.zeroValue181
  t109:=Tryz.underlying221
  a109:=Tryz.isAgg221
  z109:=Tryz.sizeOf221
  v109:=Tryz.zeroValue221
  t127:=Tryz.underlying194
  a127:=Tryz.isAgg194
  z127:=Tryz.sizeOf194
  v127:=Tryz.zeroValue194
  t146:=Tryz.underlying249
  a146:=Tryz.isAgg249
  z146:=Tryz.sizeOf249
  v146:=Tryz.zeroValue249
  t148:=Tryz.underlying251
  a148:=Tryz.isAgg251
  z148:=Tryz.sizeOf251
  v148:=Tryz.zeroValue251
  t164:=Tryz.underlying253
  a164:=Tryz.isAgg253
  z164:=Tryz.sizeOf253
  v164:=Tryz.zeroValue253 }
theorem Tryz.Builder_Extra_105:Builder.Extra Tryz.prog Tryz.lays105_ren:={
  sizeBuilder:=by kernel_rfl
  liesBuilder:=by kernel_rfl
  t5:=Tryz.underlying5
  a5:=Tryz.isAgg5
  z5:=Tryz.sizeOf5
  v5:=Tryz.zeroValue5
  infoByte:=by kernel_rfl
  cellsByte:=by kernel_rfl
  sizeByte:=by kernel_rfl
  neB5:=by decide }
open Go.RowKit Go.Lib in
theorem Tryz.strings_Repeat (s:ByteArray) (c:Nat) (w:World) (hc:c<=9223372036854775807) (hlen:s.size * c<=140737488355328) :
    Calls Tryz.prog 120 #[.string s,.int .i64 c] w fun e w'=>e = .returned (.string ⟨(Lib.repeatL s.data.toList c).toArray⟩)/\Below w.heap.size w w':=Any.strings_Repeat Tryz.lays105 Tryz.Builder_Extra_105 s c w hc hlen
end Go.Proofs
end
