/- Part 1 of the proof: what is used of the texts Shelf, ShelfB. -/
import Derived.Shelf.Strings.Builder1
import Derived.Shelf.Strings.Builder2
import Derived.Shelf.Strings.OnBuilder
import Derived.Shelf.Small.Bits
import Derived.Shelf.Small.Strs
import Derived.Shelf.Small.Wraps
import Derived.Shelf.Strings.BuilderF
import Derived.Shelf.Strings.BuilderK
import Derived.Shelf.Strings.Builder2Cap
import Derived.Shelf.Strconv.Itoa0
import Derived.Shelf.Strconv.Itoa1
import Derived.Shelf.LaysM
import Derived.Shelf.Strconv.Itoa2
import Derived.Shelf.Strconv.Itoa3
import Derived.Shelf.Strings.Search1
import Derived.Shelf.Strings.Prefix
import Derived.Shelf.Bits.Mul64
import Derived.Test.YtppdbnccinfegaaGreatDoorProg
import Derived.Shelf.Strings.Repeat
import Derived.Ground.Names2Prog
import Derived.Shelf.Slices.SearchI
import Derived.Shelf.Slices.Empties
section
namespace Go.Proofs
open Go.Shelf
def Tryz.lays169_ren:Go.Shelf.Ren:=⟨fun | 169=>79 | n=>n,fun | 70=>168 | 9=>9 | 0=>0 | 72=>171 | 37=>169 | 127=>288 | 3=>3 | 5=>5 | n=>n,fun | n=>n⟩
theorem Tryz.lays169:Go.Proofs.Lays.n169 Tryz.prog Tryz.lays169_ren:={
  mixed:=by kernel_rfl
  f169:=Tryz.func79.trans (congrArg some (by kernel_rfl))
  t0:=Tryz.underlying0
  a0:=Tryz.isAgg0
  z0:=Tryz.sizeOf0
  v0:=Tryz.zeroValue0
  t3:=Tryz.underlying3
  a3:=Tryz.isAgg3
  z3:=Tryz.sizeOf3
  v3:=Tryz.zeroValue3
  t9:=Tryz.underlying9
  a9:=Tryz.isAgg9
  z9:=Tryz.sizeOf9
  v9:=Tryz.zeroValue9
  t37:=Tryz.underlying169
  a37:=Tryz.isAgg169
  z37:=Tryz.sizeOf169
  v37:=Tryz.zeroValue169
  t70:=Tryz.underlying168
  a70:=Tryz.isAgg168
  z70:=Tryz.sizeOf168
  v70:=Tryz.zeroValue168
  t72:=Tryz.underlying171
  a72:=Tryz.isAgg171
  z72:=Tryz.sizeOf171
  v72:=Tryz.zeroValue171
  t127:=Tryz.underlying288
  a127:=Tryz.isAgg288
  z127:=Tryz.sizeOf288
  v127:=Tryz.zeroValue288 }
theorem Tryz.Builder_Extra_169:Builder.Extra Tryz.prog Tryz.lays169_ren:={
  sizeBuilder:=by kernel_rfl
  liesBuilder:=by kernel_rfl
  t5:=Tryz.underlying5
  a5:=Tryz.isAgg5
  z5:=Tryz.sizeOf5
  v5:=Tryz.zeroValue5
  infoByte:=by kernel_rfl
  cellsByte:=by kernel_rfl
  sizeByte:=by kernel_rfl
  neB5:=by decide }
def Tryz.lays156_ren:Go.Shelf.Ren:=⟨fun | 156=>219 | 165=>253 | 166=>167 | 169=>79 | 240=>255 | 241=>327 | 276=>328 | 277=>355 | n=>n,fun | 31=>152 | 9=>9 | 3=>3 | 4=>4 | 0=>0 | 20=>20 | 72=>171 | 76=>273 | 70=>168 | 37=>169 | 75=>272 | 127=>288 | 164=>418 | 5=>5 | 80=>44 | n=>n,fun | n=>n⟩
theorem Tryz.lays156:Go.Proofs.Lays.n156 Tryz.prog Tryz.lays156_ren:={
  mixed:=by kernel_rfl
  f156:=Tryz.func219.trans (congrArg some (by kernel_rfl))
  f165:=Tryz.func253.trans (congrArg some (by kernel_rfl))
  f166:=Tryz.func167.trans (congrArg some (by kernel_rfl))
  f169:=Tryz.func79.trans (congrArg some (by kernel_rfl))
  f240:=Tryz.func255.trans (congrArg some (by kernel_rfl))
  f241:=Tryz.func327.trans (congrArg some (by kernel_rfl))
  f276:=Tryz.func328.trans (congrArg some (by kernel_rfl))
  f277:=Tryz.func355.trans (congrArg some (by kernel_rfl))
  t0:=Tryz.underlying0
  a0:=Tryz.isAgg0
  z0:=Tryz.sizeOf0
  v0:=Tryz.zeroValue0
  t3:=Tryz.underlying3
  a3:=Tryz.isAgg3
  z3:=Tryz.sizeOf3
  v3:=Tryz.zeroValue3
  t4:=Tryz.underlying4
  a4:=Tryz.isAgg4
  z4:=Tryz.sizeOf4
  v4:=Tryz.zeroValue4
  t9:=Tryz.underlying9
  a9:=Tryz.isAgg9
  z9:=Tryz.sizeOf9
  v9:=Tryz.zeroValue9
  t20:=Tryz.underlying20
  a20:=Tryz.isAgg20
  z20:=Tryz.sizeOf20
  v20:=Tryz.zeroValue20
  t31:=Tryz.underlying152
  a31:=Tryz.isAgg152
  z31:=Tryz.sizeOf152
  v31:=Tryz.zeroValue152
  t37:=Tryz.underlying169
  a37:=Tryz.isAgg169
  z37:=Tryz.sizeOf169
  v37:=Tryz.zeroValue169
  t70:=Tryz.underlying168
  a70:=Tryz.isAgg168
  z70:=Tryz.sizeOf168
  v70:=Tryz.zeroValue168
  t72:=Tryz.underlying171
  a72:=Tryz.isAgg171
  z72:=Tryz.sizeOf171
  v72:=Tryz.zeroValue171
  t75:=Tryz.underlying272
  a75:=Tryz.isAgg272
  z75:=Tryz.sizeOf272
  v75:=Tryz.zeroValue272
  t76:=Tryz.underlying273
  a76:=Tryz.isAgg273
  z76:=Tryz.sizeOf273
  v76:=Tryz.zeroValue273
  t127:=Tryz.underlying288
  a127:=Tryz.isAgg288
  z127:=Tryz.sizeOf288
  v127:=Tryz.zeroValue288
  t164:=Tryz.underlying418
  a164:=Tryz.isAgg418
  z164:=Tryz.sizeOf418
  v164:=Tryz.zeroValue418 }
theorem Tryz.Builder_Extra_156:Builder.Extra Tryz.prog Tryz.lays156_ren:={
  sizeBuilder:=by kernel_rfl
  liesBuilder:=by kernel_rfl
  t5:=Tryz.underlying5
  a5:=Tryz.isAgg5
  z5:=Tryz.sizeOf5
  v5:=Tryz.zeroValue5
  infoByte:=by kernel_rfl
  cellsByte:=by kernel_rfl
  sizeByte:=by kernel_rfl
  neB5:=by decide }
open Go.RowKit in
theorem Tryz.strings_Join (bk o c:Nat) (xs:List ByteArray) (sep:ByteArray) (w:World) (hcells:∀ (j:Nat) x,xs[j]? = some x->w.cell? ⟨bk,o+j,none⟩=some (.string x)) (hbk:bk<w.heap.size) (hN:xs.length<=140737488355328) (hcap:xs.length<=c) (hlen:(Lib.join (xs.map (·.data.toList)) sep.data.toList).length<=140737488355328) :
    Calls Tryz.prog 219 #[.slice (some ⟨bk,o,none⟩) xs.length c,.string sep] w fun e w'=>e = .returned (.string ⟨(Lib.join (xs.map (·.data.toList)) sep.data.toList).toArray⟩)/\Below w.heap.size w w':=Any.strings_Join Tryz.lays156 Tryz.Builder_Extra_156 bk o c xs sep w hcells hbk hN hcap hlen
open Go.RowKit in
theorem Tryz.Builder_String_any_k (B b:Nat) (l:List UInt8) (w:World) (h:Lib.IsBuilderF 171 5 B b (Lib.byteCells l) w) (hBw:B<=w.heap.size) :
    Calls Tryz.prog 79 #[.pointer (some ⟨b,0,none⟩)] w fun e w'=>e = .returned (.string ⟨l.toArray⟩)/\(Lib.IsBuilderF 171 5 B b (Lib.byteCells l) w' /\ Below B w w' /\ Lib.OthersKept 5 (some b) w w'):=Any.Builder_String_any_k Tryz.lays169 Tryz.Builder_Extra_169 B b l w h hBw
def Tryz.lays283_ren:Go.Shelf.Ren:=⟨fun | 283=>256 | n=>n,fun | 3=>3 | 9=>9 | 4=>4 | n=>n,fun | n=>n⟩
theorem Tryz.lays283:Go.Proofs.Lays.n283 Tryz.prog Tryz.lays283_ren:={
  mixed:=by kernel_rfl
  f283:=Tryz.func256.trans (congrArg some (by kernel_rfl))
  t3:=Tryz.underlying3
  a3:=Tryz.isAgg3
  z3:=Tryz.sizeOf3
  v3:=Tryz.zeroValue3
  t4:=Tryz.underlying4
  a4:=Tryz.isAgg4
  z4:=Tryz.sizeOf4
  v4:=Tryz.zeroValue4
  t9:=Tryz.underlying9
  a9:=Tryz.isAgg9
  z9:=Tryz.sizeOf9
  v9:=Tryz.zeroValue9 }
open Go.Lib in
theorem Tryz.internal_strconv_small (i:Nat) (h:i<100) (w:World) :
    Calls Tryz.prog 256 #[.int .i64 i] w fun e w'=>e = .returned (.string ⟨(Lib.decDigits i).toArray⟩)/\w' = w:=Any.internal_strconv_small Tryz.lays283 i h w
def Tryz.laysM284_ren:Go.Shelf.Ren:=⟨fun | 284=>257 | 129=>330 | 317=>329 | 318=>331 | n=>n,fun | 53=>52 | 3=>3 | 212=>421 | 0=>0 | 4=>4 | 46=>336 | 5=>5 | 9=>9 | n=>n,fun | 17=>2 | n=>n⟩
theorem Tryz.laysM284:Go.Proofs.LaysM.n284 Tryz.prog Tryz.laysM284_ren:={
  mixed:=by kernel_rfl
  f129:=Tryz.func330.trans (congrArg some (by kernel_rfl))
  f284:=Tryz.func257.trans (congrArg some (by kernel_rfl))
  f317:=Tryz.func329.trans (congrArg some (by kernel_rfl))
  f318:=Tryz.func331.trans (congrArg some (by kernel_rfl))
  t0:=Tryz.underlying0
  a0:=Tryz.isAgg0
  z0:=Tryz.sizeOf0
  v0:=Tryz.zeroValue0
  t3:=Tryz.underlying3
  a3:=Tryz.isAgg3
  z3:=Tryz.sizeOf3
  v3:=Tryz.zeroValue3
  t4:=Tryz.underlying4
  a4:=Tryz.isAgg4
  z4:=Tryz.sizeOf4
  v4:=Tryz.zeroValue4
  t5:=Tryz.underlying5
  a5:=Tryz.isAgg5
  z5:=Tryz.sizeOf5
  v5:=Tryz.zeroValue5
  t9:=Tryz.underlying9
  a9:=Tryz.isAgg9
  z9:=Tryz.sizeOf9
  v9:=Tryz.zeroValue9
  t46:=Tryz.underlying336
  a46:=Tryz.isAgg336
  z46:=Tryz.sizeOf336
  v46:=Tryz.zeroValue336
  t53:=Tryz.underlying52
  a53:=Tryz.isAgg52
  z53:=Tryz.sizeOf52
  v53:=Tryz.zeroValue52
  t212:=Tryz.underlying421
  a212:=Tryz.isAgg421
  z212:=Tryz.sizeOf421
  v212:=Tryz.zeroValue421
  g17:=by kernel_rfl
  i0:=by kernel_rfl
  i3:=by kernel_rfl
  i4:=by kernel_rfl
  i5:=by kernel_rfl
  i9:=by kernel_rfl
  i46:=by kernel_rfl
  i53:=by kernel_rfl
  i212:=by kernel_rfl
  m17:=by kernel_rfl }
open Go.Lib in
theorem Tryz.internal_strconv_numDigits (u : Nat) (h1 : 1 ≤ u) (h2 : u < 18446744073709551616) (w : World) (htab : Lib.TabIs Tryz.prog w "internal/strconv.uint64pow10" .u64 Lib.pow10Tab) :
    Calls Tryz.prog 257 #[.int .u64 u] w fun e w'=>e = .returned (.int .i64 (Lib.nDigits u))/\w' = w:=Any.internal_strconv_numDigits Tryz.laysM284 u h1 h2 w htab
def Tryz.lays285_ren:Go.Shelf.Ren:=⟨fun | 285=>258 | n=>n,fun | 37=>169 | 53=>52 | 3=>3 | 4=>4 | 51=>413 | 9=>9 | 5=>5 | 0=>0 | n=>n,fun | n=>n⟩
theorem Tryz.lays285:Go.Proofs.Lays.n285 Tryz.prog Tryz.lays285_ren:={
  mixed:=by kernel_rfl
  f285:=Tryz.func258.trans (congrArg some (by kernel_rfl))
  t0:=Tryz.underlying0
  a0:=Tryz.isAgg0
  z0:=Tryz.sizeOf0
  v0:=Tryz.zeroValue0
  t3:=Tryz.underlying3
  a3:=Tryz.isAgg3
  z3:=Tryz.sizeOf3
  v3:=Tryz.zeroValue3
  t4:=Tryz.underlying4
  a4:=Tryz.isAgg4
  z4:=Tryz.sizeOf4
  v4:=Tryz.zeroValue4
  t5:=Tryz.underlying5
  a5:=Tryz.isAgg5
  z5:=Tryz.sizeOf5
  v5:=Tryz.zeroValue5
  t9:=Tryz.underlying9
  a9:=Tryz.isAgg9
  z9:=Tryz.sizeOf9
  v9:=Tryz.zeroValue9
  t37:=Tryz.underlying169
  a37:=Tryz.isAgg169
  z37:=Tryz.sizeOf169
  v37:=Tryz.zeroValue169
  t51:=Tryz.underlying413
  a51:=Tryz.isAgg413
  z51:=Tryz.sizeOf413
  v51:=Tryz.zeroValue413
  t53:=Tryz.underlying52
  a53:=Tryz.isAgg52
  z53:=Tryz.sizeOf52
  v53:=Tryz.zeroValue52 }
open Go.RowKit Go.Sort Go.Lib in
theorem Tryz.internal_strconv_formatBase10 (blk off cap:Nat) (u:Nat) (d:Array UInt8) (w:World) (hH:Holds (fun (b:UInt8)=>Value.int .u8 (b.toNat:Int)) w blk off d) (hu:u<10 ^ d.size) (hu64:u<18446744073709551616) (hsz:d.size<4611686018427387904) :
    Calls Tryz.prog 258 #[.slice (some ⟨blk,off,none⟩) d.size cap,.int .u64 u] w fun e w' =>
      e = .returned (.tuple #[])/\∃ (n v':Nat) (dk:Array UInt8),w' = (putRow (fun (b:UInt8)=>Value.int .u8 (b.toNat:Int)) w blk off dk).drewN n/\FmtInv d.size u 0 v' dk:=Any.internal_strconv_formatBase10 Tryz.lays285 blk off cap u d w hH hu hu64 hsz
def Tryz.laysM246_ren:Go.Shelf.Ren:=⟨fun | 246=>344 | 283=>256 | 284=>257 | 285=>258 | 286=>259 | 129=>330 | 317=>329 | 318=>331 | 319=>332 | 320=>333 | 337=>356 | 338=>357 | n=>n,fun | 2=>2 | 3=>3 | 9=>9 | 4=>4 | 171=>363 | 0=>0 | 53=>52 | 37=>169 | 5=>5 | 173=>366 | 212=>421 | 51=>413 | 20=>20 | 213=>422 | 46=>336 | 232=>453 | 233=>454 | n=>n,fun | 17=>2 | 18=>5 | 19=>6 | n=>n⟩
def Tryz.laysM243_ren:Go.Shelf.Ren:=⟨fun | 243=>291 | 246=>344 | 283=>256 | 284=>257 | 285=>258 | 286=>259 | 129=>330 | 317=>329 | 318=>331 | 319=>332 | 320=>333 | 337=>356 | 338=>357 | n=>n,fun | 3=>3 | 9=>9 | 2=>2 | 4=>4 | 171=>363 | 0=>0 | 53=>52 | 37=>169 | 5=>5 | 173=>366 | 212=>421 | 51=>413 | 20=>20 | 213=>422 | 46=>336 | 232=>453 | 233=>454 | n=>n,fun | 17=>2 | 18=>5 | 19=>6 | n=>n⟩
def Tryz.laysM171_ren:Go.Shelf.Ren:=⟨fun | 171=>218 | 243=>291 | 246=>344 | 283=>256 | 284=>257 | 285=>258 | 286=>259 | 129=>330 | 317=>329 | 318=>331 | 319=>332 | 320=>333 | 337=>356 | 338=>357 | n=>n,fun | 3=>3 | 9=>9 | 2=>2 | 4=>4 | 171=>363 | 0=>0 | 53=>52 | 37=>169 | 5=>5 | 173=>366 | 212=>421 | 51=>413 | 20=>20 | 213=>422 | 46=>336 | 232=>453 | 233=>454 | n=>n,fun | 17=>2 | 18=>5 | 19=>6 | n=>n⟩
theorem Tryz.laysM171:Go.Proofs.LaysM.n171 Tryz.prog Tryz.laysM171_ren:={
  mixed:=by kernel_rfl
  f129:=Tryz.func330.trans (congrArg some (by kernel_rfl))
  f171:=Tryz.func218.trans (congrArg some (by kernel_rfl))
  f243:=Tryz.func291.trans (congrArg some (by kernel_rfl))
  f246:=Tryz.func344.trans (congrArg some (by kernel_rfl))
  f283:=Tryz.func256.trans (congrArg some (by kernel_rfl))
  f284:=Tryz.func257.trans (congrArg some (by kernel_rfl))
  f285:=Tryz.func258.trans (congrArg some (by kernel_rfl))
  f286:=Tryz.func259.trans (congrArg some (by kernel_rfl))
  f317:=Tryz.func329.trans (congrArg some (by kernel_rfl))
  f318:=Tryz.func331.trans (congrArg some (by kernel_rfl))
  f319:=Tryz.func332.trans (congrArg some (by kernel_rfl))
  f320:=Tryz.func333.trans (congrArg some (by kernel_rfl))
  f337:=Tryz.func356.trans (congrArg some (by kernel_rfl))
  f338:=Tryz.func357.trans (congrArg some (by kernel_rfl))
  t0:=Tryz.underlying0
  a0:=Tryz.isAgg0
  z0:=Tryz.sizeOf0
  v0:=Tryz.zeroValue0
  t2:=Tryz.underlying2
  a2:=Tryz.isAgg2
  z2:=Tryz.sizeOf2
  v2:=Tryz.zeroValue2
  t3:=Tryz.underlying3
  a3:=Tryz.isAgg3
  z3:=Tryz.sizeOf3
  v3:=Tryz.zeroValue3
  t4:=Tryz.underlying4
  a4:=Tryz.isAgg4
  z4:=Tryz.sizeOf4
  v4:=Tryz.zeroValue4
  t5:=Tryz.underlying5
  a5:=Tryz.isAgg5
  z5:=Tryz.sizeOf5
  v5:=Tryz.zeroValue5
  t9:=Tryz.underlying9
  a9:=Tryz.isAgg9
  z9:=Tryz.sizeOf9
  v9:=Tryz.zeroValue9
  t20:=Tryz.underlying20
  a20:=Tryz.isAgg20
  z20:=Tryz.sizeOf20
  v20:=Tryz.zeroValue20
  t37:=Tryz.underlying169
  a37:=Tryz.isAgg169
  z37:=Tryz.sizeOf169
  v37:=Tryz.zeroValue169
  t46:=Tryz.underlying336
  a46:=Tryz.isAgg336
  z46:=Tryz.sizeOf336
  v46:=Tryz.zeroValue336
  t51:=Tryz.underlying413
  a51:=Tryz.isAgg413
  z51:=Tryz.sizeOf413
  v51:=Tryz.zeroValue413
  t53:=Tryz.underlying52
  a53:=Tryz.isAgg52
  z53:=Tryz.sizeOf52
  v53:=Tryz.zeroValue52
  t171:=Tryz.underlying363
  a171:=Tryz.isAgg363
  z171:=Tryz.sizeOf363
  v171:=Tryz.zeroValue363
  t173:=Tryz.underlying366
  a173:=Tryz.isAgg366
  z173:=Tryz.sizeOf366
  v173:=Tryz.zeroValue366
  t212:=Tryz.underlying421
  a212:=Tryz.isAgg421
  z212:=Tryz.sizeOf421
  v212:=Tryz.zeroValue421
  t213:=Tryz.underlying422
  a213:=Tryz.isAgg422
  z213:=Tryz.sizeOf422
  t232:=Tryz.underlying453
  a232:=Tryz.isAgg453
  z232:=Tryz.sizeOf453
  v232:=Tryz.zeroValue453
  t233:=Tryz.underlying454
  a233:=Tryz.isAgg454
  z233:=Tryz.sizeOf454
  v233:=Tryz.zeroValue454
  g17:=by kernel_rfl
  g18:=by kernel_rfl
  g19:=by kernel_rfl
  i0:=by kernel_rfl
  i2:=by kernel_rfl
  i3:=by kernel_rfl
  i4:=by kernel_rfl
  i5:=by kernel_rfl
  i9:=by kernel_rfl
  i20:=by kernel_rfl
  i37:=by kernel_rfl
  i46:=by kernel_rfl
  i51:=by kernel_rfl
  i53:=by kernel_rfl
  i171:=by kernel_rfl
  i173:=by kernel_rfl
  i212:=by kernel_rfl
  i232:=by kernel_rfl
  i233:=by kernel_rfl
  m17:=by kernel_rfl
  m18:=by kernel_rfl
  m19:=by kernel_rfl }
open Go.RowKit Go.Sort Go.Lib in
theorem Tryz.strconv_Itoa (n : Int) (h0 : -9223372036854775808 ≤ n) (h1 : n ≤ 9223372036854775807) (w : World) (htab : Lib.TabIs Tryz.prog w "internal/strconv.uint64pow10" .u64 Lib.pow10Tab) :
    Calls Tryz.prog 218 #[.int .i64 n] w fun e w'=>e = .returned (.string ⟨(Lib.itoa n).toArray⟩)/\∃ k os,w' = grow (w.drewN k) os:=Any.strconv_Itoa Tryz.laysM171 n h0 h1 w htab
def Tryz.lays171_ren:Go.Shelf.Ren:=⟨fun | 171=>218 | 243=>291 | 246=>344 | 283=>256 | 284=>257 | 285=>258 | 286=>259 | 129=>330 | 317=>329 | 318=>331 | 319=>332 | 320=>333 | 337=>356 | 338=>357 | n=>n,fun | 3=>3 | 9=>9 | 2=>2 | 4=>4 | 171=>363 | 0=>0 | 53=>52 | 37=>169 | 5=>5 | 173=>366 | 212=>421 | 51=>413 | 20=>20 | 213=>422 | 46=>336 | 232=>453 | 233=>454 | n=>n,fun | 17=>2 | 18=>5 | 19=>6 | n=>n⟩
theorem Tryz.lays171:Go.Proofs.Lays.n171 Tryz.prog Tryz.lays171_ren:={
  mixed:=by kernel_rfl
  f129:=Tryz.func330.trans (congrArg some (by kernel_rfl))
  f171:=Tryz.func218.trans (congrArg some (by kernel_rfl))
  f243:=Tryz.func291.trans (congrArg some (by kernel_rfl))
  f246:=Tryz.func344.trans (congrArg some (by kernel_rfl))
  f283:=Tryz.func256.trans (congrArg some (by kernel_rfl))
  f284:=Tryz.func257.trans (congrArg some (by kernel_rfl))
  f285:=Tryz.func258.trans (congrArg some (by kernel_rfl))
  f286:=Tryz.func259.trans (congrArg some (by kernel_rfl))
  f317:=Tryz.func329.trans (congrArg some (by kernel_rfl))
  f318:=Tryz.func331.trans (congrArg some (by kernel_rfl))
  f319:=Tryz.func332.trans (congrArg some (by kernel_rfl))
  f320:=Tryz.func333.trans (congrArg some (by kernel_rfl))
  f337:=Tryz.func356.trans (congrArg some (by kernel_rfl))
  f338:=Tryz.func357.trans (congrArg some (by kernel_rfl))
  t0:=Tryz.underlying0
  a0:=Tryz.isAgg0
  z0:=Tryz.sizeOf0
  v0:=Tryz.zeroValue0
  t2:=Tryz.underlying2
  a2:=Tryz.isAgg2
  z2:=Tryz.sizeOf2
  v2:=Tryz.zeroValue2
  t3:=Tryz.underlying3
  a3:=Tryz.isAgg3
  z3:=Tryz.sizeOf3
  v3:=Tryz.zeroValue3
  t4:=Tryz.underlying4
  a4:=Tryz.isAgg4
  z4:=Tryz.sizeOf4
  v4:=Tryz.zeroValue4
  t5:=Tryz.underlying5
  a5:=Tryz.isAgg5
  z5:=Tryz.sizeOf5
  v5:=Tryz.zeroValue5
  t9:=Tryz.underlying9
  a9:=Tryz.isAgg9
  z9:=Tryz.sizeOf9
  v9:=Tryz.zeroValue9
  t20:=Tryz.underlying20
  a20:=Tryz.isAgg20
  z20:=Tryz.sizeOf20
  v20:=Tryz.zeroValue20
  t37:=Tryz.underlying169
  a37:=Tryz.isAgg169
  z37:=Tryz.sizeOf169
  v37:=Tryz.zeroValue169
  t46:=Tryz.underlying336
  a46:=Tryz.isAgg336
  z46:=Tryz.sizeOf336
  v46:=Tryz.zeroValue336
  t51:=Tryz.underlying413
  a51:=Tryz.isAgg413
  z51:=Tryz.sizeOf413
  v51:=Tryz.zeroValue413
  t53:=Tryz.underlying52
  a53:=Tryz.isAgg52
  z53:=Tryz.sizeOf52
  v53:=Tryz.zeroValue52
  t171:=Tryz.underlying363
  a171:=Tryz.isAgg363
  z171:=Tryz.sizeOf363
  v171:=Tryz.zeroValue363
  t173:=Tryz.underlying366
  a173:=Tryz.isAgg366
  z173:=Tryz.sizeOf366
  v173:=Tryz.zeroValue366
  t212:=Tryz.underlying421
  a212:=Tryz.isAgg421
  z212:=Tryz.sizeOf421
  v212:=Tryz.zeroValue421
  t213:=Tryz.underlying422
  a213:=Tryz.isAgg422
  z213:=Tryz.sizeOf422
  t232:=Tryz.underlying453
  a232:=Tryz.isAgg453
  z232:=Tryz.sizeOf453
  v232:=Tryz.zeroValue453
  t233:=Tryz.underlying454
  a233:=Tryz.isAgg454
  z233:=Tryz.sizeOf454
  v233:=Tryz.zeroValue454
  g17:=by kernel_rfl
  g18:=by kernel_rfl
  g19:=by kernel_rfl }
open Go.RowKit Go.Sort Go.Lib in
theorem Tryz.strconv_Itoa_small (i:Nat) (hi:i<100) (w:World) :
    Calls Tryz.prog 218 #[.int .i64 i] w fun e w'=>e = .returned (.string ⟨(Lib.decDigits i).toArray⟩)/\w' = w:=Any.strconv_Itoa_small Tryz.lays171 i hi w
end Go.Proofs
end
section
namespace Go.Proofs
open Go.Shelf
open Go.RowKit in
open Go.RowKit in
open Go.RowKit in
open Go.RowKit in
open Go.RowKit in
open Go.RowKit in
open Go.RowKit in
open Go.RowKit in
open Go.RowKit in
open Go.RowKit in
open Go.RowKit in
open Go.RowKit in
open Go.RowKit in
open Go.RowKit in
open Go.RowKit in
open Go.RowKit in
open Go.RowKit in
open Go.RowKit in
open Go.RowKit in
open Go.Lib in
open Go.Lib in
open Go.Lib in
open Go.Lib in
open Go.RowKit Go.Sort Go.Lib in
open Go.RowKit Go.Sort Go.Lib in
open Go.RowKit Go.Sort Go.Lib in
open Go.RowKit Go.Sort Go.Lib in
open Go.RowKit Go.Sort Go.Lib in
open Go.RowKit Go.Sort Go.Lib in
open Go.RowKit Go.Sort Go.Lib in
open Go.RowKit Go.Lib in
open Go.RowKit Go.Lib in
open Go.RowKit Go.Lib in
open Go.RowKit Go.Lib in
open Go.RowKit Go.Lib in
def Tryz.lays105_ren:Go.Shelf.Ren:=⟨fun | 105=>165 | 212=>251 | 99=>252 | 165=>253 | 166=>167 | 170=>254 | 169=>79 | 263=>324 | 264=>325 | 206=>326 | 240=>255 | 241=>327 | 276=>328 | 277=>355 | n=>n,fun | 9=>9 | 3=>3 | 4=>4 | 20=>20 | 0=>0 | 46=>336 | 109=>359 | 5=>5 | 72=>171 | 76=>273 | 51=>413 | 146=>414 | 53=>52 | 148=>416 | 70=>168 | 37=>169 | 75=>272 | 127=>288 | 164=>418 | 80=>44 | n=>n,fun | n=>n⟩
theorem Tryz.lays105:Go.Proofs.Lays.n105 Tryz.prog Tryz.lays105_ren:={
  mixed:=by kernel_rfl
  f99:=Tryz.func252.trans (congrArg some (by kernel_rfl))
  f105:=Tryz.func165.trans (congrArg some (by kernel_rfl))
  f165:=Tryz.func253.trans (congrArg some (by kernel_rfl))
  f166:=Tryz.func167.trans (congrArg some (by kernel_rfl))
  f169:=Tryz.func79.trans (congrArg some (by kernel_rfl))
  f170:=Tryz.func254.trans (congrArg some (by kernel_rfl))
  f206:=Tryz.func326.trans (congrArg some (by kernel_rfl))
  f212:=Tryz.func251.trans (congrArg some (by kernel_rfl))
  f240:=Tryz.func255.trans (congrArg some (by kernel_rfl))
  f241:=Tryz.func327.trans (congrArg some (by kernel_rfl))
  f263:=Tryz.func324.trans (congrArg some (by kernel_rfl))
  f264:=Tryz.func325.trans (congrArg some (by kernel_rfl))
  f276:=Tryz.func328.trans (congrArg some (by kernel_rfl))
  f277:=Tryz.func355.trans (congrArg some (by kernel_rfl))
  t0:=Tryz.underlying0
  a0:=Tryz.isAgg0
  z0:=Tryz.sizeOf0
  v0:=Tryz.zeroValue0
  t3:=Tryz.underlying3
  a3:=Tryz.isAgg3
  z3:=Tryz.sizeOf3
  v3:=Tryz.zeroValue3
  t4:=Tryz.underlying4
  a4:=Tryz.isAgg4
  z4:=Tryz.sizeOf4
  v4:=Tryz.zeroValue4
  t5:=Tryz.underlying5
  a5:=Tryz.isAgg5
  z5:=Tryz.sizeOf5
  v5:=Tryz.zeroValue5
  t9:=Tryz.underlying9
  a9:=Tryz.isAgg9
  z9:=Tryz.sizeOf9
  v9:=Tryz.zeroValue9
  t20:=Tryz.underlying20
  a20:=Tryz.isAgg20
  z20:=Tryz.sizeOf20
  v20:=Tryz.zeroValue20
  t37:=Tryz.underlying169
  a37:=Tryz.isAgg169
  z37:=Tryz.sizeOf169
  v37:=Tryz.zeroValue169
  t46:=Tryz.underlying336
  a46:=Tryz.isAgg336
  z46:=Tryz.sizeOf336
  v46:=Tryz.zeroValue336
  t51:=Tryz.underlying413
  a51:=Tryz.isAgg413
  z51:=Tryz.sizeOf413
  v51:=Tryz.zeroValue413
  t53:=Tryz.underlying52
  a53:=Tryz.isAgg52
  z53:=Tryz.sizeOf52
  v53:=Tryz.zeroValue52
  t70:=Tryz.underlying168
  a70:=Tryz.isAgg168
  z70:=Tryz.sizeOf168
  v70:=Tryz.zeroValue168
  t72:=Tryz.underlying171
  a72:=Tryz.isAgg171
  z72:=Tryz.sizeOf171
  v72:=Tryz.zeroValue171
  t75:=Tryz.underlying272
  a75:=Tryz.isAgg272
  z75:=Tryz.sizeOf272
  v75:=Tryz.zeroValue272
  t76:=Tryz.underlying273
  a76:=Tryz.isAgg273
  z76:=Tryz.sizeOf273
  v76:=Tryz.zeroValue273
  t109:=Tryz.underlying359
  a109:=Tryz.isAgg359
  z109:=Tryz.sizeOf359
  v109:=Tryz.zeroValue359
  t127:=Tryz.underlying288
  a127:=Tryz.isAgg288
  z127:=Tryz.sizeOf288
  v127:=Tryz.zeroValue288
  t146:=Tryz.underlying414
  a146:=Tryz.isAgg414
  z146:=Tryz.sizeOf414
  v146:=Tryz.zeroValue414
  t148:=Tryz.underlying416
  a148:=Tryz.isAgg416
  z148:=Tryz.sizeOf416
  v148:=Tryz.zeroValue416
  t164:=Tryz.underlying418
  a164:=Tryz.isAgg418
  z164:=Tryz.sizeOf418
  v164:=Tryz.zeroValue418 }
theorem Tryz.Builder_Extra_105:Builder.Extra Tryz.prog Tryz.lays105_ren:={
  sizeBuilder:=by kernel_rfl
  liesBuilder:=by kernel_rfl
  t5:=Tryz.underlying5
  a5:=Tryz.isAgg5
  z5:=Tryz.sizeOf5
  v5:=Tryz.zeroValue5
  infoByte:=by kernel_rfl
  cellsByte:=by kernel_rfl
  sizeByte:=by kernel_rfl
  neB5:=by decide }
open Go.RowKit Go.Lib in
theorem Tryz.strings_Repeat (s:ByteArray) (c:Nat) (w:World) (hc:c<=9223372036854775807) (hlen:s.size * c<=140737488355328) :
    Calls Tryz.prog 165 #[.string s,.int .i64 c] w fun e w'=>e = .returned (.string ⟨(Lib.repeatL s.data.toList c).toArray⟩)/\Below w.heap.size w w':=Any.strings_Repeat Tryz.lays105 Tryz.Builder_Extra_105 s c w hc hlen
end Go.Proofs
end
