
/-
 Texts joined: Shelf TextNumber KPure.
-/
import Derived.Shelf.Strings.Builder1
import Derived.Shelf.Strings.Builder2
import Derived.Shelf.Small.Utf8
import Derived.Shelf.Small.Strs
import Derived.Shelf.Small.Wraps
import Derived.Shelf.Strings.BuilderF
import Derived.Shelf.Strings.BuilderK
import Derived.Shelf.Strings.Builder2Cap
import Derived.Shelf.Strconv.Atoi
import Derived.Shelf.Strconv.Itoa0
import Derived.Shelf.Strconv.Itoa1
import Derived.Shelf.LaysM
import Derived.Shelf.Strconv.Itoa2
import Derived.Shelf.Strconv.Itoa3
import Derived.Shelf.Strconv.AtoiErrFast
import Derived.Shelf.Strconv.ParseIntEmpty
import Derived.Shelf.Strconv.AtoiFail
import Derived.Shelf.Strconv.Clone
import Derived.Shelf.Strconv.SyntaxError
import Derived.Shelf.LaysC
import Derived.Shelf.Strconv.ToError
import Derived.Shelf.Strconv.AtoiErr
import Derived.Shelf.Strconv.Lower
import Derived.Shelf.Strconv.ParseUint10
import Derived.Shelf.Strconv.ParseUint10Empty
import Derived.Shelf.Strconv.ParseUint10Any
import Derived.Shelf.Strconv.ParseInt10
import Derived.Shelf.Strconv.AtoiLong
import Derived.Shelf.Strconv.AtoiInnerAll
import Derived.Shelf.Strconv.RangeError
import Derived.Shelf.Strconv.ToErrorRange
import Derived.Shelf.Strconv.AtoiAll
import Derived.Shelf.Strconv.ErrVarAll
import Derived.Shelf.Strings.Search1
import Derived.Shelf.Strings.Prefix
import Derived.Shelf.Strings.Runes
import Derived.Shelf.Bits.Mul64
import Derived.Shelf.Strings.Repeat
import Derived.Shelf.Unicode.DecodeSlow
import Derived.Shelf.Unicode.DecodeAny
import Derived.Shelf.Strings.BuilderCap
import Derived.Shelf.Slices.Reverse
import Derived.Shelf.Slices.Equal
import Derived.Shelf.Slices.Cells
import Derived.Shelf.Slices.Empties2
import Derived.Test.YtfgelheiknmjgaaGreatDoorProg
import Derived.Test.YtfgelheiknmjgaaGreatDoorZs1
import Derived.WalkSmall
import Derived.Lib.AppendIntMem
import Derived.Lib.AtoiErrMem
import Derived.Test.YtfgelheiknmjgaaGreatDoorZs2
namespace Go.Proofs
open Go.Shelf
def Tryz.lays169_ren:Go.Shelf.Ren:=⟨fun | 169 => 34 | n => n,fun | 70 => 72 | 9 => 9 | 0 => 0 | 72 => 75 | 37 => 73 | 127 => 121 | 3 => 3 | 5 => 5 | n => n,fun | n => n⟩
theorem Tryz.lays169:Go.Proofs.Lays.n169 Tryz.prog Tryz.lays169_ren:={
 mixed:=by kernel_rfl
 f169:=Tryz.func34.trans (congrArg some (by kernel_rfl))
 t0:=Tryz.underlying0
 a0:=Tryz.isAgg0
 z0:=Tryz.sizeOf0
 v0:=Tryz.zeroValue0
 t3:=Tryz.underlying3
 a3:=Tryz.isAgg3
 z3:=Tryz.sizeOf3
 v3:=Tryz.zeroValue3
 t9:=Tryz.underlying9
 a9:=Tryz.isAgg9
 z9:=Tryz.sizeOf9
 v9:=Tryz.zeroValue9
 t37:=Tryz.underlying73
 a37:=Tryz.isAgg73
 z37:=Tryz.sizeOf73
 v37:=Tryz.zeroValue73
 t70:=Tryz.underlying72
 a70:=Tryz.isAgg72
 z70:=Tryz.sizeOf72
 v70:=Tryz.zeroValue72
 t72:=Tryz.underlying75
 a72:=Tryz.isAgg75
 z72:=Tryz.sizeOf75
 v72:=Tryz.zeroValue75
 t127:=Tryz.underlying121
 a127:=Tryz.isAgg121
 z127:=Tryz.sizeOf121
 v127:=Tryz.zeroValue121 }
theorem Tryz.Builder_Extra_169:Builder.Extra Tryz.prog Tryz.lays169_ren:={
 sizeBuilder:=by kernel_rfl
 liesBuilder:=by kernel_rfl
 t5:=Tryz.underlying5
 a5:=Tryz.isAgg5
 z5:=Tryz.sizeOf5
 v5:=Tryz.zeroValue5
 infoByte:=by kernel_rfl
 cellsByte:=by kernel_rfl
 sizeByte:=by kernel_rfl
 neB5:=by decide }
def Tryz.lays119_ren:Go.Shelf.Ren:=⟨fun | 119 => 193 | n => n,fun | 21 => 21 | 4 => 4 | n => n,fun | n => n⟩
def Tryz.lays106_ren:Go.Shelf.Ren:=⟨fun | 106 => 222 | 213 => 241 | 265 => 266 | n => n,fun | 9 => 9 | 3 => 3 | n => n,fun | n => n⟩
theorem Tryz.lays106:Go.Proofs.Lays.n106 Tryz.prog Tryz.lays106_ren:={
 mixed:=by kernel_rfl
 f106:=Tryz.func222.trans (congrArg some (by kernel_rfl))
 f213:=Tryz.func241.trans (congrArg some (by kernel_rfl))
 f265:=Tryz.func266.trans (congrArg some (by kernel_rfl))
 t3:=Tryz.underlying3
 a3:=Tryz.isAgg3
 z3:=Tryz.sizeOf3
 v3:=Tryz.zeroValue3
 t9:=Tryz.underlying9
 a9:=Tryz.isAgg9
 z9:=Tryz.sizeOf9
 v9:=Tryz.zeroValue9 }
open Go.RowKit in
theorem Tryz.strings_Compare (a b:ByteArray) (w:World) :
  Calls Tryz.prog 222 #[.string a,.string b] w fun e w' => e = .returned (.int .i64 (Lib.compareBytes a.data.toList b.data.toList)) ∧ w' = w:=Any.strings_Compare Tryz.lays106 a b w
def Tryz.lays137_ren:Go.Shelf.Ren:=⟨fun | 137 => 192 | 217 => 228 | 266 => 246 | n => n,fun | 9 => 9 | 5 => 5 | 3 => 3 | n => n,fun | n => n⟩
def Tryz.lays122_ren:Go.Shelf.Ren:=⟨fun | 122 => 220 | 215 => 240 | n => n,fun | 3 => 3 | 4 => 4 | n => n,fun | n => n⟩
theorem Tryz.lays122:Go.Proofs.Lays.n122 Tryz.prog Tryz.lays122_ren:={
 mixed:=by kernel_rfl
 f122:=Tryz.func220.trans (congrArg some (by kernel_rfl))
 f215:=Tryz.func240.trans (congrArg some (by kernel_rfl))
 t3:=Tryz.underlying3
 a3:=Tryz.isAgg3
 z3:=Tryz.sizeOf3
 v3:=Tryz.zeroValue3
 t4:=Tryz.underlying4
 a4:=Tryz.isAgg4
 z4:=Tryz.sizeOf4
 v4:=Tryz.zeroValue4 }
open Go.RowKit in
theorem Tryz.cmp_Compare_int (x y:Int) (w:World) :
  Calls Tryz.prog 220 #[.int .i64 x,.int .i64 y] w fun e w' => e = .returned (.int .i64 (Lib.compareInt x y)) ∧ w' = w:=Any.cmp_Compare_int Tryz.lays122 x y w
open Go.RowKit in
theorem Tryz.Builder_String_any_k (B b:Nat) (l:List UInt8) (w:World) (h:Lib.IsBuilderF 75 5 B b (Lib.byteCells l) w) (hBw:B ≤ w.heap.size) :
  Calls Tryz.prog 34 #[.pointer (some ⟨b,0,none⟩)] w fun e w' => e = .returned (.string ⟨l.toArray⟩) ∧ (Lib.IsBuilderF 75 5 B b (Lib.byteCells l) w' ∧ Below B w w' ∧ Lib.OthersKept 5 (some b) w w'):=Any.Builder_String_any_k Tryz.lays169 Tryz.Builder_Extra_169 B b l w h hBw
def Tryz.laysM171_ren:Go.Shelf.Ren:=⟨fun | 171 => 173 | 243 => 206 | 246 => 236 | 283 => 262 | 284 => 263 | 285 => 264 | 286 => 265 | 129 => 277 | 317 => 276 | 318 => 278 | 319 => 279 | 320 => 280 | 337 => 283 | 338 => 284 | n => n,fun | 3 => 3 | 9 => 9 | 2 => 2 | 4 => 4 | 171 => 264 | 0 => 0 | 53 => 251 | 37 => 73 | 5 => 5 | 173 => 267 | 212 => 278 | 51 => 248 | 20 => 20 | 213 => 279 | 46 => 211 | 232 => 285 | 233 => 286 | n => n,fun | 17 => 5 | 18 => 6 | 19 => 7 | n => n⟩
theorem Tryz.laysM171:Go.Proofs.LaysM.n171 Tryz.prog Tryz.laysM171_ren:={
 mixed:=by kernel_rfl
 f129:=Tryz.func277.trans (congrArg some (by kernel_rfl))
 f171:=Tryz.func173.trans (congrArg some (by kernel_rfl))
 f243:=Tryz.func206.trans (congrArg some (by kernel_rfl))
 f246:=Tryz.func236.trans (congrArg some (by kernel_rfl))
 f283:=Tryz.func262.trans (congrArg some (by kernel_rfl))
 f284:=Tryz.func263.trans (congrArg some (by kernel_rfl))
 f285:=Tryz.func264.trans (congrArg some (by kernel_rfl))
 f286:=Tryz.func265.trans (congrArg some (by kernel_rfl))
 f317:=Tryz.func276.trans (congrArg some (by kernel_rfl))
 f318:=Tryz.func278.trans (congrArg some (by kernel_rfl))
 f319:=Tryz.func279.trans (congrArg some (by kernel_rfl))
 f320:=Tryz.func280.trans (congrArg some (by kernel_rfl))
 f337:=Tryz.func283.trans (congrArg some (by kernel_rfl))
 f338:=Tryz.func284.trans (congrArg some (by kernel_rfl))
 t0:=Tryz.underlying0
 a0:=Tryz.isAgg0
 z0:=Tryz.sizeOf0
 v0:=Tryz.zeroValue0
 t2:=Tryz.underlying2
 a2:=Tryz.isAgg2
 z2:=Tryz.sizeOf2
 v2:=Tryz.zeroValue2
 t3:=Tryz.underlying3
 a3:=Tryz.isAgg3
 z3:=Tryz.sizeOf3
 v3:=Tryz.zeroValue3
 t4:=Tryz.underlying4
 a4:=Tryz.isAgg4
 z4:=Tryz.sizeOf4
 v4:=Tryz.zeroValue4
 t5:=Tryz.underlying5
 a5:=Tryz.isAgg5
 z5:=Tryz.sizeOf5
 v5:=Tryz.zeroValue5
 t9:=Tryz.underlying9
 a9:=Tryz.isAgg9
 z9:=Tryz.sizeOf9
 v9:=Tryz.zeroValue9
 t20:=Tryz.underlying20
 a20:=Tryz.isAgg20
 z20:=Tryz.sizeOf20
 v20:=Tryz.zeroValue20
 t37:=Tryz.underlying73
 a37:=Tryz.isAgg73
 z37:=Tryz.sizeOf73
 v37:=Tryz.zeroValue73
 t46:=Tryz.underlying211
 a46:=Tryz.isAgg211
 z46:=Tryz.sizeOf211
 v46:=Tryz.zeroValue211
 t51:=Tryz.underlying248
 a51:=Tryz.isAgg248
 z51:=Tryz.sizeOf248
 v51:=Tryz.zeroValue248
 t53:=Tryz.underlying251
 a53:=Tryz.isAgg251
 z53:=Tryz.sizeOf251
 v53:=Tryz.zeroValue251
 t171:=Tryz.underlying264
 a171:=Tryz.isAgg264
 z171:=Tryz.sizeOf264
 v171:=Tryz.zeroValue264
 t173:=Tryz.underlying267
 a173:=Tryz.isAgg267
 z173:=Tryz.sizeOf267
 v173:=Tryz.zeroValue267
 t212:=Tryz.underlying278
 a212:=Tryz.isAgg278
 z212:=Tryz.sizeOf278
 v212:=Tryz.zeroValue278
 t213:=Tryz.underlying279
 a213:=Tryz.isAgg279
 z213:=Tryz.sizeOf279
 t232:=Tryz.underlying285
 a232:=Tryz.isAgg285
 z232:=Tryz.sizeOf285
 v232:=Tryz.zeroValue285
 t233:=Tryz.underlying286
 a233:=Tryz.isAgg286
 z233:=Tryz.sizeOf286
 v233:=Tryz.zeroValue286
 g17:=by kernel_rfl
 g18:=by kernel_rfl
 g19:=by kernel_rfl
 i0:=by kernel_rfl
 i2:=by kernel_rfl
 i3:=by kernel_rfl
 i4:=by kernel_rfl
 i5:=by kernel_rfl
 i9:=by kernel_rfl
 i20:=by kernel_rfl
 i37:=by kernel_rfl
 i46:=by kernel_rfl
 i51:=by kernel_rfl
 i53:=by kernel_rfl
 i171:=by kernel_rfl
 i173:=by kernel_rfl
 i212:=by kernel_rfl
 i232:=by kernel_rfl
 i233:=by kernel_rfl
 m17:=by kernel_rfl
 m18:=by kernel_rfl
 m19:=by kernel_rfl }
open Go.RowKit Go.Sort Go.Lib in
theorem Tryz.strconv_Itoa (n:Int) (h0 : -9223372036854775808 ≤ n) (h1:n ≤ 9223372036854775807) (w:World) (htab:Lib.TabIs Tryz.prog w "internal/strconv.uint64pow10" .u64 Lib.pow10Tab) :
  Calls Tryz.prog 173 #[.int .i64 n] w fun e w' => e = .returned (.string ⟨(Lib.itoa n).toArray⟩) ∧ ∃ k os,w' = grow (w.drewN k) os:=Any.strconv_Itoa Tryz.laysM171 n h0 h1 w htab
def Tryz.laysC172_ren:Go.Shelf.Ren:=⟨fun | 172 => 198 | 244 => 230 | 245 => 231 | 247 => 248 | 279 => 249 | 280 => 250 | 281 => 251 | 282 => 252 | 287 => 268 | 316 => 269 | 171 => 173 | 205 => 270 | 321 => 281 | 322 => 282 | 243 => 206 | 246 => 236 | 283 => 262 | 284 => 263 | 285 => 264 | 286 => 265 | 129 => 277 | 317 => 276 | 318 => 278 | 319 => 279 | 320 => 280 | 337 => 283 | 338 => 284 | n => n,fun | 9 => 9 | 3 => 3 | 75 => 163 | 76 => 164 | 4 => 4 | 5 => 5 | 167 => 254 | 37 => 73 | 0 => 0 | 85 => 255 | 2 => 2 | 168 => 257 | 53 => 251 | 175 => 269 | 46 => 211 | 210 => 272 | 127 => 121 | 145 => 283 | 143 => 281 | 21 => 21 | 171 => 264 | 173 => 267 | 212 => 278 | 51 => 248 | 20 => 20 | 213 => 279 | 232 => 285 | 233 => 286 | 80 => 81 | n => n,fun | 15 => 3 | 16 => 4 | 17 => 5 | 18 => 6 | 19 => 7 | n => n⟩
def Tryz.lays99_ren:Go.Shelf.Ren:=⟨fun | 99 => 107 | 206 => 155 | n => n,fun | 9 => 9 | 4 => 4 | 3 => 3 | n => n,fun | n => n⟩
def Tryz.lays101_ren:Go.Shelf.Ren:=⟨fun | 101 => 229 | 208 => 247 | 206 => 155 | n => n,fun | 9 => 9 | 4 => 4 | 3 => 3 | n => n,fun | n => n⟩
def Tryz.lays151_ren:Go.Shelf.Ren:=⟨fun | 151 => 106 | 152 => 154 | 137 => 192 | 119 => 193 | 224 => 194 | 225 => 195 | 217 => 228 | 266 => 246 | n => n,fun | 9 => 9 | 21 => 21 | 4 => 4 | 3 => 3 | 5 => 5 | 0 => 0 | 46 => 211 | n => n,fun | n => n⟩
def Tryz.lays105_ren:Go.Shelf.Ren:=⟨fun | 105 => 179 | 212 => 212 | 99 => 107 | 165 => 176 | 166 => 129 | 170 => 213 | 169 => 34 | 263 => 238 | 264 => 239 | 206 => 155 | 240 => 175 | 241 => 209 | 276 => 208 | 277 => 237 | n => n,fun | 9 => 9 | 3 => 3 | 4 => 4 | 20 => 20 | 0 => 0 | 46 => 211 | 109 => 227 | 5 => 5 | 72 => 75 | 76 => 164 | 51 => 248 | 146 => 249 | 53 => 251 | 148 => 252 | 70 => 72 | 37 => 73 | 75 => 163 | 127 => 121 | 164 => 223 | 80 => 81 | n => n,fun | n => n⟩
theorem Tryz.lays105:Go.Proofs.Lays.n105 Tryz.prog Tryz.lays105_ren:={
 mixed:=by kernel_rfl
 f99:=Tryz.func107.trans (congrArg some (by kernel_rfl))
 f105:=Tryz.func179.trans (congrArg some (by kernel_rfl))
 f165:=Tryz.func176.trans (congrArg some (by kernel_rfl))
 f166:=Tryz.func129.trans (congrArg some (by kernel_rfl))
 f169:=Tryz.func34.trans (congrArg some (by kernel_rfl))
 f170:=Tryz.func213.trans (congrArg some (by kernel_rfl))
 f206:=Tryz.func155.trans (congrArg some (by kernel_rfl))
 f212:=Tryz.func212.trans (congrArg some (by kernel_rfl))
 f240:=Tryz.func175.trans (congrArg some (by kernel_rfl))
 f241:=Tryz.func209.trans (congrArg some (by kernel_rfl))
 f263:=Tryz.func238.trans (congrArg some (by kernel_rfl))
 f264:=Tryz.func239.trans (congrArg some (by kernel_rfl))
 f276:=Tryz.func208.trans (congrArg some (by kernel_rfl))
 f277:=Tryz.func237.trans (congrArg some (by kernel_rfl))
 t0:=Tryz.underlying0
 a0:=Tryz.isAgg0
 z0:=Tryz.sizeOf0
 v0:=Tryz.zeroValue0
 t3:=Tryz.underlying3
 a3:=Tryz.isAgg3
 z3:=Tryz.sizeOf3
 v3:=Tryz.zeroValue3
 t4:=Tryz.underlying4
 a4:=Tryz.isAgg4
 z4:=Tryz.sizeOf4
 v4:=Tryz.zeroValue4
 t5:=Tryz.underlying5
 a5:=Tryz.isAgg5
 z5:=Tryz.sizeOf5
 v5:=Tryz.zeroValue5
 t9:=Tryz.underlying9
 a9:=Tryz.isAgg9
 z9:=Tryz.sizeOf9
 v9:=Tryz.zeroValue9
 t20:=Tryz.underlying20
 a20:=Tryz.isAgg20
 z20:=Tryz.sizeOf20
 v20:=Tryz.zeroValue20
 t37:=Tryz.underlying73
 a37:=Tryz.isAgg73
 z37:=Tryz.sizeOf73
 v37:=Tryz.zeroValue73
 t46:=Tryz.underlying211
 a46:=Tryz.isAgg211
 z46:=Tryz.sizeOf211
 v46:=Tryz.zeroValue211
 t51:=Tryz.underlying248
 a51:=Tryz.isAgg248
 z51:=Tryz.sizeOf248
 v51:=Tryz.zeroValue248
 t53:=Tryz.underlying251
 a53:=Tryz.isAgg251
 z53:=Tryz.sizeOf251
 v53:=Tryz.zeroValue251
 t70:=Tryz.underlying72
 a70:=Tryz.isAgg72
 z70:=Tryz.sizeOf72
 v70:=Tryz.zeroValue72
 t72:=Tryz.underlying75
 a72:=Tryz.isAgg75
 z72:=Tryz.sizeOf75
 v72:=Tryz.zeroValue75
 t75:=Tryz.underlying163
 a75:=Tryz.isAgg163
 z75:=Tryz.sizeOf163
 v75:=Tryz.zeroValue163
 t76:=Tryz.underlying164
 a76:=Tryz.isAgg164
 z76:=Tryz.sizeOf164
 v76:=Tryz.zeroValue164
 t109:=Tryz.underlying227
 a109:=Tryz.isAgg227
 z109:=Tryz.sizeOf227
 v109:=Tryz.zeroValue227
 t127:=Tryz.underlying121
 a127:=Tryz.isAgg121
 z127:=Tryz.sizeOf121
 v127:=Tryz.zeroValue121
 t146:=Tryz.underlying249
 a146:=Tryz.isAgg249
 z146:=Tryz.sizeOf249
 v146:=Tryz.zeroValue249
 t148:=Tryz.underlying252
 a148:=Tryz.isAgg252
 z148:=Tryz.sizeOf252
 v148:=Tryz.zeroValue252
 t164:=Tryz.underlying223
 a164:=Tryz.isAgg223
 z164:=Tryz.sizeOf223
 v164:=Tryz.zeroValue223 }
theorem Tryz.Builder_Extra_105:Builder.Extra Tryz.prog Tryz.lays105_ren:={
 sizeBuilder:=by kernel_rfl
 liesBuilder:=by kernel_rfl
 t5:=Tryz.underlying5
 a5:=Tryz.isAgg5
 z5:=Tryz.sizeOf5
 v5:=Tryz.zeroValue5
 infoByte:=by kernel_rfl
 cellsByte:=by kernel_rfl
 sizeByte:=by kernel_rfl
 neB5:=by decide }
open Go.RowKit Go.Lib in
theorem Tryz.strings_Repeat (s:ByteArray) (c:Nat) (w:World) (hc:c ≤ 9223372036854775807) (hlen:s.size * c ≤ 140737488355328) :
  Calls Tryz.prog 179 #[.string s,.int .i64 c] w fun e w' => e = .returned (.string ⟨(Lib.repeatL s.data.toList c).toArray⟩) ∧ Below w.heap.size w w':=Any.strings_Repeat Tryz.lays105 Tryz.Builder_Extra_105 s c w hc hlen
def Tryz.lays260_ren:Go.Shelf.Ren:=⟨fun | 260 => 153 | n => n,fun | 9 => 9 | 21 => 21 | 3 => 3 | 4 => 4 | 5 => 5 | 119 => 210 | 0 => 0 | 46 => 211 | 139 => 214 | 138 => 213 | n => n,fun | 3 => 0 | 4 => 1 | n => n⟩
def Tryz.lays197_ren:Go.Shelf.Ren:=⟨fun | 197 => 104 | 260 => 153 | n => n,fun | 9 => 9 | 21 => 21 | 3 => 3 | 4 => 4 | 5 => 5 | 105 => 142 | 119 => 210 | 0 => 0 | 46 => 211 | 139 => 214 | 138 => 213 | n => n,fun | 3 => 0 | 4 => 1 | n => n⟩
def Tryz.lays112_ren:Go.Shelf.Ren:=⟨fun | 112 => 205 | n => n,fun | 28 => 42 | 3 => 3 | 4 => 4 | 0 => 0 | n => n,fun | n => n⟩
end Go.Proofs
namespace Go.Proofs.YtfgelheiknmjgaaGreatDoor.T1
open Go.RowKit
structure Laid (w:World):Prop where
 pow:Lib.TabIs Tryz.prog w "internal/strconv.uint64pow10" .u64 Lib.pow10Tab
 rng:∃ te pe,w.cell? ⟨4,0,none⟩ = some (.iface te pe)
theorem gPow : Tryz.prog.globalNamed "internal/strconv.uint64pow10" = some 5 := by kernel_rfl
def allDg (l:List UInt8):Bool:=l.all fun c => digB (c.toNat:Int)
def decL (l:List UInt8):Bool :=
 let d:=Lib.trimPrefix l [45]
 if d = [] then false else if d.getD 0 0 = 48 then decide (l = [48]) else allDg d
def numL (l:List UInt8):Int × Int:=if decL l then (match Lib.atoiAll l with | .ok v => (v,0) | _ => (0,4)) else (0,3)
def num2 (p:Int × Int):Value:=.tuple #[.int .i64 p.1,.int .i64 p.2]
theorem zv0 (l:List UInt8):Lib.trimPrefix (45 :: l) [45] = l:=by
 unfold Lib.trimPrefix Lib.hasPrefix; simp
theorem zu9 {c:UInt8} (l:List UInt8) (h:c ≠ 45):Lib.trimPrefix (c :: l) [45] = c :: l:=by
 unfold Lib.trimPrefix Lib.hasPrefix
 rw [if_neg]; simp [h.symm]
theorem zS8 {l:List UInt8} (h:decL l = true):l = [48] ∨ ∃ d:List UInt8,d ≠ [] ∧ d.getD 0 0 ≠ 48 ∧ allDg d = true ∧ (l = d ∨ l = 45 :: d) ∧ d.getD 0 0 ≠ 45 ∧ d.getD 0 0 ≠ 43:=by
 cases l with
 | nil => exact absurd h (by decide)
 | cons c r =>
   have key:∀ d:List UInt8,Lib.trimPrefix (c :: r) [45] = d → (c :: r = d ∨ c :: r = 45 :: d) → c :: r = [48] ∨ ∃ d:List UInt8,d ≠ [] ∧ d.getD 0 0 ≠ 48 ∧ allDg d = true ∧ (c :: r = d ∨ c :: r = 45 :: d) ∧ d.getD 0 0 ≠ 45 ∧ d.getD 0 0 ≠ 43:=by
    intro d hd hl
    unfold decL at h
    rw [hd] at h
    by_cases h0:d = []
    ·rw [if_pos h0] at h; cases h
    rw [if_neg h0] at h
    by_cases h1:d.getD 0 0 = 48
    ·rw [if_pos h1] at h; exact Or.inl (by simpa using h)
    rw [if_neg h1] at h
    refine Or.inr ⟨d,h0,h1,h,hl, ?_, ?_⟩
    all_goals
     cases d with
     | nil => exact absurd rfl h0
     | cons a d =>
       unfold allDg at h
       rw [List.all_cons,Bool.and_eq_true] at h
       have:=h.1
       intro e
       simp at e
       subst e
       revert this; decide
   by_cases hc:c = 45
   ·subst hc; exact key r (zv0 r) (Or.inr rfl)
   ·exact key (c :: r) (zu9 r hc) (Or.inl rfl)
end Go.Proofs.YtfgelheiknmjgaaGreatDoor.T1
namespace Go.Proofs.YtfgelheiknmjgaaGreatDoor.K
open Go.RowKit
def spanL {σ:Type} (step : σ → UInt8 → Option σ) : σ → List UInt8 → Nat
 | _,[] => 0
 | st,c :: r => match step st c with
   | none => 0
   | some st' => spanL step st' r + 1
def sepS (inC:Bool) (c:UInt8):Option Bool :=
 if c = 35 then some true else if c = 10 ∨ c = 13 then some false else if c = 32 ∨ c = 9 ∨ c = 44 then some inC else if inC = true then some true else none
def wdB (c:UInt8):Bool:=T1.nmB (c.toNat:Int)
def wdS (u:Unit) (c:UInt8):Option Unit:=if wdB c = true then some u else none
def ltS (skip:Bool) (c:UInt8):Option Bool:=if c = 34 ∧ skip = false then none else some (decide (c = 92) && !skip)
def sepN (l:List UInt8):Nat:=spanL sepS false l
def wdN (l:List UInt8):Nat:=spanL wdS () l
def ltN (l:List UInt8):Nat:=spanL ltS false l
def sgL:List UInt8:=[33,36,38,40,41,58,61,64,91,93,123,124,125]
def elL:List UInt8:=[46,46,46]
def dmB (c:UInt8):Bool:=T1.digB (c.toNat:Int) || decide (c = 45)
def tokR (l:List UInt8):Except Int (Int × List UInt8 × Nat) :=
 let c:=l.getD 0 0
 if c ∈ sgL then .ok (1,l.take 1,1)
 else if l.take 3 = elL then .ok (1,elL,3)
 else if T1.letU (c.toNat:Int) = true then
  if T1.nameL (l.take (wdN l)) = true then .ok (2,l.take (wdN l),wdN l) else .error 3
 else if dmB c = true then
  if (T1.numL (l.take (wdN (l.drop 1) + 1))).2 = 0 then .ok (3,l.take (wdN (l.drop 1) + 1),wdN (l.drop 1) + 1) else .error (T1.numL (l.take (wdN (l.drop 1) + 1))).2
 else if c = 34 then
  if l.length < ltN (l.drop 1) + 2 then .error 3 else match T1.zn0 (l.take (ltN (l.drop 1) + 2)) with
   | none => .error 3
   | some t => .ok (4,t,ltN (l.drop 1) + 2)
 else .error 3
abbrev Tk:=Int × List UInt8 × Nat
def scF:Nat → Nat → List UInt8 → Except (Nat × Int) (List Tk)
 | 0,_,_ => .error (0,99)
 | f + 1,at',l =>
   if l.drop (sepN l) = [] then .ok [(5,[],at' + sepN l)] else
    match tokR (l.drop (sepN l)) with
    | .error c => .error (at' + sepN l,c)
    | .ok (k,t,n) => match scF f (at' + sepN l + n) ((l.drop (sepN l)).drop n) with
      | .error e => .error e
      | .ok ts => .ok ((k,t,at' + sepN l) :: ts)
def scR (l:List UInt8):Except (Nat × Int) (List Tk):=if 65536 < l.length then .error (65536,4) else scF (l.length + 1) 0 l
section
variable {σ:Type} {step : σ → UInt8 → Option σ}
end
end Go.Proofs.YtfgelheiknmjgaaGreatDoor.K

