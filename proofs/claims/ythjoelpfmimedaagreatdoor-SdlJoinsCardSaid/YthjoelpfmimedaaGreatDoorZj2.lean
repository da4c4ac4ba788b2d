
/-
  Texts joined: Shelf TextNumber KPure KSpan KSep.
-/
import Derived.Shelf.Strings.Builder1
import Derived.Shelf.Strings.Builder2
import Derived.Shelf.Strings.OnBuilder
import Derived.Shelf.Small.Utf8
import Derived.Shelf.Small.Strs
import Derived.Shelf.Small.Wraps
import Derived.Shelf.Strings.BuilderF
import Derived.Shelf.Strings.BuilderK
import Derived.Shelf.Strings.Builder2Cap
import Derived.Shelf.Strconv.Atoi
import Derived.Shelf.Strconv.Itoa0
import Derived.Shelf.Strconv.Itoa1
import Derived.Shelf.LaysM
import Derived.Shelf.Strconv.Itoa2
import Derived.Shelf.Strconv.Itoa3
import Derived.Shelf.Strconv.AtoiErrFast
import Derived.Shelf.Strconv.ParseIntEmpty
import Derived.Shelf.Strconv.AtoiFail
import Derived.Shelf.Strconv.Clone
import Derived.Shelf.Strconv.SyntaxError
import Derived.Shelf.LaysC
import Derived.Shelf.Strconv.ToError
import Derived.Shelf.Strconv.AtoiErr
import Derived.Shelf.Strconv.Lower
import Derived.Shelf.Strconv.ParseUint10
import Derived.Shelf.Strconv.ParseUint10Empty
import Derived.Shelf.Strconv.ParseUint10Any
import Derived.Shelf.Strconv.ParseInt10
import Derived.Shelf.Strconv.AtoiLong
import Derived.Shelf.Strconv.AtoiInnerAll
import Derived.Shelf.Strconv.RangeError
import Derived.Shelf.Strconv.ToErrorRange
import Derived.Shelf.Strconv.AtoiAll
import Derived.Shelf.Strconv.ErrVarAll
import Derived.Shelf.Strings.Search1
import Derived.Shelf.Strings.Prefix
import Derived.Shelf.Strings.Runes
import Derived.Shelf.Bits.Mul64
import Derived.Shelf.Strings.Repeat
import Derived.Shelf.Unicode.DecodeSlow
import Derived.Shelf.Unicode.DecodeAny
import Derived.Shelf.Strings.BuilderCap
import Derived.Shelf.Slices.Reverse
import Derived.Shelf.Slices.Equal
import Derived.Shelf.Slices.Cells
import Derived.Shelf.Slices.Empties2
import Derived.Test.YthjoelpfmimedaaGreatDoorProg
import Derived.Test.YthjoelpfmimedaaGreatDoorZj1
import Derived.WalkSmall
import Derived.Lib.AppendIntMem
import Derived.Lib.AtoiErrMem
import Derived.Lib.OthersKept
import Derived.Laws.Runes
namespace Go.Proofs
open Go.Shelf
def Tryz.lays119_ren : Go.Shelf.Ren := ⟨fun | 119 => 206 | n => n, fun | 21 => 21 | 4 => 4 | n => n, fun | n => n⟩
theorem Tryz.lays119 : Go.Proofs.Lays.n119 Tryz.prog Tryz.lays119_ren := {
  mixed := by kernel_rfl
  f119 := Tryz.func206.trans (congrArg some (by kernel_rfl))
  t4 := Tryz.underlying4
  a4 := Tryz.isAgg4
  z4 := Tryz.sizeOf4
  v4 := Tryz.zeroValue4
  t21 := Tryz.underlying21
  a21 := Tryz.isAgg21
  z21 := Tryz.sizeOf21
  v21 := Tryz.zeroValue21 }
theorem Tryz.utf8_ValidRune (r : Int) (w : World) :
    Calls Tryz.prog 206 #[.int .i32 r] w fun e w' => e = .returned (.bool (Lib.validRune r)) ∧ w' = w := Any.utf8_ValidRune Tryz.lays119 r w
def Tryz.lays137_ren : Go.Shelf.Ren := ⟨fun | 137 => 205 | 217 => 238 | 266 => 259 | n => n, fun | 9 => 9 | 5 => 5 | 3 => 3 | n => n, fun | n => n⟩
theorem Tryz.lays137 : Go.Proofs.Lays.n137 Tryz.prog Tryz.lays137_ren := {
  mixed := by kernel_rfl
  f137 := Tryz.func205.trans (congrArg some (by kernel_rfl))
  f217 := Tryz.func238.trans (congrArg some (by kernel_rfl))
  f266 := Tryz.func259.trans (congrArg some (by kernel_rfl))
  t3 := Tryz.underlying3
  a3 := Tryz.isAgg3
  z3 := Tryz.sizeOf3
  v3 := Tryz.zeroValue3
  t5 := Tryz.underlying5
  a5 := Tryz.isAgg5
  z5 := Tryz.sizeOf5
  v5 := Tryz.zeroValue5
  t9 := Tryz.underlying9
  a9 := Tryz.isAgg9
  z9 := Tryz.sizeOf9
  v9 := Tryz.zeroValue9 }
open Go.RowKit in
theorem Tryz.strings_IndexByte (s : ByteArray) (c : Int) (w : World) :
    Calls Tryz.prog 205 #[.string s, .int .u8 c] w fun e w' => e = .returned (.int .i64 (Lib.indexByte s.data.toList c.toNat.toUInt8)) ∧ w' = w := Any.strings_IndexByte Tryz.lays137 s c w
def Tryz.laysC172_ren : Go.Shelf.Ren := ⟨fun | 172 => 211 | 244 => 240 | 245 => 241 | 247 => 261 | 279 => 262 | 280 => 263 | 281 => 264 | 282 => 265 | 287 => 283 | 316 => 284 | 171 => 191 | 205 => 285 | 321 => 297 | 322 => 298 | 243 => 223 | 246 => 252 | 283 => 278 | 284 => 279 | 285 => 280 | 286 => 281 | 129 => 293 | 317 => 292 | 318 => 294 | 319 => 295 | 320 => 296 | 337 => 299 | 338 => 300 | n => n, fun | 9 => 9 | 3 => 3 | 75 => 179 | 76 => 180 | 4 => 4 | 5 => 5 | 167 => 265 | 37 => 85 | 0 => 0 | 85 => 266 | 2 => 2 | 168 => 268 | 53 => 262 | 175 => 280 | 46 => 222 | 210 => 283 | 127 => 137 | 145 => 294 | 143 => 292 | 21 => 21 | 171 => 275 | 173 => 278 | 212 => 289 | 51 => 259 | 20 => 20 | 213 => 290 | 232 => 296 | 233 => 297 | 80 => 93 | n => n, fun | 15 => 3 | 16 => 4 | 17 => 5 | 18 => 6 | 19 => 7 | n => n⟩
theorem Tryz.laysC172 : Go.Proofs.LaysC.n172 Tryz.prog Tryz.laysC172_ren := {
  mixed := by kernel_rfl
  f129 := Tryz.func293.trans (congrArg some (by kernel_rfl))
  f171 := Tryz.func191.trans (congrArg some (by kernel_rfl))
  f172 := Tryz.func211.trans (congrArg some (by kernel_rfl))
  f205 := Tryz.func285.trans (congrArg some (by kernel_rfl))
  f243 := Tryz.func223.trans (congrArg some (by kernel_rfl))
  f244 := Tryz.func240.trans (congrArg some (by kernel_rfl))
  f245 := Tryz.func241.trans (congrArg some (by kernel_rfl))
  f246 := Tryz.func252.trans (congrArg some (by kernel_rfl))
  f247 := Tryz.func261.trans (congrArg some (by kernel_rfl))
  f279 := Tryz.func262.trans (congrArg some (by kernel_rfl))
  f280 := Tryz.func263.trans (congrArg some (by kernel_rfl))
  f281 := Tryz.func264.trans (congrArg some (by kernel_rfl))
  f282 := Tryz.func265.trans (congrArg some (by kernel_rfl))
  f283 := Tryz.func278.trans (congrArg some (by kernel_rfl))
  f284 := Tryz.func279.trans (congrArg some (by kernel_rfl))
  f285 := Tryz.func280.trans (congrArg some (by kernel_rfl))
  f286 := Tryz.func281.trans (congrArg some (by kernel_rfl))
  f287 := Tryz.func283.trans (congrArg some (by kernel_rfl))
  f316 := Tryz.func284.trans (congrArg some (by kernel_rfl))
  f317 := Tryz.func292.trans (congrArg some (by kernel_rfl))
  f318 := Tryz.func294.trans (congrArg some (by kernel_rfl))
  f319 := Tryz.func295.trans (congrArg some (by kernel_rfl))
  f320 := Tryz.func296.trans (congrArg some (by kernel_rfl))
  f321 := Tryz.func297.trans (congrArg some (by kernel_rfl))
  f322 := Tryz.func298.trans (congrArg some (by kernel_rfl))
  f337 := Tryz.func299.trans (congrArg some (by kernel_rfl))
  f338 := Tryz.func300.trans (congrArg some (by kernel_rfl))
  t0 := Tryz.underlying0
  a0 := Tryz.isAgg0
  z0 := Tryz.sizeOf0
  v0 := Tryz.zeroValue0
  t2 := Tryz.underlying2
  a2 := Tryz.isAgg2
  z2 := Tryz.sizeOf2
  v2 := Tryz.zeroValue2
  t3 := Tryz.underlying3
  a3 := Tryz.isAgg3
  z3 := Tryz.sizeOf3
  v3 := Tryz.zeroValue3
  t4 := Tryz.underlying4
  a4 := Tryz.isAgg4
  z4 := Tryz.sizeOf4
  v4 := Tryz.zeroValue4
  t5 := Tryz.underlying5
  a5 := Tryz.isAgg5
  z5 := Tryz.sizeOf5
  v5 := Tryz.zeroValue5
  t9 := Tryz.underlying9
  a9 := Tryz.isAgg9
  z9 := Tryz.sizeOf9
  v9 := Tryz.zeroValue9
  t20 := Tryz.underlying20
  a20 := Tryz.isAgg20
  z20 := Tryz.sizeOf20
  v20 := Tryz.zeroValue20
  t21 := Tryz.underlying21
  a21 := Tryz.isAgg21
  z21 := Tryz.sizeOf21
  v21 := Tryz.zeroValue21
  t37 := Tryz.underlying85
  a37 := Tryz.isAgg85
  z37 := Tryz.sizeOf85
  v37 := Tryz.zeroValue85
  t46 := Tryz.underlying222
  a46 := Tryz.isAgg222
  z46 := Tryz.sizeOf222
  v46 := Tryz.zeroValue222
  t51 := Tryz.underlying259
  a51 := Tryz.isAgg259
  z51 := Tryz.sizeOf259
  v51 := Tryz.zeroValue259
  t53 := Tryz.underlying262
  a53 := Tryz.isAgg262
  z53 := Tryz.sizeOf262
  v53 := Tryz.zeroValue262
  t75 := Tryz.underlying179
  a75 := Tryz.isAgg179
  z75 := Tryz.sizeOf179
  v75 := Tryz.zeroValue179
  t76 := Tryz.underlying180
  a76 := Tryz.isAgg180
  z76 := Tryz.sizeOf180
  v76 := Tryz.zeroValue180
  t85 := Tryz.underlying266
  a85 := Tryz.isAgg266
  z85 := Tryz.sizeOf266
  v85 := Tryz.zeroValue266
  t127 := Tryz.underlying137
  a127 := Tryz.isAgg137
  z127 := Tryz.sizeOf137
  v127 := Tryz.zeroValue137
  t143 := Tryz.underlying292
  a143 := Tryz.isAgg292
  z143 := Tryz.sizeOf292
  v143 := Tryz.zeroValue292
  t145 := Tryz.underlying294
  a145 := Tryz.isAgg294
  z145 := Tryz.sizeOf294
  v145 := Tryz.zeroValue294
  t167 := Tryz.underlying265
  a167 := Tryz.isAgg265
  z167 := Tryz.sizeOf265
  v167 := Tryz.zeroValue265
  t168 := Tryz.underlying268
  a168 := Tryz.isAgg268
  z168 := Tryz.sizeOf268
  v168 := Tryz.zeroValue268
  t171 := Tryz.underlying275
  a171 := Tryz.isAgg275
  z171 := Tryz.sizeOf275
  v171 := Tryz.zeroValue275
  t173 := Tryz.underlying278
  a173 := Tryz.isAgg278
  z173 := Tryz.sizeOf278
  v173 := Tryz.zeroValue278
  t175 := Tryz.underlying280
  a175 := Tryz.isAgg280
  z175 := Tryz.sizeOf280
  v175 := Tryz.zeroValue280
  t210 := Tryz.underlying283
  a210 := Tryz.isAgg283
  z210 := Tryz.sizeOf283
  v210 := Tryz.zeroValue283
  t212 := Tryz.underlying289
  a212 := Tryz.isAgg289
  z212 := Tryz.sizeOf289
  v212 := Tryz.zeroValue289
  t213 := Tryz.underlying290
  a213 := Tryz.isAgg290
  z213 := Tryz.sizeOf290
  t232 := Tryz.underlying296
  a232 := Tryz.isAgg296
  z232 := Tryz.sizeOf296
  v232 := Tryz.zeroValue296
  t233 := Tryz.underlying297
  a233 := Tryz.isAgg297
  z233 := Tryz.sizeOf297
  v233 := Tryz.zeroValue297
  g15 := by kernel_rfl
  g16 := by kernel_rfl
  g17 := by kernel_rfl
  g18 := by kernel_rfl
  g19 := by kernel_rfl
  t80 := Tryz.underlying93
  a80 := Tryz.isAgg93
  z80 := Tryz.sizeOf93
  v80 := Tryz.zeroValue93
  i0 := by kernel_rfl
  i2 := by kernel_rfl
  i3 := by kernel_rfl
  i4 := by kernel_rfl
  i5 := by kernel_rfl
  i9 := by kernel_rfl
  i20 := by kernel_rfl
  i21 := by kernel_rfl
  i37 := by kernel_rfl
  i46 := by kernel_rfl
  i51 := by kernel_rfl
  i53 := by kernel_rfl
  i75 := by kernel_rfl
  i76 := by kernel_rfl
  i80 := by kernel_rfl
  i85 := by kernel_rfl
  i127 := by kernel_rfl
  i143 := by kernel_rfl
  i145 := by kernel_rfl
  i167 := by kernel_rfl
  i168 := by kernel_rfl
  i171 := by kernel_rfl
  i173 := by kernel_rfl
  i175 := by kernel_rfl
  i210 := by kernel_rfl
  i212 := by kernel_rfl
  i232 := by kernel_rfl
  i233 := by kernel_rfl
  m15 := by kernel_rfl
  m16 := by kernel_rfl
  m17 := by kernel_rfl
  m18 := by kernel_rfl
  m19 := by kernel_rfl
  c0 := by kernel_rfl
  c2 := by kernel_rfl
  c3 := by kernel_rfl
  c4 := by kernel_rfl
  c5 := by kernel_rfl
  c9 := by kernel_rfl
  c20 := by kernel_rfl
  c21 := by kernel_rfl
  c37 := by kernel_rfl
  c46 := by kernel_rfl
  c51 := by kernel_rfl
  c53 := by kernel_rfl
  c75 := by kernel_rfl
  c76 := by kernel_rfl
  c80 := by kernel_rfl
  c85 := by kernel_rfl
  c127 := by kernel_rfl
  c143 := by kernel_rfl
  c145 := by kernel_rfl
  c167 := by kernel_rfl
  c168 := by kernel_rfl
  c171 := by kernel_rfl
  c173 := by kernel_rfl
  c175 := by kernel_rfl
  c210 := by kernel_rfl
  c212 := by kernel_rfl
  c213 := by kernel_rfl
  c232 := by kernel_rfl
  c233 := by kernel_rfl }
open Go.RowKit in
theorem Tryz.strconv_Atoi_ok (s : ByteArray) (hmax : s.size ≤ 9223372036854775806) (v : Int) (h : Lib.atoiAll s.data.toList = .ok v) (w : World) :
    Calls Tryz.prog 211 #[.string s] w fun e w' => e = .returned (.tuple #[.int .i64 v, .nilIface]) ∧ (w' = w ∨ ∃ t, w' = Lib.bytesWorld w 5 t) := Any.strconv_Atoi_ok Tryz.laysC172 s hmax v h w
open Go.RowKit in
theorem Tryz.strconv_Atoi_range (s : ByteArray) (hlim : s.size ≤ 281474976710656) (h : Lib.atoiAll s.data.toList = .range) (ev : Value) (w : World) (hv : w.cell? ⟨4, 0, none⟩ = some ev) (hev : ev = .nilIface ∨ ∃ te pe, ev = .iface te pe) :
    Calls Tryz.prog 211 #[.string s] w fun e w' => ∃ N, e = .returned (.tuple #[.int .i64 (Lib.atoiSat s.data.toList), .iface 268 (.pointer (some ⟨N, 0, none⟩))]) ∧ w.heap.size ≤ N ∧ w'.heap[N]? = some (.cells #[.string ⟨#[65, 116, 111, 105]⟩, .string s, ev] 283 (0, 0)) ∧ Below w.heap.size w w' := Any.strconv_Atoi_range Tryz.laysC172 s hlim h ev w hv hev
def Tryz.lays99_ren : Go.Shelf.Ren := ⟨fun | 99 => 111 | 206 => 167 | n => n, fun | 9 => 9 | 4 => 4 | 3 => 3 | n => n, fun | n => n⟩
theorem Tryz.lays99 : Go.Proofs.Lays.n99 Tryz.prog Tryz.lays99_ren := {
  mixed := by kernel_rfl
  f99 := Tryz.func111.trans (congrArg some (by kernel_rfl))
  f206 := Tryz.func167.trans (congrArg some (by kernel_rfl))
  t3 := Tryz.underlying3
  a3 := Tryz.isAgg3
  z3 := Tryz.sizeOf3
  v3 := Tryz.zeroValue3
  t4 := Tryz.underlying4
  a4 := Tryz.isAgg4
  z4 := Tryz.sizeOf4
  v4 := Tryz.zeroValue4
  t9 := Tryz.underlying9
  a9 := Tryz.isAgg9
  z9 := Tryz.sizeOf9
  v9 := Tryz.zeroValue9 }
open Go.RowKit Go.Lib in
theorem Tryz.strings_HasPrefix (s p : ByteArray) (w : World) :
    Calls Tryz.prog 111 #[.string s, .string p] w fun e w' => e = .returned (.bool (Lib.hasPrefix s.data.toList p.data.toList)) ∧ w' = w := Any.strings_HasPrefix Tryz.lays99 s p w
def Tryz.lays101_ren : Go.Shelf.Ren := ⟨fun | 101 => 239 | 208 => 260 | 206 => 167 | n => n, fun | 9 => 9 | 4 => 4 | 3 => 3 | n => n, fun | n => n⟩
theorem Tryz.lays101 : Go.Proofs.Lays.n101 Tryz.prog Tryz.lays101_ren := {
  mixed := by kernel_rfl
  f101 := Tryz.func239.trans (congrArg some (by kernel_rfl))
  f206 := Tryz.func167.trans (congrArg some (by kernel_rfl))
  f208 := Tryz.func260.trans (congrArg some (by kernel_rfl))
  t3 := Tryz.underlying3
  a3 := Tryz.isAgg3
  z3 := Tryz.sizeOf3
  v3 := Tryz.zeroValue3
  t4 := Tryz.underlying4
  a4 := Tryz.isAgg4
  z4 := Tryz.sizeOf4
  v4 := Tryz.zeroValue4
  t9 := Tryz.underlying9
  a9 := Tryz.isAgg9
  z9 := Tryz.sizeOf9
  v9 := Tryz.zeroValue9 }
open Go.RowKit Go.Lib in
theorem Tryz.strings_TrimPrefix (s p : ByteArray) (w : World) :
    Calls Tryz.prog 239 #[.string s, .string p] w fun e w' => e = .returned (.string ⟨(Lib.trimPrefix s.data.toList p.data.toList).toArray⟩) ∧ w' = w := Any.strings_TrimPrefix Tryz.lays101 s p w
def Tryz.lays151_ren : Go.Shelf.Ren := ⟨fun | 151 => 110 | 152 => 166 | 137 => 205 | 119 => 206 | 224 => 207 | 225 => 208 | 217 => 238 | 266 => 259 | n => n, fun | 9 => 9 | 21 => 21 | 4 => 4 | 3 => 3 | 5 => 5 | 0 => 0 | 46 => 222 | n => n, fun | n => n⟩
theorem Tryz.lays151 : Go.Proofs.Lays.n151 Tryz.prog Tryz.lays151_ren := {
  mixed := by kernel_rfl
  f119 := Tryz.func206.trans (congrArg some (by kernel_rfl))
  f137 := Tryz.func205.trans (congrArg some (by kernel_rfl))
  f151 := Tryz.func110.trans (congrArg some (by kernel_rfl))
  f152 := Tryz.func166.trans (congrArg some (by kernel_rfl))
  f217 := Tryz.func238.trans (congrArg some (by kernel_rfl))
  f224 := Tryz.func207.trans (congrArg some (by kernel_rfl))
  f225 := Tryz.func208.trans (congrArg some (by kernel_rfl))
  f266 := Tryz.func259.trans (congrArg some (by kernel_rfl))
  t0 := Tryz.underlying0
  a0 := Tryz.isAgg0
  z0 := Tryz.sizeOf0
  v0 := Tryz.zeroValue0
  t3 := Tryz.underlying3
  a3 := Tryz.isAgg3
  z3 := Tryz.sizeOf3
  v3 := Tryz.zeroValue3
  t4 := Tryz.underlying4
  a4 := Tryz.isAgg4
  z4 := Tryz.sizeOf4
  v4 := Tryz.zeroValue4
  t5 := Tryz.underlying5
  a5 := Tryz.isAgg5
  z5 := Tryz.sizeOf5
  v5 := Tryz.zeroValue5
  t9 := Tryz.underlying9
  a9 := Tryz.isAgg9
  z9 := Tryz.sizeOf9
  v9 := Tryz.zeroValue9
  t21 := Tryz.underlying21
  a21 := Tryz.isAgg21
  z21 := Tryz.sizeOf21
  v21 := Tryz.zeroValue21
  t46 := Tryz.underlying222
  a46 := Tryz.isAgg222
  z46 := Tryz.sizeOf222
  v46 := Tryz.zeroValue222 }
open Go.RowKit Go.Lib in
theorem Tryz.strings_ContainsRune_ascii (s : ByteArray) (r : Int) (w : World) (h0 : 0 ≤ r) (h1 : r < 128) :
    Calls Tryz.prog 110 #[.string s, .int .i32 r] w fun e w' => e = .returned (.bool (decide (0 ≤ Lib.indexByte s.data.toList r.toNat.toUInt8))) ∧ w' = w := Any.strings_ContainsRune_ascii Tryz.lays151 s r w h0 h1
def Tryz.lays260_ren : Go.Shelf.Ren := ⟨fun | 260 => 165 | n => n, fun | 9 => 9 | 21 => 21 | 3 => 3 | 4 => 4 | 5 => 5 | 119 => 221 | 0 => 0 | 46 => 222 | 139 => 225 | 138 => 224 | n => n, fun | 3 => 0 | 4 => 1 | n => n⟩
theorem Tryz.lays260 : Go.Proofs.Lays.n260 Tryz.prog Tryz.lays260_ren := {
  mixed := by kernel_rfl
  f260 := Tryz.func165.trans (congrArg some (by kernel_rfl))
  t0 := Tryz.underlying0
  a0 := Tryz.isAgg0
  z0 := Tryz.sizeOf0
  v0 := Tryz.zeroValue0
  t3 := Tryz.underlying3
  a3 := Tryz.isAgg3
  z3 := Tryz.sizeOf3
  v3 := Tryz.zeroValue3
  t4 := Tryz.underlying4
  a4 := Tryz.isAgg4
  z4 := Tryz.sizeOf4
  v4 := Tryz.zeroValue4
  t5 := Tryz.underlying5
  a5 := Tryz.isAgg5
  z5 := Tryz.sizeOf5
  v5 := Tryz.zeroValue5
  t9 := Tryz.underlying9
  a9 := Tryz.isAgg9
  z9 := Tryz.sizeOf9
  v9 := Tryz.zeroValue9
  t21 := Tryz.underlying21
  a21 := Tryz.isAgg21
  z21 := Tryz.sizeOf21
  v21 := Tryz.zeroValue21
  t46 := Tryz.underlying222
  a46 := Tryz.isAgg222
  z46 := Tryz.sizeOf222
  v46 := Tryz.zeroValue222
  t119 := Tryz.underlying221
  a119 := Tryz.isAgg221
  z119 := Tryz.sizeOf221
  t138 := Tryz.underlying224
  a138 := Tryz.isAgg224
  z138 := Tryz.sizeOf224
  v138 := Tryz.zeroValue224
  t139 := Tryz.underlying225
  a139 := Tryz.isAgg225
  z139 := Tryz.sizeOf225
  v139 := Tryz.zeroValue225
  g3 := by kernel_rfl
  g4 := by kernel_rfl }
def Tryz.lays197_ren : Go.Shelf.Ren := ⟨fun | 197 => 108 | 260 => 165 | n => n, fun | 9 => 9 | 21 => 21 | 3 => 3 | 4 => 4 | 5 => 5 | 105 => 150 | 119 => 221 | 0 => 0 | 46 => 222 | 139 => 225 | 138 => 224 | n => n, fun | 3 => 0 | 4 => 1 | n => n⟩
theorem Tryz.lays197 : Go.Proofs.Lays.n197 Tryz.prog Tryz.lays197_ren := {
  mixed := by kernel_rfl
  f197 := Tryz.func108.trans (congrArg some (by kernel_rfl))
  f260 := Tryz.func165.trans (congrArg some (by kernel_rfl))
  t0 := Tryz.underlying0
  a0 := Tryz.isAgg0
  z0 := Tryz.sizeOf0
  v0 := Tryz.zeroValue0
  t3 := Tryz.underlying3
  a3 := Tryz.isAgg3
  z3 := Tryz.sizeOf3
  v3 := Tryz.zeroValue3
  t4 := Tryz.underlying4
  a4 := Tryz.isAgg4
  z4 := Tryz.sizeOf4
  v4 := Tryz.zeroValue4
  t5 := Tryz.underlying5
  a5 := Tryz.isAgg5
  z5 := Tryz.sizeOf5
  v5 := Tryz.zeroValue5
  t9 := Tryz.underlying9
  a9 := Tryz.isAgg9
  z9 := Tryz.sizeOf9
  v9 := Tryz.zeroValue9
  t21 := Tryz.underlying21
  a21 := Tryz.isAgg21
  z21 := Tryz.sizeOf21
  v21 := Tryz.zeroValue21
  t46 := Tryz.underlying222
  a46 := Tryz.isAgg222
  z46 := Tryz.sizeOf222
  v46 := Tryz.zeroValue222
  t105 := Tryz.underlying150
  a105 := Tryz.isAgg150
  z105 := Tryz.sizeOf150
  v105 := Tryz.zeroValue150
  t119 := Tryz.underlying221
  a119 := Tryz.isAgg221
  z119 := Tryz.sizeOf221
  t138 := Tryz.underlying224
  a138 := Tryz.isAgg224
  z138 := Tryz.sizeOf224
  v138 := Tryz.zeroValue224
  t139 := Tryz.underlying225
  a139 := Tryz.isAgg225
  z139 := Tryz.sizeOf225
  v139 := Tryz.zeroValue225
  g3 := by kernel_rfl
  g4 := by kernel_rfl }
open Go.RowKit Go.Lib in
theorem Tryz.utf8_DecodeRuneInString (s : ByteArray) (w : World) (hT : Lib.Utf8Tabs 0 1 w) :
    Calls Tryz.prog 108 #[.string s] w fun e w' => e = .returned (.tuple #[.int .i32 (Lib.decodeGo s).1, .int .i64 (Lib.decodeGo s).2]) ∧ Below w.heap.size w w' := Any.utf8_DecodeRuneInString Tryz.lays197 s w hT
def Tryz.lays112_ren : Go.Shelf.Ren := ⟨fun | 112 => 218 | n => n, fun | 28 => 48 | 3 => 3 | 4 => 4 | 0 => 0 | n => n, fun | n => n⟩
theorem Tryz.lays112 : Go.Proofs.Lays.n112 Tryz.prog Tryz.lays112_ren := {
  mixed := by kernel_rfl
  f112 := Tryz.func218.trans (congrArg some (by kernel_rfl))
  t0 := Tryz.underlying0
  a0 := Tryz.isAgg0
  z0 := Tryz.sizeOf0
  v0 := Tryz.zeroValue0
  t3 := Tryz.underlying3
  a3 := Tryz.isAgg3
  z3 := Tryz.sizeOf3
  v3 := Tryz.zeroValue3
  t4 := Tryz.underlying4
  a4 := Tryz.isAgg4
  z4 := Tryz.sizeOf4
  v4 := Tryz.zeroValue4
  t28 := Tryz.underlying48
  a28 := Tryz.isAgg48
  z28 := Tryz.sizeOf48
  v28 := Tryz.zeroValue48 }
open Go.RowKit Go.Lib Go.Sort in
theorem Tryz.slices_Reverse_int_empty (a : Option Addr) (cap : Nat) (w : World) :
    Calls Tryz.prog 218 #[.slice a 0 cap] w fun e w' => e = .returned (.tuple #[]) ∧ w' = w := Any.slices_Reverse_int_empty Tryz.lays112 a cap w
open Go.RowKit Go.Lib Go.Sort in
theorem Tryz.slices_Reverse_int_cells (b off n c : Nat) (zs : List Int) (w : World) (hz : n ≤ zs.length) (hbig : n ≤ 9223372036854775807) (hc : ∀ j, j < zs.length → w.cell? ⟨b, off + j, none⟩ = some (.int .i64 (zs.getD j 0))) (hf : ∀ j, j < n → w.frozen? ⟨b, off + j, none⟩ = false) :
    Calls Tryz.prog 218 #[.slice (some ⟨b, off, none⟩) n c] w fun e w' => e = .returned (.tuple #[]) ∧ ∃ q, w' = (w.drewN q).setCells b off ((zs.take n).reverse.map (Value.int .i64)) := Any.slices_Reverse_int_cells Tryz.lays112 b off n c zs w hz hbig hc hf
end Go.Proofs
namespace Go.Proofs.YthjoelpfmimedaaGreatDoor.T1
open Go.RowKit
structure Laid (w : World) : Prop where
  pow : Lib.TabIs Tryz.prog w "internal/strconv.uint64pow10" .u64 Lib.pow10Tab
  rng : ∃ te pe, w.cell? ⟨4, 0, none⟩ = some (.iface te pe)
theorem gPow : Tryz.prog.globalNamed "internal/strconv.uint64pow10" = some 5 := by kernel_rfl
theorem Laid.below {w w' : World} (h : Laid w) (hb : Below w.heap.size w w') : Laid w' := by
  have l1 := Lib.lt_of_cell (h.pow.cell gPow 0 (by decide))
  obtain ⟨te, pe, hc⟩ := h.rng
  have l2 := Lib.lt_of_cell hc
  exact ⟨var?_below hb gPow l1 h.pow, te, pe, (hb.cell (p := ⟨4, 0, none⟩) l2).trans hc⟩
def allDg (l : List UInt8) : Bool := l.all fun c => digB (c.toNat : Int)
def decL (l : List UInt8) : Bool :=
  let d := Lib.trimPrefix l [45]
  if d = [] then false else if d.getD 0 0 = 48 then decide (l = [48]) else allDg d
theorem trim_any (s : ByteArray) (w : World) :
    Calls Tryz.prog 239 #[.string s, .string ⟨#[45]⟩] w fun e w' => ∃ d : ByteArray, d.data.toList = Lib.trimPrefix s.data.toList [45] ∧ e = .returned (.string d) ∧ w = w' :=
  (Tryz.strings_TrimPrefix s ⟨#[45]⟩ w).mono fun _ _ ⟨he, hw⟩ => ⟨⟨(Lib.trimPrefix s.data.toList [45]).toArray⟩, by simp, he, hw.symm⟩
theorem dec_empty {s d : ByteArray} (h : d.data.toList = Lib.trimPrefix s.data.toList [45]) (h0 : d.size = 0) : decL s.data.toList = false := by
  have := size_eq d
  unfold decL
  rw [← h, if_pos (List.eq_nil_of_length_eq_zero (by omega))]
theorem get0 {d : ByteArray} (h0 : 0 < d.size) : d.data.toList.getD 0 0 = d[0] := by
  have := size_eq d
  rw [List.getD_eq_getElem?_getD, List.getElem?_eq_getElem (by omega)]; rfl
theorem dec_zero {s d : ByteArray} (h : d.data.toList = Lib.trimPrefix s.data.toList [45]) (h0 : 0 < d.size) (h1 : d[0] = 48) : decL s.data.toList = (s.toList == [48]) := by
  have := size_eq d
  unfold decL
  rw [← h, if_neg (by intro e; rw [e] at this; simp at this; omega), get0 h0, if_pos h1, Lib.toList_data]
  rw [Bool.eq_iff_iff]; simp
theorem dec_digits {s d : ByteArray} (h : d.data.toList = Lib.trimPrefix s.data.toList [45]) (h0 : 0 < d.size) (h1 : d[0] ≠ 48) : decL s.data.toList = allDg d.data.toList := by
  have := size_eq d
  unfold decL
  rw [← h, if_neg (by intro e; rw [e] at this; simp at this; omega), get0 h0, if_neg h1]
theorem trim_len (l : List UInt8) : (Lib.trimPrefix l [45]).length ≤ l.length := by
  unfold Lib.trimPrefix; split <;> simp
theorem isDecimal_any (s : ByteArray) (w : World) (hs : s.size ≤ maxLen) :
    Calls Tryz.prog 210 #[.string s] w fun e w' => e = .returned (.bool (decL s.data.toList)) ∧ w = w' := by
  unfold maxLen at hs
  go_enter Tryz.func210, Tryz.ntmps210
  go_wp2_with fail
  refine (trim_any _ _).mono ?_
  rintro e w' ⟨d, hd, rfl, rfl⟩
  have hdl : d.size ≤ 9223372036854775807 := by
    have h1 := size_eq d; have h2 := size_eq s; have h3 := trim_len s.data.toList; rw [hd] at h1; omega
  have HD := Lib.hid hd
  clear hd
  by_cases h0 : d.size = 0
  · have H1 := Lib.hid (dec_empty HD.out h0)
    have h2 : d.toList.isEmpty = true := by rw [nil_of h0]; rfl
    have h3 : d.toList = [] := nil_of h0
    clear h0 hdl
    go_wp2
    go_ret
    exact ⟨by rw [H1.out]; rfl, rfl⟩
  have h0' : 0 < d.size := by omega
  have h2 : d.toList.isEmpty = false := isEmpty_of h0'
  have h3 : d.toList ≠ [] := ne_nil_of h0'
  clear h0
  by_cases h1 : d[0] = 48
  · have H1 := Lib.hid (dec_zero HD.out h0' h1)
    have h4 : ((d[0].toNat : Int) == 48) = true := by rw [h1]; rfl
    clear h1
    go_wp2
    go_ret
    exact ⟨by rw [H1.out]; rfl, rfl⟩
  have H1 := Lib.hid (dec_digits HD.out h0' h1)
  have h4 : ((d[0].toNat : Int) == 48) = false := u8_ne h1
  clear h1
  go_wp2
  go_loop [4] (fun i => ∃ k : Nat, k ≤ d.size ∧ i = .int .i64 k ∧ allDg (d.data.toList.take k) = true) (fun i => d.size - (intOf i).toNat)
  case atStart => exact ⟨0, Nat.zero_le _, rfl, rfl⟩
  case round =>
    obtain ⟨k, hk, rfl, hall⟩ := hrel
    have HA := Lib.hid hall
    clear hall
    by_cases hlt : k < d.size
    · have hbk := byte_lt d[k]
      have hlk : k < d.data.toList.length := by rw [size_eq]; exact hlt
      cases hn : digB (d[k].toNat : Int)
      · have H2 : Hid (allDg d.data.toList = false) := Lib.hid (all_of_at d.data.toList (fun c => digB (c.toNat : Int)) k hlk hn)
        go_wp2_with (go_at_call 88; refine (isDigit_any _ _ (by omega) (by omega)).mono ?_; rintro e w' ⟨rfl, rfl⟩)
        go_ret
        exact ⟨by rw [H1.out, H2.out]; rfl, rfl⟩
      · have H2 : Hid (allDg (d.data.toList.take (k+1)) = true) := Lib.hid (all_take_succ d.data.toList (fun c => digB (c.toNat : Int)) k hlk HA.out hn)
        go_wp2_with (go_at_call 88; refine (isDigit_any _ _ (by omega) (by omega)).mono ?_; rintro e w' ⟨rfl, rfl⟩)
        go_round
        case rel => exact ⟨k + 1, by omega, by go_num, H2.out⟩
        case measure => simp [intOf]; omega
    · have H2 : Hid (allDg d.data.toList = true) := by
        have := HA.out
        rw [List.take_of_length_le (by rw [size_eq]; omega)] at this
        exact Lib.hid this
      go_wp2
      go_ret
      exact ⟨by rw [H1.out, H2.out]; rfl, rfl⟩
def numL (l : List UInt8) : Int × Int := if decL l then (match Lib.atoiAll l with | .ok v => (v, 0) | _ => (0, 4)) else (0, 3)
def num2 (p : Int × Int) : Value := .tuple #[.int .i64 p.1, .int .i64 p.2]
theorem number_no (s : ByteArray) (w : World) (hs : s.size ≤ maxLen) (h : decL s.data.toList = false) :
    Calls Tryz.prog 169 #[.string s] w fun e w' => e = .returned (num2 (0, 3)) ∧ Below w.heap.size w w' := by
  go_enter Tryz.func169, Tryz.ntmps169
  go_wp2_with (go_at_call 210; refine (isDecimal_any _ _ hs).mono ?_; rintro e w' ⟨rfl, rfl⟩)
  go_ret2
  exact ⟨rfl, Below.refl _ _⟩
theorem parse_digits : ∀ (l : List UInt8) (acc : Nat), allDg l = true → (∃ u, Lib.parseUint10 acc l = .ok u) ∨ Lib.parseUint10 acc l = .range
  | [], acc, _ => Or.inl ⟨acc, rfl⟩
  | c :: r, acc, h => by
    unfold allDg at h
    rw [List.all_cons, Bool.and_eq_true] at h
    have hc : 48 ≤ c.toNat ∧ c.toNat ≤ 57 := by have := h.1; unfold digB at this; simp at this; omega
    unfold Lib.parseUint10
    rw [if_pos hc]
    split
    · exact Or.inr rfl
    · split
      · exact Or.inr rfl
      · exact parse_digits r _ h.2
theorem mag_digits {l : List UInt8} (h0 : l ≠ []) (h : allDg l = true) : (∃ u, Lib.parseMag l = .ok u) ∨ Lib.parseMag l = .range := by
  unfold Lib.parseMag; rw [if_neg h0]; exact parse_digits l 0 h
theorem trim_minus (l : List UInt8) : Lib.trimPrefix (45 :: l) [45] = l := by
  unfold Lib.trimPrefix Lib.hasPrefix; simp
theorem trim_other {c : UInt8} (l : List UInt8) (h : c ≠ 45) : Lib.trimPrefix (c :: l) [45] = c :: l := by
  unfold Lib.trimPrefix Lib.hasPrefix
  rw [if_neg]; simp [h.symm]
theorem dec_parts {l : List UInt8} (h : decL l = true) : l = [48] ∨ ∃ d : List UInt8, d ≠ [] ∧ d.getD 0 0 ≠ 48 ∧ allDg d = true ∧ (l = d ∨ l = 45 :: d) ∧ d.getD 0 0 ≠ 45 ∧ d.getD 0 0 ≠ 43 := by
  cases l with
  | nil => exact absurd h (by decide)
  | cons c r =>
    have key : ∀ d : List UInt8, Lib.trimPrefix (c :: r) [45] = d → (c :: r = d ∨ c :: r = 45 :: d) → c :: r = [48] ∨ ∃ d : List UInt8, d ≠ [] ∧ d.getD 0 0 ≠ 48 ∧ allDg d = true ∧ (c :: r = d ∨ c :: r = 45 :: d) ∧ d.getD 0 0 ≠ 45 ∧ d.getD 0 0 ≠ 43 := by
      intro d hd hl
      unfold decL at h
      rw [hd] at h
      by_cases h0 : d = []
      · rw [if_pos h0] at h; cases h
      rw [if_neg h0] at h
      by_cases h1 : d.getD 0 0 = 48
      · rw [if_pos h1] at h; exact Or.inl (by simpa using h)
      rw [if_neg h1] at h
      refine Or.inr ⟨d, h0, h1, h, hl, ?_, ?_⟩
      all_goals
        cases d with
        | nil => exact absurd rfl h0
        | cons a d =>
          unfold allDg at h
          rw [List.all_cons, Bool.and_eq_true] at h
          have := h.1
          intro e
          simp at e
          subst e
          revert this; decide
    by_cases hc : c = 45
    · subst hc; exact key r (trim_minus r) (Or.inr rfl)
    · exact key (c :: r) (trim_other r hc) (Or.inl rfl)
theorem signed_or {e : Lib.NumEnd Nat} (h : (∃ u, e = .ok u) ∨ e = .range) : ((∃ v, Lib.signed e = .ok v) ∨ Lib.signed e = .range) ∧ ((∃ v, Lib.signless e = .ok v) ∨ Lib.signless e = .range) := by
  rcases h with ⟨u, rfl⟩ | rfl
  · unfold Lib.signed Lib.signless
    constructor
    all_goals
      simp only
      split
      · exact Or.inr rfl
      · exact Or.inl ⟨_, rfl⟩
  · exact ⟨Or.inr rfl, Or.inr rfl⟩
theorem u8_val_ne {c d : UInt8} (h : c ≠ d) : c.toNat ≠ d.toNat := fun e => h (UInt8.toNat_inj.1 e)
theorem atoi_of_dec {l : List UInt8} (h : decL l = true) : (∃ v, Lib.atoiAll l = .ok v) ∨ Lib.atoiAll l = .range := by
  rcases dec_parts h with rfl | ⟨d, h0, _, h2, h3, h4, h5⟩
  · exact Or.inl ⟨0, by decide⟩
  · have hm := signed_or (mag_digits h0 h2)
    rcases h3 with rfl | rfl
    · cases l with
      | nil => exact absurd rfl h0
      | cons a l =>
        simp at h4 h5
        rw [Lib.atoiAll_plain a l (u8_val_ne h5) (u8_val_ne h4)]; exact hm.2
    · rw [Lib.atoiAll_minus]; exact hm.1
theorem number_ok (s : ByteArray) (w : World) (hs : s.size ≤ 281474976710656) (h : decL s.data.toList = true) (v : Int) (hv : Lib.atoiAll s.data.toList = .ok v) :
    Calls Tryz.prog 169 #[.string s] w fun e w' => e = .returned (num2 (v, 0)) ∧ Below w.heap.size w w' := by
  have HC := Lib.hid (Tryz.strconv_Atoi_ok s (by omega) v hv w)
  clear hv
  go_enter Tryz.func169, Tryz.ntmps169
  go_wp2_with (go_at_call 210; refine (isDecimal_any _ _ (by unfold maxLen; omega)).mono ?_; rintro e w' ⟨rfl, rfl⟩)
  refine HC.out.mono ?_
  rintro e w' ⟨rfl, hw⟩
  have hb : Below w.heap.size w w' := by
    rcases hw with rfl | ⟨t, rfl⟩
    · exact Below.refl _ _
    · exact Lib.bytesWorld_below _ _ _
  clear hw
  go_wp2
  go_ret2
  exact ⟨rfl, hb⟩
theorem number_range (s : ByteArray) (w : World) (hL : Laid w) (hs : s.size ≤ 281474976710656) (h : decL s.data.toList = true) (hv : Lib.atoiAll s.data.toList = .range) :
    Calls Tryz.prog 169 #[.string s] w fun e w' => e = .returned (num2 (0, 4)) ∧ Below w.heap.size w w' := by
  obtain ⟨te, pe, hc⟩ := hL.rng
  have HC := Lib.hid (Tryz.strconv_Atoi_range s hs hv _ w hc (Or.inr ⟨te, pe, rfl⟩))
  clear hv hc
  go_enter Tryz.func169, Tryz.ntmps169
  go_wp2_with (go_at_call 210; refine (isDecimal_any _ _ (by unfold maxLen; omega)).mono ?_; rintro e w' ⟨rfl, rfl⟩)
  refine HC.out.mono ?_
  rintro e w' ⟨N, rfl, _, _, hb⟩
  go_wp2
  go_ret2
  exact ⟨rfl, hb⟩
theorem number_any (s : ByteArray) (w : World) (hL : Laid w) (hs : s.size ≤ 281474976710656) :
    Calls Tryz.prog 169 #[.string s] w fun e w' => e = .returned (num2 (numL s.data.toList)) ∧ Below w.heap.size w w' := by
  unfold numL
  cases h : decL s.data.toList
  · exact number_no s w (by unfold maxLen; omega) h
  · rcases atoi_of_dec h with ⟨v, hv⟩ | hv
    · rw [hv]; exact number_ok s w hs h v hv
    · rw [hv]; exact number_range s w hL hs h hv
end Go.Proofs.YthjoelpfmimedaaGreatDoor.T1
namespace Go.Proofs.YthjoelpfmimedaaGreatDoor.K
open Go.RowKit
def spanL {σ : Type} (step : σ → UInt8 → Option σ) : σ → List UInt8 → Nat
  | _, [] => 0
  | st, c :: r => match step st c with
    | none => 0
    | some st' => spanL step st' r + 1
def sepS (inC : Bool) (c : UInt8) : Option Bool :=
  if c = 35 then some true else if c = 10 ∨ c = 13 then some false else if c = 32 ∨ c = 9 ∨ c = 44 then some inC else if inC = true then some true else none
def wdB (c : UInt8) : Bool := T1.nmB (c.toNat : Int)
def wdS (u : Unit) (c : UInt8) : Option Unit := if wdB c = true then some u else none
def ltS (skip : Bool) (c : UInt8) : Option Bool := if c = 34 ∧ skip = false then none else some (decide (c = 92) && !skip)
def sepN (l : List UInt8) : Nat := spanL sepS false l
def wdN (l : List UInt8) : Nat := spanL wdS () l
def ltN (l : List UInt8) : Nat := spanL ltS false l
def sgL : List UInt8 := [33, 36, 38, 40, 41, 58, 61, 64, 91, 93, 123, 124, 125]
def elL : List UInt8 := [46, 46, 46]
def dmB (c : UInt8) : Bool := T1.digB (c.toNat : Int) || decide (c = 45)
def tokR (l : List UInt8) : Except Int (Int × List UInt8 × Nat) :=
  let c := l.getD 0 0
  if c ∈ sgL then .ok (1, l.take 1, 1)
  else if l.take 3 = elL then .ok (1, elL, 3)
  else if T1.letU (c.toNat : Int) = true then
    if T1.nameL (l.take (wdN l)) = true then .ok (2, l.take (wdN l), wdN l) else .error 3
  else if dmB c = true then
    if (T1.numL (l.take (wdN (l.drop 1) + 1))).2 = 0 then .ok (3, l.take (wdN (l.drop 1) + 1), wdN (l.drop 1) + 1) else .error (T1.numL (l.take (wdN (l.drop 1) + 1))).2
  else if c = 34 then
    if l.length < ltN (l.drop 1) + 2 then .error 3 else match T1.unquoteL (l.take (ltN (l.drop 1) + 2)) with
      | none => .error 3
      | some t => .ok (4, t, ltN (l.drop 1) + 2)
  else .error 3
abbrev Tk := Int × List UInt8 × Nat
def scF : Nat → Nat → List UInt8 → Except (Nat × Int) (List Tk)
  | 0, _, _ => .error (0, 99)
  | f + 1, at', l =>
    if l.drop (sepN l) = [] then .ok [(5, [], at' + sepN l)] else
      match tokR (l.drop (sepN l)) with
      | .error c => .error (at' + sepN l, c)
      | .ok (k, t, n) => match scF f (at' + sepN l + n) ((l.drop (sepN l)).drop n) with
        | .error e => .error e
        | .ok ts => .ok ((k, t, at' + sepN l) :: ts)
def scR (l : List UInt8) : Except (Nat × Int) (List Tk) := if 65536 < l.length then .error (65536, 4) else scF (l.length + 1) 0 l
section
variable {σ : Type} {step : σ → UInt8 → Option σ}
theorem spanL_le (st : σ) (l : List UInt8) : spanL step st l ≤ l.length := by
  induction l generalizing st with
  | nil => exact Nat.le_refl _
  | cons c r ih =>
    unfold spanL
    cases h : step st c with
    | none => exact Nat.zero_le _
    | some s2 => exact Nat.succ_le_succ (ih s2)
end
theorem sepN_le (l : List UInt8) : sepN l ≤ l.length := spanL_le _ _
theorem wdN_le (l : List UInt8) : wdN l ≤ l.length := spanL_le _ _
theorem ltN_le (l : List UInt8) : ltN l ≤ l.length := spanL_le _ _
theorem letU_wdB {c : UInt8} (h : T1.letU (c.toNat : Int) = true) : wdB c = true := by
  unfold wdB; rw [T1.nm_of, h]; rfl
theorem wdN_pos {l : List UInt8} (hl : l ≠ []) (h : T1.letU ((l.getD 0 0).toNat : Int) = true) : 1 ≤ wdN l := by
  cases l with
  | nil => exact absurd rfl hl
  | cons c r =>
    have h1 : wdB c = true := letU_wdB h
    unfold wdN spanL wdS
    rw [if_pos h1]
    exact Nat.le_add_left _ _
theorem tokR_len {l : List UInt8} {k : Int} {t : List UInt8} {n : Nat} (hl : l ≠ []) (h : tokR l = .ok (k, t, n)) : 1 ≤ n ∧ n ≤ l.length := by
  have h0 : 1 ≤ l.length := List.length_pos_iff.2 hl
  have hd : wdN (l.drop 1) + 1 ≤ l.length := by have := wdN_le (l.drop 1); rw [List.length_drop] at this; omega
  have hw := wdN_le l
  unfold tokR at h
  simp only at h
  split at h
  · cases h; exact ⟨Nat.le_refl _, h0⟩
  · split at h
    · next h3 =>
      have h4 : (l.take 3).length = 3 := by rw [h3]; rfl
      rw [List.length_take] at h4
      cases h; exact ⟨by omega, by omega⟩
    · split at h
      · next h3 =>
        split at h
        · cases h; exact ⟨wdN_pos hl h3, hw⟩
        · cases h
      · split at h
        · split at h
          · cases h; exact ⟨by omega, hd⟩
          · cases h
        · split at h
          · split at h
            · cases h
            · split at h
              · cases h
              · cases h; exact ⟨by omega, by omega⟩
          · cases h
end Go.Proofs.YthjoelpfmimedaaGreatDoor.K
namespace Go.Proofs.YthjoelpfmimedaaGreatDoor.K
open Go.RowKit
structure Bes (p N : Nat) (w w' : World) : Prop where
  os : w'.os = w.os
  tape : w'.tape = w.tape
  output : w'.output = w.output
  size : w.heap.size ≤ w'.heap.size
  block : ∀ k, k < N → k ≠ p → w'.heap[k]? = w.heap[k]?
theorem Bes.refl (p N : Nat) (w : World) : Bes p N w w := ⟨rfl, rfl, rfl, Nat.le_refl _, fun _ _ _ => rfl⟩
theorem Bes.trans {p N : Nat} {a b c : World} (h : Bes p N a b) (k : Bes p N b c) : Bes p N a c :=
  ⟨k.os.trans h.os, k.tape.trans h.tape, k.output.trans h.output, Nat.le_trans h.size k.size, fun i hi hp => (k.block i hi hp).trans (h.block i hi hp)⟩
theorem Bes.mono {p N N' : Nat} {w w' : World} (h : Bes p N w w') (hN : N' ≤ N) : Bes p N' w w' := ⟨h.os, h.tape, h.output, h.size, fun k hk hp => h.block k (Nat.lt_of_lt_of_le hk hN) hp⟩
theorem Bes.below {p N M : Nat} {w w' : World} (h : Bes p N w w') (hp : M ≤ p) (hN : M ≤ N) : Below M w w' := ⟨h.os, h.tape, h.output, h.size, fun k hk => h.block k (by omega) (by omega)⟩
theorem Bes.of {p N : Nat} {w w' : World} (h : Below N w w') : Bes p N w w' := ⟨h.os, h.tape, h.output, h.size, fun k hk _ => h.block k hk⟩
theorem Bes.set {p N : Nat} {a w : World} (h : Bes p N a w) (i : Nat) (u : Value) : Bes p N a (w.setCell ⟨p, i, none⟩ u) :=
  h.trans ⟨rfl, rfl, rfl, by simp [World.setCell], fun k _ hp => Below.heap_setCell _ _ _ _ hp⟩
theorem decode_more (s : ByteArray) (pos : Nat) (h : pos < s.size) (ha : 128 ≤ (s[pos]'h).toNat) : 1 ≤ (Utf8.decode s pos).2 ∧ 128 ≤ (Utf8.decode s pos).1 ∧ pos + (Utf8.decode s pos).2 ≤ s.size ∧ ∀ j, j < (Utf8.decode s pos).2 → 128 ≤ (s.get! (pos + j)).toNat := by
  have hh := decode_high s pos h ha
  refine ⟨hh.2, hh.1, ?_⟩
  have h0 : (s.get! (pos + 0)).toNat = (s[pos]'h).toNat := by rw [get_at s pos h]
  have hn : ¬ (s.get! (pos + 0)).toNat < 128 := by omega
  have hc : ∀ k, (decide (pos + k < s.size) && (s.get! (pos + k)).toNat / 64 == 2) = true → pos + k < s.size ∧ 128 ≤ (s.get! (pos + k)).toNat := by
    intro k hk
    simp only [Bool.and_eq_true, decide_eq_true_eq, beq_iff_eq] at hk
    exact ⟨hk.1, by omega⟩
  have one : ∀ j, j < 1 → 128 ≤ (s.get! (pos + j)).toNat := fun j hj => by
    obtain rfl : j = 0 := by omega
    omega
  have hcases : (Utf8.decode s pos).2 = 1 ∨ ((Utf8.decode s pos).2 = 2 ∧ (decide (pos + 1 < s.size) && (s.get! (pos + 1)).toNat / 64 == 2) = true)
      ∨ ((Utf8.decode s pos).2 = 3 ∧ (decide (pos + 1 < s.size) && (s.get! (pos + 1)).toNat / 64 == 2) = true ∧ (decide (pos + 2 < s.size) && (s.get! (pos + 2)).toNat / 64 == 2) = true)
      ∨ ((Utf8.decode s pos).2 = 4 ∧ (decide (pos + 1 < s.size) && (s.get! (pos + 1)).toNat / 64 == 2) = true ∧ (decide (pos + 2 < s.size) && (s.get! (pos + 2)).toNat / 64 == 2) = true ∧ (decide (pos + 3 < s.size) && (s.get! (pos + 3)).toNat / 64 == 2) = true) := by
    unfold Utf8.decode
    simp only [hn, if_false]
    split
    · next h1 =>
      rw [Bool.and_eq_true] at h1
      split
      · exact .inr (.inl ⟨rfl, h1.2⟩)
      · exact .inl rfl
    · split
      · next h1 =>
        simp only [Bool.and_eq_true (_ && _)] at h1
        split
        · refine .inr (.inr (.inl ⟨rfl, ?_, h1.2⟩))
          have := h1.1; rw [Bool.and_eq_true] at this; exact this.2
        · exact .inl rfl
      · split
        · next h1 =>
          rw [Bool.and_eq_true] at h1
          have h2 := h1.1
          rw [Bool.and_eq_true] at h2
          have h3 := h2.1
          rw [Bool.and_eq_true] at h3
          split
          · exact .inr (.inr (.inr ⟨rfl, h3.2, h2.2, h1.2⟩))
          · exact .inl rfl
        · exact .inl rfl
  rcases hcases with e | ⟨e, a⟩ | ⟨e, a, b⟩ | ⟨e, a, b, c⟩
  · rw [e]; exact ⟨by omega, one⟩
  · rw [e]
    have := hc 1 a
    refine ⟨by omega, fun j hj => ?_⟩
    have : j = 0 ∨ j = 1 := by omega
    rcases this with rfl | rfl <;> omega
  · rw [e]
    have := hc 1 a
    have := hc 2 b
    refine ⟨by omega, fun j hj => ?_⟩
    have : j = 0 ∨ j = 1 ∨ j = 2 := by omega
    rcases this with rfl | rfl | rfl <;> omega
  · rw [e]
    have := hc 1 a
    have := hc 2 b
    have := hc 3 c
    refine ⟨by omega, fun j hj => ?_⟩
    have : j = 0 ∨ j = 1 ∨ j = 2 ∨ j = 3 := by omega
    rcases this with rfl | rfl | rfl | rfl <;> omega
section
variable {σ : Type} {step : σ → UInt8 → Option σ} {hi : σ → Option σ}
theorem span_high (h1 : ∀ st c, 128 ≤ c.toNat → step st c = hi st) (h2 : ∀ st st', hi st = some st' → hi st' = some st') : ∀ (a r : List UInt8) (st : σ), a ≠ [] → (∀ c ∈ a, 128 ≤ c.toNat) →
    spanL step st (a ++ r) = match hi st with
      | none => 0
      | some st' => a.length + spanL step st' r
  | [], _, _, h, _ => absurd rfl h
  | c :: a, r, st, _, ha => by
    rw [List.cons_append, spanL, h1 st c (ha c List.mem_cons_self)]
    cases hs : hi st with
    | none => rfl
    | some st' =>
      show spanL step st' (a ++ r) + 1 = _
      cases a with
      | nil => simp [Nat.add_comm]
      | cons d a2 =>
        rw [span_high h1 h2 (d :: a2) r st' (by simp) (fun x hx => ha x (List.mem_cons_of_mem _ hx)), h2 st st' hs]
        simp only [List.length_cons]; omega
end
theorem get!_eq (s : ByteArray) (k : Nat) (h : k < s.size) : s.get! k = s[k]'h := get_at s k h
theorem drop_ascii (s : ByteArray) (pos : Nat) (h : pos < s.size) : s.data.toList.drop pos = s[pos] :: s.data.toList.drop (pos + 1) := by
  have hl : pos < s.data.toList.length := by rw [T1.size_eq]; exact h
  exact (List.getElem_cons_drop hl).symm
theorem drop_high (s : ByteArray) (pos : Nat) (h : pos < s.size) (ha : 128 ≤ (s[pos]'h).toNat) : ∃ a, s.data.toList.drop pos = a ++ s.data.toList.drop (pos + (Utf8.decode s pos).2) ∧ a ≠ [] ∧ a.length = (Utf8.decode s pos).2 ∧ ∀ c ∈ a, 128 ≤ c.toNat := by
  obtain ⟨h1, _, h3, h4⟩ := decode_more s pos h ha
  generalize (Utf8.decode s pos).2 = k at *
  have hl := T1.size_eq s
  refine ⟨(s.data.toList.drop pos).take k, ?_, ?_, ?_, ?_⟩
  · rw [← List.drop_drop, List.take_append_drop]
  · intro e
    have := congrArg List.length e
    rw [List.length_take, List.length_drop] at this
    simp at this; omega
  · rw [List.length_take, List.length_drop]; omega
  · intro c hc
    obtain ⟨j, hj, rfl⟩ := List.getElem_of_mem hc
    rw [List.length_take, List.length_drop] at hj
    rw [List.getElem_take, List.getElem_drop]
    have := h4 j (by omega)
    rw [get!_eq s (pos + j) (by omega)] at this
    exact this
theorem span_step {σ : Type} {step : σ → UInt8 → Option σ} {hi : σ → Option σ} (h1 : ∀ st c, 128 ≤ c.toNat → step st c = hi st) (h2 : ∀ st st', hi st = some st' → hi st' = some st') (s : ByteArray) (pos : Nat) (h : pos < s.size) (st : σ) :
    1 ≤ (Utf8.decode s pos).2 ∧ pos + (Utf8.decode s pos).2 ≤ s.size ∧
    spanL step st (s.data.toList.drop pos) = match (if (Utf8.decode s pos).1 < 128 then step st (Utf8.decode s pos).1.toUInt8 else hi st) with
      | none => 0
      | some st2 => (Utf8.decode s pos).2 + spanL step st2 (s.data.toList.drop (pos + (Utf8.decode s pos).2)) := by
  rcases Nat.lt_or_ge (s[pos]).toNat 128 with ha | ha
  · have e := decode_ascii s pos h ha
    rw [e]
    refine ⟨Nat.le_refl _, by show pos + 1 ≤ _; omega, ?_⟩
    have e2 : ((s[pos]).toNat).toUInt8 = s[pos] := by rw [Nat.toUInt8_eq, UInt8.ofNat_toNat]
    show _ = match (if (s[pos]).toNat < 128 then step st ((s[pos]).toNat).toUInt8 else hi st) with
      | none => 0
      | some st2 => 1 + spanL step st2 (s.data.toList.drop (pos + 1))
    rw [if_pos ha, e2, drop_ascii s pos h, spanL]
    cases step st s[pos] with
    | none => rfl
    | some st2 => exact Nat.add_comm _ _
  · obtain ⟨g1, g2, g3, _⟩ := decode_more s pos h ha
    obtain ⟨a, ea, hne, hl, hc⟩ := drop_high s pos h ha
    refine ⟨g1, g3, ?_⟩
    rw [if_neg (by omega), ea, span_high h1 h2 a _ st hne hc, hl]
theorem decode_valid (s : ByteArray) (pos : Nat) (h : pos < s.size) (ha : 128 ≤ (s[pos]'h).toNat) : Utf8.valid (Utf8.decode s pos).1 = true := by
  have h0 : (s.get! (pos + 0)).toNat = (s[pos]'h).toNat := by rw [get_at s pos h]
  have hn : ¬ (s.get! (pos + 0)).toNat < 128 := by omega
  have hb : ∀ k, (s.get! (pos + k)).toNat < 256 := fun k => (s.get! (pos + k)).toNat_lt
  have b0 := hb 0
  have b1 := hb 1
  have e : Utf8.valid (Utf8.runeError : Nat) = true := by decide
  unfold Utf8.decode
  simp only [hn, if_false]
  split
  · next h1 =>
    rw [Bool.and_eq_true, beq_iff_eq] at h1
    split
    · rw [validRune_eq]
      unfold validRune
      apply decide_eq_true
      left
      have := h1.1
      show (0 : Int) ≤ ((((s.get! (pos + 0)).toNat % 32) * 64 + (s.get! (pos + 1)).toNat % 64 : Nat) : Int) ∧ _
      omega
    · exact e
  · split
    · split
      · next h2 => rw [Bool.and_eq_true] at h2; exact h2.2
      · exact e
    · split
      · split
        · next h2 => rw [Bool.and_eq_true] at h2; exact h2.2
        · exact e
      · exact e
theorem decode_ok (s : ByteArray) (pos : Nat) (h : pos < s.size) : (Utf8.decode s pos).1 < 128 ∨ Utf8.valid (Utf8.decode s pos).1 = true := by
  rcases Nat.lt_or_ge (s[pos]).toNat 128 with ha | ha
  · rw [decode_ascii s pos h ha]; exact .inl ha
  · exact .inr (decode_valid s pos h ha)
def SpPost {σ : Type} (o : Option σ) (Inv : σ → World → Prop) (p : Nat) (w : World) (e : Ending) (w' : World) : Prop :=
  e = .returned (.bool o.isSome) ∧ (∀ st', o = some st' → Inv st' w') ∧ Bes p w.heap.size w w'
set_option maxRecDepth 100000 in
set_option maxHeartbeats 4000000 in
theorem span_any {σ : Type} {step : σ → UInt8 → Option σ} {hi : σ → Option σ} {Inv : σ → World → Prop} {p : Nat} (F : FuncId) (hF : F = 107 ∨ F = 209 ∨ F = 170) (caps : Array Value)
    (h1 : ∀ st c, 128 ≤ c.toNat → step st c = hi st) (h2 : ∀ st st', hi st = some st' → hi st' = some st')
    (hst : ∀ (st : σ) (r : Nat) (w : World), Inv st w → r ≤ 2147483647 → (r < 128 ∨ Utf8.valid r = true) → Calls Tryz.prog F (#[.int .i32 r] ++ caps) w (SpPost (if r < 128 then step st r.toUInt8 else hi st) Inv p w))
    (hmv : ∀ st w w', Inv st w → w'.heap[p]? = w.heap[p]? → Inv st w')
    (s : ByteArray) (hs : s.size ≤ maxLen) (st : σ) (w : World) (h : Inv st w) (hpk : p ≠ w.heap.size) :
    Calls Tryz.prog 106 #[.string s, .func (.func F) #[] caps] w fun e w' => e = .returned (.int .i64 (spanL step st s.data.toList)) ∧ Bes p w.heap.size w w' := by
  have H1 := Lib.hid h1
  have H2 := Lib.hid h2
  have HST := Lib.hid hst
  have HMV := Lib.hid hmv
  have HI := Lib.hid h
  have HS := Lib.hid hs
  have HPK := Lib.hid hpk
  clear h1 h2 hst hmv h hs hpk
  have hml : maxLen ≤ 9223372036854775807 := by decide
  go_enter Tryz.func106, Tryz.ntmps106
  go_wp2_with fail
  go_loopw [] (fun wr => ∃ (pos : Nat) (st' : σ), wr.heap[w.heap.size]? = some (.stringIter s pos) ∧ pos ≤ s.size ∧ Inv st' wr ∧ spanL step st s.data.toList = pos + spanL step st' (s.data.toList.drop pos) ∧ Bes p w.heap.size w wr ∧ w.heap.size < wr.heap.size)
    (fun wr => s.size - wr.iterPos w.heap.size)
  case atStart =>
    refine ⟨0, st, World.iter_heap w s 0, Nat.zero_le _, HMV.out _ _ _ HI.out ?_, by simp, Bes.of ((Below.refl _ _).alloc (Nat.le_refl _) _), by simp [World.iter]⟩
    have := HPK.out
    show (w.alloc (.stringIter s 0)).heap[p]? = _
    rcases Nat.lt_or_ge p w.heap.size with h | h
    · exact Below.heap_alloc _ _ _ h
    · rw [Array.getElem?_eq_none (by simp; omega), Array.getElem?_eq_none h]
  case round =>
    obtain ⟨pos, st', hit, hp0, hi', hR, hb, hsz⟩ := hrel
    have HB := Lib.hid hb
    have HR := Lib.hid hR
    have HII := Lib.hid hi'
    clear hb hR hi'
    have hpk := HPK.out
    have hpi : (wr.iterAt w.heap.size s (pos + (Utf8.decode s pos).2)).heap[p]? = wr.heap[p]? := Lib.iterAt_other wr w.heap.size p s _ hpk
    have HPI := Lib.hid hpi
    clear hpi
    by_cases hp : pos < s.size
    · have hnx : ∀ ty, (Instr.next (.pointer (some ⟨w.heap.size, 0, none⟩)) true ty).run Tryz.prog wr = _ := fun ty => Lib.run_next_any_at wr w.heap.size s pos ty hit hp
      have hd1 := decode_le s pos
      have HIT := Lib.hid (Lib.iterAt_heap wr w.heap.size s pos (pos + (Utf8.decode s pos).2) hit)
      have HB2 : Hid (Bes p w.heap.size w (wr.iterAt w.heap.size s (pos + (Utf8.decode s pos).2))) := Lib.hid (HB.out.trans (Bes.of (Lib.below_iterAt (Below.refl _ _) (Nat.le_refl _) s _)))
      have HSZ : Hid (w.heap.size < (wr.iterAt w.heap.size s (pos + (Utf8.decode s pos).2)).heap.size) := Lib.hid (by rw [Lib.iterAt_size]; exact hsz)
      have CALL := Lib.hid (HST.out st' (Utf8.decode s pos).1 (wr.iterAt w.heap.size s (pos + (Utf8.decode s pos).2)) (HMV.out _ _ _ HII.out HPI.out) hd1 (decode_ok s pos hp))
      have STEP := Lib.hid (span_step H1.out H2.out s pos hp st')
      have HH := Lib.hid hit
      clear hit hpk
      generalize hr : (Utf8.decode s pos).1 = r at *
      generalize hk : (Utf8.decode s pos).2 = k at *
      rcases hF with rfl | rfl | rfl
      all_goals
        go_wp2_with fail
        refine CALL.out.mono ?_
        rintro e w1 ⟨rfl, hI1, hb1⟩
        have hbs := hb1.size
        have hit1 : w1.heap[w.heap.size]? = some (.stringIter s (pos + k)) := (hb1.block w.heap.size HSZ.out HPK.out.symm).trans HIT.out
        have HIT1 := Lib.hid hit1
        have HB1 := Lib.hid (HB2.out.trans (hb1.mono (Nat.le_of_lt HSZ.out)))
        have HSZ1 : Hid (w.heap.size < w1.heap.size) := Lib.hid (Nat.lt_of_lt_of_le HSZ.out hbs)
        have HI1 := Lib.hid hI1
        have hm := HS.out
        clear hI1 hb1 hbs hit1
        cases ho : (if r < 128 then step st' r.toUInt8 else hi st') with
        | none =>
          have E1 : Hid (spanL step st s.data.toList = pos) := Lib.hid (by rw [HR.out, STEP.out.2.2, ho]; exact Nat.add_zero _)
          clear ho
          go_wp2_with fail
          go_ret
          exact ⟨by rw [E1.out]; rfl, HB1.out⟩
        | some st2 =>
          have E1 : Hid (spanL step st s.data.toList = pos + k + spanL step st2 (s.data.toList.drop (pos + k))) := Lib.hid (by rw [HR.out, STEP.out.2.2, ho]; simp only [Nat.add_assoc])
          have HI2 := Lib.hid (HI1.out st2 ho)
          have hk1 := STEP.out.1
          have hk2 := STEP.out.2.1
          clear ho
          go_wp2_with fail
          go_roundw
          case rel => exact ⟨pos + k, st2, HIT1.out, hk2, HI2.out, E1.out, HB1.out, HSZ1.out⟩
          case measure =>
            simp only [World.iterPos, HIT1.out, HH.out]
            omega
    · have hnx : ∀ ty, (Instr.next (.pointer (some ⟨w.heap.size, 0, none⟩)) true ty).run Tryz.prog wr = _ := fun ty => Lib.run_next_end_at wr w.heap.size s pos ty hit hp
      have E1 : Hid (spanL step st s.data.toList = s.size) := Lib.hid (by
        rw [HR.out, List.drop_eq_nil_of_le (by rw [T1.size_eq]; omega)]
        show pos + 0 = _
        omega)
      go_wp2_with fail
      go_ret
      exact ⟨by rw [E1.out]; rfl, HB.out⟩
end Go.Proofs.YthjoelpfmimedaaGreatDoor.K
namespace Go.Proofs.YthjoelpfmimedaaGreatDoor.K
open Go.RowKit
abbrev pp (p : Nat) : Value := .pointer (some ⟨p, 0, none⟩)
def BoxB (p : Nat) (b : Bool) (w : World) : Prop := w.heap[p]? = some (.cells #[.bool b] 4 (0, 0))
theorem BoxB.cell {p : Nat} {b : Bool} {w : World} (h : BoxB p b w) : w.cell? ⟨p, 0, none⟩ = some (.bool b) ∧ w.frozen? ⟨p, 0, none⟩ = false := by
  unfold BoxB at h
  refine ⟨by rw [cell_of_row _ _ _ _ _ _ h]; rfl, by simp [World.frozen?, h]⟩
theorem BoxB.set {p : Nat} {b : Bool} {w : World} (h : BoxB p b w) (c : Bool) : BoxB p c (w.setCell ⟨p, 0, none⟩ (.bool c)) := by
  unfold BoxB at h ⊢; simp [World.setCell, Array.getElem?_modify, h]
theorem BoxB.kept {p : Nat} {b : Bool} (w w' : World) (h : BoxB p b w) (e : w'.heap[p]? = w.heap[p]?) : BoxB p b w' := by
  unfold BoxB at *; rw [e]; exact h
theorem u8_small {r : Nat} (h : r < 128) : (r.toUInt8).toNat = r := by
  rw [Nat.toUInt8_eq, UInt8.toNat_ofNat']; omega
theorem u8_is {r n : Nat} (h : r < 128) (hn : n < 128) : (r.toUInt8 = n.toUInt8) ↔ r = n := by
  constructor
  · intro e
    have := congrArg UInt8.toNat e
    rw [u8_small h, u8_small hn] at this
    exact this
  · rintro rfl; rfl
def sepHi (st : Bool) : Option Bool := if st = true then some true else none
def sepR (st : Bool) (r : Nat) : Option Bool := if r = 35 then some true else if r = 10 ∨ r = 13 then some false else if r = 32 ∨ r = 9 ∨ r = 44 then some st else sepHi st
theorem sepR_eq (st : Bool) (r : Nat) : (if r < 128 then sepS st r.toUInt8 else sepHi st) = sepR st r := by
  unfold sepR
  by_cases h : r < 128
  · rw [if_pos h]
    unfold sepS
    have e : ∀ n : Nat, n < 128 → (r.toUInt8 = n.toUInt8 ↔ r = n) := fun n hn => u8_is h hn
    have e35 : (r.toUInt8 = 35) ↔ r = 35 := e 35 (by omega)
    have e10 : (r.toUInt8 = 10) ↔ r = 10 := e 10 (by omega)
    have e13 : (r.toUInt8 = 13) ↔ r = 13 := e 13 (by omega)
    have e32 : (r.toUInt8 = 32) ↔ r = 32 := e 32 (by omega)
    have e9 : (r.toUInt8 = 9) ↔ r = 9 := e 9 (by omega)
    have e44 : (r.toUInt8 = 44) ↔ r = 44 := e 44 (by omega)
    simp only [e35, e10, e13, e32, e9, e44]
    rfl
  · rw [if_neg h, if_neg (by omega), if_neg (by omega), if_neg (by omega)]
theorem sep_high (st : Bool) (c : UInt8) (h : 128 ≤ c.toNat) : sepS st c = sepHi st := by
  have e : ∀ n : UInt8, n.toNat < 128 → c ≠ n := fun n hn e => by subst e; omega
  unfold sepS
  rw [if_neg (e 35 (by decide)), if_neg (by intro h; exact h.elim (e 10 (by decide)) (e 13 (by decide))), if_neg (by intro h; exact h.elim (e 32 (by decide)) (fun h => h.elim (e 9 (by decide)) (e 44 (by decide))))]
  rfl
theorem sepHi_idem (st st' : Bool) (h : sepHi st = some st') : sepHi st' = some st' := by
  cases st <;> cases h; rfl
set_option maxRecDepth 100000 in
set_option maxHeartbeats 2000000 in
theorem sep1_any (p : Nat) (st : Bool) (r : Nat) (w : World) (h : BoxB p st w) (hr : r ≤ 2147483647) : Calls Tryz.prog 107 (#[.int .i32 r] ++ #[pp p]) w (SpPost (if r < 128 then sepS st r.toUInt8 else sepHi st) (BoxB p) p w) := by
  rw [sepR_eq]
  obtain ⟨q0, f0⟩ := h.cell
  have HB := Lib.hid h
  have HT := Lib.hid (h.set true)
  have HF := Lib.hid (h.set false)
  have B0 := Bes.refl p w.heap.size w
  have BT := Lib.hid (B0.set 0 (.bool true))
  have BF := Lib.hid (B0.set 0 (.bool false))
  clear h B0
  show Calls _ _ #[.int .i32 r, pp p] w _
  unfold sepR
  by_cases h35 : r = 35
  · subst h35
    go_enter Tryz.func107, Tryz.ntmps107
    go_wp2_with fail
    go_ret
    exact ⟨rfl, fun st' e => by cases e; exact HT.out, BT.out⟩
  rw [if_neg h35]
  have n35 : ¬ ((r : Int) = 35) := by omega
  by_cases h10 : r = 10
  · subst h10
    go_enter Tryz.func107, Tryz.ntmps107
    go_wp2_with fail
    go_ret
    exact ⟨rfl, fun st' e => by cases e; exact HF.out, BF.out⟩
  by_cases h13 : r = 13
  · subst h13
    go_enter Tryz.func107, Tryz.ntmps107
    go_wp2_with fail
    go_ret
    exact ⟨rfl, fun st' e => by cases e; exact HF.out, BF.out⟩
  rw [if_neg (by omega)]
  have n10 : ¬ ((r : Int) = 10) := by omega
  have n13 : ¬ ((r : Int) = 13) := by omega
  by_cases h32 : r = 32
  · subst h32
    go_enter Tryz.func107, Tryz.ntmps107
    go_wp2_with fail
    go_ret
    exact ⟨rfl, fun st' e => by cases e; exact HB.out, Bes.refl _ _ _⟩
  by_cases h9 : r = 9
  · subst h9
    go_enter Tryz.func107, Tryz.ntmps107
    go_wp2_with fail
    go_ret
    exact ⟨rfl, fun st' e => by cases e; exact HB.out, Bes.refl _ _ _⟩
  by_cases h44 : r = 44
  · subst h44
    go_enter Tryz.func107, Tryz.ntmps107
    go_wp2_with fail
    go_ret
    exact ⟨rfl, fun st' e => by cases e; exact HB.out, Bes.refl _ _ _⟩
  rw [if_neg (by omega)]
  have n32 : ¬ ((r : Int) = 32) := by omega
  have n9 : ¬ ((r : Int) = 9) := by omega
  have n44 : ¬ ((r : Int) = 44) := by omega
  clear h35 h10 h13 h32 h9 h44
  go_enter Tryz.func107, Tryz.ntmps107
  go_wp2_with fail
  go_ret
  cases st with
  | true => exact ⟨rfl, fun st' e => by cases e; exact HB.out, Bes.refl _ _ _⟩
  | false => exact ⟨rfl, fun st' e => by (cases e), Bes.refl _ _ _⟩
def ltHi (_ : Bool) : Option Bool := some false
def ltR (st : Bool) (r : Nat) : Option Bool := if r = 34 ∧ st = false then none else some (decide (r = 92) && !st)
theorem ltR_eq (st : Bool) (r : Nat) : (if r < 128 then ltS st r.toUInt8 else ltHi st) = ltR st r := by
  unfold ltR
  by_cases h : r < 128
  · rw [if_pos h]
    unfold ltS
    have e : ∀ n : Nat, n < 128 → (r.toUInt8 = n.toUInt8 ↔ r = n) := fun n hn => u8_is h hn
    have e34 : (r.toUInt8 = 34) ↔ r = 34 := e 34 (by omega)
    have e92 : (r.toUInt8 = 92) ↔ r = 92 := e 92 (by omega)
    simp only [e34, e92]
  · rw [if_neg h, if_neg (by omega), decide_eq_false (by omega)]; rfl
theorem lt_high (st : Bool) (c : UInt8) (h : 128 ≤ c.toNat) : ltS st c = ltHi st := by
  have e : ∀ n : UInt8, n.toNat < 128 → c ≠ n := fun n hn e => by subst e; omega
  unfold ltS
  rw [if_neg (fun h => e 34 (by decide) h.1), decide_eq_false (e 92 (by decide))]; rfl
theorem ltHi_idem (st st' : Bool) (h : ltHi st = some st') : ltHi st' = some st' := by
  cases h; rfl
set_option maxRecDepth 100000 in
set_option maxHeartbeats 2000000 in
theorem lit1_any (p : Nat) (st : Bool) (r : Nat) (w : World) (h : BoxB p st w) (hr : r ≤ 2147483647) : Calls Tryz.prog 170 (#[.int .i32 r] ++ #[pp p]) w (SpPost (if r < 128 then ltS st r.toUInt8 else ltHi st) (BoxB p) p w) := by
  rw [ltR_eq]
  obtain ⟨q0, f0⟩ := h.cell
  have HT := Lib.hid (h.set true)
  have HF := Lib.hid (h.set false)
  have B0 := Bes.refl p w.heap.size w
  have BT := Lib.hid (B0.set 0 (.bool true))
  have BF := Lib.hid (B0.set 0 (.bool false))
  clear h B0
  show Calls _ _ #[.int .i32 r, pp p] w _
  unfold ltR
  by_cases h34 : r = 34
  · subst h34
    cases st with
    | true =>
      go_enter Tryz.func170, Tryz.ntmps170
      go_wp2_with fail
      go_ret
      exact ⟨rfl, fun st' e => by cases e; exact HF.out, BF.out⟩
    | false =>
      go_enter Tryz.func170, Tryz.ntmps170
      go_wp2_with fail
      go_ret
      exact ⟨rfl, fun st' e => by (cases e), BF.out⟩
  rw [if_neg (fun h => h34 h.1)]
  have n34 : ¬ ((r : Int) = 34) := by omega
  by_cases h92 : r = 92
  · subst h92
    cases st with
    | true =>
      go_enter Tryz.func170, Tryz.ntmps170
      go_wp2_with fail
      go_ret
      exact ⟨rfl, fun st' e => by cases e; exact HF.out, BF.out⟩
    | false =>
      go_enter Tryz.func170, Tryz.ntmps170
      go_wp2_with fail
      go_ret
      exact ⟨rfl, fun st' e => by cases e; exact HT.out, BT.out⟩
  rw [decide_eq_false h92]
  have n92 : ¬ ((r : Int) = 92) := by omega
  clear h34 h92
  go_enter Tryz.func170, Tryz.ntmps170
  go_wp2_with fail
  go_ret
  exact ⟨rfl, fun st' e => by cases e; exact HF.out, BF.out⟩
set_option maxHeartbeats 2000000 in
theorem separators_any (s : ByteArray) (hs : s.size ≤ maxLen) (w : World) : Calls Tryz.prog 51 #[.string s] w fun e w' => e = .returned (.int .i64 (sepN s.data.toList)) ∧ Below w.heap.size w w' := by
  have HX : Hid (BoxB w.heap.size false (w.alloc (.cells #[.bool false] 4 (0, 0)))) := Lib.hid (heap_alloc_new w _)
  have CALL := Lib.hid (span_any (Inv := BoxB w.heap.size) (p := w.heap.size) 107 (.inl rfl) #[pp w.heap.size] sep_high sepHi_idem (fun st r w' h hr _ => sep1_any _ st r w' h hr) (fun st a b h e => h.kept a b e) s hs false _ HX.out (by simp))
  have HB : Hid (Below w.heap.size w (w.alloc (.cells #[.bool false] 4 (0, 0)))) := Lib.hid ((Below.refl _ _).alloc (Nat.le_refl _) _)
  go_enter Tryz.func51, Tryz.ntmps51
  go_wp2_with fail
  refine CALL.out.mono ?_
  rintro e w1 ⟨rfl, hb⟩
  have HB1 := Lib.hid (HB.out.trans (hb.below (Nat.le_refl _) (by simp)))
  clear hb
  go_wp2_with fail
  go_ret
  exact ⟨rfl, HB1.out⟩
end Go.Proofs.YthjoelpfmimedaaGreatDoor.K
