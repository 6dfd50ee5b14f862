import Derived.Shelf.Strings.Builder1
import Derived.Shelf.Small.Strs
import Derived.Shelf.Strings.BuilderF
import Derived.Shelf.Strings.BuilderK
import Derived.Shelf.Strconv.Atoi
import Derived.Shelf.Strconv.Itoa0
import Derived.Shelf.Strconv.Itoa1
import Derived.Shelf.LaysM
import Derived.Shelf.Strconv.Itoa2
import Derived.Shelf.Strconv.Itoa3
import Derived.Shelf.Strconv.AtoiErrFast
import Derived.Shelf.Strconv.ParseIntEmpty
import Derived.Shelf.Strconv.AtoiFail
import Derived.Shelf.Strconv.Clone
import Derived.Shelf.Strconv.SyntaxError
import Derived.Shelf.LaysC
import Derived.Shelf.Strconv.ToError
import Derived.Shelf.Strconv.Lower
import Derived.Shelf.Strconv.ParseUint10
import Derived.Shelf.Strconv.ParseUint10Empty
import Derived.Shelf.Strconv.ParseUint10Any
import Derived.Shelf.Strconv.ParseInt10
import Derived.Shelf.Strconv.AtoiLong
import Derived.Shelf.Strconv.AtoiInnerAll
import Derived.Shelf.Strconv.RangeError
import Derived.Shelf.Strconv.ToErrorRange
import Derived.Shelf.Strconv.AtoiAll
import Derived.Shelf.Strconv.ErrVarAll
import Derived.Shelf.Strings.Search1
import Derived.Shelf.Strings.BuilderCap
import Derived.Test.YtidfkencjdjkbaaGreatDoorProg
import Derived.Test.YtidfkencjdjkbaaGreatDoorQo04
/-
  DERIVED: THE SHELF's CONTRACTS AT THIS DUMP, IN PLAIN WORDS (tools/lay-plain.mjs out of 'YtidfkencjdjkbaaGreatDoorShelf.lean', which tools/lay-shelf.mjs wrote): THE SAME DECLARATIONS UNDER THE SAME NAMES: 'import', 'namespace', 'open', 'def', 'theorem' AND NOTHING ELSE: no command of the shelf's: FOR A HAND-IN. Each laying: the table of numbers ('.._ren') and one theorem, a field a fact of the dump's own or the kernel's comparison; each contract: ONE APPLICATION.
-/
namespace Go.Proofs
open Go.Shelf
def Tryz.lays137_ren : Go.Shelf.Ren := ⟨fun | 137 => 83 | 217 => 102 | 266 => 111 | n => n, fun | 9 => 9 | 5 => 5 | 3 => 3 | n => n, fun | n => n⟩
theorem Tryz.lays137 : Go.Proofs.Lays.n137 Tryz.prog Tryz.lays137_ren := {
  mixed := by kernel_rfl
  f137 := Tryz.func83.trans (congrArg some (by kernel_rfl))
  f217 := Tryz.func102.trans (congrArg some (by kernel_rfl))
  f266 := Tryz.func111.trans (congrArg some (by kernel_rfl))
  t3 := Tryz.underlying3
  a3 := Tryz.isAgg3
  z3 := Tryz.sizeOf3
  v3 := Tryz.zeroValue3
  t5 := Tryz.underlying5
  a5 := Tryz.isAgg5
  z5 := Tryz.sizeOf5
  v5 := Tryz.zeroValue5
  t9 := Tryz.underlying9
  a9 := Tryz.isAgg9
  z9 := Tryz.sizeOf9
  v9 := Tryz.zeroValue9 }
open Go.RowKit in
/-- strings.IndexByte: "IndexByte returns the index of the first instance of c in s, or -1 if c is not present in s.": IT RETURNS 'Lib.indexByte s c'; the world is as it was. (LAID: no walk: one application.) -/
theorem Tryz.strings_IndexByte (s : ByteArray) (c : Int) (w : World) :
    Calls Tryz.prog 83 #[.string s, .int .u8 c] w fun e w' => e = .returned (.int .i64 (Lib.indexByte s.data.toList c.toNat.toUInt8)) ∧ w' = w := Any.strings_IndexByte Tryz.lays137 s c w
def Tryz.laysM171_ren : Go.Shelf.Ren := ⟨fun | 171 => 73 | 243 => 98 | 246 => 110 | 283 => 125 | 284 => 126 | 285 => 127 | 286 => 128 | 129 => 134 | 317 => 133 | 318 => 135 | 319 => 136 | 320 => 137 | 337 => 145 | 338 => 146 | n => n, fun | 3 => 3 | 9 => 9 | 2 => 2 | 4 => 4 | 171 => 149 | 0 => 0 | 53 => 150 | 37 => 83 | 5 => 5 | 173 => 153 | 212 => 159 | 51 => 160 | 20 => 20 | 213 => 161 | 46 => 162 | 232 => 176 | 233 => 177 | n => n, fun | 17 => 2 | 18 => 5 | 19 => 6 | n => n⟩
theorem Tryz.laysM171 : Go.Proofs.LaysM.n171 Tryz.prog Tryz.laysM171_ren := {
  mixed := by kernel_rfl
  f129 := Tryz.func134.trans (congrArg some (by kernel_rfl))
  f171 := Tryz.func73.trans (congrArg some (by kernel_rfl))
  f243 := Tryz.func98.trans (congrArg some (by kernel_rfl))
  f246 := Tryz.func110.trans (congrArg some (by kernel_rfl))
  f283 := Tryz.func125.trans (congrArg some (by kernel_rfl))
  f284 := Tryz.func126.trans (congrArg some (by kernel_rfl))
  f285 := Tryz.func127.trans (congrArg some (by kernel_rfl))
  f286 := Tryz.func128.trans (congrArg some (by kernel_rfl))
  f317 := Tryz.func133.trans (congrArg some (by kernel_rfl))
  f318 := Tryz.func135.trans (congrArg some (by kernel_rfl))
  f319 := Tryz.func136.trans (congrArg some (by kernel_rfl))
  f320 := Tryz.func137.trans (congrArg some (by kernel_rfl))
  f337 := Tryz.func145.trans (congrArg some (by kernel_rfl))
  f338 := Tryz.func146.trans (congrArg some (by kernel_rfl))
  t0 := Tryz.underlying0
  a0 := Tryz.isAgg0
  z0 := Tryz.sizeOf0
  v0 := Tryz.zeroValue0
  t2 := Tryz.underlying2
  a2 := Tryz.isAgg2
  z2 := Tryz.sizeOf2
  v2 := Tryz.zeroValue2
  t3 := Tryz.underlying3
  a3 := Tryz.isAgg3
  z3 := Tryz.sizeOf3
  v3 := Tryz.zeroValue3
  t4 := Tryz.underlying4
  a4 := Tryz.isAgg4
  z4 := Tryz.sizeOf4
  v4 := Tryz.zeroValue4
  t5 := Tryz.underlying5
  a5 := Tryz.isAgg5
  z5 := Tryz.sizeOf5
  v5 := Tryz.zeroValue5
  t9 := Tryz.underlying9
  a9 := Tryz.isAgg9
  z9 := Tryz.sizeOf9
  v9 := Tryz.zeroValue9
  t20 := Tryz.underlying20
  a20 := Tryz.isAgg20
  z20 := Tryz.sizeOf20
  v20 := Tryz.zeroValue20
  t37 := Tryz.underlying83
  a37 := Tryz.isAgg83
  z37 := Tryz.sizeOf83
  v37 := Tryz.zeroValue83
  t46 := Tryz.underlying162
  a46 := Tryz.isAgg162
  z46 := Tryz.sizeOf162
  v46 := Tryz.zeroValue162
  t51 := Tryz.underlying160
  a51 := Tryz.isAgg160
  z51 := Tryz.sizeOf160
  v51 := Tryz.zeroValue160
  t53 := Tryz.underlying150
  a53 := Tryz.isAgg150
  z53 := Tryz.sizeOf150
  v53 := Tryz.zeroValue150
  t171 := Tryz.underlying149
  a171 := Tryz.isAgg149
  z171 := Tryz.sizeOf149
  v171 := Tryz.zeroValue149
  t173 := Tryz.underlying153
  a173 := Tryz.isAgg153
  z173 := Tryz.sizeOf153
  v173 := Tryz.zeroValue153
  t212 := Tryz.underlying159
  a212 := Tryz.isAgg159
  z212 := Tryz.sizeOf159
  v212 := Tryz.zeroValue159
  t213 := Tryz.underlying161
  a213 := Tryz.isAgg161
  z213 := Tryz.sizeOf161
  t232 := Tryz.underlying176
  a232 := Tryz.isAgg176
  z232 := Tryz.sizeOf176
  v232 := Tryz.zeroValue176
  t233 := Tryz.underlying177
  a233 := Tryz.isAgg177
  z233 := Tryz.sizeOf177
  v233 := Tryz.zeroValue177
  g17 := by kernel_rfl
  g18 := by kernel_rfl
  g19 := by kernel_rfl
  i0 := by kernel_rfl
  i2 := by kernel_rfl
  i3 := by kernel_rfl
  i4 := by kernel_rfl
  i5 := by kernel_rfl
  i9 := by kernel_rfl
  i20 := by kernel_rfl
  i37 := by kernel_rfl
  i46 := by kernel_rfl
  i51 := by kernel_rfl
  i53 := by kernel_rfl
  i171 := by kernel_rfl
  i173 := by kernel_rfl
  i212 := by kernel_rfl
  i232 := by kernel_rfl
  i233 := by kernel_rfl
  m17 := by kernel_rfl
  m18 := by kernel_rfl
  m19 := by kernel_rfl }
open Go.RowKit Go.Sort Go.Lib in
/-- strconv.Itoa: "Itoa is equivalent to FormatInt(int64(i), 10).": i's DECIMAL NUMERAL ('Lib.itoa': a '-' where i is negative, then the digits), FOR EVERY int. The world behind the call: the world before it, new blocks behind the heap (the library's 'var a [24]byte'), draws. (LAID: no walk: one application.) -/
theorem Tryz.strconv_Itoa (n : Int) (h0 : -9223372036854775808 ≤ n) (h1 : n ≤ 9223372036854775807) (w : World) (htab : Lib.TabIs Tryz.prog w "internal/strconv.uint64pow10" .u64 Lib.pow10Tab) :
    Calls Tryz.prog 73 #[.int .i64 n] w fun e w' => e = .returned (.string ⟨(Lib.itoa n).toArray⟩) ∧ ∃ k os, w' = grow (w.drewN k) os := Any.strconv_Itoa Tryz.laysM171 n h0 h1 w htab
def Tryz.laysM316_ren : Go.Shelf.Ren := ⟨fun | 316 => 139 | n => n, fun | 9 => 9 | 3 => 3 | 4 => 4 | 37 => 83 | 0 => 0 | 127 => 120 | 5 => 5 | n => n, fun | n => n⟩
theorem Tryz.laysM316 : Go.Proofs.LaysM.n316 Tryz.prog Tryz.laysM316_ren := {
  mixed := by kernel_rfl
  f316 := Tryz.func139.trans (congrArg some (by kernel_rfl))
  t0 := Tryz.underlying0
  a0 := Tryz.isAgg0
  z0 := Tryz.sizeOf0
  v0 := Tryz.zeroValue0
  t3 := Tryz.underlying3
  a3 := Tryz.isAgg3
  z3 := Tryz.sizeOf3
  v3 := Tryz.zeroValue3
  t4 := Tryz.underlying4
  a4 := Tryz.isAgg4
  z4 := Tryz.sizeOf4
  v4 := Tryz.zeroValue4
  t9 := Tryz.underlying9
  a9 := Tryz.isAgg9
  z9 := Tryz.sizeOf9
  v9 := Tryz.zeroValue9
  t37 := Tryz.underlying83
  a37 := Tryz.isAgg83
  z37 := Tryz.sizeOf83
  v37 := Tryz.zeroValue83
  t127 := Tryz.underlying120
  a127 := Tryz.isAgg120
  z127 := Tryz.sizeOf120
  v127 := Tryz.zeroValue120
  t5 := Tryz.underlying5
  a5 := Tryz.isAgg5
  z5 := Tryz.sizeOf5
  v5 := Tryz.zeroValue5
  i0 := by kernel_rfl
  i3 := by kernel_rfl
  i4 := by kernel_rfl
  i5 := by kernel_rfl
  i9 := by kernel_rfl
  i37 := by kernel_rfl
  i127 := by kernel_rfl }
open Go.RowKit in
/-- internal/stringslite.Clone (what strings.Clone calls): "Clone returns a fresh copy of s.": THE SAME BYTES. Of what was there nothing has turned (a new row is laid, and frozen, where s is not empty). (LAID: no walk: one application.) -/
theorem Tryz.stringslite_Clone (s : ByteArray) (w : World) (hlim : s.size ≤ 281474976710656) :
    Calls Tryz.prog 139 #[.string s] w fun e w' => e = .returned (.string s) ∧ Below w.heap.size w w' := Any.stringslite_Clone Tryz.laysM316 s w hlim
def Tryz.laysC172_ren : Go.Shelf.Ren := ⟨fun | 172 => 117 | 244 => 131 | 245 => 132 | 247 => 140 | 279 => 141 | 280 => 142 | 281 => 143 | 282 => 144 | 287 => 147 | 316 => 139 | 171 => 73 | 205 => 148 | 321 => 149 | 322 => 150 | 243 => 98 | 246 => 110 | 283 => 125 | 284 => 126 | 285 => 127 | 286 => 128 | 129 => 134 | 317 => 133 | 318 => 135 | 319 => 136 | 320 => 137 | 337 => 145 | 338 => 146 | n => n, fun | 9 => 9 | 3 => 3 | 75 => 133 | 76 => 135 | 4 => 4 | 5 => 5 | 167 => 164 | 37 => 83 | 0 => 0 | 85 => 165 | 2 => 2 | 168 => 167 | 53 => 150 | 175 => 171 | 46 => 162 | 210 => 174 | 127 => 120 | 145 => 181 | 143 => 179 | 21 => 21 | 171 => 149 | 173 => 153 | 212 => 159 | 51 => 160 | 20 => 20 | 213 => 161 | 232 => 176 | 233 => 177 | 80 => 52 | n => n, fun | 15 => 3 | 16 => 4 | 17 => 2 | 18 => 5 | 19 => 6 | n => n⟩
theorem Tryz.laysC172 : Go.Proofs.LaysC.n172 Tryz.prog Tryz.laysC172_ren := {
  mixed := by kernel_rfl
  f129 := Tryz.func134.trans (congrArg some (by kernel_rfl))
  f171 := Tryz.func73.trans (congrArg some (by kernel_rfl))
  f172 := Tryz.func117.trans (congrArg some (by kernel_rfl))
  f205 := Tryz.func148.trans (congrArg some (by kernel_rfl))
  f243 := Tryz.func98.trans (congrArg some (by kernel_rfl))
  f244 := Tryz.func131.trans (congrArg some (by kernel_rfl))
  f245 := Tryz.func132.trans (congrArg some (by kernel_rfl))
  f246 := Tryz.func110.trans (congrArg some (by kernel_rfl))
  f247 := Tryz.func140.trans (congrArg some (by kernel_rfl))
  f279 := Tryz.func141.trans (congrArg some (by kernel_rfl))
  f280 := Tryz.func142.trans (congrArg some (by kernel_rfl))
  f281 := Tryz.func143.trans (congrArg some (by kernel_rfl))
  f282 := Tryz.func144.trans (congrArg some (by kernel_rfl))
  f283 := Tryz.func125.trans (congrArg some (by kernel_rfl))
  f284 := Tryz.func126.trans (congrArg some (by kernel_rfl))
  f285 := Tryz.func127.trans (congrArg some (by kernel_rfl))
  f286 := Tryz.func128.trans (congrArg some (by kernel_rfl))
  f287 := Tryz.func147.trans (congrArg some (by kernel_rfl))
  f316 := Tryz.func139.trans (congrArg some (by kernel_rfl))
  f317 := Tryz.func133.trans (congrArg some (by kernel_rfl))
  f318 := Tryz.func135.trans (congrArg some (by kernel_rfl))
  f319 := Tryz.func136.trans (congrArg some (by kernel_rfl))
  f320 := Tryz.func137.trans (congrArg some (by kernel_rfl))
  f321 := Tryz.func149.trans (congrArg some (by kernel_rfl))
  f322 := Tryz.func150.trans (congrArg some (by kernel_rfl))
  f337 := Tryz.func145.trans (congrArg some (by kernel_rfl))
  f338 := Tryz.func146.trans (congrArg some (by kernel_rfl))
  t0 := Tryz.underlying0
  a0 := Tryz.isAgg0
  z0 := Tryz.sizeOf0
  v0 := Tryz.zeroValue0
  t2 := Tryz.underlying2
  a2 := Tryz.isAgg2
  z2 := Tryz.sizeOf2
  v2 := Tryz.zeroValue2
  t3 := Tryz.underlying3
  a3 := Tryz.isAgg3
  z3 := Tryz.sizeOf3
  v3 := Tryz.zeroValue3
  t4 := Tryz.underlying4
  a4 := Tryz.isAgg4
  z4 := Tryz.sizeOf4
  v4 := Tryz.zeroValue4
  t5 := Tryz.underlying5
  a5 := Tryz.isAgg5
  z5 := Tryz.sizeOf5
  v5 := Tryz.zeroValue5
  t9 := Tryz.underlying9
  a9 := Tryz.isAgg9
  z9 := Tryz.sizeOf9
  v9 := Tryz.zeroValue9
  t20 := Tryz.underlying20
  a20 := Tryz.isAgg20
  z20 := Tryz.sizeOf20
  v20 := Tryz.zeroValue20
  t21 := Tryz.underlying21
  a21 := Tryz.isAgg21
  z21 := Tryz.sizeOf21
  v21 := Tryz.zeroValue21
  t37 := Tryz.underlying83
  a37 := Tryz.isAgg83
  z37 := Tryz.sizeOf83
  v37 := Tryz.zeroValue83
  t46 := Tryz.underlying162
  a46 := Tryz.isAgg162
  z46 := Tryz.sizeOf162
  v46 := Tryz.zeroValue162
  t51 := Tryz.underlying160
  a51 := Tryz.isAgg160
  z51 := Tryz.sizeOf160
  v51 := Tryz.zeroValue160
  t53 := Tryz.underlying150
  a53 := Tryz.isAgg150
  z53 := Tryz.sizeOf150
  v53 := Tryz.zeroValue150
  t75 := Tryz.underlying133
  a75 := Tryz.isAgg133
  z75 := Tryz.sizeOf133
  v75 := Tryz.zeroValue133
  t76 := Tryz.underlying135
  a76 := Tryz.isAgg135
  z76 := Tryz.sizeOf135
  v76 := Tryz.zeroValue135
  t85 := Tryz.underlying165
  a85 := Tryz.isAgg165
  z85 := Tryz.sizeOf165
  v85 := Tryz.zeroValue165
  t127 := Tryz.underlying120
  a127 := Tryz.isAgg120
  z127 := Tryz.sizeOf120
  v127 := Tryz.zeroValue120
  t143 := Tryz.underlying179
  a143 := Tryz.isAgg179
  z143 := Tryz.sizeOf179
  v143 := Tryz.zeroValue179
  t145 := Tryz.underlying181
  a145 := Tryz.isAgg181
  z145 := Tryz.sizeOf181
  v145 := Tryz.zeroValue181
  t167 := Tryz.underlying164
  a167 := Tryz.isAgg164
  z167 := Tryz.sizeOf164
  v167 := Tryz.zeroValue164
  t168 := Tryz.underlying167
  a168 := Tryz.isAgg167
  z168 := Tryz.sizeOf167
  v168 := Tryz.zeroValue167
  t171 := Tryz.underlying149
  a171 := Tryz.isAgg149
  z171 := Tryz.sizeOf149
  v171 := Tryz.zeroValue149
  t173 := Tryz.underlying153
  a173 := Tryz.isAgg153
  z173 := Tryz.sizeOf153
  v173 := Tryz.zeroValue153
  t175 := Tryz.underlying171
  a175 := Tryz.isAgg171
  z175 := Tryz.sizeOf171
  v175 := Tryz.zeroValue171
  t210 := Tryz.underlying174
  a210 := Tryz.isAgg174
  z210 := Tryz.sizeOf174
  v210 := Tryz.zeroValue174
  t212 := Tryz.underlying159
  a212 := Tryz.isAgg159
  z212 := Tryz.sizeOf159
  v212 := Tryz.zeroValue159
  t213 := Tryz.underlying161
  a213 := Tryz.isAgg161
  z213 := Tryz.sizeOf161
  t232 := Tryz.underlying176
  a232 := Tryz.isAgg176
  z232 := Tryz.sizeOf176
  v232 := Tryz.zeroValue176
  t233 := Tryz.underlying177
  a233 := Tryz.isAgg177
  z233 := Tryz.sizeOf177
  v233 := Tryz.zeroValue177
  g15 := by kernel_rfl
  g16 := by kernel_rfl
  g17 := by kernel_rfl
  g18 := by kernel_rfl
  g19 := by kernel_rfl
  t80 := Tryz.underlying52
  a80 := Tryz.isAgg52
  z80 := Tryz.sizeOf52
  v80 := Tryz.zeroValue52
  i0 := by kernel_rfl
  i2 := by kernel_rfl
  i3 := by kernel_rfl
  i4 := by kernel_rfl
  i5 := by kernel_rfl
  i9 := by kernel_rfl
  i20 := by kernel_rfl
  i21 := by kernel_rfl
  i37 := by kernel_rfl
  i46 := by kernel_rfl
  i51 := by kernel_rfl
  i53 := by kernel_rfl
  i75 := by kernel_rfl
  i76 := by kernel_rfl
  i80 := by kernel_rfl
  i85 := by kernel_rfl
  i127 := by kernel_rfl
  i143 := by kernel_rfl
  i145 := by kernel_rfl
  i167 := by kernel_rfl
  i168 := by kernel_rfl
  i171 := by kernel_rfl
  i173 := by kernel_rfl
  i175 := by kernel_rfl
  i210 := by kernel_rfl
  i212 := by kernel_rfl
  i232 := by kernel_rfl
  i233 := by kernel_rfl
  m15 := by kernel_rfl
  m16 := by kernel_rfl
  m17 := by kernel_rfl
  m18 := by kernel_rfl
  m19 := by kernel_rfl
  c0 := by kernel_rfl
  c2 := by kernel_rfl
  c3 := by kernel_rfl
  c4 := by kernel_rfl
  c5 := by kernel_rfl
  c9 := by kernel_rfl
  c20 := by kernel_rfl
  c21 := by kernel_rfl
  c37 := by kernel_rfl
  c46 := by kernel_rfl
  c51 := by kernel_rfl
  c53 := by kernel_rfl
  c75 := by kernel_rfl
  c76 := by kernel_rfl
  c80 := by kernel_rfl
  c85 := by kernel_rfl
  c127 := by kernel_rfl
  c143 := by kernel_rfl
  c145 := by kernel_rfl
  c167 := by kernel_rfl
  c168 := by kernel_rfl
  c171 := by kernel_rfl
  c173 := by kernel_rfl
  c175 := by kernel_rfl
  c210 := by kernel_rfl
  c212 := by kernel_rfl
  c213 := by kernel_rfl
  c232 := by kernel_rfl
  c233 := by kernel_rfl }
open Go.RowKit in
/-- strconv.Atoi, AT EVERY STRING THAT SPELLS AN int ('Lib.atoiAll .. = .ok v'; of whatever length: leading zeros count): v, AND NO ERROR. The world: as it was, or with the one new row that '[]byte(..)' lays. (LAID: no walk: one application.) -/
theorem Tryz.strconv_Atoi_ok (s : ByteArray) (hmax : s.size ≤ 9223372036854775806) (v : Int) (h : Lib.atoiAll s.data.toList = .ok v) (w : World) :
    Calls Tryz.prog 117 #[.string s] w fun e w' => e = .returned (.tuple #[.int .i64 v, .nilIface]) ∧ (w' = w ∨ ∃ t, w' = Lib.bytesWorld w 5 t) := Any.strconv_Atoi_ok Tryz.laysC172 s hmax v h w
open Go.RowKit in
/-- strconv.Atoi, AT EVERY NUMERAL THAT NO int HOLDS ('.range'): THE GREATEST OR THE LEAST int, BY THE SIGN ('Lib.atoiSat'), AND AN ERROR THAT IS NOT nil: a *NumError in a new block N: {Func: "Atoi", Num: s's bytes, Err: what the variable ErrRange holds}. Of what was there nothing has turned. (LAID: no walk: one application.) -/
theorem Tryz.strconv_Atoi_range (s : ByteArray) (hlim : s.size ≤ 281474976710656) (h : Lib.atoiAll s.data.toList = .range) (ev : Value) (w : World) (hv : w.cell? ⟨4, 0, none⟩ = some ev) (hev : ev = .nilIface ∨ ∃ te pe, ev = .iface te pe) :
    Calls Tryz.prog 117 #[.string s] w fun e w' => ∃ N, e = .returned (.tuple #[.int .i64 (Lib.atoiSat s.data.toList), .iface 167 (.pointer (some ⟨N, 0, none⟩))]) ∧ w.heap.size ≤ N ∧ w'.heap[N]? = some (.cells #[.string ⟨#[65, 116, 111, 105]⟩, .string s, ev] 174 (0, 0)) ∧ Below w.heap.size w w' := Any.strconv_Atoi_range Tryz.laysC172 s hlim h ev w hv hev
end Go.Proofs

/-
  PACKAGE speech: the tests' signs, one piece's length.
-/
namespace Go.Proofs.YtidfkencjdjkbaaGreatDoor
open Go.RowKit Sp

def sgs : List By := [[], [61], [60], [60, 61], [62], [62, 61], [60, 62]]
/-- package variables: the signs of tests, an error -/
structure Glo (w : World) : Prop where
  sg : ∀ (i : Nat) t, sgs[i]? = some t → w.cell? ⟨0, i, none⟩ = some (.string (tx t))
  er : ∃ ev, w.cell? ⟨4, 0, none⟩ = some ev ∧ (ev = .nilIface ∨ ∃ te pe, ev = .iface te pe)
  sz : 5 ≤ w.heap.size
theorem Glo.gb {w w' : World} {R : Nat} (h : Glo w) (hg : w.grownBy w' (some R)) (hR : 5 ≤ R) : Glo w' := by
  have hz := h.sz
  have hk : ∀ b, b < 5 → w'.heap[b]? = w.heap[b]? := fun b hb => hg.block b (by omega) (by simp; omega)
  refine ⟨fun i t ht => (World.cell?_of_block (w := w) (a := ⟨0, i, none⟩) (hk 0 (by omega))).trans (h.sg i t ht), ?_, Nat.le_trans h.sz hg.size⟩
  obtain ⟨ev, h1, h2⟩ := h.er
  exact ⟨ev, (World.cell?_of_block (w := w) (a := ⟨4, 0, none⟩) (hk 4 (by omega))).trans h1, h2⟩
theorem Glo.at {w w' : World} (h : Glo w) (hb : Below w.heap.size w w') : Glo w' := h.gb (R := w.heap.size) (gb_below hb) h.sz
theorem sgs_dng (x : By) (i : Nat) (t : By) (h : sgs[i]? = some t) (he : t = x) : dng x = i := by
  subst he
  match i, h with
  | 0, h => cases h; decide
  | 1, h => cases h; decide
  | 2, h => cases h; decide
  | 3, h => cases h; decide
  | 4, h => cases h; decide
  | 5, h => cases h; decide
  | 6, h => cases h; decide
  | n + 7, h => simp [sgs] at h
theorem dng_none (x : By) (h : ∀ (i : Nat) t, sgs[i]? = some t → t ≠ x) : dng x = 0 := by
  have h1 := h 1 _ rfl
  have h2 := h 2 _ rfl
  have h3 := h 3 _ rfl
  have h4 := h 4 _ rfl
  have h5 := h 5 _ rfl
  have h6 := h 6 _ rfl
  simp [dng, sigs, h1.symm, h2.symm, h3.symm, h4.symm, h5.symm, h6.symm]
theorem ix0 (u : World) : (Instr.index 137 (.agg #[.string (tx []), .string (tx [61]), .string (tx [60]), .string (tx [60, 61]), .string (tx [62]), .string (tx [62, 61]), .string (tx [60, 62])]) (.int .i64 0)).run Tryz.prog u = .ok (.string (tx [])) u := by kernel_rfl
theorem ix1 (u : World) : (Instr.index 137 (.agg #[.string (tx []), .string (tx [61]), .string (tx [60]), .string (tx [60, 61]), .string (tx [62]), .string (tx [62, 61]), .string (tx [60, 62])]) (.int .i64 1)).run Tryz.prog u = .ok (.string (tx [61])) u := by kernel_rfl
theorem ix2 (u : World) : (Instr.index 137 (.agg #[.string (tx []), .string (tx [61]), .string (tx [60]), .string (tx [60, 61]), .string (tx [62]), .string (tx [62, 61]), .string (tx [60, 62])]) (.int .i64 2)).run Tryz.prog u = .ok (.string (tx [60])) u := by kernel_rfl
theorem ix3 (u : World) : (Instr.index 137 (.agg #[.string (tx []), .string (tx [61]), .string (tx [60]), .string (tx [60, 61]), .string (tx [62]), .string (tx [62, 61]), .string (tx [60, 62])]) (.int .i64 3)).run Tryz.prog u = .ok (.string (tx [60, 61])) u := by kernel_rfl
theorem ix4 (u : World) : (Instr.index 137 (.agg #[.string (tx []), .string (tx [61]), .string (tx [60]), .string (tx [60, 61]), .string (tx [62]), .string (tx [62, 61]), .string (tx [60, 62])]) (.int .i64 4)).run Tryz.prog u = .ok (.string (tx [62])) u := by kernel_rfl
theorem ix5 (u : World) : (Instr.index 137 (.agg #[.string (tx []), .string (tx [61]), .string (tx [60]), .string (tx [60, 61]), .string (tx [62]), .string (tx [62, 61]), .string (tx [60, 62])]) (.int .i64 5)).run Tryz.prog u = .ok (.string (tx [62, 61])) u := by kernel_rfl
theorem ix6 (u : World) : (Instr.index 137 (.agg #[.string (tx []), .string (tx [61]), .string (tx [60]), .string (tx [60, 61]), .string (tx [62]), .string (tx [62, 61]), .string (tx [60, 62])]) (.int .i64 6)).run Tryz.prog u = .ok (.string (tx [60, 62])) u := by kernel_rfl
set_option maxRecDepth 100000 in
theorem doing_any {w : World} (h : Glo w) (x : By) : Calls Tryz.prog 138 #[.string (tx x)] w fun e w' => e = .returned (.int .i64 (dng x : Int)) ∧ w' = w := by
  have c0 := h.sg 0 _ rfl
  have c1 := h.sg 1 _ rfl
  have c2 := h.sg 2 _ rfl
  have c3 := h.sg 3 _ rfl
  have c4 := h.sg 4 _ rfl
  have c5 := h.sg 5 _ rfl
  have c6 := h.sg 6 _ rfl
  go_enter Tryz.func138, Tryz.ntmps138
  go_wp2
  clear c0 c1 c2 c3 c4 c5 c6
  go_loopw [6] (fun iv wr => ∃ i : Nat, iv = .int .i64 (i : Int) ∧ i ≤ 7 ∧ Hid (∀ (j : Nat) t, j < i → sgs[j]? = some t → t ≠ x) ∧ wr = w) (fun iv _ => 7 - (intOf iv).toNat)
  case atStart => exact ⟨0, rfl, by omega, fun j t hj => by omega, rfl⟩
  case round =>
    obtain ⟨i, rfl, hi, HI, rfl⟩ := hrel
    by_cases h7 : i = 7
    · subst h7
      have HD : Hid (dng x = 0) := dng_none x (fun j t ht => HI.out j t (by have := (List.getElem?_eq_some_iff.1 ht).1; simp [sgs] at this; omega) ht)
      go_wp2
      go_ret
      exact ⟨by rw [HD.out]; rfl, rfl⟩
    rcases (show i = 0 ∨ i = 1 ∨ i = 2 ∨ i = 3 ∨ i = 4 ∨ i = 5 ∨ i = 6 by omega) with rfl | rfl | rfl | rfl | rfl | rfl | rfl
    · have hix := ix0
      by_cases he : ([] : By) = x
      · have q := eqs [] x true (by simpa using he)
        have q2 : (([] : By) == x) = true := by rw [by_beq]; simpa using he
        have HD : Hid (dng x = 0) := sgs_dng x 0 _ rfl he
        clear he
        go_wp2
        go_ret
        exact ⟨by rw [HD.out]; rfl, rfl⟩
      · have q := eqs [] x false (by simpa using he)
        have q2 : (([] : By) == x) = false := by rw [by_beq]; simpa using he
        have HN : Hid (∀ (j : Nat) t, j < 1 → sgs[j]? = some t → t ≠ x) := fun j t hj ht => by
          by_cases c : j < 0
          · exact HI.out j t c ht
          · obtain rfl : j = 0 := by omega
            cases ht
            exact he
        clear he
        go_wp2
        go_roundw
        case rel => exact ⟨1, by go_num, by omega, HN, trivial⟩
        case measure => simp [intOf]
    · have hix := ix1
      by_cases he : ([61] : By) = x
      · have q := eqs [61] x true (by simpa using he)
        have q2 : (([61] : By) == x) = true := by rw [by_beq]; simpa using he
        have HD : Hid (dng x = 1) := sgs_dng x 1 _ rfl he
        clear he
        go_wp2
        go_ret
        exact ⟨by rw [HD.out]; rfl, rfl⟩
      · have q := eqs [61] x false (by simpa using he)
        have q2 : (([61] : By) == x) = false := by rw [by_beq]; simpa using he
        have HN : Hid (∀ (j : Nat) t, j < 2 → sgs[j]? = some t → t ≠ x) := fun j t hj ht => by
          by_cases c : j < 1
          · exact HI.out j t c ht
          · obtain rfl : j = 1 := by omega
            cases ht
            exact he
        clear he
        go_wp2
        go_roundw
        case rel => exact ⟨2, by go_num, by omega, HN, trivial⟩
        case measure => simp [intOf]
    · have hix := ix2
      by_cases he : ([60] : By) = x
      · have q := eqs [60] x true (by simpa using he)
        have q2 : (([60] : By) == x) = true := by rw [by_beq]; simpa using he
        have HD : Hid (dng x = 2) := sgs_dng x 2 _ rfl he
        clear he
        go_wp2
        go_ret
        exact ⟨by rw [HD.out]; rfl, rfl⟩
      · have q := eqs [60] x false (by simpa using he)
        have q2 : (([60] : By) == x) = false := by rw [by_beq]; simpa using he
        have HN : Hid (∀ (j : Nat) t, j < 3 → sgs[j]? = some t → t ≠ x) := fun j t hj ht => by
          by_cases c : j < 2
          · exact HI.out j t c ht
          · obtain rfl : j = 2 := by omega
            cases ht
            exact he
        clear he
        go_wp2
        go_roundw
        case rel => exact ⟨3, by go_num, by omega, HN, trivial⟩
        case measure => simp [intOf]
    · have hix := ix3
      by_cases he : ([60, 61] : By) = x
      · have q := eqs [60, 61] x true (by simpa using he)
        have q2 : (([60, 61] : By) == x) = true := by rw [by_beq]; simpa using he
        have HD : Hid (dng x = 3) := sgs_dng x 3 _ rfl he
        clear he
        go_wp2
        go_ret
        exact ⟨by rw [HD.out]; rfl, rfl⟩
      · have q := eqs [60, 61] x false (by simpa using he)
        have q2 : (([60, 61] : By) == x) = false := by rw [by_beq]; simpa using he
        have HN : Hid (∀ (j : Nat) t, j < 4 → sgs[j]? = some t → t ≠ x) := fun j t hj ht => by
          by_cases c : j < 3
          · exact HI.out j t c ht
          · obtain rfl : j = 3 := by omega
            cases ht
            exact he
        clear he
        go_wp2
        go_roundw
        case rel => exact ⟨4, by go_num, by omega, HN, trivial⟩
        case measure => simp [intOf]
    · have hix := ix4
      by_cases he : ([62] : By) = x
      · have q := eqs [62] x true (by simpa using he)
        have q2 : (([62] : By) == x) = true := by rw [by_beq]; simpa using he
        have HD : Hid (dng x = 4) := sgs_dng x 4 _ rfl he
        clear he
        go_wp2
        go_ret
        exact ⟨by rw [HD.out]; rfl, rfl⟩
      · have q := eqs [62] x false (by simpa using he)
        have q2 : (([62] : By) == x) = false := by rw [by_beq]; simpa using he
        have HN : Hid (∀ (j : Nat) t, j < 5 → sgs[j]? = some t → t ≠ x) := fun j t hj ht => by
          by_cases c : j < 4
          · exact HI.out j t c ht
          · obtain rfl : j = 4 := by omega
            cases ht
            exact he
        clear he
        go_wp2
        go_roundw
        case rel => exact ⟨5, by go_num, by omega, HN, trivial⟩
        case measure => simp [intOf]
    · have hix := ix5
      by_cases he : ([62, 61] : By) = x
      · have q := eqs [62, 61] x true (by simpa using he)
        have q2 : (([62, 61] : By) == x) = true := by rw [by_beq]; simpa using he
        have HD : Hid (dng x = 5) := sgs_dng x 5 _ rfl he
        clear he
        go_wp2
        go_ret
        exact ⟨by rw [HD.out]; rfl, rfl⟩
      · have q := eqs [62, 61] x false (by simpa using he)
        have q2 : (([62, 61] : By) == x) = false := by rw [by_beq]; simpa using he
        have HN : Hid (∀ (j : Nat) t, j < 6 → sgs[j]? = some t → t ≠ x) := fun j t hj ht => by
          by_cases c : j < 5
          · exact HI.out j t c ht
          · obtain rfl : j = 5 := by omega
            cases ht
            exact he
        clear he
        go_wp2
        go_roundw
        case rel => exact ⟨6, by go_num, by omega, HN, trivial⟩
        case measure => simp [intOf]
    · have hix := ix6
      by_cases he : ([60, 62] : By) = x
      · have q := eqs [60, 62] x true (by simpa using he)
        have q2 : (([60, 62] : By) == x) = true := by rw [by_beq]; simpa using he
        have HD : Hid (dng x = 6) := sgs_dng x 6 _ rfl he
        clear he
        go_wp2
        go_ret
        exact ⟨by rw [HD.out]; rfl, rfl⟩
      · have q := eqs [60, 62] x false (by simpa using he)
        have q2 : (([60, 62] : By) == x) = false := by rw [by_beq]; simpa using he
        have HN : Hid (∀ (j : Nat) t, j < 7 → sgs[j]? = some t → t ≠ x) := fun j t hj ht => by
          by_cases c : j < 6
          · exact HI.out j t c ht
          · obtain rfl : j = 6 := by omega
            cases ht
            exact he
        clear he
        go_wp2
        go_roundw
        case rel => exact ⟨7, by go_num, by omega, HN, trivial⟩
        case measure => simp [intOf]
end Go.Proofs.YtidfkencjdjkbaaGreatDoor
