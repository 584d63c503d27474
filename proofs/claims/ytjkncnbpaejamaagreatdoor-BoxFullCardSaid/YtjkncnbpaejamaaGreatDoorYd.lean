/-
  Of no statement by itself: the texts BoxL, BoxP, BoxQ, Shpx, StoD, StoE, StoF, StoG, StoH, StoI, Slja, Slj3, StoJ, BoxA, BoxB, BoxC, BoxD, BoxE, StoK, BoxF, BoxG in one.
  Conditions: each theorem's own.
-/
import Derived.Test.YtjkncnbpaejamaaGreatDoorYc
import Derived.Shelf.Strconv.Itoa3
import Derived.Shelf.Strconv.AtoiAll
import Derived.Shelf.Strings.Repeat
import Derived.Lib.ItoaNum
import Derived.Lib.AtoiAll
import Derived.WideLaws
set_option linter.unusedSimpArgs false
set_option linter.unusedVariables false
/-
  Of no statement by itself: strconv.Itoa, strconv.Atoi, strings.Repeat of the program are those of the library's contracts.
  Conditions: none.
-/
namespace Go.Proofs.YtjkncnbpaejamaaGreatDoor
set_option maxRecDepth 10000
open Sl Go.Shelf
def itoaLRen : Ren := ⟨fun | 171 => 43 | 243 => 60 | 246 => 82 | 283 => 98 | 284 => 99 | 285 => 100 | 286 => 101 | 129 => 116 | 317 => 120 | 318 => 121 | 319 => 122 | 320 => 123 | 337 => 131 | 338 => 132 | n => n,
  fun | 3 => 3 | 9 => 9 | 2 => 2 | 4 => 4 | 171 => 181 | 0 => 0 | 53 => 82 | 37 => 24 | 5 => 5 | 173 => 184 | 212 => 207 | 51 => 117 | 20 => 20 | 213 => 208 | 46 => 109 | 232 => 220 | 233 => 137 | n => n,
  fun | 17 => 2 | 18 => 4 | 19 => 5 | n => n⟩
theorem itoaL : LaysM.n171 Tryz.prog itoaLRen := {
  mixed := by kernel_rfl
  f129 := Tryz.func116.trans (congrArg some (by kernel_rfl))
  f171 := Tryz.func43.trans (congrArg some (by kernel_rfl))
  f243 := Tryz.func60.trans (congrArg some (by kernel_rfl))
  f246 := Tryz.func82.trans (congrArg some (by kernel_rfl))
  f283 := Tryz.func98.trans (congrArg some (by kernel_rfl))
  f284 := Tryz.func99.trans (congrArg some (by kernel_rfl))
  f285 := Tryz.func100.trans (congrArg some (by kernel_rfl))
  f286 := Tryz.func101.trans (congrArg some (by kernel_rfl))
  f317 := Tryz.func120.trans (congrArg some (by kernel_rfl))
  f318 := Tryz.func121.trans (congrArg some (by kernel_rfl))
  f319 := Tryz.func122.trans (congrArg some (by kernel_rfl))
  f320 := Tryz.func123.trans (congrArg some (by kernel_rfl))
  f337 := Tryz.func131.trans (congrArg some (by kernel_rfl))
  f338 := Tryz.func132.trans (congrArg some (by kernel_rfl))
  t0 := Tryz.underlying0
  a0 := Tryz.isAgg0
  z0 := Tryz.sizeOf0
  v0 := Tryz.zeroValue0
  t2 := Tryz.underlying2
  a2 := Tryz.isAgg2
  z2 := Tryz.sizeOf2
  v2 := Tryz.zeroValue2
  t3 := Tryz.underlying3
  a3 := Tryz.isAgg3
  z3 := Tryz.sizeOf3
  v3 := Tryz.zeroValue3
  t4 := Tryz.underlying4
  a4 := Tryz.isAgg4
  z4 := Tryz.sizeOf4
  v4 := Tryz.zeroValue4
  t5 := Tryz.underlying5
  a5 := Tryz.isAgg5
  z5 := Tryz.sizeOf5
  v5 := Tryz.zeroValue5
  t9 := Tryz.underlying9
  a9 := Tryz.isAgg9
  z9 := Tryz.sizeOf9
  v9 := Tryz.zeroValue9
  t20 := Tryz.underlying20
  a20 := Tryz.isAgg20
  z20 := Tryz.sizeOf20
  v20 := Tryz.zeroValue20
  t37 := Tryz.underlying24
  a37 := Tryz.isAgg24
  z37 := Tryz.sizeOf24
  v37 := Tryz.zeroValue24
  t46 := Tryz.underlying109
  a46 := Tryz.isAgg109
  z46 := Tryz.sizeOf109
  v46 := Tryz.zeroValue109
  t51 := Tryz.underlying117
  a51 := Tryz.isAgg117
  z51 := Tryz.sizeOf117
  v51 := Tryz.zeroValue117
  t53 := Tryz.underlying82
  a53 := Tryz.isAgg82
  z53 := Tryz.sizeOf82
  v53 := Tryz.zeroValue82
  t171 := Tryz.underlying181
  a171 := Tryz.isAgg181
  z171 := Tryz.sizeOf181
  v171 := Tryz.zeroValue181
  t173 := Tryz.underlying184
  a173 := Tryz.isAgg184
  z173 := Tryz.sizeOf184
  v173 := Tryz.zeroValue184
  t212 := Tryz.underlying207
  a212 := Tryz.isAgg207
  z212 := Tryz.sizeOf207
  v212 := Tryz.zeroValue207
  t213 := Tryz.underlying208
  a213 := Tryz.isAgg208
  z213 := Tryz.sizeOf208
  t232 := Tryz.underlying220
  a232 := Tryz.isAgg220
  z232 := Tryz.sizeOf220
  v232 := Tryz.zeroValue220
  t233 := Tryz.underlying137
  a233 := Tryz.isAgg137
  z233 := Tryz.sizeOf137
  v233 := Tryz.zeroValue137
  g17 := by kernel_rfl
  g18 := by kernel_rfl
  g19 := by kernel_rfl
  i0 := by kernel_rfl
  i2 := by kernel_rfl
  i3 := by kernel_rfl
  i4 := by kernel_rfl
  i5 := by kernel_rfl
  i9 := by kernel_rfl
  i20 := by kernel_rfl
  i37 := by kernel_rfl
  i46 := by kernel_rfl
  i51 := by kernel_rfl
  i53 := by kernel_rfl
  i173 := by kernel_rfl
  m17 := by kernel_rfl
  m18 := by kernel_rfl
  m19 := by kernel_rfl
  i171 := by kernel_rfl
  i212 := by kernel_rfl
  i232 := by kernel_rfl
  i233 := by kernel_rfl }
def atoiLRen : Ren := ⟨fun | 172 => 34 | 244 => 50 | 245 => 51 | 247 => 71 | 279 => 72 | 280 => 73 | 281 => 74 | 282 => 75 | 287 => 92 | 316 => 93 | 171 => 43 | 205 => 94 | 321 => 117 | 322 => 118 | 243 => 60 | 246 => 82 | 283 => 98 | 284 => 99 | 285 => 100 | 286 => 101 | 129 => 116 | 317 => 120 | 318 => 121 | 319 => 122 | 320 => 123 | 337 => 131 | 338 => 132 | n => n,
  fun | 9 => 9 | 3 => 3 | 75 => 79 | 76 => 80 | 4 => 4 | 5 => 5 | 167 => 141 | 37 => 24 | 0 => 0 | 85 => 142 | 2 => 2 | 168 => 144 | 53 => 82 | 175 => 166 | 46 => 109 | 210 => 170 | 127 => 161 | 145 => 204 | 143 => 202 | 21 => 21 | 171 => 181 | 173 => 184 | 212 => 207 | 51 => 117 | 20 => 20 | 213 => 208 | 232 => 220 | 233 => 137 | 80 => 133 | n => n,
  fun | 15 => 0 | 16 => 1 | 17 => 2 | 18 => 4 | 19 => 5 | n => n⟩
theorem atoiL : LaysC.n172 Tryz.prog atoiLRen := {
  mixed := by kernel_rfl
  f129 := Tryz.func116.trans (congrArg some (by kernel_rfl))
  f171 := Tryz.func43.trans (congrArg some (by kernel_rfl))
  f172 := Tryz.func34.trans (congrArg some (by kernel_rfl))
  f205 := Tryz.func94.trans (congrArg some (by kernel_rfl))
  f243 := Tryz.func60.trans (congrArg some (by kernel_rfl))
  f244 := Tryz.func50.trans (congrArg some (by kernel_rfl))
  f245 := Tryz.func51.trans (congrArg some (by kernel_rfl))
  f246 := Tryz.func82.trans (congrArg some (by kernel_rfl))
  f247 := Tryz.func71.trans (congrArg some (by kernel_rfl))
  f279 := Tryz.func72.trans (congrArg some (by kernel_rfl))
  f280 := Tryz.func73.trans (congrArg some (by kernel_rfl))
  f281 := Tryz.func74.trans (congrArg some (by kernel_rfl))
  f282 := Tryz.func75.trans (congrArg some (by kernel_rfl))
  f283 := Tryz.func98.trans (congrArg some (by kernel_rfl))
  f284 := Tryz.func99.trans (congrArg some (by kernel_rfl))
  f285 := Tryz.func100.trans (congrArg some (by kernel_rfl))
  f286 := Tryz.func101.trans (congrArg some (by kernel_rfl))
  f287 := Tryz.func92.trans (congrArg some (by kernel_rfl))
  f316 := Tryz.func93.trans (congrArg some (by kernel_rfl))
  f317 := Tryz.func120.trans (congrArg some (by kernel_rfl))
  f318 := Tryz.func121.trans (congrArg some (by kernel_rfl))
  f319 := Tryz.func122.trans (congrArg some (by kernel_rfl))
  f320 := Tryz.func123.trans (congrArg some (by kernel_rfl))
  f321 := Tryz.func117.trans (congrArg some (by kernel_rfl))
  f322 := Tryz.func118.trans (congrArg some (by kernel_rfl))
  f337 := Tryz.func131.trans (congrArg some (by kernel_rfl))
  f338 := Tryz.func132.trans (congrArg some (by kernel_rfl))
  t0 := Tryz.underlying0
  a0 := Tryz.isAgg0
  z0 := Tryz.sizeOf0
  v0 := Tryz.zeroValue0
  t2 := Tryz.underlying2
  a2 := Tryz.isAgg2
  z2 := Tryz.sizeOf2
  v2 := Tryz.zeroValue2
  t3 := Tryz.underlying3
  a3 := Tryz.isAgg3
  z3 := Tryz.sizeOf3
  v3 := Tryz.zeroValue3
  t4 := Tryz.underlying4
  a4 := Tryz.isAgg4
  z4 := Tryz.sizeOf4
  v4 := Tryz.zeroValue4
  t5 := Tryz.underlying5
  a5 := Tryz.isAgg5
  z5 := Tryz.sizeOf5
  v5 := Tryz.zeroValue5
  t9 := Tryz.underlying9
  a9 := Tryz.isAgg9
  z9 := Tryz.sizeOf9
  v9 := Tryz.zeroValue9
  t20 := Tryz.underlying20
  a20 := Tryz.isAgg20
  z20 := Tryz.sizeOf20
  v20 := Tryz.zeroValue20
  t21 := Tryz.underlying21
  a21 := Tryz.isAgg21
  z21 := Tryz.sizeOf21
  v21 := Tryz.zeroValue21
  t37 := Tryz.underlying24
  a37 := Tryz.isAgg24
  z37 := Tryz.sizeOf24
  v37 := Tryz.zeroValue24
  t46 := Tryz.underlying109
  a46 := Tryz.isAgg109
  z46 := Tryz.sizeOf109
  v46 := Tryz.zeroValue109
  t51 := Tryz.underlying117
  a51 := Tryz.isAgg117
  z51 := Tryz.sizeOf117
  v51 := Tryz.zeroValue117
  t53 := Tryz.underlying82
  a53 := Tryz.isAgg82
  z53 := Tryz.sizeOf82
  v53 := Tryz.zeroValue82
  t75 := Tryz.underlying79
  a75 := Tryz.isAgg79
  z75 := Tryz.sizeOf79
  v75 := Tryz.zeroValue79
  t76 := Tryz.underlying80
  a76 := Tryz.isAgg80
  z76 := Tryz.sizeOf80
  v76 := Tryz.zeroValue80
  t85 := Tryz.underlying142
  a85 := Tryz.isAgg142
  z85 := Tryz.sizeOf142
  v85 := Tryz.zeroValue142
  t127 := Tryz.underlying161
  a127 := Tryz.isAgg161
  z127 := Tryz.sizeOf161
  v127 := Tryz.zeroValue161
  t143 := Tryz.underlying202
  a143 := Tryz.isAgg202
  z143 := Tryz.sizeOf202
  v143 := Tryz.zeroValue202
  t145 := Tryz.underlying204
  a145 := Tryz.isAgg204
  z145 := Tryz.sizeOf204
  v145 := Tryz.zeroValue204
  t167 := Tryz.underlying141
  a167 := Tryz.isAgg141
  z167 := Tryz.sizeOf141
  v167 := Tryz.zeroValue141
  t168 := Tryz.underlying144
  a168 := Tryz.isAgg144
  z168 := Tryz.sizeOf144
  v168 := Tryz.zeroValue144
  t171 := Tryz.underlying181
  a171 := Tryz.isAgg181
  z171 := Tryz.sizeOf181
  v171 := Tryz.zeroValue181
  t173 := Tryz.underlying184
  a173 := Tryz.isAgg184
  z173 := Tryz.sizeOf184
  v173 := Tryz.zeroValue184
  t175 := Tryz.underlying166
  a175 := Tryz.isAgg166
  z175 := Tryz.sizeOf166
  v175 := Tryz.zeroValue166
  t210 := Tryz.underlying170
  a210 := Tryz.isAgg170
  z210 := Tryz.sizeOf170
  v210 := Tryz.zeroValue170
  t212 := Tryz.underlying207
  a212 := Tryz.isAgg207
  z212 := Tryz.sizeOf207
  v212 := Tryz.zeroValue207
  t213 := Tryz.underlying208
  a213 := Tryz.isAgg208
  z213 := Tryz.sizeOf208
  t232 := Tryz.underlying220
  a232 := Tryz.isAgg220
  z232 := Tryz.sizeOf220
  v232 := Tryz.zeroValue220
  t233 := Tryz.underlying137
  a233 := Tryz.isAgg137
  z233 := Tryz.sizeOf137
  v233 := Tryz.zeroValue137
  g15 := by kernel_rfl
  g16 := by kernel_rfl
  g17 := by kernel_rfl
  g18 := by kernel_rfl
  g19 := by kernel_rfl
  t80 := Tryz.underlying133
  a80 := Tryz.isAgg133
  z80 := Tryz.sizeOf133
  v80 := Tryz.zeroValue133
  i0 := by kernel_rfl
  i2 := by kernel_rfl
  i3 := by kernel_rfl
  i4 := by kernel_rfl
  i5 := by kernel_rfl
  i9 := by kernel_rfl
  i20 := by kernel_rfl
  i21 := by kernel_rfl
  i37 := by kernel_rfl
  i46 := by kernel_rfl
  i51 := by kernel_rfl
  i53 := by kernel_rfl
  i75 := by kernel_rfl
  i76 := by kernel_rfl
  i80 := by kernel_rfl
  i85 := by kernel_rfl
  i127 := by kernel_rfl
  i143 := by kernel_rfl
  i145 := by kernel_rfl
  i167 := by kernel_rfl
  i168 := by kernel_rfl
  i173 := by kernel_rfl
  i175 := by kernel_rfl
  m15 := by kernel_rfl
  m16 := by kernel_rfl
  m17 := by kernel_rfl
  m18 := by kernel_rfl
  m19 := by kernel_rfl
  c0 := by kernel_rfl
  c2 := by kernel_rfl
  c3 := by kernel_rfl
  c4 := by kernel_rfl
  c5 := by kernel_rfl
  c9 := by kernel_rfl
  c20 := by kernel_rfl
  c21 := by kernel_rfl
  c37 := by kernel_rfl
  c46 := by kernel_rfl
  c51 := by kernel_rfl
  c53 := by kernel_rfl
  c75 := by kernel_rfl
  c76 := by kernel_rfl
  c80 := by kernel_rfl
  c85 := by kernel_rfl
  c127 := by kernel_rfl
  c143 := by kernel_rfl
  c145 := by kernel_rfl
  c167 := by kernel_rfl
  c168 := by kernel_rfl
  c171 := by kernel_rfl
  c173 := by kernel_rfl
  c175 := by kernel_rfl
  c210 := by kernel_rfl
  c212 := by kernel_rfl
  c213 := by kernel_rfl
  c232 := by kernel_rfl
  c233 := by kernel_rfl
  i171 := by kernel_rfl
  i210 := by kernel_rfl
  i212 := by kernel_rfl
  i232 := by kernel_rfl
  i233 := by kernel_rfl }
def reptLRen : Ren := ⟨fun | 105 => 44 | 212 => 61 | 99 => 62 | 165 => 63 | 166 => 64 | 170 => 65 | 169 => 66 | 263 => 83 | 264 => 84 | 206 => 85 | 240 => 86 | 241 => 87 | 276 => 102 | 277 => 103 | n => n,
  fun | 9 => 9 | 3 => 3 | 4 => 4 | 20 => 20 | 0 => 0 | 46 => 109 | 109 => 125 | 5 => 5 | 72 => 130 | 76 => 80 | 51 => 117 | 146 => 157 | 53 => 82 | 148 => 159 | 70 => 128 | 37 => 24 | 75 => 79 | 127 => 161 | 164 => 186 | 80 => 133 | n => n,
  fun n => n⟩
theorem reptL : Lays.n105 Tryz.prog reptLRen := {
  mixed := by kernel_rfl
  f99 := Tryz.func62.trans (congrArg some (by kernel_rfl))
  f105 := Tryz.func44.trans (congrArg some (by kernel_rfl))
  f165 := Tryz.func63.trans (congrArg some (by kernel_rfl))
  f166 := Tryz.func64.trans (congrArg some (by kernel_rfl))
  f169 := Tryz.func66.trans (congrArg some (by kernel_rfl))
  f170 := Tryz.func65.trans (congrArg some (by kernel_rfl))
  f206 := Tryz.func85.trans (congrArg some (by kernel_rfl))
  f212 := Tryz.func61.trans (congrArg some (by kernel_rfl))
  f240 := Tryz.func86.trans (congrArg some (by kernel_rfl))
  f241 := Tryz.func87.trans (congrArg some (by kernel_rfl))
  f263 := Tryz.func83.trans (congrArg some (by kernel_rfl))
  f264 := Tryz.func84.trans (congrArg some (by kernel_rfl))
  f276 := Tryz.func102.trans (congrArg some (by kernel_rfl))
  f277 := Tryz.func103.trans (congrArg some (by kernel_rfl))
  t0 := Tryz.underlying0
  a0 := Tryz.isAgg0
  z0 := Tryz.sizeOf0
  v0 := Tryz.zeroValue0
  t3 := Tryz.underlying3
  a3 := Tryz.isAgg3
  z3 := Tryz.sizeOf3
  v3 := Tryz.zeroValue3
  t4 := Tryz.underlying4
  a4 := Tryz.isAgg4
  z4 := Tryz.sizeOf4
  v4 := Tryz.zeroValue4
  t5 := Tryz.underlying5
  a5 := Tryz.isAgg5
  z5 := Tryz.sizeOf5
  v5 := Tryz.zeroValue5
  t9 := Tryz.underlying9
  a9 := Tryz.isAgg9
  z9 := Tryz.sizeOf9
  v9 := Tryz.zeroValue9
  t20 := Tryz.underlying20
  a20 := Tryz.isAgg20
  z20 := Tryz.sizeOf20
  v20 := Tryz.zeroValue20
  t37 := Tryz.underlying24
  a37 := Tryz.isAgg24
  z37 := Tryz.sizeOf24
  v37 := Tryz.zeroValue24
  t46 := Tryz.underlying109
  a46 := Tryz.isAgg109
  z46 := Tryz.sizeOf109
  v46 := Tryz.zeroValue109
  t51 := Tryz.underlying117
  a51 := Tryz.isAgg117
  z51 := Tryz.sizeOf117
  v51 := Tryz.zeroValue117
  t53 := Tryz.underlying82
  a53 := Tryz.isAgg82
  z53 := Tryz.sizeOf82
  v53 := Tryz.zeroValue82
  t70 := Tryz.underlying128
  a70 := Tryz.isAgg128
  z70 := Tryz.sizeOf128
  v70 := Tryz.zeroValue128
  t72 := Tryz.underlying130
  a72 := Tryz.isAgg130
  z72 := Tryz.sizeOf130
  v72 := Tryz.zeroValue130
  t75 := Tryz.underlying79
  a75 := Tryz.isAgg79
  z75 := Tryz.sizeOf79
  v75 := Tryz.zeroValue79
  t76 := Tryz.underlying80
  a76 := Tryz.isAgg80
  z76 := Tryz.sizeOf80
  v76 := Tryz.zeroValue80
  t109 := Tryz.underlying125
  a109 := Tryz.isAgg125
  z109 := Tryz.sizeOf125
  v109 := Tryz.zeroValue125
  t127 := Tryz.underlying161
  a127 := Tryz.isAgg161
  z127 := Tryz.sizeOf161
  v127 := Tryz.zeroValue161
  t146 := Tryz.underlying157
  a146 := Tryz.isAgg157
  z146 := Tryz.sizeOf157
  v146 := Tryz.zeroValue157
  t148 := Tryz.underlying159
  a148 := Tryz.isAgg159
  z148 := Tryz.sizeOf159
  v148 := Tryz.zeroValue159
  t164 := Tryz.underlying186
  a164 := Tryz.isAgg186
  z164 := Tryz.sizeOf186
  v164 := Tryz.zeroValue186 }

theorem reptX : Builder.Extra Tryz.prog reptLRen := {
  sizeBuilder := by kernel_rfl
  liesBuilder := by kernel_rfl
  t5 := Tryz.underlying5
  a5 := Tryz.isAgg5
  z5 := Tryz.sizeOf5
  v5 := Tryz.zeroValue5
  infoByte := by kernel_rfl
  cellsByte := by kernel_rfl
  sizeByte := by kernel_rfl
  neB5 := by decide }
end Go.Proofs.YtjkncnbpaejamaaGreatDoor

/-
  Of no statement by itself: the keys of a box, numbers as ten digits; what values tell of mails.
  Conditions: each theorem's own.
-/
namespace Go.Proofs.YtjkncnbpaejamaaGreatDoor
namespace Bx
open Sto Jrn Dsk
def unB (x : List UInt8) : Bk := x.map UInt8.toBitVec
def itoaB (n : Int) : Bk := unB (Go.Lib.itoa n)
/-! ### digits -/
/-- a number as so many digits -/
def dW : Nat → Nat → List UInt8
  | 0, _ => []
  | k + 1, u => dW k (u / 10) ++ [UInt8.ofNat (48 + u % 10)]
theorem dW_len : ∀ (k u : Nat), (dW k u).length = k
  | 0, _ => rfl
  | k + 1, u => by rw [dW, List.length_append, dW_len k]; rfl
theorem dW_zero : ∀ (k : Nat), dW k 0 = List.replicate k 48
  | 0 => rfl
  | k + 1 => by rw [dW, Nat.zero_div, dW_zero k, List.replicate_succ']; rfl
theorem dW_dig {k u : Nat} (h : u < 10 ^ (k + 1)) : List.replicate (k + 1 - (Go.Lib.decDigits u).length) 48 ++ Go.Lib.decDigits u = dW (k + 1) u := by
  induction k generalizing u with
  | zero =>
    have h' : u < 10 := by simpa using h
    rw [Go.Lib.decDigits_one h', dW, dW]
    simp [Nat.mod_eq_of_lt h']
  | succ k ih =>
    by_cases h' : u < 10
    · rw [Go.Lib.decDigits_one h', dW, Nat.div_eq_of_lt h', dW_zero, Nat.mod_eq_of_lt h']
      rfl
    · have h2 : u / 10 < 10 ^ (k + 1) := by rw [Nat.pow_succ] at h; omega
      have ih := ih h2
      have e : Go.Lib.decDigits u = Go.Lib.decDigits (u / 10) ++ [UInt8.ofNat (48 + u % 10)] := by rw [Go.Lib.decDigits, dif_neg h']
      rw [e, List.length_append, List.length_singleton, Nat.add_sub_add_right, ← List.append_assoc, ih]
      rfl
theorem dig_nat {d : Nat} (h : d < 10) : (UInt8.ofNat (48 + d)).toNat = 48 + d := by
  rw [UInt8.toNat_ofNat']
  omega
theorem parse_snoc : ∀ (l : List UInt8) (acc m d : Nat), Go.Lib.parseUint10 acc l = .ok m → d < 10 → m < 1844674407370955161 → Go.Lib.parseUint10 acc (l ++ [UInt8.ofNat (48 + d)]) = .ok (m * 10 + d)
  | [], acc, m, d, h, hd, hm => by
    simp only [Go.Lib.parseUint10, Go.Lib.NumEnd.ok.injEq] at h
    subst h
    have e := dig_nat hd
    simp only [List.nil_append, Go.Lib.parseUint10, e]
    rw [if_pos (by omega), if_neg (by omega), if_neg (by omega)]
    congr 1
    omega
  | c :: l, acc, m, d, h, hd, hm => by
    simp only [List.cons_append, Go.Lib.parseUint10] at h ⊢
    split at h
    · rename_i hc
      rw [if_pos hc]
      split at h
      · cases h
      · rename_i h1
        rw [if_neg h1]
        split at h
        · cases h
        · rename_i h2
          rw [if_neg h2]
          exact parse_snoc l _ m d h hd hm
    · cases h
theorem dW_parse : ∀ (k u : Nat), k ≤ 18 → u < 10 ^ k → Go.Lib.parseUint10 0 (dW k u) = .ok u
  | 0, u, _, h => by
    have : u = 0 := by simpa using h
    subst this; rfl
  | k + 1, u, hk, h => by
    have h2 : u / 10 < 10 ^ k := by rw [Nat.pow_succ] at h; omega
    have h3 : (10 : Nat) ^ k ≤ 10 ^ 17 := Nat.pow_le_pow_right (by decide) (by omega)
    have h4 : (10 : Nat) ^ 17 = 100000000000000000 := by decide
    rw [dW, parse_snoc _ 0 (u / 10) (u % 10) (dW_parse k (u / 10) (by omega) h2) (Nat.mod_lt _ (by decide)) (by omega)]
    congr 1
    omega
theorem dW_digits : ∀ (k u : Nat), ∀ c ∈ dW k u, 48 ≤ c.toNat ∧ c.toNat ≤ 57
  | 0, _, c, h => by cases h
  | k + 1, u, c, h => by
    rw [dW] at h
    rcases List.mem_append.1 h with h | h
    · exact dW_digits k _ c h
    · rw [List.mem_singleton] at h
      subst h
      rw [dig_nat (Nat.mod_lt _ (by decide))]
      have := Nat.mod_lt u (show 0 < 10 by decide)
      omega
theorem atoi_dW {u : Nat} (h : u < 10 ^ 10) : Go.Lib.atoiAll (dW 10 u) = .ok (u : Int) := by
  have hl := dW_len 10 u
  have hp := dW_parse 10 u (by decide) h
  have hd := dW_digits 10 u
  generalize dW 10 u = l at hl hp hd
  match l, hl with
  | c :: r, _ =>
    have hc := hd c (by simp)
    have h1 : ¬ (c.toNat = 43 ∨ c.toNat = 45) := by omega
    have h2 : ¬ c.toNat = 45 := by omega
    have e : Go.Lib.parseMag (c :: r) = .ok u := by rw [Go.Lib.parseMag, if_neg (by simp)]; exact hp
    have h5 : (10 : Nat) ^ 10 = 10000000000 := by decide
    unfold Go.Lib.atoiAll
    simp only [if_neg h1, e]
    rw [if_neg (by omega), if_neg (fun hh => h2 hh.1), if_neg h2]
theorem dW_inj {u v : Nat} (hu : u < 10 ^ 10) (hv : v < 10 ^ 10) (h : dW 10 u = dW 10 v) : u = v := by
  have h1 := atoi_dW hu
  rw [h, atoi_dW hv] at h1
  injection h1 with h1
  omega
/-! ### keys -/
/-- the digits of a mail's number in its key -/
def dig (u : Int) : Bk := List.replicate (10 - (itoaB u).length) 48#8 ++ itoaB u
def mKey (f : Bk) (u : Int) : Bk := [109#8, 58#8] ++ f ++ [58#8] ++ List.replicate (10 - (itoaB u).length) 48#8 ++ itoaB u
def mFront (f : Bk) : Bk := [109#8, 58#8] ++ f ++ [58#8]
def nKey (f : Bk) : Bk := [110#8, 58#8] ++ f
theorem mKey_eq (f : Bk) (u : Int) : mKey f u = mFront f ++ dig u := by unfold mKey mFront dig; rw [List.append_assoc]
theorem unB_len (x : List UInt8) : (unB x).length = x.length := List.length_map _
theorem unB_append (x y : List UInt8) : unB (x ++ y) = unB x ++ unB y := List.map_append
theorem unB_inj {x y : List UInt8} (h : unB x = unB y) : x = y := by
  have := congrArg (List.map UInt8.ofBitVec) h
  unfold unB at this
  rw [List.map_map, List.map_map, show UInt8.ofBitVec ∘ UInt8.toBitVec = id from funext fun _ => rfl, List.map_id, List.map_id] at this
  exact this
theorem itoa_nat (u : Nat) : Go.Lib.itoa (u : Int) = Go.Lib.decDigits u := by
  unfold Go.Lib.itoa
  rw [if_neg (by omega)]
  simp
theorem dig_nat10 {u : Nat} (h : u < 10 ^ 10) : dig (u : Int) = unB (dW 10 u) := by
  unfold dig itoaB
  rw [itoa_nat, unB_len, ← dW_dig (k := 9) h, unB_append]
  congr 1
  unfold unB
  rw [List.map_replicate]
  rfl
theorem decDigits_digits : ∀ (u : Nat), ∀ c ∈ Go.Lib.decDigits u, 48 ≤ c.toNat ∧ c.toNat ≤ 57 := by
  intro u
  induction u using Nat.strongRecOn with
  | ind u ih =>
    intro c hc
    rw [Go.Lib.decDigits] at hc
    by_cases h : u < 10
    · rw [dif_pos h, List.mem_singleton] at hc
      subst hc
      rw [dig_nat h]; omega
    · rw [dif_neg h] at hc
      rcases List.mem_append.1 hc with hc | hc
      · exact ih (u / 10) (by omega) c hc
      · rw [List.mem_singleton] at hc
        subst hc
        have := Nat.mod_lt u (show 0 < 10 by decide)
        rw [dig_nat this]; omega
theorem itoa_signs (u : Int) : ∀ c ∈ itoaB u, c.toNat = 45 ∨ (48 ≤ c.toNat ∧ c.toNat ≤ 57) := by
  intro c hc
  unfold itoaB unB at hc
  obtain ⟨x, hx, rfl⟩ := List.mem_map.1 hc
  unfold Go.Lib.itoa at hx
  split at hx
  · rcases List.mem_cons.1 hx with rfl | hx
    · exact .inl rfl
    · exact .inr (decDigits_digits _ x hx)
  · exact .inr (decDigits_digits _ x hx)
theorem dig_signs (u : Int) : ∀ c ∈ dig u, c.toNat = 45 ∨ (48 ≤ c.toNat ∧ c.toNat ≤ 57) := by
  intro c hc
  rcases List.mem_append.1 hc with hc | hc
  · rw [(List.mem_replicate.1 hc).2]; exact .inr (by decide)
  · exact itoa_signs u c hc
theorem dig_noCol (u : Int) : 58#8 ∉ dig u := fun h => by have := dig_signs u _ h; revert this; decide
theorem dig_inj {u : Int} {v : Nat} (hv : v < 10 ^ 10) (h : dig u = dig (v : Int)) : u = (v : Int) := by
  have hl : (dig (v : Int)).length = 10 := by rw [dig_nat10 hv, unB_len, dW_len]
  by_cases hu : u < 0
  · exfalso
    have hm : 45#8 ∈ dig u := by
      refine List.mem_append_right _ ?_
      unfold itoaB Go.Lib.itoa unB
      rw [if_pos hu]
      exact List.mem_map_of_mem (f := UInt8.toBitVec) (List.mem_cons_self (a := (45 : UInt8)))
    rw [h, dig_nat10 hv] at hm
    obtain ⟨x, hx, e⟩ := List.mem_map.1 hm
    have := dW_digits 10 v x hx
    have e2 : x.toNat = 45 := by show x.toBitVec.toNat = 45; rw [e]; rfl
    omega
  · obtain ⟨n, rfl⟩ : ∃ n : Nat, u = (n : Int) := ⟨u.toNat, by omega⟩
    by_cases hn : n < 10 ^ 10
    · rw [dig_nat10 hn, dig_nat10 hv] at h
      rw [dW_inj hn hv (unB_inj h)]
    · exfalso
      have h1 : (itoaB (n : Int)).length = Go.Lib.nDigits n := by unfold itoaB; rw [unB_len, itoa_nat, Go.Lib.decDigits_length]
      have h2 := Go.Lib.lt_pow_nDigits n
      have h3 : 10 < Go.Lib.nDigits n := by
        rcases Nat.lt_or_ge 10 (Go.Lib.nDigits n) with h | h
        · exact h
        · have := Nat.pow_le_pow_right (n := 10) (by decide) h
          omega
      have h4 : 10 < (dig (n : Int)).length := by unfold dig; rw [List.length_append, h1]; omega
      rw [h, hl] at h4
      omega
/-- the last colon parts -/
theorem cut_last {c : BitVec 8} : ∀ {a b d e : Bk}, c ∉ d → c ∉ e → a ++ c :: d = b ++ c :: e → a = b ∧ d = e
  | [], [], d, e, _, _, h => ⟨rfl, by simpa using h⟩
  | [], x :: b, d, e, hd, _, h => by
    simp only [List.nil_append, List.cons_append, List.cons.injEq] at h
    exact absurd (h.2 ▸ by simp) hd
  | x :: a, [], d, e, _, he, h => by
    simp only [List.nil_append, List.cons_append, List.cons.injEq] at h
    exact absurd (h.2 ▸ by simp) he
  | x :: a, y :: b, d, e, hd, he, h => by
    simp only [List.cons_append, List.cons.injEq] at h
    obtain ⟨h1, h2⟩ := cut_last hd he h.2
    exact ⟨by rw [h.1, h1], h2⟩
theorem mKey_cut (f : Bk) (u : Int) : mKey f u = ([109#8, 58#8] ++ f) ++ 58#8 :: dig u := by rw [mKey_eq]; unfold mFront; simp
theorem mKey_inj {f g : Bk} {u : Int} {v : Nat} (hv : v < 10 ^ 10) (h : mKey f u = mKey g (v : Int)) : f = g ∧ u = (v : Int) := by
  rw [mKey_cut, mKey_cut] at h
  obtain ⟨h1, h2⟩ := cut_last (dig_noCol u) (dig_noCol _) h
  exact ⟨List.append_cancel_left h1, dig_inj hv h2⟩
theorem nKey_inj {f g : Bk} (h : nKey f = nKey g) : f = g := List.append_cancel_left h
theorem nm_ne (f g : Bk) (u : Int) : nKey f ≠ mKey g u := fun h => by
  rw [mKey_cut] at h
  unfold nKey at h
  simp at h
theorem nm_ne' (f g : Bk) (u : Int) : mKey g u ≠ nKey f := fun h => nm_ne f g u h.symm
/-- what stands in front tells the folder -/
theorem front_iff {f g : Bk} {u : Int} (hg : 58#8 ∉ g) : ((mKey g u).take (mFront f).length = mFront f) ↔ f = g := by
  constructor
  · intro h
    have e : mKey g u = mFront f ++ (mKey g u).drop (mFront f).length := by
      conv => lhs; rw [← List.take_append_drop (mFront f).length (mKey g u), h]
    have hc : (mKey g u).count 58#8 = 2 := by
      rw [mKey_cut]
      simp only [List.count_append, List.count_cons, List.count_nil]
      rw [List.count_eq_zero.2 hg, List.count_eq_zero.2 (dig_noCol u)]
      decide
    have hr : 58#8 ∉ (mKey g u).drop (mFront f).length := by
      intro hm
      have h1 := List.count_pos_iff.2 hm
      have h2 : (mKey g u).count 58#8 = (mFront f).count 58#8 + ((mKey g u).drop (mFront f).length).count 58#8 := by
        conv => lhs; rw [e, List.count_append]
      have h3 : 2 ≤ (mFront f).count 58#8 := by
        unfold mFront
        simp only [List.count_append, List.count_cons, List.count_nil]
        simp
        try omega
      omega
    generalize (mKey g u).drop (mFront f).length = r at e hr
    rw [mKey_cut] at e
    have e' : ([109#8, 58#8] ++ g) ++ 58#8 :: dig u = ([109#8, 58#8] ++ f) ++ 58#8 :: r := by rw [e]; unfold mFront; simp
    obtain ⟨h1, _⟩ := cut_last (dig_noCol u) hr e'
    exact (List.append_cancel_left h1).symm
  · rintro rfl
    rw [mKey_eq, List.take_left']
    rfl
theorem nfront (f g : Bk) : ¬ ((nKey g).take (mFront f).length = mFront f) := by
  unfold nKey mFront
  intro h
  simp at h
/-! ### the order of keys -/
theorem klt_left (p a b : Bk) : klt (p ++ a) (p ++ b) = klt a b := by
  induction p with
  | nil => rfl
  | cons c p ih =>
    rw [List.cons_append, List.cons_append, klt, if_neg (Nat.lt_irrefl _), if_neg (Nat.lt_irrefl _), ih]
theorem klt_snoc : ∀ {a b : Bk} {c d : BitVec 8}, a.length = b.length → klt (a ++ [c]) (b ++ [d]) = (klt a b || (decide (a = b) && decide (c.toNat < d.toNat)))
  | [], [], c, d, _ => by
    by_cases h : c.toNat < d.toNat
    · simp [klt, h]
    · by_cases h2 : d.toNat < c.toNat <;> simp [klt, h, h2]
  | x :: a, y :: b, c, d, h => by
    have h' : a.length = b.length := by simpa using h
    have ih := klt_snoc (c := c) (d := d) h'
    rw [List.cons_append, List.cons_append, klt, klt, ih]
    by_cases h1 : x.toNat < y.toNat
    · rw [if_pos h1, if_pos h1]; rfl
    · rw [if_neg h1, if_neg h1]
      by_cases h2 : y.toNat < x.toNat
      · rw [if_pos h2, if_pos h2]
        have : ¬ x :: a = y :: b := fun e => by
          injection e with e1 e2
          rw [e1] at h2; omega
        simp [this]
      · rw [if_neg h2, if_neg h2]
        have e : x = y := BitVec.eq_of_toNat_eq (by omega)
        simp [e]
theorem dW_lt : ∀ (k u v : Nat), u < 10 ^ k → v < 10 ^ k → (u < v → klt (unB (dW k u)) (unB (dW k v)) = true) ∧ (u / 10 = v / 10 → dW k (u / 10) = dW k (v / 10))
  | 0, u, v, hu, hv => ⟨fun h => by simp at hu hv; omega, fun h => by rw [h]⟩
  | k + 1, u, v, hu, hv => by
    refine ⟨fun h => ?_, fun h => by rw [h]⟩
    have h2 : u / 10 < 10 ^ k := by rw [Nat.pow_succ] at hu; omega
    have h3 : v / 10 < 10 ^ k := by rw [Nat.pow_succ] at hv; omega
    rw [dW, dW, unB_append, unB_append]
    show klt (_ ++ [_]) (_ ++ [_]) = true
    rw [klt_snoc (by rw [unB_len, unB_len, dW_len, dW_len])]
    by_cases hq : u / 10 < v / 10
    · rw [(dW_lt k _ _ h2 h3).1 hq]; rfl
    · have hq' : u / 10 = v / 10 := by omega
      have m1 := Nat.mod_lt u (show 0 < 10 by decide)
      have m2 := Nat.mod_lt v (show 0 < 10 by decide)
      have e1 := dig_nat m1
      have e2 := dig_nat m2
      rw [hq']
      have : (UInt8.ofNat (48 + u % 10)).toBitVec.toNat < (UInt8.ofNat (48 + v % 10)).toBitVec.toNat := by
        show (UInt8.ofNat (48 + u % 10)).toNat < (UInt8.ofNat (48 + v % 10)).toNat
        rw [e1, e2]; omega
      rw [decide_eq_true this]
      simp
theorem mKey_lt {f : Bk} {u v : Nat} (hu : u < 10 ^ 10) (hv : v < 10 ^ 10) (h : u < v) : klt (mKey f (u : Int)) (mKey f (v : Int)) = true := by
  rw [mKey_eq, mKey_eq, klt_left, dig_nat10 hu, dig_nat10 hv]
  exact (dW_lt 10 u v hu hv).1 h
/-- two rows that rise and hold the same are one -/
theorem srt_eq {a b : List Bk} (ha : a.Pairwise fun x y => klt x y = true) (hb : b.Pairwise fun x y => klt x y = true) (h : ∀ x, x ∈ a ↔ x ∈ b) : a = b := by
  have na : a.Nodup := ha.imp fun h => klt_ne h
  have nb : b.Nodup := hb.imp fun h => klt_ne h
  exact List.Perm.eq_of_pairwise (le := fun x y => klt x y = true) (fun x y _ _ h1 h2 => by rw [klt_asymm h1] at h2; cases h2) ha hb ((List.perm_ext_iff_of_nodup na nb).2 h)
end Bx
end Go.Proofs.YtjkncnbpaejamaaGreatDoor

/-
  Of no statement by itself: a box's mails as a row, what its store's values tell of them, and how each call turns them.
  Conditions: each theorem's own.
-/
namespace Go.Proofs.YtjkncnbpaejamaaGreatDoor
namespace Bx
open Sto Jrn Dsk
structure Ml where
  f : Bk
  u : Nat
  fl : Nat
  b : Bk
structure Rb where
  ms : List Ml
  nx : List (Bk × Nat)
def Rb.next? (R : Rb) (f : Bk) : Option Nat := (R.nx.find? fun x => decide (x.1 = f)).map Prod.snd
def Rb.next (R : Rb) (f : Bk) : Nat := (R.next? f).getD 1
def Rb.find (R : Rb) (f : Bk) (u : Int) : Option Ml := R.ms.find? fun m => decide (m.f = f) && decide ((m.u : Int) = u)
def Rb.list (R : Rb) (f : Bk) : List Nat := (R.ms.filter fun m => decide (m.f = f)).map Ml.u
def okC (n : Nat) : Bool := (decide ((97 : Int) ≤ (n : Int)) && decide ((n : Int) ≤ 122)) || ((decide ((65 : Int) ≤ (n : Int)) && decide ((n : Int) ≤ 90)) || ((decide ((48 : Int) ≤ (n : Int)) && decide ((n : Int) ≤ 57)) || (decide ((n : Int) = 45) || decide ((n : Int) = 46))))
def okF (f : Bk) : Bool := (f.all fun c => okC c.toNat) && decide (1 ≤ f.length) && decide (f.length ≤ 40)
theorem okF_col {f : Bk} (h : okF f = true) : 58#8 ∉ f := fun hm => by
  unfold okF at h
  rw [Bool.and_eq_true, Bool.and_eq_true, List.all_eq_true] at h
  have := h.1.1 _ hm
  revert this
  decide
theorem okF_len {f : Bk} (h : okF f = true) : 1 ≤ f.length ∧ f.length ≤ 40 := by
  unfold okF at h
  simp only [Bool.and_eq_true, decide_eq_true_eq] at h
  exact ⟨h.1.2, h.2⟩
/-- the value of a mail -/
def Ml.v (m : Ml) : Bk := BitVec.ofNat 8 m.fl :: m.b
def nV (n : Nat) : Bk := be64 (BitVec.ofNat 64 n) 8
def hit (R : Rb) (f : Bk) : Bk × Nat → Bk × Nat := fun x => if x.1 = f then (x.1, x.2 + 1) else x
def Rb.deliver (R : Rb) (f b : Bk) : Rb :=
  ⟨R.ms ++ [⟨f, R.next f, 0, b⟩], if (R.next? f).isSome then R.nx.map (hit R f) else R.nx ++ [(f, 2)]⟩
def setF (f : Bk) (u : Int) (fl : Nat) : Ml → Ml := fun m => if m.f = f ∧ (m.u : Int) = u then ⟨m.f, m.u, fl, m.b⟩ else m
def Rb.mark (R : Rb) (f : Bk) (u : Int) (fl : Nat) : Rb := ⟨R.ms.map (setF f u fl), R.nx⟩
def goes (f : Bk) (m : Ml) : Bool := decide (m.f = f) && decide (m.fl / 4 % 2 = 1)
def Rb.expunge (R : Rb) (f : Bk) : Rb := ⟨R.ms.filter fun m => !goes f m, R.nx⟩
/-- what a box's mails are like: n: how many were delivered at most -/
structure Rb.ok (R : Rb) (n : Nat) : Prop where
  le : n ≤ 1000000
  fold : ∀ m ∈ R.ms, okF m.f = true
  low : ∀ m ∈ R.ms, 1 ≤ m.u ∧ m.u < R.next m.f
  fl : ∀ m ∈ R.ms, m.fl < 16
  nxF : ∀ x ∈ R.nx, okF x.1 = true ∧ 1 ≤ x.2 ∧ x.2 ≤ n + 1
  names : (R.nx.map Prod.fst).Nodup
  rise : R.ms.Pairwise fun a b => a.f = b.f → a.u < b.u
/-- what values tell of it -/
structure Bv (vs : VL) (R : Rb) : Prop where
  srt : Srt vs
  next : ∀ f, getV vs (nKey f) = (R.next? f).map nV
  mail : ∀ f u, getV vs (mKey f u) = (R.find f u).map Ml.v
  keys : ∀ p ∈ vs, (∃ x ∈ R.nx, p.1 = nKey x.1) ∨ ∃ m ∈ R.ms, p.1 = mKey m.f (m.u : Int)
def Rb.zero : Rb := ⟨[], []⟩
theorem zero_ok : Rb.zero.ok 0 := ⟨by decide, by simp [Rb.zero], by simp [Rb.zero], by simp [Rb.zero], by simp [Rb.zero], by simp [Rb.zero], by simp [Rb.zero]⟩
theorem zero_bv : Bv [] Rb.zero := ⟨List.Pairwise.nil, fun _ => rfl, fun _ _ => rfl, by simp⟩
theorem Rb.next_le {R : Rb} {n : Nat} (k : R.ok n) (f : Bk) : 1 ≤ R.next f ∧ R.next f ≤ n + 1 := by
  unfold Rb.next Rb.next?
  cases h : R.nx.find? fun x => decide (x.1 = f) with
  | none => simp
  | some x =>
    have := k.nxF x (List.mem_of_find?_eq_some h)
    simpa using this.2
theorem Rb.ok.u_lt {R : Rb} {n : Nat} (k : R.ok n) {m : Ml} (h : m ∈ R.ms) : m.u < 10 ^ 10 := by
  have h1 := k.low m h
  have h2 := R.next_le k m.f
  have := k.le
  omega
theorem find_mem {R : Rb} {f : Bk} {u : Int} {m : Ml} (h : R.find f u = some m) : m ∈ R.ms ∧ m.f = f ∧ (m.u : Int) = u := by
  have h1 := List.find?_some h
  simp only [Bool.and_eq_true, decide_eq_true_eq] at h1
  exact ⟨List.mem_of_find?_eq_some h, h1.1, h1.2⟩
/-! ### getV behind what is done -/
theorem getV_ins {vs : VL} (h : Srt vs) (k v k' : Bk) : getV (insV k v vs) k' = if k' = k then some v else getV vs k' := by
  have h1 := insV_srt (k := k) (v := v) h
  have hp := insV_perm (k := k) (v := v) h
  apply Option.ext
  intro x
  rw [getV_mem h1.keys, hp.mem_iff, List.mem_cons, List.mem_filter]
  by_cases e : k' = k
  · subst e
    rw [if_pos rfl]
    simp [eq_comm]
  · rw [if_neg e, getV_mem h.keys]
    simp [e]
theorem getV_del {vs : VL} (h : Srt vs) (k k' : Bk) : getV (delV k vs) k' = if k' = k then none else getV vs k' := by
  apply Option.ext
  intro x
  rw [getV_mem (delV_srt h).keys, delV_filter h, List.mem_filter]
  by_cases e : k' = k
  · subst e
    simp
  · rw [if_neg e, getV_mem h.keys]
    simp [e]
theorem ins_keys {vs : VL} (h : Srt vs) {k v : Bk} {p : Bk × Bk} (hp : p ∈ insV k v vs) : p.1 = k ∨ p ∈ vs := by
  rcases insV_mem hp with rfl | h
  · exact .inl rfl
  · exact .inr h
/-! ### Deliver -/
theorem next_deliver (R : Rb) (f b g : Bk) : (R.deliver f b).next? g = if g = f then some (R.next f + 1) else R.next? g := by
  unfold Rb.deliver
  by_cases hk : (R.next? f).isSome = true
  · rw [if_pos hk]
    unfold Rb.next? at hk ⊢
    dsimp only
    rw [List.find?_map]
    have e : ((fun x : Bk × Nat => decide (x.1 = g)) ∘ hit R f) = fun x => decide (x.1 = g) := by
      funext x
      simp only [Function.comp, hit]
      split <;> rfl
    rw [e, Option.map_map]
    by_cases hg : g = f
    · subst hg
      rw [if_pos rfl]
      unfold Rb.next Rb.next?
      cases h : R.nx.find? fun x => decide (x.1 = g) with
      | none => rw [h] at hk; cases hk
      | some x =>
        have := List.find?_some h
        simp only [decide_eq_true_eq] at this
        simp [hit, this]
    · rw [if_neg hg]
      cases h : R.nx.find? fun x => decide (x.1 = g) with
      | none => rfl
      | some x =>
        have := List.find?_some h
        simp only [decide_eq_true_eq] at this
        have h2 : ¬ x.1 = f := fun e => hg (this.symm.trans e)
        simp [hit, h2]
  · rw [if_neg hk]
    have hn : R.next? f = none := by cases h : R.next? f with | none => rfl | some x => rw [h] at hk; exact absurd rfl hk
    unfold Rb.next
    rw [hn]
    unfold Rb.next? at hn ⊢
    dsimp only
    rw [List.find?_append]
    by_cases hg : g = f
    · subst hg
      rw [if_pos rfl]
      cases h : R.nx.find? fun x => decide (x.1 = g) with
      | none => simp
      | some x => rw [h] at hn; cases hn
    · rw [if_neg hg]
      cases h : R.nx.find? fun x => decide (x.1 = g) with
      | none => simp [Ne.symm hg, fun e => hg (Eq.symm e)]
      | some x => rfl
theorem find_deliver {R : Rb} {n : Nat} (k : R.ok n) (f b g : Bk) (u : Int) : (R.deliver f b).find g u = if g = f ∧ u = (R.next f : Int) then some ⟨f, R.next f, 0, b⟩ else R.find g u := by
  unfold Rb.deliver Rb.find
  dsimp only
  rw [List.find?_append]
  by_cases h : g = f ∧ u = (R.next f : Int)
  · rw [if_pos h]
    obtain ⟨rfl, rfl⟩ := h
    cases h : R.ms.find? fun m => decide (m.f = g) && decide ((m.u : Int) = (R.next g : Int)) with
    | none => simp
    | some m =>
      have h1 := List.find?_some h
      simp only [Bool.and_eq_true, decide_eq_true_eq] at h1
      have := (k.low m (List.mem_of_find?_eq_some h)).2
      rw [h1.1] at this
      omega
  · rw [if_neg h]
    cases R.ms.find? fun m => decide (m.f = g) && decide ((m.u : Int) = u) with
    | some m => rfl
    | none =>
      have : ¬ (f = g ∧ (R.next f : Int) = u) := fun e => h ⟨e.1.symm, e.2.symm⟩
      simp only [Option.none_or, List.find?_cons, List.find?_nil]
      rw [show (decide (f = g) && decide ((R.next f : Int) = u)) = false by rw [← Bool.decide_and]; exact decide_eq_false this]
theorem deliver_ok {R : Rb} {n : Nat} (k : R.ok n) (hn : n + 1 ≤ 1000000) {f : Bk} (hf : okF f = true) (b : Bk) : (R.deliver f b).ok (n + 1) := by
  have hnx : ∀ g, (R.deliver f b).next g = if g = f then R.next f + 1 else R.next g := fun g => by
    unfold Rb.next
    rw [next_deliver]
    split <;> rfl
  have hb := R.next_le k f
  refine ⟨hn, ?_, ?_, ?_, ?_, ?_, ?_⟩
  · intro m hm
    rcases List.mem_append.1 hm with hm | hm
    · exact k.fold m hm
    · rw [List.mem_singleton] at hm; subst hm; exact hf
  · intro m hm
    rw [hnx]
    rcases List.mem_append.1 hm with hm | hm
    · have := k.low m hm
      split
      · next e => rw [e] at this; omega
      · exact this
    · rw [List.mem_singleton] at hm
      subst hm
      rw [if_pos rfl]
      dsimp only
      omega
  · intro m hm
    rcases List.mem_append.1 hm with hm | hm
    · exact k.fl m hm
    · rw [List.mem_singleton] at hm; subst hm; exact (by decide : 0 < 16)
  · intro x hx
    unfold Rb.deliver at hx
    dsimp only at hx
    split at hx
    · obtain ⟨y, hy, rfl⟩ := List.mem_map.1 hx
      have := k.nxF y hy
      unfold hit
      split
      · exact ⟨this.1, by dsimp only; omega, by dsimp only; omega⟩
      · exact ⟨this.1, this.2.1, by omega⟩
    · rcases List.mem_append.1 hx with hx | hx
      · have := k.nxF x hx
        exact ⟨this.1, this.2.1, by omega⟩
      · rw [List.mem_singleton] at hx; subst hx; exact ⟨hf, (by decide : 1 ≤ 2), by show 2 ≤ n + 1 + 1; omega⟩
  · unfold Rb.deliver
    dsimp only
    split
    · rw [List.map_map, show Prod.fst ∘ hit R f = Prod.fst from funext fun x => by simp only [Function.comp, hit]; split <;> rfl]
      exact k.names
    · next hk =>
      rw [List.map_append, List.nodup_append]
      refine ⟨k.names, by simp, fun a ha b hb => ?_⟩
      simp only [List.map_cons, List.map_nil, List.mem_singleton] at hb
      subst hb
      rintro rfl
      obtain ⟨x, hx, e⟩ := List.mem_map.1 ha
      refine hk ?_
      unfold Rb.next?
      rw [Option.isSome_map]
      exact List.find?_isSome.2 ⟨x, hx, decide_eq_true e⟩
  · unfold Rb.deliver
    dsimp only
    rw [List.pairwise_append]
    refine ⟨k.rise, List.pairwise_singleton _ _, fun a ha b hb => ?_⟩
    rw [List.mem_singleton] at hb
    subst hb
    intro e
    have := (k.low a ha).2
    dsimp only at e ⊢
    rw [e] at this
    exact this
theorem deliver_bv {R : Rb} {n : Nat} (k : R.ok n) {vs : VL} (hb : Bv vs R) (f b : Bk) :
    Bv (doL vs [⟨mKey f (R.next f : Int), 0#8 :: b, false⟩, ⟨nKey f, nV (R.next f + 1), false⟩]) (R.deliver f b) := by
  have e : doL vs [⟨mKey f (R.next f : Int), 0#8 :: b, false⟩, ⟨nKey f, nV (R.next f + 1), false⟩] = insV (nKey f) (nV (R.next f + 1)) (insV (mKey f (R.next f : Int)) (0#8 :: b) vs) := rfl
  have s1 := insV_srt (k := mKey f (R.next f : Int)) (v := 0#8 :: b) hb.srt
  have hl : R.next f < 10 ^ 10 := by have := R.next_le k f; have := k.le; omega
  rw [e]
  refine ⟨insV_srt s1, fun g => ?_, fun g u => ?_, fun p hp => ?_⟩
  · rw [getV_ins s1, getV_ins hb.srt, next_deliver]
    by_cases h : g = f
    · subst h; rw [if_pos rfl, if_pos rfl]; rfl
    · rw [if_neg fun e => h (nKey_inj e), if_neg (nm_ne _ _ _), if_neg h, hb.next]
  · rw [getV_ins s1, if_neg (nm_ne' _ _ _), getV_ins hb.srt, find_deliver k]
    by_cases h : g = f ∧ u = (R.next f : Int)
    · obtain ⟨rfl, rfl⟩ := h
      rw [if_pos rfl, if_pos ⟨rfl, rfl⟩]; rfl
    · rw [if_neg fun e => h (mKey_inj hl e), if_neg h, hb.mail]
  · have hnx : ∀ x ∈ R.nx, ∃ y ∈ (R.deliver f b).nx, y.1 = x.1 := fun x hx => by
      unfold Rb.deliver
      dsimp only
      split
      · exact ⟨hit R f x, List.mem_map_of_mem hx, by unfold hit; split <;> rfl⟩
      · exact ⟨x, List.mem_append_left _ hx, rfl⟩
    rcases ins_keys s1 hp with h | h
    · left
      unfold Rb.deliver
      dsimp only
      split
      · next hk =>
        unfold Rb.next? at hk
        rw [Option.isSome_map, List.find?_isSome] at hk
        obtain ⟨x, hx, hd⟩ := hk
        rw [decide_eq_true_eq] at hd
        refine ⟨hit R f x, List.mem_map_of_mem hx, ?_⟩
        rw [h, show (hit R f x).1 = x.1 by unfold hit; split <;> rfl, hd]
      · exact ⟨(f, 2), by simp, h⟩
    · rcases ins_keys hb.srt h with h | h
      · exact .inr ⟨⟨f, R.next f, 0, b⟩, List.mem_append_right _ (by simp), h⟩
      · rcases hb.keys p h with ⟨x, hx, e⟩ | ⟨m, hm, e⟩
        · obtain ⟨y, hy, e2⟩ := hnx x hx
          exact .inl ⟨y, hy, by rw [e, e2]⟩
        · exact .inr ⟨m, List.mem_append_left _ hm, e⟩
/-! ### Mark -/
theorem setF_f (f : Bk) (u : Int) (fl : Nat) (m : Ml) : (setF f u fl m).f = m.f ∧ (setF f u fl m).u = m.u ∧ (setF f u fl m).b = m.b := by unfold setF; split <;> exact ⟨rfl, rfl, rfl⟩
theorem find_mark (R : Rb) (f : Bk) (u : Int) (fl : Nat) (g : Bk) (v : Int) : (R.mark f u fl).find g v = if g = f ∧ v = u then (R.find g v).map fun m => ⟨m.f, m.u, fl, m.b⟩ else R.find g v := by
  unfold Rb.mark Rb.find
  dsimp only
  rw [List.find?_map]
  have e : ((fun m : Ml => decide (m.f = g) && decide ((m.u : Int) = v)) ∘ setF f u fl) = fun m => decide (m.f = g) && decide ((m.u : Int) = v) := by
    funext m
    simp only [Function.comp, (setF_f f u fl m).1, (setF_f f u fl m).2.1]
  rw [e]
  cases h : R.ms.find? fun m => decide (m.f = g) && decide ((m.u : Int) = v) with
  | none => simp
  | some m =>
    have h1 := List.find?_some h
    simp only [Bool.and_eq_true, decide_eq_true_eq] at h1
    by_cases hh : g = f ∧ v = u
    · rw [if_pos hh]
      simp only [Option.map_some]
      unfold setF
      rw [if_pos ⟨h1.1.trans hh.1, h1.2.trans hh.2⟩]
    · rw [if_neg hh]
      simp only [Option.map_some]
      unfold setF
      rw [if_neg fun e => hh ⟨h1.1.symm.trans e.1, h1.2.symm.trans e.2⟩]
theorem mark_ok {R : Rb} {n : Nat} (k : R.ok n) (f : Bk) (u : Int) {fl : Nat} (hf : fl < 16) : (R.mark f u fl).ok n := by
  have hn : ∀ g, (R.mark f u fl).next g = R.next g := fun _ => rfl
  refine ⟨k.le, ?_, ?_, ?_, k.nxF, k.names, ?_⟩
  · intro m hm
    obtain ⟨m', hm', rfl⟩ := List.mem_map.1 hm
    rw [(setF_f f u fl m').1]; exact k.fold m' hm'
  · intro m hm
    obtain ⟨m', hm', rfl⟩ := List.mem_map.1 hm
    rw [(setF_f f u fl m').1, (setF_f f u fl m').2.1, hn]; exact k.low m' hm'
  · intro m hm
    obtain ⟨m', hm', rfl⟩ := List.mem_map.1 hm
    unfold setF
    split
    · exact hf
    · exact k.fl m' hm'
  · unfold Rb.mark
    dsimp only
    rw [List.pairwise_map]
    refine k.rise.imp fun {a b} h => ?_
    rw [(setF_f f u fl a).1, (setF_f f u fl b).1, (setF_f f u fl a).2.1, (setF_f f u fl b).2.1]
    exact h
theorem mark_bv {R : Rb} {n : Nat} (k : R.ok n) {vs : VL} (hb : Bv vs R) {f : Bk} {u : Int} {fl : Nat} {m : Ml} (hm : R.find f u = some m) :
    Bv (doL vs [⟨mKey f u, BitVec.ofNat 8 fl :: m.b, false⟩]) (R.mark f u fl) := by
  have e : doL vs [⟨mKey f u, BitVec.ofNat 8 fl :: m.b, false⟩] = insV (mKey f u) (BitVec.ofNat 8 fl :: m.b) vs := rfl
  obtain ⟨hmm, hmf, hmu⟩ := find_mem hm
  have hl := k.u_lt hmm
  rw [e]
  refine ⟨insV_srt hb.srt, fun g => ?_, fun g v => ?_, fun p hp => ?_⟩
  · rw [getV_ins hb.srt, if_neg (nm_ne _ _ _), hb.next]; rfl
  · rw [getV_ins hb.srt, find_mark]
    by_cases h : g = f ∧ v = u
    · obtain ⟨rfl, rfl⟩ := h
      rw [if_pos rfl, if_pos ⟨rfl, rfl⟩, hm]; rfl
    · rw [if_neg fun e => h (by rw [← hmu] at e ⊢; exact mKey_inj hl e), if_neg h, hb.mail]
  · rcases ins_keys hb.srt hp with h | h
    · exact .inr ⟨setF f u fl m, List.mem_map_of_mem hmm, by rw [h, (setF_f f u fl m).1, (setF_f f u fl m).2.1, hmf, hmu]⟩
    · rcases hb.keys p h with h | ⟨m2, h2, e⟩
      · exact .inl h
      · exact .inr ⟨setF f u fl m2, List.mem_map_of_mem h2, by rw [e, (setF_f f u fl m2).1, (setF_f f u fl m2).2.1]⟩
/-! ### Expunge -/
theorem find_exp {R : Rb} {n : Nat} (k : R.ok n) (f g : Bk) (u : Int) : (R.expunge f).find g u = (R.find g u).filter fun m => !goes f m := by
  obtain ⟨ms, nx⟩ := R
  have kr := k.rise
  clear k
  unfold Rb.expunge Rb.find
  dsimp only at kr ⊢
  induction ms with
  | nil => rfl
  | cons m ms ih =>
    obtain ⟨h1, h2⟩ := List.pairwise_cons.1 kr
    have ih := ih h2
    rw [List.find?_cons]
    by_cases hp : (decide (m.f = g) && decide ((m.u : Int) = u)) = true
    · rw [hp]
      by_cases hg : goes f m = true
      · rw [List.filter_cons_of_neg (by simp [hg])]
        rw [ih]
        have hn : (ms.find? fun m => decide (m.f = g) && decide ((m.u : Int) = u)) = none := by
          rw [List.find?_eq_none]
          intro x hx hq
          simp only [Bool.and_eq_true, decide_eq_true_eq] at hp hq
          have := h1 x hx (hp.1.trans hq.1.symm)
          omega
        rw [hn]
        simp [hg, Option.filter]
      · rw [List.filter_cons_of_pos (by simp [hg]), List.find?_cons, hp]
        simp [hg, Option.filter]
    · have hp' : (decide (m.f = g) && decide ((m.u : Int) = u)) = false := by simpa using hp
      rw [hp']
      by_cases hg : goes f m = true
      · rw [List.filter_cons_of_neg (by simp [hg]), ih]
      · rw [List.filter_cons_of_pos (by simp [hg]), List.find?_cons, hp', ih]
theorem expunge_ok {R : Rb} {n : Nat} (k : R.ok n) (f : Bk) : (R.expunge f).ok n := by
  have hs : ∀ m ∈ (R.expunge f).ms, m ∈ R.ms := fun m hm => (List.mem_filter.1 hm).1
  exact ⟨k.le, fun m hm => k.fold m (hs m hm), fun m hm => k.low m (hs m hm), fun m hm => k.fl m (hs m hm), k.nxF, k.names, k.rise.filter _⟩
/-- the pairs of an Expunge -/
def expP (R : Rb) (f : Bk) : List Pq := (R.ms.filter (goes f)).map fun m => ⟨mKey f (m.u : Int), [], true⟩
theorem getV_dels : ∀ (ks : List Bk) {vs : VL} (_ : Srt vs) (k' : Bk), Srt (doL vs (ks.map fun k => ⟨k, [], true⟩)) ∧ getV (doL vs (ks.map fun k => ⟨k, [], true⟩)) k' = if k' ∈ ks then none else getV vs k'
  | [], vs, h, k' => by simpa using ⟨h, rfl⟩
  | k :: ks, vs, h, k' => by
    have ih := getV_dels ks (delV_srt (k := k) h) k'
    have e : doL vs ((k :: ks).map fun k => (⟨k, [], true⟩ : Pq)) = doL (delV k vs) (ks.map fun k => ⟨k, [], true⟩) := rfl
    rw [e]
    refine ⟨ih.1, ih.2.trans ?_⟩
    rw [getV_del h]
    by_cases h1 : k' ∈ ks
    · rw [if_pos h1, if_pos (List.mem_cons_of_mem _ h1)]
    · rw [if_neg h1]
      by_cases h2 : k' = k
      · rw [if_pos h2, if_pos (by simp [h2])]
      · rw [if_neg h2, if_neg (by simp [h1, h2])]
theorem dels_sub : ∀ (ks : List Bk) (vs : VL), ∀ p ∈ doL vs (ks.map fun k => (⟨k, [], true⟩ : Pq)), p ∈ vs
  | [], _, _, h => h
  | k :: ks, vs, p, h => (delV_sub k vs).subset (dels_sub ks (delV k vs) p h)
theorem expunge_bv {R : Rb} {n : Nat} (k : R.ok n) {vs : VL} (hb : Bv vs R) (f : Bk) : Bv (doL vs (expP R f)) (R.expunge f) := by
  have e : expP R f = ((R.ms.filter (goes f)).map fun m => mKey f (m.u : Int)).map fun k => ⟨k, [], true⟩ := by unfold expP; rw [List.map_map]; rfl
  generalize hks : ((R.ms.filter (goes f)).map fun m => mKey f (m.u : Int)) = ks at e
  have hmem : ∀ x, x ∈ ks ↔ ∃ m ∈ R.ms, goes f m = true ∧ x = mKey f (m.u : Int) := fun x => by
    rw [← hks, List.mem_map]
    constructor
    · rintro ⟨m, hm, rfl⟩
      exact ⟨m, (List.mem_filter.1 hm).1, (List.mem_filter.1 hm).2, rfl⟩
    · rintro ⟨m, h1, h2, rfl⟩
      exact ⟨m, List.mem_filter.2 ⟨h1, h2⟩, rfl⟩
  have hgf : ∀ m, goes f m = true → m.f = f := fun m h => by unfold goes at h; simp only [Bool.and_eq_true, decide_eq_true_eq] at h; exact h.1
  have hmail : ∀ g u, getV (doL vs (ks.map fun k => (⟨k, [], true⟩ : Pq))) (mKey g u) = ((R.expunge f).find g u).map Ml.v := fun g u => by
    rw [(getV_dels ks hb.srt _).2, find_exp k, hb.mail]
    by_cases h : mKey g u ∈ ks
    · rw [if_pos h]
      obtain ⟨m, hm, hg, e⟩ := (hmem _).1 h
      obtain ⟨rfl, rfl⟩ := mKey_inj (k.u_lt hm) e
      cases h2 : R.find g (m.u : Int) with
      | none => rfl
      | some m2 =>
        obtain ⟨hm2, hf2, hu2⟩ := find_mem h2
        have : m2 = m := by
          have hr := k.rise
          have hu : m2.u = m.u := by omega
          have hff : m2.f = m.f := hf2.trans (hgf m hg).symm
          rcases List.mem_iff_getElem.1 hm with ⟨i, hi, rfl⟩
          rcases List.mem_iff_getElem.1 hm2 with ⟨j, hj, rfl⟩
          rcases Nat.lt_trichotomy i j with hij | hij | hij
          · have := List.pairwise_iff_getElem.1 hr i j hi hj hij hff.symm; omega
          · subst hij; rfl
          · have := List.pairwise_iff_getElem.1 hr j i hj hi hij hff; omega
        subst this
        simp [hg, Option.filter]
    · rw [if_neg h]
      cases h2 : R.find g u with
      | none => rfl
      | some m =>
        obtain ⟨hm, hf, hu⟩ := find_mem h2
        have hg : goes f m = false := by
          cases hgo : goes f m with
          | false => rfl
          | true =>
            refine absurd ((hmem _).2 ⟨m, hm, hgo, ?_⟩) h
            rw [hu, ← hf, hgf m hgo]
        simp [hg, Option.filter]
  rw [e]
  refine ⟨(getV_dels ks hb.srt []).1, fun g => ?_, hmail, fun p hp => ?_⟩
  · rw [(getV_dels ks hb.srt _).2, if_neg, hb.next]
    · rfl
    · intro h
      obtain ⟨m, _, _, e⟩ := (hmem _).1 h
      exact nm_ne _ _ _ e
  · rcases hb.keys p (dels_sub ks vs p hp) with h | ⟨m, hm, e⟩
    · exact .inl h
    · refine .inr ⟨m, ?_, e⟩
      have h1 : getV (doL vs (ks.map fun k => (⟨k, [], true⟩ : Pq))) p.1 = some p.2 := (getV_mem (getV_dels ks hb.srt []).1.keys).2 hp
      rw [e, hmail] at h1
      obtain ⟨m2, h2, _⟩ := Option.map_eq_some_iff.1 h1
      obtain ⟨h3, h4, h5⟩ := find_mem h2
      have h6 := h3
      have h3 := (List.mem_filter.1 h3).1
      have hr := k.rise
      have hu : m2.u = m.u := by omega
      have : m2 = m := by
        rcases List.mem_iff_getElem.1 hm with ⟨i, hi, rfl⟩
        rcases List.mem_iff_getElem.1 h3 with ⟨j, hj, rfl⟩
        rcases Nat.lt_trichotomy i j with hij | hij | hij
        · have := List.pairwise_iff_getElem.1 hr i j hi hj hij h4.symm; omega
        · subst hij; rfl
        · have := List.pairwise_iff_getElem.1 hr j i hj hi hij h4; omega
      rw [← this]
      exact h6
/-! ### List -/
theorem list_keys {R : Rb} {n : Nat} (k : R.ok n) {vs : VL} (hb : Bv vs R) (f : Bk) :
    (vs.filter fun p => decide (p.1.take (mFront f).length = mFront f)).map Prod.fst = (R.list f).map fun u => mKey f ((u : Nat) : Int) := by
  refine srt_eq ?_ ?_ fun x => ?_
  · rw [List.pairwise_map]; exact hb.srt.filter _
  · unfold Rb.list
    rw [List.map_map, List.pairwise_map]
    have h1 : (R.ms.filter fun m => decide (m.f = f)).Pairwise fun a b => a.f = b.f → a.u < b.u := k.rise.filter _
    refine List.Pairwise.imp_of_mem (fun {a b} ha hb h => ?_) h1
    obtain ⟨ha1, ha2⟩ := List.mem_filter.1 ha
    obtain ⟨hb1, hb2⟩ := List.mem_filter.1 hb
    rw [decide_eq_true_eq] at ha2 hb2
    exact mKey_lt (k.u_lt ha1) (k.u_lt hb1) (h (ha2.trans hb2.symm))
  · rw [List.mem_map, List.mem_map]
    constructor
    · rintro ⟨p, hp, rfl⟩
      obtain ⟨h1, h2⟩ := List.mem_filter.1 hp
      rw [decide_eq_true_eq] at h2
      rcases hb.keys p h1 with ⟨y, _, e⟩ | ⟨m, hm, e⟩
      · rw [e] at h2; exact absurd h2 (nfront _ _)
      · rw [e] at h2 ⊢
        have hf := (front_iff (okF_col (k.fold m hm))).1 h2
        subst hf
        exact ⟨m.u, List.mem_map_of_mem (List.mem_filter.2 ⟨hm, by simp⟩), rfl⟩
    · rintro ⟨u, hu, rfl⟩
      obtain ⟨m, hm, rfl⟩ := List.mem_map.1 hu
      obtain ⟨h1, h2⟩ := List.mem_filter.1 hm
      rw [decide_eq_true_eq] at h2
      subst h2
      have hv : getV vs (mKey m.f (m.u : Int)) ≠ none := by
        rw [hb.mail]
        cases h : R.find m.f (m.u : Int) with
        | some x => simp
        | none =>
          unfold Rb.find at h
          have := List.find?_eq_none.1 h m h1
          simp at this
      cases h : getV vs (mKey m.f (m.u : Int)) with
      | none => exact absurd h hv
      | some v =>
        refine ⟨(mKey m.f (m.u : Int), v), List.mem_filter.2 ⟨(getV_mem hb.srt.keys).1 h, ?_⟩, rfl⟩
        rw [decide_eq_true_eq]
        exact (front_iff (okF_col (k.fold m h1))).2 rfl
end Bx
end Go.Proofs.YtjkncnbpaejamaaGreatDoor

/-
  Of no statement by itself: strings.HasPrefix at any texts.
  Conditions: each theorem's own.
-/
namespace Go.Proofs.YtjkncnbpaejamaaGreatDoor
set_option maxRecDepth 10000
open Sl
theorem goes_shpx : Goes Tryz.prog 62 := ⟨_, Tryz.func62, rfl, by kernel_rfl⟩
theorem goes_shpy : Goes Tryz.prog 85 := ⟨_, Tryz.func85, rfl, by kernel_rfl⟩
set_option maxHeartbeats 2000000 in
theorem shpy_any (s d : List Bt) (w : World) : Calls Tryz.prog 85 [Z s, Z d].toArray w fun e w' => e = .returned (.bool (decide (s.take d.length = d))) ∧ Ext w w' := by
  refine enter (n := 18) Tryz.func85 rfl rfl rfl (Holds.start w []) ?_
  cases h1 : decide ((d.length : Int) ≤ (s.length : Int))
  · have hF : decide (s.take d.length = d) = false := decide_eq_false fun e => by
      have := congrArg List.length e
      rw [List.length_take] at this
      have := of_decide_eq_false h1
      omega
    rw [hF]
    repeat (first | refine JL.q (by first | (apply OQ.lenS; exact Tryz.underlying9; exact rfl) | (apply OQ.geqB (b := (d.length : Int)); exact rfl; exact rfl; exact h1) | (apply OQ.pick_f; exact rfl; exact rfl) | (apply OQ.move; exact rfl) | (apply OQ.assign; exact rfl)) rfl ?_ | refine JC.seq ?_ | refine JC.region ?_ | refine JL.nil ?_ | refine JE.next ?_ | refine JL.gskip rfl rfl rfl rfl ?_)
    exact JC.ret (JE.ret1 rfl (RV.tmp rfl) fun w' hw => ⟨rfl, hw.chg⟩)
  · have hle : d.length ≤ s.length := by have := of_decide_eq_true h1; omega
    cases h2 : decide (s.take d.length = d)
    all_goals (repeat (first | refine JL.q (by first | (apply OQ.lenS; exact Tryz.underlying9; exact rfl) | (apply OQ.geqB (b := (d.length : Int)); exact rfl; exact rfl; exact h1) | (apply OQ.subS_hi (j := d.length); exact Tryz.underlying9; exact rfl; exact rfl; exact hle) | (apply OQ.eqSB; exact rfl; exact rfl; exact h2) | (apply OQ.pick_t; exact rfl; exact rfl) | (apply OQ.move; exact rfl) | (apply OQ.assign; exact rfl)) rfl ?_ | refine JC.seq ?_ | refine JC.region ?_ | refine JL.nil ?_ | refine JE.next ?_ | refine JL.gon rfl rfl ?_))
    all_goals exact JC.ret (JE.ret1 rfl (RV.tmp rfl) fun w' hw => ⟨rfl, hw.chg⟩)
theorem shpx_any (s d : List Bt) (w : World) : Calls Tryz.prog 62 [Z s, Z d].toArray w fun e w' => e = .returned (.bool (decide (s.take d.length = d))) ∧ Ext w w' := by
  refine enter (n := 8) Tryz.func62 rfl rfl rfl (Holds.start w []) ?_
  have hq := fun w' => shpy_any s d w'
  repeat (first | refine JL.q (by first | (apply OQ.callx (vs := [Z s, Z d]); exact goes_shpy; exact rfl; exact (fun w' _ => hq w')) | (apply OQ.move; exact rfl) | (apply OQ.assign; exact rfl)) rfl ?_ | refine JC.seq ?_ | refine JC.region ?_ | refine JL.nil ?_ | refine JE.next ?_)
  exact JC.ret (JE.ret1 rfl (RV.tmp rfl) fun w' hw => ⟨rfl, hw.chg⟩)
end Go.Proofs.YtjkncnbpaejamaaGreatDoor

/-
  Of no statement by itself: the landed store's values: keys, pairs.
  Conditions: each theorem's own.
-/
namespace Go.Proofs.YtjkncnbpaejamaaGreatDoor
set_option maxRecDepth 10000
open Sl Dsk Jrn Sto
theorem strS16 : szT Tryz.prog 9 = some 1 := by kernel_rfl
theorem strI16 : EI Tryz.prog 9 (Z []) 1 16 := by unfold EI; kernel_rfl
def preB16 (front k : Bk) : Bool := decide (k.take front.length = front)
/-- the keys with a front, rising -/
def keysM (mm : MV) (front : Bk) : List Bk := sortK ((mm.filter fun e => preB16 front e.key).map ME.key)
theorem sortK_eq {ks ts : List Bk} (h : ks.Perm ts) : sortK ks = sortK ts :=
  List.Perm.eq_of_pairwise (le := fun a b => klt b a = false) (fun a b _ _ h1 h2 => by
    by_cases e : a = b
    · exact e
    · have := klt_total a b e h2; rw [h1] at this; cases this) (sortK_pair ks) (sortK_pair ts) ((sortK_perm ks).trans (h.trans (sortK_perm ts).symm))
theorem keysM_is {mm : MV} {vs : VL} (hs : Srt vs) (hm : MapIs mm vs) (front : Bk) : keysM mm front = (vs.filter fun p => preB16 front p.1).map Prod.fst := by
  unfold keysM
  refine sortK_is ?_ ?_
  · have h := (hm.filter fun p => preB16 front p.1).map Prod.fst
    unfold mvp at h
    rw [List.filter_map, List.map_map] at h
    exact h
  · rw [List.pairwise_map]
    exact hs.sublist List.filter_sublist
theorem keysM_len {mm : MV} {front : Bk} : (keysM mm front).length ≤ mm.length := by
  unfold keysM
  rw [sortK_len, List.length_map]
  exact List.length_filter_le _ _
structure Ks where
  q : Acc
  done : MV
  rest : MV
def Ks.ks (z : Ks) (front : Bk) : List Bk := (z.done.filter fun e => preB16 front e.key).map ME.key
theorem goes_keys : Goes Tryz.prog 49 := ⟨_, Tryz.func49, rfl, by kernel_rfl⟩
set_option maxHeartbeats 16000000 in
theorem keys_any (b : Nat) (mm : MV) (c : Nat) (front : Bk) (w : World) (hf : WF mm c) (hb : ∃ o, w.heap[b]? = some o ∧ MvB (mm, c) o) (hn : mm.length ≤ 4294967296) :
    Calls Tryz.prog 49 [.map (some b), Z front].toArray w fun e w' => ∃ q : {q : Acc // q = none → keysM mm front = []}, e = .returned (accV q.1 (keysM mm front).length) ∧ Holds w [] (accE 9 q.1 ((keysM mm front).map Z)) w' := by
  obtain ⟨o, ho, hA⟩ := hb
  refine enter (n := 23) Tryz.func49 rfl rfl rfl (Holds.seen (S := []) ho hA) ?_
  repeat (first | refine JL.q (by first | (apply OQ.move; exact rfl) | (apply OQ.assign; exact rfl)) rfl ?_ | refine JC.seq ?_ | refine JC.region ?_ | refine JL.nil ?_ | refine JE.next ?_)
  refine JL.mapRange Tryz.underlying94 rfl .here rfl fun r _ => ?_
  repeat (first | refine JC.block ?_ | refine JL.nil ?_ | refine JE.next ?_)
  refine JC.loop (fun z : Ks => [(1, Z front), (5, accV z.q (z.ks front).length), (8, Pt r 0)]) (fun z => ⟨r, IB b c (z.done.map ME.born) c, true⟩ :: ⟨b, MvB (mm, c), false⟩ :: accE 9 z.q ((z.ks front).map Z)) (fun z => z.rest.length) (fun z => (z.done ++ z.rest).Perm mm ∧ (z.q = none → z.ks front = [])) ⟨none, [], mm⟩ ⟨.refl _, fun _ => rfl⟩ (by repeat (first | exact SubE.nil | refine SubE.cons _ _ _ rfl ?_)) (Less.refl _) ?_
  rintro ⟨q, done, rest⟩ ⟨hp, hq⟩
  dsimp only [Ks.ks] at hp hq ⊢
  generalize hks : (done.filter fun e => preB16 front e.key).map ME.key = ks at hq
  have hlen : ks.length ≤ mm.length := by
    rw [← hks, List.length_map]
    refine Nat.le_trans (List.length_filter_le _ _) ?_
    rw [← hp.length_eq, List.length_append]
    omega
  repeat (first | refine JC.seq ?_ | refine JC.region ?_)
  refine JL.mapNext (f := Sl8.v) hf rfl (.there .here) (fun s' => .here) rfl (fun hall => ?_) (fun m hm hnew => ?_)
  · repeat (first | refine JL.q (by (apply OQ.extract; exact rfl; exact rfl)) rfl ?_ | refine JC.seq ?_ | refine JL.nil ?_ | refine JE.next ?_)
    refine JC.cond_false rfl rfl ?_
    have hr : rest = [] := by
      cases rest with
      | nil => rfl
      | cons x rest =>
        obtain ⟨y, hy, e⟩ := List.mem_map.1 (hall x (hp.mem_iff.1 (by simp)))
        have hnd := (hp.map ME.born).nodup_iff.2 hf.borns
        rw [List.map_append, List.map_cons, List.nodup_append] at hnd
        exact absurd e (hnd.2.2 _ (List.mem_map_of_mem hy) _ (by simp))
    subst hr
    rw [List.append_nil] at hp
    have hkk : sortK ks = keysM mm front := by
      rw [← hks]
      exact sortK_eq ((hp.filter _).map _)
    repeat (first | refine JL.q (by (apply OQ.move; exact rfl)) rfl ?_ | refine JC.seq ?_ | refine JC.region ?_ | refine JC.exit ?_ | refine JE.next ?_ | refine JE.then_exit ?_ | refine JE.blk_hit ?_)
    refine JL.perm (M' := accE 9 q (ks.map Z) ++ [⟨r, IB b c (done.map ME.born) c, true⟩, ⟨b, MvB (mm, c), false⟩]) ?_ (by exact List.perm_append_comm (l₁ := [_, _]))
    refine JL.callV (ι := Unit) (vs := [accV q ks.length]) (fun _ => .tuple #[]) (fun _ => accE 9 q ((sortK ks).map Z)) goes_sortS rfl rfl (accE_wr _ _ _) (fun _ => accE_wr _ _ _) (fun w' h0 hw' => (sorts_any q ks hq (by omega) w' hw').mono fun _ _ ⟨h1, h2⟩ => ⟨(), h1, h2⟩) fun _ => ?_
    rw [hkk]
    have hl2 : ks.length = (keysM mm front).length := by rw [← hkk, sortK_len]
    rw [hl2]
    repeat (first | refine JL.q (by first | (apply OQ.move; exact rfl) | (apply OQ.assign; exact rfl)) rfl ?_ | refine JC.seq ?_ | refine JC.region ?_ | refine JL.nil ?_ | refine JE.next ?_)
    exact JC.ret (JE.ret1 rfl (RV.tmp rfl) fun w' hw => ⟨⟨q, fun e => by rw [← hkk, hq e]; exact List.length_eq_zero_iff.1 (sortK_len [])⟩, rfl, hw.weak (less_pre _ _)⟩)
  · have hmr : m ∈ rest := by
      rcases List.mem_append.1 (hp.mem_iff.2 hm) with h | h
      · exact absurd (List.mem_map_of_mem h) hnew
      · exact h
    obtain ⟨s1, s2, rfl⟩ := List.append_of_mem hmr
    have hp' : ((done ++ [m]) ++ (s1 ++ s2)).Perm mm := by
      refine List.Perm.trans ?_ hp
      rw [List.append_assoc]
      exact (List.Perm.append_left _ (by rw [List.singleton_append]; exact List.perm_middle.symm))
    have hmu : (s1 ++ s2).length < (s1 ++ m :: s2).length := by simp
    repeat (first | refine JL.q (by (apply OQ.extract; exact rfl; exact rfl)) rfl ?_ | refine JC.seq ?_ | refine JL.nil ?_ | refine JE.next ?_)
    refine JC.cond_true rfl rfl ?_
    have hpx := fun w' => shpx_any m.key front w'
    cases g1 : decide (m.key.take front.length = front)
    · rw [g1] at hpx
      repeat (first | refine JL.q (by first | (apply OQ.entry; exact hf; exact rfl; exact (.there .here); exact .here; exact hm) | (apply OQ.extract; exact rfl; exact rfl) | (apply OQ.callx (vs := [Z m.key, Z front]); exact goes_shpx; exact rfl; exact (fun w' _ => hpx w')) | (apply OQ.move; exact rfl) | (apply OQ.assign; exact rfl)) rfl ?_ | refine JC.seq ?_ | refine JC.region ?_ | refine JC.block ?_ | refine JC.skip ?_ | refine JL.nil ?_ | refine JE.next ?_)
      refine JC.cond_false rfl rfl ?_
      repeat (first | refine JC.skip ?_ | refine JE.blk_normal ?_)
      have hk2 : ((done ++ [m]).filter fun e => preB16 front e.key).map ME.key = ks := by
        rw [List.filter_append, List.map_append, hks]
        have : preB16 front m.key = false := g1
        simp [this]
      refine JE.again (i := Ks.mk q done (s1 ++ m :: s2)) ⟨q, done ++ [m], s1 ++ s2⟩ ⟨hp', ?_⟩ hmu ?_ ?_
      · dsimp only [Ks.ks]; rw [hk2]; exact hq
      · dsimp only [Ks.ks]; rw [hk2]; exact (by repeat (first | exact SubE.nil | refine SubE.cons _ _ _ rfl ?_))
      · dsimp only [Ks.ks]; rw [hk2, List.map_append]; exact Less.refl _
    · rw [g1] at hpx
      repeat (first | refine JL.q (by first | (apply OQ.entry; exact hf; exact rfl; exact (.there .here); exact .here; exact hm) | (apply OQ.extract; exact rfl; exact rfl) | (apply OQ.callx (vs := [Z m.key, Z front]); exact goes_shpx; exact rfl; exact (fun w' _ => hpx w')) | (apply OQ.move; exact rfl) | (apply OQ.assign; exact rfl)) rfl ?_ | refine JC.seq ?_ | refine JC.region ?_ | refine JC.block ?_ | refine JC.skip ?_ | refine JL.nil ?_ | refine JE.next ?_)
      refine JC.cond_true rfl rfl ?_
      repeat (first | refine JL.q (by (apply OQ.move; exact rfl)) rfl ?_ | refine JC.region ?_)
      refine JL.lit1 (v := Z m.key) Tryz.underlying33 strI16 rfl rfl rfl rfl fun bl _ => ?_
      refine JL.perm (M' := accE 9 q (ks.map Z) ++ [⟨bl, Row 9 [Z m.key], true⟩, ⟨r, IB b c (done.map ME.born ++ [m.born]) c, true⟩, ⟨b, MvB (mm, c), false⟩]) ?_ (by exact List.perm_append_comm (l₁ := [_, _, _]))
      refine JL.appendQ (xs := ks.map Z) (cs := [Z m.key]) (m := 1) (ad := some ⟨bl, 0, none⟩) (sc := 1) q Tryz.underlying33 strI16 (fun e => by rw [hq e]; rfl) (by rw [List.length_map]; rfl) rfl rfl (fun w' hw' => ?_) (by simp [Value.oneCell']) rfl (by rw [List.length_map]; omega) (by rw [List.length_map]; omega) rfl fun q1 hq1 => ?_
      · obtain ⟨o, ho, hA⟩ := hw'.get (b := bl) (A := Row 9 [Z m.key]) (wr := true) (hasR .here)
        exact Reads.block ho (Row.all o hA)
      have hk2 : ((done ++ [m]).filter fun e => preB16 front e.key).map ME.key = ks ++ [m.key] := by
        rw [List.filter_append, List.map_append, hks]
        have : preB16 front m.key = true := g1
        simp [this]
      rw [show ks.map Z ++ [Z m.key] = (ks ++ [m.key]).map Z by simp, List.length_map]
      repeat (first | refine JL.q (by (apply OQ.assign; exact rfl)) rfl ?_ | refine JL.nil ?_ | refine JE.blk_normal ?_)
      refine JE.perm (List.perm_append_comm (l₂ := [_, _, _])) ?_
      refine JE.again (i := Ks.mk q done (s1 ++ m :: s2)) ⟨q1, done ++ [m], s1 ++ s2⟩ ⟨hp', ?_⟩ hmu ?_ ?_
      · dsimp only [Ks.ks]; rw [hk2]; intro e; have := hq1 e; simp at this
      · dsimp only [Ks.ks]; rw [hk2]; exact (by repeat (first | exact SubE.nil | refine SubE.cons _ _ _ rfl ?_))
      · dsimp only [Ks.ks]; rw [hk2, List.map_append]; exact .drop _ _ _ (Less.refl _)
/-- the pairs that make the values of nothing, in memory -/
def pairsM (mm : MV) : List PqS := (keysM mm []).map fun k => ⟨k, (look mm k).getD nilS, false⟩
theorem look_in {mm : MV} {k : Bk} {s : Sl8} : look mm k = some s → ∃ e ∈ mm, e.key = k ∧ e.val = s := by
  induction mm with
  | nil => intro h; cases h
  | cons x mm ih =>
    intro h
    rw [look_cons] at h
    split at h
    · next hk => exact ⟨x, by simp, hk.symm, Option.some.inj h⟩
    · obtain ⟨e, he, h1⟩ := ih h
      exact ⟨e, by simp [he], h1⟩
theorem look_get {mm : MV} {vs : VL} {c : Nat} (hf : WF mm c) (hs : Srt vs) (hm : MapIs mm vs) (k : Bk) : (look mm k).map Sl8.l = getV vs k := by
  cases h : look mm k with
  | none =>
    have h1 := look_none.1 h
    cases h2 : getV vs k with
    | none => rfl
    | some v =>
      have := hm.mem_iff.2 ((getV_mem hs.keys).1 h2)
      obtain ⟨e, he, h3⟩ := List.mem_map.1 this
      exact absurd (List.mem_map.2 ⟨e, he, congrArg Prod.fst h3⟩) h1
  | some s =>
    obtain ⟨e, he, h1, h2⟩ := look_in h
    exact ((getV_mem hs.keys).2 (hm.mem_iff.1 (List.mem_map.2 ⟨e, he, by rw [h1, h2]⟩))).symm
theorem pairsM_is {mm : MV} {vs : VL} {c : Nat} (hf : WF mm c) (hs : Srt vs) (hm : MapIs mm vs) : (pairsM mm).map PqS.p = pairsV vs := by
  unfold pairsM pairsV
  rw [keysM_is hs hm, List.filter_eq_self.2 fun p _ => by show decide (p.1.take 0 = []) = true; simp, List.map_map, List.map_map]
  refine List.map_congr_left fun p hp => ?_
  have h := look_get hf hs hm p.1
  rw [(getV_mem hs.keys).2 (show (p.1, p.2) ∈ vs from hp)] at h
  cases h2 : look mm p.1 with
  | none => rw [h2] at h; cases h
  | some s =>
    rw [h2] at h
    simp only [Option.map_some, Option.some.injEq] at h
    simp [PqS.p, h2, h]
theorem pairsM_in {mm : MV} {p : PqS} (h : p ∈ pairsM mm) : p.s = nilS ∨ p.s ∈ mm.map ME.val := by
  obtain ⟨k, _, rfl⟩ := List.mem_map.1 h
  dsimp only
  cases h2 : look mm k with
  | none => exact .inl rfl
  | some s =>
    obtain ⟨e, he, _, h1⟩ := look_in h2
    exact .inr (List.mem_map.2 ⟨e, he, h1⟩)
theorem pairsM_len {mm : MV} : (pairsM mm).length ≤ mm.length := by unfold pairsM; rw [List.length_map]; exact keysM_len
section
variable {n : Nat} {E : Env} {C : World → Prop} {dst : Option Tmp} {ty : TypeId} {pos : String} {aft : Array Edge} {g : Option (Nat × Bool)} {x1 x2 : Operand} {s : Sl8}
theorem OQ.buildP2 {key : Bk} (h1 : ev E x1 = some (Z key)) (h2 : ev E x2 = some s.v) :
    OQ Tryz.prog n E C ⟨dst, .build 67 #[(0, x1), (1, x2)], ty, pos, aft, g⟩ (.agg #[Z key, s.v, .bool false]) :=
  OQ.run fun a ha w _ => by
    have e1 := ha.eval h1
    have e2 := ha.eval h2
    have r := run_build (P := Tryz.prog) w 67 #[(0, Z key), (1, s.v)] #[Z key, s.v, .bool false] (by kernel_rfl)
    simp [execOp, e1, e2, r]
end
theorem sl8Z16 : (Tryz.prog.info? 24).bind (·.zero) = some (.slice none 0 0) := by kernel_rfl
theorem look_v (o : Option Sl8) : lookV (o.map Sl8.v) (.slice none 0 0) false = (o.getD nilS).v := by cases o <;> rfl
theorem goes_pairs : Goes Tryz.prog 58 := ⟨_, Tryz.func58, rfl, by kernel_rfl⟩
set_option maxHeartbeats 16000000 in
theorem pairs_any (b : Nat) (mm : MV) (c : Nat) (w : World) (hf : WF mm c) (hb : ∃ o, w.heap[b]? = some o ∧ MvB (mm, c) o) (hn : mm.length ≤ 4294967296) :
    Calls Tryz.prog 58 [.map (some b)].toArray w fun e w' => ∃ q : {q : Acc // q = none → pairsM mm = []}, e = .returned (accV q.1 (pairsM mm).length) ∧ Holds w [] (accC 67 3 q.1 ((pairsM mm).map PqS.cs)) w' := by
  have hb0 := hb
  obtain ⟨o, ho, hA⟩ := hb
  have hlen := pairsM_len (mm := mm)
  refine enter (n := 23) Tryz.func58 rfl rfl rfl (Holds.seen (S := []) ho hA) ?_
  repeat (first | refine JL.q (by first | (apply OQ.move; exact rfl) | (apply OQ.assign; exact rfl)) rfl ?_ | refine JC.seq ?_ | refine JC.region ?_ | refine JL.nil ?_ | refine JE.next ?_)
  refine JL.callg (ι := {q : Acc // q = none → keysM mm [] = []}) (vs := [.map (some b), Z []]) (fun q => accV q.1 (keysM mm []).length) (fun q => accE 9 q.1 ((keysM mm []).map Z)) goes_keys rfl rfl (fun _ => accE_wr _ _ _) (fun w' hw' => keys_any b mm c [] w' hf (hw'.get .here) hn) fun qk => ?_
  obtain ⟨qk, hqk⟩ := qk
  dsimp only
  have hpk : (pairsM mm).length = (keysM mm []).length := by unfold pairsM; rw [List.length_map]
  generalize hks : keysM mm [] = ks at hqk hpk
  have hav : ∃ (ad : Option Addr) (cap : Nat), accV qk ks.length = .slice ad ks.length cap := by
    cases qk with
    | none => exact ⟨none, 0, by rw [hqk rfl]; rfl⟩
    | some p => exact ⟨_, _, rfl⟩
  obtain ⟨ad, cap, hav⟩ := hav
  rw [hav]
  repeat (first | refine JL.q (by first | (apply OQ.len (k := ks.length) (ad := ad) (cap := cap); exact Tryz.underlying33; exact rfl) | (apply OQ.move; exact rfl)) rfl ?_ | refine JC.block ?_ | refine JL.nil ?_ | refine JE.next ?_)
  rw [← hav]
  refine JC.loop (fun z : Nat × Acc => [(0, .map (some b)), (3, accV z.2 ((pairsM mm).take z.1).length), (7, accV qk ks.length), (8, N ks.length), (9, N z.1)]) (fun z => accC 67 3 z.2 (((pairsM mm).take z.1).map PqS.cs) ++ (accE 9 qk (ks.map Z) ++ [⟨b, MvB (mm, c), false⟩])) (fun z => ks.length - z.1) (fun z => z.1 ≤ ks.length ∧ (z.2 = none → (pairsM mm).take z.1 = [])) (0, none) ⟨Nat.zero_le _, fun _ => rfl⟩ (by repeat (first | exact SubE.nil | refine SubE.cons _ _ _ rfl ?_)) (Less.refl _) ?_
  rintro ⟨i, q⟩ ⟨hi, hq⟩
  dsimp only at hi hq ⊢
  repeat (first | refine JL.q (by (apply OQ.lssN; exact rfl; exact rfl)) rfl ?_ | refine JC.seq ?_ | refine JC.region ?_ | refine JL.nil ?_ | refine JE.next ?_)
  refine JC.cond rfl (fun hc => ?_) (fun hc => ?_)
  · have hi' : i < ks.length := Nat.lt_of_not_le fun h => by have := of_decide_eq_true hc; omega
    clear hc
    cases qk with
    | none => rw [hqk rfl] at hi'; cases hi'
    | some p =>
    obtain ⟨gk, ck⟩ := p
    have hki : ks[i]? = some ks[i] := List.getElem?_eq_getElem hi'
    generalize ks[i] = key at hki
    have hav2 : accV (some (gk, ck)) ks.length = .slice (some ⟨gk, 0, none⟩) ks.length ck := rfl
    have ht : (pairsM mm).take (i + 1) = (pairsM mm).take i ++ [⟨key, (look mm key).getD nilS, false⟩] := by
      rw [List.take_add_one]
      unfold pairsM
      rw [hks, List.getElem?_map, hki]
      rfl
    have hlv : ∃ sl, (look mm key).getD nilS = sl := ⟨_, rfl⟩
    obtain ⟨sl, hsl⟩ := hlv
    have hlv : lookV ((look mm key).map Sl8.v) (.slice none 0 0) false = sl.v := by rw [look_v, hsl]
    rw [hsl] at ht
    have hq0 : q = none → ((pairsM mm).take i).map PqS.cs = [] := fun e => by rw [hq e]; rfl
    have hm : (((pairsM mm).take i).map PqS.cs).length = ((pairsM mm).take i).length := List.length_map _
    have hml : ((pairsM mm).take i).length ≤ 4294967296 := by rw [List.length_take]; omega
    have hkz : (ks.map Z)[i]? = some (Z key) := by rw [List.getElem?_map, hki]; rfl
    repeat (first | refine JL.q (by first | (apply OQ.idxS0 (i := i); exact Tryz.underlying33; exact strS16; exact (congrArg some hav2); exact rfl; exact hi') | (apply OQ.load; exact strC; exact rfl; exact (hasR .here); exact (Sl.Own.cell hkz)) | (apply OQ.to; exact (OQ.look (ok := false) Tryz.underlying94 Tryz.underlying9 sl8Z16 rfl rfl (hasR (.there .here))); exact hlv) | (apply OQ.buildP2; exact rfl; exact rfl) | (apply OQ.move; exact rfl) | (apply OQ.assign; exact rfl)) rfl ?_ | refine JC.seq ?_ | refine JC.region ?_ | refine JC.block ?_ | refine JC.skip ?_ | refine JL.nil ?_ | refine JE.next ?_)
    refine JL.litA (cs := (PqS.mk key sl false).cs) Tryz.underlying70 prI rfl (by decide) (by decide) rfl rfl rfl fun bl _ => ?_
    refine JL.appendC (c := (PqS.mk key sl false).cs) (L := ((pairsM mm).take i).map PqS.cs) q Tryz.underlying70 prI hq0 (by rw [hm]; rfl) rfl rfl (fun u hu => List.all_eq_true.1 (PqS.one _) u hu) rfl (by decide) (by rw [hm]; omega) (by rw [hm]; omega) rfl fun b' cap' => ?_
    have eM : ((pairsM mm).take i).map PqS.cs ++ [(PqS.mk key sl false).cs] = ((pairsM mm).take (i + 1)).map PqS.cs := by rw [ht, List.map_append, List.map_singleton]
    rw [eM, List.length_map]
    repeat (first | refine JL.q (by first | (apply OQ.move; exact rfl) | (apply OQ.assign; exact rfl) | (apply OQ.addN; exact rfl; exact rfl; exact (by (try simp only []); omega))) rfl ?_ | refine JC.region ?_ | refine JL.nil ?_ | refine JE.next ?_ | refine JE.blk_normal ?_)
    exact JE.again (i := (i, q)) (i + 1, some (b', cap')) ⟨hi', nofun⟩ (by dsimp only; omega) (by repeat (first | exact SubE.nil | refine SubE.cons _ _ _ rfl ?_)) (Less.refl _)
  · have hi' : i = ks.length := by have := of_decide_eq_false hc; omega
    have hf : (pairsM mm).take i = pairsM mm := List.take_of_length_le (by omega)
    rw [hf] at hq ⊢
    repeat (first | refine JL.q (by first | (apply OQ.move; exact rfl) | (apply OQ.assign; exact rfl)) rfl ?_ | refine JC.seq ?_ | refine JC.region ?_ | refine JC.exit ?_ | refine JL.nil ?_ | refine JE.next ?_ | refine JE.then_exit ?_ | refine JE.blk_hit ?_)
    exact JC.ret (JE.ret1 rfl (RV.tmp rfl) fun w' hw => ⟨⟨q, hq⟩, rfl, hw.weak (less_pre _ _)⟩)
end Go.Proofs.YtjkncnbpaejamaaGreatDoor

/-
  Of no statement by itself: a store in memory; the landed store's Get, Keys.
  Conditions: each theorem's own.
-/
namespace Go.Proofs.YtjkncnbpaejamaaGreatDoor
set_option maxRecDepth 10000
open Sl Dsk Jrn Sto
namespace Sto
/-! ### how great values are -/
def szP (p : Pq) : Nat := 7 + p.key.length + p.val.length
def szL (l : List Pq) : Nat := (l.map szP).sum
def szV (vs : VL) : Nat := (vs.map fun p => 7 + p.1.length + p.2.length).sum
theorem szV_cons (p : Bk × Bk) (vs : VL) : szV (p :: vs) = 7 + p.1.length + p.2.length + szV vs := by simp [szV]
theorem szL_cons (p : Pq) (l : List Pq) : szL (p :: l) = szP p + szL l := by simp [szL]
theorem szL_append (a b : List Pq) : szL (a ++ b) = szL a + szL b := by simp [szL]
theorem insV_sz (k v : Bk) : ∀ (vs : VL), szV (insV k v vs) ≤ 7 + k.length + v.length + szV vs
  | [] => by simp [insV, szV]
  | p :: vs => by
    have ih := insV_sz k v vs
    rw [insV]
    split
    · rw [szV_cons, szV_cons]; omega
    · split
      · rw [szV_cons, szV_cons]; simp only; omega
      · rw [szV_cons]; simp only; omega
theorem delV_sz (k : Bk) : ∀ (vs : VL), szV (delV k vs) ≤ szV vs
  | [] => Nat.le_refl _
  | p :: vs => by
    have ih := delV_sz k vs
    rw [delV]
    split
    · rw [szV_cons, szV_cons]; omega
    · split
      · rw [szV_cons]; omega
      · exact Nat.le_refl _
theorem doV_sz (vs : VL) (p : Pq) : szV (doV vs p) ≤ szV vs + szP p := by
  unfold doV szP
  split
  · have := delV_sz p.key vs; omega
  · have := insV_sz p.key p.val vs; omega
theorem doL_sz : ∀ (l : List Pq) (vs : VL), szV (doL vs l) ≤ szV vs + szL l
  | [], vs => by simp [doL]
  | p :: l, vs => by
    have h1 := doL_sz l (doV vs p)
    have h2 := doV_sz vs p
    rw [szL_cons]
    show szV (doL (doV vs p) l) ≤ _
    omega
theorem szV_len (vs : VL) : 7 * vs.length ≤ szV vs := by
  induction vs with
  | nil => simp [szV]
  | cons p vs ih => rw [szV_cons, List.length_cons]; omega
theorem szV_mem {vs : VL} {p : Bk × Bk} (h : p ∈ vs) : p.1.length + p.2.length ≤ szV vs := by
  induction vs with
  | nil => cases h
  | cons q vs ih =>
    rw [szV_cons]
    rcases List.mem_cons.1 h with rfl | h
    · omega
    · have := ih h; omega
theorem encL_sz (l : List Pq) : (encL l).length = szL l := by
  induction l with
  | nil => rfl
  | cons p l ih =>
    have e : encL (p :: l) = encP p ++ encL l := rfl
    rw [e, List.length_append, encP_len, ih, szL_cons]
    rfl
theorem szL_pairs (vs : VL) : szL (pairsV vs) = szV vs := by
  unfold szL szV pairsV
  rw [List.map_map]
  rfl
/-! ### keys that may be -/
def okV (vs : VL) : Prop := ∀ p ∈ vs, 1 ≤ p.1.length ∧ p.1.length ≤ 1000
theorem okP_keep {p : Pq} (h : okP p = true) : 1 ≤ p.key.length ∧ p.key.length ≤ 1000 := ⟨(okP_len h).1, (okP_len h).2.1⟩
theorem doV_ok {vs : VL} {p : Pq} (h : okV vs) (hp : okP p = true) : okV (doV vs p) := by
  unfold doV
  split
  · exact fun q hq => h q ((delV_sub _ _).subset hq)
  · intro q hq
    rcases insV_mem hq with rfl | hq
    · exact okP_keep hp
    · exact h q hq
theorem doL_ok : ∀ {l : List Pq} {vs : VL}, okV vs → okL l = true → okV (doL vs l)
  | [], _, h, _ => h
  | p :: l, vs, h, hl => by
    unfold okL at hl
    rw [List.all_cons, Bool.and_eq_true] at hl
    exact doL_ok (l := l) (doV_ok h hl.1) hl.2
theorem okV_pairs {vs : VL} (h : okV vs) : okL (pairsV vs) = true := by
  unfold okL pairsV
  rw [List.all_map, List.all_eq_true]
  intro p hp
  have := h p hp
  show okP ⟨p.1, p.2, false⟩ = true
  unfold okP
  simp only [Bool.and_eq_true, decide_eq_true_eq, Bool.false_and, Bool.not_false, and_true]
  exact ⟨this.1, this.2⟩
theorem decAll_ok : ∀ {rs : List Bk} {l : List Pq}, decAll rs = some l → okL l = true ∧ szL l = (rs.map List.length).sum
  | [], l, h => by rw [decAll, Option.some.injEq] at h; subst h; exact ⟨rfl, rfl⟩
  | r :: rs, l, h => by
    rw [decAll] at h
    cases h1 : dec r with
    | none => rw [h1] at h; cases h
    | some a =>
      cases h2 : decAll rs with
      | none => rw [h1, h2] at h; cases h
      | some b =>
        rw [h1, h2] at h
        cases h
        have ⟨i1, i2⟩ := decAll_ok h2
        have ⟨j1, j2⟩ := dec_ok h1
        refine ⟨by unfold okL at *; rw [List.all_append, j1, i1]; rfl, ?_⟩
        rw [szL_append, i2, List.map_cons, List.sum_cons, ← j2]
        rfl
theorem room_sz (rs : List Bk) : (rs.map List.length).sum ≤ 42 * room rs := by
  induction rs with
  | nil => simp
  | cons r rs ih =>
    rw [room_cons, List.map_cons, List.sum_cons]
    have : r.length ≤ 42 * nb r.length := by unfold nb; omega
    omega
end Sto
/-! ### a store in memory -/
structure Sz where
  p : Nat
  mb : Nat
  mm : MV
  c : Nat
  j : Nat
  h : Hf
  bl : List Bk
def Sz.cs (z : Sz) : List Value := [Pt z.j 0, .map (some z.mb)]
def Sz.E (z : Sz) : List Ent := ⟨z.p, Row 96 z.cs, true⟩ :: ⟨z.mb, MvB (z.mm, z.c), true⟩ :: (jnE z.j z.h z.bl [] ++ flatE (z.mm.map ME.val))
theorem Sz.wr (z : Sz) : ∀ e ∈ z.E, e.wr = true := by
  intro e he
  rcases List.mem_cons.1 he with rfl | he
  · rfl
  · rcases List.mem_cons.1 he with rfl | he
    · rfl
    · rcases List.mem_append.1 he with he | he
      · exact jnE_wr _ _ _ _ e he
      · exact flatE_wr _ e he
structure Sz.ok (z : Sz) (recs : List Bk) (vs : VL) : Prop where
  wf : WF z.mm z.c
  is : MapIs z.mm vs
  srt : Srt vs
  h0 : ∀ x ∈ z.mm.map ME.val, x.ad = none → x.l = []
  jv : Jv z.h z.bl recs
  dk : DkOk z.h.x z.bl []
  vals : valsOf recs = some vs
namespace Sz.ok
variable {z : Sz} {recs : List Bk} {vs : VL}
theorem sz (k : z.ok recs vs) : szV vs ≤ 1400000 ∧ okV vs := by
  have h := k.vals
  unfold valsOf at h
  cases hd : decAll recs with
  | none => rw [hd] at h; cases h
  | some l =>
    rw [hd, Option.map_some, Option.some.injEq] at h
    have ⟨h1, h2⟩ := decAll_ok hd
    have h3 := doL_sz l []
    rw [h] at h3
    have h4 := room_sz recs
    have h5 := k.jv.r
    have h6 := k.jv.fs
    refine ⟨?_, h ▸ doL_ok (fun _ h => by cases h) h1⟩
    have : szV ([] : VL) = 0 := rfl
    omega
theorem len (k : z.ok recs vs) : z.mm.length = vs.length := by have := k.is.length_eq; unfold mvp at this; rwa [List.length_map] at this
theorem lenb (k : z.ok recs vs) : z.mm.length ≤ 200000 := by have := k.len; have := szV_len vs; have := k.sz.1; omega
theorem val (k : z.ok recs vs) {x : Sl8} (h : x ∈ z.mm.map ME.val) : x.l.length ≤ 1400000 := by
  obtain ⟨e, he, rfl⟩ := List.mem_map.1 h
  have := szV_mem (k.is.mem_iff.1 (List.mem_map.2 ⟨e, he, rfl⟩))
  have := k.sz.1
  dsimp only at *
  omega
theorem vok (k : z.ok recs vs) {u w : World} {S : List Nat} {M : List Ent} (hw : Holds u S (z.E ++ M) w) : ∀ x ∈ z.mm.map ME.val, x.ok w :=
  flat_ok (A := [⟨z.p, Row 96 z.cs, true⟩, ⟨z.mb, MvB (z.mm, z.c), true⟩] ++ jnE z.j z.h z.bl []) (by
    have h := hw.weak (M' := z.E) (less_pre _ _)
    unfold Sz.E at h
    simpa using h) k.h0
end Sz.ok
/-- what is only read of a store -/
def stR (p mb : Nat) (cs : List Value) (z : MV × Nat) : List Ent := [⟨p, Row 96 cs, false⟩, ⟨mb, MvB z, false⟩]
theorem stR_of {z : Sz} {u w : World} {S : List Nat} {M : List Ent} (hw : Holds u S (z.E ++ M) w) : Holds w [] (stR z.p z.mb z.cs (z.mm, z.c)) w :=
  (ro_holds hw).weak (.keep _ _ _ _ _ _ (fun _ h => h) (.keep _ _ _ _ _ _ (fun _ h => h) (.nil _)))
theorem ptC16 : scal Tryz.prog 92 = true := by kernel_rfl
theorem mpC16 : scal Tryz.prog 94 = true := by kernel_rfl
theorem goes_sGet : Goes Tryz.prog 32 := ⟨_, Tryz.func32, rfl, by kernel_rfl⟩
theorem goes_sKeys : Goes Tryz.prog 33 := ⟨_, Tryz.func33, rfl, by kernel_rfl⟩
theorem look_vt (o : Option Sl8) : lookV (o.map Sl8.v) (.slice none 0 0) true = .tuple #[(o.getD nilS).v, .bool o.isSome] := by cases o <;> rfl
set_option maxHeartbeats 8000000 in
theorem get_any (p mb : Nat) (j : Value) (mm : MV) (c : Nat) (key : Bk) (w : World) (h0 : Holds w [] (stR p mb [j, .map (some mb)] (mm, c)) w) (hv : ∀ x ∈ mm.map ME.val, x.ok w ∧ x.l.length ≤ 4294967296) :
    Calls Tryz.prog 32 [Pt p 0, Z key].toArray w fun e w' => ∃ q : {q : Acc // q = none → ((look mm key).getD nilS).l = []}, e = .returned (.tuple #[accV q.1 ((look mm key).getD nilS).l.length, .bool (look mm key).isSome]) ∧ Holds w [] (accE 5 q.1 (((look mm key).getD nilS).l.map U8)) w' := by
  have hs : ((look mm key).getD nilS).ok w ∧ ((look mm key).getD nilS).l.length ≤ 4294967296 := by
    cases h2 : look mm key with
    | none => exact ⟨nilS_ok w, by show (0 : Nat) ≤ _; omega⟩
    | some s =>
      obtain ⟨e, he, _, h1⟩ := look_in h2
      exact hv s (List.mem_map.2 ⟨e, he, h1⟩)
  have hlv := look_vt (look mm key)
  refine enter (n := 20) Tryz.func32 rfl rfl rfl h0 ?_
  unfold stR
  generalize hsl : (look mm key).getD nilS = sl at hs hlv
  generalize (look mm key).isSome = is at hlv
  repeat (first | refine JL.q (by first | (apply OQ.load; exact mpC16; exact rfl; exact .here; exact (Row.cell (v := .map (some mb)) rfl)) | (apply OQ.to; exact (OQ.look (ok := true) Tryz.underlying94 Tryz.underlying9 sl8Z16 rfl rfl (.there .here)); exact hlv) | (apply OQ.extract; exact rfl; exact rfl) | (apply OQ.move; exact rfl) | (apply OQ.assign; exact rfl) | (apply OQ.nilc; exact rfl) | (apply OQ.fld; exact rfl; exact rfl; exact rfl; exact (by decide); exact rfl)) rfl ?_ | refine JC.seq ?_ | refine JC.region ?_ | refine JL.nil ?_ | refine JE.next ?_)
  refine JL.callg (ι := { q : Acc // q = none → sl.l = [] }) (vs := [sl.v]) (fun q => accV q.1 sl.l.length) (fun q => accE 5 q.1 (sl.l.map U8)) goes_clone rfl rfl (fun q => accE_wr _ _ _) (fun w' hw' => (clone_any sl w' (hs.1.holds hw' rfl) hs.2).mono fun e w2 ⟨q, h1, h2, h3⟩ => ⟨⟨q, h2⟩, h1, h3⟩) fun q => ?_
  repeat (first | refine JL.q (by first | (apply OQ.move; exact rfl) | (apply OQ.assign; exact rfl)) rfl ?_ | refine JL.nil ?_ | refine JE.next ?_)
  exact JC.ret (JE.ret2 rfl (RV.tmp rfl) (RV.tmp rfl) fun w' hw => ⟨q, rfl, hw.weak (less_pre _ _)⟩)
set_option maxHeartbeats 8000000 in
theorem skeys_any (p mb : Nat) (j : Value) (mm : MV) (c : Nat) (front : Bk) (w : World) (hf : WF mm c) (h0 : Holds w [] (stR p mb [j, .map (some mb)] (mm, c)) w) (hn : mm.length ≤ 4294967296) :
    Calls Tryz.prog 33 [Pt p 0, Z front].toArray w fun e w' => ∃ q : {q : Acc // q = none → keysM mm front = []}, e = .returned (accV q.1 (keysM mm front).length) ∧ Holds w [] (accE 9 q.1 ((keysM mm front).map Z)) w' := by
  refine enter (n := 11) Tryz.func33 rfl rfl rfl h0 ?_
  unfold stR
  repeat (first | refine JL.q (by first | (apply OQ.load; exact mpC16; exact rfl; exact .here; exact (Row.cell (v := .map (some mb)) rfl)) | (apply OQ.move; exact rfl) | (apply OQ.assign; exact rfl) | (apply OQ.nilc; exact rfl) | (apply OQ.fld; exact rfl; exact rfl; exact rfl; exact (by decide); exact rfl)) rfl ?_ | refine JC.seq ?_ | refine JC.region ?_ | refine JL.nil ?_ | refine JE.next ?_)
  refine JL.callg (ι := {q : Acc // q = none → keysM mm front = []}) (vs := [.map (some mb), Z front]) (fun q => accV q.1 (keysM mm front).length) (fun q => accE 9 q.1 ((keysM mm front).map Z)) goes_keys rfl rfl (fun _ => accE_wr _ _ _) (fun w' hw' => keys_any mb mm c front w' hf (hw'.get (.there .here)) hn) fun q => ?_
  repeat (first | refine JL.q (by (apply OQ.assign; exact rfl)) rfl ?_ | refine JL.nil ?_ | refine JE.next ?_)
  exact JC.ret (JE.ret1 rfl (RV.tmp rfl) fun w' hw => ⟨q, rfl, hw.weak (less_pre _ _)⟩)
end Go.Proofs.YtjkncnbpaejamaaGreatDoor

/-
  Of no statement by itself: the landed store's restart.
  Conditions: each theorem's own.
-/
namespace Go.Proofs.YtjkncnbpaejamaaGreatDoor
set_option maxRecDepth 10000
open Sl Dsk Jrn Sto
/-- a slice of pairs of one's own, whose values' bytes lie elsewhere -/
def gpS (q : Acc) (l : List PqS) : SlP := match q with
  | none => ⟨none, 0, []⟩
  | some p => ⟨some ⟨p.1, 0, none⟩, p.2, l⟩
theorem gpS_l {q : Acc} {l : List PqS} (h : q = none → l = []) : (gpS q l).l = l := by
  cases q with
  | none => exact (h rfl).symm
  | some p => rfl
theorem gpS_v {q : Acc} {l : List PqS} (h : q = none → l = []) : (gpS q l).v = accV q l.length := by
  cases q with
  | none => rw [h rfl]; rfl
  | some p => rfl
theorem gpS_ok {q : Acc} {l : List PqS} {w0 w : World} {S : List Nat} {M : List Ent} (h : q = none → l = []) (hw : Holds w0 S (accC 67 3 q (l.map PqS.cs) ++ M) w) (ha : ∀ p ∈ l, p.s.ok w) : (gpS q l).ok w := by
  cases q with
  | none => exact ⟨Nat.le_refl _, Reads.nil _ _, nofun⟩
  | some p =>
    obtain ⟨o, ho, hA⟩ := hw.get (b := p.1) (A := Sl.Own 67 3 (l.map PqS.cs).length p.2 (l.map PqS.cs).flatten) (wr := true) .here
    have hc := hA
    obtain ⟨sp, _, _, _, h4⟩ := hc
    rw [List.length_map] at h4
    exact ⟨h4, Reads.block ho (Sl.Own.cells o hA), ha⟩
theorem perm_j (A B : List Ent) (c p m : Ent) (J F : List Ent) : (A ++ (B ++ (c :: p :: m :: (J ++ F)))).Perm (J ++ (A ++ (B ++ (c :: p :: m :: F)))) := by
  have := List.perm_append_comm_assoc (A ++ (B ++ [c, p, m])) J F
  simpa using this
/-- a store with other values, another journal -/
def Sz.put (z : Sz) (mc : MV × Nat) (h : Hf) (bl : List Bk) : Sz := ⟨z.p, z.mb, mc.1, mc.2, z.j, h, bl⟩
theorem goes_srst : Goes Tryz.prog 40 := ⟨_, Tryz.func40, rfl, by kernel_rfl⟩
/-- the bytes of the base that a store begins anew with -/
def baseOf (vs : VL) (l : List Pq) : Bk := encL (pairsV (doL vs l))
def rstV (z : Sz) (b : Bk) : Nat × Sz := if z.h.size < nb b.length ∨ gm z.bl = 4294967295#32 then (6, z) else (0, z.put (z.mm, z.c) (rstJ z.h z.bl b) (rstD z.h z.bl b))
set_option maxHeartbeats 16000000 in
theorem srst_any (z : Sz) (recs : List Bk) (vs : VL) (k : z.ok recs vs) (s : SlP) (w : World) (hs : s.ok w) (ha : AwayP s (keys z.E)) (hok : okL s.ps = true) (hz : szL s.ps ≤ 2500000) (h0 : Holds w (keys z.E) z.E w) :
    Calls Tryz.prog 40 [Pt z.p 0, s.v].toArray w fun e w' => e = .returned (N (rstV z (baseOf vs s.ps)).1) ∧ Holds w (keys z.E) (rstV z (baseOf vs s.ps)).2.E w' := by
  generalize hS : keys z.E = S at h0 ha ⊢
  have hsl : s.l.length ≤ 400000 := by
    have h1 : 7 * s.ps.length ≤ szL s.ps := by
      generalize s.ps = l
      induction l with
      | nil => simp [szL]
      | cons p l ih => rw [szL_cons, List.length_cons]; unfold szP; omega
    unfold SlP.ps at h1 hz
    rw [List.length_map] at h1
    omega
  have hsv : ∀ p ∈ s.l, p.s.l.length ≤ 2500000 := fun p hp => by
    have : ∀ l : List Pq, ∀ q ∈ l, q.val.length ≤ szL l := by
      intro l
      induction l with
      | nil => intro q h; cases h
      | cons x l ih =>
        intro q h
        rw [szL_cons]
        rcases List.mem_cons.1 h with rfl | h
        · unfold szP; omega
        · have := ih q h; omega
    have := this s.ps p.p (List.mem_map_of_mem hp)
    unfold PqS.p at this
    dsimp only at this
    omega
  have hwf := doMs_wf s.l (z := (z.mm, z.c)) k.wf
  have his := doMs_is s.l (z := (z.mm, z.c)) k.wf k.srt k.is
  have hsrt := doL_srt (l := s.ps) k.srt
  have hps := pairsM_is hwf hsrt his
  have hsz := doL_sz s.ps vs
  have hvz := k.sz
  have hlen2 : (pairsM (doMs (z.mm, z.c) s.l).1).length ≤ 600000 := by
    have h1 := congrArg List.length hps
    rw [List.length_map] at h1
    unfold pairsV at h1
    rw [List.length_map] at h1
    have := szV_len (doL vs s.ps)
    omega
  have hmlen : (doMs (z.mm, z.c) s.l).1.length ≤ 600000 := by
    have h1 := his.length_eq
    unfold mvp at h1
    rw [List.length_map] at h1
    have h2 : (s.l.map PqS.p) = s.ps := rfl
    rw [h2] at h1
    have := szV_len (doL vs s.ps)
    omega
  have hval : ∀ p ∈ pairsM (doMs (z.mm, z.c) s.l).1, p.s.l.length ≤ 4000000 := fun p hp => by
    have h1 : p.p ∈ pairsV (doL vs s.ps) := hps ▸ List.mem_map_of_mem hp
    obtain ⟨q, hq, e⟩ := List.mem_map.1 h1
    have h2 := szV_mem hq
    have h3 : q.2.length = p.s.l.length := by rw [show p.s.l = p.p.val from rfl, ← e]
    omega
  have hok2 : okL (pairsV (doL vs s.ps)) = true := okV_pairs (doL_ok hvz.2 hok)
  have hin : ∀ p ∈ pairsM (doMs (z.mm, z.c) s.l).1, p.s = nilS ∨ p.s ∈ z.mm.map ME.val ∨ ∃ y ∈ s.l, p.s = y.s := fun p hp => by
    rcases pairsM_in hp with h | h
    · exact .inl h
    · obtain ⟨r, hr⟩ := doMs_sub s.l (z := (z.mm, z.c)) k.wf
      rcases List.mem_append.1 (hr.mem_iff.1 (List.mem_append_left r h)) with h | h
      · exact .inr (.inl h)
      · obtain ⟨y, hy, e⟩ := List.mem_map.1 h
        exact .inr (.inr ⟨y, hy, e.symm⟩)
  unfold baseOf
  rw [← hps]
  rw [← hps] at hok2
  obtain ⟨mc, hmc⟩ : ∃ mc, doMs (z.mm, z.c) s.l = mc := ⟨_, rfl⟩
  rw [hmc] at hwf his hps hlen2 hmlen hval hin hok2 ⊢
  refine enter (n := 24) Tryz.func40 rfl rfl rfl h0 ?_
  show JC _ _ _ _ _ _ _ (⟨z.p, Row 96 z.cs, true⟩ :: ⟨z.mb, MvB (z.mm, z.c), true⟩ :: (jnE z.j z.h z.bl [] ++ flatE (z.mm.map ME.val)))
  repeat (first | refine JL.q (by first | (apply OQ.load; exact mpC16; exact rfl; exact .here; exact (Row.cell (v := .map (some z.mb)) rfl)) | (apply OQ.move; exact rfl) | (apply OQ.assign; exact rfl) | (apply OQ.nilc; exact rfl) | (apply OQ.fld; exact rfl; exact rfl; exact rfl; exact (by decide); exact rfl)) rfl ?_ | refine JC.seq ?_ | refine JC.region ?_ | refine JL.nil ?_ | refine JE.next ?_)
  refine JL.callg (ι := Nat) (vs := [.map (some z.mb), s.v]) (fun b' => .map (some b')) (fun b' => [⟨b', MvB mc, true⟩]) goes_behind rfl rfl (by simp) (fun w' hw' => by have := behind_any z.mb (z.mm, z.c) s w' (hw'.get (.there .here)) (hs.away hw' ha) (by omega); rwa [hmc] at this) fun b' => ?_
  refine JL.callg (ι := {q : Acc // q = none → pairsM mc.1 = []}) (vs := [.map (some b')]) (fun q => accV q.1 (pairsM mc.1).length) (fun q => accC 67 3 q.1 ((pairsM mc.1).map PqS.cs)) goes_pairs rfl rfl (fun _ => accC_wr _ _ _ _) (fun w' hw' => pairs_any b' mc.1 mc.2 w' hwf (hw'.get .here) (by omega)) fun q2 => ?_
  obtain ⟨q2, hq2⟩ := q2
  dsimp only
  have hv2 := gpS_v hq2
  have hl2 := gpS_l hq2
  have hps2 : (gpS q2 (pairsM mc.1)).ps = (pairsM mc.1).map PqS.p := by unfold SlP.ps; rw [hl2]
  refine JL.callg (ι := {q : Acc // q = none → encL ((pairsM mc.1).map PqS.p) = []}) (vs := [(gpS q2 (pairsM mc.1)).v]) (fun q => .tuple #[accV q.1 (encL ((pairsM mc.1).map PqS.p)).length, N 0]) (fun q => accE 5 q.1 ((encL ((pairsM mc.1).map PqS.p)).map U8)) goes_sEnc (by rw [hv2]; rfl) rfl (fun _ => accE_wr _ _ _) (fun w' hw' => ?_) fun q3 => ?_
  · have hz' : Holds w S (([⟨b', MvB mc, true⟩] ++ (accC 67 3 q2 ((pairsM mc.1).map PqS.cs))) ++ (z.E ++ [])) w' := by
      rw [List.append_nil]
      refine hw'.perm' ?_
      rw [← List.append_assoc]
      exact (List.perm_append_comm).append_right _
    have hvok := k.vok (M := []) (hz'.weak (less_app _ (Less.refl _)))
    have hsok := hs.away hw' ha
    have hg := gpS_ok hq2 hw' fun p hp => by
      rcases hin p hp with h | h | ⟨y, hy, h⟩
      · rw [h]; exact nilS_ok _
      · exact hvok _ h
      · rw [h]; exact hsok.all y hy
    have := sEnc_any _ w' hg (by rw [hl2]; omega) (by rw [hl2]; exact hval)
    rw [hps2, hok2] at this
    exact this
  obtain ⟨q3, hq3⟩ := q3
  dsimp only
  have hrl : (encL ((pairsM mc.1).map PqS.p)).length < 4611686018427387904 := by
    rw [hps, encL_sz, szL_pairs]
    omega
  generalize encL ((pairsM mc.1).map PqS.p) = rec at hq3 hrl ⊢
  have hfs := k.jv.fs
  have hl3 := accS_l hq3
  have hv3 := accS_v q3 rec
  have hwr := accE_wr 5 q3 (rec.map U8)
  repeat (first | refine JL.q (by first | (apply OQ.extract; exact rfl; exact rfl) | (apply OQ.load; exact ptC16; exact rfl; exact (hasR (hasR (.there .here))); exact (Row.cell (v := Pt z.j 0) rfl)) | (apply OQ.move; exact rfl) | (apply OQ.assign; exact rfl) | (apply OQ.nilc; exact rfl) | (apply OQ.fld; exact rfl; exact rfl; exact rfl; exact (by decide); exact rfl)) rfl ?_ | refine JC.seq ?_ | refine JC.region ?_ | refine JL.nil ?_ | refine JE.next ?_)
  unfold rstV
  by_cases hno : z.h.size < nb rec.length ∨ gm z.bl = 4294967295#32
  · rw [if_pos hno]
    have cN : ∀ w', Holds w S (accE 5 q3 (rec.map U8) ++ (accC 67 3 q2 ((pairsM mc.1).map PqS.cs) ++ (⟨b', MvB mc, true⟩ :: ⟨z.p, Row 96 z.cs, true⟩ :: ⟨z.mb, MvB (z.mm, z.c), true⟩ :: (jnE z.j z.h z.bl [] ++ flatE (z.mm.map ME.val))))) w' → Calls Tryz.prog 59 [Pt z.j 0, accV q3 rec.length].toArray w' fun e w2 => e = .returned (N 6) ∧ Ext w' w2 := fun w' hw' => by
      have := rst_no z.j z.h z.bl [] (accS q3 rec) k.dk.ok k.jv.n5 (by omega) (by rw [hl3]; exact hrl) (by rw [hl3]; exact hno) w' (jnR_of (hw'.perm' (perm_j _ _ _ _ _ _ _)))
      rwa [hv3] at this
    repeat (first | refine JL.q (by first | (apply OQ.callx (vs := [Pt z.j 0, accV q3 rec.length]); exact goes_rst; exact rfl; exact (fun w' hw' => cN w' hw')) | (apply OQ.assign; exact rfl)) rfl ?_ | refine JL.nil ?_ | refine JE.next ?_)
    exact JC.ret (JE.ret1 rfl (RV.tmp rfl) fun w' hw => ⟨rfl, hw.weak (less_app _ (less_app _ (.drop _ _ _ (Less.refl _))))⟩)
  · rw [if_neg hno]
    refine JL.perm (M' := jnE z.j z.h z.bl [] ++ (accE 5 q3 (rec.map U8) ++ (accC 67 3 q2 ((pairsM mc.1).map PqS.cs) ++ (⟨b', MvB mc, true⟩ :: ⟨z.p, Row 96 z.cs, true⟩ :: ⟨z.mb, MvB (z.mm, z.c), true⟩ :: flatE (z.mm.map ME.val))))) ?_ (perm_j _ _ _ _ _ _ _)
    refine JL.jrst (s := accS q3 rec) k.jv k.dk (by decide) (by rw [hl3]; exact hno) (fun w' hw' => ?_) rfl (by rw [hv3]; rfl) rfl ?_
    · refine ⟨acc_ok (hw'.weak (less_app _ (Less.refl _))), ?_⟩
      intro h0' a ea
      cases q3 with
      | none => cases ea
      | some p =>
        have e : a = ⟨p.1, 0, none⟩ := by cases ea; rfl
        rw [e]
        exact away_has (b := p.1) (A := Sl.Own 5 1 (rec.map U8).length p.2 (rec.map U8)) hw' .here
    rw [hl3]
    repeat (first | refine JL.q (by (apply OQ.assign; exact rfl)) rfl ?_ | refine JL.nil ?_ | refine JE.next ?_)
    exact JC.ret (JE.ret1 rfl (RV.tmp rfl) fun w' hw => ⟨rfl, (hw.perm' (perm_j _ _ _ _ _ _ _).symm).weak (less_app _ (less_app _ (.drop _ _ _ (Less.refl _))))⟩)
end Go.Proofs.YtjkncnbpaejamaaGreatDoor

/-
  Of no statement by itself: the landed store's Commit.
  Conditions: each theorem's own.
-/
namespace Go.Proofs.YtjkncnbpaejamaaGreatDoor
set_option maxRecDepth 10000
open Sl Dsk Jrn Sto
theorem away_gp {w0 w : World} {S : List Nat} {X M : List Ent} {z : Gp} (hw : Holds w0 S (X ++ (z.E ++ M)) w) : AwayP z.s (keys X) := by
  have key : ∀ b, b ∈ z.E.map Ent.b → b ∉ keys X := fun b hb hm => by
    have hn := hw.nodup
    rw [List.map_append, List.nodup_append] at hn
    exact hn.2.2 b hm b (by rw [List.map_append]; exact List.mem_append_left _ hb) rfl
  have hl := z.s_l
  obtain ⟨q, ps, hq, h0⟩ := z
  refine ⟨fun _ a ha => ?_, fun y hy h0 a ha => ?_⟩
  · cases q with
    | none => cases ha
    | some p =>
      have : a = ⟨p.1, 0, none⟩ := by cases ha; rfl
      rw [this]
      exact key p.1 (by unfold Gp.E; rw [List.map_append]; exact List.mem_append_left _ (by simp [accC]))
  · have hy' : y ∈ ps := by rwa [hl] at hy
    refine key a.block ?_
    unfold Gp.E
    rw [List.map_append]
    refine List.mem_append_right _ ?_
    unfold flatE
    rw [List.map_flatMap, List.mem_flatMap]
    exact ⟨y.s, List.mem_map_of_mem hy', by unfold Sl8.ents; rw [ha]; simp⟩
/-- what a Commit comes to -/
def Step (z : Sz) (recs : List Bk) (vs : VL) (ps : List Pq) (code : Nat) (z' : Sz) (recs' : List Bk) (vs' : VL) : Prop :=
  z'.ok recs' vs' ∧ z'.p = z.p ∧
  ((z' = z ∧ recs' = recs ∧ vs' = vs ∧ ((okL ps = false ∧ code = 1) ∨ (okL ps = true ∧ code = 6 ∧ ¬ nb (encL ps).length ≤ z.h.size - z.h.used ∧ noRst z.h z.bl (baseOf vs ps).length))) ∨
   (okL ps = true ∧ code = 0 ∧ vs' = doL vs ps ∧
     ((nb (encL ps).length ≤ z.h.size - z.h.used ∧ z'.h = appJ z.h (encL ps) ∧ z'.bl = appD z.h z.bl (encL ps) ∧ recs' = recs ++ [encL ps]) ∨
      (¬ nb (encL ps).length ≤ z.h.size - z.h.used ∧ ¬ noRst z.h z.bl (baseOf vs ps).length ∧ z'.h = rstJ z.h z.bl (baseOf vs ps) ∧ z'.bl = rstD z.h z.bl (baseOf vs ps) ∧ recs' = [baseOf vs ps]))))
structure StepTo (z : Sz) (recs : List Bk) (vs : VL) (ps : List Pq) where
  code : Nat
  z' : Sz
  recs' : List Bk
  vs' : VL
  st : Step z recs vs ps code z' recs' vs'
theorem valsOf_app {recs : List Bk} {vs : VL} {r : Bk} {l : List Pq} (h : valsOf recs = some vs) (hd : dec r = some l) : valsOf (recs ++ [r]) = some (doL vs l) := by
  unfold valsOf at *
  rw [decAll_append, decAll_one, hd]
  cases h1 : decAll recs with
  | none => rw [h1] at h; cases h
  | some a =>
    rw [h1, Option.map_some, Option.some.injEq] at h
    simp only [Option.map_some, Option.some.injEq]
    rw [doL_append, h]
theorem valsOf_base {vs : VL} (hs : Srt vs) (hk : okV vs) (hz : szV vs < 4294967296) : valsOf [encL (pairsV vs)] = some vs := by
  unfold valsOf
  rw [decAll_one, dec_enc (okV_pairs hk) fun p hp => by
    obtain ⟨q, hq, rfl⟩ := List.mem_map.1 hp
    have := szV_mem hq
    show q.2.length < _
    omega]
  simp only [Option.map_some, Option.some.injEq]
  exact doL_nil hs
/-- the values' bytes behind pairs, as memory -/
theorem flatE_perm {a b : List Sl8} (h : a.Perm b) : (flatE a).Perm (flatE b) := h.flatMap_right _
theorem flatE_app (a b : List Sl8) : flatE (a ++ b) = flatE a ++ flatE b := List.flatMap_append
theorem Holds.values {w0 w : World} {S : List Nat} {A : List Ent} {mc : MV × Nat} {l : List PqS} (hf : WF mc.1 mc.2) (h : Holds w0 S (A ++ (flatE (mc.1.map ME.val) ++ flatE (l.map PqS.s))) w) : Holds w0 S (A ++ flatE ((doMs mc l).1.map ME.val)) w := by
  obtain ⟨r, hr⟩ := doMs_sub l hf
  rw [← flatE_app] at h
  have h2 := h.perm' ((flatE_perm hr.symm).append_left A)
  rw [flatE_app, ← List.append_assoc] at h2
  exact h2.weak (less_pre _ _)
/-- the state behind pairs that are done -/
theorem Sz.ok.step {z : Sz} {recs : List Bk} {vs : VL} (k : z.ok recs vs) {l : List PqS} (h0 : ∀ p ∈ l, p.s.ad = none → p.s.l = []) {h : Hf} {bl recs' : List Bk} (jv : Jv h bl recs') (dk : DkOk h.x bl []) (hv : valsOf recs' = some (doL vs (l.map PqS.p))) :
    (z.put (doMs (z.mm, z.c) l) h bl).ok recs' (doL vs (l.map PqS.p)) where
  wf := doMs_wf l (z := (z.mm, z.c)) k.wf
  is := doMs_is l (z := (z.mm, z.c)) k.wf k.srt k.is
  srt := doL_srt k.srt
  h0 := fun x hx => by
    obtain ⟨r, hr⟩ := doMs_sub l (z := (z.mm, z.c)) k.wf
    rcases List.mem_append.1 (hr.mem_iff.1 (List.mem_append_left r hx)) with h1 | h1
    · exact k.h0 x h1
    · obtain ⟨p, hp, rfl⟩ := List.mem_map.1 h1
      exact h0 p hp
  jv := jv
  dk := dk
  vals := hv
theorem goes_com : Goes Tryz.prog 26 := ⟨_, Tryz.func26, rfl, by kernel_rfl⟩
theorem perm_k (A B : List Ent) (p m : Ent) (J F : List Ent) : (A ++ (B ++ (p :: m :: (J ++ F)))).Perm (J ++ (A ++ (B ++ (p :: m :: F)))) := by
  have := List.perm_append_comm_assoc (A ++ (B ++ [p, m])) J F
  simpa using this
theorem perm_m (J A B : List Ent) (p m : Ent) (F : List Ent) : (J ++ (A ++ (B ++ (p :: m :: F)))).Perm (m :: (J ++ (A ++ (B ++ (p :: F))))) := by
  have := List.perm_middle (a := m) (l₁ := J ++ (A ++ (B ++ [p]))) (l₂ := F)
  simpa using this
theorem perm_e (m p : Ent) (J C G A F : List Ent) : (m :: (J ++ ((C ++ G) ++ (A ++ (p :: F))))).Perm (((p :: m :: J) ++ (F ++ G)) ++ (C ++ A)) := by
  have h1 := List.perm_middle (a := p) (l₁ := m :: (J ++ ((C ++ G) ++ A))) (l₂ := F)
  have h2 : ((C ++ G) ++ A ++ F).Perm (F ++ G ++ (C ++ A)) := by
    refine List.perm_append_comm.trans ?_
    have h3 : ((C ++ G) ++ A).Perm (G ++ C ++ A) := List.perm_append_comm.append_right _
    have := h3.append_left F
    simpa using this
  have h4 := (h2.append_left J).cons m |>.cons p
  have e1 : m :: (J ++ ((C ++ G) ++ (A ++ (p :: F)))) = (m :: (J ++ ((C ++ G) ++ A))) ++ (p :: F) := by simp
  have e2 : ((p :: m :: J) ++ (F ++ G)) ++ (C ++ A) = p :: m :: (J ++ (F ++ G ++ (C ++ A))) := by simp
  rw [e1, e2]
  refine h1.trans ?_
  have e3 : p :: (m :: (J ++ ((C ++ G) ++ A)) ++ F) = p :: m :: (J ++ ((C ++ G) ++ A ++ F)) := by simp
  rw [e3]
  exact h4
theorem Sz.close {z : Sz} {g : Gp} {A : List Ent} {h : Hf} {bl : List Bk} {w0 w : World} {S : List Nat} (hf : WF z.mm z.c) (hw : Holds w0 S (⟨z.mb, MvB (doMs (z.mm, z.c) g.ps), true⟩ :: (jnE z.j h bl [] ++ (g.E ++ (A ++ (⟨z.p, Row 96 z.cs, true⟩ :: flatE (z.mm.map ME.val)))))) w) : Holds w0 S (z.put (doMs (z.mm, z.c) g.ps) h bl).E w := by
  have h1 := (hw.perm' (perm_e _ _ _ _ _ _ _)).weak (less_pre _ _)
  exact Holds.values (mc := (z.mm, z.c)) (l := g.ps) hf h1
set_option maxHeartbeats 16000000 in
theorem com_any (z : Sz) (recs : List Bk) (vs : VL) (k : z.ok recs vs) (s : SlP) (w : World) (hs : s.ok w) (ha : AwayP s (keys z.E)) (hz : szL s.ps ≤ 2500000) (h0 : Holds w (keys z.E) z.E w) :
    Calls Tryz.prog 26 [Pt z.p 0, s.v].toArray w fun e w' => ∃ r : StepTo z recs vs s.ps, e = .returned (N r.code) ∧ Holds w (keys z.E) r.z'.E w' := by
  generalize hS : keys z.E = S at h0 ha ⊢
  have hsl : s.l.length ≤ 400000 := by
    have h1 : 7 * s.ps.length ≤ szL s.ps := by
      generalize s.ps = l
      induction l with
      | nil => simp [szL]
      | cons p l ih => rw [szL_cons, List.length_cons]; unfold szP; omega
    unfold SlP.ps at h1 hz
    rw [List.length_map] at h1
    omega
  have hsv : ∀ q ∈ s.ps, q.val.length ≤ 2500000 := fun q hq => by
    have : ∀ l : List Pq, ∀ q ∈ l, q.val.length ≤ szL l := by
      intro l
      induction l with
      | nil => intro q h; cases h
      | cons x l ih =>
        intro q h
        rw [szL_cons]
        rcases List.mem_cons.1 h with rfl | h
        · unfold szP; omega
        · have := ih q h; omega
    have := this s.ps q hq
    omega
  refine enter (n := 47) Tryz.func26 rfl rfl rfl h0 ?_
  show JC _ _ _ _ _ _ _ (⟨z.p, Row 96 z.cs, true⟩ :: ⟨z.mb, MvB (z.mm, z.c), true⟩ :: (jnE z.j z.h z.bl [] ++ flatE (z.mm.map ME.val)))
  repeat (first | refine JL.q (by first | (apply OQ.move; exact rfl) | (apply OQ.assign; exact rfl)) rfl ?_ | refine JC.seq ?_ | refine JC.region ?_ | refine JL.nil ?_ | refine JE.next ?_)
  cases hok : okL s.ps
  case false =>
    refine JL.callg (ι := Acc) (vs := [s.v]) (fun q => .tuple #[accV q 0, N 1]) (fun q => accE 5 q []) goes_sEnc rfl rfl (fun _ => accE_wr _ _ _) (fun w' hw' => ?_) fun q => ?_
    · have := sEnc_any s w' (hs.away hw' ha) (by omega) (fun p hp => by have := hsv p.p (List.mem_map_of_mem hp); unfold PqS.p at this; dsimp only at this; omega)
      rw [hok] at this
      exact this.mono fun e w2 ⟨q, h1, h2⟩ => ⟨q.1, h1, h2⟩
    repeat (first | refine JL.q (by first | (apply OQ.extract; exact rfl; exact rfl) | (apply OQ.neB (a := 1) (b := 0) (c := false); exact rfl; exact rfl; exact rfl) | (apply OQ.move; exact rfl) | (apply OQ.assign; exact rfl)) rfl ?_ | refine JC.seq ?_ | refine JC.region ?_ | refine JL.nil ?_ | refine JE.next ?_)
    refine JC.cond_true rfl rfl ?_
    repeat (first | refine JL.q (by first | (apply OQ.move; exact rfl) | (apply OQ.assign; exact rfl)) rfl ?_ | refine JC.seq ?_ | refine JC.region ?_ | refine JL.nil ?_ | refine JE.next ?_)
    refine JC.ret ?_
    repeat (refine JE.then_ret ?_)
    exact JE.ret1 rfl (RV.tmp rfl) fun w' hw => ⟨⟨1, z, recs, vs, k, rfl, .inl ⟨rfl, rfl, rfl, .inl ⟨hok, rfl⟩⟩⟩, rfl, hw.weak (less_app _ (Less.refl _))⟩
  refine JL.callg (ι := {q : Acc // q = none → encL s.ps = []}) (vs := [s.v]) (fun q => .tuple #[accV q.1 (encL s.ps).length, N 0]) (fun q => accE 5 q.1 ((encL s.ps).map U8)) goes_sEnc rfl rfl (fun _ => accE_wr _ _ _) (fun w' hw' => ?_) fun q1 => ?_
  · have := sEnc_any s w' (hs.away hw' ha) (by omega) (fun p hp => by have := hsv p.p (List.mem_map_of_mem hp); unfold PqS.p at this; dsimp only at this; omega)
    rw [hok] at this
    exact this
  obtain ⟨q1, hq1⟩ := q1
  dsimp only
  have hdec : dec (encL s.ps) = some s.ps := dec_enc hok fun p hp => by have := hsv p hp; omega
  have hrl : (encL s.ps).length ≤ 2500000 := by rw [encL_sz]; exact hz
  have hl1 := accS_l hq1
  have hv1 := accS_v q1 (encL s.ps)
  repeat (first | refine JL.q (by first | (apply OQ.extract; exact rfl; exact rfl) | (apply OQ.neB (a := 0) (b := 0) (c := true); exact rfl; exact rfl; exact rfl) | (apply OQ.move; exact rfl) | (apply OQ.assign; exact rfl)) rfl ?_ | refine JC.seq ?_ | refine JC.region ?_ | refine JL.nil ?_ | refine JE.next ?_)
  refine JC.cond_false rfl rfl ?_
  repeat (first | refine JL.q (by (apply OQ.move; exact rfl)) rfl ?_ | refine JC.seq ?_ | refine JC.region ?_ | refine JC.skip ?_ | refine JE.next ?_)
  refine JL.callg (ι := GpOf (some s.ps)) (vs := [(accS q1 (encL s.ps)).v]) (fun g => decV (some s.ps) g.1) (fun g => g.1.E) goes_sDec (by rw [hv1]; rfl) rfl (fun g => g.1.wr) (fun w' hw' => ?_) fun g => ?_
  · have := sDec_any (accS q1 (encL s.ps)) w' (acc_ok hw') (by rw [hl1]; omega)
    rw [hl1, hdec] at this
    exact this
  obtain ⟨g, hg⟩ := g
  have hg : g.l = s.ps := hg
  dsimp only [decV]
  have hfs := k.jv.fs
  have hju := k.jv.u; have hjr := k.jv.r
  have hps : g.ps.map PqS.p = s.ps := hg
  have hgl : g.ps.length ≤ 4294967296 := by
    have := congrArg List.length hps
    unfold SlP.ps at this
    rw [List.length_map, List.length_map] at this
    omega
  have hq0 : q1 = none → (encL s.ps).length = 0 := fun e => by rw [hq1 e]; rfl
  have cF : ∀ w', Holds w S (g.E ++ (accE 5 q1 ((encL s.ps).map U8) ++ (⟨z.p, Row 96 z.cs, true⟩ :: ⟨z.mb, MvB (z.mm, z.c), true⟩ :: (jnE z.j z.h z.bl [] ++ flatE (z.mm.map ME.val))))) w' → Calls Tryz.prog 38 [Pt z.j 0, N (encL s.ps).length].toArray w' fun e w2 => e = .returned (.bool (decide (nb (encL s.ps).length ≤ z.h.size - z.h.used))) ∧ Ext w' w2 := fun w' hw' =>
    fits_nat z.j z.h _ (by omega) (by omega) (by omega) w' (ro_one (hw'.perm' (perm_k _ _ _ _ _ _)))
  obtain ⟨fit, g1⟩ : ∃ c, decide (nb (encL s.ps).length ≤ z.h.size - z.h.used) = c := ⟨_, rfl⟩
  rw [g1] at cF
  repeat (first | refine JL.q (by first | (apply OQ.extract; exact rfl; exact rfl) | (apply OQ.load; exact ptC16; exact rfl; exact (hasR (hasR .here)); exact (Row.cell (v := Pt z.j 0) rfl)) | (apply OQ.lenV (q := q1) (k := (encL s.ps).length); exact Tryz.underlying24; exact hq0; exact rfl) | (apply OQ.callx (vs := [Pt z.j 0, N (encL s.ps).length]); exact goes_fits; exact rfl; exact (fun w' hw' => cF w' hw')) | (apply OQ.move; exact rfl) | (apply OQ.assign; exact rfl) | (apply OQ.nilc; exact rfl) | (apply OQ.fld; exact rfl; exact rfl; exact rfl; exact (by decide); exact rfl)) rfl ?_ | refine JC.seq ?_ | refine JC.region ?_ | refine JL.nil ?_ | refine JE.next ?_)
  have hgS : g.v = g.s.v := g.v_eq.symm
  cases fit
  case true =>
    have hfit := of_decide_eq_true g1
    refine JC.cond_true rfl rfl ?_
    repeat (first | refine JL.q (by first | (apply OQ.load; exact ptC16; exact rfl; exact (hasR (hasR .here)); exact (Row.cell (v := Pt z.j 0) rfl)) | (apply OQ.move; exact rfl) | (apply OQ.nilc; exact rfl) | (apply OQ.fld; exact rfl; exact rfl; exact rfl; exact (by decide); exact rfl)) rfl ?_ | refine JC.region ?_)
    refine JL.perm (M' := jnE z.j z.h z.bl [] ++ (g.E ++ (accE 5 q1 ((encL s.ps).map U8) ++ (⟨z.p, Row 96 z.cs, true⟩ :: ⟨z.mb, MvB (z.mm, z.c), true⟩ :: flatE (z.mm.map ME.val))))) ?_ (perm_k _ _ _ _ _ _)
    refine JL.japp (s := accS q1 (encL s.ps)) k.jv k.dk (by decide) (by rw [hl1]; exact hfit) (fun w' hw' => ?_) rfl (by rw [hv1]; rfl) rfl ?_
    · refine ⟨acc_ok (hw'.weak (less_app _ (less_app _ (Less.refl _)))), ?_⟩
      intro h0' a ea
      cases q1 with
      | none => cases ea
      | some p =>
        have e : a = ⟨p.1, 0, none⟩ := by cases ea; rfl
        rw [e]
        exact away_has (b := p.1) (A := Sl.Own 5 1 ((encL s.ps).map U8).length p.2 ((encL s.ps).map U8)) hw' (hasR .here)
    rw [hl1]
    obtain ⟨HJ, hHJ⟩ : ∃ HJ, jnE z.j (appJ z.h (encL s.ps)) (appD z.h z.bl (encL s.ps)) [] = HJ := ⟨_, rfl⟩
    rw [hHJ]
    refine JL.perm (M' := ⟨z.mb, MvB (z.mm, z.c), true⟩ :: (HJ ++ (g.E ++ (accE 5 q1 ((encL s.ps).map U8) ++ (⟨z.p, Row 96 z.cs, true⟩ :: flatE (z.mm.map ME.val)))))) ?_ (perm_m _ _ _ _ _ _)
    repeat (first | refine JL.q (by first | (apply OQ.eqB (a := 0) (b := 0) (c := true); exact rfl; exact rfl; exact rfl) | (apply OQ.move; exact rfl) | (apply OQ.assign; exact rfl)) rfl ?_ | refine JC.seq ?_ | refine JC.region ?_ | refine JL.nil ?_ | refine JE.next ?_)
    refine JC.cond_true rfl rfl ?_
    repeat (first | refine JL.q (by first | (apply OQ.load; exact mpC16; exact rfl; exact (.there (hasR (hasR (hasR .here)))); exact (Row.cell (v := .map (some z.mb)) rfl)) | (apply OQ.move; exact rfl) | (apply OQ.nilc; exact rfl) | (apply OQ.fld; exact rfl; exact rfl; exact rfl; exact (by decide); exact rfl)) rfl ?_ | refine JC.region ?_)
    refine JL.callV (ι := Unit) (X := [⟨z.mb, MvB (z.mm, z.c), true⟩]) (vs := [.map (some z.mb), g.v]) (fun _ => .tuple #[]) (fun _ => [⟨z.mb, MvB (doMs (z.mm, z.c) g.ps), true⟩]) goes_do rfl rfl (by simp) (by simp) (fun w' h1 hw' => ?_) fun _ => ?_
    · have h2 : Holds w S ([⟨z.mb, MvB (z.mm, z.c), true⟩] ++ (g.E ++ (HJ ++ (accE 5 q1 ((encL s.ps).map U8) ++ (⟨z.p, Row 96 z.cs, true⟩ :: flatE (z.mm.map ME.val)))))) w' := h1.perm' ((List.perm_append_comm_assoc HJ g.E _).cons _)
      have hgo := Gp.ok h2
      have hga := away_gp h2
      have := do_any g.s z.mb z.mm z.c w' hgo (by rw [g.s_l]; exact hgl) hga hw'
      rw [g.v_eq, g.s_l] at this
      exact this.mono fun _ _ ⟨h1, h2⟩ => ⟨(), h1, h2⟩
    repeat (first | refine JL.q (by first | (apply OQ.move; exact rfl) | (apply OQ.assign; exact rfl)) rfl ?_ | refine JC.seq ?_ | refine JC.region ?_ | refine JL.nil ?_ | refine JE.next ?_)
    refine JC.ret (JE.ret1 rfl (RV.tmp rfl) fun w' hw => ⟨⟨0, z.put (doMs (z.mm, z.c) g.ps) (appJ z.h (encL s.ps)) (appD z.h z.bl (encL s.ps)), recs ++ [encL s.ps], doL vs s.ps, ?_, rfl, .inr ⟨hok, rfl, rfl, .inl ⟨hfit, rfl, rfl, rfl⟩⟩⟩, rfl, ?_⟩)
    · have := k.step g.h0 (k.jv.app hfit) (k.dk.app k.jv hfit) (recs' := recs ++ [encL s.ps]) (by rw [hps]; exact valsOf_app k.vals hdec)
      rwa [hps] at this
    · rw [← hHJ] at hw
      exact Sz.close k.wf hw
  case false =>
    have hfit := of_decide_eq_false g1
    refine JC.cond_false rfl rfl ?_
    repeat (first | refine JL.q (by (apply OQ.move; exact rfl)) rfl ?_ | refine JC.region ?_)
    refine JL.perm (M' := z.E ++ (g.E ++ accE 5 q1 ((encL s.ps).map U8))) ?_ (by
      show _
      have := List.perm_append_comm (l₁ := g.E ++ accE 5 q1 ((encL s.ps).map U8)) (l₂ := z.E)
      rw [List.append_assoc] at this
      exact this)
    refine JL.callV (ι := Unit) (X := z.E) (vs := [Pt z.p 0, g.v]) (fun _ => N (rstV z (baseOf vs s.ps)).1) (fun _ => (rstV z (baseOf vs s.ps)).2.E) goes_srst rfl rfl z.wr (fun _ => Sz.wr _) (fun w' h1 hw' => ?_) fun _ => ?_
    · have hgo := Gp.ok (M := accE 5 q1 ((encL s.ps).map U8)) h1
      have hga := away_gp h1
      have := srst_any z recs vs k g.s w' hgo hga (by rw [g.s_ps, hg]; exact hok) (by rw [g.s_ps, hg]; exact hz) hw'
      rw [g.v_eq, g.s_ps, hg] at this
      exact this.mono fun _ _ ⟨h1, h2⟩ => ⟨(), h1, h2⟩
    unfold rstV
    by_cases hno : z.h.size < nb (baseOf vs s.ps).length ∨ gm z.bl = 4294967295#32
    · rw [if_pos hno]
      repeat (first | refine JL.q (by first | (apply OQ.eqB (a := 6) (b := 0) (c := false); exact rfl; exact rfl; exact rfl) | (apply OQ.move; exact rfl) | (apply OQ.assign; exact rfl)) rfl ?_ | refine JC.seq ?_ | refine JC.region ?_ | refine JL.nil ?_ | refine JE.next ?_)
      refine JC.cond_false rfl rfl ?_
      repeat (first | refine JL.q (by first | (apply OQ.move; exact rfl) | (apply OQ.assign; exact rfl)) rfl ?_ | refine JC.seq ?_ | refine JC.region ?_ | refine JC.skip ?_ | refine JL.nil ?_ | refine JE.next ?_)
      exact JC.ret (JE.ret1 rfl (RV.tmp rfl) fun w' hw => ⟨⟨6, z, recs, vs, k, rfl, .inl ⟨rfl, rfl, rfl, .inr ⟨hok, rfl, hfit, hno⟩⟩⟩, rfl, hw.weak (less_pre _ _)⟩)
    · rw [if_neg hno]
      obtain ⟨HJ, hHJ⟩ : ∃ HJ, jnE z.j (rstJ z.h z.bl (baseOf vs s.ps)) (rstD z.h z.bl (baseOf vs s.ps)) [] = HJ := ⟨_, rfl⟩
      refine JL.perm (M' := ⟨z.mb, MvB (z.mm, z.c), true⟩ :: (HJ ++ (g.E ++ (accE 5 q1 ((encL s.ps).map U8) ++ (⟨z.p, Row 96 z.cs, true⟩ :: flatE (z.mm.map ME.val)))))) ?_ (by
        rw [← hHJ]
        refine List.Perm.trans ?_ (perm_m _ _ _ _ _ _)
        refine List.Perm.trans (List.perm_append_comm (l₁ := (z.put (z.mm, z.c) (rstJ z.h z.bl (baseOf vs s.ps)) (rstD z.h z.bl (baseOf vs s.ps))).E)) ?_
        rw [List.append_assoc]
        exact perm_k _ _ _ _ _ _)
      repeat (first | refine JL.q (by first | (apply OQ.eqB (a := 0) (b := 0) (c := true); exact rfl; exact rfl; exact rfl) | (apply OQ.move; exact rfl) | (apply OQ.assign; exact rfl)) rfl ?_ | refine JC.seq ?_ | refine JC.region ?_ | refine JL.nil ?_ | refine JE.next ?_)
      refine JC.cond_true rfl rfl ?_
      repeat (first | refine JL.q (by first | (apply OQ.load; exact mpC16; exact rfl; exact (.there (hasR (hasR (hasR .here)))); exact (Row.cell (v := .map (some z.mb)) rfl)) | (apply OQ.move; exact rfl) | (apply OQ.nilc; exact rfl) | (apply OQ.fld; exact rfl; exact rfl; exact rfl; exact (by decide); exact rfl)) rfl ?_ | refine JC.region ?_)
      refine JL.callV (ι := Unit) (X := [⟨z.mb, MvB (z.mm, z.c), true⟩]) (vs := [.map (some z.mb), g.v]) (fun _ => .tuple #[]) (fun _ => [⟨z.mb, MvB (doMs (z.mm, z.c) g.ps), true⟩]) goes_do rfl rfl (by simp) (by simp) (fun w' h1 hw' => ?_) fun _ => ?_
      · have h2 : Holds w S ([⟨z.mb, MvB (z.mm, z.c), true⟩] ++ (g.E ++ (HJ ++ (accE 5 q1 ((encL s.ps).map U8) ++ (⟨z.p, Row 96 z.cs, true⟩ :: flatE (z.mm.map ME.val)))))) w' := h1.perm' ((List.perm_append_comm_assoc HJ g.E _).cons _)
        have hgo := Gp.ok h2
        have hga := away_gp h2
        have := do_any g.s z.mb z.mm z.c w' hgo (by rw [g.s_l]; exact hgl) hga hw'
        rw [g.v_eq, g.s_l] at this
        exact this.mono fun _ _ ⟨h1, h2⟩ => ⟨(), h1, h2⟩
      repeat (first | refine JL.q (by first | (apply OQ.move; exact rfl) | (apply OQ.assign; exact rfl)) rfl ?_ | refine JC.seq ?_ | refine JC.region ?_ | refine JL.nil ?_ | refine JE.next ?_)
      refine JC.ret (JE.ret1 rfl (RV.tmp rfl) fun w' hw => ⟨⟨0, z.put (doMs (z.mm, z.c) g.ps) (rstJ z.h z.bl (baseOf vs s.ps)) (rstD z.h z.bl (baseOf vs s.ps)), [baseOf vs s.ps], doL vs s.ps, ?_, rfl, .inr ⟨hok, rfl, rfl, .inr ⟨hfit, hno, rfl, rfl, rfl⟩⟩⟩, rfl, ?_⟩)
      · have hvz := k.sz
        have := doL_sz s.ps vs
        have := k.step g.h0 (k.jv.rst hno) (k.dk.rst k.jv hno) (recs' := [baseOf vs s.ps]) (by rw [hps]; exact valsOf_base (doL_srt k.srt) (doL_ok hvz.2 hok) (by omega))
        rwa [hps] at this
      · rw [← hHJ] at hw
        exact Sz.close k.wf hw
end Go.Proofs.YtjkncnbpaejamaaGreatDoor

/-
  Of no statement by itself: the landed store's valuesOn, Open.
  Conditions: each theorem's own.
-/
namespace Go.Proofs.YtjkncnbpaejamaaGreatDoor
set_option maxRecDepth 10000
open Sl Dsk Jrn Sto
theorem goes_von : Goes Tryz.prog 45 := ⟨_, Tryz.func45, rfl, by kernel_rfl⟩
theorem goes_sOpen : Goes Tryz.prog 30 := ⟨_, Tryz.func30, rfl, by kernel_rfl⟩
theorem decAll_take {rs : List Bk} {i : Nat} {r : Bk} (h : rs[i]? = some r) : decAll (rs.take (i + 1)) = match decAll (rs.take i), dec r with | some l, some m => some (l ++ m) | _, _ => none := by
  have e : rs.take (i + 1) = rs.take i ++ [r] := by rw [List.take_add_one, h]; rfl
  rw [e, decAll_append, decAll_one]
  cases decAll (rs.take i) <;> cases dec r <;> rfl
theorem mem_sum16 {α : Type} (f : α → Nat) : ∀ {l : List α} {a : α}, a ∈ l → f a ≤ (l.map f).sum
  | b :: l, a, h => by
    rw [List.map_cons, List.sum_cons]
    rcases List.mem_cons.1 h with rfl | h
    · omega
    · have := mem_sum16 f h; omega
theorem len_le_sz : ∀ (m : List Pq), m.length ≤ (m.map fun p => 7 + p.key.length + p.val.length).sum
  | [] => Nat.le_refl _
  | p :: m => by
    have := len_le_sz m
    rw [List.map_cons, List.sum_cons, List.length_cons]
    omega
theorem decAll_none {rs : List Bk} {i : Nat} (h : decAll (rs.take i) = none) : decAll rs = none := by
  rw [← List.take_append_drop i rs, decAll_append, h]
/-- values in memory, of no store yet -/
structure Vz where
  mb : Nat
  mc : MV × Nat
structure Vz.ok (z : Vz) (l : List Pq) : Prop where
  wf : WF z.mc.1 z.mc.2
  is : MapIs z.mc.1 (doL [] l)
  h0 : ∀ x ∈ z.mc.1.map ME.val, x.ad = none → x.l = []
def Vz.E (z : Vz) : List Ent := ⟨z.mb, MvB z.mc, true⟩ :: flatE (z.mc.1.map ME.val)
theorem Vz.wr (z : Vz) : ∀ e ∈ z.E, e.wr = true := by
  intro e he
  rcases List.mem_cons.1 he with rfl | he
  · rfl
  · exact flatE_wr _ e he
def vonV (o : Option (List Pq)) (z : Vz) : Value := match o with
  | none => .tuple #[.map none, N 9]
  | some _ => .tuple #[.map (some z.mb), N 0]
def vonE (o : Option (List Pq)) (z : Vz) : List Ent := match o with
  | none => []
  | some _ => z.E
abbrev VzOf (o : Option (List Pq)) := {z : Vz // ∀ l, o = some l → z.ok l}
theorem perm_v (m : Ent) (C G F R : List Ent) (F' r : List Ent) (h : (F ++ G).Perm (F' ++ r)) : (m :: ((C ++ G) ++ (F ++ R))).Perm (m :: (F' ++ (R ++ (r ++ C)))) := by
  refine List.Perm.cons _ ?_
  have h1 : ((C ++ G) ++ (F ++ R)).Perm (C ++ ((F ++ G) ++ R)) := by
    have := (List.perm_append_comm_assoc G F R).append_left C
    simpa using this
  refine h1.trans ((h.append_right R).append_left C |>.trans ?_)
  have h2 : (C ++ (F' ++ r ++ R)).Perm ((F' ++ r ++ R) ++ C) := List.perm_append_comm
  refine h2.trans ?_
  have h3 := ((List.perm_append_comm (l₁ := r) (l₂ := R)).append_right C).append_left F'
  simpa using h3
set_option maxHeartbeats 16000000 in
theorem von_any (x : Dp) (bl : List Bk) (hd : DkOk x bl []) (hno : noOpen bl = 0) (w : World) (h0 : Holds w (keys (dkE x bl [])) (dkE x bl []) w) :
    Calls Tryz.prog 45 [Pt x.p 0].toArray w fun e w' => ∃ z : VzOf (decAll (curF bl).2.2), e = .returned (vonV (decAll (curF bl).2.2) z.1) ∧ Holds w (keys (dkE x bl [])) (vonE (decAll (curF bl).2.2) z.1) w' := by
  have v := Jv.opn (x := x) hd.ok.b hd.n1 hno
  have hdj := hd.opn hno
  generalize hR : (curF bl).2.2 = recs at v ⊢
  generalize keys (dkE x bl []) = S at h0 ⊢
  refine enter (n := 39) Tryz.func45 rfl rfl rfl h0 ?_
  repeat (first | refine JL.q (by first | (apply OQ.move; exact rfl) | (apply OQ.assign; exact rfl)) rfl ?_ | refine JC.seq ?_ | refine JC.region ?_ | refine JL.nil ?_ | refine JE.next ?_)
  refine JL.perm ?_ (List.Perm.of_eq (List.append_nil _).symm)
  refine JL.jopen hd (by decide) hno rfl rfl fun j => ?_
  generalize opnJ x bl = h at v hdj ⊢
  generalize opnD bl = bj at v hdj ⊢
  rw [List.append_nil]
  repeat (first | refine JL.q (by first | (apply OQ.extract; exact rfl; exact rfl) | (apply OQ.neB (a := 0) (b := 0) (c := true); exact rfl; exact rfl; exact rfl) | (apply OQ.move; exact rfl) | (apply OQ.assign; exact rfl)) rfl ?_ | refine JC.seq ?_ | refine JC.region ?_ | refine JL.nil ?_ | refine JE.next ?_)
  refine JC.cond_false rfl rfl ?_
  repeat (first | refine JC.seq ?_ | refine JC.region ?_ | refine JC.skip ?_ | refine JE.next ?_)
  refine JL.makeMap Sl8.v rfl rfl fun mb _ => ?_
  repeat (first | refine JL.q (by first | (apply OQ.move; exact rfl) | (apply OQ.assign; exact rfl)) rfl ?_ | refine JC.seq ?_ | refine JC.region ?_ | refine JL.nil ?_ | refine JE.next ?_)
  refine JL.perm (M' := jnE j h bj [] ++ [⟨mb, MvB ([], 0), true⟩]) ?_ (List.perm_append_singleton _ _).symm
  refine JL.jrecs v hdj rfl rfl fun z => ?_
  obtain ⟨⟨q, rs, hq, hr0⟩, hy1, hy2⟩ := z
  have hz1 : rs.map Sl8.l = recs := hy1
  have hz2 : rs.length ≤ h.size := hy2
  dsimp only [Gr.v, Gr.E]
  clear hy1 hy2
  have hfs := v.fs
  have hro := v.r
  refine JL.perm (M' := ⟨mb, MvB ([], 0), true⟩ :: ((accE 24 q (rs.map Sl8.v) ++ flatE rs) ++ jnE j h bj [])) ?_ (by rw [← List.append_assoc]; exact List.perm_append_singleton _ _)
  have hq0 : q = none → rs.length = 0 := fun e => by rw [hq e]; rfl
  repeat (first | refine JL.q (by first | (apply OQ.lenV (q := q) (k := rs.length); exact Tryz.underlying134; exact hq0; exact rfl) | (apply OQ.move; exact rfl)) rfl ?_ | refine JC.block ?_ | refine JL.nil ?_ | refine JE.next ?_)
  obtain ⟨R, hRR⟩ : ∃ R, (accE 24 q (rs.map Sl8.v) ++ flatE rs) ++ jnE j h bj [] = R := ⟨_, rfl⟩
  refine JC.loop (fun z : Nat × (MV × Nat) => [(6, .map (some mb)), (21, accV q rs.length), (22, N rs.length), (23, N z.1)]) (fun z => ⟨mb, MvB z.2, true⟩ :: (flatE (z.2.1.map ME.val) ++ R)) (fun z => rs.length - z.1) (fun z => z.1 ≤ rs.length ∧ ∃ l, decAll (recs.take z.1) = some l ∧ (Vz.mk mb z.2).ok l) (0, ([], 0)) ⟨Nat.zero_le _, [], rfl, ⟨WF.nil, .refl _, nofun⟩⟩ (by repeat (first | exact SubE.nil | refine SubE.cons _ _ _ rfl ?_)) (by rw [← hRR]; exact Less.refl _) ?_
  rintro ⟨i, mc⟩ ⟨hi, l, hl, hv⟩
  dsimp only at hi hl hv ⊢
  repeat (first | refine JL.q (by (apply OQ.lssN; exact rfl; exact rfl)) rfl ?_ | refine JC.seq ?_ | refine JC.region ?_ | refine JL.nil ?_ | refine JE.next ?_)
  refine JC.cond rfl (fun hc => ?_) (fun hc => ?_)
  · have hi' : i < rs.length := Nat.lt_of_not_le fun h => by have := of_decide_eq_true hc; omega
    clear hc
    cases q with
    | none => rw [hq rfl] at hi'; cases hi'
    | some p =>
    obtain ⟨gk, ck⟩ := p
    have hki : rs[i]? = some rs[i] := List.getElem?_eq_getElem hi'
    have hmem : rs[i] ∈ rs := List.getElem_mem hi'
    generalize rs[i] = rec at hki hmem
    have hri : recs[i]? = some rec.l := by rw [← hz1, List.getElem?_map, hki]; rfl
    have hrlen : rec.l.length ≤ 2000000 := by
      have h1 := room_sz recs
      have h2 := mem_sum16 List.length (List.mem_of_getElem? hri)
      omega
    have hav2 : accV (some (gk, ck)) rs.length = .slice (some ⟨gk, 0, none⟩) rs.length ck := rfl
    have hkz : (rs.map Sl8.v)[i]? = some rec.v := by rw [List.getElem?_map, hki]; rfl
    have hR' : R = ⟨gk, Sl.Own 24 1 (rs.map Sl8.v).length ck (rs.map Sl8.v), true⟩ :: (flatE rs ++ jnE j h bj []) := hRR.symm
    subst hR'
    have okR : ∀ w', Holds w S (⟨mb, MvB mc, true⟩ :: (flatE (mc.1.map ME.val) ++ (⟨gk, Sl.Own 24 1 (rs.map Sl8.v).length ck (rs.map Sl8.v), true⟩ :: (flatE rs ++ jnE j h bj [])))) w' → rec.ok w' := fun w' hw' =>
      flat_ok (A := []) (hw'.weak (.drop _ _ _ (less_app _ (.drop _ _ _ (less_pre (flatE rs) _))))) hr0 rec hmem
    repeat (first | refine JL.q (by first | (apply OQ.idxS0 (i := i); exact Tryz.underlying134; exact sleJ; exact (congrArg some hav2); exact rfl; exact hi') | (apply OQ.load; exact slCj; exact rfl; exact (.there (hasR .here)); exact (Sl.Own.cell hkz)) | (apply OQ.move; exact rfl) | (apply OQ.assign; exact rfl)) rfl ?_ | refine JC.seq ?_ | refine JC.region ?_ | refine JC.block ?_ | refine JC.skip ?_ | refine JL.nil ?_ | refine JE.next ?_)
    cases hdr : dec rec.l with
    | none =>
      have hno2 : decAll recs = none := decAll_none (i := i + 1) (by rw [decAll_take hri, hl, hdr])
      refine JL.callg (ι := GpOf none) (vs := [rec.v]) (fun g => decV none g.1) (fun g => g.1.E) goes_sDec rfl rfl (fun g => g.1.wr) (fun w' hw' => by have := sDec_any rec w' (okR w' hw') (by omega); rwa [hdr] at this) fun g => ?_
      dsimp only [decV]
      repeat (first | refine JL.q (by first | (apply OQ.extract; exact rfl; exact rfl) | (apply OQ.neB (a := 3) (b := 0) (c := false); exact rfl; exact rfl; exact rfl) | (apply OQ.move; exact rfl) | (apply OQ.assign; exact rfl)) rfl ?_ | refine JC.seq ?_ | refine JC.region ?_ | refine JL.nil ?_ | refine JE.next ?_)
      refine JC.cond_true rfl rfl ?_
      repeat (first | refine JL.q (by (apply OQ.assign; exact rfl)) rfl ?_ | refine JC.seq ?_ | refine JC.region ?_ | refine JL.nil ?_ | refine JE.next ?_)
      refine JC.ret ?_
      repeat (first | refine JE.then_ret ?_ | refine JE.blk_ret ?_)
      rw [hno2]
      exact JE.ret2 rfl (RV.tmp rfl) (RV.tmp rfl) fun w' hw => ⟨⟨⟨0, ([], 0)⟩, nofun⟩, rfl, hw.weak (.nil _)⟩
    | some m =>
      refine JL.callg (ι := GpOf (some m)) (vs := [rec.v]) (fun g => decV (some m) g.1) (fun g => g.1.E) goes_sDec rfl rfl (fun g => g.1.wr) (fun w' hw' => by have := sDec_any rec w' (okR w' hw') (by omega); rwa [hdr] at this) fun g => ?_
      obtain ⟨g, hg⟩ := g
      have hg : g.ps.map PqS.p = m := hg
      dsimp only [decV]
      have hgl : g.ps.length ≤ 4294967296 := by
        have h1 := congrArg List.length hg
        rw [List.length_map] at h1
        have h2 := (dec_ok hdr).2
        have h3 := len_le_sz m
        omega
      repeat (first | refine JL.q (by first | (apply OQ.extract; exact rfl; exact rfl) | (apply OQ.neB (a := 0) (b := 0) (c := true); exact rfl; exact rfl; exact rfl) | (apply OQ.move; exact rfl) | (apply OQ.assign; exact rfl)) rfl ?_ | refine JC.seq ?_ | refine JC.region ?_ | refine JL.nil ?_ | refine JE.next ?_)
      refine JC.cond_false rfl rfl ?_
      obtain ⟨R, hRR⟩ : ∃ R, (⟨gk, Sl.Own 24 1 (rs.map Sl8.v).length ck (rs.map Sl8.v), true⟩ :: (flatE rs ++ jnE j h bj [])) = R := ⟨_, rfl⟩
      rw [hRR]
      repeat (first | refine JL.q (by (apply OQ.move; exact rfl)) rfl ?_ | refine JC.region ?_ | refine JC.skip ?_ | refine JE.next ?_)
      refine JL.perm (M' := ⟨mb, MvB mc, true⟩ :: (g.E ++ (flatE (mc.1.map ME.val) ++ R))) ?_ List.perm_middle
      refine JL.callV (ι := Unit) (X := [⟨mb, MvB mc, true⟩]) (vs := [.map (some mb), g.v]) (fun _ => .tuple #[]) (fun _ => [⟨mb, MvB (doMs mc g.ps), true⟩]) goes_do rfl rfl (by simp) (by simp) (fun w' h1 hw' => ?_) fun _ => ?_
      · have hgo := Gp.ok (A := [_]) h1
        have hga := away_gp (X := [_]) h1
        have := do_any g.s mb mc.1 mc.2 w' hgo (by rw [g.s_l]; exact hgl) hga hw'
        rw [g.v_eq, g.s_l] at this
        exact this.mono fun _ _ ⟨h1, h2⟩ => ⟨(), h1, h2⟩
      repeat (first | refine JL.q (by first | (apply OQ.move; exact rfl) | (apply OQ.addN; exact rfl; exact rfl; exact (by (try simp only []); omega))) rfl ?_ | refine JC.region ?_ | refine JL.nil ?_ | refine JE.next ?_ | refine JE.blk_normal ?_)
      obtain ⟨r, hr⟩ := doMs_sub g.ps hv.wf
      refine JE.perm (perm_v _ _ (flatE (g.ps.map PqS.s)) (flatE (mc.1.map ME.val)) R (flatE ((doMs mc g.ps).1.map ME.val)) (flatE r) (by rw [← flatE_app, ← flatE_app]; exact flatE_perm hr.symm)) ?_
      refine JE.again (i := (i, mc)) (i + 1, doMs mc g.ps) ⟨hi', l ++ m, by dsimp only; rw [decAll_take hri, hl, hdr], ⟨doMs_wf _ hv.wf, ?_, ?_⟩⟩ (by dsimp only; omega) (by repeat (first | exact SubE.nil | refine SubE.cons _ _ _ rfl ?_)) ?_
      · have := doMs_is g.ps hv.wf (doL_srt (l := l) (vs := []) .nil) hv.is
        rw [hg, ← doL_append] at this
        exact this
      · intro x hx
        rcases List.mem_append.1 (hr.mem_iff.1 (List.mem_append_left r hx)) with h1 | h1
        · exact hv.h0 x h1
        · obtain ⟨p, hp, rfl⟩ := List.mem_map.1 h1
          exact g.h0 p hp
      · refine .keep _ _ _ _ _ _ (fun _ h => h) ?_
        rw [← List.append_assoc]
        exact less_pre _ _
  · have hi' : i = rs.length := by have := of_decide_eq_false hc; omega
    have hfl : recs.take i = recs := List.take_of_length_le (by rw [← hz1, List.length_map]; omega)
    rw [hfl] at hl
    rw [hl]
    repeat (first | refine JL.q (by first | (apply OQ.move; exact rfl) | (apply OQ.assign; exact rfl)) rfl ?_ | refine JC.seq ?_ | refine JC.region ?_ | refine JC.exit ?_ | refine JL.nil ?_ | refine JE.next ?_ | refine JE.then_exit ?_ | refine JE.blk_hit ?_)
    exact JC.ret (JE.ret2 rfl (RV.tmp rfl) (RV.tmp rfl) fun w' hw => ⟨⟨⟨mb, mc⟩, fun l' h => by cases h; exact hv⟩, rfl, hw.weak (.keep _ _ _ _ _ _ (fun _ h => h) (less_pre _ _))⟩)
end Go.Proofs.YtjkncnbpaejamaaGreatDoor

/-
  Of no statement by itself: the landed store's Open.
  Conditions: each theorem's own.
-/
namespace Go.Proofs.YtjkncnbpaejamaaGreatDoor
set_option maxRecDepth 10000
open Sl Dsk Jrn Sto
section
variable {n : Nat} {E : Env} {C : World → Prop} {dst : Option Tmp} {ty : TypeId} {pos : String} {aft : Array Edge} {g : Option (Nat × Bool)} {x1 x2 : Operand}
theorem OQ.buildSt {j mb : Nat} (h1 : ev E x1 = some (Pt j 0)) (h2 : ev E x2 = some (.map (some mb))) :
    OQ Tryz.prog n E C ⟨dst, .build 96 #[(0, x1), (1, x2)], ty, pos, aft, g⟩ (.agg #[Pt j 0, .map (some mb)]) :=
  OQ.run fun a ha w _ => by
    have e1 := ha.eval h1
    have e2 := ha.eval h2
    have r := run_build (P := Tryz.prog) w 96 #[(0, Pt j 0), (1, .map (some mb))] #[Pt j 0, .map (some mb)] (by kernel_rfl)
    simp [execOp, e1, e2, r]
end
theorem DkOk.twin {x z : Dp} {bl : List Bk} (h : DkOk x bl []) : DkOk ⟨z.p, z.q, z.cap, none⟩ bl [] := ⟨h.ok, h.n0, h.n1, h.m, fun _ => rfl⟩
theorem vonE_wr (o : Option (List Pq)) (z : Vz) : ∀ e ∈ vonE o z, e.wr = true := by
  intro e he
  cases o with
  | none => cases he
  | some l => exact z.wr e he
set_option maxHeartbeats 16000000 in
theorem sOpen_yes (x : Dp) (bl : List Bk) (l : List Pq) (hd : DkOk x bl []) (hno : noOpen bl = 0) (ho : decAll (curF bl).2.2 = some l) (w : World) (h0 : Holds w (keys (dkE x bl [])) (dkE x bl []) w) :
    Calls Tryz.prog 30 [Pt x.p 0].toArray w fun e w' => ∃ z : {z : Sz // z.ok (curF bl).2.2 (doL [] l) ∧ z.h = opnJ x bl ∧ z.bl = opnD bl}, e = .returned (.tuple #[Pt z.1.p 0, N 0]) ∧ Holds w (keys (dkE x bl [])) z.1.E w' := by
  have v := Jv.opn (x := x) hd.ok.b hd.n1 hno
  have hdj := hd.opn hno
  generalize keys (dkE x bl []) = S at h0 ⊢
  refine enter (n := 28) Tryz.func30 rfl rfl rfl h0 ?_
  repeat (first | refine JL.q (by first | (apply OQ.move; exact rfl) | (apply OQ.assign; exact rfl)) rfl ?_ | refine JC.seq ?_ | refine JC.region ?_ | refine JL.nil ?_ | refine JE.next ?_)
  refine JL.callg (ι := Dp) (vs := [Pt x.p 0]) (fun z => Pt z.p 0) (fun z => dkE ⟨z.p, z.q, z.cap, none⟩ bl []) goes_twin rfl rfl (fun z => dkE_wr _ _ _) (fun w' hw' => dtwin_any x bl [] hd (M := []) (by rw [List.append_nil]; exact hw')) fun t => ?_
  refine JL.callV (ι := VzOf (some l)) (X := dkE ⟨t.p, t.q, t.cap, none⟩ bl []) (vs := [Pt t.p 0]) (fun z => vonV (some l) z.1) (fun z => vonE (some l) z.1) goes_von rfl rfl (dkE_wr _ _ _) (fun z => vonE_wr _ _) (fun w' _ hw' => by have := von_any ⟨t.p, t.q, t.cap, none⟩ bl hd.twin hno w' hw'; rwa [ho] at this) fun z => ?_
  obtain ⟨⟨mb, mm, c⟩, hz⟩ := z
  have hz := hz l rfl
  dsimp only [vonV, vonE, Vz.E]
  repeat (first | refine JL.q (by first | (apply OQ.extract; exact rfl; exact rfl) | (apply OQ.neB (a := 0) (b := 0) (c := true); exact rfl; exact rfl; exact rfl) | (apply OQ.move; exact rfl) | (apply OQ.assign; exact rfl)) rfl ?_ | refine JC.seq ?_ | refine JC.region ?_ | refine JL.nil ?_ | refine JE.next ?_)
  refine JC.cond_false rfl rfl ?_
  repeat (first | refine JL.q (by (apply OQ.move; exact rfl)) rfl ?_ | refine JC.seq ?_ | refine JC.region ?_ | refine JC.skip ?_ | refine JE.next ?_)
  refine JL.perm (M' := dkE x bl [] ++ (⟨mb, MvB (mm, c), true⟩ :: flatE (mm.map ME.val))) ?_ List.perm_append_comm
  refine JL.jopen hd (by decide) hno rfl rfl fun j => ?_
  repeat (first | refine JL.q (by first | (apply OQ.extract; exact rfl; exact rfl) | (apply OQ.neB (a := 0) (b := 0) (c := true); exact rfl; exact rfl; exact rfl) | (apply OQ.move; exact rfl) | (apply OQ.assign; exact rfl)) rfl ?_ | refine JC.seq ?_ | refine JC.region ?_ | refine JL.nil ?_ | refine JE.next ?_)
  refine JC.cond_false rfl rfl ?_
  repeat (first | refine JL.q (by first | (apply OQ.buildSt; exact rfl; exact rfl) | (apply OQ.move; exact rfl)) rfl ?_ | refine JC.seq ?_ | refine JC.region ?_ | refine JC.skip ?_ | refine JE.next ?_)
  refine JL.box (r := [Pt j 0, .map (some mb)]) rfl rfl rfl fun p _ => ?_
  repeat (first | refine JL.q (by (apply OQ.assign; exact rfl)) rfl ?_ | refine JL.nil ?_ | refine JE.next ?_)
  exact JC.ret (JE.ret2 rfl (RV.tmp rfl) (RV.tmp rfl) fun w' hw => ⟨⟨⟨p, mb, mm, c, j, opnJ x bl, opnD bl⟩, ⟨hz.wf, hz.is, doL_srt .nil, hz.h0, v, hdj, by show valsOf _ = _; unfold valsOf; rw [ho]; rfl⟩, rfl, rfl⟩, rfl, hw.perm' (List.Perm.cons _ List.perm_middle)⟩)
end Go.Proofs.YtjkncnbpaejamaaGreatDoor

/-
  Of no statement by itself: literals of slices of two elements with many cells; over X's partial knowledge, for any program P.
  Conditions: each rule's own hypotheses.
-/
namespace Go.Proofs.YtjkncnbpaejamaaGreatDoor
namespace Sl
section
variable {P : Program} {n : Nat} {w0 : World} {S : List Nat} {ops : Array Oper} {Q : Exit → Act → World → Prop} {l : List Oper} {E : Env} {M : List Ent}
variable {d : Nat} {t e ty : TypeId} {pos : String} {aft : Array Edge} {v z : Value} {x y : Operand} {sz by' : Nat} {cs ds : List Value}
theorem buildA2_run {w : World} (hu : P.underlying t = some (.slice e)) (hi : EI P e z sz by') (_hz : z.cells.size = sz) (h0 : 0 < sz) (hsm : sz ≤ 8388608) (hl : cs.length = sz) (hl2 : ds.length = sz) :
    (Instr.buildSlice t 2 #[(0, .agg cs.toArray), (1, .agg ds.toArray)]).run P w = .ok (.slice (some ⟨w.heap.size, 0, none⟩) 2 2) { w with heap := w.heap.push (.cells (cs ++ ds).toArray e (0, 0)) } := by
  have h3 : (underlying t).run P w = .ok (.slice e) w := run_underlying hu w
  obtain ⟨i, h4, h5, _⟩ := hi.get
  obtain ⟨r, h6, h7, h8⟩ := Great.fill_dense h0 [.agg cs.toArray, .agg ds.toArray] 0 ((Array.range (2 * sz)).map (z.cells[· % z.cells.size]!)) (by intro v hv; simp only [List.mem_cons, List.not_mem_nil, or_false] at hv; rcases hv with rfl | rfl <;> simp [Value.cells, hl, hl2]) (by simp)
  have hr : r = (cs ++ ds).toArray := by
    apply Array.ext_getElem?
    intro k
    rw [h8 k]
    by_cases hk : k < 2 * sz
    · rw [if_pos (by simp; omega)]
      by_cases h1 : k < sz
      · rw [List.getElem?_toArray, List.getElem?_append_left (by omega)]
        simp [Nat.div_eq_of_lt h1, Nat.mod_eq_of_lt h1, Value.cells]
      · have e1 : k / sz = 1 := by
          rw [Nat.div_eq_iff h0]; omega
        have e2 : k % sz = k - sz := by
          rw [Nat.mod_eq_sub_mod (by omega), Nat.mod_eq_of_lt (by omega)]
        rw [List.getElem?_toArray, List.getElem?_append_right (by omega), hl]
        simp [e1, e2, Value.cells]
    · rw [if_neg (by simp; omega), Array.getElem?_eq_none (by simp; omega), Array.getElem?_eq_none (by simp; omega)]
  subst hr
  have h11 : (zeroValue e).run P w = .ok z w := by simp [zeroValue, typeInfo, h4, h5]
  have h12 : ¬ (16777216 < 2 * sz) := by omega
  have h13 : ¬ (2 * sz = 0) := by omega
  have h14 : ¬ (sz = 0) := by omega
  simp only [List.zipIdx_cons, List.zipIdx_nil, List.map_cons, List.map_nil] at h6
  simp [Instr.buildSlice, Sem.run_bind, h3, sizeOf_run hi.sz, h11, h12, h13, h14, h6, newRow, newObj, Sem.run]
theorem JL.litA2 (hu : P.underlying t = some (.slice e)) (hi : EI P e z sz by') (hz : z.cells.size = sz) (h0 : 0 < sz) (hsm : sz ≤ 8388608) (hx : ev E x = some (.agg cs.toArray)) (hy : ev E y = some (.agg ds.toArray)) (hl : cs.length = sz) (hl2 : ds.length = sz) (hd : Nat.blt d n = true)
    (k : ∀ b, w0.heap.size ≤ b → JL P n w0 S ops Q l ((d, .slice (some ⟨b, 0, none⟩) 2 2) :: E) (⟨b, Row e (cs ++ ds), true⟩ :: M)) : JL P n w0 S ops Q (⟨some d, .buildSlice t 2 #[(0, x), (1, y)], ty, pos, aft, none⟩ :: l) E M :=
  ⟨fun a w ha hw => wpList_plain rfl fun K hK => by
    unfold Oper.wp
    have hm : (#[(0, x), (1, y)] : Array (Nat × Operand)).map (fun (i, x) => (i, a.eval x)) = #[(0, .agg cs.toArray), (1, .agg ds.toArray)] := by simp [ha.eval hx, ha.eval hy]
    simp only [execOp, hm, Sem.run_bind, buildA2_run hu hi hz h0 hsm hl hl2, Result.andThen_ok]
    exact hK _ _ ((k w.heap.size hw.chg.size).go _ _ (ha.put d _ hd) (hw.push _ rfl rfl rfl rfl rfl))⟩
end
end Sl
end Go.Proofs.YtjkncnbpaejamaaGreatDoor

/-
  Of no statement by itself: literals of slices of three elements with many cells; over X's partial knowledge, for any program P.
  Conditions: each rule's own hypotheses.
-/
namespace Go.Proofs.YtjkncnbpaejamaaGreatDoor
namespace Sl
section
variable {P : Program} {n : Nat} {w0 : World} {S : List Nat} {ops : Array Oper} {Q : Exit → Act → World → Prop} {l : List Oper} {E : Env} {M : List Ent}
variable {d : Nat} {t e ty : TypeId} {pos : String} {aft : Array Edge} {v z : Value} {x y u : Operand} {sz by' : Nat} {cs ds es : List Value}
end
end Sl
end Go.Proofs.YtjkncnbpaejamaaGreatDoor

/-
  Of no statement by itself: rules for calls of a store; the law's speaks.
  Conditions: each theorem's own.
-/
namespace Go.Proofs.YtjkncnbpaejamaaGreatDoor
set_option maxRecDepth 10000
open Sl Dsk Jrn Sto
section
variable {P : Program} {n : Nat} {E : Env} {C : World → Prop} {dst : Option Tmp} {ty t t' : TypeId} {pos : String} {aft : Array Edge} {g : Option (Nat × Bool)} {x y : Operand} {l r : Bk}
end
/-- the keys of values with a front -/
def keysV (vs : VL) (front : Bk) : List Bk := (vs.filter fun p => preB16 front p.1).map Prod.fst
section
variable {n : Nat} {w0 : World} {S : List Nat} {ops : Array Oper} {Q : Exit → Act → World → Prop} {l : List Oper} {E : Env} {M : List Ent}
variable {d : Nat} {ty : TypeId} {pos : String} {aft : Array Edge} {x1 x2 : Operand} {ats : Array TypeId} {x : Dp} {bl recs : List Bk} {vs : VL} {z : Sz} {s : SlP} {key : Bk} {ls : List Pq}
abbrev SzOf (x : Dp) (bl : List Bk) (ls : List Pq) := {z : Sz // z.ok (curF bl).2.2 (doL [] ls) ∧ z.h = opnJ x bl ∧ z.bl = opnD bl}
theorem JL.sopen (hd : DkOk x bl []) (hno : noOpen bl = 0) (ho : decAll (curF bl).2.2 = some ls) (e1 : ev E x1 = some (Pt x.p 0)) (hn : Nat.blt d n = true)
    (kk : ∀ z : SzOf x bl ls, JL Tryz.prog n w0 S ops Q l ((d, .tuple #[Pt z.1.p 0, N 0]) :: E) (z.1.E ++ M)) : JL Tryz.prog n w0 S ops Q (⟨some d, .call ⟨.value (.func 30), #[x1], ats⟩, ty, pos, aft, none⟩ :: l) E (dkE x bl [] ++ M) :=
  JL.callV (ι := SzOf x bl ls) (xs := [x1]) (vs := [Pt x.p 0]) (fun z => .tuple #[Pt z.1.p 0, N 0]) (fun z => z.1.E) goes_sOpen (by simp [evs, e1]) hn (dkE_wr _ _ _) (fun z => z.1.wr)
    (fun w _ hw => sOpen_yes x bl ls hd hno ho w hw) kk
theorem JL.scom (k : z.ok recs vs) (hz : szL s.ps ≤ 2500000) (hs : ∀ w, Holds w0 S (z.E ++ M) w → s.ok w ∧ AwayP s (keys z.E)) (e1 : ev E x1 = some (Pt z.p 0)) (e2 : ev E x2 = some s.v) (hn : Nat.blt d n = true)
    (kk : ∀ r : StepTo z recs vs s.ps, JL Tryz.prog n w0 S ops Q l ((d, N r.code) :: E) (r.z'.E ++ M)) : JL Tryz.prog n w0 S ops Q (⟨some d, .call ⟨.value (.func 26), #[x1, x2], ats⟩, ty, pos, aft, none⟩ :: l) E (z.E ++ M) :=
  JL.callV (ι := StepTo z recs vs s.ps) (xs := [x1, x2]) (vs := [Pt z.p 0, s.v]) (fun r => N r.code) (fun r => r.z'.E) goes_com (by simp [evs, e1, e2]) hn z.wr (fun r => r.z'.wr)
    (fun w h0 hw => com_any z recs vs k s w (hs w h0).1 (hs w h0).2 hz hw) kk
theorem JL.sget {v : Bk} {is : Bool} (k : z.ok recs vs) (hv : (getV vs key).getD [] = v) (hi : (getV vs key).isSome = is) (e1 : ev E x1 = some (Pt z.p 0)) (e2 : ev E x2 = some (Z key)) (hn : Nat.blt d n = true)
    (kk : ∀ q : {q : Acc // q = none → v = []}, JL Tryz.prog n w0 S ops Q l ((d, .tuple #[accV q.1 v.length, .bool is]) :: E) (accE 5 q.1 (v.map U8) ++ (z.E ++ M))) : JL Tryz.prog n w0 S ops Q (⟨some d, .call ⟨.value (.func 32), #[x1, x2], ats⟩, ty, pos, aft, none⟩ :: l) E (z.E ++ M) := by
  have hl := look_get k.wf k.srt k.is key
  have h1 : ((look z.mm key).getD nilS).l = v := by
    rw [← hv, ← hl]
    cases look z.mm key <;> rfl
  have h2 : (look z.mm key).isSome = is := by rw [← hi, ← hl, Option.isSome_map]
  refine JL.callg (ι := {q : Acc // q = none → v = []}) (xs := [x1, x2]) (vs := [Pt z.p 0, Z key]) (fun q => .tuple #[accV q.1 v.length, .bool is]) (fun q => accE 5 q.1 (v.map U8)) goes_sGet (by simp [evs, e1, e2]) hn (fun _ => accE_wr _ _ _) (fun w hw => ?_) kk
  have := get_any z.p z.mb (Pt z.j 0) z.mm z.c key w (stR_of hw) fun x hx => ⟨k.vok hw x hx, by have := k.val hx; omega⟩
  rwa [h1, h2] at this
theorem JL.skeys {front : Bk} {ks : List Bk} (k : z.ok recs vs) (hk : keysV vs front = ks) (e1 : ev E x1 = some (Pt z.p 0)) (e2 : ev E x2 = some (Z front)) (hn : Nat.blt d n = true)
    (kk : ∀ q : {q : Acc // q = none → ks = []}, JL Tryz.prog n w0 S ops Q l ((d, accV q.1 ks.length) :: E) (accE 9 q.1 (ks.map Z) ++ (z.E ++ M))) : JL Tryz.prog n w0 S ops Q (⟨some d, .call ⟨.value (.func 33), #[x1, x2], ats⟩, ty, pos, aft, none⟩ :: l) E (z.E ++ M) := by
  have h1 : keysM z.mm front = ks := by rw [← hk]; exact keysM_is k.srt k.is front
  refine JL.callg (ι := {q : Acc // q = none → ks = []}) (xs := [x1, x2]) (vs := [Pt z.p 0, Z front]) (fun q => accV q.1 ks.length) (fun q => accE 9 q.1 (ks.map Z)) goes_sKeys (by simp [evs, e1, e2]) hn (fun _ => accE_wr _ _ _) (fun w hw => ?_) kk
  have := skeys_any z.p z.mb (Pt z.j 0) z.mm z.c front w k.wf (stR_of hw) (by have := k.lenb; omega)
  rwa [h1] at this
end
theorem newB_dec (n : Nat) : decAll (curF (newB n)).2.2 = some [] := by rw [(newB_cur n).1]; rfl
section
variable {n : Nat} {E : Env} {C : World → Prop} {dst : Option Tmp} {ty : TypeId} {pos : String} {aft : Array Edge} {g : Option (Nat × Bool)} {x1 x2 : Operand}
theorem OQ.buildPg {key : Bk} {b : Bool} (h1 : ev E x1 = some (Z key)) (h2 : ev E x2 = some (.bool b)) :
    OQ Tryz.prog n E C ⟨dst, .build 67 #[(0, x1), (2, x2)], ty, pos, aft, g⟩ (.agg #[Z key, .slice none 0 0, .bool b]) :=
  OQ.run fun a ha w _ => by
    have e1 := ha.eval h1
    have e2 := ha.eval h2
    have r := run_build (P := Tryz.prog) w 67 #[(0, Z key), (2, .bool b)] #[Z key, .slice none 0 0, .bool b] (by kernel_rfl)
    simp [execOp, e1, e2, r]
end
/-- pairs in a row of one's own -/
theorem row3_ok {b : Nat} {l : List PqS} {w0 w : World} {S : List Nat} {M : List Ent} {wr : Bool} (hw : Holds w0 S M w) (hM : Has M b (Row 67 (l.map PqS.cs).flatten) wr) (ha : ∀ p ∈ l, p.s.ok w) : (SlP.mk (some ⟨b, 0, none⟩) l.length l).ok w := by
  obtain ⟨o, ho, hA⟩ := hw.get hM
  exact ⟨Nat.le_refl _, Reads.block ho (Row.all o hA), ha⟩
end Go.Proofs.YtjkncnbpaejamaaGreatDoor

/-
  Of no statement by itself: the landed box's inName, Folder, the reference's Folder.
  Conditions: each theorem's own.
-/
namespace Go.Proofs.YtjkncnbpaejamaaGreatDoor
set_option maxRecDepth 10000
open Sl Dsk Jrn Sto Bx
theorem goes_inName : Goes Tryz.prog 25 := ⟨_, Tryz.func25, rfl, by kernel_rfl⟩
set_option maxHeartbeats 16000000 in
theorem inName_any (c : Bt) (w : World) : Calls Tryz.prog 25 [U8 c].toArray w fun e w' => e = .returned (.bool (okC c.toNat)) ∧ Ext w w' := by
  cases h1 : decide ((65 : Int) ≤ (c.toNat : Int)) <;> cases h2 : decide ((c.toNat : Int) ≤ 90) <;> try (exfalso; simp only [decide_eq_true_eq, decide_eq_false_iff_not] at h1 h2; omega)
  all_goals (cases h3 : decide ((97 : Int) ≤ (c.toNat : Int)) <;> cases h4 : decide ((c.toNat : Int) ≤ 122) <;> try (exfalso; simp only [decide_eq_true_eq, decide_eq_false_iff_not] at h1 h2 h3 h4; omega))
  all_goals (cases h5 : decide ((48 : Int) ≤ (c.toNat : Int)) <;> cases h6 : decide ((c.toNat : Int) ≤ 57) <;> try (exfalso; simp only [decide_eq_true_eq, decide_eq_false_iff_not] at h1 h2 h3 h4 h5 h6; omega))
  all_goals (cases h7 : decide ((c.toNat : Int) = 45) <;> cases h8 : decide ((c.toNat : Int) = 46) <;> try (exfalso; simp only [decide_eq_true_eq, decide_eq_false_iff_not] at h1 h2 h3 h4 h5 h6 h7 h8; omega))
  all_goals obtain ⟨b, hb⟩ : ∃ b, okC c.toNat = b := ⟨_, rfl⟩
  all_goals have hb' := hb
  all_goals unfold okC at hb'
  all_goals rw [h1, h2, h3, h4, h5, h6, h7, h8] at hb'
  all_goals simp only [Bool.and_true, Bool.and_false, Bool.true_and, Bool.false_and, Bool.or_false, Bool.or_true, Bool.false_or, Bool.true_or] at hb'
  all_goals subst hb'
  all_goals rw [hb]
  all_goals refine enter (n := 33) Tryz.func25 rfl rfl rfl (Holds.start w []) ?_
  all_goals (repeat (first | refine JL.q (by first | (apply OQ.geqB (b := 65); exact rfl; exact rfl; exact h1) | (apply OQ.leqB (b := 90); exact rfl; exact rfl; exact h2) | (apply OQ.geqB (b := 97); exact rfl; exact rfl; exact h3) | (apply OQ.leqB (b := 122); exact rfl; exact rfl; exact h4) | (apply OQ.geqB (b := 48); exact rfl; exact rfl; exact h5) | (apply OQ.leqB (b := 57); exact rfl; exact rfl; exact h6) | (apply OQ.eqB (b := 45); exact rfl; exact rfl; exact h7) | (apply OQ.eqB (b := 46); exact rfl; exact rfl; exact h8) | (apply OQ.pick_t; exact rfl; exact rfl) | (apply OQ.pick_f; exact rfl; exact rfl) | (apply OQ.move; exact rfl) | (apply OQ.assign; exact rfl)) rfl ?_ | refine JC.seq ?_ | refine JC.region ?_ | refine JL.nil ?_ | refine JE.next ?_ | refine JL.gon rfl rfl ?_ | refine JL.gskip rfl rfl rfl rfl ?_ | refine JL.gskipU rfl rfl rfl rfl ?_))
  all_goals exact JC.ret (JE.ret1 rfl (RV.tmp rfl) fun w' hw => ⟨rfl, hw.chg⟩)
/-- what stands ahead in a text is of a folder's name -/
def okA (l : Bk) : Bool := l.all fun c => okC c.toNat
theorem okF_split (f : Bk) : okF f = (okA f && (decide ((1 : Int) ≤ (f.length : Int)) && decide ((f.length : Int) ≤ 40))) := by
  unfold okF okA
  rw [Bool.and_assoc]
  congr 1
  rw [show decide ((1 : Int) ≤ (f.length : Int)) = decide (1 ≤ f.length) from decide_eq_decide.2 (by omega), show decide ((f.length : Int) ≤ 40) = decide (f.length ≤ 40) from decide_eq_decide.2 (by omega)]
theorem okA_snoc {l : Bk} {i : Nat} (hi : i < l.length) : okA (l.take (i + 1)) = (okA (l.take i) && okC (l.getD i 0).toNat) := by
  unfold okA
  rw [List.take_succ_eq_append_getElem hi, List.all_append]
  simp [hi]
theorem okA_bad {l : Bk} {i : Nat} (hi : i < l.length) (h : okC (l.getD i 0).toNat = false) : okA l = false := by
  unfold okA
  rw [List.all_eq_false]
  have e : l.getD i 0 = l[i] := by simp [hi]
  rw [e] at h
  exact ⟨l[i], List.getElem_mem hi, by rw [h]; simp⟩
theorem goes_Folder : Goes Tryz.prog 8 := ⟨_, Tryz.func8, rfl, by kernel_rfl⟩
set_option maxHeartbeats 8000000 in
theorem Folder_any (f : Bk) (w : World) (hl : f.length < 9223372036854775808) : Calls Tryz.prog 8 [Z f].toArray w fun e w' => e = .returned (.bool (okF f)) ∧ Ext w w' := by
  refine enter (n := 24) Tryz.func8 rfl rfl rfl (Holds.start w []) ?_
  repeat (first | refine JL.q (by first | (apply OQ.move; exact rfl) | (apply OQ.assign; exact rfl)) rfl ?_ | refine JC.seq ?_ | refine JC.region ?_ | refine JL.nil ?_ | refine JE.next ?_)
  refine JL.s2b (s := strB f) Tryz.underlying9 Tryz.underlying24 Tryz.underlying5 rfl rfl fun bb capB => ?_
  rw [bytesOf_strB]
  have hents : (⟨some ⟨bb, 0, none⟩, capB, f⟩ : Sl8).ents = [⟨bb, fun o => hasCells o 0 (f.map U8) ∧ f.length ≤ capB ∧ (none : Option Nat) = none, true⟩] := rfl
  rw [hents]
  repeat (first | refine JL.q (by first | (apply OQ.len (k := f.length) (ad := some ⟨bb, 0, none⟩) (cap := capB); exact Tryz.underlying24; exact rfl) | (apply OQ.move; exact rfl)) rfl ?_ | refine JC.block ?_ | refine JL.nil ?_ | refine JE.next ?_)
  refine JC.loop (fun i : Nat => [(0, Z f), (6, .slice (some ⟨bb, 0, none⟩) f.length capB), (7, N f.length), (8, N i)]) (fun _ => [⟨bb, fun o => hasCells o 0 (f.map U8) ∧ f.length ≤ capB ∧ (none : Option Nat) = none, true⟩]) (fun i => f.length - i) (fun i => i ≤ f.length ∧ okA (f.take i) = true) 0 ⟨Nat.zero_le _, rfl⟩ (by repeat (first | exact SubE.nil | refine SubE.cons _ _ _ rfl ?_)) (less_pre _ _) ?_
  rintro i ⟨hi, hA⟩
  repeat (first | refine JL.q (by (apply OQ.lssN; exact rfl; exact rfl)) rfl ?_ | refine JC.seq ?_ | refine JC.region ?_ | refine JL.nil ?_ | refine JE.next ?_)
  refine JC.cond rfl (fun h => ?_) (fun h => ?_)
  · have hi' : i < f.length := by have := of_decide_eq_true h; omega
    clear h
    have es := okA_snoc hi'
    rw [hA, Bool.true_and] at es
    have hcell : ∀ o, (hasCells o 0 (f.map U8) ∧ f.length ≤ capB ∧ (none : Option Nat) = none) → cellAt o (0 + i) = some (U8 (f.getD i 0)) := fun o ho => by
      obtain ⟨c, e, fr, rfl, h⟩ := ho.1
      have h1 := h i (by rw [List.length_map]; exact hi')
      show c[0 + i]? = _
      rw [h1]
      exact map_at U8 0 hi'
    have hq := fun w' => inName_any (f.getD i 0) w'
    cases hc : okC (f.getD i 0).toNat
    all_goals rw [hc] at hq
    · repeat (first | refine JL.q (by first | (apply OQ.idxS1; exact Tryz.underlying24; exact u8s; exact rfl; exact rfl; exact hi') | (apply OQ.load (v := U8 (f.getD i 0)); exact u8c; exact rfl; exact .here; exact hcell) | (apply OQ.callx (vs := [U8 (f.getD i 0)]) (v := .bool false); exact goes_inName; exact rfl; exact (fun w' _ => hq w')) | (apply OQ.not; exact rfl) | (apply OQ.move; exact rfl) | (apply OQ.assign; exact rfl)) rfl ?_ | refine JC.seq ?_ | refine JC.region ?_ | refine JC.block ?_ | refine JC.skip ?_ | refine JL.nil ?_ | refine JE.next ?_)
      refine JC.cond_true rfl rfl ?_
      repeat (first | refine JL.q (by (apply OQ.assign; exact rfl)) rfl ?_ | refine JC.seq ?_ | refine JC.region ?_ | refine JL.nil ?_ | refine JE.next ?_)
      refine JC.ret ?_
      repeat (first | refine JE.then_ret ?_ | refine JE.blk_ret ?_)
      refine JE.ret1 rfl (RV.tmp rfl) fun w' hw => ⟨?_, hw.chg⟩
      rw [okF_split, okA_bad hi' hc]; rfl
    · repeat (first | refine JL.q (by first | (apply OQ.idxS1; exact Tryz.underlying24; exact u8s; exact rfl; exact rfl; exact hi') | (apply OQ.load (v := U8 (f.getD i 0)); exact u8c; exact rfl; exact .here; exact hcell) | (apply OQ.callx (vs := [U8 (f.getD i 0)]) (v := .bool true); exact goes_inName; exact rfl; exact (fun w' _ => hq w')) | (apply OQ.not; exact rfl) | (apply OQ.move; exact rfl) | (apply OQ.assign; exact rfl)) rfl ?_ | refine JC.seq ?_ | refine JC.region ?_ | refine JC.block ?_ | refine JC.skip ?_ | refine JL.nil ?_ | refine JE.next ?_)
      refine JC.cond_false rfl rfl ?_
      repeat (first | refine JL.q (by first | (apply OQ.move; exact rfl) | (apply OQ.addN; exact rfl; exact rfl; exact (by (try simp only []); omega))) rfl ?_ | refine JC.region ?_ | refine JC.skip ?_ | refine JL.nil ?_ | refine JE.next ?_ | refine JE.blk_normal ?_)
      rw [hc] at es
      exact JE.again (i := i) (i + 1) ⟨hi', es⟩ (by omega) (by repeat (first | exact SubE.nil | refine SubE.cons _ _ _ rfl ?_)) (less_pre _ _)
  · have hi' : i = f.length := by have := of_decide_eq_false h; omega
    subst hi'
    rw [List.take_length] at hA
    repeat (first | refine JL.q (by (apply OQ.move; exact rfl)) rfl ?_ | refine JC.seq ?_ | refine JC.region ?_ | refine JC.exit ?_ | refine JE.next ?_ | refine JE.then_exit ?_ | refine JE.blk_hit ?_)
    have hF := okF_split f
    rw [hA, Bool.true_and] at hF
    rw [hF]
    cases h1 : decide ((1 : Int) ≤ (f.length : Int)) <;> cases h2 : decide ((f.length : Int) ≤ 40)
    all_goals (repeat (first | refine JL.q (by first | (apply OQ.lenS; exact Tryz.underlying9; exact rfl) | (apply OQ.geqB (b := 1); exact rfl; exact rfl; exact h1) | (apply OQ.leqB (b := 40); exact rfl; exact rfl; exact h2) | (apply OQ.pick_t; exact rfl; exact rfl) | (apply OQ.pick_f; exact rfl; exact rfl) | (apply OQ.move; exact rfl) | (apply OQ.assign; exact rfl)) rfl ?_ | refine JL.nil ?_ | refine JE.next ?_ | refine JL.gon rfl rfl ?_ | refine JL.gskip rfl rfl rfl rfl ?_))
    all_goals exact JC.ret (JE.ret1 rfl (RV.tmp rfl) fun w' hw => ⟨rfl, hw.chg⟩)
end Go.Proofs.YtjkncnbpaejamaaGreatDoor

/-
  Of no statement by itself: strconv.Itoa, strconv.Atoi, strings.Repeat as rules; the landed box's mailKey, New, nextPair.
  Conditions: each theorem's own.
-/
namespace Go.Proofs.YtjkncnbpaejamaaGreatDoor
set_option maxRecDepth 10000
open Sl Dsk Jrn Sto Bx Go.Shelf
def tabC : List Value := Go.Lib.pow10Tab.map fun z => Value.int .u64 z
/-- the powers of ten lie in their variable -/
def TabOk (w : World) : Prop := ∃ e fr, w.heap[2]? = some (.cells tabC.toArray e fr)
theorem TabOk.lt {w : World} (h : TabOk w) : 2 < w.heap.size := by
  obtain ⟨e, fr, h⟩ := h
  exact (Array.getElem?_eq_some_iff.1 h).1
theorem TabOk.chg {S : List Nat} {w w' : World} (h : TabOk w) (hS : 2 ∉ S) (hx : Chg S w w') : TabOk w' := by
  have hl := h.lt
  obtain ⟨e, fr, h⟩ := h
  exact ⟨e, fr, (hx.block _ hl hS).trans h⟩
/-- also ahead of what is written -/
def TabAt (S : List Nat) (w : World) : Prop := TabOk w ∧ 2 ∉ S
theorem TabAt.holds {w0 w : World} {S : List Nat} {M : List Ent} (h : TabAt S w0) (hw : Holds w0 S M w) : TabOk w := h.1.chg h.2 hw.chg
theorem TabAt.keys {w0 w : World} {S : List Nat} {X M : List Ent} (h : TabAt S w0) (hX : ∀ e ∈ X, e.wr = true) (hw : Holds w0 S (X ++ M) w) : TabAt (keys X) w := by
  refine ⟨h.holds hw, fun hm => ?_⟩
  obtain ⟨e, he, hb⟩ := List.mem_map.1 hm
  have h1 := h.1.lt
  rcases (hw.all e (List.mem_append_left _ he)).2 (hX e he) with h2 | h2
  · exact h.2 (hb ▸ h2)
  · omega
theorem goes_itoa : Goes Tryz.prog 43 := ⟨_, Tryz.func43, rfl, by kernel_rfl⟩
theorem goes_atoi : Goes Tryz.prog 34 := ⟨_, Tryz.func34, rfl, by kernel_rfl⟩
theorem goes_rept : Goes Tryz.prog 44 := ⟨_, Tryz.func44, rfl, by kernel_rfl⟩
theorem enc_unB (x : List UInt8) : Z (unB x) = .string ⟨x.toArray⟩ := by
  show Value.string (strB (unB x)) = _
  have : (unB x).map UInt8.ofBitVec = x := by
    unfold unB
    rw [List.map_map, show UInt8.ofBitVec ∘ UInt8.toBitVec = id from funext fun _ => rfl, List.map_id]
  show Value.string ⟨((unB x).map UInt8.ofBitVec).toArray⟩ = _
  rw [this]
theorem itoa_any (n : Int) (h0 : -9223372036854775808 ≤ n) (h1 : n ≤ 9223372036854775807) (w : World) (hT : TabOk w) :
    Calls Tryz.prog 43 [.int .i64 n].toArray w fun e w' => e = .returned (Z (itoaB n)) ∧ Ext w w' := by
  have ht : Go.Lib.TabIs Tryz.prog w "internal/strconv.uint64pow10" .u64 Go.Lib.pow10Tab := by
    obtain ⟨e, fr, h⟩ := hT
    unfold Go.Lib.TabIs World.var?
    rw [show Tryz.prog.globalNamed "internal/strconv.uint64pow10" = some 2 by kernel_rfl]
    simp only [Option.bind_some, h]
    rfl
  refine (Any.strconv_Itoa itoaL n h0 h1 w ht).mono ?_
  rintro e w' ⟨h1, k, os, rfl⟩
  refine ⟨by rw [h1]; unfold itoaB; rw [enc_unB], ⟨rfl, rfl, rfl, by simp [Go.Sort.grow], fun k hk hS => ?_⟩⟩
  rw [Go.Sort.heap_grow_old _ _ (by simpa using hk)]
  rfl
theorem ext_of_below {w w' : World} (h : Go.RowKit.Below w.heap.size w w') : Ext w w' := ⟨h.os, h.tape, h.output, h.size, fun k hk _ => h.block k hk⟩
theorem rept_any (c : Nat) (hc : c ≤ 10) (w : World) : Calls Tryz.prog 44 [Z [48#8], N c].toArray w fun e w' => e = .returned (Z (List.replicate c 48#8)) ∧ Ext w w' := by
  have h := Any.strings_Repeat reptL reptX (strB [48#8]) c w (by omega) (by show 1 * c ≤ _; omega)
  refine Calls.mono (show Calls Tryz.prog 44 [Z [48#8], N c].toArray w _ from h) ?_
  rintro e w' ⟨h1, h2⟩
  refine ⟨?_, ext_of_below h2⟩
  have e1 : Go.Lib.repeatL (strB [48#8]).data.toList c = List.replicate c 48 := by
    have := Go.Lib.repeatL_replicate 48 1 c
    rw [Nat.mul_one] at this
    exact this
  have e2 : List.replicate c 48#8 = unB (List.replicate c 48) := by unfold unB; rw [List.map_replicate]; rfl
  rw [h1, e1, e2, enc_unB]
theorem atoi_any (u : Nat) (hu : u < 10 ^ 10) (w : World) : Calls Tryz.prog 34 [Z (dig (u : Int))].toArray w fun e w' => e = .returned (.tuple #[N u, .nilIface]) ∧ Ext w w' := by
  rw [dig_nat10 hu, enc_unB]
  have h1 := atoi_dW hu
  have h2 := dW_len 10 u
  generalize dW 10 u = l at h1 h2 ⊢
  have hs : ByteArray.size ⟨l.toArray⟩ ≤ 9223372036854775806 := by
    have : ByteArray.size ⟨l.toArray⟩ = l.length := List.size_toArray
    rw [this, h2]; omega
  have h3 : Go.Lib.atoiAll (ByteArray.mk l.toArray).data.toList = .ok (u : Int) := by rw [List.toList_toArray]; exact h1
  refine (Any.strconv_Atoi_ok atoiL ⟨l.toArray⟩ hs (u : Int) h3 w).mono ?_
  rintro e w' ⟨h1, h2⟩
  refine ⟨h1, ?_⟩
  rcases h2 with rfl | ⟨t, rfl⟩
  · exact Chg.refl _ _
  · exact ext_of_below (Go.Lib.bytesWorld_below _ _ _)
theorem itoaB_len (n : Int) (h0 : -9223372036854775808 ≤ n) (h1 : n ≤ 9223372036854775807) : (itoaB n).length ≤ 100 := by
  unfold itoaB
  rw [unB_len]
  have hd : ∀ u : Nat, u < 10 ^ 19 → (Go.Lib.decDigits u).length ≤ 19 := fun u hu => by
    have := congrArg List.length (dW_dig (k := 18) hu)
    rw [List.length_append, dW_len] at this
    omega
  unfold Go.Lib.itoa
  have e : (10 : Nat) ^ 19 = 10000000000000000000 := by decide
  split
  · rw [List.length_cons]
    have := hd n.natAbs (by omega)
    omega
  · have := hd n.toNat (by omega)
    omega
theorem goes_mKey : Goes Tryz.prog 29 := ⟨_, Tryz.func29, rfl, by kernel_rfl⟩
set_option maxHeartbeats 4000000 in
theorem mKey_any (f : Bk) (u : Int) (hf : f.length < 1000000000000000) (h0 : -9223372036854775808 ≤ u) (h1 : u ≤ 9223372036854775807) (w : World) (hT : TabOk w) :
    Calls Tryz.prog 29 [Z f, .int .i64 u].toArray w fun e w' => e = .returned (Z (mKey f u)) ∧ Ext w w' := by
  refine enter (n := 21) Tryz.func29 rfl rfl rfl (Holds.start w []) ?_
  have hl := itoaB_len u h0 h1
  have hi := fun (w' : World) (hw : Holds w [] [] w') => itoa_any u h0 h1 w' (hT.chg (by simp) hw.chg)
  have hr := fun (w' : World) => rept_any (10 - (itoaB u).length) (by omega) w'
  have hm : (max (0 : Int) ((10 : Int) - ((itoaB u).length : Int))) = ((10 - (itoaB u).length : Nat) : Int) := by omega
  have hk : [109#8, 58#8] ++ f ++ [58#8] ++ List.replicate (10 - (itoaB u).length) 48#8 ++ itoaB u = mKey f u := rfl
  generalize itoaB u = d at hl hi hr hm hk
  repeat (first | refine JL.q (by first | (apply OQ.callx (vs := [.int .i64 u]); exact goes_itoa; exact rfl; exact hi) | (apply OQ.lenS; exact Tryz.underlying9; exact rfl) | (apply OQ.subI (a := 10) (b := (d.length : Int)); exact rfl; exact rfl; exact (by omega); exact (by omega)) | (apply OQ.maxI (a := 0) (c := (10 : Int) - (d.length : Int)); exact rfl; exact rfl) | (apply OQ.move; exact rfl) | (apply OQ.assign; exact rfl)) rfl ?_ | refine JC.seq ?_ | refine JC.region ?_ | refine JL.nil ?_ | refine JE.next ?_)
  rw [hm]
  repeat (first | refine JL.q (by first | (apply OQ.callx (vs := [Z [48#8], N (10 - d.length)]); exact goes_rept; exact rfl; exact (fun w' _ => hr w')) | (apply OQ.addS (l := [109#8, 58#8]) (r := f); exact rfl; exact rfl; exact (by simp; omega)) | (apply OQ.addS (l := [109#8, 58#8] ++ f) (r := [58#8]); exact rfl; exact rfl; exact (by simp; omega)) | (apply OQ.addS (l := [109#8, 58#8] ++ f ++ [58#8]) (r := List.replicate (10 - d.length) 48#8); exact rfl; exact rfl; exact (by simp; omega)) | (apply OQ.addS (l := [109#8, 58#8] ++ f ++ [58#8] ++ List.replicate (10 - d.length) 48#8) (r := d); exact rfl; exact rfl; exact (by simp; omega)) | (apply OQ.move; exact rfl) | (apply OQ.assign; exact rfl)) rfl ?_ | refine JC.seq ?_ | refine JC.region ?_ | refine JL.nil ?_ | refine JE.next ?_)
  exact JC.ret (JE.ret1 rfl (RV.tmp rfl) fun w' hw => ⟨by rw [hk], hw.chg⟩)
theorem OQ.buildBx {n : Nat} {E : Env} {C : World → Prop} {dst : Option Tmp} {ty : TypeId} {pos : String} {aft : Array Edge} {g : Option (Nat × Bool)} {x1 : Operand} {p : Nat} (h1 : ev E x1 = some (Pt p 0)) :
    OQ Tryz.prog n E C ⟨dst, .build 65 #[(0, x1)], ty, pos, aft, g⟩ (.agg #[Pt p 0]) :=
  OQ.run fun a ha w _ => by
    have e1 := ha.eval h1
    have r := run_build (P := Tryz.prog) w 65 #[(0, Pt p 0)] #[Pt p 0] (by kernel_rfl)
    simp [execOp, e1, r]
theorem goes_bNew : Goes Tryz.prog 31 := ⟨_, Tryz.func31, rfl, by kernel_rfl⟩
theorem bNew_any (p : Nat) (w : World) : Calls Tryz.prog 31 [Pt p 0].toArray w fun e w' => ∃ b : Nat, e = .returned (Pt b 0) ∧ Holds w [] [⟨b, Row 65 [Pt p 0], true⟩] w' := by
  refine enter (n := 6) Tryz.func31 rfl rfl rfl (Holds.start w []) ?_
  repeat (first | refine JL.q (by first | (apply OQ.buildBx; exact rfl) | (apply OQ.move; exact rfl) | (apply OQ.assign; exact rfl)) rfl ?_ | refine JC.seq ?_ | refine JC.region ?_ | refine JL.nil ?_ | refine JE.next ?_)
  refine JL.box (r := [Pt p 0]) rfl rfl rfl fun b _ => ?_
  repeat (first | refine JL.q (by (apply OQ.assign; exact rfl)) rfl ?_ | refine JL.nil ?_ | refine JE.next ?_)
  exact JC.ret (JE.ret1 rfl (RV.tmp rfl) fun w' hw => ⟨b, rfl, hw⟩)
theorem goes_nPair : Goes Tryz.prog 28 := ⟨_, Tryz.func28, rfl, by kernel_rfl⟩
theorem nPair_any (f : Bk) (n : Nat) (hf : f.length < 1000000000000000) (w : World) :
    Calls Tryz.prog 28 [Z f, N n].toArray w fun e w' => ∃ r : Nat × Nat, e = .returned (.agg (PqS.cs ⟨nKey f, ⟨some ⟨r.1, 0, none⟩, r.2, nV n⟩, false⟩).toArray) ∧ Holds w [] (accE 5 (some r) ((nV n).map U8)) w' := by
  refine enter (n := 11) Tryz.func28 rfl rfl rfl (Holds.start w []) ?_
  refine JC.seq (JC.region (JL.alloc prZ rfl fun b _ => ?_))
  repeat (first | refine JL.q (by first | (apply OQ.addS (l := [110#8, 58#8]) (r := f); exact rfl; exact rfl; exact (by simp; omega)) | (apply OQ.convN_64; exact Tryz.underlying3; exact Tryz.underlying82; exact rfl) | (apply OQ.move; exact rfl)) rfl ?_ | refine JC.seq ?_ | refine JC.region ?_ | refine JL.nil ?_ | refine JE.next ?_)
  refine JL.numApp (M := [⟨b, Row 67 [Z [], .slice none 0 0, .bool false], true⟩]) (q := none) (xs := []) (m := BitVec.ofNat 64 n) (size := 8) (by decide) (by decide) (fun _ => rfl) (by decide) rfl rfl rfl rfl fun r => ?_
  repeat (refine JL.q (by (apply OQ.buildP2 (key := nKey f) (s := ⟨some ⟨r.1, 0, none⟩, r.2, nV n⟩); exact rfl; exact rfl)) rfl ?_)
  refine JL.perm (M' := ⟨b, Row 67 [Z [], .slice none 0 0, .bool false], true⟩ :: accE 5 (some r) ((nV n).map U8)) ?_ (by exact List.perm_append_comm (l₁ := accE 5 (some r) ((nV n).map U8)) (l₂ := [_]))
  refine JL.store_all (cs := PqS.cs ⟨nKey f, ⟨some ⟨r.1, 0, none⟩, r.2, nV n⟩, false⟩) pr3 rfl rfl rfl (PqS.one _) .here rfl ?_
  repeat (first | refine JL.nil ?_ | refine JE.next ?_)
  exact JC.ret (JE.ret1 rfl (RV.cell_agg (cs := PqS.cs ⟨nKey f, ⟨some ⟨r.1, 0, none⟩, r.2, nV n⟩, false⟩) prAg pr3 rfl .here rfl Row.all) fun w' hw => ⟨r, rfl, hw.weak (.drop _ _ _ (Less.refl _))⟩)
end Go.Proofs.YtjkncnbpaejamaaGreatDoor

/-
  Of no statement by itself: the landed box's mailPair.
  Conditions: each theorem's own.
-/
namespace Go.Proofs.YtjkncnbpaejamaaGreatDoor
set_option maxRecDepth 10000
open Sl Dsk Jrn Sto Bx
theorem mlAg : aggT Tryz.prog 46 = true := by kernel_rfl
theorem ml3 : szT Tryz.prog 46 = some 3 := by kernel_rfl
theorem mlZ : zc Tryz.prog 46 = some [.int .i64 0, .int .i64 0, .slice none 0 0] := by kernel_rfl
theorem bxSl : scal Tryz.prog 24 = true := by kernel_rfl
abbrev I64 (i : Int) : Value := .int .i64 i
def mlC (u fl : Int) (s : Sl8) : List Value := [I64 u, I64 fl, s.v]
theorem goes_mPair : Goes Tryz.prog 27 := ⟨_, Tryz.func27, rfl, by kernel_rfl⟩
def mpV (f : Bk) (u fl : Int) (l : Bk) (r : Nat × Nat) : PqS := ⟨mKey f u, ⟨some ⟨r.1, 0, none⟩, r.2, BitVec.ofInt 8 fl :: l⟩, false⟩
set_option maxHeartbeats 8000000 in
theorem mPair_any (f : Bk) (u fl : Int) (s : Sl8) (hf : f.length < 1000000000000000) (h0 : -9223372036854775808 ≤ u) (h1 : u ≤ 9223372036854775807) (hl : s.l.length ≤ 3000000) (w : World) (hs : s.ok w) (hT : TabOk w) :
    Calls Tryz.prog 27 [Z f, .agg (mlC u fl s).toArray].toArray w fun e w' => ∃ r : Nat × Nat, e = .returned (.agg (mpV f u fl s.l r).cs.toArray) ∧ Holds w [] (accE 5 (some r) ((BitVec.ofInt 8 fl :: s.l).map U8)) w' := by
  refine enter (n := 17) Tryz.func27 rfl rfl rfl (Holds.start w []) ?_
  refine JC.seq (JC.region (JL.box (r := mlC u fl s) rfl rfl rfl fun b3 _ => ?_))
  refine JL.alloc prZ rfl fun b4 _ => ?_
  repeat (first | refine JC.seq ?_ | refine JL.nil ?_ | refine JE.next ?_)
  let vs : Nat → Nat × Nat → Value := fun j y => match j with
    | 0 => Z f
    | 1 => Pt b3 0
    | 2 => I64 u
    | 3 => Z (mKey f u)
    | 4 => Pt b3 1
    | 5 => I64 fl
    | 6 => U8 (BitVec.ofInt 8 fl)
    | 7 => accV (some y) 1
    | 8 => Pt b3 2
    | 9 => s.v
    | 10 => accV (some y) (s.l.length + 1)
    | 11 => .agg (mpV f u fl s.l y).cs.toArray
    | _ => N 0
  let Ms : Nat → Nat × Nat → List Ent := fun j y => match j with
    | 7 => accE 5 (some y) [U8 (BitVec.ofInt 8 fl)]
    | 10 => accE 5 (some y) ((BitVec.ofInt 8 fl :: s.l).map U8)
    | 12 => [⟨b4, Row 67 (mpV f u fl s.l y).cs, true⟩]
    | 13 => [⟨b4, Row 67 [Z [], .slice none 0 0, .bool false], true⟩]
    | 14 => [⟨b3, Row 46 (mlC u fl s), true⟩]
    | _ => []
  refine JC.grow (g := ⟨[(0, Z f), (3, Pt b3 0), (4, Pt b4 0)], 15, vs, Ms, (fun j => match j with | 2 => [(1, 6)] | 3 => [(0, 5), (2, 7)] | 5 => [(4, 9)] | 6 => [(5, 10)] | 7 => [(6, 11)] | 9 => [(8, 13)] | 10 => [(7, 12), (9, 14)] | 11 => [(3, 8), (10, 15)] | 12 => [(11, 16)] | _ => []), (fun j => match j with | 2 => [14] | 5 => [14] | 9 => [14] | 10 => [7] | 12 => [13] | _ => []), (fun j => match j with | 10 => [7] | 12 => [13] | _ => []), (fun j => match j with | 11 => some 10 | 12 => some 11 | _ => none)⟩) [] [12, 10, 14] mixT (by repeat (first | exact SubE.nil | refine SubE.cons _ _ _ rfl ?_)) ?_ (by kernel_rfl) (by kernel_rfl) (by kernel_rfl) ?_ ?_
  · exact Less.refl _
  · refine ⟨?_, ?_, ?_, ?_, ?_, ?_, ?_, ?_, ?_, ?_, ?_, ?_, ?_, trivial⟩
    · (intro xx EF MF Q kk; (try refine JL.gon rfl rfl ?_); exact JL.q (OQ.move rfl) rfl (JL.nil (kk default nofun)))
    · (intro xx EF MF Q kk; (try refine JL.gon rfl rfl ?_); exact JL.q (OQ.fld rfl rfl rfl (by decide) rfl) rfl (JL.nil (kk default nofun)))
    · (intro xx EF MF Q kk; (try refine JL.gon rfl rfl ?_); exact JL.q (OQ.load (v := I64 u) intC rfl .here (Row.cell rfl)) rfl (JL.nil (kk default nofun)))
    · (intro xx EF MF Q kk; (try refine JL.gon rfl rfl ?_); exact JL.q (OQ.callx (vs := [Z f, I64 u]) goes_mKey rfl (fun w' hw' => mKey_any f u hf h0 h1 w' (hT.chg (by simp) hw'.chg))) rfl (JL.nil (kk default nofun)))
    · (intro xx EF MF Q kk; (try refine JL.gon rfl rfl ?_); exact JL.q (OQ.fld rfl rfl rfl (by decide) rfl) rfl (JL.nil (kk default nofun)))
    · (intro xx EF MF Q kk; (try refine JL.gon rfl rfl ?_); exact JL.q (OQ.load (v := I64 fl) intC rfl .here (Row.cell rfl)) rfl (JL.nil (kk default nofun)))
    · (intro xx EF MF Q kk; (try refine JL.gon rfl rfl ?_); exact JL.q (OQ.convI_8 Tryz.underlying3 Tryz.underlying5 rfl) rfl (JL.nil (kk default nofun)))
    · (intro xx EF MF Q kk; refine JL.lit1 (v := U8 (BitVec.ofInt 8 fl)) Tryz.underlying24 u8e rfl rfl rfl rfl fun b _ => ?_; refine JL.lessM (M' := accE 5 (some (b, 1)) [U8 (BitVec.ofInt 8 fl)] ++ MF) ?_ (.keep _ _ _ _ _ _ (row_ownG rfl) (Less.refl _)); exact JL.nil (kk (b, 1) nofun))
    · (intro xx EF MF Q kk; (try refine JL.gon rfl rfl ?_); exact JL.q (OQ.fld rfl rfl rfl (by decide) rfl) rfl (JL.nil (kk default nofun)))
    · (intro xx EF MF Q kk; (try refine JL.gon rfl rfl ?_); exact JL.q (OQ.load (v := s.v) bxSl rfl .here (Row.cell rfl)) rfl (JL.nil (kk default nofun)))
    · (intro xx EF MF Q kk; refine JL.appendQ (xs := [U8 (BitVec.ofInt 8 fl)]) (cs := s.l.map U8) (m := s.l.length) (ad := s.ad) (sc := s.cap) (some (xx 7)) Tryz.underlying24 u8e nofun rfl rfl (List.length_map _) (fun w' hw' => (hs.holds hw' rfl).reads) (fun v hv => by obtain ⟨c, _, rfl⟩ := List.mem_map.1 hv; rfl) rfl (by simp; omega) (by simp; omega) rfl fun q' hq' => ?_; rcases q' with _ | r; (exact absurd (hq' rfl) (by simp)); have hle : ([U8 (BitVec.ofInt 8 fl)] ++ s.l.map U8).length = s.l.length + 1 := (by simp); rw [hle]; exact JL.nil (kk r nofun))
    · (intro xx EF MF Q kk; (try refine JL.gon rfl rfl ?_); exact JL.q (OQ.buildP2 (key := mKey f u) (s := ⟨some ⟨(xx 10).1, 0, none⟩, (xx 10).2, BitVec.ofInt 8 fl :: s.l⟩) rfl rfl) rfl (JL.nil (kk (xx 10) (fun k h => by cases h; rfl))))
    · (intro xx EF MF Q kk; exact JL.store_all (cs := (mpV f u fl s.l (xx 11)).cs) pr3 rfl rfl rfl (PqS.one _) .here rfl (JL.nil (kk (xx 11) (fun k h => by cases h; rfl))))
  · intro xx hx
    have e1 := hx 12 11 (by decide) rfl
    have e2 := hx 11 10 (by decide) rfl
    show JE _ _ _ _ _ [(0, Z f), (3, Pt b3 0), (4, Pt b4 0)] ([⟨b4, Row 67 (mpV f u fl s.l (xx 12)).cs, true⟩] ++ (accE 5 (some (xx 10)) ((BitVec.ofInt 8 fl :: s.l).map U8) ++ ([⟨b3, Row 46 (mlC u fl s), true⟩] ++ [])))
    rw [e1, e2]
    generalize xx 10 = r
    clear hx e1 e2 xx vs Ms
    refine JE.next ?_
    exact JC.ret (JE.ret1 rfl (RV.cell_agg (cs := (mpV f u fl s.l r).cs) prAg pr3 rfl .here rfl Row.all) fun w' hw => ⟨r, rfl, hw.weak (.drop _ _ _ (less_pre _ _))⟩)
end Go.Proofs.YtjkncnbpaejamaaGreatDoor

/-
  Of no statement by itself: a box in memory; the landed box's Next, List.
  Conditions: each theorem's own.
-/
namespace Go.Proofs.YtjkncnbpaejamaaGreatDoor
set_option maxRecDepth 10000
open Sl Dsk Jrn Sto Bx
structure Bz where
  b : Nat
  z : Sz
def Bz.E (x : Bz) : List Ent := x.z.E ++ [⟨x.b, Row 65 [Pt x.z.p 0], true⟩]
theorem Bz.wr (x : Bz) : ∀ e ∈ x.E, e.wr = true := by
  intro e he
  rcases List.mem_append.1 he with he | he
  · exact x.z.wr e he
  · rw [List.mem_singleton] at he; subst he; rfl
structure Bz.ok (x : Bz) (recs : List Bk) (vs : VL) (R : Rb) (n : Nat) : Prop where
  z : x.z.ok recs vs
  v : Bv vs R
  r : R.ok n
theorem bxC : scal Tryz.prog 63 = true := by kernel_rfl
theorem intE17 : EI Tryz.prog 3 (.int .i64 0) 1 8 := by unfold EI; kernel_rfl
section
variable {n : Nat} {E : Env} {C : World → Prop} {dst : Option Tmp} {ty t' : TypeId} {pos : String} {aft : Array Edge} {g : Option (Nat × Bool)} {x y : Operand}
theorem OQ.errNil (hx : ev E x = some .nilIface) : OQ Tryz.prog n E C ⟨dst, .binOp .eql 79 x (.const .nilIface) t', ty, pos, aft, g⟩ (.bool true) :=
  OQ.run fun a ha w _ => by
    have h1 := ha.eval hx
    have h4 : (binOp .eql 79 .nilIface .nilIface).run Tryz.prog w = .ok (.bool true) w := by
      show (do pure (.bool (← Op.equal 79 .nilIface .nilIface)) : Sem Value).run Tryz.prog w = _
      simp [Sem.run_bind, run_equal_nil_nil w 79 Tryz.underlying79]
    have h5 : a.eval (.const .nilIface) = .nilIface := rfl
    simp [execOp, h1, h5, eqGuard, h4]
end
theorem goes_bNext : Goes Tryz.prog 23 := ⟨_, Tryz.func23, rfl, by kernel_rfl⟩
set_option maxHeartbeats 8000000 in
theorem bNext_any (x : Bz) (recs : List Bk) (vs : VL) (R : Rb) (n : Nat) (k : x.ok recs vs R n) (f : Bk) (hf : f.length < 1000000000000000) (w : World) (h0 : Holds w (keys x.E) x.E w) :
    Calls Tryz.prog 23 [Pt x.b 0, Z f].toArray w fun e w' => e = .returned (N (R.next f)) ∧ Holds w (keys x.E) x.E w' := by
  generalize keys x.E = S at h0 ⊢
  refine enter (n := 22) Tryz.func23 rfl rfl rfl h0 ?_
  unfold Bz.E
  repeat (first | refine JL.q (by first | (apply OQ.load; exact bxC; exact rfl; exact (hasR (N := x.z.E) .here); exact (Row.cell (v := Pt x.z.p 0) rfl)) | (apply OQ.addS (l := [110#8, 58#8]) (r := f); exact rfl; exact rfl; exact (by simp; omega)) | (apply OQ.move; exact rfl) | (apply OQ.assign; exact rfl) | (apply OQ.nilc; exact rfl) | (apply OQ.fld; exact rfl; exact rfl; exact rfl; exact (by decide); exact rfl)) rfl ?_ | refine JC.seq ?_ | refine JC.region ?_ | refine JL.nil ?_ | refine JE.next ?_)
  have hg := k.v.next f
  cases hn : R.next? f with
  | none =>
    rw [hn] at hg
    refine JL.sget (key := nKey f) (v := []) (is := false) k.z (by rw [hg]; rfl) (by rw [hg]; rfl) rfl rfl rfl fun q => ?_
    repeat (first | refine JL.q (by first | (apply OQ.extract; exact rfl; exact rfl) | (apply OQ.not; exact rfl) | (apply OQ.move; exact rfl) | (apply OQ.assign; exact rfl)) rfl ?_ | refine JC.seq ?_ | refine JC.region ?_ | refine JL.nil ?_ | refine JE.next ?_)
    refine JC.cond_true rfl rfl ?_
    repeat (first | refine JL.q (by (apply OQ.assign; exact rfl)) rfl ?_ | refine JC.seq ?_ | refine JC.region ?_ | refine JL.nil ?_ | refine JE.next ?_)
    have e : R.next f = 1 := by unfold Rb.next; rw [hn]; rfl
    rw [e]
    refine JC.ret ?_
    repeat (refine JE.then_ret ?_)
    exact JE.ret1 rfl (RV.tmp rfl) fun w' hw => ⟨rfl, hw.weak (less_post _ _)⟩
  | some m =>
    rw [hn] at hg
    refine JL.sget (key := nKey f) (v := nV m) (is := true) k.z (by rw [hg]; rfl) (by rw [hg]; rfl) rfl rfl rfl fun q => ?_
    have hlv : (accS q.1 (nV m)).l = nV m := accS_l fun e => absurd (q.2 e) (by unfold nV; intro h; have := congrArg List.length h; rw [be64_len] at this; cases this)
    have hvv := accS_v q.1 (nV m)
    rw [← hvv]
    repeat (first | refine JL.q (by first | (apply OQ.extract; exact rfl; exact rfl) | (apply OQ.not; exact rfl) | (apply OQ.move; exact rfl) | (apply OQ.assign; exact rfl)) rfl ?_ | refine JC.seq ?_ | refine JC.region ?_ | refine JL.nil ?_ | refine JE.next ?_)
    refine JC.cond_false rfl rfl ?_
    have e : R.next f = m := by unfold Rb.next; rw [hn]; rfl
    have hle := R.next_le k.r f
    rw [e] at hle ⊢
    have h1 := k.r.le
    have hto : (BitVec.ofNat 64 m).toNat = m := by rw [BitVec.toNat_ofNat]; omega
    have hr := fun (w' : World) (ok : (accS q.1 (nV m)).ok w') => numRead_any (accS q.1 (nV m)) w' ok (by rw [hlv]; unfold nV; rw [be64_len]; decide)
    rw [hlv, show num64 (nV m) = BitVec.ofNat 64 m from num64_be8 _] at hr
    repeat (first | refine JL.q (by first | (apply OQ.callx (vs := [(accS q.1 (nV m)).v]); exact goes_numRead; exact rfl; exact (fun w' hw' => hr w' (acc_ok hw'))) | (apply OQ.conv64_N; exact Tryz.underlying82; exact Tryz.underlying3; exact rfl; exact (by rw [hto]; omega)) | (apply OQ.move; exact rfl) | (apply OQ.assign; exact rfl)) rfl ?_ | refine JC.seq ?_ | refine JC.region ?_ | refine JC.skip ?_ | refine JL.nil ?_ | refine JE.next ?_)
    rw [hto]
    exact JC.ret (JE.ret1 rfl (RV.tmp rfl) fun w' hw => ⟨rfl, hw.weak (less_post _ _)⟩)
theorem goes_bList : Goes Tryz.prog 22 := ⟨_, Tryz.func22, rfl, by kernel_rfl⟩
def uidsV (l : List Nat) : List Value := l.map fun u => N u
theorem list_lt {R : Rb} {n : Nat} (k : R.ok n) {f : Bk} {u : Nat} (h : u ∈ R.list f) : u < 10 ^ 10 := by
  obtain ⟨m, hm, rfl⟩ := List.mem_map.1 h
  exact k.u_lt (List.mem_filter.1 hm).1
set_option maxHeartbeats 16000000 in
theorem bList_any (x : Bz) (recs : List Bk) (vs : VL) (R : Rb) (n : Nat) (k : x.ok recs vs R n) (f : Bk) (hf : f.length < 1000000000000000) (hn : R.ms.length ≤ 1000000) (w : World) (h0 : Holds w (keys x.E) x.E w) :
    Calls Tryz.prog 22 [Pt x.b 0, Z f].toArray w fun e w' => ∃ q : {q : Acc // q = none → R.list f = []}, e = .returned (accV q.1 (R.list f).length) ∧ Holds w (keys x.E) (accE 3 q.1 (uidsV (R.list f)) ++ x.E) w' := by
  generalize keys x.E = S at h0 ⊢
  refine enter (n := 41) Tryz.func22 rfl rfl rfl h0 ?_
  unfold Bz.E
  have hlk : keysV vs (mFront f) = (R.list f).map fun u => mKey f ((u : Nat) : Int) := list_keys k.r k.v f
  have hll : (R.list f).length ≤ 1000000 := by
    unfold Rb.list
    rw [List.length_map]
    have := List.length_filter_le (fun m => decide (m.f = f)) R.ms
    omega
  have hlt : ∀ u ∈ R.list f, u < 10 ^ 10 := fun u h => list_lt k.r h
  have hfl : (mFront f).length = f.length + 3 := by unfold mFront; simp
  generalize R.list f = L at hlk hll hlt ⊢
  repeat (first | refine JL.q (by first | (apply OQ.addS (l := [109#8, 58#8]) (r := f); exact rfl; exact rfl; exact (by simp; omega)) | (apply OQ.addS (l := [109#8, 58#8] ++ f) (r := [58#8]); exact rfl; exact rfl; exact (by simp; omega)) | (apply OQ.load; exact bxC; exact rfl; exact (hasR (N := x.z.E) .here); exact (Row.cell (v := Pt x.z.p 0) rfl)) | (apply OQ.move; exact rfl) | (apply OQ.assign; exact rfl) | (apply OQ.nilc; exact rfl) | (apply OQ.fld; exact rfl; exact rfl; exact rfl; exact (by decide); exact rfl)) rfl ?_ | refine JC.seq ?_ | refine JC.region ?_ | refine JL.nil ?_ | refine JE.next ?_)
  refine JL.skeys (front := mFront f) (ks := L.map fun u => mKey f ((u : Nat) : Int)) k.z hlk rfl rfl rfl fun q2 => ?_
  obtain ⟨q2, hq2⟩ := q2
  dsimp only
  obtain ⟨ks, hks⟩ : ∃ ks, (L.map fun u => mKey f ((u : Nat) : Int)) = ks := ⟨_, rfl⟩
  have hkl : ks.length = L.length := by rw [← hks, List.length_map]
  rw [hks] at hq2 ⊢
  obtain ⟨X, hX⟩ : ∃ X, x.z.E ++ [(⟨x.b, Row 65 [Pt x.z.p 0], true⟩ : Ent)] = X := ⟨_, rfl⟩
  rw [hX]
  repeat (first | refine JL.q (by first | (apply OQ.lenV (q := q2) (k := ks.length); exact Tryz.underlying33; exact (fun e => by rw [hq2 e]; rfl); exact rfl) | (apply OQ.move; exact rfl)) rfl ?_ | refine JC.block ?_ | refine JL.nil ?_ | refine JE.next ?_)
  refine JC.loop (fun z : Nat × Acc => [(5, accV z.2 z.1), (6, Z (mFront f)), (19, accV q2 ks.length), (20, N ks.length), (21, N z.1)]) (fun z => accE 3 z.2 (uidsV (L.take z.1)) ++ (accE 9 q2 (ks.map Z) ++ X)) (fun z => ks.length - z.1) (fun z => z.1 ≤ ks.length ∧ (z.2 = none → z.1 = 0)) (0, none) ⟨Nat.zero_le _, fun _ => rfl⟩ (by repeat (first | exact SubE.nil | refine SubE.cons _ _ _ rfl ?_)) (Less.refl _) ?_
  rintro ⟨i, q⟩ ⟨hi, hq0⟩
  dsimp only at hi hq0 ⊢
  repeat (first | refine JL.q (by (apply OQ.lssN; exact rfl; exact rfl)) rfl ?_ | refine JC.seq ?_ | refine JC.region ?_ | refine JL.nil ?_ | refine JE.next ?_)
  refine JC.cond rfl (fun h => ?_) (fun h => ?_)
  · have hi' : i < ks.length := by have := of_decide_eq_true h; omega
    clear h
    have hiL : i < L.length := by omega
    cases q2 with
    | none => rw [hq2 rfl] at hi'; cases hi'
    | some r2 =>
    have hul : L.getD i 0 < 10 ^ 10 := hlt _ (by rw [List.getD_eq_getElem?_getD, List.getElem?_eq_getElem hiL]; exact List.getElem_mem hiL)
    have htk : L.take (i + 1) = L.take i ++ [L.getD i 0] := by
      rw [List.take_succ_eq_append_getElem hiL, List.getD_eq_getElem?_getD, List.getElem?_eq_getElem hiL]
      rfl
    have hki : ks[i]? = some (mKey f ((L.getD i 0 : Nat) : Int)) := by
      rw [← hks, List.getElem?_map, List.getD_eq_getElem?_getD, List.getElem?_eq_getElem hiL]
      rfl
    generalize L.getD i 0 = u at hul htk hki
    have hzk : (ks.map Z)[i]? = some (Z (mKey f (u : Int))) := by rw [List.getElem?_map, hki]; rfl
    have hH : Has (accE 3 q (uidsV (L.take i)) ++ (accE 9 (some r2) (ks.map Z) ++ X)) r2.1 (Sl.Own 9 1 (ks.map Z).length r2.2 (ks.map Z)) true := hasR .here
    have hcell := Sl.Own.cell (e := 9) (sz := 1) (n := (ks.map Z).length) (cap := r2.2) hzk
    have hkv : accV (some r2) ks.length = .slice (some ⟨r2.1, 0, none⟩) ks.length r2.2 := rfl
    have hdr : (mKey f (u : Int)).drop (mFront f).length = dig (u : Int) := by rw [mKey_eq, List.drop_left']; rfl
    have hml : (mFront f).length ≤ (mKey f (u : Int)).length := by rw [mKey_eq, List.length_append]; omega
    have ha := fun w' => atoi_any u hul w'
    rw [← hdr] at ha
    rw [hkv]
    repeat (first | refine JL.q (by first | (apply OQ.idxS1 (i := i) (b := r2.1) (j := 0); exact Tryz.underlying33; exact strS; exact rfl; exact rfl; exact hi') | (apply OQ.load (v := Z (mKey f (u : Int))); exact strC; exact rfl; exact hH; exact (by rw [Nat.zero_add]; exact hcell)) | (apply OQ.lenS; exact Tryz.underlying9; exact rfl) | (apply OQ.subS_lo (i := (mFront f).length); exact Tryz.underlying9; exact rfl; exact rfl; exact hml) | (apply OQ.callx (vs := [Z ((mKey f (u : Int)).drop (mFront f).length)]); exact goes_atoi; exact rfl; exact (fun w' _ => ha w')) | (apply OQ.extract; exact rfl; exact rfl) | (apply OQ.errNil; exact rfl) | (apply OQ.move; exact rfl) | (apply OQ.assign; exact rfl)) rfl ?_ | refine JC.seq ?_ | refine JC.region ?_ | refine JC.block ?_ | refine JC.skip ?_ | refine JL.nil ?_ | refine JE.next ?_)
    refine JC.cond_true rfl rfl ?_
    repeat (first | refine JL.q (by (apply OQ.move; exact rfl)) rfl ?_ | refine JC.region ?_)
    refine JL.lit1 (v := N u) Tryz.underlying35 intE17 rfl rfl rfl rfl fun bl _ => ?_
    have hxl : (uidsV (L.take i)).length = i := by unfold uidsV; rw [List.length_map, List.length_take]; omega
    refine JL.perm (M' := accE 3 q (uidsV (L.take i)) ++ (⟨bl, Row 3 [N u], true⟩ :: (accE 9 (some r2) (ks.map Z) ++ X))) ?_ (by exact (List.perm_append_comm_assoc [_] _ _))
    refine JL.appendQ (xs := uidsV (L.take i)) (cs := [N u]) (m := 1) (ad := some ⟨bl, 0, none⟩) (sc := 1) q Tryz.underlying35 intE17 (fun e => by have := hq0 e; subst this; rfl) (by rw [hxl]; rfl) rfl rfl (fun w' hw' => ?_) (by simp [Value.oneCell']) rfl (by rw [hxl]; omega) (by rw [hxl]; omega) rfl fun q' hq' => ?_
    · obtain ⟨o, ho, hA⟩ := hw'.get (b := bl) (A := Row 3 [N u]) (wr := true) (hasR .here)
      exact Reads.block ho (Row.all o hA)
    have e2 : uidsV (L.take i) ++ [N u] = uidsV (L.take (i + 1)) := by unfold uidsV; rw [htk, List.map_append]; rfl
    have e3 : (uidsV (L.take i) ++ [N u]).length = i + 1 := by rw [List.length_append, hxl]; rfl
    rw [e3, e2]
    repeat (first | refine JL.q (by first | (apply OQ.move; exact rfl) | (apply OQ.assign; exact rfl) | (apply OQ.addN; exact rfl; exact rfl; exact (by (try simp only []); omega))) rfl ?_ | refine JC.region ?_ | refine JL.nil ?_ | refine JE.next ?_ | refine JE.blk_normal ?_)
    rw [← hkv]
    exact JE.again (i := (i, q)) (i + 1, q') ⟨hi', fun e => absurd (hq' e) (by simp)⟩ (by dsimp only; omega) (by repeat (first | exact SubE.nil | refine SubE.cons _ _ _ rfl ?_)) (less_app2 (.drop _ _ _ (Less.refl _)) _)
  · have hi' : i = L.length := by have := of_decide_eq_false h; omega
    subst hi'
    rw [List.take_length]
    repeat (first | refine JL.q (by first | (apply OQ.move; exact rfl) | (apply OQ.assign; exact rfl)) rfl ?_ | refine JC.seq ?_ | refine JC.region ?_ | refine JC.exit ?_ | refine JL.nil ?_ | refine JE.next ?_ | refine JE.then_exit ?_ | refine JE.blk_hit ?_)
    exact JC.ret (JE.ret1 rfl (RV.tmp rfl) fun w' hw => ⟨⟨q, fun e => List.eq_nil_of_length_eq_zero (hq0 e)⟩, rfl, hw.weak (less_app2 (less_post _ _) _)⟩)
end Go.Proofs.YtjkncnbpaejamaaGreatDoor

/-
  Of no statement by itself: the landed box's Fetch, Mark.
  Conditions: each theorem's own.
-/
namespace Go.Proofs.YtjkncnbpaejamaaGreatDoor
set_option maxRecDepth 10000
open Sl Dsk Jrn Sto Bx
section
variable {n : Nat} {E : Env} {C : World → Prop} {dst : Option Tmp} {ty t' : TypeId} {pos : String} {aft : Array Edge} {g : Option (Nat × Bool)} {x y z : Operand}
theorem OQ.buildMl {u fl : Int} {s : Sl8} (hx : ev E x = some (I64 u)) (hy : ev E y = some (I64 fl)) (hz : ev E z = some s.v) : OQ Tryz.prog n E C ⟨dst, .build 46 #[(0, x), (1, y), (2, z)], ty, pos, aft, g⟩ (.agg (mlC u fl s).toArray) :=
  OQ.run fun a ha w _ => by
    have h1 := ha.eval hx
    have h2 := ha.eval hy
    have h3 := ha.eval hz
    have r := run_build (P := Tryz.prog) w 46 #[(0, I64 u), (1, I64 fl), (2, s.v)] (mlC u fl s).toArray (by kernel_rfl)
    simp [execOp, h1, h2, h3, r]
theorem OQ.buildMl0 : OQ Tryz.prog n E C ⟨dst, .build 46 #[], ty, pos, aft, g⟩ (.agg (mlC 0 0 nilS).toArray) := OQ.pure rfl rfl (by kernel_rfl)
end
theorem boxIn (x : Bz) {M : List Ent} : Has ((x.E ++ []) ++ M) x.b (Row 65 [Pt x.z.p 0]) true := by
  rw [List.append_nil]
  unfold Bz.E
  rw [List.append_assoc]
  exact hasR .here
theorem boxPre (x : Bz) (M : List Ent) : (x.E ++ []) ++ M = x.z.E ++ ([(⟨x.b, Row 65 [Pt x.z.p 0], true⟩ : Ent)] ++ M) := by
  unfold Bz.E
  rw [List.append_nil, List.append_assoc]
/-- what is behind the first byte -/
def tl1 (r : Nat × Nat) (l : Bk) : Sl8 := ⟨if r.2 = 1 then some ⟨r.1, 0, none⟩ else (some (⟨r.1, 0, none⟩ : Addr)).map (·.add (1 * 1)), r.2 - 1, l⟩
theorem tl1_ok {w0 w : World} {S : List Nat} {M : List Ent} {r : Nat × Nat} {c : Bt} {l : Bk} (hw : Holds w0 S (accE 5 (some r) ((c :: l).map U8) ++ M) w) : (tl1 r l).ok w := by
  have h := acc_ok (q := some r) (l := c :: l) hw
  have h2 : (c :: l).length ≤ r.2 := h.len
  have h1 := h.reads.drop (len := (c :: l).length) (cap := r.2) (lo := 1) (by rw [List.length_map]; rfl) h2 (by simp)
  refine ⟨?_, ?_⟩
  · show l.length ≤ r.2 - 1
    rw [List.length_cons] at h2
    omega
  · have e : ((c :: l).map U8).drop 1 = l.map U8 := rfl
    show Reads w _ (l.map U8)
    rw [← e]
    exact h1
def fetV (u : Int) (o : Option Ml) (r : Nat × Nat) : Value := match o with
  | none => .tuple #[.agg (mlC 0 0 nilS).toArray, N 7]
  | some m => .tuple #[.agg (mlC u m.fl (tl1 r m.b)).toArray, N 0]
def fetE (o : Option Ml) (r : Nat × Nat) : List Ent := match o with
  | none => []
  | some m => accE 5 (some r) (m.v.map U8)
theorem fetE_wr (o : Option Ml) (r : Nat × Nat) : ∀ e ∈ fetE o r, e.wr = true := by
  cases o with
  | none => intro e h; cases h
  | some m => exact fun e h => accE_wr 5 (some r) (m.v.map U8) e h
theorem goes_bFetch : Goes Tryz.prog 20 := ⟨_, Tryz.func20, rfl, by kernel_rfl⟩
set_option maxHeartbeats 16000000 in
theorem bFetch_any (x : Bz) (recs : List Bk) (vs : VL) (R : Rb) (n : Nat) (k : x.ok recs vs R n) (f : Bk) (u : Int) (hf : f.length < 1000000000000000) (hu0 : -9223372036854775808 ≤ u) (hu1 : u ≤ 9223372036854775807) (w : World) (h0 : Holds w (keys x.E) x.E w) (hT : TabAt (keys x.E) w) :
    Calls Tryz.prog 20 [Pt x.b 0, Z f, I64 u].toArray w fun e w' => ∃ r : Nat × Nat, e = .returned (fetV u (R.find f u) r) ∧ Holds w (keys x.E) (fetE (R.find f u) r ++ x.E) w' := by
  generalize keys x.E = S at h0 hT ⊢
  refine enter (n := 33) Tryz.func20 rfl rfl rfl h0 ?_
  refine JC.seq (JC.region (JL.alloc mlZ rfl fun b6 _ => ?_))
  have hMk := fun (w' : World) (M' : List Ent) (hw' : Holds w S M' w') => mKey_any f u hf hu0 hu1 w' (hT.holds hw')
  obtain ⟨v, hv⟩ : ∃ v, (getV vs (mKey f u)).getD [] = v := ⟨_, rfl⟩
  haveI : Inhabited {q : Acc // q = none → v = []} := ⟨⟨some (0, 0), nofun⟩⟩
  obtain ⟨is, his⟩ : ∃ is, (getV vs (mKey f u)).isSome = is := ⟨_, rfl⟩
  repeat (first | refine JL.q (by (apply OQ.assign; exact rfl)) rfl ?_ | refine JC.seq ?_ | refine JL.nil ?_ | refine JE.next ?_)
  let vs2 : Nat → {q : Acc // q = none → v = []} → Value := fun j y => match j with
    | 0 => Pt x.b 0
    | 1 => Pt x.b 0
    | 2 => Pt x.b 0
    | 3 => Pt x.z.p 0
    | 4 => Z f
    | 5 => I64 u
    | 6 => Z (mKey f u)
    | 7 => .tuple #[accV y.1 v.length, .bool is]
    | 8 => .tuple #[accV y.1 v.length, .bool is]
    | 9 => accV y.1 v.length
    | 10 => .bool is
    | 11 => accV y.1 v.length
    | 12 => .bool is
    | _ => N 0
  let Ms : Nat → {q : Acc // q = none → v = []} → List Ent := fun j y => match j with
    | 7 => accE 5 y.1 (v.map U8)
    | 13 => [⟨b6, Row 46 [.int .i64 0, .int .i64 0, .slice none 0 0], true⟩]
    | 14 => x.E
    | _ => []
  refine JC.grow (g := ⟨[(0, Pt x.b 0), (1, Z f), (2, I64 u), (6, Pt b6 0)], 15, vs2, Ms, (fun j => match j with | 1 => [(0, 11)] | 2 => [(1, 12)] | 3 => [(2, 13)] | 6 => [(4, 15), (5, 16)] | 7 => [(3, 14), (6, 17)] | 8 => [(7, 18)] | 9 => [(8, 10)] | 10 => [(8, 10)] | 11 => [(9, 19)] | 12 => [(10, 20)] | _ => []), (fun j => match j with | 3 => [14] | 7 => [14] | _ => []), (fun j => match j with | _ => []), (fun j => match j with | 8 => some 7 | 9 => some 8 | 11 => some 9 | _ => none)⟩) [(11, 8)] [7, 13, 14] mixT (by repeat (first | exact SubE.nil | refine SubE.cons _ _ _ rfl ?_)) ?_ (by kernel_rfl) (by kernel_rfl) (by kernel_rfl) ?_ ?_
  · exact List.append_nil x.E ▸ Less.refl _
  · refine ⟨?_, ?_, ?_, ?_, ?_, ?_, ?_, ?_, ?_, ?_, ?_, ?_, ?_, trivial⟩
    · (intro xx EF MF Q kk; (try refine JL.gon rfl rfl ?_); exact JL.q (OQ.move rfl) rfl (JL.nil (kk default nofun)))
    · (intro xx EF MF Q kk; (try refine JL.gon rfl rfl ?_); exact JL.q (OQ.nilc rfl) rfl (JL.nil (kk default nofun)))
    · (intro xx EF MF Q kk; (try refine JL.gon rfl rfl ?_); exact JL.q (OQ.fld rfl rfl rfl (by decide) rfl) rfl (JL.nil (kk default nofun)))
    · (intro xx EF MF Q kk; (try refine JL.gon rfl rfl ?_); exact JL.q (OQ.load (v := Pt x.z.p 0) bxC rfl (boxIn x) (Row.cell rfl)) rfl (JL.nil (kk default nofun)))
    · (intro xx EF MF Q kk; (try refine JL.gon rfl rfl ?_); exact JL.q (OQ.move rfl) rfl (JL.nil (kk default nofun)))
    · (intro xx EF MF Q kk; (try refine JL.gon rfl rfl ?_); exact JL.q (OQ.move rfl) rfl (JL.nil (kk default nofun)))
    · (intro xx EF MF Q kk; (try refine JL.gon rfl rfl ?_); exact JL.q (OQ.callx (vs := [Z f, I64 u]) goes_mKey rfl (fun w' hw' => hMk w' _ hw')) rfl (JL.nil (kk default nofun)))
    · (intro xx EF MF Q kk; refine JL.perm (M' := x.z.E ++ ([(⟨x.b, Row 65 [Pt x.z.p 0], true⟩ : Ent)] ++ MF)) ?_ (List.Perm.of_eq (boxPre x MF)); refine JL.sget (key := mKey f u) (v := v) (is := is) k.z hv his rfl rfl rfl fun q => ?_; refine JL.perm (M' := accE 5 q.1 (v.map U8) ++ ((x.E ++ []) ++ MF)) (JL.nil (kk q nofun)) (List.Perm.of_eq (by rw [boxPre x MF])))
    · (intro xx EF MF Q kk; (try refine JL.gon rfl rfl ?_); exact JL.q (OQ.move rfl) rfl (JL.nil (kk (xx 7) (fun k h => by cases h; rfl))))
    · (intro xx EF MF Q kk; (try refine JL.gon rfl rfl ?_); exact JL.q (OQ.extract rfl rfl) rfl (JL.nil (kk (xx 8) (fun k h => by cases h; rfl))))
    · (intro xx EF MF Q kk; (try refine JL.gon rfl rfl ?_); exact JL.q (OQ.extract rfl rfl) rfl (JL.nil (kk default nofun)))
    · (intro xx EF MF Q kk; (try refine JL.gon rfl rfl ?_); exact JL.q (OQ.assign rfl) rfl (JL.nil (kk (xx 9) (fun k h => by cases h; rfl))))
    · (intro xx EF MF Q kk; (try refine JL.gon rfl rfl ?_); exact JL.q (OQ.assign rfl) rfl (JL.nil (kk default nofun)))
  · intro xx hx
    have e1 := hx 11 9 (by decide) rfl
    have e2 := hx 9 8 (by decide) rfl
    have e3 := hx 8 7 (by decide) rfl
    show JE _ _ _ _ _ [(8, accV (xx 11).1 v.length), (0, Pt x.b 0), (1, Z f), (2, I64 u), (6, Pt b6 0)] (accE 5 (xx 7).1 (v.map U8) ++ ([⟨b6, Row 46 [.int .i64 0, .int .i64 0, .slice none 0 0], true⟩] ++ (x.E ++ [])))
    rw [e1, e2, e3]
    generalize xx 7 = q
    clear hx e1 e2 e3 xx vs2 Ms
    obtain ⟨q, hq⟩ := q
    rw [List.append_nil]
    dsimp only
    refine JE.next ?_
    have hg := k.v.mail f u
    cases hn : R.find f u with
    | none =>
      rw [hn] at hg
      have hv0 : v = [] := by rw [← hv, hg]; rfl
      subst hv0
      repeat (first | refine JL.q (by first | (apply OQ.lenV (q := q) (k := 0); exact Tryz.underlying24; exact (fun _ => rfl); exact rfl) | (apply OQ.eqB (a := 0) (b := 0) (c := true); exact rfl; exact rfl; exact rfl) | (apply OQ.move; exact rfl)) rfl ?_ | refine JC.seq ?_ | refine JC.region ?_ | refine JL.nil ?_ | refine JE.next ?_)
      refine JC.cond_true rfl rfl ?_
      repeat (first | refine JL.q (by (apply OQ.buildMl0)) rfl ?_ | refine JC.seq ?_ | refine JC.region ?_)
      refine JL.perm (M' := ⟨b6, Row 46 [.int .i64 0, .int .i64 0, .slice none 0 0], true⟩ :: (accE 5 q (([] : Bk).map U8) ++ x.E)) ?_ (by exact List.perm_middle)
      refine JL.store_all (cs := mlC 0 0 nilS) ml3 rfl rfl rfl rfl .here rfl ?_
      repeat (first | refine JL.q (by (apply OQ.assign; exact rfl)) rfl ?_ | refine JL.nil ?_ | refine JE.next ?_)
      refine JC.ret ?_
      repeat (refine JE.then_ret ?_)
      exact JE.ret2 rfl (RV.cell_agg (cs := mlC 0 0 nilS) mlAg ml3 rfl .here rfl Row.all) (RV.tmp rfl) fun w' hw => ⟨(0, 0), rfl, hw.weak (.drop _ _ _ (less_post _ _))⟩
    | some m =>
      rw [hn] at hg
      have hv0 : v = m.v := by rw [← hv, hg]; rfl
      subst hv0
      have hml : m.v.length = m.b.length + 1 := rfl
      cases q with
      | none => exact absurd (hq rfl) (by unfold Ml.v; simp)
      | some r =>
      have hfl : (BitVec.ofNat 8 m.fl).toNat = m.fl := by
        have := k.r.fl m (find_mem hn).1
        rw [BitVec.toNat_ofNat]
        omega
      have hne : decide (((m.v.length : Nat) : Int) = 0) = false := decide_eq_false (by rw [hml]; omega)
      repeat (first | refine JL.q (by first | (apply OQ.lenV (q := some r) (k := m.v.length); exact Tryz.underlying24; exact nofun; exact rfl) | (apply OQ.eqB (a := (m.v.length : Int)) (b := 0); exact rfl; exact rfl; exact hne) | (apply OQ.move; exact rfl)) rfl ?_ | refine JC.seq ?_ | refine JC.region ?_ | refine JL.nil ?_ | refine JE.next ?_)
      refine JC.cond_false rfl rfl ?_
      have hvv : accV (some r) m.v.length = .slice (some ⟨r.1, 0, none⟩) m.v.length r.2 := rfl
      have hsl : (Value.slice (if r.2 = 1 then some (⟨r.1, 0, none⟩ : Addr) else (some (⟨r.1, 0, none⟩ : Addr)).map (·.add (1 * 1))) (m.v.length - 1) (r.2 - 1)) = (tl1 r m.b).v := rfl
      have hcell : ∀ o, Sl.Own 5 1 (m.v.map U8).length r.2 (m.v.map U8) o → cellAt o (0 + 0) = some (U8 (BitVec.ofNat 8 m.fl)) := Sl.Own.cell rfl
      have hHr : Has (accE 5 (some r) (m.v.map U8) ++ ([(⟨b6, Row 46 [.int .i64 0, .int .i64 0, .slice none 0 0], true⟩ : Ent)] ++ x.E)) r.1 (Sl.Own 5 1 (m.v.map U8).length r.2 (m.v.map U8)) true := .here
      rw [hvv]
      repeat (first | refine JC.seq ?_ | refine JC.skip ?_ | refine JE.next ?_)
      refine JC.tail 8 mixT (by kernel_rfl) ?_
      simp only [List.take_succ_cons, List.take_zero, List.drop_succ_cons, List.drop_zero]
      repeat (first | refine JQ.q (by first | (apply OQ.idxS1 (i := 0) (b := r.1) (j := 0); exact Tryz.underlying24; exact u8s; exact rfl; exact rfl; exact (by omega)) | (apply OQ.load; exact u8c; exact rfl; exact hHr; exact hcell) | (apply OQ.to; exact (OQ.conv8_N Tryz.underlying5 Tryz.underlying3 rfl); exact (congrArg N hfl)) | (apply OQ.to; exact (OQ.slS_lo (lo := 1) Tryz.underlying24 u8s rfl rfl (by omega)); exact hsl) | (apply OQ.buildMl (u := u) (fl := m.fl) (s := tl1 r m.b); exact rfl; exact rfl; exact rfl) | (apply OQ.move; exact rfl)) rfl ?_ | refine JQ.nil_tail ?_)
      refine JL.perm (M' := ⟨b6, Row 46 [.int .i64 0, .int .i64 0, .slice none 0 0], true⟩ :: (accE 5 (some r) (m.v.map U8) ++ x.E)) ?_ (by exact List.perm_middle)
      refine JL.store_all (cs := mlC u m.fl (tl1 r m.b)) ml3 rfl rfl rfl rfl .here rfl ?_
      repeat (first | refine JL.q (by (apply OQ.assign; exact rfl)) rfl ?_ | refine JL.nil ?_ | refine JE.next ?_)
      exact JC.ret (JE.ret2 rfl (RV.cell_agg (cs := mlC u m.fl (tl1 r m.b)) mlAg ml3 rfl .here rfl Row.all) (RV.tmp rfl) fun w' hw => ⟨r, rfl, hw.weak (.drop _ _ _ (Less.refl _))⟩)
end Go.Proofs.YtjkncnbpaejamaaGreatDoor

/-
  Of no statement by itself: what StoreLast gives.
  Conditions: each theorem's own.
-/
namespace Go.Proofs.YtjkncnbpaejamaaGreatDoor
set_option maxRecDepth 10000
open Sl Dsk Jrn Sto
theorem Step.keep {z z' : Sz} {recs recs' : List Bk} {vs vs' : VL} {ps : List Pq} {code : Nat} (st : Step z recs vs ps code z' recs' vs') (k : z.ok recs vs) (hg : z.h.g.toNat < 4294967295) :
    z'.h.size = z.h.size ∧ z'.h.x.p = z.h.x.p ∧ z'.h.g.toNat ≤ z.h.g.toNat + 1 := by
  obtain ⟨_, _, st⟩ := st
  rcases st with ⟨rfl, _⟩ | ⟨_, _, _, ⟨_, e, _⟩ | ⟨_, _, e, _⟩⟩
  · exact ⟨rfl, rfl, Nat.le_succ _⟩
  · rw [e]; exact ⟨rfl, rfl, Nat.le_succ _⟩
  · rw [e]; exact ⟨rfl, rfl, gm_succ k.jv.gm_le hg⟩
theorem Step.zero {z z' : Sz} {recs recs' : List Bk} {vs vs' : VL} {ps : List Pq} {code : Nat} (st : Step z recs vs ps code z' recs' vs') (k : z.ok recs vs) (hok : okL ps = true) (hs : nb (baseOf vs ps).length ≤ z.h.size) (hg : z.h.g.toNat < 4294967295) : code = 0 ∧ vs' = doL vs ps := by
  obtain ⟨_, _, st⟩ := st
  rcases st with ⟨_, _, _, h | h⟩ | ⟨_, h1, h2, _⟩
  · rw [hok] at h; exact absurd h.1 (by decide)
  · rcases h.2.2.2 with h | h
    · omega
    · have := k.jv.gm_le
      rw [h, show (4294967295#32).toNat = 4294967295 from rfl] at this
      omega
  · exact ⟨h1, h2⟩
structure Ks16 where
  i : Nat
  z : Sz
  recs : List Bk
  q : Option Bk
end Go.Proofs.YtjkncnbpaejamaaGreatDoor

/-
  Of no statement by itself: rules for calls of a box; the landed box's Mark.
  Conditions: each theorem's own.
-/
namespace Go.Proofs.YtjkncnbpaejamaaGreatDoor
set_option maxRecDepth 10000
open Sl Dsk Jrn Sto Bx
theorem Step.box {x : Bz} {recs recs' : List Bk} {vs vs' : VL} {R1 : Rb} {n1 code : Nat} {ps : List Pq} {z' : Sz} (st : Step x.z recs vs ps code z' recs' vs') (hok : okL ps = true) (hv : Bv (doL vs ps) R1) (hr : R1.ok n1) :
    (code = 0 ∧ vs' = doL vs ps ∧ (Bz.mk x.b z').ok recs' vs' R1 n1) ∨ (code = 6 ∧ z' = x.z ∧ recs' = recs ∧ vs' = vs) := by
  obtain ⟨k', _, st⟩ := st
  rcases st with ⟨h1, h2, h3, h | h⟩ | ⟨_, h1, h2, _⟩
  · rw [hok] at h; exact absurd h.1 (by decide)
  · exact .inr ⟨h.2.1, h1, h2, h3⟩
  · exact .inl ⟨h1, h2, k', h2 ▸ hv, hr⟩
section
variable {n : Nat} {w0 : World} {S : List Nat} {ops : Array Oper} {Q : Exit → Act → World → Prop} {l : List Oper} {E : Env} {M : List Ent}
variable {d : Nat} {ty : TypeId} {pos : String} {aft : Array Edge} {x1 x2 x3 : Operand} {ats : Array TypeId} {x : Bz} {recs : List Bk} {vs : VL} {R : Rb} {nd : Nat} {f : Bk} {u : Int}
theorem JL.bnext (k : x.ok recs vs R nd) (hf : f.length < 1000000000000000) (e1 : ev E x1 = some (Pt x.b 0)) (e2 : ev E x2 = some (Z f)) (hd : Nat.blt d n = true)
    (kk : JL Tryz.prog n w0 S ops Q l ((d, N (R.next f)) :: E) (x.E ++ M)) : JL Tryz.prog n w0 S ops Q (⟨some d, .call ⟨.value (.func 23), #[x1, x2], ats⟩, ty, pos, aft, none⟩ :: l) E (x.E ++ M) :=
  JL.callV (ι := Unit) (xs := [x1, x2]) (vs := [Pt x.b 0, Z f]) (fun _ => N (R.next f)) (fun _ => x.E) goes_bNext (by simp [evs, e1, e2]) hd x.wr (fun _ => x.wr)
    (fun w _ hw => (bNext_any x recs vs R nd k f hf w hw).mono fun _ _ h => ⟨(), h⟩) fun _ => kk
theorem JL.blist (k : x.ok recs vs R nd) (hf : f.length < 1000000000000000) (hn : R.ms.length ≤ 1000000) (e1 : ev E x1 = some (Pt x.b 0)) (e2 : ev E x2 = some (Z f)) (hd : Nat.blt d n = true)
    (kk : ∀ q : {q : Acc // q = none → R.list f = []}, JL Tryz.prog n w0 S ops Q l ((d, accV q.1 (R.list f).length) :: E) (accE 3 q.1 (uidsV (R.list f)) ++ (x.E ++ M))) : JL Tryz.prog n w0 S ops Q (⟨some d, .call ⟨.value (.func 22), #[x1, x2], ats⟩, ty, pos, aft, none⟩ :: l) E (x.E ++ M) :=
  JL.callV (ι := {q : Acc // q = none → R.list f = []}) (xs := [x1, x2]) (vs := [Pt x.b 0, Z f]) (fun q => accV q.1 (R.list f).length) (fun q => accE 3 q.1 (uidsV (R.list f)) ++ x.E) goes_bList (by simp [evs, e1, e2]) hd x.wr
    (fun q e he => (List.mem_append.1 he).elim (accE_wr _ _ _ e) (x.wr e)) (fun w _ hw => bList_any x recs vs R nd k f hf hn w hw) fun q => by rw [List.append_assoc]; exact kk q
theorem JL.bfetch (k : x.ok recs vs R nd) (hf : f.length < 1000000000000000) (hu0 : -9223372036854775808 ≤ u) (hu1 : u ≤ 9223372036854775807) (hT : TabAt S w0) (e1 : ev E x1 = some (Pt x.b 0)) (e2 : ev E x2 = some (Z f)) (e3 : ev E x3 = some (I64 u)) (hd : Nat.blt d n = true)
    (kk : ∀ r : Nat × Nat, JL Tryz.prog n w0 S ops Q l ((d, fetV u (R.find f u) r) :: E) (fetE (R.find f u) r ++ (x.E ++ M))) : JL Tryz.prog n w0 S ops Q (⟨some d, .call ⟨.value (.func 20), #[x1, x2, x3], ats⟩, ty, pos, aft, none⟩ :: l) E (x.E ++ M) :=
  JL.callV (ι := Nat × Nat) (xs := [x1, x2, x3]) (vs := [Pt x.b 0, Z f, I64 u]) (fun r => fetV u (R.find f u) r) (fun r => fetE (R.find f u) r ++ x.E) goes_bFetch (by simp [evs, e1, e2, e3]) hd x.wr
    (fun r e he => (List.mem_append.1 he).elim (fetE_wr _ _ e) (x.wr e)) (fun w h0 hw => bFetch_any x recs vs R nd k f u hf hu0 hu1 w hw (hT.keys x.wr h0)) fun r => by rw [List.append_assoc]; exact kk r
end
def markP (f : Bk) (u fl : Int) (b : Bk) : Pq := ⟨mKey f u, BitVec.ofInt 8 fl :: b, false⟩
/-- what a Mark comes to -/
structure MkTo (x : Bz) (recs : List Bk) (vs : VL) (R : Rb) (n : Nat) (f : Bk) (u fl : Int) where
  code : Nat
  z' : Sz
  recs' : List Bk
  vs' : VL
  R' : Rb
  ok : (Bz.mk x.b z').ok recs' vs' R' n
  p : z'.p = x.z.p
  out : ((fl < 0 ∨ 15 < fl) ∧ code = 1 ∧ z' = x.z ∧ recs' = recs ∧ vs' = vs ∧ R' = R) ∨
    (¬ (fl < 0 ∨ 15 < fl) ∧ R.find f u = none ∧ code = 7 ∧ z' = x.z ∧ recs' = recs ∧ vs' = vs ∧ R' = R) ∨
    (¬ (fl < 0 ∨ 15 < fl) ∧ ∃ m, R.find f u = some m ∧ Step x.z recs vs [markP f u fl m.b] code z' recs' vs' ∧ ((code = 0 ∧ R' = R.mark f u fl.toNat) ∨ (code = 6 ∧ z' = x.z ∧ recs' = recs ∧ vs' = vs ∧ R' = R)))
theorem bxIs : szT Tryz.prog 3 = some 1 := by kernel_rfl
abbrev Bz.own (x : Bz) : List Ent := [⟨x.b, Row 65 [Pt x.z.p 0], true⟩]
theorem comPre (x : Bz) (A B MF : List Ent) : (x.E ++ (A ++ (B ++ []))) ++ MF = x.z.E ++ (x.own ++ (A ++ (B ++ MF))) := by
  unfold Bz.E
  simp only [List.append_assoc, List.append_nil]
theorem comPost (x : Bz) (z' : Sz) (hp : z'.p = x.z.p) (A B MF : List Ent) : (Bz.mk x.b z').E ++ ((A ++ (B ++ [])) ++ MF) = z'.E ++ (x.own ++ (A ++ (B ++ MF))) := by
  unfold Bz.E Bz.own
  rw [hp]
  simp only [List.append_assoc, List.append_nil]
/-- what a Commit leaves -/
abbrev Cy (x : Bz) (recs : List Bk) (vs : VL) (ps : List Pq) := (Nat × Nat) × Nat × Option (StepTo x.z recs vs ps)
def cyC {x : Bz} {recs : List Bk} {vs : VL} {ps : List Pq} (y : Cy x recs vs ps) : Nat := match y.2.2 with
  | none => 0
  | some s => s.code
def cyE {x : Bz} {recs : List Bk} {vs : VL} {ps : List Pq} (y : Cy x recs vs ps) : List Ent := match y.2.2 with
  | none => []
  | some s => (Bz.mk x.b s.z').E
theorem mKey_ok {f : Bk} {u : Nat} (hf : okF f = true) (hu : u < 10 ^ 10) : 1 ≤ (mKey f (u : Int)).length ∧ (mKey f (u : Int)).length ≤ 53 := by
  have := (okF_len hf).2
  rw [mKey_eq, List.length_append, dig_nat10 hu, unB_len, dW_len]
  have h : (mFront f).length = f.length + 3 := by unfold mFront; simp
  omega
theorem goes_bMark : Goes Tryz.prog 14 := ⟨_, Tryz.func14, rfl, by kernel_rfl⟩
set_option maxHeartbeats 16000000 in
theorem bMark_any (x : Bz) (recs : List Bk) (vs : VL) (R : Rb) (n : Nat) (k : x.ok recs vs R n) (f : Bk) (u fl : Int) (hf : f.length < 1000000000000000) (hu0 : -9223372036854775808 ≤ u) (hu1 : u ≤ 9223372036854775807) (hb : ∀ m ∈ R.ms, m.b.length ≤ 3000000 - 1000) (hz : ∀ m ∈ R.ms, m.b.length ≤ 2000000) (w : World) (h0 : Holds w (keys x.E) x.E w) (hT : TabAt (keys x.E) w) :
    Calls Tryz.prog 14 [Pt x.b 0, Z f, I64 u, I64 fl].toArray w fun e w' => ∃ r : MkTo x recs vs R n f u fl, e = .returned (N r.code) ∧ Holds w (keys x.E) (Bz.mk x.b r.z').E w' := by
  generalize keys x.E = S at h0 hT ⊢
  refine enter (n := 38) Tryz.func14 rfl rfl rfl h0 ?_
  obtain ⟨g1, hg1⟩ : ∃ g1, decide (fl < 0) = g1 := ⟨_, rfl⟩
  obtain ⟨g2, hg2⟩ : ∃ g2, decide (15 < fl) = g2 := ⟨_, rfl⟩
  by_cases hbad : fl < 0 ∨ 15 < fl
  · have fin : JC Tryz.prog 38 w S (bodyPost Tryz.prog Tryz.f14 fun e w' => ∃ r : MkTo x recs vs R n f u fl, e = .returned (N r.code) ∧ Holds w S (Bz.mk x.b r.z').E w') .ret [(8, N 1)] x.E := by
      exact JC.ret (JE.ret1 rfl (RV.tmp rfl) fun w' hw => ⟨⟨1, x.z, recs, vs, R, k, rfl, .inl ⟨hbad, rfl, rfl, rfl, rfl, rfl⟩⟩, rfl, hw⟩)
    cases g1
    · have h2 : g2 = true := by rw [← hg2]; exact decide_eq_true (hbad.resolve_left (of_decide_eq_false hg1))
      subst h2
      repeat (first | refine JL.q (by first | (apply OQ.lssB (b := 0); exact rfl; exact rfl; exact hg1) | (apply OQ.gtrB (b := 15); exact rfl; exact rfl; exact hg2) | (apply OQ.pick_f; exact rfl; exact rfl) | (apply OQ.move; exact rfl) | (apply OQ.assign; exact rfl)) rfl ?_ | refine JC.seq ?_ | refine JC.region ?_ | refine JL.nil ?_ | refine JE.next ?_ | refine JL.gon rfl rfl ?_)
      refine JC.cond_true rfl rfl ?_
      repeat (first | refine JL.q (by (apply OQ.assign; exact rfl)) rfl ?_ | refine JC.seq ?_ | refine JC.region ?_ | refine JL.nil ?_ | refine JE.next ?_)
      refine JC.ret ?_
      repeat (refine JE.then_ret ?_)
      exact JE.ret1 rfl (RV.tmp rfl) fun w' hw => ⟨⟨1, x.z, recs, vs, R, k, rfl, .inl ⟨hbad, rfl, rfl, rfl, rfl, rfl⟩⟩, rfl, hw⟩
    · repeat (first | refine JL.q (by first | (apply OQ.lssB (b := 0); exact rfl; exact rfl; exact hg1) | (apply OQ.pick_t; exact rfl; exact rfl) | (apply OQ.move; exact rfl) | (apply OQ.assign; exact rfl)) rfl ?_ | refine JC.seq ?_ | refine JC.region ?_ | refine JL.nil ?_ | refine JE.next ?_ | refine JL.gskip rfl rfl rfl rfl ?_)
      refine JC.cond_true rfl rfl ?_
      repeat (first | refine JL.q (by (apply OQ.assign; exact rfl)) rfl ?_ | refine JC.seq ?_ | refine JC.region ?_ | refine JL.nil ?_ | refine JE.next ?_)
      refine JC.ret ?_
      repeat (refine JE.then_ret ?_)
      exact JE.ret1 rfl (RV.tmp rfl) fun w' hw => ⟨⟨1, x.z, recs, vs, R, k, rfl, .inl ⟨hbad, rfl, rfl, rfl, rfl, rfl⟩⟩, rfl, hw⟩
  have h1 : g1 = false := by rw [← hg1]; exact decide_eq_false fun h => hbad (.inl h)
  have h2 : g2 = false := by rw [← hg2]; exact decide_eq_false fun h => hbad (.inr h)
  subst h1 h2
  repeat (first | refine JL.q (by first | (apply OQ.lssB (b := 0); exact rfl; exact rfl; exact hg1) | (apply OQ.gtrB (b := 15); exact rfl; exact rfl; exact hg2) | (apply OQ.pick_f; exact rfl; exact rfl) | (apply OQ.move; exact rfl) | (apply OQ.assign; exact rfl)) rfl ?_ | refine JC.seq ?_ | refine JC.region ?_ | refine JL.nil ?_ | refine JE.next ?_ | refine JL.gon rfl rfl ?_)
  refine JC.cond_false rfl rfl ?_
  repeat (first | refine JL.q (by (apply OQ.move; exact rfl)) rfl ?_ | refine JC.seq ?_ | refine JC.region ?_ | refine JC.skip ?_ | refine JE.next ?_)
  refine JL.perm (M' := x.E ++ []) ?_ (by rw [List.append_nil])
  refine JL.bfetch (f := f) (u := u) k hf hu0 hu1 hT rfl rfl rfl rfl fun r => ?_
  cases hn : R.find f u with
  | none =>
    show JL Tryz.prog _ _ _ _ _ _ ((21, .tuple #[.agg (mlC 0 0 nilS).toArray, N 7]) :: _) (x.E ++ [])
    repeat (refine JL.q (by first | (apply OQ.extract; exact rfl; exact rfl) | (apply OQ.move; exact rfl)) rfl ?_)
    refine JL.alloc mlZ rfl fun b9 _ => ?_
    refine JL.store_all (cs := mlC 0 0 nilS) ml3 rfl rfl rfl rfl .here rfl ?_
    repeat (first | refine JL.q (by first | (apply OQ.neB (a := 7) (b := 0) (c := false); exact rfl; exact rfl; exact rfl) | (apply OQ.move; exact rfl) | (apply OQ.assign; exact rfl)) rfl ?_ | refine JC.seq ?_ | refine JC.region ?_ | refine JL.nil ?_ | refine JE.next ?_)
    refine JC.cond_true rfl rfl ?_
    repeat (first | refine JL.q (by first | (apply OQ.move; exact rfl) | (apply OQ.assign; exact rfl)) rfl ?_ | refine JC.seq ?_ | refine JC.region ?_ | refine JL.nil ?_ | refine JE.next ?_)
    refine JC.ret ?_
    repeat (refine JE.then_ret ?_)
    refine JE.ret1 rfl (RV.tmp rfl) fun w' hw => ⟨⟨7, x.z, recs, vs, R, k, rfl, .inr (.inl ⟨hbad, hn, rfl, rfl, rfl, rfl, rfl⟩)⟩, rfl, hw.weak (.drop _ _ _ ?_)⟩
    rw [List.append_nil]
    exact Less.refl _
  | some m =>
    obtain ⟨hmm, hmf, hmu⟩ := find_mem hn
    obtain ⟨s, hs⟩ : ∃ s, tl1 r m.b = s := ⟨_, rfl⟩
    have hsl : s.l = m.b := by rw [← hs]; rfl
    show JL Tryz.prog _ _ _ _ _ _ ((21, .tuple #[.agg (mlC u m.fl (tl1 r m.b)).toArray, N 0]) :: _) (accE 5 (some r) (m.v.map U8) ++ (x.E ++ []))
    rw [hs, List.append_nil]
    repeat (refine JL.q (by first | (apply OQ.extract; exact rfl; exact rfl) | (apply OQ.move; exact rfl)) rfl ?_)
    refine JL.alloc mlZ rfl fun b9 _ => ?_
    refine JL.store_all (cs := mlC u m.fl s) ml3 rfl rfl rfl rfl .here rfl ?_
    repeat (first | refine JL.q (by first | (apply OQ.neB (a := 0) (b := 0) (c := true); exact rfl; exact rfl; exact rfl) | (apply OQ.move; exact rfl) | (apply OQ.assign; exact rfl)) rfl ?_ | refine JC.seq ?_ | refine JC.region ?_ | refine JL.nil ?_ | refine JE.next ?_)
    refine JC.cond_false rfl rfl ?_
    repeat (first | refine JL.q (by first | (apply OQ.move; exact rfl) | (apply OQ.fld; exact rfl; exact rfl; exact rfl; exact (by decide); exact rfl)) rfl ?_ | refine JC.seq ?_ | refine JC.region ?_ | refine JC.skip ?_ | refine JE.next ?_)
    refine JL.store_eq (r := mlC u m.fl s) (r' := mlC u fl s) (M' := ⟨b9, Row 46 (mlC u fl s), true⟩ :: (accE 5 (some r) (m.v.map U8) ++ x.E)) bxIs rfl rfl rfl rfl .here (by show 1 < 3; decide) rfl ?_
    repeat (first | refine JC.seq ?_ | refine JL.nil ?_ | refine JE.next ?_)
    have hsok : ∀ {w' : World} {M' : List Ent}, Holds w S ((accE 5 (some r) (m.v.map U8) ++ []) ++ M') w' → s.ok w' := fun {w' M'} hw' => by
      rw [← hs]
      rw [List.append_nil] at hw'
      exact tl1_ok (c := BitVec.ofNat 8 m.fl) hw'
    have hsl2 : s.l.length ≤ 3000000 := by rw [hsl]; have := hz m hmm; omega
    have hszP : ∀ q, szL (SlP.mk (some ⟨0, 0, none⟩) 1 [mpV f u fl s.l q]).ps ≤ 2500000 := fun q => by
      show szL [markP f u fl s.l] ≤ 2500000
      have h1 := (mKey_ok (k.r.fold m hmm) (k.r.u_lt hmm)).2
      rw [hmf, hmu] at h1
      have h2 := hz m hmm
      unfold szL szP markP
      simp only [List.map_cons, List.map_nil, List.sum_cons, List.sum_nil, List.length_cons, hsl]
      omega
    have hcom : ∀ (q : Nat × Nat) (bl : Nat) (w' : World) {MF : List Ent}, Holds w S (x.z.E ++ (x.own ++ ((⟨bl, Row 67 (mpV f u fl s.l q).cs, true⟩ :: accE 5 (some q) ((BitVec.ofInt 8 fl :: s.l).map U8)) ++ MF))) w' → (SlP.mk (some ⟨bl, 0, none⟩) 1 [mpV f u fl s.l q]).ok w' ∧ AwayP (SlP.mk (some ⟨bl, 0, none⟩) 1 [mpV f u fl s.l q]) (keys x.z.E) := fun q bl w' {MF} hw' => by
      refine ⟨row3_ok (l := [_]) hw' (hasR (N := x.z.E) (.there .here)) ?_, ?_⟩
      · intro p hp
        rw [List.mem_singleton] at hp
        subst hp
        have h := hw'.weak (M' := accE 5 (some q) ((BitVec.ofInt 8 fl :: s.l).map U8) ++ []) (by rw [List.append_nil]; exact less_app _ (.drop _ _ _ (.drop _ _ _ (less_pre _ _))))
        exact acc_ok (q := some q) h
      · refine ⟨fun _ a ea => ?_, fun p hp => ?_⟩
        · cases ea
          exact away_has (b := bl) hw' (.there .here)
        · rw [List.mem_singleton] at hp
          subst hp
          intro _ a ea
          cases ea
          exact away_has (b := q.1) hw' (.there (.there .here))
    let vs2 : Nat → Cy x recs vs [markP f u fl s.l] → Value := fun j y => match j with
      | 0 => Pt x.b 0
      | 1 => Pt x.b 0
      | 2 => Pt x.b 0
      | 3 => Pt x.z.p 0
      | 4 => Z f
      | 5 => .agg (mlC u fl s).toArray
      | 6 => .agg (mpV f u fl s.l y.1).cs.toArray
      | 7 => .slice (some ⟨y.2.1, 0, none⟩) 1 1
      | 8 => N (cyC y)
      | 9 => N (cyC y)
      | _ => N 0
    let Ms : Nat → Cy x recs vs [markP f u fl s.l] → List Ent := fun j y => match j with
      | 6 => accE 5 (some y.1) ((BitVec.ofInt 8 fl :: s.l).map U8)
      | 7 => ⟨y.2.1, Row 67 (mpV f u fl s.l y.1).cs, true⟩ :: accE 5 (some y.1) ((BitVec.ofInt 8 fl :: s.l).map U8)
      | 8 => cyE y
      | 10 => [⟨b9, Row 46 (mlC u fl s), true⟩]
      | 11 => accE 5 (some r) (m.v.map U8)
      | 12 => x.E
      | _ => []
    refine JC.growR (g := ⟨[(0, Pt x.b 0), (1, Z f), (9, Pt b9 0)], 13, vs2, Ms, (fun j => match j with | 1 => [(0, 29)] | 2 => [(1, 30)] | 3 => [(2, 31)] | 6 => [(4, 33), (5, 34)] | 7 => [(6, 35)] | 8 => [(3, 32), (7, 36)] | 9 => [(8, 37)] | _ => []), (fun j => match j with | 3 => [12] | 5 => [10] | 6 => [11] | 7 => [6] | 8 => [12, 7] | _ => []), (fun j => match j with | 7 => [6] | 8 => [12] | _ => []), (fun j => match j with | 8 => some 7 | 9 => some 8 | _ => none), fun _ => [], fun j a b => match j with | 8 => a.2.2.isSome = true | 9 => a = b | _ => True⟩) [(9, 8)] [8] mixT (by repeat (first | exact SubE.nil | refine SubE.cons _ _ _ rfl ?_)) (fun _ _ => .nil) ?_ (by kernel_rfl) (by kernel_rfl) (by kernel_rfl) ?_ ?_
    · show Less ([_] ++ (_ ++ (x.E ++ []))) _; rw [List.append_nil]; exact Less.refl _
    · refine ⟨?_, ?_, ?_, ?_, ?_, ?_, ?_, ?_, ?_, ?_, trivial⟩
      · (intro xx EF MF Q kk; (try refine JL.gon rfl rfl ?_); exact JL.q (OQ.move rfl) rfl (JL.nil (kk default nofun)))
      · (intro xx EF MF Q kk; (try refine JL.gon rfl rfl ?_); exact JL.q (OQ.nilc rfl) rfl (JL.nil (kk default nofun)))
      · (intro xx EF MF Q kk; (try refine JL.gon rfl rfl ?_); exact JL.q (OQ.fld rfl rfl rfl (by decide) rfl) rfl (JL.nil (kk default nofun)))
      · (intro xx EF MF Q kk; (try refine JL.gon rfl rfl ?_); exact JL.q (OQ.load (v := Pt x.z.p 0) bxC rfl (boxIn x) (Row.cell rfl)) rfl (JL.nil (kk default nofun)))
      · (intro xx EF MF Q kk; (try refine JL.gon rfl rfl ?_); exact JL.q (OQ.move rfl) rfl (JL.nil (kk default nofun)))
      · (intro xx EF MF Q kk; (try refine JL.gon rfl rfl ?_); exact JL.q (OQ.load_agg (cs := mlC u fl s) mlAg ml3 rfl .here rfl Row.all) rfl (JL.nil (kk default nofun)))
      · (intro xx EF MF Q kk; exact JL.callg (ι := Nat × Nat) (vs := [Z f, .agg (mlC u fl s).toArray]) (fun q => .agg (mpV f u fl s.l q).cs.toArray) (fun q => accE 5 (some q) ((BitVec.ofInt 8 fl :: s.l).map U8)) goes_mPair rfl rfl (fun q e he => accE_wr _ _ _ e he) (fun w' hw' => mPair_any f u fl s hf hu0 hu1 hsl2 w' (hsok hw') (hT.holds hw')) fun q => JL.nil (kk (q, 0, none) nofun))
      · (intro xx EF MF Q kk; exact JL.litA (cs := (mpV f u fl s.l (xx 6).1).cs) Tryz.underlying70 prI rfl (by decide) (by decide) rfl rfl rfl fun b _ => JL.nil (kk ((xx 6).1, b, none) nofun))
      · (intro xx EF MF Q kk; refine JL.perm (M' := x.z.E ++ (x.own ++ ((⟨(xx 7).2.1, Row 67 (mpV f u fl s.l (xx 7).1).cs, true⟩ :: accE 5 (some (xx 7).1) ((BitVec.ofInt 8 fl :: s.l).map U8)) ++ ([] ++ MF)))) ?_ (List.Perm.of_eq (comPre x _ [] MF)); refine JL.scom (s := ⟨some ⟨(xx 7).2.1, 0, none⟩, 1, [mpV f u fl s.l (xx 7).1]⟩) k.z (hszP _) (fun w' hw' => hcom (xx 7).1 (xx 7).2.1 w' hw') rfl rfl rfl fun st => ?_; refine JL.perm (M' := (Bz.mk x.b st.z').E ++ (((⟨(xx 7).2.1, Row 67 (mpV f u fl s.l (xx 7).1).cs, true⟩ :: accE 5 (some (xx 7).1) ((BitVec.ofInt 8 fl :: s.l).map U8)) ++ ([] ++ [])) ++ MF)) ?_ (List.Perm.of_eq (comPost x st.z' st.st.2.1 _ [] MF).symm); exact JL.nil (kk ((xx 7).1, (xx 7).2.1, some st) (fun k h => by cases h; rfl)))
      · (intro xx EF MF Q kk; (try refine JL.gon rfl rfl ?_); exact JL.q (OQ.assign rfl) rfl (JL.nil (kk (xx 8) (fun k h => by cases h; rfl))))
    · intro xx hx
      have e1 : xx 9 = xx 8 := hx 9 8 (by decide) rfl
      have e2 : (xx 8).2.2.isSome = true := hx 8 7 (by decide) rfl
      show JE _ _ _ _ _ [(8, N (cyC (xx 9))), (0, Pt x.b 0), (1, Z f), (9, Pt b9 0)] (cyE (xx 8) ++ [])
      rw [e1, List.append_nil]
      generalize xx 8 = y at e2 ⊢
      clear hx e1 xx vs2 Ms
      obtain ⟨q, bl, o⟩ := y
      cases o with
      | none => cases e2
      | some st =>
      refine JE.next ?_
      obtain ⟨code, z2, recs2, vs2, sst⟩ := st
      have hfl : fl.toNat < 16 := by omega
      have hbv : Bv (doL vs [markP f u fl s.l]) (R.mark f u fl.toNat) := by
        have e : BitVec.ofInt 8 fl = BitVec.ofNat 8 fl.toNat := by
          obtain ⟨t, rfl⟩ : ∃ t : Nat, fl = (t : Int) := ⟨fl.toNat, by omega⟩
          rfl
        have := mark_bv (fl := fl.toNat) k.r k.v hn
        unfold markP
        rw [e, hsl]
        exact this
      have hokp : okL [markP f u fl s.l] = true := by
        have h1 := mKey_ok (k.r.fold m hmm) (k.r.u_lt hmm)
        rw [hmf, hmu] at h1
        unfold okL okP markP
        simp only [List.all_cons, List.all_nil, Bool.and_true, Bool.false_and, Bool.not_false, Bool.and_eq_true, decide_eq_true_eq]
        omega
      have hbx := Step.box (x := x) sst hokp hbv (mark_ok k.r f u hfl)
      have hsm : [markP f u fl s.l] = [markP f u fl m.b] := by rw [hsl]
      rw [hsm] at sst
      refine JC.ret ?_
      skip
      rcases hbx with ⟨h1, h2, h3⟩ | ⟨h1, h2, h3, h4⟩
      · exact JE.ret1 rfl (RV.tmp rfl) fun w' hw => ⟨⟨code, z2, recs2, vs2, R.mark f u fl.toNat, h3, sst.2.1, .inr (.inr ⟨hbad, m, hn, sst, .inl ⟨h1, rfl⟩⟩)⟩, rfl, hw⟩
      · exact JE.ret1 rfl (RV.tmp rfl) fun w' hw => ⟨⟨code, z2, recs2, vs2, R, by rw [h2, h3, h4]; exact k, sst.2.1, .inr (.inr ⟨hbad, m, hn, sst, .inr ⟨h1, h2, h3, h4, rfl⟩⟩)⟩, rfl, hw⟩
end Go.Proofs.YtjkncnbpaejamaaGreatDoor

/-
  Of no statement by itself: the landed box's Deliver.
  Conditions: each theorem's own.
-/
namespace Go.Proofs.YtjkncnbpaejamaaGreatDoor
set_option maxRecDepth 10000
open Sl Dsk Jrn Sto Bx
theorem less_l17 (A B M : List Ent) : Less A ((A ++ B) ++ M) := by
  rw [List.append_assoc]
  exact less_pre _ _
theorem less_r17 (A B M : List Ent) : Less B ((A ++ B) ++ M) := by
  rw [List.append_assoc]
  exact less_app _ (less_pre _ _)
def delP (R : Rb) (f b : Bk) : List Pq := [⟨mKey f (R.next f : Int), 0#8 :: b, false⟩, ⟨nKey f, nV (R.next f + 1), false⟩]
/-- what a Deliver comes to -/
structure DvTo (x : Bz) (recs : List Bk) (vs : VL) (R : Rb) (n : Nat) (f b : Bk) where
  code : Nat
  uid : Nat
  z' : Sz
  recs' : List Bk
  vs' : VL
  R' : Rb
  n' : Nat
  ok : (Bz.mk x.b z').ok recs' vs' R' n'
  p : z'.p = x.z.p
  out : (okF f = false ∧ code = 1 ∧ uid = 0 ∧ z' = x.z ∧ recs' = recs ∧ vs' = vs ∧ R' = R ∧ n' = n) ∨
    (okF f = true ∧ Step x.z recs vs (delP R f b) code z' recs' vs' ∧ ((code = 0 ∧ uid = R.next f ∧ R' = R.deliver f b ∧ n' = n + 1) ∨ (code = 6 ∧ uid = 0 ∧ z' = x.z ∧ recs' = recs ∧ vs' = vs ∧ R' = R ∧ n' = n)))
abbrev Dy (x : Bz) (recs : List Bk) (vs : VL) (ps : List Pq) := (Nat × Nat) × (Nat × Nat) × Nat × Option (StepTo x.z recs vs ps)
def dyC {x : Bz} {recs : List Bk} {vs : VL} {ps : List Pq} (y : Dy x recs vs ps) : Nat := match y.2.2.2 with
  | none => 0
  | some s => s.code
def dyE {x : Bz} {recs : List Bk} {vs : VL} {ps : List Pq} (y : Dy x recs vs ps) : List Ent := match y.2.2.2 with
  | none => []
  | some s => (Bz.mk x.b s.z').E
theorem OQ.buildMlN {n : Nat} {E : Env} {C : World → Prop} {dst : Option Tmp} {ty : TypeId} {pos : String} {aft : Array Edge} {g : Option (Nat × Bool)} {x z : Operand} {u : Int} {s : Sl8} (hx : ev E x = some (I64 u)) (hz : ev E z = some s.v) : OQ Tryz.prog n E C ⟨dst, .build 46 #[(0, x), (2, z)], ty, pos, aft, g⟩ (.agg (mlC u 0 s).toArray) :=
  OQ.run fun a ha w _ => by
    have h1 := ha.eval hx
    have h3 := ha.eval hz
    have r := run_build (P := Tryz.prog) w 46 #[(0, I64 u), (2, s.v)] (mlC u 0 s).toArray (by kernel_rfl)
    simp [execOp, h1, h3, r]
def npV (f : Bk) (n : Nat) (r : Nat × Nat) : PqS := ⟨nKey f, ⟨some ⟨r.1, 0, none⟩, r.2, nV n⟩, false⟩
theorem goes_bDeliver : Goes Tryz.prog 12 := ⟨_, Tryz.func12, rfl, by kernel_rfl⟩
set_option maxHeartbeats 16000000 in
theorem bDeliver_any (x : Bz) (recs : List Bk) (vs : VL) (R : Rb) (n : Nat) (k : x.ok recs vs R n) (hnn : n + 1 ≤ 1000000) (f : Bk) (s : Sl8) (hf : f.length < 1000000000000000) (hl : s.l.length ≤ 2000000) (w : World) (h0 : Holds w (keys x.E) x.E w) (hT : TabAt (keys x.E) w) (hs : s.ok w) (ha : Away s (keys x.E)) :
    Calls Tryz.prog 12 [Pt x.b 0, Z f, s.v].toArray w fun e w' => ∃ r : DvTo x recs vs R n f s.l, e = .returned (.tuple #[N r.uid, N r.code]) ∧ Holds w (keys x.E) (Bz.mk x.b r.z').E w' := by
  generalize keys x.E = S at h0 hT ha ⊢
  refine enter (n := 42) Tryz.func12 rfl rfl rfl h0 ?_
  have hFo := fun (w' : World) => Folder_any f w' (by omega)
  cases hok : okF f
  · rw [hok] at hFo
    repeat (first | refine JL.q (by first | (apply OQ.callx (vs := [Z f]) (v := .bool false); exact goes_Folder; exact rfl; exact (fun w' _ => hFo w')) | (apply OQ.not; exact rfl) | (apply OQ.move; exact rfl) | (apply OQ.assign; exact rfl)) rfl ?_ | refine JC.seq ?_ | refine JC.region ?_ | refine JL.nil ?_ | refine JE.next ?_)
    refine JC.cond_true rfl rfl ?_
    repeat (first | refine JL.q (by (apply OQ.assign; exact rfl)) rfl ?_ | refine JC.seq ?_ | refine JC.region ?_ | refine JL.nil ?_ | refine JE.next ?_)
    refine JC.ret ?_
    repeat (refine JE.then_ret ?_)
    exact JE.ret2 rfl (RV.tmp rfl) (RV.tmp rfl) fun w' hw => ⟨⟨1, 0, x.z, recs, vs, R, n, k, rfl, .inl ⟨hok, rfl, rfl, rfl, rfl, rfl, rfl, rfl⟩⟩, rfl, hw⟩
  rw [hok] at hFo
  repeat (first | refine JL.q (by first | (apply OQ.callx (vs := [Z f]) (v := .bool true); exact goes_Folder; exact rfl; exact (fun w' _ => hFo w')) | (apply OQ.not; exact rfl) | (apply OQ.move; exact rfl) | (apply OQ.assign; exact rfl)) rfl ?_ | refine JC.seq ?_ | refine JC.region ?_ | refine JL.nil ?_ | refine JE.next ?_)
  refine JC.cond_false rfl rfl ?_
  repeat (first | refine JL.q (by (apply OQ.move; exact rfl)) rfl ?_ | refine JC.seq ?_ | refine JC.region ?_ | refine JC.skip ?_ | refine JE.next ?_)
  refine JL.perm (M' := x.E ++ []) ?_ (by rw [List.append_nil])
  refine JL.bnext (f := f) k hf rfl rfl rfl ?_
  rw [List.append_nil]
  have hnx := R.next_le k.r f
  have hdo := deliver_ok k.r hnn hok s.l
  have hdb := deliver_bv k.r k.v f s.l
  have hfl := okF_len hok
  have hkl := (mKey_ok hok (u := R.next f) (by have := k.r.le; omega))
  have hpd : [⟨mKey f (R.next f : Int), 0#8 :: s.l, false⟩, ⟨nKey f, nV (R.next f + 1), false⟩] = delP R f s.l := rfl
  have hmk : ∀ {c : Nat} {z' recs' vs'}, Step x.z recs vs (delP R f s.l) c z' recs' vs' → c = 0 → vs' = doL vs (delP R f s.l) → (Bz.mk x.b z').ok recs' vs' (R.deliver f s.l) (n + 1) → DvTo x recs vs R n f s.l := fun {c z' recs' vs'} st h1 _ h3 => ⟨c, R.next f, z', recs', vs', R.deliver f s.l, n + 1, h3, st.2.1, .inr ⟨hok, st, .inl ⟨h1, rfl, rfl, rfl⟩⟩⟩
  rw [hpd] at hdb
  have hdP : delP R f s.l = [⟨mKey f (R.next f : Int), 0#8 :: s.l, false⟩, ⟨nKey f, nV (R.next f + 1), false⟩] := rfl
  obtain ⟨nx, hnxe⟩ : ∃ nx, R.next f = nx := ⟨_, rfl⟩
  rw [hnxe] at hnx hkl hdP ⊢
  have hle := k.r.le
  have g1 : decide ((2097152 : Int) < (s.l.length : Int)) = false := decide_eq_false (by omega)
  have g2 : decide ((4294967295 : Int) < (nx : Int)) = false := decide_eq_false (by omega)
  repeat (first | refine JL.q (by first | (apply OQ.len (k := s.l.length) (ad := s.ad) (cap := s.cap); exact Tryz.underlying24; exact rfl) | (apply OQ.gtrB (b := 2097152); exact rfl; exact rfl; exact g1) | (apply OQ.gtrB (b := 4294967295); exact rfl; exact rfl; exact g2) | (apply OQ.pick_f; exact rfl; exact rfl) | (apply OQ.move; exact rfl) | (apply OQ.assign; exact rfl)) rfl ?_ | refine JC.seq ?_ | refine JC.region ?_ | refine JL.nil ?_ | refine JE.next ?_ | refine JL.gon rfl rfl ?_)
  refine JC.cond_false rfl rfl ?_
  repeat (first | refine JC.seq ?_ | refine JC.skip ?_ | refine JE.next ?_)
  have hszP : ∀ q t, szL (SlP.mk (some ⟨0, 0, none⟩) 2 [mpV f nx 0 s.l q, npV f (nx + 1) t]).ps ≤ 2500000 := fun q t => by
    show szL [⟨mKey f (nx : Int), 0#8 :: s.l, false⟩, ⟨nKey f, nV (nx + 1), false⟩] ≤ 2500000
    have h3 : (nV (nx + 1)).length = 8 := be64_len _ _
    have h4 : (nKey f).length = f.length + 2 := by unfold nKey; simp
    unfold szL szP
    simp only [List.map_cons, List.map_nil, List.sum_cons, List.sum_nil, List.length_cons, h3, h4]
    omega
  have hcom : ∀ (q t : Nat × Nat) (bl : Nat) (w' : World) {MF : List Ent}, Holds w S (x.z.E ++ (x.own ++ ((⟨bl, Row 67 ((mpV f nx 0 s.l q).cs ++ (npV f (nx + 1) t).cs), true⟩ :: (accE 5 (some q) ((BitVec.ofInt 8 0 :: s.l).map U8) ++ accE 5 (some t) ((nV (nx + 1)).map U8))) ++ MF))) w' → (SlP.mk (some ⟨bl, 0, none⟩) 2 [mpV f nx 0 s.l q, npV f (nx + 1) t]).ok w' ∧ AwayP (SlP.mk (some ⟨bl, 0, none⟩) 2 [mpV f nx 0 s.l q, npV f (nx + 1) t]) (keys x.z.E) := fun q t bl w' {MF} hw' => by
    refine ⟨row3_ok (l := [_, _]) hw' (hasR (N := x.z.E) (.there .here)) ?_, ?_⟩
    · intro p hp
      simp only [List.mem_cons, List.not_mem_nil, or_false] at hp
      rcases hp with rfl | rfl
      · have h := hw'.weak (M' := accE 5 (some q) ((BitVec.ofInt 8 0 :: s.l).map U8) ++ []) (by rw [List.append_nil]; exact less_app _ (.drop _ _ _ (.drop _ _ _ (less_l17 _ _ _))))
        exact acc_ok (q := some q) h
      · have h := hw'.weak (M' := accE 5 (some t) ((nV (nx + 1)).map U8) ++ []) (by rw [List.append_nil]; exact less_app _ (.drop _ _ _ (.drop _ _ _ (less_r17 _ _ _))))
        exact acc_ok (q := some t) h
    · refine ⟨fun _ a ea => ?_, fun p hp => ?_⟩
      · cases ea
        exact away_has (b := bl) hw' (.there .here)
      · simp only [List.mem_cons, List.not_mem_nil, or_false] at hp
        rcases hp with rfl | rfl
        · intro _ a ea
          cases ea
          exact away_has (b := q.1) hw' (.there (.there .here))
        · intro _ a ea
          cases ea
          exact away_has (b := t.1) hw' (.there (.there (.there .here)))
  let vs2 : Nat → Dy x recs vs [⟨mKey f (nx : Int), 0#8 :: s.l, false⟩, ⟨nKey f, nV (nx + 1), false⟩] → Value := fun j y => match j with
    | 0 => Pt x.b 0
    | 1 => Pt x.b 0
    | 2 => Pt x.b 0
    | 3 => Pt x.z.p 0
    | 4 => Z f
    | 5 => N nx
    | 6 => s.v
    | 7 => .agg (mlC nx 0 s).toArray
    | 8 => .agg (mpV f nx 0 s.l y.1).cs.toArray
    | 9 => Z f
    | 10 => N nx
    | 11 => N (nx + 1)
    | 12 => .agg (npV f (nx + 1) y.2.1).cs.toArray
    | 13 => .slice (some ⟨y.2.2.1, 0, none⟩) 2 2
    | 14 => N (dyC y)
    | 15 => N (dyC y)
    | _ => N 0
  let Ms : Nat → Dy x recs vs [⟨mKey f (nx : Int), 0#8 :: s.l, false⟩, ⟨nKey f, nV (nx + 1), false⟩] → List Ent := fun j y => match j with
    | 8 => accE 5 (some y.1) ((BitVec.ofInt 8 0 :: s.l).map U8)
    | 12 => accE 5 (some y.2.1) ((nV (nx + 1)).map U8)
    | 13 => ⟨y.2.2.1, Row 67 ((mpV f nx 0 s.l y.1).cs ++ (npV f (nx + 1) y.2.1).cs), true⟩ :: (accE 5 (some y.1) ((BitVec.ofInt 8 0 :: s.l).map U8) ++ accE 5 (some y.2.1) ((nV (nx + 1)).map U8))
    | 14 => dyE y
    | 16 => x.E
    | _ => []
  refine JC.growR (g := ⟨[(0, Pt x.b 0), (1, Z f), (2, s.v), (8, N nx)], 17, vs2, Ms, (fun j => match j with | 1 => [(0, 23)] | 2 => [(1, 24)] | 3 => [(2, 25)] | 7 => [(5, 28), (6, 29)] | 8 => [(4, 27), (7, 30)] | 11 => [(10, 33)] | 12 => [(9, 32), (11, 34)] | 13 => [(8, 31), (12, 35)] | 14 => [(3, 26), (13, 36)] | 15 => [(14, 37)] | _ => []), (fun j => match j with | 3 => [16] | 13 => [8, 12] | 14 => [16, 13] | _ => []), (fun j => match j with | 13 => [8, 12] | 14 => [16] | _ => []), (fun j => match j with | 14 => some 13 | 15 => some 14 | _ => none), fun _ => [], fun j a b => match j with | 14 => a.2.2.2.isSome = true | 15 => a = b | _ => True⟩) [(15, 9)] [14] mixT (by repeat (first | exact SubE.nil | refine SubE.cons _ _ _ rfl ?_)) (fun _ _ => .nil) ?_ (by kernel_rfl) (by kernel_rfl) (by kernel_rfl) ?_ ?_
  · show Less (x.E ++ []) _; rw [List.append_nil]; exact Less.refl _
  · refine ⟨?_, ?_, ?_, ?_, ?_, ?_, ?_, ?_, ?_, ?_, ?_, ?_, ?_, ?_, ?_, ?_, trivial⟩
    · (intro xx EF MF Q kk; (try refine JL.gon rfl rfl ?_); exact JL.q (OQ.move rfl) rfl (JL.nil (kk default nofun)))
    · (intro xx EF MF Q kk; (try refine JL.gon rfl rfl ?_); exact JL.q (OQ.nilc rfl) rfl (JL.nil (kk default nofun)))
    · (intro xx EF MF Q kk; (try refine JL.gon rfl rfl ?_); exact JL.q (OQ.fld rfl rfl rfl (by decide) rfl) rfl (JL.nil (kk default nofun)))
    · (intro xx EF MF Q kk; (try refine JL.gon rfl rfl ?_); exact JL.q (OQ.load (v := Pt x.z.p 0) bxC rfl (boxIn x) (Row.cell rfl)) rfl (JL.nil (kk default nofun)))
    · (intro xx EF MF Q kk; (try refine JL.gon rfl rfl ?_); exact JL.q (OQ.move rfl) rfl (JL.nil (kk default nofun)))
    · (intro xx EF MF Q kk; (try refine JL.gon rfl rfl ?_); exact JL.q (OQ.move rfl) rfl (JL.nil (kk default nofun)))
    · (intro xx EF MF Q kk; (try refine JL.gon rfl rfl ?_); exact JL.q (OQ.move rfl) rfl (JL.nil (kk default nofun)))
    · (intro xx EF MF Q kk; (try refine JL.gon rfl rfl ?_); exact JL.q (OQ.buildMlN (u := nx) (s := s) rfl rfl) rfl (JL.nil (kk default nofun)))
    · (intro xx EF MF Q kk; exact JL.callg (ι := Nat × Nat) (vs := [Z f, .agg (mlC nx 0 s).toArray]) (fun q => .agg (mpV f nx 0 s.l q).cs.toArray) (fun q => accE 5 (some q) ((BitVec.ofInt 8 0 :: s.l).map U8)) goes_mPair rfl rfl (fun q e he => accE_wr _ _ _ e he) (fun w' hw' => mPair_any f nx 0 s hf (by omega) (by omega) (by omega) w' (hs.away hw' ha) (hT.holds hw')) fun q => JL.nil (kk (q, (0, 0), 0, none) nofun))
    · (intro xx EF MF Q kk; (try refine JL.gon rfl rfl ?_); exact JL.q (OQ.move rfl) rfl (JL.nil (kk default nofun)))
    · (intro xx EF MF Q kk; (try refine JL.gon rfl rfl ?_); exact JL.q (OQ.move rfl) rfl (JL.nil (kk default nofun)))
    · (intro xx EF MF Q kk; (try refine JL.gon rfl rfl ?_); exact JL.q (OQ.addN (a := nx) (b := 1) rfl rfl (by omega)) rfl (JL.nil (kk default nofun)))
    · (intro xx EF MF Q kk; exact JL.callg (ι := Nat × Nat) (vs := [Z f, N (nx + 1)]) (fun q => .agg (npV f (nx + 1) q).cs.toArray) (fun q => accE 5 (some q) ((nV (nx + 1)).map U8)) goes_nPair rfl rfl (fun q e he => accE_wr _ _ _ e he) (fun w' hw' => nPair_any f (nx + 1) hf w') fun q => JL.nil (kk ((0, 0), q, 0, none) nofun))
    · (intro xx EF MF Q kk; exact JL.litA2 (cs := (mpV f nx 0 s.l (xx 8).1).cs) (ds := (npV f (nx + 1) (xx 12).2.1).cs) Tryz.underlying70 prI rfl (by decide) (by decide) rfl rfl rfl rfl rfl fun b _ => JL.nil (kk ((xx 8).1, (xx 12).2.1, b, none) nofun))
    · (intro xx EF MF Q kk; refine JL.perm (M' := x.z.E ++ (x.own ++ ((⟨(xx 13).2.2.1, Row 67 ((mpV f nx 0 s.l (xx 13).1).cs ++ (npV f (nx + 1) (xx 13).2.1).cs), true⟩ :: (accE 5 (some (xx 13).1) ((BitVec.ofInt 8 0 :: s.l).map U8) ++ accE 5 (some (xx 13).2.1) ((nV (nx + 1)).map U8))) ++ ([] ++ MF)))) ?_ (List.Perm.of_eq (comPre x _ [] MF)); refine JL.scom (s := SlP.mk (some ⟨(xx 13).2.2.1, 0, none⟩) 2 [mpV f nx 0 s.l (xx 13).1, npV f (nx + 1) (xx 13).2.1]) k.z (hszP _ _) (fun w' hw' => hcom (xx 13).1 (xx 13).2.1 (xx 13).2.2.1 w' hw') rfl rfl rfl fun st => ?_; refine JL.perm (M' := (Bz.mk x.b st.z').E ++ (((⟨(xx 13).2.2.1, Row 67 ((mpV f nx 0 s.l (xx 13).1).cs ++ (npV f (nx + 1) (xx 13).2.1).cs), true⟩ :: (accE 5 (some (xx 13).1) ((BitVec.ofInt 8 0 :: s.l).map U8) ++ accE 5 (some (xx 13).2.1) ((nV (nx + 1)).map U8))) ++ ([] ++ [])) ++ MF)) ?_ (List.Perm.of_eq (comPost x st.z' st.st.2.1 _ [] MF).symm); exact JL.nil (kk ((xx 13).1, (xx 13).2.1, (xx 13).2.2.1, some st) (fun k h => by cases h; rfl)))
    · (intro xx EF MF Q kk; (try refine JL.gon rfl rfl ?_); exact JL.q (OQ.assign rfl) rfl (JL.nil (kk (xx 14) (fun k h => by cases h; rfl))))
  · intro xx hx
    have e1 : xx 15 = xx 14 := hx 15 14 (by decide) rfl
    have e2 : (xx 14).2.2.2.isSome = true := hx 14 13 (by decide) rfl
    show JE _ _ _ _ _ [(9, N (dyC (xx 15))), (0, Pt x.b 0), (1, Z f), (2, s.v), (8, N nx)] (dyE (xx 14) ++ [])
    rw [e1, List.append_nil]
    generalize xx 14 = y at e2 ⊢
    clear hx e1 xx vs2 Ms
    obtain ⟨q, t, bl, o⟩ := y
    cases o with
    | none => cases e2
    | some st =>
    refine JE.next ?_
    obtain ⟨code, z2, recs2, vs2, sst⟩ := st
    have sst : Step x.z recs vs (delP R f s.l) code z2 recs2 vs2 := by rw [hdP]; exact sst
    have hokp : okL (delP R f s.l) = true := by
      have h4 : (nKey f).length = f.length + 2 := by unfold nKey; simp
      rw [hdP]
      unfold okL okP
      simp only [List.all_cons, List.all_nil, Bool.and_true, Bool.false_and, Bool.not_false, Bool.and_eq_true, decide_eq_true_eq, h4]
      omega
    have hbx := Step.box (x := x) sst hokp hdb hdo
    show JC _ _ _ _ _ _ [(9, N code), (0, Pt x.b 0), (1, Z f), (2, s.v), (8, N nx)] (Bz.mk x.b z2).E
    rcases hbx with ⟨h1, h2, h3⟩ | ⟨h1, h2, h3, h4⟩
    · subst h1
      repeat (first | refine JL.q (by first | (apply OQ.neB (a := 0) (b := 0) (c := true); exact rfl; exact rfl; exact rfl) | (apply OQ.move; exact rfl)) rfl ?_ | refine JC.seq ?_ | refine JC.region ?_ | refine JL.nil ?_ | refine JE.next ?_)
      refine JC.cond_false rfl rfl ?_
      repeat (first | refine JL.q (by first | (apply OQ.move; exact rfl) | (apply OQ.assign; exact rfl)) rfl ?_ | refine JC.seq ?_ | refine JC.region ?_ | refine JC.skip ?_ | refine JL.nil ?_ | refine JE.next ?_)
      exact JC.ret (JE.ret2 rfl (RV.tmp rfl) (RV.tmp rfl) fun w' hw => ⟨⟨0, nx, z2, recs2, vs2, R.deliver f s.l, n + 1, h3, sst.2.1, .inr ⟨hok, sst, .inl ⟨rfl, hnxe.symm, rfl, rfl⟩⟩⟩, rfl, hw⟩)
    · subst h1
      repeat (first | refine JL.q (by first | (apply OQ.neB (a := 6) (b := 0) (c := false); exact rfl; exact rfl; exact rfl) | (apply OQ.move; exact rfl)) rfl ?_ | refine JC.seq ?_ | refine JC.region ?_ | refine JL.nil ?_ | refine JE.next ?_)
      refine JC.cond_true rfl rfl ?_
      repeat (first | refine JL.q (by first | (apply OQ.move; exact rfl) | (apply OQ.assign; exact rfl)) rfl ?_ | refine JC.seq ?_ | refine JC.region ?_ | refine JL.nil ?_ | refine JE.next ?_)
      refine JC.ret ?_
      repeat (refine JE.then_ret ?_)
      exact JE.ret2 rfl (RV.tmp rfl) (RV.tmp rfl) fun w' hw => ⟨⟨6, 0, z2, recs2, vs2, R, n, by rw [h2, h3, h4]; exact k, sst.2.1, .inr ⟨hok, sst, .inr ⟨rfl, rfl, h2, h3, h4, rfl, rfl⟩⟩⟩, rfl, hw⟩
end Go.Proofs.YtjkncnbpaejamaaGreatDoor
