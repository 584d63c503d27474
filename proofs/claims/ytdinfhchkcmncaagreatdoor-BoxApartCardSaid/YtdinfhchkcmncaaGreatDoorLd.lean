/-
  Of no statement by itself: the texts BoxL, BoxP, BoxQ, Shpx, StoD, StoE, StoF, StoG, StoH, StoI, Slja, Slj3, StoJ, BoxA, BoxB, BoxC, BoxD, BoxE, StoK, BoxF, BoxG in one.
  Conditions: each theorem's own.
-/
import Derived.Test.YtdinfhchkcmncaaGreatDoorLc
import Derived.Shelf.Strconv.Itoa3
import Derived.Shelf.Strconv.AtoiAll
import Derived.Shelf.Strings.Repeat
import Derived.Lib.ItoaNum
import Derived.Lib.AtoiAll
import Derived.WideLaws
set_option linter.unusedSimpArgs false
set_option linter.unusedVariables false
namespace Go.Proofs.YtdinfhchkcmncaaGreatDoor
section
set_option maxRecDepth 10000
open Sl Go.Shelf
def wv : Ren:=⟨fun | 171=>43 | 243=>60 | 246=>82 | 283=>98 | 284=>99 | 285=>100 | 286=>101 | 129=>116 | 317=>120 | 318=>121 | 319=>122 | 320=>123 | 337=>131 | 338=>132 | n=>n,
  fun | 3=>3 | 9=>9 | 2=>2 | 4=>4 | 171=>181 | 0=>0 | 53=>82 | 37=>24 | 5=>5 | 173=>184 | 212=>207 | 51=>117 | 20=>20 | 213=>208 | 46=>109 | 232=>220 | 233=>137 | n=>n,
  fun | 17=>2 | 18=>4 | 19=>5 | n=>n⟩
theorem Bl : LaysM.n171 Tryz.prog wv:={
  mixed:=by kernel_rfl
  f129:=Tryz.func116.trans (congrArg some (by kernel_rfl))
  f171:=Tryz.func43.trans (congrArg some (by kernel_rfl))
  f243:=Tryz.func60.trans (congrArg some (by kernel_rfl))
  f246:=Tryz.func82.trans (congrArg some (by kernel_rfl))
  f283:=Tryz.func98.trans (congrArg some (by kernel_rfl))
  f284:=Tryz.func99.trans (congrArg some (by kernel_rfl))
  f285:=Tryz.func100.trans (congrArg some (by kernel_rfl))
  f286:=Tryz.func101.trans (congrArg some (by kernel_rfl))
  f317:=Tryz.func120.trans (congrArg some (by kernel_rfl))
  f318:=Tryz.func121.trans (congrArg some (by kernel_rfl))
  f319:=Tryz.func122.trans (congrArg some (by kernel_rfl))
  f320:=Tryz.func123.trans (congrArg some (by kernel_rfl))
  f337:=Tryz.func131.trans (congrArg some (by kernel_rfl))
  f338:=Tryz.func132.trans (congrArg some (by kernel_rfl))
  t0:=Tryz.underlying0
  a0:=Tryz.isAgg0
  z0:=Tryz.sizeOf0
  v0:=Tryz.zeroValue0
  t2:=Tryz.underlying2
  a2:=Tryz.isAgg2
  z2:=Tryz.sizeOf2
  v2:=Tryz.zeroValue2
  t3:=Tryz.underlying3
  a3:=Tryz.isAgg3
  z3:=Tryz.sizeOf3
  v3:=Tryz.zeroValue3
  t4:=Tryz.underlying4
  a4:=Tryz.isAgg4
  z4:=Tryz.sizeOf4
  v4:=Tryz.zeroValue4
  t5:=Tryz.underlying5
  a5:=Tryz.isAgg5
  z5:=Tryz.sizeOf5
  v5:=Tryz.zeroValue5
  t9:=Tryz.underlying9
  a9:=Tryz.isAgg9
  z9:=Tryz.sizeOf9
  v9:=Tryz.zeroValue9
  t20:=Tryz.underlying20
  a20:=Tryz.isAgg20
  z20:=Tryz.sizeOf20
  v20:=Tryz.zeroValue20
  t37:=Tryz.underlying24
  a37:=Tryz.isAgg24
  z37:=Tryz.sizeOf24
  v37:=Tryz.zeroValue24
  t46:=Tryz.underlying109
  a46:=Tryz.isAgg109
  z46:=Tryz.sizeOf109
  v46:=Tryz.zeroValue109
  t51:=Tryz.underlying117
  a51:=Tryz.isAgg117
  z51:=Tryz.sizeOf117
  v51:=Tryz.zeroValue117
  t53:=Tryz.underlying82
  a53:=Tryz.isAgg82
  z53:=Tryz.sizeOf82
  v53:=Tryz.zeroValue82
  t171:=Tryz.underlying181
  a171:=Tryz.isAgg181
  z171:=Tryz.sizeOf181
  v171:=Tryz.zeroValue181
  t173:=Tryz.underlying184
  a173:=Tryz.isAgg184
  z173:=Tryz.sizeOf184
  v173:=Tryz.zeroValue184
  t212:=Tryz.underlying207
  a212:=Tryz.isAgg207
  z212:=Tryz.sizeOf207
  v212:=Tryz.zeroValue207
  t213:=Tryz.underlying208
  a213:=Tryz.isAgg208
  z213:=Tryz.sizeOf208
  t232:=Tryz.underlying220
  a232:=Tryz.isAgg220
  z232:=Tryz.sizeOf220
  v232:=Tryz.zeroValue220
  t233:=Tryz.underlying137
  a233:=Tryz.isAgg137
  z233:=Tryz.sizeOf137
  v233:=Tryz.zeroValue137
  g17:=by kernel_rfl
  g18:=by kernel_rfl
  g19:=by kernel_rfl
  i0:=by kernel_rfl
  i2:=by kernel_rfl
  i3:=by kernel_rfl
  i4:=by kernel_rfl
  i5:=by kernel_rfl
  i9:=by kernel_rfl
  i20:=by kernel_rfl
  i37:=by kernel_rfl
  i46:=by kernel_rfl
  i51:=by kernel_rfl
  i53:=by kernel_rfl
  i173:=by kernel_rfl
  m17:=by kernel_rfl
  m18:=by kernel_rfl
  m19:=by kernel_rfl
  i171:=by kernel_rfl
  i212:=by kernel_rfl
  i232:=by kernel_rfl
  i233:=by kernel_rfl }
def wz : Ren:=⟨fun | 172=>34 | 244=>50 | 245=>51 | 247=>71 | 279=>72 | 280=>73 | 281=>74 | 282=>75 | 287=>92 | 316=>93 | 171=>43 | 205=>94 | 321=>117 | 322=>118 | 243=>60 | 246=>82 | 283=>98 | 284=>99 | 285=>100 | 286=>101 | 129=>116 | 317=>120 | 318=>121 | 319=>122 | 320=>123 | 337=>131 | 338=>132 | n=>n,
  fun | 9=>9 | 3=>3 | 75=>79 | 76=>80 | 4=>4 | 5=>5 | 167=>141 | 37=>24 | 0=>0 | 85=>142 | 2=>2 | 168=>144 | 53=>82 | 175=>166 | 46=>109 | 210=>170 | 127=>161 | 145=>204 | 143=>202 | 21=>21 | 171=>181 | 173=>184 | 212=>207 | 51=>117 | 20=>20 | 213=>208 | 232=>220 | 233=>137 | 80=>133 | n=>n,
  fun | 15=>0 | 16=>1 | 17=>2 | 18=>4 | 19=>5 | n=>n⟩
theorem Bm : LaysC.n172 Tryz.prog wz:={
  mixed:=by kernel_rfl
  f129:=Tryz.func116.trans (congrArg some (by kernel_rfl))
  f171:=Tryz.func43.trans (congrArg some (by kernel_rfl))
  f172:=Tryz.func34.trans (congrArg some (by kernel_rfl))
  f205:=Tryz.func94.trans (congrArg some (by kernel_rfl))
  f243:=Tryz.func60.trans (congrArg some (by kernel_rfl))
  f244:=Tryz.func50.trans (congrArg some (by kernel_rfl))
  f245:=Tryz.func51.trans (congrArg some (by kernel_rfl))
  f246:=Tryz.func82.trans (congrArg some (by kernel_rfl))
  f247:=Tryz.func71.trans (congrArg some (by kernel_rfl))
  f279:=Tryz.func72.trans (congrArg some (by kernel_rfl))
  f280:=Tryz.func73.trans (congrArg some (by kernel_rfl))
  f281:=Tryz.func74.trans (congrArg some (by kernel_rfl))
  f282:=Tryz.func75.trans (congrArg some (by kernel_rfl))
  f283:=Tryz.func98.trans (congrArg some (by kernel_rfl))
  f284:=Tryz.func99.trans (congrArg some (by kernel_rfl))
  f285:=Tryz.func100.trans (congrArg some (by kernel_rfl))
  f286:=Tryz.func101.trans (congrArg some (by kernel_rfl))
  f287:=Tryz.func92.trans (congrArg some (by kernel_rfl))
  f316:=Tryz.func93.trans (congrArg some (by kernel_rfl))
  f317:=Tryz.func120.trans (congrArg some (by kernel_rfl))
  f318:=Tryz.func121.trans (congrArg some (by kernel_rfl))
  f319:=Tryz.func122.trans (congrArg some (by kernel_rfl))
  f320:=Tryz.func123.trans (congrArg some (by kernel_rfl))
  f321:=Tryz.func117.trans (congrArg some (by kernel_rfl))
  f322:=Tryz.func118.trans (congrArg some (by kernel_rfl))
  f337:=Tryz.func131.trans (congrArg some (by kernel_rfl))
  f338:=Tryz.func132.trans (congrArg some (by kernel_rfl))
  t0:=Tryz.underlying0
  a0:=Tryz.isAgg0
  z0:=Tryz.sizeOf0
  v0:=Tryz.zeroValue0
  t2:=Tryz.underlying2
  a2:=Tryz.isAgg2
  z2:=Tryz.sizeOf2
  v2:=Tryz.zeroValue2
  t3:=Tryz.underlying3
  a3:=Tryz.isAgg3
  z3:=Tryz.sizeOf3
  v3:=Tryz.zeroValue3
  t4:=Tryz.underlying4
  a4:=Tryz.isAgg4
  z4:=Tryz.sizeOf4
  v4:=Tryz.zeroValue4
  t5:=Tryz.underlying5
  a5:=Tryz.isAgg5
  z5:=Tryz.sizeOf5
  v5:=Tryz.zeroValue5
  t9:=Tryz.underlying9
  a9:=Tryz.isAgg9
  z9:=Tryz.sizeOf9
  v9:=Tryz.zeroValue9
  t20:=Tryz.underlying20
  a20:=Tryz.isAgg20
  z20:=Tryz.sizeOf20
  v20:=Tryz.zeroValue20
  t21:=Tryz.underlying21
  a21:=Tryz.isAgg21
  z21:=Tryz.sizeOf21
  v21:=Tryz.zeroValue21
  t37:=Tryz.underlying24
  a37:=Tryz.isAgg24
  z37:=Tryz.sizeOf24
  v37:=Tryz.zeroValue24
  t46:=Tryz.underlying109
  a46:=Tryz.isAgg109
  z46:=Tryz.sizeOf109
  v46:=Tryz.zeroValue109
  t51:=Tryz.underlying117
  a51:=Tryz.isAgg117
  z51:=Tryz.sizeOf117
  v51:=Tryz.zeroValue117
  t53:=Tryz.underlying82
  a53:=Tryz.isAgg82
  z53:=Tryz.sizeOf82
  v53:=Tryz.zeroValue82
  t75:=Tryz.underlying79
  a75:=Tryz.isAgg79
  z75:=Tryz.sizeOf79
  v75:=Tryz.zeroValue79
  t76:=Tryz.underlying80
  a76:=Tryz.isAgg80
  z76:=Tryz.sizeOf80
  v76:=Tryz.zeroValue80
  t85:=Tryz.underlying142
  a85:=Tryz.isAgg142
  z85:=Tryz.sizeOf142
  v85:=Tryz.zeroValue142
  t127:=Tryz.underlying161
  a127:=Tryz.isAgg161
  z127:=Tryz.sizeOf161
  v127:=Tryz.zeroValue161
  t143:=Tryz.underlying202
  a143:=Tryz.isAgg202
  z143:=Tryz.sizeOf202
  v143:=Tryz.zeroValue202
  t145:=Tryz.underlying204
  a145:=Tryz.isAgg204
  z145:=Tryz.sizeOf204
  v145:=Tryz.zeroValue204
  t167:=Tryz.underlying141
  a167:=Tryz.isAgg141
  z167:=Tryz.sizeOf141
  v167:=Tryz.zeroValue141
  t168:=Tryz.underlying144
  a168:=Tryz.isAgg144
  z168:=Tryz.sizeOf144
  v168:=Tryz.zeroValue144
  t171:=Tryz.underlying181
  a171:=Tryz.isAgg181
  z171:=Tryz.sizeOf181
  v171:=Tryz.zeroValue181
  t173:=Tryz.underlying184
  a173:=Tryz.isAgg184
  z173:=Tryz.sizeOf184
  v173:=Tryz.zeroValue184
  t175:=Tryz.underlying166
  a175:=Tryz.isAgg166
  z175:=Tryz.sizeOf166
  v175:=Tryz.zeroValue166
  t210:=Tryz.underlying170
  a210:=Tryz.isAgg170
  z210:=Tryz.sizeOf170
  v210:=Tryz.zeroValue170
  t212:=Tryz.underlying207
  a212:=Tryz.isAgg207
  z212:=Tryz.sizeOf207
  v212:=Tryz.zeroValue207
  t213:=Tryz.underlying208
  a213:=Tryz.isAgg208
  z213:=Tryz.sizeOf208
  t232:=Tryz.underlying220
  a232:=Tryz.isAgg220
  z232:=Tryz.sizeOf220
  v232:=Tryz.zeroValue220
  t233:=Tryz.underlying137
  a233:=Tryz.isAgg137
  z233:=Tryz.sizeOf137
  v233:=Tryz.zeroValue137
  g15:=by kernel_rfl
  g16:=by kernel_rfl
  g17:=by kernel_rfl
  g18:=by kernel_rfl
  g19:=by kernel_rfl
  t80:=Tryz.underlying133
  a80:=Tryz.isAgg133
  z80:=Tryz.sizeOf133
  v80:=Tryz.zeroValue133
  i0:=by kernel_rfl
  i2:=by kernel_rfl
  i3:=by kernel_rfl
  i4:=by kernel_rfl
  i5:=by kernel_rfl
  i9:=by kernel_rfl
  i20:=by kernel_rfl
  i21:=by kernel_rfl
  i37:=by kernel_rfl
  i46:=by kernel_rfl
  i51:=by kernel_rfl
  i53:=by kernel_rfl
  i75:=by kernel_rfl
  i76:=by kernel_rfl
  i80:=by kernel_rfl
  i85:=by kernel_rfl
  i127:=by kernel_rfl
  i143:=by kernel_rfl
  i145:=by kernel_rfl
  i167:=by kernel_rfl
  i168:=by kernel_rfl
  i173:=by kernel_rfl
  i175:=by kernel_rfl
  m15:=by kernel_rfl
  m16:=by kernel_rfl
  m17:=by kernel_rfl
  m18:=by kernel_rfl
  m19:=by kernel_rfl
  c0:=by kernel_rfl
  c2:=by kernel_rfl
  c3:=by kernel_rfl
  c4:=by kernel_rfl
  c5:=by kernel_rfl
  c9:=by kernel_rfl
  c20:=by kernel_rfl
  c21:=by kernel_rfl
  c37:=by kernel_rfl
  c46:=by kernel_rfl
  c51:=by kernel_rfl
  c53:=by kernel_rfl
  c75:=by kernel_rfl
  c76:=by kernel_rfl
  c80:=by kernel_rfl
  c85:=by kernel_rfl
  c127:=by kernel_rfl
  c143:=by kernel_rfl
  c145:=by kernel_rfl
  c167:=by kernel_rfl
  c168:=by kernel_rfl
  c171:=by kernel_rfl
  c173:=by kernel_rfl
  c175:=by kernel_rfl
  c210:=by kernel_rfl
  c212:=by kernel_rfl
  c213:=by kernel_rfl
  c232:=by kernel_rfl
  c233:=by kernel_rfl
  i171:=by kernel_rfl
  i210:=by kernel_rfl
  i212:=by kernel_rfl
  i232:=by kernel_rfl
  i233:=by kernel_rfl }
def pR : Ren:=⟨fun | 105=>44 | 212=>61 | 99=>62 | 165=>63 | 166=>64 | 170=>65 | 169=>66 | 263=>83 | 264=>84 | 206=>85 | 240=>86 | 241=>87 | 276=>102 | 277=>103 | n=>n,
  fun | 9=>9 | 3=>3 | 4=>4 | 20=>20 | 0=>0 | 46=>109 | 109=>125 | 5=>5 | 72=>130 | 76=>80 | 51=>117 | 146=>157 | 53=>82 | 148=>159 | 70=>128 | 37=>24 | 75=>79 | 127=>161 | 164=>186 | 80=>133 | n=>n,
  fun n=>n⟩
theorem Bn : Lays.n105 Tryz.prog pR:={
  mixed:=by kernel_rfl
  f99:=Tryz.func62.trans (congrArg some (by kernel_rfl))
  f105:=Tryz.func44.trans (congrArg some (by kernel_rfl))
  f165:=Tryz.func63.trans (congrArg some (by kernel_rfl))
  f166:=Tryz.func64.trans (congrArg some (by kernel_rfl))
  f169:=Tryz.func66.trans (congrArg some (by kernel_rfl))
  f170:=Tryz.func65.trans (congrArg some (by kernel_rfl))
  f206:=Tryz.func85.trans (congrArg some (by kernel_rfl))
  f212:=Tryz.func61.trans (congrArg some (by kernel_rfl))
  f240:=Tryz.func86.trans (congrArg some (by kernel_rfl))
  f241:=Tryz.func87.trans (congrArg some (by kernel_rfl))
  f263:=Tryz.func83.trans (congrArg some (by kernel_rfl))
  f264:=Tryz.func84.trans (congrArg some (by kernel_rfl))
  f276:=Tryz.func102.trans (congrArg some (by kernel_rfl))
  f277:=Tryz.func103.trans (congrArg some (by kernel_rfl))
  t0:=Tryz.underlying0
  a0:=Tryz.isAgg0
  z0:=Tryz.sizeOf0
  v0:=Tryz.zeroValue0
  t3:=Tryz.underlying3
  a3:=Tryz.isAgg3
  z3:=Tryz.sizeOf3
  v3:=Tryz.zeroValue3
  t4:=Tryz.underlying4
  a4:=Tryz.isAgg4
  z4:=Tryz.sizeOf4
  v4:=Tryz.zeroValue4
  t5:=Tryz.underlying5
  a5:=Tryz.isAgg5
  z5:=Tryz.sizeOf5
  v5:=Tryz.zeroValue5
  t9:=Tryz.underlying9
  a9:=Tryz.isAgg9
  z9:=Tryz.sizeOf9
  v9:=Tryz.zeroValue9
  t20:=Tryz.underlying20
  a20:=Tryz.isAgg20
  z20:=Tryz.sizeOf20
  v20:=Tryz.zeroValue20
  t37:=Tryz.underlying24
  a37:=Tryz.isAgg24
  z37:=Tryz.sizeOf24
  v37:=Tryz.zeroValue24
  t46:=Tryz.underlying109
  a46:=Tryz.isAgg109
  z46:=Tryz.sizeOf109
  v46:=Tryz.zeroValue109
  t51:=Tryz.underlying117
  a51:=Tryz.isAgg117
  z51:=Tryz.sizeOf117
  v51:=Tryz.zeroValue117
  t53:=Tryz.underlying82
  a53:=Tryz.isAgg82
  z53:=Tryz.sizeOf82
  v53:=Tryz.zeroValue82
  t70:=Tryz.underlying128
  a70:=Tryz.isAgg128
  z70:=Tryz.sizeOf128
  v70:=Tryz.zeroValue128
  t72:=Tryz.underlying130
  a72:=Tryz.isAgg130
  z72:=Tryz.sizeOf130
  v72:=Tryz.zeroValue130
  t75:=Tryz.underlying79
  a75:=Tryz.isAgg79
  z75:=Tryz.sizeOf79
  v75:=Tryz.zeroValue79
  t76:=Tryz.underlying80
  a76:=Tryz.isAgg80
  z76:=Tryz.sizeOf80
  v76:=Tryz.zeroValue80
  t109:=Tryz.underlying125
  a109:=Tryz.isAgg125
  z109:=Tryz.sizeOf125
  v109:=Tryz.zeroValue125
  t127:=Tryz.underlying161
  a127:=Tryz.isAgg161
  z127:=Tryz.sizeOf161
  v127:=Tryz.zeroValue161
  t146:=Tryz.underlying157
  a146:=Tryz.isAgg157
  z146:=Tryz.sizeOf157
  v146:=Tryz.zeroValue157
  t148:=Tryz.underlying159
  a148:=Tryz.isAgg159
  z148:=Tryz.sizeOf159
  v148:=Tryz.zeroValue159
  t164:=Tryz.underlying186
  a164:=Tryz.isAgg186
  z164:=Tryz.sizeOf186
  v164:=Tryz.zeroValue186 }
theorem Bo : Builder.Extra Tryz.prog pR:={
  sizeBuilder:=by kernel_rfl
  liesBuilder:=by kernel_rfl
  t5:=Tryz.underlying5
  a5:=Tryz.isAgg5
  z5:=Tryz.sizeOf5
  v5:=Tryz.zeroValue5
  infoByte:=by kernel_rfl
  cellsByte:=by kernel_rfl
  sizeByte:=by kernel_rfl
  neB5:=by decide }
end
section
namespace Bx
open gh dz dc
def mC (x : List UInt8) : Bk:=x.map UInt8.toBitVec
def cU (n : Int) : Bk:=mC (Go.Lib.itoa n)
def dW : Nat→Nat→List UInt8
  | 0,_=>[]
  | k+1,u=>dW k (u / 10)++[UInt8.ofNat (48+u % 10)]
theorem gy : ∀ (k u : Nat),(dW k u).length=k
  | 0,_=>rfl
  | k+1,u=>by rw [dW,List.length_append,gy k];rfl
theorem sM : ∀ (k : Nat),dW k 0=List.replicate k 48
  | 0=>rfl
  | k+1=>by rw [dW,Nat.zero_div,sM k,List.replicate_succ'];rfl
theorem wA {k u : Nat} (h : u<10 ^ (k+1)) : List.replicate (k+1 - (Go.Lib.decDigits u).length) 48++Go.Lib.decDigits u=dW (k+1) u:=by
  induction k generalizing u with
  | zero=>
    have h' : u<10:=by simpa using h
    rw [Go.Lib.decDigits_one h',dW,dW]
    simp [Nat.mod_eq_of_lt h']
  | succ k ih=>
    by_cases h' : u<10
    · rw [Go.Lib.decDigits_one h',dW,Nat.div_eq_of_lt h',sM,Nat.mod_eq_of_lt h']
      rfl
    · have h2 : u / 10<10 ^ (k+1):=by rw [Nat.pow_succ] at h;omega
      have ih:=ih h2
      have e : Go.Lib.decDigits u=Go.Lib.decDigits (u / 10)++[UInt8.ofNat (48+u % 10)]:=by rw [Go.Lib.decDigits,dif_neg h']
      rw [e,List.length_append,List.length_singleton,Nat.add_sub_add_right,← List.append_assoc,ih]
      rfl
theorem gI {d : Nat} (h : d<10) : (UInt8.ofNat (48+d)).toNat=48+d:=by
  rw [UInt8.toNat_ofNat']
  omega
theorem lY : ∀ (l : List UInt8) (acc m d : Nat),Go.Lib.parseUint10 acc l=.ok m→d<10→m<1844674407370955161→Go.Lib.parseUint10 acc (l++[UInt8.ofNat (48+d)])=.ok (m * 10+d)
  | [],acc,m,d,h,hd,hm=>by
    simp only [Go.Lib.parseUint10,Go.Lib.NumEnd.ok.injEq] at h
    subst h
    have e:=gI hd
    simp only [List.nil_append,Go.Lib.parseUint10,e]
    rw [if_pos (by omega),if_neg (by omega),if_neg (by omega)]
    congr 1
    omega
  | c::l,acc,m,d,h,hd,hm=>by
    simp only [List.cons_append,Go.Lib.parseUint10] at h ⊢
    split at h
    · rename_i hc
      rw [if_pos hc]
      split at h
      · cases h
      · rename_i h1
        rw [if_neg h1]
        split at h
        · cases h
        · rename_i h2
          rw [if_neg h2]
          exact lY l _ m d h hd hm
    · cases h
theorem pS : ∀ (k u : Nat),k≤18→u<10 ^ k→Go.Lib.parseUint10 0 (dW k u)=.ok u
  | 0,u,_,h=>by
    have : u=0:=by simpa using h
    subst this;rfl
  | k+1,u,hk,h=>by
    have h2 : u / 10<10 ^ k:=by rw [Nat.pow_succ] at h;omega
    have h3 : (10 : Nat) ^ k≤10 ^ 17:=Nat.pow_le_pow_right (by decide) (by omega)
    have h4 : (10 : Nat) ^ 17=100000000000000000:=by decide
    rw [dW,lY _ 0 (u / 10) (u % 10) (pS k (u / 10) (by omega) h2) (Nat.mod_lt _ (by decide)) (by omega)]
    congr 1
    omega
theorem jL : ∀ (k u : Nat),∀ c ∈ dW k u,48≤c.toNat∧c.toNat≤57
  | 0,_,c,h=>by cases h
  | k+1,u,c,h=>by
    rw [dW] at h
    rcases List.mem_append.1 h with h | h
    · exact jL k _ c h
    · rw [List.mem_singleton] at h
      subst h
      rw [gI (Nat.mod_lt _ (by decide))]
      have:=Nat.mod_lt u (show 0<10 by decide)
      omega
theorem n8 {u : Nat} (h : u<10 ^ 10) : Go.Lib.atoiAll (dW 10 u)=.ok (u : Int):=by
  have hl:=gy 10 u
  have hp:=pS 10 u (by decide) h
  have hd:=jL 10 u
  generalize dW 10 u=l at hl hp hd
  match l,hl with
  | c::r,_=>
    have hc:=hd c (by simp)
    have h1 : ¬ (c.toNat=43∨c.toNat=45):=by omega
    have h2 : ¬ c.toNat=45:=by omega
    have e : Go.Lib.parseMag (c::r)=.ok u:=by rw [Go.Lib.parseMag,if_neg (by simp)];exact hp
    have h5 : (10 : Nat) ^ 10=10000000000:=by decide
    unfold Go.Lib.atoiAll
    simp only [if_neg h1,e]
    rw [if_neg (by omega),if_neg (fun hh=>h2 hh.1),if_neg h2]
theorem Al {u v : Nat} (hu : u<10 ^ 10) (hv : v<10 ^ 10) (h : dW 10 u=dW 10 v) : u=v:=by
  have h1:=n8 hu
  rw [h,n8 hv] at h1
  injection h1 with h1
  omega
def qh (u : Int) : Bk:=List.replicate (10 - (cU u).length) 48#8++cU u
def aR (f : Bk) (u : Int) : Bk:=[109#8,58#8]++f++[58#8]++List.replicate (10 - (cU u).length) 48#8++cU u
def aU (f : Bk) : Bk:=[109#8,58#8]++f++[58#8]
def cI (f : Bk) : Bk:=[110#8,58#8]++f
theorem fD (f : Bk) (u : Int) : aR f u=aU f++qh u:=by unfold aR aU qh;rw [List.append_assoc]
theorem fE (x : List UInt8) : (mC x).length=x.length:=List.length_map _
theorem iu (x y : List UInt8) : mC (x++y)=mC x++mC y:=List.map_append
theorem yu {x y : List UInt8} (h : mC x=mC y) : x=y:=by
  have:=congrArg (List.map UInt8.ofBitVec) h
  unfold mC at this
  rw [List.map_map,List.map_map,show UInt8.ofBitVec ∘ UInt8.toBitVec=id from funext fun _=>rfl,List.map_id,List.map_id] at this
  exact this
theorem pT (u : Nat) : Go.Lib.itoa (u : Int)=Go.Lib.decDigits u:=by
  unfold Go.Lib.itoa
  rw [if_neg (by omega)]
  simp
theorem cV {u : Nat} (h : u<10 ^ 10) : qh (u : Int)=mC (dW 10 u):=by
  unfold qh cU
  rw [pT,fE,← wA (k:=9) h,iu]
  congr 1
  unfold mC
  rw [List.map_replicate]
  rfl
theorem eS : ∀ (u : Nat),∀ c ∈ Go.Lib.decDigits u,48≤c.toNat∧c.toNat≤57:=by
  intro u
  induction u using Nat.strongRecOn with
  | ind u ih=>
    intro c hc
    rw [Go.Lib.decDigits] at hc
    by_cases h : u<10
    · rw [dif_pos h,List.mem_singleton] at hc
      subst hc
      rw [gI h];omega
    · rw [dif_neg h] at hc
      rcases List.mem_append.1 hc with hc | hc
      · exact ih (u / 10) (by omega) c hc
      · rw [List.mem_singleton] at hc
        subst hc
        have:=Nat.mod_lt u (show 0<10 by decide)
        rw [gI this];omega
theorem rj (u : Int) : ∀ c ∈ cU u,c.toNat=45∨(48≤c.toNat∧c.toNat≤57):=by
  intro c hc
  unfold cU mC at hc
  obtain ⟨x,hx,rfl⟩:=List.mem_map.1 hc
  unfold Go.Lib.itoa at hx
  split at hx
  · rcases List.mem_cons.1 hx with rfl | hx
    · exact .inl rfl
    · exact .inr (eS _ x hx)
  · exact .inr (eS _ x hx)
theorem uj (u : Int) : ∀ c ∈ qh u,c.toNat=45∨(48≤c.toNat∧c.toNat≤57):=by
  intro c hc
  rcases List.mem_append.1 hc with hc | hc
  · rw [(List.mem_replicate.1 hc).2];exact .inr (by decide)
  · exact rj u c hc
theorem gJ (u : Int) : 58#8 ∉ qh u:=fun h=>by have:=uj u _ h;revert this;decide
theorem yw {u : Int} {v : Nat} (hv : v<10 ^ 10) (h : qh u=qh (v : Int)) : u=(v : Int):=by
  have hl : (qh (v : Int)).length=10:=by rw [cV hv,fE,gy]
  by_cases hu : u<0
  · exfalso
    have hm : 45#8 ∈ qh u:=by
      refine List.mem_append_right _ ?_
      unfold cU Go.Lib.itoa mC
      rw [if_pos hu]
      exact List.mem_map_of_mem (f:=UInt8.toBitVec) (List.mem_cons_self (a:=(45 : UInt8)))
    rw [h,cV hv] at hm
    obtain ⟨x,hx,e⟩:=List.mem_map.1 hm
    have:=jL 10 v x hx
    have e2 : x.toNat=45:=by show x.toBitVec.toNat=45;rw [e];rfl
    omega
  · obtain ⟨n,rfl⟩ : ∃ n : Nat,u=(n : Int):=⟨u.toNat,by omega⟩
    by_cases hn : n<10 ^ 10
    · rw [cV hn,cV hv] at h
      rw [Al hn hv (yu h)]
    · exfalso
      have h1 : (cU (n : Int)).length=Go.Lib.nDigits n:=by unfold cU;rw [fE,pT,Go.Lib.decDigits_length]
      have h2:=Go.Lib.lt_pow_nDigits n
      have h3 : 10<Go.Lib.nDigits n:=by
        rcases Nat.lt_or_ge 10 (Go.Lib.nDigits n) with h | h
        · exact h
        · have:=Nat.pow_le_pow_right (n:=10) (by decide) h
          omega
      have h4 : 10<(qh (n : Int)).length:=by unfold qh;rw [List.length_append,h1];omega
      rw [h,hl] at h4
      omega
theorem lZ {c : BitVec 8} : ∀ {a b d e : Bk},c ∉ d→c ∉ e→a++c::d=b++c::e→a=b∧d=e
  | [],[],d,e,_,_,h=>⟨rfl,by simpa using h⟩
  | [],x::b,d,e,hd,_,h=>by
    simp only [List.nil_append,List.cons_append,List.cons.injEq] at h
    exact absurd (h.2 ▸ by simp) hd
  | x::a,[],d,e,_,he,h=>by
    simp only [List.nil_append,List.cons_append,List.cons.injEq] at h
    exact absurd (h.2 ▸ by simp) he
  | x::a,y::b,d,e,hd,he,h=>by
    simp only [List.cons_append,List.cons.injEq] at h
    obtain ⟨h1,h2⟩:=lZ hd he h.2
    exact ⟨by rw [h.1,h1],h2⟩
theorem gz (f : Bk) (u : Int) : aR f u=([109#8,58#8]++f)++58#8::qh u:=by rw [fD];unfold aU;simp
theorem l5 {f g : Bk} {u : Int} {v : Nat} (hv : v<10 ^ 10) (h : aR f u=aR g (v : Int)) : f=g∧u=(v : Int):=by
  rw [gz,gz] at h
  obtain ⟨h1,h2⟩:=lZ (gJ u) (gJ _) h
  exact ⟨List.append_cancel_left h1,yw hv h2⟩
theorem wB {f g : Bk} (h : cI f=cI g) : f=g:=List.append_cancel_left h
theorem sN (f g : Bk) (u : Int) : cI f≠aR g u:=fun h=>by
  rw [gz] at h
  unfold cI at h
  simp at h
theorem Am (f g : Bk) (u : Int) : aR g u≠cI f:=fun h=>sN f g u h.symm
theorem nw {f g : Bk} {u : Int} (hg : 58#8 ∉ g) : ((aR g u).take (aU f).length=aU f)↔f=g:=by
  constructor
  · intro h
    have e : aR g u=aU f++(aR g u).drop (aU f).length:=by
      conv=>lhs;rw [← List.take_append_drop (aU f).length (aR g u),h]
    have hc : (aR g u).count 58#8=2:=by
      rw [gz]
      simp only [List.count_append,List.count_cons,List.count_nil]
      rw [List.count_eq_zero.2 hg,List.count_eq_zero.2 (gJ u)]
      decide
    have hr : 58#8 ∉ (aR g u).drop (aU f).length:=by
      intro hm
      have h1:=List.count_pos_iff.2 hm
      have h2 : (aR g u).count 58#8=(aU f).count 58#8+((aR g u).drop (aU f).length).count 58#8:=by
        conv=>lhs;rw [e,List.count_append]
      have h3 : 2≤(aU f).count 58#8:=by
        unfold aU
        simp only [List.count_append,List.count_cons,List.count_nil]
        simp
        try omega
      omega
    generalize (aR g u).drop (aU f).length=r at e hr
    rw [gz] at e
    have e' : ([109#8,58#8]++g)++58#8::qh u=([109#8,58#8]++f)++58#8::r:=by rw [e];unfold aU;simp
    obtain ⟨h1,_⟩:=lZ (gJ u) hr e'
    exact (List.append_cancel_left h1).symm
  · rintro rfl
    rw [fD,List.take_left']
    rfl
theorem An (f g : Bk) : ¬ ((cI g).take (aU f).length=aU f):=by
  unfold cI aU
  intro h
  simp at h
theorem wC (p a b : Bk) : ec (p++a) (p++b)=ec a b:=by
  induction p with
  | nil=>rfl
  | cons c p ih=>
    rw [List.cons_append,List.cons_append,ec,if_neg (Nat.lt_irrefl _),if_neg (Nat.lt_irrefl _),ih]
theorem pU : ∀ {a b : Bk} {c d : BitVec 8},a.length=b.length→ec (a++[c]) (b++[d])=(ec a b || (decide (a=b) && decide (c.toNat<d.toNat)))
  | [],[],c,d,_=>by
    by_cases h : c.toNat<d.toNat
    · simp [ec,h]
    · by_cases h2 : d.toNat<c.toNat <;> simp [ec,h,h2]
  | x::a,y::b,c,d,h=>by
    have h' : a.length=b.length:=by simpa using h
    have ih:=pU (c:=c) (d:=d) h'
    rw [List.cons_append,List.cons_append,ec,ec,ih]
    by_cases h1 : x.toNat<y.toNat
    · rw [if_pos h1,if_pos h1];rfl
    · rw [if_neg h1,if_neg h1]
      by_cases h2 : y.toNat<x.toNat
      · rw [if_pos h2,if_pos h2]
        have : ¬ x::a=y::b:=fun e=>by
          injection e with e1 e2
          rw [e1] at h2;omega
        simp [this]
      · rw [if_neg h2,if_neg h2]
        have e : x=y:=BitVec.eq_of_toNat_eq (by omega)
        simp [e]
theorem zw : ∀ (k u v : Nat),u<10 ^ k→v<10 ^ k→(u<v→ec (mC (dW k u)) (mC (dW k v))=true)∧(u / 10=v / 10→dW k (u / 10)=dW k (v / 10))
  | 0,u,v,hu,hv=>⟨fun h=>by simp at hu hv;omega,fun h=>by rw [h]⟩
  | k+1,u,v,hu,hv=>by
    refine ⟨fun h=>?_,fun h=>by rw [h]⟩
    have h2 : u / 10<10 ^ k:=by rw [Nat.pow_succ] at hu;omega
    have h3 : v / 10<10 ^ k:=by rw [Nat.pow_succ] at hv;omega
    rw [dW,dW,iu,iu]
    show ec (_++[_]) (_++[_])=true
    rw [pU (by rw [fE,fE,gy,gy])]
    by_cases hq : u / 10<v / 10
    · rw [(zw k _ _ h2 h3).1 hq];rfl
    · have hq' : u / 10=v / 10:=by omega
      have m1:=Nat.mod_lt u (show 0<10 by decide)
      have m2:=Nat.mod_lt v (show 0<10 by decide)
      have e1:=gI m1
      have e2:=gI m2
      rw [hq']
      have : (UInt8.ofNat (48+u % 10)).toBitVec.toNat<(UInt8.ofNat (48+v % 10)).toBitVec.toNat:=by
        show (UInt8.ofNat (48+u % 10)).toNat<(UInt8.ofNat (48+v % 10)).toNat
        rw [e1,e2];omega
      rw [decide_eq_true this]
      simp
theorem yx {f : Bk} {u v : Nat} (hu : u<10 ^ 10) (hv : v<10 ^ 10) (h : u<v) : ec (aR f (u : Int)) (aR f (v : Int))=true:=by
  rw [fD,fD,wC,cV hu,cV hv]
  exact (zw 10 u v hu hv).1 h
theorem Ao {a b : List Bk} (ha : a.Pairwise fun x y=>ec x y=true) (hb : b.Pairwise fun x y=>ec x y=true) (h : ∀ x,x ∈ a↔x ∈ b) : a=b:=by
  have na : a.Nodup:=ha.imp fun h=>lP h
  have nb : b.Nodup:=hb.imp fun h=>lP h
  exact List.Perm.eq_of_pairwise (le:=fun x y=>ec x y=true) (fun x y _ _ h1 h2=>by rw [nk h1] at h2;cases h2) ha hb ((List.perm_ext_iff_of_nodup na nb).2 h)
end Bx
end
section
namespace Bx
open gh dz dc
structure Ml where
  f : Bk
  u : Nat
  fl : Nat
  b : Bk
structure Rb where
  ms : List Ml
  nx : List (Bk × Nat)
def Rb.next? (R : Rb) (f : Bk) : Option Nat:=(R.nx.find? fun x=>decide (x.1=f)).map Prod.snd
def Rb.next (R : Rb) (f : Bk) : Nat:=(R.next? f).getD 1
def Rb.find (R : Rb) (f : Bk) (u : Int) : Option Ml:=R.ms.find? fun m=>decide (m.f=f) && decide ((m.u : Int)=u)
def Rb.list (R : Rb) (f : Bk) : List Nat:=(R.ms.filter fun m=>decide (m.f=f)).map Ml.u
def zx (n : Nat) : Bool:=(decide ((97 : Int)≤(n : Int)) && decide ((n : Int)≤122)) || ((decide ((65 : Int)≤(n : Int)) && decide ((n : Int)≤90)) || ((decide ((48 : Int)≤(n : Int)) && decide ((n : Int)≤57)) || (decide ((n : Int)=45) || decide ((n : Int)=46))))
def okF (f : Bk) : Bool:=(f.all fun c=>zx c.toNat) && decide (1≤f.length) && decide (f.length≤40)
theorem sO {f : Bk} (h : okF f=true) : 58#8 ∉ f:=fun hm=>by
  unfold okF at h
  rw [Bool.and_eq_true,Bool.and_eq_true,List.all_eq_true] at h
  have:=h.1.1 _ hm
  revert this
  decide
theorem n9 {f : Bk} (h : okF f=true) : 1≤f.length∧f.length≤40:=by
  unfold okF at h
  simp only [Bool.and_eq_true,decide_eq_true_eq] at h
  exact ⟨h.1.2,h.2⟩
def Ml.v (m : Ml) : Bk:=BitVec.ofNat 8 m.fl::m.b
def nV (n : Nat) : Bk:=dI (BitVec.ofNat 64 n) 8
def hit (R : Rb) (f : Bk) : Bk × Nat→Bk × Nat:=fun x=>if x.1=f then (x.1,x.2+1) else x
def Rb.aO (R : Rb) (f b : Bk) : Rb:=
  ⟨R.ms++[⟨f,R.next f,0,b⟩],if (R.next? f).isSome then R.nx.map (hit R f) else R.nx++[(f,2)]⟩
def jM (f : Bk) (u : Int) (fl : Nat) : Ml→Ml:=fun m=>if m.f=f∧(m.u : Int)=u then ⟨m.f,m.u,fl,m.b⟩ else m
def Rb.mark (R : Rb) (f : Bk) (u : Int) (fl : Nat) : Rb:=⟨R.ms.map (jM f u fl),R.nx⟩
def goes (f : Bk) (m : Ml) : Bool:=decide (m.f=f) && decide (m.fl / 4 % 2=1)
def Rb.bS (R : Rb) (f : Bk) : Rb:=⟨R.ms.filter fun m=>!goes f m,R.nx⟩
structure Rb.ok (R : Rb) (n : Nat) : Prop where
  le : n≤1000000
  fold : ∀ m ∈ R.ms,okF m.f=true
  low : ∀ m ∈ R.ms,1≤m.u∧m.u<R.next m.f
  fl : ∀ m ∈ R.ms,m.fl<16
  Bp : ∀ x ∈ R.nx,okF x.1=true∧1≤x.2∧x.2≤n+1
  names : (R.nx.map Prod.fst).Nodup
  pV : R.ms.Pairwise fun a b=>a.f=b.f→a.u<b.u
structure Bv (vs : VL) (R : Rb) : Prop where
  l6 : iy vs
  next : ∀ f,ey vs (cI f)=(R.next? f).map nV
  wD : ∀ f u,ey vs (aR f u)=(R.find f u).map Ml.v
  keys : ∀ p ∈ vs,(∃ x ∈ R.nx,p.1=cI x.1)∨∃ m ∈ R.ms,p.1=aR m.f (m.u : Int)
def Rb.zero : Rb:=⟨[],[]⟩
theorem yy : Rb.zero.ok 0:=⟨by decide,by simp [Rb.zero],by simp [Rb.zero],by simp [Rb.zero],by simp [Rb.zero],by simp [Rb.zero],by simp [Rb.zero]⟩
theorem yz : Bv [] Rb.zero:=⟨List.Pairwise.nil,fun _=>rfl,fun _ _=>rfl,by simp⟩
theorem Rb.gK {R : Rb} {n : Nat} (k : R.ok n) (f : Bk) : 1≤R.next f∧R.next f≤n+1:=by
  unfold Rb.next Rb.next?
  cases h : R.nx.find? fun x=>decide (x.1=f) with
  | none=>simp
  | some x=>
    have:=k.Bp x (List.mem_of_find?_eq_some h)
    simpa using this.2
theorem Rb.ok.ki {R : Rb} {n : Nat} (k : R.ok n) {m : Ml} (h : m ∈ R.ms) : m.u<10 ^ 10:=by
  have h1:=k.low m h
  have h2:=R.gK k m.f
  have:=k.le
  omega
theorem bZ {R : Rb} {f : Bk} {u : Int} {m : Ml} (h : R.find f u=some m) : m ∈ R.ms∧m.f=f∧(m.u : Int)=u:=by
  have h1:=List.find?_some h
  simp only [Bool.and_eq_true,decide_eq_true_eq] at h1
  exact ⟨List.mem_of_find?_eq_some h,h1.1,h1.2⟩
theorem eU {vs : VL} (h : iy vs) (k v k' : Bk) : ey (eO k v vs) k'=if k'=k then some v else ey vs k':=by
  have h1:=eP (k:=k) (v:=v) h
  have hp:=jF (k:=k) (v:=v) h
  apply Option.ext
  intro x
  rw [c7 h1.keys,hp.mem_iff,List.mem_cons,List.mem_filter]
  by_cases e : k'=k
  · subst e
    rw [if_pos rfl]
    simp [eq_comm]
  · rw [if_neg e,c7 h.keys]
    simp [e]
theorem wE {vs : VL} (h : iy vs) (k k' : Bk) : ey (jE k vs) k'=if k'=k then none else ey vs k':=by
  apply Option.ext
  intro x
  rw [c7 (lQ h).keys,gj h,List.mem_filter]
  by_cases e : k'=k
  · subst e
    simp
  · rw [if_neg e,c7 h.keys]
    simp [e]
theorem l7 {vs : VL} (h : iy vs) {k v : Bk} {p : Bk × Bk} (hp : p ∈ eO k v vs) : p.1=k∨p ∈ vs:=by
  rcases iV hp with rfl | h
  · exact .inl rfl
  · exact .inr h
theorem fF (R : Rb) (f b g : Bk) : (R.aO f b).next? g=if g=f then some (R.next f+1) else R.next? g:=by
  unfold Rb.aO
  by_cases hk : (R.next? f).isSome=true
  · rw [if_pos hk]
    unfold Rb.next? at hk ⊢
    dsimp only
    rw [List.find?_map]
    have e : ((fun x : Bk × Nat=>decide (x.1=g)) ∘ hit R f)=fun x=>decide (x.1=g):=by
      funext x
      simp only [Function.comp,hit]
      split <;> rfl
    rw [e,Option.map_map]
    by_cases hg : g=f
    · subst hg
      rw [if_pos rfl]
      unfold Rb.next Rb.next?
      cases h : R.nx.find? fun x=>decide (x.1=g) with
      | none=>rw [h] at hk;cases hk
      | some x=>
        have:=List.find?_some h
        simp only [decide_eq_true_eq] at this
        simp [hit,this]
    · rw [if_neg hg]
      cases h : R.nx.find? fun x=>decide (x.1=g) with
      | none=>rfl
      | some x=>
        have:=List.find?_some h
        simp only [decide_eq_true_eq] at this
        have h2 : ¬ x.1=f:=fun e=>hg (this.symm.trans e)
        simp [hit,h2]
  · rw [if_neg hk]
    have hn : R.next? f=none:=by cases h : R.next? f with | none=>rfl | some x=>rw [h] at hk;exact absurd rfl hk
    unfold Rb.next
    rw [hn]
    unfold Rb.next? at hn ⊢
    dsimp only
    rw [List.find?_append]
    by_cases hg : g=f
    · subst hg
      rw [if_pos rfl]
      cases h : R.nx.find? fun x=>decide (x.1=g) with
      | none=>simp
      | some x=>rw [h] at hn;cases hn
    · rw [if_neg hg]
      cases h : R.nx.find? fun x=>decide (x.1=g) with
      | none=>simp [Ne.symm hg,fun e=>hg (Eq.symm e)]
      | some x=>rfl
theorem jd {R : Rb} {n : Nat} (k : R.ok n) (f b g : Bk) (u : Int) : (R.aO f b).find g u=if g=f∧u=(R.next f : Int) then some ⟨f,R.next f,0,b⟩ else R.find g u:=by
  unfold Rb.aO Rb.find
  dsimp only
  rw [List.find?_append]
  by_cases h : g=f∧u=(R.next f : Int)
  · rw [if_pos h]
    obtain ⟨rfl,rfl⟩:=h
    cases h : R.ms.find? fun m=>decide (m.f=g) && decide ((m.u : Int)=(R.next g : Int)) with
    | none=>simp
    | some m=>
      have h1:=List.find?_some h
      simp only [Bool.and_eq_true,decide_eq_true_eq] at h1
      have:=(k.low m (List.mem_of_find?_eq_some h)).2
      rw [h1.1] at this
      omega
  · rw [if_neg h]
    cases R.ms.find? fun m=>decide (m.f=g) && decide ((m.u : Int)=u) with
    | some m=>rfl
    | none=>
      have : ¬ (f=g∧(R.next f : Int)=u):=fun e=>h ⟨e.1.symm,e.2.symm⟩
      simp only [Option.none_or,List.find?_cons,List.find?_nil]
      rw [show (decide (f=g) && decide ((R.next f : Int)=u))=false by rw [← Bool.decide_and];exact decide_eq_false this]
theorem ru {R : Rb} {n : Nat} (k : R.ok n) (hn : n+1≤1000000) {f : Bk} (hf : okF f=true) (b : Bk) : (R.aO f b).ok (n+1):=by
  have hnx : ∀ g,(R.aO f b).next g=if g=f then R.next f+1 else R.next g:=fun g=>by
    unfold Rb.next
    rw [fF]
    split <;> rfl
  have hb:=R.gK k f
  refine ⟨hn,?_,?_,?_,?_,?_,?_⟩
  · intro m hm
    rcases List.mem_append.1 hm with hm | hm
    · exact k.fold m hm
    · rw [List.mem_singleton] at hm;subst hm;exact hf
  · intro m hm
    rw [hnx]
    rcases List.mem_append.1 hm with hm | hm
    · have:=k.low m hm
      split
      · next e=>rw [e] at this;omega
      · exact this
    · rw [List.mem_singleton] at hm
      subst hm
      rw [if_pos rfl]
      dsimp only
      omega
  · intro m hm
    rcases List.mem_append.1 hm with hm | hm
    · exact k.fl m hm
    · rw [List.mem_singleton] at hm;subst hm;exact (by decide : 0<16)
  · intro x hx
    unfold Rb.aO at hx
    dsimp only at hx
    split at hx
    · obtain ⟨y,hy,rfl⟩:=List.mem_map.1 hx
      have:=k.Bp y hy
      unfold hit
      split
      · exact ⟨this.1,by dsimp only;omega,by dsimp only;omega⟩
      · exact ⟨this.1,this.2.1,by omega⟩
    · rcases List.mem_append.1 hx with hx | hx
      · have:=k.Bp x hx
        exact ⟨this.1,this.2.1,by omega⟩
      · rw [List.mem_singleton] at hx;subst hx;exact ⟨hf,(by decide : 1≤2),by show 2≤n+1+1;omega⟩
  · unfold Rb.aO
    dsimp only
    split
    · rw [List.map_map,show Prod.fst ∘ hit R f=Prod.fst from funext fun x=>by simp only [Function.comp,hit];split <;> rfl]
      exact k.names
    · next hk=>
      rw [List.map_append,List.nodup_append]
      refine ⟨k.names,by simp,fun a ha b hb=>?_⟩
      simp only [List.map_cons,List.map_nil,List.mem_singleton] at hb
      subst hb
      rintro rfl
      obtain ⟨x,hx,e⟩:=List.mem_map.1 ha
      refine hk ?_
      unfold Rb.next?
      rw [Option.isSome_map]
      exact List.find?_isSome.2 ⟨x,hx,decide_eq_true e⟩
  · unfold Rb.aO
    dsimp only
    rw [List.pairwise_append]
    refine ⟨k.pV,List.pairwise_singleton _ _,fun a ha b hb=>?_⟩
    rw [List.mem_singleton] at hb
    subst hb
    intro e
    have:=(k.low a ha).2
    dsimp only at e ⊢
    rw [e] at this
    exact this
theorem ry {R : Rb} {n : Nat} (k : R.ok n) {vs : VL} (hb : Bv vs R) (f b : Bk) :
    Bv (cu vs [⟨aR f (R.next f : Int),0#8::b,false⟩,⟨cI f,nV (R.next f+1),false⟩]) (R.aO f b):=by
  have e : cu vs [⟨aR f (R.next f : Int),0#8::b,false⟩,⟨cI f,nV (R.next f+1),false⟩]=eO (cI f) (nV (R.next f+1)) (eO (aR f (R.next f : Int)) (0#8::b) vs):=rfl
  have s1:=eP (k:=aR f (R.next f : Int)) (v:=0#8::b) hb.l6
  have hl : R.next f<10 ^ 10:=by have:=R.gK k f;have:=k.le;omega
  rw [e]
  refine ⟨eP s1,fun g=>?_,fun g u=>?_,fun p hp=>?_⟩
  · rw [eU s1,eU hb.l6,fF]
    by_cases h : g=f
    · subst h;rw [if_pos rfl,if_pos rfl];rfl
    · rw [if_neg fun e=>h (wB e),if_neg (sN _ _ _),if_neg h,hb.next]
  · rw [eU s1,if_neg (Am _ _ _),eU hb.l6,jd k]
    by_cases h : g=f∧u=(R.next f : Int)
    · obtain ⟨rfl,rfl⟩:=h
      rw [if_pos rfl,if_pos ⟨rfl,rfl⟩];rfl
    · rw [if_neg fun e=>h (l5 hl e),if_neg h,hb.wD]
  · have hnx : ∀ x ∈ R.nx,∃ y ∈ (R.aO f b).nx,y.1=x.1:=fun x hx=>by
      unfold Rb.aO
      dsimp only
      split
      · exact ⟨hit R f x,List.mem_map_of_mem hx,by unfold hit;split <;> rfl⟩
      · exact ⟨x,List.mem_append_left _ hx,rfl⟩
    rcases l7 s1 hp with h | h
    · left
      unfold Rb.aO
      dsimp only
      split
      · next hk=>
        unfold Rb.next? at hk
        rw [Option.isSome_map,List.find?_isSome] at hk
        obtain ⟨x,hx,hd⟩:=hk
        rw [decide_eq_true_eq] at hd
        refine ⟨hit R f x,List.mem_map_of_mem hx,?_⟩
        rw [h,show (hit R f x).1=x.1 by unfold hit;split <;> rfl,hd]
      · exact ⟨(f,2),by simp,h⟩
    · rcases l7 hb.l6 h with h | h
      · exact .inr ⟨⟨f,R.next f,0,b⟩,List.mem_append_right _ (by simp),h⟩
      · rcases hb.keys p h with ⟨x,hx,e⟩ | ⟨m,hm,e⟩
        · obtain ⟨y,hy,e2⟩:=hnx x hx
          exact .inl ⟨y,hy,by rw [e,e2]⟩
        · exact .inr ⟨m,List.mem_append_left _ hm,e⟩
theorem cn (f : Bk) (u : Int) (fl : Nat) (m : Ml) : (jM f u fl m).f=m.f∧(jM f u fl m).u=m.u∧(jM f u fl m).b=m.b:=by unfold jM;split <;> exact ⟨rfl,rfl,rfl⟩
theorem ny (R : Rb) (f : Bk) (u : Int) (fl : Nat) (g : Bk) (v : Int) : (R.mark f u fl).find g v=if g=f∧v=u then (R.find g v).map fun m=>⟨m.f,m.u,fl,m.b⟩ else R.find g v:=by
  unfold Rb.mark Rb.find
  dsimp only
  rw [List.find?_map]
  have e : ((fun m : Ml=>decide (m.f=g) && decide ((m.u : Int)=v)) ∘ jM f u fl)=fun m=>decide (m.f=g) && decide ((m.u : Int)=v):=by
    funext m
    simp only [Function.comp,(cn f u fl m).1,(cn f u fl m).2.1]
  rw [e]
  cases h : R.ms.find? fun m=>decide (m.f=g) && decide ((m.u : Int)=v) with
  | none=>simp
  | some m=>
    have h1:=List.find?_some h
    simp only [Bool.and_eq_true,decide_eq_true_eq] at h1
    by_cases hh : g=f∧v=u
    · rw [if_pos hh]
      simp only [Option.map_some]
      unfold jM
      rw [if_pos ⟨h1.1.trans hh.1,h1.2.trans hh.2⟩]
    · rw [if_neg hh]
      simp only [Option.map_some]
      unfold jM
      rw [if_neg fun e=>hh ⟨h1.1.symm.trans e.1,h1.2.symm.trans e.2⟩]
theorem yA {R : Rb} {n : Nat} (k : R.ok n) (f : Bk) (u : Int) {fl : Nat} (hf : fl<16) : (R.mark f u fl).ok n:=by
  have hn : ∀ g,(R.mark f u fl).next g=R.next g:=fun _=>rfl
  refine ⟨k.le,?_,?_,?_,k.Bp,k.names,?_⟩
  · intro m hm
    obtain ⟨m',hm',rfl⟩:=List.mem_map.1 hm
    rw [(cn f u fl m').1];exact k.fold m' hm'
  · intro m hm
    obtain ⟨m',hm',rfl⟩:=List.mem_map.1 hm
    rw [(cn f u fl m').1,(cn f u fl m').2.1,hn];exact k.low m' hm'
  · intro m hm
    obtain ⟨m',hm',rfl⟩:=List.mem_map.1 hm
    unfold jM
    split
    · exact hf
    · exact k.fl m' hm'
  · unfold Rb.mark
    dsimp only
    rw [List.pairwise_map]
    refine k.pV.imp fun {a b} h=>?_
    rw [(cn f u fl a).1,(cn f u fl b).1,(cn f u fl a).2.1,(cn f u fl b).2.1]
    exact h
theorem yB {R : Rb} {n : Nat} (k : R.ok n) {vs : VL} (hb : Bv vs R) {f : Bk} {u : Int} {fl : Nat} {m : Ml} (hm : R.find f u=some m) :
    Bv (cu vs [⟨aR f u,BitVec.ofNat 8 fl::m.b,false⟩]) (R.mark f u fl):=by
  have e : cu vs [⟨aR f u,BitVec.ofNat 8 fl::m.b,false⟩]=eO (aR f u) (BitVec.ofNat 8 fl::m.b) vs:=rfl
  obtain ⟨hmm,hmf,hmu⟩:=bZ hm
  have hl:=k.ki hmm
  rw [e]
  refine ⟨eP hb.l6,fun g=>?_,fun g v=>?_,fun p hp=>?_⟩
  · rw [eU hb.l6,if_neg (sN _ _ _),hb.next];rfl
  · rw [eU hb.l6,ny]
    by_cases h : g=f∧v=u
    · obtain ⟨rfl,rfl⟩:=h
      rw [if_pos rfl,if_pos ⟨rfl,rfl⟩,hm];rfl
    · rw [if_neg fun e=>h (by rw [← hmu] at e ⊢;exact l5 hl e),if_neg h,hb.wD]
  · rcases l7 hb.l6 hp with h | h
    · exact .inr ⟨jM f u fl m,List.mem_map_of_mem hmm,by rw [h,(cn f u fl m).1,(cn f u fl m).2.1,hmf,hmu]⟩
    · rcases hb.keys p h with h | ⟨m2,h2,e⟩
      · exact .inl h
      · exact .inr ⟨jM f u fl m2,List.mem_map_of_mem h2,by rw [e,(cn f u fl m2).1,(cn f u fl m2).2.1]⟩
theorem pW {R : Rb} {n : Nat} (k : R.ok n) (f g : Bk) (u : Int) : (R.bS f).find g u=(R.find g u).filter fun m=>!goes f m:=by
  obtain ⟨ms,nx⟩:=R
  have kr:=k.pV
  clear k
  unfold Rb.bS Rb.find
  dsimp only at kr ⊢
  induction ms with
  | nil=>rfl
  | cons m ms ih=>
    obtain ⟨h1,h2⟩:=List.pairwise_cons.1 kr
    have ih:=ih h2
    rw [List.find?_cons]
    by_cases hp : (decide (m.f=g) && decide ((m.u : Int)=u))=true
    · rw [hp]
      by_cases hg : goes f m=true
      · rw [List.filter_cons_of_neg (by simp [hg])]
        rw [ih]
        have hn : (ms.find? fun m=>decide (m.f=g) && decide ((m.u : Int)=u))=none:=by
          rw [List.find?_eq_none]
          intro x hx hq
          simp only [Bool.and_eq_true,decide_eq_true_eq] at hp hq
          have:=h1 x hx (hp.1.trans hq.1.symm)
          omega
        rw [hn]
        simp [hg,Option.filter]
      · rw [List.filter_cons_of_pos (by simp [hg]),List.find?_cons,hp]
        simp [hg,Option.filter]
    · have hp' : (decide (m.f=g) && decide ((m.u : Int)=u))=false:=by simpa using hp
      rw [hp']
      by_cases hg : goes f m=true
      · rw [List.filter_cons_of_neg (by simp [hg]),ih]
      · rw [List.filter_cons_of_pos (by simp [hg]),List.find?_cons,hp',ih]
theorem rz {R : Rb} {n : Nat} (k : R.ok n) (f : Bk) : (R.bS f).ok n:=by
  have hs : ∀ m ∈ (R.bS f).ms,m ∈ R.ms:=fun m hm=>(List.mem_filter.1 hm).1
  exact ⟨k.le,fun m hm=>k.fold m (hs m hm),fun m hm=>k.low m (hs m hm),fun m hm=>k.fl m (hs m hm),k.Bp,k.names,k.pV.filter _⟩
def gA (R : Rb) (f : Bk) : List Pq:=(R.ms.filter (goes f)).map fun m=>⟨aR f (m.u : Int),[],true⟩
theorem eV : ∀ (ks : List Bk) {vs : VL} (_ : iy vs) (k' : Bk),iy (cu vs (ks.map fun k=>⟨k,[],true⟩))∧ey (cu vs (ks.map fun k=>⟨k,[],true⟩)) k'=if k' ∈ ks then none else ey vs k'
  | [],vs,h,k'=>by simpa using ⟨h,rfl⟩
  | k::ks,vs,h,k'=>by
    have ih:=eV ks (lQ (k:=k) h) k'
    have e : cu vs ((k::ks).map fun k=>(⟨k,[],true⟩ : Pq))=cu (jE k vs) (ks.map fun k=>⟨k,[],true⟩):=rfl
    rw [e]
    refine ⟨ih.1,ih.2.trans ?_⟩
    rw [wE h]
    by_cases h1 : k' ∈ ks
    · rw [if_pos h1,if_pos (List.mem_cons_of_mem _ h1)]
    · rw [if_neg h1]
      by_cases h2 : k'=k
      · rw [if_pos h2,if_pos (by simp [h2])]
      · rw [if_neg h2,if_neg (by simp [h1,h2])]
theorem pX : ∀ (ks : List Bk) (vs : VL),∀ p ∈ cu vs (ks.map fun k=>(⟨k,[],true⟩ : Pq)),p ∈ vs
  | [],_,_,h=>h
  | k::ks,vs,p,h=>(iW k vs).subset (pX ks (jE k vs) p h)
theorem rA {R : Rb} {n : Nat} (k : R.ok n) {vs : VL} (hb : Bv vs R) (f : Bk) : Bv (cu vs (gA R f)) (R.bS f):=by
  have e : gA R f=((R.ms.filter (goes f)).map fun m=>aR f (m.u : Int)).map fun k=>⟨k,[],true⟩:=by unfold gA;rw [List.map_map];rfl
  generalize hks : ((R.ms.filter (goes f)).map fun m=>aR f (m.u : Int))=ks at e
  have hmem : ∀ x,x ∈ ks↔∃ m ∈ R.ms,goes f m=true∧x=aR f (m.u : Int):=fun x=>by
    rw [← hks,List.mem_map]
    constructor
    · rintro ⟨m,hm,rfl⟩
      exact ⟨m,(List.mem_filter.1 hm).1,(List.mem_filter.1 hm).2,rfl⟩
    · rintro ⟨m,h1,h2,rfl⟩
      exact ⟨m,List.mem_filter.2 ⟨h1,h2⟩,rfl⟩
  have hgf : ∀ m,goes f m=true→m.f=f:=fun m h=>by unfold goes at h;simp only [Bool.and_eq_true,decide_eq_true_eq] at h;exact h.1
  have hmail : ∀ g u,ey (cu vs (ks.map fun k=>(⟨k,[],true⟩ : Pq))) (aR g u)=((R.bS f).find g u).map Ml.v:=fun g u=>by
    rw [(eV ks hb.l6 _).2,pW k,hb.wD]
    by_cases h : aR g u ∈ ks
    · rw [if_pos h]
      obtain ⟨m,hm,hg,e⟩:=(hmem _).1 h
      obtain ⟨rfl,rfl⟩:=l5 (k.ki hm) e
      cases h2 : R.find g (m.u : Int) with
      | none=>rfl
      | some m2=>
        obtain ⟨hm2,hf2,hu2⟩:=bZ h2
        have : m2=m:=by
          have hr:=k.pV
          have hu : m2.u=m.u:=by omega
          have hff : m2.f=m.f:=hf2.trans (hgf m hg).symm
          rcases List.mem_iff_getElem.1 hm with ⟨i,hi,rfl⟩
          rcases List.mem_iff_getElem.1 hm2 with ⟨j,hj,rfl⟩
          rcases Nat.lt_trichotomy i j with hij | hij | hij
          · have:=List.pairwise_iff_getElem.1 hr i j hi hj hij hff.symm;omega
          · subst hij;rfl
          · have:=List.pairwise_iff_getElem.1 hr j i hj hi hij hff;omega
        subst this
        simp [hg,Option.filter]
    · rw [if_neg h]
      cases h2 : R.find g u with
      | none=>rfl
      | some m=>
        obtain ⟨hm,hf,hu⟩:=bZ h2
        have hg : goes f m=false:=by
          cases hgo : goes f m with
          | false=>rfl
          | true=>
            refine absurd ((hmem _).2 ⟨m,hm,hgo,?_⟩) h
            rw [hu,← hf,hgf m hgo]
        simp [hg,Option.filter]
  rw [e]
  refine ⟨(eV ks hb.l6 []).1,fun g=>?_,hmail,fun p hp=>?_⟩
  · rw [(eV ks hb.l6 _).2,if_neg,hb.next]
    · rfl
    · intro h
      obtain ⟨m,_,_,e⟩:=(hmem _).1 h
      exact sN _ _ _ e
  · rcases hb.keys p (pX ks vs p hp) with h | ⟨m,hm,e⟩
    · exact .inl h
    · refine .inr ⟨m,?_,e⟩
      have h1 : ey (cu vs (ks.map fun k=>(⟨k,[],true⟩ : Pq))) p.1=some p.2:=(c7 (eV ks hb.l6 []).1.keys).2 hp
      rw [e,hmail] at h1
      obtain ⟨m2,h2,_⟩:=Option.map_eq_some_iff.1 h1
      obtain ⟨h3,h4,h5⟩:=bZ h2
      have h6:=h3
      have h3:=(List.mem_filter.1 h3).1
      have hr:=k.pV
      have hu : m2.u=m.u:=by omega
      have : m2=m:=by
        rcases List.mem_iff_getElem.1 hm with ⟨i,hi,rfl⟩
        rcases List.mem_iff_getElem.1 h3 with ⟨j,hj,rfl⟩
        rcases Nat.lt_trichotomy i j with hij | hij | hij
        · have:=List.pairwise_iff_getElem.1 hr i j hi hj hij h4.symm;omega
        · subst hij;rfl
        · have:=List.pairwise_iff_getElem.1 hr j i hj hi hij h4;omega
      rw [← this]
      exact h6
theorem uk {R : Rb} {n : Nat} (k : R.ok n) {vs : VL} (hb : Bv vs R) (f : Bk) :
    (vs.filter fun p=>decide (p.1.take (aU f).length=aU f)).map Prod.fst=(R.list f).map fun u=>aR f ((u : Nat) : Int):=by
  refine Ao ?_ ?_ fun x=>?_
  · rw [List.pairwise_map];exact hb.l6.filter _
  · unfold Rb.list
    rw [List.map_map,List.pairwise_map]
    have h1 : (R.ms.filter fun m=>decide (m.f=f)).Pairwise fun a b=>a.f=b.f→a.u<b.u:=k.pV.filter _
    refine List.Pairwise.imp_of_mem (fun {a b} ha hb h=>?_) h1
    obtain ⟨ha1,ha2⟩:=List.mem_filter.1 ha
    obtain ⟨hb1,hb2⟩:=List.mem_filter.1 hb
    rw [decide_eq_true_eq] at ha2 hb2
    exact yx (k.ki ha1) (k.ki hb1) (h (ha2.trans hb2.symm))
  · rw [List.mem_map,List.mem_map]
    constructor
    · rintro ⟨p,hp,rfl⟩
      obtain ⟨h1,h2⟩:=List.mem_filter.1 hp
      rw [decide_eq_true_eq] at h2
      rcases hb.keys p h1 with ⟨y,_,e⟩ | ⟨m,hm,e⟩
      · rw [e] at h2;exact absurd h2 (An _ _)
      · rw [e] at h2 ⊢
        have hf:=(nw (sO (k.fold m hm))).1 h2
        subst hf
        exact ⟨m.u,List.mem_map_of_mem (List.mem_filter.2 ⟨hm,by simp⟩),rfl⟩
    · rintro ⟨u,hu,rfl⟩
      obtain ⟨m,hm,rfl⟩:=List.mem_map.1 hu
      obtain ⟨h1,h2⟩:=List.mem_filter.1 hm
      rw [decide_eq_true_eq] at h2
      subst h2
      have hv : ey vs (aR m.f (m.u : Int))≠none:=by
        rw [hb.wD]
        cases h : R.find m.f (m.u : Int) with
        | some x=>simp
        | none=>
          unfold Rb.find at h
          have:=List.find?_eq_none.1 h m h1
          simp at this
      cases h : ey vs (aR m.f (m.u : Int)) with
      | none=>exact absurd h hv
      | some v=>
        refine ⟨(aR m.f (m.u : Int),v),List.mem_filter.2 ⟨(c7 hb.l6.keys).1 h,?_⟩,rfl⟩
        rw [decide_eq_true_eq]
        exact (nw (sO (k.fold m h1))).2 rfl
end Bx
end
section
set_option maxRecDepth 10000
open Sl
theorem nA : aI Tryz.prog 62:=⟨_,Tryz.func62,rfl,by kernel_rfl⟩
theorem um : aI Tryz.prog 85:=⟨_,Tryz.func85,rfl,by kernel_rfl⟩
set_option maxHeartbeats 2000000 in
theorem wF (s d : List Bt) (w : World) : Calls Tryz.prog 85 [Z s,Z d].toArray w fun e w'=>e=.returned (.bool (decide (s.take d.length=d)))∧Ext w w':=by
  refine enter (n:=18) Tryz.func85 rfl rfl rfl (Holds.start w []) ?_
  cases h1 : decide ((d.length : Int)≤(s.length : Int))
  · have hF : decide (s.take d.length=d)=false:=decide_eq_false fun e=>by
      have:=congrArg List.length e
      rw [List.length_take] at this
      have:=of_decide_eq_false h1
      omega
    rw [hF]
    repeat (first | refine JL.q (by first|(apply OQ.nM;exact Tryz.underlying9;rfl)|(apply OQ.fT (b:=(d.length : Int));rfl;rfl;exact h1)|(apply OQ.aW;rfl;rfl)|(apply OQ.move;rfl)|(apply OQ.assign;rfl)) rfl ?_ | refine JC.seq ?_ | refine JC.region ?_ | refine JL.nil ?_ | refine JE.next ?_ | refine JL.bO rfl rfl rfl rfl ?_)
    exact JC.ret (JE.aP rfl (RV.tmp rfl) fun w' hw=>⟨rfl,hw.aS⟩)
  · have hle : d.length≤s.length:=by have:=of_decide_eq_true h1;omega
    cases h2 : decide (s.take d.length=d)
    all_goals (repeat (first | refine JL.q (by first|(apply OQ.nM;exact Tryz.underlying9;rfl)|(apply OQ.fT (b:=(d.length : Int));rfl;rfl;exact h1)|(apply OQ.xI (j:=d.length);exact Tryz.underlying9;rfl;rfl;exact hle)|(apply OQ.A2;rfl;rfl;exact h2)|(apply OQ.bg;rfl;rfl)|(apply OQ.move;rfl)|(apply OQ.assign;rfl)) rfl ?_ | refine JC.seq ?_ | refine JC.region ?_ | refine JL.nil ?_ | refine JE.next ?_ | refine JL.aD rfl rfl ?_))
    all_goals exact JC.ret (JE.aP rfl (RV.tmp rfl) fun w' hw=>⟨rfl,hw.aS⟩)
theorem wG (s d : List Bt) (w : World) : Calls Tryz.prog 62 [Z s,Z d].toArray w fun e w'=>e=.returned (.bool (decide (s.take d.length=d)))∧Ext w w':=by
  refine enter (n:=8) Tryz.func62 rfl rfl rfl (Holds.start w []) ?_
  have hq:=fun w'=>wF s d w'
  repeat (first | refine JL.q (by first|(apply OQ.aB (vs:=[Z s,Z d]);exact um;rfl;exact (fun w' _=>hq w'))|(apply OQ.move;rfl)|(apply OQ.assign;rfl)) rfl ?_ | refine JC.seq ?_ | refine JC.region ?_ | refine JL.nil ?_ | refine JE.next ?_)
  exact JC.ret (JE.aP rfl (RV.tmp rfl) fun w' hw=>⟨rfl,hw.aS⟩)
end
section
set_option maxRecDepth 10000
open Sl dc dz gh
theorem Aq : dH Tryz.prog 9=some 1:=by kernel_rfl
theorem wH : EI Tryz.prog 9 (Z []) 1 16:=by unfold EI;kernel_rfl
def eC (front k : Bk) : Bool:=decide (k.take front.length=front)
def cj (mm : MV) (front : Bk) : List Bk:=bY ((mm.filter fun e=>eC front e.key).map ME.key)
theorem wI {ks ts : List Bk} (h : ks.Perm ts) : bY ks=bY ts:=
  List.Perm.eq_of_pairwise (le:=fun a b=>ec b a=false) (fun a b _ _ h1 h2=>by
    by_cases e : a=b
    · exact e
    · have:=gG a b e h2;rw [h1] at this;cases this) (ir ks) (ir ts) ((fC ks).trans (h.trans (fC ts).symm))
theorem pY {mm : MV} {vs : VL} (hs : iy vs) (hm : gY mm vs) (front : Bk) : cj mm front=(vs.filter fun p=>eC front p.1).map Prod.fst:=by
  unfold cj
  refine wq ?_ ?_
  · have h:=(hm.filter fun p=>eC front p.1).map Prod.fst
    unfold yl at h
    rw [List.filter_map,List.map_map] at h
    exact h
  · rw [List.pairwise_map]
    exact hs.sublist List.filter_sublist
theorem uo {mm : MV} {front : Bk} : (cj mm front).length≤mm.length:=by
  unfold cj
  rw [eR,List.length_map]
  exact List.length_filter_le _ _
structure Ks where
  q : Acc
  done : MV
  rest : MV
def Ks.ks (z : Ks) (front : Bk) : List Bk:=(z.done.filter fun e=>eC front e.key).map ME.key
theorem nB : aI Tryz.prog 49:=⟨_,Tryz.func49,rfl,by kernel_rfl⟩
set_option maxHeartbeats 16000000 in
theorem pZ (b : Nat) (mm : MV) (c : Nat) (front : Bk) (w : World) (hf : WF mm c) (hb : ∃ o,w.heap[b]?=some o∧dJ (mm,c) o) (hn : mm.length≤4294967296) :
    Calls Tryz.prog 49 [.map (some b),Z front].toArray w fun e w'=>∃ q : {q : Acc // q=none→cj mm front=[]},e=.returned (av q.1 (cj mm front).length)∧Holds w [] (af 9 q.1 ((cj mm front).map Z)) w':=by
  obtain ⟨o,ho,hA⟩:=hb
  refine enter (n:=23) Tryz.func49 rfl rfl rfl (Holds.seen (S:=[]) ho hA) ?_
  repeat (first | refine JL.q (by first|(apply OQ.move;rfl)|(apply OQ.assign;rfl)) rfl ?_ | refine JC.seq ?_ | refine JC.region ?_ | refine JL.nil ?_ | refine JE.next ?_)
  refine JL.mapRange Tryz.underlying94 rfl .here rfl fun r _=>?_
  repeat (first | refine JC.block ?_ | refine JL.nil ?_ | refine JE.next ?_)
  refine JC.loop (fun z : Ks=>[(1,Z front),(5,av z.q (z.ks front).length),(8,Pt r 0)]) (fun z=>⟨r,IB b c (z.done.map ME.born) c,true⟩::⟨b,dJ (mm,c),false⟩::af 9 z.q ((z.ks front).map Z)) (fun z=>z.rest.length) (fun z=>(z.done++z.rest).Perm mm∧(z.q=none→z.ks front=[])) ⟨none,[],mm⟩ ⟨.refl _,fun _=>rfl⟩ (by repeat (first | exact ah.nil | refine ah.cons _ _ _ rfl ?_)) (ak.refl _) ?_
  rintro ⟨q,done,rest⟩ ⟨hp,hq⟩
  dsimp only [Ks.ks] at hp hq ⊢
  generalize hks : (done.filter fun e=>eC front e.key).map ME.key=ks at hq
  have hlen : ks.length≤mm.length:=by
    rw [← hks,List.length_map]
    refine Nat.le_trans (List.length_filter_le _ _) ?_
    rw [← hp.length_eq,List.length_append]
    omega
  repeat (first | refine JC.seq ?_ | refine JC.region ?_)
  refine JL.mapNext (f:=az.v) hf rfl (.there .here) (fun s'=>.here) rfl (fun hall=>?_) (fun m hm hnew=>?_)
  · repeat (first | refine JL.q (by (apply OQ.extract;rfl;rfl)) rfl ?_ | refine JC.seq ?_ | refine JL.nil ?_ | refine JE.next ?_)
    refine JC.cond_false rfl rfl ?_
    have hr : rest=[]:=by
      cases rest with
      | nil=>rfl
      | cons x rest=>
        obtain ⟨y,hy,e⟩:=List.mem_map.1 (hall x (hp.mem_iff.1 (by simp)))
        have hnd:=(hp.map ME.born).nodup_iff.2 hf.pJ
        rw [List.map_append,List.map_cons,List.nodup_append] at hnd
        exact absurd e (hnd.2.2 _ (List.mem_map_of_mem hy) _ (by simp))
    subst hr
    rw [List.append_nil] at hp
    have hkk : bY ks=cj mm front:=by
      rw [← hks]
      exact wI ((hp.filter _).map _)
    repeat (first | refine JL.q (by (apply OQ.move;rfl)) rfl ?_ | refine JC.seq ?_ | refine JC.region ?_ | refine JC.exit ?_ | refine JE.next ?_ | refine JE.aH ?_ | refine JE.aX ?_)
    refine JL.perm (M':=af 9 q (ks.map Z)++[⟨r,IB b c (done.map ME.born) c,true⟩,⟨b,dJ (mm,c),false⟩]) ?_ (by exact List.perm_append_comm (l₁:=[_,_]))
    refine JL.bI (ι:=Unit) (vs:=[av q ks.length]) (fun _=>.tuple #[]) (fun _=>af 9 q ((bY ks).map Z)) ri rfl rfl (aM _ _ _) (fun _=>aM _ _ _) (fun w' h0 hw'=>(uh q ks hq (by omega) w' hw').mono fun _ _ ⟨h1,h2⟩=>⟨(),h1,h2⟩) fun _=>?_
    rw [hkk]
    have hl2 : ks.length=(cj mm front).length:=by rw [← hkk,eR]
    rw [hl2]
    repeat (first | refine JL.q (by first|(apply OQ.move;rfl)|(apply OQ.assign;rfl)) rfl ?_ | refine JC.seq ?_ | refine JC.region ?_ | refine JL.nil ?_ | refine JE.next ?_)
    exact JC.ret (JE.aP rfl (RV.tmp rfl) fun w' hw=>⟨⟨q,fun e=>by rw [← hkk,hq e];exact List.length_eq_zero_iff.1 (eR [])⟩,rfl,hw.weak (an _ _)⟩)
  · have hmr : m ∈ rest:=by
      rcases List.mem_append.1 (hp.mem_iff.2 hm) with h | h
      · exact absurd (List.mem_map_of_mem h) hnew
      · exact h
    obtain ⟨s1,s2,rfl⟩:=List.append_of_mem hmr
    have hp' : ((done++[m])++(s1++s2)).Perm mm:=by
      refine List.Perm.trans ?_ hp
      rw [List.append_assoc]
      exact (List.Perm.append_left _ (by rw [List.singleton_append];exact List.perm_middle.symm))
    have hmu : (s1++s2).length<(s1++m::s2).length:=by simp
    repeat (first | refine JL.q (by (apply OQ.extract;rfl;rfl)) rfl ?_ | refine JC.seq ?_ | refine JL.nil ?_ | refine JE.next ?_)
    refine JC.cond_true rfl rfl ?_
    have hpx:=fun w'=>wG m.key front w'
    cases g1 : decide (m.key.take front.length=front)
    · rw [g1] at hpx
      repeat (first | refine JL.q (by first|(apply OQ.entry;exact hf;rfl;exact (.there .here);exact .here;exact hm)|(apply OQ.extract;rfl;rfl)|(apply OQ.aB (vs:=[Z m.key,Z front]);exact nA;rfl;exact (fun w' _=>hpx w'))|(apply OQ.move;rfl)|(apply OQ.assign;rfl)) rfl ?_ | refine JC.seq ?_ | refine JC.region ?_ | refine JC.block ?_ | refine JC.skip ?_ | refine JL.nil ?_ | refine JE.next ?_)
      refine JC.cond_false rfl rfl ?_
      repeat (first | refine JC.skip ?_ | refine JE.au ?_)
      have hk2 : ((done++[m]).filter fun e=>eC front e.key).map ME.key=ks:=by
        rw [List.filter_append,List.map_append,hks]
        have : eC front m.key=false:=g1
        simp [this]
      refine JE.again (i:=Ks.mk q done (s1++m::s2)) ⟨q,done++[m],s1++s2⟩ ⟨hp',?_⟩ hmu ?_ ?_
      · dsimp only [Ks.ks];rw [hk2];exact hq
      · dsimp only [Ks.ks];rw [hk2];exact (by repeat (first | exact ah.nil | refine ah.cons _ _ _ rfl ?_))
      · dsimp only [Ks.ks];rw [hk2,List.map_append];exact ak.refl _
    · rw [g1] at hpx
      repeat (first | refine JL.q (by first|(apply OQ.entry;exact hf;rfl;exact (.there .here);exact .here;exact hm)|(apply OQ.extract;rfl;rfl)|(apply OQ.aB (vs:=[Z m.key,Z front]);exact nA;rfl;exact (fun w' _=>hpx w'))|(apply OQ.move;rfl)|(apply OQ.assign;rfl)) rfl ?_ | refine JC.seq ?_ | refine JC.region ?_ | refine JC.block ?_ | refine JC.skip ?_ | refine JL.nil ?_ | refine JE.next ?_)
      refine JC.cond_true rfl rfl ?_
      repeat (first | refine JL.q (by (apply OQ.move;rfl)) rfl ?_ | refine JC.region ?_)
      refine JL.j7 (v:=Z m.key) Tryz.underlying33 wH rfl rfl rfl rfl fun bl _=>?_
      refine JL.perm (M':=af 9 q (ks.map Z)++[⟨bl,Row 9 [Z m.key],true⟩,⟨r,IB b c (done.map ME.born++[m.born]) c,true⟩,⟨b,dJ (mm,c),false⟩]) ?_ (by exact List.perm_append_comm (l₁:=[_,_,_]))
      refine JL.cZ (xs:=ks.map Z) (cs:=[Z m.key]) (m:=1) (ad:=some ⟨bl,0,none⟩) (sc:=1) q Tryz.underlying33 wH (fun e=>by rw [hq e];rfl) (by rw [List.length_map];rfl) rfl rfl (fun w' hw'=>?_) (by simp [Value.oneCell']) rfl (by rw [List.length_map];omega) (by rw [List.length_map];omega) rfl fun q1 hq1=>?_
      · obtain ⟨o,ho,hA⟩:=hw'.get (b:=bl) (A:=Row 9 [Z m.key]) (wr:=true) (aZ .here)
        exact Reads.block ho (Row.all o hA)
      have hk2 : ((done++[m]).filter fun e=>eC front e.key).map ME.key=ks++[m.key]:=by
        rw [List.filter_append,List.map_append,hks]
        have : eC front m.key=true:=g1
        simp [this]
      rw [show ks.map Z++[Z m.key]=(ks++[m.key]).map Z by simp,List.length_map]
      repeat (first | refine JL.q (by (apply OQ.assign;rfl)) rfl ?_ | refine JL.nil ?_ | refine JE.au ?_)
      refine JE.perm (List.perm_append_comm (l₂:=[_,_,_])) ?_
      refine JE.again (i:=Ks.mk q done (s1++m::s2)) ⟨q1,done++[m],s1++s2⟩ ⟨hp',?_⟩ hmu ?_ ?_
      · dsimp only [Ks.ks];rw [hk2];intro e;have:=hq1 e;simp at this
      · dsimp only [Ks.ks];rw [hk2];exact (by repeat (first | exact ah.nil | refine ah.cons _ _ _ rfl ?_))
      · dsimp only [Ks.ks];rw [hk2,List.map_append];exact .drop _ _ _ (ak.refl _)
def aF (mm : MV) : List aE:=(cj mm []).map fun k=>⟨k,(look mm k).getD bB,false⟩
theorem oa {mm : MV} {k : Bk} {s : az} : look mm k=some s→∃ e ∈ mm,e.key=k∧e.val=s:=by
  induction mm with
  | nil=>intro h;cases h
  | cons x mm ih=>
    intro h
    rw [tY] at h
    split at h
    · next hk=>exact ⟨x,by simp,hk.symm,Option.some.inj h⟩
    · obtain ⟨e,he,h1⟩:=ih h
      exact ⟨e,by simp [he],h1⟩
theorem p5 {mm : MV} {vs : VL} {c : Nat} (hf : WF mm c) (hs : iy vs) (hm : gY mm vs) (k : Bk) : (look mm k).map az.l=ey vs k:=by
  cases h : look mm k with
  | none=>
    have h1:=jG.1 h
    cases h2 : ey vs k with
    | none=>rfl
    | some v=>
      have:=hm.mem_iff.2 ((c7 hs.keys).1 h2)
      obtain ⟨e,he,h3⟩:=List.mem_map.1 this
      exact absurd (List.mem_map.2 ⟨e,he,congrArg Prod.fst h3⟩) h1
  | some s=>
    obtain ⟨e,he,h1,h2⟩:=oa h
    exact ((c7 hs.keys).2 (hm.mem_iff.1 (List.mem_map.2 ⟨e,he,by rw [h1,h2]⟩))).symm
theorem uq {mm : MV} {vs : VL} {c : Nat} (hf : WF mm c) (hs : iy vs) (hm : gY mm vs) : (aF mm).map aE.p=cm vs:=by
  unfold aF cm
  rw [pY hs hm,List.filter_eq_self.2 fun p _=>by show decide (p.1.take 0=[])=true;simp,List.map_map,List.map_map]
  refine List.map_congr_left fun p hp=>?_
  have h:=p5 hf hs hm p.1
  rw [(c7 hs.keys).2 (show (p.1,p.2) ∈ vs from hp)] at h
  cases h2 : look mm p.1 with
  | none=>rw [h2] at h;cases h
  | some s=>
    rw [h2] at h
    simp only [Option.map_some,Option.some.injEq] at h
    simp [aE.p,h2,h]
theorem ur {mm : MV} {p : aE} (h : p ∈ aF mm) : p.s=bB∨p.s ∈ mm.map ME.val:=by
  obtain ⟨k,_,rfl⟩:=List.mem_map.1 h
  dsimp only
  cases h2 : look mm k with
  | none=>exact .inl rfl
  | some s=>
    obtain ⟨e,he,_,h1⟩:=oa h2
    exact .inr (List.mem_map.2 ⟨e,he,h1⟩)
theorem rB {mm : MV} : (aF mm).length≤mm.length:=by unfold aF;rw [List.length_map];exact uo
section
variable {n : Nat} {E : Env} {C : World→Prop} {dst : Option Tmp} {ty : TypeId} {pos : String} {aft : Array Edge} {g : Option (Nat × Bool)} {x1 x2 : Operand} {s : az}
theorem OQ.oc {key : Bk} (h1 : ev E x1=some (Z key)) (h2 : ev E x2=some s.v) :
    OQ Tryz.prog n E C ⟨dst,.build 67 #[(0,x1),(1,x2)],ty,pos,aft,g⟩ (.agg #[Z key,s.v,.bool false]):=
  OQ.run fun a ha w _=>by
    have e1:=ha.eval h1
    have e2:=ha.eval h2
    have r:=run_build (P:=Tryz.prog) w 67 #[(0,Z key),(1,s.v)] #[Z key,s.v,.bool false] (by kernel_rfl)
    simp [execOp,e1,e2,r]
end
theorem wJ : (Tryz.prog.info? 24).bind (·.zero)=some (.slice none 0 0):=by kernel_rfl
theorem Ar (o : Option az) : pO (o.map az.v) (.slice none 0 0) false=(o.getD bB).v:=by cases o <;> rfl
theorem rC : aI Tryz.prog 58:=⟨_,Tryz.func58,rfl,by kernel_rfl⟩
set_option maxHeartbeats 16000000 in
theorem uu (b : Nat) (mm : MV) (c : Nat) (w : World) (hf : WF mm c) (hb : ∃ o,w.heap[b]?=some o∧dJ (mm,c) o) (hn : mm.length≤4294967296) :
    Calls Tryz.prog 58 [.map (some b)].toArray w fun e w'=>∃ q : {q : Acc // q=none→aF mm=[]},e=.returned (av q.1 (aF mm).length)∧Holds w [] (cD 67 3 q.1 ((aF mm).map aE.cs)) w':=by
  have hb0:=hb
  obtain ⟨o,ho,hA⟩:=hb
  have hlen:=rB (mm:=mm)
  refine enter (n:=23) Tryz.func58 rfl rfl rfl (Holds.seen (S:=[]) ho hA) ?_
  repeat (first | refine JL.q (by first|(apply OQ.move;rfl)|(apply OQ.assign;rfl)) rfl ?_ | refine JC.seq ?_ | refine JC.region ?_ | refine JL.nil ?_ | refine JE.next ?_)
  refine JL.bq (ι:={q : Acc // q=none→cj mm []=[]}) (vs:=[.map (some b),Z []]) (fun q=>av q.1 (cj mm []).length) (fun q=>af 9 q.1 ((cj mm []).map Z)) nB rfl rfl (fun _=>aM _ _ _) (fun w' hw'=>pZ b mm c [] w' hf (hw'.get .here) hn) fun qk=>?_
  obtain ⟨qk,hqk⟩:=qk
  dsimp only
  have hpk : (aF mm).length=(cj mm []).length:=by unfold aF;rw [List.length_map]
  generalize hks : cj mm []=ks at hqk hpk
  have hav : ∃ (ad : Option Addr) (cap : Nat),av qk ks.length=.slice ad ks.length cap:=by
    cases qk with
    | none=>exact ⟨none,0,by rw [hqk rfl];rfl⟩
    | some p=>exact ⟨_,_,rfl⟩
  obtain ⟨ad,cap,hav⟩:=hav
  rw [hav]
  repeat (first | refine JL.q (by first|(apply OQ.len (k:=ks.length) (ad:=ad) (cap:=cap);exact Tryz.underlying33;rfl)|(apply OQ.move;rfl)) rfl ?_ | refine JC.block ?_ | refine JL.nil ?_ | refine JE.next ?_)
  rw [← hav]
  refine JC.loop (fun z : Nat × Acc=>[(0,.map (some b)),(3,av z.2 ((aF mm).take z.1).length),(7,av qk ks.length),(8,N ks.length),(9,N z.1)]) (fun z=>cD 67 3 z.2 (((aF mm).take z.1).map aE.cs)++(af 9 qk (ks.map Z)++[⟨b,dJ (mm,c),false⟩])) (fun z=>ks.length - z.1) (fun z=>z.1≤ks.length∧(z.2=none→(aF mm).take z.1=[])) (0,none) ⟨Nat.zero_le _,fun _=>rfl⟩ (by repeat (first | exact ah.nil | refine ah.cons _ _ _ rfl ?_)) (ak.refl _) ?_
  rintro ⟨i,q⟩ ⟨hi,hq⟩
  dsimp only at hi hq ⊢
  repeat (first | refine JL.q (by (apply OQ.fc;rfl;rfl)) rfl ?_ | refine JC.seq ?_ | refine JC.region ?_ | refine JL.nil ?_ | refine JE.next ?_)
  refine JC.cond rfl (fun hc=>?_) (fun hc=>?_)
  · have hi' : i<ks.length:=Nat.lt_of_not_le fun h=>by have:=of_decide_eq_true hc;omega
    clear hc
    cases qk with
    | none=>rw [hqk rfl] at hi';cases hi'
    | some p=>
    obtain ⟨gk,ck⟩:=p
    have hki : ks[i]?=some ks[i]:=List.getElem?_eq_getElem hi'
    generalize ks[i]=key at hki
    have hav2 : av (some (gk,ck)) ks.length=.slice (some ⟨gk,0,none⟩) ks.length ck:=rfl
    have ht : (aF mm).take (i+1)=(aF mm).take i++[⟨key,(look mm key).getD bB,false⟩]:=by
      rw [List.take_add_one]
      unfold aF
      rw [hks,List.getElem?_map,hki]
      rfl
    have hlv : ∃ sl,(look mm key).getD bB=sl:=⟨_,rfl⟩
    obtain ⟨sl,hsl⟩:=hlv
    have hlv : pO ((look mm key).map az.v) (.slice none 0 0) false=sl.v:=by rw [Ar,hsl]
    rw [hsl] at ht
    have hq0 : q=none→((aF mm).take i).map aE.cs=[]:=fun e=>by rw [hq e];rfl
    have hm : (((aF mm).take i).map aE.cs).length=((aF mm).take i).length:=List.length_map _
    have hml : ((aF mm).take i).length≤4294967296:=by rw [List.length_take];omega
    have hkz : (ks.map Z)[i]?=some (Z key):=by rw [List.getElem?_map,hki];rfl
    repeat (first | refine JL.q (by first|(apply OQ.yY (i:=i);exact Tryz.underlying33;exact Aq;exact (congrArg some hav2);rfl;exact hi')|(apply OQ.load;exact qy;rfl;exact (aZ .here);exact (Sl.Own.cell hkz))|(apply OQ.to;exact (OQ.look (ok:=false) Tryz.underlying94 Tryz.underlying9 wJ rfl rfl (aZ (.there .here)));exact hlv)|(apply OQ.oc;rfl;rfl)|(apply OQ.move;rfl)|(apply OQ.assign;rfl)) rfl ?_ | refine JC.seq ?_ | refine JC.region ?_ | refine JC.block ?_ | refine JC.skip ?_ | refine JL.nil ?_ | refine JE.next ?_)
    refine JL.s8 (cs:=(aE.mk key sl false).cs) Tryz.underlying70 zm rfl (by decide) (by decide) rfl rfl rfl fun bl _=>?_
    refine JL.iJ (c:=(aE.mk key sl false).cs) (L:=((aF mm).take i).map aE.cs) q Tryz.underlying70 zm hq0 (by rw [hm];rfl) rfl rfl (fun u hu=>List.all_eq_true.1 (aE.one _) u hu) rfl (by decide) (by rw [hm];omega) (by rw [hm];omega) rfl fun b' cap'=>?_
    have eM : ((aF mm).take i).map aE.cs++[(aE.mk key sl false).cs]=((aF mm).take (i+1)).map aE.cs:=by rw [ht,List.map_append,List.map_singleton]
    rw [eM,List.length_map]
    repeat (first | refine JL.q (by first|(apply OQ.move;rfl)|(apply OQ.assign;rfl)|(apply OQ.addN;rfl;rfl;exact (by (try simp only []);omega))) rfl ?_ | refine JC.region ?_ | refine JL.nil ?_ | refine JE.next ?_ | refine JE.au ?_)
    exact JE.again (i:=(i,q)) (i+1,some (b',cap')) ⟨hi',nofun⟩ (by dsimp only;omega) (by repeat (first | exact ah.nil | refine ah.cons _ _ _ rfl ?_)) (ak.refl _)
  · have hi' : i=ks.length:=by have:=of_decide_eq_false hc;omega
    have hf : (aF mm).take i=aF mm:=List.take_of_length_le (by omega)
    rw [hf] at hq ⊢
    repeat (first | refine JL.q (by first|(apply OQ.move;rfl)|(apply OQ.assign;rfl)) rfl ?_ | refine JC.seq ?_ | refine JC.region ?_ | refine JC.exit ?_ | refine JL.nil ?_ | refine JE.next ?_ | refine JE.aH ?_ | refine JE.aX ?_)
    exact JC.ret (JE.aP rfl (RV.tmp rfl) fun w' hw=>⟨⟨q,hq⟩,rfl,hw.weak (an _ _)⟩)
end
section
set_option maxRecDepth 10000
open Sl dc dz gh
namespace gh
def rD (p : Pq) : Nat:=7+p.key.length+p.val.length
def gL (l : List Pq) : Nat:=(l.map rD).sum
def je (vs : VL) : Nat:=(vs.map fun p=>7+p.1.length+p.2.length).sum
theorem cx (p : Bk × Bk) (vs : VL) : je (p::vs)=7+p.1.length+p.2.length+je vs:=by simp [je]
theorem dV (p : Pq) (l : List Pq) : gL (p::l)=rD p+gL l:=by simp [gL]
theorem rE (a b : List Pq) : gL (a++b)=gL a+gL b:=by simp [gL]
theorem sP (k v : Bk) : ∀ (vs : VL),je (eO k v vs)≤7+k.length+v.length+je vs
  | []=>by simp [eO,je]
  | p::vs=>by
    have ih:=sP k v vs
    rw [eO]
    split
    · rw [cx,cx];omega
    · split
      · rw [cx,cx];simp only;omega
      · rw [cx];simp only;omega
theorem od (k : Bk) : ∀ (vs : VL),je (jE k vs)≤je vs
  | []=>Nat.le_refl _
  | p::vs=>by
    have ih:=od k vs
    rw [jE]
    split
    · rw [cx,cx];omega
    · split
      · rw [cx];omega
      · exact Nat.le_refl _
theorem As (vs : VL) (p : Pq) : je (tX vs p)≤je vs+rD p:=by
  unfold tX rD
  split
  · have:=od p.key vs;omega
  · have:=sP p.key p.val vs;omega
theorem iw : ∀ (l : List Pq) (vs : VL),je (cu vs l)≤je vs+gL l
  | [],vs=>by simp [cu]
  | p::l,vs=>by
    have h1:=iw l (tX vs p)
    have h2:=As vs p
    rw [dV]
    show je (cu (tX vs p) l)≤_
    omega
theorem oe (vs : VL) : 7 * vs.length≤je vs:=by
  induction vs with
  | nil=>simp [je]
  | cons p vs ih=>rw [cx,List.length_cons];omega
theorem og {vs : VL} {p : Bk × Bk} (h : p ∈ vs) : p.1.length+p.2.length≤je vs:=by
  induction vs with
  | nil=>cases h
  | cons q vs ih=>
    rw [cx]
    rcases List.mem_cons.1 h with rfl | h
    · omega
    · have:=ih h;omega
theorem oh (l : List Pq) : (aQ l).length=gL l:=by
  induction l with
  | nil=>rfl
  | cons p l ih=>
    have e : aQ (p::l)=gi p++aQ l:=rfl
    rw [e,List.length_append,pI,ih,dV]
    rfl
theorem nC (vs : VL) : gL (cm vs)=je vs:=by
  unfold gL je cm
  rw [List.map_map]
  rfl
def okV (vs : VL) : Prop:=∀ p ∈ vs,1≤p.1.length∧p.1.length≤1000
theorem wK {p : Pq} (h : jk p=true) : 1≤p.key.length∧p.key.length≤1000:=⟨(gF h).1,(gF h).2.1⟩
theorem Au {vs : VL} {p : Pq} (h : okV vs) (hp : jk p=true) : okV (tX vs p):=by
  unfold tX
  split
  · exact fun q hq=>h q ((iW _ _).subset hq)
  · intro q hq
    rcases iV hq with rfl | hq
    · exact wK hp
    · exact h q hq
theorem om : ∀ {l : List Pq} {vs : VL},okV vs→fu l=true→okV (cu vs l)
  | [],_,h,_=>h
  | p::l,vs,h,hl=>by
    unfold fu at hl
    rw [List.all_cons,Bool.and_eq_true] at hl
    exact om (l:=l) (Au h hl.1) hl.2
theorem nD {vs : VL} (h : okV vs) : fu (cm vs)=true:=by
  unfold fu cm
  rw [List.all_map,List.all_eq_true]
  intro p hp
  have:=h p hp
  show jk ⟨p.1,p.2,false⟩=true
  unfold jk
  simp only [Bool.and_eq_true,decide_eq_true_eq,Bool.false_and,Bool.not_false,and_true]
  exact ⟨this.1,this.2⟩
theorem nE : ∀ {rs : List Bk} {l : List Pq},aN rs=some l→fu l=true∧gL l=(rs.map List.length).sum
  | [],l,h=>by rw [aN,Option.some.injEq] at h;subst h;exact ⟨rfl,rfl⟩
  | r::rs,l,h=>by
    rw [aN] at h
    cases h1 : dec r with
    | none=>rw [h1] at h;cases h
    | some a=>
      cases h2 : aN rs with
      | none=>rw [h1,h2] at h;cases h
      | some b=>
        rw [h1,h2] at h
        cases h
        have ⟨i1,i2⟩:=nE h2
        have ⟨j1,j2⟩:=qW h1
        refine ⟨by unfold fu at *;rw [List.all_append,j1,i1];rfl,?_⟩
        rw [rE,i2,List.map_cons,List.sum_cons,← j2]
        rfl
theorem sQ (rs : List Bk) : (rs.map List.length).sum≤42 * room rs:=by
  induction rs with
  | nil=>simp
  | cons r rs ih=>
    rw [dK,List.map_cons,List.sum_cons]
    have : r.length≤42 * nb r.length:=by unfold nb;omega
    omega
end gh
structure Sz where
  p : Nat
  mb : Nat
  mm : MV
  c : Nat
  j : Nat
  h : Hf
  bl : List Bk
def Sz.cs (z : Sz) : List Value:=[Pt z.j 0,.map (some z.mb)]
def Sz.E (z : Sz) : List aj:=⟨z.p,Row 96 z.cs,true⟩::⟨z.mb,dJ (z.mm,z.c),true⟩::(bU z.j z.h z.bl []++aC (z.mm.map ME.val))
theorem Sz.wr (z : Sz) : ∀ e ∈ z.E,e.wr=true:=by
  intro e he
  rcases List.mem_cons.1 he with rfl | he
  · rfl
  · rcases List.mem_cons.1 he with rfl | he
    · rfl
    · rcases List.mem_append.1 he with he | he
      · exact cl _ _ _ _ e he
      · exact iO _ e he
structure Sz.ok (z : Sz) (aa : List Bk) (vs : VL) : Prop where
  wf : WF z.mm z.c
  is : gY z.mm vs
  l6 : iy vs
  h0 : ∀ x ∈ z.mm.map ME.val,x.ad=none→x.l=[]
  jv : Jv z.h z.bl aa
  dk : br z.h.x z.bl []
  vals : ez aa=some vs
namespace Sz.ok
variable {z : Sz} {aa : List Bk} {vs : VL}
theorem sz (k : z.ok aa vs) : je vs≤1400000∧okV vs:=by
  have h:=k.vals
  unfold ez at h
  cases hd : aN aa with
  | none=>rw [hd] at h;cases h
  | some l=>
    rw [hd,Option.map_some,Option.some.injEq] at h
    have ⟨h1,h2⟩:=nE hd
    have h3:=iw l []
    rw [h] at h3
    have h4:=sQ aa
    have h5:=k.jv.r
    have h6:=k.jv.fs
    refine ⟨?_,h ▸ om (fun _ h=>by cases h) h1⟩
    have : je ([] : VL)=0:=rfl
    omega
theorem len (k : z.ok aa vs) : z.mm.length=vs.length:=by have:=k.is.length_eq;unfold yl at this;rwa [List.length_map] at this
theorem B7 (k : z.ok aa vs) : z.mm.length≤200000:=by have:=k.len;have:=oe vs;have:=k.sz.1;omega
theorem val (k : z.ok aa vs) {x : az} (h : x ∈ z.mm.map ME.val) : x.l.length≤1400000:=by
  obtain ⟨e,he,rfl⟩:=List.mem_map.1 h
  have:=og (k.is.mem_iff.1 (List.mem_map.2 ⟨e,he,rfl⟩))
  have:=k.sz.1
  dsimp only at *
  omega
theorem Cw (k : z.ok aa vs) {u w : World} {S : List Nat} {M : List aj} (hw : Holds u S (z.E++M) w) : ∀ x ∈ z.mm.map ME.val,x.ok w:=
  ko (A:=[⟨z.p,Row 96 z.cs,true⟩,⟨z.mb,dJ (z.mm,z.c),true⟩]++bU z.j z.h z.bl []) (by
    have h:=hw.weak (M':=z.E) (an _ _)
    unfold Sz.E at h
    simpa using h) k.h0
end Sz.ok
def Bq (p mb : Nat) (cs : List Value) (z : MV × Nat) : List aj:=[⟨p,Row 96 cs,false⟩,⟨mb,dJ z,false⟩]
theorem wL {z : Sz} {u w : World} {S : List Nat} {M : List aj} (hw : Holds u S (z.E++M) w) : Holds w [] (Bq z.p z.mb z.cs (z.mm,z.c)) w:=
  (fU hw).weak (.keep _ _ _ _ _ _ (fun _ h=>h) (.keep _ _ _ _ _ _ (fun _ h=>h) (.nil _)))
theorem wM : dY Tryz.prog 92=true:=by kernel_rfl
theorem p6 : dY Tryz.prog 94=true:=by kernel_rfl
theorem uv : aI Tryz.prog 32:=⟨_,Tryz.func32,rfl,by kernel_rfl⟩
theorem rF : aI Tryz.prog 33:=⟨_,Tryz.func33,rfl,by kernel_rfl⟩
theorem yC (o : Option az) : pO (o.map az.v) (.slice none 0 0) true=.tuple #[(o.getD bB).v,.bool o.isSome]:=by cases o <;> rfl
set_option maxHeartbeats 8000000 in
theorem yD (p mb : Nat) (j : Value) (mm : MV) (c : Nat) (key : Bk) (w : World) (h0 : Holds w [] (Bq p mb [j,.map (some mb)] (mm,c)) w) (hv : ∀ x ∈ mm.map ME.val,x.ok w∧x.l.length≤4294967296) :
    Calls Tryz.prog 32 [Pt p 0,Z key].toArray w fun e w'=>∃ q : {q : Acc // q=none→((look mm key).getD bB).l=[]},e=.returned (.tuple #[av q.1 ((look mm key).getD bB).l.length,.bool (look mm key).isSome])∧Holds w [] (af 5 q.1 (((look mm key).getD bB).l.map U8)) w':=by
  have hs : ((look mm key).getD bB).ok w∧((look mm key).getD bB).l.length≤4294967296:=by
    cases h2 : look mm key with
    | none=>exact ⟨fh w,by show (0 : Nat)≤_;omega⟩
    | some s=>
      obtain ⟨e,he,_,h1⟩:=oa h2
      exact hv s (List.mem_map.2 ⟨e,he,h1⟩)
  have hlv:=yC (look mm key)
  refine enter (n:=20) Tryz.func32 rfl rfl rfl h0 ?_
  unfold Bq
  generalize hsl : (look mm key).getD bB=sl at hs hlv
  generalize (look mm key).isSome=is at hlv
  repeat (first | refine JL.q (by first|(apply OQ.load;exact p6;rfl;exact .here;exact (Row.cell (v:=.map (some mb)) rfl))|(apply OQ.to;exact (OQ.look (ok:=true) Tryz.underlying94 Tryz.underlying9 wJ rfl rfl (.there .here));exact hlv)|(apply OQ.extract;rfl;rfl)|(apply OQ.move;rfl)|(apply OQ.assign;rfl)|(apply OQ.bx;rfl)|(apply OQ.bA;rfl;rfl;rfl;exact (by decide);rfl)) rfl ?_ | refine JC.seq ?_ | refine JC.region ?_ | refine JL.nil ?_ | refine JE.next ?_)
  refine JL.bq (ι:={ q : Acc // q=none→sl.l=[] }) (vs:=[sl.v]) (fun q=>av q.1 sl.l.length) (fun q=>af 5 q.1 (sl.l.map U8)) lK rfl rfl (fun q=>aM _ _ _) (fun w' hw'=>(ni sl w' (hs.1.holds hw' rfl) hs.2).mono fun e w2 ⟨q,h1,h2,h3⟩=>⟨⟨q,h2⟩,h1,h3⟩) fun q=>?_
  repeat (first | refine JL.q (by first|(apply OQ.move;rfl)|(apply OQ.assign;rfl)) rfl ?_ | refine JL.nil ?_ | refine JE.next ?_)
  exact JC.ret (JE.cg rfl (RV.tmp rfl) (RV.tmp rfl) fun w' hw=>⟨q,rfl,hw.weak (an _ _)⟩)
set_option maxHeartbeats 8000000 in
theorem uw (p mb : Nat) (j : Value) (mm : MV) (c : Nat) (front : Bk) (w : World) (hf : WF mm c) (h0 : Holds w [] (Bq p mb [j,.map (some mb)] (mm,c)) w) (hn : mm.length≤4294967296) :
    Calls Tryz.prog 33 [Pt p 0,Z front].toArray w fun e w'=>∃ q : {q : Acc // q=none→cj mm front=[]},e=.returned (av q.1 (cj mm front).length)∧Holds w [] (af 9 q.1 ((cj mm front).map Z)) w':=by
  refine enter (n:=11) Tryz.func33 rfl rfl rfl h0 ?_
  unfold Bq
  repeat (first | refine JL.q (by first|(apply OQ.load;exact p6;rfl;exact .here;exact (Row.cell (v:=.map (some mb)) rfl))|(apply OQ.move;rfl)|(apply OQ.assign;rfl)|(apply OQ.bx;rfl)|(apply OQ.bA;rfl;rfl;rfl;exact (by decide);rfl)) rfl ?_ | refine JC.seq ?_ | refine JC.region ?_ | refine JL.nil ?_ | refine JE.next ?_)
  refine JL.bq (ι:={q : Acc // q=none→cj mm front=[]}) (vs:=[.map (some mb),Z front]) (fun q=>av q.1 (cj mm front).length) (fun q=>af 9 q.1 ((cj mm front).map Z)) nB rfl rfl (fun _=>aM _ _ _) (fun w' hw'=>pZ mb mm c front w' hf (hw'.get (.there .here)) hn) fun q=>?_
  repeat (first | refine JL.q (by (apply OQ.assign;rfl)) rfl ?_ | refine JL.nil ?_ | refine JE.next ?_)
  exact JC.ret (JE.aP rfl (RV.tmp rfl) fun w' hw=>⟨q,rfl,hw.weak (an _ _)⟩)
end
section
set_option maxRecDepth 10000
open Sl dc dz gh
def Br (q : Acc) (l : List aE) : dU:=match q with
  | none=>⟨none,0,[]⟩
  | some p=>⟨some ⟨p.1,0,none⟩,p.2,l⟩
theorem Bu {q : Acc} {l : List aE} (h : q=none→l=[]) : (Br q l).l=l:=by
  cases q with
  | none=>exact (h rfl).symm
  | some p=>rfl
theorem Bw {q : Acc} {l : List aE} (h : q=none→l=[]) : (Br q l).v=av q l.length:=by
  cases q with
  | none=>rw [h rfl];rfl
  | some p=>rfl
theorem wN {q : Acc} {l : List aE} {w0 w : World} {S : List Nat} {M : List aj} (h : q=none→l=[]) (hw : Holds w0 S (cD 67 3 q (l.map aE.cs)++M) w) (ha : ∀ p ∈ l,p.s.ok w) : (Br q l).ok w:=by
  cases q with
  | none=>exact ⟨Nat.le_refl _,Reads.nil _ _,nofun⟩
  | some p=>
    obtain ⟨o,ho,hA⟩:=hw.get (b:=p.1) (A:=Sl.Own 67 3 (l.map aE.cs).length p.2 (l.map aE.cs).flatten) (wr:=true) .here
    have hc:=hA
    obtain ⟨sp,_,_,_,h4⟩:=hc
    rw [List.length_map] at h4
    exact ⟨h4,Reads.block ho (Sl.Own.cells o hA),ha⟩
theorem rG (A B : List aj) (c p m : aj) (J F : List aj) : (A++(B++(c::p::m::(J++F)))).Perm (J++(A++(B++(c::p::m::F)))):=by
  have:=List.perm_append_comm_assoc (A++(B++[c,p,m])) J F
  simpa using this
def Sz.put (z : Sz) (mc : MV × Nat) (h : Hf) (bl : List Bk) : Sz:=⟨z.p,z.mb,mc.1,mc.2,z.j,h,bl⟩
theorem ux : aI Tryz.prog 40:=⟨_,Tryz.func40,rfl,by kernel_rfl⟩
def bD (vs : VL) (l : List Pq) : Bk:=aQ (cm (cu vs l))
def uy (z : Sz) (b : Bk) : Nat × Sz:=if z.h.size<nb b.length∨gm z.bl=4294967295#32 then (6,z) else (0,z.put (z.mm,z.c) (lH z.h z.bl b) (lI z.h z.bl b))
set_option maxHeartbeats 16000000 in
theorem wO (z : Sz) (aa : List Bk) (vs : VL) (k : z.ok aa vs) (s : dU) (w : World) (hs : s.ok w) (ha : iZ s (keys z.E)) (hok : fu s.ps=true) (hz : gL s.ps≤2500000) (h0 : Holds w (keys z.E) z.E w) :
    Calls Tryz.prog 40 [Pt z.p 0,s.v].toArray w fun e w'=>e=.returned (N (uy z (bD vs s.ps)).1)∧Holds w (keys z.E) (uy z (bD vs s.ps)).2.E w':=by
  generalize hS : keys z.E=S at h0 ha ⊢
  have hsl : s.l.length≤400000:=by
    have h1 : 7 * s.ps.length≤gL s.ps:=by
      generalize s.ps=l
      induction l with
      | nil=>simp [gL]
      | cons p l ih=>rw [dV,List.length_cons];unfold rD;omega
    unfold dU.ps at h1 hz
    rw [List.length_map] at h1
    omega
  have hsv : ∀ p ∈ s.l,p.s.l.length≤2500000:=fun p hp=>by
    have : ∀ l : List Pq,∀ q ∈ l,q.val.length≤gL l:=by
      intro l
      induction l with
      | nil=>intro q h;cases h
      | cons x l ih=>
        intro q h
        rw [dV]
        rcases List.mem_cons.1 h with rfl | h
        · unfold rD;omega
        · have:=ih q h;omega
    have:=this s.ps p.p (List.mem_map_of_mem hp)
    unfold aE.p at this
    dsimp only at this
    omega
  have hwf:=kE s.l (z:=(z.mm,z.c)) k.wf
  have his:=kF s.l (z:=(z.mm,z.c)) k.wf k.l6 k.is
  have hsrt:=gH (l:=s.ps) k.l6
  have hps:=uq hwf hsrt his
  have hsz:=iw s.ps vs
  have hvz:=k.sz
  have hlen2 : (aF (cw (z.mm,z.c) s.l).1).length≤600000:=by
    have h1:=congrArg List.length hps
    rw [List.length_map] at h1
    unfold cm at h1
    rw [List.length_map] at h1
    have:=oe (cu vs s.ps)
    omega
  have hmlen : (cw (z.mm,z.c) s.l).1.length≤600000:=by
    have h1:=his.length_eq
    unfold yl at h1
    rw [List.length_map] at h1
    have h2 : (s.l.map aE.p)=s.ps:=rfl
    rw [h2] at h1
    have:=oe (cu vs s.ps)
    omega
  have hval : ∀ p ∈ aF (cw (z.mm,z.c) s.l).1,p.s.l.length≤4000000:=fun p hp=>by
    have h1 : p.p ∈ cm (cu vs s.ps):=hps ▸ List.mem_map_of_mem hp
    obtain ⟨q,hq,e⟩:=List.mem_map.1 h1
    have h2:=og hq
    have h3 : q.2.length=p.s.l.length:=by rw [show p.s.l=p.p.val from rfl,← e]
    omega
  have hok2 : fu (cm (cu vs s.ps))=true:=nD (om hvz.2 hok)
  have hin : ∀ p ∈ aF (cw (z.mm,z.c) s.l).1,p.s=bB∨p.s ∈ z.mm.map ME.val∨∃ y ∈ s.l,p.s=y.s:=fun p hp=>by
    rcases ur hp with h | h
    · exact .inl h
    · obtain ⟨r,hr⟩:=gx s.l (z:=(z.mm,z.c)) k.wf
      rcases List.mem_append.1 (hr.mem_iff.1 (List.mem_append_left r h)) with h | h
      · exact .inr (.inl h)
      · obtain ⟨y,hy,e⟩:=List.mem_map.1 h
        exact .inr (.inr ⟨y,hy,e.symm⟩)
  unfold bD
  rw [← hps]
  rw [← hps] at hok2
  obtain ⟨mc,hmc⟩ : ∃ mc,cw (z.mm,z.c) s.l=mc:=⟨_,rfl⟩
  rw [hmc] at hwf his hps hlen2 hmlen hval hin hok2 ⊢
  refine enter (n:=24) Tryz.func40 rfl rfl rfl h0 ?_
  show JC _ _ _ _ _ _ _ (⟨z.p,Row 96 z.cs,true⟩::⟨z.mb,dJ (z.mm,z.c),true⟩::(bU z.j z.h z.bl []++aC (z.mm.map ME.val)))
  repeat (first | refine JL.q (by first|(apply OQ.load;exact p6;rfl;exact .here;exact (Row.cell (v:=.map (some z.mb)) rfl))|(apply OQ.move;rfl)|(apply OQ.assign;rfl)|(apply OQ.bx;rfl)|(apply OQ.bA;rfl;rfl;rfl;exact (by decide);rfl)) rfl ?_ | refine JC.seq ?_ | refine JC.region ?_ | refine JL.nil ?_ | refine JE.next ?_)
  refine JL.bq (ι:=Nat) (vs:=[.map (some z.mb),s.v]) (fun b'=>.map (some b')) (fun b'=>[⟨b',dJ mc,true⟩]) pQ rfl rfl (by simp) (fun w' hw'=>by have:=q9 z.mb (z.mm,z.c) s w' (hw'.get (.there .here)) (hs.iP hw' ha) (by omega);rwa [hmc] at this) fun b'=>?_
  refine JL.bq (ι:={q : Acc // q=none→aF mc.1=[]}) (vs:=[.map (some b')]) (fun q=>av q.1 (aF mc.1).length) (fun q=>cD 67 3 q.1 ((aF mc.1).map aE.cs)) rC rfl rfl (fun _=>kq _ _ _ _) (fun w' hw'=>uu b' mc.1 mc.2 w' hwf (hw'.get .here) (by omega)) fun q2=>?_
  obtain ⟨q2,hq2⟩:=q2
  dsimp only
  have hv2:=Bw hq2
  have hl2:=Bu hq2
  have hps2 : (Br q2 (aF mc.1)).ps=(aF mc.1).map aE.p:=by unfold dU.ps;rw [hl2]
  refine JL.bq (ι:={q : Acc // q=none→aQ ((aF mc.1).map aE.p)=[]}) (vs:=[(Br q2 (aF mc.1)).v]) (fun q=>.tuple #[av q.1 (aQ ((aF mc.1).map aE.p)).length,N 0]) (fun q=>af 5 q.1 ((aQ ((aF mc.1).map aE.p)).map U8)) jJ (by rw [hv2];rfl) rfl (fun _=>aM _ _ _) (fun w' hw'=>?_) fun q3=>?_
  · have hz' : Holds w S (([⟨b',dJ mc,true⟩]++(cD 67 3 q2 ((aF mc.1).map aE.cs)))++(z.E++[])) w':=by
      rw [List.append_nil]
      refine hw'.perm' ?_
      rw [← List.append_assoc]
      exact (List.perm_append_comm).append_right _
    have hvok:=k.Cw (M:=[]) (hz'.weak (ay _ (ak.refl _)))
    have hsok:=hs.iP hw' ha
    have hg:=wN hq2 hw' fun p hp=>by
      rcases hin p hp with h | h | ⟨y,hy,h⟩
      · rw [h];exact fh _
      · exact hvok _ h
      · rw [h];exact hsok.all y hy
    have:=lV _ w' hg (by rw [hl2];omega) (by rw [hl2];exact hval)
    rw [hps2,hok2] at this
    exact this
  obtain ⟨q3,hq3⟩:=q3
  dsimp only
  have hrl : (aQ ((aF mc.1).map aE.p)).length<4611686018427387904:=by
    rw [hps,oh,nC]
    omega
  generalize aQ ((aF mc.1).map aE.p)=rec at hq3 hrl ⊢
  have hfs:=k.jv.fs
  have hl3:=jx hq3
  have hv3:=kW q3 rec
  have hwr:=aM 5 q3 (rec.map U8)
  repeat (first | refine JL.q (by first|(apply OQ.extract;rfl;rfl)|(apply OQ.load;exact wM;rfl;exact (aZ (aZ (.there .here)));exact (Row.cell (v:=Pt z.j 0) rfl))|(apply OQ.move;rfl)|(apply OQ.assign;rfl)|(apply OQ.bx;rfl)|(apply OQ.bA;rfl;rfl;rfl;exact (by decide);rfl)) rfl ?_ | refine JC.seq ?_ | refine JC.region ?_ | refine JL.nil ?_ | refine JE.next ?_)
  unfold uy
  by_cases hno : z.h.size<nb rec.length∨gm z.bl=4294967295#32
  · rw [if_pos hno]
    have cN : ∀ w',Holds w S (af 5 q3 (rec.map U8)++(cD 67 3 q2 ((aF mc.1).map aE.cs)++(⟨b',dJ mc,true⟩::⟨z.p,Row 96 z.cs,true⟩::⟨z.mb,dJ (z.mm,z.c),true⟩::(bU z.j z.h z.bl []++aC (z.mm.map ME.val))))) w'→Calls Tryz.prog 59 [Pt z.j 0,av q3 rec.length].toArray w' fun e w2=>e=.returned (N 6)∧Ext w' w2:=fun w' hw'=>by
      have:=z8 z.j z.h z.bl [] (aK q3 rec) k.dk.ok k.jv.n5 (by omega) (by rw [hl3];exact hrl) (by rw [hl3];exact hno) w' (qT (hw'.perm' (rG _ _ _ _ _ _ _)))
      rwa [hv3] at this
    repeat (first | refine JL.q (by first|(apply OQ.aB (vs:=[Pt z.j 0,av q3 rec.length]);exact pE;rfl;exact (fun w' hw'=>cN w' hw'))|(apply OQ.assign;rfl)) rfl ?_ | refine JL.nil ?_ | refine JE.next ?_)
    exact JC.ret (JE.aP rfl (RV.tmp rfl) fun w' hw=>⟨rfl,hw.weak (ay _ (ay _ (.drop _ _ _ (ak.refl _))))⟩)
  · rw [if_neg hno]
    refine JL.perm (M':=bU z.j z.h z.bl []++(af 5 q3 (rec.map U8)++(cD 67 3 q2 ((aF mc.1).map aE.cs)++(⟨b',dJ mc,true⟩::⟨z.p,Row 96 z.cs,true⟩::⟨z.mb,dJ (z.mm,z.c),true⟩::aC (z.mm.map ME.val))))) ?_ (rG _ _ _ _ _ _ _)
    refine JL.B5 (s:=aK q3 rec) k.jv k.dk (by decide) (by rw [hl3];exact hno) (fun w' hw'=>?_) rfl (by rw [hv3];rfl) rfl ?_
    · refine ⟨fV (hw'.weak (ay _ (ak.refl _))),?_⟩
      intro h0' a ea
      cases q3 with
      | none=>cases ea
      | some p=>
        have e : a=⟨p.1,0,none⟩:=by cases ea;rfl
        rw [e]
        exact ct (b:=p.1) (A:=Sl.Own 5 1 (rec.map U8).length p.2 (rec.map U8)) hw' .here
    rw [hl3]
    repeat (first | refine JL.q (by (apply OQ.assign;rfl)) rfl ?_ | refine JL.nil ?_ | refine JE.next ?_)
    exact JC.ret (JE.aP rfl (RV.tmp rfl) fun w' hw=>⟨rfl,(hw.perm' (rG _ _ _ _ _ _ _).symm).weak (ay _ (ay _ (.drop _ _ _ (ak.refl _))))⟩)
end
section
set_option maxRecDepth 10000
open Sl dc dz gh
theorem kH {w0 w : World} {S : List Nat} {X M : List aj} {z : Gp} (hw : Holds w0 S (X++(z.E++M)) w) : iZ z.s (keys X):=by
  have key : ∀ b,b ∈ z.E.map aj.b→b ∉ keys X:=fun b hb hm=>by
    have hn:=hw.nodup
    rw [List.map_append,List.nodup_append] at hn
    exact hn.2.2 b hm b (by rw [List.map_append];exact List.mem_append_left _ hb) rfl
  have hl:=z.zq
  obtain ⟨q,ps,hq,h0⟩:=z
  refine ⟨fun _ a ha=>?_,fun y hy h0 a ha=>?_⟩
  · cases q with
    | none=>cases ha
    | some p=>
      have : a=⟨p.1,0,none⟩:=by cases ha;rfl
      rw [this]
      exact key p.1 (by unfold Gp.E;rw [List.map_append];exact List.mem_append_left _ (by simp [cD]))
  · have hy' : y ∈ ps:=by rwa [hl] at hy
    refine key a.block ?_
    unfold Gp.E
    rw [List.map_append]
    refine List.mem_append_right _ ?_
    unfold aC
    rw [List.map_flatMap,List.mem_flatMap]
    exact ⟨y.s,List.mem_map_of_mem hy',by unfold az.fk;rw [ha];simp⟩
def Step (z : Sz) (aa : List Bk) (vs : VL) (ps : List Pq) (code : Nat) (z' : Sz) (aT : List Bk) (vs' : VL) : Prop:=
  z'.ok aT vs'∧z'.p=z.p∧
  ((z'=z∧aT=aa∧vs'=vs∧((fu ps=false∧code=1)∨(fu ps=true∧code=6∧¬ nb (aQ ps).length≤z.h.size - z.h.used∧lG z.h z.bl (bD vs ps).length)))∨
   (fu ps=true∧code=0∧vs'=cu vs ps∧
     ((nb (aQ ps).length≤z.h.size - z.h.used∧z'.h=pF z.h (aQ ps)∧z'.bl=gR z.h z.bl (aQ ps)∧aT=aa++[aQ ps])∨
      (¬ nb (aQ ps).length≤z.h.size - z.h.used∧¬ lG z.h z.bl (bD vs ps).length∧z'.h=lH z.h z.bl (bD vs ps)∧z'.bl=lI z.h z.bl (bD vs ps)∧aT=[bD vs ps]))))
structure l8 (z : Sz) (aa : List Bk) (vs : VL) (ps : List Pq) where
  code : Nat
  z' : Sz
  aT : List Bk
  vs' : VL
  st : Step z aa vs ps code z' aT vs'
theorem rH {aa : List Bk} {vs : VL} {r : Bk} {l : List Pq} (h : ez aa=some vs) (hd : dec r=some l) : ez (aa++[r])=some (cu vs l):=by
  unfold ez at *
  rw [dn,ij,hd]
  cases h1 : aN aa with
  | none=>rw [h1] at h;cases h
  | some a=>
    rw [h1,Option.map_some,Option.some.injEq] at h
    simp only [Option.map_some,Option.some.injEq]
    rw [lR,h]
theorem p7 {vs : VL} (hs : iy vs) (hk : okV vs) (hz : je vs<4294967296) : ez [aQ (cm vs)]=some vs:=by
  unfold ez
  rw [ij,nY (nD hk) fun p hp=>by
    obtain ⟨q,hq,rfl⟩:=List.mem_map.1 hp
    have:=og hq
    show q.2.length<_
    omega]
  simp only [Option.map_some,Option.some.injEq]
  exact yc hs
theorem l9 {a b : List az} (h : a.Perm b) : (aC a).Perm (aC b):=h.flatMap_right _
theorem gM (a b : List az) : aC (a++b)=aC a++aC b:=List.flatMap_append
theorem Holds.values {w0 w : World} {S : List Nat} {A : List aj} {mc : MV × Nat} {l : List aE} (hf : WF mc.1 mc.2) (h : Holds w0 S (A++(aC (mc.1.map ME.val)++aC (l.map aE.s))) w) : Holds w0 S (A++aC ((cw mc l).1.map ME.val)) w:=by
  obtain ⟨r,hr⟩:=gx l hf
  rw [← gM] at h
  have h2:=h.perm' ((l9 hr.symm).append_left A)
  rw [gM,← List.append_assoc] at h2
  exact h2.weak (an _ _)
theorem Sz.ok.step {z : Sz} {aa : List Bk} {vs : VL} (k : z.ok aa vs) {l : List aE} (h0 : ∀ p ∈ l,p.s.ad=none→p.s.l=[]) {h : Hf} {bl aT : List Bk} (jv : Jv h bl aT) (dk : br h.x bl []) (hv : ez aT=some (cu vs (l.map aE.p))) :
    (z.put (cw (z.mm,z.c) l) h bl).ok aT (cu vs (l.map aE.p)) where
  wf:=kE l (z:=(z.mm,z.c)) k.wf
  is:=kF l (z:=(z.mm,z.c)) k.wf k.l6 k.is
  l6:=gH k.l6
  h0:=fun x hx=>by
    obtain ⟨r,hr⟩:=gx l (z:=(z.mm,z.c)) k.wf
    rcases List.mem_append.1 (hr.mem_iff.1 (List.mem_append_left r hx)) with h1 | h1
    · exact k.h0 x h1
    · obtain ⟨p,hp,rfl⟩:=List.mem_map.1 h1
      exact h0 p hp
  jv:=jv
  dk:=dk
  vals:=hv
theorem wP : aI Tryz.prog 26:=⟨_,Tryz.func26,rfl,by kernel_rfl⟩
theorem rI (A B : List aj) (p m : aj) (J F : List aj) : (A++(B++(p::m::(J++F)))).Perm (J++(A++(B++(p::m::F)))):=by
  have:=List.perm_append_comm_assoc (A++(B++[p,m])) J F
  simpa using this
theorem wQ (J A B : List aj) (p m : aj) (F : List aj) : (J++(A++(B++(p::m::F)))).Perm (m::(J++(A++(B++(p::F))))):=by
  have:=List.perm_middle (a:=m) (l₁:=J++(A++(B++[p]))) (l₂:=F)
  simpa using this
theorem Av (m p : aj) (J C G A F : List aj) : (m::(J++((C++G)++(A++(p::F))))).Perm (((p::m::J)++(F++G))++(C++A)):=by
  have h1:=List.perm_middle (a:=p) (l₁:=m::(J++((C++G)++A))) (l₂:=F)
  have h2 : ((C++G)++A++F).Perm (F++G++(C++A)):=by
    refine List.perm_append_comm.trans ?_
    have h3 : ((C++G)++A).Perm (G++C++A):=List.perm_append_comm.append_right _
    have:=h3.append_left F
    simpa using this
  have h4:=(h2.append_left J).cons m |>.cons p
  have e1 : m::(J++((C++G)++(A++(p::F))))=(m::(J++((C++G)++A)))++(p::F):=by simp
  have e2 : ((p::m::J)++(F++G))++(C++A)=p::m::(J++(F++G++(C++A))):=by simp
  rw [e1,e2]
  refine h1.trans ?_
  have e3 : p::(m::(J++((C++G)++A))++F)=p::m::(J++((C++G)++A++F)):=by simp
  rw [e3]
  exact h4
theorem Sz.close {z : Sz} {g : Gp} {A : List aj} {h : Hf} {bl : List Bk} {w0 w : World} {S : List Nat} (hf : WF z.mm z.c) (hw : Holds w0 S (⟨z.mb,dJ (cw (z.mm,z.c) g.ps),true⟩::(bU z.j h bl []++(g.E++(A++(⟨z.p,Row 96 z.cs,true⟩::aC (z.mm.map ME.val)))))) w) : Holds w0 S (z.put (cw (z.mm,z.c) g.ps) h bl).E w:=by
  have h1:=(hw.perm' (Av _ _ _ _ _ _ _)).weak (an _ _)
  exact Holds.values (mc:=(z.mm,z.c)) (l:=g.ps) hf h1
set_option maxHeartbeats 16000000 in
theorem yE (z : Sz) (aa : List Bk) (vs : VL) (k : z.ok aa vs) (s : dU) (w : World) (hs : s.ok w) (ha : iZ s (keys z.E)) (hz : gL s.ps≤2500000) (h0 : Holds w (keys z.E) z.E w) :
    Calls Tryz.prog 26 [Pt z.p 0,s.v].toArray w fun e w'=>∃ r : l8 z aa vs s.ps,e=.returned (N r.code)∧Holds w (keys z.E) r.z'.E w':=by
  generalize hS : keys z.E=S at h0 ha ⊢
  have hsl : s.l.length≤400000:=by
    have h1 : 7 * s.ps.length≤gL s.ps:=by
      generalize s.ps=l
      induction l with
      | nil=>simp [gL]
      | cons p l ih=>rw [dV,List.length_cons];unfold rD;omega
    unfold dU.ps at h1 hz
    rw [List.length_map] at h1
    omega
  have hsv : ∀ q ∈ s.ps,q.val.length≤2500000:=fun q hq=>by
    have : ∀ l : List Pq,∀ q ∈ l,q.val.length≤gL l:=by
      intro l
      induction l with
      | nil=>intro q h;cases h
      | cons x l ih=>
        intro q h
        rw [dV]
        rcases List.mem_cons.1 h with rfl | h
        · unfold rD;omega
        · have:=ih q h;omega
    have:=this s.ps q hq
    omega
  refine enter (n:=47) Tryz.func26 rfl rfl rfl h0 ?_
  show JC _ _ _ _ _ _ _ (⟨z.p,Row 96 z.cs,true⟩::⟨z.mb,dJ (z.mm,z.c),true⟩::(bU z.j z.h z.bl []++aC (z.mm.map ME.val)))
  repeat (first | refine JL.q (by first|(apply OQ.move;rfl)|(apply OQ.assign;rfl)) rfl ?_ | refine JC.seq ?_ | refine JC.region ?_ | refine JL.nil ?_ | refine JE.next ?_)
  cases hok : fu s.ps
  case false=>
    refine JL.bq (ι:=Acc) (vs:=[s.v]) (fun q=>.tuple #[av q 0,N 1]) (fun q=>af 5 q []) jJ rfl rfl (fun _=>aM _ _ _) (fun w' hw'=>?_) fun q=>?_
    · have:=lV s w' (hs.iP hw' ha) (by omega) (fun p hp=>by have:=hsv p.p (List.mem_map_of_mem hp);unfold aE.p at this;dsimp only at this;omega)
      rw [hok] at this
      exact this.mono fun e w2 ⟨q,h1,h2⟩=>⟨q.1,h1,h2⟩
    repeat (first | refine JL.q (by first|(apply OQ.extract;rfl;rfl)|(apply OQ.jw (a:=1) (b:=0) (c:=false);rfl;rfl;rfl)|(apply OQ.move;rfl)|(apply OQ.assign;rfl)) rfl ?_ | refine JC.seq ?_ | refine JC.region ?_ | refine JL.nil ?_ | refine JE.next ?_)
    refine JC.cond_true rfl rfl ?_
    repeat (first | refine JL.q (by first|(apply OQ.move;rfl)|(apply OQ.assign;rfl)) rfl ?_ | refine JC.seq ?_ | refine JC.region ?_ | refine JL.nil ?_ | refine JE.next ?_)
    refine JC.ret ?_
    repeat (refine JE.ax ?_)
    exact JE.aP rfl (RV.tmp rfl) fun w' hw=>⟨⟨1,z,aa,vs,k,rfl,.inl ⟨rfl,rfl,rfl,.inl ⟨hok,rfl⟩⟩⟩,rfl,hw.weak (ay _ (ak.refl _))⟩
  refine JL.bq (ι:={q : Acc // q=none→aQ s.ps=[]}) (vs:=[s.v]) (fun q=>.tuple #[av q.1 (aQ s.ps).length,N 0]) (fun q=>af 5 q.1 ((aQ s.ps).map U8)) jJ rfl rfl (fun _=>aM _ _ _) (fun w' hw'=>?_) fun q1=>?_
  · have:=lV s w' (hs.iP hw' ha) (by omega) (fun p hp=>by have:=hsv p.p (List.mem_map_of_mem hp);unfold aE.p at this;dsimp only at this;omega)
    rw [hok] at this
    exact this
  obtain ⟨q1,hq1⟩:=q1
  dsimp only
  have hdec : dec (aQ s.ps)=some s.ps:=nY hok fun p hp=>by have:=hsv p hp;omega
  have hrl : (aQ s.ps).length≤2500000:=by rw [oh];exact hz
  have hl1:=jx hq1
  have hv1:=kW q1 (aQ s.ps)
  repeat (first | refine JL.q (by first|(apply OQ.extract;rfl;rfl)|(apply OQ.jw (a:=0) (b:=0) (c:=true);rfl;rfl;rfl)|(apply OQ.move;rfl)|(apply OQ.assign;rfl)) rfl ?_ | refine JC.seq ?_ | refine JC.region ?_ | refine JL.nil ?_ | refine JE.next ?_)
  refine JC.cond_false rfl rfl ?_
  repeat (first | refine JL.q (by (apply OQ.move;rfl)) rfl ?_ | refine JC.seq ?_ | refine JC.region ?_ | refine JC.skip ?_ | refine JE.next ?_)
  refine JL.bq (ι:=yj (some s.ps)) (vs:=[(aK q1 (aQ s.ps)).v]) (fun g=>q4 (some s.ps) g.1) (fun g=>g.1.E) jK (by rw [hv1];rfl) rfl (fun g=>g.1.wr) (fun w' hw'=>?_) fun g=>?_
  · have:=lW (aK q1 (aQ s.ps)) w' (fV hw') (by rw [hl1];omega)
    rw [hl1,hdec] at this
    exact this
  obtain ⟨g,hg⟩:=g
  have hg : g.l=s.ps:=hg
  dsimp only [q4]
  have hfs:=k.jv.fs
  have hju:=k.jv.u;have hjr:=k.jv.r
  have hps : g.ps.map aE.p=s.ps:=hg
  have hgl : g.ps.length≤4294967296:=by
    have:=congrArg List.length hps
    unfold dU.ps at this
    rw [List.length_map,List.length_map] at this
    omega
  have hq0 : q1=none→(aQ s.ps).length=0:=fun e=>by rw [hq1 e];rfl
  have cF : ∀ w',Holds w S (g.E++(af 5 q1 ((aQ s.ps).map U8)++(⟨z.p,Row 96 z.cs,true⟩::⟨z.mb,dJ (z.mm,z.c),true⟩::(bU z.j z.h z.bl []++aC (z.mm.map ME.val))))) w'→Calls Tryz.prog 38 [Pt z.j 0,N (aQ s.ps).length].toArray w' fun e w2=>e=.returned (.bool (decide (nb (aQ s.ps).length≤z.h.size - z.h.used)))∧Ext w' w2:=fun w' hw'=>
    pz z.j z.h _ (by omega) (by omega) (by omega) w' (vQ (hw'.perm' (rI _ _ _ _ _ _)))
  obtain ⟨fit,g1⟩ : ∃ c,decide (nb (aQ s.ps).length≤z.h.size - z.h.used)=c:=⟨_,rfl⟩
  rw [g1] at cF
  repeat (first | refine JL.q (by first|(apply OQ.extract;rfl;rfl)|(apply OQ.load;exact wM;rfl;exact (aZ (aZ .here));exact (Row.cell (v:=Pt z.j 0) rfl))|(apply OQ.kf (q:=q1) (k:=(aQ s.ps).length);exact Tryz.underlying24;exact hq0;rfl)|(apply OQ.aB (vs:=[Pt z.j 0,N (aQ s.ps).length]);exact mV;rfl;exact (fun w' hw'=>cF w' hw'))|(apply OQ.move;rfl)|(apply OQ.assign;rfl)|(apply OQ.bx;rfl)|(apply OQ.bA;rfl;rfl;rfl;exact (by decide);rfl)) rfl ?_ | refine JC.seq ?_ | refine JC.region ?_ | refine JL.nil ?_ | refine JE.next ?_)
  have hgS : g.v=g.s.v:=g.qN.symm
  cases fit
  case true=>
    have hfit:=of_decide_eq_true g1
    refine JC.cond_true rfl rfl ?_
    repeat (first | refine JL.q (by first|(apply OQ.load;exact wM;rfl;exact (aZ (aZ .here));exact (Row.cell (v:=Pt z.j 0) rfl))|(apply OQ.move;rfl)|(apply OQ.bx;rfl)|(apply OQ.bA;rfl;rfl;rfl;exact (by decide);rfl)) rfl ?_ | refine JC.region ?_)
    refine JL.perm (M':=bU z.j z.h z.bl []++(g.E++(af 5 q1 ((aQ s.ps).map U8)++(⟨z.p,Row 96 z.cs,true⟩::⟨z.mb,dJ (z.mm,z.c),true⟩::aC (z.mm.map ME.val))))) ?_ (rI _ _ _ _ _ _)
    refine JL.B4 (s:=aK q1 (aQ s.ps)) k.jv k.dk (by decide) (by rw [hl1];exact hfit) (fun w' hw'=>?_) rfl (by rw [hv1];rfl) rfl ?_
    · refine ⟨fV (hw'.weak (ay _ (ay _ (ak.refl _)))),?_⟩
      intro h0' a ea
      cases q1 with
      | none=>cases ea
      | some p=>
        have e : a=⟨p.1,0,none⟩:=by cases ea;rfl
        rw [e]
        exact ct (b:=p.1) (A:=Sl.Own 5 1 ((aQ s.ps).map U8).length p.2 ((aQ s.ps).map U8)) hw' (aZ .here)
    rw [hl1]
    obtain ⟨HJ,hHJ⟩ : ∃ HJ,bU z.j (pF z.h (aQ s.ps)) (gR z.h z.bl (aQ s.ps)) []=HJ:=⟨_,rfl⟩
    rw [hHJ]
    refine JL.perm (M':=⟨z.mb,dJ (z.mm,z.c),true⟩::(HJ++(g.E++(af 5 q1 ((aQ s.ps).map U8)++(⟨z.p,Row 96 z.cs,true⟩::aC (z.mm.map ME.val)))))) ?_ (wQ _ _ _ _ _ _)
    repeat (first | refine JL.q (by first|(apply OQ.kV (a:=0) (b:=0) (c:=true);rfl;rfl;rfl)|(apply OQ.move;rfl)|(apply OQ.assign;rfl)) rfl ?_ | refine JC.seq ?_ | refine JC.region ?_ | refine JL.nil ?_ | refine JE.next ?_)
    refine JC.cond_true rfl rfl ?_
    repeat (first | refine JL.q (by first|(apply OQ.load;exact p6;rfl;exact (.there (aZ (aZ (aZ .here))));exact (Row.cell (v:=.map (some z.mb)) rfl))|(apply OQ.move;rfl)|(apply OQ.bx;rfl)|(apply OQ.bA;rfl;rfl;rfl;exact (by decide);rfl)) rfl ?_ | refine JC.region ?_)
    refine JL.bI (ι:=Unit) (X:=[⟨z.mb,dJ (z.mm,z.c),true⟩]) (vs:=[.map (some z.mb),g.v]) (fun _=>.tuple #[]) (fun _=>[⟨z.mb,dJ (cw (z.mm,z.c) g.ps),true⟩]) kG rfl rfl (by simp) (by simp) (fun w' h1 hw'=>?_) fun _=>?_
    · have h2 : Holds w S ([⟨z.mb,dJ (z.mm,z.c),true⟩]++(g.E++(HJ++(af 5 q1 ((aQ s.ps).map U8)++(⟨z.p,Row 96 z.cs,true⟩::aC (z.mm.map ME.val)))))) w':=h1.perm' ((List.perm_append_comm_assoc HJ g.E _).cons _)
      have hgo:=Gp.ok h2
      have hga:=kH h2
      have:=n6 g.s z.mb z.mm z.c w' hgo (by rw [g.zq];exact hgl) hga hw'
      rw [g.qN,g.zq] at this
      exact this.mono fun _ _ ⟨h1,h2⟩=>⟨(),h1,h2⟩
    repeat (first | refine JL.q (by first|(apply OQ.move;rfl)|(apply OQ.assign;rfl)) rfl ?_ | refine JC.seq ?_ | refine JC.region ?_ | refine JL.nil ?_ | refine JE.next ?_)
    refine JC.ret (JE.aP rfl (RV.tmp rfl) fun w' hw=>⟨⟨0,z.put (cw (z.mm,z.c) g.ps) (pF z.h (aQ s.ps)) (gR z.h z.bl (aQ s.ps)),aa++[aQ s.ps],cu vs s.ps,?_,rfl,.inr ⟨hok,rfl,rfl,.inl ⟨hfit,rfl,rfl,rfl⟩⟩⟩,rfl,?_⟩)
    · have:=k.step g.h0 (k.jv.app hfit) (k.dk.app k.jv hfit) (aT:=aa++[aQ s.ps]) (by rw [hps];exact rH k.vals hdec)
      rwa [hps] at this
    · rw [← hHJ] at hw
      exact Sz.close k.wf hw
  case false=>
    have hfit:=of_decide_eq_false g1
    refine JC.cond_false rfl rfl ?_
    repeat (first | refine JL.q (by (apply OQ.move;rfl)) rfl ?_ | refine JC.region ?_)
    refine JL.perm (M':=z.E++(g.E++af 5 q1 ((aQ s.ps).map U8))) ?_ (by
      show _
      have:=List.perm_append_comm (l₁:=g.E++af 5 q1 ((aQ s.ps).map U8)) (l₂:=z.E)
      rw [List.append_assoc] at this
      exact this)
    refine JL.bI (ι:=Unit) (X:=z.E) (vs:=[Pt z.p 0,g.v]) (fun _=>N (uy z (bD vs s.ps)).1) (fun _=>(uy z (bD vs s.ps)).2.E) ux rfl rfl z.wr (fun _=>Sz.wr _) (fun w' h1 hw'=>?_) fun _=>?_
    · have hgo:=Gp.ok (M:=af 5 q1 ((aQ s.ps).map U8)) h1
      have hga:=kH h1
      have:=wO z aa vs k g.s w' hgo hga (by rw [g.Ag,hg];exact hok) (by rw [g.Ag,hg];exact hz) hw'
      rw [g.qN,g.Ag,hg] at this
      exact this.mono fun _ _ ⟨h1,h2⟩=>⟨(),h1,h2⟩
    unfold uy
    by_cases hno : z.h.size<nb (bD vs s.ps).length∨gm z.bl=4294967295#32
    · rw [if_pos hno]
      repeat (first | refine JL.q (by first|(apply OQ.kV (a:=6) (b:=0) (c:=false);rfl;rfl;rfl)|(apply OQ.move;rfl)|(apply OQ.assign;rfl)) rfl ?_ | refine JC.seq ?_ | refine JC.region ?_ | refine JL.nil ?_ | refine JE.next ?_)
      refine JC.cond_false rfl rfl ?_
      repeat (first | refine JL.q (by first|(apply OQ.move;rfl)|(apply OQ.assign;rfl)) rfl ?_ | refine JC.seq ?_ | refine JC.region ?_ | refine JC.skip ?_ | refine JL.nil ?_ | refine JE.next ?_)
      exact JC.ret (JE.aP rfl (RV.tmp rfl) fun w' hw=>⟨⟨6,z,aa,vs,k,rfl,.inl ⟨rfl,rfl,rfl,.inr ⟨hok,rfl,hfit,hno⟩⟩⟩,rfl,hw.weak (an _ _)⟩)
    · rw [if_neg hno]
      obtain ⟨HJ,hHJ⟩ : ∃ HJ,bU z.j (lH z.h z.bl (bD vs s.ps)) (lI z.h z.bl (bD vs s.ps)) []=HJ:=⟨_,rfl⟩
      refine JL.perm (M':=⟨z.mb,dJ (z.mm,z.c),true⟩::(HJ++(g.E++(af 5 q1 ((aQ s.ps).map U8)++(⟨z.p,Row 96 z.cs,true⟩::aC (z.mm.map ME.val)))))) ?_ (by
        rw [← hHJ]
        refine List.Perm.trans ?_ (wQ _ _ _ _ _ _)
        refine List.Perm.trans (List.perm_append_comm (l₁:=(z.put (z.mm,z.c) (lH z.h z.bl (bD vs s.ps)) (lI z.h z.bl (bD vs s.ps))).E)) ?_
        rw [List.append_assoc]
        exact rI _ _ _ _ _ _)
      repeat (first | refine JL.q (by first|(apply OQ.kV (a:=0) (b:=0) (c:=true);rfl;rfl;rfl)|(apply OQ.move;rfl)|(apply OQ.assign;rfl)) rfl ?_ | refine JC.seq ?_ | refine JC.region ?_ | refine JL.nil ?_ | refine JE.next ?_)
      refine JC.cond_true rfl rfl ?_
      repeat (first | refine JL.q (by first|(apply OQ.load;exact p6;rfl;exact (.there (aZ (aZ (aZ .here))));exact (Row.cell (v:=.map (some z.mb)) rfl))|(apply OQ.move;rfl)|(apply OQ.bx;rfl)|(apply OQ.bA;rfl;rfl;rfl;exact (by decide);rfl)) rfl ?_ | refine JC.region ?_)
      refine JL.bI (ι:=Unit) (X:=[⟨z.mb,dJ (z.mm,z.c),true⟩]) (vs:=[.map (some z.mb),g.v]) (fun _=>.tuple #[]) (fun _=>[⟨z.mb,dJ (cw (z.mm,z.c) g.ps),true⟩]) kG rfl rfl (by simp) (by simp) (fun w' h1 hw'=>?_) fun _=>?_
      · have h2 : Holds w S ([⟨z.mb,dJ (z.mm,z.c),true⟩]++(g.E++(HJ++(af 5 q1 ((aQ s.ps).map U8)++(⟨z.p,Row 96 z.cs,true⟩::aC (z.mm.map ME.val)))))) w':=h1.perm' ((List.perm_append_comm_assoc HJ g.E _).cons _)
        have hgo:=Gp.ok h2
        have hga:=kH h2
        have:=n6 g.s z.mb z.mm z.c w' hgo (by rw [g.zq];exact hgl) hga hw'
        rw [g.qN,g.zq] at this
        exact this.mono fun _ _ ⟨h1,h2⟩=>⟨(),h1,h2⟩
      repeat (first | refine JL.q (by first|(apply OQ.move;rfl)|(apply OQ.assign;rfl)) rfl ?_ | refine JC.seq ?_ | refine JC.region ?_ | refine JL.nil ?_ | refine JE.next ?_)
      refine JC.ret (JE.aP rfl (RV.tmp rfl) fun w' hw=>⟨⟨0,z.put (cw (z.mm,z.c) g.ps) (lH z.h z.bl (bD vs s.ps)) (lI z.h z.bl (bD vs s.ps)),[bD vs s.ps],cu vs s.ps,?_,rfl,.inr ⟨hok,rfl,rfl,.inr ⟨hfit,hno,rfl,rfl,rfl⟩⟩⟩,rfl,?_⟩)
      · have hvz:=k.sz
        have:=iw s.ps vs
        have:=k.step g.h0 (k.jv.B6 hno) (k.dk.B6 k.jv hno) (aT:=[bD vs s.ps]) (by rw [hps];exact p7 (gH k.l6) (om hvz.2 hok) (by omega))
        rwa [hps] at this
      · rw [← hHJ] at hw
        exact Sz.close k.wf hw
end
section
set_option maxRecDepth 10000
open Sl dc dz gh
theorem wR : aI Tryz.prog 45:=⟨_,Tryz.func45,rfl,by kernel_rfl⟩
theorem rJ : aI Tryz.prog 30:=⟨_,Tryz.func30,rfl,by kernel_rfl⟩
theorem j0 {rs : List Bk} {i : Nat} {r : Bk} (h : rs[i]?=some r) : aN (rs.take (i+1))=match aN (rs.take i),dec r with | some l,some m=>some (l++m) | _,_=>none:=by
  have e : rs.take (i+1)=rs.take i++[r]:=by rw [List.take_add_one,h];rfl
  rw [e,dn,ij]
  cases aN (rs.take i) <;> cases dec r <;> rfl
theorem nF {α : Type} (f : α→Nat) : ∀ {l : List α} {a : α},a ∈ l→f a≤(l.map f).sum
  | b::l,a,h=>by
    rw [List.map_cons,List.sum_cons]
    rcases List.mem_cons.1 h with rfl | h
    · omega
    · have:=nF f h;omega
theorem nG : ∀ (m : List Pq),m.length≤(m.map fun p=>7+p.key.length+p.val.length).sum
  | []=>Nat.le_refl _
  | p::m=>by
    have:=nG m
    rw [List.map_cons,List.sum_cons,List.length_cons]
    omega
theorem p8 {rs : List Bk} {i : Nat} (h : aN (rs.take i)=none) : aN rs=none:=by
  rw [← List.take_append_drop i rs,dn,h]
structure Vz where
  mb : Nat
  mc : MV × Nat
structure Vz.ok (z : Vz) (l : List Pq) : Prop where
  wf : WF z.mc.1 z.mc.2
  is : gY z.mc.1 (cu [] l)
  h0 : ∀ x ∈ z.mc.1.map ME.val,x.ad=none→x.l=[]
def Vz.E (z : Vz) : List aj:=⟨z.mb,dJ z.mc,true⟩::aC (z.mc.1.map ME.val)
theorem Vz.wr (z : Vz) : ∀ e ∈ z.E,e.wr=true:=by
  intro e he
  rcases List.mem_cons.1 he with rfl | he
  · rfl
  · exact iO _ e he
def Aw (o : Option (List Pq)) (z : Vz) : Value:=match o with
  | none=>.tuple #[.map none,N 9]
  | some _=>.tuple #[.map (some z.mb),N 0]
def yF (o : Option (List Pq)) (z : Vz) : List aj:=match o with
  | none=>[]
  | some _=>z.E
abbrev By (o : Option (List Pq)):={z : Vz // ∀ l,o=some l→z.ok l}
theorem Ax (m : aj) (C G F R : List aj) (F' r : List aj) (h : (F++G).Perm (F'++r)) : (m::((C++G)++(F++R))).Perm (m::(F'++(R++(r++C)))):=by
  refine List.Perm.cons _ ?_
  have h1 : ((C++G)++(F++R)).Perm (C++((F++G)++R)):=by
    have:=(List.perm_append_comm_assoc G F R).append_left C
    simpa using this
  refine h1.trans ((h.append_right R).append_left C |>.trans ?_)
  have h2 : (C++(F'++r++R)).Perm ((F'++r++R)++C):=List.perm_append_comm
  refine h2.trans ?_
  have h3:=((List.perm_append_comm (l₁:=r) (l₂:=R)).append_right C).append_left F'
  simpa using h3
set_option maxHeartbeats 16000000 in
theorem yG (x : Dp) (bl : List Bk) (hd : br x bl []) (hno : bR bl=0) (w : World) (h0 : Holds w (keys (bT x bl [])) (bT x bl []) w) :
    Calls Tryz.prog 45 [Pt x.p 0].toArray w fun e w'=>∃ z : By (aN (bu bl).2.2),e=.returned (Aw (aN (bu bl).2.2) z.1)∧Holds w (keys (bT x bl [])) (yF (aN (bu bl).2.2) z.1) w':=by
  have v:=Jv.Bh (x:=x) hd.ok.b hd.n1 hno
  have hdj:=hd.Bh hno
  generalize hR : (bu bl).2.2=aa at v ⊢
  generalize keys (bT x bl [])=S at h0 ⊢
  refine enter (n:=39) Tryz.func45 rfl rfl rfl h0 ?_
  repeat (first | refine JL.q (by first|(apply OQ.move;rfl)|(apply OQ.assign;rfl)) rfl ?_ | refine JC.seq ?_ | refine JC.region ?_ | refine JL.nil ?_ | refine JE.next ?_)
  refine JL.perm ?_ (List.Perm.of_eq (List.append_nil _).symm)
  refine JL.zl hd (by decide) hno rfl rfl fun j=>?_
  generalize iR x bl=h at v hdj ⊢
  generalize iQ bl=bj at v hdj ⊢
  rw [List.append_nil]
  repeat (first | refine JL.q (by first|(apply OQ.extract;rfl;rfl)|(apply OQ.jw (a:=0) (b:=0) (c:=true);rfl;rfl;rfl)|(apply OQ.move;rfl)|(apply OQ.assign;rfl)) rfl ?_ | refine JC.seq ?_ | refine JC.region ?_ | refine JL.nil ?_ | refine JE.next ?_)
  refine JC.cond_false rfl rfl ?_
  repeat (first | refine JC.seq ?_ | refine JC.region ?_ | refine JC.skip ?_ | refine JE.next ?_)
  refine JL.makeMap az.v rfl rfl fun mb _=>?_
  repeat (first | refine JL.q (by first|(apply OQ.move;rfl)|(apply OQ.assign;rfl)) rfl ?_ | refine JC.seq ?_ | refine JC.region ?_ | refine JL.nil ?_ | refine JE.next ?_)
  refine JL.perm (M':=bU j h bj []++[⟨mb,dJ ([],0),true⟩]) ?_ (List.perm_append_singleton _ _).symm
  refine JL.Bg v hdj rfl rfl fun z=>?_
  obtain ⟨⟨q,rs,hq,hr0⟩,hy1,hy2⟩:=z
  have hz1 : rs.map az.l=aa:=hy1
  have hz2 : rs.length≤h.size:=hy2
  dsimp only [Gr.v,Gr.E]
  clear hy1 hy2
  have hfs:=v.fs
  have hro:=v.r
  refine JL.perm (M':=⟨mb,dJ ([],0),true⟩::((af 24 q (rs.map az.v)++aC rs)++bU j h bj [])) ?_ (by rw [← List.append_assoc];exact List.perm_append_singleton _ _)
  have hq0 : q=none→rs.length=0:=fun e=>by rw [hq e];rfl
  repeat (first | refine JL.q (by first|(apply OQ.kf (q:=q) (k:=rs.length);exact Tryz.underlying134;exact hq0;rfl)|(apply OQ.move;rfl)) rfl ?_ | refine JC.block ?_ | refine JL.nil ?_ | refine JE.next ?_)
  obtain ⟨R,hRR⟩ : ∃ R,(af 24 q (rs.map az.v)++aC rs)++bU j h bj []=R:=⟨_,rfl⟩
  refine JC.loop (fun z : Nat × (MV × Nat)=>[(6,.map (some mb)),(21,av q rs.length),(22,N rs.length),(23,N z.1)]) (fun z=>⟨mb,dJ z.2,true⟩::(aC (z.2.1.map ME.val)++R)) (fun z=>rs.length - z.1) (fun z=>z.1≤rs.length∧∃ l,aN (aa.take z.1)=some l∧(Vz.mk mb z.2).ok l) (0,([],0)) ⟨Nat.zero_le _,[],rfl,⟨WF.nil,.refl _,nofun⟩⟩ (by repeat (first | exact ah.nil | refine ah.cons _ _ _ rfl ?_)) (by rw [← hRR];exact ak.refl _) ?_
  rintro ⟨i,mc⟩ ⟨hi,l,hl,hv⟩
  dsimp only at hi hl hv ⊢
  repeat (first | refine JL.q (by (apply OQ.fc;rfl;rfl)) rfl ?_ | refine JC.seq ?_ | refine JC.region ?_ | refine JL.nil ?_ | refine JE.next ?_)
  refine JC.cond rfl (fun hc=>?_) (fun hc=>?_)
  · have hi' : i<rs.length:=Nat.lt_of_not_le fun h=>by have:=of_decide_eq_true hc;omega
    clear hc
    cases q with
    | none=>rw [hq rfl] at hi';cases hi'
    | some p=>
    obtain ⟨gk,ck⟩:=p
    have hki : rs[i]?=some rs[i]:=List.getElem?_eq_getElem hi'
    have hmem : rs[i] ∈ rs:=List.getElem_mem hi'
    generalize rs[i]=rec at hki hmem
    have hri : aa[i]?=some rec.l:=by rw [← hz1,List.getElem?_map,hki];rfl
    have hrlen : rec.l.length≤2000000:=by
      have h1:=sQ aa
      have h2:=nF List.length (List.mem_of_getElem? hri)
      omega
    have hav2 : av (some (gk,ck)) rs.length=.slice (some ⟨gk,0,none⟩) rs.length ck:=rfl
    have hkz : (rs.map az.v)[i]?=some rec.v:=by rw [List.getElem?_map,hki];rfl
    have hR' : R=⟨gk,Sl.Own 24 1 (rs.map az.v).length ck (rs.map az.v),true⟩::(aC rs++bU j h bj []):=hRR.symm
    subst hR'
    have okR : ∀ w',Holds w S (⟨mb,dJ mc,true⟩::(aC (mc.1.map ME.val)++(⟨gk,Sl.Own 24 1 (rs.map az.v).length ck (rs.map az.v),true⟩::(aC rs++bU j h bj [])))) w'→rec.ok w':=fun w' hw'=>
      ko (A:=[]) (hw'.weak (.drop _ _ _ (ay _ (.drop _ _ _ (an (aC rs) _))))) hr0 rec hmem
    repeat (first | refine JL.q (by first|(apply OQ.yY (i:=i);exact Tryz.underlying134;exact vM;exact (congrArg some hav2);rfl;exact hi')|(apply OQ.load;exact pq;rfl;exact (.there (aZ .here));exact (Sl.Own.cell hkz))|(apply OQ.move;rfl)|(apply OQ.assign;rfl)) rfl ?_ | refine JC.seq ?_ | refine JC.region ?_ | refine JC.block ?_ | refine JC.skip ?_ | refine JL.nil ?_ | refine JE.next ?_)
    cases hdr : dec rec.l with
    | none=>
      have hno2 : aN aa=none:=p8 (i:=i+1) (by rw [j0 hri,hl,hdr])
      refine JL.bq (ι:=yj none) (vs:=[rec.v]) (fun g=>q4 none g.1) (fun g=>g.1.E) jK rfl rfl (fun g=>g.1.wr) (fun w' hw'=>by have:=lW rec w' (okR w' hw') (by omega);rwa [hdr] at this) fun g=>?_
      dsimp only [q4]
      repeat (first | refine JL.q (by first|(apply OQ.extract;rfl;rfl)|(apply OQ.jw (a:=3) (b:=0) (c:=false);rfl;rfl;rfl)|(apply OQ.move;rfl)|(apply OQ.assign;rfl)) rfl ?_ | refine JC.seq ?_ | refine JC.region ?_ | refine JL.nil ?_ | refine JE.next ?_)
      refine JC.cond_true rfl rfl ?_
      repeat (first | refine JL.q (by (apply OQ.assign;rfl)) rfl ?_ | refine JC.seq ?_ | refine JC.region ?_ | refine JL.nil ?_ | refine JE.next ?_)
      refine JC.ret ?_
      repeat (first | refine JE.ax ?_ | refine JE.cy ?_)
      rw [hno2]
      exact JE.cg rfl (RV.tmp rfl) (RV.tmp rfl) fun w' hw=>⟨⟨⟨0,([],0)⟩,nofun⟩,rfl,hw.weak (.nil _)⟩
    | some m=>
      refine JL.bq (ι:=yj (some m)) (vs:=[rec.v]) (fun g=>q4 (some m) g.1) (fun g=>g.1.E) jK rfl rfl (fun g=>g.1.wr) (fun w' hw'=>by have:=lW rec w' (okR w' hw') (by omega);rwa [hdr] at this) fun g=>?_
      obtain ⟨g,hg⟩:=g
      have hg : g.ps.map aE.p=m:=hg
      dsimp only [q4]
      have hgl : g.ps.length≤4294967296:=by
        have h1:=congrArg List.length hg
        rw [List.length_map] at h1
        have h2:=(qW hdr).2
        have h3:=nG m
        omega
      repeat (first | refine JL.q (by first|(apply OQ.extract;rfl;rfl)|(apply OQ.jw (a:=0) (b:=0) (c:=true);rfl;rfl;rfl)|(apply OQ.move;rfl)|(apply OQ.assign;rfl)) rfl ?_ | refine JC.seq ?_ | refine JC.region ?_ | refine JL.nil ?_ | refine JE.next ?_)
      refine JC.cond_false rfl rfl ?_
      obtain ⟨R,hRR⟩ : ∃ R,(⟨gk,Sl.Own 24 1 (rs.map az.v).length ck (rs.map az.v),true⟩::(aC rs++bU j h bj []))=R:=⟨_,rfl⟩
      rw [hRR]
      repeat (first | refine JL.q (by (apply OQ.move;rfl)) rfl ?_ | refine JC.region ?_ | refine JC.skip ?_ | refine JE.next ?_)
      refine JL.perm (M':=⟨mb,dJ mc,true⟩::(g.E++(aC (mc.1.map ME.val)++R))) ?_ List.perm_middle
      refine JL.bI (ι:=Unit) (X:=[⟨mb,dJ mc,true⟩]) (vs:=[.map (some mb),g.v]) (fun _=>.tuple #[]) (fun _=>[⟨mb,dJ (cw mc g.ps),true⟩]) kG rfl rfl (by simp) (by simp) (fun w' h1 hw'=>?_) fun _=>?_
      · have hgo:=Gp.ok (A:=[_]) h1
        have hga:=kH (X:=[_]) h1
        have:=n6 g.s mb mc.1 mc.2 w' hgo (by rw [g.zq];exact hgl) hga hw'
        rw [g.qN,g.zq] at this
        exact this.mono fun _ _ ⟨h1,h2⟩=>⟨(),h1,h2⟩
      repeat (first | refine JL.q (by first|(apply OQ.move;rfl)|(apply OQ.addN;rfl;rfl;exact (by (try simp only []);omega))) rfl ?_ | refine JC.region ?_ | refine JL.nil ?_ | refine JE.next ?_ | refine JE.au ?_)
      obtain ⟨r,hr⟩:=gx g.ps hv.wf
      refine JE.perm (Ax _ _ (aC (g.ps.map aE.s)) (aC (mc.1.map ME.val)) R (aC ((cw mc g.ps).1.map ME.val)) (aC r) (by rw [← gM,← gM];exact l9 hr.symm)) ?_
      refine JE.again (i:=(i,mc)) (i+1,cw mc g.ps) ⟨hi',l++m,by dsimp only;rw [j0 hri,hl,hdr],⟨kE _ hv.wf,?_,?_⟩⟩ (by dsimp only;omega) (by repeat (first | exact ah.nil | refine ah.cons _ _ _ rfl ?_)) ?_
      · have:=kF g.ps hv.wf (gH (l:=l) (vs:=[]) .nil) hv.is
        rw [hg,← lR] at this
        exact this
      · intro x hx
        rcases List.mem_append.1 (hr.mem_iff.1 (List.mem_append_left r hx)) with h1 | h1
        · exact hv.h0 x h1
        · obtain ⟨p,hp,rfl⟩:=List.mem_map.1 h1
          exact g.h0 p hp
      · refine .keep _ _ _ _ _ _ (fun _ h=>h) ?_
        rw [← List.append_assoc]
        exact an _ _
  · have hi' : i=rs.length:=by have:=of_decide_eq_false hc;omega
    have hfl : aa.take i=aa:=List.take_of_length_le (by rw [← hz1,List.length_map];omega)
    rw [hfl] at hl
    rw [hl]
    repeat (first | refine JL.q (by first|(apply OQ.move;rfl)|(apply OQ.assign;rfl)) rfl ?_ | refine JC.seq ?_ | refine JC.region ?_ | refine JC.exit ?_ | refine JL.nil ?_ | refine JE.next ?_ | refine JE.aH ?_ | refine JE.aX ?_)
    exact JC.ret (JE.cg rfl (RV.tmp rfl) (RV.tmp rfl) fun w' hw=>⟨⟨⟨mb,mc⟩,fun l' h=>by cases h;exact hv⟩,rfl,hw.weak (.keep _ _ _ _ _ _ (fun _ h=>h) (an _ _))⟩)
end
section
set_option maxRecDepth 10000
open Sl dc dz gh
section
variable {n : Nat} {E : Env} {C : World→Prop} {dst : Option Tmp} {ty : TypeId} {pos : String} {aft : Array Edge} {g : Option (Nat × Bool)} {x1 x2 : Operand}
theorem OQ.yH {j mb : Nat} (h1 : ev E x1=some (Pt j 0)) (h2 : ev E x2=some (.map (some mb))) :
    OQ Tryz.prog n E C ⟨dst,.build 96 #[(0,x1),(1,x2)],ty,pos,aft,g⟩ (.agg #[Pt j 0,.map (some mb)]):=
  OQ.run fun a ha w _=>by
    have e1:=ha.eval h1
    have e2:=ha.eval h2
    have r:=run_build (P:=Tryz.prog) w 96 #[(0,Pt j 0),(1,.map (some mb))] #[Pt j 0,.map (some mb)] (by kernel_rfl)
    simp [execOp,e1,e2,r]
end
theorem br.twin {x z : Dp} {bl : List Bk} (h : br x bl []) : br ⟨z.p,z.q,z.cap,none⟩ bl []:=⟨h.ok,h.n0,h.n1,h.m,fun _=>rfl⟩
theorem yI (o : Option (List Pq)) (z : Vz) : ∀ e ∈ yF o z,e.wr=true:=by
  intro e he
  cases o with
  | none=>cases he
  | some l=>exact z.wr e he
set_option maxHeartbeats 16000000 in
theorem uz (x : Dp) (bl : List Bk) (l : List Pq) (hd : br x bl []) (hno : bR bl=0) (ho : aN (bu bl).2.2=some l) (w : World) (h0 : Holds w (keys (bT x bl [])) (bT x bl []) w) :
    Calls Tryz.prog 30 [Pt x.p 0].toArray w fun e w'=>∃ z : {z : Sz // z.ok (bu bl).2.2 (cu [] l)∧z.h=iR x bl∧z.bl=iQ bl},e=.returned (.tuple #[Pt z.1.p 0,N 0])∧Holds w (keys (bT x bl [])) z.1.E w':=by
  have v:=Jv.Bh (x:=x) hd.ok.b hd.n1 hno
  have hdj:=hd.Bh hno
  generalize keys (bT x bl [])=S at h0 ⊢
  refine enter (n:=28) Tryz.func30 rfl rfl rfl h0 ?_
  repeat (first | refine JL.q (by first|(apply OQ.move;rfl)|(apply OQ.assign;rfl)) rfl ?_ | refine JC.seq ?_ | refine JC.region ?_ | refine JL.nil ?_ | refine JE.next ?_)
  refine JL.bq (ι:=Dp) (vs:=[Pt x.p 0]) (fun z=>Pt z.p 0) (fun z=>bT ⟨z.p,z.q,z.cap,none⟩ bl []) tC rfl rfl (fun z=>bW _ _ _) (fun w' hw'=>tD x bl [] hd (M:=[]) (by rw [List.append_nil];exact hw')) fun t=>?_
  refine JL.bI (ι:=By (some l)) (X:=bT ⟨t.p,t.q,t.cap,none⟩ bl []) (vs:=[Pt t.p 0]) (fun z=>Aw (some l) z.1) (fun z=>yF (some l) z.1) wR rfl rfl (bW _ _ _) (fun z=>yI _ _) (fun w' _ hw'=>by have:=yG ⟨t.p,t.q,t.cap,none⟩ bl hd.twin hno w' hw';rwa [ho] at this) fun z=>?_
  obtain ⟨⟨mb,mm,c⟩,hz⟩:=z
  have hz:=hz l rfl
  dsimp only [Aw,yF,Vz.E]
  repeat (first | refine JL.q (by first|(apply OQ.extract;rfl;rfl)|(apply OQ.jw (a:=0) (b:=0) (c:=true);rfl;rfl;rfl)|(apply OQ.move;rfl)|(apply OQ.assign;rfl)) rfl ?_ | refine JC.seq ?_ | refine JC.region ?_ | refine JL.nil ?_ | refine JE.next ?_)
  refine JC.cond_false rfl rfl ?_
  repeat (first | refine JL.q (by (apply OQ.move;rfl)) rfl ?_ | refine JC.seq ?_ | refine JC.region ?_ | refine JC.skip ?_ | refine JE.next ?_)
  refine JL.perm (M':=bT x bl []++(⟨mb,dJ (mm,c),true⟩::aC (mm.map ME.val))) ?_ List.perm_append_comm
  refine JL.zl hd (by decide) hno rfl rfl fun j=>?_
  repeat (first | refine JL.q (by first|(apply OQ.extract;rfl;rfl)|(apply OQ.jw (a:=0) (b:=0) (c:=true);rfl;rfl;rfl)|(apply OQ.move;rfl)|(apply OQ.assign;rfl)) rfl ?_ | refine JC.seq ?_ | refine JC.region ?_ | refine JL.nil ?_ | refine JE.next ?_)
  refine JC.cond_false rfl rfl ?_
  repeat (first | refine JL.q (by first|(apply OQ.yH;rfl;rfl)|(apply OQ.move;rfl)) rfl ?_ | refine JC.seq ?_ | refine JC.region ?_ | refine JC.skip ?_ | refine JE.next ?_)
  refine JL.box (r:=[Pt j 0,.map (some mb)]) rfl rfl rfl fun p _=>?_
  repeat (first | refine JL.q (by (apply OQ.assign;rfl)) rfl ?_ | refine JL.nil ?_ | refine JE.next ?_)
  exact JC.ret (JE.cg rfl (RV.tmp rfl) (RV.tmp rfl) fun w' hw=>⟨⟨⟨p,mb,mm,c,j,iR x bl,iQ bl⟩,⟨hz.wf,hz.is,gH .nil,hz.h0,v,hdj,by show ez _=_;unfold ez;rw [ho];rfl⟩,rfl,rfl⟩,rfl,hw.perm' (List.Perm.cons _ List.perm_middle)⟩)
end
section
namespace Sl
section
variable {P : Program} {n : Nat} {w0 : World} {S : List Nat} {ops : Array Oper} {Q : Exit→Act→World→Prop} {l : List Oper} {E : Env} {M : List aj}
variable {d : Nat} {t e ty : TypeId} {pos : String} {aft : Array Edge} {v z : Value} {x y : Operand} {sz by' : Nat} {cs ds : List Value}
theorem p9 {w : World} (hu : P.underlying t=some (.slice e)) (hi : EI P e z sz by') (_hz : z.cells.size=sz) (h0 : 0<sz) (hsm : sz≤8388608) (hl : cs.length=sz) (hl2 : ds.length=sz) :
    (Instr.buildSlice t 2 #[(0,.agg cs.toArray),(1,.agg ds.toArray)]).run P w=.ok (.slice (some ⟨w.heap.size,0,none⟩) 2 2) { w with heap:=w.heap.push (.cells (cs++ds).toArray e (0,0)) }:=by
  have h3 : (underlying t).run P w=.ok (.slice e) w:=run_underlying hu w
  obtain ⟨i,h4,h5,_⟩:=hi.get
  obtain ⟨r,h6,h7,h8⟩:=Great.fill_dense h0 [.agg cs.toArray,.agg ds.toArray] 0 ((Array.range (2 * sz)).map (z.cells[· % z.cells.size]!)) (by intro v hv;simp only [List.mem_cons,List.not_mem_nil,or_false] at hv;rcases hv with rfl | rfl <;> simp [Value.cells,hl,hl2]) (by simp)
  have hr : r=(cs++ds).toArray:=by
    apply Array.ext_getElem?
    intro k
    rw [h8 k]
    by_cases hk : k<2 * sz
    · rw [if_pos (by simp;omega)]
      by_cases h1 : k<sz
      · rw [List.getElem?_toArray,List.getElem?_append_left (by omega)]
        simp [Nat.div_eq_of_lt h1,Nat.mod_eq_of_lt h1,Value.cells]
      · have e1 : k / sz=1:=by
          rw [Nat.div_eq_iff h0];omega
        have e2 : k % sz=k - sz:=by
          rw [Nat.mod_eq_sub_mod (by omega),Nat.mod_eq_of_lt (by omega)]
        rw [List.getElem?_toArray,List.getElem?_append_right (by omega),hl]
        simp [e1,e2,Value.cells]
    · rw [if_neg (by simp;omega),Array.getElem?_eq_none (by simp;omega),Array.getElem?_eq_none (by simp;omega)]
  subst hr
  have h11 : (zeroValue e).run P w=.ok z w:=by simp [zeroValue,typeInfo,h4,h5]
  have h12 : ¬ (16777216<2 * sz):=by omega
  have h13 : ¬ (2 * sz=0):=by omega
  have h14 : ¬ (sz=0):=by omega
  simp only [List.zipIdx_cons,List.zipIdx_nil,List.map_cons,List.map_nil] at h6
  simp [Instr.buildSlice,Sem.run_bind,h3,aJ hi.sz,h11,h12,h13,h14,h6,newRow,newObj,Sem.run]
theorem JL.BA (hu : P.underlying t=some (.slice e)) (hi : EI P e z sz by') (hz : z.cells.size=sz) (h0 : 0<sz) (hsm : sz≤8388608) (hx : ev E x=some (.agg cs.toArray)) (hy : ev E y=some (.agg ds.toArray)) (hl : cs.length=sz) (hl2 : ds.length=sz) (hd : Nat.blt d n=true)
    (k : ∀ b,w0.heap.size≤b→JL P n w0 S ops Q l ((d,.slice (some ⟨b,0,none⟩) 2 2)::E) (⟨b,Row e (cs++ds),true⟩::M)) : JL P n w0 S ops Q (⟨some d,.buildSlice t 2 #[(0,x),(1,y)],ty,pos,aft,none⟩::l) E M:=
  ⟨fun a w ha hw=>wpList_plain rfl fun K hK=>by
    unfold Oper.wp
    have hm : (#[(0,x),(1,y)] : Array (Nat × Operand)).map (fun (i,x)=>(i,a.eval x))=#[(0,.agg cs.toArray),(1,.agg ds.toArray)]:=by simp [ha.eval hx,ha.eval hy]
    simp only [execOp,hm,Sem.run_bind,p9 hu hi hz h0 hsm hl hl2,Result.andThen_ok]
    exact hK _ _ ((k w.heap.size hw.aS.size).go _ _ (ha.put d _ hd) (hw.push _ rfl rfl rfl rfl rfl))⟩
end
end Sl
end
section
namespace Sl
section
variable {P : Program} {n : Nat} {w0 : World} {S : List Nat} {ops : Array Oper} {Q : Exit→Act→World→Prop} {l : List Oper} {E : Env} {M : List aj}
variable {d : Nat} {t e ty : TypeId} {pos : String} {aft : Array Edge} {v z : Value} {x y u : Operand} {sz by' : Nat} {cs ds es : List Value}
end
end Sl
end
section
set_option maxRecDepth 10000
open Sl dc dz gh
section
variable {P : Program} {n : Nat} {E : Env} {C : World→Prop} {dst : Option Tmp} {ty t t' : TypeId} {pos : String} {aft : Array Edge} {g : Option (Nat × Bool)} {x y : Operand} {l r : Bk}
end
def zy (vs : VL) (front : Bk) : List Bk:=(vs.filter fun p=>eC front p.1).map Prod.fst
section
variable {n : Nat} {w0 : World} {S : List Nat} {ops : Array Oper} {Q : Exit→Act→World→Prop} {l : List Oper} {E : Env} {M : List aj}
variable {d : Nat} {ty : TypeId} {pos : String} {aft : Array Edge} {x1 x2 : Operand} {ats : Array TypeId} {x : Dp} {bl aa : List Bk} {vs : VL} {z : Sz} {s : dU} {key : Bk} {ls : List Pq}
abbrev BB (x : Dp) (bl : List Bk) (ls : List Pq):={z : Sz // z.ok (bu bl).2.2 (cu [] ls)∧z.h=iR x bl∧z.bl=iQ bl}
theorem JL.BC (hd : br x bl []) (hno : bR bl=0) (ho : aN (bu bl).2.2=some ls) (e1 : ev E x1=some (Pt x.p 0)) (hn : Nat.blt d n=true)
    (kk : ∀ z : BB x bl ls,JL Tryz.prog n w0 S ops Q l ((d,.tuple #[Pt z.1.p 0,N 0])::E) (z.1.E++M)) : JL Tryz.prog n w0 S ops Q (⟨some d,.call ⟨.value (.func 30),#[x1],ats⟩,ty,pos,aft,none⟩::l) E (bT x bl []++M):=
  JL.bI (ι:=BB x bl ls) (xs:=[x1]) (vs:=[Pt x.p 0]) (fun z=>.tuple #[Pt z.1.p 0,N 0]) (fun z=>z.1.E) rJ (by simp [gS,e1]) hn (bW _ _ _) (fun z=>z.1.wr)
    (fun w _ hw=>uz x bl ls hd hno ho w hw) kk
theorem JL.Ay (k : z.ok aa vs) (hz : gL s.ps≤2500000) (hs : ∀ w,Holds w0 S (z.E++M) w→s.ok w∧iZ s (keys z.E)) (e1 : ev E x1=some (Pt z.p 0)) (e2 : ev E x2=some s.v) (hn : Nat.blt d n=true)
    (kk : ∀ r : l8 z aa vs s.ps,JL Tryz.prog n w0 S ops Q l ((d,N r.code)::E) (r.z'.E++M)) : JL Tryz.prog n w0 S ops Q (⟨some d,.call ⟨.value (.func 26),#[x1,x2],ats⟩,ty,pos,aft,none⟩::l) E (z.E++M):=
  JL.bI (ι:=l8 z aa vs s.ps) (xs:=[x1,x2]) (vs:=[Pt z.p 0,s.v]) (fun r=>N r.code) (fun r=>r.z'.E) wP (by simp [gS,e1,e2]) hn z.wr (fun r=>r.z'.wr)
    (fun w h0 hw=>yE z aa vs k s w (hs w h0).1 (hs w h0).2 hz hw) kk
theorem JL.Az {v : Bk} {is : Bool} (k : z.ok aa vs) (hv : (ey vs key).getD []=v) (hi : (ey vs key).isSome=is) (e1 : ev E x1=some (Pt z.p 0)) (e2 : ev E x2=some (Z key)) (hn : Nat.blt d n=true)
    (kk : ∀ q : {q : Acc // q=none→v=[]},JL Tryz.prog n w0 S ops Q l ((d,.tuple #[av q.1 v.length,.bool is])::E) (af 5 q.1 (v.map U8)++(z.E++M))) : JL Tryz.prog n w0 S ops Q (⟨some d,.call ⟨.value (.func 32),#[x1,x2],ats⟩,ty,pos,aft,none⟩::l) E (z.E++M):=by
  have hl:=p5 k.wf k.l6 k.is key
  have h1 : ((look z.mm key).getD bB).l=v:=by
    rw [← hv,← hl]
    cases look z.mm key <;> rfl
  have h2 : (look z.mm key).isSome=is:=by rw [← hi,← hl,Option.isSome_map]
  refine JL.bq (ι:={q : Acc // q=none→v=[]}) (xs:=[x1,x2]) (vs:=[Pt z.p 0,Z key]) (fun q=>.tuple #[av q.1 v.length,.bool is]) (fun q=>af 5 q.1 (v.map U8)) uv (by simp [gS,e1,e2]) hn (fun _=>aM _ _ _) (fun w hw=>?_) kk
  have:=yD z.p z.mb (Pt z.j 0) z.mm z.c key w (wL hw) fun x hx=>⟨k.Cw hw x hx,by have:=k.val hx;omega⟩
  rwa [h1,h2] at this
theorem JL.BD {front : Bk} {ks : List Bk} (k : z.ok aa vs) (hk : zy vs front=ks) (e1 : ev E x1=some (Pt z.p 0)) (e2 : ev E x2=some (Z front)) (hn : Nat.blt d n=true)
    (kk : ∀ q : {q : Acc // q=none→ks=[]},JL Tryz.prog n w0 S ops Q l ((d,av q.1 ks.length)::E) (af 9 q.1 (ks.map Z)++(z.E++M))) : JL Tryz.prog n w0 S ops Q (⟨some d,.call ⟨.value (.func 33),#[x1,x2],ats⟩,ty,pos,aft,none⟩::l) E (z.E++M):=by
  have h1 : cj z.mm front=ks:=by rw [← hk];exact pY k.l6 k.is front
  refine JL.bq (ι:={q : Acc // q=none→ks=[]}) (xs:=[x1,x2]) (vs:=[Pt z.p 0,Z front]) (fun q=>av q.1 ks.length) (fun q=>af 9 q.1 (ks.map Z)) rF (by simp [gS,e1,e2]) hn (fun _=>aM _ _ _) (fun w hw=>?_) kk
  have:=uw z.p z.mb (Pt z.j 0) z.mm z.c front w k.wf (wL hw) (by have:=k.B7;omega)
  rwa [h1] at this
end
theorem wS (n : Nat) : aN (bu (c6 n)).2.2=some []:=by rw [(lJ n).1];rfl
section
variable {n : Nat} {E : Env} {C : World→Prop} {dst : Option Tmp} {ty : TypeId} {pos : String} {aft : Array Edge} {g : Option (Nat × Bool)} {x1 x2 : Operand}
theorem OQ.yJ {key : Bk} {b : Bool} (h1 : ev E x1=some (Z key)) (h2 : ev E x2=some (.bool b)) :
    OQ Tryz.prog n E C ⟨dst,.build 67 #[(0,x1),(2,x2)],ty,pos,aft,g⟩ (.agg #[Z key,.slice none 0 0,.bool b]):=
  OQ.run fun a ha w _=>by
    have e1:=ha.eval h1
    have e2:=ha.eval h2
    have r:=run_build (P:=Tryz.prog) w 67 #[(0,Z key),(2,.bool b)] #[Z key,.slice none 0 0,.bool b] (by kernel_rfl)
    simp [execOp,e1,e2,r]
end
theorem sR {b : Nat} {l : List aE} {w0 w : World} {S : List Nat} {M : List aj} {wr : Bool} (hw : Holds w0 S M w) (hM : Has M b (Row 67 (l.map aE.cs).flatten) wr) (ha : ∀ p ∈ l,p.s.ok w) : (dU.mk (some ⟨b,0,none⟩) l.length l).ok w:=by
  obtain ⟨o,ho,hA⟩:=hw.get hM
  exact ⟨Nat.le_refl _,Reads.block ho (Row.all o hA),ha⟩
end
section
set_option maxRecDepth 10000
open Sl dc dz gh Bx
theorem j3 : aI Tryz.prog 25:=⟨_,Tryz.func25,rfl,by kernel_rfl⟩
set_option maxHeartbeats 16000000 in
theorem rK (c : Bt) (w : World) : Calls Tryz.prog 25 [U8 c].toArray w fun e w'=>e=.returned (.bool (zx c.toNat))∧Ext w w':=by
  cases h1 : decide ((65 : Int)≤(c.toNat : Int)) <;> cases h2 : decide ((c.toNat : Int)≤90) <;> try (exfalso;simp only [decide_eq_true_eq,decide_eq_false_iff_not] at h1 h2;omega)
  all_goals (cases h3 : decide ((97 : Int)≤(c.toNat : Int)) <;> cases h4 : decide ((c.toNat : Int)≤122) <;> try (exfalso;simp only [decide_eq_true_eq,decide_eq_false_iff_not] at h1 h2 h3 h4;omega))
  all_goals (cases h5 : decide ((48 : Int)≤(c.toNat : Int)) <;> cases h6 : decide ((c.toNat : Int)≤57) <;> try (exfalso;simp only [decide_eq_true_eq,decide_eq_false_iff_not] at h1 h2 h3 h4 h5 h6;omega))
  all_goals (cases h7 : decide ((c.toNat : Int)=45) <;> cases h8 : decide ((c.toNat : Int)=46) <;> try (exfalso;simp only [decide_eq_true_eq,decide_eq_false_iff_not] at h1 h2 h3 h4 h5 h6 h7 h8;omega))
  all_goals obtain ⟨b,hb⟩ : ∃ b,zx c.toNat=b:=⟨_,rfl⟩
  all_goals have hb':=hb
  all_goals unfold zx at hb'
  all_goals rw [h1,h2,h3,h4,h5,h6,h7,h8] at hb'
  all_goals simp only [Bool.and_true,Bool.and_false,Bool.true_and,Bool.false_and,Bool.or_false,Bool.or_true,Bool.false_or,Bool.true_or] at hb'
  all_goals subst hb'
  all_goals rw [hb]
  all_goals refine enter (n:=33) Tryz.func25 rfl rfl rfl (Holds.start w []) ?_
  all_goals (repeat (first | refine JL.q (by first|(apply OQ.fT (b:=65);rfl;rfl;exact h1)|(apply OQ.qv (b:=90);rfl;rfl;exact h2)|(apply OQ.fT (b:=97);rfl;rfl;exact h3)|(apply OQ.qv (b:=122);rfl;rfl;exact h4)|(apply OQ.fT (b:=48);rfl;rfl;exact h5)|(apply OQ.qv (b:=57);rfl;rfl;exact h6)|(apply OQ.kV (b:=45);rfl;rfl;exact h7)|(apply OQ.kV (b:=46);rfl;rfl;exact h8)|(apply OQ.bg;rfl;rfl)|(apply OQ.aW;rfl;rfl)|(apply OQ.move;rfl)|(apply OQ.assign;rfl)) rfl ?_ | refine JC.seq ?_ | refine JC.region ?_ | refine JL.nil ?_ | refine JE.next ?_ | refine JL.aD rfl rfl ?_ | refine JL.bO rfl rfl rfl rfl ?_ | refine JL.kT rfl rfl rfl rfl ?_))
  all_goals exact JC.ret (JE.aP rfl (RV.tmp rfl) fun w' hw=>⟨rfl,hw.aS⟩)
def zz (l : Bk) : Bool:=l.all fun c=>zx c.toNat
theorem nH (f : Bk) : okF f=(zz f && (decide ((1 : Int)≤(f.length : Int)) && decide ((f.length : Int)≤40))):=by
  unfold okF zz
  rw [Bool.and_assoc]
  congr 1
  rw [show decide ((1 : Int)≤(f.length : Int))=decide (1≤f.length) from decide_eq_decide.2 (by omega),show decide ((f.length : Int)≤40)=decide (f.length≤40) from decide_eq_decide.2 (by omega)]
theorem wT {l : Bk} {i : Nat} (hi : i<l.length) : zz (l.take (i+1))=(zz (l.take i) && zx (l.getD i 0).toNat):=by
  unfold zz
  rw [List.take_succ_eq_append_getElem hi,List.all_append]
  simp [hi]
theorem yK {l : Bk} {i : Nat} (hi : i<l.length) (h : zx (l.getD i 0).toNat=false) : zz l=false:=by
  unfold zz
  rw [List.all_eq_false]
  have e : l.getD i 0=l[i]:=by simp [hi]
  rw [e] at h
  exact ⟨l[i],List.getElem_mem hi,by rw [h];simp⟩
theorem j4 : aI Tryz.prog 8:=⟨_,Tryz.func8,rfl,by kernel_rfl⟩
set_option maxHeartbeats 8000000 in
theorem rL (f : Bk) (w : World) (hl : f.length<9223372036854775808) : Calls Tryz.prog 8 [Z f].toArray w fun e w'=>e=.returned (.bool (okF f))∧Ext w w':=by
  refine enter (n:=24) Tryz.func8 rfl rfl rfl (Holds.start w []) ?_
  repeat (first | refine JL.q (by first|(apply OQ.move;rfl)|(apply OQ.assign;rfl)) rfl ?_ | refine JC.seq ?_ | refine JC.region ?_ | refine JL.nil ?_ | refine JE.next ?_)
  refine JL.CE (s:=bL f) Tryz.underlying9 Tryz.underlying24 Tryz.underlying5 rfl rfl fun bb capB=>?_
  rw [fm]
  have hents : (⟨some ⟨bb,0,none⟩,capB,f⟩ : az).fk=[⟨bb,fun o=>aV o 0 (f.map U8)∧f.length≤capB∧(none : Option Nat)=none,true⟩]:=rfl
  rw [hents]
  repeat (first | refine JL.q (by first|(apply OQ.len (k:=f.length) (ad:=some ⟨bb,0,none⟩) (cap:=capB);exact Tryz.underlying24;rfl)|(apply OQ.move;rfl)) rfl ?_ | refine JC.block ?_ | refine JL.nil ?_ | refine JE.next ?_)
  refine JC.loop (fun i : Nat=>[(0,Z f),(6,.slice (some ⟨bb,0,none⟩) f.length capB),(7,N f.length),(8,N i)]) (fun _=>[⟨bb,fun o=>aV o 0 (f.map U8)∧f.length≤capB∧(none : Option Nat)=none,true⟩]) (fun i=>f.length - i) (fun i=>i≤f.length∧zz (f.take i)=true) 0 ⟨Nat.zero_le _,rfl⟩ (by repeat (first | exact ah.nil | refine ah.cons _ _ _ rfl ?_)) (an _ _) ?_
  rintro i ⟨hi,hA⟩
  repeat (first | refine JL.q (by (apply OQ.fc;rfl;rfl)) rfl ?_ | refine JC.seq ?_ | refine JC.region ?_ | refine JL.nil ?_ | refine JE.next ?_)
  refine JC.cond rfl (fun h=>?_) (fun h=>?_)
  · have hi' : i<f.length:=by have:=of_decide_eq_true h;omega
    clear h
    have es:=wT hi'
    rw [hA,Bool.true_and] at es
    have hcell : ∀ o,(aV o 0 (f.map U8)∧f.length≤capB∧(none : Option Nat)=none)→cellAt o (0+i)=some (U8 (f.getD i 0)):=fun o ho=>by
      obtain ⟨c,e,fr,rfl,h⟩:=ho.1
      have h1:=h i (by rw [List.length_map];exact hi')
      show c[0+i]?=_
      rw [h1]
      exact e9 U8 0 hi'
    have hq:=fun w'=>rK (f.getD i 0) w'
    cases hc : zx (f.getD i 0).toNat
    all_goals rw [hc] at hq
    · repeat (first | refine JL.q (by first|(apply OQ.dw;exact Tryz.underlying24;exact gN;rfl;rfl;exact hi')|(apply OQ.load (v:=U8 (f.getD i 0));exact zJ;rfl;exact .here;exact hcell)|(apply OQ.aB (vs:=[U8 (f.getD i 0)]) (v:=.bool false);exact j3;rfl;exact (fun w' _=>hq w'))|(apply OQ.not;rfl)|(apply OQ.move;rfl)|(apply OQ.assign;rfl)) rfl ?_ | refine JC.seq ?_ | refine JC.region ?_ | refine JC.block ?_ | refine JC.skip ?_ | refine JL.nil ?_ | refine JE.next ?_)
      refine JC.cond_true rfl rfl ?_
      repeat (first | refine JL.q (by (apply OQ.assign;rfl)) rfl ?_ | refine JC.seq ?_ | refine JC.region ?_ | refine JL.nil ?_ | refine JE.next ?_)
      refine JC.ret ?_
      repeat (first | refine JE.ax ?_ | refine JE.cy ?_)
      refine JE.aP rfl (RV.tmp rfl) fun w' hw=>⟨?_,hw.aS⟩
      rw [nH,yK hi' hc];rfl
    · repeat (first | refine JL.q (by first|(apply OQ.dw;exact Tryz.underlying24;exact gN;rfl;rfl;exact hi')|(apply OQ.load (v:=U8 (f.getD i 0));exact zJ;rfl;exact .here;exact hcell)|(apply OQ.aB (vs:=[U8 (f.getD i 0)]) (v:=.bool true);exact j3;rfl;exact (fun w' _=>hq w'))|(apply OQ.not;rfl)|(apply OQ.move;rfl)|(apply OQ.assign;rfl)) rfl ?_ | refine JC.seq ?_ | refine JC.region ?_ | refine JC.block ?_ | refine JC.skip ?_ | refine JL.nil ?_ | refine JE.next ?_)
      refine JC.cond_false rfl rfl ?_
      repeat (first | refine JL.q (by first|(apply OQ.move;rfl)|(apply OQ.addN;rfl;rfl;exact (by (try simp only []);omega))) rfl ?_ | refine JC.region ?_ | refine JC.skip ?_ | refine JL.nil ?_ | refine JE.next ?_ | refine JE.au ?_)
      rw [hc] at es
      exact JE.again (i:=i) (i+1) ⟨hi',es⟩ (by omega) (by repeat (first | exact ah.nil | refine ah.cons _ _ _ rfl ?_)) (an _ _)
  · have hi' : i=f.length:=by have:=of_decide_eq_false h;omega
    subst hi'
    rw [List.take_length] at hA
    repeat (first | refine JL.q (by (apply OQ.move;rfl)) rfl ?_ | refine JC.seq ?_ | refine JC.region ?_ | refine JC.exit ?_ | refine JE.next ?_ | refine JE.aH ?_ | refine JE.aX ?_)
    have hF:=nH f
    rw [hA,Bool.true_and] at hF
    rw [hF]
    cases h1 : decide ((1 : Int)≤(f.length : Int)) <;> cases h2 : decide ((f.length : Int)≤40)
    all_goals (repeat (first | refine JL.q (by first|(apply OQ.nM;exact Tryz.underlying9;rfl)|(apply OQ.fT (b:=1);rfl;rfl;exact h1)|(apply OQ.qv (b:=40);rfl;rfl;exact h2)|(apply OQ.bg;rfl;rfl)|(apply OQ.aW;rfl;rfl)|(apply OQ.move;rfl)|(apply OQ.assign;rfl)) rfl ?_ | refine JL.nil ?_ | refine JE.next ?_ | refine JL.aD rfl rfl ?_ | refine JL.bO rfl rfl rfl rfl ?_))
    all_goals exact JC.ret (JE.aP rfl (RV.tmp rfl) fun w' hw=>⟨rfl,hw.aS⟩)
end
section
set_option maxRecDepth 10000
open Sl dc dz gh Bx Go.Shelf
def B9 : List Value:=Go.Lib.pow10Tab.map fun z=>Value.int .u64 z
def er (w : World) : Prop:=∃ e fr,w.heap[2]?=some (.cells B9.toArray e fr)
theorem er.lt {w : World} (h : er w) : 2<w.heap.size:=by
  obtain ⟨e,fr,h⟩:=h
  exact (Array.getElem?_eq_some_iff.1 h).1
theorem er.aS {S : List Nat} {w w' : World} (h : er w) (hS : 2 ∉ S) (hx : jP S w w') : er w':=by
  have hl:=h.lt
  obtain ⟨e,fr,h⟩:=h
  exact ⟨e,fr,(hx.block _ hl hS).trans h⟩
def dX (S : List Nat) (w : World) : Prop:=er w∧2 ∉ S
theorem dX.holds {w0 w : World} {S : List Nat} {M : List aj} (h : dX S w0) (hw : Holds w0 S M w) : er w:=h.1.aS h.2 hw.aS
theorem dX.keys {w0 w : World} {S : List Nat} {X M : List aj} (h : dX S w0) (hX : ∀ e ∈ X,e.wr=true) (hw : Holds w0 S (X++M) w) : dX (keys X) w:=by
  refine ⟨h.holds hw,fun hm=>?_⟩
  obtain ⟨e,he,hb⟩:=List.mem_map.1 hm
  have h1:=h.1.lt
  rcases (hw.all e (List.mem_append_left _ he)).2 (hX e he) with h2 | h2
  · exact h.2 (hb ▸ h2)
  · omega
theorem uA : aI Tryz.prog 43:=⟨_,Tryz.func43,rfl,by kernel_rfl⟩
theorem uB : aI Tryz.prog 34:=⟨_,Tryz.func34,rfl,by kernel_rfl⟩
theorem uC : aI Tryz.prog 44:=⟨_,Tryz.func44,rfl,by kernel_rfl⟩
theorem oo (x : List UInt8) : Z (mC x)=.string ⟨x.toArray⟩:=by
  show Value.string (bL (mC x))=_
  have : (mC x).map UInt8.ofBitVec=x:=by
    unfold mC
    rw [List.map_map,show UInt8.ofBitVec ∘ UInt8.toBitVec=id from funext fun _=>rfl,List.map_id]
  show Value.string ⟨((mC x).map UInt8.ofBitVec).toArray⟩=_
  rw [this]
theorem wU (n : Int) (h0 : -9223372036854775808≤n) (h1 : n≤9223372036854775807) (w : World) (hT : er w) :
    Calls Tryz.prog 43 [.int .i64 n].toArray w fun e w'=>e=.returned (Z (cU n))∧Ext w w':=by
  have ht : Go.Lib.TabIs Tryz.prog w "internal/strconv.uint64pow10" .u64 Go.Lib.pow10Tab:=by
    obtain ⟨e,fr,h⟩:=hT
    unfold Go.Lib.TabIs World.var?
    rw [show Tryz.prog.globalNamed "internal/strconv.uint64pow10" = some 2 by kernel_rfl]
    simp only [Option.bind_some,h]
    rfl
  refine (Any.strconv_Itoa Bl n h0 h1 w ht).mono ?_
  rintro e w' ⟨h1,k,os,rfl⟩
  refine ⟨by rw [h1];unfold cU;rw [oo],⟨rfl,rfl,rfl,by simp [Go.Sort.grow],fun k hk hS=>?_⟩⟩
  rw [Go.Sort.heap_grow_old _ _ (by simpa using hk)]
  rfl
theorem jf {w w' : World} (h : Go.RowKit.Below w.heap.size w w') : Ext w w':=⟨h.os,h.tape,h.output,h.size,fun k hk _=>h.block k hk⟩
theorem wV (c : Nat) (hc : c≤10) (w : World) : Calls Tryz.prog 44 [Z [48#8],N c].toArray w fun e w'=>e=.returned (Z (List.replicate c 48#8))∧Ext w w':=by
  have h:=Any.strings_Repeat Bn Bo (bL [48#8]) c w (by omega) (by show 1 * c≤_;omega)
  refine Calls.mono (show Calls Tryz.prog 44 [Z [48#8],N c].toArray w _ from h) ?_
  rintro e w' ⟨h1,h2⟩
  refine ⟨?_,jf h2⟩
  have e1 : Go.Lib.repeatL (bL [48#8]).data.toList c=List.replicate c 48:=by
    have:=Go.Lib.repeatL_replicate 48 1 c
    rw [Nat.mul_one] at this
    exact this
  have e2 : List.replicate c 48#8=mC (List.replicate c 48):=by unfold mC;rw [List.map_replicate];rfl
  rw [h1,e1,e2,oo]
theorem wW (u : Nat) (hu : u<10 ^ 10) (w : World) : Calls Tryz.prog 34 [Z (qh (u : Int))].toArray w fun e w'=>e=.returned (.tuple #[N u,.nilIface])∧Ext w w':=by
  rw [cV hu,oo]
  have h1:=n8 hu
  have h2:=gy 10 u
  generalize dW 10 u=l at h1 h2 ⊢
  have hs : ByteArray.size ⟨l.toArray⟩≤9223372036854775806:=by
    have : ByteArray.size ⟨l.toArray⟩=l.length:=List.size_toArray
    rw [this,h2];omega
  have h3 : Go.Lib.atoiAll (ByteArray.mk l.toArray).data.toList=.ok (u : Int):=by rw [List.toList_toArray];exact h1
  refine (Any.strconv_Atoi_ok Bm ⟨l.toArray⟩ hs (u : Int) h3 w).mono ?_
  rintro e w' ⟨h1,h2⟩
  refine ⟨h1,?_⟩
  rcases h2 with rfl | ⟨t,rfl⟩
  · exact jP.refl _ _
  · exact jf (Go.Lib.bytesWorld_below _ _ _)
theorem uD (n : Int) (h0 : -9223372036854775808≤n) (h1 : n≤9223372036854775807) : (cU n).length≤100:=by
  unfold cU
  rw [fE]
  have hd : ∀ u : Nat,u<10 ^ 19→(Go.Lib.decDigits u).length≤19:=fun u hu=>by
    have:=congrArg List.length (wA (k:=18) hu)
    rw [List.length_append,gy] at this
    omega
  unfold Go.Lib.itoa
  have e : (10 : Nat) ^ 19=10000000000000000000:=by decide
  split
  · rw [List.length_cons]
    have:=hd n.natAbs (by omega)
    omega
  · have:=hd n.toNat (by omega)
    omega
theorem jN : aI Tryz.prog 29:=⟨_,Tryz.func29,rfl,by kernel_rfl⟩
set_option maxHeartbeats 4000000 in
theorem me (f : Bk) (u : Int) (hf : f.length<1000000000000000) (h0 : -9223372036854775808≤u) (h1 : u≤9223372036854775807) (w : World) (hT : er w) :
    Calls Tryz.prog 29 [Z f,.int .i64 u].toArray w fun e w'=>e=.returned (Z (aR f u))∧Ext w w':=by
  refine enter (n:=21) Tryz.func29 rfl rfl rfl (Holds.start w []) ?_
  have hl:=uD u h0 h1
  have hi:=fun (w' : World) (hw : Holds w [] [] w')=>wU u h0 h1 w' (hT.aS (by simp) hw.aS)
  have hr:=fun (w' : World)=>wV (10 - (cU u).length) (by omega) w'
  have hm : (max (0 : Int) ((10 : Int) - ((cU u).length : Int)))=((10 - (cU u).length : Nat) : Int):=by omega
  have hk : [109#8,58#8]++f++[58#8]++List.replicate (10 - (cU u).length) 48#8++cU u=aR f u:=rfl
  generalize cU u=d at hl hi hr hm hk
  repeat (first | refine JL.q (by first|(apply OQ.aB (vs:=[.int .i64 u]);exact uA;rfl;exact hi)|(apply OQ.nM;exact Tryz.underlying9;rfl)|(apply OQ.BS (a:=10) (b:=(d.length : Int));rfl;rfl;exact (by omega);exact (by omega))|(apply OQ.BW (a:=0) (c:=(10 : Int) - (d.length : Int));rfl;rfl)|(apply OQ.move;rfl)|(apply OQ.assign;rfl)) rfl ?_ | refine JC.seq ?_ | refine JC.region ?_ | refine JL.nil ?_ | refine JE.next ?_)
  rw [hm]
  repeat (first | refine JL.q (by first|(apply OQ.aB (vs:=[Z [48#8],N (10 - d.length)]);exact uC;rfl;exact (fun w' _=>hr w'))|(apply OQ.oL (l:=[109#8,58#8]) (r:=f);rfl;rfl;exact (by simp;omega))|(apply OQ.oL (l:=[109#8,58#8]++f) (r:=[58#8]);rfl;rfl;exact (by simp;omega))|(apply OQ.oL (l:=[109#8,58#8]++f++[58#8]) (r:=List.replicate (10 - d.length) 48#8);rfl;rfl;exact (by simp;omega))|(apply OQ.oL (l:=[109#8,58#8]++f++[58#8]++List.replicate (10 - d.length) 48#8) (r:=d);rfl;rfl;exact (by simp;omega))|(apply OQ.move;rfl)|(apply OQ.assign;rfl)) rfl ?_ | refine JC.seq ?_ | refine JC.region ?_ | refine JL.nil ?_ | refine JE.next ?_)
  exact JC.ret (JE.aP rfl (RV.tmp rfl) fun w' hw=>⟨by rw [hk],hw.aS⟩)
theorem OQ.yL {n : Nat} {E : Env} {C : World→Prop} {dst : Option Tmp} {ty : TypeId} {pos : String} {aft : Array Edge} {g : Option (Nat × Bool)} {x1 : Operand} {p : Nat} (h1 : ev E x1=some (Pt p 0)) :
    OQ Tryz.prog n E C ⟨dst,.build 65 #[(0,x1)],ty,pos,aft,g⟩ (.agg #[Pt p 0]):=
  OQ.run fun a ha w _=>by
    have e1:=ha.eval h1
    have r:=run_build (P:=Tryz.prog) w 65 #[(0,Pt p 0)] #[Pt p 0] (by kernel_rfl)
    simp [execOp,e1,r]
theorem uE : aI Tryz.prog 31:=⟨_,Tryz.func31,rfl,by kernel_rfl⟩
theorem wX (p : Nat) (w : World) : Calls Tryz.prog 31 [Pt p 0].toArray w fun e w'=>∃ b : Nat,e=.returned (Pt b 0)∧Holds w [] [⟨b,Row 65 [Pt p 0],true⟩] w':=by
  refine enter (n:=6) Tryz.func31 rfl rfl rfl (Holds.start w []) ?_
  repeat (first | refine JL.q (by first|(apply OQ.yL;rfl)|(apply OQ.move;rfl)|(apply OQ.assign;rfl)) rfl ?_ | refine JC.seq ?_ | refine JC.region ?_ | refine JL.nil ?_ | refine JE.next ?_)
  refine JL.box (r:=[Pt p 0]) rfl rfl rfl fun b _=>?_
  repeat (first | refine JL.q (by (apply OQ.assign;rfl)) rfl ?_ | refine JL.nil ?_ | refine JE.next ?_)
  exact JC.ret (JE.aP rfl (RV.tmp rfl) fun w' hw=>⟨b,rfl,hw⟩)
theorem rM : aI Tryz.prog 28:=⟨_,Tryz.func28,rfl,by kernel_rfl⟩
theorem uF (f : Bk) (n : Nat) (hf : f.length<1000000000000000) (w : World) :
    Calls Tryz.prog 28 [Z f,N n].toArray w fun e w'=>∃ r : Nat × Nat,e=.returned (.agg (aE.cs ⟨cI f,⟨some ⟨r.1,0,none⟩,r.2,nV n⟩,false⟩).toArray)∧Holds w [] (af 5 (some r) ((nV n).map U8)) w':=by
  refine enter (n:=11) Tryz.func28 rfl rfl rfl (Holds.start w []) ?_
  refine JC.seq (JC.region (JL.alloc AN rfl fun b _=>?_))
  repeat (first | refine JL.q (by first|(apply OQ.oL (l:=[110#8,58#8]) (r:=f);rfl;rfl;exact (by simp;omega))|(apply OQ.eD;exact Tryz.underlying3;exact Tryz.underlying82;rfl)|(apply OQ.move;rfl)) rfl ?_ | refine JC.seq ?_ | refine JC.region ?_ | refine JL.nil ?_ | refine JE.next ?_)
  refine JL.qG (M:=[⟨b,Row 67 [Z [],.slice none 0 0,.bool false],true⟩]) (q:=none) (xs:=[]) (m:=BitVec.ofNat 64 n) (size:=8) (by decide) (by decide) (fun _=>rfl) (by decide) rfl rfl rfl rfl fun r=>?_
  repeat (refine JL.q (by (apply OQ.oc (key:=cI f) (s:=⟨some ⟨r.1,0,none⟩,r.2,nV n⟩);rfl;rfl)) rfl ?_)
  refine JL.perm (M':=⟨b,Row 67 [Z [],.slice none 0 0,.bool false],true⟩::af 5 (some r) ((nV n).map U8)) ?_ (by exact List.perm_append_comm (l₁:=af 5 (some r) ((nV n).map U8)) (l₂:=[_]))
  refine JL.ai (cs:=aE.cs ⟨cI f,⟨some ⟨r.1,0,none⟩,r.2,nV n⟩,false⟩) iX rfl rfl rfl (aE.one _) .here rfl ?_
  repeat (first | refine JL.nil ?_ | refine JE.next ?_)
  exact JC.ret (JE.aP rfl (RV.aL (cs:=aE.cs ⟨cI f,⟨some ⟨r.1,0,none⟩,r.2,nV n⟩,false⟩) gw iX rfl .here rfl Row.all) fun w' hw=>⟨r,rfl,hw.weak (.drop _ _ _ (ak.refl _))⟩)
end
section
set_option maxRecDepth 10000
open Sl dc dz gh Bx
theorem wY : jm Tryz.prog 46=true:=by kernel_rfl
theorem sS : dH Tryz.prog 46=some 3:=by kernel_rfl
theorem AA : zc Tryz.prog 46=some [.int .i64 0,.int .i64 0,.slice none 0 0]:=by kernel_rfl
theorem rN : dY Tryz.prog 24=true:=by kernel_rfl
abbrev fG (i : Int) : Value:=.int .i64 i
def eW (u fl : Int) (s : az) : List Value:=[fG u,fG fl,s.v]
theorem mg : aI Tryz.prog 27:=⟨_,Tryz.func27,rfl,by kernel_rfl⟩
def jl (f : Bk) (u fl : Int) (l : Bk) (r : Nat × Nat) : aE:=⟨aR f u,⟨some ⟨r.1,0,none⟩,r.2,BitVec.ofInt 8 fl::l⟩,false⟩
set_option maxHeartbeats 8000000 in
theorem nI (f : Bk) (u fl : Int) (s : az) (hf : f.length<1000000000000000) (h0 : -9223372036854775808≤u) (h1 : u≤9223372036854775807) (hl : s.l.length≤3000000) (w : World) (hs : s.ok w) (hT : er w) :
    Calls Tryz.prog 27 [Z f,.agg (eW u fl s).toArray].toArray w fun e w'=>∃ r : Nat × Nat,e=.returned (.agg (jl f u fl s.l r).cs.toArray)∧Holds w [] (af 5 (some r) ((BitVec.ofInt 8 fl::s.l).map U8)) w':=by
  refine enter (n:=17) Tryz.func27 rfl rfl rfl (Holds.start w []) ?_
  refine JC.seq (JC.region (JL.box (r:=eW u fl s) rfl rfl rfl fun b3 _=>?_))
  refine JL.alloc AN rfl fun b4 _=>?_
  repeat (first | refine JC.seq ?_ | refine JL.nil ?_ | refine JE.next ?_)
  let vs : Nat→Nat × Nat→Value:=fun j y=>match j with
    | 0=>Z f
    | 1=>Pt b3 0
    | 2=>fG u
    | 3=>Z (aR f u)
    | 4=>Pt b3 1
    | 5=>fG fl
    | 6=>U8 (BitVec.ofInt 8 fl)
    | 7=>av (some y) 1
    | 8=>Pt b3 2
    | 9=>s.v
    | 10=>av (some y) (s.l.length+1)
    | 11=>.agg (jl f u fl s.l y).cs.toArray
    | _=>N 0
  let Ms : Nat→Nat × Nat→List aj:=fun j y=>match j with
    | 7=>af 5 (some y) [U8 (BitVec.ofInt 8 fl)]
    | 10=>af 5 (some y) ((BitVec.ofInt 8 fl::s.l).map U8)
    | 12=>[⟨b4,Row 67 (jl f u fl s.l y).cs,true⟩]
    | 13=>[⟨b4,Row 67 [Z [],.slice none 0 0,.bool false],true⟩]
    | 14=>[⟨b3,Row 46 (eW u fl s),true⟩]
    | _=>[]
  refine JC.grow (g:=⟨[(0,Z f),(3,Pt b3 0),(4,Pt b4 0)],15,vs,Ms,(fun j=>match j with | 2=>[(1,6)] | 3=>[(0,5),(2,7)] | 5=>[(4,9)] | 6=>[(5,10)] | 7=>[(6,11)] | 9=>[(8,13)] | 10=>[(7,12),(9,14)] | 11=>[(3,8),(10,15)] | 12=>[(11,16)] | _=>[]),(fun j=>match j with | 2=>[14] | 5=>[14] | 9=>[14] | 10=>[7] | 12=>[13] | _=>[]),(fun j=>match j with | 10=>[7] | 12=>[13] | _=>[]),(fun j=>match j with | 11=>some 10 | 12=>some 11 | _=>none)⟩) [] [12,10,14] cC (by repeat (first | exact ah.nil | refine ah.cons _ _ _ rfl ?_)) ?_ (by kernel_rfl) (by kernel_rfl) (by kernel_rfl) ?_ ?_
  · exact ak.refl _
  · refine ⟨?_,?_,?_,?_,?_,?_,?_,?_,?_,?_,?_,?_,?_,trivial⟩
    · (intro xx EF MF Q kk;(try refine JL.aD rfl rfl ?_);exact JL.q (OQ.move rfl) rfl (JL.nil (kk default nofun)))
    · (intro xx EF MF Q kk;(try refine JL.aD rfl rfl ?_);exact JL.q (OQ.bA rfl rfl rfl (by decide) rfl) rfl (JL.nil (kk default nofun)))
    · (intro xx EF MF Q kk;(try refine JL.aD rfl rfl ?_);exact JL.q (OQ.load (v:=fG u) cr rfl .here (Row.cell rfl)) rfl (JL.nil (kk default nofun)))
    · (intro xx EF MF Q kk;(try refine JL.aD rfl rfl ?_);exact JL.q (OQ.aB (vs:=[Z f,fG u]) jN rfl (fun w' hw'=>me f u hf h0 h1 w' (hT.aS (by simp) hw'.aS))) rfl (JL.nil (kk default nofun)))
    · (intro xx EF MF Q kk;(try refine JL.aD rfl rfl ?_);exact JL.q (OQ.bA rfl rfl rfl (by decide) rfl) rfl (JL.nil (kk default nofun)))
    · (intro xx EF MF Q kk;(try refine JL.aD rfl rfl ?_);exact JL.q (OQ.load (v:=fG fl) cr rfl .here (Row.cell rfl)) rfl (JL.nil (kk default nofun)))
    · (intro xx EF MF Q kk;(try refine JL.aD rfl rfl ?_);exact JL.q (OQ.xB Tryz.underlying3 Tryz.underlying5 rfl) rfl (JL.nil (kk default nofun)))
    · (intro xx EF MF Q kk;refine JL.j7 (v:=U8 (BitVec.ofInt 8 fl)) Tryz.underlying24 qw rfl rfl rfl rfl fun b _=>?_;refine JL.oP (M':=af 5 (some (b,1)) [U8 (BitVec.ofInt 8 fl)]++MF) ?_ (.keep _ _ _ _ _ _ (iG rfl) (ak.refl _));exact JL.nil (kk (b,1) nofun))
    · (intro xx EF MF Q kk;(try refine JL.aD rfl rfl ?_);exact JL.q (OQ.bA rfl rfl rfl (by decide) rfl) rfl (JL.nil (kk default nofun)))
    · (intro xx EF MF Q kk;(try refine JL.aD rfl rfl ?_);exact JL.q (OQ.load (v:=s.v) rN rfl .here (Row.cell rfl)) rfl (JL.nil (kk default nofun)))
    · (intro xx EF MF Q kk;refine JL.cZ (xs:=[U8 (BitVec.ofInt 8 fl)]) (cs:=s.l.map U8) (m:=s.l.length) (ad:=s.ad) (sc:=s.cap) (some (xx 7)) Tryz.underlying24 qw nofun rfl rfl (List.length_map _) (fun w' hw'=>(hs.holds hw' rfl).reads) (fun v hv=>by obtain ⟨c,_,rfl⟩:=List.mem_map.1 hv;rfl) rfl (by simp;omega) (by simp;omega) rfl fun q' hq'=>?_;rcases q' with _ | r;(exact absurd (hq' rfl) (by simp));have hle : ([U8 (BitVec.ofInt 8 fl)]++s.l.map U8).length=s.l.length+1:=(by simp);rw [hle];exact JL.nil (kk r nofun))
    · (intro xx EF MF Q kk;(try refine JL.aD rfl rfl ?_);exact JL.q (OQ.oc (key:=aR f u) (s:=⟨some ⟨(xx 10).1,0,none⟩,(xx 10).2,BitVec.ofInt 8 fl::s.l⟩) rfl rfl) rfl (JL.nil (kk (xx 10) (fun k h=>by cases h;rfl))))
    · (intro xx EF MF Q kk;exact JL.ai (cs:=(jl f u fl s.l (xx 11)).cs) iX rfl rfl rfl (aE.one _) .here rfl (JL.nil (kk (xx 11) (fun k h=>by cases h;rfl))))
  · intro xx hx
    have e1:=hx 12 11 (by decide) rfl
    have e2:=hx 11 10 (by decide) rfl
    show JE _ _ _ _ _ [(0,Z f),(3,Pt b3 0),(4,Pt b4 0)] ([⟨b4,Row 67 (jl f u fl s.l (xx 12)).cs,true⟩]++(af 5 (some (xx 10)) ((BitVec.ofInt 8 fl::s.l).map U8)++([⟨b3,Row 46 (eW u fl s),true⟩]++[])))
    rw [e1,e2]
    generalize xx 10=r
    clear hx e1 e2 xx vs Ms
    refine JE.next ?_
    exact JC.ret (JE.aP rfl (RV.aL (cs:=(jl f u fl s.l r).cs) gw iX rfl .here rfl Row.all) fun w' hw=>⟨r,rfl,hw.weak (.drop _ _ _ (an _ _))⟩)
end
section
set_option maxRecDepth 10000
open Sl dc dz gh Bx
structure Bz where
  b : Nat
  z : Sz
def Bz.E (x : Bz) : List aj:=x.z.E++[⟨x.b,Row 65 [Pt x.z.p 0],true⟩]
theorem Bz.wr (x : Bz) : ∀ e ∈ x.E,e.wr=true:=by
  intro e he
  rcases List.mem_append.1 he with he | he
  · exact x.z.wr e he
  · rw [List.mem_singleton] at he;subst he;rfl
structure Bz.ok (x : Bz) (aa : List Bk) (vs : VL) (R : Rb) (n : Nat) : Prop where
  z : x.z.ok aa vs
  v : Bv vs R
  r : R.ok n
theorem AO : dY Tryz.prog 63=true:=by kernel_rfl
theorem mh : EI Tryz.prog 3 (.int .i64 0) 1 8:=by unfold EI;kernel_rfl
section
variable {n : Nat} {E : Env} {C : World→Prop} {dst : Option Tmp} {ty t' : TypeId} {pos : String} {aft : Array Edge} {g : Option (Nat × Bool)} {x y : Operand}
theorem OQ.AB (hx : ev E x=some .nilIface) : OQ Tryz.prog n E C ⟨dst,.binOp .eql 79 x (.const .nilIface) t',ty,pos,aft,g⟩ (.bool true):=
  OQ.run fun a ha w _=>by
    have h1:=ha.eval hx
    have h4 : (binOp .eql 79 .nilIface .nilIface).run Tryz.prog w=.ok (.bool true) w:=by
      show (do pure (.bool (← Op.equal 79 .nilIface .nilIface)) : Sem Value).run Tryz.prog w=_
      simp [Sem.run_bind,run_equal_nil_nil w 79 Tryz.underlying79]
    have h5 : a.eval (.const .nilIface)=.nilIface:=rfl
    simp [execOp,h1,h5,eqGuard,h4]
end
theorem rO : aI Tryz.prog 23:=⟨_,Tryz.func23,rfl,by kernel_rfl⟩
set_option maxHeartbeats 8000000 in
theorem uG (x : Bz) (aa : List Bk) (vs : VL) (R : Rb) (n : Nat) (k : x.ok aa vs R n) (f : Bk) (hf : f.length<1000000000000000) (w : World) (h0 : Holds w (keys x.E) x.E w) :
    Calls Tryz.prog 23 [Pt x.b 0,Z f].toArray w fun e w'=>e=.returned (N (R.next f))∧Holds w (keys x.E) x.E w':=by
  generalize keys x.E=S at h0 ⊢
  refine enter (n:=22) Tryz.func23 rfl rfl rfl h0 ?_
  unfold Bz.E
  repeat (first | refine JL.q (by first|(apply OQ.load;exact AO;rfl;exact (aZ (N:=x.z.E) .here);exact (Row.cell (v:=Pt x.z.p 0) rfl))|(apply OQ.oL (l:=[110#8,58#8]) (r:=f);rfl;rfl;exact (by simp;omega))|(apply OQ.move;rfl)|(apply OQ.assign;rfl)|(apply OQ.bx;rfl)|(apply OQ.bA;rfl;rfl;rfl;exact (by decide);rfl)) rfl ?_ | refine JC.seq ?_ | refine JC.region ?_ | refine JL.nil ?_ | refine JE.next ?_)
  have hg:=k.v.next f
  cases hn : R.next? f with
  | none=>
    rw [hn] at hg
    refine JL.Az (key:=cI f) (v:=[]) (is:=false) k.z (by rw [hg];rfl) (by rw [hg];rfl) rfl rfl rfl fun q=>?_
    repeat (first | refine JL.q (by first|(apply OQ.extract;rfl;rfl)|(apply OQ.not;rfl)|(apply OQ.move;rfl)|(apply OQ.assign;rfl)) rfl ?_ | refine JC.seq ?_ | refine JC.region ?_ | refine JL.nil ?_ | refine JE.next ?_)
    refine JC.cond_true rfl rfl ?_
    repeat (first | refine JL.q (by (apply OQ.assign;rfl)) rfl ?_ | refine JC.seq ?_ | refine JC.region ?_ | refine JL.nil ?_ | refine JE.next ?_)
    have e : R.next f=1:=by unfold Rb.next;rw [hn];rfl
    rw [e]
    refine JC.ret ?_
    repeat (refine JE.ax ?_)
    exact JE.aP rfl (RV.tmp rfl) fun w' hw=>⟨rfl,hw.weak (bE _ _)⟩
  | some m=>
    rw [hn] at hg
    refine JL.Az (key:=cI f) (v:=nV m) (is:=true) k.z (by rw [hg];rfl) (by rw [hg];rfl) rfl rfl rfl fun q=>?_
    have hlv : (aK q.1 (nV m)).l=nV m:=jx fun e=>absurd (q.2 e) (by unfold nV;intro h;have:=congrArg List.length h;rw [dB] at this;cases this)
    have hvv:=kW q.1 (nV m)
    rw [← hvv]
    repeat (first | refine JL.q (by first|(apply OQ.extract;rfl;rfl)|(apply OQ.not;rfl)|(apply OQ.move;rfl)|(apply OQ.assign;rfl)) rfl ?_ | refine JC.seq ?_ | refine JC.region ?_ | refine JL.nil ?_ | refine JE.next ?_)
    refine JC.cond_false rfl rfl ?_
    have e : R.next f=m:=by unfold Rb.next;rw [hn];rfl
    have hle:=R.gK k.r f
    rw [e] at hle ⊢
    have h1:=k.r.le
    have hto : (BitVec.ofNat 64 m).toNat=m:=by rw [BitVec.toNat_ofNat];omega
    have hr:=fun (w' : World) (ok : (aK q.1 (nV m)).ok w')=>cQ (aK q.1 (nV m)) w' ok (by rw [hlv];unfold nV;rw [dB];decide)
    rw [hlv,show dG (nV m)=BitVec.ofNat 64 m from tF _] at hr
    repeat (first | refine JL.q (by first|(apply OQ.aB (vs:=[(aK q.1 (nV m)).v]);exact bM;rfl;exact (fun w' hw'=>hr w' (fV hw')))|(apply OQ.oG;exact Tryz.underlying82;exact Tryz.underlying3;rfl;exact (by rw [hto];omega))|(apply OQ.move;rfl)|(apply OQ.assign;rfl)) rfl ?_ | refine JC.seq ?_ | refine JC.region ?_ | refine JC.skip ?_ | refine JL.nil ?_ | refine JE.next ?_)
    rw [hto]
    exact JC.ret (JE.aP rfl (RV.tmp rfl) fun w' hw=>⟨rfl,hw.weak (bE _ _)⟩)
theorem rP : aI Tryz.prog 22:=⟨_,Tryz.func22,rfl,by kernel_rfl⟩
def aA (l : List Nat) : List Value:=l.map fun u=>N u
theorem sU {R : Rb} {n : Nat} (k : R.ok n) {f : Bk} {u : Nat} (h : u ∈ R.list f) : u<10 ^ 10:=by
  obtain ⟨m,hm,rfl⟩:=List.mem_map.1 h
  exact k.ki (List.mem_filter.1 hm).1
set_option maxHeartbeats 16000000 in
theorem uH (x : Bz) (aa : List Bk) (vs : VL) (R : Rb) (n : Nat) (k : x.ok aa vs R n) (f : Bk) (hf : f.length<1000000000000000) (hn : R.ms.length≤1000000) (w : World) (h0 : Holds w (keys x.E) x.E w) :
    Calls Tryz.prog 22 [Pt x.b 0,Z f].toArray w fun e w'=>∃ q : {q : Acc // q=none→R.list f=[]},e=.returned (av q.1 (R.list f).length)∧Holds w (keys x.E) (af 3 q.1 (aA (R.list f))++x.E) w':=by
  generalize keys x.E=S at h0 ⊢
  refine enter (n:=41) Tryz.func22 rfl rfl rfl h0 ?_
  unfold Bz.E
  have hlk : zy vs (aU f)=(R.list f).map fun u=>aR f ((u : Nat) : Int):=uk k.r k.v f
  have hll : (R.list f).length≤1000000:=by
    unfold Rb.list
    rw [List.length_map]
    have:=List.length_filter_le (fun m=>decide (m.f=f)) R.ms
    omega
  have hlt : ∀ u ∈ R.list f,u<10 ^ 10:=fun u h=>sU k.r h
  have hfl : (aU f).length=f.length+3:=by unfold aU;simp
  generalize R.list f=L at hlk hll hlt ⊢
  repeat (first | refine JL.q (by first|(apply OQ.oL (l:=[109#8,58#8]) (r:=f);rfl;rfl;exact (by simp;omega))|(apply OQ.oL (l:=[109#8,58#8]++f) (r:=[58#8]);rfl;rfl;exact (by simp;omega))|(apply OQ.load;exact AO;rfl;exact (aZ (N:=x.z.E) .here);exact (Row.cell (v:=Pt x.z.p 0) rfl))|(apply OQ.move;rfl)|(apply OQ.assign;rfl)|(apply OQ.bx;rfl)|(apply OQ.bA;rfl;rfl;rfl;exact (by decide);rfl)) rfl ?_ | refine JC.seq ?_ | refine JC.region ?_ | refine JL.nil ?_ | refine JE.next ?_)
  refine JL.BD (front:=aU f) (ks:=L.map fun u=>aR f ((u : Nat) : Int)) k.z hlk rfl rfl rfl fun q2=>?_
  obtain ⟨q2,hq2⟩:=q2
  dsimp only
  obtain ⟨ks,hks⟩ : ∃ ks,(L.map fun u=>aR f ((u : Nat) : Int))=ks:=⟨_,rfl⟩
  have hkl : ks.length=L.length:=by rw [← hks,List.length_map]
  rw [hks] at hq2 ⊢
  obtain ⟨X,hX⟩ : ∃ X,x.z.E++[(⟨x.b,Row 65 [Pt x.z.p 0],true⟩ : aj)]=X:=⟨_,rfl⟩
  rw [hX]
  repeat (first | refine JL.q (by first|(apply OQ.kf (q:=q2) (k:=ks.length);exact Tryz.underlying33;exact (fun e=>by rw [hq2 e];rfl);rfl)|(apply OQ.move;rfl)) rfl ?_ | refine JC.block ?_ | refine JL.nil ?_ | refine JE.next ?_)
  refine JC.loop (fun z : Nat × Acc=>[(5,av z.2 z.1),(6,Z (aU f)),(19,av q2 ks.length),(20,N ks.length),(21,N z.1)]) (fun z=>af 3 z.2 (aA (L.take z.1))++(af 9 q2 (ks.map Z)++X)) (fun z=>ks.length - z.1) (fun z=>z.1≤ks.length∧(z.2=none→z.1=0)) (0,none) ⟨Nat.zero_le _,fun _=>rfl⟩ (by repeat (first | exact ah.nil | refine ah.cons _ _ _ rfl ?_)) (ak.refl _) ?_
  rintro ⟨i,q⟩ ⟨hi,hq0⟩
  dsimp only at hi hq0 ⊢
  repeat (first | refine JL.q (by (apply OQ.fc;rfl;rfl)) rfl ?_ | refine JC.seq ?_ | refine JC.region ?_ | refine JL.nil ?_ | refine JE.next ?_)
  refine JC.cond rfl (fun h=>?_) (fun h=>?_)
  · have hi' : i<ks.length:=by have:=of_decide_eq_true h;omega
    clear h
    have hiL : i<L.length:=by omega
    cases q2 with
    | none=>rw [hq2 rfl] at hi';cases hi'
    | some r2=>
    have hul : L.getD i 0<10 ^ 10:=hlt _ (by rw [List.getD_eq_getElem?_getD,List.getElem?_eq_getElem hiL];exact List.getElem_mem hiL)
    have htk : L.take (i+1)=L.take i++[L.getD i 0]:=by
      rw [List.take_succ_eq_append_getElem hiL,List.getD_eq_getElem?_getD,List.getElem?_eq_getElem hiL]
      rfl
    have hki : ks[i]?=some (aR f ((L.getD i 0 : Nat) : Int)):=by
      rw [← hks,List.getElem?_map,List.getD_eq_getElem?_getD,List.getElem?_eq_getElem hiL]
      rfl
    generalize L.getD i 0=u at hul htk hki
    have hzk : (ks.map Z)[i]?=some (Z (aR f (u : Int))):=by rw [List.getElem?_map,hki];rfl
    have hH : Has (af 3 q (aA (L.take i))++(af 9 (some r2) (ks.map Z)++X)) r2.1 (Sl.Own 9 1 (ks.map Z).length r2.2 (ks.map Z)) true:=aZ .here
    have hcell:=Sl.Own.cell (e:=9) (sz:=1) (n:=(ks.map Z).length) (cap:=r2.2) hzk
    have hkv : av (some r2) ks.length=.slice (some ⟨r2.1,0,none⟩) ks.length r2.2:=rfl
    have hdr : (aR f (u : Int)).drop (aU f).length=qh (u : Int):=by rw [fD,List.drop_left'];rfl
    have hml : (aU f).length≤(aR f (u : Int)).length:=by rw [fD,List.length_append];omega
    have ha:=fun w'=>wW u hul w'
    rw [← hdr] at ha
    rw [hkv]
    repeat (first | refine JL.q (by first|(apply OQ.dw (i:=i) (b:=r2.1) (j:=0);exact Tryz.underlying33;exact BX;rfl;rfl;exact hi')|(apply OQ.load (v:=Z (aR f (u : Int)));exact qy;rfl;exact hH;exact (by rw [Nat.zero_add];exact hcell))|(apply OQ.nM;exact Tryz.underlying9;rfl)|(apply OQ.xH (i:=(aU f).length);exact Tryz.underlying9;rfl;rfl;exact hml)|(apply OQ.aB (vs:=[Z ((aR f (u : Int)).drop (aU f).length)]);exact uB;rfl;exact (fun w' _=>ha w'))|(apply OQ.extract;rfl;rfl)|(apply OQ.AB;rfl)|(apply OQ.move;rfl)|(apply OQ.assign;rfl)) rfl ?_ | refine JC.seq ?_ | refine JC.region ?_ | refine JC.block ?_ | refine JC.skip ?_ | refine JL.nil ?_ | refine JE.next ?_)
    refine JC.cond_true rfl rfl ?_
    repeat (first | refine JL.q (by (apply OQ.move;rfl)) rfl ?_ | refine JC.region ?_)
    refine JL.j7 (v:=N u) Tryz.underlying35 mh rfl rfl rfl rfl fun bl _=>?_
    have hxl : (aA (L.take i)).length=i:=by unfold aA;rw [List.length_map,List.length_take];omega
    refine JL.perm (M':=af 3 q (aA (L.take i))++(⟨bl,Row 3 [N u],true⟩::(af 9 (some r2) (ks.map Z)++X))) ?_ (by exact (List.perm_append_comm_assoc [_] _ _))
    refine JL.cZ (xs:=aA (L.take i)) (cs:=[N u]) (m:=1) (ad:=some ⟨bl,0,none⟩) (sc:=1) q Tryz.underlying35 mh (fun e=>by have:=hq0 e;subst this;rfl) (by rw [hxl];rfl) rfl rfl (fun w' hw'=>?_) (by simp [Value.oneCell']) rfl (by rw [hxl];omega) (by rw [hxl];omega) rfl fun q' hq'=>?_
    · obtain ⟨o,ho,hA⟩:=hw'.get (b:=bl) (A:=Row 3 [N u]) (wr:=true) (aZ .here)
      exact Reads.block ho (Row.all o hA)
    have e2 : aA (L.take i)++[N u]=aA (L.take (i+1)):=by unfold aA;rw [htk,List.map_append];rfl
    have e3 : (aA (L.take i)++[N u]).length=i+1:=by rw [List.length_append,hxl];rfl
    rw [e3,e2]
    repeat (first | refine JL.q (by first|(apply OQ.move;rfl)|(apply OQ.assign;rfl)|(apply OQ.addN;rfl;rfl;exact (by (try simp only []);omega))) rfl ?_ | refine JC.region ?_ | refine JL.nil ?_ | refine JE.next ?_ | refine JE.au ?_)
    rw [← hkv]
    exact JE.again (i:=(i,q)) (i+1,q') ⟨hi',fun e=>absurd (hq' e) (by simp)⟩ (by dsimp only;omega) (by repeat (first | exact ah.nil | refine ah.cons _ _ _ rfl ?_)) (bQ (.drop _ _ _ (ak.refl _)) _)
  · have hi' : i=L.length:=by have:=of_decide_eq_false h;omega
    subst hi'
    rw [List.take_length]
    repeat (first | refine JL.q (by first|(apply OQ.move;rfl)|(apply OQ.assign;rfl)) rfl ?_ | refine JC.seq ?_ | refine JC.region ?_ | refine JC.exit ?_ | refine JL.nil ?_ | refine JE.next ?_ | refine JE.aH ?_ | refine JE.aX ?_)
    exact JC.ret (JE.aP rfl (RV.tmp rfl) fun w' hw=>⟨⟨q,fun e=>List.eq_nil_of_length_eq_zero (hq0 e)⟩,rfl,hw.weak (bQ (bE _ _) _)⟩)
end
section
set_option maxRecDepth 10000
open Sl dc dz gh Bx
section
variable {n : Nat} {E : Env} {C : World→Prop} {dst : Option Tmp} {ty t' : TypeId} {pos : String} {aft : Array Edge} {g : Option (Nat × Bool)} {x y z : Operand}
theorem OQ.yM {u fl : Int} {s : az} (hx : ev E x=some (fG u)) (hy : ev E y=some (fG fl)) (hz : ev E z=some s.v) : OQ Tryz.prog n E C ⟨dst,.build 46 #[(0,x),(1,y),(2,z)],ty,pos,aft,g⟩ (.agg (eW u fl s).toArray):=
  OQ.run fun a ha w _=>by
    have h1:=ha.eval hx
    have h2:=ha.eval hy
    have h3:=ha.eval hz
    have r:=run_build (P:=Tryz.prog) w 46 #[(0,fG u),(1,fG fl),(2,s.v)] (eW u fl s).toArray (by kernel_rfl)
    simp [execOp,h1,h2,h3,r]
theorem OQ.wZ : OQ Tryz.prog n E C ⟨dst,.build 46 #[],ty,pos,aft,g⟩ (.agg (eW 0 0 bB).toArray):=OQ.pure rfl rfl (by kernel_rfl)
end
theorem w4 (x : Bz) {M : List aj} : Has ((x.E++[])++M) x.b (Row 65 [Pt x.z.p 0]) true:=by
  rw [List.append_nil]
  unfold Bz.E
  rw [List.append_assoc]
  exact aZ .here
theorem w5 (x : Bz) (M : List aj) : (x.E++[])++M=x.z.E++([(⟨x.b,Row 65 [Pt x.z.p 0],true⟩ : aj)]++M):=by
  unfold Bz.E
  rw [List.append_nil,List.append_assoc]
theorem CL (u fl : Int) (s : az) : (eW u fl s).all Value.oneCell'=true:=rfl
def mj (r : Nat × Nat) (l : Bk) : az:=⟨if r.2=1 then some ⟨r.1,0,none⟩ else (some (⟨r.1,0,none⟩ : Addr)).map (·.add (1 * 1)),r.2 - 1,l⟩
theorem rQ {w0 w : World} {S : List Nat} {M : List aj} {r : Nat × Nat} {c : Bt} {l : Bk} (hw : Holds w0 S (af 5 (some r) ((c::l).map U8)++M) w) : (mj r l).ok w:=by
  have h:=fV (q:=some r) (l:=c::l) hw
  have h2 : (c::l).length≤r.2:=h.len
  have h1:=h.reads.drop (len:=(c::l).length) (cap:=r.2) (lo:=1) (by rw [List.length_map];rfl) h2 (by simp)
  refine ⟨?_,?_⟩
  · show l.length≤r.2 - 1
    rw [List.length_cons] at h2
    omega
  · have e : ((c::l).map U8).drop 1=l.map U8:=rfl
    show Reads w _ (l.map U8)
    rw [← e]
    exact h1
def AD (u : Int) (o : Option Ml) (r : Nat × Nat) : Value:=match o with
  | none=>.tuple #[.agg (eW 0 0 bB).toArray,N 7]
  | some m=>.tuple #[.agg (eW u m.fl (mj r m.b)).toArray,N 0]
def yN (o : Option Ml) (r : Nat × Nat) : List aj:=match o with
  | none=>[]
  | some m=>af 5 (some r) (m.v.map U8)
theorem yO (o : Option Ml) (r : Nat × Nat) : ∀ e ∈ yN o r,e.wr=true:=by
  cases o with
  | none=>intro e h;cases h
  | some m=>exact fun e h=>aM 5 (some r) (m.v.map U8) e h
theorem qb : aI Tryz.prog 20:=⟨_,Tryz.func20,rfl,by kernel_rfl⟩
set_option maxHeartbeats 16000000 in
theorem rR (x : Bz) (aa : List Bk) (vs : VL) (R : Rb) (n : Nat) (k : x.ok aa vs R n) (f : Bk) (u : Int) (hf : f.length<1000000000000000) (hu0 : -9223372036854775808≤u) (hu1 : u≤9223372036854775807) (w : World) (h0 : Holds w (keys x.E) x.E w) (hT : dX (keys x.E) w) :
    Calls Tryz.prog 20 [Pt x.b 0,Z f,fG u].toArray w fun e w'=>∃ r : Nat × Nat,e=.returned (AD u (R.find f u) r)∧Holds w (keys x.E) (yN (R.find f u) r++x.E) w':=by
  generalize keys x.E=S at h0 hT ⊢
  refine enter (n:=33) Tryz.func20 rfl rfl rfl h0 ?_
  refine JC.seq (JC.region (JL.alloc AA rfl fun b6 _=>?_))
  have hMk:=fun (w' : World) (M' : List aj) (hw' : Holds w S M' w')=>me f u hf hu0 hu1 w' (hT.holds hw')
  obtain ⟨v,hv⟩ : ∃ v,(ey vs (aR f u)).getD []=v:=⟨_,rfl⟩
  haveI : Inhabited {q : Acc // q=none→v=[]}:=⟨⟨some (0,0),nofun⟩⟩
  obtain ⟨is,his⟩ : ∃ is,(ey vs (aR f u)).isSome=is:=⟨_,rfl⟩
  repeat (first | refine JL.q (by (apply OQ.assign;rfl)) rfl ?_ | refine JC.seq ?_ | refine JL.nil ?_ | refine JE.next ?_)
  let vs2 : Nat→{q : Acc // q=none→v=[]}→Value:=fun j y=>match j with
    | 0=>Pt x.b 0
    | 1=>Pt x.b 0
    | 2=>Pt x.b 0
    | 3=>Pt x.z.p 0
    | 4=>Z f
    | 5=>fG u
    | 6=>Z (aR f u)
    | 7=>.tuple #[av y.1 v.length,.bool is]
    | 8=>.tuple #[av y.1 v.length,.bool is]
    | 9=>av y.1 v.length
    | 10=>.bool is
    | 11=>av y.1 v.length
    | 12=>.bool is
    | _=>N 0
  let Ms : Nat→{q : Acc // q=none→v=[]}→List aj:=fun j y=>match j with
    | 7=>af 5 y.1 (v.map U8)
    | 13=>[⟨b6,Row 46 [.int .i64 0,.int .i64 0,.slice none 0 0],true⟩]
    | 14=>x.E
    | _=>[]
  refine JC.grow (g:=⟨[(0,Pt x.b 0),(1,Z f),(2,fG u),(6,Pt b6 0)],15,vs2,Ms,(fun j=>match j with | 1=>[(0,11)] | 2=>[(1,12)] | 3=>[(2,13)] | 6=>[(4,15),(5,16)] | 7=>[(3,14),(6,17)] | 8=>[(7,18)] | 9=>[(8,10)] | 10=>[(8,10)] | 11=>[(9,19)] | 12=>[(10,20)] | _=>[]),(fun j=>match j with | 3=>[14] | 7=>[14] | _=>[]),(fun j=>match j with | _=>[]),(fun j=>match j with | 8=>some 7 | 9=>some 8 | 11=>some 9 | _=>none)⟩) [(11,8)] [7,13,14] cC (by repeat (first | exact ah.nil | refine ah.cons _ _ _ rfl ?_)) ?_ (by kernel_rfl) (by kernel_rfl) (by kernel_rfl) ?_ ?_
  · exact List.append_nil x.E ▸ ak.refl _
  · refine ⟨?_,?_,?_,?_,?_,?_,?_,?_,?_,?_,?_,?_,?_,trivial⟩
    · (intro xx EF MF Q kk;(try refine JL.aD rfl rfl ?_);exact JL.q (OQ.move rfl) rfl (JL.nil (kk default nofun)))
    · (intro xx EF MF Q kk;(try refine JL.aD rfl rfl ?_);exact JL.q (OQ.bx rfl) rfl (JL.nil (kk default nofun)))
    · (intro xx EF MF Q kk;(try refine JL.aD rfl rfl ?_);exact JL.q (OQ.bA rfl rfl rfl (by decide) rfl) rfl (JL.nil (kk default nofun)))
    · (intro xx EF MF Q kk;(try refine JL.aD rfl rfl ?_);exact JL.q (OQ.load (v:=Pt x.z.p 0) AO rfl (w4 x) (Row.cell rfl)) rfl (JL.nil (kk default nofun)))
    · (intro xx EF MF Q kk;(try refine JL.aD rfl rfl ?_);exact JL.q (OQ.move rfl) rfl (JL.nil (kk default nofun)))
    · (intro xx EF MF Q kk;(try refine JL.aD rfl rfl ?_);exact JL.q (OQ.move rfl) rfl (JL.nil (kk default nofun)))
    · (intro xx EF MF Q kk;(try refine JL.aD rfl rfl ?_);exact JL.q (OQ.aB (vs:=[Z f,fG u]) jN rfl (fun w' hw'=>hMk w' _ hw')) rfl (JL.nil (kk default nofun)))
    · (intro xx EF MF Q kk;refine JL.perm (M':=x.z.E++([(⟨x.b,Row 65 [Pt x.z.p 0],true⟩ : aj)]++MF)) ?_ (List.Perm.of_eq (w5 x MF));refine JL.Az (key:=aR f u) (v:=v) (is:=is) k.z hv his rfl rfl rfl fun q=>?_;refine JL.perm (M':=af 5 q.1 (v.map U8)++((x.E++[])++MF)) (JL.nil (kk q nofun)) (List.Perm.of_eq (by rw [w5 x MF])))
    · (intro xx EF MF Q kk;(try refine JL.aD rfl rfl ?_);exact JL.q (OQ.move rfl) rfl (JL.nil (kk (xx 7) (fun k h=>by cases h;rfl))))
    · (intro xx EF MF Q kk;(try refine JL.aD rfl rfl ?_);exact JL.q (OQ.extract rfl rfl) rfl (JL.nil (kk (xx 8) (fun k h=>by cases h;rfl))))
    · (intro xx EF MF Q kk;(try refine JL.aD rfl rfl ?_);exact JL.q (OQ.extract rfl rfl) rfl (JL.nil (kk default nofun)))
    · (intro xx EF MF Q kk;(try refine JL.aD rfl rfl ?_);exact JL.q (OQ.assign rfl) rfl (JL.nil (kk (xx 9) (fun k h=>by cases h;rfl))))
    · (intro xx EF MF Q kk;(try refine JL.aD rfl rfl ?_);exact JL.q (OQ.assign rfl) rfl (JL.nil (kk default nofun)))
  · intro xx hx
    have e1:=hx 11 9 (by decide) rfl
    have e2:=hx 9 8 (by decide) rfl
    have e3:=hx 8 7 (by decide) rfl
    show JE _ _ _ _ _ [(8,av (xx 11).1 v.length),(0,Pt x.b 0),(1,Z f),(2,fG u),(6,Pt b6 0)] (af 5 (xx 7).1 (v.map U8)++([⟨b6,Row 46 [.int .i64 0,.int .i64 0,.slice none 0 0],true⟩]++(x.E++[])))
    rw [e1,e2,e3]
    generalize xx 7=q
    clear hx e1 e2 e3 xx vs2 Ms
    obtain ⟨q,hq⟩:=q
    rw [List.append_nil]
    dsimp only
    refine JE.next ?_
    have hg:=k.v.wD f u
    cases hn : R.find f u with
    | none=>
      rw [hn] at hg
      have hv0 : v=[]:=by rw [← hv,hg];rfl
      subst hv0
      repeat (first | refine JL.q (by first|(apply OQ.kf (q:=q) (k:=0);exact Tryz.underlying24;exact (fun _=>rfl);rfl)|(apply OQ.kV (a:=0) (b:=0) (c:=true);rfl;rfl;rfl)|(apply OQ.move;rfl)) rfl ?_ | refine JC.seq ?_ | refine JC.region ?_ | refine JL.nil ?_ | refine JE.next ?_)
      refine JC.cond_true rfl rfl ?_
      repeat (first | refine JL.q (by (apply OQ.wZ)) rfl ?_ | refine JC.seq ?_ | refine JC.region ?_)
      refine JL.perm (M':=⟨b6,Row 46 [.int .i64 0,.int .i64 0,.slice none 0 0],true⟩::(af 5 q (([] : Bk).map U8)++x.E)) ?_ (by exact List.perm_middle)
      refine JL.ai (cs:=eW 0 0 bB) sS rfl rfl rfl rfl .here rfl ?_
      repeat (first | refine JL.q (by (apply OQ.assign;rfl)) rfl ?_ | refine JL.nil ?_ | refine JE.next ?_)
      refine JC.ret ?_
      repeat (refine JE.ax ?_)
      exact JE.cg rfl (RV.aL (cs:=eW 0 0 bB) wY sS rfl .here rfl Row.all) (RV.tmp rfl) fun w' hw=>⟨(0,0),rfl,hw.weak (.drop _ _ _ (bE _ _))⟩
    | some m=>
      rw [hn] at hg
      have hv0 : v=m.v:=by rw [← hv,hg];rfl
      subst hv0
      have hml : m.v.length=m.b.length+1:=rfl
      cases q with
      | none=>exact absurd (hq rfl) (by unfold Ml.v;simp)
      | some r=>
      have hfl : (BitVec.ofNat 8 m.fl).toNat=m.fl:=by
        have:=k.r.fl m (bZ hn).1
        rw [BitVec.toNat_ofNat]
        omega
      have hne : decide (((m.v.length : Nat) : Int)=0)=false:=decide_eq_false (by rw [hml];omega)
      repeat (first | refine JL.q (by first|(apply OQ.kf (q:=some r) (k:=m.v.length);exact Tryz.underlying24;exact nofun;rfl)|(apply OQ.kV (a:=(m.v.length : Int)) (b:=0);rfl;rfl;exact hne)|(apply OQ.move;rfl)) rfl ?_ | refine JC.seq ?_ | refine JC.region ?_ | refine JL.nil ?_ | refine JE.next ?_)
      refine JC.cond_false rfl rfl ?_
      have hvv : av (some r) m.v.length=.slice (some ⟨r.1,0,none⟩) m.v.length r.2:=rfl
      have hsl : (Value.slice (if r.2=1 then some (⟨r.1,0,none⟩ : Addr) else (some (⟨r.1,0,none⟩ : Addr)).map (·.add (1 * 1))) (m.v.length - 1) (r.2 - 1))=(mj r m.b).v:=rfl
      have hcell : ∀ o,Sl.Own 5 1 (m.v.map U8).length r.2 (m.v.map U8) o→cellAt o (0+0)=some (U8 (BitVec.ofNat 8 m.fl)):=Sl.Own.cell rfl
      have hHr : Has (af 5 (some r) (m.v.map U8)++([(⟨b6,Row 46 [.int .i64 0,.int .i64 0,.slice none 0 0],true⟩ : aj)]++x.E)) r.1 (Sl.Own 5 1 (m.v.map U8).length r.2 (m.v.map U8)) true:=.here
      rw [hvv]
      repeat (first | refine JC.seq ?_ | refine JC.skip ?_ | refine JE.next ?_)
      refine JC.tail 8 cC (by kernel_rfl) ?_
      simp only [List.take_succ_cons,List.take_zero,List.drop_succ_cons,List.drop_zero]
      repeat (first | refine JQ.q (by first|(apply OQ.dw (i:=0) (b:=r.1) (j:=0);exact Tryz.underlying24;exact gN;rfl;rfl;exact (by omega))|(apply OQ.load;exact zJ;rfl;exact hHr;exact hcell)|(apply OQ.to;exact (OQ.xC Tryz.underlying5 Tryz.underlying3 rfl);exact (congrArg N hfl))|(apply OQ.to;exact (OQ.qm (lo:=1) Tryz.underlying24 gN rfl rfl (by omega));exact hsl)|(apply OQ.yM (u:=u) (fl:=m.fl) (s:=mj r m.b);rfl;rfl;rfl)|(apply OQ.move;rfl)) rfl ?_ | refine JQ.cq ?_)
      refine JL.perm (M':=⟨b6,Row 46 [.int .i64 0,.int .i64 0,.slice none 0 0],true⟩::(af 5 (some r) (m.v.map U8)++x.E)) ?_ (by exact List.perm_middle)
      refine JL.ai (cs:=eW u m.fl (mj r m.b)) sS rfl rfl rfl rfl .here rfl ?_
      repeat (first | refine JL.q (by (apply OQ.assign;rfl)) rfl ?_ | refine JL.nil ?_ | refine JE.next ?_)
      exact JC.ret (JE.cg rfl (RV.aL (cs:=eW u m.fl (mj r m.b)) wY sS rfl .here rfl Row.all) (RV.tmp rfl) fun w' hw=>⟨r,rfl,hw.weak (.drop _ _ _ (ak.refl _))⟩)
end
section
set_option maxRecDepth 10000
open Sl dc dz gh
theorem Step.keep {z z' : Sz} {aa aT : List Bk} {vs vs' : VL} {ps : List Pq} {code : Nat} (st : Step z aa vs ps code z' aT vs') (k : z.ok aa vs) (hg : z.h.g.toNat<4294967295) :
    z'.h.size=z.h.size∧z'.h.x.p=z.h.x.p∧z'.h.g.toNat≤z.h.g.toNat+1:=by
  obtain ⟨_,_,st⟩:=st
  rcases st with ⟨rfl,_⟩ | ⟨_,_,_,⟨_,e,_⟩ | ⟨_,_,e,_⟩⟩
  · exact ⟨rfl,rfl,Nat.le_succ _⟩
  · rw [e];exact ⟨rfl,rfl,Nat.le_succ _⟩
  · rw [e];exact ⟨rfl,rfl,x9 k.jv.vW hg⟩
theorem Step.zero {z z' : Sz} {aa aT : List Bk} {vs vs' : VL} {ps : List Pq} {code : Nat} (st : Step z aa vs ps code z' aT vs') (k : z.ok aa vs) (hok : fu ps=true) (hs : nb (bD vs ps).length≤z.h.size) (hg : z.h.g.toNat<4294967295) : code=0∧vs'=cu vs ps:=by
  obtain ⟨_,_,st⟩:=st
  rcases st with ⟨_,_,_,h | h⟩ | ⟨_,h1,h2,_⟩
  · rw [hok] at h;exact absurd h.1 (by decide)
  · rcases h.2.2.2 with h | h
    · omega
    · have:=k.jv.vW
      rw [h,show (4294967295#32).toNat=4294967295 from rfl] at this
      omega
  · exact ⟨h1,h2⟩
structure CN where
  i : Nat
  z : Sz
  aa : List Bk
  q : Option Bk
end
section
set_option maxRecDepth 10000
open Sl dc dz gh Bx
theorem Step.box {x : Bz} {aa aT : List Bk} {vs vs' : VL} {R1 : Rb} {n1 code : Nat} {ps : List Pq} {z' : Sz} (st : Step x.z aa vs ps code z' aT vs') (hok : fu ps=true) (hv : Bv (cu vs ps) R1) (hr : R1.ok n1) :
    (code=0∧vs'=cu vs ps∧(Bz.mk x.b z').ok aT vs' R1 n1)∨(code=6∧z'=x.z∧aT=aa∧vs'=vs):=by
  obtain ⟨k',_,st⟩:=st
  rcases st with ⟨h1,h2,h3,h | h⟩ | ⟨_,h1,h2,_⟩
  · rw [hok] at h;exact absurd h.1 (by decide)
  · exact .inr ⟨h.2.1,h1,h2,h3⟩
  · exact .inl ⟨h1,h2,k',h2 ▸ hv,hr⟩
section
variable {n : Nat} {w0 : World} {S : List Nat} {ops : Array Oper} {Q : Exit→Act→World→Prop} {l : List Oper} {E : Env} {M : List aj}
variable {d : Nat} {ty : TypeId} {pos : String} {aft : Array Edge} {x1 x2 x3 : Operand} {ats : Array TypeId} {x : Bz} {aa : List Bk} {vs : VL} {R : Rb} {nd : Nat} {f : Bk} {u : Int}
theorem JL.w6 (k : x.ok aa vs R nd) (hf : f.length<1000000000000000) (e1 : ev E x1=some (Pt x.b 0)) (e2 : ev E x2=some (Z f)) (hd : Nat.blt d n=true)
    (kk : JL Tryz.prog n w0 S ops Q l ((d,N (R.next f))::E) (x.E++M)) : JL Tryz.prog n w0 S ops Q (⟨some d,.call ⟨.value (.func 23),#[x1,x2],ats⟩,ty,pos,aft,none⟩::l) E (x.E++M):=
  JL.bI (ι:=Unit) (xs:=[x1,x2]) (vs:=[Pt x.b 0,Z f]) (fun _=>N (R.next f)) (fun _=>x.E) rO (by simp [gS,e1,e2]) hd x.wr (fun _=>x.wr)
    (fun w _ hw=>(uG x aa vs R nd k f hf w hw).mono fun _ _ h=>⟨(),h⟩) fun _=>kk
theorem JL.w8 (k : x.ok aa vs R nd) (hf : f.length<1000000000000000) (hn : R.ms.length≤1000000) (e1 : ev E x1=some (Pt x.b 0)) (e2 : ev E x2=some (Z f)) (hd : Nat.blt d n=true)
    (kk : ∀ q : {q : Acc // q=none→R.list f=[]},JL Tryz.prog n w0 S ops Q l ((d,av q.1 (R.list f).length)::E) (af 3 q.1 (aA (R.list f))++(x.E++M))) : JL Tryz.prog n w0 S ops Q (⟨some d,.call ⟨.value (.func 22),#[x1,x2],ats⟩,ty,pos,aft,none⟩::l) E (x.E++M):=
  JL.bI (ι:={q : Acc // q=none→R.list f=[]}) (xs:=[x1,x2]) (vs:=[Pt x.b 0,Z f]) (fun q=>av q.1 (R.list f).length) (fun q=>af 3 q.1 (aA (R.list f))++x.E) rP (by simp [gS,e1,e2]) hd x.wr
    (fun q e he=>(List.mem_append.1 he).elim (aM _ _ _ e) (x.wr e)) (fun w _ hw=>uH x aa vs R nd k f hf hn w hw) fun q=>by rw [List.append_assoc];exact kk q
theorem JL.oq (k : x.ok aa vs R nd) (hf : f.length<1000000000000000) (hu0 : -9223372036854775808≤u) (hu1 : u≤9223372036854775807) (hT : dX S w0) (e1 : ev E x1=some (Pt x.b 0)) (e2 : ev E x2=some (Z f)) (e3 : ev E x3=some (fG u)) (hd : Nat.blt d n=true)
    (kk : ∀ r : Nat × Nat,JL Tryz.prog n w0 S ops Q l ((d,AD u (R.find f u) r)::E) (yN (R.find f u) r++(x.E++M))) : JL Tryz.prog n w0 S ops Q (⟨some d,.call ⟨.value (.func 20),#[x1,x2,x3],ats⟩,ty,pos,aft,none⟩::l) E (x.E++M):=
  JL.bI (ι:=Nat × Nat) (xs:=[x1,x2,x3]) (vs:=[Pt x.b 0,Z f,fG u]) (fun r=>AD u (R.find f u) r) (fun r=>yN (R.find f u) r++x.E) qb (by simp [gS,e1,e2,e3]) hd x.wr
    (fun r e he=>(List.mem_append.1 he).elim (yO _ _ e) (x.wr e)) (fun w h0 hw=>rR x aa vs R nd k f u hf hu0 hu1 w hw (hT.keys x.wr h0)) fun r=>by rw [List.append_assoc];exact kk r
end
def cX (f : Bk) (u fl : Int) (b : Bk) : Pq:=⟨aR f u,BitVec.ofInt 8 fl::b,false⟩
structure yP (x : Bz) (aa : List Bk) (vs : VL) (R : Rb) (n : Nat) (f : Bk) (u fl : Int) where
  code : Nat
  z' : Sz
  aT : List Bk
  vs' : VL
  R' : Rb
  ok : (Bz.mk x.b z').ok aT vs' R' n
  p : z'.p=x.z.p
  out : ((fl<0∨15<fl)∧code=1∧z'=x.z∧aT=aa∧vs'=vs∧R'=R)∨
    (¬ (fl<0∨15<fl)∧R.find f u=none∧code=7∧z'=x.z∧aT=aa∧vs'=vs∧R'=R)∨
    (¬ (fl<0∨15<fl)∧∃ m,R.find f u=some m∧Step x.z aa vs [cX f u fl m.b] code z' aT vs'∧((code=0∧R'=R.mark f u fl.toNat)∨(code=6∧z'=x.z∧aT=aa∧vs'=vs∧R'=R)))
theorem rS : dH Tryz.prog 3=some 1:=by kernel_rfl
abbrev Bz.own (x : Bz) : List aj:=[⟨x.b,Row 65 [Pt x.z.p 0],true⟩]
theorem w9 (x : Bz) (A B MF : List aj) : (x.E++(A++(B++[])))++MF=x.z.E++(x.own++(A++(B++MF))):=by
  unfold Bz.E
  simp only [List.append_assoc,List.append_nil]
theorem sV (x : Bz) (z' : Sz) (hp : z'.p=x.z.p) (A B MF : List aj) : (Bz.mk x.b z').E++((A++(B++[]))++MF)=z'.E++(x.own++(A++(B++MF))):=by
  unfold Bz.E Bz.own
  rw [hp]
  simp only [List.append_assoc,List.append_nil]
abbrev Cy (x : Bz) (aa : List Bk) (vs : VL) (ps : List Pq):=(Nat × Nat) × Nat × Option (l8 x.z aa vs ps)
def Ca {x : Bz} {aa : List Bk} {vs : VL} {ps : List Pq} (y : Cy x aa vs ps) : Nat:=match y.2.2 with
  | none=>0
  | some s=>s.code
def Cx {x : Bz} {aa : List Bk} {vs : VL} {ps : List Pq} (y : Cy x aa vs ps) : List aj:=match y.2.2 with
  | none=>[]
  | some s=>(Bz.mk x.b s.z').E
theorem fH {f : Bk} {u : Nat} (hf : okF f=true) (hu : u<10 ^ 10) : 1≤(aR f (u : Int)).length∧(aR f (u : Int)).length≤53:=by
  have:=(n9 hf).2
  rw [fD,List.length_append,cV hu,fE,gy]
  have h : (aU f).length=f.length+3:=by unfold aU;simp
  omega
theorem rT : aI Tryz.prog 14:=⟨_,Tryz.func14,rfl,by kernel_rfl⟩
set_option maxHeartbeats 16000000 in
theorem uI (x : Bz) (aa : List Bk) (vs : VL) (R : Rb) (n : Nat) (k : x.ok aa vs R n) (f : Bk) (u fl : Int) (hf : f.length<1000000000000000) (hu0 : -9223372036854775808≤u) (hu1 : u≤9223372036854775807) (hb : ∀ m ∈ R.ms,m.b.length≤3000000 - 1000) (hz : ∀ m ∈ R.ms,m.b.length≤2000000) (w : World) (h0 : Holds w (keys x.E) x.E w) (hT : dX (keys x.E) w) :
    Calls Tryz.prog 14 [Pt x.b 0,Z f,fG u,fG fl].toArray w fun e w'=>∃ r : yP x aa vs R n f u fl,e=.returned (N r.code)∧Holds w (keys x.E) (Bz.mk x.b r.z').E w':=by
  generalize keys x.E=S at h0 hT ⊢
  refine enter (n:=38) Tryz.func14 rfl rfl rfl h0 ?_
  obtain ⟨g1,hg1⟩ : ∃ g1,decide (fl<0)=g1:=⟨_,rfl⟩
  obtain ⟨g2,hg2⟩ : ∃ g2,decide (15<fl)=g2:=⟨_,rfl⟩
  by_cases hbad : fl<0∨15<fl
  · have fin : JC Tryz.prog 38 w S (bodyPost Tryz.prog Tryz.f14 fun e w'=>∃ r : yP x aa vs R n f u fl,e=.returned (N r.code)∧Holds w S (Bz.mk x.b r.z').E w') .ret [(8,N 1)] x.E:=by
      exact JC.ret (JE.aP rfl (RV.tmp rfl) fun w' hw=>⟨⟨1,x.z,aa,vs,R,k,rfl,.inl ⟨hbad,rfl,rfl,rfl,rfl,rfl⟩⟩,rfl,hw⟩)
    cases g1
    · have h2 : g2=true:=by rw [← hg2];exact decide_eq_true (hbad.resolve_left (of_decide_eq_false hg1))
      subst h2
      repeat (first | refine JL.q (by first|(apply OQ.kU (b:=0);rfl;rfl;exact hg1)|(apply OQ.cz (b:=15);rfl;rfl;exact hg2)|(apply OQ.aW;rfl;rfl)|(apply OQ.move;rfl)|(apply OQ.assign;rfl)) rfl ?_ | refine JC.seq ?_ | refine JC.region ?_ | refine JL.nil ?_ | refine JE.next ?_ | refine JL.aD rfl rfl ?_)
      refine JC.cond_true rfl rfl ?_
      repeat (first | refine JL.q (by (apply OQ.assign;rfl)) rfl ?_ | refine JC.seq ?_ | refine JC.region ?_ | refine JL.nil ?_ | refine JE.next ?_)
      refine JC.ret ?_
      repeat (refine JE.ax ?_)
      exact JE.aP rfl (RV.tmp rfl) fun w' hw=>⟨⟨1,x.z,aa,vs,R,k,rfl,.inl ⟨hbad,rfl,rfl,rfl,rfl,rfl⟩⟩,rfl,hw⟩
    · repeat (first | refine JL.q (by first|(apply OQ.kU (b:=0);rfl;rfl;exact hg1)|(apply OQ.bg;rfl;rfl)|(apply OQ.move;rfl)|(apply OQ.assign;rfl)) rfl ?_ | refine JC.seq ?_ | refine JC.region ?_ | refine JL.nil ?_ | refine JE.next ?_ | refine JL.bO rfl rfl rfl rfl ?_)
      refine JC.cond_true rfl rfl ?_
      repeat (first | refine JL.q (by (apply OQ.assign;rfl)) rfl ?_ | refine JC.seq ?_ | refine JC.region ?_ | refine JL.nil ?_ | refine JE.next ?_)
      refine JC.ret ?_
      repeat (refine JE.ax ?_)
      exact JE.aP rfl (RV.tmp rfl) fun w' hw=>⟨⟨1,x.z,aa,vs,R,k,rfl,.inl ⟨hbad,rfl,rfl,rfl,rfl,rfl⟩⟩,rfl,hw⟩
  have h1 : g1=false:=by rw [← hg1];exact decide_eq_false fun h=>hbad (.inl h)
  have h2 : g2=false:=by rw [← hg2];exact decide_eq_false fun h=>hbad (.inr h)
  subst h1 h2
  repeat (first | refine JL.q (by first|(apply OQ.kU (b:=0);rfl;rfl;exact hg1)|(apply OQ.cz (b:=15);rfl;rfl;exact hg2)|(apply OQ.aW;rfl;rfl)|(apply OQ.move;rfl)|(apply OQ.assign;rfl)) rfl ?_ | refine JC.seq ?_ | refine JC.region ?_ | refine JL.nil ?_ | refine JE.next ?_ | refine JL.aD rfl rfl ?_)
  refine JC.cond_false rfl rfl ?_
  repeat (first | refine JL.q (by (apply OQ.move;rfl)) rfl ?_ | refine JC.seq ?_ | refine JC.region ?_ | refine JC.skip ?_ | refine JE.next ?_)
  refine JL.perm (M':=x.E++[]) ?_ (by rw [List.append_nil])
  refine JL.oq (f:=f) (u:=u) k hf hu0 hu1 hT rfl rfl rfl rfl fun r=>?_
  cases hn : R.find f u with
  | none=>
    show JL Tryz.prog _ _ _ _ _ _ ((21,.tuple #[.agg (eW 0 0 bB).toArray,N 7])::_) (x.E++[])
    repeat (refine JL.q (by first|(apply OQ.extract;rfl;rfl)|(apply OQ.move;rfl)) rfl ?_)
    refine JL.alloc AA rfl fun b9 _=>?_
    refine JL.ai (cs:=eW 0 0 bB) sS rfl rfl rfl rfl .here rfl ?_
    repeat (first | refine JL.q (by first|(apply OQ.jw (a:=7) (b:=0) (c:=false);rfl;rfl;rfl)|(apply OQ.move;rfl)|(apply OQ.assign;rfl)) rfl ?_ | refine JC.seq ?_ | refine JC.region ?_ | refine JL.nil ?_ | refine JE.next ?_)
    refine JC.cond_true rfl rfl ?_
    repeat (first | refine JL.q (by first|(apply OQ.move;rfl)|(apply OQ.assign;rfl)) rfl ?_ | refine JC.seq ?_ | refine JC.region ?_ | refine JL.nil ?_ | refine JE.next ?_)
    refine JC.ret ?_
    repeat (refine JE.ax ?_)
    refine JE.aP rfl (RV.tmp rfl) fun w' hw=>⟨⟨7,x.z,aa,vs,R,k,rfl,.inr (.inl ⟨hbad,hn,rfl,rfl,rfl,rfl,rfl⟩)⟩,rfl,hw.weak (.drop _ _ _ ?_)⟩
    rw [List.append_nil]
    exact ak.refl _
  | some m=>
    obtain ⟨hmm,hmf,hmu⟩:=bZ hn
    obtain ⟨s,hs⟩ : ∃ s,mj r m.b=s:=⟨_,rfl⟩
    have hsl : s.l=m.b:=by rw [← hs];rfl
    show JL Tryz.prog _ _ _ _ _ _ ((21,.tuple #[.agg (eW u m.fl (mj r m.b)).toArray,N 0])::_) (af 5 (some r) (m.v.map U8)++(x.E++[]))
    rw [hs,List.append_nil]
    repeat (refine JL.q (by first|(apply OQ.extract;rfl;rfl)|(apply OQ.move;rfl)) rfl ?_)
    refine JL.alloc AA rfl fun b9 _=>?_
    refine JL.ai (cs:=eW u m.fl s) sS rfl rfl rfl rfl .here rfl ?_
    repeat (first | refine JL.q (by first|(apply OQ.jw (a:=0) (b:=0) (c:=true);rfl;rfl;rfl)|(apply OQ.move;rfl)|(apply OQ.assign;rfl)) rfl ?_ | refine JC.seq ?_ | refine JC.region ?_ | refine JL.nil ?_ | refine JE.next ?_)
    refine JC.cond_false rfl rfl ?_
    repeat (first | refine JL.q (by first|(apply OQ.move;rfl)|(apply OQ.bA;rfl;rfl;rfl;exact (by decide);rfl)) rfl ?_ | refine JC.seq ?_ | refine JC.region ?_ | refine JC.skip ?_ | refine JE.next ?_)
    refine JL.cY (r:=eW u m.fl s) (r':=eW u fl s) (M':=⟨b9,Row 46 (eW u fl s),true⟩::(af 5 (some r) (m.v.map U8)++x.E)) rS rfl rfl rfl rfl .here (by show 1<3;decide) rfl ?_
    repeat (first | refine JC.seq ?_ | refine JL.nil ?_ | refine JE.next ?_)
    have hsok : ∀ {w' : World} {M' : List aj},Holds w S ((af 5 (some r) (m.v.map U8)++[])++M') w'→s.ok w':=fun {w' M'} hw'=>by
      rw [← hs]
      rw [List.append_nil] at hw'
      exact rQ (c:=BitVec.ofNat 8 m.fl) hw'
    have hsl2 : s.l.length≤3000000:=by rw [hsl];have:=hz m hmm;omega
    have hszP : ∀ q,gL (dU.mk (some ⟨0,0,none⟩) 1 [jl f u fl s.l q]).ps≤2500000:=fun q=>by
      show gL [cX f u fl s.l]≤2500000
      have h1:=(fH (k.r.fold m hmm) (k.r.ki hmm)).2
      rw [hmf,hmu] at h1
      have h2:=hz m hmm
      unfold gL rD cX
      simp only [List.map_cons,List.map_nil,List.sum_cons,List.sum_nil,List.length_cons,hsl]
      omega
    have hcom : ∀ (q : Nat × Nat) (bl : Nat) (w' : World) {MF : List aj},Holds w S (x.z.E++(x.own++((⟨bl,Row 67 (jl f u fl s.l q).cs,true⟩::af 5 (some q) ((BitVec.ofInt 8 fl::s.l).map U8))++MF))) w'→(dU.mk (some ⟨bl,0,none⟩) 1 [jl f u fl s.l q]).ok w'∧iZ (dU.mk (some ⟨bl,0,none⟩) 1 [jl f u fl s.l q]) (keys x.z.E):=fun q bl w' {MF} hw'=>by
      refine ⟨sR (l:=[_]) hw' (aZ (N:=x.z.E) (.there .here)) ?_,?_⟩
      · intro p hp
        rw [List.mem_singleton] at hp
        subst hp
        have h:=hw'.weak (M':=af 5 (some q) ((BitVec.ofInt 8 fl::s.l).map U8)++[]) (by rw [List.append_nil];exact ay _ (.drop _ _ _ (.drop _ _ _ (an _ _))))
        exact fV (q:=some q) h
      · refine ⟨fun _ a ea=>?_,fun p hp=>?_⟩
        · cases ea
          exact ct (b:=bl) hw' (.there .here)
        · rw [List.mem_singleton] at hp
          subst hp
          intro _ a ea
          cases ea
          exact ct (b:=q.1) hw' (.there (.there .here))
    let vs2 : Nat→Cy x aa vs [cX f u fl s.l]→Value:=fun j y=>match j with
      | 0=>Pt x.b 0
      | 1=>Pt x.b 0
      | 2=>Pt x.b 0
      | 3=>Pt x.z.p 0
      | 4=>Z f
      | 5=>.agg (eW u fl s).toArray
      | 6=>.agg (jl f u fl s.l y.1).cs.toArray
      | 7=>.slice (some ⟨y.2.1,0,none⟩) 1 1
      | 8=>N (Ca y)
      | 9=>N (Ca y)
      | _=>N 0
    let Ms : Nat→Cy x aa vs [cX f u fl s.l]→List aj:=fun j y=>match j with
      | 6=>af 5 (some y.1) ((BitVec.ofInt 8 fl::s.l).map U8)
      | 7=>⟨y.2.1,Row 67 (jl f u fl s.l y.1).cs,true⟩::af 5 (some y.1) ((BitVec.ofInt 8 fl::s.l).map U8)
      | 8=>Cx y
      | 10=>[⟨b9,Row 46 (eW u fl s),true⟩]
      | 11=>af 5 (some r) (m.v.map U8)
      | 12=>x.E
      | _=>[]
    refine JC.zb (g:=⟨[(0,Pt x.b 0),(1,Z f),(9,Pt b9 0)],13,vs2,Ms,(fun j=>match j with | 1=>[(0,29)] | 2=>[(1,30)] | 3=>[(2,31)] | 6=>[(4,33),(5,34)] | 7=>[(6,35)] | 8=>[(3,32),(7,36)] | 9=>[(8,37)] | _=>[]),(fun j=>match j with | 3=>[12] | 5=>[10] | 6=>[11] | 7=>[6] | 8=>[12,7] | _=>[]),(fun j=>match j with | 7=>[6] | 8=>[12] | _=>[]),(fun j=>match j with | 8=>some 7 | 9=>some 8 | _=>none),fun _=>[],fun j a b=>match j with | 8=>a.2.2.isSome=true | 9=>a=b | _=>True⟩) [(9,8)] [8] cC (by repeat (first | exact ah.nil | refine ah.cons _ _ _ rfl ?_)) (fun _ _=>.nil) ?_ (by kernel_rfl) (by kernel_rfl) (by kernel_rfl) ?_ ?_
    · show ak ([_]++(_++(x.E++[]))) _;rw [List.append_nil];exact ak.refl _
    · refine ⟨?_,?_,?_,?_,?_,?_,?_,?_,?_,?_,trivial⟩
      · (intro xx EF MF Q kk;(try refine JL.aD rfl rfl ?_);exact JL.q (OQ.move rfl) rfl (JL.nil (kk default nofun)))
      · (intro xx EF MF Q kk;(try refine JL.aD rfl rfl ?_);exact JL.q (OQ.bx rfl) rfl (JL.nil (kk default nofun)))
      · (intro xx EF MF Q kk;(try refine JL.aD rfl rfl ?_);exact JL.q (OQ.bA rfl rfl rfl (by decide) rfl) rfl (JL.nil (kk default nofun)))
      · (intro xx EF MF Q kk;(try refine JL.aD rfl rfl ?_);exact JL.q (OQ.load (v:=Pt x.z.p 0) AO rfl (w4 x) (Row.cell rfl)) rfl (JL.nil (kk default nofun)))
      · (intro xx EF MF Q kk;(try refine JL.aD rfl rfl ?_);exact JL.q (OQ.move rfl) rfl (JL.nil (kk default nofun)))
      · (intro xx EF MF Q kk;(try refine JL.aD rfl rfl ?_);exact JL.q (OQ.aq (cs:=eW u fl s) wY sS rfl .here rfl Row.all) rfl (JL.nil (kk default nofun)))
      · (intro xx EF MF Q kk;exact JL.bq (ι:=Nat × Nat) (vs:=[Z f,.agg (eW u fl s).toArray]) (fun q=>.agg (jl f u fl s.l q).cs.toArray) (fun q=>af 5 (some q) ((BitVec.ofInt 8 fl::s.l).map U8)) mg rfl rfl (fun q e he=>aM _ _ _ e he) (fun w' hw'=>nI f u fl s hf hu0 hu1 hsl2 w' (hsok hw') (hT.holds hw')) fun q=>JL.nil (kk (q,0,none) nofun))
      · (intro xx EF MF Q kk;exact JL.s8 (cs:=(jl f u fl s.l (xx 6).1).cs) Tryz.underlying70 zm rfl (by decide) (by decide) rfl rfl rfl fun b _=>JL.nil (kk ((xx 6).1,b,none) nofun))
      · (intro xx EF MF Q kk;refine JL.perm (M':=x.z.E++(x.own++((⟨(xx 7).2.1,Row 67 (jl f u fl s.l (xx 7).1).cs,true⟩::af 5 (some (xx 7).1) ((BitVec.ofInt 8 fl::s.l).map U8))++([]++MF)))) ?_ (List.Perm.of_eq (w9 x _ [] MF));refine JL.Ay (s:=⟨some ⟨(xx 7).2.1,0,none⟩,1,[jl f u fl s.l (xx 7).1]⟩) k.z (hszP _) (fun w' hw'=>hcom (xx 7).1 (xx 7).2.1 w' hw') rfl rfl rfl fun st=>?_;refine JL.perm (M':=(Bz.mk x.b st.z').E++(((⟨(xx 7).2.1,Row 67 (jl f u fl s.l (xx 7).1).cs,true⟩::af 5 (some (xx 7).1) ((BitVec.ofInt 8 fl::s.l).map U8))++([]++[]))++MF)) ?_ (List.Perm.of_eq (sV x st.z' st.st.2.1 _ [] MF).symm);exact JL.nil (kk ((xx 7).1,(xx 7).2.1,some st) (fun k h=>by cases h;rfl)))
      · (intro xx EF MF Q kk;(try refine JL.aD rfl rfl ?_);exact JL.q (OQ.assign rfl) rfl (JL.nil (kk (xx 8) (fun k h=>by cases h;rfl))))
    · intro xx hx
      have e1 : xx 9=xx 8:=hx 9 8 (by decide) rfl
      have e2 : (xx 8).2.2.isSome=true:=hx 8 7 (by decide) rfl
      show JE _ _ _ _ _ [(8,N (Ca (xx 9))),(0,Pt x.b 0),(1,Z f),(9,Pt b9 0)] (Cx (xx 8)++[])
      rw [e1,List.append_nil]
      generalize xx 8=y at e2 ⊢
      clear hx e1 xx vs2 Ms
      obtain ⟨q,bl,o⟩:=y
      cases o with
      | none=>cases e2
      | some st=>
      refine JE.next ?_
      obtain ⟨code,z2,recs2,vs2,sst⟩:=st
      have hfl : fl.toNat<16:=by omega
      have hbv : Bv (cu vs [cX f u fl s.l]) (R.mark f u fl.toNat):=by
        have e : BitVec.ofInt 8 fl=BitVec.ofNat 8 fl.toNat:=by
          obtain ⟨t,rfl⟩ : ∃ t : Nat,fl=(t : Int):=⟨fl.toNat,by omega⟩
          rfl
        have:=yB (fl:=fl.toNat) k.r k.v hn
        unfold cX
        rw [e,hsl]
        exact this
      have hokp : fu [cX f u fl s.l]=true:=by
        have h1:=fH (k.r.fold m hmm) (k.r.ki hmm)
        rw [hmf,hmu] at h1
        unfold fu jk cX
        simp only [List.all_cons,List.all_nil,Bool.and_true,Bool.false_and,Bool.not_false,Bool.and_eq_true,decide_eq_true_eq]
        omega
      have hbx:=Step.box (x:=x) sst hokp hbv (yA k.r f u hfl)
      have hsm : [cX f u fl s.l]=[cX f u fl m.b]:=by rw [hsl]
      rw [hsm] at sst
      refine JC.ret ?_
      skip
      rcases hbx with ⟨h1,h2,h3⟩ | ⟨h1,h2,h3,h4⟩
      · exact JE.aP rfl (RV.tmp rfl) fun w' hw=>⟨⟨code,z2,recs2,vs2,R.mark f u fl.toNat,h3,sst.2.1,.inr (.inr ⟨hbad,m,hn,sst,.inl ⟨h1,rfl⟩⟩)⟩,rfl,hw⟩
      · exact JE.aP rfl (RV.tmp rfl) fun w' hw=>⟨⟨code,z2,recs2,vs2,R,by rw [h2,h3,h4];exact k,sst.2.1,.inr (.inr ⟨hbad,m,hn,sst,.inr ⟨h1,h2,h3,h4,rfl⟩⟩)⟩,rfl,hw⟩
end
section
set_option maxRecDepth 10000
open Sl dc dz gh Bx
theorem xb (A B M : List aj) : ak A ((A++B)++M):=by
  rw [List.append_assoc]
  exact an _ _
theorem xd (A B M : List aj) : ak B ((A++B)++M):=by
  rw [List.append_assoc]
  exact ay _ (an _ _)
def eX (R : Rb) (f b : Bk) : List Pq:=[⟨aR f (R.next f : Int),0#8::b,false⟩,⟨cI f,nV (R.next f+1),false⟩]
structure yQ (x : Bz) (aa : List Bk) (vs : VL) (R : Rb) (n : Nat) (f b : Bk) where
  code : Nat
  uid : Nat
  z' : Sz
  aT : List Bk
  vs' : VL
  R' : Rb
  n' : Nat
  ok : (Bz.mk x.b z').ok aT vs' R' n'
  p : z'.p=x.z.p
  out : (okF f=false∧code=1∧uid=0∧z'=x.z∧aT=aa∧vs'=vs∧R'=R∧n'=n)∨
    (okF f=true∧Step x.z aa vs (eX R f b) code z' aT vs'∧((code=0∧uid=R.next f∧R'=R.aO f b∧n'=n+1)∨(code=6∧uid=0∧z'=x.z∧aT=aa∧vs'=vs∧R'=R∧n'=n)))
abbrev Dy (x : Bz) (aa : List Bk) (vs : VL) (ps : List Pq):=(Nat × Nat) × (Nat × Nat) × Nat × Option (l8 x.z aa vs ps)
def Cb {x : Bz} {aa : List Bk} {vs : VL} {ps : List Pq} (y : Dy x aa vs ps) : Nat:=match y.2.2.2 with
  | none=>0
  | some s=>s.code
def Cz {x : Bz} {aa : List Bk} {vs : VL} {ps : List Pq} (y : Dy x aa vs ps) : List aj:=match y.2.2.2 with
  | none=>[]
  | some s=>(Bz.mk x.b s.z').E
theorem OQ.xe {n : Nat} {E : Env} {C : World→Prop} {dst : Option Tmp} {ty : TypeId} {pos : String} {aft : Array Edge} {g : Option (Nat × Bool)} {x z : Operand} {u : Int} {s : az} (hx : ev E x=some (fG u)) (hz : ev E z=some s.v) : OQ Tryz.prog n E C ⟨dst,.build 46 #[(0,x),(2,z)],ty,pos,aft,g⟩ (.agg (eW u 0 s).toArray):=
  OQ.run fun a ha w _=>by
    have h1:=ha.eval hx
    have h3:=ha.eval hz
    have r:=run_build (P:=Tryz.prog) w 46 #[(0,fG u),(2,s.v)] (eW u 0 s).toArray (by kernel_rfl)
    simp [execOp,h1,h3,r]
def xg (f : Bk) (n : Nat) (r : Nat × Nat) : aE:=⟨cI f,⟨some ⟨r.1,0,none⟩,r.2,nV n⟩,false⟩
theorem mD : aI Tryz.prog 12:=⟨_,Tryz.func12,rfl,by kernel_rfl⟩
set_option maxHeartbeats 16000000 in
theorem ot (x : Bz) (aa : List Bk) (vs : VL) (R : Rb) (n : Nat) (k : x.ok aa vs R n) (hnn : n+1≤1000000) (f : Bk) (s : az) (hf : f.length<1000000000000000) (hl : s.l.length≤2000000) (w : World) (h0 : Holds w (keys x.E) x.E w) (hT : dX (keys x.E) w) (hs : s.ok w) (ha : ia s (keys x.E)) :
    Calls Tryz.prog 12 [Pt x.b 0,Z f,s.v].toArray w fun e w'=>∃ r : yQ x aa vs R n f s.l,e=.returned (.tuple #[N r.uid,N r.code])∧Holds w (keys x.E) (Bz.mk x.b r.z').E w':=by
  generalize keys x.E=S at h0 hT ha ⊢
  refine enter (n:=42) Tryz.func12 rfl rfl rfl h0 ?_
  have hFo:=fun (w' : World)=>rL f w' (by omega)
  cases hok : okF f
  · rw [hok] at hFo
    repeat (first | refine JL.q (by first|(apply OQ.aB (vs:=[Z f]) (v:=.bool false);exact j4;rfl;exact (fun w' _=>hFo w'))|(apply OQ.not;rfl)|(apply OQ.move;rfl)|(apply OQ.assign;rfl)) rfl ?_ | refine JC.seq ?_ | refine JC.region ?_ | refine JL.nil ?_ | refine JE.next ?_)
    refine JC.cond_true rfl rfl ?_
    repeat (first | refine JL.q (by (apply OQ.assign;rfl)) rfl ?_ | refine JC.seq ?_ | refine JC.region ?_ | refine JL.nil ?_ | refine JE.next ?_)
    refine JC.ret ?_
    repeat (refine JE.ax ?_)
    exact JE.cg rfl (RV.tmp rfl) (RV.tmp rfl) fun w' hw=>⟨⟨1,0,x.z,aa,vs,R,n,k,rfl,.inl ⟨hok,rfl,rfl,rfl,rfl,rfl,rfl,rfl⟩⟩,rfl,hw⟩
  rw [hok] at hFo
  repeat (first | refine JL.q (by first|(apply OQ.aB (vs:=[Z f]) (v:=.bool true);exact j4;rfl;exact (fun w' _=>hFo w'))|(apply OQ.not;rfl)|(apply OQ.move;rfl)|(apply OQ.assign;rfl)) rfl ?_ | refine JC.seq ?_ | refine JC.region ?_ | refine JL.nil ?_ | refine JE.next ?_)
  refine JC.cond_false rfl rfl ?_
  repeat (first | refine JL.q (by (apply OQ.move;rfl)) rfl ?_ | refine JC.seq ?_ | refine JC.region ?_ | refine JC.skip ?_ | refine JE.next ?_)
  refine JL.perm (M':=x.E++[]) ?_ (by rw [List.append_nil])
  refine JL.w6 (f:=f) k hf rfl rfl rfl ?_
  rw [List.append_nil]
  have hnx:=R.gK k.r f
  have hdo:=ru k.r hnn hok s.l
  have hdb:=ry k.r k.v f s.l
  have hfl:=n9 hok
  have hkl:=(fH hok (u:=R.next f) (by have:=k.r.le;omega))
  have hpd : [⟨aR f (R.next f : Int),0#8::s.l,false⟩,⟨cI f,nV (R.next f+1),false⟩]=eX R f s.l:=rfl
  have hmk : ∀ {c : Nat} {z' aT vs'},Step x.z aa vs (eX R f s.l) c z' aT vs'→c=0→vs'=cu vs (eX R f s.l)→(Bz.mk x.b z').ok aT vs' (R.aO f s.l) (n+1)→yQ x aa vs R n f s.l:=fun {c z' aT vs'} st h1 _ h3=>⟨c,R.next f,z',aT,vs',R.aO f s.l,n+1,h3,st.2.1,.inr ⟨hok,st,.inl ⟨h1,rfl,rfl,rfl⟩⟩⟩
  rw [hpd] at hdb
  have hdP : eX R f s.l=[⟨aR f (R.next f : Int),0#8::s.l,false⟩,⟨cI f,nV (R.next f+1),false⟩]:=rfl
  obtain ⟨nx,hnxe⟩ : ∃ nx,R.next f=nx:=⟨_,rfl⟩
  rw [hnxe] at hnx hkl hdP ⊢
  have hle:=k.r.le
  have g1 : decide ((2097152 : Int)<(s.l.length : Int))=false:=decide_eq_false (by omega)
  have g2 : decide ((4294967295 : Int)<(nx : Int))=false:=decide_eq_false (by omega)
  repeat (first | refine JL.q (by first|(apply OQ.len (k:=s.l.length) (ad:=s.ad) (cap:=s.cap);exact Tryz.underlying24;rfl)|(apply OQ.cz (b:=2097152);rfl;rfl;exact g1)|(apply OQ.cz (b:=4294967295);rfl;rfl;exact g2)|(apply OQ.aW;rfl;rfl)|(apply OQ.move;rfl)|(apply OQ.assign;rfl)) rfl ?_ | refine JC.seq ?_ | refine JC.region ?_ | refine JL.nil ?_ | refine JE.next ?_ | refine JL.aD rfl rfl ?_)
  refine JC.cond_false rfl rfl ?_
  repeat (first | refine JC.seq ?_ | refine JC.skip ?_ | refine JE.next ?_)
  have hszP : ∀ q t,gL (dU.mk (some ⟨0,0,none⟩) 2 [jl f nx 0 s.l q,xg f (nx+1) t]).ps≤2500000:=fun q t=>by
    show gL [⟨aR f (nx : Int),0#8::s.l,false⟩,⟨cI f,nV (nx+1),false⟩]≤2500000
    have h3 : (nV (nx+1)).length=8:=dB _ _
    have h4 : (cI f).length=f.length+2:=by unfold cI;simp
    unfold gL rD
    simp only [List.map_cons,List.map_nil,List.sum_cons,List.sum_nil,List.length_cons,h3,h4]
    omega
  have hcom : ∀ (q t : Nat × Nat) (bl : Nat) (w' : World) {MF : List aj},Holds w S (x.z.E++(x.own++((⟨bl,Row 67 ((jl f nx 0 s.l q).cs++(xg f (nx+1) t).cs),true⟩::(af 5 (some q) ((BitVec.ofInt 8 0::s.l).map U8)++af 5 (some t) ((nV (nx+1)).map U8)))++MF))) w'→(dU.mk (some ⟨bl,0,none⟩) 2 [jl f nx 0 s.l q,xg f (nx+1) t]).ok w'∧iZ (dU.mk (some ⟨bl,0,none⟩) 2 [jl f nx 0 s.l q,xg f (nx+1) t]) (keys x.z.E):=fun q t bl w' {MF} hw'=>by
    refine ⟨sR (l:=[_,_]) hw' (aZ (N:=x.z.E) (.there .here)) ?_,?_⟩
    · intro p hp
      simp only [List.mem_cons,List.not_mem_nil,or_false] at hp
      rcases hp with rfl | rfl
      · have h:=hw'.weak (M':=af 5 (some q) ((BitVec.ofInt 8 0::s.l).map U8)++[]) (by rw [List.append_nil];exact ay _ (.drop _ _ _ (.drop _ _ _ (xb _ _ _))))
        exact fV (q:=some q) h
      · have h:=hw'.weak (M':=af 5 (some t) ((nV (nx+1)).map U8)++[]) (by rw [List.append_nil];exact ay _ (.drop _ _ _ (.drop _ _ _ (xd _ _ _))))
        exact fV (q:=some t) h
    · refine ⟨fun _ a ea=>?_,fun p hp=>?_⟩
      · cases ea
        exact ct (b:=bl) hw' (.there .here)
      · simp only [List.mem_cons,List.not_mem_nil,or_false] at hp
        rcases hp with rfl | rfl
        · intro _ a ea
          cases ea
          exact ct (b:=q.1) hw' (.there (.there .here))
        · intro _ a ea
          cases ea
          exact ct (b:=t.1) hw' (.there (.there (.there .here)))
  let vs2 : Nat→Dy x aa vs [⟨aR f (nx : Int),0#8::s.l,false⟩,⟨cI f,nV (nx+1),false⟩]→Value:=fun j y=>match j with
    | 0=>Pt x.b 0
    | 1=>Pt x.b 0
    | 2=>Pt x.b 0
    | 3=>Pt x.z.p 0
    | 4=>Z f
    | 5=>N nx
    | 6=>s.v
    | 7=>.agg (eW nx 0 s).toArray
    | 8=>.agg (jl f nx 0 s.l y.1).cs.toArray
    | 9=>Z f
    | 10=>N nx
    | 11=>N (nx+1)
    | 12=>.agg (xg f (nx+1) y.2.1).cs.toArray
    | 13=>.slice (some ⟨y.2.2.1,0,none⟩) 2 2
    | 14=>N (Cb y)
    | 15=>N (Cb y)
    | _=>N 0
  let Ms : Nat→Dy x aa vs [⟨aR f (nx : Int),0#8::s.l,false⟩,⟨cI f,nV (nx+1),false⟩]→List aj:=fun j y=>match j with
    | 8=>af 5 (some y.1) ((BitVec.ofInt 8 0::s.l).map U8)
    | 12=>af 5 (some y.2.1) ((nV (nx+1)).map U8)
    | 13=>⟨y.2.2.1,Row 67 ((jl f nx 0 s.l y.1).cs++(xg f (nx+1) y.2.1).cs),true⟩::(af 5 (some y.1) ((BitVec.ofInt 8 0::s.l).map U8)++af 5 (some y.2.1) ((nV (nx+1)).map U8))
    | 14=>Cz y
    | 16=>x.E
    | _=>[]
  refine JC.zb (g:=⟨[(0,Pt x.b 0),(1,Z f),(2,s.v),(8,N nx)],17,vs2,Ms,(fun j=>match j with | 1=>[(0,23)] | 2=>[(1,24)] | 3=>[(2,25)] | 7=>[(5,28),(6,29)] | 8=>[(4,27),(7,30)] | 11=>[(10,33)] | 12=>[(9,32),(11,34)] | 13=>[(8,31),(12,35)] | 14=>[(3,26),(13,36)] | 15=>[(14,37)] | _=>[]),(fun j=>match j with | 3=>[16] | 13=>[8,12] | 14=>[16,13] | _=>[]),(fun j=>match j with | 13=>[8,12] | 14=>[16] | _=>[]),(fun j=>match j with | 14=>some 13 | 15=>some 14 | _=>none),fun _=>[],fun j a b=>match j with | 14=>a.2.2.2.isSome=true | 15=>a=b | _=>True⟩) [(15,9)] [14] cC (by repeat (first | exact ah.nil | refine ah.cons _ _ _ rfl ?_)) (fun _ _=>.nil) ?_ (by kernel_rfl) (by kernel_rfl) (by kernel_rfl) ?_ ?_
  · show ak (x.E++[]) _;rw [List.append_nil];exact ak.refl _
  · refine ⟨?_,?_,?_,?_,?_,?_,?_,?_,?_,?_,?_,?_,?_,?_,?_,?_,trivial⟩
    · (intro xx EF MF Q kk;(try refine JL.aD rfl rfl ?_);exact JL.q (OQ.move rfl) rfl (JL.nil (kk default nofun)))
    · (intro xx EF MF Q kk;(try refine JL.aD rfl rfl ?_);exact JL.q (OQ.bx rfl) rfl (JL.nil (kk default nofun)))
    · (intro xx EF MF Q kk;(try refine JL.aD rfl rfl ?_);exact JL.q (OQ.bA rfl rfl rfl (by decide) rfl) rfl (JL.nil (kk default nofun)))
    · (intro xx EF MF Q kk;(try refine JL.aD rfl rfl ?_);exact JL.q (OQ.load (v:=Pt x.z.p 0) AO rfl (w4 x) (Row.cell rfl)) rfl (JL.nil (kk default nofun)))
    · (intro xx EF MF Q kk;(try refine JL.aD rfl rfl ?_);exact JL.q (OQ.move rfl) rfl (JL.nil (kk default nofun)))
    · (intro xx EF MF Q kk;(try refine JL.aD rfl rfl ?_);exact JL.q (OQ.move rfl) rfl (JL.nil (kk default nofun)))
    · (intro xx EF MF Q kk;(try refine JL.aD rfl rfl ?_);exact JL.q (OQ.move rfl) rfl (JL.nil (kk default nofun)))
    · (intro xx EF MF Q kk;(try refine JL.aD rfl rfl ?_);exact JL.q (OQ.xe (u:=nx) (s:=s) rfl rfl) rfl (JL.nil (kk default nofun)))
    · (intro xx EF MF Q kk;exact JL.bq (ι:=Nat × Nat) (vs:=[Z f,.agg (eW nx 0 s).toArray]) (fun q=>.agg (jl f nx 0 s.l q).cs.toArray) (fun q=>af 5 (some q) ((BitVec.ofInt 8 0::s.l).map U8)) mg rfl rfl (fun q e he=>aM _ _ _ e he) (fun w' hw'=>nI f nx 0 s hf (by omega) (by omega) (by omega) w' (hs.iP hw' ha) (hT.holds hw')) fun q=>JL.nil (kk (q,(0,0),0,none) nofun))
    · (intro xx EF MF Q kk;(try refine JL.aD rfl rfl ?_);exact JL.q (OQ.move rfl) rfl (JL.nil (kk default nofun)))
    · (intro xx EF MF Q kk;(try refine JL.aD rfl rfl ?_);exact JL.q (OQ.move rfl) rfl (JL.nil (kk default nofun)))
    · (intro xx EF MF Q kk;(try refine JL.aD rfl rfl ?_);exact JL.q (OQ.addN (a:=nx) (b:=1) rfl rfl (by omega)) rfl (JL.nil (kk default nofun)))
    · (intro xx EF MF Q kk;exact JL.bq (ι:=Nat × Nat) (vs:=[Z f,N (nx+1)]) (fun q=>.agg (xg f (nx+1) q).cs.toArray) (fun q=>af 5 (some q) ((nV (nx+1)).map U8)) rM rfl rfl (fun q e he=>aM _ _ _ e he) (fun w' hw'=>uF f (nx+1) hf w') fun q=>JL.nil (kk ((0,0),q,0,none) nofun))
    · (intro xx EF MF Q kk;exact JL.BA (cs:=(jl f nx 0 s.l (xx 8).1).cs) (ds:=(xg f (nx+1) (xx 12).2.1).cs) Tryz.underlying70 zm rfl (by decide) (by decide) rfl rfl rfl rfl rfl fun b _=>JL.nil (kk ((xx 8).1,(xx 12).2.1,b,none) nofun))
    · (intro xx EF MF Q kk;refine JL.perm (M':=x.z.E++(x.own++((⟨(xx 13).2.2.1,Row 67 ((jl f nx 0 s.l (xx 13).1).cs++(xg f (nx+1) (xx 13).2.1).cs),true⟩::(af 5 (some (xx 13).1) ((BitVec.ofInt 8 0::s.l).map U8)++af 5 (some (xx 13).2.1) ((nV (nx+1)).map U8)))++([]++MF)))) ?_ (List.Perm.of_eq (w9 x _ [] MF));refine JL.Ay (s:=dU.mk (some ⟨(xx 13).2.2.1,0,none⟩) 2 [jl f nx 0 s.l (xx 13).1,xg f (nx+1) (xx 13).2.1]) k.z (hszP _ _) (fun w' hw'=>hcom (xx 13).1 (xx 13).2.1 (xx 13).2.2.1 w' hw') rfl rfl rfl fun st=>?_;refine JL.perm (M':=(Bz.mk x.b st.z').E++(((⟨(xx 13).2.2.1,Row 67 ((jl f nx 0 s.l (xx 13).1).cs++(xg f (nx+1) (xx 13).2.1).cs),true⟩::(af 5 (some (xx 13).1) ((BitVec.ofInt 8 0::s.l).map U8)++af 5 (some (xx 13).2.1) ((nV (nx+1)).map U8)))++([]++[]))++MF)) ?_ (List.Perm.of_eq (sV x st.z' st.st.2.1 _ [] MF).symm);exact JL.nil (kk ((xx 13).1,(xx 13).2.1,(xx 13).2.2.1,some st) (fun k h=>by cases h;rfl)))
    · (intro xx EF MF Q kk;(try refine JL.aD rfl rfl ?_);exact JL.q (OQ.assign rfl) rfl (JL.nil (kk (xx 14) (fun k h=>by cases h;rfl))))
  · intro xx hx
    have e1 : xx 15=xx 14:=hx 15 14 (by decide) rfl
    have e2 : (xx 14).2.2.2.isSome=true:=hx 14 13 (by decide) rfl
    show JE _ _ _ _ _ [(9,N (Cb (xx 15))),(0,Pt x.b 0),(1,Z f),(2,s.v),(8,N nx)] (Cz (xx 14)++[])
    rw [e1,List.append_nil]
    generalize xx 14=y at e2 ⊢
    clear hx e1 xx vs2 Ms
    obtain ⟨q,t,bl,o⟩:=y
    cases o with
    | none=>cases e2
    | some st=>
    refine JE.next ?_
    obtain ⟨code,z2,recs2,vs2,sst⟩:=st
    have sst : Step x.z aa vs (eX R f s.l) code z2 recs2 vs2:=by rw [hdP];exact sst
    have hokp : fu (eX R f s.l)=true:=by
      have h4 : (cI f).length=f.length+2:=by unfold cI;simp
      rw [hdP]
      unfold fu jk
      simp only [List.all_cons,List.all_nil,Bool.and_true,Bool.false_and,Bool.not_false,Bool.and_eq_true,decide_eq_true_eq,h4]
      omega
    have hbx:=Step.box (x:=x) sst hokp hdb hdo
    show JC _ _ _ _ _ _ [(9,N code),(0,Pt x.b 0),(1,Z f),(2,s.v),(8,N nx)] (Bz.mk x.b z2).E
    rcases hbx with ⟨h1,h2,h3⟩ | ⟨h1,h2,h3,h4⟩
    · subst h1
      repeat (first | refine JL.q (by first|(apply OQ.jw (a:=0) (b:=0) (c:=true);rfl;rfl;rfl)|(apply OQ.move;rfl)) rfl ?_ | refine JC.seq ?_ | refine JC.region ?_ | refine JL.nil ?_ | refine JE.next ?_)
      refine JC.cond_false rfl rfl ?_
      repeat (first | refine JL.q (by first|(apply OQ.move;rfl)|(apply OQ.assign;rfl)) rfl ?_ | refine JC.seq ?_ | refine JC.region ?_ | refine JC.skip ?_ | refine JL.nil ?_ | refine JE.next ?_)
      exact JC.ret (JE.cg rfl (RV.tmp rfl) (RV.tmp rfl) fun w' hw=>⟨⟨0,nx,z2,recs2,vs2,R.aO f s.l,n+1,h3,sst.2.1,.inr ⟨hok,sst,.inl ⟨rfl,hnxe.symm,rfl,rfl⟩⟩⟩,rfl,hw⟩)
    · subst h1
      repeat (first | refine JL.q (by first|(apply OQ.jw (a:=6) (b:=0) (c:=false);rfl;rfl;rfl)|(apply OQ.move;rfl)) rfl ?_ | refine JC.seq ?_ | refine JC.region ?_ | refine JL.nil ?_ | refine JE.next ?_)
      refine JC.cond_true rfl rfl ?_
      repeat (first | refine JL.q (by first|(apply OQ.move;rfl)|(apply OQ.assign;rfl)) rfl ?_ | refine JC.seq ?_ | refine JC.region ?_ | refine JL.nil ?_ | refine JE.next ?_)
      refine JC.ret ?_
      repeat (refine JE.ax ?_)
      exact JE.cg rfl (RV.tmp rfl) (RV.tmp rfl) fun w' hw=>⟨⟨6,0,z2,recs2,vs2,R,n,by rw [h2,h3,h4];exact k,sst.2.1,.inr ⟨hok,sst,.inr ⟨rfl,rfl,h2,h3,h4,rfl,rfl⟩⟩⟩,rfl,hw⟩
end
end Go.Proofs.YtdinfhchkcmncaaGreatDoor
