/- Parts. -/
import Derived.Test.YtofdnmlpfagibaaDoorSEf
import Derived.Shelf.Strings.Builder1
import Derived.Shelf.Strings.BuilderF
import Derived.Shelf.Strconv.Atoi
import Derived.Shelf.Strconv.Itoa0
import Derived.Shelf.Strconv.Itoa1
import Derived.Shelf.LaysM
import Derived.Shelf.Strconv.Itoa2
import Derived.Shelf.Strconv.Itoa3
import Derived.Shelf.Strconv.AtoiErrFast
import Derived.Shelf.Strconv.ParseIntEmpty
import Derived.Shelf.Strconv.AtoiFail
import Derived.Shelf.Strconv.Clone
import Derived.Shelf.Strconv.SyntaxError
import Derived.Shelf.LaysC
import Derived.Shelf.Strconv.ToError
import Derived.Shelf.Strconv.Lower
import Derived.Shelf.Strconv.ParseUint10
import Derived.Shelf.Strconv.ParseUint10Empty
import Derived.Shelf.Strconv.ParseUint10Any
import Derived.Shelf.Strconv.ParseInt10
import Derived.Shelf.Strconv.AtoiLong
import Derived.Shelf.Strconv.AtoiInnerAll
import Derived.Shelf.Strconv.RangeError
import Derived.Shelf.Strconv.ToErrorRange
import Derived.Shelf.Strconv.AtoiAll
import Derived.Shelf.Strconv.ErrVarAll
import Derived.Shelf.Strings.Search1
import Derived.Shelf.Strings.Search2
import Derived.Shelf.Strings.Cut
import Derived.Shelf.Strings.Shaped
import Derived.Test.YtofdnmlpfagibaaDoorProg
set_option linter.unusedSimpArgs false
set_option linter.unusedVariables false
set_option linter.unusedSectionVars false
namespace Go.Proofs
open Go.Shelf
def Tryd.lays171_ren : Go.Shelf.Ren := ⟨fun | 171 => 23 | 243 => 42 | 246 => 60 | 283 => 77 | 284 => 78 | 285 => 79 | 286 => 80 | 129 => 90 | 317 => 89 | 318 => 91 | 319 => 92 | 320 => 93 | 337 => 98 | 338 => 99 | n => n, fun | 3 => 3 | 9 => 9 | 2 => 2 | 4 => 4 | 171 => 112 | 0 => 0 | 53 => 113 | 37 => 22 | 5 => 5 | 173 => 116 | 212 => 127 | 51 => 128 | 20 => 20 | 213 => 129 | 46 => 119 | 232 => 138 | 233 => 139 | n => n, fun | 17 => 3 | 18 => 4 | 19 => 5 | n => n⟩
theorem Tryd.lays171 : Go.Proofs.Lays.n171 Tryd.prog Tryd.lays171_ren := {
 mixed := by kernel_rfl
 f129 := Tryd.func90.trans (congrArg some (by kernel_rfl))
 f171 := Tryd.func23.trans (congrArg some (by kernel_rfl))
 f243 := Tryd.func42.trans (congrArg some (by kernel_rfl))
 f246 := Tryd.func60.trans (congrArg some (by kernel_rfl))
 f283 := Tryd.func77.trans (congrArg some (by kernel_rfl))
 f284 := Tryd.func78.trans (congrArg some (by kernel_rfl))
 f285 := Tryd.func79.trans (congrArg some (by kernel_rfl))
 f286 := Tryd.func80.trans (congrArg some (by kernel_rfl))
 f317 := Tryd.func89.trans (congrArg some (by kernel_rfl))
 f318 := Tryd.func91.trans (congrArg some (by kernel_rfl))
 f319 := Tryd.func92.trans (congrArg some (by kernel_rfl))
 f320 := Tryd.func93.trans (congrArg some (by kernel_rfl))
 f337 := Tryd.func98.trans (congrArg some (by kernel_rfl))
 f338 := Tryd.func99.trans (congrArg some (by kernel_rfl))
 t0 := Tryd.underlying0
 a0 := Tryd.isAgg0
 z0 := Tryd.sizeOf0
 v0 := Tryd.zeroValue0
 t2 := Tryd.underlying2
 a2 := Tryd.isAgg2
 z2 := Tryd.sizeOf2
 v2 := Tryd.zeroValue2
 t3 := Tryd.underlying3
 a3 := Tryd.isAgg3
 z3 := Tryd.sizeOf3
 v3 := Tryd.zeroValue3
 t4 := Tryd.underlying4
 a4 := Tryd.isAgg4
 z4 := Tryd.sizeOf4
 v4 := Tryd.zeroValue4
 t5 := Tryd.underlying5
 a5 := Tryd.isAgg5
 z5 := Tryd.sizeOf5
 v5 := Tryd.zeroValue5
 t9 := Tryd.underlying9
 a9 := Tryd.isAgg9
 z9 := Tryd.sizeOf9
 v9 := Tryd.zeroValue9
 t20 := Tryd.underlying20
 a20 := Tryd.isAgg20
 z20 := Tryd.sizeOf20
 v20 := Tryd.zeroValue20
 t37 := Tryd.underlying22
 a37 := Tryd.isAgg22
 z37 := Tryd.sizeOf22
 v37 := Tryd.zeroValue22
 t46 := Tryd.underlying119
 a46 := Tryd.isAgg119
 z46 := Tryd.sizeOf119
 v46 := Tryd.zeroValue119
 t51 := Tryd.underlying128
 a51 := Tryd.isAgg128
 z51 := Tryd.sizeOf128
 v51 := Tryd.zeroValue128
 t53 := Tryd.underlying113
 a53 := Tryd.isAgg113
 z53 := Tryd.sizeOf113
 v53 := Tryd.zeroValue113
 t171 := Tryd.underlying112
 a171 := Tryd.isAgg112
 z171 := Tryd.sizeOf112
 v171 := Tryd.zeroValue112
 t173 := Tryd.underlying116
 a173 := Tryd.isAgg116
 z173 := Tryd.sizeOf116
 v173 := Tryd.zeroValue116
 t212 := Tryd.underlying127
 a212 := Tryd.isAgg127
 z212 := Tryd.sizeOf127
 v212 := Tryd.zeroValue127
 t213 := Tryd.underlying129
 a213 := Tryd.isAgg129
 z213 := Tryd.sizeOf129
 t232 := Tryd.underlying138
 a232 := Tryd.isAgg138
 z232 := Tryd.sizeOf138
 v232 := Tryd.zeroValue138
 t233 := Tryd.underlying139
 a233 := Tryd.isAgg139
 z233 := Tryd.sizeOf139
 v233 := Tryd.zeroValue139
 g17 := by kernel_rfl
 g18 := by kernel_rfl
 g19 := by kernel_rfl }
def Tryd.laysC172_ren : Go.Shelf.Ren := ⟨fun | 172 => 30 | 244 => 45 | 245 => 46 | 247 => 62 | 279 => 63 | 280 => 64 | 281 => 65 | 282 => 66 | 287 => 85 | 316 => 86 | 171 => 23 | 205 => 87 | 321 => 96 | 322 => 97 | 243 => 42 | 246 => 60 | 283 => 77 | 284 => 78 | 285 => 79 | 286 => 80 | 129 => 90 | 317 => 89 | 318 => 91 | 319 => 92 | 320 => 93 | 337 => 98 | 338 => 99 | n => n, fun | 9 => 9 | 3 => 3 | 75 => 58 | 76 => 59 | 4 => 4 | 5 => 5 | 167 => 96 | 37 => 22 | 0 => 0 | 85 => 97 | 2 => 2 | 168 => 99 | 53 => 113 | 175 => 120 | 46 => 119 | 210 => 124 | 127 => 83 | 145 => 136 | 143 => 134 | 21 => 21 | 171 => 112 | 173 => 116 | 212 => 127 | 51 => 128 | 20 => 20 | 213 => 129 | 232 => 138 | 233 => 139 | 80 => 68 | n => n, fun | 15 => 1 | 16 => 2 | 17 => 3 | 18 => 4 | 19 => 5 | n => n⟩
theorem Tryd.laysC172 : Go.Proofs.LaysC.n172 Tryd.prog Tryd.laysC172_ren := {
 mixed := by kernel_rfl
 f129 := Tryd.func90.trans (congrArg some (by kernel_rfl))
 f171 := Tryd.func23.trans (congrArg some (by kernel_rfl))
 f172 := Tryd.func30.trans (congrArg some (by kernel_rfl))
 f205 := Tryd.func87.trans (congrArg some (by kernel_rfl))
 f243 := Tryd.func42.trans (congrArg some (by kernel_rfl))
 f244 := Tryd.func45.trans (congrArg some (by kernel_rfl))
 f245 := Tryd.func46.trans (congrArg some (by kernel_rfl))
 f246 := Tryd.func60.trans (congrArg some (by kernel_rfl))
 f247 := Tryd.func62.trans (congrArg some (by kernel_rfl))
 f279 := Tryd.func63.trans (congrArg some (by kernel_rfl))
 f280 := Tryd.func64.trans (congrArg some (by kernel_rfl))
 f281 := Tryd.func65.trans (congrArg some (by kernel_rfl))
 f282 := Tryd.func66.trans (congrArg some (by kernel_rfl))
 f283 := Tryd.func77.trans (congrArg some (by kernel_rfl))
 f284 := Tryd.func78.trans (congrArg some (by kernel_rfl))
 f285 := Tryd.func79.trans (congrArg some (by kernel_rfl))
 f286 := Tryd.func80.trans (congrArg some (by kernel_rfl))
 f287 := Tryd.func85.trans (congrArg some (by kernel_rfl))
 f316 := Tryd.func86.trans (congrArg some (by kernel_rfl))
 f317 := Tryd.func89.trans (congrArg some (by kernel_rfl))
 f318 := Tryd.func91.trans (congrArg some (by kernel_rfl))
 f319 := Tryd.func92.trans (congrArg some (by kernel_rfl))
 f320 := Tryd.func93.trans (congrArg some (by kernel_rfl))
 f321 := Tryd.func96.trans (congrArg some (by kernel_rfl))
 f322 := Tryd.func97.trans (congrArg some (by kernel_rfl))
 f337 := Tryd.func98.trans (congrArg some (by kernel_rfl))
 f338 := Tryd.func99.trans (congrArg some (by kernel_rfl))
 t0 := Tryd.underlying0
 a0 := Tryd.isAgg0
 z0 := Tryd.sizeOf0
 v0 := Tryd.zeroValue0
 t2 := Tryd.underlying2
 a2 := Tryd.isAgg2
 z2 := Tryd.sizeOf2
 v2 := Tryd.zeroValue2
 t3 := Tryd.underlying3
 a3 := Tryd.isAgg3
 z3 := Tryd.sizeOf3
 v3 := Tryd.zeroValue3
 t4 := Tryd.underlying4
 a4 := Tryd.isAgg4
 z4 := Tryd.sizeOf4
 v4 := Tryd.zeroValue4
 t5 := Tryd.underlying5
 a5 := Tryd.isAgg5
 z5 := Tryd.sizeOf5
 v5 := Tryd.zeroValue5
 t9 := Tryd.underlying9
 a9 := Tryd.isAgg9
 z9 := Tryd.sizeOf9
 v9 := Tryd.zeroValue9
 t20 := Tryd.underlying20
 a20 := Tryd.isAgg20
 z20 := Tryd.sizeOf20
 v20 := Tryd.zeroValue20
 t21 := Tryd.underlying21
 a21 := Tryd.isAgg21
 z21 := Tryd.sizeOf21
 v21 := Tryd.zeroValue21
 t37 := Tryd.underlying22
 a37 := Tryd.isAgg22
 z37 := Tryd.sizeOf22
 v37 := Tryd.zeroValue22
 t46 := Tryd.underlying119
 a46 := Tryd.isAgg119
 z46 := Tryd.sizeOf119
 v46 := Tryd.zeroValue119
 t51 := Tryd.underlying128
 a51 := Tryd.isAgg128
 z51 := Tryd.sizeOf128
 v51 := Tryd.zeroValue128
 t53 := Tryd.underlying113
 a53 := Tryd.isAgg113
 z53 := Tryd.sizeOf113
 v53 := Tryd.zeroValue113
 t75 := Tryd.underlying58
 a75 := Tryd.isAgg58
 z75 := Tryd.sizeOf58
 v75 := Tryd.zeroValue58
 t76 := Tryd.underlying59
 a76 := Tryd.isAgg59
 z76 := Tryd.sizeOf59
 v76 := Tryd.zeroValue59
 t85 := Tryd.underlying97
 a85 := Tryd.isAgg97
 z85 := Tryd.sizeOf97
 v85 := Tryd.zeroValue97
 t127 := Tryd.underlying83
 a127 := Tryd.isAgg83
 z127 := Tryd.sizeOf83
 v127 := Tryd.zeroValue83
 t143 := Tryd.underlying134
 a143 := Tryd.isAgg134
 z143 := Tryd.sizeOf134
 v143 := Tryd.zeroValue134
 t145 := Tryd.underlying136
 a145 := Tryd.isAgg136
 z145 := Tryd.sizeOf136
 v145 := Tryd.zeroValue136
 t167 := Tryd.underlying96
 a167 := Tryd.isAgg96
 z167 := Tryd.sizeOf96
 v167 := Tryd.zeroValue96
 t168 := Tryd.underlying99
 a168 := Tryd.isAgg99
 z168 := Tryd.sizeOf99
 v168 := Tryd.zeroValue99
 t171 := Tryd.underlying112
 a171 := Tryd.isAgg112
 z171 := Tryd.sizeOf112
 v171 := Tryd.zeroValue112
 t173 := Tryd.underlying116
 a173 := Tryd.isAgg116
 z173 := Tryd.sizeOf116
 v173 := Tryd.zeroValue116
 t175 := Tryd.underlying120
 a175 := Tryd.isAgg120
 z175 := Tryd.sizeOf120
 v175 := Tryd.zeroValue120
 t210 := Tryd.underlying124
 a210 := Tryd.isAgg124
 z210 := Tryd.sizeOf124
 v210 := Tryd.zeroValue124
 t212 := Tryd.underlying127
 a212 := Tryd.isAgg127
 z212 := Tryd.sizeOf127
 v212 := Tryd.zeroValue127
 t213 := Tryd.underlying129
 a213 := Tryd.isAgg129
 z213 := Tryd.sizeOf129
 t232 := Tryd.underlying138
 a232 := Tryd.isAgg138
 z232 := Tryd.sizeOf138
 v232 := Tryd.zeroValue138
 t233 := Tryd.underlying139
 a233 := Tryd.isAgg139
 z233 := Tryd.sizeOf139
 v233 := Tryd.zeroValue139
 g15 := by kernel_rfl
 g16 := by kernel_rfl
 g17 := by kernel_rfl
 g18 := by kernel_rfl
 g19 := by kernel_rfl
 t80 := Tryd.underlying68
 a80 := Tryd.isAgg68
 z80 := Tryd.sizeOf68
 v80 := Tryd.zeroValue68
 i0 := by kernel_rfl
 i2 := by kernel_rfl
 i3 := by kernel_rfl
 i4 := by kernel_rfl
 i5 := by kernel_rfl
 i9 := by kernel_rfl
 i20 := by kernel_rfl
 i21 := by kernel_rfl
 i37 := by kernel_rfl
 i46 := by kernel_rfl
 i51 := by kernel_rfl
 i53 := by kernel_rfl
 i75 := by kernel_rfl
 i76 := by kernel_rfl
 i80 := by kernel_rfl
 i85 := by kernel_rfl
 i127 := by kernel_rfl
 i143 := by kernel_rfl
 i145 := by kernel_rfl
 i167 := by kernel_rfl
 i168 := by kernel_rfl
 i171 := by kernel_rfl
 i173 := by kernel_rfl
 i175 := by kernel_rfl
 i210 := by kernel_rfl
 i212 := by kernel_rfl
 i232 := by kernel_rfl
 i233 := by kernel_rfl
 m15 := by kernel_rfl
 m16 := by kernel_rfl
 m17 := by kernel_rfl
 m18 := by kernel_rfl
 m19 := by kernel_rfl
 c0 := by kernel_rfl
 c2 := by kernel_rfl
 c3 := by kernel_rfl
 c4 := by kernel_rfl
 c5 := by kernel_rfl
 c9 := by kernel_rfl
 c20 := by kernel_rfl
 c21 := by kernel_rfl
 c37 := by kernel_rfl
 c46 := by kernel_rfl
 c51 := by kernel_rfl
 c53 := by kernel_rfl
 c75 := by kernel_rfl
 c76 := by kernel_rfl
 c80 := by kernel_rfl
 c85 := by kernel_rfl
 c127 := by kernel_rfl
 c143 := by kernel_rfl
 c145 := by kernel_rfl
 c167 := by kernel_rfl
 c168 := by kernel_rfl
 c171 := by kernel_rfl
 c173 := by kernel_rfl
 c175 := by kernel_rfl
 c210 := by kernel_rfl
 c212 := by kernel_rfl
 c213 := by kernel_rfl
 c232 := by kernel_rfl
 c233 := by kernel_rfl }
def Tryd.lays145_ren : Go.Shelf.Ren := ⟨fun | 145 => 29 | 220 => 44 | 219 => 61 | 217 => 81 | 225 => 82 | 224 => 83 | 267 => 84 | 266 => 94 | 314 => 95 | n => n, fun | 9 => 9 | 4 => 4 | 59 => 55 | 3 => 3 | 5 => 5 | 46 => 119 | 146 => 131 | 51 => 128 | n => n, fun | 1 => 0 | n => n⟩
theorem Tryd.lays145 : Go.Proofs.Lays.n145 Tryd.prog Tryd.lays145_ren := {
 mixed := by kernel_rfl
 f145 := Tryd.func29.trans (congrArg some (by kernel_rfl))
 f217 := Tryd.func81.trans (congrArg some (by kernel_rfl))
 f219 := Tryd.func61.trans (congrArg some (by kernel_rfl))
 f220 := Tryd.func44.trans (congrArg some (by kernel_rfl))
 f224 := Tryd.func83.trans (congrArg some (by kernel_rfl))
 f225 := Tryd.func82.trans (congrArg some (by kernel_rfl))
 f266 := Tryd.func94.trans (congrArg some (by kernel_rfl))
 f267 := Tryd.func84.trans (congrArg some (by kernel_rfl))
 f314 := Tryd.func95.trans (congrArg some (by kernel_rfl))
 t3 := Tryd.underlying3
 a3 := Tryd.isAgg3
 z3 := Tryd.sizeOf3
 v3 := Tryd.zeroValue3
 t4 := Tryd.underlying4
 a4 := Tryd.isAgg4
 z4 := Tryd.sizeOf4
 v4 := Tryd.zeroValue4
 t5 := Tryd.underlying5
 a5 := Tryd.isAgg5
 z5 := Tryd.sizeOf5
 v5 := Tryd.zeroValue5
 t9 := Tryd.underlying9
 a9 := Tryd.isAgg9
 z9 := Tryd.sizeOf9
 v9 := Tryd.zeroValue9
 t46 := Tryd.underlying119
 a46 := Tryd.isAgg119
 z46 := Tryd.sizeOf119
 v46 := Tryd.zeroValue119
 t51 := Tryd.underlying128
 a51 := Tryd.isAgg128
 z51 := Tryd.sizeOf128
 v51 := Tryd.zeroValue128
 t59 := Tryd.underlying55
 a59 := Tryd.isAgg55
 z59 := Tryd.sizeOf55
 v59 := Tryd.zeroValue55
 t146 := Tryd.underlying131
 a146 := Tryd.isAgg131
 z146 := Tryd.sizeOf131
 v146 := Tryd.zeroValue131
 g1 := by kernel_rfl }
def Tryd.laysM145_ren : Go.Shelf.Ren := ⟨fun | 145 => 29 | 220 => 44 | 219 => 61 | 217 => 81 | 225 => 82 | 224 => 83 | 267 => 84 | 266 => 94 | 314 => 95 | n => n, fun | 9 => 9 | 4 => 4 | 59 => 55 | 3 => 3 | 5 => 5 | 46 => 119 | 146 => 131 | 51 => 128 | n => n, fun | 1 => 0 | n => n⟩
theorem Tryd.laysM145 : Go.Proofs.LaysM.n145 Tryd.prog Tryd.laysM145_ren := {
 mixed := by kernel_rfl
 f145 := Tryd.func29.trans (congrArg some (by kernel_rfl))
 f217 := Tryd.func81.trans (congrArg some (by kernel_rfl))
 f219 := Tryd.func61.trans (congrArg some (by kernel_rfl))
 f220 := Tryd.func44.trans (congrArg some (by kernel_rfl))
 f224 := Tryd.func83.trans (congrArg some (by kernel_rfl))
 f225 := Tryd.func82.trans (congrArg some (by kernel_rfl))
 f266 := Tryd.func94.trans (congrArg some (by kernel_rfl))
 f267 := Tryd.func84.trans (congrArg some (by kernel_rfl))
 f314 := Tryd.func95.trans (congrArg some (by kernel_rfl))
 t3 := Tryd.underlying3
 a3 := Tryd.isAgg3
 z3 := Tryd.sizeOf3
 v3 := Tryd.zeroValue3
 t4 := Tryd.underlying4
 a4 := Tryd.isAgg4
 z4 := Tryd.sizeOf4
 v4 := Tryd.zeroValue4
 t5 := Tryd.underlying5
 a5 := Tryd.isAgg5
 z5 := Tryd.sizeOf5
 v5 := Tryd.zeroValue5
 t9 := Tryd.underlying9
 a9 := Tryd.isAgg9
 z9 := Tryd.sizeOf9
 v9 := Tryd.zeroValue9
 t46 := Tryd.underlying119
 a46 := Tryd.isAgg119
 z46 := Tryd.sizeOf119
 v46 := Tryd.zeroValue119
 t51 := Tryd.underlying128
 a51 := Tryd.isAgg128
 z51 := Tryd.sizeOf128
 v51 := Tryd.zeroValue128
 t59 := Tryd.underlying55
 a59 := Tryd.isAgg55
 z59 := Tryd.sizeOf55
 v59 := Tryd.zeroValue55
 t146 := Tryd.underlying131
 a146 := Tryd.isAgg131
 z146 := Tryd.sizeOf131
 v146 := Tryd.zeroValue131
 g1 := by kernel_rfl
 i3 := by kernel_rfl
 i4 := by kernel_rfl
 i5 := by kernel_rfl
 i9 := by kernel_rfl
 i46 := by kernel_rfl
 i51 := by kernel_rfl
 i59 := by kernel_rfl
 i146 := by kernel_rfl
 m1 := by kernel_rfl
 s1_3 := fun w h => Go.Proofs.cell_of_shapedOpen_int (zero := #[.int .i64 0]) (t := 3) h (of_decide_eq_true (by kernel_rfl)) (by kernel_rfl) rfl (by kernel_rfl) (by kernel_rfl) Tryd.underlying3 }
open Go.RowKit Go.Sort Go.Lib in
theorem Tryd.strconv_Itoa_small (i : Nat) (hi : i < 100) (w : World) :
  Calls Tryd.prog 23 #[.int .i64 i] w fun e w' => e = .returned (.string ⟨(Lib.decDigits i).toArray⟩) ∧ w' = w := Any.strconv_Itoa_small Tryd.lays171 i hi w
open Go.RowKit in
theorem Tryd.strconv_Atoi_ok (s : ByteArray) (hmax : s.size ≤ 9223372036854775806) (v : Int) (h : Lib.atoiAll s.data.toList = .ok v) (w : World) :
  Calls Tryd.prog 30 #[.string s] w fun e w' => e = .returned (.tuple #[.int .i64 v, .nilIface]) ∧ (w' = w ∨ ∃ t, w' = Lib.bytesWorld w 5 t) := Any.strconv_Atoi_ok Tryd.laysC172 s hmax v h w
open Go.RowKit in
theorem Tryd.strconv_Atoi_syntax_var (s : ByteArray) (hlim : s.size ≤ 281474976710656) (h : ∀ v, Lib.atoiAll s.data.toList ≠ .ok v) (h2 : Lib.atoiAll s.data.toList ≠ .range) (tp : TypeId) (p : Value) (w : World) (hvar : w.var? Tryd.prog "strconv.ErrSyntax" = some #[.iface tp p]) :
  Calls Tryd.prog 30 #[.string s] w fun e w' => ∃ N, e = .returned (.tuple #[.int .i64 0, .iface 99 (.pointer (some ⟨N, 0, none⟩))]) ∧ w.heap.size ≤ N ∧ w'.heap[N]? = some (.cells #[.string ⟨#[65, 116, 111, 105]⟩, .string s, .iface tp p] 124 (0, 0)) ∧ Below w.heap.size w w' := Any.strconv_Atoi_syntax_var Tryd.laysC172 s hlim (by cases h0 : Lib.atoiAll s.data.toList <;> first | rfl | exact absurd h0 (h _) | exact absurd h0 h2) tp p w hvar
open Go.RowKit in
theorem Tryd.strconv_Atoi_range_var (s : ByteArray) (hlim : s.size ≤ 281474976710656) (h : Lib.atoiAll s.data.toList = .range) (tp : TypeId) (p : Value) (w : World) (hvar : w.var? Tryd.prog "strconv.ErrRange" = some #[.iface tp p]) :
  Calls Tryd.prog 30 #[.string s] w fun e w' => ∃ N, e = .returned (.tuple #[.int .i64 (Lib.atoiSat s.data.toList), .iface 99 (.pointer (some ⟨N, 0, none⟩))]) ∧ w.heap.size ≤ N ∧ w'.heap[N]? = some (.cells #[.string ⟨#[65, 116, 111, 105]⟩, .string s, .iface tp p] 124 (0, 0)) ∧ Below w.heap.size w w' := Any.strconv_Atoi_range_var Tryd.laysC172 s hlim h tp p w hvar
open Go.RowKit Go.Lib in
theorem Tryd.strings_Cut (s sep : ByteArray) (m : Int) (w : World) (hs : s.size < 4294967281) (hm : w.cell? ⟨0, 0, none⟩ = some (.int .i64 m)) :
  Calls Tryd.prog 29 #[.string s, .string sep] w fun e w' => e = .returned (.tuple #[.string ⟨(Lib.cut s.data.toList sep.data.toList).1.toArray⟩, .string ⟨(Lib.cut s.data.toList sep.data.toList).2.1.toArray⟩, .bool (Lib.cut s.data.toList sep.data.toList).2.2]) ∧ ∃ n, w' = w.drewN n := Any.strings_Cut Tryd.lays145 s sep m w hs hm
end Go.Proofs
namespace Go.Proofs.YtofdnmlpfagibaaDoor
open Go Go.Abs Go.RowKit Go.Dial Go.Clos
variable {w0 : World}
/-- what is asked of the library's variables where a text is cut -/
class GlobM (w0 : World) : Prop where
 cell : ∃ m, w0.cell? ⟨Tryd.laysM145_ren.g 1, 0, none⟩ = some (.int .i64 m)
/-- what is asked of them where a text is read as a number -/
class GlobE (w0 : World) : Prop where
 errS : ∃ tp p, w0.var? Tryd.prog "strconv.ErrSyntax" = some #[.iface tp p]
 errR : ∃ tp p, w0.var? Tryd.prog "strconv.ErrRange" = some #[.iface tp p]
theorem decN_lib : ∀ n : Nat, Lib.decDigits n = decN n := by
 intro n
 induction n using Nat.strongRecOn with
 | _ n ih =>
  unfold Lib.decDigits decN
  by_cases h : n < 10
  ·rw [dif_pos h, dif_pos h]
  ·rw [dif_neg h, dif_neg h, ih (n / 10) (by omega)]
theorem itoaS_calls (σ : AHeap) (n : Nat) (hn : n < 100) : ACall Tryd.prog w0 23 [.int .i64 n] σ fun r σ' => r = .string (tx (decN n)) ∧ σ' = σ :=
 ACall.shelf (R := fun r => r = .string (tx (decN n))) (by kernel_rfl) rfl fun w _ => (Tryd.strconv_Itoa_small n hn w).mono fun e w' ⟨he, hw⟩ => by
  subst hw
  exact ⟨_, _, he, fun β => .string _, Below.refl _ _, by rw [decN_lib]; rfl⟩
theorem libCut_calls [hG : GlobM w0] (σ : AHeap) (s t : List UInt8) (hl : s.length < 4294967281) : ACall Tryd.prog w0 29 [.string (tx s), .string (tx t)] σ fun r σ' => r = .tuple #[.string (tx (Lib.cut s t).1), .string (tx (Lib.cut s t).2.1), .bool (Lib.cut s t).2.2] ∧ σ' = σ := by
 obtain ⟨m, hm⟩ := hG.cell
 have three : ∀ (β : Beta) (i : Nat) {a b : ByteArray} {c : Bool}, i < (#[Value.string a, .string b, .bool c] : Array Value).size → RelV β ((#[Value.string a, .string b, .bool c] : Array Value).getD i undef) ((#[Value.string a, .string b, .bool c] : Array Value).getD i undef) := fun β i a b c hi => by
  have : i = 0 ∨ i = 1 ∨ i = 2 := by simp at hi; omega
  rcases this with rfl | rfl | rfl
  ·exact .string _
  ·exact .string _
  ·exact .bool _
 refine ACall.shelf (R := fun r => r = .tuple #[.string (tx (Lib.cut s t).1), .string (tx (Lib.cut s t).2.1), .bool (Lib.cut s t).2.2]) (by kernel_rfl) rfl fun w hw => (Tryd.strings_Cut (tx s) (tx t) m w hl (below_cell hw hm)).mono fun e w' ⟨he, n, hw'⟩ => ?_
 subst hw'
 exact ⟨_, _, he, fun β => .tuple _ _ rfl fun i hi => three β i hi, ⟨rfl, rfl, rfl, Nat.le_refl _, fun _ _ => rfl⟩, rfl⟩
/-- an error, whichever -/
def errV : Value := .iface 0 (.bool false)
theorem atoi_calls [hG : GlobE w0] (σ : AHeap) (s : List UInt8) (hl : s.length ≤ 1048576) : ACall Tryd.prog w0 30 [.string (tx s)] σ fun r σ' => ((∃ v, Lib.atoiAll s = .ok v ∧ r = .tuple #[.int .i64 v, .nilIface]) ∨ ((∀ v, Lib.atoiAll s ≠ .ok v) ∧ ∃ z, r = .tuple #[.int .i64 z, errV])) ∧ σ' = σ := by
 obtain ⟨t1, p1, h1⟩ := hG.errS
 obtain ⟨t2, p2, h2⟩ := hG.errR
 refine ACall.shelf (R := fun r => (∃ v, Lib.atoiAll s = .ok v ∧ r = .tuple #[.int .i64 v, .nilIface]) ∨ ((∀ v, Lib.atoiAll s ≠ .ok v) ∧ ∃ z, r = .tuple #[.int .i64 z, errV])) (by kernel_rfl) rfl fun w hw => ?_
 have hs : (tx s).size ≤ 1048576 := hl
 have two : ∀ (β : Beta) (z : Int) (a b : Value), RelV β a b → RelV β (.tuple #[.int .i64 z, a]) (.tuple #[.int .i64 z, b]) := fun β z a b h => .tuple _ _ rfl fun i hi => by
  have : i = 0 ∨ i = 1 := by simp at hi; omega
  rcases this with rfl | rfl
  ·exact .int _ _
  ·exact h
 cases h : Lib.atoiAll s with
 | ok v =>
  refine (Tryd.strconv_Atoi_ok (tx s) (by omega) v h w).mono fun e w' ⟨he, hw'⟩ => ⟨.tuple #[.int .i64 v, .nilIface], _, he, fun β => two β v _ _ .nilIface, ?_, .inl ⟨v, rfl, rfl⟩⟩
  rcases hw' with rfl | ⟨t, rfl⟩
  ·exact Below.refl _ _
  ·exact ⟨rfl, rfl, rfl, by rw [Lib.bytesWorld_size]; omega, fun k hk => Lib.bytesWorld_at_old _ _ _ k hk⟩
 | range =>
  refine (Tryd.strconv_Atoi_range_var (tx s) (by omega) h t2 p2 w (below_var hw h2)).mono fun e w' ⟨N, he, _, _, hb⟩ => ⟨.tuple #[.int .i64 (Lib.atoiSat s), errV], _, he, fun β => two β _ _ _ (.iface _ _ _ _), hb, .inr ⟨(fun v hv => nomatch hv), _, rfl⟩⟩
 | _ =>
  refine (Tryd.strconv_Atoi_syntax_var (tx s) (by omega) (fun v e => nomatch (h.symm.trans e)) (fun e => nomatch (h.symm.trans e)) t1 p1 w (below_var hw h1)).mono fun e w' ⟨N, he, _, _, hb⟩ => ⟨.tuple #[.int .i64 0, errV], _, he, fun β => two β 0 _ _ (.iface _ _ _ _), hb, .inr ⟨(fun v hv => nomatch hv), 0, rfl⟩⟩
/-- is a text the number of a line? -/
def NumT (s : List UInt8) : Prop := DgT s ∧ 1 ≤ s.length ∧ s.length ≤ 3
instance (s : List UInt8) : Decidable (NumT s) := inferInstanceAs (Decidable (_ ∧ _ ∧ _))
set_option maxRecDepth 8000 in
theorem isNumber_calls (σ : AHeap) (s : List UInt8) (hl : s.length ≤ 1048576) : ACall Tryd.prog w0 24 [.string (tx s)] σ fun r σ' => r = .bool (decide (NumT s)) ∧ σ' = σ := by
 refine acall_go mixed Tryd.func24 rfl good24 fun pr => ?_
 have hne : abin Tryd.prog 9 .neq (.string (tx s)) (.string { data := #[] }) = some (.bool (!decide (s = []))) := abin_sneq (ys := [])
 by_cases h0 : s = []
 ·have d0 : decide (s = []) = true := decide_eq_true h0
  simp -implicitDefEqProofs (disch := omega) only [Nat.reduceEqDiff, ↓reduceIte, vcu, ↓vcd, hne, d0, Bool.not_true]
  refine fin_one Tryd.results24 ⟨?_, rfl⟩
  simp -implicitDefEqProofs (disch := omega) only [Nat.reduceEqDiff, ↓reduceIte, vcu, ↓vcd]
  rw [decide_eq_false fun h : NumT s => by have := h.2.1; rw [h0] at this; simp at this]
 have d0 : decide (s = []) = false := decide_eq_false h0
 have hp : 1 ≤ s.length := List.length_pos_iff.2 h0
 by_cases h3 : s.length ≤ 3
 case neg =>
  have d3 : decide ((s.length : Int) ≤ 3) = false := decide_eq_false (by omega)
  simp -implicitDefEqProofs (disch := omega) only [Nat.reduceEqDiff, ↓reduceIte, vcu, ↓vcd, hne, d0, Bool.not_false, d3]
  refine fin_one Tryd.results24 ⟨?_, rfl⟩
  simp -implicitDefEqProofs (disch := omega) only [Nat.reduceEqDiff, ↓reduceIte, vcu, ↓vcd]
  rw [decide_eq_false fun h : NumT s => h3 h.2.2]
 have d3 : decide ((s.length : Int) ≤ 3) = true := decide_eq_true (by omega)
 simp -implicitDefEqProofs (disch := omega) only [Nat.reduceEqDiff, ↓reduceIte, vcu, ↓vcd, hne, d0, Bool.not_false, d3]
 refine (implDg_calls σ s hl).mono ?_
 rintro _ _ ⟨rfl, rfl⟩
 simp -implicitDefEqProofs (disch := omega) only [Nat.reduceEqDiff, ↓reduceIte, vcu, ↓vcd, opK_some]
 refine fin_one Tryd.results24 ⟨?_, rfl⟩
 simp -implicitDefEqProofs (disch := omega) only [Nat.reduceEqDiff, ↓reduceIte, vcu, ↓vcd]
 congr 1
 exact decide_eq_decide.2 ⟨fun h => ⟨h, hp, h3⟩, fun h => h.1⟩
set_option maxRecDepth 8000 in
theorem implDT_calls (σ : AHeap) (d : Dd) (ht : d.t.length ≤ 1048576) : ACall Tryd.prog w0 7 [ddA d] σ fun r σ' => r = .string (tx (deedT d)) ∧ σ' = σ := by
 obtain ⟨K, L, t⟩ := d
 have htl : t.length ≤ 1048576 := ht
 unfold ddA
 dsimp only
 refine acall_go mixed Tryd.func7 rfl good7 fun pr => ?_
 simp -implicitDefEqProofs (disch := omega) only [Nat.reduceEqDiff, ↓reduceIte, vcu, ↓vcd]
 refine r_boxed fun b τ nb s1 e1 => ?_
 replace e1 : τ b = some ⟨[.int .i64 K, .int .i64 L, .string (tx t)], false⟩ := e1
 have x0 : ld τ b (0 + 0) = some (.int .i64 K) := ld_of e1 rfl
 have x1 : ld τ b (0 + 1) = some (.int .i64 L) := ld_of e1 rfl
 have x2 : ld τ b (0 + 2) = some (.string (tx t)) := ld_of e1 rfl
 by_cases hl0 : L < 0
 ·have d1 : decide (L < 0) = true := decide_eq_true hl0
  simp -implicitDefEqProofs (disch := omega) only [Nat.reduceEqDiff, ↓reduceIte, vcu, ↓vcd, x1, d1]
  refine fin_drop Tryd.results7 σ s1 ⟨?_, rfl⟩
  simp -implicitDefEqProofs (disch := omega) only [Nat.reduceEqDiff, ↓reduceIte, vcu, ↓vcd]
  rw [deedT, if_neg fun h => by have := h.2.1.1; dsimp only at this; omega]
 have d1 : decide (L < 0) = false := decide_eq_false hl0
 by_cases hl9 : L > 99
 ·have d2 : decide (L > 99) = true := decide_eq_true hl9
  simp -implicitDefEqProofs (disch := omega) only [Nat.reduceEqDiff, ↓reduceIte, vcu, ↓vcd, x1, d1, d2]
  refine fin_drop Tryd.results7 σ s1 ⟨?_, rfl⟩
  simp -implicitDefEqProofs (disch := omega) only [Nat.reduceEqDiff, ↓reduceIte, vcu, ↓vcd]
  rw [deedT, if_neg fun h => by have := h.2.1.2; dsimp only at this; omega]
 have d2 : decide (L > 99) = false := decide_eq_false hl9
 obtain ⟨n, hn, rfl⟩ : ∃ n : Nat, n < 100 ∧ L = n := ⟨L.toNat, by omega, by omega⟩
 have hnl := decN_len n
 simp -implicitDefEqProofs (disch := omega) only [Nat.reduceEqDiff, ↓reduceIte, vcu, ↓vcd, x1, d1, d2]
 refine (itoaS_calls τ n hn).mono ?_
 rintro _ _ ⟨rfl, rfl⟩
 rename_i τ
 have add : ∀ (xs ys : List UInt8) (x y : ByteArray), x = tx xs → y = tx ys → xs.length + ys.length ≤ 2 ^ 40 → abin Tryd.prog 9 .add (.string x) (.string y) = some (.string (tx (xs ++ ys))) := fun xs ys x y e1 e2 h => by subst e1 e2; exact abin_sadd h
 have g0 : abin Tryd.prog 9 .add (.string { data := #[32] }) (.string (tx (decN n))) = some (.string (tx (32 :: decN n))) := add [32] (decN n) _ _ rfl rfl (by simp; omega)
 have gc : abin Tryd.prog 9 .add (.string { data := #[99, 97, 108, 108] }) (.string (tx (32 :: decN n))) = some (.string (tx (kwT 0 ++ 32 :: decN n))) := add (kwT 0) (32 :: decN n) _ _ rfl rfl (by simp [kwT]; omega)
 have gd : abin Tryd.prog 9 .add (.string { data := #[100, 114, 111, 112] }) (.string (tx (32 :: decN n))) = some (.string (tx (kwT 1 ++ 32 :: decN n))) := add (kwT 1) (32 :: decN n) _ _ rfl rfl (by simp [kwT]; omega)
 have gn : abin Tryd.prog 9 .add (.string { data := #[110, 117, 109, 98, 101, 114] }) (.string (tx (32 :: decN n))) = some (.string (tx (kwT 2 ++ 32 :: decN n))) := add (kwT 2) (32 :: decN n) _ _ rfl rfl (by simp [kwT]; omega)
 have g1 : ∀ xs : List UInt8, xs.length ≤ 1000 → abin Tryd.prog 9 .add (.string (tx xs)) (.string { data := #[32] }) = some (.string (tx (xs ++ [32]))) := fun xs h => add xs [32] _ _ rfl rfl (by simp; omega)
 have g2 : ∀ xs : List UInt8, xs.length ≤ 1001 → abin Tryd.prog 9 .add (.string (tx xs)) (.string (tx t)) = some (.string (tx (xs ++ t))) := fun xs h => add xs t _ _ rfl rfl (by omega)
 have hc1 := g1 (kwT 0 ++ 32 :: decN n) (by simp [kwT]; omega)
 have hc2 := g2 (kwT 0 ++ 32 :: decN n ++ [32]) (by simp [kwT]; omega)
 have hn1 := g1 (kwT 2 ++ 32 :: decN n) (by simp [kwT]; omega)
 have hn2 := g2 (kwT 2 ++ 32 :: decN n ++ [32]) (by simp [kwT]; omega)
 have hne : abin Tryd.prog 9 .eql (.string (tx t)) (.string { data := #[] }) = some (.bool (decide (t = []))) := abin_seql (ys := [])
 have hnum := isNumber_calls (w0 := w0) τ t htl
 have hl : 0 ≤ (n : Int) ∧ (n : Int) ≤ 99 := by omega
 clear g1 g2 add
 by_cases hK0 : K = 0
 ·subst hK0
  have k0 : decide ((0 : Int) = 0) = true := rfl
  simp -implicitDefEqProofs (disch := omega) only [Nat.reduceEqDiff, ↓reduceIte, vcu, ↓vcd, opK_some, g0, x0, x2, k0]
  refine hnum.mono ?_
  rintro _ _ ⟨rfl, rfl⟩
  rename_i τ
  by_cases hN : NumT t
  ·rw [decide_eq_true hN]
   have hT : deedT ⟨0, n, t⟩ = kwT 0 ++ 32 :: decN n ++ [32] ++ t := by
    rw [deedT, if_pos ⟨by simp, hl, .inr ⟨by simp, hN.1, hN.2⟩⟩]; simp
   simp -implicitDefEqProofs (disch := omega) only [Nat.reduceEqDiff, ↓reduceIte, vcu, ↓vcd, opK_some, gc, hc1, hc2, x2]
   refine fin_drop Tryd.results7 σ s1 ⟨?_, rfl⟩
   simp -implicitDefEqProofs (disch := omega) only [Nat.reduceEqDiff, ↓reduceIte, vcu, ↓vcd]
   rw [hT]
  ·rw [decide_eq_false hN]
   have hT : deedT ⟨0, n, t⟩ = [] := by
    rw [deedT, if_neg fun h => h.2.2.elim (fun q => by simp at q) fun q => hN q.2]
   simp -implicitDefEqProofs (disch := omega) only [Nat.reduceEqDiff, ↓reduceIte, vcu, ↓vcd, opK_some, x0]
   refine fin_drop Tryd.results7 σ s1 ⟨?_, rfl⟩
   simp -implicitDefEqProofs (disch := omega) only [Nat.reduceEqDiff, ↓reduceIte, vcu, ↓vcd]
   rw [hT]
 have k0 : decide (K = 0) = false := decide_eq_false hK0
 by_cases hK1 : K = 1
 ·subst hK1
  have k1 : decide ((1 : Int) = 1) = true := rfl
  by_cases hN : t = []
  ·have dN : decide (t = []) = true := decide_eq_true hN
   have hT : deedT ⟨1, n, t⟩ = kwT 1 ++ 32 :: decN n := by
    rw [deedT, if_pos ⟨by simp, hl, .inl ⟨rfl, hN⟩⟩]; simp
   simp -implicitDefEqProofs (disch := omega) only [Nat.reduceEqDiff, ↓reduceIte, vcu, ↓vcd, opK_some, g0, x0, x2, k0, k1, hne, dN, gd]
   refine fin_drop Tryd.results7 σ s1 ⟨?_, rfl⟩
   simp -implicitDefEqProofs (disch := omega) only [Nat.reduceEqDiff, ↓reduceIte, vcu, ↓vcd]
   rw [hT]
  ·have dN : decide (t = []) = false := decide_eq_false hN
   have hT : deedT ⟨1, n, t⟩ = [] := by
    rw [deedT, if_neg fun h => h.2.2.elim (fun q => hN q.2) fun q => q.1 rfl]
   simp -implicitDefEqProofs (disch := omega) only [Nat.reduceEqDiff, ↓reduceIte, vcu, ↓vcd, opK_some, g0, x0, x2, k0, k1, hne, dN]
   refine fin_drop Tryd.results7 σ s1 ⟨?_, rfl⟩
   simp -implicitDefEqProofs (disch := omega) only [Nat.reduceEqDiff, ↓reduceIte, vcu, ↓vcd]
   rw [hT]
 have k1 : decide (K = 1) = false := decide_eq_false hK1
 by_cases hK2 : K = 2
 ·subst hK2
  have k2 : decide ((2 : Int) = 2) = true := rfl
  simp -implicitDefEqProofs (disch := omega) only [Nat.reduceEqDiff, ↓reduceIte, vcu, ↓vcd, opK_some, g0, x0, x2, k0, k1, k2]
  refine hnum.mono ?_
  rintro _ _ ⟨rfl, rfl⟩
  rename_i τ
  by_cases hN : NumT t
  ·rw [decide_eq_true hN]
   have hT : deedT ⟨2, n, t⟩ = kwT 2 ++ 32 :: decN n ++ [32] ++ t := by
    rw [deedT, if_pos ⟨by simp, hl, .inr ⟨by simp, hN.1, hN.2⟩⟩]; simp
   simp -implicitDefEqProofs (disch := omega) only [Nat.reduceEqDiff, ↓reduceIte, vcu, ↓vcd, opK_some, gn, hn1, hn2, x2]
   refine fin_drop Tryd.results7 σ s1 ⟨?_, rfl⟩
   simp -implicitDefEqProofs (disch := omega) only [Nat.reduceEqDiff, ↓reduceIte, vcu, ↓vcd]
   rw [hT]
  ·rw [decide_eq_false hN]
   have hT : deedT ⟨2, n, t⟩ = [] := by
    rw [deedT, if_neg fun h => h.2.2.elim (fun q => by simp at q) fun q => hN q.2]
   simp -implicitDefEqProofs (disch := omega) only [Nat.reduceEqDiff, ↓reduceIte, vcu, ↓vcd, opK_some, x0]
   refine fin_drop Tryd.results7 σ s1 ⟨?_, rfl⟩
   simp -implicitDefEqProofs (disch := omega) only [Nat.reduceEqDiff, ↓reduceIte, vcu, ↓vcd]
   rw [hT]
 have k2 : decide (K = 2) = false := decide_eq_false hK2
 have hT : deedT ⟨K, n, t⟩ = [] := by
  rw [deedT, if_neg fun h => by have := h.1; dsimp only at this; omega]
 simp -implicitDefEqProofs (disch := omega) only [Nat.reduceEqDiff, ↓reduceIte, vcu, ↓vcd, opK_some, g0, x0, x2, k0, k1, k2]
 refine fin_drop Tryd.results7 σ s1 ⟨?_, rfl⟩
 simp -implicitDefEqProofs (disch := omega) only [Nat.reduceEqDiff, ↓reduceIte, vcu, ↓vcd]
 rw [hT]
end Go.Proofs.YtofdnmlpfagibaaDoor
namespace Go.Proofs.YtofdnmlpfagibaaDoor
open Go Go.Abs Go.RowKit Go.Dial Go.Clos
variable {w0 : World}
theorem lib_index_at {c : UInt8} : ∀ (w t : List UInt8), (∀ b ∈ w, b ≠ c) → Lib.index (w ++ c :: t) [c] = w.length
 | [], t, _ => by simp [Lib.index, List.isPrefixOf]
 | b :: w, t, h => by
  have hb : b ≠ c := h b (by simp)
  have ih := lib_index_at w t fun x hx => h x (by simp [hx])
  rw [List.cons_append, Lib.index, ih]
  have : ([c].isPrefixOf (b :: (w ++ c :: t))) = false := by simp [List.isPrefixOf, hb.symm]
  rw [this]
  have h2 : ((w.length : Int) == -1) = false := by simp
  rw [h2]
  simp
theorem lib_index_no {c : UInt8} : ∀ (w : List UInt8), (∀ b ∈ w, b ≠ c) → Lib.index w [c] = -1
 | [], _ => by simp [Lib.index]
 | b :: w, h => by
  have hb : b ≠ c := h b (by simp)
  have ih := lib_index_no w fun x hx => h x (by simp [hx])
  rw [Lib.index, ih]
  have : ([c].isPrefixOf (b :: w)) = false := by simp [List.isPrefixOf, hb.symm]
  rw [this]
  simp
theorem lib_cut_at {c : UInt8} {w t : List UInt8} (h : ∀ b ∈ w, b ≠ c) : Lib.cut (w ++ c :: t) [c] = (w, t, true) := by
 unfold Lib.cut
 rw [lib_index_at w t h, if_pos (by omega)]
 simp
theorem lib_cut_no {c : UInt8} {w : List UInt8} (h : ∀ b ∈ w, b ≠ c) : Lib.cut w [c] = (w, [], false) := by
 unfold Lib.cut
 rw [lib_index_no w h, if_neg (by omega)]
theorem lib_cut_len (s t : List UInt8) : (Lib.cut s t).1.length ≤ s.length ∧ (Lib.cut s t).2.1.length ≤ s.length := by
 unfold Lib.cut
 split <;> simp
 omega
theorem atoi_decB : ∀ n, n < 100 → (match Lib.atoiAll (decN n) with | .ok v => v == (n : Int) | _ => false) = true := by decide +kernel
theorem atoi_dec {n : Nat} (h : n < 100) : Lib.atoiAll (decN n) = .ok n := by
 have := atoi_decB n h
 split at this
 ·rename_i v hv
  rw [hv, show v = n from by simpa using this]
 ·cases this
/-- what a deed's text is read as, word by word -/
theorem rd_some {s : List UInt8} {d : Dd} (h : readO s = some d) : (Lib.cut (Lib.cut s [32]).2.1 [32]).1 = decN d.l.toNat ∧ (Lib.cut (Lib.cut s [32]).2.1 [32]).2.1 = d.t ∧ Lib.atoiAll (decN d.l.toNat) = .ok d.l ∧ (0 ≤ d.k ∧ d.k ≤ 2) ∧ deedT d = s := by
 obtain ⟨e, hne⟩ := readO_some h
 have hk := deedT_ok (d := d) (by rw [e]; exact hne)
 obtain ⟨h1, h2, h3⟩ := id hk
 obtain ⟨n, hn, hl⟩ : ∃ n : Nat, n < 100 ∧ d.l = n := ⟨d.l.toNat, by omega, by omega⟩
 have hln : d.l.toNat = n := by omega
 obtain ⟨q1, q2, q3⟩ := decN_ok n hn
 have p1 : ∀ b ∈ kwT d.k, b ≠ 32 := fun b hb => ne_of_nat (by have := kw_b d.k b hb; show _ ≠ 32; omega)
 have p2 : ∀ b ∈ decN n, b ≠ 32 := fun b hb => ne_of_nat (by have := q3 b hb; show _ ≠ 32; omega)
 have es : s = kwT d.k ++ 32 :: (decN n ++ (if d.k = 1 then [] else 32 :: d.t)) := by rw [← e, deedT, if_pos hk, hln]
 have c1 : (Lib.cut s [32]).2.1 = decN n ++ (if d.k = 1 then [] else 32 :: d.t) := by rw [es, lib_cut_at p1]
 refine ⟨?_, ?_, by rw [hln, hl]; exact atoi_dec hn, h1, e⟩
 ·rw [c1, hln]
  by_cases e1 : d.k = 1
  ·rw [if_pos e1, List.append_nil, lib_cut_no p2]
  ·rw [if_neg e1, lib_cut_at p2]
 ·rw [c1]
  by_cases e1 : d.k = 1
  ·rw [if_pos e1, List.append_nil, lib_cut_no p2]
   rcases h3 with ⟨_, e2⟩ | ⟨e2, _⟩
   ·exact e2.symm
   ·exact absurd e1 e2
  ·rw [if_neg e1, lib_cut_at p2]
theorem atoi_nil : ∀ v, Lib.atoiAll [] ≠ .ok v := fun v h => nomatch h
set_option maxRecDepth 8000 in
theorem implRD_calls [hG : GlobE w0] [hM : GlobM w0] (σ : AHeap) (s : List UInt8) (hl : s.length ≤ 1048576) : ACall Tryd.prog w0 10 [.string (tx s)] σ fun r σ' => r = .tuple #[ddA (rdP s).1, .bool (rdP s).2] ∧ σ' = σ := by
 have hl1 := (lib_cut_len s [32]).2
 have hl2 := lib_cut_len (Lib.cut s [32]).2.1 [32]
 have hsome := fun d (h : readO s = some d) => rd_some h
 have cut1 := fun (τ : AHeap) => libCut_calls (w0 := w0) τ s [32] (by omega)
 have cut2 := fun (τ : AHeap) => libCut_calls (w0 := w0) τ (Lib.cut s [32]).2.1 [32] (by omega)
 generalize (Lib.cut (Lib.cut s [32]).2.1 [32]).2.2 = b2 at cut2
 have hnil : s = [] → (Lib.cut (Lib.cut s [32]).2.1 [32]).1 = [] := fun e => by subst e; rfl
 generalize hq1 : (Lib.cut (Lib.cut s [32]).2.1 [32]).1 = line at cut2 hl2 hsome hnil
 generalize (Lib.cut (Lib.cut s [32]).2.1 [32]).2.1 = num at cut2 hl2 hsome
 clear hq1
 generalize (Lib.cut s [32]).2.1 = rest at cut1 cut2 hl1 hl2
 generalize (Lib.cut s [32]).1 = word at cut1
 generalize (Lib.cut s [32]).2.2 = b1 at cut1
 refine acall_goc mixed Tryd.func10 rfl goodc10 fun pr => ?_
 simp -implicitDefEqProofs (disch := omega) only [Nat.reduceEqDiff, ↓reduceIte, vcu, ↓vcd]
 refine r_new ze24 fun c2 τ1 n2 s1 e2 => ?_
 replace e2 : τ1 c2 = some ⟨[.int .i64 0, .int .i64 0, .string (tx [])], false⟩ := e2
 simp -implicitDefEqProofs (disch := omega) only [Nat.reduceEqDiff, ↓reduceIte, vcu, ↓vcd]
 refine (cut1 τ1).mono ?_
 rintro _ _ ⟨rfl, rfl⟩
 rename_i τ1
 simp -implicitDefEqProofs (disch := omega) only [Nat.reduceEqDiff, ↓reduceIte, vcu, ↓vcd, opK_some, List.getElem?_toArray, List.getElem?_cons_zero, List.getElem?_cons_succ]
 refine (cut2 τ1).mono ?_
 rintro _ _ ⟨rfl, rfl⟩
 rename_i τ1
 simp -implicitDefEqProofs (disch := omega) only [Nat.reduceEqDiff, ↓reduceIte, vcu, ↓vcd, opK_some, List.getElem?_toArray, List.getElem?_cons_zero, List.getElem?_cons_succ]
 refine (atoi_calls τ1 line (by omega)).mono ?_
 rintro _ _ ⟨⟨v, hv, rfl⟩ | ⟨hno, z, rfl⟩, rfl⟩
 ·rename_i τ1
  simp -implicitDefEqProofs (disch := omega) only [Nat.reduceEqDiff, ↓reduceIte, vcu, ↓vcd, opK_some, List.getElem?_toArray, List.getElem?_cons_zero, List.getElem?_cons_succ]
  refine r_nilIf Tryd.underlying58 (.inl ⟨by simp -implicitDefEqProofs (disch := omega) only [Nat.reduceEqDiff, ↓reduceIte, vcu, ↓vcd], ?_⟩)
  simp -implicitDefEqProofs (disch := omega) only [Nat.reduceEqDiff, ↓reduceIte, vcu, ↓vcd]
  refine r_lit el54 (out := #[.int .i64 0, .int .i64 1, .int .i64 2]) (by first | kernel_rfl | (simp -implicitDefEqProofs (disch := omega) only [Nat.reduceEqDiff, ↓reduceIte, vcu, ↓vcd]; kernel_rfl)) (by rfl) fun e35 τ2 n35 s2 w35 => ?_
  replace w35 : τ2 e35 = some ⟨ints .i64 [0, 1, 2], false⟩ := w35
  have hrow := intsAt_own w35
  have hne : s ≠ [] := fun e => by rw [hnil e] at hv; exact atoi_nil v hv
  simp -implicitDefEqProofs (disch := omega) only [Nat.reduceEqDiff, ↓reduceIte, vcu, ↓vcd]
  refine vc_loop_c mixed (by kernel_rfl) [0, 2, 8, 10, 35, 36] (fun m a τ => ∃ k : Nat, m + k = 3 ∧ a 37 = .int .i64 k ∧ (∀ j : Nat, j < k → deedT ⟨j, v, num⟩ ≠ s) ∧ Sub τ2 τ) 3 ⟨0, by simp, rfl, fun j hj => absurd hj (by omega), Sub.refl _⟩ ?_
  rintro m a τ hc ⟨k, hk, h37, hup, hT⟩
  simp -implicitDefEqProofs (disch := omega) only [Nat.reduceEqDiff, ↓reduceIte, vcu, ↓vcd] at hc
  obtain ⟨h0, h2, h8, h10, h35, h36, -⟩ := hc
  by_cases hlt : k < 3
  case neg =>
   have hr : readO s = none := by
    cases hq : readO s with
    | none => rfl
    | some d =>
     obtain ⟨q1, q2, q3, q4, q5⟩ := hsome d hq
     rw [q1, q3] at hv
     obtain ⟨K, L, T⟩ := d
     dsimp only at q2 hv q4
     have hv2 : L = v := by injection hv
     subst hv2 q2
     refine absurd q5 ?_
     have := hup K.toNat (by omega)
     rwa [show ((K.toNat : Nat) : Int) = K by omega] at this
   have hP : rdP s = (⟨0, 0, []⟩, false) := by unfold rdP; rw [hr]
   simp -implicitDefEqProofs (disch := omega) only [Nat.reduceEqDiff, ↓reduceIte, vcu, ↓vcd, h0, h2, h8, h10, h35, h36, h37]
   rw [r_build]
   refine ⟨(_, #[.int .i64 0, .int .i64 0, .string (tx [])]), ⟨ze24, by first | kernel_rfl | (simp -implicitDefEqProofs (disch := omega) only [Nat.reduceEqDiff, ↓reduceIte, vcu, ↓vcd]; kernel_rfl)⟩, ?_⟩
   simp -implicitDefEqProofs (disch := omega) only [Nat.reduceEqDiff, ↓reduceIte, vcu, ↓vcd, h2]
   refine r_sets (g := c2) (i := 0) (C := [.int .i64 0, .int .i64 0, .string (tx [])]) (by simp -implicitDefEqProofs (disch := omega) only [Nat.reduceEqDiff, ↓reduceIte, vcu, ↓vcd, h2]) z9co24 z9r z9z (hT _ _ (s2 _ _ e2)) z9l fun τ8 k8 e8 => ?_
   replace e8 : τ8 c2 = some ⟨[.int .i64 0, .int .i64 0, .string (tx [])], false⟩ := e8
   have l8 : lds τ8 c2 0 3 = some [.int .i64 0, .int .i64 0, .string (tx [])] := lds_three (ld_of e8 rfl) (ld_of e8 rfl) (ld_of e8 rfl)
   simp -implicitDefEqProofs (disch := omega) only [Nat.reduceEqDiff, ↓reduceIte, vcu, ↓vcd, h2]
   refine fin_ct8 Tryd.results10 σ (k8.sub (s1.trans (s2.trans hT)) n2) (v := .agg #[.int .i64 0, .int .i64 0, .string (tx [])]) (by simp -implicitDefEqProofs (disch := omega) only [Nat.reduceEqDiff, ↓reduceIte, vcu, ↓vcd, h2, l8, co24]) ⟨?_, rfl⟩
   simp -implicitDefEqProofs (disch := omega) only [Nat.reduceEqDiff, ↓reduceIte, vcu, ↓vcd]
   rw [hP]; rfl
  have hx := (hrow.sub hT) k (by simpa using hlt)
  have hgk : ([0, 1, 2] : List Int).getD k 0 = k := by
   have : k = 0 ∨ k = 1 ∨ k = 2 := by omega
   rcases this with rfl | rfl | rfl <;> rfl
  rw [hgk] at hx
  have hlen : ([0, 1, 2] : List Int).length = 3 := rfl
  simp -implicitDefEqProofs (disch := omega) only [Nat.reduceEqDiff, ↓reduceIte, vcu, ↓vcd, h0, h2, h8, h10, h35, h36, h37, hx]
  rw [r_build]
  refine ⟨(_, #[.int .i64 k, .int .i64 v, .string (tx num)]), ⟨ze24, by simp -implicitDefEqProofs (disch := omega) only [Nat.reduceEqDiff, ↓reduceIte, vcu, ↓vcd, h0, h2, h8, h10, h35, h36, h37]; kernel_rfl⟩, ?_⟩
  simp -implicitDefEqProofs (disch := omega) only [Nat.reduceEqDiff, ↓reduceIte, vcu, ↓vcd]
  refine r_new ze24 fun c14 τ3 n14 s14 e14 => ?_
  replace e14 : τ3 c14 = some ⟨[.int .i64 0, .int .i64 0, .string (tx [])], false⟩ := e14
  refine r_sets (g := c14) (i := 0) (C := [.int .i64 0, .int .i64 0, .string (tx [])]) z9q z9co24 z9r z9z e14 z9l fun τ4 k4 e4 => ?_
  replace e4 : τ4 c14 = some ⟨[.int .i64 k, .int .i64 v, .string (tx num)], false⟩ := e4
  have S4 : Sub τ2 τ4 := k4.sub (hT.trans s14) (free_sub hT n14)
  have l4 : lds τ4 c14 0 3 = some [.int .i64 k, .int .i64 v, .string (tx num)] := lds_three (ld_of e4 rfl) (ld_of e4 rfl) (ld_of e4 rfl)
  have hdt := implDT_calls (w0 := w0) τ4 ⟨k, v, num⟩ (by dsimp only; omega)
  unfold ddA at hdt
  dsimp only at hdt
  simp -implicitDefEqProofs (disch := omega) only [Nat.reduceEqDiff, ↓reduceIte, vcu, ↓vcd, h0, h2, h8, h10, h35, h36, h37, l4, co24]
  refine hdt.mono ?_
  rintro _ _ ⟨rfl, rfl⟩
  rename_i τ4
  by_cases hE : deedT ⟨k, v, num⟩ = s
  ·have dE : decide (deedT ⟨k, v, num⟩ = s) = true := decide_eq_true hE
   have hP : rdP s = (⟨k, v, num⟩, true) := by unfold rdP; rw [readO_iff.2 ⟨hE, hne⟩]
   simp -implicitDefEqProofs (disch := omega) only [Nat.reduceEqDiff, ↓reduceIte, vcu, ↓vcd, opK_some, h0, h2, h8, h10, h35, h36, h37, abin_seql, dE, l4, co24]
   refine r_sets (g := c2) (i := 0) (C := [.int .i64 0, .int .i64 0, .string (tx [])]) (by simp -implicitDefEqProofs (disch := omega) only [Nat.reduceEqDiff, ↓reduceIte, vcu, ↓vcd, h2]) z9co24 z9r z9z (S4 _ _ (s2 _ _ e2)) z9l fun τ8 k8 e8 => ?_
   replace e8 : τ8 c2 = some ⟨[.int .i64 k, .int .i64 v, .string (tx num)], false⟩ := e8
   have l8 : lds τ8 c2 0 3 = some [.int .i64 k, .int .i64 v, .string (tx num)] := lds_three (ld_of e8 rfl) (ld_of e8 rfl) (ld_of e8 rfl)
   simp -implicitDefEqProofs (disch := omega) only [Nat.reduceEqDiff, ↓reduceIte, vcu, ↓vcd, h2]
   refine fin_ct8 Tryd.results10 σ (k8.sub (s1.trans (s2.trans S4)) n2) (v := .agg #[.int .i64 k, .int .i64 v, .string (tx num)]) (by simp -implicitDefEqProofs (disch := omega) only [Nat.reduceEqDiff, ↓reduceIte, vcu, ↓vcd, h2, l8, co24]) ⟨?_, rfl⟩
   simp -implicitDefEqProofs (disch := omega) only [Nat.reduceEqDiff, ↓reduceIte, vcu, ↓vcd]
   rw [hP]; rfl
  ·have dE : decide (deedT ⟨k, v, num⟩ = s) = false := decide_eq_false hE
   simp -implicitDefEqProofs (disch := omega) only [Nat.reduceEqDiff, ↓reduceIte, vcu, ↓vcd, opK_some, h0, h2, h8, h10, h35, h36, h37, abin_seql, dE]
   refine ⟨⟨?_, ?_, ?_, ?_, ?_, ?_, trivial⟩, m - 1, by omega, k + 1, by omega, by simp, fun j hj => ?_, S4⟩
   ·first | trivial | exact h0.symm
   ·first | trivial | exact h2.symm
   ·first | trivial | exact h8.symm
   ·first | trivial | exact h10.symm
   ·first | trivial | exact h35.symm
   ·first | trivial | exact h36.symm
   ·by_cases e : j = k
    ·subst e; exact hE
    ·exact hup j (by omega)
 ·rename_i τ1
  have hr : readO s = none := by
   cases hq : readO s with
   | none => rfl
   | some d =>
    obtain ⟨q1, q2, q3, q4, q5⟩ := hsome d hq
    rw [q1] at hno
    exact absurd q3 (hno _)
  have hP : rdP s = (⟨0, 0, []⟩, false) := by unfold rdP; rw [hr]
  simp -implicitDefEqProofs (disch := omega) only [Nat.reduceEqDiff, ↓reduceIte, vcu, ↓vcd, opK_some, List.getElem?_toArray, List.getElem?_cons_zero, List.getElem?_cons_succ]
  refine r_nilIf Tryd.underlying58 (.inr ⟨⟨_, _, by simp -implicitDefEqProofs (disch := omega) only [Nat.reduceEqDiff, ↓reduceIte, vcu, ↓vcd]; rfl⟩, ?_⟩)
  simp -implicitDefEqProofs (disch := omega) only [Nat.reduceEqDiff, ↓reduceIte, vcu, ↓vcd]
  rw [r_build]
  refine ⟨(_, #[.int .i64 0, .int .i64 0, .string (tx [])]), ⟨ze24, by first | kernel_rfl | (simp -implicitDefEqProofs (disch := omega) only [Nat.reduceEqDiff, ↓reduceIte, vcu, ↓vcd]; kernel_rfl)⟩, ?_⟩
  simp -implicitDefEqProofs (disch := omega) only [Nat.reduceEqDiff, ↓reduceIte, vcu, ↓vcd]
  refine r_sets (g := c2) (i := 0) (C := [.int .i64 0, .int .i64 0, .string (tx [])]) z9q z9co24 z9r z9z e2 z9l fun τ8 k8 e8 => ?_
  replace e8 : τ8 c2 = some ⟨[.int .i64 0, .int .i64 0, .string (tx [])], false⟩ := e8
  have l8 : lds τ8 c2 0 3 = some [.int .i64 0, .int .i64 0, .string (tx [])] := lds_three (ld_of e8 rfl) (ld_of e8 rfl) (ld_of e8 rfl)
  simp -implicitDefEqProofs (disch := omega) only [Nat.reduceEqDiff, ↓reduceIte, vcu, ↓vcd]
  refine fin_ct8 Tryd.results10 σ (k8.sub s1 n2) (v := .agg #[.int .i64 0, .int .i64 0, .string (tx [])]) (by simp -implicitDefEqProofs (disch := omega) only [Nat.reduceEqDiff, ↓reduceIte, vcu, ↓vcd, l8, co24]) ⟨?_, rfl⟩
  simp -implicitDefEqProofs (disch := omega) only [Nat.reduceEqDiff, ↓reduceIte, vcu, ↓vcd]
  rw [hP]; rfl
end Go.Proofs.YtofdnmlpfagibaaDoor
