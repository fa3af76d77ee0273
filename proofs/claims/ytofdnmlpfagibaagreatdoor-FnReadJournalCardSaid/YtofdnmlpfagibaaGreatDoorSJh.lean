/- Parts. -/
import Derived.Test.YtofdnmlpfagibaaGreatDoorSJg
import Derived.Shelf.Strings.Builder1
import Derived.Shelf.Strings.Builder2
import Derived.Shelf.Strings.OnBuilder
import Derived.Shelf.Strings.BuilderF
import Derived.Shelf.Strconv.Atoi
import Derived.Shelf.Strconv.Itoa0
import Derived.Shelf.Strconv.Itoa1
import Derived.Shelf.LaysM
import Derived.Shelf.Strconv.Itoa2
import Derived.Shelf.Strconv.Itoa3
import Derived.Shelf.Strconv.AtoiErrFast
import Derived.Shelf.Strconv.ParseIntEmpty
import Derived.Shelf.Strconv.AtoiFail
import Derived.Shelf.Strconv.Clone
import Derived.Shelf.Strconv.SyntaxError
import Derived.Shelf.LaysC
import Derived.Shelf.Strconv.ToError
import Derived.Shelf.Strconv.Lower
import Derived.Shelf.Strconv.ParseUint10
import Derived.Shelf.Strconv.ParseUint10Empty
import Derived.Shelf.Strconv.ParseUint10Any
import Derived.Shelf.Strconv.ParseInt10
import Derived.Shelf.Strconv.AtoiLong
import Derived.Shelf.Strconv.AtoiInnerAll
import Derived.Shelf.Strconv.RangeError
import Derived.Shelf.Strconv.ToErrorRange
import Derived.Shelf.Strconv.AtoiAll
import Derived.Shelf.Strconv.ErrVarAll
import Derived.Shelf.Strings.Search1
import Derived.Shelf.Strings.Search2
import Derived.Shelf.Strings.Cut
import Derived.Shelf.Strings.Shaped
import Derived.Ground.Names2Prog
import Derived.Shelf.Slices.Clone
import Derived.Ground.SlgnProg
import Derived.Shelf.SlicesE.Clone
import Derived.Test.YtofdnmlpfagibaaGreatDoorProg
set_option linter.unusedSimpArgs false
set_option linter.unusedVariables false
set_option linter.unusedSectionVars false
namespace Go.Proofs
open Go.Shelf
def Tryz.lays156_ren:Go.Shelf.Ren:=⟨fun|156=>82|165=>109|166=>46|169=>47|240=>94|241=>134|276=>115|277=>153|n=>n,fun|31=>30|9=>9|3=>3|4=>4|0=>0|20=>20|72=>80|76=>83|70=>78|37=>22|75=>82|127=>123|164=>139|5=>5|80=>85|n=>n,fun|n=>n⟩
theorem Tryz.lays156:Go.Proofs.Lays.n156 Tryz.prog Tryz.lays156_ren:={
 mixed:=by kernel_rfl
 f156:=Tryz.func82.trans (congrArg some kr9)
 f165:=Tryz.func109.trans (congrArg some kr9)
 f166:=Tryz.func46.trans (congrArg some kr9)
 f169:=Tryz.func47.trans (congrArg some kr9)
 f240:=Tryz.func94.trans (congrArg some kr9)
 f241:=Tryz.func134.trans (congrArg some kr9)
 f276:=Tryz.func115.trans (congrArg some kr9)
 f277:=Tryz.func153.trans (congrArg some kr9)
 t0:=Tryz.underlying0
 a0:=Tryz.isAgg0
 z0:=Tryz.sizeOf0
 v0:=Tryz.zeroValue0
 t3:=Tryz.underlying3
 a3:=Tryz.isAgg3
 z3:=Tryz.sizeOf3
 v3:=Tryz.zeroValue3
 t4:=Tryz.underlying4
 a4:=Tryz.isAgg4
 z4:=Tryz.sizeOf4
 v4:=Tryz.zeroValue4
 t9:=Tryz.underlying9
 a9:=Tryz.isAgg9
 z9:=Tryz.sizeOf9
 v9:=Tryz.zeroValue9
 t20:=Tryz.underlying20
 a20:=Tryz.isAgg20
 z20:=Tryz.sizeOf20
 v20:=Tryz.zeroValue20
 t31:=Tryz.underlying30
 a31:=Tryz.isAgg30
 z31:=Tryz.sizeOf30
 v31:=Tryz.zeroValue30
 t37:=Tryz.underlying22
 a37:=Tryz.isAgg22
 z37:=Tryz.sizeOf22
 v37:=Tryz.zeroValue22
 t70:=Tryz.underlying78
 a70:=Tryz.isAgg78
 z70:=Tryz.sizeOf78
 v70:=Tryz.zeroValue78
 t72:=Tryz.underlying80
 a72:=Tryz.isAgg80
 z72:=Tryz.sizeOf80
 v72:=Tryz.zeroValue80
 t75:=Tryz.underlying82
 a75:=Tryz.isAgg82
 z75:=Tryz.sizeOf82
 v75:=Tryz.zeroValue82
 t76:=Tryz.underlying83
 a76:=Tryz.isAgg83
 z76:=Tryz.sizeOf83
 v76:=Tryz.zeroValue83
 t127:=Tryz.underlying123
 a127:=Tryz.isAgg123
 z127:=Tryz.sizeOf123
 v127:=Tryz.zeroValue123
 t164:=Tryz.underlying139
 a164:=Tryz.isAgg139
 z164:=Tryz.sizeOf139
 v164:=Tryz.zeroValue139 }
theorem Tryz.Builder_Extra_156:Builder.Extra Tryz.prog Tryz.lays156_ren:={
 sizeBuilder:=by kernel_rfl
 liesBuilder:=by kernel_rfl
 t5:=Tryz.underlying5
 a5:=Tryz.isAgg5
 z5:=Tryz.sizeOf5
 v5:=Tryz.zeroValue5
 infoByte:=by kernel_rfl
 cellsByte:=by kernel_rfl
 sizeByte:=by kernel_rfl
 neB5:=by decide }
def Tryz.laysM171_ren:Go.Shelf.Ren:=⟨fun|171=>43|243=>87|246=>111|283=>136|284=>137|285=>138|286=>139|129=>155|317=>154|318=>156|319=>157|320=>158|337=>164|338=>165|n=>n,fun|3=>3|9=>9|2=>2|4=>4|171=>154|0=>0|53=>155|37=>22|5=>5|173=>158|212=>173|51=>163|20=>20|213=>174|46=>147|232=>181|233=>182|n=>n,fun|17=>3|18=>4|19=>5|n=>n⟩
theorem Tryz.laysM171:Go.Proofs.LaysM.n171 Tryz.prog Tryz.laysM171_ren:={
 mixed:=by kernel_rfl
 f129:=Tryz.func155.trans (congrArg some kr9)
 f171:=Tryz.func43.trans (congrArg some kr9)
 f243:=Tryz.func87.trans (congrArg some kr9)
 f246:=Tryz.func111.trans (congrArg some kr9)
 f283:=Tryz.func136.trans (congrArg some kr9)
 f284:=Tryz.func137.trans (congrArg some kr9)
 f285:=Tryz.func138.trans (congrArg some kr9)
 f286:=Tryz.func139.trans (congrArg some kr9)
 f317:=Tryz.func154.trans (congrArg some kr9)
 f318:=Tryz.func156.trans (congrArg some kr9)
 f319:=Tryz.func157.trans (congrArg some kr9)
 f320:=Tryz.func158.trans (congrArg some kr9)
 f337:=Tryz.func164.trans (congrArg some kr9)
 f338:=Tryz.func165.trans (congrArg some kr9)
 t0:=Tryz.underlying0
 a0:=Tryz.isAgg0
 z0:=Tryz.sizeOf0
 v0:=Tryz.zeroValue0
 t2:=Tryz.underlying2
 a2:=Tryz.isAgg2
 z2:=Tryz.sizeOf2
 v2:=Tryz.zeroValue2
 t3:=Tryz.underlying3
 a3:=Tryz.isAgg3
 z3:=Tryz.sizeOf3
 v3:=Tryz.zeroValue3
 t4:=Tryz.underlying4
 a4:=Tryz.isAgg4
 z4:=Tryz.sizeOf4
 v4:=Tryz.zeroValue4
 t5:=Tryz.underlying5
 a5:=Tryz.isAgg5
 z5:=Tryz.sizeOf5
 v5:=Tryz.zeroValue5
 t9:=Tryz.underlying9
 a9:=Tryz.isAgg9
 z9:=Tryz.sizeOf9
 v9:=Tryz.zeroValue9
 t20:=Tryz.underlying20
 a20:=Tryz.isAgg20
 z20:=Tryz.sizeOf20
 v20:=Tryz.zeroValue20
 t37:=Tryz.underlying22
 a37:=Tryz.isAgg22
 z37:=Tryz.sizeOf22
 v37:=Tryz.zeroValue22
 t46:=Tryz.underlying147
 a46:=Tryz.isAgg147
 z46:=Tryz.sizeOf147
 v46:=Tryz.zeroValue147
 t51:=Tryz.underlying163
 a51:=Tryz.isAgg163
 z51:=Tryz.sizeOf163
 v51:=Tryz.zeroValue163
 t53:=Tryz.underlying155
 a53:=Tryz.isAgg155
 z53:=Tryz.sizeOf155
 v53:=Tryz.zeroValue155
 t171:=Tryz.underlying154
 a171:=Tryz.isAgg154
 z171:=Tryz.sizeOf154
 v171:=Tryz.zeroValue154
 t173:=Tryz.underlying158
 a173:=Tryz.isAgg158
 z173:=Tryz.sizeOf158
 v173:=Tryz.zeroValue158
 t212:=Tryz.underlying173
 a212:=Tryz.isAgg173
 z212:=Tryz.sizeOf173
 v212:=Tryz.zeroValue173
 t213:=Tryz.underlying174
 a213:=Tryz.isAgg174
 z213:=Tryz.sizeOf174
 t232:=Tryz.underlying181
 a232:=Tryz.isAgg181
 z232:=Tryz.sizeOf181
 v232:=Tryz.zeroValue181
 t233:=Tryz.underlying182
 a233:=Tryz.isAgg182
 z233:=Tryz.sizeOf182
 v233:=Tryz.zeroValue182
 g17:=by kernel_rfl
 g18:=by kernel_rfl
 g19:=by kernel_rfl
 i0:=by kernel_rfl
 i2:=by kernel_rfl
 i3:=by kernel_rfl
 i4:=by kernel_rfl
 i5:=by kernel_rfl
 i9:=by kernel_rfl
 i20:=by kernel_rfl
 i37:=by kernel_rfl
 i46:=by kernel_rfl
 i51:=by kernel_rfl
 i53:=by kernel_rfl
 i171:=by kernel_rfl
 i173:=by kernel_rfl
 i212:=by kernel_rfl
 i232:=by kernel_rfl
 i233:=by kernel_rfl
 m17:=by kernel_rfl
 m18:=by kernel_rfl
 m19:=by kernel_rfl }
def Tryz.lays171_ren:Go.Shelf.Ren:=⟨fun|171=>43|243=>87|246=>111|283=>136|284=>137|285=>138|286=>139|129=>155|317=>154|318=>156|319=>157|320=>158|337=>164|338=>165|n=>n,fun|3=>3|9=>9|2=>2|4=>4|171=>154|0=>0|53=>155|37=>22|5=>5|173=>158|212=>173|51=>163|20=>20|213=>174|46=>147|232=>181|233=>182|n=>n,fun|17=>3|18=>4|19=>5|n=>n⟩
theorem Tryz.lays171:Go.Proofs.Lays.n171 Tryz.prog Tryz.lays171_ren:={
 mixed:=by kernel_rfl
 f129:=Tryz.func155.trans (congrArg some kr9)
 f171:=Tryz.func43.trans (congrArg some kr9)
 f243:=Tryz.func87.trans (congrArg some kr9)
 f246:=Tryz.func111.trans (congrArg some kr9)
 f283:=Tryz.func136.trans (congrArg some kr9)
 f284:=Tryz.func137.trans (congrArg some kr9)
 f285:=Tryz.func138.trans (congrArg some kr9)
 f286:=Tryz.func139.trans (congrArg some kr9)
 f317:=Tryz.func154.trans (congrArg some kr9)
 f318:=Tryz.func156.trans (congrArg some kr9)
 f319:=Tryz.func157.trans (congrArg some kr9)
 f320:=Tryz.func158.trans (congrArg some kr9)
 f337:=Tryz.func164.trans (congrArg some kr9)
 f338:=Tryz.func165.trans (congrArg some kr9)
 t0:=Tryz.underlying0
 a0:=Tryz.isAgg0
 z0:=Tryz.sizeOf0
 v0:=Tryz.zeroValue0
 t2:=Tryz.underlying2
 a2:=Tryz.isAgg2
 z2:=Tryz.sizeOf2
 v2:=Tryz.zeroValue2
 t3:=Tryz.underlying3
 a3:=Tryz.isAgg3
 z3:=Tryz.sizeOf3
 v3:=Tryz.zeroValue3
 t4:=Tryz.underlying4
 a4:=Tryz.isAgg4
 z4:=Tryz.sizeOf4
 v4:=Tryz.zeroValue4
 t5:=Tryz.underlying5
 a5:=Tryz.isAgg5
 z5:=Tryz.sizeOf5
 v5:=Tryz.zeroValue5
 t9:=Tryz.underlying9
 a9:=Tryz.isAgg9
 z9:=Tryz.sizeOf9
 v9:=Tryz.zeroValue9
 t20:=Tryz.underlying20
 a20:=Tryz.isAgg20
 z20:=Tryz.sizeOf20
 v20:=Tryz.zeroValue20
 t37:=Tryz.underlying22
 a37:=Tryz.isAgg22
 z37:=Tryz.sizeOf22
 v37:=Tryz.zeroValue22
 t46:=Tryz.underlying147
 a46:=Tryz.isAgg147
 z46:=Tryz.sizeOf147
 v46:=Tryz.zeroValue147
 t51:=Tryz.underlying163
 a51:=Tryz.isAgg163
 z51:=Tryz.sizeOf163
 v51:=Tryz.zeroValue163
 t53:=Tryz.underlying155
 a53:=Tryz.isAgg155
 z53:=Tryz.sizeOf155
 v53:=Tryz.zeroValue155
 t171:=Tryz.underlying154
 a171:=Tryz.isAgg154
 z171:=Tryz.sizeOf154
 v171:=Tryz.zeroValue154
 t173:=Tryz.underlying158
 a173:=Tryz.isAgg158
 z173:=Tryz.sizeOf158
 v173:=Tryz.zeroValue158
 t212:=Tryz.underlying173
 a212:=Tryz.isAgg173
 z212:=Tryz.sizeOf173
 v212:=Tryz.zeroValue173
 t213:=Tryz.underlying174
 a213:=Tryz.isAgg174
 z213:=Tryz.sizeOf174
 t232:=Tryz.underlying181
 a232:=Tryz.isAgg181
 z232:=Tryz.sizeOf181
 v232:=Tryz.zeroValue181
 t233:=Tryz.underlying182
 a233:=Tryz.isAgg182
 z233:=Tryz.sizeOf182
 v233:=Tryz.zeroValue182
 g17:=by kernel_rfl
 g18:=by kernel_rfl
 g19:=by kernel_rfl }
def Tryz.laysC172_ren:Go.Shelf.Ren:=⟨fun|172=>69|244=>102|245=>103|247=>129|279=>130|280=>131|281=>132|282=>133|287=>150|316=>151|171=>43|205=>152|321=>162|322=>163|243=>87|246=>111|283=>136|284=>137|285=>138|286=>139|129=>155|317=>154|318=>156|319=>157|320=>158|337=>164|338=>165|n=>n,fun|9=>9|3=>3|75=>82|76=>83|4=>4|5=>5|167=>148|37=>22|0=>0|85=>149|2=>2|168=>151|53=>155|175=>166|46=>147|210=>169|127=>123|145=>179|143=>177|21=>21|171=>154|173=>158|212=>173|51=>163|20=>20|213=>174|232=>181|233=>182|80=>85|n=>n,fun|15=>1|16=>2|17=>3|18=>4|19=>5|n=>n⟩
theorem Tryz.laysC172:Go.Proofs.LaysC.n172 Tryz.prog Tryz.laysC172_ren:={
 mixed:=by kernel_rfl
 f129:=Tryz.func155.trans (congrArg some kr9)
 f171:=Tryz.func43.trans (congrArg some kr9)
 f172:=Tryz.func69.trans (congrArg some kr9)
 f205:=Tryz.func152.trans (congrArg some kr9)
 f243:=Tryz.func87.trans (congrArg some kr9)
 f244:=Tryz.func102.trans (congrArg some kr9)
 f245:=Tryz.func103.trans (congrArg some kr9)
 f246:=Tryz.func111.trans (congrArg some kr9)
 f247:=Tryz.func129.trans (congrArg some kr9)
 f279:=Tryz.func130.trans (congrArg some kr9)
 f280:=Tryz.func131.trans (congrArg some kr9)
 f281:=Tryz.func132.trans (congrArg some kr9)
 f282:=Tryz.func133.trans (congrArg some kr9)
 f283:=Tryz.func136.trans (congrArg some kr9)
 f284:=Tryz.func137.trans (congrArg some kr9)
 f285:=Tryz.func138.trans (congrArg some kr9)
 f286:=Tryz.func139.trans (congrArg some kr9)
 f287:=Tryz.func150.trans (congrArg some kr9)
 f316:=Tryz.func151.trans (congrArg some kr9)
 f317:=Tryz.func154.trans (congrArg some kr9)
 f318:=Tryz.func156.trans (congrArg some kr9)
 f319:=Tryz.func157.trans (congrArg some kr9)
 f320:=Tryz.func158.trans (congrArg some kr9)
 f321:=Tryz.func162.trans (congrArg some kr9)
 f322:=Tryz.func163.trans (congrArg some kr9)
 f337:=Tryz.func164.trans (congrArg some kr9)
 f338:=Tryz.func165.trans (congrArg some kr9)
 t0:=Tryz.underlying0
 a0:=Tryz.isAgg0
 z0:=Tryz.sizeOf0
 v0:=Tryz.zeroValue0
 t2:=Tryz.underlying2
 a2:=Tryz.isAgg2
 z2:=Tryz.sizeOf2
 v2:=Tryz.zeroValue2
 t3:=Tryz.underlying3
 a3:=Tryz.isAgg3
 z3:=Tryz.sizeOf3
 v3:=Tryz.zeroValue3
 t4:=Tryz.underlying4
 a4:=Tryz.isAgg4
 z4:=Tryz.sizeOf4
 v4:=Tryz.zeroValue4
 t5:=Tryz.underlying5
 a5:=Tryz.isAgg5
 z5:=Tryz.sizeOf5
 v5:=Tryz.zeroValue5
 t9:=Tryz.underlying9
 a9:=Tryz.isAgg9
 z9:=Tryz.sizeOf9
 v9:=Tryz.zeroValue9
 t20:=Tryz.underlying20
 a20:=Tryz.isAgg20
 z20:=Tryz.sizeOf20
 v20:=Tryz.zeroValue20
 t21:=Tryz.underlying21
 a21:=Tryz.isAgg21
 z21:=Tryz.sizeOf21
 v21:=Tryz.zeroValue21
 t37:=Tryz.underlying22
 a37:=Tryz.isAgg22
 z37:=Tryz.sizeOf22
 v37:=Tryz.zeroValue22
 t46:=Tryz.underlying147
 a46:=Tryz.isAgg147
 z46:=Tryz.sizeOf147
 v46:=Tryz.zeroValue147
 t51:=Tryz.underlying163
 a51:=Tryz.isAgg163
 z51:=Tryz.sizeOf163
 v51:=Tryz.zeroValue163
 t53:=Tryz.underlying155
 a53:=Tryz.isAgg155
 z53:=Tryz.sizeOf155
 v53:=Tryz.zeroValue155
 t75:=Tryz.underlying82
 a75:=Tryz.isAgg82
 z75:=Tryz.sizeOf82
 v75:=Tryz.zeroValue82
 t76:=Tryz.underlying83
 a76:=Tryz.isAgg83
 z76:=Tryz.sizeOf83
 v76:=Tryz.zeroValue83
 t85:=Tryz.underlying149
 a85:=Tryz.isAgg149
 z85:=Tryz.sizeOf149
 v85:=Tryz.zeroValue149
 t127:=Tryz.underlying123
 a127:=Tryz.isAgg123
 z127:=Tryz.sizeOf123
 v127:=Tryz.zeroValue123
 t143:=Tryz.underlying177
 a143:=Tryz.isAgg177
 z143:=Tryz.sizeOf177
 v143:=Tryz.zeroValue177
 t145:=Tryz.underlying179
 a145:=Tryz.isAgg179
 z145:=Tryz.sizeOf179
 v145:=Tryz.zeroValue179
 t167:=Tryz.underlying148
 a167:=Tryz.isAgg148
 z167:=Tryz.sizeOf148
 v167:=Tryz.zeroValue148
 t168:=Tryz.underlying151
 a168:=Tryz.isAgg151
 z168:=Tryz.sizeOf151
 v168:=Tryz.zeroValue151
 t171:=Tryz.underlying154
 a171:=Tryz.isAgg154
 z171:=Tryz.sizeOf154
 v171:=Tryz.zeroValue154
 t173:=Tryz.underlying158
 a173:=Tryz.isAgg158
 z173:=Tryz.sizeOf158
 v173:=Tryz.zeroValue158
 t175:=Tryz.underlying166
 a175:=Tryz.isAgg166
 z175:=Tryz.sizeOf166
 v175:=Tryz.zeroValue166
 t210:=Tryz.underlying169
 a210:=Tryz.isAgg169
 z210:=Tryz.sizeOf169
 v210:=Tryz.zeroValue169
 t212:=Tryz.underlying173
 a212:=Tryz.isAgg173
 z212:=Tryz.sizeOf173
 v212:=Tryz.zeroValue173
 t213:=Tryz.underlying174
 a213:=Tryz.isAgg174
 z213:=Tryz.sizeOf174
 t232:=Tryz.underlying181
 a232:=Tryz.isAgg181
 z232:=Tryz.sizeOf181
 v232:=Tryz.zeroValue181
 t233:=Tryz.underlying182
 a233:=Tryz.isAgg182
 z233:=Tryz.sizeOf182
 v233:=Tryz.zeroValue182
 g15:=by kernel_rfl
 g16:=by kernel_rfl
 g17:=by kernel_rfl
 g18:=by kernel_rfl
 g19:=by kernel_rfl
 t80:=Tryz.underlying85
 a80:=Tryz.isAgg85
 z80:=Tryz.sizeOf85
 v80:=Tryz.zeroValue85
 i0:=by kernel_rfl
 i2:=by kernel_rfl
 i3:=by kernel_rfl
 i4:=by kernel_rfl
 i5:=by kernel_rfl
 i9:=by kernel_rfl
 i20:=by kernel_rfl
 i21:=by kernel_rfl
 i37:=by kernel_rfl
 i46:=by kernel_rfl
 i51:=by kernel_rfl
 i53:=by kernel_rfl
 i75:=by kernel_rfl
 i76:=by kernel_rfl
 i80:=by kernel_rfl
 i85:=by kernel_rfl
 i127:=by kernel_rfl
 i143:=by kernel_rfl
 i145:=by kernel_rfl
 i167:=by kernel_rfl
 i168:=by kernel_rfl
 i171:=by kernel_rfl
 i173:=by kernel_rfl
 i175:=by kernel_rfl
 i210:=by kernel_rfl
 i212:=by kernel_rfl
 i232:=by kernel_rfl
 i233:=by kernel_rfl
 m15:=by kernel_rfl
 m16:=by kernel_rfl
 m17:=by kernel_rfl
 m18:=by kernel_rfl
 m19:=by kernel_rfl
 c0:=by kernel_rfl
 c2:=by kernel_rfl
 c3:=by kernel_rfl
 c4:=by kernel_rfl
 c5:=by kernel_rfl
 c9:=by kernel_rfl
 c20:=by kernel_rfl
 c21:=by kernel_rfl
 c37:=by kernel_rfl
 c46:=by kernel_rfl
 c51:=by kernel_rfl
 c53:=by kernel_rfl
 c75:=by kernel_rfl
 c76:=by kernel_rfl
 c80:=by kernel_rfl
 c85:=by kernel_rfl
 c127:=by kernel_rfl
 c143:=by kernel_rfl
 c145:=by kernel_rfl
 c167:=by kernel_rfl
 c168:=by kernel_rfl
 c171:=by kernel_rfl
 c173:=by kernel_rfl
 c175:=by kernel_rfl
 c210:=by kernel_rfl
 c212:=by kernel_rfl
 c213:=by kernel_rfl
 c232:=by kernel_rfl
 c233:=by kernel_rfl }
def Tryz.lays145_ren:Go.Shelf.Ren:=⟨fun|145=>31|220=>68|219=>101|217=>125|225=>126|224=>127|267=>128|266=>148|314=>149|n=>n,fun|9=>9|4=>4|59=>59|3=>3|5=>5|46=>147|146=>164|51=>163|n=>n,fun|1=>0|n=>n⟩
theorem Tryz.lays145:Go.Proofs.Lays.n145 Tryz.prog Tryz.lays145_ren:={
 mixed:=by kernel_rfl
 f145:=Tryz.func31.trans (congrArg some kr9)
 f217:=Tryz.func125.trans (congrArg some kr9)
 f219:=Tryz.func101.trans (congrArg some kr9)
 f220:=Tryz.func68.trans (congrArg some kr9)
 f224:=Tryz.func127.trans (congrArg some kr9)
 f225:=Tryz.func126.trans (congrArg some kr9)
 f266:=Tryz.func148.trans (congrArg some kr9)
 f267:=Tryz.func128.trans (congrArg some kr9)
 f314:=Tryz.func149.trans (congrArg some kr9)
 t3:=Tryz.underlying3
 a3:=Tryz.isAgg3
 z3:=Tryz.sizeOf3
 v3:=Tryz.zeroValue3
 t4:=Tryz.underlying4
 a4:=Tryz.isAgg4
 z4:=Tryz.sizeOf4
 v4:=Tryz.zeroValue4
 t5:=Tryz.underlying5
 a5:=Tryz.isAgg5
 z5:=Tryz.sizeOf5
 v5:=Tryz.zeroValue5
 t9:=Tryz.underlying9
 a9:=Tryz.isAgg9
 z9:=Tryz.sizeOf9
 v9:=Tryz.zeroValue9
 t46:=Tryz.underlying147
 a46:=Tryz.isAgg147
 z46:=Tryz.sizeOf147
 v46:=Tryz.zeroValue147
 t51:=Tryz.underlying163
 a51:=Tryz.isAgg163
 z51:=Tryz.sizeOf163
 v51:=Tryz.zeroValue163
 t59:=Tryz.underlying59
 a59:=Tryz.isAgg59
 z59:=Tryz.sizeOf59
 v59:=Tryz.zeroValue59
 t146:=Tryz.underlying164
 a146:=Tryz.isAgg164
 z146:=Tryz.sizeOf164
 v146:=Tryz.zeroValue164
 g1:=by kernel_rfl }
def Tryz.laysM145_ren:Go.Shelf.Ren:=⟨fun|145=>31|220=>68|219=>101|217=>125|225=>126|224=>127|267=>128|266=>148|314=>149|n=>n,fun|9=>9|4=>4|59=>59|3=>3|5=>5|46=>147|146=>164|51=>163|n=>n,fun|1=>0|n=>n⟩
theorem Tryz.laysM145:Go.Proofs.LaysM.n145 Tryz.prog Tryz.laysM145_ren:={
 mixed:=by kernel_rfl
 f145:=Tryz.func31.trans (congrArg some kr9)
 f217:=Tryz.func125.trans (congrArg some kr9)
 f219:=Tryz.func101.trans (congrArg some kr9)
 f220:=Tryz.func68.trans (congrArg some kr9)
 f224:=Tryz.func127.trans (congrArg some kr9)
 f225:=Tryz.func126.trans (congrArg some kr9)
 f266:=Tryz.func148.trans (congrArg some kr9)
 f267:=Tryz.func128.trans (congrArg some kr9)
 f314:=Tryz.func149.trans (congrArg some kr9)
 t3:=Tryz.underlying3
 a3:=Tryz.isAgg3
 z3:=Tryz.sizeOf3
 v3:=Tryz.zeroValue3
 t4:=Tryz.underlying4
 a4:=Tryz.isAgg4
 z4:=Tryz.sizeOf4
 v4:=Tryz.zeroValue4
 t5:=Tryz.underlying5
 a5:=Tryz.isAgg5
 z5:=Tryz.sizeOf5
 v5:=Tryz.zeroValue5
 t9:=Tryz.underlying9
 a9:=Tryz.isAgg9
 z9:=Tryz.sizeOf9
 v9:=Tryz.zeroValue9
 t46:=Tryz.underlying147
 a46:=Tryz.isAgg147
 z46:=Tryz.sizeOf147
 v46:=Tryz.zeroValue147
 t51:=Tryz.underlying163
 a51:=Tryz.isAgg163
 z51:=Tryz.sizeOf163
 v51:=Tryz.zeroValue163
 t59:=Tryz.underlying59
 a59:=Tryz.isAgg59
 z59:=Tryz.sizeOf59
 v59:=Tryz.zeroValue59
 t146:=Tryz.underlying164
 a146:=Tryz.isAgg164
 z146:=Tryz.sizeOf164
 v146:=Tryz.zeroValue164
 g1:=by kernel_rfl
 i3:=by kernel_rfl
 i4:=by kernel_rfl
 i5:=by kernel_rfl
 i9:=by kernel_rfl
 i46:=by kernel_rfl
 i51:=by kernel_rfl
 i59:=by kernel_rfl
 i146:=by kernel_rfl
 m1:=by kernel_rfl
 s1_3:=fun w h=>Go.Proofs.cell_of_shapedOpen_int (zero:=#[.int .i64 0]) (t:=3) h (of_decide_eq_true kr9) kr9 rfl kr9 kr9 Tryz.underlying3 }
open Go.RowKit in
theorem Tryz.strings_Join (bk o c:Nat) (xs:List ByteArray) (sep:ByteArray) (w:World) (hcells:∀(j:Nat) x,xs[j]?=some x→w.cell? ⟨bk,o+j,none⟩=some (.string x)) (hbk:bk < w.heap.size) (hN:xs.length≤140737488355328) (hcap:xs.length≤c) (hlen:(Lib.join (xs.map (·.data.toList)) sep.data.toList).length≤140737488355328) :
 Calls Tryz.prog 82 #[.slice (some ⟨bk,o,none⟩) xs.length c,.string sep] w fun e w'=>e=.returned (.string ⟨(Lib.join (xs.map (·.data.toList)) sep.data.toList).toArray⟩)∧Below w.heap.size w w':=Any.strings_Join Tryz.lays156 Tryz.Builder_Extra_156 bk o c xs sep w hcells hbk hN hcap hlen
open Go.RowKit Go.Sort Go.Lib in
theorem Tryz.strconv_Itoa_small (i:Nat) (hi:i < 100) (w:World) :
 Calls Tryz.prog 43 #[.int .i64 i] w fun e w'=>e=.returned (.string ⟨(Lib.decDigits i).toArray⟩)∧w'=w:=Any.strconv_Itoa_small Tryz.lays171 i hi w
open Go.RowKit in
theorem Tryz.strconv_Atoi_ok (s:ByteArray) (hmax:s.size≤9223372036854775806) (v:Int) (h:Lib.atoiAll s.data.toList=.ok v) (w:World) :
 Calls Tryz.prog 69 #[.string s] w fun e w'=>e=.returned (.tuple #[.int .i64 v,.nilIface])∧(w'=w∨∃t,w'=Lib.bytesWorld w 5 t):=Any.strconv_Atoi_ok Tryz.laysC172 s hmax v h w
open Go.RowKit in
theorem Tryz.strconv_Atoi_syntax_var (s : ByteArray) (hlim : s.size ≤ 281474976710656) (h : ∀ v, Lib.atoiAll s.data.toList ≠ .ok v) (h2 : Lib.atoiAll s.data.toList ≠ .range) (tp : TypeId) (p : Value) (w : World) (hvar : w.var? Tryz.prog "strconv.ErrSyntax" = some #[.iface tp p]) :
 Calls Tryz.prog 69 #[.string s] w fun e w'=>∃N,e=.returned (.tuple #[.int .i64 0,.iface 151 (.pointer (some ⟨N,0,none⟩))])∧w.heap.size≤N∧w'.heap[N]?=some (.cells #[.string ⟨#[65,116,111,105]⟩,.string s,.iface tp p] 169 (0,0))∧Below w.heap.size w w':=Any.strconv_Atoi_syntax_var Tryz.laysC172 s hlim (by cases h0:Lib.atoiAll s.data.toList<;>first|rfl|exact absurd h0 (h _)|exact absurd h0 h2) tp p w hvar
open Go.RowKit in
theorem Tryz.strconv_Atoi_range_var (s : ByteArray) (hlim : s.size ≤ 281474976710656) (h : Lib.atoiAll s.data.toList = .range) (tp : TypeId) (p : Value) (w : World) (hvar : w.var? Tryz.prog "strconv.ErrRange" = some #[.iface tp p]) :
 Calls Tryz.prog 69 #[.string s] w fun e w'=>∃N,e=.returned (.tuple #[.int .i64 (Lib.atoiSat s.data.toList),.iface 151 (.pointer (some ⟨N,0,none⟩))])∧w.heap.size≤N∧w'.heap[N]?=some (.cells #[.string ⟨#[65,116,111,105]⟩,.string s,.iface tp p] 169 (0,0))∧Below w.heap.size w w':=Any.strconv_Atoi_range_var Tryz.laysC172 s hlim h tp p w hvar
open Go.RowKit Go.Lib in
theorem Tryz.strings_Cut (s sep:ByteArray) (m:Int) (w:World) (hs:s.size < 4294967281) (hm:w.cell? ⟨0,0,none⟩=some (.int .i64 m)) :
 Calls Tryz.prog 31 #[.string s,.string sep] w fun e w'=>e=.returned (.tuple #[.string ⟨(Lib.cut s.data.toList sep.data.toList).1.toArray⟩,.string ⟨(Lib.cut s.data.toList sep.data.toList).2.1.toArray⟩,.bool (Lib.cut s.data.toList sep.data.toList).2.2])∧∃n,w'=w.drewN n:=Any.strings_Cut Tryz.lays145 s sep m w hs hm
end Go.Proofs
namespace Go.Proofs.YtofdnmlpfagibaaGreatDoor
open Go Go.Abs Go.RowKit Go.Dial Go.Clos
variable {w0:World}
class GlobM (w0:World):Prop where
 cell:∃m,w0.cell? ⟨Tryz.laysM145_ren.g 1,0,none⟩=some (.int .i64 m)
class GlobE (w0:World):Prop where
 errS : ∃ tp p, w0.var? Tryz.prog "strconv.ErrSyntax" = some #[.iface tp p]
 errR : ∃ tp p, w0.var? Tryz.prog "strconv.ErrRange" = some #[.iface tp p]
theorem decN_lib:∀n:Nat,Lib.decDigits n=decN n:=by
 intro n
 induction n using Nat.strongRecOn with
 | _ n ih =>
  unfold Lib.decDigits decN
  by_cases h:n < 10
  ·rw[dif_pos h,dif_pos h]
  ·rw[dif_neg h,dif_neg h,ih (n / 10) om9]
theorem itoaS_calls (σ:AHeap) (n:Nat) (hn:n < 100):ACall Tryz.prog w0 43 [.int .i64 n] σ fun r σ'=>r=.string (tx (decN n))∧σ'=σ :=
 ACall.shelf (R:=fun r=>r=.string (tx (decN n))) kr9 rfl fun w _=>(Tryz.strconv_Itoa_small n hn w).mono fun e w' ⟨he,hw⟩=>by
  subst hw
  exact⟨_,_,he,fun β=>.string _,Below.refl _ _,by rw[decN_lib];rfl⟩
theorem libCut_calls [hG:GlobM w0] (σ:AHeap) (s t:List UInt8) (hl:s.length < 4294967281):ACall Tryz.prog w0 31 [.string (tx s),.string (tx t)] σ fun r σ'=>r=.tuple #[.string (tx (Lib.cut s t).1),.string (tx (Lib.cut s t).2.1),.bool (Lib.cut s t).2.2]∧σ'=σ:=by
 obtain⟨m,hm⟩:=hG.cell
 have three:∀(β:Beta) (i:Nat) {a b:ByteArray} {c:Bool},i < (#[Value.string a,.string b,.bool c]:Array Value).size→RelV β ((#[Value.string a,.string b,.bool c]:Array Value).getD i undef) ((#[Value.string a,.string b,.bool c]:Array Value).getD i undef):=fun β i a b c hi=>by
  have:i=0∨i=1∨i=2:=by simp at hi;omega
  rcases this with rfl|rfl|rfl
  ·exact .string _
  ·exact .string _
  ·exact .bool _
 refine ACall.shelf (R:=fun r=>r=.tuple #[.string (tx (Lib.cut s t).1),.string (tx (Lib.cut s t).2.1),.bool (Lib.cut s t).2.2]) kr9 rfl fun w hw=>(Tryz.strings_Cut (tx s) (tx t) m w hl (below_cell hw hm)).mono fun e w' ⟨he,n,hw'⟩=>?_
 subst hw'
 exact⟨_,_,he,fun β=>.tuple _ _ rfl fun i hi=>three β i hi,⟨rfl,rfl,rfl,Nat.le_refl _,fun _ _=>rfl⟩,rfl⟩
def errV:Value:=.iface 0 (.bool false)
theorem atoi_calls [hG:GlobE w0] (σ:AHeap) (s:List UInt8) (hl:s.length≤1048576):ACall Tryz.prog w0 69 [.string (tx s)] σ fun r σ'=>((∃v,Lib.atoiAll s=.ok v∧r=.tuple #[.int .i64 v,.nilIface])∨((∀v,Lib.atoiAll s≠.ok v)∧∃z,r=.tuple #[.int .i64 z,errV]))∧σ'=σ:=by
 obtain⟨t1,p1,h1⟩:=hG.errS
 obtain⟨t2,p2,h2⟩:=hG.errR
 refine ACall.shelf (R:=fun r=>(∃v,Lib.atoiAll s=.ok v∧r=.tuple #[.int .i64 v,.nilIface])∨((∀v,Lib.atoiAll s≠.ok v)∧∃z,r=.tuple #[.int .i64 z,errV])) kr9 rfl fun w hw=>?_
 have hs:(tx s).size≤1048576:=hl
 have two:∀(β:Beta) (z:Int) (a b:Value),RelV β a b→RelV β (.tuple #[.int .i64 z,a]) (.tuple #[.int .i64 z,b]):=fun β z a b h=>.tuple _ _ rfl fun i hi=>by
  have:i=0∨i=1:=by simp at hi;omega
  rcases this with rfl|rfl
  ·exact .int _ _
  ·exact h
 cases h:Lib.atoiAll s with
 | ok v =>
  refine (Tryz.strconv_Atoi_ok (tx s) om9 v h w).mono fun e w' ⟨he,hw'⟩=>⟨.tuple #[.int .i64 v,.nilIface],_,he,fun β=>two β v _ _ .nilIface,?_,.inl ⟨v,rfl,rfl⟩⟩
  rcases hw' with rfl |⟨t,rfl⟩
  ·exact Below.refl _ _
  ·exact⟨rfl,rfl,rfl,by rw[Lib.bytesWorld_size];omega,fun k hk=>Lib.bytesWorld_at_old _ _ _ k hk⟩
 | range =>
  refine (Tryz.strconv_Atoi_range_var (tx s) om9 h t2 p2 w (below_var hw h2)).mono fun e w' ⟨N,he,_,_,hb⟩=>⟨.tuple #[.int .i64 (Lib.atoiSat s),errV],_,he,fun β=>two β _ _ _ (.iface _ _ _ _),hb,.inr ⟨(fun v hv=>nomatch hv),_,rfl⟩⟩
 | _ =>
  refine (Tryz.strconv_Atoi_syntax_var (tx s) om9 (fun v e=>nomatch (h.symm.trans e)) (fun e=>nomatch (h.symm.trans e)) t1 p1 w (below_var hw h1)).mono fun e w' ⟨N,he,_,_,hb⟩=>⟨.tuple #[.int .i64 0,errV],_,he,fun β=>two β 0 _ _ (.iface _ _ _ _),hb,.inr ⟨(fun v hv=>nomatch hv),0,rfl⟩⟩
def NumT (s:List UInt8):Prop:=DgT s∧1≤s.length∧s.length≤3
instance (s:List UInt8):Decidable (NumT s):=inferInstanceAs (Decidable (_∧_∧_))
set_option maxRecDepth 8000 in
theorem isNumber_calls (σ:AHeap) (s:List UInt8) (hl:s.length≤1048576):ACall Tryz.prog w0 44 [.string (tx s)] σ fun r σ'=>r=.bool (decide (NumT s))∧σ'=σ:=by
 refine acall_go mixed Tryz.func44 rfl good44 fun pr=>?_
 have hne:abin Tryz.prog 9 .neq (.string (tx s)) (.string { data:=#[] })=some (.bool (!decide (s=[]))):=abin_sneq (ys:=[])
 by_cases h0:s=[]
 ·have d0:decide (s=[])=true:=decide_eq_true h0
  simp -implicitDefEqProofs(disch:=omega)only[Nat.reduceEqDiff,↓reduceIte,vcu,↓vcd,hne,d0,Bool.not_true]
  refine fin_one Tryz.results44 ⟨?_,rfl⟩
  simp -implicitDefEqProofs(disch:=omega)only[Nat.reduceEqDiff,↓reduceIte,vcu,↓vcd]
  rw[decide_eq_false fun h:NumT s=>by have:=h.2.1;rw[h0] at this;simp at this]
 have d0:decide (s=[])=false:=decide_eq_false h0
 have hp:1≤s.length:=List.length_pos_iff.2 h0
 by_cases h3:s.length≤3
 case neg =>
  have d3:decide ((s.length:Int)≤3)=false:=decide_eq_false om9
  simp -implicitDefEqProofs(disch:=omega)only[Nat.reduceEqDiff,↓reduceIte,vcu,↓vcd,hne,d0,Bool.not_false,d3]
  refine fin_one Tryz.results44 ⟨?_,rfl⟩
  simp -implicitDefEqProofs(disch:=omega)only[Nat.reduceEqDiff,↓reduceIte,vcu,↓vcd]
  rw[decide_eq_false fun h:NumT s=>h3 h.2.2]
 have d3:decide ((s.length:Int)≤3)=true:=decide_eq_true om9
 simp -implicitDefEqProofs(disch:=omega)only[Nat.reduceEqDiff,↓reduceIte,vcu,↓vcd,hne,d0,Bool.not_false,d3]
 refine (implDg_calls σ s hl).mono ?_
 rintro _ _ ⟨rfl,rfl⟩
 simp -implicitDefEqProofs(disch:=omega)only[Nat.reduceEqDiff,↓reduceIte,vcu,↓vcd,opK_some]
 refine fin_one Tryz.results44 ⟨?_,rfl⟩
 simp -implicitDefEqProofs(disch:=omega)only[Nat.reduceEqDiff,↓reduceIte,vcu,↓vcd]
 congr 1
 exact decide_eq_decide.2 ⟨fun h=>⟨h,hp,h3⟩,fun h=>h.1⟩
set_option maxRecDepth 8000 in
theorem implDT_calls (σ:AHeap) (d:Dd) (ht:d.t.length≤1048576):ACall Tryz.prog w0 13 [ddA d] σ fun r σ'=>r=.string (tx (deedT d))∧σ'=σ:=by
 obtain⟨K,L,t⟩:=d
 have htl:t.length≤1048576:=ht
 unfold ddA
 dsimp only
 refine acall_go mixed Tryz.func13 rfl good13 fun pr=>?_
 simp -implicitDefEqProofs(disch:=omega)only[Nat.reduceEqDiff,↓reduceIte,vcu,↓vcd]
 refine r_boxed fun b τ nb s1 e1=>?_
 replace e1:τ b=some ⟨[.int .i64 K,.int .i64 L,.string (tx t)],false⟩:=e1
 have x0:ld τ b (0+0)=some (.int .i64 K):=ld_of e1 rfl
 have x1:ld τ b (0+1)=some (.int .i64 L):=ld_of e1 rfl
 have x2:ld τ b (0+2)=some (.string (tx t)):=ld_of e1 rfl
 by_cases hl0:L < 0
 ·have d1:decide (L < 0)=true:=decide_eq_true hl0
  simp -implicitDefEqProofs(disch:=omega)only[Nat.reduceEqDiff,↓reduceIte,vcu,↓vcd,x1,d1]
  refine fin_drop Tryz.results13 σ s1 ⟨?_,rfl⟩
  simp -implicitDefEqProofs(disch:=omega)only[Nat.reduceEqDiff,↓reduceIte,vcu,↓vcd]
  rw[deedT,if_neg fun h=>by have:=h.2.1.1;dsimp only at this;omega]
 have d1:decide (L < 0)=false:=decide_eq_false hl0
 by_cases hl9:L > 99
 ·have d2:decide (L > 99)=true:=decide_eq_true hl9
  simp -implicitDefEqProofs(disch:=omega)only[Nat.reduceEqDiff,↓reduceIte,vcu,↓vcd,x1,d1,d2]
  refine fin_drop Tryz.results13 σ s1 ⟨?_,rfl⟩
  simp -implicitDefEqProofs(disch:=omega)only[Nat.reduceEqDiff,↓reduceIte,vcu,↓vcd]
  rw[deedT,if_neg fun h=>by have:=h.2.1.2;dsimp only at this;omega]
 have d2:decide (L > 99)=false:=decide_eq_false hl9
 obtain⟨n,hn,rfl⟩:∃n:Nat,n < 100∧L=n:=⟨L.toNat,by omega,by omega⟩
 have hnl:=decN_len n
 simp -implicitDefEqProofs(disch:=omega)only[Nat.reduceEqDiff,↓reduceIte,vcu,↓vcd,x1,d1,d2]
 refine (itoaS_calls τ n hn).mono ?_
 rintro _ _ ⟨rfl,rfl⟩
 rename_i τ
 have add:∀(xs ys:List UInt8) (x y:ByteArray),x=tx xs→y=tx ys→xs.length+ys.length≤2 ^ 40→abin Tryz.prog 9 .add (.string x) (.string y)=some (.string (tx (xs++ys))):=fun xs ys x y e1 e2 h=>by subst e1 e2;exact abin_sadd h
 have g0:abin Tryz.prog 9 .add (.string { data:=#[32] }) (.string (tx (decN n)))=some (.string (tx (32 :: decN n))):=add [32] (decN n) _ _ rfl rfl (by simp;omega)
 have gc:abin Tryz.prog 9 .add (.string { data:=#[99,97,108,108] }) (.string (tx (32 :: decN n)))=some (.string (tx (kwT 0++32 :: decN n))):=add (kwT 0) (32 :: decN n) _ _ rfl rfl (by simp [kwT];omega)
 have gd:abin Tryz.prog 9 .add (.string { data:=#[100,114,111,112] }) (.string (tx (32 :: decN n)))=some (.string (tx (kwT 1++32 :: decN n))):=add (kwT 1) (32 :: decN n) _ _ rfl rfl (by simp [kwT];omega)
 have gn:abin Tryz.prog 9 .add (.string { data:=#[110,117,109,98,101,114] }) (.string (tx (32 :: decN n)))=some (.string (tx (kwT 2++32 :: decN n))):=add (kwT 2) (32 :: decN n) _ _ rfl rfl (by simp [kwT];omega)
 have g1:∀xs:List UInt8,xs.length≤1000→abin Tryz.prog 9 .add (.string (tx xs)) (.string { data:=#[32] })=some (.string (tx (xs++[32]))):=fun xs h=>add xs [32] _ _ rfl rfl (by simp;omega)
 have g2:∀xs:List UInt8,xs.length≤1001→abin Tryz.prog 9 .add (.string (tx xs)) (.string (tx t))=some (.string (tx (xs++t))):=fun xs h=>add xs t _ _ rfl rfl om9
 have hc1:=g1 (kwT 0++32 :: decN n) (by simp [kwT];omega)
 have hc2:=g2 (kwT 0++32 :: decN n++[32]) (by simp [kwT];omega)
 have hn1:=g1 (kwT 2++32 :: decN n) (by simp [kwT];omega)
 have hn2:=g2 (kwT 2++32 :: decN n++[32]) (by simp [kwT];omega)
 have hne:abin Tryz.prog 9 .eql (.string (tx t)) (.string { data:=#[] })=some (.bool (decide (t=[]))):=abin_seql (ys:=[])
 have hnum:=isNumber_calls (w0:=w0) τ t htl
 have hl:0≤(n:Int)∧(n:Int)≤99:=by omega
 clear g1 g2 add
 by_cases hK0:K=0
 ·subst hK0
  have k0:decide ((0:Int)=0)=true:=rfl
  simp -implicitDefEqProofs(disch:=omega)only[Nat.reduceEqDiff,↓reduceIte,vcu,↓vcd,opK_some,g0,x0,x2,k0]
  refine hnum.mono ?_
  rintro _ _ ⟨rfl,rfl⟩
  rename_i τ
  by_cases hN:NumT t
  ·rw[decide_eq_true hN]
   have hT:deedT ⟨0,n,t⟩=kwT 0++32 :: decN n++[32]++t:=by
    rw[deedT,if_pos ⟨by simp,hl,.inr ⟨by simp,hN.1,hN.2⟩⟩];simp
   simp -implicitDefEqProofs(disch:=omega)only[Nat.reduceEqDiff,↓reduceIte,vcu,↓vcd,opK_some,gc,hc1,hc2,x2]
   refine fin_drop Tryz.results13 σ s1 ⟨?_,rfl⟩
   simp -implicitDefEqProofs(disch:=omega)only[Nat.reduceEqDiff,↓reduceIte,vcu,↓vcd]
   rw[hT]
  ·rw[decide_eq_false hN]
   have hT:deedT ⟨0,n,t⟩=[]:=by
    rw[deedT,if_neg fun h=>h.2.2.elim (fun q=>by simp at q) fun q=>hN q.2]
   simp -implicitDefEqProofs(disch:=omega)only[Nat.reduceEqDiff,↓reduceIte,vcu,↓vcd,opK_some,x0]
   refine fin_drop Tryz.results13 σ s1 ⟨?_,rfl⟩
   simp -implicitDefEqProofs(disch:=omega)only[Nat.reduceEqDiff,↓reduceIte,vcu,↓vcd]
   rw[hT]
 have k0:decide (K=0)=false:=decide_eq_false hK0
 by_cases hK1:K=1
 ·subst hK1
  have k1:decide ((1:Int)=1)=true:=rfl
  by_cases hN:t=[]
  ·have dN:decide (t=[])=true:=decide_eq_true hN
   have hT:deedT ⟨1,n,t⟩=kwT 1++32 :: decN n:=by
    rw[deedT,if_pos ⟨by simp,hl,.inl ⟨rfl,hN⟩⟩];simp
   simp -implicitDefEqProofs(disch:=omega)only[Nat.reduceEqDiff,↓reduceIte,vcu,↓vcd,opK_some,g0,x0,x2,k0,k1,hne,dN,gd]
   refine fin_drop Tryz.results13 σ s1 ⟨?_,rfl⟩
   simp -implicitDefEqProofs(disch:=omega)only[Nat.reduceEqDiff,↓reduceIte,vcu,↓vcd]
   rw[hT]
  ·have dN:decide (t=[])=false:=decide_eq_false hN
   have hT:deedT ⟨1,n,t⟩=[]:=by
    rw[deedT,if_neg fun h=>h.2.2.elim (fun q=>hN q.2) fun q=>q.1 rfl]
   simp -implicitDefEqProofs(disch:=omega)only[Nat.reduceEqDiff,↓reduceIte,vcu,↓vcd,opK_some,g0,x0,x2,k0,k1,hne,dN]
   refine fin_drop Tryz.results13 σ s1 ⟨?_,rfl⟩
   simp -implicitDefEqProofs(disch:=omega)only[Nat.reduceEqDiff,↓reduceIte,vcu,↓vcd]
   rw[hT]
 have k1:decide (K=1)=false:=decide_eq_false hK1
 by_cases hK2:K=2
 ·subst hK2
  have k2:decide ((2:Int)=2)=true:=rfl
  simp -implicitDefEqProofs(disch:=omega)only[Nat.reduceEqDiff,↓reduceIte,vcu,↓vcd,opK_some,g0,x0,x2,k0,k1,k2]
  refine hnum.mono ?_
  rintro _ _ ⟨rfl,rfl⟩
  rename_i τ
  by_cases hN:NumT t
  ·rw[decide_eq_true hN]
   have hT:deedT ⟨2,n,t⟩=kwT 2++32 :: decN n++[32]++t:=by
    rw[deedT,if_pos ⟨by simp,hl,.inr ⟨by simp,hN.1,hN.2⟩⟩];simp
   simp -implicitDefEqProofs(disch:=omega)only[Nat.reduceEqDiff,↓reduceIte,vcu,↓vcd,opK_some,gn,hn1,hn2,x2]
   refine fin_drop Tryz.results13 σ s1 ⟨?_,rfl⟩
   simp -implicitDefEqProofs(disch:=omega)only[Nat.reduceEqDiff,↓reduceIte,vcu,↓vcd]
   rw[hT]
  ·rw[decide_eq_false hN]
   have hT:deedT ⟨2,n,t⟩=[]:=by
    rw[deedT,if_neg fun h=>h.2.2.elim (fun q=>by simp at q) fun q=>hN q.2]
   simp -implicitDefEqProofs(disch:=omega)only[Nat.reduceEqDiff,↓reduceIte,vcu,↓vcd,opK_some,x0]
   refine fin_drop Tryz.results13 σ s1 ⟨?_,rfl⟩
   simp -implicitDefEqProofs(disch:=omega)only[Nat.reduceEqDiff,↓reduceIte,vcu,↓vcd]
   rw[hT]
 have k2:decide (K=2)=false:=decide_eq_false hK2
 have hT:deedT ⟨K,n,t⟩=[]:=by
  rw[deedT,if_neg fun h=>by have:=h.1;dsimp only at this;omega]
 simp -implicitDefEqProofs(disch:=omega)only[Nat.reduceEqDiff,↓reduceIte,vcu,↓vcd,opK_some,g0,x0,x2,k0,k1,k2]
 refine fin_drop Tryz.results13 σ s1 ⟨?_,rfl⟩
 simp -implicitDefEqProofs(disch:=omega)only[Nat.reduceEqDiff,↓reduceIte,vcu,↓vcd]
 rw[hT]
end Go.Proofs.YtofdnmlpfagibaaGreatDoor
namespace Go.Proofs.YtofdnmlpfagibaaGreatDoor
open Go Go.Abs Go.RowKit Go.Dial Go.Clos
variable {w0:World}
theorem lib_index_at {c:UInt8}:∀(w t:List UInt8),(∀b∈w,b≠c)→Lib.index (w++c :: t) [c]=w.length
 | [],t,_=>by simp [Lib.index,List.isPrefixOf]
 | b :: w,t,h=>by
  have hb:b≠c:=h b (by simp)
  have ih:=lib_index_at w t fun x hx=>h x (by simp [hx])
  rw[List.cons_append,Lib.index,ih]
  have:([c].isPrefixOf (b :: (w++c :: t)))=false:=by simp [List.isPrefixOf,hb.symm]
  rw[this]
  have h2:((w.length:Int) == -1)=false:=by simp
  rw[h2]
  simp
theorem lib_index_no {c:UInt8}:∀(w:List UInt8),(∀b∈w,b≠c)→Lib.index w [c]=-1
 | [],_=>by simp [Lib.index]
 | b :: w,h=>by
  have hb:b≠c:=h b (by simp)
  have ih:=lib_index_no w fun x hx=>h x (by simp [hx])
  rw[Lib.index,ih]
  have:([c].isPrefixOf (b :: w))=false:=by simp [List.isPrefixOf,hb.symm]
  rw[this]
  simp
theorem lib_cut_at {c:UInt8} {w t:List UInt8} (h:∀b∈w,b≠c):Lib.cut (w++c :: t) [c]=(w,t,true):=by
 unfold Lib.cut
 rw[lib_index_at w t h,if_pos om9]
 simp
theorem lib_cut_no {c:UInt8} {w:List UInt8} (h:∀b∈w,b≠c):Lib.cut w [c]=(w,[],false):=by
 unfold Lib.cut
 rw[lib_index_no w h,if_neg om9]
theorem lib_split (c:UInt8):∀s:List UInt8,(∀b∈s,b≠c)∨∃w t,s=w++c :: t∧∀b∈w,b≠c
 | []=>.inl fun b hb=>by cases hb
 | b :: s=>by
  by_cases e:b=c
  ·subst e;exact .inr ⟨[],s,rfl,fun b hb=>by cases hb⟩
  ·rcases lib_split c s with h |⟨w,t,rfl,h⟩
   ·exact .inl fun x hx=>by
     rcases List.mem_cons.1 hx with rfl|hx
     ·exact e
     ·exact h x hx
   ·exact .inr ⟨b :: w,t,rfl,fun x hx=>by
     rcases List.mem_cons.1 hx with rfl|hx
     ·exact e
     ·exact h x hx⟩
theorem lib_cut_len (s t:List UInt8):(Lib.cut s t).1.length≤s.length∧(Lib.cut s t).2.1.length≤s.length:=by
 unfold Lib.cut
 split<;>simp
 omega
theorem atoi_decB:∀n,n < 100→(match Lib.atoiAll (decN n) with | .ok v=>v == (n:Int)|_=>false)=true:=by decide +kernel
theorem atoi_dec {n:Nat} (h:n < 100):Lib.atoiAll (decN n)=.ok n:=by
 have:=atoi_decB n h
 split at this
 ·rename_i v hv
  rw[hv,show v=n from by simpa using this]
 ·cases this
theorem rd_some {s:List UInt8} {d:Dd} (h:readO s=some d):(Lib.cut (Lib.cut s [32]).2.1 [32]).1=decN d.l.toNat∧(Lib.cut (Lib.cut s [32]).2.1 [32]).2.1=d.t∧Lib.atoiAll (decN d.l.toNat)=.ok d.l∧(0≤d.k∧d.k≤2)∧deedT d=s:=by
 obtain⟨e,hne⟩:=readO_some h
 have hk:=deedT_ok (d:=d) (by rw[e];exact hne)
 obtain⟨h1,h2,h3⟩:=id hk
 obtain⟨n,hn,hl⟩:∃n:Nat,n < 100∧d.l=n:=⟨d.l.toNat,by omega,by omega⟩
 have hln:d.l.toNat=n:=by omega
 obtain⟨q1,q2,q3⟩:=decN_ok n hn
 have p1:∀b∈kwT d.k,b≠32:=fun b hb=>ne_of_nat (by have:=kw_b d.k b hb;show _≠32;omega)
 have p2:∀b∈decN n,b≠32:=fun b hb=>ne_of_nat (by have:=q3 b hb;show _≠32;omega)
 have es:s=kwT d.k++32 :: (decN n++(if d.k=1 then [] else 32 :: d.t)):=by rw[←e,deedT,if_pos hk,hln]
 have c1:(Lib.cut s [32]).2.1=decN n++(if d.k=1 then [] else 32 :: d.t):=by rw[es,lib_cut_at p1]
 refine⟨?_,?_,by rw[hln,hl];exact atoi_dec hn,h1,e⟩
 ·rw[c1,hln]
  by_cases e1:d.k=1
  ·rw[if_pos e1,List.append_nil,lib_cut_no p2]
  ·rw[if_neg e1,lib_cut_at p2]
 ·rw[c1]
  by_cases e1:d.k=1
  ·rw[if_pos e1,List.append_nil,lib_cut_no p2]
   rcases h3 with ⟨_,e2⟩ |⟨e2,_⟩
   ·exact e2.symm
   ·exact absurd e1 e2
  ·rw[if_neg e1,lib_cut_at p2]
theorem atoi_nil:∀v,Lib.atoiAll []≠.ok v:=fun v h=>nomatch h
set_option maxRecDepth 8000 in
theorem implRD_calls [hG:GlobE w0] [hM:GlobM w0] (σ:AHeap) (s:List UInt8) (hl:s.length≤1048576):ACall Tryz.prog w0 32 [.string (tx s)] σ fun r σ'=>r=.tuple #[ddA (rdP s).1,.bool (rdP s).2]∧σ'=σ:=by
 have hl1:=(lib_cut_len s [32]).2
 have hl2:=lib_cut_len (Lib.cut s [32]).2.1 [32]
 have hsome:=fun d (h:readO s=some d)=>rd_some h
 have cut1:=fun (τ:AHeap)=>libCut_calls (w0:=w0) τ s [32] om9
 have cut2:=fun (τ:AHeap)=>libCut_calls (w0:=w0) τ (Lib.cut s [32]).2.1 [32] om9
 generalize (Lib.cut (Lib.cut s [32]).2.1 [32]).2.2=b2 at cut2
 have hnil:s=[]→(Lib.cut (Lib.cut s [32]).2.1 [32]).1=[]:=fun e=>by subst e;rfl
 generalize hq1:(Lib.cut (Lib.cut s [32]).2.1 [32]).1=line at cut2 hl2 hsome hnil
 generalize (Lib.cut (Lib.cut s [32]).2.1 [32]).2.1=num at cut2 hl2 hsome
 clear hq1
 generalize (Lib.cut s [32]).2.1=rest at cut1 cut2 hl1 hl2
 generalize (Lib.cut s [32]).1=word at cut1
 generalize (Lib.cut s [32]).2.2=b1 at cut1
 refine acall_goc mixed Tryz.func32 rfl goodc32 fun pr=>?_
 simp -implicitDefEqProofs(disch:=omega)only[Nat.reduceEqDiff,↓reduceIte,vcu,↓vcd]
 refine r_new ze41 fun c2 τ1 n2 s1 e2=>?_
 replace e2:τ1 c2=some ⟨[.int .i64 0,.int .i64 0,.string (tx [])],false⟩:=e2
 simp -implicitDefEqProofs(disch:=omega)only[Nat.reduceEqDiff,↓reduceIte,vcu,↓vcd]
 refine (cut1 τ1).mono ?_
 rintro _ _ ⟨rfl,rfl⟩
 rename_i τ1
 simp -implicitDefEqProofs(disch:=omega)only[Nat.reduceEqDiff,↓reduceIte,vcu,↓vcd,opK_some,List.getElem?_toArray,List.getElem?_cons_zero,List.getElem?_cons_succ]
 refine (cut2 τ1).mono ?_
 rintro _ _ ⟨rfl,rfl⟩
 rename_i τ1
 simp -implicitDefEqProofs(disch:=omega)only[Nat.reduceEqDiff,↓reduceIte,vcu,↓vcd,opK_some,List.getElem?_toArray,List.getElem?_cons_zero,List.getElem?_cons_succ]
 refine (atoi_calls τ1 line om9).mono ?_
 rintro _ _ ⟨⟨v,hv,rfl⟩ |⟨hno,z,rfl⟩,rfl⟩
 ·rename_i τ1
  simp -implicitDefEqProofs(disch:=omega)only[Nat.reduceEqDiff,↓reduceIte,vcu,↓vcd,opK_some,List.getElem?_toArray,List.getElem?_cons_zero,List.getElem?_cons_succ]
  refine r_nilIf Tryz.underlying82 (.inl ⟨by simp -implicitDefEqProofs(disch:=omega)only[Nat.reduceEqDiff,↓reduceIte,vcu,↓vcd],?_⟩)
  simp -implicitDefEqProofs(disch:=omega)only[Nat.reduceEqDiff,↓reduceIte,vcu,↓vcd]
  refine r_lit el88 (out:=#[.int .i64 0,.int .i64 1,.int .i64 2]) (by first|kernel_rfl | (simp -implicitDefEqProofs(disch:=omega)only[Nat.reduceEqDiff,↓reduceIte,vcu,↓vcd];kernel_rfl)) (by rfl) fun e35 τ2 n35 s2 w35=>?_
  replace w35:τ2 e35=some ⟨ints .i64 [0,1,2],false⟩:=w35
  have hrow:=intsAt_own w35
  have hne:s≠[]:=fun e=>by rw[hnil e] at hv;exact atoi_nil v hv
  simp -implicitDefEqProofs(disch:=omega)only[Nat.reduceEqDiff,↓reduceIte,vcu,↓vcd]
  refine vc_loop_c mixed kr9 [0,2,8,10,35,36] (fun m a τ=>∃k:Nat,m+k=3∧a 37=.int .i64 k∧(∀j:Nat,j < k→deedT ⟨j,v,num⟩≠s)∧Sub τ2 τ) 3 ⟨0,by simp,rfl,fun j hj=>absurd hj om9,Sub.refl _⟩ ?_
  rintro m a τ hc ⟨k,hk,h37,hup,hT⟩
  simp -implicitDefEqProofs(disch:=omega)only[Nat.reduceEqDiff,↓reduceIte,vcu,↓vcd] at hc
  obtain⟨h0,h2,h8,h10,h35,h36,-⟩:=hc
  by_cases hlt:k < 3
  case neg =>
   have hr:readO s=none:=by
    cases hq:readO s with
    | none=>rfl
    | some d =>
     obtain⟨q1,q2,q3,q4,q5⟩:=hsome d hq
     rw[q1,q3] at hv
     obtain⟨K,L,T⟩:=d
     dsimp only at q2 hv q4
     have hv2:L=v:=by injection hv
     subst hv2 q2
     refine absurd q5 ?_
     have:=hup K.toNat om9
     rwa [show ((K.toNat:Nat):Int)=K by omega] at this
   have hP:rdP s=(⟨0,0,[]⟩,false):=by unfold rdP;rw[hr]
   simp -implicitDefEqProofs(disch:=omega)only[Nat.reduceEqDiff,↓reduceIte,vcu,↓vcd,h0,h2,h8,h10,h35,h36,h37]
   rw[r_build]
   refine⟨(_,#[.int .i64 0,.int .i64 0,.string (tx [])]),⟨ze41,by first|kernel_rfl | (simp -implicitDefEqProofs(disch:=omega)only[Nat.reduceEqDiff,↓reduceIte,vcu,↓vcd];kernel_rfl)⟩,?_⟩
   simp -implicitDefEqProofs(disch:=omega)only[Nat.reduceEqDiff,↓reduceIte,vcu,↓vcd,h2]
   refine r_sets (g:=c2) (i:=0) (C:=[.int .i64 0,.int .i64 0,.string (tx [])]) (by simp -implicitDefEqProofs(disch:=omega)only[Nat.reduceEqDiff,↓reduceIte,vcu,↓vcd,h2]) z9co41 z9r z9z (hT _ _ (s2 _ _ e2)) z9l fun τ8 k8 e8=>?_
   replace e8:τ8 c2=some ⟨[.int .i64 0,.int .i64 0,.string (tx [])],false⟩:=e8
   have l8:lds τ8 c2 0 3=some [.int .i64 0,.int .i64 0,.string (tx [])]:=lds_three (ld_of e8 rfl) (ld_of e8 rfl) (ld_of e8 rfl)
   simp -implicitDefEqProofs(disch:=omega)only[Nat.reduceEqDiff,↓reduceIte,vcu,↓vcd,h2]
   refine fin_ct8 Tryz.results32 σ (k8.sub (s1.trans (s2.trans hT)) n2) (v:=.agg #[.int .i64 0,.int .i64 0,.string (tx [])]) (by simp -implicitDefEqProofs(disch:=omega)only[Nat.reduceEqDiff,↓reduceIte,vcu,↓vcd,h2,l8,co41]) ⟨?_,rfl⟩
   simp -implicitDefEqProofs(disch:=omega)only[Nat.reduceEqDiff,↓reduceIte,vcu,↓vcd]
   rw[hP];rfl
  have hx:=(hrow.sub hT) k (by simpa using hlt)
  have hgk:([0,1,2]:List Int).getD k 0=k:=by
   have:k=0∨k=1∨k=2:=by omega
   rcases this with rfl|rfl|rfl<;>rfl
  rw[hgk] at hx
  have hlen:([0,1,2]:List Int).length=3:=rfl
  simp -implicitDefEqProofs(disch:=omega)only[Nat.reduceEqDiff,↓reduceIte,vcu,↓vcd,h0,h2,h8,h10,h35,h36,h37,hx]
  rw[r_build]
  refine⟨(_,#[.int .i64 k,.int .i64 v,.string (tx num)]),⟨ze41,by simp -implicitDefEqProofs(disch:=omega)only[Nat.reduceEqDiff,↓reduceIte,vcu,↓vcd,h0,h2,h8,h10,h35,h36,h37];kernel_rfl⟩,?_⟩
  simp -implicitDefEqProofs(disch:=omega)only[Nat.reduceEqDiff,↓reduceIte,vcu,↓vcd]
  refine r_new ze41 fun c14 τ3 n14 s14 e14=>?_
  replace e14:τ3 c14=some ⟨[.int .i64 0,.int .i64 0,.string (tx [])],false⟩:=e14
  refine r_sets (g:=c14) (i:=0) (C:=[.int .i64 0,.int .i64 0,.string (tx [])]) z9q z9co41 z9r z9z e14 z9l fun τ4 k4 e4=>?_
  replace e4:τ4 c14=some ⟨[.int .i64 k,.int .i64 v,.string (tx num)],false⟩:=e4
  have S4:Sub τ2 τ4:=k4.sub (hT.trans s14) (free_sub hT n14)
  have l4:lds τ4 c14 0 3=some [.int .i64 k,.int .i64 v,.string (tx num)]:=lds_three (ld_of e4 rfl) (ld_of e4 rfl) (ld_of e4 rfl)
  have hdt:=implDT_calls (w0:=w0) τ4 ⟨k,v,num⟩ (by dsimp only;omega)
  unfold ddA at hdt
  dsimp only at hdt
  simp -implicitDefEqProofs(disch:=omega)only[Nat.reduceEqDiff,↓reduceIte,vcu,↓vcd,h0,h2,h8,h10,h35,h36,h37,l4,co41]
  refine hdt.mono ?_
  rintro _ _ ⟨rfl,rfl⟩
  rename_i τ4
  by_cases hE:deedT ⟨k,v,num⟩=s
  ·have dE:decide (deedT ⟨k,v,num⟩=s)=true:=decide_eq_true hE
   have hP:rdP s=(⟨k,v,num⟩,true):=by unfold rdP;rw[readO_iff.2 ⟨hE,hne⟩]
   simp -implicitDefEqProofs(disch:=omega)only[Nat.reduceEqDiff,↓reduceIte,vcu,↓vcd,opK_some,h0,h2,h8,h10,h35,h36,h37,abin_seql,dE,l4,co41]
   refine r_sets (g:=c2) (i:=0) (C:=[.int .i64 0,.int .i64 0,.string (tx [])]) (by simp -implicitDefEqProofs(disch:=omega)only[Nat.reduceEqDiff,↓reduceIte,vcu,↓vcd,h2]) z9co41 z9r z9z (S4 _ _ (s2 _ _ e2)) z9l fun τ8 k8 e8=>?_
   replace e8:τ8 c2=some ⟨[.int .i64 k,.int .i64 v,.string (tx num)],false⟩:=e8
   have l8:lds τ8 c2 0 3=some [.int .i64 k,.int .i64 v,.string (tx num)]:=lds_three (ld_of e8 rfl) (ld_of e8 rfl) (ld_of e8 rfl)
   simp -implicitDefEqProofs(disch:=omega)only[Nat.reduceEqDiff,↓reduceIte,vcu,↓vcd,h2]
   refine fin_ct8 Tryz.results32 σ (k8.sub (s1.trans (s2.trans S4)) n2) (v:=.agg #[.int .i64 k,.int .i64 v,.string (tx num)]) (by simp -implicitDefEqProofs(disch:=omega)only[Nat.reduceEqDiff,↓reduceIte,vcu,↓vcd,h2,l8,co41]) ⟨?_,rfl⟩
   simp -implicitDefEqProofs(disch:=omega)only[Nat.reduceEqDiff,↓reduceIte,vcu,↓vcd]
   rw[hP];rfl
  ·have dE:decide (deedT ⟨k,v,num⟩=s)=false:=decide_eq_false hE
   simp -implicitDefEqProofs(disch:=omega)only[Nat.reduceEqDiff,↓reduceIte,vcu,↓vcd,opK_some,h0,h2,h8,h10,h35,h36,h37,abin_seql,dE]
   refine⟨⟨?_,?_,?_,?_,?_,?_,trivial⟩,m - 1,by omega,k+1,by omega,by simp,fun j hj=>?_,S4⟩
   ·first|trivial|exact h0.symm
   ·first|trivial|exact h2.symm
   ·first|trivial|exact h8.symm
   ·first|trivial|exact h10.symm
   ·first|trivial|exact h35.symm
   ·first|trivial|exact h36.symm
   ·by_cases e:j=k
    ·subst e;exact hE
    ·exact hup j om9
 ·rename_i τ1
  have hr:readO s=none:=by
   cases hq:readO s with
   | none=>rfl
   | some d =>
    obtain⟨q1,q2,q3,q4,q5⟩:=hsome d hq
    rw[q1] at hno
    exact absurd q3 (hno _)
  have hP:rdP s=(⟨0,0,[]⟩,false):=by unfold rdP;rw[hr]
  simp -implicitDefEqProofs(disch:=omega)only[Nat.reduceEqDiff,↓reduceIte,vcu,↓vcd,opK_some,List.getElem?_toArray,List.getElem?_cons_zero,List.getElem?_cons_succ]
  refine r_nilIf Tryz.underlying82 (.inr ⟨⟨_,_,by simp -implicitDefEqProofs(disch:=omega)only[Nat.reduceEqDiff,↓reduceIte,vcu,↓vcd];rfl⟩,?_⟩)
  simp -implicitDefEqProofs(disch:=omega)only[Nat.reduceEqDiff,↓reduceIte,vcu,↓vcd]
  rw[r_build]
  refine⟨(_,#[.int .i64 0,.int .i64 0,.string (tx [])]),⟨ze41,by first|kernel_rfl | (simp -implicitDefEqProofs(disch:=omega)only[Nat.reduceEqDiff,↓reduceIte,vcu,↓vcd];kernel_rfl)⟩,?_⟩
  simp -implicitDefEqProofs(disch:=omega)only[Nat.reduceEqDiff,↓reduceIte,vcu,↓vcd]
  refine r_sets (g:=c2) (i:=0) (C:=[.int .i64 0,.int .i64 0,.string (tx [])]) z9q z9co41 z9r z9z e2 z9l fun τ8 k8 e8=>?_
  replace e8:τ8 c2=some ⟨[.int .i64 0,.int .i64 0,.string (tx [])],false⟩:=e8
  have l8:lds τ8 c2 0 3=some [.int .i64 0,.int .i64 0,.string (tx [])]:=lds_three (ld_of e8 rfl) (ld_of e8 rfl) (ld_of e8 rfl)
  simp -implicitDefEqProofs(disch:=omega)only[Nat.reduceEqDiff,↓reduceIte,vcu,↓vcd]
  refine fin_ct8 Tryz.results32 σ (k8.sub s1 n2) (v:=.agg #[.int .i64 0,.int .i64 0,.string (tx [])]) (by simp -implicitDefEqProofs(disch:=omega)only[Nat.reduceEqDiff,↓reduceIte,vcu,↓vcd,l8,co41]) ⟨?_,rfl⟩
  simp -implicitDefEqProofs(disch:=omega)only[Nat.reduceEqDiff,↓reduceIte,vcu,↓vcd]
  rw[hP];rfl
theorem rj_noline:∀(u w:List UInt8),(∀b∈u,b≠10)→rj w u=([],0)
 | [],w,_=>by rw[rj]
 | b :: u,w,h=>by
  rw[rj,if_neg (h b (by simp))]
  exact rj_noline u (w++[b]) fun x hx=>h x (by simp [hx])
theorem rj_line:∀(u w t:List UInt8),(∀b∈u,b≠10)→rj w (u++10 :: t)=match readO (w++u) with
  | none=>([],0)
  | some d=>(d :: (rj [] t).1,(w++u).length+1+(rj [] t).2)
 | [],w,t,_=>by rw[List.nil_append,rj,if_pos rfl,List.append_nil];cases readO w<;>rfl
 | b :: u,w,t,h=>by
  rw[List.cons_append,rj,if_neg (h b (by simp)),rj_line u (w++[b]) t fun x hx=>h x (by simp [hx]),List.append_assoc]
  rfl
set_option maxRecDepth 8000 in
theorem implRJ_calls [hG:GlobE w0] [hM:GlobM w0] (σ:AHeap) (s:List UInt8) (hl:s.length≤1048576):ACall Tryz.prog w0 7 [.string (tx s)] σ fun r σ'=>∃v,r=.tuple #[v,.int .i64 ((rj [] s).2:Int)]∧Sub σ σ'∧OwnD σ σ' v (rj [] s).1:=by
 refine acall_go mixed Tryz.func7 rfl good7 fun pr=>?_
 simp -implicitDefEqProofs(disch:=omega)only[Nat.reduceEqDiff,↓reduceIte,vcu,↓vcd]
 refine vc_loop_c mixed kr9 [0] (fun m a τ=>∃(rest:List UInt8) (ds:List Dd),m=rest.length∧a 5=.string (tx rest)∧rest.length≤s.length∧ds.length+rest.length≤s.length∧rj [] s=(ds++(rj [] rest).1,(s.length - rest.length)+(rj [] rest).2)∧Sub σ τ∧OwnD σ τ (a 4) ds) s.length
  ⟨s,[],rfl,rfl,Nat.le_refl _,by simp,by simp,Sub.refl _,.inl ⟨rfl,rfl⟩⟩ ?_
 rintro m a τ hc ⟨rest,ds,rfl,h5,hr,hdl,hrj,hs,how⟩
 simp -implicitDefEqProofs(disch:=omega)only[Nat.reduceEqDiff,↓reduceIte,vcu,↓vcd] at hc
 obtain⟨h0,-⟩:=hc
 have cut1:=libCut_calls (w0:=w0) τ rest [10] om9
 rcases lib_split 10 rest with hno |⟨line,behind,rfl,hno⟩
 ·have e0:=rj_noline rest [] hno
  rw[lib_cut_no hno] at cut1
  rw[e0] at hrj
  have hrd:=implRD_calls (w0:=w0) τ rest om9
  simp -implicitDefEqProofs(disch:=omega)only[Nat.reduceEqDiff,↓reduceIte,vcu,↓vcd,h0,h5]
  refine cut1.mono ?_
  rintro _ _ ⟨rfl,rfl⟩
  rename_i τ
  simp -implicitDefEqProofs(disch:=omega)only[Nat.reduceEqDiff,↓reduceIte,vcu,↓vcd,opK_some,List.getElem?_toArray,List.getElem?_cons_zero,List.getElem?_cons_succ]
  refine hrd.mono ?_
  rintro _ _ ⟨rfl,rfl⟩
  rename_i τ
  unfold ddA
  simp -implicitDefEqProofs(disch:=omega)only[Nat.reduceEqDiff,↓reduceIte,vcu,↓vcd,opK_some,List.getElem?_toArray,List.getElem?_cons_zero,List.getElem?_cons_succ]
  refine r_new ze41 fun c9 τ3 n9 s9 e9=>?_
  replace e9:τ3 c9=some ⟨[.int .i64 0,.int .i64 0,.string (tx [])],false⟩:=e9
  refine r_sets (g:=c9) (i:=0) (C:=[.int .i64 0,.int .i64 0,.string (tx [])]) z9q z9co41 z9r z9z e9 z9l fun τ4 k4 e4=>?_
  have S4:Sub τ τ4:=k4.sub s9 n9
  simp -implicitDefEqProofs(disch:=omega)only[Nat.reduceEqDiff,↓reduceIte,vcu,↓vcd,h0,h5]
  refine fin_two Tryz.results7 ⟨a 4,?_,hs.trans S4,?_⟩
  ·have he:((rj [] s).2:Int)=(s.length:Int) - rest.length:=by rw[hrj];simp only;omega
   simp -implicitDefEqProofs(disch:=omega)only[Nat.reduceEqDiff,↓reduceIte,vcu,↓vcd,h0,h5]
   rw[he]
  ·rw[hrj];simp only[List.append_nil];exact how.sub S4
 ·have e0:=rj_line line [] behind hno
  rw[List.nil_append] at e0
  rw[lib_cut_at hno] at cut1
  have hll:(line++10 :: behind).length=line.length+1+behind.length:=by simp;omega
  have hrd:=implRD_calls (w0:=w0) τ line om9
  simp -implicitDefEqProofs(disch:=omega)only[Nat.reduceEqDiff,↓reduceIte,vcu,↓vcd,h0,h5]
  refine cut1.mono ?_
  rintro _ _ ⟨rfl,rfl⟩
  rename_i τ
  simp -implicitDefEqProofs(disch:=omega)only[Nat.reduceEqDiff,↓reduceIte,vcu,↓vcd,opK_some,List.getElem?_toArray,List.getElem?_cons_zero,List.getElem?_cons_succ]
  refine hrd.mono ?_
  rintro _ _ ⟨rfl,rfl⟩
  rename_i τ
  unfold ddA
  simp -implicitDefEqProofs(disch:=omega)only[Nat.reduceEqDiff,↓reduceIte,vcu,↓vcd,opK_some,List.getElem?_toArray,List.getElem?_cons_zero,List.getElem?_cons_succ]
  refine r_new ze41 fun c9 τ3 n9 s9 e9=>?_
  replace e9:τ3 c9=some ⟨[.int .i64 0,.int .i64 0,.string (tx [])],false⟩:=e9
  refine r_sets (g:=c9) (i:=0) (C:=[.int .i64 0,.int .i64 0,.string (tx [])]) z9q z9co41 z9r z9z e9 z9l fun τ4 k4 e4=>?_
  have S4:Sub τ τ4:=k4.sub s9 n9
  cases hq:readO line with
  | none =>
   rw[hq] at e0
   dsimp only at e0
   rw[e0] at hrj
   have hP:(rdP line).2=false:=by unfold rdP;rw[hq]
   have he:((rj [] s).2:Int)=(s.length:Int) - (line++10 :: behind).length:=by rw[hrj];simp only;omega
   rw[hP]
   simp -implicitDefEqProofs(disch:=omega)only[Nat.reduceEqDiff,↓reduceIte,vcu,↓vcd,h0,h5,Bool.not_true,Bool.not_false]
   refine fin_two Tryz.results7 ⟨a 4,?_,hs.trans S4,?_⟩
   ·simp -implicitDefEqProofs(disch:=omega)only[Nat.reduceEqDiff,↓reduceIte,vcu,↓vcd,h0,h5]
    rw[he]
   ·rw[hrj];simp only[List.append_nil];exact how.sub S4
  | some d =>
   rw[hq] at e0
   dsimp only at e0
   rw[e0] at hrj
   have hP:rdP line=(d,true):=by unfold rdP;rw[hq]
   rw[hP]
   rw[hP] at e4
   replace e4:τ4 c9=some ⟨[.int .i64 d.k,.int .i64 d.l,.string (tx d.t)],false⟩:=e4
   have l4:lds τ4 c9 0 3=some [.int .i64 d.k,.int .i64 d.l,.string (tx d.t)]:=lds_three (ld_of e4 rfl) (ld_of e4 rfl) (ld_of e4 rfl)
   simp -implicitDefEqProofs(disch:=omega)only[Nat.reduceEqDiff,↓reduceIte,vcu,↓vcd,h0,h5,Bool.not_true,Bool.not_false,l4,co41]
   refine r_lit el24 (out:=#[.int .i64 d.k,.int .i64 d.l,.string (tx d.t)]) (by first|kernel_rfl | (simp -implicitDefEqProofs(disch:=omega)only[Nat.reduceEqDiff,↓reduceIte,vcu,↓vcd];kernel_rfl)) (by rfl) fun e5 T5 n5 s5 w5=>?_
   replace w5:T5 e5=some ⟨dds [d],false⟩:=w5
   refine r_pushDN (e:=e5) (β:=σ) (cs:=ds) (ds:=[d]) el24 om9 sl24 (hs.trans (S4.trans s5)) (by simp -implicitDefEqProofs(disch:=omega)only[Nat.reduceEqDiff,↓reduceIte,vcu,↓vcd];exact how.sub (S4.trans s5)) z9r w5 (by simp) (by simp only[List.length_singleton];omega) fun v6 T6 k6 o6=>?_
   simp -implicitDefEqProofs(disch:=omega)only[Nat.reduceEqDiff,↓reduceIte,vcu,↓vcd,h0,h5]
   refine⟨⟨by first|trivial|exact h0.symm,trivial⟩,behind.length,by omega,behind,ds++[d],rfl,rfl,by omega,by simp;omega,?_,k6,o6⟩
   rw[hrj]
   refine Prod.ext ?_ ?_
   ·simp
   ·simp only;omega
theorem rdS_dec {s:List UInt8} (h0:s.getD 0 0≠48):∀(k:Nat),1≤k→k≤s.length→∀n,rdS s k=some n→∃m:Nat,n=m∧1≤m∧m < 10 ^ k∧decN m=s.take k
 | 0,h,_,_,_=>by omega
 | 1,_,hl,n,h=>by
  rw[rdS,rdS] at h
  simp only[Option.bind_some] at h
  split at h
  ·rename_i hd
   obtain⟨hd1,hd2⟩:=hd
   have hb:(s.getD 0 0).toNat≠48:=fun e=>h0 (by rw[←UInt8.toNat_inj];exact e)
   refine⟨(s.getD 0 0).toNat - 48,by have:=Option.some.inj h;omega,by omega,by omega,?_⟩
   unfold decN
   rw[dif_pos om9,show 48+((s.getD 0 0).toNat - 48)=(s.getD 0 0).toNat by omega,UInt8.ofNat_toNat]
   cases s with
   | nil=>simp at hl
   | cons b r=>simp [List.getD]
  ·cases h
 | k+2,_,hl,n,h=>by
  rw[rdS] at h
  cases hq:rdS s (k+1) with
  | none=>rw[hq] at h;cases h
  | some q =>
   rw[hq] at h
   simp only[Option.bind_some] at h
   obtain⟨m0,rfl,h1,h2,h3⟩:=rdS_dec h0 (k+1) om9 om9 q hq
   split at h
   ·rename_i hd
    obtain⟨hd1,hd2⟩:=hd
    refine⟨10 * m0+((s.getD (k+1) 0).toNat - 48),by have:=Option.some.inj h;omega,by omega,by rw[Nat.pow_succ];omega,?_⟩
    rw[decN,dif_neg om9,show (10 * m0+((s.getD (k+1) 0).toNat - 48)) / 10=m0 by omega,show (10 * m0+((s.getD (k+1) 0).toNat - 48)) % 10=(s.getD (k+1) 0).toNat - 48 by omega,h3,
     show 48+((s.getD (k+1) 0).toNat - 48)=(s.getD (k+1) 0).toNat by omega,UInt8.ofNat_toNat]
    have hlt:k+1 < s.length:=by omega
    rw[List.take_succ_eq_append_getElem hlt]
    simp [List.getD,hlt]
   ·cases h
theorem rdN_dec {s:List UInt8} (h:0≤rdN s):∃m:Nat,rdN s=m∧m≤9999∧decN m=s:=by
 unfold rdN at h ⊢
 split at h
 ·rename_i hc
  rw[if_pos hc]
  obtain⟨⟨hl1,hl4⟩,hz⟩:=hc
  cases hq:rdS s s.length with
  | none=>rw[hq] at h;simp at h
  | some q =>
   by_cases h0:s.getD 0 0=48
   ·have h1:s.length=1:=by
     rcases Nat.lt_or_ge 1 s.length with hh|hh
     ·exact absurd ⟨hh,h0⟩ hz
     ·omega
    match s,h1 with
    | [b],_ =>
     simp [List.getD] at h0
     subst h0
     refine⟨0,?_,by omega,by unfold decN;rfl⟩
     have:rdS [48] 1=some 0:=by decide
     rw[show ([48]:List UInt8).length=1 from rfl,this] at hq
     cases hq;rfl
   ·obtain⟨m,rfl,a,b,c⟩:=rdS_dec h0 s.length hl1 (Nat.le_refl _) q hq
    refine⟨m,rfl,?_,by rw[c,List.take_length]⟩
    have:10 ^ s.length≤10 ^ 4:=Nat.pow_le_pow_right (by decide) hl4
    omega
 ·omega
theorem dig_u8:∀q,q < 10→(UInt8.ofNat (48+q)).toNat=48+q:=by decide
theorem decN_dig:∀m:Nat,∀b∈decN m,48≤b.toNat∧b.toNat≤57:=fun m=>by
 induction m using Nat.strongRecOn with
 | _ m ih =>
  intro b hb
  unfold decN at hb
  split at hb
  ·simp only[List.mem_singleton] at hb
   subst hb;rw[dig_u8 m om9];omega
  ·rcases List.mem_append.1 hb with hb|hb
   ·exact ih (m / 10) om9 b hb
   ·simp only[List.mem_singleton] at hb
    subst hb;rw[dig_u8 (m % 10) om9];omega
theorem rdS_pre (u v:List UInt8):∀k,k≤u.length→rdS (u++v) k=rdS u k
 | 0,_=>rfl
 | k+1,h=>by
  have e:(u++v).getD k 0=u.getD k 0:=by simp [List.getD,List.getElem?_append_left (show k < u.length by omega)]
  rw[rdS,rdS,rdS_pre u v k om9,e]
theorem rdS_decN:∀m:Nat,rdS (decN m) (decN m).length=some (m:Int):=fun m=>by
 induction m using Nat.strongRecOn with
 | _ m ih =>
  by_cases h:m < 10
  ·have e:decN m=[UInt8.ofNat (48+m)]:=by unfold decN;rw[dif_pos h]
   rw[e]
   simp only[List.length_cons,List.length_nil,rdS,Option.bind_some,List.getD_cons_zero,dig_u8 m h]
   rw[if_pos om9]
   congr 1
   omega
  ·have e:decN m=decN (m / 10)++[UInt8.ofNat (48+m % 10)]:=by rw[decN,dif_neg h]
   have hg:(decN (m / 10)++[UInt8.ofNat (48+m % 10)]).getD (decN (m / 10)).length 0=UInt8.ofNat (48+m % 10):=by simp [List.getD]
   rw[e,List.length_append,List.length_singleton,rdS,rdS_pre _ _ _ (Nat.le_refl _),ih (m / 10) om9,hg]
   simp only[Option.bind_some,dig_u8 (m % 10) om9]
   rw[if_pos om9]
   congr 1
   omega
theorem decN_lenK:∀k m,m < 10 ^ (k+1)→(decN m).length≤k+1
 | k,m,h=>by
  unfold decN
  by_cases hm:m < 10
  ·rw[dif_pos hm];simp
  ·rw[dif_neg hm,List.length_append,List.length_singleton]
   cases k with
   | zero=>omega
   | succ k=>have:=decN_lenK k (m / 10) (by rw[Nat.pow_succ] at h;omega);omega
theorem decN_head:∀m:Nat,1≤m→(decN m).getD 0 0≠48:=fun m=>by
 induction m using Nat.strongRecOn with
 | _ m ih =>
  intro h1
  by_cases h:m < 10
  ·have e:decN m=[UInt8.ofNat (48+m)]:=by unfold decN;rw[dif_pos h]
   rw[e]
   intro e2
   have:=congrArg UInt8.toNat e2
   rw[List.getD_cons_zero,dig_u8 m h] at this
   have h48:(48:UInt8).toNat=48:=rfl
   omega
  ·have e:decN m=decN (m / 10)++[UInt8.ofNat (48+m % 10)]:=by rw[decN,dif_neg h]
   have hp:0 < (decN (m / 10)).length:=List.length_pos_iff.2 (decN_ne _)
   have hg:(decN (m / 10)++[UInt8.ofNat (48+m % 10)]).getD 0 0=(decN (m / 10)).getD 0 0:=by rw[List.getD_eq_getElem?_getD,List.getD_eq_getElem?_getD,List.getElem?_append_left hp]
   rw[e,hg]
   exact ih (m / 10) om9 om9
theorem parse_app:∀(u v:List UInt8) (acc:Nat),Lib.parseUint10 acc (u++v)=(match Lib.parseUint10 acc u with | .ok a=>Lib.parseUint10 a v|e=>e)
 | [],v,acc=>rfl
 | c :: u,v,acc=>by
  rw[List.cons_append,Lib.parseUint10,Lib.parseUint10]
  split
  ·split
   ·rfl
   ·split
    ·rfl
    ·exact parse_app u v _
  ·rfl
theorem parse_decN:∀m:Nat,m < 100000→Lib.parseUint10 0 (decN m)=.ok m:=fun m=>by
 induction m using Nat.strongRecOn with
 | _ m ih =>
  intro h9
  have one:∀acc q,q < 10→acc < 100000→Lib.parseUint10 acc [UInt8.ofNat (48+q)]=.ok (acc * 10+q):=fun acc q hq ha=>by
   simp only[Lib.parseUint10,dig_u8 q hq]
   rw[if_pos om9,if_neg om9,if_neg om9]
   congr 1
   omega
  by_cases h:m < 10
  ·have e:decN m=[UInt8.ofNat (48+m)]:=by unfold decN;rw[dif_pos h]
   rw[e,one 0 m h om9]
   congr 1
   omega
  ·have e:decN m=decN (m / 10)++[UInt8.ofNat (48+m % 10)]:=by rw[decN,dif_neg h]
   rw[e,parse_app,ih (m / 10) om9 om9]
   dsimp only
   rw[one (m / 10) (m % 10) om9 om9]
   congr 1
   omega
theorem dec_num {m:Nat} (h:m≤9999):rdN (decN m)=m∧Lib.atoiAll (decN m)=.ok m:=by
 have hp:0 < (decN m).length:=List.length_pos_iff.2 (decN_ne _)
 have hl:=decN_lenK 3 m om9
 refine⟨?_,?_⟩
 ·unfold rdN
  have hz:¬ (1 < (decN m).length∧(decN m).getD 0 0=48):=fun hq=>by
   rcases Nat.eq_zero_or_pos m with h0|h0
   ·subst h0
    have:(decN 0).length=1:=by unfold decN;rfl
    omega
   ·exact decN_head m h0 hq.2
  rw[if_pos ⟨⟨hp,hl⟩,hz⟩,rdS_decN,Option.getD_some]
 ·have hpar:=parse_decN m om9
  cases hq:decN m with
  | nil=>rw[hq] at hp;simp at hp
  | cons c r =>
   have hd:=decN_dig m c (by rw[hq];simp)
   rw[hq] at hpar
   unfold Lib.atoiAll
   simp only
   rw[if_neg (show ¬ (c.toNat=43∨c.toNat=45) by omega)]
   unfold Lib.parseMag
   rw[if_neg (by simp),hpar]
   simp only
   rw[if_neg om9,if_neg om9,if_neg om9]
theorem lineNum {s:List UInt8}:(0≤rdN s∧Lib.atoiAll s=.ok (rdN s)∧rdN s≤9999∧decN (rdN s).toNat=s)∨(rdN s < 0∧∀v,Lib.atoiAll s=.ok v→0≤v→v≤9999→decN v.toNat≠s):=by
 rcases Int.lt_or_le (rdN s) 0 with h|h
 ·refine .inr ⟨h,fun v _ h0 h9 e=>?_⟩
  have:=(dec_num (m:=v.toNat) om9).1
  rw[e] at this
  omega
 ·obtain⟨m,e,hm,hd⟩:=rdN_dec h
  refine .inl ⟨h,?_,by omega,by rw[e];exact hd⟩
  have:=(dec_num hm).2
  rw[hd] at this
  rw[this,e]
class GlobT (w0:World):Prop where
 tab : Lib.TabIs Tryz.prog w0 ((Rows.fnReadJournalRow.laid.map (·.1)).getD 2 "") .u64 Lib.pow10Tab
theorem itoaT_calls [hG:GlobT w0] (σ:AHeap) (n:Nat) (hn:n≤9999):ACall Tryz.prog w0 43 [.int .i64 n] σ fun r σ'=>r=.string (tx (decN n))∧σ'=σ :=
 ACall.shelf (R:=fun r=>r=.string (tx (decN n))) kr9 rfl fun w hw=>(Any.strconv_Itoa Tryz.laysM171 (n:Int) om9 om9 w (below_var hw hG.tab)).mono fun e w' ⟨he,k,os,hw'⟩=>by
  subst hw'
  refine⟨_,_,he,fun β=>.string _,⟨rfl,rfl,rfl,by simp [Go.Sort.grow],fun q hq=>?_⟩,?_⟩
  ·simp [Go.Sort.grow,Array.getElem?_append,hq]
  ·rw[show Lib.itoa (n:Int)=decN n by rw[Lib.itoa,if_neg om9,Int.toNat_natCast,decN_lib]];rfl
set_option maxRecDepth 8000 in
theorem readLN_calls [hT:GlobT w0] [hG:GlobE w0] (σ:AHeap) (s:List UInt8) (hl:s.length≤1048576):ACall Tryz.prog w0 83 [.string (tx s)] σ fun r σ'=>r=.tuple #[.int .i64 (if 0≤rdN s then rdN s else 0),.bool (decide (0≤rdN s))]∧σ'=σ:=by
 have hit:=fun (n:Nat) (hn:n≤9999)=>itoaT_calls (w0:=w0) σ n hn
 refine acall_go mixed Tryz.func83 rfl good83 fun pr=>?_
 simp -implicitDefEqProofs(disch:=omega)only[Nat.reduceEqDiff,↓reduceIte,vcu,↓vcd]
 refine (atoi_calls σ s hl).mono ?_
 rintro _ _ ⟨⟨v,hv,rfl⟩ |⟨hno,z,rfl⟩,rfl⟩
 ·rename_i σ
  simp -implicitDefEqProofs(disch:=omega)only[Nat.reduceEqDiff,↓reduceIte,vcu,↓vcd,opK_some,List.getElem?_toArray,List.getElem?_cons_zero,List.getElem?_cons_succ]
  refine r_nilIf Tryz.underlying82 (.inl ⟨by simp -implicitDefEqProofs(disch:=omega)only[Nat.reduceEqDiff,↓reduceIte,vcu,↓vcd],?_⟩)
  have hbad:∀(P:Prop),(0≤rdN s→False)→(if 0≤rdN s then rdN s else 0)=0∧decide (0≤rdN s)=false:=fun _ h=>⟨if_neg h,decide_eq_false h⟩
  rcases lineNum (s:=s) with ⟨h0,h1,h2,h3⟩ |⟨h0,hn⟩
  ·rw[hv] at h1
   have e:v=rdN s:=by injection h1
   rw[if_pos h0,decide_eq_true h0,←e]
   rw[←e] at h0 h2 h3
   obtain⟨n,rfl⟩:∃n:Nat,v=n:=⟨v.toNat,by omega⟩
   rw[Int.toNat_natCast] at h3
   have d1:decide ((n:Int) < 0)=false:=decide_eq_false om9
   have d2:decide ((n:Int) > 9999)=false:=decide_eq_false om9
   have d3:decide (decN n=s)=true:=decide_eq_true h3
   simp -implicitDefEqProofs(disch:=omega)only[Nat.reduceEqDiff,↓reduceIte,vcu,↓vcd,d1,d2]
   refine (hit n om9).mono ?_
   rintro _ _ ⟨rfl,rfl⟩
   simp -implicitDefEqProofs(disch:=omega)only[Nat.reduceEqDiff,↓reduceIte,vcu,↓vcd,opK_some,abin_sneq,d3,Bool.not_true]
   refine fin_two Tryz.results83 ⟨?_,rfl⟩
   simp -implicitDefEqProofs(disch:=omega)only[Nat.reduceEqDiff,↓reduceIte,vcu,↓vcd]
  ·rw[if_neg om9,decide_eq_false om9]
   by_cases hv0:v < 0
   ·have d1:decide (v < 0)=true:=decide_eq_true hv0
    simp -implicitDefEqProofs(disch:=omega)only[Nat.reduceEqDiff,↓reduceIte,vcu,↓vcd,d1]
    refine fin_two Tryz.results83 ⟨?_,rfl⟩
    simp -implicitDefEqProofs(disch:=omega)only[Nat.reduceEqDiff,↓reduceIte,vcu,↓vcd]
   have d1:decide (v < 0)=false:=decide_eq_false hv0
   by_cases hv9:v > 9999
   ·have d2:decide (v > 9999)=true:=decide_eq_true hv9
    simp -implicitDefEqProofs(disch:=omega)only[Nat.reduceEqDiff,↓reduceIte,vcu,↓vcd,d1,d2]
    refine fin_two Tryz.results83 ⟨?_,rfl⟩
    simp -implicitDefEqProofs(disch:=omega)only[Nat.reduceEqDiff,↓reduceIte,vcu,↓vcd]
   have d2:decide (v > 9999)=false:=decide_eq_false hv9
   have hne:=hn v hv om9 om9
   obtain⟨n,rfl⟩:∃n:Nat,v=n:=⟨v.toNat,by omega⟩
   rw[Int.toNat_natCast] at hne
   have d3:decide (decN n=s)=false:=decide_eq_false hne
   simp -implicitDefEqProofs(disch:=omega)only[Nat.reduceEqDiff,↓reduceIte,vcu,↓vcd,d1,d2]
   refine (hit n om9).mono ?_
   rintro _ _ ⟨rfl,rfl⟩
   simp -implicitDefEqProofs(disch:=omega)only[Nat.reduceEqDiff,↓reduceIte,vcu,↓vcd,opK_some,abin_sneq,d3,Bool.not_false]
   refine fin_two Tryz.results83 ⟨?_,rfl⟩
   simp -implicitDefEqProofs(disch:=omega)only[Nat.reduceEqDiff,↓reduceIte,vcu,↓vcd]
 ·rename_i σ
  have hr:¬ 0≤rdN s:=by
   rcases lineNum (s:=s) with ⟨h0,h1,h2,h3⟩ |⟨h0,hn⟩
   ·exact absurd h1 (hno _)
   ·omega
  rw[if_neg hr,decide_eq_false hr]
  simp -implicitDefEqProofs(disch:=omega)only[Nat.reduceEqDiff,↓reduceIte,vcu,↓vcd,opK_some,List.getElem?_toArray,List.getElem?_cons_zero,List.getElem?_cons_succ]
  refine r_nilIf Tryz.underlying82 (.inr ⟨⟨_,_,by simp -implicitDefEqProofs(disch:=omega)only[Nat.reduceEqDiff,↓reduceIte,vcu,↓vcd];rfl⟩,?_⟩)
  simp -implicitDefEqProofs(disch:=omega)only[Nat.reduceEqDiff,↓reduceIte,vcu,↓vcd]
  refine fin_two Tryz.results83 ⟨?_,rfl⟩
  simp -implicitDefEqProofs(disch:=omega)only[Nat.reduceEqDiff,↓reduceIte,vcu,↓vcd]
set_option maxRecDepth 8000 in
theorem textOrNone_calls (σ:AHeap) (n:Int) (hn:n < 100):ACall Tryz.prog w0 84 [.int .i64 n] σ fun r σ'=>r=.string (tx (if n < 0 then w_none else decN n.toNat))∧σ'=σ:=by
 refine acall_go mixed Tryz.func84 rfl good84 fun pr=>?_
 by_cases h:n < 0
 ·have d:decide (n < 0)=true:=decide_eq_true h
  rw[if_pos h]
  simp -implicitDefEqProofs(disch:=omega)only[Nat.reduceEqDiff,↓reduceIte,vcu,↓vcd,d]
  refine fin_one Tryz.results84 ⟨?_,rfl⟩
  simp -implicitDefEqProofs(disch:=omega)only[Nat.reduceEqDiff,↓reduceIte,vcu,↓vcd]
  rfl
 ·have d:decide (n < 0)=false:=decide_eq_false h
  rw[if_neg h]
  obtain⟨m,rfl⟩:∃m:Nat,n=m:=⟨n.toNat,by omega⟩
  rw[Int.toNat_natCast]
  simp -implicitDefEqProofs(disch:=omega)only[Nat.reduceEqDiff,↓reduceIte,vcu,↓vcd,d]
  refine (itoaS_calls σ m om9).mono ?_
  rintro _ _ ⟨rfl,rfl⟩
  simp -implicitDefEqProofs(disch:=omega)only[Nat.reduceEqDiff,↓reduceIte,vcu,↓vcd,opK_some]
  refine fin_one Tryz.results84 ⟨?_,rfl⟩
  simp -implicitDefEqProofs(disch:=omega)only[Nat.reduceEqDiff,↓reduceIte,vcu,↓vcd]
theorem viaS_fst:∀(cs:List Cl) (l:Int) (k:Nat),k < cs.length→hasL l (gc cs k)→(∀c∈cs.take k,¬ hasL l c)→viaS cs l=(gc cs k).v
 | [],l,k,hk,_,_=>by simp at hk
 | c :: cs,l,0,hk,h,_=>by
  have e:gc (c :: cs) 0=c:=rfl
  rw[e] at h ⊢
  unfold viaS
  exact if_pos h
 | c :: cs,l,k+1,hk,h,hn=>by
  have e:gc (c :: cs) (k+1)=gc cs k:=rfl
  rw[e] at h ⊢
  have h0:=hn c (by simp)
  unfold viaS
  rw[if_neg (show ¬ (c.i=l∨c.o=l) from h0)]
  exact viaS_fst cs l k (by simpa using hk) h fun d hd=>hn d (by simp [hd])
theorem viaS_no:∀(cs:List Cl) (l:Int),(∀c∈cs,¬ hasL l c)→viaS cs l=-1
 | [],l,_=>rfl
 | c :: cs,l,hn=>by
  unfold viaS
  rw[if_neg (show ¬ (c.i=l∨c.o=l) from hn c (by simp))]
  exact viaS_no cs l fun d hd=>hn d (by simp [hd])
set_option maxRecDepth 8000 in
theorem via8_calls (σ:AHeap) (h:Nat) (x:Ex) (vp vc:Value) (l:Int) (hh:σ h=some ⟨pcs x vp vc,false⟩) (tc:Tris σ vc x.cs) (hC:CV x.s x.cs) :
  ACall Tryz.prog w0 86 [.pointer (some ⟨h,0,none⟩),.int .i64 l] σ fun r σ'=>r=.int .i64 (viaS x.cs l)∧σ'=σ:=by
 have hl12:=hC.len
 refine acall_go mixed Tryz.func86 rfl good86 fun pr=>?_
 simp -implicitDefEqProofs(disch:=omega)only[Nat.reduceEqDiff,↓reduceIte,vcu,↓vcd]
 refine (callOf_calls σ h x vp vc l hh tc om9).mono ?_
 rintro _ _ ⟨rfl,rfl⟩
 rename_i σ
 rcases fstC_spec (hasL l) x.cs with ⟨e,hn⟩ |⟨k,e,hk,hP,hup⟩
 ·rw[e]
  simp -implicitDefEqProofs(disch:=omega)only[Nat.reduceEqDiff,↓reduceIte,vcu,↓vcd,opK_some]
  refine fin_one Tryz.results86 ⟨?_,rfl⟩
  simp -implicitDefEqProofs(disch:=omega)only[Nat.reduceEqDiff,↓reduceIte,vcu,↓vcd]
  rw[viaS_no _ _ hn]
 ·rw[e,viaS_fst _ _ _ hk hP hup]
  obtain⟨hg,ho,rfl,hrow⟩:=rowC tc om9
  have hgk:x.cs.getD k cl0=gc x.cs k:=rfl
  obtain⟨q1,q2,q3⟩:=hrow k hk
  rw[hgk] at q3
  have x3:ld σ h (0+3)=some (.slice (some ⟨hg,ho,none⟩) x.cs.length 3):=ld_of hh rfl
  simp -implicitDefEqProofs(disch:=omega)only[Nat.reduceEqDiff,↓reduceIte,vcu,↓vcd,opK_some,x3,q3,Nat.add_zero]
  refine fin_one Tryz.results86 ⟨?_,rfl⟩
  simp -implicitDefEqProofs(disch:=omega)only[Nat.reduceEqDiff,↓reduceIte,vcu,↓vcd]
set_option maxRecDepth 8000 in
theorem refusal_calls (σ:AHeap) (h:Nat) (x:Ex) (vp vc:Value) (d:Dd) (hh:σ h=some ⟨pcs x vp vc,false⟩) (tp:Texts σ vp x.ps) (hok:ExOk x) (hd:0≤d.l) :
  ACall Tryz.prog w0 80 [.pointer (some ⟨h,0,none⟩),ddA d] σ fun r σ'=>r=.string (tx (refuse x d))∧σ'=σ:=by
 obtain⟨K,L,N⟩:=d
 have hL0:0≤L:=hd
 have hLn:=hok.2.2.1
 have b1:=(exB_of hok).1
 unfold ddA
 dsimp only
 refine acall_go mixed Tryz.func80 rfl good80 fun pr=>?_
 simp -implicitDefEqProofs(disch:=omega)only[Nat.reduceEqDiff,↓reduceIte,vcu,↓vcd]
 refine r_boxed fun b T nb s1 e1=>?_
 replace e1:T b=some ⟨[.int .i64 K,.int .i64 L,.string (tx N)],false⟩:=e1
 have hh1:=s1 _ _ hh
 have x0:lds T h 0 3=some [.int .i64 x.s.O,.int .i64 x.s.E,.int .i64 x.s.M]:=lds_three (ld_of hh1 rfl) (ld_of hh1 rfl) (ld_of hh1 rfl)
 have x4:ld T h (0+4)=some vp:=ld_of hh1 rfl
 have u0:ld T b (0+0)=some (.int .i64 K):=ld_of e1 rfl
 have u1:ld T b (0+1)=some (.int .i64 L):=ld_of e1 rfl
 have u2:ld T b (0+2)=some (.string (tx N)):=ld_of e1 rfl
 have hrf:refuse x ⟨K,L,N⟩=if K≠0∨(x.ps.length:Int)≤L then w_no else if lineS x.ps N < 0 then w_wrong else w_busy:=rfl
 rw[hrf]
 by_cases hK:K=0
 case neg =>
  have dK:decide (K≠0)=true:=decide_eq_true hK
  rw[if_pos (.inl hK)]
  simp -implicitDefEqProofs(disch:=omega)only[Nat.reduceEqDiff,↓reduceIte,vcu,↓vcd,u0,dK]
  refine fin_drop Tryz.results80 σ s1 ⟨?_,rfl⟩
  simp -implicitDefEqProofs(disch:=omega)only[Nat.reduceEqDiff,↓reduceIte,vcu,↓vcd]
  rfl
 have dK:decide (K≠0)=false:=decide_eq_false fun h=>h hK
 simp -implicitDefEqProofs(disch:=omega)only[Nat.reduceEqDiff,↓reduceIte,vcu,↓vcd,u0,dK,x0,u1,co29,Nat.add_zero]
 rw[r_callq]
 refine⟨_,hasLine_at T x.s.O x.s.E x.s.M L hok.1.1,?_⟩
 rw[←hLn]
 by_cases hl:0≤L∧L≤(x.ps.length:Int) - 1
 case neg =>
  rw[decide_eq_false hl,if_pos (.inr om9)]
  simp -implicitDefEqProofs(disch:=omega)only[Nat.reduceEqDiff,↓reduceIte,vcu,↓vcd,Bool.not_false]
  refine fin_drop Tryz.results80 σ s1 ⟨?_,rfl⟩
  simp -implicitDefEqProofs(disch:=omega)only[Nat.reduceEqDiff,↓reduceIte,vcu,↓vcd]
  rfl
 rw[decide_eq_true hl,if_neg (fun h=>h.elim (fun q=>q hK) fun q=>by omega)]
 have hli:=lineOf8_calls (w0:=w0) T vp x.ps N (tp.sub s1) b1
 simp -implicitDefEqProofs(disch:=omega)only[Nat.reduceEqDiff,↓reduceIte,vcu,↓vcd,Bool.not_true]
 refine region_tree mixed (quiets [0,1,2,4] (quiets [3,5] (.one 6 (quiets [7,8] .stop)))) [([3,5],Sub T)] kr9 kr9 (fun p hp=>by simp only[List.mem_singleton] at hp;subst hp;exact Sub.refl _) ?_
 refine tree_quiets _ _ _ _ sf0 kr9 kr9 ?_
 simp -implicitDefEqProofs(disch:=omega)only[Nat.reduceEqDiff,↓reduceIte,vcu,↓vcd,vcp]
 refine tree_quiets T _ _ _ sf1 kr9 kr9 ?_
 simp -implicitDefEqProofs(disch:=omega)only[Nat.reduceEqDiff,↓reduceIte,vcu,↓vcd,vcp,x4,u2]
 refine tree_one rfl ?_
 try simp -implicitDefEqProofs(disch:=omega)only[Nat.reduceEqDiff,↓reduceIte,vcu,↓vcd]
 refine hli.mono ?_
 rintro _ _ ⟨rfl,rfl⟩
 rename_i T
 simp -implicitDefEqProofs(disch:=omega)only[Nat.reduceEqDiff,↓reduceIte,vcu,↓vcd,opK_some]
 refine⟨.inl rfl,?_⟩
 refine tree_quiets _ _ _ _ sf0 kr9 kr9 ?_
 by_cases hn:lineS x.ps N < 0
 ·have dn:decide (lineS x.ps N < 0)=true:=decide_eq_true hn
  rw[if_pos hn]
  simp -implicitDefEqProofs(disch:=omega)only[Nat.reduceEqDiff,↓reduceIte,vcu,↓vcd,vcp,dn]
  refine tree_stop ?_
  simp -implicitDefEqProofs(disch:=omega)only[Nat.reduceEqDiff,↓reduceIte,vcu,↓vcd]
  refine fin_drop Tryz.results80 σ s1 ⟨?_,rfl⟩
  simp -implicitDefEqProofs(disch:=omega)only[Nat.reduceEqDiff,↓reduceIte,vcu,↓vcd]
  rfl
 ·have dn:decide (lineS x.ps N < 0)=false:=decide_eq_false hn
  rw[if_neg hn]
  simp -implicitDefEqProofs(disch:=omega)only[Nat.reduceEqDiff,↓reduceIte,vcu,↓vcd,vcp,dn]
  refine tree_stop ?_
  simp -implicitDefEqProofs(disch:=omega)only[Nat.reduceEqDiff,↓reduceIte,vcu,↓vcd]
  refine fin_drop Tryz.results80 σ s1 ⟨?_,rfl⟩
  simp -implicitDefEqProofs(disch:=omega)only[Nat.reduceEqDiff,↓reduceIte,vcu,↓vcd]
  rfl
theorem decN_b (m:Nat) (b:UInt8) (hb:b∈decN m):b≠32:=by
 rintro rfl
 have:=(decN_dig m 32 hb).1
 revert this;decide
theorem joinT_lib (x:List UInt8) (r:List (List UInt8)):∀k,k≤r.length→joinT (x :: r) k=x++Lib.joinTail [44] (r.take k)
 | 0,_=>by simp [joinT,Lib.joinTail]
 | k+1,h=>by
  rw[joinT,joinT_lib x r k om9,Lib.joinTail_take_succ [44] r k (r.getD k []) (by simp [List.getD,show k < r.length by omega])]
  simp
theorem joinTail_len:∀(r:List (List UInt8)),(∀y∈r,y.length≤3)→(Lib.joinTail [44] r).length≤r.length * 4
 | [],_=>by simp [Lib.joinTail]
 | y :: r,h=>by
  have e:Lib.joinTail [44] (y :: r)=44 :: (y++Lib.joinTail [44] r):=by simp [Lib.joinTail]
  have h1:=h y (by simp)
  have ih:=joinTail_len r fun z hz=>h z (by simp [hz])
  rw[e]
  simp only[List.length_cons,List.length_append]
  omega
theorem join_calls (σ:AHeap) (v:Value) (ps:List (List UInt8)) (hv:Texts σ v ps) (h0:0 < ps.length) (hl:ps.length≤1000) (hp:∀y∈ps,y.length≤3) :
  ACall Tryz.prog w0 82 [v,.string (tx [44])] σ fun r σ'=>r=.string (tx (joinT ps (ps.length - 1)))∧σ'=σ:=by
 obtain⟨g,o,rfl,hat⟩:=rowT hv h0
 refine⟨by kernel_rfl,fun pr β w args' hH hA=>?_⟩
 obtain⟨v',e1,r1⟩:=hA.2 0 _ rfl
 obtain⟨s',e2,r2⟩:=hA.2 1 _ rfl
 have hlen:args'.length=2:=hA.1.symm
 obtain rfl:args'=[v',s']:=by
  match args',hlen with
  | [a,b],_=>simp at e1 e2;rw[e1,e2]
 have es:s'=.string (tx [44]):=r2.scal_eq rfl
 subst es
 rcases relv_slc r1 with ⟨p,cap,hpb,hc,hlc,rfl⟩ |⟨hl0,_⟩
 case inr=>omega
 have hcell:∀(j:Nat) (x:ByteArray),(ps.map tx)[j]?=some x→w.cell? ⟨p.block,p.shift+o+j,none⟩=some (.string x):=fun j x hx=>by
  have hj:j < ps.length:=by
   rcases Nat.lt_or_ge j ps.length with hh|hh
   ·exact hh
   ·rw[List.getElem?_eq_none (by simpa using hh)] at hx;cases hx
  have h2:=hat j hj
  unfold ld at h2
  obtain⟨ob,hob,hcl⟩:=Option.bind_eq_some_iff.1 h2
  obtain⟨u,q1,q2⟩:=hH.cell hob hcl hpb
  have:=q2.scal_eq rfl
  subst this
  rw[show p.shift+o+j=p.shift+(o+j) by omega,q1]
  simp [List.getD,hj] at hx ⊢
  rw[←hx]
 have hbk:p.block < w.heap.size:=by
  have:=hcell 0 (tx (ps.getD 0 [])) (by simp [List.getD,h0])
  rcases Nat.lt_or_ge p.block w.heap.size with hh|hh
  ·exact hh
  ·simp [World.cell?,Array.getElem?_eq_none hh] at this
 have hmap:(ps.map tx).map (·.data.toList)=ps:=by
  rw[List.map_map]
  conv=>rhs;rw[←List.map_id ps]
  exact List.map_congr_left fun x _=>tx_list
 have hj:Lib.join ((ps.map tx).map (·.data.toList)) (tx [44]).data.toList=joinT ps (ps.length - 1)∧(joinT ps (ps.length - 1)).length≤5000:=by
  rw[hmap,tx_list]
  cases ps with
  | nil=>simp at h0
  | cons x r =>
   rw[Lib.join_cons,show (x :: r).length - 1=r.length by simp,joinT_lib x r r.length (Nat.le_refl _),List.take_length]
   refine⟨rfl,?_⟩
   have h1:=hp x (by simp)
   have h2:=joinTail_len r fun y hy=>hp y (by simp [hy])
   simp only[List.length_append,List.length_cons] at *
   omega
 have hlm:(ps.map tx).length=ps.length:=List.length_map ..
 have hc:=Tryz.strings_Join p.block (p.shift+o) cap (ps.map tx) (tx [44]) w hcell hbk om9 om9 (by rw[hj.1];omega)
 rw[hlm,hj.1] at hc
 exact hc.mono fun e w' ⟨he,hb⟩=>⟨β,_,_,σ,.refl _,he,.string _,hH.grow (hH.below.trans (hb.mono hH.below.size)) hb.size (fun k hk=>hb.block k hk),rfl,rfl⟩
theorem cutF_two {c:UInt8} {w dg:List UInt8} (hw:∀b∈w,b≠c):(cutT c (w++c :: dg)).getD 0 []=w∧(((∀b∈dg,b≠c)∧cutT c (w++c :: dg)=[w,dg])∨((∃b∈dg,b=c)∧2 < (cutT c (w++c :: dg)).length)):=by
 unfold cutT
 rw[cutF_app hw,List.nil_append]
 refine⟨rfl,?_⟩
 rcases lib_split c dg with h |⟨u,t,rfl,h⟩
 ·exact .inl ⟨h,by rw[cutF_plain h,List.nil_append]⟩
 ·refine .inr ⟨⟨c,by simp,rfl⟩,?_⟩
  rw[cutF_app h]
  have:=cutF_ne c t []
  cases hq:cutF c [] t with
  | nil=>exact absurd hq this
  | cons a l=>simp
theorem ask_cut (t:List UInt8):ask0 t=(Lib.cut t [32]).1∧((0≤rdN (Lib.cut t [32]).2.1∧askN t=rdN (Lib.cut t [32]).2.1)∨(rdN (Lib.cut t [32]).2.1 < 0∧askN t < 0)):=by
 rcases lib_split 32 t with h |⟨w,dg,rfl,h⟩
 ·rw[lib_cut_no h]
  have e:cutT 32 t=[t]:=by unfold cutT;rw[cutF_plain h,List.nil_append]
  unfold ask0 askN
  rw[e]
  exact⟨rfl,.inr ⟨(show rdN [] < 0 from by decide),by simp⟩⟩
 ·rw[lib_cut_at h]
  obtain⟨h1,h2⟩:=cutF_two (dg:=dg) h
  unfold ask0 askN
  refine⟨h1,?_⟩
  dsimp only
  rcases h2 with ⟨hn,e⟩ |⟨⟨b,hb,e⟩,h3⟩
  ·rw[e]
   simp only[List.length_cons,List.length_nil,if_true,List.getD_cons_succ,List.getD_cons_zero]
   rcases Int.lt_or_le (rdN dg) 0 with h|h
   ·exact .inr ⟨h,h⟩
   ·exact .inl ⟨h,by simp⟩
  ·rw[if_neg om9]
   refine .inr ⟨?_,by omega⟩
   rcases Int.lt_or_le (rdN dg) 0 with hh|hh
   ·exact hh
   ·obtain⟨m,_,hm,hd⟩:=rdN_dec hh
    rw[←hd,e] at hb
    exact absurd rfl (decN_b m 32 hb)
theorem askT_words {x:Ex} (hok:ExOk x) {t:List UInt8} (h1:t≠w_calls) (h2:t≠w_plan):askT x t =
  if 0≤rdN (Lib.cut t [32]).2.1∧(Lib.cut t [32]).1=w_who then (if peerS x.cs (rdN (Lib.cut t [32]).2.1) < 0 then w_none else decN (peerS x.cs (rdN (Lib.cut t [32]).2.1)).toNat)
  else if 0≤rdN (Lib.cut t [32]).2.1∧(Lib.cut t [32]).1=w_via then (if viaS x.cs (rdN (Lib.cut t [32]).2.1) < 0 then w_none else decN (viaS x.cs (rdN (Lib.cut t [32]).2.1)).toNat)
  else w_what:=by
 obtain⟨e0,hh⟩:=ask_cut t
 unfold askT
 rw[if_neg h1,if_neg h2,e0]
 rcases hh with ⟨hn,e⟩ |⟨hn,hm⟩
 ·rw[e]
  have hvia:peerS x.cs (rdN (Lib.cut t [32]).2.1) < 0 ↔ viaS x.cs (rdN (Lib.cut t [32]).2.1) < 0:=by
   have hC:=hok.2.2.2.1
   generalize rdN (Lib.cut t [32]).2.1=l
   rcases fstC_spec (hasL l) x.cs with ⟨_,hno⟩ |⟨k,_,hk,hP,hup⟩
   ·rw[peerS_no _ _ hno,viaS_no _ _ hno]
   ·rw[peerS_fst _ _ _ hk hP hup,viaS_fst _ _ _ hk hP hup]
    have hR:=hC.2.1 _ (gc_mem hk)
    have r1:=hR.1
    have r2:=hR.2.1
    have r3:=hR.2.2.1
    rcases hP with q|q<;>constructor<;>intro _<;>omega
  have hwv:w_who≠w_via:=by decide
  by_cases c1:(Lib.cut t [32]).1=w_who
  ·by_cases c3:peerS x.cs (rdN (Lib.cut t [32]).2.1) < 0
   ·rw[if_pos ⟨hn,.inl c1,c3⟩,if_pos ⟨hn,c1⟩,if_pos c3]
   ·rw[if_neg (fun q=>c3 q.2.2),if_pos ⟨hn,c1⟩,if_pos ⟨hn,c1⟩,if_neg c3]
  ·by_cases c2:(Lib.cut t [32]).1=w_via
   ·by_cases c3:peerS x.cs (rdN (Lib.cut t [32]).2.1) < 0
    ·rw[if_pos ⟨hn,.inr c2,c3⟩,if_neg (fun q=>c1 q.2),if_pos ⟨hn,c2⟩,if_pos (hvia.1 c3)]
    ·rw[if_neg (fun q=>c3 q.2.2),if_neg (fun q=>c1 q.2),if_pos ⟨hn,c2⟩,if_neg (fun q=>c1 q.2),if_pos ⟨hn,c2⟩,if_neg (fun q=>c3 (hvia.2 q))]
   ·rw[if_neg (fun q=>q.2.1.elim c1 c2),if_neg (fun q=>c1 q.2),if_neg (fun q=>c2 q.2),if_neg (fun q=>c1 q.2),if_neg (fun q=>c2 q.2)]
 ·rw[if_neg (fun q=>by omega),if_neg (fun q=>by omega),if_neg (fun q=>by omega),if_neg (fun q=>by omega),if_neg (fun q=>by omega)]
set_option maxRecDepth 8000 in
set_option maxHeartbeats 1600000 in
theorem answer_calls [hT:GlobT w0] [hG:GlobE w0] [hM:GlobM w0] (B τ:AHeap) (h:Nat) (x:Ex) (t:List UInt8) (hp:Pt B τ h x) (hok:ExOk x) (hl:t.length≤1048576) :
  ACall Tryz.prog w0 41 [.pointer (some ⟨h,0,none⟩),.string (tx t)] τ fun r σ'=>r=.string (tx (lineX x t).2)∧Pt B σ' h (lineX x t).1:=by
 have hxB:=exB_of hok
 have hC:=hok.2.2.2.1
 have hl12:=hC.len
 refine acall_go mixed Tryz.func41 rfl good41 fun pr=>?_
 simp -implicitDefEqProofs(disch:=omega)only[Nat.reduceEqDiff,↓reduceIte,vcu,↓vcd]
 refine (implRD_calls τ t hl).mono ?_
 rintro _ _ ⟨rfl,rfl⟩
 rename_i τ
 unfold ddA
 simp -implicitDefEqProofs(disch:=omega)only[Nat.reduceEqDiff,↓reduceIte,vcu,↓vcd,opK_some,List.getElem?_toArray,List.getElem?_cons_zero,List.getElem?_cons_succ]
 refine r_new ze41 fun c5 τ1 n5 s5 e5=>?_
 replace e5:τ1 c5=some ⟨[.int .i64 0,.int .i64 0,.string (tx [])],false⟩:=e5
 refine r_sets (g:=c5) (i:=0) (C:=[.int .i64 0,.int .i64 0,.string (tx [])]) z9q z9co41 z9r z9z e5 z9l fun τ2 k2 e2=>?_
 have S2:Sub τ τ2:=k2.sub s5 n5
 have hp2:=hp.sub S2
 cases hq:readO t with
 | some d =>
  have hP:rdP t=(d,true):=by unfold rdP;rw[hq]
  have hdt:=deedT_ok (d:=d) (by rw[(readO_some hq).1];exact (readO_some hq).2)
  rw[hP] at e2 ⊢
  replace e2:τ2 c5=some ⟨[.int .i64 d.k,.int .i64 d.l,.string (tx d.t)],false⟩:=e2
  have l2:lds τ2 c5 0 3=some [.int .i64 d.k,.int .i64 d.l,.string (tx d.t)]:=lds_three (ld_of e2 rfl) (ld_of e2 rfl) (ld_of e2 rfl)
  have hdl:d.t.length≤1048576:=by
   rcases hdt.2.2 with ⟨_,e⟩ |⟨_,_,_,h3⟩
   ·rw[e];simp
   ·omega
  -- the deed's box stays beside the parts
  obtain⟨hB2,hn2,vp,vc,hh2,ow2,oc2⟩:=id hp2
  obtain⟨hB0,hn0,vp0,vc0,hh0,ow0,oc0⟩:=id hp
  have hBb:B c5=none:=free_sub hB0 n5
  have hbh:c5≠h:=by rintro rfl;rw[hh0] at n5;cases n5
  have hpb:Pt (B.upd c5 (τ2 c5)) τ2 h x:=by
   refine⟨fun q ob hq=>?_,by rw[AHeap.upd_ne _ _ hbh.symm];exact hn0,vp0,vc0,S2 _ _ hh0,?_,?_⟩
   ·by_cases e:q=c5
    ·subst e;rw[AHeap.upd_same] at hq;exact hq
    ·rw[AHeap.upd_ne _ _ e] at hq;exact S2 _ _ (hB0 _ _ hq)
   ·exact ow0.imp id fun⟨g,a1,a2,a3⟩=>⟨g,a1,S2 _ _ a2,Bs_free (by rw[AHeap.upd_ne _ _ (ne_of' n5 a2)];exact (Bs_none a3).1) (Bs_none a3).2.1 (Bs_none a3).2.1⟩
   ·exact oc0.imp id fun⟨g,a1,a2,a3⟩=>⟨g,a1,S2 _ _ a2,Bs_free (by rw[AHeap.upd_ne _ _ (ne_of' n5 a2)];exact (Bs_none a3).1) (Bs_none a3).2.1 (Bs_none a3).2.1⟩
  have hdo:=do_calls (w0:=w0) (B.upd c5 (τ2 c5)) τ2 h x d hpb hok hdl
  have hdd:ddA d=.agg #[.int .i64 d.k,.int .i64 d.l,.string (tx d.t)]:=rfl
  rw[hdd] at hdo
  simp -implicitDefEqProofs(disch:=omega)only[Nat.reduceEqDiff,↓reduceIte,vcu,↓vcd,l2,co41]
  refine hdo.mono ?_
  rintro _ τ3 ⟨rfl,hp3⟩
  have e3:τ3 c5=some ⟨[.int .i64 d.k,.int .i64 d.l,.string (tx d.t)],false⟩:=by rw[←e2];rw[e2];exact hp3.1 _ _ (by rw[AHeap.upd_same];exact e2)
  have l3:lds τ3 c5 0 3=some [.int .i64 d.k,.int .i64 d.l,.string (tx d.t)]:=lds_three (ld_of e3 rfl) (ld_of e3 rfl) (ld_of e3 rfl)
  have hp3':=hp3.older (sub_upd (o:=τ2 c5) hBb)
  cases hdo':doO x d with
  | some y =>
   rw[hdo'] at hp3'
   have hX:lineX x t=(y,w_ok):=by unfold lineX;rw[hq];dsimp only;rw[hdo']
   rw[hX]
   simp -implicitDefEqProofs(disch:=omega)only[Nat.reduceEqDiff,↓reduceIte,vcu,↓vcd,opK_some,Option.isSome_some]
   refine fin_one Tryz.results41 ⟨?_,hp3'⟩
   simp -implicitDefEqProofs(disch:=omega)only[Nat.reduceEqDiff,↓reduceIte,vcu,↓vcd]
   rfl
  | none =>
   rw[hdo'] at hp3'
   have hX:lineX x t=(x,refuse x d):=by unfold lineX;rw[hq];dsimp only;rw[hdo']
   rw[hX]
   obtain⟨hB3,hn3,vp3,vc3,hh3,ow3,oc3⟩:=id hp3'
   have href:=refusal_calls (w0:=w0) τ3 h x vp3 vc3 d hh3 ow3.texts hok hdt.2.1.1
   rw[hdd] at href
   simp -implicitDefEqProofs(disch:=omega)only[Nat.reduceEqDiff,↓reduceIte,vcu,↓vcd,opK_some,Option.isSome_none,l3,co41]
   refine href.mono ?_
   rintro _ _ ⟨rfl,rfl⟩
   simp -implicitDefEqProofs(disch:=omega)only[Nat.reduceEqDiff,↓reduceIte,vcu,↓vcd,opK_some]
   refine fin_one Tryz.results41 ⟨?_,hp3'⟩
   simp -implicitDefEqProofs(disch:=omega)only[Nat.reduceEqDiff,↓reduceIte,vcu,↓vcd]
 | none =>
  have hP:rdP t=(⟨0,0,[]⟩,false):=by unfold rdP;rw[hq]
  rw[hP]
  clear e2 hP
  obtain⟨hB2,hn2,vp,vc,hh2,ow2,oc2⟩:=id hp2
  have x3:ld τ2 h (0+3)=some vc:=ld_of hh2 rfl
  have x4:ld τ2 h (0+4)=some vp:=ld_of hh2 rfl
  have eN:abin Tryz.prog 9 .eql (.string (tx t)) (.string { data:=#[110,105,103,104,116] })=some (.bool (decide (t=w_night))):=abin_seql (ys:=w_night)
  have eC:abin Tryz.prog 9 .eql (.string (tx t)) (.string { data:=#[99,97,108,108,115] })=some (.bool (decide (t=w_calls))):=abin_seql (ys:=w_calls)
  have eP:abin Tryz.prog 9 .eql (.string (tx t)) (.string { data:=#[112,108,97,110] })=some (.bool (decide (t=w_plan))):=abin_seql (ys:=w_plan)
  by_cases hN:t=w_night
  ·have dN:decide (t=w_night)=true:=decide_eq_true hN
   have hX:lineX x t=(⟨x.s,x.ps,[]⟩,w_ok):=by rw[hN];exact lineX_night x
   have hrun:=night_is hok
   have hnd:=implND_calls (w0:=w0) τ2 (exV vp vc x) x ⟨vp,vc,rfl,ow2.texts,oc2.tris⟩ hxB
   rw[show nightV x=nightL x.cs from if_pos hok] at hnd
   rw[hX]
   simp -implicitDefEqProofs(disch:=omega)only[Nat.reduceEqDiff,↓reduceIte,vcu,↓vcd,eN,dN]
   refine (whole_calls τ2 h x vp vc hh2 (texts_slc ow2.texts) (tris_slc oc2.tris)).mono ?_
   rintro _ _ ⟨rfl,rfl⟩
   rename_i τ2
   simp -implicitDefEqProofs(disch:=omega)only[Nat.reduceEqDiff,↓reduceIte,vcu,↓vcd,opK_some]
   refine hnd.mono ?_
   rintro vd τ3 ⟨S3,wd⟩
   obtain⟨B',hBB,hp3,hdd⟩:∃B',Sub B B'∧Pt B' τ3 h x∧∀T,Sub B' T→Dds T vd (nightL x.cs):=by
    rcases wd with ⟨rfl,e⟩ |⟨g,rfl,hg,hgn⟩
    ·exact⟨B,Sub.refl _,hp2.sub S3,fun T _=>.inl ⟨rfl,e⟩⟩
    ·have hBg:B g=none:=free_sub hB2 hgn
     have hgh:g≠h:=by rintro rfl;rw[hh2] at hgn;cases hgn
     refine⟨B.upd g (τ3 g),sub_upd hBg,⟨fun q ob hq=>?_,by rw[AHeap.upd_ne _ _ hgh.symm];exact hn2,vp,vc,S3 _ _ hh2,?_,?_⟩,fun T hT=>.inr ⟨g,0,rfl,ddsAt_own (hT _ _ (by rw[AHeap.upd_same];exact hg))⟩⟩
     ·by_cases e:q=g
      ·subst e;rw[AHeap.upd_same] at hq;exact hq
      ·rw[AHeap.upd_ne _ _ e] at hq;exact S3 _ _ (hB2 _ _ hq)
     ·exact ow2.imp id fun⟨g',a1,a2,a3⟩=>⟨g',a1,S3 _ _ a2,Bs_free (by rw[AHeap.upd_ne _ _ (ne_of' hgn a2)];exact (Bs_none a3).1) (Bs_none a3).2.1 (Bs_none a3).2.1⟩
     ·exact oc2.imp id fun⟨g',a1,a2,a3⟩=>⟨g',a1,S3 _ _ a2,Bs_free (by rw[AHeap.upd_ne _ _ (ne_of' hgn a2)];exact (Bs_none a3).1) (Bs_none a3).2.1 (Bs_none a3).2.1⟩
   have hlenN:(nightL x.cs).length=x.cs.length:=by simp [nightL]
   have htN:∀d∈nightL x.cs,d.t.length≤1048576:=fun d hd=>by
    obtain⟨c,_,rfl⟩:=List.mem_map.1 hd
    simp
   have lnd:=lenD (hdd τ3 hp3.1)
   generalize hds:nightL x.cs=ds at hdd hrun hlenN htN lnd
   simp -implicitDefEqProofs(disch:=omega)only[Nat.reduceEqDiff,↓reduceIte,vcu,↓vcd,opK_some,lnd]
   refine vc_loop_c mixed kr9 [0,31,32] (fun m a T=>∃(k n:Nat) (y:Ex),m+k=ds.length∧a 33=.int .i64 k∧ExOk y∧runN x ds=((runN y (ds.drop k)).1,n+(runN y (ds.drop k)).2)∧Pt B' T h y) ds.length
    ⟨0,0,x,by simp,rfl,hok,by simp,hp3⟩ ?_
   rintro m a T hc ⟨k,n,y,hk,h33,hyo,hrn,hpy⟩
   simp -implicitDefEqProofs(disch:=omega)only[Nat.reduceEqDiff,↓reduceIte,vcu,↓vcd] at hc
   obtain⟨h0,h31,h32,-⟩:=hc
   by_cases hlt:k < ds.length
   case neg =>
    obtain rfl:k=ds.length:=by omega
    rw[List.drop_length,hrun] at hrn
    have hy:(⟨x.s,x.ps,[]⟩:Ex)=y:=congrArg Prod.fst hrn
    simp -implicitDefEqProofs(disch:=omega)only[Nat.reduceEqDiff,↓reduceIte,vcu,↓vcd,h0,h31,h32,h33]
    refine fin_one Tryz.results41 ⟨?_,?_⟩
    ·simp -implicitDefEqProofs(disch:=omega)only[Nat.reduceEqDiff,↓reduceIte,vcu,↓vcd]
     rfl
    ·rw[hy];exact hpy.older hBB
   obtain⟨hs1,hs2⟩:=runN_step hlt hrn
   have hmem:ds.getD k dd0∈ds:=by simp [List.getD,hlt]
   have hNd:=htN _ hmem
   obtain⟨gd,od,ev,hrow⟩:=rowD (hdd T hpy.1) om9
   have hxd:=hrow.all hlt
   generalize ds.getD k dd0=d at hs1 hs2 hxd hNd
   obtain⟨dk,dl,dt⟩:=d
   unfold ddc at hxd
   dsimp only at hxd
   simp -implicitDefEqProofs(disch:=omega)only[Nat.reduceEqDiff,↓reduceIte,vcu,↓vcd,h0,h31,h32,h33,ev,hxd,co41]
   refine r_new ze41 fun g9 T2 n9 s9 e9=>?_
   replace e9:T2 g9=some ⟨[.int .i64 0,.int .i64 0,.string (tx [])],false⟩:=e9
   refine r_sets (g:=g9) (i:=0) (C:=[.int .i64 0,.int .i64 0,.string (tx [])]) z9q z9co41 z9r z9z e9 z9l fun T3 k3 e3=>?_
   replace e3:T3 g9=some ⟨[.int .i64 dk,.int .i64 dl,.string (tx dt)],false⟩:=e3
   have hpy3:=hpy.sub (k3.sub s9 n9)
   have l3:lds T3 g9 0 3=some [.int .i64 dk,.int .i64 dl,.string (tx dt)]:=by rw[lds_of e3 (by simp)];rfl
   have hdo:=do_calls (w0:=w0) B' T3 h y ⟨dk,dl,dt⟩ hpy3 hyo hNd
   unfold ddA at hdo
   dsimp only at hdo
   simp -implicitDefEqProofs(disch:=omega)only[Nat.reduceEqDiff,↓reduceIte,vcu,↓vcd,h0,h31,h32,h33,l3,co41]
   refine hdo.mono ?_
   rintro _ T4 ⟨rfl,hp4⟩
   cases hdo':doO y ⟨dk,dl,dt⟩ with
   | none =>
    rw[hdo'] at hp4
    simp -implicitDefEqProofs(disch:=omega)only[Nat.reduceEqDiff,↓reduceIte,vcu,↓vcd,opK_some,h0,h31,h32,h33]
    refine⟨⟨?_,?_,?_,trivial⟩,m - 1,by omega,k+1,n,y,by omega,by simp,hyo,hs2 hdo',hp4⟩
    all_goals first|trivial|exact h0.symm|exact h31.symm|exact h32.symm|exact ev
   | some z =>
    rw[hdo'] at hp4
    have D:=doO_did hyo hdo'
    simp -implicitDefEqProofs(disch:=omega)only[Nat.reduceEqDiff,↓reduceIte,vcu,↓vcd,opK_some,h0,h31,h32,h33]
    refine⟨⟨?_,?_,?_,trivial⟩,m - 1,by omega,k+1,n+1,z,by omega,by simp,D.ok,hs1 _ hdo',hp4⟩
    all_goals first|trivial|exact h0.symm|exact h31.symm|exact h32.symm|exact ev
  have dN:decide (t=w_night)=false:=decide_eq_false hN
  have hX:lineX x t=(x,askT x t):=by unfold lineX;rw[hq];exact if_neg hN
  rw[hX]
  by_cases hCa:t=w_calls
  ·have dC:decide (t=w_calls)=true:=decide_eq_true hCa
   have hA:askT x t=decN x.cs.length:=if_pos hCa
   have lc:=lenC oc2.tris
   rw[hA]
   simp -implicitDefEqProofs(disch:=omega)only[Nat.reduceEqDiff,↓reduceIte,vcu,↓vcd,eN,dN,eC,dC,x3,lc]
   refine (itoaS_calls τ2 x.cs.length om9).mono ?_
   rintro _ _ ⟨rfl,rfl⟩
   simp -implicitDefEqProofs(disch:=omega)only[Nat.reduceEqDiff,↓reduceIte,vcu,↓vcd,opK_some]
   refine fin_one Tryz.results41 ⟨?_,hp2⟩
   simp -implicitDefEqProofs(disch:=omega)only[Nat.reduceEqDiff,↓reduceIte,vcu,↓vcd]
  have dC:decide (t=w_calls)=false:=decide_eq_false hCa
  by_cases hPl:t=w_plan
  ·have dP:decide (t=w_plan)=true:=decide_eq_true hPl
   have hA:askT x t=joinT x.ps (x.ps.length - 1):=by unfold askT;rw[if_neg hCa,if_pos hPl]
   have hep:=ex_plan hok
   have hjo:=join_calls (w0:=w0) τ2 vp x.ps ow2.texts om9 om9 fun y hy=>by
    obtain⟨k,hk,rfl⟩:=List.mem_iff_getElem.1 hy
    have:=(hok.2.1.1 k hk).2.1.2
    simp only[List.getD,List.getElem?_eq_getElem hk,Option.getD_some] at this
    omega
   rw[hA]
   simp -implicitDefEqProofs(disch:=omega)only[Nat.reduceEqDiff,↓reduceIte,vcu,↓vcd,eN,dN,eC,dC,eP,dP,x4]
   refine hjo.mono ?_
   rintro _ _ ⟨rfl,rfl⟩
   simp -implicitDefEqProofs(disch:=omega)only[Nat.reduceEqDiff,↓reduceIte,vcu,↓vcd,opK_some]
   refine fin_one Tryz.results41 ⟨?_,hp2⟩
   simp -implicitDefEqProofs(disch:=omega)only[Nat.reduceEqDiff,↓reduceIte,vcu,↓vcd]
  have dP:decide (t=w_plan)=false:=decide_eq_false hPl
  rw[askT_words hok hCa hPl]
  have hcl:=lib_cut_len t [32]
  have hcu:=libCut_calls (w0:=w0) τ2 t [32] om9
  generalize (Lib.cut t [32]).1=word at hcu hcl ⊢
  generalize (Lib.cut t [32]).2.2=b3 at hcu
  generalize (Lib.cut t [32]).2.1=dg at hcu hcl ⊢
  have hrl:=readLN_calls (w0:=w0) τ2 dg om9
  have eW:abin Tryz.prog 9 .eql (.string (tx word)) (.string { data:=#[119,104,111] })=some (.bool (decide (word=w_who))):=abin_seql (ys:=w_who)
  have eV:abin Tryz.prog 9 .eql (.string (tx word)) (.string { data:=#[118,105,97] })=some (.bool (decide (word=w_via))):=abin_seql (ys:=w_via)
  simp -implicitDefEqProofs(disch:=omega)only[Nat.reduceEqDiff,↓reduceIte,vcu,↓vcd,eN,dN,eC,dC,eP,dP]
  refine hcu.mono ?_
  rintro _ _ ⟨rfl,rfl⟩
  rename_i τ2
  simp -implicitDefEqProofs(disch:=omega)only[Nat.reduceEqDiff,↓reduceIte,vcu,↓vcd,opK_some,List.getElem?_toArray,List.getElem?_cons_zero,List.getElem?_cons_succ]
  refine hrl.mono ?_
  rintro _ _ ⟨rfl,rfl⟩
  rename_i τ2
  by_cases hD:0≤rdN dg
  case neg =>
   rw[decide_eq_false hD,if_neg (fun q=>hD q.1),if_neg (fun q=>hD q.1)]
   simp -implicitDefEqProofs(disch:=omega)only[Nat.reduceEqDiff,↓reduceIte,vcu,↓vcd,opK_some,List.getElem?_toArray,List.getElem?_cons_zero,List.getElem?_cons_succ]
   refine fin_one Tryz.results41 ⟨?_,hp2⟩
   simp -implicitDefEqProofs(disch:=omega)only[Nat.reduceEqDiff,↓reduceIte,vcu,↓vcd]
   rfl
  rw[decide_eq_true hD,if_pos hD]
  generalize rdN dg=l at hD
  by_cases hW:word=w_who
  ·have dW:decide (word=w_who)=true:=decide_eq_true hW
   rw[if_pos ⟨hD,hW⟩]
   have hpe:=peer_calls (w0:=w0) τ2 h x vp vc l hh2 oc2.tris hC
   have h100:peerS x.cs l < 100:=by
    rcases peerS_spec x.cs l with hh |⟨e,_⟩
    ·have h1:=(hh.lines hC).2
     have hO4:1≤x.s.O∧x.s.O≤4:=hC.1.1
     have hE3:1≤x.s.E∧x.s.E≤3:=hC.1.2.1
     have hOE:x.s.O * x.s.E≤12:=Int.le_trans (Int.mul_le_mul hO4.2 hE3.2 om9 om9) (by decide)
     omega
    ·omega
   generalize peerS x.cs l=pe at hpe h100
   simp -implicitDefEqProofs(disch:=omega)only[Nat.reduceEqDiff,↓reduceIte,vcu,↓vcd,opK_some,List.getElem?_toArray,List.getElem?_cons_zero,List.getElem?_cons_succ,eW,dW]
   refine hpe.mono ?_
   rintro _ _ ⟨rfl,rfl⟩
   rename_i τ2
   simp -implicitDefEqProofs(disch:=omega)only[Nat.reduceEqDiff,↓reduceIte,vcu,↓vcd,opK_some]
   refine (textOrNone_calls τ2 pe h100).mono ?_
   rintro _ _ ⟨rfl,rfl⟩
   simp -implicitDefEqProofs(disch:=omega)only[Nat.reduceEqDiff,↓reduceIte,vcu,↓vcd,opK_some]
   refine fin_one Tryz.results41 ⟨?_,hp2⟩
   simp -implicitDefEqProofs(disch:=omega)only[Nat.reduceEqDiff,↓reduceIte,vcu,↓vcd]
  have dW:decide (word=w_who)=false:=decide_eq_false hW
  rw[if_neg (fun q=>hW q.2)]
  by_cases hV:word=w_via
  ·have dV:decide (word=w_via)=true:=decide_eq_true hV
   rw[if_pos ⟨hD,hV⟩]
   have hpe:=via8_calls (w0:=w0) τ2 h x vp vc l hh2 oc2.tris hC
   have h100:viaS x.cs l < 100:=by
    rcases fstC_spec (hasL l) x.cs with ⟨_,hno⟩ |⟨k,_,hk,hP,hup⟩
    ·rw[viaS_no _ _ hno];decide
    ·rw[viaS_fst _ _ _ hk hP hup]
     have hR:=hC.2.1 _ (gc_mem hk)
     have r4:=hR.2.2.2
     have hM:=hC.1.2.2.2
     omega
   generalize viaS x.cs l=pe at hpe h100
   simp -implicitDefEqProofs(disch:=omega)only[Nat.reduceEqDiff,↓reduceIte,vcu,↓vcd,opK_some,List.getElem?_toArray,List.getElem?_cons_zero,List.getElem?_cons_succ,eW,dW,eV,dV]
   refine hpe.mono ?_
   rintro _ _ ⟨rfl,rfl⟩
   rename_i τ2
   simp -implicitDefEqProofs(disch:=omega)only[Nat.reduceEqDiff,↓reduceIte,vcu,↓vcd,opK_some]
   refine (textOrNone_calls τ2 pe h100).mono ?_
   rintro _ _ ⟨rfl,rfl⟩
   simp -implicitDefEqProofs(disch:=omega)only[Nat.reduceEqDiff,↓reduceIte,vcu,↓vcd,opK_some]
   refine fin_one Tryz.results41 ⟨?_,hp2⟩
   simp -implicitDefEqProofs(disch:=omega)only[Nat.reduceEqDiff,↓reduceIte,vcu,↓vcd]
  have dV:decide (word=w_via)=false:=decide_eq_false hV
  rw[if_neg (fun q=>hV q.2)]
  simp -implicitDefEqProofs(disch:=omega)only[Nat.reduceEqDiff,↓reduceIte,vcu,↓vcd,opK_some,List.getElem?_toArray,List.getElem?_cons_zero,List.getElem?_cons_succ,eW,dW,eV,dV]
  refine fin_one Tryz.results41 ⟨?_,hp2⟩
  simp -implicitDefEqProofs(disch:=omega)only[Nat.reduceEqDiff,↓reduceIte,vcu,↓vcd]
  rfl
end Go.Proofs.YtofdnmlpfagibaaGreatDoor
