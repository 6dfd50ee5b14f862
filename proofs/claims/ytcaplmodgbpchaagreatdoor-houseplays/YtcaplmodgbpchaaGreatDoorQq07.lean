import Derived.Test.YtcaplmodgbpchaaGreatDoorQq00
import Derived.Shelf.Strings.Builder1
import Derived.Shelf.Strings.Builder2
import Derived.Shelf.Small.Bits
import Derived.Shelf.Strconv.Itoa0
import Derived.Shelf.Strings.Search1
import Derived.Shelf.Strings.Search2
import Derived.Shelf.Strings.Search3
import Derived.Shelf.Strings.Count
import Derived.Shelf.Strings.Split
import Derived.Shelf.Strings.Replace
import Derived.Shelf.Unicode.DecodeSlow
import Derived.Ground.SlgnProg
import Derived.Shelf.SlicesE.Clone
import Derived.Ground.SlgmProg
import Derived.Shelf.SortM.Plain
import Derived.Shelf.SortM.SortNone
import Derived.Test.YtcaplmodgbpchaaGreatDoorProg
open Go.Proofs.Tryz
open Go.Value(int)
open Go.IntKind(i64)
set_option linter.unusedSimpArgs false
set_option maxHeartbeats 16000000
set_option maxRecDepth 100000
namespace Go.Proofs
open Go.Shelf
def Tryz.lays154_ren:Go.Shelf.Ren:=⟨fun|154=>174|138=>193|165=>194|143=>195|166=>196|197=>197|169=>198|195=>211|218=>212|240=>213|241=>214|219=>215|260=>216|276=>233|277=>234|217=>235|225=>236|224=>237|267=>238|266=>245|314=>246|n=>n,fun|9=>9|3=>3|4=>4|72=>260|0=>0|76=>264|105=>266|21=>21|5=>5|70=>258|20=>20|37=>144|75=>263|127=>213|164=>285|46=>288|119=>289|139=>292|138=>291|146=>297|51=>296|80=>163|n=>n,fun|1=>0|3=>1|4=>2|n=>n⟩
theorem Tryz.lays154:Go.Proofs.Lays.n154 prog Tryz.lays154_ren:={
 mixed:=by kernel_rfl
 f138:=func193.trans (congrArg some (by kernel_rfl))
 f143:=func195.trans (congrArg some (by kernel_rfl))
 f154:=func174.trans (congrArg some (by kernel_rfl))
 f165:=func194.trans (congrArg some (by kernel_rfl))
 f166:=func196.trans (congrArg some (by kernel_rfl))
 f169:=func198.trans (congrArg some (by kernel_rfl))
 f195:=func211.trans (congrArg some (by kernel_rfl))
 f197:=func197.trans (congrArg some (by kernel_rfl))
 f217:=func235.trans (congrArg some (by kernel_rfl))
 f218:=func212.trans (congrArg some (by kernel_rfl))
 f219:=func215.trans (congrArg some (by kernel_rfl))
 f224:=func237.trans (congrArg some (by kernel_rfl))
 f225:=func236.trans (congrArg some (by kernel_rfl))
 f240:=func213.trans (congrArg some (by kernel_rfl))
 f241:=func214.trans (congrArg some (by kernel_rfl))
 f260:=func216.trans (congrArg some (by kernel_rfl))
 f266:=func245.trans (congrArg some (by kernel_rfl))
 f267:=func238.trans (congrArg some (by kernel_rfl))
 f276:=func233.trans (congrArg some (by kernel_rfl))
 f277:=func234.trans (congrArg some (by kernel_rfl))
 f314:=func246.trans (congrArg some (by kernel_rfl))
 t0:=underlying0
 a0:=Tryz.isAgg0
 z0:=Tryz.sizeOf0
 v0:=Tryz.zeroValue0
 t3:=underlying3
 a3:=Tryz.isAgg3
 z3:=Tryz.sizeOf3
 v3:=Tryz.zeroValue3
 t4:=underlying4
 a4:=Tryz.isAgg4
 z4:=Tryz.sizeOf4
 v4:=Tryz.zeroValue4
 t5:=underlying5
 a5:=Tryz.isAgg5
 z5:=Tryz.sizeOf5
 v5:=Tryz.zeroValue5
 t9:=underlying9
 a9:=Tryz.isAgg9
 z9:=Tryz.sizeOf9
 v9:=Tryz.zeroValue9
 t20:=underlying20
 a20:=Tryz.isAgg20
 z20:=Tryz.sizeOf20
 v20:=Tryz.zeroValue20
 t21:=underlying21
 a21:=Tryz.isAgg21
 z21:=Tryz.sizeOf21
 v21:=Tryz.zeroValue21
 t37:=underlying144
 a37:=Tryz.isAgg144
 z37:=Tryz.sizeOf144
 v37:=Tryz.zeroValue144
 t46:=underlying288
 a46:=Tryz.isAgg288
 z46:=Tryz.sizeOf288
 v46:=Tryz.zeroValue288
 t51:=underlying296
 a51:=Tryz.isAgg296
 z51:=Tryz.sizeOf296
 v51:=Tryz.zeroValue296
 t70:=underlying258
 a70:=Tryz.isAgg258
 z70:=Tryz.sizeOf258
 v70:=Tryz.zeroValue258
 t72:=underlying260
 a72:=Tryz.isAgg260
 z72:=Tryz.sizeOf260
 v72:=Tryz.zeroValue260
 t75:=underlying263
 a75:=Tryz.isAgg263
 z75:=Tryz.sizeOf263
 v75:=Tryz.zeroValue263
 t76:=underlying264
 a76:=Tryz.isAgg264
 z76:=Tryz.sizeOf264
 v76:=Tryz.zeroValue264
 t105:=underlying266
 a105:=Tryz.isAgg266
 z105:=Tryz.sizeOf266
 v105:=Tryz.zeroValue266
 t119:=underlying289
 a119:=Tryz.isAgg289
 z119:=Tryz.sizeOf289
 t127:=underlying213
 a127:=Tryz.isAgg213
 z127:=Tryz.sizeOf213
 v127:=Tryz.zeroValue213
 t138:=underlying291
 a138:=Tryz.isAgg291
 z138:=Tryz.sizeOf291
 v138:=Tryz.zeroValue291
 t139:=underlying292
 a139:=Tryz.isAgg292
 z139:=Tryz.sizeOf292
 v139:=Tryz.zeroValue292
 t146:=underlying297
 a146:=Tryz.isAgg297
 z146:=Tryz.sizeOf297
 v146:=Tryz.zeroValue297
 t164:=underlying285
 a164:=Tryz.isAgg285
 z164:=Tryz.sizeOf285
 v164:=Tryz.zeroValue285
 g1:=by kernel_rfl
 g3:=by kernel_rfl
 g4:=by kernel_rfl }
theorem Tryz.Builder_Extra_154:Builder.Extra prog Tryz.lays154_ren:={
 sizeBuilder:=by kernel_rfl
 liesBuilder:=by kernel_rfl
 t5:=underlying5
 a5:=Tryz.isAgg5
 z5:=Tryz.sizeOf5
 v5:=Tryz.zeroValue5
 infoByte:=by kernel_rfl
 cellsByte:=by kernel_rfl
 sizeByte:=by kernel_rfl
 neB5:=by decide }
