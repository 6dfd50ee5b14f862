import Derived.Test.YtdceajgpolckiaaGreatDoorQq00
import Derived.Shelf.Strings.Builder1
import Derived.Shelf.Strings.Builder2
import Derived.Shelf.Small.Bits
import Derived.Shelf.Strconv.Itoa0
import Derived.Shelf.Strings.Search1
import Derived.Shelf.Strings.Search2
import Derived.Shelf.Strings.Search3
import Derived.Shelf.Strings.Count
import Derived.Shelf.Strings.Split
import Derived.Shelf.Strings.Replace
import Derived.Shelf.Unicode.DecodeSlow
import Derived.Ground.SlgnProg
import Derived.Shelf.SlicesE.Clone
import Derived.Ground.SlgmProg
import Derived.Shelf.SortM.Plain
import Derived.Shelf.SortM.SortNone
import Derived.Test.YtdceajgpolckiaaGreatDoorProg
open Go.Proofs.Tryz
set_option linter.unusedSimpArgs false
set_option maxHeartbeats 16000000
set_option maxRecDepth 100000
namespace Go.Proofs
open Go.Shelf
def Tryz.lays154_ren:Go.Shelf.Ren:=⟨fun|154=>209|138=>238|165=>239|143=>240|166=>241|197=>242|169=>243|195=>262|218=>263|240=>264|241=>265|219=>266|260=>267|276=>273|277=>274|217=>275|225=>276|224=>277|267=>278|266=>280|314=>281|n=>n,fun|9=>9|3=>3|4=>4|72=>324|0=>0|76=>328|105=>330|21=>21|5=>5|70=>322|20=>20|37=>279|75=>327|127=>280|164=>352|46=>165|119=>355|139=>358|138=>357|146=>360|51=>311|80=>239|n=>n,fun|1=>0|3=>1|4=>2|n=>n⟩
theorem Tryz.lays154:Go.Proofs.Lays.n154 prog Tryz.lays154_ren:={
 mixed:=by kernel_rfl
 f138:=func238.trans (congrArg some (by kernel_rfl))
 f143:=func240.trans (congrArg some (by kernel_rfl))
 f154:=func209.trans (congrArg some (by kernel_rfl))
 f165:=func239.trans (congrArg some (by kernel_rfl))
 f166:=func241.trans (congrArg some (by kernel_rfl))
 f169:=func243.trans (congrArg some (by kernel_rfl))
 f195:=func262.trans (congrArg some (by kernel_rfl))
 f197:=func242.trans (congrArg some (by kernel_rfl))
 f217:=func275.trans (congrArg some (by kernel_rfl))
 f218:=func263.trans (congrArg some (by kernel_rfl))
 f219:=func266.trans (congrArg some (by kernel_rfl))
 f224:=func277.trans (congrArg some (by kernel_rfl))
 f225:=func276.trans (congrArg some (by kernel_rfl))
 f240:=func264.trans (congrArg some (by kernel_rfl))
 f241:=func265.trans (congrArg some (by kernel_rfl))
 f260:=func267.trans (congrArg some (by kernel_rfl))
 f266:=func280.trans (congrArg some (by kernel_rfl))
 f267:=func278.trans (congrArg some (by kernel_rfl))
 f276:=func273.trans (congrArg some (by kernel_rfl))
 f277:=func274.trans (congrArg some (by kernel_rfl))
 f314:=func281.trans (congrArg some (by kernel_rfl))
 t0:=underlying0
 a0:=Tryz.isAgg0
 z0:=Tryz.sizeOf0
 v0:=Tryz.zeroValue0
 t3:=underlying3
 a3:=Tryz.isAgg3
 z3:=Tryz.sizeOf3
 v3:=Tryz.zeroValue3
 t4:=underlying4
 a4:=Tryz.isAgg4
 z4:=Tryz.sizeOf4
 v4:=Tryz.zeroValue4
 t5:=underlying5
 a5:=Tryz.isAgg5
 z5:=Tryz.sizeOf5
 v5:=Tryz.zeroValue5
 t9:=underlying9
 a9:=Tryz.isAgg9
 z9:=Tryz.sizeOf9
 v9:=Tryz.zeroValue9
 t20:=underlying20
 a20:=Tryz.isAgg20
 z20:=Tryz.sizeOf20
 v20:=Tryz.zeroValue20
 t21:=underlying21
 a21:=Tryz.isAgg21
 z21:=Tryz.sizeOf21
 v21:=Tryz.zeroValue21
 t37:=underlying279
 a37:=Tryz.isAgg279
 z37:=Tryz.sizeOf279
 v37:=Tryz.zeroValue279
 t46:=underlying165
 a46:=Tryz.isAgg165
 z46:=Tryz.sizeOf165
 v46:=Tryz.zeroValue165
 t51:=underlying311
 a51:=Tryz.isAgg311
 z51:=Tryz.sizeOf311
 v51:=Tryz.zeroValue311
 t70:=underlying322
 a70:=Tryz.isAgg322
 z70:=Tryz.sizeOf322
 v70:=Tryz.zeroValue322
 t72:=underlying324
 a72:=Tryz.isAgg324
 z72:=Tryz.sizeOf324
 v72:=Tryz.zeroValue324
 t75:=underlying327
 a75:=Tryz.isAgg327
 z75:=Tryz.sizeOf327
 v75:=Tryz.zeroValue327
 t76:=underlying328
 a76:=Tryz.isAgg328
 z76:=Tryz.sizeOf328
 v76:=Tryz.zeroValue328
 t105:=underlying330
 a105:=Tryz.isAgg330
 z105:=Tryz.sizeOf330
 v105:=Tryz.zeroValue330
 t119:=underlying355
 a119:=Tryz.isAgg355
 z119:=Tryz.sizeOf355
 t127:=underlying280
 a127:=Tryz.isAgg280
 z127:=Tryz.sizeOf280
 v127:=Tryz.zeroValue280
 t138:=underlying357
 a138:=Tryz.isAgg357
 z138:=Tryz.sizeOf357
 v138:=Tryz.zeroValue357
 t139:=underlying358
 a139:=Tryz.isAgg358
 z139:=Tryz.sizeOf358
 v139:=Tryz.zeroValue358
 t146:=underlying360
 a146:=Tryz.isAgg360
 z146:=Tryz.sizeOf360
 v146:=Tryz.zeroValue360
 t164:=underlying352
 a164:=Tryz.isAgg352
 z164:=Tryz.sizeOf352
 v164:=Tryz.zeroValue352
 g1:=by kernel_rfl
 g3:=by kernel_rfl
 g4:=by kernel_rfl }
theorem Tryz.Builder_Extra_154:Builder.Extra prog Tryz.lays154_ren:={
 sizeBuilder:=by kernel_rfl
 liesBuilder:=by kernel_rfl
 t5:=underlying5
 a5:=Tryz.isAgg5
 z5:=Tryz.sizeOf5
 v5:=Tryz.zeroValue5
 infoByte:=by kernel_rfl
 cellsByte:=by kernel_rfl
 sizeByte:=by kernel_rfl
 neB5:=by decide }
