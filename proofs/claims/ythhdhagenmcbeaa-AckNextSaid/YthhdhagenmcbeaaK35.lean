/- The library's functions on strings lie in this program as the library's contracts ask: strings.IndexAny. No condition. -/
import Derived.Shelf.Strings.IndexAnyAll
import Derived.Test.YthhdhagenmcbeaaK02
namespace Go.Proofs.Ythhdhagenmcbeaa
open Go.Shelf
def q5p3:Go.Shelf.Ren:=⟨fun | 153=>85 | 152=>87 | 226=>88 | 227=>89 | 228=>90 | 137=>92 | 119=>93 | 224=>94 | 225=>95 | 217=>96 | 266=>97 | n=>n,fun | 9=>9 | 3=>3 | 4=>4 | 5=>5 | 21=>21 | 117=>135 | 116=>134 | 0=>0 | 46=>109 | 124=>140 | n=>n,fun | n=>n⟩
theorem qzew:Go.Proofs.Lays.n153 Try.prog q5p3:={
 mixed:=by kernel_rfl
 f119:=Try.func93.trans (congrArg some (by kernel_rfl))
 f137:=Try.func92.trans (congrArg some (by kernel_rfl))
 f152:=Try.func87.trans (congrArg some (by kernel_rfl))
 f153:=Try.func85.trans (congrArg some (by kernel_rfl))
 f217:=Try.func96.trans (congrArg some (by kernel_rfl))
 f224:=Try.func94.trans (congrArg some (by kernel_rfl))
 f225:=Try.func95.trans (congrArg some (by kernel_rfl))
 f226:=Try.func88.trans (congrArg some (by kernel_rfl))
 f227:=Try.func89.trans (congrArg some (by kernel_rfl))
 f228:=Try.func90.trans (congrArg some (by kernel_rfl))
 f266:=Try.func97.trans (congrArg some (by kernel_rfl))
 t0:=Try.underlying0
 a0:=Try.isAgg0
 z0:=Try.sizeOf0
 v0:=Try.zeroValue0
 t3:=Try.underlying3
 a3:=Try.isAgg3
 z3:=Try.sizeOf3
 v3:=Try.zeroValue3
 t4:=Try.underlying4
 a4:=Try.isAgg4
 z4:=Try.sizeOf4
 v4:=Try.zeroValue4
 t5:=Try.underlying5
 a5:=Try.isAgg5
 z5:=Try.sizeOf5
 v5:=Try.zeroValue5
 t9:=Try.underlying9
 a9:=Try.isAgg9
 z9:=Try.sizeOf9
 v9:=Try.zeroValue9
 t21:=Try.underlying21
 a21:=Try.isAgg21
 z21:=Try.sizeOf21
 v21:=Try.zeroValue21
 t46:=Try.underlying109
 a46:=Try.isAgg109
 z46:=Try.sizeOf109
 v46:=Try.zeroValue109
 t116:=Try.underlying134
 a116:=Try.isAgg134
 z116:=Try.sizeOf134
 t117:=Try.underlying135
 a117:=Try.isAgg135
 z117:=Try.sizeOf135
 v117:=Try.zeroValue135
 t124:=Try.underlying140
 a124:=Try.isAgg140
 z124:=Try.sizeOf140
 v124:=Try.zeroValue140}
end Go.Proofs.Ythhdhagenmcbeaa
