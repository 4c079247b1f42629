/- The library's functions on strings lie in this program as the library's contracts ask: strings.IndexAny. No condition. -/
import Derived.Shelf.Strings.IndexAnyAll
import Derived.Test.YtbklidpadffpgaaK02
namespace Go.Proofs.Ytbklidpadffpgaa
open Go.Shelf
def q5p3:Go.Shelf.Ren:=⟨fun | 153=>87 | 152=>89 | 226=>90 | 227=>91 | 228=>92 | 137=>94 | 119=>95 | 224=>96 | 225=>97 | 217=>98 | 266=>99 | n=>n,fun | 9=>9 | 3=>3 | 4=>4 | 5=>5 | 21=>21 | 117=>137 | 116=>136 | 0=>0 | 46=>111 | 124=>142 | n=>n,fun | n=>n⟩
theorem qzew:Go.Proofs.Lays.n153 Try.prog q5p3:={
 mixed:=by kernel_rfl
 f119:=Try.func95.trans (congrArg some (by kernel_rfl))
 f137:=Try.func94.trans (congrArg some (by kernel_rfl))
 f152:=Try.func89.trans (congrArg some (by kernel_rfl))
 f153:=Try.func87.trans (congrArg some (by kernel_rfl))
 f217:=Try.func98.trans (congrArg some (by kernel_rfl))
 f224:=Try.func96.trans (congrArg some (by kernel_rfl))
 f225:=Try.func97.trans (congrArg some (by kernel_rfl))
 f226:=Try.func90.trans (congrArg some (by kernel_rfl))
 f227:=Try.func91.trans (congrArg some (by kernel_rfl))
 f228:=Try.func92.trans (congrArg some (by kernel_rfl))
 f266:=Try.func99.trans (congrArg some (by kernel_rfl))
 t0:=Try.underlying0
 a0:=Try.isAgg0
 z0:=Try.sizeOf0
 v0:=Try.zeroValue0
 t3:=Try.underlying3
 a3:=Try.isAgg3
 z3:=Try.sizeOf3
 v3:=Try.zeroValue3
 t4:=Try.underlying4
 a4:=Try.isAgg4
 z4:=Try.sizeOf4
 v4:=Try.zeroValue4
 t5:=Try.underlying5
 a5:=Try.isAgg5
 z5:=Try.sizeOf5
 v5:=Try.zeroValue5
 t9:=Try.underlying9
 a9:=Try.isAgg9
 z9:=Try.sizeOf9
 v9:=Try.zeroValue9
 t21:=Try.underlying21
 a21:=Try.isAgg21
 z21:=Try.sizeOf21
 v21:=Try.zeroValue21
 t46:=Try.underlying111
 a46:=Try.isAgg111
 z46:=Try.sizeOf111
 v46:=Try.zeroValue111
 t116:=Try.underlying136
 a116:=Try.isAgg136
 z116:=Try.sizeOf136
 t117:=Try.underlying137
 a117:=Try.isAgg137
 z117:=Try.sizeOf137
 v117:=Try.zeroValue137
 t124:=Try.underlying142
 a124:=Try.isAgg142
 z124:=Try.sizeOf142
 v124:=Try.zeroValue142}
end Go.Proofs.Ytbklidpadffpgaa
