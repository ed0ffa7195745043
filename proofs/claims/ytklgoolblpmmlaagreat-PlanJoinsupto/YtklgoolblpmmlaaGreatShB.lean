import Derived.Test.YtklgoolblpmmlaaGreatProg
import Derived.Shelf.Bits.Mul64
import Derived.Shelf.Spec.BitsCarry
set_option linter.all false
namespace Go.Proofs.YtklgoolblpmmlaaGreat
open Go.Shelf
def Tryz.a5:Go.Shelf.Ren:=⟨fun|264=>260|a=>a,fun|46=>93|53=>128|a=>a,fun|a=>a⟩
theorem Tryz.mulR:Go.Proofs.Lays.n264 Tryz.prog Tryz.a5:={
 mixed:=by kernel_rfl
 f264:=Tryz.func260.trans (congrArg some (by kernel_rfl))
 t46:=Tryz.underlying93
 a46:=Tryz.isAgg93
 z46:=Tryz.sizeOf93
 v46:=Tryz.zeroValue93
 t53:=Tryz.underlying128
 a53:=Tryz.isAgg128
 z53:=Tryz.sizeOf128
 v53:=Tryz.zeroValue128 }
def Tryz.a8:Go.Shelf.Ren:=⟨fun|25=>258|a=>a,fun|22=>128|a=>a,fun|a=>a⟩
theorem Tryz.addR:Go.Proofs.Lays7.n25 Tryz.prog Tryz.a8:={
 mixed:=by kernel_rfl
 f25:=Tryz.func258.trans (congrArg some (by kernel_rfl))
 t22:=Tryz.underlying128
 a22:=Tryz.isAgg128
 z22:=Tryz.sizeOf128
 v22:=Tryz.zeroValue128
 i22:=by kernel_rfl }
end Go.Proofs.YtklgoolblpmmlaaGreat
