import Derived.Test.YtklgoolblpmmlaaGreatProg
import Derived.Shelf.SlicesE.Delete
set_option linter.all false
namespace Go.Proofs.YtklgoolblpmmlaaGreat
open Go.Shelf
def Tryz.a7:Go.Shelf.Ren:=⟨fun|45=>264|a=>a,fun|22=>31|23=>40|a=>a,fun|a=>a⟩
theorem Tryz.delR:Go.Proofs.SlLaysE.n45 Tryz.prog Tryz.a7:={
 mixed:=by kernel_rfl
 f45:=⟨Tryz.f264.name,by decide,Tryz.func264.trans (congrArg some (by kernel_rfl))⟩
 t0:=Tryz.underlying0
 a0:=Tryz.isAgg0
 z0:=Tryz.sizeOf0
 v0:=Tryz.zeroValue0
 t3:=Tryz.underlying3
 a3:=Tryz.isAgg3
 z3:=Tryz.sizeOf3
 v3:=Tryz.zeroValue3
 t4:=Tryz.underlying4
 a4:=Tryz.isAgg4
 z4:=Tryz.sizeOf4
 v4:=Tryz.zeroValue4
 t22:=Tryz.underlying31
 a22:=Tryz.isAgg31
 z22:=Tryz.sizeOf31
 v22:=Tryz.zeroValue31
 a23:=Tryz.isAgg40
 z23:=Tryz.sizeOf40 }
end Go.Proofs.YtklgoolblpmmlaaGreat
