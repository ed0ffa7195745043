import Derived.Test.YtabmgpillccfaaaGreatDoorExG
import Derived.ProofKit
import Derived.OpenShut
import Derived.Lib.SmallJoins
import Derived.ChangeOld
import Derived.Deep.Slices
import Derived.Deep.Strs
import Derived.JoinedCond
import Derived.SizedLaws
set_option linter.all false
set_option maxRecDepth 100000
namespace Go.Proofs.YtabmgpillccfaaaGreatDoor
open Go.ChangeShapes Go.WideShapes Go.ChangeAt Go.RowKit Go.Joins Go.Deep Go.Proofs.Tryz
theorem lf:Tryz.prog.cellsOf 72=6:=by kernel_rfl
theorem rX:Tryz.prog.cellsOf 70=3:=by kernel_rfl
theorem ow:Tryz.prog.cellsOf 22=1:=by kernel_rfl
theorem iu:Tryz.prog.cellsOf 3=1:=by kernel_rfl
theorem sE:Tryz.prog.cellsOf 2=1:=by kernel_rfl
theorem q4:Tryz.prog.cellsOf 9=1:=by kernel_rfl
variable{I:Int}{w:World}{k m n:Nat}{a:Option Addr}
theorem fz(h:(Lit.int .i64 I).wf=true):b2 I:=by simp[Lit.wf,IntKind.min,IntKind.max,IntKind.signed,IntKind.bits] at h;exact⟨by omega,by omega⟩
theorem Ex.all_of{f:World}{e:Nat}:∀(d:List Ex) (a:Nat),(∀b c,d[b]?=some c->Ex.at f e (a+b*6) c)->Ex.all f (some ⟨e,a,none⟩) d
 | [],a,_=>by rw[Ex.all];trivial
 | c::d,a,h=>by rw[Ex.all];refine⟨e,a,rfl,by simpa using h 0 c rfl,Ex.all_of d (a+6) λb i g=>?_⟩;have:=h (b+1) i (by simpa using g);rw[show a+6+b*6=a+(b+1)*6 by omega];exact this
variable{e:Ex}
theorem Ex.at_mk(h:w.cell? ⟨n,m,none⟩=some (.int .i64 e.op)/\w.cell? ⟨n,m+1,none⟩=some (.int .i64 e.n)/\w.cell? ⟨n,m+2,none⟩=some (.int .i64 e.v.k)/\w.cell? ⟨n,m+3,none⟩=some (.int .i64 e.v.n)/\w.cell? ⟨n,m+4,none⟩=some (.string e.v.s)/\w.cell? ⟨n,m+5,none⟩=some (.slice a e.args.length k))(b:Ex.all w a e.args):Ex.at w n m e:=by
 cases e with
 | mk f d g c=>rw[Ex.at];exact⟨a,k,h,b⟩
theorem Ex.aC:∀(a:List Ex),(∀b∈a,b.fin)->Ex.ah a
 | [],_=>by rw[Ex.ah];trivial
 | c::a,h=>by rw[Ex.ah];exact⟨h c (by simp),Ex.aC a λb d=>h b (by simp[d])⟩
section
variable {H:Type}{enc:TypeId×Value->H}{w:World}{base:Nat}{spare:Nat->Bool}{held:Bool}
theorem mw(b c a:Nat):(⟨b,c,none⟩:Addr).add a=⟨b,c+a,none⟩:=by by_cases h:a=0<;>simp[Addr.add,h]
end
end Go.Proofs.YtabmgpillccfaaaGreatDoor
