import Derived.Test.YtklgoolblpmmlaaGreatStA
import Derived.ProofKit
import Derived.OpenShut
import Derived.Lib.SmallJoins
import Derived.ChangeOld
import Derived.Deep.Slices
import Derived.Deep.Strs
import Derived.JoinedCond
import Derived.SizedLaws
set_option linter.all false
namespace Go.Proofs.YtklgoolblpmmlaaGreat
open Go.ChangeShapes Go.WideShapes Go.ChangeAt Go.RowKit Go.Joins Go.Deep Go.Proofs.Tryz
theorem Ex.aL{f:World}{e:Nat}:∀(d:List Ex) (a:Nat),(∀b c,d[b]?=some c->Ex.at f e (a+b*6) c)->Ex.all f (some ⟨e,a,none⟩) d
 | [],a,_=>by rw[Ex.all];trivial
 | c::d,a,h=>by rw[Ex.all];refine⟨e,a,rfl,by simpa using h 0 c rfl,Ex.aL d (a+6) λb i g=>?_⟩;have:=h (b+1) i (by simpa using g);rw[show a+6+b*6=a+(b+1)*6 by omega];exact this
variable{w:World}{k m n:Nat}{e:Ex}{a:Option Addr}
theorem Ex.aW(h:w.cell? ⟨n,m,none⟩=some (.int .i64 e.op)/\w.cell? ⟨n,m+1,none⟩=some (.int .i64 e.n)/\w.cell? ⟨n,m+2,none⟩=some (.int .i64 e.v.k)/\w.cell? ⟨n,m+3,none⟩=some (.int .i64 e.v.n)/\w.cell? ⟨n,m+4,none⟩=some (.string e.v.s)/\w.cell? ⟨n,m+5,none⟩=some (.slice a e.args.length k))(b:Ex.all w a e.args):Ex.at w n m e:=by
 cases e with
 | mk f d g c=>rw[Ex.at];exact⟨a,k,h,b⟩
end Go.Proofs.YtklgoolblpmmlaaGreat
