import Derived.Test.YtklgoolblpmmlaaGreatExB
import Derived.Deep.OwnRows
set_option linter.all false
namespace Go.Proofs.YtklgoolblpmmlaaGreat
open Go.RowKit Go.Sort Go.Proofs.Tryz
variable{W w:World}{m n:Nat}{v:Value}{D:List Value}
theorem hz{base size:Nat}(h:w.ownsRow base n size v m D)(a:Bw w W):W.ownsRow base n size v m D:=
 h.kept (row:=none) ⟨a.os,a.tape,a.output,a.size,λc b _=>a.block c b⟩ (by cases v.ownBlock with|none=>exact .inl rfl|some d=>exact .inr (by simp))
theorem bB{row:Option Nat}(a:w.grownBy W row){B:Nat}(f:B<=w.heap.size)(e:∀b,row=some b->B<=b):Below B w W:=
 ⟨a.os,a.tape,a.output,a.size,λc g=>a.block c (by omega) (λd=>by have:=e c d.symm;omega)⟩
end Go.Proofs.YtklgoolblpmmlaaGreat
