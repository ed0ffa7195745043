import Derived.Test.YtabmgpillccfaaaGreatDoorExG
import Derived.Deep.OwnRows
set_option linter.all false
namespace Go.Proofs.YtabmgpillccfaaaGreatDoor
open Go.RowKit Go.Sort Go.Proofs.Tryz
variable{W w:World}{m n:Nat}{v:Value}{D:List Value}
theorem gR{base size:Nat}(h:w.ownsRow base n size v m D)(a:Bw w W):W.ownsRow base n size v m D:=
 h.kept (row:=none) ⟨a.os,a.tape,a.output,a.size,λc b _=>a.block c b⟩ (by cases v.ownBlock with|none=>exact .inl rfl|some d=>exact .inr (by simp))
theorem iD{row:Option Nat}(a:w.grownBy W row)(f:n<=w.heap.size)(e:∀b,row=some b->n<=b):Below n w W:=
 ⟨a.os,a.tape,a.output,a.size,λc g=>a.block c (by omega) (λd=>by have:=e c d.symm;omega)⟩
end Go.Proofs.YtabmgpillccfaaaGreatDoor
