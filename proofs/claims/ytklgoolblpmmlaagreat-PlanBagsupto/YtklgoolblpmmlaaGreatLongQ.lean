import Derived.Test.YtklgoolblpmmlaaGreatBgB
import Derived.Deep.OwnRows
import Derived.Shelf.Spec.TrailingZeros
import Derived.Test.YtklgoolblpmmlaaGreatAnyG
import Derived.Laws.AppendOwnNone
import Derived.Deep.RegionLaw
set_option linter.all false
set_option maxRecDepth 100000
namespace Go.Proofs.YtklgoolblpmmlaaGreat
open Go.RowKit Go.Sort Go.Proofs.Tryz
variable{w:World}{k m n:Nat}{v:Value}
theorem hZ.set(h:hZ w n)(a:n≠m):hZ (w.setCell ⟨m,k,none⟩ v) n:=by obtain⟨c,d,e,f,g,i⟩:=h;have b:=a.symm;exact⟨by simp[go_sem, *],by simp[go_sem, *],by simp[go_sem, *],by simp[go_sem, *],by simp[go_sem, *],by simp[go_sem, *]⟩
end Go.Proofs.YtklgoolblpmmlaaGreat
