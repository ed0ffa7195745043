import Derived.Test.YtklgoolblpmmlaaGreatBgB
import Derived.Test.YtklgoolblpmmlaaGreatOwnA
set_option linter.all false
set_option maxRecDepth 100000
namespace Go.Proofs.YtklgoolblpmmlaaGreat
open Go.RowKit Go.Sort Go.Proofs.Tryz
variable{w:World}
theorem eH.ab{wr:World}(h:Bw w wr)(a:Value):eH w wr a a:=⟨⟨h.os,h.tape,h.output,h.size,λc b _=>h.block c b⟩,.inl rfl⟩
theorem eH.alloc(b:World)(a:Value)(c:Obj):eH b (b.alloc c) a a:=eH.ab (am (VT _ b) c) a
end Go.Proofs.YtklgoolblpmmlaaGreat
