import Derived.Test.YtabmgpillccfaaaGreatDoorKnA
import Derived.Test.YtabmgpillccfaaaGreatDoorRmB
set_option linter.all false
set_option maxRecDepth 100000
namespace Go.Proofs.YtabmgpillccfaaaGreatDoor
open Go.RowKit Go.Sort Go.Proofs.Tryz
variable{w:World}{j k m n:Nat}{C:List Int}{I:Int}
theorem et.store{base k:Nat}(h:et w base (.slice (some ⟨n,0,none⟩) m j) C)(c:m=C.length)(a:Int):et (w.setCell ⟨n,k,none⟩ (.int .i64 a)) base (.slice (some ⟨n,0,none⟩) m j) (C.set k a):=by subst c;have b:=(World.ownsRow.stored h k (.int .i64 a)).1;unfold et;rw[List.length_set,List.map_set];exact b
theorem et.at{base:Nat}(h:et w base (.slice (some ⟨n,0,none⟩) m k) C)(b:m=C.length)(a:C[j]?=some I):w.cell? ⟨n,j,none⟩=some (.int .i64 I)/\w.frozen? ⟨n,j,none⟩=false:=by subst b;have c:=(b6 a).1;refine⟨?_,World.ownsRow.frozenAt h j⟩;rw[World.ownsRow.cellAt h j (by omega),b8,a];rfl
theorem qb(a:List Int)(b:Nat)(c:Int):(a++List.replicate (b+1) 0).set a.length c=(a++[c])++List.replicate b 0:=by rw[List.set_append,aL (by omega),Nat.sub_self,List.replicate_succ,List.set_cons_zero,d8];rfl
end Go.Proofs.YtabmgpillccfaaaGreatDoor
