import Derived.Test.YtekgpapophibcaaGreatRyQ1
set_option linter.unusedSimpArgs false
set_option linter.unusedVariables false
namespace Go.Proofs.YtekgpapophibcaaGreat
open Go.RowKit Go.Sort
theorem zMI{l:List UInt8}{w:World}(hl:l.length<=140737488355328):Calls Tryz.prog 41 #[.string (bs l)] w fun e w'=>UnQ w w' l e:=by
 by_cases h7:l.length<7
 ·exact zJ9 h7
 ·obtain⟨c0,c1,n0,n1,n2,n3,z,tl,e⟩:∃c0 c1 n0 n1 n2 n3 z tl,l=c0::c1::n0::n1::n2::n3::z::tl:=by
   match l,h7 with
   | c0::c1::n0::n1::n2::n3::z::tl,_=>exact⟨_,_,_,_,_,_,_,_,rfl⟩
   | [],h=>exact absurd (by decide) h
   | [_],h=>exact absurd (by show 1<7;decide) h
   | [_,_],h=>exact absurd (by show 2<7;decide) h
   | [_,_,_],h=>exact absurd (by show 3<7;decide) h
   | [_,_,_,_],h=>exact absurd (by show 4<7;decide) h
   | [_,_,_,_,_],h=>exact absurd (by show 5<7;decide) h
   | [_,_,_,_,_,_],h=>exact absurd (by show 6<7;decide) h
  by_cases hh:zPq c0 c1 z (beV [n0,n1,n2,n3])
  ·obtain⟨h1,h2,h3,h4⟩:=hh
   exact zKO e h1 h2 h3 h4 hl
  ·exact zMH e hl hh
end Go.Proofs.YtekgpapophibcaaGreat
