import Derived.Test.YtabmgpillccfaaaGreatDoorUdB
import Derived.Test.YtabmgpillccfaaaGreatDoorCards
import Derived.Test.YtabmgpillccfaaaGreatDoorTie
import Derived.Deep.DeepHandedRow
import Derived.Deep.DeepWitnessRowRef
import Derived.Lib.LaidTab
import Derived.Lib.LaidIn
set_option linter.all false
set_option maxRecDepth 100000
namespace Go.Proofs.YtabmgpillccfaaaGreatDoor
open Go.ChangeShapes Go.WideShapes Go.ChangeAt Go.RowKit Go.Joins Go.Deep Go.Proofs.Tryz
noncomputable abbrev s4:Nat:=(World.settled prog default).heap.size
def ih(c:DataW Unit):Array Value:=match c with
 | .agg e=>(e.flatMap fun
  | .lit (.int a b)=>[Value.int a b]
  | .agg [.lit (.int a b),.lit (.int d f)]=>[Value.int a b,Value.int d f]
  | _=>[]).toArray
 | _=>#[]
noncomputable def iR (c:Os):World:=
 let b:=(World.settled prog c).heap.size
 let d:=World.holding prog c ⟨#[.cells #[.int .u16 9,.int .u16 13,.int .u16 1,.int .u16 32,.int .u16 133,.int .u16 101,.int .u16 160,.int .u16 5760,.int .u16 5600,.int .u16 8192,.int .u16 8202,.int .u16 1,.int .u16 8232,.int .u16 8233,.int .u16 1,.int .u16 8239,.int .u16 8287,.int .u16 48,.int .u16 12288,.int .u16 12288,.int .u16 1] 236,.cells #[.slice (some ⟨b,0,none⟩) 7 7,.slice none 0 0,.int .i64 2] 233,
  .cells #[.string ⟨#[105,110,118,97,108,105,100,32,115,121,110,116,97,120]⟩] 264,.cells #[.string ⟨#[118,97,108,117,101,32,111,117,116,32,111,102,32,114,97,110,103,101]⟩] 264],#[],[]⟩
 let a (h:Array Obj) (g:Nat) (e:Array Value):Array Obj:=h.modify g fun
  | .cells _ s f=>.cells e s f
  | r=>r
 let i:=a d.heap 0 (ih Rows.laid_strings_asciiSpace)
 let j:=a i 1 #[.pointer (some ⟨b+1,0,none⟩)]
 let k:=a j 2 (ih Rows.laid_internal_strconv_uint64pow10)
 let l:=a k 3 #[.iface 262 (.pointer (some ⟨b+2,0,none⟩))]
 let m:=a l 4 #[.iface 262 (.pointer (some ⟨b+3,0,none⟩))]
 let n:=a m 6 (ih Rows.laid_unicode_utf8_first)
 let o:=a n 7 (ih Rows.laid_unicode_utf8_acceptRanges)
 let p:=a o 8 (ih Rows.laid_math_bits_deBruijn32tab)
 let q:=a p 9 (ih Rows.laid_math_bits_deBruijn64tab)
 { d with heap:=q }
theorem ru(a:Os)(args:Array Value):laidMet prog Rows.planTextsRow.laid ((iR a).forCall (λ_ _=>0) ⟨#[],args,[]⟩).memory:=
 (LaidIn.of_run [8,9,2,7,4,s4+3,3,s4+2,1,s4+1,s4,0,6] 12 (by kernel_rfl) (by kernel_rfl) (by kernel_rfl) (by kernel_rfl)).met
theorem mS(a:Os){e:Type}(b:TypeId×Value->e):(Rows.OpenSpec.upto Rows.planTextsSpec).preRow b prog Tryz.f3 Rows.planTextsUptoRow.domain false Rows.planTextsUptoRow.laid ((iR a).forCall (λ_ _=>0) ⟨#[],#[.agg #[.int .i64 0,.string ⟨#[]⟩,.slice none 0 0,.slice none 0 0,.slice none 0 0,.slice none 0 0,.int .i64 0,.int .i64 0,.int .i64 0,.int .i64 0,.slice none 0 0],.string ⟨#[]⟩],[]⟩).memory #[.agg #[.int .i64 0,.string ⟨#[]⟩,.slice none 0 0,.slice none 0 0,.slice none 0 0,.slice none 0 0,.int .i64 0,.int .i64 0,.int .i64 0,.int .i64 0,.slice none 0 0],.string ⟨#[]⟩]:=by
 have g:(DataW.whole b prog ((iR a).forCall (λ_ _=>0) ⟨#[],#[.agg #[.int .i64 0,.string ⟨#[]⟩,.slice none 0 0,.slice none 0 0,.slice none 0 0,.slice none 0 0,.int .i64 0,.int .i64 0,.int .i64 0,.int .i64 0,.slice none 0 0],.string ⟨#[]⟩],[]⟩).memory Tryz.f3.params.toList Rows.planTextsSpec.vars false (#[.agg #[.int .i64 0,.string ⟨#[]⟩,.slice none 0 0,.slice none 0 0,.slice none 0 0,.slice none 0 0,.int .i64 0,.int .i64 0,.int .i64 0,.int .i64 0,.slice none 0 0],.string ⟨#[]⟩]:Array Value).toList 8).map (λd=>(d.1,d.2.1)) = some ([.agg [.lit (.int .i64 0),.lit (.string []),.nil,.nil,.nil,.nil,.lit (.int .i64 0),.lit (.int .i64 0),.lit (.int .i64 0),.lit (.int .i64 0),.nil],.lit (.string [])],[]):=by kernel_rfl
 obtain⟨⟨k,l,m⟩,i,c⟩:=Option.map_eq_some_iff.1 g;simp only[Prod.mk.injEq] at c;obtain⟨rfl,rfl⟩:=c;exact OpenSpec.preRow_of_cond 8 i (by kernel_rfl) (λj f=>by cases f;kernel_rfl) (by kernel_rfl) (ru a _)
end Go.Proofs.YtabmgpillccfaaaGreatDoor
