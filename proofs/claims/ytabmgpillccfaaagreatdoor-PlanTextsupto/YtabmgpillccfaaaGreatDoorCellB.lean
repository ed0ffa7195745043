import Derived.Test.YtabmgpillccfaaaGreatDoorChecked
import Derived.WalkKit
import Derived.WalkSpells
import Derived.WalkLawsBesides
import Derived.StillTactics
import Derived.Deep.RegionHeld3
import Derived.Lib.QuietBelow
import Derived.BigQuiet
import Derived.RowKit3
set_option linter.all false
namespace Go.Proofs.YtabmgpillccfaaaGreatDoor
open Go.RowKit Go.Proofs.Tryz
section
variable{k m n:Nat}{W w:World}{v:Value}
theorem aN:Below n w w:=Below.refl n w
theorem ar(b:Nat)(a:World):Below b a a:=Below.refl b a
theorem aV:n<=n:=Nat.le_refl n
theorem ba{α:Type}{a:List α}(h:n<a.length):a[n]?=some a[n]:=List.getElem?_eq_getElem h
theorem a8{α:Type}{b:List α}{a:α}(h:b[n]?=some a):a∈b:=List.mem_of_getElem? h
theorem bf:0<=n:=Nat.zero_le n
theorem b6{α:Type}{a:α}{b:List α}(h:b[n]?=some a):∃h,b[n]=a:=List.getElem?_eq_some_iff.1 h
theorem bj{α:Type}{a b:List α}:(a++b).length=a.length+b.length:=List.length_append
theorem aT(a:Nat):0+a=a:=Nat.zero_add a
theorem b8{α c:Type}{a:α->c}{b:List α}:(List.map a b)[n]?=Option.map a b[n]?:=List.getElem?_map
theorem VP{α b:Type}{a:List α}(f:α->b):(List.map f a).length=a.length:=List.length_map f
theorem fB{α e:Type}{b:e}{c:α->e}{d:List α}(h:b∈List.map c d):∃a,a∈d/\c a=b:=List.mem_map.1 h
theorem bY(b:World)(a:Addr)(h:b.cell? a=some v):a.block<b.heap.size:=World.block_lt_of_cell? b a h
theorem aQ(h:n<=m)(a:m<=k):n<=k:=Nat.le_trans h a
theorem d8{α:Type}(a b c:List α):a++b++c=a++(b++c):=List.append_assoc a b c
theorem be(h:n<m)(a:m<=k):n<k:=Nat.lt_of_lt_of_le h a
theorem jD{α:Type}{a:α}{b c:List α}(h:a∈b++c):a∈b∨a∈c:=List.mem_append.1 h
theorem fC{α:Type}{b:List α}{a:α}:b.getD n a=b[n]?.getD a:=List.getD_eq_getElem?_getD
theorem kC(a:Bool):a=true∨a=false:=Bool.eq_false_or_eq_true a
theorem eV{α:Type}{a:List α}(h:a.length=0):a=[]:=List.eq_nil_of_length_eq_zero h
theorem aL{a:Prop}{h:Decidable a}(c:¬a){α:Sort _}{d b:α}:(if a then d else b)=b:=if_neg c
theorem aR{a:Prop}{h:Decidable a}(d:a){α:Sort _}{b c:α}:(if a then b else c)=b:=if_pos d
theorem dW(a b:Bool):((a&&b)=true)=(a=true/\b=true):=Bool.and_eq_true a b
theorem aM{b:Program}{d:Func}{c:Ending->World->Prop}{a:Act}{v:Value}(h:(results d a.tmps).run b w=.ok v w)(e:a.defers=[])(f:c (.returned v) w):bodyPost b d c .ret a w:=bodyPost_ret h e f
theorem dm{α:Type}{b:α}{c:List α}{a:α}(h:a∈b::c):a=b∨a∈c:=List.mem_cons.1 h
theorem d7{α:Type}(a:List α):a++[]=a:=List.append_nil a
theorem gJ{α:Type}{a:List α}:List.take a.length a=a:=List.take_length
theorem dl{α:Type}(a:List α):[]++a=a:=List.nil_append a
theorem bi{α d:Type}{a:α->d}{b:α}{c:List α}:List.map a (b::c)=a b::List.map a c:=List.map_cons
theorem a1{α:Type}{b:α}{a:List α}:(b::a).length=a.length+1:=List.length_cons
theorem bX{α d:Type}{a:α->d}{b c:List α}:List.map a (b++c)=List.map a b++List.map a c:=List.map_append
theorem gn{α:Type}{a b:List α}(h:a.length<=n):(a++b)[n]?=b[n-a.length]?:=List.getElem?_append_right h
theorem mt{α:Type}{a b:List α}(h:n<a.length):(a++b)[n]?=a[n]?:=List.getElem?_append_left h
theorem fl{α d:Type}{c:α}{b:List α}{a:α->List d}:List.flatMap a (c::b)=a c++List.flatMap a b:=List.flatMap_cons
theorem dH{α:Type}{a:α}{b c:List α}:a::b++c=a::(b++c):=List.cons_append
theorem eK{p:Prop}[Decidable p]:(decide p=true)=p:=decide_eq_true_eq
theorem h3{α:Type}{a:List α}(h:a.length<=n):List.take n a=a:=List.take_of_length_le h
theorem tk{α d:Type}{c:List α}{a:α}{b:α->d}(h:a∈c):b a∈List.map b c:=List.mem_map_of_mem h
theorem tl{α:Type}{a:α}{b:List α}(h:a∈b):∃c:Nat,b[c]?=some a:=List.getElem?_of_mem h
theorem hb{α:Type}{a:List α}(h:n<a.length):List.drop n a=a[n]::List.drop (n+1) a:=List.drop_eq_getElem_cons h
theorem dG{α:Type}{a:List α}(h:a.length<=n):List.drop n a=[]:=List.drop_eq_nil_of_le h
theorem ms(a:Int)(h:-9223372036854775808<=a/\a<=9223372036854775807):IntKind.i64.wrap a=a:=IntWalk.i64_in a h
abbrev Bw (a b:World):Prop:=Below a.heap.size a b
theorem bq{α:Sort _}(a:α):∃b,a=b:=⟨_,rfl⟩
theorem al{α:Sort _}(a:α):∃b,b=a:=⟨_,rfl⟩
structure dt where
 k:Int
 n:Int
 s:ByteArray
end
def dt.v(a:dt):Value:=.agg #[.int .i64 a.k,.int .i64 a.n,.string a.s]
theorem dt.open_(a:dt):a.v=.agg #[.int .i64 a.k,.int .i64 a.n,.string a.s]:=rfl
def dt.null:dt:=⟨0,0,⟨#[]⟩⟩
def dt.num(a:Int):dt:=⟨1,a,⟨#[]⟩⟩
def dt.str(a:ByteArray):dt:=⟨2,0,a⟩
variable{W w:World}{k m n:Nat}{v:Value}
theorem jA(c:Bw w W):(∀a b,a<w.heap.size->W.cell? ⟨a,b,none⟩=w.cell? ⟨a,b,none⟩)/\(∀a b,a<w.heap.size->W.frozen? ⟨a,b,none⟩=w.frozen? ⟨a,b,none⟩):=
 ⟨λa b h=>c.cell (p:=⟨a,b,none⟩) h,λa b h=>c.frozen (p:=⟨a,b,none⟩) h⟩
theorem ni(a:Int)(b:World):Calls prog 185 #[.int .i64 a] b λc d=>c=.returned (dt.num a).v/\Bw b d:=by unfold dt.v dt.num;go_enter func185,ntmps185;go_wp2;exact aM (v:=.agg #[.int .i64 1,.int .i64 a,.string ⟨#[]⟩]) (by simp[results,results185,go_sem]) rfl ⟨rfl,aN.alloc aV _⟩
theorem VV{p:Prop}(h:p):Hid p:=h
theorem U{p:Prop}(h:Hid p):p:=h
def b2(a:Int):Prop:=-9223372036854775808<=a/\a<=9223372036854775807
end Go.Proofs.YtabmgpillccfaaaGreatDoor
