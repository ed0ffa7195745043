import Derived.Test.YtabmgpillccfaaaGreatDoorTxA
import Derived.Test.YtabmgpillccfaaaGreatDoorShelf
set_option linter.all false
set_option maxRecDepth 100000
namespace Go.Proofs.YtabmgpillccfaaaGreatDoor
open Go.RowKit Go.Sort Go.Proofs.Tryz
variable{W w:World}
theorem gL{c:String}{d:Array Value}(a:w.var? prog c=some d)(f:Bw w W):W.var? prog c=some d:=by
 unfold World.var? at a ⊢;cases e:Tryz.prog.globalNamed c with
 | none=>rw[e] at a;cases a
 | some b=>rw[e] at a;simp only[Option.bind_some] at a ⊢;(have g:b<w.heap.size:=by rcases Nat.lt_or_ge b w.heap.size with h|h;(.exact h);.rw[Array.getElem?_eq_none h] at a;cases a);rw[f.block b g];exact a
structure GT(w:World):Prop where
 p:Lib.TabIs prog w "internal/strconv.uint64pow10" .u64 Lib.pow10Tab
 a:Lib.TabIs prog w "strings.asciiSpace" .u8 Lib.asciiSpaceTab
 s:∃tp q,w.var? prog "strconv.ErrSyntax" = some #[.iface tp q]
 r:∃tp q,w.var? prog "strconv.ErrRange" = some #[.iface tp q]
theorem GT.aa(h:GT w)(a:Bw w W):GT W:=by obtain⟨f,d,b⟩:=h.s;obtain⟨g,e,c⟩:=h.r;exact⟨gL h.p a,gL h.a a,⟨f,d,gL b a⟩,⟨g,e,gL c a⟩⟩
theorem iJ(h:∃a b,W=grow (w.drewN a) b):Bw w W:=by
 obtain⟨a,b,rfl⟩:=h;refine⟨rfl,rfl,rfl,?_,λd c=>?_⟩;.unfold grow;simp
 .unfold grow;simp only;rw[Array.getElem?_append_left (by simpa using c)];rfl
theorem dv(b:Int)(c:b2 b)(a:World)(e:GT a):Calls prog 29 #[.int .i64 b] a λf d=>f=.returned (.string (bs (Lib.itoa b)))/\Bw a d:=
 (Tryz.strconv_Itoa b c.1 c.2 a e.p).mono λg d h=>⟨h.1,iJ h.2⟩
theorem ew(b:Int)(c:b2 b)(a:World)(e:GT a):Calls prog 84 #[.int .i64 b,.int .i64 10] a λf d=>f=.returned (.string (bs (Lib.itoa b)))/\Bw a d:=
 (Tryz.strconv_FormatInt_10 b c.1 c.2 a e.p).mono λg d h=>⟨h.1,iJ h.2⟩
theorem pV(e:ByteArray)(d:Int)(j:List UInt8)(a:World)(n:GT a)(s:e.size<4294967281)(p:∀(z:Nat) b,e.data.toList[z]?=some b->b.toNat<128)(y:b2 d)(D:1<=d)(g:(Lib.fields e.data.toList)[(d-1).toNat]?=some j):Calls prog 25 #[.string e,.int .i64 d] a λt A=>t=.returned (.string (bs j))/\Bw a A:=by
 have f:=VV (Tryz.strings_Fields e a s p n.a);obtain⟨c,E⟩:∃c:Nat,d-1=(c:Int):=⟨(d-1).toNat,by omega⟩;have q:(d-1).toNat=c:=by omega
 rw[q] at g;have r:=(b6 g).1;obtain⟨k,hF⟩:=al (Lib.fields e.data.toList);rw[<-hF] at f g r;obtain⟨w,o⟩:=al k.length;rw[<-o] at f r;obtain⟨u,i⟩:=al (a.alloc (.cells ((k.map λm=>Value.string ⟨m.toArray⟩).toArray) 9));have x:u.cell? ⟨a.heap.size,c,none⟩=some (.string (bs j)):=by rw[i];(have:(k.map λm=>Value.string ⟨m.toArray⟩)[c]?=some (.string (bs j)):=by rw[b8,g];rfl);simp[go_sem];simpa using this
 have v:Hid (Bw a u):=by rw[i];exact(aN).alloc aV _
 rw[<-i] at f;have G:(c:Int)<(w:Int):=by omega
 have F:(0:Int)<=(c:Int):=by omega
 have I:wrap64 (c:Int)=(c:Int):=by have:=y.2;unfold wrap64;omega
 obtain⟨C,l⟩:=al a.heap.size;rw[<-l] at f x;have B:=VV l;clear hF o i g s p n q l;go_enter func25,ntmps25;go_wp2_with (go_at_call 68;refine(U f).mono ?_;rintro t J ⟨rfl,rfl⟩);go_ret;exact⟨rfl,U v⟩
end Go.Proofs.YtabmgpillccfaaaGreatDoor
