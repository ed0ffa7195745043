import Derived.Test.YtabmgpillccfaaaGreatDoorTxB
import Derived.Test.YtabmgpillccfaaaGreatDoorPlD
set_option linter.all false
set_option maxRecDepth 100000
namespace Go.Proofs.YtabmgpillccfaaaGreatDoor
open Go.RowKit Go.Sort Go.Proofs.Tryz
theorem dg(b:ByteArray)(a:Int)(c:World)(g:GT c)(l:b.size<4294967281)(i:(b.data.toList.all λd=>decide (d.toNat<128))=true)(k:b2 a)(f:1<=a)(p:a<=((Lib.fields b.data.toList).length:Int)):Calls prog 25 #[.string b,.int .i64 a] c λn o=>n=.returned (.string (bs (VO (Lib.fields b.data.toList) a)))/\Bw c o:=by refine pV b a _ c g l (λq d j=>by have:=List.all_eq_true.1 i d (a8 j);simpa using this) k f ?_;unfold VO;rw[fC];obtain⟨e,m⟩:∃e,(Lib.fields b.data.toList)[(a-1).toNat]?=some e:=⟨_,ba (by omega)⟩;rw[m];rfl
theorem ny:(Tryz.prog.info? 9).map (λa=>(a.zero,a.size,a.bytes))=some (some (.string ⟨#[]⟩),1,16):=by kernel_rfl
def SL(d:World)(base:Nat)(c:Value)(a:List (List UInt8)):Prop:=d.ownsRow base 9 1 c a.length (a.map λb=>.string (bs b))
variable{W w:World}{v:Value}
theorem SL.aa{base:Nat}{b:List (List UInt8)}(h:SL w base v b)(a:Bw w W):SL W base v b:=World.ownsRow.kept h ⟨a.os,a.tape,a.output,a.size,λd c _=>a.block d c⟩ (row:=none) (by cases v.ownBlock<;>simp)
theorem SL.form{base:Nat}{b:List (List UInt8)}(h:SL w base v b):(v=.slice none 0 0/\b=[])∨∃a g,v=.slice (some ⟨a,0,none⟩) b.length g/\base<=a/\a<w.heap.size/\b.length<=g/\∀d f,b[d]?=some f->w.cell? ⟨a,d,none⟩=some (.string (bs f)):=by
 have e:=h;unfold SL at e;rcases e.2 with ⟨c,k⟩|⟨a,j,o,c,l,m,n,_⟩
 .exact .inl ⟨c,eV k⟩
 .refine .inr ⟨a,j,c,l,(Array.getElem?_eq_some_iff.1 m).1,n,λd f i=>?_⟩;subst c;have p:=(b6 i).1;rw[World.ownsRow.cellAt e d (by omega),b8,i];rfl
theorem bo{v:Array Oper}{rest:List Oper}{i:Oper}{g:Act}{q:Exit->Act->World->Prop}(c:World)(A:i.guard=none)(n p:Operand)(D:i.op=.call { callee:=.builtin .append,args:=#[n,p],argTypes:=#[67,67] }) (base:Nat) (o:Value) (d f:List (List UInt8)) (a m r:Nat) (E:g.eval n=o) (u:SL c base o d) (G:g.eval p=.slice (some ⟨a,0,none⟩) m r) (C:m=f.length) (z:∀b j,f[b]?=some j->c.cell? ⟨a,b,none⟩=some (.string (bs j))) (P:d.length+m<=4398046511104) (s:base<=c.heap.size) (h:∀k e,SL e base k (d++f)->Below base c e->wpList prog v q rest (g.put i.dst k) e):wpList prog v q (i::rest) g c:=by obtain⟨J,B,M,N,O⟩:=info_parts ny;subst C;refine wpList_append_own_at c A n p 67 D base 9 J (.string ⟨#[]⟩) 1 16 underlying67 B M N O rfl (by decide) o d.length (d.map λl=>.string (bs l)) E u ⟨a,0,none⟩ f.length r (f.map λl=>.string (bs l)) G (by simp) (λb j t=>by rw[b8] at t;obtain⟨w,I,rfl⟩:=Option.map_eq_some_iff.1 t;(have y:(⟨a,0,none⟩:Addr).add b=⟨a,b,none⟩:=by by_cases h:b=0<;>simp[Addr.add,h]);rw[y];exact z b w I) (λj F=>by obtain⟨w,_,rfl⟩:=fB F;rfl) (by unfold maxLen;omega) (by omega) s ?_;intro k e K L _ _;refine h k e ?_ (bP L s λa x=>(World.ownsRow.lt u a x).1);unfold SL;rw[bj,bX];exact K
theorem bJ(a:List (List UInt8))(base:Nat)(g:Value)(b:World)(h:SL b base g a)(m:(Lib.join a [32]).length<=70368744177664)(F:a.length<=70368744177664):Calls prog 35 #[g] b λd e=>d=.returned (.string (bs (VU a)))/\Bw b e:=by
 have k:Calls prog 75 #[g,.string ⟨#[32]⟩] b λd e=>d=.returned (.string (bs (Lib.join a [32])))/\Bw b e:=by(rcases h.form with ⟨rfl,rfl⟩|⟨s,q,rfl,_,v,E,u⟩);(.exact(Tryz.strings_Join_none none 0 ⟨#[32]⟩ b).mono λB e h=>⟨h.1,h.2 ▸ aN⟩);·(have r:(a.map bs).length=a.length:=by simp);(have j:(a.map bs).map (λp=>p.data.toList)=a:=by rw[List.map_map];(conv=>rhs;rw[<-List.map_id a]);exact List.map_congr_left λo _=>dZ o);have:=Tryz.strings_Join s 0 q (a.map bs) ⟨#[32]⟩ b (λx o n=>by rw[b8] at n;obtain⟨y,w,rfl⟩:=Option.map_eq_some_iff.1 n;rw[aT];exact u x y w) v (by omega) (by omega) (by rw[j];exact aQ m (by decide));rw[r,j] at this;exact this
 have i:=VV k;obtain⟨c,f⟩:=al (Lib.join a [32]);have l:VU a=40::(c++[41]):=by unfold VU;rw[f]
 rw[<-f] at i m;rw[l];have C:(⟨#[40]⟩:ByteArray)++bs c=bs (40::c):=by rw[show (⟨#[40]⟩:ByteArray)=bs [40] from rfl,eg];rfl
 have D:bs (40::c)++(⟨#[41]⟩:ByteArray)=bs (40::(c++[41])):=by rw[show (⟨#[41]⟩:ByteArray)=bs [41] from rfl,eg];rfl
 have z:¬9223372036854775807<1+(bs c).size:=by rw[bx];omega
 have A:¬9223372036854775807<(bs (40::c)).size+1:=by rw[bx,a1];omega
 clear k f l h;go_enter func35,ntmps35;go_wp2_with (go_at_call 75;refine(U i).mono ?_;rintro d G ⟨rfl,t⟩);go_ret;exact⟨rfl,t⟩
end Go.Proofs.YtabmgpillccfaaaGreatDoor
