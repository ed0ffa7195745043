import Derived.Test.YtklgoolblpmmlaaGreatStL
import Derived.Test.YtklgoolblpmmlaaGreatLongQ
set_option linter.all false
set_option maxHeartbeats 2000000
set_option maxRecDepth 100000
namespace Go.Proofs.YtklgoolblpmmlaaGreat
open Go.RowKit Go.Sort Go.Proofs.Tryz
theorem lD{w:World}(base:Nat)(k a:TypeId)(i:TypeInfo)(size:Nat)(d:Tryz.prog.underlying 40=some (.slice a))(c:Tryz.prog.info? a=some i)(b:Value)(j:Nat)(l:List Value)(g:w.ownsRow base a size b j l)(e:Nat):(Builtin.append_ #[40,40] k #[b,.slice none 0 e]).run prog w=.ok b w:=by
 rcases g.2 with ⟨rfl,rfl⟩|⟨o,m,n,rfl,_,_,f,_⟩
 .simp[Builtin.append_,run_underlying d,sizeOf,typeInfo,c,Builtin.lenOf,Builtin.firstCells]
 .simp[Builtin.append_,run_underlying d,sizeOf,typeInfo,c,Builtin.lenOf,Builtin.firstCells,f,storeCells]
theorem hp{C:Array Oper}{rest:List Oper}{g:Oper}{k:Act}{t:Exit->Act->World->Prop}(b:World)(w:g.guard=none)(s x:Operand)(z:g.op=.call { callee:=.builtin .append,args:=#[s,x],argTypes:=#[40,40] }) (base:Nat) (i:Value) (c a:List aH) (l:Option Addr) (r:Nat) (F:∀m,l=some m->∃n p,m=⟨n,p,none⟩) (A:k.eval s=i) (o:dx b base i c) (f:k.eval x=.slice l a.length r) (d:bX b l a) (M:c.length+a.length<=4000000) (v:base<=b.heap.size) (h:∀q j,dx j base q (c++a)->Below base b j->wpList prog C t rest (k.put g.dst q) j):wpList prog C t (g::rest) k b:=by
 obtain⟨B,y,I,J,K⟩:=info_parts CB;cases e:l with
 | none=>(have:a=[]:=by rcases d with h|⟨n,p,u,_⟩;(.exact h);.rw[e] at u;cases u);subst this;rw[e] at f;refine wpList_plain w λL d=>?_;have G:=lD (w:=b) base g.type 43 B 3 underlying40 y i c.length _ o r;unfold Oper.wp;simp only[List.length_nil] at f;simp[execOp,z,resolve,invoke,builtin,A,f,G,Result.andThen];exact d _ _ (h i b (by rw[VI];exact o) VS)
 | some m=>rw[e] at f;obtain⟨n,p,rfl⟩:=F m e;rw[e] at d;refine wpList_append_own_at b w s x 40 z base 43 B (.agg #[.int .i64 0,.int .i64 0,.string ⟨#[]⟩]) 3 32 underlying40 y I J K rfl (by decide) i c.length (c.flatMap c3) A o ⟨n,p,none⟩ a.length r (a.flatMap c3) f (fY a) (om d) (zF a) (by unfold maxLen;omega) (by omega) v ?_;intro q j D E _ _;refine h q j ?_ (bB E v (AI o));unfold dx;rw[bG,List.flatMap_append];exact D
theorem s1(a:World)(base:Nat)(b:base<=a.heap.size):dx (a.alloc (.cells #[] 43)) base (.slice (some ⟨a.heap.size,0,none⟩) 0 0) []:=
 ⟨rfl,.inr ⟨a.heap.size,0,_,rfl,b,Go.Deep.blk_alloc_new _ _,bi,by unfold maxLen;omega,rfl,rfl⟩⟩
theorem sH(c:List aH)(b:Option Addr)(e:Nat)(a:World)(u:c.length<=4000000)(k:∀i,b=some i->∃l n,i=⟨l,n,none⟩)(f:bX a b c):Calls prog 42 #[.slice b c.length e] a λj q=>∃p,j=.returned p/\dx q a.heap.size p c/\Bw a q:=by
 have o:∀d:World,(binOp .eql 40 (.slice b c.length e) (.slice none 0 0)).run prog d=.ok (.bool b.isNone) d:=λd=>Lib.run_eql_slice_nil d _ _ b _ e 0 0 underlying40;cases b with
 | none=>(have v:c=[]:=by rcases f with h|⟨l,n,j,_⟩;(.exact h);.cases j);subst v;simp only[Option.isNone_none,List.length_nil] at o ⊢;clear f u k;go_enter func42,ntmps42;go_wp2;go_ret;exact⟨_,rfl,World.ownsRow_nil _ _ _ _,VS⟩
 | some i=>have g:=H (am (VT _ a) (.cells #[] 43));have s:=H (f.aa (U g));have r:=H k;simp only[Option.isNone_some] at o;clear f k;go_enter func42,ntmps42;go_wp2_with (at_builtin;refine hp _ rfl (.tmp 5) (.tmp 6) rfl a.heap.size _ [] c _ e (U r) rfl (s1 a a.heap.size bi) rfl (U s) (by simp;omega) (U g).size ?_;intro w x m t;rw[dK] at m);go_ret;exact⟨w,rfl,m,(U g).trans t⟩
end Go.Proofs.YtklgoolblpmmlaaGreat
