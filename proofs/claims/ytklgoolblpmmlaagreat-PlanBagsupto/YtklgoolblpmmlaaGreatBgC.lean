import Derived.Test.YtklgoolblpmmlaaGreatExS
import Derived.Test.YtklgoolblpmmlaaGreatEvA
set_option linter.all false
set_option maxRecDepth 100000
namespace Go.Proofs.YtklgoolblpmmlaaGreat
open Go.RowKit Go.Sort Go.Proofs.Tryz
theorem jo:(Tryz.prog.info? 43).map (λa=>(a.zero,a.size,a.bytes))=some (some (.agg #[.int .i64 0,.int .i64 0,.string ⟨#[]⟩]),3,32):=by kernel_rfl
theorem UE(a:List aH):(a.flatMap c3).length=a.length*3:=by
 induction a with
 | nil=>rfl
 | cons c a b=>rw[eA,bG,b];simp[c3];omega
def e8(c:World)(b:Nat)(a:List aH):Prop:=dx c 0 (.slice (some ⟨b,0,none⟩) a.length a.length) a
variable{W w:World}{m n:Nat}{x y:List aH}{v:Value}{D:List Value}{P:Nat->Prop}{c:aH}
theorem e8.lt(h:e8 w n x):n<w.heap.size:=(World.ownsRow.lt h n rfl).2
theorem e8.at{x:aH}(h:e8 w n y)(a:y[m]?=some x):w.cell? ⟨n,m*3,none⟩=some (.int .i64 x.k)/\w.cell? ⟨n,m*3+1,none⟩=some (.int .i64 x.n)/\w.cell? ⟨n,m*3+2,none⟩=some (.string x.s):=by
 have b:=(bD a).1;refine⟨?_,?_,?_⟩;.rw[World.ownsRow.cellAt h (m*3) (by omega)];exact d2 y m 0 x a (by omega)
 .rw[World.ownsRow.cellAt h (m*3+1) (by omega)];exact d2 y m 1 x a (by omega)
 .rw[World.ownsRow.cellAt h (m*3+2) (by omega)];exact d2 y m 2 x a (by omega)
theorem e8.row(h:e8 w n x):bX w (some ⟨n,0,none⟩) x:=.inr ⟨n,0,rfl,λb c a=>by simpa using h.at a⟩
theorem e8.three(h:e8 w n x)(e:m<x.length):∃a:aH,w.cell? ⟨n,m*3,none⟩=some (.int .i64 a.k)/\w.cell? ⟨n,m*3+1,none⟩=some (.int .i64 a.n)/\w.cell? ⟨n,m*3+2,none⟩=some (.string a.s)/\w.frozen? ⟨n,m*3,none⟩=false/\w.frozen? ⟨n,m*3+1,none⟩=false/\w.frozen? ⟨n,m*3+2,none⟩=false:=by obtain⟨b,c,d⟩:=h.at (VR e);exact⟨_,b,c,d,World.ownsRow.frozenAt h _,World.ownsRow.frozenAt h _,World.ownsRow.frozenAt h _⟩
theorem vH{base size:Nat}(h:w.ownsRow base n size v m D)(g:∀a,v.ownBlock=some a->W.heap[a]?=w.heap[a]?):W.ownsRow base n size v m D:=by
 refine⟨h.1,?_⟩;rcases h.2 with f|⟨a,b,c,rfl,d,e,rest⟩;.exact .inl f
 .exact .inr ⟨a,b,c,rfl,d,(g a rfl).trans e,rest⟩
theorem bM{base size:Nat}(h:w.ownsRow base n size v m D)(c:Ky P w W)(d:∀a,v.ownBlock=some a->¬P a):W.ownsRow base n size v m D:=
 vH h λa b=>c.block a (World.ownsRow.lt h a b).2 (d a b)
theorem e8.ky{F:Nat->Prop}(h:e8 w n x)(b:Ky F w W)(c:¬F n):e8 W n x:=bM h b λd a=>by simp[Value.ownBlock] at a;subst a;exact c
theorem e8.aa(h:e8 w n x)(a:Bw w W):e8 W n x:=h.ky (F:=λ_=>False) (Ky.ab a) id
def Eg(d:World)(a b:Nat)(c:aH):World:=((d.setCell ⟨a,b*3,none⟩ (.int .i64 c.k)).setCell ⟨a,b*3+1,none⟩ (.int .i64 c.n)).setCell ⟨a,b*3+2,none⟩ (.string c.s)
theorem e8.put{k:Nat}(h:e8 w n x)(b:k<x.length)(a:aH):e8 (Eg w n k a) n (x.set k a):=by have:=dx.put h b a;unfold e8;rw[List.length_set];exact this
theorem cS{F:Nat->Prop}(b:World)(a e:Nat)(f:Value)(hF:F a):Ky F b (b.setCell ⟨a,e,none⟩ f):=⟨rfl,rfl,rfl,by simp[World.setCell],λg _ d=>Below.heap_setCell _ _ _ _ (λc=>d (c ▸ hF))⟩
theorem dt{F:Nat->Prop}(b:World)(a c:Nat)(d:aH)(hF:F a):Ky F b (Eg b a c d):=((cS b a _ _ hF).trans (cS _ a _ _ hF) (Nw.refl _ _)).trans (cS _ a _ _ hF) (Nw.refl _ _)
theorem oJ(c:Nat):(madeCells (Value.cells (.agg #[.int .i64 0,.int .i64 0,.string ⟨#[]⟩])) (c*3)).toList=(List.replicate c aH.null).flatMap c3:=by
 apply List.ext_getElem?;intro a;by_cases f:a<c*3;·(have e:(List.replicate c aH.null)[a / 3]?=some aH.null:=by rw[List.getElem?_replicate,ba (by omega)]);have d:=d2 _ (a / 3) (a % 3) aH.null e (by omega);rw[show a / 3*3+a % 3=a by omega] at d;rw[d];(have b:a % 3=0∨a % 3=1∨a % 3=2:=by omega);rcases b with b|b|b<;>simp[madeCells,f,Value.cells,b,c3,aH.null]
 .rw[List.getElem?_eq_none (by rw[Array.length_toList,size_madeCells];omega),List.getElem?_eq_none (by rw[UE,List.length_replicate];omega)]
theorem zH(b:World)(a:Nat)(c:a<=1048576):e8 (b.alloc (.cells (madeCells (Value.cells (.agg #[.int .i64 0,.int .i64 0,.string ⟨#[]⟩])) (a*3)) 43)) b.heap.size (List.replicate a aH.null):=by have h:=World.ownsRow_lit (base:=0) (e:=43) (size:=3) b (madeCells (Value.cells (.agg #[.int .i64 0,.int .i64 0,.string ⟨#[]⟩])) (a*3)) a bt (by unfold maxLen;omega) (size_madeCells _ _);rw[oJ] at h;unfold e8 dx;rw[List.length_replicate];exact h
theorem eD{c:Program}(g:World){q:Array Oper}{rest:List Oper}{f:Oper}{d:Act}{k:Exit->Act->World->Prop} (v:f.guard=none) (p l:Operand) (i:TypeId) (y:f.op=Op.makeSlice i p l) (e:TypeId) (b:TypeInfo) (j:Value) (A:c.underlying i=some (.slice e)) (w:c.info? e=some b) (B:b.zero=some j) (size:Nat) (z:b.size=size) (o n:IntKind) (a:Nat) (x:d.eval p=.int o (a:Int)) (u:d.eval l=.int n (a:Int)) (E:b.bytes*a<=281474976710656) (D:a<=9223372036854775807) (r:wpList c q k rest (d.put f.dst (.slice (some ⟨g.heap.size,0,none⟩) a a)) (g.alloc (.cells (madeCells j.cells (a*size)) e))):wpList c q k (f::rest) d g:=by
 refine wpList_plain v λC s=>?_;have t:(b.bytes:Int)*(a:Int)<=281474976710656:=by(have h:((b.bytes*a:Nat):Int)<=281474976710656:=by omega);rwa [Int.natCast_mul] at h
 have m:=run_make (P:=c) g i e b j A w B o n a a (by omega) (Int.le_refl _) t (by omega);simp only[Int.toNat_natCast,z] at m;unfold Oper.wp;simp[execOp,y,x,u,m,Result.andThen];exact s _ _ r
theorem eT(b:World){j:Array Oper}{rest:List Oper}{d:Oper}{c:Act}{i:Exit->Act->World->Prop} (m:d.guard=none) (g f:Operand) (q:d.op=Op.makeSlice 40 g f) (a:Nat) (o:c.eval g=.int .i64 (a:Int)) (l:c.eval f=.int .i64 (a:Int)) (p:a<=1048576) (k:∀e,e8 e b.heap.size (List.replicate a aH.null)->Bw b e->e.heap.size=b.heap.size+1->wpList prog j i rest (c.put d.dst (.slice (some ⟨b.heap.size,0,none⟩) a a)) e):wpList prog j i (d::rest) c b:=by obtain⟨r,n,s,t,u⟩:=info_parts jo;exact eD b m g f 40 q 43 r _ underlying40 n s 3 t .i64 .i64 a o l (by rw[u];omega) (by omega) (k _ (zH b a p) (am VS _) (by simp))
theorem nH{α:Type}{b a:List α}{d:α}(h:b.take n=a.take n)(f:b.length=a.length)(c:a[n]?=some d):(b.set n d).take (n+1)=a.take (n+1):=by have e:=(bD c).1;rw[List.take_add_one,List.take_add_one,List.take_set_of_le bi,h,List.getElem?_set,ba rfl,ba (by omega),c]
structure Fl(w:World)(g:Nat)(ys:List aH)(j:Nat):Prop where
 is:∃L,e8 w g L/\L.length=ys.length/\L.take j=ys.take j
theorem Fl.put(h:Fl w n x m)(b:x[m]?=some c):Fl (Eg w n m c) n x (m+1):=by obtain⟨d,e,a,f⟩:=h.is;have g:=(bD b).1;exact⟨d.set m c,e.put (by omega) c,by rw[List.length_set];exact a,nH f a b⟩
theorem Fl.ky{F:Nat->Prop}(h:Fl w n x m)(e:Ky F w W)(f:¬F n):Fl W n x m:=by obtain⟨a,b,c,d⟩:=h.is;exact⟨a,b.ky e f,c,d⟩
theorem Fl.done(h:Fl w n x x.length):e8 w n x:=by obtain⟨d,b,c,a⟩:=h.is;rw[dy,<-c,dy] at a;rw[<-a];exact b
theorem Fl.start{ys:List aH}(h:e8 w n x)(a:x.length=ys.length):Fl w n ys 0:=⟨x,h,a,by simp⟩
theorem Fl.three(h:Fl w n x m)(f:m<x.length):∃a:aH,w.cell? ⟨n,m*3,none⟩=some (.int .i64 a.k)/\w.cell? ⟨n,m*3+1,none⟩=some (.int .i64 a.n)/\w.cell? ⟨n,m*3+2,none⟩=some (.string a.s)/\w.frozen? ⟨n,m*3,none⟩=false/\w.frozen? ⟨n,m*3+1,none⟩=false/\w.frozen? ⟨n,m*3+2,none⟩=false:=by obtain⟨c,b,d,e⟩:=h.is;exact b.three (by omega)
end Go.Proofs.YtklgoolblpmmlaaGreat
