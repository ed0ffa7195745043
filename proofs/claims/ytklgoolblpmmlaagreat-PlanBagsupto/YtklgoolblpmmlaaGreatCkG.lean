import Derived.Test.YtklgoolblpmmlaaGreatPlN
import Derived.Deep.CutBlock
set_option linter.all false
set_option maxHeartbeats 8000000
set_option maxRecDepth 100000
namespace Go.Proofs.YtklgoolblpmmlaaGreat
open Go.RowKit Go.Sort Go.Proofs.Tryz
variable{C K:List Int}{e:Ex}{I J:Int}{W w:World}{a:Option Addr}{p:Pl}{T:List Tb}{j k m n:Nat}
theorem wE(d:C.length=K.length)(h:∀(a:Nat) x y,C[a]?=some x->K[a]?=some y->x=y):C=K:=by apply List.ext_getElem d;intro a b c;exact h a _ _ (VR b) (VR c)
theorem wC(b f:List Int)(A:Option Addr)(L:Nat)(B:Option Addr)(M:Nat)(l:World)(Z:b.length<=140737488355328)(VW:f.length<=140737488355328)(g:bP l A b)(j:bP l B f):Calls prog 129 #[.slice A b.length L,.slice B f.length M] l λp S=>p=.returned (.bool (decide (b=f)))/\Bw l S:=by
 have I:=H g;have J:=H j;obtain⟨u,q⟩:=bn (decide (b=f));rw[<-q];clear g j;by_cases s:b.length=f.length;case neg=>(obtain rfl:u=false:=by rw[q];exact decide_eq_false (λp=>s (by rw[p])));(have N:((b.length:Int) != (f.length:Int))=true:=by simp;omega);clear q s;go_enter func129,ntmps129;go_wp2;go_ret;exact⟨rfl,VS⟩
 have N:((b.length:Int) != (f.length:Int))=false:=by simp;omega
 have z:=H q;have y:=H s;clear q s;go_enter func129,ntmps129;go_wp2_with fail;go_loopw[13] (λa wr=>∃e:Nat,e<=b.length/\a=.int .i64 (e:Int)/\Hid (∀(a:Nat) c d,a<e->b[a]?=some c->f[a]?=some d->c=d)/\Hid (Bw l wr)) (λa _=>b.length-(intOf a).toNat);case atStart=>exact⟨0,bt,rfl,(λa c d w=>absurd w (by omega)),VS⟩
 case round=>
  obtain⟨e,Y,rfl,o,n⟩:=hrel;by_cases Q:e<b.length
  ·(have O:(e:Int)<(b.length:Int):=by omega);(have P:e<f.length:=by have:=U y;omega);obtain⟨c,g⟩:∃c,b[e]?=some c:=⟨_,VR Q⟩;obtain⟨d,j⟩:∃d,f[e]?=some d:=⟨_,VR P⟩;obtain⟨W,VX,E,C⟩:=((U I).aa (U n)).get g;obtain⟨X,VY,F,D⟩:=((U J).aa (U n)).get j;have VZ:=cell_regrown C;have V0:=cell_regrown D;rw[E,F];clear C D E F;by_cases m:c=d
   .have G:Hid (∀(a:Nat) c d,a<e+1->b[a]?=some c->f[a]?=some d->c=d):=by
     intro a T V w i k
     rcases Nat.lt_or_eq_of_le (Nat.le_of_lt_succ w) with h|rfl
     .exact U o a T V h i k
     .rw[g] at i;rw[j] at k;injection i with i;injection k with k;rw[<-i,<-k];exact m
    have K:(c != d)=false:=by rw[m];simp
    clear o g j m
    go_upto_region 6 with fail
    refine wp_region_quiet_below (by kernel_rfl) (by kernel_rfl) ?_
    repeat (go_big_quiet_step (fail))
    refine wpQuiet_nil ?_
    intro x r
    have v:Bw wr x:=by obtain⟨R,rfl⟩:=r;exact below_regrown _ _ _
    clear r
    go_wp2
    exact⟨⟨e+1,by omega,by go_num,U G,ac (U n) v⟩,by simp[intOf];omega⟩
   ·(have K:(c != d)=true:=by simpa using m);(have t:Hid (u=false):=by show _=_;rw[U z];refine decide_eq_false λp=>m ?_;rw[p,j] at g;injection g with g;exact g.symm);clear o g j m;go_upto_region 6 with fail;refine wp_region_quiet_below (by kernel_rfl) (by kernel_rfl) ?_;(repeat (go_big_quiet_step (fail)));refine wpQuiet_nil ?_;intro x r;(have v:Bw wr x:=by obtain⟨R,rfl⟩:=r;exact below_regrown _ _ _);clear r;go_wp2;go_ret;exact⟨by rw[U t];rfl,ac (U n) v⟩
  ·(have O:¬(e:Int)<(b.length:Int):=by omega);(have t:Hid (u=true):=by show _=_;rw[U z];exact decide_eq_true (wE (U y) λa c d i k=>U o a c d (by have:=(bD i).1;omega) i k));clear o;go_wp2;go_ret;exact⟨by rw[U t];rfl,U n⟩
def kK(b:List Int)(a:Ex):Int:=if cY b a=0 then (kE b a).getD 0 else 0
theorem KR.val(h:KR C e I):I=kK C e:=by
 unfold kK;by_cases a:cY C e=0;.rw[ba a,h.1 a];rfl
 .rw[VU a,h.2 a]
theorem iz(b:List Int)(p:b.length<=140737488355328)(e:Option Addr)(g:Nat)(a:Ex)(n:a.fin)(d:Option Addr)(f:Nat)(c:World)(l:Ex.all c d a.args)(k:bP c e b):Calls prog 123 #[a.val d f,.slice e b.length g] c λi j=>i=.returned (.tuple #[.int .i64 (kK b a),.int .i64 (cY b a)])/\Bw c j:=by refine(yI b p e g a n d f c l k).mono ?_;rintro i j ⟨⟨q,rfl,o⟩,m⟩;rw[o.val];exact⟨rfl,m⟩
def jf(b:List Int)(a:Ex):Int:=if cY b a=0/\kK b a=2 then 4 else cY b a
theorem tw(b:List Int)(a:Ex):cY b a=0∨cY b a=1∨cY b a=4:=by
 unfold cY;split;.split;(.exact .inl rfl);.exact .inr (.inr rfl)
 .exact .inr (.inl rfl)
def mj(c:List Int)(b:List Ex):Int:=if b.any (λa=>decide (cY c a=1)) then 1 else if b.any (λa=>decide (¬cY c a=0)) then 4 else 0
def fx(c:List Int)(b:List Ex):List Int:=b.map λa=>max (kK c a) 1
theorem lJ(a:List (ByteArray×Int))(v:Option Addr)(F:Nat)(c:World)(R:a.length<=1048576)(x:Vs c v a):Calls prog 120 #[.slice v a.length F] c (nC (a.map Prod.snd) c):=by
 have E:=H x;obtain⟨M,z,B,C,D⟩:=info_parts m1;clear x;go_enter func120,ntmps120;go_upto_region 2 with (at_make;refine wpList_make_full _ rfl (.tmp 7) (.tmp 7) 23 rfl c.heap.size 3 M (.int .i64 0) 1 underlying23 z B C .i64 .i64 _ _ a.length rfl rfl rfl rfl (by rw[D];omega) (by unfold maxLen;omega) bi ?_;intro T w y);have q:=H (bB y bi (λQ K=>by cases K));have s:=H (iT w);clear w y B C D z;go_wp2_with fail;go_loopw[11] (λn wr=>∃(b:Nat),b<=a.length/\n=.int .i64 (b:Int)/\Hid (cm wr c.heap.size (.slice (some ⟨c.heap.size,0,none⟩) a.length a.length) ((a.take b).map Prod.snd++List.replicate (a.length-b) 0))/\Hid (Bw c wr)) (λn _=>a.length-(intOf n).toNat);case atStart=>exact⟨0,bt,rfl,U s,U q⟩
 case round=>clear s q;obtain⟨b,L,rfl,e,g⟩:=hrel;by_cases f:b<a.length;(·(have J:(b:Int)<(a.length:Int):=by omega);obtain⟨d,m⟩:∃d,a[b]?=some d:=⟨_,VR f⟩;obtain⟨P,S,rfl,G,I⟩:=((U E).aa (U g)).get m;have u:=H (dZ Prod.snd m);(have l:((a.take b).map Prod.snd).length=b:=by simp;omega);have k:=am (VT _ wr) (.cells #[.string d.1,.int .i64 d.2] 73);have i:=(U e).aa k;obtain⟨A,o⟩:=km _ a.length b l f;obtain⟨N,O⟩:=i.at o A;have j:=i.store (k:=b) o d.2;rw[iQ _ _ _ l f,<-U u] at j;have t:=H j;have r:=H ((ac (U g) k).setCell (p:=⟨c.heap.size,b,none⟩) bi (.int .i64 d.2));obtain⟨V,W⟩:=d;simp only at G I N O t r;clear m k l i j A o e u;go_wp2;exact⟨⟨b+1,by omega,by go_num,U t,U r⟩,by simp[intOf];omega⟩);·(have J:¬(b:Int)<(a.length:Int):=by omega);(obtain rfl:b=a.length:=by omega);rw[dy,Nat.sub_self,List.replicate_zero,VI] at e;clear L f;go_wp2;go_ret;refine⟨_,_,by rw[bQ];rfl,?_,U g⟩;rw[bQ];exact U e
theorem vj(b:List Int)(u:b.length<=140737488355328)(g:Option Addr)(k:Nat)(q:Nat)(a:Ex)(o:a.fin)(e:Option Addr)(i:Nat)(c:World)(m:Ex.all c e a.args)(l:bP c g b)(p:c.cell? ⟨q,0,none⟩=some (.slice g b.length k)):Calls prog 124 #[a.val e i,.pointer (some ⟨q,0,none⟩)] c λr v=>r=.returned (.bool (decide (¬cY b a=0)))/\Bw c v:=by
 have d:=am (VT _ c) (a.box e i);have f:=H (iz b u g k a o e i _ (Ex.af _ m d) (l.aa d));have s:=ae p d;have j:=H d;have n:(decide (¬cY b a=0))=(cY b a != 0):=by rw[Bool.eq_iff_iff,cF,bne_iff_ne]
 rw[n];unfold Ex.box at f j s;rw[Ex.ad] at f ⊢;generalize kK b a=x at *;generalize cY b a=w at *;clear m l d o n p;go_enter func124,ntmps124;go_wp2_with (go_at_call 123;refine(U f).mono ?_;rintro r y ⟨rfl,t⟩);go_ret;exact⟨rfl,ac (U j) t⟩
def gR(a:List Int)(x:Int×Int):Bool:=x.1 == 3 && (a[x.2.toNat]?).getD 0 == 2
theorem ue(b:List Int)(q:Option Addr)(t:Nat)(r:Nat)(c a:Int)(C:b.length<=140737488355328)(k:c=3->0<=a/\a<(b.length:Int))(e:World)(j:bP e q b)(l:e.cell? ⟨r,0,none⟩=some (.slice q b.length t)):Calls prog 126 #[.agg #[.int .i64 c,.int .i64 a],.pointer (some ⟨r,0,none⟩)] e λv w=>v=.returned (.bool (gR b (c,a)))/\Bw e w:=by
 have g:=am (VT _ e) (.cells #[.int .i64 c,.int .i64 a] 149);have o:=H g;have y:=ae l g;obtain⟨p,d⟩:=bn (gR b (c,a));rw[<-d];unfold gR at d;by_cases f:c=3;.obtain⟨A,B⟩:=k f;obtain⟨i,rfl⟩:∃i:Nat,a=(i:Int):=⟨a.toNat,by omega⟩;(have u:i<b.length:=by omega);obtain⟨n,m⟩:∃n,b[i]?=some n:=⟨_,VR u⟩;obtain⟨x,D,rfl,z⟩:=(j.aa g).get m;(obtain rfl:p=(n == 2):=by rw[d,f,Int.toNat_natCast,m];rfl);subst f;clear d l m j k g;go_enter func126,ntmps126;go_wp2;go_ret;exact⟨rfl,U o⟩
 ·(have s:(c == 3)=false:=by simpa using f);(obtain rfl:p=false:=by rw[d];simp only;rw[s];rfl);clear d l j k g f;go_enter func126,ntmps126;go_wp2;go_ret;exact⟨rfl,U o⟩
def h6(b:List Int)(a:Int):Int:=(b[a.toNat]?).getD 0
def i4(a:List Int)(x:Int×Int):Int:=if x.1 == 4 || x.1 == 5 then h6 a x.2 else 1
def hS(a cols:List Int)(b:List (Int×Int)):List Int:=cols.map (h6 a)++b.map (i4 a)
def hj(a:Nat)(x:Int×Int):Bool:=x.1 != 1 && decide ((a:Int)<=x.2)
def su(a:List Int)(x:Int×Int):Bool:=x.1 == 3 && h6 a x.2 != 1
def pY(b cols:List Int)(a:List (Int×Int)):Int:=
 if cols.any (λc=>decide ((b.length:Int)<=c)) || decide (32<cols.length+a.length) || a.any (hj b.length) then 1 else if a.any (su b) then 4 else 0
theorem cL{α:Type}{a:α->Bool}{b:List α}(h:b.any a=false){x:α}(d:x∈b):a x=false:=by
 cases c:a x;.rfl
 .rw[List.any_eq_true.2 ⟨x,d,c⟩] at h;cases h
theorem g9(a:World)(c:Obj)(base:Nat)(e:base<=a.heap.size)(b:Int):cm ((a.alloc c).alloc (.cells #[.int .i64 b] 3)) base (.slice (some ⟨a.heap.size+1,0,none⟩) 1 1) [b]:=by
 have d:(a.alloc c).heap.size=a.heap.size+1:=by simp[go_sem]
 have h:=eV (a.alloc c) base (by omega) b;rw[d] at h;exact h
theorem mY(h:bP w a C){i:Addr}(e:a=some i):∀b g,(C.map (.int .i64))[b]?=some g->w.cell? (i.add b)=some g:=by
 intro b g c;rcases h with rfl|⟨j,k,d,h⟩;.simp at c
 .rw[e] at d
  injection d with d
  subst d
  rw[bL] at c
  cases f:C[b]? with
  | none=>rw[f] at c;simp at c
  | some l=>
   rw[f] at c
   simp at c
   subst c
   have e:(⟨j,k,none⟩:Addr).add b=⟨j,k+b,none⟩:=by by_cases h:b=0<;>simp[Addr.add,h]
   rw[e]
   exact h b l f
theorem h0{w:World}(base:Nat)(k a:TypeId)(i:TypeInfo)(size:Nat)(d:Tryz.prog.underlying 23=some (.slice a))(c:Tryz.prog.info? a=some i)(b:Value)(j:Nat)(l:List Value)(g:w.ownsRow base a size b j l)(e:Nat):(Builtin.append_ #[23,23] k #[b,.slice none 0 e]).run prog w=.ok b w:=by
 rcases g.2 with ⟨rfl,rfl⟩|⟨o,m,n,rfl,_,_,f,_⟩
 .simp[Builtin.append_,run_underlying d,sizeOf,typeInfo,c,Builtin.lenOf,Builtin.firstCells]
 .simp[Builtin.append_,run_underlying d,sizeOf,typeInfo,c,Builtin.lenOf,Builtin.firstCells,f,storeCells]
theorem VE{z:Array Oper}{rest:List Oper}{e:Oper}{i:Act}{q:Exit->Act->World->Prop}(a:World)(t:e.guard=none)(p x:Operand)(v:e.op=.call { callee:=.builtin .append,args:=#[p,x],argTypes:=#[23,23] }) (base:Nat) (f:Value) (c b:List Int) (n:Option Addr) (o:Nat) (w:i.eval p=f) (l:cm a base f c) (d:i.eval x=.slice n b.length o) (j:bP a n b) (K:c.length+b.length<=4000000) (s:base<=a.heap.size) (h:∀m g,cm g base m (c++b)->Below base a g->wpList prog z q rest (i.put e.dst m) g):wpList prog z q (e::rest) i a:=by
 obtain⟨y,u,E,F,G⟩:=info_parts m2;cases k:n with
 | none=>(have:b=[]:=by rcases j with h|⟨J,L,r,_⟩;(.exact h);.rw[k] at r;cases r);subst this;rw[k] at d;refine wpList_plain t λI j=>?_;have D:=h0 (w:=a) base e.type 3 y 1 underlying23 u f c.length _ l o;unfold Oper.wp;simp only[List.length_nil] at d;simp[execOp,v,resolve,invoke,builtin,w,d,D,Result.andThen];exact j _ _ (h f a (by rw[VI];exact l) VS)
 | some A=>rw[k] at d;refine wpList_append_own_at a t p x 23 v base 3 y (.int .i64 0) 1 8 underlying23 u E F G rfl (by decide) f c.length (c.map (.int .i64)) w l A b.length o (b.map (.int .i64)) d (by simp) (mY j k) (j1 b) (by unfold maxLen;omega) (by omega) s ?_;intro m g B C _ _;refine h m g ?_ (bB C s (pB l));unfold cm;rw[bG,ep];exact B
theorem vJ(a:World)(base:Nat)(b:base<=a.heap.size):cm (a.alloc (.cells #[] 3)) base (.slice (some ⟨a.heap.size,0,none⟩) 0 0) []:=
 ⟨rfl,.inr ⟨a.heap.size,0,_,rfl,b,Go.Deep.blk_alloc_new _ _,bi,by unfold maxLen;omega,rfl,rfl⟩⟩
def hM(a:List Int)(c b:Int):List Int:=a++[if c == 6 then h6 a b else 1]
def pn(a cols e:List Int)(d c:Int):Int:=
 if cols.any (λb=>decide ((a.length:Int)<=b)) || e.any (λb=>decide ((a.length:Int)<=b)) || (decide (4<=d) && decide ((a.length:Int)<=c)) || decide (32<=a.length) then 1 else if d == 4 && h6 a c != 1 then 4 else 0
def bV(ins:List (List Int)):List Int:=(ins[0]?).getD []
def gU(ins:List (List Int)):List Int:=(ins[1]?).getD []
def ke(b:List Int)(c:Pl):Int:=match c.ex[0]? with
 | some a=>jf b a
 | none=>0
def je(a:List Int)(b:Pl):Int:=if ke a b != 1 && decide (32<a.length) then 1 else ke a b
def nI(c:List Tb)(b:ByteArray):Int×List Int:=match c.find? (λa=>decide (a.name=b)) with
 | some a=>(0,a.cols.map Prod.snd)
 | none=>(8,[])
def bA(d:List Tb)(a:Pl)(ins:List (List Int)):Int×List Int:=
 if a.op == 1 then nI d a.au
 else if a.op == 12 then (0,a.cols)
 else if a.op == 8 || a.op == 11 then (if (ins.drop 1).any (λc=>!decide (c=bV ins)) then 4 else 0,bV ins)
 else if a.op == 2 then (ke (bV ins) a,bV ins)
 else if a.op == 3 then (mj (bV ins) a.ex,fx (bV ins) a.ex)
 else if a.op == 4 || a.op == 5 then (je (bV ins++gU ins) a,bV ins++gU ins)
 else if a.op == 6 then (pY (bV ins) a.cols a.aggs,hS (bV ins) a.cols a.aggs)
 else if a.op == 10 then (pn (bV ins) a.cols (a.keys.map Prod.fst) a.fn a.aj,hM (bV ins) a.fn a.aj)
 else if a.op == 9 then (if (a.keys.map Prod.fst).any (λb=>decide (((bV ins).length:Int)<=b)) then 1 else 0,bV ins)
 else (0,bV ins)
mutual
def bK(b:List Tb):Pl->Int×List Int
 | .mk k l e cols g c f d i j a=>if (hX b a).1=0 then bA b (.mk k l e cols g c f d i j a) (hX b a).2 else ((hX b a).1,[])
def hX(a:List Tb):List Pl->Int×List (List Int)
 | []=>(0,[])
 | b::c=>if (bK a b).1=0 then ((hX a c).1,(bK a b).2::(hX a c).2) else ((bK a b).1,[])
end
theorem kk(b:List Tb)(a:Pl):bK b a=if (hX b a.args).1=0 then bA b a (hX b a.args).2 else ((hX b a.args).1,[]):=by cases a;rw[bK];rfl
theorem lY(c:List Tb):∀b:List Pl,(∀(d:Nat) a,b[d]?=some a->(bK c a).1=0)->hX c b=(0,b.map λa=>(bK c a).2)
 | [],_=>by rw[hX];rfl
 | f::b,h=>by rw[hX,ba (h 0 f rfl),lY c b λd a e=>h (d+1) a (by simpa using e)];rfl
theorem nr(e:List Tb):∀(c:List Pl) (d:Nat) (a:Pl),(∀(f:Nat) g,f<d->c[f]?=some g->(bK e g).1=0)->c[d]?=some a->¬(bK e a).1=0->(hX e c).1=(bK e a).1
 | [],d,a,_,b,_=>by simp at b
 | j::c,0,a,_,b,i=>by simp at b;subst b;rw[hX,VU i]
 | j::c,d+1,a,h,b,i=>by rw[hX,ba (h 0 j (by omega) rfl)];exact nr e c d a (λf g l k=>h (f+1) g (by omega) (by simpa using k)) (by simpa using b) i
structure i5(ks:List Int):Prop where
 lo:1<=ks.length
 hi:ks.length<=32
 k:∀k∈ks,k=1∨k=2
theorem i5.ofB(h:jn C=true):i5 C:=by unfold jn at h;simp only[cc,cF,Bool.not_eq_true'] at h;obtain⟨⟨a,b⟩,c⟩:=h;refine⟨a,b,λe d=>?_⟩;have:=cL c d;unfold lF at this;simp only[Bool.and_eq_false_iff,bne_eq_false_iff_eq] at this;exact this
theorem i5.at(h:i5 C)(c:0<=I)(d:I<(C.length:Int)):h6 C I=1∨h6 C I=2:=by
 unfold h6;obtain⟨a,rfl⟩:∃a:Nat,I=(a:Int):=⟨I.toNat,by omega⟩;rw[Int.toNat_natCast];have b:a<C.length:=by omega
 rw[VR b];exact h.k _ (List.getElem_mem b)
def K3(a:Int):Prop:=a=0∨a=1∨a=2
theorem VV(h:∀x∈C,K3 x)(a:Nat):K3 (C.getD a 0):=by
 rw[cQ];cases b:C[a]? with
 | none=>exact .inl rfl
 | some x=>exact h x (VQ b)
theorem Cz(f:Int)(h:∀x∈C,K3 x):K3 (mT f C).1:=by
 have e:∀a b:Int,K3 a->K3 b->K3 (hV a b).1:=by intro a b c d;unfold hV;split;(.exact d);.exact c
 unfold mT;split;.exact .inr (.inl rfl)
 split;.exact .inr (.inl rfl)
 split;.exact .inr (.inr rfl)
 split;.exact .inr (.inl rfl)
 split;.exact e _ _ (VV h 1) (VV h 2)
 .exact .inr (.inl rfl)
mutual
theorem BN(a:List Int)(c:∀f∈a,K3 f):∀(d:Ex) {b:Int},kE a d=some b->K3 b
 | .mk i k l g,b,h=>by rw[kE] at h;split at h;(.injection h with h;rw[<-h];exact VV c _);split at h;(.injection h with h;rw[<-h];unfold bk;split;(.exact .inr (.inl rfl));split;(.exact .inr (.inr rfl));.exact .inl rfl);.split at h;(.rename_i j e;split at h;(.injection h with h;rw[<-h];exact Cz i (BM a c g e));.cases h);.cases h
theorem BM(c:List Int)(f:∀g∈c,K3 g):∀(e:List Ex) {b:List Int},kL c e=some b->∀d∈b,K3 d
 | [],b,h=>by rw[kL] at h;injection h with h;rw[<-h];intro d a;cases a
 | i::e,b,h=>by rw[kL] at h;split at h;(.rename_i g k;split at h;(.rename_i l j;injection h with h;rw[<-h];intro d a;rcases dr a with rfl|a;(.exact BN c f i k);.exact BM c f e j d a);.cases h);.cases h
end
theorem DG(h:i5 C)(a:Ex):K3 (kK C a):=by
 unfold kK;split
 .cases b:kE C a with
  | none=>exact .inl rfl
  | some e=>exact BN C (λd c=>.inr (h.k d c)) a b
 .exact .inl rfl
theorem yJ(h:K3 I):max I 1=1∨max I 1=2:=by
 rcases h with rfl|rfl|rfl;.exact .inl rfl
 .exact .inl rfl
 .exact .inr rfl
structure hm(p:Pl):Prop where
 a:eo p=true
 n:eM p=true
theorem gF(h:fD p=true):hm p:=by unfold fD at h;simp only[cc] at h;exact⟨h.1.1,h.1.2⟩
theorem iY(h:d6 C=true):∀a∈C,0<=a:=by unfold d6 at h;simp only[cc,Bool.not_eq_true'] at h;intro a b;have:=cL h.1 b;simp only[decide_eq_false_iff_not] at this;omega
theorem zQ{c:List (Int×Int)}(h:c.any ix=false):∀b∈c,0<=b.2/\(b.1=1->b.2=0):=by intro b e;have:=cL h e;unfold ix at this;simp only[Bool.or_eq_false_iff,decide_eq_false_iff_not,Bool.and_eq_false_iff,beq_eq_false_iff_ne,bne_eq_false_iff_eq] at this;obtain⟨⟨⟨f,g⟩,i⟩,a⟩:=this;exact⟨by omega,λd=>by(rcases a with a|a;. exact absurd d a);. exact a⟩
theorem Ux(c:p.op=12)(h:hm p):p.args.length=0/\jn p.cols=true:=by have a:=h.a;unfold eo at a;have b:=h.n;unfold eM at b;rw[c] at a b;exact⟨by simpa using a,b⟩
theorem ru(b:p.op=8)(h:hm p):1<=p.args.length:=by have a:=h.a;unfold eo at a;rw[b] at a;simpa using a
theorem iy(b:p.op=11)(h:hm p):p.args.length=2:=by have a:=h.a;unfold eo at a;rw[b] at a;simpa using a
theorem jc(c:p.op=2)(h:hm p):p.args.length=1/\p.ex.length=1:=by have a:=h.a;unfold eo at a;have b:=h.n;unfold eM at b;rw[c] at a b;exact⟨by simpa using a,by simpa using b⟩
theorem h3(c:p.op=4)(h:hm p):p.args.length=2/\p.ex.length=1:=by have a:=h.a;unfold eo at a;have b:=h.n;unfold eM at b;rw[c] at a b;exact⟨by simpa using a,by simpa using b⟩
theorem Vp(c:p.op=5)(h:hm p):p.args.length=2/\p.ex.length=1:=by have a:=h.a;unfold eo at a;have b:=h.n;unfold eM at b;rw[c] at a b;exact⟨by simpa using a,by simpa using b⟩
theorem jU(d:p.op=3)(h:hm p):p.args.length=1/\1<=p.ex.length/\p.ex.length<=32:=by have a:=h.a;unfold eo at a;have b:=h.n;unfold eM at b;rw[d] at a b;have c:(decide (1<=p.ex.length) && decide (p.ex.length<=32))=true:=b;simp only[cc,cF] at c;exact⟨by simpa using a,c.1,c.2⟩
theorem Vq(e:p.op=6)(h:hm p):p.args.length=1/\1<=p.cols.length+p.aggs.length/\(∀a∈p.cols,0<=a)/\∀a∈p.aggs,0<=a.2/\(a.1=1->a.2=0):=by have c:=h.a;unfold eo at c;have d:=h.n;unfold eM at d;rw[e] at c d;have b:(decide (1<=p.cols.length+p.aggs.length) && d6 p.cols && !p.aggs.any ix)=true:=d;simp only[cc,cF,Bool.not_eq_true'] at b;exact⟨by simpa using c,b.1.1,iY b.1.2,zQ b.2⟩
theorem jT(b:p.op=7)(h:hm p):p.args.length=1:=by have a:=h.a;unfold eo at a;rw[b] at a;simpa using a
theorem jS(b:p.op=9)(h:hm p):p.args.length=1:=by have a:=h.a;unfold eo at a;rw[b] at a;simpa using a
theorem gd(f:p.op=10)(h:hm p):p.args.length=1/\0<=p.aj/\(p.fn<4->p.aj=0):=by
 have b:=h.a;unfold eo at b;have c:=h.n;unfold eM at c;rw[f] at b c;have e:(d6 p.cols && d6 (p.keys.map Prod.fst) && jB p.fn p.aj p.n)=true:=c;simp only[cc] at e;have a:=e.2;unfold jB at a;refine⟨by simpa using b,?_⟩;split at a;.simp only[cc,beq_iff_eq] at a;exact⟨by omega,λ_=>a.1⟩
 split at a;.rename_i d;simp only[cF] at a;simp only[Bool.or_eq_true,beq_iff_eq] at d;exact⟨a,λ_=>by omega⟩
 split at a;.rename_i d;simp only[cc,cF] at a;simp only[beq_iff_eq] at d;exact⟨a.1,λ_=>by omega⟩
 .cases a
theorem fN(h:hm p):p.op=1∨p.op=2∨p.op=3∨p.op=4∨p.op=5∨p.op=6∨p.op=7∨p.op=8∨p.op=9∨p.op=10∨p.op=11∨p.op=12:=by
 have b:=h.n;unfold eM at b;generalize p.op=a at *;simp only[Bool.or_eq_true,beq_iff_eq] at b;by_cases c:a=1;. omega
 by_cases j:a=2∨a=4∨a=5;. omega
 by_cases f:a=3;. omega
 by_cases g:a=6;. omega
 by_cases k:a=7∨a=8∨a=11;. omega
 by_cases i:a=9;. omega
 by_cases d:a=10;. omega
 by_cases e:a=12;. omega
 rw[VU c,VU (by omega),VU f,VU g,VU (by omega),VU i,VU d,VU e] at b;cases b
theorem dN{ins:List (List Int)}(h:∀a∈ins,i5 a)(b:1<=ins.length):i5 (bV ins):=by unfold bV;rw[VR (show 0<ins.length by omega)];exact h _ (List.getElem_mem _)
theorem pU{ins:List (List Int)}(h:∀a∈ins,i5 a)(b:2<=ins.length):i5 (gU ins):=by unfold gU;rw[VR (show 1<ins.length by omega)];exact h _ (List.getElem_mem _)
theorem qJ(h:eI T=true){a:Tb}(b:a∈T):jn (a.cols.map Prod.snd)=true:=by unfold eI at h;simp only[cc,Bool.not_eq_true'] at h;have:=cL h.1 b;simp only[Bool.not_eq_false'] at this;unfold fq at this;simp only[cc] at this;exact this.1
theorem uJ{ins:List (List Int)}(e:∀b∈ins,i5 b)(i:2<=ins.length)(a:je (bV ins++gU ins) p=0):i5 (bV ins++gU ins):=by
 have c:=dN e (by omega);have f:=pU e i;refine⟨by rw[bG];have:=c.lo;omega,?_,λb g=>?_⟩;.unfold je at a;split at a;(.cases a);.rename_i d;simp only[cc,bne_iff_ne,cF,not_and] at d;have:=d (by rw[a];decide);omega
 .rcases cM g with h|h;(.exact c.k b h);.exact f.k b h
theorem CK{cols:List Int}{b:List (Int×Int)}(d:i5 C)(n:1<=cols.length+b.length)(j:∀x∈cols,0<=x)(i:∀x∈b,0<=x.2/\(x.1=1->x.2=0))(c:pY C cols b=0):i5 (hS C cols b):=by
 unfold pY at c;split at c;.cases c
 .rename_i f;simp only[Bool.or_eq_true,cF,not_or,Bool.not_eq_true] at f;obtain⟨⟨l,p⟩,m⟩:=f;refine⟨by unfold hS;simp;omega,by unfold hS;simp;omega,λo e=>?_⟩;unfold hS at e;rcases cM e with h|h;(.obtain⟨x,a,rfl⟩:=b6 h;have:=cL l a;simp only[decide_eq_false_iff_not] at this;exact d.at (j x a) (by omega));.obtain⟨x,a,rfl⟩:=b6 h;unfold i4;split;(.rename_i k;have:=cL m a;unfold hj at this;simp only[Bool.or_eq_true,beq_iff_eq] at k;(have g:(x.1 != 1)=true:=by simp;omega);rw[g,Bool.true_and,decide_eq_false_iff_not] at this;exact d.at (i x a).1 (by omega));.exact .inl rfl
theorem BZ{cols:List Int}(b:i5 C)(e:0<=J)(a:pn C cols K I J=0):i5 (hM C I J):=by
 unfold pn at a;split at a;.cases a
 .rename_i d;simp only[Bool.or_eq_true,cc,cF,not_or,Bool.not_eq_true,not_and] at d;obtain⟨⟨⟨j,k⟩,i⟩,l⟩:=d;refine⟨by unfold hM;simp,by unfold hM;simp;omega,λg c=>?_⟩;unfold hM at c;rcases cM c with h|h;(.exact b.k g h);.simp only[List.mem_singleton] at h;rw[h];split;(.rename_i f;simp only[beq_iff_eq] at f;have:=i (by omega);exact b.at e (by omega));.exact .inl rfl
theorem Uw(q:eI T=true)(d:hm p){ins:List (List Int)}(e:∀l∈ins,i5 l)(s:ins.length=p.args.length)(c:(bA T p ins).1=0):i5 (bA T p ins).2:=by
 rcases fN d with a|a|a|a|a|a|a|a|a|a|a|a
 .have b:bA T p ins=nI T p.au:=by unfold bA;rw[a];rfl
  rw[b] at c ⊢
  unfold nI at c ⊢
  cases j:T.find? (λm=>decide (m.name=p.au)) with
  | none=>rw[j] at c;cases c
  | some m=>exact i5.ofB (qJ q (List.mem_of_find?_eq_some j))
 ·(have b:bA T p ins=(ke (bV ins) p,bV ins):=by unfold bA;rw[a];rfl);rw[b];exact dN e (by have:=(jc a d).1;omega)
 ·(have b:bA T p ins=(mj (bV ins) p.ex,fx (bV ins) p.ex):=by unfold bA;rw[a];rfl);rw[b];obtain⟨g,f,i⟩:=jU a d;have o:=dN e (by omega);refine⟨by unfold fx;simpa using f,by unfold fx;simpa using i,?_⟩;intro l k;unfold fx at k;obtain⟨r,_,rfl⟩:=b6 k;exact yJ (DG o r)
 all_goals try (have b:bA T p ins=(je (bV ins++gU ins) p,bV ins++gU ins):=(by unfold bA;rw[a];rfl))
 .rw[b] at c ⊢;obtain⟨g,f⟩:=h3 a d;exact uJ e (by omega) c
 .rw[b] at c ⊢;obtain⟨g,f⟩:=Vp a d;exact uJ e (by omega) c
 ·(have b:bA T p ins=(pY (bV ins) p.cols p.aggs,hS (bV ins) p.cols p.aggs):=by unfold bA;rw[a];rfl);rw[b] at c ⊢;obtain⟨g,f,i,n⟩:=Vq a d;exact CK (dN e (by omega)) f i n c
 ·(have b:bA T p ins=(0,bV ins):=by unfold bA;rw[a];rfl);rw[b];exact dN e (by have:=jT a d;omega)
 ·(have b:(bA T p ins).2=bV ins:=by unfold bA;rw[a];rfl);rw[b];exact dN e (by have:=ru a d;omega)
 ·(have b:(bA T p ins).2=bV ins:=by unfold bA;rw[a];rfl);rw[b];exact dN e (by have:=jS a d;omega)
 ·(have b:bA T p ins=(pn (bV ins) p.cols (p.keys.map Prod.fst) p.fn p.aj,hM (bV ins) p.fn p.aj):=by unfold bA;rw[a];rfl);rw[b] at c ⊢;obtain⟨g,f,i⟩:=gd a d;exact BZ (dN e (by omega)) f c
 ·(have b:(bA T p ins).2=bV ins:=by unfold bA;rw[a];rfl);rw[b];exact dN e (by have:=iy a d;omega)
 ·(have b:bA T p ins=(0,p.cols):=by unfold bA;rw[a];rfl);rw[b];exact i5.ofB (Ux a d).2
theorem hW{c:List Tb}(n:eI c=true):∀(k:Nat) (a:Pl),a.size<=k->eR a=true->(bK c a).1=0->i5 (bK c a).2
 | 0,a,m,_,_=>by rw[Pl.ak] at m;omega
 | k+1,a,m,r,d=>by
  rw[kk] at d ⊢;have g:=r;rw[kl] at g;simp only[cc,Bool.not_eq_true'] at g;obtain⟨⟨p,_⟩,q⟩:=g;by_cases f:(hX c a.args).1=0
  .rw[ba f] at d ⊢
   have l:∀(b:Nat) e,a.args[b]?=some e->(bK c e).1=0:=by
    intro b
    induction b using Nat.strongRecOn with
    | _ b w=>
     intro e j
     by_cases o:(bK c e).1=0
     .exact o
     .have:=nr c a.args b e (λx y t v=>w x t y v) j o
      rw[f] at this
      exact this.symm
   rw[lY c a.args l] at d ⊢;refine Uw n (gF p) ?_ (by simp) d;intro z u;obtain⟨e,j,rfl⟩:=b6 u;obtain⟨b,i,rfl⟩:=List.mem_iff_getElem.1 j;(have s:eR a.args[b]=true:=by have:=cL q (List.getElem_mem i);simpa using this);exact hW n k _ (by have:=Pl.ar (VR i);omega) s (l b _ (VR i))
  .rw[VU f] at d;exact absurd d f
abbrev Ls:=Option Addr×Nat×List Int
def Ls.v(x:Ls):Value:=.slice x.1 x.2.2.length x.2.1
theorem bP.grown{row:Option Nat}(h:bP w a C)(g:w.grownBy W row)(i:∀b c,a=some ⟨b,c,none⟩->¬C=[]->¬some b=row):bP W a C:=by
 rcases h with h|⟨b,c,d,h⟩;.exact .inl h
 .by_cases f:C=[];(.exact .inl f);.refine .inr ⟨b,c,d,λk l j=>?_⟩;have e:=h k l j;rw[World.cell?_of_block (w:=w) (w':=W) (g.block b (ck _ _ e) (i b c d f))];exact e
theorem Vu{base:Nat}(h:cm w base (.slice a n m) C)(d:a=some ⟨k,j,none⟩):base<=k:=by
 rcases h.2 with ⟨c,_⟩|⟨i,f,g,c,e,_⟩
 .injection c with b;rw[d] at b;cases b
 .injection c with b;rw[d] at b;injection b with b;injection b with b;rw[b];exact e
theorem VA{d:Oper}{g:Act}{n:Act->World->Prop}{y:Exit->Act->World->Prop}(v x:Operand)(s:d.op=.call { callee:=.builtin .append,args:=#[v,x],argTypes:=#[23,23] }) (base:Nat) (e:Value) (b a:List Int) (l:Option Addr) (m:Nat) (t:g.eval v=e) (j:cm w base e b) (c:g.eval x=.slice l a.length m) (o:bP w l a) (L:b.length+a.length<=4000000) (q:base<=w.heap.size) (h:∀k f,cm f base k (b++a)->Below base w f->n (g.put d.dst k) f):d.wp prog g w n y:=by
 obtain⟨u,r,E,F,G⟩:=info_parts m2;cases i:l with
 | none=>(have:a=[]:=by rcases o with h|⟨I,M,p,_⟩;(.exact h);.rw[i] at p;cases p);subst this;rw[i] at c;have D:=h0 (w:=w) base d.type 3 u 1 underlying23 r e b.length _ j m;simp only[List.length_nil] at c;unfold Oper.wp execOp;simp only[s,resolve,invoke,builtin,Sem.run_bind,Sem.run_pure,Result.andThen_ok,List.map_toArray,dX,List.map_nil,t,c,D];exact h e w (by rw[VI];exact j) VS
 | some z=>rw[i] at c;obtain⟨k,f,C,A,B,J,K⟩:=run_append_own_at (P:=prog) w base 23 d.type 3 u (.int .i64 0) 1 8 underlying23 r E F G rfl (by decide) e b.length (b.map (.int .i64)) j z a.length m (a.map (.int .i64)) (by simp) (mY o i) (j1 a) (by unfold maxLen;omega) (by omega) q;unfold Oper.wp execOp;simp only[s,resolve,invoke,builtin,Sem.run_bind,Sem.run_pure,Result.andThen_ok,List.map_toArray,dX,List.map_nil,t,c,C];refine h k f ?_ (bB B q (pB j));unfold cm;rw[bG,ep];exact A
theorem uS{α:Type}{g:α->Bool}:∀{c:List α} {k:Nat} {b:α},(∀(e:Nat) d,e<k->c[e]?=some d->g d=false)->c[k]?=some b->g b=true->c.find? g=some b
 | [],k,b,_,a,_=>by simp at a
 | d::c,0,b,_,a,f=>by simp at a;subst a;rw[List.find?_cons,f]
 | d::c,k+1,b,h,a,f=>by rw[List.find?_cons,h 0 d (by omega) rfl];exact uS (k:=k) (λe j l i=>h (e+1) j (by omega) (by simpa using i)) (by simpa using a) f
def Ee(d:List Tb)(c:ByteArray):Int:=d.foldl (λb a=>if a.name=c then max (a.rows.length:Int) 1 else b) 1
def gi(f:List Tb)(a:Int)(e:ByteArray)(c:List Int):Int:=if a == 1 then Ee f e else if a == 4 || a == 5 then c.foldl (λb d=>min (b*d) 2147483648) 1 else if a == 8 then c.foldl (λb d=>min (b+d) 2147483648) 0 else c.foldl max 1
def eP(d:List Tb)(a:Int)(b:ByteArray)(c:List Int):Int:=min (max (gi d a b c) 1) 2147483648
mutual
def bC(a:List Tb):Pl->Int
 | .mk c d g cols j e i f k l b=>eP a c d (qY a b)
def qY(a:List Tb):List Pl->List Int
 | []=>[]
 | c::b=>bC a c::qY a b
end
theorem oa(b:List Tb):∀a:List Pl,qY b a=a.map (bC b)
 | []=>by rw[qY];rfl
 | c::a=>by rw[qY,oa b a];rfl
theorem ff(b:List Tb)(a:Pl):bC b a=eP b a.op a.au (a.args.map (bC b)):=by cases a;rw[bC,oa];rfl
theorem qX(d:List Tb)(a:Int)(b:ByteArray)(c:List Int):1<=eP d a b c/\eP d a b c<=2147483648:=by unfold eP;omega
theorem dl(b:List Tb)(a:Pl):1<=bC b a/\bC b a<=2147483648:=by rw[ff];exact qX _ _ _ _
theorem d1{α b:Type}(a:b->α->b)(c:b){l:List α}{k:Nat}{x:α}(h:l[k]?=some x):(l.take (k+1)).foldl a c=a ((l.take k).foldl a c) x:=by obtain⟨d,rfl⟩:=bD h;rw[List.take_succ_eq_append_getElem d,List.foldl_append];rfl
theorem vp(e:List Tb)(Ws:∀W∈e,W.fin)(WS:e.length<=1048576)(Wb:Option Addr)(Wl:Nat)(a:Pl)(Wr:a.fin)(V2:Pm)(Y X:World)(Wm:Bw Y X)(Wq:hI Y a V2)(Wp:lZ Y Wb e) (Wk:∀(n:Nat) c,a.args[n]?=some c->∀m V6,hI Y c m->Bw Y V6->Calls prog 21 #[c.val m,.slice Wb e.length Wl] V6 λJ Wi=>J=.returned (.int .i64 (bC e c))/\Bw V6 Wi):Calls prog 21 #[a.val V2,.slice Wb e.length Wl] X λJ Wi=>J=.returned (.int .i64 (bC e a))/\Bw X Wi:=by
 obtain⟨⟨WK,WL,WM,WN,WO,WP,WQ,Wx,Wy,Ww⟩,Wz,_⟩:=Pl.an Wr;obtain⟨y,V8⟩:=bn (bC e a);rw[<-V8];rw[ff] at V8;have x:=H V8;have Wd:=am (VT _ X) (a.box V2);have V4:=H (dL.new X a V2);have w:=H Wd;have T:=H (ac Wm Wd);have V3:=H Wq;have Wu:=H Wp;have Wt:=H Ws;have V5:=H Wk;rw[Pl.ad];unfold Pl.box at V4 w T;clear V8 Wd Wq Wr Wz Wk Wx Wy Ww Wp Ws Wm;obtain⟨L,Wf⟩:=bn (X.alloc (a.box V2));rw[<-Wf] at V4 w T;have Wj:=H Wf;clear Wf;obtain⟨WJ,V7,-,-,-,-,-,-,-,-,Wv⟩:=U V4;simp only[bI] at V7 Wv;go_enter func21,ntmps21;go_upto_region 2 with fail;rw[<-U Wj];clear Wj;by_cases K:a.op=1;·(have M:(a.op == 1)=true:=by rw[K];rfl);clear K;go_wp2_with fail;go_loopw[5,33] (λR n wr=>∃(d:Nat) (b:Int),d<=e.length/\n=.int .i64 (d:Int)/\R=.int .i64 b/\0<=b/\b<=2147483648/\Hid (b=(e.take d).foldl (λj W=>if W.name=a.au then max (W.rows.length:Int) 1 else j) 1)/\Hid (Bw L wr)) (λ_ n _=>e.length-(intOf n).toNat);(case atStart=>exact⟨0,1,bt,rfl,rfl,by decide,by decide,(by show _=_;rfl),VS⟩);case round=>obtain⟨d,b,O,rfl,rfl,VW,VX,s,f⟩:=hrel;by_cases C:d<e.length;(·(have N:(d:Int)<(e.length:Int):=by omega);obtain⟨c,k⟩:∃c,e[d]?=some c:=⟨_,VR C⟩;obtain⟨WI,WT,WG,B,Wn,WB⟩:=((U Wu).aa (ac (U T) (U f))).get k;have p:=H Wn.load;have u:=am (VT _ wr) (c.box WG);have o:=H u;have V7:=ae ((U V4).aa (U f)).c1 u;simp only[bI] at V7;have v:=H (d1 (λ(j:Int) (W:Tb)=>if W.name=a.au then max (W.rows.length:Int) 1 else j) 1 k);rw[<-U s] at v;have WR:=(U Wt c (VQ k)).r;rw[Tb.ad] at p;unfold Tb.box at o V7;rw[B];clear k Wn WB u B;by_cases VY:c.name=a.au;(.have WF:(c.name.toList == a.au.toList)=true:=(iE _ _).trans (decide_eq_true VY);rw[ba VY] at v;clear VY;by_cases V9:(c.rows.length:Int)<1;(.go_wp2_with (refine a1 ?_ 63 (.tmp 35) rfl _ (by simp[Act.eval]) _ (U p) ?_;. simp[Region.wanted,yielded]);exact⟨⟨d+1,1,by omega,by go_num,rfl,by omega,by omega,(by show _=_;rw[U v];omega),ac (U f) (U o)⟩,by simp[intOf];omega⟩);.go_wp2_with (refine a1 ?_ 63 (.tmp 35) rfl _ (by simp[Act.eval]) _ (U p) ?_;. simp[Region.wanted,yielded]);exact⟨⟨d+1,(c.rows.length:Int),by omega,by go_num,rfl,by omega,by omega,(by show _=_;rw[U v];omega),ac (U f) (U o)⟩,by simp[intOf];omega⟩);.have WF:(c.name.toList == a.au.toList)=false:=(iE _ _).trans (decide_eq_false VY);rw[VU VY] at v;clear VY;go_wp2_with (refine a1 ?_ 63 (.tmp 35) rfl _ (by simp[Act.eval]) _ (U p) ?_;. simp[Region.wanted,yielded]);exact⟨⟨d+1,b,by omega,by go_num,rfl,by omega,by omega,(by show _=_;rw[U v]),ac (U f) (U o)⟩,by simp[intOf];omega⟩);·(have N:¬(d:Int)<(e.length:Int):=by omega);(obtain rfl:d=e.length:=by omega);rw[dy] at s;(have t:eP e a.op a.au (a.args.map (bC e))=min (max b 1) 2147483648:=by unfold eP gi Ee;rw[M,U s];rfl);clear O C;rcases Int.lt_or_le b 1 with P|P;(·(have i:Hid (y=1):=by show _=_;rw[U x,t];omega);go_wp2;go_ret;exact⟨by rw[U i];rfl,ac (U w) (U f)⟩);.rcases Int.lt_or_le b 2147483648 with Q|Q;(·(have i:Hid (y=b):=by show _=_;rw[U x,t];omega);go_wp2;go_ret;exact⟨by rw[U i];rfl,ac (U w) (U f)⟩);·(have i:Hid (y=b):=by show _=_;rw[U x,t];omega);go_wp2;go_ret;exact⟨by rw[U i];rfl,ac (U w) (U f)⟩
 by_cases S:a.op=4
 .have M:(a.op == 1)=false:=by simpa using K
  have V:(a.op == 4)=true:=by rw[S];rfl
  clear K S;go_wp2_with fail;go_loopw[5,53] (λR n wr=>∃(d:Nat) (b:Int),d<=a.args.length/\n=.int .i64 (d:Int)/\R=.int .i64 b/\0<=b/\b<=2147483648/\Hid (b=((a.args.take d).map (bC e)).foldl (λj c=>min (j*c) 2147483648) 1)/\Hid (Bw L wr)) (λ_ n _=>a.args.length-(intOf n).toNat);case atStart=>exact⟨0,1,bt,rfl,rfl,by decide,by decide,(by show _=_;rfl),VS⟩
  case round=>
   obtain⟨d,b,O,rfl,rfl,VW,VX,s,f⟩:=hrel;by_cases C:d<a.args.length
   ·(have N:(d:Int)<(a.args.length:Int):=by omega);obtain⟨c,k⟩:∃c,a.args[d]?=some c:=⟨_,VR C⟩;obtain⟨Wg,Wh,B,G⟩:=Pl.ag (U V3).p k;obtain⟨m,I,E,F⟩:=Pl.ah G;have z:=ac (U T) (U f);have u:=am (VT _ wr) (c.box m);have o:=H u;have p:=H (I.aa z).load;have r:=H (dL.new wr c m).load;have q:=H (U V5 d c k m (wr.alloc (c.box m)) (hI.mk E F) (ac z u));(have v:Hid (((a.args.take (d+1)).map (bC e)).foldl (λj c=>min (j*c) 2147483648) 1=(λj c=>min (j*c) 2147483648) b (bC e c)):=by show _=_;have D:=d1 (λj c=>min (j*c) 2147483648) (1:Int) (l:=a.args.map (bC e)) (k:=d) (x:=bC e c) (by rw[bL,k];rfl);rw[<-List.map_take,<-List.map_take,<-U s] at D;exact D);obtain⟨We,V1⟩:=dl e c;rw[Pl.ad] at p r q;unfold Pl.box at q o r;rw[B];generalize bC e c=g at *;clear k G F u I E B z;have WC:0<=b*g:=Int.mul_nonneg VW (by omega);have WD:b*g<=2147483648*2147483648:=Int.mul_le_mul VX V1 (by omega) (by decide);obtain⟨WH,WE⟩:=bn (b*g);(have WA:wrap64 (b*g)=b*g:=by unfold wrap64;omega);by_cases V9:b*g<2147483648
    .go_wp2_with (first
      | (refine a1 ?_ 28 (.tmp 55) rfl _ (by simp[Act.eval]) _ (U p) ?_;. simp[Region.wanted,yielded])
      | (refine a1 ?_ 28 (.tmp 9) rfl _ (by simp[Act.eval]) _ (U r) ?_;. simp[Region.wanted,yielded])
      | (go_at_call 21;refine(U q).mono ?_;rintro J Z ⟨rfl,A⟩))
     exact⟨⟨d+1,b*g,by omega,by go_num,rfl,by omega,by omega,(by show _=_;rw[U v];omega),ac (U f) (ac (U o) A)⟩,by simp[intOf];omega⟩
    .go_wp2_with (first
      | (refine a1 ?_ 28 (.tmp 55) rfl _ (by simp[Act.eval]) _ (U p) ?_;. simp[Region.wanted,yielded])
      | (refine a1 ?_ 28 (.tmp 9) rfl _ (by simp[Act.eval]) _ (U r) ?_;. simp[Region.wanted,yielded])
      | (go_at_call 21;refine(U q).mono ?_;rintro J Z ⟨rfl,A⟩))
     exact⟨⟨d+1,if 2147483648<b*g then 2147483648 else b*g,by omega,by go_num,rfl,by split<;>omega,by split<;>omega,(by show _=_;rw[U v];show _=min (b*g) 2147483648;split<;>omega),ac (U f) (ac (U o) A)⟩,by simp[intOf];omega⟩
   ·(have N:¬(d:Int)<(a.args.length:Int):=by omega);(obtain rfl:d=a.args.length:=by omega);rw[dy] at s;(have t:eP e a.op a.au (a.args.map (bC e))=min (max b 1) 2147483648:=by unfold eP gi;rw[M,V,U s];rfl);clear O C;rcases Int.lt_or_le b 1 with P|P;(·(have i:Hid (y=1):=by show _=_;rw[U x,t];omega);go_wp2;go_ret;exact⟨by rw[U i];rfl,ac (U w) (U f)⟩);.rcases Int.lt_or_le b 2147483648 with Q|Q;(·(have i:Hid (y=b):=by show _=_;rw[U x,t];omega);go_wp2;go_ret;exact⟨by rw[U i];rfl,ac (U w) (U f)⟩);·(have i:Hid (y=b):=by show _=_;rw[U x,t];omega);go_wp2;go_ret;exact⟨by rw[U i];rfl,ac (U w) (U f)⟩
 by_cases VZ:a.op=5
 .have M:(a.op == 1)=false:=by simpa using K
  have V:(a.op == 4)=false:=by simpa using S
  have V0:(a.op == 5)=true:=by rw[VZ];rfl
  clear K S VZ;go_wp2_with fail;go_loopw[5,53] (λR n wr=>∃(d:Nat) (b:Int),d<=a.args.length/\n=.int .i64 (d:Int)/\R=.int .i64 b/\0<=b/\b<=2147483648/\Hid (b=((a.args.take d).map (bC e)).foldl (λj c=>min (j*c) 2147483648) 1)/\Hid (Bw L wr)) (λ_ n _=>a.args.length-(intOf n).toNat);case atStart=>exact⟨0,1,bt,rfl,rfl,by decide,by decide,(by show _=_;rfl),VS⟩
  case round=>
   obtain⟨d,b,O,rfl,rfl,VW,VX,s,f⟩:=hrel;by_cases C:d<a.args.length
   ·(have N:(d:Int)<(a.args.length:Int):=by omega);obtain⟨c,k⟩:∃c,a.args[d]?=some c:=⟨_,VR C⟩;obtain⟨Wg,Wh,B,G⟩:=Pl.ag (U V3).p k;obtain⟨m,I,E,F⟩:=Pl.ah G;have z:=ac (U T) (U f);have u:=am (VT _ wr) (c.box m);have o:=H u;have p:=H (I.aa z).load;have r:=H (dL.new wr c m).load;have q:=H (U V5 d c k m (wr.alloc (c.box m)) (hI.mk E F) (ac z u));(have v:Hid (((a.args.take (d+1)).map (bC e)).foldl (λj c=>min (j*c) 2147483648) 1=(λj c=>min (j*c) 2147483648) b (bC e c)):=by show _=_;have D:=d1 (λj c=>min (j*c) 2147483648) (1:Int) (l:=a.args.map (bC e)) (k:=d) (x:=bC e c) (by rw[bL,k];rfl);rw[<-List.map_take,<-List.map_take,<-U s] at D;exact D);obtain⟨We,V1⟩:=dl e c;rw[Pl.ad] at p r q;unfold Pl.box at q o r;rw[B];generalize bC e c=g at *;clear k G F u I E B z;have WC:0<=b*g:=Int.mul_nonneg VW (by omega);have WD:b*g<=2147483648*2147483648:=Int.mul_le_mul VX V1 (by omega) (by decide);obtain⟨WH,WE⟩:=bn (b*g);(have WA:wrap64 (b*g)=b*g:=by unfold wrap64;omega);by_cases V9:b*g<2147483648
    .go_wp2_with (first
      | (refine a1 ?_ 28 (.tmp 55) rfl _ (by simp[Act.eval]) _ (U p) ?_;. simp[Region.wanted,yielded])
      | (refine a1 ?_ 28 (.tmp 9) rfl _ (by simp[Act.eval]) _ (U r) ?_;. simp[Region.wanted,yielded])
      | (go_at_call 21;refine(U q).mono ?_;rintro J Z ⟨rfl,A⟩))
     exact⟨⟨d+1,b*g,by omega,by go_num,rfl,by omega,by omega,(by show _=_;rw[U v];omega),ac (U f) (ac (U o) A)⟩,by simp[intOf];omega⟩
    .go_wp2_with (first
      | (refine a1 ?_ 28 (.tmp 55) rfl _ (by simp[Act.eval]) _ (U p) ?_;. simp[Region.wanted,yielded])
      | (refine a1 ?_ 28 (.tmp 9) rfl _ (by simp[Act.eval]) _ (U r) ?_;. simp[Region.wanted,yielded])
      | (go_at_call 21;refine(U q).mono ?_;rintro J Z ⟨rfl,A⟩))
     exact⟨⟨d+1,if 2147483648<b*g then 2147483648 else b*g,by omega,by go_num,rfl,by split<;>omega,by split<;>omega,(by show _=_;rw[U v];show _=min (b*g) 2147483648;split<;>omega),ac (U f) (ac (U o) A)⟩,by simp[intOf];omega⟩
   ·(have N:¬(d:Int)<(a.args.length:Int):=by omega);(obtain rfl:d=a.args.length:=by omega);rw[dy] at s;(have t:eP e a.op a.au (a.args.map (bC e))=min (max b 1) 2147483648:=by unfold eP gi;rw[M,V,V0,U s];rfl);clear O C;rcases Int.lt_or_le b 1 with P|P;(·(have i:Hid (y=1):=by show _=_;rw[U x,t];omega);go_wp2;go_ret;exact⟨by rw[U i];rfl,ac (U w) (U f)⟩);.rcases Int.lt_or_le b 2147483648 with Q|Q;(·(have i:Hid (y=b):=by show _=_;rw[U x,t];omega);go_wp2;go_ret;exact⟨by rw[U i];rfl,ac (U w) (U f)⟩);·(have i:Hid (y=b):=by show _=_;rw[U x,t];omega);go_wp2;go_ret;exact⟨by rw[U i];rfl,ac (U w) (U f)⟩
 by_cases Wa:a.op=8
 .have M:(a.op == 1)=false:=by simpa using K
  have V:(a.op == 4)=false:=by simpa using S
  have V0:(a.op == 5)=false:=by simpa using VZ
  have Wc:(a.op == 8)=true:=by rw[Wa];rfl
  clear K S VZ Wa;go_wp2_with fail;go_loopw[5,69] (λR n wr=>∃(d:Nat) (b:Int),d<=a.args.length/\n=.int .i64 (d:Int)/\R=.int .i64 b/\0<=b/\b<=2147483648/\Hid (b=((a.args.take d).map (bC e)).foldl (λj c=>min (j+c) 2147483648) 0)/\Hid (Bw L wr)) (λ_ n _=>a.args.length-(intOf n).toNat);case atStart=>exact⟨0,0,bt,rfl,rfl,by decide,by decide,(by show _=_;rfl),VS⟩
  case round=>
   obtain⟨d,b,O,rfl,rfl,VW,VX,s,f⟩:=hrel;by_cases C:d<a.args.length
   ·(have N:(d:Int)<(a.args.length:Int):=by omega);obtain⟨c,k⟩:∃c,a.args[d]?=some c:=⟨_,VR C⟩;obtain⟨Wg,Wh,B,G⟩:=Pl.ag (U V3).p k;obtain⟨m,I,E,F⟩:=Pl.ah G;have z:=ac (U T) (U f);have u:=am (VT _ wr) (c.box m);have o:=H u;have p:=H (I.aa z).load;have r:=H (dL.new wr c m).load;have q:=H (U V5 d c k m (wr.alloc (c.box m)) (hI.mk E F) (ac z u));(have v:Hid (((a.args.take (d+1)).map (bC e)).foldl (λj c=>min (j+c) 2147483648) 0=(λj c=>min (j+c) 2147483648) b (bC e c)):=by show _=_;have D:=d1 (λj c=>min (j+c) 2147483648) (0:Int) (l:=a.args.map (bC e)) (k:=d) (x:=bC e c) (by rw[bL,k];rfl);rw[<-List.map_take,<-List.map_take,<-U s] at D;exact D);obtain⟨We,V1⟩:=dl e c;rw[Pl.ad] at p r q;unfold Pl.box at q o r;rw[B];generalize bC e c=g at *;clear k G F u I E B z;by_cases V9:b+g<2147483648
    .go_wp2_with (first
      | (refine a1 ?_ 28 (.tmp 71) rfl _ (by simp[Act.eval]) _ (U p) ?_;. simp[Region.wanted,yielded])
      | (refine a1 ?_ 28 (.tmp 11) rfl _ (by simp[Act.eval]) _ (U r) ?_;. simp[Region.wanted,yielded])
      | (go_at_call 21;refine(U q).mono ?_;rintro J Z ⟨rfl,A⟩))
     exact⟨⟨d+1,b+g,by omega,by go_num,rfl,by omega,by omega,(by show _=_;rw[U v];omega),ac (U f) (ac (U o) A)⟩,by simp[intOf];omega⟩
    .go_wp2_with (first
      | (refine a1 ?_ 28 (.tmp 71) rfl _ (by simp[Act.eval]) _ (U p) ?_;. simp[Region.wanted,yielded])
      | (refine a1 ?_ 28 (.tmp 11) rfl _ (by simp[Act.eval]) _ (U r) ?_;. simp[Region.wanted,yielded])
      | (go_at_call 21;refine(U q).mono ?_;rintro J Z ⟨rfl,A⟩))
     exact⟨⟨d+1,if 2147483648<b+g then 2147483648 else b+g,by omega,by go_num,rfl,by split<;>omega,by split<;>omega,(by show _=_;rw[U v];show _=min (b+g) 2147483648;split<;>omega),ac (U f) (ac (U o) A)⟩,by simp[intOf];omega⟩
   ·(have N:¬(d:Int)<(a.args.length:Int):=by omega);(obtain rfl:d=a.args.length:=by omega);rw[dy] at s;(have t:eP e a.op a.au (a.args.map (bC e))=min (max b 1) 2147483648:=by unfold eP gi;rw[M,V,V0,Wc,U s];rfl);clear O C;rcases Int.lt_or_le b 1 with P|P;(·(have i:Hid (y=1):=by show _=_;rw[U x,t];omega);go_wp2;go_ret;exact⟨by rw[U i];rfl,ac (U w) (U f)⟩);.rcases Int.lt_or_le b 2147483648 with Q|Q;(·(have i:Hid (y=b):=by show _=_;rw[U x,t];omega);go_wp2;go_ret;exact⟨by rw[U i];rfl,ac (U w) (U f)⟩);·(have i:Hid (y=b):=by show _=_;rw[U x,t];omega);go_wp2;go_ret;exact⟨by rw[U i];rfl,ac (U w) (U f)⟩
 have M:(a.op == 1)=false:=by simpa using K
 have V:(a.op == 4)=false:=by simpa using S
 have V0:(a.op == 5)=false:=by simpa using VZ
 have Wc:(a.op == 8)=false:=by simpa using Wa
 clear K S VZ Wa;go_wp2_with fail;go_loopw[5,19] (λR n wr=>∃(d:Nat) (b:Int),d<=a.args.length/\n=.int .i64 (d:Int)/\R=.int .i64 b/\0<=b/\b<=2147483648/\Hid (b=((a.args.take d).map (bC e)).foldl (max) 1)/\Hid (Bw L wr)) (λ_ n _=>a.args.length-(intOf n).toNat);case atStart=>exact⟨0,1,bt,rfl,rfl,by decide,by decide,(by show _=_;rfl),VS⟩
 case round=>
  obtain⟨d,b,O,rfl,rfl,VW,VX,s,f⟩:=hrel;by_cases C:d<a.args.length
  ·(have N:(d:Int)<(a.args.length:Int):=by omega);obtain⟨c,k⟩:∃c,a.args[d]?=some c:=⟨_,VR C⟩;obtain⟨Wg,Wh,B,G⟩:=Pl.ag (U V3).p k;obtain⟨m,I,E,F⟩:=Pl.ah G;have z:=ac (U T) (U f);have u:=am (VT _ wr) (c.box m);have o:=H u;have p:=H (I.aa z).load;have r:=H (dL.new wr c m).load;have q:=H (U V5 d c k m (wr.alloc (c.box m)) (hI.mk E F) (ac z u));(have v:Hid (((a.args.take (d+1)).map (bC e)).foldl (max) 1=(max) b (bC e c)):=by show _=_;have D:=d1 (max) (1:Int) (l:=a.args.map (bC e)) (k:=d) (x:=bC e c) (by rw[bL,k];rfl);rw[<-List.map_take,<-List.map_take,<-U s] at D;exact D);obtain⟨We,V1⟩:=dl e c;rw[Pl.ad] at p r q;unfold Pl.box at q o r;rw[B];generalize bC e c=g at *;clear k G F u I E B z;by_cases V9:b<g
   .go_wp2_with (first
     | (refine a1 ?_ 28 (.tmp 21) rfl _ (by simp[Act.eval]) _ (U p) ?_;. simp[Region.wanted,yielded])
     | (refine a1 ?_ 28 (.tmp 13) rfl _ (by simp[Act.eval]) _ (U r) ?_;. simp[Region.wanted,yielded])
     | (go_at_call 21;refine(U q).mono ?_;rintro J Z ⟨rfl,A⟩))
    exact⟨⟨d+1,g,by omega,by go_num,rfl,by omega,by omega,(by show _=_;rw[U v];omega),ac (U f) (ac (U o) A)⟩,by simp[intOf];omega⟩
   .go_wp2_with (first
     | (refine a1 ?_ 28 (.tmp 21) rfl _ (by simp[Act.eval]) _ (U p) ?_;. simp[Region.wanted,yielded])
     | (refine a1 ?_ 28 (.tmp 13) rfl _ (by simp[Act.eval]) _ (U r) ?_;. simp[Region.wanted,yielded])
     | (go_at_call 21;refine(U q).mono ?_;rintro J Z ⟨rfl,A⟩))
    exact⟨⟨d+1,b,by omega,by go_num,rfl,by omega,by omega,(by show _=_;rw[U v];omega),ac (U f) (ac (U o) A)⟩,by simp[intOf];omega⟩
  ·(have N:¬(d:Int)<(a.args.length:Int):=by omega);(obtain rfl:d=a.args.length:=by omega);rw[dy] at s;(have t:eP e a.op a.au (a.args.map (bC e))=min (max b 1) 2147483648:=by unfold eP gi;rw[M,V,V0,Wc,U s];rfl);clear O C;rcases Int.lt_or_le b 1 with P|P;(·(have i:Hid (y=1):=by show _=_;rw[U x,t];omega);go_wp2;go_ret;exact⟨by rw[U i];rfl,ac (U w) (U f)⟩);.rcases Int.lt_or_le b 2147483648 with Q|Q;(·(have i:Hid (y=b):=by show _=_;rw[U x,t];omega);go_wp2;go_ret;exact⟨by rw[U i];rfl,ac (U w) (U f)⟩);·(have i:Hid (y=b):=by show _=_;rw[U x,t];omega);go_wp2;go_ret;exact⟨by rw[U i];rfl,ac (U w) (U f)⟩
theorem qW(b:List Tb)(l:∀w∈b,w.fin)(n:b.length<=1048576)(e:Option Addr)(g:Nat)(d:World)(j:lZ d e b):∀(i:Nat) (a:Pl),a.size<=i->a.fin->∀(f:Pm) (c:World),hI d a f->Bw d c->Calls prog 21 #[a.val f,.slice e b.length g] c λv x=>v=.returned (.int .i64 (bC b a))/\Bw c x
 | 0,a,m,_,_,_,_,_=>by rw[Pl.ak] at m;omega
 | i+1,a,m,k,f,c,s,q=>vp b l n e g a k f d c q s j λz y o u p t r=>qW b l n e g d j i y (by have:=Pl.ar o;omega) (Pl.aq k o) u p t r
theorem xJ(c:List Tb)(k:∀n∈c,n.fin)(l:c.length<=1048576)(d:Option Addr)(f:Nat)(b:Pl)(j:b.fin)(e:Pm)(a:World)(i:hI a b e)(g:lZ a d c):Calls prog 21 #[b.val e,.slice d c.length f] a λm o=>m=.returned (.int .i64 (bC c b))/\Bw a o:=
 qW c k l d f a g b.size b bi j e a i VS
theorem xr(b:List Tb)(o:∀s∈b,s.fin)(r:b.length<=1048576)(i:Option Addr)(k:Nat)(a:Pl)(n:a.fin)(d:Pm)(c:World)(m:hI c a d)(l:lZ c i b):Calls prog 7 #[a.val d,.slice i b.length k] c λp t=>p=.returned (.bool (decide (2147483647<bC b a)))/\Bw c t:=by
 have e:=am (VT _ c) (a.box d);have f:=H (xJ b o r i k a n d _ (m.aa e) (l.aa e));have g:=H (dL.new c a d).load;have j:=H e;rw[Pl.ad] at f g ⊢;unfold Pl.box at f j g;generalize bC b a=u at *;clear e m l n o;go_enter func7,ntmps7
 go_wp2_with (first
  | (refine a1 ?_ 28 (.tmp 2) rfl _ (by simp[Act.eval]) _ (U g) ?_;. simp[Region.wanted,yielded])
  | (go_at_call 21;refine(U f).mono ?_;rintro p v ⟨rfl,q⟩))
 go_ret;exact⟨rfl,ac (U j) q⟩
end Go.Proofs.YtklgoolblpmmlaaGreat
