import Derived.Test.YtklgoolblpmmlaaGreatPlD
import Derived.Test.YtklgoolblpmmlaaGreatOvK
set_option linter.all false
set_option maxHeartbeats 4000000
set_option maxRecDepth 100000
namespace Go.Proofs.YtklgoolblpmmlaaGreat
open Go.RowKit Go.Sort Go.Proofs.Tryz
theorem nW(x:Int)(a:World):Calls prog 194 #[.int .i64 x] a λb c=>b=.returned (.bool (decide (x<0)))/\Bw a c:=by go_enter func194,ntmps194;go_wp2;go_ret;exact⟨rfl,VS⟩
def lF(a:Int):Bool:=a != 1 && a != 2
theorem lj(x:Int)(a:World):Calls prog 88 #[.int .i64 x] a λc d=>c=.returned (.bool (lF x))/\Bw a d:=by
 unfold lF;by_cases h:x=1;.subst h;go_enter func88,ntmps88;go_wp2;go_ret;exact⟨rfl,VS⟩
 ·(have b:(x != 1)=true:=by simpa using h);go_enter func88,ntmps88;go_wp2;go_ret;exact⟨by simp[b],VS⟩
variable{W w:World}{m n:Nat}{a:Option Addr}{C:List Int}{r:List (List aH)}{v:Value}{I J:Int}
theorem zC{x:Int}(h:w.cell? ⟨n,m,none⟩=some (.int .i64 x)):(Instr.loadAt 3 (.pointer (some ⟨n,m,none⟩))).run prog w=.ok (.int .i64 x) w:=by go_simp
theorem DC(h:bP w a C):xb w a (C.map λb=>.int .i64 b):=by
 rcases h with h|⟨d,j,f,h⟩;.exact .inl (by rw[h];rfl)
 .refine .inr ⟨d,j,f,λi l c k e=>?_⟩;rw[bL] at c;obtain⟨b,g,rfl⟩:=Option.map_eq_some_iff.1 c;exact zC (ae (h i b g) e)
theorem Vj(c:List Int)(g:Int->Bool)(b:Nat)(m:∀args a,(callFunc b args).run prog a=.ok (.enter b args) a)(p:∀x d,Calls prog b #[.int .i64 x] d λi j=>i=.returned (.bool (g x))/\Bw d j)(f:Option Addr)(k:Nat)(a:World)(o:c.length<=140737488355328)(n:bP a f c):Calls prog 66 #[.slice f c.length k,.func (.func b) #[] #[]] a λi j=>i=.returned (.bool (c.any g))/\Bw a j:=by have h:=o1 (c.map λx=>.int .i64 x) (c.map g) (by simp) f k (.func (.func b) #[] #[]) a (by simpa using o) (DC n) ⟨b,#[],rfl,m,λs t r d l e _=>by rw[bL] at l e;obtain⟨x,q,rfl⟩:=Option.map_eq_some_iff.1 l;rw[q] at e;injection e with e;subst e;exact p x d⟩;rw[bQ,List.any_map] at h;exact h
def d6(a:List Int):Bool:=!a.any (λb=>decide (b<0)) && decide a.Nodup
theorem ey(a:List Int)(d:Option Addr)(j:Nat)(b:World)(m:a.length<=140737488355328)(k:∀x∈a,bY x)(e:bP b d a):Calls prog 165 #[.slice d a.length j] b λi q=>i=.returned (.bool (d6 a))/\Bw b q:=by
 have c:=H (Vj a (λx=>decide (x<0)) 194 (λargs b=>by kernel_rfl) nW d j b m e);have n:=H (λ(l:World) (o:Bw b l)=>qN a d j l m k (e.aa o));unfold d6;generalize decide a.Nodup=s at *;cases g:a.any (λx=>decide (x<0))
 .rw[g] at c;clear g e k;go_enter func165,ntmps165
  go_wp2_with (first
   | (go_at_call 66;refine(U c).mono ?_;rintro i r ⟨rfl,f⟩)
   | (go_at_call 195;refine(U n _ f).mono ?_;rintro i t ⟨rfl,p⟩))
  go_ret;exact⟨rfl,ac f p⟩
 .rw[g] at c;clear g e k;go_enter func165,ntmps165;go_wp2_with (go_at_call 66;refine(U c).mono ?_;rintro i r ⟨rfl,f⟩);go_ret;exact⟨rfl,f⟩
def ix(x:Int×Int):Bool:=decide (x.1<1) || decide (6<x.1) || decide (x.2<0) || (x.1 == 1 && x.2 != 0)
theorem vV(b c:Int)(i:World):Calls prog 166 #[.agg #[.int .i64 b,.int .i64 c]] i λo p=>o=.returned (.bool (ix (b,c)))/\Bw i p:=by
 have d:=H (am (VT _ i) (.cells #[.int .i64 b,.int .i64 c] 149));obtain⟨f,g⟩:=bn (ix (b,c));rw[<-g];unfold ix at g;have e:=H g;clear g;by_cases k:b<1;·(have a:Hid (f=true):=by rw[U e];show _=_;simp[k]);go_enter func166,ntmps166;go_wp2;go_ret;exact⟨by rw[U a];rfl,U d⟩
 by_cases l:6<b;·(have a:Hid (f=true):=by rw[U e];show _=_;simp[l]);go_enter func166,ntmps166;go_wp2;go_ret;exact⟨by rw[U a];rfl,U d⟩
 by_cases j:c<0;·(have a:Hid (f=true):=by rw[U e];show _=_;simp[j]);go_enter func166,ntmps166;go_wp2;go_ret;exact⟨by rw[U a];rfl,U d⟩
 by_cases m:b=1;.subst m;(have a:Hid (f=(c != 0)):=by rw[U e];show _=_;simp[j]);go_enter func166,ntmps166;go_wp2;go_ret;exact⟨by rw[U a];rfl,U d⟩
 ·(have n:(b == 1)=false:=by simpa using m);(have a:Hid (f=false):=by rw[U e,n];show _=_;simp[k,l,j]);go_enter func166,ntmps166;go_wp2;go_ret;exact⟨by rw[U a];rfl,U d⟩
def jB(a b c:Int):Bool:=if a == 1 || a == 2 || a == 3 then b == 0 && c == 0 else if a == 4 || a == 5 then decide (0<=b) else if a == 6 then decide (0<=b) && decide (0<=c) else false
theorem wm(a b c:Int)(i:World):Calls prog 167 #[.int .i64 a,.int .i64 b,.int .i64 c] i λq r=>q=.returned (.bool (jB a b c))/\Bw i r:=by
 by_cases e:a=1∨a=2∨a=3;·(have d:jB a b c=(b == 0 && c == 0):=by rcases e with rfl|rfl|rfl<;>rfl);rw[d];cases f:(b == 0);(.have s:(b == 0)=false:=f;rcases e with rfl|rfl|rfl;all_goals go_enter func167,ntmps167;go_wp2;go_ret;exact⟨rfl,VS⟩);.rcases e with rfl|rfl|rfl;all_goals go_enter func167,ntmps167;go_wp2;go_ret;exact⟨rfl,VS⟩
 by_cases g:a=4∨a=5;·(have d:jB a b c=decide (0<=b):=by rcases g with rfl|rfl<;>rfl);rw[d];rcases g with rfl|rfl;all_goals go_enter func167,ntmps167;go_wp2;go_ret;exact⟨rfl,VS⟩
 by_cases j:a=6;.subst j;have d:jB 6 b c=(decide (0<=b) && decide (0<=c)):=rfl;rw[d];by_cases f:0<=b;(.go_enter func167,ntmps167;go_wp2;go_ret;exact⟨by simp[f],VS⟩);.go_enter func167,ntmps167;go_wp2;go_ret;exact⟨by have:decide (0<=b)=false:=(by simpa using f);rw[this];rfl,VS⟩
 ·(have k:(a == 1)=false:=by simp;omega);(have l:(a == 2)=false:=by simp;omega);(have m:(a == 3)=false:=by simp;omega);(have n:(a == 4)=false:=by simp;omega);(have o:(a == 5)=false:=by simp;omega);(have p:(a == 6)=false:=by simp;omega);(have d:jB a b c=false:=by unfold jB;rw[k,l,m,n,o,p];rfl);rw[d];clear e g j;go_enter func167,ntmps167;go_wp2;go_ret;exact⟨rfl,VS⟩
theorem dR{u:Array Oper}{rest:List Oper}{i:Oper}{f:Act}{l:Exit->Act->World->Prop}(b:World)(n:i.guard=none)(j x:Operand)(p:i.op=.call { callee:=.builtin .append,args:=#[j,x],argTypes:=#[23,23] }) (base w:Nat) (d v:Value) (c a:List Int) (r:f.eval j=d) (g:cm b base d c) (s:f.eval x=v) (q:cm b w v a) (I:c.length+a.length<=4000000) (m:base<=b.heap.size) (h:∀k e,cm e base k (c++a)->Below base b e->wpList prog u l rest (f.put i.dst k) e):wpList prog u l (i::rest) f b:=by
 obtain⟨t,o,D,E,F⟩:=info_parts m2;rcases q.2 with ⟨rfl,A⟩|⟨z,y,G,rfl,_⟩
 .have:a=[]:=dF A;subst this;exact wpList_append_own_none n j x 23 p base 3 t 1 underlying23 o d c.length _ r g s (h d b (by rw[VI];exact g) VS)
 .refine wpList_append_own_at b n j x 23 p base 3 t (.int .i64 0) 1 8 underlying23 o D E F rfl (by decide) d c.length (c.map (.int .i64)) r g ⟨z,0,none⟩ a.length y (a.map (.int .i64)) s (by simp) (World.ownsRow.cells q rfl) (j1 a) (by unfold maxLen;omega) (by omega) m ?_;intro k e B C _ _;refine h k e ?_ (bB C m (pB g));unfold cm;rw[bG,ep];exact B
def nC(a:List Int)(b:World)(f:Ending)(e:World):Prop:=∃c d,f=.returned (.slice c a.length d)/\cm e b.heap.size (.slice c a.length d) a/\Bw b e
theorem dZ{α d:Type}(a:α->d){b:List α}{x:α}(h:b[n]?=some x):(b.take (n+1)).map a=(b.take n).map a++[a x]:=by obtain⟨c,rfl⟩:=bD h;rw[List.take_succ_eq_append_getElem c,ep];rfl
theorem iT{base:Nat}(h:w.ownsRow base 3 1 (.slice (some ⟨n,0,none⟩) m m) m (madeCells (Value.cells (.int .i64 0)) (m*1)).toList):cm w base (.slice (some ⟨n,0,none⟩) m m) (List.replicate m 0):=by
 have a:(madeCells (Value.cells (.int .i64 0)) (m*1)).toList=List.replicate m (Value.int .i64 0):=by rw[Nat.mul_one];exact toList_madeCells_one _ _
 rw[a] at h;unfold cm;rw[List.length_replicate,List.map_replicate];exact h
theorem iQ(d:List Int)(b a:Nat)(e:d.length=a)(g:a<b)(y:Int):(d++List.replicate (b-a) 0).set a y=(d++[y])++List.replicate (b-(a+1)) 0:=by obtain⟨c,f⟩:∃c,b-a=c+1:=⟨b-a-1,by omega⟩;rw[f,show b-(a+1)=c by omega,<-e];exact q6 d c y
theorem km(d:List Int)(b a:Nat)(e:d.length=a)(g:a<b):(d++List.replicate (b-a) (0:Int))[a]?=some 0/\b=(d++List.replicate (b-a) (0:Int)).length:=by refine⟨?_,by rw[bG,List.length_replicate];omega⟩;obtain⟨c,f⟩:∃c,b-a=c+1:=⟨b-a-1,by omega⟩;rw[ez (by omega),e,Nat.sub_self,f];rfl
theorem fO(a:List (Int×Bool))(v:Option Addr)(F:Nat)(c:World)(R:a.length<=1048576)(x:dh c v a):Calls prog 118 #[.slice v a.length F] c (nC (a.map Prod.fst) c):=by
 have E:=H x;obtain⟨M,z,B,C,D⟩:=info_parts m1;clear x;go_enter func118,ntmps118;go_upto_region 2 with (at_make;refine wpList_make_full _ rfl (.tmp 7) (.tmp 7) 23 rfl c.heap.size 3 M (.int .i64 0) 1 underlying23 z B C .i64 .i64 _ _ a.length rfl rfl rfl rfl (by rw[D];omega) (by unfold maxLen;omega) bi ?_;intro T w y);have q:=H (bB y bi (λQ K=>by cases K));have s:=H (iT w);clear w y B C D z;go_wp2_with fail;go_loopw[11] (λn wr=>∃(b:Nat),b<=a.length/\n=.int .i64 (b:Int)/\Hid (cm wr c.heap.size (.slice (some ⟨c.heap.size,0,none⟩) a.length a.length) ((a.take b).map Prod.fst++List.replicate (a.length-b) 0))/\Hid (Bw c wr)) (λn _=>a.length-(intOf n).toNat);case atStart=>exact⟨0,bt,rfl,U s,U q⟩
 case round=>clear s q;obtain⟨b,L,rfl,e,g⟩:=hrel;by_cases f:b<a.length;(·(have J:(b:Int)<(a.length:Int):=by omega);obtain⟨d,m⟩:∃d,a[b]?=some d:=⟨_,VR f⟩;obtain⟨P,S,rfl,G,I⟩:=((U E).aa (U g)).get m;have u:=H (dZ Prod.fst m);(have l:((a.take b).map Prod.fst).length=b:=by simp;omega);have k:=am (VT _ wr) (.cells #[.int .i64 d.1,.bool d.2] 185);have i:=(U e).aa k;obtain⟨A,o⟩:=km _ a.length b l f;obtain⟨N,O⟩:=i.at o A;have j:=i.store (k:=b) o d.1;rw[iQ _ _ _ l f,<-U u] at j;have t:=H j;have r:=H ((ac (U g) k).setCell (p:=⟨c.heap.size,b,none⟩) bi (.int .i64 d.1));obtain⟨V,W⟩:=d;simp only at G I N O t r;clear m k l i j A o e u;go_wp2;exact⟨⟨b+1,by omega,by go_num,U t,U r⟩,by simp[intOf];omega⟩);·(have J:¬(b:Int)<(a.length:Int):=by omega);(obtain rfl:b=a.length:=by omega);rw[dy,Nat.sub_self,List.replicate_zero,VI] at e;clear L f;go_wp2;go_ret;refine⟨_,_,by rw[bQ];rfl,?_,U g⟩;rw[bQ];exact U e
theorem ny{α:Type}{p:α->Bool}{a:List α}{x:α}(h:a[n]?=some x)(c:(a.take n).any p=false)(d:p x=false):(a.take (n+1)).any p=false:=by obtain⟨b,rfl⟩:=bD h;rw[List.take_succ_eq_append_getElem b,List.any_append,c];simp[d]
theorem qr{α:Type}{p:α->Bool}{a:List α}{x:α}(h:a[n]?=some x)(b:p x=true):a.any p=true:=List.any_eq_true.2 ⟨x,VQ h,b⟩
def jn(a:List Int):Bool:=decide (1<=a.length) && decide (a.length<=32) && !a.any lF
def Vs(f:World)(g:Option Addr)(e:List (ByteArray×Int)):Prop:=e=[]∨∃a c,g=some ⟨a,c,none⟩/\∀b d,e[b]?=some d->f.cell? ⟨a,c+b*2,none⟩=some (.string d.1)/\f.cell? ⟨a,c+b*2+1,none⟩=some (.int .i64 d.2)
theorem Vs.aa{e:List (ByteArray×Int)}(h:Vs w a e)(b:Bw w W):Vs W a e:=by
 rcases h with h|⟨g,j,i,h⟩;.exact .inl h
 .exact .inr ⟨g,j,i,λd f c=>⟨ae (h d f c).1 b,ae (h d f c).2 b⟩⟩
theorem Vs.get{e:List (ByteArray×Int)}{i:Nat}{x:ByteArray×Int}(h:Vs w a e)(d:e[i]?=some x):∃b c,a=some ⟨b,c,none⟩/\w.cell? ⟨b,c+i*2,none⟩=some (.string x.1)/\w.cell? ⟨b,c+i*2+1,none⟩=some (.int .i64 x.2):=by
 rcases h with h|⟨b,c,f,h⟩;.rw[h] at d;simp at d
 .exact⟨b,c,f,h i x d⟩
def ga(g:World)(i:Option Addr)(f:List (List aH)):Prop:=f=[]∨∃b d,i=some ⟨b,d,none⟩/\∀c a,f[c]?=some a->∃e j,g.cell? ⟨b,d+c,none⟩=some (.slice e a.length j)/\bX g e a
theorem ga.aa(h:ga w a r)(b:Bw w W):ga W a r:=by
 rcases h with h|⟨c,j,f,h⟩;.exact .inl h
 .exact .inr ⟨c,j,f,λi k g=>by obtain⟨l,m,d,e⟩:=h i k g;exact⟨l,m,ae d b,e.aa b⟩⟩
structure Tb where
 name:ByteArray
 cols:List (ByteArray×Int)
 rows:List (List aH)
structure Tm where
 aC:Option Addr
 cC:Nat
 aR:Option Addr
 cR:Nat
def Tb.val(b:Tb)(a:Tm):Value:=.agg #[.string b.name,.slice a.aC b.cols.length a.cC,.slice a.aR b.rows.length a.cR]
theorem Tb.ad(b:Tb)(a:Tm):b.val a=.agg #[.string b.name,.slice a.aC b.cols.length a.cC,.slice a.aR b.rows.length a.cR]:=rfl
abbrev Tb.box (b:Tb) (a:Tm):Obj:=.cells #[.string b.name,.slice a.aC b.cols.length a.cC,.slice a.aR b.rows.length a.cR] 63
structure uf(w:World)(b off:Nat)(t:Tb)(m:Tm):Prop where
 c0:w.cell? ⟨b,off,none⟩=some (.string t.name)
 c1:w.cell? ⟨b,off+1,none⟩=some (.slice m.aC t.cols.length m.cC)
 c2:w.cell? ⟨b,off+2,none⟩=some (.slice m.aR t.rows.length m.cR)
theorem uf.aa{c:Tb}{b:Tm}(h:uf w n m c b)(a:Bw w W):uf W n m c b:=⟨ae h.c0 a,ae h.c1 a,ae h.c2 a⟩
theorem uf.new(c:World)(b:Tb)(a:Tm):uf (c.alloc (b.box a)) c.heap.size 0 b a:=⟨by simp[go_sem],by simp[go_sem],by simp[go_sem]⟩
theorem uf.load{b:Tb}{a:Tm}(h:uf w n m b a):(Instr.loadAt 63 (.pointer (some ⟨n,m,none⟩))).run prog w=.ok (b.val a) w:=by obtain⟨c,d,e⟩:=h;unfold Tb.val;go_simp
structure zW(w:World)(t:Tb)(m:Tm):Prop where
 c:Vs w m.aC t.cols
 r:ga w m.aR t.rows
theorem zW.aa{c:Tb}{b:Tm}(h:zW w c b)(a:Bw w W):zW W c b:=⟨h.c.aa a,h.r.aa a⟩
def lZ(g:World)(i:Option Addr)(d:List Tb):Prop:=d=[]∨∃b f,i=some ⟨b,f,none⟩/\∀c a,d[c]?=some a->∃e,uf g b (f+c*3) a e/\zW g a e
variable{T:List Tb}
theorem lZ.aa(h:lZ w a T)(b:Bw w W):lZ W a T:=by
 rcases h with h|⟨c,k,f,h⟩;.exact .inl h
 .exact .inr ⟨c,k,f,λi l g=>by obtain⟨j,d,e⟩:=h i l g;exact⟨j,d.aa b,e.aa b⟩⟩
theorem lZ.get{i:Nat}{e:Tb}(h:lZ w a T)(f:T[i]?=some e):∃b d c,a=some ⟨b,d,none⟩/\uf w b (d+i*3) e c/\zW w e c:=by
 rcases h with h|⟨b,d,k,h⟩;.rw[h] at f;simp at f
 .obtain⟨c,g,j⟩:=h i e f;exact⟨b,d,c,k,g,j⟩
structure Tb.fin(t:Tb):Prop where
 n:t.name.size<=1048576
 c:t.cols.length<=1048576
 cn:∀x∈t.cols,x.1.size<=1048576
 r:t.rows.length<=1048576
 rr:∀r∈t.rows,r.length<=1048576
theorem ti(a:ByteArray)(f:a.size<=140737488355328)(b:World):Calls prog 90 #[.string a] b λc g=>c=.returned (.bool (!Vo a))/\Bw b g:=by have d:=H (mV a f);generalize Vo a=i at *;go_enter func90,ntmps90;go_wp2_with (go_at_call 148;refine(U d _).mono ?_;rintro c j ⟨rfl,e⟩);go_ret;exact⟨rfl,e⟩
theorem Aq{x:ByteArray}(h:w.cell? ⟨n,m,none⟩=some (.string x)):(Instr.loadAt 9 (.pointer (some ⟨n,m,none⟩))).run prog w=.ok (.string x) w:=by go_simp
theorem Eq{d:List ByteArray}(h:hk w a d):UB w a (d.map λb=>.string b):=by
 rcases h with h|⟨e,k,g,h⟩;.exact .inl (by rw[h];rfl)
 .refine .inr ⟨e,k,g,λj m c l f=>?_⟩;rw[bL] at c;obtain⟨b,i,rfl⟩:=Option.map_eq_some_iff.1 c;exact Aq (ae (h j b i) f)
theorem qf(a:List ByteArray)(d:Option Addr)(e:Nat)(b:World)(k:a.length<=140737488355328)(l:∀x∈a,x.size<=140737488355328)(j:hk b d a):Calls prog 89 #[.slice d a.length e,.func (.func 90) #[] #[]] b λm n=>m=.returned (.bool (a.any λx=>!Vo x))/\Bw b n:=by have h:=wR (a.map λx=>.string x) (a.map λx=>!Vo x) (by simp) d e (.func (.func 90) #[] #[]) b (by simpa using k) (Eq j) ⟨90,#[],rfl,λargs b=>by kernel_rfl,λp q o i f c _=>by rw[bL] at f c;obtain⟨x,g,rfl⟩:=Option.map_eq_some_iff.1 f;rw[g] at c;injection c with c;subst c;exact ti x (l x (VQ g)) i⟩;rw[bQ,List.any_map] at h;exact h
def hh(a:List ByteArray):Bool:=!(a.any λb=>!Vo b) && decide a.Nodup
theorem kn(a:List ByteArray)(d:Option Addr)(k:Nat)(b:World)(m:a.length<=140737488355328)(i:∀x∈a,x.size<=140737488355328)(e:hk b d a):Calls prog 46 #[.slice d a.length k] b λj q=>j=.returned (.bool (hh a))/\Bw b q:=by
 have c:=H (qf a d k b m i e);have n:=H (λ(l:World) (o:Bw b l)=>qL a d k l m i (e.aa o));unfold hh;generalize decide a.Nodup=s at *;cases g:a.any (λx=>!Vo x)
 .rw[g] at c;clear g e i;go_enter func46,ntmps46
  go_wp2_with (first
   | (go_at_call 89;refine(U c).mono ?_;rintro j r ⟨rfl,f⟩)
   | (go_at_call 91;refine(U n _ f).mono ?_;rintro j t ⟨rfl,p⟩))
  go_ret;exact⟨rfl,ac f p⟩
 .rw[g] at c;clear g e i;go_enter func46,ntmps46;go_wp2_with (go_at_call 89;refine(U c).mono ?_;rintro j r ⟨rfl,f⟩);go_ret;exact⟨rfl,f⟩
def jw(c:World)(base:Nat)(b:Value)(a:List ByteArray):Prop:=c.ownsRow base 9 1 b a.length (a.map .string)
theorem jw.aa{w1:World}{base:Nat}{a:List ByteArray}(h:jw w base v a)(b:Bw w w1):jw w1 base v a:=hz h b
def rT(a:Int):Bool:=a == 2 || a == 3 || a == 4 || a == 5
def kX(a:Int):Bool:=a == 6 || a == 10 || a == 12
def jY(a:Int):Bool:=a == 9 || a == 10
def qz(a:Pl):Pl:=.mk 0 (if a.op == 1 then a.au else ⟨#[]⟩) (if rT a.op then a.ex else []) (if kX a.op then a.cols else []) (if jY a.op then a.keys else []) (if a.op == 6 then a.aggs else []) (if a.op == 10 then a.fn else 0) (if a.op == 10 then a.aj else 0) (if jY a.op then a.n else 0) (if a.op == 9 then a.off else 0) []
def vY(b:Pl)(a:Pm):Pm:=⟨if rT b.op then a.aE else none,if rT b.op then a.cE else 0,if kX b.op then a.aC else none,if kX b.op then a.cC else 0,if jY b.op then a.aK else none,if jY b.op then a.cK else 0,if b.op == 6 then a.aA else none,if b.op == 6 then a.cA else 0,none,0⟩
theorem Dz{op:Int}(h:¬(op=1∨op=2∨op=3∨op=4∨op=5∨op=6∨op=9∨op=10∨op=12)):(op == 1)=false/\(op == 2)=false/\(op == 3)=false/\(op == 4)=false/\(op == 5)=false/\(op == 6)=false/\(op == 9)=false/\(op == 10)=false/\(op == 12)=false:=by refine⟨?_,?_,?_,?_,?_,?_,?_,?_,?_⟩<;>simp<;>omega
theorem vX(a:Pl)(b:Pm)(f:World):Calls prog 168 #[a.val b] f λB C=>B=.returned ((qz a).val (vY a b))/\Bw f C:=by
 obtain⟨g,c⟩:=bn ((qz a).val (vY a b));rw[<-c];rw[Pl.ad];by_cases i:a.op=1;·(have e:g=.agg #[.int .i64 0,.string a.au,.slice none 0 0,.slice none 0 0,.slice none 0 0,.slice none 0 0,.int .i64 0,.int .i64 0,.int .i64 0,.int .i64 0,.slice none 0 0]:=by rw[c];unfold Pl.val qz vY rT kX jY;rw[i];rfl);subst e;rw[i];have d:=H (am (VT _ f) (.cells #[.int .i64 1,.string a.au,.slice b.aE a.ex.length b.cE,.slice b.aC a.cols.length b.cC,.slice b.aK a.keys.length b.cK,.slice b.aA a.aggs.length b.cA,.int .i64 a.fn,.int .i64 a.aj,.int .i64 a.n,.int .i64 a.off,.slice b.aP a.args.length b.cP] 28));clear c;go_enter func168,ntmps168;go_wp2;exact bs (v:=.agg #[.int .i64 0,.string a.au,.slice none 0 0,.slice none 0 0,.slice none 0 0,.slice none 0 0,.int .i64 0,.int .i64 0,.int .i64 0,.int .i64 0,.slice none 0 0]) (by simp[results,results168,go_sem]) rfl ⟨rfl,am (U d) _⟩
 by_cases l:a.op=2;·(have e:g=.agg #[.int .i64 0,.string ⟨#[]⟩,.slice b.aE a.ex.length b.cE,.slice none 0 0,.slice none 0 0,.slice none 0 0,.int .i64 0,.int .i64 0,.int .i64 0,.int .i64 0,.slice none 0 0]:=by rw[c];unfold Pl.val qz vY rT kX jY;rw[l];rfl);subst e;rw[l];have d:=H (am (VT _ f) (.cells #[.int .i64 2,.string a.au,.slice b.aE a.ex.length b.cE,.slice b.aC a.cols.length b.cC,.slice b.aK a.keys.length b.cK,.slice b.aA a.aggs.length b.cA,.int .i64 a.fn,.int .i64 a.aj,.int .i64 a.n,.int .i64 a.off,.slice b.aP a.args.length b.cP] 28));clear c;go_enter func168,ntmps168;go_wp2;exact bs (v:=.agg #[.int .i64 0,.string ⟨#[]⟩,.slice b.aE a.ex.length b.cE,.slice none 0 0,.slice none 0 0,.slice none 0 0,.int .i64 0,.int .i64 0,.int .i64 0,.int .i64 0,.slice none 0 0]) (by simp[results,results168,go_sem]) rfl ⟨rfl,am (U d) _⟩
 by_cases m:a.op=3;·(have e:g=.agg #[.int .i64 0,.string ⟨#[]⟩,.slice b.aE a.ex.length b.cE,.slice none 0 0,.slice none 0 0,.slice none 0 0,.int .i64 0,.int .i64 0,.int .i64 0,.int .i64 0,.slice none 0 0]:=by rw[c];unfold Pl.val qz vY rT kX jY;rw[m];rfl);subst e;rw[m];have d:=H (am (VT _ f) (.cells #[.int .i64 3,.string a.au,.slice b.aE a.ex.length b.cE,.slice b.aC a.cols.length b.cC,.slice b.aK a.keys.length b.cK,.slice b.aA a.aggs.length b.cA,.int .i64 a.fn,.int .i64 a.aj,.int .i64 a.n,.int .i64 a.off,.slice b.aP a.args.length b.cP] 28));clear c;go_enter func168,ntmps168;go_wp2;exact bs (v:=.agg #[.int .i64 0,.string ⟨#[]⟩,.slice b.aE a.ex.length b.cE,.slice none 0 0,.slice none 0 0,.slice none 0 0,.int .i64 0,.int .i64 0,.int .i64 0,.int .i64 0,.slice none 0 0]) (by simp[results,results168,go_sem]) rfl ⟨rfl,am (U d) _⟩
 by_cases n:a.op=4;·(have e:g=.agg #[.int .i64 0,.string ⟨#[]⟩,.slice b.aE a.ex.length b.cE,.slice none 0 0,.slice none 0 0,.slice none 0 0,.int .i64 0,.int .i64 0,.int .i64 0,.int .i64 0,.slice none 0 0]:=by rw[c];unfold Pl.val qz vY rT kX jY;rw[n];rfl);subst e;rw[n];have d:=H (am (VT _ f) (.cells #[.int .i64 4,.string a.au,.slice b.aE a.ex.length b.cE,.slice b.aC a.cols.length b.cC,.slice b.aK a.keys.length b.cK,.slice b.aA a.aggs.length b.cA,.int .i64 a.fn,.int .i64 a.aj,.int .i64 a.n,.int .i64 a.off,.slice b.aP a.args.length b.cP] 28));clear c;go_enter func168,ntmps168;go_wp2;exact bs (v:=.agg #[.int .i64 0,.string ⟨#[]⟩,.slice b.aE a.ex.length b.cE,.slice none 0 0,.slice none 0 0,.slice none 0 0,.int .i64 0,.int .i64 0,.int .i64 0,.int .i64 0,.slice none 0 0]) (by simp[results,results168,go_sem]) rfl ⟨rfl,am (U d) _⟩
 by_cases o:a.op=5;·(have e:g=.agg #[.int .i64 0,.string ⟨#[]⟩,.slice b.aE a.ex.length b.cE,.slice none 0 0,.slice none 0 0,.slice none 0 0,.int .i64 0,.int .i64 0,.int .i64 0,.int .i64 0,.slice none 0 0]:=by rw[c];unfold Pl.val qz vY rT kX jY;rw[o];rfl);subst e;rw[o];have d:=H (am (VT _ f) (.cells #[.int .i64 5,.string a.au,.slice b.aE a.ex.length b.cE,.slice b.aC a.cols.length b.cC,.slice b.aK a.keys.length b.cK,.slice b.aA a.aggs.length b.cA,.int .i64 a.fn,.int .i64 a.aj,.int .i64 a.n,.int .i64 a.off,.slice b.aP a.args.length b.cP] 28));clear c;go_enter func168,ntmps168;go_wp2;exact bs (v:=.agg #[.int .i64 0,.string ⟨#[]⟩,.slice b.aE a.ex.length b.cE,.slice none 0 0,.slice none 0 0,.slice none 0 0,.int .i64 0,.int .i64 0,.int .i64 0,.int .i64 0,.slice none 0 0]) (by simp[results,results168,go_sem]) rfl ⟨rfl,am (U d) _⟩
 by_cases p:a.op=6;·(have e:g=.agg #[.int .i64 0,.string ⟨#[]⟩,.slice none 0 0,.slice b.aC a.cols.length b.cC,.slice none 0 0,.slice b.aA a.aggs.length b.cA,.int .i64 0,.int .i64 0,.int .i64 0,.int .i64 0,.slice none 0 0]:=by rw[c];unfold Pl.val qz vY rT kX jY;rw[p];rfl);subst e;rw[p];have d:=H (am (VT _ f) (.cells #[.int .i64 6,.string a.au,.slice b.aE a.ex.length b.cE,.slice b.aC a.cols.length b.cC,.slice b.aK a.keys.length b.cK,.slice b.aA a.aggs.length b.cA,.int .i64 a.fn,.int .i64 a.aj,.int .i64 a.n,.int .i64 a.off,.slice b.aP a.args.length b.cP] 28));clear c;go_enter func168,ntmps168;go_wp2;exact bs (v:=.agg #[.int .i64 0,.string ⟨#[]⟩,.slice none 0 0,.slice b.aC a.cols.length b.cC,.slice none 0 0,.slice b.aA a.aggs.length b.cA,.int .i64 0,.int .i64 0,.int .i64 0,.int .i64 0,.slice none 0 0]) (by simp[results,results168,go_sem]) rfl ⟨rfl,am (U d) _⟩
 by_cases q:a.op=9;·(have e:g=.agg #[.int .i64 0,.string ⟨#[]⟩,.slice none 0 0,.slice none 0 0,.slice b.aK a.keys.length b.cK,.slice none 0 0,.int .i64 0,.int .i64 0,.int .i64 a.n,.int .i64 a.off,.slice none 0 0]:=by rw[c];unfold Pl.val qz vY rT kX jY;rw[q];rfl);subst e;rw[q];have d:=H (am (VT _ f) (.cells #[.int .i64 9,.string a.au,.slice b.aE a.ex.length b.cE,.slice b.aC a.cols.length b.cC,.slice b.aK a.keys.length b.cK,.slice b.aA a.aggs.length b.cA,.int .i64 a.fn,.int .i64 a.aj,.int .i64 a.n,.int .i64 a.off,.slice b.aP a.args.length b.cP] 28));clear c;go_enter func168,ntmps168;go_wp2;exact bs (v:=.agg #[.int .i64 0,.string ⟨#[]⟩,.slice none 0 0,.slice none 0 0,.slice b.aK a.keys.length b.cK,.slice none 0 0,.int .i64 0,.int .i64 0,.int .i64 a.n,.int .i64 a.off,.slice none 0 0]) (by simp[results,results168,go_sem]) rfl ⟨rfl,am (U d) _⟩
 by_cases j:a.op=10;·(have e:g=.agg #[.int .i64 0,.string ⟨#[]⟩,.slice none 0 0,.slice b.aC a.cols.length b.cC,.slice b.aK a.keys.length b.cK,.slice none 0 0,.int .i64 a.fn,.int .i64 a.aj,.int .i64 a.n,.int .i64 0,.slice none 0 0]:=by rw[c];unfold Pl.val qz vY rT kX jY;rw[j];rfl);subst e;rw[j];have d:=H (am (VT _ f) (.cells #[.int .i64 10,.string a.au,.slice b.aE a.ex.length b.cE,.slice b.aC a.cols.length b.cC,.slice b.aK a.keys.length b.cK,.slice b.aA a.aggs.length b.cA,.int .i64 a.fn,.int .i64 a.aj,.int .i64 a.n,.int .i64 a.off,.slice b.aP a.args.length b.cP] 28));clear c;go_enter func168,ntmps168;go_wp2;exact bs (v:=.agg #[.int .i64 0,.string ⟨#[]⟩,.slice none 0 0,.slice b.aC a.cols.length b.cC,.slice b.aK a.keys.length b.cK,.slice none 0 0,.int .i64 a.fn,.int .i64 a.aj,.int .i64 a.n,.int .i64 0,.slice none 0 0]) (by simp[results,results168,go_sem]) rfl ⟨rfl,am (U d) _⟩
 by_cases k:a.op=12;·(have e:g=.agg #[.int .i64 0,.string ⟨#[]⟩,.slice none 0 0,.slice b.aC a.cols.length b.cC,.slice none 0 0,.slice none 0 0,.int .i64 0,.int .i64 0,.int .i64 0,.int .i64 0,.slice none 0 0]:=by rw[c];unfold Pl.val qz vY rT kX jY;rw[k];rfl);subst e;rw[k];have d:=H (am (VT _ f) (.cells #[.int .i64 12,.string a.au,.slice b.aE a.ex.length b.cE,.slice b.aC a.cols.length b.cC,.slice b.aK a.keys.length b.cK,.slice b.aA a.aggs.length b.cA,.int .i64 a.fn,.int .i64 a.aj,.int .i64 a.n,.int .i64 a.off,.slice b.aP a.args.length b.cP] 28));clear c;go_enter func168,ntmps168;go_wp2;exact bs (v:=.agg #[.int .i64 0,.string ⟨#[]⟩,.slice none 0 0,.slice b.aC a.cols.length b.cC,.slice none 0 0,.slice none 0 0,.int .i64 0,.int .i64 0,.int .i64 0,.int .i64 0,.slice none 0 0]) (by simp[results,results168,go_sem]) rfl ⟨rfl,am (U d) _⟩
 .obtain⟨r,u,w,x,y,z,A,s,t⟩:=Dz (op:=a.op) (by omega);(have e:g=.agg #[.int .i64 0,.string ⟨#[]⟩,.slice none 0 0,.slice none 0 0,.slice none 0 0,.slice none 0 0,.int .i64 0,.int .i64 0,.int .i64 0,.int .i64 0,.slice none 0 0]:=by rw[c];unfold Pl.val qz vY rT kX jY;rw[r,u,w,x,y,z,A,s,t];rfl);subst e;have d:=H (am (VT _ f) (a.box b));clear c i l m n o p q j k;go_enter func168,ntmps168;go_wp2;exact bs (v:=.agg #[.int .i64 0,.string ⟨#[]⟩,.slice none 0 0,.slice none 0 0,.slice none 0 0,.slice none 0 0,.int .i64 0,.int .i64 0,.int .i64 0,.int .i64 0,.slice none 0 0]) (by simp[results,results168,go_sem]) rfl ⟨rfl,am (U d) _⟩
def eo(a:Pl):Bool:=if a.op == 1 || a.op == 12 then a.args.length == 0 else if a.op == 4 || a.op == 5 || a.op == 11 then a.args.length == 2 else if a.op == 8 then decide (1<=a.args.length) else a.args.length == 1
theorem eu(b a:Nat):((b:Int) == (a:Int))=(b == a):=by rw[Bool.eq_iff_iff];simp;omega
theorem rK(a:Pl)(b:Pm)(f:World):Calls prog 109 #[a.val b] f λu v=>u=.returned (.bool (eo a))/\Bw f v:=by
 obtain⟨g,c⟩:=bn (eo a);rw[<-c];rw[Pl.ad];by_cases i:a.op=1
 .have e:g=((a.args.length:Int) == 0):=by
   rw[c];unfold eo;rw[i]
   show (a.args.length == 0)=_
   exact(eu _ 0).symm
  subst e
  rw[i]
  have d:=H (am (VT _ f) (.cells #[.int .i64 1,.string a.au,.slice b.aE a.ex.length b.cE,.slice b.aC a.cols.length b.cC,.slice b.aK a.keys.length b.cK,.slice b.aA a.aggs.length b.cA,.int .i64 a.fn,.int .i64 a.aj,.int .i64 a.n,.int .i64 a.off,.slice b.aP a.args.length b.cP] 28))
  clear c
  go_enter func109,ntmps109
  go_wp2
  go_ret
  exact⟨rfl,U d⟩
 by_cases k:a.op=12
 .have e:g=((a.args.length:Int) == 0):=by
   rw[c];unfold eo;rw[k]
   show (a.args.length == 0)=_
   exact(eu _ 0).symm
  subst e
  rw[k]
  have d:=H (am (VT _ f) (.cells #[.int .i64 12,.string a.au,.slice b.aE a.ex.length b.cE,.slice b.aC a.cols.length b.cC,.slice b.aK a.keys.length b.cK,.slice b.aA a.aggs.length b.cA,.int .i64 a.fn,.int .i64 a.aj,.int .i64 a.n,.int .i64 a.off,.slice b.aP a.args.length b.cP] 28))
  clear c
  go_enter func109,ntmps109
  go_wp2
  go_ret
  exact⟨rfl,U d⟩
 by_cases l:a.op=4
 .have e:g=((a.args.length:Int) == 2):=by
   rw[c];unfold eo;rw[l]
   show (a.args.length == 2)=_
   exact(eu _ 2).symm
  subst e
  rw[l]
  have d:=H (am (VT _ f) (.cells #[.int .i64 4,.string a.au,.slice b.aE a.ex.length b.cE,.slice b.aC a.cols.length b.cC,.slice b.aK a.keys.length b.cK,.slice b.aA a.aggs.length b.cA,.int .i64 a.fn,.int .i64 a.aj,.int .i64 a.n,.int .i64 a.off,.slice b.aP a.args.length b.cP] 28))
  clear c
  go_enter func109,ntmps109
  go_wp2
  go_ret
  exact⟨rfl,U d⟩
 by_cases m:a.op=5
 .have e:g=((a.args.length:Int) == 2):=by
   rw[c];unfold eo;rw[m]
   show (a.args.length == 2)=_
   exact(eu _ 2).symm
  subst e
  rw[m]
  have d:=H (am (VT _ f) (.cells #[.int .i64 5,.string a.au,.slice b.aE a.ex.length b.cE,.slice b.aC a.cols.length b.cC,.slice b.aK a.keys.length b.cK,.slice b.aA a.aggs.length b.cA,.int .i64 a.fn,.int .i64 a.aj,.int .i64 a.n,.int .i64 a.off,.slice b.aP a.args.length b.cP] 28))
  clear c
  go_enter func109,ntmps109
  go_wp2
  go_ret
  exact⟨rfl,U d⟩
 by_cases j:a.op=11
 .have e:g=((a.args.length:Int) == 2):=by
   rw[c];unfold eo;rw[j]
   show (a.args.length == 2)=_
   exact(eu _ 2).symm
  subst e
  rw[j]
  have d:=H (am (VT _ f) (.cells #[.int .i64 11,.string a.au,.slice b.aE a.ex.length b.cE,.slice b.aC a.cols.length b.cC,.slice b.aK a.keys.length b.cK,.slice b.aA a.aggs.length b.cA,.int .i64 a.fn,.int .i64 a.aj,.int .i64 a.n,.int .i64 a.off,.slice b.aP a.args.length b.cP] 28))
  clear c
  go_enter func109,ntmps109
  go_wp2
  go_ret
  exact⟨rfl,U d⟩
 by_cases n:a.op=8
 .have e:g=(decide ((1:Int)<=(a.args.length:Int))):=by
   rw[c];unfold eo;rw[n]
   show (decide (1<=a.args.length))=_
   rw[Bool.eq_iff_iff];simp;omega
  subst e
  rw[n]
  have d:=H (am (VT _ f) (.cells #[.int .i64 8,.string a.au,.slice b.aE a.ex.length b.cE,.slice b.aC a.cols.length b.cC,.slice b.aK a.keys.length b.cK,.slice b.aA a.aggs.length b.cA,.int .i64 a.fn,.int .i64 a.aj,.int .i64 a.n,.int .i64 a.off,.slice b.aP a.args.length b.cP] 28))
  clear c
  go_enter func109,ntmps109
  go_wp2
  go_ret
  exact⟨rfl,U d⟩
 ·(have o:(a.op == 1)=false:=by simpa using i);(have q:(a.op == 12)=false:=by simpa using k);(have r:(a.op == 4)=false:=by simpa using l);(have s:(a.op == 5)=false:=by simpa using m);(have p:(a.op == 11)=false:=by simpa using j);(have t:(a.op == 8)=false:=by simpa using n);(have e:g=((a.args.length:Int) == 1):=by rw[c];unfold eo;rw[o,q,r,s,p,t];show (a.args.length == 1)=_;exact(eu _ 1).symm);subst e;have d:=H (am (VT _ f) (a.box b));clear c i k l m j n;go_enter func109,ntmps109;go_wp2;go_ret;exact⟨rfl,U d⟩
def eM(a:Pl):Bool:=
 if a.op == 1 then Vo a.au else if a.op == 2 || a.op == 4 || a.op == 5 then a.ex.length == 1 else if a.op == 3 then decide (1<=a.ex.length) && decide (a.ex.length<=32)
 else if a.op == 6 then decide (1<=a.cols.length+a.aggs.length) && d6 a.cols && !a.aggs.any ix else if a.op == 7 || a.op == 8 || a.op == 11 then true
 else if a.op == 9 then d6 (a.keys.map Prod.fst) && decide (0<=a.n) && decide (0<=a.off) else if a.op == 10 then d6 a.cols && d6 (a.keys.map Prod.fst) && jB a.fn a.aj a.n
 else if a.op == 12 then jn a.cols else false
theorem BE(a:w.cell? ⟨n,m,none⟩=some (.int .i64 I))(b:w.cell? ⟨n,m+1,none⟩=some (.int .i64 J)):(Instr.loadAt 149 (.pointer (some ⟨n,m,none⟩))).run prog w=.ok (.agg #[.int .i64 I,.int .i64 J]) w:=by go_simp
theorem DD{g:List (Int×Int)}(h:ft w a g):xd w a (g.map λb=>.agg #[.int .i64 b.1,.int .i64 b.2]):=by
 rcases h with h|⟨i,k,j,h⟩;.exact .inl (by rw[h];rfl)
 .refine .inr ⟨i,k,j,λf m d l c=>?_⟩;rw[bL] at d;obtain⟨b,e,rfl⟩:=Option.map_eq_some_iff.1 d;exact BE (ae (h f b e).1 c) (ae (h f b e).2 c)
theorem qh(b:List (Int×Int))(e:Option Addr)(f:Nat)(a:World)(k:b.length<=140737488355328)(j:ft a e b):Calls prog 125 #[.slice e b.length f,.func (.func 166) #[] #[]] a λm n=>m=.returned (.bool (b.any ix))/\Bw a n:=by have h:=o3 (b.map λd=>.agg #[.int .i64 d.1,.int .i64 d.2]) (b.map ix) (by simp) e f (.func (.func 166) #[] #[]) a (by simpa using k) (DD j) ⟨166,#[],rfl,λargs a=>by kernel_rfl,λp q o i g c _=>by rw[bL] at g c;obtain⟨d,l,rfl⟩:=Option.map_eq_some_iff.1 g;rw[l] at c;injection c with c;subst c;exact vV d.1 d.2 i⟩;rw[bQ,List.any_map] at h;exact h
theorem pR(a:Pl)(q:a.fin)(b:Pm)(j:World)(m:iO j a b):Calls prog 110 #[a.val b] j λl Ws=>l=.returned (.bool (eM a))/\Bw j Ws:=by
 obtain⟨⟨Wu,Wv,Ww,V2,Wx,Wy,Wz,V3,V4,WA⟩,_,_⟩:=Pl.an q;obtain⟨i,f⟩:=bn (eM a);rw[<-f];unfold eM at f;rw[Pl.ad];by_cases M:a.op=1;.rw[M] at f;have d:Hid (i=Vo a.au):=f;have V8:=H (mV a.au (by omega));rw[M];have c:=am (VT _ j) (.cells #[.int .i64 1,.string a.au,.slice b.aE a.ex.length b.cE,.slice b.aC a.cols.length b.cC,.slice b.aK a.keys.length b.cK,.slice b.aA a.aggs.length b.cA,.int .i64 a.fn,.int .i64 a.aj,.int .i64 a.n,.int .i64 a.off,.slice b.aP a.args.length b.cP] 28);have e:=H c;clear f c m q;generalize Vo a.au=WB at *;obtain rfl:=U d;go_enter func110,ntmps110;go_wp2_with (go_at_call 148;refine(U V8 _).mono ?_;rintro l s ⟨rfl,g⟩);go_ret;exact⟨rfl,ac (U e) g⟩
 by_cases P:a.op=2;.rw[P] at f;(have d:Hid (i=((a.ex.length:Int) == 1)):=by rw[f];exact(eu _ 1).symm);rw[P];have c:=am (VT _ j) (.cells #[.int .i64 2,.string a.au,.slice b.aE a.ex.length b.cE,.slice b.aC a.cols.length b.cC,.slice b.aK a.keys.length b.cK,.slice b.aA a.aggs.length b.cA,.int .i64 a.fn,.int .i64 a.aj,.int .i64 a.n,.int .i64 a.off,.slice b.aP a.args.length b.cP] 28);have e:=H c;clear f c m q;obtain rfl:=U d;go_enter func110,ntmps110;go_wp2;go_ret;exact⟨rfl,U e⟩
 by_cases R:a.op=4;.rw[R] at f;(have d:Hid (i=((a.ex.length:Int) == 1)):=by rw[f];exact(eu _ 1).symm);rw[R];have c:=am (VT _ j) (.cells #[.int .i64 4,.string a.au,.slice b.aE a.ex.length b.cE,.slice b.aC a.cols.length b.cC,.slice b.aK a.keys.length b.cK,.slice b.aA a.aggs.length b.cA,.int .i64 a.fn,.int .i64 a.aj,.int .i64 a.n,.int .i64 a.off,.slice b.aP a.args.length b.cP] 28);have e:=H c;clear f c m q;obtain rfl:=U d;go_enter func110,ntmps110;go_wp2;go_ret;exact⟨rfl,U e⟩
 by_cases S:a.op=5;.rw[S] at f;(have d:Hid (i=((a.ex.length:Int) == 1)):=by rw[f];exact(eu _ 1).symm);rw[S];have c:=am (VT _ j) (.cells #[.int .i64 5,.string a.au,.slice b.aE a.ex.length b.cE,.slice b.aC a.cols.length b.cC,.slice b.aK a.keys.length b.cK,.slice b.aA a.aggs.length b.cA,.int .i64 a.fn,.int .i64 a.aj,.int .i64 a.n,.int .i64 a.off,.slice b.aP a.args.length b.cP] 28);have e:=H c;clear f c m q;obtain rfl:=U d;go_enter func110,ntmps110;go_wp2;go_ret;exact⟨rfl,U e⟩
 by_cases Q:a.op=3;.rw[Q] at f;have d:Hid (i=(decide (1<=a.ex.length) && decide (a.ex.length<=32))):=f;rw[Q];have c:=am (VT _ j) (.cells #[.int .i64 3,.string a.au,.slice b.aE a.ex.length b.cE,.slice b.aC a.cols.length b.cC,.slice b.aK a.keys.length b.cK,.slice b.aA a.aggs.length b.cA,.int .i64 a.fn,.int .i64 a.aj,.int .i64 a.n,.int .i64 a.off,.slice b.aP a.args.length b.cP] 28);have e:=H c;clear f c m q;by_cases t:1<=a.ex.length;(·(have J:(1:Int)<=(a.ex.length:Int):=by omega);(have Y:Hid (i=decide ((a.ex.length:Int)<=32)):=by rw[U d,decide_eq_true t,Bool.true_and];show _=_;rw[Bool.eq_iff_iff];simp;omega);obtain rfl:=U Y;go_enter func110,ntmps110;go_wp2;go_ret;exact⟨rfl,U e⟩);·(have J:¬(1:Int)<=(a.ex.length:Int):=by omega);(have Y:Hid (i=false):=by rw[U d,decide_eq_false t];rfl);obtain rfl:=U Y;go_enter func110,ntmps110;go_wp2;go_ret;exact⟨rfl,U e⟩
 by_cases G:a.op=6
 .rw[G] at f;have d:Hid (i=(decide (1<=a.cols.length+a.aggs.length) && d6 a.cols && !a.aggs.any ix)):=f;rw[G];have c:=am (VT _ j) (.cells #[.int .i64 6,.string a.au,.slice b.aE a.ex.length b.cE,.slice b.aC a.cols.length b.cC,.slice b.aK a.keys.length b.cK,.slice b.aA a.aggs.length b.cA,.int .i64 a.fn,.int .i64 a.aj,.int .i64 a.n,.int .i64 a.off,.slice b.aP a.args.length b.cP] 28);have e:=H c;have n:=H (dL.new j a b);have k:=H (ey a.cols b.aC b.cC _ (by omega) V3 (m.c.aa c));have V7:=H (λ(D:World) (VX:Bw j D)=>qh a.aggs b.aA b.cA D (by omega) (m.a.aa VX));unfold Pl.box at n;rw[G] at n;clear f c m q;by_cases t:1<=a.cols.length+a.aggs.length
  ·(have J:(1:Int)<=(a.cols.length:Int)+(a.aggs.length:Int):=by omega);rw[decide_eq_true t,Bool.true_and] at d;generalize a.aggs.any ix=V1 at *;cases o:d6 a.cols;.rw[o] at d k;obtain rfl:i=false:=U d;clear o n;go_enter func110,ntmps110;go_wp2_with (go_at_call 165;refine(U k).mono ?_;rintro l s ⟨rfl,g⟩);go_ret;exact⟨rfl,ac (U e) g⟩
   .rw[o] at d k;obtain rfl:i=!V1:=U d;clear o;go_enter func110,ntmps110
    go_wp2_with (first
     | (go_at_call 165;refine(U k).mono ?_;rintro l s ⟨rfl,g⟩;have Wa:=((U n).aa g).c5;simp only[bI] at Wa)
     | (go_at_call 125;refine(U V7 _ (ac (U e) g)).mono ?_;rintro l y ⟨rfl,p⟩))
    go_ret;exact⟨rfl,ac (ac (U e) g) p⟩
  ·(have J:¬(1:Int)<=(a.cols.length:Int)+(a.aggs.length:Int):=by omega);(obtain rfl:i=false:=by rw[U d,decide_eq_false t];rfl);go_enter func110,ntmps110;go_wp2;go_ret;exact⟨rfl,U e⟩
 by_cases T:a.op=7;.rw[T] at f;obtain rfl:i=true:=f;rw[T];have c:=am (VT _ j) (.cells #[.int .i64 7,.string a.au,.slice b.aE a.ex.length b.cE,.slice b.aC a.cols.length b.cC,.slice b.aK a.keys.length b.cK,.slice b.aA a.aggs.length b.cA,.int .i64 a.fn,.int .i64 a.aj,.int .i64 a.n,.int .i64 a.off,.slice b.aP a.args.length b.cP] 28);have e:=H c;clear c m q;go_enter func110,ntmps110;go_wp2;go_ret;exact⟨rfl,U e⟩
 by_cases V:a.op=8;.rw[V] at f;obtain rfl:i=true:=f;rw[V];have c:=am (VT _ j) (.cells #[.int .i64 8,.string a.au,.slice b.aE a.ex.length b.cE,.slice b.aC a.cols.length b.cC,.slice b.aK a.keys.length b.cK,.slice b.aA a.aggs.length b.cA,.int .i64 a.fn,.int .i64 a.aj,.int .i64 a.n,.int .i64 a.off,.slice b.aP a.args.length b.cP] 28);have e:=H c;clear c m q;go_enter func110,ntmps110;go_wp2;go_ret;exact⟨rfl,U e⟩
 by_cases N:a.op=11;.rw[N] at f;obtain rfl:i=true:=f;rw[N];have c:=am (VT _ j) (.cells #[.int .i64 11,.string a.au,.slice b.aE a.ex.length b.cE,.slice b.aC a.cols.length b.cC,.slice b.aK a.keys.length b.cK,.slice b.aA a.aggs.length b.cA,.int .i64 a.fn,.int .i64 a.aj,.int .i64 a.n,.int .i64 a.off,.slice b.aP a.args.length b.cP] 28);have e:=H c;clear c m q;go_enter func110,ntmps110;go_wp2;go_ret;exact⟨rfl,U e⟩
 by_cases I:a.op=9
 .rw[I] at f;have d:Hid (i=(d6 (a.keys.map Prod.fst) && decide (0<=a.n) && decide (0<=a.off))):=f;rw[I];have c:=am (VT _ j) (.cells #[.int .i64 9,.string a.au,.slice b.aE a.ex.length b.cE,.slice b.aC a.cols.length b.cC,.slice b.aK a.keys.length b.cK,.slice b.aA a.aggs.length b.cA,.int .i64 a.fn,.int .i64 a.aj,.int .i64 a.n,.int .i64 a.off,.slice b.aP a.args.length b.cP] 28);have e:=H c;have n:=H (dL.new j a b);have z:=H (fO a.keys b.aK b.cK _ V2 (m.k.aa c));have A:Hid (∀K∈a.keys.map Prod.fst,bY K):=λK VY=>by obtain⟨V0,VZ,rfl⟩:=b6 VY;exact V4 V0 VZ
  have B:Hid ((a.keys.map Prod.fst).length<=140737488355328):=by show _<=_;rw[bQ];omega
  unfold Pl.box at n;rw[I] at n;clear f c m q;generalize a.keys.map Prod.fst=x at *;cases o:d6 x
  .rw[o] at d;obtain rfl:i=false:=U d;go_enter func110,ntmps110
   go_wp2_with (first
    | (go_at_call 118;refine(U z).mono ?_;rintro l s ⟨u,v,rfl,w,g⟩;have k:=H (ey x u v s (U B) (U A) w.ints);rw[o] at k)
    | (go_at_call 165;refine(U k).mono ?_;rintro l y ⟨rfl,p⟩))
   go_ret;exact⟨rfl,ac (ac (U e) g) p⟩
  .rw[o,Bool.true_and] at d;by_cases t:0<=a.n
   .rw[decide_eq_true t,Bool.true_and] at d;obtain rfl:=U d;go_enter func110,ntmps110
    go_wp2_with (first
     | (go_at_call 118;refine(U z).mono ?_;rintro l s ⟨u,v,rfl,w,g⟩;have k:=H (ey x u v s (U B) (U A) w.ints);rw[o] at k)
     | (go_at_call 165;refine(U k).mono ?_;rintro l y ⟨rfl,p⟩;have r:=(U n).aa (ac g p);have E:=r.c8;have VW:=r.c9;simp only[bI] at E VW;clear r))
    go_ret;exact⟨rfl,ac (ac (U e) g) p⟩
   .rw[decide_eq_false t] at d;obtain rfl:i=false:=U d;go_enter func110,ntmps110
    go_wp2_with (first
     | (go_at_call 118;refine(U z).mono ?_;rintro l s ⟨u,v,rfl,w,g⟩;have k:=H (ey x u v s (U B) (U A) w.ints);rw[o] at k)
     | (go_at_call 165;refine(U k).mono ?_;rintro l y ⟨rfl,p⟩;have r:=(U n).aa (ac g p);have E:=r.c8;have VW:=r.c9;simp only[bI] at E VW;clear r))
    go_ret;exact⟨rfl,ac (ac (U e) g) p⟩
 by_cases F:a.op=10
 .rw[F] at f;have d:Hid (i=(d6 a.cols && d6 (a.keys.map Prod.fst) && jB a.fn a.aj a.n)):=f;rw[F];have c:=am (VT _ j) (.cells #[.int .i64 10,.string a.au,.slice b.aE a.ex.length b.cE,.slice b.aC a.cols.length b.cC,.slice b.aK a.keys.length b.cK,.slice b.aA a.aggs.length b.cA,.int .i64 a.fn,.int .i64 a.aj,.int .i64 a.n,.int .i64 a.off,.slice b.aP a.args.length b.cP] 28);have e:=H c;have n:=H (dL.new j a b);have C:=H (ey a.cols b.aC b.cC _ (by omega) V3 (m.c.aa c));have z:=H (λ(D:World) (VX:Bw j D)=>fO a.keys b.aK b.cK D V2 (m.k.aa VX));have A:Hid (∀K∈a.keys.map Prod.fst,bY K):=λK VY=>by obtain⟨V0,VZ,rfl⟩:=b6 VY;exact V4 V0 VZ
  have B:Hid ((a.keys.map Prod.fst).length<=140737488355328):=by show _<=_;rw[bQ];omega
  have V9:=H (wm a.fn a.aj a.n);unfold Pl.box at n;rw[F] at n;clear f c m q;generalize a.keys.map Prod.fst=x at *;generalize jB a.fn a.aj a.n=V6 at *;cases o:d6 a.cols;.rw[o] at d C;obtain rfl:i=false:=U d;clear o;go_enter func110,ntmps110;go_wp2_with (go_at_call 165;refine(U C).mono ?_;rintro l s ⟨rfl,g⟩);go_ret;exact⟨rfl,ac (U e) g⟩
  .rw[o] at d C;clear o;(have L:Hid (i=(d6 x && V6)):=by have:=U d;show _=_;simpa using this);cases X:d6 x
   .rw[X] at L;obtain rfl:i=false:=U L;go_enter func110,ntmps110
    go_wp2_with (first
     | (go_at_call 118;refine(U z _ (ac (U e) g)).mono ?_;rintro l y ⟨u,v,rfl,w,p⟩;have k:=H (ey x u v y (U B) (U A) w.ints);rw[X] at k)
     | (go_at_call 165;refine(U k).mono ?_;rintro l Wt ⟨rfl,W⟩)
     | (go_at_call 165;refine(U C).mono ?_;rintro l s ⟨rfl,g⟩;have Z:=((U n).aa g).c4;simp only[bI] at Z))
    go_ret;exact⟨rfl,ac (ac (ac (U e) g) p) W⟩
   .rw[X] at L;obtain rfl:i=V6:=U L;go_enter func110,ntmps110
    go_wp2_with (first
     | (go_at_call 118;refine(U z _ (ac (U e) g)).mono ?_;rintro l y ⟨u,v,rfl,w,p⟩;have k:=H (ey x u v y (U B) (U A) w.ints);rw[X] at k)
     | (go_at_call 165;refine(U k).mono ?_;rintro l Wt ⟨rfl,W⟩;have r:=(U n).aa (ac (ac g p) W);have Wb:=r.c6;have Wc:=r.c7;have E:=r.c8;simp only[bI] at Wb Wc E;clear r)
     | (go_at_call 165;refine(U C).mono ?_;rintro l s ⟨rfl,g⟩;have Z:=((U n).aa g).c4;simp only[bI] at Z)
     | (go_at_call 167;refine(U V9 _).mono ?_;rintro l WC ⟨rfl,Wq⟩))
    go_ret;exact⟨rfl,ac (ac (ac (ac (U e) g) p) W) Wq⟩
 by_cases O:a.op=12;.rw[O] at f;have d:Hid (i=(decide (1<=a.cols.length) && decide (a.cols.length<=32) && !a.cols.any lF)):=f;rw[O];have c:=am (VT _ j) (.cells #[.int .i64 12,.string a.au,.slice b.aE a.ex.length b.cE,.slice b.aC a.cols.length b.cC,.slice b.aK a.keys.length b.cK,.slice b.aA a.aggs.length b.cA,.int .i64 a.fn,.int .i64 a.aj,.int .i64 a.n,.int .i64 a.off,.slice b.aP a.args.length b.cP] 28);have e:=H c;have k:=H (Vj a.cols lF 88 (λargs j=>by kernel_rfl) lj b.aC b.cC _ (by omega) (m.c.aa c));clear f c m q;generalize a.cols.any lF=V1 at *;by_cases t:1<=a.cols.length;(·(have J:(1:Int)<=(a.cols.length:Int):=by omega);rw[decide_eq_true t,Bool.true_and] at d;by_cases V5:a.cols.length<=32;(·(have Wr:(a.cols.length:Int)<=32:=by omega);rw[decide_eq_true V5,Bool.true_and] at d;obtain rfl:=U d;go_enter func110,ntmps110;go_wp2_with (go_at_call 66;refine(U k).mono ?_;rintro l s ⟨rfl,g⟩);go_ret;exact⟨rfl,ac (U e) g⟩);·(have Wr:¬(a.cols.length:Int)<=32:=by omega);rw[decide_eq_false V5] at d;obtain rfl:i=false:=U d;go_enter func110,ntmps110;go_wp2;go_ret;exact⟨rfl,U e⟩);·(have J:¬(1:Int)<=(a.cols.length:Int):=by omega);rw[decide_eq_false t] at d;obtain rfl:i=false:=U d;go_enter func110,ntmps110;go_wp2;go_ret;exact⟨rfl,U e⟩
 ·(have Wd:(a.op == 1)=false:=by simpa using M);(have Wh:(a.op == 2)=false:=by simpa using P);(have Wi:(a.op == 3)=false:=by simpa using Q);(have Wj:(a.op == 4)=false:=by simpa using R);(have Wk:(a.op == 5)=false:=by simpa using S);(have Wl:(a.op == 6)=false:=by simpa using G);(have Wm:(a.op == 7)=false:=by simpa using T);(have Wn:(a.op == 8)=false:=by simpa using V);(have Wp:(a.op == 9)=false:=by simpa using I);(have We:(a.op == 10)=false:=by simpa using F);(have Wf:(a.op == 11)=false:=by simpa using N);(have Wg:(a.op == 12)=false:=by simpa using O);(obtain rfl:i=false:=by rw[f,Wd,Wh,Wi,Wj,Wk,Wl,Wm,Wn,Wp,We,Wf,Wg];rfl);have e:=H (am (VT _ j) (a.box b));clear f m q M P Q R S G T V I F N O;go_enter func110,ntmps110;go_wp2;go_ret;exact⟨rfl,U e⟩
def k5(a b:Pl):Bool:=decide (a.au=b.au) && decide (a.ex.length=b.ex.length) && decide (a.cols.length=b.cols.length) && decide (a.keys.length=b.keys.length) && decide (a.aggs.length=b.aggs.length) && decide (a.fn=b.fn) && decide (a.aj=b.aj) && decide (a.n=b.n) && decide (a.off=b.off)
theorem jF(a:ByteArray):a.toList=a.data.toList:=Lib.toList_data a
theorem iE(a b:ByteArray):(a.toList == b.toList)=decide (a=b):=by rw[Bool.eq_iff_iff,beq_iff_eq,cF,jF,jF];exact⟨λh=>ByteArray.ext (Array.toList_inj.1 h),λh=>by rw[h]⟩
theorem pH(i:Pl)(V:Pm)(W:World):Calls prog 111 #[i.val V] W λL V5=>L=.returned (.bool (k5 i (qz i)))/\Bw W V5:=by
 have n:=H (λZ=>vX i V Z);obtain⟨N,X⟩:=bn (k5 i (qz i));rw[<-X];have Y:=am (VT _ W) (i.box V);have l:=H Y;have m:=H (dL.new W i V);have k:=H (dL.new W i V).load;unfold Pl.box at l m k;generalize qz i=a at *;generalize vY i V=d at *;unfold k5 at X;have M:=H X;rw[Pl.ad] at n k;rw[Pl.ad];clear X Y;by_cases G:i.au=a.au
 case neg=>
  have VW:(i.au.toList == a.au.toList)=false:=by rw[iE];exact decide_eq_false G
  obtain rfl:N=false:=by rw[U M];simp[G]
  clear G;go_enter func111,ntmps111
  go_upto_region 2 with (first
   | (refine a1 ?_ 28 (.tmp 1) rfl _ (by simp[Act.eval]) _ (U k) ?_;. simp[Region.wanted,yielded])
   | (go_at_call 168;refine(U n _).mono ?_;rintro L g ⟨rfl,f⟩;rw[Pl.ad]))
  have e:=H (am (ac (U l) f) (a.box d));have c:=H (dL.new g a d);have b:=H (((U m).aa f).aa (am (VT _ g) (a.box d)));unfold Pl.box at e c b;clear f l m k n;obtain⟨Q,j⟩:=bn (g.alloc (a.box d));rw[<-j] at e c b ⊢;clear j;simp only[List.append_eq,eL,dK];obtain⟨-,o,p,q,r,s,t,u,v,w,-⟩:=U b;obtain⟨-,x,y,z,A,B,C,D,E,F,-⟩:=U c;simp only[bI] at o p q r s t u v w x y z A B C D E F;clear b c;go_wp2;go_ret;exact⟨rfl,U e⟩
 have VW:(i.au.toList == a.au.toList)=true:=by rw[iE];exact decide_eq_true G
 by_cases I:i.ex.length=a.ex.length
 case neg=>
  have VX:((i.ex.length:Int) == (a.ex.length:Int))=false:=by rw[eu];simpa using I
  obtain rfl:N=false:=by rw[U M];simp[I]
  clear I G;go_enter func111,ntmps111
  go_upto_region 2 with (first
   | (refine a1 ?_ 28 (.tmp 1) rfl _ (by simp[Act.eval]) _ (U k) ?_;. simp[Region.wanted,yielded])
   | (go_at_call 168;refine(U n _).mono ?_;rintro L g ⟨rfl,f⟩;rw[Pl.ad]))
  have e:=H (am (ac (U l) f) (a.box d));have c:=H (dL.new g a d);have b:=H (((U m).aa f).aa (am (VT _ g) (a.box d)));unfold Pl.box at e c b;clear f l m k n;obtain⟨Q,j⟩:=bn (g.alloc (a.box d));rw[<-j] at e c b ⊢;clear j;simp only[List.append_eq,eL,dK];obtain⟨-,o,p,q,r,s,t,u,v,w,-⟩:=U b;obtain⟨-,x,y,z,A,B,C,D,E,F,-⟩:=U c;simp only[bI] at o p q r s t u v w x y z A B C D E F;clear b c;go_wp2;go_ret;exact⟨rfl,U e⟩
 have VX:((i.ex.length:Int) == (a.ex.length:Int))=true:=by rw[eu];rw[I];simp
 by_cases J:i.cols.length=a.cols.length
 case neg=>
  have VY:((i.cols.length:Int) == (a.cols.length:Int))=false:=by rw[eu];simpa using J
  obtain rfl:N=false:=by rw[U M];simp[J]
  clear J G I;go_enter func111,ntmps111
  go_upto_region 2 with (first
   | (refine a1 ?_ 28 (.tmp 1) rfl _ (by simp[Act.eval]) _ (U k) ?_;. simp[Region.wanted,yielded])
   | (go_at_call 168;refine(U n _).mono ?_;rintro L g ⟨rfl,f⟩;rw[Pl.ad]))
  have e:=H (am (ac (U l) f) (a.box d));have c:=H (dL.new g a d);have b:=H (((U m).aa f).aa (am (VT _ g) (a.box d)));unfold Pl.box at e c b;clear f l m k n;obtain⟨Q,j⟩:=bn (g.alloc (a.box d));rw[<-j] at e c b ⊢;clear j;simp only[List.append_eq,eL,dK];obtain⟨-,o,p,q,r,s,t,u,v,w,-⟩:=U b;obtain⟨-,x,y,z,A,B,C,D,E,F,-⟩:=U c;simp only[bI] at o p q r s t u v w x y z A B C D E F;clear b c;go_wp2;go_ret;exact⟨rfl,U e⟩
 have VY:((i.cols.length:Int) == (a.cols.length:Int))=true:=by rw[eu];rw[J];simp
 by_cases K:i.keys.length=a.keys.length
 case neg=>
  have VZ:((i.keys.length:Int) == (a.keys.length:Int))=false:=by rw[eu];simpa using K
  obtain rfl:N=false:=by rw[U M];simp[K]
  clear K G I J;go_enter func111,ntmps111
  go_upto_region 2 with (first
   | (refine a1 ?_ 28 (.tmp 1) rfl _ (by simp[Act.eval]) _ (U k) ?_;. simp[Region.wanted,yielded])
   | (go_at_call 168;refine(U n _).mono ?_;rintro L g ⟨rfl,f⟩;rw[Pl.ad]))
  have e:=H (am (ac (U l) f) (a.box d));have c:=H (dL.new g a d);have b:=H (((U m).aa f).aa (am (VT _ g) (a.box d)));unfold Pl.box at e c b;clear f l m k n;obtain⟨Q,j⟩:=bn (g.alloc (a.box d));rw[<-j] at e c b ⊢;clear j;simp only[List.append_eq,eL,dK];obtain⟨-,o,p,q,r,s,t,u,v,w,-⟩:=U b;obtain⟨-,x,y,z,A,B,C,D,E,F,-⟩:=U c;simp only[bI] at o p q r s t u v w x y z A B C D E F;clear b c;go_wp2;go_ret;exact⟨rfl,U e⟩
 have VZ:((i.keys.length:Int) == (a.keys.length:Int))=true:=by rw[eu];rw[K];simp
 by_cases O:i.aggs.length=a.aggs.length
 case neg=>
  have V0:((i.aggs.length:Int) == (a.aggs.length:Int))=false:=by rw[eu];simpa using O
  obtain rfl:N=false:=by rw[U M];simp[O]
  clear O G I J K;go_enter func111,ntmps111
  go_upto_region 2 with (first
   | (refine a1 ?_ 28 (.tmp 1) rfl _ (by simp[Act.eval]) _ (U k) ?_;. simp[Region.wanted,yielded])
   | (go_at_call 168;refine(U n _).mono ?_;rintro L g ⟨rfl,f⟩;rw[Pl.ad]))
  have e:=H (am (ac (U l) f) (a.box d));have c:=H (dL.new g a d);have b:=H (((U m).aa f).aa (am (VT _ g) (a.box d)));unfold Pl.box at e c b;clear f l m k n;obtain⟨Q,j⟩:=bn (g.alloc (a.box d));rw[<-j] at e c b ⊢;clear j;simp only[List.append_eq,eL,dK];obtain⟨-,o,p,q,r,s,t,u,v,w,-⟩:=U b;obtain⟨-,x,y,z,A,B,C,D,E,F,-⟩:=U c;simp only[bI] at o p q r s t u v w x y z A B C D E F;clear b c;go_wp2;go_ret;exact⟨rfl,U e⟩
 have V0:((i.aggs.length:Int) == (a.aggs.length:Int))=true:=by rw[eu];rw[O];simp
 by_cases P:i.fn=a.fn
 case neg=>
  have V1:(i.fn == a.fn)=false:=by simpa using P
  obtain rfl:N=false:=by rw[U M];simp[P]
  clear P G I J K O;go_enter func111,ntmps111
  go_upto_region 2 with (first
   | (refine a1 ?_ 28 (.tmp 1) rfl _ (by simp[Act.eval]) _ (U k) ?_;. simp[Region.wanted,yielded])
   | (go_at_call 168;refine(U n _).mono ?_;rintro L g ⟨rfl,f⟩;rw[Pl.ad]))
  have e:=H (am (ac (U l) f) (a.box d));have c:=H (dL.new g a d);have b:=H (((U m).aa f).aa (am (VT _ g) (a.box d)));unfold Pl.box at e c b;clear f l m k n;obtain⟨Q,j⟩:=bn (g.alloc (a.box d));rw[<-j] at e c b ⊢;clear j;simp only[List.append_eq,eL,dK];obtain⟨-,o,p,q,r,s,t,u,v,w,-⟩:=U b;obtain⟨-,x,y,z,A,B,C,D,E,F,-⟩:=U c;simp only[bI] at o p q r s t u v w x y z A B C D E F;clear b c;go_wp2;go_ret;exact⟨rfl,U e⟩
 have V1:(i.fn == a.fn)=true:=by rw[P];simp
 by_cases R:i.aj=a.aj
 case neg=>
  have V2:(i.aj == a.aj)=false:=by simpa using R
  obtain rfl:N=false:=by rw[U M];simp[R]
  clear R G I J K O P;go_enter func111,ntmps111
  go_upto_region 2 with (first
   | (refine a1 ?_ 28 (.tmp 1) rfl _ (by simp[Act.eval]) _ (U k) ?_;. simp[Region.wanted,yielded])
   | (go_at_call 168;refine(U n _).mono ?_;rintro L g ⟨rfl,f⟩;rw[Pl.ad]))
  have e:=H (am (ac (U l) f) (a.box d));have c:=H (dL.new g a d);have b:=H (((U m).aa f).aa (am (VT _ g) (a.box d)));unfold Pl.box at e c b;clear f l m k n;obtain⟨Q,j⟩:=bn (g.alloc (a.box d));rw[<-j] at e c b ⊢;clear j;simp only[List.append_eq,eL,dK];obtain⟨-,o,p,q,r,s,t,u,v,w,-⟩:=U b;obtain⟨-,x,y,z,A,B,C,D,E,F,-⟩:=U c;simp only[bI] at o p q r s t u v w x y z A B C D E F;clear b c;go_wp2;go_ret;exact⟨rfl,U e⟩
 have V2:(i.aj == a.aj)=true:=by rw[R];simp
 by_cases S:i.n=a.n
 case neg=>
  have V3:(i.n == a.n)=false:=by simpa using S
  obtain rfl:N=false:=by rw[U M];simp[S]
  clear S G I J K O P R;go_enter func111,ntmps111
  go_upto_region 2 with (first
   | (refine a1 ?_ 28 (.tmp 1) rfl _ (by simp[Act.eval]) _ (U k) ?_;. simp[Region.wanted,yielded])
   | (go_at_call 168;refine(U n _).mono ?_;rintro L g ⟨rfl,f⟩;rw[Pl.ad]))
  have e:=H (am (ac (U l) f) (a.box d));have c:=H (dL.new g a d);have b:=H (((U m).aa f).aa (am (VT _ g) (a.box d)));unfold Pl.box at e c b;clear f l m k n;obtain⟨Q,j⟩:=bn (g.alloc (a.box d));rw[<-j] at e c b ⊢;clear j;simp only[List.append_eq,eL,dK];obtain⟨-,o,p,q,r,s,t,u,v,w,-⟩:=U b;obtain⟨-,x,y,z,A,B,C,D,E,F,-⟩:=U c;simp only[bI] at o p q r s t u v w x y z A B C D E F;clear b c;go_wp2;go_ret;exact⟨rfl,U e⟩
 have V3:(i.n == a.n)=true:=by rw[S];simp
 by_cases T:i.off=a.off
 case neg=>
  have V4:(i.off == a.off)=false:=by simpa using T
  obtain rfl:N=false:=by rw[U M];simp[T]
  clear T G I J K O P R S;go_enter func111,ntmps111
  go_upto_region 2 with (first
   | (refine a1 ?_ 28 (.tmp 1) rfl _ (by simp[Act.eval]) _ (U k) ?_;. simp[Region.wanted,yielded])
   | (go_at_call 168;refine(U n _).mono ?_;rintro L g ⟨rfl,f⟩;rw[Pl.ad]))
  have e:=H (am (ac (U l) f) (a.box d));have c:=H (dL.new g a d);have b:=H (((U m).aa f).aa (am (VT _ g) (a.box d)));unfold Pl.box at e c b;clear f l m k n;obtain⟨Q,j⟩:=bn (g.alloc (a.box d));rw[<-j] at e c b ⊢;clear j;simp only[List.append_eq,eL,dK];obtain⟨-,o,p,q,r,s,t,u,v,w,-⟩:=U b;obtain⟨-,x,y,z,A,B,C,D,E,F,-⟩:=U c;simp only[bI] at o p q r s t u v w x y z A B C D E F;clear b c;go_wp2;go_ret;exact⟨rfl,U e⟩
 have V4:(i.off == a.off)=true:=by rw[T];simp
 obtain rfl:N=true:=by rw[U M];simp[G,I,J,K,O,P,R,S,T]
 clear G I J K O P R S T;go_enter func111,ntmps111
 go_upto_region 2 with (first
  | (refine a1 ?_ 28 (.tmp 1) rfl _ (by simp[Act.eval]) _ (U k) ?_;. simp[Region.wanted,yielded])
  | (go_at_call 168;refine(U n _).mono ?_;rintro L g ⟨rfl,f⟩;rw[Pl.ad]))
 have e:=H (am (ac (U l) f) (a.box d));have c:=H (dL.new g a d);have b:=H (((U m).aa f).aa (am (VT _ g) (a.box d)));unfold Pl.box at e c b;clear f l m k n;obtain⟨Q,j⟩:=bn (g.alloc (a.box d));rw[<-j] at e c b ⊢;clear j;simp only[List.append_eq,eL,dK];obtain⟨-,o,p,q,r,s,t,u,v,w,-⟩:=U b;obtain⟨-,x,y,z,A,B,C,D,E,F,-⟩:=U c;simp only[bI] at o p q r s t u v w x y z A B C D E F;clear b c;go_wp2;go_ret;exact⟨rfl,U e⟩
end Go.Proofs.YtklgoolblpmmlaaGreat
