import Derived.Test.YtabmgpillccfaaaGreatDoorPlD
import Derived.Test.YtabmgpillccfaaaGreatDoorKnB
import Derived.Test.YtabmgpillccfaaaGreatDoorPcS
set_option linter.all false
set_option maxHeartbeats 2000000
set_option maxRecDepth 100000
namespace Go.Proofs.YtabmgpillccfaaaGreatDoor
open Go.RowKit Go.Sort Go.Proofs.Tryz
theorem jV(b:Int)(a:World):Calls prog 181 #[.int .i64 b] a λc d=>c=.returned (.bool (decide (b<0)))/\Bw a d:=by go_enter func181,ntmps181;go_wp2;go_ret;exact⟨rfl,aN⟩
def hg(a:Int):Bool:=a != 1 && a != 2
theorem lZ(a:Int)(b:World):Calls prog 156 #[.int .i64 a] b λd e=>d=.returned (.bool (hg a))/\Bw b e:=by
 unfold hg;by_cases h:a=1;.subst h;go_enter func156,ntmps156;go_wp2;go_ret;exact⟨rfl,aN⟩
 ·(have c:(a != 1)=true:=by simpa using h);go_enter func156,ntmps156;go_wp2;go_ret;exact⟨by simp[c],aN⟩
variable{w:World}{m n:Nat}{I:Int}{a:Option Addr}{C:List Int}
theorem q5(h:w.cell? ⟨n,m,none⟩=some (.int .i64 I)):(Instr.loadAt 3 (.pointer (some ⟨n,m,none⟩))).run prog w=.ok (.int .i64 I) w:=by go_simp
theorem s8(h:bC w a C):sI w a (C.map λb=>.int .i64 b):=by
 rcases h with h|⟨d,j,f,h⟩;.exact .inl (by rw[h];rfl)
 .refine .inr ⟨d,j,f,λi l c k e=>?_⟩;rw[b8] at c;obtain⟨b,g,rfl⟩:=Option.map_eq_some_iff.1 c;exact q5 (aG (h i b g) e)
theorem hW(d:List Int)(p:Int->Bool)(b:Nat)(m:∀args a,(callFunc b args).run prog a=.ok (.enter b args) a)(q:∀c e,Calls prog b #[.int .i64 c] e λi j=>i=.returned (.bool (p c))/\Bw e j)(g:Option Addr)(k:Nat)(a:World)(o:d.length<=140737488355328)(n:bC a g d):Calls prog 155 #[.slice g d.length k,.func (.func b) #[] #[]] a λi j=>i=.returned (.bool (d.any p))/\Bw a j:=by have h:=pE (d.map λc=>.int .i64 c) (d.map p) (by simp) g k (.func (.func b) #[] #[]) a (by simpa using o) (s8 n) ⟨b,#[],rfl,m,λt u s e l f _=>by rw[b8] at l f;obtain⟨c,r,rfl⟩:=Option.map_eq_some_iff.1 l;rw[r] at f;injection f with f;subst f;exact q c e⟩;rw[VP,List.any_map] at h;exact h
def cD(a:List Int):Bool:=!a.any (λb=>decide (b<0)) && decide a.Nodup
theorem dE(a:List Int)(e:Option Addr)(k:Nat)(b:World)(n:a.length<=140737488355328)(l:∀c∈a,b2 c)(f:bC b e a):Calls prog 150 #[.slice e a.length k] b λj r=>j=.returned (.bool (cD a))/\Bw b r:=by
 have d:=VV (hW a (λc=>decide (c<0)) 181 (λargs b=>by kernel_rfl) jV e k b n f);have o:=VV (λ(m:World) (p:Bw b m)=>lq a e k m n l (f.aa p));unfold cD;generalize decide a.Nodup=t at *;cases i:a.any (λc=>decide (c<0))
 .rw[i] at d;clear i f l;go_enter func150,ntmps150
  go_wp2_with (first
   | (go_at_call 155;refine(U d).mono ?_;rintro j s ⟨rfl,g⟩)
   | (go_at_call 182;refine(U o _ g).mono ?_;rintro j u ⟨rfl,q⟩))
  go_ret;exact⟨rfl,ac g q⟩
 .rw[i] at d;clear i f l;go_enter func150,ntmps150;go_wp2_with (go_at_call 155;refine(U d).mono ?_;rintro j s ⟨rfl,g⟩);go_ret;exact⟨rfl,g⟩
def cT(a:Int×Int):Bool:=decide (a.1<1) || decide (6<a.1) || decide (a.2<0) || (a.1 == 1 && a.2 != 0)
theorem pi(b c:Int)(i:World):Calls prog 152 #[.agg #[.int .i64 b,.int .i64 c]] i λo p=>o=.returned (.bool (cT (b,c)))/\Bw i p:=by
 have d:=VV (ae (ar _ i) (.cells #[.int .i64 b,.int .i64 c] 78));obtain⟨f,g⟩:=al (cT (b,c));rw[<-g];unfold cT at g;have e:=VV g;clear g;by_cases k:b<1;·(have a:Hid (f=true):=by rw[U e];show _=_;simp[k]);go_enter func152,ntmps152;go_wp2;go_ret;exact⟨by rw[U a];rfl,U d⟩
 by_cases l:6<b;·(have a:Hid (f=true):=by rw[U e];show _=_;simp[l]);go_enter func152,ntmps152;go_wp2;go_ret;exact⟨by rw[U a];rfl,U d⟩
 by_cases j:c<0;·(have a:Hid (f=true):=by rw[U e];show _=_;simp[j]);go_enter func152,ntmps152;go_wp2;go_ret;exact⟨by rw[U a];rfl,U d⟩
 by_cases m:b=1;.subst m;(have a:Hid (f=(c != 0)):=by rw[U e];show _=_;simp[j]);go_enter func152,ntmps152;go_wp2;go_ret;exact⟨by rw[U a];rfl,U d⟩
 ·(have n:(b == 1)=false:=by simpa using m);(have a:Hid (f=false):=by rw[U e,n];show _=_;simp[k,l,j]);go_enter func152,ntmps152;go_wp2;go_ret;exact⟨by rw[U a];rfl,U d⟩
def gX(a b c:Int):Bool:=if a == 1 || a == 2 || a == 3 then b == 0 && c == 0 else if a == 4 || a == 5 then decide (0<=b) else if a == 6 then decide (0<=b) && decide (0<=c) else false
theorem py(a b c:Int)(i:World):Calls prog 154 #[.int .i64 a,.int .i64 b,.int .i64 c] i λq r=>q=.returned (.bool (gX a b c))/\Bw i r:=by
 by_cases e:a=1∨a=2∨a=3;·(have d:gX a b c=(b == 0 && c == 0):=by rcases e with rfl|rfl|rfl<;>rfl);rw[d];cases f:(b == 0);(.have s:(b == 0)=false:=f;rcases e with rfl|rfl|rfl;all_goals go_enter func154,ntmps154;go_wp2;go_ret;exact⟨rfl,aN⟩);.rcases e with rfl|rfl|rfl;all_goals go_enter func154,ntmps154;go_wp2;go_ret;exact⟨rfl,aN⟩
 by_cases g:a=4∨a=5;·(have d:gX a b c=decide (0<=b):=by rcases g with rfl|rfl<;>rfl);rw[d];rcases g with rfl|rfl;all_goals go_enter func154,ntmps154;go_wp2;go_ret;exact⟨rfl,aN⟩
 by_cases j:a=6;.subst j;have d:gX 6 b c=(decide (0<=b) && decide (0<=c)):=rfl;rw[d];by_cases f:0<=b;(.go_enter func154,ntmps154;go_wp2;go_ret;exact⟨by simp[f],aN⟩);.go_enter func154,ntmps154;go_wp2;go_ret;exact⟨by have:decide (0<=b)=false:=(by simpa using f);rw[this];rfl,aN⟩
 ·(have k:(a == 1)=false:=by simp;omega);(have l:(a == 2)=false:=by simp;omega);(have m:(a == 3)=false:=by simp;omega);(have n:(a == 4)=false:=by simp;omega);(have o:(a == 5)=false:=by simp;omega);(have p:(a == 6)=false:=by simp;omega);(have d:gX a b c=false:=by unfold gX;rw[k,l,m,n,o,p];rfl);rw[d];clear e g j;go_enter func154,ntmps154;go_wp2;go_ret;exact⟨rfl,aN⟩
theorem h6{v:Array Oper}{rest:List Oper}{i:Oper}{f:Act}{m:Exit->Act->World->Prop}(b:World)(o:i.guard=none)(j l:Operand)(q:i.op=.call { callee:=.builtin .append,args:=#[j,l],argTypes:=#[23,23] }) (base x:Nat) (d w:Value) (c a:List Int) (s:f.eval j=d) (g:et b base d c) (t:f.eval l=w) (r:et b x w a) (I:c.length+a.length<=4000000) (n:base<=b.heap.size) (h:∀k e,et e base k (c++a)->Below base b e->wpList prog v m rest (f.put i.dst k) e):wpList prog v m (i::rest) f b:=by
 obtain⟨u,p,D,E,F⟩:=info_parts sT;rcases r.2 with ⟨rfl,A⟩|⟨z,y,G,rfl,_⟩
 .have:a=[]:=eV A;subst this;exact wpList_append_own_none o j l 23 q base 3 u 1 underlying23 p d c.length _ s g t (h d b (by rw[d7];exact g) aN)
 .refine wpList_append_own_at b o j l 23 q base 3 u (.int .i64 0) 1 8 underlying23 p D E F rfl (by decide) d c.length (c.map (.int .i64)) s g ⟨z,0,none⟩ a.length y (a.map (.int .i64)) t (by simp) (World.ownsRow.cells r rfl) (qF a) (by unfold maxLen;omega) (by omega) n ?_;intro k e B C _ _;refine h k e ?_ (iD C n (sj g));unfold et;rw[bj,bX];exact B
def s2(a:List Int)(b:World)(f:Ending)(e:World):Prop:=∃c d,f=.returned (.slice c a.length d)/\et e b.heap.size (.slice c a.length d) a/\Bw b e
theorem VH{α e:Type}(a:α->e){b:List α}{c:α}(h:b[n]?=some c):(b.take (n+1)).map a=(b.take n).map a++[a c]:=by obtain⟨d,rfl⟩:=b6 h;rw[List.take_succ_eq_append_getElem d,bX];rfl
theorem iC(b:List (Int×Bool))(s:Option Addr)(C:Nat)(d:World)(N:b.length<=1048576)(t:cL d s b):Calls prog 81 #[.slice s b.length C] d (s2 (b.map Prod.fst) d):=by
 have A:=VV t;clear t;go_enter func81,ntmps81;go_wp2_with fail;go_loopw[3,8] (λL o wr=>∃(a:Nat) (f:Option Addr) (g:Nat),a<=b.length/\o=.int .i64 (a:Int)/\L=.slice f a g/\Hid (et wr d.heap.size (.slice f a g) ((b.take a).map Prod.fst))/\Hid (Bw d wr)) (λ_ o _=>b.length-(intOf o).toNat);case atStart=>exact⟨0,none,0,bf,rfl,rfl,rA _ _,aN⟩
 case round=>obtain⟨a,f,g,K,rfl,rfl,k,e⟩:=hrel;by_cases w:a<b.length;(·(have I:(a:Int)<(b.length:Int):=by omega);obtain⟨c,n⟩:∃c,b[a]?=some c:=⟨_,ba w⟩;obtain⟨M,O,rfl,E,F⟩:=((U A).aa (U e)).get n;have r:=VV (VH Prod.fst n);(have v:((b.take a).map Prod.fst).length=a:=by simp;omega);have p:=VV v;have u:=ae (ar _ wr) (.cells #[.int .i64 c.1,.bool c.2] 82);have m:=ae u (.cells #[.int .i64 c.1] 3);have q:=VV ((U k).aa m);have l:=VV (nb (wr.alloc (.cells #[.int .i64 c.1,.bool c.2] 82)) d.heap.size (by have:=(U e).size;simp;omega) c.1);have j:=VV (ac (U e) m);(have x:(wr.alloc (.cells #[.int .i64 c.1,.bool c.2] 82)).heap.size=wr.heap.size+1:=by simp[go_sem]);rw[x] at l;clear x;obtain⟨y,R⟩:=c;simp only at E F r q l j;generalize (b.take a).map Prod.fst=z at *;clear n u m v;go_wp2_with (at_builtin;go_loud (refine h6 _ rfl (.tmp 12) (.tmp 15) rfl d.heap.size d.heap.size _ _ z [y] rfl (U q) rfl (U l) (by rw[U p];simp;omega) (U j).size ?_);intro P Q i J);obtain⟨B,D,rfl⟩:=i.slice;(have G:(z++[y]).length=a+1:=by rw[bj,U p];rfl);rw[G] at i ⊢;rw[<-U r] at i;exact⟨⟨a+1,B,D,by omega,by go_num,rfl,i,(U j).trans J⟩,by simp[intOf];omega⟩);·(have I:¬(a:Int)<(b.length:Int):=by omega);(obtain rfl:a=b.length:=by omega);rw[gJ] at k;clear K w;go_wp2;go_ret;refine⟨f,g,by rw[VP];rfl,?_,U e⟩;rw[VP];exact U k
theorem pp{base:Nat}(h:w.ownsRow base 3 1 (.slice (some ⟨n,0,none⟩) m m) m (madeCells (Value.cells (.int .i64 0)) (m*1)).toList):et w base (.slice (some ⟨n,0,none⟩) m m) (List.replicate m 0):=by
 have a:(madeCells (Value.cells (.int .i64 0)) (m*1)).toList=List.replicate m (Value.int .i64 0):=by rw[Nat.mul_one];exact toList_madeCells_one _ _
 rw[a] at h;unfold et;rw[List.length_replicate,List.map_replicate];exact h
theorem oI(c:List Int)(b a:Nat)(f:c.length=a)(i:a<b)(e:Int):(c++List.replicate (b-a) 0).set a e=(c++[e])++List.replicate (b-(a+1)) 0:=by obtain⟨d,g⟩:∃d,b-a=d+1:=⟨b-a-1,by omega⟩;rw[g,show b-(a+1)=d by omega,<-f];exact qb c d e
theorem ra(c:List Int)(b a:Nat)(e:c.length=a)(g:a<b):(c++List.replicate (b-a) (0:Int))[a]?=some 0/\b=(c++List.replicate (b-a) (0:Int)).length:=by refine⟨?_,by rw[bj,List.length_replicate];omega⟩;obtain⟨d,f⟩:∃d,b-a=d+1:=⟨b-a-1,by omega⟩;rw[gn (by omega),e,Nat.sub_self,f];rfl
theorem ha(a:List (Int×Bool))(v:Option Addr)(F:Nat)(c:World)(R:a.length<=1048576)(x:cL c v a):Calls prog 153 #[.slice v a.length F] c (s2 (a.map Prod.fst) c):=by
 have E:=VV x;obtain⟨M,z,B,C,D⟩:=info_parts ss;clear x;go_enter func153,ntmps153;go_upto_region 2 with (at_make;refine wpList_make_full _ rfl (.tmp 7) (.tmp 7) 23 rfl c.heap.size 3 M (.int .i64 0) 1 underlying23 z B C .i64 .i64 _ _ a.length rfl rfl rfl rfl (by rw[D];omega) (by unfold maxLen;omega) aV ?_;intro T w y);have q:=VV (iD y aV (λQ K=>by cases K));have s:=VV (pp w);clear w y B C D z;go_wp2_with fail;go_loopw[11] (λn wr=>∃(b:Nat),b<=a.length/\n=.int .i64 (b:Int)/\Hid (et wr c.heap.size (.slice (some ⟨c.heap.size,0,none⟩) a.length a.length) ((a.take b).map Prod.fst++List.replicate (a.length-b) 0))/\Hid (Bw c wr)) (λn _=>a.length-(intOf n).toNat);case atStart=>exact⟨0,bf,rfl,U s,U q⟩
 case round=>clear s q;obtain⟨b,L,rfl,e,g⟩:=hrel;by_cases f:b<a.length;(·(have J:(b:Int)<(a.length:Int):=by omega);obtain⟨d,m⟩:∃d,a[b]?=some d:=⟨_,ba f⟩;obtain⟨P,S,rfl,G,I⟩:=((U E).aa (U g)).get m;have u:=VV (VH Prod.fst m);(have l:((a.take b).map Prod.fst).length=b:=by simp;omega);have k:=ae (ar _ wr) (.cells #[.int .i64 d.1,.bool d.2] 82);have i:=(U e).aa k;obtain⟨A,o⟩:=ra _ a.length b l f;obtain⟨N,O⟩:=i.at o A;have j:=i.store (k:=b) o d.1;rw[oI _ _ _ l f,<-U u] at j;have t:=VV j;have r:=VV ((ac (U g) k).setCell (p:=⟨c.heap.size,b,none⟩) aV (.int .i64 d.1));obtain⟨V,W⟩:=d;simp only at G I N O t r;clear m k l i j A o e u;go_wp2;exact⟨⟨b+1,by omega,by go_num,U t,U r⟩,by simp[intOf];omega⟩);·(have J:¬(b:Int)<(a.length:Int):=by omega);(obtain rfl:b=a.length:=by omega);rw[gJ,Nat.sub_self,List.replicate_zero,d7] at e;clear L f;go_wp2;go_ret;refine⟨_,_,by rw[VP];rfl,?_,U g⟩;rw[VP];exact U e
theorem cw(b:List Int)(n:Option Addr)(s:Nat)(g:World)(C:b.length<=140737488355328)(o:bC g n b):Calls prog 78 #[.slice n b.length s] g λw x=>w=.returned (.bool (b.any λa=>decide (a<0)))/\Bw g x:=by
 have q:=VV o;obtain⟨m,j⟩:=al (b.any λa=>decide (a<0));rw[<-j];have l:=VV j;clear o j;go_enter func78,ntmps78;go_wp2_with fail;go_loopw[7] (λk wr=>∃(c:Nat),c<=b.length/\k=.int .i64 (c:Int)/\Hid (∀a∈b.take c,¬a<0)/\wr=g) (λk _=>b.length-(intOf k).toNat);case atStart=>exact⟨0,bf,rfl,λa d=>by simp at d,rfl⟩
 case round=>
  obtain⟨c,B,rfl,f,rfl⟩:=hrel;by_cases v:c<b.length
  ·(have u:(c:Int)<(b.length:Int):=by omega);obtain⟨a,d⟩:∃a,b[c]?=some a:=⟨_,ba v⟩;obtain⟨z,D,rfl,A⟩:=(U q).getP d;by_cases p:a<0;·(have i:Hid (m=true):=by rw[U l];exact List.any_eq_true.2 ⟨a,a8 d,by simpa using p⟩);clear d f;go_wp2;go_ret;exact⟨by rw[U i];rfl,aN⟩
   .have r:Hid (∀a∈b.take (c+1),¬a<0):=λy e=>by
     obtain⟨t,rfl⟩:=b6 d
     rw[List.take_succ_eq_append_getElem t,List.mem_append] at e
     rcases e with e|e
     .exact U f y e
     .simp at e;subst e;exact p
    clear d f
    go_wp2
    exact⟨⟨c+1,by omega,by go_num,U r,trivial⟩,by simp[intOf];omega⟩
  ·(have u:¬(c:Int)<(b.length:Int):=by omega);(have i:Hid (m=false):=by have h:=U f;rw[h3 (by omega)] at h;rw[U l];exact List.any_eq_false.2 λa d=>by simpa using h a d);clear f;go_wp2;go_ret;exact⟨by rw[U i];rfl,aN⟩
theorem nk(h:C[n]?=some I)(d:(C.take n).Nodup):(I ∉ C.take n->(C.take (n+1)).Nodup)/\(I∈C.take n->¬C.Nodup):=by
 obtain⟨b,c⟩:=jk h d;unfold g2 at b c;refine⟨λa=>b ?_,λa=>c ?_⟩;.rw[List.count_eq_zero.2 a];rfl
 .have:=List.count_pos_iff.2 a;omega
theorem bw(a:List Int)(w:Option Addr)(q:Nat)(l:World)(T:a.length<=140737488355328)(P:a.length<=q)(y:bC l w a):Calls prog 79 #[.slice w a.length q] l λG I=>G=.returned (.bool (decide a.Nodup))/\Bw l I:=by
 have t:=VV y;obtain⟨v,r⟩:=al (decide a.Nodup);rw[<-r];have u:=VV r;clear y r;go_enter func79,ntmps79;go_wp2_with fail;go_loopw[9] (λg wr=>∃(b:Nat),b<=a.length/\g=.int .i64 (b:Int)/\Hid ((a.take b).Nodup)/\wr=l) (λg _=>a.length-(intOf g).toNat);case atStart=>exact⟨0,bf,rfl,by show (a.take 0).Nodup;simp,rfl⟩
 case round=>obtain⟨b,R,rfl,m,rfl⟩:=hrel;by_cases F:b<a.length;(·(have D:(b:Int)<(a.length:Int):=by omega);obtain⟨d,j⟩:∃d,a[b]?=some d:=⟨_,ba F⟩;obtain⟨L,W,rfl,N⟩:=(U t).getP j;have o:=VV (nk j (U m));(have S:(b:Int)<=(q:Int):=by omega);clear j m;go_wp2_with fail;go_loopw[18] (λg J=>∃(c:Nat),c<=b/\g=.int .i64 (c:Int)/\Hid (∀e∈a.take c,¬d=e)/\J=wr) (λg _=>b-(intOf g).toNat);(case atStart=>exact⟨0,bf,rfl,λd j=>by simp at j,rfl⟩);case round=>obtain⟨c,Q,rfl,i,rfl⟩:=hrel;by_cases E:c<b;(·(have C:(c:Int)<(b:Int):=by omega);obtain⟨e,k⟩:∃e,a[c]?=some e:=⟨_,ba (by omega)⟩;obtain⟨M,X,x,O⟩:=(U t).getP k;simp only[Option.some.injEq,Addr.mk.injEq,and_true] at x;obtain⟨rfl,rfl⟩:=x;by_cases n:d=e;(.subst n;(have p:Hid (v=false):=by have s:d∈a.take b:=List.mem_iff_getElem?.2 ⟨c,by rw[List.getElem?_take,aR E];exact k⟩;rw[U u];show _=_;simpa using(U o).2 s);clear k i;go_wp2;go_ret;exact⟨by rw[U p];rfl,aN⟩);·(have V:(d == e)=false:=by simpa using n);(have z:Hid (∀e∈a.take (c+1),¬d=e):=λK f=>by obtain⟨B,rfl⟩:=b6 k;rw[List.take_succ_eq_append_getElem B,List.mem_append] at f;rcases f with f|f;(.exact U i K f);.simp at f;subst f;exact n);clear k i n;go_wp2;exact⟨⟨c+1,by omega,by go_num,U z,trivial⟩,by simp[intOf];omega⟩);·(have C:¬(c:Int)<(b:Int):=by omega);(have A:Hid ((a.take (b+1)).Nodup):=by refine(U o).1 λs=>?_;(obtain rfl:c=b:=by omega);exact U i d s rfl);clear i o;go_wp2;exact⟨⟨b+1,by omega,by go_num,U A,trivial⟩,by simp[intOf];omega⟩);·(have D:¬(b:Int)<(a.length:Int):=by omega);(have p:Hid (v=true):=by have h:=U m;rw[h3 (by omega)] at h;rw[U u];exact decide_eq_true h);clear m;go_wp2;go_ret;exact⟨by rw[U p];rfl,aN⟩
theorem gI{α:Type}{p:α->Bool}{a:List α}{b:α}(h:a[n]?=some b)(d:(a.take n).any p=false)(e:p b=false):(a.take (n+1)).any p=false:=by obtain⟨c,rfl⟩:=b6 h;rw[List.take_succ_eq_append_getElem c,List.any_append,d];simp[e]
theorem h2{α:Type}{p:α->Bool}{b:List α}{a:α}(h:b[n]?=some a)(c:p a=true):b.any p=true:=List.any_eq_true.2 ⟨a,a8 h,c⟩
theorem re(a:List (Int×Int))(t:Option Addr)(A:Nat)(i:World)(M:a.length<=140737488355328)(y:dI i t a):Calls prog 80 #[.slice t a.length A] i λF G=>F=.returned (.bool (!a.any cT))/\Bw i G:=by
 have z:=VV y;obtain⟨f,p⟩:=al (a.any cT);rw[<-p];have r:=VV p;clear y p;go_enter func80,ntmps80;go_wp2_with fail;go_loopw[7] (λq wr=>∃(b:Nat),b<=a.length/\q=.int .i64 (b:Int)/\Hid ((a.take b).any cT=false)/\Hid (Bw i wr)) (λq _=>a.length-(intOf q).toNat);case atStart=>exact⟨0,bf,rfl,by show (a.take 0).any cT=false;rfl,aN⟩
 case round=>obtain⟨b,L,rfl,k,n⟩:=hrel;by_cases E:b<a.length;(·(have D:(b:Int)<(a.length:Int):=by omega);obtain⟨⟨d,g⟩,m⟩:∃I,a[b]?=some I:=⟨_,ba E⟩;obtain⟨J,N,rfl,B,C⟩:=((U z).aa (U n)).get m;simp only at B C;have e:=VV (ae (U n) (.cells #[.int .i64 d,.int .i64 g] 78));have s:Hid (cT (d,g)=false->(a.take (b+1)).any cT=false):=λh=>gI m (U k) h;(have l:Hid (cT (d,g)=true->f=true):=λh=>by rw[U r];exact h2 m h);clear m k;by_cases u:d<1;(.have c:Hid (f=true):=U l (by unfold cT;simp[u]);go_wp2;go_ret;exact⟨by rw[U c];rfl,U e⟩);by_cases v:6<d;(.have c:Hid (f=true):=U l (by unfold cT;simp[v]);go_wp2;go_ret;exact⟨by rw[U c];rfl,U e⟩);by_cases w:g<0;(.have c:Hid (f=true):=U l (by unfold cT;simp[w]);go_wp2;go_ret;exact⟨by rw[U c];rfl,U e⟩);by_cases x:d=1;(.subst x;by_cases j:g=0;(.subst j;have o:=VV (U s (by decide));go_wp2;exact⟨⟨b+1,by omega,by go_num,U o,U e⟩,by simp[intOf];omega⟩);·(have K:(g != 0)=true:=by simpa using j);have c:Hid (f=true):=U l (by unfold cT;simp[j]);go_wp2;go_ret;exact⟨by rw[U c];rfl,U e⟩);·(have j:(d == 1)=false:=by simpa using x);have o:=VV (U s (by unfold cT;rw[j];simp[u,v,w]));go_wp2;exact⟨⟨b+1,by omega,by go_num,U o,U e⟩,by simp[intOf];omega⟩);·(have D:¬(b:Int)<(a.length:Int):=by omega);(have c:Hid (f=false):=by have h:=U k;rw[h3 (by omega)] at h;rw[U r];exact h);clear k;go_wp2;go_ret;exact⟨by rw[U c];rfl,U n⟩
def hl(a:List Int):Bool:=decide (1<=a.length) && decide (a.length<=32) && !a.any hg
theorem l6(a:List Int)(r:Option Addr)(w:Nat)(f:World)(M:a.length<=140737488355328)(s:bC f r a):Calls prog 83 #[.slice r a.length w] f λE F=>E=.returned (.bool (hl a))/\Bw f F:=by
 have u:=VV s;obtain⟨e,j⟩:=al (hl a);rw[<-j];unfold hl at j;have i:=VV j;clear s j;by_cases J:a.length<1;·(have t:(a.length:Int)<1:=by omega);(have d:Hid (e=false):=by rw[U i];have:decide (1<=a.length)=false:=decide_eq_false (by omega);show _=_;rw[this];rfl);go_enter func83,ntmps83;go_wp2;go_ret;exact⟨by rw[U d];rfl,aN⟩
 by_cases K:32<a.length;·(have t:¬(a.length:Int)<1:=by omega);(have D:(32:Int)<(a.length:Int):=by omega);(have d:Hid (e=false):=by rw[U i];have:decide (a.length<=32)=false:=decide_eq_false (by omega);show _=_;rw[this,Bool.and_false];rfl);go_enter func83,ntmps83;go_wp2;go_ret;exact⟨by rw[U d];rfl,aN⟩
 have t:¬(a.length:Int)<1:=by omega
 have D:¬(32:Int)<(a.length:Int):=by omega
 have p:Hid (e=!a.any hg):=by rw[U i];have x:decide (1<=a.length)=true:=decide_eq_true (by omega);have y:decide (a.length<=32)=true:=decide_eq_true (by omega);show _=_;rw[x,y];rfl
 clear i;go_enter func83,ntmps83;go_wp2_with fail;go_loopw[15] (λo wr=>∃(b:Nat),b<=a.length/\o=.int .i64 (b:Int)/\Hid ((a.take b).any hg=false)/\wr=f) (λo _=>a.length-(intOf o).toNat);case atStart=>exact⟨0,bf,rfl,by show (a.take 0).any hg=false;rfl,rfl⟩
 case round=>obtain⟨b,L,rfl,g,rfl⟩:=hrel;by_cases C:b<a.length;(·(have B:(b:Int)<(a.length:Int):=by omega);obtain⟨c,k⟩:∃c,a[b]?=some c:=⟨_,ba C⟩;obtain⟨G,N,rfl,I⟩:=(U u).getP k;have q:Hid (hg c=false->(a.take (b+1)).any hg=false):=λh=>gI k (U g) h;(have v:Hid (hg c=true->e=false):=λh=>by rw[U p,h2 k h];rfl);clear k g;by_cases m:c=1;(.subst m;have l:=VV (U q (by decide));go_wp2;exact⟨⟨b+1,by omega,by go_num,U l,trivial⟩,by simp[intOf];omega⟩);by_cases n:c=2;(.subst n;have l:=VV (U q (by decide));go_wp2;exact⟨⟨b+1,by omega,by go_num,U l,trivial⟩,by simp[intOf];omega⟩);·(have z:(c != 1)=true:=by simpa using m);(have A:(c != 2)=true:=by simpa using n);have d:Hid (e=false):=U v (by unfold hg;rw[z,A];rfl);clear m n;go_wp2;go_ret;exact⟨by rw[U d];rfl,aN⟩);·(have B:¬(b:Int)<(a.length:Int):=by omega);(have d:Hid (e=true):=by have h:=U g;rw[h3 (by omega)] at h;rw[U p,h];rfl);clear g;go_wp2;go_ret;exact⟨by rw[U d];rfl,aN⟩
def iM(a:Int):Bool:=a == 2 || a == 3 || a == 4 || a == 5
def eQ(a:Int):Bool:=a == 6 || a == 10 || a == 12
def eD(a:Int):Bool:=a == 9 || a == 10
def hh(p:Pl):Pl:=.mk 0 (if p.op == 1 then p.tab else ⟨#[]⟩) (if iM p.op then p.ex else []) (if eQ p.op then p.cols else []) (if eD p.op then p.keys else []) (if p.op == 6 then p.aggs else []) (if p.op == 10 then p.fn else 0) (if p.op == 10 then p.col else 0) (if eD p.op then p.n else 0) (if p.op == 9 then p.off else 0) []
def pk(p:Pl)(a:Pm):Pm:=⟨if iM p.op then a.aE else none,if iM p.op then a.cE else 0,if eQ p.op then a.aC else none,if eQ p.op then a.cC else 0,if eD p.op then a.aK else none,if eD p.op then a.cK else 0,if p.op == 6 then a.aA else none,if p.op == 6 then a.cA else 0,none,0⟩
theorem sR{op:Int}(h:¬(op=1∨op=2∨op=3∨op=4∨op=5∨op=6∨op=9∨op=10∨op=12)):(op == 1)=false/\(op == 2)=false/\(op == 3)=false/\(op == 4)=false/\(op == 5)=false/\(op == 6)=false/\(op == 9)=false/\(op == 10)=false/\(op == 12)=false:=by refine⟨?_,?_,?_,?_,?_,?_,?_,?_,?_⟩<;>simp<;>omega
theorem pj(p:Pl)(a:Pm)(e:World):Calls prog 157 #[p.val a] e λB C=>B=.returned ((hh p).val (pk p a))/\Bw e C:=by
 obtain⟨f,b⟩:=al ((hh p).val (pk p a));rw[<-b];rw[Pl.ad];by_cases g:p.op=1;·(have d:f=.agg #[.int .i64 0,.string p.tab,.slice none 0 0,.slice none 0 0,.slice none 0 0,.slice none 0 0,.int .i64 0,.int .i64 0,.int .i64 0,.int .i64 0,.slice none 0 0]:=by rw[b];unfold Pl.val hh pk iM eQ eD;rw[g];rfl);subst d;rw[g];have c:=VV (ae (ar _ e) (.cells #[.int .i64 1,.string p.tab,.slice a.aE p.ex.length a.cE,.slice a.aC p.cols.length a.cC,.slice a.aK p.keys.length a.cK,.slice a.aA p.aggs.length a.cA,.int .i64 p.fn,.int .i64 p.col,.int .i64 p.n,.int .i64 p.off,.slice a.aP p.args.length a.cP] 28));clear b;go_enter func157,ntmps157;go_wp2;exact aM (v:=.agg #[.int .i64 0,.string p.tab,.slice none 0 0,.slice none 0 0,.slice none 0 0,.slice none 0 0,.int .i64 0,.int .i64 0,.int .i64 0,.int .i64 0,.slice none 0 0]) (by simp[results,results157,go_sem]) rfl ⟨rfl,ae (U c) _⟩
 by_cases k:p.op=2;·(have d:f=.agg #[.int .i64 0,.string ⟨#[]⟩,.slice a.aE p.ex.length a.cE,.slice none 0 0,.slice none 0 0,.slice none 0 0,.int .i64 0,.int .i64 0,.int .i64 0,.int .i64 0,.slice none 0 0]:=by rw[b];unfold Pl.val hh pk iM eQ eD;rw[k];rfl);subst d;rw[k];have c:=VV (ae (ar _ e) (.cells #[.int .i64 2,.string p.tab,.slice a.aE p.ex.length a.cE,.slice a.aC p.cols.length a.cC,.slice a.aK p.keys.length a.cK,.slice a.aA p.aggs.length a.cA,.int .i64 p.fn,.int .i64 p.col,.int .i64 p.n,.int .i64 p.off,.slice a.aP p.args.length a.cP] 28));clear b;go_enter func157,ntmps157;go_wp2;exact aM (v:=.agg #[.int .i64 0,.string ⟨#[]⟩,.slice a.aE p.ex.length a.cE,.slice none 0 0,.slice none 0 0,.slice none 0 0,.int .i64 0,.int .i64 0,.int .i64 0,.int .i64 0,.slice none 0 0]) (by simp[results,results157,go_sem]) rfl ⟨rfl,ae (U c) _⟩
 by_cases l:p.op=3;·(have d:f=.agg #[.int .i64 0,.string ⟨#[]⟩,.slice a.aE p.ex.length a.cE,.slice none 0 0,.slice none 0 0,.slice none 0 0,.int .i64 0,.int .i64 0,.int .i64 0,.int .i64 0,.slice none 0 0]:=by rw[b];unfold Pl.val hh pk iM eQ eD;rw[l];rfl);subst d;rw[l];have c:=VV (ae (ar _ e) (.cells #[.int .i64 3,.string p.tab,.slice a.aE p.ex.length a.cE,.slice a.aC p.cols.length a.cC,.slice a.aK p.keys.length a.cK,.slice a.aA p.aggs.length a.cA,.int .i64 p.fn,.int .i64 p.col,.int .i64 p.n,.int .i64 p.off,.slice a.aP p.args.length a.cP] 28));clear b;go_enter func157,ntmps157;go_wp2;exact aM (v:=.agg #[.int .i64 0,.string ⟨#[]⟩,.slice a.aE p.ex.length a.cE,.slice none 0 0,.slice none 0 0,.slice none 0 0,.int .i64 0,.int .i64 0,.int .i64 0,.int .i64 0,.slice none 0 0]) (by simp[results,results157,go_sem]) rfl ⟨rfl,ae (U c) _⟩
 by_cases m:p.op=4;·(have d:f=.agg #[.int .i64 0,.string ⟨#[]⟩,.slice a.aE p.ex.length a.cE,.slice none 0 0,.slice none 0 0,.slice none 0 0,.int .i64 0,.int .i64 0,.int .i64 0,.int .i64 0,.slice none 0 0]:=by rw[b];unfold Pl.val hh pk iM eQ eD;rw[m];rfl);subst d;rw[m];have c:=VV (ae (ar _ e) (.cells #[.int .i64 4,.string p.tab,.slice a.aE p.ex.length a.cE,.slice a.aC p.cols.length a.cC,.slice a.aK p.keys.length a.cK,.slice a.aA p.aggs.length a.cA,.int .i64 p.fn,.int .i64 p.col,.int .i64 p.n,.int .i64 p.off,.slice a.aP p.args.length a.cP] 28));clear b;go_enter func157,ntmps157;go_wp2;exact aM (v:=.agg #[.int .i64 0,.string ⟨#[]⟩,.slice a.aE p.ex.length a.cE,.slice none 0 0,.slice none 0 0,.slice none 0 0,.int .i64 0,.int .i64 0,.int .i64 0,.int .i64 0,.slice none 0 0]) (by simp[results,results157,go_sem]) rfl ⟨rfl,ae (U c) _⟩
 by_cases n:p.op=5;·(have d:f=.agg #[.int .i64 0,.string ⟨#[]⟩,.slice a.aE p.ex.length a.cE,.slice none 0 0,.slice none 0 0,.slice none 0 0,.int .i64 0,.int .i64 0,.int .i64 0,.int .i64 0,.slice none 0 0]:=by rw[b];unfold Pl.val hh pk iM eQ eD;rw[n];rfl);subst d;rw[n];have c:=VV (ae (ar _ e) (.cells #[.int .i64 5,.string p.tab,.slice a.aE p.ex.length a.cE,.slice a.aC p.cols.length a.cC,.slice a.aK p.keys.length a.cK,.slice a.aA p.aggs.length a.cA,.int .i64 p.fn,.int .i64 p.col,.int .i64 p.n,.int .i64 p.off,.slice a.aP p.args.length a.cP] 28));clear b;go_enter func157,ntmps157;go_wp2;exact aM (v:=.agg #[.int .i64 0,.string ⟨#[]⟩,.slice a.aE p.ex.length a.cE,.slice none 0 0,.slice none 0 0,.slice none 0 0,.int .i64 0,.int .i64 0,.int .i64 0,.int .i64 0,.slice none 0 0]) (by simp[results,results157,go_sem]) rfl ⟨rfl,ae (U c) _⟩
 by_cases o:p.op=6;·(have d:f=.agg #[.int .i64 0,.string ⟨#[]⟩,.slice none 0 0,.slice a.aC p.cols.length a.cC,.slice none 0 0,.slice a.aA p.aggs.length a.cA,.int .i64 0,.int .i64 0,.int .i64 0,.int .i64 0,.slice none 0 0]:=by rw[b];unfold Pl.val hh pk iM eQ eD;rw[o];rfl);subst d;rw[o];have c:=VV (ae (ar _ e) (.cells #[.int .i64 6,.string p.tab,.slice a.aE p.ex.length a.cE,.slice a.aC p.cols.length a.cC,.slice a.aK p.keys.length a.cK,.slice a.aA p.aggs.length a.cA,.int .i64 p.fn,.int .i64 p.col,.int .i64 p.n,.int .i64 p.off,.slice a.aP p.args.length a.cP] 28));clear b;go_enter func157,ntmps157;go_wp2;exact aM (v:=.agg #[.int .i64 0,.string ⟨#[]⟩,.slice none 0 0,.slice a.aC p.cols.length a.cC,.slice none 0 0,.slice a.aA p.aggs.length a.cA,.int .i64 0,.int .i64 0,.int .i64 0,.int .i64 0,.slice none 0 0]) (by simp[results,results157,go_sem]) rfl ⟨rfl,ae (U c) _⟩
 by_cases q:p.op=9;·(have d:f=.agg #[.int .i64 0,.string ⟨#[]⟩,.slice none 0 0,.slice none 0 0,.slice a.aK p.keys.length a.cK,.slice none 0 0,.int .i64 0,.int .i64 0,.int .i64 p.n,.int .i64 p.off,.slice none 0 0]:=by rw[b];unfold Pl.val hh pk iM eQ eD;rw[q];rfl);subst d;rw[q];have c:=VV (ae (ar _ e) (.cells #[.int .i64 9,.string p.tab,.slice a.aE p.ex.length a.cE,.slice a.aC p.cols.length a.cC,.slice a.aK p.keys.length a.cK,.slice a.aA p.aggs.length a.cA,.int .i64 p.fn,.int .i64 p.col,.int .i64 p.n,.int .i64 p.off,.slice a.aP p.args.length a.cP] 28));clear b;go_enter func157,ntmps157;go_wp2;exact aM (v:=.agg #[.int .i64 0,.string ⟨#[]⟩,.slice none 0 0,.slice none 0 0,.slice a.aK p.keys.length a.cK,.slice none 0 0,.int .i64 0,.int .i64 0,.int .i64 p.n,.int .i64 p.off,.slice none 0 0]) (by simp[results,results157,go_sem]) rfl ⟨rfl,ae (U c) _⟩
 by_cases i:p.op=10;·(have d:f=.agg #[.int .i64 0,.string ⟨#[]⟩,.slice none 0 0,.slice a.aC p.cols.length a.cC,.slice a.aK p.keys.length a.cK,.slice none 0 0,.int .i64 p.fn,.int .i64 p.col,.int .i64 p.n,.int .i64 0,.slice none 0 0]:=by rw[b];unfold Pl.val hh pk iM eQ eD;rw[i];rfl);subst d;rw[i];have c:=VV (ae (ar _ e) (.cells #[.int .i64 10,.string p.tab,.slice a.aE p.ex.length a.cE,.slice a.aC p.cols.length a.cC,.slice a.aK p.keys.length a.cK,.slice a.aA p.aggs.length a.cA,.int .i64 p.fn,.int .i64 p.col,.int .i64 p.n,.int .i64 p.off,.slice a.aP p.args.length a.cP] 28));clear b;go_enter func157,ntmps157;go_wp2;exact aM (v:=.agg #[.int .i64 0,.string ⟨#[]⟩,.slice none 0 0,.slice a.aC p.cols.length a.cC,.slice a.aK p.keys.length a.cK,.slice none 0 0,.int .i64 p.fn,.int .i64 p.col,.int .i64 p.n,.int .i64 0,.slice none 0 0]) (by simp[results,results157,go_sem]) rfl ⟨rfl,ae (U c) _⟩
 by_cases j:p.op=12;·(have d:f=.agg #[.int .i64 0,.string ⟨#[]⟩,.slice none 0 0,.slice a.aC p.cols.length a.cC,.slice none 0 0,.slice none 0 0,.int .i64 0,.int .i64 0,.int .i64 0,.int .i64 0,.slice none 0 0]:=by rw[b];unfold Pl.val hh pk iM eQ eD;rw[j];rfl);subst d;rw[j];have c:=VV (ae (ar _ e) (.cells #[.int .i64 12,.string p.tab,.slice a.aE p.ex.length a.cE,.slice a.aC p.cols.length a.cC,.slice a.aK p.keys.length a.cK,.slice a.aA p.aggs.length a.cA,.int .i64 p.fn,.int .i64 p.col,.int .i64 p.n,.int .i64 p.off,.slice a.aP p.args.length a.cP] 28));clear b;go_enter func157,ntmps157;go_wp2;exact aM (v:=.agg #[.int .i64 0,.string ⟨#[]⟩,.slice none 0 0,.slice a.aC p.cols.length a.cC,.slice none 0 0,.slice none 0 0,.int .i64 0,.int .i64 0,.int .i64 0,.int .i64 0,.slice none 0 0]) (by simp[results,results157,go_sem]) rfl ⟨rfl,ae (U c) _⟩
 .obtain⟨r,u,w,x,y,z,A,s,t⟩:=sR (op:=p.op) (by omega);(have d:f=.agg #[.int .i64 0,.string ⟨#[]⟩,.slice none 0 0,.slice none 0 0,.slice none 0 0,.slice none 0 0,.int .i64 0,.int .i64 0,.int .i64 0,.int .i64 0,.slice none 0 0]:=by rw[b];unfold Pl.val hh pk iM eQ eD;rw[r,u,w,x,y,z,A,s,t];rfl);subst d;have c:=VV (ae (ar _ e) (.cells #[.int .i64 p.op,.string p.tab,.slice a.aE p.ex.length a.cE,.slice a.aC p.cols.length a.cC,.slice a.aK p.keys.length a.cK,.slice a.aA p.aggs.length a.cA,.int .i64 p.fn,.int .i64 p.col,.int .i64 p.n,.int .i64 p.off,.slice a.aP p.args.length a.cP] 28));clear b g k l m n o q i j;go_enter func157,ntmps157;go_wp2;exact aM (v:=.agg #[.int .i64 0,.string ⟨#[]⟩,.slice none 0 0,.slice none 0 0,.slice none 0 0,.slice none 0 0,.int .i64 0,.int .i64 0,.int .i64 0,.int .i64 0,.slice none 0 0]) (by simp[results,results157,go_sem]) rfl ⟨rfl,ae (U c) _⟩
def cm(p:Pl):Bool:=if p.op == 1 || p.op == 12 then p.args.length == 0 else if p.op == 4 || p.op == 5 || p.op == 11 then p.args.length == 2 else if p.op == 8 then decide (1<=p.args.length) else p.args.length == 1
theorem cQ(b a:Nat):((b:Int) == (a:Int))=(b == a):=by rw[Bool.eq_iff_iff];simp;omega
theorem ma(p:Pl)(a:Pm)(e:World):Calls prog 112 #[p.val a] e λu v=>u=.returned (.bool (cm p))/\Bw e v:=by
 obtain⟨f,b⟩:=al (cm p);rw[<-b];rw[Pl.ad];by_cases g:p.op=1
 .have d:f=((p.args.length:Int) == 0):=by
   rw[b];unfold cm;rw[g]
   show (p.args.length == 0)=_
   exact(cQ _ 0).symm
  subst d
  rw[g]
  have c:=VV (ae (ar _ e) (.cells #[.int .i64 1,.string p.tab,.slice a.aE p.ex.length a.cE,.slice a.aC p.cols.length a.cC,.slice a.aK p.keys.length a.cK,.slice a.aA p.aggs.length a.cA,.int .i64 p.fn,.int .i64 p.col,.int .i64 p.n,.int .i64 p.off,.slice a.aP p.args.length a.cP] 28))
  clear b
  go_enter func112,ntmps112
  go_wp2
  go_ret
  exact⟨rfl,U c⟩
 by_cases j:p.op=12
 .have d:f=((p.args.length:Int) == 0):=by
   rw[b];unfold cm;rw[j]
   show (p.args.length == 0)=_
   exact(cQ _ 0).symm
  subst d
  rw[j]
  have c:=VV (ae (ar _ e) (.cells #[.int .i64 12,.string p.tab,.slice a.aE p.ex.length a.cE,.slice a.aC p.cols.length a.cC,.slice a.aK p.keys.length a.cK,.slice a.aA p.aggs.length a.cA,.int .i64 p.fn,.int .i64 p.col,.int .i64 p.n,.int .i64 p.off,.slice a.aP p.args.length a.cP] 28))
  clear b
  go_enter func112,ntmps112
  go_wp2
  go_ret
  exact⟨rfl,U c⟩
 by_cases k:p.op=4
 .have d:f=((p.args.length:Int) == 2):=by
   rw[b];unfold cm;rw[k]
   show (p.args.length == 2)=_
   exact(cQ _ 2).symm
  subst d
  rw[k]
  have c:=VV (ae (ar _ e) (.cells #[.int .i64 4,.string p.tab,.slice a.aE p.ex.length a.cE,.slice a.aC p.cols.length a.cC,.slice a.aK p.keys.length a.cK,.slice a.aA p.aggs.length a.cA,.int .i64 p.fn,.int .i64 p.col,.int .i64 p.n,.int .i64 p.off,.slice a.aP p.args.length a.cP] 28))
  clear b
  go_enter func112,ntmps112
  go_wp2
  go_ret
  exact⟨rfl,U c⟩
 by_cases l:p.op=5
 .have d:f=((p.args.length:Int) == 2):=by
   rw[b];unfold cm;rw[l]
   show (p.args.length == 2)=_
   exact(cQ _ 2).symm
  subst d
  rw[l]
  have c:=VV (ae (ar _ e) (.cells #[.int .i64 5,.string p.tab,.slice a.aE p.ex.length a.cE,.slice a.aC p.cols.length a.cC,.slice a.aK p.keys.length a.cK,.slice a.aA p.aggs.length a.cA,.int .i64 p.fn,.int .i64 p.col,.int .i64 p.n,.int .i64 p.off,.slice a.aP p.args.length a.cP] 28))
  clear b
  go_enter func112,ntmps112
  go_wp2
  go_ret
  exact⟨rfl,U c⟩
 by_cases i:p.op=11
 .have d:f=((p.args.length:Int) == 2):=by
   rw[b];unfold cm;rw[i]
   show (p.args.length == 2)=_
   exact(cQ _ 2).symm
  subst d
  rw[i]
  have c:=VV (ae (ar _ e) (.cells #[.int .i64 11,.string p.tab,.slice a.aE p.ex.length a.cE,.slice a.aC p.cols.length a.cC,.slice a.aK p.keys.length a.cK,.slice a.aA p.aggs.length a.cA,.int .i64 p.fn,.int .i64 p.col,.int .i64 p.n,.int .i64 p.off,.slice a.aP p.args.length a.cP] 28))
  clear b
  go_enter func112,ntmps112
  go_wp2
  go_ret
  exact⟨rfl,U c⟩
 by_cases m:p.op=8
 .have d:f=(decide ((1:Int)<=(p.args.length:Int))):=by
   rw[b];unfold cm;rw[m]
   show (decide (1<=p.args.length))=_
   rw[Bool.eq_iff_iff];simp;omega
  subst d
  rw[m]
  have c:=VV (ae (ar _ e) (.cells #[.int .i64 8,.string p.tab,.slice a.aE p.ex.length a.cE,.slice a.aC p.cols.length a.cC,.slice a.aK p.keys.length a.cK,.slice a.aA p.aggs.length a.cA,.int .i64 p.fn,.int .i64 p.col,.int .i64 p.n,.int .i64 p.off,.slice a.aP p.args.length a.cP] 28))
  clear b
  go_enter func112,ntmps112
  go_wp2
  go_ret
  exact⟨rfl,U c⟩
 ·(have n:(p.op == 1)=false:=by simpa using g);(have q:(p.op == 12)=false:=by simpa using j);(have r:(p.op == 4)=false:=by simpa using k);(have s:(p.op == 5)=false:=by simpa using l);(have o:(p.op == 11)=false:=by simpa using i);(have t:(p.op == 8)=false:=by simpa using m);(have d:f=((p.args.length:Int) == 1):=by rw[b];unfold cm;rw[n,q,r,s,o,t];show (p.args.length == 1)=_;exact(cQ _ 1).symm);subst d;have c:=VV (ae (ar _ e) (.cells #[.int .i64 p.op,.string p.tab,.slice a.aE p.ex.length a.cE,.slice a.aC p.cols.length a.cC,.slice a.aK p.keys.length a.cK,.slice a.aA p.aggs.length a.cA,.int .i64 p.fn,.int .i64 p.col,.int .i64 p.n,.int .i64 p.off,.slice a.aP p.args.length a.cP] 28));clear b g j k l i m;go_enter func112,ntmps112;go_wp2;go_ret;exact⟨rfl,U c⟩
end Go.Proofs.YtabmgpillccfaaaGreatDoor
