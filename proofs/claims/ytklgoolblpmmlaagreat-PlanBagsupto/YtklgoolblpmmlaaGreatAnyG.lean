import Derived.OrdersHeld
import Derived.Test.YtklgoolblpmmlaaGreatStA
set_option linter.all false
set_option maxHeartbeats 1000000
set_option maxRecDepth 100000
namespace Go.Proofs.YtklgoolblpmmlaaGreat
open Go.RowKit Go.Sort Go.Proofs.Tryz
section
variable {P:Program}{ops:Array Oper}{Q:Exit->Act->World->Prop}{md:Region.Mode}{S:World->Prop}{k:Nat}
def eq(P:Program)(md:Region.Mode)(ops:Array Oper)(Q:Exit->Act->World->Prop)(S:World->Prop)(k:Nat):Nat->Array Bool->Act->World->Prop
 | 0,L,a,w=>Region.ready md ops L=[]/\Q .normal a w
 | f+1,L,a,w=>(Region.ready md ops L=[]->Q .normal a w)/\∀b∈Region.ready md ops L,wpOp P ops Q b (λa' c=>((L.setIfInBounds b true).getD k true=false->S c)/\eq P md ops Q S k f (L.setIfInBounds b true) a' c) a w
theorem sq:∀(f:Nat) (L:Array Bool) (a:Act) (w:World),eq P md ops Q S k f L a w->wpAny P md ops Q f L a w
 | 0,_,_,_,h=>h
 | f+1,_,_,_,h=>⟨h.1,λd c=>wpOp_mono (λa' e b=>sq f _ a' e b.2) (h.2 d c)⟩
def Vc(md:Region.Mode)(ops:Array Oper)(e:Nat)(c:List Nat):Bool:=
 c.all λd=>match ops[d]? with
  | some g=>g.after.any λb=>Region.binds md b && (b.on == e || c.contains b.on)
  | none=>true
variable{k m n:Nat}{V u v:Value}{w:World}{E e:Ex}
theorem vT{g:List Nat}{L:Array Bool}(A:Vc md ops n g=true)(q:∀c∈g,L.getD c true=false)(u:n∈Region.ready md ops L)(v:m∈Region.ready md ops L):m ∉ g:=by
 intro x;have p:∀c,L.getD c true=false->L.getD c false=true->False:=by intro c o b;rcases Nat.lt_or_ge c L.size with i | i;(.simp[i] at o b;rw[o] at b;cases b);.simp[Array.getElem?_eq_none i] at b
 obtain⟨_,B,z,s⟩:=mem_ready.1 v;have b:=List.all_eq_true.1 A m x;simp only[z] at b;obtain⟨d,t,e⟩:∃d,d∈B.after/\(Region.binds md d && (d.on == n || g.contains d.on))=true:=by obtain⟨C,y,e⟩:=Array.any_eq_true.1 b;exact⟨_,Array.getElem_mem y,e⟩
 simp only[cc,Bool.or_eq_true,beq_iff_eq,List.contains_iff_mem] at e;have j:=s d t e.1;rcases e.2 with l|l;.rw[l] at j;exact p _ (mem_ready.1 u).1 j
 .exact p _ (q _ l) j
theorem uc{oi:Oper}{K:List Nat}(A:ops[n]?=some oi)(M:∀(b:Nat) (O:Oper) o m,ops[b]?=some O->O.op≠.select o m) (W:∀c a w,Q (.panic c) (a.put oi.dst v) w->Q (.panic c) a w) (B:k∈K) (VZ:n ∉ K) (V5:Vc md ops n K=true):∀(f:Nat) (L:Array Bool) (a:Act) (w:World), (∀b j,ops[b]?=some j->b≠n->L.getD b true=false->(∀d∈j.after,Region.binds md d=true->d.on≠n)->oi.apart ops j=true)->(∀c∈K,L.getD c true=false)->n∈Region.ready md ops L->YieldsIf P ops S oi v a->S w->eq P md ops Q S k f (L.setIfInBounds n true) (a.put oi.dst v) w->eq P md ops Q S k (f+1) L a w:=by
 intro f;induction f with
 | zero=>intro L a w _ _ g u p l;refine⟨λh=>(by rw[h] at g;cases g),λb q=>?_⟩;by_cases e:b=n;(.subst e;exact u.wpOp A p ⟨λ_=>p,l⟩);.have:=ready_mono q e;rw[l.1] at this;cases this
 | succ f V6=>intro L a w F z g u p l;refine⟨λh=>(by rw[h] at g;cases g),λb q=>?_⟩;by_cases e:b=n;(.subst e;exact u.wpOp A p ⟨λ_=>p,l⟩);.have G:=vT V5 z g q;have i:=l.2 b (ready_mono q e);obtain⟨J,j,C,X⟩:=mem_ready.1 q;(have V4:∀d∈j.after,Region.binds md d=true->d.on≠n:=λd VW Y VX=>by have i:=X d VW Y;have D:=(mem_ready.1 g).1;rw[VX] at i;rcases Nat.lt_or_ge n L.size with x | x;(.simp[x] at D i;rw[D] at i;cases i);.simp[Array.getElem?_eq_none x] at i);have T:=wpOp_putIf C (F b j C e J V4) (λo m=>M n oi o m A) (λo m=>M b j o m C) W u i;(have VY:∀c s,ops[c]?=some s->c≠n->(L.setIfInBounds b true).getD c true=false->(∀d∈s.after,Region.binds md d=true->d.on≠n)->oi.apart ops s=true:=λc s t Z N V3=>by refine F c s t Z ?_ V3;by_cases I:b=c;(.subst I;exact J);.rw[getD_set_ne true I] at N;exact N);(have V:∀c∈K,(L.setIfInBounds b true).getD c true=false:=λc t=>by have V2:b≠c:=λh=>G (by rw[h];exact t);rw[getD_set_ne true V2];exact z c t);refine wpOp_mono (λa' R y=>?_) T;have V1:b≠k:=λh=>G (by rw[h];exact B);have V0:n≠k:=λh=>VZ (by rw[h];exact B);have E:S R:=y.2.1 (by rw[getD_set_ne true V1,getD_set_ne true V0];exact z k B);refine⟨λ_=>E,V6 (L.setIfInBounds b true) a' R VY V (ready_mono g (Ne.symm e)) y.1 E ?_⟩;rw[Array.setIfInBounds_comm _ _ e];exact y.2.2
theorem wX{oi:Oper}{f:Nat}{L:Array Bool}{a:Act}{w:World}(b:List Nat)(e:ops[n]?=some oi) (o:Region.noSelect ops=true) (j:Region.free md ops L n=true) (m:(Region.ready md ops L).contains n=true) (c:(b.contains k && !b.contains n && Vc md ops n b && b.all λd=>!L.getD d true)=true) (g:∀d a w,Q (.panic d) (a.put oi.dst v) w->Q (.panic d) a w) (p:YieldsIf P ops S oi v a) (i:S w) (h:eq P md ops Q S k f (L.setIfInBounds n true) (a.put oi.dst v) w):eq P md ops Q S k (f+1) L a w:=by simp only[cc,List.contains_iff_mem,Bool.not_eq_true',List.all_eq_true] at c;refine uc (K:=b) e (Region.noSelect_spec o) g c.1.1.1 (λl=>?_) c.1.2 f L a w (Region.free_spec e j) c.2 (by simpa using m) p i h;have:=c.1.1.2;rw[List.contains_iff_mem.2 l] at this;cases this
theorem sr{f:Nat}{L:Array Bool}{a:Act}{w:World}(d:Region.ready md ops L=[n])
  (h:wpOp P ops Q n (λa' e=>((L.setIfInBounds n true).getD k true=false->S e)/\eq P md ops Q S k f (L.setIfInBounds n true) a' e) a w):eq P md ops Q S k (f+1) L a w:=
 ⟨λb=>(by rw[d] at b;cases b),λg c=>by rw[d,List.mem_singleton] at c;subst c;exact h⟩
theorem Ut{c:Oper}{a:Act}{w:World}{b:Act->World->Prop}(e:ops[n]?=some c)(g:Region.wanted c (yielded ops a.tmps)=true) (h:∀d:Act->World->Prop,Hid (∀a w,b a w->d a w)->c.wp P a w d Q):wpOp P ops Q n b a w:=by unfold wpOp;simp only[e,g,if_true];exact .inl (h b (H λ_ _ h=>h))
theorem pd{L:Array Bool}{a:Act}{w:World}(b:Region.ready md ops L=[])(h:Q .normal a w):∀f,eq P md ops Q S k f L a w
 | 0=>⟨b,h⟩
 | _+1=>⟨λ_=>h,by rw[b];simp⟩
theorem qE{id:Nat}{a:Act}{w:World}(b:P.follows .mixedOrders=true)
  (h:eq P .any ops Q S k ops.size (Array.replicate ops.size false) a { w with drawn:=w.drawn+1 }):(Code.region id ops true).wp P Q a w:=
 wp_region_any b (sq _ _ _ _ h)
theorem ed{f:Nat}{L:Array Bool}{a:Act}{w:World}(c:List Nat)(d:Region.ready md ops L=c)(j:c≠[])
  (h:∀b∈c,wpOp P ops Q b (λa' e=>((L.setIfInBounds b true).getD k true=false->S e)/\eq P md ops Q S k f (L.setIfInBounds b true) a' e) a w):eq P md ops Q S k (f+1) L a w:=
 ⟨λg=>absurd (d.symm.trans g) j,λl i=>h l (by rw[<-d];exact i)⟩
theorem uW{α:Type}{b:Array α}{c:α}{r:List α}(h:b.toList.drop n=c::r):b[n]?=some c:=by
 have d:(b.toList.drop n)[0]?=some c:=by rw[h];rfl
 rw[List.getElem?_drop] at d;simpa using d
theorem b8{b:Oper}{r:List Oper}{a:Act}{w:World}{c:Act->World->Prop}(e:ops.toList.drop n=b::r)(g:Region.wanted b (yielded ops a.tmps)=true)
  (h:∀d:Act->World->Prop,Hid (∀a w,c a w->d a w)->b.wp P a w d Q):wpOp P ops Q n c a w:=Ut (uW e) g h
theorem nz{oi:Oper}{r:List Oper}{f:Nat}{L:Array Bool}{a:Act}{w:World}(b:List Nat)(j:ops.toList.drop n=oi::r)
  (m:Region.noSelect ops=true) (i:Region.free md ops L n=true) (l:(Region.ready md ops L).contains n=true)
  (d:(b.contains k && !b.contains n && Vc md ops n b && b.all λc=>!L.getD c true)=true)
  (e:∀c a w,Q (.panic c) (a.put oi.dst v) w->Q (.panic c) a w) (o:YieldsIf P ops S oi v a) (g:S w)
  (h:eq P md ops Q S k f (L.setIfInBounds n true) (a.put oi.dst v) w):eq P md ops Q S k (f+1) L a w:=wX b (uW j) m i l d e o g h
def ei(md:Region.Mode)(ops:Array Oper)(L:Array Bool)(d:Nat):List Nat:=
 (List.range ops.size).foldl (λe _=>(List.range ops.size).filter λb=>b != d && !L.getD b true && match ops[b]? with
  | some g=>g.after.any λc=>Region.binds md c && (c.on == d || e.contains c.on)
  | none=>false) []
theorem C9{oi:Oper}{r:List Oper}{f:Nat}{L:Array Bool}{a:Act}{w:World}(b:Nat)(d:Value)(i:ops.toList.drop b=oi::r) (c:(Region.noSelect ops && Region.free md ops L b && (Region.ready md ops L).contains b && ((ei md ops L b).contains k && !(ei md ops L b).contains b && Vc md ops b (ei md ops L b) && (ei md ops L b).all λe=>!L.getD e true))=true) (g:S w) (j:Region.wanted oi (yielded ops a.tmps)=true) (l:∀w,S w->(execOp a.eval oi).run P w=.ok (.value d) w) (h:eq P md ops (NoPanic Q) S k f (L.setIfInBounds b true) (a.put oi.dst d) w):eq P md ops (NoPanic Q) S k (f+1) L a w:=by simp only[cc] at c;refine nz (ei md ops L b) i c.1.1.1 c.1.1.2 c.1.2 ?_ (λ_ _ _ h=>h) (Or.inl ⟨j,l⟩) g h;simp only[cc];exact c.2
theorem eh{oi:Oper}{r:List Oper}{f:Nat}{L:Array Bool}{a:Act}{w:World}(b:Nat)(g:ops.toList.drop b=oi::r) (c:(Region.noSelect ops && Region.free md ops L b && (Region.ready md ops L).contains b && ((ei md ops L b).contains k && !(ei md ops L b).contains b && Vc md ops b (ei md ops L b) && (ei md ops L b).all λd=>!L.getD d true))=true) (e:S w) (i:Region.wanted oi (yielded ops a.tmps)=false) (h:eq P md ops (NoPanic Q) S k f (L.setIfInBounds b true) (a.put oi.dst undef) w):eq P md ops (NoPanic Q) S k (f+1) L a w:=by simp only[cc] at c;refine nz (ei md ops L b) g c.1.1.1 c.1.1.2 c.1.2 ?_ (λ_ _ _ h=>h) (Or.inr ⟨i,rfl⟩) e h;simp only[cc];exact c.2
end
theorem p1:∀(a:Act) (c:Value) (b:Tmp),a.put (some b) c={ tmps:=a.tmps.setIfInBounds b c,defers:=a.defers }:=λ_ _ _=>rfl
theorem p5(a:Act)(b:Value):a.put none b=a:=rfl
theorem p2{α:Type}(c:List α)(b:Nat)(a:α):c.toArray.setIfInBounds b a=(c.set b a).toArray:=List.setIfInBounds_toArray c b a
theorem p3{α:Type}{x:α}{b:List α}{a:α}:(x::b).set 0 a=a::b:=rfl
variable{k m n:Nat}{V u v:Value}{w:World}{E e:Ex}
theorem p4{α:Type}{x:α}{b:List α}{a:α}:(x::b).set (n+1) a=x::b.set n a:=rfl
section
variable {P:Program}{ops:Array Oper}{Q:Exit->Act->World->Prop}{md:Region.Mode}{S:World->Prop}{k:Nat}{oi:Oper}{r:List Oper}{f:Nat}{L:Array Bool}{a a':Act}{w:World}
theorem ap(b:Nat)(c:Value)(j:ops.toList.drop b=oi::r)(e:S w) (h:eq P md ops (NoPanic Q) S k f (L.setIfInBounds b true) a' w) (m:∀w,S w->(execOp a.eval oi).run P w=.ok (.value c) w:=by intro w n;go_simp) (i:(Region.noSelect ops && Region.free md ops L b && (Region.ready md ops L).contains b && ((ei md ops L b).contains k && !(ei md ops L b).contains b && Vc md ops b (ei md ops L b) && (ei md ops L b).all λd=>!L.getD d true))=true:=by kernel_rfl) (l:Region.wanted oi (yielded ops a.tmps)=true:=by rfl) (g:a.put oi.dst c=a':=by(try simp only[p1,p2,p3,p4,p5]);exact rfl):eq P md ops (NoPanic Q) S k (f+1) L a w:=by subst g;exact C9 b c j i e l m h
theorem bh(b:Nat)(d:ops.toList.drop b=oi::r)
  (h:∀c:Act->World->Prop,Hid (∀a w,((L.setIfInBounds b true).getD k true=false->S w)/\eq P md ops Q S k f (L.setIfInBounds b true) a w->c a w)->oi.wp P a w c Q)
  (e:Region.ready md ops L=[b]:=by kernel_rfl) (g:Region.wanted oi (yielded ops a.tmps)=true:=by rfl):eq P md ops Q S k (f+1) L a w:=sr e (b8 d g h)
theorem bE{b:Act->World->Prop}(c:Hid (∀a w,(L.getD k true=false->S w)/\eq P md ops Q S k f L a w->b a w))(h:eq P md ops Q S k f L a' w)
  (e:¬L.getD k true=false:=by decide) (d:a=a':=by(try simp only[p1,p2,p3,p4,p5]);exact rfl):b a w:=by subst d;exact c _ _ ⟨λg=>absurd g e,h⟩
theorem VP{b:Act->World->Prop}(c:Hid (∀a w,(L.getD k true=false->S w)/\eq P md ops Q S k f L a w->b a w))(d:S w)(h:eq P md ops Q S k f L a' w)
  (e:a=a':=by(try simp only[p1,p2,p3,p4,p5]);exact rfl):b a w:=by subst e;exact c _ _ ⟨λ_=>d,h⟩
theorem cf(h:Q .normal a w)(b:Region.ready md ops L=[]:=by kernel_rfl):eq P md ops (NoPanic Q) S k f L a w:=pd b (NoPanic.normal h) _
theorem bH{id:Nat}(S:World->Prop)(k:Nat)(h:eq P .any ops (NoPanic Q) S k ops.size (Array.replicate ops.size false) a w.drew)(b:P.follows .mixedOrders=true:=by kernel_rfl):(Code.region id ops true).wp P Q a w:=
 wp_region_noPanic (qE b h)
end
theorem EK(e:aH->aH){x:Ex}(B:x.fin)(q:dC w n u)(r:dC w m V)(hF:lL w u e)(M:nX w V x)(d:Option Addr)(p:Nat)(row:List aH)(z:bX w d row)(g:∀x∈row,gW x)(Q:row.length<=140737488355328):Calls prog 103 #[.slice d row.length p,.pointer (some ⟨n,0,none⟩),.pointer (some ⟨m,0,none⟩)] w λb R=>b=.returned (e (co row x)).v/\Bw w R:=by
 have y:=j6 g x B;obtain⟨Y,W,rfl,J,i⟩:=hF;obtain⟨Z,X,rfl,K,j⟩:=M;unfold cr at J K;have a:=am (VT _ w) (.cells #[.int .i64 0,.int .i64 0,.string ⟨#[]⟩] 43);have c3:=ae q a;have G:=ae r a;have o:=H (dM w);have l:=H (j (w.alloc (.cells #[.int .i64 0,.int .i64 0,.string ⟨#[]⟩] 43)).drew d p row (a.drew) (z.aa a.drew) g Q);generalize co row x=C at *;have E:=H (λF N=>i F C N y);generalize e C=b at *;clear i j q r z g y B;go_enter func103,ntmps103;go_upto_region 1 with fail;obtain⟨S,A⟩:=bn (w.alloc (.cells #[.int .i64 0,.int .i64 0,.string ⟨#[]⟩] 43));rw[<-A] at a c3 G o l ⊢;have k:=H a;clear A a;go_cut[] (λc=>(c.cell? ⟨w.heap.size,0,none⟩=some (.int .i64 b.k)/\c.cell? ⟨w.heap.size,1,none⟩=some (.int .i64 b.n)/\c.cell? ⟨w.heap.size,2,none⟩=some (.string b.s))/\Bw w c)
 case first=>
  go_region_with (first
   | (refine(U E _ L).mono ?_;rintro I VX ⟨rfl,P⟩;rw[aH.open_];have s:=ac f P;obtain⟨V1,V2,V3,V4,V5,V6⟩:=(U o).aa s)
   | (refine(U l).mono ?_;rintro I VW ⟨rfl,O⟩;have f:=ac ((VT _ S).drew) O;have L:=ac (U k) f;have T:=ae c3 f))
  all_goals go_wp2;go_meet;refine⟨⟨by simp[go_sem, *],by simp[go_sem, *],by simp[go_sem, *]⟩,?_⟩;exact kD (ac (U k) s) bi _ _ _
 case rest=>obtain⟨⟨VY,VZ,V0⟩,t⟩:=hcut;have D:=H t;clear t;go_wp2;exact bs (v:=b.v) (by simp[results,results103,go_sem,aH.v, *]) rfl ⟨rfl,U D⟩
theorem EJ(M:aH->aH->aH){x:Ex}{O:Value}(V4:x.fin)(V5:e.fin)(X:dC w n u)(Y:dC w m V)(Z:dC w k O)(hF:sA w u M)(Wh:nX w V x)(Wi:nX w O e)(g:Option Addr)(t:Nat)(row:List aH)(N:bX w g row)(D:∀x∈row,gW x)(V0:row.length<=140737488355328):Calls prog 105 #[.slice g row.length t,.pointer (some ⟨n,0,none⟩),.pointer (some ⟨m,0,none⟩),.pointer (some ⟨k,0,none⟩)] w λs a=>s=.returned (M (co row x) (co row e)).v/\Bw w a:=by
 have V1:=j6 D x V4;have V2:=j6 D e V5;obtain⟨p,j,rfl,Wc,P⟩:=hF;obtain⟨q,l,rfl,Wd,Q⟩:=Wh;obtain⟨r,o,rfl,We,R⟩:=Wi;unfold cr at Wc Wd We;have d:=am (VT _ w) (.cells #[.int .i64 0,.int .i64 0,.string ⟨#[]⟩] 43);have y:=ae X d;have z:=ae Y d;have c3:=ae Z d;have T:=H (dM w);have S:=H (Q (w.alloc (.cells #[.int .i64 0,.int .i64 0,.string ⟨#[]⟩] 43)).drew g t row (d.drew) (N.aa d.drew) D V0);have Wb:=H (λL E=>R L g t row E (N.aa E) D V0);generalize co row x=V6 at *;generalize co row e=V7 at *;have Wa:=H (λL E=>P L V6 V7 E V1 V2);generalize M V6 V7=s at *;clear P Q R X Y Z N D V1 V2 V4 V5;go_enter func105,ntmps105;go_upto_region 1 with fail;obtain⟨V8,V3⟩:=bn (w.alloc (.cells #[.int .i64 0,.int .i64 0,.string ⟨#[]⟩] 43));rw[<-V3] at d y z c3 T S ⊢;have K:=H d;clear V3 d;go_cut[] (λJ=>(J.cell? ⟨w.heap.size,0,none⟩=some (.int .i64 s.k)/\J.cell? ⟨w.heap.size,1,none⟩=some (.int .i64 s.n)/\J.cell? ⟨w.heap.size,2,none⟩=some (.string s.s))/\Bw w J);case first=>have i:(λa:World=>a.cell? ⟨n,0,none⟩=some (.func (.func p) #[] j)/\a.cell? ⟨m,0,none⟩=some (.func (.func q) #[] l)/\a.cell? ⟨k,0,none⟩=some (.func (.func r) #[] o)) V8.drew:=⟨y,z,c3⟩;refine bH (λa:World=>a.cell? ⟨n,0,none⟩=some (.func (.func p) #[] j)/\a.cell? ⟨m,0,none⟩=some (.func (.func q) #[] l)/\a.cell? ⟨k,0,none⟩=some (.func (.func r) #[] o)) 8 ?_;(refine ap 0 (.func (.func p) #[] j) rfl i ?_ λa c=>by obtain⟨F,G,I⟩:=c;go_simp);(refine ap 1 (.func (.func q) #[] l) rfl i ?_ λa c=>by obtain⟨F,G,I⟩:=c;go_simp);(refine ap 2 (.slice g row.length t) rfl i ?_ λa c=>by obtain⟨F,G,I⟩:=c;go_simp);(refine ap 4 (.func (.func r) #[] o) rfl i ?_ λa c=>by obtain⟨F,G,I⟩:=c;go_simp);(refine ap 5 (.slice g row.length t) rfl i ?_ λa c=>by obtain⟨F,G,I⟩:=c;go_simp);refine bh 3 rfl λf b=>?_;go_simp;refine(U S).mono ?_;rintro W Wm ⟨rfl,Wj⟩;have B:=ac ((VT _ V8).drew) Wj;have Wf:=ac (U K) B;have VW:(λa:World=>a.cell? ⟨n,0,none⟩=some (.func (.func p) #[] j)/\a.cell? ⟨m,0,none⟩=some (.func (.func q) #[] l)/\a.cell? ⟨k,0,none⟩=some (.func (.func r) #[] o)) Wm:=⟨ae y B,ae z B,ae c3 B⟩;go_simp;refine VP b VW ?_;clear b f;refine bh 6 rfl λf b=>?_;go_simp;refine(U Wb _ Wf).mono ?_;rintro W Wn ⟨rfl,Wk⟩;have C:=ac B Wk;have Wg:=ac (U K) C;have VX:(λa:World=>a.cell? ⟨n,0,none⟩=some (.func (.func p) #[] j)/\a.cell? ⟨m,0,none⟩=some (.func (.func q) #[] l)/\a.cell? ⟨k,0,none⟩=some (.func (.func r) #[] o)) Wn:=⟨ae y C,ae z C,ae c3 C⟩;go_simp;refine VP b VX ?_;clear b f;refine bh 7 rfl λf b=>?_;go_simp;refine(U Wa _ Wg).mono ?_;rintro W Wp ⟨rfl,Wl⟩;have A:=ac C Wl;have VY:(λa:World=>a.cell? ⟨n,0,none⟩=some (.func (.func p) #[] j)/\a.cell? ⟨m,0,none⟩=some (.func (.func q) #[] l)/\a.cell? ⟨k,0,none⟩=some (.func (.func r) #[] o)) Wp:=⟨ae y A,ae z A,ae c3 A⟩;obtain⟨Wt,Wu,Wv,Ww,Wx,Wy⟩:=(U T).aa A;rw[aH.open_];go_simp;refine VP b VY ?_;clear b f;refine bh 8 rfl λf b=>?_;go_simp;refine bE b ?_;clear b f;refine cf ?_;clear i VW VX VY;go_wp2;go_meet;refine⟨⟨by simp[go_sem, *],by simp[go_sem, *],by simp[go_sem, *]⟩,?_⟩;exact kD (ac (U K) A) bi _ _ _
 case rest=>obtain⟨⟨Wq,Wr,Ws⟩,VZ⟩:=hcut;have V9:=H VZ;clear VZ;go_wp2;exact bs (v:=s.v) (by simp[results,results105,go_sem,aH.v, *]) rfl ⟨rfl,U V9⟩
theorem EI{x:Ex}{z:Value}(G:dC w n u)(I:dC w m V)(J:dC w k z)(R:nX w u x)(S:nX w V e)(T:nX w z E)(b:Option Addr)(l:Nat)(row:List aH)(p:bX w b row)(r:∀x∈row,gW x)(y:row.length<=140737488355328):Calls prog 106 #[.slice b row.length l,.pointer (some ⟨n,0,none⟩),.pointer (some ⟨m,0,none⟩),.pointer (some ⟨k,0,none⟩)] w λW VW=>W=.returned (if VK (co row x) then co row e else co row E).v/\Bw w VW:=by
 obtain⟨Wb,V8,rfl,O,A⟩:=R;obtain⟨Wc,V9,rfl,P,B⟩:=S;obtain⟨Wd,Wa,rfl,Q,C⟩:=T;unfold cr at O P Q;have o:=am (VT _ w) (.cells #[.int .i64 0,.int .i64 0,.string ⟨#[]⟩] 43);have V6:=ae G o;have F:=H (dM w);have D:=H (A (w.alloc (.cells #[.int .i64 0,.int .i64 0,.string ⟨#[]⟩] 43)) b l row o (p.aa o) r y);have M:=H (λs d=>B s b l row d (p.aa d) r y);have N:=H (λs d=>C s b l row d (p.aa d) r y);have j:=H (il (co row x));generalize co row x=X at *;generalize co row e=Y at *;generalize co row E=Z at *;have K:=H I;have L:=H J;clear A B C G I J p r o;cases q:VK X
 .rw[q] at j;clear q;go_enter func106,ntmps106
  go_wp2_with (first
   | (go_at_call 19;refine(U j _).mono ?_;rintro c VY ⟨rfl,g⟩;have a:=ac t g;have c3:=ae (U L) a)
   | (refine(U N _ a).mono ?_;rintro c VZ ⟨rfl,i⟩;rw[aH.open_];obtain⟨V0,V1,V2,V3,V4,V5⟩:=(U F).aa (ac f (ac g i)))
   | (refine(U D).mono ?_;rintro c VX ⟨rfl,f⟩;have t:=ch f))
  refine bs (v:=Z.v) (by simp[results,results106,go_sem,aH.v, *]) rfl ⟨by first|rfl|simp,?_⟩;exact kD (ac a i) bi _ _ _
 .rw[q] at j;clear q;go_enter func106,ntmps106
  go_wp2_with (first
   | (go_at_call 19;refine(U j _).mono ?_;rintro c VY ⟨rfl,g⟩;have a:=ac t g;have V7:=ae (U K) a)
   | (refine(U M _ a).mono ?_;rintro c VZ ⟨rfl,i⟩;rw[aH.open_];obtain⟨V0,V1,V2,V3,V4,V5⟩:=(U F).aa (ac f (ac g i)))
   | (refine(U D).mono ?_;rintro c VX ⟨rfl,f⟩;have t:=ch f))
  refine bs (v:=Y.v) (by simp[results,results106,go_sem,aH.v, *]) rfl ⟨by first|rfl|simp,?_⟩;exact kD (ac a i) bi _ _ _
end Go.Proofs.YtklgoolblpmmlaaGreat
