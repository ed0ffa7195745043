import Derived.Test.YtabmgpillccfaaaGreatDoorExG
import Derived.OrdersHeld
set_option linter.all false
namespace Go.Proofs.YtabmgpillccfaaaGreatDoor
open Go.RowKit Go.Sort Go.Proofs.Tryz
section
variable {P:Program}{ops:Array Oper}{Q:Exit->Act->World->Prop}{md:Region.Mode}{S:World->Prop}{k:Nat}
def dA(P:Program)(md:Region.Mode)(ops:Array Oper)(Q:Exit->Act->World->Prop)(S:World->Prop)(k:Nat):Nat->Array Bool->Act->World->Prop
 | 0,a,b,c=>Region.ready md ops a=[]/\Q .normal b c
 | g+1,a,b,c=>(Region.ready md ops a=[]->Q .normal b c)/\∀d∈Region.ready md ops a,wpOp P ops Q d (λf e=>((a.setIfInBounds d true).getD k true=false->S e)/\dA P md ops Q S k g (a.setIfInBounds d true) f e) b c
theorem mr:∀(a:Nat) (b:Array Bool) (c:Act) (d:World),dA P md ops Q S k a b c d->wpAny P md ops Q a b c d
 | 0,_,_,_,h=>h
 | a+1,_,_,_,h=>⟨h.1,λi g=>wpOp_mono (λe j f=>mr a _ e j f.2) (h.2 i g)⟩
def hs(md:Region.Mode)(ops:Array Oper)(d:Nat)(b:List Nat):Bool:=
 b.all λc=>match ops[c]? with
  | some e=>e.after.any λa=>Region.binds md a && (a.on == d || b.contains a.on)
  | none=>true
variable{m n:Nat}{v:Value}{w:World}
theorem pg{f:List Nat}{b:Array Bool}(x:hs md ops n f=true)(p:∀c∈f,b.getD c true=false)(s:n∈Region.ready md ops b)(t:m∈Region.ready md ops b):m ∉ f:=by
 intro u;have o:∀c,b.getD c true=false->b.getD c false=true->False:=by intro c l a;rcases Nat.lt_or_ge c b.size with g | g;(.simp[g] at l a;rw[l] at a;cases a);.simp[Array.getElem?_eq_none g] at a
 obtain⟨_,y,w,q⟩:=mem_ready.1 t;have a:=List.all_eq_true.1 x m u;simp only[w] at a;obtain⟨d,r,e⟩:∃d,d∈y.after/\(Region.binds md d && (d.on == n || f.contains d.on))=true:=by obtain⟨z,v,e⟩:=Array.any_eq_true.1 a;exact⟨_,Array.getElem_mem v,e⟩
 simp only[dW,Bool.or_eq_true,beq_iff_eq,List.contains_iff_mem] at e;have i:=q d r e.1;rcases e.2 with j|j;.rw[j] at i;exact o _ (mem_ready.1 s).1 i
 .exact o _ (p _ j) i
theorem nJ{l:Oper}{K:List Nat}(B:ops[n]?=some l)(M:∀(a:Nat) (O:Oper) q p,ops[a]?=some O->O.op≠.select q p) (X:∀b e i,Q (.panic b) (e.put l.dst v) i->Q (.panic b) e i) (C:k∈K) (V0:n ∉ K) (V6:hs md ops n K=true):∀(r:Nat) (c:Array Bool) (e:Act) (i:World), (∀a m,ops[a]?=some m->a≠n->c.getD a true=false->(∀d∈m.after,Region.binds md d=true->d.on≠n)->l.apart ops m=true)->(∀b∈K,c.getD b true=false)->n∈Region.ready md ops c->YieldsIf P ops S l v e->S i->dA P md ops Q S k r (c.setIfInBounds n true) (e.put l.dst v) i->dA P md ops Q S k (r+1) c e i:=by
 intro r;induction r with
 | zero=>intro c e i _ _ g x s o;refine⟨λh=>(by rw[h] at g;cases g),λa t=>?_⟩;by_cases f:a=n;(.subst f;exact x.wpOp B s ⟨λ_=>s,o⟩);.have:=ready_mono t f;rw[o.1] at this;cases this
 | succ r V7=>intro c e i G A g x s o;refine⟨λh=>(by rw[h] at g;cases g),λa t=>?_⟩;by_cases f:a=n;(.subst f;exact x.wpOp B s ⟨λ_=>s,o⟩);.have I:=pg V6 A g t;have j:=o.2 a (ready_mono t f);obtain⟨L,m,D,Y⟩:=mem_ready.1 t;(have V5:∀d∈m.after,Region.binds md d=true->d.on≠n:=λd VX Z VY=>by have j:=Y d VX Z;have E:=(mem_ready.1 g).1;rw[VY] at j;rcases Nat.lt_or_ge n c.size with y | y;(.simp[y] at E j;rw[E] at j;cases j);.simp[Array.getElem?_eq_none y] at j);have V:=wpOp_putIf D (G a m D f L V5) (λq p=>M n l q p B) (λq p=>M a m q p D) X x j;(have VZ:∀b u,ops[b]?=some u->b≠n->(c.setIfInBounds a true).getD b true=false->(∀d∈u.after,Region.binds md d=true->d.on≠n)->l.apart ops u=true:=λb u w VW N V4=>by refine G b u w VW ?_ V4;by_cases J:a=b;(.subst J;exact L);.rw[getD_set_ne true J] at N;exact N);(have W:∀b∈K,(c.setIfInBounds a true).getD b true=false:=λb w=>by have V3:a≠b:=λh=>I (by rw[h];exact w);rw[getD_set_ne true V3];exact A b w);refine wpOp_mono (λT R z=>?_) V;have V2:a≠k:=λh=>I (by rw[h];exact C);have V1:n≠k:=λh=>V0 (by rw[h];exact C);have F:S R:=z.2.1 (by rw[getD_set_ne true V2,getD_set_ne true V1];exact A k C);refine⟨λ_=>F,V7 (c.setIfInBounds a true) T R VZ W (ready_mono g (Ne.symm f)) z.1 F ?_⟩;rw[Array.setIfInBounds_comm _ _ f];exact z.2.2
theorem pM{f:Oper}{c:Array Bool}{a:Act}(b:List Nat)(g:ops[n]?=some f) (q:Region.noSelect ops=true) (l:Region.free md ops c n=true) (p:(Region.ready md ops c).contains n=true) (d:(b.contains k && !b.contains n && hs md ops n b && b.all λe=>!c.getD e true)=true) (i:∀e a w,Q (.panic e) (a.put f.dst v) w->Q (.panic e) a w) (r:YieldsIf P ops S f v a) (j:S w) (h:dA P md ops Q S k m (c.setIfInBounds n true) (a.put f.dst v) w):dA P md ops Q S k (m+1) c a w:=by simp only[dW,List.contains_iff_mem,Bool.not_eq_true',List.all_eq_true] at d;refine nJ (K:=b) g (Region.noSelect_spec q) i d.1.1.1 (λo=>?_) d.1.2 m c a w (Region.free_spec g l) d.2 (by simpa using p) r j h;have:=d.1.1.2;rw[List.contains_iff_mem.2 o] at this;cases this
theorem ce{i:Nat}{a:Array Bool}{b:Act}(e:Region.ready md ops a=[i])
  (h:wpOp P ops Q i (λg f=>((a.setIfInBounds i true).getD k true=false->S f)/\dA P md ops Q S k n (a.setIfInBounds i true) g f) b w):dA P md ops Q S k (n+1) a b w:=
 ⟨λc=>(by rw[e] at c;cases c),λj d=>by rw[e,List.mem_singleton] at d;subst d;exact h⟩
theorem rl{c:Oper}{a:Act}{b:Act->World->Prop}(e:ops[n]?=some c)(f:Region.wanted c (yielded ops a.tmps)=true) (h:∀d:Act->World->Prop,Hid (∀a w,b a w->d a w)->c.wp P a w d Q):wpOp P ops Q n b a w:=by unfold wpOp;simp only[e,f,if_true];exact .inl (h b (VV λ_ _ h=>h))
theorem d6{a:Array Bool}{b:Act}(c:Region.ready md ops a=[])(h:Q .normal b w):∀d,dA P md ops Q S k d a b w
 | 0=>⟨c,h⟩
 | _+1=>⟨λ_=>h,by rw[c];simp⟩
theorem dn{id:Nat}{a:Act}(b:P.follows .mixedOrders=true)
  (h:dA P .any ops Q S k ops.size (Array.replicate ops.size false) a { w with drawn:=w.drawn+1 }):(Code.region id ops true).wp P Q a w:=
 wp_region_any b (mr _ _ _ _ h)
theorem k6{α:Type}{a:Array α}{b:α}{d:List α}(h:a.toList.drop n=b::d):a[n]?=some b:=by
 have c:(a.toList.drop n)[0]?=some b:=by rw[h];rfl
 rw[List.getElem?_drop] at c;simpa using c
theorem cr{b:Oper}{g:List Oper}{a:Act}{c:Act->World->Prop}(e:ops.toList.drop n=b::g)(f:Region.wanted b (yielded ops a.tmps)=true)
  (h:∀d:Act->World->Prop,Hid (∀a w,c a w->d a w)->b.wp P a w d Q):wpOp P ops Q n c a w:=rl (k6 e) f h
theorem bU{i:Nat}{e:Oper}{r:List Oper}{v:Value}{c:Array Bool}{a:Act}(b:List Nat)(m:ops.toList.drop i=e::r)
  (p:Region.noSelect ops=true) (l:Region.free md ops c i=true) (o:(Region.ready md ops c).contains i=true)
  (f:(b.contains k && !b.contains i && hs md ops i b && b.all λd=>!c.getD d true)=true)
  (g:∀d a w,Q (.panic d) (a.put e.dst v) w->Q (.panic d) a w) (q:YieldsIf P ops S e v a) (j:S w)
  (h:dA P md ops Q S k n (c.setIfInBounds i true) (a.put e.dst v) w):dA P md ops Q S k (n+1) c a w:=pM b (k6 m) p l o f g q j h
end
section
variable {P:Program}{ops:Array Oper}{Q:Exit->Act->World->Prop}{md:Region.Mode}{S:World->Prop}{k:Nat}
def cG(md:Region.Mode)(ops:Array Oper)(L:Array Bool)(d:Nat):List Nat:=
 (List.range ops.size).foldl (λe _=>(List.range ops.size).filter λb=>b != d && !L.getD b true && match ops[b]? with
  | some g=>g.after.any λc=>Region.binds md c && (c.on == d || e.contains c.on)
  | none=>false) []
theorem sF{oi:Oper}{r:List Oper}{f:Nat}{L:Array Bool}{a:Act}{w:World}(b:Nat)(d:Value)(i:ops.toList.drop b=oi::r) (c:(Region.noSelect ops && Region.free md ops L b && (Region.ready md ops L).contains b && ((cG md ops L b).contains k && !(cG md ops L b).contains b && hs md ops b (cG md ops L b) && (cG md ops L b).all λe=>!L.getD e true))=true) (g:S w) (j:Region.wanted oi (yielded ops a.tmps)=true) (l:∀w,S w->(execOp a.eval oi).run P w=.ok (.value d) w) (h:dA P md ops (NoPanic Q) S k f (L.setIfInBounds b true) (a.put oi.dst d) w):dA P md ops (NoPanic Q) S k (f+1) L a w:=by simp only[dW] at c;refine bU (cG md ops L b) i c.1.1.1 c.1.1.2 c.1.2 ?_ (λ_ _ _ h=>h) (Or.inl ⟨j,l⟩) g h;simp only[dW];exact c.2
theorem nI{oi:Oper}{r:List Oper}{f:Nat}{L:Array Bool}{a:Act}{w:World}(b:Nat)(g:ops.toList.drop b=oi::r) (c:(Region.noSelect ops && Region.free md ops L b && (Region.ready md ops L).contains b && ((cG md ops L b).contains k && !(cG md ops L b).contains b && hs md ops b (cG md ops L b) && (cG md ops L b).all λd=>!L.getD d true))=true) (e:S w) (i:Region.wanted oi (yielded ops a.tmps)=false) (h:dA P md ops (NoPanic Q) S k f (L.setIfInBounds b true) (a.put oi.dst undef) w):dA P md ops (NoPanic Q) S k (f+1) L a w:=by simp only[dW] at c;refine bU (cG md ops L b) g c.1.1.1 c.1.1.2 c.1.2 ?_ (λ_ _ _ h=>h) (Or.inr ⟨i,rfl⟩) e h;simp only[dW];exact c.2
end
theorem p1:∀(a:Act) (c:Value) (b:Tmp),a.put (some b) c={ tmps:=a.tmps.setIfInBounds b c,defers:=a.defers }:=λ_ _ _=>rfl
theorem p5(a:Act)(b:Value):a.put none b=a:=rfl
theorem p2{α:Type}(c:List α)(b:Nat)(a:α):c.toArray.setIfInBounds b a=(c.set b a).toArray:=List.setIfInBounds_toArray c b a
theorem p3{α:Type}{c:α}{b:List α}{a:α}:(c::b).set 0 a=a::b:=rfl
variable{m n:Nat}{v:Value}{w:World}
theorem p4{α:Type}{b:α}{c:List α}{a:α}:(b::c).set (n+1) a=b::c.set n a:=rfl
section
variable {P:Program}{ops:Array Oper}{Q:Exit->Act->World->Prop}{md:Region.Mode}{S:World->Prop}{k:Nat}{oi:Oper}{r:List Oper}{f:Nat}{L:Array Bool}{a a':Act}{w:World}
theorem ai(b:Nat)(c:Value)(j:ops.toList.drop b=oi::r)(e:S w) (h:dA P md ops (NoPanic Q) S k f (L.setIfInBounds b true) a' w) (m:∀w,S w->(execOp a.eval oi).run P w=.ok (.value c) w:=by intro w n;go_simp) (i:(Region.noSelect ops && Region.free md ops L b && (Region.ready md ops L).contains b && ((cG md ops L b).contains k && !(cG md ops L b).contains b && hs md ops b (cG md ops L b) && (cG md ops L b).all λd=>!L.getD d true))=true:=by kernel_rfl) (l:Region.wanted oi (yielded ops a.tmps)=true:=by rfl) (g:a.put oi.dst c=a':=by(try simp only[p1,p2,p3,p4,p5]);exact rfl):dA P md ops (NoPanic Q) S k (f+1) L a w:=by subst g;exact sF b c j i e l m h
theorem ap(b:Nat)(d:ops.toList.drop b=oi::r)
  (h:∀c:Act->World->Prop,Hid (∀a w,((L.setIfInBounds b true).getD k true=false->S w)/\dA P md ops Q S k f (L.setIfInBounds b true) a w->c a w)->oi.wp P a w c Q)
  (e:Region.ready md ops L=[b]:=by kernel_rfl) (g:Region.wanted oi (yielded ops a.tmps)=true:=by rfl):dA P md ops Q S k (f+1) L a w:=ce e (cr d g h)
theorem aS{b:Act->World->Prop}(c:Hid (∀a w,(L.getD k true=false->S w)/\dA P md ops Q S k f L a w->b a w))(h:dA P md ops Q S k f L a' w)
  (e:¬L.getD k true=false:=by decide) (d:a=a':=by(try simp only[p1,p2,p3,p4,p5]);exact rfl):b a w:=by subst d;exact c _ _ ⟨λg=>absurd g e,h⟩
theorem aO{b:Act->World->Prop}(c:Hid (∀a w,(L.getD k true=false->S w)/\dA P md ops Q S k f L a w->b a w))(d:S w)(h:dA P md ops Q S k f L a' w)
  (e:a=a':=by(try simp only[p1,p2,p3,p4,p5]);exact rfl):b a w:=by subst e;exact c _ _ ⟨λ_=>d,h⟩
theorem bh(h:Q .normal a w)(b:Region.ready md ops L=[]:=by kernel_rfl):dA P md ops (NoPanic Q) S k f L a w:=d6 b (NoPanic.normal h) _
theorem VR{id:Nat}(S:World->Prop)(k:Nat)(h:dA P .any ops (NoPanic Q) S k ops.size (Array.replicate ops.size false) a w.drew)(b:P.follows .mixedOrders=true:=by kernel_rfl):(Code.region id ops true).wp P Q a w:=
 wp_region_noPanic (dn b h)
end
end Go.Proofs.YtabmgpillccfaaaGreatDoor
