import Derived.Test.YtekgpapophibcaaGreatRyW
set_option linter.unusedSimpArgs false
set_option linter.unusedVariables false
set_option maxHeartbeats 8000000
set_option maxRecDepth 100000
namespace Go.Proofs.YtekgpapophibcaaGreat
open Go.RowKit Go.Sort
def zNb(a i j:Nat)(L:List Val):Prop:=(∀p q,a<=p->p<q->q<=i->p≠j->q≠j->zAh (atL L p) (atL L q)<=0)/\∀q,j<q->q<=i->zAh (atL L j) (atL L q)<=0
theorem zNb.start{a i:Nat}{L:List Val}(h:SAB a i L):zNb a i i L:=⟨fun p q h1 h2 h3 h4 h5=>h p q h1 h2 (by omega),fun q h1 h2=>by omega⟩
theorem zNb.step{a i j:Nat}{L:List Val}(h:zNb a i j L)(hj:a<j)(GA:j<=i)(hi:i<L.length)(He:zAh (atL L j) (atL L (j-1))<0):zNb a i (j-1) (zGd L j (j-1)):=by
 have hs:=zEW (L:=L) (i:=j) (j:=j-1) (by omega) (by omega)
 refine⟨fun p q h1 h2 h3 h4 h5=>?_,fun q h1 h2=>?_⟩
 ·rw[hs,hs,if_neg h4,if_neg h5]
  by_cases e1:p=j
  ·rw[if_pos e1]
   by_cases e2:q=j
   ·omega
   ·rw[if_neg e2]
    exact h.1 (j-1) q (by omega) (by omega) h3 (by omega) e2
  ·rw[if_neg e1]
   by_cases e2:q=j
   ·rw[if_pos e2]
    exact h.1 p (j-1) h1 (by omega) (by omega) e1 (by omega)
   ·rw[if_neg e2]
    exact h.1 p q h1 h2 h3 e1 e2
 ·rw[hs,hs,if_pos rfl,if_neg (by omega)]
  by_cases e2:q=j
  ·rw[if_pos e2]
   omega
  ·rw[if_neg e2]
   exact h.2 q (by omega) h2
theorem zNb.stop{a i j:Nat}{L:List Val}(h:zNb a i j L)(haj:a<=j)(GA:j<=i)(hs:j=a∨¬zAh (atL L j) (atL L (j-1))<0):SAB a (i+1) L:=fun p q h1 h2 h3=>by
 by_cases e1:p=j
 ·subst e1;exact h.2 q h2 (by omega)
 ·by_cases e2:q=j
  ·subst e2
   rcases hs with e|e
   ·omega
   ·have h4:=zBA (atL L q) (atL L (q-1))
    have h5:zAh (atL L (q-1)) (atL L q)<=0:=by omega
    by_cases e3:p=q-1
    ·rw[e3];exact h5
    ·exact zBz (h.1 p (q-1) h1 (by omega) (by omega) e1 (by omega)) h5
  ·exact h.1 p q h1 h2 (by omega) e1 e2
theorem zN5{x y:Val}(h:ltV x y=true):zAh x y<0:=by simpa [ltV] using h
theorem zN6{x y:Val}(h:ltV x y=false):¬zAh x y<0:=by simpa [ltV] using h
theorem zId(T:zAQ)(W:World)(L:List Val)(a b:Nat)(hT:T.OK W)(hO:zAV W T.base T.v L)(yh:a<=b)(hb:b<=T.N) :
  Calls Tryz.prog 138 #[.agg #[T.less,T.swap],.int .i64 a,.int .i64 b] W fun e w'=>e=.returned (.tuple #[])/\∃L',zAV w' T.base T.v L'/\zAt W w' T.v T.v/\PAB a b L L'/\SAB a b L':=by
 have H0:=zA3 (zAQ.start hT hO)
 have Ti:=hT.small
 clear hT hO
 go_enter Tryz.func138,Tryz.ntmps138
 go_wp2_with fail
 go_loopw[6] (fun s wr=>∃(i:Nat) (L':List Val),s=.int .i64 (i:Int)/\a<i/\i<=b+1/\Hid (T.At W.heap.size (W.alloc (.cells #[T.less,T.swap] 164)) wr L')/\Hid (PAB a b L L')/\Hid (SAB a (min i b) L')) (fun s _=>b+1-(intOf s).toNat)
 case atStart=>exact⟨a+1,L,by go_num,by omega,by omega,H0,PAB.refl _ _ _,SAB.one (by omega) _⟩
 case round=>
  obtain⟨i,L',rfl,hai,hib,HA,HP,HS⟩:=hrel
  by_cases h1:i<b
  ·have i1:(i:Int)<(b:Int):=by omega
   have JF:Hid (zNb a i i L'):=by
    have h2:=zA0 HS
    rw[Nat.min_eq_left (by omega)] at h2
    exact zNb.start h2
   go_wp2_with fail
   go_loopw[7] (fun s wv=>∃(j:Nat) (M:List Val),s=.int .i64 (j:Int)/\a<=j/\j<=i/\Hid (T.At W.heap.size (W.alloc (.cells #[T.less,T.swap] 164)) wv M)/\Hid (PAB a b L M)/\Hid (zNb a i j M)) (fun s _=>(intOf s).toNat)
   case atStart=>exact⟨i,L',rfl,by omega,Nat.le_refl _,HA,HP,JF⟩
   case round=>
    obtain⟨j,M,rfl,haj,GA,Gv,HPM,HD⟩:=hrel
    have c0:=(zA0 Gv).c0
    have c1:=(zA0 Gv).c1
    have Hf:=zAQ.lenL (zA0 Gv).own
    unfold zAQ.less at c0
    unfold zAQ.swap at c1
    by_cases h2:a<j
    ·have i2:(a:Int)<(j:Int):=by omega
     have Tl:((j-1:Nat):Int)=(j:Int)-1:=by omega
     have HL:=zA3 (zFL T wr M j (j-1) (zA0 Gv).ok (zA0 Gv).own (by omega) (by omega))
     rw[Tl] at HL
     cases He:ltV (atL M j) (atL M (j-1))
     ·rw[He] at HL
      have HE:=zA3 (zNb.stop (zA0 HD) haj GA (.inr (zN6 He)))
      clear He Tl
      go_wp2_with (go_at_call 90;refine(zA0 HL).mono ?_;rintro e w2 ⟨rfl,Hh⟩;replace Hh:=zA3 Hh)
      go_roundw
      case rel=>exact⟨i+1,M,by go_num,by omega,by omega,(zA0 Gv).below (zA0 Hh),HPM,by rw[Nat.min_eq_left (by omega)];exact HE⟩
      case measure=>first | (simp[intOf];omega) | (simp only[intOf];omega)
     ·rw[He] at HL
      have qm:=zA3 (zNb.step (zA0 HD) h2 GA (by omega) (zN5 He))
      have Jn:=zA3 ((zA0 HPM).trans (PAB.swap (a:=a) (b:=b) (i:=j) (j:=j-1) (by omega) (by omega) (by omega) (by omega) (by omega) (by omega)))
      have SW:Hid (∀w2,Below wr.heap.size wr w2->w2.cell? ⟨W.heap.size,1,none⟩=some (.func (.func T.SF) #[] T.sb)/\∃W',(callFunc T.SF (#[.int .i64 (j:Int),.int .i64 ((j:Int)-1)]++T.sb)).run Tryz.prog w2=.ok (.value (.tuple #[])) W'/\Hid (T.At W.heap.size (W.alloc (.cells #[T.less,T.swap] 164)) W' (zGd M j (j-1)))):=fun w2 Hh=>by
       have h3:=(zA0 Gv).below Hh
       obtain⟨W',q1,q2⟩:=h3.swp (i:=j) (j:=j-1) (by omega) (by omega)
       rw[Tl] at q1
       exact⟨h3.c1,W',q1,q2⟩
      clear He Tl
      go_wp2_with (go_at_call 90;refine(zA0 HL).mono ?_;rintro e w2 ⟨rfl,Hh⟩;obtain⟨c2,W',Jp,Qy⟩:=zA0 SW _ Hh;replace Jp:=zA3 Jp;clear Hh)
      rw[zA0 Jp,Oper.upon_value]
      go_wp2
      go_roundw
      case rel=>exact⟨j-1,_,by go_num,by omega,by omega,Qy,Jn,qm⟩
      case measure=>first | (simp[intOf];omega) | (simp only[intOf];omega)
    ·have i2:¬(a:Int)<(j:Int):=by omega
     have HE:=zA3 (zNb.stop (zA0 HD) haj GA (.inl (by omega)))
     clear Hf
     go_wp2
     go_roundw
     case rel=>exact⟨i+1,M,by go_num,by omega,by omega,Gv,HPM,by rw[Nat.min_eq_left (by omega)];exact HE⟩
     case measure=>first | (simp[intOf];omega) | (simp only[intOf];omega)
  ·have i1:¬(i:Int)<(b:Int):=by omega
   have JF:Hid (SAB a b L'):=by
    have h2:=zA0 HS
    rw[Nat.min_eq_right (by omega)] at h2
    exact h2
   go_wp2
   go_end0
   exact⟨rfl,L',(zA0 HA).own,(zA0 HA).back,zA0 HP,zA0 JF⟩
def upF(f:Nat->Val)(a k:Nat)(q:Nat):Val:=if a<=q/\q<k then f (q+1) else if q=k then f a else f q
theorem zO5(f:Nat->Val)(a:Nat):upF f a a=f:=by
 funext q
 unfold upF
 rw[if_neg (by omega)]
 split
 ·rename_i h;rw[h]
 ·rfl
theorem zQh{L:List Val}{f:Nat->Val}{a k:Nat}(GC:a<=k)(hk:k+1<L.length)(h:∀q,atL L q=upF f a k q):∀q,atL (zGd L k (k+1)) q=upF f a (k+1) q:=by
 intro q
 rw[zEW (by omega) hk]
 unfold upF at *
 by_cases h1:q=k+1
 ·rw[if_pos h1,h,if_neg (by omega),if_pos rfl,if_neg (by omega),if_pos h1]
 ·rw[if_neg h1]
  by_cases h2:q=k
  ·rw[if_pos h2,h,if_neg (by omega),if_neg (by omega),if_pos (by omega),h2]
  ·rw[if_neg h2,h]
   by_cases h3:a<=q/\q<k
   ·rw[if_pos h3,if_pos (by omega)]
   ·rw[if_neg h3,if_neg h2,if_neg (by omega),if_neg h1]
theorem zO4{L L':List Val}{a b i:Nat}(hi:a+1<=i)(hib:i<=b)(hS:SAB (a+1) b L)(Tj:i=a+1∨zAh (atL L (i-1)) (atL L a)<0)(FK:i=b∨¬zAh (atL L i) (atL L a)<0)(h:∀q,atL L' q=upF (atL L) a (i-1) q):SAB a b L':=by
 have lo:∀q,a+1<=q->q<i->zAh (atL L q) (atL L a)<=0:=fun q h1 h2=>by
  rcases Tj with e|e
  ·omega
  ·exact zBz (hS.le h1 (by omega:q<=i-1) (by omega)) (by omega)
 have Gl:∀q,i<=q->q<b->zAh (atL L a) (atL L q)<=0:=fun q h1 h2=>by
  rcases FK with e|e
  ·omega
  ·have:=zBA (atL L i) (atL L a)
   exact zBz (by omega) (hS.le hi h1 h2)
 intro p q h1 h2 h3
 rw[h p,h q]
 unfold upF
 by_cases p1:a<=p/\p<i-1
 ·rw[if_pos p1]
  by_cases q1:a<=q/\q<i-1
  ·rw[if_pos q1];exact hS (p+1) (q+1) (by omega) (by omega) (by omega)
  ·rw[if_neg q1]
   by_cases q2:q=i-1
   ·rw[if_pos q2];exact lo (p+1) (by omega) (by omega)
   ·rw[if_neg q2];exact hS (p+1) q (by omega) (by omega) h3
 ·rw[if_neg p1]
  by_cases p2:p=i-1
  ·rw[if_pos p2,if_neg (by omega),if_neg (by omega)]
   exact Gl q (by omega) h3
  ·rw[if_neg p2,if_neg (by omega),if_neg (by omega)]
   exact hS p q (by omega) h2 h3
def dnF(f:Nat->Val)(m k:Nat)(q:Nat):Val:=if k<q/\q<=m then f (q-1) else if q=k then f m else f q
theorem zQ3(f:Nat->Val)(m:Nat):dnF f m m=f:=by
 funext q
 unfold dnF
 rw[if_neg (by omega)]
 split
 ·rename_i h;rw[h]
 ·rfl
theorem zRv{L:List Val}{f:Nat->Val}{m k:Nat}(hk:0<k)(TO:k<=m)(hm:m<L.length)(h:∀q,atL L q=dnF f m k q):∀q,atL (zGd L k (k-1)) q=dnF f m (k-1) q:=by
 intro q
 rw[zEW (by omega) (by omega)]
 unfold dnF at *
 by_cases h1:q=k-1
 ·rw[if_pos h1,h,if_neg (by omega),if_pos rfl,if_neg (by omega),if_pos h1]
 ·rw[if_neg h1]
  by_cases h2:q=k
  ·rw[if_pos h2,h,if_neg (by omega),if_neg (by omega),if_pos (by omega),h2]
  ·rw[if_neg h2,h]
   by_cases h3:k<q/\q<=m
   ·rw[if_pos h3,if_pos (by omega)]
   ·rw[if_neg h3,if_neg h2,if_neg (by omega),if_neg h1]
theorem zQ2{L L':List Val}{a m i:Nat}(hi:a<=i)(him:i<=m)(hS:SAB a m L)(Tj:i=a∨zAh (atL L (i-1)) (atL L m)<=0)(FK:i=m∨zAh (atL L m) (atL L i)<0)(h:∀q,atL L' q=dnF (atL L) m i q):SAB a (m+1) L':=by
 have lo:∀q,a<=q->q<i->zAh (atL L q) (atL L m)<=0:=fun q h1 h2=>by
  rcases Tj with e|e
  ·omega
  ·exact zBz (hS.le h1 (by omega:q<=i-1) (by omega)) (by omega)
 have Gl:∀q,i<=q->q<m->zAh (atL L m) (atL L q)<=0:=fun q h1 h2=>by
  rcases FK with e|e
  ·omega
  ·exact zBz (by omega) (hS.le hi h1 h2)
 intro p q h1 h2 h3
 rw[h p,h q]
 unfold dnF
 by_cases q1:i<q/\q<=m
 ·rw[if_pos q1]
  by_cases p1:i<p/\p<=m
  ·rw[if_pos p1];exact hS (p-1) (q-1) (by omega) (by omega) (by omega)
  ·rw[if_neg p1]
   by_cases p2:p=i
   ·rw[if_pos p2];exact Gl (q-1) (by omega) (by omega)
   ·rw[if_neg p2];exact hS p (q-1) h1 (by omega) (by omega)
 ·rw[if_neg q1,if_neg (by omega:¬(i<p/\p<=m)),if_neg (by omega:¬p=i)]
  by_cases q2:q=i
  ·rw[if_pos q2];exact lo p h1 (by omega)
  ·rw[if_neg q2];exact hS p q h1 h2 (by omega)
theorem zOB{L L':List Val}{a m b mid s e s0 r0:Nat}(hm:mid=(a+b) / 2)(ham:a<m)(DO:m<b)(he:e+s=mid+m)(hs0:s0<=s)(hsr:s<=r0)
  (Zk:(mid<m/\s0+b=mid+m/\r0=mid)∨(m<=mid/\s0=a/\r0=m)) (JB:SAB a m L) (Ja:SAB m b L)
  (Tj:s=s0∨zAh (atL L (s-1)) (atL L e)<=0) (FK:s=r0∨zAh (atL L (e-1)) (atL L s)<0) (hL:∀q,atL L' q=zG4 (atL L) s m e q) :
  (SAB a s L'/\SAB s mid L')/\(SAB mid e L'/\SAB e b L')/\∀i j,a<=i->i<mid->mid<=j->j<b->zAh (atL L' i) (atL L' j)<=0:=by
 have l1:∀q,q<s->atL L' q=atL L q:=fun q h1=>by rw[hL,zG4,if_pos (.inl h1)]
 have l2:∀q,s<=q->q<mid->atL L' q=atL L (q-s+m):=fun q h1 h2=>by rw[hL,zG4,if_neg (by omega),if_pos (by omega)]
 have l3:∀q,mid<=q->q<e->atL L' q=atL L (q-(e-m)):=fun q h1 h2=>by rw[hL,zG4,if_neg (by omega),if_neg (by omega)]
 have l4:∀q,e<=q->atL L' q=atL L q:=fun q h1=>by rw[hL,zG4,if_pos (.inr h1)]
 refine⟨⟨fun i j h1 h2 h3=>?_,fun i j h1 h2 h3=>?_⟩,⟨fun i j h1 h2 h3=>?_,fun i j h1 h2 h3=>?_⟩,fun i j h1 h2 h3 h4=>?_⟩
 ·rw[l1 i (by omega),l1 j h3];exact JB i j h1 h2 (by omega)
 ·rw[l2 i h1 (by omega),l2 j (by omega) h3];exact Ja _ _ (by omega) (by omega) (by omega)
 ·rw[l3 i h1 (by omega),l3 j (by omega) h3];exact JB _ _ (by omega) (by omega) (by omega)
 ·rw[l4 i h1,l4 j (by omega)];exact Ja i j (by omega) h2 h3
 ·by_cases hi:i<s
  ·rw[l1 i hi]
   by_cases hj:j<e
   ·rw[l3 j h3 hj];exact JB i _ h1 (by omega) (by omega)
   ·rw[l4 j (by omega)]
    rcases Tj with e1|e1
    ·omega
    ·exact zBz (JB.le h1 (by omega:i<=s-1) (by omega)) (zBz e1 (Ja.le (by omega) (by omega:e<=j) h4))
  ·rw[l2 i (by omega) h2]
   by_cases hj:j<e
   ·rw[l3 j h3 hj]
    rcases FK with e1|e1
    ·omega
    ·exact zBz (Ja.le (by omega) (by omega:i-s+m<=e-1) (by omega)) (zBz (by omega) (JB.le (by omega) (by omega:s<=j-(e-m)) (by omega)))
   ·rw[l4 j (by omega)];exact Ja _ j (by omega) (by omega) h4
theorem zR5{f:Nat->Val}{s m e:Nat}(h:s<=m)(h2:m<=e)(hn:¬(s<m/\m<e)):∀q,f q=zG4 f s m e q:=by
 intro q
 unfold zG4
 by_cases h1:q<s∨e<=q
 ·rw[if_pos h1]
 ·rw[if_neg h1]
  by_cases h3:q<s+(e-m)
  ·rw[if_pos h3];congr 1;omega
  ·rw[if_neg h3];congr 1;omega
theorem zQp(T:zAQ)(W:World)(L:List Val)(a m b:Nat)(hT:T.OK W)(hO:zAV W T.base T.v L)(hm:m=a+1)(DO:m<b)(hb:b<=T.N)(hS:SAB m b L) :
  Calls Tryz.prog 139 #[.agg #[T.less,T.swap],.int .i64 a,.int .i64 m,.int .i64 b] W fun e w'=>e=.returned (.tuple #[])/\∃L',zAV w' T.base T.v L'/\zAt W w' T.v T.v/\PAB a b L L'/\SAB a b L':=by
 have H0:=zA3 (zAQ.start hT hO)
 have Ti:=hT.small
 have e1:((m:Int)-(a:Int) == 1)=true:=by simp;omega
 have HS:=zA3 hS
 have HM:=zA3 hm
 have ham:a<m:=by omega
 clear hT hO hS hm
 go_enter Tryz.func139,Tryz.ntmps139
 go_wp2_with fail
 go_loopw[8,9] (fun s8 s9 wr=>∃(i j:Nat),s8=.int .i64 (i:Int)/\s9=.int .i64 (j:Int)/\m<=i/\i<=j/\j<=b/\Hid (T.At W.heap.size (W.alloc (.cells #[T.less,T.swap] 164)) wr L)/\Hid (i=m∨zAh (atL L (i-1)) (atL L a)<0)/\Hid (j=b∨0<=zAh (atL L j) (atL L a))) (fun s8 s9 _=>(intOf s9-intOf s8).toNat)
 case atStart=>exact⟨m,b,rfl,rfl,Nat.le_refl _,by omega,Nat.le_refl _,H0,.inl rfl,.inl rfl⟩
 case round=>
  obtain⟨i,j,rfl,rfl,TL,ZX,FH,HA,YB,ZM⟩:=hrel
  have c0:=(zA0 HA).c0
  unfold zAQ.less at c0
  by_cases h1:i<j
  ·have i1:(i:Int)<(j:Int):=by omega
   obtain⟨h,hh⟩:∃h,h=(i+j) / 2:=⟨_,rfl⟩
   have eh:((i:Int)+(j:Int)) / 2=(h:Int):=by omega
   have i3:(i:Int)+(j:Int)<=2097152:=by omega
   have DS:i<=h/\h<j:=by omega
   have Zs:=zA3 DS
   have HL:=zA3 (zFL T wr L h a (zA0 HA).ok (zA0 HA).own (by omega) (by omega))
   clear hh DS
   cases He:ltV (atL L h) (atL L a)
   ·rw[He] at HL
    have HX:=zA3 (Int.not_lt.1 (zN6 He))
    clear He
    go_wp2_with (go_at_call 90;refine(zA0 HL).mono ?_;rintro e w2 ⟨rfl,Hh⟩;replace Hh:=zA3 Hh)
    go_roundw
    case rel=>exact⟨i,h,rfl,by go_num,TL,(zA0 Zs).1,by have:=zA0 Zs;omega,(zA0 HA).below (zA0 Hh),YB,.inr (zA0 HX)⟩
    case measure=>have:=zA0 Zs;first | (simp[intOf];omega) | (simp only[intOf];omega)
   ·rw[He] at HL
    have HX:=zA3 (zN5 He)
    clear He
    go_wp2_with (go_at_call 90;refine(zA0 HL).mono ?_;rintro e w2 ⟨rfl,Hh⟩;replace Hh:=zA3 Hh)
    go_roundw
    case rel=>exact⟨h+1,j,by go_num,rfl,by have:=zA0 Zs;omega,by have:=zA0 Zs;omega,FH,(zA0 HA).below (zA0 Hh),.inr (zA0 HX),ZM⟩
    case measure=>have:=zA0 Zs;first | (simp[intOf];omega) | (simp only[intOf];omega)
  ·have i1:¬(i:Int)<(j:Int):=by omega
   have ZA:i=j:=by omega
   have Gf:Hid (i=b∨0<=zAh (atL L i) (atL L a)):=by rw[ZA];exact ZM
   have hib:i<=b:=by omega
   clear ZA ZM ZX FH
   go_wp2_with fail
   go_loopw[11] (fun s wv=>∃(k:Nat) (M:List Val),s=.int .i64 (k:Int)/\a<=k/\k<=i-1/\Hid (T.At W.heap.size (W.alloc (.cells #[T.less,T.swap] 164)) wv M)/\Hid (PAB a b L M)/\Hid (∀q,atL M q=upF (atL L) a k q)) (fun s _=>i-(intOf s).toNat)
   case atStart=>exact⟨a,L,rfl,Nat.le_refl _,by omega,HA,PAB.refl _ _ _,fun q=>by rw[zO5]⟩
   case round=>
    obtain⟨k,M,rfl,GC,JT,Gv,HP,HF⟩:=hrel
    have c1:=(zA0 Gv).c1
    unfold zAQ.swap at c1
    have Hf:=zAQ.lenL (zA0 Gv).own
    by_cases h2:k<i-1
    ·have i2:(k:Int)<(i:Int)-1:=by omega
     obtain⟨W',Jp,Di⟩:=(zA0 Gv).swp (i:=k) (j:=k+1) (by omega) (by omega)
     rw[Int.natCast_add] at Jp
     have HSW:=zA3 Jp
     have HA':=zA3 Di
     have HP':=zA3 ((zA0 HP).trans (PAB.swap (a:=a) (b:=b) (i:=k) (j:=k+1) (by omega) (by omega) (by omega) (by omega) (by omega) (by omega)))
     have HF':=zA3 (zQh GC (by omega) (zA0 HF))
     clear Jp Di Hf
     go_wp2
     rw[show ((1:Nat):Int)=1 from rfl] at HSW
     rw[zA0 HSW,Oper.upon_value]
     go_wp2
     go_roundw
     case rel=>exact⟨k+1,_,by go_num,by omega,by omega,HA',HP',HF'⟩
     case measure=>first | (simp[intOf];omega) | (simp only[intOf];omega)
    ·have i2:¬(k:Int)<(i:Int)-1:=by omega
     have FF:k=i-1:=by omega
     rw[FF] at HF
     have HE:Hid (SAB a b M):=by
      have hm:=zA0 HM
      have Tj:=zA0 YB
      have hs:=zA0 HS
      rw[hm] at Tj hs
      exact zO4 (by omega) hib hs Tj ((zA0 Gf).imp id fun h=>Int.not_lt.2 h) (zA0 HF)
     clear FF Hf
     go_wp2
     (try simp only[Exit.inBlock,Exit.then]);refine bodyPost_ret (results_none rfl _ _ _) rfl ?_
     exact⟨rfl,M,(zA0 Gv).own,(zA0 Gv).back,zA0 HP,zA0 HE⟩
theorem zQo(T:zAQ)(W:World)(L:List Val)(a m b:Nat)(hT:T.OK W)(hO:zAV W T.base T.v L)(hm:a+1<m)(DO:b=m+1)(hb:b<=T.N)(hS:SAB a m L) :
  Calls Tryz.prog 139 #[.agg #[T.less,T.swap],.int .i64 a,.int .i64 m,.int .i64 b] W fun e w'=>e=.returned (.tuple #[])/\∃L',zAV w' T.base T.v L'/\zAt W w' T.v T.v/\PAB a b L L'/\SAB a b L':=by
 have H0:=zA3 (zAQ.start hT hO)
 have Ti:=hT.small
 have e1:((m:Int)-(a:Int) == 1)=false:=by simp;omega
 have e2:((b:Int)-(m:Int) == 1)=true:=by simp;omega
 have HS:=zA3 hS
 have HM:=zA3 DO
 have hmN:m<T.N:=by omega
 clear hT hO hS DO
 go_enter Tryz.func139,Tryz.ntmps139
 go_wp2_with fail
 go_loopw[12,13] (fun s8 s9 wr=>∃(i j:Nat),s8=.int .i64 (i:Int)/\s9=.int .i64 (j:Int)/\a<=i/\i<=j/\j<=m/\Hid (T.At W.heap.size (W.alloc (.cells #[T.less,T.swap] 164)) wr L)/\Hid (i=a∨zAh (atL L (i-1)) (atL L m)<=0)/\Hid (j=m∨zAh (atL L m) (atL L j)<0)) (fun s8 s9 _=>(intOf s9-intOf s8).toNat)
 case atStart=>exact⟨a,m,rfl,rfl,Nat.le_refl _,by omega,Nat.le_refl _,H0,.inl rfl,.inl rfl⟩
 case round=>
  obtain⟨i,j,rfl,rfl,TL,ZX,FH,HA,YB,ZM⟩:=hrel
  have c0:=(zA0 HA).c0
  unfold zAQ.less at c0
  by_cases h1:i<j
  ·have i1:(i:Int)<(j:Int):=by omega
   obtain⟨h,hh⟩:∃h,h=(i+j) / 2:=⟨_,rfl⟩
   have eh:((i:Int)+(j:Int)) / 2=(h:Int):=by omega
   have i3:(i:Int)+(j:Int)<=2097152:=by omega
   have DS:i<=h/\h<j:=by omega
   have Zs:=zA3 DS
   have HL:=zA3 (zFL T wr L m h (zA0 HA).ok (zA0 HA).own hmN (by omega))
   clear hh DS
   cases He:ltV (atL L m) (atL L h)
   ·rw[He] at HL
    have HX:Hid (zAh (atL L h) (atL L m)<=0):=by
     have h3:=zN6 He
     have h4:=zBA (atL L m) (atL L h)
     show _<=_
     omega
    clear He
    go_wp2_with (go_at_call 90;refine(zA0 HL).mono ?_;rintro e w2 ⟨rfl,Hh⟩;replace Hh:=zA3 Hh)
    go_roundw
    case rel=>exact⟨h+1,j,by go_num,rfl,by have:=zA0 Zs;omega,by have:=zA0 Zs;omega,FH,(zA0 HA).below (zA0 Hh),.inr (zA0 HX),ZM⟩
    case measure=>have:=zA0 Zs;first | (simp[intOf];omega) | (simp only[intOf];omega)
   ·rw[He] at HL
    have HX:=zA3 (zN5 He)
    clear He
    go_wp2_with (go_at_call 90;refine(zA0 HL).mono ?_;rintro e w2 ⟨rfl,Hh⟩;replace Hh:=zA3 Hh)
    go_roundw
    case rel=>exact⟨i,h,rfl,by go_num,TL,(zA0 Zs).1,by have:=zA0 Zs;omega,(zA0 HA).below (zA0 Hh),YB,.inr (zA0 HX)⟩
    case measure=>have:=zA0 Zs;first | (simp[intOf];omega) | (simp only[intOf];omega)
  ·have i1:¬(i:Int)<(j:Int):=by omega
   have ZA:i=j:=by omega
   have Gf:Hid (i=m∨zAh (atL L m) (atL L i)<0):=by rw[ZA];exact ZM
   have hib:i<=m:=by omega
   clear ZA ZM ZX FH
   go_wp2_with fail
   go_loopw[15] (fun s wv=>∃(k:Nat) (M:List Val),s=.int .i64 (k:Int)/\i<=k/\k<=m/\Hid (T.At W.heap.size (W.alloc (.cells #[T.less,T.swap] 164)) wv M)/\Hid (PAB a b L M)/\Hid (∀q,atL M q=dnF (atL L) m k q)) (fun s _=>(intOf s).toNat)
   case atStart=>exact⟨m,L,rfl,hib,Nat.le_refl _,HA,PAB.refl _ _ _,fun q=>by rw[zQ3]⟩
   case round=>
    obtain⟨k,M,rfl,GC,JT,Gv,HP,HF⟩:=hrel
    have c1:=(zA0 Gv).c1
    unfold zAQ.swap at c1
    have Hf:=zAQ.lenL (zA0 Gv).own
    by_cases h2:i<k
    ·have i2:(i:Int)<(k:Int):=by omega
     have hbm:=zA0 HM
     obtain⟨W',Jp,Di⟩:=(zA0 Gv).swp (i:=k) (j:=k-1) (by omega) (by omega)
     rw[show ((k-1:Nat):Int)=(k:Int)-1 by omega] at Jp
     have HSW:=zA3 Jp
     have HA':=zA3 Di
     have HP':=zA3 ((zA0 HP).trans (PAB.swap (a:=a) (b:=b) (i:=k) (j:=k-1) (by omega) (by omega) (by omega) (by omega) (by omega) (by omega)))
     have HF':=zA3 (zRv (by omega) JT (by omega) (zA0 HF))
     clear Jp Di Hf hbm
     go_wp2
     rw[zA0 HSW,Oper.upon_value]
     go_wp2
     go_roundw
     case rel=>exact⟨k-1,_,by go_num,by omega,by omega,HA',HP',HF'⟩
     case measure=>first | (simp[intOf];omega) | (simp only[intOf];omega)
    ·have i2:¬(i:Int)<(k:Int):=by omega
     have FF:k=i:=by omega
     rw[FF] at HF
     have HE:Hid (SAB a b M):=by
      rw[zA0 HM]
      exact zQ2 TL hib (zA0 HS) (zA0 YB) (zA0 Gf) (zA0 HF)
     clear FF Hf
     go_wp2
     (try simp only[Exit.inBlock,Exit.then]);refine bodyPost_ret (results_none rfl _ _ _) rfl ?_
     exact⟨rfl,M,(zA0 Gv).own,(zA0 Gv).back,zA0 HP,zA0 HE⟩
end Go.Proofs.YtekgpapophibcaaGreat
