import Derived.Test.YtekgpapophibcaaGreatStbG
import Derived.Shelf.GgSortFunc.SmallK
set_option linter.unusedSimpArgs false
set_option linter.unusedVariables false
set_option maxHeartbeats 8000000
set_option maxRecDepth 100000
namespace Go.Proofs.YtekgpapophibcaaGreat
open Go.RowKit Go.Sort
theorem zOC(T:zAQ):∀(d:Nat) (W:World) (L:List Val) (a m b:Nat),b-a<=d->T.OK W->zAV W T.base T.v L->a<m->m<b->b<=T.N->SAB a m L->SAB m b L->Calls Tryz.prog 139 #[.agg #[T.less,T.swap],.int .i64 a,.int .i64 m,.int .i64 b] W fun e w'=>e=.returned (.tuple #[])/\∃L',zAV w' T.base T.v L'/\zAt W w' T.v T.v/\PAB a b L L'/\SAB a b L'
 | 0,W,L,a,m,b,hd,_,_,h1,h2,_,_,_=>by omega
 | d+1,W,L,a,m,b,hd,hT,hO,h1,h2,hb,s1,s2=>by
  by_cases hm:m=a+1
  ·exact zQp T W L a m b hT hO hm h2 hb s2
  ·by_cases hq:b=m+1
   ·exact zQo T W L a m b hT hO (by omega) hq hb s1
   ·exact zQn T W L a m b hT hO (by omega) (by omega) hb s1 s2 fun W' L' a' m' b' He hT' hO' q1 q2 q3 q4 q5=>zOC T d W' L' a' m' b' (by omega) hT' hO' q1 q2 q3 q4 q5
theorem zFO{z a c:Nat}(h1:z ∣ a)(h2:z ∣ c)(h:a<c):a+z<=c:=by
 obtain⟨p,rfl⟩:=h1
 obtain⟨q,rfl⟩:=h2
 have:p<q:=by
  rcases Nat.lt_or_ge p q with h3|h3
  ·exact h3
  ·have:=Nat.mul_le_mul_left z h3
   omega
 have:=Nat.mul_le_mul_left z this
 rw[Nat.succ_eq_add_one,Nat.mul_add,Nat.mul_one] at this
 exact this
def Blk(z n:Nat)(L:List Val):Prop:=∀c,z ∣ c->c<n->SAB c (min (c+z) n) L
def Two(y z n a:Nat)(L:List Val):Prop:=(∀c,y ∣ c->c<a->SAB c (c+y) L)/\∀c,z ∣ c->a<=c->c<n->SAB c (min (c+z) n) L
theorem Two.start{y z n:Nat}{L:List Val}(h:Blk z n L):Two y z n 0 L:=⟨fun c _ h2=>by omega,fun c h1 _ h3=>h c h1 h3⟩
theorem Two.step{y z n a:Nat}{L L':List Val}(h:Two y z n a L)(hy:0<y)(ha:y ∣ a)(hp:PAB a (a+y) L L')(hs:SAB a (a+y) L'):Two y z n (a+y) L':=by
 refine⟨fun c h1 h2=>?_,fun c h1 h2 h3=>(h.2 c h1 (by omega) h3).out hp (.inr h2)⟩
 by_cases e:c<a
 ·exact(h.1 c h1 e).out hp (.inl (zFO h1 ha e))
 ·have:c=a:=by
   rcases Nat.lt_or_ge a c with h4|h4
   ·have:=zFO ha h1 h4;omega
   ·omega
  rw[this];exact hs
theorem Two.done{y z n a:Nat}{L:List Val}(h:Two y z n a L)(ha:y ∣ a)(han:a<=n)(hb:n<a+y)(hs:SAB a n L):Blk y n L:=fun c h1 h2=>by
 by_cases e:c<a
 ·have:=zFO h1 ha e
  rw[Nat.min_eq_left (by omega)]
  exact h.1 c h1 e
 ·have:c=a:=by
   rcases Nat.lt_or_ge a c with h4|h4
   ·have:=zFO ha h1 h4;omega
   ·omega
  rw[this,Nat.min_eq_right (by omega)]
  exact hs
theorem Two.out{y z n a n':Nat}{L L':List Val}(h:Two y z n a L)(ha:y ∣ a)(hp:PAB a n' L L'):∀c,y ∣ c->c<a->SAB c (c+y) L':=fun c h1 h2=>(h.1 c h1 h2).out hp (.inl (zFO h1 ha h2))
theorem zMW(T:zAQ)(W:World)(L:List Val)(hT:T.OK W)(hO:zAV W T.base T.v L) :
  Calls Tryz.prog 110 #[.agg #[T.less,T.swap],.int .i64 T.N] W fun e w'=>e=.returned (.tuple #[])/\∃L',zAV w' T.base T.v L'/\zAt W w' T.v T.v/\L'.Perm L/\SAB 0 T.N L':=by
 have H0:=zA3 (zAQ.start hT hO)
 have Ti:=hT.small
 obtain⟨n,hn⟩:∃n,Hid (n=T.N):=⟨_,rfl⟩
 rw[<-zA0 hn] at Ti ⊢
 have HI:Hid (∀wr L' a b,T.At W.heap.size (W.alloc (.cells #[T.less,T.swap] 164)) wr L'->a<=b->b<=n->Calls Tryz.prog 138 #[.agg #[T.less,T.swap],.int .i64 (a:Nat),.int .i64 (b:Nat)] wr fun e w'=>e=.returned (.tuple #[])/\∃L2,Hid (T.At W.heap.size (W.alloc (.cells #[T.less,T.swap] 164)) w' L2)/\Hid (PAB a b L' L2/\SAB a b L2)):=fun wr L' a b hA h1 h2=>
  (zId T wr L' a b hA.ok hA.own h1 (by rw[<-zA0 hn];exact h2)).mono fun e w' ⟨he,L2,o1,o2,o3,o4⟩=>⟨he,L2,hA.grow o1 o2,o3,o4⟩
 have HM:Hid (∀wr L' a m b,T.At W.heap.size (W.alloc (.cells #[T.less,T.swap] 164)) wr L'->a<m->m<b->b<=n->SAB a m L'->SAB m b L'->Calls Tryz.prog 139 #[.agg #[T.less,T.swap],.int .i64 (a:Nat),.int .i64 (m:Nat),.int .i64 (b:Nat)] wr fun e w'=>e=.returned (.tuple #[])/\∃L2,Hid (T.At W.heap.size (W.alloc (.cells #[T.less,T.swap] 164)) w' L2)/\Hid (PAB a b L' L2/\SAB a b L2)):=fun wr L' a m b hA h1 h2 h3 s1 s2=>
  (zOC T _ wr L' a m b (Nat.le_refl _) hA.ok hA.own h1 h2 (by rw[<-zA0 hn];exact h3) s1 s2).mono fun e w' ⟨he,L2,o1,o2,o3,o4⟩=>⟨he,L2,hA.grow o1 o2,o3,o4⟩
 clear hT hO
 go_enter Tryz.func110,Tryz.ntmps110
 go_wp2_with fail
 go_loopw[5,6] (fun s5 s6 wr=>∃(a:Nat) (L':List Val),s5=.int .i64 (a:Int)/\s6=.int .i64 ((a+20:Nat):Int)/\a<=n/\Hid (20 ∣ a)/\Hid (T.At W.heap.size (W.alloc (.cells #[T.less,T.swap] 164)) wr L')/\Hid (PAB 0 n L L')/\Hid (Two 20 1 0 a L')) (fun s5 _ _=>n-(intOf s5).toNat)
 case atStart=>exact⟨0,L,rfl,rfl,Nat.zero_le _,⟨0,rfl⟩,H0,PAB.refl _ _ _,fun c _ h=>(by omega),fun c _ _ h=>(by omega)⟩
 case round=>
  obtain⟨a,L',rfl,rfl,han,yn,HA,HP,qN⟩:=hrel
  have c0:=(zA0 HA).c0
  have c1:=(zA0 HA).c1
  by_cases h1:a+20<=n
  ·have i1:((a+20:Nat):Int)<=(n:Int):=by omega
   have HC:=zA3 (zA0 HI wr L' a (a+20) (zA0 HA) (by omega) h1)
   go_wp2_with (go_at_call 138;refine(zA0 HC).mono ?_;rintro e w2 ⟨rfl,L2,Qy,Qu⟩)
   go_roundw
   case rel=>exact⟨a+20,L2,by go_num,by go_num,by omega,by obtain⟨k,hk⟩:=zA0 yn;exact⟨k+1,by omega⟩,Qy,(zA0 HP).trans ((zA0 Qu).1.widen (by omega) h1),Two.step (zA0 qN) (by omega) (zA0 yn) (zA0 Qu).1 (zA0 Qu).2⟩
   case measure=>first | (simp[intOf];omega) | (simp only[intOf];omega)
  ·have i1:¬((a+20:Nat):Int)<=(n:Int):=by omega
   have HC:=zA3 (zA0 HI wr L' a n (zA0 HA) han (Nat.le_refl _))
   go_wp2_with (first | (go_at_call 138;refine(zA0 HC).mono ?_;rintro e w2 ⟨rfl,L2,Qy,Qu⟩)|fail)
   have yp:Hid (Blk 20 n L2):=Two.done (z:=1) (n:=n) ⟨Two.out (zA0 qN) (zA0 yn) (zA0 Qu).1,fun c h1 h2 h3=>SAB.one (by omega) _⟩ (zA0 yn) han (by omega) (zA0 Qu).2
   have Jn:=zA3 ((zA0 HP).trans ((zA0 Qu).1.widen (Nat.zero_le _) (Nat.le_refl _)))
   clear HP qN yn Qu HA HC c0 c1 H0
   go_loopw[4,5,6,7] (fun s4 s5 s6 s7 wr=>∃(z:Nat) (M:List Val),s4=.int .i64 (z:Int)/\20<=z/\z<=2097152/\Hid (T.At W.heap.size (W.alloc (.cells #[T.less,T.swap] 164)) wr M)/\Hid (PAB 0 n L M)/\Hid (Blk z n M)) (fun s4 _ _ _ _=>n-(intOf s4).toNat)
   case atStart=>exact⟨20,L2,rfl,by omega,by omega,Qy,Jn,yp⟩
   case round=>
    obtain⟨z,M,rfl,hz,QC,HA,HP,HB⟩:=hrel
    have c0:=(zA0 HA).c0
    have c1:=(zA0 HA).c1
    by_cases h2:z<n
    ·have i2:(z:Int)<(n:Int):=by omega
     have hzi:(z:Int)<=2097152:=by omega
     obtain⟨z2,hz2e⟩:∃z2,z2=2*z:=⟨_,rfl⟩
     have ez2:(2:Int)*(z:Int)=(z2:Int):=by omega
     have ez3:(z:Int)*2=(z2:Int):=by omega
     have HZE:=zA3 hz2e
     have hz2i:(z2:Int)<=4194304:=by omega
     have yr:z<z2:=by omega
     clear hz2e
     go_wp2_with fail
     go_loopw[5,6] (fun s5 s6 wv=>∃(a bb:Nat) (K:List Val),s5=.int .i64 (a:Int)/\s6=.int .i64 (bb:Int)/\a<=n/\Hid (bb=a+z2)/\Hid (z2 ∣ a)/\Hid (T.At W.heap.size (W.alloc (.cells #[T.less,T.swap] 164)) wv K)/\Hid (PAB 0 n L K)/\Hid (Two z2 z n a K)) (fun s5 _ _=>n-(intOf s5).toNat)
     case atStart=>exact⟨0,z2,M,rfl,by first|rfl|go_num | (simp;done),Nat.zero_le _,(Nat.zero_add _).symm,⟨0,rfl⟩,HA,HP,Two.start (zA0 HB)⟩
     case round=>
      obtain⟨a,bb,K,rfl,rfl,han2,QX,yn,yq,HPK,JY⟩:=hrel
      have c0:=(zA0 yq).c0
      have c1:=(zA0 yq).c1
      have hze:=zA0 HZE
      have Hw:=zA0 QX
      have hzd:z ∣ a:=Nat.dvd_trans ⟨2,by omega⟩ (zA0 yn)
      have TB:z ∣ a+z:=(Nat.dvd_add_right hzd).2 (Nat.dvd_refl z)
      have HZ:=zA3 hzd
      have HZ2:=zA3 TB
      obtain⟨az,FU⟩:∃az,az=a+z:=⟨_,rfl⟩
      have e4:(a:Int)+(z:Int)=(az:Int):=by omega
      have e6:(bb:Int)+(z2:Int)<=16777216:=by omega
      have hazi:(az:Int)<=4194304:=by omega
      by_cases h4:bb<=n
      ·have i4:(bb:Int)<=(n:Int):=by omega
       have HC:=zA3 (zA0 HM wr K a az bb (zA0 yq) (by omega) (by omega) h4 (by
        have:=(zA0 JY).2 a (zA0 HZ) (Nat.le_refl _) (by omega)
        rw[Nat.min_eq_left (by omega),<-FU] at this
        exact this) (by
        have:=(zA0 JY).2 (a+z) (zA0 HZ2) (by omega) (by omega)
        rw[Nat.min_eq_left (by omega),show a+z+z=bb by omega,<-FU] at this
        exact this))
       have HG:Hid (a<bb/\bb=a+z2):=⟨by omega,Hw⟩
       clear hze Hw hzd TB FU
       go_wp2_with (go_at_call 139;refine(zA0 HC).mono ?_;rintro e w2 ⟨rfl,K2,Qy,Qu⟩)
       go_roundw
       case rel=>
        refine⟨bb,bb+z2,K2,rfl,by go_num,h4,rfl,?_,Qy,(zA0 HPK).trans ((zA0 Qu).1.widen (Nat.zero_le _) h4),?_⟩
        ·show _ ∣ _
         rw[(zA0 HG).2]
         exact(Nat.dvd_add_right (zA0 yn)).2 (Nat.dvd_refl _)
        ·have h7:=zA0 Qu
         rw[(zA0 HG).2] at h7 ⊢
         exact Two.step (zA0 JY) (by omega) (zA0 yn) h7.1 h7.2
       case measure=>have:=(zA0 HG).1;first | (simp[intOf];omega) | (simp only[intOf];omega)
      ·have i4:¬(bb:Int)<=(n:Int):=by omega
       by_cases h5:az<n
       ·have i5:(az:Int)<(n:Int):=by omega
        have HC:=zA3 (zA0 HM wr K a az n (zA0 yq) (by omega) h5 (Nat.le_refl _) (by
         have:=(zA0 JY).2 a (zA0 HZ) (Nat.le_refl _) (by omega)
         rw[Nat.min_eq_left (by omega),<-FU] at this
         exact this) (by
         have:=(zA0 JY).2 (a+z) (zA0 HZ2) (by omega) (by omega)
         rw[Nat.min_eq_right (by omega),<-FU] at this
         exact this))
        have HG:Hid (n<a+z2/\z2=2*z):=⟨by omega,hze⟩
        clear hze Hw hzd TB FU
        go_wp2_with (go_at_call 139;refine(zA0 HC).mono ?_;rintro e w2 ⟨rfl,K2,Qy,Qu⟩)
        go_roundw
        case rel=>
         refine⟨z2,K2,by go_num,by omega,by have:=zA0 HG;omega,Qy,(zA0 HPK).trans ((zA0 Qu).1.widen (Nat.zero_le _) (Nat.le_refl _)),?_⟩
         exact Two.done (z:=1) (n:=n) ⟨Two.out (zA0 JY) (zA0 yn) (zA0 Qu).1,fun c h1 h2 h3=>SAB.one (by omega) _⟩ (zA0 yn) han2 (zA0 HG).1 (zA0 Qu).2
        case measure=>first | (simp[intOf];omega) | (simp only[intOf];omega)
       ·have i5:¬(az:Int)<(n:Int):=by omega
        have HE:Hid (SAB a n K):=by
         by_cases h6:a<n
         ·have:=(zA0 JY).2 a (zA0 HZ) (Nat.le_refl _) h6
          rw[Nat.min_eq_right (by omega)] at this
          exact this
         ·exact SAB.one (by omega) _
        have HG:Hid (n<a+z2/\z2=2*z):=⟨by omega,hze⟩
        clear hze Hw hzd TB FU
        go_wp2
        go_roundw
        case rel=>exact⟨z2,K,by go_num,by omega,by have:=zA0 HG;omega,yq,HPK,Two.done (zA0 JY) (zA0 yn) han2 (zA0 HG).1 (zA0 HE)⟩
        case measure=>first | (simp[intOf];omega) | (simp only[intOf];omega)
    ·have i2:¬(z:Int)<(n:Int):=by omega
     have HE:Hid (SAB 0 n M):=by
      by_cases h6:0<n
      ·have:=zA0 HB 0 ⟨0,rfl⟩ h6
       rw[Nat.min_eq_right (by omega)] at this
       exact this
      ·exact SAB.one (by omega) _
     go_wp2
     go_end0
     exact⟨rfl,M,(zA0 HA).own,(zA0 HA).back,(zA0 HP).perm,zA0 HE⟩
end Go.Proofs.YtekgpapophibcaaGreat
set_option linter.unusedSimpArgs false
set_option linter.unusedVariables false
namespace Go.Proofs.YtekgpapophibcaaGreat
open Go.RowKit Go.Sort Go.Shelf Go.Lib
noncomputable def tT:TypeInfo:=(Tryz.prog.info? 37).get (by kernel_rfl)
noncomputable def tE:TypeInfo:=(Tryz.prog.info? 59).get (by kernel_rfl)
theorem tK(n:Nat)(h2:2<=n):Lib.swapperK n tE 25=9:=by
 have a:tE.hasPointers=true:=by kernel_rfl
 have b:tE.bytes=32:=by kernel_rfl
 have c:(n == 0)=false:=by simp;omega
 have d:(n == 1)=false:=by simp;omega
 simp[Lib.swapperK,a,b,c,d]
theorem zTx(base g N cap:Nat)(W:World)(L:List Val)(i j:Nat)(hO:zAV W base (.slice (some ⟨g,0,none⟩) N cap) L)(hi:i<N)(hj:j<N) :
  ∃W',(callFunc 137 (#[.int .i64 i,.int .i64 j]++#[.slice (some ⟨g,0,none⟩) N cap,typeHandle Tryz.prog 59])).run Tryz.prog W=.ok (.value (.tuple #[])) W'/\zAV W' base (.slice (some ⟨g,0,none⟩) N cap) (zGd L i j)/\zAt W W' (.slice (some ⟨g,0,none⟩) N cap) (.slice (some ⟨g,0,none⟩) N cap):=by
 have hl:=hO.len
 have sz:tE.size=3:=by kernel_rfl
 have F:∀q,q<N->(∀k v,(c3 (atL L q))[k]?=some v->W.cell? ⟨g,0+q*tE.size+k,none⟩=some v)/\∀k,k<tE.size->W.frozen? ⟨g,0+q*tE.size+k,none⟩=false:=fun q hq=>by
  obtain⟨a0,a1,a2,b0,b1,b2⟩:=hO.facts (zB0 (L:=L) (k:=q) (by omega))
  rw[sz,Nat.zero_add]
  refine⟨fun k v hv=>?_,fun k hk=>?_⟩
  ·match k,hv with
   | 0,hv=>simp[c3] at hv;subst hv;exact a0
   | 1,hv=>simp[c3] at hv;subst hv;exact a1
   | 2,hv=>simp[c3] at hv;subst hv;exact a2
   | k+3,hv=>simp[c3] at hv
  ·match k,hk with
   | 0,_=>exact b0
   | 1,_=>exact b1
   | 2,_=>exact b2
 have QL:=run_swap_cells (P:=Tryz.prog) false 59 tE (by kernel_rfl) (fun _=>by kernel_rfl) g 0 N cap i j hi hj (c3 (atL L i)) (c3 (atL L j)) (by rw[sz];rfl) (by rw[sz];rfl) (zBY _) (zBY _) W (F i hi).1 (F j hj).1 (F i hi).2 (F j hj).2
 rw[sz,Nat.zero_add,Nat.zero_add] at QL
 have hx:∀args W,(callFunc 137 args).run Tryz.prog W=((Extern.ReflectliteSwapper.swap false args).run Tryz.prog W).andThen fun v w'=>.ok (.value v) w':=fun args W=>run_callFunc_extern Tryz.func137 (by kernel_rfl) (by kernel_rfl) (by kernel_rfl) (e:=Extern.ReflectliteSwapper.swap false) (by kernel_rfl) args W
 refine⟨(W.setCells g (i*3) (c3 (atL L j))).setCells g (j*3) (c3 (atL L i)),?_,?_,?_⟩
 ·rw[hx,show (#[Value.int .i64 (i:Int),Value.int .i64 (j:Int)]++#[Value.slice (some ⟨g,0,none⟩) N cap,typeHandle Tryz.prog 59])=#[.int .i64 i,.int .i64 j,.slice (some ⟨g,0,none⟩) N cap,typeHandle Tryz.prog 59] from rfl,QL]
  rfl
 ·exact(hO.put (by omega) (atL L j)).put (by rw[List.length_set];omega) (atL L i)
 ·exact((((((zAt.refl W _).store _).store _).store _).store _).store _).store _
theorem SAB.rises{L:List Val}{n:Nat}(h:SAB 0 n L)(hn:L.length=n):zBe L:=by
 refine List.pairwise_iff_getElem.2 fun i j hi hj ZX=>?_
 have:=h i j (Nat.zero_le _) ZX (by omega)
 rw[zFV (zAf hi),zFV (zAf hj)] at this
 exact this
theorem zMj{L:List Val}(h:L.length<=1):zBe L:=(SAB.one (a:=0) (b:=L.length) (by omega) L).rises rfl
theorem zGl(base B:Nat)(xs:List Val)(v:Value)(w:World)(hl:xs.length<=1048576)(Hd:zAV w base v xs)(GB:w.cell? ⟨B,0,none⟩=some v)(Hg:v.ownBlock≠some B) :
  Calls Tryz.prog 89 #[.iface 37 v,.func (.func 90) #[] #[.pointer (some ⟨B,0,none⟩)]] w fun e w'=>e=.returned (.tuple #[])/\∃ys,zAV w' base v ys/\zAt w w' v v/\ys.Perm xs/\zBe ys:=by
 obtain⟨aa,ca,rfl,_⟩:=zAC Hd
 by_cases h2:xs.length<=1
 ·have hS:∃f:Nat,Calls Tryz.prog 89 #[.iface 37 (.slice aa xs.length ca),.func (.func 90) #[] #[.pointer (some ⟨B,0,none⟩)]] w fun e w'=>e=.returned (.tuple #[])/\∃os,w'=grow w os:=by
   by_cases h0:xs.length=0
   ·refine⟨129,?_⟩
    have:=Any.sort_SliceStable_tiny Tryz.stabL 37 59 tT tE (by kernel_rfl) (by kernel_rfl) (by kernel_rfl) (by kernel_rfl) 25 (fun _=>by kernel_rfl) aa xs.length ca h2 129 (by rw[h0];kernel_rfl) (.func 90) #[] #[.pointer (some ⟨B,0,none⟩)] w
    change Calls Tryz.prog 89 _ _ _ at this
    exact this
   ·have h1:xs.length=1:=by omega
    refine⟨130,?_⟩
    have:=Any.sort_SliceStable_tiny Tryz.stabL 37 59 tT tE (by kernel_rfl) (by kernel_rfl) (by kernel_rfl) (by kernel_rfl) 25 (fun _=>by kernel_rfl) aa xs.length ca h2 130 (by rw[h1];kernel_rfl) (.func 90) #[] #[.pointer (some ⟨B,0,none⟩)] w
    change Calls Tryz.prog 89 _ _ _ at this
    exact this
  obtain⟨_,hS⟩:=hS
  refine hS.mono ?_
  rintro e w' ⟨rfl,os,rfl⟩
  have hb:Below w.heap.size w (grow w os):=below_regrown w w.drawn os
  exact⟨rfl,xs,Hd.later hb,zAt.of_below hb _,List.Perm.refl _,zMj h2⟩
 ·obtain⟨g,cap,e⟩:∃g cap,(Value.slice aa xs.length ca)=.slice (some ⟨g,0,none⟩) xs.length cap:=by
   rcases Hd.2 with ⟨_,h0⟩|⟨g,cap,cur,ev,_⟩
   ·omega
   ·exact⟨g,cap,ev⟩
  injection e with e1 _ e3
  subst e1 e3
  have hgB:B≠g:=fun e=>Hg (by rw[e];rfl)
  refine Any.sort_SliceStable_of_stable Tryz.stabL 37 59 tT tE (by kernel_rfl) (by kernel_rfl) (by kernel_rfl) (by kernel_rfl) 25 (fun _=>by kernel_rfl) (some ⟨g,0,none⟩) xs.length ca (by omega) 137 (by rw[tK _ (by omega)];kernel_rfl) (.func 90) #[] #[.pointer (some ⟨B,0,none⟩)] w (fun w'=>∃ys,zAV w' base (.slice (some ⟨g,0,none⟩) xs.length ca) ys/\zAt w w' (.slice (some ⟨g,0,none⟩) xs.length ca) (.slice (some ⟨g,0,none⟩) xs.length ca)/\ys.Perm xs/\zBe ys) ?_
  have hB:sliceBound Tryz.prog 59 tE 25 (some ⟨g,0,none⟩) xs.length ca=#[.slice (some ⟨g,0,none⟩) xs.length ca,typeHandle Tryz.prog 59]:=by
   unfold sliceBound;rw[if_neg (by rw[tK _ (by omega)];omega)]
  rw[hB]
  have core:∀W0,Below w.heap.size w W0->Calls Tryz.prog 110 #[.agg #[.func (.func 90) #[] #[.pointer (some ⟨B,0,none⟩)],.func (.func 137) #[] #[.slice (some ⟨g,0,none⟩) xs.length ca,typeHandle Tryz.prog 59]],.int .i64 xs.length] W0 fun e w'=>e=.returned (.tuple #[])/\∃ys,zAV w' base (.slice (some ⟨g,0,none⟩) xs.length ca) ys/\zAt w w' (.slice (some ⟨g,0,none⟩) xs.length ca) (.slice (some ⟨g,0,none⟩) xs.length ca)/\ys.Perm xs/\zBe ys:=fun W0 Qn=>by
   have hT:zAQ.OK ⟨base,g,xs.length,ca,B,137,#[.slice (some ⟨g,0,none⟩) xs.length ca,typeHandle Tryz.prog 59]⟩ W0:=
    ⟨cell_later Qn GB,hgB,hl,fun W L i j h1 h2 h3=>zTx base g xs.length ca W L i j h1 h2 h3⟩
   refine(zMW _ _ xs hT (Hd.later Qn)).mono ?_
   rintro e w' ⟨rfl,ys,o1,o2,o3,o4⟩
   exact⟨rfl,ys,o1,(zAt.of_below Qn _).trans o2,o3,o4.rises o3.length_eq⟩
  refine core _ ?_
  unfold stableWorld
  exact zA1 (zA1 (Below.refl _ w) _) _
end Go.Proofs.YtekgpapophibcaaGreat
