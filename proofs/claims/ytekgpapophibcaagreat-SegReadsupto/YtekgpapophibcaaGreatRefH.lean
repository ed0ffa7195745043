import Derived.Test.YtekgpapophibcaaGreatRef2
import Derived.Test.YtekgpapophibcaaGreatRef3
import Derived.Test.YtekgpapophibcaaGreatRef4
import Derived.Test.YtekgpapophibcaaGreatRyM
set_option linter.unusedSimpArgs false
set_option linter.unusedVariables false
set_option maxHeartbeats 8000000
set_option maxRecDepth 100000
namespace Go.Proofs.YtekgpapophibcaaGreat
open Go.RowKit Go.Sort
def RW(X:Vc)(sch:Int)(s:ByteArray)(f:Int):Prop:=
 (zFU X sch=true/\s=⟨#[]⟩/\f=1)∨(zFU X sch=false/\4096<X.nl.length/\s=⟨#[]⟩/\f=3)∨(zFU X sch=false/\X.nl.length<=4096/\f=0/\∃b,zK9 sch.toNat (zAA (zAD X)) b/\s=toB (zB2 sch.toNat X.k.toNat (zAD X)++b))
theorem zHX(X:Vc)(p:Sl)(sch:Int)(w:World)(hs:small X)(hp:zAi w X p) :
  Calls Tryz.prog 63 #[zCC X p,.int .i64 sch] w fun e w'=>∃s f,e=.returned (.tuple #[.string s,.int .i64 f])/\Hid (RW X sch s f)/\Below w.heap.size w w':=by
 cases Ql:zFU X sch
 ·by_cases Jz:4096<X.nl.length
  ·exact(zJM X p sch w hs hp Ql Jz).mono fun e w' ⟨he,hb⟩=>⟨_,_,he,.inr (.inl ⟨Ql,Jz,rfl,rfl⟩),hb⟩
  ·have Hh:=Ql
   simp only[zFU,Bool.or_eq_false_iff,Bool.not_eq_false',decide_eq_false_iff_not] at Hh
   obtain⟨⟨⟨hg,h1⟩,h2⟩,h3⟩:=Hh
   obtain⟨n,rfl⟩:∃n:Nat,sch=(n:Int):=⟨sch.toNat,by omega⟩
   obtain⟨kd,hk⟩:∃kd:Nat,X.k=(kd:Int):=⟨X.k.toNat,by have:=zCU hg;omega⟩
   have YG:kd=1∨kd=2:=by have:=zCU hg;omega
   have h4:¬(n=4/\kd=2):=fun ⟨a,b⟩=>by
    subst a b
    rw[hk] at h3
    exact absurd h3 (by decide)
   have key:Calls Tryz.prog 63 #[zCC X p,.int .i64 (n:Int)] w fun e w'=>∃b,e=.returned (.tuple #[.string (toB (zB2 n kd (zAD X)++b)),.int .i64 0])/\zK9 n (zAA (zAD X)) b/\Below w.heap.size w w':=by
    have hn:n=1∨n=2∨n=3∨n=4:=by omega
    rcases hn with rfl|rfl|rfl|rfl
    ·exact zT6 X p kd w hs hp hg hk YG h4 (by omega)
    ·exact zT5 X p kd w hs hp hg hk YG h4 (by omega)
    ·exact zT4 X p kd w hs hp hg hk YG h4 (by omega)
    ·exact zT3 X p kd w hs hp hg hk YG h4 (by omega)
   refine key.mono fun e w' ⟨b,he,hB,hb⟩=>⟨_,_,he,.inr (.inr ⟨Ql,by omega,rfl,b,?_,?_⟩),hb⟩
   ·simpa using hB
   ·rw[hk]
    simp
 ·exact(zMd X p sch w hs hp Ql).mono fun e w' ⟨he,hb⟩=>⟨_,_,he,.inl ⟨Ql,rfl,rfl⟩,hb⟩
def RB(X:Vc):Nat->ByteArray->Prop
 | 0,b=>RW X 1 b 0
 | i+1,b=>∃c s f,RB X i c/\RW X ((i:Int)+2) s f/\b=zIU c s f
def RP(X:Vc)(s:ByteArray)(f:Int):Prop:=(f=0/\RB X 3 s)∨(s=⟨#[]⟩/\f≠0/\∃t,RW X 1 t f)
theorem zOe(X:Vc)(p:Sl)(w:World)(hs:small X)(hp:zAi w X p) :
  Calls Tryz.prog 34 #[zCC X p] w fun e w'=>∃s f,e=.returned (.tuple #[.string s,.int .i64 f])/\Hid (RP X s f)/\Below w.heap.size w w':=by
 have HW:Hid (∀W sch,Below w.heap.size w W->Calls Tryz.prog 63 #[zCC X p,.int .i64 sch] W fun e w'=>∃s f,e=.returned (.tuple #[.string s,.int .i64 f])/\Hid (RW X sch s f)/\Below W.heap.size W w'):=fun W sch hW=>zHX X p sch W hs (hp.later hW)
 rw[zAM] at HW ⊢
 have bl:=zA1 (Below.refl _ w) (.cells #[.int .i64 X.k,.slice p.a1 X.nl.length p.c1,.slice p.a2 X.ns.length p.c2,.slice p.a3 X.ss.length p.c3] 49)
 have Kq:=zA3 (zA0 HW _ 1 bl)
 have FACT:Hid (∀w1,Below (w.alloc (.cells #[.int .i64 X.k,.slice p.a1 X.nl.length p.c1,.slice p.a2 X.ns.length p.c2,.slice p.a3 X.ss.length p.c3] 49)).heap.size (w.alloc (.cells #[.int .i64 X.k,.slice p.a1 X.nl.length p.c1,.slice p.a2 X.ns.length p.c2,.slice p.a3 X.ss.length p.c3] 49)) w1->zSn w1 w.heap.size X p/\Below w.heap.size w w1):=fun w1 Hb=>by
  obtain⟨Qj,_⟩:=zCR Hb
  refine⟨⟨?_,?_,?_,?_⟩,zA2 bl Hb⟩<;>(rw[Qj _ _ (by simp)];simp[go_sem])
 clear bl hs hp
 go_enter Tryz.func34,Tryz.ntmps34
 go_upto_region 2 with (first | (go_at_call 63;refine(zA0 Kq).mono ?_;rintro e w1 ⟨s1,f1,rfl,KB,Hb⟩;replace Hb:=zA3 Hb)|fail)
 rcases Bool.eq_false_or_eq_true (f1 == 0) with e0|e0
 ·have e1:(f1 != 0)=false:=by simp[bne,e0]
  have e2:f1=0:=by simpa using e0
  have Tv:Hid (RB X 0 s1):=by show RW X 1 s1 0;rw[<-e2];exact zA0 KB
  clear e0 e2 KB
  go_wp2_with fail
  have Qa:=zA3 (zA0 FACT _ (zA0 Hb)).2
  have Fe:=zA3 (zA0 FACT _ (zA0 Hb)).1
  have TG:w.heap.size<w1.heap.size:=World.block_lt_of_cell? _ _ (zA0 Fe).1
  go_loopw[4,6] (fun s4 s wr=>∃(i:Nat) (b:ByteArray),i<=3/\s=.int .i64 ((i:Int)+2)/\s4=.string b/\Hid (RB X i b)/\Below w1.heap.size w1 wr) (fun _ s _=>6-(intOf s).toNat)
  case atStart=>exact⟨0,s1,by omega,rfl,rfl,zA0 Tv,Below.refl _ _⟩
  case round=>
   obtain⟨i,b,hi,rfl,rfl,yW,hb⟩:=hrel
   by_cases h8:i<3
   ·have h9:(i:Int)+2<=4:=by omega
    obtain⟨x0,x1,x2,x3⟩:=(zA0 Fe).later hb
    have HWi:=zA3 (zA0 HW wr ((i:Int)+2) (zA2 (zA0 Qa) hb))
    have HB:=zA3 hb
    clear hb
    go_upto_region 8 with (first | (go_at_call 63;refine(zA0 HWi).mono ?_;rintro e w2 ⟨s2,f2,rfl,Jn,Hh⟩;have Qz:=zA3 (zA2 (zA0 HB) Hh);clear Hh)|fail)
    rcases Bool.eq_false_or_eq_true (f2 == 0) with e0|e0
    ·by_cases He:s2.size<b.size
     ·have j1:(s2.size:Int)<(b.size:Int):=by omega
      have HN:Hid (RB X (i+1) s2):=⟨b,s2,f2,zA0 yW,zA0 Jn,by rw[zIU,if_pos ⟨by simpa using e0,He⟩]⟩
      go_wp2
      go_roundw
      case rel=>exact⟨i+1,s2,by omega,by go_num,rfl,HN,zA0 Qz⟩
      case measure=>first | (simp[intOf];omega) | (simp only[intOf];omega)
     ·have j1:¬(s2.size:Int)<(b.size:Int):=by omega
      have HN:Hid (RB X (i+1) b):=⟨b,s2,f2,zA0 yW,zA0 Jn,by rw[zIU,if_neg (fun h=>He h.2)]⟩
      go_wp2
      go_roundw
      case rel=>exact⟨i+1,b,by omega,by go_num,rfl,HN,zA0 Qz⟩
      case measure=>first | (simp[intOf];omega) | (simp only[intOf];omega)
    ·have HN:Hid (RB X (i+1) b):=⟨b,s2,f2,zA0 yW,zA0 Jn,by rw[zIU,if_neg (fun h=>by simp[h.1] at e0)]⟩
     go_wp2
     go_roundw
     case rel=>exact⟨i+1,b,by omega,by go_num,rfl,HN,zA0 Qz⟩
     case measure=>first | (simp[intOf];omega) | (simp only[intOf];omega)
   ·have h9:¬(i:Int)+2<=4:=by omega
    have h3:i=3:=by omega
    rw[h3] at yW
    have HE:Hid (RP X b 0):=.inl ⟨rfl,zA0 yW⟩
    have HB:=zA3 (zA2 (zA0 Qa) hb)
    clear hb h3
    go_wp2
    refine bodyPost_ret (v:=.tuple #[.string b,.int .i64 0]) (by simp[results,Tryz.results34,go_sem]) rfl ⟨_,_,rfl,HE,zA0 HB⟩
 ·have e1:(f1 != 0)=true:=by simp[bne,e0]
  have HE:Hid (RP X ⟨#[]⟩ f1):=.inr ⟨rfl,by simpa using e0,s1,zA0 KB⟩
  have HB:=zA3 (zA0 FACT _ (zA0 Hb)).2
  clear e0
  go_wp2
  refine bodyPost_ret (v:=.tuple #[.string ⟨#[]⟩,.int .i64 f1]) (by simp[results,Tryz.results34,go_sem]) rfl ⟨_,_,rfl,HE,zA0 HB⟩
theorem zTE(a b:Int):zAh (.num a) (.num b)=zEQ a b:=by
 unfold zAh
 show orI (zEQ 1 1) (zEQ a b) (zK3 ⟨#[]⟩ ⟨#[]⟩)=_
 rw[zEP,zIp,zIV]
def zKF(n:Int):Prop:=-9223372036854775808<=n/\n<=9223372036854775807
def Nums(ys:List Val):Prop:=∀y∈ys,∃n,zKF n/\y=.num n
theorem zKq{x y:Val}(hx:∃n,zKF n/\x=.num n)(hy:∃n,zKF n/\y=.num n):zAh x y<=0 ↔ x.n<=y.n:=by
 obtain⟨a,_,rfl⟩:=hx
 obtain⟨b,_,rfl⟩:=hy
 rw[zTE]
 show zEQ a b<=0 ↔ a<=b
 unfold zEQ
 split
 ·omega
 ·split<;>omega
theorem zIX:∀(ys:List Val) (m:Val),zBH m ys∈m::ys/\∀y∈m::ys,zAh (zBH m ys) y<=0
 | [],m=>⟨by simp[zBH],fun y hy=>by simp at hy;subst hy;rw[zBH,List.foldl_nil,zC5];omega⟩
 | z::ys,m=>by
  have e:zBH m (z::ys)=zBH (if zAh z m<0 then z else m) ys:=rfl
  rw[e]
  obtain⟨h1,h2⟩:=zIX ys (if zAh z m<0 then z else m)
  have YT:=h2 _ (List.mem_cons_self ..)
  by_cases hz:zAh z m<0
  ·rw[if_pos hz] at h1 h2 YT ⊢
   refine⟨?_,fun y hy=>?_⟩
   ·rcases List.mem_cons.1 h1 with h|h
    ·rw[h];simp
    ·simp[h]
   ·rcases List.mem_cons.1 hy with rfl|hy
    ·exact zBz YT (by omega)
    ·rcases List.mem_cons.1 hy with rfl|hy
     ·exact YT
     ·exact h2 y (by simp[hy])
  ·rw[if_neg hz] at h1 h2 YT ⊢
   have hmz:zAh m z<=0:=by have:=zBA m z;omega
   refine⟨?_,fun y hy=>?_⟩
   ·rcases List.mem_cons.1 h1 with h|h
    ·rw[h];simp
    ·simp[h]
   ·rcases List.mem_cons.1 hy with rfl|hy
    ·exact YT
    ·rcases List.mem_cons.1 hy with rfl|hy
     ·exact zBz YT hmz
     ·exact h2 y (by simp[hy])
theorem zHA(xs:List Val)(h:0<xs.length):∀j,j<xs.length->(zCw xs j)[0]?=some (atL xs 0)
 | 0,_=>by
  rw[zCw,List.getElem?_take,if_pos (by omega)]
  exact zB0 h
 | j+1,hj=>by
  have ih:=zHA xs h j (by omega)
  rw[zCw,List.getElem?_append_left (zAL ih).1]
  exact ih
theorem zH9(xs:List Val):∀j,j<xs.length->(zCw xs j).getLast?=some (atL xs j)
 | 0,h=>by
  rw[zCw,List.take_one,List.head?_eq_getElem?,zB0 h]
  rfl
 | j+1,h=>by
  have ih:=zH9 xs j (by omega)
  rw[zDG (zB0 h) (zB0 (by omega:j<xs.length))]
  by_cases hs:zB1 (atL xs (j+1)) (atL xs j)=true
  ·rw[if_pos hs,List.append_nil,ih,zC4.1 hs]
  ·rw[if_neg hs,List.getLast?_append]
   simp
theorem zTq{a b:Nat}(h:a<=b):bl a<=bl b:=zFr (Nat.lt_of_le_of_lt h (zQM b))
theorem zLN(least:Int)(D:Nat):∀(xs:List Val) (m:Nat),m<=D->(∀x∈xs,bl (zCl least x)<=D)->xs.foldl (fun m x=>max m (bl (zCl least x))) m<=D
 | [],m,h,_=>h
 | x::xs,m,h,h2=>by
  rw[List.foldl_cons]
  refine zLN least D xs _ ?_ (fun y hy=>h2 y (by simp[hy]))
  have:=h2 x (by simp)
  omega
theorem zPE{ys S:List Val}(hn:Nums ys)(hp:S.Perm ys)(hr:zBe S):zCQ ys=zDO (zCH S)/\zHM (zCQ ys) ys=bl (zKD (zCH S)):=by
 by_cases h0:ys.length=0
 ·have e:ys=[]:=List.eq_nil_of_length_eq_zero h0
  subst e
  have e2:S=[]:=List.Perm.eq_nil hp
  subst e2
  exact⟨rfl,rfl⟩
 ·have hSl:S.length=ys.length:=hp.length_eq
  have Ht:0<S.length:=by omega
  have FX:∀k,k<S.length->atL S k∈ys:=fun k hk=>hp.mem_iff.1 (List.mem_of_getElem? (zB0 hk))
  obtain⟨x,t,rfl⟩:∃x t,ys=x::t:=by
   cases ys with
   | nil=>simp at h0
   | cons x t=>exact⟨x,t,rfl⟩
  obtain⟨m1,m2⟩:=zIX t x
  have hW0:(zCH S)[0]?=some (atL S 0):=zHA S Ht _ (by omega)
  have Zu:=(zAL hW0).1
  have hf:zDO (zCH S)=(atL S 0).n:=by rw[zDO,if_neg (by omega),zFV hW0]
  have qx:zH0 (zCH S)=(atL S (S.length-1)).n:=by
   have h1:=zH9 S (S.length-1) (by omega)
   rw[List.getLast?_eq_getElem?] at h1
   rw[zH0,if_neg (by omega)]
   exact congrArg Val.n (zFV h1)
  have lo:∀y∈x::t,(atL S 0).n<=y.n:=fun y hy=>by
   obtain⟨i,hi,e⟩:=List.getElem_of_mem (hp.mem_iff.2 hy)
   have:=hr.at (Nat.zero_le i) (zB0 Ht) (by rw[zAf hi,e])
   exact(zKq (hn _ (FX 0 Ht)) (hn y hy)).1 this
  have Gl:∀y∈x::t,y.n<=(atL S (S.length-1)).n:=fun y hy=>by
   obtain⟨i,hi,e⟩:=List.getElem_of_mem (hp.mem_iff.2 hy)
   have:=hr.at (show i<=S.length-1 by omega) (by rw[zAf hi,e]) (zB0 (show S.length-1<S.length by omega))
   exact(zKq (hn y hy) (hn _ (FX _ (by omega)))).1 this
  have YT:zCQ (x::t)=(atL S 0).n:=by
   show (zBH x t).n=_
   have h1:=lo _ m1
   have h2:=(zKq (hn _ m1) (hn _ (FX 0 Ht))).1 (m2 _ (FX 0 Ht))
   omega
  refine⟨YT.trans hf.symm,?_⟩
  rw[YT]
  have hfar:zKD (zCH S)=zCl (atL S 0).n (atL S (S.length-1)):=by unfold zKD zCl;rw[qx,hf]
  rw[hfar]
  have Ju:∀y∈x::t,zCl (atL S 0).n y=(y.n-(atL S 0).n).toNat:=fun y hy=>by
   obtain⟨b,hb,e⟩:=hn y hy
   obtain⟨c,hc,e2⟩:=hn _ (FX 0 Ht)
   have h1:=lo y hy
   have ey:y.n=b:=by rw[e];rfl
   have ec:(atL S 0).n=c:=by rw[e2];rfl
   have h3:c<=b:=by rw[<-ec,<-ey];exact h1
   unfold zCl
   rw[ey,ec]
   unfold zKF at hb hc
   congr 1
   omega
  apply Nat.le_antisymm
  ·refine zLN _ _ _ _ (Nat.zero_le _) fun y hy=>zTq ?_
   rw[Ju y hy,Ju _ (FX _ (by omega))]
   have:=Gl y hy
   omega
  ·exact(zNu _ _ 0).2 _ (FX _ (by omega))
theorem zQK{n:Nat}{ys:List Val}{b b':List Int}(hc:∀y∈ys,zA8 y=y)(hn:n=4->Nums ys)(h1:zEj n ys b)(h2:zK9 n ys b'):b=b':=by
 rcases h1 with ⟨e,h1⟩|⟨e,h1⟩|⟨e,W,⟨S1,p1,r1,e1⟩,h1⟩|⟨e,h1⟩<;>rcases h2 with ⟨e',h2⟩|⟨e',h2⟩|⟨e',S2,p2,r2,h2⟩|⟨e',S2,p2,r2,h2⟩<;>(try omega)
 ·rw[h1,h2]
 ·rw[h1,h2,(zGm ys.length ys hc).1,(zGm ys.length ys hc).2]
 ·have Qj:∀y∈S1,zA8 y=y:=fun y hy=>hc y (p1.mem_iff.1 hy)
  have hS:S1=S2:=zIM r1 r2 (p1.trans p2.symm) Qj
  subst hS
  rw[h1,h2,e1,zGZ Qj]
 ·have To:∀y∈S2,zA8 y=y:=fun y hy=>hc y (p2.mem_iff.1 hy)
  obtain⟨q1,q2⟩:=zPE (hn e) p2 r2
  rw[h1,h2,zGZ To]
  unfold zFj zJd
  have e3:(((zH0 (zCH S2)-zDO (zCH S2)) % 18446744073709551616).toNat)=zKD (zCH S2):=rfl
  rw[e3,<-q2,<-q1]
theorem zSG{X:Vc}{sch:Int}(h:zFU X sch=false):zAg X=true/\(sch=4->X.k=1):=by
 simp only[zFU,Bool.or_eq_false_iff,Bool.not_eq_false',decide_eq_false_iff_not] at h
 obtain⟨⟨⟨hg,h1⟩,h2⟩,h3⟩:=h
 refine⟨hg,fun e=>?_⟩
 subst e
 rcases zCU hg with h|h
 ·exact h
 ·rw[h] at h3;exact absurd h3 (by decide)
theorem zCc{X:Vc}{sch:Int}{s t:ByteArray}{f g:Int}(hn:∀n∈X.ns,zKF n)(h1:PW X sch s f)(h2:RW X sch t g):t=s/\g=f:=by
 rcases h1 with ⟨b1,rfl,rfl⟩|⟨b1,l1,rfl,rfl⟩|⟨b1,l1,rfl,b,hb,rfl⟩<;>rcases h2 with ⟨b2,rfl,rfl⟩|⟨b2,l2,rfl,rfl⟩|⟨b2,l2,rfl,b',Yl,rfl⟩
 ·exact⟨rfl,rfl⟩
 ·rw[b1] at b2;cases b2
 ·rw[b1] at b2;cases b2
 ·rw[b1] at b2;cases b2
 ·exact⟨rfl,rfl⟩
 ·omega
 ·rw[b1] at b2;cases b2
 ·omega
 ·obtain⟨hg,hk⟩:=zSG b1
  have e:=zQK (fun y hy=>zD0 hg (List.mem_filter.1 hy).1) (fun e4 y hy=>?_) hb Yl
  ·rw[e];exact⟨rfl,rfl⟩
  ·obtain⟨hy1,hy2⟩:=List.mem_filter.1 hy
   have Jv:=hk (by omega)
   rcases zE4 hg hy1 with rfl|⟨_,n,TK,rfl⟩|⟨h2,_⟩
   ·simp[Val.null] at hy2
   ·refine⟨n,?_,rfl⟩
    rcases TK with h|h
    ·exact hn n h
    ·rw[h];unfold zKF;omega
   ·rw[Jv] at h2;cases h2
theorem zJL{X:Vc}(hn:∀n∈X.ns,zKF n):∀(i:Nat) (s t:ByteArray),PB X i s->RB X i t->t=s
 | 0,s,t,h1,h2=>(zCc hn h1 h2).1
 | i+1,s,t,⟨c,s1,f1,h1,h2,e⟩,⟨c',s2,f2,h1',h2',e'⟩=>by
  have q1:=zJL hn i c c' h1 h1'
  obtain⟨q2,q3⟩:=zCc hn h2 h2'
  rw[e,e',q1,q2,q3]
theorem zOW{X:Vc}{s t:ByteArray}{f g:Int}(hn:∀n∈X.ns,zKF n)(h1:PP X s f)(h2:RP X t g):t=s/\g=f:=by
 have z1:∀b,PB X 3 b->∃c,PW X 1 c 0:=fun b h=>by
  obtain⟨c,_,_,h,_⟩:=h
  obtain⟨c,_,_,h,_⟩:=h
  obtain⟨c,_,_,h,_⟩:=h
  exact⟨c,h⟩
 have z2:∀b,RB X 3 b->∃c,RW X 1 c 0:=fun b h=>by
  obtain⟨c,_,_,h,_⟩:=h
  obtain⟨c,_,_,h,_⟩:=h
  obtain⟨c,_,_,h,_⟩:=h
  exact⟨c,h⟩
 rcases h1 with ⟨rfl,h1⟩|⟨rfl,h1,c,hc⟩<;>rcases h2 with ⟨rfl,h2⟩|⟨rfl,h2,c',ZB⟩
 ·exact⟨zJL hn 3 _ _ h1 h2,rfl⟩
 ·obtain⟨c,hc⟩:=z1 _ h1
  exact absurd (zCc hn hc ZB).2 h2
 ·obtain⟨c',ZB⟩:=z2 _ h2
  exact absurd (zCc hn hc ZB).2.symm h1
 ·exact⟨rfl,(zCc hn hc ZB).2⟩
theorem zMm{n:Nat}{ys:List Val}{b:List Int}(h:zK9 n ys b):∃b',zEj n ys b':=by
 rcases h with ⟨rfl,_⟩|⟨rfl,_⟩|⟨rfl,S,h1,h2,_⟩|⟨rfl,_⟩
 ·exact⟨_,.inl ⟨rfl,rfl⟩⟩
 ·exact⟨_,.inr (.inl ⟨rfl,rfl⟩)⟩
 ·exact⟨_,.inr (.inr (.inl ⟨rfl,_,⟨S,h1,h2,rfl⟩,rfl⟩))⟩
 ·exact⟨_,.inr (.inr (.inr ⟨rfl,rfl⟩))⟩
theorem zUi{X:Vc}{sch:Int}{s:ByteArray}(hn:∀n∈X.ns,zKF n)(h:RW X sch s 0):PW X sch s 0:=by
 have h':=h
 rcases h with ⟨_,_,h⟩|⟨_,_,_,h⟩|⟨b1,l1,_,b,hb,rfl⟩
 ·exact absurd h (by decide)
 ·exact absurd h (by decide)
 ·obtain⟨b',Yl⟩:=zMm hb
  have hp:PW X sch (toB (zB2 sch.toNat X.k.toNat (zAD X)++b')) 0:=.inr (.inr ⟨b1,l1,rfl,b',Yl,rfl⟩)
  rw[(zCc hn hp h').1]
  exact hp
theorem zPo{n:Int}(h:-9223372036854775808<=n/\n<=9223372036854775807):zKF n:=by
 unfold zKF;omega
theorem zTJ{n:Int}(h:zKF n):-9223372036854775808<=n/\n<=9223372036854775807:=by
 unfold zKF at h;omega
theorem zJ4{X:Vc}(hn:∀n∈X.ns,zKF n){n:Nat}(h4:n=1∨n=2∨n=3∨n=4){s:ByteArray}(h:RW X (n:Int) s 0):zB7 s.data.toList=some (n,X.k,zAD X):=
 zHh (fun k hk=>zTJ (hn k hk)) h4 (zUi hn h)
theorem zUL{kind:Int}{x:Val}(h:zHJ kind x):zFu kind x=false/\zAv x.s=false/\-9223372036854775808<=x.n/\x.n<=9223372036854775807:=by
 rcases h with ⟨rfl,n,h1,h2,rfl⟩|⟨rfl,s,h1,rfl⟩
 ·refine⟨rfl,zIb.2 ?_,h1,h2⟩
  show (0:Nat)<=1000
  omega
 ·exact⟨rfl,zIb.2 h1,by show -9223372036854775808<=(0:Int);decide,by show (0:Int)<=9223372036854775807;decide⟩
theorem zDo{l:List UInt8}{sch:Nat}{kind:Int}{xs:List Val}(h:zB7 l=some (sch,kind,xs)):zBU kind xs=(zBd kind xs,0)/\∀x∈xs,zA8 x=x/\-9223372036854775808<=x.n/\x.n<=9223372036854775807:=by
 obtain⟨b,hk,Hf,h1,h4,h41,hb,hl,hf,h0⟩:=zCx h
 have Qs:∀x∈xs,zA8 x=x/\zFu kind x=false/\zAv x.s=false/\-9223372036854775808<=x.n/\x.n<=9223372036854775807:=fun x hx=>by
  by_cases h0x:x.k=0
  ·rw[h0 x hx h0x]
   refine⟨rfl,?_,zIb.2 (by show (0:Nat)<=1000;omega),by show -9223372036854775808<=(0:Int);decide,by show (0:Int)<=9223372036854775807;decide⟩
   rcases hk with rfl|rfl<;>rfl
  ·have Ji:x∈zAA xs:=List.mem_filter.2 ⟨hx,by simp[h0x]⟩
   have:=zUL (hf x Ji)
   exact⟨zHq (hf x Ji),this.1,this.2.1,this.2.2⟩
 have ec:xs.map zA8=xs:=by
  conv=>rhs;rw[<-List.map_id xs]
  exact List.map_congr_left fun y hy=>(Qs y hy).1
 refine⟨?_,fun x hx=>⟨(Qs x hx).1,(Qs x hx).2.2.2⟩⟩
 unfold zBU
 rw[ec,if_neg,if_neg,if_neg]
 ·intro hh
  obtain⟨y,hy,Tf⟩:=List.any_eq_true.1 hh
  rw[(Qs y hy).2.2.1] at Tf;cases Tf
 ·intro hh
  obtain⟨y,hy,Tf⟩:=List.any_eq_true.1 hh
  rw[(Qs y hy).2.1] at Tf;cases Tf
 ·rcases hk with rfl|rfl<;>decide
theorem zRo{X:Vc}{sch:Nat}(hg:zAg X=true)(h1:1<=sch)(h4:sch<=4)(hk:sch=4->X.k=1):zFU X (sch:Int)=false:=by
 simp only[zFU,Bool.or_eq_false_iff,Bool.not_eq_false',decide_eq_false_iff_not]
 refine⟨⟨⟨hg,?_⟩,?_⟩,?_⟩
 ·omega
 ·omega
 ·rcases zCU hg with h|h
  ·rw[h]
   have:((1:Int) == 2)=false:=rfl
   simp[this]
  ·have:¬sch=4:=fun e=>by rw[hk e] at h;cases h
   have:((sch:Int) == 4)=false:=by simp;omega
   simp[this]
theorem zJS{s:ByteArray}{sch:Nat}{kind:Int}{xs:List Val}(h:zB7 s.data.toList=some (sch,kind,xs)){t:ByteArray}{f:Int}(hw:RW (zBd kind xs) (sch:Int) t f):f=0/\t=s:=by
 obtain⟨e0,Qs⟩:=zDo h
 obtain⟨b,hk,Hf,h1,h4,h41,hb,hl,hf,h0⟩:=zCx h
 obtain⟨g1,g2,g3,g4,g5,g6,g7,g8⟩:=zH5 e0
 have ec:xs.map zA8=xs:=by
  conv=>rhs;rw[<-List.map_id xs]
  exact List.map_congr_left fun y hy=>(Qs y hy).1
 rw[ec] at g3
 have qv:∀n∈(zBd kind xs).ns,zKF n:=fun n hn=>zPo (g8 (fun x hx=>(Qs x hx).2) n hn)
 have hp:PW (zBd kind xs) (sch:Int) s 0:=by
  refine .inr (.inr ⟨zRo g1 h1 h4 (fun e=>by rw[g2];exact h41 e),by rw[g5];exact Hf,rfl,b,by rw[g3,Int.toNat_natCast];exact hb,?_⟩)
  rw[g2,g3,Int.toNat_natCast]
  have e2:s.data.toList=(toB (zB2 sch kind.toNat xs++b)).data.toList:=by rw[zIE,hl]
  have e3:s.data=(toB (zB2 sch kind.toNat xs++b)).data:=by
   rw[<-Array.toArray_toList (xs:=s.data),e2,Array.toArray_toList]
  cases s with
  | mk d=>simp only at e3;rw[e3]
 obtain⟨e1,e2⟩:=zCc qv hp hw
 exact⟨e2,e1⟩
end Go.Proofs.YtekgpapophibcaaGreat
