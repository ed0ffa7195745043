import Derived.Test.YtklgoolblpmmlaaGreatStA
import Derived.OwnWalk
set_option linter.all false
set_option maxHeartbeats 1000000
set_option maxRecDepth 100000
namespace Go.Proofs.YtklgoolblpmmlaaGreat
open Go.RowKit Go.Sort Go.Proofs.Tryz
theorem m1:(Tryz.prog.info? 3).map (λa=>(a.zero,a.size,a.bytes))=some (some (.int .i64 0),1,8):=by kernel_rfl
variable{C:List Int}{n:Nat}
theorem wZ{a:Int->Bool}{x:Int}(b:C[n]?=some x):(C.drop n).all a=(a x && (C.drop (n+1)).all a):=by obtain⟨c,d⟩:=bD b;rw[gP c,List.all_cons,d]
def tj(a:Int):Bool:=a != 1 && a != 2
theorem tf(a:Int)(b:World):Calls prog 173 #[.int .i64 a] b λf g=>f=.returned (.bool (tj a))/\Bw b g:=by
 by_cases c:a=1;.subst c;go_enter func173,ntmps173;go_wp2;go_ret;exact⟨rfl,by first|exact VS|exact am VS _⟩
 ·(have d:(a != 1)=true:=by simpa using c);(have e:tj a=(a != 2):=by unfold tj;rw[d];rfl);rw[e];go_enter func173,ntmps173;go_wp2;go_ret;exact⟨rfl,by first|exact VS|exact am VS _⟩
theorem tC(q:Option Addr)(v:Nat)(a:List Int)(g:World)(D:a.length<=140737488355328)(r:bP g q a):Calls prog 117 #[.slice q a.length v,.func (.func 173) #[] #[]] g λw z=>∃n:Int,w=.returned (.int .i64 n)/\decide (0<=n)=a.any tj/\Bw g z:=by
 have t:=H r;have u:=H tf;clear r;go_enter func117,ntmps117;go_wp2_with fail;go_loopw[8] (λc wr=>∃d:Nat,d<=a.length/\c=.int .i64 (d:Int)/\Hid (∀c b,c<d->a[c]?=some b->tj b=false)/\Bw g wr) (λc _=>a.length-(intOf c).toNat);case atStart=>exact⟨0,bt,rfl,λc b s=>absurd s (by omega),VS⟩
 case round=>obtain⟨d,C,rfl,j,k⟩:=hrel;by_cases y:d<a.length;(·(have x:(d:Int)<(a.length:Int):=by omega);obtain⟨b,e⟩:∃b,a[d]?=some b:=⟨_,VR y⟩;obtain⟨E,F,rfl,B⟩:=((U t).aa k).get e;have m:=H (U u b wr);have l:=H k;clear k;cases f:tj b;(.have i:=H (AV (p:=tj) (U j) e f);rw[f] at m;clear e j f;go_wp2_with (go_at_call 173;refine(U m).mono ?_;rintro n A ⟨rfl,o⟩);exact⟨⟨d+1,by omega,by go_num,U i,ac (U l) o⟩,by simp[intOf];omega⟩);.have i:Hid (a.any tj=true):=C8 (p:=tj) e f;rw[f] at m;clear e j f;go_wp2_with (go_at_call 173;refine(U m).mono ?_;rintro n A ⟨rfl,o⟩);go_ret;exact⟨_,rfl,by rw[U i];simp,ac (U l) o⟩);·(have x:¬(d:Int)<(a.length:Int):=by omega);have i:Hid (a.any tj=false):=C7 λc b s e=>U j c b (by omega) e;have l:=H k;clear j k;go_wp2;go_ret;exact⟨_,rfl,by rw[U i];rfl,U l⟩
theorem nT(c:Option Addr)(d:Nat)(a:List Int)(b:World)(j:a.length<=140737488355328)(f:bP b c a):Calls prog 66 #[.slice c a.length d,.func (.func 173) #[] #[]] b λe k=>e=.returned (.bool (a.any tj))/\Bw b k:=by have g:=H (tC c d a b j f);clear f;generalize a.any tj=n at *;go_enter func66,ntmps66;go_wp2_with (go_at_call 117;refine(U g).mono ?_;rintro e o ⟨m,rfl,l,i⟩);go_ret;exact⟨rfl,i⟩
def iC(b:Int)(c:List Int):Bool:=c.all λa=>a == b || a == 0
theorem uR(e:Int)(s:Option Addr)(w:Nat)(a:List Int)(g:World)(F:a.length<=140737488355328)(u:bP g s a):Calls prog 216 #[.int .i64 e,.slice s a.length w] g λz A=>z=.returned (.bool (iC e a))/\Bw g A:=by
 have v:=H u;clear u;have r:Hid (iC e a=(a.drop 0).all λc=>c == e || c == 0):=rfl;generalize iC e a=n at *;go_enter func216,ntmps216;go_wp2_with fail;go_loopw[9] (λq wr=>∃b:Nat,b<=a.length/\q=.int .i64 (b:Int)/\Hid (n=(a.drop b).all λc=>c == e || c == 0)/\Bw g wr) (λq _=>a.length-(intOf q).toNat);case atStart=>exact⟨0,bt,rfl,U r,VS⟩
 case round=>obtain⟨b,E,rfl,d,l⟩:=hrel;have j:=H l;by_cases y:b<a.length;(·(have x:(b:Int)<(a.length:Int):=by omega);obtain⟨f,p⟩:∃f,a[b]?=some f:=⟨_,VR y⟩;obtain⟨G,I,rfl,B⟩:=((U v).aa l).get p;rw[wZ p] at d;clear p l r;by_cases i:f=e;(.subst i;(have m:Hid (n=(a.drop (b+1)).all λc=>c == f || c == 0):=by have:=U d;show _=_;simpa using this);clear d;go_wp2;exact⟨⟨b+1,by omega,by go_num,U m,U j⟩,by simp[intOf];omega⟩);·(have C:(f != e)=true:=by simpa using i);(have o:(f == e)=false:=by simpa using i);rw[o,Bool.false_or] at d;by_cases k:f=0;(.subst k;(have m:Hid (n=(a.drop (b+1)).all λc=>c == e || c == 0):=by have:=U d;show _=_;simpa using this);clear d i o;go_wp2;exact⟨⟨b+1,by omega,by go_num,U m,U j⟩,by simp[intOf];omega⟩);·(have D:(f != 0)=true:=by simpa using k);(have t:(f == 0)=false:=by simpa using k);rw[t,Bool.false_and] at d;clear i k o t;go_wp2;go_ret;exact⟨by rw[U d];rfl,U j⟩);·(have x:¬(b:Int)<(a.length:Int):=by omega);rw[gl (by omega),List.all_nil] at d;clear l;go_wp2;go_ret;exact⟨by rw[U d];rfl,U j⟩
def hV(a b:Int):Int×Bool:=if a == 0 then (b,true) else (a,b == 0 || a == b)
theorem tY(a b:Int)(c:World):Calls prog 217 #[.int .i64 a,.int .i64 b] c λj k=>j=.returned (.tuple #[.int .i64 (hV a b).1,.bool (hV a b).2])/\Bw c k:=by
 by_cases d:a=0;.subst d;go_enter func217,ntmps217;go_wp2;refine bs (v:=.tuple #[.int .i64 b,.bool true]) (by simp[results,results217,go_sem]) rfl ⟨rfl,by first|exact VS|exact am VS _⟩
 ·(have f:(a == 0)=false:=by simpa using d);(have i:hV a b=(a,b == 0 || a == b):=by unfold hV;rw[f];rfl);rw[i];by_cases e:b=0;(.subst e;go_enter func217,ntmps217;go_wp2;refine bs (v:=.tuple #[.int .i64 a,.bool true]) (by simp[results,results217,go_sem]) rfl ⟨rfl,by first|exact VS|exact am VS _⟩);·(have g:(b == 0)=false:=by simpa using e);simp only[g,Bool.false_or];go_enter func217,ntmps217;go_wp2;refine bs (v:=.tuple #[.int .i64 a,.bool (a == b)]) (by simp[results,results217,go_sem]) rfl ⟨rfl,by first|exact VS|exact am VS _⟩
def mT(b:Int)(a:List Int):Int×Bool:=
 if b == 5 then (1,true) else if b == 6 then (1,iC 2 a) else if b == 18 then (2,iC 2 a)
 else if decide (12<=b) && decide (b<=17) then (1,(hV (a.getD 0 0) (a.getD 1 0)).2)
 else if b == 21 then ((hV (a.getD 1 0) (a.getD 2 0)).1,(hV (a.getD 1 0) (a.getD 2 0)).2 && iC 1 (a.take 1))
 else (1,iC 1 a)
theorem A4(b:Int)(K:Option Addr)(y:Nat)(a:List Int)(c:World)(O:(a.length:Int)=Vk b)(V3:a.length<=y)(f:bP c K a):Calls prog 197 #[.int .i64 b,.slice K a.length y] c λi r=>i=.returned (.tuple #[.int .i64 (mT b a).1,.bool (mT b a).2])/\Bw c r:=by
 have P:a.length<=140737488355328:=by(have:Vk b<=3:=by unfold Vk;split;omega;split;omega;split;omega;split;omega;split<;>omega);omega
 have j:=H (λn l (N:Bw c l)=>uR n K y a l P (f.aa N));have o:=H tY;by_cases T:b=5;.subst T;clear j o;go_enter func197,ntmps197;go_wp2;refine bs (v:=.tuple #[.int .i64 1,.bool true]) (by simp[results,results197,go_sem]) rfl ⟨rfl,by first|exact VS|exact am VS _⟩
 have VW:(b == 5)=false:=by simpa using T
 by_cases V:b=6;.subst V;have e:mT 6 a=(1,iC 2 a):=rfl;rw[e];have d:=H (U j 2 c VS);clear j o f e;go_enter func197,ntmps197;go_wp2_with (go_at_call 216;refine(U d).mono ?_;rintro i I ⟨rfl,m⟩);refine bs (v:=.tuple #[.int .i64 1,.bool (iC 2 a)]) (by simp[results,results197,go_sem]) rfl ⟨rfl,m⟩
 have VX:(b == 6)=false:=by simpa using V
 by_cases R:b=18;.subst R;have e:mT 18 a=(2,iC 2 a):=rfl;rw[e];have d:=H (U j 2 c VS);clear j o f e;go_enter func197,ntmps197;go_wp2_with (go_at_call 216;refine(U d).mono ?_;rintro i I ⟨rfl,m⟩);refine bs (v:=.tuple #[.int .i64 2,.bool (iC 2 a)]) (by simp[results,results197,go_sem]) rfl ⟨rfl,m⟩
 have Z:(b == 18)=false:=by simpa using R
 by_cases w:12<=b/\b<=17
 .have x:(decide (12<=b) && decide (b<=17))=true:=by simp;omega
  have e:mT b a=(1,(hV (a.getD 0 0) (a.getD 1 0)).2):=by unfold mT;rw[VW,VX,Z,x];rfl
  have W:a.length=2:=by
   have:Vk b=2:=by
    unfold Vk
    rw[VU (by simp;omega),VU (by simp;omega),VU (by simp;omega),ba (by simp;omega)]
   omega
  rw[e]
  match a,W with
  | [g,n],_=>
   obtain⟨F,G,rfl,s⟩:=f.get (k:=0) (x:=g) rfl
   obtain⟨VY,VZ,p,t⟩:=f.get (k:=1) (x:=n) rfl
   simp only[Option.some.injEq,Addr.mk.injEq,and_true] at p
   obtain⟨rfl,rfl⟩:=p
   have d:=H (λl=>U o g n l)
   simp only[List.getD_cons_zero,List.getD_cons_succ]
   obtain⟨J,z⟩:=bn (hV g n)
   rw[<-z] at d ⊢
   obtain⟨L,M⟩:=J
   rw[Nat.add_zero] at s
   have D:=cell_regrown s
   have E:=cell_regrown t
   have V6:=w.1
   have V7:=w.2
   simp only at d
   clear j o f e W z x O P w
   rw[dY,dY,List.length_nil]
   go_enter func197,ntmps197
   go_upto_region 8 with fail
   refine wp_region_quiet_below (by kernel_rfl) (by kernel_rfl) ?_
   repeat (go_big_quiet_step ((go_at_call 217;exact Calls.regrown_of (U d _))))
   refine wpQuiet_nil ?_
   intro r q
   have u:Bw c r:=by obtain⟨g,rfl⟩:=q;exact below_regrown _ _ _
   clear q D E s t
   go_wp2
   refine bs (v:=.tuple #[.int .i64 1,.bool M]) (by simp[results,results197,go_sem]) rfl ⟨rfl,u⟩
 have x:(decide (12<=b) && decide (b<=17))=false:=by by_cases h:(decide (12<=b) && decide (b<=17))=true;(.simp at h;exact absurd h w);.simpa using h
 have B:b<12∨17<b:=by omega
 by_cases S:b=21
 .subst S
  have e:mT 21 a=((hV (a.getD 1 0) (a.getD 2 0)).1,(hV (a.getD 1 0) (a.getD 2 0)).2 && iC 1 (a.take 1)):=rfl
  have X:a.length=3:=by(have:Vk 21=3:=by decide);omega
  rw[e]
  match a,X with
  | [g,n,i],_=>
   obtain⟨F,G,rfl,s⟩:=f.get (k:=1) (x:=n) rfl
   obtain⟨VY,VZ,p,t⟩:=f.get (k:=2) (x:=i) rfl
   simp only[Option.some.injEq,Addr.mk.injEq,and_true] at p
   obtain⟨rfl,rfl⟩:=p
   have Y:bP c (some ⟨F,G,none⟩) [g]:=by
    obtain⟨VY,VZ,p,V1⟩:=f.get (k:=0) (x:=g) rfl
    simp only[Option.some.injEq,Addr.mk.injEq,and_true] at p
    obtain⟨rfl,rfl⟩:=p
    refine .inr ⟨F,G,rfl,λV4 A C=>?_⟩
    match V4,C with
    | 0,C=>simp at C;subst C;exact V1
   have Q:=H (λl (N:Bw c l)=>uR 1 (some ⟨F,G,none⟩) y [g] l (by simp) (Y.aa N))
   have d:=H (λl=>U o n i l)
   simp only[List.getD_cons_zero,List.getD_cons_succ,List.take_succ_cons,List.take_zero]
   obtain⟨J,z⟩:=bn (hV n i)
   rw[<-z] at d ⊢
   obtain⟨L,M⟩:=J
   have D:=cell_regrown s
   have E:=cell_regrown t
   simp only at d
   have V8:(1:Int)<=(y:Int):=by simp at V3;omega
   clear j o f e X z O P Y B x w
   rw[dY,dY,dY,List.length_nil]
   rw[dY,List.length_nil] at Q
   cases M with
   | false=>
    simp only[Bool.false_and]
    go_enter func197,ntmps197
    go_upto_region 11 with fail
    refine wp_region_quiet_below (by kernel_rfl) (by kernel_rfl) ?_
    repeat (go_big_quiet_step ((go_at_call 217;exact Calls.regrown_of (U d _))))
    refine wpQuiet_nil ?_
    intro r q
    have u:Bw c r:=by obtain⟨g,rfl⟩:=q;exact below_regrown _ _ _
    clear q D E s t
    go_wp2
    refine bs (v:=.tuple #[.int .i64 L,.bool false]) (by simp[results,results197,go_sem]) rfl ⟨rfl,u⟩
   | true=>
    simp only[Bool.true_and]
    go_enter func197,ntmps197
    go_upto_region 11 with fail
    refine wp_region_quiet_below (by kernel_rfl) (by kernel_rfl) ?_
    repeat (go_big_quiet_step ((go_at_call 217;exact Calls.regrown_of (U d _))))
    refine wpQuiet_nil ?_
    intro r q
    have u:Bw c r:=by obtain⟨g,rfl⟩:=q;exact below_regrown _ _ _
    clear q D E s t
    have V0:=H (U Q r u)
    go_wp2_with (go_at_call 216;refine(U V0).mono ?_;rintro i I ⟨rfl,m⟩)
    refine bs (v:=.tuple #[.int .i64 L,.bool (iC 1 [g])]) (by simp[results,results197,go_sem]) rfl ⟨rfl,ac u m⟩
 have V5:(b == 21)=false:=by simpa using S
 have e:mT b a=(1,iC 1 a):=by unfold mT;rw[VW,VX,Z,x,V5];rfl
 rw[e];have d:=H (U j 1 c VS);clear j o f e x w O;rcases B with B|B;·(have V2:¬12<=b:=by omega);go_enter func197,ntmps197;go_wp2_with (go_at_call 216;refine(U d).mono ?_;rintro i I ⟨rfl,m⟩);refine bs (v:=.tuple #[.int .i64 1,.bool (iC 1 a)]) (by simp[results,results197,go_sem]) rfl ⟨rfl,m⟩
 ·(have V2:¬b<=17:=by omega);(have V9:12<=b:=by omega);go_enter func197,ntmps197;go_wp2_with (go_at_call 216;refine(U d).mono ?_;rintro i I ⟨rfl,m⟩);refine bs (v:=.tuple #[.int .i64 1,.bool (iC 1 a)]) (by simp[results,results197,go_sem]) rfl ⟨rfl,m⟩
end Go.Proofs.YtklgoolblpmmlaaGreat
