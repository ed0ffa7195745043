import Derived.Test.YtabmgpillccfaaaGreatDoorTzA
import Derived.Shelf.Strings.SlTrimAscii
set_option linter.all false
set_option maxHeartbeats 4000000
set_option maxRecDepth 100000
namespace Go.Proofs.YtabmgpillccfaaaGreatDoor
open Go.RowKit Go.Sort Go.Proofs.Tryz
def Rd(c:World)(a:Nat)(b:List UInt8):Prop:=c.rowIs a 94 1 λ_=>.string (bs b)
def Gr(b c:World)(a:Nat):Prop:=b.grownBy c (some a)
theorem Gr.refl(a:World)(b:Nat):Gr a a b:=World.grownBy.refl _ _
variable{W X w:World}{k m n:Nat}{v:Value}{D:List Value}{P:Nat->Prop}{a:Option Addr}
theorem Gr.trans(h:Gr w W n)(a:Gr W X n):Gr w X n:=
 ⟨a.os.trans h.os,a.tape.trans h.tape,a.output.trans h.output,aQ h.size a.size,λd b c=>by rw[a.block d (be b h.size) c,h.block d b c]⟩
theorem Gr.of_below(h:Bw w W)(a:Nat):Gr w W a:=⟨h.os,h.tape,h.output,h.size,λc b _=>h.block c b⟩
theorem Rd.cell{a:List UInt8}(h:Rd w n a):w.cell? ⟨n,0,none⟩=some (.string (bs a)):=World.rowIs.cell h (by decide)
theorem Rd.frozen{a:List UInt8}(h:Rd w n a):w.frozen? ⟨n,0,none⟩=false:=World.rowIs.frozen h 0
theorem Rd.lt{a:List UInt8}(h:Rd w n a):n<w.heap.size:=bY _ _ h.cell
theorem Rd.set{c:List UInt8}(h:Rd w n c)(a:List UInt8):Rd (w.setCell ⟨n,0,none⟩ (.string (bs a))) n a:=
 World.rowIs.congr (World.rowIs.set h 0 (.string (bs a))) (λb d=>by(have:b=0:=by omega);subst this;simp)
theorem nz(b:World)(a d:Nat)(c:Value):b.grownBy (b.setCell ⟨a,d,none⟩ c) (some a):=by have:=(ar a b).setCell (p:=⟨a,d,none⟩) aV c;exact⟨this.os,this.tape,this.output,this.size,λg _ f=>Below.heap_setCell b _ c g (λe=>f (by rw[e]))⟩
theorem Gr.set(h:Gr w W n)(a:Value):Gr w (W.setCell ⟨n,0,none⟩ a) n:=h.trans (nz W n 0 a)
theorem Rd.aa{a:List UInt8}(h:Rd w n a)(b:Bw w W):Rd W n a:=World.rowIs.of_block h (b.block n (World.rowIs.lt h))
theorem Gr.own{base size:Nat}(h:w.ownsRow base m size v k D)(a:Gr w W n)(d:n<base):W.ownsRow base m size v k D:=
 h.kept a (by cases b:v.ownBlock with|none=>exact .inl rfl|some c=>exact .inr (λm=>by injection m with m;have:=(World.ownsRow.lt h c b).1;omega))
theorem Gr.cell{k:Nat}(c:Gr w W n)(d:k≠n)(h:w.cell? ⟨k,m,none⟩=some v):W.cell? ⟨k,m,none⟩=some v:=by rw[World.cell?_of_block (w:=w) (a:=⟨k,m,none⟩) (c.block k (bY _ _ h) (λb=>by injection b with b;exact d b))];exact h
def bD(a:List UInt8):List UInt8:=Lib.trimLeftS a [32,9,10]
theorem p0(b:List UInt8)(a:World):Calls prog 91 #[.string (bs b),.string ⟨#[32,9,10]⟩] a λc d=>c=.returned (.string (bs (bD b)))/\Bw a d:=by refine(Any.strings_TrimLeft_laid Tryz.lays161 (by kernel_rfl) (bs b) ⟨#[32,9,10]⟩ a (by decide) (ascii_of_all (by decide))).mono ?_;rintro c d ⟨rfl,e⟩;rw[dZ];exact⟨rfl,e⟩
theorem gw(a:Nat)(d:List UInt8)(b:World)(h:Rd b a d):Calls prog 48 #[.pointer (some ⟨a,0,none⟩)] b λj f=>j=.returned (.tuple #[])/\Rd f a (bD d)/\Gr b f a:=by have k:=h.cell;have g:=VV h;have i:=VV (p0 d b);clear h;go_enter func48,ntmps48;go_wp2_with (go_at_call 91;refine(U i).mono ?_;rintro n o ⟨rfl,e⟩;have c:=(U g).aa e;have m:=c.frozen;have l:=c.cell);go_end0;exact⟨rfl,c.set _,(Gr.of_below e a).set _⟩
def eZ(a:UInt8)(b:List UInt8):Bool:=Lib.hasPrefix b [a]
def fR(a:UInt8)(b:List UInt8):List UInt8:=Lib.trimPrefix b [a]
theorem VG(d:Nat)(a:UInt8)(b:List UInt8)(c:World)(h:Rd c d b):Calls prog 87 #[.pointer (some ⟨d,0,none⟩),.string ⟨#[a]⟩] c λg e=>g=.returned (.bool (eZ a b))/\Rd e d (fR a b)/\Gr c e d:=by have k:=h.cell;have m:=h.frozen;have j:=VV h;have f:=VV (Tryz.strings_CutPrefix (bs b) ⟨#[a]⟩ c);rw[dZ] at f;have i:Hid (Calls prog 128 #[.string (bs b),.string ⟨#[a]⟩] c λg e=>g=.returned (.tuple #[.string (bs (fR a b)),.bool (eZ a b)])/\e=c):=f;clear h f;generalize eZ a b=l at *;generalize fR a b=o at *;go_enter func87,ntmps87;go_wp2_with (go_at_call 128;refine(U i).mono ?_;rintro n p ⟨rfl,rfl⟩);go_ret;exact⟨rfl,(U j).set _,(Gr.refl _ _).set _⟩
def jY(a:Int):Bool:=hj a || a == 35 || a == 45
def bn(a:UInt8):Bool:=jY (a.toNat:Int)
theorem hq(c:Int)(f:World):Calls prog 131 #[.int .u8 c] f λd k=>d=.returned (.bool (jY c))/\Bw f k:=by
 have b:=VV (hL c f);unfold jY;cases e:hj c;.rw[e] at b;clear e;by_cases i:c=35;(.subst i;go_enter func131,ntmps131;go_wp2_with (go_at_call 169;refine(U b).mono ?_;rintro d g ⟨rfl,a⟩);go_ret;exact⟨rfl,a⟩);.by_cases j:c=45;(.subst j;go_enter func131,ntmps131;go_wp2_with (go_at_call 169;refine(U b).mono ?_;rintro d g ⟨rfl,a⟩);go_ret;exact⟨rfl,a⟩);.go_enter func131,ntmps131;go_wp2_with (go_at_call 169;refine(U b).mono ?_;rintro d g ⟨rfl,a⟩);go_ret;exact⟨by simp[i,j],a⟩
 .rw[e] at b;clear e;go_enter func131,ntmps131;go_wp2_with (go_at_call 169;refine(U b).mono ?_;rintro d g ⟨rfl,a⟩);go_ret;exact⟨by simp,a⟩
abbrev fs:Value:=.agg #[.int .i64 0,.string ⟨#[]⟩,.slice none 0 0]
def iK(k:Option (Tt×List UInt8))(b:Nat)(i:World)(e:Ending)(a:World):Prop:=Gr i a b/\match k with
 | some (g,c)=>∃d j,e=.returned (.tuple #[g.val d j,.bool true])/\Rd a b c/\Tt.aj (λf=>i.heap.size<=f/\f<a.heap.size) a d g.l
 | none=>e=.returned (.tuple #[fs,.bool false])/\∃c,Rd a b c
def fa(a:List UInt8):Option (Tt×List UInt8):=if a.takeWhile bn=[] then none else some (.mk 1 (bs (a.takeWhile bn)) [],a.dropWhile bn)
theorem gv{p:UInt8->Bool}:∀(a:List UInt8) (c:Nat),c<=a.length->(∀d b,d<c->a[d]?=some b->p b=true)->(∀b,a[c]?=some b->p b=false)->a.takeWhile p=a.take c/\a.dropWhile p=a.drop c
 | [],c,f,_,_=>by(have:c=0:=by simpa using f);subst this;exact⟨rfl,rfl⟩
 | b::a,0,_,_,e=>by have:=e b rfl;exact⟨by rw[List.takeWhile_cons,this];rfl,by rw[List.dropWhile_cons,this];rfl⟩
 | b::a,c+1,f,k,e=>by have j:=k 0 b (Nat.succ_pos _) rfl;obtain⟨l,m⟩:=gv a c (by simpa using f) (λd i n g=>k (d+1) i (by omega) (by simpa using g)) (λi g=>e i (by simpa using g));exact⟨by rw[List.takeWhile_cons,j,List.take_succ_cons,l];rfl,by rw[List.dropWhile_cons,j,List.drop_succ_cons,m];rfl⟩
theorem eR{a:List UInt8}{c:UInt8}(h:a[n]?=some c):iw (bs a) n=(c.toNat:Int):=by unfold iw;rw[dZ,fC,h];rfl
theorem ox(a:List UInt8)(b:Nat)(h:b<=a.length):(bs a).extract 0 b=bs (a.take b):=by apply ByteArray.ext;simp[bs,ByteArray.data_extract]
theorem h1(a:List UInt8)(b:Nat):(bs a).extract b a.length=bs (a.drop b):=by apply ByteArray.ext;simp[bs,ByteArray.data_extract];rw[h3 (by simp)]
theorem jC:Tt.aj P w a []:=by rw[Tt.aj];trivial
structure RT(W:World)(g:Nat):Prop where
 c0:W.cell? ⟨g,0,none⟩=some (.int .i64 0)
 c1:W.cell? ⟨g,1,none⟩=some (.string ⟨#[]⟩)
 c2:W.cell? ⟨g,2,none⟩=some (.slice none 0 0)
 f0:W.frozen? ⟨g,0,none⟩=false
 f1:W.frozen? ⟨g,1,none⟩=false
 f2:W.frozen? ⟨g,2,none⟩=false
theorem RT.aa(h:RT w n)(a:Bw w W):RT W n:=by have b:=bY _ _ h.c0;exact⟨by rw[a.cell (p:=⟨n,0,none⟩) b];exact h.c0,by rw[a.cell (p:=⟨n,1,none⟩) b];exact h.c1,by rw[a.cell (p:=⟨n,2,none⟩) b];exact h.c2,by rw[a.frozen (p:=⟨n,0,none⟩) b];exact h.f0,by rw[a.frozen (p:=⟨n,1,none⟩) b];exact h.f1,by rw[a.frozen (p:=⟨n,2,none⟩) b];exact h.f2⟩
theorem RT.new(a:World):RT (a.alloc (.cells #[.int .i64 0,.string ⟨#[]⟩,.slice none 0 0] 51)) a.heap.size:=⟨by simp[go_sem],by simp[go_sem],by simp[go_sem],by simp[go_sem],by simp[go_sem],by simp[go_sem]⟩
theorem eP(h:W.heap[n]?=w.heap[n]?):W.frozen? ⟨n,m,none⟩=w.frozen? ⟨n,m,none⟩:=by simp only[World.frozen?,h]
theorem RT.gr(h:RT w n)(a:Gr w W m)(b:n≠m):RT W n:=by have e:=bY _ _ h.c0;have d:=a.block n e (λc=>by injection c with c;exact b c);exact⟨a.cell b h.c0,a.cell b h.c1,a.cell b h.c2,by rw[eP d];exact h.f0,by rw[eP d];exact h.f1,by rw[eP d];exact h.f2⟩
theorem Gr.aF(h:Gr w W n)(g:w.heap.size<=m)(d e f:Value):Gr w (((W.setCell ⟨m,0,none⟩ d).setCell ⟨m,1,none⟩ e).setCell ⟨m,2,none⟩ f) n:=by have a:=bT (ar w.heap.size W) g d e f;exact⟨a.os.trans h.os,a.tape.trans h.tape,a.output.trans h.output,aQ h.size a.size,λc b i=>by rw[a.block c b];exact h.block c b i⟩
theorem Rd.aF{a:List UInt8}(h:Rd w n a)(e:n<m)(b c d:Value):Rd (((w.setCell ⟨m,0,none⟩ b).setCell ⟨m,1,none⟩ c).setCell ⟨m,2,none⟩ d) n a:=
 World.rowIs.of_block h ((bT (ar m w) aV b c d).block n e)
theorem rm(l:Nat)(a:List UInt8)(f:World)(h:Rd f l a)(Wh:a.length<=1000000):Calls prog 90 #[.pointer (some ⟨l,0,none⟩)] f (iK (fa a) l f):=by
 obtain⟨We,O⟩:=al (iK (fa a) l f);rw[<-O];have F:=VV O;have V0:=h.lt;obtain⟨k,G⟩:=bq (f.alloc (.cells #[.int .i64 0,.string ⟨#[]⟩,.slice none 0 0] 51));have Q:Bw f k:=by rw[<-G];exact ae aN _
 have X:=VV Q;have K:=VV (show RT k f.heap.size by rw[<-G];exact RT.new f);have j:=VV (h.aa Q);have n:=VV V0;have Y:=VV G;have V1:=bx a;have V4:Hid (∀e c,e<0->a[e]?=some c->bn c=true):=λe c R=>absurd R (by omega);have V3:=VV (ar k.heap.size k);clear O V0 Q h G;go_enter func90,ntmps90;go_upto_region 1 with fail;rw[U Y];clear Y;go_wp2_with fail;go_loopw[4] (λe wr=>∃b:Nat,b<=a.length/\e=.int .i64 (b:Int)/\Hid (∀e c,e<b->a[e]?=some c->bn c=true)/\Hid (Bw k wr)) (λe _=>a.length-(intOf e).toNat);case atStart=>exact⟨0,bf,rfl,V4,V3⟩
 case round=>
  obtain⟨b,r,rfl,u,A⟩:=hrel;have Wf:=((U j).aa (U A)).cell;by_cases i:b<a.length/\bn (a.getD b 0)=true;·(have VZ:(b:Int)<(a.length:Int):=by omega);obtain⟨c,m⟩:∃c,a[b]?=some c:=⟨_,ba i.1⟩;have E:=hm (bs a) b (by rw[V1];exact i.1);rw[eR m] at E;(have T:bn c=true:=by have:=i.2;rw[fC,m] at this;exact this);have o:=VV (hq (c.toNat:Int));have w:jY (c.toNat:Int)=true:=T;rw[w] at o;(have V5:Hid (∀e c,e<b+1->a[e]?=some c->bn c=true):=λe W R g=>by rcases Nat.lt_or_eq_of_le (Nat.le_of_lt_succ R) with h|rfl;(.exact U u e W h g);.rw[m] at g;injection g with g;rw[<-g];exact T);have Wg:=i.1;generalize (c.toNat:Int)=Wd at E o;clear i T w u m;go_wp2_with (go_at_call 131;refine(U o _).mono ?_;rintro V2 V ⟨rfl,q⟩;have d:=VV (ac (U A) q);clear q);go_roundw;(case rel=>exact⟨b+1,by omega,by go_num,V5,d⟩);case measure=>simp[intOf]<;>omega
  .have S:=i;clear i;by_cases i:b<a.length
   ·(have VZ:(b:Int)<(a.length:Int):=by omega);obtain⟨c,m⟩:∃c,a[b]?=some c:=⟨_,ba i⟩;have E:=hm (bs a) b (by rw[V1];exact i);rw[eR m] at E;have o:=VV (hq (c.toNat:Int))
    have w:jY (c.toNat:Int)=false:=by
     have p:bn (a.getD b 0)=false:=by cases Wa:bn (a.getD b 0) with
      | false=>rfl
      | true=>exact absurd ⟨i,Wa⟩ S
     rw[fC,m] at p;exact p
    rw[w] at o;have t:=gv a b r (U u) (λW g=>by rw[m] at g;injection g with g;subst g;exact w);have C:=VV t.1;have J:=VV t.2;generalize (c.toNat:Int)=Wd at E o;clear w u m t S;have B:=VV (λ(M:World) (P:Bw k M)=>(Gr.of_below (ac (U X) P) l));by_cases D:b=0;(.subst D;have V9:decide ((0:Int)=0)=true:=rfl;(have s:Hid (fa a=none):=by show _=_;unfold fa;rw[U C];rfl);rw[Int.natCast_zero] at *;clear r;go_wp2_with (go_at_call 131;refine(U o _).mono ?_;rintro V2 V ⟨rfl,q⟩;have d:=VV (ac (U A) q);have V8:=((U j).aa (U d)).cell;obtain⟨x,y,z,Z,VW,VX⟩:=(U K).aa (U d);have VY:=((U j).aa (U d)).frozen;clear q);refine aM (v:=.tuple #[fs,.bool false]) (by simp[results,results90,go_sem,x,y,z]) rfl ?_;rw[U F,U s];exact⟨(U B _ (U d)).aF aV _ _ _,rfl,a,Rd.aF ((U j).aa (U d)) (U n) _ _ _⟩);·(have Wb:¬(b:Int)=0:=by omega);(have s:Hid (fa a=some (.mk 1 (bs (a.take b)) [],a.drop b)):=by show _=_;unfold fa;rw[U C,U J,aL];intro N;have p:=congrArg List.length N;rw[List.length_take,Nat.min_eq_left r] at p;exact D p);(have V6:¬l=f.heap.size:=by have:=U n;omega);(have V7:¬f.heap.size=l:=by have:=U n;omega);have L:=VV (ox a b r);have I:=VV (h1 a b);go_wp2_with (go_at_call 131;refine(U o _).mono ?_;rintro V2 V ⟨rfl,q⟩;have d:=VV (ac (U A) q);have V8:=((U j).aa (U d)).cell;obtain⟨x,y,z,Z,VW,VX⟩:=(U K).aa (U d);have VY:=((U j).aa (U d)).frozen;clear q);refine aM (v:=.tuple #[.agg #[.int .i64 1,.string ((bs a).extract 0 b),.slice none 0 0],.bool true]) (by simp[results,results90,go_sem,x,y,z]) rfl ?_;rw[U F,U s];refine⟨((U B _ (U d)).set _).aF aV _ _ _,none,0,by rw[U L];rfl,?_,jC⟩;have:=Rd.aF ((((U j).aa (U d)).set (a.drop b))) (U n) (.int .i64 1) (.string ((bs a).extract 0 b)) (.slice none 0 0);rw[<-U I] at this;exact this
   ·(have VZ:¬(b:Int)<(a.length:Int):=by omega);have t:=gv a b r (U u) (λW g=>by have:=(b6 g).1;omega);have C:=VV t.1;have J:=VV t.2;clear u t S;have d:=A;obtain⟨x,y,z,Z,VW,VX⟩:=(U K).aa (U d);have VY:=((U j).aa (U d)).frozen;obtain⟨V,Wc⟩:=al wr;subst Wc;have B:=VV (λ(M:World) (P:Bw k M)=>(Gr.of_below (ac (U X) P) l));by_cases D:b=0;(.subst D;have V9:decide ((0:Int)=0)=true:=rfl;(have s:Hid (fa a=none):=by show _=_;unfold fa;rw[U C];rfl);rw[Int.natCast_zero] at *;clear r;go_wp2_with fail;refine aM (v:=.tuple #[fs,.bool false]) (by simp[results,results90,go_sem,x,y,z]) rfl ?_;rw[U F,U s];exact⟨(U B _ (U d)).aF aV _ _ _,rfl,a,Rd.aF ((U j).aa (U d)) (U n) _ _ _⟩);·(have Wb:¬(b:Int)=0:=by omega);(have s:Hid (fa a=some (.mk 1 (bs (a.take b)) [],a.drop b)):=by show _=_;unfold fa;rw[U C,U J,aL];intro N;have p:=congrArg List.length N;rw[List.length_take,Nat.min_eq_left r] at p;exact D p);(have V6:¬l=f.heap.size:=by have:=U n;omega);(have V7:¬f.heap.size=l:=by have:=U n;omega);have L:=VV (ox a b r);have I:=VV (h1 a b);go_wp2_with fail;refine aM (v:=.tuple #[.agg #[.int .i64 1,.string ((bs a).extract 0 b),.slice none 0 0],.bool true]) (by simp[results,results90,go_sem,x,y,z]) rfl ?_;rw[U F,U s];refine⟨((U B _ (U d)).set _).aF aV _ _ _,none,0,by rw[U L];rfl,?_,jC⟩;have:=Rd.aF ((((U j).aa (U d)).set (a.drop b))) (U n) (.int .i64 1) (.string ((bs a).extract 0 b)) (.slice none 0 0);rw[<-U I] at this;exact this
def bH(a:UInt8):Int:=Lib.indexByte [48,49,50,51,52,53,54,55,56,57,97,98,99,100,101,102] a
theorem mb(a:UInt8)(c:World):Calls prog 168 #[.string ⟨#[48,49,50,51,52,53,54,55,56,57,97,98,99,100,101,102]⟩,.int .u8 (a.toNat:Int)] c λb d=>b=.returned (.int .i64 (bH a))/\d=c:=by
 have h:=Tryz.strings_IndexByte ⟨#[48,49,50,51,52,53,54,55,56,57,97,98,99,100,101,102]⟩ (a.toNat:Int) c;have b:((a.toNat:Int)).toNat.toUInt8=a:=by simp
 rw[b] at h;exact h
theorem er(b:UInt8):bH b=-1∨(0<=bH b/\bH b<16):=by
 unfold bH
 have:∀(a:List UInt8) (c:Int),(a.length:Int)=c->Lib.indexByte a b=-1∨(0<=Lib.indexByte a b/\Lib.indexByte a b<c):=by
  intro a
  induction a with
  | nil=>intro c _;left;rfl
  | cons f a e=>
   intro c d
   rw[Lib.indexByte]
   rw[a1] at d
   rcases e _ rfl with h|h
   .rw[h]
    split
    .right;omega
    .left;simp
   .split
    .right;omega
    .right
     rw[aL (by simp;omega)]
     omega
 exact this _ _ rfl
def fO:List UInt8->Option (UInt8×List UInt8)
 | h::a::b=>if bH h<0∨bH a<0∨cs (UInt8.ofNat (16*bH h+bH a).toNat)=true then none else some (UInt8.ofNat (16*bH h+bH a).toNat,b)
 | _=>none
theorem rU:((List.range 16).all λa=>(List.range 16).all λb=>bits .or .i64 (wrap64 ((a:Int)*16)) (b:Int) % 256 == ((UInt8.ofNat (16*a+b)).toNat:Int))=true:=by kernel_rfl
theorem rT(a b:Nat)(c:a<16)(d:b<16):bits .or .i64 (wrap64 ((a:Int)*16)) (b:Int) % 256=((UInt8.ofNat (16*a+b)).toNat:Int):=by have h:=List.all_eq_true.1 (List.all_eq_true.1 rU a (List.mem_range.2 c)) b (List.mem_range.2 d);exact beq_iff_eq.1 h
theorem sA{a b:Int}(e:0<=a/\a<16)(f:0<=b/\b<16):bits .or .i64 (wrap64 (a*16)) b % 256=((UInt8.ofNat (16*a+b).toNat).toNat:Int):=by obtain⟨c,rfl⟩:∃c:Nat,a=(c:Int):=⟨a.toNat,by omega⟩;obtain⟨d,rfl⟩:∃d:Nat,b=(d:Int):=⟨b.toNat,by omega⟩;rw[rT c d (by omega) (by omega)];congr 3
def jX(e:Option (UInt8×List UInt8))(a:Nat)(g:World)(d:Ending)(c:World):Prop:=Gr g c a/\match e with
 | some (f,b)=>d=.returned (.tuple #[.int .u8 (f.toNat:Int),.bool true])/\Rd c a b
 | none=>d=.returned (.tuple #[.int .u8 0,.bool false])/\∃b,Rd c a b
theorem ol(d:Nat)(k:List UInt8)(g:World)(h:Rd g d k)(V2:k.length<=1000000):Calls prog 129 #[.pointer (some ⟨d,0,none⟩)] g (jX (fO k) d g):=by
 have K:=bx k;have J:=h.cell;have G:=VV h;clear h;by_cases z:k.length<2
 .have Q:fO k=none:=by
   match k,z with
   | [],_=>rfl
   | [_],_=>rfl
  have V:(k.length:Int)<2:=by omega
  rw[Q]
  clear Q z
  go_enter func129,ntmps129
  go_wp2
  go_ret2
  exact⟨Gr.refl _ _,rfl,k,U G⟩
 obtain⟨h,b,e,rfl⟩:∃h b e,k=h::b::e:=by
  match k,z with
  | [],h=>exact absurd h (by simp)
  | [_],h=>exact absurd h (by simp)
  | h::b::e,_=>exact⟨h,b,e,rfl⟩
 have V:¬(((h::b::e).length:Nat):Int)<2:=by omega
 have s:=hm (bs (h::b::e)) 0 (by rw[K];simp);have t:=hm (bs (h::b::e)) 1 (by rw[K];simp);rw[eR (c:=h) rfl] at s;rw[eR (c:=b) rfl] at t;have D:=VV (mb h);have C:=VV (mb b);have q:=er h;have r:=er b;have i:Hid (fO (h::b::e)=if bH h<0∨bH b<0∨cs (UInt8.ofNat (16*bH h+bH b).toNat)=true then none else some (UInt8.ofNat (16*bH h+bH b).toNat,e)):=rfl;obtain⟨x,I⟩:=al (jX (fO (h::b::e)) d g);rw[<-I];have w:=VV I;have E:=VV (h1 (h::b::e) 2);have R:g.drew.cell? ⟨d,0,none⟩=some (.string (bs (h::b::e))):=aG J aN.drew;have f:=VV R;have o:Hid (Rd g.drew d (h::b::e)):=(U G).aa aN.drew;have u:Hid (Gr g g.drew d):=Gr.of_below aN.drew d;obtain⟨l,y⟩:=al (h::b::e);obtain⟨VY,T⟩:=al (h.toNat:Int);obtain⟨VX,S⟩:=al (b.toNat:Int);rw[<-y] at K s t V f o E J;rw[<-T] at s D;rw[<-S] at t C;have V3:2<=l.length:=by rw[y];simp
 have P:l.drop 2=e:=by rw[y];rfl
 rw[P] at E;have VZ:=VV (ar g.heap.size g).drew;rw[Int.natCast_zero] at s;rw[Int.natCast_one] at t;clear I y P T S R G z;go_enter func129,ntmps129;go_upto_region 3 with fail;clear J;refine VR (λW:World=>W.cell? ⟨d,0,none⟩=some (.string (bs l))) 13 ?_;refine ai 0 (.pointer (some ⟨d,0,none⟩)) rfl (U f) ?_;refine ai 1 (.pointer (some ⟨d,0,none⟩)) rfl (U f) ?_;refine ai 2 (.pointer (some ⟨d,0,none⟩)) rfl (U f) ?_;refine ai 3 (.string (bs l)) rfl (U f) ?_;refine ai 4 (.int .u8 VY) rfl (U f) ?_;refine ai 6 (.pointer (some ⟨d,0,none⟩)) rfl (U f) ?_;refine ai 7 (.pointer (some ⟨d,0,none⟩)) rfl (U f) ?_;refine ai 8 (.pointer (some ⟨d,0,none⟩)) rfl (U f) ?_;refine ai 9 (.string (bs l)) rfl (U f) ?_;refine ai 10 (.int .u8 VX) rfl (U f) ?_;refine ap 5 rfl λn j=>?_;go_simp;refine(U D _).mono ?_;rintro _ _ ⟨rfl,rfl⟩;go_simp;refine aO j (U f) ?_;clear j n;refine ap 11 rfl λn j=>?_;go_simp;refine(U C _).mono ?_;rintro _ _ ⟨rfl,rfl⟩;go_simp;refine aO j (U f) ?_;clear j n;refine ap 12 rfl λn j=>?_;go_simp;refine aO j (U f) ?_;clear j n;refine ap 13 rfl λn j=>?_;go_simp;refine aS j ?_;clear j n;refine bh ?_;have V0:=U f;have V1:=(U o).frozen;obtain⟨A,N⟩:=al (bH h);obtain⟨B,O⟩:=al (bH b);rw[<-N] at q i ⊢;rw[<-O] at r i ⊢;clear N O D C s t;by_cases X:A<0;·(have m:Hid (x=jX none d g):=by have:=U w;rw[U i,aR (.inl X)] at this;exact this);clear i q r;go_wp2;rw[U m];exact⟨U u,rfl,l,U o⟩
 by_cases Y:B<0;·(have m:Hid (x=jX none d g):=by have:=U w;rw[U i,aR (.inr (.inl Y))] at this;exact this);clear i q r;go_wp2;rw[U m];exact⟨U u,rfl,l,U o⟩
 have F:=VV (sA (a:=A) (b:=B) (by omega) (by omega));obtain⟨M,L⟩:=al (UInt8.ofNat (16*A+B).toNat);rw[<-L] at i F;have v:=VV (ik M);cases p:cs M;·(have m:Hid (x=jX (some (M,e)) d g):=by have:=U w;rw[U i,aL (by rw[p];simp;omega)] at this;exact this);rw[p] at v;clear i q r L p;go_upto_region 5 with fail;rw[U F];go_wp2_with (go_at_call 130;refine(U v _).mono ?_;rintro Z VW ⟨rfl,rfl⟩);rw[U m];refine⟨(U u).set _,rfl,?_⟩;have:=(U o).set e;rw[<-U E] at this;exact this
 ·(have m:Hid (x=jX none d g):=by have:=U w;rw[U i,aR (.inr (.inr p))] at this;exact this);rw[p] at v;clear i q r L p;go_upto_region 5 with fail;rw[U F];go_wp2_with (go_at_call 130;refine(U v _).mono ?_;rintro Z VW ⟨rfl,rfl⟩);rw[U m];exact⟨U u,rfl,l,U o⟩
theorem hv(b:Nat)(c:UInt8)(a:List UInt8)(d:World)(h:Rd d b a)(g:eZ c a=false):Calls prog 87 #[.pointer (some ⟨b,0,none⟩),.string ⟨#[c]⟩] d λf e=>f=.returned (.bool false)/\Rd e b a/\Gr d e b:=by
 refine(VG b c a d h).mono ?_;rintro f e ⟨rfl,i,j⟩;have:fR c a=a:=by unfold fR Lib.trimPrefix;rw[show Lib.hasPrefix a [c]=false from g];rfl
 rw[this] at i;rw[g];exact⟨rfl,i,j⟩
theorem VI(c:Nat)(a:UInt8)(b:List UInt8)(d:World)(h:Rd d c (a::b)):Calls prog 87 #[.pointer (some ⟨c,0,none⟩),.string ⟨#[a]⟩] d λf e=>f=.returned (.bool true)/\Rd e c b/\Gr d e c:=by
 refine(VG c a (a::b) d h).mono ?_;rintro f e ⟨rfl,i,j⟩;have g:eZ a (a::b)=true:=by unfold eZ Lib.hasPrefix;simp
 have:fR a (a::b)=b:=by unfold fR Lib.trimPrefix;rw[show Lib.hasPrefix (a::b) [a]=true from g];rfl
 rw[this] at i;rw[g];exact⟨rfl,i,j⟩
theorem qN(a:UInt8):eZ a []=false:=rfl
theorem fM{a b:UInt8}(d:List UInt8)(h:¬b=a):eZ a (b::d)=false:=by unfold eZ Lib.hasPrefix;simp only[List.isPrefixOf,Bool.and_eq_false_iff,beq_eq_false_iff_ne,ne_eq];exact .inl λc=>h c.symm
def cz:List UInt8->Option (List UInt8×List UInt8)
 | []=>none
 | b::d=>if b=34 then some ([],d) else if b=92 then (match d with
   | h::c::e=>if bH h<0∨bH c<0∨cs (UInt8.ofNat (16*bH h+bH c).toNat)=true then none else (cz e).map λa=>(UInt8.ofNat (16*bH h+bH c).toNat::a.1,a.2)
   | _=>none)
  else if cs b=true then (cz d).map λa=>(b::a.1,a.2) else none
theorem d1(b:List UInt8):cz (92::b)=match fO b with
  | some (f,e)=>(cz e).map λd=>(f::d.1,d.2)
  | none=>none:=by
 match b with
 | []=>simp[cz,fO]
 | [_]=>simp[cz,fO]
 | h::c::e=>
  by_cases a:bH h<0∨bH c<0∨cs (UInt8.ofNat (16*bH h+bH c).toNat)=true
  .rw[fO,aR a]
   unfold cz
   rw[aL (by decide),aR rfl]
   show (if _ then none else _)=none
   rw[aR a]
  .rw[fO,aL a]
   conv=>lhs;unfold cz
   rw[aL (by decide),aR rfl]
   show (if _ then none else _)=_
   rw[aL a]
theorem gN(a:List UInt8):cz (34::a)=some ([],a):=by unfold cz;rw[aR rfl]
theorem ey{a:UInt8}(c:List UInt8)(d:¬a=34)(e:¬a=92):cz (a::c)=if cs a=true then (cz c).map λb=>(a::b.1,b.2) else none:=by
 conv=>lhs;unfold cz
 rw[aL d,aL e]
theorem jw{a b:List UInt8}{d:UInt8}(h:fO a=some (d,b)):a.length=b.length+2:=by
 match a,h with
 | [],h=>cases h
 | [_],h=>cases h
 | e::f::g,h=>rw[fO] at h;split at h;(.cases h);.injection h with h;injection h with _ c;rw[<-c];rfl
def g7(b:List UInt8):Option (Tt×List UInt8):=(cz b).map λa=>(.mk 2 (bs a.1) [],a.2)
def sf(c:World)(a:Nat):Nat:=match c.cell? ⟨a,0,none⟩ with
 | some (.string b)=>b.size
 | _=>0
theorem Rd.meas{a:List UInt8}(h:Rd w n a):sf w n=a.length:=by unfold sf;rw[h.cell];exact bx a
theorem Gr.step(h:Gr w W n)(a:Below m W X)(d:w.heap.size<=m):Gr w X n:=
 ⟨a.os.trans h.os,a.tape.trans h.tape,a.output.trans h.output,aQ h.size a.size,λc b e=>by rw[a.block c (be b d)];exact h.block c b e⟩
theorem Rd.step{a:List UInt8}(h:Rd w n a)(b:Below m w W)(c:n<m):Rd W n a:=World.rowIs.of_block h (b.block n c)
theorem RT.step(h:RT w n)(a:Below m w W)(b:n<m):RT W n:=
 ⟨by rw[a.cell (p:=⟨n,0,none⟩) b];exact h.c0,by rw[a.cell (p:=⟨n,1,none⟩) b];exact h.c1,by rw[a.cell (p:=⟨n,2,none⟩) b];exact h.c2,by rw[a.frozen (p:=⟨n,0,none⟩) b];exact h.f0,by rw[a.frozen (p:=⟨n,1,none⟩) b];exact h.f1,by rw[a.frozen (p:=⟨n,2,none⟩) b];exact h.f2⟩
theorem OB.gr{base:Nat}{a:List UInt8}(h:OB w base v a)(c:Gr w W n)(b:n<base):OB W base v a:=Gr.own h c b
theorem OB.nil(a:World)(base:Nat):OB a base (.slice none 0 0) []:=⟨rfl,.inl ⟨rfl,rfl⟩⟩
theorem sm{α:Type}(b c:α->α)(a:Option α):(a.map b).map c=a.map λd=>c (b d):=by cases a<;>rfl
theorem rq(b:Nat)(l:List UInt8)(f:World)(h:Rd f b l)(WY:l.length<=1000000):Calls prog 89 #[.pointer (some ⟨b,0,none⟩)] f (iK (g7 l) b f):=by
 obtain⟨V6,Wn⟩:=al (iK (g7 l) b f);rw[<-Wn];have V4:=VV Wn;have Wq:=h.lt;obtain⟨N,VX⟩:=bq (f.alloc (.cells #[.int .i64 0,.string ⟨#[]⟩,.slice none 0 0] 51));have Wo:Bw f N:=by rw[<-VX];exact ae aN _
 have WK:=VV (show RT N f.heap.size by rw[<-VX];exact RT.new f);have WH:=VV (h.aa Wo);have WB:=VV (Gr.of_below Wo b);have V2:=VV Wq;have L:Hid (f.heap.size<N.heap.size):=by show _<_;rw[<-VX];simp
 have Ww:=VV VX;obtain⟨base,Wp⟩:=al N.heap.size;rw[<-Wp] at L;have WF:=VV (OB.nil N base);have Wz:Hid (base<=N.heap.size):=Nat.le_of_eq Wp;have G:Hid (b<base):=Nat.lt_trans Wq (U L);have t:Hid (f.heap.size≠b):=λWV=>by omega
 have WE:Hid (cz l=(cz l).map λo=>([]++o.1,o.2)):=by show _=_;cases cz l<;>rfl
 clear Wn Wo h VX Wp Wq;go_enter func89,ntmps89;go_upto_region 1 with fail;rw[U Ww];clear Ww;go_wp2_with fail;go_loopw[4] (λm wr=>∃(V0 g:List UInt8),Hid (OB wr base m g)/\Hid (Rd wr b V0)/\Hid (Gr f wr b)/\Hid (RT wr f.heap.size)/\Hid (base<=wr.heap.size)/\Hid (g.length+V0.length<=l.length)/\Hid (cz l=(cz V0).map λo=>(g++o.1,o.2))) (λ_ wr=>sf wr b);case atStart=>exact⟨l,[],WF,WH,WB,WK,Wz,by show _<=_;simp,WE⟩
 case round=>
  obtain⟨V0,g,Wf,V,I,M,Wv,R,J⟩:=hrel
  have Ws:=VV (U V).meas
  cases V0 with
  | nil=>
   have A:Hid (V6=iK none b f):=by have:=U V4;unfold g7 at this;rw[U J] at this;exact this
   have k:=VV (hv b 34 [] wr (U V) rfl)
   go_wp2_with (first
    | (go_at_call 87;refine(U k).mono ?_;rintro a s ⟨rfl,e,d⟩;clear k;have r:=VV (hv b 92 [] s e rfl);have Wt:=VV e;have n:=VV d;clear e d)
    | (go_at_call 87;refine(U r).mono ?_;rintro a y ⟨rfl,i,j⟩;have VY:=i.cell;have Wi:=VV i;have WL:=(((U M).gr (U n) (U t)).gr j (U t));obtain⟨D,E,F,Wk,Wl,Wm⟩:=WL;have z:=VV (((U I).trans (U n)).trans j);clear i j r;unfold bs at VY))
   refine aM (v:=.tuple #[fs,.bool false]) (by simp[results,results89,go_sem,D,E,F]) rfl ?_
   rw[U A]
   exact⟨(U z).aF aV _ _ _,rfl,[],(U Wi).aF (U V2) _ _ _⟩
  | cons c a=>
   by_cases x:c=34
   .subst x
    have A:Hid (V6=iK (some (.mk 2 (bs g) [],a)) b f):=by have:=U V4;unfold g7 at this;rw[U J,gN] at this;rw[this];show iK (some (Tt.mk 2 (bs (g++[])) [],a)) b f=_;rw[d7]
    have k:=VV (VI b 34 a wr (U V))
    go_wp2_with (go_at_call 87;refine(U k).mono ?_;rintro V8 s ⟨rfl,e,d⟩;clear k;have WW:=fg ((U Wf).gr d (U G));have Wt:=VV e;obtain⟨D,E,F,Wk,Wl,Wm⟩:=(U M).gr d (U t);have n:=VV ((U I).trans d);clear e d)
    refine aM (v:=.tuple #[.agg #[.int .i64 2,.string (bs g),.slice none 0 0],.bool true]) (by simp[results,results89,go_sem,D,E,F]) rfl ?_
    rw[U A]
    exact⟨(U n).aF aV _ _ _,none,0,rfl,(U Wt).aF (U V2) _ _ _,jC⟩
   by_cases O:c=92
   .subst O
    have k:=VV (hv b 34 (92::a) wr (U V) (fM a (by decide)))
    have V7:a.length<=1000000:=by have:=U R;rw[a1] at this;omega
    cases C:fO a with
    | none=>
     have A:Hid (V6=iK none b f):=by have:=U V4;unfold g7 at this;rw[U J,d1,C] at this;exact this
     have Wa:=VV λ(q:World) (VW:Rd q b a)=>(show jX (fO a) b q=jX none b q by rw[C]) ▸ ol b a q VW V7
     clear C V7 x
     go_wp2_with (first
      | (go_at_call 87;refine(U k).mono ?_;rintro V8 s ⟨rfl,e,d⟩;clear k;have r:=VV (VI b 92 a s e);have n:=VV d;clear e d)
      | (go_at_call 87;refine(U r).mono ?_;rintro u y ⟨rfl,i,j⟩;clear r;have V9:=VV (U Wa y i);have z:=VV ((U n).trans j);clear i j)
      | (go_at_call 129;refine(U V9).mono ?_;rintro Wr v ⟨VZ,rfl,WT,X⟩;have T:=VV X;have p:=VV ((U z).trans VZ);obtain⟨D,E,F,Wk,Wl,Wm⟩:=(U M).gr (U p) (U t);clear X VZ))
     refine aM (v:=.tuple #[fs,.bool false]) (by simp[results,results89,go_sem,D,E,F]) rfl ?_
     rw[U A]
     exact⟨((U I).trans (U p)).aF aV _ _ _,rfl,WT,(U T).aF (U V2) _ _ _⟩
    | some o=>
     obtain⟨m,u⟩:=o
     have WR:=jw C
     have Wd:Hid (cz l=(cz u).map λo=>((g++[m])++o.1,o.2)):=by
      show _=_
      rw[U J,d1,C]
      simp only[sm,d8,List.singleton_append]
     have Wc:Hid ((g++[m]).length+u.length<=l.length):=by have:=U R;show _<=_;rw[bj,List.length_singleton];rw[a1] at this;omega
     have Wb:Hid (g.length+1<=4398046511104):=by have:=U R;show _<=_;omega
     have We:Hid (u.length<sf wr b):=by show _<_;rw[U Ws,a1];omega
     have Wa:=VV λ(q:World) (VW:Rd q b a)=>(show jX (fO a) b q=jX (some (m,u)) b q by rw[C]) ▸ ol b a q VW V7
     clear C V7 x WR
     go_wp2_with (first
      | (go_at_call 87;refine(U k).mono ?_;rintro V8 s ⟨rfl,e,d⟩;clear k;have r:=VV (VI b 92 a s e);have n:=VV d;clear e d)
      | (go_at_call 87;refine(U r).mono ?_;rintro u y ⟨rfl,i,j⟩;clear r;have V9:=VV (U Wa y i);have z:=VV ((U n).trans j);clear i j)
      | (go_at_call 129;refine(U V9).mono ?_;rintro Wr v ⟨VZ,rfl,X⟩;have B:=ae (ar _ v) (.cells #[.int .u8 (m.toNat:Int)] 5);have T:=VV (X.aa B);have p:=VV (((U z).trans VZ).trans (Gr.of_below B b));have Wg:=VV ((U Wf).gr (U p) (U G));have W:Hid (base<=(v.alloc (.cells #[.int .u8 (m.toNat:Int)] 5)).heap.size):=aQ (U Wv) (U p).size;have Wj:=VV ((U M).gr (U p) (U t));clear X VZ B)
      | (refine dh _ rfl (.tmp 25) (.tmp 27) rfl base u4 g [m] v.heap.size 1 1 rfl (U Wg) rfl rfl (gC v [m]) (U Wb) (U W) ?_;intro WU V1 Z P;have Wh:=VV Z;have w:=VV P;clear Z P))
     have K:=VV ((U T).step (U w) (U G))
     have WC:=VV (((U I).trans (U p)).step (U w) (Nat.le_of_lt (U L)))
     have WM:=VV ((U Wj).step (U w) (U L))
     have WI:=VV (aQ (U W) (U w).size)
     go_roundw
     case rel=>exact⟨u,g++[m],Wh,K,WC,WM,WI,Wc,Wd⟩
     case measure=>rw[(U K).meas];exact U We
   have k:=VV (hv b 34 (c::a) wr (U V) (fM a x))
   have r:=VV λ(q:World) (VW:Rd q b (c::a))=>hv b 92 (c::a) q VW (fM a O)
   have Wy:=hm (bs (c::a)) 0 (by rw[bx];simp)
   rw[eR (c:=c) rfl,Int.natCast_zero] at Wy
   have V3:=VV (ik c)
   have WS:(bs (c::a)).size=a.length+1:=by rw[bx,a1]
   obtain⟨Wx,Y⟩:=bq (bs (c::a))
   rw[Y] at Wy WS
   have WQ:Wx.toList.isEmpty=false:=by rw[<-Y];simp[bs]
   have V5:=VV Y
   cases Q:cs c with
   | false=>
    have A:Hid (V6=iK none b f):=by have:=U V4;unfold g7 at this;rw[U J,ey a x O,Q] at this;exact this
    rw[Q] at V3
    clear x O Q Y
    go_wp2_with (first
     | (go_at_call 87;refine(U k).mono ?_;rintro V8 s ⟨rfl,e,d⟩;clear k;have S:=VV (U r s e);have n:=VV d;clear e d)
     | (go_at_call 87;refine(U S).mono ?_;rintro u y ⟨rfl,i,j⟩;clear S;have VY:=i.cell;rw[U V5] at VY;have Wi:=VV i;have z:=VV (((U I).trans (U n)).trans j);obtain⟨D,E,F,Wk,Wl,Wm⟩:=((U M).gr (U n) (U t)).gr j (U t);clear i j)
     | (go_at_call 130;refine(U V3 _).mono ?_;rintro Wr v ⟨rfl,rfl⟩))
    refine aM (v:=.tuple #[fs,.bool false]) (by simp[results,results89,go_sem,D,E,F]) rfl ?_
    rw[U A]
    exact⟨(U z).aF aV _ _ _,rfl,_,(U Wi).aF (U V2) _ _ _⟩
   | true=>
    have Wd:Hid (cz l=(cz a).map λo=>((g++[c])++o.1,o.2)):=by
     show _=_
     rw[U J,ey a x O,Q,aR rfl]
     simp only[sm,d8,List.singleton_append]
    have Wc:Hid ((g++[c]).length+a.length<=l.length):=by have:=U R;show _<=_;rw[bj,List.length_singleton];rw[a1] at this;omega
    have Wb:Hid (g.length+1<=4398046511104):=by have:=U R;show _<=_;omega
    have We:Hid (a.length<sf wr b):=by show _<_;rw[U Ws,a1];omega
    have WA:=VV (h1 (c::a) 1)
    rw[Q] at V3
    clear x O Q Y
    go_upto_region 10 with (first
     | (go_at_call 87;refine(U k).mono ?_;rintro V8 s ⟨rfl,e,d⟩;clear k;have S:=VV (U r s e);have n:=VV d;clear e d)
     | (go_at_call 87;refine(U S).mono ?_;rintro u y ⟨rfl,i,j⟩;clear S;have VY:=i.cell;rw[U V5] at VY;have B:=ae (ar _ y) (.cells #[.int .u8 (c.toNat:Int)] 5);have T:=VV (i.aa B);have p:=VV (((U n).trans j).trans (Gr.of_below B b));have Wg:=VV ((U Wf).gr (U p) (U G));have W:Hid (base<=(y.alloc (.cells #[.int .u8 (c.toNat:Int)] 5)).heap.size):=aQ (U Wv) (U p).size;have Wj:=VV ((U M).gr (U p) (U t));clear i j B))
    go_wp2_with fail
    refine(U V3 _).mono ?_
    rintro Wr v ⟨rfl,rfl⟩
    simp only[WQ,Bool.not_false]
    go_wp2_with (refine dh _ rfl (.tmp 43) (.tmp 49) rfl base u4 g [c] v.heap.size 1 1 rfl (U Wg) rfl rfl (gC v [c]) (U Wb) (U W) ?_;intro WU V1 Z P;have K:=VV ((U T).step P (U G));have WO:=(U K).cell;have WX:=(U K).frozen;rw[U V5] at WO;have Wh:=VV Z;have w:=VV P;clear Z P)
    have WP:Wx.extract 1 (a.length+1)=bs a:=by have:=U WA;rw[U V5] at this;exact this
    have Wu:=VV ((U K).set a)
    have WD:=VV ((((U I).trans (U p)).step (U w) (Nat.le_of_lt (U L))).set (.string (bs a)))
    have WN:=VV (((U Wj).step (U w) (U L)).gr ((Gr.refl V1 b).set (.string (bs a))) (U t))
    have WJ:Hid (base<=(V1.setCell ⟨b,0,none⟩ (.string (bs a))).heap.size):=aQ (aQ (U W) (U w).size) ((Gr.refl V1 b).set (.string (bs a))).size
    have WG:=VV ((U Wh).gr ((Gr.refl V1 b).set (.string (bs a))) (U G))
    rw[WP]
    go_roundw
    case rel=>exact⟨a,g++[c],WG,Wu,WD,WN,WJ,Wc,Wd⟩
    case measure=>rw[(U Wu).meas];exact U We
end Go.Proofs.YtabmgpillccfaaaGreatDoor
