import Derived.Test.YtabmgpillccfaaaGreatDoorTxD
import Derived.Test.YtabmgpillccfaaaGreatDoorAnyG
import Derived.Laws.BytesString
import Derived.Test.YtabmgpillccfaaaGreatDoorOwnA
set_option linter.all false
set_option maxHeartbeats 2000000
set_option maxRecDepth 100000
namespace Go.Proofs.YtabmgpillccfaaaGreatDoor
open Go.RowKit Go.Sort Go.Proofs.Tryz
def lg(a:UInt8):Value:=.int .u8 (a.toNat:Int)
def OB(c:World)(base:Nat)(b:Value)(a:List UInt8):Prop:=c.ownsRow base 5 1 b a.length (a.map lg)
variable{W w:World}{v:Value}{n:Nat}
theorem OB.aa{base:Nat}{a:List UInt8}(h:OB w base v a)(b:Bw w W):OB W base v a:=gR h b
theorem qH:(Tryz.prog.info? 5).map (λa=>(a.zero,a.size,a.bytes))=some (some (.int .u8 0),1,1):=by kernel_rfl
theorem oO(b:List UInt8):∀a:ByteArray,(b.map λc=>(c.toNat:Int)).foldl (λf e=>f.push (UInt8.ofNat e.toNat)) a=⟨a.data++b.toArray⟩:=by
 induction b with
 | nil=>intro a;simp
 | cons c b d=>intro a;rw[bi,List.foldl_cons,d];congr 1;simp[ByteArray.push]
theorem fg{base:Nat}{a:List UInt8}(h:OB w base v a):(convert 168 9 v).run prog w=.ok (.string (bs a)) w:=by
 have e:(a.map λb=>(b.toNat:Int)).foldl (λg f=>g.push (UInt8.ofNat f.toNat)) ByteArray.empty=bs a:=by rw[oO];unfold bs;congr 1;simp[ByteArray.empty,ByteArray.emptyWithCapacity];try rfl
 unfold OB at h;rcases h.2 with ⟨rfl,d⟩|⟨c,i,j,rfl,k,l,_⟩
 .have:a=[]:=eV d;subst this;rw[run_convert_bytes_string w 168 9 5 none 0 0 underlying168 underlying5 underlying9];rfl
 .rw[run_convert_bytes_string w 168 9 5 _ _ _ underlying168 underlying5 underlying9,<-e];refine run_bytesToString w _ _ _ (a.map λb=>(b.toNat:Int)) ?_;have:=run_loadCells_list (P:=prog) (w:=w) ⟨c,0,none⟩ (a.map lg) (World.ownsRow.cells h rfl);rw[show lg=λb:UInt8=>Value.int .u8 (b.toNat:Int) from rfl] at this;simpa [Function.comp_def] using this
theorem dh{u:Array Oper}{rest:List Oper}{i:Oper}{g:Act}{p:Exit->Act->World->Prop}(c:World)(z:i.guard=none)(m o:Operand)(C:i.op=.call { callee:=.builtin .append,args:=#[m,o],argTypes:=#[168,168] }) (base:Nat) (n:Value) (d f:List UInt8) (a l q:Nat) (D:g.eval m=n) (t:OB c base n d) (F:g.eval o=.slice (some ⟨a,0,none⟩) l q) (B:l=f.length) (y:∀b j,f[b]?=some j->c.cell? ⟨a,b,none⟩=some (lg j)) (O:d.length+l<=4398046511104) (r:base<=c.heap.size) (h:∀k e,OB e base k (d++f)->Below base c e->wpList prog u p rest (g.put i.dst k) e):wpList prog u p (i::rest) g c:=by obtain⟨I,A,L,M,N⟩:=info_parts qH;subst B;refine wpList_append_own_at c z m o 168 C base 5 I (.int .u8 0) 1 1 underlying168 A L M N rfl (by decide) n d.length (d.map lg) D t ⟨a,0,none⟩ f.length q (f.map lg) F (by simp) (λb j s=>by rw[b8] at s;obtain⟨v,G,rfl⟩:=Option.map_eq_some_iff.1 s;(have x:(⟨a,0,none⟩:Addr).add b=⟨a,b,none⟩:=by by_cases h:b=0<;>simp[Addr.add,h]);rw[x];exact y b v G) (λj E=>by obtain⟨v,_,rfl⟩:=fB E;rfl) (by unfold maxLen;omega) (by omega) r ?_;intro k e J K _ _;refine h k e ?_ (bP K r λa w=>(World.ownsRow.lt t a w).1);unfold OB;rw[bj,bX];exact J
theorem OB.lit(b:World)(a:List UInt8)(c:a.length<=1000):OB (b.alloc (.cells (a.map lg).toArray 5)) b.heap.size (.slice (some ⟨b.heap.size,0,none⟩) a.length a.length) a:=by have h:=World.ownsRow_lit (base:=b.heap.size) (e:=5) (size:=1) b (a.map lg).toArray a.length aV (by unfold maxLen;omega) (by simp);unfold OB;exact h
theorem gC(d:World)(c:List UInt8):∀a b,c[a]?=some b->(d.alloc (.cells (c.map lg).toArray 5)).cell? ⟨d.heap.size,a,none⟩=some (lg b):=λa b e=>by
 have:(c.map lg)[a]?=some (lg b):=by rw[b8,e];rfl
 simp[go_sem]
 simpa using this
theorem ik(a:UInt8)(j:World):Calls prog 130 #[.int .u8 (a.toNat:Int)] j λo p=>o=.returned (.bool (cs a))/\p=j:=by
 have q:(0:Int)<=(a.toNat:Int):=by omega
 have r:(a.toNat:Int)<256:=by have:=a.toNat_lt;omega
 have i:cs a=(decide ((32:Int)<=(a.toNat:Int)) && decide ((a.toNat:Int)<=126) && ((a.toNat:Int) != 34) && ((a.toNat:Int) != 92)):=by(have m:(a != 34)=((a.toNat:Int) != 34):=by rw[Bool.eq_iff_iff];simp only[bne_iff_ne,ne_eq];exact⟨λh c=>h (UInt8.toNat_inj.1 (by rw[show (34:UInt8).toNat=34 from rfl];omega)),λh c=>h (by rw[c];rfl)⟩);(have n:(a != 92)=((a.toNat:Int) != 92):=by rw[Bool.eq_iff_iff];simp only[bne_iff_ne,ne_eq];exact⟨λh c=>h (UInt8.toNat_inj.1 (by rw[show (92:UInt8).toNat=92 from rfl];omega)),λh c=>h (by rw[c];rfl)⟩);unfold cs;rw[m,n];congr 3;(.exact decide_eq_decide.2 (by omega));.exact decide_eq_decide.2 (by omega)
 rw[i];generalize (a.toNat:Int)=b at *;clear i;by_cases d:(32:Int)<=b;.by_cases g:b<=126;(.by_cases e:b=34;(.subst e;go_enter func130,ntmps130;go_wp2;go_ret;exact⟨rfl,rfl⟩);·(have k:(b != 34)=true:=by simpa using e);by_cases f:b=92;(.subst f;go_enter func130,ntmps130;go_wp2;go_ret;exact⟨rfl,rfl⟩);·(have l:(b != 92)=true:=by simpa using f);clear e f;go_enter func130,ntmps130;go_wp2;go_ret;exact⟨by simp[d,g,k,l],rfl⟩);.go_enter func130,ntmps130;go_wp2;go_ret;exact⟨by simp[d,g];try omega,rfl⟩
 .go_enter func130,ntmps130;go_wp2;go_ret;exact⟨by simp[d];try (intros;omega),rfl⟩
theorem b3{a:List (List UInt8)}(h:(a.all λb=>decide (b.length<=20))=true)(c:Int):(VO a c).length<=20:=by
 unfold VO;rw[fC];cases d:a[(c-1).toNat]? with
 | none=>simp
 | some b=>have:=List.all_eq_true.1 h b (a8 d);simpa using this
theorem jE:(ea.all λa=>decide (a.length<=20))=true:=by kernel_rfl
theorem mD:(d0.all λa=>decide (a.length<=20))=true:=by kernel_rfl
theorem b4:(aX.all λa=>decide (a.length<=20))=true:=by kernel_rfl
theorem iE:(bV.all λa=>decide (a.length<=20))=true:=by kernel_rfl
theorem iB:(bG.all λa=>decide (a.length<=20))=true:=by kernel_rfl
theorem gK:Lib.fields pO.data.toList=ea:=rfl
theorem iz:Lib.fields mC.data.toList=d0:=rfl
theorem aZ:Lib.fields bE.data.toList=aX:=rfl
theorem ge:Lib.fields ku.data.toList=bV:=rfl
theorem mu(b d:Int)(B:1<=b)(C:b<=6)(s:b2 d)(a:World)(p:GT a):Calls prog 31 #[.agg #[.int .i64 b,.int .i64 d]] a λW t=>W=.returned (.string (bs (VL (b,d))))/\Bw a t:=by
 have z:VL (b,d)=VU [VO ea b,Lib.itoa d]:=rfl;rw[z];obtain⟨e,m⟩:=bq (a.alloc (.cells #[.int .i64 b,.int .i64 d] 78));have F:Bw a e:=by rw[<-m];exact ae aN _
 have x:e.cell? ⟨a.heap.size,0,none⟩=some (.int .i64 b):=by rw[<-m];simp[go_sem]
 have y:e.cell? ⟨a.heap.size,1,none⟩=some (.int .i64 d):=by rw[<-m];simp[go_sem]
 have o:Hid (Bw e e.drew):=(aN).drew;have r:Bw a e.drew:=ac F (U o);have k:Hid (e.drew.cell? ⟨a.heap.size,0,none⟩=some (.int .i64 b)/\e.drew.cell? ⟨a.heap.size,1,none⟩=some (.int .i64 d)):=⟨aG x (U o),aG y (U o)⟩;have n:=VV (dg pO b e.drew (p.aa r) (by decide) (by kernel_rfl) ⟨by omega,by omega⟩ B (by rw[gK,fQ];exact C));rw[gK] at n;unfold pO at n;have G:=b3 jE b;have I:=dj s;obtain⟨j,D⟩:=al (VO ea b);have w:=VV λ(i:World) (h:Bw a i)=>dv d s i (p.aa h);obtain⟨l,E⟩:=al (Lib.itoa d);rw[<-D] at n G ⊢;rw[<-E] at w I ⊢;have P:Hid ((Lib.join [j,l] [32]).length<=70368744177664):=by have:=ck [j,l];simp only[bi,List.map_nil,List.sum_cons,List.sum_nil] at this;show _<=_;omega
 have Q:=VV (λ(i:World) (A:Nat) (h:SL i A (.slice (some ⟨A,0,none⟩) 2 2) [j,l])=>bJ [j,l] _ _ i h (U P) (by simp));have K:=VV r;have S:=VV m;clear p F r E D G I x y s B C z m;go_enter func31,ntmps31;go_upto_region 1 with fail;rw[U S];refine VR (λi:World=>i.cell? ⟨a.heap.size,0,none⟩=some (.int .i64 b)/\i.cell? ⟨a.heap.size,1,none⟩=some (.int .i64 d)) 5 ?_;refine ai 0 (.pointer (some ⟨a.heap.size,0,none⟩)) rfl (U k) ?_;refine ai 1 (.int .i64 b) rfl (U k) ?_ λt q=>by obtain⟨T,V⟩:=q;go_simp
 refine ai 3 (.pointer (some ⟨a.heap.size,1,none⟩)) rfl (U k) ?_;refine ai 4 (.int .i64 d) rfl (U k) ?_ λt q=>by obtain⟨T,V⟩:=q;go_simp
 refine ap 2 rfl λg c=>?_;go_simp;refine(U n).mono ?_;rintro _ u ⟨rfl,f⟩;have v:=VV (ac (U K) f);have O:=VV (⟨aG (U k).1 f,aG (U k).2 f⟩:u.cell? ⟨a.heap.size,0,none⟩=some (.int .i64 b)/\u.cell? ⟨a.heap.size,1,none⟩=some (.int .i64 d));clear f;go_simp;refine aO c (U O) ?_;clear c g;refine ap 5 rfl λg c=>?_;go_simp;refine(U w u (U v)).mono ?_;rintro _ J ⟨rfl,f⟩;have L:=VV (ac (U v) f);clear f;go_simp;refine aS c ?_;clear c g;refine ap 6 rfl λg c=>?_;go_simp;have R:=VV (SL.two J j l);have M:=VV (ac (U L) (ae (ar _ J) (.cells #[.string (bs j),.string (bs l)] 9)));refine aS c ?_;clear c g;refine ap 7 rfl λg c=>?_;go_simp;refine(U Q _ _ (U R)).mono ?_;rintro _ X ⟨rfl,f⟩;have N:=VV (ac (U M) f);clear f;go_simp;refine aS c ?_;clear c g;refine ap 8 rfl λg c=>?_;go_simp;refine aS c ?_;clear c g;refine bh ?_;go_wp2;go_ret;exact⟨rfl,U N⟩
def fT(b:List UInt8)(a:Nat):List UInt8:=34::(b.take a).flatMap fq
theorem j9(a:List UInt8):fT a 0=[34]:=by simp[fT]
theorem ka{a:List UInt8}{b:UInt8}(h:a[n]?=some b):fT a (n+1)=fT a n++fq b:=by unfold fT;rw[List.take_add_one,h];simp
theorem i8(a:List UInt8):fT a a.length++[34]=fV a:=by simp[fT,fV]
theorem qi(a:UInt8):(fq a).length<=3:=by unfold fq;split<;>simp
theorem hB(b:List UInt8)(c:Nat):(fT b c).length<=1+3*b.length:=by
 have h:∀a:List UInt8,(a.flatMap fq).length<=3*a.length:=by
  intro a
  induction a with
  | nil=>simp
  | cons d a e=>rw[fl,bj,a1];have:=qi d;omega
 unfold fT;rw[a1];have:=h (b.take c);rw[List.length_take] at this;omega
theorem rc(a:ByteArray)(b:Nat)(h:b<a.size):a.data.toList[b]?=some a[b]:=by show a.data.toList[b]?=some a.data[b];simp
def pA:ByteArray:=⟨#[48,49,50,51,52,53,54,55,56,57,97,98,99,100,101,102]⟩
theorem rL:∀a:Fin 16,(pA.data.toList.getD a.val 0)=cB a.val:=by decide
theorem sU(b:Int)(a:Nat)(c:b=(a:Int))(h:a<16)(f:b.toNat<pA.size):pA[b.toNat]=cB a:=by
 subst c;have d:(a:Int).toNat=a:=by omega
 simp only[d];rw[<-rL ⟨a,h⟩];have e:a<pA.data.toList.length:=h;rw[fC,ba e,Option.getD_some,Array.getElem_toList];rfl
theorem s1:∀a:Fin 256,bits .and .u8 (a.val:Int) 15=((a.val % 16:Nat):Int):=by decide +kernel
theorem fU{a:UInt8}(h:cs a=false):fq a=[92,cB (a.toNat / 16),cB (a.toNat % 16)]:=by unfold fq;rw[h];rfl
theorem ig{a:UInt8}(h:cs a=true):fq a=[a]:=by unfold fq;rw[h];rfl
theorem ng{g:Oper}{f:Act}{m:Act->World->Prop}{u:Exit->Act->World->Prop}(r s:Operand)(B:g.op=.call { callee:=.builtin .append,args:=#[r,s],argTypes:=#[168,168] }) (base:Nat) (l:Value) (c e:List UInt8) (a k n:Nat) (D:f.eval r=l) (q:OB w base l c) (F:f.eval s=.slice (some ⟨a,0,none⟩) k n) (A:k=e.length) (y:∀b i,e[b]?=some i->w.cell? ⟨a,b,none⟩=some (lg i)) (O:c.length+k<=4398046511104) (o:base<=w.heap.size) (h:∀j d,OB d base j (c++e)->Below base w d->m (f.put g.dst j) d):g.wp prog f w m u:=by obtain⟨I,z,L,M,N⟩:=info_parts qH;subst A;obtain⟨j,d,C,J,K,_,_⟩:=run_append_own_at (P:=prog) w base 168 g.type 5 I (.int .u8 0) 1 1 underlying168 z L M N rfl (by decide) l c.length (c.map lg) q ⟨a,0,none⟩ e.length n (e.map lg) (by simp) (λb i p=>by rw[b8] at p;obtain⟨t,G,rfl⟩:=Option.map_eq_some_iff.1 p;(have x:(⟨a,0,none⟩:Addr).add b=⟨a,b,none⟩:=by by_cases h:b=0<;>simp[Addr.add,h]);rw[x];exact y b t G) (λi E=>by obtain⟨t,_,rfl⟩:=fB E;rfl) (by unfold maxLen;omega) (by omega) o;unfold Oper.wp execOp;simp only[B,resolve,invoke,builtin,Sem.run_bind,Sem.run_pure,Result.andThen_ok,List.map_toArray,bi,List.map_nil,D,F,C];refine h j d ?_ (bP K o λa v=>(World.ownsRow.lt q a v).1);unfold OB;rw[bj,bX];exact J
theorem mQ(a:ByteArray)(Z:a.size<=1099511627776)(g:World):Calls prog 120 #[.string a] g λx s=>x=.returned (.string (bs (fV a.data.toList)))/\Bw g s:=by
 obtain⟨r,C⟩:=al g.heap.size;have J:=VV (OB.lit g [34] (by simp));have I:=VV (ae (ar _ g) (.cells #[.int .u8 34] 5));have i:=VV C;clear C;go_enter func120,ntmps120;go_wp2;go_loopw[3,8] (λD w y=>∃b:Nat,b<=a.size/\w=.int .i64 b/\Hid (OB y r D (fT a.data.toList b))/\Hid (Bw g y)) (λD w y=>a.size-(intOf w).toNat);case atStart=>exact⟨0,bf,rfl,(by rw[j9,U i];exact J),I⟩
 case round=>
  obtain⟨b,Y,rfl,u,k⟩:=hrel;by_cases L:b<a.size
  .have R:(b:Int)<(a.size:Int):=by omega
   have z:=VV (ka (rc a b L))
   have p:Hid ((fT a.data.toList b).length+3<=4398046511104):=by
    have M:=hB a.data.toList b
    have N:a.data.toList.length=a.size:=Array.length_toList
    show _<=_
    omega
   have q:=VV (ik a[b] wr)
   have X:=a[b].toNat_lt
   cases l:cs a[b] with
   | true=>
    have t:Hid (fq a[b]=[a[b]]):=by show _=_;unfold fq;rw[l];rfl
    rw[l] at q
    clear l
    go_upto_region 5 with fail
    go_upto_region 6 with (go_at_call 130;refine(U q).mono ?_;rintro x j ⟨rfl,rfl⟩)
    have c:=VV (ae (ar _ j) (.cells #[.int .u8 a[b].toNat] 5))
    have n:=VV (gC j [a[b]])
    go_wp2_with (refine dh _ rfl (.tmp 15) (.tmp 19) rfl r u3 (fT a.data.toList b) [a[b]] j.heap.size 1 1 rfl ((U u).aa (U c)) rfl rfl (U n) (aQ (by simp) (U p)) (by rw[U i];exact aQ (U k).size (U c).size) ?_;intro E F f d;have v:=VV f;have m:=VV (d);clear f d)
    go_roundw
    case rel=>exact⟨b+1,by omega,by go_num,by rw[U z,U t];exact v,VV ((ac (U k) (U c)).trans (by have:=U m;rw[U i] at this;exact this))⟩
    case measure=>simp[intOf]<;>omega
   | false=>
    have t:=VV (fU l)
    rw[l] at q
    clear l
    go_upto_region 5 with fail
    go_upto_region 7 with (go_at_call 130;refine(U q).mono ?_;rintro x j ⟨rfl,rfl⟩)
    have O:a[b].toNat / 16<16:=by omega
    have P:a[b].toNat % 16<16:=by omega
    have A:=VV (sU _ _ (show (a[b].toNat:Int) / 16=((a[b].toNat / 16:Nat):Int) by omega) O)
    have B:=VV (sU _ _ (show (a[b].toNat:Int) % 16=((a[b].toNat % 16:Nat):Int) by omega) P)
    have G:=VV (s1 ⟨a[b].toNat,by omega⟩)
    unfold pA at A B
    refine VR (λ_=>True) 12 ?_
    refine ai 0 u3 rfl trivial ?_
    refine ai 1 (.string a) rfl trivial ?_
    refine ai 2 (.int .i64 (b:Int)) rfl trivial ?_
    refine ai 3 (.int .u8 (a[b].toNat:Int)) rfl trivial ?_
    refine ai 4 (.int .u8 ((a[b].toNat / 16:Nat):Int)) rfl trivial ?_
    refine ai 5 (.int .u8 ((cB (a[b].toNat / 16)).toNat:Int)) rfl trivial ?_ λs _=>by go_simp;rw[dif_pos ⟨by omega,by omega⟩,U A];rfl
    refine ai 6 (.string a) rfl trivial ?_
    refine ai 7 (.int .i64 (b:Int)) rfl trivial ?_
    refine ai 8 (.int .u8 (a[b].toNat:Int)) rfl trivial ?_
    refine ai 9 (.int .u8 ((a[b].toNat % 16:Nat):Int)) rfl trivial ?_ λs _=>by have:=U G;go_simp
    refine ai 10 (.int .u8 ((cB (a[b].toNat % 16)).toNat:Int)) rfl trivial ?_ λs _=>by go_simp;rw[dif_pos ⟨by omega,by omega⟩,U B];rfl
    refine ap 11 rfl λo e=>?_
    go_simp
    refine aO e trivial ?_
    clear e o
    have c:=VV ((ae (ar _ j) (.cells #[.int .u8 92,.int .u8 ((cB (a[b].toNat / 16)).toNat:Int),.int .u8 ((cB (a[b].toNat % 16)).toNat:Int)] 5)).drew)
    have n:=VV (gC j [92,cB (a[b].toNat / 16),cB (a[b].toNat % 16)])
    refine ap 12 rfl λo e=>?_
    refine ng (.tmp 21) (.tmp 32) rfl r u3 (fT a.data.toList b) [92,cB (a[b].toNat / 16),cB (a[b].toNat % 16)] j.heap.size 3 3 rfl ((U u).aa (U c)) rfl rfl (λS T Q=>(U n S T Q)) (U p) (by rw[U i];exact aQ (U k).size (U c).size) ?_
    intro E F f d
    have v:=VV f
    have m:=VV d
    clear f d
    go_simp
    refine aS e ?_
    clear e o
    refine ap 13 rfl λo e=>?_
    go_simp
    refine aS e ?_
    clear e o
    refine bh ?_
    go_wp2
    go_roundw
    case rel=>exact⟨b+1,by omega,by go_num,by rw[U z,U t];exact v,VV ((ac (U k) (U c)).trans (by have:=U m;rw[U i] at this;exact this))⟩
    case measure=>simp[intOf]<;>omega
  ·(have R:¬(b:Int)<(a.size:Int):=by omega);(have W:b=a.size:=by omega);have c:=VV (ae (ar _ wr) (.cells #[.int .u8 34] 5));have n:=VV (gC wr [34]);(have p:Hid ((fT a.data.toList b).length+3<=4398046511104):=by have M:=hB a.data.toList b;have N:a.data.toList.length=a.size:=Array.length_toList;show _<=_;omega);go_upto_region 9 with fail
   go_wp2_with (first
    | (refine dh _ rfl (.tmp 35) (.tmp 36) rfl r u3 (fT a.data.toList b) [34] wr.heap.size 1 1 rfl ((U u).aa (U c)) rfl rfl (U n) (aQ (by simp) (U p)) (by rw[U i];exact aQ (U k).size (U c).size) ?_;intro E F f d;have V:=fg f;have m:=VV d;clear f d))
   go_ret;(have K:fT a.data.toList a.size++[34]=fV a.data.toList:=by rw[<-i8,show a.data.toList.length=a.size from Array.length_toList]);refine⟨?_,(ac (U k) (U c)).trans (by have:=U m;rw[U i] at this;exact this)⟩;rw[<-K];rfl
theorem eb(a:Int)(h:0<=a)(b:a<256):IntKind.u8.wrap a=a:=by simp[IntKind.wrap,IntKind.bits,IntKind.signed];omega
theorem rM:∀a:Fin 16,(pA.extract a.val (a.val+1))=bs [cB a.val]:=by decide +kernel
theorem pa(a:UInt8):cs a=(decide ((32:Int)<=(a.toNat:Int)) && decide ((a.toNat:Int)<=126) && ((a.toNat:Int) != 34) && ((a.toNat:Int) != 92)):=by
 have c:(a != 34)=((a.toNat:Int) != 34):=by rw[Bool.eq_iff_iff];simp only[bne_iff_ne,ne_eq];exact⟨λh b=>h (UInt8.toNat_inj.1 (by rw[show (34:UInt8).toNat=34 from rfl];omega)),λh b=>h (by rw[b];rfl)⟩
 have d:(a != 92)=((a.toNat:Int) != 92):=by rw[Bool.eq_iff_iff];simp only[bne_iff_ne,ne_eq];exact⟨λh b=>h (UInt8.toNat_inj.1 (by rw[show (92:UInt8).toNat=92 from rfl];omega)),λh b=>h (by rw[b];rfl)⟩
 unfold cs;rw[c,d];congr 3;.exact decide_eq_decide.2 (by omega)
 .exact decide_eq_decide.2 (by omega)
theorem mc(b c:Int)(a:Nat)(f:b=(a:Int))(g:c=(a:Int)+1)(h:a<16):(⟨#[48,49,50,51,52,53,54,55,56,57,97,98,99,100,101,102]⟩:ByteArray).extract b.toNat c.toNat=bs [cB a]:=by
 have d:b.toNat=a:=by omega
 have e:c.toNat=a+1:=by omega
 rw[d,e];exact rM ⟨a,h⟩
theorem iA(a:ByteArray)(P:a.size<=1099511627776)(k:World):Calls prog 85 #[.string a] k λI c=>I=.returned (.string (bs (fV a.data.toList)))/\Bw k c:=by
 have y:=VV (ar k.heap.size k);have A:Hid (∀b,(fT a.data.toList b).length+3<=4398046511104):=λb=>by have K:=hB a.data.toList b;have L:a.data.toList.length=a.size:=Array.length_toList;omega
 go_enter func85,ntmps85;go_wp2;go_loopw[3,4] (λw r x=>∃(b:Nat) (d:ByteArray),b<=a.size/\r=.int .i64 b/\w=.string d/\Hid (d=bs (fT a.data.toList b))/\Hid (Bw k x)) (λw r x=>a.size-(intOf r).toNat);case atStart=>exact⟨0,_,bf,rfl,rfl,(by rw[j9];rfl),y⟩
 case round=>
  obtain⟨b,d,O,rfl,rfl,g,l⟩:=hrel;have M:d.size+3<=4398046511104:=by rw[U g,bx];exact U A b
  by_cases E:b<a.size
  .have G:(b:Int)<(a.size:Int):=by omega
   have o:=VV (ka (rc a b E))
   have N:=a[b].toNat_lt
   have p:=VV (show cs a[b]=(decide ((32:Int)<=(a[b].toNat:Int)) && decide ((a[b].toNat:Int)<=126) && ((a[b].toNat:Int) != 34) && ((a[b].toNat:Int) != 92)) from pa a[b])
   cases n:cs a[b] with
   | true=>
    have m:=VV (ig n)
    rw[n] at p
    have f:=U p
    have F:(32:Int)<=(a[b].toNat:Int)/\(a[b].toNat:Int)<=126/\(a[b].toNat:Int)≠34/\(a[b].toNat:Int)≠92:=by
     have:=f.symm
     simp only[dW,eK,bne_iff_ne] at this
     exact⟨this.1.1.1,this.1.1.2,this.1.2,this.2⟩
    obtain⟨t,u,j,v⟩:=F
    have q:((a[b].toNat:Int) != 34)=true:=by simpa using j
    have B:((a[b].toNat:Int) != 92)=true:=by simpa using v
    clear j v
    have s:¬9223372036854775807<d.size+(bs [a[b]]).size:=by rw[bx,List.length_singleton];omega
    have J:(convert 168 9 (.slice (some ⟨wr.heap.size,0,none⟩) 1 1)).run prog (wr.alloc (.cells #[.int .u8 (a[b].toNat:Int)] 5))=.ok (.string (bs [a[b]])) (wr.alloc (.cells #[.int .u8 (a[b].toNat:Int)] 5)):=fg (OB.lit wr [a[b]] (by simp))
    have z:=VV (ae (ar _ wr) (.cells #[.int .u8 (a[b].toNat:Int)] 5))
    clear f n
    go_upto_region 7 with fail
    go_wp2
    go_roundw
    case rel=>exact⟨b+1,_,by omega,by go_num,rfl,(by rw[U o,U m,<-eg,<-U g];rfl),VV (ac (U l) (U z))⟩
    case measure=>simp[intOf]<;>omega
   | false=>
    have m:=VV (fU n)
    rw[n] at p
    have f:=U p
    have s:¬9223372036854775807<d.size+(bs [92,cB (a[b].toNat / 16),cB (a[b].toNat % 16)]).size:=by rw[bx];show ¬9223372036854775807<d.size+3;omega
    clear n
    by_cases t:(32:Int)<=(a[b].toNat:Int)
    .by_cases u:(a[b].toNat:Int)<=126
     .by_cases j:(a[b].toNat:Int)=34
      .have q:((a[b].toNat:Int) != 34)=false:=by rw[j];rfl
       clear f j
       go_upto_region 8 with fail
       refine VR (λ_=>True) 16 ?_
       refine ai 0 (.string d) rfl trivial ?_
       refine ai 1 (.int .u8 (a[b].toNat:Int)) rfl trivial ?_
       refine ai 2 (.int .u8 ((a[b].toNat:Int) / 16)) rfl trivial ?_ λc _=>by go_simp;exact eb _ (by omega) (by omega)
       refine ai 3 (.int .u8 (a[b].toNat:Int)) rfl trivial ?_
       refine ai 4 (.int .u8 ((a[b].toNat:Int) / 16)) rfl trivial ?_ λc _=>by go_simp;exact eb _ (by omega) (by omega)
       refine ai 5 (.int .u8 ((a[b].toNat:Int) / 16+1)) rfl trivial ?_ λc _=>by go_simp;exact eb _ (by omega) (by omega)
       refine ai 6 (.string (bs [cB (a[b].toNat / 16)])) rfl trivial ?_ λc _=>by go_simp;rw[aR ⟨by omega,by omega⟩,aR ⟨by omega,by omega⟩,mc _ _ (a[b].toNat / 16) (by omega) (by omega) (by omega)]
       refine ai 7 (.string (bs [92,cB (a[b].toNat / 16)])) rfl trivial ?_ λc _=>by go_simp;rfl
       refine ai 8 (.int .u8 (a[b].toNat:Int)) rfl trivial ?_
       refine ai 9 (.int .u8 ((a[b].toNat:Int) % 16)) rfl trivial ?_ λc _=>by go_simp;exact Int.tmod_eq_emod_of_nonneg (by omega)
       refine ai 10 (.int .u8 (a[b].toNat:Int)) rfl trivial ?_
       refine ai 11 (.int .u8 ((a[b].toNat:Int) % 16)) rfl trivial ?_ λc _=>by go_simp;exact Int.tmod_eq_emod_of_nonneg (by omega)
       refine ai 12 (.int .u8 ((a[b].toNat:Int) % 16+1)) rfl trivial ?_ λc _=>by go_simp;exact eb _ (by omega) (by omega)
       refine ai 13 (.string (bs [cB (a[b].toNat % 16)])) rfl trivial ?_ λc _=>by go_simp;rw[aR ⟨by omega,by omega⟩,aR ⟨by omega,by omega⟩,mc _ _ (a[b].toNat % 16) (by omega) (by omega) (by omega)]
       refine ai 14 (.string (bs [92,cB (a[b].toNat / 16),cB (a[b].toNat % 16)])) rfl trivial ?_ λc _=>by go_simp;rfl
       refine ai 15 (.string (d++bs [92,cB (a[b].toNat / 16),cB (a[b].toNat % 16)])) rfl trivial ?_
       refine ap 16 rfl λi e=>?_
       go_simp
       refine aS e ?_
       clear e i
       refine bh ?_
       go_wp2
       go_roundw
       case rel=>exact⟨b+1,_,by omega,by go_num,rfl,(by rw[U o,U m,<-eg,<-U g];rfl),VV (U l).drew⟩
       case measure=>simp[intOf]<;>omega
      .have q:((a[b].toNat:Int) != 34)=true:=by simpa using j
       have B:((a[b].toNat:Int) != 92)=false:=by
        have:=f.symm
        rw[decide_eq_true t,decide_eq_true u,q] at this
        simpa using this
       clear f j
       go_upto_region 8 with fail
       refine VR (λ_=>True) 16 ?_
       refine ai 0 (.string d) rfl trivial ?_
       refine ai 1 (.int .u8 (a[b].toNat:Int)) rfl trivial ?_
       refine ai 2 (.int .u8 ((a[b].toNat:Int) / 16)) rfl trivial ?_ λc _=>by go_simp;exact eb _ (by omega) (by omega)
       refine ai 3 (.int .u8 (a[b].toNat:Int)) rfl trivial ?_
       refine ai 4 (.int .u8 ((a[b].toNat:Int) / 16)) rfl trivial ?_ λc _=>by go_simp;exact eb _ (by omega) (by omega)
       refine ai 5 (.int .u8 ((a[b].toNat:Int) / 16+1)) rfl trivial ?_ λc _=>by go_simp;exact eb _ (by omega) (by omega)
       refine ai 6 (.string (bs [cB (a[b].toNat / 16)])) rfl trivial ?_ λc _=>by go_simp;rw[aR ⟨by omega,by omega⟩,aR ⟨by omega,by omega⟩,mc _ _ (a[b].toNat / 16) (by omega) (by omega) (by omega)]
       refine ai 7 (.string (bs [92,cB (a[b].toNat / 16)])) rfl trivial ?_ λc _=>by go_simp;rfl
       refine ai 8 (.int .u8 (a[b].toNat:Int)) rfl trivial ?_
       refine ai 9 (.int .u8 ((a[b].toNat:Int) % 16)) rfl trivial ?_ λc _=>by go_simp;exact Int.tmod_eq_emod_of_nonneg (by omega)
       refine ai 10 (.int .u8 (a[b].toNat:Int)) rfl trivial ?_
       refine ai 11 (.int .u8 ((a[b].toNat:Int) % 16)) rfl trivial ?_ λc _=>by go_simp;exact Int.tmod_eq_emod_of_nonneg (by omega)
       refine ai 12 (.int .u8 ((a[b].toNat:Int) % 16+1)) rfl trivial ?_ λc _=>by go_simp;exact eb _ (by omega) (by omega)
       refine ai 13 (.string (bs [cB (a[b].toNat % 16)])) rfl trivial ?_ λc _=>by go_simp;rw[aR ⟨by omega,by omega⟩,aR ⟨by omega,by omega⟩,mc _ _ (a[b].toNat % 16) (by omega) (by omega) (by omega)]
       refine ai 14 (.string (bs [92,cB (a[b].toNat / 16),cB (a[b].toNat % 16)])) rfl trivial ?_ λc _=>by go_simp;rfl
       refine ai 15 (.string (d++bs [92,cB (a[b].toNat / 16),cB (a[b].toNat % 16)])) rfl trivial ?_
       refine ap 16 rfl λi e=>?_
       go_simp
       refine aS e ?_
       clear e i
       refine bh ?_
       go_wp2
       go_roundw
       case rel=>exact⟨b+1,_,by omega,by go_num,rfl,(by rw[U o,U m,<-eg,<-U g];rfl),VV (U l).drew⟩
       case measure=>simp[intOf]<;>omega
     .clear f
      go_upto_region 8 with fail
      refine VR (λ_=>True) 16 ?_
      refine ai 0 (.string d) rfl trivial ?_
      refine ai 1 (.int .u8 (a[b].toNat:Int)) rfl trivial ?_
      refine ai 2 (.int .u8 ((a[b].toNat:Int) / 16)) rfl trivial ?_ λc _=>by go_simp;exact eb _ (by omega) (by omega)
      refine ai 3 (.int .u8 (a[b].toNat:Int)) rfl trivial ?_
      refine ai 4 (.int .u8 ((a[b].toNat:Int) / 16)) rfl trivial ?_ λc _=>by go_simp;exact eb _ (by omega) (by omega)
      refine ai 5 (.int .u8 ((a[b].toNat:Int) / 16+1)) rfl trivial ?_ λc _=>by go_simp;exact eb _ (by omega) (by omega)
      refine ai 6 (.string (bs [cB (a[b].toNat / 16)])) rfl trivial ?_ λc _=>by go_simp;rw[aR ⟨by omega,by omega⟩,aR ⟨by omega,by omega⟩,mc _ _ (a[b].toNat / 16) (by omega) (by omega) (by omega)]
      refine ai 7 (.string (bs [92,cB (a[b].toNat / 16)])) rfl trivial ?_ λc _=>by go_simp;rfl
      refine ai 8 (.int .u8 (a[b].toNat:Int)) rfl trivial ?_
      refine ai 9 (.int .u8 ((a[b].toNat:Int) % 16)) rfl trivial ?_ λc _=>by go_simp;exact Int.tmod_eq_emod_of_nonneg (by omega)
      refine ai 10 (.int .u8 (a[b].toNat:Int)) rfl trivial ?_
      refine ai 11 (.int .u8 ((a[b].toNat:Int) % 16)) rfl trivial ?_ λc _=>by go_simp;exact Int.tmod_eq_emod_of_nonneg (by omega)
      refine ai 12 (.int .u8 ((a[b].toNat:Int) % 16+1)) rfl trivial ?_ λc _=>by go_simp;exact eb _ (by omega) (by omega)
      refine ai 13 (.string (bs [cB (a[b].toNat % 16)])) rfl trivial ?_ λc _=>by go_simp;rw[aR ⟨by omega,by omega⟩,aR ⟨by omega,by omega⟩,mc _ _ (a[b].toNat % 16) (by omega) (by omega) (by omega)]
      refine ai 14 (.string (bs [92,cB (a[b].toNat / 16),cB (a[b].toNat % 16)])) rfl trivial ?_ λc _=>by go_simp;rfl
      refine ai 15 (.string (d++bs [92,cB (a[b].toNat / 16),cB (a[b].toNat % 16)])) rfl trivial ?_
      refine ap 16 rfl λi e=>?_
      go_simp
      refine aS e ?_
      clear e i
      refine bh ?_
      go_wp2
      go_roundw
      case rel=>exact⟨b+1,_,by omega,by go_num,rfl,(by rw[U o,U m,<-eg,<-U g];rfl),VV (U l).drew⟩
      case measure=>simp[intOf]<;>omega
    .clear f
     go_upto_region 8 with fail
     refine VR (λ_=>True) 16 ?_
     refine ai 0 (.string d) rfl trivial ?_
     refine ai 1 (.int .u8 (a[b].toNat:Int)) rfl trivial ?_
     refine ai 2 (.int .u8 ((a[b].toNat:Int) / 16)) rfl trivial ?_ λc _=>by go_simp;exact eb _ (by omega) (by omega)
     refine ai 3 (.int .u8 (a[b].toNat:Int)) rfl trivial ?_
     refine ai 4 (.int .u8 ((a[b].toNat:Int) / 16)) rfl trivial ?_ λc _=>by go_simp;exact eb _ (by omega) (by omega)
     refine ai 5 (.int .u8 ((a[b].toNat:Int) / 16+1)) rfl trivial ?_ λc _=>by go_simp;exact eb _ (by omega) (by omega)
     refine ai 6 (.string (bs [cB (a[b].toNat / 16)])) rfl trivial ?_ λc _=>by go_simp;rw[aR ⟨by omega,by omega⟩,aR ⟨by omega,by omega⟩,mc _ _ (a[b].toNat / 16) (by omega) (by omega) (by omega)]
     refine ai 7 (.string (bs [92,cB (a[b].toNat / 16)])) rfl trivial ?_ λc _=>by go_simp;rfl
     refine ai 8 (.int .u8 (a[b].toNat:Int)) rfl trivial ?_
     refine ai 9 (.int .u8 ((a[b].toNat:Int) % 16)) rfl trivial ?_ λc _=>by go_simp;exact Int.tmod_eq_emod_of_nonneg (by omega)
     refine ai 10 (.int .u8 (a[b].toNat:Int)) rfl trivial ?_
     refine ai 11 (.int .u8 ((a[b].toNat:Int) % 16)) rfl trivial ?_ λc _=>by go_simp;exact Int.tmod_eq_emod_of_nonneg (by omega)
     refine ai 12 (.int .u8 ((a[b].toNat:Int) % 16+1)) rfl trivial ?_ λc _=>by go_simp;exact eb _ (by omega) (by omega)
     refine ai 13 (.string (bs [cB (a[b].toNat % 16)])) rfl trivial ?_ λc _=>by go_simp;rw[aR ⟨by omega,by omega⟩,aR ⟨by omega,by omega⟩,mc _ _ (a[b].toNat % 16) (by omega) (by omega) (by omega)]
     refine ai 14 (.string (bs [92,cB (a[b].toNat / 16),cB (a[b].toNat % 16)])) rfl trivial ?_ λc _=>by go_simp;rfl
     refine ai 15 (.string (d++bs [92,cB (a[b].toNat / 16),cB (a[b].toNat % 16)])) rfl trivial ?_
     refine ap 16 rfl λi e=>?_
     go_simp
     refine aS e ?_
     clear e i
     refine bh ?_
     go_wp2
     go_roundw
     case rel=>exact⟨b+1,_,by omega,by go_num,rfl,(by rw[U o,U m,<-eg,<-U g];rfl),VV (U l).drew⟩
     case measure=>simp[intOf]<;>omega
  ·(have G:¬(b:Int)<(a.size:Int):=by omega);(have D:b=a.size:=by omega);(have s:¬9223372036854775807<d.size+1:=by omega);go_wp2;go_ret;refine⟨?_,U l⟩;(have C:fT a.data.toList a.size++[34]=fV a.data.toList:=by rw[<-i8,show a.data.toList.length=a.size from Array.length_toList]);rw[<-C,<-eg,<-D,<-U g];rfl
end Go.Proofs.YtabmgpillccfaaaGreatDoor
