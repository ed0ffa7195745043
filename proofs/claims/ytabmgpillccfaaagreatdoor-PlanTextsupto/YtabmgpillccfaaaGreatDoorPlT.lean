import Derived.Test.YtabmgpillccfaaaGreatDoorPlO
set_option linter.all false
set_option maxHeartbeats 8000000
set_option maxRecDepth 100000
namespace Go.Proofs.YtabmgpillccfaaaGreatDoor
open Go.RowKit Go.Sort Go.Proofs.Tryz
def mx(e:Int)(b:Option Int)(d:World)(f:Ending)(g:World):Prop:=∃c:Int,f=.returned (.tuple #[.int .i64 c,.bool b.isSome])/\(∀a,b=some a->c=e+a)/\Bw d g
variable{I J:Int}{W w:World}{j m n:Nat}{p:Pl}{g:Pm}
theorem mx.no{b:Option Int}(h:b=none)(c:Bw w W):mx I b w (.returned (.tuple #[.int .i64 J,.bool false])) W:=⟨J,(by rw[h];rfl),(λd a=>by rw[h] at a;cases a),c⟩
theorem mx.yes{b:Int}{c:Option Int}(h:c=some b)(e:J=I+b)(d:Bw w W):mx I c w (.returned (.tuple #[.int .i64 J,.bool true])) W:=⟨J,(by rw[h];rfl),(λf a=>by rw[h] at a;injection a with a;omega),d⟩
theorem lB(p:Pl)(Wt:p.fin)(b i:Int)(m:Pm)(D:World)(WX:0<=b)(WW:b<=400)(WV:1<=i)(WU:i<=40)(Ws:dN D p m) (Wk:∀(r:Nat) (a:Pl),p.args[r]?=some a->∀(T VW:Int) (z:Pm) (V4:World),0<=T->T<=400->1<=VW->VW<=40->dN V4 a z->Calls prog 37 #[a.val z,.int .i64 T,.int .i64 VW] V4 (mx T (e3 a (400-T) (41-VW)) V4)):Calls prog 37 #[p.val m,.int .i64 b,.int .i64 i] D (mx b (e3 p (400-b) (41-i)) D):=by
 obtain⟨⟨WN,WO,WP,WQ,WR,WS,WT,_⟩,Wu,_⟩:=Pl.af Wt;have V2:=VV Wu;obtain⟨w,V7⟩:=al (e3 p (400-b) (41-i))
 have VX:Hid (w=if decide (400-b<1) || decide (41-i<1) then none else match fh p.ex (400-b) 1 with
  | none=>none
  | some V5=>fi p.args (400-b) (41-i) V5):=by rw[V7];exact le p _ _
 rw[<-V7];have V8:=ae (ar _ D) (p.box m);have N:Hid (dL (D.alloc (p.box m)) D.heap.size 0 p m):=dL.new D p m;have E:=VV (Ws.aa V8);have x:=VV V8;have Wh:=VV Wk;rw[Pl.ad];unfold Pl.box at N x E;clear V7 Ws Wk V8 Wt Wu;obtain⟨Wg,Wb⟩:=al (D.alloc (.cells #[.int .i64 p.op,.string p.tab,.slice m.aE p.ex.length m.cE,.slice m.aC p.cols.length m.cC,.slice m.aK p.keys.length m.cK,.slice m.aA p.aggs.length m.cA,.int .i64 p.fn,.int .i64 p.col,.int .i64 p.n,.int .i64 p.off,.slice m.aP p.args.length m.cP] 28));rw[<-Wb] at N x E;have Wj:=VV Wb;clear Wb;have V6:=(U N).c2;simp only[aT] at V6;by_cases WI:b=400
 .subst WI;have Wr:w=none:=by have:=U VX;rw[aR (by simp)] at this;exact this
  have S:=VV Wr;clear VX Wr Wh;go_enter func37,ntmps37;go_upto_region 2 with fail;rw[<-U Wj];go_wp2_with fail;go_loopw[1,21] (λL r wr=>L=.int .i64 401/\r=.int .i64 0/\wr=Wg) (λ_ _ _=>0);case atStart=>exact⟨rfl,rfl,rfl⟩
  case round=>
   clear V6;obtain⟨rfl,rfl,rfl⟩:=hrel;by_cases Q:0<p.ex.length
   .have X:(0:Int)<(p.ex.length:Int):=by omega
    obtain⟨a,l⟩:∃a,p.ex[0]?=some a:=⟨_,ba Q⟩
    obtain⟨We,Wf,I,s⟩:=Ex.all_get (U E).o.e l
    obtain⟨F,G,⟨Wl,Wm,Wn,Wo,Wp,Wq⟩,y⟩:=Ex.ao s
    simp only[Nat.zero_mul,Nat.add_zero] at Wl Wm Wn Wo Wp Wq
    have Y:=Ex.ag (U V2) (a8 l)
    have e:=VV (ic a Y F G (wr.alloc (.cells #[.int .i64 a.op,.int .i64 a.n,.int .i64 a.v.k,.int .i64 a.v.n,.string a.v.s,.slice F a.args.length G] 72)) (Ex.ab _ y (ae aN _)))
    have j:=VV (ae (U x) (.cells #[.int .i64 a.op,.int .i64 a.n,.int .i64 a.v.k,.int .i64 a.v.n,.string a.v.s,.slice F a.args.length G] 72))
    rw[Ex.ad] at e
    obtain⟨C,o⟩:=al (eN a)
    have V9:=gT a
    rw[<-o] at V9
    rw[I]
    clear l s y Y
    cases g:b0 a with
    | true=>
     have k:cq a=((a.size:Int),(a.high:Int)):=by unfold cq;rw[aR g]
     have u:C=(a.size:Int):=by rw[o];unfold eN;rw[aR g]
     rw[k] at e
     subst u
     have O:(a.size:Int)<=400:=by omega
     clear k g o
     have VZ:(400:Int)<401+(a.size:Int):=by omega
     go_wp2_with (go_at_call 76;refine(U e).mono ?_;rintro K M ⟨rfl,n⟩)
     exact aM (v:=.tuple #[.int .i64 (401+(a.size:Int)),.bool false]) (by simp[results,results37,go_sem]) rfl (mx.no (U S) (ac (U j) n))
    | false=>
     have k:cq a=(401,41):=by unfold cq;rw[aL (by rw[g];decide)]
     have u:C=1:=by rw[o];unfold eN;rw[aL (by rw[g];decide)]
     rw[k] at e
     subst u
     clear k g o
     go_wp2_with (go_at_call 76;refine(U e).mono ?_;rintro K M ⟨rfl,n⟩)
     exact aM (v:=.tuple #[.int .i64 402,.bool false]) (by simp[results,results37,go_sem]) rfl (mx.no (U S) (ac (U j) n))
   ·(have X:¬(0:Int)<(p.ex.length:Int):=by omega);have V:=(U N).c10;simp only[aT] at V;go_wp2_with fail;go_loopw[1,44] (λL r WM=>L=.int .i64 401/\r=.int .i64 0/\WM=wr) (λ_ _ _=>0);(case atStart=>exact⟨rfl,rfl,rfl⟩);case round=>clear V;obtain⟨rfl,rfl,rfl⟩:=hrel;by_cases WJ:0<p.args.length;(·(have WG:(0:Int)<(p.args.length:Int):=by omega);obtain⟨a,l⟩:∃a,p.args[0]?=some a:=⟨_,ba WJ⟩;obtain⟨We,Wf,I,s⟩:=Pl.all_get (U E).p l;obtain⟨z,J,_,_⟩:=Pl.ao s;simp only[Nat.zero_mul,Nat.add_zero] at J;have A:=VV J.load;have j:=VV (ac (U x) (ae (ar _ wr) (a.box z)));rw[Pl.ad] at A;unfold Pl.box at j;rw[I];clear l s J;by_cases WH:40<=i;(.go_wp2_with (refine aH ?_ 28 (.tmp 46) rfl _ (by simp[Act.eval]) _ (U A) ?_;. simp[Region.wanted,yielded]);exact aM (v:=.tuple #[.int .i64 401,.bool false]) (by simp[results,results37,go_sem]) rfl (mx.no (U S) (U j)));.go_wp2_with (refine aH ?_ 28 (.tmp 46) rfl _ (by simp[Act.eval]) _ (U A) ?_;. simp[Region.wanted,yielded]);exact aM (v:=.tuple #[.int .i64 401,.bool false]) (by simp[results,results37,go_sem]) rfl (mx.no (U S) (U j)));·(have WG:¬(0:Int)<(p.args.length:Int):=by omega);go_wp2;exact aM (v:=.tuple #[.int .i64 401,.bool false]) (by simp[results,results37,go_sem]) rfl (mx.no (U S) (U x))
 have VY:Hid (w=match fh p.ex (400-b) 1 with
  | none=>none
  | some V5=>fi p.args (400-b) (41-i) V5):=by have:=U VX;show _=_;rw[aL (by simp;omega)] at this;exact this
 clear VX;go_enter func37,ntmps37;go_upto_region 2 with fail;rw[<-U Wj];go_wp2_with fail;go_loopw[1,21] (λL r wr=>∃(d:Nat) (c:Int),d<=p.ex.length/\r=.int .i64 (d:Int)/\L=.int .i64 (b+c)/\1<=c/\c<=400-b/\Hid (fh p.ex (400-b) 1=fh (p.ex.drop d) (400-b) c)/\Hid (Bw Wg wr)) (λ_ r _=>p.ex.length-(intOf r).toNat);case atStart=>exact⟨0,1,bf,rfl,rfl,by omega,by omega,rfl,aN⟩
 case round=>
  clear V6;obtain⟨d,c,Wv,rfl,rfl,WD,WE,f,q⟩:=hrel;by_cases Q:d<p.ex.length
  ·(have X:(d:Int)<(p.ex.length:Int):=by omega);obtain⟨a,l⟩:∃a,p.ex[d]?=some a:=⟨_,ba Q⟩;(have P:p.ex.drop d=a::p.ex.drop (d+1):=by obtain⟨Wc,Wd⟩:=b6 l;rw[hb Wc,Wd]);obtain⟨We,Wf,I,s⟩:=Ex.all_get (Ex.ab _ (U E).o.e (U q)) l;obtain⟨F,G,⟨Wl,Wm,Wn,Wo,Wp,Wq⟩,y⟩:=Ex.ao s;have Y:=Ex.ag (U V2) (a8 l);have e:=VV (ic a Y F G (wr.alloc (.cells #[.int .i64 a.op,.int .i64 a.n,.int .i64 a.v.k,.int .i64 a.v.n,.string a.v.s,.slice F a.args.length G] 72)) (Ex.ab _ y (ae aN _)));have j:=VV (ae (U q) (.cells #[.int .i64 a.op,.int .i64 a.n,.int .i64 a.v.k,.int .i64 a.v.n,.string a.v.s,.slice F a.args.length G] 72));rw[Ex.ad] at e;rw[P,fh] at f;obtain⟨C,o⟩:=al (eN a);have V9:=gT a;rw[<-o] at V9 f;rw[I];clear l P s y Y q;by_cases Ww:400-b<c+C
   .have B:Hid (w=none):=by
     have t:=U f
     rw[aR Ww] at t
     have W:=U VY
     rw[t] at W
     exact W
    clear f VY
    cases g:b0 a with
    | true=>
     have k:cq a=((a.size:Int),(a.high:Int)):=by unfold cq;rw[aR g]
     have u:C=(a.size:Int):=by rw[o];unfold eN;rw[aR g]
     rw[k] at e
     subst u
     have O:(a.size:Int)<=400:=by omega
     clear k g o
     have VZ:(400:Int)<b+c+(a.size:Int):=by omega
     go_wp2_with (go_at_call 76;refine(U e).mono ?_;rintro K M ⟨rfl,n⟩)
     exact aM (v:=.tuple #[.int .i64 (b+c+(a.size:Int)),.bool false]) (by simp[results,results37,go_sem]) rfl (mx.no (U B) (ac (U x) (ac (U j) n)))
    | false=>
     have k:cq a=(401,41):=by unfold cq;rw[aL (by rw[g];decide)]
     have u:C=1:=by rw[o];unfold eN;rw[aL (by rw[g];decide)]
     rw[k] at e
     subst u
     clear k g o
     have VZ:(400:Int)<b+c+1:=by omega
     go_wp2_with (go_at_call 76;refine(U e).mono ?_;rintro K M ⟨rfl,n⟩)
     exact aM (v:=.tuple #[.int .i64 (b+c+1),.bool false]) (by simp[results,results37,go_sem]) rfl (mx.no (U B) (ac (U x) (ac (U j) n)))
   .rw[aL Ww] at f
    cases g:b0 a with
    | true=>
     have k:cq a=((a.size:Int),(a.high:Int)):=by unfold cq;rw[aR g]
     have u:C=(a.size:Int):=by rw[o];unfold eN;rw[aR g]
     rw[k] at e
     subst u
     have O:(a.size:Int)<=400:=by omega
     clear k g o
     have VZ:¬(400:Int)<b+c+(a.size:Int):=by omega
     go_wp2_with (go_at_call 76;refine(U e).mono ?_;rintro K M ⟨rfl,n⟩)
     exact⟨⟨d+1,c+(a.size:Int),by omega,by go_num,by go_num,by omega,by omega,U f,ac (U j) n⟩,by simp[intOf];omega⟩
    | false=>
     have k:cq a=(401,41):=by unfold cq;rw[aL (by rw[g];decide)]
     have u:C=1:=by rw[o];unfold eN;rw[aL (by rw[g];decide)]
     rw[k] at e
     subst u
     clear k g o
     have VZ:¬(400:Int)<b+c+1:=by omega
     go_wp2_with (go_at_call 76;refine(U e).mono ?_;rintro K M ⟨rfl,n⟩)
     exact⟨⟨d+1,c+1,by omega,by go_num,by go_num,by omega,by omega,U f,ac (U j) n⟩,by simp[intOf];omega⟩
  ·(have X:¬(d:Int)<(p.ex.length:Int):=by omega);(have Wi:Hid (w=fi p.args (400-b) (41-i) c):=by have t:=U f;have W:=U VY;rw[dG (by omega),fh] at t;rw[t] at W;exact W);have V1:=VV (ac (U x) (U q));have WB:=VV ((U N).aa (U q));have Wz:=VV ((U E).aa (U q));have V:=(U WB).c10;simp only[aT] at V;clear f VY q x N E V2 Q Wv;obtain⟨Wy,WL⟩:=al wr;subst WL;go_wp2_with fail;go_loopw[1,44] (λL r wr=>∃(d:Nat) (c:Int),d<=p.args.length/\r=.int .i64 (d:Int)/\L=.int .i64 (b+c)/\1<=c/\c<=400-b/\Hid (w=fi (p.args.drop d) (400-b) (41-i) c)/\Hid (Bw Wy wr)) (λ_ r _=>p.args.length-(intOf r).toNat);case atStart=>exact⟨0,c,bf,rfl,rfl,by omega,by omega,U Wi,aN⟩
   case round=>
    clear V Wi;obtain⟨d,c,Wv,rfl,rfl,WD,WE,f,q⟩:=hrel;by_cases Q:d<p.args.length
    ·(have X:(d:Int)<(p.args.length:Int):=by omega);obtain⟨a,l⟩:∃a,p.args[d]?=some a:=⟨_,ba Q⟩;(have P:p.args.drop d=a::p.args.drop (d+1):=by obtain⟨Wc,Wd⟩:=b6 l;rw[hb Wc,Wd]);obtain⟨We,Wf,I,s⟩:=Pl.all_get (Pl.ab _ (U Wz).p (U q)) l;obtain⟨z,J,O,y⟩:=Pl.ao s;have V0:=ae (ar _ wr) (a.box z);have j:=VV (ac (U q) V0);have A:=VV J.load;have R:=VV (dL.new wr a z).load;rw[Pl.ad] at A R;rw[P,fi] at f;rw[I];(have WF:¬(400:Int)<b+c:=by omega);by_cases WH:40<=i
     .have B:Hid (w=none):=by
       have t:=U f
       rw[le,aR (by simp;omega)] at t
       exact t
      unfold Pl.box at j
      clear f l P s y V0 J O q R
      go_wp2_with (refine aH ?_ 28 (.tmp 46) rfl _ (by simp[Act.eval]) _ (U A) ?_;. simp[Region.wanted,yielded])
      exact aM (v:=.tuple #[.int .i64 (b+c),.bool false]) (by simp[results,results37,go_sem]) rfl (mx.no (U B) (ac (U V1) (U j)))
     .have e:=VV (U Wh d a l (b+c) (i+1) z (wr.alloc (a.box z)) (by omega) (by omega) (by omega) (by omega) ((dN.mk O y).aa V0))
      rw[show 400-(b+c)=400-b-c by omega,show 41-(i+1)=41-i-1 by omega,Pl.ad] at e
      unfold Pl.box at e j R
      obtain⟨Z,Wa⟩:=bq (e3 a (400-b-c) (41-i-1))
      rw[Wa] at e f
      have V3:=VV Wa
      clear l P s y Wa V0 J O q
      cases Z with
      | none=>
       have B:Hid (w=none):=U f
       clear f V3
       go_wp2_with (first
        | (refine aH ?_ 28 (.tmp 46) rfl _ (by simp[Act.eval]) _ (U A) ?_;. simp[Region.wanted,yielded])
        | (refine aH ?_ 28 (.tmp 13) rfl _ (by simp[Act.eval]) _ (U R) ?_;. simp[Region.wanted,yielded])
        | (go_at_call 37;refine(U e).mono ?_;rintro K M ⟨Wx,rfl,_,n⟩))
       exact aM (v:=.tuple #[.int .i64 Wx,.bool false]) (by simp[results,results37,go_sem]) rfl (mx.no (U B) (ac (U V1) (ac (U j) n)))
      | some Z=>
       obtain⟨WY,WZ⟩:=hY a (400-b-c) (41-i-1) (U V3)
       have WC:Hid (w=fi (p.args.drop (d+1)) (400-b) (41-i) (c+Z)):=U f
       clear f V3
       go_wp2_with (first
        | (refine aH ?_ 28 (.tmp 46) rfl _ (by simp[Act.eval]) _ (U A) ?_;. simp[Region.wanted,yielded])
        | (refine aH ?_ 28 (.tmp 13) rfl _ (by simp[Act.eval]) _ (U R) ?_;. simp[Region.wanted,yielded])
        | (go_at_call 37;refine(U e).mono ?_;rintro K M ⟨Wx,rfl,WK,n⟩;obtain rfl:=WK Z rfl))
       exact⟨⟨d+1,c+Z,by omega,by go_num,by go_num,by omega,by omega,U WC,ac (U j) n⟩,by simp[intOf];omega⟩
    ·(have X:¬(d:Int)<(p.args.length:Int):=by omega);(have B:Hid (w=some c):=by have t:=U f;rw[dG (by omega),fi] at t;exact t);have WA:=VV (ac (U V1) (U q));(have WF:b+c<=400:=by omega);clear f q;go_wp2;exact aM (v:=.tuple #[.int .i64 (b+c),.bool true]) (by simp[results,results37,go_sem]) rfl (mx.yes (U B) rfl (U WA))
theorem VF:∀(f:Nat) (a:Pl),a.size<=f->a.fin->∀(b c:Int) (e:Pm) (d:World),0<=b->b<=400->1<=c->c<=40->dN d a e->Calls prog 37 #[a.val e,.int .i64 b,.int .i64 c] d (mx b (e3 a (400-b) (41-c)) d)
 | 0,a,i,_,_,_,_,_,_,_,_,_,_=>by rw[Pl.am] at i;omega
 | f+1,a,i,g,b,c,e,d,r,s,t,u,w=>lB a g b c e d r s t u w λz y j l k x m n o p q v=>
  VF f y (by have:=Pl.av j;omega) (Pl.ay g j) l k x m n o p q v
def rh(b:ByteArray)(a:Nat):Bool:=ip (iw b a) || (decide (¬a=0) && it (iw b a))
theorem rD{a:ByteArray}(e:n<a.size)(h:rh a n=false):dT a=false:=by
 unfold rh at h;simp only[Bool.or_eq_false_iff,Bool.and_eq_false_iff,decide_eq_false_iff_not,Classical.not_not] at h;unfold dT;by_cases c:n=0;.subst c;rw[h.1,Bool.and_false,Bool.false_and]
 ·(have d:it (iw a n)=false:=by(rcases h.2 with b|b;. exact absurd b c);. exact b);rw[l0 e (by unfold hj;rw[h.1,d];rfl),Bool.and_false]
theorem qv{a:ByteArray}(h:∀b,b<a.size->rh a b=true):dT a=(decide (1<=a.size) && decide (a.size<=40)):=by
 unfold dT;by_cases e:1<=a.size;.have c:=h 0 (by omega);unfold rh at c;simp at c;rw[c,l1 (λb f=>?_) rfl];(.simp);.have:=h b f;unfold rh at this;unfold hj;simp only[Bool.or_eq_true,dW] at this ⊢;rcases this with d|d;(.exact .inl d);.exact .inr d.2
 .rw[decide_eq_false e];rfl
theorem j5(b:ByteArray)(I:b.size<=140737488355328)(q:World):Calls prog 56 #[.string b] q λE F=>E=.returned (.bool (dT b))/\Bw q F:=by
 obtain⟨o,u⟩:=al (dT b);rw[<-u];have v:=VV u;clear u;go_enter func56,ntmps56;go_wp2_with fail;go_loopw[3] (λd wr=>∃a:Nat,a<=b.size/\d=.int .i64 (a:Int)/\Hid (∀d,d<a->rh b d=true)/\wr=q) (λd _=>b.size-(intOf d).toNat);case atStart=>exact⟨0,bf,rfl,λd p=>absurd p (by omega),rfl⟩
 case round=>obtain⟨a,G,rfl,n,rfl⟩:=hrel;by_cases y:a<b.size;(·(have B:(a:Int)<(b.size:Int):=by omega);have J:=hm b a y;(have i:Hid (rh b a=true->∀d,d<a+1->rh b d=true):=λh d p=>by rcases Nat.lt_or_eq_of_le (Nat.le_of_lt_succ p) with D|rfl;(.exact U n d D);.exact h);(have g:Hid (rh b a=false->o=false):=λh=>by rw[U v];exact rD y h);unfold rh at g i;generalize iw b a=e at *;clear n;by_cases x:97<=e;(.by_cases z:e<=122;(.have k:=VV (U i (by unfold ip;simp[x,z]));clear g i;go_wp2;exact⟨⟨a+1,by omega,by go_num,U k,trivial⟩,by simp[intOf];omega⟩);·(have f:ip e=false:=by unfold ip;simp[x];omega);(have m:it e=false:=by unfold it;simp;omega);have j:=VV (U g (by rw[f,m];simp));clear g i f m;by_cases c:a=0;(·(have r:((a:Int) == 0)=true:=by simp[c]);clear c;go_wp2;go_ret;exact⟨by rw[U j];rfl,aN⟩);·(have r:((a:Int) == 0)=false:=by simp;omega);(have s:48<=e:=by omega);(have t:¬e<=57:=by omega);(have l:(e == 95)=false:=by simp;omega);clear c;go_wp2;go_ret;exact⟨by rw[U j];rfl,aN⟩);·(have f:ip e=false:=by unfold ip;simp;omega);by_cases c:a=0;(·(have r:((a:Int) == 0)=true:=by simp[c]);have j:=VV (U g (by rw[f];simp[c]));clear g i f c;go_wp2;go_ret;exact⟨by rw[U j];rfl,aN⟩);(have r:((a:Int) == 0)=false:=by simp;omega);by_cases s:48<=e;(.by_cases t:e<=57;(.have k:=VV (U i (by rw[f];unfold it;simp[c,s,t]));clear g i f c;go_wp2;exact⟨⟨a+1,by omega,by go_num,U k,trivial⟩,by simp[intOf];omega⟩);.by_cases l:e=95;(.subst l;have k:=VV (U i (by rw[f];unfold it;simp[c]));clear g i f c;go_wp2;exact⟨⟨a+1,by omega,by go_num,U k,trivial⟩,by simp[intOf];omega⟩);·(have A:(e == 95)=false:=by simpa using l);have j:=VV (U g (by rw[f];unfold it;simp[c,s,t,l]));clear g i f c l;go_wp2;go_ret;exact⟨by rw[U j];rfl,aN⟩);·(have A:(e == 95)=false:=by simp;omega);(have m:it e=false:=by unfold it;simp;omega);have j:=VV (U g (by rw[f,m];simp));clear g i f m c;go_wp2;go_ret;exact⟨by rw[U j];rfl,aN⟩);·(have B:¬(a:Int)<(b.size:Int):=by omega);(have j:Hid (o=(decide (1<=b.size) && decide (b.size<=40))):=by rw[U v];exact qv λd p=>U n d (by omega));clear n;by_cases w:1<=b.size;(·(have C:(1:Int)<=(b.size:Int):=by omega);(obtain rfl:o=decide ((b.size:Int)<=40):=by rw[U j,decide_eq_true w,Bool.true_and,Bool.eq_iff_iff];simp;omega);go_wp2;go_ret;exact⟨rfl,aN⟩);·(have C:¬(1:Int)<=(b.size:Int):=by omega);(obtain rfl:o=false:=by rw[U j,decide_eq_false w];rfl);go_wp2;go_ret;exact⟨rfl,aN⟩
def nL(p:Pl):Bool:=cD p.cols && cD (p.keys.map Prod.fst) && gX p.fn p.col p.n
theorem mB(p:Pl)(Wf:p.fin)(N:Pm)(W:World)(V7:jW W p N):Calls prog 82 #[p.val N] W λb Wt=>b=.returned (.bool (nL p))/\Bw W Wt:=by
 obtain⟨⟨Wu,Wv,Ww,Wp,Wx,Wy,Wz,Wr,Ws,Wq⟩,_,_⟩:=Pl.af Wf;obtain⟨M,V9⟩:=al (nL p);rw[<-V9];unfold nL cD at V9;have We:=ae (ar _ W) (p.box N);have e:=VV (dL.new W p N);have i:=VV We;have O:=VV (λ(VY:World) (V6:Bw W VY)=>cw p.cols N.aC N.cC VY (by omega) (V7.c.aa V6));have P:=VV (λ(VY:World) (V6:Bw W VY)=>bw p.cols N.aC N.cC VY (by omega) V7.n (V7.c.aa V6));have u:=VV (λ(VY:World) (V6:Bw W VY)=>iC p.keys N.aK N.cK VY Wp (V7.k.aa V6));have v:Hid ((p.keys.map Prod.fst).length<=1048576):=by show _<=_;rw[VP];omega
 have VW:=VV V9;rw[Pl.ad];unfold Pl.box at e i;clear V9 We V7 Wf Wr Ws Wq;generalize p.keys.map Prod.fst=s at *;obtain⟨WB,Wc⟩:=al (W.alloc (.cells #[.int .i64 p.op,.string p.tab,.slice N.aE p.ex.length N.cE,.slice N.aC p.cols.length N.cC,.slice N.aK p.keys.length N.cK,.slice N.aA p.aggs.length N.cA,.int .i64 p.fn,.int .i64 p.col,.int .i64 p.n,.int .i64 p.off,.slice N.aP p.args.length N.cP] 28));rw[<-Wc] at e i;have L:=VV Wc;have Wd:=U e;have Wm:=Wd.c3;simp only[aT] at Wm;clear Wc Wd;cases Wa:p.cols.any (λV8=>decide (V8<0));case true=>rw[Wa] at O VW;obtain rfl:M=false:=U VW;clear Wa;go_enter func82,ntmps82;go_upto_region 1 with fail;rw[<-U L];go_wp2_with (go_at_call 78;refine(U O _ (U i)).mono ?_;rintro b V ⟨rfl,a⟩);go_ret;exact⟨rfl,ac (U i) a⟩
 rw[Wa] at O VW;clear Wa;cases Wb:decide p.cols.Nodup
 case false=>
  rw[Wb] at P VW;obtain rfl:M=false:=U VW;clear Wb;go_enter func82,ntmps82;go_upto_region 1 with fail;rw[<-U L]
  go_wp2_with (first
   | (go_at_call 78;refine(U O _ (U i)).mono ?_;rintro b V ⟨rfl,a⟩;have t:=((U e).aa a).c3;simp only[aT] at t)
   | (go_at_call 79;refine(U P _ (ac (U i) a)).mono ?_;rintro b X ⟨rfl,c⟩))
  go_ret;exact⟨rfl,ac (ac (U i) a) c⟩
 rw[Wb] at P VW;clear Wb;have VX:Hid (M=(!s.any (λV8=>decide (V8<0)) && decide s.Nodup && gX p.fn p.col p.n)):=by have:=U VW;show _=_;simpa using this
 clear VW;cases Q:s.any (λV8=>decide (V8<0))
 case true=>
  rw[Q] at VX;obtain rfl:M=false:=U VX;go_enter func82,ntmps82;go_upto_region 1 with fail;rw[<-U L]
  go_wp2_with (first
   | (go_at_call 78;refine(U j).mono ?_;rintro b Y ⟨rfl,g⟩;have l:=ac z g;have B:=((U e).aa (ac (ac (ac a c) f) g)).c4;simp only[aT] at B)
   | (go_at_call 78;refine(U O _ (U i)).mono ?_;rintro b V ⟨rfl,a⟩;have t:=((U e).aa a).c3;simp only[aT] at t)
   | (go_at_call 79;refine(U P _ (ac (U i) a)).mono ?_;rintro b X ⟨rfl,c⟩;have y:=((U e).aa (ac a c)).c4;simp only[aT] at y;have k:=ac (ac (U i) a) c)
   | (go_at_call 81;refine(U u _ k).mono ?_;rintro b C ⟨w,x,rfl,A,f⟩;have j:=VV (cw s w x C (by have:=U v;omega) A.ints);rw[Q] at j;have z:=ac k f))
  go_ret;exact⟨rfl,l⟩
 rw[Q] at VX;cases T:decide s.Nodup
 case false=>
  rw[T] at VX;obtain rfl:M=false:=U VX;go_enter func82,ntmps82;go_upto_region 1 with fail;rw[<-U L]
  go_wp2_with (first
   | (go_at_call 79;refine(U m).mono ?_;rintro b Z ⟨rfl,q⟩;have G:=ac F q;have d:=(U e).aa (ac (ac (ac (ac (ac a c) f) g) o) q);have r:=d.c6;have I:=d.c7;have J:=d.c8;simp only[aT] at r I J;clear d)
   | (go_at_call 78;refine(U j).mono ?_;rintro b Y ⟨rfl,g⟩;have l:=ac z g;have B:=((U e).aa (ac (ac (ac a c) f) g)).c4;simp only[aT] at B)
   | (go_at_call 78;refine(U O _ (U i)).mono ?_;rintro b V ⟨rfl,a⟩;have t:=((U e).aa a).c3;simp only[aT] at t)
   | (go_at_call 79;refine(U P _ (ac (U i) a)).mono ?_;rintro b X ⟨rfl,c⟩;have y:=((U e).aa (ac a c)).c4;simp only[aT] at y;have k:=ac (ac (U i) a) c)
   | (go_at_call 81;refine(U u _ l).mono ?_;rintro b K ⟨D,E,rfl,n,o⟩;have m:=VV (bw s D E K (by have:=U v;omega) n.ax n.ints);rw[T] at m;have F:=ac l o)
   | (go_at_call 81;refine(U u _ k).mono ?_;rintro b C ⟨w,x,rfl,A,f⟩;have j:=VV (cw s w x C (by have:=U v;omega) A.ints);rw[Q] at j;have z:=ac k f))
  go_ret;exact⟨rfl,G⟩
 rw[T] at VX;have R:Hid (M=gX p.fn p.col p.n):=by have:=U VX;show _=_;simpa using this
 clear VX;by_cases WA:p.col<0
 .obtain rfl:M=false:=by
   rw[U R];unfold gX
   have Wn:(p.col == 0)=false:=by simp;omega
   have Wo:decide (0<=p.col)=false:=decide_eq_false (by omega)
   rw[Wn,Wo]
   split
   .rfl
   .split
    .rfl
    .split<;>rfl
  go_enter func82,ntmps82
  go_upto_region 1 with fail
  rw[<-U L]
  go_wp2_with (first
   | (go_at_call 79;refine(U m).mono ?_;rintro b Z ⟨rfl,q⟩;have G:=ac F q;have d:=(U e).aa (ac (ac (ac (ac (ac a c) f) g) o) q);have r:=d.c6;have I:=d.c7;have J:=d.c8;simp only[aT] at r I J;clear d)
   | (go_at_call 78;refine(U j).mono ?_;rintro b Y ⟨rfl,g⟩;have l:=ac z g;have B:=((U e).aa (ac (ac (ac a c) f) g)).c4;simp only[aT] at B)
   | (go_at_call 78;refine(U O _ (U i)).mono ?_;rintro b V ⟨rfl,a⟩;have t:=((U e).aa a).c3;simp only[aT] at t)
   | (go_at_call 79;refine(U P _ (ac (U i) a)).mono ?_;rintro b X ⟨rfl,c⟩;have y:=((U e).aa (ac a c)).c4;simp only[aT] at y;have k:=ac (ac (U i) a) c)
   | (go_at_call 81;refine(U u _ l).mono ?_;rintro b K ⟨D,E,rfl,n,o⟩;have m:=VV (bw s D E K (by have:=U v;omega) n.ax n.ints);rw[T] at m;have F:=ac l o)
   | (go_at_call 81;refine(U u _ k).mono ?_;rintro b C ⟨w,x,rfl,A,f⟩;have j:=VV (cw s w x C (by have:=U v;omega) A.ints);rw[Q] at j;have z:=ac k f))
  go_ret
  exact⟨rfl,G⟩
 by_cases V0:p.fn=1
 .rw[V0] at R L;have S:Hid (M=(p.col == 0 && p.n == 0)):=U R;rw[V0];cases VZ:(p.col == 0)
  .rw[VZ] at S;obtain rfl:M=false:=U S;go_enter func82,ntmps82;go_upto_region 1 with fail;rw[<-U L]
   go_wp2_with (first
    | (go_at_call 79;refine(U m).mono ?_;rintro b Z ⟨rfl,q⟩;have G:=ac F q;have d:=(U e).aa (ac (ac (ac (ac (ac a c) f) g) o) q);have r:=d.c6;rw[V0] at r;have I:=d.c7;have J:=d.c8;simp only[aT] at r I J;clear d)
    | (go_at_call 78;refine(U j).mono ?_;rintro b Y ⟨rfl,g⟩;have l:=ac z g;have B:=((U e).aa (ac (ac (ac a c) f) g)).c4;simp only[aT] at B)
    | (go_at_call 78;refine(U O _ (U i)).mono ?_;rintro b V ⟨rfl,a⟩;have t:=((U e).aa a).c3;simp only[aT] at t)
    | (go_at_call 79;refine(U P _ (ac (U i) a)).mono ?_;rintro b X ⟨rfl,c⟩;have y:=((U e).aa (ac a c)).c4;simp only[aT] at y;have k:=ac (ac (U i) a) c)
    | (go_at_call 81;refine(U u _ l).mono ?_;rintro b K ⟨D,E,rfl,n,o⟩;have m:=VV (bw s D E K (by have:=U v;omega) n.ax n.ints);rw[T] at m;have F:=ac l o)
    | (go_at_call 81;refine(U u _ k).mono ?_;rintro b C ⟨w,x,rfl,A,f⟩;have j:=VV (cw s w x C (by have:=U v;omega) A.ints);rw[Q] at j;have z:=ac k f))
   go_ret;exact⟨rfl,G⟩
  .rw[VZ] at S;obtain rfl:M=(p.n == 0):=U S;go_enter func82,ntmps82;go_upto_region 1 with fail;rw[<-U L]
   go_wp2_with (first
    | (go_at_call 79;refine(U m).mono ?_;rintro b Z ⟨rfl,q⟩;have G:=ac F q;have d:=(U e).aa (ac (ac (ac (ac (ac a c) f) g) o) q);have r:=d.c6;rw[V0] at r;have I:=d.c7;have J:=d.c8;simp only[aT] at r I J;clear d)
    | (go_at_call 78;refine(U j).mono ?_;rintro b Y ⟨rfl,g⟩;have l:=ac z g;have B:=((U e).aa (ac (ac (ac a c) f) g)).c4;simp only[aT] at B)
    | (go_at_call 78;refine(U O _ (U i)).mono ?_;rintro b V ⟨rfl,a⟩;have t:=((U e).aa a).c3;simp only[aT] at t)
    | (go_at_call 79;refine(U P _ (ac (U i) a)).mono ?_;rintro b X ⟨rfl,c⟩;have y:=((U e).aa (ac a c)).c4;simp only[aT] at y;have k:=ac (ac (U i) a) c)
    | (go_at_call 81;refine(U u _ l).mono ?_;rintro b K ⟨D,E,rfl,n,o⟩;have m:=VV (bw s D E K (by have:=U v;omega) n.ax n.ints);rw[T] at m;have F:=ac l o)
    | (go_at_call 81;refine(U u _ k).mono ?_;rintro b C ⟨w,x,rfl,A,f⟩;have j:=VV (cw s w x C (by have:=U v;omega) A.ints);rw[Q] at j;have z:=ac k f))
   go_ret;exact⟨rfl,G⟩
 by_cases V1:p.fn=2
 .rw[V1] at R L;have S:Hid (M=(p.col == 0 && p.n == 0)):=U R;rw[V1];cases VZ:(p.col == 0)
  .rw[VZ] at S;obtain rfl:M=false:=U S;go_enter func82,ntmps82;go_upto_region 1 with fail;rw[<-U L]
   go_wp2_with (first
    | (go_at_call 79;refine(U m).mono ?_;rintro b Z ⟨rfl,q⟩;have G:=ac F q;have d:=(U e).aa (ac (ac (ac (ac (ac a c) f) g) o) q);have r:=d.c6;rw[V1] at r;have I:=d.c7;have J:=d.c8;simp only[aT] at r I J;clear d)
    | (go_at_call 78;refine(U j).mono ?_;rintro b Y ⟨rfl,g⟩;have l:=ac z g;have B:=((U e).aa (ac (ac (ac a c) f) g)).c4;simp only[aT] at B)
    | (go_at_call 78;refine(U O _ (U i)).mono ?_;rintro b V ⟨rfl,a⟩;have t:=((U e).aa a).c3;simp only[aT] at t)
    | (go_at_call 79;refine(U P _ (ac (U i) a)).mono ?_;rintro b X ⟨rfl,c⟩;have y:=((U e).aa (ac a c)).c4;simp only[aT] at y;have k:=ac (ac (U i) a) c)
    | (go_at_call 81;refine(U u _ l).mono ?_;rintro b K ⟨D,E,rfl,n,o⟩;have m:=VV (bw s D E K (by have:=U v;omega) n.ax n.ints);rw[T] at m;have F:=ac l o)
    | (go_at_call 81;refine(U u _ k).mono ?_;rintro b C ⟨w,x,rfl,A,f⟩;have j:=VV (cw s w x C (by have:=U v;omega) A.ints);rw[Q] at j;have z:=ac k f))
   go_ret;exact⟨rfl,G⟩
  .rw[VZ] at S;obtain rfl:M=(p.n == 0):=U S;go_enter func82,ntmps82;go_upto_region 1 with fail;rw[<-U L]
   go_wp2_with (first
    | (go_at_call 79;refine(U m).mono ?_;rintro b Z ⟨rfl,q⟩;have G:=ac F q;have d:=(U e).aa (ac (ac (ac (ac (ac a c) f) g) o) q);have r:=d.c6;rw[V1] at r;have I:=d.c7;have J:=d.c8;simp only[aT] at r I J;clear d)
    | (go_at_call 78;refine(U j).mono ?_;rintro b Y ⟨rfl,g⟩;have l:=ac z g;have B:=((U e).aa (ac (ac (ac a c) f) g)).c4;simp only[aT] at B)
    | (go_at_call 78;refine(U O _ (U i)).mono ?_;rintro b V ⟨rfl,a⟩;have t:=((U e).aa a).c3;simp only[aT] at t)
    | (go_at_call 79;refine(U P _ (ac (U i) a)).mono ?_;rintro b X ⟨rfl,c⟩;have y:=((U e).aa (ac a c)).c4;simp only[aT] at y;have k:=ac (ac (U i) a) c)
    | (go_at_call 81;refine(U u _ l).mono ?_;rintro b K ⟨D,E,rfl,n,o⟩;have m:=VV (bw s D E K (by have:=U v;omega) n.ax n.ints);rw[T] at m;have F:=ac l o)
    | (go_at_call 81;refine(U u _ k).mono ?_;rintro b C ⟨w,x,rfl,A,f⟩;have j:=VV (cw s w x C (by have:=U v;omega) A.ints);rw[Q] at j;have z:=ac k f))
   go_ret;exact⟨rfl,G⟩
 by_cases V2:p.fn=3
 .rw[V2] at R L;have S:Hid (M=(p.col == 0 && p.n == 0)):=U R;rw[V2];cases VZ:(p.col == 0)
  .rw[VZ] at S;obtain rfl:M=false:=U S;go_enter func82,ntmps82;go_upto_region 1 with fail;rw[<-U L]
   go_wp2_with (first
    | (go_at_call 79;refine(U m).mono ?_;rintro b Z ⟨rfl,q⟩;have G:=ac F q;have d:=(U e).aa (ac (ac (ac (ac (ac a c) f) g) o) q);have r:=d.c6;rw[V2] at r;have I:=d.c7;have J:=d.c8;simp only[aT] at r I J;clear d)
    | (go_at_call 78;refine(U j).mono ?_;rintro b Y ⟨rfl,g⟩;have l:=ac z g;have B:=((U e).aa (ac (ac (ac a c) f) g)).c4;simp only[aT] at B)
    | (go_at_call 78;refine(U O _ (U i)).mono ?_;rintro b V ⟨rfl,a⟩;have t:=((U e).aa a).c3;simp only[aT] at t)
    | (go_at_call 79;refine(U P _ (ac (U i) a)).mono ?_;rintro b X ⟨rfl,c⟩;have y:=((U e).aa (ac a c)).c4;simp only[aT] at y;have k:=ac (ac (U i) a) c)
    | (go_at_call 81;refine(U u _ l).mono ?_;rintro b K ⟨D,E,rfl,n,o⟩;have m:=VV (bw s D E K (by have:=U v;omega) n.ax n.ints);rw[T] at m;have F:=ac l o)
    | (go_at_call 81;refine(U u _ k).mono ?_;rintro b C ⟨w,x,rfl,A,f⟩;have j:=VV (cw s w x C (by have:=U v;omega) A.ints);rw[Q] at j;have z:=ac k f))
   go_ret;exact⟨rfl,G⟩
  .rw[VZ] at S;obtain rfl:M=(p.n == 0):=U S;go_enter func82,ntmps82;go_upto_region 1 with fail;rw[<-U L]
   go_wp2_with (first
    | (go_at_call 79;refine(U m).mono ?_;rintro b Z ⟨rfl,q⟩;have G:=ac F q;have d:=(U e).aa (ac (ac (ac (ac (ac a c) f) g) o) q);have r:=d.c6;rw[V2] at r;have I:=d.c7;have J:=d.c8;simp only[aT] at r I J;clear d)
    | (go_at_call 78;refine(U j).mono ?_;rintro b Y ⟨rfl,g⟩;have l:=ac z g;have B:=((U e).aa (ac (ac (ac a c) f) g)).c4;simp only[aT] at B)
    | (go_at_call 78;refine(U O _ (U i)).mono ?_;rintro b V ⟨rfl,a⟩;have t:=((U e).aa a).c3;simp only[aT] at t)
    | (go_at_call 79;refine(U P _ (ac (U i) a)).mono ?_;rintro b X ⟨rfl,c⟩;have y:=((U e).aa (ac a c)).c4;simp only[aT] at y;have k:=ac (ac (U i) a) c)
    | (go_at_call 81;refine(U u _ l).mono ?_;rintro b K ⟨D,E,rfl,n,o⟩;have m:=VV (bw s D E K (by have:=U v;omega) n.ax n.ints);rw[T] at m;have F:=ac l o)
    | (go_at_call 81;refine(U u _ k).mono ?_;rintro b C ⟨w,x,rfl,A,f⟩;have j:=VV (cw s w x C (by have:=U v;omega) A.ints);rw[Q] at j;have z:=ac k f))
   go_ret;exact⟨rfl,G⟩
 by_cases V3:p.fn=4
 .rw[V3] at R;obtain rfl:M=true:=by rw[U R];show decide (0<=p.col)=true;exact decide_eq_true (by omega)
  rw[V3] at L ⊢;go_enter func82,ntmps82;go_upto_region 1 with fail;rw[<-U L]
  go_wp2_with (first
   | (go_at_call 79;refine(U m).mono ?_;rintro b Z ⟨rfl,q⟩;have G:=ac F q;have d:=(U e).aa (ac (ac (ac (ac (ac a c) f) g) o) q);have r:=d.c6;rw[V3] at r;have I:=d.c7;have J:=d.c8;simp only[aT] at r I J;clear d)
   | (go_at_call 78;refine(U j).mono ?_;rintro b Y ⟨rfl,g⟩;have l:=ac z g;have B:=((U e).aa (ac (ac (ac a c) f) g)).c4;simp only[aT] at B)
   | (go_at_call 78;refine(U O _ (U i)).mono ?_;rintro b V ⟨rfl,a⟩;have t:=((U e).aa a).c3;simp only[aT] at t)
   | (go_at_call 79;refine(U P _ (ac (U i) a)).mono ?_;rintro b X ⟨rfl,c⟩;have y:=((U e).aa (ac a c)).c4;simp only[aT] at y;have k:=ac (ac (U i) a) c)
   | (go_at_call 81;refine(U u _ l).mono ?_;rintro b K ⟨D,E,rfl,n,o⟩;have m:=VV (bw s D E K (by have:=U v;omega) n.ax n.ints);rw[T] at m;have F:=ac l o)
   | (go_at_call 81;refine(U u _ k).mono ?_;rintro b C ⟨w,x,rfl,A,f⟩;have j:=VV (cw s w x C (by have:=U v;omega) A.ints);rw[Q] at j;have z:=ac k f))
  go_ret;exact⟨rfl,G⟩
 by_cases V4:p.fn=5
 .rw[V4] at R;obtain rfl:M=true:=by rw[U R];show decide (0<=p.col)=true;exact decide_eq_true (by omega)
  rw[V4] at L ⊢;go_enter func82,ntmps82;go_upto_region 1 with fail;rw[<-U L]
  go_wp2_with (first
   | (go_at_call 79;refine(U m).mono ?_;rintro b Z ⟨rfl,q⟩;have G:=ac F q;have d:=(U e).aa (ac (ac (ac (ac (ac a c) f) g) o) q);have r:=d.c6;rw[V4] at r;have I:=d.c7;have J:=d.c8;simp only[aT] at r I J;clear d)
   | (go_at_call 78;refine(U j).mono ?_;rintro b Y ⟨rfl,g⟩;have l:=ac z g;have B:=((U e).aa (ac (ac (ac a c) f) g)).c4;simp only[aT] at B)
   | (go_at_call 78;refine(U O _ (U i)).mono ?_;rintro b V ⟨rfl,a⟩;have t:=((U e).aa a).c3;simp only[aT] at t)
   | (go_at_call 79;refine(U P _ (ac (U i) a)).mono ?_;rintro b X ⟨rfl,c⟩;have y:=((U e).aa (ac a c)).c4;simp only[aT] at y;have k:=ac (ac (U i) a) c)
   | (go_at_call 81;refine(U u _ l).mono ?_;rintro b K ⟨D,E,rfl,n,o⟩;have m:=VV (bw s D E K (by have:=U v;omega) n.ax n.ints);rw[T] at m;have F:=ac l o)
   | (go_at_call 81;refine(U u _ k).mono ?_;rintro b C ⟨w,x,rfl,A,f⟩;have j:=VV (cw s w x C (by have:=U v;omega) A.ints);rw[Q] at j;have z:=ac k f))
  go_ret;exact⟨rfl,G⟩
 by_cases V5:p.fn=6
 .rw[V5] at R;obtain rfl:M=decide (0<=p.n):=by rw[U R];show (decide (0<=p.col) && decide (0<=p.n))=_;rw[decide_eq_true (by omega:0<=p.col)];rfl
  rw[V5] at L ⊢;go_enter func82,ntmps82;go_upto_region 1 with fail;rw[<-U L]
  go_wp2_with (first
   | (go_at_call 79;refine(U m).mono ?_;rintro b Z ⟨rfl,q⟩;have G:=ac F q;have d:=(U e).aa (ac (ac (ac (ac (ac a c) f) g) o) q);have r:=d.c6;rw[V5] at r;have I:=d.c7;have J:=d.c8;simp only[aT] at r I J;clear d)
   | (go_at_call 78;refine(U j).mono ?_;rintro b Y ⟨rfl,g⟩;have l:=ac z g;have B:=((U e).aa (ac (ac (ac a c) f) g)).c4;simp only[aT] at B)
   | (go_at_call 78;refine(U O _ (U i)).mono ?_;rintro b V ⟨rfl,a⟩;have t:=((U e).aa a).c3;simp only[aT] at t)
   | (go_at_call 79;refine(U P _ (ac (U i) a)).mono ?_;rintro b X ⟨rfl,c⟩;have y:=((U e).aa (ac a c)).c4;simp only[aT] at y;have k:=ac (ac (U i) a) c)
   | (go_at_call 81;refine(U u _ l).mono ?_;rintro b K ⟨D,E,rfl,n,o⟩;have m:=VV (bw s D E K (by have:=U v;omega) n.ax n.ints);rw[T] at m;have F:=ac l o)
   | (go_at_call 81;refine(U u _ k).mono ?_;rintro b C ⟨w,x,rfl,A,f⟩;have j:=VV (cw s w x C (by have:=U v;omega) A.ints);rw[Q] at j;have z:=ac k f))
  go_ret;exact⟨rfl,G⟩
 .have Wg:(p.fn == 1)=false:=by simpa using V0
  have Wh:(p.fn == 2)=false:=by simpa using V1
  have Wi:(p.fn == 3)=false:=by simpa using V2
  have Wj:(p.fn == 4)=false:=by simpa using V3
  have Wk:(p.fn == 5)=false:=by simpa using V4
  have Wl:(p.fn == 6)=false:=by simpa using V5
  obtain rfl:M=false:=by rw[U R];unfold gX;rw[Wg,Wh,Wi,Wj,Wk,Wl];rfl
  clear V0 V1 V2 V3 V4 V5;go_enter func82,ntmps82;go_upto_region 1 with fail;rw[<-U L]
  go_wp2_with (first
   | (go_at_call 79;refine(U m).mono ?_;rintro b Z ⟨rfl,q⟩;have G:=ac F q;have d:=(U e).aa (ac (ac (ac (ac (ac a c) f) g) o) q);have r:=d.c6;have I:=d.c7;have J:=d.c8;simp only[aT] at r I J;clear d)
   | (go_at_call 78;refine(U j).mono ?_;rintro b Y ⟨rfl,g⟩;have l:=ac z g;have B:=((U e).aa (ac (ac (ac a c) f) g)).c4;simp only[aT] at B)
   | (go_at_call 78;refine(U O _ (U i)).mono ?_;rintro b V ⟨rfl,a⟩;have t:=((U e).aa a).c3;simp only[aT] at t)
   | (go_at_call 79;refine(U P _ (ac (U i) a)).mono ?_;rintro b X ⟨rfl,c⟩;have y:=((U e).aa (ac a c)).c4;simp only[aT] at y;have k:=ac (ac (U i) a) c)
   | (go_at_call 81;refine(U u _ l).mono ?_;rintro b K ⟨D,E,rfl,n,o⟩;have m:=VV (bw s D E K (by have:=U v;omega) n.ax n.ints);rw[T] at m;have F:=ac l o)
   | (go_at_call 81;refine(U u _ k).mono ?_;rintro b C ⟨w,x,rfl,A,f⟩;have j:=VV (cw s w x C (by have:=U v;omega) A.ints);rw[Q] at j;have z:=ac k f))
  go_ret;exact⟨rfl,G⟩
def dz(p:Pl)(a c:Int)(g:ByteArray)(j k i:Nat)(d b e f:Int):Bool:=decide ((p.args.length:Int)=a) && decide ((p.ex.length:Int)=c) && decide (g=⟨#[]⟩) && decide (j=0) && decide (k=0) && decide (i=0) && decide (d=0) && decide (b=0) && decide (e=0) && decide (f=0)
theorem cN{p:Pl}(h:bg p=false):b7 p=false:=by unfold b7;rw[h,Bool.and_false];rfl
theorem ec{p:Pl}(h:bg p=true):b7 p=(cm p && ds p (hh p)):=by unfold b7;rw[h,Bool.and_true]
theorem ti{p:Pl}(h:p.op=1)(a:bg p=true):b7 p=dz p 0 0 ⟨#[]⟩ p.cols.length p.keys.length p.aggs.length p.fn p.col p.n p.off:=by rw[ec a];unfold cm ds hh dz iM eQ eD;simp only[Pl.tab,Pl.ex,Pl.cols,Pl.keys,Pl.aggs,Pl.fn,Pl.col,Pl.n,Pl.off,Pl.args,Pl.op] at h ⊢;rw[Bool.eq_iff_iff];cases p;simp only[Pl.tab,Pl.ex,Pl.cols,Pl.keys,Pl.aggs,Pl.fn,Pl.col,Pl.n,Pl.off,Pl.args,Pl.op] at h ⊢;subst h;simp;grind
theorem th{p:Pl}(h:p.op=2):b7 p=dz p 1 1 p.tab p.cols.length p.keys.length p.aggs.length p.fn p.col p.n p.off:=by
 have a:bg p=(p.ex.length == 1):=by unfold bg;rw[h];rfl
 unfold b7;rw[a];unfold cm ds hh dz iM eQ eD;simp only[Pl.tab,Pl.ex,Pl.cols,Pl.keys,Pl.aggs,Pl.fn,Pl.col,Pl.n,Pl.off,Pl.args,Pl.op] at h ⊢;rw[Bool.eq_iff_iff];cases p;simp only[Pl.tab,Pl.ex,Pl.cols,Pl.keys,Pl.aggs,Pl.fn,Pl.col,Pl.n,Pl.off,Pl.args,Pl.op] at h ⊢;subst h;simp;grind
theorem tg{p:Pl}(h:p.op=3)(a:bg p=true):b7 p=dz p 1 (p.ex.length:Int) p.tab p.cols.length p.keys.length p.aggs.length p.fn p.col p.n p.off:=by rw[ec a];clear a;unfold cm ds hh dz iM eQ eD;simp only[Pl.tab,Pl.ex,Pl.cols,Pl.keys,Pl.aggs,Pl.fn,Pl.col,Pl.n,Pl.off,Pl.args,Pl.op] at h ⊢;rw[Bool.eq_iff_iff];cases p;simp only[Pl.tab,Pl.ex,Pl.cols,Pl.keys,Pl.aggs,Pl.fn,Pl.col,Pl.n,Pl.off,Pl.args,Pl.op] at h ⊢;subst h;simp;grind
theorem tf{p:Pl}(h:p.op=4):b7 p=dz p 2 1 p.tab p.cols.length p.keys.length p.aggs.length p.fn p.col p.n p.off:=by
 have a:bg p=(p.ex.length == 1):=by unfold bg;rw[h];rfl
 unfold b7;rw[a];unfold cm ds hh dz iM eQ eD;simp only[Pl.tab,Pl.ex,Pl.cols,Pl.keys,Pl.aggs,Pl.fn,Pl.col,Pl.n,Pl.off,Pl.args,Pl.op] at h ⊢;rw[Bool.eq_iff_iff];cases p;simp only[Pl.tab,Pl.ex,Pl.cols,Pl.keys,Pl.aggs,Pl.fn,Pl.col,Pl.n,Pl.off,Pl.args,Pl.op] at h ⊢;subst h;simp;grind
theorem te{p:Pl}(h:p.op=5):b7 p=dz p 2 1 p.tab p.cols.length p.keys.length p.aggs.length p.fn p.col p.n p.off:=by
 have a:bg p=(p.ex.length == 1):=by unfold bg;rw[h];rfl
 unfold b7;rw[a];unfold cm ds hh dz iM eQ eD;simp only[Pl.tab,Pl.ex,Pl.cols,Pl.keys,Pl.aggs,Pl.fn,Pl.col,Pl.n,Pl.off,Pl.args,Pl.op] at h ⊢;rw[Bool.eq_iff_iff];cases p;simp only[Pl.tab,Pl.ex,Pl.cols,Pl.keys,Pl.aggs,Pl.fn,Pl.col,Pl.n,Pl.off,Pl.args,Pl.op] at h ⊢;subst h;simp;grind
theorem td{p:Pl}(h:p.op=6)(a:bg p=true):b7 p=dz p 1 0 p.tab 0 p.keys.length 0 p.fn p.col p.n p.off:=by rw[ec a];unfold cm ds hh dz iM eQ eD;simp only[Pl.tab,Pl.ex,Pl.cols,Pl.keys,Pl.aggs,Pl.fn,Pl.col,Pl.n,Pl.off,Pl.args,Pl.op] at h ⊢;rw[Bool.eq_iff_iff];cases p;simp only[Pl.tab,Pl.ex,Pl.cols,Pl.keys,Pl.aggs,Pl.fn,Pl.col,Pl.n,Pl.off,Pl.args,Pl.op] at h ⊢;subst h;simp;grind
theorem tc{p:Pl}(h:p.op=7)(a:bg p=true):b7 p=dz p 1 0 p.tab p.cols.length p.keys.length p.aggs.length p.fn p.col p.n p.off:=by rw[ec a];unfold cm ds hh dz iM eQ eD;simp only[Pl.tab,Pl.ex,Pl.cols,Pl.keys,Pl.aggs,Pl.fn,Pl.col,Pl.n,Pl.off,Pl.args,Pl.op] at h ⊢;rw[Bool.eq_iff_iff];cases p;simp only[Pl.tab,Pl.ex,Pl.cols,Pl.keys,Pl.aggs,Pl.fn,Pl.col,Pl.n,Pl.off,Pl.args,Pl.op] at h ⊢;subst h;simp;grind
theorem tb{p:Pl}(h:p.op=8)(a:bg p=true):b7 p=dz p (max 1 (p.args.length:Int)) 0 p.tab p.cols.length p.keys.length p.aggs.length p.fn p.col p.n p.off:=by rw[ec a];unfold cm ds hh dz iM eQ eD;simp only[Pl.tab,Pl.ex,Pl.cols,Pl.keys,Pl.aggs,Pl.fn,Pl.col,Pl.n,Pl.off,Pl.args,Pl.op] at h ⊢;rw[Bool.eq_iff_iff];cases p;simp only[Pl.tab,Pl.ex,Pl.cols,Pl.keys,Pl.aggs,Pl.fn,Pl.col,Pl.n,Pl.off,Pl.args,Pl.op] at h ⊢;subst h;simp;grind
theorem ta{p:Pl}(h:p.op=9)(a:bg p=true):b7 p=dz p 1 0 p.tab p.cols.length 0 p.aggs.length p.fn p.col 0 0:=by rw[ec a];unfold cm ds hh dz iM eQ eD;simp only[Pl.tab,Pl.ex,Pl.cols,Pl.keys,Pl.aggs,Pl.fn,Pl.col,Pl.n,Pl.off,Pl.args,Pl.op] at h ⊢;rw[Bool.eq_iff_iff];cases p;simp only[Pl.tab,Pl.ex,Pl.cols,Pl.keys,Pl.aggs,Pl.fn,Pl.col,Pl.n,Pl.off,Pl.args,Pl.op] at h ⊢;subst h;simp;grind
theorem sZ{p:Pl}(h:p.op=10)(a:bg p=true):b7 p=dz p 1 0 p.tab 0 0 p.aggs.length 0 0 0 p.off:=by rw[ec a];unfold cm ds hh dz iM eQ eD;simp only[Pl.tab,Pl.ex,Pl.cols,Pl.keys,Pl.aggs,Pl.fn,Pl.col,Pl.n,Pl.off,Pl.args,Pl.op] at h ⊢;rw[Bool.eq_iff_iff];cases p;simp only[Pl.tab,Pl.ex,Pl.cols,Pl.keys,Pl.aggs,Pl.fn,Pl.col,Pl.n,Pl.off,Pl.args,Pl.op] at h ⊢;subst h;simp;grind
theorem fin11{p:Pl}(h:p.op=11)(a:bg p=true):b7 p=dz p 2 0 p.tab p.cols.length p.keys.length p.aggs.length p.fn p.col p.n p.off:=by rw[ec a];unfold cm ds hh dz iM eQ eD;simp only[Pl.tab,Pl.ex,Pl.cols,Pl.keys,Pl.aggs,Pl.fn,Pl.col,Pl.n,Pl.off,Pl.args,Pl.op] at h ⊢;rw[Bool.eq_iff_iff];cases p;simp only[Pl.tab,Pl.ex,Pl.cols,Pl.keys,Pl.aggs,Pl.fn,Pl.col,Pl.n,Pl.off,Pl.args,Pl.op] at h ⊢;subst h;simp;grind
theorem sY{p:Pl}(h:p.op=12)(a:bg p=true):b7 p=dz p 0 0 p.tab 0 p.keys.length p.aggs.length p.fn p.col p.n p.off:=by rw[ec a];unfold cm ds hh dz iM eQ eD;simp only[Pl.tab,Pl.ex,Pl.cols,Pl.keys,Pl.aggs,Pl.fn,Pl.col,Pl.n,Pl.off,Pl.args,Pl.op] at h ⊢;rw[Bool.eq_iff_iff];cases p;simp only[Pl.tab,Pl.ex,Pl.cols,Pl.keys,Pl.aggs,Pl.fn,Pl.col,Pl.n,Pl.off,Pl.args,Pl.op] at h ⊢;subst h;simp;grind
structure ho(w:World)(b:Nat)(q:Pl)(m:Pm):Prop where
 e:dL w b 0 q m
 f1:w.frozen? ⟨b,1,none⟩=false
 f3:w.frozen? ⟨b,3,none⟩=false
 f4:w.frozen? ⟨b,4,none⟩=false
 f5:w.frozen? ⟨b,5,none⟩=false
 f6:w.frozen? ⟨b,6,none⟩=false
 f7:w.frozen? ⟨b,7,none⟩=false
 f8:w.frozen? ⟨b,8,none⟩=false
 f9:w.frozen? ⟨b,9,none⟩=false
theorem ho.new(c:World)(b:Pl)(a:Pm):ho (c.alloc (b.box a)) c.heap.size b a:=⟨dL.new c b a,by simp[go_sem],by simp[go_sem],by simp[go_sem],by simp[go_sem],by simp[go_sem],by simp[go_sem],by simp[go_sem],by simp[go_sem]⟩
theorem ho.aa(h:ho w n p g)(c:Bw w W):ho W n p g:=by obtain⟨d,a⟩:=jA c;have b:n<w.heap.size:=bY w _ h.e.c0;exact⟨h.e.aa c,by rw[a _ _ b];exact h.f1,by rw[a _ _ b];exact h.f3,by rw[a _ _ b];exact h.f4,by rw[a _ _ b];exact h.f5,by rw[a _ _ b];exact h.f6,by rw[a _ _ b];exact h.f7,by rw[a _ _ b];exact h.f8,by rw[a _ _ b];exact h.f9⟩
theorem dL.put{p:Pl}(h:dL w n 0 p g)(u:n≠m)(b:Value):dL (w.setCell ⟨m,j,none⟩ b) n 0 p g:=by have a:∀k,(w.setCell ⟨m,j,none⟩ b).cell? ⟨n,k,none⟩=w.cell? ⟨n,k,none⟩:=λk=>cZ _ _ _ _ _ _ (by simp[u]);obtain⟨c,d,f,i,l,o,q,r,s,t,e⟩:=h;exact⟨by rw[a];exact c,by rw[a];exact d,by rw[a];exact f,by rw[a];exact i,by rw[a];exact l,by rw[a];exact o,by rw[a];exact q,by rw[a];exact r,by rw[a];exact s,by rw[a];exact t,by rw[a];exact e⟩
theorem ho.put_tab(h:ho w n p g):ho (w.setCell ⟨n,1,none⟩ (.string ⟨#[]⟩)) n (.mk p.op ⟨#[]⟩ p.ex p.cols p.keys p.aggs p.fn p.col p.n p.off p.args) g:=by
 obtain⟨⟨c,b,e,f,i,j,k,l,m,o,d⟩,t,v,x,y,z,A,B,C⟩:=h;simp only[aT] at c b e f i j k l m o d;have r:∀a,a≠1->(w.setCell ⟨n,1,none⟩ (.string ⟨#[]⟩)).cell? ⟨n,a,none⟩=w.cell? ⟨n,a,none⟩:=λa q=>cZ _ _ _ _ _ _ (by simp[q]);have s:=dq (u:=(.string ⟨#[]⟩)) b;refine⟨⟨?_,?_,?_,?_,?_,?_,?_,?_,?_,?_,?_⟩,?_,?_,?_,?_,?_,?_,?_,?_⟩
 all_goals first
  | (try simp only [aT]
     rw [r _ (by decide)]
     assumption)
  | (rw[dD];assumption)
  | exact s
theorem ho.put_cols(h:ho w n p g):ho (w.setCell ⟨n,3,none⟩ (.slice none 0 0)) n (.mk p.op p.tab p.ex [] p.keys p.aggs p.fn p.col p.n p.off p.args) { g with aC:=none,cC:=0 }:=by
 obtain⟨⟨c,d,f,b,i,j,k,l,m,o,e⟩,t,v,x,y,z,A,B,C⟩:=h;simp only[aT] at c d f b i j k l m o e;have r:∀a,a≠3->(w.setCell ⟨n,3,none⟩ (.slice none 0 0)).cell? ⟨n,a,none⟩=w.cell? ⟨n,a,none⟩:=λa q=>cZ _ _ _ _ _ _ (by simp[q]);have s:=dq (u:=(.slice none 0 0)) b;refine⟨⟨?_,?_,?_,?_,?_,?_,?_,?_,?_,?_,?_⟩,?_,?_,?_,?_,?_,?_,?_,?_⟩
 all_goals first
  | (try simp only [aT]
     rw [r _ (by decide)]
     assumption)
  | (rw[dD];assumption)
  | exact s
theorem ho.put_keys(h:ho w n p g):ho (w.setCell ⟨n,4,none⟩ (.slice none 0 0)) n (.mk p.op p.tab p.ex p.cols [] p.aggs p.fn p.col p.n p.off p.args) { g with aK:=none,cK:=0 }:=by
 obtain⟨⟨c,d,f,i,b,j,k,l,m,o,e⟩,t,v,x,y,z,A,B,C⟩:=h;simp only[aT] at c d f i b j k l m o e;have r:∀a,a≠4->(w.setCell ⟨n,4,none⟩ (.slice none 0 0)).cell? ⟨n,a,none⟩=w.cell? ⟨n,a,none⟩:=λa q=>cZ _ _ _ _ _ _ (by simp[q]);have s:=dq (u:=(.slice none 0 0)) b;refine⟨⟨?_,?_,?_,?_,?_,?_,?_,?_,?_,?_,?_⟩,?_,?_,?_,?_,?_,?_,?_,?_⟩
 all_goals first
  | (try simp only [aT]
     rw [r _ (by decide)]
     assumption)
  | (rw[dD];assumption)
  | exact s
theorem ho.put_aggs(h:ho w n p g):ho (w.setCell ⟨n,5,none⟩ (.slice none 0 0)) n (.mk p.op p.tab p.ex p.cols p.keys [] p.fn p.col p.n p.off p.args) { g with aA:=none,cA:=0 }:=by
 obtain⟨⟨c,d,f,i,j,b,k,l,m,o,e⟩,t,v,x,y,z,A,B,C⟩:=h;simp only[aT] at c d f i j b k l m o e;have r:∀a,a≠5->(w.setCell ⟨n,5,none⟩ (.slice none 0 0)).cell? ⟨n,a,none⟩=w.cell? ⟨n,a,none⟩:=λa q=>cZ _ _ _ _ _ _ (by simp[q]);have s:=dq (u:=(.slice none 0 0)) b;refine⟨⟨?_,?_,?_,?_,?_,?_,?_,?_,?_,?_,?_⟩,?_,?_,?_,?_,?_,?_,?_,?_⟩
 all_goals first
  | (try simp only [aT]
     rw [r _ (by decide)]
     assumption)
  | (rw[dD];assumption)
  | exact s
theorem ho.put_fn(h:ho w n p g):ho (w.setCell ⟨n,6,none⟩ (.int .i64 0)) n (.mk p.op p.tab p.ex p.cols p.keys p.aggs 0 p.col p.n p.off p.args) g:=by
 obtain⟨⟨c,d,f,i,j,k,b,l,m,o,e⟩,t,v,x,y,z,A,B,C⟩:=h;simp only[aT] at c d f i j k b l m o e;have r:∀a,a≠6->(w.setCell ⟨n,6,none⟩ (.int .i64 0)).cell? ⟨n,a,none⟩=w.cell? ⟨n,a,none⟩:=λa q=>cZ _ _ _ _ _ _ (by simp[q]);have s:=dq (u:=(.int .i64 0)) b;refine⟨⟨?_,?_,?_,?_,?_,?_,?_,?_,?_,?_,?_⟩,?_,?_,?_,?_,?_,?_,?_,?_⟩
 all_goals first
  | (try simp only [aT]
     rw [r _ (by decide)]
     assumption)
  | (rw[dD];assumption)
  | exact s
theorem ho.put_col(h:ho w n p g):ho (w.setCell ⟨n,7,none⟩ (.int .i64 0)) n (.mk p.op p.tab p.ex p.cols p.keys p.aggs p.fn 0 p.n p.off p.args) g:=by
 obtain⟨⟨c,d,f,i,j,k,l,b,m,o,e⟩,t,v,x,y,z,A,B,C⟩:=h;simp only[aT] at c d f i j k l b m o e;have r:∀a,a≠7->(w.setCell ⟨n,7,none⟩ (.int .i64 0)).cell? ⟨n,a,none⟩=w.cell? ⟨n,a,none⟩:=λa q=>cZ _ _ _ _ _ _ (by simp[q]);have s:=dq (u:=(.int .i64 0)) b;refine⟨⟨?_,?_,?_,?_,?_,?_,?_,?_,?_,?_,?_⟩,?_,?_,?_,?_,?_,?_,?_,?_⟩
 all_goals first
  | (try simp only [aT]
     rw [r _ (by decide)]
     assumption)
  | (rw[dD];assumption)
  | exact s
theorem ho.put_n(h:ho w n p g):ho (w.setCell ⟨n,8,none⟩ (.int .i64 0)) n (.mk p.op p.tab p.ex p.cols p.keys p.aggs p.fn p.col 0 p.off p.args) g:=by
 obtain⟨⟨c,d,f,i,j,k,l,m,b,o,e⟩,t,v,x,y,z,A,B,C⟩:=h;simp only[aT] at c d f i j k l m b o e;have r:∀a,a≠8->(w.setCell ⟨n,8,none⟩ (.int .i64 0)).cell? ⟨n,a,none⟩=w.cell? ⟨n,a,none⟩:=λa q=>cZ _ _ _ _ _ _ (by simp[q]);have s:=dq (u:=(.int .i64 0)) b;refine⟨⟨?_,?_,?_,?_,?_,?_,?_,?_,?_,?_,?_⟩,?_,?_,?_,?_,?_,?_,?_,?_⟩
 all_goals first
  | (try simp only [aT]
     rw [r _ (by decide)]
     assumption)
  | (rw[dD];assumption)
  | exact s
theorem ho.put_off(h:ho w n p g):ho (w.setCell ⟨n,9,none⟩ (.int .i64 0)) n (.mk p.op p.tab p.ex p.cols p.keys p.aggs p.fn p.col p.n 0 p.args) g:=by
 obtain⟨⟨c,d,f,i,j,k,l,m,o,b,e⟩,t,v,x,y,z,A,B,C⟩:=h;simp only[aT] at c d f i j k l m o b e;have r:∀a,a≠9->(w.setCell ⟨n,9,none⟩ (.int .i64 0)).cell? ⟨n,a,none⟩=w.cell? ⟨n,a,none⟩:=λa q=>cZ _ _ _ _ _ _ (by simp[q]);have s:=dq (u:=(.int .i64 0)) b;refine⟨⟨?_,?_,?_,?_,?_,?_,?_,?_,?_,?_,?_⟩,?_,?_,?_,?_,?_,?_,?_,?_⟩
 all_goals first
  | (try simp only [aT]
     rw [r _ (by decide)]
     assumption)
  | (rw[dD];assumption)
  | exact s
theorem pZ(e:World)(b c:Int):bC (e.alloc (.cells #[.int .i64 b,.int .i64 c] 3)) (some ⟨e.heap.size,0,none⟩) [b,c]:=by
 refine .inr ⟨_,_,rfl,λd f a=>?_⟩;match d with
 | 0=>(obtain rfl:b=f:=by simpa using a);simp[go_sem]
 | 1=>(obtain rfl:c=f:=by simpa using a);simp[go_sem]
 | d+2=>simp at a
end Go.Proofs.YtabmgpillccfaaaGreatDoor
