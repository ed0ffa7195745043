import Derived.Test.YtabmgpillccfaaaGreatDoorCellB
import Derived.Deep.DeepCutAuto
import Derived.Deep.DrawnRows
import Derived.Lib.Bytealg
set_option linter.all false
set_option maxHeartbeats 2000000
set_option maxRecDepth 100000
namespace Go.Proofs.YtabmgpillccfaaaGreatDoor
open Go.RowKit Go.Sort Go.Proofs.Tryz
def bv(a:dt):dt:=if a.k == 1 then .num a.n else if a.k == 2 then .str a.s else .null
theorem p7(a:ByteArray)(b:World):Calls prog 186 #[.string a] b λc d=>c=.returned (dt.str a).v/\Bw b d:=by unfold dt.v dt.str;go_enter func186,ntmps186;go_wp2;exact aM (v:=.agg #[.int .i64 2,.int .i64 0,.string a]) (by simp[results,results186,go_sem]) rfl ⟨rfl,aN.alloc aV _⟩
theorem qf(a:Int)(b:World):Calls prog 144 #[.int .i64 a] b λc d=>c=.returned (dt.num a).v/\Bw b d:=by unfold dt.v dt.num;go_enter func144,ntmps144;go_wp2;exact aM (v:=.agg #[.int .i64 1,.int .i64 a,.string ⟨#[]⟩]) (by simp[results,results144,go_sem]) rfl ⟨rfl,aN.alloc aV _⟩
theorem qd(a:ByteArray)(b:World):Calls prog 143 #[.string a] b λc d=>c=.returned (dt.str a).v/\Bw b d:=by unfold dt.v dt.str;go_enter func143,ntmps143;go_wp2;exact aM (v:=.agg #[.int .i64 2,.int .i64 0,.string a]) (by simp[results,results143,go_sem]) rfl ⟨rfl,aN.alloc aV _⟩
theorem qu(a:World):Calls prog 166 #[] a λb c=>b=.returned dt.null.v/\Bw a c:=by unfold dt.v dt.null;go_enter func166,ntmps166;go_wp2;exact aM (v:=.agg #[.int .i64 0,.int .i64 0,.string ⟨#[]⟩]) (by simp[results,results166,go_sem]) rfl ⟨rfl,aN.alloc aV _⟩
theorem kx(a:dt)(j:World):Calls prog 158 #[a.v] j λd k=>d=.returned (bv a).v/\Bw j k:=by
 rw[a.open_];rcases kC (a.k == 1) with c|c;·(have b:bv a=.num a.n:=by simp[bv,c]);rw[b];clear b;go_enter func158,ntmps158;go_wp2_with (go_at_call 185;refine(ni _ _).mono ?_;rintro d l ⟨rfl,e⟩;obtain⟨f,g⟩:=jA e;rw[dt.open_]);refine aM (v:=(dt.num a.n).v) (by simp[results,results158,go_sem,dt.v,dt.num,f,g]) rfl ⟨rfl,?_⟩;(repeat (first|exact aN|refine Below.alloc ?_ (by simp<;>omega) _|refine Below.setCell ?_ (by simp<;>omega) _|refine Below.trans ?_ (Below.mono (by assumption) (by first|omega | (simp;omega)))))
 .rcases kC (a.k == 2) with i|i;(·(have b:bv a=.str a.s:=by simp[bv,c,i]);rw[b];clear b;go_enter func158,ntmps158;go_wp2_with (go_at_call 186;refine(p7 _ _).mono ?_;rintro d l ⟨rfl,e⟩;obtain⟨f,g⟩:=jA e;rw[dt.open_]);refine aM (v:=(dt.str a.s).v) (by simp[results,results158,go_sem,dt.v,dt.str,f,g]) rfl ⟨rfl,?_⟩;(repeat (first|exact aN|refine Below.alloc ?_ (by simp<;>omega) _|refine Below.setCell ?_ (by simp<;>omega) _|refine Below.trans ?_ (Below.mono (by assumption) (by first|omega | (simp;omega))))));·(have b:bv a=.null:=by simp[bv,c,i]);rw[b];clear b;go_enter func158,ntmps158;go_wp2;refine aM (v:=dt.null.v) (by simp[results,results158,go_sem,dt.v,dt.null]) rfl ⟨rfl,?_⟩;(repeat (first|exact aN|refine Below.alloc ?_ (by simp<;>omega) _|refine Below.setCell ?_ (by simp<;>omega) _))
theorem i6(a:dt)(j:World):Calls prog 127 #[a.v] j λf l=>f=.returned (bv a).v/\Bw j l:=by
 rw[a.open_];rcases kC (a.k == 1) with g|g;·(have b:bv a=.num a.n:=by simp[bv,g]);rw[b];clear b;go_enter func127,ntmps127;go_wp2_with (go_at_call 144;refine(qf _ _).mono ?_;rintro f k ⟨rfl,c⟩;obtain⟨d,e⟩:=jA c;rw[dt.open_]);refine aM (v:=(dt.num a.n).v) (by simp[results,results127,go_sem,dt.v,dt.num,d,e]) rfl ⟨rfl,?_⟩;(repeat (first|exact aN|refine Below.alloc ?_ (by simp<;>omega) _|refine Below.setCell ?_ (by simp<;>omega) _|refine Below.trans ?_ (Below.mono (by assumption) (by first|omega | (simp;omega)))))
 .rcases kC (a.k == 2) with i|i;(·(have b:bv a=.str a.s:=by simp[bv,g,i]);rw[b];clear b;go_enter func127,ntmps127;go_wp2_with (go_at_call 143;refine(qd _ _).mono ?_;rintro f k ⟨rfl,c⟩;obtain⟨d,e⟩:=jA c;rw[dt.open_]);refine aM (v:=(dt.str a.s).v) (by simp[results,results127,go_sem,dt.v,dt.str,d,e]) rfl ⟨rfl,?_⟩;(repeat (first|exact aN|refine Below.alloc ?_ (by simp<;>omega) _|refine Below.setCell ?_ (by simp<;>omega) _|refine Below.trans ?_ (Below.mono (by assumption) (by first|omega | (simp;omega))))));·(have b:bv a=.null:=by simp[bv,g,i]);rw[b];clear b;go_enter func127,ntmps127;go_wp2_with (go_at_call 166;refine(qu _).mono ?_;rintro f k ⟨rfl,c⟩;obtain⟨d,e⟩:=jA c;rw[dt.open_]);refine aM (v:=dt.null.v) (by simp[results,results127,go_sem,dt.v,dt.null,d,e]) rfl ⟨rfl,?_⟩;(repeat (first|exact aN|refine Below.alloc ?_ (by simp<;>omega) _|refine Below.setCell ?_ (by simp<;>omega) _|refine Below.trans ?_ (Below.mono (by assumption) (by first|omega | (simp;omega)))))
attribute [local go_sem ↓] Go.wp_at_zero Go.wp_at_succ
section
variable{W X w:World}{m n:Nat}{v:Value}{a:Option Addr}{C:List Int}{I:Int}
theorem ac(h:Bw w W)(a:Bw W X):Bw w X:=h.trans (a.mono h.size)
theorem ae(h:Bw w W)(a:Obj):Bw w (W.alloc a):=h.alloc h.size a
theorem nF(a:dt):(bv a).s.size<=a.s.size:=by
 unfold bv;split;.show (⟨#[]⟩:ByteArray).size<=_;exact bf
 .split;(.exact aV);.show (⟨#[]⟩:ByteArray).size<=_;exact bf
inductive Ex where
 | mk (op n:Int) (v:dt) (args:List Ex)
def Ex.op:Ex->Int | .mk a _ _ _=>a
end
def Ex.n:Ex->Int | .mk _ a _ _=>a
def Ex.v:Ex->dt | .mk _ _ a _=>a
def Ex.args:Ex->List Ex | .mk _ _ _ a=>a
mutual
def Ex.size:Ex->Nat
 | .mk _ _ _ a=>Ex.sizes a+1
def Ex.sizes:List Ex->Nat
 | []=>0
 | a::b=>a.size+Ex.sizes b
end
theorem Ex.am(a:Ex):a.size=Ex.sizes a.args+1:=by cases a;rw[Ex.size];rfl
theorem Ex.an:∀{b:List Ex} {a:Ex},a∈b->a.size<=Ex.sizes b
 | [],_,h=>by cases h
 | c::b,a,h=>by rw[Ex.sizes];rcases dm h with rfl|h;(.omega);.have:=Ex.an h;omega
section
variable{E e:Ex}{m n:Nat}{W X w:World}{v:Value}{a:Option Addr}{C:List Int}{I:Int}
theorem Ex.av(h:e.args[n]?=some E):E.size<e.size:=by have:=Ex.an (a8 h);rw[Ex.am e];omega
def Ex.val(a:Ex)(b:Option Addr)(c:Nat):Value:=.agg #[.int .i64 a.op,.int .i64 a.n,.int .i64 a.v.k,.int .i64 a.v.n,.string a.v.s,.slice b a.args.length c]
theorem Ex.ad(a:Ex)(b:Option Addr)(c:Nat):a.val b c=.agg #[.int .i64 a.op,.int .i64 a.n,.int .i64 a.v.k,.int .i64 a.v.n,.string a.v.s,.slice b a.args.length c]:=rfl
mutual
def Ex.at(a:World)(b c:Nat):Ex->Prop
 | .mk j i d f=>∃e g,(a.cell? ⟨b,c,none⟩=some (.int .i64 j)/\a.cell? ⟨b,c+1,none⟩=some (.int .i64 i)/\a.cell? ⟨b,c+2,none⟩=some (.int .i64 d.k)/\a.cell? ⟨b,c+3,none⟩=some (.int .i64 d.n)/\a.cell? ⟨b,c+4,none⟩=some (.string d.s)/\a.cell? ⟨b,c+5,none⟩=some (.slice e f.length g))/\Ex.all a e f
def Ex.all(c:World)(d:Option Addr):List Ex->Prop
 | []=>True
 | e::f=>∃a b,d=some ⟨a,b,none⟩/\Ex.at c a b e/\(Ex.all c (some ⟨a,b+6,none⟩) f)
end
theorem aG(h:w.cell? ⟨n,m,none⟩=some v)(a:Bw w W):W.cell? ⟨n,m,none⟩=some v:=by rw[(jA a).1 n m (bY _ _ h)];exact h
mutual
theorem Ex.az:∀(f:Ex) {b e:World} {c d:Nat},Ex.at b c d f->Bw b e->Ex.at e c d f
 | .mk s r t q,b,e,c,d,h,a=>by rw[Ex.at] at h ⊢;obtain⟨g,i,⟨j,k,l,m,n,o⟩,p⟩:=h;exact⟨g,i,⟨aG j a,aG k a,aG l a,aG m a,aG n a,aG o a⟩,Ex.ab q p a⟩
theorem Ex.ab:∀(c:List Ex) {a d:World} {b:Option Addr},Ex.all a b c->Bw a d->Ex.all d b c
 | [],a,d,b,h,e=>by rw[Ex.all];trivial
 | g::c,a,d,b,h,e=>by rw[Ex.all] at h ⊢;obtain⟨f,l,i,j,k⟩:=h;exact⟨f,l,i,Ex.az g j e,Ex.ab c k e⟩
end
theorem Ex.all_get{k:World}:∀{g:List Ex} {i:Option Addr} {d:Nat} {e:Ex},Ex.all k i g->g[d]?=some e->∃b a,i=some ⟨b,a,none⟩/\Ex.at k b (a+d*6) e
 | [],_,_,_,_,c=>by simp at c
 | p::g,i,0,e,h,c=>by rw[Ex.all] at h;obtain⟨b,a,j,n,_⟩:=h;simp at c;subst c;exact⟨b,a,j,by simpa using n⟩
 | p::g,i,d+1,e,h,c=>by rw[Ex.all] at h;obtain⟨b,a,j,_,o⟩:=h;obtain⟨q,r,f,l⟩:=Ex.all_get o (by simpa using c:g[d]?=some e);injection f with f;injection f with f m;subst f m;refine⟨b,a,j,?_⟩;rw[show a+(d+1)*6=a+6+d*6 by omega];exact l
theorem Ex.ao(h:e.at w n m):∃a b,(w.cell? ⟨n,m,none⟩=some (.int .i64 e.op)/\w.cell? ⟨n,m+1,none⟩=some (.int .i64 e.n)/\w.cell? ⟨n,m+2,none⟩=some (.int .i64 e.v.k)/\w.cell? ⟨n,m+3,none⟩=some (.int .i64 e.v.n)/\w.cell? ⟨n,m+4,none⟩=some (.string e.v.s)/\w.cell? ⟨n,m+5,none⟩=some (.slice a e.args.length b))/\Ex.all w a e.args:=by
 cases e with
 | mk f d g c=>rw[Ex.at] at h;exact h
abbrev Ex.box (a:Ex) (b:Option Addr) (c:Nat):Obj:=.cells #[.int .i64 a.op,.int .i64 a.n,.int .i64 a.v.k,.int .i64 a.v.n,.string a.v.s,.slice b a.args.length c] 72
def mz(c:World)(a:Nat)(b:Ex)(d:Option Addr)(e:Nat):Prop:=c.cell? ⟨a,0,none⟩=some (.int .i64 b.op)/\c.cell? ⟨a,1,none⟩=some (.int .i64 b.n)/\c.cell? ⟨a,2,none⟩=some (.int .i64 b.v.k)/\c.cell? ⟨a,3,none⟩=some (.int .i64 b.v.n)/\c.cell? ⟨a,4,none⟩=some (.string b.v.s)/\c.cell? ⟨a,5,none⟩=some (.slice d b.args.length e)
theorem mz.aa(h:mz w n e a m)(b:Bw w W):mz W n e a m:=
 ⟨aG h.1 b,aG h.2.1 b,aG h.2.2.1 b,aG h.2.2.2.1 b,aG h.2.2.2.2.1 b,aG h.2.2.2.2.2 b⟩
theorem mz.new(d:World)(c:Ex)(a:Option Addr)(b:Nat):mz (d.alloc (c.box a b)) d.heap.size c a b:=⟨by simp[go_sem],by simp[go_sem],by simp[go_sem],by simp[go_sem],by simp[go_sem],by simp[go_sem]⟩
def fD(a:Int):Int:=if a == 1 then 0 else if a == 2 then 0 else if decide (3<=a) && decide (a<=6) then 1 else if decide (7<=a) && decide (a<=20) then 2 else if a == 21 then 3 else -1
def bd(a:Ex):Bool:=((a.args.length:Int) == fD a.op) && (if a.op == 1 then decide (0<=a.n) else if a.op == 2 then decide ((bv a.v).s.size<=1000) else true)
theorem iy(a:Int)(n:World):Calls prog 138 #[.int .i64 a] n λb s=>b=.returned (.int .i64 (fD a))/\s=n:=by
 by_cases d:a=1;.subst d;go_enter func138,ntmps138;go_wp2;go_ret;exact⟨rfl,rfl⟩
 by_cases e:a=2;.subst e;go_enter func138,ntmps138;go_wp2;go_ret;exact⟨rfl,rfl⟩
 have f:(a == 1)=false:=by simpa using d
 have g:(a == 2)=false:=by simpa using e
 by_cases c:3<=a/\a<=6;.obtain⟨c,k⟩:=c;(have b:fD a=1:=by simp[fD,f,g,c,k]);rw[b];clear d e b;go_enter func138,ntmps138;go_wp2;go_ret;exact⟨rfl,rfl⟩
 by_cases m:7<=a/\a<=20;.obtain⟨j,l⟩:=m;(have b:fD a=2:=by(have:¬a<=6:=by omega);simp[fD,f,g,j,l,this]);rw[b];(have t:3<=a:=by omega);(have u:¬a<=6:=by omega);clear d e b c;go_enter func138,ntmps138;go_wp2;go_ret;exact⟨rfl,rfl⟩
 by_cases i:a=21;.subst i;go_enter func138,ntmps138;go_wp2;go_ret;exact⟨rfl,rfl⟩
 have o:(a == 21)=false:=by simpa using i
 have b:fD a=-1:=by unfold fD;rw[f,g,o];(have p:(decide (3<=a) && decide (a<=6))=false:=by simp;omega);(have q:(decide (7<=a) && decide (a<=20))=false:=by simp;omega);rw[p,q];rfl
 rw[b];have r:(¬3<=a)∨(3<=a/\¬a<=6/\7<=a/\¬a<=20):=by omega
 clear d e i b c m;rcases r with c|⟨c,k,j,l⟩;·(have j:¬7<=a:=by omega);go_enter func138,ntmps138;go_wp2;go_ret;exact⟨rfl,rfl⟩
 .go_enter func138,ntmps138;go_wp2;go_ret;exact⟨rfl,rfl⟩
theorem qO(c d:Int)(b:ByteArray)(a:World):(Instr.field 70 (.agg #[.int .i64 c,.int .i64 d,.string b]) 2).run prog a=.ok (.string b) a:=by kernel_rfl
theorem rZ(a:Int)(b:World):Calls prog 138 #[.int .i64 a] b λc d=>c=.returned (.int .i64 (fD a))/\∃g,d=b.drewN g:=
 (iy a b).mono λc d ⟨e,f⟩=>⟨e,0,by rw[f];rfl⟩
theorem oH(a:Ex)(f:Option Addr)(g:Nat)(d:World)(O:a.args.length<=140737488355328)(P:a.v.s.size<=140737488355328):Calls prog 149 #[a.val f g] d λe i=>e=.returned (.bool (bd a))/\Bw d i:=by
 rw[Ex.ad];have A:=VV (rZ a.op);obtain⟨cv,r⟩:=al (bv a.v);have t:Hid (∀b,Calls prog 158 #[a.v.v] b λe i=>e=.returned cv.v/\Bw b i):=λb=>by rw[r];exact kx a.v b
 have x:bd a=(((a.args.length:Int) == fD a.op) && (if a.op == 1 then decide (0<=a.n) else if a.op == 2 then decide (cv.s.size<=1000) else true)):=by rw[r];rfl
 rw[x];clear x;obtain⟨k,q⟩:=al (fD a.op);have B:Hid (∀b,Calls prog 138 #[.int .i64 a.op] b λe i=>e=.returned (.int .i64 k)/\i=b):=λb=>by rw[q];exact iy a.op b
 rw[<-q];obtain⟨M,p⟩:=al (((a.args.length:Int) == k) && (if a.op == 1 then decide (0<=a.n) else if a.op == 2 then decide (cv.s.size<=1000) else true));rw[<-p];have c:=VV p;clear p;have l:Hid (mz (d.alloc (.cells #[.int .i64 a.op,.int .i64 a.n,.int .i64 a.v.k,.int .i64 a.v.n,.string a.v.s,.slice f a.args.length g] 72)) d.heap.size a f g):=mz.new d a f g;have s:=VV (ae (ar _ d) (.cells #[.int .i64 a.op,.int .i64 a.n,.int .i64 a.v.k,.int .i64 a.v.n,.string a.v.s,.slice f a.args.length g] 72));clear A q r;go_enter func149,ntmps149;go_upto_region 1 with fail;obtain⟨z,y⟩:=al (d.alloc (.cells #[.int .i64 a.op,.int .i64 a.n,.int .i64 a.v.k,.int .i64 a.v.n,.string a.v.s,.slice f a.args.length g] 72));rw[<-y] at l s ⊢;clear y;obtain⟨C,D,E,F,G,I⟩:=U l;obtain⟨m,v⟩:=bq ((a.args.length:Int) != k);go_cut[9] (λK L=>K=.bool m/\Bw z L);case first=>go_region_with (go_at_call 138;refine(U B _).mono ?_;rintro e R ⟨rfl,rfl⟩);all_goals go_wp2;go_meet;exact⟨rfl,aN.drew⟩
 case rest=>
  obtain⟨rfl,u⟩:=hcut
  rename World=>w1
  obtain⟨C,D,E,F,G,I⟩:=(U l).aa u
  have j:=VV (ac (U s) u)
  have w:((a.args.length:Int) == k)=!m:=by rw[<-v];simp[bne]
  rw[w] at c
  clear w v
  cases m with
  | true=>
   go_wp2
   go_ret
   exact⟨by rw[U c];rfl,U j⟩
  | false=>
   rcases kC (a.op == 1) with n|n
   .rw[n] at c
    go_wp2
    go_ret
    exact⟨by rw[U c];simp,U j⟩
   .rw[n] at c
    rcases kC (a.op == 2) with o|o
    .rw[o] at c
     rw[dt.open_] at t
     have N:=qO
     go_wp2_with (go_at_call 158;refine(U t _).mono ?_;rintro e Q ⟨rfl,J⟩;rw[dt.open_])
     go_ret
     exact⟨by rw[U c];simp;omega,ac (U j) J⟩
    .rw[o] at c
     go_wp2
     go_ret
     exact⟨by rw[U c];simp,U j⟩
mutual
def ct(p:Ex->Bool):Ex->Int->Int->Int×Int×Bool
 | .mk f e g c,b,a=>if decide (b<1) || decide (a<1) || !p (.mk f e g c) then (0,0,false) else match cj p c b a 1 0 with
  | some (d,h)=>(d,h+1,true)
  | none=>(0,0,false)
def cj(p:Ex->Bool):List Ex->Int->Int->Int->Int->Option (Int×Int)
 | [],_,_,a,h=>some (a,h)
 | d::e,c,b,a,h=>if (ct p d (c-a) (b-1)).2.2 then cj p e c b (a+(ct p d (c-a) (b-1)).1) (max h (ct p d (c-a) (b-1)).2.1) else none
end
mutual
theorem gU(p:Ex->Bool):∀(j:Ex) (c b:Int) {d h:Int},ct p j c b=(d,h,true)->1<=d/\d<=c/\1<=h/\h<=b
 | .mk n m o g,c,b,d,h,a=>by
  rw[ct] at a;split at a;.injection a with _ a;injection a with _ a;cases a
  .rename_i k
   simp only[Bool.or_eq_true,eK,not_or] at k
   cases e:cj p g c b 1 0 with
   | none=>rw[e] at a;simp only at a;injection a with _ a;injection a with _ a;cases a
   | some i=>
    rw[e] at a
    simp only at a
    injection a with l f
    injection f with f _
    have:=l3 p g c b 1 0 (c':=i.1) (h':=i.2) (by omega) (by omega) (by omega) (by omega) e
    omega
theorem l3(p:Ex->Bool):∀(i:List Ex) (d c b h:Int) {c' h':Int},1<=b->b<=d->0<=h->h<=c-1->cj p i d c b h=some (c',h')->b<=c'/\c'<=d/\h<=h'/\h'<=c-1
 | [],d,c,b,h,c',h',l,f,n,o,a=>by rw[cj] at a;injection a with a;injection a with q r;omega
 | j::i,d,c,b,h,c',h',l,f,n,o,a=>by rw[cj] at a;split at a;(.rename_i g;obtain⟨e,m,ok,k⟩:∃e f ok,ct p j (d-b) (c-1)=(e,f,ok):=⟨_,_,_,rfl⟩;rw[k] at a g;simp only at a g;subst g;have s:=gU p j (d-b) (c-1) k;have:=l3 p i d c (b+e) (max h m) (by omega) (by omega) (by omega) (by omega) a;omega);.cases a
end
theorem l5(p:Ex->Bool)(a:Ex)(c b:Int):ct p a c b=if decide (c<1) || decide (b<1) || !p a then (0,0,false) else match cj p a.args c b 1 0 with
  | some (d,h)=>(d,h+1,true)
  | none=>(0,0,false):=by cases a;rw[ct];rfl
def b0(a:Ex):Bool:=(ct bd a 400 40).2.2
mutual
def Ex.fin:Ex->Prop
 | .mk d c b a=>(a.length<=140737488355328/\b.s.size<=140737488355328/\b2 b.n/\b2 c)/\Ex.ah a
def Ex.ah:List Ex->Prop
 | []=>True
 | a::b=>a.fin/\Ex.ah b
end
theorem Ex.af(h:e.fin):(e.args.length<=140737488355328/\e.v.s.size<=140737488355328/\b2 e.v.n/\b2 e.n)/\Ex.ah e.args:=by
 cases e with
 | mk c b d a=>rw[Ex.fin] at h;exact h
theorem Ex.ag:∀{b:List Ex} {c:Ex},Ex.ah b->c∈b->c.fin
 | [],_,_,h=>by cases h
 | d::b,c,a,h=>by rw[Ex.ah] at a;rcases dm h with rfl|h;(.exact a.1);.exact Ex.ag a.2 h
theorem Ex.ay(h:e.fin)(a:e.args[n]?=some E):E.fin:=Ex.ag (Ex.af h).2 (a8 a)
theorem dy{a:Obj}(h:Below (w.alloc a).heap.size (w.alloc a) W):Bw w W:=ac (ae aN a) h
theorem qw(a b:Int):(if a<b then b else a)=max a b:=by
 by_cases h:a<b;.rw[aR h];omega
 .rw[aL h];omega
abbrev M3 (a:Int×Int×Bool):Ending:=.returned (.tuple #[.int .i64 a.1,.int .i64 a.2.1,.bool a.2.2])
theorem jP(a:Ex)(V5:a.fin)(d c:Int)(n:Option Addr)(g:Nat)(l:World)(Wz:0<=d)(Wy:d<=40000000)(Wx:0<=c)(Ww:c<=200000)(W:Ex.all l n a.args) (S:∀(w:Nat) (b:Ex),a.args[w]?=some b->∀(A y:Int) (q:Option Addr) (s:Nat) (p:World),0<=A->A<=40000000->0<=y->y<=200000->Ex.all p q b.args->Calls prog 148 #[b.val q s,.int .i64 A,.int .i64 y,.func (.func 149) #[] #[]] p λx P=>x=M3 (ct bd b A y)/\Bw p P):Calls prog 148 #[a.val n g,.int .i64 d,.int .i64 c,.func (.func 149) #[] #[]] l λx P=>x=M3 (ct bd a d c)/\Bw l P:=by
 obtain⟨⟨V6,V8,_,_⟩,_⟩:=Ex.af V5;have r:=VV (λp=>oH a n g p V6 V8);obtain⟨B,J⟩:=al (ct bd a d c)
 have m:Hid (B=if decide (d<1) || decide (c<1) || !bd a then (0,0,false) else match cj bd a.args d c 1 0 with
  | some (g,h)=>(g,h+1,true)
  | none=>(0,0,false)):=by rw[J];exact l5 bd a d c
 rw[<-J];have VW:Hid (mz (l.alloc (.cells #[.int .i64 a.op,.int .i64 a.n,.int .i64 a.v.k,.int .i64 a.v.n,.string a.v.s,.slice n a.args.length g] 72)) l.heap.size a n g):=mz.new l a n g;have D:=VV (ae (ar _ l) (.cells #[.int .i64 a.op,.int .i64 a.n,.int .i64 a.v.k,.int .i64 a.v.n,.string a.v.s,.slice n a.args.length g] 72));have V0:=VV S;have VX:=VV W;rw[Ex.ad] at r ⊢;clear J W S;by_cases o:d<1;.go_enter func148,ntmps148;go_wp2;refine aM (v:=.tuple #[.int .i64 0,.int .i64 0,.bool false]) (by simp[results,results148,go_sem]) rfl ⟨by rw[U m];simp[o],U D⟩
 by_cases k:c<1;.go_enter func148,ntmps148;go_wp2;refine aM (v:=.tuple #[.int .i64 0,.int .i64 0,.bool false]) (by simp[results,results148,go_sem]) rfl ⟨by rw[U m];simp[k],U D⟩
 obtain⟨We,M⟩:=al (bd a);rw[<-M] at r m;have N:decide (d<1)=false:=by simpa using o
 have O:decide (c<1)=false:=by simpa using k
 rw[N,O] at m;cases We with
 | false=>clear M N O;go_enter func148,ntmps148;go_wp2_with (go_at_call 149;refine(U r _).mono ?_;rintro V2 Q ⟨rfl,u⟩);refine aM (v:=.tuple #[.int .i64 0,.int .i64 0,.bool false]) (by simp[results,results148,go_sem]) rfl ⟨by rw[U m];rfl,dy u⟩
 | true=>
  clear M N O
  have I:Hid (B=match cj bd a.args d c 1 0 with
   | some (g,h)=>(g,h+1,true)
   | none=>(0,0,false)):=by have:=U m;show _=_;simpa using this
  clear m;go_enter func148,ntmps148;go_wp2_with (go_at_call 149;refine(U r _).mono ?_;rintro V2 Q ⟨rfl,u⟩;obtain⟨Wg,Wh,Wi,Wj,Wk,Wl⟩:=(U VW).aa u);have E:=VV (ac (U D) u);have VY:=VV (Ex.ab _ (U VX) (U E));clear u r;go_loopw[11,12,33] (λWc Wd w wr=>∃(e:Nat) (f i:Int),e<=a.args.length/\w=.int .i64 (e:Int)/\Wc=.int .i64 f/\Wd=.int .i64 i/\1<=f/\f<=d/\0<=i/\i<=c-1/\Hid (cj bd a.args d c 1 0=cj bd (a.args.drop e) d c f i)/\Bw Q wr) (λ_ _ w _=>a.args.length-(intOf w).toNat);case atStart=>exact⟨0,1,0,bf,rfl,rfl,rfl,by omega,by omega,by omega,by omega,rfl,aN⟩
  case round=>
   obtain⟨e,f,i,WA,rfl,rfl,rfl,Ws,Wt,Wu,Wv,j,t⟩:=hrel;by_cases V7:e<a.args.length
   .have V4:(e:Int)<(a.args.length:Int):=by omega
    obtain⟨b,C⟩:∃b,a.args[e]?=some b:=⟨_,ba V7⟩
    have Z:a.args.drop e=b::a.args.drop (e+1):=by
     obtain⟨Wa,Wb⟩:=b6 C
     rw[hb Wa,Wb]
    obtain⟨WF,WG,V3,Y⟩:=Ex.all_get (Ex.ab _ (U VY) t) C
    obtain⟨q,s,⟨Wm,Wn,Wo,Wp,Wq,Wr⟩,X⟩:=Ex.ao Y
    have z:=VV (U V0 e b C (d-f) (c-1) q s (wr.alloc (.cells #[.int .i64 b.op,.int .i64 b.n,.int .i64 b.v.k,.int .i64 b.v.n,.string b.v.s,.slice q b.args.length s] 72)) (by omega) (by omega) (by omega) (by omega) (Ex.ab _ X (ae aN _)))
    rw[Ex.ad] at z
    rw[Z,cj] at j
    obtain⟨V9,L⟩:=bq (ct bd b (d-f) (c-1))
    rw[L] at z j
    have G:=VV L
    obtain⟨T,V,ok⟩:=V9
    have R:=VV (ae t (.cells #[.int .i64 b.op,.int .i64 b.n,.int .i64 b.v.k,.int .i64 b.v.n,.string b.v.s,.slice q b.args.length s] 72))
    subst V3
    clear C Z Y X L t
    cases ok with
    | false=>
     have F:Hid (B=(0,0,false)):=by have o:=U j;have k:=U I;rw[o] at k;show _=_;simpa using k
     clear j G
     go_wp2_with (go_at_call 148;refine(U z).mono ?_;rintro x Wf ⟨rfl,K⟩)
     refine aM (v:=.tuple #[.int .i64 0,.int .i64 0,.bool false]) (by simp[results,results148,go_sem]) rfl ⟨by rw[U F],ac (U E) (ac (U R) K)⟩
    | true=>
     obtain⟨WB,WC,WD,WE⟩:=gU bd b (d-f) (c-1) (U G)
     have V1:Hid (cj bd a.args d c 1 0=cj bd (a.args.drop (e+1)) d c (f+T) (max i V)):=by have:=U j;show _=_;simpa using this
     clear j G
     go_wp2_with (go_at_call 148;refine(U z).mono ?_;rintro x Wf ⟨rfl,K⟩)
     refine⟨⟨e+1,f+T,max i V,by omega,by go_num,rfl,by rw[qw],by omega,by omega,by omega,by omega,V1,ac (U R) K⟩,by simp[intOf];omega⟩
   ·(have V4:¬(e:Int)<(a.args.length:Int):=by omega);(have F:Hid (B=(f,i+1,true)):=by have o:=U j;have k:=U I;rw[dG (by omega),cj] at o;rw[o] at k;exact k);have VZ:=VV (ac (U E) t);clear j I t;go_wp2;refine aM (v:=.tuple #[.int .i64 f,.int .i64 (i+1),.bool true]) (by simp[results,results148,go_sem]) rfl ⟨by rw[U F],U VZ⟩
theorem hM:∀(g:Nat) (a:Ex),a.size<=g->a.fin->∀(c b:Int) (e:Option Addr) (f:Nat) (d:World),0<=c->c<=40000000->0<=b->b<=200000->Ex.all d e a.args->Calls prog 148 #[a.val e f,.int .i64 c,.int .i64 b,.func (.func 149) #[] #[]] d λA B=>A=M3 (ct bd a c b)/\Bw d B
 | 0,a,j,_,_,_,_,_,_,_,_,_,_,_=>by rw[Ex.am] at j;omega
 | g+1,a,j,i,c,b,e,f,d,u,v,w,x,z=>jP a i c b e f d u v w x z λD C k m l o p n q r s t y=>
  hM g C (by have:=Ex.av k;omega) (Ex.ay i k) m l o p n q r s t y
def bC(g:World)(f:Option Addr)(c:List Int):Prop:=c=[]∨∃a d,f=some ⟨a,d,none⟩/\∀b e,c[b]?=some e->g.cell? ⟨a,d+b,none⟩=some (.int .i64 e)
theorem bC.aa(h:bC w a C)(d:Bw w W):bC W a C:=by
 rcases h with h|⟨b,g,c,h⟩;.exact .inl h
 .exact .inr ⟨b,g,c,λf i e=>aG (h f i e) d⟩
theorem bC.get(h:bC w a C)(d:C[n]?=some I):∃b c,a=some ⟨b,c,none⟩/\w.cell? ⟨b,c+n,none⟩=some (.int .i64 I):=by
 rcases h with h|⟨b,c,e,h⟩;.rw[h] at d;cases d
 .exact⟨b,c,e,h n I d⟩
def cL(f:World)(g:Option Addr)(e:List (Int×Bool)):Prop:=e=[]∨∃a c,g=some ⟨a,c,none⟩/\∀b d,e[b]?=some d->f.cell? ⟨a,c+b*2,none⟩=some (.int .i64 d.1)/\f.cell? ⟨a,c+b*2+1,none⟩=some (.bool d.2)
theorem cL.aa{e:List (Int×Bool)}(h:cL w a e)(b:Bw w W):cL W a e:=by
 rcases h with h|⟨g,j,i,h⟩;.exact .inl h
 .exact .inr ⟨g,j,i,λd f c=>⟨aG (h d f c).1 b,aG (h d f c).2 b⟩⟩
theorem cL.get{f:List (Int×Bool)}{d:Int×Bool}(h:cL w a f)(e:f[n]?=some d):∃b c,a=some ⟨b,c,none⟩/\w.cell? ⟨b,c+n*2,none⟩=some (.int .i64 d.1)/\w.cell? ⟨b,c+n*2+1,none⟩=some (.bool d.2):=by
 rcases h with h|⟨b,c,g,h⟩;.rw[h] at e;simp at e
 .exact⟨b,c,g,h n d e⟩
def dI(f:World)(g:Option Addr)(e:List (Int×Int)):Prop:=e=[]∨∃a c,g=some ⟨a,c,none⟩/\∀b d,e[b]?=some d->f.cell? ⟨a,c+b*2,none⟩=some (.int .i64 d.1)/\f.cell? ⟨a,c+b*2+1,none⟩=some (.int .i64 d.2)
theorem dI.aa{e:List (Int×Int)}(h:dI w a e)(b:Bw w W):dI W a e:=by
 rcases h with h|⟨g,j,i,h⟩;.exact .inl h
 .exact .inr ⟨g,j,i,λd f c=>⟨aG (h d f c).1 b,aG (h d f c).2 b⟩⟩
theorem dI.get{f:List (Int×Int)}{d:Int×Int}(h:dI w a f)(e:f[n]?=some d):∃b c,a=some ⟨b,c,none⟩/\w.cell? ⟨b,c+n*2,none⟩=some (.int .i64 d.1)/\w.cell? ⟨b,c+n*2+1,none⟩=some (.int .i64 d.2):=by
 rcases h with h|⟨b,c,g,h⟩;.rw[h] at e;simp at e
 .exact⟨b,c,g,h n d e⟩
inductive Pl where
 | mk (op:Int) (tab:ByteArray) (ex:List Ex) (cols:List Int) (keys:List (Int×Bool)) (aggs:List (Int×Int)) (fn col n off:Int) (args:List Pl)
def Pl.op:Pl->Int | .mk a _ _ _ _ _ _ _ _ _ _=>a
def Pl.tab:Pl->ByteArray | .mk _ a _ _ _ _ _ _ _ _ _=>a
def Pl.ex:Pl->List Ex | .mk _ _ a _ _ _ _ _ _ _ _=>a
def Pl.cols:Pl->List Int | .mk _ _ _ a _ _ _ _ _ _ _=>a
def Pl.keys:Pl->List (Int×Bool) | .mk _ _ _ _ a _ _ _ _ _ _=>a
def Pl.aggs:Pl->List (Int×Int) | .mk _ _ _ _ _ a _ _ _ _ _=>a
def Pl.fn:Pl->Int | .mk _ _ _ _ _ _ a _ _ _ _=>a
def Pl.col:Pl->Int | .mk _ _ _ _ _ _ _ a _ _ _=>a
end
def Pl.n:Pl->Int | .mk _ _ _ _ _ _ _ _ a _ _=>a
def Pl.off:Pl->Int | .mk _ _ _ _ _ _ _ _ _ a _=>a
def Pl.args:Pl->List Pl | .mk _ _ _ _ _ _ _ _ _ _ a=>a
mutual
def Pl.size:Pl->Nat
 | .mk _ _ _ _ _ _ _ _ _ _ a=>Pl.sizes a+1
def Pl.sizes:List Pl->Nat
 | []=>0
 | a::b=>a.size+Pl.sizes b
end
theorem Pl.am(a:Pl):a.size=Pl.sizes a.args+1:=by cases a;rw[Pl.size];rfl
theorem Pl.an:∀{b:List Pl} {a:Pl},a∈b->a.size<=Pl.sizes b
 | [],_,h=>by cases h
 | c::b,a,h=>by rw[Pl.sizes];rcases dm h with rfl|h;(.omega);.have:=Pl.an h;omega
variable{p q:Pl}{m n:Nat}{W X w:World}{v:Value}{a:Option Addr}{C:List Int}{I:Int}
theorem Pl.av(h:p.args[n]?=some q):q.size<p.size:=by have:=Pl.an (a8 h);rw[Pl.am p];omega
structure Pm where
 aE:Option Addr
 cE:Nat
 aC:Option Addr
 cC:Nat
 aK:Option Addr
 cK:Nat
 aA:Option Addr
 cA:Nat
 aP:Option Addr
 cP:Nat
def Pl.val(p:Pl)(a:Pm):Value:=.agg #[.int .i64 p.op,.string p.tab,.slice a.aE p.ex.length a.cE,.slice a.aC p.cols.length a.cC,.slice a.aK p.keys.length a.cK,.slice a.aA p.aggs.length a.cA,.int .i64 p.fn,.int .i64 p.col,.int .i64 p.n,.int .i64 p.off,.slice a.aP p.args.length a.cP]
theorem Pl.ad(p:Pl)(a:Pm):p.val a=.agg #[.int .i64 p.op,.string p.tab,.slice a.aE p.ex.length a.cE,.slice a.aC p.cols.length a.cC,.slice a.aK p.keys.length a.cK,.slice a.aA p.aggs.length a.cA,.int .i64 p.fn,.int .i64 p.col,.int .i64 p.n,.int .i64 p.off,.slice a.aP p.args.length a.cP]:=rfl
structure dL(w:World)(b off:Nat)(p:Pl)(m:Pm):Prop where
 c0:w.cell? ⟨b,off,none⟩=some (.int .i64 p.op)
 c1:w.cell? ⟨b,off+1,none⟩=some (.string p.tab)
 c2:w.cell? ⟨b,off+2,none⟩=some (.slice m.aE p.ex.length m.cE)
 c3:w.cell? ⟨b,off+3,none⟩=some (.slice m.aC p.cols.length m.cC)
 c4:w.cell? ⟨b,off+4,none⟩=some (.slice m.aK p.keys.length m.cK)
 c5:w.cell? ⟨b,off+5,none⟩=some (.slice m.aA p.aggs.length m.cA)
 c6:w.cell? ⟨b,off+6,none⟩=some (.int .i64 p.fn)
 c7:w.cell? ⟨b,off+7,none⟩=some (.int .i64 p.col)
 c8:w.cell? ⟨b,off+8,none⟩=some (.int .i64 p.n)
 c9:w.cell? ⟨b,off+9,none⟩=some (.int .i64 p.off)
 c10:w.cell? ⟨b,off+10,none⟩=some (.slice m.aP p.args.length m.cP)
variable{g:Pm}
theorem dL.aa{p:Pl}(h:dL w n m p g)(a:Bw w W):dL W n m p g:=
 ⟨aG h.c0 a,aG h.c1 a,aG h.c2 a,aG h.c3 a,aG h.c4 a,aG h.c5 a,aG h.c6 a,aG h.c7 a,aG h.c8 a,aG h.c9 a,aG h.c10 a⟩
structure jW(w:World)(p:Pl)(m:Pm):Prop where
 e:Ex.all w m.aE p.ex
 c:bC w m.aC p.cols
 k:cL w m.aK p.keys
 a:dI w m.aA p.aggs
 n:p.cols.length<=m.cC
theorem jW.aa{p:Pl}(h:jW w p g)(a:Bw w W):jW W p g:=⟨Ex.ab _ h.e a,h.c.aa a,h.k.aa a,h.a.aa a,h.n⟩
mutual
def Pl.at(c:World)(o p:Nat):Pl->Prop
 | .mk m n g f j d i e k l a=>∃b,dL c o p (.mk m n g f j d i e k l a) b/\jW c (.mk m n g f j d i e k l a) b/\Pl.all c b.aP a
def Pl.all(c:World)(d:Option Addr):List Pl->Prop
 | []=>True
 | e::f=>∃a b,d=some ⟨a,b,none⟩/\Pl.at c a b e/\(Pl.all c (some ⟨a,b+11,none⟩) f)
end
mutual
theorem Pl.az:∀(f:Pl) {a e:World} {b d:Nat},Pl.at a b d f->Bw a e->Pl.at e b d f
 | .mk u v p o r m q n s t k,a,e,b,d,h,c=>by rw[Pl.at] at h ⊢;obtain⟨l,g,i,j⟩:=h;exact⟨l,g.aa c,i.aa c,Pl.ab k j c⟩
theorem Pl.ab:∀(c:List Pl) {a d:World} {b:Option Addr},Pl.all a b c->Bw a d->Pl.all d b c
 | [],a,d,b,h,e=>by rw[Pl.all];trivial
 | g::c,a,d,b,h,e=>by rw[Pl.all] at h ⊢;obtain⟨f,l,i,j,k⟩:=h;exact⟨f,l,i,Pl.az g j e,Pl.ab c k e⟩
end
theorem Pl.all_get{k:World}:∀{g:List Pl} {i:Option Addr} {d:Nat} {e:Pl},Pl.all k i g->g[d]?=some e->∃b a,i=some ⟨b,a,none⟩/\Pl.at k b (a+d*11) e
 | [],_,_,_,_,c=>by simp at c
 | p::g,i,0,e,h,c=>by rw[Pl.all] at h;obtain⟨b,a,j,n,_⟩:=h;simp at c;subst c;exact⟨b,a,j,by simpa using n⟩
 | p::g,i,d+1,e,h,c=>by rw[Pl.all] at h;obtain⟨b,a,j,_,o⟩:=h;obtain⟨q,r,f,l⟩:=Pl.all_get o (by simpa using c:g[d]?=some e);injection f with f;injection f with f m;subst f m;refine⟨b,a,j,?_⟩;rw[show a+(d+1)*11=a+11+d*11 by omega];exact l
theorem Pl.ao(h:p.at w n m):∃a,dL w n m p a/\jW w p a/\Pl.all w a.aP p.args:=by
 cases p with
 | mk l o e d g b f c j k i=>rw[Pl.at] at h;exact h
structure dN(w:World)(p:Pl)(m:Pm):Prop where
 o:jW w p m
 p:Pl.all w m.aP p.args
theorem dN.aa{p:Pl}(h:dN w p g)(a:Bw w W):dN W p g:=⟨h.o.aa a,Pl.ab _ h.p a⟩
abbrev Pl.box (p:Pl) (a:Pm):Obj:=.cells #[.int .i64 p.op,.string p.tab,.slice a.aE p.ex.length a.cE,.slice a.aC p.cols.length a.cC,.slice a.aK p.keys.length a.cK,.slice a.aA p.aggs.length a.cA,.int .i64 p.fn,.int .i64 p.col,.int .i64 p.n,.int .i64 p.off,.slice a.aP p.args.length a.cP] 28
theorem dL.new(b:World)(p:Pl)(a:Pm):dL (b.alloc (p.box a)) b.heap.size 0 p a:=⟨by simp[go_sem],by simp[go_sem],by simp[go_sem],by simp[go_sem],by simp[go_sem],by simp[go_sem],by simp[go_sem],by simp[go_sem],by simp[go_sem],by simp[go_sem],by simp[go_sem]⟩
mutual
def Pl.fin:Pl->Prop
 | .mk m i d c e b k j g l f=>(i.size<=1048576/\d.length<=1048576/\c.length<=1048576/\e.length<=1048576/\b.length<=1048576/\f.length<=1048576/\b2 g/\(∀a∈c,b2 a)/\(∀a∈e,b2 a.1)/\∀a∈b,b2 a.2)/\Ex.ah d/\Pl.ah f
def Pl.ah:List Pl->Prop
 | []=>True
 | a::b=>a.fin/\Pl.ah b
end
theorem Pl.af{p:Pl}(h:p.fin):(p.tab.size<=1048576/\p.ex.length<=1048576/\p.cols.length<=1048576/\p.keys.length<=1048576/\p.aggs.length<=1048576/\p.args.length<=1048576/\b2 p.n/\(∀a∈p.cols,b2 a)/\(∀a∈p.keys,b2 a.1)/\∀a∈p.aggs,b2 a.2)/\Ex.ah p.ex/\Pl.ah p.args:=by
 cases p with
 | mk l m e d g b f c j k i=>rw[Pl.fin] at h;exact h
theorem Pl.ag:∀{b:List Pl} {c:Pl},Pl.ah b->c∈b->c.fin
 | [],_,_,h=>by cases h
 | d::b,c,a,h=>by rw[Pl.ah] at a;rcases dm h with rfl|h;(.exact a.1);.exact Pl.ag a.2 h
theorem Pl.ay(h:p.fin)(a:p.args[n]?=some q):q.fin:=Pl.ag (Pl.af h).2.2 (a8 a)
theorem aH{c:Program}{d:Array Oper}{rest:List Oper}{b:Oper}{a:Act}{e:Exit->Act->World->Prop}(l:Region.wanted b (yielded d a.tmps)=true)(g:TypeId)(p:Operand)(m:b.op=Op.load g p)(f:Value)(n:a.eval p=f)(i:Value)(o:(Instr.loadAt g f).run c w=.ok i w) (j:wpList c d e rest (a.put b.dst i) w):wpList c d e (b::rest) a w:=by refine wpList_step λq k=>?_;rw[aR l];unfold Oper.wp;simp only[execOp,m,n,Sem.run_bind,o,Result.andThen];exact k _ _ j
theorem dL.load{p:Pl}(h:dL w n m p g):(Instr.loadAt 28 (.pointer (some ⟨n,m,none⟩))).run prog w=.ok (p.val g) w:=by obtain⟨a,b,d,e,f,i,j,k,l,o,c⟩:=h;unfold Pl.val;go_simp
mutual
def gE:Ex->Prop
 | .mk c b d a=>bd (.mk c b d a)=true/\fN a
def fN:List Ex->Prop
 | []=>True
 | a::b=>gE a/\fN b
end
variable{E e:Ex}
theorem kt(h:gE e):bd e=true/\fN e.args:=by
 cases e with
 | mk c b d a=>rw[gE] at h;exact h
mutual
theorem kj:∀(d:Ex) (c b:Int),(ct bd d c b).2.2=true->gE d
 | .mk j i l g,c,b,a=>by
  rw[ct] at a;split at a;.cases a
  .rename_i e
   simp only[Bool.or_eq_true,Bool.not_eq_true',not_or] at e
   cases f:cj bd g c b 1 0 with
   | none=>rw[f] at a;cases a
   | some k=>
    rw[gE]
    exact⟨by simpa using e.2,jp g c b 1 0 (by rw[f];rfl)⟩
theorem jp:∀(b:List Ex) (d c e h:Int),(cj bd b d c e h).isSome=true->fN b
 | [],d,c,e,h,a=>by rw[fN];trivial
 | f::b,d,c,e,h,a=>by rw[cj] at a;split at a;(.rename_i g;rw[fN];exact⟨kj f _ _ g,jp b _ _ _ _ a⟩);.cases a
end
theorem nH(h:b0 e=true):gE e:=kj e _ _ h
mutual
theorem ki(p:Ex->Bool):∀(j:Ex) (c b e d:Int) {f h:Int},ct p j c b=(f,h,true)->c<=e->b<=d->ct p j e d=(f,h,true)
 | .mk q o r i,c,b,e,d,f,h,a,l,m=>by
  rw[ct] at a ⊢;split at a;.injection a with _ a;injection a with _ a;cases a
  .rename_i k
   simp only[Bool.or_eq_true,eK,not_or,Bool.not_eq_true'] at k
   have n:p (.mk q o r i)=true:=by simpa using k.2
   rw[aL (by simp only[Bool.or_eq_true,eK,not_or,Bool.not_eq_true'];exact⟨⟨by omega,by omega⟩,by simp[n]⟩)]
   cases g:cj p i c b 1 0 with
   | none=>rw[g] at a;simp only at a;injection a with _ a;injection a with _ a;cases a
   | some s=>
    rw[g] at a
    rw[jo p i c b e d 1 0 (by rw[g]) l m]
    exact a
theorem jo(p:Ex->Bool):∀(i:List Ex) (c b f e d h:Int) {j:Int×Int},cj p i c b d h=some j->c<=f->b<=e->cj p i f e d h=some j
 | [],c,b,f,e,d,h,j,a,n,g=>by rw[cj] at a ⊢;exact a
 | m::i,c,b,f,e,d,h,j,a,n,g=>by rw[cj] at a ⊢;split at a;(.rename_i k;obtain⟨l,q,ok,o⟩:∃l g ok,ct p m (c-d) (b-1)=(l,g,ok):=⟨_,_,_,rfl⟩;rw[o] at a k;simp only at a k;subst k;rw[ki p m (c-d) (b-1) (f-d) (e-1) o (by omega) (by omega)];simp only[if_true];exact jo p i c b f e _ _ a n g);.cases a
end
theorem kk(p:Ex->Bool):∀(i:List Ex) (b a c h:Int) (f:Ex),1<=c->0<=h->(cj p i b a c h).isSome=true->f∈i->∃k j,k<=b/\j<=a/\(ct p f k j).2.2=true
 | [],b,a,c,h,f,_,_,d,e=>by cases e
 | m::i,b,a,c,h,f,r,n,d,e=>by rw[cj] at d;split at d;(.rename_i g;rcases dm e with rfl|e;(.exact⟨b-c,a-1,by omega,by omega,g⟩);.obtain⟨l,s,ok,o⟩:∃l n ok,ct p m (b-c) (a-1)=(l,n,ok):=⟨_,_,_,rfl⟩;rw[o] at d g;simp only at d g;subst g;have q:=gU p m (b-c) (a-1) o;exact kk p i b a _ _ f (by omega) (by omega) d e);.cases d
theorem pK(h:b0 e=true)(k:e.args[n]?=some E):b0 E=true:=by
 unfold b0 at h ⊢;rw[l5] at h;split at h;.cases h
 .cases i:cj bd e.args 400 40 1 0 with
  | none=>rw[i] at h;cases h
  | some m=>
   obtain⟨d,c,j,a,b⟩:=kk bd e.args 400 40 1 0 E (by omega) (by omega) (by rw[i];rfl) (a8 k)
   obtain⟨f,l,ok,g⟩:∃f a ok,ct bd E d c=(f,a,ok):=⟨_,_,_,rfl⟩
   rw[g] at b
   simp only at b
   subst b
   rw[ki bd E d c 400 40 g j a]
end Go.Proofs.YtabmgpillccfaaaGreatDoor
