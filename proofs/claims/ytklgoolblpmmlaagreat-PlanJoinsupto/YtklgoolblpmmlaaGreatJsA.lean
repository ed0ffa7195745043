import Derived.Test.YtklgoolblpmmlaaGreatJnN
import Derived.Test.YtklgoolblpmmlaaGreatGrF
set_option linter.all false
set_option maxHeartbeats 4000000
set_option maxRecDepth 100000
namespace Go.Proofs.YtklgoolblpmmlaaGreat
open Go.RowKit Go.Sort Go.Lib Go.Proofs.Tryz
def mh(d:List Tb)(b:Int)(c:ByteArray):Int:=if b=1 then (match d.find? (λa=>decide (a.name=c)) with
 | some a=>(a.rows.length:Int)
 | none=>0) else 0
mutual
def UZ(b:List Tb):Pl->Int
 | .mk a d _ _ _ _ _ _ _ _ c=>max (zU a (xL b c)) (mh b a d)
def xL(a:List Tb):List Pl->List Int
 | []=>[]
 | b::c=>UZ a b::xL a c
end
theorem qZ(b:List Tb):∀a:List Pl,xL b a=a.map (UZ b)
 | []=>by rw[xL];rfl
 | c::a=>by rw[xL,qZ b a];rfl
theorem xK(b:List Tb)(a:Pl):UZ b a=max (zU a.op (a.args.map (UZ b))) (mh b a.op a.au):=by cases a;rw[UZ,qZ];rfl
theorem kA(d:Int):∀(b:List Int) (a:Int),(0<=a/\a<=2147483648)->(∀e∈b,0<=e)->0<=b.foldl (iP d) a/\b.foldl (iP d) a<=2147483648
 | [],a,c,_=>c
 | e::b,a,c,f=>kA d b _ (hw c (f e (List.mem_cons_self ..))) λi g=>f i (List.mem_cons_of_mem _ g)
variable{T:List Tb}{w:World}{k m n:Nat}{x y:List aH}{e:Ex}{o:Bool}{A r:List (List aH)}{p:Pl}{I:Int}
theorem rd(h:∀a∈T,a.rows.length<=1048576)(b:Int)(c:ByteArray):0<=mh T b c/\mh T b c<=1048576:=by
 unfold mh;split;.split;(.rename_i a d;have:=h a (List.mem_of_find?_eq_some d);omega);.omega
 .omega
theorem oc{b:List Tb}(h:∀i∈b,i.rows.length<=1048576):∀(d:Nat) (a:Pl),a.size<=d->0<=UZ b a/\UZ b a<=2147483648
 | 0,a,c=>by rw[Pl.ak] at c;omega
 | d+1,a,c=>by have j:=kA a.op (a.args.map (UZ b)) 1 (by omega) (λl g=>by obtain⟨e,f,rfl⟩:=b6 g;have:=Pl.az f;exact(oc h d e (by rw[Pl.ak] at c;omega)).1);have k:=rd h a.op a.au;rw[xK];unfold zU;omega
theorem te{x:Nv}{vs:List Int}{g:Nat}(I:ge w n m x)(V9:x.nl=vs.length)(i:∀e∈vs,0<=e/\e<=4611686018427387904)(F:vs=[]∨x.na=some ⟨g,0,none⟩)(Ww:vs.length<=1048576)(Wv:x.t.rows.length<=1048576) (V0:∀(k:Nat) e,vs[k]?=some e->∀b,Bw w b->Calls prog 132 #[.pointer (some ⟨g,k*16,none⟩)] b λX v=>X=.returned (.int .i64 e)/\Bw b v) (b:World) (Q:Bw w b):Calls prog 132 #[.pointer (some ⟨n,m,none⟩)] b λX v=>X=.returned (.int .i64 (max (zU x.q.op vs) (x.t.rows.length:Int)))/\Bw b v:=by
 obtain⟨c,T⟩:=bj vs.length;have O:=I.a;have V2:=I.e.c0;have N:=I.t.c2;simp only[Nat.add_assoc,Nat.reduceAdd] at N;rw[V9,T] at O;have l:Hid (∀r,Bw w r->r.cell? ⟨n,m,none⟩=some (.int .i64 x.q.op)/\r.cell? ⟨n,m+13,none⟩=some (.slice x.tm.aR x.t.rows.length x.tm.cR)/\r.cell? ⟨n,m+15,none⟩=some (.slice x.na c x.nc)):=λr P=>⟨ae V2 P,ae N P,ae O P⟩;have o:=H T;have L:=H F;have VX:=H V0;have Wq:=H i;have Z:=H Q;have WE:c<=1048576:=by omega
 obtain⟨u,Wb⟩:=bj x.t.rows.length;rw[Wb] at l ⊢;have WF:u<=1048576:=by omega
 obtain⟨Wz,Wa⟩:=bj x.na;rw[Wa] at l L;obtain⟨z,A,s⟩:=U l b Q;obtain⟨Wy,V8,Wg,Wh,Wi⟩:=info_parts m1;have V:=kA x.q.op vs 1 (by omega) (λWD Wx=>(i WD Wx).1);obtain⟨We,G⟩:=bj (zU x.q.op vs);have Wc:0<=We/\We<=2147483648:=by rw[<-G];exact V
 rw[G];have Wn:=H G;have Wm:=H Wc;clear I V9 i F Ww V0 Q O V2 N T Wb Wa Wv V G Wc;go_enter func132,ntmps132;go_upto_region 2 with (at_make;refine wpList_make_full _ rfl (.tmp 9) (.tmp 9) 23 rfl b.heap.size 3 Wy (.int .i64 0) 1 underlying23 V8 Wg Wh .i64 .i64 _ _ c rfl rfl rfl rfl (by rw[Wi];omega) (by unfold maxLen;omega) bi ?_;intro WC V5 V7);have J:=H (bB V7 bi (λg Wt=>by cases Wt));have VY:=H (iT V5);have V6:=ac (U Z) (U J);clear V5 V7 Wg Wh Wi V8 z A s;obtain⟨_,_,s⟩:=U l WC V6;clear V6;go_wp2_with fail;go_loopw[16] (λk wr=>∃(a:Nat),a<=c/\k=.int .i64 (a:Int)/\Hid (cm wr b.heap.size (.slice (some ⟨b.heap.size,0,none⟩) c c) (vs.take a++List.replicate (c-a) 0))/\Hid (Bw b wr)) (λk _=>c-(intOf k).toNat);case atStart=>exact⟨0,bt,rfl,U VY,U J⟩
 case round=>clear VY J s;obtain⟨a,Wu,rfl,y,K⟩:=hrel;have D:=ac (U Z) (U K);obtain⟨z,A,s⟩:=U l wr D;by_cases E:a<c;(·(have Wr:(a:Int)<(c:Int):=by omega);obtain⟨e,i⟩:∃e,vs[a]?=some e:=⟨_,VR (by rw[U o];exact E)⟩;(have F:Wz=some ⟨g,0,none⟩:=by rcases U L with h|h;(.rw[h] at i;simp at i);.exact h);have Wk:=H (U VX a e i wr D);(have S:(vs.take a).length=a:=by rw[List.length_take,U o];omega);obtain⟨Wf,Y⟩:=km _ c a S E;have VZ:Hid (vs.take (a+1)=vs.take a++[e]):=n7 i;(have Wp:Hid (∀f,Bw wr f->f.cell? ⟨b.heap.size,a,none⟩=some (.int .i64 0)/\f.frozen? ⟨b.heap.size,a,none⟩=false/\cm (f.setCell ⟨b.heap.size,a,none⟩ (.int .i64 e)) b.heap.size (.slice (some ⟨b.heap.size,0,none⟩) c c) (vs.take (a+1)++List.replicate (c-(a+1)) 0)/\Bw b (f.setCell ⟨b.heap.size,a,none⟩ (.int .i64 e))):=by intro f B;have V4:=(U y).aa B;obtain⟨WA,W⟩:=V4.at Y Wf;have t:=V4.store (k:=a) Y e;rw[iQ _ _ _ S E,<-U VZ] at t;exact⟨WA,W,t,(ac (U K) B).setCell (p:=⟨b.heap.size,a,none⟩) bi _⟩);subst F;clear i S Wf Y y VZ D;go_wp2_with (go_at_call 132;refine(U Wk).mono ?_;rintro _ f ⟨rfl,B⟩;obtain⟨WG,WH,t,V3⟩:=U Wp f B;have Wl:=H t;have Wj:=H V3;clear t V3);exact⟨⟨a+1,by omega,by go_num,U Wl,U Wj⟩,by simp[intOf];omega⟩);·(have Wr:¬(a:Int)<(c:Int):=by omega);(obtain rfl:a=c:=by omega);(have Wd:vs.take a++List.replicate (a-a) 0=vs:=by rw[Nat.sub_self,List.replicate_zero,VI,<-U o,dy]);rw[Wd] at y;have C:Bw wr wr.drew:=(VS).drew;have M:=H (λf (Ws:Bw wr f)=>vq x.q.op vs (by rw[U o];omega) (U Wq) (some ⟨b.heap.size,0,none⟩) a f (((U y).aa Ws).ints));rw[U o] at M;rw[U Wn] at M;have V:=U Wm;clear Wu E Wd VX L;go_upto_region 7 with fail;have d:Hid (wr.drew.cell? ⟨n,m,none⟩=some (.int .i64 x.q.op)/\wr.drew.cell? ⟨n,m+13,none⟩=some (.slice x.tm.aR u x.tm.cR)):=⟨ae z C,ae A C⟩;have VW:=H C;clear z A s D C;refine bH (λV1:World=>V1.cell? ⟨n,m,none⟩=some (.int .i64 x.q.op)/\V1.cell? ⟨n,m+13,none⟩=some (.slice x.tm.aR u x.tm.cR)) 14 ?_;refine ap 0 (.pointer (some ⟨n,m,none⟩)) rfl (U d) ?_;refine ap 1 (.pointer (some ⟨n,m,none⟩)) rfl (U d) ?_;refine ap 2 (.pointer (some ⟨n,m,none⟩)) rfl (U d) ?_;refine ap 3 (.pointer (some ⟨n,m,none⟩)) rfl (U d) ?_;(refine ap 4 (.int .i64 x.q.op) rfl (U d) ?_ λv R=>by obtain⟨W,WB⟩:=R;go_simp);refine ap 5 (.slice (some ⟨b.heap.size,0,none⟩) a a) rfl (U d) ?_;refine ap 7 (.pointer (some ⟨n,m,none⟩)) rfl (U d) ?_;refine ap 8 (.pointer (some ⟨n,m,none⟩)) rfl (U d) ?_;refine ap 9 (.pointer (some ⟨n,m+11,none⟩)) rfl (U d) ?_;refine ap 10 (.pointer (some ⟨n,m+13,none⟩)) rfl (U d) ?_;(refine ap 11 (.slice x.tm.aR u x.tm.cR) rfl (U d) ?_ λv R=>by obtain⟨W,WB⟩:=R;go_simp);refine ap 12 (.int .i64 (u:Int)) rfl (U d) ?_;refine bh 6 rfl λq j=>?_;go_simp;refine(U M _ (U VW)).mono ?_;rintro _ f ⟨rfl,rfl⟩;go_simp;refine VP j (U d) ?_;clear j q;refine bh 13 rfl λq j=>?_;go_simp;refine VP j (U d) ?_;clear j q;refine bh 14 rfl λq j=>?_;go_simp;refine bE j ?_;clear j q;refine cf ?_;go_wp2;go_ret;exact⟨by simp[Int.max_def],ac (U K) (U VW)⟩
theorem kM{i:List Tb}(p:∀l∈i,l.rows.length<=1048576){m:World}:∀(q:Nat) (a:Pl),a.size<=q->a.fin->∀j,Dd m i a j->∀n r,ge m n r j->∀d,Bw m d->Calls prog 132 #[.pointer (some ⟨n,r,none⟩)] d λI L=>I=.returned (.int .i64 (UZ i a))/\Bw d L
 | 0,a,t,_,_,_,_,_,_,_,_=>by rw[Pl.ak] at t;omega
 | q+1,a,t,s,j,h,n,r,D,d,z=>by
  cases h with
  | mk _ _ G Q l v P O F o N M E J x=>
   have C:j.t.rows.length<=1048576:=by
    by_cases c:a.op=1
    .exact p _ (List.mem_of_find?_eq_some (l c).1)
    .rw[v c];simp
   have B:mh i a.op a.au=(j.t.rows.length:Int):=by
    unfold mh
    by_cases c:a.op=1
    .rw[ba c,(l c).1]
    .rw[VU c,v c];rfl
   have:=te (vs:=a.args.map (UZ i)) (g:=o) D (by rw[F,bQ]) (λK b=>by
    obtain⟨f,_,rfl⟩:=b6 b
    have:=oc p f.size f bi
    omega) (E.imp (λy=>by rw[y];rfl) id) (by rw[bQ];exact(Pl.an s).1.2.2.2.2.2.1) C (λg K b w A=>by
    rw[bL] at b
    cases e:a.args[g]? with
    | none=>rw[e] at b;cases b
    | some f=>
     rw[e] at b
     injection b with b
     subst b
     obtain⟨k,u⟩:∃k,N[g]?=some k:=⟨_,VR (by rw[M];exact(bD e).1)⟩
     exact kM p q f (by have:=Pl.ar e;omega) (Pl.aq s e) k (x g f k e u) o (g*16) (J g k u) w A) d z
   rw[G] at this
   rw[xK,B]
   exact this
def nP(a d:Nat)(b:Ex)(c:Nat)(e:List aH):Option (List aH):=gu (ip (eq0 a b) (eq1 a b) c) (dB (List.replicate (a+d) aH.null) (gG a c) e)
def dQ(a e f:Nat)(c:Ex)(b:Bool)(d:List (List aH)):ia:=kp (b && decide (a=0)) (nP e f c a) d
def el(a e c:Nat)(b:Ex)(d:Bool)(f i:List (List aH)):List (List aH):=
 fw a c (d && decide (1-a=0)) b (nP e c b (1-a)) (dQ a e c b d f) i++VG (d && decide (a=0)) c ((dQ a e c b d f).map (·.1)) (e9 (List.replicate (dQ a e c b d f).length false) (i.flatMap λg=>fa a b (dQ a e c b d f) (nP e c b (1-a) g) g))
def kq(d:List Tb)(c:Pl)(b:Nat):Nat:=((c.args.map λa=>(bK d a).2.length)[b]?).getD 0
def zV(c:List Tb)(b:Pl)(a:Nat):Int:=((b.args.map (UZ c))[a]?).getD 0
def n9(a:List (List (List aH))):List (List aH):=(a[0]?).getD []
def Ed(a:List (List (List aH))):List (List aH):=(a[1]?).getD []
def oR(b:List Tb)(a:Pl)(c:List (List (List aH))):List (List aH):=match a.ex[0]? with
 | some d=>if zV b a 0<zV b a 1 then el 0 (kq b a 0) (kq b a 1) d (a.op == 5) (n9 c) (Ed c) else el 1 (kq b a 0) (kq b a 1) d (a.op == 5) (Ed c) (n9 c)
 | none=>[]
def ef(d:List Tb)(a:Pl)(b:List (List (List aH))):List (List aH):=
 if a.op=1 then (match d.find? (λc=>decide (c.name=a.au)) with
  | some c=>c.rows.map cp
  | none=>[])
 else if a.op=2 then (match a.ex[0]? with
  | some e=>(n9 b).filter λf=>VK (bZ f e)
  | none=>[])
 else if a.op=3 then (n9 b).map (ig a.ex)
 else if a.op=4∨a.op=5 then oR d a b
 else if a.op=6 then fk a (n9 b)
 else if a.op=7 then ih (n9 b)
 else if a.op=8 then b.flatten
 else if a.op=9 then nG a.keys a.off.toNat (U2 a.n.toNat a.off.toNat) (n9 b)
 else if a.op=10 then eE a (n9 b)
 else if a.op=11 then dP (Ed b) (n9 b)
 else []
mutual
def cg(b:List Tb):Pl->List (List aH)
 | .mk k l e cols g c f d i j a=>ef b (.mk k l e cols g c f d i j a) (xS b a)
def xS(a:List Tb):List Pl->List (List (List aH))
 | []=>[]
 | c::b=>cg a c::xS a b
end
theorem ra(b:List Tb):∀a:List Pl,xS b a=a.map (cg b)
 | []=>by rw[xS];rfl
 | c::a=>by rw[xS,ra b a];rfl
theorem iS(b:List Tb)(a:Pl):cg b a=ef b a (a.args.map (cg b)):=by cases a;rw[cg,ra];rfl
theorem jC:eO aH.null:=⟨⟨by decide,by decide⟩,bt,rfl⟩
theorem oq(h:dH n x):dH (n+m) (x++List.replicate m aH.null):=
 ⟨by rw[bG,List.length_replicate,h.len],λb a=>by
  rcases cM a with a|a
  .exact h.val b a
  .rw[(List.mem_replicate.1 a).2];exact jC⟩
theorem pW{c:ia}{d:Option (List aH)}:∀b∈fa n e c d x,b<c.length:=λb a=>by
 unfold fa at a
 cases d with
 | none=>cases a
 | some f=>exact yN c f b (List.mem_filter.1 a).1
theorem AF{h:List aH}(c:n<2)(a:dH (eQ m k n) h)(b:dH (eQ m k (1-n)) x):dH (m+k) (jz n h x):=⟨ut c a.len b.len,UQ a.val b.val⟩
theorem x6{f:ia}{s:Option (List aH)}(q:n<2)(j:o=true->n=1)(p:∀t∈f,dH (eQ m k n) t.1)(d:dH (eQ m k (1-n)) x):∀g∈gj n k o e f s x,dH (m+k) g:=λg a=>by
 unfold gj at a
 rcases cM a with a|b
 .obtain⟨r,l,rfl⟩:=b6 a
  have c:=pW r l
  refine AF q ?_ d
  rw[cQ,bL,VR c]
  exact p _ (List.getElem_mem c)
 .split at b
  .rename_i h
   simp only[cc] at h
   have i:=j h.1
   subst i
   rw[List.mem_singleton] at b
   subst b
   exact oq d
  .cases b
theorem xV{f:List Bool}(e:o=true->∀b∈r,dH n b):∀b∈VG o m r f,dH (n+m) b:=λb h=>by
 unfold VG at h
 obtain⟨g,d,a⟩:=List.mem_filterMap.1 h
 split at a
 .rename_i c
  simp only[cc] at c
  injection a with a
  subst a
  exact oq (e c.1 g.1 (List.of_mem_zip d).1)
 .cases a
theorem oT{s n1 n2:Nat}{e:Ex}{al:Bool}(b:∀a∈r,dH n a):∀f∈dQ s n1 n2 e al r,dH n f.1:=λf c=>by
 unfold dQ kp at c
 obtain⟨a,d,e⟩:=List.mem_filterMap.1 c
 split at e
 .injection e with e;subst e;exact b a d
 .split at e
  .injection e with e;subst e;exact b a d
  .cases e
theorem rF(d:n<2)(f:∀b∈r,dH (eQ m k n) b)(g:∀b∈A,dH (eQ m k (1-n)) b):∀b∈el n m k e o r A,dH (m+k) b:=λb a=>by
 unfold el at a
 have c:=oT (s:=n) (n1:=m) (n2:=k) (e:=e) (al:=o) f
 rcases cM a with a|a
 .unfold fw at a
  obtain⟨l,i,a⟩:=List.mem_flatMap.1 a
  exact x6 d (λh=>by simp only[cc,cF] at h;omega) c (g l i) b a
 .refine xV (λh b a=>?_) b a
  simp only[cc,cF] at h
  obtain⟨p,j,rfl⟩:=b6 a
  have:=c p j
  rw[h.2] at this
  exact this
theorem rN(e:Nat)(c:Ex)(a:ia)(b:Option (List aH))(d:List aH):(fa e c a b d).Sublist (List.range' 0 a.length):=by
 unfold fa;cases b with
 | none=>exact List.nil_sublist _
 | some f=>refine List.Sublist.trans List.filter_sublist ?_;unfold sC;rw[<-List.zipIdx_map_snd 0 a];exact List.Sublist.map _ List.filter_sublist
theorem tD(e:Nat)(a:Ex)(b:ia)(c:Option (List aH))(d:List aH):(fa e a b c d).Nodup:=(rN e a b c d).nodup List.nodup_range'
theorem uL(e:Nat)(b:Ex)(a:ia)(c:Option (List aH))(d:List aH):(fa e b a c d).length<=a.length:=by have:=(rN e b a c d).length_le;rwa [List.length_range'] at this
theorem oh:∀(a:List Bool) (b:Nat),(a.set b true).count false<=a.count false
 | [],b=>by simp
 | c::a,0=>by cases c<;>simp
 | c::a,b+1=>by have:=oh a b;rw[List.set_cons_succ];cases c<;>simp<;>omega
theorem me:∀(a:List Bool) (b:Nat),a[b]?=some false->(a.set b true).count false+1=a.count false
 | [],b,h=>by simp at h
 | c::a,0,h=>by simp at h;subst h;simp
 | c::a,b+1,h=>by have:=me a b (by simpa using h);rw[List.set_cons_succ];cases c<;>simp<;>omega
theorem mf:∀(b:List Nat) (a:List Bool),(e9 a b).count false<=a.count false
 | [],a=>bi
 | c::b,a=>cw (mf b (a.set c true)) (oh a c)
theorem Ve:∀(b:List Nat) (a:List Bool),b.Nodup->(∀c∈b,a[c]?=some false)->(e9 a b).count false+b.length=a.count false
 | [],a,_,_=>rfl
 | c::b,a,d,h=>by rw[List.nodup_cons] at d;(have i:=Ve b (a.set c true) d.2 λg e=>by rw[List.getElem?_set_ne (by rintro rfl;exact d.1 e)];exact h g (List.mem_cons_of_mem _ e));have j:=me a c (h c (List.mem_cons_self ..));have f:e9 a (c::b)=e9 (a.set c true) b:=rfl;rw[f,dY];omega
theorem rf(c:Bool)(d:Nat):∀(b:List (List aH)) (a:List Bool),(VG c d b a).length<=a.count false
 | [],a=>by simp[VG]
 | f::b,[]=>by simp[VG]
 | f::b,e::a=>by have:=rf c d b a;unfold VG at this ⊢;rw[List.zip_cons_cons,List.filterMap_cons];cases c<;>cases e<;>simp at this ⊢<;>omega
theorem sW(b:Nat)(c:List (List aH))(a:List Bool):VG false b c a=[]:=by unfold VG;rw[List.filterMap_eq_nil_iff];intro d _;simp
theorem x8{n2:Nat}{e:Ex}{kf:List aH->Option (List aH)}{kb:ia}(b:List (List aH)):(fw 0 n2 false e kf kb b).length+(e9 (List.replicate kb.length false) (b.flatMap λa=>fa 0 e kb (kf a) a)).count false<=kb.length*max 1 b.length:=by
 have j:∀a,(gj 0 n2 false e kb (kf a) a).length=(fa 0 e kb (kf a) a).length:=λa=>by simp[gj]
 refine ma (P:=λb=>(fw 0 n2 false e kf kb b).length+(e9 (List.replicate kb.length false) (b.flatMap λa=>fa 0 e kb (kf a) a)).count false<=kb.length*max 1 b.length) ?_ (λb a d=>?_) b;.simp[fw,e9]
 .rw[kF,bG,j,List.flatMap_append,q7,bG]
  have l:=mf ([a].flatMap λa=>fa 0 e kb (kf a) a) (e9 (List.replicate kb.length false) (b.flatMap λa=>fa 0 e kb (kf a) a))
  have m:=uL 0 e kb (kf a) a
  cases b with
  | nil=>
   have c:=Ve (fa 0 e kb (kf a) a) (List.replicate kb.length false) (tD _ _ _ _ _) (λk i=>by rw[List.getElem?_replicate,ba (pW k i)])
   rw[List.count_replicate_self] at c
   simp[fw,e9] at c ⊢
   omega
  | cons n b=>
   simp only[dY,List.length_nil] at d ⊢
   have f:max 1 (b.length+1)=b.length+1:=by omega
   have g:max 1 (b.length+1+(0+1))=b.length+1+1:=by omega
   rw[f] at d
   rw[g,Nat.mul_succ]
   omega
theorem ri{n2:Nat}{al:Bool}{e:Ex}{kf:List aH->Option (List aH)}{kb:ia}:∀b:List (List aH),(fw 1 n2 al e kf kb b).length<=b.length*max 1 kb.length
 | []=>by simp[fw]
 | a::b=>by have c:=ri (n2:=n2) (al:=al) (e:=e) (kf:=kf) (kb:=kb) b;have f:=uL 1 e kb (kf a) a;(have d:(gj 1 n2 al e kb (kf a) a).length<=max 1 kb.length:=by unfold gj;rw[bG,bQ];split;(.rename_i h;simp only[cc,List.isEmpty_iff] at h;rw[h.2];simp;omega);.simp;omega);unfold fw at c ⊢;rw[eA,bG,dY,Nat.succ_mul];omega
theorem rH{s n1 n2:Nat}{e:Ex}{al:Bool}{hs ps:List (List aH)}(k:s<2):(el s n1 n2 e al hs ps).length<=(if s=0 then hs else ps).length*max 1 (if s=0 then ps else hs).length:=by
 have j:(dQ s n1 n2 e al hs).length<=hs.length:=tp _ _ _;unfold el;rw[bG];by_cases a:s=0;.subst a;have c:=x8 (n2:=n2) (e:=e) (kf:=nP n1 n2 e 1) (kb:=dQ 0 n1 n2 e al hs) ps;have i:=rf (al && decide (0=0)) n2 ((dQ 0 n1 n2 e al hs).map (·.1)) (e9 (List.replicate (dQ 0 n1 n2 e al hs).length false) (ps.flatMap λf=>fa 0 e (dQ 0 n1 n2 e al hs) (nP n1 n2 e (1-0) f) f));(have b:(al && decide (1-0=0))=false:=by simp);have d:=Nat.mul_le_mul_right (max 1 ps.length) j;simp only[ba];rw[b];simp only[Nat.sub_zero] at i ⊢;omega
 ·(have g:s=1:=by omega);subst g;have c:=ri (n2:=n2) (al:=al && decide (1-1=0)) (e:=e) (kf:=nP n1 n2 e (1-1)) (kb:=dQ 1 n1 n2 e al hs) ps;(have b:(al && decide ((1:Nat)=0))=false:=by simp);have d:=Nat.mul_le_mul_left ps.length (show max 1 (dQ 1 n1 n2 e al hs).length<=max 1 hs.length by omega);rw[b,sW,List.length_nil,Nat.add_zero,VU a,VU a];exact cw c d
theorem wq(a:Pl)(b:List (List aH)):(fk a b).length<=max 1 b.length:=by
 unfold fk;rw[bQ];by_cases h:a.cols=[]
 .have c:=gy (rQ a.cols) a.cols b;have d:∀f∈(df (g0 a.cols) a.cols b).map (·.1),f=[]:=λf e=>by rcases(gq a.cols b f).1 e with e|⟨n,_,rfl⟩;(.unfold g0 at e;rw[ba h] at e;simpa using e);.rw[h];rfl
  have m:((df (g0 a.cols) a.cols b).map (·.1)).length<=1:=by
   generalize (df (g0 a.cols) a.cols b).map (·.1)=i at c d
   match i,c,d with
   | [],_,_=>simp
   | [g],_,_=>simp
   | g::j::i,c,d=>
    have k:=d g (by simp)
    have l:=d j (by simp)
    rw[k,l] at c
    simp at c
  rw[bQ] at m;omega
 .have:=hy (g0 a.cols) a.cols b;unfold g0 at this ⊢;rw[VU h] at this ⊢;simp at this;omega
theorem Af(b:List (Int×Bool))(d c:Nat)(a:List (List aH)):(nG b d c a).length<=a.length:=by unfold nG;have:=(cB b a).length_eq;rw[List.length_drop,List.length_take];omega
theorem lp:∀(c:List Int) (a:Int),a<=c.foldl max a/\∀d∈c,d<=c.foldl max a
 | [],a=>⟨Int.le_refl _,λd b=>by cases b⟩
 | f::c,a=>by obtain⟨g,e⟩:=lp c (max a f);refine⟨by rw[List.foldl_cons];omega,λd b=>?_⟩;rw[List.foldl_cons];rcases dr b with rfl|b;(.omega);.exact e d b
theorem im:∀(a:List Int) (c:Int),(∀b∈a,0<=b)->a.foldl (λc b=>min (c+b) 2147483648) c<=2147483647->c+a.sum=a.foldl (λc b=>min (c+b) 2147483648) c
 | [],c,_,_=>by simp
 | g::a,c,e,h=>by
  rw[List.foldl_cons] at h ⊢;have m:=e g (List.mem_cons_self ..);have k:=im a (min (c+g) 2147483648) (λb d=>e b (List.mem_cons_of_mem _ d)) h
  have l:0<=a.sum:=by
   have:∀a:List Int,(∀b∈a,0<=b)->0<=a.sum:=λa=>by
    induction a with
    | nil=>intro _;simp
    | cons j a i=>intro f;rw[List.sum_cons];have:=f j (by simp);have:=i (λb d=>f b (by simp[d]));omega
   exact this a λb d=>e b (List.mem_cons_of_mem _ d)
  rw[List.sum_cons];omega
theorem l7:∀(b:List Int),(∀a∈b,0<=a)->∀a∈b,a<=b.sum
 | [],_,a,c=>by cases c
 | g::b,d,a,c=>by
  have j:0<=b.sum:=by
   have:∀b:List Int,(∀a∈b,0<=a)->0<=b.sum:=λb=>by
    induction b with
    | nil=>intro _;simp
    | cons i b f=>intro e;rw[List.sum_cons];have:=e i (by simp);have:=f (λa c=>e a (by simp[c]));omega
   exact this b λa c=>d a (List.mem_cons_of_mem _ c)
  have k:=d g (List.mem_cons_self ..);rw[List.sum_cons];rcases dr c with rfl|c;.omega
  .have:=l7 b (λa c=>d a (List.mem_cons_of_mem _ c)) a c;omega
theorem o8(d:List Tb):∀c:List Pl,(hX d c).1=0->∀e∈c,(bK d e).1=0
 | [],_,e,a=>by cases a
 | f::c,h,e,a=>by rw[hX] at h;by_cases b:(bK d f).1=0;(.rw[ba b] at h;rcases dr a with rfl|a;(.exact b);.exact o8 d c h e a);.rw[VU b] at h;exact absurd h b
def cy(c:List Tb)(b:Pl):List (List Int):=b.args.map λa=>(bK c a).2
structure BF(ts:List Tb)(p:Pl):Prop where
 s:fD p=true
 x:p.ex.any hg=false
 c:∀c∈p.args,eR c=true/\(bK ts c).1=0
 o:bK ts p=bA ts p (cy ts p)
 z:(bA ts p (cy ts p)).1=0
theorem iq(a:eR p=true)(h:(bK T p).1=0):BF T p:=by
 rw[kl] at a;simp only[cc,Bool.not_eq_true'] at a;have c:(hX T p.args).1=0:=by by_cases b:(hX T p.args).1=0;(.exact b);.rw[kk,VU b] at h;exact h
 have b:=o8 T p.args c;have g:=lY T p.args λk j i=>b j (VQ i);have e:bK T p=bA T p (cy T p):=by rw[kk,ba c,g];rfl
 exact⟨a.1.1,a.1.2,λf d=>⟨by have:=cL a.2 d;simpa using this,b f d⟩,e,by rw[<-e];exact h⟩
theorem BF.a2(h:BF T p):hm p:=gF h.s
theorem BF.one(b:p.args.length=1):∃a,p.args=[a]:=List.length_eq_one_iff.1 b
theorem hN{α:Type}{c:List α}(h:c.length=2):∃a b,c=[a,b]:=by
 match c,h with
 | [a,b],_=>exact⟨a,b,rfl⟩
theorem wA(n:(T.map Tb.name).Nodup){e:ByteArray}{b:Tb}(h:T.find? (λb=>decide (b.name=e))=some b):Ee T e=max (b.rows.length:Int) 1:=by
 unfold Ee
 have key:∀(c:List Tb) (a:Int),(∀g∈c,¬g.name=e)->c.foldl (λa b=>if b.name=e then max (b.rows.length:Int) 1 else a) a=a:=by
  intro c
  induction c with
  | nil=>intro a _;rfl
  | cons g c k=>intro a d;rw[List.foldl_cons,VU (d g (by simp))];exact k a λl j=>d l (by simp[j])
 have:∀(c:List Tb) (a:Int),(c.map Tb.name).Nodup->c.find? (λb=>decide (b.name=e))=some b->c.foldl (λa b=>if b.name=e then max (b.rows.length:Int) 1 else a) a=max (b.rows.length:Int) 1:=by
  intro c
  induction c with
  | nil=>intro a _ h;simp at h
  | cons g c k=>
   intro a i f
   simp only[dX,List.nodup_cons] at i
   rw[List.foldl_cons]
   by_cases d:g.name=e
   .rw[List.find?_cons_of_pos (by simpa using d)] at f
    injection f with f
    subst f
    rw[ba d]
    exact key c _ λl j m=>i.1 (by rw[d,<-m];exact fA j)
   .rw[List.find?_cons_of_neg (by simpa using d)] at f
    rw[VU d]
    exact k a i.2 f
 exact this T 1 n h
theorem hv{c:Pl}(j:hm p)(i:c∈p.args)(h:bC T p<=2147483647):bC T c<=bC T p:=by
 have k:=λc=>dl T c;rw[ff T p] at h ⊢;unfold eP at h ⊢;have e:bC T c∈p.args.map (bC T):=fA i;have n:∀a∈p.args.map (bC T),1<=a/\a<=2147483648:=λa d=>by obtain⟨s,_,rfl⟩:=b6 d;exact k s
 suffices A:bC T c<=gi T p.op p.au (p.args.map (bC T)) by omega
 have b:gi T p.op p.au (p.args.map (bC T))<=2147483647:=by omega
 clear h;unfold gi at b ⊢;by_cases q:p.op=1;.exfalso;have:=(j.a);unfold eo at this;rw[q] at this;(have v:p.args.length=0:=by simpa using this);rw[dF v] at i;cases i
 .rw[VU (by simpa using q)] at b ⊢;by_cases m:p.op=4∨p.op=5;(·(have y:p.args.length=2:=by rcases m with l|l;exact(h3 l j).1;exact(Vp l j).1);obtain⟨a,f,o⟩:=hN y;(have u:(p.op == 4 || p.op == 5)=true:=by simpa using m);rw[ba u,o] at b ⊢;rw[o] at e;simp only[dX,List.map_nil,List.foldl_cons,List.foldl_nil] at b ⊢;have d:=k a;have z:=k f;(have t:min (1*bC T a) 2147483648=bC T a:=by omega);rw[t] at b ⊢;have w:bC T a*1<=bC T a*bC T f:=Int.mul_le_mul_of_nonneg_left z.1 (by omega);have x:1*bC T f<=bC T a*bC T f:=Int.mul_le_mul_of_nonneg_right d.1 (by omega);simp only[dX,List.map_nil,List.mem_cons,List.not_mem_nil,or_false] at e;rcases e with g|g;(.rw[g];omega);.rw[g];omega);.rw[VU (by simpa using m)] at b ⊢;by_cases r:p.op=8;(.rw[ba (by simpa using r)] at b ⊢;have w:=im (p.args.map (bC T)) 0 (λa d=>by have:=(n a d).1;omega) b;have x:=l7 (p.args.map (bC T)) (λa d=>by have:=(n a d).1;omega) _ e;omega);.rw[VU (by simpa using r)] at b ⊢;exact(lp _ 1).2 _ e
theorem iR{a:List Tb}(w:eI a=true):∀(D:Nat) (b:Pl),b.size<=D->eR b=true->(bK a b).1=0->bC a b<=2147483647->((cg a b).length:Int)<=bC a b
 | 0,b,q,_,_,_=>by rw[Pl.ak] at q;omega
 | D+1,b,q,N,S,r=>by
  have t:=iq N S;have i:=t.a2;have p:∀e∈b.args,((cg a e).length:Int)<=bC a e:=λe l=>iR w D e (by have:=Pl.az l;rw[Pl.ak] at q;omega) (t.c e l).1 (t.c e l).2 (by have:=hv i l r;omega);have W:=dl a b;have R:∀y:Int,y<=gi a b.op b.au (b.args.map (bC a))->y<=2147483648->y<=bC a b:=λy j n=>by rw[ff];unfold eP;omega
  have one:b.args.length=1->¬b.op=1->¬(b.op=4∨b.op=5)->¬b.op=8->∀m:Nat,m<=max 1 (n9 (b.args.map (cg a))).length->(m:Int)<=bC a b:=λj Z VW VX m M=>by obtain⟨e,l⟩:=List.length_eq_one_iff.1 j;(have I:e∈b.args:=by rw[l];simp);have n:=p e I;have A:=hv i I r;rw[l] at M;have u:n9 ([e].map (cg a))=cg a e:=rfl;rw[u] at M;omega
  rw[iS];unfold ef;rcases fN i with c|c|c|c|c|c|c|c|c|c|c|c
  .rw[ba c]
   have C:=t.z
   unfold bA nI at C
   rw[c] at C
   cases J:a.find? (λF=>decide (F.name=b.au)) with
   | none=>simp[J] at C
   | some F=>
    have Q:(a.map Tb.name).Nodup:=by
     unfold eI hh at w
     simp only[cc,cF] at w
     exact w.2.2
    have j:=wA Q J
    simp only[bQ]
    have n:bC a b=min (max (max (F.rows.length:Int) 1) 1) 2147483648:=by rw[ff];unfold eP gi;rw[ba (by simpa using c),j]
    omega
  .rw[VU (by omega),ba c];obtain⟨j,n⟩:=jc c i;obtain⟨g,B⟩:∃g,b.ex=[g]:=List.length_eq_one_iff.1 n;(have:b.ex[0]?=some g:=by rw[B];rfl);rw[this];refine one j (by omega) (by omega) (by omega) _ ?_;have:=List.length_filter_le (λV=>VK (bZ V g)) (n9 (b.args.map (cg a)));simp only;omega
  .rw[VU (by omega),VU (by omega),ba c];exact one (jU c i).1 (by omega) (by omega) (by omega) _ (by rw[bQ];omega)
  all_goals first
   | (have E : b.op = 4 ∨ b.op = 5 := by omega
      have K : b.args.length = 2 ∧ b.ex.length = 1 := by rcases E with c | c; exact h3 c i; exact Vp c i
      rw [VU (by omega), VU (by omega), VU (by omega), ba E]
      obtain ⟨d, f, k⟩ := hN K.1
      obtain ⟨g, B⟩ : ∃ g, b.ex = [g] := List.length_eq_one_iff.1 K.2
      have x := p d (by rw [k]; simp)
      have Y := p f (by rw [k]; simp)
      have VY := dl a d
      have VZ := dl a f
      have L : ((oR a b (b.args.map (cg a))).length : Int) ≤ ((cg a d).length : Int) * (max 1 (cg a f).length : Nat) := by
        unfold oR
        rw [B, k]
        show ((if _ then el 0 _ _ g _ (cg a d) (cg a f) else el 1 _ _ g _ (cg a f) (cg a d)).length : Int) ≤ _
        split
        . have := rH (s := 0) (n1 := kq a b 0) (n2 := kq a b 1) (e := g) (al := b.op == 5) (hs := cg a d) (ps := cg a f) (by omega)
          simp only [ba] at this
          rw [← Int.natCast_mul]
          exact Int.ofNat_le.2 this
        . have := rH (s := 1) (n1 := kq a b 0) (n2 := kq a b 1) (e := g) (al := b.op == 5) (hs := cg a f) (ps := cg a d) (by omega)
          simp only [Nat.one_ne_zero, if_false] at this
          rw [← Int.natCast_mul]
          exact Int.ofNat_le.2 this
      have P : ((max 1 (cg a f).length : Nat) : Int) ≤ bC a f := by omega
      have j : ((cg a d).length : Int) * (max 1 (cg a f).length : Nat) ≤ bC a d * bC a f := Int.mul_le_mul x P (by omega) (by omega)
      have v : gi a b.op b.au (b.args.map (bC a)) = min (bC a d * bC a f) 2147483648 := by
        unfold gi
        rw [VU (by simp; omega), ba (by simpa using E), k]
        simp only [dX, List.map_nil, List.foldl_cons, List.foldl_nil]
        rw [show min (1 * bC a d) 2147483648 = bC a d by omega]
      have X : bC a b = min (max (min (bC a d * bC a f) 2147483648) 1) 2147483648 := by rw [ff]; unfold eP; rw [v]
      omega)
   | skip
  .rw[VU (by omega),VU (by omega),VU (by omega),VU (by omega),ba c];exact one (Vq c i).1 (by omega) (by omega) (by omega) _ (wq b _)
  .rw[VU (by omega),VU (by omega),VU (by omega),VU (by omega),VU (by omega),ba c];exact one (jT c i) (by omega) (by omega) (by omega) _ (cw (tU _ _) (Nat.le_max_right _ _))
  .rw[VU (by omega),VU (by omega),VU (by omega),VU (by omega),VU (by omega),VU (by omega),ba c];(have v:gi a b.op b.au (b.args.map (bC a))=(b.args.map (bC a)).foldl (λm d=>min (m+d) 2147483648) 0:=by unfold gi;rw[c];rfl);(have L:(b.args.map (bC a)).foldl (λm d=>min (m+d) 2147483648) 0<=2147483647:=by rw[<-v];rw[ff] at r;unfold eP at r;omega);have j:=im (b.args.map (bC a)) 0 (λd x=>by obtain⟨z,_,rfl⟩:=b6 x;have:=dl a z;omega) L
   have n:∀o:List Pl,(∀e∈o,((cg a e).length:Int)<=bC a e)->(((o.map (cg a)).flatten.length:Nat):Int)<=(o.map (bC a)).sum:=by
    intro o
    induction o with
    | nil=>intro _;simp
    | cons e o T=>
     intro h
     have A:=T λz O=>h z (by simp[O])
     have G:=h e (by simp)
     simp only[dX,List.flatten_cons,bG,List.sum_cons]
     omega
   have A:=n b.args p;exact R _ (by rw[v];omega) (by omega)
  .rw[VU (by omega),VU (by omega),VU (by omega),VU (by omega),VU (by omega),VU (by omega),VU (by omega),ba c];exact one (jS c i) (by omega) (by omega) (by omega) _ (cw (Af _ _ _ _) (Nat.le_max_right _ _))
  .rw[VU (by omega),VU (by omega),VU (by omega),VU (by omega),VU (by omega),VU (by omega),VU (by omega),VU (by omega),ba c];exact one (gd c i).1 (by omega) (by omega) (by omega) _ (by rw[la];omega)
  .rw[VU (by omega),VU (by omega),VU (by omega),VU (by omega),VU (by omega),VU (by omega),VU (by omega),VU (by omega),VU (by omega),ba c];obtain⟨d,f,k⟩:=hN (iy c i);have x:=p d (by rw[k];simp);have A:=hv i (c:=d) (by rw[k];simp) r;have G:(dP (Ed (b.args.map (cg a))) (n9 (b.args.map (cg a)))).length<=(n9 (b.args.map (cg a))).length:=tU _ _;(have u:n9 (b.args.map (cg a))=cg a d:=by rw[k];rfl);rw[u] at G;rw[u];omega
  .rw[VU (by omega),VU (by omega),VU (by omega),VU (by omega),VU (by omega),VU (by omega),VU (by omega),VU (by omega),VU (by omega),VU (by omega)];simp only[List.length_nil];omega
theorem jg(h:bY I):eO (aH.num I):=⟨h,bt,rfl⟩
theorem yt(h:n<=4294967296):bY (n:Int):=⟨by omega,by omega⟩
theorem qU(a:Nat)(b:Int):eO (kx a b):=by
 unfold kx;split;.exact jC
 .exact jg (n4 _)
theorem rP(h:∀x∈y,eO x)(a:Nat):eO (y.getD a .null):=by
 rw[cQ];cases b:y[a]? with
 | none=>exact jC
 | some x=>exact h x (VQ b)
theorem xU(h:∀d∈r,dH n d)(a b:Nat):eO ((r.getD a []).getD b .null):=by
 rw[cQ (l:=r)];cases c:r[a]? with
 | none=>exact jC
 | some e=>exact rP (h e (VQ c)).val b
theorem CL(h:∀c∈x,eO c)(a:x.length<=4294967296):eO (gV I x):=by
 unfold gV;have e:=BO x;have f:=tU (λd b=>decide (¬b∈d)) (gZ x);have g:=yY x;split;.exact jg (yt a)
 .split;(.exact jg ⟨by omega,by omega⟩);.split;(.exact qU _ _);.split;(.exact jg (yt (by unfold ih;omega)));.exact DM h
theorem wo(d:∀c∈r,dH n c)(q:r.length<=4294967296):∀c∈fk p r,dH (p.cols.length+p.aggs.length) c:=λc h=>by
 unfold fk at h
 obtain⟨e,k,rfl⟩:=b6 h
 have j:=fh (tL p.cols) p.cols r e k
 have s:∀c∈e.2,c∈r:=λc d=>by rw[j] at d;exact(List.mem_filter.1 d).1
 have a:e.1.length=p.cols.length/\∀g∈e.1,eO g:=by
  rcases(gq p.cols r e.1).1 (fA k) with a|⟨f,i,m⟩
  .unfold g0 at a
   split at a
   .rename_i o
    simp at a
    rw[a,o]
    exact⟨rfl,λg b=>by cases b⟩
   .cases a
  .rw[<-m]
   exact⟨by simp[eC],nx (d f i)⟩
 refine⟨by simp[dO,a.1],λg b=>?_⟩
 unfold dO at b
 rcases cM b with b|b
 .exact a.2 g b
 .obtain⟨t,_,rfl⟩:=b6 b
  refine CL (λu l=>?_) (by unfold g2;rw[bQ,j];exact cw (List.length_filter_le _ _) q)
  unfold g2 at l
  obtain⟨f,i,rfl⟩:=b6 l
  exact rP (d f (s f i)).val _
theorem xm{p:Pl}(f:∀g∈r,dH n g)(i:r.length<=4294967296):∀d∈gY p r,eO d:=λd a=>by
 unfold gY at a
 split at a
 .unfold kJ at a
  obtain⟨c,b,rfl⟩:=b6 a
  have:=List.mem_range.1 b
  exact jg ⟨by omega,by omega⟩
 .split at a
  .unfold fg at a
   obtain⟨c,b,rfl⟩:=b6 a
   have:=List.mem_range.1 b
   have e:=sP p.keys r (c+1)
   refine jg ?_
   split
   .exact⟨by omega,by omega⟩
   .exact⟨by omega,by omega⟩
  .split at a
   .unfold eY at a
    obtain⟨c,b,rfl⟩:=b6 a
    split
    .exact xU f _ _
    .exact jC
   .unfold fd at a
    obtain⟨c,b,rfl⟩:=b6 a
    have:=List.mem_range.1 b
    have e:=l8 r p.aj.toNat p.n (c+1)
    split
    .exact jg ⟨by omega,by omega⟩
    .exact qU _ _
theorem sF(t:∀b∈r,dH m b)(q:r.length<=4294967296):∀b∈eE p r,dH (m+1) b:=λb h=>by
 unfold eE at h
 obtain⟨a,d,h⟩:=List.mem_flatMap.1 h
 have g:=fh (l0:=[]) (λa d=>by cases d) p.cols r a d
 have i:∀b∈cj p.keys a.2,dH m b:=λb h=>by
  have:=(cB p.keys a.2).mem_iff.1 h
  rw[g] at this
  exact t b (List.mem_filter.1 this).1
 have s:(cj p.keys a.2).length<=4294967296:=by
  rw[(cB p.keys a.2).length_eq,g]
  exact cw (List.length_filter_le _ _) q
 unfold fv at h
 obtain⟨j,o,e⟩:=List.mem_iff_getElem.1 h
 rw[List.getElem_zipWith] at e
 rw[<-e]
 rw[List.length_zipWith] at o
 have f:=i _ (List.getElem_mem (l:=cj p.keys a.2) (n:=j) (by omega))
 have k:=xm i s (p:=p) _ (List.getElem_mem (l:=gY p (cj p.keys a.2)) (n:=j) (by omega))
 refine⟨by rw[bG,f.len];rfl,λu c=>?_⟩
 rcases cM c with c|c
 .exact f.val u c
 .rw[List.mem_singleton] at c
  rw[c];exact k
theorem ui{a:List (Int×Bool)}:∀b∈nG a n m r,b∈r:=λb c=>(cB a r).mem_iff.1 (List.mem_of_mem_take (List.mem_of_mem_drop c))
def Sk(c:List Tb):Prop:=∀b∈c,∀a∈b.rows,∀d∈a,bY d.n
theorem uj(e:e5 T=true)(m:Sk T){b:Tb}(j:b∈T):∀c∈b.rows,dH b.cols.length (cp c):=λc i=>by
 unfold e5 at e
 simp only[cc,Bool.not_eq_true'] at e
 have g:=cL e.2 j
 unfold Vr at g
 have a:=cL g i
 simp only[Bool.not_eq_false'] at a
 unfold U1 at a
 simp only[cc,cF,Bool.not_eq_true',bQ] at a
 refine⟨by unfold cp;rw[bQ];exact a.1,λn l=>?_⟩
 unfold cp at l
 obtain⟨p,k,rfl⟩:=b6 l
 obtain⟨f,o,rfl⟩:=List.mem_iff_getElem.1 k
 have d:=cL a.2 (x:=(c[f],(b.cols.map Prod.snd)[f]'(by rw[bQ];omega))) (by
  rw[List.mem_iff_getElem]
  exact⟨f,by rw[List.length_zip,bQ];omega,by rw[List.getElem_zip]⟩)
 simp only[Bool.not_eq_false'] at d
 unfold p8 at d
 simp only[Bool.not_eq_true',Bool.or_eq_false_iff,decide_eq_false_iff_not] at d
 exact⟨sf _ (m b j c i _ k),by omega,qo _⟩
theorem hP{b:List Tb}(u:e5 b=true)(I:Sk b):∀(o:Nat) (a:Pl),a.size<=o->a.fin->eR a=true->(bK b a).1=0->bC b a<=2147483647->∀i∈cg b a,dH (bK b a).2.length i
 | 0,a,z,_,_,_,_=>by rw[Pl.ak] at z;omega
 | o+1,a,z,G,O,X,S=>by
  have V:eI b=true:=by unfold e5 at u;simp only[cc] at u;exact u.1
  have r:=iq O X;have l:=r.a2;have T:∀c∈a.args,c.size<=o:=λc e=>by have:=Pl.az e;rw[Pl.ak] at z;omega
  have A:∀c∈a.args,bC b c<=2147483647:=λc e=>by have:=hv l e S;omega
  have m:∀c∈a.args,∀i∈cg b c,dH (bK b c).2.length i:=λc e=>hP u I o c (T c e) (Pl.av (Pl.an G).2.2 e) (r.c c e).1 (r.c c e).2 (A c e);have D:∀c∈a.args,(cg b c).length<=4294967296:=λc e=>by have s:=iR V c.size c bi (r.c c e).1 (r.c c e).2 (A c e);have:=A c e;omega
  have W:=(Pl.an G).2.1;rw[r.o,iS];unfold ef bA;have one:a.args.length=1->∃c,c∈a.args/\n9 (a.args.map (cg b))=cg b c/\bV (cy b a)=(bK b c).2:=λs=>by obtain⟨c,e⟩:=List.length_eq_one_iff.1 s;exact⟨c,by rw[e];simp,by rw[e];rfl,by unfold cy bV;rw[e];rfl⟩
  rcases fN l with d|d|d|d|d|d|d|d|d|d|d|d
  .rw[d,ba rfl,ba (show ((1:Int) == 1)=true from rfl)]
   unfold nI
   intro i f
   cases y:b.find? (λM=>decide (M.name=a.au)) with
   | none=>rw[y] at f;cases f
   | some M=>
    rw[y] at f
    obtain⟨x,v,rfl⟩:=b6 f
    simp only[bQ]
    exact uj u I (List.mem_of_find?_eq_some y) x v
  .obtain⟨s,N⟩:=jc d l;obtain⟨c,e,j,k⟩:=one s;rw[d,VU (by decide),ba rfl,j];simp only[show ((2:Int) == 1)=false from rfl,show ((2:Int) == 12)=false from rfl,show ((2:Int) == 8)=false from rfl,show ((2:Int) == 11)=false from rfl,show ((2:Int) == 2)=true from rfl,Bool.false_eq_true,Bool.or_self,if_false,if_true,k];intro i f;split at f;(.exact m c e i (List.mem_filter.1 f).1);.cases f
  .obtain⟨s,N⟩:=jU d l;obtain⟨c,e,j,k⟩:=one s;rw[d,VU (by decide),VU (by decide),ba rfl,j];simp only[show ((3:Int) == 1)=false from rfl,show ((3:Int) == 12)=false from rfl,show ((3:Int) == 8)=false from rfl,show ((3:Int) == 11)=false from rfl,show ((3:Int) == 2)=false from rfl,show ((3:Int) == 3)=true from rfl,Bool.false_eq_true,Bool.or_self,if_false,if_true,k];intro i f;obtain⟨x,v,rfl⟩:=b6 f;unfold fx;rw[bQ];exact xl (m c e x v) W
  all_goals first
   | (have C : a.op = 4 ∨ a.op = 5 := by omega
      have J : a.args.length = 2 ∧ a.ex.length = 1 := by rcases C with d | d; exact h3 d l; exact Vp d l
      obtain ⟨p, t, n⟩ := hN J.1
      obtain ⟨q, P⟩ : ∃ q, a.ex = [q] := List.length_eq_one_iff.1 J.2
      rw [VU (by omega), VU (by omega), VU (by omega), ba C]
      have g : (bA b a (cy b a)).2 = (bK b p).2 ++ (bK b t).2 := by
        unfold bA cy bV gU
        rcases C with d | d <;> rw [d, n] <;> rfl
      unfold bA at g
      rw [g, bG]
      intro i f
      unfold oR at f
      rw [P, n] at f
      have Z : kq b a 0 = (bK b p).2.length := by unfold kq; rw [n]; rfl
      have VW : kq b a 1 = (bK b t).2.length := by unfold kq; rw [n]; rfl
      have K := m p (by rw [n]; simp)
      have L := m t (by rw [n]; simp)
      change i ∈ (if zV b a 0 < zV b a 1 then el 0 (kq b a 0) (kq b a 1) q (a.op == 5) (cg b p) (cg b t) else el 1 (kq b a 0) (kq b a 1) q (a.op == 5) (cg b t) (cg b p)) at f
      rw [Z, VW] at f
      split at f
      . exact rF (by omega) (by simpa [eQ] using K) (by simpa [eQ] using L) i f
      . exact rF (by omega) (by simpa [eQ] using L) (by simpa [eQ] using K) i f)
   | skip
  .obtain⟨c,e,j,k⟩:=one (Vq d l).1;rw[d,VU (by decide),VU (by decide),VU (by decide),VU (by decide),ba rfl,j];(have g:(bA b a (cy b a)).2=hS (bV (cy b a)) a.cols a.aggs:=by unfold bA;rw[d];rfl);unfold bA at g;rw[d] at g;rw[g];unfold hS;rw[bG,bQ,bQ];exact wo (m c e) (D c e)
  .obtain⟨c,e,j,k⟩:=one (jT d l);rw[d,VU (by decide),VU (by decide),VU (by decide),VU (by decide),VU (by decide),ba rfl,j];(have g:(bA b a (cy b a)).2=bV (cy b a):=by unfold bA;rw[d];rfl);unfold bA at g;rw[d] at g;rw[g,k];exact λi f=>m c e i (qa _ _ i f)
  .rw[d,VU (by decide),VU (by decide),VU (by decide),VU (by decide),VU (by decide),VU (by decide),ba rfl];(have g:(bA b a (cy b a)).2=bV (cy b a):=by unfold bA;rw[d];rfl);have B:=r.z;(have Y:(bA b a (cy b a)).1=if ((cy b a).drop 1).any (λo=>!decide (o=bV (cy b a))) then 4 else 0:=by unfold bA;rw[d];rfl);rw[Y] at B
   have F:((cy b a).drop 1).any (λo=>!decide (o=bV (cy b a)))=false:=by
    cases R:((cy b a).drop 1).any (λo=>!decide (o=bV (cy b a))) with
    | false=>rfl
    | true=>rw[R] at B;simp at B
   unfold bA at g;rw[d] at g;rw[g];intro i f;obtain⟨x,v,f⟩:=List.mem_flatten.1 f;obtain⟨c,e,rfl⟩:=b6 v;have:=m c e i f
   have Q:(bK b c).2=bV (cy b a):=by
    have w:(bK b c).2∈cy b a:=fA e
    cases E:cy b a with
    | nil=>rw[E] at w;cases w
    | cons VX VY=>
     rw[E] at w F
     rcases dr w with q|q
     .rw[q];rfl
     .have:=cL F (x:=(bK b c).2) (by simpa using q)
      simpa using this
   rw[<-Q];exact this
  .obtain⟨c,e,j,k⟩:=one (jS d l);rw[d,VU (by decide),VU (by decide),VU (by decide),VU (by decide),VU (by decide),VU (by decide),VU (by decide),ba rfl,j];(have g:(bA b a (cy b a)).2=bV (cy b a):=by unfold bA;rw[d];rfl);unfold bA at g;rw[d] at g;rw[g,k];exact λi f=>m c e i (ui i f)
  .obtain⟨c,e,j,k⟩:=one (gd d l).1;rw[d,VU (by decide),VU (by decide),VU (by decide),VU (by decide),VU (by decide),VU (by decide),VU (by decide),VU (by decide),ba rfl,j];(have g:(bA b a (cy b a)).2=hM (bV (cy b a)) a.fn a.aj:=by unfold bA;rw[d];rfl);unfold bA at g;rw[d] at g;rw[g,k];unfold hM;rw[bG];exact sF (m c e) (D c e)
  .obtain⟨p,t,n⟩:=hN (iy d l);rw[d,VU (by decide),VU (by decide),VU (by decide),VU (by decide),VU (by decide),VU (by decide),VU (by decide),VU (by decide),VU (by decide),ba rfl];(have g:(bA b a (cy b a)).2=bV (cy b a):=by unfold bA;rw[d];rfl);unfold bA at g;rw[d] at g;(have j:n9 (a.args.map (cg b))=cg b p:=by rw[n];rfl);(have k:bV (cy b a)=(bK b p).2:=by unfold cy bV;rw[n];rfl);rw[g,j,k];exact λi f=>m p (by rw[n];simp) i (qa _ _ i f)
  .rw[d,VU (by decide),VU (by decide),VU (by decide),VU (by decide),VU (by decide),VU (by decide),VU (by decide),VU (by decide),VU (by decide),VU (by decide)];intro i f;cases f
end Go.Proofs.YtklgoolblpmmlaaGreat
