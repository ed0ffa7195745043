import Derived.Test.YtklgoolblpmmlaaGreatJpA
import Derived.Maps.Range
import Derived.Test.YtklgoolblpmmlaaGreatRows
set_option linter.all false
set_option maxHeartbeats 8000000
set_option maxRecDepth 100000
namespace Go.Proofs.YtklgoolblpmmlaaGreat
open Go.RowKit Go.Sort Go.Lib Go.Proofs.Tryz Go.ChangeShapes Go.WideShapes Go.ChangeAt Go.Joins Go.Deep
theorem kP{key:Value}{b:Lit}(h:keyOf prog 9 key=some b):∃a:ByteArray,key=.string a/\b=cJ.l a:=by
 unfold keyOf at h;rw[underlying9] at h;cases key with
 | string a=>simp[mapKey,Lit.wf] at h;exact⟨a,rfl,h.2.symm⟩
 | _=>simp[mapKey] at h
variable{v:Value}{W w:World}{k m n:Nat}{A r:List (List aH)}{P:Nat->Prop}{a:Option Addr}{g:Pm}{T:List Tb}{I:Int}{D:List Value}
theorem wG{b:DataW Unit×List MemPlace}(h:plainElem prog 3 v=some b):∃a:Int,v=.int .i64 a/\b.1=.lit (.int .i64 a):=by
 unfold plainElem at h;rw[underlying3] at h;cases v with
 | int c a=>simp at h;obtain⟨⟨rfl,_⟩,rfl⟩:=h;exact⟨a,rfl,rfl⟩
 | _=>simp at h
def D9(g:World)(d f:Nat)(b:List (List aH))(left:Lit->Bool)(e:Nat):Prop:=∃c:DataW Unit,g.ranges prog 9 (plainElem prog 3) d f b.length c left e/\(∀a,c.atKey (cJ.l a) (.lit (.int .i64 0))=.lit (.int .i64 (dd b a)))/\∀a,left (cJ.l a)=true->dd b a≠0
theorem h9.range(h:h9 w n r):∃a left c,(Instr.range 50 (.map (some n))).run prog w=.ok (.pointer (some ⟨w.heap.size,0,none⟩)) a/\D9 a n w.heap.size r left c/\Bw w a/\a.heap.size=w.heap.size+1:=by obtain⟨b,e,q,f,g,s⟩:=h;obtain⟨a,k,i,j,l⟩:=e.range cJ.K underlying50;exact⟨a,_,_,k,⟨b,i,f,λo m=>(g o).1 m⟩,bB j bi (λp d=>by cases d),l⟩
theorem D9.next{left:Lit->Bool}(h:D9 w n m r left k)(e:TypeId):(Instr.next (.pointer (some ⟨m,0,none⟩)) false e).run prog w=.ok (.tuple #[.bool false]) w∨∃(a:ByteArray) (b:World) (B:Lit->Bool) (c:Nat),dd r a≠0/\(Instr.next (.pointer (some ⟨m,0,none⟩)) false e).run prog w=.ok (.tuple #[.bool true,.string a,.int .i64 (dd r a)]) b/\D9 b n m r B c/\b.rangeLeft n m<w.rangeLeft n m/\w.grownBy b (some m)/\(Instr.entry (.pointer (some ⟨m,0,none⟩))).run prog b=.ok (.tuple #[.string a,.int .i64 (dd r a)]) b:=by
 obtain⟨o,i,f,g⟩:=h;rcases i.next cJ.K e with ⟨_,_,d⟩|⟨key,E,D,F,b,c,v,x,z,q,d,j,y,u,_,t⟩
 .exact .inl d
 .obtain⟨a,rfl,rfl⟩:=kP v;obtain⟨p,rfl,A⟩:=wG z;(have s:p=dd r a:=by have:=q (.lit (.int .i64 0));rw[f a,A] at this;simp only[DataW.lit.injEq,Lit.int.injEq,true_and] at this;exact this.symm);subst s;exact .inr ⟨a,b,_,c,g a x,d,⟨o,j,f,λC l=>g C (by simp only[cc] at l;exact l.1)⟩,by rw[j.left_eq,i.left_eq];exact y,u,t⟩
theorem fQ.a4(h:fQ P w v r):∃a b,v=.slice a r.length b/\ga w a r:=by
 by_cases f:r=[];.obtain⟨a,b,d⟩:=h.form;exact⟨a,b,d,.inl f⟩
 .obtain⟨y,l⟩:∃g,r[0]?=some g:=⟨_,VR (by cases r with|nil=>exact absurd rfl f|cons _ _=>simp)⟩;obtain⟨i,b,o,x,d,_⟩:=h.get l;refine⟨_,b,d,.inr ⟨i,0,rfl,λu g k=>?_⟩⟩;obtain⟨t,p,a,n,e,j,_,m,_⟩:=h.get k;rw[d] at e;injection e with c q s;injection c with c;injection c with c;subst c;exact⟨a,n,by rw[bI];exact j,m⟩
def Dq(f:List Tb)(e:Pl)(a:World)(i:Ending)(c:World):Prop:=∃g d,i=.returned (.tuple #[g,.bool (gO f e == 0)])/\fQ d c g (VC f e)/\(∀b,d b->a.heap.size<=b/\b<c.heap.size)/\Bw a c
theorem hY(b:List Tb)(C:∀S∈b,S.fin)(D:Sk b)(R:b.length<=1048576)(n:Option Addr)(t:Nat)(a:Pl)(B:a.fin)(E:a.aQ)(F:bC b a<=2147483647)(d:Pm)(c:World)(z:hI c a d)(y:lZ c n b):Calls prog 14 #[a.val d,.slice n b.length t] c (Dq b a c):=by
 have m:=am (VT _ c) (a.box d);have k:=H (dL.new c a d).load;have e:=H (ud b C D R n t a B E F d (c.alloc (a.box d)) (z.aa m) (y.aa m));have j:=H m;rw[Pl.ad] at k e ⊢;unfold Pl.box at k j e;obtain⟨r,q⟩:=bn (c.alloc (a.box d));rw[<-q] at k j e;have N:=H q;obtain⟨J,p⟩:=bj (gO b a);obtain⟨I,o⟩:=bj (VC b a);have s:Hid (∀g l i,fQ l i g I->(∀f,l f->r.heap.size<=f/\f<i.heap.size)->Bw r i->Dq b a c (.returned (.tuple #[g,.bool (J == 0)])) i):=λg l i P u Q=>⟨g,l,by rw[p],by rw[o];exact P,λf G=>⟨by have:=(u f G).1;have:=(U j).size;omega,(u f G).2⟩,ac (U j) Q⟩;unfold BW at e;rw[p,o] at e;obtain⟨V,x⟩:=bj (Dq b a c);rw[x] at s ⊢;clear q m z y C D B E F p o x;go_enter func14,ntmps14;go_upto_region 1 with fail;rw[<-U N]
 go_wp2_with (first
  | (refine a1 ?_ 28 (.tmp 2) rfl _ (by simp[Act.eval]) _ (U k) ?_;. simp[Region.wanted,yielded])
  | (go_at_call 8;refine(U e).mono ?_;rintro W T ⟨g,O,rfl,v,w,A⟩;have L:=H v;have M:=H w;have K:=H A;clear v w A))
 exact U s g O T (U L) (U M) (U K)
def e3:Tb:=⟨⟨#[116]⟩,[(⟨#[97]⟩,1)],[[aH.num 7]]⟩
def gH:Pl:=.mk 1 ⟨#[116]⟩ [] [] [] [] 0 0 0 0 []
def Cn:Pm:=⟨none,0,none,0,none,0,none,0,none,0⟩
theorem UJ:e5 [e3]=true:=by kernel_rfl
theorem tl:iK gH=0:=by kernel_rfl
theorem yE:bK [e3] gH=(0,[1]):=by kernel_rfl
theorem yD:gO [e3] gH=0:=by unfold gO;rw[UJ,ba rfl,ba tl,yE]
theorem Cq:cg [e3] gH=[[aH.num 7]]:=by rw[iS];rfl
theorem Cr:VC [e3] gH=[[aH.num 7]]:=by unfold VC;rw[yD,ba rfl,Cq];exact List.mergeSort_singleton _
theorem AZ:bC [e3] gH<=2147483647:=by rw[ff];decide
theorem A0(a:World):hI a gH Cn:=⟨⟨by rw[show gH.ex=[] from rfl,Ex.all];trivial,.inl rfl,.inl rfl,.inl rfl,bt⟩,by rw[show gH.args=[] from rfl,Pl.all];trivial⟩
theorem yC:gH.fin:=by
 unfold gH;rw[Pl.fin];refine⟨⟨by decide,by decide,by decide,by decide,by decide,by decide,⟨by decide,by decide⟩,(λb a=>by cases a),(λb a=>by cases a),(λb a=>by cases a)⟩,?_,?_⟩;.rw[Ex.ay];trivial
 .rw[Pl.ay];trivial
theorem yB:gH.aQ:=by unfold gH;rw[Pl.aQ,Pl.aO];exact⟨by decide,trivial⟩
theorem UI:∀d∈[e3],d.fin:=λd b=>by
 rw[List.mem_singleton] at b
 subst b
 exact⟨by decide,by decide,(λf c=>by simp[e3] at c;subst c;decide),by decide,(λe a=>by simp[e3] at a;subst a;decide)⟩
theorem A1:Sk [e3]:=λe b d a f c=>by
 rw[List.mem_singleton] at b
 subst b
 simp[e3] at a
 subst a
 simp at c
 subst c
 exact⟨by decide,by decide⟩
abbrev DB (a:World):World:=(((a.alloc (.cells #[.string ⟨#[97]⟩,.int .i64 1] 73)).alloc (.cells #[.int .i64 1,.int .i64 7,.string ⟨#[]⟩] 43)).alloc (.cells #[.slice (some ⟨a.heap.size+1,0,none⟩) 1 1] 40)).alloc (.cells #[.string ⟨#[116]⟩,.slice (some ⟨a.heap.size,0,none⟩) 1 1,.slice (some ⟨a.heap.size+1+1,0,none⟩) 1 1] 63)
theorem Co(b:World):lZ (DB b) (some ⟨b.heap.size+1+1+1,0,none⟩) [e3]/\Bw b (DB b):=by
 refine⟨.inr ⟨_,_,rfl,λf k d=>?_⟩,am (am (am (am VS _) _) _) _⟩;match f,d with
 | 0,d=>
  simp at d;subst d;refine⟨⟨some ⟨b.heap.size,0,none⟩,1,some ⟨b.heap.size+1+1,0,none⟩,1⟩,⟨by simp[go_sem,e3],by simp[go_sem,e3],by simp[go_sem,e3]⟩,⟨.inr ⟨_,_,rfl,λe i a=>?_⟩,.inr ⟨_,_,rfl,λe j c=>?_⟩⟩⟩
  .match e,a with
   | 0,a=>simp[e3] at a;subst a;simp[go_sem]
   | e+1,a=>simp[e3] at a
  .match e,c with
   | 0,c=>
    simp[e3] at c
    subst c
    refine⟨some ⟨b.heap.size+1,0,none⟩,1,by simp[go_sem],.inr ⟨_,_,rfl,λg i a=>?_⟩⟩
    match g,a with
    | 0,a=>simp at a;subst a;simp[go_sem,aH.num]
    | g+1,a=>simp at a
   | e+1,c=>simp[e3] at c
 | f+1,d=>simp at d
theorem oM(a:World):Calls prog 11 #[] a λp w=>p=.returned (.bool true)/\Bw a w:=by
 obtain⟨k,g⟩:=Co a;have c:=H (hY [e3] UI A1 (by decide) (some ⟨a.heap.size+1+1+1,0,none⟩) 1 gH yC yB AZ Cn (DB a) (A0 _) k);have e:=H g;unfold Dq at c;rw[yD,Cr,Pl.ad] at c;simp only[gH,Cn,Pl.op,Pl.au,Pl.ex,Pl.cols,Pl.keys,Pl.aggs,Pl.fn,Pl.aj,Pl.n,Pl.off,Pl.args,List.length_nil,dY,bI] at c;obtain⟨I,d⟩:=bn (DB a);rw[<-d] at c e;unfold DB at d;have n:=H d;clear k g d;go_enter func11,ntmps11;go_upto_region 2 with fail;rw[<-U n];go_upto_region 3 with (go_at_call 14;refine(U c).mono ?_;rintro E G ⟨F,x,rfl,j,s,l⟩;have m:=H (ac (U e) l);have f:=H j;clear j s l);obtain⟨A,z,y,D,r,o,_,b,_⟩:=(U f).get (i:=0) rfl;subst r;rcases b with b|⟨B,C,q,b⟩;.cases b
 obtain⟨t,u,v⟩:=b 0 (aH.num 7) rfl;simp only[Nat.zero_mul,Nat.add_zero,dY,List.length_nil,bI,aH.num] at t u v o;subst q;clear b f;go_wp2;go_ret;exact⟨rfl,U m⟩
variable{p:Pl}
theorem dL.var(h:dL w n 0 p g):(loadVar 28 ⟨n,0,none⟩).run prog w=.ok (p.val g) w:=by obtain⟨a,b,d,c3,e,f,i,j,k,l,c⟩:=h;simp only[bI] at a b d c3 e f i j k l c;rw[Pl.ad];go_simp
variable{e:Ex}
theorem k4(h:gO T p=0):e5 T=true/\eR p=true/\(bK T p).1=0/\VC T p=qV (cg T p):=by
 have c:VC T p=qV (cg T p):=by unfold VC;rw[ba h]
 unfold gO at h;split at h;.rename_i b;split at h;(.rename_i a;exact⟨b,nu a,h,c⟩);.rename_i a;exact absurd h a
 .cases h
def Ec(a i:World)(k:Value)(c:List (List aH)):Prop:=Bw a i/\∃d:List Value,d.length=c.length/\i.ownsRow a.heap.size 40 1 k c.length d/\∀(f:Nat) (g:Value) (b:List aH),d[f]?=some g->c[f]?=some b->∃e j,g=.slice e b.length j/\bX a e b
theorem Ec.a4(h:Ec w W v r):∃a b,v=.slice a r.length b/\ga W a r:=by
 obtain⟨l,p,t,f,m⟩:=h;rcases f.2 with ⟨rfl,e⟩|⟨k,j,q,rfl,_⟩
 .exact⟨none,0,by rw[e],.inl (dF e)⟩
 .refine⟨_,j,rfl,.inr ⟨k,0,rfl,λc o g=>?_⟩⟩;have s:=(bD g).1;obtain⟨d,i⟩:∃d,p[c]?=some d:=⟨_,VR (by omega)⟩;obtain⟨a,b,rfl,n⟩:=m c d o i g;refine⟨a,b,?_,n.aa l⟩;rw[bI,World.ownsRow.cellAt f c (by omega),i]
theorem ee.load(h:ee w n e a m):(Instr.loadAt 45 (.pointer (some ⟨n,0,none⟩))).run prog w=.ok (e.val a m) w:=by obtain⟨b,c,d,c3,f,g⟩:=h;unfold Ex.val;go_simp
theorem qm:Tryz.prog.cellsOf 45=6:=by kernel_rfl
theorem qn:Tryz.prog.cellsOf 43=3:=by kernel_rfl
theorem Sf:Tryz.prog.cellsOf 22=1:=by kernel_rfl
theorem iJ:Tryz.prog.cellsOf 3=1:=by kernel_rfl
theorem zA:Tryz.prog.cellsOf 2=1:=by kernel_rfl
theorem ns:Tryz.prog.cellsOf 9=1:=by kernel_rfl
theorem hc{x:Int}(h:(Lit.int .i64 x).wf=true):bY x:=by simp[Lit.wf,IntKind.min,IntKind.max,IntKind.signed,IntKind.bits] at h;exact⟨by omega,by omega⟩
theorem Ex.aJ:∀(a:List Ex),(∀b∈a,b.fin)->Ex.ay a
 | [],_=>by rw[Ex.ay];trivial
 | c::a,h=>by rw[Ex.ay];exact⟨h c (by simp),Ex.aJ a λb d=>h b (by simp[d])⟩
theorem Eo:ownKnob Tryz.prog.godebug=none:=by kernel_rfl
theorem yG:laidOutB prog=true:=by kernel_rfl
theorem sv(b c a:Nat):(⟨b,c,none⟩:Addr).add a=⟨b,c+a,none⟩:=by by_cases h:a=0<;>simp[Addr.add,h]
theorem nF{Hh:Type}{enc:TypeId×Value->Hh}{a:Program}{w:World}{base:Nat}{spare:Nat->Bool}{held:Bool}{E:TypeId}{d e g i j k l m o p f:Field}{x:DataW Hh×List MemPlace}(I:a.underlying E=some (.struct #[d,e,g,i,j,k,l,m,o,p,f]))(h:DataW.trod enc a w base spare held n E D=some x):∃q r t u v y z A B C s b,x.1=.agg [q.1,r.1,t.1,u.1,v.1,y.1,z.1,A.1,B.1,C.1,s.1]/\D.length=a.cellsOf E/\DataW.trod enc a w base spare held b d.type ((D.drop d.offset).take (a.cellsOf d.type))=some q/\DataW.trod enc a w base spare held b e.type ((D.drop e.offset).take (a.cellsOf e.type))=some r/\DataW.trod enc a w base spare held b g.type ((D.drop g.offset).take (a.cellsOf g.type))=some t/\DataW.trod enc a w base spare held b i.type ((D.drop i.offset).take (a.cellsOf i.type))=some u/\DataW.trod enc a w base spare held b j.type ((D.drop j.offset).take (a.cellsOf j.type))=some v/\DataW.trod enc a w base spare held b k.type ((D.drop k.offset).take (a.cellsOf k.type))=some y/\DataW.trod enc a w base spare held b l.type ((D.drop l.offset).take (a.cellsOf l.type))=some z/\DataW.trod enc a w base spare held b m.type ((D.drop m.offset).take (a.cellsOf m.type))=some A/\DataW.trod enc a w base spare held b o.type ((D.drop o.offset).take (a.cellsOf o.type))=some B/\DataW.trod enc a w base spare held b p.type ((D.drop p.offset).take (a.cellsOf p.type))=some C/\DataW.trod enc a w base spare held b f.type ((D.drop f.offset).take (a.cellsOf f.type))=some s:=by
 obtain⟨J,b,_,rfl,F,G,c⟩:=DataW.trod_struct I h;match J,G with
 | [q,r,t,u,v,y,z,A,B,C,s],_=>exact⟨q,r,t,u,v,y,z,A,B,C,s,b,by simp,F,by simpa using c 0 d rfl,by simpa using c 1 e rfl,by simpa using c 2 g rfl,by simpa using c 3 i rfl,by simpa using c 4 j rfl,by simpa using c 5 k rfl,by simpa using c 6 l rfl,by simpa using c 7 m rfl,by simpa using c 8 o rfl,by simpa using c 9 p rfl,by simpa using c 10 f rfl⟩
theorem Se:Tryz.prog.cellsOf 28=11:=by kernel_rfl
theorem zx:Tryz.prog.cellsOf 23=1:=by kernel_rfl
theorem zw:Tryz.prog.cellsOf 24=1:=by kernel_rfl
theorem zz:Tryz.prog.cellsOf 25=1:=by kernel_rfl
theorem zv:Tryz.prog.cellsOf 26=1:=by kernel_rfl
theorem sg:Tryz.prog.cellsOf 63=3:=by kernel_rfl
theorem zy:Tryz.prog.cellsOf 61=1:=by kernel_rfl
theorem zu:Tryz.prog.cellsOf 31=1:=by kernel_rfl
theorem zt:Tryz.prog.cellsOf 40=1:=by kernel_rfl
theorem si:Tryz.prog.cellsOf 73=2:=by kernel_rfl
theorem o9:Tryz.prog.cellsOf 185=2:=by kernel_rfl
theorem pa:Tryz.prog.cellsOf 149=2:=by kernel_rfl
theorem Bx:Tryz.prog.cellsOf 4=1:=by kernel_rfl
theorem AL{Hh:Type}(d:DataW Hh):1<=Rows.uptoBulk d:=by
 cases d with
 | lit a=>cases a<;>simp[Rows.uptoBulk]
 | nil=>simp[Rows.uptoBulk]
 | ptr d=>simp[Rows.uptoBulk]
 | slice b spare=>simp[Rows.uptoBulk]
 | agg e=>simp[Rows.uptoBulk]
 | iface f d=>simp[Rows.uptoBulk]
 | map c=>simp[Rows.uptoBulk]
 | held h=>simp[Rows.uptoBulk]
theorem mO{Hh:Type}:∀a:List (DataW Hh),a.length<=Rows.uptoBulkAll a
 | []=>bt
 | b::a=>by have:=mO a;have:=AL b;rw[Rows.uptoBulkAll,dY];omega
theorem U9{Hh:Type}:∀{b:List (DataW Hh)} {a:DataW Hh},a∈b->Rows.uptoBulk a<=Rows.uptoBulkAll b
 | c::b,a,h=>by rw[Rows.uptoBulkAll];rcases dr h with rfl|h;(.omega);.have:=U9 h;omega
theorem eG{Hh:Type}{a:List (DataW Hh)}{d:DataW Hh}(h:d∈a):Rows.uptoBulk d<=Rows.uptoBulk (.agg a)/\SizeOf.sizeOf d<SizeOf.sizeOf (DataW.agg a):=by
 refine⟨?_,?_⟩;.have:=U9 h;simp only[Rows.uptoBulk];omega
 .have:=List.sizeOf_lt_of_mem h;simp only[DataW.agg.sizeOf_spec];omega
theorem lQ{Hh:Type}{a:ByteArray}(h:Rows.uptoBulk (.lit (.string a.data.toList):DataW Hh)<=n):a.size<=n:=by
 simp only[Rows.uptoBulk] at h;have b:a.data.toList.length=a.size:=by rw[Array.length_toList];rfl
 omega
section
variable {Hh:Type}{enc:TypeId×Value->Hh}{w:World}{base:Nat}{spare:Nat->Bool}{held:Bool}
def ug{α:Type}(w:World)(N:Nat)(cells:α->List Value)(f:Option Addr)(e:List α):Prop:=e=[]∨∃a d,f=some ⟨a,d,none⟩/\∀(b:Nat) q,e[b]?=some q->∀(c:Nat) v,(cells q)[c]?=some v->w.cell? ⟨a,d+b*N+c,none⟩=some v
theorem ea{α:Type}[Inhabited α]{g:DataW Hh×List MemPlace}(N:Nat)(B:0<N)(cells:α->List Value)(q:α->Prop)(Z:Tryz.prog.underlying n=some (.slice m))(Q:Tryz.prog.cellsOf m=N)(E:∀b,(cells b).length=N) (P:∀p z (y:DataW Hh×List MemPlace),DataW.trod enc prog w base spare held p m z=some y->SizeOf.sizeOf y.1<SizeOf.sizeOf g.1->Rows.uptoBulk y.1<=Rows.uptoBulk g.1->∃b,z=cells b/\q b) (h:DataW.trod enc prog w base spare held k n [v]=some g):∃(e:Option Addr) (o:Nat) (l:List α),v=.slice e l.length o/\l.length<=o/\ug w N cells e l/\(∀b∈l,q b)/\l.length<=Rows.uptoBulk g.1:=by
 rcases open_slice Z h with ⟨i,G⟩|⟨e,len,o,x,p,c,Pl,i,VZ,W,V2,X,G,R⟩
 .simp only[List.cons.injEq,and_true] at i;subst i;exact⟨none,0,[],rfl,bi,.inl rfl,(λb d=>by cases d),bt⟩
 .simp only[List.cons.injEq,and_true] at i;subst i;have I:g.1=.slice ((List.range len).map c) ((List.range (x-len)).map λf=>c (len+f)):=by rw[G]
  have V1:len<=x:=by rw[X];split<;>omega
  have V0:Rows.uptoBulk g.1=Rows.uptoBulkAll ((List.range len).map c)+Rows.uptoBulkAll ((List.range (x-len)).map λf=>c (len+f))+1:=by rw[I,Rows.uptoBulk]
  have S:∀a,a<len->∃b:α,w.cells? base (e.add (a*N)) N=some (cells b)/\q b:=by
   intro a j;obtain⟨L,A,M⟩:=R a (by omega);rw[Q] at A;have F:c a∈(List.range len).map c:=List.mem_map.2 ⟨a,List.mem_range.2 j,rfl⟩
   obtain⟨b,rfl,d⟩:=P p L (c a,Pl a) M (by
    have V3:=List.sizeOf_lt_of_mem F;rw[I];simp only[DataW.slice.sizeOf_spec];show SizeOf.sizeOf (c a)<_;omega) (by
    have:=U9 F;show Rows.uptoBulk (c a)<=_;omega)
   exact⟨b,A,d⟩
  obtain⟨r,s⟩:=choose_lt (α:=α) (n:=len) S;have t:((List.range len).map r).length=len:=by simp
  refine⟨some e,o,(List.range len).map r,by rw[t],by rw[t];exact W,?_,?_,?_⟩;.by_cases O:len=0;(.left;subst O;rfl);.right;obtain⟨K,VX,VY⟩:=e;have C:=(World.cells?_some (s 0 (by omega)).1).2.2 0 B;obtain⟨V4,VW⟩:∃J,(cells (r 0))[0]?=some J:=⟨_,VR (by rw[E];exact B)⟩;rw[VW] at C;(have Y:VY=none:=by simpa [Addr.add] using World.cell?_spot C);subst Y;refine⟨K,VX,rfl,λa b d f J u=>?_⟩;obtain⟨j,rfl⟩:=bD d;(have T:a<len:=by simpa using j);simp only[List.getElem_map,List.getElem_range] at u;(have V:f<N:=by have:=(bD u).1;rw[E] at this;exact this);have D:=(World.cells?_some (s a T).1).2.2 f V;rw[sv,sv,u] at D;exact D
  .intro b d;obtain⟨a,j,rfl⟩:=b6 d;exact(s a (by simpa using j)).2
  .rw[t];have:=mO ((List.range len).map c);rw[bQ,List.length_range] at this;omega
def j5(a:Ex×Option Addr×Nat):List Value:=[.int .i64 a.1.op,.int .i64 a.1.n,.int .i64 a.1.v.k,.int .i64 a.1.v.n,.string a.1.v.s,.slice a.2.1 a.1.args.length a.2.2]
theorem uU{d:List (Ex×Option Addr×Nat)}(h:ug w 6 j5 a d)(g:∀c∈d,Ex.all w c.2.1 c.1.args):Ex.all w a (d.map Prod.fst):=by
 rcases h with rfl|⟨k,j,rfl,h⟩;.show Ex.all w a [];rw[Ex.all];trivial
 .refine Ex.aL _ j λi l e=>?_;rw[bL] at e;obtain⟨c,f,rfl⟩:=Option.map_eq_some_iff.1 e;have b:=h i c f;exact Ex.aW ⟨b 0 _ rfl,b 1 _ rfl,b 2 _ rfl,b 3 _ rfl,b 4 _ rfl,b 5 _ rfl⟩ (g c (VQ f))
theorem mw:∀(k:Nat) (b:DataW Hh),SizeOf.sizeOf b<=k->Rows.uptoBulk b<=1048576->∀{l:Nat} {e:List Value} {ps:List MemPlace},DataW.trod enc prog w base spare held l 45 e=some (b,ps)->∃a:Ex×Option Addr×Nat,e=j5 a/\Ex.all w a.2.1 a.1.args/\a.1.fin
 | 0,b,E,_,_,_,_,_=>by cases b<;>simp at E
 | k+1,b,E,V6,l,e,ps,h=>by
  obtain⟨L,M,g,m,V9,f,B,x,y,z,A⟩:=trod_struct4 underlying45 h
  simp only[Prod.mk.injEq] at f
  obtain⟨rfl,_⟩:=f
  rw[qm] at B
  match e,B with
  | [VX,VY,VZ,c3,V0,V1],_=>
   simp only[iJ,qn,Sf,List.drop_zero,List.take_succ_cons,List.take_zero,List.drop_succ_cons] at x y z A
   obtain⟨G,p,Wb,Wh⟩:=DataW.trod_int underlying3 x
   obtain⟨F,q,Wc,X⟩:=DataW.trod_int underlying3 y
   obtain⟨N,O,i,Wa,T,V7,g0,u,v⟩:=trod_struct3 underlying43 z
   simp only[iJ,zA,ns,List.drop_zero,List.take_succ_cons,List.take_zero,List.drop_succ_cons] at g0 u v
   obtain⟨I,r,Wd,Wi⟩:=DataW.trod_int underlying3 g0
   obtain⟨J,s,We,Y⟩:=DataW.trod_int underlying2 u
   obtain⟨c,t,W,Wj⟩:=DataW.trod_string underlying9 v
   simp only[List.cons.injEq,and_true] at p q r s t
   subst p q r s t
   have Z:=(eG (show g.1∈[L.1,M.1,g.1,m.1] by simp)).1
   have VW:=eG (show m.1∈[L.1,M.1,g.1,m.1] by simp)
   have V:g.1=.agg [N.1,O.1,i.1]:=by rw[T]
   have P:=(eG (show i.1∈[N.1,O.1,i.1] by simp)).1
   rw[<-V] at P
   have V5:c.size<=1048576:=lQ (Hh:=Hh) (by have Q:i.1=.lit (.string c.data.toList):=(by rw[W]);rw[<-Q];omega)
   have V8:Inhabited (Ex×Option Addr×Nat):=⟨(.mk 0 0 .null [],none,0)⟩
   obtain⟨n,o,d,rfl,V4,S,D,V3⟩:=ea 6 (by decide) j5 (λa=>Ex.all w a.2.1 a.1.args/\a.1.fin) underlying22 qm (λa=>rfl) (λl V2 K R Wf Wg=>mw k K.1 (by omega) (by omega) (ps:=K.2) R) A
   have C:(d.map Prod.fst).length=d.length:=by simp
   refine⟨(.mk G F ⟨I,J,c⟩ (d.map Prod.fst),n,o),?_,uU S (λa j=>(D a j).1),?_⟩
   .show _=[_,_,_,_,_,Value.slice n (d.map Prod.fst).length o]
    rw[C];rfl
   .show Ex.fin (.mk G F ⟨I,J,c⟩ (d.map Prod.fst))
    rw[Ex.fin]
    refine⟨⟨by rw[C];omega,by show c.size<=_;omega,hc Y,hc X⟩,Ex.aJ _ λWk f=>?_⟩
    obtain⟨a,j,rfl⟩:=b6 f
    exact(D a j).2
theorem Pl.aL{w:World}{e:Nat}:∀(d:List Pl) (a:Nat),(∀(b:Nat) c,d[b]?=some c->Pl.at w e (a+b*11) c)->Pl.all w (some ⟨e,a,none⟩) d
 | [],a,_=>by rw[Pl.all];trivial
 | c::d,a,h=>by rw[Pl.all];refine⟨e,a,rfl,by simpa using h 0 c rfl,Pl.aL d (a+11) λb g f=>?_⟩;have:=h (b+1) g (by simpa using f);rw[show a+11+b*11=a+(b+1)*11 by omega];exact this
theorem Pl.aW{w:World}{m:Pm}(h:dL w n k p m)(b:iO w p m)(a:Pl.all w m.aP p.args):p.at w n k:=by
 cases p with
 | mk o q e cols g c f d j l i=>rw[Pl.at];exact⟨m,h,b,a⟩
theorem Pl.aJ:∀(a:List Pl),(∀b∈a,b.fin)->Pl.ay a
 | [],_=>by rw[Pl.ay];trivial
 | c::a,h=>by rw[Pl.ay];exact⟨h c (by simp),Pl.aJ a λb d=>h b (by simp[d])⟩
theorem Pl.aV:∀(a:List Pl),(∀b∈a,b.aQ)->Pl.aO a
 | [],_=>by rw[Pl.aO];trivial
 | c::a,h=>by rw[Pl.aO];exact⟨h c (by simp),Pl.aV a λb d=>h b (by simp[d])⟩
def lR(a:Pl×Pm):List Value:=[.int .i64 a.1.op,.string a.1.au,.slice a.2.aE a.1.ex.length a.2.cE,.slice a.2.aC a.1.cols.length a.2.cC,.slice a.2.aK a.1.keys.length a.2.cK,.slice a.2.aA a.1.aggs.length a.2.cA,.int .i64 a.1.fn,.int .i64 a.1.aj,.int .i64 a.1.n,.int .i64 a.1.off,.slice a.2.aP a.1.args.length a.2.cP]
theorem AG{d:List (Pl×Pm)}(h:ug w 11 lR a d)(i:∀c∈d,hI w c.1 c.2):Pl.all w a (d.map Prod.fst):=by
 rcases h with rfl|⟨l,k,rfl,h⟩;.show Pl.all w a [];rw[Pl.all];trivial
 .refine Pl.aL _ k λj n e=>?_;rw[bL] at e;obtain⟨c,g,rfl⟩:=Option.map_eq_some_iff.1 e;have b:=h j c g;have f:=i c (VQ g);exact Pl.aW (m:=c.2) ⟨b 0 _ rfl,b 1 _ rfl,b 2 _ rfl,b 3 _ rfl,b 4 _ rfl,b 5 _ rfl,b 6 _ rfl,b 7 _ rfl,b 8 _ rfl,b 9 _ rfl,b 10 _ rfl⟩ f.o f.p
theorem s6{f:DataW Hh×List MemPlace}(h:DataW.trod enc prog w base spare held n 23 [v]=some f):∃(d:Option Addr) (e:Nat) (b:List Int),v=.slice d b.length e/\b.length<=e/\bP w d b/\(∀a∈b,bY a)/\b.length<=Rows.uptoBulk f.1:=by
 obtain⟨d,e,b,k,l,c,m,o⟩:=ea (α:=Int) 1 (by decide) (λa=>[.int .i64 a]) bY underlying23 iJ (λ_=>rfl) (λx u y j _ _=>by obtain⟨a,i,_,t⟩:=DataW.trod_int underlying3 j;exact⟨a,i,hc t⟩) h;refine⟨d,e,b,k,l,?_,m,o⟩;rcases c with c|⟨g,s,p,c⟩;.exact .inl c
 .exact .inr ⟨g,s,p,λr a q=>by have:=c r a q 0 _ rfl;simpa using this⟩
theorem s5{o:DataW Hh×List MemPlace}(h:DataW.trod enc prog w base spare held n 24 [v]=some o):∃(d:Option Addr) (e:Nat) (b:List (Int×Bool)),v=.slice d b.length e/\b.length<=e/\dh w d b/\(∀a∈b,bY a.1)/\b.length<=Rows.uptoBulk o.1:=by
 obtain⟨d,e,b,r,s,c,t,u⟩:=ea (α:=Int×Bool) 2 (by decide) (λa=>[.int .i64 a.1,.bool a.2]) (λa=>bY a.1) underlying24 o9 (λ_=>rfl) (λC p E q _ _=>by
  obtain⟨F,G,D,_,k,g0,j⟩:=trod_struct2 underlying185 q
  rw[o9] at k
  match p,k with
  | [A,B],_=>
   simp only[iJ,Bx,List.drop_zero,List.take_succ_cons,List.take_zero,List.drop_succ_cons] at g0 j
   obtain⟨a,g,_,z⟩:=DataW.trod_int underlying3 g0
   obtain⟨f,i,_⟩:=DataW.trod_bool underlying4 j
   simp only[List.cons.injEq,and_true] at g i
   subst g i
   exact⟨(a,f),rfl,hc z⟩) h
 refine⟨d,e,b,r,s,?_,t,u⟩;rcases c with c|⟨f,y,x,c⟩;.exact .inl c
 .exact .inr ⟨f,y,x,λm a l=>⟨c m a l 0 _ rfl,c m a l 1 _ rfl⟩⟩
theorem s8{m:DataW Hh×List MemPlace}(h:DataW.trod enc prog w base spare held n 25 [v]=some m):∃(d:Option Addr) (e:Nat) (b:List (Int×Int)),v=.slice d b.length e/\b.length<=e/\ft w d b/\(∀a∈b,bY a.2)/\b.length<=Rows.uptoBulk m.1:=by
 obtain⟨d,e,b,r,s,c,t,u⟩:=ea (α:=Int×Int) 2 (by decide) (λa=>[.int .i64 a.1,.int .i64 a.2]) (λa=>bY a.2) underlying25 pa (λ_=>rfl) (λD p G q _ _=>by
  obtain⟨I,J,E,_,j,g0,i⟩:=trod_struct2 underlying149 q
  rw[pa] at j
  match p,j with
  | [B,C],_=>
   simp only[iJ,List.drop_zero,List.take_succ_cons,List.take_zero,List.drop_succ_cons] at g0 i
   obtain⟨a,f,_,F⟩:=DataW.trod_int underlying3 g0
   obtain⟨A,g,_,z⟩:=DataW.trod_int underlying3 i
   simp only[List.cons.injEq,and_true] at f g
   subst f g
   exact⟨(a,A),rfl,hc z⟩) h
 refine⟨d,e,b,r,s,?_,t,u⟩;rcases c with c|⟨o,y,x,c⟩;.exact .inl c
 .exact .inr ⟨o,y,x,λl a k=>⟨c l a k 0 _ rfl,c l a k 1 _ rfl⟩⟩
theorem rm:∀(C:Nat) (e:DataW Hh),SizeOf.sizeOf e<=C->Rows.uptoBulk e<=1048576->∀{v:Nat} {u:List Value} {ps:List MemPlace},DataW.trod enc prog w base spare held v 28 u=some (e,ps)->∃a:Pl×Pm,u=lR a/\hI w a.1 a.2/\a.1.fin/\a.1.aQ
 | 0,e,V4,_,_,_,_,_=>by cases e<;>simp at V4
 | C+1,e,V4,WP,v,u,ps,h=>by
  obtain⟨o,d,g,i,j,k,p,q,r,s,f,WS,c,V0,S,T,W,X,Y,Z,VW,VX,VY,VZ,V⟩:=nF underlying28 h
  change e=_ at c
  subst c
  rw[Se] at V0
  match u,V0 with
  | [WA,WB,WD,c3,WE,WF,WG,WH,WI,WJ,WC],_=>
   simp only[iJ,ns,Sf,zx,zw,zz,zv,List.drop_zero,List.take_succ_cons,List.take_zero,List.drop_succ_cons] at S T W X Y Z VW VX VY VZ V
   obtain⟨G,M,WT,WU⟩:=DataW.trod_int underlying3 S
   obtain⟨t,N,Wp,WV⟩:=DataW.trod_string underlying9 T
   obtain⟨z,O,_,_⟩:=DataW.trod_int underlying3 VW
   obtain⟨y,P,_,_⟩:=DataW.trod_int underlying3 VX
   obtain⟨E,Q,_,Ws⟩:=DataW.trod_int underlying3 VY
   obtain⟨F,R,_,Wt⟩:=DataW.trod_int underlying3 VZ
   simp only[List.cons.injEq,and_true] at M N O P Q R
   subst M N O P Q R
   have Wu:=(eG (show d.1∈[o.1,d.1,g.1,i.1,j.1,k.1,p.1,q.1,r.1,s.1,f.1] by simp)).1
   have Ww:=eG (show g.1∈[o.1,d.1,g.1,i.1,j.1,k.1,p.1,q.1,r.1,s.1,f.1] by simp)
   have Wx:=(eG (show i.1∈[o.1,d.1,g.1,i.1,j.1,k.1,p.1,q.1,r.1,s.1,f.1] by simp)).1
   have Wy:=(eG (show j.1∈[o.1,d.1,g.1,i.1,j.1,k.1,p.1,q.1,r.1,s.1,f.1] by simp)).1
   have Wz:=(eG (show k.1∈[o.1,d.1,g.1,i.1,j.1,k.1,p.1,q.1,r.1,s.1,f.1] by simp)).1
   have Wv:=eG (show f.1∈[o.1,d.1,g.1,i.1,j.1,k.1,p.1,q.1,r.1,s.1,f.1] by simp)
   have Wn:t.size<=1048576:=lQ (Hh:=Hh) (by have Wd:d.1=.lit (.string t.data.toList):=(by rw[Wp]);rw[<-Wd];omega)
   have WQ:Inhabited (Ex×Option Addr×Nat):=⟨(.mk 0 0 .null [],none,0)⟩
   have WR:Inhabited (Pl×Pm):=⟨(.mk 0 ⟨#[]⟩ [] [] [] [] 0 0 0 0 [],⟨none,0,none,0,none,0,none,0,none,0⟩)⟩
   obtain⟨I,K,m,rfl,_,Wg,V3,WM⟩:=ea 6 (by decide) j5 (λa=>Ex.all w a.2.1 a.1.args/\a.1.fin) underlying22 qm (λa=>rfl) (λv Wc n A Wq Wr=>mw (SizeOf.sizeOf n.1) n.1 bi (by omega) (ps:=n.2) A) W
   obtain⟨V7,Wa,cols,rfl,Wj,Wf,Wl,WL⟩:=s6 X
   obtain⟨V8,Wb,D,rfl,_,Wh,Wm,WN⟩:=s5 Y
   obtain⟨V6,V9,x,rfl,_,We,Wk,WK⟩:=s8 Z
   obtain⟨J,L,l,rfl,_,Wi,B,WO⟩:=ea 11 (by decide) lR (λa=>hI w a.1 a.2/\a.1.fin/\a.1.aQ) underlying26 Se (λa=>rfl) (λv Wc n A Wq Wr=>rm C n.1 (by omega) (by omega) (ps:=n.2) A) V
   have V1:(m.map Prod.fst).length=m.length:=by simp
   have V2:(l.map Prod.fst).length=l.length:=by simp
   refine⟨(.mk G t (m.map Prod.fst) cols D x z y E F (l.map Prod.fst),⟨I,K,V7,Wa,V8,Wb,V6,V9,J,L⟩),?_,⟨⟨uU Wg (λa b=>(V3 a b).1),Wf,Wh,We,Wj⟩,AG Wi (λa b=>(B a b).1)⟩,?_,?_⟩
   .show _=[_,_,Value.slice I (m.map Prod.fst).length K,_,_,_,_,_,_,_,Value.slice J (l.map Prod.fst).length L]
    rw[V1,V2];rfl
   .show Pl.fin (.mk G t (m.map Prod.fst) cols D x z y E F (l.map Prod.fst))
    rw[Pl.fin]
    refine⟨⟨Wn,by rw[V1];omega,by omega,by omega,by omega,by rw[V2];omega,hc Ws,Wl,Wm,Wk⟩,Ex.aJ _ λV5 c=>?_,Pl.aJ _ λV5 c=>?_⟩
    .obtain⟨a,b,rfl⟩:=b6 c
     exact(V3 a b).2
    .obtain⟨a,b,rfl⟩:=b6 c
     exact(B a b).2.1
   .show Pl.aQ (.mk G t (m.map Prod.fst) cols D x z y E F (l.map Prod.fst))
    rw[Pl.aQ]
    refine⟨hc Wt |>.2,Pl.aV _ λV5 c=>?_⟩
    obtain⟨a,b,rfl⟩:=b6 c
    exact(B a b).2.2
theorem s7{o:DataW Hh×List MemPlace}(L:Rows.uptoBulk o.1<=1048576)(h:DataW.trod enc prog w base spare held n 61 [v]=some o):∃(d:Option Addr) (f:Nat) (c:List (ByteArray×Int)),v=.slice d c.length f/\Vs w d c/\(∀a∈c,a.1.size<=1048576)/\c.length<=1048576:=by
 obtain⟨d,f,c,x,J,b,y,K⟩:=ea (α:=ByteArray×Int) 2 (by decide) (λa=>[.string a.1,.int .i64 a.2]) (λa=>a.1.size<=1048576) underlying61 si (λ_=>rfl) (λM s E u _ O=>by
  obtain⟨e,p,N,A,k,g0,j⟩:=trod_struct2 underlying73 u
  rw[si] at k
  match s,k with
  | [G,I],_=>
   simp only[iJ,ns,List.drop_zero,List.take_succ_cons,List.take_zero,List.drop_succ_cons] at g0 j
   obtain⟨a,g,D,P⟩:=DataW.trod_string underlying9 g0
   obtain⟨F,i,_,Q⟩:=DataW.trod_int underlying3 j
   simp only[List.cons.injEq,and_true] at g i
   subst g i
   have B:E.1=.agg [e.1,p.1]:=by rw[A]
   have r:=(eG (show e.1∈[e.1,p.1] by simp)).1
   rw[<-B] at r
   exact⟨(a,F),rfl,lQ (Hh:=Hh) (by have t:e.1=.lit (.string a.data.toList):=(by rw[D]);rw[<-t];omega)⟩) h
 refine⟨d,f,c,x,?_,y,by omega⟩;rcases b with b|⟨q,C,z,b⟩;.exact .inl b
 .exact .inr ⟨q,C,z,λm a l=>⟨b m a l 0 _ rfl,b m a l 1 _ rfl⟩⟩
theorem vO{p:DataW Hh×List MemPlace}(h:DataW.trod enc prog w base spare held n 40 [v]=some p):∃(d:Option Addr) (e:Nat) (c:List aH),v=.slice d c.length e/\bX w d c/\(∀a∈c,bY a.n)/\c.length<=Rows.uptoBulk p.1:=by
 have K:Inhabited aH:=⟨aH.null⟩
 obtain⟨d,e,c,t,I,b,u,x⟩:=ea (α:=aH) 3 (by decide) (λa=>[.int .i64 a.k,.int .i64 a.n,.string a.s]) (λa=>bY a.n) underlying40 qn (λ_=>rfl) (λL r O s _ N=>by
  obtain⟨P,Q,R,M,J,o,g0,l,m⟩:=trod_struct3 underlying43 s
  rw[qn] at o
  match r,o with
  | [E,F,G],_=>
   simp only[iJ,zA,ns,List.drop_zero,List.take_succ_cons,List.take_zero,List.drop_succ_cons] at g0 l m
   obtain⟨A,i,_,_⟩:=DataW.trod_int underlying3 g0
   obtain⟨B,j,_,D⟩:=DataW.trod_int underlying2 l
   obtain⟨C,k,_,_⟩:=DataW.trod_string underlying9 m
   simp only[List.cons.injEq,and_true] at i j k
   subst i j k
   exact⟨⟨A,B,C⟩,rfl,hc D⟩) h
 refine⟨d,e,c,t,?_,u,x⟩;rcases b with b|⟨q,z,y,b⟩;.exact .inl b
 .exact .inr ⟨q,z,y,λg a f=>⟨b g a f 0 _ rfl,b g a f 1 _ rfl,b g a f 2 _ rfl⟩⟩
theorem s4{p:DataW Hh×List MemPlace}(G:Rows.uptoBulk p.1<=1048576)(h:DataW.trod enc prog w base spare held n 31 [v]=some p):∃(f:Option Addr) (g:Nat) (e:List (List aH)),v=.slice f e.length g/\ga w f e/\(∀b∈e,b.length<=1048576)/\e.length<=1048576/\(∀b∈e,∀k∈b,bY k.n):=by
 have I:Inhabited (List aH×Option Addr×Nat):=⟨([],none,0)⟩
 obtain⟨f,g,C,r,E,i,j,F⟩:=ea (α:=List aH×Option Addr×Nat) 1 (by decide) (λa=>[.slice a.2.1 a.1.length a.2.2]) (λa=>bX w a.2.1 a.1/\a.1.length<=1048576/\∀k∈a.1,bY k.n) underlying31 zt (λ_=>rfl) (λJ l M m _ L=>by
  have t:l.length=1:=by
   rcases open_slice underlying40 m with ⟨o,_⟩|⟨_,_,_,_,_,_,_,o,_⟩<;>rw[o]<;>rfl
  match l,t with
  | [D],_=>
   obtain⟨A,B,b,rfl,y,z,K⟩:=vO m
   exact⟨(b,A,B),rfl,y,by show b.length<=_;omega,z⟩) h
 refine⟨f,g,C.map Prod.fst,by rw[r];simp,?_,?_,by simp;omega,?_⟩;.rcases i with rfl|⟨q,x,s,i⟩;(.exact .inl rfl);.refine .inr ⟨q,x,s,λu b d=>?_⟩;rw[bL] at d;obtain⟨a,c,rfl⟩:=Option.map_eq_some_iff.1 d;exact⟨a.2.1,a.2.2,by have:=i u a c 0 _ rfl;simpa using this,(j a (VQ c)).1⟩
 .intro b d;obtain⟨a,c,rfl⟩:=b6 d;exact(j a c).2.1
 .intro b d;obtain⟨a,c,rfl⟩:=b6 d;exact(j a c).2.2
theorem pC{u:DataW Hh×List MemPlace}(VY:Rows.uptoBulk u.1<=1048576)(h:DataW.trod enc prog w base spare held n 29 [v]=some u):∃(j:Option Addr) (l:Nat) (f:List Tb),v=.slice j f.length l/\lZ w j f/\(∀k∈f,k.fin)/\f.length<=1048576/\Sk f:=by
 have VZ:Inhabited (Tb×Tm):=⟨(⟨⟨#[]⟩,[],[]⟩,⟨none,0,none,0⟩)⟩
 obtain⟨j,l,V,J,VW,e,m,VX⟩:=ea (α:=Tb×Tm) 3 (by decide) (λa=>[.string a.1.name,.slice a.2.aC a.1.cols.length a.2.cC,.slice a.2.aR a.1.rows.length a.2.cR]) (λa=>zW w a.1 a.2/\a.1.fin/\∀R∈a.1.rows,∀T∈R,bY T.n) underlying29 sg (λ_=>rfl) (λV0 F W I _ V2=>by
  obtain⟨d,g,i,V1,L,s,g0,q,r⟩:=trod_struct3 underlying63 I
  rw[sg] at s
  match F,s with
  | [X,Y,Z],_=>
   simp only[ns,zy,zu,List.drop_zero,List.take_succ_cons,List.take_zero,List.drop_succ_cons] at g0 q r
   obtain⟨t,p,S,_⟩:=DataW.trod_string underlying9 g0
   simp only[List.cons.injEq,and_true] at p
   subst p
   have M:W.1=.agg [d.1,g.1,i.1]:=by rw[L]
   have A:=(eG (show d.1∈[d.1,g.1,i.1] by simp)).1
   have B:=(eG (show g.1∈[d.1,g.1,i.1] by simp)).1
   have C:=(eG (show i.1∈[d.1,g.1,i.1] by simp)).1
   rw[<-M] at A B C
   obtain⟨x,D,cols,rfl,O,P,Q⟩:=s7 (by omega) q
   obtain⟨y,E,rows,rfl,p1,p2,p3,p4⟩:=s4 (by omega) r
   exact⟨(⟨t,cols,rows⟩,⟨x,D,y,E⟩),rfl,⟨O,p1⟩,⟨lQ (Hh:=Hh) (by have G:d.1=.lit (.string t.data.toList):=(by rw[S]);rw[<-G];omega),Q,P,p3,p2⟩,p4⟩) h
 refine⟨j,l,V.map Prod.fst,by rw[J];simp,?_,?_,by simp;omega,?_⟩;.rcases e with rfl|⟨z,N,K,e⟩;(.exact .inl rfl);.refine .inr ⟨z,N,K,λo k c=>?_⟩;rw[bL] at c;obtain⟨a,b,rfl⟩:=Option.map_eq_some_iff.1 c;exact⟨a.2,⟨e o a b 0 _ rfl,e o a b 1 _ rfl,e o a b 2 _ rfl⟩,(m a (VQ b)).1⟩
 .intro k c;obtain⟨a,b,rfl⟩:=b6 c;exact(m a b).2.1
 .intro k c;obtain⟨a,b,rfl⟩:=b6 c;exact(m a b).2.2
end
end Go.Proofs.YtklgoolblpmmlaaGreat
