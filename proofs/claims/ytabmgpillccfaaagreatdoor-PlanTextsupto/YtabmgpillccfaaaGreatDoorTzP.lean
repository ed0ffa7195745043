import Derived.Test.YtabmgpillccfaaaGreatDoorTzG
import Derived.Lib.ParseIntBTie
set_option linter.all false
set_option maxHeartbeats 1000000
set_option maxRecDepth 100000
namespace Go.Proofs.YtabmgpillccfaaaGreatDoor
open Go.RowKit Go.Sort Go.Proofs.Tryz
abbrev ri:Ending:=.panicked [{ v:=.iface 138 (.agg #[]),recovered:=false }]
theorem kv(t:Bool)(w:World):Calls prog 94 #[.bool t] w λe w'=>(e=if t=true then .returned (.tuple #[]) else ri)/\w'=w:=by
 cases t with
 | true=>go_enter func94,ntmps94;go_wp2;go_end0;exact⟨rfl,rfl⟩
 | false=>go_enter func94,ntmps94;go_wp2;exact⟨rfl,rfl,rfl⟩
theorem bc(w:World):Calls prog 94 #[.bool true] w λe w'=>e=.returned (.tuple #[])/\w'=w:=kv true w
theorem cx(w:World):Calls prog 94 #[.bool false] w λe w'=>e=ri/\w'=w:=kv false w
def du(s:ByteArray):Option Int:=match Lib.parseIntB 64 s.data.toList with
 | .ok v=>if bs (Lib.itoa v)=s then some v else none
 | _=>none
theorem kS{s:ByteArray}{v:Int}(h:du s=some v):b2 v:=by
 unfold du at h;split at h;.rename_i x a;split at h;(.injection h with h;subst h;have:=Lib.parseIntB_bounds a;simp at this;exact⟨by omega,by omega⟩);.cases h
 .cases h
theorem kB(s:ByteArray):s.toList=s.data.toList:=by rw[ByteArray.toList_eq]
theorem jz{a b:ByteArray}(h:¬a=b):(a.toList == b.toList)=false:=by rw[beq_eq_false_iff_ne];intro e;rw[kB,kB] at e;exact h (ByteArray.ext (by rw[<-Array.toArray_toList (xs:=a.data),<-Array.toArray_toList (xs:=b.data),e]))
def s7:Option Int->Value
 | some n=>.tuple #[.int .i64 n,.bool true]
 | none=>.tuple #[.int .i64 0,.bool false]
theorem lu(s:ByteArray)(j:s.size<=1000000)(w:World)(b:GT w):Calls prog 174 #[.string s] w λe w'=>e=.returned (s7 (du s))/\Below w.heap.size w w':=by
 cases a:Lib.parseIntB 64 s.data.toList with
 | ok v=>
  have HP:=VV ((Tryz.strconv_ParseInt_10_at64_ok s (by omega) v a w).mono λe w' h=>(show e=.returned (.tuple #[.int .i64 v,.nilIface])/\Below w.heap.size w w' from⟨h.1,by rcases h.2 with h|⟨t,h⟩;(.subst h;exact aN);.subst h;exact Go.Joins.below_bytesWorld _ _ _ _ aV⟩));have g:=Lib.parseIntB_bounds a;have HF:=VV λ(W:World) (i:Below w.heap.size w W)=>ew v ⟨by simp at g;omega,by simp at g;omega⟩ W (b.aa i);obtain⟨M,c⟩:=al (bs (Lib.itoa v));rw[<-c] at HF;by_cases d:M=s
  ·(have HZ:Hid (du s=some v):=by show _=_;unfold du;rw[a];show (if bs (Lib.itoa v)=s then some v else none)=_;rw[<-c,aR d]);subst d;clear a c g b;go_enter func174,ntmps174
   go_wp2_with (first
    | (go_at_call 110;refine(U HP).mono ?_;rintro r w1 ⟨rfl,hb1⟩;have HB1:=VV hb1;clear hb1)
    | (go_at_call 84;refine(U HF _ (U HB1)).mono ?_;rintro r w2 ⟨rfl,hb2⟩;have HB2:=VV (ac (U HB1) hb2);clear hb2))
   go_ret2;exact⟨by rw[U HZ];rfl,U HB2⟩
  ·(have HZ:Hid (du s=none):=by show _=_;unfold du;rw[a];show (if bs (Lib.itoa v)=s then some v else none)=_;rw[<-c,aL d]);have hne:=jz d;clear a c g b d;go_enter func174,ntmps174
   go_wp2_with (first
    | (go_at_call 110;refine(U HP).mono ?_;rintro r w1 ⟨rfl,hb1⟩;have HB1:=VV hb1;clear hb1)
    | (go_at_call 84;refine(U HF _ (U HB1)).mono ?_;rintro r w2 ⟨rfl,hb2⟩;have HB2:=VV (ac (U HB1) hb2);clear hb2))
   go_ret2;exact⟨by rw[U HZ];rfl,U HB2⟩
 | «syntax»=>obtain⟨tp,q,f⟩:=b.s;have HP:=VV (Tryz.strconv_ParseInt_10_at64_syntax_var s (by omega) a tp q w f);(have HZ:Hid (du s=none):=by show _=_;unfold du;rw[a]);clear a b f;go_enter func174,ntmps174;go_wp2_with (go_at_call 110;refine(U HP).mono ?_;rintro r w1 ⟨N,rfl,_,_,hb1⟩);go_ret2;exact⟨by rw[U HZ];rfl,hb1⟩
 | range=>obtain⟨tp,q,f⟩:=b.r;have HP:=VV (Tryz.strconv_ParseInt_10_at64_range_var s (by omega) a tp q w f);(have HZ:Hid (du s=none):=by show _=_;unfold du;rw[a]);clear a b f;generalize Lib.intSat 64 s.data.toList=sat at *;go_enter func174,ntmps174;go_wp2_with (go_at_call 110;refine(U HP).mono ?_;rintro r w1 ⟨N,rfl,_,_,hb1⟩);go_ret2;exact⟨by rw[U HZ];rfl,hb1⟩
def pT(o:Option Int)(w:World)(e:Ending)(w':World):Prop:=Below w.heap.size w w'/\e=match o with
 | some n=>.returned (.int .i64 n)
 | none=>ri
theorem gA(s:ByteArray)(c:s.size<=1000000)(w:World)(a:GT w):Calls prog 139 #[.string s] w (pT (du s) w):=by
 have HN:=VV (lu s c w a);obtain⟨o,b⟩:=al (du s);rw[<-b] at HN ⊢;clear a b;cases o with
 | some n=>
  simp only[s7] at HN;go_enter func139,ntmps139
  go_wp2_with (first
   | (go_at_call 174;refine(U HN).mono ?_;rintro r w1 ⟨rfl,hb1⟩;have HB1:=VV hb1;clear hb1)
   | (go_at_call 94;refine(bc _).mono ?_;rintro r w2 ⟨rfl,rfl⟩))
  go_ret;exact⟨U HB1,rfl⟩
 | none=>
  simp only[s7] at HN;go_enter func139,ntmps139
  go_wp2_with (first
   | (go_at_call 174;refine(U HN).mono ?_;rintro r w1 ⟨rfl,hb1⟩;have HB1:=VV hb1;clear hb1)
   | (go_at_call 94;refine(cx _).mono ?_;rintro r w2 ⟨rfl,rfl⟩))
  exact⟨rfl,U HB1,rfl⟩
theorem g9(c:ByteArray):∀(b:List ByteArray) (a:Nat),Lib.idxFromS b c a=-1∨(0<=Lib.idxFromS b c a/\Lib.idxFromS b c a<((a+b.length:Nat):Int))
 | [],a=>.inl rfl
 | d::b,a=>by rw[Lib.idxFromS];split;(.right;simp;omega);.rcases g9 c b (a+1) with h|h;(.exact .inl h);.right;simp only[a1] at *;omega
def ch(a:List (List UInt8))(b:ByteArray):Int:=Lib.idxOfS (a.map bs) b
theorem dC(a:List (List UInt8))(b:ByteArray):ch a b=-1∨(0<=ch a b/\ch a b<(a.length:Int)):=by have:=g9 b (a.map bs) 0;rw[VP,aT] at this;exact this
def bW(b:List (List UInt8))(a:Tt):Option Int:=if a.k=1/\0<=ch b a.s then some (ch b a.s+1) else none
theorem pz(a:List (List UInt8))(l:a.length<=1000)(i:ByteArray)(c:World):Calls prog 140 #[.slice (some ⟨c.heap.size,0,none⟩) a.length a.length,.string i] (c.alloc (.cells ((a.map λb=>Value.string ⟨b.toArray⟩).toArray) 9)) λe k=>e=.returned (.int .i64 (ch a i))/\k=c.alloc (.cells ((a.map λb=>Value.string ⟨b.toArray⟩).toArray) 9):=by have h:=Tryz.slices_Index_string c.heap.size 0 a.length a.length (a.map bs) i (c.alloc (.cells ((a.map λb=>Value.string ⟨b.toArray⟩).toArray) 9)) (by rw[VP];exact aV) (by omega) (λd g=>by rw[VP] at g;(have e:(a.map bs).getD d ByteArray.empty=bs a[d]:=by rw[fC,b8,ba g];rfl);(have j:(a.map λb=>Value.string ⟨b.toArray⟩)[d]?=some (.string (bs a[d])):=by rw[b8,ba g];rfl);rw[e,aT];simp[go_sem];simpa using j);rw[show (a.map bs).take a.length=a.map bs by rw[<-VP (f:=bs),gJ]] at h;exact h
theorem il(l:ByteArray)(c:List (List UInt8))(L:Lib.fields l.data.toList=c)(J:c.length<=1000)(R:l.size<4294967281)(M:∀(Z:Nat) b,l.data.toList[Z]?=some b->b.toNat<128)(C:Tt)(y:Option Addr)(z:Nat)(a:World)(G:GT a):Calls prog 107 #[.string l,C.val y z] a (pT (bW c C) a):=by
 obtain⟨i,e,f⟩:=C;obtain⟨p,A⟩:=al (pT (bW c (.mk i e f)) a);rw[<-A];have k:Hid (p=pT (if i=1/\0<=ch c e then some (ch c e+1) else none) a):=A;rw[Tt.ad];show Calls prog 107 #[.string l,.agg #[.int .i64 i,.string e,.slice y f.length (f.length+z)]] a p;obtain⟨d,q⟩:=bq (a.alloc (.cells #[.int .i64 i,.string e,.slice y f.length (f.length+z)] 51));have x:Bw a d:=by rw[<-q];exact ae aN _
 have N:d.cell? ⟨a.heap.size,0,none⟩=some (.int .i64 i):=by rw[<-q];simp[go_sem]
 have O:d.cell? ⟨a.heap.size,1,none⟩=some (.string e):=by rw[<-q];simp[go_sem]
 have u:Hid (Bw d d.drew):=(aN).drew;have v:Hid (CA d.drew [((a.heap.size,0),.int .i64 i),((a.heap.size,1),.string e)]):=⟨aG N (U u),aG O (U u),trivial⟩;have j:=Tryz.strings_Fields l d.drew R M ((G.aa x).aa (U u)).a;rw[L] at j;have j:=VV j;have m:=VV (pz c J e d.drew);have VW:=VV x;have D:=VV q;have r:=dC c e;have B:=ae (ar _ d.drew) (.cells ((c.map λf=>Value.string ⟨f.toArray⟩).toArray) 9);have t:=VV (ac (ac x (U u)) B);have w:=VV ((U v).aa B);obtain⟨VX,K⟩:=bq (d.drew.alloc (.cells ((c.map λf=>Value.string ⟨f.toArray⟩).toArray) 9));rw[K] at j m t w;obtain⟨VY,P⟩:=al d.drew.heap.size;rw[<-P] at j m;obtain⟨V0,Q⟩:=al c.length;rw[<-Q] at j m r J;obtain⟨s,S⟩:=al (ch c e);rw[<-S] at m r k;clear A x N O G B q L R M K P Q S;go_enter func107,ntmps107;go_upto_region 1 with fail;rw[U D];clear D;refine VR (λc:World=>CA c [((a.heap.size,0),.int .i64 i),((a.heap.size,1),.string e)]) 5 ?_;refine ai 0 (.string l) rfl (U v) ?_;refine ai 2 (.pointer (some ⟨a.heap.size,1,none⟩)) rfl (U v) ?_;refine ai 3 (.string e) rfl (U v) ?_ λV1 I=>by simp only[CA] at I;obtain⟨V,W,_⟩:=I;go_simp
 refine ap 1 rfl λo g=>?_;go_simp;refine(U j).mono ?_;rintro _ _ ⟨rfl,rfl⟩;go_simp;refine aO g (U w) ?_;clear g o;refine ap 4 rfl λo g=>?_;go_simp;refine(U m).mono ?_;rintro _ _ ⟨rfl,rfl⟩;go_simp;refine aO g (U w) ?_;clear g o;refine ap 5 rfl λo g=>?_;go_simp;refine aS g ?_;clear g o;refine bh ?_;obtain⟨V,W,_⟩:=U w;simp only at V W;by_cases E:i=1;.subst E;by_cases F:0<=s;(·(have n:Hid (p=pT (some (s+1)) a):=by show _=_;rw[U k,aR ⟨rfl,F⟩]);(have VZ:s<1000:=by omega);clear k r;go_wp2_with (go_at_call 94;refine(bc _).mono ?_;rintro T X ⟨rfl,rfl⟩);(have Y:wrap64 (s+1)=s+1:=by unfold wrap64;omega);(try simp only[Y]);rw[U n];exact⟨U t,rfl⟩);·(have n:Hid (p=pT none a):=by show _=_;rw[U k,aL (λh=>F h.2)]);clear k r;go_wp2_with (go_at_call 94;refine(cx _).mono ?_;rintro T X ⟨rfl,rfl⟩);refine⟨rfl,?_⟩;rw[U n];exact⟨U t,rfl⟩
 ·(have n:Hid (p=pT none a):=by show _=_;rw[U k,aL (λh=>E h.1)]);clear k r;go_wp2_with (go_at_call 94;refine(cx _).mono ?_;rintro T X ⟨rfl,rfl⟩);refine⟨rfl,?_⟩;rw[U n];exact⟨U t,rfl⟩
def cp(a:Tt):Option Int:=if a.k=1 then du a.s else none
theorem cH(f:Tt)(r:f.s.size<=1000000)(j:Option Addr)(k:Nat)(a:World)(o:GT a):Calls prog 102 #[f.val j k] a (pT (cp f) a):=by
 obtain⟨b,c,d⟩:=f;rw[Tt.ad];show Calls prog 102 #[.agg #[.int .i64 b,.string c,.slice j d.length (d.length+k)]] a (pT (if b=1 then du c else none) a);have n:=ae (ar _ a) (.cells #[.int .i64 b,.string c,.slice j d.length (d.length+k)] 51);have g:=VV n;have i:=VV (gA c r _ (o.aa n));clear n o;by_cases l:b=1
 .subst l
  rw[aR rfl]
  obtain⟨s,p⟩:=al (du c)
  rw[<-p] at i ⊢
  clear p
  cases s with
  | some v=>
   go_enter func102,ntmps102
   go_wp2_with (first
    | (go_at_call 94;refine(bc _).mono ?_;rintro e q ⟨rfl,rfl⟩)
    | (go_at_call 139;refine(U i).mono ?_;rintro e t ⟨m,rfl⟩))
   go_ret
   exact⟨ac (U g) m,rfl⟩
  | none=>
   go_enter func102,ntmps102
   go_wp2_with (first
    | (go_at_call 94;refine(bc _).mono ?_;rintro e q ⟨rfl,rfl⟩)
    | (go_at_call 139;refine(U i).mono ?_;rintro e t ⟨m,rfl⟩))
   exact⟨rfl,ac (U g) m,rfl⟩
 .rw[aL l];(have u:(b == 1)=false:=by simp[l]);go_enter func102,ntmps102;go_wp2_with (go_at_call 94;refine(cx _).mono ?_;rintro e q ⟨rfl,rfl⟩);exact⟨rfl,U g,rfl⟩
abbrev sk:List PanicEntry:=[{ v:=.iface 138 (.agg #[]),recovered:=false }]
def DQ(N:Act->World->Prop)(G:World->Prop):Exit->Act->World->Prop
 | .normal,a,w=>N a w
 | .panic b,a,w=>b=sk/\a.defers=[]/\G w
 | _,_,_=>False
section
variable {P:Program}{ops:Array Oper}{N:Act->World->Prop}{G:World->Prop}{S:World->Prop}{k:Nat}{oi:Oper}{r:List Oper}{f:Nat}{L:Array Bool}{a a':Act}{w:World}
theorem mR(a:Act)(b:Option Tmp)(c:Value):(a.put b c).defers=a.defers:=by cases b<;>rfl
theorem VS(b:Nat)(d:Value)(j:ops.toList.drop b=oi::r)(g:S w) (h:dA P .any ops (DQ N G) S k f (L.setIfInBounds b true) a' w) (m:∀w,S w->(execOp a.eval oi).run P w=.ok (.value d) w:=by intro w n;go_simp) (c:(Region.noSelect ops && Region.free .any ops L b && (Region.ready .any ops L).contains b && ((cG .any ops L b).contains k && !(cG .any ops L b).contains b && hs .any ops b (cG .any ops L b) && (cG .any ops L b).all λe=>!L.getD e true))=true:=by kernel_rfl) (l:Region.wanted oi (yielded ops a.tmps)=true:=by rfl) (i:a.put oi.dst d=a':=by(try simp only[p1,p2,p3,p4,p5]);exact rfl):dA P .any ops (DQ N G) S k (f+1) L a w:=by subst i;simp only[dW] at c;refine bU (cG .any ops L b) j c.1.1.1 c.1.1.2 c.1.2 ?_ (λe a w h=>⟨h.1,by rw[<-mR a oi.dst d];exact h.2.1,h.2.2⟩) (Or.inl ⟨l,m⟩) g h;simp only[dW];exact c.2
theorem fk(h:N a w)(b:Region.ready .any ops L=[]:=by kernel_rfl):dA P .any ops (DQ N G) S k f L a w:=d6 b h _
theorem dR{id:Nat}{b:Exit->Act->World->Prop}(G:World->Prop)(g:∀a w,a.defers=[]->G w->b (.panic sk) a w)(S:World->Prop)(k:Nat)(h:dA P .any ops (DQ (λa w=>b .normal a w) G) S k ops.size (Array.replicate ops.size false) a w.drew)(j:P.follows .mixedOrders=true:=by kernel_rfl):(Code.region id ops true).wp P b a w:=by
 refine Code.wp_mono (λd a w c=>?_) (dn j h);cases d with
 | normal=>exact c
 | panic l=>obtain⟨rfl,e,i⟩:=c;exact g a w e i
 | _=>exact c.elim
end
variable{W w:World}{a:Option Addr}{I:Int}{m n:Nat}{D:List Value}
theorem Tt.all_cons{h:Tt}{i:List Tt}(g:Tt.all w a (h::i)):∃b c d e,a=some ⟨b,c,none⟩/\(w.cell? ⟨b,c,none⟩=some (.int .i64 h.k)/\w.cell? ⟨b,c+1,none⟩=some (.string h.s)/\w.cell? ⟨b,c+2,none⟩=some (.slice d h.l.length (h.l.length+e)))/\Tt.all w d h.l/\Tt.all w (some ⟨b,c+3,none⟩) i:=by
 rw[Tt.all] at g;obtain⟨b,c,rfl,f,k⟩:=g;cases h with
 | mk m o n=>rw[Tt.at] at f;obtain⟨d,e,j,l⟩:=f;exact⟨b,c,d,e,rfl,j,l,k⟩
theorem d3(f:Tt)(d:Option Addr)(c:Nat)(b:World):Calls prog 100 #[f.val d c] b λg j=>(g=if f.k=3 then .returned (.slice d f.l.length (f.l.length+c)) else ri)/\Bw b j:=by
 obtain⟨e,l,a⟩:=f;rw[Tt.ad];show Calls prog 100 #[.agg #[.int .i64 e,.string l,.slice d a.length (a.length+c)]] b λg j=>(g=if e=3 then .returned (.slice d a.length (a.length+c)) else ri)/\Bw b j;have k:=VV (ae (ar _ b) (.cells #[.int .i64 e,.string l,.slice d a.length (a.length+c)] 51));generalize a.length+c=o at *;generalize a.length=q at *;by_cases i:e=3;.subst i;rw[aR rfl];go_enter func100,ntmps100;go_wp2_with (go_at_call 94;refine(bc _).mono ?_;rintro m n ⟨rfl,rfl⟩);go_ret;exact⟨rfl,U k⟩
 .rw[aL i];(have p:(e == 3)=false:=by simp[i]);go_enter func100,ntmps100;go_wp2_with (go_at_call 94;refine(cx _).mono ?_;rintro m n ⟨rfl,rfl⟩);exact⟨rfl,rfl,U k⟩
def bB(b:List (List UInt8))(a:Tt):Option (Int×List Tt):=if a.k=3 then match a.l with
  | []=>none
  | h::d=>(bW b h).map λc=>(c,d)
 else none
def s3(f:Option (Int×List Tt))(b:World)(d:Ending)(g:World):Prop:=Bw b g/\match f with
 | some a=>∃c e,d=.returned (.tuple #[.int .i64 a.1,.slice c a.2.length (a.2.length+e)])/\Tt.all b c a.2
 | none=>d=ri
theorem bM(t:ByteArray)(y:List (List UInt8))(N:Lib.fields t.data.toList=y)(M:y.length<=1000)(O:t.size<4294967281)(K:∀(Wm:Nat) a,t.data.toList[Wm]?=some a->a.toNat<128)(l:Tt)(X:l.l.length<=1000000)(J:Option Addr)(B:Nat)(e:World)(G:Tt.all e J l.l)(L:GT e):Calls prog 93 #[l.val J B,.string t] e (s3 (bB y l) e):=by
 obtain⟨S,W⟩:=al (s3 (bB y l) e);rw[<-W];have A:=VV W;clear W;have k:=VV λ(f:World)=>d3 l J B f;have C:=ae (ar _ e) (.cells #[.int .i64 l.k,.string l.s,.slice J l.l.length (l.l.length+B)] 51);have r:=VV C;rw[Tt.ad] at k ⊢;by_cases v:l.k=3
 .simp only[aR v] at k
  cases D:l.l with
  | nil=>
   have s:Hid (S=s3 none e):=by show _=_;rw[U A];unfold bB;rw[aR v,D]
   rw[D] at k r
   simp only[List.length_nil,aT] at k r ⊢
   clear C A G L K O M N D v
   go_enter func93,ntmps93
   go_wp2_with (first
    | (go_at_call 100;refine(U k _).mono ?_;rintro E VZ ⟨rfl,o⟩;have x:=VV (ac (U r) o);clear o)
    | (go_at_call 94;refine(cx _).mono ?_;rintro E w ⟨rfl,rfl⟩))
   refine⟨rfl,?_⟩
   rw[U s]
   exact⟨U x,rfl⟩
  | cons h P=>
   rw[D] at G k r C X
   obtain⟨a,b,p,q,rfl,⟨V6,V7,V8⟩,Wf,V2⟩:=Tt.all_cons G
   obtain⟨g,Y⟩:=al P.length
   have V3:(h::P).length=g+1:=by rw[a1,Y]
   rw[V3] at k r C X ⊢
   have V0:=VV Y
   have V9:=VV V2
   have z:=VV λ(f:World) (We:Bw e f)=>il t y N M O K h p q f (L.aa We)
   have s:Hid (S=s3 ((bW y h).map λg=>(g,P)) e):=by show _=_;rw[U A];unfold bB;rw[aR v,D]
   obtain⟨V5,V4⟩:=al (bW y h)
   rw[<-V4] at z s
   simp only[Tt.ad] at z
   have V1:Hid (CA e [((a,b),.int .i64 h.k),((a,b+1),.string h.s),((a,b+2),.slice p h.l.length (h.l.length+q))]):=⟨V6,V7,V8,trivial⟩
   have Wj:(0:Int)<(g:Int)+1:=by omega
   have Wk:¬(g:Int)+1<1:=by omega
   have Wl:(1:Int)<=(g:Int)+1:=by omega
   have Wh:(g:Int)<=1000000:=by omega
   clear C A G L K O M N D v V6 V7 V8 Wf V2 Y V3 X V4
   obtain⟨u,V⟩:=al (g+1+B)
   rw[<-V] at k r ⊢
   by_cases Wd:u=1
   .have Wg:g=0:=by omega
    subst Wg Wd
    have Wb:Hid (P=[]):=eV (U V0).symm
    clear V Wh Wj Wk Wl
    go_enter func93,ntmps93
    go_upto_region 3 with (first
     | (go_at_call 100;refine(U k _).mono ?_;rintro E VZ ⟨rfl,o⟩;have x:=VV (ac (U r) o);clear o)
     | (go_at_call 94;refine(bc _).mono ?_;rintro E w ⟨rfl,rfl⟩))
    have R:Hid (Bw w w.drew):=(aN).drew
    have m:=VV (ac (U x) (U R))
    have c:=VV ((U V1).aa (U m))
    cases V5 with
    | none=>
     refine dR (λf=>Bw e f) (λWc I T j=>?_) (λf:World=>CA f [((a,b),.int .i64 h.k),((a,b+1),.string h.s),((a,b+2),.slice p h.l.length (h.l.length+q))]) 8 ?_
     .refine⟨T,?_⟩
      rw[U s]
      exact⟨j,rfl⟩
     refine VS 0 (.string t) rfl (U c) ?_
     refine VS 1 (.slice (some ⟨a,b,none⟩) 1 1) rfl (U c) ?_
     refine VS 2 (.pointer (some ⟨a,b,none⟩)) rfl (U c) ?_
     refine VS 3 (.agg #[.int .i64 h.k,.string h.s,.slice p h.l.length (h.l.length+q)]) rfl (U c) ?_ λVY n=>by simp only[CA] at n;obtain⟨Z,VW,VX,_⟩:=n;go_simp
     refine VS 5 (.slice (some ⟨a,b,none⟩) 1 1) rfl (U c) ?_
     refine VS 6 (.slice (some ⟨a,b,none⟩) 0 0) rfl (U c) ?_
     refine ap 4 rfl λi d=>?_
     go_simp
     refine(U z _ (U m)).mono ?_
     rintro _ I ⟨j,rfl⟩
     exact⟨rfl,rfl,ac (U m) j⟩
    | some Wn=>
     refine VR (λf:World=>CA f [((a,b),.int .i64 h.k),((a,b+1),.string h.s),((a,b+2),.slice p h.l.length (h.l.length+q))]) 8 ?_
     refine ai 0 (.string t) rfl (U c) ?_
     refine ai 1 (.slice (some ⟨a,b,none⟩) 1 1) rfl (U c) ?_
     refine ai 2 (.pointer (some ⟨a,b,none⟩)) rfl (U c) ?_
     refine ai 3 (.agg #[.int .i64 h.k,.string h.s,.slice p h.l.length (h.l.length+q)]) rfl (U c) ?_ λVY n=>by simp only[CA] at n;obtain⟨Z,VW,VX,_⟩:=n;go_simp
     refine ai 5 (.slice (some ⟨a,b,none⟩) 1 1) rfl (U c) ?_
     refine ai 6 (.slice (some ⟨a,b,none⟩) 0 0) rfl (U c) ?_
     refine ap 4 rfl λi d=>?_
     go_simp
     refine(U z _ (U m)).mono ?_
     rintro _ I ⟨j,rfl⟩
     have Q:=VV (ac (U m) j)
     have F:=VV ((U c).aa j)
     go_simp
     refine aO d (U F) ?_
     clear d i
     refine ap 7 rfl λi d=>?_
     go_simp
     refine aO d (U F) ?_
     clear d i
     refine ap 8 rfl λi d=>?_
     go_simp
     refine aS d ?_
     clear d i
     refine bh ?_
     go_wp2
     rw[U s]
     have Wi:=U Wb
     subst Wi
     exact⟨U Q,some ⟨a,b,none⟩,0,by rfl,by show Tt.all e _ [];rw[Tt.all];trivial⟩
   .have Wa:Hid (u-1=g+B):=by show _=_;omega
    clear V
    go_enter func93,ntmps93
    go_upto_region 3 with (first
     | (go_at_call 100;refine(U k _).mono ?_;rintro E VZ ⟨rfl,o⟩;have x:=VV (ac (U r) o);clear o)
     | (go_at_call 94;refine(bc _).mono ?_;rintro E w ⟨rfl,rfl⟩))
    have R:Hid (Bw w w.drew):=(aN).drew
    have m:=VV (ac (U x) (U R))
    have c:=VV ((U V1).aa (U m))
    cases V5 with
    | none=>
     refine dR (λf=>Bw e f) (λWc I T j=>?_) (λf:World=>CA f [((a,b),.int .i64 h.k),((a,b+1),.string h.s),((a,b+2),.slice p h.l.length (h.l.length+q))]) 8 ?_
     .refine⟨T,?_⟩
      rw[U s]
      exact⟨j,rfl⟩
     refine VS 0 (.string t) rfl (U c) ?_
     refine VS 1 (.slice (some ⟨a,b,none⟩) (g+1) u) rfl (U c) ?_
     refine VS 2 (.pointer (some ⟨a,b,none⟩)) rfl (U c) ?_
     refine VS 3 (.agg #[.int .i64 h.k,.string h.s,.slice p h.l.length (h.l.length+q)]) rfl (U c) ?_ λVY n=>by simp only[CA] at n;obtain⟨Z,VW,VX,_⟩:=n;go_simp
     refine VS 5 (.slice (some ⟨a,b,none⟩) (g+1) u) rfl (U c) ?_
     refine VS 6 (.slice (some ⟨a,b+3,none⟩) g (u-1)) rfl (U c) ?_
     refine ap 4 rfl λi d=>?_
     go_simp
     refine(U z _ (U m)).mono ?_
     rintro _ I ⟨j,rfl⟩
     exact⟨rfl,rfl,ac (U m) j⟩
    | some Wn=>
     refine VR (λf:World=>CA f [((a,b),.int .i64 h.k),((a,b+1),.string h.s),((a,b+2),.slice p h.l.length (h.l.length+q))]) 8 ?_
     refine ai 0 (.string t) rfl (U c) ?_
     refine ai 1 (.slice (some ⟨a,b,none⟩) (g+1) u) rfl (U c) ?_
     refine ai 2 (.pointer (some ⟨a,b,none⟩)) rfl (U c) ?_
     refine ai 3 (.agg #[.int .i64 h.k,.string h.s,.slice p h.l.length (h.l.length+q)]) rfl (U c) ?_ λVY n=>by simp only[CA] at n;obtain⟨Z,VW,VX,_⟩:=n;go_simp
     refine ai 5 (.slice (some ⟨a,b,none⟩) (g+1) u) rfl (U c) ?_
     refine ai 6 (.slice (some ⟨a,b+3,none⟩) g (u-1)) rfl (U c) ?_
     refine ap 4 rfl λi d=>?_
     go_simp
     refine(U z _ (U m)).mono ?_
     rintro _ I ⟨j,rfl⟩
     have Q:=VV (ac (U m) j)
     have F:=VV ((U c).aa j)
     go_simp
     refine aO d (U F) ?_
     clear d i
     refine ap 7 rfl λi d=>?_
     go_simp
     refine aO d (U F) ?_
     clear d i
     refine ap 8 rfl λi d=>?_
     go_simp
     refine aS d ?_
     clear d i
     refine bh ?_
     go_wp2
     rw[U s]
     exact⟨U Q,some ⟨a,b+3,none⟩,B,by rw[U Wa,U V0];rfl,U V9⟩
 .simp only[aL v] at k;(have s:Hid (S=s3 none e):=by show _=_;rw[U A];unfold bB;rw[aL v]);clear C A G L K O M N v;go_enter func93,ntmps93;go_wp2_with (go_at_call 100;refine(U k _).mono ?_;rintro E VZ ⟨rfl,o⟩;have x:=VV (ac (U r) o);clear o);refine⟨rfl,?_⟩;rw[U s];exact⟨U x,rfl⟩
def VQ{α:Type}(d:α->Value)(c:Option α)(a:World)(b:Ending)(e:World):Prop:=Bw a e/\b=match c with
 | some f=>.returned (d f)
 | none=>ri
mutual
def Tt.fin:Tt->Prop
 | .mk c b a=>b.size<=1000000/\a.length<=1000000/\Tt.ah a
def Tt.ah:List Tt->Prop
 | []=>True
 | b::a=>b.fin/\Tt.ah a
end
theorem Tt.af{a:Tt}(h:a.fin):a.s.size<=1000000/\a.l.length<=1000000/\Tt.ah a.l:=by
 cases a with
 | mk b d c=>rw[Tt.fin] at h;exact h
theorem Tt.ag:∀{b:List Tt} {c:Tt},Tt.ah b->c∈b->c.fin
 | [],_,_,h=>by cases h
 | d::b,c,h,a=>by rw[Tt.ah] at h;rcases dm a with rfl|a;(.exact h.1);.exact Tt.ag h.2 a
theorem cd{b:List (List UInt8)}{d:Tt}{c:List Tt}(h:bB b d=some (I,c)):∃a,d.l=a::c/\bW b a=some I:=by
 unfold bB at h;split at h;.split at h;(.cases h);.rename_i a k i;obtain⟨l,j,g⟩:=Option.map_eq_some_iff.1 h;injection g with e f;subst e f;exact⟨a,i,j⟩
 .cases h
def hK(a:Tt):Option ByteArray:=if a.k=1/\dT a.s=true then some a.s else none
theorem np(i:Tt)(q:i.fin)(m:Option Addr)(f:Nat)(d:World):Calls prog 96 #[i.val m f] d (VQ Value.string (hK i) d):=by
 have p:=(Tt.af q).1;obtain⟨e,a,c⟩:=i;rw[Tt.ad];show Calls prog 96 #[.agg #[.int .i64 e,.string a,.slice m c.length (c.length+f)]] d (VQ Value.string (if e=1/\dT a=true then some a else none) d);have o:=ae (ar _ d) (.cells #[.int .i64 e,.string a,.slice m c.length (c.length+f)] 51);have j:=VV o;have l:=VV λ(u:World)=>jt a (aQ p (by decide)) u;clear o q p;obtain⟨v,r⟩:=al (dT a);rw[<-r] at l ⊢;clear r;generalize c.length+f=w at *;generalize c.length=z at *;by_cases n:e=1
 .subst n
  cases v with
  | true=>
   rw[aR ⟨rfl,rfl⟩]
   go_enter func96,ntmps96
   go_wp2_with (first
    | (go_at_call 136;refine(U l _).mono ?_;rintro g s ⟨rfl,b⟩;have k:=VV (ac (U j) b);have x:s.cell? ⟨d.heap.size,1,none⟩=some (.string a):=aG (by simp[go_sem]) b;clear b)
    | (go_at_call 94;refine(bc _).mono ?_;rintro g t ⟨rfl,rfl⟩))
   go_ret
   exact⟨U k,rfl⟩
  | false=>
   rw[aL (λh=>by cases h.2)]
   go_enter func96,ntmps96
   go_wp2_with (first
    | (go_at_call 136;refine(U l _).mono ?_;rintro g s ⟨rfl,b⟩;have k:=VV (ac (U j) b);clear b)
    | (go_at_call 94;refine(cx _).mono ?_;rintro g t ⟨rfl,rfl⟩))
   exact⟨rfl,U k,rfl⟩
 .rw[aL (λh=>n h.1)];(have y:(e == 1)=false:=by simp[n]);go_enter func96,ntmps96;go_wp2_with (go_at_call 94;refine(cx _).mono ?_;rintro g t ⟨rfl,rfl⟩);exact⟨rfl,U j,rfl⟩
def gm(a:Tt):Option Int:=bW bG a
theorem nw(a:Tt)(e:Option Addr)(c:Nat)(d:World)(j:GT d):Calls prog 108 #[a.val e c] d (pT (gm a) d):=by
 have g:=ae (ar _ d) (.cells #[.int .i64 a.k,.string a.s,.slice e a.l.length (a.l.length+c)] 51);have i:=VV g;have b:=il kn bG fZ (by decide) (by decide) (ascii_of_all (by decide)) a e c _ (j.aa g);unfold gm kn at *;obtain⟨l,k⟩:=al (bW bG a);rw[<-k] at b ⊢;rw[Tt.ad] at b ⊢;have b:=VV b;clear g j k;generalize a.l.length+c=o at *;generalize a.l.length=p at *;cases l with
 | some q=>go_enter func108,ntmps108;go_wp2_with (go_at_call 107;refine(U b).mono ?_;rintro m n ⟨f,rfl⟩);go_ret;exact⟨ac (U i) f,rfl⟩
 | none=>go_enter func108,ntmps108;go_wp2_with (go_at_call 107;refine(U b).mono ?_;rintro m n ⟨f,rfl⟩);exact⟨rfl,ac (U i) f,rfl⟩
def bp(b:World)(c:Nat)(e:List Value):Prop:=∀a d,e[a]?=some d->b.cell? ⟨c,a,none⟩=some d/\b.frozen? ⟨c,a,none⟩=false
theorem bp.aa(h:bp w n D)(d:Bw w W):bp W n D:=λa c b=>by
 have e:=bY _ _ (h a c b).1
 exact⟨by rw[d.cell (p:=⟨n,a,none⟩) e];exact(h a c b).1,by rw[d.frozen (p:=⟨n,a,none⟩) e];exact(h a c b).2⟩
theorem bp.new(b:World)(a:List Value)(d:TypeId):bp (b.alloc (.cells a.toArray d)) b.heap.size a:=λe f c=>⟨by simp[go_sem,c],by simp[go_sem]⟩
def VM(c:Tt):Option (Int×Int):=match bB ea c with
 | some (a,[b])=>(cp b).map λd=>(a,d)
 | _=>none
def sb(a:Int×Int):Value:=.agg #[.int .i64 a.1,.int .i64 a.2]
def fr(a:Tt):Option (Int×Bool):=if a.k=3 then match bB [cy] a with
  | some (_,[c])=>(cp c).map λb=>(b,true)
  | _=>none
 else (cp a).map λb=>(b,false)
def rJ(a:Int×Bool):Value:=.agg #[.int .i64 a.1,.bool a.2]
theorem pP(a:Tt)(V4:a.fin)(j:Option Addr)(k:Nat)(b:World)(V3:Tt.all b j a.l)(I:GT b):Calls prog 104 #[a.val j k] b (VQ sb (VM a) b):=by
 obtain⟨A,J⟩:=al (VQ sb (VM a) b);rw[<-J];have n:=VV J;have Q:=Tt.af V4;obtain⟨o,l⟩:=bq ((b.alloc (.cells #[.int .i64 a.k,.string a.s,.slice j a.l.length (a.l.length+k)] 51)).alloc (.cells #[.int .i64 0,.int .i64 0] 78));have c:=ae (ar _ b) (.cells #[.int .i64 a.k,.string a.s,.slice j a.l.length (a.l.length+k)] 51);have B:Bw b o:=by rw[<-l];exact ae c _
 have V:bp o (b.heap.size+1) [.int .i64 0,.int .i64 0]:=by rw[<-l];have:=bp.new (b.alloc (.cells #[.int .i64 a.k,.string a.s,.slice j a.l.length (a.l.length+k)] 51)) [.int .i64 0,.int .i64 0] 78;simpa using this
 have VW:=VV V;have Wi:o.cell? ⟨b.heap.size,0,none⟩=some (.int .i64 a.k):=by rw[<-l];simp[go_sem]
 have Wj:o.cell? ⟨b.heap.size,1,none⟩=some (.string a.s):=by rw[<-l];simp[go_sem]
 have Wk:o.cell? ⟨b.heap.size,2,none⟩=some (.slice j a.l.length (a.l.length+k)):=by rw[<-l];simp[go_sem]
 have p:=VV B;have d:=bM pO ea gK (by decide) (by decide) (ascii_of_all (by decide)) a Q.2.1 j k o (Tt.ab _ V3 B) (I.aa B);unfold pO at d;have q:=VV l;unfold VM at n;rw[Tt.ad] at d ⊢;have D:=λt u (h:bB ea a=some (t,u))=>(cd h);obtain⟨V5,L⟩:=al (bB ea a);rw[<-L] at d n D;have d:=VV d;have Z:=VV λ(r:World) (K:Bw b r)=>I.aa K;generalize Wn:a.l.length+k=Wh at *;generalize Wq:a.l.length=Wr at *;clear B l c V J I;cases V5 with
 | none=>have g:Hid (A=VQ sb none b):=U n;go_enter func104,ntmps104;go_upto_region 1 with fail;rw[U q];go_wp2_with (go_at_call 93;refine(U d).mono ?_;rintro e E ⟨c,rfl⟩);refine⟨rfl,?_⟩;rw[U g];exact⟨ac (U p) c,rfl⟩
 | some V8=>
  obtain⟨t,u⟩:=V8
  obtain⟨X,N,_⟩:=D t u rfl
  have C:Tt.ah u:=by have:=Q.2.2;rw[N,Tt.ah] at this;exact this.2
  match u,C with
  | [],_=>
   have g:Hid (A=VQ sb none b):=U n
   go_enter func104,ntmps104
   go_upto_region 1 with fail
   rw[U q]
   go_wp2_with (first
    | (go_at_call 93;refine(U d).mono ?_;rintro e E ⟨c,F,G,rfl,i⟩;simp only[List.length_nil,aT];have f:=VV (ac (U p) c);clear c)
    | (go_at_call 94;refine(cx _).mono ?_;rintro e P ⟨rfl,rfl⟩))
   refine⟨rfl,?_⟩
   rw[U g]
   exact⟨U f,rfl⟩
  | m::Wd::W,_=>
   have g:Hid (A=VQ sb none b):=U n
   obtain⟨O,R⟩:=al W.length
   have S:(m::Wd::W).length=O+2:=by rw[a1,a1,R]
   have Wo:((O:Int)+2 == 1)=false:=by simp;omega
   have Wp:¬((O:Int)+2=1):=by omega
   go_enter func104,ntmps104
   go_upto_region 1 with fail
   rw[U q]
   go_upto_region 2 with (go_at_call 93;refine(U d).mono ?_;rintro e E ⟨c,F,G,rfl,i⟩;simp only[S];have f:=VV (ac (U p) c);clear c i)
   clear R S N D L
   go_wp2_with (go_at_call 94;refine(cx _).mono ?_;rintro e P ⟨rfl,rfl⟩)
   refine⟨rfl,?_⟩
   rw[U g]
   exact⟨U f,rfl⟩
  | [m],C=>
   rw[Tt.ah] at C
   have z:=VV λ(VY:Option Addr) (V1:Nat) (r:World) (K:Bw b r)=>cH m (Tt.af C.1).1 VY V1 r (U Z r K)
   have g:Hid (A=VQ sb ((cp m).map λX=>(t,X)) b):=U n
   obtain⟨V7,T⟩:=al (cp m)
   rw[<-T] at z g
   simp only[Tt.ad] at z
   clear T D L N
   cases V7 with
   | none=>
    go_enter func104,ntmps104
    go_upto_region 1 with fail
    rw[U q]
    go_wp2_with (first
     | (go_at_call 93;refine(U d).mono ?_;rintro e E ⟨c,F,G,rfl,i⟩;simp only[List.length_singleton];obtain⟨V0,V6,VZ,V2,rfl,⟨w,x,y⟩,_,_⟩:=Tt.all_cons i;have Wa:=aG w c;have Wb:=aG x c;have Wc:=aG y c;have f:=VV (ac (U p) c);clear c i w x y)
     | (go_at_call 94;refine(bc _).mono ?_;rintro e P ⟨rfl,rfl⟩)
     | (go_at_call 102;refine(U z _ _ _ (U f)).mono ?_;rintro e V9 ⟨s,rfl⟩))
    refine⟨rfl,?_⟩
    rw[U g]
    exact⟨ac (U f) s,rfl⟩
   | some Wg=>
    go_enter func104,ntmps104
    go_upto_region 1 with fail
    rw[U q]
    go_wp2_with (first
     | (go_at_call 93;refine(U d).mono ?_;rintro e E ⟨c,F,G,rfl,i⟩;simp only[List.length_singleton];obtain⟨V0,V6,VZ,V2,rfl,⟨w,x,y⟩,_,_⟩:=Tt.all_cons i;have Wa:=aG w c;have Wb:=aG x c;have Wc:=aG y c;have f:=VV (ac (U p) c);have VX:=VV ((U VW).aa c);clear c i w x y)
     | (go_at_call 94;refine(bc _).mono ?_;rintro e P ⟨rfl,rfl⟩)
     | (go_at_call 102;refine(U z _ _ _ (U f)).mono ?_;rintro e V9 ⟨s,rfl⟩;have M:=(U VX).aa s;obtain⟨We,Wl⟩:=M 0 _ rfl;obtain⟨Wf,Wm⟩:=M 1 _ rfl;have Y:=VV (ac (U f) s);clear s M))
    refine aM (v:=.agg #[.int .i64 t,.int .i64 Wg]) (by simp[results,results104,go_sem,We,Wf]) rfl ?_
    rw[U g]
    exact⟨((U Y).setCell (p:=⟨b.heap.size+1,0,none⟩) (Nat.le_succ _) _).setCell (p:=⟨b.heap.size+1,1,none⟩) (Nat.le_succ _) _,rfl⟩
theorem kq(a:Tt)(Wh:a.fin)(q:Option Addr)(m:Nat)(b:World)(We:Tt.all b q a.l)(I:GT b):Calls prog 106 #[a.val q m] b (VQ rJ (fr a) b):=by
 obtain⟨x,J⟩:=al (VQ rJ (fr a) b);rw[<-J];have k:=VV J;have Q:=Tt.af Wh;obtain⟨u,n⟩:=bq ((b.alloc (.cells #[.int .i64 a.k,.string a.s,.slice q a.l.length (a.l.length+m)] 51)).alloc (.cells #[.int .i64 0,.bool false] 82));have c:=ae (ar _ b) (.cells #[.int .i64 a.k,.string a.s,.slice q a.l.length (a.l.length+m)] 51);have z:Bw b u:=by rw[<-n];exact ae c _
 have S:bp u (b.heap.size+1) [.int .i64 0,.bool false]:=by rw[<-n];have:=bp.new (b.alloc (.cells #[.int .i64 a.k,.string a.s,.slice q a.l.length (a.l.length+m)] 51)) [.int .i64 0,.bool false] 82;simpa using this
 have V0:=VV S;have Wb:u.cell? ⟨b.heap.size,0,none⟩=some (.int .i64 a.k):=by rw[<-n];simp[go_sem]
 have Wq:u.cell? ⟨b.heap.size,1,none⟩=some (.string a.s):=by rw[<-n];simp[go_sem]
 have Wr:u.cell? ⟨b.heap.size,2,none⟩=some (.slice q a.l.length (a.l.length+m)):=by rw[<-n];simp[go_sem]
 have i:=VV z;have f:=bM ⟨#[100,101,115,99]⟩ [cy] (by kernel_rfl) (by decide) (by decide) (ascii_of_all (by decide)) a Q.2.1 q m u (Tt.ab _ We z) (I.aa z);have p:=VV n;unfold fr at k;have VZ:=VV λ(l:World) (y:Bw b l)=>I.aa y;have w:=VV λ(l:World) (y:Bw b l)=>cH a Q.1 q m l (U VZ l y);rw[Tt.ad] at f ⊢;have A:=λW C (h:bB [cy] a=some (W,C))=>(cd h);by_cases s:a.k=3
 case neg=>
  have Wu:¬a.k=3:=s
  have d:Hid (x=VQ rJ ((cp a).map λM=>(M,false)) b):=by have:=U k;rw[aL s] at this;exact this
  obtain⟨X,B⟩:=al (cp a)
  rw[<-B] at w d
  simp only[Tt.ad] at w
  generalize Wf:a.l.length+m=Wa at *
  generalize Wg:a.l.length=Wi at *
  have Wv:(a.k == 3)=false:=by simp[s]
  have Ww:(a.k != 3)=true:=by simp[s]
  clear z n c S J I f A B k
  cases X with
  | none=>
   go_enter func106,ntmps106
   go_upto_region 1 with fail
   rw[U p]
   go_wp2_with (go_at_call 102;refine(U w _ (U i)).mono ?_;rintro e Z ⟨g,rfl⟩)
   refine⟨rfl,?_⟩
   rw[U d]
   exact⟨ac (U i) g,rfl⟩
  | some VY=>
   go_enter func106,ntmps106
   go_upto_region 1 with fail
   rw[U p]
   go_wp2_with (go_at_call 102;refine(U w _ (U i)).mono ?_;rintro e Z ⟨g,rfl⟩;have t:=(U V0).aa g;obtain⟨VW,Wc⟩:=t 0 _ rfl;obtain⟨VX,Wd⟩:=t 1 _ rfl;have N:=VV (ac (U i) g);clear g t)
   refine aM (v:=.agg #[.int .i64 VY,.bool false]) (by simp[results,results106,go_sem,VW,VX]) rfl ?_
   rw[U d]
   exact⟨((U N).setCell (p:=⟨b.heap.size+1,0,none⟩) (Nat.le_succ _) _).setCell (p:=⟨b.heap.size+1,1,none⟩) (Nat.le_succ _) _,rfl⟩
 rw[aR s] at k;rw[s] at p f Wb n c ⊢;clear w s;obtain⟨Wj,R⟩:=al (bB [cy] a);rw[<-R] at f k A;have f:=VV f;generalize Wf:a.l.length+m=Wa at *;generalize Wg:a.l.length=Wi at *;clear z n c S J I;cases Wj with
 | none=>have d:Hid (x=VQ rJ none b):=U k;go_enter func106,ntmps106;go_upto_region 1 with fail;rw[U p];go_wp2_with (go_at_call 93;refine(U f).mono ?_;rintro e L ⟨c,rfl⟩);refine⟨rfl,?_⟩;rw[U d];exact⟨ac (U i) c,rfl⟩
 | some Wl=>
  obtain⟨W,C⟩:=Wl
  obtain⟨M,T,_⟩:=A W C rfl
  have K:Tt.ah C:=by have:=Q.2.2;rw[T,Tt.ah] at this;exact this.2
  match C,K with
  | [],_=>
   have d:Hid (x=VQ rJ none b):=U k
   go_enter func106,ntmps106
   go_upto_region 1 with fail
   rw[U p]
   go_wp2_with (first
    | (go_at_call 93;refine(U f).mono ?_;rintro e L ⟨c,O,P,rfl,r⟩;simp only[List.length_nil,aT];have j:=VV (ac (U i) c);clear c)
    | (go_at_call 94;refine(cx _).mono ?_;rintro e Y ⟨rfl,rfl⟩))
   refine⟨rfl,?_⟩
   rw[U d]
   exact⟨U j,rfl⟩
  | o::Wp::V3,_=>
   have d:Hid (x=VQ rJ none b):=U k
   obtain⟨V,V1⟩:=al V3.length
   have V2:(o::Wp::V3).length=V+2:=by rw[a1,a1,V1]
   have Ws:((V:Int)+2 == 1)=false:=by simp;omega
   have Wt:¬((V:Int)+2=1):=by omega
   go_enter func106,ntmps106
   go_upto_region 1 with fail
   rw[U p]
   go_upto_region 2 with (go_at_call 93;refine(U f).mono ?_;rintro e L ⟨c,O,P,rfl,r⟩;simp only[V2];have j:=VV (ac (U i) c);clear c r)
   clear V1 V2 T A R
   go_wp2_with (go_at_call 94;refine(cx _).mono ?_;rintro e Y ⟨rfl,rfl⟩)
   refine⟨rfl,?_⟩
   rw[U d]
   exact⟨U j,rfl⟩
  | [o],K=>
   rw[Tt.ah] at K
   have G:=VV λ(V5:Option Addr) (V8:Nat) (l:World) (y:Bw b l)=>cH o (Tt.af K.1).1 V5 V8 l (U VZ l y)
   have d:Hid (x=VQ rJ ((cp o).map λM=>(M,true)) b):=U k
   obtain⟨X,B⟩:=al (cp o)
   rw[<-B] at G d
   simp only[Tt.ad] at G
   clear B A R T
   cases X with
   | none=>
    go_enter func106,ntmps106
    go_upto_region 1 with fail
    rw[U p]
    go_wp2_with (first
     | (go_at_call 93;refine(U f).mono ?_;rintro e L ⟨c,O,P,rfl,r⟩;simp only[List.length_singleton];obtain⟨V7,Wk,V6,V9,rfl,⟨D,E,F⟩,_,_⟩:=Tt.all_cons r;have Wm:=aG D c;have Wn:=aG E c;have Wo:=aG F c;have j:=VV (ac (U i) c);clear c r D E F)
     | (go_at_call 94;refine(bc _).mono ?_;rintro e Y ⟨rfl,rfl⟩)
     | (go_at_call 102;refine(U G _ _ _ (U j)).mono ?_;rintro e Z ⟨g,rfl⟩))
    refine⟨rfl,?_⟩
    rw[U d]
    exact⟨ac (U j) g,rfl⟩
   | some VY=>
    go_enter func106,ntmps106
    go_upto_region 1 with fail
    rw[U p]
    go_wp2_with (first
     | (go_at_call 93;refine(U f).mono ?_;rintro e L ⟨c,O,P,rfl,r⟩;simp only[List.length_singleton];obtain⟨V7,Wk,V6,V9,rfl,⟨D,E,F⟩,_,_⟩:=Tt.all_cons r;have Wm:=aG D c;have Wn:=aG E c;have Wo:=aG F c;have j:=VV (ac (U i) c);have V4:=VV ((U V0).aa c);clear c r D E F)
     | (go_at_call 94;refine(bc _).mono ?_;rintro e Y ⟨rfl,rfl⟩)
     | (go_at_call 102;refine(U G _ _ _ (U j)).mono ?_;rintro e Z ⟨g,rfl⟩;have t:=(U V4).aa g;obtain⟨VW,Wc⟩:=t 0 _ rfl;obtain⟨VX,Wd⟩:=t 1 _ rfl;have N:=VV (ac (U j) g);clear g t))
    refine aM (v:=.agg #[.int .i64 VY,.bool true]) (by simp[results,results106,go_sem,VW,VX]) rfl ?_
    rw[U d]
    exact⟨((U N).setCell (p:=⟨b.heap.size+1,0,none⟩) (Nat.le_succ _) _).setCell (p:=⟨b.heap.size+1,1,none⟩) (Nat.le_succ _) _,rfl⟩
def fy(a:Tt):Option Ex:=if a.s=⟨#[110,117,108,108]⟩ then some (.mk 2 0 ⟨0,0,⟨#[]⟩⟩ []) else if eZ 35 a.s.data.toList=true then (du (bs (fR 35 a.s.data.toList))).map λb=>.mk 1 b ⟨0,0,⟨#[]⟩⟩ []
 else (du a.s).map λb=>.mk 2 0 ⟨1,b,⟨#[]⟩⟩ []
def so(a:Ex):Value:=a.val none 0
theorem b1(h:Below n w W)(a:n<=m)(b c d e f g:Value):Below n w ((((((W.setCell ⟨m,0,none⟩ b).setCell ⟨m,1,none⟩ c).setCell ⟨m,2,none⟩ d).setCell ⟨m,3,none⟩ e).setCell ⟨m,4,none⟩ f).setCell ⟨m,5,none⟩ g):=(bT h a b c d).setCell (p:=⟨m,3,none⟩) a e |>.setCell (p:=⟨m,4,none⟩) a f |>.setCell (p:=⟨m,5,none⟩) a g
abbrev VK:List Value:=[.int .i64 0,.int .i64 0,.int .i64 0,.int .i64 0,.string ⟨#[]⟩,.slice none 0 0]
theorem nt(a:Tt)(VW:a.fin)(D:Option Addr)(t:Nat)(c:World)(I:GT c):Calls prog 137 #[a.val D t] c (VQ so (fy a) c):=by
 have Z:=(Tt.af VW).1;obtain⟨G,J⟩:=al (VQ so (fy a) c);rw[<-J];have i:=VV J;obtain⟨k,u⟩:=bq ((c.alloc (.cells #[.int .i64 a.k,.string a.s,.slice D a.l.length (a.l.length+t)] 51)).alloc (.cells #[.int .i64 0,.int .i64 0,.int .i64 0,.int .i64 0,.string ⟨#[]⟩,.slice none 0 0] 72));have W:=ae (ar _ c) (.cells #[.int .i64 a.k,.string a.s,.slice D a.l.length (a.l.length+t)] 51);have E:Bw c k:=by rw[<-u];exact ae W _
 have X:bp k (c.heap.size+1) VK:=by rw[<-u];have:=bp.new (c.alloc (.cells #[.int .i64 a.k,.string a.s,.slice D a.l.length (a.l.length+t)] 51)) VK 72;simpa using this
 have j:=VV X;have VX:k.cell? ⟨c.heap.size,1,none⟩=some (.string a.s):=by rw[<-u];simp[go_sem]
 have s:=VV E;have q:=VV u;have o:=VV (gA a.s Z k (I.aa E));have p:=VV (gA (bs (fR 35 a.s.data.toList)) (by rw[bx];unfold fR Lib.trimPrefix;have O:a.s.data.toList.length=a.s.size:=rfl;split;(.rw[List.length_drop];omega);.omega) k (I.aa E));have N:=VV (Tryz.strings_CutPrefix a.s ⟨#[35]⟩ k);have g:Hid (Calls prog 128 #[.string a.s,.string ⟨#[35]⟩] k λO V1=>O=.returned (.tuple #[.string (bs (fR 35 a.s.data.toList)),.bool (eZ 35 a.s.data.toList)])/\V1=k):=N;unfold fy at i;rw[Tt.ad];generalize VY:a.l.length+t=V2 at *;generalize VZ:a.l.length=V4 at *;obtain⟨f,Y⟩:=al a.s;rw[<-Y] at i q o p g VX Z ⊢;clear E u W X J I N VY VZ Y VW;by_cases l:f=⟨#[110,117,108,108]⟩;·(have e:Hid (G=VQ so (some (.mk 2 0 ⟨0,0,⟨#[]⟩⟩ [])) c):=by have:=U i;rw[aR l] at this;exact this);clear i o p g;subst l;obtain⟨x,P⟩:=(U j) 0 _ rfl;obtain⟨y,Q⟩:=(U j) 1 _ rfl;obtain⟨z,R⟩:=(U j) 2 _ rfl;obtain⟨A,S⟩:=(U j) 3 _ rfl;obtain⟨B,T⟩:=(U j) 4 _ rfl;obtain⟨C,V⟩:=(U j) 5 _ rfl;go_enter func137,ntmps137;go_upto_region 1 with fail;rw[U q];go_wp2;refine aM (v:=.agg #[.int .i64 2,.int .i64 0,.int .i64 0,.int .i64 0,.string ⟨#[]⟩,.slice none 0 0]) (by simp[results,results137,go_sem,x,y,z,A,B,C]) rfl ?_;rw[U e];exact⟨b1 (U s) (Nat.le_succ _) _ _ _ _ _ _,rfl⟩
 have V3:(f.toList == [110,117,108,108])=false:=by have:=jz l;simpa using this
 cases r:eZ 35 f.data.toList with
 | true=>
  rw[r] at g
  have e:Hid (G=VQ so ((du (bs (fR 35 f.data.toList))).map λm=>.mk 1 m ⟨0,0,⟨#[]⟩⟩ []) c):=by have:=U i;rw[aL l,aR r] at this;exact this
  obtain⟨K,w⟩:=al (du (bs (fR 35 f.data.toList)))
  rw[<-w] at p e
  generalize bs (fR 35 f.data.toList)=V0 at *
  clear i o l r w
  cases K with
  | none=>
   go_enter func137,ntmps137
   go_upto_region 1 with fail
   rw[U q]
   go_wp2_with (first
    | (go_at_call 128;refine(U g).mono ?_;rintro n L ⟨rfl,rfl⟩)
    | (go_at_call 139;refine(U p).mono ?_;rintro n M ⟨d,rfl⟩))
   refine⟨rfl,?_⟩
   rw[U e]
   exact⟨ac (U s) d,rfl⟩
  | some m=>
   go_enter func137,ntmps137
   go_upto_region 1 with fail
   rw[U q]
   go_wp2_with (first
    | (go_at_call 128;refine(U g).mono ?_;rintro n L ⟨rfl,rfl⟩)
    | (go_at_call 139;refine(U p).mono ?_;rintro n M ⟨d,rfl⟩;have b:=(U j).aa d;obtain⟨x,P⟩:=b 0 _ rfl;obtain⟨y,Q⟩:=b 1 _ rfl;obtain⟨z,R⟩:=b 2 _ rfl;obtain⟨A,S⟩:=b 3 _ rfl;obtain⟨B,T⟩:=b 4 _ rfl;obtain⟨C,V⟩:=b 5 _ rfl;have F:=VV (ac (U s) d);clear d b))
   refine aM (v:=.agg #[.int .i64 1,.int .i64 m,.int .i64 0,.int .i64 0,.string ⟨#[]⟩,.slice none 0 0]) (by simp[results,results137,go_sem,x,y,z,A,B,C]) rfl ?_
   rw[U e]
   exact⟨b1 (U F) (Nat.le_succ _) _ _ _ _ _ _,rfl⟩
 | false=>
  rw[r] at g
  have e:Hid (G=VQ so ((du f).map λm=>.mk 2 0 ⟨1,m,⟨#[]⟩⟩ []) c):=by have:=U i;rw[aL l,aL (by rw[r];decide)] at this;exact this
  obtain⟨K,w⟩:=al (du f)
  rw[<-w] at o e
  generalize bs (fR 35 f.data.toList)=V0 at *
  clear i p l r w
  cases K with
  | none=>
   go_enter func137,ntmps137
   go_upto_region 1 with fail
   rw[U q]
   go_wp2_with (first
    | (go_at_call 128;refine(U g).mono ?_;rintro n L ⟨rfl,rfl⟩)
    | (go_at_call 139;refine(U o).mono ?_;rintro n M ⟨d,rfl⟩))
   refine⟨rfl,?_⟩
   rw[U e]
   exact⟨ac (U s) d,rfl⟩
  | some m=>
   go_enter func137,ntmps137
   go_upto_region 1 with fail
   rw[U q]
   go_wp2_with (first
    | (go_at_call 128;refine(U g).mono ?_;rintro n L ⟨rfl,rfl⟩)
    | (go_at_call 139;refine(U o).mono ?_;rintro n M ⟨d,rfl⟩;have b:=(U j).aa d;obtain⟨x,P⟩:=b 0 _ rfl;obtain⟨y,Q⟩:=b 1 _ rfl;obtain⟨z,R⟩:=b 2 _ rfl;obtain⟨A,S⟩:=b 3 _ rfl;obtain⟨B,T⟩:=b 4 _ rfl;obtain⟨C,V⟩:=b 5 _ rfl;have F:=VV (ac (U s) d);clear d b))
   refine aM (v:=.agg #[.int .i64 2,.int .i64 0,.int .i64 1,.int .i64 m,.string ⟨#[]⟩,.slice none 0 0]) (by simp[results,results137,go_sem,x,y,z,A,B,C]) rfl ?_
   rw[U e]
   exact⟨b1 (U F) (Nat.le_succ _) _ _ _ _ _ _,rfl⟩
end Go.Proofs.YtabmgpillccfaaaGreatDoor
