import Derived.Test.YtabmgpillccfaaaGreatDoorTzP
set_option linter.all false
set_option maxHeartbeats 1000000
set_option maxRecDepth 100000
namespace Go.Proofs.YtabmgpillccfaaaGreatDoor
open Go.RowKit Go.Sort Go.Proofs.Tryz
def a6{a:Type}(b:Tt->Option a):List Tt->Option (List a)
 | []=>some []
 | d::c=>match b d with
  | none=>none
  | some e=>(a6 b c).map λf=>e::f
def g5{α b:Type}(g:Lk α)(i:α->b)(j:Option (List b))(a:World)(c:Ending)(f:World):Prop:=Bw a f/\match j with
 | some k=>∃e d,c=.returned e/\d.map i=k/\GL g f a.heap.size e d
 | none=>c=ri
def XQ(i:Option Ex)(a:World)(d:Ending)(b:World):Prop:=Bw a b/\match i with
 | some e=>∃c g,d=.returned (e.val c g)/\SK (SN a.heap.size b) b λf=>Ex.all f c e.args
 | none=>d=ri
def PQ(g:Option Pl)(a:World)(c:Ending)(b:World):Prop:=Bw a b/\match g with
 | some e=>∃d,c=.returned (e.val d)/\SK (SN a.heap.size b) b λf=>dN f e d
 | none=>c=ri
variable{w:World}{a:Option Addr}{n:Nat}{I:Int}{P:Nat->Prop}
theorem Tt.get{i:List Tt}{b:Tt}(h:Tt.all w a i)(m:i[n]?=some b):∃c d e f,a=some ⟨c,d,none⟩/\(w.cell? ⟨c,d+n*3,none⟩=some (.int .i64 b.k)/\w.cell? ⟨c,d+n*3+1,none⟩=some (.string b.s)/\w.cell? ⟨c,d+n*3+2,none⟩=some (.slice e b.l.length (b.l.length+f)))/\Tt.all w e b.l:=by
 obtain⟨c,d,j,g⟩:=Tt.all_get h m;cases b with
 | mk o q p=>rw[Tt.at] at g;obtain⟨e,f,k,l⟩:=g;exact⟨c,d,e,f,j,k,l⟩
theorem e9{d:Type}(a:Tt->Option d){b:List Tt}{c:Tt}(h:b[n]?=some c):a6 a (b.drop n)=match a c with
  | none=>none
  | some g=>(a6 a (b.drop (n+1))).map λi=>g::i:=by
 obtain⟨e,f⟩:=b6 h
 rw[hb e,f,a6]
theorem fK{α d f:Type}(b:α->d)(c:d->f)(a:Option α):(a.map b).map c=a.map λe=>c (b e):=by cases a<;>rfl
theorem iF(d:Tt->Option Int)(c:List Tt)(V4:c.length<=1000000)(L:Option Addr)(V2:Nat)(a:World)(N:Tt.all a L c) (J:∀(p:Nat) (b:Tt),c[p]?=some b->∀(l:Option Addr) (o:Nat) (k:World),Tt.all k l b.l->Bw a k->Calls prog 102 #[b.val l o] k (pT (d b) k)):Calls prog 101 #[.slice L c.length V2,.func (.func 102) #[] #[]] a (g5 cF id (a6 d c) a):=by
 obtain⟨K,y⟩:=al (g5 cF id (a6 d c) a);rw[<-y];have I:=VV y;have V:=VV N;have Y:=VV J;obtain⟨q,z⟩:=al c.length;have E:=VV z;rw[<-z] at V4 ⊢;have VY:=VV (GL.nil cF a a.heap.size);have W:=VV (ar a.heap.size a);have VW:Hid (a6 d c=(a6 d (c.drop 0)).map λs=>([]:List Int).map id++s):=by show _=_;rw[List.drop_zero];cases a6 d c<;>rfl
 clear y N J z;go_enter func101,ntmps101;go_wp2_with fail;go_loopw[5,10] (λT p A=>∃(e:Nat) (f:List Int),e<=q/\p=.int .i64 e/\Hid (GL cF A a.heap.size T f)/\Hid (Bw a A)/\Hid (f.length=e)/\Hid (a6 d c=(a6 d (c.drop e)).map λs=>f.map id++s)) (λT p A=>q-(intOf p).toNat);case atStart=>exact⟨0,[],bf,rfl,VY,W,rfl,VW⟩
 case round=>
  obtain⟨e,f,Wa,rfl,F,j,G,D⟩:=hrel;by_cases V3:e<q
  .have V6:(e:Int)<(q:Int):=by omega
   obtain⟨b,v⟩:∃b,c[e]?=some b:=⟨_,ba (by rw[<-U E];exact V3)⟩
   have m:=U D
   rw[e9 d v] at m
   obtain⟨V9,Wb,l,o,M,⟨Wc,Wd,We⟩,O⟩:=Tt.get (Tt.ab _ (U V) (U j)) v
   have i:=ae (ar _ wr) (.cells #[.int .i64 b.k,.string b.s,.slice l b.l.length (b.l.length+o)] 51)
   have C:=VV i
   have t:=VV (U Y e b v l o (wr.alloc (.cells #[.int .i64 b.k,.string b.s,.slice l b.l.length (b.l.length+o)] 51)) (Tt.ab _ O i) (ac (U j) i))
   obtain⟨V7,R⟩:=al (d b)
   rw[<-R] at t m
   rw[Tt.ad] at t
   rw[M]
   clear M v O i R
   cases V7 with
   | none=>
    have x:Hid (K=g5 cF id none a):=by show _=_;rw[U I,m];rfl
    clear m
    go_wp2_with (go_at_call 102;refine(U t).mono ?_;rintro V8 r ⟨u,rfl⟩)
    refine⟨rfl,?_⟩
    rw[U x]
    exact⟨ac (ac (U j) (U C)) u,rfl⟩
   | some g=>
    have VX:Hid (∀B:Int,id B=g->a6 d c=(a6 d (c.drop (e+1))).map λs=>(f++[B]).map id++s):=λB V5=>by
     rw[m]
     simp only[fK,bX,bi,List.map_nil,V5,d8,List.singleton_append]
    have Z:Hid (f.length+1<=1048577):=by show _<=_;rw[U G];omega
    clear m
    go_wp2_with (first
     | (go_at_call 102;refine(U t).mono ?_;rintro V8 r ⟨u,rfl⟩;have i:=ae (ar _ r) (.cells #[.int .i64 g] 3);have V1:Hid (SK (NS (r.alloc (.cells #[.int .i64 g] 3)) a.heap.size u5) (r.alloc (.cells #[.int .i64 g] 3)) λk=>(cF).P k g):=λ_ _=>trivial;have w:=VV (ac (ac (U C) u) i);have VZ:=VV ((U F).aa (U w));clear u i)
     | (refine bK cF.ok _ rfl (.tmp 14) (.tmp 18) cF.t rfl rfl a.heap.size u5 f g r.heap.size rfl (U VZ) (by simp[Act.eval,go_sem]) (U V1) (λS Wf n=>by
      match S,n with
      | 0,n=>simp[cF] at n;subst n;simp[go_sem]
      | S+1,n=>simp[cF] at n) (U Z) (aQ (U j).size (U w).size) ?_;intro Wg Wh Q P;have V0:=VV Q;have X:=VV ((ac (U j) (U w)).trans P);clear Q P))
    go_roundw
    case rel=>exact⟨e+1,f++[g],by omega,by go_num,V0,X,by show _=_;rw[bj,U G];rfl,U VX g rfl⟩
    case measure=>simp[intOf]<;>omega
  ·(have V6:¬(e:Int)<(q:Int):=by omega);(have x:Hid (K=g5 cF id (some (f.map id)) a):=by show _=_;rw[U I,U D,dG (by rw[<-U E];omega),a6];show g5 cF id (some (f.map id++[])) a=_;rw[d7]);go_wp2;rw[U x];exact⟨U j,_,f,rfl,rfl,U F⟩
theorem k5(d:Tt->Option Int)(c:List Tt)(V4:c.length<=1000000)(L:Option Addr)(V2:Nat)(a:World)(N:Tt.all a L c) (J:∀(p:Nat) (b:Tt),c[p]?=some b->∀(l:Option Addr) (o:Nat) (k:World),Tt.all k l b.l->Bw a k->Calls prog 108 #[b.val l o] k (pT (d b) k)):Calls prog 101 #[.slice L c.length V2,.func (.func 108) #[] #[]] a (g5 cF id (a6 d c) a):=by
 obtain⟨K,y⟩:=al (g5 cF id (a6 d c) a);rw[<-y];have I:=VV y;have V:=VV N;have Y:=VV J;obtain⟨q,z⟩:=al c.length;have E:=VV z;rw[<-z] at V4 ⊢;have VY:=VV (GL.nil cF a a.heap.size);have W:=VV (ar a.heap.size a);have VW:Hid (a6 d c=(a6 d (c.drop 0)).map λs=>([]:List Int).map id++s):=by show _=_;rw[List.drop_zero];cases a6 d c<;>rfl
 clear y N J z;go_enter func101,ntmps101;go_wp2_with fail;go_loopw[5,10] (λT p A=>∃(e:Nat) (f:List Int),e<=q/\p=.int .i64 e/\Hid (GL cF A a.heap.size T f)/\Hid (Bw a A)/\Hid (f.length=e)/\Hid (a6 d c=(a6 d (c.drop e)).map λs=>f.map id++s)) (λT p A=>q-(intOf p).toNat);case atStart=>exact⟨0,[],bf,rfl,VY,W,rfl,VW⟩
 case round=>
  obtain⟨e,f,Wa,rfl,F,j,G,D⟩:=hrel;by_cases V3:e<q
  .have V6:(e:Int)<(q:Int):=by omega
   obtain⟨b,v⟩:∃b,c[e]?=some b:=⟨_,ba (by rw[<-U E];exact V3)⟩
   have m:=U D
   rw[e9 d v] at m
   obtain⟨V9,Wb,l,o,M,⟨Wc,Wd,We⟩,O⟩:=Tt.get (Tt.ab _ (U V) (U j)) v
   have i:=ae (ar _ wr) (.cells #[.int .i64 b.k,.string b.s,.slice l b.l.length (b.l.length+o)] 51)
   have C:=VV i
   have t:=VV (U Y e b v l o (wr.alloc (.cells #[.int .i64 b.k,.string b.s,.slice l b.l.length (b.l.length+o)] 51)) (Tt.ab _ O i) (ac (U j) i))
   obtain⟨V7,R⟩:=al (d b)
   rw[<-R] at t m
   rw[Tt.ad] at t
   rw[M]
   clear M v O i R
   cases V7 with
   | none=>
    have x:Hid (K=g5 cF id none a):=by show _=_;rw[U I,m];rfl
    clear m
    go_wp2_with (go_at_call 108;refine(U t).mono ?_;rintro V8 r ⟨u,rfl⟩)
    refine⟨rfl,?_⟩
    rw[U x]
    exact⟨ac (ac (U j) (U C)) u,rfl⟩
   | some g=>
    have VX:Hid (∀B:Int,id B=g->a6 d c=(a6 d (c.drop (e+1))).map λs=>(f++[B]).map id++s):=λB V5=>by
     rw[m]
     simp only[fK,bX,bi,List.map_nil,V5,d8,List.singleton_append]
    have Z:Hid (f.length+1<=1048577):=by show _<=_;rw[U G];omega
    clear m
    go_wp2_with (first
     | (go_at_call 108;refine(U t).mono ?_;rintro V8 r ⟨u,rfl⟩;have i:=ae (ar _ r) (.cells #[.int .i64 g] 3);have V1:Hid (SK (NS (r.alloc (.cells #[.int .i64 g] 3)) a.heap.size u5) (r.alloc (.cells #[.int .i64 g] 3)) λk=>(cF).P k g):=λ_ _=>trivial;have w:=VV (ac (ac (U C) u) i);have VZ:=VV ((U F).aa (U w));clear u i)
     | (refine bK cF.ok _ rfl (.tmp 14) (.tmp 18) cF.t rfl rfl a.heap.size u5 f g r.heap.size rfl (U VZ) (by simp[Act.eval,go_sem]) (U V1) (λS Wf n=>by
      match S,n with
      | 0,n=>simp[cF] at n;subst n;simp[go_sem]
      | S+1,n=>simp[cF] at n) (U Z) (aQ (U j).size (U w).size) ?_;intro Wg Wh Q P;have V0:=VV Q;have X:=VV ((ac (U j) (U w)).trans P);clear Q P))
    go_roundw
    case rel=>exact⟨e+1,f++[g],by omega,by go_num,V0,X,by show _=_;rw[bj,U G];rfl,U VX g rfl⟩
    case measure=>simp[intOf]<;>omega
  ·(have V6:¬(e:Int)<(q:Int):=by omega);(have x:Hid (K=g5 cF id (some (f.map id)) a):=by show _=_;rw[U I,U D,dG (by rw[<-U E];omega),a6];show g5 cF id (some (f.map id++[])) a=_;rw[d7]);go_wp2;rw[U x];exact⟨U j,_,f,rfl,rfl,U F⟩
theorem mm(d:Tt->Option (Int×Int))(c:List Tt)(V4:c.length<=1000000)(L:Option Addr)(V2:Nat)(a:World)(N:Tt.all a L c) (J:∀(p:Nat) (b:Tt),c[p]?=some b->∀(m:Option Addr) (o:Nat) (l:World),Tt.all l m b.l->Bw a l->Calls prog 104 #[b.val m o] l (VQ sb (d b) l)):Calls prog 103 #[.slice L c.length V2,.func (.func 104) #[] #[]] a (g5 eu id (a6 d c) a):=by
 obtain⟨K,y⟩:=al (g5 eu id (a6 d c) a);rw[<-y];have I:=VV y;have V:=VV N;have Y:=VV J;obtain⟨q,z⟩:=al c.length;have E:=VV z;rw[<-z] at V4 ⊢;have VY:=VV (GL.nil eu a a.heap.size);have W:=VV (ar a.heap.size a);have VW:Hid (a6 d c=(a6 d (c.drop 0)).map λs=>([]:List (Int×Int)).map id++s):=by show _=_;rw[List.drop_zero];cases a6 d c<;>rfl
 clear y N J z;go_enter func103,ntmps103;go_wp2_with fail;go_loopw[5,10] (λT p A=>∃(e:Nat) (f:List (Int×Int)),e<=q/\p=.int .i64 e/\Hid (GL eu A a.heap.size T f)/\Hid (Bw a A)/\Hid (f.length=e)/\Hid (a6 d c=(a6 d (c.drop e)).map λs=>f.map id++s)) (λT p A=>q-(intOf p).toNat);case atStart=>exact⟨0,[],bf,rfl,VY,W,rfl,VW⟩
 case round=>
  obtain⟨e,f,Wa,rfl,F,k,G,D⟩:=hrel;by_cases V3:e<q
  .have V6:(e:Int)<(q:Int):=by omega
   obtain⟨b,v⟩:∃b,c[e]?=some b:=⟨_,ba (by rw[<-U E];exact V3)⟩
   have n:=U D
   rw[e9 d v] at n
   obtain⟨V9,Wb,m,o,M,⟨Wc,Wd,We⟩,O⟩:=Tt.get (Tt.ab _ (U V) (U k)) v
   have j:=ae (ar _ wr) (.cells #[.int .i64 b.k,.string b.s,.slice m b.l.length (b.l.length+o)] 51)
   have C:=VV j
   have t:=VV (U Y e b v m o (wr.alloc (.cells #[.int .i64 b.k,.string b.s,.slice m b.l.length (b.l.length+o)] 51)) (Tt.ab _ O j) (ac (U k) j))
   obtain⟨V7,R⟩:=al (d b)
   rw[<-R] at t n
   rw[Tt.ad] at t
   rw[M]
   clear M v O j R
   cases V7 with
   | none=>
    have x:Hid (K=g5 eu id none a):=by show _=_;rw[U I,n];rfl
    clear n
    go_wp2_with (go_at_call 104;refine(U t).mono ?_;rintro V8 r ⟨u,rfl⟩)
    refine⟨rfl,?_⟩
    rw[U x]
    exact⟨ac (ac (U k) (U C)) u,rfl⟩
   | some g=>
    have VX:Hid (∀B:(Int×Int),id B=g->a6 d c=(a6 d (c.drop (e+1))).map λs=>(f++[B]).map id++s):=λB V5=>by
     rw[n]
     simp only[fK,bX,bi,List.map_nil,V5,d8,List.singleton_append]
    have Z:Hid (f.length+1<=1048577):=by show _<=_;rw[U G];omega
    clear n
    go_wp2_with (first
     | (go_at_call 104;refine(U t).mono ?_;rintro V8 r ⟨u,rfl⟩;unfold sb;have j:=ae (ar _ r) (.cells #[.int .i64 g.1,.int .i64 g.2] 78);have V1:Hid (SK (NS (r.alloc (.cells #[.int .i64 g.1,.int .i64 g.2] 78)) a.heap.size u5) (r.alloc (.cells #[.int .i64 g.1,.int .i64 g.2] 78)) λl=>(eu).P l g):=λ_ _=>trivial;have w:=VV (ac (ac (U C) u) j);have VZ:=VV ((U F).aa (U w));clear u j)
     | (refine bK eu.ok _ rfl (.tmp 14) (.tmp 18) eu.t rfl rfl a.heap.size u5 f g r.heap.size rfl (U VZ) (by simp[Act.eval,go_sem]) (U V1) (λS Wf i=>by
      match S,i with
      | 0,i=>simp[eu] at i;subst i;simp[go_sem]
      | 1,i=>simp[eu] at i;subst i;simp[go_sem]
      | S+2,i=>simp[eu] at i) (U Z) (aQ (U k).size (U w).size) ?_;intro Wg Wh Q P;have V0:=VV Q;have X:=VV ((ac (U k) (U w)).trans P);clear Q P))
    go_roundw
    case rel=>exact⟨e+1,f++[g],by omega,by go_num,V0,X,by show _=_;rw[bj,U G];rfl,U VX g rfl⟩
    case measure=>simp[intOf]<;>omega
  ·(have V6:¬(e:Int)<(q:Int):=by omega);(have x:Hid (K=g5 eu id (some (f.map id)) a):=by show _=_;rw[U I,U D,dG (by rw[<-U E];omega),a6];show g5 eu id (some (f.map id++[])) a=_;rw[d7]);go_wp2;rw[U x];exact⟨U k,_,f,rfl,rfl,U F⟩
theorem iG(d:Tt->Option (Int×Bool))(c:List Tt)(V4:c.length<=1000000)(L:Option Addr)(V2:Nat)(a:World)(N:Tt.all a L c) (J:∀(p:Nat) (b:Tt),c[p]?=some b->∀(m:Option Addr) (o:Nat) (l:World),Tt.all l m b.l->Bw a l->Calls prog 106 #[b.val m o] l (VQ rJ (d b) l)):Calls prog 105 #[.slice L c.length V2,.func (.func 106) #[] #[]] a (g5 dw id (a6 d c) a):=by
 obtain⟨K,y⟩:=al (g5 dw id (a6 d c) a);rw[<-y];have I:=VV y;have V:=VV N;have Y:=VV J;obtain⟨q,z⟩:=al c.length;have E:=VV z;rw[<-z] at V4 ⊢;have VY:=VV (GL.nil dw a a.heap.size);have W:=VV (ar a.heap.size a);have VW:Hid (a6 d c=(a6 d (c.drop 0)).map λs=>([]:List (Int×Bool)).map id++s):=by show _=_;rw[List.drop_zero];cases a6 d c<;>rfl
 clear y N J z;go_enter func105,ntmps105;go_wp2_with fail;go_loopw[5,10] (λT p A=>∃(e:Nat) (f:List (Int×Bool)),e<=q/\p=.int .i64 e/\Hid (GL dw A a.heap.size T f)/\Hid (Bw a A)/\Hid (f.length=e)/\Hid (a6 d c=(a6 d (c.drop e)).map λs=>f.map id++s)) (λT p A=>q-(intOf p).toNat);case atStart=>exact⟨0,[],bf,rfl,VY,W,rfl,VW⟩
 case round=>
  obtain⟨e,f,Wa,rfl,F,k,G,D⟩:=hrel;by_cases V3:e<q
  .have V6:(e:Int)<(q:Int):=by omega
   obtain⟨b,v⟩:∃b,c[e]?=some b:=⟨_,ba (by rw[<-U E];exact V3)⟩
   have n:=U D
   rw[e9 d v] at n
   obtain⟨V9,Wb,m,o,M,⟨Wc,Wd,We⟩,O⟩:=Tt.get (Tt.ab _ (U V) (U k)) v
   have j:=ae (ar _ wr) (.cells #[.int .i64 b.k,.string b.s,.slice m b.l.length (b.l.length+o)] 51)
   have C:=VV j
   have t:=VV (U Y e b v m o (wr.alloc (.cells #[.int .i64 b.k,.string b.s,.slice m b.l.length (b.l.length+o)] 51)) (Tt.ab _ O j) (ac (U k) j))
   obtain⟨V7,R⟩:=al (d b)
   rw[<-R] at t n
   rw[Tt.ad] at t
   rw[M]
   clear M v O j R
   cases V7 with
   | none=>
    have x:Hid (K=g5 dw id none a):=by show _=_;rw[U I,n];rfl
    clear n
    go_wp2_with (go_at_call 106;refine(U t).mono ?_;rintro V8 r ⟨u,rfl⟩)
    refine⟨rfl,?_⟩
    rw[U x]
    exact⟨ac (ac (U k) (U C)) u,rfl⟩
   | some g=>
    have VX:Hid (∀B:(Int×Bool),id B=g->a6 d c=(a6 d (c.drop (e+1))).map λs=>(f++[B]).map id++s):=λB V5=>by
     rw[n]
     simp only[fK,bX,bi,List.map_nil,V5,d8,List.singleton_append]
    have Z:Hid (f.length+1<=1048577):=by show _<=_;rw[U G];omega
    clear n
    go_wp2_with (first
     | (go_at_call 106;refine(U t).mono ?_;rintro V8 r ⟨u,rfl⟩;unfold rJ;have j:=ae (ar _ r) (.cells #[.int .i64 g.1,.bool g.2] 82);have V1:Hid (SK (NS (r.alloc (.cells #[.int .i64 g.1,.bool g.2] 82)) a.heap.size u5) (r.alloc (.cells #[.int .i64 g.1,.bool g.2] 82)) λl=>(dw).P l g):=λ_ _=>trivial;have w:=VV (ac (ac (U C) u) j);have VZ:=VV ((U F).aa (U w));clear u j)
     | (refine bK dw.ok _ rfl (.tmp 14) (.tmp 18) dw.t rfl rfl a.heap.size u5 f g r.heap.size rfl (U VZ) (by simp[Act.eval,go_sem]) (U V1) (λS Wf i=>by
      match S,i with
      | 0,i=>simp[dw] at i;subst i;simp[go_sem]
      | 1,i=>simp[dw] at i;subst i;simp[go_sem]
      | S+2,i=>simp[dw] at i) (U Z) (aQ (U k).size (U w).size) ?_;intro Wg Wh Q P;have V0:=VV Q;have X:=VV ((ac (U k) (U w)).trans P);clear Q P))
    go_roundw
    case rel=>exact⟨e+1,f++[g],by omega,by go_num,V0,X,by show _=_;rw[bj,U G];rfl,U VX g rfl⟩
    case measure=>simp[intOf]<;>omega
  ·(have V6:¬(e:Int)<(q:Int):=by omega);(have x:Hid (K=g5 dw id (some (f.map id)) a):=by show _=_;rw[U I,U D,dG (by rw[<-U E];omega),a6];show g5 dw id (some (f.map id++[])) a=_;rw[d7]);go_wp2;rw[U x];exact⟨U k,_,f,rfl,rfl,U F⟩
theorem ff(f:Tt->Option Ex)(e:List Tt)(V6:e.length<=1000000)(N:Option Addr)(V4:Nat)(c:World)(P:Tt.all c N e) (L:∀(r:Nat) (d:Tt),e[r]?=some d->∀(o:Option Addr) (q:Nat) (n:World),Tt.all n o d.l->Bw c n->Calls prog 98 #[d.val o q] n (XQ (f d) n)):Calls prog 97 #[.slice N e.length V4,.func (.func 98) #[] #[]] c (g5 ej Prod.fst (a6 f e) c):=by
 obtain⟨M,C⟩:=al (g5 ej Prod.fst (a6 f e) c);rw[<-C];have K:=VV C;have X:=VV P;have VW:=VV L;obtain⟨s,D⟩:=al e.length;have I:=VV D;rw[<-D] at V6 ⊢;have V0:=VV (GL.nil ej c c.heap.size);have Y:=VV (ar c.heap.size c);have VY:Hid (a6 f e=(a6 f (e.drop 0)).map λu=>([]:List Xm).map Prod.fst++u):=by show _=_;rw[List.drop_zero];cases a6 f e<;>rfl
 clear C P L D;go_enter func97,ntmps97;go_wp2_with fail;go_loopw[5,10] (λW r E=>∃(g:Nat) (i:List Xm),g<=s/\r=.int .i64 g/\Hid (GL ej E c.heap.size W i)/\Hid (Bw c E)/\Hid (i.length=g)/\Hid (a6 f e=(a6 f (e.drop g)).map λu=>i.map Prod.fst++u)) (λW r E=>s-(intOf r).toNat);case atStart=>exact⟨0,[],bf,rfl,V0,Y,rfl,VY⟩
 case round=>
  obtain⟨g,i,Wd,rfl,A,k,J,G⟩:=hrel;by_cases V5:g<s
  .have V9:(g:Int)<(s:Int):=by omega
   obtain⟨d,x⟩:∃d,e[g]?=some d:=⟨_,ba (by rw[<-U I];exact V5)⟩
   have p:=U G
   rw[e9 f x] at p
   obtain⟨Wc,We,o,q,O,⟨Wf,Wg,Wh⟩,Q⟩:=Tt.get (Tt.ab _ (U X) (U k)) x
   have j:=ae (ar _ wr) (.cells #[.int .i64 d.k,.string d.s,.slice o d.l.length (d.l.length+q)] 51)
   have y:=VV j
   have v:=VV (U VW g d x o q (wr.alloc (.cells #[.int .i64 d.k,.string d.s,.slice o d.l.length (d.l.length+q)] 51)) (Tt.ab _ Q j) (ac (U k) j))
   obtain⟨Wa,T⟩:=al (f d)
   rw[<-T] at v p
   rw[Tt.ad] at v
   rw[O]
   clear O x Q j T
   cases Wa with
   | none=>
    have B:Hid (M=g5 ej Prod.fst none c):=by show _=_;rw[U K,p];rfl
    clear p
    go_wp2_with (go_at_call 98;refine(U v).mono ?_;rintro Wb t ⟨w,rfl⟩)
    refine⟨rfl,?_⟩
    rw[U B]
    exact⟨ac (ac (U k) (U y)) w,rfl⟩
   | some a=>
    have VZ:Hid (∀F:Xm,Prod.fst F=a->a6 f e=(a6 f (e.drop (g+1))).map λu=>(i++[F]).map Prod.fst++u):=λF V8=>by
     rw[p]
     simp only[fK,bX,bi,List.map_nil,V8,d8,List.singleton_append]
    have VX:Hid (i.length+1<=1048577):=by show _<=_;rw[U J];omega
    clear p
    go_wp2_with (first
     | (go_at_call 98;refine(U v).mono ?_;rintro Wb t ⟨w,l,m,rfl,V7⟩;rw[Ex.ad];have j:=ae (ar _ t) (.cells #[.int .i64 a.op,.int .i64 a.n,.int .i64 a.v.k,.int .i64 a.v.n,.string a.v.s,.slice l a.args.length m] 72);have V3:Hid (SK (NS (t.alloc (.cells #[.int .i64 a.op,.int .i64 a.n,.int .i64 a.v.k,.int .i64 a.v.n,.string a.v.s,.slice l a.args.length m] 72)) c.heap.size u5) (t.alloc (.cells #[.int .i64 a.op,.int .i64 a.n,.int .i64 a.v.k,.int .i64 a.v.n,.string a.v.s,.slice l a.args.length m] 72)) λn=>(ej).P n (a,l,m)):=SK.fresh (U A).lt (U k).size V7 (U y).size j;have z:=VV (ac (ac (U y) w) j);have V1:=VV ((U A).aa (U z));clear w j)
     | (refine bK ej.ok _ rfl (.tmp 14) (.tmp 18) ej.t rfl rfl c.heap.size u5 i (a,l,m) t.heap.size rfl (U V1) (by simp[Act.eval,go_sem]) (U V3) (λV Wi b=>by
      match V,b with
      | 0,b=>simp[ej,cI] at b;subst b;simp[go_sem]
      | 1,b=>simp[ej,cI] at b;subst b;simp[go_sem]
      | 2,b=>simp[ej,cI] at b;subst b;simp[go_sem]
      | 3,b=>simp[ej,cI] at b;subst b;simp[go_sem]
      | 4,b=>simp[ej,cI] at b;subst b;simp[go_sem]
      | 5,b=>simp[ej,cI] at b;subst b;simp[go_sem]
      | V+6,b=>simp[ej,cI] at b) (U VX) (aQ (U k).size (U z).size) ?_;intro Wj Wk S R;have V2:=VV S;have Z:=VV ((ac (U k) (U z)).trans R);clear S R))
    go_roundw
    case rel=>exact⟨g+1,i++[(a,l,m)],by omega,by go_num,V2,Z,by show _=_;rw[bj,U J];rfl,U VZ (a,l,m) rfl⟩
    case measure=>simp[intOf]<;>omega
  ·(have V9:¬(g:Int)<(s:Int):=by omega);(have B:Hid (M=g5 ej Prod.fst (some (i.map Prod.fst)) c):=by show _=_;rw[U K,U G,dG (by rw[<-U I];omega),a6];show g5 ej Prod.fst (some (i.map Prod.fst++[])) c=_;rw[d7]);go_wp2;rw[U B];exact⟨U k,_,i,rfl,rfl,U A⟩
theorem db(g:Tt->Option Pl)(f:List Tt)(V5:f.length<=1000000)(M:Option Addr)(V3:Nat)(d:World)(O:Tt.all d M f) (K:∀(q:Nat) (e:Tt),f[q]?=some e->∀(n:Option Addr) (p:Nat) (m:World),Tt.all m n e.l->Bw d m->Calls prog 50 #[e.val n p] m (PQ (g e) m)):Calls prog 99 #[.slice M f.length V3,.func (.func 50) #[] #[]] d (g5 eS Prod.fst (a6 g f) d):=by
 obtain⟨L,B⟩:=al (g5 eS Prod.fst (a6 g f) d);rw[<-B];have J:=VV B;have W:=VV O;have Z:=VV K;obtain⟨r,C⟩:=al f.length;have G:=VV C;rw[<-C] at V5 ⊢;have VZ:=VV (GL.nil eS d d.heap.size);have X:=VV (ar d.heap.size d);have VX:Hid (a6 g f=(a6 g (f.drop 0)).map λt=>([]:List Pw).map Prod.fst++t):=by show _=_;rw[List.drop_zero];cases a6 g f<;>rfl
 clear B O K C;go_enter func99,ntmps99;go_wp2_with fail;go_loopw[5,10] (λV q D=>∃(i:Nat) (j:List Pw),i<=r/\q=.int .i64 i/\Hid (GL eS D d.heap.size V j)/\Hid (Bw d D)/\Hid (j.length=i)/\Hid (a6 g f=(a6 g (f.drop i)).map λt=>j.map Prod.fst++t)) (λV q D=>r-(intOf q).toNat);case atStart=>exact⟨0,[],bf,rfl,VZ,X,rfl,VX⟩
 case round=>
  obtain⟨i,j,Wc,rfl,z,l,I,F⟩:=hrel;by_cases V4:i<r
  .have V8:(i:Int)<(r:Int):=by omega
   obtain⟨e,w⟩:∃e,f[i]?=some e:=⟨_,ba (by rw[<-U G];exact V4)⟩
   have o:=U F
   rw[e9 g w] at o
   obtain⟨Wb,Wd,n,p,N,⟨We,Wf,Wg⟩,P⟩:=Tt.get (Tt.ab _ (U W) (U l)) w
   have k:=ae (ar _ wr) (.cells #[.int .i64 e.k,.string e.s,.slice n e.l.length (e.l.length+p)] 51)
   have x:=VV k
   have u:=VV (U Z i e w n p (wr.alloc (.cells #[.int .i64 e.k,.string e.s,.slice n e.l.length (e.l.length+p)] 51)) (Tt.ab _ P k) (ac (U l) k))
   obtain⟨V9,S⟩:=al (g e)
   rw[<-S] at u o
   rw[Tt.ad] at u
   rw[N]
   clear N w P k S
   cases V9 with
   | none=>
    have A:Hid (L=g5 eS Prod.fst none d):=by show _=_;rw[U J,o];rfl
    clear o
    go_wp2_with (go_at_call 50;refine(U u).mono ?_;rintro Wa s ⟨v,rfl⟩)
    refine⟨rfl,?_⟩
    rw[U A]
    exact⟨ac (ac (U l) (U x)) v,rfl⟩
   | some a=>
    have VY:Hid (∀E:Pw,Prod.fst E=a->a6 g f=(a6 g (f.drop (i+1))).map λt=>(j++[E]).map Prod.fst++t):=λE V7=>by
     rw[o]
     simp only[fK,bX,bi,List.map_nil,V7,d8,List.singleton_append]
    have VW:Hid (j.length+1<=1048577):=by show _<=_;rw[U I];omega
    clear o
    go_wp2_with (first
     | (go_at_call 50;refine(U u).mono ?_;rintro Wa s ⟨v,c,rfl,V6⟩;rw[Pl.ad];have k:=ae (ar _ s) (.cells #[.int .i64 a.op,.string a.tab,.slice c.aE a.ex.length c.cE,.slice c.aC a.cols.length c.cC,.slice c.aK a.keys.length c.cK,.slice c.aA a.aggs.length c.cA,.int .i64 a.fn,.int .i64 a.col,.int .i64 a.n,.int .i64 a.off,.slice c.aP a.args.length c.cP] 28);have V2:Hid (SK (NS (s.alloc (.cells #[.int .i64 a.op,.string a.tab,.slice c.aE a.ex.length c.cE,.slice c.aC a.cols.length c.cC,.slice c.aK a.keys.length c.cK,.slice c.aA a.aggs.length c.cA,.int .i64 a.fn,.int .i64 a.col,.int .i64 a.n,.int .i64 a.off,.slice c.aP a.args.length c.cP] 28)) d.heap.size u5) (s.alloc (.cells #[.int .i64 a.op,.string a.tab,.slice c.aE a.ex.length c.cE,.slice c.aC a.cols.length c.cC,.slice c.aK a.keys.length c.cK,.slice c.aA a.aggs.length c.cA,.int .i64 a.fn,.int .i64 a.col,.int .i64 a.n,.int .i64 a.off,.slice c.aP a.args.length c.cP] 28)) λm=>(eS).P m (a,c)):=SK.fresh (U z).lt (U l).size V6 (U x).size k;have y:=VV (ac (ac (U x) v) k);have V0:=VV ((U z).aa (U y));clear v k)
     | (refine bK eS.ok _ rfl (.tmp 14) (.tmp 18) eS.t rfl rfl d.heap.size u5 j (a,c) s.heap.size rfl (U V0) (by simp[Act.eval,go_sem]) (U V2) (λT Wh b=>by
      match T,b with
      | 0,b=>simp[eS,bQ] at b;subst b;simp[go_sem]
      | 1,b=>simp[eS,bQ] at b;subst b;simp[go_sem]
      | 2,b=>simp[eS,bQ] at b;subst b;simp[go_sem]
      | 3,b=>simp[eS,bQ] at b;subst b;simp[go_sem]
      | 4,b=>simp[eS,bQ] at b;subst b;simp[go_sem]
      | 5,b=>simp[eS,bQ] at b;subst b;simp[go_sem]
      | 6,b=>simp[eS,bQ] at b;subst b;simp[go_sem]
      | 7,b=>simp[eS,bQ] at b;subst b;simp[go_sem]
      | 8,b=>simp[eS,bQ] at b;subst b;simp[go_sem]
      | 9,b=>simp[eS,bQ] at b;subst b;simp[go_sem]
      | 10,b=>simp[eS,bQ] at b;subst b;simp[go_sem]
      | T+11,b=>simp[eS,bQ] at b) (U VW) (aQ (U l).size (U y).size) ?_;intro Wi Wj R Q;have V1:=VV R;have Y:=VV ((ac (U l) (U y)).trans Q);clear R Q))
    go_roundw
    case rel=>exact⟨i+1,j++[(a,c)],by omega,by go_num,V1,Y,by show _=_;rw[bj,U I];rfl,U VY (a,c) rfl⟩
    case measure=>simp[intOf]<;>omega
  ·(have V8:¬(i:Int)<(r:Int):=by omega);(have A:Hid (L=g5 eS Prod.fst (some (j.map Prod.fst)) d):=by show _=_;rw[U J,U F,dG (by rw[<-U G];omega),a6];show g5 eS Prod.fst (some (j.map Prod.fst++[])) d=_;rw[d7]);go_wp2;rw[U A];exact⟨U l,_,j,rfl,rfl,U z⟩
mutual
def eG:Tt->Option Ex
 | .mk a e b=>if a=2 then some (.mk 2 0 ⟨2,0,e⟩ []) else if a=1 then fy (.mk 1 e []) else if a=3 then (match b with
   | []=>none
   | h::d=>match bW bV h with
    | none=>none
    | some c=>if (d.length:Int)=fD (c+2) then (nC d).map λb=>.mk (c+2) 0 ⟨0,0,⟨#[]⟩⟩ b else none)
  else none
def nC:List Tt->Option (List Ex)
 | []=>some []
 | b::a=>match eG b with
  | none=>none
  | some c=>(nC a).map λd=>c::d
end
theorem k3:∀a:List Tt,nC a=a6 eG a
 | []=>by rw[nC,a6]
 | b::a=>by rw[nC,a6,k3 a];cases eG b<;>rfl
theorem gg (b : Int) (d : ByteArray) (a : List Tt) : eG (.mk b d a) = if b = 2 then some (.mk 2 0 ⟨2, 0, d⟩ []) else if b = 1 then fy (.mk 1 d []) else if b = 3 then (match a with
      | [] => none
      | h :: c => match bW bV h with
        | none => none
        | some e => if (c.length : Int) = fD (e + 2) then (nC c).map λa => .mk (e + 2) 0 ⟨0, 0, ⟨#[]⟩⟩ a else none)
    else none := by
  cases a with
  | nil => unfold eG; rfl
  | cons h c => conv => lhs; unfold eG
theorem mf(a:List (List UInt8)){t:Tt}(h:¬t.k=3):bB a t=none:=by unfold bB;rw[aL h]
theorem mi{d:ByteArray}{a:List Tt}(f:¬I=2)(e:¬I=1):eG (.mk I d a)=match bB bV (.mk I d a) with
  | none=>none
  | some b=>if (b.2.length:Int)=fD (b.1+2) then (a6 eG b.2).map λa=>.mk (b.1+2) 0 ⟨0,0,⟨#[]⟩⟩ a else none:=by
 rw[gg,aL f,aL e]
 by_cases c:I=3
 .subst c
  unfold bB
  cases a with
  | nil=>rfl
  | cons h i=>
   simp only[Tt.k,Tt.l,if_true]
   cases bW bV h with
   | none=>rfl
   | some g=>simp only[k3,Option.map_some]
 .rw[aL c,mf bV (t:=.mk I d a) c]
theorem kr(c:World)(a:Nat)(f d g i j k:Value):fm (λe=>a+1<=e/\e<c.heap.size) c ((((((c.setCell ⟨a,0,none⟩ f).setCell ⟨a,1,none⟩ d).setCell ⟨a,2,none⟩ g).setCell ⟨a,3,none⟩ i).setCell ⟨a,4,none⟩ j).setCell ⟨a,5,none⟩ k):=
 λd m n b l=>bA b.1 (bA b.1 (bA b.1 (bA b.1 (bA b.1 (bA b.1 l)))))
theorem qa:SK P w λb=>Ex.all b a []:=λb _=>by show Ex.all b a [];rw[Ex.all];trivial
theorem gf:∀(L:Nat) (n:Tt),n.size<=L->n.fin->∀(p:Option Addr) (k:Nat) (b:World),Tt.all b p n.l->GT b->Calls prog 98 #[n.val p k] b (XQ (eG n) b):=by
 intro L;induction L with
 | zero=>intro n h;exact absurd h (by rw[Tt.am];omega)
 | succ L V2=>
 intro n Wk V9 p k b V5 G;obtain⟨x,R⟩:=al (XQ (eG n) b);rw[<-R];have C:=VV R;have M:=Tt.af V9;obtain⟨f,g,a⟩:=n;rw[Tt.size] at Wk;obtain⟨t,u⟩:=bq ((b.alloc (.cells #[.int .i64 f,.string g,.slice p a.length (a.length+k)] 51)).alloc (.cells #[.int .i64 0,.int .i64 0,.int .i64 0,.int .i64 0,.string ⟨#[]⟩,.slice none 0 0] 72));have c:=ae (ar _ b) (.cells #[.int .i64 f,.string g,.slice p a.length (a.length+k)] 51);have I:Bw b t:=by rw[<-u];exact ae c _
 have V8:bp t (b.heap.size+1) VK:=by rw[<-u];have:=bp.new (b.alloc (.cells #[.int .i64 f,.string g,.slice p a.length (a.length+k)] 51)) VK 72;simpa using this
 have w:=VV V8;have WK:Hid (b.heap.size+1<t.heap.size):=by show _<_;rw[<-u];simp
 have W2:t.cell? ⟨b.heap.size,0,none⟩=some (.int .i64 f):=by rw[<-u];simp[go_sem]
 have W3:t.cell? ⟨b.heap.size,1,none⟩=some (.string g):=by rw[<-u];simp[go_sem]
 have W4:t.cell? ⟨b.heap.size,2,none⟩=some (.slice p a.length (a.length+k)):=by rw[<-u];simp[go_sem]
 have z:=VV I;have D:=VV u;rw[Tt.ad];show Calls prog 98 #[.agg #[.int .i64 f,.string g,.slice p a.length (a.length+k)]] b x;rw[gg] at C;by_cases F:f=2;·(have m:Hid (x=XQ (some (.mk 2 0 ⟨2,0,g⟩ [])) b):=by have:=U C;rw[aR F] at this;exact this);subst F;generalize a.length+k=Wu at *;generalize a.length=WJ at *;obtain⟨X,Wv⟩:=(U w) 0 _ rfl;obtain⟨Y,Ww⟩:=(U w) 1 _ rfl;obtain⟨Z,Wx⟩:=(U w) 2 _ rfl;obtain⟨VW,Wy⟩:=(U w) 3 _ rfl;obtain⟨VX,Wz⟩:=(U w) 4 _ rfl;obtain⟨VY,WA⟩:=(U w) 5 _ rfl;clear I c V8 R C u V2 G V5 M V9;go_enter func98,ntmps98;go_upto_region 1 with fail;rw[U D];go_wp2;refine aM (v:=.agg #[.int .i64 2,.int .i64 0,.int .i64 2,.int .i64 0,.string g,.slice none 0 0]) (by simp[results,results98,go_sem,X,Y,Z,VW,VX,VY]) rfl ?_;rw[U m];exact⟨b1 (U z) (Nat.le_succ _) _ _ _ _ _ _,none,0,rfl,qa⟩
 by_cases V4:f=1
 .subst V4
  have m:Hid (x=XQ (fy (.mk 1 g [])) b):=by have:=U C;rw[aL F,aR rfl] at this;exact this
  have B:=nt (.mk 1 g a) V9 p k t (G.aa I)
  rw[Tt.ad] at B
  have WD:fy (.mk 1 g a)=fy (.mk 1 g []):=rfl
  have Wh:∀q,fy (.mk 1 g [])=some q->q.args=[]:=λq i=>by
   unfold fy at i
   split at i
   .injection i with i;subst i;rfl
   split at i
   .obtain⟨d,_,rfl⟩:=Option.map_eq_some_iff.1 i;rfl
   .obtain⟨d,_,rfl⟩:=Option.map_eq_some_iff.1 i;rfl
  rw[WD] at B
  obtain⟨Wa,S⟩:=al (fy (.mk 1 g []))
  rw[<-S] at B m Wh
  have B:Hid (Calls prog 137 #[.agg #[.int .i64 1,.string g,.slice p a.length (a.length+k)]] t (VQ so Wa t)):=B
  generalize a.length+k=Wu at *
  generalize a.length=WJ at *
  clear I c V8 R C u V2 G V5 M V9 S WD F
  cases Wa with
  | none=>
   go_enter func98,ntmps98
   go_upto_region 1 with fail
   rw[U D]
   go_wp2_with (go_at_call 137;refine(U B).mono ?_;rintro l W ⟨r,rfl⟩)
   refine⟨rfl,?_⟩
   rw[U m]
   exact⟨ac (U z) r,rfl⟩
  | some q=>
   have i:=Wh q rfl
   obtain⟨Wb,d,o,WX⟩:=q
   have WT:WX=[]:=i
   subst WT
   have W1:Hid (so (.mk Wb d o [])=.agg #[.int .i64 Wb,.int .i64 d,.int .i64 o.k,.int .i64 o.n,.string o.s,.slice none 0 0]):=rfl
   clear i Wh
   go_enter func98,ntmps98
   go_upto_region 1 with fail
   rw[U D]
   go_wp2_with (go_at_call 137;refine(U B).mono ?_;rintro l W ⟨r,WP⟩;have WQ:l=.returned (.agg #[.int .i64 Wb,.int .i64 d,.int .i64 o.k,.int .i64 o.n,.string o.s,.slice none 0 0]):=WP;subst WQ;have j:=(U w).aa r;obtain⟨X,Wv⟩:=j 0 _ rfl;obtain⟨Y,Ww⟩:=j 1 _ rfl;obtain⟨Z,Wx⟩:=j 2 _ rfl;obtain⟨VW,Wy⟩:=j 3 _ rfl;obtain⟨VX,Wz⟩:=j 4 _ rfl;obtain⟨VY,WA⟩:=j 5 _ rfl;have Wc:=VV (ac (U z) r);clear r j)
   refine aM (v:=.agg #[.int .i64 Wb,.int .i64 d,.int .i64 o.k,.int .i64 o.n,.string o.s,.slice none 0 0]) (by simp[results,results98,go_sem,X,Y,Z,VW,VX,VY]) rfl ?_
   rw[U m]
   exact⟨b1 (U Wc) (Nat.le_succ _) _ _ _ _ _ _,none,0,rfl,qa⟩
 have s:=bM ku bV ge (by rw[d5];decide) (by decide) (ascii_of_all (by decide)) (.mk f g a) M.2.1 p k t (Tt.ab _ V5 I) (G.aa I);unfold ku at s
 have V1:Hid (x=XQ (match bB bV (.mk f g a) with
   | none=>none
   | some O=>if (O.2.length:Int)=fD (O.1+2) then (a6 eG O.2).map λa=>.mk (O.1+2) 0 ⟨0,0,⟨#[]⟩⟩ a else none) b):=by
  have:=U C
  rw[<-gg,mi F V4] at this
  exact this
 have Wi:=λd e (h:bB bV (.mk f g a)=some (d,e))=>(cd h);obtain⟨Wa,S⟩:=al (bB bV (.mk f g a));rw[<-S] at s V1 Wi;rw[Tt.ad] at s;change Calls prog 93 #[.agg #[.int .i64 f,.string g,.slice p a.length (a.length+k)],_] _ _ at s;have s:=VV s;have W0:=VV λ(E:World) (Wf:Bw b E)=>G.aa Wf;have Wn:=VV λ(e:List Tt) (Wj:Tt.sizes e<=L) (WR:Tt.ah e) (y:World) (Wg:Bw b y) (WW:Nat) (n:Tt) (WS:e[WW]?=some n) (Wq:Option Addr) (WN:Nat) (E:World) (WO:Tt.all E Wq n.l) (Wf:Bw y E)=>by have J:=a8 WS;have Xc:=Tt.an J;exact V2 n (by omega) (Tt.ag WR J) Wq WN E WO (G.aa (ac Wg Wf))
 have W7:(f == 1)=false:=by simp[V4]
 have W8:(f == 2)=false:=by simp[F]
 generalize a.length+k=Wu at *;generalize WU:a.length=WJ at *;clear I c V8 R C u V2 G V5 S V4 F;cases Wa with
 | none=>have m:Hid (x=XQ none b):=U V1;go_enter func98,ntmps98;go_upto_region 1 with fail;rw[U D];go_wp2_with (go_at_call 93;refine(U s).mono ?_;rintro l Wm ⟨c,rfl⟩);refine⟨rfl,?_⟩;rw[U m];exact⟨ac (U z) c,rfl⟩
 | some O=>
  obtain⟨d,e⟩:=O;obtain⟨q,i,N⟩:=Wi d e rfl;have WI:a=q::e:=i;have Wj:Tt.sizes e<=L:=by rw[WI,Tt.sizes] at Wk;have:=Tt.am q;omega
  have WB:Tt.ah e:=by have:=M.2.2;rw[show (Tt.mk f g a).l=q::e from i,Tt.ah] at this;exact this.2
  have WF:e.length<=1000000:=by have:=M.2.1;rw[show (Tt.mk f g a).l=q::e from i,a1] at this;omega
  have Xb:1<=d/\d<=19:=by unfold bW at N;split at N;(.rename_i W6;injection N with N;have:=dC bV q.s;rw[d5] at this;omega);.cases N
  have P:Hid (x=XQ (if (e.length:Int)=fD (d+2) then (a6 eG e).map λa=>.mk (d+2) 0 ⟨0,0,⟨#[]⟩⟩ a else none) b):=U V1;have K:=VV λ(E:World)=>iy (d+2) E;have V0:=VV λ(Q:Option Addr) (y:World) (v:Tt.all y Q e) (Wg:Bw b y) (V3:Nat)=>ff eG e WF Q V3 y v (U Wn e Wj WB y Wg);have W5:wrap64 (wrap64 (3+d)-1)=d+2:=by unfold wrap64;omega
  have We:(3:Int)+d-1=d+2:=by omega
  generalize fD (d+2)=Ws at *;obtain⟨Wl,J⟩:=al e.length;have Wd:=VV J;rw[<-J] at P V0 WF;have Xa:(e.length:Int)=(Wl:Int):=by rw[J]
  clear Wi i WI Wk M Wn N Wj WB WU V1 J;by_cases V6:(Wl:Int)=Ws
  .have m:Hid (x=XQ ((a6 eG e).map λa=>.mk (d+2) 0 ⟨0,0,⟨#[]⟩⟩ a) b):=by have:=U P;rw[aR V6] at this;exact this
   obtain⟨WY,WE⟩:=al (a6 eG e)
   rw[<-WE] at V0 m
   subst V6
   clear P WE
   cases WY with
   | none=>
    go_enter func98,ntmps98
    go_upto_region 1 with fail
    rw[U D]
    go_wp2_with (first
     | (go_at_call 93;refine(U s).mono ?_;rintro l Wm ⟨c,Q,V3,rfl,v⟩;simp only[<-U Wd];have VZ:=VV (Tt.ab _ v c);have A:=VV (ac (U z) c);clear c v)
     | (go_at_call 138;first | (rw[We];refine(U K _).mono ?_) | (refine(U K _).mono ?_);rintro l V ⟨rfl,rfl⟩)
     | (go_at_call 94;refine(bc _).mono ?_;rintro l V ⟨rfl,rfl⟩)
     | (go_at_call 97;refine(U V0 _ _ (U VZ) (U A) _).mono ?_;rintro l W ⟨r,rfl⟩))
    refine⟨rfl,?_⟩
    rw[U m]
    exact⟨ac (U A) r,rfl⟩
   | some Xe=>
    go_enter func98,ntmps98
    go_upto_region 1 with fail
    rw[U D]
    go_wp2_with (first
     | (go_at_call 93;refine(U s).mono ?_;rintro l Wm ⟨c,Q,V3,rfl,v⟩;simp only[<-U Wd];have VZ:=VV (Tt.ab _ v c);have A:=VV (ac (U z) c);have Wo:=VV ((U w).aa c);have Wp:=VV c.size;clear c v)
     | (go_at_call 138;first | (rw[We];refine(U K _).mono ?_) | (refine(U K _).mono ?_);rintro l V ⟨rfl,rfl⟩)
     | (go_at_call 94;refine(bc _).mono ?_;rintro l V ⟨rfl,rfl⟩)
     | (go_at_call 97;refine(U V0 _ _ (U VZ) (U A) _).mono ?_;rintro l W ⟨r,Xd,WZ,rfl,WG,WC⟩;obtain⟨Wr,Wt,rfl,WH⟩:=WC.exs;have j:=(U Wo).aa r;obtain⟨X,Wv⟩:=j 0 _ rfl;obtain⟨Y,Ww⟩:=j 1 _ rfl;obtain⟨Z,Wx⟩:=j 2 _ rfl;obtain⟨VW,Wy⟩:=j 3 _ rfl;obtain⟨VX,Wz⟩:=j 4 _ rfl;obtain⟨VY,WA⟩:=j 5 _ rfl;have Wc:=VV (ac (U A) r);have WM:=VV WH;have WL:=VV (be (U WK) (U Wp));clear r j WC WH))
    refine aM (v:=.agg #[.int .i64 (d+2),.int .i64 0,.int .i64 0,.int .i64 0,.string ⟨#[]⟩,.slice Wr (WZ.map Prod.fst).length Wt]) (by simp[results,results98,go_sem,X,Y,Z,VW,VX,VY];rw[<-WG,VP]) rfl ?_
    rw[U m]
    subst WG
    refine⟨b1 (U Wc) (Nat.le_succ _) _ _ _ _ _ _,Wr,Wt,rfl,?_⟩
    have WV:=U WL
    refine((U WM).mono (T:=λf=>b.heap.size+1+1<=f/\f<W.heap.size) λf V7=>⟨aQ WV V7.1,V7.2⟩).kept (kr W (b.heap.size+1) _ _ _ _ _ _) λf V7=>⟨by omega,be V7.2 (by simp)⟩
  ·(have m:Hid (x=XQ none b):=by have:=U P;rw[aL V6] at this;exact this);(have W9:((Wl:Int) == Ws)=false:=by simp[V6]);clear P;go_enter func98,ntmps98;go_upto_region 1 with fail;rw[U D]
   go_wp2_with (first
    | (go_at_call 93;refine(U s).mono ?_;rintro l Wm ⟨c,Q,V3,rfl,v⟩;simp only[<-U Wd];have VZ:=VV (Tt.ab _ v c);have A:=VV (ac (U z) c);have Wo:=VV ((U w).aa c);have Wp:=VV c.size;clear c v)
    | (go_at_call 138;first | (rw[We];refine(U K _).mono ?_) | (refine(U K _).mono ?_);rintro l V ⟨rfl,rfl⟩)
    | (go_at_call 94;refine(cx _).mono ?_;rintro l V ⟨rfl,rfl⟩))
   refine⟨rfl,?_⟩;rw[U m];exact⟨U A,rfl⟩
def bN(a:Int):Int:=if a=2∨a=3∨a=11 then 2 else if a=4∨a=5∨a=6 then 3 else if a=9 then 4 else if a=10 then 6 else 1
def aW{a:Type}:List (Option a)->Option (List a)
 | []=>some []
 | none::_=>none
 | some c::b=>(aW b).map λd=>c::d
theorem cu{c:Type}(a:Tt->Option c):∀b:List Tt,a6 a b=aW (b.map a)
 | []=>rfl
 | d::b=>by rw[a6,bi,cu a b];cases a d<;>rfl
def bF(a:Tt):Option (List Tt):=if a.k=3 then some a.l else none
def fd(b:List Tt)(a:Nat):Tt:=b.getD a (.mk 0 ⟨#[]⟩ [])
def bm(b:Int)(a:List Tt)(e:List (Option Pl)):Option Pl:=
 if b=1 then (hK (fd a 0)).map λg=>.mk 1 g [] [] [] [] 0 0 0 0 []
 else if b=2∨b=4∨b=5 then (a6 eG (a.take 1)).bind λi=>(aW (e.drop 1)).map λc=>.mk b ⟨#[]⟩ i [] [] [] 0 0 0 0 c
 else if b=3 then (bF (fd a 0)).bind λd=>(a6 eG d).bind λi=>(aW (e.drop 1)).map λc=>.mk 3 ⟨#[]⟩ i [] [] [] 0 0 0 0 c
 else if b=6 then (bF (fd a 0)).bind λd=>(a6 cp d).bind λf=>(bF (fd a 1)).bind λk=>(a6 VM k).bind λl=>(aW (e.drop 2)).map λc=>.mk 6 ⟨#[]⟩ [] f [] l 0 0 0 0 c
 else if b=9 then (bF (fd a 0)).bind λd=>(a6 fr d).bind λj=>(cp (fd a 1)).bind λg=>(cp (fd a 2)).bind λo=>(aW (e.drop 3)).map λc=>.mk 9 ⟨#[]⟩ [] [] j [] 0 0 g o c
 else if b=10 then (bW d0 (fd a 0)).bind λn=>(cp (fd a 1)).bind λm=>(cp (fd a 2)).bind λg=>(bF (fd a 3)).bind λd=>(a6 cp d).bind λf=>(bF (fd a 4)).bind λk=>(a6 fr k).bind λj=>(aW (e.drop 5)).map λc=>.mk 10 ⟨#[]⟩ [] f j [] n m g 0 c
 else if b=12 then (bF (fd a 0)).bind λd=>(a6 gm d).map λf=>.mk 12 ⟨#[]⟩ [] f [] [] 0 0 0 0 []
 else (aW e).map λc=>.mk b ⟨#[]⟩ [] [] [] [] 0 0 0 0 c
mutual
def b9:Tt->Option Pl
 | .mk c e d=>if c=3 then (match d with
   | []=>none
   | h::b=>match bW aX h with
    | none=>none
    | some a=>if a=8∨(b.length:Int)=bN a then bm a b (pb b) else none)
  else none
def pb:List Tt->List (Option Pl)
 | []=>[]
 | b::a=>b9 b::pb a
end
theorem nU:∀a:List Tt,pb a=a.map b9
 | []=>by rw[pb];rfl
 | b::a=>by rw[pb,nU a];rfl
theorem si (d : Int) (e : ByteArray) (b : List Tt) : b9 (.mk d e b) = if d = 3 then (match b with
      | [] => none
      | h :: a => match bW aX h with
        | none => none
        | some c => if c = 8 ∨ (a.length : Int) = bN c then bm c a (pb a) else none)
    else none := by
  cases b with
  | nil => unfold b9; rfl
  | cons h a => conv => lhs; unfold b9
theorem je(b:Int)(e:ByteArray)(c:List Tt):b9 (.mk b e c)=match bB aX (.mk b e c) with
  | none=>none
  | some a=>if a.1=8∨(a.2.length:Int)=bN a.1 then bm a.1 a.2 (a.2.map b9) else none:=by
 rw[si]
 by_cases d:b=3
 .subst d
  unfold bB
  cases c with
  | nil=>rfl
  | cons h g=>
   simp only[Tt.k,Tt.l,if_true]
   cases bW aX h with
   | none=>rfl
   | some f=>simp only[nU,Option.map_some]
 .rw[aL d,mf aX (t:=.mk b e c) d]
theorem b5(a:Int)(h:1<=a/\a<=12)(b:World):Calls prog 95 #[.int .i64 a] b λc e=>c=.returned (.int .i64 (bN a))/\e=b:=by
 have d:a=1∨a=2∨a=3∨a=4∨a=5∨a=6∨a=7∨a=8∨a=9∨a=10∨a=11∨a=12:=by omega
 rcases d with rfl|rfl|rfl|rfl|rfl|rfl|rfl|rfl|rfl|rfl|rfl|rfl <;>
  (go_enter func95, ntmps95
   go_wp2
   go_ret
   exact ⟨by simp [bN], rfl⟩)
end Go.Proofs.YtabmgpillccfaaaGreatDoor
