import Derived.Test.YtabmgpillccfaaaGreatDoorUaB
set_option linter.all false
set_option maxHeartbeats 1000000
set_option maxRecDepth 100000
namespace Go.Proofs.YtabmgpillccfaaaGreatDoor
open Go.RowKit Go.Sort Go.Proofs.Tryz
theorem o9(a:Tt)(Y:a.fin)(j:Option Addr)(k:Nat)(b:World)(V:Tt.all b j a.l)(B:GT b)(g:List Tt)(G:bB aX a=some (1,g))(I:g.length=1)  (L:∀y,Bw b y->∀(V8:Nat) (t:Tt),g[V8]?=some t->∀(S:Option Addr) (V6:Nat) (d:World),Tt.all d S t.l->Bw y d->Calls prog 50 #[t.val S V6] d (PQ (b9 t) d)):Calls prog 50 #[a.val j k] b (PQ (bm 1 g (g.map b9)) b):=by
 obtain⟨V2,C⟩:=al (PQ (bm 1 g (g.map b9)) b);rw[<-C];have O:=VV C;have F:=Tt.af Y;obtain⟨i,f⟩:=bq ((b.alloc (.cells #[.int .i64 a.k,.string a.s,.slice j a.l.length (a.l.length+k)] 51)).alloc (.cells #[.int .i64 0,.string ⟨#[]⟩,.slice none 0 0,.slice none 0 0,.slice none 0 0,.slice none 0 0,.int .i64 0,.int .i64 0,.int .i64 0,.int .i64 0,.slice none 0 0] 28));have c:=ae (ar _ b) (.cells #[.int .i64 a.k,.string a.s,.slice j a.l.length (a.l.length+k)] 51);have s:Bw b i:=by rw[<-f];exact ae c _
 have X:bp i (b.heap.size+1) VT:=by rw[<-f];have:=bp.new (b.alloc (.cells #[.int .i64 a.k,.string a.s,.slice j a.l.length (a.l.length+k)] 51)) VT 28;simpa using this
 have P:=VV X;have Wu:Hid (b.heap.size+1<i.heap.size):=by show _<_;rw[<-f];simp
 have Ww:i.cell? ⟨b.heap.size,0,none⟩=some (.int .i64 a.k):=by rw[<-f];simp[go_sem]
 have Wx:i.cell? ⟨b.heap.size,1,none⟩=some (.string a.s):=by rw[<-f];simp[go_sem]
 have Wy:i.cell? ⟨b.heap.size,2,none⟩=some (.slice j a.l.length (a.l.length+k)):=by rw[<-f];simp[go_sem]
 have K:=VV s;have R:=VV f;have m:=bM bE aX aZ (by decide) (by decide) (ascii_of_all (by decide)) a F.2.1 j k i (Tt.ab _ V s) (B.aa s);unfold bE at m;rw[G,Tt.ad] at m;have m:=VV m;have N:=VV λ(d:World)=>b5 1 (by decide) d;have V0:=VV L;obtain⟨WL,Z,_⟩:=cd G;have E:=F.2.2;rw[Z,Tt.ah] at E;have VZ:=VV E.2;have Wt:=VV λ(d:World) (T:Bw b d)=>B.aa T;have M:=VV I;rw[Tt.ad];generalize a.l.length+k=Wv at *;generalize a.l.length=WK at *;clear s c X C f L B V G Y F Z E;obtain⟨q,V7⟩:∃q,g=[q]:=List.length_eq_one_iff.1 I;subst V7;have D:=(U VZ);rw[Tt.ah] at D;have VY:=VV D.1;have r:=VV λ(z:Option Addr) (A:Nat) (d:World)=>np q (U VY) z A d;have x:Hid (V2=PQ ((hK q).map λV9=>.mk 1 V9 [] [] [] [] 0 0 0 0 []) b):=U O;obtain⟨Wa,W⟩:=al (hK q);rw[<-W] at r x;simp only[Tt.ad] at r;clear O V0 W I D;cases Wa with
 | none=>
  go_enter func50,ntmps50;go_upto_region 1 with fail;rw[U R]
  go_wp2_with (first
   | (go_at_call 93;refine(U m).mono ?_;rintro l Wf ⟨c,V3,V5,rfl,n⟩;simp only[U M];have u:=VV (Tt.ab _ n c);have w:=VV (ac (U K) c);have Q:=VV ((U P).aa c);have V1:=VV c.size;obtain⟨V4,Wb,z,A,rfl,⟨Wc,Wd,We⟩,o,_⟩:=Tt.all_cons (U u);have VW:=VV o;clear c n o)
   | (go_at_call 95;refine(U N _).mono ?_;rintro l J ⟨rfl,rfl⟩)
   | (go_at_call 94;refine(bc _).mono ?_;rintro l J ⟨rfl,rfl⟩)
   | (go_at_call 96;refine(U r _ _ _).mono ?_;rintro l Wg ⟨p,rfl⟩))
  refine⟨rfl,?_⟩;rw[U x];exact⟨ac (U w) p,rfl⟩
 | some Wh=>
  go_enter func50,ntmps50;go_upto_region 1 with fail;rw[U R]
  go_wp2_with (first
   | (go_at_call 93;refine(U m).mono ?_;rintro l Wf ⟨c,V3,V5,rfl,n⟩;simp only[U M];have u:=VV (Tt.ab _ n c);have w:=VV (ac (U K) c);have Q:=VV ((U P).aa c);have V1:=VV c.size;obtain⟨V4,Wb,z,A,rfl,⟨Wc,Wd,We⟩,o,_⟩:=Tt.all_cons (U u);have VW:=VV o;clear c n o)
   | (go_at_call 95;refine(U N _).mono ?_;rintro l J ⟨rfl,rfl⟩)
   | (go_at_call 94;refine(bc _).mono ?_;rintro l J ⟨rfl,rfl⟩)
   | (go_at_call 96;refine(U r _ _ _).mono ?_;rintro l Wg ⟨p,rfl⟩;have e:=(U Q).aa p;obtain⟨Wi,Wz⟩:=e 0 _ rfl;obtain⟨Wj,WA⟩:=e 1 _ rfl;obtain⟨Wl,WC⟩:=e 2 _ rfl;obtain⟨Wm,WD⟩:=e 3 _ rfl;obtain⟨Wn,WE⟩:=e 4 _ rfl;obtain⟨Wo,WF⟩:=e 5 _ rfl;obtain⟨Wp,WG⟩:=e 6 _ rfl;obtain⟨Wq,WH⟩:=e 7 _ rfl;obtain⟨Wr,WI⟩:=e 8 _ rfl;obtain⟨Ws,WJ⟩:=e 9 _ rfl;obtain⟨Wk,WB⟩:=e 10 _ rfl;have VX:=VV (ac (U w) p);clear p e))
  refine aM (v:=.agg #[.int .i64 1,.string Wh,.slice none 0 0,.slice none 0 0,.slice none 0 0,.slice none 0 0,.int .i64 0,.int .i64 0,.int .i64 0,.int .i64 0,.slice none 0 0]) (by simp[results,results50,go_sem,Wi,Wj,Wl,Wm,Wn,Wo,Wp,Wq,Wr,Ws,Wk]) rfl ?_;rw[U x];exact⟨aJ (U VX) (Nat.le_succ _) _ _ _ _ _ _ _ _ _ _ _,⟨none,0,none,0,none,0,none,0,none,0⟩,rfl,λd T=>⟨⟨by show Ex.all d none [];rw[Ex.all];trivial,.inl rfl,.inl rfl,.inl rfl,aV⟩,by show Pl.all d none [];rw[Pl.all];trivial⟩⟩
theorem m1(b:Tt)(Wm:b.fin)(p:Option Addr)(r:Nat)(a:World)(Wg:Tt.all a p b.l)(V2:GT a)(m:List Tt)(V6:bB aX b=some (12,m))(R:m.length=1)  (Wa:∀VY,Bw a VY->∀(Wo:Nat) (z:Tt),m[Wo]?=some z->∀(L:Option Addr) (VZ:Nat) (d:World),Tt.all d L z.l->Bw VY d->Calls prog 50 #[z.val L VZ] d (PQ (b9 z) d)):Calls prog 50 #[b.val p r] a (PQ (bm 12 m (m.map b9)) a):=by
 obtain⟨Wb,V3⟩:=al (PQ (bm 12 m (m.map b9)) a);rw[<-V3];have K:=VV V3;have V5:=Tt.af Wm;obtain⟨o,j⟩:=bq ((a.alloc (.cells #[.int .i64 b.k,.string b.s,.slice p b.l.length (b.l.length+r)] 51)).alloc (.cells #[.int .i64 0,.string ⟨#[]⟩,.slice none 0 0,.slice none 0 0,.slice none 0 0,.slice none 0 0,.int .i64 0,.int .i64 0,.int .i64 0,.int .i64 0,.slice none 0 0] 28));have c:=ae (ar _ a) (.cells #[.int .i64 b.k,.string b.s,.slice p b.l.length (b.l.length+r)] 51);have O:Bw a o:=by rw[<-j];exact ae c _
 have Wk:bp o (a.heap.size+1) VT:=by rw[<-j];have:=bp.new (a.alloc (.cells #[.int .i64 b.k,.string b.s,.slice p b.l.length (b.l.length+r)] 51)) VT 28;simpa using this
 have Y:=VV Wk;have Wz:Hid (a.heap.size+1<o.heap.size):=by show _<_;rw[<-j];simp
 have WT:o.cell? ⟨a.heap.size,0,none⟩=some (.int .i64 b.k):=by rw[<-j];simp[go_sem]
 have WU:o.cell? ⟨a.heap.size,1,none⟩=some (.string b.s):=by rw[<-j];simp[go_sem]
 have WV:o.cell? ⟨a.heap.size,2,none⟩=some (.slice p b.l.length (b.l.length+r)):=by rw[<-j];simp[go_sem]
 have V:=VV O;have VX:=VV j;have n:=bM bE aX aZ (by decide) (by decide) (ascii_of_all (by decide)) b V5.2.1 p r o (Tt.ab _ Wg O) (V2.aa O);unfold bE at n;rw[V6,Tt.ad] at n;have n:=VV n;have X:=VV λ(d:World)=>b5 12 (by decide) d;have V9:=VV Wa;obtain⟨Xd,Wn,_⟩:=cd V6;have V4:=V5.2.2;rw[Wn,Tt.ah] at V4;have Wx:=VV V4.2;have Wy:=VV λ(d:World) (E:Bw a d)=>V2.aa E;have W:=VV R;rw[Tt.ad];generalize b.l.length+r=WS at *;generalize b.l.length=Xb at *;clear O c Wk V3 j Wa V2 Wg V6 Wm V5 Wn V4;obtain⟨e,WF⟩:∃e,m=[e]:=List.length_eq_one_iff.1 R;subst WF;have P:=(U Wx);rw[Tt.ah] at P;have Ww:=VV P.1;have w:=VV λ(q:Option Addr) (x:Nat) (d:World)=>d3 e q x d;have V7:=Tt.af (U Ww);have J:=VV λ(q:Option Addr) (x:Nat) (d:World) (V1:Tt.all d q e.l) (E:Bw a d)=>k5 gm e.l V7.2.1 q x d V1 λWo z W8 L VZ Wc W7 WE=>nw z L VZ Wc (U Wy Wc (ac E WE));simp only[Tt.ad] at w;by_cases y:e.k=3
 case neg=>
  have D:Hid (Wb=PQ none a):=by have:=U K;rw[show bm 12 [e] ([e].map b9)=none by show (bF e).bind _=none;unfold bF;rw[aL y];rfl] at this;exact this
  simp only[aL y] at w;clear K V9 R P V7 J y;go_enter func50,ntmps50;go_upto_region 1 with fail;rw[U VX]
  go_wp2_with (first
   | (go_at_call 93;refine(U n).mono ?_;rintro f Wt ⟨c,Wd,Wf,rfl,k⟩;simp only[U W];have A:=VV (Tt.ab _ k c);have B:=VV (ac (U V) c);have Z:=VV ((U Y).aa c);have VW:=VV c.size;obtain⟨We,Wp,q,x,rfl,⟨Wq,Wr,Ws⟩,l,_⟩:=Tt.all_cons (U A);have I:=VV l;clear c k l)
   | (go_at_call 95;refine(U X _).mono ?_;rintro f u ⟨rfl,rfl⟩)
   | (go_at_call 94;refine(bc _).mono ?_;rintro f u ⟨rfl,rfl⟩)
   | (go_at_call 100;refine(U w _ _ _).mono ?_;rintro f G ⟨rfl,s⟩))
  refine⟨rfl,?_⟩;rw[U D];exact⟨ac (U B) s,rfl⟩
 simp only[aR y] at w;have D:Hid (Wb=PQ ((a6 gm e.l).map λV0=>.mk 12 ⟨#[]⟩ [] V0 [] [] 0 0 0 0 []) a):=by have:=U K;rw[show bm 12 [e] ([e].map b9)=(a6 gm e.l).map λV0=>.mk 12 ⟨#[]⟩ [] V0 [] [] 0 0 0 0 [] by show (bF e).bind _=_;unfold bF;rw[aR y];rfl] at this;exact this
 obtain⟨WG,Wj⟩:=al (a6 gm e.l);rw[<-Wj] at J D;clear K V9 Wj R P y V7;cases WG with
 | none=>
  go_enter func50,ntmps50;go_upto_region 1 with fail;rw[U VX]
  go_wp2_with (first
   | (go_at_call 93;refine(U n).mono ?_;rintro f Wt ⟨c,Wd,Wf,rfl,k⟩;simp only[U W];have A:=VV (Tt.ab _ k c);have B:=VV (ac (U V) c);have Z:=VV ((U Y).aa c);have VW:=VV c.size;obtain⟨We,Wp,q,x,rfl,⟨Wq,Wr,Ws⟩,l,_⟩:=Tt.all_cons (U A);have I:=VV l;clear c k l)
   | (go_at_call 95;refine(U X _).mono ?_;rintro f u ⟨rfl,rfl⟩)
   | (go_at_call 94;refine(bc _).mono ?_;rintro f u ⟨rfl,rfl⟩)
   | (go_at_call 100;refine(U w _ _ _).mono ?_;rintro f u ⟨rfl,i⟩;have C:=VV (ac (U B) i);have S:=VV (Tt.ab _ (U I) i);clear i)
   | (go_at_call 101;refine(U J _ _ _ (U S) (U C)).mono ?_;rintro f G ⟨s,rfl⟩))
  refine⟨rfl,?_⟩;rw[U D];exact⟨ac (U C) s,rfl⟩
 | some Xe=>
  go_enter func50,ntmps50;go_upto_region 1 with fail;rw[U VX]
  go_wp2_with (first
   | (go_at_call 93;refine(U n).mono ?_;rintro f Wt ⟨c,Wd,Wf,rfl,k⟩;simp only[U W];have A:=VV (Tt.ab _ k c);have B:=VV (ac (U V) c);have Z:=VV ((U Y).aa c);have VW:=VV c.size;obtain⟨We,Wp,q,x,rfl,⟨Wq,Wr,Ws⟩,l,_⟩:=Tt.all_cons (U A);have I:=VV l;clear c k l)
   | (go_at_call 95;refine(U X _).mono ?_;rintro f u ⟨rfl,rfl⟩)
   | (go_at_call 94;refine(bc _).mono ?_;rintro f u ⟨rfl,rfl⟩)
   | (go_at_call 100;refine(U w _ _ _).mono ?_;rintro f u ⟨rfl,i⟩;have C:=VV (ac (U B) i);have S:=VV (Tt.ab _ (U I) i);have WB:=VV ((U Z).aa i);have WC:=VV (aQ (U VW) i.size);clear i)
   | (go_at_call 101;refine(U J _ _ _ (U S) (U C)).mono ?_;rintro f G ⟨s,Xc,V8,rfl,F,Wi⟩;obtain⟨M,N,rfl,Wh,Wl⟩:=Wi.ints;have g:=(U WB).aa s;obtain⟨WH,WW⟩:=g 0 _ rfl;obtain⟨WI,WX⟩:=g 1 _ rfl;obtain⟨WK,WZ⟩:=g 2 _ rfl;obtain⟨WL,W0⟩:=g 3 _ rfl;obtain⟨WM,W1⟩:=g 4 _ rfl;obtain⟨WN,W2⟩:=g 5 _ rfl;obtain⟨WO,W3⟩:=g 6 _ rfl;obtain⟨WP,W4⟩:=g 7 _ rfl;obtain⟨WQ,W5⟩:=g 8 _ rfl;obtain⟨WR,W6⟩:=g 9 _ rfl;obtain⟨WJ,WY⟩:=g 10 _ rfl;have Wu:=VV (ac (U C) s);have WD:=VV Wl;have Wv:=VV Wh;have WA:=VV F;clear s g Wi Wl Wh F))
  refine aM (v:=.agg #[.int .i64 12,.string ⟨#[]⟩,.slice none 0 0,.slice M V8.length N,.slice none 0 0,.slice none 0 0,.int .i64 0,.int .i64 0,.int .i64 0,.int .i64 0,.slice none 0 0]) (by simp[results,results50,go_sem,WH,WI,WK,WL,WM,WN,WO,WP,WQ,WR,WJ]) rfl ?_;rw[U D];have F:=U WA;rw[List.map_id] at F;subst F;have W9:=U Wz;have Xa:=U WC;refine⟨aJ (U Wu) (Nat.le_succ _) _ _ _ _ _ _ _ _ _ _ _,⟨none,0,M,N,none,0,none,0,none,0⟩,rfl,?_⟩;have V1:=((U WD).mono (T:=λt=>a.heap.size+1+1<=t/\t<G.heap.size) λt Q=>⟨by have:=Q.1;omega,Q.2⟩).kept (bR G (a.heap.size+1) (.int .i64 12) (.string ⟨#[]⟩) (.slice none 0 0) (.slice M V8.length N) (.slice none 0 0) (.slice none 0 0) (.int .i64 0) (.int .i64 0) (.int .i64 0) (.int .i64 0) (.slice none 0 0)) (T:=λt=>a.heap.size<=t/\t<((((((((((((G.setCell ⟨a.heap.size+1,0,none⟩ (.int .i64 12)).setCell ⟨a.heap.size+1,1,none⟩ (.string ⟨#[]⟩)).setCell ⟨a.heap.size+1,2,none⟩ (.slice none 0 0)).setCell ⟨a.heap.size+1,3,none⟩ (.slice M V8.length N)).setCell ⟨a.heap.size+1,4,none⟩ (.slice none 0 0)).setCell ⟨a.heap.size+1,5,none⟩ (.slice none 0 0)).setCell ⟨a.heap.size+1,6,none⟩ (.int .i64 0)).setCell ⟨a.heap.size+1,7,none⟩ (.int .i64 0)).setCell ⟨a.heap.size+1,8,none⟩ (.int .i64 0)).setCell ⟨a.heap.size+1,9,none⟩ (.int .i64 0)).setCell ⟨a.heap.size+1,10,none⟩ (.slice none 0 0))).heap.size) λt Q=>⟨by omega,be Q.2 (by simp)⟩;exact λd E=>⟨⟨by show Ex.all d none [];rw[Ex.all];trivial,V1 d E,.inl rfl,.inl rfl,U Wv⟩,by show Pl.all d none [];rw[Pl.all];trivial⟩
theorem o8(b:Tt)(Wy:b.fin)(g:Option Addr)(t:Nat)(a:World)(Wr:Tt.all a g b.l)(V4:GT a)(m:List Tt)(Wb:bB aX b=some (2,m))(VW:m.length=2)  (Wk:∀d,Bw a d->∀(VZ:Nat) (k:Tt),m[VZ]?=some k->∀(y:Option Addr) (I:Nat) (c:World),Tt.all c y k.l->Bw d c->Calls prog 50 #[k.val y I] c (PQ (b9 k) c)):Calls prog 50 #[b.val g t] a (PQ (bm 2 m (m.map b9)) a):=by
 obtain⟨V2,V5⟩:=al (PQ (bm 2 m (m.map b9)) a);rw[<-V5];have Wl:=VV V5;have Wa:=Tt.af Wy;obtain⟨l,q⟩:=bq ((a.alloc (.cells #[.int .i64 b.k,.string b.s,.slice g b.l.length (b.l.length+t)] 51)).alloc (.cells #[.int .i64 0,.string ⟨#[]⟩,.slice none 0 0,.slice none 0 0,.slice none 0 0,.slice none 0 0,.int .i64 0,.int .i64 0,.int .i64 0,.int .i64 0,.slice none 0 0] 28));have r:=ae (ar _ a) (.cells #[.int .i64 b.k,.string b.s,.slice g b.l.length (b.l.length+t)] 51);have Y:Bw a l:=by rw[<-q];exact ae r _
 have Wv:bp l (a.heap.size+1) VT:=by rw[<-q];have:=bp.new (a.alloc (.cells #[.int .i64 b.k,.string b.s,.slice g b.l.length (b.l.length+t)] 51)) VT 28;simpa using this
 have WR:=VV Wv;have WK:Hid (a.heap.size+1<l.heap.size):=by show _<_;rw[<-q];simp
 have Xv:l.cell? ⟨a.heap.size,0,none⟩=some (.int .i64 b.k):=by rw[<-q];simp[go_sem]
 have Xw:l.cell? ⟨a.heap.size,1,none⟩=some (.string b.s):=by rw[<-q];simp[go_sem]
 have Xx:l.cell? ⟨a.heap.size,2,none⟩=some (.slice g b.l.length (b.l.length+t)):=by rw[<-q];simp[go_sem]
 have WE:=VV Y;have WZ:=VV q;have F:=bM bE aX aZ (by decide) (by decide) (ascii_of_all (by decide)) b Wa.2.1 g t l (Tt.ab _ Wr Y) (V4.aa Y);unfold bE at F;rw[Wb,Tt.ad] at F;have F:=VV F;have WO:=VV λ(c:World)=>b5 2 (by decide) c;have Wj:=VV Wk;obtain⟨XT,Wz,_⟩:=cd Wb;have V9:=Wa.2.2;rw[Wz,Tt.ah] at V9;have WI:=VV V9.2;have WJ:=VV λ(c:World) (X:Bw a c)=>V4.aa X;have WL:=VV VW;rw[Tt.ad];generalize b.l.length+t=Xu at *;generalize b.l.length=XN at *;clear Y r Wv V5 q Wk V4 Wr Wb Wy Wa Wz V9
 obtain⟨f,j,W8⟩:∃f j,m=f::j:=by
  cases m with
  | nil=>cases VW
  | cons f j=>exact⟨f,j,rfl⟩
 subst W8;have W9:j.length=1:=by rw[a1] at VW;omega
 have V8:=(U WI);rw[Tt.ah] at V8;have WH:=VV V8.1;have V1:Hid (∀(o:Option Addr) (p:Nat) (d:World),Tt.all d o [f]->Bw a d->Calls prog 97 #[.slice o 1 p,.func (.func 98) #[] #[]] d (g5 ej Prod.fst (a6 eG [f]) d)):=λo p d A V7=>ff eG [f] (by simp) o p d A λVZ k Wc y I x J V6=>by(have Xa:k=f:=by have:=a8 Wc;simpa using this);subst Xa;exact gf k.size k aV (U WH) y I x J (U WJ x (ac V7 V6))
 have O:=VV λ(o:Option Addr) (p:Nat) (d:World) (A:Tt.all d o j) (V7:Bw a d)=>db b9 j (by omega) o p d A λVZ k Wc y I x J V6=>U Wj d V7 (VZ+1) k (by simpa using Wc) y I x J V6;rw[W9] at O;have G:Hid (V2=PQ ((a6 eG [f]).bind λV3=>(a6 b9 j).map λWh=>.mk 2 ⟨#[]⟩ V3 [] [] [] 0 0 0 0 Wh) a):=by have:=U Wl;rw[cu b9];exact this
 obtain⟨Xb,Wt⟩:=al (a6 eG [f]);obtain⟨Xc,Wu⟩:=al (a6 b9 j);rw[<-Wt] at V1 G;rw[<-Wu] at O G;have W0:Hid (∀(c:World) (g:Option Addr),Tt.all c g (f::j)->∃z C,g=some ⟨z,C,none⟩/\Tt.all c (some ⟨z,C,none⟩) [f]/\Tt.all c (some ⟨z,C+3,none⟩) j):=λc g h=>by rw[Tt.all] at h;obtain⟨z,C,rfl,W5,W6⟩:=h;exact⟨z,C,rfl,(by rw[Tt.all];exact⟨z,C,rfl,W5,by rw[Tt.all];trivial⟩),W6⟩
 clear Wl Wj Wt Wu VW V8;go_enter func50,ntmps50;go_upto_region 1 with fail;rw[U WZ]
 go_upto_region 9 with (first
  | (go_at_call 93;refine(U F).mono ?_;rintro WC XR ⟨r,o,p,rfl,A⟩;simp only[U WL];have WD:=VV (Tt.ab _ A r);have WF:=VV (ac (U WE) r);have WS:=VV ((U WR).aa r);have WV:=VV r.size;obtain⟨S,V0,rfl,WA,WB⟩:=U W0 _ _ (U WD);have W1:=VV WA;have W2:=VV WB;clear r A WA WB)
  | (go_at_call 95;refine(U WO _).mono ?_;rintro WC L ⟨rfl,rfl⟩)
  | (go_at_call 94;refine(bc _).mono ?_;rintro WC L ⟨rfl,rfl⟩))
 obtain⟨n,Wq⟩:=al (2+p);rw[<-Wq];have XJ:¬n=1:=by omega
 have XK:2<=n:=by omega
 have XL:¬(n:Int)<1:=by omega
 have Xs:Hid (n-1=1+p):=by show _=_;omega
 clear Wq;have E:Hid (Bw L L.drew):=(aN).drew;have N:=VV (ac (U WF) (U E));have Wn:=VV (Tt.ab _ (U W1) (U E));have W3:=VV (Tt.ab _ (U W2) (U E));have WU:=VV ((U WS).aa (U E));have Wm:Hid (l.heap.size<=L.drew.heap.size):=aQ (U WV) (U E).size;refine dR (λx=>V2=PQ none a/\Bw a x) (λXt XS W4 Ws=>?_) (λ_:World=>True) 8 ?_;.refine⟨W4,?_⟩;rw[Ws.1];exact⟨Ws.2,rfl⟩
 refine VS 0 (.int .i64 2) rfl trivial ?_;refine VS 1 (.slice (some ⟨S,V0,none⟩) 2 n) rfl trivial ?_;refine VS 2 (.slice (some ⟨S,V0,none⟩) 1 n) rfl trivial ?_;refine VS 4 (.slice (some ⟨S,V0,none⟩) 2 n) rfl trivial ?_;refine VS 5 (.slice (some ⟨S,V0+3,none⟩) 1 (n-1)) rfl trivial ?_;refine ap 3 rfl λs i=>?_;go_simp;cases Xb with
 | none=>refine(U V1 _ _ _ (U Wn) (U N)).mono ?_;rintro _ Xf ⟨u,rfl⟩;exact⟨rfl,rfl,U G,ac (U N) u⟩
 | some V3=>
  refine(U V1 _ _ _ (U Wn) (U N)).mono ?_
  rintro _ Xf ⟨u,XO,Xd,rfl,VX,K⟩
  obtain⟨Q,V,rfl,Ww⟩:=K.exs
  obtain⟨Wf,Wd⟩:=al ((Xd.map Prod.fst).length)
  rw[<-Wd]
  have WM:=VV Wd
  have WP:=VV VX
  have M:=VV (ac (U N) u)
  have Wo:=VV (Tt.ab _ (U W3) u)
  have WT:=VV ((U WU).aa u)
  have WW:=VV (aQ (U Wm) u.size)
  have P:=VV (Ww.low (U Wm))
  clear u K Ww Wd VX
  go_simp
  refine aO i trivial ?_
  clear i s
  refine ap 6 rfl λs i=>?_
  go_simp
  cases Xc with
  | none=>
   refine(U O _ _ _ (U Wo) (U M)).mono ?_
   rintro _ D ⟨B,rfl⟩
   exact⟨rfl,rfl,U G,ac (U M) B⟩
  | some Wh=>
   refine(U O _ _ _ (U Wo) (U M)).mono ?_
   rintro _ D ⟨B,XP,Xe,rfl,VY,K⟩
   obtain⟨R,W,rfl,Wx⟩:=K.pls
   obtain⟨Wg,We⟩:=al ((Xe.map Prod.fst).length)
   rw[<-We]
   have WN:=VV We
   have WQ:=VV VY
   have WG:=VV (ac (U M) B)
   have e:=(U WT).aa B
   have WX:=VV ((U P).up B)
   have WY:=VV (Wx.low (U WW))
   clear B K Wx We VY P
   go_simp
   refine aO i trivial ?_
   clear i s
   refine ap 7 rfl λs i=>?_
   go_simp
   refine aO i trivial ?_
   clear i s
   obtain⟨Xg,Xy⟩:=e 0 _ rfl;obtain⟨Xh,Xz⟩:=e 1 _ rfl;obtain⟨Xj,XB⟩:=e 2 _ rfl;obtain⟨Xk,XC⟩:=e 3 _ rfl;obtain⟨Xl,XD⟩:=e 4 _ rfl;obtain⟨Xn,XE⟩:=e 5 _ rfl;obtain⟨Xo,XF⟩:=e 6 _ rfl;obtain⟨Xp,XG⟩:=e 7 _ rfl;obtain⟨Xq,XH⟩:=e 8 _ rfl;obtain⟨Xr,XI⟩:=e 9 _ rfl;obtain⟨Xi,XA⟩:=e 10 _ rfl
   clear e
   refine ap 8 rfl λs i=>?_
   go_simp
   refine aS i ?_
   clear i s
   refine fk ?_
   go_wp2
   refine aM (v:=.agg #[.int .i64 2,.string ⟨#[]⟩,.slice Q Wf V,.slice none 0 0,.slice none 0 0,.slice none 0 0,.int .i64 0,.int .i64 0,.int .i64 0,.int .i64 0,.slice R Wg W]) (by simp[results,results50,go_sem,Xg,Xh,Xj,Xk,Xl,Xn,Xo,Xp,Xq,Xr,Xi]) rfl ?_
   rw[show V2=PQ (some (.mk 2 ⟨#[]⟩ V3 [] [] [] 0 0 0 0 Wh)) a from U G]
   have VX:=U WP
   have VY:=U WQ
   subst VX VY
   have XM:=U WK
   have Wi:=λ(Wp:World->Prop) (P:Hid (SK (SN l.heap.size D) D Wp))=>(show SK _ _ Wp from((U P).mono (T:=λw=>a.heap.size+1+1<=w/\w<D.heap.size) λw Z=>⟨by have:=Z.1;omega,Z.2⟩).kept (bR D (a.heap.size+1) (.int .i64 2) (.string ⟨#[]⟩) (.slice Q Wf V) (.slice none 0 0) (.slice none 0 0) (.slice none 0 0) (.int .i64 0) (.int .i64 0) (.int .i64 0) (.int .i64 0) (.slice R Wg W)) (T:=λw=>a.heap.size<=w/\w<((((((((((((D.setCell ⟨a.heap.size+1,0,none⟩ (.int .i64 2)).setCell ⟨a.heap.size+1,1,none⟩ (.string ⟨#[]⟩)).setCell ⟨a.heap.size+1,2,none⟩ (.slice Q Wf V)).setCell ⟨a.heap.size+1,3,none⟩ (.slice none 0 0)).setCell ⟨a.heap.size+1,4,none⟩ (.slice none 0 0)).setCell ⟨a.heap.size+1,5,none⟩ (.slice none 0 0)).setCell ⟨a.heap.size+1,6,none⟩ (.int .i64 0)).setCell ⟨a.heap.size+1,7,none⟩ (.int .i64 0)).setCell ⟨a.heap.size+1,8,none⟩ (.int .i64 0)).setCell ⟨a.heap.size+1,9,none⟩ (.int .i64 0)).setCell ⟨a.heap.size+1,10,none⟩ (.slice R Wg W))).heap.size) λw Z=>⟨by omega,be Z.2 (by simp)⟩)
   have W7:=Wi _ WX
   have J:=Wi _ WY
   refine⟨aJ (U WG) (Nat.le_succ _) _ _ _ _ _ _ _ _ _ _ _,⟨Q,V,none,0,none,0,none,0,R,W⟩,by rw[U WM,U WN];rfl,?_⟩
   exact λc X=>⟨⟨W7 c X,.inl rfl,.inl rfl,.inl rfl,aV⟩,J c X⟩
theorem o6(b:Tt)(Wy:b.fin)(g:Option Addr)(t:Nat)(a:World)(Wr:Tt.all a g b.l)(V4:GT a)(m:List Tt)(Wb:bB aX b=some (4,m))(VW:m.length=3)  (Wk:∀d,Bw a d->∀(VZ:Nat) (k:Tt),m[VZ]?=some k->∀(y:Option Addr) (I:Nat) (c:World),Tt.all c y k.l->Bw d c->Calls prog 50 #[k.val y I] c (PQ (b9 k) c)):Calls prog 50 #[b.val g t] a (PQ (bm 4 m (m.map b9)) a):=by
 obtain⟨V2,V5⟩:=al (PQ (bm 4 m (m.map b9)) a);rw[<-V5];have Wl:=VV V5;have Wa:=Tt.af Wy;obtain⟨l,q⟩:=bq ((a.alloc (.cells #[.int .i64 b.k,.string b.s,.slice g b.l.length (b.l.length+t)] 51)).alloc (.cells #[.int .i64 0,.string ⟨#[]⟩,.slice none 0 0,.slice none 0 0,.slice none 0 0,.slice none 0 0,.int .i64 0,.int .i64 0,.int .i64 0,.int .i64 0,.slice none 0 0] 28));have r:=ae (ar _ a) (.cells #[.int .i64 b.k,.string b.s,.slice g b.l.length (b.l.length+t)] 51);have Y:Bw a l:=by rw[<-q];exact ae r _
 have Wv:bp l (a.heap.size+1) VT:=by rw[<-q];have:=bp.new (a.alloc (.cells #[.int .i64 b.k,.string b.s,.slice g b.l.length (b.l.length+t)] 51)) VT 28;simpa using this
 have WR:=VV Wv;have WK:Hid (a.heap.size+1<l.heap.size):=by show _<_;rw[<-q];simp
 have Xv:l.cell? ⟨a.heap.size,0,none⟩=some (.int .i64 b.k):=by rw[<-q];simp[go_sem]
 have Xw:l.cell? ⟨a.heap.size,1,none⟩=some (.string b.s):=by rw[<-q];simp[go_sem]
 have Xx:l.cell? ⟨a.heap.size,2,none⟩=some (.slice g b.l.length (b.l.length+t)):=by rw[<-q];simp[go_sem]
 have WE:=VV Y;have WZ:=VV q;have F:=bM bE aX aZ (by decide) (by decide) (ascii_of_all (by decide)) b Wa.2.1 g t l (Tt.ab _ Wr Y) (V4.aa Y);unfold bE at F;rw[Wb,Tt.ad] at F;have F:=VV F;have WO:=VV λ(c:World)=>b5 4 (by decide) c;have Wj:=VV Wk;obtain⟨XT,Wz,_⟩:=cd Wb;have V9:=Wa.2.2;rw[Wz,Tt.ah] at V9;have WI:=VV V9.2;have WJ:=VV λ(c:World) (X:Bw a c)=>V4.aa X;have WL:=VV VW;rw[Tt.ad];generalize b.l.length+t=Xu at *;generalize b.l.length=XN at *;clear Y r Wv V5 q Wk V4 Wr Wb Wy Wa Wz V9
 obtain⟨f,j,W8⟩:∃f j,m=f::j:=by
  cases m with
  | nil=>cases VW
  | cons f j=>exact⟨f,j,rfl⟩
 subst W8;have W9:j.length=2:=by rw[a1] at VW;omega
 have V8:=(U WI);rw[Tt.ah] at V8;have WH:=VV V8.1;have V1:Hid (∀(o:Option Addr) (p:Nat) (d:World),Tt.all d o [f]->Bw a d->Calls prog 97 #[.slice o 1 p,.func (.func 98) #[] #[]] d (g5 ej Prod.fst (a6 eG [f]) d)):=λo p d A V7=>ff eG [f] (by simp) o p d A λVZ k Wc y I x J V6=>by(have Xa:k=f:=by have:=a8 Wc;simpa using this);subst Xa;exact gf k.size k aV (U WH) y I x J (U WJ x (ac V7 V6))
 have O:=VV λ(o:Option Addr) (p:Nat) (d:World) (A:Tt.all d o j) (V7:Bw a d)=>db b9 j (by omega) o p d A λVZ k Wc y I x J V6=>U Wj d V7 (VZ+1) k (by simpa using Wc) y I x J V6;rw[W9] at O;have G:Hid (V2=PQ ((a6 eG [f]).bind λV3=>(a6 b9 j).map λWh=>.mk 4 ⟨#[]⟩ V3 [] [] [] 0 0 0 0 Wh) a):=by have:=U Wl;rw[cu b9];exact this
 obtain⟨Xb,Wt⟩:=al (a6 eG [f]);obtain⟨Xc,Wu⟩:=al (a6 b9 j);rw[<-Wt] at V1 G;rw[<-Wu] at O G;have W0:Hid (∀(c:World) (g:Option Addr),Tt.all c g (f::j)->∃z C,g=some ⟨z,C,none⟩/\Tt.all c (some ⟨z,C,none⟩) [f]/\Tt.all c (some ⟨z,C+3,none⟩) j):=λc g h=>by rw[Tt.all] at h;obtain⟨z,C,rfl,W5,W6⟩:=h;exact⟨z,C,rfl,(by rw[Tt.all];exact⟨z,C,rfl,W5,by rw[Tt.all];trivial⟩),W6⟩
 clear Wl Wj Wt Wu VW V8;go_enter func50,ntmps50;go_upto_region 1 with fail;rw[U WZ]
 go_upto_region 9 with (first
  | (go_at_call 93;refine(U F).mono ?_;rintro WC XR ⟨r,o,p,rfl,A⟩;simp only[U WL];have WD:=VV (Tt.ab _ A r);have WF:=VV (ac (U WE) r);have WS:=VV ((U WR).aa r);have WV:=VV r.size;obtain⟨S,V0,rfl,WA,WB⟩:=U W0 _ _ (U WD);have W1:=VV WA;have W2:=VV WB;clear r A WA WB)
  | (go_at_call 95;refine(U WO _).mono ?_;rintro WC L ⟨rfl,rfl⟩)
  | (go_at_call 94;refine(bc _).mono ?_;rintro WC L ⟨rfl,rfl⟩))
 obtain⟨n,Wq⟩:=al (3+p);rw[<-Wq];have XJ:¬n=1:=by omega
 have XK:3<=n:=by omega
 have XL:¬(n:Int)<1:=by omega
 have Xs:Hid (n-1=2+p):=by show _=_;omega
 clear Wq;have E:Hid (Bw L L.drew):=(aN).drew;have N:=VV (ac (U WF) (U E));have Wn:=VV (Tt.ab _ (U W1) (U E));have W3:=VV (Tt.ab _ (U W2) (U E));have WU:=VV ((U WS).aa (U E));have Wm:Hid (l.heap.size<=L.drew.heap.size):=aQ (U WV) (U E).size;refine dR (λx=>V2=PQ none a/\Bw a x) (λXt XS W4 Ws=>?_) (λ_:World=>True) 8 ?_;.refine⟨W4,?_⟩;rw[Ws.1];exact⟨Ws.2,rfl⟩
 refine VS 0 (.int .i64 4) rfl trivial ?_;refine VS 1 (.slice (some ⟨S,V0,none⟩) 3 n) rfl trivial ?_;refine VS 2 (.slice (some ⟨S,V0,none⟩) 1 n) rfl trivial ?_;refine VS 4 (.slice (some ⟨S,V0,none⟩) 3 n) rfl trivial ?_;refine VS 5 (.slice (some ⟨S,V0+3,none⟩) 2 (n-1)) rfl trivial ?_;refine ap 3 rfl λs i=>?_;go_simp;cases Xb with
 | none=>refine(U V1 _ _ _ (U Wn) (U N)).mono ?_;rintro _ Xf ⟨u,rfl⟩;exact⟨rfl,rfl,U G,ac (U N) u⟩
 | some V3=>
  refine(U V1 _ _ _ (U Wn) (U N)).mono ?_
  rintro _ Xf ⟨u,XO,Xd,rfl,VX,K⟩
  obtain⟨Q,V,rfl,Ww⟩:=K.exs
  obtain⟨Wf,Wd⟩:=al ((Xd.map Prod.fst).length)
  rw[<-Wd]
  have WM:=VV Wd
  have WP:=VV VX
  have M:=VV (ac (U N) u)
  have Wo:=VV (Tt.ab _ (U W3) u)
  have WT:=VV ((U WU).aa u)
  have WW:=VV (aQ (U Wm) u.size)
  have P:=VV (Ww.low (U Wm))
  clear u K Ww Wd VX
  go_simp
  refine aO i trivial ?_
  clear i s
  refine ap 6 rfl λs i=>?_
  go_simp
  cases Xc with
  | none=>
   refine(U O _ _ _ (U Wo) (U M)).mono ?_
   rintro _ D ⟨B,rfl⟩
   exact⟨rfl,rfl,U G,ac (U M) B⟩
  | some Wh=>
   refine(U O _ _ _ (U Wo) (U M)).mono ?_
   rintro _ D ⟨B,XP,Xe,rfl,VY,K⟩
   obtain⟨R,W,rfl,Wx⟩:=K.pls
   obtain⟨Wg,We⟩:=al ((Xe.map Prod.fst).length)
   rw[<-We]
   have WN:=VV We
   have WQ:=VV VY
   have WG:=VV (ac (U M) B)
   have e:=(U WT).aa B
   have WX:=VV ((U P).up B)
   have WY:=VV (Wx.low (U WW))
   clear B K Wx We VY P
   go_simp
   refine aO i trivial ?_
   clear i s
   refine ap 7 rfl λs i=>?_
   go_simp
   refine aO i trivial ?_
   clear i s
   obtain⟨Xg,Xy⟩:=e 0 _ rfl;obtain⟨Xh,Xz⟩:=e 1 _ rfl;obtain⟨Xj,XB⟩:=e 2 _ rfl;obtain⟨Xk,XC⟩:=e 3 _ rfl;obtain⟨Xl,XD⟩:=e 4 _ rfl;obtain⟨Xn,XE⟩:=e 5 _ rfl;obtain⟨Xo,XF⟩:=e 6 _ rfl;obtain⟨Xp,XG⟩:=e 7 _ rfl;obtain⟨Xq,XH⟩:=e 8 _ rfl;obtain⟨Xr,XI⟩:=e 9 _ rfl;obtain⟨Xi,XA⟩:=e 10 _ rfl
   clear e
   refine ap 8 rfl λs i=>?_
   go_simp
   refine aS i ?_
   clear i s
   refine fk ?_
   go_wp2
   refine aM (v:=.agg #[.int .i64 4,.string ⟨#[]⟩,.slice Q Wf V,.slice none 0 0,.slice none 0 0,.slice none 0 0,.int .i64 0,.int .i64 0,.int .i64 0,.int .i64 0,.slice R Wg W]) (by simp[results,results50,go_sem,Xg,Xh,Xj,Xk,Xl,Xn,Xo,Xp,Xq,Xr,Xi]) rfl ?_
   rw[show V2=PQ (some (.mk 4 ⟨#[]⟩ V3 [] [] [] 0 0 0 0 Wh)) a from U G]
   have VX:=U WP
   have VY:=U WQ
   subst VX VY
   have XM:=U WK
   have Wi:=λ(Wp:World->Prop) (P:Hid (SK (SN l.heap.size D) D Wp))=>(show SK _ _ Wp from((U P).mono (T:=λw=>a.heap.size+1+1<=w/\w<D.heap.size) λw Z=>⟨by have:=Z.1;omega,Z.2⟩).kept (bR D (a.heap.size+1) (.int .i64 4) (.string ⟨#[]⟩) (.slice Q Wf V) (.slice none 0 0) (.slice none 0 0) (.slice none 0 0) (.int .i64 0) (.int .i64 0) (.int .i64 0) (.int .i64 0) (.slice R Wg W)) (T:=λw=>a.heap.size<=w/\w<((((((((((((D.setCell ⟨a.heap.size+1,0,none⟩ (.int .i64 4)).setCell ⟨a.heap.size+1,1,none⟩ (.string ⟨#[]⟩)).setCell ⟨a.heap.size+1,2,none⟩ (.slice Q Wf V)).setCell ⟨a.heap.size+1,3,none⟩ (.slice none 0 0)).setCell ⟨a.heap.size+1,4,none⟩ (.slice none 0 0)).setCell ⟨a.heap.size+1,5,none⟩ (.slice none 0 0)).setCell ⟨a.heap.size+1,6,none⟩ (.int .i64 0)).setCell ⟨a.heap.size+1,7,none⟩ (.int .i64 0)).setCell ⟨a.heap.size+1,8,none⟩ (.int .i64 0)).setCell ⟨a.heap.size+1,9,none⟩ (.int .i64 0)).setCell ⟨a.heap.size+1,10,none⟩ (.slice R Wg W))).heap.size) λw Z=>⟨by omega,be Z.2 (by simp)⟩)
   have W7:=Wi _ WX
   have J:=Wi _ WY
   refine⟨aJ (U WG) (Nat.le_succ _) _ _ _ _ _ _ _ _ _ _ _,⟨Q,V,none,0,none,0,none,0,R,W⟩,by rw[U WM,U WN];rfl,?_⟩
   exact λc X=>⟨⟨W7 c X,.inl rfl,.inl rfl,.inl rfl,aV⟩,J c X⟩
theorem o5(b:Tt)(Wy:b.fin)(g:Option Addr)(t:Nat)(a:World)(Wr:Tt.all a g b.l)(V4:GT a)(m:List Tt)(Wb:bB aX b=some (5,m))(VW:m.length=3)  (Wk:∀d,Bw a d->∀(VZ:Nat) (k:Tt),m[VZ]?=some k->∀(y:Option Addr) (I:Nat) (c:World),Tt.all c y k.l->Bw d c->Calls prog 50 #[k.val y I] c (PQ (b9 k) c)):Calls prog 50 #[b.val g t] a (PQ (bm 5 m (m.map b9)) a):=by
 obtain⟨V2,V5⟩:=al (PQ (bm 5 m (m.map b9)) a);rw[<-V5];have Wl:=VV V5;have Wa:=Tt.af Wy;obtain⟨l,q⟩:=bq ((a.alloc (.cells #[.int .i64 b.k,.string b.s,.slice g b.l.length (b.l.length+t)] 51)).alloc (.cells #[.int .i64 0,.string ⟨#[]⟩,.slice none 0 0,.slice none 0 0,.slice none 0 0,.slice none 0 0,.int .i64 0,.int .i64 0,.int .i64 0,.int .i64 0,.slice none 0 0] 28));have r:=ae (ar _ a) (.cells #[.int .i64 b.k,.string b.s,.slice g b.l.length (b.l.length+t)] 51);have Y:Bw a l:=by rw[<-q];exact ae r _
 have Wv:bp l (a.heap.size+1) VT:=by rw[<-q];have:=bp.new (a.alloc (.cells #[.int .i64 b.k,.string b.s,.slice g b.l.length (b.l.length+t)] 51)) VT 28;simpa using this
 have WR:=VV Wv;have WK:Hid (a.heap.size+1<l.heap.size):=by show _<_;rw[<-q];simp
 have Xv:l.cell? ⟨a.heap.size,0,none⟩=some (.int .i64 b.k):=by rw[<-q];simp[go_sem]
 have Xw:l.cell? ⟨a.heap.size,1,none⟩=some (.string b.s):=by rw[<-q];simp[go_sem]
 have Xx:l.cell? ⟨a.heap.size,2,none⟩=some (.slice g b.l.length (b.l.length+t)):=by rw[<-q];simp[go_sem]
 have WE:=VV Y;have WZ:=VV q;have F:=bM bE aX aZ (by decide) (by decide) (ascii_of_all (by decide)) b Wa.2.1 g t l (Tt.ab _ Wr Y) (V4.aa Y);unfold bE at F;rw[Wb,Tt.ad] at F;have F:=VV F;have WO:=VV λ(c:World)=>b5 5 (by decide) c;have Wj:=VV Wk;obtain⟨XT,Wz,_⟩:=cd Wb;have V9:=Wa.2.2;rw[Wz,Tt.ah] at V9;have WI:=VV V9.2;have WJ:=VV λ(c:World) (X:Bw a c)=>V4.aa X;have WL:=VV VW;rw[Tt.ad];generalize b.l.length+t=Xu at *;generalize b.l.length=XN at *;clear Y r Wv V5 q Wk V4 Wr Wb Wy Wa Wz V9
 obtain⟨f,j,W8⟩:∃f j,m=f::j:=by
  cases m with
  | nil=>cases VW
  | cons f j=>exact⟨f,j,rfl⟩
 subst W8;have W9:j.length=2:=by rw[a1] at VW;omega
 have V8:=(U WI);rw[Tt.ah] at V8;have WH:=VV V8.1;have V1:Hid (∀(o:Option Addr) (p:Nat) (d:World),Tt.all d o [f]->Bw a d->Calls prog 97 #[.slice o 1 p,.func (.func 98) #[] #[]] d (g5 ej Prod.fst (a6 eG [f]) d)):=λo p d A V7=>ff eG [f] (by simp) o p d A λVZ k Wc y I x J V6=>by(have Xa:k=f:=by have:=a8 Wc;simpa using this);subst Xa;exact gf k.size k aV (U WH) y I x J (U WJ x (ac V7 V6))
 have O:=VV λ(o:Option Addr) (p:Nat) (d:World) (A:Tt.all d o j) (V7:Bw a d)=>db b9 j (by omega) o p d A λVZ k Wc y I x J V6=>U Wj d V7 (VZ+1) k (by simpa using Wc) y I x J V6;rw[W9] at O;have G:Hid (V2=PQ ((a6 eG [f]).bind λV3=>(a6 b9 j).map λWh=>.mk 5 ⟨#[]⟩ V3 [] [] [] 0 0 0 0 Wh) a):=by have:=U Wl;rw[cu b9];exact this
 obtain⟨Xb,Wt⟩:=al (a6 eG [f]);obtain⟨Xc,Wu⟩:=al (a6 b9 j);rw[<-Wt] at V1 G;rw[<-Wu] at O G;have W0:Hid (∀(c:World) (g:Option Addr),Tt.all c g (f::j)->∃z C,g=some ⟨z,C,none⟩/\Tt.all c (some ⟨z,C,none⟩) [f]/\Tt.all c (some ⟨z,C+3,none⟩) j):=λc g h=>by rw[Tt.all] at h;obtain⟨z,C,rfl,W5,W6⟩:=h;exact⟨z,C,rfl,(by rw[Tt.all];exact⟨z,C,rfl,W5,by rw[Tt.all];trivial⟩),W6⟩
 clear Wl Wj Wt Wu VW V8;go_enter func50,ntmps50;go_upto_region 1 with fail;rw[U WZ]
 go_upto_region 9 with (first
  | (go_at_call 93;refine(U F).mono ?_;rintro WC XR ⟨r,o,p,rfl,A⟩;simp only[U WL];have WD:=VV (Tt.ab _ A r);have WF:=VV (ac (U WE) r);have WS:=VV ((U WR).aa r);have WV:=VV r.size;obtain⟨S,V0,rfl,WA,WB⟩:=U W0 _ _ (U WD);have W1:=VV WA;have W2:=VV WB;clear r A WA WB)
  | (go_at_call 95;refine(U WO _).mono ?_;rintro WC L ⟨rfl,rfl⟩)
  | (go_at_call 94;refine(bc _).mono ?_;rintro WC L ⟨rfl,rfl⟩))
 obtain⟨n,Wq⟩:=al (3+p);rw[<-Wq];have XJ:¬n=1:=by omega
 have XK:3<=n:=by omega
 have XL:¬(n:Int)<1:=by omega
 have Xs:Hid (n-1=2+p):=by show _=_;omega
 clear Wq;have E:Hid (Bw L L.drew):=(aN).drew;have N:=VV (ac (U WF) (U E));have Wn:=VV (Tt.ab _ (U W1) (U E));have W3:=VV (Tt.ab _ (U W2) (U E));have WU:=VV ((U WS).aa (U E));have Wm:Hid (l.heap.size<=L.drew.heap.size):=aQ (U WV) (U E).size;refine dR (λx=>V2=PQ none a/\Bw a x) (λXt XS W4 Ws=>?_) (λ_:World=>True) 8 ?_;.refine⟨W4,?_⟩;rw[Ws.1];exact⟨Ws.2,rfl⟩
 refine VS 0 (.int .i64 5) rfl trivial ?_;refine VS 1 (.slice (some ⟨S,V0,none⟩) 3 n) rfl trivial ?_;refine VS 2 (.slice (some ⟨S,V0,none⟩) 1 n) rfl trivial ?_;refine VS 4 (.slice (some ⟨S,V0,none⟩) 3 n) rfl trivial ?_;refine VS 5 (.slice (some ⟨S,V0+3,none⟩) 2 (n-1)) rfl trivial ?_;refine ap 3 rfl λs i=>?_;go_simp;cases Xb with
 | none=>refine(U V1 _ _ _ (U Wn) (U N)).mono ?_;rintro _ Xf ⟨u,rfl⟩;exact⟨rfl,rfl,U G,ac (U N) u⟩
 | some V3=>
  refine(U V1 _ _ _ (U Wn) (U N)).mono ?_
  rintro _ Xf ⟨u,XO,Xd,rfl,VX,K⟩
  obtain⟨Q,V,rfl,Ww⟩:=K.exs
  obtain⟨Wf,Wd⟩:=al ((Xd.map Prod.fst).length)
  rw[<-Wd]
  have WM:=VV Wd
  have WP:=VV VX
  have M:=VV (ac (U N) u)
  have Wo:=VV (Tt.ab _ (U W3) u)
  have WT:=VV ((U WU).aa u)
  have WW:=VV (aQ (U Wm) u.size)
  have P:=VV (Ww.low (U Wm))
  clear u K Ww Wd VX
  go_simp
  refine aO i trivial ?_
  clear i s
  refine ap 6 rfl λs i=>?_
  go_simp
  cases Xc with
  | none=>
   refine(U O _ _ _ (U Wo) (U M)).mono ?_
   rintro _ D ⟨B,rfl⟩
   exact⟨rfl,rfl,U G,ac (U M) B⟩
  | some Wh=>
   refine(U O _ _ _ (U Wo) (U M)).mono ?_
   rintro _ D ⟨B,XP,Xe,rfl,VY,K⟩
   obtain⟨R,W,rfl,Wx⟩:=K.pls
   obtain⟨Wg,We⟩:=al ((Xe.map Prod.fst).length)
   rw[<-We]
   have WN:=VV We
   have WQ:=VV VY
   have WG:=VV (ac (U M) B)
   have e:=(U WT).aa B
   have WX:=VV ((U P).up B)
   have WY:=VV (Wx.low (U WW))
   clear B K Wx We VY P
   go_simp
   refine aO i trivial ?_
   clear i s
   refine ap 7 rfl λs i=>?_
   go_simp
   refine aO i trivial ?_
   clear i s
   obtain⟨Xg,Xy⟩:=e 0 _ rfl;obtain⟨Xh,Xz⟩:=e 1 _ rfl;obtain⟨Xj,XB⟩:=e 2 _ rfl;obtain⟨Xk,XC⟩:=e 3 _ rfl;obtain⟨Xl,XD⟩:=e 4 _ rfl;obtain⟨Xn,XE⟩:=e 5 _ rfl;obtain⟨Xo,XF⟩:=e 6 _ rfl;obtain⟨Xp,XG⟩:=e 7 _ rfl;obtain⟨Xq,XH⟩:=e 8 _ rfl;obtain⟨Xr,XI⟩:=e 9 _ rfl;obtain⟨Xi,XA⟩:=e 10 _ rfl
   clear e
   refine ap 8 rfl λs i=>?_
   go_simp
   refine aS i ?_
   clear i s
   refine fk ?_
   go_wp2
   refine aM (v:=.agg #[.int .i64 5,.string ⟨#[]⟩,.slice Q Wf V,.slice none 0 0,.slice none 0 0,.slice none 0 0,.int .i64 0,.int .i64 0,.int .i64 0,.int .i64 0,.slice R Wg W]) (by simp[results,results50,go_sem,Xg,Xh,Xj,Xk,Xl,Xn,Xo,Xp,Xq,Xr,Xi]) rfl ?_
   rw[show V2=PQ (some (.mk 5 ⟨#[]⟩ V3 [] [] [] 0 0 0 0 Wh)) a from U G]
   have VX:=U WP
   have VY:=U WQ
   subst VX VY
   have XM:=U WK
   have Wi:=λ(Wp:World->Prop) (P:Hid (SK (SN l.heap.size D) D Wp))=>(show SK _ _ Wp from((U P).mono (T:=λw=>a.heap.size+1+1<=w/\w<D.heap.size) λw Z=>⟨by have:=Z.1;omega,Z.2⟩).kept (bR D (a.heap.size+1) (.int .i64 5) (.string ⟨#[]⟩) (.slice Q Wf V) (.slice none 0 0) (.slice none 0 0) (.slice none 0 0) (.int .i64 0) (.int .i64 0) (.int .i64 0) (.int .i64 0) (.slice R Wg W)) (T:=λw=>a.heap.size<=w/\w<((((((((((((D.setCell ⟨a.heap.size+1,0,none⟩ (.int .i64 5)).setCell ⟨a.heap.size+1,1,none⟩ (.string ⟨#[]⟩)).setCell ⟨a.heap.size+1,2,none⟩ (.slice Q Wf V)).setCell ⟨a.heap.size+1,3,none⟩ (.slice none 0 0)).setCell ⟨a.heap.size+1,4,none⟩ (.slice none 0 0)).setCell ⟨a.heap.size+1,5,none⟩ (.slice none 0 0)).setCell ⟨a.heap.size+1,6,none⟩ (.int .i64 0)).setCell ⟨a.heap.size+1,7,none⟩ (.int .i64 0)).setCell ⟨a.heap.size+1,8,none⟩ (.int .i64 0)).setCell ⟨a.heap.size+1,9,none⟩ (.int .i64 0)).setCell ⟨a.heap.size+1,10,none⟩ (.slice R Wg W))).heap.size) λw Z=>⟨by omega,be Z.2 (by simp)⟩)
   have W7:=Wi _ WX
   have J:=Wi _ WY
   refine⟨aJ (U WG) (Nat.le_succ _) _ _ _ _ _ _ _ _ _ _ _,⟨Q,V,none,0,none,0,none,0,R,W⟩,by rw[U WM,U WN];rfl,?_⟩
   exact λc X=>⟨⟨W7 c X,.inl rfl,.inl rfl,.inl rfl,aV⟩,J c X⟩
theorem m0(a:Tt)(q:a.fin)(e:Option Addr)(f:Nat)(b:World)(m:Tt.all b e a.l)(k:GT b)(o:bB aX a=none):Calls prog 50 #[a.val e f] b (PQ none b):=by
 obtain⟨z,l⟩:=al (PQ none b);rw[<-l];have s:=VV l;have n:=Tt.af q;obtain⟨d,c⟩:=bq ((b.alloc (.cells #[.int .i64 a.k,.string a.s,.slice e a.l.length (a.l.length+f)] 51)).alloc (.cells #[.int .i64 0,.string ⟨#[]⟩,.slice none 0 0,.slice none 0 0,.slice none 0 0,.slice none 0 0,.int .i64 0,.int .i64 0,.int .i64 0,.int .i64 0,.slice none 0 0] 28));have i:=ae (ar _ b) (.cells #[.int .i64 a.k,.string a.s,.slice e a.l.length (a.l.length+f)] 51);have j:Bw b d:=by rw[<-c];exact ae i _
 have p:bp d (b.heap.size+1) VT:=by rw[<-c];have:=bp.new (b.alloc (.cells #[.int .i64 a.k,.string a.s,.slice e a.l.length (a.l.length+f)] 51)) VT 28;simpa using this
 have y:=VV p;have x:Hid (b.heap.size+1<d.heap.size):=by show _<_;rw[<-c];simp
 have B:d.cell? ⟨b.heap.size,0,none⟩=some (.int .i64 a.k):=by rw[<-c];simp[go_sem]
 have C:d.cell? ⟨b.heap.size,1,none⟩=some (.string a.s):=by rw[<-c];simp[go_sem]
 have D:d.cell? ⟨b.heap.size,2,none⟩=some (.slice e a.l.length (a.l.length+f)):=by rw[<-c];simp[go_sem]
 have r:=VV j;have t:=VV c;have g:=bM bE aX aZ (by decide) (by decide) (ascii_of_all (by decide)) a n.2.1 e f d (Tt.ab _ m j) (k.aa j);unfold bE at g;rw[o,Tt.ad] at g;have g:=VV g;have w:=VV λ(u:World) (v:Bw b u)=>k.aa v;rw[Tt.ad];generalize a.l.length+f=A at *;generalize a.l.length=E at *;clear j i p l c k m o q n;go_enter func50,ntmps50;go_upto_region 1 with fail;rw[U t];go_wp2_with (go_at_call 93;refine(U g).mono ?_;rintro F G ⟨i,rfl⟩);refine⟨rfl,?_⟩;rw[U s];exact⟨ac (U r) i,rfl⟩
theorem mZ(a:Tt)(A:a.fin)(g:Option Addr)(i:Nat)(b:World)(v:Tt.all b g a.l)(o:GT b)(s:List Tt)(c:Int)(q:bB aX a=some (c,s))(j:¬(c=8∨(s.length:Int)=bN c)):Calls prog 50 #[a.val g i] b (PQ none b):=by
 obtain⟨W,p⟩:=al (PQ none b);rw[<-p];have F:=VV p;have x:=Tt.af A;obtain⟨f,d⟩:=bq ((b.alloc (.cells #[.int .i64 a.k,.string a.s,.slice g a.l.length (a.l.length+i)] 51)).alloc (.cells #[.int .i64 0,.string ⟨#[]⟩,.slice none 0 0,.slice none 0 0,.slice none 0 0,.slice none 0 0,.int .i64 0,.int .i64 0,.int .i64 0,.int .i64 0,.slice none 0 0] 28));have e:=ae (ar _ b) (.cells #[.int .i64 a.k,.string a.s,.slice g a.l.length (a.l.length+i)] 51);have m:Bw b f:=by rw[<-d];exact ae e _
 have z:bp f (b.heap.size+1) VT:=by rw[<-d];have:=bp.new (b.alloc (.cells #[.int .i64 a.k,.string a.s,.slice g a.l.length (a.l.length+i)] 51)) VT 28;simpa using this
 have G:=VV z;have S:Hid (b.heap.size+1<f.heap.size):=by show _<_;rw[<-d];simp
 have VW:f.cell? ⟨b.heap.size,0,none⟩=some (.int .i64 a.k):=by rw[<-d];simp[go_sem]
 have VX:f.cell? ⟨b.heap.size,1,none⟩=some (.string a.s):=by rw[<-d];simp[go_sem]
 have VY:f.cell? ⟨b.heap.size,2,none⟩=some (.slice g a.l.length (a.l.length+i)):=by rw[<-d];simp[go_sem]
 have C:=VV m;have I:=VV d;have l:=bM bE aX aZ (by decide) (by decide) (ascii_of_all (by decide)) a x.2.1 g i f (Tt.ab _ v m) (o.aa m);unfold bE at l;rw[q,Tt.ad] at l;have l:=VV l;obtain⟨P,M,k⟩:=cd q;have y:1<=c/\c<=12:=by unfold bW at k;split at k;(.injection k with k;have:=dC aX P.s;(have K:aX.length=12:=by kernel_rfl);rw[K] at this;omega);.cases k
 have t:=VV λ(n:World)=>b5 c y n;obtain⟨N,r⟩:=bq s.length;have E:=VV r;rw[r] at j;obtain⟨J,u⟩:=al (bN c);rw[<-u] at t j;have VZ:(c == 8)=false:=by simp;exact λh=>j (.inl h)
 have V0:((N:Int) == J)=false:=by simp;exact λh=>j (.inr h)
 have V1:¬c=8:=λh=>j (.inl h);have R:=VV λ(n:World) (L:Bw b n)=>o.aa L;rw[Tt.ad];generalize a.l.length+i=Z at *;generalize a.l.length=V2 at *;clear m e z p d o v q A x M k y u j r;go_enter func50,ntmps50;go_upto_region 1 with fail;rw[U I]
 go_wp2_with (first
  | (go_at_call 93;refine(U l).mono ?_;rintro B V3 ⟨e,X,Y,rfl,w⟩;simp only[U E];have Q:=VV (Tt.ab _ w e);have D:=VV (ac (U C) e);have T:=VV ((U G).aa e);have V:=VV e.size;clear e w)
  | (go_at_call 95;refine(U t _).mono ?_;rintro B O ⟨rfl,rfl⟩)
  | (go_at_call 94;refine(cx _).mono ?_;rintro B O ⟨rfl,rfl⟩))
 refine⟨rfl,?_⟩;rw[U F];exact⟨U D,rfl⟩
end Go.Proofs.YtabmgpillccfaaaGreatDoor
