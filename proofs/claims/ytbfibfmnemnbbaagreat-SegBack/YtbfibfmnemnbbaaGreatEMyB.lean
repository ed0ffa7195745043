import Derived.Test.YtbfibfmnemnbbaaGreatEAnyG
import Derived.Test.YtbfibfmnemnbbaaGreatEPaI
set_option linter.unusedSimpArgs false
set_option linter.unusedVariables false
set_option maxHeartbeats 4000000
set_option maxRecDepth 100000
namespace Go.Proofs.YtbfibfmnemnbbaaGreat.E
open Go.RowKit Go.Sort
structure Hd where
 rows:Int
 low:List Val
 high:List Val
 nulls:List Int
structure Hm where
 aL:Option Addr
 cL:Nat
 aH:Option Addr
 cH:Nat
 aN:Option Addr
 cN:Nat
def Hd.val(h:Hd)(m:Hm):Value:=.agg #[.int .i64 h.rows,.slice m.aL h.low.length m.cL,.slice m.aH h.high.length m.cH,.slice m.aN h.nulls.length m.cN]
theorem Hd.val_open(h:Hd)(m:Hm):h.val m=.agg #[.int .i64 h.rows,.slice m.aL h.low.length m.cL,.slice m.aH h.high.length m.cH,.slice m.aN h.nulls.length m.cN]:=rfl
abbrev Hd.box (h:Hd) (m:Hm):Obj:=.cells #[.int .i64 h.rows,.slice m.aL h.low.length m.cL,.slice m.aH h.high.length m.cH,.slice m.aN h.nulls.length m.cN] 39
def HdAt(w:World)(h:Hd)(m:Hm):Prop:=RowAt w m.aL h.low/\RowAt w m.aH h.high/\IntsAt w m.aN h.nulls
theorem HdAt.later{w w':World}{h:Hd}{m:Hm}(q:HdAt w h m)(hb:Below w.heap.size w w'):HdAt w' h m:=⟨q.1.later hb,q.2.1.later hb,q.2.2.later hb⟩
def Four(w:World)(b:Nat)(h:Hd)(m:Hm):Prop:=w.cell? ⟨b,0,none⟩=some (.int .i64 h.rows)/\w.cell? ⟨b,1,none⟩=some (.slice m.aL h.low.length m.cL)/\w.cell? ⟨b,2,none⟩=some (.slice m.aH h.high.length m.cH)/\w.cell? ⟨b,3,none⟩=some (.slice m.aN h.nulls.length m.cN)
theorem Four.later{w w':World}{b:Nat}{h:Hd}{m:Hm}(q:Four w b h m)(hb:Below w.heap.size w w'):Four w' b h m:=⟨clater q.1 hb,clater q.2.1 hb,clater q.2.2.1 hb,clater q.2.2.2 hb⟩
theorem Four.new(w:World)(h:Hd)(m:Hm):Four (w.alloc (h.box m)) w.heap.size h m:=⟨by simp[go_sem],by simp[go_sem],by simp[go_sem],by simp[go_sem]⟩
def soB(h:Hd)(op:Int)(x y:Ex):Bool:=if x.op != 1 || y.op != 2 then false else if nulV (h.low.getD x.n.toNat .null) || nulV y.v then true else outB op (ordV (h.low.getD x.n.toNat .null) y.v) (ordV (h.high.getD x.n.toNat .null) y.v)
def neverSo(h:Hd)(op:Int)(x y:Ex):Bool:=if x.op == 2 then soB h (turnI op) y x else soB h op x y
theorem getD_val{l:List Val}{n:Nat}(h:n<l.length):l[n]?=some (l.getD n .null):=by
 rw[List.getD_eq_getElem?_getD,List.getElem?_eq_getElem h]
 rfl
def Tri(w:World)(b:Nat)(v:Val):Prop:=w.cell? ⟨b,0,none⟩=some (.int .i64 v.k)/\w.cell? ⟨b,1,none⟩=some (.int .i64 v.n)/\w.cell? ⟨b,2,none⟩=some (.string v.s)
theorem Tri.later{w w':World}{b:Nat}{v:Val}(q:Tri w b v)(hb:Below w.heap.size w w'):Tri w' b v:=⟨clater q.1 hb,clater q.2.1 hb,clater q.2.2 hb⟩
theorem box6_store{w:World}{b:Nat}{e:Ex}{a:Option Addr}{c:Nat}(h:Box6 w b e a c)(f:Ex)(a':Option Addr)(c':Nat) :
  Box6 ((((((w.setCell ⟨b,0,none⟩ (.int .i64 f.op)).setCell ⟨b,1,none⟩ (.int .i64 f.n)).setCell ⟨b,2,none⟩ (.int .i64 f.v.k)).setCell ⟨b,3,none⟩ (.int .i64 f.v.n)).setCell ⟨b,4,none⟩ (.string f.v.s)).setCell ⟨b,5,none⟩ (.slice a' f.args.length c')) b f a' c':=by
 obtain⟨⟨z0,z1,z2,z3,z4,z5⟩,f0,f1,f2,f3,f4,f5⟩:=h
 refine⟨⟨?_,?_,?_,?_,?_,?_⟩,?_,?_,?_,?_,?_,?_⟩
 all_goals first
  | (simp only[frozen_set];assumption)
  | (simp[go_sem,z0,z1,z2,z3,z4,z5])
theorem box6_other{w:World}{b g:Nat}{e:Ex}{a:Option Addr}{c:Nat}(h:Box6 w b e a c)(hg:b≠g)(u0 u1 u2 u3 u4 u5:Value) :
  Box6 ((((((w.setCell ⟨g,0,none⟩ u0).setCell ⟨g,1,none⟩ u1).setCell ⟨g,2,none⟩ u2).setCell ⟨g,3,none⟩ u3).setCell ⟨g,4,none⟩ u4).setCell ⟨g,5,none⟩ u5) b e a c:=
 box_put (box_put (box_put (box_put (box_put (box_put h _ _ _ hg) _ _ _ hg) _ _ _ hg) _ _ _ hg) _ _ _ hg) _ _ _ hg
theorem Four.put{w:World}{b g o:Nat}{h:Hd}{m:Hm}(q:Four w b h m)(hg:b≠g)(u:Value):Four (w.setCell ⟨g,o,none⟩ u) b h m:=by
 have hne:∀o',(⟨b,o',none⟩:Addr)≠⟨g,o,none⟩:=fun o' e=>by injection e with e;exact hg e
 obtain⟨q0,q1,q2,q3⟩:=q
 exact⟨by rw[cell_set_ne _ _ _ _ _ _ (hne _)];exact q0,by rw[cell_set_ne _ _ _ _ _ _ (hne _)];exact q1,by rw[cell_set_ne _ _ _ _ _ _ (hne _)];exact q2,by rw[cell_set_ne _ _ _ _ _ _ (hne _)];exact q3⟩
theorem Four.put6{w:World}{b g:Nat}{h:Hd}{m:Hm}(q:Four w b h m)(hg:b≠g)(u0 u1 u2 u3 u4 u5:Value):Four ((((((w.setCell ⟨g,0,none⟩ u0).setCell ⟨g,1,none⟩ u1).setCell ⟨g,2,none⟩ u2).setCell ⟨g,3,none⟩ u3).setCell ⟨g,4,none⟩ u4).setCell ⟨g,5,none⟩ u5) b h m:=
 (((((q.put hg u0).put hg u1).put hg u2).put hg u3).put hg u4).put hg u5
theorem neverso_any(h:Hd)(m:Hm)(op:Int)(x y:Ex)(hxn:x.op=1->0<=x.n/\x.n<h.low.length/\x.n<h.high.length)(hyn:y.op=1->0<=y.n/\y.n<h.low.length/\y.n<h.high.length)(hl1:h.low.length<=140737488355328)(hl2:h.high.length<=140737488355328)(a b:Option Addr)(c d:Nat)(w:World)(hh:HdAt w h m) :
  Calls Tryz.prog 56 #[.int .i64 op,x.val a c,y.val b d,h.val m] w fun r w'=>r=.returned (.bool (neverSo h op x y))/\Below w.heap.size w w':=by
 obtain⟨wa,hwa⟩:∃wa,wa=((w.alloc (x.box a c)).alloc (y.box b d)).alloc (h.box m):=⟨_,rfl⟩
 have HBA:Hid (Below w.heap.size w wa):=by rw[hwa];exact below_alloc (below_alloc (below_alloc (Below.refl _ _) _) _) _
 have HX:Hid (Box6 wa w.heap.size x a c):=by rw[hwa];exact((Box6.new w x a c).later (below_alloc (Below.refl _ _) _)).later (below_alloc (Below.refl _ _) _)
 have hs1:(w.alloc (x.box a c)).heap.size=w.heap.size+1:=by simp[go_sem]
 have hs2:((w.alloc (x.box a c)).alloc (y.box b d)).heap.size=w.heap.size+2:=by simp[go_sem]
 have HY:Hid (Box6 wa (w.heap.size+1) y b d):=by
  have q:=Box6.new (w.alloc (x.box a c)) y b d
  rw[hs1] at q
  rw[hwa]
  exact q.later (below_alloc (Below.refl _ _) _)
 have HH:Hid (Four wa (w.heap.size+2) h m):=by
  have q:=Four.new ((w.alloc (x.box a c)).alloc (y.box b d)) h m
  rw[hs2] at q
  rw[hwa]
  exact q
 have HSA:Hid (wa.heap.size=w.heap.size+3):=by rw[hwa];show _=_;simp[go_sem]
 have HAT:=hide (fun (W:World) (hW:Below w.heap.size w W)=>hh.later hW)
 have HXN:=hide hxn
 have HYN:=hide hyn
 have HTU:=hide (fun W=>turned_any op W)
 obtain⟨R,hR⟩:∃R,R=neverSo h op x y:=⟨_,rfl⟩
 rw[<-hR]
 obtain⟨bb,hbb⟩:∃bb,(x.op == 2)=bb:=⟨_,rfl⟩
 have HR:Hid (R=if bb then soB h (turnI op) y x else soB h op x y):=by show _=_;rw[hR,<-hbb];rfl
 have HBB:=hide hbb
 generalize turnI op=top at *
 rw[Ex.val_open,Ex.val_open,Hd.val_open]
 unfold Ex.box Hd.box at hwa
 clear hh hs1 hs2 hR hbb hxn hyn
 go_enter Tryz.func56,Tryz.ntmps56
 go_upto_region 1 with fail
 rw[<-hwa]
 clear hwa
 obtain⟨⟨s0,s1,s2,s3,s4,s5⟩,f0,f1,f2,f3,f4,f5⟩:=unhide HX
 obtain⟨⟨t0,t1,t2,t3,t4,t5⟩,g0,g1,g2,g3,g4,g5⟩:=unhide HY
 go_upto_if 13 with fail
 rw[unhide HBB]
 go_cut[0] (fun s0 wr=>∃(opp:Int) (X Y:Ex) (aX aY:Option Addr) (cX cY:Nat),s0=.int .i64 opp/\Hid (Six wr w.heap.size X aX cX)/\Hid (Six wr (w.heap.size+1) Y aY cY)/\Hid (Four wr (w.heap.size+2) h m)/\Hid (R=soB h opp X Y)/\Hid (X.op=1->0<=X.n/\X.n<h.low.length/\X.n<h.high.length)/\Hid (Below w.heap.size w wr))
 case first=>
  cases bb with
  | false=>
   go_wp2
   go_meet
   exact⟨op,x,y,a,b,c,d,rfl,(unhide HX).1,(unhide HY).1,unhide HH,unhide HR,unhide HXN,unhide HBA⟩
  | true=>
   clear s0 s1 s2 s3 s4 s5 f0 f1 f2 f3 f4 f5 t0 t1 t2 t3 t4 t5 g0 g1 g2 g3 g4 g5
   go_upto_region 2 with fail
   have HS0:=hide ((Below.refl wa.heap.size wa).drew)
   refine wp_region_noPanic ?_
   refine wp_region_G (S:=fun w':World=>Below wa.heap.size wa w') (k:=5) (by kernel_rfl) ?_
   refine anyG_takel (i:=2) (v:=.agg #[.int .i64 y.op,.int .i64 y.n,.int .i64 y.v.k,.int .i64 y.v.n,.string y.v.s,.slice b y.args.length d]) [5,6] rfl (by kernel_rfl) (by kernel_rfl) (by kernel_rfl) (by kernel_rfl) (fun _ _ _ h=>h) (Or.inl ⟨by rfl,fun w' hSw=>?_⟩) (unhide HS0) ?_
   ·obtain⟨t0,t1,t2,t3,t4,t5⟩:=((unhide HY).later hSw).1
    go_simp
   try simp only[Act.put,List.setIfInBounds_toArray,List.set_cons_zero,List.set_cons_succ]
   refine anyG_takel (i:=3) (v:=.agg #[.int .i64 x.op,.int .i64 x.n,.int .i64 x.v.k,.int .i64 x.v.n,.string x.v.s,.slice a x.args.length c]) [5,6] rfl (by kernel_rfl) (by kernel_rfl) (by kernel_rfl) (by kernel_rfl) (fun _ _ _ h=>h) (Or.inl ⟨by rfl,fun w' hSw=>?_⟩) (unhide HS0) ?_
   ·obtain⟨s0,s1,s2,s3,s4,s5⟩:=((unhide HX).later hSw).1
    go_simp
   try simp only[Act.put,List.setIfInBounds_toArray,List.set_cons_zero,List.set_cons_succ]
   refine anyG_one (i:=0) (by kernel_rfl) ?_
   refine wpOp_lit rfl (by rfl) fun K' hK'=>?_
   go_simp
   refine unhide hK' _ _ ⟨fun _=>unhide HS0,?_⟩
   clear hK' K'
   refine anyG_one (i:=1) (by kernel_rfl) ?_
   refine wpOp_lit rfl (by rfl) fun K' hK'=>?_
   go_simp
   refine(unhide HTU _).mono ?_
   rintro r w3 ⟨rfl,hb3⟩
   go_simp
   have hS3:Below wa.heap.size wa w3:=below_step (unhide HS0) hb3
   refine unhide hK' _ _ ⟨fun _=>hS3,?_⟩
   clear hK' K'
   refine anyG_one (i:=4) (by kernel_rfl) ?_
   refine wpOp_lit rfl (by rfl) fun K' hK'=>?_
   go_simp
   refine unhide hK' _ _ ⟨fun _=>hS3,?_⟩
   clear hK' K'
   have HX3:=hide ((unhide HX).later hS3)
   have HY3:=hide ((unhide HY).later hS3)
   have HH3:=hide ((unhide HH).later hS3)
   have HB3:=hide (below_step (unhide HBA) hS3)
   obtain⟨⟨s0,s1,s2,s3,s4,s5⟩,f0,f1,f2,f3,f4,f5⟩:=unhide HX3
   refine anyG_one (i:=5) (by kernel_rfl) ?_
   refine wpOp_lit rfl (by rfl) fun K' hK'=>?_
   go_simp
   refine unhide hK' _ _ ⟨fun hh=>absurd hh (by decide),?_⟩
   clear hK' K' s0 s1 s2 s3 s4 s5 f0 f1 f2 f3 f4 f5
   have HX4:=hide (box6_store (unhide HX3) y b d)
   have HY4:=hide (box6_other (unhide HY3) (show w.heap.size+1≠w.heap.size by omega) (.int .i64 y.op) (.int .i64 y.n) (.int .i64 y.v.k) (.int .i64 y.v.n) (.string y.v.s) (.slice b y.args.length d))
   have HH4:=hide ((unhide HH3).put6 (show w.heap.size+2≠w.heap.size by omega) (.int .i64 y.op) (.int .i64 y.n) (.int .i64 y.v.k) (.int .i64 y.v.n) (.string y.v.s) (.slice b y.args.length d))
   have HB4:=hide (put6 (unhide HB3) (Nat.le_refl w.heap.size) (.int .i64 y.op) (.int .i64 y.n) (.int .i64 y.v.k) (.int .i64 y.v.n) (.string y.v.s) (.slice b y.args.length d))
   obtain⟨w4,hw4⟩:∃w4,w4=((((((w3.setCell ⟨w.heap.size,0,none⟩ (.int .i64 y.op)).setCell ⟨w.heap.size,1,none⟩ (.int .i64 y.n)).setCell ⟨w.heap.size,2,none⟩ (.int .i64 y.v.k)).setCell ⟨w.heap.size,3,none⟩ (.int .i64 y.v.n)).setCell ⟨w.heap.size,4,none⟩ (.string y.v.s)).setCell ⟨w.heap.size,5,none⟩ (.slice b y.args.length d)):=⟨_,rfl⟩
   rw[<-hw4] at HX4 HY4 HH4 HB4 ⊢
   clear hw4
   obtain⟨⟨t0,t1,t2,t3,t4,t5⟩,g0,g1,g2,g3,g4,g5⟩:=unhide HY4
   refine anyG_one (i:=6) (by kernel_rfl) ?_
   refine wpOp_lit rfl (by rfl) fun K' hK'=>?_
   go_simp
   refine unhide hK' _ _ ⟨fun hh=>absurd hh (by decide),?_⟩
   clear hK' K' t0 t1 t2 t3 t4 t5 g0 g1 g2 g3 g4 g5
   refine anyG_done (by kernel_rfl) ?_ _
   refine NoPanic.normal ?_
   go_wp2
   go_meet
   exact⟨top,y,x,b,a,d,c,rfl,(box6_other (unhide HX4) (by omega) _ _ _ _ _ _).1,(box6_store (unhide HY4) x a c).1,(unhide HH4).put6 (by omega) _ _ _ _ _ _,unhide HR,unhide HYN,put6 (unhide HB4) (by omega) _ _ _ _ _ _⟩
 case rest=>
  obtain⟨opp,X,Y,aX,aY,cX,cY,rfl,HXX,HYY,HHH,HRR,HXN',HBB2⟩:=hcut
  rename World=>wz
  clear HX HY HH HR HXN HYN HTU HBA HBB HSA s0 s1 s2 s3 s4 s5 f0 f1 f2 f3 f4 f5 t0 t1 t2 t3 t4 t5 g0 g1 g2 g3 g4 g5
  obtain⟨s0,s1,s2,s3,s4,s5⟩:=unhide HXX
  obtain⟨t0,t1,t2,t3,t4,t5⟩:=unhide HYY
  obtain⟨u0,u1,u2,u3⟩:=unhide HHH
  have HAT2:=hide (unhide HAT wz (unhide HBB2))
  have HBA:=hide (unhide HBB2)
  clear HBB2
  by_cases h1:X.op=1
  ·obtain⟨n0,n1,n2⟩:=unhide HXN' h1
   by_cases h2:Y.op=2
   ·have hso:soB h opp X Y=if nulV (h.low.getD X.n.toNat .null) || nulV Y.v then true else outB opp (ordV (h.low.getD X.n.toNat .null) Y.v) (ordV (h.high.getD X.n.toNat .null) Y.v):=by unfold soB;rw[h1,h2];rfl
    obtain⟨n,hn⟩:∃n:Nat,X.n=n:=⟨X.n.toNat,by omega⟩
    have hn2:X.n.toNat=n:=by rw[hn];rfl
    rw[hn2] at hso
    have hln:(n:Int)<(h.low.length:Int):=by omega
    have hhn:(n:Int)<(h.high.length:Int):=by omega
    have hgl:=getD_val (l:=h.low) (n:=n) (by omega)
    have hgh:=getD_val (l:=h.high) (n:=n) (by omega)
    generalize h.low.getD n .null=lo at *
    generalize h.high.getD n .null=hi at *
    obtain⟨lb,lf,el,l0,l1,l2⟩:=(unhide HAT2).1.lo hgl
    obtain⟨gb,gf,eg,g0,g1,g2⟩:=(unhide HAT2).2.1.lo hgh
    have HR:Hid (R=if nulV lo || nulV Y.v then true else outB opp (ordV lo Y.v) (ordV hi Y.v)):=by show _=_;rw[unhide HRR,hso]
    have H1:=hide h1
    have H2:=hide h2
    have Hn:=hide hn
    have HEL:=hide el
    have HEG:=hide eg
    clear hso h1 h2 hn el eg hn2 hgl hgh n0 n1 n2 HXN' HRR HAT
    rw[unhide H1] at s0
    rw[unhide Hn] at s1
    rw[unhide H2] at t0
    go_upto_region 5 with fail
    rw[unhide HEL] at u1
    rw[unhide HEG] at u2
    go_cut[9,10] (fun s9 s10 wr=>∃b9 b10:Nat,s9=.pointer (some ⟨b9,0,none⟩)/\s10=.pointer (some ⟨b10,0,none⟩)/\Hid (Tri wr b9 lo)/\Hid (Tri wr b10 hi)/\Hid (Below wz.heap.size wz wr))
    case first=>
     have al:∀{b o:Nat} {u:Value},wz.cell? ⟨b,o,none⟩=some u->∀ob,(wz.alloc ob).cell? ⟨b,o,none⟩=some u:=fun h ob=>clater h (below_alloc (Below.refl _ _) ob)
     have al2:∀{b o:Nat} {u:Value},wz.cell? ⟨b,o,none⟩=some u->∀ob ob',((wz.alloc ob).alloc ob').cell? ⟨b,o,none⟩=some u:=fun h ob ob'=>clater (clater h (below_alloc (Below.refl _ _) ob)) (below_alloc (Below.refl _ _) ob')
     have m0:=al l0
     have m1:=al l1
     have m2:=al l2
     have m3:=al g0
     have m4:=al g1
     have m5:=al g2
     have m6:=al u1
     have m7:=al u2
     have m8:=al s1
     have n0:=al2 l0
     have n1:=al2 l1
     have n2:=al2 l2
     have n3:=al2 g0
     have n4:=al2 g1
     have n5:=al2 g2
     have n6:=al2 u1
     have n7:=al2 u2
     have n8:=al2 s1
     clear al al2
     go_region
     all_goals
      go_wp2
      go_meet
      exact⟨_,_,rfl,rfl,⟨by simp[go_sem],by simp[go_sem],by simp[go_sem]⟩,⟨by simp[go_sem],by simp[go_sem],by simp[go_sem]⟩,(below_alloc (below_alloc (Below.refl _ _) _) _).drew⟩
    case rest=>
     obtain⟨b9,b10,rfl,rfl,HT9,HT10,HB5⟩:=hcut
     rename World=>wq
     have HBQ:=hide (below_step (unhide HBA) (unhide HB5))
     have HYq:=hide ((unhide HYY).later (unhide HB5))
     have HN1:=hide (fun W=>segnull_any lo W)
     have HN2:=hide (fun W=>segnull_any Y.v W)
     have HO1:Hid (∀(v:Val) (W:World),Calls Tryz.prog 80 #[.agg #[.int .i64 v.k,.int .i64 v.n,.string v.s],.agg #[.int .i64 Y.v.k,.int .i64 Y.v.n,.string Y.v.s]] W fun e w'=>e=.returned (.int .i64 (ordV v Y.v))/\Below W.heap.size W w'):=fun v W=>order_any v Y.v W
     have HOU:=hide (fun W=>outside_any opp (ordV lo Y.v) (ordV hi Y.v) W)
     rw[Val.open_] at HN1 HN2
     clear HAT2 HEL HEG hln hhn s0 s1 s2 s3 s4 s5 t0 t1 t2 t3 t4 t5 u0 u1 u2 u3 l0 l1 l2 g0 g1 g2 HXX HYY HHH
     obtain⟨x0,x1,x2⟩:=unhide HT9
     obtain⟨t0,t1,t2,t3,t4,t5⟩:=unhide HYq
     cases hnl:nulV lo with
     | true=>
      rw[hnl] at HN1 HR
      clear hnl HN2 HO1 HOU
      go_wp2_with (go_at_call 55;refine(unhide HN1 _).mono ?_;rintro r w1 ⟨rfl,hb1⟩)
      go_ret
      exact⟨by rw[unhide HR];rfl,below_step (unhide HBQ) hb1⟩
     | false=>
      rw[hnl] at HN1 HR
      cases hny:nulV Y.v with
      | true=>
       rw[hny] at HN2 HR
       clear hnl hny HO1 HOU
       go_wp2_with (first
        | (go_at_call 55;refine(unhide HN2 w1).mono ?_;rintro r w2 ⟨rfl,hb2⟩)
        | (go_at_call 55;refine(unhide HN1 _).mono ?_;rintro r w1 ⟨rfl,hb1⟩;obtain⟨t0,t1,t2,t3,t4,t5⟩:=(unhide HYq).later hb1))
       go_ret
       exact⟨by rw[unhide HR];rfl,below_step (unhide HBQ) (below_step hb1 hb2)⟩
      | false=>
       rw[hny] at HN2 HR
       clear hnl hny
       go_upto_region 8 with (first
        | (go_at_call 55;refine(unhide HN2 w1).mono ?_;rintro r w2 ⟨rfl,hb2⟩)
        | (go_at_call 55;refine(unhide HN1 _).mono ?_;rintro r w1 ⟨rfl,hb1⟩;obtain⟨t0,t1,t2,t3,t4,t5⟩:=(unhide HYq).later hb1))
       have hb12:=below_step hb1 hb2
       have HB2:=hide (below_step (unhide HBQ) hb12)
       clear x0 x1 x2 t0 t1 t2 t3 t4 t5
       obtain⟨x0,x1,x2⟩:=(unhide HT9).later hb12
       obtain⟨y0,y1,y2⟩:=(unhide HT10).later hb12
       obtain⟨t0,t1,t2,t3,t4,t5⟩:=(unhide HYq).later hb12
       have k0:=cell_regrown x0
       have k1:=cell_regrown x1
       have k2:=cell_regrown x2
       have k3:=cell_regrown y0
       have k4:=cell_regrown y1
       have k5:=cell_regrown y2
       have k6:=cell_regrown t2
       have k7:=cell_regrown t3
       have k8:=cell_regrown t4
       refine wp_region_quiet_below (by kernel_rfl) (by kernel_rfl) ?_
       repeat (go_big_quiet_step (first
        | (go_at_call 79;exact Calls.regrown_of (unhide HOU _))
        | (go_at_call 80;exact Calls.regrown_of (unhide HO1 _ _))))
       refine wpQuiet_nil ?_
       intro w' hw'
       have hB:Below w2.heap.size w2 w':=by obtain⟨p,rfl⟩:=hw';exact below_regrown _ _ _
       clear hw' k0 k1 k2 k3 k4 k5 k6 k7 k8 x0 x1 x2 y0 y1 y2 t0 t1 t2 t3 t4 t5
       go_wp2
       go_ret
       exact⟨by rw[unhide HR];rfl,below_step (unhide HB2) hB⟩
   ·have hso:soB h opp X Y=false:=by
     have e2:(Y.op != 2)=true:=by simpa using h2
     unfold soB
     rw[h1,e2]
     rfl
    have HR:Hid (R=false):=by show _=_;rw[unhide HRR,hso]
    have H1:=hide h1
    have e2:(Y.op != 2)=true:=by simpa using h2
    clear hso h1 n0 n1 n2 HXN' HRR
    rw[unhide H1] at s0
    go_wp2
    go_ret
    exact⟨by rw[unhide HR];rfl,unhide HBA⟩
  ·have e1:(X.op != 1)=true:=by simpa using h1
   have hso:soB h opp X Y=false:=by unfold soB;rw[e1];rfl
   have HR:Hid (R=false):=by show _=_;rw[unhide HRR,hso]
   clear hso HXN' HRR
   go_wp2
   go_ret
   exact⟨by rw[unhide HR];rfl,unhide HBA⟩
end Go.Proofs.YtbfibfmnemnbbaaGreat.E
