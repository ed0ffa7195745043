import Derived.Test.YtekgpapophibcaaGreatRefF
set_option linter.unusedSimpArgs false
set_option linter.unusedVariables false
set_option maxHeartbeats 8000000
set_option maxRecDepth 100000
namespace Go.Proofs.YtekgpapophibcaaGreat
open Go.RowKit Go.Sort
theorem zT5(X:Vc)(p:Sl)(kd:Nat)(w:World)(hs:small X)(hp:zAi w X p)(hg:zAg X=true)(hk:X.k=(kd:Int))(YG:kd=1∨kd=2)(h4:¬(2=4/\kd=2))(hl:X.nl.length<=4096) :
  Calls Tryz.prog 63 #[zCC X p,.int .i64 2] w fun e w'=>∃b,e=.returned (.tuple #[.string (toB (zB2 2 kd (zAD X)++b)),.int .i64 0])/\zK9 2 (zAA (zAD X)) b/\Below w.heap.size w w':=by
 rw[zAM]
 have bl:=zA1 (Below.refl _ w) (.cells #[.int .i64 X.k,.slice p.a1 X.nl.length p.c1,.slice p.a2 X.ns.length p.c2,.slice p.a3 X.ss.length p.c3] 49)
 have HG:=zA3 (zCi X p _ hs (hp.later bl))
 rw[zAM] at HG
 rw[hg] at HG
 have Qh:Hid ((zAD X).length=X.nl.length):=zAb hg
 have Yf:X.nl.length<=1048576:=hs.1
 have FACT:Hid (∀w1,Below (w.alloc (.cells #[.int .i64 X.k,.slice p.a1 X.nl.length p.c1,.slice p.a2 X.ns.length p.c2,.slice p.a3 X.ss.length p.c3] 49)).heap.size (w.alloc (.cells #[.int .i64 X.k,.slice p.a1 X.nl.length p.c1,.slice p.a2 X.ns.length p.c2,.slice p.a3 X.ss.length p.c3] 49)) w1->(w1.cell? ⟨w.heap.size,0,none⟩=some (.int .i64 X.k)/\w1.cell? ⟨w.heap.size,1,none⟩=some (.slice p.a1 X.nl.length p.c1)/\w1.cell? ⟨w.heap.size,2,none⟩=some (.slice p.a2 X.ns.length p.c2)/\w1.cell? ⟨w.heap.size,3,none⟩=some (.slice p.a3 X.ss.length p.c3))/\Hid (Below w.heap.size w w1)):=fun w1 Hb=>by
  obtain⟨Qj,_⟩:=zCR Hb
  refine⟨⟨?_,?_,?_,?_⟩,zA2 bl Hb⟩<;>(rw[Qj _ _ (by simp)];simp[go_sem])
 have HV:Hid (∀W,Hid (Below w.heap.size w W)->Calls Tryz.prog 64 #[.agg #[.int .i64 X.k,.slice p.a1 X.nl.length p.c1,.slice p.a2 X.ns.length p.c2,.slice p.a3 X.ss.length p.c3]] W fun e w'=>∃a6 c6,e=.returned (.slice a6 X.nl.length c6)/\Hid (zAR w' a6 (zAD X))/\Hid (Below W.heap.size W w')):=fun W hW=>by
  have:=zCJ X p W hs (hp.later hW)
  rw[zAM] at this
  refine this.mono fun e w' ⟨v,he,h1,h2⟩=>?_
  obtain⟨a6,c6,rfl,_,_,hr⟩:=zAC h1
  rw[zAb hg] at he
  exact⟨a6,c6,he,hr,h2⟩
 have QQ:Hid (∀W a6 c6,Hid (zAR W a6 (zAD X))->Hid (Below w.heap.size w W)->Calls Tryz.prog 66 #[.slice a6 X.nl.length c6] W fun e w'=>∃a7 c7,e=.returned (.slice a7 (zAA (zAD X)).length c7)/\Hid (zAV w' W.heap.size (.slice a7 (zAA (zAD X)).length c7) (zAA (zAD X)))/\Hid (Below W.heap.size W w')):=fun W a6 c6 hr hW=>by
  have:=zDZ a6 c6 (zAD X) W (by rw[zAb hg];exact Yf) hr
  rw[zAb hg] at this
  refine this.mono fun e w' ⟨v,he,h1,h2⟩=>?_
  obtain⟨a7,c7,rfl,_,_,_⟩:=zAC h1
  exact⟨a7,c7,he,h1,h2⟩
 have Zr:Hid (∀W B a7 c7,Hid (zAV W B (.slice a7 (zAA (zAD X)).length c7) (zAA (zAD X)))->Hid (Below w.heap.size w W)->Calls Tryz.prog 65 #[.slice a7 (zAA (zAD X)).length c7] W fun e w'=>∃S a8 c8,e=.returned (.slice a8 (zBx S S.length).length c8)/\Hid (S.Perm (zAA (zAD X))/\zBe S)/\Hid (zAR w' a8 (zBx S S.length))/\Hid (Below W.heap.size W w')):=fun W B a7 c7 ho hW=>by
  refine(zD1 B (zAA (zAD X)) _ W (Nat.le_trans (zC1 _) (by rw[zAb hg];exact Yf)) ho).mono fun e w' ⟨S,v,he,h1,h2,h3⟩=>?_
  obtain⟨a8,c8,rfl,_,_,hr⟩:=zAC h2
  exact⟨S,a8,c8,he,h1,hr,h3⟩
 have i0:¬(4096:Int)<(X.nl.length:Int):=by omega
 have GJ:Hid (∀x∈zAA (zAD X),x.s.size<=1000):=fun x hx=>zCD hg (List.mem_filter.1 hx).1
 have QA:Hid ((zAA (zAD X)).length<=4096):=Nat.le_trans (zC1 _) (by rw[zAb hg];exact hl)
 have KN:=zA3 (zRn 2 kd (by omega) (by omega))
 have TP:(kd:Int)<=2:=by omega
 obtain⟨ys,YE⟩:∃ys,Hid (ys=zAA (zAD X)):=⟨_,rfl⟩
 rw[<-zA0 YE] at QQ Zr GJ QA ⊢
 obtain⟨xs,ZT⟩:∃xs,Hid (xs=zAD X):=⟨_,rfl⟩
 rw[<-zA0 ZT] at HV QQ Qh ⊢
 rw[hk] at FACT HG HV ⊢
 have yS:Hid (ys=zAA xs):=by show _=_;rw[zA0 YE,zA0 ZT]
 have yT:Hid (∀S:List Val,S.Perm ys->(zBx S S.length).length<=4096):=fun S hp=>Nat.le_trans (zDi S S.length) (by rw[hp.length_eq];exact zA0 QA)
 clear hg bl hs hp hk YG h4
 go_enter Tryz.func63,Tryz.ntmps63
 go_upto_region 8 with (first
  | (go_at_call 69;refine(zA0 HG).mono ?_;rintro e w1 ⟨rfl,Hb⟩;obtain⟨⟨c0,c1,c2,c3⟩,Hw⟩:=zA0 FACT _ Hb;clear Hb)
  | (go_at_call 64;refine(zA0 HV _ Hw).mono ?_;rintro e w2 ⟨a6,c6,rfl,R6,Hh⟩;have YP:=zA3 (zA2 (zA0 Hw) (zA0 Hh)))
  | (go_at_call 66;refine(zA0 QQ _ _ _ R6 YP).mono ?_;rintro e w3 ⟨a7,c7,rfl,R7,Hz⟩;have YO:=zA3 (zA2 (zA0 YP) (zA0 Hz)))
  | (go_at_call 65;refine(zA0 Zr _ _ _ _ R7 YO).mono ?_;rintro e w4 ⟨S,a8,c8,rfl,HS,R8,Qe⟩;have Zu:((zBx S S.length).length:Int)<=4096:=(by have:=zA0 yT S (zA0 HS).1;omega))
  | fail)
 obtain⟨W5,GD⟩:∃W5,Hid (W5=w4.alloc (.cells #[.slice a8 (zBx S S.length).length c8] 37)):=⟨_,rfl⟩
 have RS:Hid (RSt w W5 (kd:Int) xs ys (zBx S S.length) a6 a7 a8 c8 w4.heap.size):=by
  have b5:Below w4.heap.size w4 W5:=by rw[zA0 GD];exact zA1 (Below.refl _ _) _
  obtain⟨a7',c7',e7,_,_,r7⟩:=zAC (zA0 R7)
  injection e7 with e7 _ _
  subst e7
  exact⟨cell_later b5 (cell_later (zA0 Qe) (cell_later (zA0 Hz) (cell_later (zA0 Hh) c0))),(((zA0 R6).later (zA0 Hz)).later (zA0 Qe)).later b5,(r7.later (zA0 Qe)).later b5,(zA0 R8).later b5,by rw[zA0 GD];simp[go_sem],zA2 (zA2 (zA0 YO) (zA0 Qe)) b5⟩
 rw[<-zA0 GD]
 have JX:=(zA0 RS).k0
 have Dk:Hid (∃S,S.Perm ys/\zBe S/\zBx S S.length=zBx S S.length):=⟨S,(zA0 HS).1,(zA0 HS).2,rfl⟩
 obtain⟨Wd,qH⟩:∃Wd,Hid (Wd=zBx S S.length):=⟨_,rfl⟩
 rw[<-zA0 qH] at RS Zu ⊢
 obtain⟨B8,qJ⟩:∃B8,Hid (B8=w4.heap.size):=⟨_,rfl⟩
 rw[<-zA0 qJ] at RS ⊢
 clear c0 c1 c2 c3 Hw Hh Hz Qe YP YO R6 R7 R8 GD FACT HV QQ Zr HG yT Yf qJ Dk
 go_cut[9] (fun s9 wx=>s9=.string (toB ((beL (2:Int) 1 1++beL (kd:Int) 1 1)++beL (X.nl.length:Int) 4 4))/\Hid (RSt w wx (kd:Int) xs ys Wd a6 a7 a8 c8 B8))
 case first=>
  have Qb:(kd:Int)<=2/\0<=(kd:Int):=by omega
  have YC:=zA3 (fun W'=>zBK (X.nl.length:Int) 4 W' (by omega))
  obtain⟨T1,YX⟩:∃T1,Hid (toB [(2:Int),(kd:Int)]=T1):=⟨_,rfl⟩
  obtain⟨T2,GG⟩:∃T2,Hid (toB (beL (X.nl.length:Int) 4 4)=T2):=⟨_,rfl⟩
  have GE:T1.size+T2.size<=9223372036854775807:=by rw[<-zA0 YX,<-zA0 GG,zAN,zAN,zAK];simp
  have GF:Hid (T1++T2=toB ((beL (2:Int) 1 1++beL (kd:Int) 1 1)++beL (X.nl.length:Int) 4 4)):=by
   show _=_
   rw[<-zA0 YX,<-zA0 GG,zAJ]
   exact congrArg (·++toB (beL (X.nl.length:Int) 4 4)) (zA0 KN)
  rw[zA0 GG] at YC
  have Ht:(fun w':World=>w'.cell? ⟨w.heap.size,0,none⟩=some (.int .i64 (kd:Int))) W5.drew:=JX
  have RSC:Hid (RSt w W5.drew (kd:Int) xs ys Wd a6 a7 a8 c8 B8):=(zA0 RS).later ((Below.refl _ _).drew)
  clear JX RS
  refine wp_region_noPanic ?_
  refine zAu (S:=fun w':World=>w'.cell? ⟨w.heap.size,0,none⟩=some (.int .i64 (kd:Int))) (k:=11) (by kernel_rfl) ?_
  refine zA6 (i:=0) (v:=(.int .i64 2)) [1,5,6,11] rfl (fun _ _ _ h=>h) (Or.inl ⟨by rfl,fun w' hSw=>?_⟩) Ht ?_
  ·dsimp only at hSw;go_simp;try (first|exact zCB Qb|rfl|exact zAW (by omega))
  try simp only[Act.put,zAI,zAH,zAG]
  refine zA6 (i:=1) (v:=(.int .u8 2)) [5,6,11] rfl (fun _ _ _ h=>h) (Or.inl ⟨by rfl,fun w' hSw=>?_⟩) Ht ?_
  ·dsimp only at hSw;go_simp;try (first|exact zCB Qb|rfl|exact zAW (by omega))
  try simp only[Act.put,zAI,zAH,zAG]
  refine zA6 (i:=2) (v:=(.pointer (some ⟨w.heap.size,0,none⟩))) [3,4,5,6,11] rfl (fun _ _ _ h=>h) (Or.inl ⟨by rfl,fun w' hSw=>?_⟩) Ht ?_
  ·dsimp only at hSw;go_simp;try (first|exact zCB Qb|rfl|exact zAW (by omega))
  try simp only[Act.put,zAI,zAH,zAG]
  refine zA6 (i:=3) (v:=(.int .i64 (kd:Int))) [4,5,6,11] rfl (fun _ _ _ h=>h) (Or.inl ⟨by rfl,fun w' hSw=>?_⟩) Ht ?_
  ·dsimp only at hSw;go_simp;try (first|exact zCB Qb|rfl|exact zAW (by omega))
  try simp only[Act.put,zAI,zAH,zAG]
  refine zA6 (i:=4) (v:=(.int .u8 (kd:Int))) [5,6,11] rfl (fun _ _ _ h=>h) (Or.inl ⟨by rfl,fun w' hSw=>?_⟩) Ht ?_
  ·dsimp only at hSw;go_simp;try (first|exact zCB Qb|rfl|exact zAW (by omega))
  try simp only[Act.put,zAI,zAH,zAG]
  refine zA6 (i:=7) (v:=(.slice a6 X.nl.length c6)) [8,9,10,11] rfl (fun _ _ _ h=>h) (Or.inl ⟨by rfl,fun w' hSw=>?_⟩) Ht ?_
  ·dsimp only at hSw;go_simp;try (first|exact zCB Qb|rfl|exact zAW (by omega))
  try simp only[Act.put,zAI,zAH,zAG]
  refine zA6 (i:=8) (v:=(.int .i64 X.nl.length)) [9,10,11] rfl (fun _ _ _ h=>h) (Or.inl ⟨by rfl,fun w' hSw=>?_⟩) Ht ?_
  ·dsimp only at hSw;go_simp;try (first|exact zCB Qb|rfl|exact zAW (by omega))
  try simp only[Act.put,zAI,zAH,zAG]
  refine zA6 (i:=9) (v:=(.int .u64 X.nl.length)) [10,11] rfl (fun _ _ _ h=>h) (Or.inl ⟨by rfl,fun w' hSw=>?_⟩) Ht ?_
  ·dsimp only at hSw;go_simp;try (first|exact zCB Qb|rfl|exact zAW (by omega))
  try simp only[Act.put,zAI,zAH,zAG]
  clear Ht
  refine zBF [5,10] (by kernel_rfl) (by simp) ?_
  intro i hi
  simp only[List.mem_cons,List.not_mem_nil,or_false] at hi
  rcases hi with rfl|rfl
  ·refine zA4 rfl (by rfl) fun K hK=>?_
   go_simp
   have YH:Hid (zBC (W5.alloc (.cells #[.int .u8 (2:Int),.int .u8 (kd:Int)] 5)).drew 0 (.slice (some ⟨W5.heap.size,0,none⟩) 2 2) [(2:Int),(kd:Int)]):=World.ownsRow.drew (zE5 W5 (2:Int) (kd:Int))
   have RSB:Hid (RSt w (W5.alloc (.cells #[.int .u8 (2:Int),.int .u8 (kd:Int)] 5)).drew (kd:Int) xs ys Wd a6 a7 a8 c8 B8):=(zA0 RSC).later ((zA1 (Below.refl _ W5.drew) (.cells #[.int .u8 (2:Int),.int .u8 (kd:Int)] 5)))
   refine zA0 hK _ _ ⟨fun _=>(zA0 RSB).k0,?_⟩
   clear hK K
   generalize yi:(W5.alloc (.cells #[.int .u8 (2:Int),.int .u8 (kd:Int)] 5)).drew=WB at *
   clear yi
   refine zBF [6,10] (by kernel_rfl) (by simp) ?_
   intro i hi
   simp only[List.mem_cons,List.not_mem_nil,or_false] at hi
   rcases hi with rfl|rfl
   ·refine zA4 rfl (by rfl) fun K hK=>?_
    have Qm:=zAe (zA0 YH)
    rw[zA0 YX] at Qm
    go_simp
    refine zA0 hK _ _ ⟨fun _=>(zA0 RSB).k0,?_⟩
    clear hK K Qm
    refine zA7 (i:=10) (by kernel_rfl) ?_
    refine zA4 rfl (by rfl) fun K hK=>?_
    go_simp
    refine(zA0 YC _).mono ?_
    rintro e w9 ⟨rfl,Ho⟩
    have RS9:=zA3 ((zA0 RSB).later Ho)
    clear Ho
    go_simp
    refine zA0 hK _ _ ⟨fun _=>(zA0 RS9).k0,?_⟩
    clear hK K
    refine zA7 (i:=11) (by kernel_rfl) ?_
    refine zA4 rfl (by rfl) fun K hK=>?_
    go_simp
    rw[if_neg (Nat.not_lt.2 GE)]
    go_simp
    refine zA0 hK _ _ ⟨fun hh=>absurd hh (by decide),?_⟩
    clear hK K
    refine zA7 (i:=12) (by kernel_rfl) ?_
    refine zA4 rfl (by rfl) fun K hK=>?_
    go_simp
    refine zA0 hK _ _ ⟨fun hh=>absurd hh (by decide),?_⟩
    clear hK K
    refine zAl (by kernel_rfl) ?_ _
    refine NoPanic.normal ?_
    go_wp2
    go_meet
    exact⟨by rw[zA0 GF],zA0 RS9⟩
   ·refine zA4 rfl (by rfl) fun K hK=>?_
    go_simp
    refine(zA0 YC _).mono ?_
    rintro e w9 ⟨rfl,Ho⟩
    have RS9:=zA3 ((zA0 RSB).later Ho)
    replace YH:=zA3 (zAc (zA0 YH) Ho)
    clear Ho
    go_simp
    refine zA0 hK _ _ ⟨fun _=>(zA0 RS9).k0,?_⟩
    clear hK K
    refine zA7 (i:=6) (by kernel_rfl) ?_
    refine zA4 rfl (by rfl) fun K hK=>?_
    have Qm:=zAe (zA0 YH)
    rw[zA0 YX] at Qm
    go_simp
    refine zA0 hK _ _ ⟨fun _=>(zA0 RS9).k0,?_⟩
    clear hK K Qm
    refine zA7 (i:=11) (by kernel_rfl) ?_
    refine zA4 rfl (by rfl) fun K hK=>?_
    go_simp
    rw[if_neg (Nat.not_lt.2 GE)]
    go_simp
    refine zA0 hK _ _ ⟨fun hh=>absurd hh (by decide),?_⟩
    clear hK K
    refine zA7 (i:=12) (by kernel_rfl) ?_
    refine zA4 rfl (by rfl) fun K hK=>?_
    go_simp
    refine zA0 hK _ _ ⟨fun hh=>absurd hh (by decide),?_⟩
    clear hK K
    refine zAl (by kernel_rfl) ?_ _
    refine NoPanic.normal ?_
    go_wp2
    go_meet
    exact⟨by rw[zA0 GF],zA0 RS9⟩
  ·refine zA4 rfl (by rfl) fun K hK=>?_
   go_simp
   refine(zA0 YC _).mono ?_
   rintro e w9 ⟨rfl,Ho⟩
   have RS9:=zA3 ((zA0 RSC).later Ho)
   clear Ho
   go_simp
   refine zA0 hK _ _ ⟨fun _=>(zA0 RS9).k0,?_⟩
   clear hK K
   refine zA7 (i:=5) (by kernel_rfl) ?_
   refine zA4 rfl (by rfl) fun K hK=>?_
   go_simp
   have YH:=zA3 (zE5 w9 (2:Int) (kd:Int))
   have RSB:=zA3 ((zA0 RS9).later (zA1 (Below.refl _ w9) (.cells #[.int .u8 (2:Int),.int .u8 (kd:Int)] 5)))
   refine zA0 hK _ _ ⟨fun _=>(zA0 RSB).k0,?_⟩
   clear hK K
   refine zA7 (i:=6) (by kernel_rfl) ?_
   refine zA4 rfl (by rfl) fun K hK=>?_
   have Qm:=zAe (zA0 YH)
   rw[zA0 YX] at Qm
   go_simp
   refine zA0 hK _ _ ⟨fun _=>(zA0 RSB).k0,?_⟩
   clear hK K Qm
   refine zA7 (i:=11) (by kernel_rfl) ?_
   refine zA4 rfl (by rfl) fun K hK=>?_
   go_simp
   rw[if_neg (Nat.not_lt.2 GE)]
   go_simp
   refine zA0 hK _ _ ⟨fun hh=>absurd hh (by decide),?_⟩
   clear hK K
   refine zA7 (i:=12) (by kernel_rfl) ?_
   refine zA4 rfl (by rfl) fun K hK=>?_
   go_simp
   refine zA0 hK _ _ ⟨fun hh=>absurd hh (by decide),?_⟩
   clear hK K
   refine zAl (by kernel_rfl) ?_ _
   refine NoPanic.normal ?_
   go_wp2
   go_meet
   exact⟨by rw[zA0 GF],zA0 RSB⟩
 case rest=>
  obtain⟨rfl,RX⟩:=hcut
  rename World=>wx
  obtain⟨bb,e85⟩:∃bb,((ys.length:Int) == (X.nl.length:Int))=bb:=⟨_,rfl⟩
  go_upto_if 85 with fail
  go_cut[9] (fun s9 wy=>s9=.string (toB (zB2 2 kd xs))/\Hid (RSt w wy (kd:Int) xs ys Wd a6 a7 a8 c8 B8))
  case first=>
   have GM:Hid (toB (zB2 2 kd xs)=toB ((beL (2:Int) 1 1++beL (kd:Int) 1 1)++beL (X.nl.length:Int) 4 4)++toB (zBT xs)):=by
    show _=_
    rw[zB2,zAJ,zA0 Qh]
    rfl
   obtain⟨T3,yR⟩:∃T3,Hid (toB ((beL (2:Int) 1 1++beL (kd:Int) 1 1)++beL (X.nl.length:Int) 4 4)=T3):=⟨_,rfl⟩
   have FZ:T3.size<=100:=by rw[<-zA0 yR,zAN,zAX,zAX,zAK,zAK,zAK];omega
   rw[zA0 yR] at GM ⊢
   have QX:=zA3 e85
   clear e85
   cases bb
   rotate_left 1
   ·have QD:ys.length=X.nl.length:=by have h:=zA0 QX;simp at h;omega
    have YA:Hid (toB (zBT xs)=⟨#[0]⟩):=by
     show _=_
     rw[zGN (by rw[<-zA0 yS,QD,zA0 Qh])]
     rfl
    clear QD
    go_wp2
    go_meet
    exact⟨by rw[zA0 GM,zA0 YA],RX⟩
   ·have QD:¬ys.length=X.nl.length:=by have h:=zA0 QX;simp at h;omega
    have YA:Hid (toB (zBT xs)=(⟨#[1]⟩:ByteArray)++toB (leB (zBG 1 (zAS xs)) (zAO xs.length 1))):=by
     show _=_
     rw[zFK (by rw[<-zA0 yS,zA0 Qh];exact QD),zAJ]
     rfl
    have ZK:Hid ((zAS xs).length=X.nl.length):=by show _=_;rw[<-zA0 Qh];simp[zAS]
    clear QD
    have QM:∀W:World,(Instr.field 59 (.agg #[.int .i64 1,.int .i64 1,.string ⟨#[]⟩]) 1).run Tryz.prog W=.ok (.int .i64 1) W:=fun _=>by kernel_rfl
    have DW:∀W:World,(Instr.field 59 (.agg #[.int .i64 1,.int .i64 0,.string ⟨#[]⟩]) 1).run Tryz.prog W=.ok (.int .i64 0) W:=fun _=>by kernel_rfl
    go_wp2_with fail
    go_loopw[10,90] (fun s10 s wr=>∃k:Nat,k<=X.nl.length/\s=.int .i64 (k:Int)/\zKE wr wx.heap.size s10 ((zAS xs).take k)/\Below wx.heap.size wx wr) (fun _ s _=>X.nl.length-(intOf s).toNat)
    case atStart=>exact⟨0,Nat.zero_le _,rfl,World.ownsRow_nil _ _ _ _,Below.refl _ _⟩
    case round=>
     obtain⟨k,hk,rfl,ho,hb⟩:=hrel
     by_cases h8:k<X.nl.length
     ·have h9:(k:Int)<(X.nl.length:Int):=by omega
      obtain⟨x,hx⟩:∃x,xs[k]?=some x:=⟨_,zAf (by rw[zA0 Qh];exact h8)⟩
      rcases((zA0 RX).later hb).r6 with e|⟨rb,ro,rfl,hc⟩
      ·rw[e] at hx;cases hx
      obtain⟨d0,d1,d2⟩:=hc k x hx
      have bl:=zA1 (Below.refl _ wr) (.cells #[.int .i64 x.k,.int .i64 x.n,.string x.s] 59)
      have YU:=zA3 (ho.later bl)
      have Qa:=zA3 (zA2 hb bl)
      have Yq:((zAS xs).take k).length<=1048576:=by rw[List.length_take];omega
      have Yt:=zA3 Yq
      have Zc:Hid ((zAS xs).take (k+1)=(zAS xs).take k++[if zAr x then 1 else 0]):=by
       show _=_
       have h2:(zAS xs)[k]?=some (if zAr x then 1 else 0):=by simp[zAS,hx]
       obtain⟨h3,h4⟩:=zAL h2
       rw[List.take_succ_eq_append_getElem h3,h4]
      clear hc hx ho hb bl Yq
      rcases Bool.eq_false_or_eq_true (zAr x) with e1|e1
      ·have e2:(x.k == 0)=true:=e1
       rw[e1,if_pos rfl] at Zc
       clear e1
       go_wp2_with (first
        | (go_at_call 82;refine(zEY _).mono ?_;rintro e w9 ⟨rfl,Ho⟩;have Je:=zA3 ((zA0 YU).later Ho);have YD:=zA3 (zA2 (zA0 Qa) Ho);clear Ho)
        | (at_builtin;refine zAx w9 1 rfl (.tmp 94) (.tmp 101) rfl wx.heap.size _ _ rfl rfl (zA0 Je) (zA0 Yt) (zA0 YD).size ?_;intro v1 w8 g1 g2;replace g1:=zA3 g1;replace g2:=zA3 g2))
       go_roundw
       case rel=>exact⟨k+1,by omega,by go_num,by rw[zA0 Zc];exact zA0 g1,(zA0 YD).trans (zA0 g2)⟩
       case measure=>first | (simp[intOf];omega) | (simp only[intOf];omega)
      ·have e2:(x.k == 0)=false:=e1
       rw[e1,if_neg (by simp)] at Zc
       clear e1
       go_wp2_with (first
        | (go_at_call 82;refine(zFE _).mono ?_;rintro e w9 ⟨rfl,Ho⟩;have Je:=zA3 ((zA0 YU).later Ho);have YD:=zA3 (zA2 (zA0 Qa) Ho);clear Ho)
        | (at_builtin;refine zAx w9 0 rfl (.tmp 94) (.tmp 101) rfl wx.heap.size _ _ rfl rfl (zA0 Je) (zA0 Yt) (zA0 YD).size ?_;intro v1 w8 g1 g2;replace g1:=zA3 g1;replace g2:=zA3 g2))
       go_roundw
       case rel=>exact⟨k+1,by omega,by go_num,by rw[zA0 Zc];exact zA0 g1,(zA0 YD).trans (zA0 g2)⟩
       case measure=>first | (simp[intOf];omega) | (simp only[intOf];omega)
     ·have h9:¬(k:Int)<(X.nl.length:Int):=by omega
      have Qk:k=(zAS xs).length:=by rw[zA0 ZK];omega
      rw[Qk,List.take_length] at ho
      obtain⟨a10,c10,e10,Qv⟩:=ho.lis
      have Gu:=zA3 (zDb a10 c10 (zAS xs) 1 wr (by rw[zA0 ZK];omega) (by omega) (fun m hm=>by
       obtain⟨x,_,rfl⟩:=List.mem_map.1 hm
       split<;>decide) Qv)
      have RZ:=zA3 ((zA0 RX).later hb)
      subst e10
      obtain⟨T4,ZG⟩:∃T4,Hid (toB (leB (zBG 1 (zAS xs)) (zAO (zAS xs).length 1))=T4):=⟨_,rfl⟩
      have yQ:T4.size<=1000:=by
       rw[<-zA0 ZG,zAN,zBw,zA0 ZK]
       unfold zAO
       omega
      have JM:Hid (toB (zB2 2 kd xs)=T3++((⟨#[1]⟩:ByteArray)++T4)):=by
       show _=_
       rw[zA0 GM,zA0 YA,<-zA0 ZG,zA0 ZK,zA0 Qh]
      rw[zA0 ZG] at Gu
      have Fv:((⟨#[1]⟩:ByteArray)++T4).size=1+T4.size:=by rw[ByteArray.size_append];rfl
      clear ho hb Qk Qv GM YA
      go_wp2_with (go_at_call 83;refine(zA0 Gu).mono ?_;rintro e w7 ⟨rfl,Qx⟩;replace Qx:=zA3 Qx)
      go_meet
      exact⟨by rw[zA0 JM],(zA0 RZ).later (zA0 Qx)⟩
  case rest=>
   obtain⟨rfl,RY⟩:=hcut
   clear e85
   rename World=>wy
   have Gw:=zA0 QA
   have qg:Hid ((toB (zB2 2 kd xs)).size<=1000000):=by
    show _<=_
    rw[zAN]
    have:=zDc xs (by rw[zA0 Qh];exact hl)
    simp only[zB2,zAX,zAK]
    omega
   obtain⟨T0,JA⟩:∃T0,Hid (toB (zB2 2 kd xs)=T0):=⟨_,rfl⟩
   have hT0s:T0.size<=1000000:=by rw[<-zA0 JA];exact zA0 qg
   rw[zA0 JA]
   go_wp2_with fail
   go_loopw[15,16,17] (fun s15 s16 s17 wr=>∃(i M:Nat) (Rl:List Int) (R:ByteArray),s15=.string R/\s16=.int .i64 (M:Int)/\s17=.int .i64 (i:Int)/\i<=ys.length/\M<=i/\R.size<=1012*i/\Hid (R=toB Rl)/\Hid (zE9 ys.length ys=Rl++zE9 (ys.drop i).length (ys.drop i))/\Hid (zEA ys.length ys=M+zEA (ys.drop i).length (ys.drop i))/\Below wy.heap.size wy wr) (fun _ _ s _=>ys.length-(intOf s).toNat)
   case atStart=>exact⟨0,0,[],_,rfl,rfl,rfl,Nat.zero_le _,Nat.zero_le _,Nat.zero_le _,rfl,rfl,(Nat.zero_add _).symm,Below.refl _ _⟩
   case round=>
    obtain⟨i,M,Rl,R,rfl,rfl,rfl,hi,hMi,hRs,HR,HRU,HRM,hb⟩:=hrel
    by_cases h8:i<ys.length
    ·have h9:(i:Int)<(ys.length:Int):=by omega
     obtain⟨z,hz⟩:∃z,ys[i]?=some z:=⟨_,zAf h8⟩
     have HZ:=zA3 hz
     obtain⟨w5,DI⟩:∃w5,Hid (w5=wr):=⟨_,rfl⟩
     have RI:=zA3 ((zA0 RY).later hb)
     have HBI:=zA3 hb
     rw[<-zA0 DI] at RI HBI ⊢
     clear hz hb DI
     go_wp2_with fail
     go_loopw[18] (fun s wr=>∃k:Nat,s=.int .i64 (k:Int)/\i<=k/\k<=ys.length/\Hid (∀q y,i<=q->q<k->ys[q]?=some y->zAh y z=0)/\Below w5.heap.size w5 wr) (fun s _=>ys.length+1-(intOf s).toNat)
     case atStart=>exact⟨i,rfl,Nat.le_refl _,by omega,fun q y h1 h2=>(by omega),Below.refl _ _⟩
     case round=>
      obtain⟨k,rfl,hik,Zj,HQ,hb⟩:=hrel
      obtain⟨bb,Hw⟩:∃bb,Hid (bb=decide (k<ys.length/\zAh (atL ys k) z=0)):=⟨_,rfl⟩
      have RK:=zA3 ((zA0 RI).later hb)
      have HB:=zA3 hb
      clear hb
      go_upto_region 31 with fail
      go_cut[145] (fun s145 wx=>s145=.bool bb/\Below wr.heap.size wr wx)
      case first=>
       rcases(zA0 RK).r7 with e|⟨rb,ro,rfl,hc⟩
       ·exfalso;rw[e] at h8;simp at h8
       obtain⟨c0,c1,c2⟩:=hc i z (zA0 HZ)
       by_cases Qk:k<ys.length
       ·have i1:(k:Int)<(ys.length:Int):=by omega
        obtain⟨d0,d1,d2⟩:=hc k _ (zB0 Qk)
        have HO:=zA3 (fun W'=>zCd (atL ys k) z W')
        rw[Val.open_,Val.open_] at HO
        have HE:Hid (bb=(zAh (atL ys k) z == 0)):=by
         show _=_
         rw[zA0 Hw]
         by_cases h0:zAh (atL ys k) z=0
         ·simp[Qk,h0]
         ·simp[h0]
        generalize zAh (atL ys k) z=O at *
        generalize atL ys k=y at *
        have k0:=cell_regrown c0
        have k1:=cell_regrown c1
        have k2:=cell_regrown c2
        have k3:=cell_regrown d0
        have k4:=cell_regrown d1
        have k5:=cell_regrown d2
        clear c0 c1 c2 d0 d1 d2 hc
        refine wp_region_quiet_below (by kernel_rfl) (by kernel_rfl) ?_
        repeat (go_big_quiet_step (first
         | (go_at_call 85;exact Calls.regrown_of (zA0 HO _))))
        refine wpQuiet_nil ?_
        intro w' Hp
        have hB:Below wr.heap.size wr w':=by obtain⟨p,rfl⟩:=Hp;exact below_regrown _ _ _
        clear Hp
        go_wp2
        go_meet
        exact⟨by rw[zA0 HE],hB⟩
       ·have i1:¬(k:Int)<(ys.length:Int):=by omega
        have HE:Hid (bb=false):=by show _=_;rw[zA0 Hw];simp[Qk]
        clear c0 c1 c2 hc
        refine wp_region_quiet_below (by kernel_rfl) (by kernel_rfl) ?_
        repeat (go_big_quiet_step (first
         | (go_at_call 85;exact Calls.regrown_of (zCd z z _))))
        refine wpQuiet_nil ?_
        intro w' Hp
        have hB:Below wr.heap.size wr w':=by obtain⟨p,rfl⟩:=Hp;exact below_regrown _ _ _
        clear Hp
        go_wp2
        go_meet
        exact⟨by rw[zA0 HE],hB⟩
      case rest=>
       obtain⟨rfl,Hs⟩:=hcut
       rename World=>wx
       have YI:=zA3 (zA2 (zA0 HB) Hs)
       have RX2:=zA3 ((zA0 RK).later Hs)
       clear Hs
       cases bb
       ·have HAH:Hid (zCX (ys.drop i)=k-i):=by
         show _=_
         refine zQU (z:=z) (by rw[List.getElem?_drop];exact zA0 HZ) (by rw[List.length_drop];omega) (fun q y h1 h2=>?_) (fun y h2=>?_)
         ·rw[List.getElem?_drop] at h2
          exact zA0 HQ (i+q) y (by omega) (by omega) h2
         ·rw[List.getElem?_drop,show i+(k-i)=k by omega] at h2
          have Yq:=(zAL h2).1
          intro h0
          have h3:=zA0 Hw
          rw[zFV h2] at h3
          simp[Yq,h0] at h3
        have JT:i<k:=by
         rcases Nat.lt_or_ge i k with h|h
         ·exact h
         ·exfalso
          have e:k=i:=by omega
          have h3:=zA0 Hw
          rw[e,zFV (zA0 HZ),zC5] at h3
          simp[h8] at h3
        have JP:ys.drop i=z::ys.drop (i+1):=by
         obtain⟨h1,h2⟩:=zAL (zA0 HZ)
         rw[List.drop_eq_getElem_cons h1,h2]
        have NX:=zMf (x:=z) (xs:=ys.drop (i+1))
        rw[<-JP,zA0 HAH,List.drop_drop,show i+(k-i)=k by omega] at NX
        obtain⟨kd2,hkd3⟩:∃kd2,kd2=k-i:=⟨_,rfl⟩
        rw[<-hkd3] at NX
        have e33:(k:Int)-(i:Int)=(kd2:Int):=by omega
        have JU:(kd2:Int)<=4096:=by omega
        have hzs1:=zA0 GJ z (List.mem_of_getElem? (zA0 HZ))
        have YC:=zA3 (fun W'=>zBK (kd2:Int) 4 W' (by omega))
        have Za:=zA3 (fun W'=>zEB z W' (by omega))
        rw[Val.open_] at Za
        have Zw:=zD3 z
        obtain⟨U1,FY⟩:∃U1,Hid (toB (beL (kd2:Int) 4 4)=U1):=⟨_,rfl⟩
        obtain⟨U2,hU2⟩:∃U2,Hid (toB (zB8 z)=U2):=⟨_,rfl⟩
        have hU1s:U1.size<=4:=by rw[<-zA0 FY,zAN,zAK];omega
        have hU2s:U2.size<=1008:=by rw[<-zA0 hU2,zAN];omega
        have HNR:Hid (R++(U1++U2)=toB (Rl++(beL (kd2:Int) 4 4++zB8 z))):=by
         show _=_
         rw[zAJ,zAJ,zA0 FY,zA0 hU2,<-zA0 HR]
        have yX:Hid ((R++(U1++U2)).size<=1012*k):=by
         show _<=_
         rw[ByteArray.size_append,ByteArray.size_append]
         omega
        have GN:U1.size+U2.size<=9223372036854775807:=by omega
        have qt:R.size+(U1.size+U2.size)<=9223372036854775807:=by omega
        have HNU:Hid (zE9 ys.length ys=(Rl++(beL (kd2:Int) 4 4++zB8 z))++zE9 (ys.drop k).length (ys.drop k)):=by
         show _=_
         rw[zA0 HRU,NX.1]
         simp only[List.append_assoc]
        have HNM:Hid (zEA ys.length ys=(M+1)+zEA (ys.drop k).length (ys.drop k)):=by
         show _=_
         rw[zA0 HRM,NX.2]
         omega
        rw[zA0 FY] at YC
        rw[zA0 hU2] at Za
        rcases(zA0 RX2).r7 with e|⟨rb,ro,rfl,hc⟩
        ·exfalso;rw[e] at h8;simp at h8
        obtain⟨c0,c1,c2⟩:=hc i z (zA0 HZ)
        have HKI:=zA3 JT
        clear hc JP NX hkd3 Zw hzs1 JT
        go_upto_region 33 with fail
        have k0:=cell_regrown c0
        have k1:=cell_regrown c1
        have k2:=cell_regrown c2
        clear c0 c1 c2
        go_cut[15] (fun s15 wq=>s15=.string (R++(U1++U2))/\Below wx.heap.size wx wq)
        case first=>
         refine wp_region_quiet_below (by kernel_rfl) (by kernel_rfl) ?_
         repeat (go_big_quiet_step (first
          | (go_at_call 32;exact Calls.regrown_of (zA0 YC _))
          | (go_at_call 84;exact Calls.regrown_of (zA0 Za _))))
         refine wpQuiet_nil ?_
         intro w' Hp
         have hB:Below wx.heap.size wx w':=by obtain⟨p,rfl⟩:=Hp;exact below_regrown _ _ _
         clear Hp
         go_wp2
         go_meet
         exact⟨rfl,hB⟩
        case rest=>
         obtain⟨rfl,hbq⟩:=hcut
         rename World=>wq
         have HBQ:=zA3 (zA2 (zA2 (zA0 HBI) (zA0 YI)) hbq)
         clear hbq k0 k1 k2
         go_wp2
         go_roundw
         case rel=>exact⟨k,M+1,_,_,rfl,by go_num,rfl,Zj,by have:=zA0 HKI;omega,zA0 yX,HNR,HNU,HNM,zA0 HBQ⟩
         case measure=>have:=zA0 HKI;first | (simp[intOf];omega) | (simp only[intOf];omega)
       ·have Yq:k<ys.length/\zAh (atL ys k) z=0:=by have h3:=(zA0 Hw).symm;simpa using h3
        have HQ2:Hid (∀q y,i<=q->q<k+1->ys[q]?=some y->zAh y z=0):=fun q y h1 h2 h3=>by
         by_cases h:q<k
         ·exact zA0 HQ q y h1 h h3
         ·have e:q=k:=by omega
          rw[e] at h3
          rw[<-zFV h3]
          exact Yq.2
        have hk9:=Yq.1
        clear Yq
        go_wp2
        go_roundw
        case rel=>exact⟨k+1,by go_num,by omega,by omega,HQ2,zA0 YI⟩
        case measure=>first | (simp[intOf];omega) | (simp only[intOf];omega)
    ·have h9:¬(i:Int)<(ys.length:Int):=by omega
     have hie:i=ys.length:=by omega
     have Zp:ys.drop i=[]:=List.drop_eq_nil_of_le (by omega)
     have hMi2:(M:Int)<=4096:=by omega
     have YC:=zA3 (fun W'=>zBK (M:Int) 4 W' (by omega))
     obtain⟨U1,FY⟩:∃U1,Hid (toB (beL (M:Int) 4 4)=U1):=⟨_,rfl⟩
     have hU1s:U1.size<=4:=by rw[<-zA0 FY,zAN,zAK];omega
     have GN:U1.size+R.size<=9223372036854775807:=by omega
     have qt:T0.size+(U1.size+R.size)<=9223372036854775807:=by omega
     have JM:Hid (T0++(U1++R)=toB (zB2 2 kd xs++(beL (zEA ys.length ys:Int) 4 4++zE9 ys.length ys))):=by
      show _=_
      have h1:=zA0 HRU
      have h2:=zA0 HRM
      rw[Zp] at h1 h2
      simp only[List.length_nil,zE9,zEA,List.append_nil,Nat.add_zero] at h1 h2
      rw[h1,h2,zAJ,zAJ,zA0 JA,zA0 FY,zA0 HR]
     rw[zA0 FY] at YC
     have DA:=zA3 (zA2 (zA0 RY).bel hb)
     clear hb hie Zp
     go_wp2_with (go_at_call 32;refine(zA0 YC _).mono ?_;rintro e w7 ⟨rfl,Qx⟩;replace Qx:=zA3 Qx)
     refine bodyPost_ret (v:=.tuple #[.string (T0++(U1++R)),.int .i64 0]) (by simp[results,Tryz.results63,go_sem]) rfl ⟨_,by rw[zA0 JM],.inr (.inl ⟨rfl,rfl⟩),zA2 (zA0 DA) (zA0 Qx)⟩
end Go.Proofs.YtekgpapophibcaaGreat
