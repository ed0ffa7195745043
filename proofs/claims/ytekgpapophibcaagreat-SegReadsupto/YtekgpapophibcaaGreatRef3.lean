import Derived.Test.YtekgpapophibcaaGreatRefD
set_option linter.unusedSimpArgs false
set_option linter.unusedVariables false
set_option maxHeartbeats 8000000
set_option maxRecDepth 100000
namespace Go.Proofs.YtekgpapophibcaaGreat
open Go.RowKit Go.Sort
theorem zT4(X:Vc)(p:Sl)(kd:Nat)(w:World)(hs:small X)(hp:zAi w X p)(hg:zAg X=true)(hk:X.k=(kd:Int))(YG:kd=1∨kd=2)(h4:¬(3=4/\kd=2))(hl:X.nl.length<=4096) :
  Calls Tryz.prog 63 #[zCC X p,.int .i64 3] w fun e w'=>∃b,e=.returned (.tuple #[.string (toB (zB2 3 kd (zAD X)++b)),.int .i64 0])/\zK9 3 (zAA (zAD X)) b/\Below w.heap.size w w':=by
 rw[zAM]
 have bl:=zA1 (Below.refl _ w) (.cells #[.int .i64 X.k,.slice p.a1 X.nl.length p.c1,.slice p.a2 X.ns.length p.c2,.slice p.a3 X.ss.length p.c3] 49)
 have HG:=zA3 (zCi X p _ hs (hp.later bl))
 rw[zAM] at HG
 rw[hg] at HG
 have Qh:Hid ((zAD X).length=X.nl.length):=zAb hg
 have Yf:X.nl.length<=1048576:=hs.1
 have FACT:Hid (∀w1,Below (w.alloc (.cells #[.int .i64 X.k,.slice p.a1 X.nl.length p.c1,.slice p.a2 X.ns.length p.c2,.slice p.a3 X.ss.length p.c3] 49)).heap.size (w.alloc (.cells #[.int .i64 X.k,.slice p.a1 X.nl.length p.c1,.slice p.a2 X.ns.length p.c2,.slice p.a3 X.ss.length p.c3] 49)) w1->(w1.cell? ⟨w.heap.size,0,none⟩=some (.int .i64 X.k)/\w1.cell? ⟨w.heap.size,1,none⟩=some (.slice p.a1 X.nl.length p.c1)/\w1.cell? ⟨w.heap.size,2,none⟩=some (.slice p.a2 X.ns.length p.c2)/\w1.cell? ⟨w.heap.size,3,none⟩=some (.slice p.a3 X.ss.length p.c3))/\Hid (Below w.heap.size w w1)):=fun w1 Hb=>by
  obtain⟨Qj,_⟩:=zCR Hb
  refine⟨⟨?_,?_,?_,?_⟩,zA2 bl Hb⟩<;>(rw[Qj _ _ (by simp)];simp[go_sem])
 have HV:Hid (∀W,Hid (Below w.heap.size w W)->Calls Tryz.prog 64 #[.agg #[.int .i64 X.k,.slice p.a1 X.nl.length p.c1,.slice p.a2 X.ns.length p.c2,.slice p.a3 X.ss.length p.c3]] W fun e w'=>∃a6 c6,e=.returned (.slice a6 X.nl.length c6)/\Hid (zAR w' a6 (zAD X))/\Hid (Below W.heap.size W w')):=fun W hW=>by
  have:=zCJ X p W hs (hp.later hW)
  rw[zAM] at this
  refine this.mono fun e w' ⟨v,he,h1,h2⟩=>?_
  obtain⟨a6,c6,rfl,_,_,hr⟩:=zAC h1
  rw[zAb hg] at he
  exact⟨a6,c6,he,hr,h2⟩
 have QQ:Hid (∀W a6 c6,Hid (zAR W a6 (zAD X))->Hid (Below w.heap.size w W)->Calls Tryz.prog 66 #[.slice a6 X.nl.length c6] W fun e w'=>∃a7 c7,e=.returned (.slice a7 (zAA (zAD X)).length c7)/\Hid (zAV w' W.heap.size (.slice a7 (zAA (zAD X)).length c7) (zAA (zAD X)))/\Hid (Below W.heap.size W w')):=fun W a6 c6 hr hW=>by
  have:=zDZ a6 c6 (zAD X) W (by rw[zAb hg];exact Yf) hr
  rw[zAb hg] at this
  refine this.mono fun e w' ⟨v,he,h1,h2⟩=>?_
  obtain⟨a7,c7,rfl,_,_,_⟩:=zAC h1
  exact⟨a7,c7,he,h1,h2⟩
 have Zr:Hid (∀W B a7 c7,Hid (zAV W B (.slice a7 (zAA (zAD X)).length c7) (zAA (zAD X)))->Hid (Below w.heap.size w W)->Calls Tryz.prog 65 #[.slice a7 (zAA (zAD X)).length c7] W fun e w'=>∃S a8 c8,e=.returned (.slice a8 (zBx S S.length).length c8)/\Hid (S.Perm (zAA (zAD X))/\zBe S)/\Hid (zAR w' a8 (zBx S S.length))/\Hid (Below W.heap.size W w')):=fun W B a7 c7 ho hW=>by
  refine(zD1 B (zAA (zAD X)) _ W (Nat.le_trans (zC1 _) (by rw[zAb hg];exact Yf)) ho).mono fun e w' ⟨S,v,he,h1,h2,h3⟩=>?_
  obtain⟨a8,c8,rfl,_,_,hr⟩:=zAC h2
  exact⟨S,a8,c8,he,h1,hr,h3⟩
 have i0:¬(4096:Int)<(X.nl.length:Int):=by omega
 have GJ:Hid (∀x∈zAA (zAD X),x.s.size<=1000):=fun x hx=>zCD hg (List.mem_filter.1 hx).1
 have QA:Hid ((zAA (zAD X)).length<=4096):=Nat.le_trans (zC1 _) (by rw[zAb hg];exact hl)
 have KN:=zA3 (zRn 3 kd (by omega) (by omega))
 have TP:(kd:Int)<=2:=by omega
 obtain⟨ys,YE⟩:∃ys,Hid (ys=zAA (zAD X)):=⟨_,rfl⟩
 rw[<-zA0 YE] at QQ Zr GJ QA ⊢
 obtain⟨xs,ZT⟩:∃xs,Hid (xs=zAD X):=⟨_,rfl⟩
 rw[<-zA0 ZT] at HV QQ Qh ⊢
 rw[hk] at FACT HG HV ⊢
 have yS:Hid (ys=zAA xs):=by show _=_;rw[zA0 YE,zA0 ZT]
 have yT:Hid (∀S:List Val,S.Perm ys->(zBx S S.length).length<=4096):=fun S hp=>Nat.le_trans (zDi S S.length) (by rw[hp.length_eq];exact zA0 QA)
 clear hg bl hs hp hk YG h4
 go_enter Tryz.func63,Tryz.ntmps63
 go_upto_region 8 with (first
  | (go_at_call 69;refine(zA0 HG).mono ?_;rintro e w1 ⟨rfl,Hb⟩;obtain⟨⟨c0,c1,c2,c3⟩,Hw⟩:=zA0 FACT _ Hb;clear Hb)
  | (go_at_call 64;refine(zA0 HV _ Hw).mono ?_;rintro e w2 ⟨a6,c6,rfl,R6,Hh⟩;have YP:=zA3 (zA2 (zA0 Hw) (zA0 Hh)))
  | (go_at_call 66;refine(zA0 QQ _ _ _ R6 YP).mono ?_;rintro e w3 ⟨a7,c7,rfl,R7,Hz⟩;have YO:=zA3 (zA2 (zA0 YP) (zA0 Hz)))
  | (go_at_call 65;refine(zA0 Zr _ _ _ _ R7 YO).mono ?_;rintro e w4 ⟨S,a8,c8,rfl,HS,R8,Qe⟩;have Zu:((zBx S S.length).length:Int)<=4096:=(by have:=zA0 yT S (zA0 HS).1;omega))
  | fail)
 obtain⟨W5,GD⟩:∃W5,Hid (W5=w4.alloc (.cells #[.slice a8 (zBx S S.length).length c8] 37)):=⟨_,rfl⟩
 have RS:Hid (RSt w W5 (kd:Int) xs ys (zBx S S.length) a6 a7 a8 c8 w4.heap.size):=by
  have b5:Below w4.heap.size w4 W5:=by rw[zA0 GD];exact zA1 (Below.refl _ _) _
  obtain⟨a7',c7',e7,_,_,r7⟩:=zAC (zA0 R7)
  injection e7 with e7 _ _
  subst e7
  exact⟨cell_later b5 (cell_later (zA0 Qe) (cell_later (zA0 Hz) (cell_later (zA0 Hh) c0))),(((zA0 R6).later (zA0 Hz)).later (zA0 Qe)).later b5,(r7.later (zA0 Qe)).later b5,(zA0 R8).later b5,by rw[zA0 GD];simp[go_sem],zA2 (zA2 (zA0 YO) (zA0 Qe)) b5⟩
 rw[<-zA0 GD]
 have JX:=(zA0 RS).k0
 have Dk:Hid (∃S,S.Perm ys/\zBe S/\zBx S S.length=zBx S S.length):=⟨S,(zA0 HS).1,(zA0 HS).2,rfl⟩
 obtain⟨Wd,qH⟩:∃Wd,Hid (Wd=zBx S S.length):=⟨_,rfl⟩
 rw[<-zA0 qH] at RS Zu ⊢
 obtain⟨B8,qJ⟩:∃B8,Hid (B8=w4.heap.size):=⟨_,rfl⟩
 rw[<-zA0 qJ] at RS ⊢
 clear c0 c1 c2 c3 Hw Hh Hz Qe YP YO R6 R7 R8 GD FACT HV QQ Zr HG yT Yf qJ Dk
 go_cut[9] (fun s9 wx=>s9=.string (toB ((beL (3:Int) 1 1++beL (kd:Int) 1 1)++beL (X.nl.length:Int) 4 4))/\Hid (RSt w wx (kd:Int) xs ys Wd a6 a7 a8 c8 B8))
 case first=>
  have Qb:(kd:Int)<=2/\0<=(kd:Int):=by omega
  have YC:=zA3 (fun W'=>zBK (X.nl.length:Int) 4 W' (by omega))
  obtain⟨T1,YX⟩:∃T1,Hid (toB [(3:Int),(kd:Int)]=T1):=⟨_,rfl⟩
  obtain⟨T2,GG⟩:∃T2,Hid (toB (beL (X.nl.length:Int) 4 4)=T2):=⟨_,rfl⟩
  have GE:T1.size+T2.size<=9223372036854775807:=by rw[<-zA0 YX,<-zA0 GG,zAN,zAN,zAK];simp
  have GF:Hid (T1++T2=toB ((beL (3:Int) 1 1++beL (kd:Int) 1 1)++beL (X.nl.length:Int) 4 4)):=by
   show _=_
   rw[<-zA0 YX,<-zA0 GG,zAJ]
   exact congrArg (·++toB (beL (X.nl.length:Int) 4 4)) (zA0 KN)
  rw[zA0 GG] at YC
  have Ht:(fun w':World=>w'.cell? ⟨w.heap.size,0,none⟩=some (.int .i64 (kd:Int))) W5.drew:=JX
  have RSC:Hid (RSt w W5.drew (kd:Int) xs ys Wd a6 a7 a8 c8 B8):=(zA0 RS).later ((Below.refl _ _).drew)
  clear JX RS
  refine wp_region_noPanic ?_
  refine zAu (S:=fun w':World=>w'.cell? ⟨w.heap.size,0,none⟩=some (.int .i64 (kd:Int))) (k:=11) (by kernel_rfl) ?_
  refine zA6 (i:=0) (v:=(.int .i64 3)) [1,5,6,11] rfl (fun _ _ _ h=>h) (Or.inl ⟨by rfl,fun w' hSw=>?_⟩) Ht ?_
  ·dsimp only at hSw;go_simp;try (first|exact zCB Qb|rfl|exact zAW (by omega))
  try simp only[Act.put,zAI,zAH,zAG]
  refine zA6 (i:=1) (v:=(.int .u8 3)) [5,6,11] rfl (fun _ _ _ h=>h) (Or.inl ⟨by rfl,fun w' hSw=>?_⟩) Ht ?_
  ·dsimp only at hSw;go_simp;try (first|exact zCB Qb|rfl|exact zAW (by omega))
  try simp only[Act.put,zAI,zAH,zAG]
  refine zA6 (i:=2) (v:=(.pointer (some ⟨w.heap.size,0,none⟩))) [3,4,5,6,11] rfl (fun _ _ _ h=>h) (Or.inl ⟨by rfl,fun w' hSw=>?_⟩) Ht ?_
  ·dsimp only at hSw;go_simp;try (first|exact zCB Qb|rfl|exact zAW (by omega))
  try simp only[Act.put,zAI,zAH,zAG]
  refine zA6 (i:=3) (v:=(.int .i64 (kd:Int))) [4,5,6,11] rfl (fun _ _ _ h=>h) (Or.inl ⟨by rfl,fun w' hSw=>?_⟩) Ht ?_
  ·dsimp only at hSw;go_simp;try (first|exact zCB Qb|rfl|exact zAW (by omega))
  try simp only[Act.put,zAI,zAH,zAG]
  refine zA6 (i:=4) (v:=(.int .u8 (kd:Int))) [5,6,11] rfl (fun _ _ _ h=>h) (Or.inl ⟨by rfl,fun w' hSw=>?_⟩) Ht ?_
  ·dsimp only at hSw;go_simp;try (first|exact zCB Qb|rfl|exact zAW (by omega))
  try simp only[Act.put,zAI,zAH,zAG]
  refine zA6 (i:=7) (v:=(.slice a6 X.nl.length c6)) [8,9,10,11] rfl (fun _ _ _ h=>h) (Or.inl ⟨by rfl,fun w' hSw=>?_⟩) Ht ?_
  ·dsimp only at hSw;go_simp;try (first|exact zCB Qb|rfl|exact zAW (by omega))
  try simp only[Act.put,zAI,zAH,zAG]
  refine zA6 (i:=8) (v:=(.int .i64 X.nl.length)) [9,10,11] rfl (fun _ _ _ h=>h) (Or.inl ⟨by rfl,fun w' hSw=>?_⟩) Ht ?_
  ·dsimp only at hSw;go_simp;try (first|exact zCB Qb|rfl|exact zAW (by omega))
  try simp only[Act.put,zAI,zAH,zAG]
  refine zA6 (i:=9) (v:=(.int .u64 X.nl.length)) [10,11] rfl (fun _ _ _ h=>h) (Or.inl ⟨by rfl,fun w' hSw=>?_⟩) Ht ?_
  ·dsimp only at hSw;go_simp;try (first|exact zCB Qb|rfl|exact zAW (by omega))
  try simp only[Act.put,zAI,zAH,zAG]
  clear Ht
  refine zBF [5,10] (by kernel_rfl) (by simp) ?_
  intro i hi
  simp only[List.mem_cons,List.not_mem_nil,or_false] at hi
  rcases hi with rfl|rfl
  ·refine zA4 rfl (by rfl) fun K hK=>?_
   go_simp
   have YH:Hid (zBC (W5.alloc (.cells #[.int .u8 (3:Int),.int .u8 (kd:Int)] 5)).drew 0 (.slice (some ⟨W5.heap.size,0,none⟩) 2 2) [(3:Int),(kd:Int)]):=World.ownsRow.drew (zE5 W5 (3:Int) (kd:Int))
   have RSB:Hid (RSt w (W5.alloc (.cells #[.int .u8 (3:Int),.int .u8 (kd:Int)] 5)).drew (kd:Int) xs ys Wd a6 a7 a8 c8 B8):=(zA0 RSC).later ((zA1 (Below.refl _ W5.drew) (.cells #[.int .u8 (3:Int),.int .u8 (kd:Int)] 5)))
   refine zA0 hK _ _ ⟨fun _=>(zA0 RSB).k0,?_⟩
   clear hK K
   generalize yi:(W5.alloc (.cells #[.int .u8 (3:Int),.int .u8 (kd:Int)] 5)).drew=WB at *
   clear yi
   refine zBF [6,10] (by kernel_rfl) (by simp) ?_
   intro i hi
   simp only[List.mem_cons,List.not_mem_nil,or_false] at hi
   rcases hi with rfl|rfl
   ·refine zA4 rfl (by rfl) fun K hK=>?_
    have Qm:=zAe (zA0 YH)
    rw[zA0 YX] at Qm
    go_simp
    refine zA0 hK _ _ ⟨fun _=>(zA0 RSB).k0,?_⟩
    clear hK K Qm
    refine zA7 (i:=10) (by kernel_rfl) ?_
    refine zA4 rfl (by rfl) fun K hK=>?_
    go_simp
    refine(zA0 YC _).mono ?_
    rintro e w9 ⟨rfl,Ho⟩
    have RS9:=zA3 ((zA0 RSB).later Ho)
    clear Ho
    go_simp
    refine zA0 hK _ _ ⟨fun _=>(zA0 RS9).k0,?_⟩
    clear hK K
    refine zA7 (i:=11) (by kernel_rfl) ?_
    refine zA4 rfl (by rfl) fun K hK=>?_
    go_simp
    rw[if_neg (Nat.not_lt.2 GE)]
    go_simp
    refine zA0 hK _ _ ⟨fun hh=>absurd hh (by decide),?_⟩
    clear hK K
    refine zA7 (i:=12) (by kernel_rfl) ?_
    refine zA4 rfl (by rfl) fun K hK=>?_
    go_simp
    refine zA0 hK _ _ ⟨fun hh=>absurd hh (by decide),?_⟩
    clear hK K
    refine zAl (by kernel_rfl) ?_ _
    refine NoPanic.normal ?_
    go_wp2
    go_meet
    exact⟨by rw[zA0 GF],zA0 RS9⟩
   ·refine zA4 rfl (by rfl) fun K hK=>?_
    go_simp
    refine(zA0 YC _).mono ?_
    rintro e w9 ⟨rfl,Ho⟩
    have RS9:=zA3 ((zA0 RSB).later Ho)
    replace YH:=zA3 (zAc (zA0 YH) Ho)
    clear Ho
    go_simp
    refine zA0 hK _ _ ⟨fun _=>(zA0 RS9).k0,?_⟩
    clear hK K
    refine zA7 (i:=6) (by kernel_rfl) ?_
    refine zA4 rfl (by rfl) fun K hK=>?_
    have Qm:=zAe (zA0 YH)
    rw[zA0 YX] at Qm
    go_simp
    refine zA0 hK _ _ ⟨fun _=>(zA0 RS9).k0,?_⟩
    clear hK K Qm
    refine zA7 (i:=11) (by kernel_rfl) ?_
    refine zA4 rfl (by rfl) fun K hK=>?_
    go_simp
    rw[if_neg (Nat.not_lt.2 GE)]
    go_simp
    refine zA0 hK _ _ ⟨fun hh=>absurd hh (by decide),?_⟩
    clear hK K
    refine zA7 (i:=12) (by kernel_rfl) ?_
    refine zA4 rfl (by rfl) fun K hK=>?_
    go_simp
    refine zA0 hK _ _ ⟨fun hh=>absurd hh (by decide),?_⟩
    clear hK K
    refine zAl (by kernel_rfl) ?_ _
    refine NoPanic.normal ?_
    go_wp2
    go_meet
    exact⟨by rw[zA0 GF],zA0 RS9⟩
  ·refine zA4 rfl (by rfl) fun K hK=>?_
   go_simp
   refine(zA0 YC _).mono ?_
   rintro e w9 ⟨rfl,Ho⟩
   have RS9:=zA3 ((zA0 RSC).later Ho)
   clear Ho
   go_simp
   refine zA0 hK _ _ ⟨fun _=>(zA0 RS9).k0,?_⟩
   clear hK K
   refine zA7 (i:=5) (by kernel_rfl) ?_
   refine zA4 rfl (by rfl) fun K hK=>?_
   go_simp
   have YH:=zA3 (zE5 w9 (3:Int) (kd:Int))
   have RSB:=zA3 ((zA0 RS9).later (zA1 (Below.refl _ w9) (.cells #[.int .u8 (3:Int),.int .u8 (kd:Int)] 5)))
   refine zA0 hK _ _ ⟨fun _=>(zA0 RSB).k0,?_⟩
   clear hK K
   refine zA7 (i:=6) (by kernel_rfl) ?_
   refine zA4 rfl (by rfl) fun K hK=>?_
   have Qm:=zAe (zA0 YH)
   rw[zA0 YX] at Qm
   go_simp
   refine zA0 hK _ _ ⟨fun _=>(zA0 RSB).k0,?_⟩
   clear hK K Qm
   refine zA7 (i:=11) (by kernel_rfl) ?_
   refine zA4 rfl (by rfl) fun K hK=>?_
   go_simp
   rw[if_neg (Nat.not_lt.2 GE)]
   go_simp
   refine zA0 hK _ _ ⟨fun hh=>absurd hh (by decide),?_⟩
   clear hK K
   refine zA7 (i:=12) (by kernel_rfl) ?_
   refine zA4 rfl (by rfl) fun K hK=>?_
   go_simp
   refine zA0 hK _ _ ⟨fun hh=>absurd hh (by decide),?_⟩
   clear hK K
   refine zAl (by kernel_rfl) ?_ _
   refine NoPanic.normal ?_
   go_wp2
   go_meet
   exact⟨by rw[zA0 GF],zA0 RSB⟩
 case rest=>
  obtain⟨rfl,RX⟩:=hcut
  rename World=>wx
  obtain⟨bb,e85⟩:∃bb,((ys.length:Int) == (X.nl.length:Int))=bb:=⟨_,rfl⟩
  go_upto_if 85 with fail
  go_cut[9] (fun s9 wy=>s9=.string (toB (zB2 3 kd xs))/\Hid (RSt w wy (kd:Int) xs ys Wd a6 a7 a8 c8 B8))
  case first=>
   have GM:Hid (toB (zB2 3 kd xs)=toB ((beL (3:Int) 1 1++beL (kd:Int) 1 1)++beL (X.nl.length:Int) 4 4)++toB (zBT xs)):=by
    show _=_
    rw[zB2,zAJ,zA0 Qh]
    rfl
   obtain⟨T3,yR⟩:∃T3,Hid (toB ((beL (3:Int) 1 1++beL (kd:Int) 1 1)++beL (X.nl.length:Int) 4 4)=T3):=⟨_,rfl⟩
   have FZ:T3.size<=100:=by rw[<-zA0 yR,zAN,zAX,zAX,zAK,zAK,zAK];omega
   rw[zA0 yR] at GM ⊢
   have QX:=zA3 e85
   clear e85
   cases bb
   rotate_left 1
   ·have QD:ys.length=X.nl.length:=by have h:=zA0 QX;simp at h;omega
    have YA:Hid (toB (zBT xs)=⟨#[0]⟩):=by
     show _=_
     rw[zGN (by rw[<-zA0 yS,QD,zA0 Qh])]
     rfl
    clear QD
    go_wp2
    go_meet
    exact⟨by rw[zA0 GM,zA0 YA],RX⟩
   ·have QD:¬ys.length=X.nl.length:=by have h:=zA0 QX;simp at h;omega
    have YA:Hid (toB (zBT xs)=(⟨#[1]⟩:ByteArray)++toB (leB (zBG 1 (zAS xs)) (zAO xs.length 1))):=by
     show _=_
     rw[zFK (by rw[<-zA0 yS,zA0 Qh];exact QD),zAJ]
     rfl
    have ZK:Hid ((zAS xs).length=X.nl.length):=by show _=_;rw[<-zA0 Qh];simp[zAS]
    clear QD
    have QM:∀W:World,(Instr.field 59 (.agg #[.int .i64 1,.int .i64 1,.string ⟨#[]⟩]) 1).run Tryz.prog W=.ok (.int .i64 1) W:=fun _=>by kernel_rfl
    have DW:∀W:World,(Instr.field 59 (.agg #[.int .i64 1,.int .i64 0,.string ⟨#[]⟩]) 1).run Tryz.prog W=.ok (.int .i64 0) W:=fun _=>by kernel_rfl
    go_wp2_with fail
    go_loopw[10,90] (fun s10 s wr=>∃k:Nat,k<=X.nl.length/\s=.int .i64 (k:Int)/\zKE wr wx.heap.size s10 ((zAS xs).take k)/\Below wx.heap.size wx wr) (fun _ s _=>X.nl.length-(intOf s).toNat)
    case atStart=>exact⟨0,Nat.zero_le _,rfl,World.ownsRow_nil _ _ _ _,Below.refl _ _⟩
    case round=>
     obtain⟨k,hk,rfl,ho,hb⟩:=hrel
     by_cases h8:k<X.nl.length
     ·have h9:(k:Int)<(X.nl.length:Int):=by omega
      obtain⟨x,hx⟩:∃x,xs[k]?=some x:=⟨_,zAf (by rw[zA0 Qh];exact h8)⟩
      rcases((zA0 RX).later hb).r6 with e|⟨rb,ro,rfl,hc⟩
      ·rw[e] at hx;cases hx
      obtain⟨d0,d1,d2⟩:=hc k x hx
      have bl:=zA1 (Below.refl _ wr) (.cells #[.int .i64 x.k,.int .i64 x.n,.string x.s] 59)
      have YU:=zA3 (ho.later bl)
      have Qa:=zA3 (zA2 hb bl)
      have Yq:((zAS xs).take k).length<=1048576:=by rw[List.length_take];omega
      have Yt:=zA3 Yq
      have Zc:Hid ((zAS xs).take (k+1)=(zAS xs).take k++[if zAr x then 1 else 0]):=by
       show _=_
       have h2:(zAS xs)[k]?=some (if zAr x then 1 else 0):=by simp[zAS,hx]
       obtain⟨h3,h4⟩:=zAL h2
       rw[List.take_succ_eq_append_getElem h3,h4]
      clear hc hx ho hb bl Yq
      rcases Bool.eq_false_or_eq_true (zAr x) with e1|e1
      ·have e2:(x.k == 0)=true:=e1
       rw[e1,if_pos rfl] at Zc
       clear e1
       go_wp2_with (first
        | (go_at_call 82;refine(zEY _).mono ?_;rintro e w9 ⟨rfl,Ho⟩;have Je:=zA3 ((zA0 YU).later Ho);have YD:=zA3 (zA2 (zA0 Qa) Ho);clear Ho)
        | (at_builtin;refine zAx w9 1 rfl (.tmp 94) (.tmp 101) rfl wx.heap.size _ _ rfl rfl (zA0 Je) (zA0 Yt) (zA0 YD).size ?_;intro v1 w8 g1 g2;replace g1:=zA3 g1;replace g2:=zA3 g2))
       go_roundw
       case rel=>exact⟨k+1,by omega,by go_num,by rw[zA0 Zc];exact zA0 g1,(zA0 YD).trans (zA0 g2)⟩
       case measure=>first | (simp[intOf];omega) | (simp only[intOf];omega)
      ·have e2:(x.k == 0)=false:=e1
       rw[e1,if_neg (by simp)] at Zc
       clear e1
       go_wp2_with (first
        | (go_at_call 82;refine(zFE _).mono ?_;rintro e w9 ⟨rfl,Ho⟩;have Je:=zA3 ((zA0 YU).later Ho);have YD:=zA3 (zA2 (zA0 Qa) Ho);clear Ho)
        | (at_builtin;refine zAx w9 0 rfl (.tmp 94) (.tmp 101) rfl wx.heap.size _ _ rfl rfl (zA0 Je) (zA0 Yt) (zA0 YD).size ?_;intro v1 w8 g1 g2;replace g1:=zA3 g1;replace g2:=zA3 g2))
       go_roundw
       case rel=>exact⟨k+1,by omega,by go_num,by rw[zA0 Zc];exact zA0 g1,(zA0 YD).trans (zA0 g2)⟩
       case measure=>first | (simp[intOf];omega) | (simp only[intOf];omega)
     ·have h9:¬(k:Int)<(X.nl.length:Int):=by omega
      have Qk:k=(zAS xs).length:=by rw[zA0 ZK];omega
      rw[Qk,List.take_length] at ho
      obtain⟨a10,c10,e10,Qv⟩:=ho.lis
      have Gu:=zA3 (zDb a10 c10 (zAS xs) 1 wr (by rw[zA0 ZK];omega) (by omega) (fun m hm=>by
       obtain⟨x,_,rfl⟩:=List.mem_map.1 hm
       split<;>decide) Qv)
      have RZ:=zA3 ((zA0 RX).later hb)
      subst e10
      obtain⟨T4,ZG⟩:∃T4,Hid (toB (leB (zBG 1 (zAS xs)) (zAO (zAS xs).length 1))=T4):=⟨_,rfl⟩
      have yQ:T4.size<=1000:=by
       rw[<-zA0 ZG,zAN,zBw,zA0 ZK]
       unfold zAO
       omega
      have JM:Hid (toB (zB2 3 kd xs)=T3++((⟨#[1]⟩:ByteArray)++T4)):=by
       show _=_
       rw[zA0 GM,zA0 YA,<-zA0 ZG,zA0 ZK,zA0 Qh]
      rw[zA0 ZG] at Gu
      have Fv:((⟨#[1]⟩:ByteArray)++T4).size=1+T4.size:=by rw[ByteArray.size_append];rfl
      clear ho hb Qk Qv GM YA
      go_wp2_with (go_at_call 83;refine(zA0 Gu).mono ?_;rintro e w7 ⟨rfl,Qx⟩;replace Qx:=zA3 Qx)
      go_meet
      exact⟨by rw[zA0 JM],(zA0 RZ).later (zA0 Qx)⟩
  case rest=>
   obtain⟨rfl,RY⟩:=hcut
   clear e85
   rename World=>wy
   have Gw:=zA0 QA
   have HWM:Hid (∀x∈Wd,x∈ys):=fun x hx=>by rw[zA0 qH] at hx;exact(zA0 HS).1.mem_iff.1 ((zKP S).mem hx)
   have HWR:Hid (zBe Wd):=by rw[zA0 qH];exact(zA0 HS).2.sublist (zKP S)
   have qg:Hid ((toB (zB2 3 kd xs)).size<=1000000):=by
    show _<=_
    rw[zAN]
    have:=zDc xs (by rw[zA0 Qh];exact hl)
    simp only[zB2,zAX,zAK]
    omega
   have YC:=zA3 (fun W'=>zBK (Wd.length:Int) 2 W' (by omega))
   obtain⟨T5,hT5⟩:∃T5,Hid (toB (beL (Wd.length:Int) 2 2)=T5):=⟨_,rfl⟩
   have hT5s:T5.size=2:=by rw[<-zA0 hT5,zAN,zAK]
   obtain⟨T0,JA⟩:∃T0,Hid (toB (zB2 3 kd xs)=T0):=⟨_,rfl⟩
   have hT0s:T0.size<=1000000:=by rw[<-zA0 JA];exact zA0 qg
   have HT05:Hid (T0++T5=toB (zB2 3 kd xs++beL (Wd.length:Int) 2 2)):=by show _=_;rw[zAJ,zA0 JA,zA0 hT5]
   have HT05s:Hid ((T0++T5).size<=1000002):=by show _<=_;rw[ByteArray.size_append];omega
   rw[zA0 hT5] at YC
   rw[zA0 JA]
   have cB:=(zA0 RY).b8
   go_upto_region 39 with (first | (go_at_call 32;refine(zA0 YC _).mono ?_;rintro e wz ⟨rfl,yf⟩;have RZ:=zA3 ((zA0 RY).later yf);have cBz:=(zA0 RZ).b8;clear yf)|fail)
   clear cB
   go_wp2_with fail
   clear cBz
   go_loopw[9,181] (fun s9 s wr=>∃(k:Nat) (T:ByteArray),k<=Wd.length/\s=.int .i64 (k:Int)/\s9=.string T/\T.size<=1000002+1008*k/\Hid (T=toB (zB2 3 kd xs++(beL (Wd.length:Int) 2 2++zBO (Wd.take k))))/\Below wz.heap.size wz wr) (fun _ s _=>Wd.length-(intOf s).toNat)
   case atStart=>exact⟨0,_,Nat.zero_le _,rfl,rfl,zA0 HT05s,by rw[List.take_zero,zBO,List.flatMap_nil,List.append_nil];exact HT05,Below.refl _ _⟩
   case round=>
    obtain⟨k,T,hk,rfl,rfl,GE,HT,hb⟩:=hrel
    by_cases h8:k<Wd.length
    ·have h9:(k:Int)<(Wd.length:Int):=by omega
     obtain⟨x,hx⟩:∃x,Wd[k]?=some x:=⟨_,zAf h8⟩
     rcases((zA0 RZ).later hb).r8 with e|⟨rb,ro,rfl,hc⟩
     ·rw[e] at hx;cases hx
     obtain⟨d0,d1,d2⟩:=hc k x hx
     have Fk:=zA0 GJ x (zA0 HWM x (List.mem_of_getElem? hx))
     have HP:=zA3 (fun W'=>zEB x W' (by omega))
     rw[Val.open_] at HP
     have HPN:=zA3 (zEr hx)
     have Zw:=zD3 x
     obtain⟨U,hU⟩:∃U,Hid (toB (zB8 x)=U):=⟨_,rfl⟩
     have hUs:U.size<=1008:=by rw[<-zA0 hU,zAN];omega
     have HTU:Hid (T++U=toB (zB2 3 kd xs++(beL (Wd.length:Int) 2 2++zBO (Wd.take (k+1))))):=by
      show _=_
      rw[zA0 HT,zA0 HPN,<-zA0 hU,<-zAJ]
      simp only[List.append_assoc]
     have Ks:Hid ((T++U).size<=1000002+1008*(k+1)):=by
      show _<=_
      rw[ByteArray.size_append]
      omega
     rw[zA0 hU] at HP
     have Fs:T.size+U.size<=9223372036854775807:=by omega
     have Qa:=zA3 (zA1 hb (.cells #[.int .i64 x.k,.int .i64 x.n,.string x.s] 59))
     clear hc hx hb Zw Fk
     go_wp2_with (go_at_call 84;refine(zA0 HP _).mono ?_;rintro e w9 ⟨rfl,Ho⟩;have YD:=zA3 (zA2 (zA0 Qa) Ho);clear Ho)
     go_roundw
     case rel=>exact⟨k+1,_,by omega,by go_num,rfl,zA0 Ks,HTU,zA0 YD⟩
     case measure=>first | (simp[intOf];omega) | (simp only[intOf];omega)
    ·have h9:¬(k:Int)<(Wd.length:Int):=by omega
     have Qk:k=Wd.length:=by omega
     rw[Qk,List.take_length] at HT
     have hTs2:T.size<=10000000:=by omega
     have RW2:=zA3 ((zA0 RZ).later hb)
     have Ko:Hid (Wd.length<=4096):=by show _<=_;omega
     obtain⟨w6,qW⟩:∃w6,Hid (w6=wr):=⟨_,rfl⟩
     rw[<-zA0 qW] at RW2 ⊢
     clear hb Qk GE qW
     go_wp2_with fail
     go_loopw[21,192] (fun s21 s wr=>∃k:Nat,k<=ys.length/\s=.int .i64 (k:Int)/\zKE wr w6.heap.size s21 ((ys.map (zF1 Wd)).take k)/\Below w6.heap.size w6 wr) (fun _ s _=>ys.length-(intOf s).toNat)
     case atStart=>exact⟨0,Nat.zero_le _,rfl,World.ownsRow_nil _ _ _ _,Below.refl _ _⟩
     case round=>
      obtain⟨k,hk,rfl,ho,hb⟩:=hrel
      by_cases h8:k<ys.length
      ·have h9:(k:Int)<(ys.length:Int):=by omega
       obtain⟨x,hx⟩:∃x,ys[k]?=some x:=⟨_,zAf h8⟩
       have RW3:=(zA0 RW2).later hb
       rcases RW3.r7 with e|⟨rb,ro,rfl,hc⟩
       ·rw[e] at hx;cases hx
       obtain⟨d0,d1,d2⟩:=hc k x hx
       have bl:=zA1 (Below.refl _ wr) (.cells #[.int .i64 x.k,.int .i64 x.n,.string x.s] 59)
       have RW4:=RW3.later bl
       have cB:=RW4.b8
       have HSE:=zA3 (zMa Wd x a8 c8 B8 wr.heap.size (wr.alloc (.cells #[.int .i64 x.k,.int .i64 x.n,.string x.s] 59)) (by have:=zA0 Ko;omega) (zA0 HWR) RW4.r8 RW4.b8 ⟨by simp[go_sem],by simp[go_sem],by simp[go_sem]⟩)
       have YU:=zA3 (ho.later bl)
       have Qa:=zA3 (zA2 hb bl)
       have Yt:Hid (((ys.map (zF1 Wd)).take k).length<=1048576):=by show _<=_;rw[List.length_take];have:=zA0 QA;omega
       have Zc:Hid ((ys.map (zF1 Wd)).take (k+1)=(ys.map (zF1 Wd)).take k++[zF1 Wd x]):=by
        show _=_
        have h2:(ys.map (zF1 Wd))[k]?=some (zF1 Wd x):=by simp[hx]
        obtain⟨h3,h4⟩:=zAL h2
        rw[List.take_succ_eq_append_getElem h3,h4]
       have hpp:(zF1 Wd x:Int)<=4096:=by
        have h5:zF1 Wd x<=Wd.length:=(List.takeWhile_prefix _).length_le
        have:=zA0 Ko
        omega
       generalize zF1 Wd x=pp at *
       clear hc hx ho hb bl RW3 RW4
       go_wp2_with (first
        | (go_at_call 86;refine(zA0 HSE).mono ?_;rintro e w9 ⟨rfl,Ho⟩;have Je:=zA3 ((zA0 YU).later Ho);have YD:=zA3 (zA2 (zA0 Qa) Ho);clear Ho)
        | (at_builtin;refine zAx w9 pp rfl (.tmp 200) (.tmp 203) rfl w6.heap.size _ _ rfl rfl (zA0 Je) (zA0 Yt) (zA0 YD).size ?_;intro v1 w8 g1 g2;replace g1:=zA3 g1;replace g2:=zA3 g2))
       go_roundw
       case rel=>exact⟨k+1,by omega,by go_num,by rw[zA0 Zc];exact zA0 g1,(zA0 YD).trans (zA0 g2)⟩
       case measure=>first | (simp[intOf];omega) | (simp only[intOf];omega)
      ·have h9:¬(k:Int)<(ys.length:Int):=by omega
       have Qk:k=(ys.map (zF1 Wd)).length:=by rw[List.length_map];omega
       rw[Qk,List.take_length] at ho
       obtain⟨a10,c10,e10,Qv⟩:=ho.lis
       have Yc:bl (Wd.length-1)<=64:=zFr (Nat.lt_of_le_of_lt (show Wd.length-1<=4096 by have:=zA0 Ko;omega) (by decide))
       have Gu:=zA3 (zDb a10 c10 (ys.map (zF1 Wd)) (bl (Wd.length-1)) wr (by rw[List.length_map];have:=zA0 QA;omega) Yc (fun m hm=>by
        obtain⟨x,_,rfl⟩:=List.mem_map.1 hm
        have h5:zF1 Wd x<=Wd.length:=(List.takeWhile_prefix _).length_le
        have:=zA0 Ko
        omega) Qv)
       have RZ3:=(zA0 RW2).later hb
       have cB:=RZ3.b8
       have DA:=zA3 RZ3.bel
       subst e10
       rw[List.length_map] at Gu
       obtain⟨T4,ZG⟩:∃T4,Hid (toB (leB (zBG (bl (Wd.length-1)) (ys.map (zF1 Wd))) (zAO ys.length (bl (Wd.length-1))))=T4):=⟨_,rfl⟩
       have yQ:T4.size<=1000000:=by
        rw[<-zA0 ZG,zAN,zBw]
        have h6:=zA0 QA
        have h7:ys.length*bl (Wd.length-1)<=4096*64:=Nat.mul_le_mul h6 Yc
        unfold zAO
        omega
       have JM:Hid (T++T4=toB (zB2 3 kd xs++zDA Wd ys)):=by
        show _=_
        rw[zA0 HT,<-zA0 ZG,zDA,<-zAJ,List.append_assoc]
       rw[zA0 ZG] at Gu
       have YY:=zA3 (fun W'=>zFf (Wd.length-1) W' (by have:=zA0 Ko;omega))
       obtain⟨D0,hD0⟩:∃D0,Hid (Wd.length-1=D0):=⟨_,rfl⟩
       have e51:max (Wd.length:Int) 1-1=(D0:Int):=by rw[<-zA0 hD0,Int.max_def];split<;>omega
       have hD0i:(D0:Int)<=4096:=by rw[<-zA0 hD0];have:=zA0 Ko;omega
       have hmx:max (Wd.length:Int) 1<=4096:=by have:=zA0 Ko;rw[Int.max_def];split<;>omega
       have hmx1:1<=max (Wd.length:Int) 1:=by rw[Int.max_def];split<;>omega
       rw[zA0 hD0] at YY Gu
       generalize bl D0=DD at *
       have Ku:Hid (∃S,S.Perm ys/\zBe S/\zDA Wd ys=zDA (zBx S S.length) ys):=⟨S,(zA0 HS).1,(zA0 HS).2,by rw[zA0 qH]⟩
       clear ho hb Qk Qv RZ3
       go_wp2_with (first
        | (go_at_call 88;refine(zA0 YY _).mono ?_;rintro e w7 ⟨rfl,rfl⟩)
        | (go_at_call 83;refine(zA0 Gu).mono ?_;rintro e w7 ⟨rfl,Qx⟩;replace Qx:=zA3 Qx))
       refine bodyPost_ret (v:=.tuple #[.string (T++T4),.int .i64 0]) (by simp[results,Tryz.results63,go_sem]) rfl ⟨zDA Wd ys,by rw[zA0 JM],.inr (.inr (.inl ⟨rfl,zA0 Ku⟩)),zA2 (zA0 DA) (zA0 Qx)⟩
end Go.Proofs.YtekgpapophibcaaGreat
