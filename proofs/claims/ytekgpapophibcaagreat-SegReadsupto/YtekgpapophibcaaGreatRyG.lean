import Derived.Test.YtekgpapophibcaaGreatPackVa
set_option linter.unusedSimpArgs false
set_option linter.unusedVariables false
set_option maxHeartbeats 2000000
set_option maxRecDepth 100000
namespace Go.Proofs.YtekgpapophibcaaGreat
open Go.RowKit Go.Sort
def zEI(T d k j:Nat):Nat:=T / 2 ^ (d*j) % 2 ^ min d (k-d*j)
theorem zOy(T d j:Nat):zEI T d 0 j=0:=by simp[zEI,Nat.mod_one]
theorem zRJ{T d n j:Nat}(h:j<n):zEI T d (n*d) j=zBt T d j:=by
 unfold zEI zBt
 have:d*j+d<=n*d:=by rw[Nat.mul_comm d j,<-Nat.succ_mul];exact Nat.mul_le_mul_right d h
 rw[Nat.min_eq_left (by omega)]
theorem zP1{T d k q r:Nat}(hk:k=d*q+r)(hr:r<d):zEI T d k q=T / 2 ^ (d*q) % 2 ^ r:=by
 unfold zEI
 rw[Nat.min_eq_right (by omega)]
 congr 2;omega
theorem zP0{T d k q r:Nat}(hk:k=d*q+r)(hr:r<d):zEI T d (k+1) q=T / 2 ^ (d*q) % 2 ^ r+T / 2 ^ k % 2*2 ^ r:=by
 unfold zEI
 rw[Nat.min_eq_right (by omega)]
 have e:k+1-d*q=r+1:=by omega
 rw[e,Nat.pow_succ,Nat.mod_mul,hk,Nat.pow_add,<-Nat.div_div_eq_div_mul,Nat.mul_comm (2 ^ r)]
theorem zMr{T d k q r j:Nat}(hk:k=d*q+r)(hr:r<d)(hj:j≠q):zEI T d (k+1) j=zEI T d k j:=by
 unfold zEI
 rcases Nat.lt_or_gt_of_ne hj with h|h
 ·have:d*j+d<=d*q:=by rw[<-Nat.mul_succ];exact Nat.mul_le_mul_left d h
  rw[Nat.min_eq_left (by omega),Nat.min_eq_left (by omega)]
 ·have:d*q+d<=d*j:=by rw[<-Nat.mul_succ];exact Nat.mul_le_mul_left d h
  have e1:k+1-d*j=0:=by omega
  have e2:k-d*j=0:=by omega
  rw[e1,e2]
theorem zSD(T k:Nat):T / 256 ^ (k / 8) % 256 / 2 ^ (k % 8) % 2=T / 2 ^ k % 2:=by
 have e:k=8*(k / 8)+k % 8:=by omega
 have h8:k % 8<8:=by omega
 have e2:(256:Nat) ^ (k / 8)=2 ^ (8*(k / 8)):=by rw[Nat.pow_mul]
 conv=>rhs;rw[e,Nat.pow_add,<-Nat.div_div_eq_div_mul,<-e2]
 generalize T / 256 ^ (k / 8)=A
 generalize k % 8=s at *
 have h9:s=0∨s=1∨s=2∨s=3∨s=4∨s=5∨s=6∨s=7:=by omega
 rcases h9 with rfl|rfl|rfl|rfl|rfl|rfl|rfl|rfl<;>omega
abbrev S2 (w:World) (g q X:Nat):Prop:=w.cell? ⟨g,q,none⟩=some (.int .u64 (X:Int))/\w.frozen? ⟨g,q,none⟩=false
theorem zNL{b n d:Nat}{l t r:List UInt8}{bad:Bool}{w:World}(hn:n<=4096)(hd:d<=64)(h:Br w b l bad)(hl:l.length<=140737488355328)(ht:zAE l bad (zAO n d)=(t,r,false))(YR:t.length=zAO n d) :
  Calls Tryz.prog 67 #[.pointer (some ⟨b,0,none⟩),.int .i64 n,.int .i64 d] w fun e w'=>∃g,e=.returned (.slice (some ⟨g,0,none⟩) n n)/\w'.rowIs g 73 n (fun j=>.int .u64 (zBt (leV t) d j:Nat))/\w.heap.size<=g/\Br w' b r false/\Gr w w' b:=by
 obtain⟨i6,YL,z60,z61,z62⟩:=info_parts Tryz.info73
 have hN:n*d<=4096*64:=Nat.mul_le_mul hn hd
 obtain⟨N,Zn⟩:∃N,N=n*d:=⟨_,rfl⟩
 have e1:(n:Int)*(d:Int)=(N:Int):=by rw[Zn,Int.natCast_mul]
 obtain⟨B,hB⟩:∃B,B=zAO n d:=⟨_,rfl⟩
 have hBb:B=(N+7) / 8:=by rw[hB,Zn];rfl
 have e2:((N:Int)+7) / 8=(B:Int):=by omega
 have e2':((N:Int)+7).tdiv 8=(B:Int):=by rw[Int.tdiv_eq_ediv_of_nonneg (by omega)];exact e2
 rw[<-Zn] at hN
 have hN2:(N:Int)<=262144:=by omega
 have Ki:B<=1000000000:=by omega
 rw[<-hB] at ht
 have HT:=zA3 (zCI h hl Ki ht)
 have qJ:(B:Int)<=40000:=by omega
 have Qn:=h.ne
 have Gq:=zA3 Zn
 have Dm:Hid (t.length=B):=by rw[hB];exact YR
 have QX:=zA3 hBb
 clear h ht YR hB Zn hN hBb
 go_enter Tryz.func67,Tryz.ntmps67
 go_wp2_with (first
  | (go_at_call 39;refine(zA0 HT).mono ?_;rintro e w1 ⟨rfl,Hq,Hn⟩)
  | (at_make;refine wpList_make_row _ rfl (.tmp 17) (.tmp 17) 115 rfl 73 i6 (.int .u64 0) Tryz.underlying115 YL z60 z61 rfl .i64 .i64 n rfl rfl (by rw[z62];omega) (by omega) ?_))
 have Qp:=Hn.size
 obtain⟨g,hg⟩:∃g,g=w1.heap.size:=⟨_,rfl⟩
 have hbg:b≠g:=by omega
 have hgw:w.heap.size<=g:=by omega
 have Kz:Hid (Br (w1.alloc (.cells (madeCells #[.int .u64 0] n) 73)) b r false):=Hq.alloc _
 have HG1:Hid (Gr w (w1.alloc (.cells (madeCells #[.int .u64 0] n) 73)) b):=Hn.trans (Gr.alloc _ _ _)
 have YU:Hid ((w1.alloc (.cells (madeCells #[.int .u64 0] n) 73)).rowIs g 73 n (fun j=>.int .u64 (zEI (leV t) d 0 j:Nat))):=by
  rw[hg]
  exact(World.rowIs_made w1 (.int .u64 0) n 73).congr fun j hj=>by simp[zOy]
 rw[<-hg]
 clear Hq Hn hg Qp
 go_loopw[9] (fun i wr=>∃k:Nat,k<=N/\i=.int .i64 (k:Int)/\wr.rowIs g 73 n (fun j=>.int .u64 (zEI (leV t) d k j:Nat))/\Br wr b r false/\Gr w wr b) (fun i _=>N-(intOf i).toNat)
 case atStart=>exact⟨0,Nat.zero_le _,rfl,zA0 YU,zA0 Kz,zA0 HG1⟩
 case round=>
  obtain⟨k,hk,rfl,ho,hr,Hy⟩:=hrel
  obtain⟨c0,c1,f0,f1⟩:=hr.facts
  by_cases He:k<N
  ·have h9:(k:Int)<(N:Int):=by omega
   have Zp:0<d:=by
    rcases Nat.eq_zero_or_pos d with h0|h0
    ·rw[zA0 Gq,h0,Nat.mul_zero] at He;omega
    ·exact h0
   obtain⟨q,hq⟩:∃q,q=k / d:=⟨_,rfl⟩
   obtain⟨rr,Zd⟩:∃rr,rr=k % d:=⟨_,rfl⟩
   have hkq:k=d*q+rr:=by rw[hq,Zd];exact(Nat.div_add_mod k d).symm
   have hrd:rr<d:=by rw[Zd];exact Nat.mod_lt _ Zp
   have hqn:q<n:=by rw[hq];exact Nat.div_lt_of_lt_mul (by rw[Nat.mul_comm,<-zA0 Gq];exact He)
   obtain⟨X,hX⟩:∃X,X=zEI (leV t) d k q:=⟨_,rfl⟩
   obtain⟨p,hp⟩:∃p,p=k / 8:=⟨_,rfl⟩
   obtain⟨s,hs⟩:∃s,s=k % 8:=⟨_,rfl⟩
   have hpt:p<t.length:=by rw[zA0 Dm,zA0 QX];omega
   obtain⟨Y,hY,hix⟩:∃Y:Nat,Y=leV t / 256 ^ p % 256/\∀W,(Instr.index 9 (.string (bs t)) (.int .i64 (p:Int))).run Tryz.prog W=.ok (.int .u8 (Y:Int)) W:=⟨_,rfl,zJo t p hpt⟩
   have hY2:Y<256:=by rw[hY];exact Nat.mod_lt _ (by decide)
   obtain⟨Z,hZ⟩:∃Z,Z=Y / 2 ^ s % 2:=⟨_,rfl⟩
   have hZ2:Z=leV t / 2 ^ k % 2:=by rw[hZ,hY,hp,hs];exact zSD _ _
   have hZb:Z<2:=by rw[hZ];exact Nat.mod_lt _ (by decide)
   have hand:bits .and .u8 ((Y:Int) / 2 ^ s) 1=(Z:Int):=by
    have:=zK6 Y s 1 hY2 (by omega)
    rw[hZ];simpa using this
   obtain⟨V,hV⟩:∃V,V=Z*2 ^ rr:=⟨_,rfl⟩
   have hX2:X<2 ^ rr:=by rw[hX,zP1 hkq hrd];exact Nat.mod_lt _ (Nat.two_pow_pos rr)
   have h64:2 ^ (rr+1)<=2 ^ 64:=Nat.pow_le_pow_right (by decide) (by omega)
   have h64':(2:Nat) ^ 64=18446744073709551616:=by decide
   rw[Nat.pow_succ] at h64
   have hVb:V<=2 ^ rr:=by rw[hV];exact Nat.le_trans (Nat.mul_le_mul_right _ (by omega:Z<=1)) (by omega)
   have hVi:(Z:Int)*2 ^ rr=(V:Int):=by rw[hV,Int.natCast_mul,Int.natCast_pow];rfl
   have hVw:IntKind.u64.wrap ((Z:Int)*2 ^ rr)=(V:Int):=by rw[hVi,IntKind.wrap_u64];omega
   obtain⟨U,hU⟩:∃U,U=zEI (leV t) d (k+1) q:=⟨_,rfl⟩
   have hor:bits .or .u64 (X:Int) (V:Int)=(U:Int):=by
    rw[zP8 _ _ (by omega) (by omega),hV,zKs hX2,hU,zP0 hkq hrd,hX,zP1 hkq hrd,hZ2]
   have f3:(k:Int).tdiv (d:Int)=(q:Int):=by rw[Int.tdiv_eq_ediv_of_nonneg (by omega),hq,Int.natCast_ediv]
   have f3':(k:Int) / (d:Int)=(q:Int):=by rw[hq,Int.natCast_ediv]
   have f17:(k:Int).tmod (d:Int)=(rr:Int):=by rw[Int.tmod_eq_emod_of_nonneg (by omega),Zd,Int.natCast_emod]
   have f17':(k:Int) % (d:Int)=(rr:Int):=by rw[Zd,Int.natCast_emod]
   have f8:(k:Int) / 8=(p:Int):=by omega
   have f11:(k:Int) % 8=(s:Int):=by omega
   have f8':(k:Int).tdiv 8=(p:Int):=by rw[Int.tdiv_eq_ediv_of_nonneg (by omega)];exact f8
   have f11':(k:Int).tmod 8=(s:Int):=by rw[Int.tmod_eq_emod_of_nonneg (by omega)];exact f11
   have g3:((d:Int) == 0)=false:=by simp;omega
   have hdn:¬(d:Int)=0:=by omega
   have hqi:(q:Int)<(n:Int):=by omega
   have hdz:¬d=0:=by omega
   have hqw:IntKind.i64.wrap (q:Int)=(q:Int):=by rw[IntKind.wrap_i64];omega
   have hpw:IntKind.i64.wrap (p:Int)=(p:Int):=by rw[IntKind.wrap_i64];omega
   have hZw:IntKind.u64.wrap (Z:Int)=(Z:Int):=by rw[IntKind.wrap_u64];omega
   have hVw2:IntKind.u64.wrap (V:Int)=(V:Int):=by rw[IntKind.wrap_u64];omega
   have hs8:(s:Int)<8:=by omega
   have hrr64:(rr:Int)<64:=by omega
   have S0:S2 wr.drew g q X:=⟨by rw[hX];exact World.rowIs.cell ho hqn,World.rowIs.frozen ho q⟩
   have HO:=zA3 ho
   have HR:=zA3 hr
   have HGR:=zA3 Hy
   have HP:Hid (∀j,j<n->(Value.int .u64 (zEI (leV t) d (k+1) j:Nat):Value)=if j=q then .int .u64 (U:Int) else .int .u64 (zEI (leV t) d k j:Nat)):=fun j hj=>by
    by_cases e:j=q
    ·rw[if_pos e,e,hU]
    ·rw[if_neg e,zMr hkq hrd e]
   clear ho hr Hy hX hY hZ hZ2 hU hV hkq hq Zd hp hs h64 h64' hX2 hVb hpt
   go_wp2_with fail
   refine wp_region_noPanic ?_
   refine zAu (S:=fun w':World=>S2 w' g q X) (k:=21) (by kernel_rfl) ?_
   refine zA6 (i:=0) (v:=(.slice (some ⟨g,0,none⟩) n n)) [4,5,19,20,21] rfl (fun _ _ _ h=>h) (Or.inl ⟨by rfl,fun w' hSw=>?_⟩) S0 ?_
   ·dsimp only at hSw;obtain⟨q0,q1⟩:=hSw;go_simp
   try simp only[Act.put,zAI,zAH,zAG]
   refine zA6 (i:=1) (v:=(.int .i64 (k:Int))) [3,4,5,19,20,21] rfl (fun _ _ _ h=>h) (Or.inl ⟨by rfl,fun w' hSw=>?_⟩) S0 ?_
   ·dsimp only at hSw;obtain⟨q0,q1⟩:=hSw;go_simp
   try simp only[Act.put,zAI,zAH,zAG]
   refine zA6 (i:=2) (v:=(.int .i64 (d:Int))) [3,4,5,19,20,21] rfl (fun _ _ _ h=>h) (Or.inl ⟨by rfl,fun w' hSw=>?_⟩) S0 ?_
   ·dsimp only at hSw;obtain⟨q0,q1⟩:=hSw;go_simp
   try simp only[Act.put,zAI,zAH,zAG]
   refine zA6 (i:=3) (v:=(.int .i64 (q:Int))) [4,5,19,20,21] rfl (fun _ _ _ h=>h) (Or.inl ⟨by rfl,fun w' hSw=>?_⟩) S0 ?_
   ·dsimp only at hSw;obtain⟨q0,q1⟩:=hSw;go_simp
   try simp only[Act.put,zAI,zAH,zAG]
   refine zA6 (i:=4) (v:=(.pointer (some ⟨g,q,none⟩))) [5,19,21] rfl (fun _ _ _ h=>h) (Or.inl ⟨by rfl,fun w' hSw=>?_⟩) S0 ?_
   ·dsimp only at hSw;obtain⟨q0,q1⟩:=hSw;go_simp
   try simp only[Act.put,zAI,zAH,zAG]
   refine zA6 (i:=5) (v:=(.int .u64 (X:Int))) [19,21] rfl (fun _ _ _ h=>h) (Or.inl ⟨by rfl,fun w' hSw=>?_⟩) S0 ?_
   ·dsimp only at hSw;obtain⟨q0,q1⟩:=hSw;go_simp
   try simp only[Act.put,zAI,zAH,zAG]
   refine zA6 (i:=6) (v:=(.string (bs t))) [9,12,13,14,18,19,21] rfl (fun _ _ _ h=>h) (Or.inl ⟨by rfl,fun w' hSw=>?_⟩) S0 ?_
   ·dsimp only at hSw;obtain⟨q0,q1⟩:=hSw;go_simp
   try simp only[Act.put,zAI,zAH,zAG]
   refine zA6 (i:=7) (v:=(.int .i64 (k:Int))) [8,9,12,13,14,18,19,21] rfl (fun _ _ _ h=>h) (Or.inl ⟨by rfl,fun w' hSw=>?_⟩) S0 ?_
   ·dsimp only at hSw;obtain⟨q0,q1⟩:=hSw;go_simp
   try simp only[Act.put,zAI,zAH,zAG]
   refine zA6 (i:=8) (v:=(.int .i64 (p:Int))) [9,12,13,14,18,19,21] rfl (fun _ _ _ h=>h) (Or.inl ⟨by rfl,fun w' hSw=>?_⟩) S0 ?_
   ·dsimp only at hSw;obtain⟨q0,q1⟩:=hSw;go_simp
   try simp only[Act.put,zAI,zAH,zAG]
   refine zA6 (i:=9) (v:=(.int .u8 (Y:Int))) [12,13,14,18,19,21] rfl (fun _ _ _ h=>h) (Or.inl ⟨by rfl,fun w' hSw=>?_⟩) S0 ?_
   ·dsimp only at hSw;obtain⟨q0,q1⟩:=hSw;go_simp
   try simp only[Act.put,zAI,zAH,zAG]
   refine zA6 (i:=10) (v:=(.int .i64 (k:Int))) [11,12,13,14,18,19,21] rfl (fun _ _ _ h=>h) (Or.inl ⟨by rfl,fun w' hSw=>?_⟩) S0 ?_
   ·dsimp only at hSw;obtain⟨q0,q1⟩:=hSw;go_simp
   try simp only[Act.put,zAI,zAH,zAG]
   refine zA6 (i:=11) (v:=(.int .i64 (s:Int))) [12,13,14,18,19,21] rfl (fun _ _ _ h=>h) (Or.inl ⟨by rfl,fun w' hSw=>?_⟩) S0 ?_
   ·dsimp only at hSw;obtain⟨q0,q1⟩:=hSw;go_simp
   try simp only[Act.put,zAI,zAH,zAG]
   refine zA6 (i:=12) (v:=(.int .u8 ((Y:Int) / 2 ^ s))) [13,14,18,19,21] rfl (fun _ _ _ h=>h) (Or.inl ⟨by rfl,fun w' hSw=>?_⟩) S0 ?_
   ·dsimp only at hSw;obtain⟨q0,q1⟩:=hSw;go_simp
   try simp only[Act.put,zAI,zAH,zAG]
   refine zA6 (i:=13) (v:=(.int .u8 (Z:Int))) [14,18,19,21] rfl (fun _ _ _ h=>h) (Or.inl ⟨by rfl,fun w' hSw=>?_⟩) S0 ?_
   ·dsimp only at hSw;obtain⟨q0,q1⟩:=hSw;go_simp
   try simp only[Act.put,zAI,zAH,zAG]
   refine zA6 (i:=14) (v:=(.int .u64 (Z:Int))) [18,19,21] rfl (fun _ _ _ h=>h) (Or.inl ⟨by rfl,fun w' hSw=>?_⟩) S0 ?_
   ·dsimp only at hSw;obtain⟨q0,q1⟩:=hSw;go_simp
   try simp only[Act.put,zAI,zAH,zAG]
   refine zA6 (i:=15) (v:=(.int .i64 (k:Int))) [17,18,19,21] rfl (fun _ _ _ h=>h) (Or.inl ⟨by rfl,fun w' hSw=>?_⟩) S0 ?_
   ·dsimp only at hSw;obtain⟨q0,q1⟩:=hSw;go_simp
   try simp only[Act.put,zAI,zAH,zAG]
   refine zA6 (i:=16) (v:=(.int .i64 (d:Int))) [17,18,19,21] rfl (fun _ _ _ h=>h) (Or.inl ⟨by rfl,fun w' hSw=>?_⟩) S0 ?_
   ·dsimp only at hSw;obtain⟨q0,q1⟩:=hSw;go_simp
   try simp only[Act.put,zAI,zAH,zAG]
   refine zA6 (i:=17) (v:=(.int .i64 (rr:Int))) [18,19,21] rfl (fun _ _ _ h=>h) (Or.inl ⟨by rfl,fun w' hSw=>?_⟩) S0 ?_
   ·dsimp only at hSw;obtain⟨q0,q1⟩:=hSw;go_simp
   try simp only[Act.put,zAI,zAH,zAG]
   refine zA6 (i:=18) (v:=(.int .u64 (V:Int))) [19,21] rfl (fun _ _ _ h=>h) (Or.inl ⟨by rfl,fun w' hSw=>?_⟩) S0 ?_
   ·dsimp only at hSw;obtain⟨q0,q1⟩:=hSw;go_simp
   try simp only[Act.put,zAI,zAH,zAG]
   refine zA6 (i:=19) (v:=(.int .u64 (U:Int))) [21] rfl (fun _ _ _ h=>h) (Or.inl ⟨by rfl,fun w' hSw=>?_⟩) S0 ?_
   ·dsimp only at hSw;obtain⟨q0,q1⟩:=hSw;go_simp
   try simp only[Act.put,zAI,zAH,zAG]
   refine zA6 (i:=20) (v:=(.pointer (some ⟨g,q,none⟩))) [21] rfl (fun _ _ _ h=>h) (Or.inl ⟨by rfl,fun w' hSw=>?_⟩) S0 ?_
   ·dsimp only at hSw;obtain⟨q0,q1⟩:=hSw;go_simp
   try simp only[Act.put,zAI,zAH,zAG]
   obtain⟨s0,s1⟩:=S0
   refine zA7 (i:=21) (by kernel_rfl) ?_
   refine zA4 rfl (by rfl) fun K hK=>?_
   go_simp
   refine zA0 hK _ _ ⟨fun h=>absurd h (by simp),?_⟩
   refine zAl (by kernel_rfl) ?_ _
   refine NoPanic.normal ?_
   clear hK K s0 s1
   go_wp2
   refine⟨⟨k+1,by omega,by go_num,?_,?_,?_⟩,by simp[intOf];omega⟩
   ·exact World.rowIs.congr (World.rowIs.set (zA0 HO) q (.int .u64 (U:Int))) fun j hj=>by
     rw[zA0 HP j hj]
   ·exact World.rowIs.setOther (zA0 HR) hbg _
   ·exact((zA0 HGR).fresh (zAY wr g q _) hgw).trans (Gr.of_below (Below.refl _ _).drew b)
  ·have ek:k=N:=by omega
   subst ek
   have h9:¬(k:Int)<(k:Int):=by omega
   have HE:Hid (wr.rowIs g 73 n (fun j=>.int .u64 (zBt (leV t) d j:Nat))/\Br wr b r false/\Gr w wr b):=⟨World.rowIs.congr ho fun j hj=>by rw[zA0 Gq,zRJ hj],hr,Hy⟩
   clear ho hr Hy
   go_wp2
   go_ret
   exact⟨g,rfl,(zA0 HE).1,hgw,(zA0 HE).2⟩
theorem zNM{b n d:Nat}{l t r:List UInt8}{bad:Bool}{w:World}(hn:n<=4096)(hd:d<=64)(h:Br w b l bad)(hl:l.length<=140737488355328)(ht:zAE l bad (zAO n d)=(t,r,true)) :
  Calls Tryz.prog 67 #[.pointer (some ⟨b,0,none⟩),.int .i64 n,.int .i64 d] w fun e w'=>∃g,e=.returned (.slice (some ⟨g,0,none⟩) n n)/\w'.rowIs g 73 n (fun j=>.int .u64 0)/\w.heap.size<=g/\Br w' b r true/\Gr w w' b:=by
 obtain⟨i6,YL,z60,z61,z62⟩:=info_parts Tryz.info73
 have hN:n*d<=4096*64:=Nat.mul_le_mul hn hd
 obtain⟨N,Zn⟩:∃N,N=n*d:=⟨_,rfl⟩
 have e1:(n:Int)*(d:Int)=(N:Int):=by rw[Zn,Int.natCast_mul]
 obtain⟨B,hB⟩:∃B,B=zAO n d:=⟨_,rfl⟩
 have hBb:B=(N+7) / 8:=by rw[hB,Zn];rfl
 have e2:((N:Int)+7) / 8=(B:Int):=by omega
 have e2':((N:Int)+7).tdiv 8=(B:Int):=by rw[Int.tdiv_eq_ediv_of_nonneg (by omega)];exact e2
 rw[<-Zn] at hN
 have hN2:(N:Int)<=262144:=by omega
 have Ki:B<=1000000000:=by omega
 rw[<-hB] at ht
 have HT:=zA3 (zCI h hl Ki ht)
 have qJ:(B:Int)<=40000:=by omega
 have Qn:=h.ne
 clear h ht hB Zn hN hBb
 go_enter Tryz.func67,Tryz.ntmps67
 go_wp2_with (first
  | (go_at_call 39;refine(zA0 HT).mono ?_;rintro e w1 ⟨rfl,Hq,Hn⟩)
  | (at_make;refine wpList_make_row _ rfl (.tmp 17) (.tmp 17) 115 rfl 73 i6 (.int .u64 0) Tryz.underlying115 YL z60 z61 rfl .i64 .i64 n rfl rfl (by rw[z62];omega) (by omega) ?_))
 have Qp:=Hn.size
 obtain⟨g,hg⟩:∃g,g=w1.heap.size:=⟨_,rfl⟩
 have hbg:b≠g:=by omega
 have hgw:w.heap.size<=g:=by omega
 have Kz:Hid (Br (w1.alloc (.cells (madeCells #[.int .u64 0] n) 73)) b r true):=Hq.alloc _
 have HG1:Hid (Gr w (w1.alloc (.cells (madeCells #[.int .u64 0] n) 73)) b):=Hn.trans (Gr.alloc _ _ _)
 have YU:Hid ((w1.alloc (.cells (madeCells #[.int .u64 0] n) 73)).rowIs g 73 n (fun j=>.int .u64 0)):=by
  rw[hg]
  exact World.rowIs_made w1 (.int .u64 0) n 73
 rw[<-hg]
 clear Hq Hn hg Qp
 go_loopw[9] (fun i wr=>i=.int .i64 (0:Int)/\wr.rowIs g 73 n (fun j=>.int .u64 0)/\Br wr b r true/\Gr w wr b) (fun i _=>0)
 case atStart=>exact⟨rfl,zA0 YU,zA0 Kz,zA0 HG1⟩
 case round=>
  obtain⟨rfl,ho,hr,Hy⟩:=hrel
  obtain⟨c0,c1,f0,f1⟩:=hr.facts
  have HE:Hid (wr.rowIs g 73 n (fun j=>.int .u64 0)/\Br wr b r true/\Gr w wr b):=⟨ho,hr,Hy⟩
  clear ho hr Hy
  by_cases h0:0<N
  ·have h9:(0:Int)<(N:Int):=by omega
   go_wp2
   go_ret
   exact⟨g,rfl,(zA0 HE).1,hgw,(zA0 HE).2⟩
  ·have h9:¬(0:Int)<(N:Int):=by omega
   go_wp2
   go_ret
   exact⟨g,rfl,(zA0 HE).1,hgw,(zA0 HE).2⟩
def zBI(kind:Int)(l:List UInt8)(bad:Bool):Nat->List Val×List UInt8×Bool
 | 0=>([],l,bad)
 | k+1=>if (zBI kind l bad k).2.2=true then zBI kind l bad k else ((zBI kind l bad k).1++[(zCP kind (zBI kind l bad k).2.1 false).1],(zCP kind (zBI kind l bad k).2.1 false).2)
theorem zEH{kind:Int}{l l2:List UInt8}{bad:Bool}{k:Nat}{vs:List Val}(h:zBI kind l bad k=(vs,l2,false)):zBI kind l bad (k+1)=(vs++[(zCP kind l2 false).1],(zCP kind l2 false).2):=by
 rw[zBI,h];rfl
theorem zFI{kind:Int}{l l2:List UInt8}{bad:Bool}{k:Nat}{vs:List Val}(h:zBI kind l bad k=(vs,l2,true)):∀m,k<=m->zBI kind l bad m=(vs,l2,true):=by
 intro m hm
 obtain⟨j,rfl⟩:∃j,m=k+j:=⟨m-k,by omega⟩
 clear hm
 induction j with
 | zero=>exact h
 | succ j ih=>rw[<-Nat.add_assoc,zBI,ih];rfl
theorem zHg(kind:Int)(l:List UInt8)(bad:Bool):(zCP kind l bad).2.1.length<=l.length:=by
 unfold zCP
 split
 ·exact(zB4 l bad 8).2
 ·exact Nat.le_trans (zB4 _ _ _).2 (zB4 l bad 2).2
theorem zDq(kind:Int)(l:List UInt8)(bad:Bool):∀k,(zBI kind l bad k).1.length<=k/\(zBI kind l bad k).2.1.length<=l.length
 | 0=>⟨Nat.le_refl _,Nat.le_refl _⟩
 | k+1=>by
  have ih:=zDq kind l bad k
  rw[zBI]
  split
  ·exact⟨by omega,ih.2⟩
  ·exact⟨by simp;omega,Nat.le_trans (zHg _ _ _) ih.2⟩
theorem Br.app{wr w1:World}{b B:Nat}{v:Value}{o:Obj}{xs:List Val}{l:List UInt8}{bad:Bool}(hr:Br wr b l bad)(ho:zAV wr B v xs)(hb:b<B)(hg:(wr.alloc o).grownBy w1 v.ownBlock):Br w1 b l bad:=by
 refine World.rowIs.of_block (World.rowIs.alloc hr o) (hg.block b (by have:=hr.ne;simp;omega) fun e=>?_)
 have:=(World.ownsRow.lt ho b e.symm).1
 omega
def zCt(w w':World)(e:Ending)(b:Nat)(p:List Val×List UInt8×Bool):Prop:=∃v,e=.returned v/\zAV w' w.heap.size v p.1/\Br w' b p.2.1 p.2.2/\Gr w w' b
theorem zMV(b m:Nat)(kind:Int)(l:List UInt8)(bad:Bool)(w:World)(hk:kind=1∨kind=2)(hm:m<=4096)(h:Br w b l bad)(hl:l.length<=140737488355328) :
  Calls Tryz.prog 68 #[.pointer (some ⟨b,0,none⟩),.int .i64 1,.int .i64 kind,.int .i64 m] w fun e w'=>zCt w w' e b (zBI kind l bad m):=by
 obtain⟨i4,Qd,z40,z41,z42⟩:=info_parts Tryz.info59
 have Zg:=h.ne
 obtain⟨R,hR⟩:∃R,R=zBI kind l bad m:=⟨_,rfl⟩
 rw[<-hR]
 have QR:=zA3 hR
 clear hR
 go_enter Tryz.func68,Tryz.ntmps68
 go_wp2_with fail
 go_loopw[9,10] (fun v i wr=>∃(k:Nat) (vs:List Val) (r:List UInt8) (x:Bool),k<=m/\i=.int .i64 (k:Int)/\Hid (zBI kind l bad k=(vs,r,x))/\zAV wr w.heap.size v vs/\Br wr b r x/\Gr w wr b) (fun _ i _=>m-(intOf i).toNat)
 case atStart=>exact⟨0,[],l,bad,Nat.zero_le _,rfl,rfl,⟨rfl,.inl ⟨rfl,rfl⟩⟩,h,Gr.refl _ _⟩
 case round=>
  obtain⟨k,vs,r,x,TO,rfl,HP,ho,hr,hg⟩:=hrel
  have yb:=zDq kind l bad k
  rw[zA0 HP] at yb
  obtain⟨Yu,Yn⟩:=yb
  replace Yu:vs.length<=k:=Yu
  replace Yn:r.length<=l.length:=Yn
  obtain⟨c0,c1,f0,f1⟩:=hr.facts
  by_cases He:k<m
  ·have h9:(k:Int)<(m:Int):=by omega
   cases x with
   | true=>
    have HE:Hid (zCt w wr (.returned u9) b R):=⟨u9,rfl,by rw[zA0 QR,zFI (zA0 HP) m (by omega)];exact⟨ho,hr,hg⟩⟩
    clear ho hr hg Yu Yn
    go_wp2
    go_ret
    exact zA0 HE
   | false=>
    have HN:=zA3 (zEH (zA0 HP))
    have HC:=zA3 (zFg (bad:=false) hk hr (by omega))
    have HG:=zA3 hg
    have HO:=zA3 ho
    have QK:=hg.size
    have Qh:=zA3 Yu
    generalize hq:zCP kind r false=q at *
    obtain⟨y,r2,x2⟩:=q
    have QS:Hid (zBI kind l bad (k+1)=(vs++[y],r2,x2)):=by
     show _=_
     exact zA0 HN
    clear hg ho hr Yu Yn hq HN
    dsimp only at HC
    go_wp2_with (first
     | (go_at_call 91;refine(zA0 HC).mono ?_;rintro e w2 ⟨rfl,Hu,Hj⟩;rw[Val.open_];have Qi:=(zA0 HO).gr Hj Zg;have Jb:=(zA0 HG).trans Hj;have yA:=Hj.size)
     | (at_builtin;refine wpList_append_own_at _ rfl (.tmp 38) (.tmp 42) 37 rfl w.heap.size 59 i4 (.agg #[.int .i64 0,.int .i64 0,.string ⟨#[]⟩]) 3 32 Tryz.underlying37 Qd z40 z41 z42 rfl (by decide) _ _ _ rfl (World.ownsRow.alloc Qi _) ⟨w2.heap.size,0,none⟩ 1 1 (c3 y) rfl rfl (zAy w2 y) (zBY _) (by have:=zA0 Qh;unfold maxLen;omega) (by have:=zA0 Qh;omega) (by simp;omega) ?_;intro v1 w3 Hc Ha _ Hl;have Ya:=zB9 Hc))
    refine⟨⟨k+1,vs++[y],r2,x2,by omega,by go_num,QS,Ya,Hu.app Qi Zg Ha,Jb.app Qi Ha⟩,by simp[intOf];omega⟩
  ·have h9:¬(k:Int)<(m:Int):=by omega
   have ek:k=m:=by omega
   subst ek
   have HE:Hid (zCt w wr (.returned u9) b R):=⟨u9,rfl,by rw[zA0 QR,zA0 HP];exact⟨ho,hr,hg⟩⟩
   clear ho hr hg Yu Yn
   go_wp2
   go_ret
   exact zA0 HE
theorem zFi{kind:Int}:∀(n:Nat) {l r:List UInt8} {vs:List Val},zAq kind n l=some (vs,r)->zBI kind l false n=(vs,r,false)
 | 0,l,r,vs,h=>by
  unfold zAq at h
  injection h with h;injection h with h1 h2
  subst h1;subst h2;rfl
 | n+1,l,r,vs,h=>by
  unfold zAq at h
  cases hp:zAq kind n l with
  | none=>rw[hp] at h;cases h
  | some p=>
   obtain⟨us,l1⟩:=p
   rw[hp,Option.bind_some] at h
   cases hq:zBh kind l1 with
   | none=>rw[hq] at h;cases h
   | some q=>
    obtain⟨x,r'⟩:=q
    rw[hq] at h
    injection h with h
    injection h with h1 h2
    subst h1;subst h2
    rw[zEH (zFi n hp),zJW hq]
set_option maxHeartbeats 600000
def zDz(t:List UInt8)(x:Bool)(d n:Nat):List Nat:=if x=true then List.replicate n 0 else zAm t d n
theorem zHE(t:List UInt8)(x:Bool)(d n:Nat):(zDz t x d n).length=n:=by
 unfold zDz
 split<;>simp[zAm]
theorem zMK{l t r:List UInt8}{bad:Bool}{n:Nat}(h:zAE l bad n=(t,r,false)):t.length=n:=by
 unfold zAE at h
 split at h
 ·injection h with h1 h2;injection h2 with h2 h3;cases h3
 ·rename_i hn
  injection h with h1 h2
  rw[<-h1,List.length_take]
  omega
theorem zSB{t:List UInt8}{x:Bool}{d n:Nat}(hd:d<=64):∀k∈zDz t x d n,k<18446744073709551616:=by
 intro k hk
 unfold zDz at hk
 split at hk
 ·rw[List.eq_of_mem_replicate hk];decide
 ·unfold zAm at hk
  obtain⟨i,_,rfl⟩:=List.mem_map.1 hk
  unfold zBt
  have h1:leV t / 2 ^ (d*i) % 2 ^ d<2 ^ d:=Nat.mod_lt _ (Nat.two_pow_pos d)
  have h2:2 ^ d<=2 ^ 64:=Nat.pow_le_pow_right (by decide) hd
  have h3:(2:Nat) ^ 64=18446744073709551616:=by decide
  omega
def zKC(ks:List Nat)(j:Nat):Value:=.int .u64 (ks.getD j 0:Nat)
theorem zFp{b n d:Nat}{l t r:List UInt8}{bad x:Bool}{w:World}(hn:n<=4096)(hd:d<=64)(h:Br w b l bad)(hl:l.length<=140737488355328)(ht:zAE l bad (zAO n d)=(t,r,x)) :
  Calls Tryz.prog 67 #[.pointer (some ⟨b,0,none⟩),.int .i64 n,.int .i64 d] w fun e w'=>∃g,e=.returned (.slice (some ⟨g,0,none⟩) n n)/\w'.rowIs g 73 n (zKC (zDz t x d n))/\w.heap.size<=g/\Br w' b r x/\Gr w w' b:=by
 cases x with
 | true=>
  refine(zNM hn hd h hl ht).mono ?_
  rintro e w' ⟨g,he,ho,h1,h2,h3⟩
  exact⟨g,he,World.rowIs.congr ho fun j hj=>by simp[zKC,zDz,List.getD_eq_getElem?_getD,List.getElem?_replicate,hj],h1,h2,h3⟩
 | false=>
  refine(zNL hn hd h hl ht (zMK ht)).mono ?_
  rintro e w' ⟨g,he,ho,h1,h2,h3⟩
  exact⟨g,he,World.rowIs.congr ho fun j hj=>by simp[zKC,zDz,zAm,List.getD_eq_getElem?_getD,hj],h1,h2,h3⟩
def zMy(m:Nat)(l:List UInt8)(bad:Bool):List Val×List UInt8×Bool:=
 if 64<beV (zAE (zAE l bad 8).2.1 (zAE l bad 8).2.2 1).1 then ([],(zAE (zAE l bad 8).2.1 (zAE l bad 8).2.2 1).2.1,true)
 else ((zDz (zAE (zAE (zAE l bad 8).2.1 (zAE l bad 8).2.2 1).2.1 (zAE (zAE l bad 8).2.1 (zAE l bad 8).2.2 1).2.2 (zAO m (beV (zAE (zAE l bad 8).2.1 (zAE l bad 8).2.2 1).1))).1
   (zAE (zAE (zAE l bad 8).2.1 (zAE l bad 8).2.2 1).2.1 (zAE (zAE l bad 8).2.1 (zAE l bad 8).2.2 1).2.2 (zAO m (beV (zAE (zAE l bad 8).2.1 (zAE l bad 8).2.2 1).1))).2.2
   (beV (zAE (zAE l bad 8).2.1 (zAE l bad 8).2.2 1).1) m).map fun k=>.num (zBf (beV (zAE l bad 8).1+k)),
  (zAE (zAE (zAE l bad 8).2.1 (zAE l bad 8).2.2 1).2.1 (zAE (zAE l bad 8).2.1 (zAE l bad 8).2.2 1).2.2 (zAO m (beV (zAE (zAE l bad 8).2.1 (zAE l bad 8).2.2 1).1))).2)
theorem zSK(p k:Nat):wrap64 (IntKind.u64.wrap ((p:Int)+(k:Int)))=zBf (p+k):=by
 rw[IntKind.wrap_u64];unfold zBf wrap64;omega
theorem zOI{b m:Nat}{kind:Int}{l a l1 c l2:List UInt8}{bad x1 x2:Bool}{w:World}(h:Br w b l bad)(hl:l.length<=140737488355328)(ha:zAE l bad 8=(a,l1,x1))(hc:zAE l1 x1 1=(c,l2,x2))(hw:64<beV c) :
  Calls Tryz.prog 68 #[.pointer (some ⟨b,0,none⟩),.int .i64 4,.int .i64 kind,.int .i64 m] w fun e w'=>zCt w w' e b ([],l2,true):=by
 have yg:a.length<=8:=by have:=(zB4 l bad 8).1;rw[ha] at this;exact this
 have YK:l1.length<=l.length:=by have:=(zB4 l bad 8).2;rw[ha] at this;exact this
 have YN:c.length<=1:=by have:=(zB4 l1 x1 1).1;rw[hc] at this;exact this
 have HA:=zA3 (zCI h hl (by decide) ha)
 have KG:=zA3 (fun W=>zB6 a yg W)
 have HC:=zA3 (fun W (hW:Br W b l1 x1)=>zCI hW (by omega) (by decide) hc)
 have HNC:=zA3 (fun W=>zB6 c (by omega) W)
 have hwi:(64:Int)<(beV c:Int):=by omega
 generalize beV c=d at *
 generalize beV a=p at *
 clear h ha hc yg YN
 go_enter Tryz.func68,Tryz.ntmps68
 go_wp2_with (first
  | (go_at_call 39;first | (refine(zA0 HC _ Hq).mono ?_;rintro e w2 ⟨rfl,Hu,Hj⟩;obtain⟨c0,c1,f0,f1⟩:=Hu.facts) | (refine(zA0 HA).mono ?_;rintro e w1 ⟨rfl,Hq,Hn⟩))
  | (go_at_call_of 40 (Value.string (bs c));refine(zA0 HNC _).mono ?_;rintro e wn ⟨rfl,rfl⟩)
  | (go_at_call_of 40 (Value.string (bs a));refine(zA0 KG _).mono ?_;rintro e wn ⟨rfl,rfl⟩))
 go_ret
 exact⟨_,rfl,⟨rfl,.inl ⟨rfl,rfl⟩⟩,Hu.bad true,(Hn.trans Hj).trans (zAY _ b 1 _)⟩
theorem zO3{ks:List Nat}{k y p:Nat}(h:ks[k]?=some y):(ks.take (k+1)).map (fun k=>Val.num (zBf (p+k)))=(ks.take k).map (fun k=>Val.num (zBf (p+k)))++[Val.num (zBf (p+y))]:=by
 obtain⟨h1,rfl⟩:=zAL h
 rw[List.take_succ_eq_append_getElem h1,List.map_append];rfl
theorem zMR{b m:Nat}{kind:Int}{l a l1 c l2 t r:List UInt8}{bad x1 x2 x3:Bool}{w:World}(hm:m<=4096)(h:Br w b l bad)(hl:l.length<=140737488355328)(ha:zAE l bad 8=(a,l1,x1))(hc:zAE l1 x1 1=(c,l2,x2))(hw:¬64<beV c)(ht:zAE l2 x2 (zAO m (beV c))=(t,r,x3)) :
  Calls Tryz.prog 68 #[.pointer (some ⟨b,0,none⟩),.int .i64 4,.int .i64 kind,.int .i64 m] w fun e w'=>zCt w w' e b ((zDz t x3 (beV c) m).map fun k=>.num (zBf (beV a+k)),r,x3):=by
 obtain⟨i4,Qd,z40,z41,z42⟩:=info_parts Tryz.info59
 have yg:a.length<=8:=by have:=(zB4 l bad 8).1;rw[ha] at this;exact this
 have YK:l1.length<=l.length:=by have:=(zB4 l bad 8).2;rw[ha] at this;exact this
 have YN:c.length<=1:=by have:=(zB4 l1 x1 1).1;rw[hc] at this;exact this
 have Yd:l2.length<=l1.length:=by have:=(zB4 l1 x1 1).2;rw[hc] at this;exact this
 have HA:=zA3 (zCI h hl (by decide) ha)
 have KG:=zA3 (fun W=>zB6 a yg W)
 have HC:=zA3 (fun W (hW:Br W b l1 x1)=>zCI hW (by omega) (by decide) hc)
 have HNC:=zA3 (fun W=>zB6 c (by omega) W)
 have hwi:¬(64:Int)<(beV c:Int):=by omega
 have HBI:=zA3 (fun W (hW:Br W b l2 x2)=>zFp hm (by omega:beV c<=64) hW (by omega) ht)
 have YV:=zA3 (zSB (t:=t) (x:=x3) (n:=m) (by omega:beV c<=64))
 have KL:=zA3 (zHE t x3 (beV c) m)
 have hpb:beV a<18446744073709551616:=by
  have h1:=zBn a
  have h3:256 ^ a.length<=256 ^ 8:=Nat.pow_le_pow_right (by decide) yg
  have h4:(256:Nat) ^ 8=18446744073709551616:=by decide
  omega
 have Qn:=h.ne
 generalize zDz t x3 (beV c) m=ks at *
 generalize beV c=d at *
 generalize beV a=p at *
 obtain⟨R,hR⟩:∃R,R=(ks.map fun k=>Val.num (zBf (p+k))):=⟨_,rfl⟩
 rw[<-hR]
 have QR:=zA3 hR
 clear h ha hc yg YN hR ht
 go_enter Tryz.func68,Tryz.ntmps68
 go_wp2_with (first
  | (go_at_call 39;first | (refine(zA0 HC _ Hq).mono ?_;rintro e w2 ⟨rfl,Hu,Hj⟩) | (refine(zA0 HA).mono ?_;rintro e w1 ⟨rfl,Hq,Hn⟩))
  | (go_at_call_of 40 (Value.string (bs c));refine(zA0 HNC _).mono ?_;rintro e wn ⟨rfl,rfl⟩)
  | (go_at_call_of 40 (Value.string (bs a));refine(zA0 KG _).mono ?_;rintro e wn ⟨rfl,rfl⟩)
  | (go_at_call 67;refine(zA0 HBI _ Hu).mono ?_;rintro e w3 ⟨g,rfl,Ya,hgl3,Qt,Qw⟩))
 have qh:=zA3 ((Hn.trans Hj).trans Qw)
 have hz:=Hn.size
 have QC:=Hj.size
 have hgw:w.heap.size<=g:=by omega
 have hbg:b≠g:=by omega
 have Jf:=zA3 Ya
 have qe:=zA3 Qt
 clear Hq Hn Hu Hj Qt Qw Ya hz QC hgl3
 go_loopw[9,155] (fun v i wr=>∃k:Nat,k<=m/\i=.int .i64 (k:Int)/\zAV wr w.heap.size v ((ks.take k).map fun k=>Val.num (zBf (p+k)))/\wr.rowIs g 73 m (zKC ks)/\Br wr b r x3/\Gr w wr b) (fun _ i _=>m-(intOf i).toNat)
 case atStart=>exact⟨0,Nat.zero_le _,rfl,⟨rfl,.inl ⟨rfl,rfl⟩⟩,zA0 Jf,zA0 qe,zA0 qh⟩
 case round=>
  obtain⟨k,TO,rfl,ho,Hk,hr,hg⟩:=hrel
  by_cases He:k<m
  ·have h9:(k:Int)<(m:Int):=by omega
   obtain⟨y,hy⟩:∃y,ks[k]?=some y:=⟨_,zAf (by rw[zA0 KL];exact He)⟩
   have hyb:=zA0 YV y (List.mem_of_getElem? hy)
   have cy:wr.cell? ⟨g,k,none⟩=some (.int .u64 (y:Int)):=by
    have:=World.rowIs.cell Hk He
    simpa [zKC,List.getD_eq_getElem?_getD,hy] using this
   have HN:=zA3 (zO3 (p:=p) hy)
   have Qh:Hid (((ks.take k).map fun k=>Val.num (zBf (p+k))).length<=4096):=by
    show _<=_
    rw[List.length_map,List.length_take,zA0 KL];omega
   have HU:=zA3 (fun W=>zDn (zBf (p+y)) W)
   have has:=zSK p y
   have HKP:=zA3 (⟨ho,Hk,hr,hg⟩:zAV wr w.heap.size u9 ((ks.take k).map fun k=>Val.num (zBf (p+k)))/\wr.rowIs g 73 m (zKC ks)/\Br wr b r x3/\Gr w wr b)
   have QK:=hg.size
   generalize zBf (p+y)=z at *
   generalize hvs:((ks.take k).map fun k=>Val.num (zBf (p+k)))=vs at *
   clear ho Hk hr hg hy hvs
   go_wp2_with (first
    | (go_at_call 37;refine(zA0 HU _).mono ?_;rintro e w4 ⟨rfl,Qe⟩;rw[Val.open_];have ya:=(zA0 HKP).1.later Qe;have hsz4:=Qe.size)
    | (at_builtin;refine wpList_append_own_at _ rfl (.tmp 159) (.tmp 165) 37 rfl w.heap.size 59 i4 (.agg #[.int .i64 0,.int .i64 0,.string ⟨#[]⟩]) 3 32 Tryz.underlying37 Qd z40 z41 z42 rfl (by decide) _ _ _ rfl (World.ownsRow.alloc ya _) ⟨w4.heap.size,0,none⟩ 1 1 (c3 (Val.num z)) rfl rfl (zAy w4 (Val.num z)) (zBY _) (by have:=zA0 Qh;unfold maxLen;omega) (by have:=zA0 Qh;omega) (by simp;omega) ?_;intro v1 w5 Hc Ha _ Hl;have ZP:=zB9 Hc))
   obtain⟨_,Hk,hr,hg⟩:=zA0 HKP
   refine⟨⟨k+1,by omega,by go_num,by rw[zA0 HN];exact ZP,?_,?_,?_⟩,by simp[intOf];omega⟩
   ·exact zAF (World.rowIs.alloc (zA5 Hk Qe) _) Ha (zBL (zA5 Hk Qe) ya (by decide))
   ·exact Br.app (World.rowIs.of_block hr (Qe.block b hr.ne)) ya Qn Ha
   ·exact(hg.trans (Gr.of_below Qe b)).app ya Ha
  ·have h9:¬(k:Int)<(m:Int):=by omega
   have ek:k=m:=by omega
   subst ek
   have etk:ks.take k=ks:=List.take_of_length_le (by rw[zA0 KL];omega)
   rw[etk,<-zA0 QR] at ho
   have HE:Hid (zCt w wr (.returned u9) b (R,r,x3)):=⟨u9,rfl,ho,hr,hg⟩
   clear ho Hk hr hg etk
   go_wp2
   go_ret
   exact zA0 HE
theorem zMS(b m:Nat)(kind:Int)(l:List UInt8)(bad:Bool)(w:World)(hm:m<=4096)(h:Br w b l bad)(hl:l.length<=140737488355328) :
  Calls Tryz.prog 68 #[.pointer (some ⟨b,0,none⟩),.int .i64 4,.int .i64 kind,.int .i64 m] w fun e w'=>zCt w w' e b (zMy m l bad):=by
 unfold zMy
 split
 ·rename_i hw
  exact zOI h hl rfl rfl hw
 ·rename_i hw
  exact zMR hm h hl rfl rfl hw rfl
def zTj(m many len:Nat):Nat:=min many (m+1-len)
def zU3(kind:Int)(m:Nat)(vs:List Val)(l:List UInt8):List Val×List UInt8×Bool:=
 (vs++List.replicate (zTj m (beV (zAE l false 4).1) vs.length) (zCP kind (zAE l false 4).2.1 (zAE l false 4).2.2).1,(zCP kind (zAE l false 4).2.1 (zAE l false 4).2.2).2)
def zDI(kind:Int)(m:Nat)(l:List UInt8)(bad:Bool):Nat->List Val×List UInt8×Bool
 | 0=>([],l,bad)
 | k+1=>if (zDI kind m l bad k).2.2=true then zDI kind m l bad k else zU3 kind m (zDI kind m l bad k).1 (zDI kind m l bad k).2.1
theorem zHY{kind:Int}{m:Nat}{l l2:List UInt8}{bad:Bool}{k:Nat}{vs:List Val}(h:zDI kind m l bad k=(vs,l2,false)):zDI kind m l bad (k+1)=zU3 kind m vs l2:=by
 rw[zDI,h];rfl
theorem zKb{kind:Int}{n:Nat}{l l2:List UInt8}{bad:Bool}{k:Nat}{vs:List Val}(h:zDI kind n l bad k=(vs,l2,true)):∀m,k<=m->zDI kind n l bad m=(vs,l2,true):=by
 intro m hm
 obtain⟨j,rfl⟩:∃j,m=k+j:=⟨m-k,by omega⟩
 clear hm
 induction j with
 | zero=>exact h
 | succ j ih=>rw[<-Nat.add_assoc,zDI,ih];rfl
theorem zJO(kind:Int)(m:Nat)(l:List UInt8)(bad:Bool):∀k,(zDI kind m l bad k).1.length<=m+1/\(zDI kind m l bad k).2.1.length<=l.length
 | 0=>⟨by simp[zDI],Nat.le_refl _⟩
 | k+1=>by
  have ih:=zJO kind m l bad k
  rw[zDI]
  split
  ·exact ih
  ·refine⟨?_,Nat.le_trans (zHg _ _ _) (Nat.le_trans (zB4 _ _ _).2 ih.2)⟩
   simp only[zU3,zAX,List.length_replicate,zTj]
   omega
theorem zR8(vs:List Val)(i:Nat)(x:Val):vs++List.replicate (i+1) x=(vs++List.replicate i x)++[x]:=by
 rw[List.replicate_succ',List.append_assoc]
theorem zMU(b m:Nat)(kind:Int)(l:List UInt8)(bad:Bool)(w:World)(hk:kind=1∨kind=2)(hm:m<=4096)(h:Br w b l bad)(hl:l.length<=140737488355328) :
  Calls Tryz.prog 68 #[.pointer (some ⟨b,0,none⟩),.int .i64 2,.int .i64 kind,.int .i64 m] w fun e w'=>zCt w w' e b (zDI kind m (zAE l bad 4).2.1 (zAE l bad 4).2.2 (beV (zAE l bad 4).1)):=by
 obtain⟨i4,Qd,z40,z41,z42⟩:=info_parts Tryz.info59
 have Zg:=h.ne
 obtain⟨a,l1,x1,ha⟩:∃a l1 x1,zAE l bad 4=(a,l1,x1):=⟨_,_,_,rfl⟩
 rw[ha]
 have yg:a.length<=4:=by have:=(zB4 l bad 4).1;rw[ha] at this;exact this
 have YK:l1.length<=l.length:=by have:=(zB4 l bad 4).2;rw[ha] at this;exact this
 have HA:=zA3 (zCI h hl (by decide) ha)
 have KG:=zA3 (fun W=>zB6 a (by omega) W)
 have ZW:beV a<4294967296:=by
  have h1:=zBn a
  have h3:256 ^ a.length<=256 ^ 4:=Nat.pow_le_pow_right (by decide) yg
  have h4:(256:Nat) ^ 4=4294967296:=by decide
  omega
 dsimp only
 generalize beV a=n at *
 obtain⟨R,hR⟩:∃R,R=zDI kind m l1 x1 n:=⟨_,rfl⟩
 rw[<-hR]
 have QR:=zA3 hR
 clear hR h ha yg
 go_enter Tryz.func68,Tryz.ntmps68
 go_wp2_with (first
  | (go_at_call 39;refine(zA0 HA).mono ?_;rintro e w1 ⟨rfl,Hq,Hn⟩)
  | (go_at_call 40;refine(zA0 KG _).mono ?_;rintro e wn ⟨rfl,rfl⟩))
 go_loopw[9,11] (fun v i wr=>∃(k j:Nat) (vs:List Val) (r:List UInt8) (x:Bool),k+j=n/\i=.int .i64 (j:Int)/\Hid (zDI kind m l1 x1 k=(vs,r,x))/\zAV wr w.heap.size v vs/\Br wr b r x/\Gr w wr b) (fun _ i _=>(intOf i).toNat)
 case atStart=>exact⟨0,n,[],l1,x1,by omega,rfl,rfl,⟨rfl,.inl ⟨rfl,rfl⟩⟩,Hq,Hn⟩
 case round=>
  obtain⟨k,j,vs,r,x,Zj,rfl,HP,ho,hr,hg⟩:=hrel
  have yb:=zJO kind m l1 x1 k
  rw[zA0 HP] at yb
  obtain⟨Yu,Yn⟩:=yb
  replace Yu:vs.length<=m+1:=Yu
  replace Yn:r.length<=l1.length:=Yn
  obtain⟨c0,c1,f0,f1⟩:=hr.facts
  by_cases hj:0<j
  ·have h9:(0:Int)<(j:Int):=by omega
   cases x with
   | true=>
    have HE:Hid (zCt w wr (.returned u9) b R):=⟨u9,rfl,by rw[zA0 QR,zKb (zA0 HP) n (by omega)];exact⟨ho,hr,hg⟩⟩
    clear ho hr hg Yu Yn Zj
    go_wp2
    go_ret
    exact zA0 HE
   | false=>
    have HN:=zA3 (zHY (zA0 HP))
    obtain⟨cc,r2,x2,Yk⟩:∃cc r2 x2,zAE r false 4=(cc,r2,x2):=⟨_,_,_,rfl⟩
    have hccl:cc.length<=4:=by have:=(zB4 r false 4).1;rw[Yk] at this;exact this
    have hr2l:r2.length<=r.length:=by have:=(zB4 r false 4).2;rw[Yk] at this;exact this
    obtain⟨y,r3,x3,hy⟩:∃y r3 x3,zCP kind r2 x2=(y,r3,x3):=⟨_,_,_,rfl⟩
    have DO:beV cc<4294967296:=by
     have h1:=zBn cc
     have h3:256 ^ cc.length<=256 ^ 4:=Nat.pow_le_pow_right (by decide) hccl
     have h4:(256:Nat) ^ 4=4294967296:=by decide
     omega
    have QS:Hid (zDI kind m l1 x1 (k+1)=(vs++List.replicate (zTj m (beV cc) vs.length) y,r3,x3)):=by
     show _=_
     rw[zA0 HN];unfold zU3;rw[Yk];dsimp only;rw[hy]
    have HT:=zA3 (zCI hr (by omega) (by decide) Yk)
    have HNC:=zA3 (fun W=>zB6 cc (by omega) W)
    have Za:Hid (∀W,Br W b r2 x2->Calls Tryz.prog 91 #[.pointer (some ⟨b,0,none⟩),.int .i64 kind] W fun e w'=>e=.returned y.v/\Br w' b r3 x3/\Gr W w' b):=fun W hW=>by
     have:=zFg hk hW (by omega:r2.length<=140737488355328)
     rw[hy] at this;exact this
    have HG:=zA3 hg
    have HO:=zA3 ho
    have QK:=hg.size
    generalize beV cc=many at *
    clear hg ho hr Yk hy HN hccl
    go_wp2_with (first
     | (go_at_call 39;refine(zA0 HT).mono ?_;rintro e w2 ⟨rfl,Hu,Hj⟩)
     | (go_at_call 40;refine(zA0 HNC _).mono ?_;rintro e wn ⟨rfl,rfl⟩)
     | (go_at_call 91;refine(zA0 Za _ Hu).mono ?_;rintro e w3 ⟨rfl,Qt,Qw⟩;rw[Val.open_]))
    have Gc:=(zA0 HO).gr (Hj.trans Qw) Zg
    have ZH:=(zA0 HG).trans (Hj.trans Qw)
    have hsz3:=ZH.size
    obtain⟨q,hq⟩:∃q,q=w3.heap.size:=⟨_,rfl⟩
    obtain⟨W,hW⟩:∃W,Hid (W=w3.alloc (.cells #[.int .i64 y.k,.int .i64 y.n,.string y.s] 59)):=⟨_,rfl⟩
    have yl:Hid (zAV W w.heap.size u9 vs):=by rw[zA0 hW];exact Gc.later (zA1 (Below.refl _ _) _)
    have YI:Hid (W.rowIs q 59 3 (zDU y)):=by rw[zA0 hW,hq];exact zAs w3 y
    have Gq:Hid (some q≠u9.ownBlock):=fun e=>by have:=(World.ownsRow.lt Gc q e.symm).2;omega
    have YY:Hid (Br W b r3 x3):=by rw[zA0 hW];exact Qt.alloc _
    have Dv:Hid (Gr w W b):=by rw[zA0 hW];exact ZH.trans (Gr.alloc _ _ _)
    rw[<-zA0 hW,<-hq]
    obtain⟨C,hC⟩:∃C,C=zTj m many vs.length:=⟨_,rfl⟩
    rw[<-hC] at QS
    have hC1:C<=many:=by rw[hC];exact Nat.min_le_left _ _
    have hC2:C<=m+1-vs.length:=by rw[hC];exact Nat.min_le_right _ _
    have TA:Hid (C=many∨C=m+1-vs.length):=by
     show _∨_
     rw[hC];unfold zTj;omega
    clear Hu Hj Qt Qw Gc ZH hsz3 hW hC hq HO HG HT Za QK
    go_loopw[9,14] (fun v i wv=>∃s:Nat,s<=C/\i=.int .i64 (s:Int)/\zAV wv w.heap.size v (vs++List.replicate s y)/\some q≠v.ownBlock/\wv.rowIs q 59 3 (zDU y)/\Br wv b r3 x3/\Gr w wv b) (fun _ i _=>C-(intOf i).toNat)
    case atStart=>exact⟨0,Nat.zero_le _,rfl,by rw[List.replicate_zero,List.append_nil];exact zA0 yl,zA0 Gq,zA0 YI,zA0 YY,zA0 Dv⟩
    case round=>
     obtain⟨s,hsC,rfl,ho,Hg,Hs,hr,hg⟩:=hrel
     obtain⟨va,vc,rfl,_,_,_⟩:=zAC ho
     obtain⟨b0,b1,b2,_,_,_⟩:=zA9 Hs
     obtain⟨L,hL⟩:∃L,L=(vs++List.replicate s y).length:=⟨_,rfl⟩
     have yj:L=vs.length+s:=by rw[hL,zAX,List.length_replicate]
     have QN:=zA3 ho
     have KF:=zA3 Hg
     have HBX2:=zA3 Hs
     have GQ:=zA3 hr
     have Gt:=zA3 hg
     have HL:=zA3 hL
     rw[<-hL] at QN KF ⊢
     have QK:=hg.size
     clear ho Hg Hs hr hg hL
     by_cases He:s<C
     ·have g1:(s:Int)<(many:Int):=by omega
      have g2:(L:Int)<=(m:Int):=by omega
      go_wp2_with (first
       | (at_builtin;refine wpList_append_own_at _ rfl (.tmp 79) (.tmp 81) 37 rfl w.heap.size 59 i4 (.agg #[.int .i64 0,.int .i64 0,.string ⟨#[]⟩]) 3 32 Tryz.underlying37 Qd z40 z41 z42 rfl (by decide) _ _ _ rfl (World.ownsRow.alloc (zA0 QN) _) ⟨wr.heap.size,0,none⟩ 1 1 (c3 y) rfl rfl (zAy wr y) (zBY _) (by rw[<-zA0 HL];unfold maxLen;omega) (by rw[<-zA0 HL];omega) (by simp;omega) ?_;intro v1 w5 Hc Ha _ Hl;have ZP:=zB9 Hc)
       | fail)
      have hqw:=World.rowIs.lt (zA0 HBX2)
      refine⟨⟨s+1,by omega,by go_num,by rw[zR8];exact ZP,?_,zAF (World.rowIs.alloc (zA0 HBX2) _) Ha (zA0 KF),Br.app (zA0 GQ) (zA0 QN) Zg Ha,(zA0 Gt).app (zA0 QN) Ha⟩,by simp[intOf];omega⟩
      rcases Hl with e|e
      ·rw[e];exact zA0 KF
      ·rw[e]
       intro e2
       injection e2 with e2
       simp at e2
       omega
     ·have es:s=C:=by omega
      have hC3:=zA0 TA
      rw[es] at QN
      by_cases g:s<many
      ·have g1:(s:Int)<(many:Int):=by omega
       have g2:¬(L:Int)<=(m:Int):=by omega
       clear hC3 yj es
       go_wp2
       exact⟨⟨k+1,j-1,vs++List.replicate C y,r3,x3,by omega,congrArg (Value.int .i64) (by omega),QS,zA0 QN,zA0 GQ,zA0 Gt⟩,by simp[intOf];omega⟩
      ·have g1:¬(s:Int)<(many:Int):=by omega
       clear hC3 yj es
       go_wp2
       exact⟨⟨k+1,j-1,vs++List.replicate C y,r3,x3,by omega,congrArg (Value.int .i64) (by omega),QS,zA0 QN,zA0 GQ,zA0 Gt⟩,by simp[intOf];omega⟩
  ·have h9:¬(0:Int)<(j:Int):=by omega
   have ej:k=n:=by omega
   have HE:Hid (zCt w wr (.returned u9) b R):=⟨u9,rfl,by rw[zA0 QR,<-ej,zA0 HP];exact⟨ho,hr,hg⟩⟩
   clear ho hr hg Yu Yn ej Zj
   go_wp2
   go_ret
   exact zA0 HE
end Go.Proofs.YtekgpapophibcaaGreat
