import Derived.Test.YtekgpapophibcaaGreatRefH
import Derived.Test.YtekgpapophibcaaGreatRyO
set_option linter.unusedSimpArgs false
set_option linter.unusedVariables false
set_option maxHeartbeats 2000000
set_option maxRecDepth 100000
namespace Go.Proofs.YtekgpapophibcaaGreat
open Go.RowKit Go.Sort
theorem zKO{c0 c1 n0 n1 n2 n3 z:UInt8}{tl L:List UInt8}{w:World}(hL:L=c0::c1::n0::n1::n2::n3::z::tl)(hs:1<=c0.toNat/\c0.toNat<=4)(hk:c1.toNat=1∨c1.toNat=2)(hn:beV [n0,n1,n2,n3]<=4096)(hz:z.toNat<=1)(hl:L.length<=140737488355328) :
  Calls Tryz.prog 41 #[.string (bs L)] w fun e w'=>UnQ w w' L e:=by
 rcases hk with hk|hk
 case' inr=>have h2k:=zA3 hk
 all_goals
  obtain⟨i6,YL,z60,z61,z62⟩:=info_parts Tryz.info73
  obtain⟨i4,Qd,z40,z41,z42⟩:=info_parts Tryz.info59
  obtain⟨n,Hg⟩:∃n,n=beV [n0,n1,n2,n3]:=⟨_,rfl⟩
  rw[<-Hg] at hn
  obtain⟨Fu,DM,hqr⟩:=zN4 z.toNat n tl
  obtain⟨ks,r,x,hq⟩:∃ks r x,zIz z.toNat n tl=(ks,r,x):=⟨_,_,_,rfl⟩
  rw[hq] at Fu DM hqr
  replace Fu:ks.length=n:=Fu
  replace DM:∀k∈ks,k<2:=DM
  replace hqr:r.length<=tl.length:=hqr
  obtain⟨m,hm⟩:∃m,m=(ks.map (· == 1)).count false:=⟨_,rfl⟩
  obtain⟨vs,r2,x2,hv⟩:∃vs r2 x2,zG2 c0.toNat (c1.toNat:Int) m r x=(vs,r2,x2):=⟨_,_,_,rfl⟩
  have Jd:=zA3 (fun sch kind xs=>zSu (sch:=sch) (kind:=kind) (xs:=xs) hL Hg hq hm hv)
  have HRNG:Hid (∀x∈zAU (ks.map (· == 1)) vs,Rng x):=zFc _ _ (by have:=zMP c0.toNat (c1.toNat:Int) m r x;rw[hv] at this;exact this)
  have hmn:m<=n:=by rw[hm,<-Fu];exact Nat.le_trans List.count_le_length (by simp)
  have Hf:L.length=tl.length+7:=by rw[hL];rfl
  obtain⟨N7,hN7⟩:∃N7,N7=tl.length+7:=⟨_,rfl⟩
  have QK:(bs L).size=N7:=by rw[zBV,Hf,hN7]
  have h7:¬(N7:Int)<7:=by omega
  have h67:¬(N7:Int)<6:=by omega
  have g0:L[0]?=some c0:=by rw[hL];rfl
  have g1:L[1]?=some c1:=by rw[hL];rfl
  have g6:L[6]?=some z:=by rw[hL];rfl
  have kx0:∀W,(Instr.index 9 (.string (bs L)) (.int .i64 0)).run Tryz.prog W=.ok (.int .u8 (c0.toNat:Int)) W:=fun W=>zH4 L 0 c0 g0 W
  have kx1:∀W,(Instr.index 9 (.string (bs L)) (.int .i64 1)).run Tryz.prog W=.ok (.int .u8 (c1.toNat:Int)) W:=fun W=>zH4 L 1 c1 g1 W
  have kx6:∀W,(Instr.index 9 (.string (bs L)) (.int .i64 6)).run Tryz.prog W=.ok (.int .u8 (z.toNat:Int)) W:=fun W=>zH4 L 6 z g6 W
  have Ji:(bs L).extract 2 6=bs [n0,n1,n2,n3]:=by rw[hL];rfl
  have hx7:(bs L).extract 7 N7=bs tl:=by
   have:=zHD L 7
   rw[Hf,<-hN7] at this
   rw[this,hL];rfl
  have HN:Hid (∀W,Calls Tryz.prog 40 #[.string (bs [n0,n1,n2,n3])] W fun e w'=>e=.returned (.int .u64 (n:Int))/\w'=W):=fun W=>by rw[Hg];exact zB6 [n0,n1,n2,n3] (by show 4<=8;decide) W
  have QQ:=zA3 (fun W b (hW:Br W b r x)=>(zMQ hs (by omega:(c1.toNat:Int)=1∨(c1.toNat:Int)=2) (by omega:m<=4096) hW (by omega)).mono fun e w' h=>(hv ▸ h:zCt W w' e b (vs,r2,x2)))
  have HNUL:Hid (∀W b,z.toNat=1->Br W b tl false->Calls Tryz.prog 67 #[.pointer (some ⟨b,0,none⟩),.int .i64 n,.int .i64 1] W fun e w'=>∃g,e=.returned (.slice (some ⟨g,0,none⟩) n n)/\w'.rowIs g 73 n (zKC ks)/\W.heap.size<=g/\Br w' b r x/\Gr W w' b):=fun W b Qp hW=>by
   unfold zIz at hq
   rw[if_pos Qp] at hq
   injection hq with q1 q2
   have:=zFp (d:=1) hn (by decide) hW (by omega) (Prod.ext rfl q2:zAE tl false (zAO n 1)=((zAE tl false (zAO n 1)).1,r,x))
   refine this.mono ?_
   rintro e w' ⟨g,h1,h2,h3,h4,h5⟩
   refine⟨g,h1,?_,h3,h4,h5⟩
   rw[<-q1,q2];exact h2
  have HNU0:Hid (z.toNat=0->ks=List.replicate n 0/\r=tl/\x=false):=fun QY=>by
   unfold zIz at hq
   rw[if_neg (by omega)] at hq
   injection hq with q1 q2
   injection q2 with q2 q3
   exact⟨q1.symm,q2.symm,q3.symm⟩
  obtain⟨X,f,hF⟩:∃X f,zBU (c1.toNat:Int) (zAU (ks.map (· == 1)) vs)=(X,f):=⟨_,_,rfl⟩
  have Qs:(zAU (ks.map (· == 1)) vs).length=n:=by rw[zDa,List.length_map,Fu]
  have qi:Hid (∀W a c,zAR W a (zAU (ks.map (· == 1)) vs)->Calls Tryz.prog 17 #[.int .i64 (c1.toNat:Int),.slice a (zAU (ks.map (· == 1)) vs).length c] W fun e w'=>∃p,e=.returned (.tuple #[zCC X p,.int .i64 f])/\zAi w' X p/\zBb W.heap.size p/\Below W.heap.size W w'):=fun W a c hW=>by
   have:=zGp a c (c1.toNat:Int) _ W (by rw[Qs];omega) hW
   rw[hF] at this
   exact this
  have KR:Hid (f≠0->zB7 L=none):=fun hf=>zFl fun sch kind xs hc=>by
   obtain⟨q1,q2,q3,q4,q5⟩:=zA0 Jd _ _ _ hc
   have:=(zDo hc).1
   rw[q2,q5,hF] at this
   injection this with _ e
   exact hf e
  have Tz:Hid (f=0->small X/\∀t q,RW X (c0.toNat:Int) t q->(q=0->t=bs L->UnR L X 0)/\(¬(q=0/\t=bs L)->zB7 L=none)):=fun hf=>by
   rw[hf] at hF
   obtain⟨g1,g2,g3,g4,g5,g6,g7,g8⟩:=zH5 hF
   rw[Qs] at g5 g6 g7
   have qv:∀n∈X.ns,zKF n:=fun n hn=>zPo (g8 (fun x hx=>zA0 HRNG x hx) n hn)
   refine⟨⟨by omega,by omega,by omega⟩,fun t q hw=>⟨fun e1 e2=>?_,fun Hg=>zFl fun sch kind xs hc=>?_⟩⟩
   ·subst e1 e2
    have h4:c0.toNat=1∨c0.toNat=2∨c0.toNat=3∨c0.toNat=4:=by omega
    have:=zJ4 qv h4 hw
    exact .inl ⟨rfl,⟨_,this⟩,g4,by omega,by omega,by omega⟩
   ·obtain⟨q1,q2,q3,q4,q5⟩:=zA0 Jd _ _ _ hc
    have hr:=(zDo hc).1
    rw[q2,q5,hF] at hr
    injection hr with hr _
    rw[<-zTm L] at hc
    rw[hr,<-q1,<-q5,<-q2] at hw
    exact Hg (zJS hc hw)
  have HKS:=zA3 DM
  have yV:=zA3 Fu
  have HM:=zA3 hm
  have Fd:c0.toNat<256:=c0.toNat_lt
  have Qj:c1.toNat<256:=c1.toNat_lt
  have hLb:(N7:Int)<=140737488355328:=by omega
  obtain⟨s,yE⟩:∃s,s=bs L:=⟨_,rfl⟩
  have HSE:=zA3 yE
  rw[<-yE] at Tz QK kx0 kx1 kx6 Ji hx7 ⊢
  generalize c0.toNat=a0 at *
  first|have hkI:(c1.toNat:Int)=1:=by omega|have hkI:(c1.toNat:Int)=2:=by omega
  clear hk Qj
  generalize (c1.toNat:Int)=kd at *
  generalize z.toNat=az at *
  have hni:¬(4096:Int)<(n:Int):=by omega
  have j0:¬(a0:Int)<1:=by omega
  have j1:¬(4:Int)<(a0:Int):=by omega
  have j5:¬(1:Int)<(az:Int):=by omega
  obtain⟨bz,yf⟩:∃bz,((az:Int) == 1)=bz:=⟨_,rfl⟩
  have HBZ:=zA3 yf
  clear hF Qs hL Hf hN7 hq hm hv Hg g0 g1 g6 DM yE Fu
  subst hkI
  ·go_enter Tryz.func41,Tryz.ntmps41
   go_upto_if 62 with (first
    | (go_at_call 40;refine(zA0 HN _).mono ?_;rintro e wn ⟨rfl,rfl⟩)
    | (at_make;refine wpList_make_row _ rfl (.tmp 58) (.tmp 58) 115 rfl 73 i6 (.int .u64 0) Tryz.underlying115 YL z60 z61 rfl .i64 .i64 n rfl rfl (by rw[z62];omega) (by omega) ?_))
   have Jg:Hid (Br (((w.alloc zCp).alloc (.cells #[.string (bs tl),.bool false] 83)).alloc (.cells (madeCells #[.int .u64 0] n) 73)) (w.heap.size+1) tl false):=by
    have:=(Br.new (w.alloc zCp) tl false).alloc (.cells (madeCells #[.int .u64 0] n) 73)
    rw[zDS] at this
    exact this
   have Zc:Hid ((((w.alloc zCp).alloc (.cells #[.string (bs tl),.bool false] 83)).alloc (.cells (madeCells #[.int .u64 0] n) 73)).rowIs (w.heap.size+1+1) 73 n (zKC (List.replicate n 0))):=by
    have:=World.rowIs_made ((w.alloc zCp).alloc (.cells #[.string (bs tl),.bool false] 83)) (.int .u64 0) n 73
    rw[zDS,zDS] at this
    exact this.congr fun j hj=>by simp[zKC,List.getD_eq_getElem?_getD,List.getElem?_replicate,hj]
   have Yo:Hid (Below (w.alloc zCp).heap.size (w.alloc zCp) (((w.alloc zCp).alloc (.cells #[.string (bs tl),.bool false] 83)).alloc (.cells (madeCells #[.int .u64 0] n) 73))):=zA1 (zA1 (Below.refl _ _) _) _
   go_cut[6] (fun s6 wr=>∃g,s6=.slice (some ⟨g,0,none⟩) n n/\wr.rowIs g 73 n (zKC ks)/\g≠w.heap.size+1/\Br wr (w.heap.size+1) r x/\Below (w.alloc zCp).heap.size (w.alloc zCp) wr)
   case first=>
    clear yf
    cases bz
    ·have QY:az=0:=by have h:=zA0 HBZ;simp at h;omega
     obtain⟨e1,e2,e3⟩:=zA0 HNU0 QY
     have HE:=zA3 e1
     have ql:=zA3 e2
     have HE3:=zA3 e3
     clear e1 e2 e3 QY
     go_wp2
     go_meet
     exact⟨_,rfl,by rw[zA0 HE];exact zA0 Zc,by omega,by rw[zA0 ql,zA0 HE3];exact zA0 Jg,zA0 Yo⟩
    ·have Qp:az=1:=by have h:=zA0 HBZ;simp at h;omega
     have HCA:=zA3 (zA0 HNUL _ _ Qp (zA0 Jg))
     clear Qp
     go_wp2_with (go_at_call 67;refine(zA0 HCA).mono ?_;rintro e w4 ⟨g,rfl,ya,TR,Gy,Yh⟩)
     go_meet
     refine⟨g,rfl,ya,?_,Gy,zLt (zA0 Yo) Yh (by simp)⟩
     simp at TR
     omega
   case rest=>
    obtain⟨g,rfl,Hk,hgb,QJ,Hx⟩:=hcut
    rename World=>wr
    have hgsz:g<wr.heap.size:=World.rowIs.lt Hk
    have hwr:w.heap.size+1<=wr.heap.size:=by have:=Hx.size;rw[zDS] at this;exact this
    have Qf:=zA3 Hk
    have HBEL:=zA3 Hx
    have Kt:=zA3 (zA0 QQ wr.drew _ (World.rowIs.drew QJ))
    first | (have _q:=h2k;rw[<-zCZ (a:=(a0:Int)) (by omega) (by omega),<-zCZ (a:=(2:Int)) (by omega) (by omega)] at Kt)|rw[<-zCZ (a:=(a0:Int)) (by omega) (by omega),<-zCZ (a:=(1:Int)) (by omega) (by omega)] at Kt
    have HBELD:Hid (Below (w.alloc zCp).heap.size (w.alloc zCp) wr.drew):=Hx.drew
    clear Hk Hx QJ
    go_wp2_with fail
    go_loop[7,68] (fun s7 i=>∃k:Nat,k<=n/\i=.int .i64 (k:Int)/\s7=.int .i64 (zDf (ks.map (· == 1)) k:Nat)) (fun _ i=>n-(intOf i).toNat)
    case atStart=>exact⟨0,Nat.zero_le _,rfl,rfl⟩
    case round=>
     obtain⟨k,Zj,rfl,rfl⟩:=hrel
     have YN:=zTk (ks.map (· == 1)) k
     by_cases He:k<n
     ·have h9:(k:Int)<(n:Int):=by omega
      obtain⟨y,hy⟩:∃y,ks[k]?=some y:=⟨_,zAf (by rw[zA0 yV];exact He)⟩
      have cy:wr.cell? ⟨g,k,none⟩=some (.int .u64 (y:Int)):=by
       have:=World.rowIs.cell (zA0 Qf) He
       simpa [zKC,List.getD_eq_getElem?_getD,hy] using this
      have ZJ:=zA3 (zFQ (nl:=ks.map (· == 1)) (k:=k) (x:=(y == 1)) (by simp[hy]))
      rcases zSV (zA0 HKS) hy with rfl|rfl
      ·clear hy
       generalize zDf (ks.map (· == 1)) k=c at *
       go_wp2
       refine⟨⟨k+1,by omega,by go_num,?_⟩,by simp[intOf];omega⟩
       rw[zA0 ZJ]
       simp
      ·clear hy
       generalize zDf (ks.map (· == 1)) k=c at *
       go_wp2
       refine⟨⟨k+1,by omega,by go_num,?_⟩,by simp[intOf];omega⟩
       rw[zA0 ZJ]
       simp
     ·have h9:¬(k:Int)<(n:Int):=by omega
      have ye:zDf (ks.map (· == 1)) k=m:=by
       unfold zDf
       rw[zA0 HM,List.take_of_length_le (by rw[List.length_map,zA0 yV];omega)]
      rw[ye]
      clear ye YN
      go_upto_region 16 with fail
      go_cut[10] (fun s10 wx=>zCt wr.drew wx (.returned s10) (w.heap.size+1) (vs,r2,x2))
      case first=>
       go_region_with (go_at_call 68;refine(zA0 Kt).mono ?_;rintro e w5 ⟨v5,rfl,qr⟩)
       all_goals
        go_wp2
        go_meet
        exact⟨_,rfl,qr⟩
      case rest=>
       obtain⟨v5,ev5,ZP,YS,QI⟩:=hcut
       injection ev5 with ev5
       subst ev5
       rename World=>w5
       obtain⟨a5,c5,rfl,_,_,Jr⟩:=zAC ZP
       obtain⟨d0,d1,f0,f1⟩:=YS.facts
       have Zq:=zLt (zA0 HBELD) QI (by rw[zDS];omega)
       obtain⟨⟨b0,b1,b2,b3⟩,q0,q1,q2,q3⟩:=zBo Zq
       have yo:=zA3 Zq
       have hB5w:Hid (Below w.heap.size w w5):=zAP Zq
       cases x2 with
       | true=>
        have HD:Hid (zB7 L=none):=zFl fun sch kind xs hc=>by have:=(zA0 Jd _ _ _ hc).2.2.1;cases this
        clear ZP YS QI Jr Zq
        go_wp2
        refine bodyPost_ret (v:=.tuple #[zAa,.int .i64 2]) (by simp[results,Tryz.results41,go_sem,zAa, *]) rfl (zE2 (zA0 HD) ?_)
        exact put4 (zA0 hB5w) _ _ _ _
       | false=>
        by_cases hvm:vs.length=m
        ·have hvi:((vs.length:Int) != (m:Int))=false:=by simp;omega
         have hcap:=zRM ZP
         have HR5:=zA3 Jr
         have Ff:Hid (w5.rowIs g 73 n (zKC ks)):=zC8 (World.rowIs.drew (zA0 Qf)) QI hgb
         have hg5z:g<w5.heap.size:=World.rowIs.lt (zA0 Ff)
         have hvm4:vs.length<=4096:=by omega
         have HVM:=zA3 hvm
         have hz5:w.heap.size+1<=w5.heap.size:=by have:=Zq.size;rw[zDS] at this;exact this
         clear ZP YS QI Jr Zq hvm
         obtain⟨nl,Yf⟩:∃nl,nl=ks.map (· == 1):=⟨_,rfl⟩
         rw[<-Yf] at Jd HRNG HM qi
         have YA:=zA3 Yf
         clear Yf
         obtain⟨NV,hNV⟩:∃NV,Hid (NV=Val.null):=⟨_,rfl⟩
         have Zb:Hid (∀W,Calls Tryz.prog 62 #[] W fun e w'=>e=.returned NV.v/\Below W.heap.size W w'):=fun W=>by rw[zA0 hNV];exact zGO W
         go_wp2_with fail
         go_loopw[10,11,100] (fun s10 s11 i wx=>∃(k:Nat) (a':Option Addr),k<=n/\i=.int .i64 (k:Int)/\s10=.slice a' (vs.drop (zDf nl k)).length (c5-zDf nl k)/\zAR w5 a' (vs.drop (zDf nl k))/\zAV wx w5.heap.size s11 (zAU (nl.take k) vs)/\Below w5.heap.size w5 wx) (fun _ _ i _=>n-(intOf i).toNat)
         case atStart=>exact⟨0,a5,Nat.zero_le _,rfl,by simp[zDf],by simpa [zDf] using zA0 HR5,⟨rfl,.inl ⟨rfl,rfl⟩⟩,Below.refl _ _⟩
         case round=>
          obtain⟨k,a',Zj,rfl,rfl,hA,ho,hb⟩:=hrel
          by_cases He:k<n
          ·have h9:(k:Int)<(n:Int):=by omega
           obtain⟨y,hy⟩:∃y,ks[k]?=some y:=⟨_,zAf (by rw[zA0 yV];exact He)⟩
           have cy:wr.cell? ⟨g,k,none⟩=some (.int .u64 (y:Int)):=by
            have:=World.rowIs.cell (zA5 (zA0 Ff) hb) He
            simpa [zKC,List.getD_eq_getElem?_getD,hy] using this
           have yJ:nl[k]?=some (y == 1):=by rw[zA0 YA];simp[hy]
           have ZJ:=zA3 (zFQ yJ)
           have HSN:=zA3 (zEq (vs:=vs) yJ)
           have Qh:Hid ((zAU (nl.take k) vs).length<=4096):=by
            show _<=_
            rw[zDa,List.length_take];omega
           have hyw:=zSV (zA0 HKS) hy
           have HB:=zA3 hb
           have HO:=zA3 ho
           have HA:=zA3 hA
           have yf:=hb.size
           generalize hj:zDf nl k=j at *
           clear hb ho hA hy
           rcases hyw with rfl|rfl
           ·have qy:j<vs.length:=by
             have:=zQB (nl:=nl) (k:=k) (by simpa using yJ)
             rw[hj] at this
             rw[zA0 HVM,zA0 HM];exact this
            obtain⟨x,ys,hd⟩:∃x ys,vs.drop j=x::ys:=⟨_,_,List.drop_eq_getElem_cons qy⟩
            have YE:ys.length+1=vs.length-j:=by have:=congrArg List.length hd;rw[List.length_drop] at this;simpa using this.symm
            obtain⟨vb,vo,rfl,e0,e1,e2⟩:=((zA0 HA).later (zA0 HB)).lo (k:=0) (x:=x) (by rw[hd];rfl)
            rw[Nat.zero_mul,Nat.add_zero] at e0 e1 e2
            have Hf:(vs.drop j).length=ys.length+1:=by rw[hd];rfl
            rw[Hf]
            have Kv:Hid (zAU (nl.take (k+1)) vs=zAU (nl.take k) vs++[x]):=by
             have:=zA0 HSN
             rw[hd] at this
             exact this
            have HJN:Hid (zDf nl (k+1)=j+1):=zA0 ZJ
            obtain⟨CC,Tt⟩:∃CC,CC=c5-j:=⟨_,rfl⟩
            rw[<-Tt]
            have hNC:ys.length+1<=CC:=by omega
            have hNC2:(ys.length:Int)+1<=(CC:Int):=by omega
            have yU:Hid (zAR w5 (some ⟨vb,vo+3,none⟩) ys):=by
             have:=(zA0 HA).drop (j:=1) (by rw[Hf];omega)
             rw[hd] at this
             show zAR _ _ _
             simpa using this
            have Dz:=zA3 Tt
            have HDN:Hid (vs.drop (j+1)=ys):=by show _=_;rw[<-List.drop_drop,hd];rfl
            generalize hus:zAU (nl.take k) vs=us at *
            clear Tt hd Hf hj hus yJ YE HSN ZJ
            go_wp2_with (
             (at_builtin;refine wpList_append_own_at _ rfl (.tmp 110) (.tmp 114) 37 rfl w5.heap.size 59 i4 (.agg #[.int .i64 0,.int .i64 0,.string ⟨#[]⟩]) 3 32 Tryz.underlying37 Qd z40 z41 z42 rfl (by decide) _ _ _ rfl (World.ownsRow.alloc (zA0 HO) _) ⟨wr.heap.size,0,none⟩ 1 1 (c3 x) rfl rfl (zAy wr x) (zBY _) (by have:=zA0 Qh;unfold maxLen;omega) (by have:=zA0 Qh;omega) (by simp;omega) ?_;intro v1 w8 Hc Ha _ Hl;have ho8:=zB9 Hc))
            refine⟨⟨k+1,(if CC=1 then some ⟨vb,vo,none⟩ else some ⟨vb,vo+3,none⟩),by omega,by go_num,?_,?_,by rw[zA0 Kv];exact ho8,?_⟩,by simp[intOf];omega⟩
            ·rw[zA0 HJN,zA0 HDN,show c5-(j+1)=CC-1 by have:=zA0 Dz;omega]
            ·rw[zA0 HJN,zA0 HDN]
             by_cases Qj:CC=1
             ·exact .inl (List.eq_nil_of_length_eq_zero (by omega))
             ·rw[if_neg Qj];exact zA0 yU
            ·exact(zA1 (zA0 HB) _).trans (zAd (B:=w5.heap.size) Ha (by simp;omega) (fun g hg=>(World.ownsRow.lt (zA0 HO) g hg).1))
           ·have Kv:Hid (zAU (nl.take (k+1)) vs=zAU (nl.take k) vs++[NV]):=by
             have:=zA0 HSN
             rw[zA0 hNV]
             exact this
            have HJN:Hid (zDf nl (k+1)=j):=zA0 ZJ
            generalize hus:zAU (nl.take k) vs=us at *
            obtain⟨DL,hDL⟩:∃DL,DL=(vs.drop j).length:=⟨_,rfl⟩
            obtain⟨CC,Tt⟩:∃CC,CC=c5-j:=⟨_,rfl⟩
            rw[<-hDL,<-Tt]
            have HDL:=zA3 hDL
            have Dz:=zA3 Tt
            clear hj hus yJ HSN ZJ hDL Tt
            go_wp2_with (first
             | (go_at_call 62;refine(zA0 Zb _).mono ?_;rintro e w7 ⟨rfl,Qx⟩;rw[Val.open_];have TH:=(zA0 HO).later Qx;have hz7:=Qx.size)
             | (at_builtin;refine wpList_append_own_at _ rfl (.tmp 106) (.tmp 108) 37 rfl w5.heap.size 59 i4 (.agg #[.int .i64 0,.int .i64 0,.string ⟨#[]⟩]) 3 32 Tryz.underlying37 Qd z40 z41 z42 rfl (by decide) _ _ _ rfl (World.ownsRow.alloc TH _) ⟨w7.heap.size,0,none⟩ 1 1 (c3 NV) rfl rfl (zAy w7 NV) (zBY _) (by have:=zA0 Qh;unfold maxLen;omega) (by have:=zA0 Qh;omega) (by simp;omega) ?_;intro v1 w8 Hc Ha _ Hl;have ho8:=zB9 Hc))
            refine⟨⟨k+1,a',by omega,by go_num,?_,?_,by rw[zA0 Kv];exact ho8,?_⟩,by simp[intOf];omega⟩
            ·rw[zA0 HJN,zA0 HDL,zA0 Dz]
            ·rw[zA0 HJN];exact zA0 HA
            ·exact(zA1 (zA2 (zA0 HB) Qx) _).trans (zAd (B:=w5.heap.size) Ha (by simp;omega) (fun g hg=>(World.ownsRow.lt TH g hg).1))
          ·have h9:¬(k:Int)<(n:Int):=by omega
           have hnlk:nl.take k=nl:=List.take_of_length_le (by rw[zA0 YA,List.length_map,zA0 yV];omega)
           rw[hnlk] at ho
           obtain⟨a9,c9,rfl,_,_,hrw9⟩:=zAC ho
           have HCF:=zA3 (zA0 qi wr a9 c9 hrw9)
           have YD:=zA3 hb
           obtain⟨DL,hDL⟩:∃DL,DL=(vs.drop (zDf nl k)).length:=⟨_,rfl⟩
           obtain⟨CC,Tt⟩:∃CC,CC=c5-zDf nl k:=⟨_,rfl⟩
           rw[<-hDL,<-Tt]
           clear ho hb hA hrw9 hnlk hDL Tt
           go_upto_region 29 with (go_at_call 17;refine(zA0 HCF).mono ?_;rintro e w9 ⟨p,rfl,hv9,hf9,Ho⟩;rw[zAM])
           have Ki:=zA2 (zA0 YD) Ho
           have De:=zA1 (zA2 (zA0 yo) Ki) (.cells #[.int .i64 X.k,.slice p.a1 X.nl.length p.c1,.slice p.a2 X.ns.length p.c2,.slice p.a3 X.ss.length p.c3] 49)
           have hVA:=hv9.later (zA1 (Below.refl _ w9) (.cells #[.int .i64 X.k,.slice p.a1 X.nl.length p.c1,.slice p.a2 X.ns.length p.c2,.slice p.a3 X.ss.length p.c3] 49))
           have hFR:zBb (w.heap.size+1) p:=hf9.less (by have:=(zA0 YD).size;omega)
           have hz9:w.heap.size+1<=w9.heap.size:=by have:=(zA2 (zA0 yo) Ki).size;rw[zDS] at this;exact this
           have hBX:zSn (w9.alloc (.cells #[.int .i64 X.k,.slice p.a1 X.nl.length p.c1,.slice p.a2 X.ns.length p.c2,.slice p.a3 X.ss.length p.c3] 49)) w9.heap.size X p:=⟨by simp[go_sem],by simp[go_sem],by simp[go_sem],by simp[go_sem]⟩
           obtain⟨WB,yi⟩:∃WB,WB=w9.alloc (.cells #[.int .i64 X.k,.slice p.a1 X.nl.length p.c1,.slice p.a2 X.ns.length p.c2,.slice p.a3 X.ss.length p.c3] 49):=⟨_,rfl⟩
           rw[<-yi] at De hVA hBX ⊢
           obtain⟨⟨b0,b1,b2,b3⟩,q0,q1,q2,q3⟩:=zBo De
           have Hs:=hBX
           obtain⟨y0,y1,y2,y3⟩:=Hs
           have HB9a:=zA3 De
           have YI:=zA3 hBX
           have Kr:=zA3 hVA
           have HFR2:=zA3 hFR
           clear Ki De hVA hBX yi hv9 hf9 Ho hFR
           by_cases DW:f=0
           ·subst DW
            obtain⟨Ti,hfin⟩:=zA0 Tz rfl
            have ZN:=zA3 hfin
            have HWR:Hid (Calls Tryz.prog 63 #[.agg #[.int .i64 X.k,.slice p.a1 X.nl.length p.c1,.slice p.a2 X.ns.length p.c2,.slice p.a3 X.ss.length p.c3],.int .i64 (IntKind.i64.wrap (a0:Int))] WB.drew fun e w'=>∃s f,e=.returned (.tuple #[.string s,.int .i64 f])/\Hid (RW X (a0:Int) s f)/\Below WB.drew.heap.size WB.drew w'):=by
             rw[zCZ (a:=(a0:Int)) (by omega) (by omega)]
             exact zHX X p (a0:Int) WB.drew Ti ((zA0 Kr).later ((Below.refl _ WB).drew))
            clear Ti hfin
            go_upto_region 31 with fail
            go_cut[16,17] (fun s16 s17 wx=>∃t q,s16=.string t/\s17=.int .i64 q/\Hid (RW X (a0:Int) t q)/\Below WB.heap.size WB wx)
            case first=>
             go_region_with (go_at_call 63;refine(zA0 HWR).mono ?_;rintro e w10 ⟨t,q,rfl,Ka,GY⟩)
             all_goals
              go_wp2
              go_meet
              exact⟨t,q,rfl,rfl,Ka,zA2 ((Below.refl _ WB).drew) GY⟩
            case rest=>
             obtain⟨t,q,rfl,rfl,YY,GY⟩:=hcut
             rename World=>w10
             have Kj:=zA2 (zA0 HB9a) GY
             obtain⟨⟨b0,b1,b2,b3⟩,q0,q1,q2,q3⟩:=zBo Kj
             obtain⟨y0,y1,y2,y3⟩:=(zA0 YI).later GY
             have JO:=zA3 (zAP Kj)
             have HVA2:=zA3 ((zA0 Kr).later GY)
             have HFF:=zA3 (zA0 ZN _ _ (zA0 YY))
             clear Kj GY
             by_cases hqt:q=0/\t=s
             ·obtain⟨hq0,ht0⟩:=hqt
              have HU:=zA3 ((zA0 HFF).1 hq0 ht0)
              subst hq0 ht0
              clear HFF Tz ZN
              go_wp2
              refine bodyPost_ret (v:=.tuple #[.agg #[.int .i64 X.k,.slice p.a1 X.nl.length p.c1,.slice p.a2 X.ns.length p.c2,.slice p.a3 X.ss.length p.c3],.int .i64 0]) (by simp[results,Tryz.results41,go_sem, *]) rfl ?_
              exact⟨X,p,0,rfl,(zA0 HVA2).put4 (zA0 HFR2) _ _ _ _,(zA0 HFR2).less (by omega),HU,put4 (zA0 JO) _ _ _ _⟩
             ·have HD:=zA3 ((zA0 HFF).2 hqt)
              have hqt2:(q != 0)=true∨(q=0/\(t.toList == s.toList)=false):=by
               by_cases hq0:q=0
               ·exact .inr ⟨hq0,zTy fun h=>hqt ⟨hq0,h⟩⟩
               ·exact .inl (by simpa using hq0)
              clear hqt HFF Tz ZN
              rcases hqt2 with hq1|⟨rfl,ht1⟩
              ·go_wp2
               refine bodyPost_ret (v:=.tuple #[zAa,.int .i64 2]) (by simp[results,Tryz.results41,go_sem,zAa, *]) rfl (zE2 (zA0 HD) ?_)
               exact put4 (zA0 JO) _ _ _ _
              ·go_wp2
               refine bodyPost_ret (v:=.tuple #[zAa,.int .i64 2]) (by simp[results,Tryz.results41,go_sem,zAa, *]) rfl (zE2 (zA0 HD) ?_)
               exact put4 (zA0 JO) _ _ _ _
           ·have HD:=zA3 (zA0 KR DW)
            have hfi:(f != 0)=true:=by simpa using DW
            clear DW
            go_wp2
            refine bodyPost_ret (v:=.tuple #[zAa,.int .i64 2]) (by simp[results,Tryz.results41,go_sem,zAa, *]) rfl (zE2 (zA0 HD) ?_)
            exact put4 (zAP (zA0 HB9a)) _ _ _ _
        ·have HD:Hid (zB7 L=none):=zFl fun sch kind xs hc=>hvm (zA0 Jd _ _ _ hc).2.2.2.1
         have hvi:((vs.length:Int) != (m:Int))=true:=by simp;omega
         clear ZP YS QI Jr Zq
         go_wp2
         refine bodyPost_ret (v:=.tuple #[zAa,.int .i64 2]) (by simp[results,Tryz.results41,go_sem,zAa, *]) rfl (zE2 (zA0 HD) ?_)
         exact put4 (zA0 hB5w) _ _ _ _
end Go.Proofs.YtekgpapophibcaaGreat
