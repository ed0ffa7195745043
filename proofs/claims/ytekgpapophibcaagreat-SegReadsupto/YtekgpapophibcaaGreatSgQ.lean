import Derived.Test.YtekgpapophibcaaGreatSgF
import Derived.Test.YtekgpapophibcaaGreatRyZ
import Derived.Test.YtekgpapophibcaaGreatRyT
set_option linter.unusedSimpArgs false
set_option linter.unusedVariables false
set_option maxHeartbeats 8000000
set_option maxRecDepth 100000
namespace Go.Proofs.YtekgpapophibcaaGreat
open Go.RowKit Go.Sort
theorem zIk{W:World}{B:Nat}{n:Int}(h:W.cell? ⟨B,0,none⟩=some (.int .u8 n)):(convert 71 9 (.slice (some ⟨B,0,none⟩) 1 1)).run Tryz.prog W=.ok (.string (toB [n])) W:=by
 rw[run_convert_bytes_string W 71 9 5 _ _ _ Tryz.underlying71 Tryz.underlying5 Tryz.underlying9]
 refine run_bytesToString W _ _ _ [n] ?_
 have:=run_loadCells_list (P:=Tryz.prog) (w:=W) ⟨B,0,none⟩ [.int .u8 n] (fun j v hv=>by
  match j,hv with
  | 0,hv=>simp at hv;subst hv;simpa [Addr.add] using h
  | j+1,hv=>simp at hv)
 simpa using this
theorem zRB(K:Vc->ByteArray->Prop)(zf:Vc->ByteArray)(ps:List (ByteArray×ByteArray))(zAB:List Int)(ak:Option Addr)(ck:Nat)(rs:List (List Val))(ar:Option Addr)(cr:Nat)(w:World)(Jv:1<=zAB.length)(JU:zAB.length<=32)(hk:zRT zAB=true)(hl:rs.length<=140737488355328)(qw:∀r∈rs,r.length<=140737488355328)
  (GC:zAp w ak (zAB.map (Value.int .i64))) (TX:zCY w ar rs)
  (hQ:loM rs=false->odM zAB rs=false->PsX K zf zAB.length (fun i=>(colX zAB rs i).1) ps/\∀i,i<zAB.length->RLaw K zf (colX zAB rs i).1) :
  Calls Tryz.prog 6 #[.slice ak zAB.length ck,.slice ar rs.length cr] w fun e w'=>e=.returned (if loM rs then .tuple #[.string ⟨#[]⟩,.int .i64 3] else if odM zAB rs then .tuple #[.string ⟨#[]⟩,.int .i64 4] else .tuple #[.string (zJJ zAB.length rs.length ps),.int .i64 0])/\Below w.heap.size w w':=by
 obtain⟨R,hR⟩:∃R,(if loM rs then Value.tuple #[.string ⟨#[]⟩,.int .i64 3] else if odM zAB rs then .tuple #[.string ⟨#[]⟩,.int .i64 4] else .tuple #[.string (zJJ zAB.length rs.length ps),.int .i64 0])=R:=⟨_,rfl⟩
 rw[hR]
 have QR:=zA3 hR
 have HQ:=zA3 hQ
 clear hR hQ
 have HK:=zH3 zAB ak ck w (by omega) GC
 unfold zRT at hk
 rw[hk] at HK
 have HK2:=zA3 HK
 have yq:=zA3 GC
 have HAR:=zA3 TX
 have KH:=zA3 qw
 clear HK GC TX qw hk
 go_enter Tryz.func6,Tryz.ntmps6
 go_wp2_with (first | (go_at_call 30;refine(zA0 HK2).mono ?_;rintro _ w0 ⟨rfl,hw0⟩;rw[hw0];clear hw0))
 go_loopw[6,7,30] (fun od lo s wr=>∃(j:Nat) (o l:Bool),s=.int .i64 (j:Int)/\j<=rs.length/\od=.bool o/\lo=.bool l/\Hid (zUV zAB rs j l o)/\Below w.heap.size w wr) (fun _ _ s _=>rs.length-(intOf s).toNat)
 case atStart=>exact⟨0,false,decide (4096<(rs.length:Int)),rfl,by omega,rfl,rfl,⟨by simp,by simp⟩,Below.refl _ _⟩
 case round=>
  obtain⟨j,o,l,rfl,hj,rfl,rfl,HM,hb⟩:=hrel
  by_cases h7:j<rs.length
  ·have i7:(j:Int)<(rs.length:Int):=by omega
   obtain⟨r,hr⟩:∃r,rs[j]?=some r:=⟨_,zAf h7⟩
   obtain⟨rb,ro,rfl,ra,rc,c0,QB⟩:=zGK ((zA0 HAR).later hb) hr
   have Yn:=zA0 KH r (List.mem_of_getElem? hr)
   have qd:=zA3 QB
   have HR:=zA3 hr
   have QV:=zA3 hb
   obtain⟨o1,QU⟩:∃o1,(o || ((r.length:Int) != (zAB.length:Int)))=o1:=⟨_,rfl⟩
   have YU:=zA3 QU
   clear QB hr hb QU
   go_upto_region 8 with fail
   go_cut[6] (fun s wz=>s=.bool o1/\wz=wr)
   case first=>
    cases o
    ·go_wp2
     go_meet
     exact⟨congrArg Value.bool (by simpa using zA0 YU),rfl⟩
    ·go_wp2
     go_meet
     exact⟨congrArg Value.bool (by simpa using zA0 YU),rfl⟩
   case rest=>
    obtain⟨rfl,qV⟩:=hcut
    rename World=>wc
    rw[qV]
    clear qV
    go_wp2
    obtain⟨W1,rfl⟩:∃W1,W1=wr:=⟨_,rfl⟩
    go_loopw[6,7,44] (fun od lo s wr=>∃(i:Nat) (o' l':Bool),s=.int .i64 (i:Int)/\i<=r.length/\od=.bool o'/\lo=.bool l'/\Hid (o'=(o1 || odR zAB r i))/\Hid (l'=(l || (r.take i).any lgV))/\Below W1.heap.size W1 wr) (fun _ _ s _=>r.length-(intOf s).toNat)
    case atStart=>exact⟨0,o1,l,rfl,by omega,rfl,rfl,by show _=_;simp[odR],by show _=_;simp,Below.refl _ _⟩
    case round=>
     obtain⟨i,o',l',rfl,hi,rfl,rfl,HO,HL,hb⟩:=hrel
     by_cases h8:i<r.length
     ·have i8:(i:Int)<(r.length:Int):=by omega
      obtain⟨x,hx⟩:∃x,r[i]?=some x:=⟨_,zAf h8⟩
      obtain⟨rb2,ro2,rfl,d0,d1,d2⟩:=zIJ ((zA0 qd).later hb) hx
      have HX:=zA3 hx
      have HB:=zA3 hb
      have HKC:Hid (∀kd,zAB[i]?=some kd->∃vb vo,ak=some ⟨vb,vo,none⟩/\∀W,Below wr.heap.size wr W->W.cell? ⟨vb,vo+i,none⟩=some (.int .i64 kd)):=fun kd YG=>by
       obtain⟨vb,vo,e,q0⟩:=zDT ((zA0 yq).later ((zA0 QV).trans (hb.mono (zA0 QV).size))) (show (zAB.map (Value.int .i64))[i]?=some (.int .i64 kd) by simp[YG])
       exact⟨vb,vo,e,fun W hW=>cell_later hW q0⟩
      clear hx hb
      have YI:Hid (∀w1,Below (wr.alloc (.cells #[.int .i64 x.k,.int .i64 x.n,.string x.s] 59)).heap.size (wr.alloc (.cells #[.int .i64 x.k,.int .i64 x.n,.string x.s] 59)) w1->(w1.cell? ⟨wr.heap.size,0,none⟩=some (.int .i64 x.k)/\w1.cell? ⟨wr.heap.size,1,none⟩=some (.int .i64 x.n)/\w1.cell? ⟨wr.heap.size,2,none⟩=some (.string x.s))/\w1.frozen? ⟨wr.heap.size,0,none⟩=false/\w1.frozen? ⟨wr.heap.size,1,none⟩=false/\w1.frozen? ⟨wr.heap.size,2,none⟩=false):=fun w1 h1=>
       ⟨⟨cell_later h1 (by simp[go_sem]),cell_later h1 (by simp[go_sem]),cell_later h1 (by simp[go_sem])⟩,(h1.frozen (p:=⟨wr.heap.size,0,none⟩) (by simp)).trans (by simp[go_sem]),(h1.frozen (p:=⟨wr.heap.size,1,none⟩) (by simp)).trans (by simp[go_sem]),(h1.frozen (p:=⟨wr.heap.size,2,none⟩) (by simp)).trans (by simp[go_sem])⟩
      go_upto_region 13 with (first | (go_at_call 31;refine(zD2 x _).mono ?_;rintro _ w1 ⟨rfl,Hb⟩;rw[Val.open_];obtain⟨⟨b0,b1,b2⟩,f0,f1,f2⟩:=zA0 YI w1 Hb))
      refine zHs (fun W=>(W.cell? ⟨wr.heap.size,0,none⟩=some (.int .i64 (zA8 x).k)/\W.cell? ⟨wr.heap.size,2,none⟩=some (.string (zA8 x).s))/\Below wr.heap.size wr W) ⟨⟨by simp[go_sem,b0,b1,b2],by simp[go_sem,b0,b1,b2]⟩,(((zAP Hb).setCell (Nat.le_refl _) _).setCell (Nat.le_refl _) _).setCell (Nat.le_refl _) _⟩ ?_
      clear Hb b0 b1 b2 f0 f1 f2 YI
      rintro W ⟨⟨b0,b2⟩,JW⟩
      obtain⟨y,hy⟩:∃y,zA8 x=y:=⟨_,rfl⟩
      rw[hy] at b0 b2
      have HY:=zA3 hy
      clear hy d0 d1 d2
      obtain⟨l1,YK⟩:∃l1,(l' || decide (1000<(y.s.size:Int)))=l1:=⟨_,rfl⟩
      have Hi:=zA3 YK
      have Qu:Hid (l1=(l || (r.take (i+1)).any lgV)):=by
       show _=_
       rw[<-YK,zGT lgV (zA0 HX),<-Bool.or_assoc,<-zA0 HL,lgV,zA0 HY]
      have QN:Hid ((o' || (decide (i<zAB.length) && (y.k != 0 && y.k != zAB.getD i 0)))=(o1 || odR zAB r (i+1))):=by
       show _=_
       rw[zRa zAB r i (zA0 HX),<-Bool.or_assoc,<-zA0 HO,odV,zA0 HY]
      clear YK HL HO
      go_cut[7] (fun s wz=>s=.bool l1/\wz=W)
      case first=>
       cases l'
       ·go_wp2
        go_meet
        exact⟨congrArg Value.bool (by simpa using zA0 Hi),rfl⟩
       ·go_wp2
        go_meet
        exact⟨congrArg Value.bool (by simpa using zA0 Hi),rfl⟩
      case rest=>
       obtain⟨rfl,qV⟩:=hcut
       rename World=>wc
       rw[qV]
       clear qV Hi
       cases o'
       ·by_cases hn:i<zAB.length
        ·have i9:(i:Int)<(zAB.length:Int):=by omega
         obtain⟨kd,YG⟩:∃kd,zAB[i]?=some kd:=⟨_,zAf hn⟩
         obtain⟨vb,vo,rfl,q0⟩:=zA0 HKC kd YG
         replace q0:=q0 W JW
         have HKD:Hid (zAB.getD i 0=kd):=by show _=_;simp[YG]
         clear YG
         cases hz:(y.k != 0)
         ·go_wp2
          go_region
          go_wp2
          exact⟨⟨i+1,_,l1,by go_num,by omega,rfl,rfl,by show _=_;rw[<-zA0 QN];simp[hz],zA0 Qu,zA2 (zA0 HB) JW.drew⟩,by simp[intOf];omega⟩
         ·go_wp2
          go_region
          go_wp2
          exact⟨⟨i+1,_,l1,by go_num,by omega,rfl,rfl,by show _=_;rw[<-zA0 QN,zA0 HKD];simp[hn,hz],zA0 Qu,zA2 (zA0 HB) JW.drew⟩,by simp[intOf];omega⟩
        ·have i9:¬(i:Int)<(zAB.length:Int):=by omega
         go_wp2
         go_region
         go_wp2
         exact⟨⟨i+1,_,l1,by go_num,by omega,rfl,rfl,by show _=_;rw[<-zA0 QN];simp[hn],zA0 Qu,zA2 (zA0 HB) JW.drew⟩,by simp[intOf];omega⟩
       ·go_wp2
        go_region
        go_wp2
        exact⟨⟨i+1,_,l1,by go_num,by omega,rfl,rfl,by show _=_;rw[<-zA0 QN];simp,zA0 Qu,zA2 (zA0 HB) JW.drew⟩,by simp[intOf];omega⟩
     ·have i8:¬(i:Int)<(r.length:Int):=by omega
      have HM2:Hid (zUV zAB rs (j+1) l' o'):=by
       have hil:i=r.length:=by omega
       refine⟨?_,?_⟩
       ·rw[zGT _ (zA0 HR),<-Bool.or_assoc,<-(zA0 HM).lo,zA0 HL,hil,List.take_length]
       ·rw[zGT _ (zA0 HR),<-(zA0 HM).od,zA0 HO,<-zA0 YU,hil,odA,Bool.or_assoc]
      have QX:=zA3 (zA2 (zA0 QV) hb)
      clear HL HO
      go_wp2
      exact⟨⟨j+1,o',l',by go_num,by omega,rfl,rfl,HM2,zA0 QX⟩,by simp[intOf];omega⟩
  ·have i7:¬(j:Int)<(rs.length:Int):=by omega
   have Jw:j=rs.length:=by omega
   have hl':l=loM rs:=by rw[(zA0 HM).lo,Jw,List.take_length];rfl
   have ho':o=odM zAB rs:=by rw[(zA0 HM).od,Jw,List.take_length];rfl
   have YB:=zA3 hl'
   have KE:=zA3 ho'
   clear HM Jw hl' ho'
   cases l
   ·cases o
    ·obtain⟨hPS,hRL⟩:=zA0 HQ (zA0 YB).symm (zA0 KE).symm
     have Fg:Hid (R=.tuple #[.string (zJJ zAB.length rs.length ps),.int .i64 0]):=by show _=_;rw[<-zA0 QR,<-zA0 YB,<-zA0 KE];rfl
     have Gy:rs.length<=4096:=by
      have:=(zA0 YB).symm
      simp[loM] at this
      omega
     have ym:Hid (∀r∈rs,r.length=zAB.length):=fun r hr=>by
      have:=List.any_eq_false.1 (zA0 KE).symm r hr
      simp[odA] at this
      omega
     have Jm:=zA3 hPS
     have JG:=zA3 hRL
     clear hPS hRL QR HQ YB KE HK2
     go_upto_region 21 with fail
     have hwr4:IntKind.u64.wrap (rs.length:Int)=(rs.length:Int):=by rw[IntKind.wrap_u64,Int.emod_eq_of_lt (by omega) (by omega)]
     have hw8:IntKind.u8.wrap (zAB.length:Int)=(zAB.length:Int):=by rw[IntKind.wrap_u8'];omega
     have hb32:Hid (∀W,Calls Tryz.prog 32 #[.int .u64 (rs.length:Int),.int .i64 4] W fun e w'=>e=.returned (.string (toB (beL (rs.length:Int) 4 4)))/\Below W.heap.size W w'):=fun W=>zBK (rs.length:Int) 4 W (by omega)
     have Qc:Hid (∀w1:World,(w1.alloc (.cells #[.int .u8 (zAB.length:Int)] 5)).cell? ⟨w1.heap.size,0,none⟩=some (.int .u8 (zAB.length:Int))):=fun w1=>by have:=heap_alloc_last w1 (.cells #[.int .u8 (zAB.length:Int)] 5);rw[cell_of_row _ _ 0 _ 5 (0,0) this];rfl
     have Gn:Hid (⟨#[83,49]⟩++toB [(zAB.length:Int)]++toB (beL (rs.length:Int) 4 4)=toB (zBc zAB.length rs.length)):=by
      show _=_
      have e1:beL (zAB.length:Int) 1 1=[(zAB.length:Int)]:=by simp[beL,beN];omega
      rw[zBc,zAJ,zAJ,e1,ByteArray.append_assoc]
      rfl
     have TG:(toB [(zAB.length:Int)]).size=1:=by rw[zAN];rfl
     have hsz4:(toB (beL (rs.length:Int) 4 4)).size=4:=by rw[zAN,zAK]
     go_cut[12] (fun s wz=>s=.string (toB (zBc zAB.length rs.length))/\Below wr.heap.size wr wz)
     case first=>
      have hcv1:(convert 71 9 (.slice (some ⟨wr.heap.size,0,none⟩) 1 1)).run Tryz.prog (wr.alloc (.cells #[.int .u8 (zAB.length:Int)] 5)).drew=.ok (.string (toB [(zAB.length:Int)])) (wr.alloc (.cells #[.int .u8 (zAB.length:Int)] 5)).drew:=zIk (W:=(wr.alloc (.cells #[.int .u8 (zAB.length:Int)] 5)).drew) (zA0 Qc wr)
      have hcv2:Hid (∀w1:World,(convert 71 9 (.slice (some ⟨w1.heap.size,0,none⟩) 1 1)).run Tryz.prog (w1.alloc (.cells #[.int .u8 (zAB.length:Int)] 5))=.ok (.string (toB [(zAB.length:Int)])) (w1.alloc (.cells #[.int .u8 (zAB.length:Int)] 5))):=fun w1=>zIk (zA0 Qc w1)
      have hcv3:Hid (∀w1:World,Below (wr.alloc (.cells #[.int .u8 (zAB.length:Int)] 5)).drew.heap.size (wr.alloc (.cells #[.int .u8 (zAB.length:Int)] 5)).drew w1->(convert 71 9 (.slice (some ⟨wr.heap.size,0,none⟩) 1 1)).run Tryz.prog w1=.ok (.string (toB [(zAB.length:Int)])) w1):=fun w1 h=>zIk (cell_later h (zA0 Qc wr))
      go_region_with (first | (go_at_call 32;refine(zA0 hb32 _).mono ?_;rintro _ w1 ⟨rfl,Hb⟩;have hcv4:=zA0 hcv2 w1;try (have hcv5:=zA0 hcv3 w1 Hb)))
      all_goals (go_wp2;go_meet;exact⟨by rw[<-zA0 Gn],by first|exact zA2 ((zA1 (Below.refl _ wr) _).drew) Hb|exact zA1 (zA2 (Below.refl _ wr).drew Hb) _⟩)
     case rest=>
      obtain⟨rfl,ZQ⟩:=hcut
      rename World=>wc
      have qT:=zA3 (zA2 hb ZQ)
      clear ZQ hb Qc Gn
      have Dx:=zA3 (zIm zAB ak ck rs ar cr wc JU Gy (zA0 ym) ((zA0 yq).later (zA0 qT)) ((zA0 HAR).later (zA0 qT)))
      go_wp2_with (first | (go_at_call 33;refine(zA0 Dx).mono ?_;rintro _ w2 ⟨⟨ca,cc,Cs,rfl,YN,hcx,Qq⟩,Hh⟩))
      have Qz:=zA3 (zA2 (zA0 qT) Hh)
      have HCX:=zA3 hcx
      have HCA:=zA3 Qq
      have YZ:=zA3 YN
      clear hcx Qq YN Hh Dx qT
      go_loopw[12,13,100] (fun s12 s13 s wr=>∃k:Nat,s=.int .i64 (k:Int)/\k<=zAB.length/\s12=.string (toB (zBc zAB.length rs.length++hdL (ps.take k)))/\s13=.string (toB (bdL (ps.take k)))/\Below w2.heap.size w2 wr) (fun _ _ s _=>zAB.length-(intOf s).toNat)
      case atStart=>exact⟨0,rfl,by omega,by simp[hdL],by simp[bdL];rfl,Below.refl _ _⟩
      case round=>
       obtain⟨k,rfl,hk,rfl,rfl,hb⟩:=hrel
       by_cases h9:k<zAB.length
       ·have i9:(k:Int)<(zAB.length:Int):=by omega
        obtain⟨x,hx⟩:∃x,Cs[k]?=some x:=⟨_,zAf (by rw[zA0 YZ];exact h9)⟩
        obtain⟨p,hp⟩:∃p,ps[k]?=some p:=⟨_,zAf (by rw[(zA0 Jm).len];exact h9)⟩
        have hX:=zA0 HCX k x hx
        obtain⟨hz,hK⟩:=(zA0 Jm).at_ k p hp
        have hR:=zA0 JG k h9
        rw[<-hX] at hz hK hR
        obtain⟨L,G,N,yr,hL,hG,Jj⟩:=hR.sp
        have hpz:=(zA0 Jm).z p (List.mem_of_getElem? hp)
        have qY:=(zA0 Jm).s p (List.mem_of_getElem? hp)
        have Yk:=(zA0 HCA).later hb
        obtain⟨cb,co,rfl,ZZ⟩:∃b off,ca=some ⟨b,off,none⟩/\∀i c,Cs[i]?=some c->zKB wr b (off+i*4) c.1 c.2:=by
         rcases Yk.1 with e|h
         ·subst e;simp at hx
         ·exact h
        obtain⟨q0,q1,q2,q3⟩:=ZZ k x hx
        have HV:=zA3 (Yk.2 x (List.mem_of_getElem? hx))
        have H34:Hid (∀W,Below wr.heap.size wr W->Calls Tryz.prog 34 #[.agg #[.int .i64 x.1.k,.slice x.2.a1 x.1.nl.length x.2.c1,.slice x.2.a2 x.1.ns.length x.2.c2,.slice x.2.a3 x.1.ss.length x.2.c3]] W fun e w'=>e=.returned (.tuple #[.string p.2,.int .i64 0])/\Below W.heap.size W w'):=fun W hW=>hR.pk x.2 W p.2 ((zA0 HV).later hW) hK
        have H35:Hid (∀W,Below wr.heap.size wr W->Calls Tryz.prog 35 #[.agg #[.int .i64 x.1.k,.slice x.2.a1 x.1.nl.length x.2.c1,.slice x.2.a2 x.1.ns.length x.2.c2,.slice x.2.a3 x.1.ss.length x.2.c3]] W fun e w'=>e=.returned (.tuple #[L.v,G.v,.int .i64 (N:Int)])/\Below W.heap.size W w'):=fun W hW=>Jj x.2 W ((zA0 HV).later hW)
        have HZZ:Hid (p.1=zJ3 L G N):=by show _=_;rw[hz,yr]
        have HP:=zA3 hp
        have HB:=zA3 hb
        have YI:Hid (∀W,Below (wr.alloc (.cells #[.int .i64 x.1.k,.slice x.2.a1 x.1.nl.length x.2.c1,.slice x.2.a2 x.1.ns.length x.2.c2,.slice x.2.a3 x.1.ss.length x.2.c3] 49)).heap.size (wr.alloc (.cells #[.int .i64 x.1.k,.slice x.2.a1 x.1.nl.length x.2.c1,.slice x.2.a2 x.1.ns.length x.2.c2,.slice x.2.a3 x.1.ss.length x.2.c3] 49)) W->W.cell? ⟨wr.heap.size,0,none⟩=some (.int .i64 x.1.k)/\W.cell? ⟨wr.heap.size,1,none⟩=some (.slice x.2.a1 x.1.nl.length x.2.c1)/\W.cell? ⟨wr.heap.size,2,none⟩=some (.slice x.2.a2 x.1.ns.length x.2.c2)/\W.cell? ⟨wr.heap.size,3,none⟩=some (.slice x.2.a3 x.1.ss.length x.2.c3)):=fun W h=>
         ⟨cell_later h (by simp[go_sem]),cell_later h (by simp[go_sem]),cell_later h (by simp[go_sem]),cell_later h (by simp[go_sem])⟩
        clear hx hp hX hz hK hR yr Jj Yk ZZ hb
        go_upto_region 28 with (first
         | (go_at_call 34;refine(zA0 H34 _ (zA1 (Below.refl _ _) _)).mono ?_;rintro _ w4 ⟨rfl,Qe⟩;obtain⟨e0,e1,e2,e3⟩:=zA0 YI w4 Qe)
         | (go_at_call 35;refine(zA0 H35 w4 (zAP Qe)).mono ?_;rintro _ w5 ⟨rfl,QO⟩;rw[L.open_,G.open_]))
        refine zHs (fun W=>((W.cell? ⟨w5.heap.size,0,none⟩=some (.int .i64 L.k)/\W.cell? ⟨w5.heap.size,1,none⟩=some (.int .i64 L.n)/\W.cell? ⟨w5.heap.size,2,none⟩=some (.string L.s))/\W.cell? ⟨w5.heap.size+1,0,none⟩=some (.int .i64 G.k)/\W.cell? ⟨w5.heap.size+1,1,none⟩=some (.int .i64 G.n)/\W.cell? ⟨w5.heap.size+1,2,none⟩=some (.string G.s))/\Below wr.heap.size wr W) ⟨⟨⟨by simp[go_sem],by simp[go_sem],by simp[go_sem]⟩,by simp[go_sem],by simp[go_sem],by simp[go_sem]⟩,zA1 (zA1 (zA2 (zAP Qe) QO) _) _⟩ ?_
        clear Qe QO e0 e1 e2 e3 q0 q1 q2 q3
        rintro W ⟨⟨⟨c0,c1,c2⟩,c3,c4,c5⟩,JW⟩
        have H36:Hid (∀W:World,Calls Tryz.prog 36 #[.slice (some ⟨W.heap.size,0,none⟩) 3 3] (W.alloc (.cells #[.int .i64 L.k,.int .i64 L.n,.string L.s,.int .i64 G.k,.int .i64 G.n,.string G.s,.int .i64 1,.int .i64 (N:Int),.string ⟨#[]⟩] 59)) fun e w'=>e=.returned (.string (zJ3 L G N))/\Below W.heap.size W w'):=fun W=>by
         refine(zR7 (some ⟨W.heap.size,0,none⟩) 3 [L,G,Val.num (N:Int)] _ (by unfold maxLen;simp) (zHS _ hL hG) (zJB W L G (N:Int))).mono ?_
         rintro e w' ⟨rfl,hw⟩
         exact⟨rfl,zAP hw⟩
        have H37:Hid (∀W:World,Calls Tryz.prog 37 #[.int .i64 (N:Int)] W fun e w'=>e=.returned (.agg #[.int .i64 1,.int .i64 (N:Int),.string ⟨#[]⟩])/\Below W.heap.size W w'):=fun W=>zDn (N:Int) W
        have QV:=zA3 JW
        clear JW
        go_cut[21] (fun s wz=>s=.string (zJ3 L G N)/\Below wr.heap.size wr wz)
        case first=>
         go_region_with (first
          | (go_at_call 37;refine(zA0 H37 _).mono ?_;rintro _ w6 ⟨rfl,GP⟩;have d0:=cell_later GP c0;have d1:=cell_later GP c1;have d2:=cell_later GP c2;have d3:=cell_later GP c3;have d4:=cell_later GP c4;have d5:=cell_later GP c5)
          | (go_at_call 36;refine(zA0 H36 w6).mono ?_;rintro _ w7 ⟨rfl,Qx⟩))
         all_goals (go_wp2;go_meet;exact⟨rfl,zA2 (zA2 (zA0 QV).drew GP) Qx⟩)
        case rest=>
         obtain⟨rfl,Zt⟩:=hcut
         rename World=>w8
         clear c0 c1 c2 c3 c4 c5 H36 H37 QV
         rw[<-zA0 HZZ]
         have hwz:IntKind.u64.wrap (p.1.size:Int)=(p.1.size:Int):=by rw[IntKind.wrap_u64,Int.emod_eq_of_lt (by omega) (by omega)]
         have hws:IntKind.u64.wrap (p.2.size:Int)=(p.2.size:Int):=by rw[IntKind.wrap_u64,Int.emod_eq_of_lt (by omega) (by omega)]
         have H2:Hid (∀W,Calls Tryz.prog 32 #[.int .u64 (p.1.size:Int),.int .i64 2] W fun e w'=>e=.returned (.string (toB (beL (p.1.size:Int) 2 2)))/\Below W.heap.size W w'):=fun W=>zBK _ 2 W (by omega)
         have H4:Hid (∀W,Calls Tryz.prog 32 #[.int .u64 (p.2.size:Int),.int .i64 4] W fun e w'=>e=.returned (.string (toB (beL (p.2.size:Int) 4 4)))/\Below W.heap.size W w'):=fun W=>zBK _ 4 W (by omega)
         have Gx:ps.take (k+1)=ps.take k++[p]:=by
          obtain⟨He,e⟩:=zAL (zA0 HP)
          rw[List.take_succ_eq_append_getElem He,e]
         have JF:Hid (toB (zBc zAB.length rs.length++hdL (ps.take k))++(toB (beL (p.1.size:Int) 2 2)++p.1++toB (beL (p.2.size:Int) 4 4))=toB (zBc zAB.length rs.length++hdL (ps.take (k+1)))):=by
          show _=_
          rw[Gx,zLs,hd1,<-List.append_assoc,zAJ (zBc zAB.length rs.length++hdL (ps.take k)),zAJ,zAJ,zAJ (txt p.1),zKR,ByteArray.append_assoc (a:=toB (beL (p.1.size:Int) 2 2))]
         have Tu:Hid (toB (bdL (ps.take k))++p.2=toB (bdL (ps.take (k+1)))):=by
          show _=_
          rw[Gx,zMB,zAJ,zKR]
         have HLA:Hid ((zBc zAB.length rs.length++hdL (ps.take k)).length<=400000):=by
          show _<=_
          have h1:=zL2 (ps:=ps.take k) (fun q hq=>(zA0 Jm).z q (List.mem_of_mem_take hq))
          have h2:(ps.take k).length<=32:=by simp;omega
          have h3:(zBc zAB.length rs.length).length=7:=by simp[zBc,zAK]
          rw[zAX]
          omega
         have HLB:Hid ((bdL (ps.take k)).length<=3200000000):=by
          show _<=_
          have h1:=zLA (ps:=ps.take k) (fun q hq=>(zA0 Jm).s q (List.mem_of_mem_take hq))
          have h2:(ps.take k).length<=32:=by simp;omega
          omega
         clear Gx
         go_wp2_with (first
          | (go_at_call_of 32 (Value.int IntKind.i64 2);refine(zA0 H2 _).mono ?_;rintro _ w9 ⟨rfl,Ho⟩)
          | (go_at_call_of 32 (Value.int IntKind.i64 4);refine(zA0 H4 _).mono ?_;rintro _ w10 ⟨rfl,GY⟩))
         all_goals first
          | (exfalso;rename_i hh;simp only[ByteArray.size_append,zAN,zAK] at hh;have:=zA0 HLA;have:=zA0 HLB;omega)
          | skip
         exact⟨⟨k+1,by go_num,by omega,congrArg Value.string (zA0 JF),congrArg Value.string (zA0 Tu),zA2 (zA2 (zA2 (zA2 (zA0 HB) Zt) Ho) GY) (Below.refl _ _)⟩,by simp[intOf];omega⟩
       ·have i9:¬(k:Int)<(zAB.length:Int):=by omega
        have Zj:k=zAB.length:=by omega
        have Gx:ps.take k=ps:=by rw[Zj,<-(zA0 Jm).len,List.take_length]
        rw[Gx]
        obtain⟨body,Zl⟩:∃body,toB ((zBc zAB.length rs.length++hdL ps)++bdL ps)=body:=⟨_,rfl⟩
        have hcat:toB (zBc zAB.length rs.length++hdL ps)++toB (bdL ps)=body:=by rw[<-Zl,zAJ (zBc zAB.length rs.length++hdL ps)]
        have hLA:(toB (zBc zAB.length rs.length++hdL ps)).size<=400000:=by
         have h1:=zL2 (zA0 Jm).z
         have h2:=(zA0 Jm).len
         have h3:(zBc zAB.length rs.length).length=7:=by simp[zBc,zAK]
         rw[zAN,zAX]
         omega
        have hLB:(toB (bdL ps)).size<=3200000000:=by
         have h1:=zLA (zA0 Jm).s
         have h2:=(zA0 Jm).len
         rw[zAN]
         omega
        have hbs:body.size<=4000000000:=by rw[<-hcat,ByteArray.size_append];omega
        have H38:=zA3 (fun W=>zTZ body (by omega) W)
        have H32:Hid (∀W,Calls Tryz.prog 32 #[.int .u64 (zIF body:Nat),.int .i64 4] W fun e w'=>e=.returned (.string (toB (beL (zIF body:Nat) 4 4)))/\Below W.heap.size W w'):=fun W=>zBK _ 4 W (by omega)
        have Kw:Hid (R=.tuple #[.string (body++toB (beL (zIF body:Nat) 4 4)),.int .i64 0]):=by show _=_;rw[zA0 Fg,zJJ,Zl];rfl
        have TK:¬9223372036854775807<(toB (zBc zAB.length rs.length++hdL ps)).size+(toB (bdL ps)).size:=by omega
        have TJ:¬9223372036854775807<body.size+(toB (beL (zIF body:Nat) 4 4)).size:=by rw[zAN,zAK];omega
        have HBF:=zA3 (zA2 (zA0 Qz) hb)
        clear Zl Gx Zj hLA hLB Fg hb
        go_wp2_with (first
         | (go_at_call 38;refine(zA0 H38 _).mono ?_;rintro _ w3 ⟨rfl,JR⟩;rw[JR];clear JR)
         | (go_at_call 32;refine(zA0 H32 _).mono ?_;rintro _ w4 ⟨rfl,Qe⟩))
        exact bodyPost_ret (v:=.tuple #[.string (body++toB (beL (zIF body:Nat) 4 4)),.int .i64 0]) (by simp[results,Tryz.results6,go_sem]) rfl ⟨by rw[zA0 Kw],zA2 (zA0 HBF) Qe⟩
    ·have Fg:Hid (R=.tuple #[.string ⟨#[]⟩,.int .i64 4]):=by show _=_;rw[<-zA0 QR,<-zA0 YB,<-zA0 KE];rfl
     clear QR HQ YB KE
     go_wp2
     exact bodyPost_ret (v:=.tuple #[.string ⟨#[]⟩,.int .i64 4]) (by simp[results,Tryz.results6,go_sem]) rfl ⟨by rw[zA0 Fg],hb⟩
   ·have Fg:Hid (R=.tuple #[.string ⟨#[]⟩,.int .i64 3]):=by show _=_;rw[<-zA0 QR,<-zA0 YB];rfl
    clear QR HQ YB KE
    go_wp2
    exact bodyPost_ret (v:=.tuple #[.string ⟨#[]⟩,.int .i64 3]) (by simp[results,Tryz.results6,go_sem]) rfl ⟨by rw[zA0 Fg],hb⟩
end Go.Proofs.YtekgpapophibcaaGreat
