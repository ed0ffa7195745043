import Derived.Test.YtekgpapophibcaaGreatSrP
set_option linter.unusedSimpArgs false
set_option linter.unusedVariables false
set_option maxHeartbeats 8000000
set_option maxRecDepth 100000
namespace Go.Proofs.YtekgpapophibcaaGreat
open Go.RowKit Go.Sort
def zLD(n0:Nat)(c:Vc×Sl):Bool:=!zAg c.1 || ((c.1.nl.length:Int) != (n0:Int))
def len0(Cs:List (Vc×Sl)):Nat:=match Cs with | []=>0|c::_=>c.1.nl.length
def zDJ(Cs:List (Vc×Sl))(i:Nat):List Val:=Cs.map (fun c=>atV c.1 i)
def zAn(Cs:List (Vc×Sl)):List (List Val):=(List.range (len0 Cs)).map (zDJ Cs)
def zLU(Cs:List (Vc×Sl)):List (List Val)×Int:=if Cs.any (zLD (len0 Cs)) then ([],1) else (zAn Cs,0)
theorem zOf(Cs:List (Vc×Sl)){i:Nat}(h:i<len0 Cs):(zAn Cs)[i]?=some (zDJ Cs i):=by simp[zAn,h]
theorem zIK{Cs:List (Vc×Sl)}{k i:Nat}{c:Vc×Sl}(h:Cs[k]?=some c):(zDJ Cs i)[k]?=some (atV c.1 i):=by simp[zDJ,h]
theorem zEC(Cs:List (Vc×Sl))(i:Nat):(zDJ Cs i).length=Cs.length:=by simp[zDJ]
theorem zIZ{Cs:List (Vc×Sl)}{c:Vc×Sl}(h:Cs[0]?=some c):len0 Cs=c.1.nl.length:=by
 cases Cs with
 | nil=>cases h
 | cons d l=>simp at h;subst h;rfl
theorem Tryz.info37:(Tryz.prog.info? 37).map (fun i=>(i.zero,i.size,i.bytes))=some (some (.slice none 0 0),1,24):=by kernel_rfl
def zLJ(w:World)(v:Value)(rs:List (List Val)):Prop:=∃ra rc,v=.slice ra rs.length rc/\zCY w ra rs
def zET(w0 w:World)(R n0 m i:Nat)(rows:List (List Val))(lim:Nat)(F:Nat->Value):Prop:=
 Below w0.heap.size w0 w/\w0.heap.size<=R/\w.rowIs R 37 n0 F/\∀j r,j<i->rows[j]?=some r->∃g,F j=.slice (some ⟨g,0,none⟩) m m/\R<g/\g<lim/\∃G,w.rowIs g 59 (m*3) G/\zCu G m r
theorem zET.later{w0 w w':World}{R n0 m i lim:Nat}{rows:List (List Val)}{F:Nat->Value}(h:zET w0 w R n0 m i rows lim F)(hb:Below w.heap.size w w'):zET w0 w' R n0 m i rows lim F:=by
 obtain⟨h1,h2,h3,h4⟩:=h
 refine⟨zA2 h1 hb,h2,zA5 h3 hb,fun j r hj hr=>?_⟩
 obtain⟨g,e,hg,hl,G,hG,Gd⟩:=h4 j r hj hr
 exact⟨g,e,hg,hl,G,zA5 hG hb,Gd⟩
def zGF(w0 w:World)(R n0 m i k:Nat)(rows:List (List Val))(row:List Val)(g:Nat)(F:Nat->Value):Prop:=
 zET w0 w R n0 m i rows g F/\F i=.slice (some ⟨g,0,none⟩) m m/\R<g/\∃G,w.rowIs g 59 (m*3) G/\zCu G k row
theorem zGF.later{w0 w w':World}{R n0 m i k:Nat}{rows:List (List Val)}{row:List Val}{g:Nat}{F:Nat->Value}(h:zGF w0 w R n0 m i k rows row g F)(hb:Below w.heap.size w w'):zGF w0 w' R n0 m i k rows row g F:=by
 obtain⟨h1,h2,h3,G,h4,h5⟩:=h
 exact⟨h1.later hb,h2,h3,G,zA5 h4 hb,h5⟩
theorem zGF.start{w0 w:World}{R n0 m i lim:Nat}{rows:List (List Val)}{row:List Val}{F:Nat->Value}(h:zET w0 w R n0 m i rows lim F)(FC:lim<=w.heap.size)(c:Array Value) :
  zGF w0 ((w.setCell ⟨R,i,none⟩ (.slice (some ⟨w.heap.size,0,none⟩) m m)).alloc (.cells (madeCells c (m*3)) 59)) R n0 m i 0 rows row w.heap.size (fun j=>if j=i then .slice (some ⟨w.heap.size,0,none⟩) m m else F j):=by
 obtain⟨h1,h2,h3,h4⟩:=h
 have hR:=h3.lt
 refine⟨⟨(h1.setCell h2 _).alloc (by simp;omega) _,h2,(h3.set i _).alloc _,fun j r hj hr=>?_⟩,by simp,hR,?_⟩
 ·obtain⟨g,e,hg,hl,G,hG,Gd⟩:=h4 j r hj hr
  exact⟨g,by show (if j=i then _ else F j)=_;rw[if_neg (by omega)];exact e,hg,by omega,G,(hG.setOther (by simp;omega) _).alloc _,Gd⟩
 ·obtain⟨G,hG⟩:=zFF (w.setCell ⟨R,i,none⟩ (.slice (some ⟨w.heap.size,0,none⟩) m m)) (madeCells c (m*3)) 59
  rw[size_madeCells] at hG
  refine⟨G,?_,zCu.zero _ _⟩
  simpa using hG
theorem zGF.step{w0 w:World}{R n0 m i k:Nat}{rows:List (List Val)}{row:List Val}{g:Nat}{F:Nat->Value}{y:Val}(h:zGF w0 w R n0 m i k rows row g F)(hy:row[k]?=some y) :
  zGF w0 (((w.setCell ⟨g,k*3,none⟩ (.int .i64 y.k)).setCell ⟨g,k*3+1,none⟩ (.int .i64 y.n)).setCell ⟨g,k*3+2,none⟩ (.string y.s)) R n0 m i (k+1) rows row g F:=by
 obtain⟨⟨h1,h2,h3,h4⟩,e,hg,G,hG,Gd⟩:=h
 have hw:w0.heap.size<=g:=by omega
 refine⟨⟨((h1.setCell hw _).setCell hw _).setCell hw _,h2,?_,fun j r hj hr=>?_⟩,e,hg,_,((hG.set _ _).set _ _).set _ _,Gd.step hy⟩
 ·exact((h3.setOther (by simp;omega) _).setOther (by simp;omega) _).setOther (by simp;omega) _
 ·obtain⟨g',e',hg',hl,G',k1,k2⟩:=h4 j r hj hr
  exact⟨g',e',hg',hl,G',((k1.setOther (by simp;omega) _).setOther (by simp;omega) _).setOther (by simp;omega) _,k2⟩
theorem zGF.finish{w0 w:World}{R n0 m i:Nat}{rows:List (List Val)}{row:List Val}{g:Nat}{F:Nat->Value}(h:zGF w0 w R n0 m i m rows row g F)(hr:rows[i]?=some row):zET w0 w R n0 m (i+1) rows w.heap.size F:=by
 obtain⟨⟨h1,h2,h3,h4⟩,e,hg,G,hG,Gd⟩:=h
 have He:=hG.lt
 refine⟨h1,h2,h3,fun j r hj hr'=>?_⟩
 by_cases ej:j=i
 ·subst ej
  rw[hr] at hr'
  cases hr'
  exact⟨g,e,hg,He,G,hG,Gd⟩
 ·obtain⟨g',e',hg',hl,G',k1,k2⟩:=h4 j r (by omega) hr'
  exact⟨g',e',hg',by omega,G',k1,k2⟩
theorem zET.rows{w0 w:World}{R n0 m lim:Nat}{rows:List (List Val)}{F:Nat->Value}(h:zET w0 w R n0 m n0 rows lim F)(hl:rows.length=n0)(hm:∀r∈rows,r.length=m):zLJ w (.slice (some ⟨R,0,none⟩) n0 n0) rows:=by
 obtain⟨h1,h2,h3,h4⟩:=h
 refine⟨some ⟨R,0,none⟩,n0,by rw[hl],.inr ⟨R,0,rfl,fun i r hr=>?_⟩⟩
 have hi:i<n0:=by have:=(zAL hr).1;omega
 obtain⟨g,e,_,_,G,hG,Gd⟩:=h4 i r hi hr
 have JS:=hm r (List.mem_of_getElem? hr)
 refine⟨some ⟨g,0,none⟩,m,?_,zEZ hG JS Gd⟩
 rw[Nat.zero_add,h3.cell hi,e,JS]
theorem uS{w':World}{R n0 i bx:Nat}{F:Nat->Value}{v:Value}{X:Vc}{p:Sl}(h1:w'.rowIs R 37 n0 F)(hi:i<n0)(hF:F i=v)
  (h2:w'.rowIs bx 49 4 (zGA (.int .i64 X.k) (.slice p.a1 X.nl.length p.c1) (.slice p.a2 X.ns.length p.c2) (.slice p.a3 X.ss.length p.c3))) :
  w'.cell? ⟨R,i,none⟩=some v/\w'.cell? ⟨bx,0,none⟩=some (.int .i64 X.k)/\w'.cell? ⟨bx,1,none⟩=some (.slice p.a1 X.nl.length p.c1)/\w'.cell? ⟨bx,2,none⟩=some (.slice p.a2 X.ns.length p.c2)/\w'.cell? ⟨bx,3,none⟩=some (.slice p.a3 X.ss.length p.c3):=by
 obtain⟨t0,t1,t2,t3,_⟩:=zAk h2
 exact⟨by rw[h1.cell hi,hF],t0,t1,t2,t3⟩
theorem zOA(a:Option Addr)(c:Nat)(Cs:List (Vc×Sl))(w:World)(hl:Cs.length<=1048576)(hs:∀c∈Cs,small c.1)(ha:zBq w a Cs) :
  Calls Tryz.prog 47 #[.slice a Cs.length c] w fun e w'=>∃v,e=.returned (.tuple #[v,.int .i64 (zLU Cs).2])/\zLJ w' v (zLU Cs).1/\Below w.heap.size w w':=by
 obtain⟨i40,TQ,z40,z41,z42⟩:=info_parts Tryz.info59
 obtain⟨i22,FJ,y40,y41,y42⟩:=info_parts Tryz.info37
 have HG:Hid (∀c∈Cs,∀w',Below w.heap.size w w'->Calls Tryz.prog 73 #[zCC c.1 c.2] w' fun e w''=>e=.returned (.bool (zAg c.1))/\Below w'.heap.size w' w''):=fun c hc w' hb=>zFN c.1 c.2 w' (hs c hc) ((ha.2 c hc).later hb)
 have HT:Hid (∀c∈Cs,zAg c.1=true->∀w',Below w.heap.size w w'->∀i,i<c.1.nl.length->Calls Tryz.prog 74 #[zCC c.1 c.2,.int .i64 i] w' fun e w''=>e=.returned (atV c.1 i).v/\Below w'.heap.size w' w''):=fun c hc hg w' hb i hi=>zSg c.1 c.2 w' (hs c hc) hg ((ha.2 c hc).later hb) i hi
 have HA:=zA3 ha
 have HS:=zA3 hs
 generalize hR:zLU Cs=R
 have HR:=zA3 hR
 clear ha hs hR
 go_enter Tryz.func47,Tryz.ntmps47
 go_wp2_with fail
 go_loopw[12] (fun i wr=>∃k:Nat,k<=Cs.length/\i=.int .i64 k/\Hid (∀i y,i<k->Cs[i]?=some y->zLD (len0 Cs) y=false)/\Below w.heap.size w wr) (fun i _=>Cs.length-(intOf i).toNat)
 case atStart=>exact⟨0,Nat.zero_le _,rfl,fun i y h=>by omega,Below.refl _ _⟩
 case round=>
  obtain⟨k,hk,rfl,HN,hb⟩:=hrel
  by_cases h1:k<Cs.length
  ·obtain⟨cc,Yk⟩:∃cc,Cs[k]?=some cc:=⟨_,zAf h1⟩
   obtain⟨d0,Zp⟩:∃d0,Cs[0]?=some d0:=⟨_,zAf (by omega)⟩
   rcases((zA0 HA).later hb).1 with e|⟨ba,oa,rfl,Qq⟩
   ·rw[e] at Yk;cases Yk
   obtain⟨e0,e1,e2,e3⟩:=Qq k cc Yk
   obtain⟨_,n1,_,_⟩:=Qq 0 d0 Zp
   simp only[Nat.zero_mul,Nat.add_zero] at n1
   have KQ:=zA3 (zA0 HG cc (List.mem_of_getElem? Yk))
   have JF:=zA3 Yk
   obtain⟨sm1,_,_⟩:=zA0 HS cc (List.mem_of_getElem? Yk)
   obtain⟨sm2,_,_⟩:=zA0 HS d0 (List.mem_of_getElem? Zp)
   have JK:=zA3 (zIZ Zp)
   have ZW:=World.block_lt_of_cell? _ _ n1
   simp only at ZW
   have i1:(k:Int)<(Cs.length:Int):=by omega
   have i0:(0:Int)<(Cs.length:Int):=by omega
   obtain⟨X,p⟩:=cc
   obtain⟨X0,p0⟩:=d0
   simp only at e0 e1 e2 e3 n1 KQ sm1 sm2 JK
   clear Qq Yk Zp
   go_upto_region 4 with fail
   obtain⟨W1,ZF⟩:∃W1,W1=wr.alloc (.cells #[.int .i64 X.k,.slice p.a1 X.nl.length p.c1,.slice p.a2 X.ns.length p.c2,.slice p.a3 X.ss.length p.c3] 49):=⟨_,rfl⟩
   have GH:Below w.heap.size w W1:=by rw[ZF];exact zA1 hb _
   have GR:W1.rowIs wr.heap.size 49 4 (zGA (.int .i64 X.k) (.slice p.a1 X.nl.length p.c1) (.slice p.a2 X.ns.length p.c2) (.slice p.a3 X.ss.length p.c3)):=by rw[ZF];exact zD6 _ _ _ _ _
   have n1':W1.cell? ⟨ba,oa+1,none⟩=some (.slice p0.a1 X0.nl.length p0.c1):=by rw[ZF];exact cell_later (zA1 (Below.refl _ wr) _) n1
   rw[<-ZF]
   have Qa:=zA3 GH
   have HC:Hid (∀d os,Calls Tryz.prog 73 #[zCC X p] (grow (redrawn W1 d) os) fun e w'=>e=.returned (.bool (zAg X))/\Below (grow (redrawn W1 d) os).heap.size (grow (redrawn W1 d) os) w'):=fun d os=>zA0 KQ _ (zA2 GH (below_regrown _ _ _))
   have qT:Hid (∀bb,bb=(!zAg X || ((X.nl.length:Int) != (X0.nl.length:Int)))->bb=zLD (len0 Cs) (X,p)):=fun bb h=>by rw[h,zA0 JK];rfl
   generalize zAg X=G at HC qT
   clear ZF e0 e1 e2 e3 n1 hb GH KQ
   go_cut[29] (fun s29 wx=>(∃bb,s29=.bool bb/\Hid (bb=zLD (len0 Cs) (X,p)))/\Below W1.heap.size W1 wx)
   case first=>
    obtain⟨t0,t1,t2,t3,_⟩:=zAk GR
    have k0:=cell_regrown t0
    have k1:=cell_regrown t1
    have k2:=cell_regrown t2
    have k3:=cell_regrown t3
    have k4:=cell_regrown n1'
    clear GR
    cases G
    ·refine wp_region_quiet_below (by kernel_rfl) (by kernel_rfl) ?_
     repeat (go_big_quiet_step ((go_at_call 73;exact Calls.regrown_of (zA0 HC _ _))))
     refine wpQuiet_nil ?_
     intro w' Hp
     have hB:Below W1.heap.size W1 w':=by obtain⟨p,rfl⟩:=Hp;exact below_regrown _ _ _
     clear Hp
     go_wp2
     go_meet
     exact⟨⟨_,rfl,zA0 qT _ rfl⟩,hB⟩
    ·refine wp_region_quiet_below (by kernel_rfl) (by kernel_rfl) ?_
     repeat (go_big_quiet_step ((go_at_call 73;exact Calls.regrown_of (zA0 HC _ _))))
     refine wpQuiet_nil ?_
     intro w' Hp
     have hB:Below W1.heap.size W1 w':=by obtain⟨p,rfl⟩:=Hp;exact below_regrown _ _ _
     clear Hp
     go_wp2
     go_meet
     exact⟨⟨_,rfl,zA0 qT _ rfl⟩,hB⟩
   case rest=>
    obtain⟨⟨bb,rfl,QX⟩,Hs⟩:=hcut
    rename World=>wx
    have hBx:=zA2 (zA0 Qa) Hs
    cases bb
    ·have HP:=zA3 (zGg (zA0 HN) (zA0 JF) (zA0 QX).symm)
     go_wp2
     go_roundw
     case rel=>exact⟨k+1,by omega,by go_num,HP,hBx⟩
     case measure=>simp[intOf];omega
    ·have HE:Hid (R=([],1)):=by
      show _=_
      rw[<-zA0 HR,zLU,if_pos (zRl (zA0 JF) (zA0 QX).symm)]
     go_wp2
     go_ret2
     exact⟨_,by rw[zA0 HE];rfl,by rw[zA0 HE];exact⟨none,0,rfl,.inl rfl⟩,hBx⟩
  ·have e:k=Cs.length:=by omega
   have i1:¬(k:Int)<(Cs.length:Int):=by omega
   have HP:Hid (Cs.any (zLD (len0 Cs))=false):=zKx (by rw[<-e];exact zA0 HN)
   have HE:Hid (R=(zAn Cs,0)):=by show _=_;rw[<-zA0 HR,zLU,if_neg (by rw[zA0 HP];simp)]
   clear e
   by_cases h0:Cs.length=0
   ·have i0:((Cs.length:Int) == 0)=true:=by simp[h0]
    have e0:Cs=[]:=List.eq_nil_of_length_eq_zero h0
    have yZ:Hid (R=([],0)):=by show _=_;rw[zA0 HE,e0];rfl
    clear e0 h0
    go_wp2
    go_ret2
    exact⟨_,by rw[zA0 yZ];rfl,by rw[zA0 yZ];exact⟨none,0,rfl,.inl rfl⟩,hb⟩
   ·obtain⟨d0,Zp⟩:∃d0,Cs[0]?=some d0:=⟨_,zAf (by omega)⟩
    rcases((zA0 HA).later hb).1 with e|⟨ba,oa,rfl,Qq⟩
    ·rw[e] at Zp;cases Zp
    obtain⟨_,n1,_,_⟩:=Qq 0 d0 Zp
    simp only[Nat.zero_mul,Nat.add_zero] at n1
    rw[<-zIZ Zp] at n1
    have hN0:len0 Cs<=1048576:=by rw[zIZ Zp];exact(zA0 HS d0 (List.mem_of_getElem? Zp)).1
    obtain⟨N0,Kc⟩:∃N0,N0=len0 Cs:=⟨_,rfl⟩
    have HN0:=zA3 Kc
    rw[<-Kc] at n1 hN0
    have i0:((Cs.length:Int) == 0)=false:=by simp;intro e;exact h0 (by rw[e];rfl)
    have i2:(0:Int)<(Cs.length:Int):=by omega
    clear Qq Kc Zp HN
    go_wp2_with (first
     | (at_make;refine wpList_make_row _ rfl (.tmp 38) (.tmp 38) 23 rfl 37 i22 (.slice none 0 0) Tryz.underlying23 FJ y40 y41 rfl .i64 .i64 N0 rfl rfl (by rw[y42];omega) (by omega) ?_)
     | fail)
    obtain⟨R0,rfl⟩:∃R0,R0=wr:=⟨_,rfl⟩
    have JA:zET w (R0.alloc (.cells (madeCells #[.slice none 0 0] N0) 37)) R0.heap.size N0 Cs.length 0 (zAn Cs) (R0.heap.size+1) (fun _=>.slice none 0 0):=⟨zA1 hb _,hb.size,World.rowIs_made _ _ _ _,fun j r hj=>by omega⟩
    have HT0:=zA3 JA
    have HAA:Hid (zBq R0 (some ⟨ba,oa,none⟩) Cs):=(zA0 HA).later hb
    clear JA n1 h1 hk i1
    go_loopw[42] (fun i wr=>∃(k:Nat) (lim:Nat) (F:Nat->Value),k<=N0/\i=.int .i64 k/\zET w wr R0.heap.size N0 Cs.length k (zAn Cs) lim F/\lim<=wr.heap.size) (fun i _=>N0-(intOf i).toNat)
    case atStart=>exact⟨0,_,_,Nat.zero_le _,rfl,zA0 HT0,by simp⟩
    case round=>
     obtain⟨i,lim,F,hi,rfl,hI,FC⟩:=hrel
     have HI:=zA3 hI
     by_cases h1:i<N0
     ·have i1:(i:Int)<(N0:Int):=by omega
      obtain⟨Hb,Tr,Yp,_⟩:=hI
      have g0:=Yp.cell h1
      have f0:=Yp.frozen i
      have hzR:=Yp.lt
      clear Hb Tr Yp
      go_wp2_with (first
       | (at_make;refine zB5 _ rfl (.tmp 48) (.tmp 48) 37 rfl 59 i40 _ Tryz.underlying37 TQ z40 3 z41 .i64 .i64 Cs.length rfl rfl (by rw[z42];omega) (by omega) ?_)
       | fail)
      have HIN:=zA3 (zGF.start (row:=zDJ Cs i) (zA0 HI) FC #[.int .i64 0,.int .i64 0,.string ⟨#[]⟩])
      obtain⟨W2,rfl⟩:∃W2,W2=wr:=⟨_,rfl⟩
      have Yz:=zA3 FC
      have QV:=zA3 (zA0 HI).1
      obtain⟨F',QP⟩:∃F',F'=(fun j=>if j=i then Value.slice (some ⟨W2.heap.size,0,none⟩) Cs.length Cs.length else F j):=⟨_,rfl⟩
      rw[<-QP] at HIN
      clear g0 f0 QP HI
      go_loopw[53] (fun q wr=>∃k:Nat,k<=Cs.length/\q=.int .i64 k/\zGF w wr R0.heap.size N0 Cs.length i k (zAn Cs) (zDJ Cs i) W2.heap.size F') (fun q _=>Cs.length-(intOf q).toNat)
      case atStart=>exact⟨0,Nat.zero_le _,rfl,zA0 HIN⟩
      case round=>
       obtain⟨k,hk,rfl,hJ⟩:=hrel
       have HJ:=zA3 hJ
       by_cases h2:k<Cs.length
       ·obtain⟨cc,Yk⟩:∃cc,Cs[k]?=some cc:=⟨_,zAf h2⟩
        have Kh:=hJ.1.1
        rcases((zA0 HA).later Kh).1 with e|⟨ba',oa',e,Qq⟩
        ·rw[e] at Yk;cases Yk
        cases e
        obtain⟨e0,e1,e2,e3⟩:=Qq k cc Yk
        have Gm:zLD (len0 Cs) cc=false:=by
         cases hq:zLD (len0 Cs) cc
         ·rfl
         ·have:=zRl Yk hq;rw[zA0 HP] at this;cases this
        have FM:zAg cc.1=true/\i<cc.1.nl.length:=by
         simp[zLD] at Gm
         have:=zA0 HN0
         exact⟨Gm.1,by omega⟩
        have HAT:=zA3 (fun w' hb=>zA0 HT cc (List.mem_of_getElem? Yk) FM.1 w' hb i FM.2)
        have HY:=zA3 (zIK (i:=i) Yk)
        have i2:(k:Int)<(Cs.length:Int):=by omega
        obtain⟨X,p⟩:=cc
        simp only at e0 e1 e2 e3 HAT HY
        generalize atV X i=y at HAT HY
        have YY:=zA3 hJ.1.2.2.1
        have HFI:=zA3 hJ.2.1
        obtain⟨G,hG,_⟩:=hJ.2.2.2
        have HGG:=zA3 hG
        have hRz:R0.heap.size<wr.heap.size:=(zA0 YY).lt
        have hgz:W2.heap.size<wr.heap.size:=hG.lt
        have Jg:=zA3 Kh
        clear Qq Yk Gm FM hJ hG Kh
        go_upto_region 17 with fail
        have GR:=zD6 wr (.int .i64 X.k) (.slice p.a1 X.nl.length p.c1) (.slice p.a2 X.ns.length p.c2) (.slice p.a3 X.ss.length p.c3)
        have Tr:=(zA0 YY).alloc (.cells #[.int .i64 X.k,.slice p.a1 X.nl.length p.c1,.slice p.a2 X.ns.length p.c2,.slice p.a3 X.ss.length p.c3] 49)
        have hG1:=(zA0 HGG).alloc (.cells #[.int .i64 X.k,.slice p.a1 X.nl.length p.c1,.slice p.a2 X.ns.length p.c2,.slice p.a3 X.ss.length p.c3] 49)
        have hJ1:=(zA0 HJ).later (zA1 (Below.refl _ wr) (.cells #[.int .i64 X.k,.slice p.a1 X.nl.length p.c1,.slice p.a2 X.ns.length p.c2,.slice p.a3 X.ss.length p.c3] 49))
        have GH:=zA1 (zA0 Jg) (.cells #[.int .i64 X.k,.slice p.a1 X.nl.length p.c1,.slice p.a2 X.ns.length p.c2,.slice p.a3 X.ss.length p.c3] 49)
        have S1:=uS Tr.drew h1 (zA0 HFI) GR.drew
        clear e0 e1 e2 e3
        go_region_held3 (fun w'=>w'.cell? ⟨R0.heap.size,i,none⟩=some (.slice (some ⟨W2.heap.size,0,none⟩) Cs.length Cs.length)/\w'.cell? ⟨wr.heap.size,0,none⟩=some (.int .i64 X.k)/\w'.cell? ⟨wr.heap.size,1,none⟩=some (.slice p.a1 X.nl.length p.c1)/\w'.cell? ⟨wr.heap.size,2,none⟩=some (.slice p.a2 X.ns.length p.c2)/\w'.cell? ⟨wr.heap.size,3,none⟩=some (.slice p.a3 X.ss.length p.c3))
         (first|assumption|exact uS (((hR2.setOther (by simp;omega) _).setOther (by simp;omega) _).setOther (by simp;omega) _) h1 (zA0 HFI) (((Ji.setOther (by simp;omega) _).setOther (by simp;omega) _).setOther (by simp;omega) _))
         (first
          | (go_at_call 74;refine(zA0 HAT _ GH.drew).mono ?_;rintro e w2 ⟨rfl,Hh⟩;rw[Val.open_];have Ji:=zA5 GR.drew Hh;have hR2:=zA5 Tr.drew Hh;have hJ2:=(hJ1.later (Below.refl _ _).drew).later Hh;have S2:=uS hR2 h1 (zA0 HFI) Ji;obtain⟨p0,p1,p2,q0,q1,q2⟩:=zQl (k:=k) (zA5 hG1.drew Hh) (by omega)))
        clear S1 S2
        go_wp2
        go_roundw
        case rel=>exact⟨k+1,by omega,by go_num,hJ2.step (zA0 HY)⟩
        case measure=>simp[intOf];omega
       ·have i2:¬(k:Int)<(Cs.length:Int):=by omega
        have JM:Hid (zET w wr R0.heap.size N0 Cs.length (i+1) (zAn Cs) wr.heap.size F'):=by
         have e:k=Cs.length:=by omega
         rw[e] at hJ
         exact hJ.finish (zOf Cs (by rw[<-zA0 HN0];exact h1))
        clear hJ
        go_wp2
        go_roundw
        case rel=>exact⟨i+1,_,F',by omega,by go_num,zA0 JM,Nat.le_refl _⟩
        case measure=>simp[intOf];omega
     ·have i1:¬(i:Int)<(N0:Int):=by omega
      have HF:Hid (zLJ wr (.slice (some ⟨R0.heap.size,0,none⟩) N0 N0) (zAn Cs)):=by
       have e:i=N0:=by omega
       rw[e] at hI
       exact hI.rows (by rw[zA0 HN0];simp[zAn]) (fun r hr=>by obtain⟨j,_,rfl⟩:=List.mem_map.1 hr;exact zEC _ _)
      have QX:=zA3 hI.1
      clear hI
      go_wp2
      go_ret2
      exact⟨_,by rw[zA0 HE];rfl,by rw[zA0 HE];exact zA0 HF,zA0 QX⟩
set_option maxHeartbeats 16000000
def zEU(u v:Value):Prop:=u.ownBlock=none∨u.ownBlock≠v.ownBlock
theorem zEU.symm{u v:Value}(h:zEU u v):zEU v u:=by
 unfold zEU at *
 cases hv:v.ownBlock with
 | none=>exact .inl rfl
 | some g => right; intro e; rcases h with h | h
             · rw [h] at e; cases e
             · exact h (by rw [hv, e])
theorem zE1{w:World}{base e size base' e' size':Nat}{v v':Value}{m m':Nat}{xs xs':List Value}(h:w.ownsRow base e size v m xs)(h':w.ownsRow base' e' size' v' m' xs')(Hg:e≠e'):zEU v v':=zCL h h' Hg
def zCk(w:World)(base:Nat)(v:Value)(rs:List (List Val))(cs:List Value):Prop:=
 w.ownsRow base 37 1 v rs.length cs/\(∀(j:Nat) r,rs[j]?=some r->∃u,cs[j]?=some u/\zAV w base u r)/\(∀(j j':Nat) u u',j≠j'->cs[j]?=some u->cs[j']?=some u'->zEU u u')
theorem zCk.nil(w:World)(base:Nat):zCk w base (.slice none 0 0) [] []:=⟨World.ownsRow_nil _ _ _ _,by simp,by simp⟩
theorem zCk.later{w w':World}{base:Nat}{v:Value}{rs:List (List Val)}{cs:List Value}(h:zCk w base v rs cs)(hb:Below w.heap.size w w'):zCk w' base v rs cs:=
 ⟨zAc h.1 hb,fun j r hr=>by obtain⟨u,e,ho⟩:=h.2.1 j r hr;exact⟨u,e,ho.later hb⟩,h.2.2⟩
theorem zCk.len{w:World}{base:Nat}{v:Value}{rs:List (List Val)}{cs:List Value}(h:zCk w base v rs cs):cs.length=rs.length:=by have:=h.1.1;omega
theorem zCk.at{w:World}{base:Nat}{v:Value}{rs:List (List Val)}{cs:List Value}(h:zCk w base v rs cs){j:Nat}{u:Value}(hu:cs[j]?=some u):∃r,rs[j]?=some r/\zAV w base u r:=by
 have hj:j<rs.length:=by rw[<-h.len];exact(zAL hu).1
 obtain⟨u',e,ho⟩:=h.2.1 j _ (zAf hj)
 rw[hu] at e;cases e
 exact⟨_,zAf hj,ho⟩
theorem zCk.push{w w1:World}{base:Nat}{v v':Value}{rs:List (List Val)}{cs:List Value}{o:Obj}(h:zCk w base v rs cs)(ho:w1.ownsRow base 37 1 v' (rs.length+1) (cs++[.slice none 0 0]))(hg:(w.alloc o).grownBy w1 v.ownBlock) :
  zCk w1 base v' (rs++[[]]) (cs++[.slice none 0 0]):=by
 have hl:=h.len
 refine⟨by rw[zAX];exact ho,fun j r hr=>?_,fun j j' u u' Hg hu hu'=>?_⟩
 ·by_cases hj:j<rs.length
  ·rw[List.getElem?_append_left hj] at hr
   obtain⟨u,e,Jt⟩:=h.2.1 j r hr
   refine⟨u,by rw[List.getElem?_append_left (by omega)];exact e,?_⟩
   exact(World.ownsRow.alloc Jt o).kept hg (zE1 (World.ownsRow.alloc Jt o) (World.ownsRow.alloc h.1 o) (by decide))
  ·rw[List.getElem?_append_right (by omega)] at hr
   have e0:j-rs.length=0:=by
    have:=(zAL hr).1
    simp at this;omega
   rw[e0] at hr
   simp at hr
   subst hr
   refine⟨.slice none 0 0,?_,World.ownsRow_nil _ _ _ _⟩
   rw[List.getElem?_append_right (by omega),hl,e0];rfl
 ·by_cases hj:j<cs.length
  ·rw[List.getElem?_append_left hj] at hu
   by_cases qA:j'<cs.length
   ·rw[List.getElem?_append_left qA] at hu'
    exact h.2.2 j j' u u' Hg hu hu'
   ·rw[List.getElem?_append_right (by omega)] at hu'
    have e0:j'-cs.length=0:=by have:=(zAL hu').1;simp at this;omega
    rw[e0] at hu';simp at hu';subst hu'
    exact zEU.symm (.inl rfl)
  ·rw[List.getElem?_append_right (by omega)] at hu
   have e0:j-cs.length=0:=by have:=(zAL hu).1;simp at this;omega
   rw[e0] at hu;simp at hu;subst hu
   exact .inl rfl
theorem zGL{w:World}{base e:Nat}{R n cap:Nat}{cs:List Value}(h:w.ownsRow base e 1 (.slice (some ⟨R,0,none⟩) n cap) n cs):∃F m,w.rowIs R e m F/\n<=m/\base<=R/\∀j u,cs[j]?=some u->F j=u:=by
 rcases h.2 with ⟨e0,_⟩|⟨g,cap',cur,ev,hb,hh,h1,h2,h3,h4⟩
 ·cases e0
 ·cases ev
  refine⟨fun i=>(cur[i]?).getD noS,cur.size,⟨cur,hh,rfl,fun i hi=>by simp[hi]⟩,by omega,hb,fun j u hu=>?_⟩
  rw[<-h4,List.getElem?_take] at hu
  split at hu
  ·have:cur[j]?=some u:=by simpa using hu
   simp[this]
  ·cases hu
theorem zMs{w:World}{base e:Nat}{R n cap i:Nat}{cs:List Value}{u:Value}(h:w.ownsRow base e 1 (.slice (some ⟨R,0,none⟩) n cap) n cs)(hi:i<n):(w.setCell ⟨R,i,none⟩ u).ownsRow base e 1 (.slice (some ⟨R,0,none⟩) n cap) n (cs.set i u):=by
 refine⟨by rw[List.length_set];exact h.1,?_⟩
 rcases h.2 with ⟨e0,_⟩|⟨g,cap',cur,ev,hb,hh,h1,h2,h3,h4⟩
 ·cases e0
 ·cases ev
  refine .inr ⟨R,cap,cur.setIfInBounds i u,rfl,hb,?_,h1,h2,by simpa using h3,?_⟩
  ·simp[World.setCell,Array.getElem?_modify,hh]
  ·rw[<-h4]
   simp[List.take_set]
theorem zCk.put{w w1:World}{base R n cap:Nat}{rs:List (List Val)}{cs:List Value}{o:Obj}{i:Nat}{u u':Value}{r:List Val}(h:zCk w base (.slice (some ⟨R,0,none⟩) n cap) rs cs)(hn:rs.length=n)(hu:cs[i]?=some u)
  (ho:zAV w1 base u' r) (hg:(w.alloc o).grownBy w1 u.ownBlock) (Hm:u.ownBlock=u'.ownBlock∨u'.ownBlock=some (w.alloc o).heap.size) :
  zCk (w1.setCell ⟨R,i,none⟩ u') base (.slice (some ⟨R,0,none⟩) n cap) (rs.set i r) (cs.set i u'):=by
 subst hn
 have hl:=h.len
 have hi:i<rs.length:=by rw[<-hl];exact(zAL hu).1
 obtain⟨ri,_,Jt⟩:=h.at hu
 have yw:=(World.ownsRow.alloc h.1 o).kept hg (zE1 (World.ownsRow.alloc h.1 o) (World.ownsRow.alloc Jt o) (by decide))
 obtain⟨F,m,Hk,_,_,_⟩:=zGL yw
 refine⟨by rw[List.length_set];exact zMs yw hi,fun j q hq=>?_,fun j j' x x' Hg hx YF=>?_⟩
 ·by_cases ej:j=i
  ·subst ej
   rw[List.getElem?_set_self hi] at hq
   cases hq
   exact⟨u',by rw[List.getElem?_set_self (by omega)],zAw ho Hk (by decide)⟩
  ·rw[List.getElem?_set_ne (fun e=>ej e.symm)] at hq
   obtain⟨x,ex,hox⟩:=h.2.1 j q hq
   refine⟨x,by rw[List.getElem?_set_ne (fun e=>ej e.symm)];exact ex,zAw ?_ Hk (by decide)⟩
   exact(World.ownsRow.alloc hox o).kept hg (h.2.2 j i x u ej ex hu)
 ·have new:∀(j:Nat) (x:Value),j≠i->cs[j]?=some x->zEU x u':=by
   intro j x ej hx
   rcases Hm with e|e
   ·have:=h.2.2 j i x u ej hx hu
    rcases this with h0|h0
    ·exact .inl h0
    ·exact .inr (by rw[<-e];exact h0)
   ·obtain⟨q,_,hox⟩:=h.at hx
    cases hb:x.ownBlock with
    | none=>exact .inl hb
    | some g=>
     right
     have:=(World.ownsRow.lt hox g hb).2
     rw[hb,e];intro e2;cases e2;simp at this;omega
  by_cases ej:j=i
  ·by_cases ej':j'=i
   ·exact absurd (ej.trans ej'.symm) Hg
   ·subst ej
    rw[List.getElem?_set_self (by omega)] at hx;cases hx
    rw[List.getElem?_set_ne (fun e=>ej' e.symm)] at YF
    exact(new j' x' ej' YF).symm
  ·rw[List.getElem?_set_ne (fun e=>ej e.symm)] at hx
   by_cases ej':j'=i
   ·subst ej'
    rw[List.getElem?_set_self (by omega)] at YF;cases YF
    exact new j x ej hx
   ·rw[List.getElem?_set_ne (fun e=>ej' e.symm)] at YF
    exact h.2.2 j j' x x' Hg hx YF
def rsA(Cs:List (Vc×Sl))(n0 k i:Nat):List (List Val):=(List.range (if k=0 then i else n0)).map (fun j=>(zDJ Cs j).take (if j<i then k+1 else k))
def rsB(Cs:List (Vc×Sl))(n0 k i:Nat):List (List Val):=if k=0 then rsA Cs n0 0 i++[[]] else rsA Cs n0 k i
theorem zR3(Cs:List (Vc×Sl))(n0 k:Nat):rsA Cs n0 k n0=rsA Cs n0 (k+1) 0:=by
 unfold rsA
 have e:(if k=0 then n0 else n0)=n0:=by split<;>rfl
 rw[e]
 refine List.map_congr_left fun j hj=>?_
 have:=List.mem_range.1 hj
 rw[if_pos this,if_neg (by omega)]
theorem zSR{Cs:List (Vc×Sl)}{n0 k i:Nat}(hi:i<n0):(rsB Cs n0 k i)[i]?=some ((zDJ Cs i).take k):=by
 unfold rsB
 split
 ·next h=>subst h;rw[List.getElem?_append_right (by simp[rsA])];simp[rsA]
 ·next h=>simp[rsA,h,hi]
theorem zT8{Cs:List (Vc×Sl)}{n0 k i:Nat}(hi:i<n0):(rsB Cs n0 k i).set i ((zDJ Cs i).take (k+1))=rsA Cs n0 k (i+1):=by
 apply List.ext_getElem?
 intro j
 unfold rsB
 split
 ·next h=>
  subst h
  by_cases ej:j=i
  ·subst ej
   rw[List.getElem?_set_self (by simp[rsA])]
   simp[rsA]
  ·rw[List.getElem?_set_ne (fun e=>ej e.symm)]
   by_cases hj:j<i
   ·rw[List.getElem?_append_left (by simp[rsA];exact hj)]
    simp[rsA,hj,show j<i+1 by omega]
   ·rw[List.getElem?_eq_none (by simp[rsA];omega),List.getElem?_eq_none (by simp[rsA];omega)]
 ·next h=>
  by_cases ej:j=i
  ·subst ej
   rw[List.getElem?_set_self (by simp[rsA,h];exact hi)]
   simp[rsA,h,hi]
  ·rw[List.getElem?_set_ne (fun e=>ej e.symm)]
   by_cases hj:j<n0
   ·by_cases GA:j<i
    ·simp[rsA,h,hj,GA,show j<i+1 by omega]
    ·simp[rsA,h,hj,GA,show ¬j<i+1 by omega]
   ·rw[List.getElem?_eq_none (by simp[rsA,h];omega),List.getElem?_eq_none (by simp[rsA,h];omega)]
theorem zT9(Cs:List (Vc×Sl)):rsA Cs (len0 Cs) Cs.length 0=zAn Cs:=by
 unfold rsA zAn
 by_cases h:Cs.length=0
 ·have:Cs=[]:=List.eq_nil_of_length_eq_zero h
  subst this
  rfl
 ·rw[if_neg h]
  refine List.map_congr_left fun j _=>?_
  rw[if_neg (by omega),List.take_of_length_le (by rw[zEC];exact Nat.le_refl _)]
theorem zOd{Cs:List (Vc×Sl)}{n0 k i:Nat}(hi:i<n0):(rsB Cs n0 k i).length=if k=0 then i+1 else n0:=by
 unfold rsB
 split
 ·next h=>simp[rsA]
 ·next h=>simp[rsA,h]
theorem zHo{W w1:World}{r:Option Nat}(h:W.drew.grownBy w1 r):W.grownBy w1 r:=⟨h.os,h.tape,h.output,h.size,h.block⟩
theorem vS{w':World}{bx:Nat}{y:Val}(h:w'.rowIs bx 59 3 (zDU y)):w'.cell? ⟨bx,0,none⟩=some (.int .i64 y.k)/\w'.cell? ⟨bx,1,none⟩=some (.int .i64 y.n)/\w'.cell? ⟨bx,2,none⟩=some (.string y.s):=by
 obtain⟨a,b,c,_⟩:=zA9 h
 exact⟨a,b,c⟩
theorem zJY{w:World}{base e:Nat}{v:Value}{n:Nat}{cs:List Value}(h:w.ownsRow base e 1 v n cs)(hn:0<n):∃R cap,v=.slice (some ⟨R,0,none⟩) n cap:=by
 rcases h.2 with ⟨_,h0⟩|⟨g,cap,cur,e,_⟩
 ·omega
 ·exact⟨g,cap,e⟩
theorem zHH{w:World}{base:Nat}{v u:Value}{zs:List Val}(h:zAV w base v zs)(hu:∀g,u.ownBlock=some g->w.heap.size<=g):zEU v u:=by
 cases hv:v.ownBlock with
 | none=>exact .inl hv
 | some g=>right;rw[hv];intro e;have h1:=(World.ownsRow.lt h g hv).2;have h2:=hu g e.symm;omega
theorem zKf{w:World}{base:Nat}{v:Value}{rs:List (List Val)}{cs:List Value}(h:zCk w base v rs cs):zLJ w v rs:=by
 obtain⟨a,c,e,hl,_⟩:=zBj h.1
 refine⟨a,c,e,?_⟩
 rcases hl with h0|⟨b,off,ha,hc⟩
 ·left
  have:=h.len
  rw[h0] at this
  exact List.eq_nil_of_length_eq_zero this.symm
 ·right
  refine⟨b,off,ha,fun i r hr=>?_⟩
  obtain⟨u,hu,Jt⟩:=h.2.1 i r hr
  obtain⟨ra,rc,e2,Hk⟩:=zBy Jt
  exact⟨ra,rc,by rw[hc i u hu,e2],Hk⟩
theorem zI4{w0 Wt w1:World}{R n cap:Nat}{Cs:List (Vc×Sl)}{n0 k i:Nat}{cs:List Value}{o:Obj}{u:Value}{g cp m:Nat}{y:Val}{vv:Value}{bv:Nat}{ys:List Val}
  (Gb:zCk Wt w0.heap.size (.slice (some ⟨R,0,none⟩) n cap) (rsB Cs n0 k i) cs) (hn:(rsB Cs n0 k i).length=n) (hi:i<n0) (hu:cs[i]?=some u) (hy:(zDJ Cs i)[k]?=some y)
  (ho:zAV w1 w0.heap.size (.slice (some ⟨g,0,none⟩) m cp) ((zDJ Cs i).take k++[y])) (hg:(Wt.alloc o).grownBy w1 u.ownBlock) (Hm:u.ownBlock=some g∨g=Wt.heap.size+1)
  (hvv:zAV Wt bv vv ys) (hap:∀(j:Nat) x,cs[j]?=some x->zEU vv x) (hb:Below w0.heap.size w0 Wt) :
  zCk (w1.setCell ⟨R,i,none⟩ (.slice (some ⟨g,0,none⟩) m cp)) w0.heap.size (.slice (some ⟨R,0,none⟩) n cap) (rsA Cs n0 k (i+1)) (cs.set i (.slice (some ⟨g,0,none⟩) m cp))/\zAV (w1.setCell ⟨R,i,none⟩ (.slice (some ⟨g,0,none⟩) m cp)) bv vv ys/\(∀(j:Nat) x,(cs.set i (.slice (some ⟨g,0,none⟩) m cp))[j]?=some x->zEU vv x)/\Below w0.heap.size w0 (w1.setCell ⟨R,i,none⟩ (.slice (some ⟨g,0,none⟩) m cp)):=by
 have He:i<cs.length:=(zAL hu).1
 obtain⟨ri,_,Jt⟩:=Gb.at hu
 have yw:=(World.ownsRow.alloc Gb.1 o).kept hg (zE1 (World.ownsRow.alloc Gb.1 o) (World.ownsRow.alloc Jt o) (by decide))
 rw[hn] at yw
 obtain⟨F,mm,Hk,_,hbR,_⟩:=zGL yw
 refine⟨?_,?_,?_,?_⟩
 ·have:=Gb.put hn hu ho hg (by rcases Hm with e|e;exact .inl e;exact .inr (by rw[e];simp[Value.ownBlock]))
  rw[<-take_one hy,zT8 hi] at this
  exact this
 ·exact zAw ((World.ownsRow.alloc hvv o).kept hg (hap i u hu)) Hk (by decide)
 ·intro j x hx
  by_cases ej:j=i
  ·subst ej
   rw[List.getElem?_set_self He] at hx
   cases hx
   rcases Hm with e|e
   ·have:=hap j u hu
    unfold zEU at *
    rw[e] at this
    exact this
   ·exact zHH hvv (fun g' e'=>by simp[Value.ownBlock] at e';omega)
  ·rw[List.getElem?_set_ne (fun e=>ej e.symm)] at hx
   exact hap j x hx
 ·exact((zA1 hb o).trans (zAd hg (zA1 hb o).size fun g e=>(World.ownsRow.lt Jt g e).1)).setCell hbR _
theorem zNY(a:Option Addr)(c:Nat)(Cs:List (Vc×Sl))(w:World)(hl:Cs.length<=1048576)(hs:∀c∈Cs,small c.1)(ha:zBq w a Cs) :
  Calls Tryz.prog 42 #[.slice a Cs.length c] w fun e w'=>∃v,e=.returned (.tuple #[v,.int .i64 (zLU Cs).2])/\zLJ w' v (zLU Cs).1/\Below w.heap.size w w':=by
 obtain⟨i40,TQ,z40,z41,z42⟩:=info_parts Tryz.info59
 obtain⟨i22,FJ,y40,y41,y42⟩:=info_parts Tryz.info37
 have HG:Hid (∀c∈Cs,∀w',Below w.heap.size w w'->Calls Tryz.prog 69 #[zCC c.1 c.2] w' fun e w''=>e=.returned (.bool (zAg c.1))/\Below w'.heap.size w' w''):=fun c hc w' hb=>zCi c.1 c.2 w' (hs c hc) ((ha.2 c hc).later hb)
 have HT:Hid (∀c∈Cs,∀w',Below w.heap.size w w'->Calls Tryz.prog 64 #[zCC c.1 c.2] w' fun e w''=>∃v,e=.returned v/\zAV w'' w'.heap.size v (zAD c.1)/\Below w'.heap.size w' w''):=fun c hc w' hb=>zCJ c.1 c.2 w' (hs c hc) ((ha.2 c hc).later hb)
 have HA:=zA3 ha
 have HS:=zA3 hs
 have hN0:len0 Cs<=1048576:=by
  cases Cs with
  | nil=>simp[len0]
  | cons d l=>exact(hs d (by simp)).1
 generalize hR:zLU Cs=R
 have HR:=zA3 hR
 obtain⟨n0,hn0⟩:∃n0,n0=len0 Cs:=⟨_,rfl⟩
 have HN0:=zA3 hn0
 rw[<-hn0] at hN0
 clear ha hs hR hn0
 go_enter Tryz.func42,Tryz.ntmps42
 go_wp2_with fail
 go_loopw[4,11] (fun v i wr=>∃(k:Nat) (cs:List Value),k<=Cs.length/\i=.int .i64 k/\Hid (∀i y,i<k->Cs[i]?=some y->zLD (len0 Cs) y=false)/\zCk wr w.heap.size v (rsA Cs n0 k 0) cs/\Below w.heap.size w wr) (fun _ i _=>Cs.length-(intOf i).toNat)
 case atStart=>exact⟨0,[],Nat.zero_le _,rfl,fun i y h=>by omega,zCk.nil _ _,Below.refl _ _⟩
 case round=>
  obtain⟨k,cs,hk,rfl,HN,hO,hb⟩:=hrel
  have HO:=zA3 hO
  clear hO
  by_cases h1:k<Cs.length
  ·obtain⟨cc,Yk⟩:∃cc,Cs[k]?=some cc:=⟨_,zAf h1⟩
   obtain⟨d0,Zp⟩:∃d0,Cs[0]?=some d0:=⟨_,zAf (by omega)⟩
   rcases((zA0 HA).later hb).1 with e|⟨ba,oa,rfl,Qq⟩
   ·rw[e] at Yk;cases Yk
   obtain⟨e0,e1,e2,e3⟩:=Qq k cc Yk
   obtain⟨_,n1,_,_⟩:=Qq 0 d0 Zp
   simp only[Nat.zero_mul,Nat.add_zero] at n1
   have KQ:=zA3 (zA0 HG cc (List.mem_of_getElem? Yk))
   have HTC:=zA3 (zA0 HT cc (List.mem_of_getElem? Yk))
   have JF:=zA3 Yk
   have HY:=zA3 (fun i=>zIK (i:=i) Yk)
   obtain⟨sm1,_,_⟩:=zA0 HS cc (List.mem_of_getElem? Yk)
   obtain⟨sm2,_,_⟩:=zA0 HS d0 (List.mem_of_getElem? Zp)
   have JK:=zA3 (zIZ Zp)
   have ZW:=World.block_lt_of_cell? _ _ n1
   simp only at ZW
   have i1:(k:Int)<(Cs.length:Int):=by omega
   have i0:(0:Int)<(Cs.length:Int):=by omega
   obtain⟨X,p⟩:=cc
   obtain⟨X0,p0⟩:=d0
   simp only at e0 e1 e2 e3 n1 KQ HTC HY sm1 sm2 JK
   clear Qq Yk Zp
   go_upto_region 5 with fail
   obtain⟨W1,ZF⟩:∃W1,W1=wr.alloc (.cells #[.int .i64 X.k,.slice p.a1 X.nl.length p.c1,.slice p.a2 X.ns.length p.c2,.slice p.a3 X.ss.length p.c3] 49):=⟨_,rfl⟩
   have GH:Below w.heap.size w W1:=by rw[ZF];exact zA1 hb _
   have GR:W1.rowIs wr.heap.size 49 4 (zGA (.int .i64 X.k) (.slice p.a1 X.nl.length p.c1) (.slice p.a2 X.ns.length p.c2) (.slice p.a3 X.ss.length p.c3)):=by rw[ZF];exact zD6 _ _ _ _ _
   have n1':W1.cell? ⟨ba,oa+1,none⟩=some (.slice p0.a1 X0.nl.length p0.c1):=by rw[ZF];exact cell_later (zA1 (Below.refl _ wr) _) n1
   have YU:Hid (zCk W1 w.heap.size u4 (rsA Cs n0 k 0) cs):=by rw[ZF];exact(zA0 HO).later (zA1 (Below.refl _ wr) _)
   rw[<-ZF]
   have Qa:=zA3 GH
   have Fe:=zA3 GR
   have HC:Hid (∀d os,Calls Tryz.prog 69 #[zCC X p] (grow (redrawn W1 d) os) fun e w'=>e=.returned (.bool (zAg X))/\Below (grow (redrawn W1 d) os).heap.size (grow (redrawn W1 d) os) w'):=fun d os=>zA0 KQ _ (zA2 GH (below_regrown _ _ _))
   have qT:Hid (∀bb,bb=(!zAg X || ((X.nl.length:Int) != (X0.nl.length:Int)))->bb=zLD (len0 Cs) (X,p)):=fun bb h=>by rw[h,zA0 JK];rfl
   have Ty:Hid (zLD (len0 Cs) (X,p)=false->zAg X=true/\X.nl.length=n0):=fun h=>by
    simp[zLD] at h
    have:=zA0 HN0
    exact⟨h.1,by omega⟩
   obtain⟨G,hG⟩:∃G,G=zAg X:=⟨_,rfl⟩
   rw[<-hG] at HC qT
   clear ZF e0 e1 e2 e3 n1 hb GH KQ hG HO
   go_cut[29] (fun s29 wx=>(∃bb,s29=.bool bb/\Hid (bb=zLD (len0 Cs) (X,p)))/\Below W1.heap.size W1 wx)
   case first=>
    obtain⟨t0,t1,t2,t3,_⟩:=zAk GR
    have k0:=cell_regrown t0
    have k1:=cell_regrown t1
    have k2:=cell_regrown t2
    have k3:=cell_regrown t3
    have k4:=cell_regrown n1'
    clear GR
    cases G
    ·refine wp_region_quiet_below (by kernel_rfl) (by kernel_rfl) ?_
     repeat (go_big_quiet_step ((go_at_call 69;exact Calls.regrown_of (zA0 HC _ _))))
     refine wpQuiet_nil ?_
     intro w' Hp
     have hB:Below W1.heap.size W1 w':=by obtain⟨p,rfl⟩:=Hp;exact below_regrown _ _ _
     clear Hp
     go_wp2
     go_meet
     exact⟨⟨_,rfl,zA0 qT _ rfl⟩,hB⟩
    ·refine wp_region_quiet_below (by kernel_rfl) (by kernel_rfl) ?_
     repeat (go_big_quiet_step ((go_at_call 69;exact Calls.regrown_of (zA0 HC _ _))))
     refine wpQuiet_nil ?_
     intro w' Hp
     have hB:Below W1.heap.size W1 w':=by obtain⟨p,rfl⟩:=Hp;exact below_regrown _ _ _
     clear Hp
     go_wp2
     go_meet
     exact⟨⟨_,rfl,zA0 qT _ rfl⟩,hB⟩
   case rest=>
    obtain⟨⟨bb,rfl,QX⟩,Hs⟩:=hcut
    rename World=>wx
    have hBx:=zA2 (zA0 Qa) Hs
    cases bb
    rotate_left
    ·have HE:Hid (R=([],1)):=by
      show _=_
      rw[<-zA0 HR,zLU,if_pos (zRl (zA0 JF) (zA0 QX).symm)]
     go_wp2
     go_ret2
     exact⟨_,by rw[zA0 HE];rfl,by rw[zA0 HE];exact⟨none,0,rfl,.inl rfl⟩,hBx⟩
    ·have HP:=zA3 (zGg (zA0 HN) (zA0 JF) (zA0 QX).symm)
     obtain⟨hgX,hnX⟩:=zA0 Ty (zA0 QX).symm
     have Qh:Hid ((zAD X).length=n0):=by rw[zAb hgX];exact hnX
     have Kr:Hid (∀i,i<n0->(zAD X)[i]?=some (atV X i)):=fun i hi=>zFY hgX (by omega)
     have HXx:=zA3 (zA5 (zA0 Fe) Hs)
     have KC:=zA3 ((zA0 YU).later Hs)
     have YI:=zA3 hBx
     obtain⟨t0,t1,t2,t3,_⟩:=zAk (zA0 HXx)
     generalize zAD X=ys at HTC Qh Kr
     clear hgX hnX Fe YU GR n1' Hs hBx HC qT Ty HN Qa QX
     go_wp2_with (go_at_call 64;refine(zA0 HTC _ (zA0 YI)).mono ?_;rintro e w7 ⟨vv,rfl,TH,Qx⟩;obtain⟨a7,c7,e7⟩:=zCj TH;subst e7)
     have Zh:=zA3 (zA2 (zA0 YI) Qx)
     have HO7:=zA3 ((zA0 KC).later Qx)
     have HV7:=zA3 TH
     have HAP:Hid (∀(j:Nat) x,cs[j]?=some x->zEU (.slice a7 ys.length c7) x):=fun j x hx=>by
      obtain⟨r,_,hor⟩:=(zA0 KC).at hx
      refine zEU.symm ?_
      exact zHH hor (fun g e=>(World.ownsRow.lt TH g e).1)
     clear t0 t1 t2 t3 Qx TH HXx KC YI
     go_loopw[4,33] (fun v q wr=>∃(i:Nat) (cs:List Value),i<=n0/\q=.int .i64 i/\zCk wr w.heap.size v (rsA Cs n0 k i) cs/\zAV wr wx.heap.size (.slice a7 ys.length c7) ys/\(∀(j:Nat) x,cs[j]?=some x->zEU (.slice a7 ys.length c7) x)/\Below w.heap.size w wr) (fun _ q _=>n0-(intOf q).toNat)
     case atStart=>exact⟨0,cs,Nat.zero_le _,rfl,zA0 HO7,zA0 HV7,zA0 HAP,zA0 Zh⟩
     case round=>
      obtain⟨i,cs,hi,rfl,hO,hV,hAp,Kh⟩:=hrel
      have HO:=zA3 hO
      have HV:=zA3 hV
      have HAp:=zA3 hAp
      have HBr:=zA3 Kh
      have i3:(ys.length:Int)=(n0:Int):=by rw[zA0 Qh]
      have HI3:=zA3 i3
      clear i3 hO hAp HO7 HV7 HAP Zh
      by_cases h2:i<n0
      ·have i2:(i:Int)<(ys.length:Int):=by rw[zA0 Qh];omega
       obtain⟨a7',c7',e7',Hk⟩:=zBy hV
       cases e7'
       have Tf:=zA0 Kr i h2
       rcases Hk with e|⟨bv,ov,e,Qm⟩
       ·rw[e] at Tf;cases Tf
       subst e
       obtain⟨m0,m1,m2⟩:=Qm i _ Tf
       have HYY:=zA3 (zA0 HY i)
       generalize atV X i=y at m0 m1 m2 HYY
       have hBsz:=Kh.size
       clear Qm Tf hV Kh
       by_cases h0:k=0
       ·have k0:((k:Int) == 0)=true:=by simp[h0]
        have FR:(rsA Cs n0 k i).length=i:=by simp[rsA,h0]
        have Dy:=zA3 FR
        have H0:=zA3 h0
        clear FR h0
        go_upto_region 12 with (at_builtin;refine wpList_append_own_at _ rfl (.tmp 40) (.tmp 41) 23 rfl w.heap.size 37 i22 (.slice none 0 0) 1 24 Tryz.underlying23 FJ y40 y41 y42 rfl (by decide) _ _ _ rfl (World.ownsRow.alloc (World.ownsRow.alloc (zA0 HO).1 _) _) ⟨wr.heap.size+1,0,none⟩ 1 1 [.slice none 0 0] rfl rfl (by intro j u hj;match j,hj with|0,hj=>(simp at hj;subst hj;simp[Addr.add,go_sem])) (by intro u hu;simp at hu;subst hu;rfl) (by rw[zA0 Dy];unfold maxLen;omega) (by rw[zA0 Dy];omega) (by simp;omega) ?_;intro v1 wT Hc Ha _ Hl)
        obtain⟨bx,Hs⟩:∃bx,bx=wr.heap.size:=⟨_,rfl⟩
        obtain⟨Wt,qG⟩:∃Wt,Wt=wT:=⟨_,rfl⟩
        have hgq:((wr.alloc (.cells #[.int .i64 y.k,.int .i64 y.n,.string y.s] 59)).alloc (.cells #[.slice none 0 0] 37)).grownBy wT u4.ownBlock:=Ha
        have hOa:=(zA0 HO).later (zA1 (Below.refl _ wr) (.cells #[.int .i64 y.k,.int .i64 y.n,.string y.s] 59))
        have hxa:=(zAs wr y).alloc (.cells #[.slice none 0 0] 37)
        have TD:Wt.rowIs bx 59 3 (zDU y):=by rw[qG,Hs];exact zAF hxa hgq (zBL hxa (World.ownsRow.alloc hOa.1 (.cells #[.slice none 0 0] 37)) (by decide))
        have Gb:zCk Wt w.heap.size v1 (rsB Cs n0 k i) (cs++[.slice none 0 0]):=by
         rw[qG,rsB,if_pos (zA0 H0)]
         have:=zCk.push hOa Hc hgq
         rw[zA0 H0] at this
         exact this
        have hva:=(zA0 HV).later (zA1 (Below.refl _ wr) (.cells #[.int .i64 y.k,.int .i64 y.n,.string y.s] 59))
        have hvT:zAV Wt wx.heap.size (.slice (some ⟨bv,ov,none⟩) ys.length c7) ys:=by rw[qG];exact(World.ownsRow.alloc hva (.cells #[.slice none 0 0] 37)).kept hgq (zE1 (World.ownsRow.alloc hva (.cells #[.slice none 0 0] 37)) (World.ownsRow.alloc hOa.1 (.cells #[.slice none 0 0] 37)) (by decide))
        have FV:∀(j:Nat) x,(cs++[.slice none 0 0])[j]?=some x->zEU (.slice (some ⟨bv,ov,none⟩) ys.length c7) x:=by
         intro j x hx
         by_cases hj:j<cs.length
         ·rw[List.getElem?_append_left hj] at hx;exact zA0 HAp j x hx
         ·rw[List.getElem?_append_right (by omega)] at hx
          have e0:j-cs.length=0:=by have:=(zAL hx).1;simp at this;omega
          rw[e0] at hx;simp at hx;subst hx
          exact zEU.symm (.inl rfl)
        have hBa:=zA1 (zA1 (zA0 HBr) (.cells #[.int .i64 y.k,.int .i64 y.n,.string y.s] 59)) (.cells #[.slice none 0 0] 37)
        have hBT:Below w.heap.size w Wt:=by rw[qG];exact hBa.trans (zAd hgq hBa.size fun g e=>(World.ownsRow.lt (zA0 HO).1 g e).1)
        have Fp:∀(j:Nat) u,(cs++[.slice none 0 0])[j]?=some u->u.ownBlock≠some bx:=by
         intro j u hu e
         by_cases hj:j<cs.length
         ·rw[List.getElem?_append_left hj] at hu
          obtain⟨r,_,hor⟩:=(zA0 HO).at hu
          have:=(World.ownsRow.lt hor bx e).2
          rw[Hs] at this;omega
         ·rw[List.getElem?_append_right (by omega)] at hu
          have e0:j-cs.length=0:=by have:=(zAL hu).1;simp at this;omega
          rw[e0] at hu;simp at hu;subst hu
          cases e
        rw[<-qG,<-Hs]
        clear qG m0 m1 m2 Hc Ha Hl hgq hOa hxa hva hBa Hs
        obtain⟨u,hu,Jt⟩:=Gb.2.1 i _ (zSR h2)
        have Yb:=zOd (Cs:=Cs) (k:=k) h2
        obtain⟨RR,capR,eR⟩:=zJY Gb.1 (by rw[Yb];split<;>omega)
        subst eR
        obtain⟨F,mm,Yw,hmm,hbR,hFc⟩:=zGL Gb.1
        have Hf:((zDJ Cs i).take k).length<=1048576:=by rw[List.length_take,zEC];omega
        obtain⟨nR,yK⟩:∃nR,nR=(rsB Cs n0 k i).length:=⟨_,rfl⟩
        rw[<-yK] at Gb hmm
        have HNR:=zA3 yK.symm
        have hin:i<nR:=by rw[yK,Yb];split<;>omega
        rw[<-yK]
        clear yK Yb
        have cR:Wt.cell? ⟨RR,i,none⟩=some u:=by rw[Yw.cell (by omega),hFc i u hu]
        have HU:=zA3 hu
        have KD:=zA3 Jt
        have QR:=zA3 Gb
        have YY:=zA3 Yw
        have ym:=zA3 Hf
        have hRlt:RR<Wt.heap.size:=Yw.lt
        have Hg:RR≠bx:=by
         intro e
         obtain⟨c1,q1,_⟩:=Yw
         obtain⟨c2,q2,_⟩:=TD
         rw[e,q2] at q1;simp at q1
        have iR:(i:Int)<(nR:Int):=by omega
        have Fq:∀g,u.ownBlock=some g->g≠bx:=by
         intro g e1 e2
         have:=Fp i u hu
         subst e2
         exact this e1
        have HUB:=zA3 Fq
        have S0:=vS TD.drew
        obtain⟨zs,JP⟩:∃zs,zs=(zDJ Cs i).take k:=⟨_,rfl⟩
        rw[<-JP] at KD ym
        have HZS:=zA3 JP
        have Hv:w.heap.size<=Wt.heap.size:=hBT.size
        clear Jt hu Yw hFc Hf Fq JP Gb
        obtain⟨x0,x1,x2,_⟩:=zA9 TD
        have hxlt:bx<Wt.heap.size:=TD.lt
        clear S0
        go_region_law ((refine step_append_lies _ (by rfl) (.tmp 48) (.tmp 50) 37 (by rfl) w.heap.size 59 i40 (.agg #[.int .i64 0,.int .i64 0,.string ⟨#[]⟩]) 3 32 Tryz.underlying37 TQ z40 z41 z42 (by rfl) (by decide) u zs.length (zs.flatMap c3) (by rfl) (World.ownsRow.drew (World.ownsRow.alloc (zA0 KD) _)) ⟨Wt.heap.size,0,none⟩ 1 1 (c3 y) (by rfl) (by rfl) (zAy Wt y) (zBY _) (by decide) (by have:=zA0 ym;unfold maxLen;omega) (by have:=zA0 ym;omega) (by simp;omega) (Wt.heap.size+1) (by simp) ?_;intro g cap w1 Hc Ha Hl FB;have Hy:(Wt.alloc (.cells #[.int .i64 y.k,.int .i64 y.n,.string y.s] 59)).grownBy w1 u.ownBlock:=zHo Ha;have Tr:=zAF ((zA0 YY).alloc (.cells #[.int .i64 y.k,.int .i64 y.n,.string y.s] 59)) Hy (zBL ((zA0 YY).alloc (.cells #[.int .i64 y.k,.int .i64 y.n,.string y.s] 59)) (World.ownsRow.alloc (zA0 KD) (.cells #[.int .i64 y.k,.int .i64 y.n,.string y.s] 59)) (by decide));have cR1:=Tr.cell (i:=i) (by omega);have fR1:=Tr.frozen i))
        all_goals
         have Gi:=zCf (zB9 Hc) (by rw[zA0 HZS]:zs++[y]=(zDJ Cs i).take k++[y])
         obtain⟨q1,q2,q3,q4⟩:=zI4 (zA0 QR) (zA0 HNR) h2 (zA0 HU) (zA0 HYY) Gi Hy Hl hvT FV hBT
         go_wp2
         go_roundw
         case rel=>exact⟨i+1,_,by omega,by go_num,q1,q2,q3,q4⟩
         case measure=>simp[intOf];omega
       ·-- columns behind the first
        have k0:((k:Int) == 0)=false:=by simp;omega
        go_upto_region 12 with fail
        obtain⟨bx,Hs⟩:∃bx,bx=wr.heap.size:=⟨_,rfl⟩
        obtain⟨Wt,qG⟩:∃Wt,Wt=wr.alloc (.cells #[.int .i64 y.k,.int .i64 y.n,.string y.s] 59):=⟨_,rfl⟩
        have TD:Wt.rowIs bx 59 3 (zDU y):=by rw[qG,Hs];exact zAs wr y
        have Gb:zCk Wt w.heap.size u4 (rsB Cs n0 k i) cs:=by rw[qG,rsB,if_neg h0];exact(zA0 HO).later (zA1 (Below.refl _ wr) _)
        have hvT:zAV Wt wx.heap.size (.slice (some ⟨bv,ov,none⟩) ys.length c7) ys:=by rw[qG];exact(zA0 HV).later (zA1 (Below.refl _ wr) _)
        have FV:=zA0 HAp
        have hBT:Below w.heap.size w Wt:=by rw[qG];exact zA1 (zA0 HBr) _
        have Fp:∀(j:Nat) u,cs[j]?=some u->u.ownBlock≠some bx:=by
         intro j u hu e
         obtain⟨r,_,hor⟩:=(zA0 HO).at hu
         have:=(World.ownsRow.lt hor bx e).2
         rw[Hs] at this;omega
        rw[<-qG,<-Hs]
        clear qG m0 m1 m2 Hs
        obtain⟨u,hu,Jt⟩:=Gb.2.1 i _ (zSR h2)
        have Yb:=zOd (Cs:=Cs) (k:=k) h2
        obtain⟨RR,capR,eR⟩:=zJY Gb.1 (by rw[Yb];split<;>omega)
        subst eR
        obtain⟨F,mm,Yw,hmm,hbR,hFc⟩:=zGL Gb.1
        have Hf:((zDJ Cs i).take k).length<=1048576:=by rw[List.length_take,zEC];omega
        obtain⟨nR,yK⟩:∃nR,nR=(rsB Cs n0 k i).length:=⟨_,rfl⟩
        rw[<-yK] at Gb hmm
        have HNR:=zA3 yK.symm
        have hin:i<nR:=by rw[yK,Yb];split<;>omega
        rw[<-yK]
        clear yK Yb
        have cR:Wt.cell? ⟨RR,i,none⟩=some u:=by rw[Yw.cell (by omega),hFc i u hu]
        have HU:=zA3 hu
        have KD:=zA3 Jt
        have QR:=zA3 Gb
        have YY:=zA3 Yw
        have ym:=zA3 Hf
        have hRlt:RR<Wt.heap.size:=Yw.lt
        have Hg:RR≠bx:=by
         intro e
         obtain⟨c1,q1,_⟩:=Yw
         obtain⟨c2,q2,_⟩:=TD
         rw[e,q2] at q1;simp at q1
        have iR:(i:Int)<(nR:Int):=by omega
        have Fq:∀g,u.ownBlock=some g->g≠bx:=by
         intro g e1 e2
         have:=Fp i u hu
         subst e2
         exact this e1
        have HUB:=zA3 Fq
        have S0:=vS TD.drew
        obtain⟨zs,JP⟩:∃zs,zs=(zDJ Cs i).take k:=⟨_,rfl⟩
        rw[<-JP] at KD ym
        have HZS:=zA3 JP
        have Hv:w.heap.size<=Wt.heap.size:=hBT.size
        clear Jt hu Yw hFc Hf Fq JP Gb
        obtain⟨x0,x1,x2,_⟩:=zA9 TD
        have hxlt:bx<Wt.heap.size:=TD.lt
        clear S0
        go_region_law ((refine step_append_lies _ (by rfl) (.tmp 48) (.tmp 50) 37 (by rfl) w.heap.size 59 i40 (.agg #[.int .i64 0,.int .i64 0,.string ⟨#[]⟩]) 3 32 Tryz.underlying37 TQ z40 z41 z42 (by rfl) (by decide) u zs.length (zs.flatMap c3) (by rfl) (World.ownsRow.drew (World.ownsRow.alloc (zA0 KD) _)) ⟨Wt.heap.size,0,none⟩ 1 1 (c3 y) (by rfl) (by rfl) (zAy Wt y) (zBY _) (by decide) (by have:=zA0 ym;unfold maxLen;omega) (by have:=zA0 ym;omega) (by simp;omega) (Wt.heap.size+1) (by simp) ?_;intro g cap w1 Hc Ha Hl FB;have Hy:(Wt.alloc (.cells #[.int .i64 y.k,.int .i64 y.n,.string y.s] 59)).grownBy w1 u.ownBlock:=zHo Ha;have Tr:=zAF ((zA0 YY).alloc (.cells #[.int .i64 y.k,.int .i64 y.n,.string y.s] 59)) Hy (zBL ((zA0 YY).alloc (.cells #[.int .i64 y.k,.int .i64 y.n,.string y.s] 59)) (World.ownsRow.alloc (zA0 KD) (.cells #[.int .i64 y.k,.int .i64 y.n,.string y.s] 59)) (by decide));have cR1:=Tr.cell (i:=i) (by omega);have fR1:=Tr.frozen i))
        all_goals
         have Gi:=zCf (zB9 Hc) (by rw[zA0 HZS]:zs++[y]=(zDJ Cs i).take k++[y])
         obtain⟨q1,q2,q3,q4⟩:=zI4 (zA0 QR) (zA0 HNR) h2 (zA0 HU) (zA0 HYY) Gi Hy Hl hvT FV hBT
         go_wp2
         go_roundw
         case rel=>exact⟨i+1,_,by omega,by go_num,q1,q2,q3,q4⟩
         case measure=>simp[intOf];omega
      ·have i2:¬(i:Int)<(ys.length:Int):=by rw[zA0 Qh];omega
       have HF:Hid (zCk wr w.heap.size u4 (rsA Cs n0 (k+1) 0) cs):=by
        have e:i=n0:=by omega
        have:=zA0 HO
        rw[e,zR3] at this
        exact this
       go_wp2
       go_roundw
       case rel=>exact⟨k+1,cs,by omega,by go_num,HP,zA0 HF,zA0 HBr⟩
       case measure=>simp[intOf];omega
  ·have i1:¬(k:Int)<(Cs.length:Int):=by omega
   have HE:Hid (R=(zAn Cs,0)):=by
    show _=_
    have e:k=Cs.length:=by omega
    have hP:Cs.any (zLD (len0 Cs))=false:=zKx (by rw[<-e];exact zA0 HN)
    rw[<-zA0 HR,zLU,if_neg (by rw[hP];simp)]
   have HF:Hid (zLJ wr u4 (zAn Cs)):=by
    have e:k=Cs.length:=by omega
    have:=zKf (zA0 HO)
    rw[e,zA0 HN0,zT9] at this
    exact this
   go_wp2
   go_ret2
   exact⟨_,by rw[zA0 HE];rfl,by rw[zA0 HE];exact zA0 HF,hb⟩
end Go.Proofs.YtekgpapophibcaaGreat
