import Derived.Test.YtekgpapophibcaaGreatRyT
set_option linter.unusedSimpArgs false
set_option linter.unusedVariables false
set_option maxHeartbeats 800000
set_option maxRecDepth 100000
namespace Go.Proofs.YtekgpapophibcaaGreat
open Go.RowKit Go.Sort
theorem zNm{b count m:Nat}{kind:Int}{l l1 l2:List UInt8}{W:List Val}{w:World}(hc:count<=4096)(hk:kind=1∨kind=2)(h:Rd w b l)(hl:l.length<=140737488355328)
  (hm:zBB 2 l=some (m,l1)) (hW:zAq kind m l1=some (W,l2)) (hs:zBM W=true) (hb:zCA count (bl (m-1)) l2=none) :
  Calls Tryz.prog 165 #[.pointer (some ⟨b,0,none⟩),.int .i64 kind,.int .i64 count] w fun e w'=>e=dmg/\Gr w w' b:=by
 obtain⟨i4,Qd,z40,z41,z42⟩:=info_parts Tryz.info59
 obtain⟨i6,YL,z60,z61,z62⟩:=info_parts Tryz.info4
 have TM:m<65536:=by
  obtain⟨g1,rfl,rfl⟩:=zBD hm
  have:=zBn (l.take 2)
  have h2:(l.take 2).length=2:=by rw[List.length_take];omega
  rw[h2] at this;simpa using this
 have YK:=zAo hm
 obtain⟨Zu,Yd⟩:=zBr hW
 have HN:=zA3 (zAT h hl hm (by decide))
 have HP:Hid (∀W2,Rd W2 b l1->Calls Tryz.prog 163 #[.pointer (some ⟨b,0,none⟩),.int .i64 kind,.int .i64 m] W2 fun e w'=>∃v,e=.returned v/\zAV w' W2.heap.size v W/\Rd w' b l2/\Gr W2 w' b):=fun W2 Yz=>by
  have:=zCe b m kind l1 W2 hk (by omega) Yz (by omega)
  rw[hW] at this
  refine this.mono ?_
  rintro e w' (⟨vs,r',v,he,h3,h4,h5,h6⟩|⟨he,_⟩)
  ·injection he with he;injection he with e1 e2;subst e1;subst e2
   exact⟨v,h3,h4,h5,h6⟩
  ·cases he
 have Zm:bl (m-1)<=64:=zFr (by have:(2:Nat)^64=18446744073709551616:=(by decide);omega)
 obtain⟨d,hd⟩:∃d,d=bl (m-1):=⟨_,rfl⟩
 rw[<-hd] at hb Zm
 have HB:=zA3 (fun W2 (Yz:Rd W2 b l2)=>zIs hc Zm Yz (by omega) hb)
 have Dl:Hid (∀W2,Calls Tryz.prog 146 #[.int .i64 m] W2 fun e w'=>e=.returned (.int .i64 (d:Int))/\w'=W2):=fun W2=>by rw[hd];exact zDh m W2 (by omega)
 have Qn:=h.ne
 have HS:=zA3 hs
 have ZS:=zA3 Zu
 clear h hs hd Zu hb
 go_enter Tryz.func165,Tryz.ntmps165
 go_wp2_with (first
  | (go_at_call 149;refine(zA0 HN).mono ?_;rintro e w1 ⟨rfl,Hq,Hn⟩)
  | (go_at_call 163;refine(zA0 HP _ Hq).mono ?_;rintro e w2 ⟨v2,rfl,Qi,Hu,Hj⟩;obtain⟨wa,wc,rfl,qp,Fl,Yx⟩:=zAC Qi;rw[zA0 ZS]))
 have Jb:=Hn.trans Hj
 have Qp:=Hn.size
 have QC:=Jb.size
 have QN:=zA3 Qi
 have Qf:=zA3 Yx
 clear Hn Hj Hq Qi Yx
 go_loopw[22] (fun i wr=>∃k:Nat,k<=m/\i=.int .i64 (k:Int)/\Below w2.heap.size w2 wr) (fun i _=>m-(intOf i).toNat)
 case atStart=>exact⟨0,Nat.zero_le _,rfl,Below.refl _ _⟩
 case round=>
  obtain⟨k,TO,rfl,QJ⟩:=hrel
  by_cases He:k<m
  ·have h9:(k:Int)<(m:Int):=by omega
   have Jg:=zA3 QJ
   by_cases Gk:k=0
   ·subst Gk
    clear QJ
    go_wp2_with fail
    refine wp_region_quiet_below (by kernel_rfl) (by kernel_rfl) ?_
    repeat (go_big_quiet_step (first
     | (go_at_call 150;exact Calls.regrown_of (zCo _ rfl _))))
    refine wpQuiet_nil ?_
    intro w' Hp
    have hB:Below wr.heap.size wr w':=by obtain⟨p,rfl⟩:=Hp;exact below_regrown _ _ _
    clear Hp
    go_wp2
    go_roundw
    case rel=>exact⟨1,by omega,by go_num,zA2 (zA0 Jg) hB⟩
    case measure=>simp[intOf];omega
   ·obtain⟨j,hj⟩:∃j,k=j+1:=⟨k-1,by omega⟩
    obtain⟨x,hx⟩:∃x,W[j]?=some x:=⟨_,zAf (by rw[zA0 ZS];omega)⟩
    obtain⟨y,hy⟩:∃y,W[k]?=some y:=⟨_,zAf (by rw[zA0 ZS];omega)⟩
    have YV:=zA3 (zEp (zA0 HS) hx (by rw[<-hj];exact hy))
    obtain⟨vb,vo,rfl,c0,c1,c2⟩:=((zA0 Qf).later QJ).lo hx
    obtain⟨vb',vo',e,d0,d1,d2⟩:=((zA0 Qf).later QJ).lo hy
    injection e with e
    injection e with e1 e2
    subst e1;subst e2
    have k0:=cell_regrown c0
    have k1:=cell_regrown c1
    have k2:=cell_regrown c2
    have k3:=cell_regrown d0
    have k4:=cell_regrown d1
    have k5:=cell_regrown d2
    have ej:(k:Int)-1=(j:Int):=by omega
    have g0:((k:Int) == 0)=false:=by simpa using Gk
    have qy:(j:Int)<(m:Int):=by omega
    have HO:=zA3 (zEJ x y)
    generalize zAh x y=O at YV HO
    have GL:Hid (decide (O<0)=true):=decide_eq_true (zA0 YV)
    clear c0 c1 c2 d0 d1 d2 QJ hx hy hj Gk
    go_wp2_with fail
    refine wp_region_quiet_below (by kernel_rfl) (by kernel_rfl) ?_
    repeat (go_big_quiet_step (first
     | (go_at_call 104;exact Calls.regrown_of (zA0 HO _))
     | (go_at_call 150;exact Calls.regrown_of (zCo _ (zA0 GL) _))))
    refine wpQuiet_nil ?_
    intro w' Hp
    have hB:Below wr.heap.size wr w':=by obtain⟨p,rfl⟩:=Hp;exact below_regrown _ _ _
    clear Hp
    go_wp2
    go_roundw
    case rel=>exact⟨k+1,by omega,by go_num,zA2 (zA0 Jg) hB⟩
    case measure=>simp[intOf];omega
  ·have h9:¬(k:Int)<(m:Int):=by omega
   have Qt:=Hu.below QJ
   have Gc:=(zA0 QN).later QJ
   have Yj:=(zA0 Qf).later QJ
   have ZH:=Jb.trans (Gr.of_below QJ b)
   have TC:=QJ.size
   clear QJ Qf QN Hu Jb
   replace Yj:=zA3 Yj
   have Jf:=zA3 Gc
   have qe:=zA3 Qt
   have qh:=zA3 ZH
   have Jc:Hid (∀ad,wa=some ad->ad.block<wr.heap.size/\b<ad.block):=fun ad Qo=>by
    obtain⟨g,o,rfl⟩:=qp ad Qo
    subst Qo
    have:=World.ownsRow.lt (zA0 Jf) g rfl
    exact⟨this.2,Nat.lt_of_lt_of_le Qn (Nat.le_trans Qp this.1)⟩
   clear Gc Qt ZH
   go_wp2_with (first
    | (go_at_call 146;refine(zA0 Dl _).mono ?_;rintro e w3 ⟨rfl,rfl⟩)
    | (go_at_call 162;refine(zA0 HB _ (zA0 qe)).mono ?_;rintro e w4 ⟨rfl,Yh⟩))
   exact⟨rfl,rfl,(zA0 qh).trans Yh⟩
theorem zNq{b count m:Nat}{kind:Int}{l l1 l2 t r:List UInt8}{W:List Val}{w:World}(hc:count<=4096)(hk:kind=1∨kind=2)(h:Rd w b l)(hl:l.length<=140737488355328)
  (hm:zBB 2 l=some (m,l1)) (hW:zAq kind m l1=some (W,l2)) (hs:zBM W=true) (hb:zCA count (bl (m-1)) l2=some (t,r))
  (h1:(∀k∈zAm t (bl (m-1)) count,k<m)->¬∀j,j<m->j∈zAm t (bl (m-1)) count) :
  Calls Tryz.prog 165 #[.pointer (some ⟨b,0,none⟩),.int .i64 kind,.int .i64 count] w fun e w'=>e=dmg/\Gr w w' b:=by
 obtain⟨i4,Qd,z40,z41,z42⟩:=info_parts Tryz.info59
 obtain⟨i6,YL,z60,z61,z62⟩:=info_parts Tryz.info4
 have TM:m<65536:=by
  obtain⟨g1,rfl,rfl⟩:=zBD hm
  have:=zBn (l.take 2)
  have h2:(l.take 2).length=2:=by rw[List.length_take];omega
  rw[h2] at this;simpa using this
 have YK:=zAo hm
 obtain⟨Zu,Yd⟩:=zBr hW
 have HN:=zA3 (zAT h hl hm (by decide))
 have HP:Hid (∀W2,Rd W2 b l1->Calls Tryz.prog 163 #[.pointer (some ⟨b,0,none⟩),.int .i64 kind,.int .i64 m] W2 fun e w'=>∃v,e=.returned v/\zAV w' W2.heap.size v W/\Rd w' b l2/\Gr W2 w' b):=fun W2 Yz=>by
  have:=zCe b m kind l1 W2 hk (by omega) Yz (by omega)
  rw[hW] at this
  refine this.mono ?_
  rintro e w' (⟨vs,r',v,he,h3,h4,h5,h6⟩|⟨he,_⟩)
  ·injection he with he;injection he with e1 e2;subst e1;subst e2
   exact⟨v,h3,h4,h5,h6⟩
  ·cases he
 have Zm:bl (m-1)<=64:=zFr (by have:(2:Nat)^64=18446744073709551616:=(by decide);omega)
 obtain⟨d,hd⟩:∃d,d=bl (m-1):=⟨_,rfl⟩
 rw[<-hd] at hb h1 Zm
 have HB:=zA3 (fun W2 (Yz:Rd W2 b l2)=>zFS hc Zm Yz (by omega) hb)
 have Dl:Hid (∀W2,Calls Tryz.prog 146 #[.int .i64 m] W2 fun e w'=>e=.returned (.int .i64 (d:Int))/\w'=W2):=fun W2=>by rw[hd];exact zDh m W2 (by omega)
 have YR:=zA3 (zD8 hb).1
 have Qn:=h.ne
 have HS:=zA3 hs
 have ZS:=zA3 Zu
 have H1:=zA3 h1
 clear h h1 hs hd Zu
 go_enter Tryz.func165,Tryz.ntmps165
 go_wp2_with (first
  | (go_at_call 149;refine(zA0 HN).mono ?_;rintro e w1 ⟨rfl,Hq,Hn⟩)
  | (go_at_call 163;refine(zA0 HP _ Hq).mono ?_;rintro e w2 ⟨v2,rfl,Qi,Hu,Hj⟩;obtain⟨wa,wc,rfl,qp,Fl,Yx⟩:=zAC Qi;rw[zA0 ZS]))
 have Jb:=Hn.trans Hj
 have Qp:=Hn.size
 have QC:=Jb.size
 have QN:=zA3 Qi
 have Qf:=zA3 Yx
 clear Hn Hj Hq Qi Yx
 go_loopw[22] (fun i wr=>∃k:Nat,k<=m/\i=.int .i64 (k:Int)/\Below w2.heap.size w2 wr) (fun i _=>m-(intOf i).toNat)
 case atStart=>exact⟨0,Nat.zero_le _,rfl,Below.refl _ _⟩
 case round=>
  obtain⟨k,TO,rfl,QJ⟩:=hrel
  by_cases He:k<m
  ·have h9:(k:Int)<(m:Int):=by omega
   have Jg:=zA3 QJ
   by_cases Gk:k=0
   ·subst Gk
    clear QJ
    go_wp2_with fail
    refine wp_region_quiet_below (by kernel_rfl) (by kernel_rfl) ?_
    repeat (go_big_quiet_step (first
     | (go_at_call 150;exact Calls.regrown_of (zCo _ rfl _))))
    refine wpQuiet_nil ?_
    intro w' Hp
    have hB:Below wr.heap.size wr w':=by obtain⟨p,rfl⟩:=Hp;exact below_regrown _ _ _
    clear Hp
    go_wp2
    go_roundw
    case rel=>exact⟨1,by omega,by go_num,zA2 (zA0 Jg) hB⟩
    case measure=>simp[intOf];omega
   ·obtain⟨j,hj⟩:∃j,k=j+1:=⟨k-1,by omega⟩
    obtain⟨x,hx⟩:∃x,W[j]?=some x:=⟨_,zAf (by rw[zA0 ZS];omega)⟩
    obtain⟨y,hy⟩:∃y,W[k]?=some y:=⟨_,zAf (by rw[zA0 ZS];omega)⟩
    have YV:=zA3 (zEp (zA0 HS) hx (by rw[<-hj];exact hy))
    obtain⟨vb,vo,rfl,c0,c1,c2⟩:=((zA0 Qf).later QJ).lo hx
    obtain⟨vb',vo',e,d0,d1,d2⟩:=((zA0 Qf).later QJ).lo hy
    injection e with e
    injection e with e1 e2
    subst e1;subst e2
    have k0:=cell_regrown c0
    have k1:=cell_regrown c1
    have k2:=cell_regrown c2
    have k3:=cell_regrown d0
    have k4:=cell_regrown d1
    have k5:=cell_regrown d2
    have ej:(k:Int)-1=(j:Int):=by omega
    have g0:((k:Int) == 0)=false:=by simpa using Gk
    have qy:(j:Int)<(m:Int):=by omega
    have HO:=zA3 (zEJ x y)
    generalize zAh x y=O at YV HO
    have GL:Hid (decide (O<0)=true):=decide_eq_true (zA0 YV)
    clear c0 c1 c2 d0 d1 d2 QJ hx hy hj Gk
    go_wp2_with fail
    refine wp_region_quiet_below (by kernel_rfl) (by kernel_rfl) ?_
    repeat (go_big_quiet_step (first
     | (go_at_call 104;exact Calls.regrown_of (zA0 HO _))
     | (go_at_call 150;exact Calls.regrown_of (zCo _ (zA0 GL) _))))
    refine wpQuiet_nil ?_
    intro w' Hp
    have hB:Below wr.heap.size wr w':=by obtain⟨p,rfl⟩:=Hp;exact below_regrown _ _ _
    clear Hp
    go_wp2
    go_roundw
    case rel=>exact⟨k+1,by omega,by go_num,zA2 (zA0 Jg) hB⟩
    case measure=>simp[intOf];omega
  ·have h9:¬(k:Int)<(m:Int):=by omega
   have Qt:=Hu.below QJ
   have Gc:=(zA0 QN).later QJ
   have Yj:=(zA0 Qf).later QJ
   have ZH:=Jb.trans (Gr.of_below QJ b)
   have TC:=QJ.size
   clear QJ Qf QN Hu Jb
   replace Yj:=zA3 Yj
   have Jf:=zA3 Gc
   have qe:=zA3 Qt
   have qh:=zA3 ZH
   have Jc:Hid (∀ad,wa=some ad->ad.block<wr.heap.size/\b<ad.block):=fun ad Qo=>by
    obtain⟨g,o,rfl⟩:=qp ad Qo
    subst Qo
    have:=World.ownsRow.lt (zA0 Jf) g rfl
    exact⟨this.2,Nat.lt_of_lt_of_le Qn (Nat.le_trans Qp this.1)⟩
   clear Gc Qt ZH
   go_wp2_with (first
    | (go_at_call 146;refine(zA0 Dl _).mono ?_;rintro e w3 ⟨rfl,rfl⟩)
    | (go_at_call 162;refine(zA0 HB _ (zA0 qe)).mono ?_;rintro e w4 ⟨A,B,C,rfl,Qe,hA,hB,hC,Gy,Yh⟩)
    | (at_make;first | (refine wpList_make_row _ rfl (.tmp 49) (.tmp 49) 45 rfl 4 i6 (.bool false) Tryz.underlying45 YL z60 z61 rfl .i64 .i64 m rfl rfl (by rw[z62];omega) (by omega) ?_) | (refine zB5 _ rfl (.tmp 51) (.tmp 51) 37 rfl 59 i4 _ Tryz.underlying37 Qd z40 3 z41 .i64 .i64 count rfl rfl (by rw[z42];omega) (by omega) ?_)))
   have hz4:=Yh.size
   obtain⟨hA4,hB4,hC4⟩:=Qe.lt
   have Dc:=(zA0 qh).trans Yh
   have Zv:=(zA0 Yj).grx Yh (fun ad Qo=>by have:=zA0 Jc ad Qo;omega)
   have KI:Hid (∀ad,wa=some ad->ad.block<w4.heap.size/\ad.block≠A/\ad.block≠B/\ad.block≠C):=fun ad Qo=>by have:=zA0 Jc ad Qo;omega
   have HU:Hid (((w4.alloc (.cells (madeCells #[.bool false] m) 4)).alloc (.cells (madeCells #[.int .i64 0,.int .i64 0,.string ⟨#[]⟩] (count*3)) 59)).rowIs w4.heap.size 4 m (fun j=>.bool (zGI [] j))):=
    ((World.rowIs_made w4 (.bool false) m 4).congr fun j hj=>by simp[zGI]).alloc _
   have HF:Hid (∀ys,zEh ((w4.alloc (.cells (madeCells #[.bool false] m) 4)).alloc (.cells (madeCells #[.int .i64 0,.int .i64 0,.string ⟨#[]⟩] (count*3)) 59)) (w4.heap.size+1) count 0 ys):=fun ys=>by
    have:=zEh.start (w4.alloc (.cells (madeCells #[.bool false] m) 4)) count ys
    simpa using this
   generalize hks:zAm t d count=ks at *
   have HKS:=zA3 hks
   have Yt:Hid (ks.length=count):=by rw[<-hks];exact zDt _ _ _
   have HKA:Hid (∀k,k<count->ks[k]?=some (zBt (leV t) d k)):=fun k hk=>by rw[<-hks];exact zKv hk
   have hwz:w.heap.size<=w4.heap.size:=by omega
   have hBw:w.heap.size<=B:=by omega
   clear hks Jc Yj qh qe Jf hA hB hC Qp QC TC Yh
   go_loopw[55] (fun i wr=>∃k:Nat,k<=count/\i=.int .i64 (k:Int)/\Hid (∀j∈ks.take k,j<m)/\zEh wr (w4.heap.size+1) count k (ks.map fun k=>W.getD k .null)/\wr.rowIs w4.heap.size 4 m (fun j=>.bool (zGI (ks.take k) j))/\zGH wr A B C d (d*k) t/\Rd wr b r/\zAR wr wa W/\Gr w wr b) (fun i _=>count-(intOf i).toNat)
   case atStart=>exact⟨0,Nat.zero_le _,rfl,(fun j hj=>by simp at hj:∀j∈ks.take 0,j<m),zA0 HF _,zA0 HU,(Qe.alloc _).alloc _,(Gy.alloc _).alloc _,(Zv.later (zA1 (Below.refl _ _) _)).later (zA1 (Below.refl _ _) _),Dc.trans ((Gr.alloc _ _ _).trans (Gr.alloc _ _ _))⟩
   case round=>
    obtain⟨k,hkc,rfl,HLES,hf,hu,Jl,Zd,Yp,Hy⟩:=hrel
    by_cases He:k<count
    ·have h9:(k:Int)<(count:Int):=by omega
     have Hm:=zA0 HKA k He
     have HC:=zA3 (zGP Jl Zm He hc (zA0 YR))
     by_cases yu:zBt (leV t) d k<m
     case neg=>
      have HGB:Hid (∀w5,Gr wr w5 B->Gr w w5 b):=fun w5 QI=>Hy.fresh QI (by omega)
      generalize zBt (leV t) d k=x at Hm yu HC
      have JQ:¬(x:Int)<(m:Int):=by omega
      clear Hm hf hu Jl Zd Yp Hy
      go_wp2_with (first
       | (go_at_call 178;refine(zA0 HC).mono ?_;rintro e w5 ⟨rfl,QO,QI⟩;clear QO)
       | (go_at_call 150;refine(zBu _).mono ?_;rintro e w6 ⟨rfl,rfl⟩))
      exact⟨rfl,rfl,zA0 HGB _ QI⟩
     have Dn:Hid (ks.take (k+1)=ks.take k++[zBt (leV t) d k]):=by
      obtain⟨g1,g2⟩:=zAL Hm
      show _=_
      rw[List.take_succ_eq_append_getElem g1,g2]
     obtain⟨y,hy⟩:∃y,W[zBt (leV t) d k]?=some y:=⟨_,zAf (by rw[zA0 ZS];exact yu)⟩
     have HY:Hid ((ks.map fun k=>W.getD k .null)[k]?=some y):=by
      show _=_
      rw[List.getElem?_map,Hm]
      simp[List.getD_eq_getElem?_getD,hy]
     obtain⟨vb,vo,rfl,_,_,_⟩:=Yp.lo hy
     have hvb:=zA0 KI _ rfl
     simp only at hvb
     have QG:Hid (∀w5,Gr wr w5 B->zEh w5 (w4.heap.size+1) count k (ks.map fun k=>W.getD k .null)/\w5.rowIs w4.heap.size 4 m (fun j=>.bool (zGI (ks.take k) j))/\Rd w5 b r/\zAR w5 (some ⟨vb,vo,none⟩) W/\Gr w w5 b):=fun w5 QI=>
      ⟨hf.grx QI (by omega),zC8 hu QI (by omega),Zd.grx QI (by omega),Yp.grx QI (fun ad Qo=>by injection Qo with Qo;subst Qo;simp only;omega),Hy.fresh QI (by omega)⟩
     have YB:=zA3 (fun w5 (h5:zAR w5 (some ⟨vb,vo,none⟩) W)=>h5.lo hy)
     have HLE2:Hid (Hid (∀j∈ks.take (k+1),j<m)):=by
      show ∀j∈ks.take (k+1),j<m
      rw[zA0 Dn]
      intro j hj
      rcases List.mem_append.1 hj with hj|hj
      ·exact zA0 HLES j hj
      ·rw[List.mem_singleton] at hj;rw[hj];exact yu
     generalize zBt (leV t) d k=x at Hm yu HC Dn hy YB
     have JQ:(x:Int)<(m:Int):=by omega
     have HUS:Hid (∀j,zGI (ks.take (k+1)) j=if j=x then true else zGI (ks.take k) j):=fun j=>by
      unfold zGI
      rw[zA0 Dn]
      by_cases hj:j=x<;>simp[hj]
     have qO:Hid (∀w5,zEh w5 (w4.heap.size+1) count k (ks.map fun k=>W.getD k .null)->w5.rowIs w4.heap.size 4 m (fun j=>.bool (zGI (ks.take k) j))->Rd w5 b r->zAR w5 (some ⟨vb,vo,none⟩) W->Gr w w5 b->zGH w5 A B C d (d*(k+1)) t->zEh (w5.setCell ⟨w4.heap.size,x,none⟩ (.bool true)) (w4.heap.size+1) count k (ks.map fun k=>W.getD k .null)/\(w5.setCell ⟨w4.heap.size,x,none⟩ (.bool true)).rowIs w4.heap.size 4 m (fun j=>.bool (zGI (ks.take (k+1)) j))/\Rd (w5.setCell ⟨w4.heap.size,x,none⟩ (.bool true)) b r/\zAR (w5.setCell ⟨w4.heap.size,x,none⟩ (.bool true)) (some ⟨vb,vo,none⟩) W/\Gr w (w5.setCell ⟨w4.heap.size,x,none⟩ (.bool true)) b/\zGH (w5.setCell ⟨w4.heap.size,x,none⟩ (.bool true)) A B C d (d*(k+1)) t):=
      fun w5 a1 a2 a3 a4 a5 a6=>⟨a1.grx (zAY _ _ _ _) (by omega),(a2.set x (.bool true)).congr fun j hj=>by rw[zA0 HUS j];by_cases e:j=x<;>simp[e],a3.grx (zAY _ _ _ _) (by omega),a4.grx (zAY _ _ _ _) (fun ad Qo=>by injection Qo with Qo;subst Qo;simp only;omega),a5.fresh (zAY _ _ _ _) (by omega),a6.set _ (by omega) (by omega) (by omega)⟩
     clear Hm hf hu Jl Zd Yp Hy
     go_wp2_with (first
      | (go_at_call 178;refine(zA0 HC).mono ?_;rintro e w5 ⟨rfl,QO,QI⟩;obtain⟨Jk,TE,YS,DI,qI⟩:=zA0 QG w5 QI;have cu:=TE.cell yu;have fu:=TE.frozen x;obtain⟨TS,Fr,qX,qW,Kf,GP⟩:=zA0 qO w5 Jk TE YS DI qI QO;obtain⟨p0,p1,p2,q0,q1,q2⟩:=TS.cells He;obtain⟨_,_,ea,c0,c1,c2⟩:=zA0 YB _ qW;injection ea with ea;injection ea with ea1 ea2;subst ea1;subst ea2;replace TS:=zA3 TS;replace Fr:=zA3 Fr;replace qX:=zA3 qX;replace qW:=zA3 qW;replace Kf:=zA3 Kf;replace GP:=zA3 GP;clear Jk TE YS DI qI QO)
      | (go_at_call 150;refine(zAj _).mono ?_;rintro e w6 ⟨rfl,rfl⟩))
     go_roundw
     case rel=>exact⟨k+1,by omega,by go_num,zA0 HLE2,(zA0 TS).put (y:=y) (zA0 HY),(((zA0 Fr).setOther (by simp) _).setOther (by simp) _).setOther (by simp) _,(zA0 GP).put3 (by omega) (by omega) (by omega) _ _ _ _ _ _,(zA0 qX).put3 (by omega) _ _ _ _ _ _,(((zA0 qW).grx (zAY _ _ _ _) (by intro ad Qo;injection Qo with Qo;subst Qo;simp only;omega)).grx (zAY _ _ _ _) (by intro ad Qo;injection Qo with Qo;subst Qo;simp only;omega)).grx (zAY _ _ _ _) (by intro ad Qo;injection Qo with Qo;subst Qo;simp only;omega),(zA0 Kf).put3 (by omega) _ _ _ _ _ _⟩
     case measure=>simp[intOf];omega
    ·have h9:¬(k:Int)<(count:Int):=by omega
     have ek:k=count:=by omega
     subst ek
     have etk:ks.take k=ks:=List.take_of_length_le (by rw[zA0 Yt];omega)
     rw[etk] at hu
     have qQ:=zA3 (zFT w4.heap.size m (zGI ks) wr (by omega) hu)
     have eall:(List.range m).all (zGI ks)=false:=by
      rw[List.all_eq_false]
      have Ql:=zA0 H1 (by have:=zA0 HLES;rw[etk] at this;exact this)
      refine Classical.byContradiction fun yI=>Ql fun j hj=>?_
      refine Classical.byContradiction fun GA=>yI ⟨j,List.mem_range.2 hj,?_⟩
      unfold zGI
      simpa using GA
     rw[eall] at qQ
     have HG:=zA3 Hy
     clear hf hu Jl Zd Yp Hy etk eall
     go_wp2_with (first
      | (go_at_call 181;refine(zA0 qQ).mono ?_;rintro e w6 ⟨rfl,rfl⟩)
      | (go_at_call 150;refine(zBu _).mono ?_;rintro e w7 ⟨rfl,rfl⟩))
     exact⟨rfl,rfl,zA0 HG⟩
theorem zQd{b count:Nat}{kind:Int}{l:List UInt8}{w:World}(hc:count<=4096)(hk:kind=1∨kind=2)(h:Rd w b l)(hl:l.length<=140737488355328)(hd:zF7 kind count l=none) :
  Calls Tryz.prog 165 #[.pointer (some ⟨b,0,none⟩),.int .i64 kind,.int .i64 count] w fun e w'=>e=dmg/\Gr w w' b:=by
 unfold zF7 at hd
 cases hm:zBB 2 l with
 | none=>exact zNp h hl hm
 | some p=>
  obtain⟨m,l1⟩:=p
  rw[hm,Option.bind_some] at hd
  cases hW:zAq kind m l1 with
  | none=>exact zNo hk h hl hm hW
  | some q=>
   obtain⟨W,l2⟩:=q
   simp only[hW,Option.bind_some] at hd
   cases hs:zBM W with
   | false=>exact zNn hk h hl hm hW hs
   | true=>
    simp only[hs,if_true] at hd
    cases hb:zCA count (bl (m-1)) l2 with
    | none=>exact zNm hc hk h hl hm hW hs hb
    | some q=>
     obtain⟨t,r⟩:=q
     simp only[hb,Option.bind_some] at hd
     split at hd
     ·cases hd
     ·rename_i hn
      exact zNq hc hk h hl hm hW hs hb fun g1 g2=>hn ⟨g1,g2⟩
set_option maxHeartbeats 400000
abbrev S6b (w:World) (vb vo j g:Nat) (x y:Val):Prop:=
 w.cell? ⟨vb,vo+j*3,none⟩=some (.int .i64 y.k)/\w.cell? ⟨vb,vo+j*3+1,none⟩=some (.int .i64 y.n)/\w.cell? ⟨vb,vo+j*3+2,none⟩=some (.string y.s)/\w.cell? ⟨g,0,none⟩=some (.int .i64 x.k)/\w.cell? ⟨g,1,none⟩=some (.int .i64 x.n)/\w.cell? ⟨g,2,none⟩=some (.string x.s)
theorem zQz{y x:Val}(h:zB1 y x=true):(y.k == x.k)=true/\(y.n == x.n)=true/\(y.s.toList == x.s.toList)=true:=by
 unfold zB1 at h
 cases h1:(y.k == x.k)<;>cases h2:(y.n == x.n)<;>cases h3:(y.s.toList == x.s.toList)<;>simp_all
theorem zR1{b count:Nat}{kind:Int}{l:List UInt8}{w:World}(h:Rd w b l)(hl:l.length<=140737488355328)(hm:zBB 4 l=none) :
  Calls Tryz.prog 164 #[.pointer (some ⟨b,0,none⟩),.int .i64 kind,.int .i64 count] w fun e w'=>e=dmg/\Gr w w' b:=by
 have HM:=zA3 (zDC h hl hm)
 clear h
 go_enter Tryz.func164,Tryz.ntmps164
 go_wp2_with (go_at_call 149;refine(zA0 HM).mono ?_;rintro e w1 ⟨rfl,rfl⟩)
 exact⟨rfl,rfl,Gr.refl _ _⟩
theorem zR2{b count m:Nat}{kind:Int}{l l1:List UInt8}{w:World}(hc:count<=4096)(hk:kind=1∨kind=2)(h:Rd w b l)(hl:l.length<=140737488355328)
  (hm:zBB 4 l=some (m,l1)) (hv:∀vs r,zCK kind count m l1=some (vs,r)->vs.length≠count) :
  Calls Tryz.prog 164 #[.pointer (some ⟨b,0,none⟩),.int .i64 kind,.int .i64 count] w fun e w'=>e=dmg/\Gr w w' b:=by
 have TM:m<4294967296:=by
  obtain⟨g1,rfl,rfl⟩:=zBD hm
  have:=zBn (l.take 4)
  have h2:(l.take 4).length=4:=by rw[List.length_take];omega
  rw[h2] at this;simpa using this
 have YK:=zAo hm
 have HN:=zA3 (zAT h hl hm (by decide))
 have Qn:=h.ne
 have HV:=zA3 hv
 clear h hv
 go_enter Tryz.func164,Tryz.ntmps164
 go_wp2_with (go_at_call 149;refine(zA0 HN).mono ?_;rintro e w1 ⟨rfl,Hq,Hn⟩)
 go_loopw[7,12] (fun v i wr=>∃(k:Nat) (us:List Val) (rk:List UInt8),k<=m/\i=.int .u64 (k:Int)/\Hid (zCK kind count k l1=some (us,rk))/\zAV wr w.heap.size v us/\Rd wr b rk/\Gr w wr b) (fun _ i _=>m-(intOf i).toNat)
 case atStart=>exact⟨0,[],l1,Nat.zero_le _,rfl,rfl,⟨rfl,.inl ⟨rfl,rfl⟩⟩,Hq,Hn⟩
 case round=>
  obtain⟨k,us,rk,TO,rfl,HK,ho,hr,hg⟩:=hrel
  obtain⟨qq,Yn⟩:=zIH (zA0 HK)
  by_cases He:k<m
  ·have h9:(k:Int)<(m:Int):=by omega
   have HG0:=zA3 hg
   cases Ye:zBB 4 rk with
   | none=>
    have HC:=zA3 (zDC hr (by omega) Ye)
    clear Ye ho hr hg qq
    go_wp2_with (go_at_call 149;refine(zA0 HC).mono ?_;rintro e w2 ⟨rfl,rfl⟩)
    exact⟨rfl,rfl,zA0 HG0⟩
   | some p=>
   obtain⟨c,q1⟩:=p
   have hq1:=zAo Ye
   have hc9:=zTL Ye
   have HC:=zA3 (zAT hr (by omega) Ye (by decide))
   cases Zw:zBh kind q1 with
   | none=>
    have Za:=zA3 (fun W (hW:Rd W b q1)=>zLd hk hW (by omega) Zw)
    clear Ye Zw ho hr hg qq
    go_wp2_with (first
     | (go_at_call 149;refine(zA0 HC).mono ?_;rintro e w2 ⟨rfl,Hu,Hj⟩)
     | (go_at_call 179;refine(zA0 Za _ Hu).mono ?_;rintro e w3 ⟨rfl,Qw⟩))
    exact⟨rfl,rfl,(zA0 HG0).trans (Hj.trans Qw)⟩
   | some q=>
   obtain⟨x,r3⟩:=q
   have Za:=zA3 (fun W (hW:Rd W b q1)=>zGq hk hW (by omega) Zw)
   obtain⟨ua,uc,rfl,yy,yx,Qr⟩:=zAC ho
   obtain⟨U,hU⟩:∃U,U=us.length:=⟨_,rfl⟩
   rw[<-hU]
   have DY:IntKind.u64.wrap ((count:Int)-(U:Int))=(count:Int)-(U:Int):=by rw[IntKind.wrap_u64];omega
   by_cases Fd:0<c
   case neg=>
    have To:¬(0:Int)<(c:Int):=by omega
    have ec:c=0:=by omega
    subst ec
    clear Ye Zw ho hr hg Qr hU qq
    go_wp2_with (first
     | (go_at_call 149;refine(zA0 HC).mono ?_;rintro e w2 ⟨rfl,Hu,Hj⟩)
     | (go_at_call 179;refine(zA0 Za _ Hu).mono ?_;rintro e w3 ⟨rfl,Qt,Qw⟩;rw[Val.open_])
     | (go_at_call 150;refine(zDF _ (by simp) _).mono ?_;rintro e w4 ⟨rfl,rfl⟩))
    exact⟨rfl,rfl,(zA0 HG0).trans ((Hj.trans Qw).trans (Gr.alloc _ _ _))⟩
   have To:(0:Int)<(c:Int):=by omega
   by_cases Qj:c<=count-us.length
   case neg=>
    have hcu:¬(c:Int)<=(count:Int)-(U:Int):=by omega
    have hU9:U<=count:=by omega
    have HCU:Hid (decide ((c:Int)<=(count:Int)-(U:Int))=false):=decide_eq_false hcu
    clear hcu
    clear Ye Zw ho hr hg Qr hU qq
    go_wp2_with (first
     | (go_at_call 149;refine(zA0 HC).mono ?_;rintro e w2 ⟨rfl,Hu,Hj⟩)
     | (go_at_call 179;refine(zA0 Za _ Hu).mono ?_;rintro e w3 ⟨rfl,Qt,Qw⟩;rw[Val.open_])
     | (go_at_call 150;refine(zDF _ (zA0 HCU) _).mono ?_;rintro e w4 ⟨rfl,rfl⟩))
    exact⟨rfl,rfl,(zA0 HG0).trans ((Hj.trans Qw).trans (Gr.alloc _ _ _))⟩
   have hcu:(c:Int)<=(count:Int)-(U:Int):=by omega
   have hU2:U+c<=count:=by omega
   have HU:=zA3 hU
   have QG:Hid (∀w3,Gr wr w3 b->zAV w3 w.heap.size (.slice ua us.length uc) us/\Gr w w3 b):=fun w3 Qw=>⟨ho.gr Qw Qn,hg.trans Qw⟩
   have hz:=hg.size
   have yU:Hid ((∀y,us.getLast?=some y->zB1 y x=false)->zCK kind count (k+1) l1=some (us++List.replicate c x,r3)):=fun qx=>by
    rw[zCK,zA0 HK,Option.bind_some]
    unfold zOb
    simp only[Ye,Option.bind_some,Zw]
    rw[if_pos ⟨Fd,Qj,qx⟩]
   clear Ye Zw ho hr hg Qr hU qq
   go_upto_region 7 with (first
    | (go_at_call 149;refine(zA0 HC).mono ?_;rintro e w2 ⟨rfl,Hu,Hj⟩)
    | (go_at_call 179;refine(zA0 Za _ Hu).mono ?_;rintro e w3 ⟨rfl,Qt,Qw⟩;rw[Val.open_])
    | (go_at_call 150;refine(zAj _).mono ?_;rintro e w4 ⟨rfl,rfl⟩))
   obtain⟨W,hW⟩:∃W,Hid (W=w3.alloc (.cells #[.int .i64 x.k,.int .i64 x.n,.string x.s] 59)):=⟨_,rfl⟩
   have GB:W.rowIs w3.heap.size 59 3 (zDU x):=by rw[zA0 hW];exact zAs w3 x
   obtain⟨b0,b1,b2,_,_,_⟩:=zA9 GB
   obtain⟨Gc,ZH⟩:=zA0 QG w3 (Hj.trans Qw)
   have hOW:zAV W w.heap.size (.slice ua us.length uc) us:=by rw[zA0 hW];exact Gc.later (zA1 (Below.refl _ _) _)
   have Ka:Rd W b r3:=by rw[zA0 hW];exact Qt.alloc _
   have Ke:Gr w W b:=by rw[zA0 hW];exact ZH.trans (Gr.alloc _ _ _)
   have hzW:w.heap.size<=W.heap.size:=Ke.size
   rw[<-zA0 hW]
   have yl:=zA3 hOW
   have YY:=zA3 Ka
   have Dv:=zA3 Ke
   have JN:=zA3 GB
   clear hW Gc ZH GB hOW Ka Ke Hu Hj Qt Qw QG
   by_cases hsam:∃y,us.getLast?=some y/\zB1 y x=true
   case pos=>
    obtain⟨y,Yd,hyx⟩:=hsam
    obtain⟨g1,g2,g3⟩:=zQz hyx
    have Tq:U≠0:=fun e=>by
     have:us=[]:=List.eq_nil_of_length_eq_zero (by rw[<-zA0 HU];exact e)
     rw[this] at Yd;cases Yd
    obtain⟨j,hj⟩:∃j,U=j+1:=⟨U-1,by omega⟩
    have hy:us[j]?=some y:=by
     rw[List.getLast?_eq_getElem?,<-zA0 HU,hj] at Yd;exact Yd
    obtain⟨_,_,e,_,_,Qr⟩:=zAC (zA0 yl)
    injection e with e1 e2 e3
    subst e1
    subst e3
    obtain⟨vb,vo,rfl,c0,c1,c2⟩:=Qr.lo hy
    have ej:(U:Int)-1=(j:Int):=by omega
    have g0:((U:Int) == 0)=false:=by simpa using Tq
    have qy:(j:Int)<(U:Int):=by omega
    have S0:S6b W.drew vb vo j w3.heap.size x y:=⟨c0,c1,c2,b0,b1,b2⟩
    have hwj:IntKind.i64.wrap (j:Int)=(j:Int):=by rw[IntKind.wrap_i64];omega
    have hwj2:wrap64 (j:Int)=(j:Int):=by unfold wrap64;omega
    clear hy hj Tq Yd Qr hyx c0 c1 c2 b0 b1 b2
    refine Code.wp_mono (zUY.to (G:=fun w'=>Below W.heap.size W w') fun a9 w9 h0 Ho=>?_) ?_
    ·have hG9:=(zA0 Dv).trans (Gr.of_below Ho b)
     exact⟨h0,rfl,hG9⟩
    refine zAu (S:=fun w':World=>S6b w' vb vo j w3.heap.size x y) (k:=13) (by kernel_rfl) ?_
    refine zA6 (i:=0) (v:=(.slice (some ⟨vb,vo,none⟩) U uc)) [1,2,3,12,13] rfl (fun _ _ _ h=>h) (Or.inl ⟨by rfl,fun w' hSw=>?_⟩) S0 ?_
    ·dsimp only at hSw;obtain⟨q0,q1,q2,q3,q4,q5⟩:=hSw;go_simp
    try simp only[Act.put,zAI,zAH,zAG]
    refine zA6 (i:=1) (v:=(.int .i64 (U:Int))) [2,3,12,13] rfl (fun _ _ _ h=>h) (Or.inl ⟨by rfl,fun w' hSw=>?_⟩) S0 ?_
    ·dsimp only at hSw;obtain⟨q0,q1,q2,q3,q4,q5⟩:=hSw;go_simp
    try simp only[Act.put,zAI,zAH,zAG]
    refine zA6 (i:=2) (v:=(.bool false)) [3,12,13] rfl (fun _ _ _ h=>h) (Or.inl ⟨by rfl,fun w' hSw=>?_⟩) S0 ?_
    ·dsimp only at hSw;obtain⟨q0,q1,q2,q3,q4,q5⟩:=hSw;go_simp
    try simp only[Act.put,zAI,zAH,zAG]
    refine zA6 (i:=3) (v:=(.bool false)) [12,13] rfl (fun _ _ _ h=>h) (Or.inl ⟨by rfl,fun w' hSw=>?_⟩) S0 ?_
    ·dsimp only at hSw;obtain⟨q0,q1,q2,q3,q4,q5⟩:=hSw;go_simp
    try simp only[Act.put,zAI,zAH,zAG]
    refine zA6 (i:=4) (v:=(.slice (some ⟨vb,vo,none⟩) U uc)) [8,9,11,12,13] rfl (fun _ _ _ h=>h) (Or.inl ⟨by rfl,fun w' hSw=>?_⟩) S0 ?_
    ·dsimp only at hSw;obtain⟨q0,q1,q2,q3,q4,q5⟩:=hSw;go_simp
    try simp only[Act.put,zAI,zAH,zAG]
    refine zA6 (i:=5) (v:=(.slice (some ⟨vb,vo,none⟩) U uc)) [6,7,8,9,11,12,13] rfl (fun _ _ _ h=>h) (Or.inl ⟨by rfl,fun w' hSw=>?_⟩) S0 ?_
    ·dsimp only at hSw;obtain⟨q0,q1,q2,q3,q4,q5⟩:=hSw;go_simp
    try simp only[Act.put,zAI,zAH,zAG]
    refine zA6 (i:=6) (v:=(.int .i64 (U:Int))) [7,8,9,11,12,13] rfl (fun _ _ _ h=>h) (Or.inl ⟨by rfl,fun w' hSw=>?_⟩) S0 ?_
    ·dsimp only at hSw;obtain⟨q0,q1,q2,q3,q4,q5⟩:=hSw;go_simp
    try simp only[Act.put,zAI,zAH,zAG]
    refine zA6 (i:=7) (v:=(.int .i64 (j:Int))) [8,9,11,12,13] rfl (fun _ _ _ h=>h) (Or.inl ⟨by rfl,fun w' hSw=>?_⟩) S0 ?_
    ·dsimp only at hSw;obtain⟨q0,q1,q2,q3,q4,q5⟩:=hSw;go_simp
    try simp only[Act.put,zAI,zAH,zAG]
    refine zA6 (i:=8) (v:=(.pointer (some ⟨vb,vo+j*3,none⟩))) [9,11,12,13] rfl (fun _ _ _ h=>h) (Or.inl ⟨by rfl,fun w' hSw=>?_⟩) S0 ?_
    ·dsimp only at hSw;obtain⟨q0,q1,q2,q3,q4,q5⟩:=hSw;go_simp
    try simp only[Act.put,zAI,zAH,zAG]
    refine zA6 (i:=9) (v:=(.agg #[.int .i64 y.k,.int .i64 y.n,.string y.s])) [11,12,13] rfl (fun _ _ _ h=>h) (Or.inl ⟨by rfl,fun w' hSw=>?_⟩) S0 ?_
    ·dsimp only at hSw;obtain⟨q0,q1,q2,q3,q4,q5⟩:=hSw;go_simp
    try simp only[Act.put,zAI,zAH,zAG]
    refine zA6 (i:=10) (v:=(.agg #[.int .i64 x.k,.int .i64 x.n,.string x.s])) [11,12,13] rfl (fun _ _ _ h=>h) (Or.inl ⟨by rfl,fun w' hSw=>?_⟩) S0 ?_
    ·dsimp only at hSw;obtain⟨q0,q1,q2,q3,q4,q5⟩:=hSw;go_simp
    try simp only[Act.put,zAI,zAH,zAG]
    refine zA6 (i:=11) (v:=(.bool false)) [12,13] rfl (fun _ _ _ h=>h) (Or.inl ⟨by rfl,fun w' hSw=>?_⟩) S0 ?_
    ·dsimp only at hSw;obtain⟨q0,q1,q2,q3,q4,q5⟩:=hSw;go_simp
    try simp only[Act.put,zAI,zAH,zAG]
    refine zA6 (i:=12) (v:=(.bool false)) [13] rfl (fun _ _ _ h=>h) (Or.inl ⟨by rfl,fun w' hSw=>?_⟩) S0 ?_
    ·dsimp only at hSw;obtain⟨q0,q1,q2,q3,q4,q5⟩:=hSw;go_simp
    try simp only[Act.put,zAI,zAH,zAG]
    clear S0
    refine zA7 (i:=13) (by kernel_rfl) ?_
    refine zA4 rfl (by rfl) fun K hK=>?_
    go_simp
    refine(zBu _).mono ?_
    rintro e w4 ⟨rfl,rfl⟩
    exact⟨rfl,rfl,(Below.refl _ _).drew⟩
   have ZL:Hid (∀y,us.getLast?=some y->zB1 y x=false):=fun y hy=>by
    cases hq:zB1 y x with
    | false=>rfl
    | true=>exact absurd ⟨y,hy,hq⟩ hsam
   clear hsam
   go_cut[44] (fun _ wx=>Below W.heap.size W wx)
   case first=>
    by_cases Tq:U=0
    ·subst Tq
     refine wp_region_quiet_below (by kernel_rfl) (by kernel_rfl) ?_
     repeat (go_big_quiet_step (first
      | (go_at_call 150;exact Calls.regrown_of (zCo _ rfl _))))
     refine wpQuiet_nil ?_
     intro w' Hp
     have hB:Below W.heap.size W w':=by obtain⟨p,rfl⟩:=Hp;exact below_regrown _ _ _
     clear Hp
     go_wp2
     go_meet
     exact hB
    ·obtain⟨j,hj⟩:∃j,U=j+1:=⟨U-1,by omega⟩
     obtain⟨y,hy⟩:∃y,us[j]?=some y:=⟨_,zAf (by rw[<-zA0 HU];omega)⟩
     have Yd:us.getLast?=some y:=by
      rw[List.getLast?_eq_getElem?,<-zA0 HU,hj];exact hy
     have yI:=zOX (zA0 ZL y Yd)
     obtain⟨_,_,e,_,_,Qr⟩:=zAC (zA0 yl)
     injection e with e1 e2 e3
     subst e1
     subst e3
     obtain⟨vb,vo,rfl,c0,c1,c2⟩:=Qr.lo hy
     have k0:=cell_regrown c0
     have k1:=cell_regrown c1
     have k2:=cell_regrown c2
     have k3:=cell_regrown b0
     have k4:=cell_regrown b1
     have k5:=cell_regrown b2
     have ej:(U:Int)-1=(j:Int):=by omega
     have g0:((U:Int) == 0)=false:=by simpa using Tq
     have qy:(j:Int)<(U:Int):=by omega
     clear c0 c1 c2 b0 b1 b2 hy hj Tq Yd Qr
     rcases yI with e1|⟨e1,e2⟩|⟨e1,e2,e3⟩
     all_goals
      refine wp_region_quiet_below (by kernel_rfl) (by kernel_rfl) ?_
      repeat (go_big_quiet_step (first
       | (go_at_call 150;exact Calls.regrown_of (zCo _ rfl _))))
      refine wpQuiet_nil ?_
      intro w' Hp
      have hB:Below W.heap.size W w':=by obtain⟨p,rfl⟩:=Hp;exact below_regrown _ _ _
      clear Hp
      go_wp2
      go_meet
      exact hB
   case rest=>
    rename World=>wx
    have Hs:Below W.heap.size W wx:=hcut
    have yk:=zA3 ((zA0 yl).later Hs)
    have Do:=zA3 ((zA0 YY).below Hs)
    have Ty:=zA3 ((zA0 Dv).trans (Gr.of_below Hs b))
    obtain⟨x0,x1,x2,_,_,_⟩:=zA9 (zA5 (zA0 JN) Hs)
    have hzx:=Hs.size
    have Kx:=zA3 (zHd wx.heap.size c x (wx.alloc (.cells #[.int .i64 x.k,.int .i64 x.n,.string x.s] 59)) (by omega) (by omega) (zAs wx x))
    have hc4:(c:Int)<=4096:=by omega
    clear hcut Hs yl YY Dv JN b0 b1 b2
    go_wp2_with (first
     | (go_at_call 180;refine(zA0 Kx).mono ?_;rintro e w5 ⟨v5,rfl,ZP,QO⟩;have Dq:Hid (zAV w5 w.heap.size (.slice ua U uc) us):=by(have:=(zA0 yk).later (zAP QO);rw[<-zA0 HU] at this;exact this))
     | (at_builtin;refine zDN rfl (.tmp 45) (.tmp 50) rfl w.heap.size _ (.slice ua U uc) v5 us (List.replicate c x) rfl rfl (zA0 Dq) ZP (by rw[List.length_replicate,<-zA0 HU];omega) (by have:=(zAP QO).size;omega) ?_;intro v6 w6 ho6 hg6))
    have YS:=(zA0 Do).below (zAP QO)
    have QI:=(zA0 Ty).trans (Gr.of_below (zAP QO) b)
    exact⟨⟨k+1,us++List.replicate c x,r3,by omega,by go_num,zA0 yU (zA0 ZL),ho6,YS.own (zA0 Dq) Qn hg6,QI.own (zA0 Dq) hg6⟩,by simp[intOf];omega⟩
  ·have h9:¬(k:Int)<(m:Int):=by omega
   have ek:k=m:=by omega
   subst ek
   have Hg:=zA0 HV us rk (zA0 HK)
   obtain⟨ua,uc,rfl,yy,yx,Qr⟩:=zAC ho
   have HG:=zA3 hg
   have hti:((us.length:Int) == (count:Int))=false:=by
    rw[beq_eq_false_iff_ne];intro e;exact Hg (by omega)
   clear ho hr hg Qr yy yx
   go_wp2_with (go_at_call 150;refine(zBu _).mono ?_;rintro e w4 ⟨rfl,rfl⟩)
   exact⟨rfl,rfl,zA0 HG⟩
theorem zT7{b count:Nat}{kind:Int}{l:List UInt8}{w:World}(hc:count<=4096)(hk:kind=1∨kind=2)(h:Rd w b l)(hl:l.length<=140737488355328)
  (hd:((zBB 4 l).bind fun p=>(zCK kind count p.1 p.2).bind fun q=>if q.1.length=count then some q else none)=none) :
  Calls Tryz.prog 164 #[.pointer (some ⟨b,0,none⟩),.int .i64 kind,.int .i64 count] w fun e w'=>e=dmg/\Gr w w' b:=by
 cases hm:zBB 4 l with
 | none=>exact zR1 h hl hm
 | some p=>
  obtain⟨m,l1⟩:=p
  refine zR2 hc hk h hl hm fun vs r hv Hf=>?_
  rw[hm,Option.bind_some,hv,Option.bind_some,if_pos Hf] at hd
  cases hd
end Go.Proofs.YtekgpapophibcaaGreat
