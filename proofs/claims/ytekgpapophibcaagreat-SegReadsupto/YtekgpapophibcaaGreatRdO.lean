import Derived.Test.YtekgpapophibcaaGreatRdI
import Derived.Test.YtekgpapophibcaaGreatRyG
import Derived.Laws.CopyOwn
import Derived.Defers
import Derived.Recover
set_option linter.unusedSimpArgs false
set_option linter.unusedVariables false
set_option maxHeartbeats 800000
set_option maxRecDepth 100000
namespace Go.Proofs.YtekgpapophibcaaGreat
open Go.RowKit Go.Sort
def zBM(W:List Val):Bool:=(List.range (W.length-1)).all fun i=>decide (zAh (W.getD i .null) (W.getD (i+1) .null)<0)
theorem zEp{W:List Val}(h:zBM W=true){i:Nat}{x y:Val}(hx:W[i]?=some x)(hy:W[i+1]?=some y):zAh x y<0:=by
 unfold zBM at h
 rw[List.all_eq_true] at h
 obtain⟨hl,_⟩:=zAL hy
 have:=h i (by rw[List.mem_range];omega)
 simp only[List.getD_eq_getElem?_getD,hx,hy,Option.getD_some,decide_eq_true_eq] at this
 exact this
def zF7(kind:Int)(count:Nat)(l:List UInt8):Option (List Val×List UInt8):=
 (zBB 2 l).bind fun p=>(zAq kind p.1 p.2).bind fun q=>if zBM q.1 then
  (zCA count (bl (p.1-1)) q.2).bind fun r=>
   if (∀k∈zAm r.1 (bl (p.1-1)) count,k<p.1)/\(∀j,j<p.1->j∈zAm r.1 (bl (p.1-1)) count) then some ((zAm r.1 (bl (p.1-1)) count).map fun k=>q.1.getD k .null,r.2) else none
 else none
theorem Rd.below{w w':World}{b:Nat}{l:List UInt8}(h:Rd w b l)(hb:Below w.heap.size w w'):Rd w' b l:=World.rowIs.of_block h (hb.block b h.ne)
theorem zCo(t:Bool)(h:t=true)(w:World):Calls Tryz.prog 150 #[.bool t] w fun e w'=>e=.returned (.tuple #[])/\Below w.heap.size w w':=
 (zFn t h w).mono fun e w' ⟨he,hw⟩=>⟨he,hw ▸ Below.refl _ _⟩
theorem zAR.grx{w w':World}{a:Option Addr}{xs:List Val}{B:Nat}(h:zAR w a xs)(hg:Gr w w' B)(Hg:∀ad,a=some ad->ad.block≠B):zAR w' a xs:=by
 rcases h with h|⟨b,off,ha,h⟩
 ·exact .inl h
 ·refine .inr ⟨b,off,ha,fun i x hx=>?_⟩
  obtain⟨h0,h1,h2⟩:=h i x hx
  have hs:=Hg _ ha
  have hk:∀j v,w.cell? ⟨b,j,none⟩=some v->w'.cell? ⟨b,j,none⟩=some v:=fun j v hv=>by
   rw[World.cell?_of_block (a:=⟨b,j,none⟩) (hg.block b (World.block_lt_of_cell? _ _ hv) (fun e=>hs (by injection e)))];exact hv
  exact⟨hk _ _ h0,hk _ _ h1,hk _ _ h2⟩
def zGI(l:List Nat)(j:Nat):Bool:=l.contains j
theorem zNk{b count m:Nat}{kind:Int}{l l1 l2 t r:List UInt8}{W:List Val}{w:World}(hc:count<=4096)(hk:kind=1∨kind=2)(h:Rd w b l)(hl:l.length<=140737488355328)
  (hm:zBB 2 l=some (m,l1)) (hW:zAq kind m l1=some (W,l2)) (hs:zBM W=true) (hb:zCA count (bl (m-1)) l2=some (t,r))
  (h1:∀k∈zAm t (bl (m-1)) count,k<m) (h2:∀j,j<m->j∈zAm t (bl (m-1)) count) :
  Calls Tryz.prog 165 #[.pointer (some ⟨b,0,none⟩),.int .i64 kind,.int .i64 count] w fun e w'=>∃v,e=.returned v/\zAV w' w.heap.size v ((zAm t (bl (m-1)) count).map fun k=>W.getD k .null)/\Rd w' b r/\Gr w w' b:=by
 obtain⟨i4,Qd,z40,z41,z42⟩:=info_parts Tryz.info59
 obtain⟨i6,YL,z60,z61,z62⟩:=info_parts Tryz.info4
 have TM:m<65536:=by
  obtain⟨g1,rfl,rfl⟩:=zBD hm
  have:=zBn (l.take 2)
  have h2:(l.take 2).length=2:=by rw[List.length_take];omega
  rw[h2] at this;simpa using this
 have YK:=zAo hm
 obtain⟨Zu,Yd⟩:=zBr hW
 have HN:=zA3 (zAT h hl hm (by decide))
 have HP:Hid (∀W2,Rd W2 b l1->Calls Tryz.prog 163 #[.pointer (some ⟨b,0,none⟩),.int .i64 kind,.int .i64 m] W2 fun e w'=>∃v,e=.returned v/\zAV w' W2.heap.size v W/\Rd w' b l2/\Gr W2 w' b):=fun W2 Yz=>by
  have:=zCe b m kind l1 W2 hk (by omega) Yz (by omega)
  rw[hW] at this
  refine this.mono ?_
  rintro e w' (⟨vs,r',v,he,h3,h4,h5,h6⟩|⟨he,_⟩)
  ·injection he with he;injection he with e1 e2;subst e1;subst e2
   exact⟨v,h3,h4,h5,h6⟩
  ·cases he
 have Zm:bl (m-1)<=64:=zFr (by have:(2:Nat)^64=18446744073709551616:=(by decide);omega)
 obtain⟨d,hd⟩:∃d,d=bl (m-1):=⟨_,rfl⟩
 rw[<-hd] at hb h1 h2 Zm ⊢
 have HB:=zA3 (fun W2 (Yz:Rd W2 b l2)=>zFS hc Zm Yz (by omega) hb)
 have Dl:Hid (∀W2,Calls Tryz.prog 146 #[.int .i64 m] W2 fun e w'=>e=.returned (.int .i64 (d:Int))/\w'=W2):=fun W2=>by rw[hd];exact zDh m W2 (by omega)
 have YR:=zA3 (zD8 hb).1
 have Qn:=h.ne
 have HS:=zA3 hs
 have ZS:=zA3 Zu
 have H1:=zA3 h1
 have H2:=zA3 h2
 clear h h1 h2 hs hd Zu
 go_enter Tryz.func165,Tryz.ntmps165
 go_wp2_with (first
  | (go_at_call 149;refine(zA0 HN).mono ?_;rintro e w1 ⟨rfl,Hq,Hn⟩)
  | (go_at_call 163;refine(zA0 HP _ Hq).mono ?_;rintro e w2 ⟨v2,rfl,Qi,Hu,Hj⟩;obtain⟨wa,wc,rfl,qp,Fl,Yx⟩:=zAC Qi;rw[zA0 ZS]))
 have Jb:=Hn.trans Hj
 have Qp:=Hn.size
 have QC:=Jb.size
 have QN:=zA3 Qi
 have Qf:=zA3 Yx
 clear Hn Hj Hq Qi Yx
 go_loopw[22] (fun i wr=>∃k:Nat,k<=m/\i=.int .i64 (k:Int)/\Below w2.heap.size w2 wr) (fun i _=>m-(intOf i).toNat)
 case atStart=>exact⟨0,Nat.zero_le _,rfl,Below.refl _ _⟩
 case round=>
  obtain⟨k,TO,rfl,QJ⟩:=hrel
  by_cases He:k<m
  ·have h9:(k:Int)<(m:Int):=by omega
   have Jg:=zA3 QJ
   by_cases Gk:k=0
   ·subst Gk
    clear QJ
    go_wp2_with fail
    refine wp_region_quiet_below (by kernel_rfl) (by kernel_rfl) ?_
    repeat (go_big_quiet_step (first
     | (go_at_call 150;exact Calls.regrown_of (zCo _ rfl _))))
    refine wpQuiet_nil ?_
    intro w' Hp
    have hB:Below wr.heap.size wr w':=by obtain⟨p,rfl⟩:=Hp;exact below_regrown _ _ _
    clear Hp
    go_wp2
    go_roundw
    case rel=>exact⟨1,by omega,by go_num,zA2 (zA0 Jg) hB⟩
    case measure=>simp[intOf];omega
   ·obtain⟨j,hj⟩:∃j,k=j+1:=⟨k-1,by omega⟩
    obtain⟨x,hx⟩:∃x,W[j]?=some x:=⟨_,zAf (by rw[zA0 ZS];omega)⟩
    obtain⟨y,hy⟩:∃y,W[k]?=some y:=⟨_,zAf (by rw[zA0 ZS];omega)⟩
    have YV:=zA3 (zEp (zA0 HS) hx (by rw[<-hj];exact hy))
    obtain⟨vb,vo,rfl,c0,c1,c2⟩:=((zA0 Qf).later QJ).lo hx
    obtain⟨vb',vo',e,d0,d1,d2⟩:=((zA0 Qf).later QJ).lo hy
    injection e with e
    injection e with e1 e2
    subst e1;subst e2
    have k0:=cell_regrown c0
    have k1:=cell_regrown c1
    have k2:=cell_regrown c2
    have k3:=cell_regrown d0
    have k4:=cell_regrown d1
    have k5:=cell_regrown d2
    have ej:(k:Int)-1=(j:Int):=by omega
    have g0:((k:Int) == 0)=false:=by simpa using Gk
    have qy:(j:Int)<(m:Int):=by omega
    have HO:=zA3 (zEJ x y)
    generalize zAh x y=O at YV HO
    have GL:Hid (decide (O<0)=true):=decide_eq_true (zA0 YV)
    clear c0 c1 c2 d0 d1 d2 QJ hx hy hj Gk
    go_wp2_with fail
    refine wp_region_quiet_below (by kernel_rfl) (by kernel_rfl) ?_
    repeat (go_big_quiet_step (first
     | (go_at_call 104;exact Calls.regrown_of (zA0 HO _))
     | (go_at_call 150;exact Calls.regrown_of (zCo _ (zA0 GL) _))))
    refine wpQuiet_nil ?_
    intro w' Hp
    have hB:Below wr.heap.size wr w':=by obtain⟨p,rfl⟩:=Hp;exact below_regrown _ _ _
    clear Hp
    go_wp2
    go_roundw
    case rel=>exact⟨k+1,by omega,by go_num,zA2 (zA0 Jg) hB⟩
    case measure=>simp[intOf];omega
  ·have h9:¬(k:Int)<(m:Int):=by omega
   have Qt:=Hu.below QJ
   have Gc:=(zA0 QN).later QJ
   have Yj:=(zA0 Qf).later QJ
   have ZH:=Jb.trans (Gr.of_below QJ b)
   have TC:=QJ.size
   clear QJ Qf QN Hu Jb
   replace Yj:=zA3 Yj
   have Jf:=zA3 Gc
   have qe:=zA3 Qt
   have qh:=zA3 ZH
   have Jc:Hid (∀ad,wa=some ad->ad.block<wr.heap.size/\b<ad.block):=fun ad Qo=>by
    obtain⟨g,o,rfl⟩:=qp ad Qo
    subst Qo
    have:=World.ownsRow.lt (zA0 Jf) g rfl
    exact⟨this.2,Nat.lt_of_lt_of_le Qn (Nat.le_trans Qp this.1)⟩
   clear Gc Qt ZH
   go_wp2_with (first
    | (go_at_call 146;refine(zA0 Dl _).mono ?_;rintro e w3 ⟨rfl,rfl⟩)
    | (go_at_call 162;refine(zA0 HB _ (zA0 qe)).mono ?_;rintro e w4 ⟨A,B,C,rfl,Qe,hA,hB,hC,Gy,Yh⟩)
    | (at_make;first | (refine wpList_make_row _ rfl (.tmp 49) (.tmp 49) 45 rfl 4 i6 (.bool false) Tryz.underlying45 YL z60 z61 rfl .i64 .i64 m rfl rfl (by rw[z62];omega) (by omega) ?_) | (refine zB5 _ rfl (.tmp 51) (.tmp 51) 37 rfl 59 i4 _ Tryz.underlying37 Qd z40 3 z41 .i64 .i64 count rfl rfl (by rw[z42];omega) (by omega) ?_)))
   have hz4:=Yh.size
   obtain⟨hA4,hB4,hC4⟩:=Qe.lt
   have Dc:=(zA0 qh).trans Yh
   have Zv:=(zA0 Yj).grx Yh (fun ad Qo=>by have:=zA0 Jc ad Qo;omega)
   have KI:Hid (∀ad,wa=some ad->ad.block<w4.heap.size/\ad.block≠A/\ad.block≠B/\ad.block≠C):=fun ad Qo=>by have:=zA0 Jc ad Qo;omega
   have HU:Hid (((w4.alloc (.cells (madeCells #[.bool false] m) 4)).alloc (.cells (madeCells #[.int .i64 0,.int .i64 0,.string ⟨#[]⟩] (count*3)) 59)).rowIs w4.heap.size 4 m (fun j=>.bool (zGI [] j))):=
    ((World.rowIs_made w4 (.bool false) m 4).congr fun j hj=>by simp[zGI]).alloc _
   have HF:Hid (∀ys,zEh ((w4.alloc (.cells (madeCells #[.bool false] m) 4)).alloc (.cells (madeCells #[.int .i64 0,.int .i64 0,.string ⟨#[]⟩] (count*3)) 59)) (w4.heap.size+1) count 0 ys):=fun ys=>by
    have:=zEh.start (w4.alloc (.cells (madeCells #[.bool false] m) 4)) count ys
    simpa using this
   generalize hks:zAm t d count=ks at *
   have HKS:=zA3 hks
   have Yt:Hid (ks.length=count):=by rw[<-hks];exact zDt _ _ _
   have HKA:Hid (∀k,k<count->ks[k]?=some (zBt (leV t) d k)):=fun k hk=>by rw[<-hks];exact zKv hk
   have hwz:w.heap.size<=w4.heap.size:=by omega
   have hBw:w.heap.size<=B:=by omega
   clear hks Jc Yj qh qe Jf hA hB hC Qp QC TC Yh
   go_loopw[55] (fun i wr=>∃k:Nat,k<=count/\i=.int .i64 (k:Int)/\zEh wr (w4.heap.size+1) count k (ks.map fun k=>W.getD k .null)/\wr.rowIs w4.heap.size 4 m (fun j=>.bool (zGI (ks.take k) j))/\zGH wr A B C d (d*k) t/\Rd wr b r/\zAR wr wa W/\Gr w wr b) (fun i _=>count-(intOf i).toNat)
   case atStart=>exact⟨0,Nat.zero_le _,rfl,zA0 HF _,zA0 HU,(Qe.alloc _).alloc _,(Gy.alloc _).alloc _,(Zv.later (zA1 (Below.refl _ _) _)).later (zA1 (Below.refl _ _) _),Dc.trans ((Gr.alloc _ _ _).trans (Gr.alloc _ _ _))⟩
   case round=>
    obtain⟨k,hkc,rfl,hf,hu,Jl,Zd,Yp,Hy⟩:=hrel
    by_cases He:k<count
    ·have h9:(k:Int)<(count:Int):=by omega
     have Hm:=zA0 HKA k He
     have yu:=zA0 H1 _ (List.mem_of_getElem? Hm)
     have HC:=zA3 (zGP Jl Zm He hc (zA0 YR))
     have Dn:Hid (ks.take (k+1)=ks.take k++[zBt (leV t) d k]):=by
      obtain⟨g1,g2⟩:=zAL Hm
      show _=_
      rw[List.take_succ_eq_append_getElem g1,g2]
     obtain⟨y,hy⟩:∃y,W[zBt (leV t) d k]?=some y:=⟨_,zAf (by rw[zA0 ZS];exact yu)⟩
     have HY:Hid ((ks.map fun k=>W.getD k .null)[k]?=some y):=by
      show _=_
      rw[List.getElem?_map,Hm]
      simp[List.getD_eq_getElem?_getD,hy]
     obtain⟨vb,vo,rfl,_,_,_⟩:=Yp.lo hy
     have hvb:=zA0 KI _ rfl
     simp only at hvb
     have QG:Hid (∀w5,Gr wr w5 B->zEh w5 (w4.heap.size+1) count k (ks.map fun k=>W.getD k .null)/\w5.rowIs w4.heap.size 4 m (fun j=>.bool (zGI (ks.take k) j))/\Rd w5 b r/\zAR w5 (some ⟨vb,vo,none⟩) W/\Gr w w5 b):=fun w5 QI=>
      ⟨hf.grx QI (by omega),zC8 hu QI (by omega),Zd.grx QI (by omega),Yp.grx QI (fun ad Qo=>by injection Qo with Qo;subst Qo;simp only;omega),Hy.fresh QI (by omega)⟩
     have YB:=zA3 (fun w5 (h5:zAR w5 (some ⟨vb,vo,none⟩) W)=>h5.lo hy)
     generalize zBt (leV t) d k=x at Hm yu HC Dn hy YB
     have JQ:(x:Int)<(m:Int):=by omega
     have HUS:Hid (∀j,zGI (ks.take (k+1)) j=if j=x then true else zGI (ks.take k) j):=fun j=>by
      unfold zGI
      rw[zA0 Dn]
      by_cases hj:j=x<;>simp[hj]
     have qO:Hid (∀w5,zEh w5 (w4.heap.size+1) count k (ks.map fun k=>W.getD k .null)->w5.rowIs w4.heap.size 4 m (fun j=>.bool (zGI (ks.take k) j))->Rd w5 b r->zAR w5 (some ⟨vb,vo,none⟩) W->Gr w w5 b->zGH w5 A B C d (d*(k+1)) t->zEh (w5.setCell ⟨w4.heap.size,x,none⟩ (.bool true)) (w4.heap.size+1) count k (ks.map fun k=>W.getD k .null)/\(w5.setCell ⟨w4.heap.size,x,none⟩ (.bool true)).rowIs w4.heap.size 4 m (fun j=>.bool (zGI (ks.take (k+1)) j))/\Rd (w5.setCell ⟨w4.heap.size,x,none⟩ (.bool true)) b r/\zAR (w5.setCell ⟨w4.heap.size,x,none⟩ (.bool true)) (some ⟨vb,vo,none⟩) W/\Gr w (w5.setCell ⟨w4.heap.size,x,none⟩ (.bool true)) b/\zGH (w5.setCell ⟨w4.heap.size,x,none⟩ (.bool true)) A B C d (d*(k+1)) t):=
      fun w5 a1 a2 a3 a4 a5 a6=>⟨a1.grx (zAY _ _ _ _) (by omega),(a2.set x (.bool true)).congr fun j hj=>by rw[zA0 HUS j];by_cases e:j=x<;>simp[e],a3.grx (zAY _ _ _ _) (by omega),a4.grx (zAY _ _ _ _) (fun ad Qo=>by injection Qo with Qo;subst Qo;simp only;omega),a5.fresh (zAY _ _ _ _) (by omega),a6.set _ (by omega) (by omega) (by omega)⟩
     clear Hm hf hu Jl Zd Yp Hy
     go_wp2_with (first
      | (go_at_call 178;refine(zA0 HC).mono ?_;rintro e w5 ⟨rfl,QO,QI⟩;obtain⟨Jk,TE,YS,DI,qI⟩:=zA0 QG w5 QI;have cu:=TE.cell yu;have fu:=TE.frozen x;obtain⟨TS,Fr,qX,qW,Kf,GP⟩:=zA0 qO w5 Jk TE YS DI qI QO;obtain⟨p0,p1,p2,q0,q1,q2⟩:=TS.cells He;obtain⟨_,_,ea,c0,c1,c2⟩:=zA0 YB _ qW;injection ea with ea;injection ea with ea1 ea2;subst ea1;subst ea2;replace TS:=zA3 TS;replace Fr:=zA3 Fr;replace qX:=zA3 qX;replace qW:=zA3 qW;replace Kf:=zA3 Kf;replace GP:=zA3 GP;clear Jk TE YS DI qI QO)
      | (go_at_call 150;refine(zAj _).mono ?_;rintro e w6 ⟨rfl,rfl⟩))
     go_roundw
     case rel=>exact⟨k+1,by omega,by go_num,(zA0 TS).put (y:=y) (zA0 HY),(((zA0 Fr).setOther (by simp) _).setOther (by simp) _).setOther (by simp) _,(zA0 GP).put3 (by omega) (by omega) (by omega) _ _ _ _ _ _,(zA0 qX).put3 (by omega) _ _ _ _ _ _,(((zA0 qW).grx (zAY _ _ _ _) (by intro ad Qo;injection Qo with Qo;subst Qo;simp only;omega)).grx (zAY _ _ _ _) (by intro ad Qo;injection Qo with Qo;subst Qo;simp only;omega)).grx (zAY _ _ _ _) (by intro ad Qo;injection Qo with Qo;subst Qo;simp only;omega),(zA0 Kf).put3 (by omega) _ _ _ _ _ _⟩
     case measure=>simp[intOf];omega
    ·have h9:¬(k:Int)<(count:Int):=by omega
     have ek:k=count:=by omega
     subst ek
     have etk:ks.take k=ks:=List.take_of_length_le (by rw[zA0 Yt];omega)
     rw[etk] at hu
     have qQ:=zA3 (zFT w4.heap.size m (zGI ks) wr (by omega) hu)
     have eall:(List.range m).all (zGI ks)=true:=by
      rw[List.all_eq_true]
      intro j hj
      have:=zA0 H2 j (List.mem_range.1 hj)
      unfold zGI
      simpa using this
     rw[eall] at qQ
     have Yi:Hid (zAV wr w.heap.size (.slice (some ⟨w4.heap.size+1,0,none⟩) k k) (ks.map fun k=>W.getD k .null)/\Rd wr b r/\Gr w wr b):=⟨hf.own (by rw[List.length_map];exact zA0 Yt) (by omega) (by omega),Zd,Hy⟩
     clear hf hu Jl Zd Yp Hy etk eall
     go_wp2_with (first
      | (go_at_call 181;refine(zA0 qQ).mono ?_;rintro e w6 ⟨rfl,rfl⟩)
      | (go_at_call 150;refine(zAj _).mono ?_;rintro e w7 ⟨rfl,rfl⟩))
     go_ret
     exact⟨_,rfl,by rw[zA0 HKS];exact zA0 Yi⟩
theorem zAR.grow{w w':World}{a:Option Addr}{xs:List Val}{row:Option Nat}(h:zAR w a xs)(hg:w.grownBy w' row)(Hg:∀ad,a=some ad->some ad.block≠row):zAR w' a xs:=by
 rcases h with h|⟨b,off,ha,h⟩
 ·exact .inl h
 ·refine .inr ⟨b,off,ha,fun i x hx=>?_⟩
  obtain⟨h0,h1,h2⟩:=h i x hx
  have hs:=Hg _ ha
  have hk:∀j v,w.cell? ⟨b,j,none⟩=some v->w'.cell? ⟨b,j,none⟩=some v:=fun j v hv=>by
   rw[World.cell?_of_block (a:=⟨b,j,none⟩) (hg.block b (World.block_lt_of_cell? _ _ hv) hs)];exact hv
  exact⟨hk _ _ h0,hk _ _ h1,hk _ _ h2⟩
def zIT(ws:List Val)(ks:List Nat):List Val:=(ks.takeWhile fun k=>decide (k<ws.length)).map fun k=>ws.getD k .null
def zLB(ws:List Val)(ks:List Nat):Bool:=ks.any fun k=>decide (ws.length<=k)
theorem zLf{ws:List Val}{ks:List Nat}(h:∀k∈ks,k<ws.length):zIT ws ks=(ks.map fun k=>ws.getD k .null)/\zLB ws ks=false:=by
 constructor
 ·unfold zIT
  have e:=List.takeWhile_append_of_pos (p:=fun k=>decide (k<ws.length)) (l₁:=ks) (l₂:=[]) (by intro k hk;simpa using h k hk)
  rw[List.append_nil,List.takeWhile_nil,List.append_nil] at e
  rw[e]
 ·unfold zLB
  rw[List.any_eq_false]
  intro k hk
  have:=h k hk
  simp;omega
theorem zOv{ws:List Val}{ks:List Nat}{k y:Nat}(h:∀j∈ks.take k,j<ws.length)(hy:ks[k]?=some y)(hn:¬y<ws.length):zIT ws ks=((ks.take k).map fun k=>ws.getD k .null)/\zLB ws ks=true:=by
 obtain⟨hk,he⟩:=zAL hy
 constructor
 ·unfold zIT
  congr 1
  conv=>lhs;rw[<-List.take_append_drop k ks]
  rw[List.takeWhile_append_of_pos (by intro j hj;simpa using h j hj),List.drop_eq_getElem_cons hk,List.takeWhile_cons,he]
  simp[hn]
 ·unfold zLB
  rw[List.any_eq_true]
  exact⟨y,List.mem_of_getElem? hy,by simp;omega⟩
theorem zK5{t:List UInt8}{x:Bool}{d n:Nat}:∀k∈zDz t x d n,k<2 ^ d:=by
 intro k hk
 unfold zDz at hk
 split at hk
 ·rw[List.eq_of_mem_replicate hk];exact Nat.two_pow_pos d
 ·unfold zAm at hk
  obtain⟨i,_,rfl⟩:=List.mem_map.1 hk
  exact Nat.mod_lt _ (Nat.two_pow_pos d)
theorem zNC{ws:List Val}{ks:List Nat}{k y:Nat}{x:Val}(h:ks[k]?=some y)(hx:ws[y]?=some x):(ks.take (k+1)).map (fun k=>ws.getD k .null)=(ks.take k).map (fun k=>ws.getD k .null)++[x]:=by
 obtain⟨h1,rfl⟩:=zAL h
 rw[List.take_succ_eq_append_getElem h1,List.map_append]
 simp[List.getD_eq_getElem?_getD,hx]
abbrev WR (kind:Int) (l:List UInt8) (bad:Bool):List Val×List UInt8×Bool:=zBI kind (zAE l bad 2).2.1 (zAE l bad 2).2.2 (beV (zAE l bad 2).1)
theorem zOa(w:World)(ty:TypeId)(g o dLen dCap:Nat)(a:Addr)(sLen sCap n:Nat)(cur:Array Value)(t:TypeId)(cs:List Value)
  (hg:w.heap[g]?=some (.cells cur t (0,0))) (hn:n=Nat.min sLen dLen) (hl:cs.length=n*3)
  (yC:∀j v,cs[j]?=some v->w.cell? (a.add j)=some v) (YW:o+cs.length<=cur.size) (h1:∀v∈cs,v.oneCell'=true) :
  (Builtin.copy_ #[37,37] ty #[.slice (some ⟨g,o,none⟩) dLen dCap,.slice (some a) sLen sCap]).run Tryz.prog w =
   .ok (goInt n) (w.setRow g (cur.toList.take o++cs++cur.toList.drop (o+cs.length)).toArray):=by
 obtain⟨i4,Qd,z40,z41,z42⟩:=info_parts Tryz.info59
 have hld:=run_loadCells_list (P:=Tryz.prog) w a cs yC
 have qr:=run_storeCells_at Tryz.prog g o t cs 0 cur w hg (by simpa using YW) h1
 rw[hl] at hld
 simp[Builtin.copy_,run_underlying Tryz.underlying37,Builtin.lenOf,Builtin.firstCells,sizeOf,typeInfo,Qd,z41,<-hn,hld,qr]
def zIy(w:World)(g:Nat)(ys:List Val):Prop:=w.heap[g]?=some (.cells (ys.flatMap c3).toArray 59 (0,0))
theorem zHp:∀(ys:List Val) (n:Nat),(ys.flatMap c3).take (n*3)=(ys.take n).flatMap c3
 | ys,0=>by simp
 | [],n+1=>by simp
 | y::ys,n+1=>by
  have:=zHp ys n
  rw[List.flatMap_cons,List.take_succ_cons,List.flatMap_cons,Nat.succ_mul,Nat.add_comm]
  show List.take (3+n*3) (Value.int .i64 y.k::Value.int .i64 y.n::Value.string y.s::ys.flatMap c3)=_
  rw[show 3+n*3=(n*3+1+1)+1 by omega,List.take_succ_cons,List.take_succ_cons,List.take_succ_cons,this]
  rfl
theorem zJt:∀(ys:List Val) (n:Nat),(ys.flatMap c3).drop (n*3)=(ys.drop n).flatMap c3
 | ys,0=>by simp
 | [],n+1=>by simp
 | y::ys,n+1=>by
  have:=zJt ys n
  rw[List.flatMap_cons,List.drop_succ_cons,Nat.succ_mul,Nat.add_comm]
  show List.drop (3+n*3) (Value.int .i64 y.k::Value.int .i64 y.n::Value.string y.s::ys.flatMap c3)=_
  rw[show 3+n*3=(n*3+1+1)+1 by omega,List.drop_succ_cons,List.drop_succ_cons,List.drop_succ_cons,this]
theorem zIy.cell{w:World}{g:Nat}{ys:List Val}(h:zIy w g ys){i:Nat}{v:Value}(hv:(ys.flatMap c3)[i]?=some v):w.cell? ⟨g,i,none⟩=some v:=by
 unfold World.cell?
 simp only[zIy] at h
 simp[h,hv]
theorem zIy.copy{w:World}{g n:Nat}{ys zs:List Val}{ty:TypeId}{dLen dCap sLen sCap m:Nat}{a:Addr}(h:zIy w g ys)(hm:m=Nat.min sLen dLen)(hz:zs.length=m)(YW:n+m<=ys.length)
  (yC:∀j v,(zs.flatMap c3)[j]?=some v->w.cell? (a.add j)=some v) :
  ∃w',(Builtin.copy_ #[37,37] ty #[.slice (some ⟨g,n*3,none⟩) dLen dCap,.slice (some a) sLen sCap]).run Tryz.prog w=.ok (goInt m) w'/\zIy w' g (ys.take n++zs++ys.drop (n+m))/\∀B w0,Below B w0 w->B<=g->Below B w0 w':=by
 refine⟨_,zOa w ty g (n*3) dLen dCap a sLen sCap m _ 59 (zs.flatMap c3) h hm (by rw[zBP,hz]) yC (by rw[zBP,hz];simp only[List.size_toArray];rw[zBP];omega) (fun v hv=>by
  obtain⟨z,_,hz⟩:=List.mem_flatMap.1 hv
  exact zBY z v hz),?_,fun B w0 hb hB=>below_setRow hb hB _⟩
 have:=setRow_heap w g _ ((ys.flatMap c3).toArray.toList.take (n*3)++zs.flatMap c3++(ys.flatMap c3).toArray.toList.drop (n*3+(zs.flatMap c3).length)).toArray 59 _ h
 unfold zIy
 rw[this]
 congr 2
 rw[zBP,hz,<-Nat.add_mul,zHp,zJt,List.flatMap_append,List.flatMap_append]
theorem zIy.made(w:World)(n:Nat):zIy (w.alloc (.cells (madeCells #[.int .i64 0,.int .i64 0,.string ⟨#[]⟩] (n*3)) 59)) w.heap.size (List.replicate n Val.null):=by
 unfold zIy
 have e:madeCells #[.int .i64 0,.int .i64 0,.string ⟨#[]⟩] (n*3)=((List.replicate n Val.null).flatMap c3).toArray:=by
  apply Array.ext
  ·rw[size_madeCells];simp only[List.size_toArray];rw[zBP,List.length_replicate]
  ·intro j h1 h2
   rw[size_madeCells] at h1
   have hx:(List.replicate n Val.null)[j / 3]?=some Val.null:=by rw[List.getElem?_replicate,if_pos (by omega)]
   have hf:=zCV (List.replicate n Val.null) (j / 3) (j % 3) Val.null hx (Nat.mod_lt _ (by decide))
   rw[show j / 3*3+j % 3=j by omega] at hf
   have h3:j % 3=0∨j % 3=1∨j % 3=2:=by omega
   have hg:((List.replicate n Val.null).flatMap c3)[j]?=some (((List.replicate n Val.null).flatMap c3).toArray[j]):=by simp
   rw[hg] at hf
   simp only[madeCells,Array.getElem_map,Array.getElem_range]
   rcases h3 with h3|h3|h3<;>(rw[h3] at hf;simp[h3];simp[c3,Val.null] at hf;exact hf.symm)
 rw[e]
 exact Deep.blk_alloc_new _ _
theorem zIy.own{w:World}{g B:Nat}{ys:List Val}(h:zIy w g ys)(hB:B<=g)(hl:ys.length<=100000):zAV w B (.slice (some ⟨g,0,none⟩) ys.length ys.length) ys:=by
 refine⟨zBP ys,.inr ⟨g,ys.length,_,rfl,hB,h,Nat.le_refl _,by unfold maxLen;omega,by simp only[List.size_toArray];exact zBP ys,?_⟩⟩
 rw[List.take_of_length_le (by rw[<-zBP ys];exact Nat.le_refl _)]
set_option maxHeartbeats 400000
theorem zTr(a b:Nat)(ha:a<18446744073709551616)(hb:b<18446744073709551616):bits .and .u64 (a:Int) (b:Int)=((a &&& b:Nat):Int):=by
 have hx:a &&& b<2 ^ 64:=Nat.and_lt_two_pow _ (by omega)
 have h1:(BitVec.ofInt 64 (a:Int)).toNat=a:=by
  rw[BitVec.ofInt_natCast,BitVec.toNat_ofNat];exact Nat.mod_eq_of_lt (by omega)
 have h2:(BitVec.ofInt 64 (b:Int)).toNat=b:=by
  rw[BitVec.ofInt_natCast,BitVec.toNat_ofNat];exact Nat.mod_eq_of_lt (by omega)
 show IntKind.u64.wrap ((BitVec.ofInt 64 (a:Int) &&& BitVec.ofInt 64 (b:Int)).toNat:Int)=_
 rw[BitVec.toNat_and,h1,h2,IntKind.wrap_u64]
 omega
theorem zSJ(n:Nat)(h:n<4294967296):bits .and .u64 (n:Int) 4294967295=(n:Int):=by
 have e:(4294967295:Int)=((2 ^ 32-1:Nat):Int):=rfl
 rw[e,zTr n _ (by omega) (by decide),Nat.and_two_pow_sub_one_eq_mod,Nat.mod_eq_of_lt (by omega)]
theorem zPT(n:Nat)(hn:n<=4096)(w:World):Calls Tryz.prog 191 #[.int .u64 1,.int .u64 n] w fun e w'=>e=.returned (.tuple #[.int .u64 0,.int .u64 n])/\w'=w:=by
 have h1:bits .and .u64 1 4294967295=1:=by kernel_rfl
 have h2:=zSJ n (by omega)
 have h3:bits .and .u64 0 4294967295=0:=by kernel_rfl
 have h4:(n:Int) / 4294967296=0:=by omega
 have h5:(n:Int)<=4096:=by omega
 go_enter Tryz.func191,Tryz.ntmps191
 go_wp2
 go_ret2
 exact⟨rfl,rfl⟩
theorem mul_one(n:Nat)(hn:n<=4096)(w:World):Calls Tryz.prog 187 #[.int .u64 1,.int .u64 n] w fun e w'=>e=.returned (.tuple #[.int .u64 0,.int .u64 n])/\w'=w:=by
 have HM:=zA3 (zPT n hn w)
 go_enter Tryz.func187,Tryz.ntmps187
 go_wp2_with (go_at_call 191;refine(zA0 HM).mono ?_;rintro e w1 ⟨rfl,rfl⟩)
 go_ret2
 exact⟨rfl,rfl⟩
theorem zQb{w:World}{o:Oper}{a:Act}{K:Act->World->Prop}{Q:Exit->Act->World->Prop}(d s:Operand)(ho:o.op=.call { callee:=.builtin .copy,args:=#[d,s],argTypes:=#[37,37] })
  (g off dLen dCap:Nat) (ad:Addr) (sLen sCap:Nat) (hd:a.eval d=.slice (some ⟨g,off,none⟩) dLen dCap) (hs:a.eval s=.slice (some ad) sLen sCap)
  (n m:Nat) (ys zs:List Val) (Ju:off=n*3) (h:zIy w g ys) (hm:m=Nat.min sLen dLen) (hz:zs.length=m) (YW:n+m<=ys.length) (yC:∀j v,(zs.flatMap c3)[j]?=some v->w.cell? (ad.add j)=some v)
  (hK:∀w',zIy w' g (ys.take n++zs++ys.drop (n+m))->(∀B w0,Below B w0 w->B<=g->Below B w0 w')->K (a.put o.dst (goInt m)) w'):o.wp Tryz.prog a w K Q:=by
 subst Ju
 obtain⟨w',QL,hr,hb⟩:=h.copy (ty:=o.type) (dLen:=dLen) (dCap:=dCap) (sCap:=sCap) hm hz YW yC
 unfold Oper.wp
 simp[execOp,ho,resolve,invoke,builtin,hd,hs,QL,Result.andThen]
 exact hK w' hr hb
theorem zPD{w:World}{sb:Nat}{x:Val}(h:w.rowIs sb 59 3 (zDU x)):∀j v,(([x]:List Val).flatMap c3)[j]?=some v->w.cell? ((⟨sb,0,none⟩:Addr).add j)=some v:=by
 intro j v hv
 have e:([x]:List Val).flatMap c3=c3 x:=by simp
 rw[e] at hv
 obtain⟨h0,h1,h2,_⟩:=zA9 h
 match j,hv with
 | 0,hv=>simp[c3] at hv;subst hv;simpa [Addr.add] using h0
 | 1,hv=>simp[c3] at hv;subst hv;simpa [Addr.add] using h1
 | 2,hv=>simp[c3] at hv;subst hv;simpa [Addr.add] using h2
 | j+3,hv=>simp[c3] at hv
theorem zR9{n k m:Nat}(x:Val)(hm:k+m<=n):(List.replicate k x++List.replicate (n-k) Val.null).take k++List.replicate m x++(List.replicate k x++List.replicate (n-k) Val.null).drop (k+m)=List.replicate (k+m) x++List.replicate (n-(k+m)) Val.null:=by
 rw[List.take_append_of_le_length (by simp),List.take_of_length_le (by simp),List.replicate_append_replicate,List.drop_append,List.drop_of_length_le (by simp),List.nil_append,List.drop_replicate,List.length_replicate]
 congr 2;omega
theorem zTB{w:World}{g n k m:Nat}{x:Val}(h:zIy w g (List.replicate k x++List.replicate (n-k) Val.null))(hm:m<=k):∀j v,((List.replicate m x).flatMap c3)[j]?=some v->w.cell? ((⟨g,0,none⟩:Addr).add j)=some v:=by
 intro j v hv
 have hj:j<m*3:=by
  have:=(zAL hv).1
  rw[zBP,List.length_replicate] at this;exact this
 have e:(List.replicate k x++List.replicate (n-k) Val.null)=List.replicate m x++(List.replicate (k-m) x++List.replicate (n-k) Val.null):=by
  rw[<-List.append_assoc,List.replicate_append_replicate];congr 2;omega
 rw[e] at h
 have h2:=zIy.cell h (i:=j) (v:=v) (by
  rw[List.flatMap_append,List.getElem?_append_left (by rw[zBP,List.length_replicate];exact hj)];exact hv)
 by_cases h0:j=0
 ·subst h0;simpa [Addr.add] using h2
 ·simpa [Addr.add,h0] using h2
theorem zNQ{a w:World}{B:Nat}(h:Below B a w):Below B a { w with drawn:=w.drawn+1 }:=⟨h.os,h.tape,h.output,h.size,h.block⟩
theorem zHd(sb n:Nat)(x:Val)(w:World)(h1:1<=n)(hn:n<=4096)(hx:w.rowIs sb 59 3 (zDU x)) :
  Calls Tryz.prog 180 #[.slice (some ⟨sb,0,none⟩) 1 1,.int .i64 n] w fun e w'=>∃v,e=.returned v/\zAV w' w.heap.size v (List.replicate n x)/\Below w.heap.size w w':=by
 obtain⟨i4,Qd,z40,z41,z42⟩:=info_parts Tryz.info59
 have HM:=zA3 (mul_one n hn)
 have HX:=zA3 hx
 have hni:(0:Int)<=(n:Int):=by omega
 have hni2:(n:Int)<=4096:=by omega
 have hw:IntKind.u64.wrap (n:Int)=(n:Int):=by rw[IntKind.wrap_u64];omega
 clear hx
 go_enter Tryz.func180,Tryz.ntmps180
 go_wp2_with (first
  | (go_at_call 187;refine(zA0 HM _).mono ?_;rintro e w1 ⟨rfl,rfl⟩)
  | (at_make;refine zB5 _ rfl (.tmp 29) (.tmp 29) 37 rfl 59 i4 _ Tryz.underlying37 Qd z40 3 z41 .i64 .i64 n rfl rfl (by rw[z42];omega) (by omega) ?_))
 obtain⟨w2,QL,Hu,Hh⟩:=(zIy.made w1 n).copy (ty:=3) (n:=0) (dLen:=n) (dCap:=n) (sLen:=1) (sCap:=1) (m:=1) (a:=⟨sb,0,none⟩) (zs:=[x]) (Nat.min_eq_left h1).symm rfl (by rw[List.length_replicate];omega) (zPD ((zA0 HX).alloc _))
 simp only[Nat.zero_mul,List.take_zero,List.nil_append,Nat.zero_add] at QL Hu
 rw[QL]
 have Hz:=Hh w1.heap.size w1 (zA1 (Below.refl _ _) _) (Nat.le_refl _)
 have GQ:Hid (zIy w2 w1.heap.size (List.replicate 1 x++List.replicate (n-1) Val.null)):=by
  rw[List.drop_replicate] at Hu
  exact Hu
 clear Hu Hh QL HX HM
 go_wp2_with fail
 go_loopw[8] (fun s wr=>∃k:Nat,1<=k/\k<=n/\s=.int .i64 (k:Int)/\zIy wr w1.heap.size (List.replicate k x++List.replicate (n-k) Val.null)/\Below w1.heap.size w1 wr) (fun s _=>n-(intOf s).toNat)
 case atStart=>exact⟨1,Nat.le_refl _,h1,rfl,zA0 GQ,Hz⟩
 case round=>
  obtain⟨k,Jv,Zj,rfl,hr,hb⟩:=hrel
  by_cases He:k<n
  ·have h9:(k:Int)<(n:Int):=by omega
   have HR:=zA3 hr
   have HB:=zA3 hb
   clear hr hb
   obtain⟨m,hm⟩:∃m,m=Nat.min k (n-k):=⟨_,rfl⟩
   have hm':m=min k (n-k):=hm
   have hm1:1<=m/\m<=k/\k+m<=n:=by omega
   have HMM:=zA3 hm
   clear hm hm'
   go_upto_region 9 with fail
   refine wp_region_noPanic ?_
   refine zAu (S:=fun _=>True) (k:=9) (by kernel_rfl) ?_
   refine zA6 (i:=0) (v:=(.int .i64 k)) [8,9] rfl (fun _ _ _ h=>h) (Or.inl ⟨by rfl,fun w' hSw=>?_⟩) trivial ?_
   ·go_simp<;>omega
   try simp only[Act.put,zAI,zAH,zAG]
   refine zA6 (i:=1) (v:=(.slice (some ⟨w1.heap.size,0,none⟩) n n)) [3,7,8,9] rfl (fun _ _ _ h=>h) (Or.inl ⟨by rfl,fun w' hSw=>?_⟩) trivial ?_
   ·go_simp<;>omega
   try simp only[Act.put,zAI,zAH,zAG]
   refine zA6 (i:=2) (v:=(.int .i64 k)) [3,7,8,9] rfl (fun _ _ _ h=>h) (Or.inl ⟨by rfl,fun w' hSw=>?_⟩) trivial ?_
   ·go_simp<;>omega
   try simp only[Act.put,zAI,zAH,zAG]
   refine zA6 (i:=3) (v:=(.slice (some ⟨w1.heap.size,k*3,none⟩) (n-k) (n-k))) [7,8,9] rfl (fun _ _ _ h=>h) (Or.inl ⟨by rfl,fun w' hSw=>?_⟩) trivial ?_
   ·go_simp<;>omega
   try simp only[Act.put,zAI,zAH,zAG]
   refine zA6 (i:=4) (v:=(.slice (some ⟨w1.heap.size,0,none⟩) n n)) [6,7,8,9] rfl (fun _ _ _ h=>h) (Or.inl ⟨by rfl,fun w' hSw=>?_⟩) trivial ?_
   ·go_simp<;>omega
   try simp only[Act.put,zAI,zAH,zAG]
   refine zA6 (i:=5) (v:=(.int .i64 k)) [6,7,8,9] rfl (fun _ _ _ h=>h) (Or.inl ⟨by rfl,fun w' hSw=>?_⟩) trivial ?_
   ·go_simp<;>omega
   try simp only[Act.put,zAI,zAH,zAG]
   refine zA6 (i:=6) (v:=(.slice (some ⟨w1.heap.size,0,none⟩) k n)) [7,8,9] rfl (fun _ _ _ h=>h) (Or.inl ⟨by rfl,fun w' hSw=>?_⟩) trivial ?_
   ·go_simp<;>omega
   try simp only[Act.put,zAI,zAH,zAG]
   refine zA7 (i:=7) (by kernel_rfl) ?_
   refine zA4 rfl (by rfl) fun K hK=>?_
   refine zQb (.tmp 41) (.tmp 44) (by rfl) w1.heap.size (k*3) (n-k) (n-k) ⟨w1.heap.size,0,none⟩ k n (by rfl) (by rfl) k m _ (List.replicate m x) rfl (zA0 HR) (zA0 HMM) (List.length_replicate ..) (by rw[zAX,List.length_replicate,List.length_replicate];omega) (zTB (zA0 HR) hm1.2.1) ?_
   intro w3 Qt Hz
   have Df:=Hz w1.heap.size w1 (zNQ (zA0 HB)) (Nat.le_refl _)
   rw[zR9 x hm1.2.2] at Qt
   replace Qt:=zA3 Qt
   clear Hz
   go_simp
   refine zA0 hK _ _ ⟨fun _=>trivial,?_⟩
   clear hK K
   refine zA7 (i:=8) (by kernel_rfl) ?_
   refine zA4 rfl (by rfl) fun K hK=>?_
   go_simp
   refine zA0 hK _ _ ⟨fun _=>trivial,?_⟩
   clear hK K
   refine zA7 (i:=9) (by kernel_rfl) ?_
   refine zA4 rfl (by rfl) fun K hK=>?_
   go_simp
   refine zA0 hK _ _ ⟨fun _=>trivial,?_⟩
   clear hK K
   refine zAl (by kernel_rfl) ?_ _
   refine NoPanic.normal ?_
   go_wp2
   have ew:IntKind.i64.wrap ((k:Int)+(m:Int))=((k+m:Nat):Int):=by rw[IntKind.wrap_i64];omega
   rw[ew]
   exact⟨⟨k+m,by omega,hm1.2.2,rfl,zA0 Qt,Df⟩,by simp[intOf];omega⟩
  ·have h9:¬(k:Int)<(n:Int):=by omega
   have ek:k=n:=by omega
   subst ek
   have HE:Hid (zAV wr w1.heap.size (.slice (some ⟨w1.heap.size,0,none⟩) k k) (List.replicate k x)/\Below w1.heap.size w1 wr):=by
    simp only[Nat.sub_self,List.replicate_zero,List.append_nil] at hr
    have:=hr.own (B:=w1.heap.size) (Nat.le_refl _) (by rw[List.length_replicate];omega)
    rw[List.length_replicate] at this
    exact⟨this,hb⟩
   clear hr hb
   go_wp2
   go_ret
   exact⟨_,rfl,zA0 HE⟩
def zOb(kind:Int)(count:Nat)(vs:List Val)(l:List UInt8):Option (List Val×List UInt8):=
 (zBB 4 l).bind fun p=>(zBh kind p.2).bind fun q=>
  if 0<p.1/\p.1<=count-vs.length/\(∀y,vs.getLast?=some y->zB1 y q.1=false) then some (vs++List.replicate p.1 q.1,q.2) else none
def zCK(kind:Int)(count:Nat):Nat->List UInt8->Option (List Val×List UInt8)
 | 0,l=>some ([],l)
 | n+1,l=>(zCK kind count n l).bind fun p=>zOb kind count p.1 p.2
theorem zFD{kind:Int}{count:Nat}{vs us:List Val}{l r:List UInt8}(h:zOb kind count vs l=some (us,r)):∃m l1 x,zBB 4 l=some (m,l1)/\zBh kind l1=some (x,r)/\0<m/\m<=count-vs.length/\(∀y,vs.getLast?=some y->zB1 y x=false)/\us=vs++List.replicate m x:=by
 unfold zOb at h
 cases hn:zBB 4 l with
 | none=>rw[hn] at h;cases h
 | some p=>
  rw[hn,Option.bind_some] at h
  cases hp:zBh kind p.2 with
  | none=>rw[hp] at h;cases h
  | some q=>
   rw[hp,Option.bind_some] at h
   split at h
   ·rename_i hc
    injection h with h;injection h with h1 h2
    subst h2
    exact⟨p.1,p.2,q.1,rfl,hp,hc.1,hc.2.1,hc.2.2,h1.symm⟩
   ·cases h
theorem zKc{kind:Int}{count n k:Nat}{l:List UInt8}{us:List Val}{r:List UInt8}(h:zCK kind count n l=some (us,r))(hk:k<=n):∃vs r2,zCK kind count k l=some (vs,r2):=by
 obtain⟨j,rfl⟩:∃j,n=k+j:=⟨n-k,by omega⟩
 clear hk
 induction j generalizing us r with
 | zero=>exact⟨_,_,h⟩
 | succ j ih=>
  rw[<-Nat.add_assoc,zCK] at h
  cases hp:zCK kind count (k+j) l with
  | none=>rw[hp] at h;cases h
  | some p=>exact ih hp
theorem zMg{kind:Int}{count n k:Nat}{l:List UInt8}{us:List Val}{r:List UInt8}(h:zCK kind count n l=some (us,r))(hk:k<n){vs:List Val}{r2:List UInt8}(hv:zCK kind count k l=some (vs,r2)):∃us' r3,zOb kind count vs r2=some (us',r3)/\zCK kind count (k+1) l=some (us',r3):=by
 obtain⟨a,c,h2⟩:=zKc h (k:=k+1) hk
 refine⟨a,c,?_,h2⟩
 rw[zCK,hv,Option.bind_some] at h2
 exact h2
theorem zIH{kind:Int}{count:Nat}:∀{n:Nat} {l r:List UInt8} {vs:List Val},zCK kind count n l=some (vs,r)->vs.length<=count/\r.length<=l.length
 | 0,l,r,vs,h=>by
  unfold zCK at h
  injection h with h;injection h with h1 h2
  subst h1;subst h2;exact⟨by simp,Nat.le_refl _⟩
 | n+1,l,r,vs,h=>by
  unfold zCK at h
  cases hp:zCK kind count n l with
  | none=>rw[hp] at h;cases h
  | some p=>
   rw[hp,Option.bind_some] at h
   obtain⟨a,c⟩:=zIH (vs:=p.1) (r:=p.2) hp
   obtain⟨m,l1,x,h1,h2,h3,h4,_,rfl⟩:=zFD h
   have:=zAo h1
   have:=zJX h2
   refine⟨?_,by omega⟩
   rw[zAX,List.length_replicate];omega
theorem zDN{w:World}{ops:Array Oper}{rest:List Oper}{o:Oper}{a:Act}{Q:Exit->Act->World->Prop}(Gm:o.guard=none)(s x:Operand)(ho:o.op=.call { callee:=.builtin .append,args:=#[s,x],argTypes:=#[37,37] })
  (B B2:Nat) (v u:Value) (xs ys:List Val) (hs:a.eval s=v) (hx:a.eval x=u) (Hd:zAV w B v xs) (hu:zAV w B2 u ys) (hl:xs.length+ys.length<=100000) (hB:B<=w.heap.size)
  (hK:∀v' w',zAV w' B v' (xs++ys)->w.grownBy w' v.ownBlock->wpList Tryz.prog ops Q rest (a.put o.dst v') w'):wpList Tryz.prog ops Q (o::rest) a w:=by
 obtain⟨i4,Qd,z40,z41,z42⟩:=info_parts Tryz.info59
 rcases hu.2 with ⟨rfl,h0⟩|⟨g,cap,cur,rfl,hb,hh,hc,hm,Gp,ht⟩
 ·have e:ys=[]:=List.eq_nil_of_length_eq_zero h0
  subst e
  refine wpList_append_own_none Gm s x 37 ho B 59 i4 3 Tryz.underlying37 Qd v xs.length (xs.flatMap c3) hs Hd hx ?_
  exact hK v w (by simpa using Hd) (World.grownBy.refl _ _)
 ·refine wpList_append_own_at w Gm s x 37 ho B 59 i4 (.agg #[.int .i64 0,.int .i64 0,.string ⟨#[]⟩]) 3 32 Tryz.underlying37 Qd z40 z41 z42 rfl (by decide) v xs.length (xs.flatMap c3) hs Hd ⟨g,0,none⟩ ys.length cap (ys.flatMap c3) hx (zBP ys) (World.ownsRow.cells hu rfl) (fun v hv=>by
   obtain⟨z,_,hz⟩:=List.mem_flatMap.1 hv
   exact zBY z v hz) (by unfold maxLen;omega) (by omega) hB ?_
  intro v' w' h1 h2 _ Hm
  refine hK v' w' ?_ h2
  unfold zAV
  rw[zAX,List.flatMap_append]
  exact h1
theorem Gr.own{w wr w1:World}{b:Nat}{v:Value}{xs:List Val}(h:Gr w wr b)(ho:zAV wr w.heap.size v xs)(hg:wr.grownBy w1 v.ownBlock):Gr w w1 b:=by
 have h2:=h.size
 exact⟨hg.os.trans h.os,hg.tape.trans h.tape,hg.output.trans h.output,Nat.le_trans h2 hg.size,fun i hi Hg=>by
  rw[hg.block i (by omega) (fun e=>by have:=(World.ownsRow.lt ho i e.symm).1;omega),h.block i hi Hg]⟩
theorem Rd.own{wr w1:World}{b B:Nat}{v:Value}{xs:List Val}{l:List UInt8}(hr:Rd wr b l)(ho:zAV wr B v xs)(hb:b<B)(hg:wr.grownBy w1 v.ownBlock):Rd w1 b l:=
 World.rowIs.of_block hr (hg.block b hr.ne (fun e=>by have:=(World.ownsRow.lt ho b e.symm).1;omega))
theorem zOX{y x:Val}(h:zB1 y x=false):(y.k == x.k)=false∨((y.k == x.k)=true/\(y.n == x.n)=false)∨((y.k == x.k)=true/\(y.n == x.n)=true/\(y.s.toList == x.s.toList)=false):=by
 unfold zB1 at h
 cases h1:(y.k == x.k)<;>cases h2:(y.n == x.n)<;>cases h3:(y.s.toList == x.s.toList)<;>simp_all
theorem zR0{b count m:Nat}{kind:Int}{l l1 r:List UInt8}{vs:List Val}{w:World}(hc:count<=4096)(hk:kind=1∨kind=2)(h:Rd w b l)(hl:l.length<=140737488355328)
  (hm:zBB 4 l=some (m,l1)) (hv:zCK kind count m l1=some (vs,r)) (Hf:vs.length=count) :
  Calls Tryz.prog 164 #[.pointer (some ⟨b,0,none⟩),.int .i64 kind,.int .i64 count] w fun e w'=>∃v,e=.returned v/\zAV w' w.heap.size v vs/\Rd w' b r/\Gr w w' b:=by
 have TM:m<4294967296:=by
  obtain⟨g1,rfl,rfl⟩:=zBD hm
  have:=zBn (l.take 4)
  have h2:(l.take 4).length=4:=by rw[List.length_take];omega
  rw[h2] at this;simpa using this
 have YK:=zAo hm
 have HN:=zA3 (zAT h hl hm (by decide))
 have Qn:=h.ne
 have HV:=zA3 hv
 have Qg:=zA3 Hf
 clear h Hf hv
 go_enter Tryz.func164,Tryz.ntmps164
 go_wp2_with (go_at_call 149;refine(zA0 HN).mono ?_;rintro e w1 ⟨rfl,Hq,Hn⟩)
 go_loopw[7,12] (fun v i wr=>∃(k:Nat) (us:List Val) (rk:List UInt8),k<=m/\i=.int .u64 (k:Int)/\Hid (zCK kind count k l1=some (us,rk))/\zAV wr w.heap.size v us/\Rd wr b rk/\Gr w wr b) (fun _ i _=>m-(intOf i).toNat)
 case atStart=>exact⟨0,[],l1,Nat.zero_le _,rfl,rfl,⟨rfl,.inl ⟨rfl,rfl⟩⟩,Hq,Hn⟩
 case round=>
  obtain⟨k,us,rk,TO,rfl,HK,ho,hr,hg⟩:=hrel
  obtain⟨qq,Yn⟩:=zIH (zA0 HK)
  by_cases He:k<m
  ·have h9:(k:Int)<(m:Int):=by omega
   obtain⟨us',r3,QL,hrn⟩:=zMg (zA0 HV) He (zA0 HK)
   have yU:=zA3 hrn
   obtain⟨c,q1,x,Ye,Zw,Fd,Qj,Gj,rfl⟩:=zFD QL
   have hq1:=zAo Ye
   have HC:=zA3 (zAT hr (by omega) Ye (by decide))
   have Za:=zA3 (fun W (hW:Rd W b q1)=>zGq hk hW (by omega) Zw)
   have To:(0:Int)<(c:Int):=by omega
   obtain⟨ua,uc,rfl,yy,yx,Qr⟩:=zAC ho
   obtain⟨U,hU⟩:∃U,U=us.length:=⟨_,rfl⟩
   rw[<-hU]
   have hcu:(c:Int)<=(count:Int)-(U:Int):=by omega
   have DY:IntKind.u64.wrap ((count:Int)-(U:Int))=(count:Int)-(U:Int):=by rw[IntKind.wrap_u64];omega
   have hU2:U+c<=count:=by omega
   have HU:=zA3 hU
   have QG:Hid (∀w3,Gr wr w3 b->zAV w3 w.heap.size (.slice ua us.length uc) us/\Gr w w3 b):=fun w3 Qw=>⟨ho.gr Qw Qn,hg.trans Qw⟩
   have hz:=hg.size
   have ZL:=zA3 Gj
   clear QL hrn Ye Zw ho hr hg Qr hU Gj qq
   go_upto_region 7 with (first
    | (go_at_call 149;refine(zA0 HC).mono ?_;rintro e w2 ⟨rfl,Hu,Hj⟩)
    | (go_at_call 179;refine(zA0 Za _ Hu).mono ?_;rintro e w3 ⟨rfl,Qt,Qw⟩;rw[Val.open_])
    | (go_at_call 150;refine(zAj _).mono ?_;rintro e w4 ⟨rfl,rfl⟩))
   obtain⟨W,hW⟩:∃W,Hid (W=w3.alloc (.cells #[.int .i64 x.k,.int .i64 x.n,.string x.s] 59)):=⟨_,rfl⟩
   have GB:W.rowIs w3.heap.size 59 3 (zDU x):=by rw[zA0 hW];exact zAs w3 x
   obtain⟨b0,b1,b2,_,_,_⟩:=zA9 GB
   obtain⟨Gc,ZH⟩:=zA0 QG w3 (Hj.trans Qw)
   have hOW:zAV W w.heap.size (.slice ua us.length uc) us:=by rw[zA0 hW];exact Gc.later (zA1 (Below.refl _ _) _)
   have Ka:Rd W b r3:=by rw[zA0 hW];exact Qt.alloc _
   have Ke:Gr w W b:=by rw[zA0 hW];exact ZH.trans (Gr.alloc _ _ _)
   have hzW:w.heap.size<=W.heap.size:=Ke.size
   rw[<-zA0 hW]
   have yl:=zA3 hOW
   have YY:=zA3 Ka
   have Dv:=zA3 Ke
   have JN:=zA3 GB
   clear hW Gc ZH GB hOW Ka Ke Hu Hj Qt Qw QG
   go_cut[44] (fun _ wx=>Below W.heap.size W wx)
   case first=>
    by_cases Tq:U=0
    ·subst Tq
     refine wp_region_quiet_below (by kernel_rfl) (by kernel_rfl) ?_
     repeat (go_big_quiet_step (first
      | (go_at_call 150;exact Calls.regrown_of (zCo _ rfl _))))
     refine wpQuiet_nil ?_
     intro w' Hp
     have hB:Below W.heap.size W w':=by obtain⟨p,rfl⟩:=Hp;exact below_regrown _ _ _
     clear Hp
     go_wp2
     go_meet
     exact hB
    ·obtain⟨j,hj⟩:∃j,U=j+1:=⟨U-1,by omega⟩
     obtain⟨y,hy⟩:∃y,us[j]?=some y:=⟨_,zAf (by rw[<-zA0 HU];omega)⟩
     have Yd:us.getLast?=some y:=by
      rw[List.getLast?_eq_getElem?,<-zA0 HU,hj];exact hy
     have yI:=zOX (zA0 ZL y Yd)
     obtain⟨_,_,e,_,_,Qr⟩:=zAC (zA0 yl)
     injection e with e1 e2 e3
     subst e1
     subst e3
     obtain⟨vb,vo,rfl,c0,c1,c2⟩:=Qr.lo hy
     have k0:=cell_regrown c0
     have k1:=cell_regrown c1
     have k2:=cell_regrown c2
     have k3:=cell_regrown b0
     have k4:=cell_regrown b1
     have k5:=cell_regrown b2
     have ej:(U:Int)-1=(j:Int):=by omega
     have g0:((U:Int) == 0)=false:=by simpa using Tq
     have qy:(j:Int)<(U:Int):=by omega
     clear c0 c1 c2 b0 b1 b2 hy hj Tq Yd Qr
     rcases yI with e1|⟨e1,e2⟩|⟨e1,e2,e3⟩
     all_goals
      refine wp_region_quiet_below (by kernel_rfl) (by kernel_rfl) ?_
      repeat (go_big_quiet_step (first
       | (go_at_call 150;exact Calls.regrown_of (zCo _ rfl _))))
      refine wpQuiet_nil ?_
      intro w' Hp
      have hB:Below W.heap.size W w':=by obtain⟨p,rfl⟩:=Hp;exact below_regrown _ _ _
      clear Hp
      go_wp2
      go_meet
      exact hB
   case rest=>
    rename World=>wx
    have Hs:Below W.heap.size W wx:=hcut
    have yk:=zA3 ((zA0 yl).later Hs)
    have Do:=zA3 ((zA0 YY).below Hs)
    have Ty:=zA3 ((zA0 Dv).trans (Gr.of_below Hs b))
    obtain⟨x0,x1,x2,_,_,_⟩:=zA9 (zA5 (zA0 JN) Hs)
    have hzx:=Hs.size
    have Kx:=zA3 (zHd wx.heap.size c x (wx.alloc (.cells #[.int .i64 x.k,.int .i64 x.n,.string x.s] 59)) (by omega) (by omega) (zAs wx x))
    have hc4:(c:Int)<=4096:=by omega
    clear hcut Hs yl YY Dv JN b0 b1 b2
    go_wp2_with (first
     | (go_at_call 180;refine(zA0 Kx).mono ?_;rintro e w5 ⟨v5,rfl,ZP,QO⟩;have Dq:Hid (zAV w5 w.heap.size (.slice ua U uc) us):=by(have:=(zA0 yk).later (zAP QO);rw[<-zA0 HU] at this;exact this))
     | (at_builtin;refine zDN rfl (.tmp 45) (.tmp 50) rfl w.heap.size _ (.slice ua U uc) v5 us (List.replicate c x) rfl rfl (zA0 Dq) ZP (by rw[List.length_replicate,<-zA0 HU];omega) (by have:=(zAP QO).size;omega) ?_;intro v6 w6 ho6 hg6))
    have YS:=(zA0 Do).below (zAP QO)
    have QI:=(zA0 Ty).trans (Gr.of_below (zAP QO) b)
    exact⟨⟨k+1,us++List.replicate c x,r3,by omega,by go_num,yU,ho6,YS.own (zA0 Dq) Qn hg6,QI.own (zA0 Dq) hg6⟩,by simp[intOf];omega⟩
  ·have h9:¬(k:Int)<(m:Int):=by omega
   have ek:k=m:=by omega
   subst ek
   have e:=zA0 HV
   rw[zA0 HK] at e
   injection e with e
   injection e with e1 e2
   subst e1;subst e2
   obtain⟨ua,uc,rfl,yy,yx,Qr⟩:=zAC ho
   have Yi:Hid (zAV wr w.heap.size (.slice ua us.length uc) us/\Rd wr b rk/\Gr w wr b):=⟨ho,hr,hg⟩
   rw[zA0 Qg] at Yi ⊢
   clear ho hr hg Qr yy yx
   go_wp2_with (go_at_call 150;refine(zAj _).mono ?_;rintro e w4 ⟨rfl,rfl⟩)
   go_ret
   exact⟨_,rfl,zA0 Yi⟩
set_option maxHeartbeats 8000000
def zBa(scheme:Nat)(kind:Int)(count:Nat)(l:List UInt8):Option (List Val×List UInt8):=
 if scheme=1 then zAq kind count l
 else if scheme=2 then (zBB 4 l).bind fun p=>(zCK kind count p.1 p.2).bind fun q=>if q.1.length=count then some q else none
 else if scheme=3 then zF7 kind count l
 else if scheme=4/\kind=1 then zBs count l
 else none
def zI5(w w':World)(e:Ending)(b:Nat)(vs:List Val)(r:List UInt8):Prop:=∃v,e=.returned v/\zAV w' w.heap.size v vs/\Rd w' b r/\Gr w w' b
theorem zLc{w w':World}{e:Ending}{b:Nat}{vs:List Val}{r:List UInt8}(h:zFv w w' e b (some (vs,r))):zI5 w w' e b vs r:=by
 rcases h with ⟨vs',r',v,he,h3,h4,h5,h6⟩|⟨he,_⟩
 ·injection he with he;injection he with e1 e2;subst e1;subst e2
  exact⟨v,h3,h4,h5,h6⟩
 ·cases he
theorem zDg{kind:Int}{count:Nat}{l r:List UInt8}{vs:List Val}(h:zF7 kind count l=some (vs,r)):∃m l1 W l2 t,zBB 2 l=some (m,l1)/\zAq kind m l1=some (W,l2)/\zBM W=true/\zCA count (bl (m-1)) l2=some (t,r)/\(∀k∈zAm t (bl (m-1)) count,k<m)/\(∀j,j<m->j∈zAm t (bl (m-1)) count)/\vs=(zAm t (bl (m-1)) count).map fun k=>W.getD k .null:=by
 unfold zF7 at h
 cases hn:zBB 2 l with
 | none=>rw[hn] at h;cases h
 | some p=>
  rw[hn,Option.bind_some] at h
  cases hp:zAq kind p.1 p.2 with
  | none=>rw[hp] at h;cases h
  | some q=>
   rw[hp,Option.bind_some] at h
   split at h
   ·rename_i hs
    cases hb:zCA count (bl (p.1-1)) q.2 with
    | none=>rw[hb] at h;cases h
    | some t=>
     rw[hb,Option.bind_some] at h
     split at h
     ·rename_i hc
      injection h with h;injection h with h1 h2
      subst h2
      exact⟨p.1,p.2,q.1,q.2,t.1,rfl,hp,hs,hb,hc.1,hc.2,h1.symm⟩
     ·cases h
   ·cases h
theorem zGY{b count:Nat}{sch kind:Int}{w:World}{l r:List UInt8}{vs:List Val}(f:Nat)
  (hf:(sch=1/\f=163)∨(sch=2/\f=164)∨(sch=3/\f=165)) (QF:Calls Tryz.prog f #[.pointer (some ⟨b,0,none⟩),.int .i64 kind,.int .i64 count] w fun e w'=>zI5 w w' e b vs r) :
  Calls Tryz.prog 152 #[.pointer (some ⟨b,0,none⟩),.int .i64 sch,.int .i64 kind,.int .i64 count] w fun e w'=>zI5 w w' e b vs r:=by
 have HC:=zA3 QF
 clear QF
 rcases hf with ⟨rfl,rfl⟩|⟨rfl,rfl⟩|⟨rfl,rfl⟩
 ·go_enter Tryz.func152,Tryz.ntmps152
  go_wp2_with (go_at_call 163;refine(zA0 HC).mono ?_;rintro e w1 ⟨v1,rfl,h1⟩)
  go_ret
  exact⟨_,rfl,h1⟩
 ·go_enter Tryz.func152,Tryz.ntmps152
  go_wp2_with (go_at_call 164;refine(zA0 HC).mono ?_;rintro e w1 ⟨v1,rfl,h1⟩)
  go_ret
  exact⟨_,rfl,h1⟩
 ·go_enter Tryz.func152,Tryz.ntmps152
  go_wp2_with (go_at_call 165;refine(zA0 HC).mono ?_;rintro e w1 ⟨v1,rfl,h1⟩)
  go_ret
  exact⟨_,rfl,h1⟩
theorem zMF{b count:Nat}{w:World}{l r:List UInt8}{vs:List Val}(QF:Calls Tryz.prog 166 #[.pointer (some ⟨b,0,none⟩),.int .i64 count] w fun e w'=>zI5 w w' e b vs r) :
  Calls Tryz.prog 152 #[.pointer (some ⟨b,0,none⟩),.int .i64 4,.int .i64 1,.int .i64 count] w fun e w'=>zI5 w w' e b vs r:=by
 have HC:=zA3 QF
 clear QF
 go_enter Tryz.func152,Tryz.ntmps152
 go_wp2_with (first
  | (go_at_call 150;refine(zAj _).mono ?_;rintro e w4 ⟨rfl,rfl⟩)
  | (go_at_call 166;refine(zA0 HC).mono ?_;rintro e w1 ⟨v1,rfl,h1⟩))
 go_ret
 exact⟨_,rfl,h1⟩
theorem zHQ{b count sch:Nat}{kind:Int}{w:World}{l r:List UInt8}{vs:List Val}(hc:count<=4096)(hk:kind=1∨kind=2)(h:Rd w b l)(hl:l.length<=140737488355328)(hv:zBa sch kind count l=some (vs,r)) :
  Calls Tryz.prog 152 #[.pointer (some ⟨b,0,none⟩),.int .i64 (sch:Int),.int .i64 kind,.int .i64 count] w fun e w'=>zI5 w w' e b vs r:=by
 unfold zBa at hv
 split at hv
 ·rename_i hs
  subst hs
  refine zGY (l:=l) 163 (.inl ⟨rfl,rfl⟩) ?_
  have:=zCe b count kind l w hk (by omega) h hl
  rw[hv] at this
  exact this.mono fun e w' h=>zLc h
 ·split at hv
  ·rename_i hs
   subst hs
   refine zGY (l:=l) 164 (.inr (.inl ⟨rfl,rfl⟩)) ?_
   cases hn:zBB 4 l with
   | none=>rw[hn] at hv;cases hv
   | some p=>
    rw[hn,Option.bind_some] at hv
    cases hr:zCK kind count p.1 p.2 with
    | none=>rw[hr] at hv;cases hv
    | some q=>
     rw[hr,Option.bind_some] at hv
     split at hv
     ·rename_i Hf
      injection hv with hv;subst hv
      exact zR0 hc hk h hl hn hr Hf
     ·cases hv
  ·split at hv
   ·rename_i hs
    subst hs
    refine zGY (l:=l) 165 (.inr (.inr ⟨rfl,rfl⟩)) ?_
    obtain⟨m,l1,W,l2,t,h1,h2,h3,h4,h5,h6,rfl⟩:=zDg hv
    exact zNk hc hk h hl h1 h2 h3 h4 h5 h6
   ·split at hv
    ·rename_i hs
     obtain⟨rfl,rfl⟩:=hs
     refine zMF (l:=l) ?_
     have:=zGt b count l w hc h hl
     rw[hv] at this
     exact this.mono fun e w' h=>zLc h
    ·cases hv
def zB7(l:List UInt8):Option (Nat×Int×List Val):=
 (zBB 1 l).bind fun a=>(zBB 1 a.2).bind fun b=>if b.1=1∨b.1=2 then
  (zBB 4 b.2).bind fun c=>if c.1<=4096 then (zBp c.1 c.2).bind fun d=>(zBa a.1 (b.1:Int) (d.1.count false) d.2).bind fun e=>
   if e.2=[] then some (a.1,(b.1:Int),zAU d.1 e.1) else none
  else none
 else none
theorem zDv{α:Type}{c:Prop}[Decidable c]{a b:α}(h:(if c then some a else none)=some b):c/\a=b:=by
 by_cases hc:c
 ·rw[if_pos hc] at h;injection h with h;exact⟨hc,h⟩
 ·rw[if_neg hc] at h;cases h
theorem zEn{sch:Nat}{kind:Int}{count:Nat}{l r:List UInt8}{vs:List Val}(h:zBa sch kind count l=some (vs,r)):vs.length=count:=by
 unfold zBa at h
 split at h
 ·exact(zBr h).1
 ·split at h
  ·cases hn:zBB 4 l with
   | none=>rw[hn] at h;cases h
   | some p=>
    rw[hn,Option.bind_some] at h
    cases hr:zCK kind count p.1 p.2 with
    | none=>rw[hr] at h;cases h
    | some q=>
     rw[hr,Option.bind_some] at h
     split at h
     ·injection h with h;subst h;assumption
     ·cases h
  ·split at h
   ·obtain⟨m,l1,W,l2,t,_,_,_,_,_,_,rfl⟩:=zDg h
    rw[List.length_map,zDt]
   ·split at h
    ·unfold zBs at h
     cases hM:zBB 8 l with
     | none=>rw[hM] at h;cases h
     | some p=>
      rw[hM,Option.bind_some] at h
      cases hd:zBB 1 p.2 with
      | none=>rw[hd] at h;cases h
      | some q=>
       rw[hd,Option.bind_some] at h
       split at h
       ·cases hb:zCA count q.1 q.2 with
        | none=>rw[hb] at h;cases h
        | some t=>
         rw[hb,Option.bind_some] at h
         have h1:=(zDv h).2
         injection h1 with e1 e2
         rw[<-e1,List.length_map,zDt]
       ·cases h
    ·cases h
theorem zEO{l:List UInt8}{sch:Nat}{kind:Int}{xs:List Val}(h:zB7 l=some (sch,kind,xs)):∃l1 kd l2 n l3 nl l4 vs,zBB 1 l=some (sch,l1)/\zBB 1 l1=some (kd,l2)/\kind=(kd:Int)/\(kd=1∨kd=2)/\zBB 4 l2=some (n,l3)/\n<=4096/\zBp n l3=some (nl,l4)/\zBa sch kind (nl.count false) l4=some (vs,[])/\xs=zAU nl vs:=by
 unfold zB7 at h
 cases h1:zBB 1 l with
 | none=>rw[h1] at h;cases h
 | some a=>
  rw[h1,Option.bind_some] at h
  cases h2:zBB 1 a.2 with
  | none=>rw[h2] at h;cases h
  | some b=>
   rw[h2,Option.bind_some] at h
   split at h
   ·rename_i hk
    cases h3:zBB 4 b.2 with
    | none=>rw[h3] at h;cases h
    | some c=>
     rw[h3,Option.bind_some] at h
     split at h
     ·rename_i hc
      cases h4:zBp c.1 c.2 with
      | none=>rw[h4] at h;cases h
      | some d=>
       rw[h4,Option.bind_some] at h
       cases h5:zBa a.1 (b.1:Int) (d.1.count false) d.2 with
       | none=>rw[h5] at h;cases h
       | some e=>
        rw[h5,Option.bind_some] at h
        split at h
        ·rename_i he
         injection h with h;injection h with g1 g2;injection g2 with g2 g3
         subst g1;subst g2
         exact⟨a.2,b.1,b.2,c.1,c.2,d.1,d.2,e.1,rfl,h2,rfl,hk,h3,hc,h4,by rw[h5,<-he],g3.symm⟩
        ·cases h
     ·cases h
   ·cases h
theorem zDd{count:Nat}{l r:List UInt8}{nl:List Bool}(h:zBp count l=some (nl,r)):nl.length=count/\r.length<=l.length:=by
 unfold zBp at h
 cases hn:zBB 1 l with
 | none=>rw[hn] at h;cases h
 | some p=>
  rw[hn,Option.bind_some] at h
  have:=zAo hn
  split at h
  ·injection h with h;injection h with h1 h2
   subst h1;subst h2;exact⟨by simp,this⟩
  ·split at h
   ·cases hb:zCA count 1 p.2 with
    | none=>rw[hb] at h;cases h
    | some q=>
     rw[hb,Option.bind_some] at h
     split at h
     ·injection h with h;injection h with h1 h2
      subst h1;subst h2
      exact⟨zGx _ _,by have:=(zD8 hb).2.2.1;omega⟩
     ·cases h
   ·cases h
def zNO(a b c:Value):Nat->Value
 | 0=>a
 | 1=>b
 | _=>c
theorem zEy(w:World)(a b c:Value):(w.alloc (.cells #[a,b,c] 148)).rowIs w.heap.size 148 3 (zNO a b c):=by
 refine World.rowIs_alloc w _ 148 _ ?_
 intro i hi
 match i,hi with
 | 0,_=>rfl
 | 1,_=>rfl
 | 2,_=>rfl
theorem zDx{w:World}{g:Nat}{a b c:Value}(h:w.rowIs g 148 3 (zNO a b c)):w.cell? ⟨g,0,none⟩=some a/\w.cell? ⟨g,1,none⟩=some b/\w.cell? ⟨g,2,none⟩=some c/\w.frozen? ⟨g,0,none⟩=false/\w.frozen? ⟨g,1,none⟩=false/\w.frozen? ⟨g,2,none⟩=false:=
 ⟨h.cell (by omega),h.cell (by omega),h.cell (by omega),h.frozen _,h.frozen _,h.frozen _⟩
theorem zAV.putg{w:World}{B g j:Nat}{v:Value}{xs:List Val}(h:zAV w B v xs)(hg:g<B)(u:Value):zAV (w.setCell ⟨g,j,none⟩ u) B v xs:=h.gr (zAY _ _ _ _) hg
theorem zNG{b sch:Nat}{kind:Int}{l:List UInt8}{xs:List Val}{w:World}(h:Rd w b l)(hl:l.length<=140737488355328)(hd:zB7 l=some (sch,kind,xs)) :
  Calls Tryz.prog 122 #[.pointer (some ⟨b,0,none⟩)] w fun e w'=>∃v,e=.returned (.agg #[.int .i64 (sch:Int),.int .i64 kind,v])/\zAV w' w.heap.size v xs/\Gr w w' b:=by
 obtain⟨l1,kd,l2,n,l3,nl,l4,vs,h1,h2,rfl,hk,h3,hn,h4,h5,rfl⟩:=zEO hd
 have b1:=zAo h1
 have b2:=zAo h2
 have b3:=zAo h3
 obtain⟨Yf,b4⟩:=zDd h4
 have Yu:=zEn h5
 have ZV:sch<256:=by
  obtain⟨g1,rfl,rfl⟩:=zBD h1
  have:=zBn (l.take 1)
  have h2:(l.take 1).length=1:=by rw[List.length_take];omega
  rw[h2] at this;simpa using this
 have DZ:nl.count false+nl.count true=n:=by
  rw[<-Yf]
  have:∀m:List Bool,m.count false+m.count true=m.length:=by
   intro m
   induction m with
   | nil=>rfl
   | cons a m ih=>cases a<;>simp[List.count_cons]<;>omega
  exact this nl
 have JT:((kd:Int))=1∨(kd:Int)=2:=by omega
 have C1:=zA3 (fun o=>zAT (h.alloc o) hl h1 (by decide))
 have C2:=zA3 (fun W (hW:Rd W b l1)=>zAT hW (by omega) h2 (by decide))
 have C3:=zA3 (fun W (hW:Rd W b l2)=>zAT hW (by omega) h3 (by decide))
 have C4:Hid (∀W,Rd W b l3->Calls Tryz.prog 151 #[.pointer (some ⟨b,0,none⟩),.int .i64 n] W fun e w'=>∃g,e=.returned (.tuple #[.slice (some ⟨g,0,none⟩) n n,.int .i64 (nl.count true:Nat)])/\w'.rowIs g 4 n (fun j=>.bool (nl.getD j false))/\W.heap.size<=g/\Rd w' b l4/\Gr W w' b):=fun W hW=>by
  have:=zGw b n l3 W hn hW (by omega)
  rw[h4] at this
  refine this.mono ?_
  rintro e w' (⟨nl',r',g,he,g1,g2,g3,g4,g5,g6⟩|⟨he,_⟩)
  ·injection he with he;injection he with e1 e2;subst e1;subst e2
   exact⟨g,g1,g2,g4,g5,g6⟩
  ·cases he
 have yO:nl.count false<=4096:=by omega
 have C5:=zA3 (fun W (hW:Rd W b l4)=>zHQ yO JT hW (by omega) h5)
 have Qn:=h.ne
 have ZW:w.heap.size≠b:=by omega
 have JN:=zA3 (zEy w (.int .i64 0) (.int .i64 0) (.slice none 0 0))
 have HSP:Hid (∀W g a c,W.rowIs g 4 n (fun j=>.bool (nl.getD j false))->zAR W a vs->Calls Tryz.prog 153 #[.slice (some ⟨g,0,none⟩) n n,.slice a vs.length c] W fun e w'=>∃v,e=.returned v/\zAV w' W.heap.size v (zAU nl vs)/\Below W.heap.size W w'):=fun W g a c hg ha=>zMX g n nl a c vs W hn Yf hg ha Yu.symm
 have hni:(n:Int)<=4096:=by omega
 obtain⟨cT,Fb⟩:∃cT,cT=nl.count true:=⟨_,rfl⟩
 obtain⟨cF,Fc⟩:∃cF,cF=nl.count false:=⟨_,rfl⟩
 rw[<-Fb] at C4
 rw[<-Fc] at C5
 have e1:(n:Int)-(cT:Int)=(cF:Int):=by omega
 have hcTn:cT<=n:=by omega
 have JH:=zA3 ZW
 have yE:((bs []).data)=#[]:=rfl
 clear h h1 h2 h3 h4 h5 hd DZ Fb Fc Yu Yf yO b1 b2 b3 b4
 rcases hk with rfl|rfl
 all_goals
  go_enter Tryz.func122,Tryz.ntmps122
  go_wp2_with (first
   | (go_at_call 149;first | (refine(zA0 C3 _ Hu).mono ?_;rintro e w3 ⟨rfl,Qt,Qw⟩) | (refine(zA0 C2 _ Hq).mono ?_;rintro e w2 ⟨rfl,Hu,Hj⟩) | (refine(zA0 C1 _).mono ?_;rintro e w1 ⟨rfl,Hq,Hn⟩))
   | (go_at_call 150;refine(zAj _).mono ?_;rintro e wE ⟨rfl,rfl⟩)
   | (go_at_call 151;refine(zA0 C4 _ Qt).mono ?_;rintro e w4 ⟨g,rfl,Zv,TR,Gy,Yh⟩)
   | (go_at_call 152;refine(zA0 C5 _ Gy).mono ?_;rintro e w5 ⟨v5,rfl,ZP,YS,QI⟩;obtain⟨a5,c5,rfl,_,_,Jr⟩:=zAC ZP;have c9:w5.cell? ⟨b,0,none⟩=some (.string ⟨#[]⟩):=YS.cell)
   | (go_at_call 153;refine(zA0 HSP _ _ _ _ (zC8 Zv QI (by have:=Hn.size;have:=Hj.size;have:=Qw.size;simp at *;omega)) Jr).mono ?_;rintro e w6 ⟨v6,rfl,ho6,GP⟩;obtain⟨a6,c6,rfl,_,_,_⟩:=zAC ho6;obtain⟨p0,p1,p2,q0,q1,q2⟩:=zDx (zA5 (zC8 (zC8 (zC8 (zC8 (zC8 (zA0 JN) Hn (zA0 JH)) Hj (zA0 JH)) Qw (zA0 JH)) Yh (zA0 JH)) QI (zA0 JH)) GP)))
  have hz:w.heap.size+1<=wE.heap.size:=by have:=Hn.size;have:=Hj.size;have:=Qw.size;have:=Yh.size;have:=QI.size;simp at *;omega
  refine bodyPost_ret (v:=.agg #[.int .i64 (sch:Int),.int .i64 _,.slice a6 (zAU nl vs).length c6]) ?_ rfl ⟨_,rfl,?_,?_⟩
  ·simp[results,Tryz.results122,go_sem,p0,p1,p2]
  ·exact zEb (((ho6.putg (by omega) _).putg (by omega) _).putg (by omega) _) (by omega)
  ·exact(((((Hn.of_alloc.trans Hj).trans Qw).trans Yh).trans QI).trans (Gr.of_below GP b)).put3 (Nat.le_refl _) _ _ _ _ _ _
theorem zNI(p q:Addr)(w:World) :
  CallsD Tryz.prog 121 #[.pointer (some p),.pointer (some q)] .returning w fun e u' w'=>e=.returned (.tuple #[])/\u'=.returning/\w'=w:=by
 refine callsD_of_wpS Tryz.func121 rfl fun c₀ cs hu=>?_
 apply wpS_seq
 apply wpS_region
 simp[wpOpsS,go_sem,recoverD,hu,Tryz.ntmps121,Exit.thenS]
 apply wpS_seq
 apply wpS_seq
 apply wpS_region
 simp[wpOpsS,go_sem,Exit.thenS]
 refine wpS_cond (t:=true) (by simp[Act.eval,Array.replicate]) ?_
 simp only[if_true]
 refine wpS_of_wp (wp_ret ?_)
 cases c₀
 simp_all [bodyPostS,results,Tryz.results121,Exit.thenS]
theorem Rd.made(w:World)(l:List UInt8):Rd (w.alloc (.cells #[.string (bs l)] 174)) w.heap.size l:=At1.alloc w 174 _
theorem zTn(s:ByteArray):bs s.data.toList=s:=by simp[bs]
theorem zMv{sch:Nat}{kind:Int}{l:List UInt8}{xs:List Val}{w:World}(hl:l.length<=140737488355328)(hd:zB7 l=some (sch,kind,xs)) :
  Calls Tryz.prog 102 #[.string (bs l)] w fun e w'=>∃v,e=.returned (.tuple #[.agg #[.int .i64 (sch:Int),.int .i64 kind,v],.int .i64 0])/\zAV w' w.heap.size v xs/\Below w.heap.size w w':=by
 have hmf:=zEM
 have HC:Hid (∀o1 o2,Calls Tryz.prog 122 #[.pointer (some ⟨w.heap.size+1+1,0,none⟩)] (((w.alloc o1).alloc o2).alloc (.cells #[.string (bs l)] 174)) fun e w'=>∃v,e=.returned (.agg #[.int .i64 (sch:Int),.int .i64 kind,v])/\zAV w' (w.heap.size+1+1+1) v xs/\Gr (((w.alloc o1).alloc o2).alloc (.cells #[.string (bs l)] 174)) w' (w.heap.size+1+1)):=fun o1 o2=>by
  have h:=Rd.made ((w.alloc o1).alloc o2) l
  have e:((w.alloc o1).alloc o2).heap.size=w.heap.size+1+1:=by simp
  rw[e] at h
  have h2:=zNG h hl hd
  have e2:(((w.alloc o1).alloc o2).alloc (.cells #[.string (bs l)] 174)).heap.size=w.heap.size+1+1+1:=by simp
  rw[e2] at h2
  exact h2
 have HX:Hid (∀w1 o,Gr (((w.alloc (.cells #[.int .i64 0,.int .i64 0,.slice none 0 0] 148)).alloc (.cells #[.int .i64 0] 24)).alloc o) w1 (w.heap.size+1+1)->w1.rowIs w.heap.size 148 3 (zNO (.int .i64 0) (.int .i64 0) (.slice none 0 0))/\At1 w1 (w.heap.size+1) 24 (.int .i64 0)):=fun w1 o hg=>by
  refine⟨zC8 (((zEy w _ _ _).alloc _).alloc _) hg (by omega),?_⟩
  have h:=At1.alloc (w.alloc (.cells #[.int .i64 0,.int .i64 0,.slice none 0 0] 148)) 24 (.int .i64 0)
  have e:(w.alloc (.cells #[.int .i64 0,.int .i64 0,.slice none 0 0] 148)).heap.size=w.heap.size+1:=by simp
  rw[e] at h
  exact(h.new o).gr hg (by omega)
 go_enter_defers Tryz.func102,Tryz.ntmps102
 go_wp2_with (go_at_call 122;refine(zA0 HC _ _).mono ?_;rintro e w1 ⟨v1,rfl,QU,Hn⟩;obtain⟨a1,c1,rfl,_,_,_⟩:=zAC QU;obtain⟨GR,Ji⟩:=zA0 HX w1 _ Hn;obtain⟨p0,p1,p2,q0,q1,q2⟩:=zDx GR;have y0:=Ji.cell;have z0:=World.rowIs.frozen Ji 0)
 refine leaves_cons (f:=121) (args:=#[.pointer (some ⟨w.heap.size,0,none⟩),.pointer (some ⟨w.heap.size+1,0,none⟩)]) (by simp) (by simp[go_sem]) ?_
 refine(zNI ⟨w.heap.size,0,none⟩ ⟨w.heap.size+1,0,none⟩ _).mono ?_
 rintro e u' w'' ⟨rfl,rfl,rfl⟩
 have hz:w.heap.size+1+1+1<=w1.heap.size:=by have:=Hn.size;simpa using this
 have hb:Below w.heap.size w w1:=by
  refine⟨Hn.os,Hn.tape,Hn.output,by omega,fun i hi=>?_⟩
  rw[Hn.block i (by simp;omega) (fun e=>by injection e with e;omega),Below.heap_alloc _ _ _ (by simp;omega),Below.heap_alloc _ _ _ (by simp;omega),Below.heap_alloc _ _ _ hi]
 refine⟨.tuple #[.agg #[.int .i64 (sch:Int),.int .i64 kind,.slice a1 xs.length c1],.int .i64 0],?_,⟨_,rfl,?_,?_⟩⟩
 ·simp[results,Tryz.results102,go_sem,p0,p1,p2,y0]
 ·exact zEb ((((QU.putg (by omega) _).putg (by omega) _).putg (by omega) _).putg (by omega) _) (by omega)
 ·exact(((hb.setCell (p:=⟨w.heap.size,0,none⟩) (Nat.le_refl _) _).setCell (p:=⟨w.heap.size,1,none⟩) (Nat.le_refl _) _).setCell (p:=⟨w.heap.size,2,none⟩) (Nat.le_refl _) _).setCell (p:=⟨w.heap.size+1,0,none⟩) (by simp) _
theorem zLF(base b0:Nat)(zs:List Int)(xs:List Val)(vv v:Value)(w:World)(Hd:zBC w base v zs)(Hf:zs.length<=1000000)(hl:xs.length<=4096)(hs:∀x∈xs,x.s.size<=1000)(Hv:base<=w.heap.size)(ha:zAV w b0 vv xs) :
  Calls Tryz.prog 118 #[v,vv] w fun e w'=>∃W v',zBW xs W/\e=.returned v'/\zBC w' base v' (zs++zDA W xs)/\zAt w w' v v':=by
 obtain⟨i6,YL,z60,z61,z62⟩:=info_parts Tryz.info73
 have Ym:=zC3 Hd ha
 obtain⟨aa,ca,rfl,YJ,GU,Hk⟩:=zAC ha
 have yc:∀g,v.ownBlock=some g->g<w.heap.size:=fun g hg=>(zBN Hd hg).2
 have H1:=zA3 (zHP aa ca xs w (by omega) YJ Hk GU)
 have H2:Hid (∀w1 v5,zAV w1 w.heap.size v5 xs->Below w.heap.size w w1->Calls Tryz.prog 143 #[v5,.func (.func 104) #[] #[]] w1 fun e w'=>e=.returned (.tuple #[])/\∃S,(zAV w' w.heap.size v5 S/\Below w.heap.size w w')/\S.Perm xs/\zBe S):=fun w1 v5 h1 h2=>
  (zNz w.heap.size xs v5 w1 (by omega) h1).mono fun e w' ⟨he,S,q1,q2,q3,q4⟩=>⟨he,S,⟨q1,h2.trans (q2.below h2.size fun g hg=>(World.ownsRow.lt h1 g hg).1)⟩,q3,q4⟩
 have H3:Hid (∀w2 v5 S,(zAV w2 w.heap.size v5 S/\Below w.heap.size w w2)->(S.Perm xs/\zBe S)->Calls Tryz.prog 144 #[v5] w2 fun e w'=>∃W a6 c6,e=.returned (.slice a6 W.length c6)/\Hid (zBW xs W)/\Hid (zAV w' w.heap.size (.slice a6 W.length c6) W/\Below w.heap.size w w')):=fun w2 v5 S ⟨h1,h2⟩ ⟨h3,h4⟩=>
  (zJ7 w.heap.size S v5 w2 (by rw[h3.length_eq];omega) h1).mono fun e w' ⟨v',he,q1,q2⟩=>by
   obtain⟨a6,c6,rfl,_⟩:=zAC q1
   exact⟨zCH S,a6,c6,he,⟨S,h3,h4,rfl⟩,q1,h2.trans (q2.below h2.size fun g hg=>(World.ownsRow.lt h1 g hg).1)⟩
 have H4:Hid (∀w3 W a6 c6,Hid (zBW xs W)->Hid (zAV w3 w.heap.size (.slice a6 W.length c6) W/\Below w.heap.size w w3)->Calls Tryz.prog 113 #[v,.int .u64 (W.length:Int),.int .i64 2] w3 fun e w'=>∃v',e=.returned v'/\Hid (zBC w' base v' (zs++beL (W.length:Int) 2 2)/\zAV w' w.heap.size (.slice a6 W.length c6) W/\zAt w w' v v')):=fun w3 W a6 c6 hW ⟨h1,h2⟩=>by
  have hO:zBC w3 base v zs:=zAc Hd h2
  exact(zBv base zs (W.length:Int) 2 v w3 (by omega) hO (by omega) (by have:=h2.size;omega)).mono fun e w' ⟨v',he,q1,q2⟩=>⟨v',he,q1,h1.grew q2 (zC3 hO h1),(zAt.of_below h2 v).trans q2⟩
 have H5:Hid (∀w4 W a6 c6 v7,Hid (zBW xs W)->Hid (zBC w4 base v7 (zs++beL (W.length:Int) 2 2)/\zAV w4 w.heap.size (.slice a6 W.length c6) W/\zAt w w4 v v7)->Calls Tryz.prog 120 #[v7,.slice a6 W.length c6] w4 fun e w'=>∃v',e=.returned v'/\Hid (zBC w' base v' (zs++(beL (W.length:Int) 2 2++zBO W))/\zAV w' w.heap.size (.slice a6 W.length c6) W/\zAt w w' v v')):=fun w4 W a6 c6 v7 hW ⟨h1,h2,h3⟩=>by
  have Zu:=(zA0 hW).len
  obtain⟨a6',c6',e6,_,_,qX⟩:=zAC h2
  injection e6 with e6 _ _
  subst e6
  have Jj:=zC3 h1 h2
  refine(zGC base _ a6 c6 W v7 w4 h1 (by rw[zAX,zAK];omega) (fun x hx=>hs x ((zA0 hW).sub hx)) (by have:=h3.1.size;omega) qX (fun ad e=>Jj ad.block (by rw[e];rfl))).mono fun e w' ⟨v',he,q1,q2⟩=>⟨v',he,by rw[<-List.append_assoc];exact q1,h2.grew q2 Jj,h3.trans q2⟩
 have KO:=zA3 yc
 have HS:=zA3 hs
 have Qf:=zA3 Hk
 have JE:Hid (∀ad,aa=some ad->v.ownBlock≠some ad.block):=fun ad e=>Ym ad.block (by rw[e];rfl)
 clear Hd hs ha Ym YJ GU Hk yc
 go_enter Tryz.func118,Tryz.ntmps118
 go_wp2_with (first
  | (go_at_call 116;refine(zA0 H1).mono ?_;rintro e w1 ⟨v5,rfl,q1,q2⟩;replace q1:=zA3 q1;replace q2:=zA3 q2)
  | (go_at_call 143;refine(zA0 H2 _ _ (zA0 q1) (zA0 q2)).mono ?_;rintro e w2 ⟨rfl,S,q3,q4⟩;replace q3:=zA3 q3;replace q4:=zA3 q4)
  | (go_at_call 144;refine(zA0 H3 _ _ _ (zA0 q3) (zA0 q4)).mono ?_;rintro e w3 ⟨W,a6,c6,rfl,HW,q5⟩;have Zu:(W.length:Int)<=4096:=(by have:=(zA0 HW).len;omega))
  | (go_at_call 113;refine(zA0 H4 _ _ _ _ HW q5).mono ?_;rintro e w4 ⟨v7,rfl,q6⟩)
  | (go_at_call 120;refine(zA0 H5 _ _ _ _ _ HW q6).mono ?_;rintro e w5 ⟨v8,rfl,q7⟩)
  | (at_make;refine wpList_make_row _ rfl (.tmp 26) (.tmp 26) 115 rfl 73 i6 (.int .u64 0) Tryz.underlying115 YL z60 z61 rfl .i64 .i64 xs.length rfl rfl (by rw[z62];omega) (by omega) ?_)
  | fail)
 obtain⟨ns,qv⟩:∃ns,Hid (ns=xs.map (zF1 W)):=⟨_,rfl⟩
 have YA:Hid (ns.length=xs.length):=by show _=_;rw[zA0 qv];simp
 have hsz5:=(zA0 q7).2.2.1.size
 have YS:=((zA0 Qf).grew (zA0 q7).2.2 (zA0 JE))
 have HR5:=zA3 YS
 obtain⟨a6',c6',e6,_,_,qX⟩:=zAC (zA0 q7).2.1
 injection e6 with e6 _ e7
 subst e6 e7
 have HR6:=zA3 qX
 have HRI:=zA3 (zA0 HW).rises
 have HW8:Hid (W.length<=4096):=by show _<=_;omega
 clear YS qX
 go_loopw[30] (fun s wr=>∃k:Nat,k<=xs.length/\s=.int .i64 (k:Int)/\wr.rowIs w5.heap.size 73 xs.length (zPJ ns k)/\Below w5.heap.size w5 wr) (fun s _=>xs.length-(intOf s).toNat)
 case atStart=>exact⟨0,Nat.zero_le _,rfl,(World.rowIs_made w5 (.int .u64 0) xs.length 73).congr fun j hj=>by simp[zPJ],zA1 (Below.refl _ _) _⟩
 case round=>
  obtain⟨k,hk,rfl,hr,hb⟩:=hrel
  by_cases h8:k<xs.length
  ·have h9:(k:Int)<(xs.length:Int):=by omega
   obtain⟨x,hx⟩:∃x,xs[k]?=some x:=⟨_,zAf h8⟩
   rcases(zA0 HR5).later hb with e|⟨rb,ro,rfl,hc⟩
   ·rw[e] at hx;cases hx
   obtain⟨c0,c1,c2⟩:=hc k x hx
   have bl:=zA1 (Below.refl _ wr) (.cells #[.int .i64 x.k,.int .i64 x.n,.string x.s] 59)
   have HP:=zA3 (zQf a6 c6 W x (wr.alloc (.cells #[.int .i64 x.k,.int .i64 x.n,.string x.s] 59)) (by have:=zA0 HW8;omega) ((zA0 HR6).later (zA2 hb bl)) (zA0 HRI))
   rw[Val.open_] at HP
   have Zw:zF1 W x<=4096:=Nat.le_trans (Nat.le_of_lt (zIO ((zA0 HW).mem (List.mem_of_getElem? hx)))) (zA0 HW8)
   have yJ:ns[k]?=some (zF1 W x):=by rw[zA0 qv];simp[hx]
   have HM:=zA3 (zJf yJ)
   generalize zF1 W x=pp at *
   have GQ:=zA3 (hr.alloc (.cells #[.int .i64 x.k,.int .i64 x.n,.string x.s] 59))
   have Qz:=zA3 (zA2 hb bl)
   have TF:=hb.size
   have TN:=hr.lt
   have FACT:Hid (∀w9,Below (wr.alloc (.cells #[.int .i64 x.k,.int .i64 x.n,.string x.s] 59)).heap.size (wr.alloc (.cells #[.int .i64 x.k,.int .i64 x.n,.string x.s] 59)) w9->Hid (w9.rowIs w5.heap.size 73 xs.length (zPJ ns k))/\Hid (Below w5.heap.size w5 w9)/\w9.cell? ⟨w5.heap.size,k,none⟩=some (.int .u64 0)/\w9.frozen? ⟨w5.heap.size,k,none⟩=false):=fun w9 h=>by
    have h3:=zA5 (zA0 GQ) h
    exact⟨h3,zA2 (zA0 Qz) h,by rw[h3.cell h8];simp[zPJ],h3.frozen k⟩
   clear hc hx hr hb bl yJ
   go_wp2_with (go_at_call 145;refine(zA0 HP).mono ?_;rintro e w9 ⟨⟨f,rfl⟩,Ho⟩;obtain⟨HR9,YD,cm,fm⟩:=zA0 FACT _ Ho;clear Ho)
   go_roundw
   case rel=>
    refine⟨k+1,by omega,by go_num,((zA0 HR9).set k (.int .u64 (pp:Int))).congr fun j hj=>?_,(zA0 YD).setCell (p:=⟨w5.heap.size,k,none⟩) (Nat.le_refl _) _⟩
    rw[zA0 HM j]
   case measure=>first | (simp[intOf];omega) | (simp only[intOf];omega)
  ·have h9:¬(k:Int)<(xs.length:Int):=by omega
   have Qk:k=xs.length:=by omega
   rw[Qk,<-zA0 YA] at hr
   have Qv:=zLl hr
   have H7:Hid (Calls Tryz.prog 140 #[v8,.slice (some ⟨w5.heap.size,0,none⟩) xs.length xs.length,.int .i64 (bl (W.length-1):Nat)] wr fun e w'=>∃v3,e=.returned v3/\zBC w' base v3 (zs++zDA W xs)/\zAt w w' v v3):=by
    obtain⟨o1,o2,o3⟩:=zA0 q7
    have Zw:=zEs W (fun x hx=>zA0 HS x ((zA0 HW).sub hx)) (zA0 HW8)
    have hd:bl (W.length-1)<=64:=zFr (Nat.lt_of_le_of_lt (show W.length-1<=4096 by have:=zA0 HW8;omega) (by decide))
    have:=zEg base _ (some ⟨w5.heap.size,0,none⟩) xs.length ns (bl (W.length-1)) v8 wr (zAc o1 hb) (by rw[zAX,zAX,zAK];omega) (by rw[zA0 YA];omega) hd (fun n hn=>by
     rw[zA0 qv] at hn
     obtain⟨x,hx,rfl⟩:=List.mem_map.1 hn
     have h1:=zIO ((zA0 HW).mem hx)
     exact Nat.lt_of_le_of_lt (by omega) (zQM (W.length-1))) (by have:=o3.1.size;have:=hb.size;omega) Qv (fun ad e=>by
     injection e with e
     subst e
     intro h3
     have:=(zBN o1 h3).2
     simp at this)
    rw[zA0 YA] at this
    refine this.mono fun e w' ⟨v3,he,h5,h6⟩=>⟨v3,he,?_,(o3.trans (zAt.of_below hb v8)).trans h6⟩
    rw[zA0 qv] at h5
    rw[zDA,<-List.append_assoc]
    exact h5
   have Dl:=zA3 (fun W'=>zDh W.length W' (by have:=zA0 HW8;omega))
   generalize bl (W.length-1)=D at *
   clear hr hb Qv Qk
   go_wp2_with (first
    | (go_at_call 146;refine(zA0 Dl _).mono ?_;rintro e w2 ⟨rfl,rfl⟩)
    | (go_at_call 140;refine(zA0 H7).mono ?_;rintro e w3 ⟨v3,rfl,h5,h6⟩))
   go_ret
   exact⟨_,_,zA0 HW,rfl,h5,h6⟩
end Go.Proofs.YtekgpapophibcaaGreat
