import Derived.Test.YtbfibfmnemnbbaaGreatRdS
set_option linter.unusedSimpArgs false
set_option linter.unusedVariables false
set_option maxHeartbeats 800000
set_option maxRecDepth 100000
namespace Go.Proofs.YtbfibfmnemnbbaaGreat
open Go.RowKit Go.Sort
theorem words_no4{b count m:Nat}{kind:Int}{l l1 l2:List UInt8}{W:List Val}{w:World}(hc:count<=4096)(hk:kind=1∨kind=2)(h:Rd w b l)(hl:l.length<=140737488355328)
  (hm:numD 2 l=some (m,l1)) (hW:plainsD kind m l1=some (W,l2)) (hs:strictB W=true) (hb:bitsD count (bl (m-1)) l2=none) :
  Calls Tryz.prog 167 #[.pointer (some ⟨b,0,none⟩),.int .i64 kind,.int .i64 count] w fun e w'=>e=dmg/\Gr w w' b:=by
 obtain⟨i4,hi4,z40,z41,z42⟩:=info_parts Tryz.info25
 obtain⟨i6,hi6,z60,z61,z62⟩:=info_parts Tryz.info4
 have hm2:m<65536:=by
  obtain⟨g1,rfl,rfl⟩:=numD_some hm
  have:=beV_lt (l.take 2)
  have h2:(l.take 2).length=2:=by rw[List.length_take];omega
  rw[h2] at this;simpa using this
 have hl1:=numD_le hm
 obtain⟨hWl,hl2⟩:=plainsD_len hW
 have HN:=hide (numd_yes h hl hm (by decide))
 have HP:Hid (∀W2,Rd W2 b l1->Calls Tryz.prog 165 #[.pointer (some ⟨b,0,none⟩),.int .i64 kind,.int .i64 m] W2 fun e w'=>∃v,e=.returned v/\OwnV w' W2.heap.size v W/\Rd w' b l2/\Gr W2 w' b):=fun W2 hW2=>by
  have:=plains_any b m kind l1 W2 hk (by omega) hW2 (by omega)
  rw[hW] at this
  refine this.mono ?_
  rintro e w' (⟨vs,r',v,he,h3,h4,h5,h6⟩|⟨he,_⟩)
  ·injection he with he;injection he with e1 e2;subst e1;subst e2
   exact⟨v,h3,h4,h5,h6⟩
  ·cases he
 have hbl:bl (m-1)<=64:=bl_le (by have:(2:Nat)^64=18446744073709551616:=(by decide);omega)
 obtain⟨d,hd⟩:∃d,d=bl (m-1):=⟨_,rfl⟩
 rw[<-hd] at hb hbl
 have HB:=hide (fun W2 (hW2:Rd W2 b l2)=>bitsd_no hc hbl hW2 (by omega) hb)
 have HWD:Hid (∀W2,Calls Tryz.prog 146 #[.int .i64 m] W2 fun e w'=>e=.returned (.int .i64 (d:Int))/\w'=W2):=fun W2=>by rw[hd];exact widthof_any m W2 (by omega)
 have hbw:=h.ne
 have HS:=hide hs
 have HWL:=hide hWl
 clear h hs hd hWl hb
 go_enter Tryz.func167,Tryz.ntmps167
 go_wp2_with (first
  | (go_at_call 149;refine(unhide HN).mono ?_;rintro e w1 ⟨rfl,hr1,hg1⟩)
  | (go_at_call 165;refine(unhide HP _ hr1).mono ?_;rintro e w2 ⟨v2,rfl,ho2,hr2,hg2⟩;obtain⟨wa,wc,rfl,hwa1,hwa2,hrow2⟩:=ownV_slice ho2;rw[unhide HWL]))
 have hG2:=hg1.trans hg2
 have hz1:=hg1.size
 have hz2:=hG2.size
 have HO2:=hide ho2
 have HROW:=hide hrow2
 clear hg1 hg2 hr1 ho2 hrow2
 go_loopw[22] (fun i wr=>∃k:Nat,k<=m/\i=.int .i64 (k:Int)/\Below w2.heap.size w2 wr) (fun i _=>m-(intOf i).toNat)
 case atStart=>exact⟨0,Nat.zero_le _,rfl,Below.refl _ _⟩
 case round=>
  obtain⟨k,hkm,rfl,hbr⟩:=hrel
  by_cases hlt:k<m
  ·have h9:(k:Int)<(m:Int):=by omega
   have HBR:=hide hbr
   by_cases hk0:k=0
   ·subst hk0
    clear hbr
    go_wp2_with fail
    refine wp_region_quiet_below (by kernel_rfl) (by kernel_rfl) ?_
    repeat (go_big_quiet_step (first
     | (go_at_call 150;exact Calls.regrown_of (ensureB _ rfl _))))
    refine wpQuiet_nil ?_
    intro w' hw'
    have hB:Below wr.heap.size wr w':=by obtain⟨p,rfl⟩:=hw';exact below_regrown _ _ _
    clear hw'
    go_wp2
    go_roundw
    case rel=>exact⟨1,by omega,by go_num,below_step (unhide HBR) hB⟩
    case measure=>simp[intOf];omega
   ·obtain⟨j,hj⟩:∃j,k=j+1:=⟨k-1,by omega⟩
    obtain⟨x,hx⟩:∃x,W[j]?=some x:=⟨_,List.getElem?_eq_getElem (by rw[unhide HWL];omega)⟩
    obtain⟨y,hy⟩:∃y,W[k]?=some y:=⟨_,List.getElem?_eq_getElem (by rw[unhide HWL];omega)⟩
    have HLT:=hide (strict_next (unhide HS) hx (by rw[<-hj];exact hy))
    obtain⟨vb,vo,rfl,c0,c1,c2⟩:=((unhide HROW).later hbr).lo hx
    obtain⟨vb',vo',e,d0,d1,d2⟩:=((unhide HROW).later hbr).lo hy
    injection e with e
    injection e with e1 e2
    subst e1;subst e2
    have k0:=cell_regrown c0
    have k1:=cell_regrown c1
    have k2:=cell_regrown c2
    have k3:=cell_regrown d0
    have k4:=cell_regrown d1
    have k5:=cell_regrown d2
    have ej:(k:Int)-1=(j:Int):=by omega
    have g0:((k:Int) == 0)=false:=by simpa using hk0
    have hjm:(j:Int)<(m:Int):=by omega
    have HO:=hide (order_o x y)
    generalize ordV x y=O at HLT HO
    have HLT2:Hid (decide (O<0)=true):=decide_eq_true (unhide HLT)
    clear c0 c1 c2 d0 d1 d2 hbr hx hy hj hk0
    go_wp2_with fail
    refine wp_region_quiet_below (by kernel_rfl) (by kernel_rfl) ?_
    repeat (go_big_quiet_step (first
     | (go_at_call 80;exact Calls.regrown_of (unhide HO _))
     | (go_at_call 150;exact Calls.regrown_of (ensureB _ (unhide HLT2) _))))
    refine wpQuiet_nil ?_
    intro w' hw'
    have hB:Below wr.heap.size wr w':=by obtain⟨p,rfl⟩:=hw';exact below_regrown _ _ _
    clear hw'
    go_wp2
    go_roundw
    case rel=>exact⟨k+1,by omega,by go_num,below_step (unhide HBR) hB⟩
    case measure=>simp[intOf];omega
  ·have h9:¬(k:Int)<(m:Int):=by omega
   have hr3:=hr2.below hbr
   have hO3:=(unhide HO2).later hbr
   have hrow3:=(unhide HROW).later hbr
   have hG3:=hG2.trans (Gr.of_below hbr b)
   have hz3:=hbr.size
   clear hbr HROW HO2 hr2 hG2
   replace hrow3:=hide hrow3
   have HO3:=hide hO3
   have HR3:=hide hr3
   have HG3:=hide hG3
   have HWLO:Hid (∀ad,wa=some ad->ad.block<wr.heap.size/\b<ad.block):=fun ad had=>by
    obtain⟨g,o,rfl⟩:=hwa1 ad had
    subst had
    have:=World.ownsRow.lt (unhide HO3) g rfl
    exact⟨this.2,Nat.lt_of_lt_of_le hbw (Nat.le_trans hz1 this.1)⟩
   clear hO3 hr3 hG3
   go_wp2_with (first
    | (go_at_call 146;refine(unhide HWD _).mono ?_;rintro e w3 ⟨rfl,rfl⟩)
    | (go_at_call 164;refine(unhide HB _ (unhide HR3)).mono ?_;rintro e w4 ⟨rfl,hg4⟩))
   exact⟨rfl,rfl,(unhide HG3).trans hg4⟩
theorem words_bad{b count m:Nat}{kind:Int}{l l1 l2 t r:List UInt8}{W:List Val}{w:World}(hc:count<=4096)(hk:kind=1∨kind=2)(h:Rd w b l)(hl:l.length<=140737488355328)
  (hm:numD 2 l=some (m,l1)) (hW:plainsD kind m l1=some (W,l2)) (hs:strictB W=true) (hb:bitsD count (bl (m-1)) l2=some (t,r))
  (h1:(∀k∈numsOf t (bl (m-1)) count,k<m)->¬∀j,j<m->j∈numsOf t (bl (m-1)) count) :
  Calls Tryz.prog 167 #[.pointer (some ⟨b,0,none⟩),.int .i64 kind,.int .i64 count] w fun e w'=>e=dmg/\Gr w w' b:=by
 obtain⟨i4,hi4,z40,z41,z42⟩:=info_parts Tryz.info25
 obtain⟨i6,hi6,z60,z61,z62⟩:=info_parts Tryz.info4
 have hm2:m<65536:=by
  obtain⟨g1,rfl,rfl⟩:=numD_some hm
  have:=beV_lt (l.take 2)
  have h2:(l.take 2).length=2:=by rw[List.length_take];omega
  rw[h2] at this;simpa using this
 have hl1:=numD_le hm
 obtain⟨hWl,hl2⟩:=plainsD_len hW
 have HN:=hide (numd_yes h hl hm (by decide))
 have HP:Hid (∀W2,Rd W2 b l1->Calls Tryz.prog 165 #[.pointer (some ⟨b,0,none⟩),.int .i64 kind,.int .i64 m] W2 fun e w'=>∃v,e=.returned v/\OwnV w' W2.heap.size v W/\Rd w' b l2/\Gr W2 w' b):=fun W2 hW2=>by
  have:=plains_any b m kind l1 W2 hk (by omega) hW2 (by omega)
  rw[hW] at this
  refine this.mono ?_
  rintro e w' (⟨vs,r',v,he,h3,h4,h5,h6⟩|⟨he,_⟩)
  ·injection he with he;injection he with e1 e2;subst e1;subst e2
   exact⟨v,h3,h4,h5,h6⟩
  ·cases he
 have hbl:bl (m-1)<=64:=bl_le (by have:(2:Nat)^64=18446744073709551616:=(by decide);omega)
 obtain⟨d,hd⟩:∃d,d=bl (m-1):=⟨_,rfl⟩
 rw[<-hd] at hb h1 hbl
 have HB:=hide (fun W2 (hW2:Rd W2 b l2)=>bitsd_yes hc hbl hW2 (by omega) hb)
 have HWD:Hid (∀W2,Calls Tryz.prog 146 #[.int .i64 m] W2 fun e w'=>e=.returned (.int .i64 (d:Int))/\w'=W2):=fun W2=>by rw[hd];exact widthof_any m W2 (by omega)
 have htl:=hide (bitsD_some hb).1
 have hbw:=h.ne
 have HS:=hide hs
 have HWL:=hide hWl
 have H1:=hide h1
 clear h h1 hs hd hWl
 go_enter Tryz.func167,Tryz.ntmps167
 go_wp2_with (first
  | (go_at_call 149;refine(unhide HN).mono ?_;rintro e w1 ⟨rfl,hr1,hg1⟩)
  | (go_at_call 165;refine(unhide HP _ hr1).mono ?_;rintro e w2 ⟨v2,rfl,ho2,hr2,hg2⟩;obtain⟨wa,wc,rfl,hwa1,hwa2,hrow2⟩:=ownV_slice ho2;rw[unhide HWL]))
 have hG2:=hg1.trans hg2
 have hz1:=hg1.size
 have hz2:=hG2.size
 have HO2:=hide ho2
 have HROW:=hide hrow2
 clear hg1 hg2 hr1 ho2 hrow2
 go_loopw[22] (fun i wr=>∃k:Nat,k<=m/\i=.int .i64 (k:Int)/\Below w2.heap.size w2 wr) (fun i _=>m-(intOf i).toNat)
 case atStart=>exact⟨0,Nat.zero_le _,rfl,Below.refl _ _⟩
 case round=>
  obtain⟨k,hkm,rfl,hbr⟩:=hrel
  by_cases hlt:k<m
  ·have h9:(k:Int)<(m:Int):=by omega
   have HBR:=hide hbr
   by_cases hk0:k=0
   ·subst hk0
    clear hbr
    go_wp2_with fail
    refine wp_region_quiet_below (by kernel_rfl) (by kernel_rfl) ?_
    repeat (go_big_quiet_step (first
     | (go_at_call 150;exact Calls.regrown_of (ensureB _ rfl _))))
    refine wpQuiet_nil ?_
    intro w' hw'
    have hB:Below wr.heap.size wr w':=by obtain⟨p,rfl⟩:=hw';exact below_regrown _ _ _
    clear hw'
    go_wp2
    go_roundw
    case rel=>exact⟨1,by omega,by go_num,below_step (unhide HBR) hB⟩
    case measure=>simp[intOf];omega
   ·obtain⟨j,hj⟩:∃j,k=j+1:=⟨k-1,by omega⟩
    obtain⟨x,hx⟩:∃x,W[j]?=some x:=⟨_,List.getElem?_eq_getElem (by rw[unhide HWL];omega)⟩
    obtain⟨y,hy⟩:∃y,W[k]?=some y:=⟨_,List.getElem?_eq_getElem (by rw[unhide HWL];omega)⟩
    have HLT:=hide (strict_next (unhide HS) hx (by rw[<-hj];exact hy))
    obtain⟨vb,vo,rfl,c0,c1,c2⟩:=((unhide HROW).later hbr).lo hx
    obtain⟨vb',vo',e,d0,d1,d2⟩:=((unhide HROW).later hbr).lo hy
    injection e with e
    injection e with e1 e2
    subst e1;subst e2
    have k0:=cell_regrown c0
    have k1:=cell_regrown c1
    have k2:=cell_regrown c2
    have k3:=cell_regrown d0
    have k4:=cell_regrown d1
    have k5:=cell_regrown d2
    have ej:(k:Int)-1=(j:Int):=by omega
    have g0:((k:Int) == 0)=false:=by simpa using hk0
    have hjm:(j:Int)<(m:Int):=by omega
    have HO:=hide (order_o x y)
    generalize ordV x y=O at HLT HO
    have HLT2:Hid (decide (O<0)=true):=decide_eq_true (unhide HLT)
    clear c0 c1 c2 d0 d1 d2 hbr hx hy hj hk0
    go_wp2_with fail
    refine wp_region_quiet_below (by kernel_rfl) (by kernel_rfl) ?_
    repeat (go_big_quiet_step (first
     | (go_at_call 80;exact Calls.regrown_of (unhide HO _))
     | (go_at_call 150;exact Calls.regrown_of (ensureB _ (unhide HLT2) _))))
    refine wpQuiet_nil ?_
    intro w' hw'
    have hB:Below wr.heap.size wr w':=by obtain⟨p,rfl⟩:=hw';exact below_regrown _ _ _
    clear hw'
    go_wp2
    go_roundw
    case rel=>exact⟨k+1,by omega,by go_num,below_step (unhide HBR) hB⟩
    case measure=>simp[intOf];omega
  ·have h9:¬(k:Int)<(m:Int):=by omega
   have hr3:=hr2.below hbr
   have hO3:=(unhide HO2).later hbr
   have hrow3:=(unhide HROW).later hbr
   have hG3:=hG2.trans (Gr.of_below hbr b)
   have hz3:=hbr.size
   clear hbr HROW HO2 hr2 hG2
   replace hrow3:=hide hrow3
   have HO3:=hide hO3
   have HR3:=hide hr3
   have HG3:=hide hG3
   have HWLO:Hid (∀ad,wa=some ad->ad.block<wr.heap.size/\b<ad.block):=fun ad had=>by
    obtain⟨g,o,rfl⟩:=hwa1 ad had
    subst had
    have:=World.ownsRow.lt (unhide HO3) g rfl
    exact⟨this.2,Nat.lt_of_lt_of_le hbw (Nat.le_trans hz1 this.1)⟩
   clear hO3 hr3 hG3
   go_wp2_with (first
    | (go_at_call 146;refine(unhide HWD _).mono ?_;rintro e w3 ⟨rfl,rfl⟩)
    | (go_at_call 164;refine(unhide HB _ (unhide HR3)).mono ?_;rintro e w4 ⟨A,B,C,rfl,hb4,hA,hB,hC,hr4,hg4⟩)
    | (at_make;first | (refine wpList_make_row _ rfl (.tmp 49) (.tmp 49) 52 rfl 4 i6 (.bool false) Tryz.underlying52 hi6 z60 z61 rfl .i64 .i64 m rfl rfl (by rw[z62];omega) (by omega) ?_) | (refine wpList_make_rows _ rfl (.tmp 51) (.tmp 51) 36 rfl 25 i4 _ Tryz.underlying36 hi4 z40 3 z41 .i64 .i64 count rfl rfl (by rw[z42];omega) (by omega) ?_)))
   have hz4:=hg4.size
   obtain⟨hA4,hB4,hC4⟩:=hb4.lt
   have hG4:=(unhide HG3).trans hg4
   have hrow4:=(unhide hrow3).grx hg4 (fun ad had=>by have:=unhide HWLO ad had;omega)
   have HLO4:Hid (∀ad,wa=some ad->ad.block<w4.heap.size/\ad.block≠A/\ad.block≠B/\ad.block≠C):=fun ad had=>by have:=unhide HWLO ad had;omega
   have HU:Hid (((w4.alloc (.cells (madeCells #[.bool false] m) 4)).alloc (.cells (madeCells #[.int .i64 0,.int .i64 0,.string ⟨#[]⟩] (count*3)) 25)).rowIs w4.heap.size 4 m (fun j=>.bool (useF [] j))):=
    ((World.rowIs_made w4 (.bool false) m 4).congr fun j hj=>by simp[useF]).alloc _
   have HF:Hid (∀ys,Fill ((w4.alloc (.cells (madeCells #[.bool false] m) 4)).alloc (.cells (madeCells #[.int .i64 0,.int .i64 0,.string ⟨#[]⟩] (count*3)) 25)) (w4.heap.size+1) count 0 ys):=fun ys=>by
    have:=Fill.start (w4.alloc (.cells (madeCells #[.bool false] m) 4)) count ys
    simpa using this
   generalize hks:numsOf t d count=ks at *
   have HKS:=hide hks
   have HKL:Hid (ks.length=count):=by rw[<-hks];exact nums_len _ _ _
   have HKA:Hid (∀k,k<count->ks[k]?=some (numAt (leV t) d k)):=fun k hk=>by rw[<-hks];exact nums_at hk
   have hwz:w.heap.size<=w4.heap.size:=by omega
   have hBw:w.heap.size<=B:=by omega
   clear hks HWLO hrow3 HG3 HR3 HO3 hA hB hC hz1 hz2 hz3 hg4
   go_loopw[55] (fun i wr=>∃k:Nat,k<=count/\i=.int .i64 (k:Int)/\Hid (∀j∈ks.take k,j<m)/\Fill wr (w4.heap.size+1) count k (ks.map fun k=>W.getD k .null)/\wr.rowIs w4.heap.size 4 m (fun j=>.bool (useF (ks.take k) j))/\Bits wr A B C d (d*k) t/\Rd wr b r/\RowAt wr wa W/\Gr w wr b) (fun i _=>count-(intOf i).toNat)
   case atStart=>exact⟨0,Nat.zero_le _,rfl,(fun j hj=>by simp at hj:∀j∈ks.take 0,j<m),unhide HF _,unhide HU,(hb4.alloc _).alloc _,(hr4.alloc _).alloc _,(hrow4.later (below_alloc (Below.refl _ _) _)).later (below_alloc (Below.refl _ _) _),hG4.trans ((Gr.alloc _ _ _).trans (Gr.alloc _ _ _))⟩
   case round=>
    obtain⟨k,hkc,rfl,HLES,hf,hu,hbi,hrr,hrw,hgr⟩:=hrel
    by_cases hlt:k<count
    ·have h9:(k:Int)<(count:Int):=by omega
     have hat:=unhide HKA k hlt
     have HC:=hide (next_any hbi hbl hlt hc (unhide htl))
     by_cases hxm:numAt (leV t) d k<m
     case neg=>
      have HGB:Hid (∀w5,Gr wr w5 B->Gr w w5 b):=fun w5 hg5=>hgr.fresh hg5 (by omega)
      generalize numAt (leV t) d k=x at hat hxm HC
      have hxi:¬(x:Int)<(m:Int):=by omega
      clear hat hf hu hbi hrr hrw hgr
      go_wp2_with (first
       | (go_at_call 178;refine(unhide HC).mono ?_;rintro e w5 ⟨rfl,hb5,hg5⟩;clear hb5)
       | (go_at_call 150;refine(ensure_no _).mono ?_;rintro e w6 ⟨rfl,rfl⟩))
      exact⟨rfl,rfl,unhide HGB _ hg5⟩
     have HT1:Hid (ks.take (k+1)=ks.take k++[numAt (leV t) d k]):=by
      obtain⟨g1,g2⟩:=List.getElem?_eq_some_iff.1 hat
      show _=_
      rw[List.take_succ_eq_append_getElem g1,g2]
     obtain⟨y,hy⟩:∃y,W[numAt (leV t) d k]?=some y:=⟨_,List.getElem?_eq_getElem (by rw[unhide HWL];exact hxm)⟩
     have HY:Hid ((ks.map fun k=>W.getD k .null)[k]?=some y):=by
      show _=_
      rw[List.getElem?_map,hat]
      simp[List.getD_eq_getElem?_getD,hy]
     obtain⟨vb,vo,rfl,_,_,_⟩:=hrw.lo hy
     have hvb:=unhide HLO4 _ rfl
     simp only at hvb
     have HKEEP:Hid (∀w5,Gr wr w5 B->Fill w5 (w4.heap.size+1) count k (ks.map fun k=>W.getD k .null)/\w5.rowIs w4.heap.size 4 m (fun j=>.bool (useF (ks.take k) j))/\Rd w5 b r/\RowAt w5 (some ⟨vb,vo,none⟩) W/\Gr w w5 b):=fun w5 hg5=>
      ⟨hf.grx hg5 (by omega),row_grx hu hg5 (by omega),hrr.grx hg5 (by omega),hrw.grx hg5 (fun ad had=>by injection had with had;subst had;simp only;omega),hgr.fresh hg5 (by omega)⟩
     have HLO:=hide (fun w5 (h5:RowAt w5 (some ⟨vb,vo,none⟩) W)=>h5.lo hy)
     have HLE2:Hid (Hid (∀j∈ks.take (k+1),j<m)):=by
      show ∀j∈ks.take (k+1),j<m
      rw[unhide HT1]
      intro j hj
      rcases List.mem_append.1 hj with hj|hj
      ·exact unhide HLES j hj
      ·rw[List.mem_singleton] at hj;rw[hj];exact hxm
     generalize numAt (leV t) d k=x at hat hxm HC HT1 hy HLO
     have hxi:(x:Int)<(m:Int):=by omega
     have HUS:Hid (∀j,useF (ks.take (k+1)) j=if j=x then true else useF (ks.take k) j):=fun j=>by
      unfold useF
      rw[unhide HT1]
      by_cases hj:j=x<;>simp[hj]
     have HSET:Hid (∀w5,Fill w5 (w4.heap.size+1) count k (ks.map fun k=>W.getD k .null)->w5.rowIs w4.heap.size 4 m (fun j=>.bool (useF (ks.take k) j))->Rd w5 b r->RowAt w5 (some ⟨vb,vo,none⟩) W->Gr w w5 b->Bits w5 A B C d (d*(k+1)) t->Fill (w5.setCell ⟨w4.heap.size,x,none⟩ (.bool true)) (w4.heap.size+1) count k (ks.map fun k=>W.getD k .null)/\(w5.setCell ⟨w4.heap.size,x,none⟩ (.bool true)).rowIs w4.heap.size 4 m (fun j=>.bool (useF (ks.take (k+1)) j))/\Rd (w5.setCell ⟨w4.heap.size,x,none⟩ (.bool true)) b r/\RowAt (w5.setCell ⟨w4.heap.size,x,none⟩ (.bool true)) (some ⟨vb,vo,none⟩) W/\Gr w (w5.setCell ⟨w4.heap.size,x,none⟩ (.bool true)) b/\Bits (w5.setCell ⟨w4.heap.size,x,none⟩ (.bool true)) A B C d (d*(k+1)) t):=
      fun w5 a1 a2 a3 a4 a5 a6=>⟨a1.grx (grown_set _ _ _ _) (by omega),(a2.set x (.bool true)).congr fun j hj=>by rw[unhide HUS j];by_cases e:j=x<;>simp[e],a3.grx (grown_set _ _ _ _) (by omega),a4.grx (grown_set _ _ _ _) (fun ad had=>by injection had with had;subst had;simp only;omega),a5.fresh (grown_set _ _ _ _) (by omega),a6.set _ (by omega) (by omega) (by omega)⟩
     clear hat hf hu hbi hrr hrw hgr
     go_wp2_with (first
      | (go_at_call 178;refine(unhide HC).mono ?_;rintro e w5 ⟨rfl,hb5,hg5⟩;obtain⟨hf5,hu5,hr5,hw5,hG5⟩:=unhide HKEEP w5 hg5;have cu:=hu5.cell hxm;have fu:=hu5.frozen x;obtain⟨hf6,hu6,hr6,hw6,hG6,hb6⟩:=unhide HSET w5 hf5 hu5 hr5 hw5 hG5 hb5;obtain⟨p0,p1,p2,q0,q1,q2⟩:=hf6.cells hlt;obtain⟨_,_,ea,c0,c1,c2⟩:=unhide HLO _ hw6;injection ea with ea;injection ea with ea1 ea2;subst ea1;subst ea2;replace hf6:=hide hf6;replace hu6:=hide hu6;replace hr6:=hide hr6;replace hw6:=hide hw6;replace hG6:=hide hG6;replace hb6:=hide hb6;clear hf5 hu5 hr5 hw5 hG5 hb5)
      | (go_at_call 150;refine(ensure_yes _).mono ?_;rintro e w6 ⟨rfl,rfl⟩))
     go_roundw
     case rel=>exact⟨k+1,by omega,by go_num,unhide HLE2,(unhide hf6).put (y:=y) (unhide HY),(((unhide hu6).setOther (by simp) _).setOther (by simp) _).setOther (by simp) _,(unhide hb6).put3 (by omega) (by omega) (by omega) _ _ _ _ _ _,(unhide hr6).put3 (by omega) _ _ _ _ _ _,(((unhide hw6).grx (grown_set _ _ _ _) (by intro ad had;injection had with had;subst had;simp only;omega)).grx (grown_set _ _ _ _) (by intro ad had;injection had with had;subst had;simp only;omega)).grx (grown_set _ _ _ _) (by intro ad had;injection had with had;subst had;simp only;omega),(unhide hG6).put3 (by omega) _ _ _ _ _ _⟩
     case measure=>simp[intOf];omega
    ·have h9:¬(k:Int)<(count:Int):=by omega
     have ek:k=count:=by omega
     subst ek
     have etk:ks.take k=ks:=List.take_of_length_le (by rw[unhide HKL];omega)
     rw[etk] at hu
     have HCN:=hide (bcontains_any w4.heap.size m (useF ks) wr (by omega) hu)
     have eall:(List.range m).all (useF ks)=false:=by
      rw[List.all_eq_false]
      have hbad:=unhide H1 (by have:=unhide HLES;rw[etk] at this;exact this)
      refine Classical.byContradiction fun hno=>hbad fun j hj=>?_
      refine Classical.byContradiction fun hji=>hno ⟨j,List.mem_range.2 hj,?_⟩
      unfold useF
      simpa using hji
     rw[eall] at HCN
     have HG:=hide hgr
     clear hf hu hbi hrr hrw hgr etk eall
     go_wp2_with (first
      | (go_at_call 181;refine(unhide HCN).mono ?_;rintro e w6 ⟨rfl,rfl⟩)
      | (go_at_call 150;refine(ensure_no _).mono ?_;rintro e w7 ⟨rfl,rfl⟩))
     exact⟨rfl,rfl,unhide HG⟩
theorem words_no{b count:Nat}{kind:Int}{l:List UInt8}{w:World}(hc:count<=4096)(hk:kind=1∨kind=2)(h:Rd w b l)(hl:l.length<=140737488355328)(hd:wordsD kind count l=none) :
  Calls Tryz.prog 167 #[.pointer (some ⟨b,0,none⟩),.int .i64 kind,.int .i64 count] w fun e w'=>e=dmg/\Gr w w' b:=by
 unfold wordsD at hd
 cases hm:numD 2 l with
 | none=>exact words_no1 h hl hm
 | some p=>
  obtain⟨m,l1⟩:=p
  rw[hm,Option.bind_some] at hd
  cases hW:plainsD kind m l1 with
  | none=>exact words_no2 hk h hl hm hW
  | some q=>
   obtain⟨W,l2⟩:=q
   simp only[hW,Option.bind_some] at hd
   cases hs:strictB W with
   | false=>exact words_no3 hk h hl hm hW hs
   | true=>
    simp only[hs,if_true] at hd
    cases hb:bitsD count (bl (m-1)) l2 with
    | none=>exact words_no4 hc hk h hl hm hW hs hb
    | some q=>
     obtain⟨t,r⟩:=q
     simp only[hb,Option.bind_some] at hd
     split at hd
     ·cases hd
     ·rename_i hn
      exact words_bad hc hk h hl hm hW hs hb fun g1 g2=>hn ⟨g1,g2⟩
end Go.Proofs.YtbfibfmnemnbbaaGreat
