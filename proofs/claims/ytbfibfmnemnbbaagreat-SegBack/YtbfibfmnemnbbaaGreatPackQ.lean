import Derived.Test.YtbfibfmnemnbbaaGreatPackP
set_option linter.unusedSimpArgs false
set_option linter.unusedVariables false
set_option maxHeartbeats 4000000
set_option maxRecDepth 100000
namespace Go.Proofs.YtbfibfmnemnbbaaGreat
open Go.RowKit Go.Sort
def Found(xs:List Val)(t:Val)(e:Ending):Prop:=∃(k:Nat) (f:Bool),e=.returned (.tuple #[.int .i64 (k:Int),.bool f])/\k<=xs.length/\(∀a x,a<k->xs[a]?=some x->ordV x t<0)/\(∀a x,k<=a->xs[a]?=some x->¬ordV x t<0)
theorem vsearch_any(aa:Option Addr)(ca:Nat)(xs:List Val)(t:Val)(w:World)(hl:xs.length<=1048576)(ha:RowAt w aa xs)
  (hmono:∀(a b:Nat) (x y:Val),a<=b->xs[a]?=some x->xs[b]?=some y->ordV y t<0->ordV x t<0) :
  Calls Tryz.prog 145 #[.slice aa xs.length ca,t.v,.func (.func 80) #[] #[]] w fun e w'=>Found xs t e/\Below w.heap.size w w':=by
 rw[t.open_]
 have HA:=hide ha
 have HMO:=hide hmono
 clear ha hmono
 go_enter Tryz.func145,Tryz.ntmps145
 go_wp2_with fail
 go_loopw[9,10] (fun s9 s10 wr=>∃i j:Nat,s9=.int .i64 (i:Int)/\s10=.int .i64 (j:Int)/\i<=j/\j<=xs.length/\Hid (∀a x,a<i->xs[a]?=some x->ordV x t<0)/\Hid (∀a x,j<=a->xs[a]?=some x->¬ordV x t<0)/\wr.rowIs w.heap.size 25 3 (box3 t)/\Below w.heap.size w wr) (fun s9 s10 _=>(intOf s10-intOf s9).toNat)
 case atStart=>exact⟨0,xs.length,rfl,rfl,Nat.zero_le _,Nat.le_refl _,fun a x h=>(by omega),fun a x h h2=>(by rw[List.getElem?_eq_none (by omega)] at h2;cases h2),box3_alloc w t,below_alloc (Below.refl _ _) _⟩
 case round=>
  obtain⟨i,j,rfl,rfl,hij,hjn,HLO,HHI,hrt,hb⟩:=hrel
  by_cases h1:i<j
  ·have i1:(i:Int)<(j:Int):=by omega
   obtain⟨h,hh⟩:∃h,h=(i+j) / 2:=⟨_,rfl⟩
   have eh:((i:Int)+(j:Int)) / 2=(h:Int):=by omega
   have hhn:h<xs.length:=by omega
   have i2:(h:Int)<(xs.length:Int):=by omega
   have i3:(i:Int)+(j:Int)<=2097152:=by omega
   obtain⟨x,hx⟩:∃x,xs[h]?=some x:=⟨_,List.getElem?_eq_getElem hhn⟩
   rcases(unhide HA).later hb with e|⟨rb,ro,rfl,hc⟩
   ·rw[e] at hx;cases hx
   obtain⟨c0,c1,c2⟩:=hc h x hx
   obtain⟨b0,b1,b2,_,_,_⟩:=box3_cells hrt
   have HX:=hide hx
   have HO:=hide (order_o x t)
   have HRT:=hide hrt
   have HB:=hide hb
   have hihj:i<=h/\h<j:=by omega
   have HHJ:=hide hihj
   obtain⟨O,hO⟩:∃O,Hid (O=ordV x t):=⟨_,rfl⟩
   rw[<-unhide hO] at HO
   clear hc hx hrt hb hh hihj
   go_upto_region 5 with fail
   go_cut[31] (fun s31 wx=>s31=.bool (decide (O<0))/\Below wr.heap.size wr wx)
   case first=>
    have k0:=cell_regrown c0
    have k1:=cell_regrown c1
    have k2:=cell_regrown c2
    have k3:=cell_regrown b0
    have k4:=cell_regrown b1
    have k5:=cell_regrown b2
    clear c0 c1 c2 b0 b1 b2
    refine wp_region_quiet_below (by kernel_rfl) (by kernel_rfl) ?_
    repeat (go_big_quiet_step (first
     | (go_at_call 80;exact Calls.regrown_of (unhide HO _))))
    refine wpQuiet_nil ?_
    intro w' hw'
    have hB:Below wr.heap.size wr w':=by obtain⟨p,rfl⟩:=hw';exact below_regrown _ _ _
    clear hw'
    go_wp2
    go_meet
    exact⟨rfl,hB⟩
   case rest=>
    obtain⟨rfl,hbx⟩:=hcut
    rename World=>wx
    have HRX:=hide (rowIs_later (unhide HRT) hbx)
    have HBX:=hide (below_step (unhide HB) hbx)
    clear hbx c0 c1 c2 b0 b1 b2
    by_cases hO2:O<0
    ·have e1:decide (O<0)=true:=decide_eq_true hO2
     rw[e1]
     have HLO2:Hid (∀a x,a<h+1->xs[a]?=some x->ordV x t<0):=fun a y ha hy=>unhide HMO a h y x (by omega) hy (unhide HX) (by rw[<-unhide hO];exact hO2)
     clear e1
     go_wp2
     go_roundw
     case rel=>exact⟨h+1,j,by go_num,rfl,by have:=unhide HHJ;omega,hjn,HLO2,HHI,unhide HRX,unhide HBX⟩
     case measure=>have:=unhide HHJ;first | (simp[intOf];omega) | (simp only[intOf];omega)
    ·have e1:decide (O<0)=false:=decide_eq_false hO2
     rw[e1]
     have HHI2:Hid (∀a x,h<=a->xs[a]?=some x->¬ordV x t<0):=fun a y ha hy hlt=>hO2 (by rw[unhide hO];exact unhide HMO h a x y ha (unhide HX) hy hlt)
     clear e1
     go_wp2
     go_roundw
     case rel=>exact⟨i,h,rfl,by go_num,(unhide HHJ).1,by have:=unhide HHJ;omega,HLO,HHI2,unhide HRX,unhide HBX⟩
     case measure=>have:=unhide HHJ;first | (simp[intOf];omega) | (simp only[intOf];omega)
  ·have i1:¬(i:Int)<(j:Int):=by omega
   have hij':i=j:=by omega
   have HHI2:Hid (∀a x,i<=a->xs[a]?=some x->¬ordV x t<0):=by rw[hij'];exact HHI
   have hin:i<=xs.length:=by omega
   obtain⟨b0,b1,b2,_,_,_⟩:=box3_cells hrt
   have HB:=hide hb
   have HRT:=hide hrt
   by_cases h2:i<xs.length
   ·have i2:(i:Int)<(xs.length:Int):=by omega
    obtain⟨x,hx⟩:∃x,xs[i]?=some x:=⟨_,List.getElem?_eq_getElem h2⟩
    rcases(unhide HA).later hb with e|⟨rb,ro,rfl,hc⟩
    ·rw[e] at hx;cases hx
    obtain⟨c0,c1,c2⟩:=hc i x hx
    have HO:=hide (order_o x t)
    generalize ordV x t=O at HO
    clear hc hx hrt hb hij' HHI
    go_upto_region 8 with fail
    have k0:=cell_regrown c0
    have k1:=cell_regrown c1
    have k2:=cell_regrown c2
    have k3:=cell_regrown b0
    have k4:=cell_regrown b1
    have k5:=cell_regrown b2
    clear c0 c1 c2 b0 b1 b2
    refine wp_region_quiet_below (by kernel_rfl) (by kernel_rfl) ?_
    repeat (go_big_quiet_step (first
     | (go_at_call 80;exact Calls.regrown_of (unhide HO _))))
    refine wpQuiet_nil ?_
    intro w' hw'
    have hB:Below wr.heap.size wr w':=by obtain⟨p,rfl⟩:=hw';exact below_regrown _ _ _
    clear hw'
    go_wp2
    refine bodyPost_ret (v:=.tuple #[.int .i64 (i:Int),.bool (O == 0)]) (by simp[results,Tryz.results145,go_sem]) rfl ⟨⟨i,_,rfl,hin,unhide HLO,fun a x h1 h2=>by have:=unhide HHI2 a x h1 h2;omega⟩,below_step (unhide HB) hB⟩
   ·have i2:¬(i:Int)<(xs.length:Int):=by omega
    clear hrt hb hij' HHI
    go_upto_region 8 with fail
    refine wp_region_quiet_below (by kernel_rfl) (by kernel_rfl) ?_
    repeat (go_big_quiet_step (first
     | (go_at_call 80;exact Calls.regrown_of (order_o t t _))))
    refine wpQuiet_nil ?_
    intro w' hw'
    have hB:Below wr.heap.size wr w':=by obtain⟨p,rfl⟩:=hw';exact below_regrown _ _ _
    clear hw'
    go_wp2
    refine bodyPost_ret (v:=.tuple #[.int .i64 (i:Int),.bool false]) (by simp[results,Tryz.results145,go_sem]) rfl ⟨⟨i,_,rfl,hin,unhide HLO,fun a x h1 h2=>by have:=unhide HHI2 a x h1 h2;omega⟩,below_step (unhide HB) hB⟩
end Go.Proofs.YtbfibfmnemnbbaaGreat
