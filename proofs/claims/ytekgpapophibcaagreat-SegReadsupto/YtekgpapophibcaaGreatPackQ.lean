import Derived.Test.YtekgpapophibcaaGreatPackU
import Derived.Shelf.SlSortCmp.NoneTotal
set_option linter.unusedSimpArgs false
set_option linter.unusedVariables false
set_option maxHeartbeats 16000000
set_option maxRecDepth 100000
namespace Go.Proofs.YtekgpapophibcaaGreat
open Go.RowKit Go.Sort
def zUs(xs:List Val)(t:Val)(e:Ending):Prop:=∃(k:Nat) (f:Bool),e=.returned (.tuple #[.int .i64 (k:Int),.bool f])/\k<=xs.length/\(∀a x,a<k->xs[a]?=some x->zAh x t<0)/\(∀a x,k<=a->xs[a]?=some x->¬zAh x t<0)
theorem zKJ(aa:Option Addr)(ca:Nat)(xs:List Val)(t:Val)(w:World)(hl:xs.length<=1048576)(ha:zAR w aa xs)
  (DN:∀(a b:Nat) (x y:Val),a<=b->xs[a]?=some x->xs[b]?=some y->zAh y t<0->zAh x t<0) :
  Calls Tryz.prog 145 #[.slice aa xs.length ca,t.v,.func (.func 104) #[] #[]] w fun e w'=>zUs xs t e/\Below w.heap.size w w':=by
 rw[t.open_]
 have HA:=zA3 ha
 have HMO:=zA3 DN
 clear ha DN
 go_enter Tryz.func145,Tryz.ntmps145
 go_wp2_with fail
 go_loopw[9,10] (fun s9 s10 wr=>∃i j:Nat,s9=.int .i64 (i:Int)/\s10=.int .i64 (j:Int)/\i<=j/\j<=xs.length/\Hid (∀a x,a<i->xs[a]?=some x->zAh x t<0)/\Hid (∀a x,j<=a->xs[a]?=some x->¬zAh x t<0)/\wr.rowIs w.heap.size 59 3 (zDU t)/\Below w.heap.size w wr) (fun s9 s10 _=>(intOf s10-intOf s9).toNat)
 case atStart=>exact⟨0,xs.length,rfl,rfl,Nat.zero_le _,Nat.le_refl _,fun a x h=>(by omega),fun a x h h2=>(by rw[List.getElem?_eq_none (by omega)] at h2;cases h2),zAs w t,zA1 (Below.refl _ _) _⟩
 case round=>
  obtain⟨i,j,rfl,rfl,ZX,Jw,YB,ZM,Ft,hb⟩:=hrel
  by_cases h1:i<j
  ·have i1:(i:Int)<(j:Int):=by omega
   obtain⟨h,hh⟩:∃h,h=(i+j) / 2:=⟨_,rfl⟩
   have eh:((i:Int)+(j:Int)) / 2=(h:Int):=by omega
   have hhn:h<xs.length:=by omega
   have i2:(h:Int)<(xs.length:Int):=by omega
   have i3:(i:Int)+(j:Int)<=2097152:=by omega
   obtain⟨x,hx⟩:∃x,xs[h]?=some x:=⟨_,zAf hhn⟩
   rcases(zA0 HA).later hb with e|⟨rb,ro,rfl,hc⟩
   ·rw[e] at hx;cases hx
   obtain⟨c0,c1,c2⟩:=hc h x hx
   obtain⟨b0,b1,b2,_,_,_⟩:=zD7 Ft
   have HX:=zA3 hx
   have HO:=zA3 (zEJ x t)
   have HRT:=zA3 Ft
   have HB:=zA3 hb
   have hihj:i<=h/\h<j:=by omega
   have Zs:=zA3 hihj
   obtain⟨O,hO⟩:∃O,Hid (O=zAh x t):=⟨_,rfl⟩
   rw[<-zA0 hO] at HO
   clear hc hx Ft hb hh hihj
   go_upto_region 5 with fail
   go_cut[31] (fun s31 wx=>s31=.bool (decide (O<0))/\Below wr.heap.size wr wx)
   case first=>
    have k0:=cell_regrown c0
    have k1:=cell_regrown c1
    have k2:=cell_regrown c2
    have k3:=cell_regrown b0
    have k4:=cell_regrown b1
    have k5:=cell_regrown b2
    clear c0 c1 c2 b0 b1 b2
    refine wp_region_quiet_below (by kernel_rfl) (by kernel_rfl) ?_
    repeat (go_big_quiet_step (first
     | (go_at_call 104;exact Calls.regrown_of (zA0 HO _))))
    refine wpQuiet_nil ?_
    intro w' Hp
    have hB:Below wr.heap.size wr w':=by obtain⟨p,rfl⟩:=Hp;exact below_regrown _ _ _
    clear Hp
    go_wp2
    go_meet
    exact⟨rfl,hB⟩
   case rest=>
    obtain⟨rfl,Hs⟩:=hcut
    rename World=>wx
    have Do:=zA3 (zA5 (zA0 HRT) Hs)
    have YI:=zA3 (zA2 (zA0 HB) Hs)
    clear Hs c0 c1 c2 b0 b1 b2
    by_cases Kb:O<0
    ·have e1:decide (O<0)=true:=decide_eq_true Kb
     rw[e1]
     have KJ:Hid (∀a x,a<h+1->xs[a]?=some x->zAh x t<0):=fun a y ha hy=>zA0 HMO a h y x (by omega) hy (zA0 HX) (by rw[<-zA0 hO];exact Kb)
     clear e1
     go_wp2
     go_roundw
     case rel=>exact⟨h+1,j,by go_num,rfl,by have:=zA0 Zs;omega,Jw,KJ,ZM,zA0 Do,zA0 YI⟩
     case measure=>have:=zA0 Zs;first | (simp[intOf];omega) | (simp only[intOf];omega)
    ·have e1:decide (O<0)=false:=decide_eq_false Kb
     rw[e1]
     have Gf:Hid (∀a x,h<=a->xs[a]?=some x->¬zAh x t<0):=fun a y ha hy He=>Kb (by rw[zA0 hO];exact zA0 HMO h a x y ha (zA0 HX) hy He)
     clear e1
     go_wp2
     go_roundw
     case rel=>exact⟨i,h,rfl,by go_num,(zA0 Zs).1,by have:=zA0 Zs;omega,YB,Gf,zA0 Do,zA0 YI⟩
     case measure=>have:=zA0 Zs;first | (simp[intOf];omega) | (simp only[intOf];omega)
  ·have i1:¬(i:Int)<(j:Int):=by omega
   have ZA:i=j:=by omega
   have Gf:Hid (∀a x,i<=a->xs[a]?=some x->¬zAh x t<0):=by rw[ZA];exact ZM
   have hin:i<=xs.length:=by omega
   obtain⟨b0,b1,b2,_,_,_⟩:=zD7 Ft
   have HB:=zA3 hb
   have HRT:=zA3 Ft
   by_cases h2:i<xs.length
   ·have i2:(i:Int)<(xs.length:Int):=by omega
    obtain⟨x,hx⟩:∃x,xs[i]?=some x:=⟨_,zAf h2⟩
    rcases(zA0 HA).later hb with e|⟨rb,ro,rfl,hc⟩
    ·rw[e] at hx;cases hx
    obtain⟨c0,c1,c2⟩:=hc i x hx
    have HO:=zA3 (zEJ x t)
    generalize zAh x t=O at HO
    clear hc hx Ft hb ZA ZM
    go_upto_region 8 with fail
    have k0:=cell_regrown c0
    have k1:=cell_regrown c1
    have k2:=cell_regrown c2
    have k3:=cell_regrown b0
    have k4:=cell_regrown b1
    have k5:=cell_regrown b2
    clear c0 c1 c2 b0 b1 b2
    refine wp_region_quiet_below (by kernel_rfl) (by kernel_rfl) ?_
    repeat (go_big_quiet_step (first
     | (go_at_call 104;exact Calls.regrown_of (zA0 HO _))))
    refine wpQuiet_nil ?_
    intro w' Hp
    have hB:Below wr.heap.size wr w':=by obtain⟨p,rfl⟩:=Hp;exact below_regrown _ _ _
    clear Hp
    go_wp2
    refine bodyPost_ret (v:=.tuple #[.int .i64 (i:Int),.bool (O == 0)]) (by simp[results,Tryz.results145,go_sem]) rfl ⟨⟨i,_,rfl,hin,zA0 YB,fun a x h1 h2=>by have:=zA0 Gf a x h1 h2;omega⟩,zA2 (zA0 HB) hB⟩
   ·have i2:¬(i:Int)<(xs.length:Int):=by omega
    clear Ft hb ZA ZM
    go_upto_region 8 with fail
    refine wp_region_quiet_below (by kernel_rfl) (by kernel_rfl) ?_
    repeat (go_big_quiet_step (first
     | (go_at_call 104;exact Calls.regrown_of (zEJ t t _))))
    refine wpQuiet_nil ?_
    intro w' Hp
    have hB:Below wr.heap.size wr w':=by obtain⟨p,rfl⟩:=Hp;exact below_regrown _ _ _
    clear Hp
    go_wp2
    refine bodyPost_ret (v:=.tuple #[.int .i64 (i:Int),.bool false]) (by simp[results,Tryz.results145,go_sem]) rfl ⟨⟨i,_,rfl,hin,zA0 YB,fun a x h1 h2=>by have:=zA0 Gf a x h1 h2;omega⟩,zA2 (zA0 HB) hB⟩
end Go.Proofs.YtekgpapophibcaaGreat
set_option linter.unusedSimpArgs false
set_option linter.unusedVariables false
namespace Go.Proofs.YtekgpapophibcaaGreat
open Go.RowKit Go.Sort Go.Shelf Go.Lib
def Up(w w':World):Prop:=Below w.heap.size w w'/\w.drawn<=w'.drawn
theorem Up.grown{w w':World}(h:Up w w'):∃q os',w'=grow (w.drewN q) os':=by
 obtain⟨p,hp⟩:=regrown_of_below h.1
 have h2:=h.2
 refine⟨w'.drawn-w.drawn,p.os,?_⟩
 rw[hp] at h2 ⊢
 simp only[grow,redrawn,World.drewN] at h2 ⊢
 congr 1
 omega
theorem zPI(n:Int)(w:World) :
  Calls Tryz.prog 76 #[.int .i64 n] w fun e w'=>e=.returned (Val.num n).v/\Up w w':=by
 unfold Val.v Val.num
 go_enter Tryz.func76,Tryz.ntmps76
 go_wp2
 exact bodyPost_ret (v:=.agg #[.int .i64 1,.int .i64 n,.string ⟨#[]⟩]) (by simp[results,Tryz.results76,go_sem]) rfl ⟨rfl,(Below.refl _ _).alloc (Nat.le_refl _) _,Nat.le_refl _⟩
theorem zSw(s:ByteArray)(w:World) :
  Calls Tryz.prog 77 #[.string s] w fun e w'=>e=.returned (Val.str s).v/\Up w w':=by
 unfold Val.v Val.str
 go_enter Tryz.func77,Tryz.ntmps77
 go_wp2
 exact bodyPost_ret (v:=.agg #[.int .i64 2,.int .i64 0,.string s]) (by simp[results,Tryz.results77,go_sem]) rfl ⟨rfl,(Below.refl _ _).alloc (Nat.le_refl _) _,Nat.le_refl _⟩
theorem zM2(x:Val)(w:World) :
  Calls Tryz.prog 53 #[x.v] w fun e w'=>e=.returned (zA8 x).v/\Up w w':=by
 rw[x.open_]
 rcases Bool.eq_false_or_eq_true (x.k == 1) with k1|k1
 ·have hv:zA8 x=.num x.n:=by simp[zA8,k1]
  rw[hv]
  clear hv
  go_enter Tryz.func53,Tryz.ntmps53
  go_wp2_with (go_at_call 76;refine(zPI _ _).mono ?_;rintro e w1 ⟨rfl,Hb,hd1⟩;obtain⟨Qj,QM⟩:=zCR Hb;rw[Val.open_])
  refine bodyPost_ret (v:=(Val.num x.n).v) (by simp[results,Tryz.results53,go_sem,Val.v,Val.num,Qj,QM]) rfl ⟨rfl,?_,by simpa using hd1⟩
  (repeat (first|exact Below.refl _ _|refine Below.alloc ?_ (by simp<;>omega) _|refine Below.setCell ?_ (by simp<;>omega) _|refine Below.trans ?_ (Below.mono (by assumption) (by first|omega | (simp;omega)))))
 ·rcases Bool.eq_false_or_eq_true (x.k == 2) with k2|k2
  ·have hv:zA8 x=.str x.s:=by simp[zA8,k1,k2]
   rw[hv]
   clear hv
   go_enter Tryz.func53,Tryz.ntmps53
   go_wp2_with (go_at_call 77;refine(zSw _ _).mono ?_;rintro e w1 ⟨rfl,Hb,hd1⟩;obtain⟨Qj,QM⟩:=zCR Hb;rw[Val.open_])
   refine bodyPost_ret (v:=(Val.str x.s).v) (by simp[results,Tryz.results53,go_sem,Val.v,Val.str,Qj,QM]) rfl ⟨rfl,?_,by simpa using hd1⟩
   (repeat (first|exact Below.refl _ _|refine Below.alloc ?_ (by simp<;>omega) _|refine Below.setCell ?_ (by simp<;>omega) _|refine Below.trans ?_ (Below.mono (by assumption) (by first|omega | (simp;omega)))))
  ·have hv:zA8 x=.null:=by simp[zA8,k1,k2]
   rw[hv]
   clear hv
   go_enter Tryz.func53,Tryz.ntmps53
   go_wp2
   refine bodyPost_ret (v:=Val.null.v) (by simp[results,Tryz.results53,go_sem,Val.v,Val.null]) rfl ⟨rfl,?_,Nat.le_refl _⟩
   (repeat (first|exact Below.refl _ _|refine Below.alloc ?_ (by simp<;>omega) _|refine Below.setCell ?_ (by simp<;>omega) _))
theorem zRN(a b:Val)(w:World) :
  Calls Tryz.prog 104 #[a.v,b.v] w fun e w'=>e=.returned (.int .i64 (zAh a b))/\Up w w':=by
 rw[a.open_,b.open_]
 have HA:=zA3 (zM2 a)
 have HB:=zA3 (zM2 b)
 unfold zAh
 generalize zA8 a=ca at *
 generalize zA8 b=cb at *
 go_enter Tryz.func104,Tryz.ntmps104
 go_upto_region 1 with fail
 go_cut[] (fun wx=>zEi wx w.heap.size ca/\zEi wx (w.heap.size+1) cb/\Below w.heap.size w wx/\w.drawn<=wx.drawn)
 case first=>
  have Zp:w.drawn<=(zEx w a b).drew.drawn:=by simp[zEx,World.drew]
  go_region_with (first
   | (go_at_call_of 53 (Value.agg #[Value.int IntKind.i64 a.k,Value.int IntKind.i64 a.n,Value.string a.s]);refine(zA0 HA _).mono ?_;rintro e w1 ⟨rfl,Hb,hd1⟩;rw[Val.open_];have B1:=zA2 (zFq w a b) Hb;obtain⟨⟨a0,a1,a2⟩,⟨b0,b1,b2⟩,⟨f0,f1,f2⟩,⟨g0,g1,g2⟩,hz⟩:=zCM B1)
   | (go_at_call_of 53 (Value.agg #[Value.int IntKind.i64 b.k,Value.int IntKind.i64 b.n,Value.string b.s]);refine(zA0 HB _).mono ?_;rintro e w2 ⟨rfl,Hh,hd2⟩;rw[Val.open_];have B2:=zA2 B1 Hh;obtain⟨⟨a0,a1,a2⟩,⟨b0,b1,b2⟩,⟨f0,f1,f2⟩,⟨g0,g1,g2⟩,hz⟩:=zCM B2))
  all_goals
   go_wp2_with fail
   go_meet
   obtain⟨q1,q2,q3⟩:=zKl ca cb B2
   refine⟨q1,q2,q3,?_⟩
   have hd3:w.drawn<=w1.drawn:=Nat.le_trans Zp hd1
   have hd4:w.drawn<=w2.drawn:=Nat.le_trans hd3 hd2
   clear Zp hd1 hd2 hd3 q1 q2 q3
   rw[World.drawn_setCell,World.drawn_setCell,World.drawn_setCell,World.drawn_setCell,World.drawn_setCell,World.drawn_setCell];exact hd4
 case rest=>
  obtain⟨⟨a0,a1,a2⟩,⟨b0,b1,b2⟩,Hx,hdr⟩:=hcut
  clear HA HB
  rename World=>wa
  go_upto_region 2 with fail
  go_region_held3 (fun w'=>w'.cell? ⟨w.heap.size,0,none⟩=some (.int .i64 ca.k)/\w'.cell? ⟨w.heap.size,1,none⟩=some (.int .i64 ca.n)/\w'.cell? ⟨w.heap.size,2,none⟩=some (.string ca.s)/\w'.cell? ⟨w.heap.size+1,0,none⟩=some (.int .i64 cb.k)/\w'.cell? ⟨w.heap.size+1,1,none⟩=some (.int .i64 cb.n)/\w'.cell? ⟨w.heap.size+1,2,none⟩=some (.string cb.s))
   (go_keep)
   (first
    | (go_at_call 124;refine(zHz _ _ _).mono ?_;rintro e w1 ⟨rfl,rfl⟩)
    | (go_at_call 125;refine(zG9 _ _ _).mono ?_;rintro e w1 ⟨rfl,rfl⟩)
    | (go_at_call 126;refine(zHy _ _ _).mono ?_;rintro e w1 ⟨rfl,rfl⟩)
    | (go_at_call 123;refine(zPA _ (zEQ ca.k cb.k) (zEQ ca.n cb.n) (zK3 ca.s cb.s) _ ?_ ?_ ?_).mono ?_;(simp[go_sem]);(simp[go_sem]);(simp[go_sem]);rintro e w1 ⟨rfl,rfl⟩))
  go_wp2
  go_ret
  exact⟨rfl,(zA1 Hx _).drew,by simp[World.drew];omega⟩
instance:Inhabited Val:=⟨Val.null⟩
theorem zNH(blk off size:Nat)(w:World):CmpLays Tryz.prog 104 #[] c3 3 zAh blk off size w:=
 fun _ _ _ _ x y=>(zRN x y _).mono fun _ _ ⟨he,hu⟩=>⟨he,hu.grown⟩
theorem zRf:ltOf zAh=ltV:=rfl
theorem zLv(d:Array Val):(flatK c3 3 d).toList=d.toList.flatMap c3:=by
 refine List.ext_getElem? fun j=>?_
 by_cases hj:j<d.size*3
 ·have hd:j / 3<d.size:=by omega
  have e1:(d.toList)[j / 3]?=some d[j / 3]!:=by rw[Array.getElem?_toList,getElem!_pos d (j / 3) hd];exact Array.getElem?_eq_getElem hd
  have:=zCV d.toList (j / 3) (j % 3) _ e1 (by omega)
  rw[show j / 3*3+j % 3=j by omega] at this
  rw[this]
  simp only[flatK,Array.toList_map,List.getElem?_map]
  rw[Array.getElem?_toList,Array.getElem?_range,if_pos hj]
  simp only[Option.map_some]
  have h3:j % 3<(c3 d[j / 3]!).length:=by simp[c3];omega
  rw[getElem!_pos (c3 d[j / 3]!) (j % 3) h3,zAf h3]
 ·rw[List.getElem?_eq_none (by simp[flatK];omega),List.getElem?_eq_none (by rw[zBP];simpa using hj)]
theorem zMu{w:World}{base g cap N:Nat}{xs:List Val}(h:zAV w base (.slice (some ⟨g,0,none⟩) N cap) xs):HoldsK c3 3 w g 0 xs.toArray:=by
 intro j hj
 have hN:=h.len
 subst hN
 rw[size_flatK] at hj
 have qA:j<xs.length*3:=by simpa using hj
 have e1:=zLv xs.toArray
 refine⟨?_,?_⟩
 ·rw[Nat.zero_add,World.ownsRow.cellAt h j qA]
  simp only[List.toList_toArray] at e1
  rw[<-e1,Array.getElem?_toList,Array.getElem?_eq_getElem (by simpa using qA)]
  rw[getElem!_pos _ _ (by simpa using qA)]
  rfl
 ·rw[Nat.zero_add];exact World.ownsRow.frozenAt h j
theorem zMt{w:World}{base g cap N n:Nat}{xs:List Val}{d':Array Val}{os:Array Obj}(h:zAV w base (.slice (some ⟨g,0,none⟩) N cap) xs)(hs:d'.size=xs.length) :
  zAV (sortWorldK c3 3 w g 0 n d' os) base (.slice (some ⟨g,0,none⟩) N cap) d'.toList/\zAt w (sortWorldK c3 3 w g 0 n d' os) (.slice (some ⟨g,0,none⟩) N cap) (.slice (some ⟨g,0,none⟩) N cap):=by
 have hN:=h.len
 subst hN
 rcases h.2 with ⟨e,_⟩|⟨g',cap',cur,e,hb,hh,hnc,ye,Gp,yz⟩
 ·cases e
 injection e with e1 e2 e3
 injection e1 with e1
 injection e1 with e1
 subst e1 e3
 have He:g<w.heap.size:=(Array.getElem?_eq_some_iff.1 hh).1
 have qt:d'.toList.length=xs.length:=by simpa using hs
 have hheap:(sortWorldK c3 3 w g 0 n d' os).heap[g]?=some (.cells (putCells id 0 (flatK c3 3 d') cur) 59 (0,0)):=by
  unfold sortWorldK grow putRowK putRow mapBlock
  simp only[Sort.ahead]
  rw[Array.getElem?_append_left (by simpa using He),Array.getElem?_modify,if_pos rfl,hh]
  rfl
 refine⟨⟨?_,.inr ⟨g,cap,putCells id 0 (flatK c3 3 d') cur,by rw[qt],hb,hheap,by rw[qt];exact hnc,ye,by simp[putCells,Gp],?_⟩⟩,⟨⟨rfl,rfl,rfl,?_,?_⟩,.inl rfl⟩⟩
 ·rw[zBP]
 ·rw[<-zLv,Array.length_toList]
  refine List.ext_getElem? fun j=>?_
  rw[List.getElem?_take]
  by_cases hj:j<d'.size*3
  ·rw[if_pos hj,Array.getElem?_toList,Array.getElem?_toList]
   have hjc:j<cur.size:=by rw[Gp];omega
   simp only[putCells,Array.getElem?_mapIdx,Array.getElem?_eq_getElem hjc,Option.map_some]
   rw[if_pos ⟨Nat.zero_le _,by rw[size_flatK];omega⟩,Nat.sub_zero,Array.getElem?_eq_getElem (by rw[size_flatK];exact hj),getElem!_pos _ _ (by rw[size_flatK];exact hj)]
   rfl
  ·rw[if_neg hj,List.getElem?_eq_none (by rw[Array.length_toList,size_flatK];omega)]
 ·unfold sortWorldK grow putRowK putRow mapBlock
  simp[Sort.ahead]
 ·intro k hk Hg
  have hkg:g≠k:=fun e=>Hg (by rw[e];rfl)
  unfold sortWorldK grow putRowK putRow mapBlock
  simp only[Sort.ahead]
  rw[Array.getElem?_append_left (by simpa using hk),Array.getElem?_modify,if_neg hkg]
theorem zNz(base:Nat)(xs:List Val)(v:Value)(w:World)(hl:xs.length<=1048576)(Hd:zAV w base v xs) :
  Calls Tryz.prog 143 #[v,.func (.func 104) #[] #[]] w fun e w'=>e=.returned (.tuple #[])/\∃ys,zAV w' base v ys/\zAt w w' v v/\ys.Perm xs/\zBe ys:=by
 rcases Hd.2 with ⟨rfl,h0⟩|⟨g,cap,cur,rfl,rest⟩
 ·have hx:xs=[]:=List.eq_nil_of_length_eq_zero h0
  subst hx
  have qB:=AnyF.slices_SortFunc_none Tryz.sortL none 0 (.func (.func 104) #[] #[]) w
  change Calls Tryz.prog 143 _ _ _ at qB
  refine qB.mono ?_
  rintro e w' ⟨rfl,rfl⟩
  exact⟨rfl,[],Hd,zAt.refl _ _,List.Perm.refl _,List.Pairwise.nil⟩
 ·have eg:∀args w,(callFunc 104 args).run Tryz.prog w=.ok (.enter 104 args) w:=enters_of Tryz.func104 (by kernel_rfl) rfl
  have qB:=AnyQ.slices_SortFunc Tryz.sortL 3 Tryz.isAgg59 Tryz.sizeOf59 c3 (fun _=>rfl) (fun x v hv=>zBY x v hv) zAh swoV 104 #[] g 0 cap xs.toArray w eg (zNH g 0 _ w) (zMu Hd) (World.ownsRow.lt Hd g rfl).2 (by simp;omega)
  change Calls Tryz.prog 143 _ _ _ at qB
  have e1:xs.toArray.size=xs.length:=by simp
  rw[e1] at qB
  refine qB.mono ?_
  rintro e w' ⟨rfl,d',n,os,hp,hs,rfl⟩
  obtain⟨yH,qu,hp3⟩:=hp
  have QK:d'.size=xs.length:=by rw[yH];simp
  obtain⟨q1,q2⟩:=zMt (n:=n) (os:=os) Hd QK
  refine⟨rfl,d'.toList,q1,q2,?_,?_⟩
  ·have e2:d'.extract 0 xs.length=d':=by rw[<-QK];simp
   have e3:xs.toArray.extract 0 xs.length=xs.toArray:=by rw[<-e1];simp
   rw[e2,e3] at hp3
   simpa using hp3
  ·refine List.pairwise_iff_getElem.2 fun i j hi hj ZX=>?_
   have Gl:i<d'.size:=by simpa using hi
   have qA:j<d'.size:=by simpa using hj
   have:=hs i j (Nat.zero_le _) ZX (by omega)
   rw[getElem!_pos d' i Gl,getElem!_pos d' j qA,zRf] at this
   simp only[ltV,decide_eq_false_iff_not] at this
   have h2:=zBA (d'[i]'Gl) (d'[j]'qA)
   simp only[Array.getElem_toList]
   omega
end Go.Proofs.YtekgpapophibcaaGreat
set_option linter.unusedSimpArgs false
set_option linter.unusedVariables false
namespace Go.Proofs.YtekgpapophibcaaGreat
open Go.RowKit Go.Sort
def zAS(xs:List Val):List Nat:=xs.map fun x=>if zAr x then 1 else 0
def zBT(xs:List Val):List Int:=if xs.any zAr then beL 1 1 1++leB (zBG 1 (zAS xs)) (zAO xs.length 1) else beL 0 1 1
def zJi(xs:List Val)(k:Nat)(j:Nat):Value:=.int .u64 (if j<k then (((zAS xs)[j]?).getD 0:Nat) else 0:Int)
theorem zLH(base:Nat)(zs:List Int)(aa:Option Addr)(ca:Nat)(xs:List Val)(v:Value)(w:World)(Hd:zBC w base v zs)(Hf:zs.length<=1000000)(hl:xs.length<=4096)(Hv:base<=w.heap.size)(ha:zAR w aa xs) :
  Calls Tryz.prog 114 #[v,.slice aa xs.length ca] w fun e w'=>∃v',e=.returned v'/\zBC w' base v' (zs++zBT xs)/\zAt w w' v v':=by
 obtain⟨i6,YL,z60,z61,z62⟩:=info_parts Tryz.info73
 have HC:=zA3 (zIB aa ca xs w (by omega) ha)
 have Yi:=zA3 Hd
 have HA:=zA3 ha
 have yc:∀g,v.ownBlock=some g->g<w.heap.size:=fun g hg=>(zBN Hd hg).2
 have KO:=zA3 yc
 clear Hd ha yc
 cases hZ:xs.any zAr
 ·have HV:Hid (zBT xs=beL 0 1 1):=by show _=_;rw[zBT,hZ];rfl
  rw[hZ] at HC
  clear hZ
  have H1:Hid (∀W,Below w.heap.size w W->Calls Tryz.prog 113 #[v,.int .u64 0,.int .i64 1] W fun e w'=>∃v',e=.returned v'/\zBC w' base v' (zs++beL 0 1 1)/\zAt w w' v v'):=fun W hW=>by
   refine(zBv base zs 0 1 v W (by omega) (zAc (zA0 Yi) hW) (by omega) (by have:=hW.size;omega)).mono fun e w' ⟨v',he,h1,h2⟩=>⟨v',he,h1,(zAt.of_below hW v).trans h2⟩
  go_enter Tryz.func114,Tryz.ntmps114
  go_wp2_with (first
   | (go_at_call 50;refine(zA0 HC).mono ?_;rintro e w1 ⟨rfl,Hb⟩)
   | (go_at_call 113;refine(zA0 H1 _ Hb).mono ?_;rintro e w2 ⟨v2,rfl,h2,h3⟩))
  go_ret
  exact⟨_,rfl,by rw[zA0 HV];exact h2,h3⟩
 ·have HV:Hid (zBT xs=beL 1 1 1++leB (zBG 1 (zAS xs)) (zAO xs.length 1)):=by show _=_;rw[zBT,hZ];rfl
  rw[hZ] at HC
  clear hZ
  go_enter Tryz.func114,Tryz.ntmps114
  go_wp2_with (first
   | (go_at_call 50;refine(zA0 HC).mono ?_;rintro e w1 ⟨rfl,Hb⟩)
   | (at_make;refine wpList_make_row _ rfl (.tmp 14) (.tmp 14) 115 rfl 73 i6 (.int .u64 0) Tryz.underlying115 YL z60 z61 rfl .i64 .i64 xs.length rfl rfl (by rw[z62];omega) (by omega) ?_)
   | fail)
  have Qa:=zA3 Hb
  have TG:=Hb.size
  clear Hb
  go_loopw[18] (fun s wr=>∃k:Nat,k<=xs.length/\s=.int .i64 (k:Int)/\wr.rowIs w1.heap.size 73 xs.length (zJi xs k)/\Below w1.heap.size w1 wr) (fun s _=>xs.length-(intOf s).toNat)
  case atStart=>exact⟨0,Nat.zero_le _,rfl,(World.rowIs_made w1 (.int .u64 0) xs.length 73).congr fun j hj=>by simp[zJi],zA1 (Below.refl _ _) _⟩
  case round=>
   obtain⟨k,hk,rfl,hr,hb⟩:=hrel
   by_cases h8:k<xs.length
   ·have h9:(k:Int)<(xs.length:Int):=by omega
    obtain⟨x,hx⟩:∃x,xs[k]?=some x:=⟨_,zAf h8⟩
    have Qn:=zA2 (zA0 Qa) hb
    rcases(zA0 HA).later Qn with e|⟨rb,ro,rfl,hc⟩
    ·rw[e] at hx;cases hx
    obtain⟨c0,c1,c2⟩:=hc k x hx
    have bl:=zA1 (Below.refl _ wr) (.cells #[.int .i64 x.k,.int .i64 x.n,.string x.s] 59)
    have HP:=zA3 (fun W=>zEG x W)
    have Hu:=hr.alloc (.cells #[.int .i64 x.k,.int .i64 x.n,.string x.s] 59)
    have GQ:=zA3 Hu
    have Qz:=zA3 (zA2 hb bl)
    have TF:=hb.size
    have TN:=hr.lt
    have Zc:Hid (∀b:Nat,(zAS xs)[k]?=some b->∀j,zJi xs (k+1) j=if j=k then .int .u64 (b:Int) else zJi xs k j):=fun b Hw j=>by
     unfold zJi
     by_cases hj:j=k
     ·subst hj;simp[Hw]
     ·rw[if_neg hj]
      by_cases He:j<k
      ·rw[if_pos He,if_pos (by omega)]
      ·rw[if_neg He,if_neg (by omega)]
    have hmk:(zAS xs)[k]?=some (if zAr x then 1 else 0):=by simp[zAS,hx]
    clear hc hx hr hb Hu Qn bl
    rcases Bool.eq_false_or_eq_true (zAr x) with e1|e1
    ·have e2:(x.k == 0)=true:=e1
     rw[e2] at HP
     rw[e1] at hmk
     have HM:=zA3 (zA0 Zc 1 (by simpa using hmk))
     clear hmk
     go_wp2_with (go_at_call 103;refine(zA0 HP _).mono ?_;rintro e w3 ⟨rfl,Hz⟩;have Qt:=zA5 (zA0 GQ) Hz;have cm:=Qt.cell h8;have fm:=Qt.frozen k;replace Qt:=zA3 Qt;have Yo:=zA3 (zA2 (zA0 Qz) Hz);unfold zJi at cm)
     go_roundw
     case rel=>
      refine⟨k+1,by omega,by go_num,((zA0 Qt).set k (.int .u64 1)).congr fun j hj=>?_,(zA0 Yo).setCell (p:=⟨w1.heap.size,k,none⟩) (Nat.le_refl _) _⟩
      rw[zA0 HM j];rfl
     case measure=>first | (simp[intOf];omega) | (simp only[intOf];omega)
    ·have e2:(x.k == 0)=false:=e1
     rw[e2] at HP
     rw[e1] at hmk
     have HM:=zA3 (zA0 Zc 0 (by simpa using hmk))
     clear hmk
     go_wp2_with (go_at_call 103;refine(zA0 HP _).mono ?_;rintro e w3 ⟨rfl,Hz⟩;have Qt:=zA3 (zA5 (zA0 GQ) Hz);have Yo:=zA3 (zA2 (zA0 Qz) Hz))
     go_roundw
     case rel=>
      refine⟨k+1,by omega,by go_num,(zA0 Qt).congr fun j hj=>?_,zA0 Yo⟩
      rw[zA0 HM j]
      by_cases h:j=k
      ·subst h;rw[if_pos rfl];simp[zJi]
      ·rw[if_neg h]
     case measure=>first | (simp[intOf];omega) | (simp only[intOf];omega)
   ·have h9:¬(k:Int)<(xs.length:Int):=by omega
    have Qk:k=xs.length:=by omega
    rw[Qk] at hr
    have hml:(zAS xs).length=xs.length:=by simp[zAS]
    have Qv:zAp wr (some ⟨w1.heap.size,0,none⟩) ((zAS xs).map fun n:Nat=>Value.int .u64 (n:Int)):=by
     refine zD4 hr (by simp[zAS]) fun i y hi hy=>?_
     rw[List.getElem?_map] at hy
     obtain⟨m,hm,rfl⟩:=Option.map_eq_some_iff.1 hy
     simp[zJi,hi,hm]
    have Qn:=zA2 (zA0 Qa) hb
    have TN:=hr.lt
    have H1:Hid (Calls Tryz.prog 113 #[v,.int .u64 1,.int .i64 1] wr fun e w'=>∃v',e=.returned v'/\(zBC w' base v' (zs++beL 1 1 1)/\zAt w w' v v'/\zAp w' (some ⟨w1.heap.size,0,none⟩) ((zAS xs).map fun n:Nat=>Value.int .u64 (n:Int))/\v'.ownBlock≠some w1.heap.size)):=by
     refine(zBv base zs 1 1 v wr (by omega) (zAc (zA0 Yi) Qn) (by omega) (by have:=Qn.size;omega)).mono fun e w' ⟨v',he,h1,h2⟩=>⟨v',he,h1,(zAt.of_below Qn v).trans h2,Qv.grew h2 (fun ad e=>?_),fun e=>?_⟩
     ·injection e with e
      subst e
      intro h3
      have:=zA0 KO _ h3
      simp at this
      omega
     ·rcases h2.2 with h3|⟨g,h3,h4⟩
      ·rw[e] at h3
       have:=zA0 KO _ h3.symm
       omega
      ·rw[e] at h3
       injection h3 with h3
       omega
    have H2:Hid (∀W v',(zBC W base v' (zs++beL 1 1 1)/\zAt w W v v'/\zAp W (some ⟨w1.heap.size,0,none⟩) ((zAS xs).map fun n:Nat=>Value.int .u64 (n:Int))/\v'.ownBlock≠some w1.heap.size)->Calls Tryz.prog 140 #[v',.slice (some ⟨w1.heap.size,0,none⟩) xs.length xs.length,.int .i64 1] W fun e w'=>∃v3,e=.returned v3/\zBC w' base v3 ((zs++beL 1 1 1)++leB (zBG 1 (zAS xs)) (zAO xs.length 1))/\zAt w w' v v3):=fun W v' ⟨h1,h2,h3,h4⟩=>by
     have:=zEg base (zs++beL 1 1 1) (some ⟨w1.heap.size,0,none⟩) xs.length (zAS xs) 1 v' W h1 (by rw[zAX,zAK];omega) (by omega) (by omega) (fun n hn=>by
      obtain⟨x,_,rfl⟩:=List.mem_map.1 hn
      split<;>decide) (by have:=h2.1.size;omega) h3 (fun ad e=>by injection e with e;subst e;exact h4)
     rw[hml] at this
     exact this.mono fun e w' ⟨v3,he,h5,h6⟩=>⟨v3,he,h5,h2.trans h6⟩
    clear hr hb Qv Qn Qk hml
    go_wp2_with (first
     | (go_at_call 113;refine(zA0 H1).mono ?_;rintro e w2 ⟨v2,rfl,h2⟩;replace h2:=zA3 h2)
     | (go_at_call 140;refine(zA0 H2 _ _ (zA0 h2)).mono ?_;rintro e w3 ⟨v3,rfl,h5,h6⟩))
    go_ret
    exact⟨_,rfl,by rw[zA0 HV,<-List.append_assoc];exact h5,h6⟩
end Go.Proofs.YtekgpapophibcaaGreat
