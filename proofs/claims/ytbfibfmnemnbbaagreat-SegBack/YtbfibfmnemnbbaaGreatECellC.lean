import Derived.Test.YtbfibfmnemnbbaaGreatECellB
import Derived.Deep.DeepCutAuto
import Derived.Deep.DrawnRows
import Derived.Lib.Bytealg
set_option linter.unusedSimpArgs false
set_option linter.unusedVariables false
set_option maxHeartbeats 1000000
namespace Go.Proofs.YtbfibfmnemnbbaaGreat.E
open Go.RowKit Go.Sort
def cleanV(x:Val):Val:=if x.k == 1 then .num x.n else if x.k == 2 then .str x.s else .null
theorem text_any(s:ByteArray)(w:World) :
  Calls Tryz.prog 48 #[.string s] w fun e w'=>e=.returned (Val.str s).v/\Below w.heap.size w w':=by
 unfold Val.v Val.str
 go_enter Tryz.func48,Tryz.ntmps48
 go_wp2
 exact bodyPost_ret (v:=.agg #[.int .i64 2,.int .i64 0,.string s]) (by simp[results,Tryz.results48,go_sem]) rfl ⟨rfl,(Below.refl _ _).alloc (Nat.le_refl _) _⟩
theorem clean_any(x:Val)(w:World) :
  Calls Tryz.prog 23 #[x.v] w fun e w'=>e=.returned (cleanV x).v/\Below w.heap.size w w':=by
 rw[x.open_]
 rcases Bool.eq_false_or_eq_true (x.k == 1) with k1|k1
 ·have hv:cleanV x=.num x.n:=by simp[cleanV,k1]
  rw[hv]
  clear hv
  go_enter Tryz.func23,Tryz.ntmps23
  go_wp2_with (go_at_call 47;refine(number_any _ _).mono ?_;rintro e w1 ⟨rfl,hb1⟩;obtain⟨hc1,hf1⟩:=bcell hb1;rw[Val.open_])
  refine bodyPost_ret (v:=(Val.num x.n).v) (by simp[results,Tryz.results23,go_sem,Val.v,Val.num,hc1,hf1]) rfl ⟨rfl,?_⟩
  (repeat (first|exact Below.refl _ _|refine Below.alloc ?_ (by simp<;>omega) _|refine Below.setCell ?_ (by simp<;>omega) _|refine Below.trans ?_ (Below.mono (by assumption) (by first|omega | (simp;omega)))))
 ·rcases Bool.eq_false_or_eq_true (x.k == 2) with k2|k2
  ·have hv:cleanV x=.str x.s:=by simp[cleanV,k1,k2]
   rw[hv]
   clear hv
   go_enter Tryz.func23,Tryz.ntmps23
   go_wp2_with (go_at_call 48;refine(text_any _ _).mono ?_;rintro e w1 ⟨rfl,hb1⟩;obtain⟨hc1,hf1⟩:=bcell hb1;rw[Val.open_])
   refine bodyPost_ret (v:=(Val.str x.s).v) (by simp[results,Tryz.results23,go_sem,Val.v,Val.str,hc1,hf1]) rfl ⟨rfl,?_⟩
   (repeat (first|exact Below.refl _ _|refine Below.alloc ?_ (by simp<;>omega) _|refine Below.setCell ?_ (by simp<;>omega) _|refine Below.trans ?_ (Below.mono (by assumption) (by first|omega | (simp;omega)))))
  ·have hv:cleanV x=.null:=by simp[cleanV,k1,k2]
   rw[hv]
   clear hv
   go_enter Tryz.func23,Tryz.ntmps23
   go_wp2
   refine bodyPost_ret (v:=Val.null.v) (by simp[results,Tryz.results23,go_sem,Val.v,Val.null]) rfl ⟨rfl,?_⟩
   (repeat (first|exact Below.refl _ _|refine Below.alloc ?_ (by simp<;>omega) _|refine Below.setCell ?_ (by simp<;>omega) _))
def cmpI(x y:Int):Int:=if x<y then -1 else if y<x then 1 else 0
theorem cmpInt_any(x y:Int)(w:World) :
  Calls Tryz.prog 101 #[.int .i64 x,.int .i64 y] w fun e w'=>e=.returned (.int .i64 (cmpI x y))/\w'=w:=by
 unfold cmpI
 go_enter Tryz.func101,Tryz.ntmps101
 go_wp2
 all_goals (go_ret;exact⟨rfl,rfl⟩)
theorem cmpInt64_any(x y:Int)(w:World) :
  Calls Tryz.prog 102 #[.int .i64 x,.int .i64 y] w fun e w'=>e=.returned (.int .i64 (cmpI x y))/\w'=w:=by
 unfold cmpI
 go_enter Tryz.func102,Tryz.ntmps102
 go_wp2
 all_goals (go_ret;exact⟨rfl,rfl⟩)
def cmpB(x y:ByteArray):Int:=Lib.compareBytes x.data.toList y.data.toList
theorem run79(x y:ByteArray)(w:World):(callFunc 154 #[.string x,.string y]).run Tryz.prog w=.ok (.value (.int .i64 (cmpB x y))) w:=by
 rw[run_callFunc_extern Tryz.func154 (by kernel_rfl) (by kernel_rfl) (by kernel_rfl) (e:=Extern.BytealgCompare.compare) (by kernel_rfl),Lib.run_compareString]
 rfl
theorem cmpStr_any(x y:ByteArray)(w:World) :
  Calls Tryz.prog 103 #[.string x,.string y] w fun e w'=>e=.returned (.int .i64 (cmpB x y))/\w'=w:=by
 have h79:=run79 x y
 go_enter Tryz.func103,Tryz.ntmps103
 go_wp2
 go_ret
 exact⟨rfl,rfl⟩
def orI(x y z:Int):Int:=if x≠0 then x else if y≠0 then y else z
theorem or3_any(b:Nat)(x y z:Int)(w:World)(h0:w.cell? ⟨b,0,none⟩=some (.int .i64 x))(h1:w.cell? ⟨b,1,none⟩=some (.int .i64 y))(h2:w.cell? ⟨b,2,none⟩=some (.int .i64 z)) :
  Calls Tryz.prog 100 #[.slice (some ⟨b,0,none⟩) 3 3] w fun e w'=>e=.returned (.int .i64 (orI x y z))/\w'=w:=by
 go_enter Tryz.func100,Tryz.ntmps100
 go_wp2
 go_loop[8] (fun i=>∃k:Nat,k<=3/\i=.int .i64 k/\(1<=k->x=0)/\(2<=k->y=0)/\(3<=k->z=0)) (fun i=>3-(intOf i).toNat)
 case atStart=>exact⟨0,Nat.zero_le _,rfl,by omega,by omega,by omega⟩
 case round=>
  obtain⟨k,hk,rfl,r1,r2,r3⟩:=hrel
  rcases(show k=0∨k=1∨k=2∨k=3 by omega) with rfl|rfl|rfl|rfl
  ·clear r1 r2 r3
   by_cases hx:x=0
   ·have hx':(x != 0)=false:=by simpa using hx
    have HX:=hide hx
    clear hx
    go_wp2
    go_round
    case rel=>exact⟨1,by omega,rfl,fun _=>unhide HX,by omega,by omega⟩
    case measure=>simp[intOf]
   ·have hx':(x != 0)=true:=by simpa using hx
    have HX:=hide hx
    clear hx
    go_wp2
    go_ret
    exact⟨by simp[orI,unhide HX],rfl⟩
  ·have HX:=hide (r1 (by omega))
   clear r1 r2 r3
   by_cases hx:y=0
   ·have hx':(y != 0)=false:=by simpa using hx
    have HY:=hide hx
    clear hx
    go_wp2
    go_round
    case rel=>exact⟨2,by omega,rfl,fun _=>unhide HX,fun _=>unhide HY,by omega⟩
    case measure=>simp[intOf]
   ·have hx':(y != 0)=true:=by simpa using hx
    have HY:=hide hx
    clear hx
    go_wp2
    go_ret
    exact⟨by simp[orI,unhide HX,unhide HY],rfl⟩
  ·have HX:=hide (r1 (by omega))
   have HY:=hide (r2 (by omega))
   clear r1 r2 r3
   by_cases hx:z=0
   ·have hx':(z != 0)=false:=by simpa using hx
    have HZ:=hide hx
    clear hx
    go_wp2
    go_round
    case rel=>exact⟨3,by omega,rfl,fun _=>unhide HX,fun _=>unhide HY,fun _=>unhide HZ⟩
    case measure=>simp[intOf]
   ·have hx':(z != 0)=true:=by simpa using hx
    have HZ:=hide hx
    clear hx
    go_wp2
    go_ret
    exact⟨by simp[orI,unhide HX,unhide HY],rfl⟩
  ·have HX:=hide (r1 (by omega))
   have HY:=hide (r2 (by omega))
   have HZ:=hide (r3 (by omega))
   clear r1 r2 r3
   go_wp2
   go_ret
   exact⟨by simp[orI,unhide HX,unhide HY,unhide HZ],rfl⟩
end Go.Proofs.YtbfibfmnemnbbaaGreat.E
set_option linter.unusedSimpArgs false
set_option linter.unusedVariables false
set_option maxHeartbeats 2000000
set_option maxRecDepth 100000
namespace Go.Proofs.YtbfibfmnemnbbaaGreat.E
open Go.RowKit Go.Sort
attribute [local go_sem ↓] Go.wp_at_zero Go.wp_at_succ
theorem below_step{W0 w' w1:World}(h:Below W0.heap.size W0 w')(h1:Below w'.heap.size w' w1):Below W0.heap.size W0 w1:=h.trans (h1.mono h.size)
theorem below_alloc{W0 w':World}(h:Below W0.heap.size W0 w')(o:Obj):Below W0.heap.size W0 (w'.alloc o):=h.alloc h.size o
def BoxAt(w:World)(b:Nat)(x:Val):Prop:=w.cell? ⟨b,0,none⟩=some (.int .i64 x.k)/\w.cell? ⟨b,1,none⟩=some (.int .i64 x.n)/\w.cell? ⟨b,2,none⟩=some (.string x.s)
theorem BoxAt.later{w w':World}{b:Nat}{x:Val}(h:BoxAt w b x)(hb:Below w.heap.size w w'):BoxAt w' b x:=
 ⟨cell_later hb h.1,cell_later hb h.2.1,cell_later hb h.2.2⟩
def FreeAt(w:World)(b:Nat):Prop:=w.frozen? ⟨b,0,none⟩=false/\w.frozen? ⟨b,1,none⟩=false/\w.frozen? ⟨b,2,none⟩=false
def boxes(w:World)(a b:Val):World:=(w.alloc (.cells #[.int .i64 a.k,.int .i64 a.n,.string a.s] 25)).alloc (.cells #[.int .i64 b.k,.int .i64 b.n,.string b.s] 25)
theorem boxes_size(w:World)(a b:Val):(boxes w a b).heap.size=w.heap.size+1+1:=by simp[boxes]
theorem boxes_facts{w w':World}{a b:Val}(h:Below (boxes w a b).heap.size (boxes w a b) w') :
  BoxAt w' w.heap.size a/\BoxAt w' (w.heap.size+1) b/\FreeAt w' w.heap.size/\FreeAt w' (w.heap.size+1)/\w.heap.size+1<w'.heap.size:=by
 have hs:=h.size
 rw[boxes_size] at hs
 obtain⟨hc,hf⟩:=bcell h
 refine⟨⟨?_,?_,?_⟩,⟨?_,?_,?_⟩,⟨?_,?_,?_⟩,⟨?_,?_,?_⟩,by omega⟩
 all_goals first | (rw[hc _ _ (by rw[boxes_size];omega)];simp[boxes,go_sem];done) | (rw[hf _ _ (by rw[boxes_size];omega)];simp[boxes,go_sem];done)
theorem boxes_below{w w':World}{a b:Val}(h:Below (boxes w a b).heap.size (boxes w a b) w'):Below w.heap.size w w':=
 (((Below.refl _ _).alloc (Nat.le_refl _) _).alloc (by simp) _).trans (h.mono (by rw[boxes_size];omega))
theorem boxes_drew(w:World)(a b:Val):Below (boxes w a b).heap.size (boxes w a b) (boxes w a b).drew:=(Below.refl _ _).drew
theorem put_two{w w2:World}{a b:Val}(ca cb:Val)(h:Below (boxes w a b).heap.size (boxes w a b) w2) :
  BoxAt ((((((w2.setCell ⟨w.heap.size,0,none⟩ (.int .i64 ca.k)).setCell ⟨w.heap.size,1,none⟩ (.int .i64 ca.n)).setCell ⟨w.heap.size,2,none⟩ (.string ca.s)).setCell ⟨w.heap.size+1,0,none⟩ (.int .i64 cb.k)).setCell ⟨w.heap.size+1,1,none⟩ (.int .i64 cb.n)).setCell ⟨w.heap.size+1,2,none⟩ (.string cb.s)) w.heap.size ca/\BoxAt ((((((w2.setCell ⟨w.heap.size,0,none⟩ (.int .i64 ca.k)).setCell ⟨w.heap.size,1,none⟩ (.int .i64 ca.n)).setCell ⟨w.heap.size,2,none⟩ (.string ca.s)).setCell ⟨w.heap.size+1,0,none⟩ (.int .i64 cb.k)).setCell ⟨w.heap.size+1,1,none⟩ (.int .i64 cb.n)).setCell ⟨w.heap.size+1,2,none⟩ (.string cb.s)) (w.heap.size+1) cb/\Below w.heap.size w ((((((w2.setCell ⟨w.heap.size,0,none⟩ (.int .i64 ca.k)).setCell ⟨w.heap.size,1,none⟩ (.int .i64 ca.n)).setCell ⟨w.heap.size,2,none⟩ (.string ca.s)).setCell ⟨w.heap.size+1,0,none⟩ (.int .i64 cb.k)).setCell ⟨w.heap.size+1,1,none⟩ (.int .i64 cb.n)).setCell ⟨w.heap.size+1,2,none⟩ (.string cb.s)):=by
 obtain⟨⟨a0,a1,a2⟩,⟨b0,b1,b2⟩,⟨f0,f1,f2⟩,⟨g0,g1,g2⟩,hz⟩:=boxes_facts h
 refine⟨⟨by simp[go_sem, *],by simp[go_sem, *],by simp[go_sem, *]⟩,⟨by simp[go_sem, *],by simp[go_sem, *],by simp[go_sem, *]⟩,?_⟩
 exact((((((boxes_below h).setCell (by simp) _).setCell (by simp) _).setCell (by simp) _).setCell (by simp) _).setCell (by simp) _).setCell (by simp) _
def ordV(x y:Val):Int:=orI (cmpI (cleanV x).k (cleanV y).k) (cmpI (cleanV x).n (cleanV y).n) (cmpB (cleanV x).s (cleanV y).s)
theorem order_any(a b:Val)(w:World) :
  Calls Tryz.prog 80 #[a.v,b.v] w fun e w'=>e=.returned (.int .i64 (ordV a b))/\Below w.heap.size w w':=by
 rw[a.open_,b.open_]
 have HA:=hide (clean_any a)
 have HB:=hide (clean_any b)
 unfold ordV
 generalize cleanV a=ca at *
 generalize cleanV b=cb at *
 go_enter Tryz.func80,Tryz.ntmps80
 go_upto_region 1 with fail
 go_cut[] (fun wx=>BoxAt wx w.heap.size ca/\BoxAt wx (w.heap.size+1) cb/\Below w.heap.size w wx)
 case first=>
  go_region_with (first
   | (go_at_call_of 23 (Value.agg #[Value.int IntKind.i64 a.k,Value.int IntKind.i64 a.n,Value.string a.s]);refine(unhide HA _).mono ?_;rintro e w1 ⟨rfl,hb1⟩;rw[Val.open_];have B1:=below_step (boxes_drew w a b) hb1;obtain⟨⟨a0,a1,a2⟩,⟨b0,b1,b2⟩,⟨f0,f1,f2⟩,⟨g0,g1,g2⟩,hz⟩:=boxes_facts B1)
   | (go_at_call_of 23 (Value.agg #[Value.int IntKind.i64 b.k,Value.int IntKind.i64 b.n,Value.string b.s]);refine(unhide HB _).mono ?_;rintro e w2 ⟨rfl,hb2⟩;rw[Val.open_];have B2:=below_step B1 hb2;obtain⟨⟨a0,a1,a2⟩,⟨b0,b1,b2⟩,⟨f0,f1,f2⟩,⟨g0,g1,g2⟩,hz⟩:=boxes_facts B2))
  all_goals
   go_wp2_with fail
   go_meet
   exact put_two ca cb B2
 case rest=>
  obtain⟨⟨a0,a1,a2⟩,⟨b0,b1,b2⟩,hbel⟩:=hcut
  clear HA HB
  rename World=>wa
  go_upto_region 2 with fail
  go_region_held3 (fun w'=>w'.cell? ⟨w.heap.size,0,none⟩=some (.int .i64 ca.k)/\w'.cell? ⟨w.heap.size,1,none⟩=some (.int .i64 ca.n)/\w'.cell? ⟨w.heap.size,2,none⟩=some (.string ca.s)/\w'.cell? ⟨w.heap.size+1,0,none⟩=some (.int .i64 cb.k)/\w'.cell? ⟨w.heap.size+1,1,none⟩=some (.int .i64 cb.n)/\w'.cell? ⟨w.heap.size+1,2,none⟩=some (.string cb.s))
   (go_keep)
   (first
    | (go_at_call 101;refine(cmpInt_any _ _ _).mono ?_;rintro e w1 ⟨rfl,rfl⟩)
    | (go_at_call 102;refine(cmpInt64_any _ _ _).mono ?_;rintro e w1 ⟨rfl,rfl⟩)
    | (go_at_call 103;refine(cmpStr_any _ _ _).mono ?_;rintro e w1 ⟨rfl,rfl⟩)
    | (go_at_call 100;refine(or3_any _ (cmpI ca.k cb.k) (cmpI ca.n cb.n) (cmpB ca.s cb.s) _ ?_ ?_ ?_).mono ?_;(simp[go_sem]);(simp[go_sem]);(simp[go_sem]);rintro e w1 ⟨rfl,rfl⟩))
  go_wp2
  go_ret
  exact⟨rfl,(below_alloc hbel _).drew⟩
end Go.Proofs.YtbfibfmnemnbbaaGreat.E
set_option linter.unusedSimpArgs false
set_option linter.unusedVariables false
set_option maxHeartbeats 1000000
namespace Go.Proofs.YtbfibfmnemnbbaaGreat.E
open Go.RowKit Go.Sort
def catV(a b:Val):Val:=if a.k == 2 && b.k == 2 && decide (a.s.size+b.s.size<=1000) then .str (a.s++b.s) else .null
theorem cat_any(a b:Val)(w:World)(ha:a.s.size<=140737488355328)(hb:b.s.size<=140737488355328) :
  Calls Tryz.prog 117 #[a.v,b.v] w fun e w'=>e=.returned (catV a b).v/\Below w.heap.size w w':=by
 rw[a.open_,b.open_]
 rcases Bool.eq_false_or_eq_true (a.k == 2) with ka|ka
 ·have ka2:(a.k != 2)=false:=by simpa using ka
  rcases Bool.eq_false_or_eq_true (b.k == 2) with kb|kb
  ·have kb2:(b.k != 2)=false:=by simpa using kb
   by_cases hs:a.s.size+b.s.size<=1000
   ·have e:catV a b=.str (a.s++b.s):=by simp[catV,ka,kb,hs]
    rw[e]
    have i1:¬(1000:Int)<(a.s.size:Int)+(b.s.size:Int):=by omega
    go_enter Tryz.func117,Tryz.ntmps117
    go_wp2_with (go_at_call 48;refine(text_any _ _).mono ?_;rintro e w2 ⟨rfl,hb2⟩;obtain⟨hc2,hf2⟩:=bcell hb2;rw[Val.open_];simp only[Val.str])
    refine bodyPost_ret (v:=(Val.str (a.s++b.s)).v) (by simp[results,Tryz.results117,go_sem,Val.v,Val.str,hc2,hf2]) rfl ⟨rfl,?_⟩
    (repeat (first|exact Below.refl _ _|refine Below.alloc ?_ (by simp<;>omega) _|refine Below.drew ?_|refine Below.setCell ?_ (by simp<;>omega) _|refine Below.trans ?_ (Below.mono (by assumption) (by first|omega | (simp;omega) | (simp;done)))))
   ·have e:catV a b=.null:=by simp[catV,ka,kb,hs]
    rw[e]
    have i1:(1000:Int)<(a.s.size:Int)+(b.s.size:Int):=by omega
    go_enter Tryz.func117,Tryz.ntmps117
    go_wp2
    refine bodyPost_ret (v:=Val.null.v) (by simp[results,Tryz.results117,go_sem,Val.v,Val.null]) rfl ⟨rfl,?_⟩
    (repeat (first|exact Below.refl _ _|refine Below.alloc ?_ (by simp<;>omega) _|refine Below.drew ?_|refine Below.setCell ?_ (by simp<;>omega) _|refine Below.trans ?_ (Below.mono (by assumption) (by first|omega | (simp;omega) | (simp;done)))))
  ·have kb2:(b.k != 2)=true:=by simpa using kb
   have e:catV a b=.null:=by simp[catV,ka,kb]
   rw[e]
   go_enter Tryz.func117,Tryz.ntmps117
   go_wp2
   refine bodyPost_ret (v:=Val.null.v) (by simp[results,Tryz.results117,go_sem,Val.v,Val.null]) rfl ⟨rfl,?_⟩
   (repeat (first|exact Below.refl _ _|refine Below.alloc ?_ (by simp<;>omega) _|refine Below.drew ?_|refine Below.setCell ?_ (by simp<;>omega) _|refine Below.trans ?_ (Below.mono (by assumption) (by first|omega | (simp;omega) | (simp;done)))))
 ·have ka2:(a.k != 2)=true:=by simpa using ka
  have e:catV a b=.null:=by simp[catV,ka]
  rw[e]
  go_enter Tryz.func117,Tryz.ntmps117
  go_wp2
  refine bodyPost_ret (v:=Val.null.v) (by simp[results,Tryz.results117,go_sem,Val.v,Val.null]) rfl ⟨rfl,?_⟩
  (repeat (first|exact Below.refl _ _|refine Below.alloc ?_ (by simp<;>omega) _|refine Below.drew ?_|refine Below.setCell ?_ (by simp<;>omega) _|refine Below.trans ?_ (Below.mono (by assumption) (by first|omega | (simp;omega) | (simp;done)))))
def ZeroAt(w:World)(b:Nat):Prop:=w.cell? ⟨b,0,none⟩=some (.int .i64 0)/\w.cell? ⟨b,1,none⟩=some (.int .i64 0)/\w.cell? ⟨b,2,none⟩=some (.string ⟨#[]⟩)/\w.frozen? ⟨b,0,none⟩=false/\w.frozen? ⟨b,1,none⟩=false/\w.frozen? ⟨b,2,none⟩=false
theorem ZeroAt.later{w w1:World}{b:Nat}(h:ZeroAt w b)(hb:Below w.heap.size w w1):ZeroAt w1 b:=by
 obtain⟨h0,h1,h2,f0,f1,f2⟩:=h
 obtain⟨hc,hf⟩:=bcell hb
 have hl:b<w.heap.size:=World.block_lt_of_cell? w _ h0
 unfold ZeroAt
 rw[hc _ _ hl,hc _ _ hl,hc _ _ hl,hf _ _ hl,hf _ _ hl,hf _ _ hl]
 exact⟨h0,h1,h2,f0,f1,f2⟩
abbrev Zero23:Obj:=.cells #[.int .i64 0,.int .i64 0,.string ⟨#[]⟩] 25
def boxes3(w:World)(a b:Val):World:=(boxes w a b).alloc Zero23
theorem boxes3_size(w:World)(a b:Val):(boxes3 w a b).heap.size=w.heap.size+1+1+1:=by simp[boxes3,boxes_size]
theorem boxes3_facts{w w':World}{a b:Val}(h:Below (boxes3 w a b).heap.size (boxes3 w a b) w') :
  BoxAt w' w.heap.size a/\BoxAt w' (w.heap.size+1) b/\FreeAt w' w.heap.size/\FreeAt w' (w.heap.size+1)/\ZeroAt w' (w.heap.size+1+1)/\w.heap.size+1+1<w'.heap.size:=by
 have hs:=h.size
 rw[boxes3_size] at hs
 obtain⟨hc,hf⟩:=bcell h
 refine⟨⟨?_,?_,?_⟩,⟨?_,?_,?_⟩,⟨?_,?_,?_⟩,⟨?_,?_,?_⟩,⟨?_,?_,?_,?_,?_,?_⟩,by omega⟩
 all_goals first | (rw[hc _ _ (by rw[boxes3_size];omega)];simp[boxes3,boxes,go_sem];done) | (rw[hf _ _ (by rw[boxes3_size];omega)];simp[boxes3,boxes,go_sem];done)
theorem boxes3_below{w w':World}{a b:Val}(h:Below (boxes3 w a b).heap.size (boxes3 w a b) w'):Below w.heap.size w w':=
 ((((Below.refl _ _).alloc (Nat.le_refl _) _).alloc (by simp) _).alloc (by simp;omega) _).trans (h.mono (by rw[boxes3_size];omega))
end Go.Proofs.YtbfibfmnemnbbaaGreat.E
