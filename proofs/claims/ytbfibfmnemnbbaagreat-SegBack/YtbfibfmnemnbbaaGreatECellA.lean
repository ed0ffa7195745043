import Derived.Test.YtbfibfmnemnbbaaGreatChecked
import Derived.WalkKit
import Derived.WalkSpells
import Derived.WalkLawsBesides
import Derived.StillTactics
import Derived.Deep.RegionHeld3
import Derived.Lib.QuietBelow
import Derived.BigQuiet
import Derived.RowKit3
set_option linter.unusedSimpArgs false
set_option linter.unusedVariables false
set_option maxHeartbeats 4000000
namespace Go.Proofs.YtbfibfmnemnbbaaGreat.E
open Go.RowKit
structure Val where
 k:Int
 n:Int
 s:ByteArray
def Val.v(x:Val):Value:=.agg #[.int .i64 x.k,.int .i64 x.n,.string x.s]
theorem Val.open_(x:Val):x.v=.agg #[.int .i64 x.k,.int .i64 x.n,.string x.s]:=rfl
def Val.null:Val:=⟨0,0,⟨#[]⟩⟩
def Val.num(n:Int):Val:=⟨1,n,⟨#[]⟩⟩
def Val.str(s:ByteArray):Val:=⟨2,0,s⟩
def truthV(b:Bool):Val:=.num (if b then 1 else 0)
def trueB(x:Val):Bool:=x.k == 1 && x.n != 0
def falseB(x:Val):Bool:=x.k == 1 && x.n == 0
def notV(x:Val):Val:=if x.k=1 then truthV (!trueB x) else .null
def bothV(op:Int)(a b:Val):Val:=
 if op=19 then (if falseB a || falseB b then truthV false else if a.k == 1 && b.k == 1 then truthV true else .null)
 else if op=20 then (if trueB a || trueB b then truthV true else if a.k == 1 && b.k == 1 then truthV false else .null)
 else .null
theorem bcell{W w1:World}(hb:Below W.heap.size W w1):(∀b o,b<W.heap.size->w1.cell? ⟨b,o,none⟩=W.cell? ⟨b,o,none⟩)/\(∀b o,b<W.heap.size->w1.frozen? ⟨b,o,none⟩=W.frozen? ⟨b,o,none⟩):=
 ⟨fun b o h=>hb.cell (p:=⟨b,o,none⟩) h,fun b o h=>hb.frozen (p:=⟨b,o,none⟩) h⟩
theorem number_any(n:Int)(w:World) :
  Calls Tryz.prog 47 #[.int .i64 n] w fun e w'=>e=.returned (Val.num n).v/\Below w.heap.size w w':=by
 unfold Val.v Val.num
 go_enter Tryz.func47,Tryz.ntmps47
 go_wp2
 exact bodyPost_ret (v:=.agg #[.int .i64 1,.int .i64 n,.string ⟨#[]⟩]) (by simp[results,Tryz.results47,go_sem]) rfl ⟨rfl,(Below.refl _ _).alloc (Nat.le_refl _) _⟩
theorem true_any(x:Val)(w:World) :
  Calls Tryz.prog 11 #[x.v] w fun e w'=>e=.returned (.bool (trueB x))/\Below w.heap.size w w':=by
 rw[x.open_]
 unfold trueB
 by_cases hk:(x.k == 1)=true
 ·go_enter Tryz.func11,Tryz.ntmps11
  go_wp2
  go_ret
  exact⟨by simp[hk],(Below.refl _ _).alloc (Nat.le_refl _) _⟩
 ·have hk':(x.k == 1)=false:=by simpa using hk
  clear hk
  go_enter Tryz.func11,Tryz.ntmps11
  go_wp2
  go_ret
  exact⟨by simp[hk'],(Below.refl _ _).alloc (Nat.le_refl _) _⟩
theorem isFalse_any(x:Val)(w:World) :
  Calls Tryz.prog 139 #[x.v] w fun e w'=>e=.returned (.bool (falseB x))/\Below w.heap.size w w':=by
 rw[x.open_]
 unfold falseB
 by_cases hk:(x.k == 1)=true
 ·go_enter Tryz.func139,Tryz.ntmps139
  go_wp2
  go_ret
  exact⟨by simp[hk],(Below.refl _ _).alloc (Nat.le_refl _) _⟩
 ·have hk':(x.k == 1)=false:=by simpa using hk
  clear hk
  go_enter Tryz.func139,Tryz.ntmps139
  go_wp2
  go_ret
  exact⟨by simp[hk'],(Below.refl _ _).alloc (Nat.le_refl _) _⟩
theorem truth_any(b:Bool)(w:World) :
  Calls Tryz.prog 137 #[.bool b] w fun e w'=>e=.returned (truthV b).v/\Below w.heap.size w w':=by
 cases b <;>
 ·go_enter Tryz.func137,Tryz.ntmps137
  go_wp2_with (go_at_call 47;refine(number_any _ _).mono ?_;rintro e w1 ⟨rfl,hb1⟩;obtain⟨hc1,hf1⟩:=bcell hb1;rw[Val.open_])
  refine bodyPost_ret (v:=(truthV _).v) (by simp[results,Tryz.results137,go_sem,truthV,Val.v,Val.num,hc1,hf1]) rfl ⟨rfl,?_⟩
  exact((((((Below.refl _ _).alloc (Nat.le_refl _) _).trans (hb1.mono (by simp))).setCell (by simp) _).setCell (by simp) _).setCell (by simp) _)
theorem not_any(x:Val)(w:World) :
  Calls Tryz.prog 111 #[x.v] w fun e w'=>e=.returned (notV x).v/\Below w.heap.size w w':=by
 rw[x.open_]
 by_cases hk:(x.k == 1)=true
 ·have hk2:(x.k != 1)=false:=by simpa using hk
  have hk3:notV x=truthV (!trueB x):=by simp[notV,beq_iff_eq.1 hk]
  rw[hk3]
  clear hk3
  go_enter Tryz.func111,Tryz.ntmps111
  go_wp2_with (first | (go_at_call 11;refine(true_any x _).mono ?_;rintro e w1 ⟨rfl,hb1⟩;obtain⟨hc1,hf1⟩:=bcell hb1;have hz1:w.heap.size+1<w1.heap.size:=by have:=hb1.size;simp at this;omega) | (go_at_call 137;refine(truth_any _ _).mono ?_;rintro e w2 ⟨rfl,hb2⟩;obtain⟨hc2,hf2⟩:=bcell hb2;rw[Val.open_]))
  refine bodyPost_ret (v:=(truthV (!trueB x)).v) (by simp[results,Tryz.results111,go_sem,Val.v,hc1,hf1,hc2,hf2,hz1]) rfl ⟨rfl,?_⟩
  exact((((((((Below.refl _ _).alloc (Nat.le_refl _) _).alloc (by simp) _).trans (hb1.mono (by simp;omega))).trans (hb2.mono (by omega))).setCell (by simp) _).setCell (by simp) _).setCell (by simp) _)
 ·have hk':(x.k == 1)=false:=by simpa using hk
  have hk2:(x.k != 1)=true:=by simpa using hk
  have hk3:notV x=.null:=by simp at hk';simp[notV,hk']
  rw[hk3]
  clear hk3 hk
  go_enter Tryz.func111,Tryz.ntmps111
  go_wp2
  exact bodyPost_ret (v:=Val.null.v) (by simp[results,Tryz.results111,go_sem,Val.v,Val.null]) rfl ⟨rfl,by repeat (first|exact Below.refl _ _|refine Below.alloc ?_ (by simp<;>omega) _|refine Below.setCell ?_ (by simp<;>omega) _)⟩
theorem both_other(op:Int)(a b:Val)(w:World)(h1:(op == 19)=false)(h2:(op == 20)=false) :
  Calls Tryz.prog 119 #[.int .i64 op,a.v,b.v] w fun e w'=>e=.returned (bothV op a b).v/\Below w.heap.size w w':=by
 have hk3:bothV op a b=.null:=by simp at h1 h2;simp[bothV,h1,h2]
 rw[a.open_,b.open_,hk3]
 clear hk3
 by_cases hk:(a.k == 1)=true
 ·go_enter Tryz.func119,Tryz.ntmps119
  go_wp2
  exact bodyPost_ret (v:=Val.null.v) (by simp[results,Tryz.results119,go_sem,Val.v,Val.null]) rfl ⟨rfl,by repeat (first|exact Below.refl _ _|refine Below.alloc ?_ (by simp<;>omega) _|refine Below.setCell ?_ (by simp<;>omega) _)⟩
 ·have hk':(a.k == 1)=false:=by simpa using hk
  clear hk
  go_enter Tryz.func119,Tryz.ntmps119
  go_wp2
  exact bodyPost_ret (v:=Val.null.v) (by simp[results,Tryz.results119,go_sem,Val.v,Val.null]) rfl ⟨rfl,by repeat (first|exact Below.refl _ _|refine Below.alloc ?_ (by simp<;>omega) _|refine Below.setCell ?_ (by simp<;>omega) _)⟩
theorem both_and(a b:Val)(w:World) :
  Calls Tryz.prog 119 #[.int .i64 19,a.v,b.v] w fun e w'=>e=.returned (bothV 19 a b).v/\Below w.heap.size w w':=by
 rw[a.open_,b.open_]
 rcases Bool.eq_false_or_eq_true (a.k == 1) with ka|ka<;>rcases Bool.eq_false_or_eq_true (b.k == 1) with kb|kb<;>rcases Bool.eq_false_or_eq_true (falseB a) with fa|fa<;>rcases Bool.eq_false_or_eq_true (falseB b) with fb|fb
 all_goals
  go_enter Tryz.func119,Tryz.ntmps119
  go_wp2_with (first
   | (go_at_call 139;refine(isFalse_any _ _).mono ?_;rintro e w1 ⟨rfl,hb1⟩;obtain⟨hc1,hf1⟩:=bcell hb1;have hz1:w.heap.size+1+1<w1.heap.size:=by have:=hb1.size;(try simp at this);omega)
   | (go_at_call 137;refine(truth_any _ _).mono ?_;rintro e w3 ⟨rfl,hb3⟩;obtain⟨hc3,hf3⟩:=bcell hb3;rw[Val.open_]))
  refine bodyPost_ret (v:=(bothV 19 a b).v) (by simp[results,Tryz.results119,go_sem,bothV,Val.v,Val.null, *]) rfl ⟨rfl,?_⟩
  (repeat (first|exact Below.refl _ _|refine Below.alloc ?_ (by simp<;>omega) _|refine Below.setCell ?_ (by simp<;>omega) _|refine Below.trans ?_ (Below.mono (by assumption) (by first|omega | (simp;omega)))))
theorem both_or(a b:Val)(w:World) :
  Calls Tryz.prog 119 #[.int .i64 20,a.v,b.v] w fun e w'=>e=.returned (bothV 20 a b).v/\Below w.heap.size w w':=by
 rw[a.open_,b.open_]
 rcases Bool.eq_false_or_eq_true (a.k == 1) with ka|ka<;>rcases Bool.eq_false_or_eq_true (b.k == 1) with kb|kb<;>rcases Bool.eq_false_or_eq_true (trueB a) with fa|fa<;>rcases Bool.eq_false_or_eq_true (trueB b) with fb|fb
 all_goals
  go_enter Tryz.func119,Tryz.ntmps119
  go_wp2_with (first
   | (go_at_call 11;refine(true_any _ _).mono ?_;rintro e w1 ⟨rfl,hb1⟩;obtain⟨hc1,hf1⟩:=bcell hb1;have hz1:w.heap.size+1+1<w1.heap.size:=by have:=hb1.size;(try simp at this);omega)
   | (go_at_call 137;refine(truth_any _ _).mono ?_;rintro e w3 ⟨rfl,hb3⟩;obtain⟨hc3,hf3⟩:=bcell hb3;rw[Val.open_]))
  refine bodyPost_ret (v:=(bothV 20 a b).v) (by simp[results,Tryz.results119,go_sem,bothV,Val.v,Val.null, *]) rfl ⟨rfl,?_⟩
  (repeat (first|exact Below.refl _ _|refine Below.alloc ?_ (by simp<;>omega) _|refine Below.setCell ?_ (by simp<;>omega) _|refine Below.trans ?_ (Below.mono (by assumption) (by first|omega | (simp;omega)))))
end Go.Proofs.YtbfibfmnemnbbaaGreat.E
