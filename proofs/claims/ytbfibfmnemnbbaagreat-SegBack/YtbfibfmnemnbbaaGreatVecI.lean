import Derived.Test.YtbfibfmnemnbbaaGreatChecked
import Derived.WalkKit
import Derived.WalkSpells
import Derived.WalkLawsBesides
import Derived.StillTactics
import Derived.Deep.RegionHeld3
import Derived.Lib.QuietBelow
import Derived.BigQuiet
import Derived.RowKit3
import Derived.Deep.DeepCutAuto
import Derived.Deep.DrawnRows
import Derived.Lib.Bytealg
import Derived.Maps.AppendAt
import Derived.Deep.AppendLies
import Derived.Deep.OwnRows
set_option linter.unusedSimpArgs false
set_option linter.unusedVariables false
set_option maxHeartbeats 1000000
namespace Go.Proofs.YtbfibfmnemnbbaaGreat
open Go.RowKit Go.Sort
structure Val where
 k:Int
 n:Int
 s:ByteArray
def Val.v(x:Val):Value:=.agg #[.int .i64 x.k,.int .i64 x.n,.string x.s]
theorem Val.open_(x:Val):x.v=.agg #[.int .i64 x.k,.int .i64 x.n,.string x.s]:=rfl
def Val.null:Val:=⟨0,0,⟨#[]⟩⟩
def Val.num(n:Int):Val:=⟨1,n,⟨#[]⟩⟩
def Val.str(s:ByteArray):Val:=⟨2,0,s⟩
def trueB(x:Val):Bool:=x.k == 1 && x.n != 0
def cleanV(x:Val):Val:=if x.k == 1 then .num x.n else if x.k == 2 then .str x.s else .null
def kindB(k:Int):Bool:=k == 1 || k == 2
def largeB(s:ByteArray):Bool:=decide ((1000:Int)<(s.size:Int))
theorem hide{p:Prop}(h:p):Hid p:=h
theorem unhide{p:Prop}(h:Hid p):p:=h
theorem below_step{W0 w' w1:World}(h:Below W0.heap.size W0 w')(h1:Below w'.heap.size w' w1):Below W0.heap.size W0 w1:=h.trans (h1.mono h.size)
theorem below_alloc{W0 w':World}(h:Below W0.heap.size W0 w')(o:Obj):Below W0.heap.size W0 (w'.alloc o):=h.alloc h.size o
theorem bcell{W w1:World}(hb:Below W.heap.size W w1):(∀b o,b<W.heap.size->w1.cell? ⟨b,o,none⟩=W.cell? ⟨b,o,none⟩)/\(∀b o,b<W.heap.size->w1.frozen? ⟨b,o,none⟩=W.frozen? ⟨b,o,none⟩):=
 ⟨fun b o h=>hb.cell (p:=⟨b,o,none⟩) h,fun b o h=>hb.frozen (p:=⟨b,o,none⟩) h⟩
theorem number_any(n:Int)(w:World) :
  Calls Tryz.prog 47 #[.int .i64 n] w fun e w'=>e=.returned (Val.num n).v/\Below w.heap.size w w':=by
 unfold Val.v Val.num
 go_enter Tryz.func47,Tryz.ntmps47
 go_wp2
 exact bodyPost_ret (v:=.agg #[.int .i64 1,.int .i64 n,.string ⟨#[]⟩]) (by simp[results,Tryz.results47,go_sem]) rfl ⟨rfl,(Below.refl _ _).alloc (Nat.le_refl _) _⟩
theorem text_any(s:ByteArray)(w:World) :
  Calls Tryz.prog 48 #[.string s] w fun e w'=>e=.returned (Val.str s).v/\Below w.heap.size w w':=by
 unfold Val.v Val.str
 go_enter Tryz.func48,Tryz.ntmps48
 go_wp2
 exact bodyPost_ret (v:=.agg #[.int .i64 2,.int .i64 0,.string s]) (by simp[results,Tryz.results48,go_sem]) rfl ⟨rfl,(Below.refl _ _).alloc (Nat.le_refl _) _⟩
theorem clean_any(x:Val)(w:World) :
  Calls Tryz.prog 23 #[x.v] w fun e w'=>e=.returned (cleanV x).v/\Below w.heap.size w w':=by
 rw[x.open_]
 rcases Bool.eq_false_or_eq_true (x.k == 1) with k1|k1
 ·have hv:cleanV x=.num x.n:=by simp[cleanV,k1]
  rw[hv]
  clear hv
  go_enter Tryz.func23,Tryz.ntmps23
  go_wp2_with (go_at_call 47;refine(number_any _ _).mono ?_;rintro e w1 ⟨rfl,hb1⟩;obtain⟨hc1,hf1⟩:=bcell hb1;rw[Val.open_])
  refine bodyPost_ret (v:=(Val.num x.n).v) (by simp[results,Tryz.results23,go_sem,Val.v,Val.num,hc1,hf1]) rfl ⟨rfl,?_⟩
  (repeat (first|exact Below.refl _ _|refine Below.alloc ?_ (by simp<;>omega) _|refine Below.setCell ?_ (by simp<;>omega) _|refine Below.trans ?_ (Below.mono (by assumption) (by first|omega | (simp;omega)))))
 ·rcases Bool.eq_false_or_eq_true (x.k == 2) with k2|k2
  ·have hv:cleanV x=.str x.s:=by simp[cleanV,k1,k2]
   rw[hv]
   clear hv
   go_enter Tryz.func23,Tryz.ntmps23
   go_wp2_with (go_at_call 48;refine(text_any _ _).mono ?_;rintro e w1 ⟨rfl,hb1⟩;obtain⟨hc1,hf1⟩:=bcell hb1;rw[Val.open_])
   refine bodyPost_ret (v:=(Val.str x.s).v) (by simp[results,Tryz.results23,go_sem,Val.v,Val.str,hc1,hf1]) rfl ⟨rfl,?_⟩
   (repeat (first|exact Below.refl _ _|refine Below.alloc ?_ (by simp<;>omega) _|refine Below.setCell ?_ (by simp<;>omega) _|refine Below.trans ?_ (Below.mono (by assumption) (by first|omega | (simp;omega)))))
  ·have hv:cleanV x=.null:=by simp[cleanV,k1,k2]
   rw[hv]
   clear hv
   go_enter Tryz.func23,Tryz.ntmps23
   go_wp2
   refine bodyPost_ret (v:=Val.null.v) (by simp[results,Tryz.results23,go_sem,Val.v,Val.null]) rfl ⟨rfl,?_⟩
   (repeat (first|exact Below.refl _ _|refine Below.alloc ?_ (by simp<;>omega) _|refine Below.setCell ?_ (by simp<;>omega) _))
theorem iskind_any(k:Int)(w:World) :
  Calls Tryz.prog 35 #[.int .i64 k] w fun e w'=>e=.returned (.bool (kindB k))/\w'=w:=by
 unfold kindB
 by_cases hk:(k == 1)=true
 ·go_enter Tryz.func35,Tryz.ntmps35
  go_wp2
  go_ret
  exact⟨by simp[hk],rfl⟩
 ·have hk':(k == 1)=false:=by simpa using hk
  clear hk
  go_enter Tryz.func35,Tryz.ntmps35
  go_wp2
  go_ret
  exact⟨by simp[hk'],rfl⟩
theorem islarge_any(s:ByteArray)(w:World) :
  Calls Tryz.prog 36 #[.string s] w fun e w'=>e=.returned (.bool (largeB s))/\w'=w:=by
 unfold largeB
 go_enter Tryz.func36,Tryz.ntmps36
 go_wp2
 go_ret
 exact⟨rfl,rfl⟩
end Go.Proofs.YtbfibfmnemnbbaaGreat
set_option linter.unusedSimpArgs false
set_option linter.unusedVariables false
namespace Go.Proofs.YtbfibfmnemnbbaaGreat
open Go.RowKit Go.Sort
def RowAt(w:World)(a:Option Addr)(xs:List Val):Prop:=
 xs=[]∨∃b off,a=some ⟨b,off,none⟩/\∀i x,xs[i]?=some x->w.cell? ⟨b,off+i*3,none⟩=some (.int .i64 x.k)/\w.cell? ⟨b,off+i*3+1,none⟩=some (.int .i64 x.n)/\w.cell? ⟨b,off+i*3+2,none⟩=some (.string x.s)
theorem RowAt.later{w w':World}{a:Option Addr}{xs:List Val}(h:RowAt w a xs)(hb:Below w.heap.size w w'):RowAt w' a xs:=by
 rcases h with h|⟨b,off,ha,h⟩
 ·exact .inl h
 ·exact .inr ⟨b,off,ha,fun i x hx=>⟨cell_later hb (h i x hx).1,cell_later hb (h i x hx).2.1,cell_later hb (h i x hx).2.2⟩⟩
def LisAt(w:World)(a:Option Addr)(cs:List Value):Prop:=
 cs=[]∨∃b off,a=some ⟨b,off,none⟩/\∀i x,cs[i]?=some x->w.cell? ⟨b,off+i,none⟩=some x
theorem LisAt.later{w w':World}{a:Option Addr}{cs:List Value}(h:LisAt w a cs)(hb:Below w.heap.size w w'):LisAt w' a cs:=by
 rcases h with h|⟨b,off,ha,h⟩
 ·exact .inl h
 ·exact .inr ⟨b,off,ha,fun i x hx=>cell_later hb (h i x hx)⟩
structure Vc where
 k:Int
 nl:List Bool
 ns:List Int
 ss:List ByteArray
def Vc.zero:Vc:=⟨0,[],[],[]⟩
structure Sl where
 a1:Option Addr
 c1:Nat
 a2:Option Addr
 c2:Nat
 a3:Option Addr
 c3:Nat
def vecV(X:Vc)(p:Sl):Value:=.agg #[.int .i64 X.k,.slice p.a1 X.nl.length p.c1,.slice p.a2 X.ns.length p.c2,.slice p.a3 X.ss.length p.c3]
theorem vecV_open(X:Vc)(p:Sl):vecV X p=.agg #[.int .i64 X.k,.slice p.a1 X.nl.length p.c1,.slice p.a2 X.ns.length p.c2,.slice p.a3 X.ss.length p.c3]:=rfl
def VecAt(w:World)(X:Vc)(p:Sl):Prop:=LisAt w p.a1 (X.nl.map .bool)/\LisAt w p.a2 (X.ns.map (.int .i64))/\LisAt w p.a3 (X.ss.map .string)
theorem VecAt.later{w w':World}{X:Vc}{p:Sl}(h:VecAt w X p)(hb:Below w.heap.size w w'):VecAt w' X p:=⟨h.1.later hb,h.2.1.later hb,h.2.2.later hb⟩
theorem VecAt.zero(w:World):VecAt w Vc.zero ⟨none,0,none,0,none,0⟩:=⟨.inl rfl,.inl rfl,.inl rfl⟩
def Fresh(base:Nat)(p:Sl):Prop:=(∀ad,p.a1=some ad->base<=ad.block)/\(∀ad,p.a2=some ad->base<=ad.block)/\(∀ad,p.a3=some ad->base<=ad.block)
theorem Fresh.less{b c:Nat}{p:Sl}(h:Fresh c p)(hb:b<=c):Fresh b p:=⟨fun ad e=>Nat.le_trans hb (h.1 ad e),fun ad e=>Nat.le_trans hb (h.2.1 ad e),fun ad e=>Nat.le_trans hb (h.2.2 ad e)⟩
theorem LisAt.setO{w:World}{a:Option Addr}{base:Nat}{cs:List Value}(h:LisAt w a cs)(hf:∀ad,a=some ad->base<=ad.block)(x:Addr)(hx:x.block<base)(v:Value):LisAt (w.setCell x v) a cs:=by
 rcases h with h|⟨b,off,e,h⟩
 ·exact .inl h
 ·subst e
  have:=hf _ rfl
  exact .inr ⟨b,off,rfl,fun i y hy=>(World.cell?_of_block (w:=w) (Go.Deep.blk_setCell_other _ _ _ _ (by simp at this ⊢;omega))).trans (h i y hy)⟩
theorem VecAt.setO{w:World}{X:Vc}{p:Sl}{base:Nat}(h:VecAt w X p)(hf:Fresh base p)(x:Addr)(hx:x.block<base)(v:Value):VecAt (w.setCell x v) X p:=
 ⟨h.1.setO hf.1 x hx v,h.2.1.setO hf.2.1 x hx v,h.2.2.setO hf.2.2 x hx v⟩
theorem VecAt.setO4{w:World}{X:Vc}{p:Sl}{base B:Nat}(h:VecAt w X p)(hf:Fresh base p)(hx:B<base)(v0 v1 v2 v3:Value):VecAt ((((w.setCell ⟨B,0,none⟩ v0).setCell ⟨B,1,none⟩ v1).setCell ⟨B,2,none⟩ v2).setCell ⟨B,3,none⟩ v3) X p:=
 (((h.setO hf _ hx _).setO hf _ hx _).setO hf _ hx _).setO hf _ hx _
def nlOf(xs:List Val):List Bool:=xs.map (fun x=>x.k == 0)
def laidV(kind:Int)(xs:List Val):Vc:=⟨kind,nlOf xs,if kind=1 then xs.map (·.n) else [],if kind=1 then [] else xs.map (·.s)⟩
theorem Tryz.info4:(Tryz.prog.info? 4).map (fun i=>(i.zero,i.size,i.bytes))=some (some (.bool false),1,1):=by kernel_rfl
theorem Tryz.info2:(Tryz.prog.info? 2).map (fun i=>(i.zero,i.size,i.bytes))=some (some (.int .i64 0),1,8):=by kernel_rfl
theorem Tryz.info9:(Tryz.prog.info? 9).map (fun i=>(i.zero,i.size,i.bytes))=some (some (.string ⟨#[]⟩),1,16):=by kernel_rfl
theorem Tryz.info25:(Tryz.prog.info? 25).map (fun i=>(i.zero,i.size,i.bytes))=some (some (.agg #[.int .i64 0,.int .i64 0,.string ⟨#[]⟩]),3,32):=by kernel_rfl
def Holds(F:Nat->Value)(k:Nat)(cs:List Value):Prop:=∀i x,i<k->cs[i]?=some x->F i=x
theorem Holds.zero(F:Nat->Value)(cs:List Value):Holds F 0 cs:=fun i x h=>by omega
theorem Holds.step{F:Nat->Value}{k:Nat}{cs:List Value}{v:Value}(h:Holds F k cs)(hv:cs[k]?=some v):Holds (fun j=>if j=k then v else F j) (k+1) cs:=by
 intro i x hi hx
 by_cases e:i=k
 ·subst e;rw[hv] at hx;simpa using hx
 ·show (if i=k then v else F i)=x
  rw[if_neg e];exact h i x (by omega) hx
theorem lis_of_row{w:World}{g t n:Nat}{F:Nat->Value}{cs:List Value}(h:w.rowIs g t n F)(hl:cs.length=n)(hh:Holds F n cs):LisAt w (some ⟨g,0,none⟩) cs:=by
 refine .inr ⟨g,0,rfl,fun i x hx=>?_⟩
 have hi:i<n:=by have:=(List.getElem?_eq_some_iff.1 hx).1;omega
 rw[Nat.zero_add,h.cell hi,hh i x hi hx]
def box4(a b c d:Value):Nat->Value
 | 0=>a
 | 1=>b
 | 2=>c
 | _=>d
def Own3(w:World)(base:Nat)(X:Vc)(p:Sl):Prop:=w.ownsRow base 4 1 (.slice p.a1 X.nl.length p.c1) X.nl.length (X.nl.map .bool)/\w.ownsRow base 2 1 (.slice p.a2 X.ns.length p.c2) X.ns.length (X.ns.map (.int .i64))/\w.ownsRow base 9 1 (.slice p.a3 X.ss.length p.c3) X.ss.length (X.ss.map .string)
theorem own_fresh{w:World}{base e size n:Nat}{a:Option Addr}{m c:Nat}{xs:List Value}(h:w.ownsRow base e size (.slice a m c) n xs):∀ad,a=some ad->base<=ad.block:=by
 intro ad e'
 rcases h.2 with ⟨h,_⟩|⟨g,cap,cur,h,hb,_⟩
 ·injection h with h;rw[e'] at h;cases h
 ·injection h with h;rw[e'] at h;injection h with h;rw[h];exact hb
theorem Own3.fresh{w:World}{base:Nat}{X:Vc}{p:Sl}(h:Own3 w base X p):Fresh base p:=⟨own_fresh h.1,own_fresh h.2.1,own_fresh h.2.2⟩
theorem own_keepB{w w':World}{base e size n:Nat}{v:Value}{xs:List Value}(h:w.ownsRow base e size v n xs)(hk:∀g,base<=g->w'.heap[g]?=w.heap[g]?):w'.ownsRow base e size v n xs:=by
 refine⟨h.1,?_⟩
 rcases h.2 with h|⟨g,cap,cur,h1,hb,hc,h4⟩
 ·exact .inl h
 ·exact .inr ⟨g,cap,cur,h1,hb,by rw[hk g hb];exact hc,h4⟩
theorem own_lessB{w:World}{base b e size n:Nat}{v:Value}{xs:List Value}(h:w.ownsRow base e size v n xs)(hb:b<=base):w.ownsRow b e size v n xs:=by
 refine⟨h.1,?_⟩
 rcases h.2 with h|⟨g,cap,cur,h1,h2,h3⟩
 ·exact .inl h
 ·exact .inr ⟨g,cap,cur,h1,Nat.le_trans hb h2,h3⟩
theorem Own3.keep{w w':World}{base:Nat}{X:Vc}{p:Sl}(h:Own3 w base X p)(hk:∀g,base<=g->w'.heap[g]?=w.heap[g]?):Own3 w' base X p:=⟨own_keepB h.1 hk,own_keepB h.2.1 hk,own_keepB h.2.2 hk⟩
theorem Own3.less{w:World}{base b:Nat}{X:Vc}{p:Sl}(h:Own3 w base X p)(hb:b<=base):Own3 w b X p:=⟨own_lessB h.1 hb,own_lessB h.2.1 hb,own_lessB h.2.2 hb⟩
theorem Own3.setO{w:World}{base:Nat}{X:Vc}{p:Sl}(h:Own3 w base X p)(x:Addr)(hx:x.block<base)(v:Value):Own3 (w.setCell x v) base X p:=h.keep fun g hg=>Go.Deep.blk_setCell_other _ _ _ _ (by omega)
theorem Own3.setO4{w:World}{base B:Nat}{X:Vc}{p:Sl}(h:Own3 w base X p)(hx:B<base)(v0 v1 v2 v3:Value):Own3 ((((w.setCell ⟨B,0,none⟩ v0).setCell ⟨B,1,none⟩ v1).setCell ⟨B,2,none⟩ v2).setCell ⟨B,3,none⟩ v3) base X p:=
 (((h.setO _ hx _).setO _ hx _).setO _ hx _).setO _ hx _
theorem own_none{w:World}{base e size:Nat}:w.ownsRow base e size (.slice none 0 0) 0 []:=⟨by simp,.inl ⟨rfl,rfl⟩⟩
theorem Own3.zero(w:World)(base:Nat):Own3 w base Vc.zero ⟨none,0,none,0,none,0⟩:=⟨own_none,own_none,own_none⟩
theorem own1_of_row{w:World}{base g t n:Nat}{F:Nat->Value}{cs:List Value}(h:w.rowIs g t n F)(hl:cs.length=n)(hh:Holds F n cs)(hb:base<=g)(hn:n<=maxLen):w.ownsRow base t 1 (.slice (some ⟨g,0,none⟩) n n) n cs:=by
 subst hl
 obtain⟨c,hc,hs,hf⟩:=h
 refine⟨by omega,.inr ⟨g,cs.length,c,rfl,hb,hc,Nat.le_refl _,hn,by omega,?_⟩⟩
 rw[List.take_of_length_le (by simp[hs])]
 apply List.ext_getElem?
 intro j
 by_cases hj:j<cs.length
 ·rw[Array.getElem?_toList,hf j hj,List.getElem?_eq_getElem hj,hh j _ hj (List.getElem?_eq_getElem hj)]
 ·rw[List.getElem?_eq_none (by simp[hs];omega),List.getElem?_eq_none (by omega)]
end Go.Proofs.YtbfibfmnemnbbaaGreat
set_option linter.unusedSimpArgs false
set_option linter.unusedVariables false
namespace Go.Proofs.YtbfibfmnemnbbaaGreat
open Go.RowKit Go.Sort
def fit(X:Vc):Prop:=X.nl.length<=maxLen/\X.ns.length<=maxLen/\X.ss.length<=maxLen
theorem LisAt.get{w:World}{a:Option Addr}{cs:List Value}{k:Nat}{x:Value}(h:LisAt w a cs)(hx:cs[k]?=some x):∃b off,a=some ⟨b,off,none⟩/\w.cell? ⟨b,off+k,none⟩=some x:=by
 rcases h with h|⟨b,off,ha,h⟩
 ·rw[h] at hx;cases hx
 ·exact⟨b,off,ha,h k x hx⟩
def two(w:World)(v1 v2 v3 v4 u1 u2 u3 u4:Value):World:=(w.alloc (.cells #[v1,v2,v3,v4] 56)).alloc (.cells #[u1,u2,u3,u4] 56)
end Go.Proofs.YtbfibfmnemnbbaaGreat
set_option linter.unusedSimpArgs false
set_option linter.unusedVariables false
set_option maxHeartbeats 2000000
namespace Go.Proofs.YtbfibfmnemnbbaaGreat
open Go.RowKit Go.Sort
section
variable {α:Type}
theorem hitG{p:α->Bool}{ys:List α}{k:Nat}{y:α}(h:ys[k]?=some y)(hp:p y=true):ys.any p=true:=
 List.any_eq_true.2 ⟨y,List.mem_of_getElem? h,hp⟩
theorem noneG{p:α->Bool}{ys:List α}(h:∀i y,i<ys.length->ys[i]?=some y->p y=false):ys.any p=false:=by
 rw[List.any_eq_false]
 intro y hy
 obtain⟨i,hi⟩:=List.mem_iff_getElem?.1 hy
 rw[h i y (List.getElem?_eq_some_iff.1 hi).1 hi];simp
theorem stepG{p:α->Bool}{ys:List α}{k:Nat}{y:α}(h:∀i y,i<k->ys[i]?=some y->p y=false)(hy:ys[k]?=some y)(hp:p y=false):∀i y,i<k+1->ys[i]?=some y->p y=false:=by
 intro i z hi hz
 by_cases e:i=k
 ·subst e;rw[hy] at hz;cases hz;exact hp
 ·exact h i z (by omega) hz
end
theorem zip_get{α β:Type}{xs:List α}{ys:List β}{k:Nat}{a:α}{b:β}(h1:xs[k]?=some a)(h2:ys[k]?=some b):(xs.zip ys)[k]?=some (a,b):=by
 rw[List.getElem?_zip_eq_some];exact⟨h1,h2⟩
def badN(p:Bool×Int):Bool:=p.1 && p.2 != 0
def badS(p:Bool×ByteArray):Bool:=p.1 && !p.2.toList.isEmpty
def znN(nl:List Bool)(ns:List Int):Bool:=nl.length == ns.length && !(nl.zip ns).any badN
def znS(nl:List Bool)(ss:List ByteArray):Bool:=nl.length == ss.length && !(nl.zip ss).any badS
theorem zeroN_any(a1 a2:Option Addr)(c1 c2:Nat)(nl:List Bool)(ns:List Int)(w:World)(l1:nl.length<=4398046511104)(l2:ns.length<=4398046511104)(h1:LisAt w a1 (nl.map .bool))(h2:LisAt w a2 (ns.map (.int .i64))) :
  Calls Tryz.prog 69 #[.slice a1 nl.length c1,.slice a2 ns.length c2] w fun e w'=>e=.returned (.bool (znN nl ns))/\w'=w:=by
 have H1:=hide h1
 have H2:=hide h2
 clear h1 h2
 by_cases e:nl.length=ns.length
 ·obtain⟨n,hn⟩:∃n,n=ns.length:=⟨_,rfl⟩
  have HZ:Hid (znN nl ns=!(nl.zip ns).any badN):=by show _=_;simp[znN,e]
  have HZL:Hid ((nl.zip ns).length=n):=by show _=_;simp[e,hn]
  have HE1:Hid (nl.length=n):=by show _=_;rw[e,hn]
  have HE2:Hid (ns.length=n):=hn.symm
  rw[e,<-hn]
  rw[<-hn] at l2
  clear e hn l1
  generalize znN nl ns=Z at HZ ⊢
  go_enter Tryz.func69,Tryz.ntmps69
  go_wp2_with fail
  go_loopw[15] (fun i wr=>∃k:Nat,k<=n/\i=.int .i64 k/\Hid (∀i y,i<k->(nl.zip ns)[i]?=some y->badN y=false)/\wr=w) (fun i _=>n-(intOf i).toNat)
  case atStart=>exact⟨0,Nat.zero_le _,rfl,fun i y h=>by omega,rfl⟩
  case round=>
   obtain⟨k,hk,rfl,HN,rfl⟩:=hrel
   by_cases h1:k<n
   ·obtain⟨b,hb⟩:∃b,nl[k]?=some b:=⟨_,List.getElem?_eq_getElem (by rw[unhide HE1];exact h1)⟩
    obtain⟨m,hm⟩:∃m,ns[k]?=some m:=⟨_,List.getElem?_eq_getElem (by rw[unhide HE2];exact h1)⟩
    obtain⟨pb,po,rfl,cp⟩:=(unhide H1).get (k:=k) (x:=.bool b) (by simp[hb])
    obtain⟨qb,qo,rfl,cq⟩:=(unhide H2).get (k:=k) (x:=.int .i64 m) (by simp[hm])
    have HS:=hide (zip_get hb hm)
    have i1:(k:Int)<(n:Int):=by omega
    clear hb hm
    cases b
    ·have HP:=hide (stepG (unhide HN) (unhide HS) (by simp[badN]))
     go_wp2
     go_roundw
     case rel=>exact⟨k+1,by omega,by go_num,HP,by first|rfl|trivial⟩
     case measure=>simp[intOf];omega
    ·rcases Bool.eq_false_or_eq_true (m != 0) with em|em
     ·have HE:Hid (Z=false):=by show _=_;rw[unhide HZ,hitG (unhide HS) (by simpa [badN] using em)];rfl
      go_wp2
      go_ret
      exact⟨by rw[unhide HE];rfl,rfl⟩
     ·have HP:=hide (stepG (unhide HN) (unhide HS) (by simpa [badN] using em))
      go_wp2
      go_roundw
      case rel=>exact⟨k+1,by omega,by go_num,HP,by first|rfl|trivial⟩
      case measure=>simp[intOf];omega
   ·have i1:¬(k:Int)<(n:Int):=by omega
    have HE:Hid (Z=true):=by
     show _=_
     have e:k=n:=by omega
     rw[unhide HZ,noneG (by rw[unhide HZL,<-e];exact unhide HN)];rfl
    go_wp2
    go_ret
    exact⟨by rw[unhide HE];rfl,rfl⟩
 ·have HZ:Hid (znN nl ns=false):=by show _=_;simp[znN,e]
  have e':((nl.length:Int) != (ns.length:Int))=true:=by simp;omega
  clear e
  generalize znN nl ns=Z at HZ ⊢
  go_enter Tryz.func69,Tryz.ntmps69
  go_wp2
  go_ret
  exact⟨by rw[unhide HZ];rfl,rfl⟩
theorem zeroS_any(a1 a2:Option Addr)(c1 c2:Nat)(nl:List Bool)(ns:List ByteArray)(w:World)(l1:nl.length<=4398046511104)(l2:ns.length<=4398046511104)(h1:LisAt w a1 (nl.map .bool))(h2:LisAt w a2 (ns.map .string)) :
  Calls Tryz.prog 70 #[.slice a1 nl.length c1,.slice a2 ns.length c2] w fun e w'=>e=.returned (.bool (znS nl ns))/\w'=w:=by
 have H1:=hide h1
 have H2:=hide h2
 clear h1 h2
 by_cases e:nl.length=ns.length
 ·obtain⟨n,hn⟩:∃n,n=ns.length:=⟨_,rfl⟩
  have HZ:Hid (znS nl ns=!(nl.zip ns).any badS):=by show _=_;simp[znS,e]
  have HZL:Hid ((nl.zip ns).length=n):=by show _=_;simp[e,hn]
  have HE1:Hid (nl.length=n):=by show _=_;rw[e,hn]
  have HE2:Hid (ns.length=n):=hn.symm
  rw[e,<-hn]
  rw[<-hn] at l2
  clear e hn l1
  generalize znS nl ns=Z at HZ ⊢
  go_enter Tryz.func70,Tryz.ntmps70
  go_wp2_with fail
  go_loopw[15] (fun i wr=>∃k:Nat,k<=n/\i=.int .i64 k/\Hid (∀i y,i<k->(nl.zip ns)[i]?=some y->badS y=false)/\wr=w) (fun i _=>n-(intOf i).toNat)
  case atStart=>exact⟨0,Nat.zero_le _,rfl,fun i y h=>by omega,rfl⟩
  case round=>
   obtain⟨k,hk,rfl,HN,rfl⟩:=hrel
   by_cases h1:k<n
   ·obtain⟨b,hb⟩:∃b,nl[k]?=some b:=⟨_,List.getElem?_eq_getElem (by rw[unhide HE1];exact h1)⟩
    obtain⟨m,hm⟩:∃m,ns[k]?=some m:=⟨_,List.getElem?_eq_getElem (by rw[unhide HE2];exact h1)⟩
    obtain⟨pb,po,rfl,cp⟩:=(unhide H1).get (k:=k) (x:=.bool b) (by simp[hb])
    obtain⟨qb,qo,rfl,cq⟩:=(unhide H2).get (k:=k) (x:=.string m) (by simp[hm])
    have HS:=hide (zip_get hb hm)
    have i1:(k:Int)<(n:Int):=by omega
    clear hb hm
    cases b
    ·have HP:=hide (stepG (unhide HN) (unhide HS) (by simp[badS]))
     go_wp2
     go_roundw
     case rel=>exact⟨k+1,by omega,by go_num,HP,by first|rfl|trivial⟩
     case measure=>simp[intOf];omega
    ·rcases Bool.eq_false_or_eq_true (!m.toList.isEmpty) with em|em
     ·have HE:Hid (Z=false):=by show _=_;rw[unhide HZ,hitG (unhide HS) (by simpa [badS] using em)];rfl
      go_wp2
      go_ret
      exact⟨by rw[unhide HE];rfl,rfl⟩
     ·have HP:=hide (stepG (unhide HN) (unhide HS) (by simpa [badS] using em))
      go_wp2
      go_roundw
      case rel=>exact⟨k+1,by omega,by go_num,HP,by first|rfl|trivial⟩
      case measure=>simp[intOf];omega
   ·have i1:¬(k:Int)<(n:Int):=by omega
    have HE:Hid (Z=true):=by
     show _=_
     have e:k=n:=by omega
     rw[unhide HZ,noneG (by rw[unhide HZL,<-e];exact unhide HN)];rfl
    go_wp2
    go_ret
    exact⟨by rw[unhide HE];rfl,rfl⟩
 ·have HZ:Hid (znS nl ns=false):=by show _=_;simp[znS,e]
  have e':((nl.length:Int) != (ns.length:Int))=true:=by simp;omega
  clear e
  generalize znS nl ns=Z at HZ ⊢
  go_enter Tryz.func70,Tryz.ntmps70
  go_wp2
  go_ret
  exact⟨by rw[unhide HZ];rfl,rfl⟩
end Go.Proofs.YtbfibfmnemnbbaaGreat
