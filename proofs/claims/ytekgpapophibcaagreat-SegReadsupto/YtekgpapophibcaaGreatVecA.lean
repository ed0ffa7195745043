import Derived.Test.YtekgpapophibcaaGreatRows
import Derived.WalkKit
import Derived.WalkSpells
import Derived.WalkLawsBesides
import Derived.StillTactics
import Derived.Deep.RegionHeld3
import Derived.Lib.QuietBelow
import Derived.BigQuiet
import Derived.RowKit3
import Derived.Deep.DeepCutAuto
import Derived.Deep.DrawnRows
import Derived.Lib.Bytealg
import Derived.Maps.AppendAt
import Derived.Deep.AppendLies
import Derived.Deep.OwnRows
import Derived.Lib.ConvBytes
set_option linter.unusedSimpArgs false
set_option linter.unusedVariables false
set_option maxHeartbeats 2000000
namespace Go.Proofs.YtekgpapophibcaaGreat
open Go.RowKit Go.Sort
theorem zAf{α:Type}{l:List α}{i:Nat}(h:i<l.length):l[i]?=some l[i]:=List.getElem?_eq_getElem h
theorem zAX{α:Type}{a b:List α}:(a++b).length=a.length+b.length:=List.length_append
theorem zAL{α:Type}{l:List α}{i:Nat}{x:α}(h:l[i]?=some x):∃h:i<l.length,l[i]=x:=List.getElem?_eq_some_iff.1 h
structure Val where
 k:Int
 n:Int
 s:ByteArray
def Val.v(x:Val):Value:=.agg #[.int .i64 x.k,.int .i64 x.n,.string x.s]
theorem Val.open_(x:Val):x.v=.agg #[.int .i64 x.k,.int .i64 x.n,.string x.s]:=rfl
def Val.null:Val:=⟨0,0,⟨#[]⟩⟩
def Val.num(n:Int):Val:=⟨1,n,⟨#[]⟩⟩
def Val.str(s:ByteArray):Val:=⟨2,0,s⟩
def zA8(x:Val):Val:=if x.k == 1 then .num x.n else if x.k == 2 then .str x.s else .null
def zFM(k:Int):Bool:=k == 1 || k == 2
def zAv(s:ByteArray):Bool:=decide ((1000:Int)<(s.size:Int))
theorem zA3{p:Prop}(h:p):Hid p:=h
theorem zA0{p:Prop}(h:Hid p):p:=h
theorem zA2{W0 w' w1:World}(h:Below W0.heap.size W0 w')(h1:Below w'.heap.size w' w1):Below W0.heap.size W0 w1:=h.trans (h1.mono h.size)
theorem zA1{W0 w':World}(h:Below W0.heap.size W0 w')(o:Obj):Below W0.heap.size W0 (w'.alloc o):=h.alloc h.size o
theorem zCR{W w1:World}(hb:Below W.heap.size W w1):(∀b o,b<W.heap.size->w1.cell? ⟨b,o,none⟩=W.cell? ⟨b,o,none⟩)/\(∀b o,b<W.heap.size->w1.frozen? ⟨b,o,none⟩=W.frozen? ⟨b,o,none⟩):=
 ⟨fun b o h=>hb.cell (p:=⟨b,o,none⟩) h,fun b o h=>hb.frozen (p:=⟨b,o,none⟩) h⟩
theorem zHj(n:Int)(w:World) :
  Calls Tryz.prog 76 #[.int .i64 n] w fun e w'=>e=.returned (Val.num n).v/\Below w.heap.size w w':=by
 unfold Val.v Val.num
 go_enter Tryz.func76,Tryz.ntmps76
 go_wp2
 exact bodyPost_ret (v:=.agg #[.int .i64 1,.int .i64 n,.string ⟨#[]⟩]) (by simp[results,Tryz.results76,go_sem]) rfl ⟨rfl,(Below.refl _ _).alloc (Nat.le_refl _) _⟩
theorem zLR(s:ByteArray)(w:World) :
  Calls Tryz.prog 77 #[.string s] w fun e w'=>e=.returned (Val.str s).v/\Below w.heap.size w w':=by
 unfold Val.v Val.str
 go_enter Tryz.func77,Tryz.ntmps77
 go_wp2
 exact bodyPost_ret (v:=.agg #[.int .i64 2,.int .i64 0,.string s]) (by simp[results,Tryz.results77,go_sem]) rfl ⟨rfl,(Below.refl _ _).alloc (Nat.le_refl _) _⟩
theorem zDn(n:Int)(w:World) :
  Calls Tryz.prog 37 #[.int .i64 n] w fun e w'=>e=.returned (Val.num n).v/\Below w.heap.size w w':=by
 unfold Val.v Val.num
 go_enter Tryz.func37,Tryz.ntmps37
 go_wp2
 exact bodyPost_ret (v:=.agg #[.int .i64 1,.int .i64 n,.string ⟨#[]⟩]) (by simp[results,Tryz.results37,go_sem]) rfl ⟨rfl,(Below.refl _ _).alloc (Nat.le_refl _) _⟩
theorem zII(s:ByteArray)(w:World) :
  Calls Tryz.prog 61 #[.string s] w fun e w'=>e=.returned (Val.str s).v/\Below w.heap.size w w':=by
 unfold Val.v Val.str
 go_enter Tryz.func61,Tryz.ntmps61
 go_wp2
 exact bodyPost_ret (v:=.agg #[.int .i64 2,.int .i64 0,.string s]) (by simp[results,Tryz.results61,go_sem]) rfl ⟨rfl,(Below.refl _ _).alloc (Nat.le_refl _) _⟩
theorem zGO(w:World) :
  Calls Tryz.prog 62 #[] w fun e w'=>e=.returned Val.null.v/\Below w.heap.size w w':=by
 unfold Val.v Val.null
 go_enter Tryz.func62,Tryz.ntmps62
 go_wp2
 exact bodyPost_ret (v:=.agg #[.int .i64 0,.int .i64 0,.string ⟨#[]⟩]) (by simp[results,Tryz.results62,go_sem]) rfl ⟨rfl,(Below.refl _ _).alloc (Nat.le_refl _) _⟩
theorem zHC(x:Val)(w:World) :
  Calls Tryz.prog 53 #[x.v] w fun e w'=>e=.returned (zA8 x).v/\Below w.heap.size w w':=by
 rw[x.open_]
 rcases Bool.eq_false_or_eq_true (x.k == 1) with k1|k1
 ·have hv:zA8 x=.num x.n:=by simp[zA8,k1]
  rw[hv]
  clear hv
  go_enter Tryz.func53,Tryz.ntmps53
  go_wp2_with (go_at_call 76;refine(zHj _ _).mono ?_;rintro e w1 ⟨rfl,Hb⟩;obtain⟨Qj,QM⟩:=zCR Hb;rw[Val.open_])
  refine bodyPost_ret (v:=(Val.num x.n).v) (by simp[results,Tryz.results53,go_sem,Val.v,Val.num,Qj,QM]) rfl ⟨rfl,?_⟩
  (repeat (first|exact Below.refl _ _|refine Below.alloc ?_ (by simp<;>omega) _|refine Below.setCell ?_ (by simp<;>omega) _|refine Below.trans ?_ (Below.mono (by assumption) (by first|omega | (simp;omega)))))
 ·rcases Bool.eq_false_or_eq_true (x.k == 2) with k2|k2
  ·have hv:zA8 x=.str x.s:=by simp[zA8,k1,k2]
   rw[hv]
   clear hv
   go_enter Tryz.func53,Tryz.ntmps53
   go_wp2_with (go_at_call 77;refine(zLR _ _).mono ?_;rintro e w1 ⟨rfl,Hb⟩;obtain⟨Qj,QM⟩:=zCR Hb;rw[Val.open_])
   refine bodyPost_ret (v:=(Val.str x.s).v) (by simp[results,Tryz.results53,go_sem,Val.v,Val.str,Qj,QM]) rfl ⟨rfl,?_⟩
   (repeat (first|exact Below.refl _ _|refine Below.alloc ?_ (by simp<;>omega) _|refine Below.setCell ?_ (by simp<;>omega) _|refine Below.trans ?_ (Below.mono (by assumption) (by first|omega | (simp;omega)))))
  ·have hv:zA8 x=.null:=by simp[zA8,k1,k2]
   rw[hv]
   clear hv
   go_enter Tryz.func53,Tryz.ntmps53
   go_wp2
   refine bodyPost_ret (v:=Val.null.v) (by simp[results,Tryz.results53,go_sem,Val.v,Val.null]) rfl ⟨rfl,?_⟩
   (repeat (first|exact Below.refl _ _|refine Below.alloc ?_ (by simp<;>omega) _|refine Below.setCell ?_ (by simp<;>omega) _))
theorem zD2(x:Val)(w:World) :
  Calls Tryz.prog 31 #[x.v] w fun e w'=>e=.returned (zA8 x).v/\Below w.heap.size w w':=by
 rw[x.open_]
 rcases Bool.eq_false_or_eq_true (x.k == 1) with k1|k1
 ·have hv:zA8 x=.num x.n:=by simp[zA8,k1]
  rw[hv]
  clear hv
  go_enter Tryz.func31,Tryz.ntmps31
  go_wp2_with (go_at_call 37;refine(zDn _ _).mono ?_;rintro e w1 ⟨rfl,Hb⟩;obtain⟨Qj,QM⟩:=zCR Hb;rw[Val.open_])
  refine bodyPost_ret (v:=(Val.num x.n).v) (by simp[results,Tryz.results31,go_sem,Val.v,Val.num,Qj,QM]) rfl ⟨rfl,?_⟩
  (repeat (first|exact Below.refl _ _|refine Below.alloc ?_ (by simp<;>omega) _|refine Below.setCell ?_ (by simp<;>omega) _|refine Below.trans ?_ (Below.mono (by assumption) (by first|omega | (simp;omega)))))
 ·rcases Bool.eq_false_or_eq_true (x.k == 2) with k2|k2
  ·have hv:zA8 x=.str x.s:=by simp[zA8,k1,k2]
   rw[hv]
   clear hv
   go_enter Tryz.func31,Tryz.ntmps31
   go_wp2_with (go_at_call 61;refine(zII _ _).mono ?_;rintro e w1 ⟨rfl,Hb⟩;obtain⟨Qj,QM⟩:=zCR Hb;rw[Val.open_])
   refine bodyPost_ret (v:=(Val.str x.s).v) (by simp[results,Tryz.results31,go_sem,Val.v,Val.str,Qj,QM]) rfl ⟨rfl,?_⟩
   (repeat (first|exact Below.refl _ _|refine Below.alloc ?_ (by simp<;>omega) _|refine Below.setCell ?_ (by simp<;>omega) _|refine Below.trans ?_ (Below.mono (by assumption) (by first|omega | (simp;omega)))))
  ·have hv:zA8 x=.null:=by simp[zA8,k1,k2]
   rw[hv]
   clear hv
   go_enter Tryz.func31,Tryz.ntmps31
   go_wp2_with (go_at_call 62;refine(zGO _).mono ?_;rintro e w1 ⟨rfl,Hb⟩;obtain⟨Qj,QM⟩:=zCR Hb;rw[Val.open_])
   refine bodyPost_ret (v:=Val.null.v) (by simp[results,Tryz.results31,go_sem,Val.v,Val.null,Qj,QM]) rfl ⟨rfl,?_⟩
   (repeat (first|exact Below.refl _ _|refine Below.alloc ?_ (by simp<;>omega) _|refine Below.setCell ?_ (by simp<;>omega) _|refine Below.trans ?_ (Below.mono (by assumption) (by first|omega | (simp;omega)))))
theorem zHm(k:Int)(w:World) :
  Calls Tryz.prog 52 #[.int .i64 k] w fun e w'=>e=.returned (.bool (zFM k))/\w'=w:=by
 unfold zFM
 by_cases hk:(k == 1)=true
 ·go_enter Tryz.func52,Tryz.ntmps52
  go_wp2
  go_ret
  exact⟨by simp[hk],rfl⟩
 ·have FF:(k == 1)=false:=by simpa using hk
  clear hk
  go_enter Tryz.func52,Tryz.ntmps52
  go_wp2
  go_ret
  exact⟨by simp[FF],rfl⟩
theorem zDw(s:ByteArray)(w:World) :
  Calls Tryz.prog 54 #[.string s] w fun e w'=>e=.returned (.bool (zAv s))/\w'=w:=by
 unfold zAv
 go_enter Tryz.func54,Tryz.ntmps54
 go_wp2
 go_ret
 exact⟨rfl,rfl⟩
def zAR(w:World)(a:Option Addr)(xs:List Val):Prop:=
 xs=[]∨∃b off,a=some ⟨b,off,none⟩/\∀i x,xs[i]?=some x->w.cell? ⟨b,off+i*3,none⟩=some (.int .i64 x.k)/\w.cell? ⟨b,off+i*3+1,none⟩=some (.int .i64 x.n)/\w.cell? ⟨b,off+i*3+2,none⟩=some (.string x.s)
theorem zAR.later{w w':World}{a:Option Addr}{xs:List Val}(h:zAR w a xs)(hb:Below w.heap.size w w'):zAR w' a xs:=by
 rcases h with h|⟨b,off,ha,h⟩
 ·exact .inl h
 ·exact .inr ⟨b,off,ha,fun i x hx=>⟨cell_later hb (h i x hx).1,cell_later hb (h i x hx).2.1,cell_later hb (h i x hx).2.2⟩⟩
def zAp(w:World)(a:Option Addr)(cs:List Value):Prop:=
 cs=[]∨∃b off,a=some ⟨b,off,none⟩/\∀i x,cs[i]?=some x->w.cell? ⟨b,off+i,none⟩=some x
theorem zAp.later{w w':World}{a:Option Addr}{cs:List Value}(h:zAp w a cs)(hb:Below w.heap.size w w'):zAp w' a cs:=by
 rcases h with h|⟨b,off,ha,h⟩
 ·exact .inl h
 ·exact .inr ⟨b,off,ha,fun i x hx=>cell_later hb (h i x hx)⟩
structure Vc where
 k:Int
 nl:List Bool
 ns:List Int
 ss:List ByteArray
def Vc.zero:Vc:=⟨0,[],[],[]⟩
structure Sl where
 a1:Option Addr
 c1:Nat
 a2:Option Addr
 c2:Nat
 a3:Option Addr
 c3:Nat
def zCC(X:Vc)(p:Sl):Value:=.agg #[.int .i64 X.k,.slice p.a1 X.nl.length p.c1,.slice p.a2 X.ns.length p.c2,.slice p.a3 X.ss.length p.c3]
theorem zAM(X:Vc)(p:Sl):zCC X p=.agg #[.int .i64 X.k,.slice p.a1 X.nl.length p.c1,.slice p.a2 X.ns.length p.c2,.slice p.a3 X.ss.length p.c3]:=rfl
def zAi(w:World)(X:Vc)(p:Sl):Prop:=zAp w p.a1 (X.nl.map .bool)/\zAp w p.a2 (X.ns.map (.int .i64))/\zAp w p.a3 (X.ss.map .string)
theorem zAi.later{w w':World}{X:Vc}{p:Sl}(h:zAi w X p)(hb:Below w.heap.size w w'):zAi w' X p:=⟨h.1.later hb,h.2.1.later hb,h.2.2.later hb⟩
theorem zAi.zero(w:World):zAi w Vc.zero ⟨none,0,none,0,none,0⟩:=⟨.inl rfl,.inl rfl,.inl rfl⟩
def zBb(base:Nat)(p:Sl):Prop:=(∀ad,p.a1=some ad->base<=ad.block)/\(∀ad,p.a2=some ad->base<=ad.block)/\(∀ad,p.a3=some ad->base<=ad.block)
theorem zBb.less{b c:Nat}{p:Sl}(h:zBb c p)(hb:b<=c):zBb b p:=⟨fun ad e=>Nat.le_trans hb (h.1 ad e),fun ad e=>Nat.le_trans hb (h.2.1 ad e),fun ad e=>Nat.le_trans hb (h.2.2 ad e)⟩
theorem zAp.setO{w:World}{a:Option Addr}{base:Nat}{cs:List Value}(h:zAp w a cs)(hf:∀ad,a=some ad->base<=ad.block)(x:Addr)(hx:x.block<base)(v:Value):zAp (w.setCell x v) a cs:=by
 rcases h with h|⟨b,off,e,h⟩
 ·exact .inl h
 ·subst e
  have:=hf _ rfl
  exact .inr ⟨b,off,rfl,fun i y hy=>(World.cell?_of_block (w:=w) (Go.Deep.blk_setCell_other _ _ _ _ (by simp at this ⊢;omega))).trans (h i y hy)⟩
theorem zAi.setO{w:World}{X:Vc}{p:Sl}{base:Nat}(h:zAi w X p)(hf:zBb base p)(x:Addr)(hx:x.block<base)(v:Value):zAi (w.setCell x v) X p:=
 ⟨h.1.setO hf.1 x hx v,h.2.1.setO hf.2.1 x hx v,h.2.2.setO hf.2.2 x hx v⟩
theorem zAi.setO4{w:World}{X:Vc}{p:Sl}{base B:Nat}(h:zAi w X p)(hf:zBb base p)(hx:B<base)(v0 v1 v2 v3:Value):zAi ((((w.setCell ⟨B,0,none⟩ v0).setCell ⟨B,1,none⟩ v1).setCell ⟨B,2,none⟩ v2).setCell ⟨B,3,none⟩ v3) X p:=
 (((h.setO hf _ hx _).setO hf _ hx _).setO hf _ hx _).setO hf _ hx _
def zEt(xs:List Val):List Bool:=xs.map (fun x=>x.k == 0)
def zBd(kind:Int)(xs:List Val):Vc:=⟨kind,zEt xs,if kind=1 then xs.map (·.n) else [],if kind=1 then [] else xs.map (·.s)⟩
theorem Tryz.info4:(Tryz.prog.info? 4).map (fun i=>(i.zero,i.size,i.bytes))=some (some (.bool false),1,1):=by kernel_rfl
theorem Tryz.info2:(Tryz.prog.info? 2).map (fun i=>(i.zero,i.size,i.bytes))=some (some (.int .i64 0),1,8):=by kernel_rfl
theorem Tryz.info9:(Tryz.prog.info? 9).map (fun i=>(i.zero,i.size,i.bytes))=some (some (.string ⟨#[]⟩),1,16):=by kernel_rfl
theorem Tryz.info59:(Tryz.prog.info? 59).map (fun i=>(i.zero,i.size,i.bytes))=some (some (.agg #[.int .i64 0,.int .i64 0,.string ⟨#[]⟩]),3,32):=by kernel_rfl
def zHN(F:Nat->Value)(k:Nat)(cs:List Value):Prop:=∀i x,i<k->cs[i]?=some x->F i=x
theorem zHN.zero(F:Nat->Value)(cs:List Value):zHN F 0 cs:=fun i x h=>by omega
theorem zHN.step{F:Nat->Value}{k:Nat}{cs:List Value}{v:Value}(h:zHN F k cs)(hv:cs[k]?=some v):zHN (fun j=>if j=k then v else F j) (k+1) cs:=by
 intro i x hi hx
 by_cases e:i=k
 ·subst e;rw[hv] at hx;simpa using hx
 ·show (if i=k then v else F i)=x
  rw[if_neg e];exact h i x (by omega) hx
theorem zD4{w:World}{g t n:Nat}{F:Nat->Value}{cs:List Value}(h:w.rowIs g t n F)(hl:cs.length=n)(hh:zHN F n cs):zAp w (some ⟨g,0,none⟩) cs:=by
 refine .inr ⟨g,0,rfl,fun i x hx=>?_⟩
 have hi:i<n:=by have:=(zAL hx).1;omega
 rw[Nat.zero_add,h.cell hi,hh i x hi hx]
def zGA(a b c d:Value):Nat->Value
 | 0=>a
 | 1=>b
 | 2=>c
 | _=>d
def noS:Value:=.slice none 0 0
def zSN(w0 w:World)(n k:Nat)(kind:Int)(s1 s2 s3:Value)(t:Nat)(c1 c2:List Value):Prop:=
 Below w0.heap.size w0 w/\w.rowIs w0.heap.size 49 4 (zGA (.int .i64 0) noS noS noS)/\(∃F,w.rowIs (w0.heap.size+1) 4 n F/\zHN F k c1)/\w.rowIs (w0.heap.size+1+1) 49 4 (zGA (.int .i64 kind) s1 s2 s3)/\(∃G,w.rowIs (w0.heap.size+1+1+1) t n G/\zHN G k c2)
theorem zDQ(a b c d:Value):∀i,i < #[a,b,c,d].size->#[a,b,c,d][i]?=some (zGA a b c d i):=by
 intro i hi
 match i,hi with
 | 0,_=>rfl
 | 1,_=>rfl
 | 2,_=>rfl
 | 3,_=>rfl
theorem zSN.start(w:World)(n:Nat)(kind:Int)(s1 s2 s3 z:Value)(t:Nat)(c1 c2:List Value) :
  zSN w ((((w.alloc (.cells #[.int .i64 0,.slice none 0 0,.slice none 0 0,.slice none 0 0] 49)).alloc (.cells (madeCells #[.bool false] n) 4)).alloc (.cells #[.int .i64 kind,s1,s2,s3] 49)).alloc (.cells (madeCells #[z] n) t)) n 0 kind s1 s2 s3 t c1 c2:=by
 refine⟨by repeat (first|exact Below.refl _ _|refine Below.alloc ?_ (by simp<;>omega) _),?_,⟨fun _=>.bool false,?_,zHN.zero _ _⟩,?_,⟨fun _=>z,?_,zHN.zero _ _⟩⟩
 ·exact((((World.rowIs_alloc w _ 49 _ (zDQ _ _ _ _))).alloc _).alloc _).alloc _
 ·have h:=((World.rowIs_made (w.alloc (.cells #[.int .i64 0,.slice none 0 0,.slice none 0 0,.slice none 0 0] 49)) (.bool false) n 4).alloc (.cells #[.int .i64 kind,s1,s2,s3] 49)).alloc (.cells (madeCells #[z] n) t)
  simpa using h
 ·have h:=(World.rowIs_alloc ((w.alloc (.cells #[.int .i64 0,.slice none 0 0,.slice none 0 0,.slice none 0 0] 49)).alloc (.cells (madeCells #[.bool false] n) 4)) _ 49 _ (zDQ (.int .i64 kind) s1 s2 s3)).alloc (.cells (madeCells #[z] n) t)
  simpa using h
 ·have h:=World.rowIs_made (((w.alloc (.cells #[.int .i64 0,.slice none 0 0,.slice none 0 0,.slice none 0 0] 49)).alloc (.cells (madeCells #[.bool false] n) 4)).alloc (.cells #[.int .i64 kind,s1,s2,s3] 49)) z n t
  simpa using h
theorem zSN.step{w0 w:World}{n k:Nat}{kind:Int}{s1 s2 s3:Value}{t:Nat}{c1 c2:List Value}{v1 v2:Value}(h:zSN w0 w n k kind s1 s2 s3 t c1 c2)(h1:c1[k]?=some v1)(h2:c2[k]?=some v2)(o:Obj) :
  zSN w0 (((w.setCell ⟨w0.heap.size+1,k,none⟩ v1).setCell ⟨w0.heap.size+1+1+1,k,none⟩ v2).alloc o) n (k+1) kind s1 s2 s3 t c1 c2:=by
 obtain⟨hb,hr,⟨F,hF,QP⟩,hx,⟨G,hG,Gd⟩⟩:=h
 have hz:=hG.lt
 refine⟨((hb.setCell (by simp<;>omega) _).setCell (by simp<;>omega) _).alloc (by simp;omega) _,?_,⟨_,?_,QP.step h1⟩,?_,⟨_,?_,Gd.step h2⟩⟩
 ·exact((hr.setOther (by simp) _).setOther (by simp;omega) _).alloc _
 ·exact((hF.set k v1).setOther (by simp) _).alloc _
 ·exact((hx.setOther (by simp) _).setOther (by simp) _).alloc _
 ·exact((hG.setOther (by simp<;>omega) _).set k v2).alloc _
theorem zAp.set{w:World}{g o:Nat}{cs:List Value}(h:zAp w (some ⟨g,o,none⟩) cs)(a:Addr)(ha:g≠a.block)(v:Value):zAp (w.setCell a v) (some ⟨g,o,none⟩) cs:=by
 rcases h with h|⟨b,off,e,h⟩
 ·exact .inl h
 ·cases e
  exact .inr ⟨g,o,rfl,fun i x hx=>(World.cell?_of_block (w:=w) (Go.Deep.blk_setCell_other _ _ _ _ ha)).trans (h i x hx)⟩
theorem zAp.set4{w:World}{g o B:Nat}{cs:List Value}(h:zAp w (some ⟨g,o,none⟩) cs)(hB:g≠B)(v0 v1 v2 v3:Value):zAp ((((w.setCell ⟨B,0,none⟩ v0).setCell ⟨B,1,none⟩ v1).setCell ⟨B,2,none⟩ v2).setCell ⟨B,3,none⟩ v3) (some ⟨g,o,none⟩) cs:=
 (((h.set _ hB _).set _ hB _).set _ hB _).set _ hB _
theorem zBm{w0 w:World}(h:Below w0.heap.size w0 w){B:Nat}(hB:w0.heap.size<=B)(v0 v1 v2 v3:Value):Below w0.heap.size w0 ((((w.setCell ⟨B,0,none⟩ v0).setCell ⟨B,1,none⟩ v1).setCell ⟨B,2,none⟩ v2).setCell ⟨B,3,none⟩ v3):=
 (((h.setCell hB _).setCell hB _).setCell hB _).setCell hB _
theorem zPQ{xs:List Val}{k:Nat}{x:Val}(h:xs[k]?=some x):((zEt xs).map Value.bool)[k]?=some (.bool (x.k == 0)):=by simp[zEt,h]
theorem zRi(a:Option Addr)(c:Nat)(xs:List Val)(w:World)(hl:xs.length*32<=140737488355328)(ha:zAR w a xs) :
  Calls Tryz.prog 55 #[.int .i64 1,.slice a xs.length c] w fun e w'=>∃p,e=.returned (zCC (zBd 1 xs) p)/\zAi w' (zBd 1 xs) p/\zBb w.heap.size p/\Below w.heap.size w w':=by
 obtain⟨i4,Qd,z40,z41,z42⟩:=info_parts Tryz.info4
 obtain⟨i2,ZY,z20,z21,z22⟩:=info_parts Tryz.info2
 generalize hX:zBd 1 xs=X
 have HX:=zA3 hX
 clear hX
 have HA:=zA3 ha
 clear ha
 go_enter Tryz.func55,Tryz.ntmps55
 go_wp2_with (first
  | (at_make;refine wpList_make_row _ rfl (.tmp 10) (.tmp 10) 45 rfl 4 i4 (.bool false) Tryz.underlying45 Qd z40 z41 rfl .i64 .i64 xs.length rfl rfl (by rw[z42];omega) (by omega) ?_)
  | (at_make;refine wpList_make_row _ rfl (.tmp 16) (.tmp 16) 46 rfl 2 i2 (.int .i64 0) Tryz.underlying46 ZY z20 z21 rfl .i64 .i64 xs.length rfl rfl (by rw[z22];omega) (by omega) ?_)
  | fail)
 go_loopw[25] (fun i wr=>∃k:Nat,k<=xs.length/\i=.int .i64 k/\zSN w wr xs.length k 1 (.slice (some ⟨w.heap.size+1,0,none⟩) xs.length xs.length) (.slice (some ⟨w.heap.size+1+1+1,0,none⟩) xs.length xs.length) noS 2 ((zEt xs).map Value.bool) ((xs.map (·.n)).map (Value.int .i64))) (fun i _=>xs.length-(intOf i).toNat)
 case atStart=>exact⟨0,Nat.zero_le _,rfl,zSN.start _ _ _ _ _ _ _ _ _ _⟩
 case round=>
  obtain⟨k,hk,rfl,hI⟩:=hrel
  have HI:=zA3 hI
  obtain⟨hb,hr,⟨F,hF,QP⟩,hx,⟨G,hG,Gd⟩⟩:=hI
  have ZR:=(zA0 HA).later hb
  have hz:=hG.lt
  by_cases h1:k<xs.length
  ·obtain⟨x,YF⟩:∃x,xs[k]?=some x:=⟨_,zAf h1⟩
   rcases ZR with e|⟨ba,oa,rfl,Qq⟩
   ·subst e;simp at h1
   obtain⟨c0,c1,c2⟩:=Qq k x YF
   have HS:=zA3 (zPQ YF)
   have HT:Hid (((xs.map (·.n)).map (Value.int .i64))[k]?=some (.int .i64 x.n)):=by show _=_;simp[YF]
   have i1:(k:Int)<(xs.length:Int):=by omega
   have b0:wr.cell? ⟨w.heap.size+1+1,0,none⟩=some (.int .i64 1):=hx.cell (by omega)
   have b1:wr.cell? ⟨w.heap.size+1+1,1,none⟩=some (.slice (some ⟨w.heap.size+1,0,none⟩) xs.length xs.length):=hx.cell (by omega)
   have b2:wr.cell? ⟨w.heap.size+1+1,2,none⟩=some (.slice (some ⟨w.heap.size+1+1+1,0,none⟩) xs.length xs.length):=hx.cell (by omega)
   have f1:wr.frozen? ⟨w.heap.size+1,k,none⟩=false:=hF.frozen k
   have f2:wr.frozen? ⟨w.heap.size+1+1+1,k,none⟩=false:=hG.frozen k
   have n1:w.heap.size+1<wr.heap.size:=by omega
   have n2:w.heap.size+1+1<wr.heap.size:=by omega
   have g1:=hF.cell h1
   have g2:=hG.cell h1
   clear Qq YF hF QP hG Gd hr hx hb
   go_wp2
   go_roundw
   case rel=>exact⟨k+1,by omega,by go_num,(zA0 HI).step (zA0 HS) (zA0 HT) _⟩
   case measure=>simp[intOf];omega
  ·have e:k=xs.length:=by omega
   have i1:¬(k:Int)<(xs.length:Int):=by omega
   have b0:wr.cell? ⟨w.heap.size+1+1,0,none⟩=some (.int .i64 1):=hx.cell (by omega)
   have b1:wr.cell? ⟨w.heap.size+1+1,1,none⟩=some (.slice (some ⟨w.heap.size+1,0,none⟩) xs.length xs.length):=hx.cell (by omega)
   have b2:wr.cell? ⟨w.heap.size+1+1,2,none⟩=some (.slice (some ⟨w.heap.size+1+1+1,0,none⟩) xs.length xs.length):=hx.cell (by omega)
   have b3:wr.cell? ⟨w.heap.size+1+1,3,none⟩=some (.slice none 0 0):=hx.cell (by omega)
   have r0:wr.cell? ⟨w.heap.size,0,none⟩=some (.int .i64 0):=hr.cell (by omega)
   have r1:wr.cell? ⟨w.heap.size,1,none⟩=some (.slice none 0 0):=hr.cell (by omega)
   have r2:wr.cell? ⟨w.heap.size,2,none⟩=some (.slice none 0 0):=hr.cell (by omega)
   have r3:wr.cell? ⟨w.heap.size,3,none⟩=some (.slice none 0 0):=hr.cell (by omega)
   have f0:wr.frozen? ⟨w.heap.size,0,none⟩=false:=hr.frozen _
   have f1:wr.frozen? ⟨w.heap.size,1,none⟩=false:=hr.frozen _
   have f2:wr.frozen? ⟨w.heap.size,2,none⟩=false:=hr.frozen _
   have f3:wr.frozen? ⟨w.heap.size,3,none⟩=false:=hr.frozen _
   have HE:Hid (zAp wr (some ⟨w.heap.size+1,0,none⟩) ((zEt xs).map Value.bool)/\zAp wr (some ⟨w.heap.size+1+1+1,0,none⟩) ((xs.map (·.n)).map (Value.int .i64))):=by
    rw[e] at QP Gd
    exact⟨zD4 hF (by simp[zEt]) QP,zD4 hG (by simp) Gd⟩
   have HB:=zA3 hb
   clear hF QP hG Gd hr hx hb ZR e
   go_wp2
   refine bodyPost_ret (v:=.agg #[.int .i64 1,.slice (some ⟨w.heap.size+1,0,none⟩) xs.length xs.length,.slice (some ⟨w.heap.size+1+1+1,0,none⟩) xs.length xs.length,.slice none 0 0]) (by simp[results,Tryz.results55,go_sem, *]) rfl ?_
   have hX:=zA0 HX
   subst hX
   refine⟨⟨some ⟨w.heap.size+1,0,none⟩,xs.length,some ⟨w.heap.size+1+1+1,0,none⟩,xs.length,none,0⟩,?_,⟨?_,?_,?_⟩,⟨by simp;try omega,by simp;try omega,by simp;try omega⟩,zBm (zA0 HB) (Nat.le_refl _) _ _ _ _⟩
   ·rw[zAM];simp[zBd,zEt]
   ·exact(zA0 HE).1.set4 (by omega) _ _ _ _
   ·exact(zA0 HE).2.set4 (by omega) _ _ _ _
   ·exact .inl rfl
theorem zPl(a:Option Addr)(c:Nat)(kind:Int)(h0:(kind == 1)=false)(xs:List Val)(w:World)(hl:xs.length*32<=140737488355328)(ha:zAR w a xs) :
  Calls Tryz.prog 55 #[.int .i64 kind,.slice a xs.length c] w fun e w'=>∃p,e=.returned (zCC (zBd kind xs) p)/\zAi w' (zBd kind xs) p/\zBb w.heap.size p/\Below w.heap.size w w':=by
 obtain⟨i4,Qd,z40,z41,z42⟩:=info_parts Tryz.info4
 obtain⟨i2,ZY,z20,z21,z22⟩:=info_parts Tryz.info9
 generalize hX:zBd kind xs=X
 have HX:=zA3 hX
 clear hX
 have HA:=zA3 ha
 clear ha
 go_enter Tryz.func55,Tryz.ntmps55
 go_wp2_with (first
  | (at_make;refine wpList_make_row _ rfl (.tmp 10) (.tmp 10) 45 rfl 4 i4 (.bool false) Tryz.underlying45 Qd z40 z41 rfl .i64 .i64 xs.length rfl rfl (by rw[z42];omega) (by omega) ?_)
  | (at_make;refine wpList_make_row _ rfl (.tmp 20) (.tmp 20) 47 rfl 9 i2 (.string ⟨#[]⟩) Tryz.underlying47 ZY z20 z21 rfl .i64 .i64 xs.length rfl rfl (by rw[z22];omega) (by omega) ?_)
  | fail)
 go_loopw[25] (fun i wr=>∃k:Nat,k<=xs.length/\i=.int .i64 k/\zSN w wr xs.length k kind (.slice (some ⟨w.heap.size+1,0,none⟩) xs.length xs.length) noS (.slice (some ⟨w.heap.size+1+1+1,0,none⟩) xs.length xs.length) 9 ((zEt xs).map Value.bool) ((xs.map (·.s)).map Value.string)) (fun i _=>xs.length-(intOf i).toNat)
 case atStart=>exact⟨0,Nat.zero_le _,rfl,zSN.start _ _ _ _ _ _ _ _ _ _⟩
 case round=>
  obtain⟨k,hk,rfl,hI⟩:=hrel
  have HI:=zA3 hI
  obtain⟨hb,hr,⟨F,hF,QP⟩,hx,⟨G,hG,Gd⟩⟩:=hI
  have ZR:=(zA0 HA).later hb
  have hz:=hG.lt
  by_cases h1:k<xs.length
  ·obtain⟨x,YF⟩:∃x,xs[k]?=some x:=⟨_,zAf h1⟩
   rcases ZR with e|⟨ba,oa,rfl,Qq⟩
   ·subst e;simp at h1
   obtain⟨c0,c1,c2⟩:=Qq k x YF
   have HS:=zA3 (zPQ YF)
   have HT:Hid (((xs.map (·.s)).map Value.string)[k]?=some (.string x.s)):=by show _=_;simp[YF]
   have i1:(k:Int)<(xs.length:Int):=by omega
   have b0:wr.cell? ⟨w.heap.size+1+1,0,none⟩=some (.int .i64 kind):=hx.cell (by omega)
   have b1:wr.cell? ⟨w.heap.size+1+1,1,none⟩=some (.slice (some ⟨w.heap.size+1,0,none⟩) xs.length xs.length):=hx.cell (by omega)
   have b2:wr.cell? ⟨w.heap.size+1+1,3,none⟩=some (.slice (some ⟨w.heap.size+1+1+1,0,none⟩) xs.length xs.length):=hx.cell (by omega)
   have f1:wr.frozen? ⟨w.heap.size+1,k,none⟩=false:=hF.frozen k
   have f2:wr.frozen? ⟨w.heap.size+1+1+1,k,none⟩=false:=hG.frozen k
   have n1:w.heap.size+1<wr.heap.size:=by omega
   have n2:w.heap.size+1+1<wr.heap.size:=by omega
   have g1:=hF.cell h1
   have g2:=hG.cell h1
   clear Qq YF hF QP hG Gd hr hx hb
   go_wp2
   go_roundw
   case rel=>exact⟨k+1,by omega,by go_num,(zA0 HI).step (zA0 HS) (zA0 HT) _⟩
   case measure=>simp[intOf];omega
  ·have e:k=xs.length:=by omega
   have i1:¬(k:Int)<(xs.length:Int):=by omega
   have b0:wr.cell? ⟨w.heap.size+1+1,0,none⟩=some (.int .i64 kind):=hx.cell (by omega)
   have b1:wr.cell? ⟨w.heap.size+1+1,1,none⟩=some (.slice (some ⟨w.heap.size+1,0,none⟩) xs.length xs.length):=hx.cell (by omega)
   have b2:wr.cell? ⟨w.heap.size+1+1,3,none⟩=some (.slice (some ⟨w.heap.size+1+1+1,0,none⟩) xs.length xs.length):=hx.cell (by omega)
   have b3:wr.cell? ⟨w.heap.size+1+1,2,none⟩=some (.slice none 0 0):=hx.cell (by omega)
   have r0:wr.cell? ⟨w.heap.size,0,none⟩=some (.int .i64 0):=hr.cell (by omega)
   have r1:wr.cell? ⟨w.heap.size,1,none⟩=some (.slice none 0 0):=hr.cell (by omega)
   have r2:wr.cell? ⟨w.heap.size,2,none⟩=some (.slice none 0 0):=hr.cell (by omega)
   have r3:wr.cell? ⟨w.heap.size,3,none⟩=some (.slice none 0 0):=hr.cell (by omega)
   have f0:wr.frozen? ⟨w.heap.size,0,none⟩=false:=hr.frozen _
   have f1:wr.frozen? ⟨w.heap.size,1,none⟩=false:=hr.frozen _
   have f2:wr.frozen? ⟨w.heap.size,2,none⟩=false:=hr.frozen _
   have f3:wr.frozen? ⟨w.heap.size,3,none⟩=false:=hr.frozen _
   have HE:Hid (zAp wr (some ⟨w.heap.size+1,0,none⟩) ((zEt xs).map Value.bool)/\zAp wr (some ⟨w.heap.size+1+1+1,0,none⟩) ((xs.map (·.s)).map Value.string)):=by
    rw[e] at QP Gd
    exact⟨zD4 hF (by simp[zEt]) QP,zD4 hG (by simp) Gd⟩
   have HB:=zA3 hb
   clear hF QP hG Gd hr hx hb ZR e
   go_wp2
   refine bodyPost_ret (v:=.agg #[.int .i64 kind,.slice (some ⟨w.heap.size+1,0,none⟩) xs.length xs.length,.slice none 0 0,.slice (some ⟨w.heap.size+1+1+1,0,none⟩) xs.length xs.length]) (by simp[results,Tryz.results55,go_sem, *]) rfl ?_
   have qL:¬kind=1:=by simpa using h0
   have hX:=zA0 HX
   subst hX
   refine⟨⟨some ⟨w.heap.size+1,0,none⟩,xs.length,none,0,some ⟨w.heap.size+1+1+1,0,none⟩,xs.length⟩,?_,⟨?_,?_,?_⟩,⟨by simp;try omega,by simp;try omega,by simp;try omega⟩,zBm (zA0 HB) (Nat.le_refl _) _ _ _ _⟩
   ·rw[zAM];simp[zBd,zEt,qL]
   ·exact(zA0 HE).1.set4 (by omega) _ _ _ _
   ·left;simp[zBd,qL]
   ·have e:(zBd kind xs).ss=xs.map (·.s):=by simp[zBd,qL]
    rw[e]
    exact(zA0 HE).2.set4 (by omega) _ _ _ _
theorem zRj(a:Option Addr)(c:Nat)(kind:Int)(xs:List Val)(w:World)(hl:xs.length*32<=140737488355328)(ha:zAR w a xs) :
  Calls Tryz.prog 55 #[.int .i64 kind,.slice a xs.length c] w fun e w'=>∃p,e=.returned (zCC (zBd kind xs) p)/\zAi w' (zBd kind xs) p/\zBb w.heap.size p/\Below w.heap.size w w':=by
 by_cases h:(kind == 1)=true
 ·obtain rfl:=beq_iff_eq.1 h
  exact zRi a c xs w hl ha
 ·exact zPl a c kind (by simpa using h) xs w hl ha
set_option maxHeartbeats 4000000
theorem zB5{P:Program}(w:World){ops:Array Oper}{rest:List Oper}{o:Oper}{a:Act}{Q:Exit->Act->World->Prop}
  (hg:o.guard=none) (l c:Operand) (t:TypeId) (hop:o.op=Op.makeSlice t l c)
  (e:TypeId) (i:TypeInfo) (z:Value) (ht:P.underlying t=some (.slice e)) (hi:P.info? e=some i) (hz:i.zero=some z) (size:Nat) (Yv:i.size=size)
  (kl kc:IntKind) (n:Nat) (hl:a.eval l=.int kl (n:Int)) (hc:a.eval c=.int kc (n:Int)) (hbytes:i.bytes*n<=281474976710656) (h63:n<=9223372036854775807)
  (hK:wpList P ops Q rest (a.put o.dst (.slice (some ⟨w.heap.size,0,none⟩) n n)) (w.alloc (.cells (madeCells z.cells (n*size)) e))) :
  wpList P ops Q (o::rest) a w:=by
 refine wpList_plain hg fun K hK'=>?_
 have Yl:(i.bytes:Int)*(n:Int)<=281474976710656:=by
  have h:((i.bytes*n:Nat):Int)<=281474976710656:=by omega
  rwa [Int.natCast_mul] at h
 have QL:=run_make (P:=P) w t e i z ht hi hz kl kc n n (by omega) (Int.le_refl _) Yl (by omega)
 simp only[Int.toNat_natCast,Yv] at QL
 unfold Oper.wp
 simp[execOp,hop,hl,hc,QL,Result.andThen]
 exact hK' _ _ hK
theorem zFF(w:World)(c:Array Value)(t:TypeId):∃F,(w.alloc (.cells c t)).rowIs w.heap.size t c.size F:=
 ⟨fun i=>(c[i]?).getD noS,World.rowIs_alloc w c t _ (fun i hi=>by simp[hi])⟩
def zCu(F:Nat->Value)(k:Nat)(ys:List Val):Prop:=∀i x,i<k->ys[i]?=some x->F (i*3)=.int .i64 x.k/\F (i*3+1)=.int .i64 x.n/\F (i*3+2)=.string x.s
theorem zCu.zero(F:Nat->Value)(ys:List Val):zCu F 0 ys:=fun i x h=>by omega
theorem zCu.step{F:Nat->Value}{k:Nat}{ys:List Val}{y:Val}(h:zCu F k ys)(hv:ys[k]?=some y) :
  zCu (fun j=>if j=k*3+2 then .string y.s else if j=k*3+1 then .int .i64 y.n else if j=k*3 then .int .i64 y.k else F j) (k+1) ys:=by
 intro i x hi hx
 by_cases e:i=k
 ·subst e;rw[hv] at hx;cases hx
  refine⟨?_,?_,?_⟩<;>simp
 ·obtain⟨h0,h1,h2⟩:=h i x (by omega) hx
  refine⟨?_,?_,?_⟩
  ·show (if i*3=k*3+2 then _ else if i*3=k*3+1 then _ else if i*3=k*3 then _ else _)=_
   rw[if_neg (by omega),if_neg (by omega),if_neg (by omega),h0]
  ·show (if i*3+1=k*3+2 then _ else if i*3+1=k*3+1 then _ else if i*3+1=k*3 then _ else _)=_
   rw[if_neg (by omega),if_neg (by omega),if_neg (by omega),h1]
  ·show (if i*3+2=k*3+2 then _ else if i*3+2=k*3+1 then _ else if i*3+2=k*3 then _ else _)=_
   rw[if_neg (by omega),if_neg (by omega),if_neg (by omega),h2]
theorem zEZ{w:World}{g t n:Nat}{F:Nat->Value}{ys:List Val}(h:w.rowIs g t (n*3) F)(hl:ys.length=n)(hh:zCu F n ys):zAR w (some ⟨g,0,none⟩) ys:=by
 refine .inr ⟨g,0,rfl,fun i x hx=>?_⟩
 have hi:i<n:=by have:=(zAL hx).1;omega
 obtain⟨h0,h1,h2⟩:=hh i x hi hx
 simp only[Nat.zero_add]
 refine⟨?_,?_,?_⟩
 ·rw[h.cell (by omega),h0]
 ·rw[h.cell (by omega),h1]
 ·rw[h.cell (by omega),h2]
def zFu(kind:Int)(y:Val):Bool:=y.k != 0 && y.k != kind
def zBU(kind:Int)(xs:List Val):Vc×Int:=
 if zFM kind=false then (.zero,1) else if (xs.map zA8).any (zFu kind) then (.zero,4) else if (xs.map zA8).any (fun y=>zAv y.s) then (.zero,3) else (zBd kind (xs.map zA8),0)
def zQV(w0 w:World)(n k:Nat)(ys:List Val):Prop:=
 Below w0.heap.size w0 w/\w.rowIs w0.heap.size 49 4 (zGA (.int .i64 0) noS noS noS)/\(∃F,w.rowIs (w0.heap.size+1) 59 (n*3) F/\zCu F k ys)
theorem zQV.start(w:World)(n:Nat)(ys:List Val)(z:Array Value) :
  zQV w ((w.alloc (.cells #[.int .i64 0,.slice none 0 0,.slice none 0 0,.slice none 0 0] 49)).alloc (.cells (madeCells z (n*3)) 59)) n 0 ys:=by
 refine⟨by repeat (first|exact Below.refl _ _|refine Below.alloc ?_ (by simp<;>omega) _),(World.rowIs_alloc w _ 49 _ (zDQ _ _ _ _)).alloc _,?_⟩
 obtain⟨F,hF⟩:=zFF (w.alloc (.cells #[.int .i64 0,.slice none 0 0,.slice none 0 0,.slice none 0 0] 49)) (madeCells z (n*3)) 59
 rw[size_madeCells] at hF
 exact⟨F,by simpa using hF,zCu.zero _ _⟩
theorem zQV.step{w0 w:World}{n k:Nat}{ys:List Val}{y:Val}(h:zQV w0 w n k ys)(hy:ys[k]?=some y) :
  zQV w0 (((w.setCell ⟨w0.heap.size+1,k*3,none⟩ (.int .i64 y.k)).setCell ⟨w0.heap.size+1,k*3+1,none⟩ (.int .i64 y.n)).setCell ⟨w0.heap.size+1,k*3+2,none⟩ (.string y.s)) n (k+1) ys:=by
 obtain⟨hb,hr,⟨F,hF,QP⟩⟩:=h
 refine⟨((hb.setCell (by simp<;>omega) _).setCell (by simp<;>omega) _).setCell (by simp<;>omega) _,?_,⟨_,?_,QP.step hy⟩⟩
 ·exact((hr.setOther (by simp) _).setOther (by simp) _).setOther (by simp) _
 ·exact((hF.set _ _).set _ _).set _ _
theorem zQV.later{w0 w w':World}{n k:Nat}{ys:List Val}(h:zQV w0 w n k ys)(Yl:Below w.heap.size w w'):zQV w0 w' n k ys:=by
 obtain⟨hb,hr,⟨F,hF,QP⟩⟩:=h
 exact⟨zA2 hb Yl,hr.of_block (Yl.block _ hr.lt),F,hF.of_block (Yl.block _ hF.lt),QP⟩
theorem zIv{p:Val->Bool}{ys:List Val}{k:Nat}{y:Val}(h:ys[k]?=some y)(hp:p y=true):ys.any p=true:=
 List.any_eq_true.2 ⟨y,List.mem_of_getElem? h,hp⟩
theorem zGU{p:Val->Bool}{ys:List Val}(h:∀i y,i<ys.length->ys[i]?=some y->p y=false):ys.any p=false:=by
 rw[List.any_eq_false]
 intro y hy
 obtain⟨i,hi⟩:=List.mem_iff_getElem?.1 hy
 rw[h i y (zAL hi).1 hi];simp
theorem zEL{p:Val->Bool}{ys:List Val}{k:Nat}{y:Val}(h:∀i y,i<k->ys[i]?=some y->p y=false)(hy:ys[k]?=some y)(hp:p y=false):∀i y,i<k+1->ys[i]?=some y->p y=false:=by
 intro i z hi hz
 by_cases e:i=k
 ·subst e;rw[hy] at hz;cases hz;exact hp
 ·exact h i z (by omega) hz
theorem zQl{w:World}{g t n k:Nat}{F:Nat->Value}(h:w.rowIs g t n F)(hk:k*3+2<n) :
  w.cell? ⟨g,k*3,none⟩=some (F (k*3))/\w.cell? ⟨g,k*3+1,none⟩=some (F (k*3+1))/\w.cell? ⟨g,k*3+2,none⟩=some (F (k*3+2))/\w.frozen? ⟨g,k*3,none⟩=false/\w.frozen? ⟨g,k*3+1,none⟩=false/\w.frozen? ⟨g,k*3+2,none⟩=false:=
 ⟨h.cell (by omega),h.cell (by omega),h.cell (by omega),h.frozen _,h.frozen _,h.frozen _⟩
theorem zA5{w w':World}{g t n:Nat}{F:Nat->Value}(h:w.rowIs g t n F)(hb:Below w.heap.size w w'):w'.rowIs g t n F:=h.of_block (hb.block _ h.lt)
theorem zAP{w w':World}{o:Obj}(h:Below (w.alloc o).heap.size (w.alloc o) w'):Below w.heap.size w w':=zA2 (zA1 (Below.refl _ _) o) h
def zAa:Value:=.agg #[.int .i64 0,.slice none 0 0,.slice none 0 0,.slice none 0 0]
theorem zEE{w0 w':World}{X:Vc×Int}{n:Int}(hX:X=(Vc.zero,n))(hb:Below w0.heap.size w0 w') :
  ∃p,Ending.returned (.tuple #[zAa,.int .i64 n])=.returned (.tuple #[zCC X.1 p,.int .i64 X.2])/\zAi w' X.1 p/\zBb w0.heap.size p/\Below w0.heap.size w0 w':=by
 subst hX
 exact⟨⟨none,0,none,0,none,0⟩,rfl,zAi.zero _,⟨by simp,by simp,by simp⟩,hb⟩
theorem zAk{w:World}{g:Nat}{a b c d:Value}(h:w.rowIs g 49 4 (zGA a b c d)) :
  w.cell? ⟨g,0,none⟩=some a/\w.cell? ⟨g,1,none⟩=some b/\w.cell? ⟨g,2,none⟩=some c/\w.cell? ⟨g,3,none⟩=some d/\w.frozen? ⟨g,0,none⟩=false/\w.frozen? ⟨g,1,none⟩=false/\w.frozen? ⟨g,2,none⟩=false/\w.frozen? ⟨g,3,none⟩=false:=
 ⟨h.cell (by omega),h.cell (by omega),h.cell (by omega),h.cell (by omega),h.frozen _,h.frozen _,h.frozen _,h.frozen _⟩
theorem zRs(a:Option Addr)(c:Nat)(kind:Int)(xs:List Val)(w:World)(hl:xs.length*32<=140737488355328)(ha:zAR w a xs) :
  Calls Tryz.prog 27 #[.int .i64 kind,.slice a xs.length c] w fun e w'=>∃p,e=.returned (.tuple #[zCC (zBU kind xs).1 p,.int .i64 (zBU kind xs).2])/\zAi w' (zBU kind xs).1 p/\zBb w.heap.size p/\Below w.heap.size w w':=by
 obtain⟨i4,Qd,z40,z41,z42⟩:=info_parts Tryz.info59
 generalize hX:zBU kind xs=X
 have HX:=zA3 hX
 clear hX
 have HA:=zA3 ha
 clear ha
 obtain⟨ys,YE⟩:∃ys,ys=xs.map zA8:=⟨_,rfl⟩
 have HY:=zA3 YE
 have Gw:ys.length=xs.length:=by rw[YE];simp
 have QA:=zA3 Gw
 clear YE Gw
 rcases Bool.eq_false_or_eq_true (zFM kind) with hk|hk
 rotate_left
 ·have HE:Hid (X=(Vc.zero,1)):=by
   show _=_
   rw[<-zA0 HX,zBU,if_pos hk]
  go_enter Tryz.func27,Tryz.ntmps27
  go_wp2_with (go_at_call 52;refine(zHm _ _).mono ?_;rintro e w1 ⟨rfl,rfl⟩)
  refine bodyPost_ret (v:=.tuple #[zAa,.int .i64 1]) (by simp[results,Tryz.results27,go_sem,zAa, *]) rfl ?_
  exact zEE (zA0 HE) (by repeat (first|exact Below.refl _ _|refine Below.alloc ?_ (by simp<;>omega) _|refine Below.setCell ?_ (by simp<;>omega) _))
 ·go_enter Tryz.func27,Tryz.ntmps27
  go_wp2_with (first
   | (go_at_call 52;refine(zHm _ _).mono ?_;rintro e w1 ⟨rfl,rfl⟩)
   | (at_make;refine zB5 _ rfl (.tmp 18) (.tmp 18) 37 rfl 59 i4 _ Tryz.underlying37 Qd z40 3 z41 .i64 .i64 xs.length rfl rfl (by rw[z42];omega) (by omega) ?_)
   | fail)
  go_loopw[22] (fun i wr=>∃k:Nat,k<=xs.length/\i=.int .i64 k/\zQV w wr xs.length k ys) (fun i _=>xs.length-(intOf i).toNat)
  case atStart=>exact⟨0,Nat.zero_le _,rfl,zQV.start _ _ _ _⟩
  case round=>
   obtain⟨k,Yq,rfl,hI⟩:=hrel
   have HI:=zA3 hI
   obtain⟨hb,hr,⟨F,hF,QP⟩⟩:=hI
   have ZR:=(zA0 HA).later hb
   have hz:=hF.lt
   by_cases h1:k<xs.length
   ·obtain⟨x,YF⟩:∃x,xs[k]?=some x:=⟨_,zAf h1⟩
    rcases ZR with e|⟨ba,oa,rfl,Qq⟩
    ·subst e;simp at h1
    obtain⟨c0,c1,c2⟩:=Qq k x YF
    have HS:Hid (ys[k]?=some (zA8 x)):=by show _=_;rw[zA0 HY];simp[YF]
    have i1:(k:Int)<(xs.length:Int):=by omega
    have HF:=zA3 hF
    clear Qq YF hF QP hr hb
    go_wp2_with (go_at_call 53;refine(zHC x _).mono ?_;rintro e w1 ⟨rfl,Hb⟩;rw[Val.open_];have hw1:=zAP Hb;clear Hb;obtain⟨p0,p1,p2,q0,q1,q2⟩:=zQl (k:=k) (zA5 (zA0 HF) hw1) (by omega))
    go_roundw
    case rel=>exact⟨k+1,by omega,by go_num,((zA0 HI).later hw1).step (zA0 HS)⟩
    case measure=>simp[intOf];omega
   ·have e:k=xs.length:=by omega
    have i1:¬(k:Int)<(xs.length:Int):=by omega
    have Fi:Hid (zQV w wr xs.length xs.length ys):=by have:=zA0 HI;rw[e] at this;exact this
    clear hr hF QP hb ZR HI e
    go_wp2
    obtain⟨W1,rfl⟩:∃W1,W1=wr:=⟨_,rfl⟩
    clear Yq h1 F hz i1
    go_loopw[35] (fun i wr=>∃j:Nat,j<=xs.length/\i=.int .i64 j/\Hid (∀i y,i<j->ys[i]?=some y->zFu kind y=false)/\Below W1.heap.size W1 wr) (fun i _=>xs.length-(intOf i).toNat)
    case atStart=>exact⟨0,Nat.zero_le _,rfl,fun i y h=>by omega,Below.refl _ _⟩
    case round=>
     obtain⟨j,Jx,rfl,HN,hb⟩:=hrel
     have hI:=(zA0 Fi).later hb
     have HI:=zA3 hI
     obtain⟨Zg,hr,⟨F,hF,QP⟩⟩:=hI
     obtain⟨r0,r1,r2,r3,f0,f1,f2,f3⟩:=zAk hr
     by_cases h1:j<xs.length
     ·obtain⟨y,hy⟩:∃y,ys[j]?=some y:=⟨_,zAf (by rw[zA0 QA];exact h1)⟩
      have ZR:=zEZ hF (zA0 QA) QP
      rcases ZR with e|⟨ba,oa,e,Qq⟩
      ·rw[e] at hy;cases hy
      cases e
      obtain⟨c0,c1,c2⟩:=Qq j y hy
      rw[Nat.zero_add] at c0 c1 c2
      have i1:(j:Int)<(xs.length:Int):=by omega
      have n1:w.heap.size<wr.heap.size:=hr.lt
      have HS:=zA3 hy
      have yp:=zA3 Zg
      clear Qq hy hF QP hr Zg
      rcases Bool.eq_false_or_eq_true (y.k != 0) with e1|e1
      ·rcases Bool.eq_false_or_eq_true (y.k != kind) with e2|e2
       ·have HE:Hid (X=(Vc.zero,4)):=by
         show _=_
         rw[<-zA0 HX,zBU,if_neg (by rw[hk];simp),<-zA0 HY,if_pos (zIv (zA0 HS) (by rw[zFu,e1,e2];rfl))]
        go_wp2
        refine bodyPost_ret (v:=.tuple #[zAa,.int .i64 4]) (by simp[results,Tryz.results27,go_sem,zAa, *]) rfl ?_
        exact zEE (zA0 HE) (zA1 (zBm (zA0 yp) (Nat.le_refl _) _ _ _ _) _)
       ·have HP:=zA3 (zEL (zA0 HN) (zA0 HS) (by rw[zFu,e1,e2];rfl))
        go_wp2
        go_roundw
        case rel=>exact⟨j+1,by omega,by go_num,HP,zA1 hb _⟩
        case measure=>simp[intOf];omega
      ·have HP:=zA3 (zEL (zA0 HN) (zA0 HS) (by rw[zFu,e1];rfl))
       go_wp2
       go_roundw
       case rel=>exact⟨j+1,by omega,by go_num,HP,zA1 hb _⟩
       case measure=>simp[intOf];omega
     ·have e:j=xs.length:=by omega
      have i1:¬(j:Int)<(xs.length:Int):=by omega
      have HP:Hid (ys.any (zFu kind)=false):=zGU (by rw[zA0 QA,<-e];exact zA0 HN)
      clear e
      go_wp2
      obtain⟨W2,rfl⟩:∃W2,W2=wr:=⟨_,rfl⟩
      clear Jx h1 F hF QP i1 hr Zg r0 r1 r2 r3 f0 f1 f2 f3 HN Fi hb
      go_loopw[52] (fun i wr=>∃j:Nat,j<=xs.length/\i=.int .i64 j/\Hid (∀i y,i<j->ys[i]?=some y->zAv y.s=false)/\Below W2.heap.size W2 wr) (fun i _=>xs.length-(intOf i).toNat)
      case atStart=>exact⟨0,Nat.zero_le _,rfl,fun i y h=>by omega,Below.refl _ _⟩
      case round=>
       obtain⟨j,Jx,rfl,HN,hb⟩:=hrel
       have hI:=(zA0 HI).later hb
       obtain⟨Zg,hr,⟨F,hF,QP⟩⟩:=hI
       obtain⟨r0,r1,r2,r3,f0,f1,f2,f3⟩:=zAk hr
       by_cases h1:j<xs.length
       ·obtain⟨y,hy⟩:∃y,ys[j]?=some y:=⟨_,zAf (by rw[zA0 QA];exact h1)⟩
        have ZR:=zEZ hF (zA0 QA) QP
        rcases ZR with e|⟨ba,oa,e,Qq⟩
        ·rw[e] at hy;cases hy
        cases e
        obtain⟨c0,c1,c2⟩:=Qq j y hy
        rw[Nat.zero_add] at c0 c1 c2
        have i1:(j:Int)<(xs.length:Int):=by omega
        have n1:w.heap.size<wr.heap.size:=hr.lt
        have HS:=zA3 hy
        have yp:=zA3 Zg
        clear Qq hy hF QP hr Zg
        rcases Bool.eq_false_or_eq_true (zAv y.s) with e1|e1
        ·have HE:Hid (X=(Vc.zero,3)):=by
          show _=_
          rw[<-zA0 HX,zBU,if_neg (by rw[hk];simp),<-zA0 HY,if_neg (by rw[zA0 HP];simp),if_pos (zIv (p:=fun y=>zAv y.s) (zA0 HS) e1)]
         go_wp2_with (go_at_call 54;refine(zDw _ _).mono ?_;rintro e w1 ⟨rfl,rfl⟩)
         refine bodyPost_ret (v:=.tuple #[zAa,.int .i64 3]) (by simp[results,Tryz.results27,go_sem,zAa, *]) rfl ?_
         exact zEE (zA0 HE) (zA1 (zBm (zA0 yp) (Nat.le_refl _) _ _ _ _) _)
        ·have HQ:=zA3 (zEL (p:=fun y=>zAv y.s) (zA0 HN) (zA0 HS) e1)
         go_wp2_with (go_at_call 54;refine(zDw _ _).mono ?_;rintro e w1 ⟨rfl,rfl⟩)
         go_roundw
         case rel=>exact⟨j+1,by omega,by go_num,HQ,zA1 hb _⟩
         case measure=>simp[intOf];omega
       ·have e:j=xs.length:=by omega
        have i1:¬(j:Int)<(xs.length:Int):=by omega
        have HE:Hid (X=(zBd kind ys,0)):=by
         show _=_
         have hq:ys.any (fun y=>zAv y.s)=false:=zGU (by rw[zA0 QA,<-e];exact zA0 HN)
         rw[<-zA0 HX,zBU,if_neg (by rw[hk];simp),<-zA0 HY,if_neg (by rw[zA0 HP];simp),if_neg (by rw[hq];simp)]
        have HC:Hid (Calls Tryz.prog 55 #[.int .i64 kind,.slice (some ⟨w.heap.size+1,0,none⟩) xs.length xs.length] wr fun e w'=>∃p,e=.returned (zCC (zBd kind ys) p)/\zAi w' (zBd kind ys) p/\zBb wr.heap.size p/\Below wr.heap.size wr w'):=by
         have:=zRj (some ⟨w.heap.size+1,0,none⟩) xs.length kind ys wr (by rw[zA0 QA];exact hl) (zEZ hF (zA0 QA) QP)
         rw[zA0 QA] at this
         exact this
        have yp:=zA3 Zg
        have HR:=zA3 hr
        have n1:w.heap.size<wr.heap.size:=hr.lt
        clear hF QP hr Zg e r0 r1 r2 r3 f0 f1 f2 f3
        go_wp2_with (go_at_call 55;refine(zA0 HC).mono ?_;rintro e w1 ⟨p,rfl,yw,yH,Hb⟩;rw[zAM];obtain⟨r0,r1,r2,r3,f0,f1,f2,f3⟩:=zAk (zA5 (zA0 HR) Hb))
        refine bodyPost_ret (v:=.tuple #[zCC (zBd kind ys) p,.int .i64 0]) (by simp[results,Tryz.results27,go_sem,zCC, *]) rfl ?_
        rw[zA0 HE]
        exact⟨p,rfl,yw.setO4 yH n1 _ _ _ _,yH.less (by omega),zBm (zA2 (zA0 yp) Hb) (Nat.le_refl _) _ _ _ _⟩
theorem zAF{w w':World}{g t n:Nat}{F:Nat->Value}{row:Option Nat}(h:w.rowIs g t n F)(hg:w.grownBy w' row)(Hg:some g≠row):w'.rowIs g t n F:=h.of_block (hg.block _ h.lt Hg)
theorem zGs{w:World}{base e size:Nat}{v:Value}{m:Nat}{xs:List Value}(h:w.ownsRow base e size v m xs){g:Nat}(hg:v.ownBlock=some g):∃cur,w.heap[g]?=some (.cells cur e (0,0)):=by
 rcases h.2 with ⟨rfl,_⟩|⟨g',cap,cur,rfl,_,hh,_⟩
 ·simp[Value.ownBlock] at hg
 ·simp[Value.ownBlock] at hg;subst hg;exact⟨cur,hh⟩
theorem zBL{w:World}{g t n:Nat}{F:Nat->Value}{base e size:Nat}{v:Value}{m:Nat}{xs:List Value}(h:w.rowIs g t n F)(ho:w.ownsRow base e size v m xs)(Th:t≠e):some g≠v.ownBlock:=by
 intro hg
 obtain⟨cur,hc⟩:=zGs ho hg.symm
 obtain⟨c,hb,_⟩:=h
 rw[hc] at hb
 simp at hb
 exact Th hb.2.symm
theorem zCL{w:World}{base e size base' e' size':Nat}{v v':Value}{m m':Nat}{xs xs':List Value}(h:w.ownsRow base e size v m xs)(h':w.ownsRow base' e' size' v' m' xs')(Hg:e≠e'):v.ownBlock=none∨v.ownBlock≠v'.ownBlock:=by
 cases hv:v.ownBlock with
 | none=>exact .inl rfl
 | some g=>
  right
  intro hg
  obtain⟨c,hc⟩:=zGs h hv
  obtain⟨c',ZB⟩:=zGs h' hg.symm
  rw[hc] at ZB
  simp at ZB
  exact Hg ZB.2
theorem zAY(w:World)(g j:Nat)(u:Value):w.grownBy (w.setCell ⟨g,j,none⟩ u) (some g):=by
 have:=(Below.refl g w).setCell (p:=⟨g,j,none⟩) (Nat.le_refl _) u
 exact⟨this.os,this.tape,this.output,this.size,fun k _ Hg=>Below.heap_setCell w _ u k (fun e=>Hg (by rw[e]))⟩
theorem zAw{w:World}{g t n j:Nat}{F:Nat->Value}{u:Value}{base e size:Nat}{v:Value}{m:Nat}{xs:List Value}(ho:w.ownsRow base e size v m xs)(h:w.rowIs g t n F)(Th:t≠e):(w.setCell ⟨g,j,none⟩ u).ownsRow base e size v m xs:=
 ho.kept (zAY w g j u) (by have:=zBL h ho Th;cases hv:v.ownBlock with|none=>exact .inl rfl|some k=>exact .inr (by rw[hv] at this;exact fun e=>this e.symm))
theorem zAc{w w1:World}{base e size:Nat}{v:Value}{m:Nat}{xs:List Value}(h:w.ownsRow base e size v m xs)(hb:Below w.heap.size w w1):w1.ownsRow base e size v m xs:=
 h.kept (row:=none) ⟨hb.os,hb.tape,hb.output,hb.size,fun k hk _=>hb.block k hk⟩ (by cases v.ownBlock with|none=>exact .inl rfl|some g=>exact .inr (by simp))
theorem zAd{w w':World}{row:Option Nat}(hg:w.grownBy w' row){B:Nat}(hB:B<=w.heap.size)(hr:∀g,row=some g->B<=g):Below B w w':=
 ⟨hg.os,hg.tape,hg.output,hg.size,fun k hk=>hg.block k (by omega) (fun e=>by have:=hr k e.symm;omega)⟩
theorem zBj{w:World}{base e:Nat}{v:Value}{m:Nat}{xs:List Value}(h:w.ownsRow base e 1 v m xs):∃a c,v=.slice a m c/\zAp w a xs/\∀ad,a=some ad->base<=ad.block:=by
 have Qc:=@World.ownsRow.cells w base e 1 v m xs h
 have hl:=h.1
 rcases h.2 with ⟨rfl,h0⟩|⟨g,cap,cur,rfl,hb,_⟩
 ·subst h0
  have:xs=[]:=List.eq_nil_of_length_eq_zero (by omega)
  exact⟨none,0,rfl,.inl this,by simp⟩
 ·refine⟨some ⟨g,0,none⟩,cap,rfl,.inr ⟨g,0,rfl,fun i x hx=>?_⟩,by intro ad e;cases e;exact hb⟩
  have:=Qc (g:=g) rfl i x hx
  rw[Addr.add_lit,Nat.zero_add] at this
  rw[Nat.zero_add];exact this
def zDU(y:Val):Nat->Value
 | 0=>.int .i64 y.k
 | 1=>.int .i64 y.n
 | _=>.string y.s
theorem zS3(y:Val):∀i,i < #[Value.int .i64 y.k,.int .i64 y.n,.string y.s].size->#[Value.int .i64 y.k,.int .i64 y.n,.string y.s][i]?=some (zDU y i):=by
 intro i hi
 match i,hi with
 | 0,_=>rfl
 | 1,_=>rfl
 | 2,_=>rfl
theorem zAs(w:World)(y:Val):(w.alloc (.cells #[.int .i64 y.k,.int .i64 y.n,.string y.s] 59)).rowIs w.heap.size 59 3 (zDU y):=World.rowIs_alloc w _ 59 _ (zS3 y)
theorem zA9{w:World}{g:Nat}{y:Val}(h:w.rowIs g 59 3 (zDU y)) :
  w.cell? ⟨g,0,none⟩=some (.int .i64 y.k)/\w.cell? ⟨g,1,none⟩=some (.int .i64 y.n)/\w.cell? ⟨g,2,none⟩=some (.string y.s)/\w.frozen? ⟨g,0,none⟩=false/\w.frozen? ⟨g,1,none⟩=false/\w.frozen? ⟨g,2,none⟩=false:=
 ⟨h.cell (by omega),h.cell (by omega),h.cell (by omega),h.frozen _,h.frozen _,h.frozen _⟩
theorem zIr{w:World}{g:Nat}{x y:Val}(h:w.rowIs g 59 3 (zDU x)):(((w.setCell ⟨g,0,none⟩ (.int .i64 y.k)).setCell ⟨g,1,none⟩ (.int .i64 y.n)).setCell ⟨g,2,none⟩ (.string y.s)).rowIs g 59 3 (zDU y):=by
 refine(((h.set 0 _).set 1 _).set 2 _).congr fun i hi=>?_
 match i,hi with
 | 0,_=>rfl
 | 1,_=>rfl
 | 2,_=>rfl
structure TI(w0 w:World)(kind:Int)(s1 s2 s3 so:Value)(t:Nat)(c1 co:List Value):Prop where
 below:Below w0.heap.size w0 w
 res:w.rowIs w0.heap.size 49 4 (zGA (.int .i64 0) noS noS noS)
 box:w.rowIs (w0.heap.size+1) 49 4 (zGA (.int .i64 kind) s1 s2 s3)
 own1:w.ownsRow (w0.heap.size+1+1) 4 1 s1 c1.length c1
 own2:w.ownsRow (w0.heap.size+1+1) t 1 so co.length co
theorem TI.later{w0 w w':World}{kind:Int}{s1 s2 s3 so:Value}{t:Nat}{c1 co:List Value}(h:TI w0 w kind s1 s2 s3 so t c1 co)(hb:Below w.heap.size w w'):TI w0 w' kind s1 s2 s3 so t c1 co:=
 ⟨zA2 h.below hb,zA5 h.res hb,zA5 h.box hb,zAc h.own1 hb,zAc h.own2 hb⟩
theorem TI.set3{w0 w:World}{kind:Int}{s1 s2 s3 so:Value}{t:Nat}{c1 co:List Value}{vb:Nat}{x:Val}(h:TI w0 w kind s1 s2 s3 so t c1 co)(hv:w.rowIs vb 59 3 (zDU x))(ht:59≠t)(hl:w0.heap.size+1+1<=vb)(y:Val) :
  TI w0 (((w.setCell ⟨vb,0,none⟩ (.int .i64 y.k)).setCell ⟨vb,1,none⟩ (.int .i64 y.n)).setCell ⟨vb,2,none⟩ (.string y.s)) kind s1 s2 s3 so t c1 co:=by
 refine⟨((h.below.setCell (by simp<;>omega) _).setCell (by simp<;>omega) _).setCell (by simp<;>omega) _,?_,?_,?_,?_⟩
 ·exact((h.res.setOther (by simp<;>omega) _).setOther (by simp<;>omega) _).setOther (by simp<;>omega) _
 ·exact((h.box.setOther (by simp<;>omega) _).setOther (by simp<;>omega) _).setOther (by simp<;>omega) _
 ·exact zAw (zAw (zAw h.own1 hv (by decide)) (hv.set _ _) (by decide)) ((hv.set _ _).set _ _) (by decide)
 ·exact zAw (zAw (zAw h.own2 hv ht) (hv.set _ _) ht) ((hv.set _ _).set _ _) ht
theorem TI.app1{w0 w w1:World}{kind:Int}{s1 s2 s3 so:Value}{t:Nat}{c1 co:List Value}{o:Obj}{v' x:Value}{vb:Nat}{y:Val}(h:TI w0 w kind s1 s2 s3 so t c1 co)(hv:w.rowIs vb 59 3 (zDU y))(ht:t≠4)(ht':49≠t)
  (ho:w1.ownsRow (w0.heap.size+1+1) 4 1 v' (c1.length+1) (c1++[x])) (hg:(w.alloc o).grownBy w1 s1.ownBlock) :
  TI w0 (w1.setCell ⟨w0.heap.size+1,1,none⟩ v') kind v' s2 s3 so t (c1++[x]) co/\(w1.setCell ⟨w0.heap.size+1,1,none⟩ v').rowIs vb 59 3 (zDU y)/\(vb≠w0.heap.size+1):=by
 have h':=h.later (zA1 (Below.refl _ w) o)
 have Tg:=hv.alloc o
 have hvb:vb≠w0.heap.size+1:=by
  intro e
  obtain⟨c,hc,_⟩:=hv
  obtain⟨c',ZB,_⟩:=h.box
  rw[e,ZB] at hc
  simp at hc
 have Hb:w1.rowIs (w0.heap.size+1) 49 4 (zGA (.int .i64 kind) s1 s2 s3):=zAF h'.box hg (zBL h'.box h'.own1 (by decide))
 refine⟨⟨?_,?_,?_,?_,?_⟩,?_,hvb⟩
 ·refine Below.setCell (h'.below.trans (zAd hg h'.below.size fun g e=>?_)) (by simp) _
  have:=h'.own1.lt g e;omega
 ·exact(zAF h'.res hg (zBL h'.res h'.own1 (by decide))).setOther (by simp) _
 ·refine(Hb.set 1 v').congr fun i hi=>?_
  match i,hi with
  | 0,_=>rfl
  | 1,_=>rfl
  | 2,_=>rfl
  | 3,_=>rfl
 ·have:=zAw (u:=v') (j:=1) ho Hb (by decide)
  simpa using this
 ·exact zAw (h'.own2.kept hg (zCL h'.own2 h'.own1 ht)) Hb ht'
 ·exact(zAF Tg hg (zBL Tg h'.own1 (by decide))).setOther hvb _
theorem TI.app2{w0 w w1:World}{kind:Int}{s1 s2 s3:Value}{c1 co:List Value}{o:Obj}{v' x:Value}(h:TI w0 w kind s1 s2 s3 s2 2 c1 co)
  (ho:w1.ownsRow (w0.heap.size+1+1) 2 1 v' (co.length+1) (co++[x])) (hg:(w.alloc o).grownBy w1 (s2).ownBlock) :
  TI w0 (w1.setCell ⟨w0.heap.size+1,2,none⟩ v') kind s1 v' s3 v' 2 c1 (co++[x]):=by
 have h':=h.later (zA1 (Below.refl _ w) o)
 have Hb:w1.rowIs (w0.heap.size+1) 49 4 (zGA (.int .i64 kind) s1 s2 s3):=zAF h'.box hg (zBL h'.box h'.own2 (by decide))
 refine⟨?_,?_,?_,?_,?_⟩
 ·refine Below.setCell (h'.below.trans (zAd hg h'.below.size fun g e=>?_)) (by simp) _
  have:=h'.own2.lt g e;omega
 ·exact(zAF h'.res hg (zBL h'.res h'.own2 (by decide))).setOther (by simp) _
 ·refine(Hb.set 2 v').congr fun i hi=>?_
  match i,hi with
  | 0,_=>rfl
  | 1,_=>rfl
  | 2,_=>rfl
  | 3,_=>rfl
 ·exact zAw (h'.own1.kept hg (zCL h'.own1 h'.own2 (by decide))) Hb (by decide)
 ·have:=zAw (u:=v') (j:=2) ho Hb (by decide)
  simpa using this
theorem TI.app3{w0 w w1:World}{kind:Int}{s1 s2 s3:Value}{c1 co:List Value}{o:Obj}{v' x:Value}(h:TI w0 w kind s1 s2 s3 s3 9 c1 co)
  (ho:w1.ownsRow (w0.heap.size+1+1) 9 1 v' (co.length+1) (co++[x])) (hg:(w.alloc o).grownBy w1 (s3).ownBlock) :
  TI w0 (w1.setCell ⟨w0.heap.size+1,3,none⟩ v') kind s1 s2 v' v' 9 c1 (co++[x]):=by
 have h':=h.later (zA1 (Below.refl _ w) o)
 have Hb:w1.rowIs (w0.heap.size+1) 49 4 (zGA (.int .i64 kind) s1 s2 s3):=zAF h'.box hg (zBL h'.box h'.own2 (by decide))
 refine⟨?_,?_,?_,?_,?_⟩
 ·refine Below.setCell (h'.below.trans (zAd hg h'.below.size fun g e=>?_)) (by simp) _
  have:=h'.own2.lt g e;omega
 ·exact(zAF h'.res hg (zBL h'.res h'.own2 (by decide))).setOther (by simp) _
 ·refine(Hb.set 3 v').congr fun i hi=>?_
  match i,hi with
  | 0,_=>rfl
  | 1,_=>rfl
  | 2,_=>rfl
  | 3,_=>rfl
 ·exact zAw (h'.own1.kept hg (zCL h'.own1 h'.own2 (by decide))) Hb (by decide)
 ·have:=zAw (u:=v') (j:=3) ho Hb (by decide)
  simpa using this
set_option maxRecDepth 100000
def bs(l:List UInt8):ByteArray:=⟨l.toArray⟩
theorem zBV(l:List UInt8):(bs l).size=l.length:=by simp[bs,ByteArray.size]
theorem zIq(l:List UInt8)(n:Nat)(h:n<=l.length):(bs l).extract 0 n=bs (l.take n):=by
 apply ByteArray.ext
 simp[bs,ByteArray.data_extract]
theorem zHD(l:List UInt8)(n:Nat):(bs l).extract n l.length=bs (l.drop n):=by
 apply ByteArray.ext
 simp[bs,ByteArray.data_extract]
 rw[List.take_of_length_le (by simp)]
def Rd(w:World)(b:Nat)(l:List UInt8):Prop:=w.rowIs b 174 1 fun _=>.string (bs l)
def Gr(w w':World)(b:Nat):Prop:=w.grownBy w' (some b)
theorem Gr.refl(w:World)(b:Nat):Gr w w b:=World.grownBy.refl _ _
theorem Gr.trans{a b c:World}{k:Nat}(h:Gr a b k)(g:Gr b c k):Gr a c k:=
 ⟨g.os.trans h.os,g.tape.trans h.tape,g.output.trans h.output,Nat.le_trans h.size g.size,fun i hi Hg=>by rw[g.block i (Nat.lt_of_lt_of_le hi h.size) Hg,h.block i hi Hg]⟩
theorem Gr.of_below{w w':World}(h:Below w.heap.size w w')(b:Nat):Gr w w' b:=⟨h.os,h.tape,h.output,h.size,fun i hi _=>h.block i hi⟩
theorem Gr.alloc(w:World)(b:Nat)(o:Obj):Gr w (w.alloc o) b:=World.grownBy_alloc w o _
abbrev dmg:Ending:=.panicked [{ v:=.iface 171 (.agg #[]),recovered:=false }]
theorem zAj(w:World):Calls Tryz.prog 150 #[.bool true] w fun e w'=>e=.returned (.tuple #[])/\w'=w:=by
 go_enter Tryz.func150,Tryz.ntmps150
 go_wp2
 go_end0
 exact⟨rfl,rfl⟩
theorem zBu(w:World):Calls Tryz.prog 150 #[.bool false] w fun e w'=>e=dmg/\w'=w:=by
 go_enter Tryz.func150,Tryz.ntmps150
 go_wp2
 exact⟨rfl,rfl,rfl⟩
theorem zDF(t:Bool)(h:t=false)(w:World):Calls Tryz.prog 150 #[.bool t] w fun e w'=>e=dmg/\w'=w:=by subst h;exact zBu w
theorem zFn(t:Bool)(h:t=true)(w:World):Calls Tryz.prog 150 #[.bool t] w fun e w'=>e=.returned (.tuple #[])/\w'=w:=by subst h;exact zAj w
theorem Rd.cell{w:World}{b:Nat}{l:List UInt8}(h:Rd w b l):w.cell? ⟨b,0,none⟩=some (.string (bs l)):=World.rowIs.cell h (by decide)
theorem Rd.set{w:World}{b:Nat}{l:List UInt8}(h:Rd w b l)(l':List UInt8):Rd (w.setCell ⟨b,0,none⟩ (.string (bs l'))) b l':=
 World.rowIs.congr (World.rowIs.set h 0 (.string (bs l'))) (fun i hi => by have : i = 0 := by omega
                                                                           subst this; simp)
theorem Gr.set(w:World)(b:Nat)(v:Value):Gr w (w.setCell ⟨b,0,none⟩ v) b:=zAY w b 0 v
theorem zLT(b n:Nat)(l:List UInt8)(w:World)(h:Rd w b l)(hl:l.length<=140737488355328)(hn:n<=l.length) :
  Calls Tryz.prog 161 #[.pointer (some ⟨b,0,none⟩),.int .i64 n] w fun e w'=>e=.returned (.string (bs (l.take n)))/\w'=w.setCell ⟨b,0,none⟩ (.string (bs (l.drop n))):=by
 have hc:=h.cell
 have hf:=World.rowIs.frozen h 0
 have hs:=zBV l
 have hd:decide ((n:Int)<=(l.length:Int))=true:=by simp;omega
 go_enter Tryz.func161,Tryz.ntmps161
 go_wp2_with (go_at_call 150;refine(zAj _).mono ?_;rintro e w' ⟨rfl,rfl⟩)
 go_ret
 exact⟨by rw[zIq l n hn];rfl,by rw[zHD]⟩
theorem zO8(b n:Nat)(l:List UInt8)(w:World)(h:Rd w b l)(hl:l.length<=140737488355328)(hn:l.length<n) :
  Calls Tryz.prog 161 #[.pointer (some ⟨b,0,none⟩),.int .i64 n] w fun e w'=>e=dmg/\w'=w:=by
 have hc:=h.cell
 have hf:=World.rowIs.frozen h 0
 have hs:=zBV l
 have hd:¬(n:Int)<=(l.length:Int):=by omega
 go_enter Tryz.func161,Tryz.ntmps161
 go_wp2_with (go_at_call 150;refine(zBu _).mono ?_;rintro e w' ⟨rfl,rfl⟩)
 exact⟨rfl,rfl,rfl⟩
def beV(l:List UInt8):Nat:=l.foldl (fun a b=>a*256+b.toNat) 0
theorem zE0(l:List UInt8)(b:UInt8):beV (l++[b])=beV l*256+b.toNat:=by simp[beV]
theorem zBn(l:List UInt8):beV l<256 ^ l.length:=by
 generalize hn:l.length=n
 induction n generalizing l with
 | zero=>have:l=[]:=List.eq_nil_of_length_eq_zero hn;subst this;simp[beV]
 | succ n ih=>
  have Hg:l≠[]:=by intro h;simp[h] at hn
  rw[<-List.dropLast_concat_getLast Hg,zE0,Nat.pow_succ]
  have:=ih l.dropLast (by simp[hn])
  have h2:=(l.getLast Hg).toNat_lt
  have:(beV l.dropLast+1)*256<=256 ^ n*256:=Nat.mul_le_mul_right _ this
  omega
theorem zHx(l:List UInt8)(W:World):∃W2 c,(convert 9 71 (.string (bs l))).run Tryz.prog W=.ok (.slice (some ⟨W.heap.size,0,none⟩) l.length c) W2/\Below W.heap.size W W2/\∀j (x:UInt8),l[j]?=some x->W2.cell? ⟨W.heap.size,j,none⟩=some (.int .u8 (x.toNat:Int)):=by
 have h:=Lib.run_convert_string_bytes (P:=Tryz.prog) W 9 71 5 (bs l) (u:=.string) Tryz.underlying9 Tryz.underlying71 Tryz.underlying5
 rw[zBV] at h
 refine⟨_,_,h,⟨rfl,rfl,rfl,by rw[Lib.bytesWorld_size];omega,fun j hj=>Lib.bytesWorld_at_old W 5 (bs l) j hj⟩,fun j x hx=>?_⟩
 obtain⟨hj,e⟩:=zAL hx
 rw[Lib.bytesWorld_cell W 5 (bs l) j (by rw[zBV];exact hj)]
 simp[bs,List.getD_eq_getElem?_getD,hx]
theorem zP8(a b:Nat)(ha:a<18446744073709551616)(hb:b<18446744073709551616):bits .or .u64 (a:Int) (b:Int)=((a ||| b:Nat):Int):=by
 have hx:a ||| b<2 ^ 64:=Nat.or_lt_two_pow (by omega) (by omega)
 have h1:(BitVec.ofInt 64 (a:Int)).toNat=a:=by
  rw[BitVec.ofInt_natCast,BitVec.toNat_ofNat];exact Nat.mod_eq_of_lt (by omega)
 have h2:(BitVec.ofInt 64 (b:Int)).toNat=b:=by
  rw[BitVec.ofInt_natCast,BitVec.toNat_ofNat];exact Nat.mod_eq_of_lt (by omega)
 show IntKind.u64.wrap ((BitVec.ofInt 64 (a:Int) ||| BitVec.ofInt 64 (b:Int)).toNat:Int)=_
 rw[BitVec.toNat_or,h1,h2,IntKind.wrap_u64]
 omega
theorem zKs{a x r:Nat}(h:a<2 ^ r):a ||| x*2 ^ r=a+x*2 ^ r:=by
 rw[Nat.or_comm,Nat.mul_comm,<-Nat.two_pow_add_eq_or_of_lt h x,Nat.add_comm]
theorem zKr(X x:Nat)(hX:X<72057594037927936)(hx:x<256):bits .or .u64 (IntKind.u64.wrap ((X:Int)*256)) (IntKind.u64.wrap (x:Int))=((X*256+x:Nat):Int):=by
 have e1:IntKind.u64.wrap ((X:Int)*256)=((X*2 ^ 8:Nat):Int):=by rw[IntKind.wrap_u64];omega
 have e2:IntKind.u64.wrap (x:Int)=(x:Int):=by rw[IntKind.wrap_u64];omega
 rw[e1,e2,zP8 _ _ (by omega) (by omega),Nat.or_comm,zKs (by omega)]
 congr 1;omega
theorem zTK(b n:Nat)(l:List UInt8)(w:World)(h:Rd w b l)(hl:l.length<=140737488355328)(hn:n<=l.length)(h8:n<=8) :
  Calls Tryz.prog 149 #[.pointer (some ⟨b,0,none⟩),.int .i64 n] w fun e w'=>e=.returned (.int .u64 (beV (l.take n)))/\Rd w' b (l.drop n)/\Gr w w' b:=by
 have HT:=zA3 (zLT b n l w h hl hn)
 have hL:(l.take n).length=n:=by rw[List.length_take];omega
 obtain⟨W2,c,Qm,hb,HC⟩:=zHx (l.take n) (w.setCell ⟨b,0,none⟩ (.string (bs (l.drop n))))
 rw[hL] at Qm
 have HR:Hid (Rd W2 b (l.drop n)/\Gr w W2 b):=⟨World.rowIs.of_block (h.set (l.drop n)) (hb.block b (h.set (l.drop n)).lt),(Gr.set w b _).trans (Gr.of_below hb b)⟩
 have HB:=zA3 hb
 have Dz:=zA3 HC
 have HL:=zA3 hL
 clear hb HC hL h
 go_enter Tryz.func149,Tryz.ntmps149
 go_wp2_with (go_at_call 161;refine(zA0 HT).mono ?_;rintro e w' ⟨rfl,rfl⟩)
 go_loop[5,13] (fun x i=>∃k:Nat,k<=n/\i=.int .i64 (k:Int)/\x=.int .u64 (beV ((l.take n).take k))) (fun _ i=>n-(intOf i).toNat)
 case atStart=>exact⟨0,Nat.zero_le _,rfl,rfl⟩
 case round=>
  obtain⟨k,hk,rfl,rfl⟩:=hrel
  by_cases He:k<n
  ·have h9:(k:Int)<(n:Int):=by omega
   obtain⟨x,hx⟩:∃x,(l.take n)[k]?=some x:=⟨_,zAf (by rw[zA0 HL];exact He)⟩
   have hc:=zA0 Dz k x hx
   simp at hc
   have HN:Hid (beV ((l.take n).take (k+1))=beV ((l.take n).take k)*256+x.toNat):=by
    obtain⟨g1,rfl⟩:=zAL hx
    show _=_
    rw[List.take_succ_eq_append_getElem g1,zE0]
   have Zm:beV ((l.take n).take k)<72057594037927936:=by
    have h1:=zBn ((l.take n).take k)
    have h2:((l.take n).take k).length<=7:=by rw[List.length_take,zA0 HL];omega
    have h3:256 ^ ((l.take n).take k).length<=256 ^ 7:=Nat.pow_le_pow_right (by decide) h2
    have h4:(256:Nat) ^ 7=72057594037927936:=by decide
    omega
   have HO:=zA3 (zKr _ x.toNat Zm x.toNat_lt)
   clear hx Zm
   go_wp2
   refine⟨⟨k+1,by omega,by go_num,?_⟩,by simp[intOf];omega⟩
   exact congrArg (Value.int .u64) ((zA0 HO).trans (by rw[zA0 HN]))
  ·have h9:¬(k:Int)<(n:Int):=by omega
   have e:(l.take n).take k=l.take n:=List.take_of_length_le (by rw[zA0 HL];omega)
   have E:=zA3 e
   clear e
   go_wp2
   go_ret
   exact⟨by rw[zA0 E];rfl,zA0 HR⟩
theorem zUB(b n:Nat)(l:List UInt8)(w:World)(h:Rd w b l)(hl:l.length<=140737488355328)(hn:l.length<n) :
  Calls Tryz.prog 149 #[.pointer (some ⟨b,0,none⟩),.int .i64 n] w fun e w'=>e=dmg/\w'=w:=by
 have HT:=zA3 (zO8 b n l w h hl hn)
 go_enter Tryz.func149,Tryz.ntmps149
 go_wp2_with (go_at_call 161;refine(zA0 HT).mono ?_;rintro e w' ⟨rfl,rfl⟩)
 exact⟨rfl,rfl,rfl⟩
def fit(X:Vc):Prop:=X.nl.length<=maxLen/\X.ns.length<=maxLen/\X.ss.length<=maxLen
theorem zAp.get{w:World}{a:Option Addr}{cs:List Value}{k:Nat}{x:Value}(h:zAp w a cs)(hx:cs[k]?=some x):∃b off,a=some ⟨b,off,none⟩/\w.cell? ⟨b,off+k,none⟩=some x:=by
 rcases h with h|⟨b,off,ha,h⟩
 ·rw[h] at hx;cases hx
 ·exact⟨b,off,ha,h k x hx⟩
def two(w:World)(v1 v2 v3 v4 u1 u2 u3 u4:Value):World:=(w.alloc (.cells #[v1,v2,v3,v4] 49)).alloc (.cells #[u1,u2,u3,u4] 49)
theorem zGa{w w':World}{v1 v2 v3 v4 u1 u2 u3 u4:Value}(h:Below (two w v1 v2 v3 v4 u1 u2 u3 u4).heap.size (two w v1 v2 v3 v4 u1 u2 u3 u4) w') :
  (w'.cell? ⟨w.heap.size,1,none⟩=some v2/\w'.cell? ⟨w.heap.size,2,none⟩=some v3/\w'.cell? ⟨w.heap.size,3,none⟩=some v4)/\(w'.cell? ⟨w.heap.size+1,1,none⟩=some u2/\w'.cell? ⟨w.heap.size+1,2,none⟩=some u3/\w'.cell? ⟨w.heap.size+1,3,none⟩=some u4)/\Below w.heap.size w w':=by
 have hs:(two w v1 v2 v3 v4 u1 u2 u3 u4).heap.size=w.heap.size+1+1:=by simp[two]
 obtain⟨hc,hf⟩:=zCR h
 refine⟨⟨?_,?_,?_⟩,⟨?_,?_,?_⟩,?_⟩
 ·rw[hc _ _ (by rw[hs];omega)];simp[two,go_sem]
 ·rw[hc _ _ (by rw[hs];omega)];simp[two,go_sem]
 ·rw[hc _ _ (by rw[hs];omega)];simp[two,go_sem]
 ·rw[hc _ _ (by rw[hs];omega)];simp[two,go_sem]
 ·rw[hc _ _ (by rw[hs];omega)];simp[two,go_sem]
 ·rw[hc _ _ (by rw[hs];omega)];simp[two,go_sem]
 ·exact(((Below.refl _ _).alloc (Nat.le_refl _) _).alloc (by simp) _).trans (h.mono (by rw[hs];omega))
theorem zG3(X:Vc)(p q:Sl)(w:World)(hf:fit X)(hp:zAi w X p)(hq:zAi w X q) :
  Calls Tryz.prog 19 #[zCC X p,zCC X q] w fun e w'=>e=.returned (.bool true)/\Below w.heap.size w w':=by
 rw[zAM,zAM]
 have HP:=zA3 hp
 have HQ:=zA3 hq
 obtain⟨l1,l2,l3⟩:=hf
 unfold maxLen at l1 l2 l3
 clear hp hq
 obtain⟨W2,Yz⟩:∃W2,W2=two w (.int .i64 X.k) (.slice p.a1 X.nl.length p.c1) (.slice p.a2 X.ns.length p.c2) (.slice p.a3 X.ss.length p.c3) (.int .i64 X.k) (.slice q.a1 X.nl.length q.c1) (.slice q.a2 X.ns.length q.c2) (.slice q.a3 X.ss.length q.c3):=⟨_,rfl⟩
 have Kp:=zA3 Yz
 go_enter Tryz.func19,Tryz.ntmps19
 go_wp2_with fail
 go_loopw[43] (fun i wr=>∃k:Nat,k<=X.nl.length/\i=.int .i64 k/\Below W2.heap.size W2 wr) (fun i _=>X.nl.length-(intOf i).toNat)
 case atStart=>exact⟨0,Nat.zero_le _,rfl,by rw[Yz];exact Below.refl _ _⟩
 case round=>
  clear Yz
  obtain⟨k,Yq,rfl,hb⟩:=hrel
  have Yl:=hb
  rw[zA0 Kp] at Yl
  obtain⟨⟨v2,v3,v4⟩,⟨u2,u3,u4⟩,hB⟩:=zGa Yl
  by_cases h1:k<X.nl.length
  ·obtain⟨x,hx⟩:∃x,X.nl[k]?=some x:=⟨_,zAf h1⟩
   obtain⟨pb,po,ep,cp⟩:=((zA0 HP).later hB).1.get (k:=k) (x:=.bool x) (by simp[hx])
   obtain⟨qb,qo,eq,cq⟩:=((zA0 HQ).later hB).1.get (k:=k) (x:=.bool x) (by simp[hx])
   rw[ep] at v2
   rw[eq] at u2
   have k0:=cell_regrown v2
   have k1:=cell_regrown u2
   have k2:=cell_regrown cp
   have k3:=cell_regrown cq
   have i1:(k:Int)<(X.nl.length:Int):=by omega
   clear ep eq hx Yl
   go_wp2_with fail
   refine wp_region_quiet_below (by kernel_rfl) (by kernel_rfl) ?_
   repeat (go_big_quiet_step (fail))
   refine wpQuiet_nil ?_
   intro w' Hp
   have Ge:Below wr.heap.size wr w':=by obtain⟨p,rfl⟩:=Hp;exact below_regrown _ _ _
   clear Hp
   have ZC:=zA2 hb Ge
   go_wp2
   go_roundw
   case rel=>exact⟨k+1,by omega,by go_num,ZC⟩
   case measure=>simp[intOf];omega
  ·have i1:¬(k:Int)<(X.nl.length:Int):=by omega
   obtain⟨W3,rfl⟩:∃W3,W3=wr:=⟨_,rfl⟩
   go_wp2
   clear Yl v2 v3 v4 u2 u3 u4 hB Yq h1 i1
   go_loopw[61] (fun i wr=>∃k:Nat,k<=X.ns.length/\i=.int .i64 k/\Below W2.heap.size W2 wr) (fun i _=>X.ns.length-(intOf i).toNat)
   case atStart=>exact⟨0,Nat.zero_le _,rfl,hb⟩
   case round=>
    clear hb
    obtain⟨k,Yq,rfl,hb⟩:=hrel
    have Yl:=hb
    rw[zA0 Kp] at Yl
    obtain⟨⟨v2,v3,v4⟩,⟨u2,u3,u4⟩,hB⟩:=zGa Yl
    by_cases h1:k<X.ns.length
    ·obtain⟨x,hx⟩:∃x,X.ns[k]?=some x:=⟨_,zAf h1⟩
     obtain⟨pb,po,ep,cp⟩:=((zA0 HP).later hB).2.1.get (k:=k) (x:=.int .i64 x) (by simp[hx])
     obtain⟨qb,qo,eq,cq⟩:=((zA0 HQ).later hB).2.1.get (k:=k) (x:=.int .i64 x) (by simp[hx])
     rw[ep] at v3
     rw[eq] at u3
     have k0:=cell_regrown v3
     have k1:=cell_regrown u3
     have k2:=cell_regrown cp
     have k3:=cell_regrown cq
     have i1:(k:Int)<(X.ns.length:Int):=by omega
     clear ep eq hx Yl
     go_wp2_with fail
     refine wp_region_quiet_below (by kernel_rfl) (by kernel_rfl) ?_
     repeat (go_big_quiet_step (fail))
     refine wpQuiet_nil ?_
     intro w' Hp
     have Ge:Below wr.heap.size wr w':=by obtain⟨p,rfl⟩:=Hp;exact below_regrown _ _ _
     clear Hp
     have ZC:=zA2 hb Ge
     go_wp2
     go_roundw
     case rel=>exact⟨k+1,by omega,by go_num,ZC⟩
     case measure=>simp[intOf];omega
    ·have i1:¬(k:Int)<(X.ns.length:Int):=by omega
     obtain⟨W3,rfl⟩:∃W3,W3=wr:=⟨_,rfl⟩
     go_wp2
     clear Yl v2 v3 v4 u2 u3 u4 hB Yq h1 i1
     go_loopw[79] (fun i wr=>∃k:Nat,k<=X.ss.length/\i=.int .i64 k/\Below W2.heap.size W2 wr) (fun i _=>X.ss.length-(intOf i).toNat)
     case atStart=>exact⟨0,Nat.zero_le _,rfl,hb⟩
     case round=>
      clear hb
      obtain⟨k,Yq,rfl,hb⟩:=hrel
      have Yl:=hb
      rw[zA0 Kp] at Yl
      obtain⟨⟨v2,v3,v4⟩,⟨u2,u3,u4⟩,hB⟩:=zGa Yl
      by_cases h1:k<X.ss.length
      ·obtain⟨x,hx⟩:∃x,X.ss[k]?=some x:=⟨_,zAf h1⟩
       obtain⟨pb,po,ep,cp⟩:=((zA0 HP).later hB).2.2.get (k:=k) (x:=.string x) (by simp[hx])
       obtain⟨qb,qo,eq,cq⟩:=((zA0 HQ).later hB).2.2.get (k:=k) (x:=.string x) (by simp[hx])
       rw[ep] at v4
       rw[eq] at u4
       have k0:=cell_regrown v4
       have k1:=cell_regrown u4
       have k2:=cell_regrown cp
       have k3:=cell_regrown cq
       have i1:(k:Int)<(X.ss.length:Int):=by omega
       clear ep eq hx Yl
       go_wp2_with fail
       refine wp_region_quiet_below (by kernel_rfl) (by kernel_rfl) ?_
       repeat (go_big_quiet_step (fail))
       refine wpQuiet_nil ?_
       intro w' Hp
       have Ge:Below wr.heap.size wr w':=by obtain⟨p,rfl⟩:=Hp;exact below_regrown _ _ _
       clear Hp
       have ZC:=zA2 hb Ge
       go_wp2
       go_roundw
       case rel=>exact⟨k+1,by omega,by go_num,ZC⟩
       case measure=>simp[intOf];omega
      ·have i1:¬(k:Int)<(X.ss.length:Int):=by omega
       clear Yl
       go_wp2
       go_ret
       exact⟨rfl,hB⟩
section
variable {α:Type}
theorem zRl{p:α->Bool}{ys:List α}{k:Nat}{y:α}(h:ys[k]?=some y)(hp:p y=true):ys.any p=true:=
 List.any_eq_true.2 ⟨y,List.mem_of_getElem? h,hp⟩
theorem zKx{p:α->Bool}{ys:List α}(h:∀i y,i<ys.length->ys[i]?=some y->p y=false):ys.any p=false:=by
 rw[List.any_eq_false]
 intro y hy
 obtain⟨i,hi⟩:=List.mem_iff_getElem?.1 hy
 rw[h i y (zAL hi).1 hi];simp
theorem zGg{p:α->Bool}{ys:List α}{k:Nat}{y:α}(h:∀i y,i<k->ys[i]?=some y->p y=false)(hy:ys[k]?=some y)(hp:p y=false):∀i y,i<k+1->ys[i]?=some y->p y=false:=by
 intro i z hi hz
 by_cases e:i=k
 ·subst e;rw[hy] at hz;cases hz;exact hp
 ·exact h i z (by omega) hz
end
theorem zI8{α β:Type}{xs:List α}{ys:List β}{k:Nat}{a:α}{b:β}(h1:xs[k]?=some a)(h2:ys[k]?=some b):(xs.zip ys)[k]?=some (a,b):=by
 rw[List.getElem?_zip_eq_some];exact⟨h1,h2⟩
def zNe(p:Bool×Int):Bool:=p.1 && p.2 != 0
def zLC(p:Bool×ByteArray):Bool:=p.1 && !p.2.toList.isEmpty
def znN(nl:List Bool)(ns:List Int):Bool:=nl.length == ns.length && !(nl.zip ns).any zNe
def znS(nl:List Bool)(ss:List ByteArray):Bool:=nl.length == ss.length && !(nl.zip ss).any zLC
theorem zNh(a1 a2:Option Addr)(c1 c2:Nat)(nl:List Bool)(ns:List Int)(w:World)(l1:nl.length<=1048576)(l2:ns.length<=1048576)(h1:zAp w a1 (nl.map .bool))(h2:zAp w a2 (ns.map (.int .i64))) :
  Calls Tryz.prog 97 #[.slice a1 nl.length c1,.slice a2 ns.length c2] w fun e w'=>e=.returned (.bool (znN nl ns))/\w'=w:=by
 have H1:=zA3 h1
 have H2:=zA3 h2
 clear h1 h2
 by_cases e:nl.length=ns.length
 ·obtain⟨n,hn⟩:∃n,n=ns.length:=⟨_,rfl⟩
  have HZ:Hid (znN nl ns=!(nl.zip ns).any zNe):=by show _=_;simp[znN,e]
  have qM:Hid ((nl.zip ns).length=n):=by show _=_;simp[e,hn]
  have HE1:Hid (nl.length=n):=by show _=_;rw[e,hn]
  have ql:Hid (ns.length=n):=hn.symm
  rw[e,<-hn]
  rw[<-hn] at l2
  clear e hn l1
  generalize znN nl ns=Z at HZ ⊢
  go_enter Tryz.func97,Tryz.ntmps97
  go_wp2_with fail
  go_loopw[15] (fun i wr=>∃k:Nat,k<=n/\i=.int .i64 k/\Hid (∀i y,i<k->(nl.zip ns)[i]?=some y->zNe y=false)/\wr=w) (fun i _=>n-(intOf i).toNat)
  case atStart=>exact⟨0,Nat.zero_le _,rfl,fun i y h=>by omega,rfl⟩
  case round=>
   obtain⟨k,hk,rfl,HN,rfl⟩:=hrel
   by_cases h1:k<n
   ·obtain⟨b,hb⟩:∃b,nl[k]?=some b:=⟨_,zAf (by rw[zA0 HE1];exact h1)⟩
    obtain⟨m,hm⟩:∃m,ns[k]?=some m:=⟨_,zAf (by rw[zA0 ql];exact h1)⟩
    obtain⟨pb,po,rfl,cp⟩:=(zA0 H1).get (k:=k) (x:=.bool b) (by simp[hb])
    obtain⟨qb,qo,rfl,cq⟩:=(zA0 H2).get (k:=k) (x:=.int .i64 m) (by simp[hm])
    have HS:=zA3 (zI8 hb hm)
    have i1:(k:Int)<(n:Int):=by omega
    clear hb hm
    cases b
    ·have HP:=zA3 (zGg (zA0 HN) (zA0 HS) (by simp[zNe]))
     go_wp2
     go_roundw
     case rel=>exact⟨k+1,by omega,by go_num,HP,by first|rfl|trivial⟩
     case measure=>simp[intOf];omega
    ·rcases Bool.eq_false_or_eq_true (m != 0) with em|em
     ·have HE:Hid (Z=false):=by show _=_;rw[zA0 HZ,zRl (zA0 HS) (by simpa [zNe] using em)];rfl
      go_wp2
      go_ret
      exact⟨by rw[zA0 HE];rfl,rfl⟩
     ·have HP:=zA3 (zGg (zA0 HN) (zA0 HS) (by simpa [zNe] using em))
      go_wp2
      go_roundw
      case rel=>exact⟨k+1,by omega,by go_num,HP,by first|rfl|trivial⟩
      case measure=>simp[intOf];omega
   ·have i1:¬(k:Int)<(n:Int):=by omega
    have HE:Hid (Z=true):=by
     show _=_
     have e:k=n:=by omega
     rw[zA0 HZ,zKx (by rw[zA0 qM,<-e];exact zA0 HN)];rfl
    go_wp2
    go_ret
    exact⟨by rw[zA0 HE];rfl,rfl⟩
 ·have HZ:Hid (znN nl ns=false):=by show _=_;simp[znN,e]
  have e':((nl.length:Int) != (ns.length:Int))=true:=by simp;omega
  clear e
  generalize znN nl ns=Z at HZ ⊢
  go_enter Tryz.func97,Tryz.ntmps97
  go_wp2
  go_ret
  exact⟨by rw[zA0 HZ];rfl,rfl⟩
theorem zNg(a1 a2:Option Addr)(c1 c2:Nat)(nl:List Bool)(ns:List ByteArray)(w:World)(l1:nl.length<=1048576)(l2:ns.length<=1048576)(h1:zAp w a1 (nl.map .bool))(h2:zAp w a2 (ns.map .string)) :
  Calls Tryz.prog 98 #[.slice a1 nl.length c1,.slice a2 ns.length c2] w fun e w'=>e=.returned (.bool (znS nl ns))/\w'=w:=by
 have H1:=zA3 h1
 have H2:=zA3 h2
 clear h1 h2
 by_cases e:nl.length=ns.length
 ·obtain⟨n,hn⟩:∃n,n=ns.length:=⟨_,rfl⟩
  have HZ:Hid (znS nl ns=!(nl.zip ns).any zLC):=by show _=_;simp[znS,e]
  have qM:Hid ((nl.zip ns).length=n):=by show _=_;simp[e,hn]
  have HE1:Hid (nl.length=n):=by show _=_;rw[e,hn]
  have ql:Hid (ns.length=n):=hn.symm
  rw[e,<-hn]
  rw[<-hn] at l2
  clear e hn l1
  generalize znS nl ns=Z at HZ ⊢
  go_enter Tryz.func98,Tryz.ntmps98
  go_wp2_with fail
  go_loopw[15] (fun i wr=>∃k:Nat,k<=n/\i=.int .i64 k/\Hid (∀i y,i<k->(nl.zip ns)[i]?=some y->zLC y=false)/\wr=w) (fun i _=>n-(intOf i).toNat)
  case atStart=>exact⟨0,Nat.zero_le _,rfl,fun i y h=>by omega,rfl⟩
  case round=>
   obtain⟨k,hk,rfl,HN,rfl⟩:=hrel
   by_cases h1:k<n
   ·obtain⟨b,hb⟩:∃b,nl[k]?=some b:=⟨_,zAf (by rw[zA0 HE1];exact h1)⟩
    obtain⟨m,hm⟩:∃m,ns[k]?=some m:=⟨_,zAf (by rw[zA0 ql];exact h1)⟩
    obtain⟨pb,po,rfl,cp⟩:=(zA0 H1).get (k:=k) (x:=.bool b) (by simp[hb])
    obtain⟨qb,qo,rfl,cq⟩:=(zA0 H2).get (k:=k) (x:=.string m) (by simp[hm])
    have HS:=zA3 (zI8 hb hm)
    have i1:(k:Int)<(n:Int):=by omega
    clear hb hm
    cases b
    ·have HP:=zA3 (zGg (zA0 HN) (zA0 HS) (by simp[zLC]))
     go_wp2
     go_roundw
     case rel=>exact⟨k+1,by omega,by go_num,HP,by first|rfl|trivial⟩
     case measure=>simp[intOf];omega
    ·rcases Bool.eq_false_or_eq_true (!m.toList.isEmpty) with em|em
     ·have HE:Hid (Z=false):=by show _=_;rw[zA0 HZ,zRl (zA0 HS) (by simpa [zLC] using em)];rfl
      go_wp2
      go_ret
      exact⟨by rw[zA0 HE];rfl,rfl⟩
     ·have HP:=zA3 (zGg (zA0 HN) (zA0 HS) (by simpa [zLC] using em))
      go_wp2
      go_roundw
      case rel=>exact⟨k+1,by omega,by go_num,HP,by first|rfl|trivial⟩
      case measure=>simp[intOf];omega
   ·have i1:¬(k:Int)<(n:Int):=by omega
    have HE:Hid (Z=true):=by
     show _=_
     have e:k=n:=by omega
     rw[zA0 HZ,zKx (by rw[zA0 qM,<-e];exact zA0 HN)];rfl
    go_wp2
    go_ret
    exact⟨by rw[zA0 HE];rfl,rfl⟩
 ·have HZ:Hid (znS nl ns=false):=by show _=_;simp[znS,e]
  have e':((nl.length:Int) != (ns.length:Int))=true:=by simp;omega
  clear e
  generalize znS nl ns=Z at HZ ⊢
  go_enter Tryz.func98,Tryz.ntmps98
  go_wp2
  go_ret
  exact⟨by rw[zA0 HZ];rfl,rfl⟩
end Go.Proofs.YtekgpapophibcaaGreat
