import Derived.Test.YtekgpapophibcaaGreatSgF
import Derived.Lib.SlBytesConst
import Derived.ArgAppend
import Derived.Test.YtekgpapophibcaaGreatSgB
import Derived.Test.YtekgpapophibcaaGreatVecA
import Derived.OrdersHeld
import Derived.Lib.AppendStr
import Derived.Laws.AppendOwnNone
import Derived.Lib.ConvBytes
set_option linter.unusedSimpArgs false
set_option linter.unusedVariables false
namespace Go.Proofs.YtekgpapophibcaaGreat
open Go.RowKit Go.Sort
def zCY(w:World)(a:Option Addr)(rs:List (List Val)):Prop:=
 rs=[]∨∃b off,a=some ⟨b,off,none⟩/\∀i r,rs[i]?=some r->∃ra rc,w.cell? ⟨b,off+i,none⟩=some (.slice ra r.length rc)/\zAR w ra r
theorem zCY.later{w w':World}{a:Option Addr}{rs:List (List Val)}(h:zCY w a rs)(hb:Below w.heap.size w w'):zCY w' a rs:=by
 rcases h with h|⟨b,off,ha,h⟩
 ·exact .inl h
 ·exact .inr ⟨b,off,ha,fun i r hr=>by obtain⟨ra,rc,h1,h2⟩:=h i r hr;exact⟨ra,rc,cell_later hb h1,h2.later hb⟩⟩
theorem zDT{w:World}{a:Option Addr}{cs:List Value}{k:Nat}{v:Value}(h:zAp w a cs)(hv:cs[k]?=some v):∃b o,a=some ⟨b,o,none⟩/\w.cell? ⟨b,o+k,none⟩=some v:=by
 rcases h with h|⟨b,o,e,h⟩
 ·subst h;simp at hv
 ·exact⟨b,o,e,h k v hv⟩
theorem zIJ{w:World}{a:Option Addr}{xs:List Val}{k:Nat}{x:Val}(h:zAR w a xs)(hv:xs[k]?=some x):∃b o,a=some ⟨b,o,none⟩/\w.cell? ⟨b,o+k*3,none⟩=some (.int .i64 x.k)/\w.cell? ⟨b,o+k*3+1,none⟩=some (.int .i64 x.n)/\w.cell? ⟨b,o+k*3+2,none⟩=some (.string x.s):=by
 rcases h with h|⟨b,o,e,h⟩
 ·subst h;simp at hv
 ·exact⟨b,o,e,h k x hv⟩
theorem zGK{w:World}{a:Option Addr}{rs:List (List Val)}{k:Nat}{r:List Val}(h:zCY w a rs)(hv:rs[k]?=some r):∃b o,a=some ⟨b,o,none⟩/\∃ra rc,w.cell? ⟨b,o+k,none⟩=some (.slice ra r.length rc)/\zAR w ra r:=by
 rcases h with h|⟨b,o,e,h⟩
 ·subst h;simp at hv
 ·exact⟨b,o,e,h k r hv⟩
set_option maxHeartbeats 1000000
set_option maxRecDepth 100000
theorem zH3(zAB:List Int)(ak:Option Addr)(ck:Nat)(w:World)(hl:zAB.length<=140737488355328)(GC:zAp w ak (zAB.map (Value.int .i64))) :
  Calls Tryz.prog 30 #[.slice ak zAB.length ck] w fun e w'=>e=.returned (.bool (decide (1<=zAB.length) && decide (zAB.length<=32) && !zAB.any zKy))/\w'=w:=by
 by_cases h1:zAB.length<1
 ·have i1:(zAB.length:Int)<1:=by omega
  have hr:(decide (1<=zAB.length) && decide (zAB.length<=32) && !zAB.any zKy)=false:=by simp;omega
  rw[hr]
  clear hr
  go_enter Tryz.func30,Tryz.ntmps30
  go_wp2
  go_ret
  exact⟨rfl,rfl⟩
 ·have i1:¬(zAB.length:Int)<1:=by omega
  by_cases h2:32<zAB.length
  ·have i2:(32:Int)<(zAB.length:Int):=by omega
   have hr:(decide (1<=zAB.length) && decide (zAB.length<=32) && !zAB.any zKy)=false:=by simp;omega
   rw[hr]
   clear hr
   go_enter Tryz.func30,Tryz.ntmps30
   go_wp2
   go_ret
   exact⟨rfl,rfl⟩
  ·have i2:¬(32:Int)<(zAB.length:Int):=by omega
   have hr:(decide (1<=zAB.length) && decide (zAB.length<=32) && !zAB.any zKy)=!zAB.any zKy:=by
    rw[decide_eq_true (by omega),decide_eq_true (by omega)];rfl
   rw[hr]
   have yq:=zA3 GC
   clear hr GC
   obtain⟨R,hR⟩:∃R,(!zAB.any zKy)=R:=⟨_,rfl⟩
   rw[hR]
   have HR:=zA3 hR
   clear hR
   go_enter Tryz.func30,Tryz.ntmps30
   go_wp2
   go_loopw[15] (fun s wr=>∃k:Nat,k<=zAB.length/\s=.int .i64 (k:Int)/\Hid (∀i x,i<k->zAB[i]?=some x->zKy x=false)/\wr=w) (fun s _=>zAB.length-(intOf s).toNat)
   case atStart=>exact⟨0,Nat.zero_le _,rfl,fun i x hi=>absurd hi (by omega),rfl⟩
   case round=>
    obtain⟨k,hk,rfl,HN,rfl⟩:=hrel
    by_cases h3:k<zAB.length
    ·have i3:(k:Int)<(zAB.length:Int):=by omega
     obtain⟨kd,YG⟩:∃kd,zAB[k]?=some kd:=⟨_,zAf h3⟩
     obtain⟨vb,vo,rfl,q0⟩:=zDT (zA0 yq) (show (zAB.map (Value.int .i64))[k]?=some (.int .i64 kd) by simp[YG])
     cases hp:zKy kd
     ·have HE:Hid (∀i y,i<k+1->zAB[i]?=some y->zKy y=false):=fun i y hi hy=>by
       by_cases e:i=k
       ·subst e;rw[YG] at hy;injection hy with hy;rw[<-hy];exact hp
       ·exact zA0 HN i y (by omega) hy
      unfold zKy at hp
      clear HN YG
      cases yH:(kd != 1)
      ·go_wp2
       exact⟨⟨k+1,by omega,by go_num,HE,trivial⟩,by simp[intOf];omega⟩
      ·rw[yH] at hp
       have qu:(kd != 2)=false:=by simpa using hp
       clear hp
       go_wp2
       exact⟨⟨k+1,by omega,by go_num,HE,trivial⟩,by simp[intOf];omega⟩
     ·have HE:Hid (R=false):=by
       show _=_
       rw[<-zA0 HR,List.any_eq_true.2 ⟨kd,List.mem_of_getElem? YG,hp⟩]
       rfl
      unfold zKy at hp
      rw[Bool.and_eq_true] at hp
      obtain⟨yH,qu⟩:=hp
      clear HN YG
      go_wp2
      go_ret
      exact⟨by rw[zA0 HE];rfl,rfl⟩
    ·have i3:¬(k:Int)<(zAB.length:Int):=by omega
     have HE:Hid (R=true):=by
      show _=_
      rw[<-zA0 HR,List.any_eq_false.2 fun x hx=>by
       obtain⟨i,hi,e⟩:=List.mem_iff_getElem.1 hx
       rw[zA0 HN i x (by omega) (by rw[zAf hi,e])]
       simp]
      rfl
     clear HN
     go_wp2
     go_ret
     exact⟨by rw[zA0 HE];rfl,rfl⟩
def c4(c:Vc×Sl):List Value:=[.int .i64 c.1.k,.slice c.2.a1 c.1.nl.length c.2.c1,.slice c.2.a2 c.1.ns.length c.2.c2,.slice c.2.a3 c.1.ss.length c.2.c3]
structure zNZ(w0 w:World)(v:Value)(Cs:List (Vc×Sl)):Prop where
 own:w.ownsRow w0.heap.size 49 4 v Cs.length (Cs.flatMap c4)
 saf:∀c∈Cs,∀w',w.grownBy w' v.ownBlock->zAi w' c.1 c.2
 bel:Below w0.heap.size w0 w
theorem zNZ.nil(w:World):zNZ w w (.slice none 0 0) []:=⟨World.ownsRow_nil _ _ _ _,fun c hc=>by simp at hc,Below.refl _ _⟩
theorem zCg{w w' w2:World}{row:Option Nat}(hb:Below w.heap.size w w')(hg:w'.grownBy w2 row):w.grownBy w2 row:=
 ⟨hg.os.trans hb.os,hg.tape.trans hb.tape,hg.output.trans hb.output,Nat.le_trans hb.size hg.size,fun i hi Hg=>(hg.block i (Nat.lt_of_lt_of_le hi hb.size) Hg).trans (hb.block i hi)⟩
theorem zNZ.later{w0 w w':World}{v:Value}{Cs:List (Vc×Sl)}(h:zNZ w0 w v Cs)(hb:Below w.heap.size w w'):zNZ w0 w' v Cs:=
 ⟨zAc h.own hb,fun c hc w2 hg=>h.saf c hc w2 (zCg hb hg),zA2 h.bel hb⟩
theorem zO1{w w':World}{X:Vc}{p:Sl}{g n:Nat}(h:zAi w X p)(hf:zBb n p)(hg:g<n){row:Option Nat}(hr:∀b,row=some b->b=g)(Hy:w.grownBy w' row):zAi w' X p:=by
 have key:∀(a:Option Addr) (cs:List Value),(∀ad,a=some ad->n<=ad.block)->zAp w a cs->zAp w' a cs:=fun a cs ha hl=>by
  rcases hl with e|⟨b,off,e,hl⟩
  ·exact .inl e
  ·refine .inr ⟨b,off,e,fun i x hx=>?_⟩
   have hc:=hl i x hx
   have He:b<w.heap.size:=World.block_lt_of_cell? _ _ hc
   have hb:=ha _ e
   rw[<-hc]
   exact World.cell?_of_block (a:=⟨b,off+i,none⟩) (Hy.block b He (fun e'=>by have:=hr b e'.symm;simp at hb;omega))
 exact⟨key _ _ hf.1 h.1,key _ _ hf.2.1 h.2.1,key _ _ hf.2.2 h.2.2⟩
theorem zIg:∀{Cs:List (Vc×Sl)} {i:Nat} {c:Vc×Sl} {j:Nat},Cs[i]?=some c->j<4->(Cs.flatMap c4)[i*4+j]?=(c4 c)[j]?
 | [],_,_,_,h,_=>by simp at h
 | d::Cs,0,c,j,h,hj=>by
  simp at h
  subst h
  rw[List.flatMap_cons,List.getElem?_append_left (by simp[c4];omega)]
  simp
 | d::Cs,i+1,c,j,h,hj=>by
  rw[List.flatMap_cons,List.getElem?_append_right (by simp[c4];omega)]
  have e:(i+1)*4+j-(c4 d).length=i*4+j:=by simp[c4];omega
  rw[e]
  exact zIg (by simpa using h) hj
theorem zNZ.cols{w0 w:World}{v:Value}{Cs:List (Vc×Sl)}(h:zNZ w0 w v Cs):∃a c,v=.slice a Cs.length c/\zBq w a Cs:=by
 have hv:∀c∈Cs,zAi w c.1 c.2:=fun c hc=>h.saf c hc w ⟨rfl,rfl,rfl,Nat.le_refl _,fun _ _ _=>rfl⟩
 rcases h.own.2 with ⟨rfl,h0⟩|⟨g,cap,cur,rfl,hb,hg,_⟩
 ·have e:Cs=[]:=List.eq_nil_of_length_eq_zero h0
  subst e
  exact⟨none,0,rfl,.inl rfl,hv⟩
 ·refine⟨some ⟨g,0,none⟩,cap,rfl,.inr ⟨g,0,rfl,fun i c hc=>?_⟩,hv⟩
  have Qc:=World.ownsRow.cells h.own (g:=g) rfl
  have Hm:∀j,j<4->(Cs.flatMap c4)[i*4+j]?=(c4 c)[j]?:=fun j hj=>zIg hc hj
  have ZE:∀k,(⟨g,0,none⟩:Addr).add k=⟨g,k,none⟩:=fun k=>by unfold Addr.add;split<;>simp_all
  have h0:=Qc (i*4+0) _ (Hm 0 (by omega))
  have h1:=Qc (i*4+1) _ (Hm 1 (by omega))
  have h2:=Qc (i*4+2) _ (Hm 2 (by omega))
  have h3:=Qc (i*4+3) _ (Hm 3 (by omega))
  rw[ZE] at h0 h1 h2 h3
  rw[Nat.zero_add]
  exact⟨h0,h1,h2,h3⟩
theorem Tryz.info49':(Tryz.prog.info? 49).map (fun i=>(i.zero,i.size,i.bytes))=some (some (.agg #[.int .i64 0,.slice none 0 0,.slice none 0 0,.slice none 0 0]),4,80):=by kernel_rfl
def colX(zAB:List Int)(rs:List (List Val))(i:Nat):Vc×Int:=zBU (zAB.getD i 0) (zGR rs i)
structure PsX(K:Vc->ByteArray->Prop)(zf:Vc->ByteArray)(n:Nat)(X:Nat->Vc)(ps:List (ByteArray×ByteArray)):Prop where
 len:ps.length=n
 at_:∀(i:Nat) (p:ByteArray×ByteArray),ps[i]?=some p->p.1=zf (X i)/\K (X i) p.2
 z:∀p∈ps,p.1.size<=10000
 s:∀p∈ps,p.2.size<=100000000
theorem Ps.toX{K:Vc->ByteArray->Prop}{zf:Vc->ByteArray}{Cs:List (Vc×Sl)}{ps:List (ByteArray×ByteArray)}(h:Ps K zf Cs ps){X:Nat->Vc}(hX:∀(i:Nat) (c:Vc×Sl),Cs[i]?=some c->c.1=X i):PsX K zf Cs.length X ps:=by
 refine⟨h.len,fun i p hp=>?_,h.z,h.s⟩
 have hi:i<Cs.length:=by rw[<-h.len];exact(zAL hp).1
 have hc:=zAf hi
 have:=h.at_ i _ p hc hp
 rwa [hX i _ hc] at this
end Go.Proofs.YtekgpapophibcaaGreat
