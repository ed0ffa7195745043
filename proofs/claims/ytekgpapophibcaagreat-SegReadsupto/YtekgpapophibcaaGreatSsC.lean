import Derived.Test.YtekgpapophibcaaGreatSrP
import Derived.Test.YtekgpapophibcaaGreatSrQ
import Derived.Test.YtekgpapophibcaaGreatSrX
set_option linter.unusedSimpArgs false
set_option linter.unusedVariables false
namespace Go.Proofs.YtekgpapophibcaaGreat
open Go.RowKit Go.Sort
def zKA(wr:World)(lv hv nv:Value)(T t n:Nat)(F:Nat->Value):Prop:=wr.rowIs T t n F/\some T≠lv.ownBlock/\some T≠hv.ownBlock/\some T≠nv.ownBlock
structure HU(w wr:World)(H:Nat)(F:Nat->Value)(lv hv nv:Value)(L G:List Val)(N:List Int)(x y:Val)(m:Int)(B1 B2:Nat)(o3 o8 o13:Option Nat):Prop where
 h:wr.rowIs H 39 4 F
 l:zAV wr w.heap.size lv L
 g:zAV wr w.heap.size hv G
 n:wr.ownsRow w.heap.size 3 1 nv N.length (N.map (Value.int .i64))
 hl:apart hv lv
 b1:zKA wr lv hv nv B1 59 3 (zDU x)
 b2:zKA wr lv hv nv B2 59 3 (zDU y)
 t3:∀T,o3=some T->zKA wr lv hv nv T 59 3 (zDU x)
 t8:∀T,o8=some T->zKA wr lv hv nv T 59 3 (zDU y)
 t13:∀T,o13=some T->zKA wr lv hv nv T 3 1 (fun _=>.int .i64 m)
 kp:Gr w wr H
structure HV(w wr:World)(H:Nat)(r:Int)(lv hv nv:Value)(L G:List Val)(N:List Int):Prop where
 h:wr.rowIs H 39 4 (hd4 r lv hv nv)
 l:zAV wr w.heap.size lv L
 g:zAV wr w.heap.size hv G
 n:wr.ownsRow w.heap.size 3 1 nv N.length (N.map (Value.int .i64))
 hl:apart hv lv
 kp:Gr w wr H
theorem HV.later{w wr wx:World}{H:Nat}{r:Int}{lv hv nv:Value}{L G:List Val}{N:List Int}(h:HV w wr H r lv hv nv L G N)(hb:Below wr.heap.size wr wx):HV w wx H r lv hv nv L G N:=
 ⟨zA5 h.h hb,h.l.later hb,h.g.later hb,zAc h.n hb,h.hl,h.kp.trans (Gr.of_below hb H)⟩
theorem zIe{w wr wx:World}{H:Nat}{row:Option Nat}(h:Gr w wr H)(hg:wr.grownBy wx row)(hr:∀g,row=some g->w.heap.size<=g):Gr w wx H:=
 ⟨hg.os.trans h.os,hg.tape.trans h.tape,hg.output.trans h.output,Nat.le_trans h.size hg.size,fun i hi Hg=>by rw[hg.block i (Nat.lt_of_lt_of_le hi h.size) (fun e=>by have:=hr i e.symm;omega),h.block i hi Hg]⟩
section
variable {w wr wx:World}{H B1 B2:Nat}{F:Nat->Value}{lv hv nv v':Value}{L G:List Val}{N:List Int}{x y:Val}{m:Int}{o3 o8 o13:Option Nat}
theorem zKA.later{T t n:Nat}{F:Nat->Value}(h:zKA wr lv hv nv T t n F)(hb:Below wr.heap.size wr wx):zKA wx lv hv nv T t n F:=⟨zA5 h.1 hb,h.2⟩
theorem HU.later(h:HU w wr H F lv hv nv L G N x y m B1 B2 o3 o8 o13)(hb:Below wr.heap.size wr wx):HU w wx H F lv hv nv L G N x y m B1 B2 o3 o8 o13:=
 ⟨zA5 h.h hb,h.l.later hb,h.g.later hb,zAc h.n hb,h.hl,h.b1.later hb,h.b2.later hb,fun T e=>(h.t3 T e).later hb,fun T e=>(h.t8 T e).later hb,fun T e=>(h.t13 T e).later hb,h.kp.trans (Gr.of_below hb H)⟩
theorem HU.new{o:Obj}{t n:Nat}{F':Nat->Value}(h:HU w wr H F lv hv nv L G N x y m B1 B2 o3 o8 o13)(hr:(wr.alloc o).rowIs wr.heap.size t n F'):zKA (wr.alloc o) lv hv nv wr.heap.size t n F':=
 ⟨hr,fun e=>by have:=(World.ownsRow.lt h.l _ e.symm).2;omega,fun e=>by have:=(World.ownsRow.lt h.g _ e.symm).2;omega,fun e=>by have:=(World.ownsRow.lt h.n _ e.symm).2;omega⟩
theorem HU.new3(h:HU w wr H F lv hv nv L G N x y m B1 B2 o3 o8 o13):HU w (wr.alloc (.cells #[.int .i64 x.k,.int .i64 x.n,.string x.s] 59)) H F lv hv nv L G N x y m B1 B2 (some wr.heap.size) o8 o13:=by
 have h2:=h.later (zA1 (Below.refl _ wr) (.cells #[.int .i64 x.k,.int .i64 x.n,.string x.s] 59))
 exact { h2 with t3:=fun T e=>by injection e with e;subst e;exact h.new (zAs wr x) }
theorem HU.new8(h:HU w wr H F lv hv nv L G N x y m B1 B2 o3 o8 o13):HU w (wr.alloc (.cells #[.int .i64 y.k,.int .i64 y.n,.string y.s] 59)) H F lv hv nv L G N x y m B1 B2 o3 (some wr.heap.size) o13:=by
 have h2:=h.later (zA1 (Below.refl _ wr) (.cells #[.int .i64 y.k,.int .i64 y.n,.string y.s] 59))
 exact { h2 with t8:=fun T e=>by injection e with e;subst e;exact h.new (zAs wr y) }
theorem HU.new13(h:HU w wr H F lv hv nv L G N x y m B1 B2 o3 o8 o13):HU w (wr.alloc (.cells #[.int .i64 m] 3)) H F lv hv nv L G N x y m B1 B2 o3 o8 (some wr.heap.size):=by
 have h2:=h.later (zA1 (Below.refl _ wr) (.cells #[.int .i64 m] 3))
 have key:zKA (wr.alloc (.cells #[.int .i64 m] 3)) lv hv nv wr.heap.size 3 1 (fun _=>.int .i64 m):=h.new (World.rowIs_alloc wr #[.int .i64 m] 3 (fun _=>.int .i64 m) (fun i hi=>by
  match i,hi with
  | 0,_=>rfl
  | i+1,hi=>simp at hi))
 exact { h2 with t13:=fun T e=>by injection e with e;subst e;exact key }
theorem zFH{T t n:Nat}{F:Nat->Value}(h:zKA wr lv hv nv T t n F)(hg:wr.grownBy wx lv.ownBlock)(Hm:v'.ownBlock=lv.ownBlock∨v'.ownBlock=some wr.heap.size):zKA wx v' hv nv T t n F:=by
 refine⟨zAF h.1 hg h.2.1,?_,h.2.2⟩
 rcases Hm with e|e
 ·rw[e];exact h.2.1
 ·rw[e];intro e2;injection e2 with e2;have:=h.1.lt;omega
theorem zEF{T t n:Nat}{F:Nat->Value}(h:zKA wr lv hv nv T t n F)(hg:wr.grownBy wx hv.ownBlock)(Hm:v'.ownBlock=hv.ownBlock∨v'.ownBlock=some wr.heap.size):zKA wx lv v' nv T t n F:=by
 refine⟨zAF h.1 hg h.2.2.1,h.2.1,?_,h.2.2.2⟩
 rcases Hm with e|e
 ·rw[e];exact h.2.2.1
 ·rw[e];intro e2;injection e2 with e2;have:=h.1.lt;omega
theorem zFG{T t n:Nat}{F:Nat->Value}(h:zKA wr lv hv nv T t n F)(hg:wr.grownBy wx nv.ownBlock)(Hm:v'.ownBlock=nv.ownBlock∨v'.ownBlock=some wr.heap.size):zKA wx lv hv v' T t n F:=by
 refine⟨zAF h.1 hg h.2.2.2,h.2.1,h.2.2.1,?_⟩
 rcases Hm with e|e
 ·rw[e];exact h.2.2.2
 ·rw[e];intro e2;injection e2 with e2;have:=h.1.lt;omega
theorem zI2{u z z':Value}{base e size n:Nat}{xs:List Value}(hu:wr.ownsRow base e size u n xs)(ha:apart u z)(Hm:z'.ownBlock=z.ownBlock∨z'.ownBlock=some wr.heap.size):apart u z':=by
 rcases ha with h|h
 ·exact .inl h
 ·cases hq:u.ownBlock with
  | none=>exact .inl hq
  | some g=>
   refine .inr fun e=>?_
   rcases Hm with h1|h1
   ·exact h (by rw[hq,<-h1,<-e,hq])
   ·rw[h1,hq] at e
    injection e with e
    have:=(World.ownsRow.lt hu g hq).2
    omega
theorem HU.low{z:Val}(h:HU w wr H F lv hv nv L G N x y m B1 B2 o3 o8 o13)(ho:wx.ownsRow w.heap.size 59 3 v' (L.length+1) (L.flatMap c3++c3 z))(hg:wr.grownBy wx lv.ownBlock)(Hm:v'.ownBlock=lv.ownBlock∨v'.ownBlock=some wr.heap.size) :
  HU w wx H F v' hv nv (L++[z]) G N x y m B1 B2 o3 o8 o13:=
 ⟨zAF h.h hg (zBL h.h h.l (by decide)),zB9 ho,World.ownsRow.kept h.g hg h.hl,World.ownsRow.kept h.n hg (zCL h.n h.l (by decide)),zI2 h.g h.hl Hm,zFH h.b1 hg Hm,zFH h.b2 hg Hm,fun T e=>zFH (h.t3 T e) hg Hm,fun T e=>zFH (h.t8 T e) hg Hm,fun T e=>zFH (h.t13 T e) hg Hm,zIe h.kp hg (fun g e=>(World.ownsRow.lt h.l g e).1)⟩
theorem HU.high{z:Val}(h:HU w wr H F lv hv nv L G N x y m B1 B2 o3 o8 o13)(ho:wx.ownsRow w.heap.size 59 3 v' (G.length+1) (G.flatMap c3++c3 z))(hg:wr.grownBy wx hv.ownBlock)(Hm:v'.ownBlock=hv.ownBlock∨v'.ownBlock=some wr.heap.size) :
  HU w wx H F lv v' nv L (G++[z]) N x y m B1 B2 o3 o8 o13:=
 ⟨zAF h.h hg (zBL h.h h.g (by decide)),World.ownsRow.kept h.l hg (zER h.hl),zB9 ho,World.ownsRow.kept h.n hg (zCL h.n h.g (by decide)),zER (zI2 h.l (zER h.hl) Hm),zEF h.b1 hg Hm,zEF h.b2 hg Hm,fun T e=>zEF (h.t3 T e) hg Hm,fun T e=>zEF (h.t8 T e) hg Hm,fun T e=>zEF (h.t13 T e) hg Hm,zIe h.kp hg (fun g e=>(World.ownsRow.lt h.g g e).1)⟩
theorem HU.nul{z:Int}(h:HU w wr H F lv hv nv L G N x y m B1 B2 o3 o8 o13)(ho:wx.ownsRow w.heap.size 3 1 v' (N.length+1) (N.map (Value.int .i64)++[.int .i64 z]))(hg:wr.grownBy wx nv.ownBlock)(Hm:v'.ownBlock=nv.ownBlock∨v'.ownBlock=some wr.heap.size) :
  HU w wx H F lv hv v' L G (N++[z]) x y m B1 B2 o3 o8 o13:=
 ⟨zAF h.h hg (zBL h.h h.n (by decide)),World.ownsRow.kept h.l hg (zCL h.l h.n (by decide)),World.ownsRow.kept h.g hg (zCL h.g h.n (by decide)),by simpa using ho,h.hl,zFG h.b1 hg Hm,zFG h.b2 hg Hm,fun T e=>zFG (h.t3 T e) hg Hm,fun T e=>zFG (h.t8 T e) hg Hm,fun T e=>zFG (h.t13 T e) hg Hm,zIe h.kp hg (fun g e=>(World.ownsRow.lt h.n g e).1)⟩
def SH(H B1 B2:Nat)(a b c:Value)(x y:Val)(w':World):Prop:=
 (w'.cell? ⟨H,1,none⟩=some a/\w'.cell? ⟨H,2,none⟩=some b/\w'.cell? ⟨H,3,none⟩=some c)/\(w'.cell? ⟨B1,0,none⟩=some (.int .i64 x.k)/\w'.cell? ⟨B1,1,none⟩=some (.int .i64 x.n)/\w'.cell? ⟨B1,2,none⟩=some (.string x.s))/\(w'.cell? ⟨B2,0,none⟩=some (.int .i64 y.k)/\w'.cell? ⟨B2,1,none⟩=some (.int .i64 y.n)/\w'.cell? ⟨B2,2,none⟩=some (.string y.s))
theorem HU.sh{r:Int}{a b c:Value}(h:HU w wr H (hd4 r a b c) lv hv nv L G N x y m B1 B2 o3 o8 o13):SH H B1 B2 a b c x y wr:=
 ⟨⟨h.h.cell (i:=1) (by omega),h.h.cell (i:=2) (by omega),h.h.cell (i:=3) (by omega)⟩,⟨h.b1.1.cell (i:=0) (by omega),h.b1.1.cell (i:=1) (by omega),h.b1.1.cell (i:=2) (by omega)⟩,⟨h.b2.1.cell (i:=0) (by omega),h.b2.1.cell (i:=1) (by omega),h.b2.1.cell (i:=2) (by omega)⟩⟩
theorem zUC{W:World}{T:Nat}{z:Val}(h:W.rowIs T 59 3 (zDU z)):∀j u,(c3 z)[j]?=some u->W.cell? ((⟨T,0,none⟩:Addr).add j)=some u:=by
 intro j u hu
 have ZE:(⟨T,0,none⟩:Addr).add j=⟨T,j,none⟩:=by unfold Addr.add;split<;>simp_all
 rw[ZE]
 match j,hu with
 | 0,hu=>simp[c3] at hu;subst hu;exact h.cell (i:=0) (by omega)
 | 1,hu=>simp[c3] at hu;subst hu;exact h.cell (i:=1) (by omega)
 | 2,hu=>simp[c3] at hu;subst hu;exact h.cell (i:=2) (by omega)
 | j+3,hu=>simp[c3] at hu
theorem zUn{W:World}{T:Nat}{u0:Value}(h:W.rowIs T 3 1 (fun _=>u0)):∀j u,[u0][j]?=some u->W.cell? ((⟨T,0,none⟩:Addr).add j)=some u:=by
 intro j u hu
 have ZE:(⟨T,0,none⟩:Addr).add j=⟨T,j,none⟩:=by unfold Addr.add;split<;>simp_all
 rw[ZE]
 match j,hu with
 | 0,hu=>simp at hu;subst hu;exact h.cell (i:=0) (by omega)
 | j+1,hu=>simp at hu
theorem HU.done{r:Int}{a b c:Value}(h:HU w wr H (hd4 r a b c) lv hv nv L G N x y m B1 B2 o3 o8 o13):HV w (((wr.setCell ⟨H,1,none⟩ lv).setCell ⟨H,2,none⟩ hv).setCell ⟨H,3,none⟩ nv) H r lv hv nv L G N:=by
 have k1:=h.h.set 1 lv
 have k2:=k1.set 2 hv
 have kk:∀{base e size n:Nat} {v:Value} {xs:List Value},wr.ownsRow base e size v n xs->(39:Nat)≠e->(((wr.setCell ⟨H,1,none⟩ lv).setCell ⟨H,2,none⟩ hv).setCell ⟨H,3,none⟩ nv).ownsRow base e size v n xs:=fun ho Hg=>zAw (zAw (zAw ho h.h Hg) k1 Hg) k2 Hg
 refine⟨World.rowIs.congr (k2.set 3 nv) (fun i hi=>by match i,hi with|0,_=>rfl|1,_=>rfl|2,_=>rfl|3,_=>rfl),kk h.l (by decide),kk h.g (by decide),kk h.n (by decide),h.hl,((h.kp.trans (zAY _ H 1 _)).trans (zAY _ H 2 _)).trans (zAY _ H 3 _)⟩
theorem HV.unit{r:Int}(h:HV w wr H r lv hv nv L G N)(x y:Val)(m:Int):HU w ((wr.alloc (.cells #[.int .i64 x.k,.int .i64 x.n,.string x.s] 59)).alloc (.cells #[.int .i64 y.k,.int .i64 y.n,.string y.s] 59)) H (hd4 r lv hv nv) lv hv nv L G N x y m wr.heap.size (wr.heap.size+1) none none none:=by
 have hb:=zA1 (zA1 (Below.refl _ wr) (.cells #[.int .i64 x.k,.int .i64 x.n,.string x.s] 59)) (.cells #[.int .i64 y.k,.int .i64 y.n,.string y.s] 59)
 have key:∀{T t n:Nat} {F:Nat->Value},wr.heap.size<=T->((wr.alloc (.cells #[.int .i64 x.k,.int .i64 x.n,.string x.s] 59)).alloc (.cells #[.int .i64 y.k,.int .i64 y.n,.string y.s] 59)).rowIs T t n F->zKA ((wr.alloc (.cells #[.int .i64 x.k,.int .i64 x.n,.string x.s] 59)).alloc (.cells #[.int .i64 y.k,.int .i64 y.n,.string y.s] 59)) lv hv nv T t n F:=fun hT hr=>
  ⟨hr,fun e=>by have:=(World.ownsRow.lt h.l _ e.symm).2;omega,fun e=>by have:=(World.ownsRow.lt h.g _ e.symm).2;omega,fun e=>by have:=(World.ownsRow.lt h.n _ e.symm).2;omega⟩
 have r2:=zAs (wr.alloc (.cells #[.int .i64 x.k,.int .i64 x.n,.string x.s] 59)) y
 rw[show (wr.alloc (.cells #[.int .i64 x.k,.int .i64 x.n,.string x.s] 59)).heap.size=wr.heap.size+1 by simp] at r2
 exact⟨zA5 h.h hb,h.l.later hb,h.g.later hb,zAc h.n hb,h.hl,key (Nat.le_refl _) ((zAs wr x).alloc _),key (Nat.le_succ _) r2,fun T e=>(by cases e),fun T e=>(by cases e),fun T e=>(by cases e),h.kp.trans (Gr.of_below hb H)⟩
end
set_option maxHeartbeats 4000000
set_option maxRecDepth 100000
theorem zDu(n:Int)(w:World):Calls Tryz.prog 7 #[.int .i64 n] w fun e w'=>e=.returned (.int .i64 n)/\w'=w:=by
 go_enter Tryz.func7,Tryz.ntmps7
 go_wp2
 exact bodyPost_ret (v:=.int .i64 n) (by simp[results,Tryz.results7,go_sem]) rfl ⟨rfl,rfl⟩
def AtQ(w w':World)(rs:List (List Val))(k:Nat)(e:Ending):Prop:=∃a' c',e=.returned (.slice a' rs.length c')/\zAR w' a' (zGR rs k)/\Below w.heap.size w w'
theorem zPi(a:Option Addr)(c k:Nat)(rs:List (List Val))(w:World)(hr:rs.length<=4096)(hk:k<=4096)(qw:∀r∈rs,k<r.length)(ha:zCY w a rs) :
  Calls Tryz.prog 18 #[.slice a rs.length c,.int .i64 (k:Int)] w fun e w'=>AtQ w w' rs k e:=by
 obtain⟨i4,Qd,z40,z41,z42⟩:=info_parts Tryz.info59
 have HAR:=zA3 ha
 have KH:=zA3 qw
 have qg:Hid ((zGR rs k).length=rs.length):=by show _=_;simp[zGR]
 clear ha qw
 go_enter Tryz.func18,Tryz.ntmps18
 go_wp2
 go_loopw[5,10] (fun l s wr=>∃j:Nat,j<=rs.length/\s=.int .i64 (j:Int)/\zAV wr w.heap.size l ((zGR rs k).take j)/\Below w.heap.size w wr) (fun _ s _=>rs.length-(intOf s).toNat)
 case atStart=>exact⟨0,Nat.zero_le _,rfl,World.ownsRow_nil _ _ _ _,Below.refl _ _⟩
 case round=>
  obtain⟨j,hj,rfl,ho,hb⟩:=hrel
  by_cases h8:j<rs.length
  ·have i8:(j:Int)<(rs.length:Int):=by omega
   obtain⟨r,hx⟩:∃r,rs[j]?=some r:=⟨_,zAf h8⟩
   obtain⟨rb,ro,rfl,ra,rc,c0,QB⟩:=zGK ((zA0 HAR).later hb) hx
   have DR:k<r.length:=zA0 KH r (List.mem_of_getElem? hx)
   obtain⟨x,JQ⟩:∃x,r[k]?=some x:=⟨_,zAf DR⟩
   obtain⟨rb2,ro2,rfl,d0,d1,d2⟩:=zIJ QB JQ
   have i2:(k:Int)<(r.length:Int):=by omega
   have HXX:=zA3 (take_one (zQ9 hx JQ))
   have Hf:((zGR rs k).take j).length=j:=by rw[List.length_take,zA0 qg];omega
   have Qg:=zA3 Hf
   have HO:=zA3 ho
   have HB:=zA3 hb
   clear hx JQ QB Hf ho hb
   go_wp2_with (at_builtin;refine wpList_append_own_at _ rfl (.tmp 14) (.tmp 19) 37 rfl w.heap.size 59 i4 (.agg #[.int .i64 0,.int .i64 0,.string ⟨#[]⟩]) 3 32 Tryz.underlying37 Qd z40 z41 z42 rfl (by decide) _ _ _ rfl (World.ownsRow.alloc (zA0 HO) _) ⟨wr.heap.size,0,none⟩ 1 1 (c3 x) rfl rfl (zAy wr x) (zBY _) (by rw[zA0 Qg];unfold maxLen;omega) (by rw[zA0 Qg];omega) (by have:=(zA0 HB).size;simp;omega) ?_;intro v1 w3 Hc Ha _ Hl;have Ya:=zB9 Hc;have Hy:(wr.alloc (.cells #[.int .i64 x.k,.int .i64 x.n,.string x.s] 59)).grownBy w3 u5.ownBlock:=Ha;clear Hc Ha Hl)
   exact⟨⟨j+1,by omega,by go_num,zCf Ya (zA0 HXX).symm,zCT (zA0 HB) (zA0 HO) (Nat.le_refl _) Hy⟩,by simp[intOf];omega⟩
  ·have i8:¬(j:Int)<(rs.length:Int):=by omega
   have Jx:(zGR rs k).take j=zGR rs k:=List.take_of_length_le (by rw[zA0 qg];omega)
   rw[Jx] at ho
   obtain⟨a',c',rfl,QB⟩:=zBy ho
   rw[zA0 qg]
   clear Jx ho
   go_wp2
   exact bodyPost_ret (v:=.slice a' rs.length c') (by simp[results,Tryz.results18,go_sem]) rfl ⟨a',c',rfl,QB,hb⟩
theorem zFB(rows:Int)(a1 a2 a3 b1 b2 b3:Option Addr)(c1 c2 c3 d1 d2 d3:Nat)(L G:List Val)(N:List Int)(w:World)(hL:L.length<=1000000)(hG:G.length<=1000000)(hN:N.length<=1000000)
  (p1:zAR w a1 L) (p2:zAR w a2 G) (p3:zAp w a3 (N.map (Value.int .i64))) (q1:zAR w b1 L) (q2:zAR w b2 G) (q3:zAp w b3 (N.map (Value.int .i64))) :
  Calls Tryz.prog 15 #[.agg #[.int .i64 rows,.slice a1 L.length c1,.slice a2 G.length c2,.slice a3 N.length c3],.agg #[.int .i64 rows,.slice b1 L.length d1,.slice b2 G.length d2,.slice b3 N.length d3]] w fun e w'=>e=.returned (.bool true)/\Below w.heap.size w w':=by
 have H1:Hid (∀W,Below w.heap.size w W->Calls Tryz.prog 45 #[.slice a1 L.length c1,.slice b1 L.length d1] W fun e w'=>e=.returned (.bool true)/\Below W.heap.size W w'):=fun W hW=>zE8 a1 b1 c1 d1 L W (by unfold maxLen;omega) (p1.later hW) (q1.later hW)
 have H2:Hid (∀W,Below w.heap.size w W->Calls Tryz.prog 45 #[.slice a2 G.length c2,.slice b2 G.length d2] W fun e w'=>e=.returned (.bool true)/\Below W.heap.size W w'):=fun W hW=>zE8 a2 b2 c2 d2 G W (by unfold maxLen;omega) (p2.later hW) (q2.later hW)
 have H3:Hid (∀W,Below w.heap.size w W->Calls Tryz.prog 11 #[.slice a3 N.length c3,.slice b3 N.length d3] W fun e w'=>e=.returned (.bool true)/\Below W.heap.size W w'):=fun W hW=>zDm a3 b3 c3 d3 N W (by unfold maxLen;omega) (p3.later hW) (q3.later hW)
 obtain⟨nl,Yf⟩:∃n,L.length=n:=⟨_,rfl⟩
 obtain⟨ng,hng⟩:∃n,G.length=n:=⟨_,rfl⟩
 obtain⟨nn,Yb⟩:∃n,N.length=n:=⟨_,rfl⟩
 rw[Yf] at H1 ⊢
 rw[hng] at H2 ⊢
 rw[Yb] at H3 ⊢
 have r0:=zCF w rows (.slice a1 nl c1) (.slice a2 ng c2) (.slice a3 nn c3)
 have r1:=zCF (w.alloc (.cells #[.int .i64 rows,.slice a1 nl c1,.slice a2 ng c2,.slice a3 nn c3] 39)) rows (.slice b1 nl d1) (.slice b2 ng d2) (.slice b3 nn d3)
 rw[show (w.alloc (.cells #[.int .i64 rows,.slice a1 nl c1,.slice a2 ng c2,.slice a3 nn c3] 39)).heap.size=w.heap.size+1 by simp] at r1
 have HR:Hid (∀W,Below ((w.alloc (.cells #[.int .i64 rows,.slice a1 nl c1,.slice a2 ng c2,.slice a3 nn c3] 39)).alloc (.cells #[.int .i64 rows,.slice b1 nl d1,.slice b2 ng d2,.slice b3 nn d3] 39)).heap.size ((w.alloc (.cells #[.int .i64 rows,.slice a1 nl c1,.slice a2 ng c2,.slice a3 nn c3] 39)).alloc (.cells #[.int .i64 rows,.slice b1 nl d1,.slice b2 ng d2,.slice b3 nn d3] 39)) W->W.rowIs w.heap.size 39 4 (hd4 rows (.slice a1 nl c1) (.slice a2 ng c2) (.slice a3 nn c3))/\W.rowIs (w.heap.size+1) 39 4 (hd4 rows (.slice b1 nl d1) (.slice b2 ng d2) (.slice b3 nn d3))):=fun W hW=>⟨zA5 (r0.alloc _) hW,zA5 r1 hW⟩
 have yp:Hid (Below w.heap.size w ((w.alloc (.cells #[.int .i64 rows,.slice a1 nl c1,.slice a2 ng c2,.slice a3 nn c3] 39)).alloc (.cells #[.int .i64 rows,.slice b1 nl d1,.slice b2 ng d2,.slice b3 nn d3] 39))):=zA1 (zA1 (Below.refl _ w) _) _
 clear p1 p2 p3 q1 q2 q3 Yf hng Yb r0 r1 hL hG hN
 go_enter Tryz.func15,Tryz.ntmps15
 go_wp2_with (first
  | (go_at_call_of 45 (Value.slice a1 nl c1);refine(zA0 H1 _ (zA0 yp)).mono ?_;rintro _ w1 ⟨rfl,Hb⟩;have Qa:=zA3 Hb;obtain⟨⟨x0,x1,x2,x3⟩,_⟩:=zBX (zA0 HR _ Hb).1;obtain⟨⟨y0,y1,y2,y3⟩,_⟩:=zBX (zA0 HR _ Hb).2;clear Hb)
  | (go_at_call_of 45 (Value.slice a2 ng c2);refine(zA0 H2 _ (zA2 (zA0 yp) (zA0 Qa))).mono ?_;rintro _ w2 ⟨rfl,Hh⟩;have Qz:=zA3 (zA2 (zA0 Qa) Hh);obtain⟨⟨x0,x1,x2,x3⟩,_⟩:=zBX (zA0 HR _ (zA0 Qz)).1;obtain⟨⟨y0,y1,y2,y3⟩,_⟩:=zBX (zA0 HR _ (zA0 Qz)).2;clear Hh)
  | (go_at_call 11;refine(zA0 H3 _ (zA2 (zA0 yp) (zA0 Qz))).mono ?_;rintro _ w3 ⟨rfl,Hz⟩;have Yo:=zA3 Hz;clear Hz))
 go_ret
 exact⟨rfl,zA2 (zA2 (zA0 yp) (zA0 Qz)) (zA0 Yo)⟩
structure zNf(w0 w:World)(v:Value)(rs:List (List Val))(us:List Value):Prop where
 own:w.ownsRow w0.heap.size 37 1 v rs.length us
 saf:∀(i:Nat) (r:List Val) (u:Value),rs[i]?=some r->us[i]?=some u->∃ra rc,u=.slice ra r.length rc/\∀w',w.grownBy w' v.ownBlock->zAR w' ra r
 bel:Below w0.heap.size w0 w
theorem zNf.nil{w0 w:World}(h:Below w0.heap.size w0 w):zNf w0 w (.slice none 0 0) [] []:=⟨World.ownsRow_nil _ _ _ _,(fun i r u h=>by simp at h),h⟩
theorem zNf.later{w0 w w':World}{v:Value}{rs:List (List Val)}{us:List Value}(h:zNf w0 w v rs us)(hb:Below w.heap.size w w'):zNf w0 w' v rs us:=
 ⟨zAc h.own hb,fun i r u hr hu=>by
  obtain⟨ra,rc,e,h3⟩:=h.saf i r u hr hu
  exact⟨ra,rc,e,fun w2 hg=>h3 w2 (zCg hb hg)⟩,zA2 h.bel hb⟩
theorem zOg{w w':World}{a:Option Addr}{xs:List Val}{g n:Nat}(h:zAR w a xs)(hf:∀ad,a=some ad->n<=ad.block)(hg:g<n){row:Option Nat}(hr:∀b,row=some b->b=g)(Hy:w.grownBy w' row):zAR w' a xs:=by
 rcases h with e|⟨b,off,e,hl⟩
 ·exact .inl e
 ·refine .inr ⟨b,off,e,fun i x hx=>?_⟩
  have hb:n<=b:=hf _ e
  obtain⟨h1,h2,h3⟩:=hl i x hx
  have He:b<w.heap.size:=World.block_lt_of_cell? _ _ h1
  have key:∀o,w'.cell? ⟨b,o,none⟩=w.cell? ⟨b,o,none⟩:=fun o=>World.cell?_of_block (a:=⟨b,o,none⟩) (Hy.block b He (fun e2=>by have:=hr b e2.symm;omega))
  rw[key,key,key]
  exact⟨h1,h2,h3⟩
theorem zNf.app{w0 w w1:World}{v v1:Value}{rs:List (List Val)}{r:List Val}{ra:Option Addr}{rc:Nat}{o:Obj}{n:Nat}{us:List Value}(h:zNf w0 w v rs us)(hv:zAR w ra r)(hf:∀ad,ra=some ad->n<=ad.block)(hn:∀g,v.ownBlock=some g->g<n)
  (Hd:w1.ownsRow w0.heap.size 37 1 v1 (rs.length+1) (us++[.slice ra r.length rc])) (Hy:(w.alloc o).grownBy w1 v.ownBlock) (Hm:v1.ownBlock=v.ownBlock∨v1.ownBlock=some (w.alloc o).heap.size):zNf w0 w1 v1 (rs++[r]) (us++[.slice ra r.length rc]):=by
 have h1:=h.own
 have h2:=h.saf
 have hA:Below w.heap.size w (w.alloc o):=zA1 (Below.refl _ _) _
 have comp:∀w2,w1.grownBy w2 v1.ownBlock->w.grownBy w2 v.ownBlock:=fun w2 Hj=>by
  have h1:=zCg hA Hy
  refine⟨Hj.os.trans h1.os,Hj.tape.trans h1.tape,Hj.output.trans h1.output,Nat.le_trans h1.size Hj.size,fun i hi Hg=>?_⟩
  rw[Hj.block i (Nat.lt_of_lt_of_le hi h1.size) ?_,h1.block i hi Hg]
  rcases Hm with e|e
  ·rw[e];exact Hg
  ·rw[e];intro e2;cases e2;simp at hi;omega
 have qq:us.length=rs.length:=by have:=h1.1;omega
 refine⟨by rw[zAX];exact Hd,fun i q u hq hu=>?_,h.bel.trans ((hA.mono h.bel.size).grown Hy (by simp;exact Nat.le_succ_of_le h.bel.size) (fun k e=>(World.ownsRow.lt h1 k e).1))⟩
 by_cases hi:i<rs.length
 ·rw[List.getElem?_append_left hi] at hq
  rw[List.getElem?_append_left (by omega)] at hu
  obtain⟨qa,qc,e,h3⟩:=h2 i q u hq hu
  exact⟨qa,qc,e,fun w2 hg=>h3 w2 (comp w2 hg)⟩
 ·have ZY:i=rs.length:=by
   have:=(zAL hq).1
   simp at this
   omega
  subst ZY
  rw[List.getElem?_append_right (Nat.le_refl _)] at hq
  rw[<-qq,List.getElem?_append_right (Nat.le_refl _)] at hu
  simp at hq hu
  subst hq
  subst hu
  refine⟨ra,rc,rfl,fun w2 Hj=>?_⟩
  cases hb:v.ownBlock with
  | none=>
   have g2:=comp w2 Hj
   rw[hb] at g2
   exact hv.later ⟨g2.os,g2.tape,g2.output,g2.size,fun k hk=>g2.block k hk (by simp)⟩
  | some g=>exact zOg hv hf (hn g hb) (row:=some g) (fun b e=>by cases e;rfl) (hb ▸ comp w2 Hj)
theorem zNf.rows{w0 w:World}{v:Value}{rs:List (List Val)}{us:List Value}(h:zNf w0 w v rs us):∃a c,v=.slice a rs.length c/\zCY w a rs:=by
 have h1:=h.own
 have h2:=h.saf
 obtain⟨a,c,e,hl,_⟩:=zBj h1
 refine⟨a,c,e,?_⟩
 have qq:us.length=rs.length:=by have:=h1.1;omega
 rcases hl with e2|⟨b,off,e2,hl⟩
 ·left
  rw[e2] at qq
  exact List.eq_nil_of_length_eq_zero qq.symm
 ·refine .inr ⟨b,off,e2,fun i r hr=>?_⟩
  have hi:i<us.length:=by rw[qq];exact(zAL hr).1
  obtain⟨ra,rc,e3,h3⟩:=h2 i r _ hr (zAf hi)
  refine⟨ra,rc,?_,h3 w (World.grownBy.refl _ _)⟩
  rw[<-e3]
  exact hl i _ (zAf hi)
def zDX(rs:List (List Val))(cs:List Int):List (List Val):=rs.map fun r=>cs.map fun c=>r.getD c.toNat .null
theorem zOo{w w':World}{rows:Nat}{Cs:List (Vc×Sl)}{cs:List Int}{e:Ending}(hC:zBZ rows Cs)(h1:1<=Cs.length)(h:zSL w w' (Cs.map Prod.fst) rows cs e) :
  (cs.any (zGM Cs.length)=true/\e=.returned (.tuple #[.slice none 0 0,.int .i64 1])/\Below w.heap.size w w')∨(cs.any (zGM Cs.length)=false/\∃a c,e=.returned (.tuple #[.slice a rows c,.int .i64 0])/\zCY w' a (zDX (zAn Cs) cs)/\Below w.heap.size w w'):=by
 have hr:=hC.rows h1
 unfold zSL at h
 rw[List.length_map] at h
 rcases h with h|⟨h2,rfl,a,c,rfl,h3,h4⟩|⟨h2,Hg,Ps,v,h3,h4,rfl,h5,h6⟩
 ·exact .inl h
 ·refine .inr ⟨h2,a,c,rfl,?_,h4⟩
  rcases h3 with e|⟨b,off,e,hl⟩
  ·left
   have:rows=0:=by have:=congrArg List.length e;simpa using this
   rw[zDX]
   rw[this] at hr
   rw[List.eq_nil_of_length_eq_zero hr]
   rfl
  ·refine .inr ⟨b,off,e,fun i r hi=>?_⟩
   have ZY:i<rows:=by have:=(zAL hi).1;simp[zDX] at this;omega
   have:r=[]:=by
    simp only[zDX,List.map_nil,List.getElem?_map] at hi
    obtain⟨q,_,e2⟩:=Option.map_eq_some_iff.1 hi
    exact e2.symm
   subst this
   exact⟨none,0,hl i _ (by simp[List.getElem?_replicate,ZY]),.inl rfl⟩
 ·have YN:1<=cs.length:=by
   cases cs with
   | nil=>exact absurd rfl Hg
   | cons _ _=>simp
  have hPs:∀(i:Nat) (q:Vc×Sl),Ps[i]?=some q->∃c d,cs[i]?=some c/\Cs[c.toNat]?=some d/\d.1=q.1:=fun i q hq=>by
   have hi:i<cs.length:=by rw[<-h3];exact(zAL hq).1
   have:=h4 i _ q (zAf hi) hq
   rw[List.getElem?_map] at this
   obtain⟨d,hd,e⟩:=Option.map_eq_some_iff.1 this
   exact⟨_,d,zAf hi,hd,e⟩
  have qZ:zBZ rows Ps:=⟨fun q hq=>by
   obtain⟨i,hi,rfl⟩:=List.getElem_of_mem hq
   obtain⟨c,d,_,hd,e⟩:=hPs i _ (zAf hi)
   rw[<-e]
   exact hC.fit d (List.mem_of_getElem? hd),fun q hq=>by
   obtain⟨i,hi,rfl⟩:=List.getElem_of_mem hq
   obtain⟨c,d,_,hd,e⟩:=hPs i _ (zAf hi)
   rw[<-e]
   exact hC.frm d (List.mem_of_getElem? hd),fun q hq=>by
   obtain⟨i,hi,rfl⟩:=List.getElem_of_mem hq
   obtain⟨c,d,_,hd,e⟩:=hPs i _ (zAf hi)
   rw[<-e]
   exact hC.rng d (List.mem_of_getElem? hd)⟩
  rw[qZ.tab] at h5 ⊢
  have hw:zAn Ps=zDX (zAn Cs) cs:=by
   unfold zAn zDX
   rw[qZ.len0 (by omega),hC.len0 h1,List.map_map]
   refine List.map_congr_left fun j hj=>?_
   simp only[Function.comp_def]
   refine List.ext_getElem (by simp[zDJ,h3]) fun i g1 g2=>?_
   have g3:i<Ps.length:=by simpa [zDJ] using g1
   obtain⟨c,d,hc,hd,e⟩:=hPs i _ (zAf g3)
   have g4:i<cs.length:=by omega
   have To:cs[i]=c:=by rw[zAf g4] at hc;injection hc
   simp only[zDJ,List.getElem_map,To,List.getD_eq_getElem?_getD,List.getElem?_map,hd,Option.map_some,Option.getD_some,e]
  obtain⟨ra,rc,rfl,QB⟩:=h5
  simp only at QB ⊢
  rw[hw] at QB
  refine .inr ⟨h2,ra,rc,?_,QB,h6⟩
  rw[qZ.rows (by omega)]
end Go.Proofs.YtekgpapophibcaaGreat
