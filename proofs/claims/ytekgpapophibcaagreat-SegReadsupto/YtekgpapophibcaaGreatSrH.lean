import Derived.Test.YtekgpapophibcaaGreatRyZ
import Derived.Test.YtekgpapophibcaaGreatSrG
set_option linter.unusedSimpArgs false
set_option linter.unusedVariables false
set_option maxHeartbeats 4000000
set_option maxRecDepth 100000
namespace Go.Proofs.YtekgpapophibcaaGreat
open Go.RowKit Go.Sort
theorem zH2(l:List UInt8)(hl:l.length<=140737488300000)(w:World):Calls Tryz.prog 71 #[.string (bs l)] w fun e w'=>zUr w w' l e:=by
 by_cases h1:zCm l<1
 ·exact zPm l hl (.inl h1) w
 ·by_cases h2:32<zCm l
  ·exact zPm l hl (.inr h2) w
  ·exact zRh l hl (by omega) (by omega) w
theorem zOx{X:Vc}(hg:zAg X=true):∀(j:Nat) (b b':ByteArray),PB X j b->PB X j b'->b=b'
 | 0,b,b',h,h'=>(zJU hg h h').1
 | j+1,b,b',⟨c,s,f,hc,hs,hb⟩,⟨c',s',f',ZB,hs',Yl⟩=>by
  obtain rfl:=zOx hg j c c' hc ZB
  obtain⟨rfl,rfl⟩:=zJU hg hs hs'
  rw[hb,Yl]
theorem zUH{X:Vc}(hg:zAg X=true){s t:ByteArray}(h:KP X s)(h':KP X t):s=t:=by
 rcases h with ⟨_,h⟩|⟨_,h,_⟩
 ·rcases h' with ⟨_,h'⟩|⟨_,h',_⟩
  ·exact zOx hg 3 s t h h'
  ·exact absurd rfl h'
 ·exact absurd rfl h
theorem zO6{l:List UInt8}{X:Vc}{rows:Nat}(h:UnR l X 0)(hl:X.nl.length=rows):Fit rows X:=by
 rcases h with ⟨_,⟨sch,hc⟩,hf,h1,h2,h3⟩|⟨h,_⟩
 ·obtain⟨g1,g2,g3,g4,g5,g6,g7,g8⟩:=zH5 hf
  have hv:=zAb g1
  exact⟨g1,hl,by omega,by omega,by omega,g8 fun x hx=>((zDo hc).2 x hx).2⟩
 ·cases h
structure Seg(l:List UInt8)(Xs:List Vc)(ps:List (ByteArray×ByteArray)):Prop where
 lay:Lay l Xs
 len:ps.length=Xs.length
 at_:∀(i:Nat) (X:Vc) (p:ByteArray×ByteArray),Xs[i]?=some X->ps[i]?=some p->p.1=zP X/\KP X p.2
 eq:zJJ Xs.length (zCn l) ps=bs l
theorem Lay.fit{l:List UInt8}{Xs:List Vc}(h:Lay l Xs){X:Vc}(hX:X∈Xs):Fit (zCn l) X:=by
 obtain⟨i,hi,e⟩:=List.mem_iff_getElem.1 hX
 obtain⟨h1,h2⟩:=h.at_ i X (by rw[zAf hi,e])
 exact zO6 h1 h2
theorem Lay.rows{l:List UInt8}{Xs:List Vc}(h:Lay l Xs):zCn l<=4096:=by
 have h1:=h.n1
 have h2:=h.len
 obtain⟨X,hX⟩:∃X,X∈Xs:=by
  cases Xs with
  | nil=>simp at h2;omega
  | cons X _=>exact⟨X,List.mem_cons_self ..⟩
 exact(h.fit hX).le
theorem Lay.one{l:List UInt8}{Xs Ys:List Vc}(h:Lay l Xs)(h':Lay l Ys):Xs=Ys:=by
 refine List.ext_getElem (h.len.trans h'.len.symm) fun i h1 h2=>?_
 obtain⟨u1,_⟩:=h.at_ i _ (zAf h1)
 obtain⟨u2,_⟩:=h'.at_ i _ (zAf h2)
 exact(u1.one u2).1
theorem Seg.one{l:List UInt8}{Xs Ys:List Vc}{ps qs:List (ByteArray×ByteArray)}(h:Seg l Xs ps)(h':Lay l Ys)(hl:qs.length=Ys.length)(ha:∀(i:Nat) (X:Vc) (p:ByteArray×ByteArray),Ys[i]?=some X->qs[i]?=some p->p.1=zP X/\KP X p.2):Ys=Xs/\qs=ps:=by
 obtain rfl:=h'.one h.lay
 refine⟨rfl,List.ext_getElem (hl.trans h.len.symm) fun i h1 h2=>?_⟩
 have hi:i<Ys.length:=by omega
 obtain⟨a1,a2⟩:=ha i _ _ (zAf hi) (zAf h1)
 obtain⟨b1,b2⟩:=h.at_ i _ _ (zAf hi) (zAf h2)
 have hg:=(h.lay.fit (List.getElem_mem hi)).good
 exact Prod.ext (a1.trans b1.symm) (zUH hg a2 b2)
theorem zQx(t:ByteArray):4<=(zFe t).size/\(zFe t).extract 0 ((zFe t).size-4)=t:=by
 have h4:(toB (beL (zIF t:Nat) 4 4)).size=4:=by rw[zAN,zAK]
 have hs:(zFe t).size=t.size+4:=by unfold zFe;rw[ByteArray.size_append,h4]
 refine⟨by omega,?_⟩
 rw[hs,Nat.add_sub_cancel]
 unfold zFe
 apply ByteArray.ext
 simp[ByteArray.data_extract,ByteArray.data_append]
theorem Seg.sealed{l:List UInt8}{Xs:List Vc}{ps:List (ByteArray×ByteArray)}(h:Seg l Xs ps):4<=(bs l).size/\zFe ((bs l).extract 0 ((bs l).size-4))=bs l:=by
 rw[<-h.eq]
 unfold zJJ
 obtain⟨h1,h2⟩:=zQx (toB ((zBc Xs.length (zCn l)++hdL ps)++bdL ps))
 exact⟨h1,by rw[h2]⟩
theorem zL0{w1 w2:World}{a:Option Addr}{cs:List Value}{m:Nat}(h:zAp w1 a cs)(hf:∀ad,a=some ad->m<=ad.block)(hk:∀i,m<=i->i<w1.heap.size->w2.heap[i]?=w1.heap[i]?):zAp w2 a cs:=by
 rcases h with e|⟨b,off,e,hl⟩
 ·exact .inl e
 ·refine .inr ⟨b,off,e,fun i x hx=>?_⟩
  have hc:=hl i x hx
  have He:b<w1.heap.size:=World.block_lt_of_cell? _ _ hc
  rw[<-hc]
  exact World.cell?_of_block (a:=⟨b,off+i,none⟩) (hk b (hf _ e) He)
theorem zG8{w1 w2:World}{a:Option Addr}{Cs:List (Vc×Sl)}{m:Nat}(h:zBq w1 a Cs)(hf:∀ad,a=some ad->m<=ad.block)(hv:∀x∈Cs,zBb m x.2)(hk:∀i,m<=i->i<w1.heap.size->w2.heap[i]?=w1.heap[i]?):zBq w2 a Cs:=by
 refine⟨?_,fun x hx=>zDB (h.2 x hx) (hv x hx) hk⟩
 rcases h.1 with e|⟨b,off,e,hl⟩
 ·exact .inl e
 ·refine .inr ⟨b,off,e,fun i c hc=>?_⟩
  obtain⟨c0,c1,c2,c3⟩:=hl i c hc
  have He:b<w1.heap.size:=World.block_lt_of_cell? _ _ c0
  have key:∀j v,w1.cell? ⟨b,j,none⟩=some v->w2.cell? ⟨b,j,none⟩=some v:=fun j v hj=>by
   rw[<-hj];exact World.cell?_of_block (a:=⟨b,j,none⟩) (hk b (hf _ e) He)
  exact⟨key _ _ c0,key _ _ c1,key _ _ c2,key _ _ c3⟩
theorem zSl.less{n m:Nat}{az ac:Option Addr}{Cs:List (Vc×Sl)}(h:zSl n az ac Cs)(hm:m<=n):zSl m az ac Cs:=
 ⟨fun ad e=>Nat.le_trans hm (h.z ad e),fun ad e=>Nat.le_trans hm (h.c ad e),fun x hx=>(h.v x hx).less hm⟩
def OpQ(w w':World)(l:List UInt8)(e:Ending):Prop:=
 (∃(Cs:List (Vc×Sl)) (ps:List (ByteArray×ByteArray)) (az ac:Option Addr) (cz cc:Nat),e=.returned (.tuple #[.agg #[.int .i64 (zCn l:Int),.slice az (zCm l) cz,.slice ac (zCm l) cc],.int .i64 0])/\Seg l (Cs.map Prod.fst) ps/\zAp w' az ((zPf l).map Value.string)/\zBq w' ac Cs/\zSl w.heap.size az ac Cs/\Below w.heap.size w w')∨((∀Xs ps,¬Seg l Xs ps)/\e=.returned (.tuple #[.agg #[.int .i64 0,.slice none 0 0,.slice none 0 0],.int .i64 2])/\Below w.heap.size w w')
theorem zEX(w:World)(r:Int)(z c:Value):(w.alloc (.cells #[.int .i64 r,z,c] 89)).rowIs w.heap.size 89 3 (zT2 r z c):=World.rowIs_alloc w _ 89 _ (fun i hi=>by
  match i,hi with
  | 0,_=>rfl
  | 1,_=>rfl
  | 2,_=>rfl
  | n+3,h=>have:n+3<3:=h;omega)
theorem zCO{w:World}{b:Nat}{r:Int}{z c:Value}(h:w.rowIs b 89 3 (zT2 r z c)):(w.cell? ⟨b,0,none⟩=some (.int .i64 r)/\w.cell? ⟨b,1,none⟩=some z/\w.cell? ⟨b,2,none⟩=some c)/\w.frozen? ⟨b,0,none⟩=false/\w.frozen? ⟨b,1,none⟩=false/\w.frozen? ⟨b,2,none⟩=false:=
 ⟨⟨World.rowIs.cell h (i:=0) (by decide),World.rowIs.cell h (i:=1) (by decide),World.rowIs.cell h (i:=2) (by decide)⟩,World.rowIs.frozen h 0,World.rowIs.frozen h 1,World.rowIs.frozen h 2⟩
theorem zGk(l:List UInt8)(hl:l.length<=140737488300000)(w:World):Calls Tryz.prog 43 #[.string (bs l)] w fun e w'=>OpQ w w' l e:=by
 have HI:=zA3 (fun W=>zJm (bs l) (by rw[zBV];exact hl) W)
 have HA:=zA3 (zEX w 0 zCq zCq)
 obtain⟨b,hb⟩:∃b,(decide (4<=(bs l).size) && decide (zFe ((bs l).extract 0 ((bs l).size-4))=bs l))=b:=⟨_,rfl⟩
 have HB:=zA3 hb
 rw[hb] at HI
 clear hb
 cases b
 ·have Zb:Hid (∀Xs ps,¬Seg l Xs ps):=fun Xs ps h=>by
   have h1:=h.sealed
   have h2:=zA0 HB
   rw[decide_eq_true h1.1,decide_eq_true h1.2] at h2
   cases h2
  go_enter Tryz.func43,Tryz.ntmps43
  go_wp2_with (go_at_call 70;refine(zA0 HI _).mono ?_;rintro _ w1 ⟨rfl,Hb⟩;have qK:=zA5 (zA0 HA) Hb;obtain⟨⟨a0,a1,a2⟩,q0,q1,q2⟩:=zCO qK;have hz:=qK.lt;have Qa:=zA3 (zA2 (zA1 (Below.refl _ w) _) Hb);clear qK Hb)
  refine bodyPost_ret (v:=.tuple #[.agg #[.int .i64 0,.slice none 0 0,.slice none 0 0],.int .i64 2]) (by simp[results,Tryz.results43,go_sem, *]) rfl (.inr ⟨zA0 Zb,rfl,zIN (zA0 Qa) _ _ _⟩)
 ·clear HB
  by_cases hL:∃Xs,Lay l Xs
  ·obtain⟨Xs,hX⟩:=hL
   have HL:Hid (∀W,Calls Tryz.prog 71 #[.string (bs l)] W fun e w'=>∃(Cs:List (Vc×Sl)) (az ac:Option Addr) (cz cc:Nat),e=.returned (.tuple #[.agg #[.int .i64 (zCn l:Int),.slice az (zCm l) cz,.slice ac (zCm l) cc],.bool true])/\Lay l (Cs.map Prod.fst)/\zAp w' az ((zPf l).map Value.string)/\zBq w' ac Cs/\zSl W.heap.size az ac Cs/\Below W.heap.size W w'):=fun W=>by
    refine(zH2 l hl W).mono ?_
    rintro e w' (h|⟨h,_⟩)
    ·exact h
    ·exact absurd hX (h Xs)
   have HW:Hid (∀W ac cc (Cs:List (Vc×Sl)),Lay l (Cs.map Prod.fst)->zBq W ac Cs->Calls Tryz.prog 29 #[.slice ac (zCm l) cc] W fun e w'=>∃ps,e=.returned (.string (zJJ Cs.length (zCn l) ps))/\Hid (Ps KP zP Cs ps)/\Below W.heap.size W w'):=fun W ac cc Cs h1 h2=>by
    have YK:=h1.len
    have n1:=h1.n1
    have n2:=h1.n2
    rw[List.length_map] at YK
    have:=zJF KP zP (zCn l) h1.rows ac cc Cs W (by omega) (by omega) (fun x hx=>(h1.fit (List.mem_map_of_mem hx)).law) h2
    rw[YK] at this ⊢
    exact this
   have Jm:Hid (∀(Cs:List (Vc×Sl)) ps,Ps KP zP Cs ps->ps.length=(Cs.map Prod.fst).length/\∀(i:Nat) (X:Vc) (p:ByteArray×ByteArray),(Cs.map Prod.fst)[i]?=some X->ps[i]?=some p->p.1=zP X/\KP X p.2):=fun Cs ps h=>⟨by rw[List.length_map];exact h.len,fun i X p h1 h2=>by
    rw[List.getElem?_map] at h1
    cases hc:Cs[i]? with
    | none=>rw[hc] at h1;cases h1
    | some c=>
     rw[hc] at h1
     simp at h1
     subst h1
     exact h.at_ i c p hc h2⟩
   by_cases hS:∃ps,Seg l Xs ps
   ·obtain⟨ps,hS⟩:=hS
    have Kp:Hid (∀W ac cc (Cs:List (Vc×Sl)),Lay l (Cs.map Prod.fst)->zBq W ac Cs->Calls Tryz.prog 29 #[.slice ac (zCm l) cc] W fun e w'=>e=.returned (.string (bs l))/\Seg l (Cs.map Prod.fst) ps/\Below W.heap.size W w'):=fun W ac cc Cs h1 h2=>by
     refine(zA0 HW W ac cc Cs h1 h2).mono ?_
     rintro e w' ⟨qs,rfl,hq,hb⟩
     obtain⟨p1,p2⟩:=zA0 Jm Cs qs (zA0 hq)
     obtain⟨e1,rfl⟩:=hS.one h1 p1 p2
     rw[e1]
     refine⟨?_,hS,hb⟩
     have:=hS.eq
     rw[<-e1,List.length_map] at this
     rw[this]
    clear HW Jm hX
    have Ku:=zA3 hS
    clear hS
    go_enter Tryz.func43,Tryz.ntmps43
    go_wp2_with (first
     | (go_at_call 70;refine(zA0 HI _).mono ?_;rintro _ w1 ⟨rfl,Hb⟩;have QH:=zA3 (zA5 (zA0 HA) Hb);have Qa:=zA3 (zA2 (zA1 (Below.refl _ w) _) Hb);clear Hb)
     | (go_at_call 71;refine(zA0 HL _).mono ?_;rintro _ w2 ⟨Cs,az,ac,cz,cc,rfl,h1,h2,h3,Gn,Hh⟩;have qi:=zA3 Gn;have Qy:=zA3 ((zA5 (zA0 QH) Hh).alloc (.cells #[.int .i64 (zCn l:Int),.slice az (zCm l) cz,.slice ac (zCm l) cc] 89));have Gt:=zA3 (zEX w2 (zCn l:Int) (.slice az (zCm l) cz) (.slice ac (zCm l) cc));have qC:=zA1 (Below.refl _ w2) (.cells #[.int .i64 (zCn l:Int),.slice az (zCm l) cz,.slice ac (zCm l) cc] 89);have qR:=zA3 (And.intro h1 (And.intro (h2.later qC) (h3.later qC)));have Qz:=zA3 (zA2 (zA2 (zA0 Qa) Hh) qC);have Hj:=(zCO (zA0 Gt)).1.2.2;clear h1 h2 h3 Hh qC Gn)
     | (go_at_call 29;refine(zA0 Kp _ _ _ Cs (zA0 qR).1 (zA0 qR).2.2).mono ?_;rintro _ w3 ⟨rfl,h4,Hz⟩;have Kk:=zA5 (zA0 Qy) Hz;have ZH:=zA5 (zA0 Gt) Hz;obtain⟨⟨a0,a1,a2⟩,q0,q1,q2⟩:=zCO Kk;obtain⟨⟨g0,g1,g2⟩,_⟩:=zCO ZH;have hz:=Kk.lt;have Yo:=zA3 (zA2 (zA0 Qz) Hz);have TA:=zA3 (And.intro ((zA0 qR).2.1.later Hz) ((zA0 qR).2.2.later Hz));have HS4:=zA3 h4;clear Kk ZH h4 Hz))
    have yt:∀(u v x:Value) (i:Nat),w1.heap.size<=i->i<w3.heap.size->((((w3.setCell ⟨w.heap.size,0,none⟩ u).setCell ⟨w.heap.size,1,none⟩ v).setCell ⟨w.heap.size,2,none⟩ x)).heap[i]?=w3.heap[i]?:=fun u v x i hi _=>by
     have:=(zA0 QH).lt
     have Hg:i≠w.heap.size:=by omega
     rw[Below.heap_setCell _ _ _ _ (by simpa using Hg),Below.heap_setCell _ _ _ _ (by simpa using Hg),Below.heap_setCell _ _ _ _ (by simpa using Hg)]
    have hlw:w.heap.size<=w1.heap.size:=(zA0 Qa).size
    refine bodyPost_ret (v:=.tuple #[.agg #[.int .i64 (zCn l:Int),.slice az (zCm l) cz,.slice ac (zCm l) cc],.int .i64 0]) (by simp[results,Tryz.results43,go_sem, *]) rfl (.inl ⟨Cs,ps,az,ac,cz,cc,rfl,zA0 HS4,zL0 (zA0 TA).1 (zA0 qi).z (yt _ _ _),zG8 (zA0 TA).2 (zA0 qi).c (zA0 qi).v (yt _ _ _),(zA0 qi).less hlw,zIN (zA0 Yo) _ _ _⟩)
   ·have Kp:Hid (∀W ac cc (Cs:List (Vc×Sl)),Lay l (Cs.map Prod.fst)->zBq W ac Cs->Calls Tryz.prog 29 #[.slice ac (zCm l) cc] W fun e w'=>∃t,e=.returned (.string t)/\(t.toList == (bs l).toList)=false/\Below W.heap.size W w'):=fun W ac cc Cs h1 h2=>by
     refine(zA0 HW W ac cc Cs h1 h2).mono ?_
     rintro e w' ⟨qs,rfl,hq,hb⟩
     obtain⟨p1,p2⟩:=zA0 Jm Cs qs (zA0 hq)
     obtain rfl:=h1.one hX
     refine⟨_,rfl,?_,hb⟩
     rw[zGS]
     refine decide_eq_false fun e=>hS ⟨qs,h1,p1,p2,?_⟩
     rw[List.length_map]
     exact e
    have Zb:Hid (∀Xs ps,¬Seg l Xs ps):=fun Ys qs h=>hS ⟨qs,by rw[hX.one h.lay];exact h⟩
    clear HW Jm hX hS
    go_enter Tryz.func43,Tryz.ntmps43
    go_wp2_with (first
     | (go_at_call 70;refine(zA0 HI _).mono ?_;rintro _ w1 ⟨rfl,Hb⟩;have QH:=zA3 (zA5 (zA0 HA) Hb);have Qa:=zA3 (zA2 (zA1 (Below.refl _ w) _) Hb);clear Hb)
     | (go_at_call 71;refine(zA0 HL _).mono ?_;rintro _ w2 ⟨Cs,az,ac,cz,cc,rfl,h1,h2,h3,Gn,Hh⟩;have Qy:=zA3 ((zA5 (zA0 QH) Hh).alloc (.cells #[.int .i64 (zCn l:Int),.slice az (zCm l) cz,.slice ac (zCm l) cc] 89));have Gt:=zA3 (zEX w2 (zCn l:Int) (.slice az (zCm l) cz) (.slice ac (zCm l) cc));have qC:=zA1 (Below.refl _ w2) (.cells #[.int .i64 (zCn l:Int),.slice az (zCm l) cz,.slice ac (zCm l) cc] 89);have qR:=zA3 (And.intro h1 (h3.later qC));have Qz:=zA3 (zA2 (zA2 (zA0 Qa) Hh) qC);have Hj:=(zCO (zA0 Gt)).1.2.2;clear h1 h2 h3 Hh qC Gn)
     | (go_at_call 29;refine(zA0 Kp _ _ _ Cs (zA0 qR).1 (zA0 qR).2).mono ?_;rintro _ w3 ⟨tt,rfl,h4,Hz⟩;have Kk:=zA5 (zA0 Qy) Hz;obtain⟨⟨a0,a1,a2⟩,q0,q1,q2⟩:=zCO Kk;have hz:=Kk.lt;have Yo:=zA3 (zA2 (zA0 Qz) Hz);clear Kk Hz))
    refine bodyPost_ret (v:=.tuple #[.agg #[.int .i64 0,.slice none 0 0,.slice none 0 0],.int .i64 2]) (by simp[results,Tryz.results43,go_sem, *]) rfl (.inr ⟨zA0 Zb,rfl,zIN (zA0 Yo) _ _ _⟩)
  ·have HL:Hid (∀W,Calls Tryz.prog 71 #[.string (bs l)] W fun e w'=>e=.returned (.tuple #[.agg #[.int .i64 0,.slice none 0 0,.slice none 0 0],.bool false])/\Below W.heap.size W w'):=fun W=>by
    refine(zH2 l hl W).mono ?_
    rintro e w' (⟨Cs,_,_,_,_,_,h,_⟩|⟨_,h⟩)
    ·exact absurd ⟨_,h⟩ hL
    ·exact h
   have Zb:Hid (∀Xs ps,¬Seg l Xs ps):=fun Xs ps h=>hL ⟨Xs,h.lay⟩
   clear hL
   go_enter Tryz.func43,Tryz.ntmps43
   go_wp2_with (first
    | (go_at_call 70;refine(zA0 HI _).mono ?_;rintro _ w1 ⟨rfl,Hb⟩;have QH:=zA3 (zA5 (zA0 HA) Hb);have Qa:=zA3 (zA2 (zA1 (Below.refl _ w) _) Hb);clear Hb)
    | (go_at_call 71;refine(zA0 HL _).mono ?_;rintro _ w2 ⟨rfl,Hh⟩;have Kl:=zA5 (zA0 QH) Hh;obtain⟨⟨a0,a1,a2⟩,q0,q1,q2⟩:=zCO Kl;have hz:=Kl.lt;have Qz:=zA3 (zA2 (zA0 Qa) Hh);clear Hh Kl))
   refine bodyPost_ret (v:=.tuple #[.agg #[.int .i64 0,.slice none 0 0,.slice none 0 0],.int .i64 2]) (by simp[results,Tryz.results43,go_sem, *]) rfl (.inr ⟨zA0 Zb,rfl,zA1 (zIN (zA0 Qz) _ _ _) _⟩)
set_option maxHeartbeats 1000000
theorem zFd{l:List UInt8}(hl:l.length<=140737488300000){Xs:List Vc}{ps:List (ByteArray×ByteArray)}(h:Seg l Xs ps)(w:World) :
  Calls Tryz.prog 43 #[.string (bs l)] w fun e w'=>∃(Cs:List (Vc×Sl)) (az ac:Option Addr) (cz cc:Nat),e=.returned (.tuple #[.agg #[.int .i64 (zCn l:Int),.slice az (zCm l) cz,.slice ac (zCm l) cc],.int .i64 0])/\Cs.map Prod.fst=Xs/\zAp w' az ((zPf l).map Value.string)/\zBq w' ac Cs/\zSl w.heap.size az ac Cs/\Below w.heap.size w w':=by
 refine(zGk l hl w).mono ?_
 rintro e w' (⟨Cs,qs,az,ac,cz,cc,he,hs,h1,h2,h3,h4⟩|⟨hn,_⟩)
 ·exact⟨Cs,az,ac,cz,cc,he,hs.lay.one h.lay,h1,h2,h3,h4⟩
 ·exact absurd h (hn _ _)
theorem zHV{l:List UInt8}(hl:l.length<=140737488300000)(h:∀Xs ps,¬Seg l Xs ps)(w:World) :
  Calls Tryz.prog 43 #[.string (bs l)] w fun e w'=>e=.returned (.tuple #[.agg #[.int .i64 0,.slice none 0 0,.slice none 0 0],.int .i64 2])/\Below w.heap.size w w':=by
 refine(zGk l hl w).mono ?_
 rintro e w' (⟨Cs,qs,az,ac,cz,cc,he,hs,_⟩|⟨_,h⟩)
 ·exact absurd hs (h _ _)
 ·exact h
theorem zRR{l:List UInt8}(hl:l.length<=140737488300000){Xs:List Vc}{ps:List (ByteArray×ByteArray)}(h:Seg l Xs ps)(w:World):Calls Tryz.prog 9 #[.string (bs l)] w fun e w'=>e=.returned (.int .i64 0)/\Below w.heap.size w w':=by
 have HO:=zA3 (fun W=>zFd hl h W)
 clear h
 go_enter Tryz.func9,Tryz.ntmps9
 go_wp2_with (go_at_call 43;refine(zA0 HO _).mono ?_;rintro _ w1 ⟨Cs,az,ac,cz,cc,rfl,-,-,-,-,hb⟩)
 go_ret
 exact⟨rfl,zA1 hb _⟩
theorem zTG{l:List UInt8}(hl:l.length<=140737488300000)(h:∀Xs ps,¬Seg l Xs ps)(w:World):Calls Tryz.prog 9 #[.string (bs l)] w fun e w'=>e=.returned (.int .i64 2)/\Below w.heap.size w w':=by
 have HO:=zA3 (fun W=>zHV hl h W)
 clear h
 go_enter Tryz.func9,Tryz.ntmps9
 go_wp2_with (go_at_call 43;refine(zA0 HO _).mono ?_;rintro _ w1 ⟨rfl,hb⟩)
 go_ret
 exact⟨rfl,zA1 hb _⟩
theorem zOK{l:List UInt8}(hl:l.length<=140737488300000){Xs:List Vc}{ps:List (ByteArray×ByteArray)}(h:Seg l Xs ps)(w:World):Calls Tryz.prog 10 #[.string (bs l)] w fun e w'=>e=.returned (.int .i64 (zCn l:Int))/\Below w.heap.size w w':=by
 have HO:=zA3 (fun W=>zFd hl h W)
 clear h
 go_enter Tryz.func10,Tryz.ntmps10
 go_wp2_with (go_at_call 43;refine(zA0 HO _).mono ?_;rintro _ w1 ⟨Cs,az,ac,cz,cc,rfl,-,-,-,-,hb⟩)
 go_ret
 exact⟨rfl,zA1 hb _⟩
theorem zQs{l:List UInt8}(hl:l.length<=140737488300000)(h:∀Xs ps,¬Seg l Xs ps)(w:World):Calls Tryz.prog 10 #[.string (bs l)] w fun e w'=>e=.returned (.int .i64 0)/\Below w.heap.size w w':=by
 have HO:=zA3 (fun W=>zHV hl h W)
 clear h
 go_enter Tryz.func10,Tryz.ntmps10
 go_wp2_with (go_at_call 43;refine(zA0 HO _).mono ?_;rintro _ w1 ⟨rfl,hb⟩)
 go_ret
 exact⟨rfl,zA1 hb _⟩
theorem zJK{l:List UInt8}(hl:l.length<=140737488300000){Xs:List Vc}{ps:List (ByteArray×ByteArray)}(h:Seg l Xs ps)(w:World):Calls Tryz.prog 46 #[.string (bs l)] w fun e w'=>∃(Cs:List (Vc×Sl)) (ac:Option Addr) (cc:Nat),e=.returned (.tuple #[.slice ac (zCm l) cc,.int .i64 0])/\Cs.map Prod.fst=Xs/\zBq w' ac Cs/\(∀ad,ac=some ad->w.heap.size<=ad.block)/\(∀x∈Cs,zBb w.heap.size x.2)/\Below w.heap.size w w':=by
 have HO:=zA3 (fun W=>zFd hl h W)
 clear h
 go_enter Tryz.func46,Tryz.ntmps46
 go_wp2_with (go_at_call 43;refine(zA0 HO _).mono ?_;rintro _ w1 ⟨Cs,az,ac,cz,cc,rfl,hx,-,hc,hf,hb⟩;have HX:=zA3 hx;have HC:=zA3 hc;clear hx hc)
 go_ret2
 exact⟨Cs,ac,cc,rfl,zA0 HX,(zA0 HC).later (zA1 (Below.refl _ _) _),hf.c,hf.v,zA1 hb _⟩
theorem zQy{l:List UInt8}(hl:l.length<=140737488300000)(h:∀Xs ps,¬Seg l Xs ps)(w:World):Calls Tryz.prog 46 #[.string (bs l)] w fun e w'=>e=.returned (.tuple #[.slice none 0 0,.int .i64 2])/\Below w.heap.size w w':=by
 have HO:=zA3 (fun W=>zHV hl h W)
 clear h
 go_enter Tryz.func46,Tryz.ntmps46
 go_wp2_with (go_at_call 43;refine(zA0 HO _).mono ?_;rintro _ w1 ⟨rfl,hb⟩)
 go_ret2
 exact⟨rfl,zA1 hb _⟩
theorem zIn{w:World}{a:Option Addr}{Cs:List (Vc×Sl)}(h:zBq w a Cs){k:Nat}{c:Vc×Sl}(hc:Cs[k]?=some c):∃b off,a=some ⟨b,off,none⟩/\zKB w b (off+k*4) c.1 c.2:=by
 rcases h.1 with e|⟨b,off,e,h1⟩
 ·subst e;simp at hc
 ·exact⟨b,off,e,h1 k c hc⟩
theorem zMc{l:List UInt8}(hl:l.length<=140737488300000)(h:∀Xs ps,¬Seg l Xs ps)(i:Int)(w:World):Calls Tryz.prog 16 #[.string (bs l),.int .i64 i] w fun e w'=>e=.returned (.tuple #[zAa,.int .i64 2])/\Below w.heap.size w w':=by
 have HO:=zA3 (fun W=>zQy hl h W)
 clear h
 go_enter Tryz.func16,Tryz.ntmps16
 go_wp2_with (go_at_call 46;refine(zA0 HO _).mono ?_;rintro _ w1 ⟨rfl,hb⟩;obtain⟨⟨b0,b1,b2,b3⟩,q0,q1,q2,q3⟩:=zBo hb;have HB:=zA3 (zAP hb);clear hb)
 refine bodyPost_ret (v:=.tuple #[zAa,.int .i64 2]) (by simp[results,Tryz.results16,go_sem,zAa, *]) rfl ⟨rfl,put4 (zA0 HB) _ _ _ _⟩
theorem zKZ{l:List UInt8}(hl:l.length<=140737488300000){Xs:List Vc}{ps:List (ByteArray×ByteArray)}(h:Seg l Xs ps)(i:Int)(hi:i<0∨(zCm l:Int)<=i)(w:World):Calls Tryz.prog 16 #[.string (bs l),.int .i64 i] w fun e w'=>e=.returned (.tuple #[zAa,.int .i64 1])/\Below w.heap.size w w':=by
 have HO:=zA3 (fun W=>zJK hl h W)
 obtain⟨n,hn⟩:∃n,zCm l=n:=⟨_,rfl⟩
 rw[hn] at HO hi
 clear h hn
 by_cases h0:i<0
 ·go_enter Tryz.func16,Tryz.ntmps16
  go_wp2_with (go_at_call 46;refine(zA0 HO _).mono ?_;rintro _ w1 ⟨Cs,ac,cc,rfl,-,-,-,-,hb⟩;obtain⟨⟨b0,b1,b2,b3⟩,q0,q1,q2,q3⟩:=zBo hb;have HB:=zA3 (zAP hb);clear hb)
  refine bodyPost_ret (v:=.tuple #[zAa,.int .i64 1]) (by simp[results,Tryz.results16,go_sem,zAa, *]) rfl ⟨rfl,put4 (zA0 HB) _ _ _ _⟩
 ·have h1:(n:Int)<=i:=by omega
  clear hi
  go_enter Tryz.func16,Tryz.ntmps16
  go_wp2_with (go_at_call 46;refine(zA0 HO _).mono ?_;rintro _ w1 ⟨Cs,ac,cc,rfl,-,-,-,-,hb⟩;obtain⟨⟨b0,b1,b2,b3⟩,q0,q1,q2,q3⟩:=zBo hb;have HB:=zA3 (zAP hb);clear hb)
  refine bodyPost_ret (v:=.tuple #[zAa,.int .i64 1]) (by simp[results,Tryz.results16,go_sem,zAa, *]) rfl ⟨rfl,put4 (zA0 HB) _ _ _ _⟩
theorem zMb{l:List UInt8}(hl:l.length<=140737488300000){Xs:List Vc}{ps:List (ByteArray×ByteArray)}(h:Seg l Xs ps)(k:Nat){X:Vc}(hX:Xs[k]?=some X)(w:World):Calls Tryz.prog 16 #[.string (bs l),.int .i64 (k:Int)] w fun e w'=>∃p,e=.returned (.tuple #[zCC X p,.int .i64 0])/\zAi w' X p/\zBb w.heap.size p/\Below w.heap.size w w':=by
 have hk:k<zCm l:=by rw[<-h.lay.len];exact(zAL hX).1
 have HO:Hid (∀W,Calls Tryz.prog 46 #[.string (bs l)] W fun e w'=>∃(b off cc:Nat) (p:Sl),e=.returned (.tuple #[.slice (some ⟨b,off,none⟩) (zCm l) cc,.int .i64 0])/\zKB w' b (off+k*4) X p/\zAi w' X p/\zBb W.heap.size p/\W.heap.size<=b/\Below W.heap.size W w'):=fun W=>by
  refine(zJK hl h W).mono ?_
  rintro e w' ⟨Cs,ac,cc,rfl,hx,hc,hf,hv,hb⟩
  obtain⟨c,hck,hcX⟩:∃c,Cs[k]?=some c/\c.1=X:=by
   rw[<-hx,List.getElem?_map] at hX
   cases hq:Cs[k]? with
   | none=>rw[hq] at hX;cases hX
   | some c=>rw[hq] at hX;simp at hX;exact⟨c,rfl,hX⟩
  obtain⟨b,off,rfl,Qq⟩:=zIn hc hck
  subst hcX
  exact⟨b,off,cc,c.2,rfl,Qq,hc.2 c (List.mem_of_getElem? hck),hv c (List.mem_of_getElem? hck),hf _ rfl,hb⟩
 obtain⟨n,hn⟩:∃n,zCm l=n:=⟨_,rfl⟩
 rw[hn] at HO hk
 clear h hn hX
 have h0:¬(k:Int)<0:=by omega
 have h1:¬(n:Int)<=(k:Int):=by omega
 have h2:(k:Int)<(n:Int):=by omega
 go_enter Tryz.func16,Tryz.ntmps16
 go_wp2_with (go_at_call 46;refine(zA0 HO _).mono ?_;rintro _ w1 ⟨b,off,cc,p,rfl,⟨c0,c1,c2,c3⟩,hv,hf,Hw,hb⟩;obtain⟨⟨b0,b1,b2,b3⟩,q0,q1,q2,q3⟩:=zBo hb;have HB:=zA3 (zAP hb);have HV:=zA3 (And.intro hv hf);clear hb hv hf Hw)
 have yt:∀(u v x y:Value) (i:Nat),(w.alloc zCp).heap.size<=i->i<w1.heap.size->(((((w1.setCell ⟨w.heap.size,0,none⟩ u).setCell ⟨w.heap.size,1,none⟩ v).setCell ⟨w.heap.size,2,none⟩ x).setCell ⟨w.heap.size,3,none⟩ y)).heap[i]?=w1.heap[i]?:=fun u v x y i hi _=>by
  have e:(w.alloc zCp).heap.size=w.heap.size+1:=by simp
  have Hg:i≠w.heap.size:=by omega
  rw[Below.heap_setCell _ _ _ _ (by simpa using Hg),Below.heap_setCell _ _ _ _ (by simpa using Hg),Below.heap_setCell _ _ _ _ (by simpa using Hg),Below.heap_setCell _ _ _ _ (by simpa using Hg)]
 refine bodyPost_ret (v:=.tuple #[zCC X p,.int .i64 0]) (by simp[results,Tryz.results16,go_sem,zCC, *]) rfl ⟨p,rfl,zDB (zA0 HV).1 (zA0 HV).2 (yt _ _ _ _),(zA0 HV).2.less (by simp),put4 (zA0 HB) _ _ _ _⟩
def zSj(w w':World)(Xs:List Vc)(e:Ending):Prop:=∃a c,e=.returned (.slice a Xs.length c)/\zAp w' a (Xs.map fun X=>Value.int .i64 X.k)/\Below w.heap.size w w'
def kF(Xs:List Vc)(j:Nat)(i:Nat):Value:=.int .i64 (if i<j then (Xs.getD i .zero).k else 0)
theorem zMZ{l:List UInt8}(hl:l.length<=140737488300000){Xs:List Vc}{ps:List (ByteArray×ByteArray)}(h:Seg l Xs ps)(w:World):Calls Tryz.prog 12 #[.string (bs l)] w fun e w'=>zSj w w' Xs e:=by
 obtain⟨i3,Tm,z30,z31,z32⟩:=info_parts Tryz.info3'
 have HO:=zA3 (fun W=>zFd hl h W)
 have hn:=h.lay.len
 have JD:=h.lay.n2
 rw[<-hn] at JD
 rw[<-hn] at HO
 have HN:=zA3 hn
 obtain⟨n,Yb⟩:∃n,Xs.length=n:=⟨_,rfl⟩
 rw[Yb] at HO JD
 have QS:=zA3 Yb
 clear h hn Yb
 have i32:(n:Int)<=32:=by omega
 go_enter Tryz.func12,Tryz.ntmps12
 go_wp2_with (first
  | (go_at_call 43;refine(zA0 HO _).mono ?_;rintro _ w1 ⟨Cs,az,ac,cz,cc,rfl,hx,-,hc,-,hb⟩;have HX:=zA3 hx;have HC:=zA3 (hc.later (zA1 (Below.refl _ _) (.cells #[.int .i64 (zCn l:Int),.slice az n cz,.slice ac n cc] 89)));have HB:=zA3 (zA1 hb (.cells #[.int .i64 (zCn l:Int),.slice az n cz,.slice ac n cc] 89));clear hx hc hb)
  | (at_make;refine wpList_make_row _ rfl (.tmp 15) (.tmp 15) 22 rfl 3 i3 (.int .i64 0) Tryz.underlying22 Tm z30 z31 rfl .i64 .i64 n rfl rfl (by rw[z32];omega) (by omega) ?_))
 have hS:=World.rowIs_made (w1.alloc (.cells #[.int .i64 (zCn l:Int),.slice az n cz,.slice ac n cc] 89)) (.int .i64 0) n 3
 rw[show (w1.alloc (.cells #[.int .i64 (zCn l:Int),.slice az n cz,.slice ac n cc] 89)).heap.size=w1.heap.size+1 by simp] at hS
 have Hh:=zA1 (Below.refl _ (w1.alloc (.cells #[.int .i64 (zCn l:Int),.slice az n cz,.slice ac n cc] 89))) (.cells (madeCells #[.int .i64 0] n) 3)
 obtain⟨w2,hw2⟩:∃w2,w1.alloc (.cells #[.int .i64 (zCn l:Int),.slice az n cz,.slice ac n cc] 89)=w2:=⟨_,rfl⟩
 have QK:w2.heap.size=w1.heap.size+1:=by rw[<-hw2];simp
 rw[hw2] at HC HB hS Hh ⊢
 obtain⟨w3,JR⟩:∃w3,w2.alloc (.cells (madeCells #[.int .i64 0] n) 3)=w3:=⟨_,rfl⟩
 rw[JR] at hS Hh ⊢
 obtain⟨S,hSS⟩:∃S,w1.heap.size+1=S:=⟨_,rfl⟩
 rw[hSS] at hS QK ⊢
 have GJ:=zA3 QK
 have QQ:Hid (w3.rowIs S 3 n (kF Xs 0)/\Below w2.heap.size w2 w3):=⟨World.rowIs.congr hS (fun i hi=>by simp[kF]),Hh⟩
 clear hS Hh hw2 JR hSS QK
 go_loopw[20] (fun s wr=>∃j:Nat,j<=n/\s=.int .i64 (j:Int)/\Hid (wr.rowIs S 3 n (kF Xs j)/\Below w2.heap.size w2 wr)) (fun s _=>n-(intOf s).toNat)
 case atStart=>exact⟨0,Nat.zero_le _,rfl,QQ⟩
 case round=>
  obtain⟨j,hj,rfl,HJ⟩:=hrel
  clear QQ
  by_cases Jw:j<n
  ·have ij:(j:Int)<(n:Int):=by omega
   have Hf:Cs.length=n:=by rw[<-zA0 QS,<-zA0 HX,List.length_map]
   obtain⟨c,hc⟩:∃c,Cs[j]?=some c:=⟨_,zAf (by omega)⟩
   obtain⟨b,off,rfl,c0,c1,c2,c3⟩:=zIn ((zA0 HC).later (zA0 HJ).2) hc
   obtain⟨q,hq⟩:∃q,off+j*4=q:=⟨_,rfl⟩
   rw[hq] at c0 c1 c2 c3
   have hXj:(Xs.getD j .zero).k=c.1.k:=by
    rw[<-zA0 HX]
    simp[List.getD,hc]
   have qS:=World.rowIs.cell (zA0 HJ).1 (i:=j) Jw
   have qF:wr.frozen? ⟨S,j,none⟩=false:=World.rowIs.frozen (zA0 HJ).1 j
   have hSl:=(zA0 HJ).1.lt
   have HXJ:=zA3 hXj
   clear hXj hc Hf
   go_wp2
   go_roundw
   case rel=>
    refine⟨j+1,by omega,by go_num,?_⟩
    refine⟨?_,?_⟩
    ·refine World.rowIs.alloc (World.rowIs.congr ((zA0 HJ).1.set j _) (fun i hi=>?_)) _
     by_cases e:i=j
     ·subst e
      simp only[if_true,kF,Nat.lt_succ_self,zA0 HXJ]
     ·simp only[e,if_false,kF]
      by_cases ZX:i<j
      ·simp[ZX,show i<j+1 by omega]
      ·simp[ZX,show ¬i<j+1 by omega]
    ·exact zA1 ((zA0 HJ).2.setCell (by have:=zA0 GJ;simp;omega) _) _
   case measure=>first | (simp[intOf];omega) | (simp only[intOf];omega)
  ·have yL:j=n:=by omega
   subst yL
   have ij:¬(j:Int)<(j:Int):=by omega
   go_wp2
   go_ret
   refine⟨some ⟨S,0,none⟩,j,by rw[zA0 QS];rfl,?_,zA2 (zA0 HB) (zA0 HJ).2⟩
   refine .inr ⟨S,0,rfl,fun i x hx=>?_⟩
   rw[List.getElem?_map] at hx
   cases hq:Xs[i]? with
   | none=>rw[hq] at hx;cases hx
   | some X=>
    rw[hq] at hx
    simp at hx
    have hi:i<j:=by rw[<-zA0 QS];exact(zAL hq).1
    have:=World.rowIs.cell (zA0 HJ).1 (i:=i) hi
    rw[Nat.zero_add,this,<-hx]
    simp[kF,hi,List.getD,hq]
theorem zOQ{l:List UInt8}(hl:l.length<=140737488300000)(h:∀Xs ps,¬Seg l Xs ps)(w:World):Calls Tryz.prog 12 #[.string (bs l)] w fun e w'=>zSj w w' [] e:=by
 obtain⟨i3,Tm,z30,z31,z32⟩:=info_parts Tryz.info3'
 have HO:=zA3 (fun W=>zHV hl h W)
 clear h
 go_enter Tryz.func12,Tryz.ntmps12
 go_wp2_with (first
  | (go_at_call 43;refine(zA0 HO _).mono ?_;rintro _ w1 ⟨rfl,hb⟩;have HB:=zA3 (zA1 (zA1 hb (.cells #[.int .i64 0,.slice none 0 0,.slice none 0 0] 89)) (.cells (madeCells #[.int .i64 0] 0) 3));clear hb)
  | (at_make;refine wpList_make_row _ rfl (.tmp 15) (.tmp 15) 22 rfl 3 i3 (.int .i64 0) Tryz.underlying22 Tm z30 z31 rfl .i64 .i64 0 rfl rfl (by rw[z32];omega) (by omega) ?_))
 obtain⟨w3,JR⟩:∃w3,(w1.alloc (.cells #[.int .i64 0,.slice none 0 0,.slice none 0 0] 89)).alloc (.cells (madeCells #[.int .i64 0] 0) 3)=w3:=⟨_,rfl⟩
 rw[JR] at HB ⊢
 clear JR
 go_loopw[20] (fun s wr=>s=.int .i64 0/\wr=w3) (fun s _=>0)
 case atStart=>exact⟨rfl,rfl⟩
 case round=>
  obtain⟨rfl,rfl⟩:=hrel
  go_wp2
  go_ret
  exact⟨_,_,rfl,.inl rfl,zA0 HB⟩
end Go.Proofs.YtekgpapophibcaaGreat
