import Derived.Test.YtbfibfmnemnbbaaGreatQSrG
set_option linter.unusedSimpArgs false
set_option linter.unusedVariables false
set_option maxHeartbeats 4000000
set_option maxRecDepth 100000
namespace Go.Proofs.YtbfibfmnemnbbaaGreat
open Go.RowKit Go.Sort
theorem laidOut_any(l:List UInt8)(hl:l.length<=140737488300000)(w:World):Calls Tryz.prog 44 #[.string (bs l)] w fun e w'=>LayQ w w' l e:=by
 by_cases h1:layN l<1
 ·exact laid_no l hl (.inl h1) w
 ·by_cases h2:32<layN l
  ·exact laid_no l hl (.inr h2) w
  ·exact laid_yes l hl (by omega) (by omega) w
theorem pb_uniq{X:Vc}(hg:goodB X=true):∀(j:Nat) (b b':ByteArray),PB X j b->PB X j b'->b=b'
 | 0,b,b',h,h'=>(pw_one hg h h').1
 | j+1,b,b',⟨c,s,f,hc,hs,hb⟩,⟨c',s',f',hc',hs',hb'⟩=>by
  obtain rfl:=pb_uniq hg j c c' hc hc'
  obtain⟨rfl,rfl⟩:=pw_one hg hs hs'
  rw[hb,hb']
theorem kp_one{X:Vc}(hg:goodB X=true){s t:ByteArray}(h:KP X s)(h':KP X t):s=t:=by
 rcases h with ⟨_,h⟩|⟨_,h,_⟩
 ·rcases h' with ⟨_,h'⟩|⟨_,h',_⟩
  ·exact pb_uniq hg 3 s t h h'
  ·exact absurd rfl h'
 ·exact absurd rfl h
theorem un_fit{l:List UInt8}{X:Vc}{rows:Nat}(h:UnR l X 0)(hl:X.nl.length=rows):Fit rows X:=by
 rcases h with ⟨_,⟨sch,hc⟩,hf,h1,h2,h3⟩|⟨h,_⟩
 ·obtain⟨g1,g2,g3,g4,g5,g6,g7,g8⟩:=from_ok hf
  have hv:=vals_len g1
  exact⟨g1,hl,by omega,by omega,by omega,g8 fun x hx=>((read_col hc).2 x hx).2⟩
 ·cases h
structure Seg(l:List UInt8)(Xs:List Vc)(ps:List (ByteArray×ByteArray)):Prop where
 lay:Lay l Xs
 len:ps.length=Xs.length
 at_:∀(i:Nat) (X:Vc) (p:ByteArray×ByteArray),Xs[i]?=some X->ps[i]?=some p->p.1=zP X/\KP X p.2
 eq:segB Xs.length (layR l) ps=bs l
theorem Lay.fit{l:List UInt8}{Xs:List Vc}(h:Lay l Xs){X:Vc}(hX:X∈Xs):Fit (layR l) X:=by
 obtain⟨i,hi,e⟩:=List.mem_iff_getElem.1 hX
 obtain⟨h1,h2⟩:=h.at_ i X (by rw[List.getElem?_eq_getElem hi,e])
 exact un_fit h1 h2
theorem Lay.rows{l:List UInt8}{Xs:List Vc}(h:Lay l Xs):layR l<=4096:=by
 have h1:=h.n1
 have h2:=h.len
 obtain⟨X,hX⟩:∃X,X∈Xs:=by
  cases Xs with
  | nil=>simp at h2;omega
  | cons X _=>exact⟨X,List.mem_cons_self ..⟩
 exact(h.fit hX).le
theorem Lay.one{l:List UInt8}{Xs Ys:List Vc}(h:Lay l Xs)(h':Lay l Ys):Xs=Ys:=by
 refine List.ext_getElem (h.len.trans h'.len.symm) fun i h1 h2=>?_
 obtain⟨u1,_⟩:=h.at_ i _ (List.getElem?_eq_getElem h1)
 obtain⟨u2,_⟩:=h'.at_ i _ (List.getElem?_eq_getElem h2)
 exact(u1.one u2).1
theorem Seg.one{l:List UInt8}{Xs Ys:List Vc}{ps qs:List (ByteArray×ByteArray)}(h:Seg l Xs ps)(h':Lay l Ys)(hl:qs.length=Ys.length)(ha:∀(i:Nat) (X:Vc) (p:ByteArray×ByteArray),Ys[i]?=some X->qs[i]?=some p->p.1=zP X/\KP X p.2):Ys=Xs/\qs=ps:=by
 obtain rfl:=h'.one h.lay
 refine⟨rfl,List.ext_getElem (hl.trans h.len.symm) fun i h1 h2=>?_⟩
 have hi:i<Ys.length:=by omega
 obtain⟨a1,a2⟩:=ha i _ _ (List.getElem?_eq_getElem hi) (List.getElem?_eq_getElem h1)
 obtain⟨b1,b2⟩:=h.at_ i _ _ (List.getElem?_eq_getElem hi) (List.getElem?_eq_getElem h2)
 have hg:=(h.lay.fit (List.getElem_mem hi)).good
 exact Prod.ext (a1.trans b1.symm) (kp_one hg a2 b2)
theorem seal_cut(t:ByteArray):4<=(sealB t).size/\(sealB t).extract 0 ((sealB t).size-4)=t:=by
 have h4:(toB (beL (sumB t:Nat) 4 4)).size=4:=by rw[toB_size,beL_len]
 have hs:(sealB t).size=t.size+4:=by unfold sealB;rw[ByteArray.size_append,h4]
 refine⟨by omega,?_⟩
 rw[hs,Nat.add_sub_cancel]
 unfold sealB
 apply ByteArray.ext
 simp[ByteArray.data_extract,ByteArray.data_append]
theorem Seg.sealed{l:List UInt8}{Xs:List Vc}{ps:List (ByteArray×ByteArray)}(h:Seg l Xs ps):4<=(bs l).size/\sealB ((bs l).extract 0 ((bs l).size-4))=bs l:=by
 rw[<-h.eq]
 unfold segB
 obtain⟨h1,h2⟩:=seal_cut (toB ((frontL Xs.length (layR l)++hdL ps)++bdL ps))
 exact⟨h1,by rw[h2]⟩
theorem lis_outside{w1 w2:World}{a:Option Addr}{cs:List Value}{m:Nat}(h:LisAt w1 a cs)(hf:∀ad,a=some ad->m<=ad.block)(hk:∀i,m<=i->i<w1.heap.size->w2.heap[i]?=w1.heap[i]?):LisAt w2 a cs:=by
 rcases h with e|⟨b,off,e,hl⟩
 ·exact .inl e
 ·refine .inr ⟨b,off,e,fun i x hx=>?_⟩
  have hc:=hl i x hx
  have hlt:b<w1.heap.size:=World.block_lt_of_cell? _ _ hc
  rw[<-hc]
  exact World.cell?_of_block (a:=⟨b,off+i,none⟩) (hk b (hf _ e) hlt)
theorem cols_outside{w1 w2:World}{a:Option Addr}{Cs:List (Vc×Sl)}{m:Nat}(h:ColsAt w1 a Cs)(hf:∀ad,a=some ad->m<=ad.block)(hv:∀x∈Cs,Fresh m x.2)(hk:∀i,m<=i->i<w1.heap.size->w2.heap[i]?=w1.heap[i]?):ColsAt w2 a Cs:=by
 refine⟨?_,fun x hx=>vec_outside (h.2 x hx) (hv x hx) hk⟩
 rcases h.1 with e|⟨b,off,e,hl⟩
 ·exact .inl e
 ·refine .inr ⟨b,off,e,fun i c hc=>?_⟩
  obtain⟨c0,c1,c2,c3⟩:=hl i c hc
  have hlt:b<w1.heap.size:=World.block_lt_of_cell? _ _ c0
  have key:∀j v,w1.cell? ⟨b,j,none⟩=some v->w2.cell? ⟨b,j,none⟩=some v:=fun j v hj=>by
   rw[<-hj];exact World.cell?_of_block (a:=⟨b,j,none⟩) (hk b (hf _ e) hlt)
  exact⟨key _ _ c0,key _ _ c1,key _ _ c2,key _ _ c3⟩
theorem Free.later{w w':World}{n:Nat}{az ac:Option Addr}{Cs:List (Vc×Sl)}(h:Free w n az ac Cs)(hb:Below w.heap.size w w'):Free w' n az ac Cs:=⟨h.z,h.c,fun x hx=>(h.v x hx).later hb⟩
theorem Free.outside{w w':World}{n:Nat}{az ac:Option Addr}{Cs:List (Vc×Sl)}(h:Free w n az ac Cs)(hk:∀g,n<=g->g<w.heap.size->w'.heap[g]?=w.heap[g]?):Free w' n az ac Cs:=⟨h.z,h.c,fun x hx=>(h.v x hx).outside (Nat.le_refl _) hk⟩
theorem Free.less{w:World}{n m:Nat}{az ac:Option Addr}{Cs:List (Vc×Sl)}(h:Free w n az ac Cs)(hm:m<=n):Free w m az ac Cs:=
 ⟨fun ad e=>Nat.le_trans hm (h.z ad e),fun ad e=>Nat.le_trans hm (h.c ad e),fun x hx=>(h.v x hx).less hm⟩
def OpQ(w w':World)(l:List UInt8)(e:Ending):Prop:=
 (∃(Cs:List (Vc×Sl)) (ps:List (ByteArray×ByteArray)) (az ac:Option Addr) (cz cc:Nat),e=.returned (.tuple #[.agg #[.int .i64 (layR l:Int),.slice az (layN l) cz,.slice ac (layN l) cc],.int .i64 0])/\Seg l (Cs.map Prod.fst) ps/\LisAt w' az ((layZ l).map Value.string)/\ColsAt w' ac Cs/\Free w' w.heap.size az ac Cs/\Below w.heap.size w w')∨((∀Xs ps,¬Seg l Xs ps)/\e=.returned (.tuple #[.agg #[.int .i64 0,.slice none 0 0,.slice none 0 0],.int .i64 2])/\Below w.heap.size w w')
theorem seg3_alloc(w:World)(r:Int)(z c:Value):(w.alloc (.cells #[.int .i64 r,z,c] 62)).rowIs w.heap.size 62 3 (seg3 r z c):=World.rowIs_alloc w _ 62 _ (fun i hi=>by
  match i,hi with
  | 0,_=>rfl
  | 1,_=>rfl
  | 2,_=>rfl
  | n+3,h=>have:n+3<3:=h;omega)
theorem seg3_facts{w:World}{b:Nat}{r:Int}{z c:Value}(h:w.rowIs b 62 3 (seg3 r z c)):(w.cell? ⟨b,0,none⟩=some (.int .i64 r)/\w.cell? ⟨b,1,none⟩=some z/\w.cell? ⟨b,2,none⟩=some c)/\w.frozen? ⟨b,0,none⟩=false/\w.frozen? ⟨b,1,none⟩=false/\w.frozen? ⟨b,2,none⟩=false:=
 ⟨⟨World.rowIs.cell h (i:=0) (by decide),World.rowIs.cell h (i:=1) (by decide),World.rowIs.cell h (i:=2) (by decide)⟩,World.rowIs.frozen h 0,World.rowIs.frozen h 1,World.rowIs.frozen h 2⟩
theorem sopened_any(l:List UInt8)(hl:l.length<=140737488300000)(w:World):Calls Tryz.prog 21 #[.string (bs l)] w fun e w'=>OpQ w w' l e:=by
 have HI:=hide (fun W=>isSealed_any (bs l) (by rw[bs_size];exact hl) W)
 have HA:=hide (seg3_alloc w 0 noSl noSl)
 obtain⟨b,hb⟩:∃b,(decide (4<=(bs l).size) && decide (sealB ((bs l).extract 0 ((bs l).size-4))=bs l))=b:=⟨_,rfl⟩
 have HB:=hide hb
 rw[hb] at HI
 clear hb
 cases b
 ·have HNO:Hid (∀Xs ps,¬Seg l Xs ps):=fun Xs ps h=>by
   have h1:=h.sealed
   have h2:=unhide HB
   rw[decide_eq_true h1.1,decide_eq_true h1.2] at h2
   cases h2
  go_enter Tryz.func21,Tryz.ntmps21
  go_wp2_with (go_at_call 43;refine(unhide HI _).mono ?_;rintro _ w1 ⟨rfl,hb1⟩;have hA1:=rowIs_later (unhide HA) hb1;obtain⟨⟨a0,a1,a2⟩,q0,q1,q2⟩:=seg3_facts hA1;have hz:=hA1.lt;have HB1:=hide (below_step (below_alloc (Below.refl _ w) _) hb1);clear hA1 hb1)
  refine bodyPost_ret (v:=.tuple #[.agg #[.int .i64 0,.slice none 0 0,.slice none 0 0],.int .i64 2]) (by simp[results,Tryz.results21,go_sem, *]) rfl (.inr ⟨unhide HNO,rfl,put3S (unhide HB1) _ _ _⟩)
 ·clear HB
  by_cases hL:∃Xs,Lay l Xs
  ·obtain⟨Xs,hX⟩:=hL
   have HL:Hid (∀W,Calls Tryz.prog 44 #[.string (bs l)] W fun e w'=>∃(Cs:List (Vc×Sl)) (az ac:Option Addr) (cz cc:Nat),e=.returned (.tuple #[.agg #[.int .i64 (layR l:Int),.slice az (layN l) cz,.slice ac (layN l) cc],.bool true])/\Lay l (Cs.map Prod.fst)/\LisAt w' az ((layZ l).map Value.string)/\ColsAt w' ac Cs/\Free w' W.heap.size az ac Cs/\Below W.heap.size W w'):=fun W=>by
    refine(laidOut_any l hl W).mono ?_
    rintro e w' (h|⟨h,_⟩)
    ·exact h
    ·exact absurd hX (h Xs)
   have HW:Hid (∀W ac cc (Cs:List (Vc×Sl)),Lay l (Cs.map Prod.fst)->ColsAt W ac Cs->Calls Tryz.prog 20 #[.slice ac (layN l) cc] W fun e w'=>∃ps,e=.returned (.string (segB Cs.length (layR l) ps))/\Hid (Ps KP zP Cs ps)/\Below W.heap.size W w'):=fun W ac cc Cs h1 h2=>by
    have hl1:=h1.len
    have n1:=h1.n1
    have n2:=h1.n2
    rw[List.length_map] at hl1
    have:=swritten_any KP zP (layR l) h1.rows ac cc Cs W (by omega) (by omega) (fun x hx=>(h1.fit (List.mem_map_of_mem hx)).law) h2
    rw[hl1] at this ⊢
    exact this
   have HPS:Hid (∀(Cs:List (Vc×Sl)) ps,Ps KP zP Cs ps->ps.length=(Cs.map Prod.fst).length/\∀(i:Nat) (X:Vc) (p:ByteArray×ByteArray),(Cs.map Prod.fst)[i]?=some X->ps[i]?=some p->p.1=zP X/\KP X p.2):=fun Cs ps h=>⟨by rw[List.length_map];exact h.len,fun i X p h1 h2=>by
    rw[List.getElem?_map] at h1
    cases hc:Cs[i]? with
    | none=>rw[hc] at h1;cases h1
    | some c=>
     rw[hc] at h1
     simp at h1
     subst h1
     exact h.at_ i c p hc h2⟩
   by_cases hS:∃ps,Seg l Xs ps
   ·obtain⟨ps,hS⟩:=hS
    have HW2:Hid (∀W ac cc (Cs:List (Vc×Sl)),Lay l (Cs.map Prod.fst)->ColsAt W ac Cs->Calls Tryz.prog 20 #[.slice ac (layN l) cc] W fun e w'=>e=.returned (.string (bs l))/\Seg l (Cs.map Prod.fst) ps/\Below W.heap.size W w'):=fun W ac cc Cs h1 h2=>by
     refine(unhide HW W ac cc Cs h1 h2).mono ?_
     rintro e w' ⟨qs,rfl,hq,hb⟩
     obtain⟨p1,p2⟩:=unhide HPS Cs qs (unhide hq)
     obtain⟨e1,rfl⟩:=hS.one h1 p1 p2
     rw[e1]
     refine⟨?_,hS,hb⟩
     have:=hS.eq
     rw[<-e1,List.length_map] at this
     rw[this]
    clear HW HPS hX
    have HSS:=hide hS
    clear hS
    go_enter Tryz.func21,Tryz.ntmps21
    go_wp2_with (first
     | (go_at_call 43;refine(unhide HI _).mono ?_;rintro _ w1 ⟨rfl,hb1⟩;have HA1:=hide (rowIs_later (unhide HA) hb1);have HB1:=hide (below_step (below_alloc (Below.refl _ w) _) hb1);clear hb1)
     | (go_at_call 44;refine(unhide HL _).mono ?_;rintro _ w2 ⟨Cs,az,ac,cz,cc,rfl,h1,h2,h3,hfr,hb2⟩;have HFR0:=hide (hfr.later (below_alloc (Below.refl _ w2) (.cells #[.int .i64 (layR l:Int),.slice az (layN l) cz,.slice ac (layN l) cc] 62)));have HA2:=hide ((rowIs_later (unhide HA1) hb2).alloc (.cells #[.int .i64 (layR l:Int),.slice az (layN l) cz,.slice ac (layN l) cc] 62));have HG2:=hide (seg3_alloc w2 (layR l:Int) (.slice az (layN l) cz) (.slice ac (layN l) cc));have hbA:=below_alloc (Below.refl _ w2) (.cells #[.int .i64 (layR l:Int),.slice az (layN l) cz,.slice ac (layN l) cc] 62);have HC2:=hide (And.intro h1 (And.intro (h2.later hbA) (h3.later hbA)));have HB2:=hide (below_step (below_step (unhide HB1) hb2) hbA);have hg2:=(seg3_facts (unhide HG2)).1.2.2;clear h1 h2 h3 hb2 hbA hfr)
     | (go_at_call 20;refine(unhide HW2 _ _ _ Cs (unhide HC2).1 (unhide HC2).2.2).mono ?_;rintro _ w3 ⟨rfl,h4,hb3⟩;have HFR:=hide ((unhide HFR0).later hb3);have hA3:=rowIs_later (unhide HA2) hb3;have hG3:=rowIs_later (unhide HG2) hb3;obtain⟨⟨a0,a1,a2⟩,q0,q1,q2⟩:=seg3_facts hA3;obtain⟨⟨g0,g1,g2⟩,_⟩:=seg3_facts hG3;have hz:=hA3.lt;have HB3:=hide (below_step (unhide HB2) hb3);have HC3:=hide (And.intro ((unhide HC2).2.1.later hb3) ((unhide HC2).2.2.later hb3));have HS4:=hide h4;clear hA3 hG3 h4 hb3))
    have hxx:∀(u v x:Value) (i:Nat),w1.heap.size<=i->i<w3.heap.size->((((w3.setCell ⟨w.heap.size,0,none⟩ u).setCell ⟨w.heap.size,1,none⟩ v).setCell ⟨w.heap.size,2,none⟩ x)).heap[i]?=w3.heap[i]?:=fun u v x i hi _=>by
     have:=(unhide HA1).lt
     have hne:i≠w.heap.size:=by omega
     rw[Below.heap_setCell _ _ _ _ (by simpa using hne),Below.heap_setCell _ _ _ _ (by simpa using hne),Below.heap_setCell _ _ _ _ (by simpa using hne)]
    have hlw:w.heap.size<=w1.heap.size:=(unhide HB1).size
    refine bodyPost_ret (v:=.tuple #[.agg #[.int .i64 (layR l:Int),.slice az (layN l) cz,.slice ac (layN l) cc],.int .i64 0]) (by simp[results,Tryz.results21,go_sem, *]) rfl (.inl ⟨Cs,ps,az,ac,cz,cc,rfl,unhide HS4,lis_outside (unhide HC3).1 (unhide HFR).z (hxx _ _ _),cols_outside (unhide HC3).2 (unhide HFR).c (fun x hx=>((unhide HFR).v x hx).fresh) (hxx _ _ _),((unhide HFR).outside (hxx _ _ _)).less hlw,put3S (unhide HB3) _ _ _⟩)
   ·have HW2:Hid (∀W ac cc (Cs:List (Vc×Sl)),Lay l (Cs.map Prod.fst)->ColsAt W ac Cs->Calls Tryz.prog 20 #[.slice ac (layN l) cc] W fun e w'=>∃t,e=.returned (.string t)/\(t.toList == (bs l).toList)=false/\Below W.heap.size W w'):=fun W ac cc Cs h1 h2=>by
     refine(unhide HW W ac cc Cs h1 h2).mono ?_
     rintro e w' ⟨qs,rfl,hq,hb⟩
     obtain⟨p1,p2⟩:=unhide HPS Cs qs (unhide hq)
     obtain rfl:=h1.one hX
     refine⟨_,rfl,?_,hb⟩
     rw[beq_text]
     refine decide_eq_false fun e=>hS ⟨qs,h1,p1,p2,?_⟩
     rw[List.length_map]
     exact e
    have HNO:Hid (∀Xs ps,¬Seg l Xs ps):=fun Ys qs h=>hS ⟨qs,by rw[hX.one h.lay];exact h⟩
    clear HW HPS hX hS
    go_enter Tryz.func21,Tryz.ntmps21
    go_wp2_with (first
     | (go_at_call 43;refine(unhide HI _).mono ?_;rintro _ w1 ⟨rfl,hb1⟩;have HA1:=hide (rowIs_later (unhide HA) hb1);have HB1:=hide (below_step (below_alloc (Below.refl _ w) _) hb1);clear hb1)
     | (go_at_call 44;refine(unhide HL _).mono ?_;rintro _ w2 ⟨Cs,az,ac,cz,cc,rfl,h1,h2,h3,hfr,hb2⟩;have HA2:=hide ((rowIs_later (unhide HA1) hb2).alloc (.cells #[.int .i64 (layR l:Int),.slice az (layN l) cz,.slice ac (layN l) cc] 62));have HG2:=hide (seg3_alloc w2 (layR l:Int) (.slice az (layN l) cz) (.slice ac (layN l) cc));have hbA:=below_alloc (Below.refl _ w2) (.cells #[.int .i64 (layR l:Int),.slice az (layN l) cz,.slice ac (layN l) cc] 62);have HC2:=hide (And.intro h1 (h3.later hbA));have HB2:=hide (below_step (below_step (unhide HB1) hb2) hbA);have hg2:=(seg3_facts (unhide HG2)).1.2.2;clear h1 h2 h3 hb2 hbA hfr)
     | (go_at_call 20;refine(unhide HW2 _ _ _ Cs (unhide HC2).1 (unhide HC2).2).mono ?_;rintro _ w3 ⟨tt,rfl,h4,hb3⟩;have hA3:=rowIs_later (unhide HA2) hb3;obtain⟨⟨a0,a1,a2⟩,q0,q1,q2⟩:=seg3_facts hA3;have hz:=hA3.lt;have HB3:=hide (below_step (unhide HB2) hb3);clear hA3 hb3))
    refine bodyPost_ret (v:=.tuple #[.agg #[.int .i64 0,.slice none 0 0,.slice none 0 0],.int .i64 2]) (by simp[results,Tryz.results21,go_sem, *]) rfl (.inr ⟨unhide HNO,rfl,put3S (unhide HB3) _ _ _⟩)
  ·have HL:Hid (∀W,Calls Tryz.prog 44 #[.string (bs l)] W fun e w'=>e=.returned (.tuple #[.agg #[.int .i64 0,.slice none 0 0,.slice none 0 0],.bool false])/\Below W.heap.size W w'):=fun W=>by
    refine(laidOut_any l hl W).mono ?_
    rintro e w' (⟨Cs,_,_,_,_,_,h,_⟩|⟨_,h⟩)
    ·exact absurd ⟨_,h⟩ hL
    ·exact h
   have HNO:Hid (∀Xs ps,¬Seg l Xs ps):=fun Xs ps h=>hL ⟨Xs,h.lay⟩
   clear hL
   go_enter Tryz.func21,Tryz.ntmps21
   go_wp2_with (first
    | (go_at_call 43;refine(unhide HI _).mono ?_;rintro _ w1 ⟨rfl,hb1⟩;have HA1:=hide (rowIs_later (unhide HA) hb1);have HB1:=hide (below_step (below_alloc (Below.refl _ w) _) hb1);clear hb1)
    | (go_at_call 44;refine(unhide HL _).mono ?_;rintro _ w2 ⟨rfl,hb2⟩;have hA2:=rowIs_later (unhide HA1) hb2;obtain⟨⟨a0,a1,a2⟩,q0,q1,q2⟩:=seg3_facts hA2;have hz:=hA2.lt;have HB2:=hide (below_step (unhide HB1) hb2);clear hb2 hA2))
   refine bodyPost_ret (v:=.tuple #[.agg #[.int .i64 0,.slice none 0 0,.slice none 0 0],.int .i64 2]) (by simp[results,Tryz.results21,go_sem, *]) rfl (.inr ⟨unhide HNO,rfl,below_alloc (put3S (unhide HB2) _ _ _) _⟩)
end Go.Proofs.YtbfibfmnemnbbaaGreat
set_option linter.unusedSimpArgs false
set_option linter.unusedVariables false
set_option maxRecDepth 100000
namespace Go.Proofs.YtbfibfmnemnbbaaGreat
open Go.RowKit Go.Sort
theorem sop_yes{l:List UInt8}(hl:l.length<=140737488300000){Xs:List Vc}{ps:List (ByteArray×ByteArray)}(h:Seg l Xs ps)(w:World) :
  Calls Tryz.prog 21 #[.string (bs l)] w fun e w'=>∃(Cs:List (Vc×Sl)) (az ac:Option Addr) (cz cc:Nat),e=.returned (.tuple #[.agg #[.int .i64 (layR l:Int),.slice az (layN l) cz,.slice ac (layN l) cc],.int .i64 0])/\Cs.map Prod.fst=Xs/\LisAt w' az ((layZ l).map Value.string)/\ColsAt w' ac Cs/\Free w' w.heap.size az ac Cs/\Below w.heap.size w w':=by
 refine(sopened_any l hl w).mono ?_
 rintro e w' (⟨Cs,qs,az,ac,cz,cc,he,hs,h1,h2,h3,h4⟩|⟨hn,_⟩)
 ·exact⟨Cs,az,ac,cz,cc,he,hs.lay.one h.lay,h1,h2,h3,h4⟩
 ·exact absurd h (hn _ _)
theorem cols_at{w:World}{a:Option Addr}{Cs:List (Vc×Sl)}(h:ColsAt w a Cs){k:Nat}{c:Vc×Sl}(hc:Cs[k]?=some c):∃b off,a=some ⟨b,off,none⟩/\ColAt w b (off+k*4) c.1 c.2:=by
 rcases h.1 with e|⟨b,off,e,h1⟩
 ·subst e;simp at hc
 ·exact⟨b,off,e,h1 k c hc⟩
end Go.Proofs.YtbfibfmnemnbbaaGreat
set_option linter.unusedSimpArgs false
set_option linter.unusedVariables false
set_option maxHeartbeats 4000000
set_option maxRecDepth 100000
namespace Go.Proofs.YtbfibfmnemnbbaaGreat
open Go.RowKit Go.Sort
theorem xor_top(a:Nat)(h:a<18446744073709551616):a ^^^ 9223372036854775808=(a+9223372036854775808) % 18446744073709551616:=by
 have e1:(a ^^^ 9223372036854775808) / 2 ^ 63=a / 2 ^ 63 ^^^ 9223372036854775808 / 2 ^ 63:=Nat.xor_div_two_pow
 have e2:(a ^^^ 9223372036854775808) % 2 ^ 63=a % 2 ^ 63 ^^^ 9223372036854775808 % 2 ^ 63:=Nat.xor_mod_two_pow
 have e3:9223372036854775808 / 2 ^ 63=1:=by decide
 have e4:9223372036854775808 % 2 ^ 63=0:=by decide
 rw[e3] at e1
 rw[e4,Nat.xor_zero] at e2
 have e5:a / 2 ^ 63=0∨a / 2 ^ 63=1:=by omega
 have e6:=Nat.div_add_mod (a ^^^ 9223372036854775808) (2 ^ 63)
 rcases e5 with e|e
 ·rw[e] at e1
  have:(0 ^^^ 1:Nat)=1:=by decide
  omega
 ·rw[e] at e1
  have:(1 ^^^ 1:Nat)=0:=by decide
  omega
theorem xor_int(x:Int)(h0:0<=x)(h:x<18446744073709551616):bits BinOp.xor IntKind.u64 x 9223372036854775808=(x+9223372036854775808) % 18446744073709551616:=by
 obtain⟨a,rfl⟩:=Int.eq_ofNat_of_zero_le h0
 have:=bits_xor_u64_nat a 9223372036854775808 (by omega) (by omega)
 rw[show (9223372036854775808:Int)=((9223372036854775808:Nat):Int) from rfl,this,xor_top a (by omega)]
 omega
theorem keyU_eq(n:Int)(h:In64 n):keyU n=n+9223372036854775808:=by
 unfold keyU In64 at *
 rw[IntKind.wrap_u64,xor_int _ (by omega) (by omega)]
 omega
theorem or_step(U c:Int)(h0:0<=U)(h1:U<72057594037927936)(c0:0<=c)(c1:c<256):bits BinOp.or IntKind.u64 (IntKind.u64.wrap (U*256)) (IntKind.u64.wrap c)=U*256+c:=by
 obtain⟨a,rfl⟩:=Int.eq_ofNat_of_zero_le h0
 obtain⟨b,rfl⟩:=Int.eq_ofNat_of_zero_le c0
 rw[IntKind.wrap_u64,IntKind.wrap_u64,Int.emod_eq_of_lt (by omega) (by omega),Int.emod_eq_of_lt (by omega) (by omega)]
 have h:=bits_or_u64_nat (2 ^ 8*a) b (by omega) (by omega)
 rw[<-Nat.two_pow_add_eq_or_of_lt (by omega) a] at h
 rw[show (a:Int)*256=((2 ^ 8*a:Nat):Int) by omega,h]
 omega
def hor(l:List UInt8):Int:=l.foldl (fun U c=>U*256+(c.toNat:Int)) 0
theorem hor_snoc(l:List UInt8)(c:UInt8):hor (l++[c])=hor l*256+(c.toNat:Int):=by simp[hor]
theorem hor_nonneg(l:List UInt8):0<=hor l:=by
 suffices ∀(l:List UInt8) (U:Int),0<=U->0<=l.foldl (fun U c=>U*256+(c.toNat:Int)) U from this l 0 (by omega)
 intro l
 induction l with
 | nil=>intro U h;exact h
 | cons c l ih=>intro U h;exact ih _ (show 0<=U*256+(c.toNat:Int) by omega)
theorem hor_lt:∀(n:Nat) (l:List UInt8),l.length=n->hor l<256 ^ n:=by
 intro n
 induction n with
 | zero=>intro l h;have:l=[]:=List.eq_nil_of_length_eq_zero h;subst this;decide
 | succ n ih=>
  intro l h
  obtain⟨m,c,rfl⟩:∃m c,l=m++[c]:=⟨l.dropLast,l.getLast (by intro e;simp[e] at h),(List.dropLast_concat_getLast _).symm⟩
  rw[hor_snoc]
  have h1:=ih m (by simpa using h)
  have h2:=UInt8.toNat_lt c
  rw[Int.pow_succ]
  omega
def midB(s:ByteArray)(k:Nat):List UInt8:=(s.data.toList.drop 1).take k
theorem mid_succ(s:ByteArray)(k:Nat)(h:1+k<s.size):midB s (k+1)=midB s k++[s[1+k]]:=by
 unfold midB
 rw[List.take_succ_eq_append_getElem (by simp;omega)]
 simp
 simp only[Nat.add_comm k 1]
 rfl
theorem mid_len(s:ByteArray)(k:Nat)(h:1+k<=s.size):(midB s k).length=k:=by simp[midB];omega
theorem firstnum_any(s:ByteArray)(w:World)(h9:9<=s.size)(hs:s.size<=140737488300000) :
  Calls Tryz.prog 72 #[.string s] w fun e w'=>e=.returned (.tuple #[(Val.num (hor (midB s 8)-9223372036854775808)).v,.int .i64 9])/\Below w.heap.size w w':=by
 have hs':(s.size:Int)<=140737488300000:=by omega
 have h9':¬(s.size:Int)<9:=by omega
 go_enter Tryz.func72,Tryz.ntmps72
 go_wp2_with fail
 go_loop[4,10] (fun u i=>∃k:Nat,k<=8/\i=.int .i64 k/\u=.int .u64 (hor (midB s k))) (fun _ i=>8-(intOf i).toNat)
 case atStart=>exact⟨0,Nat.zero_le _,rfl,rfl⟩
 case round=>
  obtain⟨k,hk,rfl,rfl⟩:=hrel
  by_cases h8:k<8
  ·have i1:(k:Int)<8:=by omega
   have i2:1+(k:Int)<(s.size:Int):=by omega
   have i3:1+k<s.size:=by omega
   have HE:Hid (bits BinOp.or IntKind.u64 (IntKind.u64.wrap (hor (midB s k)*256)) (IntKind.u64.wrap (s[1+k].toNat:Int))=hor (midB s (k+1))):=by
    show _=_
    have h1:=hor_lt k (midB s k) (mid_len s k (by omega))
    have h2:(256:Int) ^ k<=256 ^ 7:=by
     rcases(show k=0∨k=1∨k=2∨k=3∨k=4∨k=5∨k=6∨k=7 by omega) with rfl|rfl|rfl|rfl|rfl|rfl|rfl|rfl<;>decide
    have h3:=UInt8.toNat_lt s[1+k]
    rw[or_step _ _ (hor_nonneg _) (by omega) (by omega) (by omega),mid_succ s k i3,hor_snoc]
   go_wp2
   go_round
   case rel=>exact⟨k+1,by omega,by go_num,congrArg (Value.int IntKind.u64) (unhide HE)⟩
   case measure=>simp[intOf];omega
  ·have hk8:k=8:=by omega
   subst hk8
   have HE:Hid (wrap64 (bits BinOp.xor IntKind.u64 (hor (midB s 8)) 9223372036854775808)=hor (midB s 8)-9223372036854775808):=by
    show _=_
    have h1:=hor_lt 8 (midB s 8) (mid_len s 8 (by omega))
    have h2:=hor_nonneg (midB s 8)
    rw[xor_int _ h2 (by omega)]
    unfold wrap64
    omega
   have HN:=hide (number_any (hor (midB s 8)-9223372036854775808))
   go_wp2_with (go_at_call 47;rw[unhide HE];refine(unhide HN _).mono ?_;rintro e w1 ⟨rfl,hb1⟩;obtain⟨hc1,hf1⟩:=bcell hb1;rw[Val.open_])
   refine bodyPost_ret (v:=.tuple #[(Val.num (hor (midB s 8)-9223372036854775808)).v,.int .i64 9]) (by simp[results,Tryz.results72,go_sem,Val.v,hc1,hf1]) rfl ⟨rfl,?_⟩
   exact((((((Below.refl _ _).alloc (Nat.le_refl _) _).trans (hb1.mono (by simp))).setCell (by simp) _).setCell (by simp) _).setCell (by simp) _)
theorem firstnum_no(s:ByteArray)(w:World)(h9:s.size<9) :
  Calls Tryz.prog 72 #[.string s] w fun e w'=>e=.returned (.tuple #[Val.null.v,.int .i64 0])/\Below w.heap.size w w':=by
 have h9':(s.size:Int)<9:=by omega
 go_enter Tryz.func72,Tryz.ntmps72
 go_wp2
 exact bodyPost_ret (v:=.tuple #[Val.null.v,.int .i64 0]) (by simp[results,Tryz.results72,go_sem,Val.v,Val.null]) rfl ⟨rfl,by repeat (first|exact Below.refl _ _|refine Below.alloc ?_ (by simp<;>omega) _|refine Below.setCell ?_ (by simp<;>omega) _)⟩
def addT(t:List Int)(m:Nat)(o:Option (List Int×Nat)):Option (List Int×Nat):=o.map fun p=>(t++p.1,m+p.2)
theorem addT_addT(t u:List Int)(m n:Nat)(o:Option (List Int×Nat)):addT t m (addT u n o)=addT (t++u) (m+n) o:=by
 cases o with
 | none=>rfl
 | some p=>simp[addT,List.append_assoc,Nat.add_assoc]
def firstT:List UInt8->Option (List Int×Nat)
 | []=>none
 | [_]=>none
 | c::d::r=>if c.toNat=0 then (if d.toNat=255 then addT [0] 2 (firstT r) else if d.toNat=1 then some ([],2) else none) else addT [(c.toNat:Int)] 1 (firstT (d::r))
def dropB(s:ByteArray)(k:Nat):List UInt8:=s.data.toList.drop k
theorem drop_cons(s:ByteArray)(k:Nat)(h:k<s.size):dropB s k=s[k]::dropB s (k+1):=by
 unfold dropB
 rw[List.drop_eq_getElem_cons (by simpa using h)]
 rfl
theorem drop_nil(s:ByteArray)(k:Nat)(h:s.size<=k):dropB s k=[]:=by
 unfold dropB
 exact List.drop_eq_nil_of_le (by simpa using h)
theorem ft_end(s:ByteArray)(k:Nat)(h:s.size<=k):firstT (dropB s k)=none:=by rw[drop_nil s k h];rfl
theorem ft_other(s:ByteArray)(k:Nat)(h:k<s.size)(h0:¬(s[k].toNat:Int)=0):firstT (dropB s k)=addT [(s[k].toNat:Int)] 1 (firstT (dropB s (k+1))):=by
 have h0':¬s[k].toNat=0:=by omega
 rw[drop_cons s k h]
 by_cases h1:k+1<s.size
 ·rw[drop_cons s (k+1) h1,firstT,if_neg h0']
 ·rw[drop_nil s (k+1) (by omega)];rfl
theorem ft_zero_end(s:ByteArray)(k:Nat)(h:k+1=s.size):firstT (dropB s k)=none:=by
 rw[drop_cons s k (by omega),drop_nil s (k+1) (by omega)];rfl
theorem ft_zero(s:ByteArray)(k:Nat)(h:k+1<s.size)(h0:(s[k].toNat:Int)=0):firstT (dropB s k)=if s[k+1].toNat=255 then addT [0] 2 (firstT (dropB s (k+2))) else if s[k+1].toNat=1 then some ([],2) else none:=by
 have h0':s[k].toNat=0:=by omega
 rw[drop_cons s k (by omega),drop_cons s (k+1) h,firstT,if_pos h0']
def gotV:Option (Val×Nat)->Value
 | some (x,n)=>.tuple #[x.v,.int .i64 n]
 | none=>.tuple #[Val.null.v,.int .i64 0]
def textV(o:Option (List Int×Nat)):Option (Val×Nat):=o.map fun p=>(.str (toB p.1),p.2+1)
def Z0(w:World):World:=w.alloc (.cells #[.int .i64 0,.int .i64 0,.string ⟨#[]⟩] 25)
theorem z0_facts{w wr:World}(hb:Below (w.heap.size+1) (Z0 w) wr):(wr.cell? ⟨w.heap.size,0,none⟩=some (.int .i64 0)/\wr.cell? ⟨w.heap.size,1,none⟩=some (.int .i64 0)/\wr.cell? ⟨w.heap.size,2,none⟩=some (.string ⟨#[]⟩))/\(wr.frozen? ⟨w.heap.size,0,none⟩=false/\wr.frozen? ⟨w.heap.size,1,none⟩=false/\wr.frozen? ⟨w.heap.size,2,none⟩=false)/\Below w.heap.size w wr:=
 ⟨⟨(hb.cell (p := ⟨w.heap.size, 0, none⟩) (by simp)).trans (by simp [Z0, go_sem]), (hb.cell (p := ⟨w.heap.size, 1, none⟩) (by simp)).trans (by simp [Z0, go_sem]), (hb.cell (p := ⟨w.heap.size, 2, none⟩) (by simp)).trans (by simp [Z0, go_sem])⟩,
  ⟨(hb.frozen (p := ⟨w.heap.size, 0, none⟩) (by simp)).trans (by simp [Z0, go_sem]), (hb.frozen (p := ⟨w.heap.size, 1, none⟩) (by simp)).trans (by simp [Z0, go_sem]), (hb.frozen (p := ⟨w.heap.size, 2, none⟩) (by simp)).trans (by simp [Z0, go_sem])⟩,
  ((Below.refl _ _).alloc (Nat.le_refl _) _).trans (hb.mono (by omega))⟩
theorem firsttext_any(s:ByteArray)(w:World)(h1:1<=s.size)(hs:s.size<=140737488300000) :
  Calls Tryz.prog 73 #[.string s] w fun e w'=>e=.returned (gotV (textV (firstT (dropB s 1))))/\Below w.heap.size w w':=by
 obtain⟨i0,hi,hz0,hz1,hz2⟩:=info_parts Tryz.info5
 have hs':(s.size:Int)<=140737488300000:=by omega
 go_enter Tryz.func73,Tryz.ntmps73
 go_wp2_with fail
 go_loopw[4,5] (fun v i wr=>∃(k:Nat) (t:List Int),1<=k/\k<=s.size/\i=.int .i64 k/\t.length<=k/\OwnB wr (w.heap.size+1) v t/\Hid (firstT (dropB s 1)=addT t (k-1) (firstT (dropB s k)))/\Below (w.heap.size+1) (Z0 w) wr) (fun _ i _=>s.size-(intOf i).toNat)
 case atStart=>exact⟨1,[],by omega,by omega,rfl,by simp,World.ownsRow_nil _ _ _ _,by show _=_;cases firstT (dropB s 1)<;>simp[addT],Below.refl _ _⟩
 case round=>
  obtain⟨k,t,hk1,hk2,rfl,ht,ho,HF,hb⟩:=hrel
  by_cases h8:k<s.size
  ·have i1:(k:Int)<(s.size:Int):=by omega
   by_cases h0:(s[k].toNat:Int)=0
   ·have h0':((s[k].toNat:Int) != 0)=false:=by simpa using h0
    by_cases h7:k+1<s.size
    ·have HE0:=hide (ft_zero s k h7 h0)
     have i2:(k:Int)+1<(s.size:Int):=by omega
     have i3:((k:Int)+1 == (s.size:Int))=false:=by simp;omega
     by_cases d1:(s[k+1].toNat:Int)=255
     ·have d1':((s[k+1].toNat:Int) == 255)=true:=by simpa using d1
      have HE:Hid (firstT (dropB s k)=addT [0] 2 (firstT (dropB s (k+2)))):=by show _=_;rw[unhide HE0,if_pos (by omega)]
      clear d1 h0 HE0
      go_wp2_with (at_builtin;refine wpList_append_own_at _ rfl (.tmp 34) (.tmp 35) 82 rfl (w.heap.size+1) 5 i0 (.int .u8 0) 1 1 Tryz.underlying82 hi hz0 hz1 hz2 rfl (by decide) _ _ _ rfl (World.ownsRow.alloc ho _) ⟨wr.heap.size,0,none⟩ 1 1 [.int .u8 0] rfl rfl (cell_one_new _ _ _) (by intro u hu;simp at hu;subst hu;rfl) (by unfold maxLen;omega) (by omega) (by have:=hb.size;simp[Z0] at this;simp;omega) ?_;intro v1 w1 hown1 hgrow1 _ hat1;have hg1:=Grew.app (Grew.refl wr u4) hgrow1 hat1;have ho1:=ownB_app (news:=[0]) rfl hown1;clear hown1 hgrow1 hat1)
      have hb1:Below (w.heap.size+1) (Z0 w) w1:=hb.trans (hg1.below (by have:=hb.size;simp[Z0] at this;omega) (fun g hg=>(ownB_lt ho hg).1))
      have hF:firstT (dropB s 1)=addT (t++[0]) (k+2-1) (firstT (dropB s (k+2))):=by
       rw[unhide HF,unhide HE,addT_addT]
       rw[show k-1+2=k+2-1 by omega]
      go_roundw
      case rel=>exact⟨k+2,t++[0],by omega,by omega,by go_num,by simp;omega,ho1,hF,hb1⟩
      case measure=>simp[intOf];omega
     ·have d1':((s[k+1].toNat:Int) == 255)=false:=by simpa using d1
      obtain⟨⟨f0,f1,f2⟩,⟨g0,g1,g2⟩,hbw⟩:=z0_facts hb
      by_cases d2:(s[k+1].toNat:Int)=1
      ·have d2':((s[k+1].toNat:Int) == 1)=true:=by simpa using d2
       have HE:Hid (gotV (textV (firstT (dropB s 1)))=.tuple #[(Val.str (toB t)).v,.int .i64 ((k:Int)+1+1)]):=by
        show _=_
        rw[unhide HF,unhide HE0,if_neg (by omega),if_pos (by omega)]
        simp only[addT,textV,gotV,Option.map_some,List.append_nil]
        rw[show ((k-1+2+1:Nat):Int)=(k:Int)+1+1 by omega]
       have hcv:=convert_own ho
       clear d1 d2 h0 HE0
       go_wp2_with (go_at_call 48;refine(text_any _ _).mono ?_;rintro e w1 ⟨rfl,hb1⟩;obtain⟨hc1,hf1⟩:=bcell hb1;rw[Val.open_];have hz1:w.heap.size<wr.heap.size:=World.block_lt_of_cell? _ _ f0)
       refine bodyPost_ret (v:=.tuple #[(Val.str (toB t)).v,.int .i64 ((k:Int)+1+1)]) (by simp[results,Tryz.results73,go_sem,Val.v,hc1,hf1,hz1,f0,f1,f2]) rfl ⟨by rw[unhide HE],?_⟩
       exact(((below_step hbw hb1).setCell (by simp) _).setCell (by simp) _).setCell (by simp) _
      ·have d2':((s[k+1].toNat:Int) == 1)=false:=by simpa using d2
       have HE:Hid (firstT (dropB s 1)=none):=by show _=_;rw[unhide HF,unhide HE0,if_neg (by omega),if_neg (by omega)];rfl
       clear d1 d2 h0 HE0
       go_wp2
       refine bodyPost_ret (v:=.tuple #[Val.null.v,.int .i64 0]) (by simp[results,Tryz.results73,go_sem,Val.v,Val.null,f0,f1,f2]) rfl ⟨by rw[unhide HE];rfl,?_⟩
       exact((hbw.setCell (by simp) _).setCell (by simp) _).setCell (by simp) _
    ·have HE:Hid (firstT (dropB s 1)=none):=by show _=_;rw[unhide HF,ft_zero_end s k (by omega)];rfl
     have i3:((k:Int)+1 == (s.size:Int))=true:=by simp;omega
     obtain⟨⟨f0,f1,f2⟩,⟨g0,g1,g2⟩,hbw⟩:=z0_facts hb
     clear h0
     go_wp2
     refine bodyPost_ret (v:=.tuple #[Val.null.v,.int .i64 0]) (by simp[results,Tryz.results73,go_sem,Val.v,Val.null,f0,f1,f2]) rfl ⟨by rw[unhide HE];rfl,?_⟩
     exact((hbw.setCell (by simp) _).setCell (by simp) _).setCell (by simp) _
   ·have h0':((s[k].toNat:Int) != 0)=true:=by simpa using h0
    have HE:=hide (ft_other s k h8 h0)
    clear h0
    go_wp2_with (at_builtin;refine wpList_append_own_at _ rfl (.tmp 16) (.tmp 20) 82 rfl (w.heap.size+1) 5 i0 (.int .u8 0) 1 1 Tryz.underlying82 hi hz0 hz1 hz2 rfl (by decide) _ _ _ rfl (World.ownsRow.alloc ho _) ⟨wr.heap.size,0,none⟩ 1 1 [.int .u8 (s[k].toNat:Int)] rfl rfl (cell_one_new _ _ _) (by intro u hu;simp at hu;subst hu;rfl) (by unfold maxLen;omega) (by omega) (by have:=hb.size;simp[Z0] at this;simp;omega) ?_;intro v1 w1 hown1 hgrow1 _ hat1;have hg1:=Grew.app (Grew.refl wr u4) hgrow1 hat1;have ho1:=ownB_app (news:=[(s[k].toNat:Int)]) rfl hown1;clear hown1 hgrow1 hat1)
    have hb1:Below (w.heap.size+1) (Z0 w) w1:=hb.trans (hg1.below (by have:=hb.size;simp[Z0] at this;omega) (fun g hg=>(ownB_lt ho hg).1))
    have hF:firstT (dropB s 1)=addT (t++[(s[k].toNat:Int)]) (k+1-1) (firstT (dropB s (k+1))):=by
     rw[unhide HF,unhide HE,addT_addT]
     rw[show k-1+1=k+1-1 by omega]
    go_roundw
    case rel=>exact⟨k+1,t++[(s[k].toNat:Int)],by omega,by omega,by go_num,by simp;omega,ho1,hF,hb1⟩
    case measure=>simp[intOf];omega
  ·have hk:k=s.size:=by omega
   have i1:¬(k:Int)<(s.size:Int):=by omega
   have HE:Hid (firstT (dropB s 1)=none):=by show _=_;rw[unhide HF,ft_end s k (by omega)];rfl
   obtain⟨⟨f0,f1,f2⟩,⟨g0,g1,g2⟩,hbw⟩:=z0_facts hb
   clear hk
   go_wp2
   refine bodyPost_ret (v:=.tuple #[Val.null.v,.int .i64 0]) (by simp[results,Tryz.results73,go_sem,Val.v,Val.null,f0,f1,f2]) rfl ⟨by rw[unhide HE];rfl,?_⟩
   exact((hbw.setCell (by simp) _).setCell (by simp) _).setCell (by simp) _
def firstV(s:ByteArray):Option (Val×Nat):=
 match dropB s 0 with
 | []=>none
 | c::_=>if c.toNat=1 then some (.null,1)
  else if c.toNat=2 then (if 9<=s.size then some (.num (hor (midB s 8)-9223372036854775808),9) else none)
  else if c.toNat=3 then textV (firstT (dropB s 1)) else none
theorem firstV_eq(s:ByteArray)(h:0<s.size):firstV s=if s[0].toNat=1 then some (.null,1)
  else if s[0].toNat=2 then (if 9<=s.size then some (.num (hor (midB s 8)-9223372036854775808),9) else none)
  else if s[0].toNat=3 then textV (firstT (dropB s 1)) else none:=by
 unfold firstV
 rw[drop_cons s 0 h]
theorem gotV_form(o:Option (Val×Nat)):∃x n,gotV o=.tuple #[x.v,.int .i64 (n:Nat)]/\(∀p,o=some p->x=p.1/\n=p.2)/\(o=none->x=.null/\n=0):=by
 cases o with
 | none=>exact⟨.null,0,rfl,(fun p h=>by cases h),(fun _=>⟨rfl,rfl⟩)⟩
 | some p=>exact⟨p.1,p.2,rfl,(fun q h=>by cases h;exact⟨rfl,rfl⟩),(fun h=>by cases h)⟩
theorem firstval_any(s:ByteArray)(w:World)(h1:0<s.size)(hs:s.size<=140737488300000) :
  Calls Tryz.prog 49 #[.string s] w fun e w'=>e=.returned (gotV (firstV s))/\Below w.heap.size w w':=by
 have e:=firstV_eq s h1
 have i0:(0:Int)<(s.size:Int):=by omega
 by_cases c1:(s[0].toNat:Int)=1
 ·have c1':((s[0].toNat:Int) == 1)=true:=by simpa using c1
  rw[if_pos (by omega)] at e
  rw[e]
  clear e c1
  go_enter Tryz.func49,Tryz.ntmps49
  go_wp2
  exact bodyPost_ret (v:=.tuple #[Val.null.v,.int .i64 1]) (by simp[results,Tryz.results49,go_sem,Val.v,Val.null]) rfl ⟨rfl,by repeat (first|exact Below.refl _ _|refine Below.alloc ?_ (by simp<;>omega) _|refine Below.setCell ?_ (by simp<;>omega) _)⟩
 ·have c1':((s[0].toNat:Int) == 1)=false:=by simpa using c1
  rw[if_neg (by omega)] at e
  by_cases c2:(s[0].toNat:Int)=2
  ·have c2':((s[0].toNat:Int) == 2)=true:=by simpa using c2
   rw[if_pos (by omega)] at e
   have HC:Hid (∀w,Calls Tryz.prog 72 #[.string s] w fun e w'=>e=.returned (gotV (firstV s))/\Below w.heap.size w w'):=by
    intro w
    rw[e]
    by_cases h9:9<=s.size
    ·rw[if_pos h9];exact firstnum_any s w h9 hs
    ·rw[if_neg h9];exact firstnum_no s w (by omega)
   obtain⟨x,n,hg,_,_⟩:=gotV_form (firstV s)
   rw[hg] at HC ⊢
   clear e c1 c2 hg
   go_enter Tryz.func49,Tryz.ntmps49
   go_wp2_with (go_at_call 72;refine(unhide HC _).mono ?_;rintro e w1 ⟨rfl,hb1⟩;obtain⟨hc1,hf1⟩:=bcell hb1;rw[Val.open_])
   refine bodyPost_ret (v:=.tuple #[x.v,.int .i64 n]) (by simp[results,Tryz.results49,go_sem,Val.v,hc1,hf1]) rfl ⟨rfl,?_⟩
   exact((((((Below.refl _ _).alloc (Nat.le_refl _) _).trans (hb1.mono (by simp))).setCell (by simp) _).setCell (by simp) _).setCell (by simp) _)
  ·have c2':((s[0].toNat:Int) == 2)=false:=by simpa using c2
   rw[if_neg (by omega)] at e
   by_cases c3:(s[0].toNat:Int)=3
   ·have c3':((s[0].toNat:Int) == 3)=true:=by simpa using c3
    rw[if_pos (by omega)] at e
    have HC:Hid (∀w,Calls Tryz.prog 73 #[.string s] w fun e w'=>e=.returned (gotV (firstV s))/\Below w.heap.size w w'):=by
     intro w
     rw[e]
     exact firsttext_any s w h1 hs
    obtain⟨x,n,hg,_,_⟩:=gotV_form (firstV s)
    rw[hg] at HC ⊢
    clear e c1 c2 c3 hg
    go_enter Tryz.func49,Tryz.ntmps49
    go_wp2_with (go_at_call 73;refine(unhide HC _).mono ?_;rintro e w1 ⟨rfl,hb1⟩;obtain⟨hc1,hf1⟩:=bcell hb1;rw[Val.open_])
    refine bodyPost_ret (v:=.tuple #[x.v,.int .i64 n]) (by simp[results,Tryz.results49,go_sem,Val.v,hc1,hf1]) rfl ⟨rfl,?_⟩
    exact((((((Below.refl _ _).alloc (Nat.le_refl _) _).trans (hb1.mono (by simp))).setCell (by simp) _).setCell (by simp) _).setCell (by simp) _)
   ·have c3':((s[0].toNat:Int) == 3)=false:=by simpa using c3
    rw[if_neg (by omega)] at e
    rw[e]
    clear e c1 c2 c3
    go_enter Tryz.func49,Tryz.ntmps49
    go_wp2
    exact bodyPost_ret (v:=.tuple #[Val.null.v,.int .i64 0]) (by simp[results,Tryz.results49,go_sem,Val.v,Val.null]) rfl ⟨rfl,by repeat (first|exact Below.refl _ _|refine Below.alloc ?_ (by simp<;>omega) _|refine Below.setCell ?_ (by simp<;>omega) _)⟩
end Go.Proofs.YtbfibfmnemnbbaaGreat
set_option linter.unusedSimpArgs false
set_option linter.unusedVariables false
set_option maxHeartbeats 4000000
set_option maxRecDepth 100000
namespace Go.Proofs.YtbfibfmnemnbbaaGreat
open Go.RowKit Go.Sort
theorem ownV_lt2{w:World}{base:Nat}{v:Value}{xs:List Val}(h:OwnV w base v xs){g:Nat}(hg:v.ownBlock=some g):base<=g/\g<w.heap.size:=World.ownsRow.lt h g hg
theorem addT_some{t u:List Int}{m n:Nat}{o:Option (List Int×Nat)}(h:addT t m o=some (u,n)):∃u' n',o=some (u',n')/\n=m+n':=by
 cases o with
 | none=>simp[addT] at h
 | some p=>simp[addT] at h;exact⟨p.1,p.2,rfl,by omega⟩
theorem firstT_n:∀(N:Nat) (l:List UInt8) (t:List Int) (m:Nat),l.length<=N->firstT l=some (t,m)->m<=l.length:=by
 intro N
 induction N with
 | zero=>intro l t m hl h;have:l=[]:=List.eq_nil_of_length_eq_zero (by omega);subst this;simp[firstT] at h
 | succ N ih=>
  intro l t m hl h
  match l,hl,h with
  | [],_,h=>simp[firstT] at h
  | [c],_,h=>simp[firstT] at h
  | c::d::r,hl,h=>
   simp only[List.length_cons] at hl
   rw[firstT] at h
   split at h
   ·split at h
    ·obtain⟨u',n',h1,h2⟩:=addT_some h
     have:=ih r u' n' (by omega) h1
     simp only[List.length_cons]
     omega
    ·split at h
     ·simp at h;simp only[List.length_cons];omega
     ·cases h
   ·obtain⟨u',n',h1,h2⟩:=addT_some h
    have:=ih (d::r) u' n' (by simp only[List.length_cons];omega) h1
    simp only[List.length_cons] at *
    omega
theorem firstV_n{s:ByteArray}{x:Val}{n:Nat}(h:firstV s=some (x,n)):1<=n/\n<=s.size:=by
 by_cases h0:0<s.size
 ·rw[firstV_eq s h0] at h
  split at h
  ·simp at h;omega
  ·split at h
   ·split at h
    ·simp at h;omega
    ·cases h
   ·split at h
    ·cases hf:firstT (dropB s 1) with
     | none=>rw[hf] at h;simp[textV] at h
     | some p=>
      rw[hf] at h
      simp[textV] at h
      have:=firstT_n _ _ p.1 p.2 (Nat.le_refl _) hf
      simp[dropB] at this
      omega
    ·cases h
 ·rw[firstV,drop_nil s 0 (by omega)] at h
  cases h
def rowD:Nat->ByteArray->Option (List Val)
 | 0,s=>if s.size=0 then some [] else none
 | f+1,s=>if s.size=0 then some [] else match firstV s with
  | none=>none
  | some (x,n)=>(rowD f (s.extract n s.size)).map (x :: ·)
theorem rowD_more:∀(f:Nat) (s:ByteArray),s.size<=f->rowD (f+1) s=rowD f s:=by
 intro f
 induction f with
 | zero => intro s h; have h0 : s.size = 0 := by omega
           simp [rowD, h0]
 | succ f ih=>
  intro s h
  rw[rowD]
  by_cases h0:s.size=0
  ·simp[rowD,h0]
  ·rw[if_neg h0]
   rw[rowD,if_neg h0]
   cases hf:firstV s with
   | none=>rfl
   | some p=>
    obtain⟨x,n⟩:=p
    have:=firstV_n hf
    simp only
    rw[ih _ (by simp;omega)]
theorem rowD_fuel(s:ByteArray):∀(f:Nat),s.size<=f->rowD f s=rowD s.size s:=by
 intro f h
 induction f with
 | zero => have : s.size = 0 := by omega
           rw [this]
 | succ f ih=>
  by_cases h1:s.size=f+1
  ·rw[h1]
  ·rw[rowD_more f s (by omega),ih (by omega)]
def decode(s:ByteArray):Option (List Val):=rowD s.size s
theorem decode_nil(s:ByteArray)(h:s.size=0):decode s=some []:=by
 unfold decode;rw[h];simp[rowD,h]
theorem decode_none(s:ByteArray)(h:0<s.size)(hf:firstV s=none):decode s=none:=by
 unfold decode
 obtain⟨m,hm⟩:∃m,s.size=m+1:=⟨s.size-1,by omega⟩
 rw[hm,rowD,if_neg (by omega),hf]
theorem decode_some(s:ByteArray)(x:Val)(n:Nat)(hf:firstV s=some (x,n)):decode s=(decode (s.extract n s.size)).map (x :: ·):=by
 have h1:=firstV_n hf
 unfold decode
 obtain⟨m,hm⟩:∃m,s.size=m+1:=⟨s.size-1,by omega⟩
 have e:rowD s.size s=(rowD m (s.extract n s.size)).map (x :: ·):=by
  conv=>lhs;rw[hm]
  rw[rowD,if_neg (by omega),hf]
 rw[e,rowD_fuel _ m (by simp;omega)]
def GotRow(w':World)(base:Nat)(o:Option (List Val))(e:Ending):Prop:=
 match o with
 | some xs=>∃v,e=.returned (.tuple #[v,.int .i64 0])/\OwnV w' base v xs
 | none=>e=.returned (.tuple #[.slice none 0 0,.int .i64 2])
def strLen:Value->Nat
 | .string s=>s.size
 | _=>0
theorem crow_any(s:ByteArray)(w:World)(hs:s.size<=1000000000) :
  Calls Tryz.prog 24 #[.string s] w fun e w'=>GotRow w' w.heap.size (decode s) e/\Below w.heap.size w w':=by
 obtain⟨i0,hi,hz0,hz1,hz2⟩:=info_parts Tryz.info25
 go_enter Tryz.func24,Tryz.ntmps24
 go_wp2_with fail
 go_loopw[0,4] (fun key v wr=>∃(s':ByteArray) (xs:List Val),key=.string s'/\xs.length+s'.size<=s.size/\OwnV wr w.heap.size v xs/\Hid (decode s=(decode s').map (xs++·))/\Below w.heap.size w wr) (fun key _ _=>strLen key)
 case atStart=>exact⟨s,[],rfl,by simp,World.ownsRow_lit w #[] 0 (Nat.le_refl _) (by decide) rfl,by show _=_;cases decode s<;>simp,(Below.refl _ _).alloc (Nat.le_refl _) _⟩
 case round=>
  obtain⟨s',xs,rfl,hl,ho,HD,hb⟩:=hrel
  by_cases h1:0<s'.size
  ·have i1:(0:Int)<(s'.size:Int):=by omega
   cases hf:firstV s' with
   | none=>
    have HE:Hid (decode s=none):=by show _=_;rw[unhide HD,decode_none s' h1 hf];rfl
    have HC:Hid (∀w,Calls Tryz.prog 49 #[.string s'] w fun e w'=>e=.returned (.tuple #[Val.null.v,.int .i64 0])/\Below w.heap.size w w'):=by
     intro w
     have:=firstval_any s' w h1 (by omega)
     rw[hf] at this
     exact this
    clear hf
    go_wp2_with (go_at_call 49;refine(unhide HC _).mono ?_;rintro e w1 ⟨rfl,hb1⟩;rw[Val.open_])
    go_ret2
    exact⟨by rw[unhide HE];rfl,below_alloc (below_step hb hb1) _⟩
   | some p=>
    obtain⟨x,n⟩:=p
    have hn:=firstV_n hf
    have HE:Hid (decode s=(decode (s'.extract n s'.size)).map ((xs++[x])++·)):=by
     show _=_
     rw[unhide HD,decode_some s' x n hf]
     cases decode (s'.extract n s'.size)<;>simp
    have HC:Hid (∀w,Calls Tryz.prog 49 #[.string s'] w fun e w'=>e=.returned (.tuple #[x.v,.int .i64 n])/\Below w.heap.size w w'):=by
     intro w
     have:=firstval_any s' w h1 (by omega)
     rw[hf] at this
     exact this
    obtain⟨hn1,hn2⟩:=hn
    have i2:((n:Int) == 0)=false:=by simp;omega
    have i3:(n:Int)<=(s'.size:Int):=by omega
    clear hf
    go_wp2_with (first
     | (go_at_call 49;refine(unhide HC _).mono ?_;rintro e w1 ⟨rfl,hb1⟩;rw[Val.open_];have ho1:=ho.later hb1;have hbw:=below_step hb hb1)
     | (at_builtin;refine wpList_append_own_at _ rfl (.tmp 18) (.tmp 20) 36 rfl w.heap.size 25 i0 (.agg #[.int .i64 0,.int .i64 0,.string ⟨#[]⟩]) 3 32 Tryz.underlying36 hi hz0 hz1 hz2 rfl (by decide) _ _ _ rfl (World.ownsRow.alloc (World.ownsRow.alloc ho1 _) _) ⟨w1.heap.size+1,0,none⟩ 1 1 (c3 x) rfl rfl ?_ (by intro u hu;simp[c3] at hu;rcases hu with rfl|rfl|rfl<;>rfl) (by unfold maxLen;omega) (by omega) (by have:=hbw.size;simp;omega) ?_;rotate_right;intro v1 w2 hown1 hgrow1 _ hat1;have hg1:=Grew.app2 hgrow1 hat1;have ho2:=ownV_app hown1;clear hown1 hgrow1 hat1))
    ·have hg2:Grew w1 w2 u4 v1:=hg1
     have hb2:Below w.heap.size w w2:=hbw.trans (hg2.below hbw.size (fun g hg=>(ownV_lt2 ho1 hg).1))
     have hsz:(s'.extract n s'.size).size=s'.size-n:=by simp
     clear hg1 hg2
     go_roundw
     case rel=>exact⟨_,xs++[x],rfl,by rw[hsz,List.length_append,List.length_singleton];omega,ho2,HE,hb2⟩
     case measure=>simp only[strLen];omega
    ·intro j u hj
     match j,hj with
     | 0,hj=>simp[c3] at hj;subst hj;simp[Addr.add,go_sem]
     | 1,hj=>simp[c3] at hj;subst hj;simp[Addr.add,go_sem]
     | 2,hj=>simp[c3] at hj;subst hj;simp[Addr.add,go_sem]
     | j+3,hj=>simp[c3] at hj
  ·have h0:s'.size=0:=by omega
   have i1:¬(0:Int)<(s'.size:Int):=by omega
   have HE:Hid (decode s=some xs):=by show _=_;rw[unhide HD,decode_nil s' h0];simp
   clear h0
   go_wp2
   go_ret2
   exact⟨by rw[unhide HE];exact⟨_,rfl,ho⟩,hb⟩
end Go.Proofs.YtbfibfmnemnbbaaGreat
set_option linter.unusedSimpArgs false
set_option linter.unusedVariables false
set_option maxRecDepth 100000
namespace Go.Proofs.YtbfibfmnemnbbaaGreat
open Go.RowKit Go.Sort
theorem toB_listM(zs:List Int):(toB zs).data.toList=zs.map ofI:=by rw[toB_eq]
theorem ofI_natM(c:UInt8):ofI (c.toNat:Int)=c:=by simp[ofI]
def Byt(z:Int):Prop:=0<=z/\z<256
theorem be_val(U:Int):be U 0=U / 72057594037927936 % 256/\be U 1=U / 281474976710656 % 256/\be U 2=U / 1099511627776 % 256/\be U 3=U / 4294967296 % 256/\be U 4=U / 16777216 % 256/\be U 5=U / 65536 % 256/\be U 6=U / 256 % 256/\be U 7=U % 256:=by
 refine⟨?_,?_,?_,?_,?_,?_,?_,?_⟩<;>simp[be]
theorem be_sum(U:Int)(h0:0<=U)(h:U<18446744073709551616):U=be U 0*72057594037927936+be U 1*281474976710656+be U 2*1099511627776+be U 3*4294967296+be U 4*16777216+be U 5*65536+be U 6*256+be U 7:=by
 obtain⟨e0,e1,e2,e3,e4,e5,e6,e7⟩:=be_val U
 omega
theorem be_byt(U:Int)(k:Nat):Byt (be U k):=by unfold Byt be;omega
theorem be8_eq(U:Int):be8 U 8=[be U 0,be U 1,be U 2,be U 3,be U 4,be U 5,be U 6,be U 7]:=rfl
theorem kinds(x:Val):(x.k=1/\cleanV x=.num x.n/\encV x=2::be8 (keyU x.n) 8)∨(x.k=2/\cleanV x=.str x.s/\encV x=3::(encT x.s.data.toList++[0,1]))∨(cleanV x=.null/\encV x=[1]):=by
 by_cases h1:x.k=1
 ·exact .inl ⟨h1,by simp[cleanV,h1],by simp[encV,h1]⟩
 ·by_cases h2:x.k=2
  ·exact .inr (.inl ⟨h2,by simp[cleanV,h2],by simp[encV,h2]⟩)
  ·exact .inr (.inr ⟨by simp[cleanV,h1,h2],by simp[encV,h1,h2]⟩)
theorem hor_be(U:Int)(h0:0<=U)(h:U<18446744073709551616):hor ((be8 U 8).map ofI)=U:=by
 have e:=be_sum U h0 h
 have t:∀k,((ofI (be U k)).toNat:Int)=be U k:=by
  intro k
  have:=be_byt U k
  unfold Byt at this
  simp[ofI]
  omega
 rw[be8_eq]
 simp only[hor,List.map_cons,List.map_nil,List.foldl_cons,List.foldl_nil,t]
 omega
theorem firstT_enc:∀(l:List UInt8) (r:List UInt8),firstT ((encT l).map ofI++0::1::r)=some (l.map (fun c=>(c.toNat:Int)),(encT l).length+2)
 | [],r=>rfl
 | c::l,r=>by
  have ih:=firstT_enc l r
  by_cases hc:c.toNat=0
  ·have e:(encT (c::l)).map ofI++0::1::r=c::255::((encT l).map ofI++0::1::r):=by
    simp[encT,hc]
    exact⟨by rw[<-ofI_natM c,hc];rfl,rfl⟩
   rw[e,firstT,if_pos hc,if_pos (by decide),ih]
   simp[addT,encT,hc]
   omega
  ·have e:(encT (c::l)).map ofI++0::1::r=c::((encT l).map ofI++0::1::r):=by
    simp[encT,hc,ofI_natM]
   have e2:∃d t,(encT l).map ofI++0::1::r=d::t:=by
    cases (encT l).map ofI with
    | nil=>exact⟨0,_,rfl⟩
    | cons d t=>exact⟨d,_,rfl⟩
   obtain⟨d,t,e3⟩:=e2
   rw[e,e3,firstT,if_neg hc,<-e3,ih]
   simp[addT,encT,hc]
   omega
theorem toB_bytes(s:ByteArray):toB (s.data.toList.map (fun c=>(c.toNat:Int)))=s:=by
 apply WideShapes.bytes_inj
 rw[toB_listM,List.map_map]
 have:(ofI ∘ fun c:UInt8=>(c.toNat:Int))=id:=by funext c;exact ofI_natM c
 rw[this,List.map_id]
theorem dropB_toB(zs:List Int)(k:Nat):dropB (toB zs) k=(zs.drop k).map ofI:=by
 unfold dropB
 rw[toB_listM,List.map_drop]
theorem toB_extract(a b:List Int):(toB (a++b)).extract a.length (toB (a++b)).size=toB b:=by
 apply WideShapes.bytes_inj
 rw[Lib.extract_data,toB_listM,toB_listM,toB_size]
 simp
 exact List.take_of_length_le (by simp)
theorem firstV_enc(x:Val)(hx:In64 x.n)(r:List Int):firstV (toB (encV x++r))=some (cleanV x,(encV x).length):=by
 have hpos:0<(toB (encV x++r)).size:=by
  rw[toB_size]
  rcases kinds x with ⟨_,_,ex⟩|⟨_,_,ex⟩|⟨_,ex⟩<;>simp[ex]
 unfold firstV
 rw[dropB_toB]
 rcases kinds x with ⟨_,cx,ex⟩|⟨_,cx,ex⟩|⟨cx,ex⟩
 ·rw[ex,cx]
  have eU:=keyU_eq x.n hx
  unfold In64 at hx
  have hm:midB (toB (2::be8 (keyU x.n) 8++r)) 8=(be8 (keyU x.n) 8).map ofI:=by
   unfold midB
   rw[toB_listM]
   simp[be8_eq]
  have h9:9<=(toB (2::be8 (keyU x.n) 8++r)).size:=by rw[toB_size];simp[be8_len]
  simp only[List.cons_append,List.drop_zero,List.map_cons] at *
  rw[if_neg (by decide),if_pos (by decide),if_pos h9,hm,hor_be _ (by omega) (by omega),eU]
  simp[be8_len]
 ·rw[ex,cx]
  have hd:dropB (toB (3::(encT x.s.data.toList++[0,1])++r)) 1=(encT x.s.data.toList).map ofI++0::1::r.map ofI:=by
   rw[dropB_toB]
   simp
   exact⟨rfl,rfl⟩
  simp only[List.cons_append,List.drop_zero,List.map_cons] at *
  rw[if_neg (by decide),if_neg (by decide),if_pos (by decide),hd,firstT_enc]
  simp[textV,toB_bytes]
 ·rw[ex,cx]
  simp only[List.cons_append,List.drop_zero,List.map_cons]
  rw[if_pos (by decide)]
  simp
theorem decode_key:∀(xs:List Val),(∀x∈xs,In64 x.n)->decode (toB (keyL xs))=some (xs.map cleanV)
 | [],_=>decode_nil _ (by rw[toB_size];rfl)
 | x::xs,hx=>by
  have ih:=decode_key xs (fun z hz=>hx z (by simp[hz]))
  have e:keyL (x::xs)=encV x++keyL xs:=by simp[keyL]
  rw[e,decode_some _ _ _ (firstV_enc x (hx x (by simp)) (keyL xs)),toB_extract,ih]
  simp
end Go.Proofs.YtbfibfmnemnbbaaGreat
set_option linter.unusedSimpArgs false
set_option linter.unusedVariables false
set_option maxRecDepth 100000
namespace Go.Proofs.YtbfibfmnemnbbaaGreat
open Go.RowKit Go.Sort
theorem be_take(U n:Nat)(r:List UInt8)(h:U<256 ^ n):beV ((en (beL (U:Int) n n)++r).take n)=U/\(en (beL (U:Int) n n)++r).drop n=r:=by
 have:=numD_app U n r h
 unfold numD at this
 rw[if_pos (by rw[List.length_append,en_len,beL_length];omega)] at this
 simp only[Option.some.injEq,Prod.mk.injEq] at this
 exact this
theorem txt_take(s:ByteArray)(r:List UInt8):bs ((en (txt s)++r).take s.size)=s/\(en (txt s)++r).drop s.size=r:=by
 have hl:(en (txt s)).length=s.size:=by rw[en_len,txt_len]
 refine⟨?_,by rw[<-hl,List.drop_left]⟩
 rw[<-hl,List.take_left,en_txt,bs_of]
theorem zst_hd(T:List UInt8):∀(ps:List (ByteArray×ByteArray)) (k:Nat),(∀p∈ps,p.1.size<=10000)->(∀p∈ps,p.2.size<=100000000)->k<=ps.length->zst k (en (hdL ps)++T)=((ps.take k).map (fun p=>(p.1,p.2.size)),en (hdL (ps.drop k))++T)
 | ps,0,_,_,_=>by simp[zst]
 | ps,k+1,h1,h2,hk=>by
  have ih:=zst_hd T ps k h1 h2 (by omega)
  have hlt:k<ps.length:=by omega
  have e:ps.drop k=ps[k]::ps.drop (k+1):=List.drop_eq_getElem_cons hlt
  have hm:=List.getElem_mem hlt
  have b1:=h1 _ hm
  have b2:=h2 _ hm
  obtain⟨p,hp⟩:∃p,ps[k]=p:=⟨_,rfl⟩
  rw[hp] at e b1 b2
  have e2:en (hdL (ps.drop k))++T=en (beL ((p.1.size:Nat):Int) 2 2)++(en (txt p.1)++(en (beL ((p.2.size:Nat):Int) 4 4)++(en (hdL (ps.drop (k+1)))++T))):=by
   rw[e]
   simp only[hdL,List.flatMap_cons,hd1,en_append,List.append_assoc]
  obtain⟨u1,u2⟩:=be_take p.1.size 2 (en (txt p.1)++(en (beL ((p.2.size:Nat):Int) 4 4)++(en (hdL (ps.drop (k+1)))++T))) (by have:(256:Nat) ^ 2=65536:=(by decide);omega)
  obtain⟨v1,v2⟩:=txt_take p.1 (en (beL ((p.2.size:Nat):Int) 4 4)++(en (hdL (ps.drop (k+1)))++T))
  obtain⟨x1,x2⟩:=be_take p.2.size 4 (en (hdL (ps.drop (k+1)))++T) (by have:(256:Nat) ^ 4=4294967296:=(by decide);omega)
  rw[zst,ih]
  simp only
  rw[e2]
  unfold z1 zr
  rw[u1,u2,v1,v2,x1,x2,List.take_succ_eq_append_getElem hlt,hp]
  simp
theorem colR_bd(T:List UInt8)(ps:List (ByteArray×ByteArray)):∀k,k<=ps.length->colR (ps.map fun p=>p.2.size) k (en (bdL ps)++T)=en (bdL (ps.drop k))++T
 | 0,_=>by simp[colR]
 | k+1,hk=>by
  have hlt:k<ps.length:=by omega
  have e:ps.drop k=ps[k]::ps.drop (k+1):=List.drop_eq_getElem_cons hlt
  rw[colR,colR_bd T ps k (by omega),e]
  have eg:(ps.map fun p=>p.2.size).getD k 0=ps[k].2.size:=by simp[List.getD,List.getElem?_eq_getElem hlt]
  rw[eg]
  simp only[bdL,List.flatMap_cons,en_append,List.append_assoc]
  exact(txt_take ps[k].2 _).2
theorem toB_bs(zs:List Int):toB zs=bs (en zs):=by
 apply ByteArray.ext
 apply Array.toList_inj.1
 rw[toB_list]
 rfl
theorem segB_list(n rows:Nat)(ps:List (ByteArray×ByteArray)):∃C:List UInt8,C.length=4/\segB n rows ps=bs ([83,49]++(en (beL (n:Int) 1 1)++(en (beL (rows:Int) 4 4)++(en (hdL ps)++(en (bdL ps)++C))))):=by
 refine⟨en (beL (sumB (toB ((frontL n rows++hdL ps)++bdL ps)):Nat) 4 4),by rw[en_len,beL_length],?_⟩
 unfold segB sealB
 rw[<-toB_append,toB_bs]
 simp only[frontL,en_append,List.append_assoc]
 rfl
structure Parsed(l:List UInt8)(n rows:Nat)(ps:List (ByteArray×ByteArray)):Prop where
 s1:l.take 2=[83,49]
 nn:layN l=n
 r:layR l=rows
 z:layZ l=ps.map Prod.fst
 s:layS l=ps.map fun p=>p.2.size
 t:∃C:List UInt8,C.length=4/\layT l=en (bdL ps)++C
 w:∃C:List UInt8,C.length=4/\l=[83,49]++(en (beL (n:Int) 1 1)++(en (beL (rows:Int) 4 4)++(en (hdL ps)++(en (bdL ps)++C))))
theorem parsed{l:List UInt8}{n rows:Nat}{ps:List (ByteArray×ByteArray)}(hn:n<256)(hr:rows<4294967296)(hl:ps.length=n)(h1:∀p∈ps,p.1.size<=10000)(h2:∀p∈ps,p.2.size<=100000000)(h:segB n rows ps=bs l):Parsed l n rows ps:=by
 obtain⟨C,hC,e⟩:=segB_list n rows ps
 have el:l=[83,49]++(en (beL (n:Int) 1 1)++(en (beL (rows:Int) 4 4)++(en (hdL ps)++(en (bdL ps)++C)))):=by
  have:=h.symm.trans e
  have h3:(bs l).data.toList=(bs ([83,49]++(en (beL (n:Int) 1 1)++(en (beL (rows:Int) 4 4)++(en (hdL ps)++(en (bdL ps)++C)))))).data.toList:=by rw[this]
  exact h3
 obtain⟨u1,u2⟩:=be_take n 1 (en (beL (rows:Int) 4 4)++(en (hdL ps)++(en (bdL ps)++C))) (by omega)
 obtain⟨v1,v2⟩:=be_take rows 4 (en (hdL ps)++(en (bdL ps)++C)) (by have:(256:Nat) ^ 4=4294967296:=(by decide);omega)
 have d2:l.drop 2=en (beL (n:Int) 1 1)++(en (beL (rows:Int) 4 4)++(en (hdL ps)++(en (bdL ps)++C))):=by rw[el];rfl
 have hz:=zst_hd (en (bdL ps)++C) ps n h1 h2 (by omega)
 rw[<-hl,List.take_length,List.drop_length] at hz
 have eN:layN l=n:=by unfold layN;rw[d2,u1]
 have key:zst (beV ((l.drop 2).take 1)) (((l.drop 2).drop 1).drop 4)=(ps.map (fun p=>(p.1,p.2.size)),en (bdL ps)++C):=by
  rw[d2,u1,u2,v2,<-hl,hz]
  simp[hdL,en]
 refine⟨by rw[el];rfl,eN,by unfold layR;rw[d2,u2,v1],?_,?_,⟨C,hC,?_⟩,⟨C,hC,el⟩⟩
 ·unfold layZ;rw[key];simp[Function.comp_def]
 ·unfold layS;rw[key];simp[Function.comp_def]
 ·unfold layT;rw[key]
theorem Seg.bounds{l:List UInt8}{Xs:List Vc}{ps:List (ByteArray×ByteArray)}(h:Seg l Xs ps):∀p∈ps,p.1.size<=10000/\p.2.size<=100000000:=fun p hp=>by
 obtain⟨i,hi,e⟩:=List.mem_iff_getElem.1 hp
 have hx:i<Xs.length:=by rw[<-h.len];exact hi
 obtain⟨a1,a2⟩:=h.at_ i _ p (List.getElem?_eq_getElem hx) (by rw[List.getElem?_eq_getElem hi,e])
 have hf:=h.lay.fit (List.getElem_mem hx)
 exact⟨by rw[a1];exact hf.zone,hf.law.sz _ a2⟩
theorem Seg.parsed{l:List UInt8}{Xs:List Vc}{ps:List (ByteArray×ByteArray)}(h:Seg l Xs ps):Parsed l Xs.length (layR l) ps:=by
 have n2:=h.lay.n2
 have:=h.lay.len
 have:=h.lay.rows
 exact Go.Proofs.YtbfibfmnemnbbaaGreat.parsed (by omega) (by omega) h.len (fun p hp=>(h.bounds p hp).1) (fun p hp=>(h.bounds p hp).2) h.eq
theorem Seg.zones{l:List UInt8}{Xs:List Vc}{ps:List (ByteArray×ByteArray)}(h:Seg l Xs ps):layZ l=Xs.map zP:=by
 rw[h.parsed.z]
 refine List.ext_getElem (by simp[h.len]) fun i h1 h2=>?_
 simp only[List.getElem_map]
 have hi:i<ps.length:=by simpa using h1
 have hx:i<Xs.length:=by simpa using h2
 exact(h.at_ i _ _ (List.getElem?_eq_getElem hx) (List.getElem?_eq_getElem hi)).1
end Go.Proofs.YtbfibfmnemnbbaaGreat
set_option linter.unusedSimpArgs false
set_option linter.unusedVariables false
set_option maxRecDepth 100000
namespace Go.Proofs.YtbfibfmnemnbbaaGreat
open Go.RowKit Go.Sort
variable {w wr wx:World}{H:Nat}{rows:Int}{lv hv nv sv v':Value}{L G Z:List Val}{N:List Int}
def lowX(X:Vc):Val:=(spanT (valsV X) (valsV X).length).1
def highX(X:Vc):Val:=(spanT (valsV X) (valsV X).length).2.1
def nulX(X:Vc):Nat:=(spanT (valsV X) (valsV X).length).2.2
theorem span_in{xs:List Val}{P:Val->Prop}(h0:P .null)(h:∀x∈xs,P x):P (spanT xs xs.length).1/\P (spanT xs xs.length).2.1:=by
 have key:∀(f:Val->Val->Val),(∀m x,f m x=m∨f m x=x)->P ((standL (xs.take xs.length)).foldl f .null):=fun f hf=>by
  rcases fold_mem hf (standL (xs.take xs.length)) .null with e|e
  ·rw[e];exact h0
  ·rw[List.take_length] at e ⊢
   exact h _ (List.mem_filter.1 e).1
 refine⟨key lowS fun m x=>?_,key highS fun m x=>?_⟩
 ·unfold lowS;split<;>simp
 ·unfold highS;split<;>simp
theorem span_nul_le(xs:List Val):(spanT xs xs.length).2.2<=xs.length:=by
 unfold spanT
 simp only[List.take_length]
 exact List.length_filter_le _ _
theorem un_zone{l:List UInt8}{X:Vc}(h:UnR l X 0):decode (zP X)=some [lowX X,highX X,.num (nulX X:Nat)]/\nulX X<=4096:=by
 rcases h with ⟨_,⟨sch,hc⟩,hf,h1,h2,h3⟩|⟨h,_⟩
 ·obtain⟨g1,g2,g3,g4,g5,g6,g7,g8⟩:=from_ok hf
  have hv:=vals_len g1
  have hr:=(read_col hc).2
  have hP:=span_in (P:=fun x=>cleanV x=x/\-9223372036854775808<=x.n/\x.n<=9223372036854775807) ⟨rfl,by decide,by decide⟩ hr
  have hn:=span_nul_le (valsV X)
  have hn2:nulX X<=4096:=by unfold nulX;omega
  refine⟨?_,hn2⟩
  show decode (toB (keyL [lowX X,highX X,Val.num (nulX X:Int)]))=_
  rw[decode_key _ (fun x hx=>?_)]
  ·simp only[List.map_cons,List.map_nil,Option.some.injEq,List.cons.injEq,and_true]
   exact⟨hP.1.1,hP.2.1,rfl⟩
  ·simp only[List.mem_cons,List.not_mem_nil,or_false] at hx
   rcases hx with rfl|rfl|rfl
   ·exact⟨hP.1.2.1,hP.1.2.2⟩
   ·exact⟨hP.2.2.1,hP.2.2.2⟩
   ·exact⟨by show -9223372036854775808<=(nulX X:Int);omega,by show (nulX X:Int)<=9223372036854775807;omega⟩
 ·cases h
def hd4(r:Int)(a b c:Value):Nat->Value
 | 0=>.int .i64 r
 | 1=>a
 | 2=>b
 | _=>c
def apart(u v:Value):Prop:=u.ownBlock=none∨u.ownBlock≠v.ownBlock
structure HS(w wr:World)(H:Nat)(rows:Int)(lv hv nv sv:Value)(L G:List Val)(N:List Int)(Z:List Val):Prop where
 h:wr.rowIs H 39 4 (hd4 rows lv hv nv)
 l:OwnV wr w.heap.size lv L
 g:OwnV wr w.heap.size hv G
 n:wr.ownsRow w.heap.size 3 1 nv N.length (N.map (Value.int .i64))
 s:OwnV wr w.heap.size sv Z
 lh:apart lv hv
 hl:apart hv lv
 sl:apart sv lv
 sh:apart sv hv
 bel:Below w.heap.size w wr
 hH:w.heap.size<=H
theorem HS.later(h:HS w wr H rows lv hv nv sv L G N Z)(hb:Below wr.heap.size wr wx):HS w wx H rows lv hv nv sv L G N Z:=
 ⟨rowIs_later h.h hb,h.l.later hb,h.g.later hb,own_later h.n hb,h.s.later hb,h.lh,h.hl,h.sl,h.sh,below_step h.bel hb,h.hH⟩
theorem HS.says{Z':List Val}(h:HS w wr H rows lv hv nv sv L G N Z)(hb:Below wr.heap.size wr wx)(ho:OwnV wx wr.heap.size v' Z'):HS w wx H rows lv hv nv v' L G N Z':=by
 have key:∀{u:Value} {U:List Val},OwnV wr w.heap.size u U->apart v' u:=fun {u U} hu=>by
  cases hv:v'.ownBlock with
  | none=>exact .inl hv
  | some g=>
   refine .inr fun e=>?_
   have h1:=(World.ownsRow.lt ho g hv).1
   have h2:=(World.ownsRow.lt hu g (by rw[<-e];exact hv)).2
   omega
 exact⟨rowIs_later h.h hb,h.l.later hb,h.g.later hb,own_later h.n hb,⟨ho.1,by
  rcases ho.2 with e|⟨g,cap,cur,e,h1,h2⟩
  ·exact .inl e
  ·exact .inr ⟨g,cap,cur,e,Nat.le_trans h.bel.size h1,h2⟩⟩,h.lh,h.hl,key h.l,key h.g,below_step h.bel hb,h.hH⟩
theorem keptV{o:Obj}{u:Value}{U:List Val}{b:Nat}(hu:OwnV wr b u U)(hg:(wr.alloc o).grownBy wx v'.ownBlock)(ha:apart u v'):OwnV wx b u U:=
 World.ownsRow.kept (World.ownsRow.alloc hu o) hg (by rcases ha with h|h;exact .inl h;exact .inr h)
theorem apart_new{u x x':Value}{U:List Val}{b:Nat}{o:Obj}(hu:OwnV wr b u U)(ha:apart u x)(hat:x'.ownBlock=x.ownBlock∨x'.ownBlock=some (wr.alloc o).heap.size):apart u x':=by
 rcases ha with h|h
 ·exact .inl h
 ·cases hq:u.ownBlock with
  | none=>exact .inl hq
  | some g=>
   refine .inr fun e=>?_
   rcases hat with h1|h1
   ·exact h (by rw[hq,<-h1,<-e,hq])
   ·rw[h1,hq] at e
    injection e with e
    have:=(World.ownsRow.lt hu g hq).2
    simp at e
    omega
theorem apart_sym{u v:Value}(h:apart u v):apart v u:=by
 rcases h with h|h
 ·cases hv:v.ownBlock with
  | none=>exact .inl hv
  | some g=>exact .inr (by rw[hv,h];simp)
 ·cases hv:v.ownBlock with
  | none=>exact .inl hv
  | some g=>exact .inr fun e=>h (by rw[<-e])
theorem HS.low{x:Val}{o:Obj}(h:HS w wr H rows lv hv nv sv L G N Z)(ho:wx.ownsRow w.heap.size 25 3 v' (L.length+1) (L.flatMap c3++c3 x))(hg:(wr.alloc o).grownBy wx lv.ownBlock)(hat:v'.ownBlock=lv.ownBlock∨v'.ownBlock=some (wr.alloc o).heap.size) :
  HS w (wx.setCell ⟨H,1,none⟩ v') H rows v' hv nv sv (L++[x]) G N Z:=by
 have k1:=rowIs_grown (h.h.alloc o) hg (own_ne h.h h.l (by decide))
 have bx:Below w.heap.size w wx:=(below_alloc h.bel o).trans (grown_below hg (below_alloc h.bel o).size (fun g e=>(World.ownsRow.lt h.l g e).1))
 have hl:=apart_new h.g h.hl hat
 refine⟨World.rowIs.congr (k1.set 1 v') (fun i hi=>by match i,hi with|0,_=>rfl|1,_=>rfl|2,_=>rfl|3,_=>rfl),own_set (ownV_app ho) k1 (by decide),own_set (keptV h.g hg h.hl) k1 (by decide),own_set ((World.ownsRow.alloc h.n o).kept hg (by rcases own_own h.n h.l (by decide) with e|e;exact .inl e;exact .inr e)) k1 (by decide),own_set (keptV h.s hg h.sl) k1 (by decide),apart_sym hl,hl,apart_new h.s h.sl hat,h.sh,bx.setCell (by have:=h.hH;simpa using this) _,h.hH⟩
theorem HS.high{x:Val}{o:Obj}(h:HS w wr H rows lv hv nv sv L G N Z)(ho:wx.ownsRow w.heap.size 25 3 v' (G.length+1) (G.flatMap c3++c3 x))(hg:(wr.alloc o).grownBy wx hv.ownBlock)(hat:v'.ownBlock=hv.ownBlock∨v'.ownBlock=some (wr.alloc o).heap.size) :
  HS w (wx.setCell ⟨H,2,none⟩ v') H rows lv v' nv sv L (G++[x]) N Z:=by
 have k1:=rowIs_grown (h.h.alloc o) hg (own_ne h.h h.g (by decide))
 have bx:Below w.heap.size w wx:=(below_alloc h.bel o).trans (grown_below hg (below_alloc h.bel o).size (fun g e=>(World.ownsRow.lt h.g g e).1))
 have hl:=apart_new h.l h.lh hat
 refine⟨World.rowIs.congr (k1.set 2 v') (fun i hi=>by match i,hi with|0,_=>rfl|1,_=>rfl|2,_=>rfl|3,_=>rfl),own_set (keptV h.l hg h.lh) k1 (by decide),own_set (ownV_app ho) k1 (by decide),own_set ((World.ownsRow.alloc h.n o).kept hg (by rcases own_own h.n h.g (by decide) with e|e;exact .inl e;exact .inr e)) k1 (by decide),own_set (keptV h.s hg h.sh) k1 (by decide),hl,apart_sym hl,h.sl,apart_new h.s h.sh hat,bx.setCell (by have:=h.hH;simpa using this) _,h.hH⟩
theorem HS.nul{x:Int}{o:Obj}(h:HS w wr H rows lv hv nv sv L G N Z)(ho:wx.ownsRow w.heap.size 3 1 v' (N.length+1) (N.map (Value.int .i64)++[.int .i64 x]))(hg:(wr.alloc o).grownBy wx nv.ownBlock) :
  HS w (wx.setCell ⟨H,3,none⟩ v') H rows lv hv v' sv L G (N++[x]) Z:=by
 have k1:=rowIs_grown (h.h.alloc o) hg (own_ne h.h h.n (by decide))
 have bx:Below w.heap.size w wx:=(below_alloc h.bel o).trans (grown_below hg (below_alloc h.bel o).size (fun g e=>(World.ownsRow.lt h.n g e).1))
 have kk:∀{u:Value} {U:List Val},OwnV wr w.heap.size u U->OwnV wx w.heap.size u U:=fun hu=>World.ownsRow.kept (World.ownsRow.alloc hu o) hg (by rcases own_own hu h.n (by decide) with e|e;exact .inl e;exact .inr e)
 refine⟨World.rowIs.congr (k1.set 3 v') (fun i hi=>by match i,hi with|0,_=>rfl|1,_=>rfl|2,_=>rfl|3,_=>rfl),own_set (kk h.l) k1 (by decide),own_set (kk h.g) k1 (by decide),?_,own_set (kk h.s) k1 (by decide),h.lh,h.hl,h.sl,h.sh,bx.setCell (by have:=h.hH;simpa using this) _,h.hH⟩
 have:=own_set (j:=3) (u:=v') ho k1 (by decide)
 simpa using this
end Go.Proofs.YtbfibfmnemnbbaaGreat
set_option linter.unusedSimpArgs false
set_option linter.unusedVariables false
set_option maxRecDepth 100000
namespace Go.Proofs.YtbfibfmnemnbbaaGreat
open Go.RowKit Go.Sort
theorem hd4_alloc(w:World)(r:Int)(a b c:Value):(w.alloc (.cells #[.int .i64 r,a,b,c] 39)).rowIs w.heap.size 39 4 (hd4 r a b c):=World.rowIs_alloc w _ 39 _ (fun i hi=>by
  match i,hi with
  | 0,_=>rfl
  | 1,_=>rfl
  | 2,_=>rfl
  | 3,_=>rfl
  | n+4,h=>have:n+4<4:=h;omega)
theorem hd4_facts{w:World}{g:Nat}{r:Int}{a b c:Value}(h:w.rowIs g 39 4 (hd4 r a b c)):(w.cell? ⟨g,0,none⟩=some (.int .i64 r)/\w.cell? ⟨g,1,none⟩=some a/\w.cell? ⟨g,2,none⟩=some b/\w.cell? ⟨g,3,none⟩=some c)/\w.frozen? ⟨g,0,none⟩=false/\w.frozen? ⟨g,1,none⟩=false/\w.frozen? ⟨g,2,none⟩=false/\w.frozen? ⟨g,3,none⟩=false:=
 ⟨⟨World.rowIs.cell h (i:=0) (by decide),World.rowIs.cell h (i:=1) (by decide),World.rowIs.cell h (i:=2) (by decide),World.rowIs.cell h (i:=3) (by decide)⟩,World.rowIs.frozen h 0,World.rowIs.frozen h 1,World.rowIs.frozen h 2,World.rowIs.frozen h 3⟩
theorem says_at{w:World}{b g cap:Nat}{xs:List Val}{i:Nat}{x:Val}(h:OwnV w b (.slice (some ⟨g,0,none⟩) xs.length cap) xs)(hx:xs[i]?=some x):w.cell? ⟨g,i*3,none⟩=some (.int .i64 x.k)/\w.cell? ⟨g,i*3+1,none⟩=some (.int .i64 x.n)/\w.cell? ⟨g,i*3+2,none⟩=some (.string x.s):=by
 have hcell:=World.ownsRow.cells h (g:=g) rfl
 have hadd:∀k,(⟨g,0,none⟩:Addr).add k=⟨g,k,none⟩:=fun k=>by unfold Addr.add;split<;>simp_all
 have h0:=hcell (i*3+0) _ ((flat_at xs i 0 x hx (by omega)).trans rfl)
 have h1:=hcell (i*3+1) _ ((flat_at xs i 1 x hx (by omega)).trans rfl)
 have h2:=hcell (i*3+2) _ ((flat_at xs i 2 x hx (by omega)).trans rfl)
 rw[hadd] at h0 h1 h2
 exact⟨h0,h1,h2⟩
def HeadQ(w w':World)(Xs:List Vc)(rows:Nat)(e:Ending):Prop:=
 ∃lv hv nv b,e=.returned (.tuple #[.agg #[.int .i64 (rows:Int),lv,hv,nv],.int .i64 0])/\OwnV w' b lv (Xs.map lowX)/\OwnV w' b hv (Xs.map highX)/\w'.ownsRow b 3 1 nv Xs.length (Xs.map fun X=>Value.int .i64 (nulX X:Int))/\(w.heap.size<=b/\apart lv hv)/\Below w.heap.size w w'
end Go.Proofs.YtbfibfmnemnbbaaGreat
