import Derived.Test.YtbfibfmnemnbbaaGreatPackB
set_option linter.unusedSimpArgs false
set_option linter.unusedVariables false
set_option maxHeartbeats 8000000
set_option maxRecDepth 100000
namespace Go.Proofs.YtbfibfmnemnbbaaGreat
open Go.RowKit Go.Sort
def ColAt(w:World)(b o:Nat)(X:Vc)(p:Sl):Prop:=
 w.cell? ⟨b,o,none⟩=some (.int .i64 X.k)/\w.cell? ⟨b,o+1,none⟩=some (.slice p.a1 X.nl.length p.c1)/\w.cell? ⟨b,o+2,none⟩=some (.slice p.a2 X.ns.length p.c2)/\w.cell? ⟨b,o+3,none⟩=some (.slice p.a3 X.ss.length p.c3)
def ColsAt(w:World)(a:Option Addr)(Cs:List (Vc×Sl)):Prop:=
 (Cs=[]∨∃b off,a=some ⟨b,off,none⟩/\∀i c,Cs[i]?=some c->ColAt w b (off+i*4) c.1 c.2)/\∀c∈Cs,VecAt w c.1 c.2
theorem ColAt.later{w w':World}{b o:Nat}{X:Vc}{p:Sl}(h:ColAt w b o X p)(hb:Below w.heap.size w w'):ColAt w' b o X p:=
 ⟨cell_later hb h.1,cell_later hb h.2.1,cell_later hb h.2.2.1,cell_later hb h.2.2.2⟩
theorem ColsAt.later{w w':World}{a:Option Addr}{Cs:List (Vc×Sl)}(h:ColsAt w a Cs)(hb:Below w.heap.size w w'):ColsAt w' a Cs:=by
 refine⟨?_,fun c hc=>(h.2 c hc).later hb⟩
 rcases h.1 with e|⟨b,off,ha,h1⟩
 ·exact .inl e
 ·exact .inr ⟨b,off,ha,fun i c hc=>(h1 i c hc).later hb⟩
def badC(n0:Nat)(c:Vc×Sl):Bool:=!goodB c.1 || ((c.1.nl.length:Int) != (n0:Int))
def len0(Cs:List (Vc×Sl)):Nat:=match Cs with | []=>0|c::_=>c.1.nl.length
def rowOf(Cs:List (Vc×Sl))(i:Nat):List Val:=Cs.map (fun c=>atV c.1 i)
def rowsOf(Cs:List (Vc×Sl)):List (List Val):=(List.range (len0 Cs)).map (rowOf Cs)
def tabV(Cs:List (Vc×Sl)):List (List Val)×Int:=if Cs.any (badC (len0 Cs)) then ([],1) else (rowsOf Cs,0)
theorem rowsOf_at(Cs:List (Vc×Sl)){i:Nat}(h:i<len0 Cs):(rowsOf Cs)[i]?=some (rowOf Cs i):=by simp[rowsOf,h]
theorem rowOf_at{Cs:List (Vc×Sl)}{k i:Nat}{c:Vc×Sl}(h:Cs[k]?=some c):(rowOf Cs i)[k]?=some (atV c.1 i):=by simp[rowOf,h]
theorem rowOf_len(Cs:List (Vc×Sl))(i:Nat):(rowOf Cs i).length=Cs.length:=by simp[rowOf]
theorem len0_of{Cs:List (Vc×Sl)}{c:Vc×Sl}(h:Cs[0]?=some c):len0 Cs=c.1.nl.length:=by
 cases Cs with
 | nil=>cases h
 | cons d l=>simp at h;subst h;rfl
theorem Tryz.info36:(Tryz.prog.info? 36).map (fun i=>(i.zero,i.size,i.bytes))=some (some (.slice none 0 0),1,24):=by kernel_rfl
def RowsV(w:World)(v:Value)(rs:List (List Val)):Prop:=∃ra rc,v=.slice ra rs.length rc/\RowsAt w ra rs
def TabInv(w0 w:World)(R n0 m i:Nat)(rows:List (List Val))(lim:Nat)(F:Nat->Value):Prop:=
 Below w0.heap.size w0 w/\w0.heap.size<=R/\w.rowIs R 36 n0 F/\(∀j r,j<i->rows[j]?=some r->∃g,F j=.slice (some ⟨g,0,none⟩) m m/\R<g/\g<lim/\∃G,w.rowIs g 25 (m*3) G/\Holds3 G m r)/\∀j j' g g',j<j'->j'<i->F j=.slice (some ⟨g,0,none⟩) m m->F j'=.slice (some ⟨g',0,none⟩) m m->g<g'
theorem TabInv.later{w0 w w':World}{R n0 m i lim:Nat}{rows:List (List Val)}{F:Nat->Value}(h:TabInv w0 w R n0 m i rows lim F)(hb:Below w.heap.size w w'):TabInv w0 w' R n0 m i rows lim F:=by
 obtain⟨h1,h2,h3,h4,h5⟩:=h
 refine⟨below_step h1 hb,h2,rowIs_later h3 hb,fun j r hj hr=>?_,h5⟩
 obtain⟨g,e,hg,hl,G,hG,hG'⟩:=h4 j r hj hr
 exact⟨g,e,hg,hl,G,rowIs_later hG hb,hG'⟩
def InInv(w0 w:World)(R n0 m i k:Nat)(rows:List (List Val))(row:List Val)(g:Nat)(F:Nat->Value):Prop:=
 TabInv w0 w R n0 m i rows g F/\F i=.slice (some ⟨g,0,none⟩) m m/\R<g/\∃G,w.rowIs g 25 (m*3) G/\Holds3 G k row
theorem InInv.later{w0 w w':World}{R n0 m i k:Nat}{rows:List (List Val)}{row:List Val}{g:Nat}{F:Nat->Value}(h:InInv w0 w R n0 m i k rows row g F)(hb:Below w.heap.size w w'):InInv w0 w' R n0 m i k rows row g F:=by
 obtain⟨h1,h2,h3,G,h4,h5⟩:=h
 exact⟨h1.later hb,h2,h3,G,rowIs_later h4 hb,h5⟩
theorem InInv.start{w0 w:World}{R n0 m i lim:Nat}{rows:List (List Val)}{row:List Val}{F:Nat->Value}(h:TabInv w0 w R n0 m i rows lim F)(hlim:lim<=w.heap.size)(c:Array Value) :
  InInv w0 ((w.setCell ⟨R,i,none⟩ (.slice (some ⟨w.heap.size,0,none⟩) m m)).alloc (.cells (madeCells c (m*3)) 25)) R n0 m i 0 rows row w.heap.size (fun j=>if j=i then .slice (some ⟨w.heap.size,0,none⟩) m m else F j):=by
 obtain⟨h1,h2,h3,h4,h5⟩:=h
 have hR:=h3.lt
 refine⟨⟨(h1.setCell h2 _).alloc (by simp;omega) _,h2,(h3.set i _).alloc _,fun j r hj hr=>?_,fun j j' g g' hjj hj' e e'=>h5 j j' g g' hjj hj' (by simpa [show j≠i by omega] using e) (by simpa [show j'≠i by omega] using e')⟩,by simp,hR,?_⟩
 ·obtain⟨g,e,hg,hl,G,hG,hG'⟩:=h4 j r hj hr
  exact⟨g,by show (if j=i then _ else F j)=_;rw[if_neg (by omega)];exact e,hg,by omega,G,(hG.setOther (by simp;omega) _).alloc _,hG'⟩
 ·obtain⟨G,hG⟩:=rowIs_any (w.setCell ⟨R,i,none⟩ (.slice (some ⟨w.heap.size,0,none⟩) m m)) (madeCells c (m*3)) 25
  rw[size_madeCells] at hG
  refine⟨G,?_,Holds3.zero _ _⟩
  simpa using hG
theorem InInv.step{w0 w:World}{R n0 m i k:Nat}{rows:List (List Val)}{row:List Val}{g:Nat}{F:Nat->Value}{y:Val}(h:InInv w0 w R n0 m i k rows row g F)(hy:row[k]?=some y) :
  InInv w0 (((w.setCell ⟨g,k*3,none⟩ (.int .i64 y.k)).setCell ⟨g,k*3+1,none⟩ (.int .i64 y.n)).setCell ⟨g,k*3+2,none⟩ (.string y.s)) R n0 m i (k+1) rows row g F:=by
 obtain⟨⟨h1,h2,h3,h4,h5⟩,e,hg,G,hG,hG'⟩:=h
 have hw:w0.heap.size<=g:=by omega
 refine⟨⟨((h1.setCell hw _).setCell hw _).setCell hw _,h2,?_,fun j r hj hr=>?_,h5⟩,e,hg,_,((hG.set _ _).set _ _).set _ _,hG'.step hy⟩
 ·exact((h3.setOther (by simp;omega) _).setOther (by simp;omega) _).setOther (by simp;omega) _
 ·obtain⟨g',e',hg',hl,G',k1,k2⟩:=h4 j r hj hr
  exact⟨g',e',hg',hl,G',((k1.setOther (by simp;omega) _).setOther (by simp;omega) _).setOther (by simp;omega) _,k2⟩
theorem InInv.finish{w0 w:World}{R n0 m i:Nat}{rows:List (List Val)}{row:List Val}{g:Nat}{F:Nat->Value}(h:InInv w0 w R n0 m i m rows row g F)(hr:rows[i]?=some row):TabInv w0 w R n0 m (i+1) rows w.heap.size F:=by
 obtain⟨⟨h1,h2,h3,h4,h5⟩,e,hg,G,hG,hG'⟩:=h
 have hlt:=hG.lt
 refine⟨h1,h2,h3,fun j r hj hr'=>?_,fun j j' g1 g2 hjj hj' e1 e2=>?_⟩
 rotate_left
 ·by_cases ej:j'=i
  ·subst ej
   rw[e] at e2
   injection e2 with e2
   injection e2 with e2
   injection e2 with e2
   have hj:j<rows.length:=by have:=(List.getElem?_eq_some_iff.1 hr).1;omega
   obtain⟨g3,e3,_,h7,_⟩:=h4 j _ hjj (List.getElem?_eq_getElem hj)
   rw[e1] at e3
   injection e3 with e3
   injection e3 with e3
   injection e3 with e3
   omega
  ·exact h5 j j' g1 g2 hjj (by omega) e1 e2
 by_cases ej:j=i
 ·subst ej
  rw[hr] at hr'
  cases hr'
  exact⟨g,e,hg,hlt,G,hG,hG'⟩
 ·obtain⟨g',e',hg',hl,G',k1,k2⟩:=h4 j r (by omega) hr'
  exact⟨g',e',hg',by omega,G',k1,k2⟩
theorem TabInv.rows{w0 w:World}{R n0 m lim:Nat}{rows:List (List Val)}{F:Nat->Value}(h:TabInv w0 w R n0 m n0 rows lim F)(hl:rows.length=n0)(hm:∀r∈rows,r.length=m):RowsV w (.slice (some ⟨R,0,none⟩) n0 n0) rows:=by
 obtain⟨h1,h2,h3,h4,_⟩:=h
 refine⟨some ⟨R,0,none⟩,n0,by rw[hl],.inr ⟨R,0,rfl,fun i r hr=>?_⟩⟩
 have hi:i<n0:=by have:=(List.getElem?_eq_some_iff.1 hr).1;omega
 obtain⟨g,e,_,_,G,hG,hG'⟩:=h4 i r hi hr
 have hrm:=hm r (List.mem_of_getElem? hr)
 refine⟨some ⟨g,0,none⟩,m,?_,row_of_row hG hrm hG'⟩
 rw[Nat.zero_add,h3.cell hi,e,hrm]
def RowsO(w:World)(base:Nat)(v:Value)(n:Nat):Prop:=∃m cs,m<=1048576/\w.ownsRow base 36 1 v n cs/\(∀(j:Nat) u,cs[j]?=some u->∃g zs,u=.slice (some ⟨g,0,none⟩) m m/\w.ownsRow base 25 3 u m zs)/\∀(j j':Nat) u u',j<j'->cs[j]?=some u->cs[j']?=some u'->u.ownBlock≠u'.ownBlock
theorem RowsO.nil(w:World)(base:Nat):RowsO w base (.slice none 0 0) 0:=⟨0,[],by omega,own_none,fun j u hu=>by simp at hu,fun j j' u u' _ hu=>by simp at hu⟩
theorem TabInv.own{w0 w:World}{R n0 m lim:Nat}{rows:List (List Val)}{F:Nat->Value}(h:TabInv w0 w R n0 m n0 rows lim F)(hl:rows.length=n0)(hm:∀r∈rows,r.length=m)(hm2:m<=1048576)(hn2:n0<=1048576):RowsO w w0.heap.size (.slice (some ⟨R,0,none⟩) n0 n0) n0:=by
 obtain⟨h1,h2,h3,h4,h5⟩:=h
 have hcs:∀(j:Nat) u,((List.range n0).map F)[j]?=some u->j<n0/\u=F j:=fun j u hu=>by
  rw[List.getElem?_map] at hu
  by_cases hj:j<n0
  ·rw[List.getElem?_range hj] at hu
   simp at hu
   exact⟨hj,hu.symm⟩
  ·rw[List.getElem?_eq_none (by simpa using hj)] at hu
   simp at hu
 have hg:∀j,j<n0->∃g zs,F j=.slice (some ⟨g,0,none⟩) m m/\w.ownsRow w0.heap.size 25 3 (F j) m zs:=fun j hj=>by
  have hr:rows[j]?=some (rows[j]'(by omega)):=List.getElem?_eq_getElem (by omega)
  obtain⟨g,e,hg,_,G,hG,hG'⟩:=h4 j _ hj hr
  have hrm:=hm _ (List.mem_of_getElem? hr)
  have:=own_of_row (base:=w0.heap.size) hG hrm hG' (by omega) (by unfold maxLen;omega)
  unfold OwnV at this
  rw[hrm] at this
  exact⟨g,_,e,by rw[e];exact this⟩
 refine⟨m,(List.range n0).map F,hm2,own1_of_row h3 (by simp) (fun i x hi hx=>(hcs i x hx).2.symm) h2 (by unfold maxLen;omega),fun j u hu=>?_,fun j j' u u' hjj hu hu'=>?_⟩
 ·obtain⟨hj,rfl⟩:=hcs j u hu
  exact hg j hj
 ·obtain⟨hj,rfl⟩:=hcs j u hu
  obtain⟨hj',rfl⟩:=hcs j' u' hu'
  obtain⟨g,_,e,_⟩:=hg j hj
  obtain⟨g',_,e',_⟩:=hg j' hj'
  have:=h5 j j' g g' hjj hj' e e'
  rw[e,e']
  simp[Value.ownBlock]
  omega
theorem uS{w':World}{R n0 i bx:Nat}{F:Nat->Value}{v:Value}{X:Vc}{p:Sl}(h1:w'.rowIs R 36 n0 F)(hi:i<n0)(hF:F i=v)
  (h2:w'.rowIs bx 56 4 (box4 (.int .i64 X.k) (.slice p.a1 X.nl.length p.c1) (.slice p.a2 X.ns.length p.c2) (.slice p.a3 X.ss.length p.c3))) :
  w'.cell? ⟨R,i,none⟩=some v/\w'.cell? ⟨bx,0,none⟩=some (.int .i64 X.k)/\w'.cell? ⟨bx,1,none⟩=some (.slice p.a1 X.nl.length p.c1)/\w'.cell? ⟨bx,2,none⟩=some (.slice p.a2 X.ns.length p.c2)/\w'.cell? ⟨bx,3,none⟩=some (.slice p.a3 X.ss.length p.c3):=by
 obtain⟨t0,t1,t2,t3,_⟩:=box_facts h2
 exact⟨by rw[h1.cell hi,hF],t0,t1,t2,t3⟩
theorem table_any(a:Option Addr)(c:Nat)(Cs:List (Vc×Sl))(w:World)(hl:Cs.length<=1048576)(hs:∀c∈Cs,small c.1)(h20:∀c∈Cs,c.1.nl.length<=1048576)(ha:ColsAt w a Cs) :
  Calls Tryz.prog 22 #[.slice a Cs.length c] w fun e w'=>∃v,e=.returned (.tuple #[v,.int .i64 (tabV Cs).2])/\(RowsV w' v (tabV Cs).1/\RowsO w' w.heap.size v (tabV Cs).1.length)/\Below w.heap.size w w':=by
 obtain⟨i40,hi40,z40,z41,z42⟩:=info_parts Tryz.info25
 obtain⟨i22,hi22,y40,y41,y42⟩:=info_parts Tryz.info36
 have HG:Hid (∀c∈Cs,∀w',Below w.heap.size w w'->Calls Tryz.prog 45 #[vecV c.1 c.2] w' fun e w''=>e=.returned (.bool (goodB c.1))/\Below w'.heap.size w' w''):=fun c hc w' hb=>good_any c.1 c.2 w' (hs c hc) ((ha.2 c hc).later hb)
 have HT:Hid (∀c∈Cs,goodB c.1=true->∀w',Below w.heap.size w w'->∀i,i<c.1.nl.length->Calls Tryz.prog 46 #[vecV c.1 c.2,.int .i64 i] w' fun e w''=>e=.returned (atV c.1 i).v/\Below w'.heap.size w' w''):=fun c hc hg w' hb i hi=>at_any c.1 c.2 w' (hs c hc) hg ((ha.2 c hc).later hb) i hi
 have H20:=hide h20
 clear h20
 have HA:=hide ha
 have HS:=hide hs
 generalize hR:tabV Cs=R
 have HR:=hide hR
 clear ha hs hR
 go_enter Tryz.func22,Tryz.ntmps22
 go_wp2_with fail
 go_loopw[12] (fun i wr=>∃k:Nat,k<=Cs.length/\i=.int .i64 k/\Hid (∀i y,i<k->Cs[i]?=some y->badC (len0 Cs) y=false)/\Below w.heap.size w wr) (fun i _=>Cs.length-(intOf i).toNat)
 case atStart=>exact⟨0,Nat.zero_le _,rfl,fun i y h=>by omega,Below.refl _ _⟩
 case round=>
  obtain⟨k,hk,rfl,HN,hb⟩:=hrel
  by_cases h1:k<Cs.length
  ·obtain⟨cc,hcc⟩:∃cc,Cs[k]?=some cc:=⟨_,List.getElem?_eq_getElem h1⟩
   obtain⟨d0,hd0⟩:∃d0,Cs[0]?=some d0:=⟨_,List.getElem?_eq_getElem (by omega)⟩
   rcases((unhide HA).later hb).1 with e|⟨ba,oa,rfl,hca⟩
   ·rw[e] at hcc;cases hcc
   obtain⟨e0,e1,e2,e3⟩:=hca k cc hcc
   obtain⟨_,n1,_,_⟩:=hca 0 d0 hd0
   simp only[Nat.zero_mul,Nat.add_zero] at n1
   have HGC:=hide (unhide HG cc (List.mem_of_getElem? hcc))
   have HS1:=hide hcc
   obtain⟨sm1,_,_⟩:=unhide HS cc (List.mem_of_getElem? hcc)
   obtain⟨sm2,_,_⟩:=unhide HS d0 (List.mem_of_getElem? hd0)
   have HL0:=hide (len0_of hd0)
   have hnb:=World.block_lt_of_cell? _ _ n1
   simp only at hnb
   have i1:(k:Int)<(Cs.length:Int):=by omega
   have i0:(0:Int)<(Cs.length:Int):=by omega
   obtain⟨X,p⟩:=cc
   obtain⟨X0,p0⟩:=d0
   simp only at e0 e1 e2 e3 n1 HGC sm1 sm2 HL0
   clear hca hcc hd0
   go_upto_region 4 with fail
   obtain⟨W1,hW1⟩:∃W1,W1=wr.alloc (.cells #[.int .i64 X.k,.slice p.a1 X.nl.length p.c1,.slice p.a2 X.ns.length p.c2,.slice p.a3 X.ss.length p.c3] 56):=⟨_,rfl⟩
   have hB1:Below w.heap.size w W1:=by rw[hW1];exact below_alloc hb _
   have hx1:W1.rowIs wr.heap.size 56 4 (box4 (.int .i64 X.k) (.slice p.a1 X.nl.length p.c1) (.slice p.a2 X.ns.length p.c2) (.slice p.a3 X.ss.length p.c3)):=by rw[hW1];exact box4_alloc _ _ _ _ _
   have n1':W1.cell? ⟨ba,oa+1,none⟩=some (.slice p0.a1 X0.nl.length p0.c1):=by rw[hW1];exact cell_later (below_alloc (Below.refl _ wr) _) n1
   rw[<-hW1]
   have HB1:=hide hB1
   have HC:Hid (∀d os,Calls Tryz.prog 45 #[vecV X p] (grow (redrawn W1 d) os) fun e w'=>e=.returned (.bool (goodB X))/\Below (grow (redrawn W1 d) os).heap.size (grow (redrawn W1 d) os) w'):=fun d os=>unhide HGC _ (below_step hB1 (below_regrown _ _ _))
   have HBC:Hid (∀bb,bb=(!goodB X || ((X.nl.length:Int) != (X0.nl.length:Int)))->bb=badC (len0 Cs) (X,p)):=fun bb h=>by rw[h,unhide HL0];rfl
   generalize goodB X=G at HC HBC
   clear hW1 e0 e1 e2 e3 n1 hb hB1 HGC
   go_cut[29] (fun s29 wx=>(∃bb,s29=.bool bb/\Hid (bb=badC (len0 Cs) (X,p)))/\Below W1.heap.size W1 wx)
   case first=>
    obtain⟨t0,t1,t2,t3,_⟩:=box_facts hx1
    have k0:=cell_regrown t0
    have k1:=cell_regrown t1
    have k2:=cell_regrown t2
    have k3:=cell_regrown t3
    have k4:=cell_regrown n1'
    clear hx1
    cases G
    ·refine wp_region_quiet_below (by kernel_rfl) (by kernel_rfl) ?_
     repeat (go_big_quiet_step ((go_at_call 45;exact Calls.regrown_of (unhide HC _ _))))
     refine wpQuiet_nil ?_
     intro w' hw'
     have hB:Below W1.heap.size W1 w':=by obtain⟨p,rfl⟩:=hw';exact below_regrown _ _ _
     clear hw'
     go_wp2
     go_meet
     exact⟨⟨_,rfl,unhide HBC _ rfl⟩,hB⟩
    ·refine wp_region_quiet_below (by kernel_rfl) (by kernel_rfl) ?_
     repeat (go_big_quiet_step ((go_at_call 45;exact Calls.regrown_of (unhide HC _ _))))
     refine wpQuiet_nil ?_
     intro w' hw'
     have hB:Below W1.heap.size W1 w':=by obtain⟨p,rfl⟩:=hw';exact below_regrown _ _ _
     clear hw'
     go_wp2
     go_meet
     exact⟨⟨_,rfl,unhide HBC _ rfl⟩,hB⟩
   case rest=>
    obtain⟨⟨bb,rfl,HBB⟩,hbx⟩:=hcut
    rename World=>wx
    have hBx:=below_step (unhide HB1) hbx
    cases bb
    ·have HP:=hide (stepG (unhide HN) (unhide HS1) (unhide HBB).symm)
     go_wp2
     go_roundw
     case rel=>exact⟨k+1,by omega,by go_num,HP,hBx⟩
     case measure=>simp[intOf];omega
    ·have HE:Hid (R=([],1)):=by
      show _=_
      rw[<-unhide HR,tabV,if_pos (hitG (unhide HS1) (unhide HBB).symm)]
     go_wp2
     go_ret2
     exact⟨_,by rw[unhide HE];rfl,by rw[unhide HE];exact⟨⟨none,0,rfl,.inl rfl⟩,RowsO.nil _ _⟩,hBx⟩
  ·have e:k=Cs.length:=by omega
   have i1:¬(k:Int)<(Cs.length:Int):=by omega
   have HP:Hid (Cs.any (badC (len0 Cs))=false):=noneG (by rw[<-e];exact unhide HN)
   have HE:Hid (R=(rowsOf Cs,0)):=by show _=_;rw[<-unhide HR,tabV,if_neg (by rw[unhide HP];simp)]
   clear e
   by_cases h0:Cs.length=0
   ·have i0:((Cs.length:Int) == 0)=true:=by simp[h0]
    have e0:Cs=[]:=List.eq_nil_of_length_eq_zero h0
    have HE0:Hid (R=([],0)):=by show _=_;rw[unhide HE,e0];rfl
    clear e0 h0
    go_wp2
    go_ret2
    exact⟨_,by rw[unhide HE0];rfl,by rw[unhide HE0];exact⟨⟨none,0,rfl,.inl rfl⟩,RowsO.nil _ _⟩,hb⟩
   ·obtain⟨d0,hd0⟩:∃d0,Cs[0]?=some d0:=⟨_,List.getElem?_eq_getElem (by omega)⟩
    rcases((unhide HA).later hb).1 with e|⟨ba,oa,rfl,hca⟩
    ·rw[e] at hd0;cases hd0
    obtain⟨_,n1,_,_⟩:=hca 0 d0 hd0
    simp only[Nat.zero_mul,Nat.add_zero] at n1
    rw[<-len0_of hd0] at n1
    have hN0:len0 Cs<=1048576:=by rw[len0_of hd0];exact unhide H20 d0 (List.mem_of_getElem? hd0)
    obtain⟨N0,hN0e⟩:∃N0,N0=len0 Cs:=⟨_,rfl⟩
    have HN0:=hide hN0e
    rw[<-hN0e] at n1 hN0
    have i0:((Cs.length:Int) == 0)=false:=by simp;intro e;exact h0 (by rw[e];rfl)
    have i2:(0:Int)<(Cs.length:Int):=by omega
    clear hca hN0e hd0 HN
    go_wp2_with (first
     | (at_make;refine wpList_make_row _ rfl (.tmp 38) (.tmp 38) 23 rfl 36 i22 (.slice none 0 0) Tryz.underlying23 hi22 y40 y41 rfl .i64 .i64 N0 rfl rfl (by rw[y42];omega) (by omega) ?_)
     | fail)
    obtain⟨R0,rfl⟩:∃R0,R0=wr:=⟨_,rfl⟩
    have hT0:TabInv w (R0.alloc (.cells (madeCells #[.slice none 0 0] N0) 36)) R0.heap.size N0 Cs.length 0 (rowsOf Cs) (R0.heap.size+1) (fun _=>.slice none 0 0):=⟨below_alloc hb _,hb.size,World.rowIs_made _ _ _ _,(fun j r hj=>by omega),fun j j' g g' _ hj'=>by omega⟩
    have HT0:=hide hT0
    have HAA:Hid (ColsAt R0 (some ⟨ba,oa,none⟩) Cs):=(unhide HA).later hb
    clear hT0 n1 h1 hk i1
    go_loopw[42] (fun i wr=>∃(k:Nat) (lim:Nat) (F:Nat->Value),k<=N0/\i=.int .i64 k/\TabInv w wr R0.heap.size N0 Cs.length k (rowsOf Cs) lim F/\lim<=wr.heap.size) (fun i _=>N0-(intOf i).toNat)
    case atStart=>exact⟨0,_,_,Nat.zero_le _,rfl,unhide HT0,by simp⟩
    case round=>
     obtain⟨i,lim,F,hi,rfl,hI,hlim⟩:=hrel
     have HI:=hide hI
     by_cases h1:i<N0
     ·have i1:(i:Int)<(N0:Int):=by omega
      obtain⟨hb1,hR1,hrw,_,_⟩:=hI
      have g0:=hrw.cell h1
      have f0:=hrw.frozen i
      have hzR:=hrw.lt
      clear hb1 hR1 hrw
      go_wp2_with (first
       | (at_make;refine wpList_make_rows _ rfl (.tmp 48) (.tmp 48) 36 rfl 25 i40 _ Tryz.underlying36 hi40 z40 3 z41 .i64 .i64 Cs.length rfl rfl (by rw[z42];omega) (by omega) ?_)
       | fail)
      have HIN:=hide (InInv.start (row:=rowOf Cs i) (unhide HI) hlim #[.int .i64 0,.int .i64 0,.string ⟨#[]⟩])
      obtain⟨W2,rfl⟩:∃W2,W2=wr:=⟨_,rfl⟩
      have hW2:=hide hlim
      have HBW:=hide (unhide HI).1
      obtain⟨F',hF'⟩:∃F',F'=(fun j=>if j=i then Value.slice (some ⟨W2.heap.size,0,none⟩) Cs.length Cs.length else F j):=⟨_,rfl⟩
      rw[<-hF'] at HIN
      clear g0 f0 hF' HI
      go_loopw[53] (fun q wr=>∃k:Nat,k<=Cs.length/\q=.int .i64 k/\InInv w wr R0.heap.size N0 Cs.length i k (rowsOf Cs) (rowOf Cs i) W2.heap.size F') (fun q _=>Cs.length-(intOf q).toNat)
      case atStart=>exact⟨0,Nat.zero_le _,rfl,unhide HIN⟩
      case round=>
       obtain⟨k,hk,rfl,hJ⟩:=hrel
       have HJ:=hide hJ
       by_cases h2:k<Cs.length
       ·obtain⟨cc,hcc⟩:∃cc,Cs[k]?=some cc:=⟨_,List.getElem?_eq_getElem h2⟩
        have hBr:=hJ.1.1
        rcases((unhide HA).later hBr).1 with e|⟨ba',oa',e,hca⟩
        ·rw[e] at hcc;cases hcc
        cases e
        obtain⟨e0,e1,e2,e3⟩:=hca k cc hcc
        have hgd:badC (len0 Cs) cc=false:=by
         cases hq:badC (len0 Cs) cc
         ·rfl
         ·have:=hitG hcc hq;rw[unhide HP] at this;cases this
        have hgd2:goodB cc.1=true/\i<cc.1.nl.length:=by
         simp[badC] at hgd
         have:=unhide HN0
         exact⟨hgd.1,by omega⟩
        have HAT:=hide (fun w' hb=>unhide HT cc (List.mem_of_getElem? hcc) hgd2.1 w' hb i hgd2.2)
        have HY:=hide (rowOf_at (i:=i) hcc)
        have i2:(k:Int)<(Cs.length:Int):=by omega
        obtain⟨X,p⟩:=cc
        simp only at e0 e1 e2 e3 HAT HY
        generalize atV X i=y at HAT HY
        have HRW:=hide hJ.1.2.2.1
        have HFI:=hide hJ.2.1
        obtain⟨G,hG,_⟩:=hJ.2.2.2
        have HGG:=hide hG
        have hRz:R0.heap.size<wr.heap.size:=(unhide HRW).lt
        have hgz:W2.heap.size<wr.heap.size:=hG.lt
        have HBR:=hide hBr
        clear hca hcc hgd hgd2 hJ hG hBr
        go_upto_region 17 with fail
        have hx1:=box4_alloc wr (.int .i64 X.k) (.slice p.a1 X.nl.length p.c1) (.slice p.a2 X.ns.length p.c2) (.slice p.a3 X.ss.length p.c3)
        have hR1:=(unhide HRW).alloc (.cells #[.int .i64 X.k,.slice p.a1 X.nl.length p.c1,.slice p.a2 X.ns.length p.c2,.slice p.a3 X.ss.length p.c3] 56)
        have hG1:=(unhide HGG).alloc (.cells #[.int .i64 X.k,.slice p.a1 X.nl.length p.c1,.slice p.a2 X.ns.length p.c2,.slice p.a3 X.ss.length p.c3] 56)
        have hJ1:=(unhide HJ).later (below_alloc (Below.refl _ wr) (.cells #[.int .i64 X.k,.slice p.a1 X.nl.length p.c1,.slice p.a2 X.ns.length p.c2,.slice p.a3 X.ss.length p.c3] 56))
        have hB1:=below_alloc (unhide HBR) (.cells #[.int .i64 X.k,.slice p.a1 X.nl.length p.c1,.slice p.a2 X.ns.length p.c2,.slice p.a3 X.ss.length p.c3] 56)
        have S1:=uS hR1.drew h1 (unhide HFI) hx1.drew
        clear e0 e1 e2 e3
        go_region_held3 (fun w'=>w'.cell? ⟨R0.heap.size,i,none⟩=some (.slice (some ⟨W2.heap.size,0,none⟩) Cs.length Cs.length)/\w'.cell? ⟨wr.heap.size,0,none⟩=some (.int .i64 X.k)/\w'.cell? ⟨wr.heap.size,1,none⟩=some (.slice p.a1 X.nl.length p.c1)/\w'.cell? ⟨wr.heap.size,2,none⟩=some (.slice p.a2 X.ns.length p.c2)/\w'.cell? ⟨wr.heap.size,3,none⟩=some (.slice p.a3 X.ss.length p.c3))
         (first|assumption|exact uS (((hR2.setOther (by simp;omega) _).setOther (by simp;omega) _).setOther (by simp;omega) _) h1 (unhide HFI) (((hx2.setOther (by simp;omega) _).setOther (by simp;omega) _).setOther (by simp;omega) _))
         (first
          | (go_at_call 46;refine(unhide HAT _ hB1.drew).mono ?_;rintro e w2 ⟨rfl,hb2⟩;rw[Val.open_];have hx2:=rowIs_later hx1.drew hb2;have hR2:=rowIs_later hR1.drew hb2;have hJ2:=(hJ1.later (Below.refl _ _).drew).later hb2;have S2:=uS hR2 h1 (unhide HFI) hx2;obtain⟨p0,p1,p2,q0,q1,q2⟩:=three (k:=k) (rowIs_later hG1.drew hb2) (by omega)))
        clear S1 S2
        go_wp2
        go_roundw
        case rel=>exact⟨k+1,by omega,by go_num,hJ2.step (unhide HY)⟩
        case measure=>simp[intOf];omega
       ·have i2:¬(k:Int)<(Cs.length:Int):=by omega
        have HFN:Hid (TabInv w wr R0.heap.size N0 Cs.length (i+1) (rowsOf Cs) wr.heap.size F'):=by
         have e:k=Cs.length:=by omega
         rw[e] at hJ
         exact hJ.finish (rowsOf_at Cs (by rw[<-unhide HN0];exact h1))
        clear hJ
        go_wp2
        go_roundw
        case rel=>exact⟨i+1,_,F',by omega,by go_num,unhide HFN,Nat.le_refl _⟩
        case measure=>simp[intOf];omega
     ·have i1:¬(i:Int)<(N0:Int):=by omega
      have HF:Hid (RowsV wr (.slice (some ⟨R0.heap.size,0,none⟩) N0 N0) (rowsOf Cs)/\RowsO wr w.heap.size (.slice (some ⟨R0.heap.size,0,none⟩) N0 N0) (rowsOf Cs).length):=by
       have e:i=N0:=by omega
       rw[e] at hI
       have hl2:(rowsOf Cs).length=N0:=by rw[unhide HN0];simp[rowsOf]
       have hm2:∀r∈rowsOf Cs,r.length=Cs.length:=fun r hr=>by obtain⟨j,_,rfl⟩:=List.mem_map.1 hr;exact rowOf_len _ _
       exact⟨hI.rows hl2 hm2,by rw[hl2];exact hI.own hl2 hm2 (by omega) hN0⟩
      have HBB:=hide hI.1
      clear hI
      go_wp2
      go_ret2
      exact⟨_,by rw[unhide HE];rfl,by rw[unhide HE];exact unhide HF,unhide HBB⟩
end Go.Proofs.YtbfibfmnemnbbaaGreat
