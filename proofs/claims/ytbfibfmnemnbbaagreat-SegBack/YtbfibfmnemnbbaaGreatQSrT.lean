import Derived.Test.YtbfibfmnemnbbaaGreatQSrP
import Derived.Test.YtbfibfmnemnbbaaGreatBsA
set_option linter.unusedSimpArgs false
set_option linter.unusedVariables false
set_option maxRecDepth 100000
namespace Go.Proofs.YtbfibfmnemnbbaaGreat
open Go.RowKit Go.Sort
structure DInv(w0 w:World)(g n:Nat)(Cs:List (Vc×Sl)):Prop where
 bel:Below w0.heap.size w0 w
 ge:w0.heap.size<=g
 row:∃F,w.rowIs g 56 (n*4) F/\∀(i:Nat) (c:Vc×Sl),Cs[i]?=some c->F (i*4)=.int .i64 c.1.k/\F (i*4+1)=.slice c.2.a1 c.1.nl.length c.2.c1/\F (i*4+2)=.slice c.2.a2 c.1.ns.length c.2.c2/\F (i*4+3)=.slice c.2.a3 c.1.ss.length c.2.c3
 vec:∀c∈Cs,VecAt w0 c.1 c.2
theorem DInv.start{w0 w:World}(h:Below w0.heap.size w0 w)(n:Nat)(z:Array Value):DInv w0 (w.alloc (.cells (madeCells z (n*4)) 56)) w.heap.size n []:=by
 obtain⟨F,hF⟩:=rowIs_any w (madeCells z (n*4)) 56
 rw[size_madeCells] at hF
 exact⟨below_alloc h _,h.size,⟨F,hF,fun i c hc=>by simp at hc⟩,fun c hc=>by simp at hc⟩
theorem DInv.step{w0 w:World}{g n:Nat}{Cs:List (Vc×Sl)}{X:Vc}{p:Sl}(h:DInv w0 w g n Cs)(hv:VecAt w0 X p){k:Nat}(hk:Cs.length=k) :
  DInv w0 ((((w.setCell ⟨g,k*4,none⟩ (.int .i64 X.k)).setCell ⟨g,k*4+1,none⟩ (.slice p.a1 X.nl.length p.c1)).setCell ⟨g,k*4+2,none⟩ (.slice p.a2 X.ns.length p.c2)).setCell ⟨g,k*4+3,none⟩ (.slice p.a3 X.ss.length p.c3)) g n (Cs++[(X,p)]):=by
 obtain⟨F,hF,hF'⟩:=h.row
 refine⟨(((h.bel.setCell h.ge _).setCell h.ge _).setCell h.ge _).setCell h.ge _,h.ge,⟨_,(((hF.set _ _).set _ _).set _ _).set _ _,fun i c hc=>?_⟩,fun c hc=>?_⟩
 ·by_cases e:i<k
  ·rw[List.getElem?_append_left (by omega)] at hc
   obtain⟨a0,a1,a2,a3⟩:=hF' i c hc
   refine⟨?_,?_,?_,?_⟩
   ·rw[if_neg (by omega),if_neg (by omega),if_neg (by omega),if_neg (by omega),a0]
   ·rw[if_neg (by omega),if_neg (by omega),if_neg (by omega),if_neg (by omega),a1]
   ·rw[if_neg (by omega),if_neg (by omega),if_neg (by omega),if_neg (by omega),a2]
   ·rw[if_neg (by omega),if_neg (by omega),if_neg (by omega),if_neg (by omega),a3]
  ·have e2:i=k:=by
    have:=(List.getElem?_eq_some_iff.1 hc).1
    simp at this
    omega
   subst e2
   rw[List.getElem?_append_right (by omega),hk] at hc
   simp at hc
   subst hc
   refine⟨?_,?_,?_,?_⟩<;>simp
 ·rcases List.mem_append.1 hc with m|m
  ·exact h.vec c m
  ·simp at m;subst m;exact hv
theorem DInv.cols{w0 w:World}{g n:Nat}{Cs:List (Vc×Sl)}(h:DInv w0 w g n Cs)(hn:Cs.length=n):ColsAt w (some ⟨g,0,none⟩) Cs:=by
 obtain⟨F,hF,hF'⟩:=h.row
 refine⟨.inr ⟨g,0,rfl,fun i c hc=>?_⟩,fun c hc=>(h.vec c hc).later h.bel⟩
 have hi:=(List.getElem?_eq_some_iff.1 hc).1
 obtain⟨a0,a1,a2,a3⟩:=hF' i c hc
 refine⟨?_,?_,?_,?_⟩
 ·rw[Nat.zero_add,hF.cell (by omega),a0]
 ·rw[Nat.zero_add,hF.cell (by omega),a1]
 ·rw[Nat.zero_add,hF.cell (by omega),a2]
 ·rw[Nat.zero_add,hF.cell (by omega),a3]
theorem DInv.cells{w0 w:World}{g n k:Nat}{Cs:List (Vc×Sl)}(h:DInv w0 w g n Cs)(hk:k<n):∃v0 v1 v2 v3,w.cell? ⟨g,k*4,none⟩=some v0/\w.cell? ⟨g,k*4+1,none⟩=some v1/\w.cell? ⟨g,k*4+2,none⟩=some v2/\w.cell? ⟨g,k*4+3,none⟩=some v3/\w.frozen? ⟨g,k*4,none⟩=false/\w.frozen? ⟨g,k*4+1,none⟩=false/\w.frozen? ⟨g,k*4+2,none⟩=false/\w.frozen? ⟨g,k*4+3,none⟩=false:=by
 obtain⟨F,hF,hF'⟩:=h.row
 exact⟨_,_,_,_,hF.cell (by omega),hF.cell (by omega),hF.cell (by omega),hF.cell (by omega),hF.frozen _,hF.frozen _,hF.frozen _,hF.frozen _⟩
def outC(n:Nat)(c:Int):Bool:=decide (c<0) || decide ((n:Int)<=c)
def ReadQ(w w':World)(Xs:List Vc)(rows:Nat)(cs:List Int)(e:Ending):Prop:=
 (cs.any (outC Xs.length)=true/\e=.returned (.tuple #[.slice none 0 0,.int .i64 1])/\Below w.heap.size w w')∨(cs.any (outC Xs.length)=false/\cs=[]/\∃a c,e=.returned (.tuple #[.slice a rows c,.int .i64 0])/\LisAt w' a (List.replicate rows (.slice none 0 0))/\w'.ownsRow w.heap.size 36 1 (.slice a rows c) rows (List.replicate rows (.slice none 0 0))/\Below w.heap.size w w')∨(cs.any (outC Xs.length)=false/\cs≠[]/\∃(Ps:List (Vc×Sl)) (v:Value),Ps.length=cs.length/\(∀(i:Nat) (c:Int) (q:Vc×Sl),cs[i]?=some c->Ps[i]?=some q->Xs[c.toNat]?=some q.1)/\e=.returned (.tuple #[v,.int .i64 (tabV Ps).2])/\(∃b,w.heap.size<=b/\RowsV w' v (tabV Ps).1/\RowsO w' b v (tabV Ps).1.length)/\Below w.heap.size w w')
end Go.Proofs.YtbfibfmnemnbbaaGreat
set_option linter.unusedSimpArgs false
set_option linter.unusedVariables false
set_option maxHeartbeats 4000000
set_option maxRecDepth 100000
namespace Go.Proofs.YtbfibfmnemnbbaaGreat
open Go.RowKit Go.Sort
theorem sread_yes{l:List UInt8}(hl:l.length<=140737488300000){Xs:List Vc}{ps:List (ByteArray×ByteArray)}(h:Seg l Xs ps)(cs:List Int)(a:Option Addr)(cp:Nat)(w:World)(hcl:cs.length<=1048576)(ha:LisAt w a (cs.map (Value.int .i64))):Calls Tryz.prog 5 #[.string (bs l),.slice a cs.length cp] w fun e w'=>ReadQ w w' Xs (layR l) cs e:=by
 obtain⟨j4,hj4,y40,y41,y42⟩:=info_parts Tryz.info56'
 obtain⟨k7,hk7,x70,x71,x72⟩:=info_parts Tryz.info36
 have HO:=hide (fun W=>sop_yes hl h W)
 have hn:=h.lay.len
 have hrow:=h.lay.rows
 have HSM:Hid (∀X∈Xs,small X/\X.nl.length<=1048576):=fun X hX=>⟨(h.lay.fit hX).small,by
  obtain⟨i,hi,e⟩:=List.mem_iff_getElem.1 hX
  have:=(h.lay.at_ i X (by rw[List.getElem?_eq_getElem hi,e])).2
  have:=h.lay.rows
  omega⟩
 rw[<-hn] at HO
 obtain⟨rows,hrows⟩:∃rows,layR l=rows:=⟨_,rfl⟩
 rw[hrows] at HO hrow ⊢
 obtain⟨n,hnn⟩:∃n,Xs.length=n:=⟨_,rfl⟩
 rw[hnn] at HO
 have HNN:=hide hnn
 have HA:=hide ha
 obtain⟨m,hm⟩:∃m,cs.length=m:=⟨_,rfl⟩
 rw[hm] at hcl ⊢
 have HM:=hide hm
 have HROW:=hide hrow
 clear h hn hnn hrows ha hm hrow
 have im:(m:Int)<=1048576:=by omega
 go_enter Tryz.func5,Tryz.ntmps5
 go_wp2_with (first
  | (go_at_call 21;refine(unhide HO _).mono ?_;rintro _ w2 ⟨Cs,az,ac,cz,cc,rfl,hx,-,hc,-,hb⟩;have HX:=hide hx;have HC:=hide hc;have HB:=hide hb;clear hx hc hb)
  | (at_make;refine wpList_make_rows _ rfl (.tmp 20) (.tmp 20) 51 rfl 56 j4 _ Tryz.underlying51 hj4 y40 4 y41 .i64 .i64 m rfl rfl (by rw[y42];omega) (by omega) ?_))
 have hg:=seg3_facts (seg3_alloc w2 (rows:Int) (.slice az n cz) (.slice ac n cc))
 have S0:=DInv.start (Below.refl _ (w2.alloc (.cells #[.int .i64 (rows:Int),.slice az n cz,.slice ac n cc] 62))) m #[.int .i64 0,.slice none 0 0,.slice none 0 0,.slice none 0 0]
 have HC3:=hide ((unhide HC).later (below_alloc (Below.refl _ w2) (.cells #[.int .i64 (rows:Int),.slice az n cz,.slice ac n cc] 62)))
 have HB3:=hide (below_alloc (unhide HB) (.cells #[.int .i64 (rows:Int),.slice az n cz,.slice ac n cc] 62))
 rw[show (w2.alloc (.cells #[.int .i64 (rows:Int),.slice az n cz,.slice ac n cc] 62)).heap.size=w2.heap.size+1 by simp] at S0
 obtain⟨w3,hw3⟩:∃w3,w2.alloc (.cells #[.int .i64 (rows:Int),.slice az n cz,.slice ac n cc] 62)=w3:=⟨_,rfl⟩
 rw[hw3] at hg S0 HC3 HB3 ⊢
 obtain⟨S,hS⟩:∃S,w2.heap.size+1=S:=⟨_,rfl⟩
 rw[hS] at S0 ⊢
 have HG:=hide hg.1
 have HST:=hide S0
 obtain⟨w4,hw4⟩:∃w4,w3.alloc (.cells (madeCells #[.int .i64 0,.slice none 0 0,.slice none 0 0,.slice none 0 0] (m*4)) 56)=w4:=⟨_,rfl⟩
 rw[hw4] at HST ⊢
 clear hw3 hS hg S0 hw4 HO HC HB
 go_loopw[24] (fun s wr=>∃(j:Nat) (Ps:List (Vc×Sl)),j<=m/\s=.int .i64 (j:Int)/\Hid (Ps.length=j)/\Hid (DInv w3 wr S m Ps)/\Hid (∀(i:Nat) (c:Int),i<j->cs[i]?=some c->outC n c=false)/\Hid (∀(i:Nat) (c:Int) (q:Vc×Sl),cs[i]?=some c->Ps[i]?=some q->Xs[c.toNat]?=some q.1)) (fun s _=>m-(intOf s).toNat)
 case atStart=>exact⟨0,[],Nat.zero_le _,rfl,rfl,HST,fun i c hi=>absurd hi (by omega),fun i c q _ hq=>by simp at hq⟩
 case round=>
  obtain⟨j,Ps,hj,rfl,HPL,HD,HN,HQ⟩:=hrel
  clear HST
  by_cases hjm:j<m
  ·have ij:(j:Int)<(m:Int):=by omega
   obtain⟨c,hc⟩:∃c,cs[j]?=some c:=⟨_,List.getElem?_eq_getElem (by rw[unhide HM];exact hjm)⟩
   obtain⟨ab,ao,rfl,qa⟩:=lis_get ((unhide HA).later (below_step (unhide HB3) (unhide HD).bel)) (show (cs.map (Value.int .i64))[j]?=some (.int .i64 c) by simp[hc])
   have hg2:=cell_later (unhide HD).bel (unhide HG).2.2
   by_cases hout:outC n c=true
   ·have HR:Hid (cs.any (outC Xs.length)=true):=by
     show _=_
     rw[unhide HNN]
     exact List.any_eq_true.2 ⟨c,List.mem_of_getElem? hc,hout⟩
    have HBW:=hide (below_step (unhide HB3) (unhide HD).bel)
    clear HC3 HD HN HQ hc
    by_cases h0:c<0
    ·go_wp2
     go_ret2
     exact .inl ⟨unhide HR,rfl,unhide HBW⟩
    ·have h1:(n:Int)<=c:=by
      unfold outC at hout
      simp only[h0,decide_false,Bool.false_or,decide_eq_true_eq] at hout
      exact hout
     clear hout
     go_wp2
     go_ret2
     exact .inl ⟨unhide HR,rfl,unhide HBW⟩
   ·have hof:outC n c=false:=by simpa using hout
    have h01:0<=c/\c<(n:Int):=by
     unfold outC at hof
     simp only[Bool.or_eq_false_iff,decide_eq_false_iff_not] at hof
     omega
    obtain⟨q,rfl⟩:∃q:Nat,c=(q:Int):=⟨c.toNat,by omega⟩
    have hqn:q<n:=by omega
    have hCl:Cs.length=n:=by rw[<-unhide HNN,<-unhide HX,List.length_map]
    obtain⟨d,hd⟩:∃d,Cs[q]?=some d:=⟨_,List.getElem?_eq_getElem (by omega)⟩
    obtain⟨cb,co,rfl,c0,c1,c2,c3⟩:=cols_at ((unhide HC3).later (unhide HD).bel) hd
    obtain⟨v0,v1,v2,v3,e0,e1,e2,e3,f0,f1,f2,f3⟩:=(unhide HD).cells (k:=j) hjm
    obtain⟨t,ht⟩:∃t,co+q*4=t:=⟨_,rfl⟩
    have HD2:=hide ((unhide HD).step ((unhide HC3).2 d (List.mem_of_getElem? hd)) (k:=j) (unhide HPL))
    have HX2:Hid (Xs[q]?=some d.1):=by show _=_;rw[<-unhide HX,List.getElem?_map,hd];rfl
    have i0:¬(q:Int)<0:=by omega
    have i1:¬(n:Int)<=(q:Int):=by omega
    have i2:(q:Int)<(n:Int):=by omega
    have HOF:=hide hof
    have HCJ:=hide hc
    clear hout hof h01 hd hc HC3 HD hCl ht
    go_wp2
    go_roundw
    case rel=>
     refine⟨j+1,Ps++[d],by omega,by go_num,by show _=_;rw[List.length_append,unhide HPL];rfl,HD2,?_,?_⟩
     ·intro i c hi hci
      by_cases e:i=j
      ·subst e
       rw[unhide HCJ] at hci
       injection hci with hci
       rw[<-hci]
       exact unhide HOF
      ·exact unhide HN i c (by omega) hci
     ·intro i c x hci hx
      by_cases e:i<j
      ·rw[List.getElem?_append_left (by rw[unhide HPL];exact e)] at hx
       exact unhide HQ i c x hci hx
      ·have e2:i=j:=by
        have:=(List.getElem?_eq_some_iff.1 hx).1
        simp[unhide HPL] at this
        omega
       subst e2
       rw[List.getElem?_append_right (by rw[unhide HPL];omega),unhide HPL] at hx
       simp at hx
       subst hx
       rw[unhide HCJ] at hci
       injection hci with hci
       rw[<-hci]
       exact unhide HX2
    case measure=>first | (simp[intOf];omega) | (simp only[intOf];omega)
  ·have hjm2:j=m:=by omega
   subst hjm2
   have ij:¬(j:Int)<(j:Int):=by omega
   have HAN:Hid (cs.any (outC Xs.length)=false):=by
    show _=_
    rw[unhide HNN]
    refine List.any_eq_false.2 fun c hc=>?_
    obtain⟨i,hi,e⟩:=List.mem_iff_getElem.1 hc
    rw[unhide HN i c (by rw[<-unhide HM];exact hi) (by rw[List.getElem?_eq_getElem hi,e])]
    simp
   have hg0:=cell_later (unhide HD).bel (unhide HG).1
   have HBW:=hide (below_step (unhide HB3) (unhide HD).bel)
   by_cases hz:j=0
   ·subst hz
    have HE:Hid (cs=[]):=List.eq_nil_of_length_eq_zero (unhide HM)
    have ir:(rows:Int)<=4096:=by have:=unhide HROW;omega
    clear HD HN HQ
    go_wp2_with (at_make;refine wpList_make_row _ rfl (.tmp 51) (.tmp 51) 23 rfl 36 k7 (.slice none 0 0) Tryz.underlying23 hk7 x70 x71 rfl .i64 .i64 rows rfl rfl (by rw[x72];have:=unhide HROW;omega) (by have:=unhide HROW;omega) ?_)
    go_ret2
    refine .inr (.inl ⟨unhide HAN,unhide HE,some ⟨wr.heap.size,0,none⟩,rows,rfl,.inr ⟨_,_,rfl,fun i x hx=>?_⟩,own1_of_row (World.rowIs_made wr (.slice none 0 0) rows 36) (List.length_replicate ..) (fun i x hi hx=>by rw[List.getElem?_replicate,if_pos hi] at hx;injection hx) (unhide HBW).size (by have:=unhide HROW;unfold maxLen;omega),below_alloc (unhide HBW) _⟩)
    have hr:=World.rowIs_made wr (.slice none 0 0) rows 36
    rw[List.getElem?_replicate] at hx
    split at hx
    ·rename_i hi
     rw[Nat.zero_add,World.rowIs.cell hr hi]
     exact hx
    ·cases hx
   ·have hz1:((j:Int) == 0)=false:=by simp;exact hz
    have HPC:=hide ((unhide HD).cols (unhide HPL))
    have HT:=hide (table_any (some ⟨S,0,none⟩) j Ps wr (by rw[unhide HPL];exact hcl) (fun x hx=>by
     obtain⟨i,hi,e⟩:=List.mem_iff_getElem.1 hx
     have hci:i<cs.length:=by rw[unhide HM,<-unhide HPL];exact hi
     have:=unhide HQ i _ x (List.getElem?_eq_getElem hci) (by rw[List.getElem?_eq_getElem hi,e])
     exact(unhide HSM _ (List.mem_of_getElem? this)).1) (fun x hx=>by
     obtain⟨i,hi,e⟩:=List.mem_iff_getElem.1 hx
     have hci:i<cs.length:=by rw[unhide HM,<-unhide HPL];exact hi
     have:=unhide HQ i _ x (List.getElem?_eq_getElem hci) (by rw[List.getElem?_eq_getElem hi,e])
     exact(unhide HSM _ (List.mem_of_getElem? this)).2) (unhide HPC))
    rw[unhide HPL] at HT
    have HNE:Hid (cs≠[]):=fun e=>hz (by rw[<-unhide HM,e];rfl)
    clear HD HN hz
    go_wp2_with (go_at_call 22;refine(unhide HT).mono ?_;rintro _ w5 ⟨v5,rfl,hr5,hb5⟩)
    go_ret2
    exact .inr (.inr ⟨unhide HAN,unhide HNE,Ps,v5,by rw[unhide HPL,unhide HM],unhide HQ,rfl,⟨_,(unhide HBW).size,hr5.1,hr5.2⟩,below_step (unhide HBW) hb5⟩)
end Go.Proofs.YtbfibfmnemnbbaaGreat
set_option linter.unusedSimpArgs false
set_option linter.unusedVariables false
set_option maxRecDepth 100000
namespace Go.Proofs.YtbfibfmnemnbbaaGreat
open Go.RowKit Go.Sort
theorem clean_two(x:Val):cleanV (cleanV x)=cleanV x:=by
 unfold cleanV
 rcases Bool.eq_false_or_eq_true (x.k == 1) with h1|h1<;>rcases Bool.eq_false_or_eq_true (x.k == 2) with h2|h2<;>simp[h1,h2,Val.num,Val.str,Val.null]
theorem col_at{kinds:List Int}{rs:List (List Val)}{j:Nat}(hc:(colX kinds rs j).2=0):goodB (colX kinds rs j).1=true/\(colX kinds rs j).1.nl.length=rs.length/\valsV (colX kinds rs j).1=(colL rs j).map cleanV/\∀i,i<rs.length->atV (colX kinds rs j).1 i=cleanV ((rs.getD i []).getD j .null):=by
 have hff:fromV (kinds.getD j 0) (colL rs j)=((colX kinds rs j).1,0):=by
  have:fromV (kinds.getD j 0) (colL rs j)=colX kinds rs j:=rfl
  rw[this,<-hc]
 obtain⟨g1,g2,g3,g4,g5,g6,g7,g8⟩:=from_ok hff
 have hl:(colL rs j).length=rs.length:=by simp[colL]
 refine⟨g1,by omega,g3,fun i hi=>?_⟩
 have h1:(valsV (colX kinds rs j).1)[i]?=some (atV (colX kinds rs j).1 i):=by
  unfold valsV
  rw[g1,if_pos rfl,List.getElem?_map,List.getElem?_range (by omega)]
  rfl
 rw[g3,List.getElem?_map,show colL rs j=rs.map fun r=>r.getD j .null from rfl,List.getElem?_map,List.getElem?_eq_getElem hi] at h1
 simp only[Option.map_some,Option.some.injEq] at h1
 rw[<-h1]
 congr 1
 simp[List.getD,List.getElem?_eq_getElem hi]
theorem tab_back{kinds:List Int}{rs:List (List Val)}(hE:Even kinds rs)(h1:1<=kinds.length)(hc:∀j,j<kinds.length->(colX kinds rs j).2=0){Ps:List (Vc×Sl)}(hl:Ps.length=kinds.length)
  (hP:∀(i:Nat) (q:Vc×Sl),Ps[i]?=some q->q.1=(colX kinds rs i).1):tabV Ps=(rs.map fun r=>r.map cleanV,0):=by
 have hat:∀(i:Nat) (hi:i<Ps.length),Ps[i].1=(colX kinds rs i).1:=fun i hi=>hP i _ (List.getElem?_eq_getElem hi)
 have hn:len0 Ps=rs.length:=by
  match Ps,hl,hat with
  | [],hl,_=>simp at hl;omega
  | c::Ps,hl,hat=>
   show c.1.nl.length=_
   have:=hat 0 (by simp)
   simp only[List.getElem_cons_zero] at this
   rw[this]
   exact(col_at (hc 0 (by omega))).2.1
 have hb:Ps.any (badC (len0 Ps))=false:=by
  rw[List.any_eq_false]
  intro q hq
  obtain⟨i,hi,rfl⟩:=List.getElem_of_mem hq
  have C:=col_at (kinds:=kinds) (rs:=rs) (hc i (by omega))
  unfold badC
  rw[hat i hi,C.1,C.2.1,hn]
  simp
 unfold tabV
 rw[hb,if_neg (by decide)]
 congr 1
 unfold rowsOf
 rw[hn]
 refine List.ext_getElem (by simp) fun i k1 k2=>?_
 have hi:i<rs.length:=by simpa using k2
 simp only[List.getElem_map,List.getElem_range]
 have hrl:=hE.len rs[i] (List.getElem_mem hi)
 refine List.ext_getElem (by rw[rowOf_len];simp[hl,hrl]) fun j m1 m2=>?_
 have hj:j<kinds.length:=by rw[rowOf_len] at m1;omega
 have hjp:j<Ps.length:=by omega
 have q1:(rowOf Ps i)[j]=atV Ps[j].1 i:=by
  have:=rowOf_at (i:=i) (List.getElem?_eq_getElem hjp)
  rw[List.getElem?_eq_getElem m1] at this
  injection this
 rw[q1,hat j hjp,(col_at (hc j hj)).2.2.2 i hi,List.getElem_map]
 congr 1
 simp[List.getD,List.getElem?_eq_getElem hi,List.getElem?_eq_getElem (show j<rs[i].length by omega)]
theorem ord_lt_le{x y z:Val}(h1:ordV x y<0)(h2:ordV y z<=0):ordV x z<0:=by
 have a1:=ord_anti x y;have a2:=ord_anti y z;have a3:=ord_anti x z
 rcases Int.lt_or_le (ordV x z) 0 with h|h
 ·exact h
 ·have:=ord_le (x:=y) (y:=z) (z:=x) h2 (by omega)
  omega
theorem ord_le_lt{x y z:Val}(h1:ordV x y<=0)(h2:ordV y z<0):ordV x z<0:=by
 have a1:=ord_anti x y;have a2:=ord_anti y z;have a3:=ord_anti x z
 rcases Int.lt_or_le (ordV x z) 0 with h|h
 ·exact h
 ·have:=ord_le (x:=z) (y:=x) (z:=y) (by omega) h1
  omega
theorem low_fold:∀(l:List Val) (m:Val),(∀x∈l,¬x.k=0)->(¬m.k=0->¬(l.foldl lowS m).k=0/\ordV (l.foldl lowS m) m<=0)/\∀x∈l,¬(l.foldl lowS m).k=0/\ordV (l.foldl lowS m) x<=0
 | [],m,_=>⟨fun h=>⟨h,by simp[ord_self]⟩,fun x hx=>by simp at hx⟩
 | a::l,m,h=>by
  have ih:=low_fold l (lowS m a) (fun x hx=>h x (List.mem_cons_of_mem _ hx))
  have ha:=h a (List.mem_cons_self ..)
  rw[List.foldl_cons]
  have hk:¬(lowS m a).k=0:=by
   unfold lowS
   split
   ·exact ha
   ·rename_i q;simp at q;exact q.1
  have hm:¬m.k=0->ordV (lowS m a) m<=0:=fun hm=>by
   unfold lowS
   split
   ·rename_i q;simp[hm] at q;omega
   ·simp[ord_self]
  have hA:ordV (lowS m a) a<=0:=by
   unfold lowS
   split
   ·simp[ord_self]
   ·rename_i q;simp at q;have:=ord_anti m a;omega
  obtain⟨k1,k2⟩:=ih.1 hk
  refine⟨fun h0=>⟨k1,ord_le k2 (hm h0)⟩,fun x hx=>?_⟩
  rcases List.mem_cons.1 hx with rfl|hx
  ·exact⟨k1,ord_le k2 hA⟩
  ·exact ih.2 x hx
theorem high_fold:∀(l:List Val) (m:Val),ordV m (l.foldl highS m)<=0/\∀x∈l,ordV x (l.foldl highS m)<=0
 | [],m=>⟨by simp[ord_self],fun x hx=>by simp at hx⟩
 | a::l,m=>by
  have ih:=high_fold l (highS m a)
  rw[List.foldl_cons]
  have hm:ordV m (highS m a)<=0:=by
   unfold highS
   split
   ·rename_i q;simp at q;have:=ord_anti m a;omega
   ·simp[ord_self]
  have hA:ordV a (highS m a)<=0:=by
   unfold highS
   split
   ·simp[ord_self]
   ·rename_i q;simp at q;exact q
  refine⟨ord_le hm ih.1,fun x hx=>?_⟩
  rcases List.mem_cons.1 hx with rfl|hx
  ·exact ord_le hA ih.1
  ·exact ih.2 x hx
theorem span_cov{xs:List Val}{y:Val}(hy:y∈xs):(y.k=0->0<(spanT xs xs.length).2.2)/\(¬y.k=0->¬(spanT xs xs.length).1.k=0/\ordV (spanT xs xs.length).1 y<=0/\ordV y (spanT xs xs.length).2.1<=0):=by
 unfold spanT
 rw[List.take_length]
 refine⟨fun h=>?_,fun h=>?_⟩
 ·exact List.length_pos_of_mem (List.mem_filter.2 ⟨hy,by simp[h]⟩)
 ·have hs:y∈standL xs:=List.mem_filter.2 ⟨hy,by simp[h]⟩
  have hk:∀x∈standL xs,¬x.k=0:=fun x hx=>by have:=(List.mem_filter.1 hx).2;simpa using this
  obtain⟨a,b⟩:=(low_fold _ .null hk).2 y hs
  exact⟨a,b,(high_fold _ .null).2 y hs⟩
end Go.Proofs.YtbfibfmnemnbbaaGreat
set_option linter.unusedSimpArgs false
set_option linter.unusedVariables false
set_option maxRecDepth 100000
namespace Go.Proofs.YtbfibfmnemnbbaaGreat
open Go.RowKit Go.Sort
theorem build_one(w:World)(b:Nat)(h:w.cell? ⟨b,0,none⟩=some (.int .i64 1)):Calls Tryz.prog 4 #[.slice (some ⟨b,0,none⟩) 1 1,.slice none 0 0] w fun e w'=>∃t,e=.returned (.tuple #[.string t,.int .i64 0])/\Below w.heap.size w w':=by
 have hak:LisAt w (some ⟨b,0,none⟩) (([1]:List Int).map (Value.int .i64)):=.inr ⟨b,0,rfl,fun i x hx=>by
  match i,hx with
  | 0,hx=>simp at hx;subst hx;exact h
  | i+1,hx=>simp at hx⟩
 have har:RowsAt w none ([]:List (List Val)):=.inl rfl
 have C:=looks w [1] (some ⟨b,0,none⟩) 1 [] none 0 (by decide) (by decide) (fun r hr=>by simp at hr) hak har
 have hE:Even [1] []:=⟨by decide,by decide,fun r hr=>by simp at hr,fun r hr=>by simp at hr⟩
 have h0:(colX [1] [] 0).2=0:=by decide
 refine(build_d KP zP w [1] (some ⟨b,0,none⟩) 1 [] none 0 C hak har (by decide) (by decide) (by decide) (by decide) (by decide) (by decide) (fun i hi hc=>(hE.fit (fun r hr=>by simp at hr) hi hc).law)).mono ?_
 rintro e w' ⟨⟨i,hi,hn,_,rfl⟩|⟨hc,ps,rfl,hP⟩,hb⟩
 ·have:i=0:=by have:i<1:=hi;omega
  subst this
  exact absurd h0 hn
 ·exact⟨_,rfl,hb⟩
end Go.Proofs.YtbfibfmnemnbbaaGreat
