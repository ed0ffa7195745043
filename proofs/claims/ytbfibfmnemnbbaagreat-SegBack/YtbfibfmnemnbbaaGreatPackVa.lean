import Derived.Test.YtbfibfmnemnbbaaGreatShelf
import Derived.Test.YtbfibfmnemnbbaaGreatPackRa
import Derived.Test.YtbfibfmnemnbbaaGreatPackU
import Derived.Test.YtbfibfmnemnbbaaGreatPackN
import Derived.Test.YtbfibfmnemnbbaaGreatPackC
set_option linter.unusedSimpArgs false
set_option linter.unusedVariables false
namespace Go.Proofs.YtbfibfmnemnbbaaGreat
open Go.RowKit Go.Sort Go.Shelf Go.Lib
instance:Inhabited Val:=⟨Val.null⟩
theorem cmpLays80(blk off size:Nat)(w:World):CmpLays Tryz.prog 80 #[] c3 3 ordV blk off size w:=
 fun _ _ _ _ x y=>(order_up x y _).mono fun _ _ ⟨he,hu⟩=>⟨he,hu.grown⟩
theorem ltOf_ord:ltOf ordV=ltV:=rfl
theorem flatK_c3(d:Array Val):(flatK c3 3 d).toList=d.toList.flatMap c3:=by
 refine List.ext_getElem? fun j=>?_
 by_cases hj:j<d.size*3
 ·have hd:j / 3<d.size:=by omega
  have e1:(d.toList)[j / 3]?=some d[j / 3]!:=by rw[Array.getElem?_toList,getElem!_pos d (j / 3) hd];exact Array.getElem?_eq_getElem hd
  have:=flat_at d.toList (j / 3) (j % 3) _ e1 (by omega)
  rw[show j / 3*3+j % 3=j by omega] at this
  rw[this]
  simp only[flatK,Array.toList_map,List.getElem?_map]
  rw[Array.getElem?_toList,Array.getElem?_range,if_pos hj]
  simp only[Option.map_some]
  have h3:j % 3<(c3 d[j / 3]!).length:=by simp[c3];omega
  rw[getElem!_pos (c3 d[j / 3]!) (j % 3) h3,List.getElem?_eq_getElem h3]
 ·rw[List.getElem?_eq_none (by simp[flatK];omega),List.getElem?_eq_none (by rw[flat_len];simpa using hj)]
theorem own_holdsK{w:World}{base g cap N:Nat}{xs:List Val}(h:OwnV w base (.slice (some ⟨g,0,none⟩) N cap) xs):HoldsK c3 3 w g 0 xs.toArray:=by
 intro j hj
 have hN:=h.len
 subst hN
 rw[size_flatK] at hj
 have hj':j<xs.length*3:=by simpa using hj
 have e1:=flatK_c3 xs.toArray
 refine⟨?_,?_⟩
 ·rw[Nat.zero_add,World.ownsRow.cellAt h j hj']
  simp only[List.toList_toArray] at e1
  rw[<-e1,Array.getElem?_toList,Array.getElem?_eq_getElem (by simpa using hj')]
  rw[getElem!_pos _ _ (by simpa using hj')]
  rfl
 ·rw[Nat.zero_add];exact World.ownsRow.frozenAt h j
theorem own_sorted{w:World}{base g cap N n:Nat}{xs:List Val}{d':Array Val}{os:Array Obj}(h:OwnV w base (.slice (some ⟨g,0,none⟩) N cap) xs)(hs:d'.size=xs.length) :
  OwnV (sortWorldK c3 3 w g 0 n d' os) base (.slice (some ⟨g,0,none⟩) N cap) d'.toList/\Grew w (sortWorldK c3 3 w g 0 n d' os) (.slice (some ⟨g,0,none⟩) N cap) (.slice (some ⟨g,0,none⟩) N cap):=by
 have hN:=h.len
 subst hN
 rcases h.2 with ⟨e,_⟩|⟨g',cap',cur,e,hb,hh,hnc,hcm,hcs,htake⟩
 ·cases e
 injection e with e1 e2 e3
 injection e1 with e1
 injection e1 with e1
 subst e1 e3
 have hlt:g<w.heap.size:=(Array.getElem?_eq_some_iff.1 hh).1
 have hs2:d'.toList.length=xs.length:=by simpa using hs
 have hheap:(sortWorldK c3 3 w g 0 n d' os).heap[g]?=some (.cells (putCells id 0 (flatK c3 3 d') cur) 25 (0,0)):=by
  unfold sortWorldK grow putRowK putRow mapBlock
  simp only[Sort.ahead]
  rw[Array.getElem?_append_left (by simpa using hlt),Array.getElem?_modify,if_pos rfl,hh]
  rfl
 refine⟨⟨?_,.inr ⟨g,cap,putCells id 0 (flatK c3 3 d') cur,by rw[hs2],hb,hheap,by rw[hs2];exact hnc,hcm,by simp[putCells,hcs],?_⟩⟩,⟨⟨rfl,rfl,rfl,?_,?_⟩,.inl rfl⟩⟩
 ·rw[flat_len]
 ·rw[<-flatK_c3,Array.length_toList]
  refine List.ext_getElem? fun j=>?_
  rw[List.getElem?_take]
  by_cases hj:j<d'.size*3
  ·rw[if_pos hj,Array.getElem?_toList,Array.getElem?_toList]
   have hjc:j<cur.size:=by rw[hcs];omega
   simp only[putCells,Array.getElem?_mapIdx,Array.getElem?_eq_getElem hjc,Option.map_some]
   rw[if_pos ⟨Nat.zero_le _,by rw[size_flatK];omega⟩,Nat.sub_zero,Array.getElem?_eq_getElem (by rw[size_flatK];exact hj),getElem!_pos _ _ (by rw[size_flatK];exact hj)]
   rfl
  ·rw[if_neg hj,List.getElem?_eq_none (by rw[Array.length_toList,size_flatK];omega)]
 ·unfold sortWorldK grow putRowK putRow mapBlock
  simp[Sort.ahead]
 ·intro k hk hne
  have hkg:g≠k:=fun e=>hne (by rw[e];rfl)
  unfold sortWorldK grow putRowK putRow mapBlock
  simp only[Sort.ahead]
  rw[Array.getElem?_append_left (by simpa using hk),Array.getElem?_modify,if_neg hkg]
theorem vsort_any(base:Nat)(xs:List Val)(v:Value)(w:World)(hl:xs.length<=1048576)(hown:OwnV w base v xs) :
  Calls Tryz.prog 143 #[v,.func (.func 80) #[] #[]] w fun e w'=>e=.returned (.tuple #[])/\∃ys,OwnV w' base v ys/\Grew w w' v v/\ys.Perm xs/\Rises ys:=by
 rcases hown.2 with ⟨rfl,h0⟩|⟨g,cap,cur,rfl,rest⟩
 ·have hx:xs=[]:=List.eq_nil_of_length_eq_zero h0
  subst hx
  have hcon:=AnyF.slices_SortFunc_none Tryz.sortL none 0 (.func (.func 80) #[] #[]) w
  change Calls Tryz.prog 143 _ _ _ at hcon
  refine hcon.mono ?_
  rintro e w' ⟨rfl,rfl⟩
  exact⟨rfl,[],hown,Grew.refl _ _,List.Perm.refl _,List.Pairwise.nil⟩
 ·have eg:∀args w,(callFunc 80 args).run Tryz.prog w=.ok (.enter 80 args) w:=enters_of Tryz.func80 (by kernel_rfl) rfl
  have hcon:=AnyQ.slices_SortFunc Tryz.sortL 3 Tryz.isAgg25 Tryz.sizeOf25 c3 (fun _=>rfl) (fun x v hv=>c3_one x v hv) ordV swoV 80 #[] g 0 cap xs.toArray w eg (cmpLays80 g 0 _ w) (own_holdsK hown) (World.ownsRow.lt hown g rfl).2 (by simp;omega)
  change Calls Tryz.prog 143 _ _ _ at hcon
  have e1:xs.toArray.size=xs.length:=by simp
  rw[e1] at hcon
  refine hcon.mono ?_
  rintro e w' ⟨rfl,d',n,os,hp,hs,rfl⟩
  obtain⟨hp1,hp2,hp3⟩:=hp
  have hsz:d'.size=xs.length:=by rw[hp1];simp
  obtain⟨q1,q2⟩:=own_sorted (n:=n) (os:=os) hown hsz
  refine⟨rfl,d'.toList,q1,q2,?_,?_⟩
  ·have e2:d'.extract 0 xs.length=d':=by rw[<-hsz];simp
   have e3:xs.toArray.extract 0 xs.length=xs.toArray:=by rw[<-e1];simp
   rw[e2,e3] at hp3
   simpa using hp3
  ·refine List.pairwise_iff_getElem.2 fun i j hi hj hij=>?_
   have hi':i<d'.size:=by simpa using hi
   have hj':j<d'.size:=by simpa using hj
   have:=hs i j (Nat.zero_le _) hij (by omega)
   rw[getElem!_pos d' i hi',getElem!_pos d' j hj',ltOf_ord] at this
   simp only[ltV,decide_eq_false_iff_not] at this
   have h2:=ord_anti (d'[i]'(hi')) (d'[j]'(hj'))
   simp only[Array.getElem_toList]
   omega
end Go.Proofs.YtbfibfmnemnbbaaGreat
set_option linter.unusedSimpArgs false
set_option linter.unusedVariables false
namespace Go.Proofs.YtbfibfmnemnbbaaGreat
open Go.RowKit Go.Sort
theorem ownB_ownV_ne{W:World}{b1 b2:Nat}{v u:Value}{zs:List Int}{xs:List Val}(h1:OwnB W b1 v zs)(h2:OwnV W b2 u xs):∀g,u.ownBlock=some g->v.ownBlock≠some g:=by
 intro g hg hv
 rcases h1.2 with ⟨rfl,_⟩|⟨g1,_,c1,rfl,_,hh1,_⟩
 ·simp[Value.ownBlock] at hv
 rcases h2.2 with ⟨rfl,_⟩|⟨g2,_,c2,rfl,_,hh2,_⟩
 ·simp[Value.ownBlock] at hg
 simp only[Value.ownBlock,Option.some.injEq] at hg hv
 subst hg hv
 rw[hh1] at hh2
 simp at hh2
theorem OwnV.grew{w w':World}{B:Nat}{u v v':Value}{xs:List Val}(h:OwnV w B u xs)(hg:Grew w w' v v')(hne:∀g,u.ownBlock=some g->v.ownBlock≠some g):OwnV w' B u xs:=by
 refine World.ownsRow.kept h hg.1 ?_
 cases hu:u.ownBlock with
 | none=>exact .inl rfl
 | some g=>exact .inr fun e=>hne g hu e.symm
theorem ownV_slice{w:World}{base:Nat}{v:Value}{xs:List Val}(h:OwnV w base v xs):∃a c,v=.slice a xs.length c/\(∀ad,a=some ad->∃b o,ad=⟨b,o,none⟩)/\(a=none->xs=[])/\RowAt w a xs:=by
 obtain⟨a,c,e,hr⟩:=ownV_row h
 refine⟨a,c,e,?_,?_,hr⟩
 ·rcases h.2 with ⟨rfl,_⟩|⟨g,cap,cur,rfl,_⟩
  ·intro ad e2;injection e with e3;subst e3;cases e2
  ·intro ad e2;injection e with e3;subst e3;injection e2 with e2;exact⟨_,_,e2.symm⟩
 ·rintro rfl
  rcases h.2 with ⟨rfl,h0⟩|⟨g,cap,cur,rfl,_⟩
  ·exact List.eq_nil_of_length_eq_zero h0
  ·injection e with e3;cases e3
def numF(ns:List Nat)(k:Nat)(j:Nat):Value:=.int .u64 (if j<k then ((ns[j]?).getD 0:Nat) else 0:Int)
theorem numF_next{ns:List Nat}{k b:Nat}(h:ns[k]?=some b)(j:Nat):numF ns (k+1) j=if j=k then .int .u64 (b:Int) else numF ns k j:=by
 unfold numF
 by_cases hj:j=k
 ·subst hj;simp[h]
 ·rw[if_neg hj]
  by_cases hlt:j<k
  ·rw[if_pos hlt,if_pos (by omega)]
  ·rw[if_neg hlt,if_neg (by omega)]
theorem numF_lis{w:World}{g t:Nat}{ns:List Nat}(h:w.rowIs g t ns.length (numF ns ns.length)):LisAt w (some ⟨g,0,none⟩) (ns.map fun n:Nat=>Value.int .u64 (n:Int)):=by
 refine lis_of_row h (by simp) fun i y hi hy=>?_
 rw[List.getElem?_map] at hy
 obtain⟨m,hm,rfl⟩:=Option.map_eq_some_iff.1 hy
 simp only[numF,if_pos hi,hm,Option.getD_some]
theorem bl_lt(n:Nat):n<2 ^ bl n:=by
 unfold bl
 split
 ·omega
 ·exact Nat.lt_log2_self
theorem bl_le{n k:Nat}(h:n<2 ^ k):bl n<=k:=by
 unfold bl
 split
 ·omega
 ·have:=(Nat.log2_lt (by assumption)).2 h
  omega
theorem vpos_any(aa:Option Addr)(ca:Nat)(W:List Val)(t:Val)(w:World)(hl:W.length<=1048576)(ha:RowAt w aa W)(hr:Rises W) :
  Calls Tryz.prog 145 #[.slice aa W.length ca,t.v,.func (.func 80) #[] #[]] w fun e w'=>(∃f:Bool,e=.returned (.tuple #[.int .i64 (posN W t:Int),.bool f]))/\Below w.heap.size w w':=
 (vsearch_any aa ca W t w hl ha (hr.mono t)).mono fun e w' ⟨⟨k,f,he,hk,h1,h2⟩,hb⟩=>⟨⟨f,by rw[posN_eq hk h1 h2];exact he⟩,hb⟩
def wordsB(W xs:List Val):List Int:=(beL (W.length:Int) 2 2++plains W)++leB (total (bl (W.length-1)) (xs.map (posN W))) (bytesN xs.length (bl (W.length-1)))
def WordsOf(xs W:List Val):Prop:=∃S,S.Perm xs/\Rises S/\W=compL S
theorem WordsOf.len{xs W:List Val}(h:WordsOf xs W):W.length<=xs.length:=by
 obtain⟨S,hp,_,rfl⟩:=h
 rw[<-hp.length_eq]
 exact compL_len S
theorem WordsOf.rises{xs W:List Val}(h:WordsOf xs W):Rises W:=by
 obtain⟨S,_,hr,rfl⟩:=h
 exact compL_rises hr
theorem WordsOf.mem{xs W:List Val}(h:WordsOf xs W){x:Val}(hx:x∈xs):x∈W:=by
 obtain⟨S,hp,_,rfl⟩:=h
 exact compL_mem (hp.mem_iff.2 hx)
theorem WordsOf.sub{xs W:List Val}(h:WordsOf xs W){x:Val}(hx:x∈W):x∈xs:=by
 obtain⟨S,hp,_,rfl⟩:=h
 exact hp.mem_iff.1 ((compL_sub S).mem hx)
theorem plains_len4(W:List Val)(hs:∀x∈W,x.s.size<=1000)(hl:W.length<=4096):(plains W).length<=4128768:=by
 have:=plains_len W hs
 omega
end Go.Proofs.YtbfibfmnemnbbaaGreat
set_option linter.unusedSimpArgs false
set_option linter.unusedVariables false
set_option maxHeartbeats 8000000
set_option maxRecDepth 100000
namespace Go.Proofs.YtbfibfmnemnbbaaGreat
open Go.RowKit Go.Sort
theorem apwords_any(base b0:Nat)(zs:List Int)(xs:List Val)(vv v:Value)(w:World)(hown:OwnB w base v zs)(hlen:zs.length<=1000000)(hl:xs.length<=4096)(hs:∀x∈xs,x.s.size<=1000)(hbase:base<=w.heap.size)(ha:OwnV w b0 vv xs) :
  Calls Tryz.prog 125 #[v,vv] w fun e w'=>∃W v',WordsOf xs W/\e=.returned v'/\OwnB w' base v' (zs++wordsB W xs)/\Grew w w' v v':=by
 obtain⟨i6,hi6,z60,z61,z62⟩:=info_parts Tryz.info84
 have hsep:=ownB_ownV_ne hown ha
 obtain⟨aa,ca,rfl,hspot,hnone,hrow⟩:=ownV_slice ha
 have hgv:∀g,v.ownBlock=some g->g<w.heap.size:=fun g hg=>(ownB_lt hown hg).2
 have H1:=hide (vclone_any aa ca xs w (by omega) hspot hrow hnone)
 have H2:Hid (∀w1 v5,OwnV w1 w.heap.size v5 xs->Below w.heap.size w w1->Calls Tryz.prog 143 #[v5,.func (.func 80) #[] #[]] w1 fun e w'=>e=.returned (.tuple #[])/\∃S,(OwnV w' w.heap.size v5 S/\Below w.heap.size w w')/\S.Perm xs/\Rises S):=fun w1 v5 h1 h2=>
  (vsort_any w.heap.size xs v5 w1 (by omega) h1).mono fun e w' ⟨he,S,q1,q2,q3,q4⟩=>⟨he,S,⟨q1,h2.trans (q2.below h2.size fun g hg=>(World.ownsRow.lt h1 g hg).1)⟩,q3,q4⟩
 have H3:Hid (∀w2 v5 S,(OwnV w2 w.heap.size v5 S/\Below w.heap.size w w2)->(S.Perm xs/\Rises S)->Calls Tryz.prog 144 #[v5] w2 fun e w'=>∃W a6 c6,e=.returned (.slice a6 W.length c6)/\Hid (WordsOf xs W)/\Hid (OwnV w' w.heap.size (.slice a6 W.length c6) W/\Below w.heap.size w w')):=fun w2 v5 S ⟨h1,h2⟩ ⟨h3,h4⟩=>
  (vcompact_any w.heap.size S v5 w2 (by rw[h3.length_eq];omega) h1).mono fun e w' ⟨v',he,q1,q2⟩=>by
   obtain⟨a6,c6,rfl,_⟩:=ownV_slice q1
   exact⟨compL S,a6,c6,he,⟨S,h3,h4,rfl⟩,q1,h2.trans (q2.below h2.size fun g hg=>(World.ownsRow.lt h1 g hg).1)⟩
 have H4:Hid (∀w3 W a6 c6,Hid (WordsOf xs W)->Hid (OwnV w3 w.heap.size (.slice a6 W.length c6) W/\Below w.heap.size w w3)->Calls Tryz.prog 120 #[v,.int .u64 (W.length:Int),.int .i64 2] w3 fun e w'=>∃v',e=.returned v'/\Hid (OwnB w' base v' (zs++beL (W.length:Int) 2 2)/\OwnV w' w.heap.size (.slice a6 W.length c6) W/\Grew w w' v v')):=fun w3 W a6 c6 hW ⟨h1,h2⟩=>by
  have hO:OwnB w3 base v zs:=own_later hown h2
  exact(appnum_any base zs (W.length:Int) 2 v w3 (by omega) hO (by omega) (by have:=h2.size;omega)).mono fun e w' ⟨v',he,q1,q2⟩=>⟨v',he,q1,h1.grew q2 (ownB_ownV_ne hO h1),(Grew.of_below h2 v).trans q2⟩
 have H5:Hid (∀w4 W a6 c6 v7,Hid (WordsOf xs W)->Hid (OwnB w4 base v7 (zs++beL (W.length:Int) 2 2)/\OwnV w4 w.heap.size (.slice a6 W.length c6) W/\Grew w w4 v v7)->Calls Tryz.prog 127 #[v7,.slice a6 W.length c6] w4 fun e w'=>∃v',e=.returned v'/\Hid (OwnB w' base v' (zs++(beL (W.length:Int) 2 2++plains W))/\OwnV w' w.heap.size (.slice a6 W.length c6) W/\Grew w w' v v')):=fun w4 W a6 c6 v7 hW ⟨h1,h2,h3⟩=>by
  have hWl:=(unhide hW).len
  obtain⟨a6',c6',e6,_,_,hr6⟩:=ownV_slice h2
  injection e6 with e6 _ _
  subst e6
  have hsp:=ownB_ownV_ne h1 h2
  refine(applains_any base _ a6 c6 W v7 w4 h1 (by rw[List.length_append,beL_len];omega) (fun x hx=>hs x ((unhide hW).sub hx)) (by have:=h3.1.size;omega) hr6 (fun ad e=>hsp ad.block (by rw[e];rfl))).mono fun e w' ⟨v',he,q1,q2⟩=>⟨v',he,by rw[<-List.append_assoc];exact q1,h2.grew q2 hsp,h3.trans q2⟩
 have HGV:=hide hgv
 have HS:=hide hs
 have HROW:=hide hrow
 have HSEP:Hid (∀ad,aa=some ad->v.ownBlock≠some ad.block):=fun ad e=>hsep ad.block (by rw[e];rfl)
 clear hown hs ha hsep hspot hnone hrow hgv
 go_enter Tryz.func125,Tryz.ntmps125
 go_wp2_with (first
  | (go_at_call 123;refine(unhide H1).mono ?_;rintro e w1 ⟨v5,rfl,q1,q2⟩;replace q1:=hide q1;replace q2:=hide q2)
  | (go_at_call 143;refine(unhide H2 _ _ (unhide q1) (unhide q2)).mono ?_;rintro e w2 ⟨rfl,S,q3,q4⟩;replace q3:=hide q3;replace q4:=hide q4)
  | (go_at_call 144;refine(unhide H3 _ _ _ (unhide q3) (unhide q4)).mono ?_;rintro e w3 ⟨W,a6,c6,rfl,HW,q5⟩;have hWl:(W.length:Int)<=4096:=(by have:=(unhide HW).len;omega))
  | (go_at_call 120;refine(unhide H4 _ _ _ _ HW q5).mono ?_;rintro e w4 ⟨v7,rfl,q6⟩)
  | (go_at_call 127;refine(unhide H5 _ _ _ _ _ HW q6).mono ?_;rintro e w5 ⟨v8,rfl,q7⟩)
  | (at_make;refine wpList_make_row _ rfl (.tmp 26) (.tmp 26) 115 rfl 84 i6 (.int .u64 0) Tryz.underlying115 hi6 z60 z61 rfl .i64 .i64 xs.length rfl rfl (by rw[z62];omega) (by omega) ?_)
  | fail)
 obtain⟨ns,hns⟩:∃ns,Hid (ns=xs.map (posN W)):=⟨_,rfl⟩
 have HNL:Hid (ns.length=xs.length):=by show _=_;rw[unhide hns];simp
 have hsz5:=(unhide q7).2.2.1.size
 have hr5:=((unhide HROW).grew (unhide q7).2.2 (unhide HSEP))
 have HR5:=hide hr5
 obtain⟨a6',c6',e6,_,_,hr6⟩:=ownV_slice (unhide q7).2.1
 injection e6 with e6 _ e7
 subst e6 e7
 have HR6:=hide hr6
 have HRI:=hide (unhide HW).rises
 have HW8:Hid (W.length<=4096):=by show _<=_;omega
 clear hr5 hr6
 go_loopw[30] (fun s wr=>∃k:Nat,k<=xs.length/\s=.int .i64 (k:Int)/\wr.rowIs w5.heap.size 84 xs.length (numF ns k)/\Below w5.heap.size w5 wr) (fun s _=>xs.length-(intOf s).toNat)
 case atStart=>exact⟨0,Nat.zero_le _,rfl,(World.rowIs_made w5 (.int .u64 0) xs.length 84).congr fun j hj=>by simp[numF],below_alloc (Below.refl _ _) _⟩
 case round=>
  obtain⟨k,hk,rfl,hr,hb⟩:=hrel
  by_cases h8:k<xs.length
  ·have h9:(k:Int)<(xs.length:Int):=by omega
   obtain⟨x,hx⟩:∃x,xs[k]?=some x:=⟨_,List.getElem?_eq_getElem h8⟩
   rcases(unhide HR5).later hb with e|⟨rb,ro,rfl,hc⟩
   ·rw[e] at hx;cases hx
   obtain⟨c0,c1,c2⟩:=hc k x hx
   have bl:=below_alloc (Below.refl _ wr) (.cells #[.int .i64 x.k,.int .i64 x.n,.string x.s] 25)
   have HP:=hide (vpos_any a6 c6 W x (wr.alloc (.cells #[.int .i64 x.k,.int .i64 x.n,.string x.s] 25)) (by have:=unhide HW8;omega) ((unhide HR6).later (below_step hb bl)) (unhide HRI))
   rw[Val.open_] at HP
   have hpl:posN W x<=4096:=Nat.le_trans (Nat.le_of_lt (posN_lt ((unhide HW).mem (List.mem_of_getElem? hx)))) (unhide HW8)
   have hnk:ns[k]?=some (posN W x):=by rw[unhide hns];simp[hx]
   have HM:=hide (numF_next hnk)
   generalize posN W x=pp at *
   have HR2:=hide (hr.alloc (.cells #[.int .i64 x.k,.int .i64 x.n,.string x.s] 25))
   have HB2:=hide (below_step hb bl)
   have hszr:=hb.size
   have hltr:=hr.lt
   have FACT:Hid (∀w9,Below (wr.alloc (.cells #[.int .i64 x.k,.int .i64 x.n,.string x.s] 25)).heap.size (wr.alloc (.cells #[.int .i64 x.k,.int .i64 x.n,.string x.s] 25)) w9->Hid (w9.rowIs w5.heap.size 84 xs.length (numF ns k))/\Hid (Below w5.heap.size w5 w9)/\w9.cell? ⟨w5.heap.size,k,none⟩=some (.int .u64 0)/\w9.frozen? ⟨w5.heap.size,k,none⟩=false):=fun w9 h=>by
    have h3:=rowIs_later (unhide HR2) h
    exact⟨h3,below_step (unhide HB2) h,by rw[h3.cell h8];simp[numF],h3.frozen k⟩
   clear hc hx hr hb bl hnk
   go_wp2_with (go_at_call 145;refine(unhide HP).mono ?_;rintro e w9 ⟨⟨f,rfl⟩,hb9⟩;obtain⟨HR9,HB9,cm,fm⟩:=unhide FACT _ hb9;clear hb9)
   go_roundw
   case rel=>
    refine⟨k+1,by omega,by go_num,((unhide HR9).set k (.int .u64 (pp:Int))).congr fun j hj=>?_,(unhide HB9).setCell (p:=⟨w5.heap.size,k,none⟩) (Nat.le_refl _) _⟩
    rw[unhide HM j]
   case measure=>first | (simp[intOf];omega) | (simp only[intOf];omega)
  ·have h9:¬(k:Int)<(xs.length:Int):=by omega
   have hk8:k=xs.length:=by omega
   rw[hk8,<-unhide HNL] at hr
   have hlis:=numF_lis hr
   have H7:Hid (Calls Tryz.prog 140 #[v8,.slice (some ⟨w5.heap.size,0,none⟩) xs.length xs.length,.int .i64 (bl (W.length-1):Nat)] wr fun e w'=>∃v3,e=.returned v3/\OwnB w' base v3 (zs++wordsB W xs)/\Grew w w' v v3):=by
    obtain⟨o1,o2,o3⟩:=unhide q7
    have hpl:=plains_len4 W (fun x hx=>unhide HS x ((unhide HW).sub hx)) (unhide HW8)
    have hd:bl (W.length-1)<=64:=bl_le (Nat.lt_of_le_of_lt (show W.length-1<=4096 by have:=unhide HW8;omega) (by decide))
    have:=apbits_any base _ (some ⟨w5.heap.size,0,none⟩) xs.length ns (bl (W.length-1)) v8 wr (own_later o1 hb) (by rw[List.length_append,List.length_append,beL_len];omega) (by rw[unhide HNL];omega) hd (fun n hn=>by
     rw[unhide hns] at hn
     obtain⟨x,hx,rfl⟩:=List.mem_map.1 hn
     have h1:=posN_lt ((unhide HW).mem hx)
     exact Nat.lt_of_le_of_lt (by omega) (bl_lt (W.length-1))) (by have:=o3.1.size;have:=hb.size;omega) hlis (fun ad e=>by
     injection e with e
     subst e
     intro h3
     have:=(ownB_lt o1 h3).2
     simp at this)
    rw[unhide HNL] at this
    refine this.mono fun e w' ⟨v3,he,h5,h6⟩=>⟨v3,he,?_,(o3.trans (Grew.of_below hb v8)).trans h6⟩
    rw[unhide hns] at h5
    rw[wordsB,<-List.append_assoc]
    exact h5
   have HWD:=hide (fun W'=>widthof_any W.length W' (by have:=unhide HW8;omega))
   generalize bl (W.length-1)=D at *
   clear hr hb hlis hk8
   go_wp2_with (first
    | (go_at_call 146;refine(unhide HWD _).mono ?_;rintro e w2 ⟨rfl,rfl⟩)
    | (go_at_call 140;refine(unhide H7).mono ?_;rintro e w3 ⟨v3,rfl,h5,h6⟩))
   go_ret
   exact⟨_,_,unhide HW,rfl,h5,h6⟩
end Go.Proofs.YtbfibfmnemnbbaaGreat
