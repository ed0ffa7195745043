import Derived.Test.YtbfibfmnemnbbaaGreatVecI
set_option linter.unusedSimpArgs false
set_option linter.unusedVariables false
set_option maxHeartbeats 2000000
namespace Go.Proofs.YtbfibfmnemnbbaaGreat
open Go.RowKit Go.Sort
def noS:Value:=.slice none 0 0
def LInv(w0 w:World)(n k:Nat)(kind:Int)(s1 s2 s3:Value)(t:Nat)(c1 c2:List Value):Prop:=
 Below w0.heap.size w0 w/\w.rowIs w0.heap.size 56 4 (box4 (.int .i64 0) noS noS noS)/\(∃F,w.rowIs (w0.heap.size+1) 4 n F/\Holds F k c1)/\w.rowIs (w0.heap.size+1+1) 56 4 (box4 (.int .i64 kind) s1 s2 s3)/\(∃G,w.rowIs (w0.heap.size+1+1+1) t n G/\Holds G k c2)
theorem box4_arr(a b c d:Value):∀i,i < #[a,b,c,d].size->#[a,b,c,d][i]?=some (box4 a b c d i):=by
 intro i hi
 match i,hi with
 | 0,_=>rfl
 | 1,_=>rfl
 | 2,_=>rfl
 | 3,_=>rfl
theorem LInv.start(w:World)(n:Nat)(kind:Int)(s1 s2 s3 z:Value)(t:Nat)(c1 c2:List Value) :
  LInv w ((((w.alloc (.cells #[.int .i64 0,.slice none 0 0,.slice none 0 0,.slice none 0 0] 56)).alloc (.cells (madeCells #[.bool false] n) 4)).alloc (.cells #[.int .i64 kind,s1,s2,s3] 56)).alloc (.cells (madeCells #[z] n) t)) n 0 kind s1 s2 s3 t c1 c2:=by
 refine⟨by repeat (first|exact Below.refl _ _|refine Below.alloc ?_ (by simp<;>omega) _),?_,⟨fun _=>.bool false,?_,Holds.zero _ _⟩,?_,⟨fun _=>z,?_,Holds.zero _ _⟩⟩
 ·exact((((World.rowIs_alloc w _ 56 _ (box4_arr _ _ _ _))).alloc _).alloc _).alloc _
 ·have h:=((World.rowIs_made (w.alloc (.cells #[.int .i64 0,.slice none 0 0,.slice none 0 0,.slice none 0 0] 56)) (.bool false) n 4).alloc (.cells #[.int .i64 kind,s1,s2,s3] 56)).alloc (.cells (madeCells #[z] n) t)
  simpa using h
 ·have h:=(World.rowIs_alloc ((w.alloc (.cells #[.int .i64 0,.slice none 0 0,.slice none 0 0,.slice none 0 0] 56)).alloc (.cells (madeCells #[.bool false] n) 4)) _ 56 _ (box4_arr (.int .i64 kind) s1 s2 s3)).alloc (.cells (madeCells #[z] n) t)
  simpa using h
 ·have h:=World.rowIs_made (((w.alloc (.cells #[.int .i64 0,.slice none 0 0,.slice none 0 0,.slice none 0 0] 56)).alloc (.cells (madeCells #[.bool false] n) 4)).alloc (.cells #[.int .i64 kind,s1,s2,s3] 56)) z n t
  simpa using h
theorem LInv.step{w0 w:World}{n k:Nat}{kind:Int}{s1 s2 s3:Value}{t:Nat}{c1 c2:List Value}{v1 v2:Value}(h:LInv w0 w n k kind s1 s2 s3 t c1 c2)(h1:c1[k]?=some v1)(h2:c2[k]?=some v2)(o:Obj) :
  LInv w0 (((w.setCell ⟨w0.heap.size+1,k,none⟩ v1).setCell ⟨w0.heap.size+1+1+1,k,none⟩ v2).alloc o) n (k+1) kind s1 s2 s3 t c1 c2:=by
 obtain⟨hb,hr,⟨F,hF,hF'⟩,hx,⟨G,hG,hG'⟩⟩:=h
 have hz:=hG.lt
 refine⟨((hb.setCell (by simp<;>omega) _).setCell (by simp<;>omega) _).alloc (by simp;omega) _,?_,⟨_,?_,hF'.step h1⟩,?_,⟨_,?_,hG'.step h2⟩⟩
 ·exact((hr.setOther (by simp) _).setOther (by simp;omega) _).alloc _
 ·exact((hF.set k v1).setOther (by simp) _).alloc _
 ·exact((hx.setOther (by simp) _).setOther (by simp) _).alloc _
 ·exact((hG.setOther (by simp<;>omega) _).set k v2).alloc _
theorem LisAt.set{w:World}{g o:Nat}{cs:List Value}(h:LisAt w (some ⟨g,o,none⟩) cs)(a:Addr)(ha:g≠a.block)(v:Value):LisAt (w.setCell a v) (some ⟨g,o,none⟩) cs:=by
 rcases h with h|⟨b,off,e,h⟩
 ·exact .inl h
 ·cases e
  exact .inr ⟨g,o,rfl,fun i x hx=>(World.cell?_of_block (w:=w) (Go.Deep.blk_setCell_other _ _ _ _ ha)).trans (h i x hx)⟩
theorem LisAt.set4{w:World}{g o B:Nat}{cs:List Value}(h:LisAt w (some ⟨g,o,none⟩) cs)(hB:g≠B)(v0 v1 v2 v3:Value):LisAt ((((w.setCell ⟨B,0,none⟩ v0).setCell ⟨B,1,none⟩ v1).setCell ⟨B,2,none⟩ v2).setCell ⟨B,3,none⟩ v3) (some ⟨g,o,none⟩) cs:=
 (((h.set _ hB _).set _ hB _).set _ hB _).set _ hB _
theorem below_set4{w0 w:World}(h:Below w0.heap.size w0 w){B:Nat}(hB:w0.heap.size<=B)(v0 v1 v2 v3:Value):Below w0.heap.size w0 ((((w.setCell ⟨B,0,none⟩ v0).setCell ⟨B,1,none⟩ v1).setCell ⟨B,2,none⟩ v2).setCell ⟨B,3,none⟩ v3):=
 (((h.setCell hB _).setCell hB _).setCell hB _).setCell hB _
theorem nlOf_at{xs:List Val}{k:Nat}{x:Val}(h:xs[k]?=some x):((nlOf xs).map Value.bool)[k]?=some (.bool (x.k == 0)):=by simp[nlOf,h]
theorem laid_int(a:Option Addr)(c:Nat)(xs:List Val)(w:World)(hl:xs.length*32<=140737488355328)(ha:RowAt w a xs) :
  Calls Tryz.prog 37 #[.int .i64 1,.slice a xs.length c] w fun e w'=>∃p,e=.returned (vecV (laidV 1 xs) p)/\VecAt w' (laidV 1 xs) p/\Own3 w' w.heap.size (laidV 1 xs) p/\Below w.heap.size w w':=by
 obtain⟨i4,hi4,z40,z41,z42⟩:=info_parts Tryz.info4
 obtain⟨i2,hi2,z20,z21,z22⟩:=info_parts Tryz.info2
 generalize hX:laidV 1 xs=X
 have HX:=hide hX
 clear hX
 have HA:=hide ha
 clear ha
 go_enter Tryz.func37,Tryz.ntmps37
 go_wp2_with (first
  | (at_make;refine wpList_make_row _ rfl (.tmp 10) (.tmp 10) 52 rfl 4 i4 (.bool false) Tryz.underlying52 hi4 z40 z41 rfl .i64 .i64 xs.length rfl rfl (by rw[z42];omega) (by omega) ?_)
  | (at_make;refine wpList_make_row _ rfl (.tmp 16) (.tmp 16) 53 rfl 2 i2 (.int .i64 0) Tryz.underlying53 hi2 z20 z21 rfl .i64 .i64 xs.length rfl rfl (by rw[z22];omega) (by omega) ?_)
  | fail)
 go_loopw[25] (fun i wr=>∃k:Nat,k<=xs.length/\i=.int .i64 k/\LInv w wr xs.length k 1 (.slice (some ⟨w.heap.size+1,0,none⟩) xs.length xs.length) (.slice (some ⟨w.heap.size+1+1+1,0,none⟩) xs.length xs.length) noS 2 ((nlOf xs).map Value.bool) ((xs.map (·.n)).map (Value.int .i64))) (fun i _=>xs.length-(intOf i).toNat)
 case atStart=>exact⟨0,Nat.zero_le _,rfl,LInv.start _ _ _ _ _ _ _ _ _ _⟩
 case round=>
  obtain⟨k,hk,rfl,hI⟩:=hrel
  have HI:=hide hI
  obtain⟨hb,hr,⟨F,hF,hF'⟩,hx,⟨G,hG,hG'⟩⟩:=hI
  have ha':=(unhide HA).later hb
  have hz:=hG.lt
  by_cases h1:k<xs.length
  ·obtain⟨x,hx'⟩:∃x,xs[k]?=some x:=⟨_,List.getElem?_eq_getElem h1⟩
   rcases ha' with e|⟨ba,oa,rfl,hca⟩
   ·subst e;simp at h1
   obtain⟨c0,c1,c2⟩:=hca k x hx'
   have HS:=hide (nlOf_at hx')
   have HT:Hid (((xs.map (·.n)).map (Value.int .i64))[k]?=some (.int .i64 x.n)):=by show _=_;simp[hx']
   have i1:(k:Int)<(xs.length:Int):=by omega
   have b0:wr.cell? ⟨w.heap.size+1+1,0,none⟩=some (.int .i64 1):=hx.cell (by omega)
   have b1:wr.cell? ⟨w.heap.size+1+1,1,none⟩=some (.slice (some ⟨w.heap.size+1,0,none⟩) xs.length xs.length):=hx.cell (by omega)
   have b2:wr.cell? ⟨w.heap.size+1+1,2,none⟩=some (.slice (some ⟨w.heap.size+1+1+1,0,none⟩) xs.length xs.length):=hx.cell (by omega)
   have f1:wr.frozen? ⟨w.heap.size+1,k,none⟩=false:=hF.frozen k
   have f2:wr.frozen? ⟨w.heap.size+1+1+1,k,none⟩=false:=hG.frozen k
   have n1:w.heap.size+1<wr.heap.size:=by omega
   have n2:w.heap.size+1+1<wr.heap.size:=by omega
   have g1:=hF.cell h1
   have g2:=hG.cell h1
   clear hca hx' hF hF' hG hG' hr hx hb
   go_wp2
   go_roundw
   case rel=>exact⟨k+1,by omega,by go_num,(unhide HI).step (unhide HS) (unhide HT) _⟩
   case measure=>simp[intOf];omega
  ·have e:k=xs.length:=by omega
   have i1:¬(k:Int)<(xs.length:Int):=by omega
   have b0:wr.cell? ⟨w.heap.size+1+1,0,none⟩=some (.int .i64 1):=hx.cell (by omega)
   have b1:wr.cell? ⟨w.heap.size+1+1,1,none⟩=some (.slice (some ⟨w.heap.size+1,0,none⟩) xs.length xs.length):=hx.cell (by omega)
   have b2:wr.cell? ⟨w.heap.size+1+1,2,none⟩=some (.slice (some ⟨w.heap.size+1+1+1,0,none⟩) xs.length xs.length):=hx.cell (by omega)
   have b3:wr.cell? ⟨w.heap.size+1+1,3,none⟩=some (.slice none 0 0):=hx.cell (by omega)
   have r0:wr.cell? ⟨w.heap.size,0,none⟩=some (.int .i64 0):=hr.cell (by omega)
   have r1:wr.cell? ⟨w.heap.size,1,none⟩=some (.slice none 0 0):=hr.cell (by omega)
   have r2:wr.cell? ⟨w.heap.size,2,none⟩=some (.slice none 0 0):=hr.cell (by omega)
   have r3:wr.cell? ⟨w.heap.size,3,none⟩=some (.slice none 0 0):=hr.cell (by omega)
   have f0:wr.frozen? ⟨w.heap.size,0,none⟩=false:=hr.frozen _
   have f1:wr.frozen? ⟨w.heap.size,1,none⟩=false:=hr.frozen _
   have f2:wr.frozen? ⟨w.heap.size,2,none⟩=false:=hr.frozen _
   have f3:wr.frozen? ⟨w.heap.size,3,none⟩=false:=hr.frozen _
   have HE2:Hid (wr.ownsRow (w.heap.size+1) 4 1 (.slice (some ⟨w.heap.size+1,0,none⟩) xs.length xs.length) xs.length ((nlOf xs).map Value.bool)/\wr.ownsRow (w.heap.size+1) 2 1 (.slice (some ⟨w.heap.size+1+1+1,0,none⟩) xs.length xs.length) xs.length ((xs.map (·.n)).map (Value.int .i64))):=by
    rw[e] at hF' hG'
    have hm:xs.length<=maxLen:=by unfold maxLen;omega
    exact⟨own1_of_row hF (by simp[nlOf]) hF' (by omega) hm,own1_of_row hG (by simp) hG' (by omega) hm⟩
   have HE:Hid (LisAt wr (some ⟨w.heap.size+1,0,none⟩) ((nlOf xs).map Value.bool)/\LisAt wr (some ⟨w.heap.size+1+1+1,0,none⟩) ((xs.map (·.n)).map (Value.int .i64))):=by
    rw[e] at hF' hG'
    exact⟨lis_of_row hF (by simp[nlOf]) hF',lis_of_row hG (by simp) hG'⟩
   have HB:=hide hb
   clear hF hF' hG hG' hr hx hb ha' e
   go_wp2
   refine bodyPost_ret (v:=.agg #[.int .i64 1,.slice (some ⟨w.heap.size+1,0,none⟩) xs.length xs.length,.slice (some ⟨w.heap.size+1+1+1,0,none⟩) xs.length xs.length,.slice none 0 0]) (by simp[results,Tryz.results37,go_sem, *]) rfl ?_
   have hX:=unhide HX
   subst hX
   refine⟨⟨some ⟨w.heap.size+1,0,none⟩,xs.length,some ⟨w.heap.size+1+1+1,0,none⟩,xs.length,none,0⟩,?_,⟨?_,?_,?_⟩,?_,below_set4 (unhide HB) (Nat.le_refl _) _ _ _ _⟩
   ·rw[vecV_open];simp[laidV,nlOf]
   ·exact(unhide HE).1.set4 (by omega) _ _ _ _
   ·exact(unhide HE).2.set4 (by omega) _ _ _ _
   ·exact .inl rfl
   ·have h3:Own3 wr (w.heap.size+1) (laidV 1 xs) ⟨some ⟨w.heap.size+1,0,none⟩,xs.length,some ⟨w.heap.size+1+1+1,0,none⟩,xs.length,none,0⟩:=by
     obtain⟨o1,o2⟩:=unhide HE2
     have e1:(laidV 1 xs).nl.length=xs.length:=by simp[laidV,nlOf]
     have e2:(laidV 1 xs).ns.length=xs.length:=by simp[laidV]
     refine⟨by rw[e1];exact o1,by rw[e2];exact o2,own_none⟩
    exact(h3.setO4 (by omega) _ _ _ _).less (by omega)
theorem laid_text(a:Option Addr)(c:Nat)(kind:Int)(h0:(kind == 1)=false)(xs:List Val)(w:World)(hl:xs.length*32<=140737488355328)(ha:RowAt w a xs) :
  Calls Tryz.prog 37 #[.int .i64 kind,.slice a xs.length c] w fun e w'=>∃p,e=.returned (vecV (laidV kind xs) p)/\VecAt w' (laidV kind xs) p/\Own3 w' w.heap.size (laidV kind xs) p/\Below w.heap.size w w':=by
 obtain⟨i4,hi4,z40,z41,z42⟩:=info_parts Tryz.info4
 obtain⟨i2,hi2,z20,z21,z22⟩:=info_parts Tryz.info9
 generalize hX:laidV kind xs=X
 have HX:=hide hX
 clear hX
 have HA:=hide ha
 clear ha
 go_enter Tryz.func37,Tryz.ntmps37
 go_wp2_with (first
  | (at_make;refine wpList_make_row _ rfl (.tmp 10) (.tmp 10) 52 rfl 4 i4 (.bool false) Tryz.underlying52 hi4 z40 z41 rfl .i64 .i64 xs.length rfl rfl (by rw[z42];omega) (by omega) ?_)
  | (at_make;refine wpList_make_row _ rfl (.tmp 20) (.tmp 20) 54 rfl 9 i2 (.string ⟨#[]⟩) Tryz.underlying54 hi2 z20 z21 rfl .i64 .i64 xs.length rfl rfl (by rw[z22];omega) (by omega) ?_)
  | fail)
 go_loopw[25] (fun i wr=>∃k:Nat,k<=xs.length/\i=.int .i64 k/\LInv w wr xs.length k kind (.slice (some ⟨w.heap.size+1,0,none⟩) xs.length xs.length) noS (.slice (some ⟨w.heap.size+1+1+1,0,none⟩) xs.length xs.length) 9 ((nlOf xs).map Value.bool) ((xs.map (·.s)).map Value.string)) (fun i _=>xs.length-(intOf i).toNat)
 case atStart=>exact⟨0,Nat.zero_le _,rfl,LInv.start _ _ _ _ _ _ _ _ _ _⟩
 case round=>
  obtain⟨k,hk,rfl,hI⟩:=hrel
  have HI:=hide hI
  obtain⟨hb,hr,⟨F,hF,hF'⟩,hx,⟨G,hG,hG'⟩⟩:=hI
  have ha':=(unhide HA).later hb
  have hz:=hG.lt
  by_cases h1:k<xs.length
  ·obtain⟨x,hx'⟩:∃x,xs[k]?=some x:=⟨_,List.getElem?_eq_getElem h1⟩
   rcases ha' with e|⟨ba,oa,rfl,hca⟩
   ·subst e;simp at h1
   obtain⟨c0,c1,c2⟩:=hca k x hx'
   have HS:=hide (nlOf_at hx')
   have HT:Hid (((xs.map (·.s)).map Value.string)[k]?=some (.string x.s)):=by show _=_;simp[hx']
   have i1:(k:Int)<(xs.length:Int):=by omega
   have b0:wr.cell? ⟨w.heap.size+1+1,0,none⟩=some (.int .i64 kind):=hx.cell (by omega)
   have b1:wr.cell? ⟨w.heap.size+1+1,1,none⟩=some (.slice (some ⟨w.heap.size+1,0,none⟩) xs.length xs.length):=hx.cell (by omega)
   have b2:wr.cell? ⟨w.heap.size+1+1,3,none⟩=some (.slice (some ⟨w.heap.size+1+1+1,0,none⟩) xs.length xs.length):=hx.cell (by omega)
   have f1:wr.frozen? ⟨w.heap.size+1,k,none⟩=false:=hF.frozen k
   have f2:wr.frozen? ⟨w.heap.size+1+1+1,k,none⟩=false:=hG.frozen k
   have n1:w.heap.size+1<wr.heap.size:=by omega
   have n2:w.heap.size+1+1<wr.heap.size:=by omega
   have g1:=hF.cell h1
   have g2:=hG.cell h1
   clear hca hx' hF hF' hG hG' hr hx hb
   go_wp2
   go_roundw
   case rel=>exact⟨k+1,by omega,by go_num,(unhide HI).step (unhide HS) (unhide HT) _⟩
   case measure=>simp[intOf];omega
  ·have e:k=xs.length:=by omega
   have i1:¬(k:Int)<(xs.length:Int):=by omega
   have b0:wr.cell? ⟨w.heap.size+1+1,0,none⟩=some (.int .i64 kind):=hx.cell (by omega)
   have b1:wr.cell? ⟨w.heap.size+1+1,1,none⟩=some (.slice (some ⟨w.heap.size+1,0,none⟩) xs.length xs.length):=hx.cell (by omega)
   have b2:wr.cell? ⟨w.heap.size+1+1,3,none⟩=some (.slice (some ⟨w.heap.size+1+1+1,0,none⟩) xs.length xs.length):=hx.cell (by omega)
   have b3:wr.cell? ⟨w.heap.size+1+1,2,none⟩=some (.slice none 0 0):=hx.cell (by omega)
   have r0:wr.cell? ⟨w.heap.size,0,none⟩=some (.int .i64 0):=hr.cell (by omega)
   have r1:wr.cell? ⟨w.heap.size,1,none⟩=some (.slice none 0 0):=hr.cell (by omega)
   have r2:wr.cell? ⟨w.heap.size,2,none⟩=some (.slice none 0 0):=hr.cell (by omega)
   have r3:wr.cell? ⟨w.heap.size,3,none⟩=some (.slice none 0 0):=hr.cell (by omega)
   have f0:wr.frozen? ⟨w.heap.size,0,none⟩=false:=hr.frozen _
   have f1:wr.frozen? ⟨w.heap.size,1,none⟩=false:=hr.frozen _
   have f2:wr.frozen? ⟨w.heap.size,2,none⟩=false:=hr.frozen _
   have f3:wr.frozen? ⟨w.heap.size,3,none⟩=false:=hr.frozen _
   have HE2:Hid (wr.ownsRow (w.heap.size+1) 4 1 (.slice (some ⟨w.heap.size+1,0,none⟩) xs.length xs.length) xs.length ((nlOf xs).map Value.bool)/\wr.ownsRow (w.heap.size+1) 9 1 (.slice (some ⟨w.heap.size+1+1+1,0,none⟩) xs.length xs.length) xs.length ((xs.map (·.s)).map Value.string)):=by
    rw[e] at hF' hG'
    have hm:xs.length<=maxLen:=by unfold maxLen;omega
    exact⟨own1_of_row hF (by simp[nlOf]) hF' (by omega) hm,own1_of_row hG (by simp) hG' (by omega) hm⟩
   have HE:Hid (LisAt wr (some ⟨w.heap.size+1,0,none⟩) ((nlOf xs).map Value.bool)/\LisAt wr (some ⟨w.heap.size+1+1+1,0,none⟩) ((xs.map (·.s)).map Value.string)):=by
    rw[e] at hF' hG'
    exact⟨lis_of_row hF (by simp[nlOf]) hF',lis_of_row hG (by simp) hG'⟩
   have HB:=hide hb
   clear hF hF' hG hG' hr hx hb ha' e
   go_wp2
   refine bodyPost_ret (v:=.agg #[.int .i64 kind,.slice (some ⟨w.heap.size+1,0,none⟩) xs.length xs.length,.slice none 0 0,.slice (some ⟨w.heap.size+1+1+1,0,none⟩) xs.length xs.length]) (by simp[results,Tryz.results37,go_sem, *]) rfl ?_
   have h0':¬kind=1:=by simpa using h0
   have hX:=unhide HX
   subst hX
   refine⟨⟨some ⟨w.heap.size+1,0,none⟩,xs.length,none,0,some ⟨w.heap.size+1+1+1,0,none⟩,xs.length⟩,?_,⟨?_,?_,?_⟩,?_,below_set4 (unhide HB) (Nat.le_refl _) _ _ _ _⟩
   ·rw[vecV_open];simp[laidV,nlOf,h0']
   ·exact(unhide HE).1.set4 (by omega) _ _ _ _
   ·left;simp[laidV,h0']
   ·have e:(laidV kind xs).ss=xs.map (·.s):=by simp[laidV,h0']
    rw[e]
    exact(unhide HE).2.set4 (by omega) _ _ _ _
   ·have h3:Own3 wr (w.heap.size+1) (laidV kind xs) ⟨some ⟨w.heap.size+1,0,none⟩,xs.length,none,0,some ⟨w.heap.size+1+1+1,0,none⟩,xs.length⟩:=by
     obtain⟨o1,o2⟩:=unhide HE2
     have e1:(laidV kind xs).nl.length=xs.length:=by simp[laidV,nlOf]
     have e2:(laidV kind xs).ss=xs.map (·.s):=by simp[laidV,h0']
     have e3:(laidV kind xs).ns=[]:=by simp[laidV,h0']
     refine⟨by rw[e1];exact o1,by rw[e3];exact own_none,by rw[e2];simpa using o2⟩
    exact(h3.setO4 (by omega) _ _ _ _).less (by omega)
theorem laid_any(a:Option Addr)(c:Nat)(kind:Int)(xs:List Val)(w:World)(hl:xs.length*32<=140737488355328)(ha:RowAt w a xs) :
  Calls Tryz.prog 37 #[.int .i64 kind,.slice a xs.length c] w fun e w'=>∃p,e=.returned (vecV (laidV kind xs) p)/\VecAt w' (laidV kind xs) p/\Own3 w' w.heap.size (laidV kind xs) p/\Below w.heap.size w w':=by
 by_cases h:(kind == 1)=true
 ·obtain rfl:=beq_iff_eq.1 h
  exact laid_int a c xs w hl ha
 ·exact laid_text a c kind (by simpa using h) xs w hl ha
end Go.Proofs.YtbfibfmnemnbbaaGreat
set_option linter.unusedSimpArgs false
set_option linter.unusedVariables false
namespace Go.Proofs.YtbfibfmnemnbbaaGreat
open Go.RowKit Go.Sort
theorem wpList_make_rows{P:Program}(w:World){ops:Array Oper}{rest:List Oper}{o:Oper}{a:Act}{Q:Exit->Act->World->Prop}
  (hg:o.guard=none) (l c:Operand) (t:TypeId) (hop:o.op=Op.makeSlice t l c)
  (e:TypeId) (i:TypeInfo) (z:Value) (ht:P.underlying t=some (.slice e)) (hi:P.info? e=some i) (hz:i.zero=some z) (size:Nat) (hsize:i.size=size)
  (kl kc:IntKind) (n:Nat) (hl:a.eval l=.int kl (n:Int)) (hc:a.eval c=.int kc (n:Int)) (hbytes:i.bytes*n<=281474976710656) (h63:n<=9223372036854775807)
  (hK:wpList P ops Q rest (a.put o.dst (.slice (some ⟨w.heap.size,0,none⟩) n n)) (w.alloc (.cells (madeCells z.cells (n*size)) e))) :
  wpList P ops Q (o::rest) a w:=by
 refine wpList_plain hg fun K hK'=>?_
 have hb':(i.bytes:Int)*(n:Int)<=281474976710656:=by
  have h:((i.bytes*n:Nat):Int)<=281474976710656:=by omega
  rwa [Int.natCast_mul] at h
 have hrun:=run_make (P:=P) w t e i z ht hi hz kl kc n n (by omega) (Int.le_refl _) hb' (by omega)
 simp only[Int.toNat_natCast,hsize] at hrun
 unfold Oper.wp
 simp[execOp,hop,hl,hc,hrun,Result.andThen]
 exact hK' _ _ hK
theorem rowIs_any(w:World)(c:Array Value)(t:TypeId):∃F,(w.alloc (.cells c t)).rowIs w.heap.size t c.size F:=
 ⟨fun i=>(c[i]?).getD noS,World.rowIs_alloc w c t _ (fun i hi=>by simp[hi])⟩
def Holds3(F:Nat->Value)(k:Nat)(ys:List Val):Prop:=∀i x,i<k->ys[i]?=some x->F (i*3)=.int .i64 x.k/\F (i*3+1)=.int .i64 x.n/\F (i*3+2)=.string x.s
theorem Holds3.zero(F:Nat->Value)(ys:List Val):Holds3 F 0 ys:=fun i x h=>by omega
theorem Holds3.step{F:Nat->Value}{k:Nat}{ys:List Val}{y:Val}(h:Holds3 F k ys)(hv:ys[k]?=some y) :
  Holds3 (fun j=>if j=k*3+2 then .string y.s else if j=k*3+1 then .int .i64 y.n else if j=k*3 then .int .i64 y.k else F j) (k+1) ys:=by
 intro i x hi hx
 by_cases e:i=k
 ·subst e;rw[hv] at hx;cases hx
  refine⟨?_,?_,?_⟩<;>simp
 ·obtain⟨h0,h1,h2⟩:=h i x (by omega) hx
  refine⟨?_,?_,?_⟩
  ·show (if i*3=k*3+2 then _ else if i*3=k*3+1 then _ else if i*3=k*3 then _ else _)=_
   rw[if_neg (by omega),if_neg (by omega),if_neg (by omega),h0]
  ·show (if i*3+1=k*3+2 then _ else if i*3+1=k*3+1 then _ else if i*3+1=k*3 then _ else _)=_
   rw[if_neg (by omega),if_neg (by omega),if_neg (by omega),h1]
  ·show (if i*3+2=k*3+2 then _ else if i*3+2=k*3+1 then _ else if i*3+2=k*3 then _ else _)=_
   rw[if_neg (by omega),if_neg (by omega),if_neg (by omega),h2]
theorem row_of_row{w:World}{g t n:Nat}{F:Nat->Value}{ys:List Val}(h:w.rowIs g t (n*3) F)(hl:ys.length=n)(hh:Holds3 F n ys):RowAt w (some ⟨g,0,none⟩) ys:=by
 refine .inr ⟨g,0,rfl,fun i x hx=>?_⟩
 have hi:i<n:=by have:=(List.getElem?_eq_some_iff.1 hx).1;omega
 obtain⟨h0,h1,h2⟩:=hh i x hi hx
 simp only[Nat.zero_add]
 refine⟨?_,?_,?_⟩
 ·rw[h.cell (by omega),h0]
 ·rw[h.cell (by omega),h1]
 ·rw[h.cell (by omega),h2]
def badK(kind:Int)(y:Val):Bool:=y.k != 0 && y.k != kind
def fromV(kind:Int)(xs:List Val):Vc×Int:=
 if kindB kind=false then (.zero,1) else if (xs.map cleanV).any (badK kind) then (.zero,4) else if (xs.map cleanV).any (fun y=>largeB y.s) then (.zero,3) else (laidV kind (xs.map cleanV),0)
def FInv(w0 w:World)(n k:Nat)(ys:List Val):Prop:=
 Below w0.heap.size w0 w/\w.rowIs w0.heap.size 56 4 (box4 (.int .i64 0) noS noS noS)/\(∃F,w.rowIs (w0.heap.size+1) 25 (n*3) F/\Holds3 F k ys)
theorem FInv.start(w:World)(n:Nat)(ys:List Val)(z:Array Value) :
  FInv w ((w.alloc (.cells #[.int .i64 0,.slice none 0 0,.slice none 0 0,.slice none 0 0] 56)).alloc (.cells (madeCells z (n*3)) 25)) n 0 ys:=by
 refine⟨by repeat (first|exact Below.refl _ _|refine Below.alloc ?_ (by simp<;>omega) _),(World.rowIs_alloc w _ 56 _ (box4_arr _ _ _ _)).alloc _,?_⟩
 obtain⟨F,hF⟩:=rowIs_any (w.alloc (.cells #[.int .i64 0,.slice none 0 0,.slice none 0 0,.slice none 0 0] 56)) (madeCells z (n*3)) 25
 rw[size_madeCells] at hF
 exact⟨F,by simpa using hF,Holds3.zero _ _⟩
theorem FInv.step{w0 w:World}{n k:Nat}{ys:List Val}{y:Val}(h:FInv w0 w n k ys)(hy:ys[k]?=some y) :
  FInv w0 (((w.setCell ⟨w0.heap.size+1,k*3,none⟩ (.int .i64 y.k)).setCell ⟨w0.heap.size+1,k*3+1,none⟩ (.int .i64 y.n)).setCell ⟨w0.heap.size+1,k*3+2,none⟩ (.string y.s)) n (k+1) ys:=by
 obtain⟨hb,hr,⟨F,hF,hF'⟩⟩:=h
 refine⟨((hb.setCell (by simp<;>omega) _).setCell (by simp<;>omega) _).setCell (by simp<;>omega) _,?_,⟨_,?_,hF'.step hy⟩⟩
 ·exact((hr.setOther (by simp) _).setOther (by simp) _).setOther (by simp) _
 ·exact((hF.set _ _).set _ _).set _ _
theorem FInv.later{w0 w w':World}{n k:Nat}{ys:List Val}(h:FInv w0 w n k ys)(hb':Below w.heap.size w w'):FInv w0 w' n k ys:=by
 obtain⟨hb,hr,⟨F,hF,hF'⟩⟩:=h
 exact⟨below_step hb hb',hr.of_block (hb'.block _ hr.lt),F,hF.of_block (hb'.block _ hF.lt),hF'⟩
end Go.Proofs.YtbfibfmnemnbbaaGreat
