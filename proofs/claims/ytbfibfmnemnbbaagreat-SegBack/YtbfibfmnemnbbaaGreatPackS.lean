import Derived.Test.YtbfibfmnemnbbaaGreatPackN
import Derived.Test.YtbfibfmnemnbbaaGreatPackO
import Derived.Laws.OwnMore
set_option linter.unusedSimpArgs false
set_option linter.unusedVariables false
namespace Go.Proofs.YtbfibfmnemnbbaaGreat
open Go.RowKit Go.Sort
def firstN(xs:List Val):Nat:=(xs.takeWhile fun x=>!nullB x).length
def idxI(xs:List Val):Int:=if firstN xs=xs.length then -1 else (firstN xs:Int)
theorem firstN_le(xs:List Val):firstN xs<=xs.length:=(List.takeWhile_prefix _).length_le
theorem firstN_eq{xs:List Val}{k:Nat}(h1:∀i y,i<k->xs[i]?=some y->nullB y=false)(hk:k<=xs.length)(h2:∀y,xs[k]?=some y->nullB y=true):firstN xs=k:=
 while_len _ xs k (fun i y hi hy=>by rw[h1 i y hi hy];rfl) hk (fun y hy=>by rw[h2 y hy];rfl)
theorem firstN_take(xs:List Val):xs.take (firstN xs)=xs.takeWhile fun x=>!nullB x:=(List.prefix_iff_eq_take.1 (List.takeWhile_prefix _)).symm
theorem stand_all{xs:List Val}(h:∀(i:Nat) (y:Val),xs[i]?=some y->nullB y=false):standL xs=xs:=by
 unfold standL
 rw[List.filter_eq_self]
 intro y hy
 obtain⟨i,hi,rfl⟩:=List.getElem_of_mem hy
 have:=h i _ (List.getElem?_eq_getElem hi)
 simp[nullB] at this
 simpa using this
theorem vindex_at(a:Option Addr)(c:Nat)(xs:List Val)(w:World)(l:xs.length<=1048576)(h:RowAt w a xs) :
  Calls Tryz.prog 61 #[.slice a xs.length c,.func (.func 93) #[] #[]] w fun e w'=>e=.returned (.int .i64 (idxI xs))/\Below w.heap.size w w':=by
 have H:=hide h
 have HL:Hid (∀k,(∀i y,i<k->xs[i]?=some y->nullB y=false)->k<=xs.length->(∀y,xs[k]?=some y->nullB y=true)->idxI xs=if k=xs.length then -1 else (k:Int)):=fun k a b c=>by unfold idxI;rw[firstN_eq a b c]
 generalize idxI xs=R at *
 clear h
 go_enter Tryz.func61,Tryz.ntmps61
 go_wp2_with fail
 go_loopw[8] (fun i wr=>∃k:Nat,k<=xs.length/\i=.int .i64 k/\Hid (∀i y,i<k->xs[i]?=some y->nullB y=false)/\Below w.heap.size w wr) (fun i _=>xs.length-(intOf i).toNat)
 case atStart=>exact⟨0,Nat.zero_le _,rfl,fun i y h=>by omega,Below.refl _ _⟩
 case round=>
  obtain⟨k,hk,rfl,HN,hb⟩:=hrel
  by_cases h1:k<xs.length
  ·obtain⟨x,hx⟩:∃x,xs[k]?=some x:=⟨_,List.getElem?_eq_getElem h1⟩
   rcases(unhide H).later hb with e|⟨rb,ro,rfl,hc⟩
   ·rw[e] at hx;cases hx
   obtain⟨c0,c1,c2⟩:=hc k x hx
   have HX:=hide hx
   have HB:=hide hb
   have i1:(k:Int)<(xs.length:Int):=by omega
   have HP:=hide (fun W=>pnull_any x W)
   clear hx hc hb
   rcases Bool.eq_false_or_eq_true (nullB x) with e1|e1
   ·have HE:Hid (R=(k:Int)):=by
     show _=_
     rw[unhide HL k (unhide HN) hk (fun y hy=>by rw[unhide HX] at hy;injection hy with hy;rw[<-hy];exact e1),if_neg (by omega)]
    have e2:(x.k == 0)=true:=e1
    rw[e2] at HP
    go_wp2_with (go_at_call 93;refine(unhide HP _).mono ?_;rintro e w1 ⟨rfl,hb1⟩)
    go_ret
    exact⟨by rw[unhide HE];rfl,below_step (unhide HB) hb1⟩
   ·have e2:(x.k == 0)=false:=e1
    rw[e2] at HP
    have HS:Hid (∀i y,i<k+1->xs[i]?=some y->nullB y=false):=fun i y hi hy=>by
     by_cases h:i<k
     ·exact unhide HN i y h hy
     ·have:i=k:=by omega
      subst this
      rw[unhide HX] at hy
      injection hy with hy
      rw[<-hy];exact e1
    go_wp2_with (go_at_call 93;refine(unhide HP _).mono ?_;rintro e w1 ⟨rfl,hb1⟩)
    go_roundw
    case rel=>exact⟨k+1,by omega,by go_num,HS,below_step (unhide HB) hb1⟩
    case measure=>first | (simp[intOf];omega) | (simp only[intOf];omega)
  ·have i1:¬(k:Int)<(xs.length:Int):=by omega
   have HE:Hid (R=-1):=by
    show _=_
    rw[unhide HL k (unhide HN) hk (fun y hy=>by rw[List.getElem?_eq_none (by omega)] at hy;cases hy),if_pos (by omega)]
   have HB:=hide hb
   clear hb
   go_wp2
   go_ret
   exact⟨by rw[unhide HE];rfl,unhide HB⟩
theorem flat_set:∀(L:List Val) (j:Nat) (x:Val),j<L.length->(((L.flatMap c3).set (j*3) (.int .i64 x.k)).set (j*3+1) (.int .i64 x.n)).set (j*3+2) (.string x.s)=(L.set j x).flatMap c3
 | [],j,x,h=>by simp at h
 | z::L,0,x,_=>by simp[c3]
 | z::L,j+1,x,h=>by
  have ih:=flat_set L j x (by simpa using h)
  rw[List.set_cons_succ,List.flatMap_cons,List.flatMap_cons,<-ih]
  simp only[c3,List.cons_append,List.nil_append]
  rw[show (j+1)*3=j*3+1+1+1 by omega,show j*3+1+1+1+1=(j*3+1)+1+1+1 by omega,show j*3+1+1+1+2=(j*3+2)+1+1+1 by omega]
  simp only[List.set_cons_succ]
theorem OwnV.put{w:World}{base g N cap j:Nat}{L:List Val}(h:OwnV w base (.slice (some ⟨g,0,none⟩) N cap) L)(hj:j<L.length)(x:Val) :
  OwnV (((w.setCell ⟨g,j*3,none⟩ (.int .i64 x.k)).setCell ⟨g,j*3+1,none⟩ (.int .i64 x.n)).setCell ⟨g,j*3+2,none⟩ (.string x.s)) base (.slice (some ⟨g,0,none⟩) N cap) (L.set j x):=by
 have hN:N=L.length:=by
  rcases h.2 with ⟨e,_⟩|⟨g',cap',cur,e,_⟩
  ·cases e
  ·injection e
 subst hN
 have h1:=(World.ownsRow.stored h (j*3) (.int .i64 x.k)).1
 have h2:=(World.ownsRow.stored h1 (j*3+1) (.int .i64 x.n)).1
 have h3:=(World.ownsRow.stored h2 (j*3+2) (.string x.s)).1
 rw[flat_set L j x hj] at h3
 unfold OwnV
 rw[List.length_set]
 exact h3
theorem OwnV.len{w:World}{base g N cap:Nat}{L:List Val}(h:OwnV w base (.slice (some ⟨g,0,none⟩) N cap) L):N=L.length:=by
 rcases h.2 with ⟨e,_⟩|⟨g',cap',cur,e,_⟩
 ·cases e
 ·injection e
theorem OwnV.facts{w:World}{base g N cap j:Nat}{L:List Val}{x:Val}(h:OwnV w base (.slice (some ⟨g,0,none⟩) N cap) L)(hj:L[j]?=some x) :
  w.cell? ⟨g,j*3,none⟩=some (.int .i64 x.k)/\w.cell? ⟨g,j*3+1,none⟩=some (.int .i64 x.n)/\w.cell? ⟨g,j*3+2,none⟩=some (.string x.s)/\w.frozen? ⟨g,j*3,none⟩=false/\w.frozen? ⟨g,j*3+1,none⟩=false/\w.frozen? ⟨g,j*3+2,none⟩=false:=by
 have hN:=h.len
 subst hN
 have hl:=(List.getElem?_eq_some_iff.1 hj).1
 refine⟨?_,?_,?_,World.ownsRow.frozenAt h _,World.ownsRow.frozenAt h _,World.ownsRow.frozenAt h _⟩
 ·rw[World.ownsRow.cellAt h (j*3) (by omega)];exact flat_at L j 0 x hj (by omega)
 ·rw[World.ownsRow.cellAt h (j*3+1) (by omega)];exact flat_at L j 1 x hj (by omega)
 ·rw[World.ownsRow.cellAt h (j*3+2) (by omega)];exact flat_at L j 2 x hj (by omega)
theorem zero3_len(n:Nat):(Builtin.zeroCells #[.int .i64 0,.int .i64 0,.string ⟨#[]⟩] n).toList.length=n*3:=by simp[Builtin.zeroCells]
theorem flat_take(L:List Val)(i:Nat):(L.flatMap c3).take (i*3)=(L.take i).flatMap c3:=by
 induction L generalizing i with
 | nil=>simp
 | cons z L ih=>
  cases i with
  | zero=>simp
  | succ i=>
   rw[List.take_succ_cons,List.flatMap_cons,List.flatMap_cons,<-ih]
   simp only[c3,List.cons_append,List.nil_append]
   rw[show (i+1)*3=i*3+1+1+1 by omega]
   simp only[List.take_succ_cons]
theorem OwnV.clear{w:World}{base g N cap i:Nat}{L:List Val}(h:OwnV w base (.slice (some ⟨g,0,none⟩) N cap) L)(hi:i<=N)(ty:TypeId) :
  ∃w',(Builtin.clear_ #[36] ty #[.slice (some ⟨g,i*3,none⟩) (N-i) (cap-i)]).run Tryz.prog w=.ok (.tuple #[]) w'/\OwnV w' base (.slice (some ⟨g,0,none⟩) i cap) (L.take i)/\Grew w w' (.slice (some ⟨g,0,none⟩) N cap) (.slice (some ⟨g,0,none⟩) i cap):=by
 have hN:=h.len
 rcases h.2 with ⟨e,_⟩|⟨g',cap',cur,e,hb,hh,hnc,hcm,hcs,htake⟩
 ·cases e
 injection e with e1 e2 e3
 injection e1 with e1
 injection e1 with e1
 subst e1 e3
 subst hN
 have htk:∀c2:Array Value,c2.toList.take (i*3)=cur.toList.take (i*3)->c2.toList.take (i*3)=(L.take i).flatMap c3:=fun c2 e=>by
  rw[e,<-flat_take,<-htake,List.take_take,Nat.min_eq_left (by omega)]
 have hll:((L.take i).flatMap c3).length=i*3:=by rw[flat_len,List.length_take,Nat.min_eq_left hi]
 by_cases h0:L.length-i=0
 ·refine⟨w,?_,?_,Grew.refl _ _ |>.trans ⟨⟨rfl,rfl,rfl,Nat.le_refl _,fun _ _ _=>rfl⟩,.inl rfl⟩⟩
  ·rw[h0]
   simp[Builtin.clear_,run_underlying Tryz.underlying36]
  ·have hi':i=L.length:=by omega
   unfold OwnV
   rw[List.length_take,Nat.min_eq_left hi]
   exact⟨hll,.inr ⟨g,cap,cur,rfl,hb,hh,by omega,hcm,hcs,htk cur rfl⟩⟩
 ·have hst:=run_storeCells_at (P:=Tryz.prog) g (i*3) 25 (Builtin.zeroCells #[.int .i64 0,.int .i64 0,.string ⟨#[]⟩] (L.length-i)).toList 0 cur w hh (by rw[zero3_len,hcs];omega) (by
   intro v hv
   simp only[Builtin.zeroCells,Array.toList_map,List.mem_map] at hv
   obtain⟨q,_,rfl⟩:=hv
   have:q % 3=0∨q % 3=1∨q % 3=2:=by omega
   rcases this with e|e|e<;>simp[e]<;>rfl)
  refine⟨w.setRow g (cur.toList.take (i*3+0)++(Builtin.zeroCells #[.int .i64 0,.int .i64 0,.string ⟨#[]⟩] (L.length-i)).toList++cur.toList.drop (i*3+0+(Builtin.zeroCells #[.int .i64 0,.int .i64 0,.string ⟨#[]⟩] (L.length-i)).toList.length)).toArray,?_,?_,?_⟩
  ·obtain⟨m,hm⟩:∃m,L.length-i=m+1:=⟨L.length-i-1,by omega⟩
   rw[hm] at hst ⊢
   have hv:∀w,(zeroValue 25).run Tryz.prog w=.ok (.agg #[.int .i64 0,.int .i64 0,.string ⟨#[]⟩]) w:=Tryz.zeroValue25
   simp[Builtin.clear_,run_underlying Tryz.underlying36,hv,hst,Value.cells]
  ·unfold OwnV
   rw[List.length_take,Nat.min_eq_left hi]
   refine⟨hll,.inr ⟨g,cap,_,rfl,hb,setRow_heap w g cur _ 25 _ hh,by omega,hcm,?_,htk _ ?_⟩⟩
   ·have hz:(Builtin.zeroCells #[.int .i64 0,.int .i64 0,.string ⟨#[]⟩] (L.length-i)).size=(L.length-i)*3:=by simp[Builtin.zeroCells]
    simp only[List.size_toArray,List.length_append,List.length_take,List.length_drop,Array.length_toList,hcs,hz]
    omega
   ·rw[List.append_assoc,List.take_append_of_le_length (by simp[hcs];omega),List.take_take]
    simp
  ·refine⟨⟨rfl,rfl,rfl,by simp,fun k hk hne=>setRow_other w g k _ (fun e=>hne (by rw[e];rfl))⟩,.inl rfl⟩
end Go.Proofs.YtbfibfmnemnbbaaGreat
