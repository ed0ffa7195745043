import Derived.Test.YtbfibfmnemnbbaaGreatPackS
set_option linter.unusedSimpArgs false
set_option linter.unusedVariables false
set_option maxHeartbeats 4000000
set_option maxRecDepth 100000
namespace Go.Proofs.YtbfibfmnemnbbaaGreat
open Go.RowKit Go.Sort
theorem first_null{xs:List Val}(h:firstN xs<xs.length):standL (xs.take (firstN xs+1))=xs.take (firstN xs):=by
 have hl:firstN xs=(xs.takeWhile fun x=>!nullB x).length:=rfl
 have hall:=List.all_takeWhile (l:=xs) (p:=fun x=>!nullB x)
 rw[List.all_eq_true] at hall
 have hsp:standL (xs.take (firstN xs))=xs.take (firstN xs):=stand_all fun i y hy=>by
  have hm:=List.mem_of_getElem? hy
  rw[firstN_take] at hm
  simpa using hall y hm
 have hz:xs[firstN xs]?=some xs[firstN xs]:=List.getElem?_eq_getElem h
 have h2:xs.dropWhile (fun x=>!nullB x)=xs.drop (firstN xs):=by
  have h3:=List.takeWhile_append_dropWhile (p:=fun x=>!nullB x) (l:=xs)
  have h4:=List.take_append_drop (firstN xs) xs
  rw[firstN_take] at h4
  exact List.append_cancel_left (h3.trans h4.symm)
 have hn:nullB xs[firstN xs]=true:=by
  have hne:xs.dropWhile (fun x=>!nullB x)≠[]:=by rw[h2];simp;omega
  have h5:=List.head_dropWhile_not (fun x=>!nullB x) hne
  have h6:(xs.dropWhile (fun x=>!nullB x)).head hne=xs[firstN xs]:=by
   have:(xs.dropWhile (fun x=>!nullB x)).head?=some xs[firstN xs]:=by rw[h2,List.head?_drop];exact hz
   rw[List.head?_eq_some_head hne] at this
   injection this
  rw[h6] at h5
  simpa using h5
 rw[stand_no hz (by simp[nullB] at hn;simp[hn])]
 exact hsp
theorem vdelete_any(base:Nat)(xs:List Val)(v:Value)(w:World)(hl:xs.length<=1048576)(hown:OwnV w base v xs) :
  Calls Tryz.prog 122 #[v,.func (.func 93) #[] #[]] w fun e w'=>∃v',e=.returned v'/\OwnV w' base v' (standL xs)/\Grew w w' v v':=by
 obtain⟨aa,ca,ev,hrow⟩:=ownV_row hown
 have HI:=hide (vindex_at aa ca xs w hl hrow)
 rw[<-ev] at HI
 by_cases hf:firstN xs=xs.length
 ·have HS:Hid (standL xs=xs):=by
   show _=_
   refine stand_all fun i y hy=>?_
   have h2:=firstN_take xs
   rw[hf,List.take_length] at h2
   rw[h2] at hy
   have:=List.all_takeWhile (l:=xs) (p:=fun x=>!nullB x)
   rw[List.all_eq_true] at this
   simpa using this y (List.mem_of_getElem? hy)
  have e:idxI xs=-1:=by rw[idxI,if_pos hf]
  rw[e] at HI
  have HO:=hide hown
  clear hf e hrow hown ev
  go_enter Tryz.func122,Tryz.ntmps122
  go_wp2_with (go_at_call 61;refine(unhide HI).mono ?_;rintro e w1 ⟨rfl,hb1⟩)
  go_ret
  exact⟨_,rfl,by rw[unhide HS];exact(unhide HO).later hb1,Grew.of_below hb1 _⟩
 ·have hfl:=firstN_le xs
  have e:idxI xs=(firstN xs:Int):=by rw[idxI,if_neg hf]
  rw[e] at HI
  have H1:=hide (first_null (xs:=xs) (by omega))
  have hk:firstN xs<xs.length:=by omega
  obtain⟨g,cap,ev2⟩:∃g cap,v=.slice (some ⟨g,0,none⟩) xs.length cap:=by
   rcases hown.2 with ⟨_,h0⟩|⟨g,cap,cur,ev,_⟩
   ·omega
   ·exact⟨g,cap,ev⟩
  have hcap:xs.length<=cap:=by
   rcases hown.2 with ⟨_,h0⟩|⟨g',cap',cur,ev3,_,_,hc,_⟩
   ·omega
   ·rw[ev2] at ev3;injection ev3 with _ _ e3;omega
  subst ev2
  have HO:=hide hown
  have HF:Hid (xs.take (firstN xs)=xs.take (firstN xs)):=rfl
  generalize firstN xs=K at *
  clear hf e hrow hown ev hfl HF aa ca
  have hK1:((K:Int) == -1)=false:=by simp
  go_enter Tryz.func122,Tryz.ntmps122
  go_wp2_with (first | (go_at_call 61;refine(unhide HI).mono ?_;rintro e w1 ⟨rfl,hb1⟩;replace hb1:=hide hb1)|fail)
  go_loopw[5,6] (fun s5 s6 wr=>∃(i j:Nat) (L:List Val),s5=.int .i64 (i:Int)/\s6=.int .i64 (j:Int)/\i<j/\j<=xs.length/\Hid (L.take i=standL (xs.take j))/\Hid (L.drop j=xs.drop j)/\OwnV wr base (.slice (some ⟨g,0,none⟩) xs.length cap) L/\Grew w wr (.slice (some ⟨g,0,none⟩) xs.length cap) (.slice (some ⟨g,0,none⟩) xs.length cap)) (fun _ s _=>xs.length-(intOf s).toNat)
  case atStart=>exact⟨K,K+1,xs,rfl,by go_num,by omega,by omega,(unhide H1).symm,rfl,(unhide HO).later (unhide hb1),Grew.of_below (unhide hb1) _⟩
  case round=>
   obtain⟨i,j,L,rfl,rfl,hij,hjn,HT,HD,ho,hg⟩:=hrel
   have hLn:=ho.len
   by_cases h1:j<xs.length
   ·have i1:(j:Int)<(xs.length:Int):=by omega
    obtain⟨x,hx⟩:∃x,xs[j]?=some x:=⟨_,List.getElem?_eq_getElem h1⟩
    have hxL:L[j]?=some x:=by
     have h2:(L.drop j)[0]?=(xs.drop j)[0]?:=by rw[unhide HD]
     simpa [hx] using h2
    obtain⟨y,hy⟩:∃y,L[i]?=some y:=⟨_,List.getElem?_eq_getElem (by omega)⟩
    obtain⟨c0,c1,c2,_,_,_⟩:=ho.facts hxL
    have hgl:g<wr.heap.size:=(World.ownsRow.lt ho g rfl).2
    have bl:=below_alloc (Below.refl _ wr) (.cells #[.int .i64 x.k,.int .i64 x.n,.string x.s] 25)
    have HOw:=hide ho
    have HGw:=hide hg
    have HX:=hide hx
    have HP:=hide (fun W=>pnull_any x W)
    have HLN:=hide hLn
    have HD2:Hid (∀m u,m<=j->(L.set m u).drop (j+1)=xs.drop (j+1)):=fun m u hm=>by
     rw[List.drop_set_of_lt (by omega)]
     have h2:=congrArg (List.drop 1) (unhide HD)
     rw[List.drop_drop,List.drop_drop] at h2
     exact h2
    have HD3:Hid (L.drop (j+1)=xs.drop (j+1)):=by
     have h2:=congrArg (List.drop 1) (unhide HD)
     rw[List.drop_drop,List.drop_drop] at h2
     exact h2
    clear hx hxL ho hg hLn
    rcases Bool.eq_false_or_eq_true (nullB x) with e1|e1
    ·have e2:(x.k == 0)=true:=e1
     rw[e2] at HP
     have HN:=hide (stand_no (unhide HX) (by simp[nullB] at e1;simp[e1]))
     clear hy e1 e2
     go_wp2_with (go_at_call 93;refine(unhide HP _).mono ?_;rintro e w2 ⟨rfl,hb2⟩;replace hb2:=hide hb2)
     go_roundw
     case rel=>(exact⟨i,j+1,L,rfl,by go_num,by omega,by omega,by rw[unhide HN];exact HT,HD3,((unhide HOw).later bl).later (unhide hb2),((unhide HGw).trans (Grew.of_below bl _)).trans (Grew.of_below (unhide hb2) _)⟩)
     case measure=>first | (simp[intOf];omega) | (simp only[intOf];omega)
    ·have e2:(x.k == 0)=false:=e1
     rw[e2] at HP
     have HN:=hide (stand_yes (unhide HX) (by simp[nullB] at e1;simp[e1]))
     have HI2:=hide (show i<L.length by have:=unhide HLN;omega)
     have HY:=hide hy
     have i2:(i:Int)<(xs.length:Int):=by omega
     clear hy e1 e2
     have FACT:Hid (∀w2,Below (wr.alloc (.cells #[.int .i64 x.k,.int .i64 x.n,.string x.s] 25)).heap.size (wr.alloc (.cells #[.int .i64 x.k,.int .i64 x.n,.string x.s] 25)) w2->Hid (OwnV w2 base (.slice (some ⟨g,0,none⟩) xs.length cap) L)/\Hid (Grew w w2 (.slice (some ⟨g,0,none⟩) xs.length cap) (.slice (some ⟨g,0,none⟩) xs.length cap))/\(w2.cell? ⟨wr.heap.size,0,none⟩=some (.int .i64 x.k)/\w2.cell? ⟨wr.heap.size,1,none⟩=some (.int .i64 x.n)/\w2.cell? ⟨wr.heap.size,2,none⟩=some (.string x.s))/\(w2.cell? ⟨g,i*3,none⟩=some (.int .i64 y.k)/\w2.cell? ⟨g,i*3+1,none⟩=some (.int .i64 y.n)/\w2.cell? ⟨g,i*3+2,none⟩=some (.string y.s)/\w2.frozen? ⟨g,i*3,none⟩=false/\w2.frozen? ⟨g,i*3+1,none⟩=false/\w2.frozen? ⟨g,i*3+2,none⟩=false)):=fun w2 hb2=>by
      have h1:=((unhide HOw).later bl).later hb2
      obtain⟨hc2,_⟩:=bcell hb2
      refine⟨h1,((unhide HGw).trans (Grew.of_below bl _)).trans (Grew.of_below hb2 _),⟨?_,?_,?_⟩,h1.facts (unhide HY)⟩
      all_goals (rw[hc2 _ _ (by simp)];simp[go_sem])
     go_wp2_with (go_at_call 93;refine(unhide HP _).mono ?_;rintro e w2 ⟨rfl,hb2⟩;obtain⟨HO2,HG2,⟨x0,x1,x2⟩,d0,d1,d2,f0,f1,f2⟩:=unhide FACT w2 hb2;clear hb2)
     go_roundw
     case rel=>
      refine⟨i+1,j+1,L.set i x,by go_num,by go_num,by omega,by omega,?_,unhide HD2 i x (by omega),(unhide HO2).put (unhide HI2) x,(((unhide HG2).store _).store _).store _⟩
      show _=_
      rw[unhide HN,<-unhide HT,List.take_succ_eq_append_getElem (by rw[List.length_set];exact unhide HI2),List.take_set_of_le (Nat.le_refl _)]
      simp
     case measure=>first | (simp[intOf];omega) | (simp only[intOf];omega)
   ·have i1:¬(j:Int)<(xs.length:Int):=by omega
    have hj':j=xs.length:=by omega
    obtain⟨wc,hrun,hoc,hgc⟩:=ho.clear (i:=i) (by omega) 0
    have HT2:Hid (L.take i=standL xs):=by
     show _=_
     rw[unhide HT,hj',List.take_length]
    have HO2:=hide hoc
    have HG2:=hide (hg.trans hgc)
    have HGW:=hide hg
    clear ho hg hoc hgc hLn hj'
    go_wp2
    go_ret
    exact⟨_,rfl,by rw[<-unhide HT2];exact unhide HO2,unhide HG2⟩
end Go.Proofs.YtbfibfmnemnbbaaGreat
