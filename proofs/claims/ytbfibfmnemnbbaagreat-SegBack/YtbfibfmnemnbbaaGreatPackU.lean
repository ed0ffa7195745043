import Derived.Test.YtbfibfmnemnbbaaGreatPackT
import Derived.Test.YtbfibfmnemnbbaaGreatOrdB
set_option linter.unusedSimpArgs false
set_option linter.unusedVariables false
set_option maxHeartbeats 4000000
set_option maxRecDepth 100000
namespace Go.Proofs.YtbfibfmnemnbbaaGreat
open Go.RowKit Go.Sort
theorem vcompact_any(base:Nat)(xs:List Val)(v:Value)(w:World)(hl:xs.length<=1048576)(hown:OwnV w base v xs) :
  Calls Tryz.prog 144 #[v] w fun e w'=>∃v',e=.returned v'/\OwnV w' base v' (compL xs)/\Grew w w' v v':=by
 obtain⟨aa,ca,ev,hrow⟩:=ownV_row hown
 by_cases h2:xs.length<2
 ·have HS:Hid (compL xs=xs):=by
   show _=_
   match xs,h2 with
   | [],_=>rfl
   | [x],_=>rfl
  have i1:(xs.length:Int)<2:=by omega
  have HO:=hide hown
  subst ev
  clear hown hrow h2
  go_enter Tryz.func144,Tryz.ntmps144
  go_wp2
  go_ret
  exact⟨_,rfl,by rw[unhide HS];exact unhide HO,Grew.refl _ _⟩
 ·have i1:¬(xs.length:Int)<2:=by omega
  obtain⟨g,cap,ev2⟩:∃g cap,v=.slice (some ⟨g,0,none⟩) xs.length cap:=by
   rcases hown.2 with ⟨_,h0⟩|⟨g,cap,cur,ev,_⟩
   ·omega
   ·exact⟨g,cap,ev⟩
  have hcap:xs.length<=cap:=by
   rcases hown.2 with ⟨_,h0⟩|⟨g',cap',cur,ev3,_,_,hc,_⟩
   ·omega
   ·rw[ev2] at ev3;injection ev3 with _ _ e3;omega
  subst ev2
  have HO:=hide hown
  clear hrow hown ev aa ca
  go_enter Tryz.func144,Tryz.ntmps144
  go_wp2_with fail
  go_loopw[3] (fun s3 wr=>∃k:Nat,s3=.int .i64 ((k+1:Nat):Int)/\k+1<=xs.length/\Hid (compT xs k=xs.take (k+1))/\Below w.heap.size w wr) (fun s _=>xs.length-(intOf s).toNat)
  case atStart=>exact⟨0,rfl,by omega,rfl,Below.refl _ _⟩
  case round=>
   obtain⟨k,rfl,hk,HC,hb⟩:=hrel
   have ho:=(unhide HO).later hb
   by_cases h3:k+1<xs.length
   ·have i2:((k+1:Nat):Int)<(xs.length:Int):=by omega
    have i3:(k:Int)<(xs.length:Int):=by omega
    have i4:((k+1:Nat):Int)-1=(k:Int):=by omega
    obtain⟨x,hx⟩:∃x,xs[k+1]?=some x:=⟨_,List.getElem?_eq_getElem h3⟩
    obtain⟨y,hy⟩:∃y,xs[k]?=some y:=⟨_,List.getElem?_eq_getElem (by omega)⟩
    obtain⟨c0,c1,c2,_,_,_⟩:=ho.facts hx
    obtain⟨d0,d1,d2,_,_,_⟩:=ho.facts hy
    have HN:=hide (comp_next hx hy)
    have HT:=hide (List.take_succ_eq_append_getElem (l:=xs) h3)
    have HX:=hide hx
    have HOw:=hide ho
    have HB:=hide hb
    clear hx hy ho hb
    generalize hk1:k+1=k1 at *
    go_upto_region 6 with fail
    go_cut[25] (fun s25 wx=>s25=.bool (sameB x y)/\Below wr.heap.size wr wx)
    case first=>
     rcases Bool.eq_false_or_eq_true (x.k == y.k) with e1|e1
     ·rcases Bool.eq_false_or_eq_true (x.n == y.n) with e2|e2
      ·rcases Bool.eq_false_or_eq_true (x.s.toList == y.s.toList) with e3|e3
       all_goals
        have HSM:Hid (sameB x y=(x.s.toList == y.s.toList)):=by show _=_;simp only[sameB,e1,e2,Bool.true_and]
        go_quiet (fail)
        go_wp2
        go_meet
        exact⟨by rw[unhide HSM,e3],below_drewN (Below.refl _ _) _⟩
      ·have HSM:Hid (sameB x y=false):=by show _=_;simp only[sameB,e1,e2,Bool.and_false,Bool.false_and]
       go_quiet (fail)
       go_wp2
       go_meet
       exact⟨by rw[unhide HSM],below_drewN (Below.refl _ _) _⟩
     ·have HSM:Hid (sameB x y=false):=by show _=_;simp only[sameB,e1,Bool.false_and]
      go_quiet (fail)
      go_wp2
      go_meet
      exact⟨by rw[unhide HSM],below_drewN (Below.refl _ _) _⟩
    case rest=>
     obtain⟨rfl,hbx⟩:=hcut
     rename World=>wx
     have HBX:=hide (below_step (unhide HB) hbx)
     have HOX:=hide ((unhide HOw).later hbx)
     clear hbx c0 c1 c2 d0 d1 d2
     rcases Bool.eq_false_or_eq_true (sameB x y) with e1|e1
     ·rw[e1] at HN ⊢
      have HC2:Hid (compT xs k1=xs.take k1):=by
       show _=_
       rw[unhide HN,if_pos rfl,List.append_nil]
       exact unhide HC
      clear HN HT
      have hk1N:k1<xs.length:=by omega
      go_wp2_with fail
      go_loopw[3,5] (fun s3 s5 wv=>∃(i m:Nat) (L:List Val),s3=.int .i64 (i:Int)/\s5=.int .i64 ((m+1:Nat):Int)/\i<=k1+m/\k1+m+1<=xs.length/\Hid (L.take i=compT xs (k1+m))/\Hid (L.drop (k1+m)=xs.drop (k1+m))/\OwnV wv base (.slice (some ⟨g,0,none⟩) xs.length cap) L/\Grew w wv (.slice (some ⟨g,0,none⟩) xs.length cap) (.slice (some ⟨g,0,none⟩) xs.length cap)) (fun _ s _=>xs.length-(intOf s).toNat)
      case atStart=>exact⟨k1,0,xs,rfl,rfl,by omega,by omega,by rw[Nat.add_zero];exact(unhide HC2).symm,rfl,unhide HOX,Grew.of_below (unhide HBX) _⟩
      case round=>
       obtain⟨i,m,L,rfl,rfl,him,hmn,HT,HD,ho,hg⟩:=hrel
       have hLn:=ho.len
       have hgl:g<wr.heap.size:=(World.ownsRow.lt ho g rfl).2
       by_cases h4:k1+m+1<xs.length
       ·have j1:((m+1:Nat):Int)<((xs.length-k1:Nat):Int):=by omega
        have j2:(m:Int)<((xs.length-k1:Nat):Int):=by omega
        have j3:((m+1:Nat):Int)-1=(m:Int):=by omega
        have j4:(i:Int)<(xs.length:Int):=by omega
        obtain⟨p,hp⟩:∃p,xs[k1+m+1]?=some p:=⟨_,List.getElem?_eq_getElem h4⟩
        obtain⟨q,hq⟩:∃q,xs[k1+m]?=some q:=⟨_,List.getElem?_eq_getElem (by omega)⟩
        have HNX:=hide (comp_next hp hq)
        have hpL:L[k1+m+1]?=some p:=by
         have h2:(L.drop (k1+m))[1]?=(xs.drop (k1+m))[1]?:=by rw[unhide HD]
         rw[List.getElem?_drop,List.getElem?_drop] at h2
         rw[h2];exact hp
        have hqL:L[k1+m]?=some q:=by
         have h2:(L.drop (k1+m))[0]?=(xs.drop (k1+m))[0]?:=by rw[unhide HD]
         rw[List.getElem?_drop,List.getElem?_drop] at h2
         rw[Nat.add_zero] at h2
         rw[h2];exact hq
        obtain⟨z,hz⟩:∃z,L[i]?=some z:=⟨_,List.getElem?_eq_getElem (by omega)⟩
        have PE:=ho.facts hpL
        have QE:=ho.facts hqL
        rw[show (k1+m+1)*3=k1*3+(m+1)*3 by omega] at PE
        rw[show (k1+m)*3=k1*3+m*3 by omega] at QE
        obtain⟨c0,c1,c2,_,_,_⟩:=PE
        obtain⟨d0,d1,d2,_,_,_⟩:=QE
        have HZ:=hide hz
        have HOw:=hide ho
        have HGw:=hide hg
        have HI2:=hide (show i<L.length by omega)
        have HD2:Hid (∀u,(L.set i u).drop (k1+m+1)=xs.drop (k1+m+1)):=fun u=>by
         rw[List.drop_set_of_lt (by omega)]
         have h2:=congrArg (List.drop 1) (unhide HD)
         rw[List.drop_drop,List.drop_drop] at h2
         exact h2
        have HD3:Hid (L.drop (k1+m+1)=xs.drop (k1+m+1)):=by
         have h2:=congrArg (List.drop 1) (unhide HD)
         rw[List.drop_drop,List.drop_drop] at h2
         exact h2
        clear hp hq hpL hqL hz ho hg hLn
        have HM:Hid (∀z:Nat,z=m+1->k1+z=k1+m+1):=fun z h=>by omega
        generalize hm1:m+1=m1 at *
        go_upto_region 11 with fail
        go_cut[44] (fun s44 wx=>s44=.bool (!sameB p q)/\Below wr.heap.size wr wx)
        case first=>
         rcases Bool.eq_false_or_eq_true (p.k == q.k) with e1|e1
         ·rcases Bool.eq_false_or_eq_true (p.n == q.n) with e2|e2
          ·rcases Bool.eq_false_or_eq_true (p.s.toList == q.s.toList) with e3|e3
           all_goals
            have HSM:Hid (sameB p q=(p.s.toList == q.s.toList)):=by show _=_;simp only[sameB,e1,e2,Bool.true_and]
            go_quiet (fail)
            go_wp2
            go_meet
            exact⟨by rw[unhide HSM,e3];rfl,below_drewN (Below.refl _ _) _⟩
          ·have HSM:Hid (sameB p q=false):=by show _=_;simp only[sameB,e1,e2,Bool.and_false,Bool.false_and]
           go_quiet (fail)
           go_wp2
           go_meet
           exact⟨by rw[unhide HSM];rfl,below_drewN (Below.refl _ _) _⟩
         ·have HSM:Hid (sameB p q=false):=by show _=_;simp only[sameB,e1,Bool.false_and]
          go_quiet (fail)
          go_wp2
          go_meet
          exact⟨by rw[unhide HSM];rfl,below_drewN (Below.refl _ _) _⟩
        case rest=>
         obtain⟨rfl,hbx⟩:=hcut
         rename World=>wz
         have HOZ:=hide ((unhide HOw).later hbx)
         have HGZ:=hide ((unhide HGw).trans (Grew.of_below hbx _))
         replace c0:=cell_later hbx c0
         replace c1:=cell_later hbx c1
         replace c2:=cell_later hbx c2
         obtain⟨z0,z1,z2,f0,f1,f2⟩:=(unhide HOZ).facts (unhide HZ)
         clear hbx d0 d1 d2
         rcases Bool.eq_false_or_eq_true (sameB p q) with e1|e1
         ·rw[e1] at HNX ⊢
          rw[if_pos rfl,List.append_nil] at HNX
          go_wp2
          go_roundw
          case rel=>exact⟨i,m1,L,rfl,by go_num,by omega,by omega,by rw[unhide HM m1 rfl,unhide HNX];exact HT,by rw[unhide HM m1 rfl];exact HD3,unhide HOZ,unhide HGZ⟩
          case measure=>first | (simp[intOf];omega) | (simp only[intOf];omega)
         ·rw[e1] at HNX ⊢
          rw[if_neg (by simp)] at HNX
          go_wp2
          go_roundw
          case rel=>
           refine⟨i+1,m1,L.set i p,by go_num,by go_num,by omega,by omega,?_,by rw[unhide HM m1 rfl];exact unhide HD2 p,(unhide HOZ).put (unhide HI2) p,(((unhide HGZ).store _).store _).store _⟩
           show _=_
           rw[unhide HM m1 rfl,unhide HNX,<-unhide HT,List.take_succ_eq_append_getElem (by rw[List.length_set];exact unhide HI2),List.take_set_of_le (Nat.le_refl _)]
           simp
          case measure=>first | (simp[intOf];omega) | (simp only[intOf];omega)
       ·have j1:¬((m+1:Nat):Int)<((xs.length-k1:Nat):Int):=by omega
        obtain⟨wc,hrun,hoc,hgc⟩:=ho.clear (i:=i) (by omega) 0
        have HT2:Hid (L.take i=compL xs):=by
         show _=_
         rw[unhide HT,compL,show xs.length-1=k1+m by omega]
        have HO2:=hide hoc
        have HG2:=hide (hg.trans hgc)
        clear ho hg hoc hgc hLn
        generalize hm1:m+1=m1 at *
        go_wp2
        go_ret
        exact⟨_,rfl,by rw[<-unhide HT2];exact unhide HO2,unhide HG2⟩
     ·rw[e1] at HN ⊢
      have HC2:Hid (compT xs k1=xs.take (k1+1)):=by
       show _=_
       rw[unhide HN,if_neg (by simp),unhide HT,unhide HC]
       have h5:=unhide HX
       obtain⟨h6,h7⟩:=List.getElem?_eq_some_iff.1 h5
       rw[h7]
      clear HN HT
      go_wp2
      go_roundw
      case rel=>exact⟨k1,by go_num,by omega,HC2,unhide HBX⟩
      case measure=>first | (simp[intOf];omega) | (simp only[intOf];omega)
   ·have i2:¬((k+1:Nat):Int)<(xs.length:Int):=by omega
    have HE:Hid (compL xs=xs):=by
     show _=_
     unfold compL
     rw[show xs.length-1=k by omega,unhide HC,List.take_of_length_le (by omega)]
    have HB:=hide hb
    have HOw:=hide ho
    clear hb ho
    generalize hk1:k+1=k1 at *
    go_wp2
    go_ret
    exact⟨_,rfl,by rw[unhide HE];exact unhide HOw,Grew.of_below (unhide HB) _⟩
end Go.Proofs.YtbfibfmnemnbbaaGreat
