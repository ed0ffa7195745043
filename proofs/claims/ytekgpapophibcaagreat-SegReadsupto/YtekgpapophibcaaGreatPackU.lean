import Derived.Test.YtekgpapophibcaaGreatRyB
import Derived.Shelf.SlSortCmp.WholeK
import Derived.Shelf.GgSortMore.Stable
import Derived.Shelf.SlGeneric
import Derived.Ground.SlsfProg
import Derived.Ground.GgtProg
import Derived.Test.YtekgpapophibcaaGreatProg
set_option linter.unusedSimpArgs false
set_option linter.unusedVariables false
set_option maxHeartbeats 4000000
set_option maxRecDepth 100000
namespace Go.Proofs.YtekgpapophibcaaGreat
open Go.RowKit Go.Sort
theorem zJ7(base:Nat)(xs:List Val)(v:Value)(w:World)(hl:xs.length<=1048576)(Hd:zAV w base v xs) :
  Calls Tryz.prog 144 #[v] w fun e w'=>∃v',e=.returned v'/\zAV w' base v' (zCH xs)/\zAt w w' v v':=by
 obtain⟨aa,ca,ev,Hk⟩:=zBy Hd
 by_cases h2:xs.length<2
 ·have HS:Hid (zCH xs=xs):=by
   show _=_
   match xs,h2 with
   | [],_=>rfl
   | [x],_=>rfl
  have i1:(xs.length:Int)<2:=by omega
  have HO:=zA3 Hd
  subst ev
  clear Hd Hk h2
  go_enter Tryz.func144,Tryz.ntmps144
  go_wp2
  go_ret
  exact⟨_,rfl,by rw[zA0 HS];exact zA0 HO,zAt.refl _ _⟩
 ·have i1:¬(xs.length:Int)<2:=by omega
  obtain⟨g,cap,ev2⟩:∃g cap,v=.slice (some ⟨g,0,none⟩) xs.length cap:=by
   rcases Hd.2 with ⟨_,h0⟩|⟨g,cap,cur,ev,_⟩
   ·omega
   ·exact⟨g,cap,ev⟩
  have hcap:xs.length<=cap:=by
   rcases Hd.2 with ⟨_,h0⟩|⟨g',cap',cur,ev3,_,_,hc,_⟩
   ·omega
   ·rw[ev2] at ev3;injection ev3 with _ _ e3;omega
  subst ev2
  have HO:=zA3 Hd
  clear Hk Hd ev aa ca
  go_enter Tryz.func144,Tryz.ntmps144
  go_wp2_with fail
  go_loopw[3] (fun s3 wr=>∃k:Nat,s3=.int .i64 ((k+1:Nat):Int)/\k+1<=xs.length/\Hid (zCw xs k=xs.take (k+1))/\Below w.heap.size w wr) (fun s _=>xs.length-(intOf s).toNat)
  case atStart=>exact⟨0,rfl,by omega,rfl,Below.refl _ _⟩
  case round=>
   obtain⟨k,rfl,hk,HC,hb⟩:=hrel
   have ho:=(zA0 HO).later hb
   by_cases h3:k+1<xs.length
   ·have i2:((k+1:Nat):Int)<(xs.length:Int):=by omega
    have i3:(k:Int)<(xs.length:Int):=by omega
    have i4:((k+1:Nat):Int)-1=(k:Int):=by omega
    obtain⟨x,hx⟩:∃x,xs[k+1]?=some x:=⟨_,zAf h3⟩
    obtain⟨y,hy⟩:∃y,xs[k]?=some y:=⟨_,zAf (by omega)⟩
    obtain⟨c0,c1,c2,_,_,_⟩:=ho.facts hx
    obtain⟨d0,d1,d2,_,_,_⟩:=ho.facts hy
    have HN:=zA3 (zDG hx hy)
    have HT:=zA3 (List.take_succ_eq_append_getElem (l:=xs) h3)
    have HX:=zA3 hx
    have Fh:=zA3 ho
    have HB:=zA3 hb
    clear hx hy ho hb
    generalize Jv:k+1=k1 at *
    go_upto_region 6 with fail
    go_cut[25] (fun s25 wx=>s25=.bool (zB1 x y)/\Below wr.heap.size wr wx)
    case first=>
     rcases Bool.eq_false_or_eq_true (x.k == y.k) with e1|e1
     ·rcases Bool.eq_false_or_eq_true (x.n == y.n) with e2|e2
      ·rcases Bool.eq_false_or_eq_true (x.s.toList == y.s.toList) with e3|e3
       all_goals
        have ZI:Hid (zB1 x y=(x.s.toList == y.s.toList)):=by show _=_;simp only[zB1,e1,e2,Bool.true_and]
        go_quiet (fail)
        go_wp2
        go_meet
        exact⟨by rw[zA0 ZI,e3],zBE (Below.refl _ _) _⟩
      ·have ZI:Hid (zB1 x y=false):=by show _=_;simp only[zB1,e1,e2,Bool.and_false,Bool.false_and]
       go_quiet (fail)
       go_wp2
       go_meet
       exact⟨by rw[zA0 ZI],zBE (Below.refl _ _) _⟩
     ·have ZI:Hid (zB1 x y=false):=by show _=_;simp only[zB1,e1,Bool.false_and]
      go_quiet (fail)
      go_wp2
      go_meet
      exact⟨by rw[zA0 ZI],zBE (Below.refl _ _) _⟩
    case rest=>
     obtain⟨rfl,Hs⟩:=hcut
     rename World=>wx
     have YI:=zA3 (zA2 (zA0 HB) Hs)
     have yk:=zA3 ((zA0 Fh).later Hs)
     clear Hs c0 c1 c2 d0 d1 d2
     rcases Bool.eq_false_or_eq_true (zB1 x y) with e1|e1
     ·rw[e1] at HN ⊢
      have qR:Hid (zCw xs k1=xs.take k1):=by
       show _=_
       rw[zA0 HN,if_pos rfl,List.append_nil]
       exact zA0 HC
      clear HN HT
      have hk1N:k1<xs.length:=by omega
      go_wp2_with fail
      go_loopw[3,5] (fun s3 s5 wv=>∃(i m:Nat) (L:List Val),s3=.int .i64 (i:Int)/\s5=.int .i64 ((m+1:Nat):Int)/\i<=k1+m/\k1+m+1<=xs.length/\Hid (L.take i=zCw xs (k1+m))/\Hid (L.drop (k1+m)=xs.drop (k1+m))/\zAV wv base (.slice (some ⟨g,0,none⟩) xs.length cap) L/\zAt w wv (.slice (some ⟨g,0,none⟩) xs.length cap) (.slice (some ⟨g,0,none⟩) xs.length cap)) (fun _ s _=>xs.length-(intOf s).toNat)
      case atStart=>exact⟨k1,0,xs,rfl,rfl,by omega,by omega,by rw[Nat.add_zero];exact(zA0 qR).symm,rfl,zA0 yk,zAt.of_below (zA0 YI) _⟩
      case round=>
       obtain⟨i,m,L,rfl,rfl,him,hmn,HT,HD,ho,hg⟩:=hrel
       have hLn:=ho.len
       have hgl:g<wr.heap.size:=(World.ownsRow.lt ho g rfl).2
       by_cases h4:k1+m+1<xs.length
       ·have j1:((m+1:Nat):Int)<((xs.length-k1:Nat):Int):=by omega
        have j2:(m:Int)<((xs.length-k1:Nat):Int):=by omega
        have j3:((m+1:Nat):Int)-1=(m:Int):=by omega
        have j4:(i:Int)<(xs.length:Int):=by omega
        obtain⟨p,hp⟩:∃p,xs[k1+m+1]?=some p:=⟨_,zAf h4⟩
        obtain⟨q,hq⟩:∃q,xs[k1+m]?=some q:=⟨_,zAf (by omega)⟩
        have ZJ:=zA3 (zDG hp hq)
        have hpL:L[k1+m+1]?=some p:=by
         have h2:(L.drop (k1+m))[1]?=(xs.drop (k1+m))[1]?:=by rw[zA0 HD]
         rw[List.getElem?_drop,List.getElem?_drop] at h2
         rw[h2];exact hp
        have hqL:L[k1+m]?=some q:=by
         have h2:(L.drop (k1+m))[0]?=(xs.drop (k1+m))[0]?:=by rw[zA0 HD]
         rw[List.getElem?_drop,List.getElem?_drop] at h2
         rw[Nat.add_zero] at h2
         rw[h2];exact hq
        obtain⟨z,hz⟩:∃z,L[i]?=some z:=⟨_,zAf (by omega)⟩
        have PE:=ho.facts hpL
        have QE:=ho.facts hqL
        rw[show (k1+m+1)*3=k1*3+(m+1)*3 by omega] at PE
        rw[show (k1+m)*3=k1*3+m*3 by omega] at QE
        obtain⟨c0,c1,c2,_,_,_⟩:=PE
        obtain⟨d0,d1,d2,_,_,_⟩:=QE
        have HZ:=zA3 hz
        have Fh:=zA3 ho
        have HGw:=zA3 hg
        have Fi:=zA3 (show i<L.length by omega)
        have qm:Hid (∀u,(L.set i u).drop (k1+m+1)=xs.drop (k1+m+1)):=fun u=>by
         rw[List.drop_set_of_lt (by omega)]
         have h2:=congrArg (List.drop 1) (zA0 HD)
         rw[List.drop_drop,List.drop_drop] at h2
         exact h2
        have HD3:Hid (L.drop (k1+m+1)=xs.drop (k1+m+1)):=by
         have h2:=congrArg (List.drop 1) (zA0 HD)
         rw[List.drop_drop,List.drop_drop] at h2
         exact h2
        clear hp hq hpL hqL hz ho hg hLn
        have HM:Hid (∀z:Nat,z=m+1->k1+z=k1+m+1):=fun z h=>by omega
        generalize hm1:m+1=m1 at *
        go_upto_region 11 with fail
        go_cut[44] (fun s44 wx=>s44=.bool (!zB1 p q)/\Below wr.heap.size wr wx)
        case first=>
         rcases Bool.eq_false_or_eq_true (p.k == q.k) with e1|e1
         ·rcases Bool.eq_false_or_eq_true (p.n == q.n) with e2|e2
          ·rcases Bool.eq_false_or_eq_true (p.s.toList == q.s.toList) with e3|e3
           all_goals
            have ZI:Hid (zB1 p q=(p.s.toList == q.s.toList)):=by show _=_;simp only[zB1,e1,e2,Bool.true_and]
            go_quiet (fail)
            go_wp2
            go_meet
            exact⟨by rw[zA0 ZI,e3];rfl,zBE (Below.refl _ _) _⟩
          ·have ZI:Hid (zB1 p q=false):=by show _=_;simp only[zB1,e1,e2,Bool.and_false,Bool.false_and]
           go_quiet (fail)
           go_wp2
           go_meet
           exact⟨by rw[zA0 ZI];rfl,zBE (Below.refl _ _) _⟩
         ·have ZI:Hid (zB1 p q=false):=by show _=_;simp only[zB1,e1,Bool.false_and]
          go_quiet (fail)
          go_wp2
          go_meet
          exact⟨by rw[zA0 ZI];rfl,zBE (Below.refl _ _) _⟩
        case rest=>
         obtain⟨rfl,Hs⟩:=hcut
         rename World=>wz
         have HOZ:=zA3 ((zA0 Fh).later Hs)
         have HGZ:=zA3 ((zA0 HGw).trans (zAt.of_below Hs _))
         replace c0:=cell_later Hs c0
         replace c1:=cell_later Hs c1
         replace c2:=cell_later Hs c2
         obtain⟨z0,z1,z2,f0,f1,f2⟩:=(zA0 HOZ).facts (zA0 HZ)
         clear Hs d0 d1 d2
         rcases Bool.eq_false_or_eq_true (zB1 p q) with e1|e1
         ·rw[e1] at ZJ ⊢
          rw[if_pos rfl,List.append_nil] at ZJ
          go_wp2
          go_roundw
          case rel=>exact⟨i,m1,L,rfl,by go_num,by omega,by omega,by rw[zA0 HM m1 rfl,zA0 ZJ];exact HT,by rw[zA0 HM m1 rfl];exact HD3,zA0 HOZ,zA0 HGZ⟩
          case measure=>first | (simp[intOf];omega) | (simp only[intOf];omega)
         ·rw[e1] at ZJ ⊢
          rw[if_neg (by simp)] at ZJ
          go_wp2
          go_roundw
          case rel=>
           refine⟨i+1,m1,L.set i p,by go_num,by go_num,by omega,by omega,?_,by rw[zA0 HM m1 rfl];exact zA0 qm p,(zA0 HOZ).put (zA0 Fi) p,(((zA0 HGZ).store _).store _).store _⟩
           show _=_
           rw[zA0 HM m1 rfl,zA0 ZJ,<-zA0 HT,List.take_succ_eq_append_getElem (by rw[List.length_set];exact zA0 Fi),List.take_set_of_le (Nat.le_refl _)]
           simp
          case measure=>first | (simp[intOf];omega) | (simp only[intOf];omega)
       ·have j1:¬((m+1:Nat):Int)<((xs.length-k1:Nat):Int):=by omega
        obtain⟨wc,QL,hoc,FO⟩:=ho.clear (i:=i) (by omega) 0
        have qN:Hid (L.take i=zCH xs):=by
         show _=_
         rw[zA0 HT,zCH,show xs.length-1=k1+m by omega]
        have QN:=zA3 hoc
        have Gt:=zA3 (hg.trans FO)
        clear ho hg hoc FO hLn
        generalize hm1:m+1=m1 at *
        go_wp2
        go_ret
        exact⟨_,rfl,by rw[<-zA0 qN];exact zA0 QN,zA0 Gt⟩
     ·rw[e1] at HN ⊢
      have qR:Hid (zCw xs k1=xs.take (k1+1)):=by
       show _=_
       rw[zA0 HN,if_neg (by simp),zA0 HT,zA0 HC]
       have h5:=zA0 HX
       obtain⟨h6,h7⟩:=zAL h5
       rw[h7]
      clear HN HT
      go_wp2
      go_roundw
      case rel=>exact⟨k1,by go_num,by omega,qR,zA0 YI⟩
      case measure=>first | (simp[intOf];omega) | (simp only[intOf];omega)
   ·have i2:¬((k+1:Nat):Int)<(xs.length:Int):=by omega
    have HE:Hid (zCH xs=xs):=by
     show _=_
     unfold zCH
     rw[show xs.length-1=k by omega,zA0 HC,List.take_of_length_le (by omega)]
    have HB:=zA3 hb
    have Fh:=zA3 ho
    clear hb ho
    generalize Jv:k+1=k1 at *
    go_wp2
    go_ret
    exact⟨_,rfl,by rw[zA0 HE];exact zA0 Fh,zAt.of_below (zA0 HB) _⟩
theorem zAV.gr{w w':World}{B b:Nat}{u:Value}{xs:List Val}(h:zAV w B u xs)(hg:Gr w w' b)(hb:b<B):zAV w' B u xs:=by
 refine⟨h.1,?_⟩
 rcases h.2 with h1|⟨g,cap,cur,hv,hB,hh,rest⟩
 ·exact .inl h1
 ·refine .inr ⟨g,cap,cur,hv,hB,?_,rest⟩
  rw[hg.block g (World.ownsRow.lt h g (by rw[hv];rfl)).2 (fun e=>by injection e with e;omega)]
  exact hh
theorem Gr.app{w wr w1:World}{b:Nat}{v:Value}{o:Obj}{xs:List Val}(h:Gr w wr b)(ho:zAV wr w.heap.size v xs)(hg:(wr.alloc o).grownBy w1 v.ownBlock):Gr w w1 b:=by
 refine⟨hg.os.trans h.os,hg.tape.trans h.tape,hg.output.trans h.output,?_,fun i hi Hg=>?_⟩
 ·have:=hg.size;have:=h.size;simp at *;omega
 ·have h2:=h.size
  rw[hg.block i (by simp;omega) (fun e=>by have:=(World.ownsRow.lt ho i e.symm).1;omega),Below.heap_alloc _ _ _ (by omega),h.block i hi Hg]
theorem Rd.app{wr w1:World}{b B:Nat}{v:Value}{o:Obj}{xs:List Val}{l:List UInt8}(hr:Rd wr b l)(ho:zAV wr B v xs)(hb:b<B)(hg:(wr.alloc o).grownBy w1 v.ownBlock):Rd w1 b l:=by
 have hl:=hr.ne
 refine World.rowIs.of_block hr ?_
 rw[hg.block b (by simp;omega) (fun e=>by have:=(World.ownsRow.lt ho b e.symm).1;omega),Below.heap_alloc _ _ _ hl]
theorem zBr{kind:Int}:∀{n:Nat} {l r:List UInt8} {vs:List Val},zAq kind n l=some (vs,r)->vs.length=n/\r.length<=l.length
 | 0,l,r,vs,h=>by
  unfold zAq at h
  injection h with h;injection h with h1 h2
  subst h1;subst h2;exact⟨rfl,Nat.le_refl _⟩
 | n+1,l,r,vs,h=>by
  unfold zAq at h
  cases hp:zAq kind n l with
  | none=>rw[hp] at h;cases h
  | some p=>
   rw[hp,Option.bind_some] at h
   cases hq:zBh kind p.2 with
   | none=>rw[hq] at h;cases h
   | some q=>
    rw[hq] at h
    injection h with h;injection h with h1 h2
    obtain⟨a,c⟩:=zBr (vs:=p.1) (r:=p.2) hp
    have:=zJX hq
    subst h1;subst h2
    exact⟨by simp[a],by omega⟩
theorem zJV{kind:Int}{k:Nat}{l r r2:List UInt8}{vs:List Val}{x:Val}(h:zAq kind k l=some (vs,r))(hx:zBh kind r=some (x,r2)):zAq kind (k+1) l=some (vs++[x],r2):=by
 rw[zAq,h,Option.bind_some,hx];rfl
theorem zIP{kind:Int}{k:Nat}{l r:List UInt8}{vs:List Val}(h:zAq kind k l=some (vs,r))(hx:zBh kind r=none):∀n,k<n->zAq kind n l=none:=by
 intro n hn
 obtain⟨j,rfl⟩:∃j,n=k+1+j:=⟨n-k-1,by omega⟩
 clear hn
 induction j with
 | zero=>show zAq kind (k+1) l=none;rw[zAq,h,Option.bind_some,hx];rfl
 | succ j ih=>show zAq kind (k+1+j+1) l=none;rw[zAq,ih];rfl
def zFv(w w':World)(e:Ending)(b:Nat)(o:Option (List Val×List UInt8)):Prop:=
 (∃vs r v,o=some (vs,r)/\e=.returned v/\zAV w' w.heap.size v vs/\Rd w' b r/\Gr w w' b)∨(o=none/\e=dmg/\Gr w w' b)
theorem zCe(b n:Nat)(kind:Int)(l:List UInt8)(w:World)(hk:kind=1∨kind=2)(hn:n<=100000)(h:Rd w b l)(hl:l.length<=140737488355328) :
  Calls Tryz.prog 163 #[.pointer (some ⟨b,0,none⟩),.int .i64 kind,.int .i64 n] w fun e w'=>zFv w w' e b (zAq kind n l):=by
 obtain⟨i4,Qd,z40,z41,z42⟩:=info_parts Tryz.info59
 have Zg:=h.ne
 go_enter Tryz.func163,Tryz.ntmps163
 go_wp2_with fail
 go_loopw[7,9] (fun v i wr=>∃(k:Nat) (vs:List Val) (r:List UInt8),k<=n/\i=.int .i64 (k:Int)/\Hid (zAq kind k l=some (vs,r))/\zAV wr w.heap.size v vs/\Rd wr b r/\Gr w wr b) (fun _ i _=>n-(intOf i).toNat)
 case atStart=>exact⟨0,[],l,Nat.zero_le _,rfl,rfl,⟨rfl,.inl ⟨rfl,rfl⟩⟩,h,Gr.refl _ _⟩
 case round=>
  obtain⟨k,vs,r,Zj,rfl,HP,ho,hr,hg⟩:=hrel
  obtain⟨Yu,Yn⟩:=zBr (zA0 HP)
  have Qh:=zA3 Yu
  by_cases He:k<n
  ·have h9:(k:Int)<(n:Int):=by omega
   cases hx:zBh kind r with
   | none=>
    have HN:=zA3 (zIP (zA0 HP) hx n He)
    have HC:=zA3 (zLd hk hr (by omega) hx)
    have HG:=zA3 hg
    clear hx hg ho hr Yu
    go_wp2_with (go_at_call 179;refine(zA0 HC).mono ?_;rintro e w1 ⟨rfl,Hn⟩)
    exact⟨rfl,.inr ⟨zA0 HN,rfl,(zA0 HG).trans Hn⟩⟩
   | some p=>
    obtain⟨x,r2⟩:=p
    have HN:=zA3 (zJV (zA0 HP) hx)
    have HC:=zA3 (zGq hk hr (by omega) hx)
    have HG:=zA3 hg
    have HO:=zA3 ho
    have QK:=hg.size
    clear hx hg ho hr Yu
    go_wp2_with (first
     | (go_at_call 179;refine(zA0 HC).mono ?_;rintro e w2 ⟨rfl,Hu,Hj⟩;rw[Val.open_];have Qi:=(zA0 HO).gr Hj Zg;have Jb:=(zA0 HG).trans Hj;have yA:=Hj.size)
     | (at_builtin;refine wpList_append_own_at _ rfl (.tmp 11) (.tmp 15) 37 rfl w.heap.size 59 i4 (.agg #[.int .i64 0,.int .i64 0,.string ⟨#[]⟩]) 3 32 Tryz.underlying37 Qd z40 z41 z42 rfl (by decide) _ _ _ rfl (World.ownsRow.alloc Qi _) ⟨w2.heap.size,0,none⟩ 1 1 (c3 x) rfl rfl (zAy w2 x) (zBY _) (by rw[zA0 Qh];unfold maxLen;omega) (by rw[zA0 Qh];omega) (by simp;omega) ?_;intro v1 w3 Hc Ha _ Hl;have Ya:=zB9 Hc))
    go_roundw
    case rel=>exact⟨k+1,vs++[x],r2,by omega,by go_num,HN,Ya,Hu.app Qi Zg Ha,Jb.app Qi Ha⟩
    case measure=>simp[intOf];omega
  ·have h9:¬(k:Int)<(n:Int):=by omega
   have ek:k=n:=by omega
   subst ek
   have HO:=zA3 (⟨ho,hr,hg⟩:zAV wr w.heap.size u7 vs/\Rd wr b r/\Gr w wr b)
   clear ho hr hg Yu
   go_wp2
   go_ret
   exact .inl ⟨vs,r,_,zA0 HP,rfl,zA0 HO⟩
def zBt(T d i:Nat):Nat:=T / 2 ^ (d*i) % 2 ^ d
def zAm(t:List UInt8)(d count:Nat):List Nat:=(List.range count).map (zBt (leV t) d)
def zDD(t:List UInt8)(count:Nat):List Bool:=(zAm t 1 count).map (· == 1)
def zBp(count:Nat)(l:List UInt8):Option (List Bool×List UInt8):=
 (zBB 1 l).bind fun p=>if p.1=0 then some (List.replicate count false,p.2) else if p.1=1 then
  (zCA count 1 p.2).bind fun q=>if (zDD q.1 count).any id then some (zDD q.1 count,q.2) else none
 else none
theorem Rd.grx{w w':World}{b B:Nat}{l:List UInt8}(h:Rd w b l)(hg:Gr w w' B)(Hg:b≠B):Rd w' b l:=
 World.rowIs.of_block h (hg.block b h.ne (fun e=>Hg (by injection e)))
theorem Gr.fresh{w wr w':World}{b B:Nat}(h:Gr w wr b)(hg:Gr wr w' B)(hB:w.heap.size<=B):Gr w w' b:=by
 have h2:=h.size
 exact⟨hg.os.trans h.os,hg.tape.trans h.tape,hg.output.trans h.output,Nat.le_trans h2 hg.size,fun i hi Hg=>by
  rw[hg.block i (by omega) (fun e=>by injection e with e;omega),h.block i hi Hg]⟩
theorem zC8{w w':World}{g t n B:Nat}{F:Nat->Value}(h:w.rowIs g t n F)(hg:Gr w w' B)(Hg:g≠B):w'.rowIs g t n F:=
 h.of_block (hg.block g h.lt (fun e=>Hg (by injection e)))
theorem zGH.next{w w':World}{A B C d k:Nat}{t:List UInt8}(h:zGH w A B C d (d*k) t)(hb:At1 w' B 3 (.int .i64 ((d*k+d:Nat):Int)))(hg:Gr w w' B):zGH w' A B C d (d*(k+1)) t:=
 ⟨h.a.gr hg h.ab,by rw[Nat.mul_succ];exact hb,h.c.gr hg h.cb,h.ab,h.cb⟩
theorem zGH.set{w:World}{A B C d P g j:Nat}{t:List UInt8}(h:zGH w A B C d P t)(v:Value)(h1:A≠g)(h2:B≠g)(h3:C≠g):zGH (w.setCell ⟨g,j,none⟩ v) A B C d P t:=
 ⟨World.rowIs.setOther h.a h1 v,World.rowIs.setOther h.b h2 v,World.rowIs.setOther h.c h3 v,h.ab,h.cb⟩
theorem zGH.alloc{w:World}{A B C d P:Nat}{t:List UInt8}(h:zGH w A B C d P t)(o:Obj):zGH (w.alloc o) A B C d P t:=⟨h.a.new o,h.b.new o,h.c.new o,h.ab,h.cb⟩
theorem zGP{w:World}{A B C d k count:Nat}{t:List UInt8}(h:zGH w A B C d (d*k) t)(hd:d<=64)(hk:k<count)(hc:count<=4096)(hl:t.length=zAO count d) :
  Calls Tryz.prog 178 #[.pointer (some ⟨A,0,none⟩),.pointer (some ⟨B,0,none⟩),.pointer (some ⟨C,0,none⟩)] w fun e w'=>
   e=.returned (.int .u64 ((zBt (leV t) d k:Nat):Int))/\zGH w' A B C d (d*(k+1)) t/\Gr w w' B:=by
 have h1:d*k+d<=d*count:=by rw[<-Nat.mul_succ];exact Nat.mul_le_mul_left _ hk
 have h2:count*d<=4096*64:=Nat.mul_le_mul hc hd
 have h3:d*count=count*d:=Nat.mul_comm _ _
 refine(zQN A B C (d*k) d t w h.a h.b h.c h.ab h.cb hd (by rw[hl];unfold zAO;omega) (by rw[hl];unfold zAO;omega)).mono ?_
 rintro e w' ⟨rfl,hb,hg⟩
 exact⟨rfl,h.next hb hg,hg⟩
def zSZ(nl:List Bool)(k:Nat):Nat:=(nl.take k).count true
theorem zQA{nl:List Bool}{k:Nat}{x:Bool}(h:nl[k]?=some x):zSZ nl (k+1)=zSZ nl k+(if x then 1 else 0):=by
 obtain⟨h1,rfl⟩:=zAL h
 unfold zSZ
 rw[List.take_succ_eq_append_getElem h1,List.count_append]
 cases nl[k]<;>simp
theorem zTi(nl:List Bool)(k:Nat):zSZ nl k<=k:=by
 unfold zSZ
 exact Nat.le_trans List.count_le_length (List.length_take_le _ _)
theorem zGx(t:List UInt8)(count:Nat):(zDD t count).length=count:=by simp[zDD,zAm]
theorem zRc{t:List UInt8}{count k:Nat}(h:k<count):(zDD t count)[k]?=some (zBt (leV t) 1 k == 1):=by simp[zDD,zAm,h]
def bF(nl:List Bool)(k:Nat)(j:Nat):Value:=.bool (if j<k then nl.getD j false else false)
def zMD(w w':World)(e:Ending)(b count:Nat)(o:Option (List Bool×List UInt8)):Prop:=
 (∃nl r g,o=some (nl,r)/\e=.returned (.tuple #[.slice (some ⟨g,0,none⟩) count count,.int .i64 (nl.count true:Nat)])/\w'.rowIs g 4 count (fun j=>.bool (nl.getD j false))/\nl.length=count/\w.heap.size<=g/\Rd w' b r/\Gr w w' b)∨(o=none/\e=dmg/\Gr w w' b)
theorem Gr.of_alloc{w w1:World}{b:Nat}{o:Obj}(h:Gr (w.alloc o) w1 b):Gr w w1 b:=(Gr.alloc w b o).trans h
theorem zN1{b count:Nat}{l r:List UInt8}{w:World}(hc:count<=4096)(h:Rd w b l)(hl:l.length<=140737488355328)(hd:zBB 1 l=some (0,r)) :
  Calls Tryz.prog 151 #[.pointer (some ⟨b,0,none⟩),.int .i64 count] w fun e w'=>zMD w w' e b count (some (List.replicate count false,r)):=by
 obtain⟨i6,YL,z60,z61,z62⟩:=info_parts Tryz.info4
 have HN:=zA3 (fun o=>zAT (h.alloc o) hl hd (by decide))
 have Hg:w.heap.size≠b:=by have:=h.ne;omega
 have Gq:=zA3 Hg
 clear h Hg
 go_enter Tryz.func151,Tryz.ntmps151
 go_wp2_with (first
  | (at_make;refine wpList_make_row _ rfl (.tmp 11) (.tmp 11) 45 rfl 4 i6 (.bool false) Tryz.underlying45 YL z60 z61 rfl .i64 .i64 count rfl rfl (by rw[z62];omega) (by omega) ?_)
  | (go_at_call 149;refine(zA0 HN _).mono ?_;rintro e w1 ⟨rfl,Hq,Hn⟩)
  | (go_at_call 150;refine(zFn _ (by decide) _).mono ?_;rintro e w2 ⟨rfl,rfl⟩))
 go_ret2
 refine .inl ⟨_,r,w.heap.size,rfl,?_,?_,by simp,Nat.le_refl _,Hq,Hn.of_alloc⟩
 ·have:(List.replicate count false).count true=0:=by rw[List.count_replicate];rfl
  rw[this];rfl
 ·refine World.rowIs.congr (zC8 (World.rowIs_made w (.bool false) count 4) Hn (zA0 Gq)) fun j hj=>?_
  simp[List.getD_eq_getElem?_getD,hj]
theorem zPO{b count:Nat}{l:List UInt8}{w:World}(hc:count<=4096)(h:Rd w b l)(hl:l.length<=140737488355328)(hd:zBB 1 l=none) :
  Calls Tryz.prog 151 #[.pointer (some ⟨b,0,none⟩),.int .i64 count] w fun e w'=>e=dmg/\Gr w w' b:=by
 obtain⟨i6,YL,z60,z61,z62⟩:=info_parts Tryz.info4
 have HN:=zA3 (fun o=>zDC (h.alloc o) hl hd)
 clear h
 go_enter Tryz.func151,Tryz.ntmps151
 go_wp2_with (first
  | (at_make;refine wpList_make_row _ rfl (.tmp 11) (.tmp 11) 45 rfl 4 i6 (.bool false) Tryz.underlying45 YL z60 z61 rfl .i64 .i64 count rfl rfl (by rw[z62];omega) (by omega) ?_)
  | (go_at_call 149;refine(zA0 HN _).mono ?_;rintro e w1 ⟨rfl,rfl⟩))
 exact⟨rfl,rfl,Gr.alloc _ _ _⟩
theorem zN2{b count m:Nat}{l r:List UInt8}{w:World}(hc:count<=4096)(h:Rd w b l)(hl:l.length<=140737488355328)(hd:zBB 1 l=some (m,r))(hm:1<m) :
  Calls Tryz.prog 151 #[.pointer (some ⟨b,0,none⟩),.int .i64 count] w fun e w'=>e=dmg/\Gr w w' b:=by
 obtain⟨i6,YL,z60,z61,z62⟩:=info_parts Tryz.info4
 have HN:=zA3 (fun o=>zAT (h.alloc o) hl hd (by decide))
 clear h
 go_enter Tryz.func151,Tryz.ntmps151
 go_wp2_with (first
  | (at_make;refine wpList_make_row _ rfl (.tmp 11) (.tmp 11) 45 rfl 4 i6 (.bool false) Tryz.underlying45 YL z60 z61 rfl .i64 .i64 count rfl rfl (by rw[z62];omega) (by omega) ?_)
  | (go_at_call 149;refine(zA0 HN _).mono ?_;rintro e w1 ⟨rfl,Hq,Hn⟩)
  | (go_at_call 150;refine(zDF _ (decide_eq_false (by omega)) _).mono ?_;rintro e w2 ⟨rfl,rfl⟩))
 exact⟨rfl,rfl,Hn.of_alloc⟩
theorem zN3{b count:Nat}{l r:List UInt8}{w:World}(hc:count<=4096)(h:Rd w b l)(hl:l.length<=140737488355328)(hd:zBB 1 l=some (1,r))(hb:zCA count 1 r=none) :
  Calls Tryz.prog 151 #[.pointer (some ⟨b,0,none⟩),.int .i64 count] w fun e w'=>e=dmg/\Gr w w' b:=by
 obtain⟨i6,YL,z60,z61,z62⟩:=info_parts Tryz.info4
 have HN:=zA3 (fun o=>zAT (h.alloc o) hl hd (by decide))
 have Yn:=zAo hd
 have HB:=zA3 (fun W (hW:Rd W b r)=>zIs hc (by decide) hW (by omega) hb)
 clear h
 go_enter Tryz.func151,Tryz.ntmps151
 go_wp2_with (first
  | (at_make;refine wpList_make_row _ rfl (.tmp 11) (.tmp 11) 45 rfl 4 i6 (.bool false) Tryz.underlying45 YL z60 z61 rfl .i64 .i64 count rfl rfl (by rw[z62];omega) (by omega) ?_)
  | (go_at_call 149;refine(zA0 HN _).mono ?_;rintro e w1 ⟨rfl,Hq,Hn⟩)
  | (go_at_call 150;refine(zFn _ (by decide) _).mono ?_;rintro e w2 ⟨rfl,rfl⟩)
  | (go_at_call 162;refine(zA0 HB _ Hq).mono ?_;rintro e w3 ⟨rfl,Qw⟩))
 exact⟨rfl,rfl,Hn.of_alloc.trans Qw⟩
theorem zPN{b count:Nat}{l r t r2:List UInt8}{w:World}(hc:count<=4096)(h:Rd w b l)(hl:l.length<=140737488355328)(hd:zBB 1 l=some (1,r))(hb:zCA count 1 r=some (t,r2))(O:Option (List Bool×List UInt8))(HO:Hid (O=if (zDD t count).any id then some (zDD t count,r2) else none)) :
  Calls Tryz.prog 151 #[.pointer (some ⟨b,0,none⟩),.int .i64 count] w fun e w'=>zMD w w' e b count O:=by
 obtain⟨i6,YL,z60,z61,z62⟩:=info_parts Tryz.info4
 have HN:=zA3 (fun o=>zAT (h.alloc o) hl hd (by decide))
 have Yn:=zAo hd
 have HB:=zA3 (fun W (hW:Rd W b r)=>zFS hc (by decide) hW (by omega) hb)
 have YR:=(zD8 hb).1
 have Qn:=h.ne
 have Hg:w.heap.size≠b:=by omega
 have Gq:=zA3 Hg
 have Dm:=zA3 YR
 clear h Hg YR
 go_enter Tryz.func151,Tryz.ntmps151
 go_wp2_with (first
  | (at_make;refine wpList_make_row _ rfl (.tmp 11) (.tmp 11) 45 rfl 4 i6 (.bool false) Tryz.underlying45 YL z60 z61 rfl .i64 .i64 count rfl rfl (by rw[z62];omega) (by omega) ?_)
  | (go_at_call 149;refine(zA0 HN _).mono ?_;rintro e w1 ⟨rfl,Hq,Hn⟩)
  | (go_at_call 150;refine(zFn _ (by decide) _).mono ?_;rintro e w2 ⟨rfl,rfl⟩)
  | (go_at_call 162;refine(zA0 HB _ Hq).mono ?_;rintro e w3 ⟨A,B,C,rfl,Hz,hA,hB,hC,Qt,Qw⟩))
 have Hk:=zC8 (zC8 (World.rowIs_made w (.bool false) count 4) Hn (zA0 Gq)) Qw (zA0 Gq)
 have ZH:=Hn.of_alloc.trans Qw
 have QC:w.heap.size+1<=w2.heap.size:=by have:=Hn.size;simpa using this
 have Di:w.heap.size<A:=by omega
 have hB':w.heap.size<B:=by omega
 have hC':w.heap.size<C:=by omega
 clear hA hB hC QC Hn Qw Hq
 go_loopw[8,26] (fun s i wr=>∃k:Nat,k<=count/\i=.int .i64 (k:Int)/\s=.int .i64 (zSZ (zDD t count) k:Nat)/\wr.rowIs w.heap.size 4 count (bF (zDD t count) k)/\zGH wr A B C 1 (1*k) t/\Rd wr b r2/\Gr w wr b) (fun _ i _=>count-(intOf i).toNat)
 case atStart=>exact⟨0,Nat.zero_le _,rfl,rfl,Hk.congr fun j hj=>by simp[bF],Hz,Qt,ZH⟩
 case round=>
  obtain⟨k,hk,rfl,rfl,Yp,Jl,Zd,Hy⟩:=hrel
  have hcn:=zTi (zDD t count) k
  by_cases He:k<count
  ·have h9:(k:Int)<(count:Int):=by omega
   have Hm:=zRc (t:=t) He
   have DZ:=zQA Hm
   have HC:=zA3 (zGP Jl (by decide) He hc (zA0 Dm))
   have QG:Hid (∀w4,Gr wr w4 B->w4.rowIs w.heap.size 4 count (bF (zDD t count) k)/\Rd w4 b r2/\Gr w w4 b):=fun w4 Yh=>
    ⟨zC8 Yp Yh (by omega),Zd.grx Yh (by omega),Hy.fresh Yh (by omega)⟩
   have HF:Hid (∀j,bF (zDD t count) (k+1) j=if j=k then .bool (zBt (leV t) 1 k == 1) else bF (zDD t count) k j):=fun j=>by
    unfold bF
    by_cases hj:j=k
    ·subst hj;simp[List.getD_eq_getElem?_getD,Hm]
    ·rw[if_neg hj]
     by_cases Yd:j<k
     ·rw[if_pos Yd,if_pos (by omega)]
     ·rw[if_neg Yd,if_neg (by omega)]
   have HCT:=zA3 DZ
   generalize zBt (leV t) 1 k=x at HC HF HCT
   clear Hm Yp Jl Zd Hy DZ
   by_cases hx:x=1
   ·subst hx
    go_wp2_with (go_at_call 178;refine(zA0 HC).mono ?_;rintro e w4 ⟨rfl,Qe,Yh⟩;obtain⟨yF,Gy,Dc⟩:=zA0 QG w4 Yh;have cm:=yF.cell He;have fm:=yF.frozen k)
    go_roundw
    case rel=>
     refine⟨k+1,by omega,by go_num,by rw[zA0 HCT];go_num,(yF.set k (.bool true)).congr fun j hj=>?_,Qe.set _ (by omega) (by omega) (by omega),World.rowIs.setOther Gy (by simp;omega) _,?_⟩
     ·rw[zA0 HF j];rfl
     ·exact Dc.fresh (zAY _ _ _ _) (Nat.le_refl _)
    case measure=>simp[intOf];omega
   ·have GR:((x:Int) == 1)=false:=by simp;omega
    have Ji:(x == 1)=false:=by simpa using hx
    rw[Ji] at HF HCT
    go_wp2_with (go_at_call 178;refine(zA0 HC).mono ?_;rintro e w4 ⟨rfl,Qe,Yh⟩;obtain⟨yF,Gy,Dc⟩:=zA0 QG w4 Yh)
    go_roundw
    case rel=>
     refine⟨k+1,by omega,by go_num,by rw[zA0 HCT];go_num,yF.congr fun j hj=>?_,Qe,Gy,Dc⟩
     rw[zA0 HF j]
     by_cases hj:j=k
     ·subst hj;rw[if_pos rfl];simp[bF]
     ·rw[if_neg hj]
    case measure=>simp[intOf];omega
  ·have h9:¬(k:Int)<(count:Int):=by omega
   have ek:k=count:=by omega
   subst ek
   have e1:zSZ (zDD t k) k=(zDD t k).count true:=by unfold zSZ;rw[List.take_of_length_le (by rw[zGx];omega)]
   have e2:(zDD t k).any id=decide (0<(zDD t k).count true):=by
    rw[Bool.eq_iff_iff];simp[List.count_pos_iff]
   rw[e1] at hcn ⊢
   have HE:=zA3 e2
   have HK:Hid (wr.rowIs w.heap.size 4 k (fun j=>.bool ((zDD t k).getD j false))/\Rd wr b r2/\Gr w wr b):=⟨Yp.congr fun j hj=>by simp[bF,hj],Zd,Hy⟩
   have Qg:=zA3 (zGx t k)
   generalize zDD t k=nl at *
   clear e1 e2 Yp Jl Zd Hy
   generalize Yk:nl.count true=cc at *
   by_cases hp:0<cc
   ·have qu:(0:Int)<(cc:Int):=by omega
    have ql:Hid (O=some (nl,r2)):=by show _=_;rw[zA0 HO,zA0 HE];simp[hp]
    go_wp2_with (go_at_call 150;refine(zFn _ (by simp) _).mono ?_;rintro e w2 ⟨rfl,rfl⟩)
    go_ret2
    exact .inl ⟨nl,r2,w.heap.size,zA0 ql,by rw[Yk];rfl,(zA0 HK).1,zA0 Qg,Nat.le_refl _,(zA0 HK).2⟩
   ·have qu:¬(0:Int)<(cc:Int):=by omega
    have ql:Hid (O=none):=by show _=_;rw[zA0 HO,zA0 HE];simp[hp]
    have Fd:cc=0:=by omega
    clear hp qu
    subst Fd
    go_wp2_with (go_at_call 150;refine(zDF _ (by first|rfl|simp) _).mono ?_;rintro e w2 ⟨rfl,rfl⟩)
    exact⟨rfl,.inr ⟨zA0 ql,rfl,(zA0 HK).2.2⟩⟩
end Go.Proofs.YtekgpapophibcaaGreat
/-
 DERIVED: THE SHELF's CONTRACTS AT THIS DUMP,IN PLAIN WORDS (tools/lay-plain.mjs out of 'XShelf.lean',which tools/lay-shelf.mjs wrote): THE SAME DECLARATIONS UNDER THE SAME NAMES: 'import','namespace','open','def','theorem' AND NOTHING ELSE: no command of the shelf's: FOR A HAND-IN. Each laying: the table of numbers ('.._ren') and one theorem,a field a fact of the dump's own or the kernel's comparison;each contract: ONE APPLICATION.
-/
namespace Go.Proofs
open Go.Shelf
def Tryz.sortL_ren:Go.Shelf.Ren:=⟨fun|6=>143|15=>160|14=>159|28=>177|29=>148|20=>169|21=>170|22=>171|23=>172|24=>173|25=>174|26=>175|27=>176|46=>182|47=>183|48=>184|49=>185|50=>186|57=>189|n=>n,fun|22=>37|24=>59|25=>132|3=>3|39=>114|0=>0|53=>113|55=>73|4=>4|46=>209|45=>208|50=>190|5=>5|9=>9|66=>217|70=>220|76=>225|77=>226|n=>n,fun|n=>n⟩
theorem Tryz.sortL:Go.Proofs.SlLaysF0.n6 Tryz.prog Tryz.sortL_ren:={
 mixed:=by kernel_rfl
 f6:=⟨Tryz.f143.name,by decide,Tryz.func143.trans (congrArg some (by kernel_rfl))⟩
 f14:=⟨Tryz.f159.name,by decide,Tryz.func159.trans (congrArg some (by kernel_rfl))⟩
 f15:=Tryz.func160.trans (congrArg some (by kernel_rfl))
 f20:=⟨Tryz.f169.name,by decide,Tryz.func169.trans (congrArg some (by kernel_rfl))⟩
 f21:=⟨Tryz.f170.name,by decide,Tryz.func170.trans (congrArg some (by kernel_rfl))⟩
 f22:=⟨Tryz.f171.name,by decide,Tryz.func171.trans (congrArg some (by kernel_rfl))⟩
 f23:=⟨Tryz.f172.name,by decide,Tryz.func172.trans (congrArg some (by kernel_rfl))⟩
 f24:=⟨Tryz.f173.name,by decide,Tryz.func173.trans (congrArg some (by kernel_rfl))⟩
 f25:=⟨Tryz.f174.name,by decide,Tryz.func174.trans (congrArg some (by kernel_rfl))⟩
 f26:=⟨Tryz.f175.name,by decide,Tryz.func175.trans (congrArg some (by kernel_rfl))⟩
 f27:=⟨Tryz.f176.name,by decide,Tryz.func176.trans (congrArg some (by kernel_rfl))⟩
 f28:=Tryz.func177.trans (congrArg some (by kernel_rfl))
 f29:=Tryz.func148.trans (congrArg some (by kernel_rfl))
 f46:=⟨Tryz.f182.name,by decide,Tryz.func182.trans (congrArg some (by kernel_rfl))⟩
 f47:=Tryz.func183.trans (congrArg some (by kernel_rfl))
 f48:=Tryz.func184.trans (congrArg some (by kernel_rfl))
 f49:=⟨Tryz.f185.name,by decide,Tryz.func185.trans (congrArg some (by kernel_rfl))⟩
 f50:=⟨Tryz.f186.name,by decide,Tryz.func186.trans (congrArg some (by kernel_rfl))⟩
 f57:=⟨Tryz.f189.name,by decide,Tryz.func189.trans (congrArg some (by kernel_rfl))⟩
 t0:=Tryz.underlying0
 a0:=Tryz.isAgg0
 z0:=Tryz.sizeOf0
 v0:=Tryz.zeroValue0
 t3:=Tryz.underlying3
 a3:=Tryz.isAgg3
 z3:=Tryz.sizeOf3
 v3:=Tryz.zeroValue3
 t4:=Tryz.underlying4
 a4:=Tryz.isAgg4
 z4:=Tryz.sizeOf4
 v4:=Tryz.zeroValue4
 t5:=Tryz.underlying5
 a5:=Tryz.isAgg5
 z5:=Tryz.sizeOf5
 v5:=Tryz.zeroValue5
 t9:=Tryz.underlying9
 a9:=Tryz.isAgg9
 z9:=Tryz.sizeOf9
 v9:=Tryz.zeroValue9
 t22:=Tryz.underlying37
 a22:=Tryz.isAgg37
 z22:=Tryz.sizeOf37
 v22:=Tryz.zeroValue37
 t25:=Tryz.underlying132
 a25:=Tryz.isAgg132
 z25:=Tryz.sizeOf132
 v25:=Tryz.zeroValue132
 t39:=Tryz.underlying114
 a39:=Tryz.isAgg114
 z39:=Tryz.sizeOf114
 v39:=Tryz.zeroValue114
 t45:=Tryz.underlying208
 a45:=Tryz.isAgg208
 z45:=Tryz.sizeOf208
 v45:=Tryz.zeroValue208
 t46:=Tryz.underlying209
 a46:=Tryz.isAgg209
 z46:=Tryz.sizeOf209
 v46:=Tryz.zeroValue209
 t50:=Tryz.underlying190
 a50:=Tryz.isAgg190
 z50:=Tryz.sizeOf190
 v50:=Tryz.zeroValue190
 t53:=Tryz.underlying113
 a53:=Tryz.isAgg113
 z53:=Tryz.sizeOf113
 v53:=Tryz.zeroValue113
 t55:=Tryz.underlying73
 a55:=Tryz.isAgg73
 z55:=Tryz.sizeOf73
 v55:=Tryz.zeroValue73
 t66:=Tryz.underlying217
 a66:=Tryz.isAgg217
 z66:=Tryz.sizeOf217
 v66:=Tryz.zeroValue217
 t70:=Tryz.underlying220
 a70:=Tryz.isAgg220
 z70:=Tryz.sizeOf220
 v70:=Tryz.zeroValue220
 t76:=Tryz.underlying225
 a76:=Tryz.isAgg225
 z76:=Tryz.sizeOf225
 v76:=Tryz.zeroValue225
 t77:=Tryz.underlying226
 a77:=Tryz.isAgg226
 z77:=Tryz.sizeOf226
 v77:=Tryz.zeroValue226 }
def Tryz.stabL_ren:Go.Shelf.Ren:=⟨fun|8=>89|13=>108|14=>109|16=>111|15=>110|29=>138|30=>139|42=>157|49=>168|n=>n,fun|20=>20|26=>136|36=>158|0=>0|38=>160|42=>164|3=>3|4=>4|47=>114|17=>17|33=>155|34=>156|89=>245|12=>12|56=>113|82=>238|5=>5|83=>239|84=>240|85=>241|86=>242|87=>243|n=>n,fun|n=>n⟩
theorem Tryz.stabL:Go.Proofs.LaysGt.n8 Tryz.prog Tryz.stabL_ren:={
 mixed:=by kernel_rfl
 f8:=Tryz.func89.trans (congrArg some (by kernel_rfl))
 f13:=Tryz.func108.trans (congrArg some (by kernel_rfl))
 f14:=Tryz.func109.trans (congrArg some (by kernel_rfl))
 f15:=Tryz.func110.trans (congrArg some (by kernel_rfl))
 f16:=Tryz.func111.trans (congrArg some (by kernel_rfl))
 f29:=Tryz.func138.trans (congrArg some (by kernel_rfl))
 f30:=Tryz.func139.trans (congrArg some (by kernel_rfl))
 f42:=Tryz.func157.trans (congrArg some (by kernel_rfl))
 f49:=Tryz.func168.trans (congrArg some (by kernel_rfl))
 t0:=Tryz.underlying0
 a0:=Tryz.isAgg0
 z0:=Tryz.sizeOf0
 v0:=Tryz.zeroValue0
 i0:=by kernel_rfl
 t3:=Tryz.underlying3
 a3:=Tryz.isAgg3
 z3:=Tryz.sizeOf3
 v3:=Tryz.zeroValue3
 i3:=by kernel_rfl
 t4:=Tryz.underlying4
 a4:=Tryz.isAgg4
 z4:=Tryz.sizeOf4
 v4:=Tryz.zeroValue4
 i4:=by kernel_rfl
 t5:=Tryz.underlying5
 a5:=Tryz.isAgg5
 z5:=Tryz.sizeOf5
 v5:=Tryz.zeroValue5
 i5:=by kernel_rfl
 t12:=Tryz.underlying12
 a12:=Tryz.isAgg12
 z12:=Tryz.sizeOf12
 v12:=Tryz.zeroValue12
 i12:=by kernel_rfl
 t17:=Tryz.underlying17
 a17:=Tryz.isAgg17
 z17:=Tryz.sizeOf17
 v17:=Tryz.zeroValue17
 i17:=by kernel_rfl
 t20:=Tryz.underlying20
 a20:=Tryz.isAgg20
 z20:=Tryz.sizeOf20
 v20:=Tryz.zeroValue20
 i20:=by kernel_rfl
 t26:=Tryz.underlying136
 a26:=Tryz.isAgg136
 z26:=Tryz.sizeOf136
 v26:=Tryz.zeroValue136
 i26:=by kernel_rfl
 t33:=Tryz.underlying155
 a33:=Tryz.isAgg155
 z33:=Tryz.sizeOf155
 v33:=Tryz.zeroValue155
 i33:=by kernel_rfl
 t34:=Tryz.underlying156
 a34:=Tryz.isAgg156
 z34:=Tryz.sizeOf156
 v34:=Tryz.zeroValue156
 i34:=by kernel_rfl
 t36:=Tryz.underlying158
 a36:=Tryz.isAgg158
 z36:=Tryz.sizeOf158
 v36:=Tryz.zeroValue158
 i36:=by kernel_rfl
 t38:=Tryz.underlying160
 a38:=Tryz.isAgg160
 z38:=Tryz.sizeOf160
 v38:=Tryz.zeroValue160
 i38:=by kernel_rfl
 t42:=Tryz.underlying164
 a42:=Tryz.isAgg164
 z42:=Tryz.sizeOf164
 v42:=Tryz.zeroValue164
 i42:=by kernel_rfl
 t47:=Tryz.underlying114
 a47:=Tryz.isAgg114
 z47:=Tryz.sizeOf114
 v47:=Tryz.zeroValue114
 i47:=by kernel_rfl
 t56:=Tryz.underlying113
 a56:=Tryz.isAgg113
 z56:=Tryz.sizeOf113
 v56:=Tryz.zeroValue113
 i56:=by kernel_rfl
 t82:=Tryz.underlying238
 a82:=Tryz.isAgg238
 z82:=Tryz.sizeOf238
 v82:=Tryz.zeroValue238
 i82:=by kernel_rfl
 t83:=Tryz.underlying239
 a83:=Tryz.isAgg239
 z83:=Tryz.sizeOf239
 v83:=Tryz.zeroValue239
 i83:=by kernel_rfl
 t84:=Tryz.underlying240
 a84:=Tryz.isAgg240
 z84:=Tryz.sizeOf240
 v84:=Tryz.zeroValue240
 i84:=by kernel_rfl
 t85:=Tryz.underlying241
 a85:=Tryz.isAgg241
 z85:=Tryz.sizeOf241
 v85:=Tryz.zeroValue241
 i85:=by kernel_rfl
 t86:=Tryz.underlying242
 a86:=Tryz.isAgg242
 z86:=Tryz.sizeOf242
 v86:=Tryz.zeroValue242
 i86:=by kernel_rfl
 t87:=Tryz.underlying243
 a87:=Tryz.isAgg243
 z87:=Tryz.sizeOf243
 v87:=Tryz.zeroValue243
 i87:=by kernel_rfl
 t89:=Tryz.underlying245
 a89:=Tryz.isAgg245
 z89:=Tryz.sizeOf245
 v89:=Tryz.zeroValue245
 i89:=by kernel_rfl }
end Go.Proofs
set_option linter.unusedSimpArgs false
set_option linter.unusedVariables false
namespace Go.Proofs.YtekgpapophibcaaGreat
open Go.RowKit Go.Sort
def zBH(m:Val)(ys:List Val):Val:=ys.foldl (fun m x=>if zAh x m<0 then x else m) m
theorem zJh{m y:Val}{ys:List Val}{j:Nat}(h:ys[j]?=some y):zBH m (ys.take (j+1))=if zAh y (zBH m (ys.take j))<0 then y else zBH m (ys.take j):=by
 obtain⟨h1,rfl⟩:=zAL h
 unfold zBH
 rw[List.take_succ_eq_append_getElem h1,List.foldl_append]
 rfl
theorem zEJ(x y:Val)(w:World):Calls Tryz.prog 104 #[.agg #[.int .i64 x.k,.int .i64 x.n,.string x.s],.agg #[.int .i64 y.k,.int .i64 y.n,.string y.s]] w fun e w'=>e=.returned (.int .i64 (zAh x y))/\Below w.heap.size w w':=zJa x y w
theorem zD7{w:World}{g:Nat}{y:Val}(h:w.rowIs g 59 3 (zDU y)):w.cell? ⟨g,0,none⟩=some (.int .i64 y.k)/\w.cell? ⟨g,1,none⟩=some (.int .i64 y.n)/\w.cell? ⟨g,2,none⟩=some (.string y.s)/\w.frozen? ⟨g,0,none⟩=false/\w.frozen? ⟨g,1,none⟩=false/\w.frozen? ⟨g,2,none⟩=false:=
 ⟨h.cell (by omega),h.cell (by omega),h.cell (by omega),h.frozen 0,h.frozen 1,h.frozen 2⟩
theorem zQg(aa:Option Addr)(ca:Nat)(x0:Val)(ys:List Val)(w:World)(hl:(x0::ys).length<=1048576)(ha:zAR w aa (x0::ys)) :
  Calls Tryz.prog 147 #[.slice aa (x0::ys).length ca,.func (.func 104) #[] #[]] w fun e w'=>e=.returned (zBH x0 ys).v/\Below w.heap.size w w':=by
 have HA:=zA3 ha
 rcases ha with e|⟨rb,ro,rfl,hc⟩
 ·cases e
 obtain⟨d0,d1,d2⟩:=hc 0 x0 rfl
 simp only[Nat.zero_mul,Nat.add_zero] at d0 d1 d2
 have He:=World.block_lt_of_cell? _ _ d0
 have hlt':rb<w.heap.size:=He
 clear hc He
 have QA:Hid ((x0::ys).length=ys.length+1):=rfl
 have h1:¬(((x0::ys).length:Int)<1):=by simp only[List.length_cons];omega
 have h0:(0:Int)<((x0::ys).length:Int):=by simp only[List.length_cons];omega
 generalize hN:(x0::ys).length=N at *
 clear hN
 go_enter Tryz.func147,Tryz.ntmps147
 go_wp2_with fail
 go_loopw[6] (fun s wr=>∃(j:Nat) (m:Val),s=.int .i64 ((j:Int)+1)/\j<=ys.length/\Hid (m=zBH x0 (ys.take j))/\wr.rowIs (w.heap.size+1) 59 3 (zDU m)/\wr.rowIs w.heap.size 59 3 (zDU Val.null)/\Below w.heap.size w wr) (fun s _=>N-(intOf s).toNat)
 case atStart=>
  refine⟨0,x0,rfl,Nat.zero_le _,rfl,?_,?_,?_⟩
  ·have:=zAs (w.alloc (.cells #[.int .i64 0,.int .i64 0,.string ⟨#[]⟩] 59)) x0
   simpa using this
  ·exact(zAs w Val.null).alloc _
  ·exact zA1 (zA1 (Below.refl _ _) _) _
 case round=>
  obtain⟨j,m,rfl,hj,HM,JS,yG,hb⟩:=hrel
  by_cases h8:j<ys.length
  ·have h9:(j:Int)+1<(N:Int):=by have:=zA0 QA;omega
   obtain⟨y,hy⟩:∃y,ys[j]?=some y:=⟨_,zAf h8⟩
   have ZJ:=zA3 (zJh (m:=x0) hy)
   rcases(zA0 HA).later hb with e|⟨rb',ro',eb,hc⟩
   ·cases e
   injection eb with eb
   injection eb with eb1 eb2
   subst eb1 eb2
   obtain⟨c0,c1,c2⟩:=hc (j+1) y (by simpa using hy)
   obtain⟨b0,b1,b2,f0,f1,f2⟩:=zD7 JS
   have HO:=zA3 (zEJ y m)
   have HRM:=zA3 JS
   have HR0:=zA3 yG
   have HB:=zA3 hb
   have TF:w.heap.size+1<wr.heap.size:=JS.lt
   rw[<-zA0 HM] at ZJ
   generalize zAh y m=O at *
   have ej:((j:Int)+1)=((j+1:Nat):Int):=by omega
   rw[ej] at h9 ⊢
   clear hc hy JS yG hb ej
   go_upto_region 7 with fail
   go_cut[27] (fun s27 wx=>s27=.bool (decide (O<0))/\Below wr.heap.size wr wx)
   case first=>
    have k0:=cell_regrown c0
    have k1:=cell_regrown c1
    have k2:=cell_regrown c2
    have k3:=cell_regrown b0
    have k4:=cell_regrown b1
    have k5:=cell_regrown b2
    clear c0 c1 c2 b0 b1 b2
    refine wp_region_quiet_below (by kernel_rfl) (by kernel_rfl) ?_
    repeat (go_big_quiet_step (first
     | (go_at_call 104;exact Calls.regrown_of (zA0 HO _))))
    refine wpQuiet_nil ?_
    intro w' Hp
    have hB:Below wr.heap.size wr w':=by obtain⟨p,rfl⟩:=Hp;exact below_regrown _ _ _
    clear Hp
    go_wp2
    go_meet
    exact⟨rfl,hB⟩
   case rest=>
    obtain⟨rfl,Hs⟩:=hcut
    rename World=>wx
    replace c0:=cell_later Hs c0
    replace c1:=cell_later Hs c1
    replace c2:=cell_later Hs c2
    have JS:=zA5 (zA0 HRM) Hs
    have yG:=zA5 (zA0 HR0) Hs
    obtain⟨b0,b1,b2,f0,f1,f2⟩:=zD7 JS
    have Do:=zA3 JS
    have HR0X:=zA3 yG
    have YI:=zA3 (zA2 (zA0 HB) Hs)
    clear Hs JS yG
    by_cases hO:O<0
    ·have e1:decide (O<0)=true:=decide_eq_true hO
     rw[if_pos hO] at ZJ
     rw[e1]
     clear e1
     go_wp2
     go_roundw
     case rel=>
      refine⟨j+1,y,by go_num,by omega,(zA0 ZJ).symm,zIr (zA0 Do),?_,?_⟩
      ·exact(((zA0 HR0X).setOther (by simp) _).setOther (by simp) _).setOther (by simp) _
      ·exact(((zA0 YI).setCell (by simp) _).setCell (by simp) _).setCell (by simp) _
     case measure=>have:=zA0 QA;first | (simp[intOf];omega) | (simp only[intOf];omega)
    ·have e1:decide (O<0)=false:=decide_eq_false hO
     rw[if_neg hO] at ZJ
     rw[e1]
     clear e1
     go_wp2
     go_roundw
     case rel=>exact⟨j+1,m,by go_num,by omega,(zA0 ZJ).symm,zA0 Do,zA0 HR0X,zA0 YI⟩
     case measure=>have:=zA0 QA;first | (simp[intOf];omega) | (simp only[intOf];omega)
  ·have h9:¬(j:Int)+1<(N:Int):=by have:=zA0 QA;omega
   have qA:j=ys.length:=by omega
   have HM2:Hid (m=zBH x0 ys):=by show _=_;rw[zA0 HM,qA,List.take_length]
   obtain⟨b0,b1,b2,_⟩:=zD7 JS
   obtain⟨z0,z1,z2,y0,y1,y2⟩:=zD7 yG
   simp only[Val.null] at z0 z1 z2
   have HB:=zA3 hb
   have TF:w.heap.size+1<wr.heap.size:=JS.lt
   clear JS yG hb qA
   go_wp2
   refine bodyPost_ret (v:=m.v) (by simp[results,Tryz.results147,go_sem,Val.v, *]) rfl ⟨by rw[zA0 HM2],?_⟩
   exact(((zA0 HB).setCell (by simp) _).setCell (by simp) _).setCell (by simp) _
end Go.Proofs.YtekgpapophibcaaGreat
