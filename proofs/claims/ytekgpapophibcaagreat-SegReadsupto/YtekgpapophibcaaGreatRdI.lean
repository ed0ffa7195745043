import Derived.Test.YtekgpapophibcaaGreatPackVa
set_option linter.unusedSimpArgs false
set_option linter.unusedVariables false
set_option maxHeartbeats 800000
set_option maxRecDepth 100000
namespace Go.Proofs.YtekgpapophibcaaGreat
open Go.RowKit Go.Sort
def zBs(count:Nat)(l:List UInt8):Option (List Val×List UInt8):=
 (zBB 8 l).bind fun p=>(zBB 1 p.2).bind fun q=>if q.1<=64 then
  (zCA count q.1 q.2).bind fun r=>if (∀k∈zAm r.1 q.1 count,zBf p.1<=zBf (p.1+k))/\q.1=bl ((zAm r.1 q.1 count).foldl max 0)/\(if count=0 then p.1=0 else 0∈zAm r.1 q.1 count) then some ((zAm r.1 q.1 count).map fun k=>.num (zBf (p.1+k)),r.2) else none
 else none
theorem zF2(n:Int):-9223372036854775808<=wrap64 n:=by
 unfold wrap64;omega
theorem zF3(n:Int):wrap64 n<=9223372036854775807:=by
 unfold wrap64;omega
theorem zMJ(M:Nat)(h:M<18446744073709551616):IntKind.u64.wrap (wrap64 (M:Int))=(M:Int):=by
 rw[IntKind.wrap_u64];unfold wrap64;omega
theorem zDt(t:List UInt8)(d count:Nat):(zAm t d count).length=count:=by simp[zAm]
theorem zKv{t:List UInt8}{d count k:Nat}(h:k<count):(zAm t d count)[k]?=some (zBt (leV t) d k):=by simp[zAm,h]
theorem zLm(T d i:Nat)(hd:d<=64):zBt T d i<18446744073709551616:=by
 have h1:zBt T d i<2 ^ d:=Nat.mod_lt _ (Nat.two_pow_pos _)
 have h2:2 ^ d<=2 ^ 64:=Nat.pow_le_pow_right (by decide) hd
 have h3:(2:Nat) ^ 64=18446744073709551616:=by decide
 omega
def zNc(ks:List Nat)(k:Nat):Nat:=(ks.take k).foldl min 18446744073709551615
def zNd(ks:List Nat)(k:Nat):Nat:=(ks.take k).foldl max 0
theorem zPV{ks:List Nat}{k x:Nat}(h:ks[k]?=some x):zNc ks (k+1)=min (zNc ks k) x:=by
 obtain⟨h1,rfl⟩:=zAL h
 unfold zNc
 rw[List.take_succ_eq_append_getElem h1,List.foldl_append];rfl
theorem zPX{ks:List Nat}{k x:Nat}(h:ks[k]?=some x):zNd ks (k+1)=max (zNd ks k) x:=by
 obtain⟨h1,rfl⟩:=zAL h
 unfold zNd
 rw[List.take_succ_eq_append_getElem h1,List.foldl_append];rfl
theorem zPU(ks:List Nat):∀k,zNc ks k=0 ↔ 0∈ks.take k:=by
 intro k
 unfold zNc
 suffices h:∀(l:List Nat) (m:Nat),l.foldl min m=0 ↔ m=0∨0∈l by
  rw[h];simp
 intro l
 induction l with
 | nil=>intro m;simp
 | cons a l ih=>
  intro m
  have e:min m a=0 ↔ m=0∨a=0:=by omega
  rw[List.foldl_cons,ih,e,List.mem_cons,or_assoc,eq_comm (a:=a)]
theorem zTO(ks:List Nat):∀k,zNc ks k<=18446744073709551615:=by
 intro k
 unfold zNc
 suffices h:∀(l:List Nat) (m:Nat),l.foldl min m<=m from h _ _
 intro l
 induction l with
 | nil=>intro m;simp
 | cons a l ih=>intro m;rw[List.foldl_cons];have:=ih (min m a);omega
theorem zTP{ks:List Nat}(h:∀x∈ks,x<18446744073709551616):∀k,zNd ks k<18446744073709551616:=by
 intro k
 unfold zNd
 suffices g:∀(l:List Nat) (m:Nat),m<18446744073709551616->(∀x∈l,x<18446744073709551616)->l.foldl max m<18446744073709551616 from g _ _ (by decide) (fun x hx=>h x (List.mem_of_mem_take hx))
 intro l
 induction l with
 | nil=>intro m hm _;simpa using hm
 | cons a l ih=>
  intro m hm ha
  rw[List.foldl_cons]
  have:=ha a (by simp)
  exact ih (max m a) (by omega) (fun x hx=>ha x (by simp[hx]))
theorem zS0{a b c:Nat}(h:c=min a b):min (a:Int) (b:Int)=(c:Int):=by subst h;omega
theorem zS1{a b c:Nat}(h:c=max a b):max (a:Int) (b:Int)=(c:Int):=by subst h;omega
theorem Gr.put3{w wr:World}{b g:Nat}(h:Gr w wr b)(hg:w.heap.size<=g)(i j k:Nat)(u v x:Value):Gr w (((wr.setCell ⟨g,i,none⟩ u).setCell ⟨g,j,none⟩ v).setCell ⟨g,k,none⟩ x) b:=
 ((h.fresh (zAY _ _ _ _) hg).fresh (zAY _ _ _ _) hg).fresh (zAY _ _ _ _) hg
theorem Rd.put3{w:World}{b g:Nat}{l:List UInt8}(h:Rd w b l)(Hg:b≠g)(i j k:Nat)(u v x:Value):Rd (((w.setCell ⟨g,i,none⟩ u).setCell ⟨g,j,none⟩ v).setCell ⟨g,k,none⟩ x) b l:=
 World.rowIs.setOther (World.rowIs.setOther (World.rowIs.setOther h Hg _) Hg _) Hg _
theorem zGH.put3{w:World}{A B C d P g:Nat}{t:List UInt8}(h:zGH w A B C d P t)(h1:A≠g)(h2:B≠g)(h3:C≠g)(i j k:Nat)(u v x:Value):zGH (((w.setCell ⟨g,i,none⟩ u).setCell ⟨g,j,none⟩ v).setCell ⟨g,k,none⟩ x) A B C d P t:=
 ((h.set _ h1 h2 h3).set _ h1 h2 h3).set _ h1 h2 h3
theorem zGH.lt{w:World}{A B C d P:Nat}{t:List UInt8}(h:zGH w A B C d P t):A<w.heap.size/\B<w.heap.size/\C<w.heap.size:=⟨World.rowIs.lt h.a,World.rowIs.lt h.b,World.rowIs.lt h.c⟩
theorem zPF{b count M d:Nat}{l l1 l2 t r:List UInt8}{w:World}(hc:count<=4096)(h:Rd w b l)(hl:l.length<=140737488355328)(hM:zBB 8 l=some (M,l1))(hd:zBB 1 l1=some (d,l2))(Yc:d<=64)(hb:zCA count d l2=some (t,r))
  (O:Option (List Val×List UInt8)) (HO:Hid (O=if (∀k∈zAm t d count,zBf M<=zBf (M+k))/\d=bl ((zAm t d count).foldl max 0)/\(if count=0 then M=0 else 0∈zAm t d count) then some ((zAm t d count).map fun k=>.num (zBf (M+k)),r) else none)) :
  Calls Tryz.prog 166 #[.pointer (some ⟨b,0,none⟩),.int .i64 count] w fun e w'=>zFv w w' e b O:=by
 obtain⟨i4,Qd,z40,z41,z42⟩:=info_parts Tryz.info59
 have HM:=zA3 (zAT h hl hM (by decide))
 have YK:=zAo hM
 have Yd:=zAo hd
 have HD:=zA3 (fun W (hW:Rd W b l1)=>zAT hW (by omega) hd (by decide))
 have HB:=zA3 (fun W (hW:Rd W b l2)=>zFS hc Yc hW (by omega) hb)
 have YR:=(zD8 hb).1
 have Qn:=h.ne
 have Dm:=zA3 YR
 have hM64:M<18446744073709551616:=by
  obtain⟨h1,rfl,rfl⟩:=zBD hM
  have:=zBn (l.take 8)
  have h2:(l.take 8).length=8:=by rw[List.length_take];omega
  rw[h2] at this
  have h3:(256:Nat) ^ 8=18446744073709551616:=by decide
  omega
 obtain⟨L,hL,JC,yj⟩:∃L,wrap64 (M:Int)=L/\-9223372036854775808<=L/\L<=9223372036854775807:=⟨_,rfl,zF2 _,zF3 _⟩
 have eU:IntKind.u64.wrap L=(M:Int):=by rw[<-hL];exact zMJ M hM64
 have hdi:(d:Int)<=64:=by omega
 have HLM:Hid (zBf M=L):=hL
 clear h YR
 go_enter Tryz.func166,Tryz.ntmps166
 go_wp2_with (first
  | (at_make;refine zB5 _ rfl (.tmp 27) (.tmp 27) 37 rfl 59 i4 _ Tryz.underlying37 Qd z40 3 z41 .i64 .i64 count rfl rfl (by rw[z42];omega) (by omega) ?_)
  | (go_at_call 149;first | (refine(zA0 HD _ Hq).mono ?_;rintro e w2 ⟨rfl,Hu,Hj⟩) | (refine(zA0 HM).mono ?_;rintro e w1 ⟨rfl,Hq,Hn⟩))
  | (go_at_call 150;refine(zAj _).mono ?_;rintro e w3 ⟨rfl,rfl⟩)
  | (go_at_call 162;refine(zA0 HB _ Hu).mono ?_;rintro e w4 ⟨A,B,C,rfl,Qe,hA,hB,hC,Gy,Yh⟩))
 have QC:=Hn.size
 have TC:=Hj.size
 have hz4:=Yh.size
 have Dc:=(Hn.trans Hj).trans Yh
 obtain⟨hA4,hB4,hC4⟩:=Qe.lt
 clear Hn Hj Yh Hq Hu
 generalize hks:zAm t d count=ks at HO
 have Yt:Hid (ks.length=count):=by rw[<-hks];exact zDt _ _ _
 have HKA:Hid (∀k,k<count->ks[k]?=some (zBt (leV t) d k)):=fun k hk=>by rw[<-hks];exact zKv hk
 have HKB:Hid (∀x∈ks,x<18446744073709551616):=fun x hx=>by
  rw[<-hks] at hx
  obtain⟨i,_,rfl⟩:=List.mem_map.1 hx
  exact zLm _ _ _ Yc
 clear hks
 go_loopw[9,10,31] (fun s9 s10 i wr=>∃k:Nat,k<=count/\i=.int .i64 (k:Int)/\s9=.int .u64 (zNc ks k:Nat)/\s10=.int .u64 (zNd ks k:Nat)/\Hid (∀x∈ks.take k,zBf M<=zBf (M+x))/\zEh wr w4.heap.size count k (ks.map fun k=>.num (zBf (M+k)))/\zGH wr A B C d (d*k) t/\Rd wr b r/\Gr w wr b) (fun _ _ i _=>count-(intOf i).toNat)
 case atStart=>exact⟨0,Nat.zero_le _,rfl,rfl,rfl,fun x hx=>by simp at hx,zEh.start _ _ _,Qe.alloc _,Gy.alloc _,Dc.trans (Gr.alloc _ _ _)⟩
 case round=>
  obtain⟨k,hk,rfl,rfl,rfl,HS,hf,Jl,Zd,Hy⟩:=hrel
  have hmn:=zTO ks k
  have hmx:=zTP (zA0 HKB) k
  by_cases He:k<count
  ·have h9:(k:Int)<(count:Int):=by omega
   have Hm:=zA0 HKA k He
   have hx64:=zA0 HKB _ (List.mem_of_getElem? Hm)
   have Fy:=zPV Hm
   have Fx:=zPX Hm
   have HC:=zA3 (zGP Jl Yc He hc (zA0 Dm))
   have Dn:Hid (ks.take (k+1)=ks.take k++[zBt (leV t) d k]):=by
    obtain⟨g1,g2⟩:=zAL Hm
    show _=_
    rw[List.take_succ_eq_append_getElem g1,g2]
   have HY:Hid ((ks.map fun k=>Val.num (zBf (M+k)))[k]?=some (.num (zBf (M+zBt (leV t) d k)))):=by
    show _=_
    rw[List.getElem?_map,Hm];rfl
   have HMEM:=zA3 (List.mem_of_getElem? Hm)
   have QG:Hid (∀w5,Gr wr w5 B->zEh w5 w4.heap.size count k (ks.map fun k=>.num (zBf (M+k)))/\Rd w5 b r/\Gr w w5 b):=fun w5 QI=>
    ⟨hf.grx QI (by omega),Zd.grx QI (by omega),Hy.fresh QI (by omega)⟩
   generalize zBt (leV t) d k=x at Hm hx64 Fy Fx HC Dn HY HMEM
   obtain⟨V,hV,hV1,hV2⟩:∃V,wrap64 (IntKind.u64.wrap ((M:Int)+(x:Int)))=V/\-9223372036854775808<=V/\V<=9223372036854775807:=⟨_,rfl,zF2 _,zF3 _⟩
   have HV:Hid (zBf (M+x)=V):=by
    show _=_
    rw[<-hV,IntKind.wrap_u64];unfold zBf wrap64;omega
   rw[zA0 HV] at HY
   have HPUT:Hid (∀W,zEh W w4.heap.size count k (ks.map fun k=>.num (zBf (M+k)))->zEh (((W.setCell ⟨w4.heap.size,k*3,none⟩ (.int .i64 1)).setCell ⟨w4.heap.size,k*3+1,none⟩ (.int .i64 V)).setCell ⟨w4.heap.size,k*3+2,none⟩ (.string ⟨#[]⟩)) w4.heap.size count (k+1) (ks.map fun k=>.num (zBf (M+k)))):=fun W h=>h.put (y:=Val.num V) (zA0 HY)
   generalize zNc ks k=mn at *
   generalize zNd ks k=mx at *
   have HN1:=zA3 Fy
   have HN2:=zA3 Fx
   clear Hm hf Jl Zd Hy Fy Fx
   by_cases Tn:L<=V
   ·go_wp2_with (first
     | (go_at_call 178;refine(zA0 HC).mono ?_;rintro e w5 ⟨rfl,QO,QI⟩;obtain⟨Jk,YS,qI⟩:=zA0 QG w5 QI;obtain⟨p0,p1,p2,q0,q1,q2⟩:=Jk.cells He;replace Jk:=zA3 Jk;replace QO:=zA3 QO;replace YS:=zA3 YS;replace qI:=zA3 qI)
     | (go_at_call 150;refine(zAj _).mono ?_;rintro e w6 ⟨rfl,rfl⟩))
    refine⟨⟨k+1,by omega,by go_num,?_,?_,?_,zA0 HPUT _ (zA0 Jk),(zA0 QO).put3 (by omega) (by omega) (by omega) _ _ _ _ _ _,(zA0 YS).put3 (by omega) _ _ _ _ _ _,(zA0 qI).put3 (by omega) _ _ _ _ _ _⟩,by simp[intOf];omega⟩
    ·exact congrArg (Value.int .u64) (zS0 (zA0 HN1))
    ·exact congrArg (Value.int .u64) (zS1 (zA0 HN2))
    ·show ∀_,_
     intro y hy
     rw[zA0 Dn] at hy
     rcases List.mem_append.1 hy with hy|hy
     ·exact zA0 HS y hy
     ·rw[List.mem_singleton.1 hy,zA0 HV,zA0 HLM];exact Tn
   ·have Zb:Hid (O=none):=by
     show _=_
     rw[zA0 HO,if_neg]
     rintro⟨g1,_⟩
     have:=g1 x (zA0 HMEM)
     rw[zA0 HV,zA0 HLM] at this
     exact Tn this
    go_wp2_with (first
     | (go_at_call 178;refine(zA0 HC).mono ?_;rintro e w5 ⟨rfl,QO,QI⟩;obtain⟨Jk,YS,qI⟩:=zA0 QG w5 QI;replace Jk:=zA3 Jk;replace QO:=zA3 QO;replace YS:=zA3 YS;replace qI:=zA3 qI)
     | (go_at_call 150;refine(zDF _ (decide_eq_false (by omega)) _).mono ?_;rintro e w6 ⟨rfl,rfl⟩))
    exact⟨rfl,.inr ⟨zA0 Zb,rfl,zA0 qI⟩⟩
  ·have h9:¬(k:Int)<(count:Int):=by omega
   have ek:k=count:=by omega
   subst ek
   have etk:ks.take k=ks:=List.take_of_length_le (by rw[zA0 Yt];omega)
   have emx:zNd ks k=ks.foldl max 0:=by unfold zNd;rw[etk]
   have emn:zNc ks k=0 ↔ 0∈ks:=by rw[zPU,etk]
   have Tu:Hid (∀x∈ks,zBf M<=zBf (M+x)):=by have:=zA0 HS;rw[etk] at this;exact this
   have Qg:=zA3 (zGz (zNd ks k) wr hmx)
   have Yi:Hid (zAV wr w.heap.size (.slice (some ⟨w4.heap.size,0,none⟩) k k) (ks.map fun k=>.num (zBf (M+k)))/\Rd wr b r/\Gr w wr b):=⟨hf.own (by rw[List.length_map];exact zA0 Yt) (by omega) (by omega),Zd,Hy⟩
   have hLM:L=0 ↔ M=0:=by
    have h1:=zA0 HLM
    unfold zBf wrap64 at h1
    omega
   have QN:Hid (O=if d=bl (zNd ks k)/\(if k=0 then M=0 else zNc ks k=0) then some (ks.map fun k=>.num (zBf (M+k)),r) else none):=by
    show _=_
    rw[zA0 HO,emx]
    congr 1
    rw[emn]
    exact propext ⟨fun h=>h.2,fun h=>⟨zA0 Tu,h⟩⟩
   generalize zNc ks k=mn at *
   generalize zNd ks k=mx at *
   generalize (ks.map fun k=>Val.num (zBf (M+k)))=ys at *
   clear etk emx emn HS Tu hf Jl Zd Hy HO HKA HKB
   have Zm:bl mx<=64:=zFr (by have:(2:Nat)^64=18446744073709551616:=(by decide);omega)
   generalize bl mx=m2 at *
   by_cases g1:d=m2
   ·subst g1
    by_cases g2:k=0
    ·subst g2
     by_cases g3:M=0
     ·have g4:=hLM.2 g3
      have HE:Hid (O=some (ys,r)):=by show _=_;rw[zA0 QN,if_pos ⟨rfl,by rw[if_pos rfl];exact g3⟩]
      clear hLM hL eU
      subst g4
      go_wp2_with (first
       | (go_at_call 148;refine(zA0 Qg).mono ?_;rintro e w6 ⟨rfl,rfl⟩)
       | (go_at_call 150;refine(zAj _).mono ?_;rintro e w7 ⟨rfl,rfl⟩))
      go_ret
      exact .inl ⟨_,_,_,zA0 HE,rfl,zA0 Yi⟩
     ·have g4:(L == 0)=false:=by simpa using fun h=>g3 (hLM.1 h)
      have HE:Hid (O=none):=by show _=_;rw[zA0 QN,if_neg (fun h=>g3 (by simpa using h.2))]
      clear hLM
      go_wp2_with (first
       | (go_at_call 148;refine(zA0 Qg).mono ?_;rintro e w6 ⟨rfl,rfl⟩)
       | (go_at_call 150;first | (refine(zAj _).mono ?_;rintro e w7 ⟨rfl,rfl⟩) | (refine(zBu _).mono ?_;rintro e w7 ⟨rfl,rfl⟩)))
      exact⟨rfl,.inr ⟨zA0 HE,rfl,(zA0 Yi).2.2⟩⟩
    ·have g5:((k:Int) == 0)=false:=by simpa using g2
     by_cases g3:mn=0
     ·subst g3
      have HE:Hid (O=some (ys,r)):=by show _=_;rw[zA0 QN,if_pos ⟨rfl,by rw[if_neg g2]⟩]
      go_wp2_with (first
       | (go_at_call 148;refine(zA0 Qg).mono ?_;rintro e w6 ⟨rfl,rfl⟩)
       | (go_at_call 150;refine(zAj _).mono ?_;rintro e w7 ⟨rfl,rfl⟩))
      go_ret
      exact .inl ⟨_,_,_,zA0 HE,rfl,zA0 Yi⟩
     ·have g4:((mn:Int) == 0)=false:=by simpa using g3
      have HE:Hid (O=none):=by show _=_;rw[zA0 QN,if_neg (fun h=>g3 (by simpa [g2] using h.2))]
      go_wp2_with (first
       | (go_at_call 148;refine(zA0 Qg).mono ?_;rintro e w6 ⟨rfl,rfl⟩)
       | (go_at_call 150;first | (refine(zAj _).mono ?_;rintro e w7 ⟨rfl,rfl⟩) | (refine(zBu _).mono ?_;rintro e w7 ⟨rfl,rfl⟩)))
      exact⟨rfl,.inr ⟨zA0 HE,rfl,(zA0 Yi).2.2⟩⟩
   ·have g4:((d:Int) == (m2:Int))=false:=by simp;omega
    have HE:Hid (O=none):=by show _=_;rw[zA0 QN,if_neg (fun h=>g1 h.1)]
    go_wp2_with (first
     | (go_at_call 148;refine(zA0 Qg).mono ?_;rintro e w6 ⟨rfl,rfl⟩)
     | (go_at_call 150;refine(zBu _).mono ?_;rintro e w7 ⟨rfl,rfl⟩))
    exact⟨rfl,.inr ⟨zA0 HE,rfl,(zA0 Yi).2.2⟩⟩
theorem zRX{b count:Nat}{l:List UInt8}{w:World}(h:Rd w b l)(hl:l.length<=140737488355328)(hM:zBB 8 l=none) :
  Calls Tryz.prog 166 #[.pointer (some ⟨b,0,none⟩),.int .i64 count] w fun e w'=>e=dmg/\Gr w w' b:=by
 have HM:=zA3 (zDC h hl hM)
 clear h
 go_enter Tryz.func166,Tryz.ntmps166
 go_wp2_with (go_at_call 149;refine(zA0 HM).mono ?_;rintro e w1 ⟨rfl,rfl⟩)
 exact⟨rfl,rfl,Gr.refl _ _⟩
theorem zRW{b count M:Nat}{l l1:List UInt8}{w:World}(h:Rd w b l)(hl:l.length<=140737488355328)(hM:zBB 8 l=some (M,l1))(hd:zBB 1 l1=none) :
  Calls Tryz.prog 166 #[.pointer (some ⟨b,0,none⟩),.int .i64 count] w fun e w'=>e=dmg/\Gr w w' b:=by
 have HM:=zA3 (zAT h hl hM (by decide))
 have YK:=zAo hM
 have HD:=zA3 (fun W (hW:Rd W b l1)=>zDC hW (by omega) hd)
 clear h
 go_enter Tryz.func166,Tryz.ntmps166
 go_wp2_with (go_at_call 149;first | (refine(zA0 HD _ Hq).mono ?_;rintro e w2 ⟨rfl,rfl⟩) | (refine(zA0 HM).mono ?_;rintro e w1 ⟨rfl,Hq,Hn⟩))
 exact⟨rfl,rfl,Hn⟩
theorem zRV{b count M d:Nat}{l l1 l2:List UInt8}{w:World}(h:Rd w b l)(hl:l.length<=140737488355328)(hM:zBB 8 l=some (M,l1))(hd:zBB 1 l1=some (d,l2))(Yc:64<d) :
  Calls Tryz.prog 166 #[.pointer (some ⟨b,0,none⟩),.int .i64 count] w fun e w'=>e=dmg/\Gr w w' b:=by
 have HM:=zA3 (zAT h hl hM (by decide))
 have YK:=zAo hM
 have HD:=zA3 (fun W (hW:Rd W b l1)=>zAT hW (by omega) hd (by decide))
 have hd2:d<256:=by
  obtain⟨h1,rfl,rfl⟩:=zBD hd
  have:=zBn (l1.take 1)
  have h2:(l1.take 1).length=1:=by rw[List.length_take];omega
  rw[h2] at this;simpa using this
 clear h
 go_enter Tryz.func166,Tryz.ntmps166
 go_wp2_with (first
  | (go_at_call 149;first | (refine(zA0 HD _ Hq).mono ?_;rintro e w2 ⟨rfl,Hu,Hj⟩) | (refine(zA0 HM).mono ?_;rintro e w1 ⟨rfl,Hq,Hn⟩))
  | (go_at_call 150;refine(zDF _ (decide_eq_false (by omega)) _).mono ?_;rintro e w3 ⟨rfl,rfl⟩))
 exact⟨rfl,rfl,Hn.trans Hj⟩
theorem zRU{b count M d:Nat}{l l1 l2:List UInt8}{w:World}(hc:count<=4096)(h:Rd w b l)(hl:l.length<=140737488355328)(hM:zBB 8 l=some (M,l1))(hd:zBB 1 l1=some (d,l2))(Yc:d<=64)(hb:zCA count d l2=none) :
  Calls Tryz.prog 166 #[.pointer (some ⟨b,0,none⟩),.int .i64 count] w fun e w'=>e=dmg/\Gr w w' b:=by
 have HM:=zA3 (zAT h hl hM (by decide))
 have YK:=zAo hM
 have Yd:=zAo hd
 have HD:=zA3 (fun W (hW:Rd W b l1)=>zAT hW (by omega) hd (by decide))
 have HB:=zA3 (fun W (hW:Rd W b l2)=>zIs hc Yc hW (by omega) hb)
 have hdi:(d:Int)<=64:=by omega
 clear h
 go_enter Tryz.func166,Tryz.ntmps166
 go_wp2_with (first
  | (go_at_call 149;first | (refine(zA0 HD _ Hq).mono ?_;rintro e w2 ⟨rfl,Hu,Hj⟩) | (refine(zA0 HM).mono ?_;rintro e w1 ⟨rfl,Hq,Hn⟩))
  | (go_at_call 150;refine(zAj _).mono ?_;rintro e w3 ⟨rfl,rfl⟩)
  | (go_at_call 162;refine(zA0 HB _ Hu).mono ?_;rintro e w4 ⟨rfl,Yh⟩))
 exact⟨rfl,rfl,(Hn.trans Hj).trans Yh⟩
theorem zGt(b count:Nat)(l:List UInt8)(w:World)(hc:count<=4096)(h:Rd w b l)(hl:l.length<=140737488355328) :
  Calls Tryz.prog 166 #[.pointer (some ⟨b,0,none⟩),.int .i64 count] w fun e w'=>zFv w w' e b (zBs count l):=by
 have no:∀{o},o=none->(Calls Tryz.prog 166 #[.pointer (some ⟨b,0,none⟩),.int .i64 count] w fun e w'=>e=dmg/\Gr w w' b)->Calls Tryz.prog 166 #[.pointer (some ⟨b,0,none⟩),.int .i64 count] w fun e w'=>zFv w w' e b o:=
  fun ho QF=>QF.mono fun e w' ⟨he,hg⟩=>.inr ⟨ho,he,hg⟩
 cases hM:zBB 8 l with
 | none=>exact no (by unfold zBs;rw[hM];rfl) (zRX h hl hM)
 | some p=>
  obtain⟨M,l1⟩:=p
  cases hd:zBB 1 l1 with
  | none=>exact no (by unfold zBs;rw[hM,Option.bind_some,hd];rfl) (zRW h hl hM hd)
  | some q=>
   obtain⟨d,l2⟩:=q
   by_cases Yc:d<=64
   ·cases hb:zCA count d l2 with
    | none=>exact no (by unfold zBs;rw[hM,Option.bind_some,hd,Option.bind_some,if_pos Yc,hb];rfl) (zRU hc h hl hM hd Yc hb)
    | some q=>
     obtain⟨t,r⟩:=q
     refine zPF hc h hl hM hd Yc hb _ ?_
     show zBs count l=_
     unfold zBs;rw[hM,Option.bind_some,hd,Option.bind_some,if_pos Yc,hb];rfl
   ·exact no (by unfold zBs;rw[hM,Option.bind_some,hd,Option.bind_some,if_neg Yc]) (zRV h hl hM hd (by omega))
theorem zNP(g n:Nat)(F:Nat->Bool)(w:World)(hn:n<=100000)(h:w.rowIs g 4 n (fun j=>.bool (F j))) :
  Calls Tryz.prog 188 #[.slice (some ⟨g,0,none⟩) n n,.bool false] w fun e w'=>∃i:Int,e=.returned (.int .i64 i)/\Hid (decide (0<=i)=!(List.range n).all F)/\w'=w:=by
 have HR:=zA3 h
 clear h
 go_enter Tryz.func188,Tryz.ntmps188
 go_wp2_with fail
 go_loop[8] (fun i=>∃k:Nat,k<=n/\i=.int .i64 (k:Int)/\Hid (∀j,j<k->F j=true)) (fun i=>n-(intOf i).toNat)
 case atStart=>exact⟨0,Nat.zero_le _,rfl,fun j hj=>by omega⟩
 case round=>
  obtain⟨k,hk,rfl,HP⟩:=hrel
  by_cases He:k<n
  ·have h9:(k:Int)<(n:Int):=by omega
   have cm:=(zA0 HR).cell He
   cases hF:F k
   ·rw[hF] at cm
    have HE:Hid (decide (0<=(k:Int))=!(List.range n).all F):=by
     show _=_
     have:(List.range n).all F=false:=by
      rw[List.all_eq_false]
      exact⟨k,List.mem_range.2 He,by simp[hF]⟩
     rw[this];simp
    clear hF
    go_wp2
    go_ret
    exact⟨_,rfl,HE,rfl⟩
   ·rw[hF] at cm
    have Jn:Hid (∀j,j<k+1->F j=true):=fun j hj=>by
     by_cases e:j=k
     ·rw[e];exact hF
     ·exact zA0 HP j (by omega)
    clear hF
    go_wp2
    go_round
    case rel=>exact⟨k+1,by omega,by go_num,Jn⟩
    case measure=>simp[intOf];omega
  ·have h9:¬(k:Int)<(n:Int):=by omega
   have HE:Hid (decide (0<=(-1:Int))=!(List.range n).all F):=by
    show _=_
    have:(List.range n).all F=true:=by
     rw[List.all_eq_true]
     intro j hj
     exact zA0 HP j (by have:=List.mem_range.1 hj;omega)
    rw[this];rfl
   go_wp2
   go_ret
   exact⟨_,rfl,HE,rfl⟩
theorem zFT(g n:Nat)(F:Nat->Bool)(w:World)(hn:n<=100000)(h:w.rowIs g 4 n (fun j=>.bool (F j))) :
  Calls Tryz.prog 181 #[.slice (some ⟨g,0,none⟩) n n,.bool false] w fun e w'=>e=.returned (.bool (!(List.range n).all F))/\w'=w:=by
 have HI:=zA3 (zNP g n F w hn h)
 generalize (!(List.range n).all F)=Z at HI ⊢
 clear h
 go_enter Tryz.func181,Tryz.ntmps181
 go_wp2_with (go_at_call 188;refine(zA0 HI).mono ?_;rintro e w1 ⟨i,rfl,HE,rfl⟩)
 go_ret
 exact⟨by rw[<-zA0 HE];rfl,rfl⟩
end Go.Proofs.YtekgpapophibcaaGreat
