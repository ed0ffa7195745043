import Derived.Test.YtekgpapophibcaaGreatRefD
import Derived.Test.YtekgpapophibcaaGreatSgF
import Derived.Test.YtekgpapophibcaaGreatSgN
import Derived.Test.YtekgpapophibcaaGreatSgB
set_option linter.unusedSimpArgs false
set_option linter.unusedVariables false
set_option maxHeartbeats 2000000
set_option maxRecDepth 100000
namespace Go.Proofs.YtekgpapophibcaaGreat
open Go.RowKit Go.Sort
theorem zDm(aa ab:Option Addr)(ca cb:Nat)(xs:List Int)(w:World)(qx:xs.length<=maxLen)(ha:zAp w aa (xs.map (.int .i64)))(hb:zAp w ab (xs.map (.int .i64))) :
  Calls Tryz.prog 11 #[.slice aa xs.length ca,.slice ab xs.length cb] w fun e w'=>e=.returned (.bool true)/\Below w.heap.size w w':=by
 unfold maxLen at qx
 go_enter Tryz.func11,Tryz.ntmps11
 go_wp2_with fail
 go_loopw[13] (fun i wr=>∃k:Nat,k<=xs.length/\i=.int .i64 k/\Below w.heap.size w wr) (fun i wx=>xs.length-(intOf i).toNat)
 case atStart=>exact⟨0,Nat.zero_le _,rfl,Below.refl _ _⟩
 case round=>
  obtain⟨k,Jv,rfl,Hx⟩:=hrel
  have ZR:=ha.later Hx
  have Yl:=hb.later Hx
  by_cases h1:k<xs.length
  ·obtain⟨x,hx⟩:∃x,xs[k]?=some x:=⟨_,zAf h1⟩
   obtain⟨ba,oa,rfl,c0⟩:=ZR.get (k:=k) (x:=.int .i64 x) (by simp[hx])
   obtain⟨bb,ob,rfl,d0⟩:=Yl.get (k:=k) (x:=.int .i64 x) (by simp[hx])
   have i1:(k:Int)<(xs.length:Int):=by omega
   clear hx
   go_wp2_with fail
   go_quiet (fail)
   go_wp2
   go_roundw
   case rel=>exact⟨k+1,by omega,by go_num,zBE Hx _⟩
   case measure=>simp[intOf];omega
  ·have i1:¬(k:Int)<(xs.length:Int):=by omega
   go_wp2
   go_ret
   exact⟨rfl,Hx⟩
def zJ0(m x:Val):Val:=if m.k == 0 || decide (zAh x m<0) then x else m
def zDE(m x:Val):Val:=if decide (0<zAh x m) then x else m
def zBR(xs:List Val)(k:Nat):Val×Val×Nat:=
 ((zAA (xs.take k)).foldl zJ0 .null,(zAA (xs.take k)).foldl zDE .null,((xs.take k).filter (fun x=>x.k == 0)).length)
theorem zHU(xs:List Val)(x:Val):zAA (xs++[x])=zAA xs++(if x.k == 0 then [] else [x]):=by
 unfold zAA
 rw[List.filter_append]
 congr 1
 cases h:(x.k == 0)<;>simp[h,bne]<;>simp_all
theorem zOP{xs:List Val}{k:Nat}{x:Val}(h:xs[k]?=some x)(hx:(x.k == 0)=true):zBR xs (k+1)=((zBR xs k).1,(zBR xs k).2.1,(zBR xs k).2.2+1):=by
 obtain⟨h1,rfl⟩:=zAL h
 unfold zBR
 rw[List.take_succ_eq_append_getElem h1,zHU,hx,if_pos rfl,List.append_nil,List.filter_append,zAX]
 simp[hx]
theorem zQv{xs:List Val}{k:Nat}{x:Val}(h:xs[k]?=some x)(hx:(x.k == 0)=false):zBR xs (k+1)=(zJ0 (zBR xs k).1 x,zDE (zBR xs k).2.1 x,(zBR xs k).2.2):=by
 obtain⟨h1,rfl⟩:=zAL h
 unfold zBR
 rw[List.take_succ_eq_append_getElem h1,zHU,hx,if_neg (by decide),List.foldl_append,List.foldl_append,List.filter_append,zAX]
 simp[hx]
theorem zMO{W:List Val}(h:zBM W=false):∃i x y,W[i]?=some x/\W[i+1]?=some y/\decide (zAh x y<0)=false:=by
 unfold zBM at h
 rw[List.all_eq_false] at h
 obtain⟨i,hi,hn⟩:=h
 rw[List.mem_range] at hi
 have h1:i<W.length:=by omega
 have h2:i+1<W.length:=by omega
 refine⟨i,W[i],W[i+1],zAf h1,zAf h2,?_⟩
 simp only[List.getD_eq_getElem?_getD,zAf h1,zAf h2,Option.getD_some] at hn
 simpa using hn
abbrev S6 (w:World) (vb vo j k:Nat) (x y:Val):Prop:=
 w.cell? ⟨vb,vo+j*3,none⟩=some (.int .i64 x.k)/\w.cell? ⟨vb,vo+j*3+1,none⟩=some (.int .i64 x.n)/\w.cell? ⟨vb,vo+j*3+2,none⟩=some (.string x.s)/\w.cell? ⟨vb,vo+k*3,none⟩=some (.int .i64 y.k)/\w.cell? ⟨vb,vo+k*3+1,none⟩=some (.int .i64 y.n)/\w.cell? ⟨vb,vo+k*3+2,none⟩=some (.string y.s)
def zUY(G:World->Prop):Exit->Act->World->Prop
 | .panic c,a,w=>c=[{ v:=.iface 171 (.agg #[]),recovered:=false }]/\a.defers=[]/\G w
 | _,_,_=>False
theorem zUY.to{G:World->Prop}{Q:Exit->Act->World->Prop}(h:∀a w,a.defers=[]->G w->Q (.panic [{ v:=.iface 171 (.agg #[]),recovered:=false }]) a w):∀e a w,zUY G e a w->Q e a w:=fun e a w hd=>by
 cases e with
 | panic c=>obtain⟨rfl,h0,hg⟩:=(show c=_/\a.defers=[]/\G w from hd);exact h a w h0 hg
 | _=>exact(show False from hd).elim
theorem zPL{m:Nat}{l l1:List UInt8}(hm:zBB 2 l=some (m,l1)):m<65536:=by
 obtain⟨g1,rfl,rfl⟩:=zBD hm
 have:=zBn (l.take 2)
 have h2:(l.take 2).length=2:=by rw[List.length_take];omega
 rw[h2] at this;simpa using this
theorem zTL{m:Nat}{l l1:List UInt8}(hm:zBB 4 l=some (m,l1)):m<4294967296:=by
 obtain⟨g1,rfl,rfl⟩:=zBD hm
 have:=zBn (l.take 4)
 have h2:(l.take 4).length=4:=by rw[List.length_take];omega
 rw[h2] at this;simpa using this
theorem zEK{m:Nat}{l l1:List UInt8}(hm:zBB 1 l=some (m,l1)):m<256:=by
 obtain⟨g1,rfl,rfl⟩:=zBD hm
 have:=zBn (l.take 1)
 have h2:(l.take 1).length=1:=by rw[List.length_take];omega
 rw[h2] at this;simpa using this
theorem zRG{b m:Nat}{kind:Int}{l1 l2:List UInt8}{W:List Val}(hk:kind=1∨kind=2)(hm:m<=100000)(hl:l1.length<=140737488355328)(hW:zAq kind m l1=some (W,l2))(W2:World)(Yz:Rd W2 b l1) :
  Calls Tryz.prog 163 #[.pointer (some ⟨b,0,none⟩),.int .i64 kind,.int .i64 m] W2 fun e w'=>∃v,e=.returned v/\zAV w' W2.heap.size v W/\Rd w' b l2/\Gr W2 w' b:=by
 have:=zCe b m kind l1 W2 hk hm Yz hl
 rw[hW] at this
 refine this.mono ?_
 rintro e w' (⟨vs,r',v,he,h3,h4,h5,h6⟩|⟨he,_⟩)
 ·injection he with he;injection he with e1 e2;subst e1;subst e2
  exact⟨v,h3,h4,h5,h6⟩
 ·cases he
theorem zRH{b m:Nat}{kind:Int}{l1:List UInt8}(hk:kind=1∨kind=2)(hm:m<=100000)(hl:l1.length<=140737488355328)(hW:zAq kind m l1=none)(W2:World)(Yz:Rd W2 b l1) :
  Calls Tryz.prog 163 #[.pointer (some ⟨b,0,none⟩),.int .i64 kind,.int .i64 m] W2 fun e w'=>e=dmg/\Gr W2 w' b:=by
 have:=zCe b m kind l1 W2 hk hm Yz hl
 rw[hW] at this
 refine this.mono ?_
 rintro e w' (⟨vs,r',v,he,h3,h4,h5,h6⟩|⟨_,he,hg⟩)
 ·cases he
 ·exact⟨he,hg⟩
theorem zNp{b count:Nat}{kind:Int}{l:List UInt8}{w:World}(h:Rd w b l)(hl:l.length<=140737488355328)(hm:zBB 2 l=none) :
  Calls Tryz.prog 165 #[.pointer (some ⟨b,0,none⟩),.int .i64 kind,.int .i64 count] w fun e w'=>e=dmg/\Gr w w' b:=by
 have HM:=zA3 (zDC h hl hm)
 clear h
 go_enter Tryz.func165,Tryz.ntmps165
 go_wp2_with (go_at_call 149;refine(zA0 HM).mono ?_;rintro e w1 ⟨rfl,rfl⟩)
 exact⟨rfl,rfl,Gr.refl _ _⟩
theorem zNo{b count m:Nat}{kind:Int}{l l1:List UInt8}{w:World}(hk:kind=1∨kind=2)(h:Rd w b l)(hl:l.length<=140737488355328)(hm:zBB 2 l=some (m,l1))(hW:zAq kind m l1=none) :
  Calls Tryz.prog 165 #[.pointer (some ⟨b,0,none⟩),.int .i64 kind,.int .i64 count] w fun e w'=>e=dmg/\Gr w w' b:=by
 have TM:=zPL hm
 have YK:=zAo hm
 have HN:=zA3 (zAT h hl hm (by decide))
 have HP:=zA3 (zRH (b:=b) hk (by omega) (by omega) hW)
 clear h hW
 go_enter Tryz.func165,Tryz.ntmps165
 go_wp2_with (first
  | (go_at_call 149;refine(zA0 HN).mono ?_;rintro e w1 ⟨rfl,Hq,Hn⟩)
  | (go_at_call 163;refine(zA0 HP _ Hq).mono ?_;rintro e w2 ⟨rfl,Hj⟩))
 exact⟨rfl,rfl,Hn.trans Hj⟩
theorem zNn{b count m:Nat}{kind:Int}{l l1 l2:List UInt8}{W:List Val}{w:World}(hk:kind=1∨kind=2)(h:Rd w b l)(hl:l.length<=140737488355328)
  (hm:zBB 2 l=some (m,l1)) (hW:zAq kind m l1=some (W,l2)) (hs:zBM W=false) :
  Calls Tryz.prog 165 #[.pointer (some ⟨b,0,none⟩),.int .i64 kind,.int .i64 count] w fun e w'=>e=dmg/\Gr w w' b:=by
 have TM:=zPL hm
 have YK:=zAo hm
 obtain⟨Zu,Yd⟩:=zBr hW
 have HN:=zA3 (zAT h hl hm (by decide))
 have HP:=zA3 (zRG (b:=b) hk (by omega) (by omega) hW)
 obtain⟨K,X,Y,hX,hY,hXY⟩:=zMO hs
 have hK:K+1<m:=by
  obtain⟨g,_⟩:=zAL hY
  omega
 have HBAD:Hid (∀x y,W[K]?=some x->W[K+1]?=some y->decide (zAh x y<0)=false):=fun x y hx hy=>by
  rw[hX] at hx;rw[hY] at hy
  injection hx with hx;injection hy with hy
  subst hx;subst hy;exact hXY
 have ZS:=zA3 Zu
 clear h hW hs Zu hX hY hXY
 go_enter Tryz.func165,Tryz.ntmps165
 go_wp2_with (first
  | (go_at_call 149;refine(zA0 HN).mono ?_;rintro e w1 ⟨rfl,Hq,Hn⟩)
  | (go_at_call 163;refine(zA0 HP _ Hq).mono ?_;rintro e w2 ⟨v2,rfl,Qi,Hu,Hj⟩;obtain⟨wa,wc,rfl,qp,Fl,Yx⟩:=zAC Qi;rw[zA0 ZS]))
 have Gt:=zA3 (Hn.trans Hj)
 have Qf:=zA3 Yx
 clear Hn Hj Hq Qi Yx Hu
 go_loopw[22] (fun i wr=>∃k:Nat,k<=K+1/\i=.int .i64 (k:Int)/\Below w2.heap.size w2 wr) (fun i _=>m-(intOf i).toNat)
 case atStart=>exact⟨0,Nat.zero_le _,rfl,Below.refl _ _⟩
 case round=>
  obtain⟨k,TO,rfl,QJ⟩:=hrel
  have He:k<m:=by omega
  have h9:(k:Int)<(m:Int):=by omega
  have Jg:=zA3 QJ
  by_cases Gk:k=0
  ·subst Gk
   clear QJ
   go_wp2_with fail
   refine wp_region_quiet_below (by kernel_rfl) (by kernel_rfl) ?_
   repeat (go_big_quiet_step (first
    | (go_at_call 150;exact Calls.regrown_of (zCo _ rfl _))))
   refine wpQuiet_nil ?_
   intro w' Hp
   have hB:Below wr.heap.size wr w':=by obtain⟨p,rfl⟩:=Hp;exact below_regrown _ _ _
   clear Hp
   go_wp2
   go_roundw
   case rel=>exact⟨1,by omega,by go_num,zA2 (zA0 Jg) hB⟩
   case measure=>simp[intOf];omega
  ·obtain⟨j,hj⟩:∃j,k=j+1:=⟨k-1,by omega⟩
   obtain⟨x,hx⟩:∃x,W[j]?=some x:=⟨_,zAf (by rw[zA0 ZS];omega)⟩
   obtain⟨y,hy⟩:∃y,W[k]?=some y:=⟨_,zAf (by rw[zA0 ZS];omega)⟩
   have ZL:Hid (k=K+1->decide (zAh x y<0)=false):=fun e=>by
    have ej:j=K:=by omega
    exact zA0 HBAD x y (by rw[<-ej];exact hx) (by rw[<-e];exact hy)
   obtain⟨vb,vo,rfl,c0,c1,c2⟩:=((zA0 Qf).later QJ).lo hx
   obtain⟨vb',vo',e,d0,d1,d2⟩:=((zA0 Qf).later QJ).lo hy
   injection e with e
   injection e with e1 e2
   subst e1;subst e2
   have ej:(k:Int)-1=(j:Int):=by omega
   have g0:((k:Int) == 0)=false:=by simpa using Gk
   have qy:(j:Int)<(m:Int):=by omega
   have HO:=zA3 (zEJ x y)
   generalize zAh x y=O at ZL HO
   cases hO:decide (O<0) with
   | true=>
    have hkK:k≠K+1:=fun e=>by have:=zA0 ZL e;rw[hO] at this;cases this
    have GL:=zA3 hO
    have k0:=cell_regrown c0
    have k1:=cell_regrown c1
    have k2:=cell_regrown c2
    have k3:=cell_regrown d0
    have k4:=cell_regrown d1
    have k5:=cell_regrown d2
    clear c0 c1 c2 d0 d1 d2 QJ hx hy hj Gk hO
    go_wp2_with fail
    refine wp_region_quiet_below (by kernel_rfl) (by kernel_rfl) ?_
    repeat (go_big_quiet_step (first
     | (go_at_call 104;exact Calls.regrown_of (zA0 HO _))
     | (go_at_call 150;exact Calls.regrown_of (zCo _ (zA0 GL) _))))
    refine wpQuiet_nil ?_
    intro w' Hp
    have hB:Below wr.heap.size wr w':=by obtain⟨p,rfl⟩:=Hp;exact below_regrown _ _ _
    clear Hp
    go_wp2
    go_roundw
    case rel=>exact⟨k+1,by omega,by go_num,zA2 (zA0 Jg) hB⟩
    case measure=>simp[intOf];omega
   | false=>
    have GL:=zA3 hO
    have HS6:Hid (∀w3,Below wr.heap.size wr w3->S6 w3 vb vo j k x y):=fun w3 Hz=>by
     have r3:=((zA0 Qf).later QJ).later Hz
     obtain⟨_,_,e,c0,c1,c2⟩:=r3.lo hx
     injection e with e;injection e with e1 e2;subst e1;subst e2
     obtain⟨_,_,e,d0,d1,d2⟩:=r3.lo hy
     injection e with e;injection e with e1 e2;subst e1;subst e2
     exact⟨c0,c1,c2,d0,d1,d2⟩
    have S0:=zA0 HS6 wr.drew (Below.refl _ _).drew
    have hwj:IntKind.i64.wrap (j:Int)=(j:Int):=by rw[IntKind.wrap_i64];omega
    have hwj2:wrap64 (j:Int)=(j:Int):=by unfold wrap64;omega
    have hj0:(0:Int)<=(j:Int):=by omega
    have Jv:(0:Int)<=(k:Int):=by omega
    clear QJ hx hy hj Gk hO
    go_wp2_with fail
    refine Code.wp_mono (zUY.to (G:=fun w'=>Below wr.heap.size wr w') fun a9 w9 h0 Ho=>?_) ?_
    ·have hG9:=(zA0 Gt).trans ((Gr.of_below (zA0 Jg) b).trans (Gr.of_below Ho b))
     exact⟨h0,rfl,hG9⟩
    refine zAu (S:=fun w':World=>S6 w' vb vo j k x y) (k:=15) (by kernel_rfl) ?_
    refine zA6 (i:=0) (v:=(.int .i64 (k:Int))) [1,2,14,15] rfl (fun _ _ _ h=>h) (Or.inl ⟨by rfl,fun w' hSw=>?_⟩) S0 ?_
    ·dsimp only at hSw;obtain⟨q0,q1,q2,q3,q4,q5⟩:=hSw;go_simp
    try simp only[Act.put,zAI,zAH,zAG]
    refine zA6 (i:=1) (v:=(.bool false)) [2,14,15] rfl (fun _ _ _ h=>h) (Or.inl ⟨by rfl,fun w' hSw=>?_⟩) S0 ?_
    ·dsimp only at hSw;obtain⟨q0,q1,q2,q3,q4,q5⟩:=hSw;go_simp
    try simp only[Act.put,zAI,zAH,zAG]
    refine zA6 (i:=2) (v:=(.bool false)) [14,15] rfl (fun _ _ _ h=>h) (Or.inl ⟨by rfl,fun w' hSw=>?_⟩) S0 ?_
    ·dsimp only at hSw;obtain⟨q0,q1,q2,q3,q4,q5⟩:=hSw;go_simp
    try simp only[Act.put,zAI,zAH,zAG]
    refine zA6 (i:=3) (v:=(.slice (some ⟨vb,vo,none⟩) m wc)) [6,7,12,13,14,15] rfl (fun _ _ _ h=>h) (Or.inl ⟨by rfl,fun w' hSw=>?_⟩) S0 ?_
    ·dsimp only at hSw;obtain⟨q0,q1,q2,q3,q4,q5⟩:=hSw;go_simp
    try simp only[Act.put,zAI,zAH,zAG]
    refine zA6 (i:=4) (v:=(.int .i64 (k:Int))) [5,6,7,12,13,14,15] rfl (fun _ _ _ h=>h) (Or.inl ⟨by rfl,fun w' hSw=>?_⟩) S0 ?_
    ·dsimp only at hSw;obtain⟨q0,q1,q2,q3,q4,q5⟩:=hSw;go_simp
    try simp only[Act.put,zAI,zAH,zAG]
    refine zA6 (i:=5) (v:=(.int .i64 (j:Int))) [6,7,12,13,14,15] rfl (fun _ _ _ h=>h) (Or.inl ⟨by rfl,fun w' hSw=>?_⟩) S0 ?_
    ·dsimp only at hSw;obtain⟨q0,q1,q2,q3,q4,q5⟩:=hSw;go_simp
    try simp only[Act.put,zAI,zAH,zAG]
    refine zA6 (i:=6) (v:=(.pointer (some ⟨vb,vo+j*3,none⟩))) [7,12,13,14,15] rfl (fun _ _ _ h=>h) (Or.inl ⟨by rfl,fun w' hSw=>?_⟩) S0 ?_
    ·dsimp only at hSw;obtain⟨q0,q1,q2,q3,q4,q5⟩:=hSw;go_simp
    try simp only[Act.put,zAI,zAH,zAG]
    refine zA6 (i:=7) (v:=(.agg #[.int .i64 x.k,.int .i64 x.n,.string x.s])) [12,13,14,15] rfl (fun _ _ _ h=>h) (Or.inl ⟨by rfl,fun w' hSw=>?_⟩) S0 ?_
    ·dsimp only at hSw;obtain⟨q0,q1,q2,q3,q4,q5⟩:=hSw;go_simp
    try simp only[Act.put,zAI,zAH,zAG]
    refine zA6 (i:=8) (v:=(.slice (some ⟨vb,vo,none⟩) m wc)) [10,11,12,13,14,15] rfl (fun _ _ _ h=>h) (Or.inl ⟨by rfl,fun w' hSw=>?_⟩) S0 ?_
    ·dsimp only at hSw;obtain⟨q0,q1,q2,q3,q4,q5⟩:=hSw;go_simp
    try simp only[Act.put,zAI,zAH,zAG]
    refine zA6 (i:=9) (v:=(.int .i64 (k:Int))) [10,11,12,13,14,15] rfl (fun _ _ _ h=>h) (Or.inl ⟨by rfl,fun w' hSw=>?_⟩) S0 ?_
    ·dsimp only at hSw;obtain⟨q0,q1,q2,q3,q4,q5⟩:=hSw;go_simp
    try simp only[Act.put,zAI,zAH,zAG]
    refine zA6 (i:=10) (v:=(.pointer (some ⟨vb,vo+k*3,none⟩))) [11,12,13,14,15] rfl (fun _ _ _ h=>h) (Or.inl ⟨by rfl,fun w' hSw=>?_⟩) S0 ?_
    ·dsimp only at hSw;obtain⟨q0,q1,q2,q3,q4,q5⟩:=hSw;go_simp
    try simp only[Act.put,zAI,zAH,zAG]
    refine zA6 (i:=11) (v:=(.agg #[.int .i64 y.k,.int .i64 y.n,.string y.s])) [12,13,14,15] rfl (fun _ _ _ h=>h) (Or.inl ⟨by rfl,fun w' hSw=>?_⟩) S0 ?_
    ·dsimp only at hSw;obtain⟨q0,q1,q2,q3,q4,q5⟩:=hSw;go_simp
    try simp only[Act.put,zAI,zAH,zAG]
    clear S0
    refine zA7 (i:=12) (by kernel_rfl) ?_
    refine zA4 rfl (by rfl) fun K hK=>?_
    go_simp
    refine(zA0 HO _).mono ?_
    rintro e w3 ⟨rfl,Hz⟩
    go_simp
    refine zA0 hK _ _ ⟨fun _=>zA0 HS6 w3 (zA2 (Below.refl _ _).drew Hz),?_⟩
    clear hK K
    refine zA7 (i:=13) (by kernel_rfl) ?_
    refine zA4 rfl (by rfl) fun K hK=>?_
    go_simp
    refine zA0 hK _ _ ⟨fun _=>zA0 HS6 w3 (zA2 (Below.refl _ _).drew Hz),?_⟩
    clear hK K
    refine zA7 (i:=14) (by kernel_rfl) ?_
    refine zA4 rfl (by rfl) fun K hK=>?_
    go_simp
    refine zA0 hK _ _ ⟨fun _=>zA0 HS6 w3 (zA2 (Below.refl _ _).drew Hz),?_⟩
    clear hK K
    refine zA7 (i:=15) (by kernel_rfl) ?_
    refine zA4 rfl (by rfl) fun K hK=>?_
    go_simp
    refine(zDF _ (zA0 GL) _).mono ?_
    rintro e w4 ⟨rfl,rfl⟩
    exact⟨rfl,rfl,zA2 (Below.refl _ _).drew Hz⟩
def zRT(zAB:List Int):Bool:=decide (1<=zAB.length) && decide (zAB.length<=32) && !zAB.any zKy
theorem zRC(zAB:List Int)(ak:Option Addr)(ck:Nat)(rs:List (List Val))(ar:Option Addr)(cr:Nat)(w:World)(hl:zAB.length<=140737488355328)(GC:zAp w ak (zAB.map (Value.int .i64)))(hk:zRT zAB=false) :
  Calls Tryz.prog 6 #[.slice ak zAB.length ck,.slice ar rs.length cr] w fun e w'=>e=.returned (.tuple #[.string ⟨#[]⟩,.int .i64 1])/\Below w.heap.size w w':=by
 have HK:=zH3 zAB ak ck w hl GC
 unfold zRT at hk
 rw[hk] at HK
 have HK2:=zA3 HK
 clear HK
 go_enter Tryz.func6,Tryz.ntmps6
 go_wp2_with (first | (go_at_call 30;refine(zA0 HK2).mono ?_;rintro _ _ ⟨rfl,rfl⟩))
 exact bodyPost_ret (v:=.tuple #[.string ⟨#[]⟩,.int .i64 1]) (by simp[results,Tryz.results6,go_sem]) rfl ⟨rfl,Below.refl _ _⟩
def lgV(x:Val):Bool:=decide (1000<((zA8 x).s.size:Int))
def odV(zAB:List Int)(i:Nat)(x:Val):Bool:=decide (i<zAB.length) && ((zA8 x).k != 0 && (zA8 x).k != zAB.getD i 0)
def odR(zAB:List Int)(r:List Val)(j:Nat):Bool:=(List.range j).any fun i=>odV zAB i (r.getD i .null)
def odA(zAB:List Int)(r:List Val):Bool:=((r.length:Int) != (zAB.length:Int)) || odR zAB r r.length
theorem zGT{α:Type}{l:List α}{k:Nat}{x:α}(p:α->Bool)(h:l[k]?=some x):(l.take (k+1)).any p=((l.take k).any p || p x):=by
 obtain⟨h1,rfl⟩:=zAL h
 rw[List.take_succ_eq_append_getElem h1,List.any_append]
 simp only[List.any_cons,List.any_nil,Bool.or_false]
theorem zRa(zAB:List Int)(r:List Val)(j:Nat){x:Val}(h:r[j]?=some x):odR zAB r (j+1)=(odR zAB r j || odV zAB j x):=by
 unfold odR
 rw[List.range_succ,List.any_append]
 simp[h]
theorem zHs{P:Program}{c:Code}{Q:Exit->Act->World->Prop}{a:Act}{w:World}(F:World->Prop)(h:F w)(k:∀W,F W->c.wp P Q a W):c.wp P Q a w:=k w h
structure zUV(zAB:List Int)(rs:List (List Val))(j:Nat)(lo od:Bool):Prop where
 lo:lo=(decide (4096<(rs.length:Int)) || (rs.take j).any fun r=>r.any lgV)
 od:od=(rs.take j).any (odA zAB)
def loM(rs:List (List Val)):Bool:=decide (4096<(rs.length:Int)) || rs.any fun r=>r.any lgV
def odM(zAB:List Int)(rs:List (List Val)):Bool:=rs.any (odA zAB)
structure RLaw(K:Vc->ByteArray->Prop)(zf:Vc->ByteArray)(X:Vc):Prop where
 pk:∀p W s,zAi W X p->K X s->Calls Tryz.prog 34 #[zCC X p] W fun e w'=>e=.returned (.tuple #[.string s,.int .i64 0])/\Below W.heap.size W w'
 sp:∃(L G:Val) (N:Nat),zf X=zJ3 L G N/\L.s.size<=1000000/\G.s.size<=1000000/\∀p W,zAi W X p->Calls Tryz.prog 35 #[zCC X p] W fun e w'=>e=.returned (.tuple #[L.v,G.v,.int .i64 (N:Int)])/\Below W.heap.size W w'
theorem zKQ{a b:ByteArray}(h:a.toList=b.toList):a=b:=by
 have h2:a.data.toList=b.data.toList:=by rw[<-ByteArray.toList_eq,<-ByteArray.toList_eq,h]
 exact ByteArray.ext (Array.toList_inj.1 h2)
theorem zGS(a b:ByteArray):(a.toList == b.toList)=decide (a=b):=by
 by_cases h:a=b
 ·subst h;simp
 ·simp only[h,decide_false]
  exact beq_eq_false_iff_ne.2 fun e=>h (zKQ e)
theorem zJm(s:ByteArray)(hs:s.size<=140737488300000)(w:World):Calls Tryz.prog 70 #[.string s] w fun e w'=>e=.returned (.bool (decide (4<=s.size) && decide (zFe (s.extract 0 (s.size-4))=s)))/\Below w.heap.size w w':=by
 by_cases h4:4<=s.size
 ·have i4:(4:Int)<=(s.size:Int):=by omega
  have e4:((s.size:Int)-4).toNat=s.size-4:=by omega
  have H:=zA3 (fun W=>zHW (s.extract 0 (s.size-4)) (by simp;omega) W)
  go_enter Tryz.func70,Tryz.ntmps70
  go_wp2_with (first | (go_at_call 60;refine(zA0 H _).mono ?_;rintro _ w1 ⟨rfl,Hb⟩))
  exact bodyPost_ret (v:=.bool ((zFe (s.extract 0 (s.size-4))).toList == s.toList)) (by simp[results,Tryz.results70,go_sem]) rfl ⟨by rw[zGS];simp[h4],Hb⟩
 ·have i4:¬(4:Int)<=(s.size:Int):=by omega
  go_enter Tryz.func70,Tryz.ntmps70
  go_wp2
  exact bodyPost_ret (v:=.bool false) (by simp[results,Tryz.results70,go_sem]) rfl ⟨by simp[h4],Below.refl _ _⟩
theorem zOJ(b o n:Nat)(r:ByteArray)(hr:r.size<=140737488300000)(hn:n<18446744073709551616)(w:World)(hw:w.cell? ⟨b,o,none⟩=some (.string r))(hf:w.frozen? ⟨b,o,none⟩=false) :
  Calls Tryz.prog 92 #[.pointer (some ⟨b,o,none⟩),.int .u64 n] w fun e w'=>e=.returned (.string (r.extract 0 (min n r.size)))/\w'=w.setCell ⟨b,o,none⟩ (.string (r.extract (min n r.size) r.size)):=by
 have hw8:IntKind.u64.wrap (r.size:Int)=(r.size:Int):=by rw[IntKind.wrap_u64,Int.emod_eq_of_lt (by omega) (by omega)]
 by_cases h:r.size<n
 ·have h2:min n r.size=r.size:=by omega
  rw[h2]
  have h3:min (n:Int) (r.size:Int)=(r.size:Int):=by omega
  go_enter Tryz.func92,Tryz.ntmps92
  go_wp2
  exact bodyPost_ret (v:=.string r) (by simp[results,Tryz.results92,go_sem]) rfl ⟨by simp,by simp⟩
 ·have h2:min n r.size=n:=by omega
  rw[h2]
  have h3:min (n:Int) (r.size:Int)=(n:Int):=by omega
  go_enter Tryz.func92,Tryz.ntmps92
  go_wp2
  exact bodyPost_ret (v:=.string (r.extract 0 n)) (by simp[results,Tryz.results92,go_sem]) rfl ⟨rfl,rfl⟩
set_option maxHeartbeats 1000000
def SRd(w:World)(b:Nat)(l:List UInt8):Prop:=w.rowIs b 139 1 fun _=>.string (bs l)
theorem SRd.cell{w:World}{b:Nat}{l:List UInt8}(h:SRd w b l):w.cell? ⟨b,0,none⟩=some (.string (bs l)):=World.rowIs.cell h (by decide)
theorem SRd.set{w:World}{b:Nat}{l:List UInt8}(h:SRd w b l)(l':List UInt8):SRd (w.setCell ⟨b,0,none⟩ (.string (bs l'))) b l':=
 World.rowIs.congr (World.rowIs.set h 0 (.string (bs l'))) (fun i hi => by have : i = 0 := by omega
                                                                           subst this; simp)
theorem zU0(b n:Nat)(l:List UInt8)(w:World)(h:SRd w b l)(hl:l.length<=140737488300000)(hn:n<18446744073709551616) :
  Calls Tryz.prog 92 #[.pointer (some ⟨b,0,none⟩),.int .u64 n] w fun e w'=>e=.returned (.string (bs (l.take n)))/\w'=w.setCell ⟨b,0,none⟩ (.string (bs (l.drop n))):=by
 refine(zOJ b 0 n (bs l) (by rw[zBV];exact hl) hn w h.cell (World.rowIs.frozen h 0)).mono ?_
 rintro e w' ⟨rfl,rfl⟩
 rw[zBV,zIq l _ (by omega),zHD]
 by_cases hc:n<=l.length
 ·rw[Nat.min_eq_left hc];exact⟨rfl,rfl⟩
 ·rw[Nat.min_eq_right (by omega),List.take_of_length_le (i:=l.length) (by omega),List.drop_of_length_le (i:=l.length) (by omega),List.take_of_length_le (by omega),List.drop_of_length_le (by omega)]
  exact⟨rfl,rfl⟩
theorem zTt(b n:Nat)(l:List UInt8)(w:World)(h:SRd w b l)(hl:l.length<=140737488300000)(h8:n<=8) :
  Calls Tryz.prog 93 #[.pointer (some ⟨b,0,none⟩),.int .u64 n] w fun e w'=>e=.returned (.int .u64 (beV (l.take n)))/\SRd w' b (l.drop n)/\Gr w w' b:=by
 have HT:=zA3 (zU0 b n l w h hl (by omega))
 obtain⟨m,hL⟩:∃m,(l.take n).length=m:=⟨_,rfl⟩
 have hm:m<=8:=by rw[<-hL,List.length_take];omega
 obtain⟨W2,c,Qm,hb,HC⟩:=zHx (l.take n) (w.setCell ⟨b,0,none⟩ (.string (bs (l.drop n))))
 rw[hL] at Qm
 have HR:Hid (SRd W2 b (l.drop n)/\Gr w W2 b):=⟨World.rowIs.of_block (h.set (l.drop n)) (hb.block b (h.set (l.drop n)).lt),(Gr.set w b _).trans (Gr.of_below hb b)⟩
 have HB:=zA3 hb
 have Dz:=zA3 HC
 have HL:=zA3 hL
 clear hb HC hL h
 go_enter Tryz.func93,Tryz.ntmps93
 go_wp2_with (go_at_call 92;refine(zA0 HT).mono ?_;rintro e w' ⟨rfl,rfl⟩)
 go_loop[5,13] (fun x i=>∃k:Nat,k<=m/\i=.int .i64 (k:Int)/\x=.int .u64 (beV ((l.take n).take k))) (fun _ i=>m-(intOf i).toNat)
 case atStart=>exact⟨0,Nat.zero_le _,rfl,rfl⟩
 case round=>
  obtain⟨k,hk,rfl,rfl⟩:=hrel
  by_cases He:k<m
  ·have h9:(k:Int)<(m:Int):=by omega
   obtain⟨x,hx⟩:∃x,(l.take n)[k]?=some x:=⟨_,zAf (by rw[zA0 HL];exact He)⟩
   have hc:=zA0 Dz k x hx
   simp at hc
   have HN:Hid (beV ((l.take n).take (k+1))=beV ((l.take n).take k)*256+x.toNat):=by
    obtain⟨g1,rfl⟩:=zAL hx
    show _=_
    rw[List.take_succ_eq_append_getElem g1,zE0]
   have Zm:beV ((l.take n).take k)<72057594037927936:=by
    have h1:=zBn ((l.take n).take k)
    have h2:((l.take n).take k).length<=7:=by rw[List.length_take,zA0 HL];omega
    have h3:256 ^ ((l.take n).take k).length<=256 ^ 7:=Nat.pow_le_pow_right (by decide) h2
    have h4:(256:Nat) ^ 7=72057594037927936:=by decide
    omega
   have HO:=zA3 (zKr _ x.toNat Zm x.toNat_lt)
   clear hx Zm
   go_wp2
   refine⟨⟨k+1,by omega,by go_num,?_⟩,by simp[intOf];omega⟩
   exact congrArg (Value.int .u64) ((zA0 HO).trans (by rw[zA0 HN]))
  ·have h9:¬(k:Int)<(m:Int):=by omega
   have e:(l.take n).take k=l.take n:=List.take_of_length_le (by rw[zA0 HL];omega)
   have E:=zA3 e
   clear e
   go_wp2
   go_ret
   exact⟨by rw[zA0 E];rfl,zA0 HR⟩
end Go.Proofs.YtekgpapophibcaaGreat
