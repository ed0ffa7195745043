import Derived.Test.YtekgpapophibcaaGreatRdO
set_option linter.unusedSimpArgs false
set_option linter.unusedVariables false
set_option maxHeartbeats 8000000
set_option maxRecDepth 100000
namespace Go.Proofs.YtekgpapophibcaaGreat
open Go.RowKit Go.Sort
def zCl(least:Int)(x:Val):Nat:=((x.n-least) % 18446744073709551616).toNat
theorem zKu(least:Int)(x:Val):zCl least x<18446744073709551616:=by unfold zCl;omega
theorem zJe(least:Int)(x:Val):IntKind.u64.wrap (IntKind.u64.wrap x.n-IntKind.u64.wrap least)=(zCl least x:Int):=by
 simp only[IntKind.wrap_u64,zCl]
 omega
def zCQ:List Val->Int
 | []=>0
 | x::xs=>(zBH x xs).n
def zHM(least:Int)(xs:List Val):Nat:=xs.foldl (fun m x=>max m (bl (zCl least x))) 0
theorem zNw{least:Int}{xs:List Val}{k:Nat}{x:Val}(h:xs[k]?=some x):zHM least (xs.take (k+1))=max (zHM least (xs.take k)) (bl (zCl least x)):=by
 obtain⟨h1,rfl⟩:=zAL h
 unfold zHM
 rw[List.take_succ_eq_append_getElem h1,List.foldl_append]
 rfl
theorem zNv(least:Int):∀(xs:List Val) (m:Nat),m<=64->xs.foldl (fun m x=>max m (bl (zCl least x))) m<=64
 | [],m,h=>h
 | x::xs,m,h=>by
  rw[List.foldl_cons]
  refine zNv least xs _ ?_
  have:bl (zCl least x)<=64:=zFr (by have:=zKu least x;simpa using this)
  omega
theorem zIA(least:Int)(xs:List Val):zHM least xs<=64:=zNv least xs 0 (by omega)
theorem zNu(least:Int):∀(xs:List Val) (m:Nat),m<=xs.foldl (fun m x=>max m (bl (zCl least x))) m/\∀x∈xs,bl (zCl least x)<=xs.foldl (fun m x=>max m (bl (zCl least x))) m
 | [],m=>⟨Nat.le_refl _,fun x h=>by cases h⟩
 | x::xs,m=>by
  rw[List.foldl_cons]
  obtain⟨h1,h2⟩:=zNu least xs (max m (bl (zCl least x)))
  refine⟨by omega,fun y hy=>?_⟩
  rcases List.mem_cons.1 hy with rfl|hy
  ·omega
  ·exact h2 y hy
theorem zNx{least:Int}{xs:List Val}{x:Val}(h:x∈xs):zCl least x<2 ^ zHM least xs:=by
 have h1:=(zNu least xs 0).2 x h
 exact Nat.lt_of_lt_of_le (zQM _) (Nat.pow_le_pow_right (by decide) h1)
def zFj(least:Int)(xs:List Val):List Int:=(beL (IntKind.u64.wrap least) 8 8++beL (zHM least xs:Int) 1 1)++leB (zBG (zHM least xs) (xs.map (zCl least))) (zAO xs.length (zHM least xs))
theorem zNT(base b0:Nat)(zs:List Int)(xs:List Val)(vv v:Value)(w:World)(Hd:zBC w base v zs)(Hf:zs.length<=1000000)(hl:xs.length<=4096)(Hv:base<=w.heap.size)(ha:zAV w b0 vv xs) :
  Calls Tryz.prog 119 #[v,vv] w fun e w'=>∃v',e=.returned v'/\zBC w' base v' (zs++zFj (zCQ xs) xs)/\zAt w w' v v':=by
 obtain⟨i6,YL,z60,z61,z62⟩:=info_parts Tryz.info73
 obtain⟨aa,ca,rfl,YJ,GU,Hk⟩:=zAC ha
 have yc:∀g,v.ownBlock=some g->g<w.heap.size:=fun g hg=>(zBN Hd hg).2
 obtain⟨ls,DP⟩:∃ls,Hid (ls=zCQ xs):=⟨_,rfl⟩
 rw[<-zA0 DP]
 obtain⟨ns,qv⟩:∃ns,Hid (ns=xs.map (zCl ls)):=⟨_,rfl⟩
 have YA:Hid (ns.length=xs.length):=by show _=_;rw[zA0 qv];simp
 have Yi:=zA3 Hd
 have Qf:=zA3 Hk
 have KO:=zA3 yc
 have JE:Hid (∀ad,aa=some ad->v.ownBlock≠some ad.block):=fun ad e=>zC3 Hd ha ad.block (by rw[e];rfl)
 have H5:Hid (∀W,Below w.heap.size w W->Calls Tryz.prog 113 #[v,.int .u64 (IntKind.u64.wrap ls),.int .i64 8] W fun e w'=>∃v',e=.returned v'/\zBC w' base v' (zs++beL (IntKind.u64.wrap ls) 8 8)/\zAt W w' v v'):=fun W hW=>
  zBv base zs _ 8 v W (by omega) (zAc Hd hW) (by omega) (by have:=hW.size;omega)
 have H6:Hid (∀W v' (D:Nat),base<=W.heap.size->zBC W base v' (zs++beL (IntKind.u64.wrap ls) 8 8)->Calls Tryz.prog 113 #[v',.int .u64 (D:Int),.int .i64 1] W fun e w'=>∃v3,e=.returned v3/\zBC w' base v3 (zs++(beL (IntKind.u64.wrap ls) 8 8++beL (D:Int) 1 1))/\zAt W w' v' v3):=fun W v' D hW hO=>
  (zBv base _ (D:Int) 1 v' W (by omega) hO (by rw[zAX,zAK];omega) hW).mono fun e w' ⟨v3,he,h1,h2⟩=>⟨v3,he,by rw[<-List.append_assoc];exact h1,h2⟩
 cases ZT:xs with
 | nil=>
  subst ZT
  have e0:ls=0:=zA0 DP
  have HW0:Hid (IntKind.u64.wrap ls=0):=by show _=_;rw[e0];rfl
  have H7:Hid (∀W v8,zBC W base v8 (zs++(beL (IntKind.u64.wrap ls) 8 8++beL ((0:Nat):Int) 1 1))->zAt w W v v8->zAp W (some ⟨w.heap.size,0,none⟩) (([]:List Nat).map fun n:Nat=>Value.int .u64 (n:Int))->v8.ownBlock≠some w.heap.size->Calls Tryz.prog 140 #[v8,.slice (some ⟨w.heap.size,0,none⟩) 0 0,.int .i64 0] W fun e w'=>∃v3,e=.returned v3/\zBC w' base v3 (zs++zFj ls [])/\zAt w w' v v3):=fun W v8 o1 o2 l1 l2=>by
   have:=zEg base _ (some ⟨w.heap.size,0,none⟩) 0 [] 0 v8 W o1 (by rw[zAX,zAX,zAK,zAK];omega) (by simp) (by omega) (fun n hn=>by cases hn) (by have:=o2.1.size;omega) l1 (fun ad e=>by injection e with e;subst e;exact l2)
   refine this.mono fun e w' ⟨v3,he,h5,h6⟩=>⟨v3,he,?_,o2.trans h6⟩
   rw[zFj,<-List.append_assoc]
   exact h5
  rw[zA0 HW0] at H5 H6 H7
  clear Hd Hk yc ha GU YJ
  go_enter Tryz.func119,Tryz.ntmps119
  go_wp2_with (first
   | (at_make;refine wpList_make_row _ rfl (.tmp 17) (.tmp 17) 115 rfl 73 i6 (.int .u64 0) Tryz.underlying115 YL z60 z61 rfl .i64 .i64 0 rfl rfl (by rw[z62];omega) (by omega) ?_)
   | fail)
  refine wp_loop_rounds 1 ?_
  rw[rounds_succ]
  have bl:=zA1 (Below.refl _ w) (.cells (madeCells #[.int .u64 0] 0) 73)
  have H5w:=zA3 (zA0 H5 _ bl)
  have H6b:=zA3 (fun W v' hW h1=>zA0 H6 W v' 0 hW h1)
  have HGB:=zA3 (zAt.of_below bl v)
  have JH:Hid (∀W v8,zAt (w.alloc (.cells (madeCells #[.int .u64 0] 0) 73)) W v v8->v8.ownBlock≠some w.heap.size):=fun W v8 h2 e=>by
   rcases h2.2 with h3|⟨g,h3,h4⟩
   ·rw[e] at h3
    have:=zA0 KO _ h3.symm
    omega
   ·rw[e] at h3
    injection h3 with h3
    simp at h4
    omega
  clear bl H5 H6
  go_wp2_with (first
   | (go_at_call_of 113 v;refine(zA0 H5w).mono ?_;rintro e w2 ⟨v2,rfl,g1,g2⟩;replace g1:=zA3 g1;replace g2:=zA3 g2;have Hh:base<=w2.heap.size:=(by have:=(zA0 g2).1.size;simp at this;omega))
   | (go_at_call 113;refine(zA0 H6b _ _ Hh (zA0 g1)).mono ?_;rintro e w3 ⟨v3,rfl,g3,g4⟩;replace g3:=zA3 g3;replace g4:=zA3 g4)
   | (go_at_call 140;refine(zA0 H7 _ _ (zA0 g3) ((zA0 HGB).trans ((zA0 g2).trans (zA0 g4))) (.inl rfl) (zA0 JH _ _ ((zA0 g2).trans (zA0 g4)))).mono ?_;rintro e w4 ⟨v4,rfl,h5,h6⟩))
  go_ret
  exact⟨_,rfl,h5,h6⟩
 | cons x0 ys=>
  have Dr:=zA3 (zQg aa ca x0 ys w (by rw[<-ZT];omega) (by rw[<-ZT];exact Hk))
  rw[<-ZT] at Dr ⊢
  have HLS:Hid ((zBH x0 ys).n=ls):=by show _=_;rw[zA0 DP,ZT];rfl
  rw[Val.open_] at Dr
  rw[zA0 HLS] at Dr
  have h0:(0:Int)<(xs.length:Int):=by rw[ZT,List.length_cons];omega
  generalize (zBH x0 ys).k=mk at *
  generalize (zBH x0 ys).s=ms at *
  clear ZT HLS Hd Hk yc ha GU YJ
  have hfd:∀W:World,(Instr.field 59 (.agg #[.int .i64 mk,.int .i64 ls,.string ms]) 1).run Tryz.prog W=.ok (.int .i64 ls) W:=fun _=>by kernel_rfl
  go_enter Tryz.func119,Tryz.ntmps119
  go_wp2_with (first
   | (go_at_call 147;refine(zA0 Dr).mono ?_;rintro e w1 ⟨rfl,Hb⟩;replace Hb:=zA3 Hb)
   | (at_make;refine wpList_make_row _ rfl (.tmp 17) (.tmp 17) 115 rfl 73 i6 (.int .u64 0) Tryz.underlying115 YL z60 z61 rfl .i64 .i64 xs.length rfl rfl (by rw[z62];omega) (by omega) ?_)
   | fail)
  have Kz:=zA3 ((zA0 Qf).later (zA0 Hb))
  have TG:=(zA0 Hb).size
  go_loopw[7,21] (fun s7 s wr=>∃k:Nat,k<=xs.length/\s=.int .i64 (k:Int)/\s7=.int .i64 (zHM ls (xs.take k):Nat)/\wr.rowIs w1.heap.size 73 xs.length (zPJ ns k)/\Below w1.heap.size w1 wr) (fun _ s _=>xs.length-(intOf s).toNat)
  case atStart=>exact⟨0,Nat.zero_le _,rfl,rfl,(World.rowIs_made w1 (.int .u64 0) xs.length 73).congr fun j hj=>by simp[zPJ],zA1 (Below.refl _ _) _⟩
  case round=>
   obtain⟨k,hk,rfl,rfl,hr,hb⟩:=hrel
   by_cases h8:k<xs.length
   ·have h9:(k:Int)<(xs.length:Int):=by omega
    obtain⟨x,hx⟩:∃x,xs[k]?=some x:=⟨_,zAf h8⟩
    rcases(zA0 Kz).later hb with e|⟨rb,ro,rfl,hc⟩
    ·rw[e] at hx;cases hx
    obtain⟨c0,c1,c2⟩:=hc k x hx
    have yJ:ns[k]?=some (zCl ls x):=by rw[zA0 qv];simp[hx]
    have HM:=zA3 (zJf yJ)
    have hw1:=zJe ls x
    have YV:=zKu ls x
    have HWN:=zA3 (zNw (least:=ls) hx)
    have GS:=zIA ls (xs.take k)
    have hwl2:bl (zCl ls x)<=64:=zFr (by simpa using YV)
    have HL:=zA3 (fun W=>zGz (zCl ls x) W YV)
    generalize zCl ls x=pp at *
    obtain⟨WN,hWN⟩:∃WN,Hid (WN=zHM ls (xs.take (k+1))):=⟨_,rfl⟩
    rw[<-zA0 hWN] at HWN
    generalize zHM ls (xs.take k)=wd at *
    generalize bl pp=bb at *
    have emax:(if wd<bb then (bb:Int) else (wd:Int))=(WN:Int):=by rw[zA0 HWN];split<;>omega
    have HR1r:=zA3 hr
    have HB1r:=zA3 hb
    have DY:=hr.cell h8
    have hfw:=hr.frozen k
    have Qz:=zA3 (zA1 hb (.cells #[.int .i64 x.k,.int .i64 x.n,.string x.s] 59))
    have TF:=hb.size
    have TN:=hr.lt
    clear hc hx hr hb yJ
    go_wp2_with (go_at_call 148;refine(zA0 HL _).mono ?_;rintro e w9 ⟨rfl,rfl⟩)
    go_roundw
    case rel=>
     refine⟨k+1,by omega,by go_num,?_,(((zA0 HR1r).set k (.int .u64 (pp:Int))).alloc _).congr fun j hj=>?_,zA1 ((zA0 HB1r).setCell (p:=⟨w1.heap.size,k,none⟩) (Nat.le_refl _) _) _⟩
     ·rw[<-zA0 hWN,zA0 HWN]
      congr 1
      omega
     ·rw[zA0 HM j]
    case measure=>first | (simp[intOf];omega) | (simp only[intOf];omega)
   ·have h9:¬(k:Int)<(xs.length:Int):=by omega
    have Qk:k=xs.length:=by omega
    rw[Qk,<-zA0 YA] at hr
    rw[Qk,List.take_length]
    have Qv:=zLl hr
    have Qn:=zA2 (zA0 Hb) hb
    have TN:=hr.lt
    have Hi:Hid (∀w' v',zAt wr w' v v'->zAp w' (some ⟨w1.heap.size,0,none⟩) (ns.map fun n:Nat=>Value.int .u64 (n:Int))/\v'.ownBlock≠some w1.heap.size):=fun w' v' h2=>by
     refine⟨Qv.grew h2 (fun ad e=>?_),fun e=>?_⟩
     ·injection e with e
      subst e
      intro h3
      have:=zA0 KO _ h3
      simp at this
      omega
     ·rcases h2.2 with h3|⟨g,h3,h4⟩
      ·rw[e] at h3
       have:=zA0 KO _ h3.symm
       omega
      ·rw[e] at h3
       injection h3 with h3
       omega
    have H5w:=zA3 (zA0 H5 wr Qn)
    have GS:=zIA ls xs
    have HD7:Hid (∀n∈ns,n<2 ^ zHM ls xs):=fun n hn=>by
     rw[zA0 qv] at hn
     obtain⟨x,hx,rfl⟩:=List.mem_map.1 hn
     exact zNx hx
    obtain⟨RR,Gb⟩:∃RR,Hid (RR=zFj ls xs):=⟨_,rfl⟩
    have HOF:Hid (RR=(beL (IntKind.u64.wrap ls) 8 8++beL (zHM ls xs:Int) 1 1)++leB (zBG (zHM ls xs) ns) (zAO xs.length (zHM ls xs))):=by show _=_;rw[zA0 Gb,zFj,zA0 qv]
    generalize zHM ls xs=D at *
    have H7:Hid (∀W v8,zBC W base v8 (zs++(beL (IntKind.u64.wrap ls) 8 8++beL (D:Int) 1 1))->zAt wr W v v8->Calls Tryz.prog 140 #[v8,.slice (some ⟨w1.heap.size,0,none⟩) xs.length xs.length,.int .i64 (D:Int)] W fun e w'=>∃v3,e=.returned v3/\zBC w' base v3 (zs++RR)/\zAt w w' v v3):=fun W v8 o1 o2=>by
     obtain⟨l1,l2⟩:=zA0 Hi W v8 o2
     have:=zEg base _ (some ⟨w1.heap.size,0,none⟩) xs.length ns D v8 W o1 (by rw[zAX,zAX,zAK,zAK];omega) (by rw[zA0 YA];omega) GS (zA0 HD7) (by have:=o2.1.size;have:=Qn.size;omega) l1 (fun ad e=>by injection e with e;subst e;exact l2)
     rw[zA0 YA] at this
     refine this.mono fun e w' ⟨v3,he,h5,h6⟩=>⟨v3,he,?_,((zAt.of_below Qn v).trans o2).trans h6⟩
     rw[zA0 HOF,<-List.append_assoc]
     exact h5
    have hD4:(D:Int)<=64:=by omega
    have hbs:base<=wr.heap.size:=by have:=Qn.size;omega
    have H6b:=zA3 (fun W v' hW h1=>zA0 H6 W v' D hW h1)
    clear hr hb Qv Qk GS H6 H5
    go_wp2_with (first
     | (go_at_call_of 113 v;refine(zA0 H5w).mono ?_;rintro e w2 ⟨v2,rfl,g1,g2⟩;replace g1:=zA3 g1;replace g2:=zA3 g2;have Hh:base<=w2.heap.size:=(by have:=(zA0 g2).1.size;omega))
     | (go_at_call 113;refine(zA0 H6b _ _ Hh (zA0 g1)).mono ?_;rintro e w3 ⟨v3,rfl,g3,g4⟩;replace g3:=zA3 g3;replace g4:=zA3 g4)
     | (go_at_call 140;refine(zA0 H7 _ _ (zA0 g3) ((zA0 g2).trans (zA0 g4))).mono ?_;rintro e w4 ⟨v4,rfl,h5,h6⟩))
    go_ret
    exact⟨_,rfl,by rw[<-zA0 Gb];exact h5,h6⟩
theorem zLi{w:World}{b b' e s n:Nat}{v:Value}{xs:List Value}(h:w.ownsRow b e s v n xs)(hb:b'<=b):w.ownsRow b' e s v n xs:=by
 refine⟨h.1,?_⟩
 rcases h.2 with h1|⟨g,cap,cur,e1,h2,rest⟩
 ·exact .inl h1
 ·exact .inr ⟨g,cap,cur,e1,Nat.le_trans hb h2,rest⟩
def zB2(sch kd:Nat)(xs:List Val):List Int:=((beL (sch:Int) 1 1++beL (kd:Int) 1 1)++beL (xs.length:Int) 4 4)++zBT xs
def zEj(sch:Nat)(ys:List Val)(b:List Int):Prop:=
 (sch=1/\b=zBO ys)∨(sch=2/\b=beL (zCE ys.length ys:Int) 4 4++zC2 ys.length ys)∨(sch=3/\∃W,zBW ys W/\b=zDA W ys)∨(sch=4/\b=zFj (zCQ ys) ys)
def St(w:World)(b0:Nat)(vv:Value)(xs:List Val)(W:World)(v:Value)(zs:List Int):Prop:=zBC W w.heap.size v zs/\Below w.heap.size w W/\zAV W b0 vv xs
theorem St.grew{w:World}{b0:Nat}{vv:Value}{xs:List Val}{W W':World}{v v':Value}{zs zs':List Int}(h:St w b0 vv xs W v zs)(hO:zBC W' w.heap.size v' zs')(hg:zAt W W' v v'):St w b0 vv xs W' v' zs':=
 ⟨hO,h.2.1.trans (hg.below h.2.1.size fun g e=>(zBN h.1 e).1),h.2.2.grew hg (zC3 h.1 h.2.2)⟩
theorem St.num{w:World}{b0:Nat}{vv:Value}{xs:List Val}{W:World}{v:Value}{zs:List Int}(h:St w b0 vv xs W v zs)(U:Int)(n:Nat)(hn:n<=8)(hz:zs.length<=1000) :
  Calls Tryz.prog 113 #[v,.int .u64 U,.int .i64 n] W fun e w'=>∃v',e=.returned v'/\St w b0 vv xs w' v' (zs++beL U n n):=
 (zBv w.heap.size zs U n v W hn h.1 (by omega) h.2.1.size).mono fun e w' ⟨v',he,h1,h2⟩=>⟨v',he,h.grew h1 h2⟩
theorem zDc(xs:List Val)(h:xs.length<=4096):(zBT xs).length<=520:=by
 unfold zBT
 split
 ·rw[zAX,zAK,zBw]
  unfold zAO
  omega
 ·rw[zAK];omega
theorem zRb{w:World}{b0:Nat}{aa:Option Addr}{ca:Nat}{xs:List Val}{W:World}{v:Value}{zs:List Int}(h:St w b0 (.slice aa xs.length ca) xs W v zs)(hl:xs.length<=4096)(hz:zs.length<=1000) :
  Calls Tryz.prog 114 #[v,.slice aa xs.length ca] W fun e w'=>∃v',e=.returned v'/\St w b0 (.slice aa xs.length ca) xs w' v' (zs++zBT xs):=by
 obtain⟨a1,c1,e1,_,_,hr⟩:=zAC h.2.2
 injection e1 with e1 _ e2
 subst e1 e2
 exact(zLH w.heap.size zs aa ca xs v W h.1 (by omega) hl h.2.1.size hr).mono fun e w' ⟨v',he,h1,h2⟩=>⟨v',he,h.grew h1 h2⟩
theorem zRz{w:World}{b0:Nat}{aa:Option Addr}{ca:Nat}{xs:List Val}{W:World}{v:Value}{zs:List Int}(h:St w b0 (.slice aa xs.length ca) xs W v zs)(hl:xs.length<=4096) :
  Calls Tryz.prog 116 #[.slice aa xs.length ca] W fun e w'=>∃v',e=.returned v'/\zBC w' w.heap.size v zs/\Below w.heap.size w w'/\zAV w' w.heap.size v' xs:=by
 obtain⟨a1,c1,e1,Jj,hn,hr⟩:=zAC h.2.2
 injection e1 with e1 _ e2
 subst e1 e2
 exact(zHP aa ca xs W (by omega) Jj hr hn).mono fun e w' ⟨v',he,h1,h2⟩=>⟨v',he,zAc h.1 h2,zA2 h.2.1 h2,zLi h1 h.2.1.size⟩
theorem zQ5{w:World}{v9:Value}{xs:List Val}{W:World}{v:Value}{zs:List Int}(h:zBC W w.heap.size v zs/\Below w.heap.size w W/\zAV W w.heap.size v9 xs)(hl:xs.length<=4096) :
  Calls Tryz.prog 115 #[v9,.func (.func 103) #[] #[]] W fun e w'=>∃v',e=.returned v'/\zBC w' w.heap.size v zs/\Below w.heap.size w w'/\zAV w' w.heap.size v' (zAA xs):=
 (zKK w.heap.size xs v9 W (by omega) h.2.2).mono fun e w' ⟨v',he,h1,h2⟩=>⟨v',he,h.1.grew h2 (fun g e1 e2=>zC3 h.1 h.2.2 g e2 e1),h.2.1.trans (h2.below h.2.1.size fun g e=>(World.ownsRow.lt h.2.2 g e).1),h1⟩
theorem zEc{w W w':World}{v v':Value}{zs:List Int}(h:zBC W w.heap.size v zs)(hb:Below w.heap.size w W)(hg:zAt W w' v v'):Below w.heap.size w w':=hb.trans (hg.below hb.size fun g e=>(zBN h e).1)
theorem zTo(sch:Nat){w:World}{v10:Value}{ys:List Val}{W:World}{v:Value}{zs:List Int}(h:zBC W w.heap.size v zs/\Below w.heap.size w W/\zAV W w.heap.size v10 ys)(hl:ys.length<=4096)(hs:∀x∈ys,x.s.size<=1000)(hz:zs.length<=1000000)(f:Nat)(hf:(sch=1/\f=120)∨(sch=2/\f=117)∨(sch=3/\f=118)∨(sch=4/\f=119)) :
  Calls Tryz.prog f #[v,v10] W fun e w'=>∃v' b,e=.returned v'/\zEj sch ys b/\zBC w' w.heap.size v' (zs++b)/\Below w.heap.size w w':=by
 obtain⟨h1,h2,h3⟩:=h
 have Ym:=zC3 h1 h3
 obtain⟨aa,ca,rfl,Jj,hn,hr⟩:=zAC h3
 have Qq:ys.length<=ca:=by
  rcases h3.2 with ⟨e,_⟩|⟨g,cap,cur,e,_,_,hc,_⟩
  ·injection e with _ e1 e2;omega
  ·injection e with _ e1 e2;omega
 rcases hf with ⟨rfl,rfl⟩|⟨rfl,rfl⟩|⟨rfl,rfl⟩|⟨rfl,rfl⟩
 ·exact(zGC w.heap.size zs aa ca ys v W h1 (by omega) hs h2.size hr (fun ad e=>Ym ad.block (by rw[e];rfl))).mono fun e w' ⟨v',he,q1,q2⟩=>⟨v',_,he,.inl ⟨rfl,rfl⟩,q1,zEc h1 h2 q2⟩
 ·exact(zOZ w.heap.size zs aa ca ys v W h1 hl Qq hz hs h2.size hr (fun ad e=>Ym ad.block (by rw[e];rfl))).mono fun e w' ⟨v',he,q1,q2⟩=>⟨v',_,he,.inr (.inl ⟨rfl,rfl⟩),q1,zEc h1 h2 q2⟩
 ·exact(zLF w.heap.size w.heap.size zs ys _ v W h1 hz hl hs h2.size h3).mono fun e w' ⟨Wd,v',hW,he,q1,q2⟩=>⟨v',_,he,.inr (.inr (.inl ⟨rfl,Wd,hW,rfl⟩)),q1,zEc h1 h2 q2⟩
 ·exact(zNT w.heap.size w.heap.size zs ys _ v W h1 hz hl h2.size h3).mono fun e w' ⟨v',he,q1,q2⟩=>⟨v',_,he,.inr (.inr (.inr ⟨rfl,rfl⟩)),q1,zEc h1 h2 q2⟩
theorem zKH(sch kd:Nat)(b0:Nat)(xs:List Val)(vv:Value)(w:World)(ZV:sch=1∨sch=2∨sch=3∨sch=4)(YG:kd<=2)(hl:xs.length<=4096)(hs:∀x∈xs,x.s.size<=1000)(ha:zAV w b0 vv xs) :
  Calls Tryz.prog 100 #[.int .i64 (kd:Int),vv,.int .i64 (sch:Int)] w fun e w'=>∃v' b,e=.returned v'/\Hid (zEj sch (zAA xs) b)/\Hid (zBC w' w.heap.size v' (zB2 sch kd xs++b))/\Below w.heap.size w w':=by
 obtain⟨aa,ca,rfl,_,_,_⟩:=zAC ha
 have S0:Hid (St w b0 (.slice aa xs.length ca) xs w (.slice none 0 0) []):=⟨World.ownsRow_nil _ _ _ _,Below.refl _ _,ha⟩
 have TP:(kd:Int)<=2:=by omega
 have hl4:(xs.length:Int)<=4096:=by omega
 have HL:=zA3 hl
 have HSL:Hid ((zAA xs).length<=4096):=Nat.le_trans (zC1 xs) hl
 have Tu:Hid (∀x∈zAA xs,x.s.size<=1000):=fun x hx=>hs x (List.mem_filter.1 hx).1
 have HZ:Hid ((zB2 sch kd xs).length<=1000000):=by
  show _<=_
  have:=zDc xs hl
  simp only[zB2,zAX,zAK]
  omega
 have HB:Hid (∀W v v10 f,(zBC W w.heap.size v (zB2 sch kd xs)/\Below w.heap.size w W/\zAV W w.heap.size v10 (zAA xs))->((sch=1/\f=120)∨(sch=2/\f=117)∨(sch=3/\f=118)∨(sch=4/\f=119))->Calls Tryz.prog f #[v,v10] W fun e w'=>∃v' b,e=.returned v'/\Hid (zEj sch (zAA xs) b)/\Hid (zBC w' w.heap.size v' (zB2 sch kd xs++b))/\Below w.heap.size w w'):=fun W v v10 f h hf=>zTo sch h (zA0 HSL) (zA0 Tu) (zA0 HZ) f hf
 have H1:Hid (Calls Tryz.prog 113 #[.slice none 0 0,.int .u64 (sch:Int),.int .i64 1] w fun e w'=>∃v',e=.returned v'/\Hid (St w b0 (.slice aa xs.length ca) xs w' v' (beL (sch:Int) 1 1))):=(zA0 S0).num (sch:Int) 1 (by omega) (by simp)
 have H2:Hid (∀W v,Hid (St w b0 (.slice aa xs.length ca) xs W v (beL (sch:Int) 1 1))->Calls Tryz.prog 113 #[v,.int .u64 (kd:Int),.int .i64 1] W fun e w'=>∃v',e=.returned v'/\Hid (St w b0 (.slice aa xs.length ca) xs w' v' (beL (sch:Int) 1 1++beL (kd:Int) 1 1))):=fun W v h=>St.num h (kd:Int) 1 (by omega) (by rw[zAK];omega)
 have H3:Hid (∀W v,Hid (St w b0 (.slice aa xs.length ca) xs W v (beL (sch:Int) 1 1++beL (kd:Int) 1 1))->Calls Tryz.prog 113 #[v,.int .u64 (xs.length:Int),.int .i64 4] W fun e w'=>∃v',e=.returned v'/\Hid (St w b0 (.slice aa xs.length ca) xs w' v' ((beL (sch:Int) 1 1++beL (kd:Int) 1 1)++beL (xs.length:Int) 4 4))):=fun W v h=>St.num h (xs.length:Int) 4 (by omega) (by rw[zAX,zAK,zAK];omega)
 have H4:Hid (∀W v,Hid (St w b0 (.slice aa xs.length ca) xs W v ((beL (sch:Int) 1 1++beL (kd:Int) 1 1)++beL (xs.length:Int) 4 4))->Calls Tryz.prog 114 #[v,.slice aa xs.length ca] W fun e w'=>∃v',e=.returned v'/\Hid (St w b0 (.slice aa xs.length ca) xs w' v' (zB2 sch kd xs))):=fun W v h=>zRb h (zA0 HL) (by rw[zAX,zAX,zAK,zAK,zAK];omega)
 have H5:Hid (∀W v,Hid (St w b0 (.slice aa xs.length ca) xs W v (zB2 sch kd xs))->Calls Tryz.prog 116 #[.slice aa xs.length ca] W fun e w'=>∃v',e=.returned v'/\Hid (zBC w' w.heap.size v (zB2 sch kd xs)/\Below w.heap.size w w'/\zAV w' w.heap.size v' xs)):=fun W v h=>zRz h (zA0 HL)
 have H6:Hid (∀W v v9,Hid (zBC W w.heap.size v (zB2 sch kd xs)/\Below w.heap.size w W/\zAV W w.heap.size v9 xs)->Calls Tryz.prog 115 #[v9,.func (.func 103) #[] #[]] W fun e w'=>∃v',e=.returned v'/\Hid (zBC w' w.heap.size v (zB2 sch kd xs)/\Below w.heap.size w w'/\zAV w' w.heap.size v' (zAA xs))):=fun W v v9 h=>zQ5 h (zA0 HL)
 clear ha hs hl
 generalize zB2 sch kd xs=HD at *
 rcases ZV with rfl|rfl|rfl|rfl
 all_goals
  go_enter Tryz.func100,Tryz.ntmps100
  go_wp2_with (first
   | (go_at_call_of 113 (Value.slice none 0 0);refine(zA0 H1).mono ?_;rintro e w1 ⟨v1,rfl,q1⟩)
   | (go_at_call_of 113 (Value.int IntKind.u64 (kd:Int));refine(zA0 H2 _ _ q1).mono ?_;rintro e w2 ⟨v2,rfl,q2⟩)
   | (go_at_call_of 113 (Value.int IntKind.i64 4);refine(zA0 H3 _ _ q2).mono ?_;rintro e w3 ⟨v3,rfl,q3⟩)
   | (go_at_call 114;refine(zA0 H4 _ _ q3).mono ?_;rintro e w4 ⟨v4,rfl,q4⟩)
   | (go_at_call 116;refine(zA0 H5 _ _ q4).mono ?_;rintro e w5 ⟨v5,rfl,q5⟩)
   | (go_at_call 115;refine(zA0 H6 _ _ _ q5).mono ?_;rintro e w6 ⟨v6,rfl,q6⟩)
   | (go_at_call 117;refine(zA0 HB _ _ _ 117 q6 (by simp)).mono ?_;rintro e w7 ⟨v7,b,rfl,g1,g2,g3⟩)
   | (go_at_call 118;refine(zA0 HB _ _ _ 118 q6 (by simp)).mono ?_;rintro e w7 ⟨v7,b,rfl,g1,g2,g3⟩)
   | (go_at_call 119;refine(zA0 HB _ _ _ 119 q6 (by simp)).mono ?_;rintro e w7 ⟨v7,b,rfl,g1,g2,g3⟩)
   | (go_at_call 120;refine(zA0 HB _ _ _ 120 q6 (by simp)).mono ?_;rintro e w7 ⟨v7,b,rfl,g1,g2,g3⟩))
  go_ret
  exact⟨_,_,rfl,g1,g2,g3⟩
theorem zCU{X:Vc}(h:zAg X=true):X.k=1∨X.k=2:=by
 unfold zAg at h
 split at h
 ·rename_i h1;exact .inl (by simpa using h1)
 ·split at h
  ·rename_i h1;exact .inr (by simpa using h1)
  ·cases h
theorem zE4{X:Vc}(hg:zAg X=true){x:Val}(hx:x∈zAD X):x=.null∨(X.k=1/\∃n,(n∈X.ns∨n=0)/\x=.num n)∨(X.k=2/\∃s,s.size<=1000/\x=.str s):=by
 obtain⟨i,hi,rfl⟩:=List.getElem_of_mem hx
 have ZY:i<X.nl.length:=by rw[zAb hg] at hi;exact hi
 have e:=zFY hg ZY
 rw[zAf hi] at e
 injection e with e
 rw[e]
 unfold atV
 split
 ·exact .inl rfl
 ·rcases zCU hg with h|h
  ·right;left
   refine⟨h,X.ns.getD i 0,?_,by simp[h]⟩
   rw[List.getD_eq_getElem?_getD]
   cases he:X.ns[i]? with
   | none=>right;rfl
   | some n=>left;exact List.mem_of_getElem? he
  ·right;right
   refine⟨h,X.ss.getD i ⟨#[]⟩,?_,by simp[h]⟩
   rw[List.getD_eq_getElem?_getD]
   cases he:X.ss[i]? with
   | none=>show (0:Nat)<=1000;omega
   | some s=>
    have hm:=List.mem_of_getElem? he
    unfold zAg at hg
    rw[h] at hg
    have h2:X.ss.any zAv=false:=by
     cases h3:X.ss.any zAv
     ·rfl
     ·simp[h3] at hg
    rw[List.any_eq_false] at h2
    have:=h2 s hm
    simp[zAv] at this
    show s.size<=1000
    omega
theorem zCD{X:Vc}(hg:zAg X=true){x:Val}(hx:x∈zAD X):x.s.size<=1000:=by
 rcases zE4 hg hx with rfl|⟨_,n,_,rfl⟩|⟨_,s,hs,rfl⟩
 ·show (0:Nat)<=1000;omega
 ·show (0:Nat)<=1000;omega
 ·exact hs
theorem zD0{X:Vc}(hg:zAg X=true){x:Val}(hx:x∈zAD X):zA8 x=x:=by
 rcases zE4 hg hx with rfl|⟨_,n,_,rfl⟩|⟨_,s,hs,rfl⟩<;>rfl
def zFU(X:Vc)(sch:Int):Bool:=!zAg X || decide (sch<1) || decide (4<sch) || (sch == 4 && X.k == 2)
def PW(X:Vc)(sch:Int)(s:ByteArray)(f:Int):Prop:=
 (zFU X sch=true/\s=⟨#[]⟩/\f=1)∨(zFU X sch=false/\4096<X.nl.length/\s=⟨#[]⟩/\f=3)∨(zFU X sch=false/\X.nl.length<=4096/\f=0/\∃b,zEj sch.toNat (zAA (zAD X)) b/\s=toB (zB2 sch.toNat X.k.toNat (zAD X)++b))
def zSn(w:World)(b:Nat)(X:Vc)(p:Sl):Prop:=w.cell? ⟨b,0,none⟩=some (.int .i64 X.k)/\w.cell? ⟨b,1,none⟩=some (.slice p.a1 X.nl.length p.c1)/\w.cell? ⟨b,2,none⟩=some (.slice p.a2 X.ns.length p.c2)/\w.cell? ⟨b,3,none⟩=some (.slice p.a3 X.ss.length p.c3)
theorem zSn.later{w w':World}{b:Nat}{X:Vc}{p:Sl}(h:zSn w b X p)(hb:Below w.heap.size w w'):zSn w' b X p:=⟨cell_later hb h.1,cell_later hb h.2.1,cell_later hb h.2.2.1,cell_later hb h.2.2.2⟩
theorem zMn(X:Vc)(p:Sl)(sch:Int)(w:World)(hs:small X)(hp:zAi w X p)(Ql:zFU X sch=true) :
  Calls Tryz.prog 78 #[zCC X p,.int .i64 sch] w fun e w'=>e=.returned (.tuple #[.string ⟨#[]⟩,.int .i64 1])/\Below w.heap.size w w':=by
 rw[zAM]
 have bl:=zA1 (Below.refl _ w) (.cells #[.int .i64 X.k,.slice p.a1 X.nl.length p.c1,.slice p.a2 X.ns.length p.c2,.slice p.a3 X.ss.length p.c3] 49)
 have HG:=zA3 (zFN X p _ hs (hp.later bl))
 rw[zAM] at HG
 cases hg:zAg X
 ·rw[hg] at HG
  clear Ql hg
  go_enter Tryz.func78,Tryz.ntmps78
  go_wp2_with (go_at_call 73;refine(zA0 HG).mono ?_;rintro e w1 ⟨rfl,Hb⟩;obtain⟨Qj,_⟩:=zCR Hb)
  refine bodyPost_ret (v:=.tuple #[.string ⟨#[]⟩,.int .i64 1]) (by simp[results,Tryz.results78,go_sem]) rfl ⟨rfl,zA2 bl Hb⟩
 ·rw[hg] at HG
  simp only[zFU,hg,Bool.not_true,Bool.false_or,Bool.or_eq_true,decide_eq_true_eq,Bool.and_eq_true,beq_iff_eq] at Ql
  have FACT:Hid (∀w1,Below (w.alloc (.cells #[.int .i64 X.k,.slice p.a1 X.nl.length p.c1,.slice p.a2 X.ns.length p.c2,.slice p.a3 X.ss.length p.c3] 49)).heap.size (w.alloc (.cells #[.int .i64 X.k,.slice p.a1 X.nl.length p.c1,.slice p.a2 X.ns.length p.c2,.slice p.a3 X.ss.length p.c3] 49)) w1->w1.cell? ⟨w.heap.size,0,none⟩=some (.int .i64 X.k)/\Hid (Below w.heap.size w w1)):=fun w1 Hb=>by
   obtain⟨Qj,_⟩:=zCR Hb
   refine⟨?_,zA2 bl Hb⟩
   rw[Qj _ _ (by simp)];simp[go_sem]
  clear hg bl
  rcases Ql with (h|h)|⟨h1,h2⟩
  ·go_enter Tryz.func78,Tryz.ntmps78
   go_wp2_with (go_at_call 73;refine(zA0 HG).mono ?_;rintro e w1 ⟨rfl,Hb⟩;obtain⟨c0,Hw⟩:=zA0 FACT _ Hb;clear Hb)
   refine bodyPost_ret (v:=.tuple #[.string ⟨#[]⟩,.int .i64 1]) (by simp[results,Tryz.results78,go_sem]) rfl ⟨rfl,zA0 Hw⟩
  ·have h3:¬sch<1:=by omega
   go_enter Tryz.func78,Tryz.ntmps78
   go_wp2_with (go_at_call 73;refine(zA0 HG).mono ?_;rintro e w1 ⟨rfl,Hb⟩;obtain⟨c0,Hw⟩:=zA0 FACT _ Hb;clear Hb)
   refine bodyPost_ret (v:=.tuple #[.string ⟨#[]⟩,.int .i64 1]) (by simp[results,Tryz.results78,go_sem]) rfl ⟨rfl,zA0 Hw⟩
  ·subst h1
   rw[h2] at FACT HG
   rw[h2]
   clear h2
   go_enter Tryz.func78,Tryz.ntmps78
   go_wp2_with (go_at_call 73;refine(zA0 HG).mono ?_;rintro e w1 ⟨rfl,Hb⟩;obtain⟨c0,Hw⟩:=zA0 FACT _ Hb;clear Hb)
   refine bodyPost_ret (v:=.tuple #[.string ⟨#[]⟩,.int .i64 1]) (by simp[results,Tryz.results78,go_sem]) rfl ⟨rfl,zA0 Hw⟩
theorem zJT(X:Vc)(p:Sl)(sch:Int)(w:World)(hs:small X)(hp:zAi w X p)(Ql:zFU X sch=false)(Jz:4096<X.nl.length) :
  Calls Tryz.prog 78 #[zCC X p,.int .i64 sch] w fun e w'=>e=.returned (.tuple #[.string ⟨#[]⟩,.int .i64 3])/\Below w.heap.size w w':=by
 rw[zAM]
 have bl:=zA1 (Below.refl _ w) (.cells #[.int .i64 X.k,.slice p.a1 X.nl.length p.c1,.slice p.a2 X.ns.length p.c2,.slice p.a3 X.ss.length p.c3] 49)
 have HG:=zA3 (zFN X p _ hs (hp.later bl))
 rw[zAM] at HG
 simp only[zFU,Bool.or_eq_false_iff,Bool.not_eq_false',decide_eq_false_iff_not] at Ql
 obtain⟨⟨⟨hg,h1⟩,h2⟩,h3⟩:=Ql
 rw[hg] at HG
 have i1:(4096:Int)<(X.nl.length:Int):=by omega
 have FACT:Hid (∀w1,Below (w.alloc (.cells #[.int .i64 X.k,.slice p.a1 X.nl.length p.c1,.slice p.a2 X.ns.length p.c2,.slice p.a3 X.ss.length p.c3] 49)).heap.size (w.alloc (.cells #[.int .i64 X.k,.slice p.a1 X.nl.length p.c1,.slice p.a2 X.ns.length p.c2,.slice p.a3 X.ss.length p.c3] 49)) w1->w1.cell? ⟨w.heap.size,0,none⟩=some (.int .i64 X.k)/\w1.cell? ⟨w.heap.size,1,none⟩=some (.slice p.a1 X.nl.length p.c1)/\Hid (Below w.heap.size w w1)):=fun w1 Hb=>by
  obtain⟨Qj,_⟩:=zCR Hb
  refine⟨?_,?_,zA2 bl Hb⟩<;>(rw[Qj _ _ (by simp)];simp[go_sem])
 clear hg bl
 rcases Bool.eq_false_or_eq_true (sch == 4) with e4|e4
 ·have e2:(X.k == 2)=false:=by simpa [e4] using h3
  clear h3
  go_enter Tryz.func78,Tryz.ntmps78
  go_wp2_with (go_at_call 73;refine(zA0 HG).mono ?_;rintro e w1 ⟨rfl,Hb⟩;obtain⟨c0,c1,Hw⟩:=zA0 FACT _ Hb;clear Hb)
  refine bodyPost_ret (v:=.tuple #[.string ⟨#[]⟩,.int .i64 3]) (by simp[results,Tryz.results78,go_sem]) rfl ⟨rfl,zA0 Hw⟩
 ·clear h3
  go_enter Tryz.func78,Tryz.ntmps78
  go_wp2_with (go_at_call 73;refine(zA0 HG).mono ?_;rintro e w1 ⟨rfl,Hb⟩;obtain⟨c0,c1,Hw⟩:=zA0 FACT _ Hb;clear Hb)
  refine bodyPost_ret (v:=.tuple #[.string ⟨#[]⟩,.int .i64 3]) (by simp[results,Tryz.results78,go_sem]) rfl ⟨rfl,zA0 Hw⟩
theorem zOq(X:Vc)(p:Sl)(n kd:Nat)(w:World)(hs:small X)(hp:zAi w X p)(hg:zAg X=true)(hn:n=1∨n=2∨n=3∨n=4)(hk:X.k=(kd:Int))(YG:kd=1∨kd=2)(h4:¬(n=4/\kd=2))(hl:X.nl.length<=4096) :
  Calls Tryz.prog 78 #[zCC X p,.int .i64 (n:Int)] w fun e w'=>∃b,e=.returned (.tuple #[.string (toB (zB2 n kd (zAD X)++b)),.int .i64 0])/\zEj n (zAA (zAD X)) b/\Below w.heap.size w w':=by
 rw[zAM]
 have bl:=zA1 (Below.refl _ w) (.cells #[.int .i64 X.k,.slice p.a1 X.nl.length p.c1,.slice p.a2 X.ns.length p.c2,.slice p.a3 X.ss.length p.c3] 49)
 have HG:=zA3 (zFN X p _ hs (hp.later bl))
 rw[zAM] at HG
 rw[hg] at HG
 have Qh:Hid ((zAD X).length<=4096):=by show _<=_;rw[zAb hg];exact hl
 have HVS:Hid (∀x∈zAD X,x.s.size<=1000):=fun x hx=>zCD hg hx
 have HV:Hid (∀W,Below w.heap.size w W->Calls Tryz.prog 101 #[.agg #[.int .i64 (kd:Int),.slice p.a1 X.nl.length p.c1,.slice p.a2 X.ns.length p.c2,.slice p.a3 X.ss.length p.c3]] W fun e w'=>∃v,e=.returned v/\Hid (zAV w' W.heap.size v (zAD X))/\Below W.heap.size W w'):=fun W hW=>by
  have:=zMG X p W hs (hp.later hW)
  rw[zAM,hk] at this
  exact this
 have HW:Hid (∀W b0 vv,Hid (zAV W b0 vv (zAD X))->Calls Tryz.prog 100 #[.int .i64 (kd:Int),vv,.int .i64 (n:Int)] W fun e w'=>∃v' b,e=.returned v'/\Hid (zEj n (zAA (zAD X)) b)/\Hid (zBC w' W.heap.size v' (zB2 n kd (zAD X)++b))/\Below W.heap.size W w'):=fun W b0 vv h=>zKH n kd b0 (zAD X) vv W hn (by omega) (zA0 Qh) (zA0 HVS) h
 have i0:¬(4096:Int)<(X.nl.length:Int):=by omega
 have i1:¬(n:Int)<1:=by omega
 have i2:¬(4:Int)<(n:Int):=by omega
 have hc:((n:Int) == 4)=true/\((kd:Int) == 2)=false∨((n:Int) == 4)=false:=by
  by_cases h:n=4
  ·subst h
   have:kd=1:=by omega
   subst this
   exact .inl ⟨rfl,rfl⟩
  ·right
   simp
   omega
 rw[hk] at bl HG ⊢
 have FACT:Hid (∀w1,Below (w.alloc (.cells #[.int .i64 (kd:Int),.slice p.a1 X.nl.length p.c1,.slice p.a2 X.ns.length p.c2,.slice p.a3 X.ss.length p.c3] 49)).heap.size (w.alloc (.cells #[.int .i64 (kd:Int),.slice p.a1 X.nl.length p.c1,.slice p.a2 X.ns.length p.c2,.slice p.a3 X.ss.length p.c3] 49)) w1->w1.cell? ⟨w.heap.size,0,none⟩=some (.int .i64 (kd:Int))/\w1.cell? ⟨w.heap.size,1,none⟩=some (.slice p.a1 X.nl.length p.c1)/\w1.cell? ⟨w.heap.size,2,none⟩=some (.slice p.a2 X.ns.length p.c2)/\w1.cell? ⟨w.heap.size,3,none⟩=some (.slice p.a3 X.ss.length p.c3)/\Hid (Below w.heap.size w w1)):=fun w1 Hb=>by
  obtain⟨Qj,_⟩:=zCR Hb
  refine⟨?_,?_,?_,?_,zA2 bl Hb⟩<;>(rw[Qj _ _ (by simp)];simp[go_sem])
 clear hg bl hk YG h4 hn hs hp hl
 rcases hc with ⟨e4,e5⟩|e4
 all_goals
  go_enter Tryz.func78,Tryz.ntmps78
  go_upto_region 8 with (first | (go_at_call 73;refine(zA0 HG).mono ?_;rintro e w1 ⟨rfl,Hb⟩;obtain⟨c0,c1,c2,c3,Hw⟩:=zA0 FACT _ Hb;clear Hb)|fail)
  have Ht:zSn w1.drew w.heap.size ⟨(kd:Int),X.nl,X.ns,X.ss⟩ p:=⟨c0,c1,c2,c3⟩
  have Yr:Below w.heap.size w w1.drew:=(zA0 Hw).drew
  clear c0 c1 c2 c3
  refine wp_region_noPanic ?_
  refine zAu (S:=fun w':World=>zSn w' w.heap.size ⟨(kd:Int),X.nl,X.ns,X.ss⟩ p) (k:=5) (by kernel_rfl) ?_
  refine zA6 (i:=0) (v:=(.pointer (some ⟨w.heap.size,0,none⟩))) [1,5] rfl (fun _ _ _ h=>h) (Or.inl ⟨by rfl,fun w' hSw=>?_⟩) Ht ?_
  ·obtain⟨s0,s1,s2,s3⟩:=hSw;go_simp
  try simp only[Act.put,zAI,zAH,zAG]
  refine zA6 (i:=1) (v:=(.int .i64 (kd:Int))) [5] rfl (fun _ _ _ h=>h) (Or.inl ⟨by rfl,fun w' hSw=>?_⟩) Ht ?_
  ·obtain⟨s0,s1,s2,s3⟩:=hSw;go_simp
  try simp only[Act.put,zAI,zAH,zAG]
  refine zA6 (i:=2) (v:=(.agg #[.int .i64 (kd:Int),.slice p.a1 X.nl.length p.c1,.slice p.a2 X.ns.length p.c2,.slice p.a3 X.ss.length p.c3])) [3,5] rfl (fun _ _ _ h=>h) (Or.inl ⟨by rfl,fun w' hSw=>?_⟩) Ht ?_
  ·obtain⟨s0,s1,s2,s3⟩:=hSw;go_simp
  try simp only[Act.put,zAI,zAH,zAG]
  refine zA6 (i:=4) (v:=(.int .i64 (n:Int))) [5] rfl (fun _ _ _ h=>h) (Or.inl ⟨by rfl,fun w' hSw=>?_⟩) Ht ?_
  ·obtain⟨s0,s1,s2,s3⟩:=hSw;go_simp
  try simp only[Act.put,zAI,zAH,zAG]
  refine zA7 (i:=3) (by kernel_rfl) ?_
  refine zA4 rfl (by rfl) fun K hK=>?_
  go_simp
  refine(zA0 HV _ Yr).mono ?_
  rintro e w2 ⟨v2,rfl,QN,Hh⟩
  have Ja:=Ht.later Hh
  have Qz:=zA3 (zA2 Yr Hh)
  clear Ht Hh Yr
  go_simp
  refine zA0 hK _ _ ⟨fun _=>Ja,?_⟩
  clear hK K
  refine zA7 (i:=5) (by kernel_rfl) ?_
  refine zA4 rfl (by rfl) fun K hK=>?_
  go_simp
  refine(zA0 HW _ _ _ QN).mono ?_
  rintro e w3 ⟨v3,b,rfl,YC,Jf,Hz⟩
  have Yo:=zA3 (zA2 (zA0 Qz) Hz)
  have Qm:=zAe (zA0 Jf)
  clear Hz
  go_simp
  refine zA0 hK _ _ ⟨fun hh=>absurd hh (by decide),?_⟩
  clear hK K
  refine zA7 (i:=6) (by kernel_rfl) ?_
  refine zA4 rfl (by rfl) fun K hK=>?_
  go_simp
  refine zA0 hK _ _ ⟨fun hh=>absurd hh (by decide),?_⟩
  clear hK K
  refine zA7 (i:=7) (by kernel_rfl) ?_
  refine zA4 rfl (by rfl) fun K hK=>?_
  go_simp
  refine zA0 hK _ _ ⟨fun hh=>absurd hh (by decide),?_⟩
  clear hK K
  refine zA7 (i:=8) (by kernel_rfl) ?_
  refine zA4 rfl (by rfl) fun K hK=>?_
  go_simp
  refine zA0 hK _ _ ⟨fun hh=>absurd hh (by decide),?_⟩
  clear hK K
  refine zAl (by kernel_rfl) ?_ _
  refine NoPanic.normal ?_
  go_wp2
  refine bodyPost_ret (v:=.tuple #[.string (toB (zB2 n kd (zAD X)++b)),.int .i64 0]) (by simp[results,Tryz.results78,go_sem]) rfl ⟨b,rfl,zA0 YC,zA0 Yo⟩
theorem zMo(X:Vc)(p:Sl)(sch:Int)(w:World)(hs:small X)(hp:zAi w X p) :
  Calls Tryz.prog 78 #[zCC X p,.int .i64 sch] w fun e w'=>∃s f,e=.returned (.tuple #[.string s,.int .i64 f])/\Hid (PW X sch s f)/\Below w.heap.size w w':=by
 cases Ql:zFU X sch
 ·by_cases Jz:4096<X.nl.length
  ·exact(zJT X p sch w hs hp Ql Jz).mono fun e w' ⟨he,hb⟩=>⟨_,_,he,.inr (.inl ⟨Ql,Jz,rfl,rfl⟩),hb⟩
  ·have Hh:=Ql
   simp only[zFU,Bool.or_eq_false_iff,Bool.not_eq_false',decide_eq_false_iff_not] at Hh
   obtain⟨⟨⟨hg,h1⟩,h2⟩,h3⟩:=Hh
   obtain⟨n,rfl⟩:∃n:Nat,sch=(n:Int):=⟨sch.toNat,by omega⟩
   obtain⟨kd,hk⟩:∃kd:Nat,X.k=(kd:Int):=⟨X.k.toNat,by have:=zCU hg;omega⟩
   have YG:kd=1∨kd=2:=by have:=zCU hg;omega
   refine(zOq X p n kd w hs hp hg (by omega) hk YG (fun ⟨a,b⟩=>?_) (by omega)).mono fun e w' ⟨b,he,hB,hb⟩=>⟨_,_,he,.inr (.inr ⟨Ql,by omega,rfl,b,?_,?_⟩),hb⟩
   ·subst a b
    rw[hk] at h3
    exact absurd h3 (by decide)
   ·simpa using hB
   ·rw[hk]
    simp
 ·exact(zMn X p sch w hs hp Ql).mono fun e w' ⟨he,hb⟩=>⟨_,_,he,.inl ⟨Ql,rfl,rfl⟩,hb⟩
def zIU(b s:ByteArray)(f:Int):ByteArray:=if f=0/\s.size<b.size then s else b
def PB(X:Vc):Nat->ByteArray->Prop
 | 0,b=>PW X 1 b 0
 | i+1,b=>∃c s f,PB X i c/\PW X ((i:Int)+2) s f/\b=zIU c s f
def PP(X:Vc)(s:ByteArray)(f:Int):Prop:=(f=0/\PB X 3 s)∨(s=⟨#[]⟩/\f≠0/\∃t,PW X 1 t f)
def zUa(j:Nat):Value:=.int .i64 ((j:Int)+2)
theorem zOt(X:Vc)(p:Sl)(w:World)(hs:small X)(hp:zAi w X p) :
  Calls Tryz.prog 58 #[zCC X p] w fun e w'=>∃s f,e=.returned (.tuple #[.string s,.int .i64 f])/\Hid (PP X s f)/\Below w.heap.size w w':=by
 have HW:Hid (∀W sch,Below w.heap.size w W->Calls Tryz.prog 78 #[zCC X p,.int .i64 sch] W fun e w'=>∃s f,e=.returned (.tuple #[.string s,.int .i64 f])/\Hid (PW X sch s f)/\Below W.heap.size W w'):=fun W sch hW=>zMo X p sch W hs (hp.later hW)
 rw[zAM] at HW ⊢
 have bl:=zA1 (Below.refl _ w) (.cells #[.int .i64 X.k,.slice p.a1 X.nl.length p.c1,.slice p.a2 X.ns.length p.c2,.slice p.a3 X.ss.length p.c3] 49)
 have Kq:=zA3 (zA0 HW _ 1 bl)
 have FACT:Hid (∀w1,Below (w.alloc (.cells #[.int .i64 X.k,.slice p.a1 X.nl.length p.c1,.slice p.a2 X.ns.length p.c2,.slice p.a3 X.ss.length p.c3] 49)).heap.size (w.alloc (.cells #[.int .i64 X.k,.slice p.a1 X.nl.length p.c1,.slice p.a2 X.ns.length p.c2,.slice p.a3 X.ss.length p.c3] 49)) w1->zSn w1 w.heap.size X p/\Below w.heap.size w w1):=fun w1 Hb=>by
  obtain⟨Qj,_⟩:=zCR Hb
  refine⟨⟨?_,?_,?_,?_⟩,zA2 bl Hb⟩<;>(rw[Qj _ _ (by simp)];simp[go_sem])
 clear bl hs hp
 go_enter Tryz.func58,Tryz.ntmps58
 go_upto_region 2 with (first | (go_at_call 78;refine(zA0 Kq).mono ?_;rintro e w1 ⟨s1,f1,rfl,KB,Hb⟩;replace Hb:=zA3 Hb)|fail)
 rcases Bool.eq_false_or_eq_true (f1 == 0) with e0|e0
 ·have e1:(f1 != 0)=false:=by simp[bne,e0]
  have e2:f1=0:=by simpa using e0
  have Tv:Hid (PB X 0 s1):=by show PW X 1 s1 0;rw[<-e2];exact zA0 KB
  clear e0 e2 KB
  go_wp2_with fail
  have Qa:=zA3 (zA0 FACT _ (zA0 Hb)).2
  have Fe:=zA3 (zA0 FACT _ (zA0 Hb)).1
  have Hi:Hid ((w1.alloc (.cells #[.int .i64 2,.int .i64 3,.int .i64 4] 3)).rowIs w1.heap.size 3 3 zUa):=World.rowIs_alloc w1 #[.int .i64 2,.int .i64 3,.int .i64 4] 3 zUa (fun i hi=>by
   match i,hi with
   | 0,_=>rfl
   | 1,_=>rfl
   | 2,_=>rfl)
  have TG:w.heap.size<w1.heap.size:=World.block_lt_of_cell? _ _ (zA0 Fe).1
  go_loopw[4,20] (fun s4 s wr=>∃(i:Nat) (b:ByteArray),i<=3/\s=.int .i64 (i:Int)/\s4=.string b/\Hid (PB X i b)/\wr.rowIs w1.heap.size 3 3 zUa/\Below w1.heap.size w1 wr) (fun _ s _=>3-(intOf s).toNat)
  case atStart=>exact⟨0,s1,by omega,rfl,rfl,zA0 Tv,zA0 Hi,zA1 (Below.refl _ _) _⟩
  case round=>
   obtain⟨i,b,hi,rfl,rfl,yW,hr,hb⟩:=hrel
   by_cases h8:i<3
   ·have h9:(i:Int)<3:=by omega
    obtain⟨x0,x1,x2,x3⟩:=(zA0 Fe).later hb
    have hc:wr.cell? ⟨w1.heap.size,i,none⟩=some (.int .i64 ((i:Int)+2)):=hr.cell h8
    have HWi:=zA3 (zA0 HW wr ((i:Int)+2) (zA2 (zA0 Qa) hb))
    have HR:=zA3 hr
    have HB:=zA3 hb
    clear hr hb
    go_upto_region 8 with (first | (go_at_call 78;refine(zA0 HWi).mono ?_;rintro e w2 ⟨s2,f2,rfl,Jn,Hh⟩;have GQ:=zA3 (zA5 (zA0 HR) Hh);have Qz:=zA3 (zA2 (zA0 HB) Hh);clear Hh)|fail)
    rcases Bool.eq_false_or_eq_true (f2 == 0) with e0|e0
    ·by_cases He:s2.size<b.size
     ·have j1:(s2.size:Int)<(b.size:Int):=by omega
      have HN:Hid (PB X (i+1) s2):=⟨b,s2,f2,zA0 yW,zA0 Jn,by rw[zIU,if_pos ⟨by simpa using e0,He⟩]⟩
      go_wp2
      go_roundw
      case rel=>exact⟨i+1,s2,by omega,by go_num,rfl,HN,zA0 GQ,zA0 Qz⟩
      case measure=>first | (simp[intOf];omega) | (simp only[intOf];omega)
     ·have j1:¬(s2.size:Int)<(b.size:Int):=by omega
      have HN:Hid (PB X (i+1) b):=⟨b,s2,f2,zA0 yW,zA0 Jn,by rw[zIU,if_neg (fun h=>He h.2)]⟩
      go_wp2
      go_roundw
      case rel=>exact⟨i+1,b,by omega,by go_num,rfl,HN,zA0 GQ,zA0 Qz⟩
      case measure=>first | (simp[intOf];omega) | (simp only[intOf];omega)
    ·have HN:Hid (PB X (i+1) b):=⟨b,s2,f2,zA0 yW,zA0 Jn,by rw[zIU,if_neg (fun h=>by simp[h.1] at e0)]⟩
     go_wp2
     go_roundw
     case rel=>exact⟨i+1,b,by omega,by go_num,rfl,HN,zA0 GQ,zA0 Qz⟩
     case measure=>first | (simp[intOf];omega) | (simp only[intOf];omega)
   ·have h9:¬(i:Int)<3:=by omega
    have h3:i=3:=by omega
    rw[h3] at yW
    have HE:Hid (PP X b 0):=.inl ⟨rfl,zA0 yW⟩
    have HB:=zA3 (zA2 (zA0 Qa) hb)
    clear hr hb h3
    go_wp2
    refine bodyPost_ret (v:=.tuple #[.string b,.int .i64 0]) (by simp[results,Tryz.results58,go_sem]) rfl ⟨_,_,rfl,HE,zA0 HB⟩
 ·have e1:(f1 != 0)=true:=by simp[bne,e0]
  have HE:Hid (PP X ⟨#[]⟩ f1):=.inr ⟨rfl,by simpa using e0,s1,zA0 KB⟩
  have HB:=zA3 (zA0 FACT _ (zA0 Hb)).2
  clear e0
  go_wp2
  refine bodyPost_ret (v:=.tuple #[.string ⟨#[]⟩,.int .i64 f1]) (by simp[results,Tryz.results58,go_sem]) rfl ⟨_,_,rfl,HE,zA0 HB⟩
set_option maxHeartbeats 4000000
theorem zL8(x:Val):zA8 (zA8 x)=zA8 x:=by
 unfold zA8
 rcases Bool.eq_false_or_eq_true (x.k == 1) with h1|h1<;>rcases Bool.eq_false_or_eq_true (x.k == 2) with h2|h2<;>simp[h1,h2,Val.num,Val.str,Val.null]
theorem zHB(x:Val):zA8 x=.null∨zA8 x=.num x.n∨zA8 x=.str x.s:=by
 unfold zA8
 split
 ·exact .inr (.inl rfl)
 ·split
  ·exact .inr (.inr rfl)
  ·exact .inl rfl
theorem zDH{y:Val}(h:zA8 y=y):y=.null∨(∃n,y=.num n)∨∃s,y=.str s:=by
 rcases zHB y with e|e|e
 ·exact .inl (h.symm.trans e)
 ·exact .inr (.inl ⟨_,h.symm.trans e⟩)
 ·exact .inr (.inr ⟨_,h.symm.trans e⟩)
theorem zIb{s:ByteArray}:zAv s=false ↔ s.size<=1000:=by
 unfold zAv
 rw[decide_eq_false_iff_not]
 omega
theorem zLL{α β γ:Type}(f:α->β)(g:α->γ)(l:List α):(l.map f).zip (l.map g)=l.map fun x=>(f x,g x):=by
 induction l with
 | nil=>rfl
 | cons a l ih=>simp[ih]
theorem zJk{kind:Int}{ys:List Val}(hk:kind=1∨kind=2)(hc:∀y∈ys,zA8 y=y)(hb:∀y∈ys,zFu kind y=false)(hl:∀y∈ys,zAv y.s=false):zAg (zBd kind ys)=true:=by
 rcases hk with rfl|rfl
 ·unfold zAg zBd
  simp only[beq_self_eq_true,if_true,znN,zEt,zLL,List.length_map,Bool.and_eq_true,Bool.not_eq_true',List.length_nil]
  refine⟨trivial,trivial,?_⟩
  rw[List.any_eq_false]
  intro p hp
  obtain⟨y,hy,rfl⟩:=List.mem_map.1 hp
  rcases zDH (hc y hy) with rfl|⟨n,rfl⟩|⟨s,rfl⟩<;>simp[zNe,Val.null,Val.num,Val.str]
 ·have e1:((2:Int) == 1)=false:=rfl
  have e2:¬(2:Int)=1:=by decide
  unfold zAg zBd
  simp only[e1,Bool.false_eq_true,beq_self_eq_true,if_true,if_false,e2,znS,zEt,zLL,List.length_map,Bool.and_eq_true,Bool.not_eq_true',List.length_nil]
  refine⟨⟨trivial,trivial,?_⟩,?_⟩
  ·rw[List.any_eq_false]
   intro p hp
   obtain⟨y,hy,rfl⟩:=List.mem_map.1 hp
   rcases zDH (hc y hy) with rfl|⟨n,rfl⟩|⟨s,rfl⟩
   ·simp[zLC,Val.null]
   ·simp[zLC,Val.num]
   ·simp[zLC,Val.str]
  ·rw[List.any_eq_false]
   intro s hs
   obtain⟨y,hy,rfl⟩:=List.mem_map.1 hs
   simp[hl y hy]
theorem zPk{kind:Int}{ys:List Val}(hk:kind=1∨kind=2)(hc:∀y∈ys,zA8 y=y)(hb:∀y∈ys,zFu kind y=false)(hl:∀y∈ys,zAv y.s=false):zAD (zBd kind ys)=ys:=by
 have hg:=zJk hk hc hb hl
 apply List.ext_getElem?
 intro i
 by_cases hi:i<ys.length
 ·rw[zFY hg (by simpa [zBd,zEt] using hi),zAf hi]
  congr 1
  have hm:=List.getElem_mem hi
  have YN:=hc _ hm
  have Yr:=hb _ hm
  generalize hy:ys[i]=y at *
  have hgt:ys[i]?=some y:=by rw[zAf hi,hy]
  unfold atV
  rcases hk with rfl|rfl
  ·rcases zDH YN with rfl|⟨n,rfl⟩|⟨s,rfl⟩
   ·simp[zBd,zEt,hgt,List.getD_eq_getElem?_getD,Val.null]
   ·simp[zBd,zEt,hgt,List.getD_eq_getElem?_getD,Val.num]
   ·simp[zFu,Val.str] at Yr
  ·rcases zDH YN with rfl|⟨n,rfl⟩|⟨s,rfl⟩
   ·simp[zBd,zEt,hgt,List.getD_eq_getElem?_getD,Val.null]
   ·simp[zFu,Val.num] at Yr
   ·simp[zBd,zEt,hgt,List.getD_eq_getElem?_getD,Val.str]
 ·rw[List.getElem?_eq_none (by rw[zAb hg];simp[zBd,zEt];omega),List.getElem?_eq_none (by omega)]
theorem zH5{kind:Int}{xs:List Val}{X:Vc}(h:zBU kind xs=(X,0)):zAg X=true/\X.k=kind/\zAD X=xs.map zA8/\zBU X.k (zAD X)=(X,0)/\X.nl.length=xs.length/\X.ns.length<=xs.length/\X.ss.length<=xs.length/\((∀x∈xs,-9223372036854775808<=x.n/\x.n<=9223372036854775807)->∀n∈X.ns,-9223372036854775808<=n/\n<=9223372036854775807):=by
 unfold zBU at h
 split at h
 ·injection h with _ h;cases h
 rename_i hk
 split at h
 ·injection h with _ h;cases h
 rename_i hb
 split at h
 ·injection h with _ h;cases h
 rename_i hl
 injection h with h _
 subst h
 have JU:kind=1∨kind=2:=by
  cases Tk:zFM kind
  ·exact absurd Tk hk
  ·unfold zFM at Tk;simpa using Tk
 have hc:∀y∈xs.map zA8,zA8 y=y:=fun y hy=>by
  obtain⟨x,_,rfl⟩:=List.mem_map.1 hy
  exact zL8 x
 have Hh:∀y∈xs.map zA8,zFu kind y=false:=fun y hy=>by
  cases Hw:zFu kind y
  ·rfl
  ·exact absurd (List.any_eq_true.2 ⟨y,hy,Hw⟩) hb
 have Yd:∀y∈xs.map zA8,zAv y.s=false:=fun y hy=>by
  cases Hw:zAv y.s
  ·rfl
  ·exact absurd (List.any_eq_true.2 ⟨y,hy,Hw⟩) hl
 have hv:=zPk JU hc Hh Yd
 have ec:(xs.map zA8).map zA8=xs.map zA8:=by
  conv=>rhs;rw[<-List.map_id (xs.map zA8)]
  exact List.map_congr_left fun y hy=>hc y hy
 refine⟨zJk JU hc Hh Yd,rfl,hv,?_,by simp[zBd,zEt],?_,?_,?_⟩
 ·rw[hv]
  show zBU kind (xs.map zA8)=_
  unfold zBU
  rw[if_neg hk,ec,if_neg hb,if_neg hl]
 ·simp only[zBd];split<;>simp
 ·simp only[zBd];split<;>simp
 ·intro hr n hn
  simp only[zBd] at hn
  split at hn
  ·obtain⟨y,hy,rfl⟩:=List.mem_map.1 hn
   obtain⟨x,hx,rfl⟩:=List.mem_map.1 hy
   rcases zHB x with e|e|e
   ·rw[e];decide
   ·rw[e];exact hr x hx
   ·rw[e];show -9223372036854775808<=(0:Int)/\(0:Int)<=9223372036854775807;decide
  ·cases hn
def atL(L:List Val)(k:Nat):Val:=L.getD k Val.null
theorem zFV{L:List Val}{k:Nat}{x:Val}(h:L[k]?=some x):atL L k=x:=by unfold atL;rw[List.getD_eq_getElem?_getD,h];rfl
theorem zB0{L:List Val}{k:Nat}(h:k<L.length):L[k]?=some (atL L k):=by unfold atL;rw[List.getD_eq_getElem?_getD,zAf h];rfl
def zGd(L:List Val)(i j:Nat):List Val:=(L.set i (atL L j)).set j (atL L i)
theorem zEW{L:List Val}{i j:Nat}(hi:i<L.length)(hj:j<L.length)(k:Nat):atL (zGd L i j) k=if k=j then atL L i else if k=i then atL L j else atL L k:=by
 unfold zGd
 by_cases h1:k=j
 ·subst h1
  rw[if_pos rfl]
  exact zFV (by rw[List.getElem?_set];simp[hj])
 ·rw[if_neg h1]
  by_cases h2:k=i
  ·subst h2
   rw[if_pos rfl]
   exact zFV (by rw[List.getElem?_set,if_neg (Ne.symm h1),List.getElem?_set];simp[hi])
  ·rw[if_neg h2]
   show ((L.set i _).set j _).getD k Val.null=L.getD k Val.null
   rw[List.getD_eq_getElem?_getD,List.getD_eq_getElem?_getD,List.getElem?_set,if_neg (Ne.symm h1),List.getElem?_set,if_neg (Ne.symm h2)]
structure PAB(a b:Nat)(L L':List Val):Prop where
 perm:L'.Perm L
 out:∀k,k<a∨b<=k->atL L' k=atL L k
 ins:∀k,a<=k->k<b->∃j,a<=j/\j<b/\atL L' k=atL L j
theorem PAB.refl(a b:Nat)(L:List Val):PAB a b L L:=⟨List.Perm.refl _,fun _ _=>rfl,fun k h1 h2=>⟨k,h1,h2,rfl⟩⟩
theorem PAB.trans{a b:Nat}{L L' L'':List Val}(h:PAB a b L L')(h2:PAB a b L' L''):PAB a b L L'':=
 ⟨h2.perm.trans h.perm,fun k hk=>(h2.out k hk).trans (h.out k hk),fun k h3 h4=>by
  obtain⟨j,h5,h6,h7⟩:=h2.ins k h3 h4
  obtain⟨q,h8,h9,h10⟩:=h.ins j h5 h6
  exact⟨q,h8,h9,h7.trans h10⟩⟩
theorem PAB.widen{a b a' b':Nat}{L L':List Val}(h:PAB a b L L')(ha:a'<=a)(hb:b<=b'):PAB a' b' L L':=
 ⟨h.perm,fun k hk=>h.out k (by omega),fun k h3 h4=>by
  by_cases hk:a<=k/\k<b
  ·obtain⟨j,h5,h6,h7⟩:=h.ins k hk.1 hk.2
   exact⟨j,by omega,by omega,h7⟩
  ·exact⟨k,h3,h4,h.out k (by omega)⟩⟩
theorem PAB.swap{a b i j:Nat}{L:List Val}(hi:i<L.length)(hj:j<L.length)(h1:a<=i)(h2:i<b)(h3:a<=j)(h4:j<b):PAB a b L (zGd L i j):=by
 refine⟨?_,fun k hk=>?_,fun k h5 h6=>?_⟩
 ·have e1:=zB0 hi
  have e2:=zB0 hj
  have:=List.set_set_perm hi hj
  rw[zAf hi] at e1
  rw[zAf hj] at e2
  injection e1 with e1
  injection e2 with e2
  rw[e1,e2] at this
  exact this
 ·rw[zEW hi hj,if_neg (by omega),if_neg (by omega)]
 ·rw[zEW hi hj]
  split
  ·exact⟨i,h1,h2,rfl⟩
  ·split
   ·exact⟨j,h3,h4,rfl⟩
   ·exact⟨k,h5,h6,rfl⟩
def SAB(a b:Nat)(L:List Val):Prop:=∀i j,a<=i->i<j->j<b->zAh (atL L i) (atL L j)<=0
theorem SAB.one{a b:Nat}(h:b<=a+1)(L:List Val):SAB a b L:=fun i j h1 h2 h3=>by omega
theorem SAB.le{a b:Nat}{L:List Val}(h:SAB a b L){i j:Nat}(h1:a<=i)(h2:i<=j)(h3:j<b):zAh (atL L i) (atL L j)<=0:=by
 by_cases e:i=j
 ·subst e;rw[zC5];omega
 ·exact h i j h1 (by omega) h3
theorem SAB.out{a b c d:Nat}{L L':List Val}(h:SAB a b L)(hp:PAB c d L L')(hd:b<=c∨d<=a):SAB a b L':=fun i j h1 h2 h3=>by
 rw[hp.out i (by omega),hp.out j (by omega)]
 exact h i j h1 h2 h3
theorem SAB.join{a m b:Nat}{L:List Val}(h1:SAB a m L)(h2:SAB m b L)(hx:∀i j,a<=i->i<m->m<=j->j<b->zAh (atL L i) (atL L j)<=0):SAB a b L:=fun i j h3 h4 h5=>by
 by_cases hj:j<m
 ·exact h1 i j h3 h4 hj
 ·by_cases hi:i<m
  ·exact hx i j h3 hi (by omega) h5
  ·exact h2 i j (by omega) h4 h5
theorem zHv{a m b:Nat}{L L':List Val}(hx:∀i j,a<=i->i<m->m<=j->j<b->zAh (atL L i) (atL L j)<=0)(h:PAB a m L L'∨PAB m b L L'):∀i j,a<=i->i<m->m<=j->j<b->zAh (atL L' i) (atL L' j)<=0:=fun i j h1 h2 h3 h4=>by
 rcases h with h|h
 ·obtain⟨q,h5,h6,h7⟩:=h.ins i h1 h2
  rw[h7,h.out j (by omega)]
  exact hx q j h5 h6 h3 h4
 ·obtain⟨q,h5,h6,h7⟩:=h.ins j h3 h4
  rw[h7,h.out i (by omega)]
  exact hx i q h1 h2 h5 h6
def zG4(f:Nat->Val)(a m b:Nat)(k:Nat):Val:=if k<a∨b<=k then f k else if k<a+(b-m) then f (k-a+m) else f (k-(b-m))
def zEo(f:Nat->Val)(a b n:Nat)(k:Nat):Val:=if a<=k/\k<a+n then f (k-a+b) else if b<=k/\k<b+n then f (k-b+a) else f k
theorem zMN(L:List Val)(a b n:Nat)(f:Nat->Val)(yh:a+(n+1)<=b)(hb:b+n<L.length)(h:∀k,atL L k=zEo f a b n k):∀k,atL (zGd L (a+n) (b+n)) k=zEo f a b (n+1) k:=by
 intro k
 rw[zEW (by omega) hb]
 unfold zEo at *
 by_cases h1:k=b+n
 ·subst h1
  rw[if_pos rfl,h,if_neg (by omega),if_neg (by omega),if_neg (by omega),if_pos (by omega)]
  congr 1
  omega
 ·rw[if_neg h1]
  by_cases h2:k=a+n
  ·subst h2
   rw[if_pos rfl,h,if_neg (by omega),if_neg (by omega),if_pos (by omega)]
   congr 1
   omega
  ·rw[if_neg h2,h]
   by_cases h3:a<=k/\k<a+n
   ·rw[if_pos h3,if_pos (by omega)]
   ·rw[if_neg h3,if_neg (by omega:¬(a<=k/\k<a+(n+1)))]
    by_cases h4:b<=k/\k<b+n
    ·rw[if_pos h4,if_pos (by omega)]
    ·rw[if_neg h4,if_neg (by omega)]
theorem zR6{f:Nat->Val}{m i j:Nat}(hi:i<=m)(ZX:j<i)(hj:0<j):zG4 (zEo f (m-i) m j) (m-i+j) m (m+j)=zG4 f (m-i) m (m+j):=by
 funext k
 unfold zG4 zEo
 by_cases h1:k<m-i∨m+j<=k
 ·rw[if_pos (by omega),if_neg (by omega),if_neg (by omega),if_pos h1]
 ·rw[if_neg h1]
  by_cases h2:k<m-i+j
  ·rw[if_pos (by omega),if_pos (by omega),if_pos (by omega)]
  ·rw[if_neg (by omega),if_neg (by omega:¬k<m-i+(m+j-m))]
   by_cases h3:k<m-i+j+(m+j-m)
   ·rw[if_pos h3,if_neg (by omega),if_pos (by omega)]
    congr 1
    omega
   ·rw[if_neg h3,if_neg (by omega),if_neg (by omega)]
theorem zOk{f:Nat->Val}{m i j:Nat}(hi:i<=m)(ZX:i<j)(h0:0<i):zG4 (zEo f (m-i) (m+j-i) i) (m-i) m (m+(j-i))=zG4 f (m-i) m (m+j):=by
 funext k
 unfold zG4 zEo
 by_cases h1:k<m-i∨m+j<=k
 ·rw[if_pos (by omega),if_neg (by omega),if_neg (by omega),if_pos h1]
 ·rw[if_neg h1]
  by_cases h4:m+j-i<=k
  ·rw[if_pos (by omega),if_neg (by omega),if_pos (by omega),if_neg (by omega)]
   congr 1
   omega
  ·rw[if_neg (by omega)]
   by_cases h2:k<m-i+(m+(j-i)-m)
   ·rw[if_pos h2,if_pos (by omega:k<m-i+(m+j-m))]
    by_cases h5:m-i<=k-(m-i)+m/\k-(m-i)+m<m-i+i
    ·omega
    ·rw[if_neg h5,if_neg (by omega)]
   ·rw[if_neg h2]
    by_cases h6:k<m-i+(m+j-m)
    ·rw[if_pos h6,if_pos (by omega)]
     congr 1
     omega
    ·omega
theorem zR4{f:Nat->Val}{m i:Nat}(hi:i<=m):zEo f (m-i) m i=zG4 f (m-i) m (m+i):=by
 funext k
 unfold zG4 zEo
 by_cases h1:k<m-i∨m+i<=k
 ·rw[if_neg (by omega),if_neg (by omega),if_pos h1]
 ·rw[if_neg h1]
  by_cases h2:k<m
  ·rw[if_pos (by omega),if_pos (by omega)]
  ·rw[if_neg (by omega),if_pos (by omega),if_neg (by omega)]
   congr 1
   omega
structure zAQ where
 base:Nat
 g:Nat
 N:Nat
 cap:Nat
 B:Nat
 SF:Nat
 sb:Array Value
def zAQ.v(T:zAQ):Value:=.slice (some ⟨T.g,0,none⟩) T.N T.cap
def zAQ.less(T:zAQ):Value:=.func (.func 90) #[] #[.pointer (some ⟨T.B,0,none⟩)]
def zAQ.swap(T:zAQ):Value:=.func (.func T.SF) #[] T.sb
structure zAQ.OK(T:zAQ)(w0:World):Prop where
 box:w0.cell? ⟨T.B,0,none⟩=some T.v
 ne:T.B≠T.g
 small:T.N<=1048576
 swp:∀(W:World) (L:List Val) (i j:Nat),zAV W T.base T.v L->i<T.N->j<T.N->∃W',(callFunc T.SF (#[.int .i64 i,.int .i64 j]++T.sb)).run Tryz.prog W=.ok (.value (.tuple #[])) W'/\zAV W' T.base T.v (zGd L i j)/\zAt W W' T.v T.v
theorem zAQ.OK.later{T:zAQ}{w0 W:World}(h:T.OK w0)(hg:zAt w0 W T.v T.v):T.OK W:=
 ⟨by rw[zCG hg (World.block_lt_of_cell? _ _ h.box) (by unfold zAQ.v;simp[Value.ownBlock];exact fun e=>h.ne e.symm)];exact h.box,h.ne,h.small,h.swp⟩
theorem zAQ.keep{T:zAQ}{W W':World}(hg:zAt W W' T.v T.v){b j:Nat}{u:Value}(hb:b≠T.g)(h:W.cell? ⟨b,j,none⟩=some u):W'.cell? ⟨b,j,none⟩=some u:=by
 rw[zCG hg (World.block_lt_of_cell? _ _ h) (by unfold zAQ.v;simp[Value.ownBlock];exact fun e=>hb e.symm)];exact h
theorem zAQ.lenL{T:zAQ}{W:World}{L:List Val}(h:zAV W T.base T.v L):L.length=T.N:=(zAV.len h).symm
theorem zFL(T:zAQ)(W:World)(L:List Val)(i j:Nat)(hT:T.OK W)(hO:zAV W T.base T.v L)(hi:i<T.N)(hj:j<T.N) :
  Calls Tryz.prog 90 #[.int .i64 i,.int .i64 j,.pointer (some ⟨T.B,0,none⟩)] W fun e w'=>e=.returned (.bool (ltV (atL L i) (atL L j)))/\Below W.heap.size W w':=by
 have hl:=zAQ.lenL hO
 have Hs:=hT.box
 obtain⟨c0,c1,c2,_⟩:=zAV.facts hO (zB0 (L:=L) (k:=i) (by omega))
 obtain⟨d0,d1,d2,_⟩:=zAV.facts hO (zB0 (L:=L) (k:=j) (by omega))
 have HO:=zA3 (fun W'=>zCd (atL L i) (atL L j) W')
 rw[Val.open_,Val.open_] at HO
 unfold ltV
 generalize zAh (atL L i) (atL L j)=O at *
 generalize atL L i=x at *
 generalize atL L j=y at *
 unfold zAQ.v at Hs
 have i1:(i:Int)<(T.N:Int):=by omega
 have i2:(j:Int)<(T.N:Int):=by omega
 clear hT hO hl
 go_enter Tryz.func90,Tryz.ntmps90
 go_upto_region 1 with fail
 have k0:=cell_regrown c0
 have k1:=cell_regrown c1
 have k2:=cell_regrown c2
 have k3:=cell_regrown d0
 have k4:=cell_regrown d1
 have k5:=cell_regrown d2
 have k6:=cell_regrown Hs
 clear c0 c1 c2 d0 d1 d2 Hs
 refine wp_region_quiet_below (by kernel_rfl) (by kernel_rfl) ?_
 repeat (go_big_quiet_step (first
  | (go_at_call 85;exact Calls.regrown_of (zA0 HO _))))
 refine wpQuiet_nil ?_
 intro w' Hp
 have hB:Below W.heap.size W w':=by obtain⟨p,rfl⟩:=Hp;exact below_regrown _ _ _
 clear Hp
 go_wp2
 go_ret
 exact⟨rfl,hB⟩
structure zAQ.At(T:zAQ)(b:Nat)(W1 wr:World)(L:List Val):Prop where
 own:zAV wr T.base T.v L
 grew:zAt W1 wr T.v T.v
 ok:T.OK wr
 lt:b<W1.heap.size
 ne:b≠T.g
 c0:wr.cell? ⟨b,0,none⟩=some T.less
 c1:wr.cell? ⟨b,1,none⟩=some T.swap
theorem zAQ.At.grow{T:zAQ}{b:Nat}{W1 wr w':World}{L L':List Val}(h:T.At b W1 wr L)(ho:zAV w' T.base T.v L')(hg:zAt wr w' T.v T.v):T.At b W1 w' L':=
 ⟨ho,h.grew.trans hg,h.ok.later hg,h.lt,h.ne,zAQ.keep hg h.ne h.c0,zAQ.keep hg h.ne h.c1⟩
theorem zAQ.At.below{T:zAQ}{b:Nat}{W1 wr w':World}{L:List Val}(h:T.At b W1 wr L)(hb:Below wr.heap.size wr w'):T.At b W1 w' L:=h.grow (h.own.later hb) (zAt.of_below hb _)
theorem zAQ.At.swp{T:zAQ}{b:Nat}{W1 wr:World}{L:List Val}(h:T.At b W1 wr L){i j:Nat}(hi:i<T.N)(hj:j<T.N):∃W',(callFunc T.SF (#[.int .i64 i,.int .i64 j]++T.sb)).run Tryz.prog wr=.ok (.value (.tuple #[])) W'/\T.At b W1 W' (zGd L i j):=by
 obtain⟨W',h1,h2,h3⟩:=h.ok.swp wr L i j h.own hi hj
 exact⟨W',h1,h.grow h2 h3⟩
theorem zAQ.start{T:zAQ}{W:World}{L:List Val}(hT:T.OK W)(hO:zAV W T.base T.v L):T.At W.heap.size (W.alloc (.cells #[T.less,T.swap] 164)) (W.alloc (.cells #[T.less,T.swap] 164)) L:=by
 have hg:=zAt.alloc W T.v (.cells #[T.less,T.swap] 164)
 have hgl:=(World.ownsRow.lt hO T.g rfl).2
 exact⟨hO.later (zA1 (Below.refl _ _) _),zAt.refl _ _,hT.later hg,by simp,by omega,by simp[go_sem],by simp[go_sem]⟩
theorem zAQ.At.back{T:zAQ}{W wr:World}{L:List Val}(h:T.At W.heap.size (W.alloc (.cells #[T.less,T.swap] 164)) wr L):zAt W wr T.v T.v:=(zAt.alloc W T.v _).trans h.grew
theorem zMM(f:Nat->Val)(a b:Nat):zEo f a b 0=f:=by
 funext k
 unfold zEo
 rw[if_neg (by omega),if_neg (by omega)]
theorem zDk(T:zAQ)(W:World)(L:List Val)(a b n:Nat)(hT:T.OK W)(hO:zAV W T.base T.v L)(yh:a+n<=b)(hb:b+n<=T.N) :
  Calls Tryz.prog 168 #[.agg #[T.less,T.swap],.int .i64 a,.int .i64 b,.int .i64 n] W fun e w'=>e=.returned (.tuple #[])/\∃L',zAV w' T.base T.v L'/\zAt W w' T.v T.v/\PAB a (b+n) L L'/\∀k,atL L' k=zEo (atL L) a b n k:=by
 have H0:=zA3 (zAQ.start hT hO)
 have Ti:=hT.small
 clear hT hO
 go_enter Tryz.func168,Tryz.ntmps168
 go_wp2_with fail
 go_loopw[8] (fun s wr=>∃(k:Nat) (L':List Val),s=.int .i64 (k:Int)/\k<=n/\Hid (T.At W.heap.size (W.alloc (.cells #[T.less,T.swap] 164)) wr L')/\Hid (PAB a (b+n) L L')/\Hid (∀q,atL L' q=zEo (atL L) a b k q)) (fun s _=>n-(intOf s).toNat)
 case atStart=>exact⟨0,L,rfl,Nat.zero_le _,H0,PAB.refl _ _ _,fun q=>by rw[zMM]⟩
 case round=>
  obtain⟨k,L',rfl,hk,HA,HP,HF⟩:=hrel
  have Hf:=zAQ.lenL (zA0 HA).own
  by_cases h1:k<n
  ·have i1:(k:Int)<(n:Int):=by omega
   obtain⟨W',Jp,Di⟩:=(zA0 HA).swp (i:=a+k) (j:=b+k) (by omega) (by omega)
   rw[Int.natCast_add,Int.natCast_add] at Jp
   have c1:=(zA0 HA).c1
   have HA':=zA3 Di
   have HP':=zA3 ((zA0 HP).trans (PAB.swap (i:=a+k) (j:=b+k) (by omega) (by omega) (by omega) (by omega) (by omega) (by omega)))
   have HF':=zA3 (zMN L' a b k (atL L) (by omega) (by omega) (zA0 HF))
   unfold zAQ.swap at c1
   have HSW:=zA3 Jp
   clear Di Jp Hf
   go_wp2
   rw[zA0 HSW,Oper.upon_value]
   go_wp2
   go_roundw
   case rel=>exact⟨k+1,_,by go_num,by omega,HA',HP',HF'⟩
   case measure=>first | (simp[intOf];omega) | (simp only[intOf];omega)
  ·have i1:¬(k:Int)<(n:Int):=by omega
   have Zj:k=n:=by omega
   rw[Zj] at HF
   clear Zj Hf
   go_wp2
   go_end0
   exact⟨rfl,L',(zA0 HA).own,(zA0 HA).back,zA0 HP,zA0 HF⟩
theorem zMi(T:zAQ)(W:World)(L:List Val)(a m b:Nat)(hT:T.OK W)(hO:zAV W T.base T.v L)(ham:a<m)(DO:m<b)(hb:b<=T.N) :
  Calls Tryz.prog 157 #[.agg #[T.less,T.swap],.int .i64 a,.int .i64 m,.int .i64 b] W fun e w'=>e=.returned (.tuple #[])/\∃L',zAV w' T.base T.v L'/\zAt W w' T.v T.v/\PAB a b L L'/\∀k,atL L' k=zG4 (atL L) a m b k:=by
 have H0:=zA3 (zAQ.start hT hO)
 have Ti:=hT.small
 clear hT hO
 have e1:(m:Int)-(a:Int)=((m-a:Nat):Int):=by omega
 have e2:(b:Int)-(m:Int)=((b-m:Nat):Int):=by omega
 go_enter Tryz.func157,Tryz.ntmps157
 go_wp2_with fail
 go_loopw[8,9] (fun s8 s9 wr=>∃(i j:Nat) (L':List Val),s8=.int .i64 (i:Int)/\s9=.int .i64 (j:Int)/\0<i/\0<j/\a+i<=m/\m+j<=b/\Hid (T.At W.heap.size (W.alloc (.cells #[T.less,T.swap] 164)) wr L')/\Hid (PAB a b L L')/\Hid (zG4 (atL L') (m-i) m (m+j)=zG4 (atL L) a m b)) (fun s8 s9 _=>(intOf s8).toNat+(intOf s9).toNat)
 case atStart=>exact⟨m-a,b-m,L,by first|rfl | (rw[<-e1])|simp,by first|rfl | (rw[<-e2])|simp,by omega,by omega,by omega,by omega,H0,PAB.refl _ _ _,by rw[show m-(m-a)=a by omega,show m+(b-m)=b by omega];exact rfl⟩
 case round=>
  obtain⟨i,j,L',rfl,rfl,hi,hj,him,FH,HA,HP,HF⟩:=hrel
  have c0:=(zA0 HA).c0
  have c1:=(zA0 HA).c1
  have f1:(m:Int)-(i:Int)=((m-i:Nat):Int):=by omega
  have HAG:Hid (∀w' L2,zAV w' T.base T.v L2->zAt wr w' T.v T.v->T.At W.heap.size (W.alloc (.cells #[T.less,T.swap] 164)) w' L2):=fun w' L2 h1 h2=>(zA0 HA).grow h1 h2
  by_cases h1:i=j
  ·subst h1
   have i1:((i:Int) != (i:Int))=false:=by simp
   have HS:=zA3 (zDk T wr L' (m-i) m i (zA0 HA).ok (zA0 HA).own (by omega) (by omega))
   have HB:=zA3 (zA0 HA).back
   clear HAG
   go_wp2_with (go_at_call 168;refine(zA0 HS).mono ?_;rintro e w2 ⟨rfl,L2,q1,q2,q3,q4⟩)
   go_end0
   refine⟨rfl,L2,q1,(zA0 HB).trans q2,(zA0 HP).trans (q3.widen (by omega) (by omega)),fun k=>?_⟩
   rw[q4 k,zR4 (by omega),zA0 HF]
  ·have i1:((i:Int) != (j:Int))=true:=by simp;omega
   by_cases h2:j<i
   ·have i2:(j:Int)<(i:Int):=by omega
    have HS:=zA3 (zDk T wr L' (m-i) m j (zA0 HA).ok (zA0 HA).own (by omega) (by omega))
    have hR:=zR6 (f:=atL L') (m:=m) (i:=i) (j:=j) (by omega) h2 hj
    rw[zA0 HF] at hR
    have HR:=zA3 hR
    clear hR
    go_wp2_with (go_at_call 168;refine(zA0 HS).mono ?_;rintro e w2 ⟨rfl,L2,q1,q2,q3,q4⟩;replace q1:=zA3 q1;replace q2:=zA3 q2;replace q3:=zA3 q3;replace q4:=zA3 q4)
    go_roundw
    case rel=>
     refine⟨i-j,j,L2,by go_num,rfl,by omega,hj,by omega,FH,zA0 HAG _ _ (zA0 q1) (zA0 q2),(zA0 HP).trans ((zA0 q3).widen (by omega) (by omega)),?_⟩
     show _=_
     have:atL L2=zEo (atL L') (m-i) m j:=funext (zA0 q4)
     rw[this,<-zA0 HR,show m-(i-j)=m-i+j by omega]
    case measure=>first | (simp[intOf];omega) | (simp only[intOf];omega)
   ·have i2:¬(j:Int)<(i:Int):=by omega
    have f2:(m:Int)+(j:Int)-(i:Int)=((m+j-i:Nat):Int):=by omega
    have HS:=zA3 (zDk T wr L' (m-i) (m+j-i) i (zA0 HA).ok (zA0 HA).own (by omega) (by omega))
    have hR:=zOk (f:=atL L') (m:=m) (i:=i) (j:=j) (by omega) (by omega) hi
    rw[zA0 HF] at hR
    have HR:=zA3 hR
    clear hR
    go_wp2_with (go_at_call 168;refine(zA0 HS).mono ?_;rintro e w2 ⟨rfl,L2,q1,q2,q3,q4⟩;replace q1:=zA3 q1;replace q2:=zA3 q2;replace q3:=zA3 q3;replace q4:=zA3 q4)
    go_roundw
    case rel=>
     refine⟨i,j-i,L2,rfl,by go_num,hi,by omega,him,by omega,zA0 HAG _ _ (zA0 q1) (zA0 q2),(zA0 HP).trans ((zA0 q3).widen (by omega) (by omega)),?_⟩
     show _=_
     have:atL L2=zEo (atL L') (m-i) (m+j-i) i:=funext (zA0 q4)
     rw[this,<-zA0 HR]
    case measure=>first | (simp[intOf];omega) | (simp only[intOf];omega)
end Go.Proofs.YtekgpapophibcaaGreat
