import Derived.Test.YtbfibfmnemnbbaaGreatPackVa
import Derived.Test.YtbfibfmnemnbbaaGreatPackN
set_option linter.unusedSimpArgs false
set_option linter.unusedVariables false
set_option maxHeartbeats 8000000
set_option maxRecDepth 100000
namespace Go.Proofs.YtbfibfmnemnbbaaGreat
open Go.RowKit Go.Sort
def offN(least:Int)(x:Val):Nat:=((x.n-least) % 18446744073709551616).toNat
theorem offN_lt(least:Int)(x:Val):offN least x<18446744073709551616:=by unfold offN;omega
theorem offN_wrap(least:Int)(x:Val):IntKind.u64.wrap (IntKind.u64.wrap x.n-IntKind.u64.wrap least)=(offN least x:Int):=by
 simp only[IntKind.wrap_u64,offN]
 omega
def leastI:List Val->Int
 | []=>0
 | x::xs=>(minFrom x xs).n
def widL(least:Int)(xs:List Val):Nat:=xs.foldl (fun m x=>max m (bl (offN least x))) 0
theorem widL_next{least:Int}{xs:List Val}{k:Nat}{x:Val}(h:xs[k]?=some x):widL least (xs.take (k+1))=max (widL least (xs.take k)) (bl (offN least x)):=by
 obtain⟨h1,rfl⟩:=List.getElem?_eq_some_iff.1 h
 unfold widL
 rw[List.take_succ_eq_append_getElem h1,List.foldl_append]
 rfl
theorem wid_acc(least:Int):∀(xs:List Val) (m:Nat),m<=64->xs.foldl (fun m x=>max m (bl (offN least x))) m<=64
 | [],m,h=>h
 | x::xs,m,h=>by
  rw[List.foldl_cons]
  refine wid_acc least xs _ ?_
  have:bl (offN least x)<=64:=bl_le (by have:=offN_lt least x;simpa using this)
  omega
theorem widL_le(least:Int)(xs:List Val):widL least xs<=64:=wid_acc least xs 0 (by omega)
theorem wid_ge(least:Int):∀(xs:List Val) (m:Nat),m<=xs.foldl (fun m x=>max m (bl (offN least x))) m/\∀x∈xs,bl (offN least x)<=xs.foldl (fun m x=>max m (bl (offN least x))) m
 | [],m=>⟨Nat.le_refl _,fun x h=>by cases h⟩
 | x::xs,m=>by
  rw[List.foldl_cons]
  obtain⟨h1,h2⟩:=wid_ge least xs (max m (bl (offN least x)))
  refine⟨by omega,fun y hy=>?_⟩
  rcases List.mem_cons.1 hy with rfl|hy
  ·omega
  ·exact h2 y hy
theorem widL_ge{least:Int}{xs:List Val}{x:Val}(h:x∈xs):offN least x<2 ^ widL least xs:=by
 have h1:=(wid_ge least xs 0).2 x h
 exact Nat.lt_of_lt_of_le (bl_lt _) (Nat.pow_le_pow_right (by decide) h1)
def offsB(least:Int)(xs:List Val):List Int:=(beL (IntKind.u64.wrap least) 8 8++beL (widL least xs:Int) 1 1)++leB (total (widL least xs) (xs.map (offN least))) (bytesN xs.length (widL least xs))
theorem apoffs_any(base b0:Nat)(zs:List Int)(xs:List Val)(vv v:Value)(w:World)(hown:OwnB w base v zs)(hlen:zs.length<=1000000)(hl:xs.length<=4096)(hbase:base<=w.heap.size)(ha:OwnV w b0 vv xs) :
  Calls Tryz.prog 126 #[v,vv] w fun e w'=>∃v',e=.returned v'/\OwnB w' base v' (zs++offsB (leastI xs) xs)/\Grew w w' v v':=by
 obtain⟨i6,hi6,z60,z61,z62⟩:=info_parts Tryz.info84
 obtain⟨aa,ca,rfl,hspot,hnone,hrow⟩:=ownV_slice ha
 have hgv:∀g,v.ownBlock=some g->g<w.heap.size:=fun g hg=>(ownB_lt hown hg).2
 obtain⟨ls,hls⟩:∃ls,Hid (ls=leastI xs):=⟨_,rfl⟩
 rw[<-unhide hls]
 obtain⟨ns,hns⟩:∃ns,Hid (ns=xs.map (offN ls)):=⟨_,rfl⟩
 have HNL:Hid (ns.length=xs.length):=by show _=_;rw[unhide hns];simp
 have HOWN:=hide hown
 have HROW:=hide hrow
 have HGV:=hide hgv
 have HSEP:Hid (∀ad,aa=some ad->v.ownBlock≠some ad.block):=fun ad e=>ownB_ownV_ne hown ha ad.block (by rw[e];rfl)
 have H5:Hid (∀W,Below w.heap.size w W->Calls Tryz.prog 120 #[v,.int .u64 (IntKind.u64.wrap ls),.int .i64 8] W fun e w'=>∃v',e=.returned v'/\OwnB w' base v' (zs++beL (IntKind.u64.wrap ls) 8 8)/\Grew W w' v v'):=fun W hW=>
  appnum_any base zs _ 8 v W (by omega) (own_later hown hW) (by omega) (by have:=hW.size;omega)
 have H6:Hid (∀W v' (D:Nat),base<=W.heap.size->OwnB W base v' (zs++beL (IntKind.u64.wrap ls) 8 8)->Calls Tryz.prog 120 #[v',.int .u64 (D:Int),.int .i64 1] W fun e w'=>∃v3,e=.returned v3/\OwnB w' base v3 (zs++(beL (IntKind.u64.wrap ls) 8 8++beL (D:Int) 1 1))/\Grew W w' v' v3):=fun W v' D hW hO=>
  (appnum_any base _ (D:Int) 1 v' W (by omega) hO (by rw[List.length_append,beL_len];omega) hW).mono fun e w' ⟨v3,he,h1,h2⟩=>⟨v3,he,by rw[<-List.append_assoc];exact h1,h2⟩
 cases hxs:xs with
 | nil=>
  subst hxs
  have e0:ls=0:=unhide hls
  have HW0:Hid (IntKind.u64.wrap ls=0):=by show _=_;rw[e0];rfl
  have H7:Hid (∀W v8,OwnB W base v8 (zs++(beL (IntKind.u64.wrap ls) 8 8++beL ((0:Nat):Int) 1 1))->Grew w W v v8->LisAt W (some ⟨w.heap.size,0,none⟩) (([]:List Nat).map fun n:Nat=>Value.int .u64 (n:Int))->v8.ownBlock≠some w.heap.size->Calls Tryz.prog 140 #[v8,.slice (some ⟨w.heap.size,0,none⟩) 0 0,.int .i64 0] W fun e w'=>∃v3,e=.returned v3/\OwnB w' base v3 (zs++offsB ls [])/\Grew w w' v v3):=fun W v8 o1 o2 l1 l2=>by
   have:=apbits_any base _ (some ⟨w.heap.size,0,none⟩) 0 [] 0 v8 W o1 (by rw[List.length_append,List.length_append,beL_len,beL_len];omega) (by simp) (by omega) (fun n hn=>by cases hn) (by have:=o2.1.size;omega) l1 (fun ad e=>by injection e with e;subst e;exact l2)
   refine this.mono fun e w' ⟨v3,he,h5,h6⟩=>⟨v3,he,?_,o2.trans h6⟩
   rw[offsB,<-List.append_assoc]
   exact h5
  rw[unhide HW0] at H5 H6 H7
  clear hown hrow hgv ha hnone hspot
  go_enter Tryz.func126,Tryz.ntmps126
  go_wp2_with (first
   | (at_make;refine wpList_make_row _ rfl (.tmp 17) (.tmp 17) 115 rfl 84 i6 (.int .u64 0) Tryz.underlying115 hi6 z60 z61 rfl .i64 .i64 0 rfl rfl (by rw[z62];omega) (by omega) ?_)
   | fail)
  refine wp_loop_rounds 1 ?_
  rw[rounds_succ]
  have bl:=below_alloc (Below.refl _ w) (.cells (madeCells #[.int .u64 0] 0) 84)
  have H5w:=hide (unhide H5 _ bl)
  have H6b:=hide (fun W v' hW h1=>unhide H6 W v' 0 hW h1)
  have HGB:=hide (Grew.of_below bl v)
  have HNB:Hid (∀W v8,Grew (w.alloc (.cells (madeCells #[.int .u64 0] 0) 84)) W v v8->v8.ownBlock≠some w.heap.size):=fun W v8 h2 e=>by
   rcases h2.2 with h3|⟨g,h3,h4⟩
   ·rw[e] at h3
    have:=unhide HGV _ h3.symm
    omega
   ·rw[e] at h3
    injection h3 with h3
    simp at h4
    omega
  clear bl H5 H6
  go_wp2_with (first
   | (go_at_call_of 120 v;refine(unhide H5w).mono ?_;rintro e w2 ⟨v2,rfl,g1,g2⟩;replace g1:=hide g1;replace g2:=hide g2;have hb2:base<=w2.heap.size:=(by have:=(unhide g2).1.size;simp at this;omega))
   | (go_at_call 120;refine(unhide H6b _ _ hb2 (unhide g1)).mono ?_;rintro e w3 ⟨v3,rfl,g3,g4⟩;replace g3:=hide g3;replace g4:=hide g4)
   | (go_at_call 140;refine(unhide H7 _ _ (unhide g3) ((unhide HGB).trans ((unhide g2).trans (unhide g4))) (.inl rfl) (unhide HNB _ _ ((unhide g2).trans (unhide g4)))).mono ?_;rintro e w4 ⟨v4,rfl,h5,h6⟩))
  go_ret
  exact⟨_,rfl,h5,h6⟩
 | cons x0 ys=>
  have HMIN:=hide (vmin_any aa ca x0 ys w (by rw[<-hxs];omega) (by rw[<-hxs];exact hrow))
  rw[<-hxs] at HMIN ⊢
  have HLS:Hid ((minFrom x0 ys).n=ls):=by show _=_;rw[unhide hls,hxs];rfl
  rw[Val.open_] at HMIN
  rw[unhide HLS] at HMIN
  have h0:(0:Int)<(xs.length:Int):=by rw[hxs,List.length_cons];omega
  generalize (minFrom x0 ys).k=mk at *
  generalize (minFrom x0 ys).s=ms at *
  clear hxs HLS hown hrow hgv ha hnone hspot
  have hfd:∀W:World,(Instr.field 25 (.agg #[.int .i64 mk,.int .i64 ls,.string ms]) 1).run Tryz.prog W=.ok (.int .i64 ls) W:=fun _=>by kernel_rfl
  go_enter Tryz.func126,Tryz.ntmps126
  go_wp2_with (first
   | (go_at_call 147;refine(unhide HMIN).mono ?_;rintro e w1 ⟨rfl,hb1⟩;replace hb1:=hide hb1)
   | (at_make;refine wpList_make_row _ rfl (.tmp 17) (.tmp 17) 115 rfl 84 i6 (.int .u64 0) Tryz.underlying115 hi6 z60 z61 rfl .i64 .i64 xs.length rfl rfl (by rw[z62];omega) (by omega) ?_)
   | fail)
  have HR1:=hide ((unhide HROW).later (unhide hb1))
  have hsz1:=(unhide hb1).size
  go_loopw[7,21] (fun s7 s wr=>∃k:Nat,k<=xs.length/\s=.int .i64 (k:Int)/\s7=.int .i64 (widL ls (xs.take k):Nat)/\wr.rowIs w1.heap.size 84 xs.length (numF ns k)/\Below w1.heap.size w1 wr) (fun _ s _=>xs.length-(intOf s).toNat)
  case atStart=>exact⟨0,Nat.zero_le _,rfl,rfl,(World.rowIs_made w1 (.int .u64 0) xs.length 84).congr fun j hj=>by simp[numF],below_alloc (Below.refl _ _) _⟩
  case round=>
   obtain⟨k,hk,rfl,rfl,hr,hb⟩:=hrel
   by_cases h8:k<xs.length
   ·have h9:(k:Int)<(xs.length:Int):=by omega
    obtain⟨x,hx⟩:∃x,xs[k]?=some x:=⟨_,List.getElem?_eq_getElem h8⟩
    rcases(unhide HR1).later hb with e|⟨rb,ro,rfl,hc⟩
    ·rw[e] at hx;cases hx
    obtain⟨c0,c1,c2⟩:=hc k x hx
    have hnk:ns[k]?=some (offN ls x):=by rw[unhide hns];simp[hx]
    have HM:=hide (numF_next hnk)
    have hw1:=offN_wrap ls x
    have HLT:=offN_lt ls x
    have HWN:=hide (widL_next (least:=ls) hx)
    have hwl:=widL_le ls (xs.take k)
    have hwl2:bl (offN ls x)<=64:=bl_le (by simpa using HLT)
    have HL:=hide (fun W=>len64_any (offN ls x) W HLT)
    generalize offN ls x=pp at *
    obtain⟨WN,hWN⟩:∃WN,Hid (WN=widL ls (xs.take (k+1))):=⟨_,rfl⟩
    rw[<-unhide hWN] at HWN
    generalize widL ls (xs.take k)=wd at *
    generalize bl pp=bb at *
    have emax:(if wd<bb then (bb:Int) else (wd:Int))=(WN:Int):=by rw[unhide HWN];split<;>omega
    have HR1r:=hide hr
    have HB1r:=hide hb
    have hcw:=hr.cell h8
    have hfw:=hr.frozen k
    have HB2:=hide (below_alloc hb (.cells #[.int .i64 x.k,.int .i64 x.n,.string x.s] 25))
    have hszr:=hb.size
    have hltr:=hr.lt
    clear hc hx hr hb hnk
    go_wp2_with (go_at_call 148;refine(unhide HL _).mono ?_;rintro e w9 ⟨rfl,rfl⟩)
    go_roundw
    case rel=>
     refine⟨k+1,by omega,by go_num,?_,(((unhide HR1r).set k (.int .u64 (pp:Int))).alloc _).congr fun j hj=>?_,below_alloc ((unhide HB1r).setCell (p:=⟨w1.heap.size,k,none⟩) (Nat.le_refl _) _) _⟩
     ·rw[<-unhide hWN,unhide HWN]
      congr 1
      omega
     ·rw[unhide HM j]
    case measure=>first | (simp[intOf];omega) | (simp only[intOf];omega)
   ·have h9:¬(k:Int)<(xs.length:Int):=by omega
    have hk8:k=xs.length:=by omega
    rw[hk8,<-unhide HNL] at hr
    rw[hk8,List.take_length]
    have hlis:=numF_lis hr
    have hbw:=below_step (unhide hb1) hb
    have hltr:=hr.lt
    have HL1:Hid (∀w' v',Grew wr w' v v'->LisAt w' (some ⟨w1.heap.size,0,none⟩) (ns.map fun n:Nat=>Value.int .u64 (n:Int))/\v'.ownBlock≠some w1.heap.size):=fun w' v' h2=>by
     refine⟨hlis.grew h2 (fun ad e=>?_),fun e=>?_⟩
     ·injection e with e
      subst e
      intro h3
      have:=unhide HGV _ h3
      simp at this
      omega
     ·rcases h2.2 with h3|⟨g,h3,h4⟩
      ·rw[e] at h3
       have:=unhide HGV _ h3.symm
       omega
      ·rw[e] at h3
       injection h3 with h3
       omega
    have H5w:=hide (unhide H5 wr hbw)
    have hwl:=widL_le ls xs
    have HD7:Hid (∀n∈ns,n<2 ^ widL ls xs):=fun n hn=>by
     rw[unhide hns] at hn
     obtain⟨x,hx,rfl⟩:=List.mem_map.1 hn
     exact widL_ge hx
    obtain⟨RR,hRR⟩:∃RR,Hid (RR=offsB ls xs):=⟨_,rfl⟩
    have HOF:Hid (RR=(beL (IntKind.u64.wrap ls) 8 8++beL (widL ls xs:Int) 1 1)++leB (total (widL ls xs) ns) (bytesN xs.length (widL ls xs))):=by show _=_;rw[unhide hRR,offsB,unhide hns]
    generalize widL ls xs=D at *
    have H7:Hid (∀W v8,OwnB W base v8 (zs++(beL (IntKind.u64.wrap ls) 8 8++beL (D:Int) 1 1))->Grew wr W v v8->Calls Tryz.prog 140 #[v8,.slice (some ⟨w1.heap.size,0,none⟩) xs.length xs.length,.int .i64 (D:Int)] W fun e w'=>∃v3,e=.returned v3/\OwnB w' base v3 (zs++RR)/\Grew w w' v v3):=fun W v8 o1 o2=>by
     obtain⟨l1,l2⟩:=unhide HL1 W v8 o2
     have:=apbits_any base _ (some ⟨w1.heap.size,0,none⟩) xs.length ns D v8 W o1 (by rw[List.length_append,List.length_append,beL_len,beL_len];omega) (by rw[unhide HNL];omega) hwl (unhide HD7) (by have:=o2.1.size;have:=hbw.size;omega) l1 (fun ad e=>by injection e with e;subst e;exact l2)
     rw[unhide HNL] at this
     refine this.mono fun e w' ⟨v3,he,h5,h6⟩=>⟨v3,he,?_,((Grew.of_below hbw v).trans o2).trans h6⟩
     rw[unhide HOF,<-List.append_assoc]
     exact h5
    have hD4:(D:Int)<=64:=by omega
    have hbs:base<=wr.heap.size:=by have:=hbw.size;omega
    have H6b:=hide (fun W v' hW h1=>unhide H6 W v' D hW h1)
    clear hr hb hlis hk8 hwl H6 H5
    go_wp2_with (first
     | (go_at_call_of 120 v;refine(unhide H5w).mono ?_;rintro e w2 ⟨v2,rfl,g1,g2⟩;replace g1:=hide g1;replace g2:=hide g2;have hb2:base<=w2.heap.size:=(by have:=(unhide g2).1.size;omega))
     | (go_at_call 120;refine(unhide H6b _ _ hb2 (unhide g1)).mono ?_;rintro e w3 ⟨v3,rfl,g3,g4⟩;replace g3:=hide g3;replace g4:=hide g4)
     | (go_at_call 140;refine(unhide H7 _ _ (unhide g3) ((unhide g2).trans (unhide g4))).mono ?_;rintro e w4 ⟨v4,rfl,h5,h6⟩))
    go_ret
    exact⟨_,rfl,by rw[<-unhide hRR];exact h5,h6⟩
end Go.Proofs.YtbfibfmnemnbbaaGreat
set_option linter.unusedSimpArgs false
set_option linter.unusedVariables false
set_option maxHeartbeats 8000000
set_option maxRecDepth 100000
namespace Go.Proofs.YtbfibfmnemnbbaaGreat
open Go.RowKit Go.Sort
theorem own_mono{w:World}{b b' e s n:Nat}{v:Value}{xs:List Value}(h:w.ownsRow b e s v n xs)(hb:b'<=b):w.ownsRow b' e s v n xs:=by
 refine⟨h.1,?_⟩
 rcases h.2 with h1|⟨g,cap,cur,e1,h2,rest⟩
 ·exact .inl h1
 ·exact .inr ⟨g,cap,cur,e1,Nat.le_trans hb h2,rest⟩
def headB(sch kd:Nat)(xs:List Val):List Int:=((beL (sch:Int) 1 1++beL (kd:Int) 1 1)++beL (xs.length:Int) 4 4)++nullsL xs
def BodyB(sch:Nat)(ys:List Val)(b:List Int):Prop:=
 (sch=1/\b=plains ys)∨(sch=2/\b=beL (runsN ys.length ys:Int) 4 4++runsB ys.length ys)∨(sch=3/\∃W,WordsOf ys W/\b=wordsB W ys)∨(sch=4/\b=offsB (leastI ys) ys)
def St(w:World)(b0:Nat)(vv:Value)(xs:List Val)(W:World)(v:Value)(zs:List Int):Prop:=OwnB W w.heap.size v zs/\Below w.heap.size w W/\OwnV W b0 vv xs
theorem St.grew{w:World}{b0:Nat}{vv:Value}{xs:List Val}{W W':World}{v v':Value}{zs zs':List Int}(h:St w b0 vv xs W v zs)(hO:OwnB W' w.heap.size v' zs')(hg:Grew W W' v v'):St w b0 vv xs W' v' zs':=
 ⟨hO,h.2.1.trans (hg.below h.2.1.size fun g e=>(ownB_lt h.1 e).1),h.2.2.grew hg (ownB_ownV_ne h.1 h.2.2)⟩
theorem St.num{w:World}{b0:Nat}{vv:Value}{xs:List Val}{W:World}{v:Value}{zs:List Int}(h:St w b0 vv xs W v zs)(U:Int)(n:Nat)(hn:n<=8)(hz:zs.length<=1000) :
  Calls Tryz.prog 120 #[v,.int .u64 U,.int .i64 n] W fun e w'=>∃v',e=.returned v'/\St w b0 vv xs w' v' (zs++beL U n n):=
 (appnum_any w.heap.size zs U n v W hn h.1 (by omega) h.2.1.size).mono fun e w' ⟨v',he,h1,h2⟩=>⟨v',he,h.grew h1 h2⟩
theorem nulls_len(xs:List Val)(h:xs.length<=4096):(nullsL xs).length<=520:=by
 unfold nullsL
 split
 ·rw[List.length_append,beL_len,leB_len]
  unfold bytesN
  omega
 ·rw[beL_len];omega
theorem nulls_st{w:World}{b0:Nat}{aa:Option Addr}{ca:Nat}{xs:List Val}{W:World}{v:Value}{zs:List Int}(h:St w b0 (.slice aa xs.length ca) xs W v zs)(hl:xs.length<=4096)(hz:zs.length<=1000) :
  Calls Tryz.prog 121 #[v,.slice aa xs.length ca] W fun e w'=>∃v',e=.returned v'/\St w b0 (.slice aa xs.length ca) xs w' v' (zs++nullsL xs):=by
 obtain⟨a1,c1,e1,_,_,hr⟩:=ownV_slice h.2.2
 injection e1 with e1 _ e2
 subst e1 e2
 exact(apnulls_any w.heap.size zs aa ca xs v W h.1 (by omega) hl h.2.1.size hr).mono fun e w' ⟨v',he,h1,h2⟩=>⟨v',he,h.grew h1 h2⟩
theorem clone_st{w:World}{b0:Nat}{aa:Option Addr}{ca:Nat}{xs:List Val}{W:World}{v:Value}{zs:List Int}(h:St w b0 (.slice aa xs.length ca) xs W v zs)(hl:xs.length<=4096) :
  Calls Tryz.prog 123 #[.slice aa xs.length ca] W fun e w'=>∃v',e=.returned v'/\OwnB w' w.heap.size v zs/\Below w.heap.size w w'/\OwnV w' w.heap.size v' xs:=by
 obtain⟨a1,c1,e1,hsp,hn,hr⟩:=ownV_slice h.2.2
 injection e1 with e1 _ e2
 subst e1 e2
 exact(vclone_any aa ca xs W (by omega) hsp hr hn).mono fun e w' ⟨v',he,h1,h2⟩=>⟨v',he,own_later h.1 h2,below_step h.2.1 h2,own_mono h1 h.2.1.size⟩
theorem delete_st{w:World}{v9:Value}{xs:List Val}{W:World}{v:Value}{zs:List Int}(h:OwnB W w.heap.size v zs/\Below w.heap.size w W/\OwnV W w.heap.size v9 xs)(hl:xs.length<=4096) :
  Calls Tryz.prog 122 #[v9,.func (.func 93) #[] #[]] W fun e w'=>∃v',e=.returned v'/\OwnB w' w.heap.size v zs/\Below w.heap.size w w'/\OwnV w' w.heap.size v' (standL xs):=
 (vdelete_any w.heap.size xs v9 W (by omega) h.2.2).mono fun e w' ⟨v',he,h1,h2⟩=>⟨v',he,h.1.grew h2 (fun g e1 e2=>ownB_ownV_ne h.1 h.2.2 g e2 e1),h.2.1.trans (h2.below h.2.1.size fun g e=>(World.ownsRow.lt h.2.2 g e).1),h1⟩
theorem done_below{w W w':World}{v v':Value}{zs:List Int}(h:OwnB W w.heap.size v zs)(hb:Below w.heap.size w W)(hg:Grew W w' v v'):Below w.heap.size w w':=hb.trans (hg.below hb.size fun g e=>(ownB_lt h e).1)
theorem body_st(sch:Nat){w:World}{v10:Value}{ys:List Val}{W:World}{v:Value}{zs:List Int}(h:OwnB W w.heap.size v zs/\Below w.heap.size w W/\OwnV W w.heap.size v10 ys)(hl:ys.length<=4096)(hs:∀x∈ys,x.s.size<=1000)(hz:zs.length<=1000000)(f:Nat)(hf:(sch=1/\f=127)∨(sch=2/\f=124)∨(sch=3/\f=125)∨(sch=4/\f=126)) :
  Calls Tryz.prog f #[v,v10] W fun e w'=>∃v' b,e=.returned v'/\BodyB sch ys b/\OwnB w' w.heap.size v' (zs++b)/\Below w.heap.size w w':=by
 obtain⟨h1,h2,h3⟩:=h
 have hsep:=ownB_ownV_ne h1 h3
 obtain⟨aa,ca,rfl,hsp,hn,hr⟩:=ownV_slice h3
 have hca:ys.length<=ca:=by
  rcases h3.2 with ⟨e,_⟩|⟨g,cap,cur,e,_,_,hc,_⟩
  ·injection e with _ e1 e2;omega
  ·injection e with _ e1 e2;omega
 rcases hf with ⟨rfl,rfl⟩|⟨rfl,rfl⟩|⟨rfl,rfl⟩|⟨rfl,rfl⟩
 ·exact(applains_any w.heap.size zs aa ca ys v W h1 (by omega) hs h2.size hr (fun ad e=>hsep ad.block (by rw[e];rfl))).mono fun e w' ⟨v',he,q1,q2⟩=>⟨v',_,he,.inl ⟨rfl,rfl⟩,q1,done_below h1 h2 q2⟩
 ·exact(runs_loop w.heap.size zs aa ca ys v W h1 hl hca hz hs h2.size hr (fun ad e=>hsep ad.block (by rw[e];rfl))).mono fun e w' ⟨v',he,q1,q2⟩=>⟨v',_,he,.inr (.inl ⟨rfl,rfl⟩),q1,done_below h1 h2 q2⟩
 ·exact(apwords_any w.heap.size w.heap.size zs ys _ v W h1 hz hl hs h2.size h3).mono fun e w' ⟨Wd,v',hW,he,q1,q2⟩=>⟨v',_,he,.inr (.inr (.inl ⟨rfl,Wd,hW,rfl⟩)),q1,done_below h1 h2 q2⟩
 ·exact(apoffs_any w.heap.size w.heap.size zs ys _ v W h1 hz hl h2.size h3).mono fun e w' ⟨v',he,q1,q2⟩=>⟨v',_,he,.inr (.inr (.inr ⟨rfl,rfl⟩)),q1,done_below h1 h2 q2⟩
theorem written_any(sch kd:Nat)(b0:Nat)(xs:List Val)(vv:Value)(w:World)(hsch:sch=1∨sch=2∨sch=3∨sch=4)(hkd:kd<=2)(hl:xs.length<=4096)(hs:∀x∈xs,x.s.size<=1000)(ha:OwnV w b0 vv xs) :
  Calls Tryz.prog 90 #[.int .i64 (kd:Int),vv,.int .i64 (sch:Int)] w fun e w'=>∃v' b,e=.returned v'/\Hid (BodyB sch (standL xs) b)/\Hid (OwnB w' w.heap.size v' (headB sch kd xs++b))/\Below w.heap.size w w':=by
 obtain⟨aa,ca,rfl,_,_,_⟩:=ownV_slice ha
 have S0:Hid (St w b0 (.slice aa xs.length ca) xs w (.slice none 0 0) []):=⟨World.ownsRow_nil _ _ _ _,Below.refl _ _,ha⟩
 have hkd2:(kd:Int)<=2:=by omega
 have hl4:(xs.length:Int)<=4096:=by omega
 have HL:=hide hl
 have HSL:Hid ((standL xs).length<=4096):=Nat.le_trans (stand_len xs) hl
 have HS2:Hid (∀x∈standL xs,x.s.size<=1000):=fun x hx=>hs x (List.mem_filter.1 hx).1
 have HZ:Hid ((headB sch kd xs).length<=1000000):=by
  show _<=_
  have:=nulls_len xs hl
  simp only[headB,List.length_append,beL_len]
  omega
 have HB:Hid (∀W v v10 f,(OwnB W w.heap.size v (headB sch kd xs)/\Below w.heap.size w W/\OwnV W w.heap.size v10 (standL xs))->((sch=1/\f=127)∨(sch=2/\f=124)∨(sch=3/\f=125)∨(sch=4/\f=126))->Calls Tryz.prog f #[v,v10] W fun e w'=>∃v' b,e=.returned v'/\Hid (BodyB sch (standL xs) b)/\Hid (OwnB w' w.heap.size v' (headB sch kd xs++b))/\Below w.heap.size w w'):=fun W v v10 f h hf=>body_st sch h (unhide HSL) (unhide HS2) (unhide HZ) f hf
 have H1:Hid (Calls Tryz.prog 120 #[.slice none 0 0,.int .u64 (sch:Int),.int .i64 1] w fun e w'=>∃v',e=.returned v'/\Hid (St w b0 (.slice aa xs.length ca) xs w' v' (beL (sch:Int) 1 1))):=(unhide S0).num (sch:Int) 1 (by omega) (by simp)
 have H2:Hid (∀W v,Hid (St w b0 (.slice aa xs.length ca) xs W v (beL (sch:Int) 1 1))->Calls Tryz.prog 120 #[v,.int .u64 (kd:Int),.int .i64 1] W fun e w'=>∃v',e=.returned v'/\Hid (St w b0 (.slice aa xs.length ca) xs w' v' (beL (sch:Int) 1 1++beL (kd:Int) 1 1))):=fun W v h=>St.num h (kd:Int) 1 (by omega) (by rw[beL_len];omega)
 have H3:Hid (∀W v,Hid (St w b0 (.slice aa xs.length ca) xs W v (beL (sch:Int) 1 1++beL (kd:Int) 1 1))->Calls Tryz.prog 120 #[v,.int .u64 (xs.length:Int),.int .i64 4] W fun e w'=>∃v',e=.returned v'/\Hid (St w b0 (.slice aa xs.length ca) xs w' v' ((beL (sch:Int) 1 1++beL (kd:Int) 1 1)++beL (xs.length:Int) 4 4))):=fun W v h=>St.num h (xs.length:Int) 4 (by omega) (by rw[List.length_append,beL_len,beL_len];omega)
 have H4:Hid (∀W v,Hid (St w b0 (.slice aa xs.length ca) xs W v ((beL (sch:Int) 1 1++beL (kd:Int) 1 1)++beL (xs.length:Int) 4 4))->Calls Tryz.prog 121 #[v,.slice aa xs.length ca] W fun e w'=>∃v',e=.returned v'/\Hid (St w b0 (.slice aa xs.length ca) xs w' v' (headB sch kd xs))):=fun W v h=>nulls_st h (unhide HL) (by rw[List.length_append,List.length_append,beL_len,beL_len,beL_len];omega)
 have H5:Hid (∀W v,Hid (St w b0 (.slice aa xs.length ca) xs W v (headB sch kd xs))->Calls Tryz.prog 123 #[.slice aa xs.length ca] W fun e w'=>∃v',e=.returned v'/\Hid (OwnB w' w.heap.size v (headB sch kd xs)/\Below w.heap.size w w'/\OwnV w' w.heap.size v' xs)):=fun W v h=>clone_st h (unhide HL)
 have H6:Hid (∀W v v9,Hid (OwnB W w.heap.size v (headB sch kd xs)/\Below w.heap.size w W/\OwnV W w.heap.size v9 xs)->Calls Tryz.prog 122 #[v9,.func (.func 93) #[] #[]] W fun e w'=>∃v',e=.returned v'/\Hid (OwnB w' w.heap.size v (headB sch kd xs)/\Below w.heap.size w w'/\OwnV w' w.heap.size v' (standL xs))):=fun W v v9 h=>delete_st h (unhide HL)
 clear ha hs hl
 generalize headB sch kd xs=HD at *
 rcases hsch with rfl|rfl|rfl|rfl
 all_goals
  go_enter Tryz.func90,Tryz.ntmps90
  go_wp2_with (first
   | (go_at_call_of 120 (Value.slice none 0 0);refine(unhide H1).mono ?_;rintro e w1 ⟨v1,rfl,q1⟩)
   | (go_at_call_of 120 (Value.int IntKind.u64 (kd:Int));refine(unhide H2 _ _ q1).mono ?_;rintro e w2 ⟨v2,rfl,q2⟩)
   | (go_at_call_of 120 (Value.int IntKind.i64 4);refine(unhide H3 _ _ q2).mono ?_;rintro e w3 ⟨v3,rfl,q3⟩)
   | (go_at_call 121;refine(unhide H4 _ _ q3).mono ?_;rintro e w4 ⟨v4,rfl,q4⟩)
   | (go_at_call 123;refine(unhide H5 _ _ q4).mono ?_;rintro e w5 ⟨v5,rfl,q5⟩)
   | (go_at_call 122;refine(unhide H6 _ _ _ q5).mono ?_;rintro e w6 ⟨v6,rfl,q6⟩)
   | (go_at_call 124;refine(unhide HB _ _ _ 124 q6 (by simp)).mono ?_;rintro e w7 ⟨v7,b,rfl,g1,g2,g3⟩)
   | (go_at_call 125;refine(unhide HB _ _ _ 125 q6 (by simp)).mono ?_;rintro e w7 ⟨v7,b,rfl,g1,g2,g3⟩)
   | (go_at_call 126;refine(unhide HB _ _ _ 126 q6 (by simp)).mono ?_;rintro e w7 ⟨v7,b,rfl,g1,g2,g3⟩)
   | (go_at_call 127;refine(unhide HB _ _ _ 127 q6 (by simp)).mono ?_;rintro e w7 ⟨v7,b,rfl,g1,g2,g3⟩))
  go_ret
  exact⟨_,_,rfl,g1,g2,g3⟩
end Go.Proofs.YtbfibfmnemnbbaaGreat
set_option linter.unusedSimpArgs false
set_option linter.unusedVariables false
set_option maxHeartbeats 4000000
set_option maxRecDepth 100000
namespace Go.Proofs.YtbfibfmnemnbbaaGreat
open Go.RowKit Go.Sort
theorem good_kind{X:Vc}(h:goodB X=true):X.k=1∨X.k=2:=by
 unfold goodB at h
 split at h
 ·rename_i h1;exact .inl (by simpa using h1)
 ·split at h
  ·rename_i h1;exact .inr (by simpa using h1)
  ·cases h
theorem vals_kind{X:Vc}(hg:goodB X=true){x:Val}(hx:x∈valsV X):x=.null∨(X.k=1/\∃n,(n∈X.ns∨n=0)/\x=.num n)∨(X.k=2/\∃s,s.size<=1000/\x=.str s):=by
 obtain⟨i,hi,rfl⟩:=List.getElem_of_mem hx
 have hi2:i<X.nl.length:=by rw[vals_len hg] at hi;exact hi
 have e:=vals_at hg hi2
 rw[List.getElem?_eq_getElem hi] at e
 injection e with e
 rw[e]
 unfold atV
 split
 ·exact .inl rfl
 ·rcases good_kind hg with h|h
  ·right;left
   refine⟨h,X.ns.getD i 0,?_,by simp[h]⟩
   rw[List.getD_eq_getElem?_getD]
   cases he:X.ns[i]? with
   | none=>right;rfl
   | some n=>left;exact List.mem_of_getElem? he
  ·right;right
   refine⟨h,X.ss.getD i ⟨#[]⟩,?_,by simp[h]⟩
   rw[List.getD_eq_getElem?_getD]
   cases he:X.ss[i]? with
   | none=>show (0:Nat)<=1000;omega
   | some s=>
    have hm:=List.mem_of_getElem? he
    unfold goodB at hg
    rw[h] at hg
    have h2:X.ss.any largeB=false:=by
     cases h3:X.ss.any largeB
     ·rfl
     ·simp[h3] at hg
    rw[List.any_eq_false] at h2
    have:=h2 s hm
    simp[largeB] at this
    show s.size<=1000
    omega
theorem vals_size{X:Vc}(hg:goodB X=true){x:Val}(hx:x∈valsV X):x.s.size<=1000:=by
 rcases vals_kind hg hx with rfl|⟨_,n,_,rfl⟩|⟨_,s,hs,rfl⟩
 ·show (0:Nat)<=1000;omega
 ·show (0:Nat)<=1000;omega
 ·exact hs
theorem vals_clean{X:Vc}(hg:goodB X=true){x:Val}(hx:x∈valsV X):cleanV x=x:=by
 rcases vals_kind hg hx with rfl|⟨_,n,_,rfl⟩|⟨_,s,hs,rfl⟩<;>rfl
def badW(X:Vc)(sch:Int):Bool:=!goodB X || decide (sch<1) || decide (4<sch) || (sch == 4 && X.k == 2)
def PW(X:Vc)(sch:Int)(s:ByteArray)(f:Int):Prop:=
 (badW X sch=true/\s=⟨#[]⟩/\f=1)∨(badW X sch=false/\4096<X.nl.length/\s=⟨#[]⟩/\f=3)∨(badW X sch=false/\X.nl.length<=4096/\f=0/\∃b,BodyB sch.toNat (standL (valsV X)) b/\s=toB (headB sch.toNat X.k.toNat (valsV X)++b))
def Box4(w:World)(b:Nat)(X:Vc)(p:Sl):Prop:=w.cell? ⟨b,0,none⟩=some (.int .i64 X.k)/\w.cell? ⟨b,1,none⟩=some (.slice p.a1 X.nl.length p.c1)/\w.cell? ⟨b,2,none⟩=some (.slice p.a2 X.ns.length p.c2)/\w.cell? ⟨b,3,none⟩=some (.slice p.a3 X.ss.length p.c3)
theorem Box4.later{w w':World}{b:Nat}{X:Vc}{p:Sl}(h:Box4 w b X p)(hb:Below w.heap.size w w'):Box4 w' b X p:=⟨cell_later hb h.1,cell_later hb h.2.1,cell_later hb h.2.2.1,cell_later hb h.2.2.2⟩
theorem pwrite_bad(X:Vc)(p:Sl)(sch:Int)(w:World)(hs:small X)(hp:VecAt w X p)(hbad:badW X sch=true) :
  Calls Tryz.prog 62 #[vecV X p,.int .i64 sch] w fun e w'=>e=.returned (.tuple #[.string ⟨#[]⟩,.int .i64 1])/\Below w.heap.size w w':=by
 rw[vecV_open]
 have bl:=below_alloc (Below.refl _ w) (.cells #[.int .i64 X.k,.slice p.a1 X.nl.length p.c1,.slice p.a2 X.ns.length p.c2,.slice p.a3 X.ss.length p.c3] 56)
 have HG:=hide (good_any X p _ hs (hp.later bl))
 rw[vecV_open] at HG
 cases hg:goodB X
 ·rw[hg] at HG
  clear hbad hg
  go_enter Tryz.func62,Tryz.ntmps62
  go_wp2_with (go_at_call 45;refine(unhide HG).mono ?_;rintro e w1 ⟨rfl,hb1⟩;obtain⟨hc1,_⟩:=bcell hb1)
  refine bodyPost_ret (v:=.tuple #[.string ⟨#[]⟩,.int .i64 1]) (by simp[results,Tryz.results62,go_sem]) rfl ⟨rfl,below_step bl hb1⟩
 ·rw[hg] at HG
  simp only[badW,hg,Bool.not_true,Bool.false_or,Bool.or_eq_true,decide_eq_true_eq,Bool.and_eq_true,beq_iff_eq] at hbad
  have FACT:Hid (∀w1,Below (w.alloc (.cells #[.int .i64 X.k,.slice p.a1 X.nl.length p.c1,.slice p.a2 X.ns.length p.c2,.slice p.a3 X.ss.length p.c3] 56)).heap.size (w.alloc (.cells #[.int .i64 X.k,.slice p.a1 X.nl.length p.c1,.slice p.a2 X.ns.length p.c2,.slice p.a3 X.ss.length p.c3] 56)) w1->w1.cell? ⟨w.heap.size,0,none⟩=some (.int .i64 X.k)/\Hid (Below w.heap.size w w1)):=fun w1 hb1=>by
   obtain⟨hc1,_⟩:=bcell hb1
   refine⟨?_,below_step bl hb1⟩
   rw[hc1 _ _ (by simp)];simp[go_sem]
  clear hg bl
  rcases hbad with (h|h)|⟨h1,h2⟩
  ·go_enter Tryz.func62,Tryz.ntmps62
   go_wp2_with (go_at_call 45;refine(unhide HG).mono ?_;rintro e w1 ⟨rfl,hb1⟩;obtain⟨c0,hbb⟩:=unhide FACT _ hb1;clear hb1)
   refine bodyPost_ret (v:=.tuple #[.string ⟨#[]⟩,.int .i64 1]) (by simp[results,Tryz.results62,go_sem]) rfl ⟨rfl,unhide hbb⟩
  ·have h3:¬sch<1:=by omega
   go_enter Tryz.func62,Tryz.ntmps62
   go_wp2_with (go_at_call 45;refine(unhide HG).mono ?_;rintro e w1 ⟨rfl,hb1⟩;obtain⟨c0,hbb⟩:=unhide FACT _ hb1;clear hb1)
   refine bodyPost_ret (v:=.tuple #[.string ⟨#[]⟩,.int .i64 1]) (by simp[results,Tryz.results62,go_sem]) rfl ⟨rfl,unhide hbb⟩
  ·subst h1
   rw[h2] at FACT HG
   rw[h2]
   clear h2
   go_enter Tryz.func62,Tryz.ntmps62
   go_wp2_with (go_at_call 45;refine(unhide HG).mono ?_;rintro e w1 ⟨rfl,hb1⟩;obtain⟨c0,hbb⟩:=unhide FACT _ hb1;clear hb1)
   refine bodyPost_ret (v:=.tuple #[.string ⟨#[]⟩,.int .i64 1]) (by simp[results,Tryz.results62,go_sem]) rfl ⟨rfl,unhide hbb⟩
theorem pwrite_large(X:Vc)(p:Sl)(sch:Int)(w:World)(hs:small X)(hp:VecAt w X p)(hbad:badW X sch=false)(hbig:4096<X.nl.length) :
  Calls Tryz.prog 62 #[vecV X p,.int .i64 sch] w fun e w'=>e=.returned (.tuple #[.string ⟨#[]⟩,.int .i64 3])/\Below w.heap.size w w':=by
 rw[vecV_open]
 have bl:=below_alloc (Below.refl _ w) (.cells #[.int .i64 X.k,.slice p.a1 X.nl.length p.c1,.slice p.a2 X.ns.length p.c2,.slice p.a3 X.ss.length p.c3] 56)
 have HG:=hide (good_any X p _ hs (hp.later bl))
 rw[vecV_open] at HG
 simp only[badW,Bool.or_eq_false_iff,Bool.not_eq_false',decide_eq_false_iff_not] at hbad
 obtain⟨⟨⟨hg,h1⟩,h2⟩,h3⟩:=hbad
 rw[hg] at HG
 have i1:(4096:Int)<(X.nl.length:Int):=by omega
 have FACT:Hid (∀w1,Below (w.alloc (.cells #[.int .i64 X.k,.slice p.a1 X.nl.length p.c1,.slice p.a2 X.ns.length p.c2,.slice p.a3 X.ss.length p.c3] 56)).heap.size (w.alloc (.cells #[.int .i64 X.k,.slice p.a1 X.nl.length p.c1,.slice p.a2 X.ns.length p.c2,.slice p.a3 X.ss.length p.c3] 56)) w1->w1.cell? ⟨w.heap.size,0,none⟩=some (.int .i64 X.k)/\w1.cell? ⟨w.heap.size,1,none⟩=some (.slice p.a1 X.nl.length p.c1)/\Hid (Below w.heap.size w w1)):=fun w1 hb1=>by
  obtain⟨hc1,_⟩:=bcell hb1
  refine⟨?_,?_,below_step bl hb1⟩<;>(rw[hc1 _ _ (by simp)];simp[go_sem])
 clear hg bl
 rcases Bool.eq_false_or_eq_true (sch == 4) with e4|e4
 ·have e2:(X.k == 2)=false:=by simpa [e4] using h3
  clear h3
  go_enter Tryz.func62,Tryz.ntmps62
  go_wp2_with (go_at_call 45;refine(unhide HG).mono ?_;rintro e w1 ⟨rfl,hb1⟩;obtain⟨c0,c1,hbb⟩:=unhide FACT _ hb1;clear hb1)
  refine bodyPost_ret (v:=.tuple #[.string ⟨#[]⟩,.int .i64 3]) (by simp[results,Tryz.results62,go_sem]) rfl ⟨rfl,unhide hbb⟩
 ·clear h3
  go_enter Tryz.func62,Tryz.ntmps62
  go_wp2_with (go_at_call 45;refine(unhide HG).mono ?_;rintro e w1 ⟨rfl,hb1⟩;obtain⟨c0,c1,hbb⟩:=unhide FACT _ hb1;clear hb1)
  refine bodyPost_ret (v:=.tuple #[.string ⟨#[]⟩,.int .i64 3]) (by simp[results,Tryz.results62,go_sem]) rfl ⟨rfl,unhide hbb⟩
end Go.Proofs.YtbfibfmnemnbbaaGreat
set_option linter.unusedSimpArgs false
set_option linter.unusedVariables false
set_option maxHeartbeats 8000000
set_option maxRecDepth 100000
namespace Go.Proofs.YtbfibfmnemnbbaaGreat
open Go.RowKit Go.Sort
theorem pwrite_ok(X:Vc)(p:Sl)(n kd:Nat)(w:World)(hs:small X)(hp:VecAt w X p)(hg:goodB X=true)(hn:n=1∨n=2∨n=3∨n=4)(hk:X.k=(kd:Int))(hkd:kd=1∨kd=2)(h4:¬(n=4/\kd=2))(hl:X.nl.length<=4096) :
  Calls Tryz.prog 62 #[vecV X p,.int .i64 (n:Int)] w fun e w'=>∃b,e=.returned (.tuple #[.string (toB (headB n kd (valsV X)++b)),.int .i64 0])/\BodyB n (standL (valsV X)) b/\Below w.heap.size w w':=by
 rw[vecV_open]
 have bl:=below_alloc (Below.refl _ w) (.cells #[.int .i64 X.k,.slice p.a1 X.nl.length p.c1,.slice p.a2 X.ns.length p.c2,.slice p.a3 X.ss.length p.c3] 56)
 have HG:=hide (good_any X p _ hs (hp.later bl))
 rw[vecV_open] at HG
 rw[hg] at HG
 have HVL:Hid ((valsV X).length<=4096):=by show _<=_;rw[vals_len hg];exact hl
 have HVS:Hid (∀x∈valsV X,x.s.size<=1000):=fun x hx=>vals_size hg hx
 have HV:Hid (∀W,Below w.heap.size w W->Calls Tryz.prog 91 #[.agg #[.int .i64 (kd:Int),.slice p.a1 X.nl.length p.c1,.slice p.a2 X.ns.length p.c2,.slice p.a3 X.ss.length p.c3]] W fun e w'=>∃v,e=.returned v/\Hid (OwnV w' W.heap.size v (valsV X))/\Below W.heap.size W w'):=fun W hW=>by
  have:=values_any X p W hs (hp.later hW)
  rw[vecV_open,hk] at this
  exact this
 have HW:Hid (∀W b0 vv,Hid (OwnV W b0 vv (valsV X))->Calls Tryz.prog 90 #[.int .i64 (kd:Int),vv,.int .i64 (n:Int)] W fun e w'=>∃v' b,e=.returned v'/\Hid (BodyB n (standL (valsV X)) b)/\Hid (OwnB w' W.heap.size v' (headB n kd (valsV X)++b))/\Below W.heap.size W w'):=fun W b0 vv h=>written_any n kd b0 (valsV X) vv W hn (by omega) (unhide HVL) (unhide HVS) h
 have i0:¬(4096:Int)<(X.nl.length:Int):=by omega
 have i1:¬(n:Int)<1:=by omega
 have i2:¬(4:Int)<(n:Int):=by omega
 have hc:((n:Int) == 4)=true/\((kd:Int) == 2)=false∨((n:Int) == 4)=false:=by
  by_cases h:n=4
  ·subst h
   have:kd=1:=by omega
   subst this
   exact .inl ⟨rfl,rfl⟩
  ·right
   simp
   omega
 rw[hk] at bl HG ⊢
 have FACT:Hid (∀w1,Below (w.alloc (.cells #[.int .i64 (kd:Int),.slice p.a1 X.nl.length p.c1,.slice p.a2 X.ns.length p.c2,.slice p.a3 X.ss.length p.c3] 56)).heap.size (w.alloc (.cells #[.int .i64 (kd:Int),.slice p.a1 X.nl.length p.c1,.slice p.a2 X.ns.length p.c2,.slice p.a3 X.ss.length p.c3] 56)) w1->w1.cell? ⟨w.heap.size,0,none⟩=some (.int .i64 (kd:Int))/\w1.cell? ⟨w.heap.size,1,none⟩=some (.slice p.a1 X.nl.length p.c1)/\w1.cell? ⟨w.heap.size,2,none⟩=some (.slice p.a2 X.ns.length p.c2)/\w1.cell? ⟨w.heap.size,3,none⟩=some (.slice p.a3 X.ss.length p.c3)/\Hid (Below w.heap.size w w1)):=fun w1 hb1=>by
  obtain⟨hc1,_⟩:=bcell hb1
  refine⟨?_,?_,?_,?_,below_step bl hb1⟩<;>(rw[hc1 _ _ (by simp)];simp[go_sem])
 clear hg bl hk hkd h4 hn hs hp hl
 rcases hc with ⟨e4,e5⟩|e4
 all_goals
  go_enter Tryz.func62,Tryz.ntmps62
  go_upto_region 8 with (first | (go_at_call 45;refine(unhide HG).mono ?_;rintro e w1 ⟨rfl,hb1⟩;obtain⟨c0,c1,c2,c3,hbb⟩:=unhide FACT _ hb1;clear hb1)|fail)
  have hS0:Box4 w1.drew w.heap.size ⟨(kd:Int),X.nl,X.ns,X.ss⟩ p:=⟨c0,c1,c2,c3⟩
  have hbd:Below w.heap.size w w1.drew:=(unhide hbb).drew
  clear c0 c1 c2 c3
  refine wp_region_noPanic ?_
  refine wp_region_G (S:=fun w':World=>Box4 w' w.heap.size ⟨(kd:Int),X.nl,X.ns,X.ss⟩ p) (k:=5) (by kernel_rfl) ?_
  refine anyG_takel (i:=0) (v:=(.pointer (some ⟨w.heap.size,0,none⟩))) [1,5] rfl (by kernel_rfl) (by kernel_rfl) (by kernel_rfl) (by kernel_rfl) (fun _ _ _ h=>h) (Or.inl ⟨by rfl,fun w' hSw=>?_⟩) hS0 ?_
  ·obtain⟨s0,s1,s2,s3⟩:=hSw;go_simp
  try simp only[Act.put,List.setIfInBounds_toArray,List.set_cons_zero,List.set_cons_succ]
  refine anyG_takel (i:=1) (v:=(.int .i64 (kd:Int))) [5] rfl (by kernel_rfl) (by kernel_rfl) (by kernel_rfl) (by kernel_rfl) (fun _ _ _ h=>h) (Or.inl ⟨by rfl,fun w' hSw=>?_⟩) hS0 ?_
  ·obtain⟨s0,s1,s2,s3⟩:=hSw;go_simp
  try simp only[Act.put,List.setIfInBounds_toArray,List.set_cons_zero,List.set_cons_succ]
  refine anyG_takel (i:=2) (v:=(.agg #[.int .i64 (kd:Int),.slice p.a1 X.nl.length p.c1,.slice p.a2 X.ns.length p.c2,.slice p.a3 X.ss.length p.c3])) [3,5] rfl (by kernel_rfl) (by kernel_rfl) (by kernel_rfl) (by kernel_rfl) (fun _ _ _ h=>h) (Or.inl ⟨by rfl,fun w' hSw=>?_⟩) hS0 ?_
  ·obtain⟨s0,s1,s2,s3⟩:=hSw;go_simp
  try simp only[Act.put,List.setIfInBounds_toArray,List.set_cons_zero,List.set_cons_succ]
  refine anyG_takel (i:=4) (v:=(.int .i64 (n:Int))) [5] rfl (by kernel_rfl) (by kernel_rfl) (by kernel_rfl) (by kernel_rfl) (fun _ _ _ h=>h) (Or.inl ⟨by rfl,fun w' hSw=>?_⟩) hS0 ?_
  ·obtain⟨s0,s1,s2,s3⟩:=hSw;go_simp
  try simp only[Act.put,List.setIfInBounds_toArray,List.set_cons_zero,List.set_cons_succ]
  refine anyG_one (i:=3) (by kernel_rfl) ?_
  refine wpOp_lit rfl (by rfl) fun K hK=>?_
  go_simp
  refine(unhide HV _ hbd).mono ?_
  rintro e w2 ⟨v2,rfl,HO2,hb2⟩
  have hS2:=hS0.later hb2
  have HB2:=hide (below_step hbd hb2)
  clear hS0 hb2 hbd
  go_simp
  refine unhide hK _ _ ⟨fun _=>hS2,?_⟩
  clear hK K
  refine anyG_one (i:=5) (by kernel_rfl) ?_
  refine wpOp_lit rfl (by rfl) fun K hK=>?_
  go_simp
  refine(unhide HW _ _ _ HO2).mono ?_
  rintro e w3 ⟨v3,b,rfl,HBY,HO3,hb3⟩
  have HB3:=hide (below_step (unhide HB2) hb3)
  have hcv:=convert_own (unhide HO3)
  clear hb3
  go_simp
  refine unhide hK _ _ ⟨fun hh=>absurd hh (by decide),?_⟩
  clear hK K
  refine anyG_one (i:=6) (by kernel_rfl) ?_
  refine wpOp_lit rfl (by rfl) fun K hK=>?_
  go_simp
  refine unhide hK _ _ ⟨fun hh=>absurd hh (by decide),?_⟩
  clear hK K
  refine anyG_one (i:=7) (by kernel_rfl) ?_
  refine wpOp_lit rfl (by rfl) fun K hK=>?_
  go_simp
  refine unhide hK _ _ ⟨fun hh=>absurd hh (by decide),?_⟩
  clear hK K
  refine anyG_one (i:=8) (by kernel_rfl) ?_
  refine wpOp_lit rfl (by rfl) fun K hK=>?_
  go_simp
  refine unhide hK _ _ ⟨fun hh=>absurd hh (by decide),?_⟩
  clear hK K
  refine anyG_done (by kernel_rfl) ?_ _
  refine NoPanic.normal ?_
  go_wp2
  refine bodyPost_ret (v:=.tuple #[.string (toB (headB n kd (valsV X)++b)),.int .i64 0]) (by simp[results,Tryz.results62,go_sem]) rfl ⟨b,rfl,unhide HBY,unhide HB3⟩
end Go.Proofs.YtbfibfmnemnbbaaGreat
set_option linter.unusedSimpArgs false
set_option linter.unusedVariables false
set_option maxHeartbeats 8000000
set_option maxRecDepth 100000
namespace Go.Proofs.YtbfibfmnemnbbaaGreat
open Go.RowKit Go.Sort
theorem pwrite_any(X:Vc)(p:Sl)(sch:Int)(w:World)(hs:small X)(hp:VecAt w X p) :
  Calls Tryz.prog 62 #[vecV X p,.int .i64 sch] w fun e w'=>∃s f,e=.returned (.tuple #[.string s,.int .i64 f])/\Hid (PW X sch s f)/\Below w.heap.size w w':=by
 cases hbad:badW X sch
 ·by_cases hbig:4096<X.nl.length
  ·exact(pwrite_large X p sch w hs hp hbad hbig).mono fun e w' ⟨he,hb⟩=>⟨_,_,he,.inr (.inl ⟨hbad,hbig,rfl,rfl⟩),hb⟩
  ·have hb2:=hbad
   simp only[badW,Bool.or_eq_false_iff,Bool.not_eq_false',decide_eq_false_iff_not] at hb2
   obtain⟨⟨⟨hg,h1⟩,h2⟩,h3⟩:=hb2
   obtain⟨n,rfl⟩:∃n:Nat,sch=(n:Int):=⟨sch.toNat,by omega⟩
   obtain⟨kd,hk⟩:∃kd:Nat,X.k=(kd:Int):=⟨X.k.toNat,by have:=good_kind hg;omega⟩
   have hkd:kd=1∨kd=2:=by have:=good_kind hg;omega
   refine(pwrite_ok X p n kd w hs hp hg (by omega) hk hkd (fun ⟨a,b⟩=>?_) (by omega)).mono fun e w' ⟨b,he,hB,hb⟩=>⟨_,_,he,.inr (.inr ⟨hbad,by omega,rfl,b,?_,?_⟩),hb⟩
   ·subst a b
    rw[hk] at h3
    exact absurd h3 (by decide)
   ·simpa using hB
   ·rw[hk]
    simp
 ·exact(pwrite_bad X p sch w hs hp hbad).mono fun e w' ⟨he,hb⟩=>⟨_,_,he,.inl ⟨hbad,rfl,rfl⟩,hb⟩
def pickB(b s:ByteArray)(f:Int):ByteArray:=if f=0/\s.size<b.size then s else b
def PB(X:Vc):Nat->ByteArray->Prop
 | 0,b=>PW X 1 b 0
 | i+1,b=>∃c s f,PB X i c/\PW X ((i:Int)+2) s f/\b=pickB c s f
def PP(X:Vc)(s:ByteArray)(f:Int):Prop:=(f=0/\PB X 3 s)∨(s=⟨#[]⟩/\f≠0/\∃t,PW X 1 t f)
def two4(j:Nat):Value:=.int .i64 ((j:Int)+2)
theorem ppack_any(X:Vc)(p:Sl)(w:World)(hs:small X)(hp:VecAt w X p) :
  Calls Tryz.prog 40 #[vecV X p] w fun e w'=>∃s f,e=.returned (.tuple #[.string s,.int .i64 f])/\Hid (PP X s f)/\Below w.heap.size w w':=by
 have HW:Hid (∀W sch,Below w.heap.size w W->Calls Tryz.prog 62 #[vecV X p,.int .i64 sch] W fun e w'=>∃s f,e=.returned (.tuple #[.string s,.int .i64 f])/\Hid (PW X sch s f)/\Below W.heap.size W w'):=fun W sch hW=>pwrite_any X p sch W hs (hp.later hW)
 rw[vecV_open] at HW ⊢
 have bl:=below_alloc (Below.refl _ w) (.cells #[.int .i64 X.k,.slice p.a1 X.nl.length p.c1,.slice p.a2 X.ns.length p.c2,.slice p.a3 X.ss.length p.c3] 56)
 have HW1:=hide (unhide HW _ 1 bl)
 have FACT:Hid (∀w1,Below (w.alloc (.cells #[.int .i64 X.k,.slice p.a1 X.nl.length p.c1,.slice p.a2 X.ns.length p.c2,.slice p.a3 X.ss.length p.c3] 56)).heap.size (w.alloc (.cells #[.int .i64 X.k,.slice p.a1 X.nl.length p.c1,.slice p.a2 X.ns.length p.c2,.slice p.a3 X.ss.length p.c3] 56)) w1->Box4 w1 w.heap.size X p/\Below w.heap.size w w1):=fun w1 hb1=>by
  obtain⟨hc1,_⟩:=bcell hb1
  refine⟨⟨?_,?_,?_,?_⟩,below_step bl hb1⟩<;>(rw[hc1 _ _ (by simp)];simp[go_sem])
 clear bl hs hp
 go_enter Tryz.func40,Tryz.ntmps40
 go_upto_region 2 with (first | (go_at_call 62;refine(unhide HW1).mono ?_;rintro e w1 ⟨s1,f1,rfl,HP1,hb1⟩;replace hb1:=hide hb1)|fail)
 rcases Bool.eq_false_or_eq_true (f1 == 0) with e0|e0
 ·have e1:(f1 != 0)=false:=by simp[bne,e0]
  have e2:f1=0:=by simpa using e0
  have HP0:Hid (PB X 0 s1):=by show PW X 1 s1 0;rw[<-e2];exact unhide HP1
  clear e0 e2 HP1
  go_wp2_with fail
  have HB1:=hide (unhide FACT _ (unhide hb1)).2
  have HX1:=hide (unhide FACT _ (unhide hb1)).1
  have HL1:Hid ((w1.alloc (.cells #[.int .i64 2,.int .i64 3,.int .i64 4] 3)).rowIs w1.heap.size 3 3 two4):=World.rowIs_alloc w1 #[.int .i64 2,.int .i64 3,.int .i64 4] 3 two4 (fun i hi=>by
   match i,hi with
   | 0,_=>rfl
   | 1,_=>rfl
   | 2,_=>rfl)
  have hsz1:w.heap.size<w1.heap.size:=World.block_lt_of_cell? _ _ (unhide HX1).1
  go_loopw[4,20] (fun s4 s wr=>∃(i:Nat) (b:ByteArray),i<=3/\s=.int .i64 (i:Int)/\s4=.string b/\Hid (PB X i b)/\wr.rowIs w1.heap.size 3 3 two4/\Below w1.heap.size w1 wr) (fun _ s _=>3-(intOf s).toNat)
  case atStart=>exact⟨0,s1,by omega,rfl,rfl,unhide HP0,unhide HL1,below_alloc (Below.refl _ _) _⟩
  case round=>
   obtain⟨i,b,hi,rfl,rfl,HPB,hr,hb⟩:=hrel
   by_cases h8:i<3
   ·have h9:(i:Int)<3:=by omega
    obtain⟨x0,x1,x2,x3⟩:=(unhide HX1).later hb
    have hc:wr.cell? ⟨w1.heap.size,i,none⟩=some (.int .i64 ((i:Int)+2)):=hr.cell h8
    have HWi:=hide (unhide HW wr ((i:Int)+2) (below_step (unhide HB1) hb))
    have HR:=hide hr
    have HB:=hide hb
    clear hr hb
    go_upto_region 8 with (first | (go_at_call 62;refine(unhide HWi).mono ?_;rintro e w2 ⟨s2,f2,rfl,HP2,hb2⟩;have HR2:=hide (rowIs_later (unhide HR) hb2);have HB2:=hide (below_step (unhide HB) hb2);clear hb2)|fail)
    rcases Bool.eq_false_or_eq_true (f2 == 0) with e0|e0
    ·by_cases hlt:s2.size<b.size
     ·have j1:(s2.size:Int)<(b.size:Int):=by omega
      have HN:Hid (PB X (i+1) s2):=⟨b,s2,f2,unhide HPB,unhide HP2,by rw[pickB,if_pos ⟨by simpa using e0,hlt⟩]⟩
      go_wp2
      go_roundw
      case rel=>exact⟨i+1,s2,by omega,by go_num,rfl,HN,unhide HR2,unhide HB2⟩
      case measure=>first | (simp[intOf];omega) | (simp only[intOf];omega)
     ·have j1:¬(s2.size:Int)<(b.size:Int):=by omega
      have HN:Hid (PB X (i+1) b):=⟨b,s2,f2,unhide HPB,unhide HP2,by rw[pickB,if_neg (fun h=>hlt h.2)]⟩
      go_wp2
      go_roundw
      case rel=>exact⟨i+1,b,by omega,by go_num,rfl,HN,unhide HR2,unhide HB2⟩
      case measure=>first | (simp[intOf];omega) | (simp only[intOf];omega)
    ·have HN:Hid (PB X (i+1) b):=⟨b,s2,f2,unhide HPB,unhide HP2,by rw[pickB,if_neg (fun h=>by simp[h.1] at e0)]⟩
     go_wp2
     go_roundw
     case rel=>exact⟨i+1,b,by omega,by go_num,rfl,HN,unhide HR2,unhide HB2⟩
     case measure=>first | (simp[intOf];omega) | (simp only[intOf];omega)
   ·have h9:¬(i:Int)<3:=by omega
    have h3:i=3:=by omega
    rw[h3] at HPB
    have HE:Hid (PP X b 0):=.inl ⟨rfl,unhide HPB⟩
    have HB:=hide (below_step (unhide HB1) hb)
    clear hr hb h3
    go_wp2
    refine bodyPost_ret (v:=.tuple #[.string b,.int .i64 0]) (by simp[results,Tryz.results40,go_sem]) rfl ⟨_,_,rfl,HE,unhide HB⟩
 ·have e1:(f1 != 0)=true:=by simp[bne,e0]
  have HE:Hid (PP X ⟨#[]⟩ f1):=.inr ⟨rfl,by simpa using e0,s1,unhide HP1⟩
  have HB:=hide (unhide FACT _ (unhide hb1)).2
  clear e0
  go_wp2
  refine bodyPost_ret (v:=.tuple #[.string ⟨#[]⟩,.int .i64 f1]) (by simp[results,Tryz.results40,go_sem]) rfl ⟨_,_,rfl,HE,unhide HB⟩
end Go.Proofs.YtbfibfmnemnbbaaGreat
