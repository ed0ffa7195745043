import Derived.Test.YtbfibfmnemnbbaaGreatPackP
import Derived.Laws.AppendOwnNone
import Derived.Test.YtbfibfmnemnbbaaGreatPackC
set_option linter.unusedSimpArgs false
set_option linter.unusedVariables false
set_option maxHeartbeats 4000000
set_option maxRecDepth 100000
namespace Go.Proofs.YtbfibfmnemnbbaaGreat
open Go.RowKit Go.Sort
theorem ahead_le(xs:List Val):aheadN xs<=xs.length:=(List.takeWhile_prefix _).length_le
theorem ahead_pos{x:Val}{xs:List Val}:0<aheadN (x::xs):=by
 unfold aheadN
 have:sameB x x=true:=by simp[sameB]
 simp[List.takeWhile_cons,this]
def runsB:Nat->List Val->List Int
 | 0,_=>[]
 | _+1,[]=>[]
 | f+1,x::xs=>(beL (aheadN (x::xs):Int) 4 4++plainL x)++runsB f ((x::xs).drop (aheadN (x::xs)))
def runsN:Nat->List Val->Nat
 | 0,_=>0
 | _+1,[]=>0
 | f+1,x::xs=>1+runsN f ((x::xs).drop (aheadN (x::xs)))
theorem runsB_fuel:∀(f g:Nat) (xs:List Val),xs.length<=f->xs.length<=g->runsB f xs=runsB g xs/\runsN f xs=runsN g xs
 | 0,g,[],_,_=>by cases g<;>exact⟨rfl,rfl⟩
 | 0,g,x::xs,h,_=>by simp at h
 | f+1,0,[],_,_=>⟨rfl,rfl⟩
 | f+1,0,x::xs,_,h=>by simp at h
 | f+1,g+1,[],_,_=>⟨rfl,rfl⟩
 | f+1,g+1,x::xs,h1,h2=>by
  have hp:=ahead_pos (x:=x) (xs:=xs)
  have hl:((x::xs).drop (aheadN (x::xs))).length<=xs.length:=by rw[List.length_drop,List.length_cons];omega
  simp only[List.length_cons] at h1 h2
  have ih:=runsB_fuel f g ((x::xs).drop (aheadN (x::xs))) (by omega) (by omega)
  exact⟨by rw[runsB,runsB,ih.1],by rw[runsN,runsN,ih.2]⟩
theorem runs_next{x:Val}{xs:List Val}:runsB (x::xs).length (x::xs)=(beL (aheadN (x::xs):Int) 4 4++plainL x)++runsB ((x::xs).drop (aheadN (x::xs))).length ((x::xs).drop (aheadN (x::xs)))/\runsN (x::xs).length (x::xs)=1+runsN ((x::xs).drop (aheadN (x::xs))).length ((x::xs).drop (aheadN (x::xs))):=by
 have hp:=ahead_pos (x:=x) (xs:=xs)
 have hl:((x::xs).drop (aheadN (x::xs))).length<=xs.length:=by rw[List.length_drop,List.length_cons];omega
 have ih:=runsB_fuel xs.length _ ((x::xs).drop (aheadN (x::xs))) hl (Nat.le_refl _)
 rw[List.length_cons]
 exact⟨by rw[runsB,ih.1],by rw[runsN,ih.2]⟩
theorem RowAt.drop{w:World}{b off j:Nat}{xs:List Val}(h:RowAt w (some ⟨b,off,none⟩) xs)(hj:j<=xs.length):RowAt w (some ⟨b,off+j*3,none⟩) (xs.drop j):=by
 rcases h with h|⟨b',off',e,h⟩
 ·left;rw[h];simp
 ·injection e with e
  injection e with e1 e2
  subst e1 e2
  refine .inr ⟨b,off+j*3,rfl,fun i x hx=>?_⟩
  rw[List.getElem?_drop] at hx
  have:=h (j+i) x hx
  rw[show off+j*3+i*3=off+(j+i)*3 by omega]
  exact this
theorem RowAt.keep{w wr W:World}{a:Option Addr}{xs:List Val}(h:RowAt wr a xs)(hb:Below w.heap.size w wr)(hW:Below w.heap.size w W)(hlt:∀ad,a=some ad->ad.block<w.heap.size):RowAt W a xs:=by
 rcases h with h|⟨b,off,ha,h⟩
 ·exact .inl h
 ·have hl:=hlt _ ha
  have e:∀o,W.cell? ⟨b,o,none⟩=wr.cell? ⟨b,o,none⟩:=fun o=>(hW.cell (p:=⟨b,o,none⟩) hl).trans (hb.cell (p:=⟨b,o,none⟩) hl).symm
  exact .inr ⟨b,off,ha,fun i x hx=>⟨by rw[e];exact(h i x hx).1,by rw[e];exact(h i x hx).2.1,by rw[e];exact(h i x hx).2.2⟩⟩
theorem RowAt.lt{w:World}{a:Option Addr}{xs:List Val}(h:RowAt w a xs)(hn:0<xs.length):∀ad,a=some ad->ad.block<w.heap.size:=by
 intro ad e
 rcases h with h|⟨b,off,ha,h⟩
 ·subst h;simp at hn
 ·rw[ha] at e
  injection e with e
  subst e
  exact World.block_lt_of_cell? _ _ (h 0 _ (List.getElem?_eq_getElem hn)).1
theorem Grew.of_below{w wr:World}(h:Below w.heap.size w wr)(v:Value):Grew w wr v v:=⟨⟨h.os,h.tape,h.output,h.size,fun i hi _=>h.block i hi⟩,.inl rfl⟩
theorem OwnB.grew{w w':World}{B:Nat}{u v v':Value}{zr:List Int}(h:OwnB w B u zr)(hg:Grew w w' v v')(hne:∀g,u.ownBlock=some g->v.ownBlock≠some g):OwnB w' B u zr:=by
 refine⟨h.1,?_⟩
 rcases h.2 with h1|⟨g,cap,cur,hv,hb,hh,rest⟩
 ·exact .inl h1
 ·refine .inr ⟨g,cap,cur,hv,hb,?_,rest⟩
  rw[hg.1.block g (by have:=(ownB_lt h (g:=g) (by rw[hv];rfl)).2;exact this) (fun e=>hne g (by rw[hv];rfl) e.symm)]
  exact hh
theorem wpList_append_rows{ops:Array Oper}{rest:List Oper}{o:Oper}{a:Act}{Q:Exit->Act->World->Prop}(w:World)(hgd:o.guard=none)(s x:Operand)(ho:o.op=.call { callee:=.builtin .append,args:=#[s,x],argTypes:=#[82,82] })
  (base B:Nat) (v u:Value) (zs zr:List Int) (hs:a.eval s=v) (hx:a.eval x=u) (hown:OwnB w base v zs) (hu:OwnB w B u zr) (hlen:zs.length+zr.length<=140737488355328) (hbase:base<=w.heap.size)
  (h:∀v' w',OwnB w' base v' (zs++zr)->Grew w w' v v'->wpList Tryz.prog ops Q rest (a.put o.dst v') w'):wpList Tryz.prog ops Q (o::rest) a w:=by
 obtain⟨i0,hi,hz0,hz1,hz2⟩:=info_parts Tryz.info5
 rcases hu.2 with ⟨rfl,h0⟩|⟨g,cap,cur,rfl,hb,hh,hc,hm,hcs,ht⟩
 ·have e:zr=[]:=List.eq_nil_of_length_eq_zero h0
  subst e
  refine wpList_append_own_none hgd s x 82 ho base 5 i0 1 Tryz.underlying82 hi v zs.length (zs.map (.int .u8)) hs hown hx ?_
  exact h v w (by simpa using hown) (Grew.refl _ _)
 ·refine wpList_append_own_at w hgd s x 82 ho base 5 i0 (.int .u8 0) 1 1 Tryz.underlying82 hi hz0 hz1 hz2 rfl (by decide) v zs.length (zs.map (.int .u8)) hs hown ⟨g,0,none⟩ zr.length cap (zr.map (.int .u8)) hx (by simp) (World.ownsRow.cells hu rfl) (by intro u hu;obtain⟨y,_,rfl⟩:=List.mem_map.1 hu;rfl) (by unfold maxLen;omega) (by omega) hbase ?_
  intro v' w' h1 h2 _ hat
  refine h v' w' (ownB_app rfl h1) ⟨h2,?_⟩
  rcases hat with e|e
  ·exact .inl e
  ·exact .inr ⟨_,e,Nat.le_refl _⟩
theorem runs_loop(base:Nat)(zs:List Int)(aa:Option Addr)(ca:Nat)(xs:List Val)(v:Value)(w:World)(hown:OwnB w base v zs)(hl:xs.length<=4096)(hca:xs.length<=ca)(hlen:zs.length<=1000000)(hs:∀x∈xs,x.s.size<=1000)(hbase:base<=w.heap.size)
  (ha:RowAt w aa xs) (hsep:∀ad,aa=some ad->v.ownBlock≠some ad.block) :
  Calls Tryz.prog 124 #[v,.slice aa xs.length ca] w fun e w'=>∃v',e=.returned v'/\OwnB w' base v' (zs++(beL (runsN xs.length xs:Int) 4 4++runsB xs.length xs))/\Grew w w' v v':=by
 obtain⟨i0,hi,hz0,hz1,hz2⟩:=info_parts Tryz.info5
 have HA:=hide ha
 have HSEP:=hide hsep
 have HS:=hide hs
 have HOWN:=hide hown
 clear ha hsep hs hown
 go_enter Tryz.func124,Tryz.ntmps124
 go_wp2_with fail
 go_loopw[1,5,6] (fun s1 r s6 wr=>∃(j:Nat) (ys:List Val) (zr:List Int) (c:Nat) (a':Option Addr),ys=xs.drop j/\j<=xs.length/\s1=.slice a' ys.length (ca-j)/\RowAt wr a' ys/\(∀ad,a'=some ad->∃ad0,aa=some ad0/\ad.block=ad0.block)/\OwnB wr w.heap.size r zr/\s6=.int .i64 (c:Int)/\c<=j/\Hid (runsB xs.length xs=zr++runsB ys.length ys)/\Hid (runsN xs.length xs=c+runsN ys.length ys)/\zr.length<=1012*j/\Below w.heap.size w wr) (fun s1 _ _ _=>match s1 with | .slice _ n _=>n|_=>0)
 case atStart=>exact⟨0,xs,[],0,aa,by simp,Nat.zero_le _,by simp,unhide HA,fun ad e=>⟨ad,e,rfl⟩,World.ownsRow_nil _ _ _ _,rfl,Nat.le_refl _,by show _=_;simp,by show _=_;simp,by simp,Below.refl _ _⟩
 case round=>
  obtain⟨j,ys,zr,c,a',hys,hj,rfl,hA,hblk,ho,rfl,hcj,HRB,HRN,hzr,hb⟩:=hrel
  cases ys with
  | nil=>
   have HRB2:Hid (runsB xs.length xs=zr):=by show _=_;rw[unhide HRB];simp[runsB]
   have HRN2:Hid (runsN xs.length xs=c):=by show _=_;rw[unhide HRN];simp[runsN]
   have hgv:∀g,v.ownBlock=some g->g<w.heap.size:=fun g hg=>(ownB_lt (unhide HOWN) hg).2
   have hgr:∀g,u5.ownBlock=some g->w.heap.size<=g:=fun g hg=>(ownB_lt ho hg).1
   have hsz:=hb.size
   have hc4:(c:Int)<=4096:=by omega
   have hwc:IntKind.u64.wrap (c:Int)=c:=wrap_size (by omega)
   have HC:Hid (Calls Tryz.prog 120 #[v,.int .u64 (c:Int),.int .i64 4] wr fun e w'=>∃v2,e=.returned v2/\(OwnB w' base v2 (zs++beL (c:Int) 4 4)/\Grew w w' v v2)/\OwnB w' w.heap.size u5 zr/\w.heap.size<=w'.heap.size):=by
    refine(appnum_any base zs (c:Int) 4 v wr (by omega) (own_later (unhide HOWN) hb) (by omega) (by omega)).mono fun e w' ⟨v2,he,h1,h2⟩=>⟨v2,he,⟨h1,(Grew.of_below hb v).trans h2⟩,ho.grew h2 (fun g h3 h4=>?_),by have:=h2.1.size;omega⟩
    have:=hgv g h4
    have:=hgr g h3
    omega
   have hzr2:zr.length<=5000000:=by omega
   clear hA hblk ho hb hgv hgr hys HRB HRN
   go_wp2_with (first
    | (go_at_call 120;refine(unhide HC).mono ?_;rintro e w2 ⟨v2,rfl,h2,h3,h4⟩;replace h2:=hide h2;replace h3:=hide h3)
    | (at_builtin;refine wpList_append_rows _ rfl (.tmp 29) (.tmp 30) rfl base w.heap.size v2 u5 _ zr rfl rfl (unhide h2).1 (unhide h3) (by rw[List.length_append,beL_len];omega) (by omega) ?_;intro v3 w3 h5 h6;replace h5:=hide h5;replace h6:=hide h6))
   go_ret
   refine⟨_,rfl,?_,(unhide h2).2.trans (unhide h6)⟩
   rw[unhide HRB2,unhide HRN2,<-List.append_assoc]
   exact unhide h5
  | cons x ys=>
   have HYS:=hide hys
   have HO:=hide ho
   have HB:=hide hb
   have HAA:=hide hA
   have HBLK:=hide hblk
   have h9:(0:Int)<((x::ys).length:Int):=by simp only[List.length_cons];omega
   have hyl:(x::ys).length<=4096:=by rw[hys,List.length_drop];omega
   have HAH:=hide (fun W (h:Below wr.heap.size wr W)=>ahead_any a' (ca-j) (x::ys) W (by omega) (hA.later h))
   have HAP:=hide (ahead_pos (x:=x) (xs:=ys))
   have HAL:=hide (ahead_le (x::ys))
   have hN0:0<xs.length:=by have:=congrArg List.length hys;rw[List.length_drop,List.length_cons] at this;omega
   have hlt:∀ad,a'=some ad->ad.block<w.heap.size:=fun ad e=>by
    obtain⟨ad0,e0,e1⟩:=hblk ad e
    rw[e1]
    exact(unhide HA).lt hN0 ad0 e0
   have HLT:=hide hlt
   have hxs:x.s.size<=1000:=unhide HS x (List.mem_of_mem_drop (i:=j) (by rw[<-hys];simp))
   have HC1:Hid (∀W,Below wr.heap.size wr W->Calls Tryz.prog 120 #[u5,.int .u64 (aheadN (x::ys):Int),.int .i64 4] W fun e w'=>∃v2,e=.returned v2/\OwnB w' w.heap.size v2 (zr++beL (aheadN (x::ys):Int) 4 4)/\Below w.heap.size w w'):=fun W hW=>by
    refine(appnum_any w.heap.size zr (aheadN (x::ys):Int) 4 u5 W (by omega) (own_later ho hW) (by omega) (by have:=hb.size;have:=hW.size;omega)).mono fun e w' ⟨v',he,h1,h2⟩=>⟨v',he,h1,?_⟩
    exact(below_step hb hW).trans (h2.below (by have:=hb.size;have:=hW.size;omega) (fun g hg=>(ownB_lt (own_later ho hW) hg).1))
   have HC2:Hid (∀W v2,OwnB W w.heap.size v2 (zr++beL (aheadN (x::ys):Int) 4 4)->Below w.heap.size w W->Calls Tryz.prog 142 #[v2,.agg #[.int .i64 x.k,.int .i64 x.n,.string x.s]] W fun e w'=>∃v3,e=.returned v3/\OwnB w' w.heap.size v3 ((zr++beL (aheadN (x::ys):Int) 4 4)++plainL x)/\Below w.heap.size w w'):=fun W v2 hO hW=>by
    refine(applain_any w.heap.size _ x v2 W hO (by rw[List.length_append,beL_len];omega) (by omega) hW.size).mono fun e w' ⟨v',he,h1,h2⟩=>⟨v',he,h1,?_⟩
    exact hW.trans (h2.below hW.size (fun g hg=>(ownB_lt hO hg).1))
   have HNX:=hide (runs_next (x:=x) (xs:=ys))
   have h4:(aheadN (x::ys):Int)<=4096:=by have:=ahead_le (x::ys);omega
   generalize hN:(x::ys).length=N at *
   generalize hr:aheadN (x::ys)=R at *
   have HHN:=hide hN
   clear hys ho hb hA hblk hN hr hlt
   go_upto_region 5 with (go_at_call 141;refine(unhide HAH _ (Below.refl _ _)).mono ?_;rintro e w1 ⟨rfl,hb1⟩)
   rcases unhide HAA with e|⟨rb,ro,ea,hc⟩
   ·cases e
   subst ea
   have HB1:=hide (below_step (unhide HB) hb1)
   have HSF:Hid (∀W,Below w.heap.size w W->W.cell? ⟨rb,ro,none⟩=some (.int .i64 x.k)/\W.cell? ⟨rb,ro+1,none⟩=some (.int .i64 x.n)/\W.cell? ⟨rb,ro+2,none⟩=some (.string x.s)):=fun W hW=>by
    rcases(unhide HAA).keep (unhide HB) hW (unhide HLT) with e|⟨rb',ro',ea,hc'⟩
    ·cases e
    ·injection ea with ea
     injection ea with ea1 ea2
     subst ea1 ea2
     have:=hc' 0 x rfl
     simpa using this
   clear hc
   go_cut[5] (fun s5 wx=>OwnB wx w.heap.size s5 ((zr++beL (R:Int) 4 4)++plainL x)/\Below w.heap.size w wx)
   case first=>
    rename_i K0 aK0 J1 K1 aJ aM
    have hS0:(fun w':World=>w'.cell? ⟨rb,ro,none⟩=some (.int .i64 x.k)/\w'.cell? ⟨rb,ro+1,none⟩=some (.int .i64 x.n)/\w'.cell? ⟨rb,ro+2,none⟩=some (.string x.s)) w1.drew:=unhide HSF w1.drew ((unhide HB1).drew)
    refine wp_region_noPanic ?_
    refine wp_region_G (S:=fun w':World=>w'.cell? ⟨rb,ro,none⟩=some (.int .i64 x.k)/\w'.cell? ⟨rb,ro+1,none⟩=some (.int .i64 x.n)/\w'.cell? ⟨rb,ro+2,none⟩=some (.string x.s)) (k:=8) (by kernel_rfl) ?_
    refine anyG_takel (i:=0) (v:=u5) [3,7,8] rfl (by kernel_rfl) (by kernel_rfl) (by kernel_rfl) (by kernel_rfl) (fun _ _ _ h=>h) (Or.inl ⟨by rfl,fun w' hSw=>?_⟩) hS0 ?_
    ·dsimp only at hSw;obtain⟨q0,q1,q2⟩:=hSw;go_simp
    try simp only[Act.put,List.setIfInBounds_toArray,List.set_cons_zero,List.set_cons_succ]
    refine anyG_takel (i:=1) (v:=(.int .i64 R)) [2,3,7,8] rfl (by kernel_rfl) (by kernel_rfl) (by kernel_rfl) (by kernel_rfl) (fun _ _ _ h=>h) (Or.inl ⟨by rfl,fun w' hSw=>?_⟩) hS0 ?_
    ·dsimp only at hSw;obtain⟨q0,q1,q2⟩:=hSw;go_simp
    try simp only[Act.put,List.setIfInBounds_toArray,List.set_cons_zero,List.set_cons_succ]
    refine anyG_takel (i:=2) (v:=(.int .u64 R)) [3,7,8] rfl (by kernel_rfl) (by kernel_rfl) (by kernel_rfl) (by kernel_rfl) (fun _ _ _ h=>h) (Or.inl ⟨by rfl,fun w' hSw=>?_⟩) hS0 ?_
    ·dsimp only at hSw;obtain⟨q0,q1,q2⟩:=hSw;go_simp;first|done|exact wrap_size (by omega)
    try simp only[Act.put,List.setIfInBounds_toArray,List.set_cons_zero,List.set_cons_succ]
    refine anyG_takel (i:=4) (v:=(.slice (some ⟨rb,ro,none⟩) N (ca-j))) [5,6,7,8] rfl (by kernel_rfl) (by kernel_rfl) (by kernel_rfl) (by kernel_rfl) (fun _ _ _ h=>h) (Or.inl ⟨by rfl,fun w' hSw=>?_⟩) hS0 ?_
    ·dsimp only at hSw;obtain⟨q0,q1,q2⟩:=hSw;go_simp
    try simp only[Act.put,List.setIfInBounds_toArray,List.set_cons_zero,List.set_cons_succ]
    refine anyG_takel (i:=5) (v:=(.pointer (some ⟨rb,ro,none⟩))) [6,7,8] rfl (by kernel_rfl) (by kernel_rfl) (by kernel_rfl) (by kernel_rfl) (fun _ _ _ h=>h) (Or.inl ⟨by rfl,fun w' hSw=>?_⟩) hS0 ?_
    ·dsimp only at hSw;obtain⟨q0,q1,q2⟩:=hSw;go_simp
    try simp only[Act.put,List.setIfInBounds_toArray,List.set_cons_zero,List.set_cons_succ]
    refine anyG_takel (i:=6) (v:=(.agg #[.int .i64 x.k,.int .i64 x.n,.string x.s])) [7,8] rfl (by kernel_rfl) (by kernel_rfl) (by kernel_rfl) (by kernel_rfl) (fun _ _ _ h=>h) (Or.inl ⟨by rfl,fun w' hSw=>?_⟩) hS0 ?_
    ·dsimp only at hSw;obtain⟨q0,q1,q2⟩:=hSw;go_simp
    try simp only[Act.put,List.setIfInBounds_toArray,List.set_cons_zero,List.set_cons_succ]
    clear hS0
    refine anyG_one (i:=3) (by kernel_rfl) ?_
    refine wpOp_lit rfl (by rfl) fun K hK=>?_
    go_simp
    refine(unhide HC1 _ (hb1.drew)).mono ?_
    rintro e w2 ⟨v2,rfl,hO2,hB2⟩
    go_simp
    have HO2:=hide hO2
    have HB2:=hide hB2
    refine unhide hK _ _ ⟨fun _=>unhide HSF _ hB2,?_⟩
    clear hK K hO2 hB2
    refine anyG_one (i:=7) (by kernel_rfl) ?_
    refine wpOp_lit rfl (by rfl) fun K hK=>?_
    go_simp
    refine(unhide HC2 _ _ (unhide HO2) (unhide HB2)).mono ?_
    rintro e w3 ⟨v3,rfl,hO3,hB3⟩
    go_simp
    have HO3:=hide hO3
    have HB3:=hide hB3
    refine unhide hK _ _ ⟨fun _=>unhide HSF _ hB3,?_⟩
    clear hK K hO3 hB3
    refine anyG_one (i:=8) (by kernel_rfl) ?_
    refine wpOp_lit rfl (by rfl) fun K hK=>?_
    go_simp
    refine unhide hK _ _ ⟨fun hh=>absurd hh (by decide),?_⟩
    clear hK K
    refine anyG_done (by kernel_rfl) ?_ _
    refine NoPanic.normal ?_
    go_wp2
    go_meet
    exact⟨unhide HO3,unhide HB3⟩
   case rest=>
    obtain⟨hO5,hB5⟩:=hcut
    have HO5:=hide hO5
    have HB5:=hide hB5
    have hRN:=unhide HAL
    have hRi:(R:Int)<=(N:Int):=by omega
    clear hO5 hB5
    rename World=>wc
    have hNx:N=xs.length-j:=by have:=congrArg List.length (unhide HYS);rw[List.length_drop,unhide HHN] at this;exact this
    have HROW:Hid (RowAt wc (if ca-j=R then some ⟨rb,ro,none⟩ else some ⟨rb,ro+R*3,none⟩) ((x::ys).drop R)):=by
     by_cases hcR:ca-j=R
     ·left
      exact List.drop_eq_nil_of_le (by rw[unhide HHN];omega)
     ·rw[if_neg hcR]
      exact((unhide HAA).keep (unhide HB) (unhide HB5) (unhide HLT)).drop (by rw[unhide HHN];exact hRN)
    have HBK2:Hid (∀ad,(if ca-j=R then some (⟨rb,ro,none⟩:Addr) else some ⟨rb,ro+R*3,none⟩)=some ad->∃ad0,aa=some ad0/\ad.block=ad0.block):=by
     obtain⟨ad0,e0,e1⟩:=unhide HBLK _ rfl
     intro ad e
     split at e
     ·injection e with e;subst e;exact⟨ad0,e0,e1⟩
     ·injection e with e;subst e;exact⟨ad0,e0,e1⟩
    have hp:=unhide HAP
    clear hNx
    go_wp2
    refine⟨⟨j+R,(x::ys).drop R,(zr++beL (R:Int) 4 4)++plainL x,c+1,_,?_,?_,?_,unhide HROW,unhide HBK2,unhide HO5,by go_num,by omega,?_,?_,?_,unhide HB5⟩,?_⟩
    ·rw[unhide HYS,List.drop_drop]
    ·have:=congrArg List.length (unhide HYS);rw[List.length_drop,unhide HHN] at this;omega
    ·rw[List.length_drop,unhide HHN,Nat.sub_sub]
    ·show _=_
     rw[unhide HRB,(unhide HNX).1]
     simp only[List.append_assoc]
    ·show _=_
     rw[unhide HRN,(unhide HNX).2]
     omega
    ·have:=plainL_len x
     rw[List.length_append,List.length_append,beL_len]
     have:1012*(j+R)=1012*j+1012*R:=by rw[Nat.mul_add]
     omega
    ·show N-R<N
     omega
end Go.Proofs.YtbfibfmnemnbbaaGreat
set_option linter.unusedSimpArgs false
set_option linter.unusedVariables false
namespace Go.Proofs.YtbfibfmnemnbbaaGreat
open Go.RowKit Go.Sort
def total(d:Nat):List Nat->Nat
 | []=>0
 | n::ns=>n % 2 ^ d+2 ^ d*total d ns
theorem total_snoc(d:Nat)(n:Nat):∀ns:List Nat,total d (ns++[n])=total d ns+2 ^ (d*ns.length)*(n % 2 ^ d)
 | []=>by simp[total]
 | m::ns=>by
  have ih:=total_snoc d n ns
  simp only[List.cons_append,total,List.length_cons]
  rw[ih,Nat.mul_add,Nat.mul_succ,Nat.pow_add,Nat.add_assoc,Nat.mul_comm (2 ^ (d*ns.length)) (2 ^ d),Nat.mul_assoc]
theorem total_lt(d:Nat):∀ns:List Nat,total d ns<2 ^ (d*ns.length)
 | []=>by simp[total]
 | n::ns=>by
  have ih:=total_lt d ns
  have h1:n % 2 ^ d<2 ^ d:=Nat.mod_lt _ (Nat.two_pow_pos d)
  simp only[total,List.length_cons]
  rw[Nat.mul_succ,Nat.pow_add,Nat.mul_comm (2 ^ (d*ns.length)) (2 ^ d)]
  have h2:2 ^ d*total d ns+2 ^ d<=2 ^ d*2 ^ (d*ns.length):=by
   rw[<-Nat.mul_succ];exact Nat.mul_le_mul_left _ ih
  omega
def byteN(T j:Nat):Nat:=T / 256 ^ j % 256
theorem pow256(j:Nat):256 ^ j=2 ^ (8*j):=by rw[Nat.pow_mul]
theorem byte_add{T p x:Nat}(hT:T<2 ^ p)(hx:x<2 ^ (8-p % 8))(i:Nat) :
  byteN (T+x*2 ^ p) i=if i=p / 8 then byteN T i+x*2 ^ (p % 8) else byteN T i:=by
 obtain⟨q,r,hp,hr⟩:∃q r,p=8*q+r/\r<8:=⟨p / 8,p % 8,by omega,by omega⟩
 have e1:p / 8=q:=by omega
 have e2:p % 8=r:=by omega
 rw[e2] at hx
 rw[e1,e2]
 clear e1 e2
 have e3:2 ^ p=256 ^ q*2 ^ r:=by rw[hp,Nat.pow_add,pow256]
 rw[e3] at hT ⊢
 have hxr:(x+1)*2 ^ r<=256:=by
  have:2 ^ (8-r)*2 ^ r=256:=by rw[<-Nat.pow_add,show 8-r+r=8 by omega]
  rw[<-this]
  exact Nat.mul_le_mul_right _ hx
 have hq:T / 256 ^ q<2 ^ r:=Nat.div_lt_of_lt_mul hT
 have hpos:∀k,0<256 ^ k:=fun k=>Nat.pow_pos (by decide)
 have e4:x*(256 ^ q*2 ^ r)=256 ^ q*(x*2 ^ r):=by rw[Nat.mul_left_comm]
 rw[e4]
 unfold byteN
 by_cases h:i=q
 ·subst h
  rw[if_pos rfl,Nat.add_mul_div_left _ _ (hpos _)]
  have h2:2 ^ r<=256:=by
   have:(2:Nat) ^ r<=2 ^ 8:=Nat.pow_le_pow_right (by decide) (by omega)
   simpa using this
  rw[Nat.mod_eq_of_lt (by rw[Nat.add_mul] at hxr;omega),Nat.mod_eq_of_lt (by omega)]
 ·rw[if_neg h]
  by_cases h1:i<q
  ·obtain⟨s,rfl⟩:∃s,q=i+1+s:=⟨q-i-1,by omega⟩
   have e5:256 ^ (i+1+s)*(x*2 ^ r)=256 ^ i*(256*(256 ^ s*(x*2 ^ r))):=by
    rw[Nat.pow_add,Nat.pow_succ]
    simp only[Nat.mul_assoc]
   rw[e5,Nat.add_mul_div_left _ _ (hpos _),Nat.add_mul_mod_self_left]
  ·have h3:256 ^ (q+1)<=256 ^ i:=Nat.pow_le_pow_right (by decide) (by omega)
   have h4:T+256 ^ q*(x*2 ^ r)<256 ^ (q+1):=by
    have h5:256 ^ q*((x+1)*2 ^ r)<=256 ^ q*256:=Nat.mul_le_mul_left _ hxr
    rw[Nat.add_mul,Nat.one_mul,Nat.mul_add] at h5
    rw[Nat.pow_succ]
    omega
   rw[Nat.div_eq_of_lt (by omega),Nat.div_eq_of_lt (by omega)]
theorem byte_low{T p:Nat}(hT:T<2 ^ p):byteN T (p / 8)<2 ^ (p % 8):=by
 have e3:2 ^ p=256 ^ (p / 8)*2 ^ (p % 8):=by
  rw[pow256,<-Nat.pow_add]
  congr 1
  omega
 rw[e3] at hT
 exact Nat.lt_of_le_of_lt (Nat.mod_le _ _) (Nat.div_lt_of_lt_mul hT)
theorem or_u8(a b:Nat)(ha:a<256)(hb:b<256):bits .or .u8 (a:Int) (b:Int)=((a ||| b:Nat):Int):=by
 have hx:a ||| b<2 ^ 8:=Nat.or_lt_two_pow (by omega) (by omega)
 have h1:(BitVec.ofInt 8 (a:Int)).toNat=a:=by
  rw[BitVec.ofInt_natCast,BitVec.toNat_ofNat];exact Nat.mod_eq_of_lt (by omega)
 have h2:(BitVec.ofInt 8 (b:Int)).toNat=b:=by
  rw[BitVec.ofInt_natCast,BitVec.toNat_ofNat];exact Nat.mod_eq_of_lt (by omega)
 show IntKind.u8.wrap ((BitVec.ofInt 8 (a:Int) ||| BitVec.ofInt 8 (b:Int)).toNat:Int)=_
 rw[BitVec.toNat_or,h1,h2]
 simp[IntKind.wrap,IntKind.signed,IntKind.bits]
 omega
theorem or_add{a x r:Nat}(h:a<2 ^ r):a ||| x*2 ^ r=a+x*2 ^ r:=by
 rw[Nat.or_comm,Nat.mul_comm,<-Nat.two_pow_add_eq_or_of_lt h x,Nat.add_comm]
def leB(T m:Nat):List Int:=(List.range m).map fun j=>(byteN T j:Int)
theorem leB_len(T m:Nat):(leB T m).length=m:=by simp[leB]
theorem byteN_zero(j:Nat):byteN 0 j=0:=by simp[byteN]
theorem Tryz.info84:(Tryz.prog.info? 84).map (fun i=>(i.zero,i.size,i.bytes))=some (some (.int .u64 0),1,8):=by kernel_rfl
end Go.Proofs.YtbfibfmnemnbbaaGreat
set_option linter.unusedSimpArgs false
set_option linter.unusedVariables false
set_option maxHeartbeats 1000000
namespace Go.Proofs.YtbfibfmnemnbbaaGreat
open Go.RowKit Go.Sort Go.Lib
def zeroB(n:Nat):ByteArray:=⟨Array.replicate n 0⟩
theorem zeroB_size(n:Nat):(zeroB n).size=n:=by simp[zeroB,ByteArray.size]
theorem zeroB_cells(n:Nat):strCells (zeroB n)=List.replicate n (.int .u8 0):=by simp[strCells,zeroB]
theorem zeroB_map(n:Nat):((zeroB n).data.map fun b=>Value.int .u8 (b.toNat:Int))=Builtin.zeroCells (Value.int .u8 0).cells n:=by
 apply Array.ext
 ·simp[zeroB,Builtin.zeroCells,Value.cells]
 ·intro i h1 h2
  simp[zeroB,Builtin.zeroCells,Value.cells,Nat.mod_one]
theorem zeroC_nil:Builtin.zeroCells (Value.int .u8 0).cells 0=#[]:=by simp[Builtin.zeroCells]
theorem zeroC_size(n:Nat):(Builtin.zeroCells (Value.int .u8 0).cells n).size=n:=by simp[Builtin.zeroCells,Value.cells]
theorem append_zeros_eq(ty:TypeId)(i:TypeInfo)(hi:Tryz.prog.info? 5=some i)(hz:i.zero=some (.int .u8 0))(hsize:i.size=1)(hby:i.bytes=1)(a:Option Addr)(l c n:Nat)(w:World)(hl:l+n<=140737488355328)(hn:n<=1000000000)(hlc:l<=c) :
  (Builtin.append_ #[82,3] ty #[.slice a l c,.int .i64 n]).run Tryz.prog w=(Builtin.append_ #[82,9] ty #[.slice a l c,.string (zeroB n)]).run Tryz.prog w:=by
 have hw:IntKind.i64.wrap (n:Int)=n:=by simp[IntKind.wrap,IntKind.signed,IntKind.bits];omega
 have hf:=run_firstCells_string (P:=Tryz.prog) w 1 (zeroB n)
 rw[zeroB_size] at hf
 have wz:IntKind.i64.wrap 0=0:=by decide
 have h1:¬((n:Int)<0):=by omega
 have h2:¬((n:Int)*1 > 2 ^ 48):=by omega
 have h3:¬((281474976710656:Int)<(n:Int)):=by omega
 have h4:¬((9223372036854775807:Int)<(l:Int)+(n:Int)):=by omega
 have htk:List.take n (Builtin.zeroCells (Value.int .u8 0).cells n).toList=(Builtin.zeroCells (Value.int .u8 0).cells n).toList:=List.take_of_length_le (by rw[Array.length_toList,zeroC_size];exact Nat.le_refl _)
 have hex:(Builtin.zeroCells (Value.int .u8 0).cells n).extract 0 n=Builtin.zeroCells (Value.int .u8 0).cells n:=by
  apply Array.ext'
  simpa using htk
 by_cases hroom:l+n<=c
 ·by_cases h0:n=0
  ·subst h0
   simp at hroom
   simp[wz,hroom,Builtin.append_,run_underlying Tryz.underlying82,run_underlying Tryz.underlying9,run_underlying Tryz.underlying3,sizeOf,typeInfo,hi,hsize,hby,hz,Builtin.lenOf,zeroB_size,hw,asInt,asIntOf,h1,h2,h3,h4,zeroValue,Builtin.firstCells,zeroB_map,zeroC_nil,zeroC_size,IntKind.max,IntKind.signed,IntKind.bits]
  ·simp[hroom,h0,Builtin.append_,run_underlying Tryz.underlying82,run_underlying Tryz.underlying9,run_underlying Tryz.underlying3,sizeOf,typeInfo,hi,hsize,hby,hz,Builtin.lenOf,zeroB_size,hw,asInt,asIntOf,h1,h2,h3,h4,zeroValue,Builtin.firstCells,zeroB_map,zeroC_nil,zeroC_size,IntKind.max,IntKind.signed,IntKind.bits,htk,hex]
 have h5:¬(281474976710656<Builtin.nextslicecap (l+n) c):=by have:=growslice_fits (need:=l+n) (old:=c) (bytes:=1) (by omega) (by omega);omega
 have h0:¬n=0:=by omega
 simp[hroom,h5,h0,Builtin.append_,run_underlying Tryz.underlying82,run_underlying Tryz.underlying9,run_underlying Tryz.underlying3,sizeOf,typeInfo,hi,hsize,hby,hz,Builtin.lenOf,zeroB_size,hw,asInt,asIntOf,h1,h2,h3,h4,zeroValue,Builtin.firstCells,zeroB_map,zeroC_nil,zeroC_size,IntKind.max,IntKind.signed,IntKind.bits,htk,hex]
theorem wpList_append_zeros{ops:Array Oper}{rest:List Oper}{o:Oper}{a:Act}{Q:Exit->Act->World->Prop}(w:World)(hgd:o.guard=none)(s x:Operand)(ho:o.op=.call { callee:=.builtin .append,args:=#[s,x],argTypes:=#[82,3] })
  (base:Nat) (v:Value) (n:Nat) (zs:List Int) (hs:a.eval s=v) (hx:a.eval x=.int .i64 (n:Int)) (hown:OwnB w base v zs) (hlen:zs.length+n<=140737488355328) (hn:n<=1000000000) (hbase:base<=w.heap.size)
  (h:∀v' w',OwnB w' base v' (zs++List.replicate n 0)->Grew w w' v v'->wpList Tryz.prog ops Q rest (a.put o.dst v') w'):wpList Tryz.prog ops Q (o::rest) a w:=by
 obtain⟨i0,hi,hz0,hz1,hz2⟩:=info_parts Tryz.info5
 obtain⟨v',w',hr,h2,h3,h4⟩:=append_str o.type hi hz0 hz1 hz2 hown (zeroB n) (by rw[zeroB_size];exact hlen) hbase
 have hv:∃aa cap,v=.slice aa zs.length cap/\zs.length<=cap:=by
  rcases hown.2 with ⟨rfl,h0⟩|⟨g,cap,cur,rfl,hb,hh,hc,_⟩
  ·exact⟨none,0,by rw[h0],by omega⟩
  ·exact⟨_,_,rfl,hc⟩
 obtain⟨aa,cap,rfl,hlc⟩:=hv
 rw[<-append_zeros_eq o.type i0 hi hz0 hz1 hz2 aa zs.length cap n w hlen hn hlc] at hr
 refine wpList_plain hgd fun K hK=>?_
 unfold Oper.wp execOp
 simp only[ho,resolve,invoke,builtin,Sem.run_bind,Sem.run_pure,Result.andThen_ok,List.map_toArray,List.map_cons,List.map_nil,hs,hx,hr]
 refine hK _ _ (h v' w' ?_ ⟨h3,?_⟩)
 ·refine ownB_app (m:=n) (by simp) ?_
  rw[zeroB_size,zeroB_cells] at h2
  simpa using h2
 ·rcases h4 with e|e
  ·exact .inl e
  ·exact .inr ⟨_,e,Nat.le_refl _⟩
end Go.Proofs.YtbfibfmnemnbbaaGreat
set_option linter.unusedSimpArgs false
set_option linter.unusedVariables false
set_option maxHeartbeats 4000000
set_option maxRecDepth 100000
namespace Go.Proofs.YtbfibfmnemnbbaaGreat
open Go.RowKit Go.Sort
theorem own_store{w:World}{base e:Nat}{R n cap i:Nat}{cs:List Value}{u:Value}(h:w.ownsRow base e 1 (.slice (some ⟨R,0,none⟩) n cap) n cs)(hi:i<n):(w.setCell ⟨R,i,none⟩ u).ownsRow base e 1 (.slice (some ⟨R,0,none⟩) n cap) n (cs.set i u):=by
 refine⟨by rw[List.length_set];exact h.1,?_⟩
 rcases h.2 with ⟨e0,_⟩|⟨g,cap',cur,ev,hb,hh,h1,h2,h3,h4⟩
 ·cases e0
 ·cases ev
  refine .inr ⟨R,cap,cur.setIfInBounds i u,rfl,hb,?_,h1,h2,by simpa using h3,?_⟩
  ·simp[World.setCell,Array.getElem?_modify,hh]
  ·rw[<-h4]
   simp[List.take_set]
theorem OwnB.store{w:World}{base g cap j:Nat}{zs:List Int}(h:OwnB w base (.slice (some ⟨g,0,none⟩) zs.length cap) zs)(hj:j<zs.length)(x:Int):OwnB (w.setCell ⟨g,j,none⟩ (.int .u8 x)) base (.slice (some ⟨g,0,none⟩) zs.length cap) (zs.set j x):=by
 have:=own_store (u:=.int .u8 x) h hj
 unfold OwnB
 rw[List.length_set,List.map_set]
 exact this
theorem OwnB.at{w:World}{base g cap j:Nat}{zs:List Int}{y:Int}(h:OwnB w base (.slice (some ⟨g,0,none⟩) zs.length cap) zs)(hj:zs[j]?=some y):w.cell? ⟨g,j,none⟩=some (.int .u8 y)/\w.frozen? ⟨g,j,none⟩=false:=by
 refine⟨?_,?_⟩
 ·have:=World.ownsRow.cells h (g:=g) rfl j (.int .u8 y) (by simp[hj])
  rw[Addr.add_lit] at this
  simpa using this
 ·rcases h.2 with ⟨e0,_⟩|⟨g',cap',cur,ev,hb,hh,_⟩
  ·cases e0
  ·cases ev
   simp[World.frozen?,hh]
theorem Grew.store{w wr:World}{v:Value}{g n cap j:Nat}(h:Grew w wr v (.slice (some ⟨g,0,none⟩) n cap))(u:Value):Grew w (wr.setCell ⟨g,j,none⟩ u) v (.slice (some ⟨g,0,none⟩) n cap):=by
 refine⟨⟨h.1.os,h.1.tape,h.1.output,by simp;exact h.1.size,fun i hi hne=>?_⟩,h.2⟩
 rw[Go.Deep.blk_setCell_other]
 ·exact h.1.block i hi hne
 ·simp
  intro e
  subst e
  rcases h.2 with e|⟨g',e,hg⟩
  ·exact hne e
  ·simp[Value.ownBlock] at e;omega
theorem LisAt.grew{w w':World}{v v':Value}{a:Option Addr}{cs:List Value}(h:LisAt w a cs)(hg:Grew w w' v v')(hsep:∀ad,a=some ad->v.ownBlock≠some ad.block):LisAt w' a cs:=by
 rcases h with h|⟨b,off,ha,h⟩
 ·exact .inl h
 ·have hs:v.ownBlock≠some b:=hsep _ ha
  exact .inr ⟨b,off,ha,fun i x hx=>by rw[grew_kept hg (World.block_lt_of_cell? _ _ (h i x hx)) hs];exact h i x hx⟩
theorem leB_zero(N:Nat):leB 0 N=List.replicate N 0:=by
 refine List.ext_getElem? fun i=>?_
 by_cases hi:i<N
 ·simp[leB,hi,byteN_zero]
 ·rw[List.getElem?_eq_none (by simp[leB];omega),List.getElem?_eq_none (by simp;omega)]
theorem leB_at(T N q:Nat)(h:q<N):(leB T N)[q]?=some (byteN T q:Int):=by simp[leB,h]
theorem leB_set{T P x N:Nat}(hT:T<2 ^ P)(hx:x<2 ^ (8-P % 8))(zs:List Int):(zs++leB T N).set (zs.length+P / 8) ((byteN T (P / 8)+x*2 ^ (P % 8):Nat):Int)=zs++leB (T+x*2 ^ P) N:=by
 rw[List.set_append_right _ _ (by omega),Nat.add_sub_cancel_left]
 congr 1
 refine List.ext_getElem? fun i=>?_
 rw[List.getElem?_set]
 by_cases hi:i<N
 ·rw[leB_at (T+x*2 ^ P) _ _ hi,leB_at T _ _ hi,byte_add hT hx]
  by_cases h:P / 8=i
  ·rw[if_pos h,if_pos (by rw[leB_len];omega),if_pos h.symm,h]
  ·rw[if_neg h,if_neg (Ne.symm h)]
 ·rw[List.getElem?_eq_none (l:=leB (T+x*2 ^ P) N) (by rw[leB_len];omega)]
  by_cases h:P / 8=i
  ·rw[if_pos h,if_neg (by rw[leB_len];omega)]
  ·rw[if_neg h,List.getElem?_eq_none (by rw[leB_len];omega)]
theorem piece{T P m L s:Nat}(hm:m<2 ^ L)(hs:s=min (8-P % 8) L)(hT:T<2 ^ P) :
  T+m % 2 ^ (8-P % 8)*2 ^ P<2 ^ (P+s)/\T+m % 2 ^ (8-P % 8)*2 ^ P+m / 2 ^ s*2 ^ (P+s)=T+m*2 ^ P/\m / 2 ^ s<2 ^ (L-s):=by
 have e:m % 2 ^ (8-P % 8)=m % 2 ^ s:=by
  by_cases h:8-P % 8<=L
  ·rw[hs,Nat.min_eq_left h]
  ·rw[hs,Nat.min_eq_right (by omega),Nat.mod_eq_of_lt hm,Nat.mod_eq_of_lt]
   exact Nat.lt_of_lt_of_le hm (Nat.pow_le_pow_right (by decide) (by omega))
 rw[e]
 have h1:m % 2 ^ s<2 ^ s:=Nat.mod_lt _ (Nat.two_pow_pos s)
 refine⟨?_,?_,?_⟩
 ·have h2:(m % 2 ^ s+1)*2 ^ P<=2 ^ s*2 ^ P:=Nat.mul_le_mul_right _ h1
  rw[Nat.pow_add,Nat.mul_comm (2 ^ P) (2 ^ s)]
  rw[Nat.add_mul,Nat.one_mul] at h2
  omega
 ·have h3:=Nat.mod_add_div m (2 ^ s)
  rw[Nat.pow_add,Nat.mul_comm (2 ^ P) (2 ^ s),<-Nat.mul_assoc,Nat.add_assoc,<-Nat.add_mul,Nat.mul_comm (m / 2 ^ s) (2 ^ s),h3]
 ·refine Nat.div_lt_of_lt_mul ?_
  rw[<-Nat.pow_add,show s+(L-s)=L by omega]
  exact hm
theorem apbits_any(base:Nat)(zs:List Int)(aa:Option Addr)(ca:Nat)(ns:List Nat)(d:Nat)(v:Value)(w:World)(hown:OwnB w base v zs)(hlen:zs.length<=1000000000)(hk:ns.length<=1000000)(hd:d<=64)(hn:∀n∈ns,n<2 ^ d)(hbase:base<=w.heap.size)
  (ha:LisAt w aa (ns.map fun n:Nat=>Value.int .u64 (n:Int))) (hsep:∀ad,aa=some ad->v.ownBlock≠some ad.block) :
  Calls Tryz.prog 140 #[v,.slice aa ns.length ca,.int .i64 d] w fun e w'=>∃v',e=.returned v'/\OwnB w' base v' (zs++leB (total d ns) (bytesN ns.length d))/\Grew w w' v v':=by
 have hN:8*bytesN ns.length d<=ns.length*d+7/\ns.length*d<=8*bytesN ns.length d:=by unfold bytesN;omega
 have hml:ns.length*d<=64000000:=Nat.mul_le_mul hk hd
 have HF:=hide (fun w'=>bytesfor_any ns.length d w' hk hd)
 have HA:=hide ha
 have HN:=hide hN
 have HNS:=hide hn
 have HSEP:=hide hsep
 have hvl:∃av cv,v=.slice av zs.length cv:=by
  rcases hown.2 with ⟨rfl,h0⟩|⟨g,cap,cur,rfl,_⟩
  ·exact⟨none,0,by rw[h0]⟩
  ·exact⟨_,_,rfl⟩
 obtain⟨av,cv,rfl⟩:=hvl
 have HOWN:=hide hown
 generalize bytesN ns.length d=N at *
 have hNb:N<=8000001:=by omega
 clear ha hN hn hsep hown
 go_enter Tryz.func140,Tryz.ntmps140
 go_wp2_with (first
  | (go_at_call 160;refine(unhide HF _).mono ?_;rintro e w1 ⟨rfl,rfl⟩)
  | (at_builtin;refine wpList_append_zeros _ rfl (.tmp 16) (.tmp 20) rfl base (.slice av zs.length cv) N zs rfl rfl (unhide HOWN) (by omega) (by omega) hbase ?_;intro v1 w2 hO1 hG1;replace hO1:=hide hO1;replace hG1:=hide hG1)
  | fail)
 go_loopw[8,24] (fun s8 s24 wr=>∃i:Nat,i<=ns.length/\s24=.int .i64 (i:Int)/\s8=.int .i64 ((d*i:Nat):Int)/\OwnB wr base v1 (zs++leB (total d (ns.take i)) N)/\Grew w1 wr (.slice av zs.length cv) v1) (fun _ s _=>ns.length-(intOf s).toNat)
 case atStart=>exact⟨0,Nat.zero_le _,rfl,by simp,by simp only[List.take_zero,total];rw[leB_zero];exact unhide hO1,unhide hG1⟩
 case round=>
  obtain⟨i,hi,rfl,rfl,hO,hG⟩:=hrel
  by_cases h1:i<ns.length
  ·have i1:(i:Int)<(ns.length:Int):=by omega
   obtain⟨n,hn⟩:∃n,ns[i]?=some n:=⟨_,List.getElem?_eq_getElem h1⟩
   have hnb:=unhide HNS n (List.mem_of_getElem? hn)
   obtain⟨qb,qo,ea,cq⟩:=((unhide HA).grew hG (unhide HSEP)).get (k:=i) (x:=.int .u64 (n:Int)) (by simp[hn])
   subst ea
   have hQ:d*i+d<=ns.length*d:=by rw[Nat.mul_comm d i,<-Nat.succ_mul];exact Nat.mul_le_mul_right d h1
   have HT:Hid (total d (ns.take (i+1))=total d (ns.take i)+n*2 ^ (d*i)):=by
    show _=_
    obtain⟨hi',rfl⟩:=List.getElem?_eq_some_iff.1 hn
    rw[List.take_succ_eq_append_getElem hi',total_snoc,List.length_take,Nat.min_eq_left (by omega),Nat.mod_eq_of_lt hnb,Nat.mul_comm]
   have HTL:Hid (total d (ns.take i)<2 ^ (d*i)):=by
    show _<_
    have:=total_lt d (ns.take i)
    rw[List.length_take,Nat.min_eq_left (by omega)] at this
    exact this
   have HO:=hide hO
   have HG:=hide hG
   have HQ:=hide hQ
   have hn64:n<18446744073709551616:=Nat.lt_of_lt_of_le hnb (by have:2 ^ d<=2 ^ 64:=Nat.pow_le_pow_right (by decide) hd;simpa using this)
   generalize total d (ns.take i)=T0 at *
   obtain⟨T1,HTT⟩:∃T1,Hid (total d (ns.take (i+1))=T1):=⟨_,rfl⟩
   rw[unhide HTT] at HT
   generalize hD:d*i=D at *
   have HD:=hide hD
   have HNB:=hide hnb
   clear hO hG hQ hn hD hnb
   go_wp2_with fail
   go_loopw[8,10,11] (fun s8 s10 s11 wv=>∃P m L T:Nat,s8=.int .i64 (P:Int)/\s10=.int .u64 (m:Int)/\s11=.int .i64 (L:Int)/\P+L=D+d/\Hid (T<2 ^ P)/\Hid (m<2 ^ L)/\Hid (T+m*2 ^ P=T1)/\OwnB wv base v1 (zs++leB T N)/\Grew w1 wv (.slice av zs.length cv) v1) (fun _ _ s _=>(intOf s).toNat)
   case atStart=>exact⟨D,n,d,T0,rfl,rfl,rfl,rfl,unhide HTL,unhide HNB,(unhide HT).symm,unhide HO,unhide HG⟩
   case round=>
    obtain⟨P,m,L,T,rfl,rfl,rfl,hPL,HTP,HML,HE,hO,hG⟩:=hrel
    by_cases h2:0<L
    ·have i2:(0:Int)<(L:Int):=by omega
     have hqN:P / 8<N:=by have:=(unhide HN).2;have:=unhide HQ;omega
     obtain⟨g,cap,ev⟩:∃g cap,v1=.slice (some ⟨g,0,none⟩) (zs++leB T N).length cap:=by
      rcases hO.2 with ⟨_,h0⟩|⟨g,cap,cur,ev,_⟩
      ·rw[List.length_append,leB_len] at h0;omega
      ·exact⟨g,cap,ev⟩
     subst ev
     have hlN:(zs++leB T N).length=zs.length+N:=by rw[List.length_append,leB_len]
     obtain⟨q,hq⟩:∃q,q=P / 8:=⟨_,rfl⟩
     obtain⟨r,hr⟩:∃r,r=P % 8:=⟨_,rfl⟩
     obtain⟨s,hs⟩:∃s,s=min (8-r) L:=⟨_,rfl⟩
     have eq3:(P:Int).tdiv 8=(q:Int):=by rw[Int.tdiv_eq_ediv_of_nonneg (by omega)];omega
     have eq4:(P:Int).tmod 8=(r:Int):=by rw[Int.tmod_eq_emod_of_nonneg (by omega)];omega
     have eq5:(8:Int)-(r:Int)=((8-r:Nat):Int):=by omega
     have hr8:r<8:=by omega
     have HPC:=hide (piece (T:=T) (P:=P) (m:=m) (L:=L) (s:=s) (unhide HML) (by rw[hs,hr]) (unhide HTP))
     obtain⟨x,hx⟩:∃x,x=m % 2 ^ (8-r):=⟨_,rfl⟩
     have hxl:x<2 ^ (8-r):=by rw[hx];exact Nat.mod_lt _ (Nat.two_pow_pos _)
     have e256:2 ^ (8-r)*2 ^ r=256:=by rw[<-Nat.pow_add,show 8-r+r=8 by omega]
     have hlow:byteN T q<2 ^ r:=by rw[hq,hr];exact byte_low (unhide HTP)
     have hsum:byteN T q+x*2 ^ r<256:=by
      have h3:(x+1)*2 ^ r<=2 ^ (8-r)*2 ^ r:=Nat.mul_le_mul_right _ hxl
      rw[e256,Nat.add_mul,Nat.one_mul] at h3
      omega
     have hor:=or_u8 (byteN T q) (x*2 ^ r) (by omega) (by omega)
     rw[or_add hlow] at hor
     obtain⟨sv,hsv⟩:∃sv,sv=x*2 ^ r:=⟨_,rfl⟩
     have eqS:IntKind.u64.wrap ((m:Int)*2 ^ r) % 256=(sv:Int):=by
      rw[IntKind.wrap_u64]
      have h4:m*2 ^ r % 18446744073709551616 % 256=sv:=by
       rw[Nat.mod_mod_of_dvd _ (by decide),hsv,hx,<-e256,Nat.mul_mod_mul_right]
      have h5:((m*2 ^ r:Nat):Int)=(m:Int)*2 ^ r:=by simp
      rw[<-h5]
      omega
     have HSET:=hide (leB_set (T:=T) (P:=P) (x:=x) (N:=N) (unhide HTP) (by rw[<-hr];exact hxl) zs)
     rw[<-hq,<-hr,<-hsv] at HSET
     rw[<-hr,<-hx] at HPC
     rw[<-hsv] at hor hsum
     obtain⟨c1,f1⟩:=OwnB.at (j:=zs.length+q) (y:=(byteN T q:Int)) hO (by rw[List.getElem?_append_right (by omega),Nat.add_sub_cancel_left];exact leB_at T N q (by omega))
     have HST:=hide (OwnB.store hO (j:=zs.length+q) (by rw[hlN];omega) ((byteN T q+sv:Nat):Int))
     rw[unhide HSET] at HST
     generalize byteN T q=Bv at *
     have hLL:((zs++leB T N).length:Int)=(zs.length:Int)+(N:Int):=by rw[hlN];simp
     have hqL:(zs.length:Int)+(q:Int)<((zs++leB T N).length:Int):=by rw[hLL];omega
     have HGS:=hide (Grew.store (j:=zs.length+q) hG (.int .u8 ((Bv:Int)+(sv:Int))))
     have HLN:Hid ((zs++leB (T+x*2 ^ P) N).length=(zs++leB T N).length):=by show _=_;rw[List.length_append,List.length_append,leB_len,leB_len]
     generalize hLe:(zs++leB T N).length=LL at *
     have emin:min ((8:Int)-(r:Int)) (L:Int)=(s:Int):=by rw[hs];omega
     have hs64:(s:Int)<=8:=by rw[hs];omega
     have hsL:(s:Int)<=(L:Int):=by rw[hs];omega
     have hs0:0<s:=by rw[hs];omega
     have hm64:(P:Int)<=64000000:=by have:=unhide HQ;omega
     have hq8:(q:Int)<=8000001:=by omega
     have hL8:(L:Int)<=64000000:=by have:=unhide HQ;omega
     have HX:=hide hx
     clear hO hG hq hr hs hx hsv hlow hxl e256 hlN hLe hLL
     rw[Int.natCast_add] at HST
     have hz8:(zs.length:Int)<=1000000000:=by omega
     obtain⟨KK,hKK⟩:∃KK,zs.length+q=KK:=⟨_,rfl⟩
     rw[hKK] at c1 f1 HST HGS
     have ezk:(zs.length:Int)+(q:Int)=(KK:Int):=by omega
     rw[ezk] at hqL
     clear hKK
     have emin2:(if L<8-r then (L:Int) else ((8-r:Nat):Int))=(s:Int):=by
      rw[<-emin]
      split<;>omega
     have HP0:=unhide HPC
     go_upto_region 11 with fail
     try rw[emin2]
     clear emin2 emin eq5 HP0
     go_region
     go_wp2
     go_roundw
     case rel=>
      refine⟨P+s,m / 2 ^ s,L-s,T+x*2 ^ P,by go_num,?_,?_,by omega,(unhide HPC).1,(unhide HPC).2.2,?_,World.ownsRow.drew (unhide HST),(unhide HGS).trans (Grew.drew _ _)⟩
      ·first|rfl | (congr 1;simp;done) | (simp;done)
      ·first|go_num | (congr 1;omega)
      ·show _=_
       rw[(unhide HPC).2.1]
       exact unhide HE
     case measure=>first | (simp[intOf];omega) | (simp only[intOf];omega)
    ·have i2:¬(0:Int)<(L:Int):=by omega
     have hL0:L=0:=by omega
     have HT2:Hid (T=T1):=by
      show _=_
      have h3:=unhide HE
      have h4:=unhide HML
      rw[hL0] at h4
      have h5:m=0:=by simpa using h4
      rw[h5] at h3
      simpa using h3
     have hPD:P=D+d:=by omega
     have HO2:Hid (OwnB wr base v1 (zs++leB T1 N)):=by rw[<-unhide HT2];exact hO
     have HG2:=hide hG
     have HPD:=hide hPD
     clear hO hG hL0 hPD
     go_wp2
     go_roundw
     case rel=>exact⟨i+1,by omega,by go_num,by rw[unhide HPD,Nat.mul_succ,unhide HD],by rw[unhide HTT];exact unhide HO2,unhide HG2⟩
     case measure=>first | (simp[intOf];omega) | (simp only[intOf];omega)
  ·have i1:¬(i:Int)<(ns.length:Int):=by omega
   have hi':i=ns.length:=by omega
   rw[hi',List.take_length] at hO
   have HO:=hide hO
   have HG:=hide hG
   clear hO hG hi'
   go_wp2
   go_ret
   exact⟨_,rfl,unhide HO,unhide HG⟩
end Go.Proofs.YtbfibfmnemnbbaaGreat
set_option linter.unusedSimpArgs false
set_option linter.unusedVariables false
namespace Go.Proofs.YtbfibfmnemnbbaaGreat
open Go.RowKit Go.Sort
def nullB(x:Val):Bool:=x.k == 0
theorem vindex_any(a:Option Addr)(c:Nat)(xs:List Val)(w:World)(l:xs.length<=1048576)(h:RowAt w a xs) :
  Calls Tryz.prog 61 #[.slice a xs.length c,.func (.func 93) #[] #[]] w fun e w'=>(∃i:Int,e=.returned (.int .i64 i)/\Hid (decide (0<=i)=xs.any nullB))/\Below w.heap.size w w':=by
 have H:=hide h
 clear h
 go_enter Tryz.func61,Tryz.ntmps61
 go_wp2_with fail
 go_loopw[8] (fun i wr=>∃k:Nat,k<=xs.length/\i=.int .i64 k/\Hid (∀i y,i<k->xs[i]?=some y->nullB y=false)/\Below w.heap.size w wr) (fun i _=>xs.length-(intOf i).toNat)
 case atStart=>exact⟨0,Nat.zero_le _,rfl,fun i y h=>by omega,Below.refl _ _⟩
 case round=>
  obtain⟨k,hk,rfl,HN,hb⟩:=hrel
  by_cases h1:k<xs.length
  ·obtain⟨x,hx⟩:∃x,xs[k]?=some x:=⟨_,List.getElem?_eq_getElem h1⟩
   rcases(unhide H).later hb with e|⟨rb,ro,rfl,hc⟩
   ·rw[e] at hx;cases hx
   obtain⟨c0,c1,c2⟩:=hc k x hx
   have HX:=hide hx
   have HB:=hide hb
   have i1:(k:Int)<(xs.length:Int):=by omega
   have HP:=hide (fun W=>pnull_any x W)
   clear hx hc hb
   rcases Bool.eq_false_or_eq_true (nullB x) with e1|e1
   ·have HE:Hid (decide (0<=(k:Int))=xs.any nullB):=by
     show _=_
     have:xs.any nullB=true:=List.any_eq_true.2 ⟨x,List.mem_of_getElem? (unhide HX),e1⟩
     rw[this];simp
    have e2:(x.k == 0)=true:=e1
    rw[e2] at HP
    go_wp2_with (go_at_call 93;refine(unhide HP _).mono ?_;rintro e w1 ⟨rfl,hb1⟩)
    go_ret
    exact⟨⟨_,rfl,HE⟩,below_step (unhide HB) hb1⟩
   ·have e2:(x.k == 0)=false:=e1
    rw[e2] at HP
    have HS:Hid (∀i y,i<k+1->xs[i]?=some y->nullB y=false):=fun i y hi hy=>by
     by_cases h:i<k
     ·exact unhide HN i y h hy
     ·have:i=k:=by omega
      subst this
      rw[unhide HX] at hy
      injection hy with hy
      rw[<-hy];exact e1
    go_wp2_with (go_at_call 93;refine(unhide HP _).mono ?_;rintro e w1 ⟨rfl,hb1⟩)
    go_roundw
    case rel=>exact⟨k+1,by omega,by go_num,HS,below_step (unhide HB) hb1⟩
    case measure=>first | (simp[intOf];omega) | (simp only[intOf];omega)
  ·have i1:¬(k:Int)<(xs.length:Int):=by omega
   have HE:Hid (decide (0<=(-1:Int))=xs.any nullB):=by
    show _=_
    have e:k=xs.length:=by omega
    have:xs.any nullB=false:=by
     rw[List.any_eq_false]
     intro y hy
     obtain⟨i,hi,rfl⟩:=List.getElem_of_mem hy
     rw[unhide HN i _ (by omega) (List.getElem?_eq_getElem hi)]
     simp
    rw[this];rfl
   have HB:=hide hb
   clear hb
   go_wp2
   go_ret
   exact⟨⟨_,rfl,HE⟩,unhide HB⟩
theorem vcontains_any(a:Option Addr)(c:Nat)(xs:List Val)(w:World)(l:xs.length<=1048576)(h:RowAt w a xs) :
  Calls Tryz.prog 33 #[.slice a xs.length c,.func (.func 93) #[] #[]] w fun e w'=>e=.returned (.bool (xs.any nullB))/\Below w.heap.size w w':=by
 have HI:=hide (vindex_any a c xs w l h)
 generalize xs.any nullB=Z at HI ⊢
 clear h l
 go_enter Tryz.func33,Tryz.ntmps33
 go_wp2_with (go_at_call 61;refine(unhide HI).mono ?_;rintro e w1 ⟨⟨i,rfl,HE⟩,hb1⟩)
 go_ret
 exact⟨by rw[<-unhide HE];rfl,hb1⟩
end Go.Proofs.YtbfibfmnemnbbaaGreat
set_option linter.unusedSimpArgs false
set_option linter.unusedVariables false
set_option maxHeartbeats 4000000
set_option maxRecDepth 100000
namespace Go.Proofs.YtbfibfmnemnbbaaGreat
open Go.RowKit Go.Sort
def marksN(xs:List Val):List Nat:=xs.map fun x=>if nullB x then 1 else 0
def nullsL(xs:List Val):List Int:=if xs.any nullB then beL 1 1 1++leB (total 1 (marksN xs)) (bytesN xs.length 1) else beL 0 1 1
def markF(xs:List Val)(k:Nat)(j:Nat):Value:=.int .u64 (if j<k then (((marksN xs)[j]?).getD 0:Nat) else 0:Int)
theorem apnulls_any(base:Nat)(zs:List Int)(aa:Option Addr)(ca:Nat)(xs:List Val)(v:Value)(w:World)(hown:OwnB w base v zs)(hlen:zs.length<=1000000)(hl:xs.length<=4096)(hbase:base<=w.heap.size)(ha:RowAt w aa xs) :
  Calls Tryz.prog 121 #[v,.slice aa xs.length ca] w fun e w'=>∃v',e=.returned v'/\OwnB w' base v' (zs++nullsL xs)/\Grew w w' v v':=by
 obtain⟨i6,hi6,z60,z61,z62⟩:=info_parts Tryz.info84
 have HC:=hide (vcontains_any aa ca xs w (by omega) ha)
 have HOWN:=hide hown
 have HA:=hide ha
 have hgv:∀g,v.ownBlock=some g->g<w.heap.size:=fun g hg=>(ownB_lt hown hg).2
 have HGV:=hide hgv
 clear hown ha hgv
 cases hZ:xs.any nullB
 ·have HV:Hid (nullsL xs=beL 0 1 1):=by show _=_;rw[nullsL,hZ];rfl
  rw[hZ] at HC
  clear hZ
  have H1:Hid (∀W,Below w.heap.size w W->Calls Tryz.prog 120 #[v,.int .u64 0,.int .i64 1] W fun e w'=>∃v',e=.returned v'/\OwnB w' base v' (zs++beL 0 1 1)/\Grew w w' v v'):=fun W hW=>by
   refine(appnum_any base zs 0 1 v W (by omega) (own_later (unhide HOWN) hW) (by omega) (by have:=hW.size;omega)).mono fun e w' ⟨v',he,h1,h2⟩=>⟨v',he,h1,(Grew.of_below hW v).trans h2⟩
  go_enter Tryz.func121,Tryz.ntmps121
  go_wp2_with (first
   | (go_at_call 33;refine(unhide HC).mono ?_;rintro e w1 ⟨rfl,hb1⟩)
   | (go_at_call 120;refine(unhide H1 _ hb1).mono ?_;rintro e w2 ⟨v2,rfl,h2,h3⟩))
  go_ret
  exact⟨_,rfl,by rw[unhide HV];exact h2,h3⟩
 ·have HV:Hid (nullsL xs=beL 1 1 1++leB (total 1 (marksN xs)) (bytesN xs.length 1)):=by show _=_;rw[nullsL,hZ];rfl
  rw[hZ] at HC
  clear hZ
  go_enter Tryz.func121,Tryz.ntmps121
  go_wp2_with (first
   | (go_at_call 33;refine(unhide HC).mono ?_;rintro e w1 ⟨rfl,hb1⟩)
   | (at_make;refine wpList_make_row _ rfl (.tmp 14) (.tmp 14) 115 rfl 84 i6 (.int .u64 0) Tryz.underlying115 hi6 z60 z61 rfl .i64 .i64 xs.length rfl rfl (by rw[z62];omega) (by omega) ?_)
   | fail)
  have HB1:=hide hb1
  have hsz1:=hb1.size
  clear hb1
  go_loopw[18] (fun s wr=>∃k:Nat,k<=xs.length/\s=.int .i64 (k:Int)/\wr.rowIs w1.heap.size 84 xs.length (markF xs k)/\Below w1.heap.size w1 wr) (fun s _=>xs.length-(intOf s).toNat)
  case atStart=>exact⟨0,Nat.zero_le _,rfl,(World.rowIs_made w1 (.int .u64 0) xs.length 84).congr fun j hj=>by simp[markF],below_alloc (Below.refl _ _) _⟩
  case round=>
   obtain⟨k,hk,rfl,hr,hb⟩:=hrel
   by_cases h8:k<xs.length
   ·have h9:(k:Int)<(xs.length:Int):=by omega
    obtain⟨x,hx⟩:∃x,xs[k]?=some x:=⟨_,List.getElem?_eq_getElem h8⟩
    have hbw:=below_step (unhide HB1) hb
    rcases(unhide HA).later hbw with e|⟨rb,ro,rfl,hc⟩
    ·rw[e] at hx;cases hx
    obtain⟨c0,c1,c2⟩:=hc k x hx
    have bl:=below_alloc (Below.refl _ wr) (.cells #[.int .i64 x.k,.int .i64 x.n,.string x.s] 25)
    have HP:=hide (fun W=>pnull_any x W)
    have hr2:=hr.alloc (.cells #[.int .i64 x.k,.int .i64 x.n,.string x.s] 25)
    have HR2:=hide hr2
    have HB2:=hide (below_step hb bl)
    have hszr:=hb.size
    have hltr:=hr.lt
    have HMK:Hid (∀b:Nat,(marksN xs)[k]?=some b->∀j,markF xs (k+1) j=if j=k then .int .u64 (b:Int) else markF xs k j):=fun b hbb j=>by
     unfold markF
     by_cases hj:j=k
     ·subst hj;simp[hbb]
     ·rw[if_neg hj]
      by_cases hlt:j<k
      ·rw[if_pos hlt,if_pos (by omega)]
      ·rw[if_neg hlt,if_neg (by omega)]
    have hmk:(marksN xs)[k]?=some (if nullB x then 1 else 0):=by simp[marksN,hx]
    clear hc hx hr hb hr2 hbw bl
    rcases Bool.eq_false_or_eq_true (nullB x) with e1|e1
    ·have e2:(x.k == 0)=true:=e1
     rw[e2] at HP
     rw[e1] at hmk
     have HM:=hide (unhide HMK 1 (by simpa using hmk))
     clear hmk
     go_wp2_with (go_at_call 93;refine(unhide HP _).mono ?_;rintro e w3 ⟨rfl,hb3⟩;have hr3:=rowIs_later (unhide HR2) hb3;have cm:=hr3.cell h8;have fm:=hr3.frozen k;replace hr3:=hide hr3;have HB3:=hide (below_step (unhide HB2) hb3);unfold markF at cm)
     go_roundw
     case rel=>
      refine⟨k+1,by omega,by go_num,((unhide hr3).set k (.int .u64 1)).congr fun j hj=>?_,(unhide HB3).setCell (p:=⟨w1.heap.size,k,none⟩) (Nat.le_refl _) _⟩
      rw[unhide HM j];rfl
     case measure=>first | (simp[intOf];omega) | (simp only[intOf];omega)
    ·have e2:(x.k == 0)=false:=e1
     rw[e2] at HP
     rw[e1] at hmk
     have HM:=hide (unhide HMK 0 (by simpa using hmk))
     clear hmk
     go_wp2_with (go_at_call 93;refine(unhide HP _).mono ?_;rintro e w3 ⟨rfl,hb3⟩;have hr3:=hide (rowIs_later (unhide HR2) hb3);have HB3:=hide (below_step (unhide HB2) hb3))
     go_roundw
     case rel=>
      refine⟨k+1,by omega,by go_num,(unhide hr3).congr fun j hj=>?_,unhide HB3⟩
      rw[unhide HM j]
      by_cases h:j=k
      ·subst h;rw[if_pos rfl];simp[markF]
      ·rw[if_neg h]
     case measure=>first | (simp[intOf];omega) | (simp only[intOf];omega)
   ·have h9:¬(k:Int)<(xs.length:Int):=by omega
    have hk8:k=xs.length:=by omega
    rw[hk8] at hr
    have hml:(marksN xs).length=xs.length:=by simp[marksN]
    have hlis:LisAt wr (some ⟨w1.heap.size,0,none⟩) ((marksN xs).map fun n:Nat=>Value.int .u64 (n:Int)):=by
     refine lis_of_row hr (by simp[marksN]) fun i y hi hy=>?_
     rw[List.getElem?_map] at hy
     obtain⟨m,hm,rfl⟩:=Option.map_eq_some_iff.1 hy
     simp[markF,hi,hm]
    have hbw:=below_step (unhide HB1) hb
    have hltr:=hr.lt
    have H1:Hid (Calls Tryz.prog 120 #[v,.int .u64 1,.int .i64 1] wr fun e w'=>∃v',e=.returned v'/\(OwnB w' base v' (zs++beL 1 1 1)/\Grew w w' v v'/\LisAt w' (some ⟨w1.heap.size,0,none⟩) ((marksN xs).map fun n:Nat=>Value.int .u64 (n:Int))/\v'.ownBlock≠some w1.heap.size)):=by
     refine(appnum_any base zs 1 1 v wr (by omega) (own_later (unhide HOWN) hbw) (by omega) (by have:=hbw.size;omega)).mono fun e w' ⟨v',he,h1,h2⟩=>⟨v',he,h1,(Grew.of_below hbw v).trans h2,hlis.grew h2 (fun ad e=>?_),fun e=>?_⟩
     ·injection e with e
      subst e
      intro h3
      have:=unhide HGV _ h3
      simp at this
      omega
     ·rcases h2.2 with h3|⟨g,h3,h4⟩
      ·rw[e] at h3
       have:=unhide HGV _ h3.symm
       omega
      ·rw[e] at h3
       injection h3 with h3
       omega
    have H2:Hid (∀W v',(OwnB W base v' (zs++beL 1 1 1)/\Grew w W v v'/\LisAt W (some ⟨w1.heap.size,0,none⟩) ((marksN xs).map fun n:Nat=>Value.int .u64 (n:Int))/\v'.ownBlock≠some w1.heap.size)->Calls Tryz.prog 140 #[v',.slice (some ⟨w1.heap.size,0,none⟩) xs.length xs.length,.int .i64 1] W fun e w'=>∃v3,e=.returned v3/\OwnB w' base v3 ((zs++beL 1 1 1)++leB (total 1 (marksN xs)) (bytesN xs.length 1))/\Grew w w' v v3):=fun W v' ⟨h1,h2,h3,h4⟩=>by
     have:=apbits_any base (zs++beL 1 1 1) (some ⟨w1.heap.size,0,none⟩) xs.length (marksN xs) 1 v' W h1 (by rw[List.length_append,beL_len];omega) (by omega) (by omega) (fun n hn=>by
      obtain⟨x,_,rfl⟩:=List.mem_map.1 hn
      split<;>decide) (by have:=h2.1.size;omega) h3 (fun ad e=>by injection e with e;subst e;exact h4)
     rw[hml] at this
     exact this.mono fun e w' ⟨v3,he,h5,h6⟩=>⟨v3,he,h5,h2.trans h6⟩
    clear hr hb hlis hbw hk8 hml
    go_wp2_with (first
     | (go_at_call 120;refine(unhide H1).mono ?_;rintro e w2 ⟨v2,rfl,h2⟩;replace h2:=hide h2)
     | (go_at_call 140;refine(unhide H2 _ _ (unhide h2)).mono ?_;rintro e w3 ⟨v3,rfl,h5,h6⟩))
    go_ret
    exact⟨_,rfl,by rw[unhide HV,<-List.append_assoc];exact h5,h6⟩
end Go.Proofs.YtbfibfmnemnbbaaGreat
