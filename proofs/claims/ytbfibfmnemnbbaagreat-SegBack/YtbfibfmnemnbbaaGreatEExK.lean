import Derived.Test.YtbfibfmnemnbbaaGreatEAnyG
set_option linter.unusedSimpArgs false
set_option linter.unusedVariables false
set_option maxHeartbeats 1000000
set_option maxRecDepth 100000
namespace Go.Proofs.YtbfibfmnemnbbaaGreat.E
open Go.RowKit Go.Sort
theorem w29(g:Val->Val){x:Ex}{B3 B4:Nat}{F3 F4:Value}{W:World}(hx:x.fin)(h3:Box1 W B3 F3)(h4:Box1 W B4 F4)(hF:Fun1 W F3 g)(hK:Work W F4 x)(a:Option Addr)(c:Nat)(row:List Val)(hr:RowAt W a row)(hv:∀x∈row,VOk x)(hl:row.length<=140737488355328) :
  Calls Tryz.prog 86 #[.slice a row.length c,.pointer (some ⟨B3,0,none⟩),.pointer (some ⟨B4,0,none⟩)] W fun r w'=>r=.returned (g (evalE row x)).v/\Below W.heap.size W w':=by
 have hok:=eval_ok hv x hx
 obtain⟨n3,k3,rfl,e3,H3⟩:=hF
 obtain⟨n4,k4,rfl,e4,H4⟩:=hK
 unfold Enters at e3 e4
 have hB:=below_alloc (Below.refl _ W) (.cells #[.int .i64 0,.int .i64 0,.string ⟨#[]⟩] 25)
 have c3:=clater h3 hB
 have c4:=clater h4 hB
 have HZ:=hide (zeroAt_new W)
 have HC4:=hide (H4 (W.alloc (.cells #[.int .i64 0,.int .i64 0,.string ⟨#[]⟩] 25)).drew a c row (hB.drew) (hr.later hB.drew) hv hl)
 generalize evalE row x=y at *
 have HC3:=hide (fun W' hW=>H3 W' y hW hok)
 generalize g y=r at *
 clear H3 H4 h3 h4 hr hv hok hx
 go_enter Tryz.func86,Tryz.ntmps86
 go_upto_region 1 with fail
 obtain⟨wa,hwa⟩:∃wa,wa=W.alloc (.cells #[.int .i64 0,.int .i64 0,.string ⟨#[]⟩] 25):=⟨_,rfl⟩
 rw[<-hwa] at hB c3 c4 HZ HC4 ⊢
 have HB:=hide hB
 clear hwa hB
 go_cut[] (fun wx=>(wx.cell? ⟨W.heap.size,0,none⟩=some (.int .i64 r.k)/\wx.cell? ⟨W.heap.size,1,none⟩=some (.int .i64 r.n)/\wx.cell? ⟨W.heap.size,2,none⟩=some (.string r.s))/\Below W.heap.size W wx)
 case first=>
  go_region_with (first
   | (refine(unhide HC3 _ hB1).mono ?_;rintro e w2 ⟨rfl,hb2⟩;rw[Val.open_];have hB2:=below_step hbd hb2;obtain⟨z0,z1,z2,z3,z4,z5⟩:=(unhide HZ).later hB2)
   | (refine(unhide HC4).mono ?_;rintro e w1 ⟨rfl,hb1⟩;have hbd:=below_step ((Below.refl _ wa).drew) hb1;have hB1:=below_step (unhide HB) hbd;have c3b:=clater c3 hbd))
  all_goals
   go_wp2
   go_meet
   refine⟨⟨by simp[go_sem, *],by simp[go_sem, *],by simp[go_sem, *]⟩,?_⟩
   exact put3 (below_step (unhide HB) hB2) (Nat.le_refl _) _ _ _
 case rest=>
  obtain⟨⟨x0,x1,x2⟩,hbe⟩:=hcut
  have HBE:=hide hbe
  clear hbe
  go_wp2
  exact bodyPost_ret (v:=r.v) (by simp[results,Tryz.results86,go_sem,Val.v, *]) rfl ⟨rfl,unhide HBE⟩
theorem w31(g:Val->Val->Val){x y:Ex}{B1 B2 B3:Nat}{F1 F2 F3:Value}{W:World}(hx:x.fin)(hy:y.fin)(h1:Box1 W B1 F1)(h2:Box1 W B2 F2)(h3:Box1 W B3 F3)(hF:Fun2 W F1 g)(hX:Work W F2 x)(hY:Work W F3 y)(a:Option Addr)(c:Nat)(row:List Val)(hr:RowAt W a row)(hv:∀x∈row,VOk x)(hl:row.length<=140737488355328) :
  Calls Tryz.prog 88 #[.slice a row.length c,.pointer (some ⟨B1,0,none⟩),.pointer (some ⟨B2,0,none⟩),.pointer (some ⟨B3,0,none⟩)] W fun r w'=>r=.returned (g (evalE row x) (evalE row y)).v/\Below W.heap.size W w':=by
 have hokx:=eval_ok hv x hx
 have hoky:=eval_ok hv y hy
 obtain⟨n1,k1,rfl,e1,H1⟩:=hF
 obtain⟨n2,k2,rfl,e2,H2⟩:=hX
 obtain⟨n3,k3,rfl,e3,H3⟩:=hY
 unfold Enters at e1 e2 e3
 have hB:=below_alloc (Below.refl _ W) (.cells #[.int .i64 0,.int .i64 0,.string ⟨#[]⟩] 25)
 have c1:=clater h1 hB
 have c2:=clater h2 hB
 have c3:=clater h3 hB
 have HZ:=hide (zeroAt_new W)
 have HC2:=hide (H2 (W.alloc (.cells #[.int .i64 0,.int .i64 0,.string ⟨#[]⟩] 25)).drew a c row (hB.drew) (hr.later hB.drew) hv hl)
 have HC3:=hide (fun W' hW=>H3 W' a c row hW (hr.later hW) hv hl)
 generalize evalE row x=vx at *
 generalize evalE row y=vy at *
 have HC1:=hide (fun W' hW=>H1 W' vx vy hW hokx hoky)
 generalize g vx vy=r at *
 clear H1 H2 H3 h1 h2 h3 hr hv hokx hoky hx hy
 go_enter Tryz.func88,Tryz.ntmps88
 go_upto_region 1 with fail
 obtain⟨wa,hwa⟩:∃wa,wa=W.alloc (.cells #[.int .i64 0,.int .i64 0,.string ⟨#[]⟩] 25):=⟨_,rfl⟩
 rw[<-hwa] at hB c1 c2 c3 HZ HC2 ⊢
 have HB:=hide hB
 clear hwa hB
 go_cut[] (fun wx=>(wx.cell? ⟨W.heap.size,0,none⟩=some (.int .i64 r.k)/\wx.cell? ⟨W.heap.size,1,none⟩=some (.int .i64 r.n)/\wx.cell? ⟨W.heap.size,2,none⟩=some (.string r.s))/\Below W.heap.size W wx)
 case first=>
  have hS0:(fun w':World=>w'.cell? ⟨B1,0,none⟩=some (.func (.func n1) #[] k1)/\w'.cell? ⟨B2,0,none⟩=some (.func (.func n2) #[] k2)/\w'.cell? ⟨B3,0,none⟩=some (.func (.func n3) #[] k3)) wa.drew:=⟨c1,c2,c3⟩
  refine wp_region_noPanic ?_
  refine wp_region_G (S:=fun w':World=>w'.cell? ⟨B1,0,none⟩=some (.func (.func n1) #[] k1)/\w'.cell? ⟨B2,0,none⟩=some (.func (.func n2) #[] k2)/\w'.cell? ⟨B3,0,none⟩=some (.func (.func n3) #[] k3)) (k:=8) (by kernel_rfl) ?_
  refine anyG_takel (i:=0) (v:=(.func (.func n1) #[] k1)) [7,8] rfl (by kernel_rfl) (by kernel_rfl) (by kernel_rfl) (by kernel_rfl) (fun _ _ _ h=>h) (Or.inl ⟨by rfl,fun w' hSw=>?_⟩) hS0 ?_
  ·dsimp only at hSw;obtain⟨q0,q1,q2⟩:=hSw;go_simp
  try simp only[Act.put,List.setIfInBounds_toArray,List.set_cons_zero,List.set_cons_succ]
  refine anyG_takel (i:=1) (v:=(.func (.func n2) #[] k2)) [3,7,8] rfl (by kernel_rfl) (by kernel_rfl) (by kernel_rfl) (by kernel_rfl) (fun _ _ _ h=>h) (Or.inl ⟨by rfl,fun w' hSw=>?_⟩) hS0 ?_
  ·dsimp only at hSw;obtain⟨q0,q1,q2⟩:=hSw;go_simp
  try simp only[Act.put,List.setIfInBounds_toArray,List.set_cons_zero,List.set_cons_succ]
  refine anyG_takel (i:=2) (v:=(.slice a row.length c)) [3,7,8] rfl (by kernel_rfl) (by kernel_rfl) (by kernel_rfl) (by kernel_rfl) (fun _ _ _ h=>h) (Or.inl ⟨by rfl,fun w' hSw=>?_⟩) hS0 ?_
  ·dsimp only at hSw;obtain⟨q0,q1,q2⟩:=hSw;go_simp
  try simp only[Act.put,List.setIfInBounds_toArray,List.set_cons_zero,List.set_cons_succ]
  refine anyG_takel (i:=4) (v:=(.func (.func n3) #[] k3)) [6,7,8] rfl (by kernel_rfl) (by kernel_rfl) (by kernel_rfl) (by kernel_rfl) (fun _ _ _ h=>h) (Or.inl ⟨by rfl,fun w' hSw=>?_⟩) hS0 ?_
  ·dsimp only at hSw;obtain⟨q0,q1,q2⟩:=hSw;go_simp
  try simp only[Act.put,List.setIfInBounds_toArray,List.set_cons_zero,List.set_cons_succ]
  refine anyG_takel (i:=5) (v:=(.slice a row.length c)) [6,7,8] rfl (by kernel_rfl) (by kernel_rfl) (by kernel_rfl) (by kernel_rfl) (fun _ _ _ h=>h) (Or.inl ⟨by rfl,fun w' hSw=>?_⟩) hS0 ?_
  ·dsimp only at hSw;obtain⟨q0,q1,q2⟩:=hSw;go_simp
  try simp only[Act.put,List.setIfInBounds_toArray,List.set_cons_zero,List.set_cons_succ]
  refine anyG_one (i:=3) (by kernel_rfl) ?_
  refine wpOp_lit rfl (by rfl) fun K hK=>?_
  go_simp
  refine(unhide HC2).mono ?_
  rintro e w1 ⟨rfl,hb1⟩
  have hbd:=below_step ((Below.refl _ wa).drew) hb1
  have hB1:=below_step (unhide HB) hbd
  have hS1:(fun w':World=>w'.cell? ⟨B1,0,none⟩=some (.func (.func n1) #[] k1)/\w'.cell? ⟨B2,0,none⟩=some (.func (.func n2) #[] k2)/\w'.cell? ⟨B3,0,none⟩=some (.func (.func n3) #[] k3)) w1:=⟨clater c1 hbd,clater c2 hbd,clater c3 hbd⟩
  go_simp
  refine unhide hK _ _ ⟨fun _=>hS1,?_⟩
  clear hK K
  refine anyG_one (i:=6) (by kernel_rfl) ?_
  refine wpOp_lit rfl (by rfl) fun K hK=>?_
  go_simp
  refine(unhide HC3 _ hB1).mono ?_
  rintro e w2 ⟨rfl,hb2⟩
  have hbd2:=below_step hbd hb2
  have hB2:=below_step (unhide HB) hbd2
  have hS2:(fun w':World=>w'.cell? ⟨B1,0,none⟩=some (.func (.func n1) #[] k1)/\w'.cell? ⟨B2,0,none⟩=some (.func (.func n2) #[] k2)/\w'.cell? ⟨B3,0,none⟩=some (.func (.func n3) #[] k3)) w2:=⟨clater c1 hbd2,clater c2 hbd2,clater c3 hbd2⟩
  go_simp
  refine unhide hK _ _ ⟨fun _=>hS2,?_⟩
  clear hK K
  refine anyG_one (i:=7) (by kernel_rfl) ?_
  refine wpOp_lit rfl (by rfl) fun K hK=>?_
  go_simp
  refine(unhide HC1 _ hB2).mono ?_
  rintro e w4 ⟨rfl,hb4⟩
  have hB4:=below_step hbd2 hb4
  have hS4:(fun w':World=>w'.cell? ⟨B1,0,none⟩=some (.func (.func n1) #[] k1)/\w'.cell? ⟨B2,0,none⟩=some (.func (.func n2) #[] k2)/\w'.cell? ⟨B3,0,none⟩=some (.func (.func n3) #[] k3)) w4:=⟨clater c1 hB4,clater c2 hB4,clater c3 hB4⟩
  obtain⟨z0,z1,z2,z3,z4,z5⟩:=(unhide HZ).later hB4
  rw[Val.open_]
  go_simp
  refine unhide hK _ _ ⟨fun _=>hS4,?_⟩
  clear hK K
  refine anyG_one (i:=8) (by kernel_rfl) ?_
  refine wpOp_lit rfl (by rfl) fun K hK=>?_
  go_simp
  refine unhide hK _ _ ⟨fun hh=>absurd hh (by decide),?_⟩
  clear hK K
  refine anyG_done (by kernel_rfl) ?_ _
  refine NoPanic.normal ?_
  clear hS0 hS1 hS2 hS4
  go_wp2
  go_meet
  refine⟨⟨by simp[go_sem, *],by simp[go_sem, *],by simp[go_sem, *]⟩,?_⟩
  exact put3 (below_step (unhide HB) hB4) (Nat.le_refl _) _ _ _
 case rest=>
  obtain⟨⟨x0,x1,x2⟩,hbe⟩:=hcut
  have HBE:=hide hbe
  clear hbe
  go_wp2
  exact bodyPost_ret (v:=r.v) (by simp[results,Tryz.results88,go_sem,Val.v, *]) rfl ⟨rfl,unhide HBE⟩
theorem w32{x y z:Ex}{B1 B2 B3:Nat}{F1 F2 F3:Value}{W:World}(h1:Box1 W B1 F1)(h2:Box1 W B2 F2)(h3:Box1 W B3 F3)(hX:Work W F1 x)(hY:Work W F2 y)(hZ:Work W F3 z)(a:Option Addr)(c:Nat)(row:List Val)(hr:RowAt W a row)(hv:∀x∈row,VOk x)(hl:row.length<=140737488355328) :
  Calls Tryz.prog 89 #[.slice a row.length c,.pointer (some ⟨B1,0,none⟩),.pointer (some ⟨B2,0,none⟩),.pointer (some ⟨B3,0,none⟩)] W fun r w'=>r=.returned (if trueB (evalE row x) then evalE row y else evalE row z).v/\Below W.heap.size W w':=by
 obtain⟨n1,k1,rfl,e1,H1⟩:=hX
 obtain⟨n2,k2,rfl,e2,H2⟩:=hY
 obtain⟨n3,k3,rfl,e3,H3⟩:=hZ
 unfold Enters at e1 e2 e3
 have hB:=below_alloc (Below.refl _ W) (.cells #[.int .i64 0,.int .i64 0,.string ⟨#[]⟩] 25)
 have c1:=clater h1 hB
 have HZ:=hide (zeroAt_new W)
 have HC1:=hide (H1 (W.alloc (.cells #[.int .i64 0,.int .i64 0,.string ⟨#[]⟩] 25)) a c row hB (hr.later hB) hv hl)
 have HC2:=hide (fun W' hW=>H2 W' a c row hW (hr.later hW) hv hl)
 have HC3:=hide (fun W' hW=>H3 W' a c row hW (hr.later hW) hv hl)
 have HT:=hide (true_any (evalE row x))
 generalize evalE row x=vx at *
 generalize evalE row y=vy at *
 generalize evalE row z=vz at *
 have H2':=hide h2
 have H3':=hide h3
 clear H1 H2 H3 h1 h2 h3 hr hv hB
 cases ht:trueB vx
 ·rw[ht] at HT
  clear ht
  go_enter Tryz.func89,Tryz.ntmps89
  go_wp2_with (first
   | (go_at_call 11;refine(unhide HT _).mono ?_;rintro e w2 ⟨rfl,hb2⟩;have hB2:=below_step hB1 hb2;have c3:=clater (unhide H3') hB2)
   | (refine(unhide HC3 _ hB2).mono ?_;rintro e w3 ⟨rfl,hb3⟩;rw[Val.open_];obtain⟨z0,z1,z2,z3,z4,z5⟩:=(unhide HZ).later (below_step hb1 (below_step hb2 hb3)))
   | (refine(unhide HC1).mono ?_;rintro e w1 ⟨rfl,hb1⟩;have hB1:=below_one hb1))
  refine bodyPost_ret (v:=vz.v) (by simp[results,Tryz.results89,go_sem,Val.v, *]) rfl ⟨by first|rfl|simp,?_⟩
  exact put3 (below_step hB2 hb3) (Nat.le_refl _) _ _ _
 ·rw[ht] at HT
  clear ht
  go_enter Tryz.func89,Tryz.ntmps89
  go_wp2_with (first
   | (go_at_call 11;refine(unhide HT _).mono ?_;rintro e w2 ⟨rfl,hb2⟩;have hB2:=below_step hB1 hb2;have c2:=clater (unhide H2') hB2)
   | (refine(unhide HC2 _ hB2).mono ?_;rintro e w3 ⟨rfl,hb3⟩;rw[Val.open_];obtain⟨z0,z1,z2,z3,z4,z5⟩:=(unhide HZ).later (below_step hb1 (below_step hb2 hb3)))
   | (refine(unhide HC1).mono ?_;rintro e w1 ⟨rfl,hb1⟩;have hB1:=below_one hb1))
  refine bodyPost_ret (v:=vy.v) (by simp[results,Tryz.results89,go_sem,Val.v, *]) rfl ⟨by first|rfl|simp,?_⟩
  exact put3 (below_step hB2 hb3) (Nat.le_refl _) _ _ _
end Go.Proofs.YtbfibfmnemnbbaaGreat.E
