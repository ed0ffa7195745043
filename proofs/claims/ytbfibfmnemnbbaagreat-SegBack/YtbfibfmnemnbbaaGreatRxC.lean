import Derived.Test.YtbfibfmnemnbbaaGreatRdS
set_option linter.unusedSimpArgs false
set_option linter.unusedVariables false
set_option maxHeartbeats 400000
set_option maxRecDepth 100000
namespace Go.Proofs.YtbfibfmnemnbbaaGreat
open Go.RowKit Go.Sort
abbrev S6b (w:World) (vb vo j g:Nat) (x y:Val):Prop:=
 w.cell? ⟨vb,vo+j*3,none⟩=some (.int .i64 y.k)/\w.cell? ⟨vb,vo+j*3+1,none⟩=some (.int .i64 y.n)/\w.cell? ⟨vb,vo+j*3+2,none⟩=some (.string y.s)/\w.cell? ⟨g,0,none⟩=some (.int .i64 x.k)/\w.cell? ⟨g,1,none⟩=some (.int .i64 x.n)/\w.cell? ⟨g,2,none⟩=some (.string x.s)
theorem same_yes{y x:Val}(h:sameB y x=true):(y.k == x.k)=true/\(y.n == x.n)=true/\(y.s.toList == x.s.toList)=true:=by
 unfold sameB at h
 cases h1:(y.k == x.k)<;>cases h2:(y.n == x.n)<;>cases h3:(y.s.toList == x.s.toList)<;>simp_all
theorem runs_no1{b count:Nat}{kind:Int}{l:List UInt8}{w:World}(h:Rd w b l)(hl:l.length<=140737488355328)(hm:numD 4 l=none) :
  Calls Tryz.prog 166 #[.pointer (some ⟨b,0,none⟩),.int .i64 kind,.int .i64 count] w fun e w'=>e=dmg/\Gr w w' b:=by
 have HM:=hide (numd_no h hl hm)
 clear h
 go_enter Tryz.func166,Tryz.ntmps166
 go_wp2_with (go_at_call 149;refine(unhide HM).mono ?_;rintro e w1 ⟨rfl,rfl⟩)
 exact⟨rfl,rfl,Gr.refl _ _⟩
theorem runs_bad{b count m:Nat}{kind:Int}{l l1:List UInt8}{w:World}(hc:count<=4096)(hk:kind=1∨kind=2)(h:Rd w b l)(hl:l.length<=140737488355328)
  (hm:numD 4 l=some (m,l1)) (hv:∀vs r,runsD kind count m l1=some (vs,r)->vs.length≠count) :
  Calls Tryz.prog 166 #[.pointer (some ⟨b,0,none⟩),.int .i64 kind,.int .i64 count] w fun e w'=>e=dmg/\Gr w w' b:=by
 have hm2:m<4294967296:=by
  obtain⟨g1,rfl,rfl⟩:=numD_some hm
  have:=beV_lt (l.take 4)
  have h2:(l.take 4).length=4:=by rw[List.length_take];omega
  rw[h2] at this;simpa using this
 have hl1:=numD_le hm
 have HN:=hide (numd_yes h hl hm (by decide))
 have hbw:=h.ne
 have HV:=hide hv
 clear h hv
 go_enter Tryz.func166,Tryz.ntmps166
 go_wp2_with (go_at_call 149;refine(unhide HN).mono ?_;rintro e w1 ⟨rfl,hr1,hg1⟩)
 go_loopw[7,12] (fun v i wr=>∃(k:Nat) (us:List Val) (rk:List UInt8),k<=m/\i=.int .u64 (k:Int)/\Hid (runsD kind count k l1=some (us,rk))/\OwnV wr w.heap.size v us/\Rd wr b rk/\Gr w wr b) (fun _ i _=>m-(intOf i).toNat)
 case atStart=>exact⟨0,[],l1,Nat.zero_le _,rfl,rfl,⟨rfl,.inl ⟨rfl,rfl⟩⟩,hr1,hg1⟩
 case round=>
  obtain⟨k,us,rk,hkm,rfl,HK,ho,hr,hg⟩:=hrel
  obtain⟨hul,hrl⟩:=runsD_le (unhide HK)
  by_cases hlt:k<m
  ·have h9:(k:Int)<(m:Int):=by omega
   have HG0:=hide hg
   cases hnum:numD 4 rk with
   | none=>
    have HC:=hide (numd_no hr (by omega) hnum)
    clear hnum ho hr hg hul
    go_wp2_with (go_at_call 149;refine(unhide HC).mono ?_;rintro e w2 ⟨rfl,rfl⟩)
    exact⟨rfl,rfl,unhide HG0⟩
   | some p=>
   obtain⟨c,q1⟩:=p
   have hq1:=numD_le hnum
   have hc9:=num4_lt hnum
   have HC:=hide (numd_yes hr (by omega) hnum (by decide))
   cases hpl:plainD kind q1 with
   | none=>
    have HPL:=hide (fun W (hW:Rd W b q1)=>plain_no hk hW (by omega) hpl)
    clear hnum hpl ho hr hg hul
    go_wp2_with (first
     | (go_at_call 149;refine(unhide HC).mono ?_;rintro e w2 ⟨rfl,hr2,hg2⟩)
     | (go_at_call 179;refine(unhide HPL _ hr2).mono ?_;rintro e w3 ⟨rfl,hg3⟩))
    exact⟨rfl,rfl,(unhide HG0).trans (hg2.trans hg3)⟩
   | some q=>
   obtain⟨x,r3⟩:=q
   have HPL:=hide (fun W (hW:Rd W b q1)=>plain_yes hk hW (by omega) hpl)
   obtain⟨ua,uc,rfl,hua1,hua2,hurow⟩:=ownV_slice ho
   obtain⟨U,hU⟩:∃U,U=us.length:=⟨_,rfl⟩
   rw[<-hU]
   have hcw:IntKind.u64.wrap ((count:Int)-(U:Int))=(count:Int)-(U:Int):=by rw[IntKind.wrap_u64];omega
   by_cases hc0:0<c
   case neg=>
    have hc2:¬(0:Int)<(c:Int):=by omega
    have ec:c=0:=by omega
    subst ec
    clear hnum hpl ho hr hg hurow hU hul
    go_wp2_with (first
     | (go_at_call 149;refine(unhide HC).mono ?_;rintro e w2 ⟨rfl,hr2,hg2⟩)
     | (go_at_call 179;refine(unhide HPL _ hr2).mono ?_;rintro e w3 ⟨rfl,hr3,hg3⟩;rw[Val.open_])
     | (go_at_call 150;refine(ensureF _ (by simp) _).mono ?_;rintro e w4 ⟨rfl,rfl⟩))
    exact⟨rfl,rfl,(unhide HG0).trans ((hg2.trans hg3).trans (Gr.alloc _ _ _))⟩
   have hc2:(0:Int)<(c:Int):=by omega
   by_cases hc1:c<=count-us.length
   case neg=>
    have hcu:¬(c:Int)<=(count:Int)-(U:Int):=by omega
    have hU9:U<=count:=by omega
    have HCU:Hid (decide ((c:Int)<=(count:Int)-(U:Int))=false):=decide_eq_false hcu
    clear hcu
    clear hnum hpl ho hr hg hurow hU hul
    go_wp2_with (first
     | (go_at_call 149;refine(unhide HC).mono ?_;rintro e w2 ⟨rfl,hr2,hg2⟩)
     | (go_at_call 179;refine(unhide HPL _ hr2).mono ?_;rintro e w3 ⟨rfl,hr3,hg3⟩;rw[Val.open_])
     | (go_at_call 150;refine(ensureF _ (unhide HCU) _).mono ?_;rintro e w4 ⟨rfl,rfl⟩))
    exact⟨rfl,rfl,(unhide HG0).trans ((hg2.trans hg3).trans (Gr.alloc _ _ _))⟩
   have hcu:(c:Int)<=(count:Int)-(U:Int):=by omega
   have hU2:U+c<=count:=by omega
   have HU:=hide hU
   have HKEEP:Hid (∀w3,Gr wr w3 b->OwnV w3 w.heap.size (.slice ua us.length uc) us/\Gr w w3 b):=fun w3 hg3=>⟨ho.gr hg3 hbw,hg.trans hg3⟩
   have hz:=hg.size
   have HRN:Hid ((∀y,us.getLast?=some y->sameB y x=false)->runsD kind count (k+1) l1=some (us++List.replicate c x,r3)):=fun hla=>by
    rw[runsD,unhide HK,Option.bind_some]
    unfold runD
    simp only[hnum,Option.bind_some,hpl]
    rw[if_pos ⟨hc0,hc1,hla⟩]
   clear hnum hpl ho hr hg hurow hU hul
   go_upto_region 7 with (first
    | (go_at_call 149;refine(unhide HC).mono ?_;rintro e w2 ⟨rfl,hr2,hg2⟩)
    | (go_at_call 179;refine(unhide HPL _ hr2).mono ?_;rintro e w3 ⟨rfl,hr3,hg3⟩;rw[Val.open_])
    | (go_at_call 150;refine(ensure_yes _).mono ?_;rintro e w4 ⟨rfl,rfl⟩))
   obtain⟨W,hW⟩:∃W,Hid (W=w3.alloc (.cells #[.int .i64 x.k,.int .i64 x.n,.string x.s] 25)):=⟨_,rfl⟩
   have hbox:W.rowIs w3.heap.size 25 3 (box3 x):=by rw[unhide hW];exact box3_alloc w3 x
   obtain⟨b0,b1,b2,_,_,_⟩:=box3_facts hbox
   obtain⟨hO3,hG3⟩:=unhide HKEEP w3 (hg2.trans hg3)
   have hOW:OwnV W w.heap.size (.slice ua us.length uc) us:=by rw[unhide hW];exact hO3.later (below_alloc (Below.refl _ _) _)
   have hRW:Rd W b r3:=by rw[unhide hW];exact hr3.alloc _
   have hGW:Gr w W b:=by rw[unhide hW];exact hG3.trans (Gr.alloc _ _ _)
   have hzW:w.heap.size<=W.heap.size:=hGW.size
   rw[<-unhide hW]
   have HOW:=hide hOW
   have HRW:=hide hRW
   have HGW:=hide hGW
   have HBOX:=hide hbox
   clear hW hO3 hG3 hbox hOW hRW hGW hr2 hg2 hr3 hg3 HKEEP
   by_cases hsam:∃y,us.getLast?=some y/\sameB y x=true
   case pos=>
    obtain⟨y,hl2,hyx⟩:=hsam
    obtain⟨g1,g2,g3⟩:=same_yes hyx
    have hU0:U≠0:=fun e=>by
     have:us=[]:=List.eq_nil_of_length_eq_zero (by rw[<-unhide HU];exact e)
     rw[this] at hl2;cases hl2
    obtain⟨j,hj⟩:∃j,U=j+1:=⟨U-1,by omega⟩
    have hy:us[j]?=some y:=by
     rw[List.getLast?_eq_getElem?,<-unhide HU,hj] at hl2;exact hl2
    obtain⟨_,_,e,_,_,hurow⟩:=ownV_slice (unhide HOW)
    injection e with e1 e2 e3
    subst e1
    subst e3
    obtain⟨vb,vo,rfl,c0,c1,c2⟩:=hurow.lo hy
    have ej:(U:Int)-1=(j:Int):=by omega
    have g0:((U:Int) == 0)=false:=by simpa using hU0
    have hjm:(j:Int)<(U:Int):=by omega
    have S0:S6b W.drew vb vo j w3.heap.size x y:=⟨c0,c1,c2,b0,b1,b2⟩
    have hwj:IntKind.i64.wrap (j:Int)=(j:Int):=by rw[IntKind.wrap_i64];omega
    have hwj2:wrap64 (j:Int)=(j:Int):=by unfold wrap64;omega
    clear hy hj hU0 hl2 hurow hyx c0 c1 c2 b0 b1 b2
    refine Code.wp_mono (dieQ.to (G:=fun w'=>Below W.heap.size W w') fun a9 w9 h0 hb9=>?_) ?_
    ·have hG9:=(unhide HGW).trans (Gr.of_below hb9 b)
     exact⟨h0,rfl,hG9⟩
    refine wp_region_G (S:=fun w':World=>S6b w' vb vo j w3.heap.size x y) (k:=13) (by kernel_rfl) ?_
    refine anyG_takel (i:=0) (v:=(.slice (some ⟨vb,vo,none⟩) U uc)) [1,2,3,12,13] rfl (by kernel_rfl) (by kernel_rfl) (by kernel_rfl) (by kernel_rfl) (fun _ _ _ h=>h) (Or.inl ⟨by rfl,fun w' hSw=>?_⟩) S0 ?_
    ·dsimp only at hSw;obtain⟨q0,q1,q2,q3,q4,q5⟩:=hSw;go_simp
    try simp only[Act.put,List.setIfInBounds_toArray,List.set_cons_zero,List.set_cons_succ]
    refine anyG_takel (i:=1) (v:=(.int .i64 (U:Int))) [2,3,12,13] rfl (by kernel_rfl) (by kernel_rfl) (by kernel_rfl) (by kernel_rfl) (fun _ _ _ h=>h) (Or.inl ⟨by rfl,fun w' hSw=>?_⟩) S0 ?_
    ·dsimp only at hSw;obtain⟨q0,q1,q2,q3,q4,q5⟩:=hSw;go_simp
    try simp only[Act.put,List.setIfInBounds_toArray,List.set_cons_zero,List.set_cons_succ]
    refine anyG_takel (i:=2) (v:=(.bool false)) [3,12,13] rfl (by kernel_rfl) (by kernel_rfl) (by kernel_rfl) (by kernel_rfl) (fun _ _ _ h=>h) (Or.inl ⟨by rfl,fun w' hSw=>?_⟩) S0 ?_
    ·dsimp only at hSw;obtain⟨q0,q1,q2,q3,q4,q5⟩:=hSw;go_simp
    try simp only[Act.put,List.setIfInBounds_toArray,List.set_cons_zero,List.set_cons_succ]
    refine anyG_takel (i:=3) (v:=(.bool false)) [12,13] rfl (by kernel_rfl) (by kernel_rfl) (by kernel_rfl) (by kernel_rfl) (fun _ _ _ h=>h) (Or.inl ⟨by rfl,fun w' hSw=>?_⟩) S0 ?_
    ·dsimp only at hSw;obtain⟨q0,q1,q2,q3,q4,q5⟩:=hSw;go_simp
    try simp only[Act.put,List.setIfInBounds_toArray,List.set_cons_zero,List.set_cons_succ]
    refine anyG_takel (i:=4) (v:=(.slice (some ⟨vb,vo,none⟩) U uc)) [8,9,11,12,13] rfl (by kernel_rfl) (by kernel_rfl) (by kernel_rfl) (by kernel_rfl) (fun _ _ _ h=>h) (Or.inl ⟨by rfl,fun w' hSw=>?_⟩) S0 ?_
    ·dsimp only at hSw;obtain⟨q0,q1,q2,q3,q4,q5⟩:=hSw;go_simp
    try simp only[Act.put,List.setIfInBounds_toArray,List.set_cons_zero,List.set_cons_succ]
    refine anyG_takel (i:=5) (v:=(.slice (some ⟨vb,vo,none⟩) U uc)) [6,7,8,9,11,12,13] rfl (by kernel_rfl) (by kernel_rfl) (by kernel_rfl) (by kernel_rfl) (fun _ _ _ h=>h) (Or.inl ⟨by rfl,fun w' hSw=>?_⟩) S0 ?_
    ·dsimp only at hSw;obtain⟨q0,q1,q2,q3,q4,q5⟩:=hSw;go_simp
    try simp only[Act.put,List.setIfInBounds_toArray,List.set_cons_zero,List.set_cons_succ]
    refine anyG_takel (i:=6) (v:=(.int .i64 (U:Int))) [7,8,9,11,12,13] rfl (by kernel_rfl) (by kernel_rfl) (by kernel_rfl) (by kernel_rfl) (fun _ _ _ h=>h) (Or.inl ⟨by rfl,fun w' hSw=>?_⟩) S0 ?_
    ·dsimp only at hSw;obtain⟨q0,q1,q2,q3,q4,q5⟩:=hSw;go_simp
    try simp only[Act.put,List.setIfInBounds_toArray,List.set_cons_zero,List.set_cons_succ]
    refine anyG_takel (i:=7) (v:=(.int .i64 (j:Int))) [8,9,11,12,13] rfl (by kernel_rfl) (by kernel_rfl) (by kernel_rfl) (by kernel_rfl) (fun _ _ _ h=>h) (Or.inl ⟨by rfl,fun w' hSw=>?_⟩) S0 ?_
    ·dsimp only at hSw;obtain⟨q0,q1,q2,q3,q4,q5⟩:=hSw;go_simp
    try simp only[Act.put,List.setIfInBounds_toArray,List.set_cons_zero,List.set_cons_succ]
    refine anyG_takel (i:=8) (v:=(.pointer (some ⟨vb,vo+j*3,none⟩))) [9,11,12,13] rfl (by kernel_rfl) (by kernel_rfl) (by kernel_rfl) (by kernel_rfl) (fun _ _ _ h=>h) (Or.inl ⟨by rfl,fun w' hSw=>?_⟩) S0 ?_
    ·dsimp only at hSw;obtain⟨q0,q1,q2,q3,q4,q5⟩:=hSw;go_simp
    try simp only[Act.put,List.setIfInBounds_toArray,List.set_cons_zero,List.set_cons_succ]
    refine anyG_takel (i:=9) (v:=(.agg #[.int .i64 y.k,.int .i64 y.n,.string y.s])) [11,12,13] rfl (by kernel_rfl) (by kernel_rfl) (by kernel_rfl) (by kernel_rfl) (fun _ _ _ h=>h) (Or.inl ⟨by rfl,fun w' hSw=>?_⟩) S0 ?_
    ·dsimp only at hSw;obtain⟨q0,q1,q2,q3,q4,q5⟩:=hSw;go_simp
    try simp only[Act.put,List.setIfInBounds_toArray,List.set_cons_zero,List.set_cons_succ]
    refine anyG_takel (i:=10) (v:=(.agg #[.int .i64 x.k,.int .i64 x.n,.string x.s])) [11,12,13] rfl (by kernel_rfl) (by kernel_rfl) (by kernel_rfl) (by kernel_rfl) (fun _ _ _ h=>h) (Or.inl ⟨by rfl,fun w' hSw=>?_⟩) S0 ?_
    ·dsimp only at hSw;obtain⟨q0,q1,q2,q3,q4,q5⟩:=hSw;go_simp
    try simp only[Act.put,List.setIfInBounds_toArray,List.set_cons_zero,List.set_cons_succ]
    refine anyG_takel (i:=11) (v:=(.bool false)) [12,13] rfl (by kernel_rfl) (by kernel_rfl) (by kernel_rfl) (by kernel_rfl) (fun _ _ _ h=>h) (Or.inl ⟨by rfl,fun w' hSw=>?_⟩) S0 ?_
    ·dsimp only at hSw;obtain⟨q0,q1,q2,q3,q4,q5⟩:=hSw;go_simp
    try simp only[Act.put,List.setIfInBounds_toArray,List.set_cons_zero,List.set_cons_succ]
    refine anyG_takel (i:=12) (v:=(.bool false)) [13] rfl (by kernel_rfl) (by kernel_rfl) (by kernel_rfl) (by kernel_rfl) (fun _ _ _ h=>h) (Or.inl ⟨by rfl,fun w' hSw=>?_⟩) S0 ?_
    ·dsimp only at hSw;obtain⟨q0,q1,q2,q3,q4,q5⟩:=hSw;go_simp
    try simp only[Act.put,List.setIfInBounds_toArray,List.set_cons_zero,List.set_cons_succ]
    clear S0
    refine anyG_one (i:=13) (by kernel_rfl) ?_
    refine wpOp_lit rfl (by rfl) fun K hK=>?_
    go_simp
    refine(ensure_no _).mono ?_
    rintro e w4 ⟨rfl,rfl⟩
    exact⟨rfl,rfl,(Below.refl _ _).drew⟩
   have HLAST:Hid (∀y,us.getLast?=some y->sameB y x=false):=fun y hy=>by
    cases hq:sameB y x with
    | false=>rfl
    | true=>exact absurd ⟨y,hy,hq⟩ hsam
   clear hsam
   go_cut[44] (fun _ wx=>Below W.heap.size W wx)
   case first=>
    by_cases hU0:U=0
    ·subst hU0
     refine wp_region_quiet_below (by kernel_rfl) (by kernel_rfl) ?_
     repeat (go_big_quiet_step (first
      | (go_at_call 150;exact Calls.regrown_of (ensureB _ rfl _))))
     refine wpQuiet_nil ?_
     intro w' hw'
     have hB:Below W.heap.size W w':=by obtain⟨p,rfl⟩:=hw';exact below_regrown _ _ _
     clear hw'
     go_wp2
     go_meet
     exact hB
    ·obtain⟨j,hj⟩:∃j,U=j+1:=⟨U-1,by omega⟩
     obtain⟨y,hy⟩:∃y,us[j]?=some y:=⟨_,List.getElem?_eq_getElem (by rw[<-unhide HU];omega)⟩
     have hl2:us.getLast?=some y:=by
      rw[List.getLast?_eq_getElem?,<-unhide HU,hj];exact hy
     have hno:=same_no (unhide HLAST y hl2)
     obtain⟨_,_,e,_,_,hurow⟩:=ownV_slice (unhide HOW)
     injection e with e1 e2 e3
     subst e1
     subst e3
     obtain⟨vb,vo,rfl,c0,c1,c2⟩:=hurow.lo hy
     have k0:=cell_regrown c0
     have k1:=cell_regrown c1
     have k2:=cell_regrown c2
     have k3:=cell_regrown b0
     have k4:=cell_regrown b1
     have k5:=cell_regrown b2
     have ej:(U:Int)-1=(j:Int):=by omega
     have g0:((U:Int) == 0)=false:=by simpa using hU0
     have hjm:(j:Int)<(U:Int):=by omega
     clear c0 c1 c2 b0 b1 b2 hy hj hU0 hl2 hurow
     rcases hno with e1|⟨e1,e2⟩|⟨e1,e2,e3⟩
     all_goals
      refine wp_region_quiet_below (by kernel_rfl) (by kernel_rfl) ?_
      repeat (go_big_quiet_step (first
       | (go_at_call 150;exact Calls.regrown_of (ensureB _ rfl _))))
      refine wpQuiet_nil ?_
      intro w' hw'
      have hB:Below W.heap.size W w':=by obtain⟨p,rfl⟩:=hw';exact below_regrown _ _ _
      clear hw'
      go_wp2
      go_meet
      exact hB
   case rest=>
    rename World=>wx
    have hbx:Below W.heap.size W wx:=hcut
    have HOX:=hide ((unhide HOW).later hbx)
    have HRX:=hide ((unhide HRW).below hbx)
    have HGX:=hide ((unhide HGW).trans (Gr.of_below hbx b))
    obtain⟨x0,x1,x2,_,_,_⟩:=box3_facts (rowIs_later (unhide HBOX) hbx)
    have hzx:=hbx.size
    have HREP:=hide (repeat_any wx.heap.size c x (wx.alloc (.cells #[.int .i64 x.k,.int .i64 x.n,.string x.s] 25)) (by omega) (by omega) (box3_alloc wx x))
    have hc4:(c:Int)<=4096:=by omega
    clear hcut hbx HOW HRW HGW HBOX b0 b1 b2
    go_wp2_with (first
     | (go_at_call 180;refine(unhide HREP).mono ?_;rintro e w5 ⟨v5,rfl,ho5,hb5⟩;have HO5:Hid (OwnV w5 w.heap.size (.slice ua U uc) us):=by(have:=(unhide HOX).later (below_one hb5);rw[<-unhide HU] at this;exact this))
     | (at_builtin;refine wpList_append_more rfl (.tmp 45) (.tmp 50) rfl w.heap.size _ (.slice ua U uc) v5 us (List.replicate c x) rfl rfl (unhide HO5) ho5 (by rw[List.length_replicate,<-unhide HU];omega) (by have:=(below_one hb5).size;omega) ?_;intro v6 w6 ho6 hg6))
    have hr5:=(unhide HRX).below (below_one hb5)
    have hg5:=(unhide HGX).trans (Gr.of_below (below_one hb5) b)
    exact⟨⟨k+1,us++List.replicate c x,r3,by omega,by go_num,unhide HRN (unhide HLAST),ho6,hr5.own (unhide HO5) hbw hg6,hg5.own (unhide HO5) hg6⟩,by simp[intOf];omega⟩
  ·have h9:¬(k:Int)<(m:Int):=by omega
   have ek:k=m:=by omega
   subst ek
   have hne:=unhide HV us rk (unhide HK)
   obtain⟨ua,uc,rfl,hua1,hua2,hurow⟩:=ownV_slice ho
   have HG:=hide hg
   have hti:((us.length:Int) == (count:Int))=false:=by
    rw[beq_eq_false_iff_ne];intro e;exact hne (by omega)
   clear ho hr hg hurow hua1 hua2
   go_wp2_with (go_at_call 150;refine(ensure_no _).mono ?_;rintro e w4 ⟨rfl,rfl⟩)
   exact⟨rfl,rfl,unhide HG⟩
theorem runs_no{b count:Nat}{kind:Int}{l:List UInt8}{w:World}(hc:count<=4096)(hk:kind=1∨kind=2)(h:Rd w b l)(hl:l.length<=140737488355328)
  (hd:((numD 4 l).bind fun p=>(runsD kind count p.1 p.2).bind fun q=>if q.1.length=count then some q else none)=none) :
  Calls Tryz.prog 166 #[.pointer (some ⟨b,0,none⟩),.int .i64 kind,.int .i64 count] w fun e w'=>e=dmg/\Gr w w' b:=by
 cases hm:numD 4 l with
 | none=>exact runs_no1 h hl hm
 | some p=>
  obtain⟨m,l1⟩:=p
  refine runs_bad hc hk h hl hm fun vs r hv hlen=>?_
  rw[hm,Option.bind_some,hv,Option.bind_some,if_pos hlen] at hd
  cases hd
end Go.Proofs.YtbfibfmnemnbbaaGreat
