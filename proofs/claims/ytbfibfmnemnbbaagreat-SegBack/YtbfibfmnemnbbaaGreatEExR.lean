import Derived.Test.YtbfibfmnemnbbaaGreatEExQ
import Derived.Laws.EntriesVeiled
set_option linter.unusedSimpArgs false
set_option linter.unusedVariables false
set_option maxHeartbeats 1000000
set_option maxRecDepth 100000
namespace Go.Proofs.YtbfibfmnemnbbaaGreat.E
open Go.RowKit Go.Sort
theorem ready1(e x:Ex)(hx:e.args=[x])(hxf:x.fin)(a:Option Addr)(c:Nat)(w:World)(ha:Ex.all w a e.args)
  (IH:∀(a':Option Addr) (c':Nat) (W:World),Ex.all W a' x.args->Calls Tryz.prog 60 #[x.val a' c'] W fun r w'=>∃F,r=.returned F/\WorkK W.heap.size [] w' F x/\Below W.heap.size W w') :
  Calls Tryz.prog 60 #[e.val a c] w fun r w'=>∃F,r=.returned F/\WorkK w.heap.size [] w' F e/\Below w.heap.size w w':=by
 have hmf:∀(fn:Fn) (first cap:Array Value) (w:World),(Instr.makeFunc fn first cap).run Tryz.prog w=.ok (.func fn first cap) w:=fun _ _ _ _=>rfl
 have hln:e.args.length=1:=by rw[hx];rfl
 have hBa:=below_alloc (Below.refl _ w) (.cells #[.int .i64 e.op,.int .i64 e.n,.int .i64 e.v.k,.int .i64 e.v.n,.string e.v.s,.slice a 1 c] 28)
 have h6:Six (w.alloc (.cells #[.int .i64 e.op,.int .i64 e.n,.int .i64 e.v.k,.int .i64 e.v.n,.string e.v.s,.slice a e.args.length c] 28)) w.heap.size e a c:=Six.new w e a c
 rw[hln] at h6
 obtain⟨vb,vo,ea,hx0⟩:=Ex.all_get (i:=0) (e:=x) (Ex.all_later _ ha hBa) (by rw[hx];rfl)
 obtain⟨a1,cc1,⟨d0,d1,d2,d3,d4,d5⟩,hal1⟩:=Ex.at_open hx0
 rw[Nat.zero_mul,Nat.add_zero] at d0 d1 d2 d3 d4 d5
 obtain⟨c0,c1,c2,c3,c4,c5⟩:=h6
 rw[hln] at c5
 subst ea
 rw[Ex.val_open,hln]
 have HEV:Hid (∀row,evalE row e=oneV e.op (evalE row x)):=fun row=>by rw[evalE_eq,hx];rfl
 clear hx0 ha hx hln
 go_enter Tryz.func60,Tryz.ntmps60
 go_upto_region 5 with fail
 obtain⟨wa,hwa⟩:∃wa,wa=w.alloc (.cells #[.int .i64 e.op,.int .i64 e.n,.int .i64 e.v.k,.int .i64 e.v.n,.string e.v.s,.slice (some ⟨vb,vo,none⟩) 1 c] 28):=⟨_,rfl⟩
 rw[<-hwa] at hBa hal1 c0 c1 c2 c3 c4 c5 d0 d1 d2 d3 d4 d5 ⊢
 have hszl:w.heap.size<=wa.heap.size:=hBa.size
 clear hwa
 have HBA:=hide hBa
 have HAL:=hide hal1
 have HIH:=hide IH
 clear hBa hal1 IH
 go_cut[3,4] (fun p q wx=>∃B1 B2 F1 F2,p=.pointer (some ⟨B1,0,none⟩)/\q=.pointer (some ⟨B2,0,none⟩)/\Hid (w.heap.size<=B1/\w.heap.size<=B2/\Box1 wx B1 F1/\Box1 wx B2 F2/\(∀W,Fun1 W F1 (oneV e.op))/\WorkK w.heap.size [] wx F2 x/\Below w.heap.size w wx))
 case first=>
  refine wp_region_noPanic ?_
  refine wp_region_G (S:=fun w':World=>Below wa.heap.size wa w') (k:=10) (by kernel_rfl) ?_
  refine anyG_takel (i:=0) (v:=(.pointer (some ⟨w.heap.size,0,none⟩))) [1,2,10,11] rfl (by kernel_rfl) (by kernel_rfl) (by kernel_rfl) (by kernel_rfl) (fun _ _ _ h=>h) (Or.inl ⟨by rfl,fun w' hSw=>?_⟩) ((Below.refl _ wa).drew) ?_
  ·have e0:=clater c0 hSw;have e5:=clater c5 hSw;have f0:=clater d0 hSw;have f1:=clater d1 hSw;have f2:=clater d2 hSw;have f3:=clater d3 hSw;have f4:=clater d4 hSw;have f5:=clater d5 hSw
   clear c0 c1 c2 c3 c4 c5 d0 d1 d2 d3 d4 d5
   go_simp
  try simp only[Act.put,List.setIfInBounds_toArray,List.set_cons_zero,List.set_cons_succ]
  refine anyG_takel (i:=1) (v:=(.int .i64 e.op)) [2,10,11] rfl (by kernel_rfl) (by kernel_rfl) (by kernel_rfl) (by kernel_rfl) (fun _ _ _ h=>h) (Or.inl ⟨by rfl,fun w' hSw=>?_⟩) ((Below.refl _ wa).drew) ?_
  ·have e0:=clater c0 hSw;have e5:=clater c5 hSw;have f0:=clater d0 hSw;have f1:=clater d1 hSw;have f2:=clater d2 hSw;have f3:=clater d3 hSw;have f4:=clater d4 hSw;have f5:=clater d5 hSw
   clear c0 c1 c2 c3 c4 c5 d0 d1 d2 d3 d4 d5
   go_simp
  try simp only[Act.put,List.setIfInBounds_toArray,List.set_cons_zero,List.set_cons_succ]
  refine anyG_takel (i:=3) (v:=(.pointer (some ⟨w.heap.size,5,none⟩))) [4,5,6,7,10,11] rfl (by kernel_rfl) (by kernel_rfl) (by kernel_rfl) (by kernel_rfl) (fun _ _ _ h=>h) (Or.inl ⟨by rfl,fun w' hSw=>?_⟩) ((Below.refl _ wa).drew) ?_
  ·have e0:=clater c0 hSw;have e5:=clater c5 hSw;have f0:=clater d0 hSw;have f1:=clater d1 hSw;have f2:=clater d2 hSw;have f3:=clater d3 hSw;have f4:=clater d4 hSw;have f5:=clater d5 hSw
   clear c0 c1 c2 c3 c4 c5 d0 d1 d2 d3 d4 d5
   go_simp
  try simp only[Act.put,List.setIfInBounds_toArray,List.set_cons_zero,List.set_cons_succ]
  refine anyG_takel (i:=4) (v:=(.slice (some ⟨vb,vo,none⟩) 1 c)) [5,6,7,10,11] rfl (by kernel_rfl) (by kernel_rfl) (by kernel_rfl) (by kernel_rfl) (fun _ _ _ h=>h) (Or.inl ⟨by rfl,fun w' hSw=>?_⟩) ((Below.refl _ wa).drew) ?_
  ·have e0:=clater c0 hSw;have e5:=clater c5 hSw;have f0:=clater d0 hSw;have f1:=clater d1 hSw;have f2:=clater d2 hSw;have f3:=clater d3 hSw;have f4:=clater d4 hSw;have f5:=clater d5 hSw
   clear c0 c1 c2 c3 c4 c5 d0 d1 d2 d3 d4 d5
   go_simp
  try simp only[Act.put,List.setIfInBounds_toArray,List.set_cons_zero,List.set_cons_succ]
  refine anyG_takel (i:=5) (v:=(.pointer (some ⟨vb,vo,none⟩))) [6,7,10,11] rfl (by kernel_rfl) (by kernel_rfl) (by kernel_rfl) (by kernel_rfl) (fun _ _ _ h=>h) (Or.inl ⟨by rfl,fun w' hSw=>?_⟩) ((Below.refl _ wa).drew) ?_
  ·have e0:=clater c0 hSw;have e5:=clater c5 hSw;have f0:=clater d0 hSw;have f1:=clater d1 hSw;have f2:=clater d2 hSw;have f3:=clater d3 hSw;have f4:=clater d4 hSw;have f5:=clater d5 hSw
   clear c0 c1 c2 c3 c4 c5 d0 d1 d2 d3 d4 d5
   go_simp
  try simp only[Act.put,List.setIfInBounds_toArray,List.set_cons_zero,List.set_cons_succ]
  refine anyG_takel (i:=6) (v:=(.agg #[.int .i64 x.op,.int .i64 x.n,.int .i64 x.v.k,.int .i64 x.v.n,.string x.v.s,.slice a1 x.args.length cc1])) [7,10,11] rfl (by kernel_rfl) (by kernel_rfl) (by kernel_rfl) (by kernel_rfl) (fun _ _ _ h=>h) (Or.inl ⟨by rfl,fun w' hSw=>?_⟩) ((Below.refl _ wa).drew) ?_
  ·have e0:=clater c0 hSw;have e5:=clater c5 hSw;have f0:=clater d0 hSw;have f1:=clater d1 hSw;have f2:=clater d2 hSw;have f3:=clater d3 hSw;have f4:=clater d4 hSw;have f5:=clater d5 hSw
   clear c0 c1 c2 c3 c4 c5 d0 d1 d2 d3 d4 d5
   go_simp
  try simp only[Act.put,List.setIfInBounds_toArray,List.set_cons_zero,List.set_cons_succ]
  refine lat_any (R0:=fun _ _ _ _=>True) (R1:=fun _ _ _ v=>∀W,Fun1 W v (oneV e.op)) (R2:=fun lo N w v=>WorkK lo N w v x) goes_true (goes_fun1 _) (goes_work x) false w.heap.size wa 1
   (fun t0 t1 t2 p0 p1 p2=>#[.agg #[.int .i64 e.op,.int .i64 e.n,.int .i64 e.v.k,.int .i64 e.v.n,.string e.v.s,.slice (some ⟨vb,vo,none⟩) 1 c],.pointer (some ⟨w.heap.size,0,none⟩),.nilFunc,p0,p1,undef,undef,undef,undef,undef,undef,.pointer (some ⟨w.heap.size,5,none⟩),.slice (some ⟨vb,vo,none⟩) 1 c,.int .i64 1,.bool false,.bool false,undef,undef,.bool true,.bool true,.pointer (some ⟨w.heap.size,0,none⟩),.int .i64 e.op,t1,.pointer (some ⟨w.heap.size,5,none⟩),.slice (some ⟨vb,vo,none⟩) 1 c,.pointer (some ⟨vb,vo,none⟩),.agg #[.int .i64 x.op,.int .i64 x.n,.int .i64 x.v.k,.int .i64 x.v.n,.string x.v.s,.slice a1 x.args.length cc1],t2,undef,undef,undef,undef,undef,undef,undef,undef,undef,undef,undef,undef,undef,undef,undef,undef,undef,undef,undef,undef,undef,undef,undef,undef,undef,undef,undef,undef,undef,undef,undef,undef,undef]) (fun d b0 b1 _=>#[true,true,decide (2<=d),true,true,true,true,decide (3<=d),b0,b1,false,false]) (fun d b0 b1 _=>(3-d)+(if b0 then 0 else 1)+(if b1 then 0 else 1)+2) (fun d=>if d=1 then 2 else 7) 8 9 100 66 102 0
   (fun w' h=>h) ?ok (fun h=>absurd h (by decide)) ?c1 ?c2 ?a0 ?a1 (fun h=>absurd h (by decide)) ?fin (d:=1) (b0:=false) (b1:=false) (b2:=true) (t0:=undef) (t1:=undef) (t2:=undef) (p0:=undef) (p1:=undef) (p2:=undef) (N:=[]) (by decide) (by decide) (by decide) ?lat ?hf ?hL ?ha
  case ok=>
   intro d b0 b1 b2 h1 h2 h3 h4
   have hd:d=1∨d=2∨d=3:=by omega
   rcases hd with rfl|rfl|rfl<;>cases b0<;>cases b1<;>cases b2<;>first | (exact absurd h3 (by decide)) | (exact absurd h4 (by decide)) | (show stOk _ _ _ _ _ _ _ _ _ _ _ _=true;clear h1 h2 h3 h4;kernel_rfl)
  case hf=>rfl
  case hL=>rfl
  case ha=>rfl
  case lat=>
   exact⟨(Below.refl _ wa).drew,hszl,fun b h=>absurd h (by simp),fun _=>trivial,fun h=>absurd h (by decide),fun h=>absurd h (by decide),fun h=>absurd h (by decide),fun h=>absurd h (by decide),fun _ h=>absurd h (by decide),fun h=>absurd h (by decide),fun _ _ h=>absurd h (by decide),fun _ _ h=>absurd h (by decide)⟩
  case c1=>
   intro t0 t1 t2 p0 p1 p2 w' K hb hK
   refine wpOp_lit rfl (by rfl) fun K' hK'=>?_
   have HS:=hide (single_k e.op w')
   clear c0 c1 c2 c3 c4 c5 d0 d1 d2 d3 d4 d5
   go_simp
   refine(unhide HS).mono ?_
   rintro r w1 ⟨⟨F,rfl,hF⟩,rfl⟩
   go_simp
   exact unhide hK' _ _ (hK F _ (Below.refl _ _) hF)
  case c2=>
   intro t0 t1 t2 p0 p1 p2 w' K hb hK
   refine wpOp_lit rfl (by rfl) fun K' hK'=>?_
   have HS:=hide (unhide HIH a1 cc1 w' (Ex.all_later _ (unhide HAL) hb))
   rw[Ex.val_open] at HS
   clear c0 c1 c2 c3 c4 c5 d0 d1 d2 d3 d4 d5
   go_simp
   refine(unhide HS).mono ?_
   rintro r w1 ⟨F,rfl,hF,hb1⟩
   go_simp
   exact unhide hK' _ _ (hK F _ hb1 hF)
  case a0=>
   intro t0 t1 t2 p0 p1 p2 w' K hK
   refine wpOp_lit rfl (by rfl) fun K' hK'=>?_
   clear c0 c1 c2 c3 c4 c5 d0 d1 d2 d3 d4 d5
   go_simp
   exact unhide hK' _ _ hK
  case a1=>
   intro t0 t1 t2 p0 p1 p2 w' K hK
   refine wpOp_lit rfl (by rfl) fun K' hK'=>?_
   clear c0 c1 c2 c3 c4 c5 d0 d1 d2 d3 d4 d5
   go_simp
   exact unhide hK' _ _ hK
  case fin=>
   intro t0 t1 t2 p0 p1 p2 N w' h
   obtain⟨B1,hN1,rfl,x1,y1⟩:=h.q0 rfl
   obtain⟨B2,hN2,rfl,x2,y2⟩:=h.q1 rfl
   have hne:B1≠B2:=fun he=>h.n01 rfl rfl (by rw[he])
   have hne':B2≠B1:=fun he=>hne he.symm
   have HF1:=hide (h.r1 (by decide))
   have HF2:=hide (((h.r2 (by decide)).on (Kept.of_store w' _ 0 t1 hN1)).on (Kept.of_store _ _ 0 t2 hN2))
   have hl1:=h.new B1 hN1
   have hl2:=h.new B2 hN2
   have HBE:=hide (((below_step (unhide HBA) h.bel).setCell (p:=⟨B1,0,none⟩) (by show w.heap.size<=B1;omega) t1).setCell (p:=⟨B2,0,none⟩) (by show w.heap.size<=B2;omega) t2)
   have HL:=hide (show w.heap.size<=B1/\w.heap.size<=B2 by omega)
   unfold Box1 at x1 x2
   obtain⟨n1,k1,ht1,_⟩:=h.r1 (by decide) w'
   obtain⟨n2,k2,ht2,_⟩:=h.r2 (by decide)
   subst ht1 ht2
   have x3:(w'.setCell ⟨B1,0,none⟩ (.func (.func n1) #[] k1)).cell? ⟨B2,0,none⟩=some .nilFunc:=by simp[go_sem, *]
   have y3:(w'.setCell ⟨B1,0,none⟩ (.func (.func n1) #[] k1)).frozen? ⟨B2,0,none⟩=false:=by simp[go_sem, *]
   have X4:Hid (Box1 ((w'.setCell ⟨B1,0,none⟩ (.func (.func n1) #[] k1)).setCell ⟨B2,0,none⟩ (.func (.func n2) #[] k2)) B1 (.func (.func n1) #[] k1)/\Box1 ((w'.setCell ⟨B1,0,none⟩ (.func (.func n1) #[] k1)).setCell ⟨B2,0,none⟩ (.func (.func n2) #[] k2)) B2 (.func (.func n2) #[] k2)):=by
    show _/\_
    unfold Box1
    constructor<;>simp[go_sem, *]
   clear h hl1 hl2 hN1 hN2 c0 c1 c2 c3 c4 c5 d0 d1 d2 d3 d4 d5
   dsimp only
   refine anyG_one (i:=10) (by kernel_rfl) ?_
   refine wpOp_lit rfl (by rfl) fun K hK=>?_
   go_simp
   refine unhide hK _ _ ⟨fun hh=>absurd hh (by decide),?_⟩
   clear hK K
   refine anyG_one (i:=11) (by kernel_rfl) ?_
   refine wpOp_lit rfl (by rfl) fun K hK=>?_
   go_simp
   refine unhide hK _ _ ⟨fun hh=>absurd hh (by decide),?_⟩
   clear hK K
   refine anyG_done (by kernel_rfl) ?_ _
   refine NoPanic.normal ?_
   clear x1 x2 x3
   go_wp2
   go_meet
   exact⟨B1,B2,_,_,rfl,rfl,(unhide HL).1,(unhide HL).2,(unhide X4).1,(unhide X4).2,unhide HF1,(unhide HF2).more (Nat.le_refl _) (by simp),unhide HBE⟩
 case rest=>
  obtain⟨B1,B2,F1,F2,rfl,rfl,H⟩:=hcut
  clear c0 c1 c2 c3 c4 c5 d0 d1 d2 d3 d4 d5
  go_wp2
  go_ret
  obtain⟨l1,l2,x1,x2,hF1,hF2,hbe⟩:=unhide H
  refine⟨_,rfl,⟨86,_,rfl,ent29,fun W' a' c' row hW hr hv hl=>?_⟩,hbe⟩
  rw[unhide HEV row]
  exact w29 (oneV e.op) hxf (x1.kept hW l1 (by simp)) (x2.kept hW l2 (by simp)) (hF1 W') (hF2.on hW).work a' c' row hr hv hl
end Go.Proofs.YtbfibfmnemnbbaaGreat.E
set_option linter.unusedSimpArgs false
set_option linter.unusedVariables false
set_option maxHeartbeats 2000000
set_option maxRecDepth 100000
namespace Go.Proofs.YtbfibfmnemnbbaaGreat.E
open Go.RowKit Go.Sort
theorem ready2(e x0 x1:Ex)(hx:e.args=[x0,x1])(hf0:x0.fin)(hf1:x1.fin)(a:Option Addr)(c:Nat)(w:World)(ha:Ex.all w a e.args)
  (IH:∀(i:Nat) (x:Ex),e.args[i]?=some x->∀(a':Option Addr) (c':Nat) (W:World),Ex.all W a' x.args->Calls Tryz.prog 60 #[x.val a' c'] W fun r w'=>∃F,r=.returned F/\WorkK W.heap.size [] w' F x/\Below W.heap.size W w') :
  Calls Tryz.prog 60 #[e.val a c] w fun r w'=>∃F,r=.returned F/\WorkK w.heap.size [] w' F e/\Below w.heap.size w w':=by
 have hmf:∀(fn:Fn) (first cap:Array Value) (w:World),(Instr.makeFunc fn first cap).run Tryz.prog w=.ok (.func fn first cap) w:=fun _ _ _ _=>rfl
 have hln:e.args.length=2:=by rw[hx];rfl
 have hBa:=below_alloc (Below.refl _ w) (.cells #[.int .i64 e.op,.int .i64 e.n,.int .i64 e.v.k,.int .i64 e.v.n,.string e.v.s,.slice a 2 c] 28)
 have h6:Six (w.alloc (.cells #[.int .i64 e.op,.int .i64 e.n,.int .i64 e.v.k,.int .i64 e.v.n,.string e.v.s,.slice a e.args.length c] 28)) w.heap.size e a c:=Six.new w e a c
 rw[hln] at h6
 have IH0:=IH 0 x0 (by rw[hx];rfl)
 have IH1:=IH 1 x1 (by rw[hx];rfl)
 obtain⟨vb,vo,ea,hx0⟩:=Ex.all_get (i:=0) (e:=x0) (Ex.all_later _ ha hBa) (by rw[hx];rfl)
 obtain⟨vb1,vo1,ea1,hx1⟩:=Ex.all_get (i:=1) (e:=x1) (Ex.all_later _ ha hBa) (by rw[hx];rfl)
 rw[ea] at ea1
 injection ea1 with ea1
 injection ea1 with eb1 ec1
 subst eb1 ec1
 obtain⟨a0,cc0,⟨d00,d01,d02,d03,d04,d05⟩,hal0⟩:=Ex.at_open hx0
 rw[Nat.zero_mul,Nat.add_zero] at d00 d01 d02 d03 d04 d05
 obtain⟨a1,cc1,⟨d10,d11,d12,d13,d14,d15⟩,hal1⟩:=Ex.at_open hx1
 rw[Nat.one_mul] at d10 d11 d12 d13 d14 d15
 obtain⟨c0,c1,c2,c3,c4,c5⟩:=h6
 rw[hln] at c5
 subst ea
 rw[Ex.val_open,hln]
 have HEV:Hid (∀row,evalE row e=twoV e.op (evalE row x0) (evalE row x1)):=fun row=>by rw[evalE_eq,hx];rfl
 clear IH ha hx hln hx0 hx1
 go_enter Tryz.func60,Tryz.ntmps60
 go_upto_region 8 with fail
 obtain⟨wa,hwa⟩:∃wa,wa=w.alloc (.cells #[.int .i64 e.op,.int .i64 e.n,.int .i64 e.v.k,.int .i64 e.v.n,.string e.v.s,.slice (some ⟨vb,vo,none⟩) 2 c] 28):=⟨_,rfl⟩
 rw[<-hwa] at hBa hal0 hal1 c0 c1 c2 c3 c4 c5 d00 d01 d02 d03 d04 d05 d10 d11 d12 d13 d14 d15 ⊢
 have hszl:w.heap.size<=wa.heap.size:=hBa.size
 clear hwa
 have HBA:=hide hBa
 have HAL0:=hide hal0
 have HIH0:=hide IH0
 have HAL1:=hide hal1
 have HIH1:=hide IH1
 clear hBa hal0 IH0 hal1 IH1
 go_cut[5,6,7] (fun p q r wx=>∃B1 B2 B3 F1 F2 F3,p=.pointer (some ⟨B1,0,none⟩)/\q=.pointer (some ⟨B2,0,none⟩)/\r=.pointer (some ⟨B3,0,none⟩)/\Hid ((w.heap.size<=B1/\w.heap.size<=B2/\w.heap.size<=B3)/\(Box1 wx B1 F1/\Box1 wx B2 F2/\Box1 wx B3 F3)/\Fun2K w.heap.size [] wx F1 (twoV e.op)/\WorkK w.heap.size [] wx F2 x0/\WorkK w.heap.size [] wx F3 x1/\Below w.heap.size w wx))
 case first=>
  refine wp_region_noPanic ?_
  refine wp_region_G (S:=fun w':World=>Below wa.heap.size wa w') (k:=16) (by kernel_rfl) ?_
  refine anyG_takel (i:=0) (v:=(.pointer (some ⟨w.heap.size,0,none⟩))) [1,2,7,12,16,17,18] rfl (by kernel_rfl) (by kernel_rfl) (by kernel_rfl) (by kernel_rfl) (fun _ _ _ h=>h) (Or.inl ⟨by rfl,fun w' hSw=>?_⟩) ((Below.refl _ wa).drew) ?_
  ·have e0:=clater c0 hSw;have e5:=clater c5 hSw;have f00:=clater d00 hSw;have f01:=clater d01 hSw;have f02:=clater d02 hSw;have f03:=clater d03 hSw;have f04:=clater d04 hSw;have f05:=clater d05 hSw;have f10:=clater d10 hSw;have f11:=clater d11 hSw;have f12:=clater d12 hSw;have f13:=clater d13 hSw;have f14:=clater d14 hSw;have f15:=clater d15 hSw
   clear c0 c1 c2 c3 c4 c5 d00 d01 d02 d03 d04 d05 d10 d11 d12 d13 d14 d15
   go_simp
  try simp only[Act.put,List.setIfInBounds_toArray,List.set_cons_zero,List.set_cons_succ]
  refine anyG_takel (i:=1) (v:=(.int .i64 e.op)) [2,7,12,16,17,18] rfl (by kernel_rfl) (by kernel_rfl) (by kernel_rfl) (by kernel_rfl) (fun _ _ _ h=>h) (Or.inl ⟨by rfl,fun w' hSw=>?_⟩) ((Below.refl _ wa).drew) ?_
  ·have e0:=clater c0 hSw;have e5:=clater c5 hSw;have f00:=clater d00 hSw;have f01:=clater d01 hSw;have f02:=clater d02 hSw;have f03:=clater d03 hSw;have f04:=clater d04 hSw;have f05:=clater d05 hSw;have f10:=clater d10 hSw;have f11:=clater d11 hSw;have f12:=clater d12 hSw;have f13:=clater d13 hSw;have f14:=clater d14 hSw;have f15:=clater d15 hSw
   clear c0 c1 c2 c3 c4 c5 d00 d01 d02 d03 d04 d05 d10 d11 d12 d13 d14 d15
   go_simp
  try simp only[Act.put,List.setIfInBounds_toArray,List.set_cons_zero,List.set_cons_succ]
  refine anyG_takel (i:=3) (v:=(.pointer (some ⟨w.heap.size,5,none⟩))) [4,5,6,7,12,16,17,18] rfl (by kernel_rfl) (by kernel_rfl) (by kernel_rfl) (by kernel_rfl) (fun _ _ _ h=>h) (Or.inl ⟨by rfl,fun w' hSw=>?_⟩) ((Below.refl _ wa).drew) ?_
  ·have e0:=clater c0 hSw;have e5:=clater c5 hSw;have f00:=clater d00 hSw;have f01:=clater d01 hSw;have f02:=clater d02 hSw;have f03:=clater d03 hSw;have f04:=clater d04 hSw;have f05:=clater d05 hSw;have f10:=clater d10 hSw;have f11:=clater d11 hSw;have f12:=clater d12 hSw;have f13:=clater d13 hSw;have f14:=clater d14 hSw;have f15:=clater d15 hSw
   clear c0 c1 c2 c3 c4 c5 d00 d01 d02 d03 d04 d05 d10 d11 d12 d13 d14 d15
   go_simp
  try simp only[Act.put,List.setIfInBounds_toArray,List.set_cons_zero,List.set_cons_succ]
  refine anyG_takel (i:=4) (v:=(.slice (some ⟨vb,vo,none⟩) 2 c)) [5,6,7,12,16,17,18] rfl (by kernel_rfl) (by kernel_rfl) (by kernel_rfl) (by kernel_rfl) (fun _ _ _ h=>h) (Or.inl ⟨by rfl,fun w' hSw=>?_⟩) ((Below.refl _ wa).drew) ?_
  ·have e0:=clater c0 hSw;have e5:=clater c5 hSw;have f00:=clater d00 hSw;have f01:=clater d01 hSw;have f02:=clater d02 hSw;have f03:=clater d03 hSw;have f04:=clater d04 hSw;have f05:=clater d05 hSw;have f10:=clater d10 hSw;have f11:=clater d11 hSw;have f12:=clater d12 hSw;have f13:=clater d13 hSw;have f14:=clater d14 hSw;have f15:=clater d15 hSw
   clear c0 c1 c2 c3 c4 c5 d00 d01 d02 d03 d04 d05 d10 d11 d12 d13 d14 d15
   go_simp
  try simp only[Act.put,List.setIfInBounds_toArray,List.set_cons_zero,List.set_cons_succ]
  refine anyG_takel (i:=5) (v:=(.pointer (some ⟨vb,vo,none⟩))) [6,7,12,16,17,18] rfl (by kernel_rfl) (by kernel_rfl) (by kernel_rfl) (by kernel_rfl) (fun _ _ _ h=>h) (Or.inl ⟨by rfl,fun w' hSw=>?_⟩) ((Below.refl _ wa).drew) ?_
  ·have e0:=clater c0 hSw;have e5:=clater c5 hSw;have f00:=clater d00 hSw;have f01:=clater d01 hSw;have f02:=clater d02 hSw;have f03:=clater d03 hSw;have f04:=clater d04 hSw;have f05:=clater d05 hSw;have f10:=clater d10 hSw;have f11:=clater d11 hSw;have f12:=clater d12 hSw;have f13:=clater d13 hSw;have f14:=clater d14 hSw;have f15:=clater d15 hSw
   clear c0 c1 c2 c3 c4 c5 d00 d01 d02 d03 d04 d05 d10 d11 d12 d13 d14 d15
   go_simp
  try simp only[Act.put,List.setIfInBounds_toArray,List.set_cons_zero,List.set_cons_succ]
  refine anyG_takel (i:=6) (v:=(.agg #[.int .i64 x0.op,.int .i64 x0.n,.int .i64 x0.v.k,.int .i64 x0.v.n,.string x0.v.s,.slice a0 x0.args.length cc0])) [7,12,16,17,18] rfl (by kernel_rfl) (by kernel_rfl) (by kernel_rfl) (by kernel_rfl) (fun _ _ _ h=>h) (Or.inl ⟨by rfl,fun w' hSw=>?_⟩) ((Below.refl _ wa).drew) ?_
  ·have e0:=clater c0 hSw;have e5:=clater c5 hSw;have f00:=clater d00 hSw;have f01:=clater d01 hSw;have f02:=clater d02 hSw;have f03:=clater d03 hSw;have f04:=clater d04 hSw;have f05:=clater d05 hSw;have f10:=clater d10 hSw;have f11:=clater d11 hSw;have f12:=clater d12 hSw;have f13:=clater d13 hSw;have f14:=clater d14 hSw;have f15:=clater d15 hSw
   clear c0 c1 c2 c3 c4 c5 d00 d01 d02 d03 d04 d05 d10 d11 d12 d13 d14 d15
   go_simp
  try simp only[Act.put,List.setIfInBounds_toArray,List.set_cons_zero,List.set_cons_succ]
  refine anyG_takel (i:=8) (v:=(.pointer (some ⟨w.heap.size,5,none⟩))) [9,10,11,12,16,17,18] rfl (by kernel_rfl) (by kernel_rfl) (by kernel_rfl) (by kernel_rfl) (fun _ _ _ h=>h) (Or.inl ⟨by rfl,fun w' hSw=>?_⟩) ((Below.refl _ wa).drew) ?_
  ·have e0:=clater c0 hSw;have e5:=clater c5 hSw;have f00:=clater d00 hSw;have f01:=clater d01 hSw;have f02:=clater d02 hSw;have f03:=clater d03 hSw;have f04:=clater d04 hSw;have f05:=clater d05 hSw;have f10:=clater d10 hSw;have f11:=clater d11 hSw;have f12:=clater d12 hSw;have f13:=clater d13 hSw;have f14:=clater d14 hSw;have f15:=clater d15 hSw
   clear c0 c1 c2 c3 c4 c5 d00 d01 d02 d03 d04 d05 d10 d11 d12 d13 d14 d15
   go_simp
  try simp only[Act.put,List.setIfInBounds_toArray,List.set_cons_zero,List.set_cons_succ]
  refine anyG_takel (i:=9) (v:=(.slice (some ⟨vb,vo,none⟩) 2 c)) [10,11,12,16,17,18] rfl (by kernel_rfl) (by kernel_rfl) (by kernel_rfl) (by kernel_rfl) (fun _ _ _ h=>h) (Or.inl ⟨by rfl,fun w' hSw=>?_⟩) ((Below.refl _ wa).drew) ?_
  ·have e0:=clater c0 hSw;have e5:=clater c5 hSw;have f00:=clater d00 hSw;have f01:=clater d01 hSw;have f02:=clater d02 hSw;have f03:=clater d03 hSw;have f04:=clater d04 hSw;have f05:=clater d05 hSw;have f10:=clater d10 hSw;have f11:=clater d11 hSw;have f12:=clater d12 hSw;have f13:=clater d13 hSw;have f14:=clater d14 hSw;have f15:=clater d15 hSw
   clear c0 c1 c2 c3 c4 c5 d00 d01 d02 d03 d04 d05 d10 d11 d12 d13 d14 d15
   go_simp
  try simp only[Act.put,List.setIfInBounds_toArray,List.set_cons_zero,List.set_cons_succ]
  refine anyG_takel (i:=10) (v:=(.pointer (some ⟨vb,vo+6,none⟩))) [11,12,16,17,18] rfl (by kernel_rfl) (by kernel_rfl) (by kernel_rfl) (by kernel_rfl) (fun _ _ _ h=>h) (Or.inl ⟨by rfl,fun w' hSw=>?_⟩) ((Below.refl _ wa).drew) ?_
  ·have e0:=clater c0 hSw;have e5:=clater c5 hSw;have f00:=clater d00 hSw;have f01:=clater d01 hSw;have f02:=clater d02 hSw;have f03:=clater d03 hSw;have f04:=clater d04 hSw;have f05:=clater d05 hSw;have f10:=clater d10 hSw;have f11:=clater d11 hSw;have f12:=clater d12 hSw;have f13:=clater d13 hSw;have f14:=clater d14 hSw;have f15:=clater d15 hSw
   clear c0 c1 c2 c3 c4 c5 d00 d01 d02 d03 d04 d05 d10 d11 d12 d13 d14 d15
   go_simp
  try simp only[Act.put,List.setIfInBounds_toArray,List.set_cons_zero,List.set_cons_succ]
  refine anyG_takel (i:=11) (v:=(.agg #[.int .i64 x1.op,.int .i64 x1.n,.int .i64 x1.v.k,.int .i64 x1.v.n,.string x1.v.s,.slice a1 x1.args.length cc1])) [12,16,17,18] rfl (by kernel_rfl) (by kernel_rfl) (by kernel_rfl) (by kernel_rfl) (fun _ _ _ h=>h) (Or.inl ⟨by rfl,fun w' hSw=>?_⟩) ((Below.refl _ wa).drew) ?_
  ·have e0:=clater c0 hSw;have e5:=clater c5 hSw;have f00:=clater d00 hSw;have f01:=clater d01 hSw;have f02:=clater d02 hSw;have f03:=clater d03 hSw;have f04:=clater d04 hSw;have f05:=clater d05 hSw;have f10:=clater d10 hSw;have f11:=clater d11 hSw;have f12:=clater d12 hSw;have f13:=clater d13 hSw;have f14:=clater d14 hSw;have f15:=clater d15 hSw
   clear c0 c1 c2 c3 c4 c5 d00 d01 d02 d03 d04 d05 d10 d11 d12 d13 d14 d15
   go_simp
  try simp only[Act.put,List.setIfInBounds_toArray,List.set_cons_zero,List.set_cons_succ]
  refine lat_any (R0:=fun lo N w v=>Fun2K lo N w v (twoV e.op)) (R1:=fun lo N w v=>WorkK lo N w v x0) (R2:=fun lo N w v=>WorkK lo N w v x1) (goes_fun2 _) (goes_work x0) (goes_work x1) true w.heap.size wa 0
   (fun t0 t1 t2 p0 p1 p2=>#[.agg #[.int .i64 e.op,.int .i64 e.n,.int .i64 e.v.k,.int .i64 e.v.n,.string e.v.s,.slice (some ⟨vb,vo,none⟩) 2 c],.pointer (some ⟨w.heap.size,0,none⟩),.nilFunc,undef,undef,p0,p1,p2,undef,undef,undef,.pointer (some ⟨w.heap.size,5,none⟩),.slice (some ⟨vb,vo,none⟩) 2 c,.int .i64 2,.bool false,.bool false,undef,undef,.bool false,.bool false,undef,undef,undef,undef,undef,undef,undef,undef,undef,.bool true,.bool true,.pointer (some ⟨w.heap.size,0,none⟩),.int .i64 e.op,t0,.pointer (some ⟨w.heap.size,5,none⟩),.slice (some ⟨vb,vo,none⟩) 2 c,.pointer (some ⟨vb,vo,none⟩),.agg #[.int .i64 x0.op,.int .i64 x0.n,.int .i64 x0.v.k,.int .i64 x0.v.n,.string x0.v.s,.slice a0 x0.args.length cc0],t1,.pointer (some ⟨w.heap.size,5,none⟩),.slice (some ⟨vb,vo,none⟩) 2 c,.pointer (some ⟨vb,vo+6,none⟩),.agg #[.int .i64 x1.op,.int .i64 x1.n,.int .i64 x1.v.k,.int .i64 x1.v.n,.string x1.v.s,.slice a1 x1.args.length cc1],t2,undef,undef,undef,undef,undef,undef,undef,undef,undef,undef,undef,undef,undef,undef,undef,undef,undef]) (fun d b0 b1 b2=>#[true,true,decide (1<=d),true,true,true,true,decide (2<=d),true,true,true,true,decide (3<=d),b0,b1,b2,false,false,false]) (fun d b0 b1 b2=>(3-d)+(if b0 then 0 else 1)+(if b1 then 0 else 1)+(if b2 then 0 else 1)+3) (fun d=>if d=0 then 2 else if d=1 then 7 else 12) 13 14 15 129 102 102
   (fun w' h=>h) ?ok (fun _=>?c0) ?c1 ?c2 ?a0 ?a1 (fun _=>?a2) ?fin (d:=0) (b0:=false) (b1:=false) (b2:=false) (t0:=undef) (t1:=undef) (t2:=undef) (p0:=undef) (p1:=undef) (p2:=undef) (N:=[]) (by decide) (by decide) (by decide) ?lat ?hf ?hL ?ha
  case ok=>
   intro d b0 b1 b2 h1 h2 h3 h4
   have hd:d=0∨d=1∨d=2∨d=3:=by omega
   rcases hd with rfl|rfl|rfl|rfl<;>cases b0<;>cases b1<;>cases b2<;>first | (exact absurd h4 (by decide)) | (show stOk _ _ _ _ _ _ _ _ _ _ _ _=true;clear h1 h2 h3 h4;kernel_rfl)
  case hf=>rfl
  case hL=>rfl
  case ha=>rfl
  case lat=>
   exact⟨(Below.refl _ wa).drew,hszl,fun b h=>absurd h (by simp),fun h=>absurd h (by decide),fun h=>absurd h (by decide),fun h=>absurd h (by decide),fun h=>absurd h (by decide),fun h=>absurd h (by decide),fun h=>absurd h (by decide),fun h=>absurd h (by decide),fun h=>absurd h (by decide),fun h=>absurd h (by decide)⟩
  case c0=>
   intro t0 t1 t2 p0 p1 p2 w' K hb hK
   refine wpOp_lit rfl (by rfl) fun K' hK'=>?_
   have HS:=hide (double_k e.op w')
   clear c0 c1 c2 c3 c4 c5 d00 d01 d02 d03 d04 d05 d10 d11 d12 d13 d14 d15
   go_simp
   refine(unhide HS).mono ?_
   rintro r w1 ⟨F,rfl,hF,hb1⟩
   go_simp
   exact unhide hK' _ _ (hK F _ hb1 hF)
  case c1=>
   intro t0 t1 t2 p0 p1 p2 w' K hb hK
   refine wpOp_lit rfl (by rfl) fun K' hK'=>?_
   have HS:=hide (unhide HIH0 a0 cc0 w' (Ex.all_later _ (unhide HAL0) hb))
   rw[Ex.val_open] at HS
   clear c0 c1 c2 c3 c4 c5 d00 d01 d02 d03 d04 d05 d10 d11 d12 d13 d14 d15
   go_simp
   refine(unhide HS).mono ?_
   rintro r w1 ⟨F,rfl,hF,hb1⟩
   go_simp
   exact unhide hK' _ _ (hK F _ hb1 hF)
  case c2=>
   intro t0 t1 t2 p0 p1 p2 w' K hb hK
   refine wpOp_lit rfl (by rfl) fun K' hK'=>?_
   have HS:=hide (unhide HIH1 a1 cc1 w' (Ex.all_later _ (unhide HAL1) hb))
   rw[Ex.val_open] at HS
   clear c0 c1 c2 c3 c4 c5 d00 d01 d02 d03 d04 d05 d10 d11 d12 d13 d14 d15
   go_simp
   refine(unhide HS).mono ?_
   rintro r w1 ⟨F,rfl,hF,hb1⟩
   go_simp
   exact unhide hK' _ _ (hK F _ hb1 hF)
  case a0=>
   intro t0 t1 t2 p0 p1 p2 w' K hK
   refine wpOp_lit rfl (by rfl) fun K' hK'=>?_
   clear c0 c1 c2 c3 c4 c5 d00 d01 d02 d03 d04 d05 d10 d11 d12 d13 d14 d15
   go_simp
   exact unhide hK' _ _ hK
  case a1=>
   intro t0 t1 t2 p0 p1 p2 w' K hK
   refine wpOp_lit rfl (by rfl) fun K' hK'=>?_
   clear c0 c1 c2 c3 c4 c5 d00 d01 d02 d03 d04 d05 d10 d11 d12 d13 d14 d15
   go_simp
   exact unhide hK' _ _ hK
  case a2=>
   intro t0 t1 t2 p0 p1 p2 w' K hK
   refine wpOp_lit rfl (by rfl) fun K' hK'=>?_
   clear c0 c1 c2 c3 c4 c5 d00 d01 d02 d03 d04 d05 d10 d11 d12 d13 d14 d15
   go_simp
   exact unhide hK' _ _ hK
  case fin=>
   intro t0 t1 t2 p0 p1 p2 N w' h
   obtain⟨B1,hN1,rfl,x1,y1⟩:=h.q0 rfl
   obtain⟨B2,hN2,rfl,x2,y2⟩:=h.q1 rfl
   obtain⟨B3,hN3,rfl,x3,y3⟩:=h.q2 rfl rfl
   have ne1:B1≠B2:=fun he=>h.n01 rfl rfl (by rw[he])
   have ne2:B2≠B1:=fun he=>ne1 he.symm
   have ne3:B1≠B3:=fun he=>h.n02 rfl rfl rfl (by rw[he])
   have ne4:B3≠B1:=fun he=>ne3 he.symm
   have ne5:B2≠B3:=fun he=>h.n12 rfl rfl rfl (by rw[he])
   have ne6:B3≠B2:=fun he=>ne5 he.symm
   have hl1:=h.new B1 hN1
   have hl2:=h.new B2 hN2
   have hl3:=h.new B3 hN3
   obtain⟨n1,k1,ht1,_⟩:=h.r0 (by decide)
   obtain⟨n2,k2,ht2,_⟩:=h.r1 (by decide)
   obtain⟨n3,k3,ht3,_⟩:=h.r2 (by decide)
   subst ht1 ht2 ht3
   have HK:Hid (Kept w.heap.size N w' (((w'.setCell ⟨B1,0,none⟩ (.func (.func n1) #[] k1)).setCell ⟨B2,0,none⟩ (.func (.func n2) #[] k2)).setCell ⟨B3,0,none⟩ (.func (.func n3) #[] k3))):=((Kept.of_store w' _ 0 _ hN1).trans (Kept.of_store _ _ 0 _ hN2)).trans (Kept.of_store _ _ 0 _ hN3)
   have HF1:=hide ((h.r0 (by decide)).on (unhide HK))
   have HF2:=hide ((h.r1 (by decide)).on (unhide HK))
   have HF3:=hide ((h.r2 (by decide)).on (unhide HK))
   have HBE:Hid (Below w.heap.size w (((w'.setCell ⟨B1,0,none⟩ (.func (.func n1) #[] k1)).setCell ⟨B2,0,none⟩ (.func (.func n2) #[] k2)).setCell ⟨B3,0,none⟩ (.func (.func n3) #[] k3))):=(((below_step (unhide HBA) h.bel).setCell (p:=⟨B1,0,none⟩) (by show w.heap.size<=B1;omega) _).setCell (p:=⟨B2,0,none⟩) (by show w.heap.size<=B2;omega) _).setCell (p:=⟨B3,0,none⟩) (by show w.heap.size<=B3;omega) _
   have HL:=hide (show w.heap.size<=B1/\w.heap.size<=B2/\w.heap.size<=B3 by omega)
   unfold Box1 at x1 x2 x3
   have u2:(w'.setCell ⟨B1,0,none⟩ (.func (.func n1) #[] k1)).cell? ⟨B2,0,none⟩=some .nilFunc:=by simp[go_sem, *]
   have v2:(w'.setCell ⟨B1,0,none⟩ (.func (.func n1) #[] k1)).frozen? ⟨B2,0,none⟩=false:=by simp[go_sem, *]
   have u3:((w'.setCell ⟨B1,0,none⟩ (.func (.func n1) #[] k1)).setCell ⟨B2,0,none⟩ (.func (.func n2) #[] k2)).cell? ⟨B3,0,none⟩=some .nilFunc:=by simp[go_sem, *]
   have v3:((w'.setCell ⟨B1,0,none⟩ (.func (.func n1) #[] k1)).setCell ⟨B2,0,none⟩ (.func (.func n2) #[] k2)).frozen? ⟨B3,0,none⟩=false:=by simp[go_sem, *]
   have X4:Hid (Box1 (((w'.setCell ⟨B1,0,none⟩ (.func (.func n1) #[] k1)).setCell ⟨B2,0,none⟩ (.func (.func n2) #[] k2)).setCell ⟨B3,0,none⟩ (.func (.func n3) #[] k3)) B1 (.func (.func n1) #[] k1)/\Box1 (((w'.setCell ⟨B1,0,none⟩ (.func (.func n1) #[] k1)).setCell ⟨B2,0,none⟩ (.func (.func n2) #[] k2)).setCell ⟨B3,0,none⟩ (.func (.func n3) #[] k3)) B2 (.func (.func n2) #[] k2)/\Box1 (((w'.setCell ⟨B1,0,none⟩ (.func (.func n1) #[] k1)).setCell ⟨B2,0,none⟩ (.func (.func n2) #[] k2)).setCell ⟨B3,0,none⟩ (.func (.func n3) #[] k3)) B3 (.func (.func n3) #[] k3)):=by
    show _/\_/\_
    unfold Box1
    refine⟨?_,?_,?_⟩<;>simp[go_sem, *]
   clear h hl1 hl2 hl3 hN1 hN2 hN3 c0 c1 c2 c3 c4 c5 d00 d01 d02 d03 d04 d05 d10 d11 d12 d13 d14 d15
   dsimp only
   refine anyG_one (i:=16) (by kernel_rfl) ?_
   refine wpOp_lit rfl (by rfl) fun K hK=>?_
   go_simp
   refine unhide hK _ _ ⟨fun hh=>absurd hh (by decide),?_⟩
   clear hK K
   refine anyG_one (i:=17) (by kernel_rfl) ?_
   refine wpOp_lit rfl (by rfl) fun K hK=>?_
   go_simp
   refine unhide hK _ _ ⟨fun hh=>absurd hh (by decide),?_⟩
   clear hK K
   refine anyG_one (i:=18) (by kernel_rfl) ?_
   refine wpOp_lit rfl (by rfl) fun K hK=>?_
   go_simp
   refine unhide hK _ _ ⟨fun hh=>absurd hh (by decide),?_⟩
   clear hK K
   refine anyG_done (by kernel_rfl) ?_ _
   refine NoPanic.normal ?_
   clear x1 x2 x3 u2 u3 v2 v3 y1 y2 y3
   go_wp2
   go_meet
   exact⟨B1,B2,B3,_,_,_,rfl,rfl,rfl,unhide HL,unhide X4,(unhide HF1).more (Nat.le_refl _) (by simp),(unhide HF2).more (Nat.le_refl _) (by simp),(unhide HF3).more (Nat.le_refl _) (by simp),unhide HBE⟩
 case rest=>
  obtain⟨B1,B2,B3,F1,F2,F3,rfl,rfl,rfl,H⟩:=hcut
  clear c0 c1 c2 c3 c4 c5 d00 d01 d02 d03 d04 d05 d10 d11 d12 d13 d14 d15
  go_wp2
  go_ret
  obtain⟨⟨l1,l2,l3⟩,⟨x1,x2,x3⟩,hF1,hF2,hF3,hbe⟩:=unhide H
  refine⟨_,rfl,⟨88,_,rfl,ent31,fun W' a' c' row hW hr hv hl=>?_⟩,hbe⟩
  rw[unhide HEV row]
  exact w31 (twoV e.op) hf0 hf1 (x1.kept hW l1 (by simp)) (x2.kept hW l2 (by simp)) (x3.kept hW l3 (by simp)) (hF1.on hW).fun2 (hF2.on hW).work (hF3.on hW).work a' c' row hr hv hl
end Go.Proofs.YtbfibfmnemnbbaaGreat.E
set_option linter.unusedSimpArgs false
set_option linter.unusedVariables false
set_option maxHeartbeats 2000000
set_option maxRecDepth 100000
namespace Go.Proofs.YtbfibfmnemnbbaaGreat.E
open Go.RowKit Go.Sort
theorem ready3(e x0 x1 x2:Ex)(hx:e.args=[x0,x1,x2])(hf0:x0.fin)(hf1:x1.fin)(hf2:x2.fin)(a:Option Addr)(c:Nat)(w:World)(ha:Ex.all w a e.args)
  (IH:∀(i:Nat) (x:Ex),e.args[i]?=some x->∀(a':Option Addr) (c':Nat) (W:World),Ex.all W a' x.args->Calls Tryz.prog 60 #[x.val a' c'] W fun r w'=>∃F,r=.returned F/\WorkK W.heap.size [] w' F x/\Below W.heap.size W w') :
  Calls Tryz.prog 60 #[e.val a c] w fun r w'=>∃F,r=.returned F/\WorkK w.heap.size [] w' F e/\Below w.heap.size w w':=by
 have hmf:∀(fn:Fn) (first cap:Array Value) (w:World),(Instr.makeFunc fn first cap).run Tryz.prog w=.ok (.func fn first cap) w:=fun _ _ _ _=>rfl
 have hln:e.args.length=3:=by rw[hx];rfl
 have hBa:=below_alloc (Below.refl _ w) (.cells #[.int .i64 e.op,.int .i64 e.n,.int .i64 e.v.k,.int .i64 e.v.n,.string e.v.s,.slice a 3 c] 28)
 have h6:Six (w.alloc (.cells #[.int .i64 e.op,.int .i64 e.n,.int .i64 e.v.k,.int .i64 e.v.n,.string e.v.s,.slice a e.args.length c] 28)) w.heap.size e a c:=Six.new w e a c
 rw[hln] at h6
 have IH0:=IH 0 x0 (by rw[hx];rfl)
 have IH1:=IH 1 x1 (by rw[hx];rfl)
 have IH2:=IH 2 x2 (by rw[hx];rfl)
 obtain⟨vb,vo,ea,hx0⟩:=Ex.all_get (i:=0) (e:=x0) (Ex.all_later _ ha hBa) (by rw[hx];rfl)
 obtain⟨vb1,vo1,ea1,hx1⟩:=Ex.all_get (i:=1) (e:=x1) (Ex.all_later _ ha hBa) (by rw[hx];rfl)
 rw[ea] at ea1
 injection ea1 with ea1
 injection ea1 with eb1 ec1
 subst eb1 ec1
 obtain⟨vb2,vo2,ea2,hx2⟩:=Ex.all_get (i:=2) (e:=x2) (Ex.all_later _ ha hBa) (by rw[hx];rfl)
 rw[ea] at ea2
 injection ea2 with ea2
 injection ea2 with eb2 ec2
 subst eb2 ec2
 obtain⟨a0,cc0,⟨d00,d01,d02,d03,d04,d05⟩,hal0⟩:=Ex.at_open hx0
 rw[Nat.zero_mul,Nat.add_zero] at d00 d01 d02 d03 d04 d05
 obtain⟨a1,cc1,⟨d10,d11,d12,d13,d14,d15⟩,hal1⟩:=Ex.at_open hx1
 rw[Nat.one_mul] at d10 d11 d12 d13 d14 d15
 obtain⟨a2,cc2,⟨d20,d21,d22,d23,d24,d25⟩,hal2⟩:=Ex.at_open hx2
 rw[show 2*6=12 from rfl] at d20 d21 d22 d23 d24 d25
 obtain⟨c0,c1,c2,c3,c4,c5⟩:=h6
 rw[hln] at c5
 subst ea
 rw[Ex.val_open,hln]
 have HEV:Hid (∀row,evalE row e=if trueB (evalE row x0) then evalE row x1 else evalE row x2):=fun row=>by rw[evalE_eq,hx];rfl
 clear IH ha hx hln hx0 hx1 hx2
 go_enter Tryz.func60,Tryz.ntmps60
 go_upto_region 10 with fail
 obtain⟨wa,hwa⟩:∃wa,wa=w.alloc (.cells #[.int .i64 e.op,.int .i64 e.n,.int .i64 e.v.k,.int .i64 e.v.n,.string e.v.s,.slice (some ⟨vb,vo,none⟩) 3 c] 28):=⟨_,rfl⟩
 rw[<-hwa] at hBa hal0 hal1 hal2 c0 c1 c2 c3 c4 c5 d00 d01 d02 d03 d04 d05 d10 d11 d12 d13 d14 d15 d20 d21 d22 d23 d24 d25 ⊢
 have hszl:w.heap.size<=wa.heap.size:=hBa.size
 clear hwa
 have HBA:=hide hBa
 have HAL0:=hide hal0
 have HIH0:=hide IH0
 have HAL1:=hide hal1
 have HIH1:=hide IH1
 have HAL2:=hide hal2
 have HIH2:=hide IH2
 clear hBa hal0 IH0 hal1 IH1 hal2 IH2
 go_cut[8,9,10] (fun p q r wx=>∃B1 B2 B3 F1 F2 F3,p=.pointer (some ⟨B1,0,none⟩)/\q=.pointer (some ⟨B2,0,none⟩)/\r=.pointer (some ⟨B3,0,none⟩)/\Hid ((w.heap.size<=B1/\w.heap.size<=B2/\w.heap.size<=B3)/\(Box1 wx B1 F1/\Box1 wx B2 F2/\Box1 wx B3 F3)/\WorkK w.heap.size [] wx F1 x0/\WorkK w.heap.size [] wx F2 x1/\WorkK w.heap.size [] wx F3 x2/\Below w.heap.size w wx))
 case first=>
  refine wp_region_noPanic ?_
  refine wp_region_G (S:=fun w':World=>Below wa.heap.size wa w') (k:=18) (by kernel_rfl) ?_
  refine anyG_takel (i:=0) (v:=(.pointer (some ⟨w.heap.size,5,none⟩))) [1,2,3,4,9,14,18,19,20] rfl (by kernel_rfl) (by kernel_rfl) (by kernel_rfl) (by kernel_rfl) (fun _ _ _ h=>h) (Or.inl ⟨by rfl,fun w' hSw=>?_⟩) ((Below.refl _ wa).drew) ?_
  ·have e0:=clater c0 hSw;have e5:=clater c5 hSw;have f00:=clater d00 hSw;have f01:=clater d01 hSw;have f02:=clater d02 hSw;have f03:=clater d03 hSw;have f04:=clater d04 hSw;have f05:=clater d05 hSw;have f10:=clater d10 hSw;have f11:=clater d11 hSw;have f12:=clater d12 hSw;have f13:=clater d13 hSw;have f14:=clater d14 hSw;have f15:=clater d15 hSw;have f20:=clater d20 hSw;have f21:=clater d21 hSw;have f22:=clater d22 hSw;have f23:=clater d23 hSw;have f24:=clater d24 hSw;have f25:=clater d25 hSw
   clear c0 c1 c2 c3 c4 c5 d00 d01 d02 d03 d04 d05 d10 d11 d12 d13 d14 d15 d20 d21 d22 d23 d24 d25
   go_simp
  try simp only[Act.put,List.setIfInBounds_toArray,List.set_cons_zero,List.set_cons_succ]
  refine anyG_takel (i:=1) (v:=(.slice (some ⟨vb,vo,none⟩) 3 c)) [2,3,4,9,14,18,19,20] rfl (by kernel_rfl) (by kernel_rfl) (by kernel_rfl) (by kernel_rfl) (fun _ _ _ h=>h) (Or.inl ⟨by rfl,fun w' hSw=>?_⟩) ((Below.refl _ wa).drew) ?_
  ·have e0:=clater c0 hSw;have e5:=clater c5 hSw;have f00:=clater d00 hSw;have f01:=clater d01 hSw;have f02:=clater d02 hSw;have f03:=clater d03 hSw;have f04:=clater d04 hSw;have f05:=clater d05 hSw;have f10:=clater d10 hSw;have f11:=clater d11 hSw;have f12:=clater d12 hSw;have f13:=clater d13 hSw;have f14:=clater d14 hSw;have f15:=clater d15 hSw;have f20:=clater d20 hSw;have f21:=clater d21 hSw;have f22:=clater d22 hSw;have f23:=clater d23 hSw;have f24:=clater d24 hSw;have f25:=clater d25 hSw
   clear c0 c1 c2 c3 c4 c5 d00 d01 d02 d03 d04 d05 d10 d11 d12 d13 d14 d15 d20 d21 d22 d23 d24 d25
   go_simp
  try simp only[Act.put,List.setIfInBounds_toArray,List.set_cons_zero,List.set_cons_succ]
  refine anyG_takel (i:=2) (v:=(.pointer (some ⟨vb,vo,none⟩))) [3,4,9,14,18,19,20] rfl (by kernel_rfl) (by kernel_rfl) (by kernel_rfl) (by kernel_rfl) (fun _ _ _ h=>h) (Or.inl ⟨by rfl,fun w' hSw=>?_⟩) ((Below.refl _ wa).drew) ?_
  ·have e0:=clater c0 hSw;have e5:=clater c5 hSw;have f00:=clater d00 hSw;have f01:=clater d01 hSw;have f02:=clater d02 hSw;have f03:=clater d03 hSw;have f04:=clater d04 hSw;have f05:=clater d05 hSw;have f10:=clater d10 hSw;have f11:=clater d11 hSw;have f12:=clater d12 hSw;have f13:=clater d13 hSw;have f14:=clater d14 hSw;have f15:=clater d15 hSw;have f20:=clater d20 hSw;have f21:=clater d21 hSw;have f22:=clater d22 hSw;have f23:=clater d23 hSw;have f24:=clater d24 hSw;have f25:=clater d25 hSw
   clear c0 c1 c2 c3 c4 c5 d00 d01 d02 d03 d04 d05 d10 d11 d12 d13 d14 d15 d20 d21 d22 d23 d24 d25
   go_simp
  try simp only[Act.put,List.setIfInBounds_toArray,List.set_cons_zero,List.set_cons_succ]
  refine anyG_takel (i:=3) (v:=(.agg #[.int .i64 x0.op,.int .i64 x0.n,.int .i64 x0.v.k,.int .i64 x0.v.n,.string x0.v.s,.slice a0 x0.args.length cc0])) [4,9,14,18,19,20] rfl (by kernel_rfl) (by kernel_rfl) (by kernel_rfl) (by kernel_rfl) (fun _ _ _ h=>h) (Or.inl ⟨by rfl,fun w' hSw=>?_⟩) ((Below.refl _ wa).drew) ?_
  ·have e0:=clater c0 hSw;have e5:=clater c5 hSw;have f00:=clater d00 hSw;have f01:=clater d01 hSw;have f02:=clater d02 hSw;have f03:=clater d03 hSw;have f04:=clater d04 hSw;have f05:=clater d05 hSw;have f10:=clater d10 hSw;have f11:=clater d11 hSw;have f12:=clater d12 hSw;have f13:=clater d13 hSw;have f14:=clater d14 hSw;have f15:=clater d15 hSw;have f20:=clater d20 hSw;have f21:=clater d21 hSw;have f22:=clater d22 hSw;have f23:=clater d23 hSw;have f24:=clater d24 hSw;have f25:=clater d25 hSw
   clear c0 c1 c2 c3 c4 c5 d00 d01 d02 d03 d04 d05 d10 d11 d12 d13 d14 d15 d20 d21 d22 d23 d24 d25
   go_simp
  try simp only[Act.put,List.setIfInBounds_toArray,List.set_cons_zero,List.set_cons_succ]
  refine anyG_takel (i:=5) (v:=(.pointer (some ⟨w.heap.size,5,none⟩))) [6,7,8,9,14,18,19,20] rfl (by kernel_rfl) (by kernel_rfl) (by kernel_rfl) (by kernel_rfl) (fun _ _ _ h=>h) (Or.inl ⟨by rfl,fun w' hSw=>?_⟩) ((Below.refl _ wa).drew) ?_
  ·have e0:=clater c0 hSw;have e5:=clater c5 hSw;have f00:=clater d00 hSw;have f01:=clater d01 hSw;have f02:=clater d02 hSw;have f03:=clater d03 hSw;have f04:=clater d04 hSw;have f05:=clater d05 hSw;have f10:=clater d10 hSw;have f11:=clater d11 hSw;have f12:=clater d12 hSw;have f13:=clater d13 hSw;have f14:=clater d14 hSw;have f15:=clater d15 hSw;have f20:=clater d20 hSw;have f21:=clater d21 hSw;have f22:=clater d22 hSw;have f23:=clater d23 hSw;have f24:=clater d24 hSw;have f25:=clater d25 hSw
   clear c0 c1 c2 c3 c4 c5 d00 d01 d02 d03 d04 d05 d10 d11 d12 d13 d14 d15 d20 d21 d22 d23 d24 d25
   go_simp
  try simp only[Act.put,List.setIfInBounds_toArray,List.set_cons_zero,List.set_cons_succ]
  refine anyG_takel (i:=6) (v:=(.slice (some ⟨vb,vo,none⟩) 3 c)) [7,8,9,14,18,19,20] rfl (by kernel_rfl) (by kernel_rfl) (by kernel_rfl) (by kernel_rfl) (fun _ _ _ h=>h) (Or.inl ⟨by rfl,fun w' hSw=>?_⟩) ((Below.refl _ wa).drew) ?_
  ·have e0:=clater c0 hSw;have e5:=clater c5 hSw;have f00:=clater d00 hSw;have f01:=clater d01 hSw;have f02:=clater d02 hSw;have f03:=clater d03 hSw;have f04:=clater d04 hSw;have f05:=clater d05 hSw;have f10:=clater d10 hSw;have f11:=clater d11 hSw;have f12:=clater d12 hSw;have f13:=clater d13 hSw;have f14:=clater d14 hSw;have f15:=clater d15 hSw;have f20:=clater d20 hSw;have f21:=clater d21 hSw;have f22:=clater d22 hSw;have f23:=clater d23 hSw;have f24:=clater d24 hSw;have f25:=clater d25 hSw
   clear c0 c1 c2 c3 c4 c5 d00 d01 d02 d03 d04 d05 d10 d11 d12 d13 d14 d15 d20 d21 d22 d23 d24 d25
   go_simp
  try simp only[Act.put,List.setIfInBounds_toArray,List.set_cons_zero,List.set_cons_succ]
  refine anyG_takel (i:=7) (v:=(.pointer (some ⟨vb,vo+6,none⟩))) [8,9,14,18,19,20] rfl (by kernel_rfl) (by kernel_rfl) (by kernel_rfl) (by kernel_rfl) (fun _ _ _ h=>h) (Or.inl ⟨by rfl,fun w' hSw=>?_⟩) ((Below.refl _ wa).drew) ?_
  ·have e0:=clater c0 hSw;have e5:=clater c5 hSw;have f00:=clater d00 hSw;have f01:=clater d01 hSw;have f02:=clater d02 hSw;have f03:=clater d03 hSw;have f04:=clater d04 hSw;have f05:=clater d05 hSw;have f10:=clater d10 hSw;have f11:=clater d11 hSw;have f12:=clater d12 hSw;have f13:=clater d13 hSw;have f14:=clater d14 hSw;have f15:=clater d15 hSw;have f20:=clater d20 hSw;have f21:=clater d21 hSw;have f22:=clater d22 hSw;have f23:=clater d23 hSw;have f24:=clater d24 hSw;have f25:=clater d25 hSw
   clear c0 c1 c2 c3 c4 c5 d00 d01 d02 d03 d04 d05 d10 d11 d12 d13 d14 d15 d20 d21 d22 d23 d24 d25
   go_simp
  try simp only[Act.put,List.setIfInBounds_toArray,List.set_cons_zero,List.set_cons_succ]
  refine anyG_takel (i:=8) (v:=(.agg #[.int .i64 x1.op,.int .i64 x1.n,.int .i64 x1.v.k,.int .i64 x1.v.n,.string x1.v.s,.slice a1 x1.args.length cc1])) [9,14,18,19,20] rfl (by kernel_rfl) (by kernel_rfl) (by kernel_rfl) (by kernel_rfl) (fun _ _ _ h=>h) (Or.inl ⟨by rfl,fun w' hSw=>?_⟩) ((Below.refl _ wa).drew) ?_
  ·have e0:=clater c0 hSw;have e5:=clater c5 hSw;have f00:=clater d00 hSw;have f01:=clater d01 hSw;have f02:=clater d02 hSw;have f03:=clater d03 hSw;have f04:=clater d04 hSw;have f05:=clater d05 hSw;have f10:=clater d10 hSw;have f11:=clater d11 hSw;have f12:=clater d12 hSw;have f13:=clater d13 hSw;have f14:=clater d14 hSw;have f15:=clater d15 hSw;have f20:=clater d20 hSw;have f21:=clater d21 hSw;have f22:=clater d22 hSw;have f23:=clater d23 hSw;have f24:=clater d24 hSw;have f25:=clater d25 hSw
   clear c0 c1 c2 c3 c4 c5 d00 d01 d02 d03 d04 d05 d10 d11 d12 d13 d14 d15 d20 d21 d22 d23 d24 d25
   go_simp
  try simp only[Act.put,List.setIfInBounds_toArray,List.set_cons_zero,List.set_cons_succ]
  refine anyG_takel (i:=10) (v:=(.pointer (some ⟨w.heap.size,5,none⟩))) [11,12,13,14,18,19,20] rfl (by kernel_rfl) (by kernel_rfl) (by kernel_rfl) (by kernel_rfl) (fun _ _ _ h=>h) (Or.inl ⟨by rfl,fun w' hSw=>?_⟩) ((Below.refl _ wa).drew) ?_
  ·have e0:=clater c0 hSw;have e5:=clater c5 hSw;have f00:=clater d00 hSw;have f01:=clater d01 hSw;have f02:=clater d02 hSw;have f03:=clater d03 hSw;have f04:=clater d04 hSw;have f05:=clater d05 hSw;have f10:=clater d10 hSw;have f11:=clater d11 hSw;have f12:=clater d12 hSw;have f13:=clater d13 hSw;have f14:=clater d14 hSw;have f15:=clater d15 hSw;have f20:=clater d20 hSw;have f21:=clater d21 hSw;have f22:=clater d22 hSw;have f23:=clater d23 hSw;have f24:=clater d24 hSw;have f25:=clater d25 hSw
   clear c0 c1 c2 c3 c4 c5 d00 d01 d02 d03 d04 d05 d10 d11 d12 d13 d14 d15 d20 d21 d22 d23 d24 d25
   go_simp
  try simp only[Act.put,List.setIfInBounds_toArray,List.set_cons_zero,List.set_cons_succ]
  refine anyG_takel (i:=11) (v:=(.slice (some ⟨vb,vo,none⟩) 3 c)) [12,13,14,18,19,20] rfl (by kernel_rfl) (by kernel_rfl) (by kernel_rfl) (by kernel_rfl) (fun _ _ _ h=>h) (Or.inl ⟨by rfl,fun w' hSw=>?_⟩) ((Below.refl _ wa).drew) ?_
  ·have e0:=clater c0 hSw;have e5:=clater c5 hSw;have f00:=clater d00 hSw;have f01:=clater d01 hSw;have f02:=clater d02 hSw;have f03:=clater d03 hSw;have f04:=clater d04 hSw;have f05:=clater d05 hSw;have f10:=clater d10 hSw;have f11:=clater d11 hSw;have f12:=clater d12 hSw;have f13:=clater d13 hSw;have f14:=clater d14 hSw;have f15:=clater d15 hSw;have f20:=clater d20 hSw;have f21:=clater d21 hSw;have f22:=clater d22 hSw;have f23:=clater d23 hSw;have f24:=clater d24 hSw;have f25:=clater d25 hSw
   clear c0 c1 c2 c3 c4 c5 d00 d01 d02 d03 d04 d05 d10 d11 d12 d13 d14 d15 d20 d21 d22 d23 d24 d25
   go_simp
  try simp only[Act.put,List.setIfInBounds_toArray,List.set_cons_zero,List.set_cons_succ]
  refine anyG_takel (i:=12) (v:=(.pointer (some ⟨vb,vo+12,none⟩))) [13,14,18,19,20] rfl (by kernel_rfl) (by kernel_rfl) (by kernel_rfl) (by kernel_rfl) (fun _ _ _ h=>h) (Or.inl ⟨by rfl,fun w' hSw=>?_⟩) ((Below.refl _ wa).drew) ?_
  ·have e0:=clater c0 hSw;have e5:=clater c5 hSw;have f00:=clater d00 hSw;have f01:=clater d01 hSw;have f02:=clater d02 hSw;have f03:=clater d03 hSw;have f04:=clater d04 hSw;have f05:=clater d05 hSw;have f10:=clater d10 hSw;have f11:=clater d11 hSw;have f12:=clater d12 hSw;have f13:=clater d13 hSw;have f14:=clater d14 hSw;have f15:=clater d15 hSw;have f20:=clater d20 hSw;have f21:=clater d21 hSw;have f22:=clater d22 hSw;have f23:=clater d23 hSw;have f24:=clater d24 hSw;have f25:=clater d25 hSw
   clear c0 c1 c2 c3 c4 c5 d00 d01 d02 d03 d04 d05 d10 d11 d12 d13 d14 d15 d20 d21 d22 d23 d24 d25
   go_simp
  try simp only[Act.put,List.setIfInBounds_toArray,List.set_cons_zero,List.set_cons_succ]
  refine anyG_takel (i:=13) (v:=(.agg #[.int .i64 x2.op,.int .i64 x2.n,.int .i64 x2.v.k,.int .i64 x2.v.n,.string x2.v.s,.slice a2 x2.args.length cc2])) [14,18,19,20] rfl (by kernel_rfl) (by kernel_rfl) (by kernel_rfl) (by kernel_rfl) (fun _ _ _ h=>h) (Or.inl ⟨by rfl,fun w' hSw=>?_⟩) ((Below.refl _ wa).drew) ?_
  ·have e0:=clater c0 hSw;have e5:=clater c5 hSw;have f00:=clater d00 hSw;have f01:=clater d01 hSw;have f02:=clater d02 hSw;have f03:=clater d03 hSw;have f04:=clater d04 hSw;have f05:=clater d05 hSw;have f10:=clater d10 hSw;have f11:=clater d11 hSw;have f12:=clater d12 hSw;have f13:=clater d13 hSw;have f14:=clater d14 hSw;have f15:=clater d15 hSw;have f20:=clater d20 hSw;have f21:=clater d21 hSw;have f22:=clater d22 hSw;have f23:=clater d23 hSw;have f24:=clater d24 hSw;have f25:=clater d25 hSw
   clear c0 c1 c2 c3 c4 c5 d00 d01 d02 d03 d04 d05 d10 d11 d12 d13 d14 d15 d20 d21 d22 d23 d24 d25
   go_simp
  try simp only[Act.put,List.setIfInBounds_toArray,List.set_cons_zero,List.set_cons_succ]
  refine lat_any (R0:=fun lo N w v=>WorkK lo N w v x0) (R1:=fun lo N w v=>WorkK lo N w v x1) (R2:=fun lo N w v=>WorkK lo N w v x2) (goes_work x0) (goes_work x1) (goes_work x2) true w.heap.size wa 0
   (fun t0 t1 t2 p0 p1 p2=>#[.agg #[.int .i64 e.op,.int .i64 e.n,.int .i64 e.v.k,.int .i64 e.v.n,.string e.v.s,.slice (some ⟨vb,vo,none⟩) 3 c],.pointer (some ⟨w.heap.size,0,none⟩),.nilFunc,undef,undef,undef,undef,undef,p0,p1,p2,.pointer (some ⟨w.heap.size,5,none⟩),.slice (some ⟨vb,vo,none⟩) 3 c,.int .i64 3,.bool false,.bool false,undef,undef,.bool false,.bool false,undef,undef,undef,undef,undef,undef,undef,undef,undef,.bool false,.bool false,undef,undef,undef,undef,undef,undef,undef,undef,undef,undef,undef,undef,undef,undef,.pointer (some ⟨w.heap.size,5,none⟩),.slice (some ⟨vb,vo,none⟩) 3 c,.pointer (some ⟨vb,vo,none⟩),.agg #[.int .i64 x0.op,.int .i64 x0.n,.int .i64 x0.v.k,.int .i64 x0.v.n,.string x0.v.s,.slice a0 x0.args.length cc0],t0,.pointer (some ⟨w.heap.size,5,none⟩),.slice (some ⟨vb,vo,none⟩) 3 c,.pointer (some ⟨vb,vo+6,none⟩),.agg #[.int .i64 x1.op,.int .i64 x1.n,.int .i64 x1.v.k,.int .i64 x1.v.n,.string x1.v.s,.slice a1 x1.args.length cc1],t1,.pointer (some ⟨w.heap.size,5,none⟩),.slice (some ⟨vb,vo,none⟩) 3 c,.pointer (some ⟨vb,vo+12,none⟩),.agg #[.int .i64 x2.op,.int .i64 x2.n,.int .i64 x2.v.k,.int .i64 x2.v.n,.string x2.v.s,.slice a2 x2.args.length cc2],t2,undef]) (fun d b0 b1 b2=>#[true,true,true,true,decide (1<=d),true,true,true,true,decide (2<=d),true,true,true,true,decide (3<=d),b0,b1,b2,false,false,false]) (fun d b0 b1 b2=>(3-d)+(if b0 then 0 else 1)+(if b1 then 0 else 1)+(if b2 then 0 else 1)+3) (fun d=>if d=0 then 4 else if d=1 then 9 else 14) 15 16 17 102 102 102
   (fun w' h=>h) ?ok (fun _=>?c0) ?c1 ?c2 ?a0 ?a1 (fun _=>?a2) ?fin (d:=0) (b0:=false) (b1:=false) (b2:=false) (t0:=undef) (t1:=undef) (t2:=undef) (p0:=undef) (p1:=undef) (p2:=undef) (N:=[]) (by decide) (by decide) (by decide) ?lat ?hf ?hL ?ha
  case ok=>
   intro d b0 b1 b2 h1 h2 h3 h4
   have hd:d=0∨d=1∨d=2∨d=3:=by omega
   rcases hd with rfl|rfl|rfl|rfl<;>cases b0<;>cases b1<;>cases b2<;>first | (exact absurd h4 (by decide)) | (show stOk _ _ _ _ _ _ _ _ _ _ _ _=true;clear h1 h2 h3 h4;kernel_rfl)
  case hf=>rfl
  case hL=>rfl
  case ha=>rfl
  case lat=>
   exact⟨(Below.refl _ wa).drew,hszl,fun b h=>absurd h (by simp),fun h=>absurd h (by decide),fun h=>absurd h (by decide),fun h=>absurd h (by decide),fun h=>absurd h (by decide),fun h=>absurd h (by decide),fun h=>absurd h (by decide),fun h=>absurd h (by decide),fun h=>absurd h (by decide),fun h=>absurd h (by decide)⟩
  case c0=>
   intro t0 t1 t2 p0 p1 p2 w' K hb hK
   refine wpOp_lit rfl (by rfl) fun K' hK'=>?_
   have HS:=hide (unhide HIH0 a0 cc0 w' (Ex.all_later _ (unhide HAL0) hb))
   rw[Ex.val_open] at HS
   clear c0 c1 c2 c3 c4 c5 d00 d01 d02 d03 d04 d05 d10 d11 d12 d13 d14 d15 d20 d21 d22 d23 d24 d25
   go_simp
   refine(unhide HS).mono ?_
   rintro r w1 ⟨F,rfl,hF,hb1⟩
   go_simp
   exact unhide hK' _ _ (hK F _ hb1 hF)
  case c1=>
   intro t0 t1 t2 p0 p1 p2 w' K hb hK
   refine wpOp_lit rfl (by rfl) fun K' hK'=>?_
   have HS:=hide (unhide HIH1 a1 cc1 w' (Ex.all_later _ (unhide HAL1) hb))
   rw[Ex.val_open] at HS
   clear c0 c1 c2 c3 c4 c5 d00 d01 d02 d03 d04 d05 d10 d11 d12 d13 d14 d15 d20 d21 d22 d23 d24 d25
   go_simp
   refine(unhide HS).mono ?_
   rintro r w1 ⟨F,rfl,hF,hb1⟩
   go_simp
   exact unhide hK' _ _ (hK F _ hb1 hF)
  case c2=>
   intro t0 t1 t2 p0 p1 p2 w' K hb hK
   refine wpOp_lit rfl (by rfl) fun K' hK'=>?_
   have HS:=hide (unhide HIH2 a2 cc2 w' (Ex.all_later _ (unhide HAL2) hb))
   rw[Ex.val_open] at HS
   clear c0 c1 c2 c3 c4 c5 d00 d01 d02 d03 d04 d05 d10 d11 d12 d13 d14 d15 d20 d21 d22 d23 d24 d25
   go_simp
   refine(unhide HS).mono ?_
   rintro r w1 ⟨F,rfl,hF,hb1⟩
   go_simp
   exact unhide hK' _ _ (hK F _ hb1 hF)
  case a0=>
   intro t0 t1 t2 p0 p1 p2 w' K hK
   refine wpOp_lit rfl (by rfl) fun K' hK'=>?_
   clear c0 c1 c2 c3 c4 c5 d00 d01 d02 d03 d04 d05 d10 d11 d12 d13 d14 d15 d20 d21 d22 d23 d24 d25
   go_simp
   exact unhide hK' _ _ hK
  case a1=>
   intro t0 t1 t2 p0 p1 p2 w' K hK
   refine wpOp_lit rfl (by rfl) fun K' hK'=>?_
   clear c0 c1 c2 c3 c4 c5 d00 d01 d02 d03 d04 d05 d10 d11 d12 d13 d14 d15 d20 d21 d22 d23 d24 d25
   go_simp
   exact unhide hK' _ _ hK
  case a2=>
   intro t0 t1 t2 p0 p1 p2 w' K hK
   refine wpOp_lit rfl (by rfl) fun K' hK'=>?_
   clear c0 c1 c2 c3 c4 c5 d00 d01 d02 d03 d04 d05 d10 d11 d12 d13 d14 d15 d20 d21 d22 d23 d24 d25
   go_simp
   exact unhide hK' _ _ hK
  case fin=>
   intro t0 t1 t2 p0 p1 p2 N w' h
   obtain⟨B1,hN1,rfl,x1,y1⟩:=h.q0 rfl
   obtain⟨B2,hN2,rfl,x2,y2⟩:=h.q1 rfl
   obtain⟨B3,hN3,rfl,x3,y3⟩:=h.q2 rfl rfl
   have ne1:B1≠B2:=fun he=>h.n01 rfl rfl (by rw[he])
   have ne2:B2≠B1:=fun he=>ne1 he.symm
   have ne3:B1≠B3:=fun he=>h.n02 rfl rfl rfl (by rw[he])
   have ne4:B3≠B1:=fun he=>ne3 he.symm
   have ne5:B2≠B3:=fun he=>h.n12 rfl rfl rfl (by rw[he])
   have ne6:B3≠B2:=fun he=>ne5 he.symm
   have hl1:=h.new B1 hN1
   have hl2:=h.new B2 hN2
   have hl3:=h.new B3 hN3
   obtain⟨n1,k1,ht1,_⟩:=h.r0 (by decide)
   obtain⟨n2,k2,ht2,_⟩:=h.r1 (by decide)
   obtain⟨n3,k3,ht3,_⟩:=h.r2 (by decide)
   subst ht1 ht2 ht3
   have HK:Hid (Kept w.heap.size N w' (((w'.setCell ⟨B1,0,none⟩ (.func (.func n1) #[] k1)).setCell ⟨B2,0,none⟩ (.func (.func n2) #[] k2)).setCell ⟨B3,0,none⟩ (.func (.func n3) #[] k3))):=((Kept.of_store w' _ 0 _ hN1).trans (Kept.of_store _ _ 0 _ hN2)).trans (Kept.of_store _ _ 0 _ hN3)
   have HF1:=hide ((h.r0 (by decide)).on (unhide HK))
   have HF2:=hide ((h.r1 (by decide)).on (unhide HK))
   have HF3:=hide ((h.r2 (by decide)).on (unhide HK))
   have HBE:Hid (Below w.heap.size w (((w'.setCell ⟨B1,0,none⟩ (.func (.func n1) #[] k1)).setCell ⟨B2,0,none⟩ (.func (.func n2) #[] k2)).setCell ⟨B3,0,none⟩ (.func (.func n3) #[] k3))):=(((below_step (unhide HBA) h.bel).setCell (p:=⟨B1,0,none⟩) (by show w.heap.size<=B1;omega) _).setCell (p:=⟨B2,0,none⟩) (by show w.heap.size<=B2;omega) _).setCell (p:=⟨B3,0,none⟩) (by show w.heap.size<=B3;omega) _
   have HL:=hide (show w.heap.size<=B1/\w.heap.size<=B2/\w.heap.size<=B3 by omega)
   unfold Box1 at x1 x2 x3
   have u2:(w'.setCell ⟨B1,0,none⟩ (.func (.func n1) #[] k1)).cell? ⟨B2,0,none⟩=some .nilFunc:=by simp[go_sem, *]
   have v2:(w'.setCell ⟨B1,0,none⟩ (.func (.func n1) #[] k1)).frozen? ⟨B2,0,none⟩=false:=by simp[go_sem, *]
   have u3:((w'.setCell ⟨B1,0,none⟩ (.func (.func n1) #[] k1)).setCell ⟨B2,0,none⟩ (.func (.func n2) #[] k2)).cell? ⟨B3,0,none⟩=some .nilFunc:=by simp[go_sem, *]
   have v3:((w'.setCell ⟨B1,0,none⟩ (.func (.func n1) #[] k1)).setCell ⟨B2,0,none⟩ (.func (.func n2) #[] k2)).frozen? ⟨B3,0,none⟩=false:=by simp[go_sem, *]
   have X4:Hid (Box1 (((w'.setCell ⟨B1,0,none⟩ (.func (.func n1) #[] k1)).setCell ⟨B2,0,none⟩ (.func (.func n2) #[] k2)).setCell ⟨B3,0,none⟩ (.func (.func n3) #[] k3)) B1 (.func (.func n1) #[] k1)/\Box1 (((w'.setCell ⟨B1,0,none⟩ (.func (.func n1) #[] k1)).setCell ⟨B2,0,none⟩ (.func (.func n2) #[] k2)).setCell ⟨B3,0,none⟩ (.func (.func n3) #[] k3)) B2 (.func (.func n2) #[] k2)/\Box1 (((w'.setCell ⟨B1,0,none⟩ (.func (.func n1) #[] k1)).setCell ⟨B2,0,none⟩ (.func (.func n2) #[] k2)).setCell ⟨B3,0,none⟩ (.func (.func n3) #[] k3)) B3 (.func (.func n3) #[] k3)):=by
    show _/\_/\_
    unfold Box1
    refine⟨?_,?_,?_⟩<;>simp[go_sem, *]
   clear h hl1 hl2 hl3 hN1 hN2 hN3 c0 c1 c2 c3 c4 c5 d00 d01 d02 d03 d04 d05 d10 d11 d12 d13 d14 d15 d20 d21 d22 d23 d24 d25
   dsimp only
   refine anyG_one (i:=18) (by kernel_rfl) ?_
   refine wpOp_lit rfl (by rfl) fun K hK=>?_
   go_simp
   refine unhide hK _ _ ⟨fun hh=>absurd hh (by decide),?_⟩
   clear hK K
   refine anyG_one (i:=19) (by kernel_rfl) ?_
   refine wpOp_lit rfl (by rfl) fun K hK=>?_
   go_simp
   refine unhide hK _ _ ⟨fun hh=>absurd hh (by decide),?_⟩
   clear hK K
   refine anyG_one (i:=20) (by kernel_rfl) ?_
   refine wpOp_lit rfl (by rfl) fun K hK=>?_
   go_simp
   refine unhide hK _ _ ⟨fun hh=>absurd hh (by decide),?_⟩
   clear hK K
   refine anyG_done (by kernel_rfl) ?_ _
   refine NoPanic.normal ?_
   clear x1 x2 x3 u2 u3 v2 v3 y1 y2 y3
   go_wp2
   go_meet
   exact⟨B1,B2,B3,_,_,_,rfl,rfl,rfl,unhide HL,unhide X4,(unhide HF1).more (Nat.le_refl _) (by simp),(unhide HF2).more (Nat.le_refl _) (by simp),(unhide HF3).more (Nat.le_refl _) (by simp),unhide HBE⟩
 case rest=>
  obtain⟨B1,B2,B3,F1,F2,F3,rfl,rfl,rfl,H⟩:=hcut
  clear c0 c1 c2 c3 c4 c5 d00 d01 d02 d03 d04 d05 d10 d11 d12 d13 d14 d15 d20 d21 d22 d23 d24 d25
  go_wp2
  go_ret
  obtain⟨⟨l1,l2,l3⟩,⟨x1,x2,x3⟩,hF1,hF2,hF3,hbe⟩:=unhide H
  refine⟨_,rfl,⟨89,_,rfl,ent32,fun W' a' c' row hW hr hv hl=>?_⟩,hbe⟩
  rw[unhide HEV row]
  exact w32 (x1.kept hW l1 (by simp)) (x2.kept hW l2 (by simp)) (x3.kept hW l3 (by simp)) (hF1.on hW).work (hF2.on hW).work (hF3.on hW).work a' c' row hr hv hl
end Go.Proofs.YtbfibfmnemnbbaaGreat.E
set_option linter.unusedSimpArgs false
set_option linter.unusedVariables false
set_option maxHeartbeats 400000
set_option maxRecDepth 100000
namespace Go.Proofs.YtbfibfmnemnbbaaGreat.E
open Go.RowKit Go.Sort
theorem ready0(e:Ex)(hg:goodE e)(hx:e.args=[])(a:Option Addr)(c:Nat)(w:World) :
  Calls Tryz.prog 60 #[e.val a c] w fun r w'=>∃F,r=.returned F/\WorkK w.heap.size [] w' F e/\Below w.heap.size w w':=by
 have HL:=hide (leaf_k e hg hx a c (w.alloc (.cells #[.int .i64 e.op,.int .i64 e.n,.int .i64 e.v.k,.int .i64 e.v.n,.string e.v.s,.slice a 0 c] 28)))
 have hln:e.args.length=0:=by rw[hx];rfl
 have HB:=hide (below_alloc (Below.refl _ w) (.cells #[.int .i64 e.op,.int .i64 e.n,.int .i64 e.v.k,.int .i64 e.v.n,.string e.v.s,.slice a 0 c] 28))
 rw[Ex.val_open,hln] at HL ⊢
 clear hg hx hln
 go_enter Tryz.func60,Tryz.ntmps60
 go_wp2_with (go_at_call 84;refine(unhide HL).mono ?_;rintro r w1 ⟨F,rfl,hF,hb1⟩)
 go_ret
 exact⟨F,rfl,hF.more (unhide HB).size (by simp),below_step (unhide HB) hb1⟩
theorem ar_le(op:Int):arI op=0∨arI op=1∨arI op=2∨arI op=3∨arI op<0:=by
 unfold arI
 repeat' split
 all_goals omega
theorem ready_all:∀(k:Nat) (e:Ex),e.size<=k->e.fin->goodE e->∀(a:Option Addr) (c:Nat) (w:World),Ex.all w a e.args->Calls Tryz.prog 60 #[e.val a c] w fun r w'=>∃F,r=.returned F/\WorkK w.heap.size [] w' F e/\Below w.heap.size w w'
 | 0,e,hs,_,_,_,_,_,_=>by rw[Ex.size_mk] at hs;omega
 | k+1,e,hs,hf,hg,a,c,w,ha=>by
  have IH:∀(i:Nat) (x:Ex),e.args[i]?=some x->∀(a':Option Addr) (c':Nat) (W:World),Ex.all W a' x.args->Calls Tryz.prog 60 #[x.val a' c'] W fun r w'=>∃F,r=.returned F/\WorkK W.heap.size [] w' F x/\Below W.heap.size W w':=
   fun i x hx a' c' W h=>ready_all k x (by have:=Ex.size_arg hx;omega) (Ex.fin_arg hf hx) (good_arg hg hx) a' c' W h
  have hl:=sound_len (good_open hg).1
  have har:=ar_le e.op
  match he:e.args,hl with
  | [],_=>exact ready0 e hg he a c w
  | [x],_=>exact ready1 e x he (Ex.fin_arg hf (i:=0) (by rw[he];rfl)) a c w ha (IH 0 x (by rw[he];rfl))
  | [x,y],_=>exact ready2 e x y he (Ex.fin_arg hf (i:=0) (by rw[he];rfl)) (Ex.fin_arg hf (i:=1) (by rw[he];rfl)) a c w ha IH
  | [x,y,z],_=>exact ready3 e x y z he (Ex.fin_arg hf (i:=0) (by rw[he];rfl)) (Ex.fin_arg hf (i:=1) (by rw[he];rfl)) (Ex.fin_arg hf (i:=2) (by rw[he];rfl)) a c w ha IH
  | _::_::_::_::_,hl=>exfalso;simp only[List.length_cons] at hl;omega
def evalB(row:List Val)(e:Ex):Val:=if builtE e then evalE row e else .null
def WorkB(lo:Nat)(N:List Nat)(W:World)(F:Value)(e:Ex):Prop:=∃n k,F=.func (.func n) #[] k/\Enters n/\∀W' a c row,Kept lo N W W'->RowAt W' a row->(∀x∈row,VOk x)->row.length<=140737488355328->Calls Tryz.prog n (#[.slice a row.length c]++k) W' fun r w'=>r=.returned (evalB row e).v/\Below W'.heap.size W' w'
theorem WorkB.more{lo lo':Nat}{W:World}{F:Value}{x:Ex}(h:WorkB lo [] W F x)(hl:lo'<=lo):WorkB lo' [] W F x:=by
 obtain⟨n,k,rfl,e,H⟩:=h
 exact⟨n,k,rfl,e,fun W'' a c row h1 h2 h3 h4=>H W'' a c row (h1.more hl (by simp)) h2 h3 h4⟩
theorem ent27:Enters 59:=fun args w=>by kernel_rfl
theorem nothing_any(a:Option Addr)(n c:Nat)(w:World):Calls Tryz.prog 59 #[.slice a n c] w fun r w'=>r=.returned Val.null.v/\Below w.heap.size w w':=by
 go_enter Tryz.func59,Tryz.ntmps59
 go_wp2
 refine bodyPost_ret (v:=Val.null.v) (by simp[results,Tryz.results59,go_sem,Val.v,Val.null]) rfl ⟨rfl,below_alloc (Below.refl _ _) _⟩
theorem readyB_any(e:Ex)(hf:e.fin)(a:Option Addr)(c:Nat)(w:World)(ha:Ex.all w a e.args) :
  Calls Tryz.prog 30 #[e.val a c] w fun r w'=>∃F,r=.returned F/\WorkB w.heap.size [] w' F e/\Below w.heap.size w w':=by
 have HB:=hide (fun (W:World) (hW:Below w.heap.size w W)=>built_any e hf a c W (Ex.all_later _ ha hW))
 have HN:=hide (fun (hg:goodE e) (W:World) (hW:Below w.heap.size w W)=>ready_all e.size e (Nat.le_refl _) hf hg a c W (Ex.all_later _ ha hW))
 have HG:=hide (built_good (e:=e))
 clear ha
 rw[Ex.val_open] at HB HN ⊢
 have HB0:=hide (below_alloc (Below.refl _ w) (.cells #[.int .i64 e.op,.int .i64 e.n,.int .i64 e.v.k,.int .i64 e.v.n,.string e.v.s,.slice a e.args.length c] 28))
 have H6:Hid (Six (w.alloc (.cells #[.int .i64 e.op,.int .i64 e.n,.int .i64 e.v.k,.int .i64 e.v.n,.string e.v.s,.slice a e.args.length c] 28)) w.heap.size e a c):=Six.new w e a c
 rcases Bool.eq_false_or_eq_true (builtE e) with hb|hb
 ·have HE:Hid (∀row,evalB row e=evalE row e):=fun row=>by unfold evalB;rw[hb,if_pos rfl]
  have HN:=hide (unhide HN (unhide HG hb))
  rw[hb] at HB
  clear hb
  go_enter Tryz.func30,Tryz.ntmps30
  go_wp2_with (first
   | (go_at_call 50;refine(unhide HB _ (unhide HB0)).mono ?_;rintro r w1 ⟨rfl,hb1⟩;have hB1:=below_step (unhide HB0) hb1;obtain⟨b0,b1,b2,b3,b4,b5⟩:=(unhide H6).later hb1)
   | (go_at_call 60;refine(unhide HN _ hB1).mono ?_;rintro r w2 ⟨F,rfl,hF,hb2⟩))
  go_ret
  refine⟨F,rfl,?_,below_step hB1 hb2⟩
  obtain⟨n,k,hF1,hF2,hF3⟩:=hF.more hB1.size (N':=[]) (by simp)
  exact⟨n,k,hF1,hF2,fun W' a c row h1 h2 h3 h4=>by rw[unhide HE row];exact hF3 W' a c row h1 h2 h3 h4⟩
 ·have HE:Hid (∀row,evalB row e=.null):=fun row=>by unfold evalB;rw[hb,if_neg (by simp)]
  rw[hb] at HB
  clear hb
  go_enter Tryz.func30,Tryz.ntmps30
  go_wp2_with (go_at_call 50;refine(unhide HB _ (unhide HB0)).mono ?_;rintro r w1 ⟨rfl,hb1⟩)
  go_ret
  refine⟨_,rfl,⟨59,#[],rfl,ent27,fun W' a c row h1 h2 h3 h4=>?_⟩,below_step (unhide HB0) hb1⟩
  rw[unhide HE row]
  exact nothing_any a row.length c W'
theorem evals_any(e:Ex)(hf:e.fin)(row:List Val)(hv:∀x∈row,VOk x)(hl:row.length<=140737488355328)(a aR:Option Addr)(c cR:Nat)(w:World)(ha:Ex.all w a e.args)(hr:RowAt w aR row) :
  Calls Tryz.prog 12 #[e.val a c,.slice aR row.length cR] w fun r w'=>r=.returned (evalB row e).v/\Below w.heap.size w w':=by
 have HN:=hide (fun (W:World) (hW:Below w.heap.size w W)=>readyB_any e hf a c W (Ex.all_later _ ha hW))
 have HRW:=hide (fun (W:World) (hW:Below w.heap.size w W)=>hr.later hW)
 have HV:=hide hv
 clear ha hr hv
 rw[Ex.val_open] at HN ⊢
 have HB0:Hid (Below w.heap.size w ((w.alloc (.cells #[.int .i64 e.op,.int .i64 e.n,.int .i64 e.v.k,.int .i64 e.v.n,.string e.v.s,.slice a e.args.length c] 28)).alloc (.cells #[.int .i64 0,.int .i64 0,.string ⟨#[]⟩] 25))):=below_alloc (below_alloc (Below.refl _ w) _) _
 have HZ:Hid (ZeroAt ((w.alloc (.cells #[.int .i64 e.op,.int .i64 e.n,.int .i64 e.v.k,.int .i64 e.v.n,.string e.v.s,.slice a e.args.length c] 28)).alloc (.cells #[.int .i64 0,.int .i64 0,.string ⟨#[]⟩] 25)) (w.heap.size+1)):=by
  refine⟨?_,?_,?_,?_,?_,?_⟩<;>simp[go_sem]
 have HW:Hid (∀W F,WorkB w.heap.size [] W F e->Below w.heap.size w W->∃n k,F=.func (.func n) #[] k/\Enters n/\Calls Tryz.prog n (#[.slice aR row.length cR]++k) W fun r w'=>r=.returned (evalB row e).v/\Below W.heap.size W w'):=fun W F hF hW=>by
  obtain⟨n,k,h1,h2,h3⟩:=hF
  exact⟨n,k,h1,h2,h3 W aR cR row (Kept.refl _ _ _) (unhide HRW _ hW) (unhide HV) hl⟩
 generalize evalB row e=res at *
 go_enter Tryz.func12,Tryz.ntmps12
 go_wp2_with (first
  | (go_at_call 30;refine(unhide HN _ (unhide HB0)).mono ?_;rintro r w2 ⟨F,rfl,hF,hb2⟩;have hB2:=below_step (unhide HB0) hb2;obtain⟨n4,k4,rfl,e4,H4⟩:=unhide HW w2 F (WorkB.more hF (unhide HB0).size) hB2;unfold Enters at e4;have HC4:=hide H4;clear H4 hF)
  | (refine(unhide HC4).mono ?_;rintro r w3 ⟨rfl,hb3⟩;have hB3:=below_step hB2 hb3;rw[Val.open_];obtain⟨z0,z1,z2,z3,z4,z5⟩:=(unhide HZ).later (below_step hb2 hb3)))
 refine bodyPost_ret (v:=res.v) (by simp[results,Tryz.results12,go_sem,Val.v, *]) rfl ⟨rfl,?_⟩
 exact put3 hB3 (by omega) _ _ _
end Go.Proofs.YtbfibfmnemnbbaaGreat.E
