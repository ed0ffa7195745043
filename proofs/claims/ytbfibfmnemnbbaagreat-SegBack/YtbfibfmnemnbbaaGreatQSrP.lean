import Derived.Test.YtbfibfmnemnbbaaGreatQSrO
set_option linter.unusedSimpArgs false
set_option linter.unusedVariables false
set_option maxHeartbeats 4000000
set_option maxRecDepth 100000
namespace Go.Proofs.YtbfibfmnemnbbaaGreat
open Go.RowKit Go.Sort
theorem own_some{w:World}{b:Nat}{v:Value}{xs:List Val}(h:OwnV w b v xs)(hx:xs≠[]):∃g cap,v=.slice (some ⟨g,0,none⟩) xs.length cap:=by
 rcases h.2 with ⟨_,h0⟩|⟨g,cap,cur,e,_⟩
 ·exact absurd (List.eq_nil_of_length_eq_zero h0) hx
 ·exact⟨g,cap,e⟩
theorem HS.cells{w wr:World}{H g cap:Nat}{rows:Int}{lv hv nv:Value}{L G:List Val}{N:List Int}{x y z:Val}(h:HS w wr H rows lv hv nv (.slice (some ⟨g,0,none⟩) 3 cap) L G N [x,y,z]) :
  (wr.cell? ⟨H,1,none⟩=some lv/\wr.cell? ⟨g,0,none⟩=some (.int .i64 x.k)/\wr.cell? ⟨g,1,none⟩=some (.int .i64 x.n)/\wr.cell? ⟨g,2,none⟩=some (.string x.s))/\(wr.cell? ⟨H,2,none⟩=some hv/\wr.cell? ⟨g,3,none⟩=some (.int .i64 y.k)/\wr.cell? ⟨g,4,none⟩=some (.int .i64 y.n)/\wr.cell? ⟨g,5,none⟩=some (.string y.s))/\(wr.cell? ⟨H,3,none⟩=some nv/\wr.cell? ⟨g,7,none⟩=some (.int .i64 z.n)):=by
 obtain⟨⟨_,h1,h2,h3⟩,_⟩:=hd4_facts h.h
 obtain⟨a0,a1,a2⟩:=says_at (xs:=[x,y,z]) h.s (i:=0) rfl
 obtain⟨b0,b1,b2⟩:=says_at (xs:=[x,y,z]) h.s (i:=1) rfl
 obtain⟨c0,c1,c2⟩:=says_at (xs:=[x,y,z]) h.s (i:=2) rfl
 exact⟨⟨h1,a0,a1,a2⟩,⟨h2,b0,b1,b2⟩,h3,c1⟩
theorem own_four{w:World}{g t n:Nat}{F:Nat->Value}{base e size:Nat}{v:Value}{m:Nat}{xs:List Value}(ho:w.ownsRow base e size v m xs)(h:w.rowIs g t n F)(hte:t≠e)(u0 u1 u2 u3:Value) :
  ((((w.setCell ⟨g,0,none⟩ u0).setCell ⟨g,1,none⟩ u1).setCell ⟨g,2,none⟩ u2).setCell ⟨g,3,none⟩ u3).ownsRow base e size v m xs:=
 own_set (own_set (own_set (own_set ho h hte) (h.set 0 u0) hte) ((h.set 0 u0).set 1 u1) hte) (((h.set 0 u0).set 1 u1).set 2 u2) hte
theorem head_yes{l:List UInt8}(hl:l.length<=140737488300000){Xs:List Vc}{ps:List (ByteArray×ByteArray)}(h:Seg l Xs ps)(w:World):Calls Tryz.prog 9 #[.string (bs l)] w fun e w'=>HeadQ w w' Xs (layR l) e:=by
 obtain⟨i4,hi4,z40,z41,z42⟩:=info_parts Tryz.info25
 obtain⟨i3,hi3,z30,z31,z32⟩:=info_parts Tryz.info3'
 have HO:=hide (fun W=>sop_yes hl h W)
 have hn:=h.lay.len
 have h32:=h.lay.n2
 rw[<-hn] at h32
 rw[<-hn,h.zones] at HO
 have HR:Hid (∀(j:Nat) (X:Vc),Xs[j]?=some X->∀W,Calls Tryz.prog 24 #[.string (zP X)] W fun e w'=>∃v,e=.returned (.tuple #[v,.int .i64 0])/\OwnV w' W.heap.size v [lowX X,highX X,.num (nulX X:Nat)]/\Below W.heap.size W w'):=fun j X hX W=>by
  obtain⟨u1,u2⟩:=h.lay.at_ j X hX
  have hz:=(un_fit u1 u2).zone
  refine(crow_any (zP X) W (by omega)).mono ?_
  rintro e w' ⟨hg,hb⟩
  rw[(un_zone u1).1] at hg
  obtain⟨v,he,ho⟩:=hg
  exact⟨v,he,ho,hb⟩
 obtain⟨rows,hrows⟩:∃rows,layR l=rows:=⟨_,rfl⟩
 rw[hrows] at HO ⊢
 obtain⟨n,hnn⟩:∃n,Xs.length=n:=⟨_,rfl⟩
 rw[hnn] at HO h32
 have HNN:=hide hnn
 have HA:=hide (hd4_alloc w 0 noSl noSl noSl)
 clear h hn hnn hrows
 have i32:(n:Int)<=32:=by omega
 go_enter Tryz.func9,Tryz.ntmps9
 go_wp2_with (go_at_call 21;refine(unhide HO _).mono ?_;rintro _ w2 ⟨Cs,az,ac,cz,cc,rfl,-,hz,-,-,hb⟩;have HZ:=hide hz;have HA1:=hide (rowIs_later (unhide HA) hb);have HB:=hide (below_step (below_alloc (Below.refl _ w) _) hb);clear hz hb)
 have hH:=hd4_alloc (w2.alloc (.cells #[.int .i64 (rows:Int),.slice az n cz,.slice ac n cc] 62)) (rows:Int) noSl noSl noSl
 have hbb:=below_alloc (below_alloc (Below.refl _ w2) (.cells #[.int .i64 (rows:Int),.slice az n cz,.slice ac n cc] 62)) (.cells #[.int .i64 (rows:Int),.slice none 0 0,.slice none 0 0,.slice none 0 0] 39)
 rw[show (w2.alloc (.cells #[.int .i64 (rows:Int),.slice az n cz,.slice ac n cc] 62)).heap.size=w2.heap.size+1 by simp] at hH
 obtain⟨w3,hw3⟩:∃w3,(w2.alloc (.cells #[.int .i64 (rows:Int),.slice az n cz,.slice ac n cc] 62)).alloc (.cells #[.int .i64 (rows:Int),.slice none 0 0,.slice none 0 0,.slice none 0 0] 39)=w3:=⟨_,rfl⟩
 rw[hw3] at hH hbb ⊢
 clear hw3
 obtain⟨H,hHH⟩:∃H,w2.heap.size+1=H:=⟨_,rfl⟩
 rw[hHH] at hH ⊢
 have HST:Hid (HS w2 w3 H rows noSl noSl noSl noSl [] [] [] []):=⟨hH,World.ownsRow_nil _ _ _ _,World.ownsRow_nil _ _ _ _,World.ownsRow_nil _ _ _ _,World.ownsRow_nil _ _ _ _,.inl rfl,.inl rfl,.inl rfl,.inl rfl,hbb,by omega⟩
 clear hH hbb hHH HO HA
 go_loopw[26] (fun s wr=>∃(j:Nat) (lv hv nv sv:Value) (Z:List Val),j<=n/\s=.int .i64 (j:Int)/\Hid (HS w2 wr H rows lv hv nv sv ((Xs.take j).map lowX) ((Xs.take j).map highX) ((Xs.take j).map fun X=>((nulX X:Nat):Int)) Z)) (fun s _=>n-(intOf s).toNat)
 case atStart=>exact⟨0,_,_,_,_,_,Nat.zero_le _,rfl,HST⟩
 case round=>
  obtain⟨j,lv,hv,nv,sv,Z,hj,rfl,HJ⟩:=hrel
  clear HST
  by_cases hjn:j<n
  ·have ij:(j:Int)<(n:Int):=by omega
   have hXl:j<Xs.length:=by rw[unhide HNN];exact hjn
   obtain⟨X,hX⟩:∃X,Xs[j]?=some X:=⟨_,List.getElem?_eq_getElem hXl⟩
   have hTK:Xs.take (j+1)=Xs.take j++[X]:=by
    obtain⟨h1,rfl⟩:=List.getElem?_eq_some_iff.1 hX
    exact List.take_succ_eq_append_getElem h1
   have HTK:=hide hTK
   obtain⟨bz,oz,rfl,qz⟩:=lis_get ((unhide HZ).later (unhide HJ).bel) (show ((Xs.map zP).map Value.string)[j]?=some (.string (zP X)) by simp[hX])
   have HRR:=hide (unhide HR j X hX)
   have hlen:(Xs.take j).length=j:=by rw[List.length_take];omega
   obtain⟨Ls,hLs⟩:∃Ls,(Xs.take j).map lowX=Ls:=⟨_,rfl⟩
   obtain⟨Gs,hGs⟩:∃Gs,(Xs.take j).map highX=Gs:=⟨_,rfl⟩
   obtain⟨Ns,hNs⟩:∃Ns,(Xs.take j).map (fun X=>((nulX X:Nat):Int))=Ns:=⟨_,rfl⟩
   have HaL:Hid (Ls.length<=32):=by show _<=_;rw[<-hLs,List.length_map];omega
   have HbL:Hid (Gs.length<=32):=by show _<=_;rw[<-hGs,List.length_map];omega
   have HcL:Hid (Ns.length<=32):=by show _<=_;rw[<-hNs,List.length_map];omega
   have HEQ:=hide (And.intro hLs (And.intro hGs hNs))
   rw[hLs,hGs,hNs] at HJ
   obtain⟨L,hL⟩:∃L,lowX X=L:=⟨_,rfl⟩
   obtain⟨Gg,hG⟩:∃Gg,highX X=Gg:=⟨_,rfl⟩
   obtain⟨N,hN⟩:∃N,nulX X=N:=⟨_,rfl⟩
   have HLGN:=hide (And.intro hL (And.intro hG hN))
   rw[hL,hG,hN] at HRR
   clear hTK hX hXl hlen hLs hGs hNs hL hG hN
   go_upto_region 9 with (go_at_call 24;refine(unhide HRR _).mono ?_;rintro _ w4 ⟨v4,rfl,ho4,hb4⟩;obtain⟨g4,cap4,rfl⟩:=own_some ho4 (by simp);have HJ4:=hide ((unhide HJ).says hb4 ho4);clear ho4 hb4)
   go_upto_region 9 with fail
   have Sa:(fun w':World=>w'.cell? ⟨H,1,none⟩=some lv/\w'.cell? ⟨g4,0,none⟩=some (.int .i64 L.k)/\w'.cell? ⟨g4,1,none⟩=some (.int .i64 L.n)/\w'.cell? ⟨g4,2,none⟩=some (.string L.s)) w4.drew:=((unhide HJ4).later (Below.refl _ _).drew).cells.1
   refine wp_region_noPanic ?_
   refine wp_region_G (S:=fun w':World=>w'.cell? ⟨H,1,none⟩=some lv/\w'.cell? ⟨g4,0,none⟩=some (.int .i64 L.k)/\w'.cell? ⟨g4,1,none⟩=some (.int .i64 L.n)/\w'.cell? ⟨g4,2,none⟩=some (.string L.s)) (k:=6) (by kernel_rfl) ?_
   refine anyG_takel (i:=0) (v:=(.pointer (some ⟨H,1,none⟩))) [1,6] rfl (by kernel_rfl) (by kernel_rfl) (by kernel_rfl) (by kernel_rfl) (fun _ _ _ h=>h) (Or.inl ⟨by rfl,fun w' hSw=>?_⟩) Sa ?_
   ·dsimp only at hSw;go_simp
   try simp only[Act.put,List.setIfInBounds_toArray,List.set_cons_zero,List.set_cons_succ]
   refine anyG_takel (i:=1) (v:=lv) [6] rfl (by kernel_rfl) (by kernel_rfl) (by kernel_rfl) (by kernel_rfl) (fun _ _ _ h=>h) (Or.inl ⟨by rfl,fun w' hSw=>?_⟩) Sa ?_
   ·dsimp only at hSw;go_simp
   try simp only[Act.put,List.setIfInBounds_toArray,List.set_cons_zero,List.set_cons_succ]
   refine anyG_takel (i:=2) (v:=(.slice (some ⟨g4,0,none⟩) 3 cap4)) [3,4,5,6] rfl (by kernel_rfl) (by kernel_rfl) (by kernel_rfl) (by kernel_rfl) (fun _ _ _ h=>h) (Or.inl ⟨by rfl,fun w' hSw=>?_⟩) Sa ?_
   ·dsimp only at hSw;go_simp
   try simp only[Act.put,List.setIfInBounds_toArray,List.set_cons_zero,List.set_cons_succ]
   refine anyG_takel (i:=3) (v:=(.pointer (some ⟨g4,0,none⟩))) [4,5,6] rfl (by kernel_rfl) (by kernel_rfl) (by kernel_rfl) (by kernel_rfl) (fun _ _ _ h=>h) (Or.inl ⟨by rfl,fun w' hSw=>?_⟩) Sa ?_
   ·dsimp only at hSw;go_simp
   try simp only[Act.put,List.setIfInBounds_toArray,List.set_cons_zero,List.set_cons_succ]
   refine anyG_takel (i:=4) (v:=(.agg #[.int .i64 L.k,.int .i64 L.n,.string L.s])) [5,6] rfl (by kernel_rfl) (by kernel_rfl) (by kernel_rfl) (by kernel_rfl) (fun _ _ _ h=>h) (Or.inl ⟨by rfl,fun w' hSw=>?_⟩) Sa ?_
   ·dsimp only at hSw;go_simp
   try simp only[Act.put,List.setIfInBounds_toArray,List.set_cons_zero,List.set_cons_succ]
   clear Sa
   refine anyG_one (i:=5) (by kernel_rfl) ?_
   refine wpOp_lit rfl (by rfl) fun K hK=>?_
   go_simp
   refine unhide hK _ _ ⟨fun _=>((unhide HJ4).later ((Below.refl _ _).drew.alloc (Nat.le_refl _) _)).cells.1,?_⟩
   clear hK K
   refine anyG_one (i:=6) (by kernel_rfl) ?_
   refine wpOp_lit rfl (by rfl) fun K hK=>?_
   refine wp_append_lies _ (.tmp 36) (.tmp 40) 36 (by rfl) w2.heap.size 25 i4 (.agg #[.int .i64 0,.int .i64 0,.string ⟨#[]⟩]) 3 32 Tryz.underlying36 hi4 z40 z41 z42 (by rfl) (by decide) lv Ls.length (Ls.flatMap c3) (by rfl) (World.ownsRow.alloc (World.ownsRow.drew (unhide HJ4).l) _) ⟨w4.heap.size,0,none⟩ 1 1 (c3 L) (by rfl) (by rfl) (cells3_new w4.drew L) (c3_one _) (by decide) (by have:=unhide HaL;unfold maxLen;omega) (by have:=unhide HaL;omega) (by have:=(unhide HJ4).bel.size;simp;omega) (w4.heap.size+1) (by simp) ?_
   intro ga capa wa hown hgrow hat hlt
   have hrow:=rowIs_grown ((unhide HJ4).h.drew.alloc _) hgrow (own_ne (unhide HJ4).h.drew (World.ownsRow.drew (unhide HJ4).l) (by decide))
   have qf:wa.frozen? ⟨H,1,none⟩=false:=World.rowIs.frozen hrow 1
   have qc:=World.rowIs.cell hrow (i:=1) (by decide)
   have HNa:=hide (((unhide HJ4).later (Below.refl _ _).drew).low (x:=L) hown hgrow (by rcases hat with e|e;exact .inl e.symm;exact .inr (by rw[e];simp[Value.ownBlock])))
   clear hown hgrow hat hlt hrow
   refine unhide hK _ _ ⟨fun hh=>absurd hh (by decide),?_⟩
   clear hK K
   refine anyG_one (i:=7) (by kernel_rfl) ?_
   refine wpOp_lit rfl (by rfl) fun K hK=>?_
   go_simp
   refine unhide hK _ _ ⟨fun hh=>absurd hh (by decide),?_⟩
   clear hK K
   refine anyG_one (i:=8) (by kernel_rfl) ?_
   refine wpOp_lit rfl (by rfl) fun K hK=>?_
   go_simp
   refine unhide hK _ _ ⟨fun hh=>absurd hh (by decide),?_⟩
   clear hK K
   refine anyG_done (by kernel_rfl) ?_ _
   refine NoPanic.normal ?_
   clear qc qf HJ4
   obtain⟨w5,hww⟩:∃W,wa.setCell ⟨H,1,none⟩ (.slice (some ⟨ga,0,none⟩) (Ls.length+1) capa)=W:=⟨_,rfl⟩
   rw[hww] at HNa ⊢
   clear hww
   go_upto_region 10 with fail
   have Sb:(fun w':World=>w'.cell? ⟨H,2,none⟩=some hv/\w'.cell? ⟨g4,3,none⟩=some (.int .i64 Gg.k)/\w'.cell? ⟨g4,4,none⟩=some (.int .i64 Gg.n)/\w'.cell? ⟨g4,5,none⟩=some (.string Gg.s)) w5.drew:=((unhide HNa).later (Below.refl _ _).drew).cells.2.1
   refine wp_region_noPanic ?_
   refine wp_region_G (S:=fun w':World=>w'.cell? ⟨H,2,none⟩=some hv/\w'.cell? ⟨g4,3,none⟩=some (.int .i64 Gg.k)/\w'.cell? ⟨g4,4,none⟩=some (.int .i64 Gg.n)/\w'.cell? ⟨g4,5,none⟩=some (.string Gg.s)) (k:=6) (by kernel_rfl) ?_
   refine anyG_takel (i:=0) (v:=(.pointer (some ⟨H,2,none⟩))) [1,6] rfl (by kernel_rfl) (by kernel_rfl) (by kernel_rfl) (by kernel_rfl) (fun _ _ _ h=>h) (Or.inl ⟨by rfl,fun w' hSw=>?_⟩) Sb ?_
   ·dsimp only at hSw;go_simp
   try simp only[Act.put,List.setIfInBounds_toArray,List.set_cons_zero,List.set_cons_succ]
   refine anyG_takel (i:=1) (v:=hv) [6] rfl (by kernel_rfl) (by kernel_rfl) (by kernel_rfl) (by kernel_rfl) (fun _ _ _ h=>h) (Or.inl ⟨by rfl,fun w' hSw=>?_⟩) Sb ?_
   ·dsimp only at hSw;go_simp
   try simp only[Act.put,List.setIfInBounds_toArray,List.set_cons_zero,List.set_cons_succ]
   refine anyG_takel (i:=2) (v:=(.slice (some ⟨g4,0,none⟩) 3 cap4)) [3,4,5,6] rfl (by kernel_rfl) (by kernel_rfl) (by kernel_rfl) (by kernel_rfl) (fun _ _ _ h=>h) (Or.inl ⟨by rfl,fun w' hSw=>?_⟩) Sb ?_
   ·dsimp only at hSw;go_simp
   try simp only[Act.put,List.setIfInBounds_toArray,List.set_cons_zero,List.set_cons_succ]
   refine anyG_takel (i:=3) (v:=(.pointer (some ⟨g4,3,none⟩))) [4,5,6] rfl (by kernel_rfl) (by kernel_rfl) (by kernel_rfl) (by kernel_rfl) (fun _ _ _ h=>h) (Or.inl ⟨by rfl,fun w' hSw=>?_⟩) Sb ?_
   ·dsimp only at hSw;go_simp
   try simp only[Act.put,List.setIfInBounds_toArray,List.set_cons_zero,List.set_cons_succ]
   refine anyG_takel (i:=4) (v:=(.agg #[.int .i64 Gg.k,.int .i64 Gg.n,.string Gg.s])) [5,6] rfl (by kernel_rfl) (by kernel_rfl) (by kernel_rfl) (by kernel_rfl) (fun _ _ _ h=>h) (Or.inl ⟨by rfl,fun w' hSw=>?_⟩) Sb ?_
   ·dsimp only at hSw;go_simp
   try simp only[Act.put,List.setIfInBounds_toArray,List.set_cons_zero,List.set_cons_succ]
   clear Sb
   refine anyG_one (i:=5) (by kernel_rfl) ?_
   refine wpOp_lit rfl (by rfl) fun K hK=>?_
   go_simp
   refine unhide hK _ _ ⟨fun _=>((unhide HNa).later ((Below.refl _ _).drew.alloc (Nat.le_refl _) _)).cells.2.1,?_⟩
   clear hK K
   refine anyG_one (i:=6) (by kernel_rfl) ?_
   refine wpOp_lit rfl (by rfl) fun K hK=>?_
   refine wp_append_lies _ (.tmp 44) (.tmp 48) 36 (by rfl) w2.heap.size 25 i4 (.agg #[.int .i64 0,.int .i64 0,.string ⟨#[]⟩]) 3 32 Tryz.underlying36 hi4 z40 z41 z42 (by rfl) (by decide) hv Gs.length (Gs.flatMap c3) (by rfl) (World.ownsRow.alloc (World.ownsRow.drew (unhide HNa).g) _) ⟨w5.heap.size,0,none⟩ 1 1 (c3 Gg) (by rfl) (by rfl) (cells3_new w5.drew Gg) (c3_one _) (by decide) (by have:=unhide HbL;unfold maxLen;omega) (by have:=unhide HbL;omega) (by have:=(unhide HNa).bel.size;simp;omega) (w5.heap.size+1) (by simp) ?_
   intro gb capb wb hown hgrow hat hlt
   have hrow:=rowIs_grown ((unhide HNa).h.drew.alloc _) hgrow (own_ne (unhide HNa).h.drew (World.ownsRow.drew (unhide HNa).g) (by decide))
   have qf:wb.frozen? ⟨H,2,none⟩=false:=World.rowIs.frozen hrow 2
   have qc:=World.rowIs.cell hrow (i:=2) (by decide)
   have HNb:=hide (((unhide HNa).later (Below.refl _ _).drew).high (x:=Gg) hown hgrow (by rcases hat with e|e;exact .inl e.symm;exact .inr (by rw[e];simp[Value.ownBlock])))
   clear hown hgrow hat hlt hrow
   refine unhide hK _ _ ⟨fun hh=>absurd hh (by decide),?_⟩
   clear hK K
   refine anyG_one (i:=7) (by kernel_rfl) ?_
   refine wpOp_lit rfl (by rfl) fun K hK=>?_
   go_simp
   refine unhide hK _ _ ⟨fun hh=>absurd hh (by decide),?_⟩
   clear hK K
   refine anyG_one (i:=8) (by kernel_rfl) ?_
   refine wpOp_lit rfl (by rfl) fun K hK=>?_
   go_simp
   refine unhide hK _ _ ⟨fun hh=>absurd hh (by decide),?_⟩
   clear hK K
   refine anyG_done (by kernel_rfl) ?_ _
   refine NoPanic.normal ?_
   clear qc qf HNa
   obtain⟨w6,hww⟩:∃W,wb.setCell ⟨H,2,none⟩ (.slice (some ⟨gb,0,none⟩) (Gs.length+1) capb)=W:=⟨_,rfl⟩
   rw[hww] at HNb ⊢
   clear hww
   go_upto_region 11 with fail
   have Sc:(fun w':World=>w'.cell? ⟨H,3,none⟩=some nv/\w'.cell? ⟨g4,7,none⟩=some (.int .i64 ((N:Nat):Int))) w6.drew:=((unhide HNb).later (Below.refl _ _).drew).cells.2.2
   refine wp_region_noPanic ?_
   refine wp_region_G (S:=fun w':World=>w'.cell? ⟨H,3,none⟩=some nv/\w'.cell? ⟨g4,7,none⟩=some (.int .i64 ((N:Nat):Int))) (k:=7) (by kernel_rfl) ?_
   refine anyG_takel (i:=0) (v:=(.pointer (some ⟨H,3,none⟩))) [1,7] rfl (by kernel_rfl) (by kernel_rfl) (by kernel_rfl) (by kernel_rfl) (fun _ _ _ h=>h) (Or.inl ⟨by rfl,fun w' hSw=>?_⟩) Sc ?_
   ·dsimp only at hSw;go_simp
   try simp only[Act.put,List.setIfInBounds_toArray,List.set_cons_zero,List.set_cons_succ]
   refine anyG_takel (i:=1) (v:=nv) [7] rfl (by kernel_rfl) (by kernel_rfl) (by kernel_rfl) (by kernel_rfl) (fun _ _ _ h=>h) (Or.inl ⟨by rfl,fun w' hSw=>?_⟩) Sc ?_
   ·dsimp only at hSw;go_simp
   try simp only[Act.put,List.setIfInBounds_toArray,List.set_cons_zero,List.set_cons_succ]
   refine anyG_takel (i:=2) (v:=(.slice (some ⟨g4,0,none⟩) 3 cap4)) [3,4,5,6,7] rfl (by kernel_rfl) (by kernel_rfl) (by kernel_rfl) (by kernel_rfl) (fun _ _ _ h=>h) (Or.inl ⟨by rfl,fun w' hSw=>?_⟩) Sc ?_
   ·dsimp only at hSw;go_simp
   try simp only[Act.put,List.setIfInBounds_toArray,List.set_cons_zero,List.set_cons_succ]
   refine anyG_takel (i:=3) (v:=(.pointer (some ⟨g4,6,none⟩))) [4,5,6,7] rfl (by kernel_rfl) (by kernel_rfl) (by kernel_rfl) (by kernel_rfl) (fun _ _ _ h=>h) (Or.inl ⟨by rfl,fun w' hSw=>?_⟩) Sc ?_
   ·dsimp only at hSw;go_simp
   try simp only[Act.put,List.setIfInBounds_toArray,List.set_cons_zero,List.set_cons_succ]
   refine anyG_takel (i:=4) (v:=(.pointer (some ⟨g4,7,none⟩))) [5,6,7] rfl (by kernel_rfl) (by kernel_rfl) (by kernel_rfl) (by kernel_rfl) (fun _ _ _ h=>h) (Or.inl ⟨by rfl,fun w' hSw=>?_⟩) Sc ?_
   ·dsimp only at hSw;go_simp
   try simp only[Act.put,List.setIfInBounds_toArray,List.set_cons_zero,List.set_cons_succ]
   refine anyG_takel (i:=5) (v:=(.int .i64 ((N:Nat):Int))) [6,7] rfl (by kernel_rfl) (by kernel_rfl) (by kernel_rfl) (by kernel_rfl) (fun _ _ _ h=>h) (Or.inl ⟨by rfl,fun w' hSw=>?_⟩) Sc ?_
   ·dsimp only at hSw;go_simp
   try simp only[Act.put,List.setIfInBounds_toArray,List.set_cons_zero,List.set_cons_succ]
   clear Sc
   refine anyG_one (i:=6) (by kernel_rfl) ?_
   refine wpOp_lit rfl (by rfl) fun K hK=>?_
   go_simp
   refine unhide hK _ _ ⟨fun _=>((unhide HNb).later ((Below.refl _ _).drew.alloc (Nat.le_refl _) _)).cells.2.2,?_⟩
   clear hK K
   refine anyG_one (i:=7) (by kernel_rfl) ?_
   refine wpOp_lit rfl (by rfl) fun K hK=>?_
   refine wp_append_lies _ (.tmp 52) (.tmp 57) 22 (by rfl) w2.heap.size 3 i3 (.int .i64 0) 1 8 Tryz.underlying22 hi3 z30 z31 z32 (by rfl) (by decide) nv Ns.length (Ns.map (Value.int .i64)) (by rfl) (World.ownsRow.alloc (World.ownsRow.drew (unhide HNb).n) _) ⟨w6.heap.size,0,none⟩ 1 1 [.int .i64 ((N:Nat):Int)] (by rfl) (by rfl) (cell_one_new _ _ _) (by intro u hu;simp at hu;subst hu;rfl) (by decide) (by have:=unhide HcL;unfold maxLen;omega) (by have:=unhide HcL;omega) (by have:=(unhide HNb).bel.size;simp;omega) (w6.heap.size+1) (by simp) ?_
   intro gc capc wc hown hgrow hat hlt
   have hrow:=rowIs_grown ((unhide HNb).h.drew.alloc _) hgrow (own_ne (unhide HNb).h.drew (World.ownsRow.drew (unhide HNb).n) (by decide))
   have qf:wc.frozen? ⟨H,3,none⟩=false:=World.rowIs.frozen hrow 3
   have qc:=World.rowIs.cell hrow (i:=3) (by decide)
   have HNc:=hide (((unhide HNb).later (Below.refl _ _).drew).nul (x:=((N:Nat):Int)) hown hgrow)
   clear hown hgrow hat hlt hrow
   refine unhide hK _ _ ⟨fun hh=>absurd hh (by decide),?_⟩
   clear hK K
   refine anyG_one (i:=8) (by kernel_rfl) ?_
   refine wpOp_lit rfl (by rfl) fun K hK=>?_
   go_simp
   refine unhide hK _ _ ⟨fun hh=>absurd hh (by decide),?_⟩
   clear hK K
   refine anyG_one (i:=9) (by kernel_rfl) ?_
   refine wpOp_lit rfl (by rfl) fun K hK=>?_
   go_simp
   refine unhide hK _ _ ⟨fun hh=>absurd hh (by decide),?_⟩
   clear hK K
   refine anyG_done (by kernel_rfl) ?_ _
   refine NoPanic.normal ?_
   clear qc qf HNb
   obtain⟨w7,hww⟩:∃W,wc.setCell ⟨H,3,none⟩ (.slice (some ⟨gc,0,none⟩) (Ns.length+1) capc)=W:=⟨_,rfl⟩
   rw[hww] at HNc ⊢
   clear hww
   clear HRR HJ
   go_wp2
   go_roundw
   case rel=>
    refine⟨j+1,.slice (some ⟨ga,0,none⟩) (Ls.length+1) capa,.slice (some ⟨gb,0,none⟩) (Gs.length+1) capb,.slice (some ⟨gc,0,none⟩) (Ns.length+1) capc,.slice (some ⟨g4,0,none⟩) 3 cap4,[L,Gg,.num ((N:Nat):Int)],by omega,by go_num,?_⟩
    rw[unhide HTK]
    simp only[List.map_append,List.map_cons,List.map_nil]
    rw[(unhide HEQ).1,(unhide HEQ).2.1,(unhide HEQ).2.2,(unhide HLGN).1,(unhide HLGN).2.1,(unhide HLGN).2.2]
    exact HNc
   case measure=>first | (simp[intOf];omega) | (simp only[intOf];omega)
  ·have hjn2:j=n:=by omega
   subst hjn2
   have ij:¬(j:Int)<(j:Int):=by omega
   have htk:Xs.take j=Xs:=by rw[<-unhide HNN];exact List.take_length
   rw[htk] at HJ
   have hA:=rowIs_later (unhide HA1) (unhide HJ).bel
   obtain⟨al,cl,rfl,_⟩:=ownV_row (unhide HJ).l
   obtain⟨ah,ch,rfl,_⟩:=ownV_row (unhide HJ).g
   obtain⟨an,cn,rfl⟩:=own_shape (unhide HJ).n
   obtain⟨⟨g0,g1,g2,g3⟩,_⟩:=hd4_facts (unhide HJ).h
   obtain⟨⟨a0,a1,a2,a3⟩,q0,q1,q2,q3⟩:=hd4_facts hA
   have hlt:=hA.lt
   have HFIN:=hide (And.intro (own_four (unhide HJ).l hA (by decide)) (And.intro (own_four (unhide HJ).g hA (by decide)) (own_four (unhide HJ).n hA (by decide))))
   have HBL:=hide (below_step (unhide HB) (unhide HJ).bel)
   clear htk hA
   go_wp2
   refine bodyPost_ret (v:=.tuple #[.agg #[.int .i64 (rows:Int),.slice al (Xs.map lowX).length cl,.slice ah (Xs.map highX).length ch,.slice an (Xs.map fun X=>((nulX X:Nat):Int)).length cn],.int .i64 0]) (by simp[results,Tryz.results9,go_sem, *]) rfl ⟨_,_,_,w2.heap.size,rfl,unhide HFIN |>.1 _ _ _ _,unhide HFIN |>.2.1 _ _ _ _,?_,⟨(unhide HB).size,(unhide HJ).lh⟩,put4 (unhide HBL) _ _ _ _⟩
   have:=(unhide HFIN).2.2 (.int .i64 (rows:Int)) (.slice al (Xs.map lowX).length cl) (.slice ah (Xs.map highX).length ch) (.slice an (Xs.map fun X=>((nulX X:Nat):Int)).length cn)
   simp only[List.length_map,List.map_map] at this ⊢
   exact this
end Go.Proofs.YtbfibfmnemnbbaaGreat
