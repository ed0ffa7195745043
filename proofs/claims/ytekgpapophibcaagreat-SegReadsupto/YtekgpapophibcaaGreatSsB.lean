import Derived.Test.YtekgpapophibcaaGreatSrZ
import Derived.Test.YtekgpapophibcaaGreatSsC
set_option linter.unusedSimpArgs false
set_option linter.unusedVariables false
set_option maxHeartbeats 8000000
set_option maxRecDepth 100000
namespace Go.Proofs.YtekgpapophibcaaGreat
open Go.RowKit Go.Sort
theorem zOz{l:List UInt8}(hl:l.length<=140737488300000)(h:∀Xs ps,¬Seg l Xs ps)(w:World):Calls Tryz.prog 8 #[.string (bs l)] w fun e w'=>∃u v,e=.returned (.tuple #[u,v,.bool false])/\Below w.heap.size w w':=by
 refine(zLh l hl w).mono ?_
 rintro e w' (⟨Cs,ps,_,_,_,_,hs,_⟩|⟨_,h2⟩)
 ·exact absurd hs (h _ _)
 ·exact h2
theorem zLg{l:List UInt8}(hl:l.length<=140737488300000){Xs:List Vc}{ps:List (ByteArray×ByteArray)}(h:Seg l Xs ps)(w:World):Calls Tryz.prog 8 #[.string (bs l)] w fun e w'=>∃(Cs:List (Vc×Sl)) (ak ar:Option Addr) (ck cr:Nat),Cs.map Prod.fst=Xs/\e=.returned (.tuple #[.slice ak Xs.length ck,.slice ar (zCn l) cr,.bool true])/\zBZ (zCn l) Cs/\zAp w' ak ((zBk Cs).map (Value.int .i64))/\zCY w' ar (zAn Cs)/\Below w.heap.size w w':=by
 refine(zLh l hl w).mono ?_
 rintro e w' (⟨Cs,qs,ak,ar,ck,cr,hs,rfl,h2⟩|⟨h2,_⟩)
 ·have e:Cs.map Prod.fst=Xs:=(h.one hs.lay hs.len hs.at_).1
  refine⟨Cs,ak,ar,ck,cr,e,?_,h2⟩
  rw[<-e,List.length_map]
 ·exact absurd h (h2 _ _)
theorem zPp{l:List UInt8}(hl:l.length<=140737488300000)(h:∀Xs ps,¬Seg l Xs ps)(w:World):Calls Tryz.prog 14 #[.string (bs l)] w fun e w'=>e=.returned (.tuple #[.agg #[.int .i64 0,.slice none 0 0,.slice none 0 0,.slice none 0 0],.int .i64 2])/\Below w.heap.size w w':=by
 have HO:=zA3 (fun W=>zOz hl h W)
 have HA:=zA3 (zCF w 0 zCq zCq zCq)
 clear h
 go_enter Tryz.func14,Tryz.ntmps14
 go_upto_region 2 with (go_at_call 8;refine(zA0 HO _).mono ?_;rintro _ w2 ⟨u,v,rfl,hb⟩;have QH:=zA3 (zA5 (zA0 HA) hb);have HB:=zA3 (zA2 (zA1 (Below.refl _ w) _) hb);clear hb)
 obtain⟨⟨a0,a1,a2,a3⟩,q0,q1,q2,q3⟩:=zBX (zA0 QH)
 go_wp2
 refine bodyPost_ret (v:=.tuple #[.agg #[.int .i64 0,.slice none 0 0,.slice none 0 0,.slice none 0 0],.int .i64 2]) (by simp[results,Tryz.results14,go_sem, *]) rfl ⟨rfl,put4 (zA0 HB) _ _ _ _⟩
theorem zNB{l:List UInt8}(hl:l.length<=140737488300000){Xs:List Vc}{ps:List (ByteArray×ByteArray)}(h:Seg l Xs ps)(w:World):Calls Tryz.prog 14 #[.string (bs l)] w fun e w'=>zNa w w' Xs (zCn l) e:=by
 obtain⟨i4,Qd,z40,z41,z42⟩:=info_parts Tryz.info59
 obtain⟨i3,Tm,z30,z31,z32⟩:=info_parts Tryz.info3'
 have HO:=zA3 (fun W=>zLg hl h W)
 have hn:=h.lay.len
 have JD:=h.lay.n2
 have h1:=h.lay.n1
 rw[<-hn] at JD h1
 have Yp:=h.lay.rows
 have HFIT:Hid (∀(j:Nat) (X:Vc),Xs[j]?=some X->Fit (zCn l) X):=fun j X hX=>h.lay.fit (List.mem_of_getElem? hX)
 have HR:Hid (∀(j:Nat) (X:Vc),Xs[j]?=some X->∀p W,zAi W X p->Calls Tryz.prog 35 #[.agg #[.int .i64 X.k,.slice p.a1 X.nl.length p.c1,.slice p.a2 X.ns.length p.c2,.slice p.a3 X.ss.length p.c3]] W fun e w'=>e=.returned (.tuple #[(zHI X).v,(zDK X).v,.int .i64 (zGD X:Nat)])/\Below W.heap.size W w'):=fun j X hX p W hv=>by
  have hf:=zA0 HFIT j X hX
  exact zJR X p W hf.small hv rfl (fun x hx=>zD0 hf.good hx) (by rw[hf.vlen];exact hf.le)
 obtain⟨rows,QZ⟩:∃rows,zCn l=rows:=⟨_,rfl⟩
 rw[QZ] at HO Yp ⊢
 obtain⟨n,Yb⟩:∃n,Xs.length=n:=⟨_,rfl⟩
 rw[Yb] at HO JD h1
 have QS:=zA3 Yb
 have HA:=zA3 (zCF w 0 zCq zCq zCq)
 clear h hn Yb QZ HFIT
 have i32:(n:Int)<=32:=by omega
 have irw:(rows:Int)<=4096:=by omega
 go_enter Tryz.func14,Tryz.ntmps14
 go_upto_region 5 with (go_at_call 8;refine(zA0 HO _).mono ?_;rintro _ w2 ⟨Cs,ak,ar,ck,cr,hX,rfl,GW,Yq,QB,hb⟩;have HX:=zA3 hX;have Dx:=zA3 GW;have Yt:=zA3 Yq;have qd:=zA3 QB;have QH:=zA3 (zA5 (zA0 HA) hb);have HB:=zA3 (zA2 (zA1 (Below.refl _ w) _) hb);clear hX GW Yq QB hb)
 have Dd:Cs.length=n:=by have:=zA0 HX;rw[<-zA0 QS,<-this,List.length_map]
 have Dw:Hid (∀W,Below w2.heap.size w2 W->Calls Tryz.prog 33 #[.slice ak n ck,.slice ar rows cr] W fun e w'=>∃(a:Option Addr) (c:Nat) (Ds:List (Vc×Sl)),e=.returned (.slice a n c)/\Ds.map Prod.fst=Xs/\zBq w' a Ds/\(∀ad,a=some ad->W.heap.size<=ad.block)/\(∀d∈Ds,zBb W.heap.size d.2)/\Below W.heap.size W w'):=fun W hW=>by
  have hk:=zA0 Dx
  have Yd:(zAn Cs).length=rows:=hk.rows (by omega)
  have:=zFP (zBk Cs) ak ck (zAn Cs) ar cr W (by rw[zB3];omega) (by omega) (fun r hr=>by rw[(zFh hk hr).1,zB3]) ((zA0 Yt).later hW) ((zA0 qd).later hW)
  rw[zB3,Dd,Yd] at this
  refine this.mono ?_
  rintro e w' ⟨⟨a,c,Ds,rfl,h1,h2,h3,h5,h6⟩,h4⟩
  rw[zB3,Dd] at h1
  refine⟨a,c,Ds,by rw[zB3,Dd],?_,h3,h5,h6,h4⟩
  rw[<-zA0 HX]
  refine List.ext_getElem (by simp[h1,Dd]) fun i g1 g2=>?_
  simp only[List.getElem_map]
  have g3:i<Cs.length:=by simpa using g2
  have g4:i<Ds.length:=by simpa using g1
  rw[h2 i _ (zAf g4),hk.colX (zAf g3)]
 clear HO HA Dd
 go_upto_region 6 with (go_at_call 33;refine(zA0 Dw _ (zA1 (Below.refl _ _) _)).mono ?_;rintro _ w4 ⟨a,c,Ds,rfl,hD,Qq,Qo,Gn,Qe⟩;have HD:=zA3 hD;have HCA:=zA3 (And.intro Qq (And.intro Qo Gn));have DB:=zA3 Qe;clear hD Qq Qo Gn Qe)
 have hH:=zA5 (zCF w2 (rows:Int) zCq zCq zCq) (zA0 DB)
 obtain⟨H,hHH⟩:∃H,w2.heap.size=H:=⟨_,rfl⟩
 have QK:(w2.alloc (.cells #[.int .i64 (rows:Int),.slice none 0 0,.slice none 0 0,.slice none 0 0] 39)).heap.size=H+1:=by simp[hHH]
 have HHW:Hid (w.heap.size<=H/\w.heap.size+1<=w2.heap.size):=by
  have:=(zA0 QH).lt
  exact⟨by omega,this⟩
 have yo:Hid (Below w.heap.size w w4):=zA2 (zA1 (zA0 HB) _) (zA0 DB)
 have HA4:Hid (w4.rowIs w.heap.size 39 4 (hd4 0 zCq zCq zCq)):=zA5 ((zA0 QH).alloc _) (zA0 DB)
 have hDn:Ds.length=n:=by have:=zA0 HD;rw[<-zA0 QS,<-this,List.length_map]
 have HDN:=zA3 hDn
 have HCOLS:Hid (∀wr,Gr w4 wr H->zBq wr a Ds):=fun wr hg=>by
  obtain⟨h1,h2,h3⟩:=zA0 HCA
  rw[QK] at h2 h3
  exact zG8 h1 h2 h3 fun i hi He=>hg.block i He (fun e=>by injection e with e;omega)
 have QQ:Hid (HV w4 w4 H rows zCq zCq zCq [] [] []):=⟨by rw[<-hHH];exact hH,World.ownsRow_nil _ _ _ _,World.ownsRow_nil _ _ _ _,World.ownsRow_nil _ _ _ _,.inl rfl,Gr.refl _ _⟩
 rw[hHH]
 clear hH QK DB HCA Dw Yt qd hDn
 go_loopw[29] (fun s wr=>∃(j:Nat) (lv hv nv:Value),j<=n/\s=.int .i64 (j:Int)/\Hid (HV w4 wr H rows lv hv nv ((Xs.take j).map zHI) ((Xs.take j).map zDK) ((Xs.take j).map fun X=>((zGD X:Nat):Int)))) (fun s _=>n-(intOf s).toNat)
 case atStart=>exact⟨0,_,_,_,Nat.zero_le _,rfl,QQ⟩
 case round=>
  obtain⟨j,lv,hv,nv,hj,rfl,HJ⟩:=hrel
  clear QQ
  by_cases Jw:j<n
  ·have ij:(j:Int)<(n:Int):=by omega
   have FW:j<Xs.length:=by rw[zA0 QS];exact Jw
   obtain⟨X,hX⟩:∃X,Xs[j]?=some X:=⟨_,zAf FW⟩
   have hTK:Xs.take (j+1)=Xs.take j++[X]:=by
    obtain⟨h1,rfl⟩:=zAL hX
    exact List.take_succ_eq_append_getElem h1
   have JY:=zA3 hTK
   obtain⟨d,hd⟩:∃d,Ds[j]?=some d:=⟨_,zAf (by rw[zA0 HDN];exact Jw)⟩
   have DX:d.1=X:=by
    have h1:(Ds.map Prod.fst)[j]?=some d.1:=by rw[List.getElem?_map,hd];rfl
    rw[zA0 HD,hX] at h1
    injection h1 with h1
    exact h1.symm
   have DY:=zA0 HCOLS wr (zA0 HJ).kp
   obtain⟨bz,oz,rfl,k0,k1,k2,k3⟩:=zIn DY hd
   have hvd:=DY.2 d (List.mem_of_getElem? hd)
   obtain⟨Y,p⟩:=d
   simp only at DX k0 k1 k2 k3 hvd
   subst DX
   have HVD:=zA3 hvd
   have QR:Hid (∀W,Below wr.heap.size wr W->Calls Tryz.prog 35 #[.agg #[.int .i64 Y.k,.slice p.a1 Y.nl.length p.c1,.slice p.a2 Y.ns.length p.c2,.slice p.a3 Y.ss.length p.c3]] W fun e w'=>e=.returned (.tuple #[.agg #[.int .i64 (zHI Y).k,.int .i64 (zHI Y).n,.string (zHI Y).s],.agg #[.int .i64 (zDK Y).k,.int .i64 (zDK Y).n,.string (zDK Y).s],.int .i64 (zGD Y:Nat)])/\Below W.heap.size W w'):=fun W hW=>zA0 HR j Y hX p W (hvd.later hW)
   have Hf:(Xs.take j).length=j:=by rw[List.length_take];omega
   obtain⟨Ls,TZ⟩:∃Ls,(Xs.take j).map zHI=Ls:=⟨_,rfl⟩
   obtain⟨Gs,Db⟩:∃Gs,(Xs.take j).map zDK=Gs:=⟨_,rfl⟩
   obtain⟨Ns,TY⟩:∃Ns,(Xs.take j).map (fun X=>((zGD X:Nat):Int))=Ns:=⟨_,rfl⟩
   have HaL:Hid (Ls.length<=32):=by show _<=_;rw[<-TZ,List.length_map];omega
   have HbL:Hid (Gs.length<=32):=by show _<=_;rw[<-Db,List.length_map];omega
   have HcL:Hid (Ns.length<=32):=by show _<=_;rw[<-TY,List.length_map];omega
   have qP:=zA3 (And.intro TZ (And.intro Db TY))
   rw[TZ,Db,TY] at HJ
   obtain⟨L,hL⟩:∃L,zHI Y=L:=⟨_,rfl⟩
   obtain⟨Gg,hG⟩:∃Gg,zDK Y=Gg:=⟨_,rfl⟩
   obtain⟨N,hN⟩:∃N,zGD Y=N:=⟨_,rfl⟩
   have JI:=zA3 (And.intro hL (And.intro hG hN))
   rw[hL,hG,hN] at QR
   clear hTK hX FW Hf TZ Db TY hL hG hN DY hd hvd
   go_upto_block 1 with fail
   go_cut[] (fun wx=>∃lv' Tg nv',Hid (HV w4 wx H rows lv' Tg nv' (Ls++[L]) (Gs++[Gg]) (Ns++[(N:Int)])))
   case first=>
    go_upto_region 9 with (go_at_call 35;refine(zA0 QR _ (zA1 (Below.refl _ _) _)).mono ?_;rintro _ w5 ⟨rfl,QO⟩;have HU0:=zA3 (((zA0 HJ).later (zAP QO)).unit L Gg (N:Int));clear QO)
    obtain⟨B2,Ge⟩:∃b,w5.heap.size+1=b:=⟨_,rfl⟩
    obtain⟨B1,GH⟩:∃b,w5.heap.size=b:=⟨_,rfl⟩
    obtain⟨W,hW⟩:∃W,(w5.alloc (.cells #[.int .i64 L.k,.int .i64 L.n,.string L.s] 59)).alloc (.cells #[.int .i64 Gg.k,.int .i64 Gg.n,.string Gg.s] 59)=W:=⟨_,rfl⟩
    rw[Ge,GH,hW] at HU0
    rw[Ge,GH,hW]
    have HU:=zA3 ((zA0 HU0).later (Below.refl _ _).drew)
    clear GH Ge hW HU0
    refine wp_region_noPanic ?_
    refine zAu (S:=SH H B1 B2 lv hv nv L Gg) (k:=16) (by kernel_rfl) ?_
    obtain⟨W3,hW3⟩:∃W3,W.drew=W3:=⟨_,rfl⟩
    change zJ2 _ _ _ _ _ _ _ _ _ W.drew
    rw[hW3] at HU ⊢
    clear hW3 W
    rename World=>W
    refine zA6 (i:=0) (v:=(.pointer (some ⟨H,1,none⟩))) [1,4,9,14,16] rfl (fun _ _ _ h=>h) (Or.inl ⟨by rfl,fun w' hSw=>?_⟩) (zA0 HU).sh ?_
    ·obtain⟨⟨s1,s2,s3⟩,⟨s4,s5,s6⟩,s7,s8,s9⟩:=hSw;go_simp
    try simp only[Act.put,zAI,zAH,zAG]
    refine zA6 (i:=1) (v:=lv) [4,9,14,16] rfl (fun _ _ _ h=>h) (Or.inl ⟨by rfl,fun w' hSw=>?_⟩) (zA0 HU).sh ?_
    ·obtain⟨⟨s1,s2,s3⟩,⟨s4,s5,s6⟩,s7,s8,s9⟩:=hSw;go_simp
    try simp only[Act.put,zAI,zAH,zAG]
    refine zA6 (i:=2) (v:=(.agg #[.int .i64 L.k,.int .i64 L.n,.string L.s])) [3,4,9,14,16] rfl (fun _ _ _ h=>h) (Or.inl ⟨by rfl,fun w' hSw=>?_⟩) (zA0 HU).sh ?_
    ·obtain⟨⟨s1,s2,s3⟩,⟨s4,s5,s6⟩,s7,s8,s9⟩:=hSw;go_simp
    try simp only[Act.put,zAI,zAH,zAG]
    refine zA6 (i:=5) (v:=(.pointer (some ⟨H,2,none⟩))) [6,9,14,16] rfl (fun _ _ _ h=>h) (Or.inl ⟨by rfl,fun w' hSw=>?_⟩) (zA0 HU).sh ?_
    ·obtain⟨⟨s1,s2,s3⟩,⟨s4,s5,s6⟩,s7,s8,s9⟩:=hSw;go_simp
    try simp only[Act.put,zAI,zAH,zAG]
    refine zA6 (i:=6) (v:=hv) [9,14,16] rfl (fun _ _ _ h=>h) (Or.inl ⟨by rfl,fun w' hSw=>?_⟩) (zA0 HU).sh ?_
    ·obtain⟨⟨s1,s2,s3⟩,⟨s4,s5,s6⟩,s7,s8,s9⟩:=hSw;go_simp
    try simp only[Act.put,zAI,zAH,zAG]
    refine zA6 (i:=7) (v:=(.agg #[.int .i64 Gg.k,.int .i64 Gg.n,.string Gg.s])) [8,9,14,16] rfl (fun _ _ _ h=>h) (Or.inl ⟨by rfl,fun w' hSw=>?_⟩) (zA0 HU).sh ?_
    ·obtain⟨⟨s1,s2,s3⟩,⟨s4,s5,s6⟩,s7,s8,s9⟩:=hSw;go_simp
    try simp only[Act.put,zAI,zAH,zAG]
    refine zA6 (i:=10) (v:=(.pointer (some ⟨H,3,none⟩))) [11,14,16] rfl (fun _ _ _ h=>h) (Or.inl ⟨by rfl,fun w' hSw=>?_⟩) (zA0 HU).sh ?_
    ·obtain⟨⟨s1,s2,s3⟩,⟨s4,s5,s6⟩,s7,s8,s9⟩:=hSw;go_simp
    try simp only[Act.put,zAI,zAH,zAG]
    refine zA6 (i:=11) (v:=nv) [14,16] rfl (fun _ _ _ h=>h) (Or.inl ⟨by rfl,fun w' hSw=>?_⟩) (zA0 HU).sh ?_
    ·obtain⟨⟨s1,s2,s3⟩,⟨s4,s5,s6⟩,s7,s8,s9⟩:=hSw;go_simp
    try simp only[Act.put,zAI,zAH,zAG]
    refine zA6 (i:=12) (v:=(.int .i64 (N:Int))) [13,14,16] rfl (fun _ _ _ h=>h) (Or.inl ⟨by rfl,fun w' hSw=>?_⟩) (zA0 HU).sh ?_
    ·obtain⟨⟨s1,s2,s3⟩,⟨s4,s5,s6⟩,s7,s8,s9⟩:=hSw;go_simp
    try simp only[Act.put,zAI,zAH,zAG]
    iterate 6
     all_goals (first
      | (refine zBF [3,8,13] (by decide +kernel) (by simp) ?_;intro i hi;simp only[List.mem_cons,List.not_mem_nil,or_false] at hi;rcases hi with rfl|rfl|rfl)
      | (refine zBF [4,8,13] (by decide +kernel) (by simp) ?_;intro i hi;simp only[List.mem_cons,List.not_mem_nil,or_false] at hi;rcases hi with rfl|rfl|rfl)
      | (refine zBF [3,8] (by decide +kernel) (by simp) ?_;intro i hi;simp only[List.mem_cons,List.not_mem_nil,or_false] at hi;rcases hi with rfl|rfl)
      | (refine zBF [3,13] (by decide +kernel) (by simp) ?_;intro i hi;simp only[List.mem_cons,List.not_mem_nil,or_false] at hi;rcases hi with rfl|rfl)
      | (refine zBF [4,8] (by decide +kernel) (by simp) ?_;intro i hi;simp only[List.mem_cons,List.not_mem_nil,or_false] at hi;rcases hi with rfl|rfl)
      | (refine zBF [4,13] (by decide +kernel) (by simp) ?_;intro i hi;simp only[List.mem_cons,List.not_mem_nil,or_false] at hi;rcases hi with rfl|rfl)
      | (refine zBF [8,13] (by decide +kernel) (by simp) ?_;intro i hi;simp only[List.mem_cons,List.not_mem_nil,or_false] at hi;rcases hi with rfl|rfl)
      | (refine zBF [9,13] (by decide +kernel) (by simp) ?_;intro i hi;simp only[List.mem_cons,List.not_mem_nil,or_false] at hi;rcases hi with rfl|rfl)
      | refine zA7 (i:=3) (by decide +kernel) ?_
      | refine zA7 (i:=4) (by decide +kernel) ?_
      | refine zA7 (i:=8) (by decide +kernel) ?_
      | refine zA7 (i:=9) (by decide +kernel) ?_
      | refine zA7 (i:=13) (by decide +kernel) ?_
      | refine zA7 (i:=14) (by decide +kernel) ?_)
     all_goals (first
      | (refine zA4 (i := 3) rfl (by rfl) fun K hK => ?_
         go_simp
         have Zo := zA3 (zA0 HU).new3
         refine zA0 hK _ _ ⟨fun _ => (zA0 Zo).sh, ?_⟩
         obtain ⟨T3, hT⟩ : ∃ T, W.heap.size = T := ⟨_, rfl⟩
         obtain ⟨W2, Yz⟩ : ∃ W2, W.alloc (.cells #[.int .i64 L.k, .int .i64 L.n, .string L.s] 59) = W2 := ⟨_, rfl⟩
         rw [hT, Yz] at Zo
         rw [hT, Yz]
         clear hK K HU hT Yz W
         rename World => W
         have HU := Zo
         clear Zo)
      | (refine zA4 (i := 4) rfl (by rfl) fun K hK => ?_
         refine wp_append_lies _ (.tmp 40) (.tmp 42) 37 (by rfl) w4.heap.size 59 i4 (.agg #[.int .i64 0, .int .i64 0, .string ⟨#[]⟩]) 3 32 Tryz.underlying37 Qd z40 z41 z42 (by rfl) (by decide) lv Ls.length (Ls.flatMap c3) (by rfl) (zA0 HU).l ⟨T3, 0, none⟩ 1 1 (c3 L) (by rfl) (by rfl) (zUC ((zA0 HU).t3 T3 rfl).1) (zBY _) (by decide) (by have := zA0 HaL; unfold maxLen; omega) (by have := zA0 HaL; omega) (zA0 HU).kp.size W.heap.size rfl ?_
         intro ga capa wa Hd Hr Hm He
         have Zo := zA3 ((zA0 HU).low Hd Hr (by rcases Hm with e | e; exact .inl e.symm; exact .inr (by rw [e]; rfl)))
         clear Hd Hr Hm He
         refine zA0 hK _ _ ⟨fun _ => (zA0 Zo).sh, ?_⟩
         clear hK K HU W
         rename World => W
         have HU := Zo
         clear Zo)
      | (refine zA4 (i := 8) rfl (by rfl) fun K hK => ?_
         go_simp
         have Zo := zA3 (zA0 HU).new8
         refine zA0 hK _ _ ⟨fun _ => (zA0 Zo).sh, ?_⟩
         obtain ⟨T8, hT⟩ : ∃ T, W.heap.size = T := ⟨_, rfl⟩
         obtain ⟨W2, Yz⟩ : ∃ W2, W.alloc (.cells #[.int .i64 Gg.k, .int .i64 Gg.n, .string Gg.s] 59) = W2 := ⟨_, rfl⟩
         rw [hT, Yz] at Zo
         rw [hT, Yz]
         clear hK K HU hT Yz W
         rename World => W
         have HU := Zo
         clear Zo)
      | (refine zA4 (i := 9) rfl (by rfl) fun K hK => ?_
         refine wp_append_lies _ (.tmp 45) (.tmp 47) 37 (by rfl) w4.heap.size 59 i4 (.agg #[.int .i64 0, .int .i64 0, .string ⟨#[]⟩]) 3 32 Tryz.underlying37 Qd z40 z41 z42 (by rfl) (by decide) hv Gs.length (Gs.flatMap c3) (by rfl) (zA0 HU).g ⟨T8, 0, none⟩ 1 1 (c3 Gg) (by rfl) (by rfl) (zUC ((zA0 HU).t8 T8 rfl).1) (zBY _) (by decide) (by have := zA0 HbL; unfold maxLen; omega) (by have := zA0 HbL; omega) (zA0 HU).kp.size W.heap.size rfl ?_
         intro gb capb wa Hd Hr Hm He
         have Zo := zA3 ((zA0 HU).high Hd Hr (by rcases Hm with e | e; exact .inl e.symm; exact .inr (by rw [e]; rfl)))
         clear Hd Hr Hm He
         refine zA0 hK _ _ ⟨fun _ => (zA0 Zo).sh, ?_⟩
         clear hK K HU W
         rename World => W
         have HU := Zo
         clear Zo)
      | (refine zA4 (i := 13) rfl (by rfl) fun K hK => ?_
         go_simp
         have Zo := zA3 (zA0 HU).new13
         refine zA0 hK _ _ ⟨fun _ => (zA0 Zo).sh, ?_⟩
         obtain ⟨T13, hT⟩ : ∃ T, W.heap.size = T := ⟨_, rfl⟩
         obtain ⟨W2, Yz⟩ : ∃ W2, W.alloc (.cells #[.int .i64 (N : Int)] 3) = W2 := ⟨_, rfl⟩
         rw [hT, Yz] at Zo
         rw [hT, Yz]
         clear hK K HU hT Yz W
         rename World => W
         have HU := Zo
         clear Zo)
      | (refine zA4 (i := 14) rfl (by rfl) fun K hK => ?_
         refine wp_append_lies _ (.tmp 50) (.tmp 52) 22 (by rfl) w4.heap.size 3 i3 (.int .i64 0) 1 8 Tryz.underlying22 Tm z30 z31 z32 (by rfl) (by decide) nv Ns.length (Ns.map (Value.int .i64)) (by rfl) (zA0 HU).n ⟨T13, 0, none⟩ 1 1 [.int .i64 (N : Int)] (by rfl) (by rfl) (zUn ((zA0 HU).t13 T13 rfl).1) (by intro u hu; simp at hu; subst hu; rfl) (by decide) (by have := zA0 HcL; unfold maxLen; omega) (by have := zA0 HcL; omega) (zA0 HU).kp.size W.heap.size rfl ?_
         intro gc capc wa Hd Hr Hm He
         have Zo := zA3 ((zA0 HU).nul Hd Hr (by rcases Hm with e | e; exact .inl e.symm; exact .inr (by rw [e]; rfl)))
         clear Hd Hr Hm He
         refine zA0 hK _ _ ⟨fun _ => (zA0 Zo).sh, ?_⟩
         clear hK K HU W
         rename World => W
         have HU := Zo
         clear Zo))
     all_goals (try simp only[Act.put,zAI,zAH,zAG])
     all_goals (try (refine zC7 (i:=15) (v:=(.pointer (some ⟨H,1,none⟩))) [16] rfl (by decide +kernel) (by decide +kernel) (by decide +kernel) (by decide +kernel) (fun _ _ _ h=>h) (Or.inl ⟨by rfl,fun w' hSw=>by go_simp⟩) (zA0 HU).sh ?_;simp only[Act.put,zAI,zAH,zAG]))
    all_goals
     (obtain ⟨⟨a0, a1, a2, a3⟩, q0, q1, q2, q3⟩ := zBX (zA0 HU).h
      have HF := zA3 (zA0 HU).done
      refine zA7 (i := 16) (by kernel_rfl) ?_
      refine zA4 rfl (by rfl) fun K hK => ?_
      go_simp
      refine zA0 hK _ _ ⟨fun hh => absurd hh (by decide), ?_⟩
      clear hK K
      refine zA7 (i := 17) (by kernel_rfl) ?_
      refine zA4 rfl (by rfl) fun K hK => ?_
      go_simp
      refine zA0 hK _ _ ⟨fun hh => absurd hh (by decide), ?_⟩
      clear hK K
      refine zA7 (i := 18) (by kernel_rfl) ?_
      refine zA4 rfl (by rfl) fun K hK => ?_
      go_simp
      refine zA0 hK _ _ ⟨fun hh => absurd hh (by decide), ?_⟩
      clear hK K
      refine zA7 (i := 19) (by kernel_rfl) ?_
      refine zA4 rfl (by rfl) fun K hK => ?_
      go_simp
      refine zA0 hK _ _ ⟨fun hh => absurd hh (by decide), ?_⟩
      clear hK K
      refine zA7 (i := 20) (by kernel_rfl) ?_
      refine zA4 rfl (by rfl) fun K hK => ?_
      go_simp
      refine zA0 hK _ _ ⟨fun hh => absurd hh (by decide), ?_⟩
      clear hK K
      refine zAl (by kernel_rfl) ?_ _
      refine NoPanic.normal ?_
      clear a0 a1 a2 a3 q0 q1 q2 q3 HU
      go_wp2
      go_meet
      exact ⟨_, _, _, HF⟩)
   case rest=>
    obtain⟨lv',Tg,nv',HJ2⟩:=hcut
    clear HJ QR HVD
    go_wp2
    go_roundw
    case rel=>
     refine⟨j+1,lv',Tg,nv',by omega,by go_num,?_⟩
     rw[zA0 JY]
     simp only[List.map_append,List.map_cons,List.map_nil]
     rw[(zA0 qP).1,(zA0 qP).2.1,(zA0 qP).2.2,(zA0 JI).1,(zA0 JI).2.1,(zA0 JI).2.2]
     exact HJ2
    case measure=>first | (simp[intOf];omega) | (simp only[intOf];omega)
  ·have yL:j=n:=by omega
   subst yL
   have ij:¬(j:Int)<(j:Int):=by omega
   have Gx:Xs.take j=Xs:=by rw[<-zA0 QS];exact List.take_length
   rw[Gx] at HJ
   have hA:=zAF (zA0 HA4) (zA0 HJ).kp (fun e=>by injection e with e;have:=(zA0 HHW).2;omega)
   obtain⟨al,cl,rfl,_⟩:=zBy (zA0 HJ).l
   obtain⟨ah,ch,rfl,_⟩:=zBy (zA0 HJ).g
   obtain⟨an,cn,rfl⟩:=zCj (zA0 HJ).n
   obtain⟨⟨g0,g1,g2,g3⟩,_⟩:=zBX (zA0 HJ).h
   obtain⟨⟨a0,a1,a2,a3⟩,q0,q1,q2,q3⟩:=zBX hA
   have He:=hA.lt
   have ZN:=zA3 (And.intro (zEa (zA0 HJ).l hA (by decide)) (And.intro (zEa (zA0 HJ).g hA (by decide)) (zEa (zA0 HJ).n hA (by decide))))
   have QW:=zA3 ((zA0 yo).trans (zAd (zA0 HJ).kp (zA0 yo).size (fun g e=>by injection e with e;have:=(zA0 HHW).1;omega)))
   clear Gx hA
   go_wp2
   refine bodyPost_ret (v:=.tuple #[.agg #[.int .i64 (rows:Int),.slice al (Xs.map zHI).length cl,.slice ah (Xs.map zDK).length ch,.slice an (Xs.map fun X=>((zGD X:Nat):Int)).length cn],.int .i64 0]) (by simp[results,Tryz.results14,go_sem, *]) rfl ⟨_,_,_,w4.heap.size,rfl,zA0 ZN |>.1 _ _ _ _,zA0 ZN |>.2.1 _ _ _ _,?_,put4 (zA0 QW) _ _ _ _⟩
   have:=(zA0 ZN).2.2 (.int .i64 (rows:Int)) (.slice al (Xs.map zHI).length cl) (.slice ah (Xs.map zDK).length ch) (.slice an (Xs.map fun X=>((zGD X:Nat):Int)).length cn)
   simp only[List.length_map,List.map_map] at this ⊢
   exact this
end Go.Proofs.YtekgpapophibcaaGreat
