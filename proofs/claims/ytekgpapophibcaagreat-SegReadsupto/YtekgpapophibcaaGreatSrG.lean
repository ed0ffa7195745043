import Derived.Test.YtekgpapophibcaaGreatRyZ
import Derived.Test.YtekgpapophibcaaGreatSrC
set_option linter.unusedSimpArgs false
set_option linter.unusedVariables false
set_option maxHeartbeats 4000000
set_option maxRecDepth 100000
namespace Go.Proofs.YtekgpapophibcaaGreat
open Go.RowKit Go.Sort
theorem LD.start{w w3:World}{r:List UInt8}(h:LB w w3 r)(m n:Nat):LD w ((w3.alloc (.cells #[.int .i64 (m:Int),.slice none 0 0,.slice none 0 0] 89)).alloc (.cells (madeCells #[.int .u64 0] n) 73)) w3.heap.size (w3.heap.size+1) n m zCq [] [] r:=by
 have h1:(w3.alloc (.cells #[.int .i64 (m:Int),.slice none 0 0,.slice none 0 0] 89)).rowIs w3.heap.size 89 3 (zT2 m zCq zCq):=World.rowIs_alloc w3 _ 89 _ (fun i hi=>by
  match i,hi with
  | 0,_=>rfl
  | 1,_=>rfl
  | 2,_=>rfl
  | n+3,h=>have:n+3<3:=h;omega)
 have h2:=World.rowIs_made (w3.alloc (.cells #[.int .i64 (m:Int),.slice none 0 0,.slice none 0 0] 89)) (.int .u64 0) n 73
 have e:(w3.alloc (.cells #[.int .i64 (m:Int),.slice none 0 0,.slice none 0 0] 89)).heap.size=w3.heap.size+1:=by simp
 rw[e] at h2
 have lw:=h.rd.lt
 exact⟨⟨(h.rd.alloc _).alloc _,(h.res.alloc _).alloc _,zA1 (zA1 h.bel _) _⟩,h1.alloc _,World.ownsRow_nil _ _ _ _,World.rowIs.congr h2 (fun i hi=>by simp),lw,by omega⟩
theorem LD.cell{w wr:World}{G S n rows:Nat}{zv:Value}{zs:List ByteArray}{ss:List Nat}{r:List UInt8}(h:LD w wr G S n rows zv zs ss r):wr.cell? ⟨G,1,none⟩=some zv:=World.rowIs.cell h.g (i:=1) (by decide)
theorem zRh(l:List UInt8)(hl:l.length<=140737488300000)(TK:1<=zCm l)(TJ:zCm l<=32)(w:World):Calls Tryz.prog 71 #[.string (bs l)] w fun e w'=>zUr w w' l e:=by
 obtain⟨i6,YL,z60,z61,z62⟩:=info_parts Tryz.info73
 obtain⟨i2,ZY,z20,z21,z22⟩:=info_parts Tryz.info9
 obtain⟨j4,FI,y40,y41,y42⟩:=info_parts Tryz.info49'
 obtain⟨n,hN⟩:∃n,zCm l=n:=⟨_,rfl⟩
 obtain⟨m,hR⟩:∃m,zCn l=m:=⟨_,rfl⟩
 have hm:m<4294967296:=by
  rw[<-hR];exact zQP (n:=4)
 have im:(m:Int)<4294967296:=by omega
 rw[hN] at TK TJ
 have i1:((n:Int)<1)=False:=by simp only[eq_iff_iff,iff_false];omega
 have i2':((32:Int)<(n:Int))=False:=by simp only[eq_iff_iff,iff_false];omega
 have HT:Hid (∀W,LB w W l->Calls Tryz.prog 92 #[.pointer (some ⟨w.heap.size+1,0,none⟩),.int .u64 2] W fun e w'=>(∃t,e=.returned (.string t))/\LB w w' (l.drop 2)):=fun W h=>by
  refine(zLX _ 2 l W h.rd hl (by omega)).mono ?_
  rintro e w' ⟨rfl,h1,h2⟩
  exact⟨⟨_,rfl⟩,h.gr h1 h2⟩
 have H1:Hid (∀W,LB w W (l.drop 2)->Calls Tryz.prog 93 #[.pointer (some ⟨w.heap.size+1,0,none⟩),.int .u64 1] W fun e w'=>e=.returned (.int .u64 (n:Int))/\LB w w' ((l.drop 2).drop 1)):=fun W h=>by
  refine(zTt _ 1 (l.drop 2) W h.rd (by rw[List.length_drop];omega) (by omega)).mono ?_
  rintro e w' ⟨rfl,h1,h2⟩
  exact⟨by rw[<-hN];rfl,h.gr h1 h2⟩
 obtain⟨l0,DQ⟩:∃l0,((l.drop 2).drop 1).drop 4=l0:=⟨_,rfl⟩
 have H4:Hid (∀W,LB w W ((l.drop 2).drop 1)->Calls Tryz.prog 93 #[.pointer (some ⟨w.heap.size+1,0,none⟩),.int .u64 4] W fun e w'=>e=.returned (.int .u64 (m:Int))/\LB w w' l0):=fun W h=>by
  refine(zTt _ 4 _ W h.rd (by simp only[List.length_drop];omega) (by omega)).mono ?_
  rintro e w' ⟨rfl,h1,h2⟩
  exact⟨by rw[<-hR];rfl,by rw[<-DQ];exact h.gr h1 h2⟩
 have FE:l0.length<=140737488300000:=by rw[<-DQ];simp only[List.length_drop];omega
 have HS:=zA3 (LB.start w l)
 have QS:=zA3 hN
 have QR:=zA3 hR
 have JK:=zA3 DQ
 clear hN hR DQ
 have GK:=zA3 (And.intro TK TJ)
 clear TK TJ hm
 go_enter Tryz.func71,Tryz.ntmps71
 go_wp2_with (first
  | (go_at_call 92;refine(zA0 HT _ (zA0 HS)).mono ?_;rintro _ w1 ⟨⟨t,rfl⟩,h1⟩;have Qa:=zA3 h1;clear h1)
  | (go_at_call_of 93 (Value.int IntKind.u64 1);refine(zA0 H1 _ (zA0 Qa)).mono ?_;rintro _ w2 ⟨rfl,h2⟩;have Qz:=zA3 h2;clear h2)
  | (go_at_call_of 93 (Value.int IntKind.u64 4);refine(zA0 H4 _ (zA0 Qz)).mono ?_;rintro _ w3 ⟨rfl,h3⟩;have Yo:=zA3 h3;clear h3)
  | (at_make;refine wpList_make_row _ rfl (.tmp 27) (.tmp 27) 115 rfl 73 i6 (.int .u64 0) Tryz.underlying115 YL z60 z61 rfl .u64 .u64 n rfl rfl (by have:=zA0 GK;rw[z62];omega) (by have:=zA0 GK;omega) ?_))
 have HD:=zA3 (LD.start (zA0 Yo) m n)
 clear HT H1 H4 HS Qa Qz
 obtain⟨G,hG⟩:∃G,w3.heap.size=G:=⟨_,rfl⟩
 rw[hG] at HD ⊢
 clear Yo hG
 go_loopw[31] (fun s wr=>∃(k:Nat) (zv:Value),k<=n/\s=.int .i64 (k:Int)/\Hid (LD w wr G (G+1) n m zv ((zst k l0).1.map Prod.fst) ((zst k l0).1.map Prod.snd) (zst k l0).2)) (fun s _=>n-(intOf s).toNat)
 case atStart=>exact⟨0,_,Nat.zero_le _,rfl,HD⟩
 case round=>
  obtain⟨k,zv,hk,rfl,HK⟩:=hrel
  clear HD
  by_cases Zj:k<n
  ·have ik:(k:Int)<(n:Int):=by omega
   have DG:(zst k l0).1.length=k:=zI7 l0 k
   have Yn:(zst k l0).2.length<=140737488300000:=Nat.le_trans (zI6 l0 k) FE
   have HZ1:Hid (zst (k+1) l0=((zst k l0).1++[z1 (zst k l0).2],zr (zst k l0).2)):=rfl
   obtain⟨r,hr⟩:∃r,(zst k l0).2=r:=⟨_,rfl⟩
   obtain⟨ps,qY⟩:∃ps,(zst k l0).1=ps:=⟨_,rfl⟩
   rw[hr] at HK Yn HZ1
   rw[qY] at HK DG HZ1
   clear hr qY
   obtain⟨a,ha⟩:∃a,beV (r.take 2)=a:=⟨_,rfl⟩
   have yh:a<65536:=by rw[<-ha];exact zQP (n:=2)
   obtain⟨z,hz⟩:∃z,bs ((r.drop 2).take a)=z:=⟨_,rfl⟩
   obtain⟨v,hv⟩:∃v,beV (((r.drop 2).drop a).take 4)=v:=⟨_,rfl⟩
   have HE:Hid (z1 r=(z,v)):=by show _=_;unfold z1;rw[ha,hz,hv]
   have ql:Hid (zr r=((r.drop 2).drop a).drop 4):=by show _=_;unfold zr;rw[ha]
   have HA:Hid (∀W,LD w W G (G+1) n m zv (ps.map Prod.fst) (ps.map Prod.snd) r->Calls Tryz.prog 93 #[.pointer (some ⟨w.heap.size+1,0,none⟩),.int .u64 2] W fun e w'=>e=.returned (.int .u64 (a:Int))/\LD w w' G (G+1) n m zv (ps.map Prod.fst) (ps.map Prod.snd) (r.drop 2)):=fun W h=>by
    refine(zTt _ 2 r W h.lb.rd Yn (by omega)).mono ?_
    rintro e w' ⟨rfl,h1,h2⟩
    exact⟨by rw[<-ha],h.gr h1 h2⟩
   have HB:Hid (∀W,LD w W G (G+1) n m zv (ps.map Prod.fst) (ps.map Prod.snd) (r.drop 2)->Calls Tryz.prog 92 #[.pointer (some ⟨w.heap.size+1,0,none⟩),.int .u64 (a:Int)] W fun e w'=>e=.returned (.string z)/\LD w w' G (G+1) n m zv (ps.map Prod.fst) (ps.map Prod.snd) ((r.drop 2).drop a)):=fun W h=>by
    refine(zLX _ a (r.drop 2) W h.lb.rd (by rw[List.length_drop];omega) (by omega)).mono ?_
    rintro e w' ⟨rfl,h1,h2⟩
    exact⟨by rw[<-hz],h.gr h1 h2⟩
   have HC:Hid (∀W zv',LD w W G (G+1) n m zv' (ps.map Prod.fst++[z]) (ps.map Prod.snd) ((r.drop 2).drop a)->Calls Tryz.prog 93 #[.pointer (some ⟨w.heap.size+1,0,none⟩),.int .u64 4] W fun e w'=>e=.returned (.int .u64 (v:Int))/\LD w w' G (G+1) n m zv' (ps.map Prod.fst++[z]) (ps.map Prod.snd) (((r.drop 2).drop a).drop 4)):=fun W zv' h=>by
    refine(zTt _ 4 _ W h.lb.rd (by simp only[List.length_drop];omega) (by omega)).mono ?_
    rintro e w' ⟨rfl,h1,h2⟩
    exact⟨by rw[<-hv],h.gr h1 h2⟩
   have hZ:(ps.map Prod.fst).length=k:=by rw[List.length_map];exact DG
   have qM:=zA3 hZ
   have Za:=zA3 DG
   have S0:wr.drew.cell? ⟨G,1,none⟩=some zv:=(zA0 HK).drew.cell
   clear ha hz hv DG hZ Yn
   go_upto_region 11 with fail
   refine wp_region_noPanic ?_
   refine zAu (S:=fun w':World=>w'.cell? ⟨G,1,none⟩=some zv) (k:=5) (by kernel_rfl) ?_
   refine zA6 (i:=0) (v:=(.pointer (some ⟨G,1,none⟩))) [1,5] rfl (fun _ _ _ h=>h) (Or.inl ⟨by rfl,fun w' hSw=>?_⟩) S0 ?_
   ·dsimp only at hSw;go_simp
   try simp only[Act.put,zAI,zAH,zAG]
   refine zA6 (i:=1) (v:=zv) [5] rfl (fun _ _ _ h=>h) (Or.inl ⟨by rfl,fun w' hSw=>?_⟩) S0 ?_
   ·dsimp only at hSw;go_simp
   try simp only[Act.put,zAI,zAH,zAG]
   clear S0
   refine zA7 (i:=2) (by kernel_rfl) ?_
   refine zA4 rfl (by rfl) fun K hK=>?_
   go_simp
   refine(zA0 HA _ (zA0 HK).drew).mono ?_
   rintro _ w4 ⟨rfl,h4⟩
   have S4:=h4.cell
   have HD4:=zA3 h4
   clear h4
   go_simp
   refine zA0 hK _ _ ⟨fun _=>S4,?_⟩
   clear hK K
   refine zA7 (i:=3) (by kernel_rfl) ?_
   refine zA4 rfl (by rfl) fun K hK=>?_
   go_simp
   refine(zA0 HB _ (zA0 HD4)).mono ?_
   rintro _ w5 ⟨rfl,h5⟩
   have S5:=h5.cell
   have S6:(w5.alloc (.cells #[.string z] 9)).cell? ⟨G,1,none⟩=some zv:=World.rowIs.cell (h5.g.alloc _) (i:=1) (by decide)
   have Te:=zA3 h5
   clear h5 S4
   go_simp
   refine zA0 hK _ _ ⟨fun _=>S5,?_⟩
   clear hK K
   refine zA7 (i:=4) (by kernel_rfl) ?_
   refine zA4 rfl (by rfl) fun K hK=>?_
   go_simp
   refine zA0 hK _ _ ⟨fun _=>S6,?_⟩
   clear hK K S5 S6
   refine zA7 (i:=5) (by kernel_rfl) ?_
   refine zA4 rfl (by rfl) fun K hK=>?_
   refine wp_append_lies _ (.tmp 35) (.tmp 38) 47 (by rfl) w.heap.size 9 i2 (.string ⟨#[]⟩) 1 16 Tryz.underlying47 ZY z20 z21 z22 (by rfl) (by decide) zv k ((ps.map Prod.fst).map Value.string) (by rfl) (by have:=(zA0 Te).z;rw[zA0 qM] at this;exact World.ownsRow.alloc this _) ⟨w5.heap.size,0,none⟩ 1 1 [.string z] (by rfl) (by rfl) (cell_one_new _ _ _) (by intro u hu;simp at hu;subst hu;rfl) (by decide) (by have:=zA0 GK;unfold maxLen;omega) (by have:=zA0 GK;omega) (by have:=(zA0 Te).lb.bel.size;simp;omega) (w5.heap.size+1) (by simp) ?_
   intro g cap w6 Zi Yg qD hlt6
   have Gh:w6.ownsRow w.heap.size 9 1 (.slice (some ⟨g,0,none⟩) (k+1) cap) ((ps.map Prod.fst).length+1) ((ps.map Prod.fst).map Value.string++[.string z]):=(by rw[zA0 qM];exact Zi)
   have hrg:=zAF ((zA0 Te).g.alloc _) Yg (zBL (zA0 Te).g (zA0 Te).z (by decide))
   have qf:w6.frozen? ⟨G,1,none⟩=false:=World.rowIs.frozen hrg 1
   have qc:w6.cell? ⟨G,1,none⟩=some zv:=World.rowIs.cell hrg (i:=1) (by decide)
   have HD6:=zA3 ((zA0 Te).push Gh Yg)
   clear Zi Gh Yg qD hlt6 hrg
   refine zA0 hK _ _ ⟨fun hh=>absurd hh (by decide),?_⟩
   clear hK K
   refine zA7 (i:=6) (by kernel_rfl) ?_
   refine zA4 rfl (by rfl) fun K hK=>?_
   go_simp
   refine zA0 hK _ _ ⟨fun hh=>absurd hh (by decide),?_⟩
   clear hK K
   refine zA7 (i:=7) (by kernel_rfl) ?_
   refine zA4 rfl (by rfl) fun K hK=>?_
   go_simp
   refine zA0 hK _ _ ⟨fun hh=>absurd hh (by decide),?_⟩
   clear hK K
   refine zAl (by kernel_rfl) ?_ _
   refine NoPanic.normal ?_
   clear HK HA HB HD4 Te qc qf
   obtain⟨w7,hw7⟩:∃w7,w6.setCell ⟨G,1,none⟩ (.slice (some ⟨g,0,none⟩) (k+1) cap)=w7:=⟨_,rfl⟩
   rw[hw7] at HD6 ⊢
   clear hw7
   have hsz8:∀W,LD w W G (G+1) n m (.slice (some ⟨g,0,none⟩) (k+1) cap) (ps.map Prod.fst++[z]) (ps.map Prod.snd) (((r.drop 2).drop a).drop 4)->W.cell? ⟨G+1,k,none⟩=some (.int .u64 (((ps.map Prod.snd).getD k 0:Nat):Int))/\W.frozen? ⟨G+1,k,none⟩=false:=fun W h=>⟨World.rowIs.cell h.s (i:=k) Zj,World.rowIs.frozen h.s k⟩
   have GJ:=zA3 hsz8
   clear hsz8
   have ik2:(k:Int)<=32:=by have:=zA0 GK;omega
   go_wp2_with (go_at_call_of 93 (Value.int IntKind.u64 4);refine(zA0 HC _ _ (zA0 HD6)).mono ?_;rintro _ w8 ⟨rfl,h8⟩;obtain⟨qc8,qf8⟩:=zA0 GJ _ h8;have HD8:=zA3 (h8.size v k (by rw[List.length_map];exact zA0 Za));clear h8)
   go_roundw
   case rel=>
    refine⟨k+1,.slice (some ⟨g,0,none⟩) (k+1) cap,by omega,by go_num,?_⟩
    rw[zA0 HZ1]
    simp only[List.map_append,List.map_cons,List.map_nil,zA0 HE,zA0 ql]
    exact HD8
   case measure=>first | (simp[intOf];omega) | (simp only[intOf];omega)
  ·have hkn2:k=n:=by omega
   subst hkn2
   have yB:(zst k l0).1.map Prod.snd=zPh l:=by unfold zPh;rw[zA0 JK];have:=zA0 QS;unfold zCm at this;rw[this]
   have yr:(zst k l0).1.map Prod.fst=zPf l:=by unfold zPf;rw[zA0 JK];have:=zA0 QS;unfold zCm at this;rw[this]
   have htt:(zst k l0).2=zPg l:=by unfold zPg;rw[zA0 JK];have:=zA0 QS;unfold zCm at this;rw[this]
   have hsl:(zPh l).length=k:=by rw[<-yB,List.length_map];exact zI7 l0 k
   have DG:(zPf l).length=k:=by rw[<-yr,List.length_map];exact zI7 l0 k
   have Yn:(zPg l).length<=140737488300000:=by rw[<-htt];exact Nat.le_trans (zI6 l0 k) FE
   have hsb:∀i,(zPh l).getD i 0<4294967296:=fun i=>by
    rw[<-yB]
    show ((((zst k l0).1.map Prod.snd)[i]?).getD 0)<_
    rw[List.getElem?_map]
    cases hq:(zst k l0).1[i]? with
    | none=>simp
    | some q=>exact zSP l0 k i q hq
   rw[yB,yr,htt] at HK
   clear yB yr htt
   obtain⟨ss,yB⟩:∃ss,zPh l=ss:=⟨_,rfl⟩
   obtain⟨zs,JP⟩:∃zs,zPf l=zs:=⟨_,rfl⟩
   obtain⟨r0,yG⟩:∃r0,zPg l=r0:=⟨_,rfl⟩
   rw[yB] at HK hsl hsb
   rw[JP] at HK DG
   rw[yG] at HK Yn
   have qP:=zA3 (And.intro yB (And.intro JP yG))
   have qM:=zA3 DG
   have HSL:=zA3 hsl
   have HSB:=zA3 hsb
   have JG:=zA3 Yn
   clear yB JP yG DG hsl hsb Yn
   have HM:=zA3 (LE.start (zA0 HK))
   obtain⟨n,hn⟩:∃n,k=n:=⟨_,rfl⟩
   rw[hn] at HM qM HSL GK QS
   have ik:¬(k:Int)<(k:Int):=by omega
   have in32:(k:Int)<=32:=by have:=(zA0 GK).2;omega
   clear HK
   go_wp2
   subst hn
   go_loopw[48] (fun s wr=>∃(j:Nat) (cv:Value) (Cs:List (Vc×Sl)),j<=k/\s=.int .i64 (j:Int)/\Hid (Cs.length=j)/\Hid (LE w wr G (G+1) k m zv cv zs ss (zM0 ss j r0) Cs)/\Hid (∀i X,(Cs.map Prod.fst)[i]?=some X->UnR (zSY ss i r0) X 0/\X.nl.length=m)) (fun s _=>k-(intOf s).toNat)
   case atStart=>exact⟨0,_,[],Nat.zero_le _,rfl,rfl,HM,fun i X h=>by simp at h⟩
   case round=>
    obtain⟨j,cv,Cs,hj,rfl,YZ,HJ,HU⟩:=hrel
    clear HM
    by_cases FG:j<k
    ·have ij:(j:Int)<(k:Int):=by omega
     have QK:wr.cell? ⟨G+1,j,none⟩=some (.int .u64 ((ss.getD j 0:Nat):Int)):=World.rowIs.cell (zA0 HJ).s (i:=j) FG
     obtain⟨b,hb⟩:∃b,ss.getD j 0=b:=⟨_,rfl⟩
     obtain⟨cp,hcp⟩:∃cp,zSY ss j r0=cp:=⟨_,rfl⟩
     have HT:Hid (∀W,LE w W G (G+1) k m zv cv zs ss (zM0 ss j r0) Cs->Calls Tryz.prog 92 #[.pointer (some ⟨w.heap.size+1,0,none⟩),.int .u64 (b:Int)] W fun e w'=>e=.returned (.string (bs cp))/\LE w w' G (G+1) k m zv cv zs ss (zM0 ss (j+1) r0) Cs):=fun W h=>by
      refine(zLX _ b _ W h.lb.rd (by have:=zIo ss r0 j;have:=zA0 JG;omega) (by have:=zA0 HSB j;omega)).mono ?_
      rintro e w' ⟨rfl,h1,h2⟩
      rw[<-hb] at h1 ⊢
      exact⟨by rw[<-hcp];rfl,h.gr h1 h2⟩
     have HP:Hid (∀W,Calls Tryz.prog 94 #[.string (bs cp)] W fun e w'=>∃X p f,e=.returned (.tuple #[.agg #[.int .i64 X.k,.slice p.a1 X.nl.length p.c1,.slice p.a2 X.ns.length p.c2,.slice p.a3 X.ss.length p.c3],.int .i64 f])/\zAi w' X p/\zBb W.heap.size p/\Hid (UnR cp X f)/\Below W.heap.size W w'):=fun W=>zRE cp W (by have:=zRx ss r0 j;have:=zA0 JG;rw[<-hcp];omega)
     rw[hb] at QK
     have HCP:=zA3 hcp
     clear hb hcp
     go_upto_region 18 with (first
      | (go_at_call 92;refine(zA0 HT _ (zA0 HJ)).mono ?_;rintro _ w4 ⟨rfl,h4⟩;have HE4:=zA3 h4;clear h4)
      | (go_at_call 94;refine(zA0 HP _).mono ?_;rintro _ w5 ⟨X,p,f,rfl,hv5,Jk,Zr,QO⟩;have HE5:=zA3 ((zA0 HE4).later QO);have HV5:=zA3 (And.intro hv5 Jk);clear hv5 Jk QO))
     have qj:=zA3 ((zA0 HE5).later (zA1 (Below.refl _ _) (.cells #[.int .i64 X.k,.slice p.a1 X.nl.length p.c1,.slice p.a2 X.ns.length p.c2,.slice p.a3 X.ss.length p.c3] 49)))
     have hg0:(w5.alloc (.cells #[.int .i64 X.k,.slice p.a1 X.nl.length p.c1,.slice p.a2 X.ns.length p.c2,.slice p.a3 X.ss.length p.c3] 49)).cell? ⟨G,0,none⟩=some (.int .i64 (m:Int)):=World.rowIs.cell (zA0 qj).g (i:=0) (by decide)
     have JH:Hid (¬(f=0/\X.nl.length=m)->∀Xs,¬Lay l Xs):=fun hb Xs h=>by
      have Hf:j<Xs.length:=by rw[h.len,zA0 QS];exact FG
      obtain⟨u1,u2⟩:=h.at_ j _ (zAf Hf)
      rw[(zA0 qP).1,(zA0 qP).2.2,zA0 HCP] at u1
      obtain⟨e1,e2⟩:=(zA0 Zr).one u1
      exact hb ⟨e2,by rw[e1,u2,zA0 QR]⟩
     by_cases hf:f=0
     ·subst hf
      by_cases hlm:X.nl.length=m
      ·have j1:(((X.nl.length:Nat):Int) != (m:Int))=false:=by rw[hlm];exact bne_self_eq_false _
       have HLM:=zA3 hlm
       have Yk:(w5.alloc (.cells #[.int .i64 X.k,.slice p.a1 X.nl.length p.c1,.slice p.a2 X.ns.length p.c2,.slice p.a3 X.ss.length p.c3] 49)).cell? ⟨G,2,none⟩=some cv:=World.rowIs.cell (zA0 qj).g (i:=2) (by decide)
       have HC4:Hid (∀(q:Nat) (u:Value),(c4 (X,p))[q]?=some u->((w5.alloc (.cells #[.int .i64 X.k,.slice p.a1 X.nl.length p.c1,.slice p.a2 X.ns.length p.c2,.slice p.a3 X.ss.length p.c3] 49)).alloc (.cells #[.int .i64 X.k,.slice p.a1 X.nl.length p.c1,.slice p.a2 X.ns.length p.c2,.slice p.a3 X.ss.length p.c3] 49)).cell? ((⟨w5.heap.size+1,0,none⟩:Addr).add q)=some u):=fun q u hu=>by
        have:=zEe (w5.alloc (.cells #[.int .i64 X.k,.slice p.a1 X.nl.length p.c1,.slice p.a2 X.ns.length p.c2,.slice p.a3 X.ss.length p.c3] 49)) (X,p) q u hu
        rwa [show (w5.alloc (.cells #[.int .i64 X.k,.slice p.a1 X.nl.length p.c1,.slice p.a2 X.ns.length p.c2,.slice p.a3 X.ss.length p.c3] 49)).heap.size=w5.heap.size+1 by simp] at this
       clear hlm JH HT HP
       have GS:=World.ownsRow.lt (zA0 HE4).c
       have ZS:=zA3 GS
       have HGL:=zA3 (zA0 HE4).g.lt
       clear GS
       go_upto_region 20 with fail
       have HBD:=zA3 (And.intro FG in32)
       clear i1 i2' hk Zj ik j1 hg0 in32 ij QK FG im hl FE
       go_upto_region 21 with (at_builtin;refine wpList_append_own_at _ rfl (.tmp 70) (.tmp 72) 66 rfl w.heap.size 49 j4 (.agg #[.int .i64 0,.slice none 0 0,.slice none 0 0,.slice none 0 0]) 4 80 Tryz.underlying66 FI y40 y41 y42 rfl (by decide) _ _ _ rfl (World.ownsRow.alloc (zA0 qj).c _) ⟨w5.heap.size+1,0,none⟩ 1 1 (c4 (X,p)) rfl rfl (zA0 HC4) (zQI _) (by have:=zA0 HBD;rw[zA0 YZ];unfold maxLen;omega) (by have:=zA0 HBD;rw[zA0 YZ];omega) (by have:=(zA0 qj).lb.bel.size;simp at this ⊢;omega) ?_;intro v7 w7 Gh Jy _ hat7;obtain⟨ad7,cp7,rfl⟩:=zCj Gh;have hr7:=zAF ((zA0 qj).g.alloc (.cells #[.int .i64 X.k,.slice p.a1 X.nl.length p.c1,.slice p.a2 X.ns.length p.c2,.slice p.a3 X.ss.length p.c3] 49)) Jy (zBL (zA0 qj).g (zA0 qj).c (by decide));have qf7:w7.frozen? ⟨G,2,none⟩=false:=World.rowIs.frozen hr7 2;have qc7:w7.cell? ⟨G,2,none⟩=some cv:=World.rowIs.cell hr7 (i:=2) (by decide);have HE7:=zA3 ((zA0 qj).push ((zA0 HV5).1.later (zA1 (Below.refl _ _) _)) (zA0 HV5).2 (fun g hg=>(zA0 ZS g hg).2) (zA0 HGL) Gh Jy hat7);clear Gh Jy hat7 hr7)
       have hj8:(j:Int)<=32:=by have:=zA0 HBD;omega
       have FG:=(zA0 HBD).1
       go_wp2
       go_roundw
       case rel=>
        refine⟨j+1,_,Cs++[(X,p)],by omega,by go_num,by show _=_;rw[zAX,zA0 YZ];rfl,HE7,?_⟩
        intro i Y hY
        rw[List.map_append] at hY
        by_cases hi:i<j
        ·rw[List.getElem?_append_left (by rw[List.length_map,zA0 YZ];exact hi)] at hY
         exact zA0 HU i Y hY
        ·have e2:i=j:=by
          have:=(zAL hY).1
          simp[zA0 YZ] at this
          omega
         subst e2
         rw[List.getElem?_append_right (by rw[List.length_map,zA0 YZ];omega),List.length_map,zA0 YZ] at hY
         simp at hY
         subst hY
         exact⟨by rw[zA0 HCP];exact zA0 Zr,zA0 HLM⟩
       case measure=>first | (simp[intOf];omega) | (simp only[intOf];omega)
      ·have j1:(((X.nl.length:Nat):Int) != (m:Int))=true:=by rw[bne_iff_ne];omega
       have Zb:=zA3 (zA0 JH (fun h=>hlm h.2))
       clear hlm JH
       obtain⟨⟨b0,b1,b2⟩,q0,q1,q2⟩:=zED (zA0 qj).lb
       have hz:=(zA0 qj).lb.res.lt
       clear HT HP HE4 HE5 HJ Zr HCP HU
       go_wp2
       refine bodyPost_ret (v:=.tuple #[.agg #[.int .i64 0,.slice none 0 0,.slice none 0 0],.bool false]) (by simp[results,Tryz.results71,go_sem, *]) rfl (.inr ⟨zA0 Zb,rfl,zIN (zA0 qj).lb.bel _ _ _⟩)
     ·have j0:(f != 0)=true:=by rw[bne_iff_ne];exact hf
      have Zb:=zA3 (zA0 JH (fun h=>hf h.1))
      clear hf JH
      obtain⟨⟨b0,b1,b2⟩,q0,q1,q2⟩:=zED (zA0 qj).lb
      have hz:=(zA0 qj).lb.res.lt
      clear HT HP HE4 HE5 HJ Zr HCP HU
      go_wp2
      refine bodyPost_ret (v:=.tuple #[.agg #[.int .i64 0,.slice none 0 0,.slice none 0 0],.bool false]) (by simp[results,Tryz.results71,go_sem, *]) rfl (.inr ⟨zA0 Zb,rfl,zIN (zA0 qj).lb.bel _ _ _⟩)
    ·have hjk2:j=k:=by omega
     subst hjk2
     have ij:¬(j:Int)<(j:Int):=by omega
     have hres:=(zA0 HJ).lb.res
     have yt:∀(u v x:Value) (i:Nat),i<wr.heap.size->i≠w.heap.size->((((wr.setCell ⟨w.heap.size,0,none⟩ u).setCell ⟨w.heap.size,1,none⟩ v).setCell ⟨w.heap.size,2,none⟩ x)).heap[i]?=wr.heap[i]?:=fun u v x i hi Hg=>by
      rw[Below.heap_setCell _ _ _ _ (by simpa using Hg),Below.heap_setCell _ _ _ _ (by simpa using Hg),Below.heap_setCell _ _ _ _ (by simpa using Hg)]
     obtain⟨az,cz,rfl,hz,hzf⟩:=(zA0 HJ).zones (yt (.int .i64 (m:Int)) zv cv)
     obtain⟨ac,cc,rfl,hc,yO⟩:=(zA0 HJ).cols (yt (.int .i64 (m:Int)) (.slice az zs.length cz) cv)
     have g0:wr.cell? ⟨G,0,none⟩=some (.int .i64 (m:Int)):=World.rowIs.cell (zA0 HJ).g (i:=0) (by decide)
     have g1:wr.cell? ⟨G,1,none⟩=some (.slice az zs.length cz):=World.rowIs.cell (zA0 HJ).g (i:=1) (by decide)
     have g2:wr.cell? ⟨G,2,none⟩=some (.slice ac Cs.length cc):=World.rowIs.cell (zA0 HJ).g (i:=2) (by decide)
     obtain⟨⟨b0,b1,b2⟩,q0,q1,q2⟩:=zED (zA0 HJ).lb
     have He:=hres.lt
     have HZ:=zA3 hz
     have HC:=zA3 hc
     have qi:Hid (zSl w.heap.size az ac Cs):=⟨hzf,yO,(zA0 HJ).fr⟩
     clear hzf yO
     have QW:=zA3 (zIN (zA0 HJ).lb.bel (.int .i64 (m:Int)) (.slice az zs.length cz) (.slice ac Cs.length cc))
     clear hz hc hres yt
     go_wp2
     refine bodyPost_ret (v:=.tuple #[.agg #[.int .i64 (m:Int),.slice az zs.length cz,.slice ac Cs.length cc],.bool true]) (by simp[results,Tryz.results71,go_sem, *]) rfl (.inl ⟨Cs,az,ac,cz,cc,?_,⟨?_,?_,?_,?_⟩,?_,zA0 HC,zA0 qi,zA0 QW⟩)
     ·rw[zA0 qM,zA0 YZ,zA0 QS,zA0 QR]
     ·rw[zA0 QS];exact(zA0 GK).1
     ·rw[zA0 QS];exact(zA0 GK).2
     ·rw[List.length_map,zA0 YZ,zA0 QS]
     ·intro i X hX
      rw[(zA0 qP).1,(zA0 qP).2.2,zA0 QR]
      exact zA0 HU i X hX
     ·rw[(zA0 qP).2.1];exact zA0 HZ
end Go.Proofs.YtekgpapophibcaaGreat
