import Derived.Test.YtbfibfmnemnbbaaGreatQSrE
set_option linter.unusedSimpArgs false
set_option linter.unusedVariables false
set_option maxHeartbeats 4000000
set_option maxRecDepth 100000
namespace Go.Proofs.YtbfibfmnemnbbaaGreat
open Go.RowKit Go.Sort
theorem LD.start{w w3:World}{r:List UInt8}(h:LB w w3 r)(m n:Nat):LD w ((w3.alloc (.cells #[.int .i64 (m:Int),.slice none 0 0,.slice none 0 0] 62)).alloc (.cells (madeCells #[.int .u64 0] n) 84)) w3.heap.size (w3.heap.size+1) n m noSl [] [] r:=by
 have h1:(w3.alloc (.cells #[.int .i64 (m:Int),.slice none 0 0,.slice none 0 0] 62)).rowIs w3.heap.size 62 3 (seg3 m noSl noSl):=World.rowIs_alloc w3 _ 62 _ (fun i hi=>by
  match i,hi with
  | 0,_=>rfl
  | 1,_=>rfl
  | 2,_=>rfl
  | n+3,h=>have:n+3<3:=h;omega)
 have h2:=World.rowIs_made (w3.alloc (.cells #[.int .i64 (m:Int),.slice none 0 0,.slice none 0 0] 62)) (.int .u64 0) n 84
 have e:(w3.alloc (.cells #[.int .i64 (m:Int),.slice none 0 0,.slice none 0 0] 62)).heap.size=w3.heap.size+1:=by simp
 rw[e] at h2
 have lw:=h.rd.lt
 exact⟨⟨(h.rd.alloc _).alloc _,(h.res.alloc _).alloc _,below_alloc (below_alloc h.bel _) _⟩,h1.alloc _,World.ownsRow_nil _ _ _ _,World.rowIs.congr h2 (fun i hi=>by simp),lw,by omega⟩
theorem LD.cell{w wr:World}{G S n rows:Nat}{zv:Value}{zs:List ByteArray}{ss:List Nat}{r:List UInt8}(h:LD w wr G S n rows zv zs ss r):wr.cell? ⟨G,1,none⟩=some zv:=World.rowIs.cell h.g (i:=1) (by decide)
theorem laid_yes(l:List UInt8)(hl:l.length<=140737488300000)(hn1:1<=layN l)(hn2:layN l<=32)(w:World):Calls Tryz.prog 44 #[.string (bs l)] w fun e w'=>LayQ w w' l e:=by
 obtain⟨i6,hi6,z60,z61,z62⟩:=info_parts Tryz.info84
 obtain⟨i2,hi2,z20,z21,z22⟩:=info_parts Tryz.info9
 obtain⟨j4,hj4,y40,y41,y42⟩:=info_parts Tryz.info56'
 obtain⟨n,hN⟩:∃n,layN l=n:=⟨_,rfl⟩
 obtain⟨m,hR⟩:∃m,layR l=m:=⟨_,rfl⟩
 have hm:m<4294967296:=by
  rw[<-hR];exact be_lt (n:=4)
 have im:(m:Int)<4294967296:=by omega
 rw[hN] at hn1 hn2
 have i1:((n:Int)<1)=False:=by simp only[eq_iff_iff,iff_false];omega
 have i2':((32:Int)<(n:Int))=False:=by simp only[eq_iff_iff,iff_false];omega
 have HT:Hid (∀W,LB w W l->Calls Tryz.prog 66 #[.pointer (some ⟨w.heap.size+1,0,none⟩),.int .u64 2] W fun e w'=>(∃t,e=.returned (.string t))/\LB w w' (l.drop 2)):=fun W h=>by
  refine(stake2 _ 2 l W h.rd hl (by omega)).mono ?_
  rintro e w' ⟨rfl,h1,h2⟩
  exact⟨⟨_,rfl⟩,h.gr h1 h2⟩
 have H1:Hid (∀W,LB w W (l.drop 2)->Calls Tryz.prog 67 #[.pointer (some ⟨w.heap.size+1,0,none⟩),.int .u64 1] W fun e w'=>e=.returned (.int .u64 (n:Int))/\LB w w' ((l.drop 2).drop 1)):=fun W h=>by
  refine(snum _ 1 (l.drop 2) W h.rd (by rw[List.length_drop];omega) (by omega)).mono ?_
  rintro e w' ⟨rfl,h1,h2⟩
  exact⟨by rw[<-hN];rfl,h.gr h1 h2⟩
 obtain⟨l0,hl0⟩:∃l0,((l.drop 2).drop 1).drop 4=l0:=⟨_,rfl⟩
 have H4:Hid (∀W,LB w W ((l.drop 2).drop 1)->Calls Tryz.prog 67 #[.pointer (some ⟨w.heap.size+1,0,none⟩),.int .u64 4] W fun e w'=>e=.returned (.int .u64 (m:Int))/\LB w w' l0):=fun W h=>by
  refine(snum _ 4 _ W h.rd (by simp only[List.length_drop];omega) (by omega)).mono ?_
  rintro e w' ⟨rfl,h1,h2⟩
  exact⟨by rw[<-hR];rfl,by rw[<-hl0];exact h.gr h1 h2⟩
 have hl0l:l0.length<=140737488300000:=by rw[<-hl0];simp only[List.length_drop];omega
 have HS:=hide (LB.start w l)
 have HNN:=hide hN
 have HRR:=hide hR
 have HL0:=hide hl0
 clear hN hR hl0
 have HN12:=hide (And.intro hn1 hn2)
 clear hn1 hn2 hm
 go_enter Tryz.func44,Tryz.ntmps44
 go_wp2_with (first
  | (go_at_call 66;refine(unhide HT _ (unhide HS)).mono ?_;rintro _ w1 ⟨⟨t,rfl⟩,h1⟩;have HB1:=hide h1;clear h1)
  | (go_at_call_of 67 (Value.int IntKind.u64 1);refine(unhide H1 _ (unhide HB1)).mono ?_;rintro _ w2 ⟨rfl,h2⟩;have HB2:=hide h2;clear h2)
  | (go_at_call_of 67 (Value.int IntKind.u64 4);refine(unhide H4 _ (unhide HB2)).mono ?_;rintro _ w3 ⟨rfl,h3⟩;have HB3:=hide h3;clear h3)
  | (at_make;refine wpList_make_row _ rfl (.tmp 27) (.tmp 27) 115 rfl 84 i6 (.int .u64 0) Tryz.underlying115 hi6 z60 z61 rfl .u64 .u64 n rfl rfl (by have:=unhide HN12;rw[z62];omega) (by have:=unhide HN12;omega) ?_))
 have HD:=hide (LD.start (unhide HB3) m n)
 clear HT H1 H4 HS HB1 HB2
 obtain⟨G,hG⟩:∃G,w3.heap.size=G:=⟨_,rfl⟩
 rw[hG] at HD ⊢
 clear HB3 hG
 go_loopw[31] (fun s wr=>∃(k:Nat) (zv:Value),k<=n/\s=.int .i64 (k:Int)/\Hid (LD w wr G (G+1) n m zv ((zst k l0).1.map Prod.fst) ((zst k l0).1.map Prod.snd) (zst k l0).2)) (fun s _=>n-(intOf s).toNat)
 case atStart=>exact⟨0,_,Nat.zero_le _,rfl,HD⟩
 case round=>
  obtain⟨k,zv,hk,rfl,HK⟩:=hrel
  clear HD
  by_cases hkn:k<n
  ·have ik:(k:Int)<(n:Int):=by omega
   have hzl:(zst k l0).1.length=k:=zst_len l0 k
   have hrl:(zst k l0).2.length<=140737488300000:=Nat.le_trans (zst_rest l0 k) hl0l
   have HZ1:Hid (zst (k+1) l0=((zst k l0).1++[z1 (zst k l0).2],zr (zst k l0).2)):=rfl
   obtain⟨r,hr⟩:∃r,(zst k l0).2=r:=⟨_,rfl⟩
   obtain⟨ps,hps⟩:∃ps,(zst k l0).1=ps:=⟨_,rfl⟩
   rw[hr] at HK hrl HZ1
   rw[hps] at HK hzl HZ1
   clear hr hps
   obtain⟨a,ha⟩:∃a,beV (r.take 2)=a:=⟨_,rfl⟩
   have hab:a<65536:=by rw[<-ha];exact be_lt (n:=2)
   obtain⟨z,hz⟩:∃z,bs ((r.drop 2).take a)=z:=⟨_,rfl⟩
   obtain⟨v,hv⟩:∃v,beV (((r.drop 2).drop a).take 4)=v:=⟨_,rfl⟩
   have HE:Hid (z1 r=(z,v)):=by show _=_;unfold z1;rw[ha,hz,hv]
   have HE2:Hid (zr r=((r.drop 2).drop a).drop 4):=by show _=_;unfold zr;rw[ha]
   have HA:Hid (∀W,LD w W G (G+1) n m zv (ps.map Prod.fst) (ps.map Prod.snd) r->Calls Tryz.prog 67 #[.pointer (some ⟨w.heap.size+1,0,none⟩),.int .u64 2] W fun e w'=>e=.returned (.int .u64 (a:Int))/\LD w w' G (G+1) n m zv (ps.map Prod.fst) (ps.map Prod.snd) (r.drop 2)):=fun W h=>by
    refine(snum _ 2 r W h.lb.rd hrl (by omega)).mono ?_
    rintro e w' ⟨rfl,h1,h2⟩
    exact⟨by rw[<-ha],h.gr h1 h2⟩
   have HB:Hid (∀W,LD w W G (G+1) n m zv (ps.map Prod.fst) (ps.map Prod.snd) (r.drop 2)->Calls Tryz.prog 66 #[.pointer (some ⟨w.heap.size+1,0,none⟩),.int .u64 (a:Int)] W fun e w'=>e=.returned (.string z)/\LD w w' G (G+1) n m zv (ps.map Prod.fst) (ps.map Prod.snd) ((r.drop 2).drop a)):=fun W h=>by
    refine(stake2 _ a (r.drop 2) W h.lb.rd (by rw[List.length_drop];omega) (by omega)).mono ?_
    rintro e w' ⟨rfl,h1,h2⟩
    exact⟨by rw[<-hz],h.gr h1 h2⟩
   have HC:Hid (∀W zv',LD w W G (G+1) n m zv' (ps.map Prod.fst++[z]) (ps.map Prod.snd) ((r.drop 2).drop a)->Calls Tryz.prog 67 #[.pointer (some ⟨w.heap.size+1,0,none⟩),.int .u64 4] W fun e w'=>e=.returned (.int .u64 (v:Int))/\LD w w' G (G+1) n m zv' (ps.map Prod.fst++[z]) (ps.map Prod.snd) (((r.drop 2).drop a).drop 4)):=fun W zv' h=>by
    refine(snum _ 4 _ W h.lb.rd (by simp only[List.length_drop];omega) (by omega)).mono ?_
    rintro e w' ⟨rfl,h1,h2⟩
    exact⟨by rw[<-hv],h.gr h1 h2⟩
   have hZ:(ps.map Prod.fst).length=k:=by rw[List.length_map];exact hzl
   have HZL:=hide hZ
   have HPL:=hide hzl
   have S0:wr.drew.cell? ⟨G,1,none⟩=some zv:=(unhide HK).drew.cell
   clear ha hz hv hzl hZ hrl
   go_upto_region 11 with fail
   refine wp_region_noPanic ?_
   refine wp_region_G (S:=fun w':World=>w'.cell? ⟨G,1,none⟩=some zv) (k:=5) (by kernel_rfl) ?_
   refine anyG_takel (i:=0) (v:=(.pointer (some ⟨G,1,none⟩))) [1,5] rfl (by kernel_rfl) (by kernel_rfl) (by kernel_rfl) (by kernel_rfl) (fun _ _ _ h=>h) (Or.inl ⟨by rfl,fun w' hSw=>?_⟩) S0 ?_
   ·dsimp only at hSw;go_simp
   try simp only[Act.put,List.setIfInBounds_toArray,List.set_cons_zero,List.set_cons_succ]
   refine anyG_takel (i:=1) (v:=zv) [5] rfl (by kernel_rfl) (by kernel_rfl) (by kernel_rfl) (by kernel_rfl) (fun _ _ _ h=>h) (Or.inl ⟨by rfl,fun w' hSw=>?_⟩) S0 ?_
   ·dsimp only at hSw;go_simp
   try simp only[Act.put,List.setIfInBounds_toArray,List.set_cons_zero,List.set_cons_succ]
   clear S0
   refine anyG_one (i:=2) (by kernel_rfl) ?_
   refine wpOp_lit rfl (by rfl) fun K hK=>?_
   go_simp
   refine(unhide HA _ (unhide HK).drew).mono ?_
   rintro _ w4 ⟨rfl,h4⟩
   have S4:=h4.cell
   have HD4:=hide h4
   clear h4
   go_simp
   refine unhide hK _ _ ⟨fun _=>S4,?_⟩
   clear hK K
   refine anyG_one (i:=3) (by kernel_rfl) ?_
   refine wpOp_lit rfl (by rfl) fun K hK=>?_
   go_simp
   refine(unhide HB _ (unhide HD4)).mono ?_
   rintro _ w5 ⟨rfl,h5⟩
   have S5:=h5.cell
   have S6:(w5.alloc (.cells #[.string z] 9)).cell? ⟨G,1,none⟩=some zv:=World.rowIs.cell (h5.g.alloc _) (i:=1) (by decide)
   have HD5:=hide h5
   clear h5 S4
   go_simp
   refine unhide hK _ _ ⟨fun _=>S5,?_⟩
   clear hK K
   refine anyG_one (i:=4) (by kernel_rfl) ?_
   refine wpOp_lit rfl (by rfl) fun K hK=>?_
   go_simp
   refine unhide hK _ _ ⟨fun _=>S6,?_⟩
   clear hK K S5 S6
   refine anyG_one (i:=5) (by kernel_rfl) ?_
   refine wpOp_lit rfl (by rfl) fun K hK=>?_
   refine wp_append_lies _ (.tmp 35) (.tmp 38) 54 (by rfl) w.heap.size 9 i2 (.string ⟨#[]⟩) 1 16 Tryz.underlying54 hi2 z20 z21 z22 (by rfl) (by decide) zv k ((ps.map Prod.fst).map Value.string) (by rfl) (by have:=(unhide HD5).z;rw[unhide HZL] at this;exact World.ownsRow.alloc this _) ⟨w5.heap.size,0,none⟩ 1 1 [.string z] (by rfl) (by rfl) (cell_one_new _ _ _) (by intro u hu;simp at hu;subst hu;rfl) (by decide) (by have:=unhide HN12;unfold maxLen;omega) (by have:=unhide HN12;omega) (by have:=(unhide HD5).lb.bel.size;simp;omega) (w5.heap.size+1) (by simp) ?_
   intro g cap w6 hown6 hgrow6 hat6 hlt6
   have hown7:w6.ownsRow w.heap.size 9 1 (.slice (some ⟨g,0,none⟩) (k+1) cap) ((ps.map Prod.fst).length+1) ((ps.map Prod.fst).map Value.string++[.string z]):=(by rw[unhide HZL];exact hown6)
   have hrg:=rowIs_grown ((unhide HD5).g.alloc _) hgrow6 (own_ne (unhide HD5).g (unhide HD5).z (by decide))
   have qf:w6.frozen? ⟨G,1,none⟩=false:=World.rowIs.frozen hrg 1
   have qc:w6.cell? ⟨G,1,none⟩=some zv:=World.rowIs.cell hrg (i:=1) (by decide)
   have HD6:=hide ((unhide HD5).push hown7 hgrow6)
   clear hown6 hown7 hgrow6 hat6 hlt6 hrg
   refine unhide hK _ _ ⟨fun hh=>absurd hh (by decide),?_⟩
   clear hK K
   refine anyG_one (i:=6) (by kernel_rfl) ?_
   refine wpOp_lit rfl (by rfl) fun K hK=>?_
   go_simp
   refine unhide hK _ _ ⟨fun hh=>absurd hh (by decide),?_⟩
   clear hK K
   refine anyG_one (i:=7) (by kernel_rfl) ?_
   refine wpOp_lit rfl (by rfl) fun K hK=>?_
   go_simp
   refine unhide hK _ _ ⟨fun hh=>absurd hh (by decide),?_⟩
   clear hK K
   refine anyG_done (by kernel_rfl) ?_ _
   refine NoPanic.normal ?_
   clear HK HA HB HD4 HD5 qc qf
   obtain⟨w7,hw7⟩:∃w7,w6.setCell ⟨G,1,none⟩ (.slice (some ⟨g,0,none⟩) (k+1) cap)=w7:=⟨_,rfl⟩
   rw[hw7] at HD6 ⊢
   clear hw7
   have hsz8:∀W,LD w W G (G+1) n m (.slice (some ⟨g,0,none⟩) (k+1) cap) (ps.map Prod.fst++[z]) (ps.map Prod.snd) (((r.drop 2).drop a).drop 4)->W.cell? ⟨G+1,k,none⟩=some (.int .u64 (((ps.map Prod.snd).getD k 0:Nat):Int))/\W.frozen? ⟨G+1,k,none⟩=false:=fun W h=>⟨World.rowIs.cell h.s (i:=k) hkn,World.rowIs.frozen h.s k⟩
   have HSZ:=hide hsz8
   clear hsz8
   have ik2:(k:Int)<=32:=by have:=unhide HN12;omega
   go_wp2_with (go_at_call_of 67 (Value.int IntKind.u64 4);refine(unhide HC _ _ (unhide HD6)).mono ?_;rintro _ w8 ⟨rfl,h8⟩;obtain⟨qc8,qf8⟩:=unhide HSZ _ h8;have HD8:=hide (h8.size v k (by rw[List.length_map];exact unhide HPL));clear h8)
   go_roundw
   case rel=>
    refine⟨k+1,.slice (some ⟨g,0,none⟩) (k+1) cap,by omega,by go_num,?_⟩
    rw[unhide HZ1]
    simp only[List.map_append,List.map_cons,List.map_nil,unhide HE,unhide HE2]
    exact HD8
   case measure=>first | (simp[intOf];omega) | (simp only[intOf];omega)
  ·have hkn2:k=n:=by omega
   subst hkn2
   have hss:(zst k l0).1.map Prod.snd=layS l:=by unfold layS;rw[unhide HL0];have:=unhide HNN;unfold layN at this;rw[this]
   have hzz:(zst k l0).1.map Prod.fst=layZ l:=by unfold layZ;rw[unhide HL0];have:=unhide HNN;unfold layN at this;rw[this]
   have htt:(zst k l0).2=layT l:=by unfold layT;rw[unhide HL0];have:=unhide HNN;unfold layN at this;rw[this]
   have hsl:(layS l).length=k:=by rw[<-hss,List.length_map];exact zst_len l0 k
   have hzl:(layZ l).length=k:=by rw[<-hzz,List.length_map];exact zst_len l0 k
   have hrl:(layT l).length<=140737488300000:=by rw[<-htt];exact Nat.le_trans (zst_rest l0 k) hl0l
   have hsb:∀i,(layS l).getD i 0<4294967296:=fun i=>by
    rw[<-hss]
    show ((((zst k l0).1.map Prod.snd)[i]?).getD 0)<_
    rw[List.getElem?_map]
    cases hq:(zst k l0).1[i]? with
    | none=>simp
    | some q=>exact zst_lt l0 k i q hq
   rw[hss,hzz,htt] at HK
   clear hss hzz htt
   obtain⟨ss,hss⟩:∃ss,layS l=ss:=⟨_,rfl⟩
   obtain⟨zs,hzs⟩:∃zs,layZ l=zs:=⟨_,rfl⟩
   obtain⟨r0,hr0⟩:∃r0,layT l=r0:=⟨_,rfl⟩
   rw[hss] at HK hsl hsb
   rw[hzs] at HK hzl
   rw[hr0] at HK hrl
   have HEQ:=hide (And.intro hss (And.intro hzs hr0))
   have HZL:=hide hzl
   have HSL:=hide hsl
   have HSB:=hide hsb
   have HRL:=hide hrl
   clear hss hzs hr0 hzl hsl hsb hrl
   have HM:=hide (LE.start (unhide HK))
   obtain⟨n,hn⟩:∃n,k=n:=⟨_,rfl⟩
   rw[hn] at HM HZL HSL HN12 HNN
   have ik:¬(k:Int)<(k:Int):=by omega
   have in32:(k:Int)<=32:=by have:=(unhide HN12).2;omega
   clear HK
   go_wp2
   subst hn
   go_loopw[48] (fun s wr=>∃(j:Nat) (cv:Value) (Cs:List (Vc×Sl)),j<=k/\s=.int .i64 (j:Int)/\Hid (Cs.length=j)/\Hid (LE w wr G (G+1) k m zv cv zs ss (colR ss j r0) Cs)/\Hid (∀i X,(Cs.map Prod.fst)[i]?=some X->UnR (colP ss i r0) X 0/\X.nl.length=m)) (fun s _=>k-(intOf s).toNat)
   case atStart=>exact⟨0,_,[],Nat.zero_le _,rfl,rfl,HM,fun i X h=>by simp at h⟩
   case round=>
    obtain⟨j,cv,Cs,hj,rfl,HCL,HJ,HU⟩:=hrel
    clear HM
    by_cases hjk:j<k
    ·have ij:(j:Int)<(k:Int):=by omega
     have hsz:wr.cell? ⟨G+1,j,none⟩=some (.int .u64 ((ss.getD j 0:Nat):Int)):=World.rowIs.cell (unhide HJ).s (i:=j) hjk
     obtain⟨b,hb⟩:∃b,ss.getD j 0=b:=⟨_,rfl⟩
     obtain⟨cp,hcp⟩:∃cp,colP ss j r0=cp:=⟨_,rfl⟩
     have HT:Hid (∀W,LE w W G (G+1) k m zv cv zs ss (colR ss j r0) Cs->Calls Tryz.prog 66 #[.pointer (some ⟨w.heap.size+1,0,none⟩),.int .u64 (b:Int)] W fun e w'=>e=.returned (.string (bs cp))/\LE w w' G (G+1) k m zv cv zs ss (colR ss (j+1) r0) Cs):=fun W h=>by
      refine(stake2 _ b _ W h.lb.rd (by have:=colR_len ss r0 j;have:=unhide HRL;omega) (by have:=unhide HSB j;omega)).mono ?_
      rintro e w' ⟨rfl,h1,h2⟩
      rw[<-hb] at h1 ⊢
      exact⟨by rw[<-hcp];rfl,h.gr h1 h2⟩
     have HP:Hid (∀W,Calls Tryz.prog 68 #[.string (bs cp)] W fun e w'=>∃X p f,e=.returned (.tuple #[.agg #[.int .i64 X.k,.slice p.a1 X.nl.length p.c1,.slice p.a2 X.ns.length p.c2,.slice p.a3 X.ss.length p.c3],.int .i64 f])/\VecAt w' X p/\Own3 w' W.heap.size X p/\Hid (UnR cp X f)/\Below W.heap.size W w'):=fun W=>pread_un cp W (by have:=colP_len ss r0 j;have:=unhide HRL;rw[<-hcp];omega)
     rw[hb] at hsz
     have HCP:=hide hcp
     clear hb hcp
     go_upto_region 18 with (first
      | (go_at_call 66;refine(unhide HT _ (unhide HJ)).mono ?_;rintro _ w4 ⟨rfl,h4⟩;have HE4:=hide h4;clear h4)
      | (go_at_call 68;refine(unhide HP _).mono ?_;rintro _ w5 ⟨X,p,f,rfl,hv5,hf5,HUN,hb5⟩;have HE5:=hide ((unhide HE4).later hb5);have HV5:=hide (And.intro hv5 hf5);clear hv5 hf5 hb5))
     have HE6:=hide ((unhide HE5).later (below_alloc (Below.refl _ _) (.cells #[.int .i64 X.k,.slice p.a1 X.nl.length p.c1,.slice p.a2 X.ns.length p.c2,.slice p.a3 X.ss.length p.c3] 56)))
     have hg0:(w5.alloc (.cells #[.int .i64 X.k,.slice p.a1 X.nl.length p.c1,.slice p.a2 X.ns.length p.c2,.slice p.a3 X.ss.length p.c3] 56)).cell? ⟨G,0,none⟩=some (.int .i64 (m:Int)):=World.rowIs.cell (unhide HE6).g (i:=0) (by decide)
     have HNB:Hid (¬(f=0/\X.nl.length=m)->∀Xs,¬Lay l Xs):=fun hb Xs h=>by
      have hlen:j<Xs.length:=by rw[h.len,unhide HNN];exact hjk
      obtain⟨u1,u2⟩:=h.at_ j _ (List.getElem?_eq_getElem hlen)
      rw[(unhide HEQ).1,(unhide HEQ).2.2,unhide HCP] at u1
      obtain⟨e1,e2⟩:=(unhide HUN).one u1
      exact hb ⟨e2,by rw[e1,u2,unhide HRR]⟩
     by_cases hf:f=0
     ·subst hf
      by_cases hlm:X.nl.length=m
      ·have j1:(((X.nl.length:Nat):Int) != (m:Int))=false:=by rw[hlm];exact bne_self_eq_false _
       have HLM:=hide hlm
       have hcc:(w5.alloc (.cells #[.int .i64 X.k,.slice p.a1 X.nl.length p.c1,.slice p.a2 X.ns.length p.c2,.slice p.a3 X.ss.length p.c3] 56)).cell? ⟨G,2,none⟩=some cv:=World.rowIs.cell (unhide HE6).g (i:=2) (by decide)
       have HC4:Hid (∀(q:Nat) (u:Value),(c4 (X,p))[q]?=some u->((w5.alloc (.cells #[.int .i64 X.k,.slice p.a1 X.nl.length p.c1,.slice p.a2 X.ns.length p.c2,.slice p.a3 X.ss.length p.c3] 56)).alloc (.cells #[.int .i64 X.k,.slice p.a1 X.nl.length p.c1,.slice p.a2 X.ns.length p.c2,.slice p.a3 X.ss.length p.c3] 56)).cell? ((⟨w5.heap.size+1,0,none⟩:Addr).add q)=some u):=fun q u hu=>by
        have:=cells4_new (w5.alloc (.cells #[.int .i64 X.k,.slice p.a1 X.nl.length p.c1,.slice p.a2 X.ns.length p.c2,.slice p.a3 X.ss.length p.c3] 56)) (X,p) q u hu
        rwa [show (w5.alloc (.cells #[.int .i64 X.k,.slice p.a1 X.nl.length p.c1,.slice p.a2 X.ns.length p.c2,.slice p.a3 X.ss.length p.c3] 56)).heap.size=w5.heap.size+1 by simp] at this
       clear hlm HNB HT HP
       have hwl:=World.ownsRow.lt (unhide HE4).c
       have HWL:=hide hwl
       have HGL:=hide (unhide HE4).g.lt
       clear hwl
       go_upto_region 20 with fail
       have HBD:=hide (And.intro hjk in32)
       clear i1 i2' hk hkn ik j1 hg0 in32 ij hsz hjk im hl hl0l
       go_upto_region 21 with (at_builtin;refine wpList_append_own_at _ rfl (.tmp 70) (.tmp 72) 51 rfl w.heap.size 56 j4 (.agg #[.int .i64 0,.slice none 0 0,.slice none 0 0,.slice none 0 0]) 4 80 Tryz.underlying51 hj4 y40 y41 y42 rfl (by decide) _ _ _ rfl (World.ownsRow.alloc (unhide HE6).c _) ⟨w5.heap.size+1,0,none⟩ 1 1 (c4 (X,p)) rfl rfl (unhide HC4) (c4_one _) (by have:=unhide HBD;rw[unhide HCL];unfold maxLen;omega) (by have:=unhide HBD;rw[unhide HCL];omega) (by have:=(unhide HE6).lb.bel.size;simp at this ⊢;omega) ?_;intro v7 w7 hown7 hgrow7 _ hat7;obtain⟨ad7,cp7,rfl⟩:=own_shape hown7;have hr7:=rowIs_grown ((unhide HE6).g.alloc (.cells #[.int .i64 X.k,.slice p.a1 X.nl.length p.c1,.slice p.a2 X.ns.length p.c2,.slice p.a3 X.ss.length p.c3] 56)) hgrow7 (own_ne (unhide HE6).g (unhide HE6).c (by decide));have qf7:w7.frozen? ⟨G,2,none⟩=false:=World.rowIs.frozen hr7 2;have qc7:w7.cell? ⟨G,2,none⟩=some cv:=World.rowIs.cell hr7 (i:=2) (by decide);have HE7:=hide ((unhide HE6).push ((unhide HV5).1.later (below_alloc (Below.refl _ _) _)) ((unhide HV5).2.later (below_alloc (Below.refl _ _) _)) (fun g hg=>(unhide HWL g hg).2) (unhide HGL) hown7 hgrow7 hat7);clear hown7 hgrow7 hat7 hr7)
       have hj8:(j:Int)<=32:=by have:=unhide HBD;omega
       have hjk:=(unhide HBD).1
       go_wp2
       go_roundw
       case rel=>
        refine⟨j+1,_,Cs++[(X,p)],by omega,by go_num,by show _=_;rw[List.length_append,unhide HCL];rfl,HE7,?_⟩
        intro i Y hY
        rw[List.map_append] at hY
        by_cases hi:i<j
        ·rw[List.getElem?_append_left (by rw[List.length_map,unhide HCL];exact hi)] at hY
         exact unhide HU i Y hY
        ·have e2:i=j:=by
          have:=(List.getElem?_eq_some_iff.1 hY).1
          simp[unhide HCL] at this
          omega
         subst e2
         rw[List.getElem?_append_right (by rw[List.length_map,unhide HCL];omega),List.length_map,unhide HCL] at hY
         simp at hY
         subst hY
         exact⟨by rw[unhide HCP];exact unhide HUN,unhide HLM⟩
       case measure=>first | (simp[intOf];omega) | (simp only[intOf];omega)
      ·have j1:(((X.nl.length:Nat):Int) != (m:Int))=true:=by rw[bne_iff_ne];omega
       have HNO:=hide (unhide HNB (fun h=>hlm h.2))
       clear hlm HNB
       obtain⟨⟨b0,b1,b2⟩,q0,q1,q2⟩:=res_facts (unhide HE6).lb
       have hz:=(unhide HE6).lb.res.lt
       clear HT HP HE4 HE5 HJ HUN HCP HU
       go_wp2
       refine bodyPost_ret (v:=.tuple #[.agg #[.int .i64 0,.slice none 0 0,.slice none 0 0],.bool false]) (by simp[results,Tryz.results44,go_sem, *]) rfl (.inr ⟨unhide HNO,rfl,put3S (unhide HE6).lb.bel _ _ _⟩)
     ·have j0:(f != 0)=true:=by rw[bne_iff_ne];exact hf
      have HNO:=hide (unhide HNB (fun h=>hf h.1))
      clear hf HNB
      obtain⟨⟨b0,b1,b2⟩,q0,q1,q2⟩:=res_facts (unhide HE6).lb
      have hz:=(unhide HE6).lb.res.lt
      clear HT HP HE4 HE5 HJ HUN HCP HU
      go_wp2
      refine bodyPost_ret (v:=.tuple #[.agg #[.int .i64 0,.slice none 0 0,.slice none 0 0],.bool false]) (by simp[results,Tryz.results44,go_sem, *]) rfl (.inr ⟨unhide HNO,rfl,put3S (unhide HE6).lb.bel _ _ _⟩)
    ·have hjk2:j=k:=by omega
     subst hjk2
     have ij:¬(j:Int)<(j:Int):=by omega
     have hres:=(unhide HJ).lb.res
     have hxx:∀(u v x:Value) (i:Nat),i<wr.heap.size->i≠w.heap.size->((((wr.setCell ⟨w.heap.size,0,none⟩ u).setCell ⟨w.heap.size,1,none⟩ v).setCell ⟨w.heap.size,2,none⟩ x)).heap[i]?=wr.heap[i]?:=fun u v x i hi hne=>by
      rw[Below.heap_setCell _ _ _ _ (by simpa using hne),Below.heap_setCell _ _ _ _ (by simpa using hne),Below.heap_setCell _ _ _ _ (by simpa using hne)]
     obtain⟨az,cz,rfl,hz,hzf⟩:=(unhide HJ).zones (hxx (.int .i64 (m:Int)) zv cv)
     obtain⟨ac,cc,rfl,hc,hcf⟩:=(unhide HJ).cols (hxx (.int .i64 (m:Int)) (.slice az zs.length cz) cv)
     have g0:wr.cell? ⟨G,0,none⟩=some (.int .i64 (m:Int)):=World.rowIs.cell (unhide HJ).g (i:=0) (by decide)
     have g1:wr.cell? ⟨G,1,none⟩=some (.slice az zs.length cz):=World.rowIs.cell (unhide HJ).g (i:=1) (by decide)
     have g2:wr.cell? ⟨G,2,none⟩=some (.slice ac Cs.length cc):=World.rowIs.cell (unhide HJ).g (i:=2) (by decide)
     obtain⟨⟨b0,b1,b2⟩,q0,q1,q2⟩:=res_facts (unhide HJ).lb
     have hlt:=hres.lt
     have HZ:=hide hz
     have HC:=hide hc
     have HFR:Hid (Free (((wr.setCell ⟨w.heap.size,0,none⟩ (.int .i64 (m:Int))).setCell ⟨w.heap.size,1,none⟩ (.slice az zs.length cz)).setCell ⟨w.heap.size,2,none⟩ (.slice ac Cs.length cc)) w.heap.size az ac Cs):=⟨hzf,hcf,(unhide HJ).owns (hxx (.int .i64 (m:Int)) (.slice az zs.length cz) (.slice ac Cs.length cc))⟩
     clear hzf hcf
     have HBL:=hide (put3S (unhide HJ).lb.bel (.int .i64 (m:Int)) (.slice az zs.length cz) (.slice ac Cs.length cc))
     clear hz hc hres hxx
     go_wp2
     refine bodyPost_ret (v:=.tuple #[.agg #[.int .i64 (m:Int),.slice az zs.length cz,.slice ac Cs.length cc],.bool true]) (by simp[results,Tryz.results44,go_sem, *]) rfl (.inl ⟨Cs,az,ac,cz,cc,?_,⟨?_,?_,?_,?_⟩,?_,unhide HC,unhide HFR,unhide HBL⟩)
     ·rw[unhide HZL,unhide HCL,unhide HNN,unhide HRR]
     ·rw[unhide HNN];exact(unhide HN12).1
     ·rw[unhide HNN];exact(unhide HN12).2
     ·rw[List.length_map,unhide HCL,unhide HNN]
     ·intro i X hX
      rw[(unhide HEQ).1,(unhide HEQ).2.2,unhide HRR]
      exact unhide HU i X hX
     ·rw[(unhide HEQ).2.1];exact unhide HZ
end Go.Proofs.YtbfibfmnemnbbaaGreat
