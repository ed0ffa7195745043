import Derived.Test.YtekgpapophibcaaGreatStbH
set_option linter.unusedSimpArgs false
set_option linter.unusedVariables false
set_option maxHeartbeats 8000000
set_option maxRecDepth 100000
namespace Go.Proofs.YtekgpapophibcaaGreat
open Go.RowKit Go.Sort
theorem zF5{ops:Array Oper}{rest:List Oper}{o:Oper}{a:Act}{Q:Exit->Act->World->Prop}(w:World)(Gm:o.guard=none)(s x:Operand)(ho:o.op=.call { callee:=.builtin .append,args:=#[s,x],argTypes:=#[37,37] })
  (B:Nat) (u:Value) (xs:List Val) (hs:a.eval s=.slice none 0 0) (hx:a.eval x=u) (hu:zAV w B u xs) (hl:xs.length<=1048576)
  (h:∀v' w',zAV w' w.heap.size v' xs->Below w.heap.size w w'->wpList Tryz.prog ops Q rest (a.put o.dst v') w'):wpList Tryz.prog ops Q (o::rest) a w:=by
 obtain⟨i4,Qd,z40,z41,z42⟩:=info_parts Tryz.info59
 rcases hu.2 with ⟨rfl,h0⟩|⟨g,cap,cur,rfl,hb,hh,hc,hm,Gp,ht⟩
 ·have e:xs=[]:=List.eq_nil_of_length_eq_zero h0
  subst e
  refine wpList_append_own_none Gm s x 37 ho w.heap.size 59 i4 3 Tryz.underlying37 Qd (.slice none 0 0) 0 [] hs (World.ownsRow_nil _ _ _ _) hx ?_
  exact h _ w (World.ownsRow_nil _ _ _ _) (Below.refl _ _)
 ·refine wpList_append_own_at w Gm s x 37 ho w.heap.size 59 i4 (.agg #[.int .i64 0,.int .i64 0,.string ⟨#[]⟩]) 3 32 Tryz.underlying37 Qd z40 z41 z42 rfl (by decide) (.slice none 0 0) 0 [] hs (World.ownsRow_nil _ _ _ _) ⟨g,0,none⟩ xs.length cap (xs.flatMap c3) hx (zBP xs) (World.ownsRow.cells hu rfl) (zSb xs) (by unfold maxLen;omega) (by omega) (Nat.le_refl _) ?_
  intro v' w' h1 h2 _ Hm
  refine h v' w' ?_ (zAd (B:=w.heap.size) h2 (Nat.le_refl _) (fun g hg=>by simp[Value.ownBlock] at hg))
  unfold zAV
  simpa using h1
def zBx(xs:List Val):Nat->List Val
 | 0=>[]
 | k+1=>zBx xs k++(if k=0∨zAh (atL xs k) (atL xs (k-1))≠0 then [atL xs k] else [])
theorem zDi(xs:List Val):∀k,(zBx xs k).length<=k
 | 0=>Nat.le_refl _
 | k+1=>by
  rw[zBx,zAX]
  have:=zDi xs k
  split<;>simp<;>omega
theorem zLO{xs:List Val}(hc:∀x∈xs,zA8 x=x):∀k,k<xs.length->zBx xs (k+1)=zCw xs k
 | 0,h=>by
  rw[zBx,zBx,zCw,if_pos (.inl rfl),List.nil_append,List.take_one,List.head?_eq_getElem?,zB0 h]
  rfl
 | k+1,h=>by
  rw[zBx,zLO hc k (by omega),zDG (zB0 h) (zB0 (by omega:k<xs.length))]
  congr 1
  rw[Nat.add_sub_cancel]
  have m1:atL xs (k+1)∈xs:=List.mem_of_getElem? (zB0 h)
  have m2:atL xs k∈xs:=List.mem_of_getElem? (zB0 (by omega:k<xs.length))
  by_cases hs:zB1 (atL xs (k+1)) (atL xs k)=true
  ·rw[if_pos hs,if_neg]
   have e:=zC4.1 hs
   rw[e,zC5]
   simp
  ·rw[if_neg hs,if_pos]
   right
   intro h0
   have:=zJc h0
   rw[hc _ m1,hc _ m2] at this
   exact hs (zC4.2 this)
theorem zGZ{xs:List Val}(hc:∀x∈xs,zA8 x=x):zBx xs xs.length=zCH xs:=by
 unfold zCH
 cases h:xs.length with
 | zero=>
  have:xs=[]:=List.eq_nil_of_length_eq_zero h
  subst this
  rfl
 | succ k=>rw[Nat.add_sub_cancel];exact zLO hc k (by omega)
theorem zD1(base:Nat)(xs:List Val)(vv:Value)(w:World)(hl:xs.length<=1048576)(ha:zAV w base vv xs) :
  Calls Tryz.prog 65 #[vv] w fun e w'=>∃S v',e=.returned v'/\Hid (S.Perm xs/\zBe S)/\zAV w' w.heap.size v' (zBx S S.length)/\Below w.heap.size w w':=by
 obtain⟨i4,Qd,z40,z41,z42⟩:=info_parts Tryz.info59
 have HA:=zA3 ha
 have H65:Hid (∀W a8 c8,Hid (zAV W w.heap.size (.slice a8 xs.length c8) xs/\Below w.heap.size w W)->Calls Tryz.prog 89 #[.iface 37 (.slice a8 xs.length c8),.func (.func 90) #[] #[.pointer (some ⟨W.heap.size,0,none⟩)]] (W.alloc (.cells #[.slice a8 xs.length c8] 37)) fun e w'=>e=.returned (.tuple #[])/\∃S,Hid (S.length=xs.length)/\Hid (S.Perm xs/\zBe S)/\Hid (zAR w' a8 S)/\w'.cell? ⟨W.heap.size,0,none⟩=some (.slice a8 xs.length c8)/\Hid (Below w.heap.size w w')):=fun W a8 c8 ⟨h1,h2⟩=>by
  have bl:=zA1 (Below.refl _ W) (.cells #[.slice a8 xs.length c8] 37)
  have Hg:(Value.slice a8 xs.length c8).ownBlock≠some W.heap.size:=fun e=>by have:=(World.ownsRow.lt h1 _ e).2;omega
  have Hs:(W.alloc (.cells #[.slice a8 xs.length c8] 37)).cell? ⟨W.heap.size,0,none⟩=some (.slice a8 xs.length c8):=by simp[go_sem]
  refine(zGl w.heap.size W.heap.size xs _ _ hl (h1.later bl) Hs Hg).mono ?_
  rintro e w' ⟨rfl,S,o1,o2,o3,o4⟩
  obtain⟨a9,c9,e9,_,_,hr⟩:=zAC o1
  injection e9 with e9 _ _
  subst e9
  refine⟨rfl,S,o3.length_eq,⟨o3,o4⟩,hr,?_,?_⟩
  ·rw[zCG o2 (by simp) Hg];exact Hs
  ·exact(zA2 h2 bl).trans (o2.below (by have:=h2.size;simp;omega) fun g e=>(World.ownsRow.lt h1 g e).1)
 clear ha
 go_enter Tryz.func65,Tryz.ntmps65
 go_wp2_with (first
  | (at_builtin;refine zF5 _ rfl _ (.tmp 7) rfl base vv xs rfl rfl (zA0 HA) hl ?_;intro v8 w1 q1 q2;obtain⟨a8,c8,rfl,_⟩:=zAC q1;have Q1:=zA3 (show zAV w1 w.heap.size (.slice a8 xs.length c8) xs/\Below w.heap.size w w1 from⟨q1,q2⟩);clear q1 q2)
  | (go_at_call 89;refine(zA0 H65 _ _ _ Q1).mono ?_;rintro e w2 ⟨rfl,S,HSL,HS,hrS,cB,Qz⟩)
  | fail)
 have HCB:=zA3 cB
 have hltB:w1.heap.size<w2.heap.size:=World.block_lt_of_cell? _ _ cB
 clear cB
 go_loopw[4,15] (fun s4 s wr=>∃k:Nat,k<=xs.length/\s=.int .i64 (k:Int)/\zAV wr w2.heap.size s4 (zBx S k)/\Below w2.heap.size w2 wr) (fun _ s _=>xs.length-(intOf s).toNat)
 case atStart=>exact⟨0,Nat.zero_le _,rfl,World.ownsRow_nil _ _ _ _,Below.refl _ _⟩
 case round=>
  obtain⟨k,hk,rfl,ho,hb⟩:=hrel
  by_cases h8:k<xs.length
  ·have h9:(k:Int)<(xs.length:Int):=by omega
   have hkS:k<S.length:=by rw[zA0 HSL];exact h8
   have hx:=zB0 hkS
   rcases(zA0 hrS).later hb with e|⟨b,off,rfl,hc⟩
   ·rw[e] at hkS;simp at hkS
   obtain⟨c0,c1,c2⟩:=hc k _ hx
   have Hf:(zBx S k).length<=1048576:=by have:=zDi S k;omega
   have Qg:=zA3 Hf
   have QK:=hb.size
   have cB:=cell_later hb (zA0 HCB)
   have bl:=zA1 (Below.refl _ wr) (.cells #[.int .i64 (atL S k).k,.int .i64 (atL S k).n,.string (atL S k).s] 59)
   have QU:=ho.later bl
   have Qa:=zA3 (zA2 hb bl)
   have HU:Hid (zBx S (k+1)=zBx S k++(if k=0∨zAh (atL S k) (atL S (k-1))≠0 then [atL S k] else [])):=rfl
   by_cases Gk:k=0
   ·have HN:Hid (zBx S (k+1)=zBx S k++[atL S k]):=by
     show _=_
     rw[zA0 HU,if_pos (.inl Gk)]
    have yZ:Hid (((k:Int) == 0)=true):=by show _=_;simp;omega
    generalize atL S k=x at *
    clear hc hx ho hb Hf hkS HU Gk
    go_upto_region 7 with fail
    obtain⟨W,hW⟩:∃W,Hid (W=wr.alloc (.cells #[.int .i64 x.k,.int .i64 x.n,.string x.s] 59)):=⟨_,rfl⟩
    have b0:W.cell? ⟨wr.heap.size,0,none⟩=some (.int .i64 x.k):=by rw[zA0 hW];simp[go_sem]
    have b1:W.cell? ⟨wr.heap.size,1,none⟩=some (.int .i64 x.n):=by rw[zA0 hW];simp[go_sem]
    have b2:W.cell? ⟨wr.heap.size,2,none⟩=some (.string x.s):=by rw[zA0 hW];simp[go_sem]
    rw[<-zA0 hW] at QU Qa ⊢
    have YU:=zA3 QU
    clear hW c0 c1 c2 bl QU cB
    go_cut[31] (fun s31 wx=>s31=.bool true/\Below W.heap.size W wx)
    case first=>
     have e0:=zA0 yZ
     refine wp_region_quiet_below (by kernel_rfl) (by kernel_rfl) ?_
     repeat (go_big_quiet_step (first
      | (go_at_call 85;exact Calls.regrown_of (zCd x x _))))
     refine wpQuiet_nil ?_
     intro w' Hp
     have hB:Below W.heap.size W w':=by obtain⟨p,rfl⟩:=Hp;exact below_regrown _ _ _
     clear Hp
     go_wp2
     go_meet
     exact⟨rfl,hB⟩
    case rest=>
     obtain⟨rfl,Hs⟩:=hcut
     rename World=>wx
     have yk:=zA3 ((zA0 YU).later Hs)
     have YI:=zA3 (zA2 (zA0 Qa) Hs)
     replace b0:=cell_later Hs b0
     replace b1:=cell_later Hs b1
     replace b2:=cell_later Hs b2
     clear Hs
     go_wp2_with (at_builtin;refine wpList_append_own_at _ rfl (.tmp 32) (.tmp 34) 37 rfl w2.heap.size 59 i4 (.agg #[.int .i64 0,.int .i64 0,.string ⟨#[]⟩]) 3 32 Tryz.underlying37 Qd z40 z41 z42 rfl (by decide) _ _ _ rfl (World.ownsRow.alloc (zA0 yk) _) ⟨wx.heap.size,0,none⟩ 1 1 (c3 x) rfl rfl (zAy wx x) (zBY _) (by have:=zA0 Qg;unfold maxLen;omega) (by have:=zA0 Qg;omega) (by have:=(zA0 YI).size;simp;omega) ?_;intro v1 w3 Hc Ha _ Hl;have Ya:=zA3 (zB9 Hc);have Hy:Hid ((wx.alloc (.cells #[.int .i64 x.k,.int .i64 x.n,.string x.s] 59)).grownBy w3 u4.ownBlock):=Ha;clear Hc Ha Hl)
     go_roundw
     case rel=>exact⟨k+1,by omega,by go_num,by rw[zA0 HN];exact zA0 Ya,zCT (zA0 YI) (zA0 yk) (Nat.le_refl _) (zA0 Hy)⟩
     case measure=>first | (simp[intOf];done) | (simp only[intOf];omega)
   ·have hp:=zB0 (show k-1<S.length by omega)
    obtain⟨d0,d1,d2⟩:=hc (k-1) _ hp
    have HO:=zA3 (fun W'=>zCd (atL S k) (atL S (k-1)) W')
    rw[Val.open_,Val.open_] at HO
    have ek:(k:Int)-1=((k-1:Nat):Int):=by omega
    have i7:((k-1:Nat):Int)<(xs.length:Int):=by omega
    have e0:((k:Int) == 0)=false:=by simp;omega
    generalize zAh (atL S k) (atL S (k-1))=O at *
    generalize atL S k=x at *
    generalize atL S (k-1)=y at *
    generalize Jv:k-1=k1 at *
    clear hc hx hp ho hb Hf hkS
    go_upto_region 7 with fail
    obtain⟨W,hW⟩:∃W,Hid (W=wr.alloc (.cells #[.int .i64 x.k,.int .i64 x.n,.string x.s] 59)):=⟨_,rfl⟩
    have b0:W.cell? ⟨wr.heap.size,0,none⟩=some (.int .i64 x.k):=by rw[zA0 hW];simp[go_sem]
    have b1:W.cell? ⟨wr.heap.size,1,none⟩=some (.int .i64 x.n):=by rw[zA0 hW];simp[go_sem]
    have b2:W.cell? ⟨wr.heap.size,2,none⟩=some (.string x.s):=by rw[zA0 hW];simp[go_sem]
    have blW:Below wr.heap.size wr W:=by rw[zA0 hW];exact bl
    replace d0:=cell_later blW d0
    replace d1:=cell_later blW d1
    replace d2:=cell_later blW d2
    replace cB:=cell_later blW cB
    rw[<-zA0 hW] at QU Qa ⊢
    have YU:=zA3 QU
    clear hW c0 c1 c2 bl blW QU
    go_cut[31] (fun s31 wx=>s31=.bool (O != 0)/\Below W.heap.size W wx)
    case first=>
     have k0:=cell_regrown b0
     have k1:=cell_regrown b1
     have k2:=cell_regrown b2
     have k3:=cell_regrown d0
     have k4:=cell_regrown d1
     have k5:=cell_regrown d2
     have k6:=cell_regrown cB
     clear b0 b1 b2 d0 d1 d2 cB
     refine wp_region_quiet_below (by kernel_rfl) (by kernel_rfl) ?_
     repeat (go_big_quiet_step (first
      | (go_at_call 85;exact Calls.regrown_of (zA0 HO _))))
     refine wpQuiet_nil ?_
     intro w' Hp
     have hB:Below W.heap.size W w':=by obtain⟨p,rfl⟩:=Hp;exact below_regrown _ _ _
     clear Hp
     go_wp2
     go_meet
     exact⟨rfl,hB⟩
    case rest=>
     obtain⟨rfl,Hs⟩:=hcut
     rename World=>wx
     have yk:=zA3 ((zA0 YU).later Hs)
     have YI:=zA3 (zA2 (zA0 Qa) Hs)
     replace b0:=cell_later Hs b0
     replace b1:=cell_later Hs b1
     replace b2:=cell_later Hs b2
     clear Hs d0 d1 d2 cB
     rcases Bool.eq_false_or_eq_true (O != 0) with e1|e1
     ·have HN:Hid (zBx S (k+1)=zBx S k++[x]):=by
       show _=_
       rw[zA0 HU,if_pos (.inr (by simpa using e1))]
      rw[e1]
      clear HU e1
      go_wp2_with (at_builtin;refine wpList_append_own_at _ rfl (.tmp 32) (.tmp 34) 37 rfl w2.heap.size 59 i4 (.agg #[.int .i64 0,.int .i64 0,.string ⟨#[]⟩]) 3 32 Tryz.underlying37 Qd z40 z41 z42 rfl (by decide) _ _ _ rfl (World.ownsRow.alloc (zA0 yk) _) ⟨wx.heap.size,0,none⟩ 1 1 (c3 x) rfl rfl (zAy wx x) (zBY _) (by have:=zA0 Qg;unfold maxLen;omega) (by have:=zA0 Qg;omega) (by have:=(zA0 YI).size;simp;omega) ?_;intro v1 w3 Hc Ha _ Hl;have Ya:=zA3 (zB9 Hc);have Hy:Hid ((wx.alloc (.cells #[.int .i64 x.k,.int .i64 x.n,.string x.s] 59)).grownBy w3 u4.ownBlock):=Ha;clear Hc Ha Hl)
      go_roundw
      case rel=>exact⟨k+1,by omega,by go_num,by rw[zA0 HN];exact zA0 Ya,zCT (zA0 YI) (zA0 yk) (Nat.le_refl _) (zA0 Hy)⟩
      case measure=>first | (simp[intOf];done) | (simp only[intOf];omega)
     ·have HN:Hid (zBx S (k+1)=zBx S k):=by
       show _=_
       rw[zA0 HU,if_neg (by rintro(h|h);exact Gk h;simp at e1;exact h e1),List.append_nil]
      rw[e1]
      clear HU e1
      go_wp2
      go_roundw
      case rel=>exact⟨k+1,by omega,by go_num,by rw[zA0 HN];exact zA0 yk,zA0 YI⟩
      case measure=>first | (simp[intOf];done) | (simp only[intOf];omega)
  ·have h9:¬(k:Int)<(xs.length:Int):=by omega
   have Qk:k=S.length:=by rw[zA0 HSL];omega
   rw[Qk] at ho
   have HO:=zA3 ho
   have HB:=zA3 (zA2 (zA0 Qz) hb)
   have HZ:=zA3 (zA0 Qz).size
   clear ho hb Qk
   go_wp2
   go_ret
   exact⟨S,_,rfl,HS,zLi (zA0 HO) (zA0 HZ),zA0 HB⟩
theorem zLE(Wd:List Val)(x:Val)(a8:Option Addr)(c8 B8 B3 k:Nat)(W:World)(hk:k<Wd.length)(hl:Wd.length<=1048576)(hr:zAR W a8 Wd)(hb:W.cell? ⟨B8,0,none⟩=some (.slice a8 Wd.length c8))(hx:zEi W B3 x) :
  Calls Tryz.prog 87 #[.int .i64 k,.pointer (some ⟨B8,0,none⟩),.pointer (some ⟨B3,0,none⟩)] W fun e w'=>e=.returned (.bool (!ltV (atL Wd k) x))/\Below W.heap.size W w':=by
 rcases hr with e|⟨b,off,rfl,hc⟩
 ·rw[e] at hk;simp at hk
 obtain⟨c0,c1,c2⟩:=hc k _ (zB0 hk)
 obtain⟨d0,d1,d2⟩:=hx
 have HO:=zA3 (fun W'=>zCd (atL Wd k) x W')
 rw[Val.open_,Val.open_] at HO
 have e0:(!ltV (atL Wd k) x)=decide (0<=zAh (atL Wd k) x):=by
  unfold ltV
  by_cases h:zAh (atL Wd k) x<0
  ·have:¬0<=zAh (atL Wd k) x:=by omega
   simp[h]
  ·have:0<=zAh (atL Wd k) x:=by omega
   simp[h,this]
 rw[e0]
 clear e0
 generalize zAh (atL Wd k) x=O at *
 generalize atL Wd k=y at *
 have i1:(k:Int)<(Wd.length:Int):=by omega
 clear hc
 go_enter Tryz.func87,Tryz.ntmps87
 go_upto_region 1 with fail
 have k0:=cell_regrown c0
 have k1:=cell_regrown c1
 have k2:=cell_regrown c2
 have k3:=cell_regrown d0
 have k4:=cell_regrown d1
 have k5:=cell_regrown d2
 have k6:=cell_regrown hb
 clear c0 c1 c2 d0 d1 d2 hb
 refine wp_region_quiet_below (by kernel_rfl) (by kernel_rfl) ?_
 repeat (go_big_quiet_step (first
  | (go_at_call 85;exact Calls.regrown_of (zA0 HO _))))
 refine wpQuiet_nil ?_
 intro w' Hp
 have hB:Below W.heap.size W w':=by obtain⟨p,rfl⟩:=Hp;exact below_regrown _ _ _
 clear Hp
 go_wp2
 go_ret
 exact⟨rfl,hB⟩
theorem zMa(Wd:List Val)(x:Val)(a8:Option Addr)(c8 B8 B3:Nat)(w:World)(hl:Wd.length<=1048576)(hri:zBe Wd)(hr:zAR w a8 Wd)(hb:w.cell? ⟨B8,0,none⟩=some (.slice a8 Wd.length c8))(hx:zEi w B3 x) :
  Calls Tryz.prog 86 #[.int .i64 Wd.length,.func (.func 87) #[] #[.pointer (some ⟨B8,0,none⟩),.pointer (some ⟨B3,0,none⟩)]] w fun e w'=>e=.returned (.int .i64 (zF1 Wd x:Int))/\Below w.heap.size w w':=by
 have HC:Hid (∀W k,Below w.heap.size w W->k<Wd.length->Calls Tryz.prog 87 #[.int .i64 (k:Nat),.pointer (some ⟨B8,0,none⟩),.pointer (some ⟨B3,0,none⟩)] W fun e w'=>e=.returned (.bool (!ltV (atL Wd k) x))/\Below W.heap.size W w'):=fun W k hW hk=>zLE Wd x a8 c8 B8 B3 k W hk hl (hr.later hW) (cell_later hW hb) (hx.later hW)
 have HP:Hid (∀k,k<=Wd.length->(∀a y,a<k->Wd[a]?=some y->zAh y x<0)->(∀a y,k<=a->Wd[a]?=some y->¬zAh y x<0)->zF1 Wd x=k):=fun k h1 h2 h3=>zKm h1 h2 h3
 have HM:=zA3 (hri.mono x)
 generalize zF1 Wd x=R at *
 clear hr hb hx hri
 go_enter Tryz.func86,Tryz.ntmps86
 go_wp2_with fail
 go_loopw[5,6] (fun s5 s6 wr=>∃i j:Nat,s5=.int .i64 (i:Int)/\s6=.int .i64 (j:Int)/\i<=j/\j<=Wd.length/\Hid (∀a y,a<i->Wd[a]?=some y->zAh y x<0)/\Hid (∀a y,j<=a->Wd[a]?=some y->0<=zAh y x)/\Below w.heap.size w wr) (fun s5 s6 _=>(intOf s6-intOf s5).toNat)
 case atStart=>exact⟨0,Wd.length,rfl,rfl,Nat.zero_le _,Nat.le_refl _,fun a y h=>(by omega),fun a y h h2=>(by rw[List.getElem?_eq_none (by omega)] at h2;cases h2),Below.refl _ _⟩
 case round=>
  obtain⟨i,j,rfl,rfl,ZX,Jw,YB,ZM,hb⟩:=hrel
  by_cases h1:i<j
  ·have i1:(i:Int)<(j:Int):=by omega
   obtain⟨h,hh⟩:∃h,h=(i+j) / 2:=⟨_,rfl⟩
   have eh:((i:Int)+(j:Int)) / 2=(h:Int):=by omega
   have i3:(i:Int)+(j:Int)<=2097152:=by omega
   have DS:i<=h/\h<j:=by omega
   have Zs:=zA3 DS
   have HL:=zA3 (zA0 HC wr h hb (by omega))
   have HB:=zA3 hb
   have hx:=zB0 (show h<Wd.length by omega)
   have HX:=zA3 hx
   clear hh DS hb hx
   cases He:ltV (atL Wd h) x
   ·rw[He] at HL
    have Gf:Hid (∀a y,h<=a->Wd[a]?=some y->0<=zAh y x):=fun a y ha hy=>by
     have h3:=zN6 He
     rcases Int.lt_or_le (zAh y x) 0 with h4|h4
     ·exact absurd (zA0 HM h a _ y ha (zA0 HX) hy h4) h3
     ·exact h4
    clear He
    go_wp2_with (go_at_call 87;refine(zA0 HL).mono ?_;rintro e w2 ⟨rfl,Hh⟩;replace Hh:=zA3 Hh)
    go_roundw
    case rel=>exact⟨i,h,rfl,by go_num,(zA0 Zs).1,by have:=zA0 Zs;omega,YB,Gf,zA2 (zA0 HB) (zA0 Hh)⟩
    case measure=>have:=zA0 Zs;first | (simp[intOf];omega) | (simp only[intOf];omega)
   ·rw[He] at HL
    have KJ:Hid (∀a y,a<h+1->Wd[a]?=some y->zAh y x<0):=fun a y ha hy=>zA0 HM a h y _ (by omega) hy (zA0 HX) (zN5 He)
    clear He
    go_wp2_with (go_at_call 87;refine(zA0 HL).mono ?_;rintro e w2 ⟨rfl,Hh⟩;replace Hh:=zA3 Hh)
    go_roundw
    case rel=>exact⟨h+1,j,by go_num,rfl,by have:=zA0 Zs;omega,Jw,KJ,ZM,zA2 (zA0 HB) (zA0 Hh)⟩
    case measure=>have:=zA0 Zs;first | (simp[intOf];omega) | (simp only[intOf];omega)
  ·have i1:¬(i:Int)<(j:Int):=by omega
   have ZA:i=j:=by omega
   have HE:Hid (R=i):=by
    show _=_
    exact zA0 HP i (by omega) (zA0 YB) (fun a y h2 h3=>zA0 ZM a y (by omega) h3)
   have HB:=zA3 hb
   clear hb ZA
   go_wp2
   go_ret
   exact⟨by rw[zA0 HE];rfl,zA0 HB⟩
theorem zEY(w:World):Calls Tryz.prog 82 #[.bool true] w fun e w'=>e=.returned (.agg #[.int .i64 1,.int .i64 1,.string ⟨#[]⟩])/\Below w.heap.size w w':=by
 go_enter Tryz.func82,Tryz.ntmps82
 go_wp2_with (go_at_call 37;refine(zDn _ _).mono ?_;rintro e w1 ⟨rfl,Hb⟩;obtain⟨Qj,QM⟩:=zCR Hb;rw[Val.open_])
 refine bodyPost_ret (v:=.agg #[.int .i64 1,.int .i64 1,.string ⟨#[]⟩]) (by simp[results,Tryz.results82,go_sem,Val.v,Val.num,Qj,QM]) rfl ⟨rfl,?_⟩
 exact(((zA2 (zA1 (Below.refl _ w) _) Hb).setCell (by simp) _).setCell (by simp) _).setCell (by simp) _
theorem zFE(w:World):Calls Tryz.prog 82 #[.bool false] w fun e w'=>e=.returned (.agg #[.int .i64 1,.int .i64 0,.string ⟨#[]⟩])/\Below w.heap.size w w':=by
 go_enter Tryz.func82,Tryz.ntmps82
 go_wp2_with (go_at_call 37;refine(zDn _ _).mono ?_;rintro e w1 ⟨rfl,Hb⟩;obtain⟨Qj,QM⟩:=zCR Hb;rw[Val.open_])
 refine bodyPost_ret (v:=.agg #[.int .i64 1,.int .i64 0,.string ⟨#[]⟩]) (by simp[results,Tryz.results82,go_sem,Val.v,Val.num,Qj,QM]) rfl ⟨rfl,?_⟩
 exact(((zA2 (zA1 (Below.refl _ w) _) Hb).setCell (by simp) _).setCell (by simp) _).setCell (by simp) _
theorem zMd(X:Vc)(p:Sl)(sch:Int)(w:World)(hs:small X)(hp:zAi w X p)(Ql:zFU X sch=true) :
  Calls Tryz.prog 63 #[zCC X p,.int .i64 sch] w fun e w'=>e=.returned (.tuple #[.string ⟨#[]⟩,.int .i64 1])/\Below w.heap.size w w':=by
 rw[zAM]
 have bl:=zA1 (Below.refl _ w) (.cells #[.int .i64 X.k,.slice p.a1 X.nl.length p.c1,.slice p.a2 X.ns.length p.c2,.slice p.a3 X.ss.length p.c3] 49)
 have HG:=zA3 (zCi X p _ hs (hp.later bl))
 rw[zAM] at HG
 cases hg:zAg X
 ·rw[hg] at HG
  clear Ql hg
  go_enter Tryz.func63,Tryz.ntmps63
  go_wp2_with (go_at_call 69;refine(zA0 HG).mono ?_;rintro e w1 ⟨rfl,Hb⟩;obtain⟨Qj,_⟩:=zCR Hb)
  refine bodyPost_ret (v:=.tuple #[.string ⟨#[]⟩,.int .i64 1]) (by simp[results,Tryz.results63,go_sem]) rfl ⟨rfl,zA2 bl Hb⟩
 ·rw[hg] at HG
  simp only[zFU,hg,Bool.not_true,Bool.false_or,Bool.or_eq_true,decide_eq_true_eq,Bool.and_eq_true,beq_iff_eq] at Ql
  have FACT:Hid (∀w1,Below (w.alloc (.cells #[.int .i64 X.k,.slice p.a1 X.nl.length p.c1,.slice p.a2 X.ns.length p.c2,.slice p.a3 X.ss.length p.c3] 49)).heap.size (w.alloc (.cells #[.int .i64 X.k,.slice p.a1 X.nl.length p.c1,.slice p.a2 X.ns.length p.c2,.slice p.a3 X.ss.length p.c3] 49)) w1->w1.cell? ⟨w.heap.size,0,none⟩=some (.int .i64 X.k)/\Hid (Below w.heap.size w w1)):=fun w1 Hb=>by
   obtain⟨Qj,_⟩:=zCR Hb
   refine⟨?_,zA2 bl Hb⟩
   rw[Qj _ _ (by simp)];simp[go_sem]
  clear hg bl
  rcases Ql with (h|h)|⟨h1,h2⟩
  ·go_enter Tryz.func63,Tryz.ntmps63
   go_wp2_with (go_at_call 69;refine(zA0 HG).mono ?_;rintro e w1 ⟨rfl,Hb⟩;obtain⟨c0,Hw⟩:=zA0 FACT _ Hb;clear Hb)
   refine bodyPost_ret (v:=.tuple #[.string ⟨#[]⟩,.int .i64 1]) (by simp[results,Tryz.results63,go_sem]) rfl ⟨rfl,zA0 Hw⟩
  ·have h3:¬sch<1:=by omega
   go_enter Tryz.func63,Tryz.ntmps63
   go_wp2_with (go_at_call 69;refine(zA0 HG).mono ?_;rintro e w1 ⟨rfl,Hb⟩;obtain⟨c0,Hw⟩:=zA0 FACT _ Hb;clear Hb)
   refine bodyPost_ret (v:=.tuple #[.string ⟨#[]⟩,.int .i64 1]) (by simp[results,Tryz.results63,go_sem]) rfl ⟨rfl,zA0 Hw⟩
  ·subst h1
   rw[h2] at FACT HG
   rw[h2]
   clear h2
   go_enter Tryz.func63,Tryz.ntmps63
   go_wp2_with (go_at_call 69;refine(zA0 HG).mono ?_;rintro e w1 ⟨rfl,Hb⟩;obtain⟨c0,Hw⟩:=zA0 FACT _ Hb;clear Hb)
   refine bodyPost_ret (v:=.tuple #[.string ⟨#[]⟩,.int .i64 1]) (by simp[results,Tryz.results63,go_sem]) rfl ⟨rfl,zA0 Hw⟩
theorem zJM(X:Vc)(p:Sl)(sch:Int)(w:World)(hs:small X)(hp:zAi w X p)(Ql:zFU X sch=false)(Jz:4096<X.nl.length) :
  Calls Tryz.prog 63 #[zCC X p,.int .i64 sch] w fun e w'=>e=.returned (.tuple #[.string ⟨#[]⟩,.int .i64 3])/\Below w.heap.size w w':=by
 rw[zAM]
 have bl:=zA1 (Below.refl _ w) (.cells #[.int .i64 X.k,.slice p.a1 X.nl.length p.c1,.slice p.a2 X.ns.length p.c2,.slice p.a3 X.ss.length p.c3] 49)
 have HG:=zA3 (zCi X p _ hs (hp.later bl))
 rw[zAM] at HG
 simp only[zFU,Bool.or_eq_false_iff,Bool.not_eq_false',decide_eq_false_iff_not] at Ql
 obtain⟨⟨⟨hg,h1⟩,h2⟩,h3⟩:=Ql
 rw[hg] at HG
 have Qh:Hid ((zAD X).length=X.nl.length):=zAb hg
 have Yf:X.nl.length<=1048576:=hs.1
 have FACT:Hid (∀w1,Below (w.alloc (.cells #[.int .i64 X.k,.slice p.a1 X.nl.length p.c1,.slice p.a2 X.ns.length p.c2,.slice p.a3 X.ss.length p.c3] 49)).heap.size (w.alloc (.cells #[.int .i64 X.k,.slice p.a1 X.nl.length p.c1,.slice p.a2 X.ns.length p.c2,.slice p.a3 X.ss.length p.c3] 49)) w1->(w1.cell? ⟨w.heap.size,0,none⟩=some (.int .i64 X.k)/\w1.cell? ⟨w.heap.size,1,none⟩=some (.slice p.a1 X.nl.length p.c1)/\w1.cell? ⟨w.heap.size,2,none⟩=some (.slice p.a2 X.ns.length p.c2)/\w1.cell? ⟨w.heap.size,3,none⟩=some (.slice p.a3 X.ss.length p.c3))/\Hid (Below w.heap.size w w1)):=fun w1 Hb=>by
  obtain⟨Qj,_⟩:=zCR Hb
  refine⟨⟨?_,?_,?_,?_⟩,zA2 bl Hb⟩<;>(rw[Qj _ _ (by simp)];simp[go_sem])
 have HV:Hid (∀W,Hid (Below w.heap.size w W)->Calls Tryz.prog 64 #[.agg #[.int .i64 X.k,.slice p.a1 X.nl.length p.c1,.slice p.a2 X.ns.length p.c2,.slice p.a3 X.ss.length p.c3]] W fun e w'=>∃a6 c6,e=.returned (.slice a6 X.nl.length c6)/\Hid (zAR w' a6 (zAD X))/\Hid (Below w.heap.size w w')):=fun W hW=>by
  have:=zCJ X p W hs (hp.later hW)
  rw[zAM] at this
  refine this.mono fun e w' ⟨v,he,h1,h2⟩=>?_
  obtain⟨a6,c6,rfl,_,_,hr⟩:=zAC h1
  rw[zAb hg] at he
  exact⟨a6,c6,he,hr,zA2 hW h2⟩
 have QQ:Hid (∀W a6 c6,Hid (zAR W a6 (zAD X))->Hid (Below w.heap.size w W)->Calls Tryz.prog 66 #[.slice a6 X.nl.length c6] W fun e w'=>∃a7 c7,e=.returned (.slice a7 (zAA (zAD X)).length c7)/\Hid (zAV w' W.heap.size (.slice a7 (zAA (zAD X)).length c7) (zAA (zAD X)))/\Hid (Below w.heap.size w w')):=fun W a6 c6 hr hW=>by
  have:=zDZ a6 c6 (zAD X) W (by rw[zAb hg];exact Yf) hr
  rw[zAb hg] at this
  refine this.mono fun e w' ⟨v,he,h1,h2⟩=>?_
  obtain⟨a7,c7,rfl,_,_,_⟩:=zAC h1
  exact⟨a7,c7,he,h1,zA2 hW h2⟩
 have Zr:Hid (∀W B a7 c7,Hid (zAV W B (.slice a7 (zAA (zAD X)).length c7) (zAA (zAD X)))->Hid (Below w.heap.size w W)->Calls Tryz.prog 65 #[.slice a7 (zAA (zAD X)).length c7] W fun e w'=>∃S a8 c8,e=.returned (.slice a8 (zBx S S.length).length c8)/\Hid (S.Perm (zAA (zAD X))/\zBe S)/\Hid (zAR w' a8 (zBx S S.length))/\Hid (Below w.heap.size w w')):=fun W B a7 c7 ho hW=>by
  refine(zD1 B (zAA (zAD X)) _ W (Nat.le_trans (zC1 _) (by rw[zAb hg];exact Yf)) ho).mono fun e w' ⟨S,v,he,h1,h2,h3⟩=>?_
  obtain⟨a8,c8,rfl,_,_,hr⟩:=zAC h2
  exact⟨S,a8,c8,he,h1,hr,zA2 hW h3⟩
 have i1:(4096:Int)<(X.nl.length:Int):=by omega
 generalize (zAA (zAD X)).length=NY at *
 clear hg bl hs hp
 have hc:((sch == 4)=true/\(X.k == 2)=false)∨(sch == 4)=false:=by
  rcases Bool.eq_false_or_eq_true (sch == 4) with e4|e4
  ·left;exact⟨e4,by simpa [e4] using h3⟩
  ·exact .inr e4
 clear h3
 rcases hc with ⟨e4,e5⟩|e4
 all_goals
  go_enter Tryz.func63,Tryz.ntmps63
  go_wp2_with (first
   | (go_at_call 69;refine(zA0 HG).mono ?_;rintro e w1 ⟨rfl,Hb⟩;obtain⟨⟨c0,c1,c2,c3⟩,Hw⟩:=zA0 FACT _ Hb;clear Hb)
   | (go_at_call 64;refine(zA0 HV _ Hw).mono ?_;rintro e w2 ⟨a6,c6,rfl,R6,Hh⟩)
   | (go_at_call 66;refine(zA0 QQ _ _ _ R6 Hh).mono ?_;rintro e w3 ⟨a7,c7,rfl,R7,Hz⟩)
   | (go_at_call 65;refine(zA0 Zr _ _ _ _ R7 Hz).mono ?_;rintro e w4 ⟨S,a8,c8,rfl,HS,R8,Qe⟩))
  refine bodyPost_ret (v:=.tuple #[.string ⟨#[]⟩,.int .i64 3]) (by simp[results,Tryz.results63,go_sem]) rfl ⟨rfl,zA1 (zA0 Qe) _⟩
def zCX(xs:List Val):Nat:=(xs.takeWhile fun y=>decide (zAh y (xs.headD Val.null)=0)).length
def zE9:Nat->List Val->List Int
 | 0,_=>[]
 | _+1,[]=>[]
 | f+1,x::xs=>(beL (zCX (x::xs):Int) 4 4++zB8 x)++zE9 f ((x::xs).drop (zCX (x::xs)))
def zEA:Nat->List Val->Nat
 | 0,_=>0
 | _+1,[]=>0
 | f+1,x::xs=>1+zEA f ((x::xs).drop (zCX (x::xs)))
def zH0(W:List Val):Int:=if W.length=0 then 0 else (atL W (W.length-1)).n
def zDO(W:List Val):Int:=if W.length=0 then 0 else (atL W 0).n
def zJd(W ys:List Val):List Int:=(beL (IntKind.u64.wrap (zDO W)) 8 8++beL (bl ((zH0 W-zDO W) % 18446744073709551616).toNat:Int) 1 1)++leB (zBG (bl ((zH0 W-zDO W) % 18446744073709551616).toNat) (ys.map (zCl (zDO W)))) (zAO ys.length (bl ((zH0 W-zDO W) % 18446744073709551616).toNat))
def zK9(n:Nat)(ys:List Val)(b:List Int):Prop:=
 (n=1/\b=zBO ys)∨(n=2/\b=beL (zEA ys.length ys:Int) 4 4++zE9 ys.length ys)∨(n=3/\∃S,S.Perm ys/\zBe S/\b=zDA (zBx S S.length) ys)∨(n=4/\∃S,S.Perm ys/\zBe S/\b=zJd (zBx S S.length) ys)
theorem zRn(n kd:Nat)(hn:n<256)(hk:kd<256):toB [(n:Int),(kd:Int)]=toB (beL (n:Int) 1 1++beL (kd:Int) 1 1):=by
 congr 1
 simp[beL,beN]
 omega
end Go.Proofs.YtekgpapophibcaaGreat
