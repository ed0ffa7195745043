import Derived.Test.YtekgpapophibcaaGreatSrT
import Derived.Test.YtekgpapophibcaaGreatSrP
set_option linter.unusedSimpArgs false
set_option linter.unusedVariables false
set_option maxHeartbeats 4000000
set_option maxRecDepth 100000
namespace Go.Proofs.YtekgpapophibcaaGreat
open Go.RowKit Go.Sort
theorem zOL{l:List UInt8}(hl:l.length<=140737488300000){Xs:List Vc}{ps:List (ByteArray×ByteArray)}(h:Seg l Xs ps)(cs:List Int)(a:Option Addr)(cp:Nat)(w:World)(YN:cs.length<=1048576)(ha:zAp w a (cs.map (Value.int .i64))):Calls Tryz.prog 20 #[.string (bs l),.slice a cs.length cp] w fun e w'=>zSL w w' Xs (zCn l) cs e:=by
 obtain⟨j4,FI,y40,y41,y42⟩:=info_parts Tryz.info49'
 obtain⟨k7,hk7,x70,x71,x72⟩:=info_parts Tryz.info37
 have HO:=zA3 (fun W=>zFd hl h W)
 have hn:=h.lay.len
 have Hk:=h.lay.rows
 have ZI:Hid (∀X∈Xs,small X):=fun X hX=>(h.lay.fit hX).small
 rw[<-hn] at HO
 obtain⟨rows,QZ⟩:∃rows,zCn l=rows:=⟨_,rfl⟩
 rw[QZ] at HO Hk ⊢
 obtain⟨n,Yb⟩:∃n,Xs.length=n:=⟨_,rfl⟩
 rw[Yb] at HO
 have QS:=zA3 Yb
 have HA:=zA3 ha
 obtain⟨m,hm⟩:∃m,cs.length=m:=⟨_,rfl⟩
 rw[hm] at YN ⊢
 have HM:=zA3 hm
 have Qf:=zA3 Hk
 clear h hn Yb QZ ha hm Hk
 have im:(m:Int)<=1048576:=by omega
 go_enter Tryz.func20,Tryz.ntmps20
 go_wp2_with (first
  | (go_at_call 43;refine(zA0 HO _).mono ?_;rintro _ w2 ⟨Cs,az,ac,cz,cc,rfl,hx,-,hc,-,hb⟩;have HX:=zA3 hx;have HC:=zA3 hc;have HB:=zA3 hb;clear hx hc hb)
  | (at_make;refine zB5 _ rfl (.tmp 20) (.tmp 20) 66 rfl 49 j4 _ Tryz.underlying66 FI y40 4 y41 .i64 .i64 m rfl rfl (by rw[y42];omega) (by omega) ?_))
 have hg:=zCO (zEX w2 (rows:Int) (.slice az n cz) (.slice ac n cc))
 have S0:=zQW.start (Below.refl _ (w2.alloc (.cells #[.int .i64 (rows:Int),.slice az n cz,.slice ac n cc] 89))) m #[.int .i64 0,.slice none 0 0,.slice none 0 0,.slice none 0 0]
 have TA:=zA3 ((zA0 HC).later (zA1 (Below.refl _ w2) (.cells #[.int .i64 (rows:Int),.slice az n cz,.slice ac n cc] 89)))
 have Yo:=zA3 (zA1 (zA0 HB) (.cells #[.int .i64 (rows:Int),.slice az n cz,.slice ac n cc] 89))
 rw[show (w2.alloc (.cells #[.int .i64 (rows:Int),.slice az n cz,.slice ac n cc] 89)).heap.size=w2.heap.size+1 by simp] at S0
 obtain⟨w3,JR⟩:∃w3,w2.alloc (.cells #[.int .i64 (rows:Int),.slice az n cz,.slice ac n cc] 89)=w3:=⟨_,rfl⟩
 rw[JR] at hg S0 TA Yo ⊢
 obtain⟨S,hS⟩:∃S,w2.heap.size+1=S:=⟨_,rfl⟩
 rw[hS] at S0 ⊢
 have HG:=zA3 hg.1
 have QQ:=zA3 S0
 obtain⟨w4,hw4⟩:∃w4,w3.alloc (.cells (madeCells #[.int .i64 0,.slice none 0 0,.slice none 0 0,.slice none 0 0] (m*4)) 49)=w4:=⟨_,rfl⟩
 rw[hw4] at QQ ⊢
 clear JR hS hg S0 hw4 HO HC HB
 go_loopw[24] (fun s wr=>∃(j:Nat) (Ps:List (Vc×Sl)),j<=m/\s=.int .i64 (j:Int)/\Hid (Ps.length=j)/\Hid (zQW w3 wr S m Ps)/\Hid (∀(i:Nat) (c:Int),i<j->cs[i]?=some c->zGM n c=false)/\Hid (∀(i:Nat) (c:Int) (q:Vc×Sl),cs[i]?=some c->Ps[i]?=some q->Xs[c.toNat]?=some q.1)) (fun s _=>m-(intOf s).toNat)
 case atStart=>exact⟨0,[],Nat.zero_le _,rfl,rfl,QQ,fun i c hi=>absurd hi (by omega),fun i c q _ hq=>by simp at hq⟩
 case round=>
  obtain⟨j,Ps,hj,rfl,Za,HD,HN,HQ⟩:=hrel
  clear QQ
  by_cases qy:j<m
  ·have ij:(j:Int)<(m:Int):=by omega
   obtain⟨c,hc⟩:∃c,cs[j]?=some c:=⟨_,zAf (by rw[zA0 HM];exact qy)⟩
   obtain⟨ab,ao,rfl,qa⟩:=zDT ((zA0 HA).later (zA2 (zA0 Yo) (zA0 HD).bel)) (show (cs.map (Value.int .i64))[j]?=some (.int .i64 c) by simp[hc])
   have Hj:=cell_later (zA0 HD).bel (zA0 HG).2.2
   by_cases Zy:zGM n c=true
   ·have HR:Hid (cs.any (zGM Xs.length)=true):=by
     show _=_
     rw[zA0 QS]
     exact List.any_eq_true.2 ⟨c,List.mem_of_getElem? hc,Zy⟩
    have QV:=zA3 (zA2 (zA0 Yo) (zA0 HD).bel)
    clear TA HD HN HQ hc
    by_cases h0:c<0
    ·go_wp2
     go_ret2
     exact .inl ⟨zA0 HR,rfl,zA0 QV⟩
    ·have h1:(n:Int)<=c:=by
      unfold zGM at Zy
      simp only[h0,decide_false,Bool.false_or,decide_eq_true_eq] at Zy
      exact Zy
     clear Zy
     go_wp2
     go_ret2
     exact .inl ⟨zA0 HR,rfl,zA0 QV⟩
   ·have hof:zGM n c=false:=by simpa using Zy
    have h01:0<=c/\c<(n:Int):=by
     unfold zGM at hof
     simp only[Bool.or_eq_false_iff,decide_eq_false_iff_not] at hof
     omega
    obtain⟨q,rfl⟩:∃q:Nat,c=(q:Int):=⟨c.toNat,by omega⟩
    have hqn:q<n:=by omega
    have hCl:Cs.length=n:=by rw[<-zA0 QS,<-zA0 HX,List.length_map]
    obtain⟨d,hd⟩:∃d,Cs[q]?=some d:=⟨_,zAf (by omega)⟩
    obtain⟨cb,co,rfl,c0,c1,c2,c3⟩:=zIn ((zA0 TA).later (zA0 HD).bel) hd
    obtain⟨v0,v1,v2,v3,e0,e1,e2,e3,f0,f1,f2,f3⟩:=(zA0 HD).cells (k:=j) qy
    obtain⟨t,ht⟩:∃t,co+q*4=t:=⟨_,rfl⟩
    have qm:=zA3 ((zA0 HD).step ((zA0 TA).2 d (List.mem_of_getElem? hd)) (k:=j) (zA0 Za))
    have HX2:Hid (Xs[q]?=some d.1):=by show _=_;rw[<-zA0 HX,List.getElem?_map,hd];rfl
    have i0:¬(q:Int)<0:=by omega
    have i1:¬(n:Int)<=(q:Int):=by omega
    have i2:(q:Int)<(n:Int):=by omega
    have HOF:=zA3 hof
    have Jo:=zA3 hc
    clear Zy hof h01 hd hc TA HD hCl ht
    go_wp2
    go_roundw
    case rel=>
     refine⟨j+1,Ps++[d],by omega,by go_num,by show _=_;rw[zAX,zA0 Za];rfl,qm,?_,?_⟩
     ·intro i c hi GO
      by_cases e:i=j
      ·subst e
       rw[zA0 Jo] at GO
       injection GO with GO
       rw[<-GO]
       exact zA0 HOF
      ·exact zA0 HN i c (by omega) GO
     ·intro i c x GO hx
      by_cases e:i<j
      ·rw[List.getElem?_append_left (by rw[zA0 Za];exact e)] at hx
       exact zA0 HQ i c x GO hx
      ·have e2:i=j:=by
        have:=(zAL hx).1
        simp[zA0 Za] at this
        omega
       subst e2
       rw[List.getElem?_append_right (by rw[zA0 Za];omega),zA0 Za] at hx
       simp at hx
       subst hx
       rw[zA0 Jo] at GO
       injection GO with GO
       rw[<-GO]
       exact zA0 HX2
    case measure=>first | (simp[intOf];omega) | (simp only[intOf];omega)
  ·have yM:j=m:=by omega
   subst yM
   have ij:¬(j:Int)<(j:Int):=by omega
   have HAN:Hid (cs.any (zGM Xs.length)=false):=by
    show _=_
    rw[zA0 QS]
    refine List.any_eq_false.2 fun c hc=>?_
    obtain⟨i,hi,e⟩:=List.mem_iff_getElem.1 hc
    rw[zA0 HN i c (by rw[<-zA0 HM];exact hi) (by rw[zAf hi,e])]
    simp
   have hg0:=cell_later (zA0 HD).bel (zA0 HG).1
   have QV:=zA3 (zA2 (zA0 Yo) (zA0 HD).bel)
   by_cases hz:j=0
   ·subst hz
    have HE:Hid (cs=[]):=List.eq_nil_of_length_eq_zero (zA0 HM)
    have ir:(rows:Int)<=4096:=by have:=zA0 Qf;omega
    clear HD HN HQ
    go_wp2_with (at_make;refine wpList_make_row _ rfl (.tmp 51) (.tmp 51) 23 rfl 37 k7 (.slice none 0 0) Tryz.underlying23 hk7 x70 x71 rfl .i64 .i64 rows rfl rfl (by rw[x72];have:=zA0 Qf;omega) (by have:=zA0 Qf;omega) ?_)
    go_ret2
    refine .inr (.inl ⟨zA0 HAN,zA0 HE,some ⟨wr.heap.size,0,none⟩,rows,rfl,.inr ⟨_,_,rfl,fun i x hx=>?_⟩,zA1 (zA0 QV) _⟩)
    have hr:=World.rowIs_made wr (.slice none 0 0) rows 37
    rw[List.getElem?_replicate] at hx
    split at hx
    ·rename_i hi
     rw[Nat.zero_add,World.rowIs.cell hr hi]
     exact hx
    ·cases hx
   ·have Qp:((j:Int) == 0)=false:=by simp;exact hz
    have KA:=zA3 ((zA0 HD).cols (zA0 Za))
    have HT:=zA3 (zOA (some ⟨S,0,none⟩) j Ps wr (by rw[zA0 Za];exact YN) (fun x hx=>by
     obtain⟨i,hi,e⟩:=List.mem_iff_getElem.1 hx
     have GO:i<cs.length:=by rw[zA0 HM,<-zA0 Za];exact hi
     have:=zA0 HQ i _ x (zAf GO) (by rw[zAf hi,e])
     exact zA0 ZI _ (List.mem_of_getElem? this)) (zA0 KA))
    rw[zA0 Za] at HT
    have Gq:Hid (cs≠[]):=fun e=>hz (by rw[<-zA0 HM,e];rfl)
    clear HD HN hz
    go_wp2_with (go_at_call 47;refine(zA0 HT).mono ?_;rintro _ w5 ⟨v5,rfl,YS,QO⟩)
    go_ret2
    exact .inr (.inr ⟨zA0 HAN,zA0 Gq,Ps,v5,by rw[zA0 Za,zA0 HM],zA0 HQ,rfl,YS,zA2 (zA0 QV) QO⟩)
theorem zE8(aa ab:Option Addr)(ca cb:Nat)(xs:List Val)(w:World)(qx:xs.length<=maxLen)(ha:zAR w aa xs)(hb:zAR w ab xs) :
  Calls Tryz.prog 45 #[.slice aa xs.length ca,.slice ab xs.length cb] w fun e w'=>e=.returned (.bool true)/\Below w.heap.size w w':=by
 unfold maxLen at qx
 go_enter Tryz.func45,Tryz.ntmps45
 go_wp2_with fail
 go_loopw[13] (fun i wr=>∃k:Nat,k<=xs.length/\i=.int .i64 k/\Below w.heap.size w wr) (fun i wx=>xs.length-(intOf i).toNat)
 case atStart=>exact⟨0,Nat.zero_le _,rfl,Below.refl _ _⟩
 case round=>
  obtain⟨k,Jv,rfl,Hx⟩:=hrel
  have ZR:=ha.later Hx
  have Yl:=hb.later Hx
  by_cases h1:k<xs.length
  ·obtain⟨x,hx⟩:∃x,xs[k]?=some x:=⟨_,zAf h1⟩
   rcases ZR with e|⟨ba,oa,rfl,Qq⟩
   ·subst e;simp at h1
   rcases Yl with e|⟨bb,ob,rfl,JV⟩
   ·subst e;simp at h1
   obtain⟨c0,c1,c2⟩:=Qq k x hx
   obtain⟨d0,d1,d2⟩:=JV k x hx
   have i1:(k:Int)<(xs.length:Int):=by omega
   clear Qq JV hx
   go_wp2_with fail
   go_quiet (fail)
   go_wp2
   go_roundw
   case rel=>exact⟨k+1,by omega,by go_num,zBE Hx _⟩
   case measure=>simp[intOf];omega
  ·have i1:¬(k:Int)<(xs.length:Int):=by omega
   go_wp2
   go_ret
   exact⟨rfl,Hx⟩
theorem zDl(aa ab:Option Addr)(ca cb:Nat)(rs:List (List Val))(w:World)(qx:rs.length<=maxLen)(qw:∀r∈rs,r.length<=maxLen)(ha:zCY w aa rs)(hb:zCY w ab rs) :
  Calls Tryz.prog 21 #[.slice aa rs.length ca,.slice ab rs.length cb] w fun e w'=>e=.returned (.bool true)/\Below w.heap.size w w':=by
 unfold maxLen at qx
 have KH:=zA3 qw
 clear qw
 go_enter Tryz.func21,Tryz.ntmps21
 go_wp2_with fail
 go_loopw[13] (fun i wr=>∃k:Nat,k<=rs.length/\i=.int .i64 k/\Below w.heap.size w wr) (fun i wx=>rs.length-(intOf i).toNat)
 case atStart=>exact⟨0,Nat.zero_le _,rfl,Below.refl _ _⟩
 case round=>
  obtain⟨k,Jv,rfl,Hx⟩:=hrel
  have ZR:=ha.later Hx
  have Yl:=hb.later Hx
  by_cases h1:k<rs.length
  ·obtain⟨r,hr⟩:∃r,rs[k]?=some r:=⟨_,zAf h1⟩
   rcases ZR with e|⟨ba,oa,rfl,Qq⟩
   ·subst e;simp at h1
   rcases Yl with e|⟨bb,ob,rfl,JV⟩
   ·subst e;simp at h1
   obtain⟨r1,c1,e1,d1⟩:=Qq k r hr
   obtain⟨r2,c2,e2,d2⟩:=JV k r hr
   have i1:(k:Int)<(rs.length:Int):=by omega
   have HM:=zA3 (zA0 KH r (List.mem_of_getElem? hr))
   have HD1:=zA3 d1
   have qm:=zA3 d2
   have k1:=cell_regrown e1
   have k2:=cell_regrown e2
   have HC:Hid (∀d os,Calls Tryz.prog 45 #[.slice r1 r.length c1,.slice r2 r.length c2] (grow (redrawn wr d) os) fun e w'=>e=.returned (.bool true)/\Below (grow (redrawn wr d) os).heap.size (grow (redrawn wr d) os) w'):=fun d os=>zE8 r1 r2 c1 c2 r _ (zA0 HM) ((zA0 HD1).later (below_regrown _ _ _)) ((zA0 qm).later (below_regrown _ _ _))
   clear Qq JV hr d1 d2
   go_wp2_with fail
   refine wp_region_quiet_below (by kernel_rfl) (by kernel_rfl) ?_
   repeat (go_big_quiet_step ((go_at_call 45;exact Calls.regrown_of (zA0 HC _ _))))
   refine wpQuiet_nil ?_
   intro w' Hp
   have hB:Below wr.heap.size wr w':=by obtain⟨p,rfl⟩:=Hp;exact below_regrown _ _ _
   clear Hp
   have ZC:=zA2 Hx hB
   go_wp2
   go_roundw
   case rel=>exact⟨k+1,by omega,by go_num,ZC⟩
   case measure=>simp[intOf];omega
  ·have i1:¬(k:Int)<(rs.length:Int):=by omega
   go_wp2
   go_ret
   exact⟨rfl,Hx⟩
end Go.Proofs.YtekgpapophibcaaGreat
