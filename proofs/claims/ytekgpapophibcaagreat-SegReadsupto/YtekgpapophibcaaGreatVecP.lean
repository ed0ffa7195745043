import Derived.Test.YtekgpapophibcaaGreatVecM
import Derived.Lib.AppendStr
set_option linter.unusedSimpArgs false
set_option linter.unusedVariables false
set_option maxHeartbeats 4000000
set_option maxRecDepth 100000
namespace Go.Proofs.YtekgpapophibcaaGreat
open Go.RowKit Go.Sort
theorem zAy(w:World)(y:Val):∀j u,(c3 y)[j]?=some u->(w.alloc (.cells #[.int .i64 y.k,.int .i64 y.n,.string y.s] 59)).cell? ((⟨w.heap.size,0,none⟩:Addr).add j)=some u:=by
 intro j u hj
 match j,hj with
 | 0,hj=>simp[c3] at hj;subst hj;simp[Addr.add,go_sem]
 | 1,hj=>simp[c3] at hj;subst hj;simp[Addr.add,go_sem]
 | 2,hj=>simp[c3] at hj;subst hj;simp[Addr.add,go_sem]
 | j+3,hj=>simp[c3] at hj
theorem zBY(y:Val):∀u∈c3 y,u.oneCell'=true:=by
 intro u hu;simp[c3] at hu;rcases hu with rfl|rfl|rfl<;>rfl
theorem zCf{w:World}{base:Nat}{v:Value}{ys zs:List Val}(h:zAV w base v zs)(e:zs=ys):zAV w base v ys:=e ▸ h
theorem zCT{w0 w w1:World}{o:Obj}{v:Value}{base:Nat}{ys:List Val}(hb:Below w0.heap.size w0 w)(ho:zAV w base v ys)(Hv:w0.heap.size<=base)(hg:(w.alloc o).grownBy w1 v.ownBlock):Below w0.heap.size w0 w1:=
 (zA1 hb o).trans (zAd hg (zA1 hb o).size fun g e=>Nat.le_trans Hv (ho.lt g e).1)
theorem zEb{w:World}{base base' e size:Nat}{v:Value}{m:Nat}{xs:List Value}(h:w.ownsRow base e size v m xs)(hb:base'<=base):w.ownsRow base' e size v m xs:=by
 refine⟨h.1,?_⟩
 rcases h.2 with h|⟨g,cap,cur,hv,hg,rest⟩
 ·exact .inl h
 ·exact .inr ⟨g,cap,cur,hv,Nat.le_trans hb hg,rest⟩
theorem zCJ(X:Vc)(p:Sl)(w:World)(hs:small X)(hp:zAi w X p) :
  Calls Tryz.prog 64 #[zCC X p] w fun e w'=>∃v,e=.returned v/\zAV w' w.heap.size v (zAD X)/\Below w.heap.size w w':=by
 obtain⟨i4,Qd,z40,z41,z42⟩:=info_parts Tryz.info59
 have HG:Hid (∀w',Below w.heap.size w w'->Calls Tryz.prog 69 #[zCC X p] w' fun e w''=>e=.returned (.bool (zAg X))/\Below w'.heap.size w' w''):=fun w' hb=>zCi X p w' hs (hp.later hb)
 have HP:=zA3 hp
 obtain⟨l1,l2,l3⟩:=hs
 clear hp
 rw[zAM]
 cases hg:zAg X
 ·rw[hg] at HG
  have HV:=zA3 (zF9 hg)
  generalize zAD X=ys at HV ⊢
  clear hg
  go_enter Tryz.func64,Tryz.ntmps64
  go_wp2_with fail
  refine wp_loop_rounds 1 ?_
  rw[rounds_succ]
  go_wp2_with (go_at_call 69;refine(zA0 HG _ (zA1 (Below.refl _ _) _)).mono ?_;rintro e w1 ⟨rfl,Hb⟩)
  go_ret
  exact⟨_,rfl,by rw[zA0 HV];exact World.ownsRow_nil _ _ _ _,zAP Hb⟩
 ·rw[hg] at HG
  have HKN:=zA3 (zFm hg)
  have Kr:Hid (∀i,i<X.nl.length->(zAD X)[i]?=some (atV X i)):=fun i hi=>zFY hg hi
  have Qh:=zA3 (zAb hg)
  clear hg
  obtain⟨W1,ZF⟩:∃W1,W1=zNN w X p:=⟨_,rfl⟩
  have Kq:=zA3 ZF
  go_enter Tryz.func64,Tryz.ntmps64
  go_wp2_with fail
  go_loopw[3,4] (fun v i wr=>∃k:Nat,k<=X.nl.length/\i=.int .i64 k/\zAV wr W1.heap.size v ((zAD X).take k)/\Below W1.heap.size W1 wr) (fun _ i _=>X.nl.length-(intOf i).toNat)
  case atStart=>exact⟨0,Nat.zero_le _,rfl,World.ownsRow_nil _ _ _ _,by rw[ZF];exact Below.refl _ _⟩
  case round=>
   clear ZF
   obtain⟨k,hk,rfl,ho,hb⟩:=hrel
   have Yl:=hb
   rw[zA0 Kq] at Yl
   obtain⟨⟨r0,r1,r2,r3⟩,Qn,Fj⟩:=zD5 Yl
   have HO:=zA3 ho
   have HB:=zA3 hb
   have QV:=zA3 Qn
   have Hf:((zAD X).take k).length=k:=by rw[List.length_take,zA0 Qh];omega
   have Qg:=zA3 Hf
   clear ho hb Yl Qn Hf
   by_cases h1:k<X.nl.length
   ·have i1:(k:Int)<(X.nl.length:Int):=by omega
    go_upto_region 3 with fail
    go_cut[13] (fun s13 wx=>s13=.bool true/\Below wr.heap.size wr wx)
    case first=>
     go_wp2_with (go_at_call 69;refine(zA0 HG _ (zA0 QV)).mono ?_;rintro e w1 ⟨rfl,Hb⟩;have r1':=cell_later Hb r1)
     go_meet
     exact⟨rfl,Hb⟩
    case rest=>
     obtain⟨rfl,Hs⟩:=hcut
     rename World=>wx
     have KC:=zA3 ((zA0 HO).later Hs)
     have HBx:=zA3 (zA2 (zA0 HB) Hs)
     have HPx:=zA3 ((zA0 HP).later (zA2 (zA0 QV) Hs))
     replace r0:=cell_later Hs r0
     replace r1:=cell_later Hs r1
     replace r2:=cell_later Hs r2
     replace r3:=cell_later Hs r3
     have hszx:=(zA0 HBx).size
     clear Hs HO HB QV HG
     obtain⟨b,Hw⟩:∃b,X.nl[k]?=some b:=⟨_,zAf h1⟩
     obtain⟨pb,po,ea,cp⟩:=(zA0 HPx).1.get (k:=k) (x:=.bool b) (by simp[Hw])
     rw[ea] at r1
     have HY:=zA3 (zA0 Kr k h1)
     cases b
     ·rcases zA0 HKN with ⟨k1,e1⟩|⟨k1,k2,e1⟩
      ·obtain⟨m,hm⟩:∃m,X.ns[k]?=some m:=⟨_,zAf (by omega)⟩
       obtain⟨qb,qo,eb,cq⟩:=(zA0 HPx).2.1.get (k:=k) (x:=.int .i64 m) (by simp[hm])
       rw[eb] at r2
       have i2:(k:Int)<(X.ns.length:Int):=by omega
       have HV:Hid (atV X k=.num m):=by show _=_;simp[atV,Hw,k1,hm]
       clear ea eb Hw hm e1
       go_wp2_with (first
        | (go_at_call 37;refine(zDn m _).mono ?_;rintro e w2 ⟨rfl,Hh⟩;rw[Val.open_];have Qi:=(zA0 KC).later Hh;have GX:=zA2 (zA0 HBx) Hh;have yA:=GX.size)
        | (at_builtin;refine wpList_append_own_at _ rfl (.tmp 39) (.tmp 46) 37 rfl W1.heap.size 59 i4 (.agg #[.int .i64 0,.int .i64 0,.string ⟨#[]⟩]) 3 32 Tryz.underlying37 Qd z40 z41 z42 rfl (by decide) _ _ _ rfl (World.ownsRow.alloc Qi _) ⟨w2.heap.size,0,none⟩ 1 1 (c3 (Val.num m)) rfl rfl (zAy w2 (Val.num m)) (zBY _) (by rw[zA0 Qg];unfold maxLen;omega) (by rw[zA0 Qg];omega) (by simp;omega) ?_;intro v1 w3 Hc Ha _ Hl;have Ya:=zB9 Hc;have Hy:(w2.alloc (.cells #[.int .i64 (Val.num m).k,.int .i64 (Val.num m).n,.string (Val.num m).s] 59)).grownBy w3 u3.ownBlock:=Ha;clear Hc Ha Hl))
       go_roundw
       case rel=>exact⟨k+1,by omega,by go_num,zCf Ya (by rw[take_one (zA0 HY),zA0 HV]),zCT GX Qi (Nat.le_refl _) Hy⟩
       case measure=>simp[intOf];omega
      ·obtain⟨m,hm⟩:∃m,X.ss[k]?=some m:=⟨_,zAf (by omega)⟩
       obtain⟨qb,qo,eb,cq⟩:=(zA0 HPx).2.2.get (k:=k) (x:=.string m) (by simp[hm])
       rw[eb] at r3
       have i2:(k:Int)<(X.ss.length:Int):=by omega
       have HV:Hid (atV X k=.str m):=by show _=_;simp[atV,Hw,k1,hm]
       clear ea eb Hw hm e1
       go_wp2_with (first
        | (go_at_call 61;refine(zII m _).mono ?_;rintro e w2 ⟨rfl,Hh⟩;rw[Val.open_];have Qi:=(zA0 KC).later Hh;have GX:=zA2 (zA0 HBx) Hh;have yA:=GX.size)
        | (at_builtin;refine wpList_append_own_at _ rfl (.tmp 16) (.tmp 23) 37 rfl W1.heap.size 59 i4 (.agg #[.int .i64 0,.int .i64 0,.string ⟨#[]⟩]) 3 32 Tryz.underlying37 Qd z40 z41 z42 rfl (by decide) _ _ _ rfl (World.ownsRow.alloc Qi _) ⟨w2.heap.size,0,none⟩ 1 1 (c3 (Val.str m)) rfl rfl (zAy w2 (Val.str m)) (zBY _) (by rw[zA0 Qg];unfold maxLen;omega) (by rw[zA0 Qg];omega) (by simp;omega) ?_;intro v1 w3 Hc Ha _ Hl;have Ya:=zB9 Hc;have Hy:(w2.alloc (.cells #[.int .i64 (Val.str m).k,.int .i64 (Val.str m).n,.string (Val.str m).s] 59)).grownBy w3 u3.ownBlock:=Ha;clear Hc Ha Hl))
       go_roundw
       case rel=>exact⟨k+1,by omega,by go_num,zCf Ya (by rw[take_one (zA0 HY),zA0 HV]),zCT GX Qi (Nat.le_refl _) Hy⟩
       case measure=>simp[intOf];omega
     ·have HV:Hid (atV X k=.null):=by show _=_;simp[atV,Hw]
      clear ea Hw
      go_wp2_with (first
       | (go_at_call 62;refine(zGO _).mono ?_;rintro e w2 ⟨rfl,Hh⟩;rw[Val.open_];have Qi:=(zA0 KC).later Hh;have GX:=zA2 (zA0 HBx) Hh;have yA:=GX.size)
       | (at_builtin;refine wpList_append_own_at _ rfl (.tmp 31) (.tmp 33) 37 rfl W1.heap.size 59 i4 (.agg #[.int .i64 0,.int .i64 0,.string ⟨#[]⟩]) 3 32 Tryz.underlying37 Qd z40 z41 z42 rfl (by decide) _ _ _ rfl (World.ownsRow.alloc Qi _) ⟨w2.heap.size,0,none⟩ 1 1 (c3 Val.null) rfl rfl (zAy w2 Val.null) (zBY _) (by rw[zA0 Qg];unfold maxLen;omega) (by rw[zA0 Qg];omega) (by simp;omega) ?_;intro v1 w3 Hc Ha _ Hl;have Ya:=zB9 Hc;have Hy:(w2.alloc (.cells #[.int .i64 Val.null.k,.int .i64 Val.null.n,.string Val.null.s] 59)).grownBy w3 u3.ownBlock:=Ha;clear Hc Ha Hl))
      go_roundw
      case rel=>exact⟨k+1,by omega,by go_num,zCf Ya (by rw[take_one (zA0 HY),zA0 HV]),zCT GX Qi (Nat.le_refl _) Hy⟩
      case measure=>simp[intOf];omega
   ·have i1:¬(k:Int)<(X.nl.length:Int):=by omega
    have HE:Hid ((zAD X).take k=zAD X):=by
     show _=_
     rw[List.take_of_length_le (by rw[zA0 Qh];omega)]
    go_wp2_with (go_at_call 69;refine(zA0 HG _ (zA0 QV)).mono ?_;rintro e w1 ⟨rfl,Hb⟩;have r1':=cell_later Hb r1)
    go_ret
    refine⟨_,rfl,?_,zA2 (zA0 QV) Hb⟩
    have h:=(zA0 HO).later Hb
    rw[zA0 HE] at h
    exact zEb h (by rw[zA0 Kq];simp[zNN])
def zBf(n:Nat):Int:=wrap64 (n:Int)
def zCS(n:Nat)(l:List UInt8):Option (List UInt8×List UInt8):=if n<=l.length then some (l.take n,l.drop n) else none
def zBB(n:Nat)(l:List UInt8):Option (Nat×List UInt8):=if n<=l.length then some (beV (l.take n),l.drop n) else none
def zBh(kind:Int)(l:List UInt8):Option (Val×List UInt8):=
 if kind == 1 then (zBB 8 l).map fun p=>(.num (zBf p.1),p.2)
 else (zBB 2 l).bind fun p=>if p.1<=1000 then (zCS p.1 p.2).map fun q=>(.str (bs q.1),q.2) else none
def zAq(kind:Int):Nat->List UInt8->Option (List Val×List UInt8)
 | 0,l=>some ([],l)
 | n+1,l=>(zAq kind n l).bind fun p=>(zBh kind p.2).map fun q=>(p.1++[q.1],q.2)
theorem zBD{n m:Nat}{l r:List UInt8}(h:zBB n l=some (m,r)):n<=l.length/\m=beV (l.take n)/\r=l.drop n:=by
 unfold zBB at h
 split at h
 ·injection h with h;injection h with h1 h2;exact⟨by assumption,h1.symm,h2.symm⟩
 ·cases h
theorem zPK{n:Nat}{l:List UInt8}(h:zBB n l=none):l.length<n:=by
 unfold zBB at h
 split at h
 ·cases h
 ·omega
theorem zCb{n:Nat}{l t r:List UInt8}(h:zCS n l=some (t,r)):n<=l.length/\t=l.take n/\r=l.drop n:=by
 unfold zCS at h
 split at h
 ·injection h with h;injection h with h1 h2;exact⟨by assumption,h1.symm,h2.symm⟩
 ·cases h
theorem zML{n:Nat}{l:List UInt8}(h:zCS n l=none):l.length<n:=by
 unfold zCS at h
 split at h
 ·cases h
 ·omega
theorem zAT{b n m:Nat}{l r:List UInt8}{w:World}(h:Rd w b l)(hl:l.length<=140737488355328)(hd:zBB n l=some (m,r))(h8:n<=8) :
  Calls Tryz.prog 149 #[.pointer (some ⟨b,0,none⟩),.int .i64 n] w fun e w'=>e=.returned (.int .u64 m)/\Rd w' b r/\Gr w w' b:=by
 obtain⟨h1,rfl,rfl⟩:=zBD hd
 exact zTK b n l w h hl h1 h8
theorem zDC{b n:Nat}{l:List UInt8}{w:World}(h:Rd w b l)(hl:l.length<=140737488355328)(hd:zBB n l=none) :
  Calls Tryz.prog 149 #[.pointer (some ⟨b,0,none⟩),.int .i64 n] w fun e w'=>e=dmg/\w'=w:=zUB b n l w h hl (zPK hd)
theorem zGb{b n:Nat}{l t r:List UInt8}{w:World}(h:Rd w b l)(hl:l.length<=140737488355328)(hd:zCS n l=some (t,r)) :
  Calls Tryz.prog 161 #[.pointer (some ⟨b,0,none⟩),.int .i64 n] w fun e w'=>e=.returned (.string (bs t))/\Rd w' b r/\Gr w w' b:=by
 obtain⟨h1,rfl,rfl⟩:=zCb hd
 exact(zLT b n l w h hl h1).mono fun e w' ⟨he,hw⟩=>⟨he,hw ▸ h.set _,hw ▸ Gr.set w b _⟩
theorem zLS{b n:Nat}{l:List UInt8}{w:World}(h:Rd w b l)(hl:l.length<=140737488355328)(hd:zCS n l=none) :
  Calls Tryz.prog 161 #[.pointer (some ⟨b,0,none⟩),.int .i64 n] w fun e w'=>e=dmg/\w'=w:=zO8 b n l w h hl (zML hd)
theorem zAo{n m:Nat}{l r:List UInt8}(h:zBB n l=some (m,r)):r.length<=l.length:=by
 obtain⟨_,_,rfl⟩:=zBD h;simp
theorem zQm{n:Nat}{l t r:List UInt8}(h:zCS n l=some (t,r)):r.length<=l.length:=by
 obtain⟨_,_,rfl⟩:=zCb h;simp
theorem Rd.alloc{w:World}{b:Nat}{l:List UInt8}(h:Rd w b l)(o:Obj):Rd (w.alloc o) b l:=World.rowIs.alloc h o
theorem Rd.ne{w:World}{b:Nat}{l:List UInt8}(h:Rd w b l):b<w.heap.size:=World.rowIs.lt h
theorem zSc{w w1:World}{b:Nat}{l:List UInt8}{y:Val}(h:Rd w b l)(hg:Gr (w.alloc (.cells #[.int .i64 y.k,.int .i64 y.n,.string y.s] 59)) w1 b):w1.rowIs w.heap.size 59 3 (zDU y):=
 World.rowIs.of_block (zAs w y) (hg.block w.heap.size (by simp) (fun e=>by injection e with e;have:=h.ne;omega))
theorem Gr.new3{w w1:World}{b:Nat}{o:Obj}(hg:Gr (w.alloc o) w1 b)(u v x:Value):Gr w (((w1.setCell ⟨w.heap.size,0,none⟩ u).setCell ⟨w.heap.size,1,none⟩ v).setCell ⟨w.heap.size,2,none⟩ x) b:=by
 have hs:w.heap.size+1<=w1.heap.size:=by have:=hg.size;simpa using this
 refine⟨hg.os,hg.tape,hg.output,?_,fun i hi Hg=>?_⟩
 ·simp;omega
 ·have h1:i≠w.heap.size:=by omega
  rw[Deep.blk_setCell_other _ _ _ _ h1,Deep.blk_setCell_other _ _ _ _ h1,Deep.blk_setCell_other _ _ _ _ h1,hg.block i (by simp;omega) Hg,Below.heap_alloc _ _ _ hi]
theorem Rd.new3{w1:World}{b g:Nat}{l:List UInt8}(h:Rd w1 b l)(Hg:b≠g)(u v x:Value):Rd (((w1.setCell ⟨g,0,none⟩ u).setCell ⟨g,1,none⟩ v).setCell ⟨g,2,none⟩ x) b l:=
 World.rowIs.setOther (World.rowIs.setOther (World.rowIs.setOther h Hg _) Hg _) Hg _
theorem zOu{b m:Nat}{l r:List UInt8}{w:World}(h:Rd w b l)(hl:l.length<=140737488355328)(hd:zBB 8 l=some (m,r)) :
  Calls Tryz.prog 179 #[.pointer (some ⟨b,0,none⟩),.int .i64 1] w fun e w'=>e=.returned (Val.num (zBf m)).v/\Rd w' b r/\Gr w w' b:=by
 have HN:=zA3 (fun o=>zAT (h.alloc o) hl hd (by decide))
 have HX:=zA3 (fun w1 hg=>zA9 (zSc (w1:=w1) (y:=Val.null) h hg))
 have Hg:b≠w.heap.size:=by have:=h.ne;omega
 have Gq:=zA3 Hg
 clear h Hg
 go_enter Tryz.func179,Tryz.ntmps179
 go_wp2_with (go_at_call 149;refine(zA0 HN _).mono ?_;rintro e w1 ⟨rfl,Hq,Hn⟩;obtain⟨c0,c1,c2,f0,f1,f2⟩:=zA0 HX w1 Hn)
 refine bodyPost_ret (v:=(Val.num (zBf m)).v) ?_ rfl ⟨rfl,?_,?_⟩
 ·simp[results,Tryz.results179,go_sem,Val.v,Val.num,zBf,c0,c1,c2]
 ·exact Hq.new3 (zA0 Gq) _ _ _
 ·exact Hn.new3 _ _ _
theorem zKp{b:Nat}{l:List UInt8}{w:World}(h:Rd w b l)(hl:l.length<=140737488355328)(hd:zBB 8 l=none) :
  Calls Tryz.prog 179 #[.pointer (some ⟨b,0,none⟩),.int .i64 1] w fun e w'=>e=dmg/\Gr w w' b:=by
 have HN:=zA3 (fun o=>zDC (h.alloc o) hl hd)
 clear h
 go_enter Tryz.func179,Tryz.ntmps179
 go_wp2_with (go_at_call 149;refine(zA0 HN _).mono ?_;rintro e w1 ⟨rfl,rfl⟩)
 exact⟨rfl,rfl,Gr.alloc _ _ _⟩
theorem zMp{b m:Nat}{l r t r2:List UInt8}{w:World}(h:Rd w b l)(hl:l.length<=140737488355328)(hd:zBB 2 l=some (m,r))(hm:m<=1000)(ht:zCS m r=some (t,r2)) :
  Calls Tryz.prog 179 #[.pointer (some ⟨b,0,none⟩),.int .i64 2] w fun e w'=>e=.returned (Val.str (bs t)).v/\Rd w' b r2/\Gr w w' b:=by
 have HN:=zA3 (fun o=>zAT (h.alloc o) hl hd (by decide))
 have HX:=zA3 (fun w1 hg=>zA9 (zSc (w1:=w1) (y:=Val.null) h hg))
 have Yn:=zAo hd
 have HT:=zA3 (fun W (hW:Rd W b r)=>zGb hW (by omega) ht)
 have Hg:b≠w.heap.size:=by have:=h.ne;omega
 have Gq:=zA3 Hg
 have TL:(m:Int)<=1000:=by omega
 clear h Hg ht
 go_enter Tryz.func179,Tryz.ntmps179
 go_wp2_with (first
  | (go_at_call 149;refine(zA0 HN _).mono ?_;rintro e w1 ⟨rfl,Hq,Hn⟩;replace Hq:=zA3 Hq)
  | (go_at_call 150;refine(zAj _).mono ?_;rintro e w2 ⟨rfl,rfl⟩)
  | (go_at_call 161;refine(zA0 HT _ (zA0 Hq)).mono ?_;rintro e w3 ⟨rfl,Qt,Qw⟩;obtain⟨c0,c1,c2,f0,f1,f2⟩:=zA0 HX _ (Hn.trans Qw)))
 refine bodyPost_ret (v:=(Val.str (bs t)).v) ?_ rfl ⟨rfl,?_,?_⟩
 ·simp[results,Tryz.results179,go_sem,Val.v,Val.str,c0,c1,c2]
 ·exact Qt.new3 (zA0 Gq) _ _ _
 ·exact(Hn.trans Qw).new3 _ _ _
theorem zIS{b:Nat}{l:List UInt8}{w:World}(h:Rd w b l)(hl:l.length<=140737488355328)(hd:zBB 2 l=none) :
  Calls Tryz.prog 179 #[.pointer (some ⟨b,0,none⟩),.int .i64 2] w fun e w'=>e=dmg/\Gr w w' b:=by
 have HN:=zA3 (fun o=>zDC (h.alloc o) hl hd)
 clear h
 go_enter Tryz.func179,Tryz.ntmps179
 go_wp2_with (go_at_call 149;refine(zA0 HN _).mono ?_;rintro e w1 ⟨rfl,rfl⟩)
 exact⟨rfl,rfl,Gr.alloc _ _ _⟩
theorem zIR{b m:Nat}{l r:List UInt8}{w:World}(h:Rd w b l)(hl:l.length<=140737488355328)(hd:zBB 2 l=some (m,r))(hm:1000<m) :
  Calls Tryz.prog 179 #[.pointer (some ⟨b,0,none⟩),.int .i64 2] w fun e w'=>e=dmg/\Gr w w' b:=by
 have HN:=zA3 (fun o=>zAT (h.alloc o) hl hd (by decide))
 have TL:¬(m:Int)<=1000:=by omega
 clear h
 go_enter Tryz.func179,Tryz.ntmps179
 go_wp2_with (first
  | (go_at_call 149;refine(zA0 HN _).mono ?_;rintro e w1 ⟨rfl,Hq,Hn⟩;replace Hq:=zA3 Hq)
  | (go_at_call 150;refine(zDF _ (decide_eq_false (by omega)) _).mono ?_;rintro e w2 ⟨rfl,rfl⟩))
 exact⟨rfl,rfl,(Gr.alloc _ _ _).trans Hn⟩
theorem zIQ{b m:Nat}{l r:List UInt8}{w:World}(h:Rd w b l)(hl:l.length<=140737488355328)(hd:zBB 2 l=some (m,r))(hm:m<=1000)(ht:zCS m r=none) :
  Calls Tryz.prog 179 #[.pointer (some ⟨b,0,none⟩),.int .i64 2] w fun e w'=>e=dmg/\Gr w w' b:=by
 have HN:=zA3 (fun o=>zAT (h.alloc o) hl hd (by decide))
 have Yn:=zAo hd
 have HT:=zA3 (fun W (hW:Rd W b r)=>zLS hW (by omega) ht)
 have TL:(m:Int)<=1000:=by omega
 clear h ht
 go_enter Tryz.func179,Tryz.ntmps179
 go_wp2_with (first
  | (go_at_call 149;refine(zA0 HN _).mono ?_;rintro e w1 ⟨rfl,Hq,Hn⟩;replace Hq:=zA3 Hq)
  | (go_at_call 150;refine(zAj _).mono ?_;rintro e w2 ⟨rfl,rfl⟩)
  | (go_at_call 161;refine(zA0 HT _ (zA0 Hq)).mono ?_;rintro e w3 ⟨rfl,rfl⟩))
 exact⟨rfl,rfl,(Gr.alloc _ _ _).trans Hn⟩
theorem zGq{b:Nat}{kind:Int}{l r:List UInt8}{x:Val}{w:World}(hk:kind=1∨kind=2)(h:Rd w b l)(hl:l.length<=140737488355328)(hd:zBh kind l=some (x,r)) :
  Calls Tryz.prog 179 #[.pointer (some ⟨b,0,none⟩),.int .i64 kind] w fun e w'=>e=.returned x.v/\Rd w' b r/\Gr w w' b:=by
 rcases hk with rfl|rfl
 ·unfold zBh at hd
  rw[if_pos (by decide)] at hd
  cases hn:zBB 8 l with
  | none=>rw[hn] at hd;cases hd
  | some p=>
   rw[hn] at hd
   injection hd with hd
   injection hd with h1 h2
   subst h1;subst h2
   exact zOu h hl hn
 ·unfold zBh at hd
  rw[if_neg (by decide)] at hd
  cases hn:zBB 2 l with
  | none=>rw[hn] at hd;cases hd
  | some p=>
   rw[hn,Option.bind_some] at hd
   by_cases hm:p.1<=1000
   ·rw[if_pos hm] at hd
    cases ht:zCS p.1 p.2 with
    | none=>rw[ht] at hd;cases hd
    | some q=>
     rw[ht] at hd
     injection hd with hd
     injection hd with h1 h2
     subst h1;subst h2
     exact zMp h hl hn hm ht
   ·rw[if_neg hm] at hd;cases hd
theorem zLd{b:Nat}{kind:Int}{l:List UInt8}{w:World}(hk:kind=1∨kind=2)(h:Rd w b l)(hl:l.length<=140737488355328)(hd:zBh kind l=none) :
  Calls Tryz.prog 179 #[.pointer (some ⟨b,0,none⟩),.int .i64 kind] w fun e w'=>e=dmg/\Gr w w' b:=by
 rcases hk with rfl|rfl
 ·unfold zBh at hd
  rw[if_pos (by decide)] at hd
  cases hn:zBB 8 l with
  | none=>exact zKp h hl hn
  | some p=>rw[hn] at hd;cases hd
 ·unfold zBh at hd
  rw[if_neg (by decide)] at hd
  cases hn:zBB 2 l with
  | none=>exact zIS h hl hn
  | some p=>
   rw[hn,Option.bind_some] at hd
   by_cases hm:p.1<=1000
   ·rw[if_pos hm] at hd
    cases ht:zCS p.1 p.2 with
    | none=>exact zIQ h hl hn hm ht
    | some q=>rw[ht] at hd;cases hd
   ·exact zIR h hl hn (by omega)
theorem zJX{kind:Int}{l r:List UInt8}{x:Val}(hd:zBh kind l=some (x,r)):r.length<=l.length:=by
 unfold zBh at hd
 split at hd
 ·cases hn:zBB 8 l with
  | none=>rw[hn] at hd;cases hd
  | some p=>
   rw[hn] at hd
   injection hd with hd
   injection hd with h1 h2
   subst h2
   exact zAo hn
 ·cases hn:zBB 2 l with
  | none=>rw[hn] at hd;cases hd
  | some p=>
   rw[hn,Option.bind_some] at hd
   split at hd
   ·cases ht:zCS p.1 p.2 with
    | none=>rw[ht] at hd;cases hd
    | some q=>
     rw[ht] at hd
     injection hd with hd
     injection hd with h1 h2
     subst h2
     exact Nat.le_trans (zQm ht) (zAo hn)
   ·cases hd
set_option maxHeartbeats 2000000
def zEQ(x y:Int):Int:=if x<y then -1 else if y<x then 1 else 0
theorem zHz(x y:Int)(w:World) :
  Calls Tryz.prog 124 #[.int .i64 x,.int .i64 y] w fun e w'=>e=.returned (.int .i64 (zEQ x y))/\w'=w:=by
 unfold zEQ
 go_enter Tryz.func124,Tryz.ntmps124
 go_wp2
 all_goals (go_ret;exact⟨rfl,rfl⟩)
theorem zG9(x y:Int)(w:World) :
  Calls Tryz.prog 125 #[.int .i64 x,.int .i64 y] w fun e w'=>e=.returned (.int .i64 (zEQ x y))/\w'=w:=by
 unfold zEQ
 go_enter Tryz.func125,Tryz.ntmps125
 go_wp2
 all_goals (go_ret;exact⟨rfl,rfl⟩)
def zK3(x y:ByteArray):Int:=Lib.compareBytes x.data.toList y.data.toList
theorem zUj(x y:ByteArray)(w:World):(callFunc 167 #[.string x,.string y]).run Tryz.prog w=.ok (.value (.int .i64 (zK3 x y))) w:=by
 rw[run_callFunc_extern Tryz.func167 (by kernel_rfl) (by kernel_rfl) (by kernel_rfl) (e:=Extern.BytealgCompare.compare) (by kernel_rfl),Lib.run_compareString]
 rfl
theorem zHy(x y:ByteArray)(w:World) :
  Calls Tryz.prog 126 #[.string x,.string y] w fun e w'=>e=.returned (.int .i64 (zK3 x y))/\w'=w:=by
 have h79:=zUj x y
 go_enter Tryz.func126,Tryz.ntmps126
 go_wp2
 go_ret
 exact⟨rfl,rfl⟩
theorem zRA(x y:Bool)(w:World) :
  Calls Tryz.prog 107 #[.bool x,.bool y] w fun e w'=>e=.returned (.int .i64 (if y then 0 else if x then -1 else 1))/\w'=w:=by
 cases x<;>cases y
 all_goals
  go_enter Tryz.func107,Tryz.ntmps107
  go_wp2
  go_ret
  exact⟨rfl,rfl⟩
def orI(x y z:Int):Int:=if x≠0 then x else if y≠0 then y else z
theorem zPA(b:Nat)(x y z:Int)(w:World)(h0:w.cell? ⟨b,0,none⟩=some (.int .i64 x))(h1:w.cell? ⟨b,1,none⟩=some (.int .i64 y))(h2:w.cell? ⟨b,2,none⟩=some (.int .i64 z)) :
  Calls Tryz.prog 123 #[.slice (some ⟨b,0,none⟩) 3 3] w fun e w'=>e=.returned (.int .i64 (orI x y z))/\w'=w:=by
 go_enter Tryz.func123,Tryz.ntmps123
 go_wp2
 go_loop[8] (fun i=>∃k:Nat,k<=3/\i=.int .i64 k/\(1<=k->x=0)/\(2<=k->y=0)/\(3<=k->z=0)) (fun i=>3-(intOf i).toNat)
 case atStart=>exact⟨0,Nat.zero_le _,rfl,by omega,by omega,by omega⟩
 case round=>
  obtain⟨k,hk,rfl,r1,r2,r3⟩:=hrel
  rcases(show k=0∨k=1∨k=2∨k=3 by omega) with rfl|rfl|rfl|rfl
  ·clear r1 r2 r3
   by_cases hx:x=0
   ·have YF:(x != 0)=false:=by simpa using hx
    have HX:=zA3 hx
    clear hx
    go_wp2
    go_round
    case rel=>exact⟨1,by omega,rfl,fun _=>zA0 HX,by omega,by omega⟩
    case measure=>simp[intOf]
   ·have YF:(x != 0)=true:=by simpa using hx
    have HX:=zA3 hx
    clear hx
    go_wp2
    go_ret
    exact⟨by simp[orI,zA0 HX],rfl⟩
  ·have HX:=zA3 (r1 (by omega))
   clear r1 r2 r3
   by_cases hx:y=0
   ·have YF:(y != 0)=false:=by simpa using hx
    have HY:=zA3 hx
    clear hx
    go_wp2
    go_round
    case rel=>exact⟨2,by omega,rfl,fun _=>zA0 HX,fun _=>zA0 HY,by omega⟩
    case measure=>simp[intOf]
   ·have YF:(y != 0)=true:=by simpa using hx
    have HY:=zA3 hx
    clear hx
    go_wp2
    go_ret
    exact⟨by simp[orI,zA0 HX,zA0 HY],rfl⟩
  ·have HX:=zA3 (r1 (by omega))
   have HY:=zA3 (r2 (by omega))
   clear r1 r2 r3
   by_cases hx:z=0
   ·have YF:(z != 0)=false:=by simpa using hx
    have HZ:=zA3 hx
    clear hx
    go_wp2
    go_round
    case rel=>exact⟨3,by omega,rfl,fun _=>zA0 HX,fun _=>zA0 HY,fun _=>zA0 HZ⟩
    case measure=>simp[intOf]
   ·have YF:(z != 0)=true:=by simpa using hx
    have HZ:=zA3 hx
    clear hx
    go_wp2
    go_ret
    exact⟨by simp[orI,zA0 HX,zA0 HY],rfl⟩
  ·have HX:=zA3 (r1 (by omega))
   have HY:=zA3 (r2 (by omega))
   have HZ:=zA3 (r3 (by omega))
   clear r1 r2 r3
   go_wp2
   go_ret
   exact⟨by simp[orI,zA0 HX,zA0 HY,zA0 HZ],rfl⟩
def zEi(w:World)(b:Nat)(x:Val):Prop:=w.cell? ⟨b,0,none⟩=some (.int .i64 x.k)/\w.cell? ⟨b,1,none⟩=some (.int .i64 x.n)/\w.cell? ⟨b,2,none⟩=some (.string x.s)
theorem zEi.later{w w':World}{b:Nat}{x:Val}(h:zEi w b x)(hb:Below w.heap.size w w'):zEi w' b x:=
 ⟨cell_later hb h.1,cell_later hb h.2.1,cell_later hb h.2.2⟩
def zSk(w:World)(b:Nat):Prop:=w.frozen? ⟨b,0,none⟩=false/\w.frozen? ⟨b,1,none⟩=false/\w.frozen? ⟨b,2,none⟩=false
def zEx(w:World)(a b:Val):World:=(w.alloc (.cells #[.int .i64 a.k,.int .i64 a.n,.string a.s] 59)).alloc (.cells #[.int .i64 b.k,.int .i64 b.n,.string b.s] 59)
theorem zEf(w:World)(a b:Val):(zEx w a b).heap.size=w.heap.size+1+1:=by simp[zEx]
theorem zCM{w w':World}{a b:Val}(h:Below (zEx w a b).heap.size (zEx w a b) w') :
  zEi w' w.heap.size a/\zEi w' (w.heap.size+1) b/\zSk w' w.heap.size/\zSk w' (w.heap.size+1)/\w.heap.size+1<w'.heap.size:=by
 have hs:=h.size
 rw[zEf] at hs
 obtain⟨hc,hf⟩:=zCR h
 refine⟨⟨?_,?_,?_⟩,⟨?_,?_,?_⟩,⟨?_,?_,?_⟩,⟨?_,?_,?_⟩,by omega⟩
 all_goals first | (rw[hc _ _ (by rw[zEf];omega)];simp[zEx,go_sem];done) | (rw[hf _ _ (by rw[zEf];omega)];simp[zEx,go_sem];done)
theorem zL9{w w':World}{a b:Val}(h:Below (zEx w a b).heap.size (zEx w a b) w'):Below w.heap.size w w':=
 (((Below.refl _ _).alloc (Nat.le_refl _) _).alloc (by simp) _).trans (h.mono (by rw[zEf];omega))
theorem zFq(w:World)(a b:Val):Below (zEx w a b).heap.size (zEx w a b) (zEx w a b).drew:=(Below.refl _ _).drew
theorem zKl{w w2:World}{a b:Val}(ca cb:Val)(h:Below (zEx w a b).heap.size (zEx w a b) w2) :
  zEi ((((((w2.setCell ⟨w.heap.size,0,none⟩ (.int .i64 ca.k)).setCell ⟨w.heap.size,1,none⟩ (.int .i64 ca.n)).setCell ⟨w.heap.size,2,none⟩ (.string ca.s)).setCell ⟨w.heap.size+1,0,none⟩ (.int .i64 cb.k)).setCell ⟨w.heap.size+1,1,none⟩ (.int .i64 cb.n)).setCell ⟨w.heap.size+1,2,none⟩ (.string cb.s)) w.heap.size ca/\zEi ((((((w2.setCell ⟨w.heap.size,0,none⟩ (.int .i64 ca.k)).setCell ⟨w.heap.size,1,none⟩ (.int .i64 ca.n)).setCell ⟨w.heap.size,2,none⟩ (.string ca.s)).setCell ⟨w.heap.size+1,0,none⟩ (.int .i64 cb.k)).setCell ⟨w.heap.size+1,1,none⟩ (.int .i64 cb.n)).setCell ⟨w.heap.size+1,2,none⟩ (.string cb.s)) (w.heap.size+1) cb/\Below w.heap.size w ((((((w2.setCell ⟨w.heap.size,0,none⟩ (.int .i64 ca.k)).setCell ⟨w.heap.size,1,none⟩ (.int .i64 ca.n)).setCell ⟨w.heap.size,2,none⟩ (.string ca.s)).setCell ⟨w.heap.size+1,0,none⟩ (.int .i64 cb.k)).setCell ⟨w.heap.size+1,1,none⟩ (.int .i64 cb.n)).setCell ⟨w.heap.size+1,2,none⟩ (.string cb.s)):=by
 obtain⟨⟨a0,a1,a2⟩,⟨b0,b1,b2⟩,⟨f0,f1,f2⟩,⟨g0,g1,g2⟩,hz⟩:=zCM h
 refine⟨⟨by simp[go_sem, *],by simp[go_sem, *],by simp[go_sem, *]⟩,⟨by simp[go_sem, *],by simp[go_sem, *],by simp[go_sem, *]⟩,?_⟩
 exact((((((zL9 h).setCell (by simp) _).setCell (by simp) _).setCell (by simp) _).setCell (by simp) _).setCell (by simp) _).setCell (by simp) _
def zAh(x y:Val):Int:=orI (zEQ (zA8 x).k (zA8 y).k) (zEQ (zA8 x).n (zA8 y).n) (zK3 (zA8 x).s (zA8 y).s)
theorem zJa(a b:Val)(w:World) :
  Calls Tryz.prog 104 #[a.v,b.v] w fun e w'=>e=.returned (.int .i64 (zAh a b))/\Below w.heap.size w w':=by
 rw[a.open_,b.open_]
 have HA:=zA3 (zHC a)
 have HB:=zA3 (zHC b)
 unfold zAh
 generalize zA8 a=ca at *
 generalize zA8 b=cb at *
 go_enter Tryz.func104,Tryz.ntmps104
 go_upto_region 1 with fail
 go_cut[] (fun wx=>zEi wx w.heap.size ca/\zEi wx (w.heap.size+1) cb/\Below w.heap.size w wx)
 case first=>
  go_region_with (first
   | (go_at_call_of 53 (Value.agg #[Value.int IntKind.i64 a.k,Value.int IntKind.i64 a.n,Value.string a.s]);refine(zA0 HA _).mono ?_;rintro e w1 ⟨rfl,Hb⟩;rw[Val.open_];have B1:=zA2 (zFq w a b) Hb;obtain⟨⟨a0,a1,a2⟩,⟨b0,b1,b2⟩,⟨f0,f1,f2⟩,⟨g0,g1,g2⟩,hz⟩:=zCM B1)
   | (go_at_call_of 53 (Value.agg #[Value.int IntKind.i64 b.k,Value.int IntKind.i64 b.n,Value.string b.s]);refine(zA0 HB _).mono ?_;rintro e w2 ⟨rfl,Hh⟩;rw[Val.open_];have B2:=zA2 B1 Hh;obtain⟨⟨a0,a1,a2⟩,⟨b0,b1,b2⟩,⟨f0,f1,f2⟩,⟨g0,g1,g2⟩,hz⟩:=zCM B2))
  all_goals
   go_wp2_with fail
   go_meet
   exact zKl ca cb B2
 case rest=>
  obtain⟨⟨a0,a1,a2⟩,⟨b0,b1,b2⟩,Hx⟩:=hcut
  clear HA HB
  rename World=>wa
  go_upto_region 2 with fail
  go_region_held3 (fun w'=>w'.cell? ⟨w.heap.size,0,none⟩=some (.int .i64 ca.k)/\w'.cell? ⟨w.heap.size,1,none⟩=some (.int .i64 ca.n)/\w'.cell? ⟨w.heap.size,2,none⟩=some (.string ca.s)/\w'.cell? ⟨w.heap.size+1,0,none⟩=some (.int .i64 cb.k)/\w'.cell? ⟨w.heap.size+1,1,none⟩=some (.int .i64 cb.n)/\w'.cell? ⟨w.heap.size+1,2,none⟩=some (.string cb.s))
   (go_keep)
   (first
    | (go_at_call 124;refine(zHz _ _ _).mono ?_;rintro e w1 ⟨rfl,rfl⟩)
    | (go_at_call 125;refine(zG9 _ _ _).mono ?_;rintro e w1 ⟨rfl,rfl⟩)
    | (go_at_call 126;refine(zHy _ _ _).mono ?_;rintro e w1 ⟨rfl,rfl⟩)
    | (go_at_call 123;refine(zPA _ (zEQ ca.k cb.k) (zEQ ca.n cb.n) (zK3 ca.s cb.s) _ ?_ ?_ ?_).mono ?_;(simp[go_sem]);(simp[go_sem]);(simp[go_sem]);rintro e w1 ⟨rfl,rfl⟩))
  go_wp2
  go_ret
  exact⟨rfl,(zA1 Hx _).drew⟩
theorem zLn:∀(x y:List UInt8),(if x == y then 0 else if Op.bytesLess x y then -1 else 1:Int)=Lib.compareBytes x y
 | [],[]=>by simp[Lib.compareBytes]
 | [],b::y=>by simp[Lib.compareBytes,Op.bytesLess]
 | a::x,[]=>by simp[Lib.compareBytes,Op.bytesLess]
 | a::x,b::y=>by
  rw[Lib.compareBytes]
  by_cases h:a<b
  ·have Hg:a≠b:=fun e=>by subst e;exact absurd h (UInt8.lt_irrefl a)
   simp[h,Op.bytesLess,Hg]
  ·by_cases h2:b<a
   ·have Hg:a≠b:=fun e=>by subst e;exact absurd h2 (UInt8.lt_irrefl a)
    simp[h,h2,Op.bytesLess,Hg]
   ·have e:a=b:=UInt8.le_antisymm (UInt8.not_lt.1 h2) (UInt8.not_lt.1 h)
    subst e
    rw[<-zLn x y]
    simp[h,Op.bytesLess]
theorem zRy(x y:Int):(if x == y then 0 else if decide (x<y) then -1 else 1:Int)=zEQ x y:=by
 unfold zEQ
 by_cases h:x=y
 ·subst h;simp
 ·by_cases h2:x<y
  ·simp[h,h2]
  ·have:y<x:=by omega
   simp[h,h2,this]
def zKj(x y:Bool):Int:=if y then 0 else if x then -1 else 1
theorem zOp(x y:Bool)(w:World):Calls Tryz.prog 107 #[.bool x,.bool y] w fun e w'=>e=.returned (.int .i64 (zKj x y))/\w'=w:=zRA x y w
theorem zQC{x:Val}(h:(zA8 x).k=1):(zA8 x).s=⟨#[]⟩:=by
 by_cases h1:(x.k == 1)=true
 ·have e:zA8 x=.num x.n:=by simp only[zA8,h1,if_true]
  rw[e];rfl
 ·by_cases h2:(x.k == 2)=true
  ·have e:zA8 x=.str x.s:=by simp only[zA8,h1,h2,if_true];rfl
   rw[e] at h;simp[Val.str] at h
  ·have e:zA8 x=.null:=by simp only[zA8,h1,h2];rfl
   rw[e];rfl
theorem zIV(c:Int):orI 0 c 0=c:=by unfold orI;by_cases h:c=0<;>simp[h]
theorem zP9(c:Int):orI 0 0 c=c:=by unfold orI;simp
theorem zQD{x:Val}(h:¬(zA8 x).k=1):(zA8 x).n=0:=by
 unfold zA8 at *
 split
 ·rename_i h1;simp[h1,Val.num] at h
 ·split<;>rfl
theorem zIp:zK3 ⟨#[]⟩ ⟨#[]⟩=0:=rfl
theorem zEP(x:Int):zEQ x x=0:=by simp[zEQ]
theorem zP7(a b:Val)(h:¬(zA8 a).k=(zA8 b).k):zAh a b=zKj (decide ((zA8 a).k<(zA8 b).k)) false:=by
 unfold zAh zKj orI zEQ
 by_cases h2:(zA8 a).k<(zA8 b).k
 ·simp[h2]
 ·have:(zA8 b).k<(zA8 a).k:=by omega
  simp[h2,this]
theorem zRO(a b:Val)(h:(zA8 a).k=(zA8 b).k)(h1:(zA8 a).k=1):zAh a b=zKj (decide ((zA8 a).n<(zA8 b).n)) ((zA8 a).n == (zA8 b).n):=by
 unfold zAh
 rw[zQC h1,zQC (h ▸ h1),h,zEP,zIp,zIV,<-zRy,zKj]
theorem zP5(a b:Val)(h:(zA8 a).k=(zA8 b).k)(h1:¬(zA8 a).k=1):zAh a b=zKj (Op.bytesLess (zA8 a).s.toList (zA8 b).s.toList) ((zA8 a).s.toList == (zA8 b).s.toList):=by
 unfold zAh
 rw[zQD h1,zQD (h ▸ h1),h,zEP,zEP,zKj,zP9]
 unfold zK3
 rw[<-zLn (zA8 a).s.data.toList (zA8 b).s.data.toList]
 simp only[Lib.toList_data]
theorem zCd(a b:Val)(w:World) :
  Calls Tryz.prog 85 #[a.v,b.v] w fun e w'=>e=.returned (.int .i64 (zAh a b))/\Below w.heap.size w w':=by
 rw[a.open_,b.open_]
 have HA:=zA3 (zD2 a)
 have HB:=zA3 (zD2 b)
 have E1:=zA3 (zP7 a b)
 have E2:=zA3 (zRO a b)
 have E3:=zA3 (zP5 a b)
 generalize zA8 a=ca at *
 generalize zA8 b=cb at *
 generalize zAh a b=r at *
 go_enter Tryz.func85,Tryz.ntmps85
 go_upto_region 1 with fail
 go_cut[] (fun wx=>zEi wx w.heap.size ca/\zEi wx (w.heap.size+1) cb/\Below w.heap.size w wx)
 case first=>
  go_region_with (first
   | (go_at_call_of 31 (Value.agg #[Value.int IntKind.i64 a.k,Value.int IntKind.i64 a.n,Value.string a.s]);refine(zA0 HA _).mono ?_;rintro e w1 ⟨rfl,Hb⟩;rw[Val.open_];have B1:=zA2 (zFq w a b) Hb;obtain⟨⟨a0,a1,a2⟩,⟨b0,b1,b2⟩,⟨f0,f1,f2⟩,⟨g0,g1,g2⟩,hz⟩:=zCM B1)
   | (go_at_call_of 31 (Value.agg #[Value.int IntKind.i64 b.k,Value.int IntKind.i64 b.n,Value.string b.s]);refine(zA0 HB _).mono ?_;rintro e w2 ⟨rfl,Hh⟩;rw[Val.open_];have B2:=zA2 B1 Hh;obtain⟨⟨a0,a1,a2⟩,⟨b0,b1,b2⟩,⟨f0,f1,f2⟩,⟨g0,g1,g2⟩,hz⟩:=zCM B2))
  all_goals
   go_wp2_with fail
   go_meet
   exact zKl ca cb B2
 case rest=>
  obtain⟨⟨a0,a1,a2⟩,⟨b0,b1,b2⟩,Hx⟩:=hcut
  clear HA HB
  rename World=>wa
  by_cases hk:ca.k=cb.k
  ·have Jv:(ca.k != cb.k)=false:=by simpa using hk
   by_cases h1:ca.k=1
   ·have h2:(ca.k == 1)=true:=by simpa using h1
    have E:=zA3 (zA0 E2 hk h1)
    clear E1 E2 E3 hk h1
    go_wp2_with (go_at_call 107;refine(zOp _ _ _).mono ?_;rintro e w1 ⟨rfl,rfl⟩)
    go_ret
    exact⟨by rw[zA0 E];rfl,Hx⟩
   ·have h2:(ca.k == 1)=false:=by simpa using h1
    have E:=zA3 (zA0 E3 hk h1)
    clear E1 E2 E3 hk h1
    go_wp2_with (go_at_call 107;refine(zOp _ _ _).mono ?_;rintro e w1 ⟨rfl,rfl⟩)
    go_ret
    exact⟨by rw[zA0 E];rfl,Hx⟩
  ·have Jv:(ca.k != cb.k)=true:=by simpa using hk
   have E:=zA3 (zA0 E1 hk)
   clear E1 E2 E3 hk
   go_wp2_with (go_at_call 107;refine(zOp _ _ _).mono ?_;rintro e w1 ⟨rfl,rfl⟩)
   go_ret
   exact⟨by rw[zA0 E];rfl,Hx⟩
theorem Tryz.info5:(Tryz.prog.info? 5).map (fun i=>(i.zero,i.size,i.bytes))=some (some (.int .u8 0),1,1):=by kernel_rfl
def zBC(w:World)(base:Nat)(v:Value)(zs:List Int):Prop:=w.ownsRow base 5 1 v zs.length (zs.map (Value.int .u8))
def zAt(w w':World)(v v':Value):Prop:=w.grownBy w' v.ownBlock/\(v'.ownBlock=v.ownBlock∨∃g,v'.ownBlock=some g/\w.heap.size<=g)
theorem zAt.refl(w:World)(v:Value):zAt w w v v:=⟨⟨rfl,rfl,rfl,Nat.le_refl _,fun _ _ _=>rfl⟩,.inl rfl⟩
theorem zAt.trans{a b c:World}{u v x:Value}(h:zAt a b u v)(k:zAt b c v x):zAt a c u x:=by
 obtain⟨h1,h2⟩:=h
 obtain⟨k1,k2⟩:=k
 refine⟨⟨k1.os.trans h1.os,k1.tape.trans h1.tape,k1.output.trans h1.output,Nat.le_trans h1.size k1.size,fun i hi Hg=>?_⟩,?_⟩
 ·rw[k1.block i (Nat.lt_of_lt_of_le hi h1.size) ?_,h1.block i hi Hg]
  rcases h2 with h2|⟨g,h2,hg⟩
  ·rw[h2];exact Hg
  ·rw[h2];intro e;cases e;omega
 ·rcases k2 with k2|⟨g,k2,hg⟩
  ·rcases h2 with h2|⟨g,h2,hg⟩
   ·exact .inl (k2.trans h2)
   ·exact .inr ⟨g,k2.trans h2,hg⟩
  ·exact .inr ⟨g,k2,Nat.le_trans h1.size hg⟩
theorem zAt.app{a b c:World}{u v x:Value}{o:Obj}(h:zAt a b u v)(hg:(b.alloc o).grownBy c v.ownBlock)(Hm:x.ownBlock=v.ownBlock∨x.ownBlock=some (b.alloc o).heap.size):zAt a c u x:=by
 refine h.trans ⟨⟨hg.os,hg.tape,hg.output,?_,fun i hi Hg=>?_⟩,?_⟩
 ·have:=hg.size;simp at this;omega
 ·rw[hg.block i (by simp;omega) Hg,Below.heap_alloc b o i hi]
 ·rcases Hm with h|h
  ·exact .inl h
  ·exact .inr ⟨_,h,by simp⟩
theorem zAt.app2{b c:World}{v x:Value}{o o2:Obj}(hg:((b.alloc o).alloc o2).grownBy c v.ownBlock)(Hm:x.ownBlock=v.ownBlock∨x.ownBlock=some ((b.alloc o).alloc o2).heap.size):zAt b c v x:=by
 refine⟨⟨hg.os,hg.tape,hg.output,?_,fun i hi Hg=>?_⟩,?_⟩
 ·have:=hg.size;simp at this;omega
 ·rw[hg.block i (by simp;omega) Hg,Below.heap_alloc _ o2 i (by simp;omega),Below.heap_alloc b o i hi]
 ·rcases Hm with h|h
  ·exact .inl h
  ·exact .inr ⟨_,h,by simp;omega⟩
theorem zAt.below{a b:World}{u v:Value}(h:zAt a b u v){B:Nat}(hB:B<=a.heap.size)(hu:∀g,u.ownBlock=some g->B<=g):Below B a b:=
 ⟨h.1.os,h.1.tape,h.1.output,h.1.size,fun k hk=>h.1.block k (by omega) (fun e=>by have:=hu k e.symm;omega)⟩
theorem zBS{w:World}{base:Nat}{v:Value}{ys news:List Int}{m:Nat}(hm:news.length=m)(h:w.ownsRow base 5 1 v (ys.length+m) (ys.map (Value.int .u8)++news.map (Value.int .u8))):zBC w base v (ys++news):=by
 unfold zBC
 rw[zAX,List.map_append,hm]
 exact h
theorem zBN{w:World}{base:Nat}{v:Value}{zs:List Int}(h:zBC w base v zs){g:Nat}(hg:v.ownBlock=some g):base<=g/\g<w.heap.size:=World.ownsRow.lt h g hg
theorem zCG{w1 w2:World}{u v:Value}(h:zAt w1 w2 u v){b:Nat}(hb:b<w1.heap.size)(Hg:u.ownBlock≠some b)(j:Nat):w2.cell? ⟨b,j,none⟩=w1.cell? ⟨b,j,none⟩:=
 World.cell?_of_block (a:=⟨b,j,none⟩) (h.1.block b hb (fun e=>Hg e.symm))
def toB(zs:List Int):ByteArray:=zs.foldl (fun r n=>r.push (UInt8.ofNat n.toNat)) ByteArray.empty
theorem zAe{w:World}{base:Nat}{v:Value}{zs:List Int}(h:zBC w base v zs):(convert 71 9 v).run Tryz.prog w=.ok (.string (toB zs)) w:=by
 rcases h.2 with ⟨rfl,h0⟩|⟨g,cap,cur,rfl,hb,hg,_⟩
 ·have:zs=[]:=List.eq_nil_of_length_eq_zero h0
  subst this
  rw[run_convert_bytes_string w 71 9 5 none 0 0 Tryz.underlying71 Tryz.underlying5 Tryz.underlying9]
  rfl
 ·rw[run_convert_bytes_string w 71 9 5 _ _ _ Tryz.underlying71 Tryz.underlying5 Tryz.underlying9]
  refine run_bytesToString w _ _ _ zs ?_
  have:=run_loadCells_list (P:=Tryz.prog) (w:=w) ⟨g,0,none⟩ (zs.map (Value.int .u8)) (World.ownsRow.cells h rfl)
  simpa using this
def ofI(n:Int):UInt8:=UInt8.ofNat n.toNat
theorem zQj(zs:List Int):∀acc:ByteArray,zs.foldl (fun r n=>r.push (UInt8.ofNat n.toNat)) acc=⟨acc.data++(zs.map ofI).toArray⟩:=by
 induction zs with
 | nil=>intro acc;simp
 | cons z zs ih=>
  intro acc
  rw[List.foldl_cons,ih]
  congr 1
  simp[ByteArray.push,ofI]
theorem zFx(zs:List Int):toB zs=⟨(zs.map ofI).toArray⟩:=by
 unfold toB
 rw[zQj]
 show ByteArray.mk (#[]++_)=_
 rw[Array.empty_append]
theorem zAJ(a b:List Int):toB (a++b)=toB a++toB b:=by
 rw[zFx,zFx,zFx]
 simp only[List.map_append]
 apply ByteArray.ext
 simp
theorem zAN(a:List Int):(toB a).size=a.length:=by
 rw[zFx];simp[ByteArray.size]
theorem zQk(z:Int)(a:List Int):toB (z::a)=toB [z]++toB a:=zAJ [z] a
def beN(U:Int)(n k:Nat):Int:=U / 2 ^ (8*(n-1-k)) % 256
def beL(U:Int)(n k:Nat):List Int:=(List.range k).map (beN U n)
theorem zIu(U:Int)(n k:Nat):beL U n (k+1)=beL U n k++[beN U n k]:=by simp[beL,List.range_succ]
theorem zAK(U:Int)(n k:Nat):(beL U n k).length=k:=by simp[beL]
theorem zBv(base:Nat)(zs:List Int)(U:Int)(n:Nat)(v:Value)(w:World)(hn:n<=8)(Hd:zBC w base v zs)(Hf:zs.length<=140737488300000)(Hv:base<=w.heap.size) :
  Calls Tryz.prog 113 #[v,.int .u64 U,.int .i64 n] w fun e w'=>∃v',e=.returned v'/\zBC w' base v' (zs++beL U n n)/\zAt w w' v v':=by
 obtain⟨i0,hi,QY,Qp,QC⟩:=info_parts Tryz.info5
 go_enter Tryz.func113,Tryz.ntmps113
 go_wp2_with fail
 go_loopw[0,9] (fun key s wr=>∃k:Nat,k<=n/\s=.int .i64 (k:Int)/\zBC wr base key (zs++beL U n k)/\zAt w wr v key) (fun _ s _=>n-(intOf s).toNat)
 case atStart=>exact⟨0,Nat.zero_le _,rfl,by simpa [beL] using Hd,zAt.refl _ _⟩
 case round=>
  obtain⟨k,hk,rfl,ho,hg⟩:=hrel
  by_cases h8:k<n
  ·have h9:(k:Int)<(n:Int):=by omega
   have hl:(zs++beL U n k).length=zs.length+k:=by rw[zAX,zAK]
   have HL:=zA3 hl
   have es:((n:Int)-1-(k:Int))=((n-1-k:Nat):Int):=by omega
   have h10:(0:Int)<=8*((n:Int)-1-(k:Int)):=by omega
   have h11:(8*((n:Int)-1-(k:Int))).toNat=8*(n-1-k):=by omega
   clear hl
   go_wp2_with (at_builtin;refine wpList_append_own_at _ rfl (.tmp 12) (.tmp 21) 71 rfl base 5 i0 (.int .u8 0) 1 1 Tryz.underlying71 hi QY Qp QC rfl (by decide) _ _ _ rfl (World.ownsRow.alloc ho _) ⟨wr.heap.size,0,none⟩ 1 1 [.int .u8 (beN U n k)] rfl rfl (cell_one_new _ _ _) (by intro u hu;simp at hu;subst hu;rfl) (by rw[zA0 HL];unfold maxLen;omega) (by rw[zA0 HL];omega) (by have:=hg.1.size;simp;omega) ?_;intro v' w1 Yy Hr _ Hm)
   have Hj:=zAt.app hg Hr Hm
   have Qi:=zBS (news:=[beN U n k]) rfl Yy
   rw[List.append_assoc,<-zIu] at Qi
   refine⟨⟨k+1,by omega,by go_num,Qi,Hj⟩,?_⟩
   simp only[intOf]
   omega
  ·have Qk:k=n:=by omega
   have h9:¬(k:Int)<(n:Int):=by omega
   subst Qk
   go_wp2
   go_ret
   exact⟨_,rfl,ho,hg⟩
theorem zBK(U:Int)(n:Nat)(w:World)(hn:n<=8) :
  Calls Tryz.prog 32 #[.int .u64 U,.int .i64 n] w fun e w'=>e=.returned (.string (toB (beL U n n)))/\Below w.heap.size w w':=by
 obtain⟨i0,hi,QY,Qp,QC⟩:=info_parts Tryz.info5
 go_enter Tryz.func32,Tryz.ntmps32
 go_wp2_with fail
 go_loopw[5,6] (fun b s wr=>∃k j:Nat,k+j=n/\s=.int .i64 ((j:Int)-1)/\zBC wr w.heap.size b (beL U n k)/\Below w.heap.size w wr) (fun _ s _=>(intOf s+1).toNat)
 case atStart=>exact⟨0,n,by omega,by first|rfl|go_num,World.ownsRow_nil _ _ _ _,Below.refl _ _⟩
 case round=>
  obtain⟨k,j,hk,rfl,ho,hg⟩:=hrel
  by_cases h8:0<j
  ·obtain⟨i,rfl⟩:∃i,j=i+1:=⟨j-1,by omega⟩
   have ei:(((i+1:Nat):Int)-1)=(i:Int):=by omega
   rw[ei]
   have t1:(0:Int)<=(i:Int):=by omega
   have hl:(beL U n k).length=k:=zAK _ _ _
   have HL:=zA3 hl
   have eb:beN U n k=U / 2 ^ (8*i) % 256:=by unfold beN;rw[show n-1-k=i by omega]
   have HEB:=zA3 eb
   have HK:=zA3 hk
   have hi7:(i:Int)<=7:=by omega
   have h10:(0:Int)<=8*(i:Int):=by omega
   have h11:(8*(i:Int)).toNat=8*i:=by omega
   clear hl ei eb h8 hk
   go_wp2_with (at_builtin;refine wpList_append_own_at _ rfl (.tmp 13) (.tmp 19) 71 rfl w.heap.size 5 i0 (.int .u8 0) 1 1 Tryz.underlying71 hi QY Qp QC rfl (by decide) _ _ _ rfl (World.ownsRow.alloc ho _) ⟨wr.heap.size,0,none⟩ 1 1 [.int .u8 (U / 2 ^ (8*i) % 256)] rfl rfl (cell_one_new _ _ _) (by intro u hu;simp at hu;subst hu;rfl) (by rw[zA0 HL];have:=zA0 HK;unfold maxLen;omega) (by rw[zA0 HL];have:=zA0 HK;omega) (by have:=hg.size;simp;omega) ?_;intro v' w1 Yy Hr _ Hm)
   have Hj:=zAt.app (zAt.refl wr u5) Hr Hm
   have Qi:=zBS (news:=[U / 2 ^ (8*i) % 256]) rfl Yy
   rw[<-zA0 HEB,<-zIu] at Qi
   have Hb:Below w.heap.size w w1:=hg.trans (Hj.below hg.size (fun g hh=>(zBN ho hh).1))
   go_roundw
   case rel=>exact⟨k+1,i,by have:=zA0 HK;omega,by go_num,Qi,Hb⟩
   case measure=>first | (simp[intOf];done) | (simp only[intOf];omega)
  ·have Qk:k=n:=by omega
   have ej:j=0:=by omega
   subst Qk ej
   have t1:(((0:Nat):Int)-1)=-1:=by omega
   rw[t1]
   have Qm:=zAe ho
   go_wp2
   go_ret
   exact⟨rfl,hg⟩
theorem zEG(x:Val)(w:World):Calls Tryz.prog 103 #[x.v] w fun e w'=>e=.returned (.bool (x.k == 0))/\Below w.heap.size w w':=by
 rw[x.open_]
 go_enter Tryz.func103,Tryz.ntmps103
 go_wp2
 go_ret
 exact⟨rfl,(Below.refl _ _).alloc (Nat.le_refl _) _⟩
def zAO(k d:Nat):Nat:=(k*d+7) / 8
theorem zDP(k d:Nat)(w:World)(hk:k<=1000000)(hd:d<=64):Calls Tryz.prog 158 #[.int .i64 k,.int .i64 d] w fun e w'=>e=.returned (.int .i64 (zAO k d))/\w'=w:=by
 have hm:(k:Int)*(d:Int)<=64000000:=by
  have:=Nat.mul_le_mul hk hd
  have e:((k*d:Nat):Int)=(k:Int)*(d:Int):=by simp
  omega
 have hm0:(0:Int)<=(k:Int)*(d:Int):=Int.mul_nonneg (by omega) (by omega)
 have e1:((k:Int)*(d:Int)+7).tdiv 8=(zAO k d:Int):=by
  rw[Int.tdiv_eq_ediv_of_nonneg (by omega)]
  unfold zAO
  simp
 obtain⟨M,hM⟩:∃M,M=(k:Int)*(d:Int):=⟨_,rfl⟩
 rw[<-hM] at hm hm0 e1
 go_enter Tryz.func158,Tryz.ntmps158
 go_wp2
 try rw[<-hM]
 go_ret
 refine⟨?_,rfl⟩
 first|rw[e1] | rw[e2] | (rw[Int.tdiv_eq_ediv_of_nonneg (by omega)] at e1;rw[e1];rfl)
end Go.Proofs.YtekgpapophibcaaGreat
