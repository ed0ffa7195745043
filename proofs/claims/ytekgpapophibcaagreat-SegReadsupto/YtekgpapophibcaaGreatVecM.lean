import Derived.Test.YtekgpapophibcaaGreatVecL
set_option linter.unusedSimpArgs false
set_option linter.unusedVariables false
set_option maxHeartbeats 4000000
set_option maxRecDepth 100000
namespace Go.Proofs.YtekgpapophibcaaGreat
open Go.RowKit Go.Sort
theorem zD6(w:World)(a b c d:Value):(w.alloc (.cells #[a,b,c,d] 49)).rowIs w.heap.size 49 4 (zGA a b c d):=World.rowIs_alloc w _ 49 _ (zDQ _ _ _ _)
def zNN(w:World)(X:Vc)(p:Sl):World:=w.alloc (.cells #[.int .i64 X.k,.slice p.a1 X.nl.length p.c1,.slice p.a2 X.ns.length p.c2,.slice p.a3 X.ss.length p.c3] 49)
theorem zD5{w w':World}{X:Vc}{p:Sl}(h:Below (zNN w X p).heap.size (zNN w X p) w') :
  (w'.cell? ⟨w.heap.size,0,none⟩=some (.int .i64 X.k)/\w'.cell? ⟨w.heap.size,1,none⟩=some (.slice p.a1 X.nl.length p.c1)/\w'.cell? ⟨w.heap.size,2,none⟩=some (.slice p.a2 X.ns.length p.c2)/\w'.cell? ⟨w.heap.size,3,none⟩=some (.slice p.a3 X.ss.length p.c3))/\Below w.heap.size w w'/\w.heap.size<w'.heap.size:=by
 have hr:=zA5 (zD6 w (.int .i64 X.k) (.slice p.a1 X.nl.length p.c1) (.slice p.a2 X.ns.length p.c2) (.slice p.a3 X.ss.length p.c3)) h
 obtain⟨r0,r1,r2,r3,_⟩:=zAk hr
 exact⟨⟨r0,r1,r2,r3⟩,zAP h,hr.lt⟩
theorem zRq{X:Vc}(k1:(X.k == 1)=true)(z:X.ss.length=0)(e:X.ns.length=X.nl.length):zAg X=!(X.nl.zip X.ns).any zNe:=by simp[zAg,k1,z,znN,e]
theorem zPu{X:Vc}(k1:(X.k == 1)=true)(e:X.ns.length≠X.nl.length):zAg X=false:=by
 simp only[zAg,k1,if_true,znN]
 rw[beq_false_of_ne (fun h=>e h.symm)];simp
theorem zPt{X:Vc}(k1:(X.k == 1)=true)(z:X.ss.length≠0):zAg X=false:=by
 simp only[zAg,k1,if_true]
 rw[beq_false_of_ne z];rfl
theorem zOm(X:Vc)(p:Sl)(w:World)(hs:small X)(hp:zAi w X p)(k1:(X.k == 1)=true) :
  Calls Tryz.prog 69 #[zCC X p] w fun e w'=>e=.returned (.bool (zAg X))/\Below w.heap.size w w':=by
 rw[zAM]
 obtain⟨l1,l2,l3⟩:=hs
 have k2:(X.k == 2)=false:=by have:=beq_iff_eq.1 k1;rw[this];rfl
 have k3:(X.k != 1)=false:=by simpa using k1
 by_cases e1:X.ns.length=X.nl.length
 ·by_cases z:X.ss.length=0
  ·have HG:=zA3 (zRq k1 z e1)
   have z':((X.ss.length:Int) != 0)=false:=by simp[z]
   have e1':((X.ns.length:Int) != (X.nl.length:Int))=false:=by simp[e1]
   have qM:Hid ((X.nl.zip X.ns).length=X.nl.length):=by show _=_;simp[e1]
   have yX:=zA3 e1
   have HP:=zA3 hp
   obtain⟨W1,ZF⟩:∃W1,W1=zNN w X p:=⟨_,rfl⟩
   have Kq:=zA3 ZF
   obtain⟨⟨r0,r1,r2,r3⟩,Qn,Fj⟩:=zD5 (Below.refl (zNN w X p).heap.size (zNN w X p))
   rw[<-ZF] at r0 r1 r2 r3 Qn Fj
   have QV:=zA3 Qn
   generalize zAg X=G at HG ⊢
   clear z e1 hp Qn
   go_enter Tryz.func69,Tryz.ntmps69
   go_wp2_with fail
   go_loopw[40] (fun i wr=>∃k:Nat,k<=X.nl.length/\i=.int .i64 k/\Hid (∀i y,i<k->(X.nl.zip X.ns)[i]?=some y->zNe y=false)/\wr=W1) (fun i _=>X.nl.length-(intOf i).toNat)
   case atStart=>exact⟨0,Nat.zero_le _,rfl,fun i y h=>by omega,ZF.symm⟩
   case round=>
    clear ZF
    obtain⟨k,hk,rfl,HN,rfl⟩:=hrel
    by_cases h1:k<X.nl.length
    ·obtain⟨b,hb⟩:∃b,X.nl[k]?=some b:=⟨_,zAf h1⟩
     obtain⟨m,hm⟩:∃m,X.ns[k]?=some m:=⟨_,zAf (by rw[zA0 yX];exact h1)⟩
     obtain⟨pb,po,ea,cp⟩:=((zA0 HP).later (zA0 QV)).1.get (k:=k) (x:=.bool b) (by simp[hb])
     obtain⟨qb,qo,eb,cq⟩:=((zA0 HP).later (zA0 QV)).2.1.get (k:=k) (x:=.int .i64 m) (by simp[hm])
     rw[ea] at r1
     rw[eb] at r2
     have HS:=zA3 (zI8 hb hm)
     have i1:(k:Int)<(X.nl.length:Int):=by omega
     have i2:(k:Int)<(X.ns.length:Int):=by rw[zA0 yX];exact i1
     clear hb hm ea eb
     cases b
     ·have HQ:=zA3 (zGg (zA0 HN) (zA0 HS) (by simp[zNe]))
      go_wp2
      go_roundw
      case rel=>exact⟨k+1,by omega,by go_num,HQ,by first|rfl|trivial⟩
      case measure=>simp[intOf];omega
     ·rcases Bool.eq_false_or_eq_true (m != 0) with em|em
      ·have HE:Hid (G=false):=by show _=_;rw[zA0 HG,zRl (zA0 HS) (by simpa [zNe] using em)];rfl
       go_wp2
       go_ret
       exact⟨by rw[zA0 HE];rfl,zA0 QV⟩
      ·have HQ:=zA3 (zGg (zA0 HN) (zA0 HS) (by simpa [zNe] using em))
       go_wp2
       go_roundw
       case rel=>exact⟨k+1,by omega,by go_num,HQ,by first|rfl|trivial⟩
       case measure=>simp[intOf];omega
    ·have i1:¬(k:Int)<(X.nl.length:Int):=by omega
     have HE:Hid (G=true):=by
      show _=_
      have e:k=X.nl.length:=by omega
      rw[zA0 HG,zKx (by rw[zA0 qM,<-e];exact zA0 HN)];rfl
     go_wp2
     go_ret
     exact⟨by rw[zA0 HE];rfl,zA0 QV⟩
  ·have z':((X.ss.length:Int) != 0)=true:=by simp;intro e;exact z (by rw[e];rfl)
   have e1':((X.ns.length:Int) != (X.nl.length:Int))=false:=by simp[e1]
   have HE:=zA3 (zPt k1 z)
   generalize zAg X=G at HE ⊢
   clear z e1 hp
   go_enter Tryz.func69,Tryz.ntmps69
   go_wp2
   go_ret
   exact⟨by rw[zA0 HE];rfl,zA1 (Below.refl _ _) _⟩
 ·have e1':((X.ns.length:Int) != (X.nl.length:Int))=true:=by simp;omega
  have HE:=zA3 (zPu k1 e1)
  generalize zAg X=G at HE ⊢
  clear e1 hp
  go_enter Tryz.func69,Tryz.ntmps69
  go_wp2
  go_ret
  exact⟨by rw[zA0 HE];rfl,zA1 (Below.refl _ _) _⟩
def zSI(p:Bool×ByteArray):Bool:=zLC p || zAv p.2
theorem zSH{nl:List Bool}{ss:List ByteArray}(e:nl.length=ss.length):(nl.zip ss).any zSI=((nl.zip ss).any zLC || ss.any zAv):=by
 have h:ss.any zAv=(nl.zip ss).any (fun p=>zAv p.2):=by
  have:(nl.zip ss).map Prod.snd=ss:=List.map_snd_zip (by omega)
  conv=>lhs;rw[<-this,List.any_map]
  rfl
 rw[h]
 induction nl.zip ss with
 | nil=>rfl
 | cons p l ih=>simp only[List.any_cons,ih,zSI];cases zLC p<;>cases zAv p.2<;>simp
theorem zRp{X:Vc}(k1:(X.k == 1)=false)(k2:(X.k == 2)=true)(z:X.ns.length=0)(e:X.ss.length=X.nl.length):zAg X=!(X.nl.zip X.ss).any zSI:=by
 rw[zSH e.symm]
 simp[zAg,k1,k2,z,znS,e]
theorem zPs{X:Vc}(k1:(X.k == 1)=false)(k2:(X.k == 2)=true)(e:X.ss.length≠X.nl.length):zAg X=false:=by
 simp only[zAg,k1,k2,if_true,znS]
 rw[beq_false_of_ne (fun h=>e h.symm)];simp
theorem zPr{X:Vc}(k1:(X.k == 1)=false)(k2:(X.k == 2)=true)(z:X.ns.length≠0):zAg X=false:=by
 simp only[zAg,k1,k2,if_true]
 rw[beq_false_of_ne z];simp
theorem zMk(X:Vc)(p:Sl)(w:World)(hs:small X)(hp:zAi w X p)(k1:(X.k == 2)=true) :
  Calls Tryz.prog 69 #[zCC X p] w fun e w'=>e=.returned (.bool (zAg X))/\Below w.heap.size w w':=by
 rw[zAM]
 obtain⟨l1,l2,l3⟩:=hs
 have k2:(X.k == 1)=false:=by have:=beq_iff_eq.1 k1;rw[this];rfl
 have k3:(X.k != 1)=true:=by simpa using k2
 have k4:(X.k != 2)=false:=by simpa using k1
 have HP:=zA3 hp
 clear hp
 generalize hGX:zAg X=G
 have Ty:=zA3 hGX
 clear hGX
 obtain⟨W1,ZF⟩:∃W1,W1=zNN w X p:=⟨_,rfl⟩
 obtain⟨⟨r0,r1,r2,r3⟩,Qn,Fj⟩:=zD5 (Below.refl (zNN w X p).heap.size (zNN w X p))
 go_enter Tryz.func69,Tryz.ntmps69
 go_upto_region 3 with fail
 change Code.wp _ _ _ _ (zNN w X p)
 have q1:=cell_regrown r1
 refine wp_region_quiet_below (by kernel_rfl) (by kernel_rfl) ?_
 repeat (go_big_quiet_step (fail))
 refine wpQuiet_nil ?_
 intro w' Hp
 have Ge:Below (zNN w X p).heap.size (zNN w X p) w':=by obtain⟨p,rfl⟩:=Hp;exact below_regrown _ _ _
 clear Hp r0 r1 r2 r3 Qn Fj q1 ZF W1
 obtain⟨⟨r0,r1,r2,r3⟩,Qn,Fj⟩:=zD5 Ge
 have QV:=zA3 Qn
 clear Qn
 obtain⟨W1,rfl⟩:∃W1,W1=w':=⟨_,rfl⟩
 by_cases z:X.ns.length=0
 ·by_cases e1:X.ss.length=X.nl.length
  ·have HG:Hid (G=!(X.nl.zip X.ss).any zSI):=by show _=_;rw[<-zA0 Ty];exact zRp k2 k1 z e1
   have z':((X.ns.length:Int) != 0)=false:=by simp[z]
   have e1':((X.ss.length:Int) != (X.nl.length:Int))=false:=by simp[e1]
   have qM:Hid ((X.nl.zip X.ss).length=X.nl.length):=by show _=_;simp[e1]
   have yX:=zA3 e1
   clear z e1
   go_wp2_with fail
   go_loopw[40] (fun i wr=>∃k:Nat,k<=X.nl.length/\i=.int .i64 k/\Hid (∀i y,i<k->(X.nl.zip X.ss)[i]?=some y->zSI y=false)/\wr=W1) (fun i _=>X.nl.length-(intOf i).toNat)
   case atStart=>exact⟨0,Nat.zero_le _,rfl,fun i y h=>by omega,rfl⟩
   case round=>
    obtain⟨k,hk,rfl,HN,rfl⟩:=hrel
    by_cases h1:k<X.nl.length
    ·obtain⟨b,hb⟩:∃b,X.nl[k]?=some b:=⟨_,zAf h1⟩
     obtain⟨m,hm⟩:∃m,X.ss[k]?=some m:=⟨_,zAf (by rw[zA0 yX];exact h1)⟩
     obtain⟨pb,po,ea,cp⟩:=((zA0 HP).later (zA0 QV)).1.get (k:=k) (x:=.bool b) (by simp[hb])
     obtain⟨qb,qo,eb,cq⟩:=((zA0 HP).later (zA0 QV)).2.2.get (k:=k) (x:=.string m) (by simp[hm])
     rw[ea] at r1
     rw[eb] at r3
     have HS:=zA3 (zI8 hb hm)
     have i1:(k:Int)<(X.nl.length:Int):=by omega
     have i2:(k:Int)<(X.ss.length:Int):=by rw[zA0 yX];exact i1
     clear hb hm ea eb
     by_cases hL:(1000:Int)<(m.size:Int)
     ·have HE:Hid (G=false):=by show _=_;rw[zA0 HG,zRl (zA0 HS) (by simp only[zSI,zAv];simp[hL])];rfl
      cases b
      ·go_wp2
       go_ret
       exact⟨by rw[zA0 HE];rfl,zA0 QV⟩
      ·rcases Bool.eq_false_or_eq_true (!m.toList.isEmpty) with em|em
       ·go_wp2
        go_ret
        exact⟨by rw[zA0 HE];rfl,zA0 QV⟩
       ·go_wp2
        go_ret
        exact⟨by rw[zA0 HE];rfl,zA0 QV⟩
     ·have eL:zAv m=false:=by simpa [zAv] using hL
      cases b
      ·have HQ:=zA3 (zGg (zA0 HN) (zA0 HS) (by simp only[zSI,zLC,eL];rfl))
       go_wp2
       go_roundw
       case rel=>exact⟨k+1,by omega,by go_num,HQ,by first|rfl|trivial⟩
       case measure=>simp[intOf];omega
      ·rcases Bool.eq_false_or_eq_true (!m.toList.isEmpty) with em|em
       ·have HE:Hid (G=false):=by show _=_;rw[zA0 HG,zRl (zA0 HS) (by simp only[zSI,zLC,em];rfl)];rfl
        go_wp2
        go_ret
        exact⟨by rw[zA0 HE];rfl,zA0 QV⟩
       ·have HQ:=zA3 (zGg (zA0 HN) (zA0 HS) (by simp only[zSI,zLC,eL,em];rfl))
        go_wp2
        go_roundw
        case rel=>exact⟨k+1,by omega,by go_num,HQ,by first|rfl|trivial⟩
        case measure=>simp[intOf];omega
    ·have i1:¬(k:Int)<(X.nl.length:Int):=by omega
     have HE:Hid (G=true):=by
      show _=_
      have e:k=X.nl.length:=by omega
      rw[zA0 HG,zKx (by rw[zA0 qM,<-e];exact zA0 HN)];rfl
     go_wp2
     go_ret
     exact⟨by rw[zA0 HE];rfl,zA0 QV⟩
  ·have z':((X.ns.length:Int) != 0)=false:=by simp[z]
   have e1':((X.ss.length:Int) != (X.nl.length:Int))=true:=by simp;omega
   have HE:Hid (G=false):=by show _=_;rw[<-zA0 Ty];exact zPs k2 k1 e1
   clear z e1
   go_wp2
   go_ret
   exact⟨by rw[zA0 HE];rfl,zA0 QV⟩
 ·have z':((X.ns.length:Int) != 0)=true:=by simp;intro e;exact z (by rw[e];rfl)
  have HE:Hid (G=false):=by show _=_;rw[<-zA0 Ty];exact zPr k2 k1 z
  clear z
  go_wp2
  go_ret
  exact⟨by rw[zA0 HE];rfl,zA0 QV⟩
theorem zKh(X:Vc)(p:Sl)(w:World)(k1:(X.k == 1)=false)(k2:(X.k == 2)=false) :
  Calls Tryz.prog 69 #[zCC X p] w fun e w'=>e=.returned (.bool (zAg X))/\Below w.heap.size w w':=by
 rw[zAM]
 have k3:(X.k != 1)=true:=by simpa using k1
 have k4:(X.k != 2)=true:=by simpa using k2
 have HE:Hid (zAg X=false):=by show _=_;simp[zAg,k1,k2]
 generalize zAg X=G at HE ⊢
 go_enter Tryz.func69,Tryz.ntmps69
 go_wp2
 go_ret
 exact⟨by rw[zA0 HE];rfl,zA1 (Below.refl _ _) _⟩
theorem zCi(X:Vc)(p:Sl)(w:World)(hs:small X)(hp:zAi w X p) :
  Calls Tryz.prog 69 #[zCC X p] w fun e w'=>e=.returned (.bool (zAg X))/\Below w.heap.size w w':=by
 rcases Bool.eq_false_or_eq_true (X.k == 1) with k1|k1
 ·exact zOm X p w hs hp k1
 ·rcases Bool.eq_false_or_eq_true (X.k == 2) with k2|k2
  ·exact zMk X p w hs hp k2
  ·exact zKh X p w k1 k2
def atV(X:Vc)(i:Nat):Val:=if X.nl.getD i false then .null else if X.k == 1 then .num (X.ns.getD i 0) else .str (X.ss.getD i ⟨#[]⟩)
def zAD(X:Vc):List Val:=if zAg X then (List.range X.nl.length).map (atV X) else []
theorem zFY{X:Vc}(hg:zAg X=true){i:Nat}(hi:i<X.nl.length):(zAD X)[i]?=some (atV X i):=by simp[zAD,hg,hi]
theorem zAb{X:Vc}(hg:zAg X=true):(zAD X).length=X.nl.length:=by simp[zAD,hg]
theorem zF9{X:Vc}(hg:zAg X=false):zAD X=[]:=by simp[zAD,hg]
theorem zKN(X:Vc):(zAD X).length<=X.nl.length:=by
 cases h:zAg X
 ·rw[zF9 h];simp
 ·rw[zAb h];exact Nat.le_refl _
theorem zFm{X:Vc}(hg:zAg X=true):((X.k == 1)=true/\X.ns.length=X.nl.length)∨((X.k == 1)=false/\(X.k == 2)=true/\X.ss.length=X.nl.length):=by
 unfold zAg at hg
 rcases Bool.eq_false_or_eq_true (X.k == 1) with k1|k1
 ·rw[k1] at hg
  simp[znN] at hg
  exact .inl ⟨k1,hg.2.1.symm⟩
 ·rcases Bool.eq_false_or_eq_true (X.k == 2) with k2|k2
  ·rw[k1,k2] at hg
   simp[znS] at hg
   exact .inr ⟨k1,k2,hg.1.2.1.symm⟩
  ·rw[k1,k2] at hg;simp at hg
theorem zSg(X:Vc)(p:Sl)(w:World)(hs:small X)(hg:zAg X=true)(hp:zAi w X p)(i:Nat)(hi:i<X.nl.length) :
  Calls Tryz.prog 74 #[zCC X p,.int .i64 i] w fun e w'=>e=.returned (atV X i).v/\Below w.heap.size w w':=by
 rw[zAM]
 obtain⟨l1,l2,l3⟩:=hs
 obtain⟨b,hb⟩:∃b,X.nl[i]?=some b:=⟨_,zAf hi⟩
 obtain⟨pb,po,ea,cp⟩:=hp.1.get (k:=i) (x:=.bool b) (by simp[hb])
 rw[ea]
 have i1:(i:Int)<(X.nl.length:Int):=by omega
 have Zm:=World.block_lt_of_cell? _ _ cp
 simp only at Zm
 cases b
 ·rcases zFm hg with ⟨k1,e1⟩|⟨k1,k2,e1⟩
  ·obtain⟨m,hm⟩:∃m,X.ns[i]?=some m:=⟨_,zAf (by omega)⟩
   obtain⟨qb,qo,eb,cq⟩:=hp.2.1.get (k:=i) (x:=.int .i64 m) (by simp[hm])
   rw[eb]
   have i2:(i:Int)<(X.ns.length:Int):=by omega
   have FS:=World.block_lt_of_cell? _ _ cq
   simp only at FS
   have HV:Hid (atV X i=.num m):=by show _=_;simp[atV,hb,k1,hm]
   generalize atV X i=V at HV ⊢
   clear ea eb hb hm hp hg e1
   go_enter Tryz.func74,Tryz.ntmps74
   go_wp2
   refine bodyPost_ret (v:=(Val.num m).v) (by simp[results,Tryz.results74,go_sem,Val.v,Val.num]) rfl ⟨by rw[zA0 HV],?_⟩
   (repeat (first|exact Below.refl _ _|refine Below.alloc ?_ (by simp<;>omega) _|refine Below.setCell ?_ (by simp<;>omega) _))
  ·obtain⟨m,hm⟩:∃m,X.ss[i]?=some m:=⟨_,zAf (by omega)⟩
   obtain⟨qb,qo,eb,cq⟩:=hp.2.2.get (k:=i) (x:=.string m) (by simp[hm])
   rw[eb]
   have i2:(i:Int)<(X.ss.length:Int):=by omega
   have FS:=World.block_lt_of_cell? _ _ cq
   simp only at FS
   have HV:Hid (atV X i=.str m):=by show _=_;simp[atV,hb,k1,hm]
   generalize atV X i=V at HV ⊢
   clear ea eb hb hm hp hg e1
   go_enter Tryz.func74,Tryz.ntmps74
   go_wp2
   refine bodyPost_ret (v:=(Val.str m).v) (by simp[results,Tryz.results74,go_sem,Val.v,Val.str]) rfl ⟨by rw[zA0 HV],?_⟩
   (repeat (first|exact Below.refl _ _|refine Below.alloc ?_ (by simp<;>omega) _|refine Below.setCell ?_ (by simp<;>omega) _))
 ·have HV:Hid (atV X i=.null):=by show _=_;simp[atV,hb]
  generalize atV X i=V at HV ⊢
  clear ea hb hp hg
  go_enter Tryz.func74,Tryz.ntmps74
  go_wp2
  refine bodyPost_ret (v:=Val.null.v) (by simp[results,Tryz.results74,go_sem,Val.v,Val.null]) rfl ⟨by rw[zA0 HV],?_⟩
  (repeat (first|exact Below.refl _ _|refine Below.alloc ?_ (by simp<;>omega) _|refine Below.setCell ?_ (by simp<;>omega) _))
theorem zPb(X:Vc)(p:Sl)(w:World)(hs:small X)(hp:zAi w X p) :
  Calls Tryz.prog 57 #[zCC X p] w fun e w'=>e=.returned (.int .i64 ((zAD X).length:Nat))/\Below w.heap.size w w':=by
 have HG:Hid (∀w',Below w.heap.size w w'->Calls Tryz.prog 73 #[zCC X p] w' fun e w''=>e=.returned (.bool (zAg X))/\Below w'.heap.size w' w''):=fun w' hb=>zFN X p w' hs (hp.later hb)
 have HV:Hid ((zAD X).length=if zAg X then X.nl.length else 0):=by
  show _=_
  cases h:zAg X
  ·simp[zF9 h]
  ·simp[zAb h]
 obtain⟨l1,l2,l3⟩:=hs
 generalize (zAD X).length=N at HV ⊢
 generalize zAg X=G at HV HG
 rw[zAM]
 clear hp
 cases G
 ·have HE:Hid (N=0):=zA0 HV
  go_enter Tryz.func57,Tryz.ntmps57
  go_wp2_with (go_at_call 73;refine(zA0 HG _ (zA1 (Below.refl _ _) _)).mono ?_;rintro e w1 ⟨rfl,Hb⟩)
  go_ret
  exact⟨by rw[zA0 HE];rfl,zAP Hb⟩
 ·have HE:Hid (N=X.nl.length):=zA0 HV
  go_enter Tryz.func57,Tryz.ntmps57
  go_wp2_with (go_at_call 73;refine(zA0 HG _ (zA1 (Below.refl _ _) _)).mono ?_;rintro e w1 ⟨rfl,Hb⟩;obtain⟨⟨r0,r1,r2,r3⟩,Hw,yr⟩:=zD5 Hb)
  go_ret
  exact⟨by rw[zA0 HE];rfl,Hw⟩
def c3(x:Val):List Value:=[.int .i64 x.k,.int .i64 x.n,.string x.s]
def zAV(w:World)(base:Nat)(v:Value)(xs:List Val):Prop:=w.ownsRow base 59 3 v xs.length (xs.flatMap c3)
theorem zB9{w:World}{base:Nat}{v:Value}{ys:List Val}{x:Val}(h:w.ownsRow base 59 3 v (ys.length+1) (ys.flatMap c3++c3 x)):zAV w base v (ys++[x]):=by
 unfold zAV
 rw[zAX,List.flatMap_append]
 simpa using h
theorem zAV.later{w w1:World}{base:Nat}{v:Value}{xs:List Val}(h:zAV w base v xs)(hb:Below w.heap.size w w1):zAV w1 base v xs:=zAc h hb
theorem zCV:∀(zs:List Val) (i j:Nat) (x:Val),zs[i]?=some x->j<3->(zs.flatMap c3)[i*3+j]?=(c3 x)[j]?
 | [],i,j,x,h,_=>by simp at h
 | z::zs,0,j,x,h,hj=>by
  simp at h
  subst h
  rw[List.flatMap_cons,List.getElem?_append_left (by simp[c3];omega)]
  simp
 | z::zs,i+1,j,x,h,hj=>by
  have ih:=zCV zs i j x (by simpa using h) hj
  rw[List.flatMap_cons,List.getElem?_append_right (by simp[c3];omega)]
  rw[<-ih]
  congr 1
  simp[c3]
  omega
theorem zBP(zs:List Val):(zs.flatMap c3).length=zs.length*3:=by
 induction zs with
 | nil=>rfl
 | cons z zs ih=>rw[List.flatMap_cons,zAX,ih];simp[c3];omega
theorem zBy{w:World}{base:Nat}{v:Value}{zs:List Val}(h:zAV w base v zs):∃a cap,v=.slice a zs.length cap/\zAR w a zs:=by
 rcases h.2 with ⟨rfl,h0⟩|⟨g,cap,cur,rfl,_⟩
 ·have:zs=[]:=List.eq_nil_of_length_eq_zero h0
  subst this
  exact⟨none,0,rfl,.inl rfl⟩
 ·refine⟨_,cap,rfl,.inr ⟨g,0,rfl,fun i x hx=>?_⟩⟩
  have hc:=World.ownsRow.cells h rfl
  have ea:∀n:Nat,(⟨g,0,none⟩:Addr).add n=⟨g,0+n,none⟩:=by
   intro n
   by_cases h:n=0<;>simp[Addr.add,h]
  have e0:=hc (i*3+0) _ (zCV zs i 0 x hx (by omega))
  have e1:=hc (i*3+1) _ (zCV zs i 1 x hx (by omega))
  have e2:=hc (i*3+2) _ (zCV zs i 2 x hx (by omega))
  rw[ea] at e0 e1 e2
  exact⟨by simpa using e0,by simpa [Nat.add_assoc] using e1,by simpa [Nat.add_assoc] using e2⟩
theorem zHi{w:World}{base g n:Nat}{F:Nat->Value}{ys:List Val}(h:w.rowIs g 59 (n*3) F)(hl:ys.length=n)(hh:zCu F n ys)(hb:base<=g)(hn:n<=maxLen):zAV w base (.slice (some ⟨g,0,none⟩) n n) ys:=by
 subst hl
 obtain⟨c,hc,hs,hf⟩:=h
 refine⟨zBP ys,.inr ⟨g,ys.length,c,rfl,hb,hc,Nat.le_refl _,hn,hs,?_⟩⟩
 rw[List.take_of_length_le (by simp[hs])]
 apply List.ext_getElem?
 intro j
 by_cases hj:j<ys.length*3
 ·have e:j=(j / 3)*3+j % 3:=by omega
  have hx:ys[j / 3]?=some (ys[j / 3]'(by omega)):=zAf (by omega)
  obtain⟨f0,f1,f2⟩:=hh (j / 3) _ (by omega) hx
  have Fa:c.toList[j]?=some (F j):=by rw[Array.getElem?_toList];exact hf j hj
  rw[Fa]
  have hfl:=zCV ys (j / 3) (j % 3) _ hx (by omega)
  rw[<-e] at hfl
  rw[hfl]
  have h3:j % 3=0∨j % 3=1∨j % 3=2:=by omega
  rcases h3 with h3|h3|h3
  ·rw[h3];rw[h3,Nat.add_zero] at e;rw[<-e] at f0;simp[c3,f0]
  ·rw[h3];rw[h3] at e;rw[<-e] at f1;simp[c3,f1]
  ·rw[h3];rw[h3] at e;rw[<-e] at f2;simp[c3,f2]
 ·rw[List.getElem?_eq_none (by simp[hs];omega),List.getElem?_eq_none (by rw[zBP];omega)]
def zQY(w0 w:World)(B g n k:Nat)(v0 v1 v2 v3:Value)(ys:List Val):Prop:=
 Below w0.heap.size w0 w/\w.rowIs B 49 4 (zGA v0 v1 v2 v3)/\(∃F,w.rowIs g 59 (n*3) F/\zCu F k ys)
theorem zQY.later{w0 w w':World}{B g n k:Nat}{v0 v1 v2 v3:Value}{ys:List Val}(h:zQY w0 w B g n k v0 v1 v2 v3 ys)(hb:Below w.heap.size w w'):zQY w0 w' B g n k v0 v1 v2 v3 ys:=by
 obtain⟨Zg,hr,F,hF,QP⟩:=h
 exact⟨zA2 Zg hb,zA5 hr hb,F,zA5 hF hb,QP⟩
theorem zQY.step{w0 w:World}{B g n k:Nat}{v0 v1 v2 v3:Value}{ys:List Val}{y:Val}(h:zQY w0 w B g n k v0 v1 v2 v3 ys)(hg:w0.heap.size<=g)(Hg:B≠g)(hy:ys[k]?=some y) :
  zQY w0 (((w.setCell ⟨g,k*3,none⟩ (.int .i64 y.k)).setCell ⟨g,k*3+1,none⟩ (.int .i64 y.n)).setCell ⟨g,k*3+2,none⟩ (.string y.s)) B g n (k+1) v0 v1 v2 v3 ys:=by
 obtain⟨Zg,hr,F,hF,QP⟩:=h
 refine⟨((Zg.setCell hg _).setCell hg _).setCell hg _,?_,⟨_,?_,QP.step hy⟩⟩
 ·exact((hr.setOther Hg _).setOther Hg _).setOther Hg _
 ·exact((hF.set _ _).set _ _).set _ _
theorem zQY.start{w0 w1:World}{B:Nat}{v0 v1 v2 v3:Value}(hb:Below w0.heap.size w0 w1)(hr:w1.rowIs B 49 4 (zGA v0 v1 v2 v3))(c:Array Value)(n:Nat)(ys:List Val):zQY w0 (w1.alloc (.cells (madeCells c (n*3)) 59)) B w1.heap.size n 0 v0 v1 v2 v3 ys:=by
 obtain⟨F,hF⟩:=zFF w1 (madeCells c (n*3)) 59
 rw[size_madeCells] at hF
 exact⟨zA1 hb _,hr.alloc _,F,hF,zCu.zero _ _⟩
theorem zMG(X:Vc)(p:Sl)(w:World)(hs:small X)(hp:zAi w X p) :
  Calls Tryz.prog 101 #[zCC X p] w fun e w'=>∃v,e=.returned v/\zAV w' w.heap.size v (zAD X)/\Below w.heap.size w w':=by
 obtain⟨i4,Qd,z40,z41,z42⟩:=info_parts Tryz.info59
 have HL:Hid (∀w',Below w.heap.size w w'->Calls Tryz.prog 57 #[zCC X p] w' fun e w''=>e=.returned (.int .i64 ((zAD X).length:Nat))/\Below w'.heap.size w' w''):=fun w' hb=>zPb X p w' hs (hp.later hb)
 have HT:Hid (zAg X=true->∀w',Below w.heap.size w w'->∀i,i<X.nl.length->Calls Tryz.prog 74 #[zCC X p,.int .i64 i] w' fun e w''=>e=.returned (atV X i).v/\Below w'.heap.size w' w''):=fun hg w' hb i hi=>zSg X p w' hs hg (hp.later hb) i hi
 have hN:(zAD X).length<=1048576:=Nat.le_trans (zKN X) hs.1
 obtain⟨N,Zn⟩:∃N,N=(zAD X).length:=⟨_,rfl⟩
 have HN:=zA3 Zn
 rw[<-Zn] at hN HL
 have HA:Hid (∀i,i<N->(zAD X)[i]?=some (atV X i)/\∀w',Below w.heap.size w w'->Calls Tryz.prog 74 #[zCC X p,.int .i64 i] w' fun e w''=>e=.returned (atV X i).v/\Below w'.heap.size w' w''):=by
  intro i hi
  rw[Zn] at hi
  cases hg:zAg X
  ·rw[zF9 hg] at hi;simp at hi
  ·rw[zAb hg] at hi
   exact⟨zFY hg hi,fun w' hb=>zA0 HT hg w' hb i hi⟩
 clear hp HT Zn hs
 rw[zAM]
 go_enter Tryz.func101,Tryz.ntmps101
 go_wp2_with (first
  | (go_at_call 57;refine(zA0 HL _ (zA1 (Below.refl _ _) _)).mono ?_;rintro e w1 ⟨rfl,Hb⟩;have Hs:=zD5 Hb;obtain⟨⟨r0,r1,r2,r3⟩,Qn,Fj⟩:=Hs)
  | (at_make;refine zB5 _ rfl (.tmp 6) (.tmp 6) 37 rfl 59 i4 _ Tryz.underlying37 Qd z40 3 z41 .i64 .i64 N rfl rfl (by rw[z42];omega) (by omega) ?_)
  | fail)
 have HR:=zA3 (zA5 (zD6 w _ _ _ _) Hb)
 clear Hb r0 r1 r2 r3
 go_loopw[10] (fun i wr=>∃k:Nat,k<=N/\i=.int .i64 k/\zQY w wr w.heap.size w1.heap.size N k (.int .i64 X.k) (.slice p.a1 X.nl.length p.c1) (.slice p.a2 X.ns.length p.c2) (.slice p.a3 X.ss.length p.c3) (zAD X)) (fun i _=>N-(intOf i).toNat)
 case atStart=>exact⟨0,Nat.zero_le _,rfl,zQY.start Qn (zA0 HR) _ _ _⟩
 case round=>
  obtain⟨k,hk,rfl,hI⟩:=hrel
  have HI:=zA3 hI
  obtain⟨hb,hr,F,hF,QP⟩:=hI
  by_cases h1:k<N
  ·obtain⟨r0,r1,r2,r3,_⟩:=zAk hr
   obtain⟨hv,Hm⟩:=zA0 HA k h1
   have HV:=zA3 hv
   have HT:=zA3 (Hm wr hb)
   generalize atV X k=y at HV HT
   have HF:=zA3 hF
   have hg:=hF.lt
   have i1:(k:Int)<(N:Int):=by omega
   clear hr hF QP hb hv Hm
   go_wp2_with (go_at_call 74;refine(zA0 HT).mono ?_;rintro e w2 ⟨rfl,Hh⟩;rw[Val.open_];obtain⟨p0,p1,p2,q0,q1,q2⟩:=zQl (k:=k) (zA5 (zA0 HF) Hh) (by omega))
   go_roundw
   case rel=>exact⟨k+1,by omega,by go_num,((zA0 HI).later Hh).step (by omega) (by omega) (zA0 HV)⟩
   case measure=>simp[intOf];omega
  ·have i1:¬(k:Int)<(N:Int):=by omega
   have HE:Hid (zAV wr w.heap.size (.slice (some ⟨w1.heap.size,0,none⟩) N N) (zAD X)):=by
    have e:k=N:=by omega
    rw[e] at QP
    exact zHi hF (zA0 HN).symm QP (by omega) (by unfold maxLen;omega)
   clear hF QP hr
   go_wp2
   go_ret
   exact⟨_,rfl,zA0 HE,hb⟩
end Go.Proofs.YtekgpapophibcaaGreat
