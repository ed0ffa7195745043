import Derived.Test.YtabmgpillccfaaaGreatDoorUbH
set_option linter.all false
set_option maxHeartbeats 4000000
set_option maxRecDepth 100000
namespace Go.Proofs.YtabmgpillccfaaaGreatDoor
open Go.RowKit Go.Sort Go.Proofs.Tryz
theorem js(D:Dt)(WJ:D.fin)(VX:Option Addr)(WC:Nat)(l:World)(WH:Dt.all l VX D.l)(V4:GT l):Calls prog 60 #[D.val VX WC] l (iV dw id (eU D) l):=by
 have Wt:=Dt.af WJ;obtain⟨W4,Wq⟩:=al (iV dw id (eU D) l);rw[<-Wq];have Xf:=Wt.2.2.1;obtain⟨n,WN,u⟩:=D;simp only[Dt.ad,Dt.k,Dt.s,Dt.l] at *;obtain⟨v,Wu⟩:=al u.length;rw[<-Wu] at Xf ⊢;obtain⟨WD,WI⟩:=al (v+WC);rw[<-WI];obtain⟨f,x⟩:=al (l.alloc (.cells #[.bool n,.string WN,.slice VX v WD] 46));have V7:Bw l f:=by rw[x];exact ae (ar _ l) _
 have W6:f.cell? ⟨l.heap.size,0,none⟩=some (.bool n):=by rw[x];simp[go_sem]
 have W7:f.cell? ⟨l.heap.size,1,none⟩=some (.string WN):=by rw[x];simp[go_sem]
 have Xu:f.cell? ⟨l.heap.size,2,none⟩=some (.slice VX v WD):=by rw[x];simp[go_sem]
 have Y:=VV V7;have W2:=VV x.symm;have WP:=VV (Dt.ab _ WH V7);have WU:=VV Wt.2.2.2;replace V4:=V4.aa V7;have Wc:=VV V4;have WA:=VV Wu;obtain⟨s,Wr⟩:=al (aW (u.map iL));have Wk:Hid (W4=iV dw id (if n then s else none) l):=by show _=_;rw[Wq,Wr];cases n<;>rfl
 have WW:Hid (s=(aW ((u.drop 0).map iL)).map λz=>([]:List (Int×Bool)).map id++z):=by show _=_;rw[Wr,List.drop_zero];cases aW (u.map iL)<;>rfl
 have WY:=VV (GL.nil dw f f.heap.size);have WR:=VV (ar f.heap.size f);have WT:=VV W6;have O:l.heap.size<f.heap.size:=by rw[x];simp
 have Xp:=VV O;clear Wq Wr WH V7 x WI Wu V4 Wt WJ W7 O;go_enter func60,ntmps60;go_upto_region 1 with fail;rw[U W2];go_wp2_with fail;go_loopw[4,13] (λWO Ww q=>∃(n:Nat) (i:List (Int×Bool)),n<=v/\Ww=.int .i64 n/\Hid (GL dw q f.heap.size WO i)/\Hid (Bw f q)/\Hid (i.length=n)/\Hid (s=(aW ((u.drop n).map iL)).map λz=>i.map id++z)) (λWO Ww q=>v-(intOf Ww).toNat);case atStart=>exact⟨0,[],bf,rfl,WY,WR,rfl,WW⟩
 case round=>
  obtain⟨k,i,Xv,rfl,Z,B,VW,Wz⟩:=hrel;by_cases t:k<v
  ·(have Xh:(k:Int)<(v:Int):=by omega);obtain⟨e,Q⟩:∃e,u[k]?=some e:=⟨_,ba (by rw[<-U WA];exact t)⟩;have g:=U Wz;rw[en iL Q] at g;have R:=Dt.ag (U WU) (a8 Q);obtain⟨Xr,Xx,VY,VZ,Wp,⟨Xz,XA,Xi⟩,V6⟩:=Dt.get (Dt.ab _ (U WP) (U B)) Q;obtain⟨Wy,I⟩:=al (wr.alloc (.cells #[.bool e.k,.string e.s,.slice VY e.l.length (e.l.length+VZ)] 46));(have c:Bw wr Wy:=by rw[I];exact ae (ar _ wr) _);have O:=(U Wc).aa (ac (U B) c);have Wl:=VV I.symm;have WQ:=VV c;rw[Wp];obtain⟨A,V5⟩:=al (headD e);have C:=VV (cg e VY VZ Wy (Dt.ab _ V6 c) (Dt.af R).2.2.1);rw[<-V5,Dt.ad] at C;obtain⟨J,G⟩:=al e.l.length;rw[<-G] at C Xi I Wl;(have d:bp Wy wr.heap.size [.bool e.k,.string e.s,.slice VY J (J+VZ)]:=by rw[I];exact bp.new wr _ 46);obtain⟨M,F⟩:=al wr.heap.size;rw[<-F] at d;have WB:=VV d;have WV:Hid (wr.heap.size<=M):=Nat.le_of_eq F.symm;obtain⟨V0,_⟩:=d 0 _ rfl;obtain⟨V1,_⟩:=d 1 _ rfl;obtain⟨V2,_⟩:=d 2 _ rfl;(have Wv:iL e=if A=bs cy/\J=2 then (bO (dc e.l 1)).map λb=>(b,true) else (bO e).map λb=>(b,false):=by rw[V5,G];rfl);rw[Wv] at g;have WS:=VV (ac (U B) c);have WZ:=VV ((U Z).aa c);by_cases E:A=bs cy/\J=2
   .rw[aR E] at g
    obtain⟨WE,V3⟩:=E
    obtain⟨j,a⟩:∃j,e.l[1]?=some j:=⟨_,ba (by rw[<-G,V3];decide)⟩
    have WK:dc e.l 1=j:=by unfold dc;rw[fC,a];rfl
    rw[WK] at g
    obtain⟨Xs,WM,Wn,Wo,W8,⟨V,W,X⟩,_⟩:=Dt.get V6 a
    have S:=(Dt.af (Dt.ag (Dt.af R).2.2.2 (a8 a))).1
    rw[show WM+1*3=WM+3 by omega] at V W X
    have Wi:=VV (And.intro (aG V c) (And.intro (aG W c) (aG X c)))
    obtain⟨Wx,y⟩:=al (bO j)
    rw[<-y] at g
    subst V3 W8
    rw[WE] at C
    have Xe:(⟨#[100,101,115,99]⟩:ByteArray)=bs cy:=rfl
    clear Wp Q V6 c I O R a V5 G Wv WE WK V W X d Xe
    unfold cy bs at C
    go_upto_region 5 with fail
    rw[U Wl]
    rw[<-F]
    clear F
    go_upto_region 7 with (go_at_call 54;refine(U C).mono ?_;rintro T Xl ⟨rfl,o⟩;have W0:=VV (And.intro (aG (U Wi).1 o) (And.intro (aG (U Wi).2.1 o) (aG (U Wi).2.2 o)));have d:=(U WB).aa o;have W1:=VV d;obtain⟨V0,W9⟩:=d 0 _ rfl;obtain⟨V1,Xa⟩:=d 1 _ rfl;obtain⟨V2,Xb⟩:=d 2 _ rfl;have W3:=VV (ac (U WQ) o);clear o d)
    obtain⟨V,W,X⟩:=U W0
    go_upto_region 8 with fail
    obtain⟨q,V9⟩:=al (((Xl.setCell ⟨M,0,none⟩ (.bool j.k)).setCell ⟨M,1,none⟩ (.string j.s)).setCell ⟨M,2,none⟩ (.slice Wn j.l.length (j.l.length+Wo)))
    have V8:bp q M [.bool j.k,.string j.s,.slice Wn j.l.length (j.l.length+Wo)]:=by rw[V9];exact bp.set (bp.set (bp.set (U W1) 0 _) 1 _) 2 _
    have Ws:Bw wr q:=by rw[V9];exact bT (U W3) (U WV) _ _ _
    rw[<-V9]
    have w:=VV (ac (U B) Ws)
    have Wh:=VV ((U Z).aa Ws)
    clear V9 V0 V1 V2 W9 Xa Xb V W X
    obtain⟨V0,_⟩:=V8 0 _ rfl
    obtain⟨V1,_⟩:=V8 1 _ rfl
    obtain⟨V2,_⟩:=V8 2 _ rfl
    clear V8 Ws
    have r:=VV (d2 j S Wn Wo q ((U Wc).aa (U w)))
    rw[<-y,Dt.ad] at r
    clear y S
    cases Wx with
    | none=>
     have L:Hid (s=none):=g
     clear g
     go_wp2_with (go_at_call 59;refine(U r).mono ?_;rintro T p ⟨m,Xo,rfl⟩;have Wa:=VV m;clear m)
     rw[U Wk,U L]
     cases n<;>exact⟨ac (U Y) (ac (U w) (U Wa)),none,0,0,rfl⟩
    | some b=>
     have We:Hid (s=(aW ((u.drop (k+1)).map iL)).map λz=>(i++[(b,true)]).map id++z):=by
      show _=_
      rw[g]
      simp only[Option.map_some,Option.bind_some,fK,bX,bi,List.map_nil,id_eq,d8,List.singleton_append]
     have Wd:Hid (i.length+1<=1048577):=by show _<=_;rw[U VW];omega
     clear g
     go_wp2_with (first
      | (go_at_call 59;refine(U r).mono ?_;rintro T p ⟨m,rfl⟩;have c:=ae (ar _ p) (.cells #[.int .i64 b,.bool true] 82);have Wj:Hid (SK (NS (p.alloc (.cells #[.int .i64 b,.bool true] 82)) f.heap.size u4) (p.alloc (.cells #[.int .i64 b,.bool true] 82)) λWm=>(dw).P Wm (b,true)):=λ_ _=>trivial;have K:=VV (ac (U w) (ac m c));have Wf:=VV ((U Wh).aa (ac m c));clear m c)
      | (refine bK dw.ok _ rfl (.tmp 38) (.tmp 42) dw.t rfl rfl f.heap.size u4 i (b, true) p.heap.size rfl (U Wf) (by simp [Act.eval, go_sem]) (U Wj) (λk j a => by
              match k, a with
              | 0, a => simp [dw] at a; subst a; simp [go_sem]
              | 1, a => simp [dw] at a; subst a; simp [go_sem]
              | k + 2, a => simp [dw] at a) (U Wd) (U K).size ?_; intro Xj Xn P N; have Wg := VV P; have Wb := VV ((U K).trans N); clear P N))
     go_roundw
     case rel=>exact⟨k+1,i++[(b,true)],by omega,by go_num,Wg,Wb,by show _=_;rw[bj,U VW];rfl,We⟩
     case measure=>simp[intOf]<;>omega
   .rw[aL E] at g;have S:=(Dt.af R).1;obtain⟨Wx,y⟩:=al (bO e);rw[<-y] at g;(have V3:((A.toList == [100,101,115,99])=false/\True)∨(A=⟨#[100,101,115,99]⟩/\((J:Int) == 2)=false/\¬(J:Int)=2):=by by_cases t:A=bs cy;(.exact .inr ⟨t,by rw[beq_eq_false_iff_ne];intro W5;exact E ⟨t,by omega⟩,λW5=>E ⟨t,by omega⟩⟩);.have t:¬A=⟨#[100,101,115,99]⟩:=t;exact .inl ⟨by have:=jz t;simpa using this,trivial⟩);clear Wp Q I O R V5 Wv d E V6 c;have WX:=VV G;clear G;rcases V3 with ⟨Xc,Xd⟩|⟨rfl,Xc,Xd⟩ <;>
    (go_upto_region 5 with fail
     rw [U Wl]
     rw [← F]
     clear F
     go_upto_region 8 with (go_at_call 54; refine (U C).mono ?_; rintro T q ⟨rfl, o⟩; have d := (U WB).aa o; obtain ⟨V0, _⟩ := d 0 _ rfl; obtain ⟨V1, _⟩ := d 1 _ rfl; obtain ⟨V2, _⟩ := d 2 _ rfl; have w := VV (ac (U WS) o); have Wh := VV ((U WZ).aa o); clear o d)
     have r := VV (d2 e S VY VZ q ((U Wc).aa (U w)))
     rw [← y, Dt.ad] at r; rw [← U WX] at r
     clear y S
     cases Wx with
     | none =>
       have L : Hid (s = none) := g
       clear g
       go_wp2_with (go_at_call 59; refine (U r).mono ?_; rintro T p ⟨m, Xo, rfl⟩; have Wa := VV m; clear m)
       rw [U Wk, U L]
       cases n <;> exact ⟨ac (U Y) (ac (U w) (U Wa)), none, 0, 0, rfl⟩
     | some b =>
       have We : Hid (s = (aW ((u.drop (k + 1)).map iL)).map λz => (i ++ [(b, false)]).map id ++ z) := by
         show _ = _
         rw [g]
         simp only [Option.map_some, Option.bind_some, fK, bX, bi, List.map_nil, id_eq, d8, List.singleton_append]
       have Wd : Hid (i.length + 1 ≤ 1048577) := by show _ ≤ _; rw [U VW]; omega
       clear g
       go_wp2_with (first
         | (go_at_call 59; refine (U r).mono ?_; rintro T p ⟨m, rfl⟩; have c := ae (ar _ p) (.cells #[.int .i64 b, .bool false] 82); have Wj : Hid (SK (NS (p.alloc (.cells #[.int .i64 b, .bool false] 82)) f.heap.size u4) (p.alloc (.cells #[.int .i64 b, .bool false] 82)) λWm => (dw).P Wm (b, false)) := λ_ _ => trivial; have K := VV (ac (U w) (ac m c)); have Wf := VV ((U Wh).aa (ac m c)); clear m c)
         | (refine bK dw.ok _ rfl (.tmp 38) (.tmp 42) dw.t rfl rfl f.heap.size u4 i (b, false) p.heap.size rfl (U Wf) (by simp [Act.eval, go_sem]) (U Wj) (λk j a => by
                 match k, a with
                 | 0, a => simp [dw] at a; subst a; simp [go_sem]
                 | 1, a => simp [dw] at a; subst a; simp [go_sem]
                 | k + 2, a => simp [dw] at a) (U Wd) (U K).size ?_; intro Xj Xn P N; have Wg := VV P; have Wb := VV ((U K).trans N); clear P N))
       go_roundw
       case rel => exact ⟨k + 1, i ++ [(b, false)], by omega, by go_num, Wg, Wb, by show _ = _; rw [bj, U VW]; rfl, We⟩
       case measure => simp [intOf] <;> omega)
  .have Xh:¬(k:Int)<(v:Int):=by omega
   have L:Hid (s=some i):=by
    show _=_
    rw[U Wz,dG (by rw[<-U WA];omega)]
    show some (i.map id++[])=_
    rw[d7,List.map_id]
   have Xw:=cell_regrown (aG (U WT) (U B))
   have Xg:=U Z
   obtain⟨Xq,Xt,rfl,_⟩:=Xg.node dw.ok
   go_upto_region 13 with fail
   refine wp_region_quiet_below (by kernel_rfl) (by kernel_rfl) ?_
   repeat (go_big_quiet_step (fail))
   refine wpQuiet_nil ?_
   intro Xk WL
   have WF:Bw wr Xk:=by obtain⟨Xy,rfl⟩:=WL;exact below_regrown _ _ _
   clear WL
   go_wp2
   rw[U Wk,U L]
   have WG:=ac (U Y) (ac (U B) WF)
   cases n with
   | true=>exact⟨WG,_,i,rfl,List.map_id _,((U Z).aa WF).low (U Y).size⟩
   | false=>exact⟨WG,_,_,_,rfl⟩
theorem rO:∀m:Fin 256,bH (UInt8.ofNat m.val)=if 48<=m.val/\m.val<=57 then (m.val:Int)-48 else if 97<=m.val/\m.val<=102 then (m.val:Int)-97+10 else -1:=by decide +kernel
theorem rN(c:UInt8):bH c=if 48<=(c.toNat:Int)/\(c.toNat:Int)<=57 then (c.toNat:Int)-48 else if 97<=(c.toNat:Int)/\(c.toNat:Int)<=102 then (c.toNat:Int)-97+10 else -1:=by
 have h:=rO ⟨c.toNat,c.toNat_lt⟩;simp only[UInt8.ofNat_toNat] at h;rw[h];congr 1;.exact propext ⟨λh=>by omega,λh=>by omega⟩
 .congr 1;exact propext ⟨λh=>by omega,λh=>by omega⟩
def sB(c:UInt8):Value:=.tuple #[.int .i64 (if bH c<0 then 0 else bH c),.bool (decide (0<=bH c))]
theorem kw(c:UInt8)(w:World):Calls prog 175 #[.int .u8 (c.toNat:Int)] w λr w'=>r=.returned (sB c)/\w'=w:=by
 unfold sB;have l:(0:Int)<=(c.toNat:Int):=by omega
 have h255:(c.toNat:Int)<256:=by have:=c.toNat_lt;omega
 have a:=rN c;generalize (c.toNat:Int)=n at *;generalize bH c=x at *;by_cases f:(48:Int)<=n;.by_cases g:n<=57;(.rw[aR ⟨f,g⟩] at a;(have d:(if x<0 then 0 else x)=n-48:=by rw[aL (by omega)];exact a);(have b:decide (0<=x)=true:=by simp;omega);rw[d,b];have e1:=eb (n-48) (by omega) (by omega);(have e:IntKind.i64.wrap (n-48)=n-48:=by simp[IntKind.wrap,IntKind.bits,IntKind.signed];omega);clear a d b;go_enter func175,ntmps175;go_wp2;go_ret2;exact⟨by simp_all,rfl⟩);.by_cases i:(97:Int)<=n;(.by_cases j:n<=102;(.rw[aL (by omega),aR ⟨i,j⟩] at a;(have d:(if x<0 then 0 else x)=n-97+10:=by rw[aL (by omega)];exact a);(have b:decide (0<=x)=true:=by simp;omega);rw[d,b];have e1:=eb (n-97) (by omega) (by omega);(have e:IntKind.i64.wrap (n-97)=n-97:=by simp[IntKind.wrap,IntKind.bits,IntKind.signed];omega);(have k:wrap64 (n-97+10)=n-97+10:=by unfold wrap64;omega);clear a d b;go_enter func175,ntmps175;go_wp2;go_ret2;exact⟨by simp_all,rfl⟩);.rw[aL (by omega),aL (by omega)] at a;subst a;go_enter func175,ntmps175;go_wp2;go_ret2;exact⟨rfl,rfl⟩);.rw[aL (by omega),aL (by omega)] at a;subst a;go_enter func175,ntmps175;go_wp2;go_ret2;exact⟨rfl,rfl⟩
 .rw[aL (by omega),aL (by omega)] at a;subst a;go_enter func175,ntmps175;go_wp2;go_ret2;exact⟨rfl,rfl⟩
def sc(o:Option (List UInt8))(w:World)(e:Ending)(w':World):Prop:=Below w.heap.size w w'/\match o with
 | some x=>e=.returned (.tuple #[.string (bs x),.bool true])
 | none=>∃s,e=.returned (.tuple #[.string s,.bool false])
theorem iH(o:Option (List UInt8))(acc:List UInt8)(c:UInt8):((o.map λq=>c::q).map λq=>acc++q)=o.map λq=>(acc++[c])++q:=by cases o<;>simp
theorem om{l:List UInt8}{k:Nat}{c:UInt8}(h:l[k]?=some c):l.drop k=c::l.drop (k+1):=by obtain⟨a,b⟩:=b6 h;rw[hb a,b]
theorem rY(L:List UInt8)(k:Nat)(h:k+2<L.length):L.tail.dropLast[k]?=L[k+1]?:=by rw[List.getElem?_dropLast,List.length_tail,aR (by omega),List.getElem?_tail]
theorem q9(L:List UInt8):L.tail.dropLast.length=L.length-2:=by rw[List.length_dropLast,List.length_tail];omega
theorem q6{a b:List UInt8}(h:¬a=b):((bs a).toList == (bs b).toList)=false:=jz λe=>h (by rw[<-dZ a,e,dZ])
theorem kF(L:List UInt8)(M:L.length<=1000000)(w:World):Calls prog 142 #[.string (bs L)] w (sc (ht L) w):=by
 have p:=bx L;obtain⟨R,n⟩:=al (sc (ht L) w);rw[<-n];obtain⟨B,m⟩:=al L.tail.dropLast;have hBL:B.length=L.length-2:=by rw[m];exact q9 L
 have HBL:=VV hBL;have HU:Hid (ht L=(eH B).bind λb=>if fV b=L then some b else none):=by rw[m];rfl
 have HBA:Hid (∀k,k+2<L.length->B[k]?=L[k+1]?):=by rw[m];exact rY L
 have HO0:Hid (OB w w.heap.size (.slice none 0 0) []):=World.ownsRow_nil _ _ _ _;have HB0:=VV (ar w.heap.size w);have HM0:Hid (eH B=(eH (B.drop (1-1))).map λq=>([]:List UInt8)++q):=by show _=_;rw[Nat.sub_self,List.drop_zero];cases eH B<;>rfl
 have HR:=VV n;clear n m hBL;go_enter func142,ntmps142;go_wp2_with fail;go_loopw[4,5] (λv i wx=>∃(j:Nat) (acc:List UInt8),1<=j/\j<=L.length+1/\i=.int .i64 j/\Hid (OB wx w.heap.size v acc)/\Hid (Below w.heap.size w wx)/\Hid (acc.length+1<=j)/\Hid (eH B=(eH (B.drop (j-1))).map λq=>acc++q)) (λv i wx=>L.length+1-(intOf i).toNat);case atStart=>exact⟨1,[],aV,by omega,rfl,HO0,HB0,by show _<=_;simp,HM0⟩
 case round=>
  obtain⟨j,acc,hj1,hj2,rfl,HO,HBJ,HQ,HM⟩:=hrel;have hBL:=U HBL;have a:=U HM;by_cases J:j+1<L.length
  ·(have C:(j:Int)+1<(L.length:Int):=by omega);obtain⟨c,f⟩:∃c,L[j]?=some c:=⟨_,ba (by omega)⟩;(have hbc:B[j-1]?=some c:=by rw[U HBA (j-1) (by omega),show j-1+1=j by omega,f]);have g:=om hbc;rw[show j-1+1=j by omega] at g;rw[g] at a;have hxc:=hm (bs L) j (by rw[p];omega);rw[eR f] at hxc;obtain⟨z,hz⟩:=al (c.toNat:Int);rw[<-hz] at hxc;by_cases h92:c=92
   .subst h92;(have hz92:z=92:=by rw[hz];rfl);subst hz92;clear hz;by_cases K:L.length<=j+3
    .have i3:(L.length:Int)<=(j:Int)+3:=by omega
     have y:eH (92::B.drop j)=none:=by
      have hle:(B.drop j).length<=1:=by rw[List.length_drop];omega
      match B.drop j,hle with
      | [],_=>rfl
      | [x],_=>rfl
      | _::_::_,h=>simp at h
     rw[y] at a;(have HN:Hid (R=sc none w):=by show _=_;rw[U HR,U HU,a];rfl);clear a;clear y g hbc f hBL;go_wp2;rw[U HN];exact⟨U HBJ,_,rfl⟩
    ·(have i3:¬(L.length:Int)<=(j:Int)+3:=by omega);obtain⟨h,o⟩:∃h,L[j+1]?=some h:=⟨_,ba (by omega)⟩;obtain⟨d,hd2⟩:∃d,L[j+2]?=some d:=⟨_,ba (by omega)⟩;rw[om (show B[j]?=some h by rw[U HBA j (by omega),o]),om (show B[j+1]?=some d by rw[U HBA (j+1) (by omega)];exact hd2),mn] at a;(have hxh:∀W,(Instr.index 9 (.string (bs L)) (.int .i64 ((j:Int)+1))).run prog W=.ok (.int .u8 (h.toNat:Int)) W:=λW=>by have:=hm (bs L) (j+1) (by rw[p];omega) W;rw[eR o] at this;exact this);(have hxd:∀W,(Instr.index 9 (.string (bs L)) (.int .i64 ((j:Int)+2))).run prog W=.ok (.int .u8 (d.toNat:Int)) W:=λW=>by have:=hm (bs L) (j+2) (by rw[p];omega) W;rw[eR hd2] at this;exact this);have hca:=λW=>kw h W;have hcb:=λW=>kw d W;unfold sB at hca hcb;have hra:=er h;have hrb:=er d;obtain⟨A,s⟩:=al (bH h);obtain⟨D,t⟩:=al (bH d);obtain⟨zh,hzh⟩:=al (h.toNat:Int);obtain⟨zd,hzd⟩:=al (d.toNat:Int);rw[<-s] at hca hra a;rw[<-t] at hcb hrb a;rw[<-hzh] at hca hxh;rw[<-hzd] at hcb hxd;clear s t hzh hzd o hd2 g hbc f hBL;by_cases hA0:A<0;.rw[aR (.inl hA0)] at a;rw[aR hA0,show decide (0<=A)=false by simp;omega] at hca;obtain⟨xd,hxd2⟩:=al (if D<0 then 0 else D);obtain⟨F,hbd2⟩:=al (decide (0<=D));rw[<-hxd2,<-hbd2] at hcb;(have HN:Hid (R=sc none w):=by show _=_;rw[U HR,U HU,a];rfl);clear a;have HCA:=VV hca;have HCB:=VV hcb;clear hca hcb hxd2 hbd2 hra hrb hA0;go_upto_region 10 with (go_at_call 175;refine(U HCA _).mono ?_;rintro q w2 ⟨rfl,rfl⟩);go_upto_region 11 with (go_at_call 175;refine(U HCB _).mono ?_;rintro q w2 ⟨rfl,rfl⟩);go_wp2;rw[U HN];exact⟨U HBJ,_,rfl⟩
     .rw[aL hA0,show decide (0<=A)=true by simp;omega] at hca;by_cases hD0:D<0;.rw[aR (.inr hD0)] at a;rw[aR hD0,show decide (0<=D)=false by simp;omega] at hcb;(have HN:Hid (R=sc none w):=by show _=_;rw[U HR,U HU,a];rfl);clear a;have HCA:=VV hca;have HCB:=VV hcb;clear hca hcb hra hrb hA0 hD0;go_upto_region 10 with (go_at_call 175;refine(U HCA _).mono ?_;rintro q w2 ⟨rfl,rfl⟩);go_upto_region 11 with (go_at_call 175;refine(U HCB _).mono ?_;rintro q w2 ⟨rfl,rfl⟩);go_wp2;rw[U HN];exact⟨U HBJ,_,rfl⟩
      .rw[aL hD0,show decide (0<=D)=true by simp;omega] at hcb;rw[aL (by omega),iH] at a;(have e1:wrap64 (16*A)=16*A:=by unfold wrap64;omega);(have G:wrap64 (16*A+D)=16*A+D:=by unfold wrap64;omega);have I:IntKind.u8.wrap (16*A+D)=16*A+D:=eb _ (by omega) (by omega);obtain⟨v,r⟩:=al (UInt8.ofNat (16*A+D).toNat);(have HZ:Hid (lg v=.int .u8 (16*A+D)):=by show _=_;unfold lg;rw[r,UInt8.toNat_ofNat'];congr 1;omega);rw[<-r] at a;have HM2:Hid (eH B=(eH (B.drop (j+3-1))).map λq=>(acc++[v])++q):=a;have HCA:=VV hca;have HCB:=VV hcb;have hal:=ae (ar _ wr) (.cells #[.int .u8 (16*A+D)] 5);have HO7:=VV ((U HO).aa hal);have HB7:=VV (ac (U HBJ) hal);(have HLN:Hid (acc.length+1<=4398046511104):=by show _<=_;have:=U HQ;omega);clear hal;clear hca hcb hra hrb hA0 hD0 a r;go_upto_region 10 with (go_at_call 175;refine(U HCA _).mono ?_;rintro q w2 ⟨rfl,rfl⟩);go_upto_region 11 with (go_at_call 175;refine(U HCB _).mono ?_;rintro q w2 ⟨rfl,rfl⟩)
       go_wp2_with (first
        | (refine dh _ rfl (.tmp 57) (.tmp 59) rfl w.heap.size u4 acc [v] w2.heap.size 1 1 rfl (U HO7) (by simp[Act.eval,go_sem]) rfl (λi u hu=>by
          match i,hu with
          | 0,hu=>simp at hu;subst hu;rw[U HZ];simp[go_sem]
          | i+1,hu=>simp at hu) (U HLN) (aQ (U HBJ).size (ae aN _).size) ?_;intro v8 w8 hl8 hb8;have HO8:=VV hl8;have HB8:=VV ((U HB7).trans hb8);clear hl8 hb8))
       go_roundw;(case rel=>exact⟨j+3,acc++[v],by omega,by omega,by go_num,HO8,HB8,by show _<=_;rw[bj,List.length_singleton];have:=U HQ;omega,HM2⟩);case measure=>simp[intOf]<;>omega
   ·(have HZ:Hid (lg c=.int .u8 z):=by show _=_;unfold lg;rw[hz]);have h92z:¬z=92:=λe=>h92 (UInt8.toNat_inj.1 (by rw[hz] at e;rw[show (92:UInt8).toNat=92 from rfl];omega));(have E:(z == 92)=false:=by simpa using h92z);rw[k7 _ h92,iH] at a;have HM2:Hid (eH B=(eH (B.drop (j+1-1))).map λq=>(acc++[c])++q):=a;have hal:=ae (ar _ wr) (.cells #[.int .u8 (z)] 5);have HO7:=VV ((U HO).aa hal);have HB7:=VV (ac (U HBJ) hal);(have HLN:Hid (acc.length+1<=4398046511104):=by show _<=_;have:=U HQ;omega);clear hal;clear a hz h92 g hbc f hBL
    go_wp2_with (first
     | (refine dh _ rfl (.tmp 57) (.tmp 59) rfl w.heap.size u4 acc [c] wr.heap.size 1 1 rfl (U HO7) (by simp[Act.eval,go_sem]) rfl (λi u hu=>by
       match i,hu with
       | 0,hu=>simp at hu;subst hu;rw[U HZ];simp[go_sem]
       | i+1,hu=>simp at hu) (U HLN) (aQ (U HBJ).size (ae aN _).size) ?_;intro v8 w8 hl8 hb8;have HO8:=VV hl8;have HB8:=VV ((U HB7).trans hb8);clear hl8 hb8))
    go_roundw;(case rel=>exact⟨j+1,acc++[c],by omega,by omega,by go_num,HO8,HB8,by show _<=_;rw[bj,List.length_singleton];have:=U HQ;omega,HM2⟩);case measure=>simp[intOf]<;>omega
  .have C:¬(j:Int)+1<(L.length:Int):=by omega
   rw[dG (by omega)] at a
   have a:eH B=some acc:=by rw[a];show some (acc++[])=_;rw[d7]
   have HN:Hid (R=sc (if fV acc=L then some acc else none) w):=by show _=_;rw[U HR,U HU,a];rfl
   have N:acc.length<=1000001:=by have:=U HQ;omega
   clear a hBL
   have HC:=VV λW=>iA (bs acc) (by rw[bx];omega) W
   rw[dZ] at HC
   obtain⟨l,hbq⟩:=bq ((bs (fV acc)).toList == (bs L).toList)
   have HBQ:Hid ((l=true->fV acc=L)/\(fV acc=L->l=true)):=by
    refine⟨λe=>Decidable.byContradiction λh=>?_,λe=>by rw[<-hbq,e];simp⟩
    have:=q6 h
    rw[hbq,e] at this
    cases this
   have HOD:Hid (OB wr.drew w.heap.size u4 acc):=(U HO).aa aN.drew
   have HBD:=VV (U HBJ).drew
   go_upto_region 16 with fail
   refine VR (λW:World=>OB W w.heap.size u4 acc) 8 ?_
   refine ai 0 u4 rfl (U HOD) ?_
   refine ai 1 (.string (bs acc)) rfl (U HOD) ?_ λw' h=>by have hcv:=fg h;go_simp
   refine ai 2 u4 rfl (U HOD) ?_
   refine ai 3 (.string (bs acc)) rfl (U HOD) ?_ λw' h=>by have hcv:=fg h;go_simp
   refine ai 5 (.string (bs L)) rfl (U HOD) ?_
   refine ap 4 rfl λK' hK'=>?_
   go_simp
   refine(U HC _).mono ?_
   rintro _ w4 ⟨rfl,hb4⟩
   go_simp
   refine aO hK' ((U HOD).aa hb4) ?_
   clear hK' K'
   refine ai 6 (.bool l) rfl ((U HOD).aa hb4) ?_ λw' _=>by go_simp
   refine ai 7 (.string (bs acc)) rfl ((U HOD).aa hb4) ?_
   refine ap 8 rfl λK' hK'=>?_
   go_simp
   refine aS hK' ?_
   clear hK' K'
   refine bh ?_
   have HB5:=VV (ac (U HBD) hb4)
   clear hb4
   go_wp2
   rw[U HN]
   refine⟨U HB5,?_⟩
   have hbq:=U HBQ
   cases l with
   | true=>rw[aR (hbq.1 rfl)]
   | false=>rw[aL λe=>by have:=hbq.2 e;cases this];exact⟨_,rfl⟩
variable{k m n:Nat}{W w:World}{D:List Value}{v:Value}{o:Bool}
theorem bp.low(h:bp w m D)(b:Below n w W)(c:m<n):bp W m D:=λa e d=>by
 exact⟨by rw[b.cell (p:=⟨m,a,none⟩) c];exact(h a e d).1,by rw[b.frozen (p:=⟨m,a,none⟩) c];exact(h a e d).2⟩
theorem bp.ne(h:bp w n D)(e:m≠n)(f:Value):bp (w.setCell ⟨m,k,none⟩ f) n D:=λb c a=>⟨by rw[World.cell?_setCell_other (h:=λd=>e (congrArg Addr.block d))];exact(h b c a).1,by rw[World.frozen?_setCell];exact(h b c a).2⟩
theorem GL.setlow{α:Type}{c:Lk α}{base:Nat}{d:List α}(h:GL c w base v d)(j:n<base)(e:Value):GL c (w.setCell ⟨n,m,none⟩ e) base v d:=
 ⟨ownsRow_setCell_below h.1 (a:=⟨n,m,none⟩) j e,λl k=>(h.2 l k).kept (λo p r g i=>by rw[World.cell?_setCell_other (h:=λf=>by have:=g.1;have:=congrArg Addr.block f;simp at this;omega)];exact i) λq b=>⟨b.1,by simpa using b.2.1,b.2.2⟩⟩
theorem tj.both{b:Option Int}{d:Ending}(h:tj b w d W):Bw w W/\∃a c,d=.returned (.tuple #[.int .i64 a,.bool c])/\b=if c then some a else none:=by
 obtain⟨e,h⟩:=h;cases b with
 | some a=>exact⟨e,a,true,h,rfl⟩
 | none=>obtain⟨a,rfl⟩:=h;exact⟨e,a,false,rfl,rfl⟩
theorem sc.both{a:Option (List UInt8)}{d:Ending}(h:sc a w d W):Bw w W/\∃f c,d=.returned (.tuple #[.string f,.bool c])/\a.map bs=if c then some f else none:=by
 obtain⟨e,h⟩:=h;cases a with
 | some b=>exact⟨e,bs b,true,h,rfl⟩
 | none=>obtain⟨b,rfl⟩:=h;exact⟨e,b,false,rfl,rfl⟩
theorem kD.leaf{b:Option Ex}{x:Ex}(c:Bw w W)(h:b=if o then some x else none)(d:x.args=[]):kD b w (.returned (.tuple #[x.val none 0,.bool o])) W:=by
 refine⟨c,?_⟩;subst h;cases o with
 | true=>exact⟨none,0,rfl,λa _=>(show Ex.all a none x.args by rw[d];show Ex.all a none [];rw[Ex.all];trivial)⟩
 | false=>exact⟨x,none,0,rfl⟩
theorem kD.no{c:Option Ex}(e:Bw w W)(h:c=none)(d:Ex)(a:Option Addr)(b:Nat):kD c w (.returned (.tuple #[d.val a b,.bool false])) W:=by subst h;exact⟨e,d,a,b,rfl⟩
theorem oy(a:ByteArray):bs a.data.toList=a:=by cases a;simp[bs]
def s0(a:Int):Ex:=.mk 1 a ⟨0,0,⟨#[]⟩⟩ []
def sQ(a:Int):Ex:=.mk 2 0 ⟨1,a,⟨#[]⟩⟩ []
def sO(a:ByteArray):Ex:=.mk 2 0 ⟨2,0,a⟩ []
theorem nu{a:ByteArray}{b:List UInt8}(c:¬a=⟨#[110,117,108,108]⟩)(d:a.data.toList=35::b):gl a=(du (bs b)).map s0:=by unfold gl;rw[aL c,d,gV,aR rfl,iO];rfl
theorem pu{a:ByteArray}{b:List UInt8}(c:¬a=⟨#[110,117,108,108]⟩)(d:a.data.toList=34::b):gl a=((ht a.data.toList).map bs).map sO:=by unfold gl;rw[aL c,d,fM b (by decide),gV,aL (by decide),aR rfl];cases ht (34::b)<;>rfl
theorem pv{a:ByteArray}{b:UInt8}{c:List UInt8}(f:¬a=⟨#[110,117,108,108]⟩)(g:a.data.toList=b::c)(d:¬b=35)(e:¬b=34):gl a=(du a).map sQ:=by unfold gl;rw[aL f,g,fM c d,fM c e,aL (by decide),aL (by decide)];rfl
theorem nr{a e:Type}{c:Option a}{b:a->e}{d:a}(h:c=if o then some d else none):c.map b=if o then some (b d) else none:=by subst h;cases o<;>rfl
def s5(f:World)(c:Bool)(e:ByteArray)(a:Option Addr)(d b:Nat):World:=(f.alloc (.cells #[.bool c,.string e,.slice a d b] 46)).alloc (.cells #[.int .i64 0,.int .i64 0,.int .i64 0,.int .i64 0,.string ⟨#[]⟩,.slice none 0 0] 72)
theorem nE(b:Int)(a:World):Calls prog 141 #[.int .i64 b] a λc d=>c=.returned (.agg #[.int .i64 1,.int .i64 b,.int .i64 0,.int .i64 0,.string ⟨#[]⟩,.slice none 0 0])/\Bw a d:=by go_enter func141,ntmps141;go_wp2;exact aM (v:=.agg #[.int .i64 1,.int .i64 b,.int .i64 0,.int .i64 0,.string ⟨#[]⟩,.slice none 0 0]) (by simp[results,results141,go_sem]) rfl ⟨rfl,ae aN _⟩
theorem p8(a:ByteArray)(b:World):Calls prog 143 #[.string a] b λc d=>c=.returned (.agg #[.int .i64 2,.int .i64 0,.string a])/\Bw b d:=by go_enter func143,ntmps143;go_wp2;exact aM (v:=.agg #[.int .i64 2,.int .i64 0,.string a]) (by simp[results,results143,go_sem]) rfl ⟨rfl,ae aN _⟩
theorem qs(b:Int)(a:World):Calls prog 144 #[.int .i64 b] a λc d=>c=.returned (.agg #[.int .i64 1,.int .i64 b,.string ⟨#[]⟩])/\Bw a d:=by go_enter func144,ntmps144;go_wp2;exact aM (v:=.agg #[.int .i64 1,.int .i64 b,.string ⟨#[]⟩]) (by simp[results,results144,go_sem]) rfl ⟨rfl,ae aN _⟩
theorem nA(b:ByteArray)(W:List Dt)(O:1<=b.size)(B:b.size<=1000000)(K:Option Addr)(S:Nat)(e:World)(V7:GT e):Calls prog 109 #[(Dt.mk false b W).val K S] e (kD (gl b) e):=by
 obtain⟨Wf,d⟩:=al (gl b);rw[<-d];have s:=λk (V2:GT k)=>d2 (.mk false b W) B K S k V2;rw[Dt.ad] at s ⊢;simp only[Dt.k,Dt.s,Dt.l] at s ⊢;generalize W.length+S=Y at *;generalize W.length=V5 at *;obtain⟨l,o⟩:=al (s5 e false b K V5 Y);unfold s5 at o;have V3:Bw e l:=by rw[o];exact ae (ae (ar _ e) _) _
 have Wl:l.cell? ⟨e.heap.size,0,none⟩=some (.bool false):=by rw[o];simp[go_sem]
 have Wm:l.cell? ⟨e.heap.size,1,none⟩=some (.string b):=by rw[o];simp[go_sem]
 have Wn:l.cell? ⟨e.heap.size,2,none⟩=some (.slice K V5 Y):=by rw[o];simp[go_sem]
 have V9:bp l (e.heap.size+1) VK:=by rw[o];have:=bp.new (e.alloc (.cells #[.bool false,.string b,.slice K V5 Y] 46)) VK 72;simpa using this
 have Q:=VV V9;have P:=VV V3;have R:=VV o.symm;have N:=V7.aa V3;have s:=VV (s l N);clear V3 o V9 V7;by_cases n:b=⟨#[110,117,108,108]⟩;·(have We:Hid (Wf=some (.mk 2 0 ⟨0,0,⟨#[]⟩⟩ [])):=by show _=_;rw[d];unfold gl;rw[aR n]);subst n;clear d O B;have a:=U Q;obtain⟨u,VW⟩:=a 0 _ rfl;obtain⟨w,VX⟩:=a 1 _ rfl;obtain⟨x,VY⟩:=a 2 _ rfl;obtain⟨y,VZ⟩:=a 3 _ rfl;obtain⟨z,V0⟩:=a 4 _ rfl;obtain⟨A,V1⟩:=a 5 _ rfl;clear a;go_enter func109,ntmps109;go_upto_region 1 with fail;rw[U R];go_wp2;refine aM (v:=.tuple #[.agg #[.int .i64 2,.int .i64 0,.int .i64 0,.int .i64 0,.string ⟨#[]⟩,.slice none 0 0],.bool true]) (by simp[results,results109,go_sem,u,w,x,y,z,A]) rfl ?_;exact kD.leaf (x:=.mk 2 0 ⟨0,0,⟨#[]⟩⟩ []) (b1 (U P) (Nat.le_succ _) _ _ _ _ _ _) (U We) rfl
 have Wo:(b.toList == [110,117,108,108])=false:=by have:=jz n;simpa using this
 obtain⟨m,c,q⟩:∃m c,b.data.toList=m::c:=by
  cases h:b.data.toList with
  | nil=>have:b.data.toList.length=b.size:=rfl;rw[h,List.length_nil] at this;omega
  | cons m c=>exact⟨m,c,rfl⟩
 have t:b=bs (m::c):=by rw[<-q,oy]
 have Wa:=hm b 0 O;rw[t,eR (c:=m) rfl,<-t,Int.natCast_zero] at Wa;obtain⟨C,r⟩:=al (m.toNat:Int);rw[<-r] at Wa;have V:c.length<=1000000:=by have:b.data.toList.length=b.size:=rfl;rw[q,a1] at this;omega
 by_cases M:m=35
 .subst M;have V4:C=35:=by rw[r];rfl
  subst V4;rw[nu n q] at d;have I:=VV d;have Wp:∀k,(Instr.slice 9 (.string b) (some (.int .i64 1)) none none).run prog k=.ok (.string (bs c)) k:=λk=>by(have Wh:(1:Int)<=(b.size:Int):=by omega);(have j:¬(b.size:Int)<1:=by omega);(have Wi:b.extract 1 b.size=bs c:=by have:=h1 (35::c) 1;rw[<-t,List.drop_one,List.tail_cons] at this;rw[<-this];congr 1;rw[t,bx]);simp[Instr.slice,run_underlying underlying9,Instr.sliceBounds,Instr.sliceBound,asIntOf,Wh,j,Wi]
  have G:=VV λ(k:World) (V2:Bw l k)=>d2 (.mk false (bs c) []) (by show (bs c).size<=_;rw[bx];exact V) none 0 k (N.aa V2);simp only[Dt.ad,Dt.k,Dt.s,Dt.l,List.length_nil,aT] at G;clear d q t O B r V N n s;go_enter func109,ntmps109;go_upto_region 1 with fail;rw[U R]
  go_wp2_with (first
   | (go_at_call 141;refine(nE i _).mono ?_;rintro c Wd ⟨rfl,g⟩;have E:=VV (ac (U D) g);have a:=(U J).aa g;obtain⟨u,VW⟩:=a 0 _ rfl;obtain⟨w,VX⟩:=a 1 _ rfl;obtain⟨x,VY⟩:=a 2 _ rfl;obtain⟨y,VZ⟩:=a 3 _ rfl;obtain⟨z,V0⟩:=a 4 _ rfl;obtain⟨A,V1⟩:=a 5 _ rfl;clear a g)
   | (go_at_call 59;refine(U G _ (U X)).mono ?_;intro c Wc j;obtain⟨f,i,L,rfl,p⟩:=j.both;have F:=VV p;have D:=VV (ac (U P) (ac (U X) f));have J:=VV (((U Q).aa (U X)).aa f);clear j f p)
   | (go_at_call 41;refine(bI (bs c) _).mono ?_;rintro c Wq ⟨rfl,V8⟩;have X:=VV V8;clear V8))
  refine aM (v:=.tuple #[.agg #[.int .i64 1,.int .i64 i,.int .i64 0,.int .i64 0,.string ⟨#[]⟩,.slice none 0 0],.bool L]) (by simp[results,results109,go_sem,u,w,x,y,z,A]) rfl ?_;exact kD.leaf (x:=s0 i) (b1 (U E) (Nat.le_succ _) _ _ _ _ _ _) (by rw[U I];exact nr (U F)) rfl
 have Wb:¬C=35:=λZ=>M (UInt8.toNat_inj.1 (by rw[r] at Z;rw[show (35:UInt8).toNat=35 from rfl];omega));have Wg:(C == 35)=false:=by simpa using Wb
 by_cases T:m=34
 .subst T;have V4:C=34:=by rw[r];rfl
  subst V4;rw[pu n q] at d;have I:=VV d;have G:=VV (kF b.data.toList B l);rw[oy] at G;clear d q t O B r V N n s M Wb Wg;go_enter func109,ntmps109;go_upto_region 1 with fail;rw[U R]
  go_wp2_with (first
   | (go_at_call 143;refine(p8 V6 _).mono ?_;rintro c Wd ⟨rfl,g⟩;have E:=VV (ac (U D) g);have a:=(U J).aa g;obtain⟨u,VW⟩:=a 0 _ rfl;obtain⟨w,VX⟩:=a 1 _ rfl;obtain⟨x,VY⟩:=a 2 _ rfl;obtain⟨y,VZ⟩:=a 3 _ rfl;obtain⟨z,V0⟩:=a 4 _ rfl;obtain⟨A,V1⟩:=a 5 _ rfl;clear a g)
   | (go_at_call 142;refine(U G).mono ?_;intro c Wc j;obtain⟨f,V6,L,rfl,p⟩:=j.both;have F:=VV p;have D:=VV (ac (U P) f);have J:=VV ((U Q).aa f);clear j f p))
  refine aM (v:=.tuple #[.agg #[.int .i64 2,.int .i64 0,.int .i64 2,.int .i64 0,.string V6,.slice none 0 0],.bool L]) (by simp[results,results109,go_sem,u,w,x,y,z,A]) rfl ?_;exact kD.leaf (x:=sO V6) (b1 (U E) (Nat.le_succ _) _ _ _ _ _ _) (by rw[U I];exact nr (U F)) rfl
 have Wj:¬C=34:=λZ=>T (UInt8.toNat_inj.1 (by rw[r] at Z;rw[show (34:UInt8).toNat=34 from rfl];omega));have Wk:(C == 34)=false:=by simpa using Wj
 rw[pv n q M T] at d;have I:=VV d;clear d q t O B r V N n M T;go_enter func109,ntmps109;go_upto_region 1 with fail;rw[U R]
 go_wp2_with (first
  | (go_at_call 144;refine(qs i _).mono ?_;rintro c Wd ⟨rfl,g⟩;have E:=VV (ac (U D) g);have a:=(U J).aa g;obtain⟨u,VW⟩:=a 0 _ rfl;obtain⟨w,VX⟩:=a 1 _ rfl;obtain⟨x,VY⟩:=a 2 _ rfl;obtain⟨y,VZ⟩:=a 3 _ rfl;obtain⟨z,V0⟩:=a 4 _ rfl;obtain⟨A,V1⟩:=a 5 _ rfl;clear a g)
  | (go_at_call 59;refine(U s).mono ?_;intro c Wc j;obtain⟨f,i,L,rfl,p⟩:=j.both;have F:=VV p;have D:=VV (ac (U P) f);have J:=VV ((U Q).aa f);clear j f p))
 refine aM (v:=.tuple #[.agg #[.int .i64 2,.int .i64 0,.int .i64 1,.int .i64 i,.string ⟨#[]⟩,.slice none 0 0],.bool L]) (by simp[results,results109,go_sem,u,w,x,y,z,A]) rfl ?_;exact kD.leaf (x:=sQ i) (b1 (U E) (Nat.le_succ _) _ _ _ _ _ _) (by rw[U I];exact nr (U F)) rfl
end Go.Proofs.YtabmgpillccfaaaGreatDoor
