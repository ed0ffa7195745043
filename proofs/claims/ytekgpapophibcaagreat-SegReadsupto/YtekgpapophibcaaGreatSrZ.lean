import Derived.Test.YtekgpapophibcaaGreatRyQ2
import Derived.Test.YtekgpapophibcaaGreatSrX
import Derived.Test.YtekgpapophibcaaGreatSrY
import Derived.Deep.CutBlock
set_option linter.unusedSimpArgs false
set_option linter.unusedVariables false
set_option maxHeartbeats 4000000
set_option maxRecDepth 100000
namespace Go.Proofs.YtekgpapophibcaaGreat
open Go.RowKit Go.Sort
def zUU(w w':World)(l:List UInt8)(e:Ending):Prop:=
 (∃(Cs:List (Vc×Sl)) (ps:List (ByteArray×ByteArray)) (ak ar:Option Addr) (ck cr:Nat),Seg l (Cs.map Prod.fst) ps/\e=.returned (.tuple #[.slice ak Cs.length ck,.slice ar (zCn l) cr,.bool true])/\zBZ (zCn l) Cs/\zAp w' ak ((zBk Cs).map (Value.int .i64))/\zCY w' ar (zAn Cs)/\Below w.heap.size w w')∨((∀Xs ps,¬Seg l Xs ps)/\∃u v,e=.returned (.tuple #[u,v,.bool false])/\Below w.heap.size w w')
def zL1(S:List Nat):List Int:=S.map fun (s:Nat)=>(s:Int)
theorem zLq(S:List Nat):(zL1 S).length=S.length:=List.length_map ..
theorem zJn(S:List Nat)(s:Nat):zL1 (S++[s])=zL1 S++[(s:Int)]:=by simp[zL1]
structure zLI(l:List UInt8)(n:Nat)(S:List Nat)(r:List UInt8)(x:Bool):Prop where
 lt:∀s∈S,s<4294967296
 le:S.length<=255
 rl:r.length<=140737488300000
 ok:x=false->S=zPh l/\r=zPg l/\n=zCn l/\S.length=zCm l
 sg:(∃Xs ps,Seg l Xs ps)->x=false
structure zGG(l:List UInt8)(n:Nat)(S:List Nat)(r1:List UInt8)(x1:Bool)(Cs:List (Vc×Sl))(r:List UInt8)(x:Bool):Prop where
 cok:zBZ n Cs
 rl:r.length<=140737488300000
 ok:x=false->x1=false/\r=zM0 S Cs.length r1/\∀(i:Nat) (X:Vc),(Cs.map Prod.fst)[i]?=some X->UnR (zSY S i r1) X 0/\X.nl.length=n
 sg:(∃Xs ps,Seg l Xs ps)->x=false
theorem zGG.next{l:List UInt8}{n:Nat}{S:List Nat}{r1 r:List UInt8}{x1 x:Bool}{Cs:List (Vc×Sl)}{s:Nat}(hz:zLI l n S r1 x1)(h:zGG l n S r1 x1 Cs r x)(hs:S[Cs.length]?=some s) :
  ((∃Xs ps,Seg l Xs ps)->(zAE r x s).2.2=false)/\((zAE r x s).2.2=false->x=false/\(zAE r x s).1=zSY S Cs.length r1/\(zAE r x s).2.1=zM0 S (Cs.length+1) r1):=by
 have hg:S.getD Cs.length 0=s:=by simp[List.getD_eq_getElem?_getD,hs]
 refine⟨fun hq=>?_,fun hx=>?_⟩
 ·obtain⟨h1,h2,_⟩:=h.ok (h.sg hq)
  obtain⟨a1,a2,a3,a4⟩:=hz.ok h1
  obtain⟨Xs,ps,QT⟩:=hq
  have:=QT.body (k:=Cs.length) (by rw[<-a4];exact(zAL hs).1)
  rw[<-a1,<-a2,<-h2,hg] at this
  rw[h.sg ⟨Xs,ps,QT⟩,zCv this]
 ·obtain⟨h1,h2,h3⟩:=zCa hx
  obtain⟨_,h4,_⟩:=h.ok h1
  rw[h3]
  refine⟨h1,?_,?_⟩
  ·unfold zSY;rw[hg,<-h4]
  ·rw[zM0,hg,<-h4]
theorem zGG.snoc{l:List UInt8}{n:Nat}{S:List Nat}{r1 r:List UInt8}{x1 x:Bool}{Cs:List (Vc×Sl)}{s:Nat}{X:Vc}{p:Sl}(hz:zLI l n S r1 x1)(h:zGG l n S r1 x1 Cs r x)(hs:S[Cs.length]?=some s)(hu:UnR (zAE r x s).1 X 0)(hl:X.nl.length=n) :
  zGG l n S r1 x1 (Cs++[(X,p)]) (zAE r x s).2.1 (zAE r x s).2.2:=by
 obtain⟨g1,g2⟩:=h.next hz hs
 refine⟨h.cok.snoc hu hl,Nat.le_trans (zCN r x s).1 h.rl,fun hx=>?_,g1⟩
 obtain⟨e1,e2,e3⟩:=g2 hx
 obtain⟨a1,a2,a3⟩:=h.ok e1
 refine⟨a1,by rw[e3,zAX];rfl,fun i Y hY=>?_⟩
 rw[List.map_append] at hY
 by_cases hi:i<Cs.length
 ·rw[List.getElem?_append_left (by simpa using hi)] at hY
  exact a3 i Y hY
 ·have ZY:i=Cs.length:=by
   have:=(zAL hY).1
   simp at this
   omega
  subst ZY
  rw[List.getElem?_append_right (by simp)] at hY
  simp at hY
  subst hY
  rw[e2] at hu
  exact⟨hu,hl⟩
theorem zGG.none{l:List UInt8}{n:Nat}{S:List Nat}{r1 r:List UInt8}{x1 x:Bool}{Cs:List (Vc×Sl)}{s:Nat}{X:Vc}{f:Int}(hz:zLI l n S r1 x1)(h:zGG l n S r1 x1 Cs r x)(hs:S[Cs.length]?=some s)(hu:UnR (zAE r x s).1 X f)(hl:¬(f=0/\X.nl.length=n)):∀Xs ps,¬Seg l Xs ps:=by
 intro Xs ps QT
 obtain⟨g1,g2⟩:=h.next hz hs
 obtain⟨e1,e2,e3⟩:=g2 (g1 ⟨Xs,ps,QT⟩)
 obtain⟨a1,a2,a3⟩:=h.ok e1
 obtain⟨b1,b2,b3,b4⟩:=hz.ok a1
 have hi:Cs.length<Xs.length:=by rw[QT.lay.len,<-b4];exact(zAL hs).1
 obtain⟨c1,c2⟩:=QT.lay.at_ _ _ (zAf hi)
 rw[e2,b1,b2] at hu
 obtain⟨d1,d2⟩:=hu.one c1
 exact hl ⟨d2,by rw[d1,c2,b3]⟩
theorem zGG.seg{l:List UInt8}{n:Nat}{S:List Nat}{r1 r:List UInt8}{x1:Bool}{Cs:List (Vc×Sl)}(hz:zLI l n S r1 x1)(h:zGG l n S r1 x1 Cs r false)(hl:Cs.length=S.length)(h1:1<=Cs.length)(h2:Cs.length<=32){ps:List (ByteArray×ByteArray)}(qY:Ps KP zP Cs ps) :
  n=zCn l/\(zJJ Cs.length n ps=bs l->Seg l (Cs.map Prod.fst) ps)/\(zJJ Cs.length n ps≠bs l->∀Xs qs,¬Seg l Xs qs):=by
 obtain⟨a1,a2,a3⟩:=h.ok rfl
 obtain⟨b1,b2,b3,b4⟩:=hz.ok a1
 have hlay:Lay l (Cs.map Prod.fst):=⟨by omega,by omega,by simp;omega,fun i X hX=>by
  have:=a3 i X hX
  rw[b1,b2] at this
  rw[<-b3]
  exact this⟩
 have Hm:∀(i:Nat) (X:Vc) (p:ByteArray×ByteArray),(Cs.map Prod.fst)[i]?=some X->ps[i]?=some p->p.1=zP X/\KP X p.2:=fun i X p hX hp=>by
  rw[List.getElem?_map] at hX
  obtain⟨c,hc,rfl⟩:=Option.map_eq_some_iff.1 hX
  exact qY.at_ i c p hc hp
 have Hf:ps.length=(Cs.map Prod.fst).length:=by rw[List.length_map];exact qY.len
 refine⟨b3,fun e=>⟨hlay,Hf,Hm,by rw[List.length_map,<-b3];exact e⟩,fun Hg Xs qs QT=>?_⟩
 obtain⟨e1,e2⟩:=QT.one hlay Hf Hm
 have:=QT.eq
 rw[<-e1,<-e2,List.length_map,<-b3] at this
 exact Hg this
theorem zGG.out{l:List UInt8}{n:Nat}{S:List Nat}{r1 r:List UInt8}{x1 x:Bool}{Cs:List (Vc×Sl)}(hz:zLI l n S r1 x1)(h:zGG l n S r1 x1 Cs r x)(hl:Cs.length=S.length)(h2:¬(1<=Cs.length/\Cs.length<=32)):∀Xs qs,¬Seg l Xs qs:=by
 intro Xs qs QT
 obtain⟨a1,a2,a3⟩:=h.ok (h.sg ⟨_,_,QT⟩)
 obtain⟨b1,b2,b3,b4⟩:=hz.ok a1
 exact h2 ⟨by have:=QT.lay.n1;omega,by have:=QT.lay.n2;omega⟩
theorem zTC(l:List UInt8)(hl:l.length<=140737488300000)(hs:(zAE l false 2).1=[83,49])(w:World):Calls Tryz.prog 8 #[.string (bs l)] w fun e w'=>zUU w w' l e:=by
 obtain⟨i3,Tm,z30,z31,z32⟩:=info_parts Tryz.info3'
 obtain⟨j4,FI,y40,y41,y42⟩:=info_parts Tryz.info49'
 have h2:zAE l false 2=(l.take 2,l.drop 2,false):=by
  by_cases h:2<=l.length
  ·exact zCv h
  ·rw[zGc false (by omega)] at hs;cases hs
 have H2:Hid (Calls Tryz.prog 39 #[.pointer (some ⟨w.heap.size,0,none⟩),.int .i64 2] (w.alloc (.cells #[.string (bs l),.bool false] 83)) fun e w'=>e=.returned (.string ⟨#[83,49]⟩)/\RD w w' zCq [] (l.drop 2) false):=by
  refine((RD.start w l).take 2 hl (by omega)).mono ?_
  rintro e w' ⟨rfl,h1⟩
  rw[hs]
  rw[h2] at h1
  exact⟨rfl,h1⟩
 obtain⟨r2,Hu⟩:∃r2,l.drop 2=r2:=⟨_,rfl⟩
 have hr2l:r2.length<=140737488300000:=by rw[<-Hu,List.length_drop];omega
 rw[Hu] at H2
 obtain⟨a1,r3,x3,e3⟩:∃a r x,zAE r2 false 1=(a,r,x):=⟨_,_,_,rfl⟩
 obtain⟨a2,r4,x4,e4⟩:∃a r x,zAE r3 x3 4=(a,r,x):=⟨_,_,_,rfl⟩
 have l3:=zCN r2 false 1
 have l4:=zCN r3 x3 4
 rw[e3] at l3
 rw[e4] at l4
 simp only at l3 l4
 obtain⟨c,hc⟩:∃c,beV a1=c:=⟨_,rfl⟩
 obtain⟨n,hn⟩:∃n,beV a2=n:=⟨_,rfl⟩
 have JV:c<256:=by
  have:=zBn a1
  have h3:256 ^ a1.length<=256 ^ 1:=Nat.pow_le_pow_right (by decide) l3.2
  omega
 have ZW:n<4294967296:=by
  have:=zBn a2
  have h3:256 ^ a2.length<=256 ^ 4:=Nat.pow_le_pow_right (by decide) l4.2
  have h4:(256:Nat) ^ 4=4294967296:=by decide
  omega
 have H1:Hid (∀W,RD w W zCq [] r2 false->Calls Tryz.prog 39 #[.pointer (some ⟨w.heap.size,0,none⟩),.int .i64 1] W fun e w'=>e=.returned (.string (bs a1))/\RD w w' zCq [] r3 x3):=fun W h=>by
  have:=h.take 1 hr2l (by omega)
  rw[e3] at this
  exact this
 have H4:Hid (∀W,RD w W zCq [] r3 x3->Calls Tryz.prog 39 #[.pointer (some ⟨w.heap.size,0,none⟩),.int .i64 4] W fun e w'=>e=.returned (.string (bs a2))/\RD w w' zCq [] r4 x4):=fun W h=>by
  have:=h.take 4 (by omega) (by omega)
  rw[e4] at this
  exact this
 have HN1:Hid (∀W,Calls Tryz.prog 40 #[.string (bs a1)] W fun e w'=>e=.returned (.int .u64 (c:Int))/\w'=W):=fun W=>by
  have:=zB6 a1 (by omega) W
  rw[hc] at this
  exact this
 have HN4:Hid (∀W,Calls Tryz.prog 40 #[.string (bs a2)] W fun e w'=>e=.returned (.int .u64 (n:Int))/\w'=W):=fun W=>by
  have:=zB6 a2 (by omega) W
  rw[hn] at this
  exact this
 have ic:(c:Int)<256:=by omega
 have inb:(n:Int)<4294967296:=by omega
 obtain⟨t1,ht1⟩:∃t,bs a1=t:=⟨_,rfl⟩
 obtain⟨t2,ht2⟩:∃t,bs a2=t:=⟨_,rfl⟩
 rw[ht1] at H1 HN1
 rw[ht2] at H4 HN4
 have HX4:Hid (x4=false->c=zCm l/\n=zCn l/\r4=((l.drop 2).drop 1).drop 4):=fun hx=>by
  obtain⟨p1,p2,p3⟩:=zCa (show (zAE r3 x3 4).2.2=false by rw[e4];exact hx)
  obtain⟨q1,q2,q3⟩:=zCa (show (zAE r2 false 1).2.2=false by rw[e3];exact p1)
  rw[e4] at p3
  rw[e3] at q3
  injection p3 with p4 p5
  injection p5 with p5 _
  injection q3 with q4 q5
  injection q5 with q5 _
  refine⟨?_,?_,?_⟩
  ·rw[<-hc,q4,<-Hu];rfl
  ·rw[<-hn,p4,q5,<-Hu];rfl
  ·rw[p5,q5,<-Hu]
 have HSX4:Hid ((∃Xs ps,Seg l Xs ps)->x4=false):=fun ⟨Xs,ps,QT⟩=>by
  have h7:=QT.front.2
  have g1:zAE r2 false 1=(r2.take 1,r2.drop 1,false):=zCv (by rw[<-Hu,List.length_drop];omega)
  rw[e3] at g1
  injection g1 with g2 g3
  injection g3 with g3 g4
  have g5:zAE r3 x3 4=(r3.take 4,r3.drop 4,false):=by rw[g4];exact zCv (by rw[g3,<-Hu,List.length_drop,List.length_drop];omega)
  rw[e4] at g5
  injection g5 with _ g6
  injection g6 with _ g6
 have KV:=zA3 (And.intro e3 (And.intro e4 (And.intro hc (And.intro hn (And.intro ht1 ht2)))))
 clear e3 e4 hc hn ht1 ht2 l3 hs h2
 go_enter Tryz.func8,Tryz.ntmps8
 go_upto_block 0 with (first
  | (go_at_call_of 39 (Value.int IntKind.i64 2);refine(zA0 H2).mono ?_;rintro _ w1 ⟨rfl,h1⟩;have HD1:=zA3 h1;clear h1)
  | (go_at_call_of 39 (Value.int IntKind.i64 1);refine(zA0 H1 _ (zA0 HD1)).mono ?_;rintro _ w2 ⟨rfl,h1⟩;have qm:=zA3 h1;clear h1)
  | (go_at_call_of 40 (Value.string t1);refine(zA0 HN1 _).mono ?_;rintro _ w9 ⟨rfl,h9⟩;rw[h9];clear h9)
  | (go_at_call_of 39 (Value.int IntKind.i64 4);refine(zA0 H4 _ (zA0 qm)).mono ?_;rintro _ w3 ⟨rfl,h1⟩;have HD3:=zA3 h1;clear h1)
  | (go_at_call_of 40 (Value.string t2);refine(zA0 HN4 _).mono ?_;rintro _ w8 ⟨rfl,h8⟩;rw[h8];clear h8))
 have hr4l:r4.length<=140737488300000:=by have:=zCN r2 false 1;rw[(zA0 KV).1] at this;simp only at this;omega
 clear H1 H2 H4 HN1 HN4 HD1 qm l4
 go_cut[8] (fun s8 wx=>∃(S:List Nat) (r:List UInt8) (x:Bool),Hid (RD w wx s8 (zL1 S) r x)/\Hid (zLI l n S r x))
 case first=>
  go_wp2_with fail
  go_loopw[8,9] (fun v s wr=>∃(k:Nat) (S:List Nat) (r:List UInt8) (x:Bool),k<=c/\s=.int .i64 (k:Int)/\Hid (RD w wr v (zL1 S) r x)/\Hid ((zL1 S).length=k)/\Hid (∀s∈S,s<4294967296)/\Hid (r.length<=r4.length)/\Hid (x=false->x4=false/\S=(zst k r4).1.map Prod.snd/\r=(zst k r4).2)/\Hid ((∃Xs ps,Seg l Xs ps)->x=false)) (fun _ s _=>c-(intOf s).toNat)
  case atStart=>exact⟨0,[],r4,x4,Nat.zero_le _,rfl,HD3,rfl,(fun s hs=>by simp at hs),Nat.le_refl _,fun h=>⟨h,rfl,rfl⟩,HSX4⟩
  case round=>
   obtain⟨k,S,r,x,hk,rfl,HD,YA,YV,JG,HP,HSG⟩:=hrel
   have HOUT:Hid ((k=c∨x=true)->zLI l n S r x):=fun hh=>by
    have hSl:S.length=k:=by have:=zA0 YA;rw[zLq] at this;exact this
    refine⟨zA0 YV,by omega,by have:=zA0 JG;omega,fun hx=>?_,zA0 HSG⟩
    have hkc:k=c:=by
     rcases hh with e|e
     ·exact e
     ·rw[e] at hx;cases hx
    obtain⟨p1,p2,p3⟩:=zA0 HP hx
    obtain⟨d1,d2,d3⟩:=zA0 HX4 p1
    rw[hkc,d1,d3] at p2 p3
    exact⟨p2,p3,d2,by rw[hSl,hkc,d1]⟩
   by_cases hkc:k<c
   ·have ik:(k:Int)<(c:Int):=by omega
    obtain⟨b0,b1,b2,b3⟩:=(zA0 HD).rd.facts
    cases x with
    | true=>
     go_wp2
     go_meet
     exact⟨S,r,true,HD,zA0 HOUT (.inr trivial)⟩
    | false=>
     obtain⟨a5,r5,x5,e5⟩:∃a r' x,rzA r=(a,r',x):=⟨_,_,_,rfl⟩
     obtain⟨a6,r6,x6,e6⟩:∃a r' x,rzB r=(a,r',x):=⟨_,_,_,rfl⟩
     obtain⟨a7,r7,x7,e7⟩:∃a r' x,rzC r=(a,r',x):=⟨_,_,_,rfl⟩
     have f5:zAE r false 2=(a5,r5,x5):=e5
     have f6:zAE r5 x5 (beV a5)=(a6,r6,x6):=by rw[<-e6];unfold rzB;rw[e5]
     have f7:zAE r6 x6 4=(a7,r7,x7):=by rw[<-e7];unfold rzC;rw[e6]
     have l5:=zCN r false 2
     have l6:=zCN r5 x5 (beV a5)
     have l7:=zCN r6 x6 4
     rw[f5] at l5
     rw[f6] at l6
     rw[f7] at l7
     simp only at l5 l6 l7
     obtain⟨m,hm⟩:∃m,beV a5=m:=⟨_,rfl⟩
     obtain⟨q,hq⟩:∃q,beV a7=q:=⟨_,rfl⟩
     have DO:m<65536:=by
      have:=zBn a5
      have h3:256 ^ a5.length<=256 ^ 2:=Nat.pow_le_pow_right (by decide) l5.2
      omega
     have hqb:q<4294967296:=by
      have:=zBn a7
      have h3:256 ^ a7.length<=256 ^ 4:=Nat.pow_le_pow_right (by decide) l7.2
      have h4:(256:Nat) ^ 4=4294967296:=by decide
      omega
     have Zd:=zA0 JG
     have K2:Hid (∀W v,RD w W v (zL1 S) r false->Calls Tryz.prog 39 #[.pointer (some ⟨w.heap.size,0,none⟩),.int .i64 2] W fun e w'=>e=.returned (.string (bs a5))/\RD w w' v (zL1 S) r5 x5):=fun W v h=>by
      have:=h.take 2 (by omega) (by omega)
      rw[f5] at this
      exact this
     have Km:Hid (∀W v,RD w W v (zL1 S) r5 x5->Calls Tryz.prog 39 #[.pointer (some ⟨w.heap.size,0,none⟩),.int .i64 (m:Int)] W fun e w'=>(∃t,e=.returned (.string t))/\RD w w' v (zL1 S) r6 x6):=fun W v h=>by
      have:=h.take m (by omega) (by omega)
      rw[<-hm,f6] at this
      rw[<-hm]
      refine this.mono ?_
      rintro e w' ⟨rfl,h⟩
      exact⟨⟨_,rfl⟩,h⟩
     have K4:Hid (∀W v,RD w W v (zL1 S) r6 x6->Calls Tryz.prog 39 #[.pointer (some ⟨w.heap.size,0,none⟩),.int .i64 4] W fun e w'=>e=.returned (.string (bs a7))/\RD w w' v (zL1 S) r7 x7):=fun W v h=>by
      have:=h.take 4 (by omega) (by omega)
      rw[f7] at this
      exact this
     have KN2:Hid (∀W,Calls Tryz.prog 40 #[.string (bs a5)] W fun e w'=>e=.returned (.int .u64 (m:Int))/\w'=W):=fun W=>by
      have:=zB6 a5 (by omega) W
      rw[hm] at this
      exact this
     have KN4:Hid (∀W,Calls Tryz.prog 40 #[.string (bs a7)] W fun e w'=>e=.returned (.int .u64 (q:Int))/\w'=W):=fun W=>by
      have:=zB6 a7 (by omega) W
      rw[hq] at this
      exact this
     obtain⟨t5,ht5⟩:∃t,bs a5=t:=⟨_,rfl⟩
     obtain⟨t7,ht7⟩:∃t,bs a7=t:=⟨_,rfl⟩
     rw[ht5] at K2 KN2
     rw[ht7] at K4 KN4
     have im:(m:Int)<65536:=by omega
     have iq:(q:Int)<4294967296:=by omega
     have HX:Hid (x7=false->q=(z1 r).2/\r7=zr r):=fun hx=>by
      have:=zUg (r:=r) (by rw[e7];exact hx)
      rw[e7] at this
      exact⟨hq.symm.trans this.1,this.2⟩
     have HX7:Hid ((∃Xs ps,Seg l Xs ps)->x7=false):=fun hs=>by
      obtain⟨p1,p2,p3⟩:=zA0 HP (zA0 HSG hs)
      obtain⟨d1,d2,d3⟩:=zA0 HX4 p1
      obtain⟨Xs,ps,QT⟩:=hs
      have:=QT.zone (k:=k) (by omega)
      rw[<-d3,<-p3,e7] at this
      exact this
     have HL7:Hid (r7.length<=r4.length):=by show _<=_;omega
     clear e5 e6 e7 f5 f6 f7 l5 l6 l7 hm hq ht5 ht7 Zd
     go_wp2_with (first
      | (go_at_call_of 39 (Value.int IntKind.i64 2);refine(zA0 K2 _ _ (zA0 HD)).mono ?_;rintro _ w1 ⟨rfl,h1⟩;have HD1:=zA3 h1;clear h1)
      | (go_at_call_of 40 (Value.string t5);refine(zA0 KN2 _).mono ?_;rintro _ w9 ⟨rfl,h9⟩;rw[h9];clear h9)
      | (go_at_call_of 39 (Value.int IntKind.i64 4);refine(zA0 K4 _ _ (zA0 qm)).mono ?_;rintro _ w5 ⟨rfl,h1⟩;have Te:=zA3 h1;clear h1)
      | (go_at_call_of 40 (Value.string t7);refine(zA0 KN4 _).mono ?_;rintro _ w8 ⟨rfl,h8⟩;rw[h8];clear h8)
      | (go_at_call 39;refine(zA0 Km _ _ (zA0 HD1)).mono ?_;rintro _ w4 ⟨⟨t,rfl⟩,h1⟩;have qm:=zA3 h1;clear h1)
      | (at_builtin;refine wpList_append_own_at _ rfl (.tmp 52) (.tmp 57) 22 rfl w.heap.size 3 i3 (.int .i64 0) 1 8 Tryz.underlying22 Tm z30 z31 z32 rfl (by decide) _ _ _ rfl (World.ownsRow.alloc (zA0 Te).n _) ⟨w5.heap.size,0,none⟩ 1 1 [.int .i64 (q:Int)] rfl rfl (cell_one_new _ _ _) (by intro u hu;simp at hu;subst hu;rfl) (by rw[zA0 YA];unfold maxLen;omega) (by rw[zA0 YA];omega) (by have:=(zA0 Te).bel.size;simp;omega) ?_;intro v6 w6 Zi Yg _ qD;have HD6:=zA3 ((zA0 Te).push (y:=(q:Int)) Zi Yg);clear Zi Yg qD))
     go_roundw
     case rel=>
      refine⟨k+1,S++[q],r7,x7,by omega,by go_num,by have:=zA0 HD6;rw[zJn];exact this,by show _=_;rw[zJn,zAX,zA0 YA];rfl,fun s hs=>?_,HL7,fun hx=>?_,HX7⟩
      ·rcases List.mem_append.1 hs with m|m
       ·exact zA0 YV s m
       ·simp only[List.mem_singleton] at m;subst m;omega
      ·obtain⟨p1,p2,p3⟩:=zA0 HP trivial
       obtain⟨s1,s2⟩:=zA0 HX hx
       refine⟨p1,?_,?_⟩
       ·rw[zst,List.map_append,<-p2,<-p3,s1];rfl
       ·rw[zst,<-p3,s2]
     case measure=>first | (simp[intOf];omega) | (simp only[intOf];omega)
   ·have ik:¬(k:Int)<(c:Int):=by omega
    have hkc2:k=c:=by omega
    have HZ:=zA3 (zA0 HOUT (.inl hkc2))
    clear hkc2
    go_wp2
    go_meet
    exact⟨S,r,x,HD,HZ⟩
 case rest=>
  obtain⟨S,r1,x1,HD,HZ⟩:=hcut
  obtain⟨an,cn,en,Yf,ZW⟩:=zBj (zA0 HD).n
  subst en
  have Tv:=zA3 (PE.start (zA0 HD))
  obtain⟨N,hN⟩:∃N,(zL1 S)=N:=⟨_,rfl⟩
  rw[hN] at Tv ⊢
  obtain⟨m,hm⟩:∃m,N.length=m:=⟨_,rfl⟩
  rw[hm] at Tv ⊢
  have hSm:S.length=m:=by rw[<-hm,<-hN,zLq]
  have hm255:m<=255:=by rw[<-hSm];exact(zA0 HZ).le
  have HN:=zA3 (And.intro hN (And.intro hm hSm))
  clear hN hm hSm HD Yf ZW
  have im:(m:Int)<=255:=by omega
  go_wp2_with fail
  go_loopw[10,11,61] (fun cv kv s wr=>∃(j:Nat) (Cs:List (Vc×Sl)) (r:List UInt8) (x:Bool),j<=m/\s=.int .i64 (j:Int)/\Hid (PE w wr (.slice an m cn) kv cv N (zBk Cs) Cs r x)/\Hid (Cs.length=j)/\Hid (zGG l n S r1 x1 Cs r x)) (fun _ _ s _=>m-(intOf s).toNat)
  case atStart=>exact⟨0,[],r1,x1,Nat.zero_le _,rfl,Tv,rfl,⟨zBZ.nil n,(zA0 HZ).rl,fun h=>⟨h,rfl,fun i X h=>by simp at h⟩,(zA0 HZ).sg⟩⟩
  case round=>
   obtain⟨j,Cs,r,x,hj,rfl,HP,YZ,HC⟩:=hrel
   clear Tv
   by_cases qy:j<m
   ·have ij:(j:Int)<(m:Int):=by omega
    obtain⟨sz,QK⟩:∃s,S[j]?=some s:=⟨_,zAf (by rw[(zA0 HN).2.2];exact qy)⟩
    have hszb:sz<4294967296:=(zA0 HZ).lt sz (List.mem_of_getElem? QK)
    have hNj:(N.map (Value.int .i64))[j]?=some (.int .i64 (sz:Int)):=by rw[<-(zA0 HN).1];simp[zL1,QK]
    obtain⟨a9,c9,e9,hl9,_⟩:=zBj (zA0 HP).n
    rw[(zA0 HN).2.1] at e9
    injection e9 with e91 _ e93
    subst e91
    subst e93
    obtain⟨bn,on,rfl,qn⟩:=zDT hl9 hNj
    obtain⟨t,r2,x2,e2⟩:∃t r2 x2,zAE r x sz=(t,r2,x2):=⟨_,_,_,rfl⟩
    have YR:t.length<=4294967296:=by have:=(zCN r x sz).2;rw[e2] at this;simp only at this;omega
    have K39:Hid (Calls Tryz.prog 39 #[.pointer (some ⟨w.heap.size,0,none⟩),.int .i64 (sz:Int)] wr fun e w'=>e=.returned (.string (bs t))/\PE w w' (.slice (some ⟨bn,on,none⟩) m cn) u11 u10 N (zBk Cs) Cs r2 x2):=by
     have:=(zA0 HP).take sz (zA0 HC).rl hszb
     rw[e2] at this
     exact this
    have K41:Hid (∀W,Calls Tryz.prog 41 #[.string (bs t)] W fun e w'=>∃X p f,e=.returned (.tuple #[.agg #[.int .i64 X.k,.slice p.a1 X.nl.length p.c1,.slice p.a2 X.ns.length p.c2,.slice p.a3 X.ss.length p.c3],.int .i64 f])/\zAi w' X p/\zBb W.heap.size p/\Hid (UnR t X f)/\Below W.heap.size W w'):=fun W=>by
     refine(zMI (l:=t) (by omega)).mono ?_
     rintro e w' ⟨X,p,f,rfl,h⟩
     exact⟨X,p,f,rfl,h⟩
    have ql:=zA3 e2
    have GJ:=zA3 QK
    obtain⟨tt,htt⟩:∃tt,bs t=tt:=⟨_,rfl⟩
    rw[htt] at K39 K41
    clear htt e2 QK hNj hl9 YR
    go_upto_region 18 with (first
     | (go_at_call 39;refine(zA0 K39).mono ?_;rintro _ w2 ⟨rfl,h2⟩;have Jn:=zA3 h2;clear h2)
     | (go_at_call 41;refine(zA0 K41 _).mono ?_;rintro _ w3 ⟨X,p,f,rfl,hv3,yd,hu3,Hz⟩;have HS3:=zA3 ((zA0 Jn).fresh Hz hv3 yd);have HP3:=zA3 ((zA0 Jn).later Hz);clear hv3 yd Hz))
    have Yo:=zA3 (zA0 HP3).bel
    by_cases qZ:f=0/\X.nl.length=n
    ·obtain⟨rfl,Yb⟩:=qZ
     have hq:((X.nl.length:Int) != (n:Int))=false:=by simp[Yb]
     have DM:¬((X.nl.length:Int)≠(n:Int)):=by simp[Yb]
     have QS:=zA3 Yb
     clear Yb
     have HP4:=zA3 ((zA0 HP3).later (zA1 (Below.refl _ _) (.cells #[.int .i64 X.k,.slice p.a1 X.nl.length p.c1,.slice p.a2 X.ns.length p.c2,.slice p.a3 X.ss.length p.c3] 49)))
     have HS4:=zA3 ((zA0 HS3).later (zA1 (Below.refl _ _) (.cells #[.int .i64 X.k,.slice p.a1 X.nl.length p.c1,.slice p.a2 X.ns.length p.c2,.slice p.a3 X.ss.length p.c3] 49)))
     have HC4:Hid (∀(j:Nat) (u:Value),(c4 (X,p))[j]?=some u->((w3.alloc (.cells #[.int .i64 X.k,.slice p.a1 X.nl.length p.c1,.slice p.a2 X.ns.length p.c2,.slice p.a3 X.ss.length p.c3] 49)).alloc (.cells #[.int .i64 X.k,.slice p.a1 X.nl.length p.c1,.slice p.a2 X.ns.length p.c2,.slice p.a3 X.ss.length p.c3] 49)).cell? ((⟨w3.heap.size+1,0,none⟩:Addr).add j)=some u):=fun j u hu=>by
      have:=zEe (w3.alloc (.cells #[.int .i64 X.k,.slice p.a1 X.nl.length p.c1,.slice p.a2 X.ns.length p.c2,.slice p.a3 X.ss.length p.c3] 49)) (X,p) j u hu
      rwa [show (w3.alloc (.cells #[.int .i64 X.k,.slice p.a1 X.nl.length p.c1,.slice p.a2 X.ns.length p.c2,.slice p.a3 X.ss.length p.c3] 49)).heap.size=w3.heap.size+1 by simp] at this
     have HKB:Hid (∀(o:Obj) (w5:World),((w3.alloc (.cells #[.int .i64 X.k,.slice p.a1 X.nl.length p.c1,.slice p.a2 X.ns.length p.c2,.slice p.a3 X.ss.length p.c3] 49)).alloc o).grownBy w5 u10.ownBlock->w5.cell? ⟨w3.heap.size,0,none⟩=some (.int .i64 X.k)):=fun o w5 hg=>by
      have h1:=World.cell?_of_block (a:=⟨w3.heap.size,0,none⟩) (hg.block w3.heap.size (by simp;omega) (fun e=>by have:=(World.ownsRow.lt (zA0 HP3).c _ e.symm).2;omega))
      rw[h1]
      have h2:=zEe w3 (X,p) 0 (.int .i64 X.k) rfl
      have h3:(⟨w3.heap.size,0,none⟩:Addr).add 0=⟨w3.heap.size,0,none⟩:=by unfold Addr.add;simp
      rw[h3] at h2
      exact cell_later (zA1 (Below.refl _ _) o) h2
     have Yt:Hid ((zBk Cs).length=j):=by show _=_;rw[zB3];exact zA0 YZ
     go_wp2_with (first
      | (at_builtin;refine wpList_append_own_at _ rfl (.tmp 81) (.tmp 83) 66 rfl w.heap.size 49 j4 (.agg #[.int .i64 0,.slice none 0 0,.slice none 0 0,.slice none 0 0]) 4 80 Tryz.underlying66 FI y40 y41 y42 rfl (by decide) _ _ _ rfl (World.ownsRow.alloc (zA0 HP4).c _) ⟨w3.heap.size+1,0,none⟩ 1 1 (c4 (X,p)) rfl rfl (zA0 HC4) (zQI _) (by rw[zA0 YZ];unfold maxLen;omega) (by rw[zA0 YZ];omega) (by have:=(zA0 HP4).bel.size;simp at this ⊢;omega) ?_;intro v5 w5 Zx YM _ qE;have HP5:=zA3 ((zA0 HP4).pushC (zA0 HS4) Zx YM qE);have qk:=zA0 HKB _ _ YM;clear Zx YM qE)
      | (at_builtin;refine wpList_append_own_at _ rfl (.tmp 85) (.tmp 88) 22 rfl w.heap.size 3 i3 (.int .i64 0) 1 8 Tryz.underlying22 Tm z30 z31 z32 rfl (by decide) _ _ _ rfl (World.ownsRow.alloc (zA0 HP5).k _) ⟨w5.heap.size,0,none⟩ 1 1 [.int .i64 X.k] rfl rfl (cell_one_new _ _ _) (by intro u hu;simp at hu;subst hu;rfl) (by rw[zA0 Yt];unfold maxLen;omega) (by rw[zA0 Yt];omega) (by have:=(zA0 HP5).bel.size;simp;omega) ?_;intro v6 w6 Zi Yg _ qD;have HP6:=zA3 ((zA0 HP5).pushK (y:=X.k) Zi Yg qD);clear Zi Yg qD))
     go_roundw
     case rel=>
      refine⟨j+1,Cs++[(X,p)],r2,x2,by omega,by go_num,?_,by show _=_;rw[zAX,zA0 YZ];rfl,?_⟩
      ·have:=zA0 HP6
       rw[show zBk Cs++[X.k]=zBk (Cs++[(X,p)]) by simp[zBk]] at this
       exact this
      ·have hs:=zA0 GJ
       rw[<-zA0 YZ] at hs
       have hu:=zA0 hu3
       have e2:=zA0 ql
       have:=(zA0 HC).snoc (p:=p) (zA0 HZ) hs (X:=X) (by rw[e2];exact hu) (zA0 QS)
       rw[e2] at this
       exact this
     case measure=>first | (simp[intOf];omega) | (simp only[intOf];omega)
    ·have Zb:Hid (∀Xs ps,¬Seg l Xs ps):=by
      have hs:=zA0 GJ
      rw[<-zA0 YZ] at hs
      have e2:=zA0 ql
      exact(zA0 HC).none (zA0 HZ) hs (X:=X) (f:=f) (by rw[e2];exact zA0 hu3) qZ
     have hf:f=0∨f=2:=by
      rcases zA0 hu3 with h|h
      ·exact .inl h.1
      ·exact .inr h.1
     rcases hf with rfl|rfl
     ·have Yb:¬X.nl.length=n:=fun e=>qZ ⟨rfl,e⟩
      have hq:((X.nl.length:Int) != (n:Int))=true:=by simp;omega
      have DM:¬((X.nl.length:Int)=(n:Int)):=by omega
      clear qZ Yb
      go_wp2
      go_ret3
      exact .inr ⟨zA0 Zb,_,_,rfl,zA1 (zA0 Yo) _⟩
     ·clear qZ
      go_wp2
      go_ret3
      exact .inr ⟨zA0 Zb,_,_,rfl,zA1 (zA0 Yo) _⟩
   ·have ij:¬(j:Int)<(m:Int):=by omega
    have yM:j=m:=by omega
    have Ts:Cs.length=m:=(zA0 YZ).trans yM
    have hCS:Cs.length=S.length:=by rw[Ts,(zA0 HN).2.2]
    obtain⟨ac,cc,ec,GW⟩:=(zA0 HP).cols
    obtain⟨ak,ck,ek,Yq,hkb⟩:=zBj (zA0 HP).k
    rw[zB3] at ek
    have HA:Hid (Calls Tryz.prog 42 #[.slice ac Cs.length cc] wr fun e w'=>∃ar cr,e=.returned (.tuple #[.slice ar (zAn Cs).length cr,.int .i64 0])/\zCY w' ar (zAn Cs)/\Below wr.heap.size wr w'):=by
     have:=zNY ac cc Cs wr (by omega) (fun c hc=>((zA0 HC).cok.fit c hc).small) GW
     rw[(zA0 HC).cok.tab] at this
     refine this.mono ?_
     rintro e w' ⟨v,rfl,⟨ra,rc,rfl,QB⟩,hb⟩
     exact⟨ra,rc,rfl,QB,hb⟩
    have HRB:=zA3 (zA0 HP).rd
    have QW:=zA3 (zA0 HP).bel
    have Yt:=zA3 Yq
    rw[Ts] at ec ek HA
    subst ec
    subst ek
    have Yn:(zAn Cs).length<=4096:=by
     rw[zAn,List.length_map,List.length_range]
     cases Cs with
     | nil=>simp[len0]
     | cons d Ds=>have hf:=(zA0 HC).cok.fit d (List.mem_cons_self ..);have:=hf.len;have:=hf.le;simp only[len0];omega
    obtain⟨rl,GT⟩:∃rl,(zAn Cs).length=rl:=⟨_,rfl⟩
    rw[GT] at HA Yn
    by_cases JD:1<=m/\m<=32
    ·obtain⟨ps,qY⟩:=zU4 Cs (zA0 HC).cok.fit
     have hrn:rl=n:=by rw[<-GT];exact(zA0 HC).cok.rows (by omega)
     subst hrn
     have HB:Hid (∀W ar cr,Below wr.heap.size wr W->zCY W ar (zAn Cs)->Calls Tryz.prog 6 #[.slice ak m ck,.slice ar rl cr] W fun e w'=>e=.returned (.tuple #[.string (zJJ m rl ps),.int .i64 0])/\Below W.heap.size W w'):=fun W ar cr hW QB=>by
      have:=zKk (zA0 HC).cok (by omega) (by omega) qY ak ck ar cr W ((zA0 Yt).later hW) QB
      rw[Ts] at this
      exact this
     obtain⟨s1,GN⟩:∃s,zJJ m rl ps=s:=⟨_,rfl⟩
     rw[GN] at HB
     obtain⟨s2,qt⟩:∃s,bs l=s:=⟨_,rfl⟩
     rw[qt]
     have Kw:Hid (x=false->rl=zCn l/\(s1=s2->Seg l (Cs.map Prod.fst) ps)/\(s1≠s2->∀Xs qs,¬Seg l Xs qs)):=fun hx=>by
      have hc:=zA0 HC
      rw[hx] at hc
      have:=hc.seg (zA0 HZ) hCS (by omega) (by omega) qY
      rw[Ts,GN,qt] at this
      exact this
     have HCM:=zA3 Ts
     have HBQ:=zA3 (zGS s1 s2)
     have QR:Hid (∀W1 W2,Below wr.heap.size wr W1->Below W1.heap.size W1 W2->Br W2 w.heap.size r x):=fun W1 W2 h1 h2=>zA5 (zA5 (zA0 HRB) h1) h2
     clear GN qt qY Ts hCS Yq hkb GW GT yM
     cases x with
     | true=>
      have Zb:Hid (∀Xs ps,¬Seg l Xs ps):=fun Xs ps QT=>by cases (zA0 HC).sg ⟨Xs,ps,QT⟩
      go_wp2_with (first
       | (go_at_call 42;refine(zA0 HA).mono ?_;rintro _ w7 ⟨ar,cr,rfl,QB,Qx⟩;have Zh:=zA3 Qx;have qd:=zA3 QB;clear QB Qx)
       | (go_at_call 6;refine(zA0 HB _ _ _ (zA0 Zh) (zA0 qd)).mono ?_;rintro _ w8 ⟨rfl,Zt⟩;obtain⟨q0,q1,q2,q3⟩:=(zA0 QR _ _ (zA0 Zh) Zt).facts;have Jh:=zA3 Zt;clear Zt))
      go_ret3
      exact .inr ⟨zA0 Zb,_,_,rfl,zA2 (zA2 (zA0 QW) (zA0 Zh)) (zA0 Jh)⟩
     | false=>
      obtain⟨g1,g2,g3⟩:=zA0 Kw rfl
      by_cases yE:s1=s2
      ·have hq:(s1.toList == s2.toList)=true:=by rw[zA0 HBQ];exact decide_eq_true yE
       have Gt:=zA3 (g2 yE)
       have HG1:=zA3 g1
       clear g1 g2 g3 yE
       go_wp2_with (first
        | (go_at_call 42;refine(zA0 HA).mono ?_;rintro _ w7 ⟨ar,cr,rfl,QB,Qx⟩;have Zh:=zA3 Qx;have qd:=zA3 QB;clear QB Qx)
        | (go_at_call 6;refine(zA0 HB _ _ _ (zA0 Zh) (zA0 qd)).mono ?_;rintro _ w8 ⟨rfl,Zt⟩;obtain⟨q0,q1,q2,q3⟩:=(zA0 QR _ _ (zA0 Zh) Zt).facts;have Jh:=zA3 Zt;clear Zt))
       go_ret3
       refine .inl ⟨Cs,ps,ak,ar,ck,cr,zA0 Gt,?_,?_,((zA0 Yt).later (zA0 Zh)).later (zA0 Jh),(zA0 qd).later (zA0 Jh),zA2 (zA2 (zA0 QW) (zA0 Zh)) (zA0 Jh)⟩
       ·rw[zA0 HCM,<-zA0 HG1];rfl
       ·rw[<-zA0 HG1];exact(zA0 HC).cok
      ·have hq:(s1.toList == s2.toList)=false:=by rw[zA0 HBQ];exact decide_eq_false yE
       have Zb:=zA3 (g3 yE)
       clear g1 g2 g3 yE
       go_wp2_with (first
        | (go_at_call 42;refine(zA0 HA).mono ?_;rintro _ w7 ⟨ar,cr,rfl,QB,Qx⟩;have Zh:=zA3 Qx;have qd:=zA3 QB;clear QB Qx)
        | (go_at_call 6;refine(zA0 HB _ _ _ (zA0 Zh) (zA0 qd)).mono ?_;rintro _ w8 ⟨rfl,Zt⟩;obtain⟨q0,q1,q2,q3⟩:=(zA0 QR _ _ (zA0 Zh) Zt).facts;have Jh:=zA3 Zt;clear Zt))
       go_ret3
       exact .inr ⟨zA0 Zb,_,_,rfl,zA2 (zA2 (zA0 QW) (zA0 Zh)) (zA0 Jh)⟩
    ·have Zb:=zA3 ((zA0 HC).out (zA0 HZ) hCS (by rw[Ts];exact JD))
     have qZ:zRT (zBk Cs)=false:=by
      rw[(zA0 HC).cok.ok,Ts]
      cases h1:decide (1<=m) with
      | false=>rfl
      | true=>cases h2:decide (m<=32) with
       | false=>rfl
       | true=>exact absurd ⟨of_decide_eq_true h1,of_decide_eq_true h2⟩ JD
     have HB:Hid (∀W ar cr,Below wr.heap.size wr W->Calls Tryz.prog 6 #[.slice ak m ck,.slice ar rl cr] W fun e w'=>e=.returned (.tuple #[.string ⟨#[]⟩,.int .i64 1])/\Below W.heap.size W w'):=fun W ar cr hW=>by
      have:=zRC (zBk Cs) ak ck (zAn Cs) ar cr W (by rw[zB3];omega) ((zA0 Yt).later hW) qZ
      rw[zB3,Ts,GT] at this
      exact this
     have QR:Hid (∀W1 W2,Below wr.heap.size wr W1->Below W1.heap.size W1 W2->Br W2 w.heap.size r x):=fun W1 W2 h1 h2=>zA5 (zA5 (zA0 HRB) h1) h2
     clear Ts hCS Yq hkb GW GT yM JD qZ
     cases x with
     | true=>
      go_wp2_with (first
       | (go_at_call 42;refine(zA0 HA).mono ?_;rintro _ w7 ⟨ar,cr,rfl,QB,Qx⟩;have Zh:=zA3 Qx;clear QB Qx)
       | (go_at_call 6;refine(zA0 HB _ _ _ (zA0 Zh)).mono ?_;rintro _ w8 ⟨rfl,Zt⟩;obtain⟨q0,q1,q2,q3⟩:=(zA0 QR _ _ (zA0 Zh) Zt).facts;have Jh:=zA3 Zt;clear Zt))
      go_ret3
      exact .inr ⟨zA0 Zb,_,_,rfl,zA2 (zA2 (zA0 QW) (zA0 Zh)) (zA0 Jh)⟩
     | false=>
      go_wp2_with (first
       | (go_at_call 42;refine(zA0 HA).mono ?_;rintro _ w7 ⟨ar,cr,rfl,QB,Qx⟩;have Zh:=zA3 Qx;clear QB Qx)
       | (go_at_call 6;refine(zA0 HB _ _ _ (zA0 Zh)).mono ?_;rintro _ w8 ⟨rfl,Zt⟩;obtain⟨q0,q1,q2,q3⟩:=(zA0 QR _ _ (zA0 Zh) Zt).facts;have Jh:=zA3 Zt;clear Zt))
      go_ret3
      exact .inr ⟨zA0 Zb,_,_,rfl,zA2 (zA2 (zA0 QW) (zA0 Zh)) (zA0 Jh)⟩
theorem zLh(l:List UInt8)(hl:l.length<=140737488300000)(w:World):Calls Tryz.prog 8 #[.string (bs l)] w fun e w'=>zUU w w' l e:=by
 by_cases hs:(zAE l false 2).1=[83,49]
 ·exact zTC l hl hs w
 ·refine(zTD l hl hs w).mono ?_
  rintro e w' ⟨rfl,hb⟩
  refine .inr ⟨fun Xs ps QT=>hs ?_,_,_,rfl,hb⟩
  obtain⟨h1,h2⟩:=QT.front
  rw[zCv (by omega)]
  exact h1
end Go.Proofs.YtekgpapophibcaaGreat
