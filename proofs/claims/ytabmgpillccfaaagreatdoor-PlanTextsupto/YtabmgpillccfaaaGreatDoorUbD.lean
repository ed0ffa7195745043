import Derived.Test.YtabmgpillccfaaaGreatDoorUaJ
set_option linter.all false
set_option maxRecDepth 100000
namespace Go.Proofs.YtabmgpillccfaaaGreatDoor
open Go.RowKit Go.Sort Go.Proofs.Tryz
theorem m4(a:Tt)(g:a.fin)(c:Option Addr)(d:Nat)(b:World)(f:Tt.all b c a.l)(e:GT b):Calls prog 50 #[a.val c d] b (PQ (b9 a) b):=
 m5 (λa g c d b f e l j k i=>m3 a g c d b f e l j k i) a.size a aV g c d b f e
theorem pd(a:List UInt8)(c:World)(f:GT c)(d:a.length<=1000000):Calls prog 7 #[.string (bs a)] c (r6 (ee a) c):=
 qr a c f d (λb e i j g k l=>m4 b (ie d e) i j g k (f.aa l)) λb n e m=>nV b.size b aV (ie d e) n m
inductive Dt where
 | mk (k:Bool) (s:ByteArray) (l:List Dt)
def Dt.k:Dt->Bool | .mk a _ _=>a
def Dt.s:Dt->ByteArray | .mk _ a _=>a
def Dt.l:Dt->List Dt | .mk _ _ a=>a
mutual
def Dt.size:Dt->Nat
 | .mk _ _ a=>Dt.sizes a+1
def Dt.sizes:List Dt->Nat
 | []=>0
 | a::b=>a.size+Dt.sizes b
end
theorem Dt.am(a:Dt):a.size=Dt.sizes a.l+1:=by cases a;rw[Dt.size];rfl
theorem Dt.an:∀{b:List Dt} {a:Dt},a∈b->a.size<=Dt.sizes b
 | [],_,h=>by cases h
 | c::b,a,h=>by rw[Dt.sizes];rcases dm h with rfl|h;(.omega);.have:=Dt.an h;omega
def Dt.val(a:Dt)(b:Option Addr)(c:Nat):Value:=.agg #[.bool a.k,.string a.s,.slice b a.l.length (a.l.length+c)]
theorem Dt.ad(a:Dt)(b:Option Addr)(c:Nat):a.val b c=.agg #[.bool a.k,.string a.s,.slice b a.l.length (a.l.length+c)]:=rfl
mutual
def Dt.at(a:World)(b d:Nat):Dt->Prop
 | .mk i g c=>∃e f,(a.cell? ⟨b,d,none⟩=some (.bool i)/\a.cell? ⟨b,d+1,none⟩=some (.string g)/\a.cell? ⟨b,d+2,none⟩=some (.slice e c.length (c.length+f)))/\Dt.all a e c
def Dt.all(c:World)(d:Option Addr):List Dt->Prop
 | []=>True
 | e::f=>∃a b,d=some ⟨a,b,none⟩/\Dt.at c a b e/\(Dt.all c (some ⟨a,b+3,none⟩) f)
end
mutual
theorem Dt.az:∀(f:Dt) {b e:World} {c d:Nat},Dt.at b c d f->Bw b e->Dt.at e c d f
 | .mk p o n,b,e,c,d,h,a=>by rw[Dt.at] at h ⊢;obtain⟨g,i,⟨j,k,l⟩,m⟩:=h;exact⟨g,i,⟨aG j a,aG k a,aG l a⟩,Dt.ab n m a⟩
theorem Dt.ab:∀(c:List Dt) {a d:World} {b:Option Addr},Dt.all a b c->Bw a d->Dt.all d b c
 | [],a,d,b,h,e=>by rw[Dt.all];trivial
 | g::c,a,d,b,h,e=>by rw[Dt.all] at h ⊢;obtain⟨f,l,i,j,k⟩:=h;exact⟨f,l,i,Dt.az g j e,Dt.ab c k e⟩
end
theorem Dt.all_get{k:World}:∀{g:List Dt} {i:Option Addr} {d:Nat} {e:Dt},Dt.all k i g->g[d]?=some e->∃b a,i=some ⟨b,a,none⟩/\Dt.at k b (a+d*3) e
 | [],_,_,_,_,c=>by simp at c
 | p::g,i,0,e,h,c=>by rw[Dt.all] at h;obtain⟨b,a,j,n,_⟩:=h;simp at c;subst c;exact⟨b,a,j,by simpa using n⟩
 | p::g,i,d+1,e,h,c=>by rw[Dt.all] at h;obtain⟨b,a,j,_,o⟩:=h;obtain⟨q,r,f,l⟩:=Dt.all_get o (by simpa using c:g[d]?=some e);injection f with f;injection f with f m;subst f m;refine⟨b,a,j,?_⟩;rw[show a+(d+1)*3=a+3+d*3 by omega];exact l
abbrev Dp:=Dt×Option Addr×Nat
def da(a:Dp):List Value:=[.bool a.1.k,.string a.1.s,.slice a.2.1 a.1.l.length (a.1.l.length+a.2.2)]
theorem mp:∀(d:List Dp) (b:Nat) (c:Dp) (a:Nat),d[b]?=some c->a<3->(d.flatMap da)[b*3+a]?=(da c)[a]?
 | [],b,c,a,h,_=>by simp at h
 | f::d,0,c,a,h,e=>by simp at h;subst h;rw[fl,Nat.zero_mul,aT,mt (by simp[da];omega)]
 | f::d,b+1,c,a,h,e=>by rw[fl,gn (by simp[da];omega)];(have g:(b+1)*3+a-(da f).length=b*3+a:=by simp[da];omega);rw[g];exact mp d b c a (by simpa using h) e
theorem e8:∀a:List Dp,(a.flatMap da).length=a.length*3
 | []=>rfl
 | b::a=>by rw[fl,bj,e8 a,a1];simp[da];omega
def el(a:List UInt8):Dt:=.mk false (bs a) []
def g1(a:List Dt):Dt:=.mk true ⟨#[]⟩ a
def eH:List UInt8->Option (List UInt8)
 | []=>some []
 | b::d=>if b=92 then (match d with
   | h::c::e=>if bH h<0∨bH c<0 then none else (eH e).map λa=>UInt8.ofNat (16*bH h+bH c).toNat::a
   | _=>none)
  else (eH d).map λa=>b::a
def fp(b:List UInt8):Option (List UInt8):=(eH b).bind λa=>if a.flatMap fq=b then some a else none
def ht(b:List UInt8):Option (List UInt8):=(eH b.tail.dropLast).bind λa=>if fV a=b then some a else none
theorem mn(h a:UInt8)(b:List UInt8):eH (92::h::a::b)=if bH h<0∨bH a<0 then none else (eH b).map λc=>UInt8.ofNat (16*bH h+bH a).toNat::c:=by
 conv=>lhs;unfold eH
 rw[aR rfl]
theorem k7{a:UInt8}(b:List UInt8)(h:¬a=92):eH (a::b)=(eH b).map λc=>a::c:=by
 conv=>lhs;unfold eH
 rw[aL h]
theorem pY(a:List UInt8):ht (34::(a++[34]))=fp a:=by
 unfold ht fp;rw[List.tail_cons,List.dropLast_concat];congr 1;funext b;have:(fV b=34::(a++[34]))=(b.flatMap fq=a):=by unfold fV;rw[List.cons.injEq,List.append_left_inj];simp
 simp only[this]
theorem lR{a:UInt8}(h:cs a=true):¬a=92/\¬a=34:=by constructor<;>(intro b;subst b;exact absurd h (by decide))
theorem mE{a:UInt8}(b:List UInt8)(h:cs a=true):fp (a::b)=(fp b).map λe=>a::e:=by
 unfold fp;rw[k7 b (lR h).1];cases eH b with
 | none=>rfl
 | some c=>show (if (a::c).flatMap fq=a::b then some (a::c) else none)=(if c.flatMap fq=b then some c else none).map λe=>a::e;rw[fl,ig h];by_cases d:c.flatMap fq=b;(.rw[aR d,aR (by rw[d];rfl)];rfl);.rw[aL d,aL (by simpa using d)];rfl
theorem pX{a:UInt8}(b:List UInt8)(h:¬cs a=true)(e:¬a=92):fp (a::b)=none:=by
 unfold fp;rw[k7 b e];cases eH b with
 | none=>rfl
 | some d=>show (if (a::d).flatMap fq=a::b then some (a::d) else none)=none;rw[fl,fU (by simpa using h)];exact aL λc=>e (by injection c with c;exact c.symm)
theorem qJ:∀a:Fin 256,0<=bH (UInt8.ofNat a.val)->cB (bH (UInt8.ofNat a.val)).toNat=UInt8.ofNat a.val:=by decide +kernel
theorem qK(a:UInt8)(h:0<=bH a):cB (bH a).toNat=a:=by have:=qJ ⟨a.toNat,a.toNat_lt⟩;simp only[UInt8.ofNat_toNat] at this;exact this h
theorem qU{h d:UInt8}(j:¬bH h<0)(k:¬bH d<0):cB ((UInt8.ofNat (16*bH h+bH d).toNat).toNat / 16)=h/\cB ((UInt8.ofNat (16*bH h+bH d).toNat).toNat % 16)=d:=by
 have g:=er h;have i:=er d;have c:(UInt8.ofNat (16*bH h+bH d).toNat).toNat=16*(bH h).toNat+(bH d).toNat:=by rw[UInt8.toNat_ofNat'];omega
 rw[c];have a:=qK h (by omega);have b:=qK d (by omega);have e:(16*(bH h).toNat+(bH d).toNat) / 16=(bH h).toNat:=by omega
 have f:(16*(bH h).toNat+(bH d).toNat) % 16=(bH d).toNat:=by omega
 rw[e,f];exact⟨a,b⟩
theorem lp(h c:UInt8)(f:List UInt8):fp (92::h::c::f)=if bH h<0∨bH c<0∨cs (UInt8.ofNat (16*bH h+bH c).toNat)=true then none else (fp f).map λj=>UInt8.ofNat (16*bH h+bH c).toNat::j:=by
 unfold fp;rw[mn];by_cases b:bH h<0∨bH c<0;.rw[aR b,aR (by rcases b with b|b;exact .inl b;exact .inr (.inl b))];rfl
 rw[aL b];have e:=qU (h:=h) (d:=c) (λa=>b (.inl a)) (λa=>b (.inr a));generalize UInt8.ofNat (16*bH h+bH c).toNat=g at *;cases i:cs g with
 | true=>
  rw[aR (.inr (.inr rfl))]
  cases eH f with
  | none=>rfl
  | some d=>
   show (if (g::d).flatMap fq=_ then some (g::d) else none)=none
   rw[fl,ig i]
   exact aL λa=>(lR i).1 (by injection a)
 | false=>
  rw[aL (by rintro(a|a|a);exact b (.inl a);exact b (.inr a);cases a)]
  cases eH f with
  | none=>rfl
  | some d=>
   show (if (g::d).flatMap fq=92::h::c::f then some (g::d) else none)=(if d.flatMap fq=f then some d else none).map λj=>g::j
   rw[fl,fU i,e.1,e.2]
   by_cases e:d.flatMap fq=f
   .rw[aR e,aR (by rw[e];rfl)];rfl
   .rw[aL e,aL (by simpa using e)];rfl
def ei(a:List UInt8):Option (List UInt8×List UInt8):=if (34:UInt8)∈a then some (a.takeWhile (· != 34),(a.dropWhile (· != 34)).tail) else none
theorem fG{a:UInt8}(c:List UInt8)(h:¬a=34):ei (a::c)=(ei c).map λd=>(a::d.1,d.2):=by
 unfold ei;have f:(a != 34)=true:=by simpa using h
 by_cases b:(34:UInt8)∈c;.rw[aR b,aR (List.mem_cons_of_mem _ b),List.takeWhile_cons,List.dropWhile_cons,f];rfl
 .rw[aL b,aL (by simp;exact⟨λe=>h e.symm,b⟩)];rfl
theorem hy(a:List UInt8):ei (34::a)=some ([],a):=by unfold ei;rw[aR (List.mem_cons_self ..)];rfl
theorem h9:∀(f:Nat) (b:List UInt8),b.length<=f->cz b=(ei b).bind λa=>(fp a.1).map λp=>(p,a.2)
 | _,[],_=>by simp[cz,ei]
 | 0,_::_,h=>absurd h (by simp)
 | f+1,d::b,n=>by
  rw[a1] at n;by_cases k:d=34;.subst k;rw[gN,hy];rfl
  rw[fG b k];by_cases l:d=92
  .subst l
   match b with
   | []=>simp[cz,ei]
   | [h]=>
    rw[d1,show fO [h]=none from rfl]
    by_cases c:h=34
    .subst c;rw[hy];rfl
    .rw[fG _ c];rfl
   | h::e::j=>
    simp only[a1] at n
    have o:bH 34<0:=by decide
    by_cases c:h=34
    .subst c
     rw[hy,d1,fO,aR (.inl o)];rfl
    by_cases m:e=34
    .subst m
     rw[fG _ c,hy,d1,fO,aR (.inr (.inl o))];rfl
    rw[fG _ c,fG _ m,d1,fO]
    have q:=h9 f j (by omega)
    by_cases g:bH h<0∨bH e<0∨cs (UInt8.ofNat (16*bH h+bH e).toNat)=true
    .rw[aR g]
     cases ei j with
     | none=>rfl
     | some a=>show none=(fp (92::h::e::a.1)).map _;rw[lp,aR g];rfl
    .rw[aL g]
     show (cz j).map _=_
     rw[q]
     cases ei j with
     | none=>rfl
     | some a=>
      show ((fp a.1).map _).map _=(fp (92::h::e::a.1)).map _
      rw[lp,aL g]
      cases fp a.1<;>rfl
  .rw[ey b k l];by_cases i:cs d=true
   .rw[aR i,h9 f b (by omega)]
    cases ei b with
    | none=>rfl
    | some a=>
     show ((fp a.1).map _).map _=(fp (d::a.1)).map _
     rw[mE _ i]
     cases fp a.1<;>rfl
   .rw[aL i]
    cases ei b with
    | none=>rfl
    | some a=>show none=(fp (d::a.1)).map _;rw[pX _ i l];rfl
mutual
def cv:Dt->Option Tt
 | .mk b a c=>if b then (my c).map λd=>.mk 3 ⟨#[]⟩ d else if eZ 34 a.data.toList then (ht a.data.toList).map λe=>.mk 2 (bs e) [] else some (.mk 1 a [])
def my:List Dt->Option (List Tt)
 | []=>some []
 | a::b=>(cv a).bind λc=>(my b).map λd=>c::d
end
def oF(b:Option (List UInt8×List UInt8)):Option (Dt×List UInt8):=b.map λa=>(el (34::(a.1++[34])),a.2)
def jZ(a:List UInt8):Option (Dt×List UInt8):=if a.takeWhile bn=[] then none else some (el (a.takeWhile bn),a.dropWhile bn)
mutual
def dB:Nat->List UInt8->Option (Dt×List UInt8)
 | 0,_=>none
 | c+1,a=>if eZ 40 (bD a) then (de c (fR 40 (bD a))).map λb=>(g1 b.1,b.2) else if eZ 34 (bD a) then oF (ei (fR 34 (bD a))) else jZ (bD a)
def de:Nat->List UInt8->Option (List Dt×List UInt8)
 | 0,_=>none
 | b+1,a=>if eZ 41 (bD a) then some ([],fR 41 (bD a)) else match dB b (bD a) with
  | none=>none
  | some d=>(de b d.2).map λc=>(d.1::c.1,c.2)
end
theorem sD(a:List Dt):cv (g1 a)=(my a).map λb=>.mk 3 ⟨#[]⟩ b:=by unfold g1;rw[cv];rfl
theorem sC(a:List UInt8):cv (el (34::(a++[34])))=(fp a).map λb=>.mk 2 (bs b) []:=by
 unfold el;rw[cv,dZ];have:eZ 34 (34::(a++[34]))=true:=by unfold eZ Lib.hasPrefix;simp
 rw[this,pY];rfl
theorem sN{a:UInt8}{b:List UInt8}(d:bn a=false):eZ a (b.takeWhile bn)=false:=by
 cases b with
 | nil=>rfl
 | cons e f=>rw[List.takeWhile_cons];split;(.rename_i h;exact fM _ λc=>by subst c;rw[d] at h;cases h);.rfl
theorem oA(a:List UInt8):fa a=(jZ a).bind λb=>(cv b.1).map λc=>(c,b.2):=by
 unfold fa jZ;split;.rfl
 .show _=(cv (el _)).map _;unfold el;rw[cv,dZ,sN (by decide)];rfl
theorem rt:∀c,(∀b,dQ c b=(dB c b).bind λa=>(cv a.1).map λg=>(g,a.2))/\∀b,dU c b=(de c b).bind λa=>(my a.1).map λi=>(i,a.2):=by
 intro c;induction c with
 | zero=>exact⟨λb=>by rw[dQ,dB];rfl,λb=>by rw[dU,de];rfl⟩
 | succ c e=>
  refine⟨λb=>?_,λb=>?_⟩
  .rw[dQ,dB]
   cases eZ 40 (bD b) with
   | true=>
    simp only[if_true]
    rw[e.2]
    cases de c (fR 40 (bD b)) with
    | none=>rfl
    | some a=>show ((my a.1).map _).map _=(cv (g1 a.1)).map _;rw[sD];cases my a.1<;>rfl
   | false=>
    cases eZ 34 (bD b) with
    | true=>
     simp only[if_true,if_false,Bool.false_eq_true]
     unfold g7 oF
     rw[h9 _ _ aV]
     cases ei (fR 34 (bD b)) with
     | none=>rfl
     | some a=>show ((fp a.1).map _).map _=(cv (el (34::(a.1++[34])))).map _;rw[sC];cases fp a.1<;>rfl
    | false=>
     simp only[if_false,Bool.false_eq_true]
     exact oA _
  .rw[dU,de]
   cases eZ 41 (bD b) with
   | true=>simp only[if_true];rw[Option.bind_some,my];rfl
   | false=>
    simp only[if_false,Bool.false_eq_true]
    rw[e.1]
    cases dB c (bD b) with
    | none=>rfl
    | some a=>
     simp only[Option.bind_some]
     cases f:cv a.1 with
     | none=>
      simp only[Option.map_none]
      cases de c a.2 with
      | none=>rfl
      | some d=>show none=(my (a.1::d.1)).map _;rw[my,f];rfl
     | some g=>
      simp only[Option.map_some]
      rw[e.2]
      cases de c a.2 with
      | none=>rfl
      | some d=>show ((my d.1).map _).map _=(my (a.1::d.1)).map _;rw[my,f];cases my d.1<;>rfl
def br(e:List UInt8)(d:List Dt)(c:List (List Dt)):Option (List Dt):=
 match e with
 | []=>if c.isEmpty then some d else none
 | b::a=>if b=32∨b=9∨b=10 then br a d c
  else if b=40 then br a [] (d::c)
  else if b=41 then (match c with
   | []=>none
   | f::c=>br a (f++[g1 d]) c)
  else if b=34 then (if (34:UInt8)∈a then br (a.dropWhile (· != 34)).tail (d++[el (34::(a.takeWhile (· != 34)++[34]))]) c else none)
  else if bn b=true then br (a.dropWhile bn) (d++[el (b::a.takeWhile bn)]) c
  else none
termination_by e.length
decreasing_by
 all_goals first
  | (simp;done)
  | (have g:=(List.dropWhile_sublist (· != 34) (l:=a)).length_le;simp only[List.length_tail,a1];omega)
  | (have i:=(List.dropWhile_sublist bn (l:=a)).length_le;simp only[a1];omega)
theorem hO(a:List Dt)(b:List (List Dt)):br [] a b=if b.isEmpty then some a else none:=by rw[br.eq_def]
theorem hk(a:UInt8)(b:List UInt8)(d:List Dt)(c:List (List Dt)):br (a::b) d c=if a=32∨a=9∨a=10 then br b d c
  else if a=40 then br b [] (d::c)
  else if a=41 then (match c with
   | []=>none
   | e::c=>br b (e++[g1 d]) c)
  else if a=34 then (if (34:UInt8)∈b then br (b.dropWhile (· != 34)).tail (d++[el (34::(b.takeWhile (· != 34)++[34]))]) c else none)
  else if bn a=true then br (b.dropWhile bn) (d++[el (a::b.takeWhile bn)]) c
  else none:=by rw[br.eq_def]
theorem fx{a:UInt8}(d:List UInt8)(b:List Dt)(c:List (List Dt))(h:a=32∨a=9∨a=10):br (a::d) b c=br d b c:=by rw[hk,aR h]
theorem io(c:List UInt8)(a:List Dt)(b:List (List Dt)):br (40::c) a b=br c [] (a::b):=by rw[hk,aL (by decide),aR rfl]
theorem hN(b:List UInt8)(a:List Dt):br (41::b) a []=none:=by rw[hk,aL (by decide),aL (by decide),aR rfl]
theorem kV(c:List UInt8)(a p:List Dt)(b:List (List Dt)):br (41::c) a (p::b)=br c (p++[g1 a]) b:=by rw[hk,aL (by decide),aL (by decide),aR rfl]
theorem kl(a:List UInt8)(b:List Dt)(c:List (List Dt)):br (34::a) b c=match ei a with
  | none=>none
  | some d=>br d.2 (b++[el (34::(d.1++[34]))]) c:=by
 rw[hk,aL (by decide),aL (by decide),aL (by decide),aR rfl]
 unfold ei
 by_cases h:(34:UInt8)∈a
 .rw[aR h,aR h]
 .rw[aL h,aL h]
theorem pU{a:UInt8}(h:bn a=true):¬(a=32∨a=9∨a=10)/\¬a=40/\¬a=41/\¬a=34:=by
 refine⟨?_,?_,?_,?_⟩;.rintro(b|b|b)<;>(subst b;exact absurd h (by decide))
 all_goals (intro b;subst b;exact absurd h (by decide))
theorem im{a:UInt8}(b:List UInt8)(c:List Dt)(d:List (List Dt))(h:bn a=true):br (a::b) c d=br (b.dropWhile bn) (c++[el (a::b.takeWhile bn)]) d:=by obtain⟨e,f,g,i⟩:=pU h;rw[hk,aL e,aL f,aL g,aL i,aR h]
theorem km{a:UInt8}(j:List UInt8)(b:List Dt)(i:List (List Dt))(c:¬(a=32∨a=9∨a=10))(d:¬a=40)(e:¬a=41)(f:¬a=34)(g:¬bn a=true):br (a::j) b i=none:=by rw[hk,aL c,aL d,aL e,aL f,aL g]
theorem he{a:UInt8}(b:List UInt8)(h:a=32∨a=9∨a=10):bD (a::b)=bD b:=by unfold bD Lib.trimLeftS;rw[List.dropWhile_cons];rcases h with rfl|rfl|rfl<;>rfl
theorem fF{a:UInt8}(b:List UInt8)(h:¬(a=32∨a=9∨a=10)):bD (a::b)=a::b:=by unfold bD Lib.trimLeftS;rw[List.dropWhile_cons,aL];simp only[List.contains_cons,List.contains_nil,Bool.or_false,Bool.or_eq_true,beq_iff_eq];intro c;exact h c
theorem lw:bD []=[]:=rfl
theorem gV(a:UInt8)(b:List UInt8):eZ a (a::b)=true:=by unfold eZ Lib.hasPrefix;simp
theorem iO(a:UInt8)(b:List UInt8):fR a (a::b)=b:=by unfold fR Lib.trimPrefix;rw[show Lib.hasPrefix (a::b) [a]=true from gV a b];rfl
theorem iZ(b:Nat)(a:List UInt8):dB (b+1) (40::a)=(de b a).map λc=>(g1 c.1,c.2):=by rw[dB,fF a (by decide),gV,iO];rfl
theorem j1(b:Nat)(a:List UInt8):dB (b+1) (34::a)=oF (ei a):=by rw[dB,fF a (by decide),fM a (by decide),gV,iO];rfl
theorem iY(f:Nat){a:UInt8}(b:List UInt8)(c:¬(a=32∨a=9∨a=10))(d:¬a=40)(e:¬a=34):dB (f+1) (a::b)=if bn a=true then some (el (a::b.takeWhile bn),b.dropWhile bn) else none:=by
 rw[dB,fF b c,fM b d,fM b e];show jZ (a::b)=_;unfold jZ;rw[List.takeWhile_cons,List.dropWhile_cons];by_cases h:bn a=true;.rw[aR h,aR h,aR h,aL (by simp)]
 .rw[aL h,aL h,aR rfl,aL h]
theorem h8(a:Nat):dB a []=none:=by cases a<;>rw[dB];rfl
theorem ns(c:Nat){a:UInt8}(b:List UInt8)(f:¬(a=32∨a=9∨a=10))(g:¬a=41):de (c+1) (a::b)=match dB c (a::b) with
  | none=>none
  | some e=>(de c e.2).map λd=>(e.1::d.1,d.2):=by
 rw[de,fF b f,fM b g];rfl
theorem qV{p:UInt8->Bool}:∀{b:List UInt8} {a:UInt8},a∈b->p a=false->0<(b.dropWhile p).length
 | [],_,h,_=>by cases h
 | e::b,a,h,c=>by rw[List.dropWhile_cons];split;(.rename_i d;rcases dm h with rfl|h;(.rw[c] at d;cases d);.exact qV h c);.simp
theorem hA{a:List UInt8}{b:List UInt8×List UInt8}(h:ei a=some b):b.2.length<a.length/\b.1.length<a.length:=by
 unfold ei at h;split at h;.rename_i e;injection h with h;subst h;have d:=congrArg List.length (List.takeWhile_append_dropWhile (p:=λc:UInt8=>c != 34) (l:=a));rw[bj] at d;have f:0<(a.dropWhile λc:UInt8=>c != 34).length:=qV e rfl;simp only[List.length_tail];omega
 .cases h
theorem jx(a:List UInt8):(a.dropWhile bn).length<=a.length:=(List.dropWhile_sublist bn (l:=a)).length_le
theorem oE:∀(d:Nat),(∀a b,dB d a=some b->b.2.length<a.length)/\∀a b,de d a=some b->b.2.length<a.length:=by
 intro d;induction d with
 | zero=>exact⟨λa b h=>(by rw[dB] at h;exact nomatch h),λa b h=>(by rw[de] at h;exact nomatch h)⟩
 | succ d i=>
  refine⟨λa b h=>?_,λa b h=>?_⟩;.rw[dB] at h;have k:=ez a;split at h;(.rename_i c;have:=fb c;obtain⟨f,e,rfl⟩:=Option.map_eq_some_iff.1 h;have:=i.2 _ _ e;show f.2.length<_;omega);split at h;(.rename_i c;have:=fb c;unfold oF at h;obtain⟨f,e,rfl⟩:=Option.map_eq_some_iff.1 h;have:=(hA e).1;show f.2.length<_;omega);.unfold jZ at h;split at h;(.cases h);.rename_i c;injection h with h;subst h;show (List.dropWhile bn (bD a)).length<_;have j:=congrArg List.length (List.takeWhile_append_dropWhile (p:=bn) (l:=bD a));rw[bj] at j;have:(bD a).takeWhile bn≠[]:=c;have:=List.length_pos_iff.2 this;omega
  .rw[de] at h;have k:=ez a;split at h;.rename_i c;have:=fb c;injection h with h;subst h;show (fR 41 (bD a)).length<_;omega
   .cases g:dB d (bD a) with
    | none=>rw[g] at h;cases h
    | some l=>
     rw[g] at h
     simp only at h
     obtain⟨f,e,rfl⟩:=Option.map_eq_some_iff.1 h
     have c:=i.1 _ _ g
     have j:=i.2 _ _ e
     show f.2.length<_;omega
theorem sn:∀(m:Nat) (d:List UInt8),d.length<=m->∀e,2*d.length+2<=e->∀(g i:List Dt) (j:List (List Dt)),br d g (i::j)=match de e d with
  | none=>none
  | some f=>br f.2 (i++[g1 (g++f.1)]) j:=by
 intro m
 induction m with
 | zero=>
  intro d s e u g i j
  have:d=[]:=eV (by omega)
  subst this
  obtain⟨a,rfl⟩:∃a,e=a+1:=⟨e-1,by omega⟩
  rw[hO,de,lw,qN,h8];rfl
 | succ m l=>
  intro d s e u g i j
  obtain⟨a,rfl⟩:∃a,e=a+2:=⟨e-2,by omega⟩
  cases d with
  | nil=>rw[hO,de,lw,qN,h8];rfl
  | cons c b=>
   rw[a1] at s u
   by_cases k:c=32∨c=9∨c=10
   .rw[fx b g _ k,show de (a+2) (c::b)=de (a+2) b by rw[de,de,he b k]]
    exact l b (by omega) _ (by omega) g i j
   by_cases q:c=41
   .subst q
    rw[kV,de,fF b (by decide),gV,iO]
    simp only[if_true,d7]
   rw[ns _ b k q]
   by_cases p:c=40
   .subst p
    rw[io,iZ,l b (by omega) a (by omega) [] g (i::j)]
    cases r:de a b with
    | none=>rfl
    | some f=>
     have t:=(oE a).2 _ _ r
     simp only[Option.map_some,dl]
     rw[l f.2 (by omega) (a+1) (by omega)]
     cases de (a+1) f.2 with
     | none=>rfl
     | some v=>simp only[Option.map_some,d8,List.singleton_append]
   by_cases o:c=34
   .subst o
    rw[kl,j1]
    unfold oF
    cases r:ei b with
    | none=>rfl
    | some f=>
     have t:=(hA r).1
     simp only[Option.map_some]
     rw[l f.2 (by omega) (a+1) (by omega)]
     cases de (a+1) f.2 with
     | none=>rfl
     | some v=>simp only[Option.map_some,d8,List.singleton_append]
   rw[iY a b k p o]
   by_cases n:bn c=true
   .rw[aR n,im b _ _ n]
    have t:=jx b
    simp only
    rw[l _ (by omega) (a+1) (by omega)]
    cases de (a+1) (b.dropWhile bn) with
    | none=>rfl
    | some v=>simp only[Option.map_some,d8,List.singleton_append]
   .rw[aL n,km b _ _ k p q o n]
def pq:List Dt->List (List Dt)->Nat
 | a,[]=>a.length+1
 | _,c::b=>pq c b
def low:List Dt->List (List Dt)->Nat
 | a,[]=>a.length
 | _,b::c=>pq b c
theorem n7(b:List Dt)(c:Dt)(a:List (List Dt)):low b a<=low (b++[c]) a:=by
 cases a with
 | nil=>simp[low]
 | cons d a=>exact aV
theorem qA(b:List Dt)(a:List (List Dt)):low b a<=pq b a:=by
 cases a with
 | nil=>simp[low,pq]
 | cons c a=>exact aV
theorem qz(b:Dt)(p:List Dt)(a:List (List Dt)):pq p a<=low (p++[b]) a:=by
 cases a with
 | nil=>simp[low,pq]
 | cons c a=>exact aV
theorem qx:∀(g:Nat) (e:List UInt8),e.length<=g->∀(b:List Dt) (a:List (List Dt)) (i:List Dt),br e b a=some i->low b a<=i.length:=by
 intro g;induction g with
 | zero=>
  intro e p b a i h
  have:e=[]:=eV (by omega)
  subst this
  rw[hO] at h
  cases a with
  | nil=>injection h with h;subst h;exact aV
  | cons k a=>cases h
 | succ g f=>
  intro e p b a i h
  cases e with
  | nil=>
   rw[hO] at h
   cases a with
   | nil=>injection h with h;subst h;exact aV
   | cons k a=>cases h
  | cons d c=>
   rw[a1] at p
   by_cases l:d=32∨d=9∨d=10
   .rw[fx c b _ l] at h;exact f c (by omega) _ _ _ h
   by_cases n:d=40
   .subst n;rw[io] at h;exact aQ (qA b a) (f c (by omega) _ _ _ h)
   by_cases o:d=41
   .subst o
    cases a with
    | nil=>rw[hN] at h;cases h
    | cons k a=>rw[kV] at h;exact aQ (qz (g1 b) k a) (f c (by omega) _ _ _ h)
   by_cases m:d=34
   .subst m
    rw[kl] at h
    cases j:ei c with
    | none=>rw[j] at h;cases h
    | some r=>rw[j] at h;have:=(hA j).1;exact aQ (n7 b _ a) (f r.2 (by omega) _ _ _ h)
   by_cases q:bn d=true
   .rw[im c _ _ q] at h;have:=jx c;exact aQ (n7 b _ a) (f _ (by omega) _ _ _ h)
   .rw[km c _ _ l n o m q] at h;cases h
def nh:Option (List Dt)->Option Dt
 | some [a]=>some a
 | _=>none
theorem pf{a:Option (List Dt)}(h:∀b,a=some b->2<=b.length):nh a=none:=by
 match a,h with
 | none,_=>rfl
 | some [],_=>rfl
 | some [c],h=>exact absurd (h _ rfl) (by simp)
 | some (_::_::_),_=>rfl
theorem kU:∀(k:List UInt8) (c:Dt),nh (br k [c] [])=if bD k=[] then some c else none
 | [],c=>by rw[hO];rfl
 | b::a,c=>by
  by_cases d:b=32∨b=9∨b=10;.rw[fx a _ _ d,he a d];exact kU a c
  rw[fF a d,aL (by simp)];refine pf λm h=>?_;by_cases f:b=40;.subst f;rw[io] at h;exact qx _ a aV _ _ _ h
  by_cases g:b=41;.subst g;rw[hN] at h;cases h
  by_cases e:b=34
  .subst e
   rw[kl] at h
   cases i:ei a with
   | none=>rw[i] at h;cases h
   | some l=>rw[i] at h;exact qx _ l.2 aV _ _ _ h
  by_cases j:bn b=true;.rw[im a _ _ j] at h;exact qx _ _ aV _ _ _ h
  .rw[km a _ _ d f g e j] at h;cases h
theorem r9:∀(k:List UInt8) (e:Nat),2*k.length+1<=e->nh (br k [] [])=match dB e k with
  | none=>none
  | some d=>if bD d.2=[] then some d.1 else none
 | [],e,h=>by rw[hO,h8];rfl
 | b::a,e,m=>by
  rw[a1] at m
  obtain⟨c,rfl⟩:∃c,e=c+1:=⟨e-1,by omega⟩
  by_cases f:b=32∨b=9∨b=10
  .rw[fx a _ _ f,show dB (c+1) (b::a)=dB (c+1) a by rw[dB,dB,he a f]]
   exact r9 a _ (by omega)
  by_cases j:b=40
  .subst j
   rw[io,iZ,sn _ a aV c (by omega)]
   cases de c a with
   | none=>rfl
   | some d=>exact kU d.2 (g1 d.1)
  by_cases i:b=34
  .subst i
   rw[kl,j1]
   unfold oF
   cases ei a with
   | none=>rfl
   | some d=>exact kU d.2 _
  rw[iY c a f j i]
  by_cases g:bn b=true
  .rw[aR g,im a _ _ g];exact kU _ _
  rw[aL g]
  by_cases l:b=41
  .subst l;rw[hN];rfl
  rw[km a _ _ f j l i g];rfl
theorem oM(a:List UInt8):fv a=(nh (br a [] [])).bind cv:=by
 rw[r9 a _ aV];unfold fv;rw[(rt _).1];cases dB (2*a.length+1) a with
 | none=>rfl
 | some c=>
  simp only[Option.bind_some];by_cases b:bD c.2=[]
  .rw[aR b,Option.bind_some]
   cases cv c.1 with
   | none=>rfl
   | some d=>simp only[Option.map_some];rw[aR b]
  .rw[aL b]
   cases cv c.1 with
   | none=>rfl
   | some d=>simp only[Option.map_some];rw[aL b];rfl
def headD(a:Dt):ByteArray:=match a.l with
 | h::_=>if a.k=true/\h.k=false then h.s else ⟨#[]⟩
 | []=>⟨#[]⟩
def bO(a:Dt):Option Int:=if a.k then none else du a.s
def dc(b:List Dt)(a:Nat):Dt:=b.getD a (.mk false ⟨#[]⟩ [])
def dd(a:Dt):Option (List Dt):=if a.k then some a.l else none
def dM(a:Dt):Option (List Int):=(dd a).bind λb=>aW (b.map bO)
def iL(a:Dt):Option (Int×Bool):=if headD a=bs cy/\a.l.length=2 then (bO (dc a.l 1)).map λb=>(b,true) else (bO a).map λb=>(b,false)
def eU(a:Dt):Option (List (Int×Bool)):=(dd a).bind λb=>aW (b.map iL)
def gh(a:Dt):Option (Int×Int):=if 0<=ch ea (headD a)/\a.l.length=2 then (bO (dc a.l 1)).map λb=>(ch ea (headD a)+1,b) else none
def cn(b:List (List UInt8))(a:Dt):Option Int:=if a.k=false/\0<=ch b a.s then some (ch b a.s+1) else none
def kg(a:Dt):Option ByteArray:=if a.k=false/\dT a.s=true then some a.s else none
def gl(a:ByteArray):Option Ex:=if a=⟨#[110,117,108,108]⟩ then some (.mk 2 0 ⟨0,0,⟨#[]⟩⟩ []) else if eZ 35 a.data.toList=true then (du (bs (fR 35 a.data.toList))).map λb=>.mk 1 b ⟨0,0,⟨#[]⟩⟩ []
 else if eZ 34 a.data.toList=true then (ht a.data.toList).map λc=>.mk 2 0 ⟨2,0,bs c⟩ []
 else (du a).map λb=>.mk 2 0 ⟨1,b,⟨#[]⟩⟩ []
mutual
def d9:Dt->Option Ex
 | .mk c d a=>if c then (match a with
   | []=>none
   | h::b=>if 0<=ch bV (headD (.mk true ⟨#[]⟩ [h]))/\(b.length:Int)=fD (ch bV (headD (.mk true ⟨#[]⟩ [h]))+3) then (pB b).map λa=>.mk (ch bV (headD (.mk true ⟨#[]⟩ [h]))+3) 0 ⟨0,0,⟨#[]⟩⟩ a else none)
  else gl d
def pB:List Dt->Option (List Ex)
 | []=>some []
 | a::b=>(d9 a).bind λc=>(pB b).map λd=>c::d
end
theorem k4:∀a:List Dt,pB a=aW (a.map d9)
 | []=>by rw[pB];rfl
 | b::a=>by rw[pB,bi,k4 a];cases d9 b<;>rfl
theorem qW:∀a:List Dt,my a=aW (a.map cv)
 | []=>by rw[my];rfl
 | b::a=>by rw[my,bi,qW a];cases cv b<;>rfl
def bu(b:Int)(a:List Dt)(d:List (Option Pl)):Option Pl:=
 if b=1 then (kg (dc a 0)).map λf=>.mk 1 f [] [] [] [] 0 0 0 0 []
 else if b=2∨b=4∨b=5 then (aW ((a.take 1).map d9)).bind λg=>(aW (d.drop 1)).map λc=>.mk b ⟨#[]⟩ g [] [] [] 0 0 0 0 c
 else if b=3 then (dd (dc a 0)).bind λj=>(aW (j.map d9)).bind λg=>(aW (d.drop 1)).map λc=>.mk 3 ⟨#[]⟩ g [] [] [] 0 0 0 0 c
 else if b=6 then (dM (dc a 0)).bind λe=>(dd (dc a 1)).bind λn=>(aW (n.map gh)).bind λk=>(aW (d.drop 2)).map λc=>.mk 6 ⟨#[]⟩ [] e [] k 0 0 0 0 c
 else if b=9 then (eU (dc a 0)).bind λi=>(bO (dc a 1)).bind λf=>(bO (dc a 2)).bind λo=>(aW (d.drop 3)).map λc=>.mk 9 ⟨#[]⟩ [] [] i [] 0 0 f o c
 else if b=10 then (cn d0 (dc a 0)).bind λm=>(bO (dc a 1)).bind λl=>(bO (dc a 2)).bind λf=>(dM (dc a 3)).bind λe=>(eU (dc a 4)).bind λi=>(aW (d.drop 5)).map λc=>.mk 10 ⟨#[]⟩ [] e i [] m l f 0 c
 else if b=12 then (dd (dc a 0)).bind λj=>(aW (j.map (cn bG))).map λe=>.mk 12 ⟨#[]⟩ [] e [] [] 0 0 0 0 []
 else (aW d).map λc=>.mk b ⟨#[]⟩ [] [] [] [] 0 0 0 0 c
def gt(a:Dt):Int:=ch aX (headD a)
mutual
def bZ:Dt->Option Pl
 | .mk b c a=>if 0<=gt (.mk b c a)/\(gt (.mk b c a)=7∨(a.tail.length:Int)=bN (gt (.mk b c a)+1)) then bu (gt (.mk b c a)+1) a.tail (qo a).tail else none
def qo:List Dt->List (Option Pl)
 | []=>[]
 | a::b=>bZ a::qo b
end
theorem nW:∀a:List Dt,qo a=a.map bZ
 | []=>by rw[qo];rfl
 | b::a=>by rw[qo,nW a];rfl
theorem qp(a:Dt):bZ a=if 0<=gt a/\(gt a=7∨(a.l.tail.length:Int)=bN (gt a+1)) then bu (gt a+1) a.l.tail (a.l.tail.map bZ) else none:=by obtain⟨b,d,c⟩:=a;rw[bZ,nW,<-List.map_tail];rfl
theorem gO{e f i:Type}{d:e->Option i}{g:e->Option f}{h:f->Option i}:∀{l:List e},(∀c∈l,d c=(g c).bind h)->aW (l.map d)=(aW (l.map g)).bind λa=>aW (a.map h)
 | [],_=>rfl
 | c::l,k=>by
  have n:=k c (List.mem_cons_self ..)
  have p:=gO (l:=l) λm o=>k m (List.mem_cons_of_mem _ o)
  simp only[bi,n]
  cases g c with
  | none=>rfl
  | some b=>
   show aW (h b::l.map d)=((aW (l.map g)).map λa=>b::a).bind λa=>aW (a.map h)
   cases j:h b with
   | none=>
    cases aW (l.map g) with
    | none=>rfl
    | some a=>show none=aW (h b::a.map h);rw[j];rfl
   | some m=>
    show (aW (l.map d)).map _=_
    rw[p]
    cases aW (l.map g) with
    | none=>rfl
    | some a=>show (aW (a.map h)).map _=aW (h b::a.map h);rw[j];rfl
theorem gx{c:Type}:∀{b:List (Option c)} {a:List c},aW b=some a->a.length=b.length
 | [],a,h=>by injection h with h;subst h;rfl
 | none::b,a,h=>by cases h
 | some e::b,a,h=>by obtain⟨f,d,rfl⟩:=Option.map_eq_some_iff.1 (show (aW b).map (λa=>e::a)=some a from h);rw[a1,a1,gx d]
theorem nD:∀a:Fin 10,UInt8.ofNat (48+a.val)≠34:=by decide
theorem oo:∀(c b:Nat),b<=c->(34:UInt8) ∉ Lib.decDigits b:=by
 intro c;induction c with
 | zero=>intro b e;(have:b=0:=by omega);subst this;rw[Lib.decDigits];exact λh=>nD ⟨0,by omega⟩ (List.mem_singleton.1 h).symm
 | succ c f=>intro b e a;rw[Lib.decDigits] at a;split at a;(.rename_i d;exact nD ⟨b,d⟩ (List.mem_singleton.1 a).symm);.rcases jD a with a|a;(.exact f _ (by omega) a);.exact nD ⟨b % 10,by omega⟩ (List.mem_singleton.1 a).symm
theorem qt{a:ByteArray}(h:eZ 34 a.data.toList=true):du a=none:=by
 unfold du;cases Lib.parseIntB 64 a.data.toList with
 | ok c=>
  show (if bs (Lib.itoa c)=a then some c else none)=none;refine aL λe=>?_
  have b:(34:UInt8)∈Lib.itoa c:=by
   rw[<-dZ (Lib.itoa c),e]
   unfold eZ Lib.hasPrefix at h
   cases d:a.data.toList with
   | nil=>rw[d] at h;cases h
   | cons f g=>
    rw[d] at h
    simp only[List.isPrefixOf,Bool.and_true,beq_iff_eq] at h
    exact List.mem_cons.2 (.inl h)
  unfold Lib.itoa at b;split at b;.rcases dm b with h|h;(.exact absurd h (by decide));.exact oo _ _ aV h
  .exact oo _ _ aV b
 | _=>rfl
theorem qI{a:List ByteArray}{d:ByteArray}(h:d ∉ a):∀c,Lib.idxFromS a d c=-1:=by
 induction a with
 | nil=>intro c;rfl
 | cons f a e=>intro c;rw[Lib.idxFromS,aL (λb:f=d=>h (by rw[b];exact List.mem_cons_self ..))];exact e (λb=>h (List.mem_cons_of_mem _ b)) _
theorem qY{a:ByteArray}{b:List Dt}(h:eZ 34 a.data.toList=true):cv (.mk false a b)=(ht a.data.toList).map λc=>.mk 2 (bs c) []:=by rw[cv,h];rfl
theorem qX{a:ByteArray}{b:List Dt}(h:eZ 34 a.data.toList=false):cv (.mk false a b)=some (.mk 1 a []):=by rw[cv,h];rfl
theorem e2{b:ByteArray}{a:List Dt}:cv (.mk true b a)=(aW (a.map cv)).map λc=>.mk 3 ⟨#[]⟩ c:=by rw[cv,qW];rfl
def hT(b:List (List UInt8)):Bool:=b.all λa=>!a.isEmpty && !eZ 34 a
theorem oc{b:List (List UInt8)}(c:hT b=true){a:ByteArray}(h:a.data.toList=[]∨eZ 34 a.data.toList=true):ch b a=-1:=by
 unfold ch Lib.idxOfS;refine qI (λd=>?_) 0;obtain⟨f,e,rfl⟩:=fB d;have:=List.all_eq_true.1 c f e;rw[dZ] at h;rcases h with h|h;.rw[h] at this;exact absurd this (by decide)
 .rw[h] at this;simp at this
theorem hD{a:List (List UInt8)}(f:hT a=true)(c:Dt):(cv c).bind (bW a)=cn a c:=by
 obtain⟨e,b,g⟩:=c;unfold cn;cases e with
 | true=>rw[e2];simp only[Dt.k,Dt.s,Bool.true_eq_false,false_and,if_false];cases aW (g.map cv)<;>rfl
 | false=>
  cases d:eZ 34 b.data.toList with
  | true=>
   have:ch a b=-1:=oc f (.inr d)
   rw[qY d]
   simp only[Dt.k,Dt.s,this,true_and]
   rw[aL (by decide)]
   cases ht b.data.toList<;>rfl
  | false=>
   rw[qX d]
   show bW a (.mk 1 b [])=_
   unfold bW
   simp only[Tt.k,Tt.s,Dt.k,Dt.s,true_and]
theorem gB(a:Dt):bO a=(cv a).bind cp:=by
 obtain⟨d,c,e⟩:=a;unfold bO;cases d with
 | true=>rw[e2];cases aW (e.map cv)<;>rfl
 | false=>
  show du c=_
  cases b:eZ 34 c.data.toList with
  | true=>rw[qt b,qY b];cases ht c.data.toList<;>rfl
  | false=>rw[qX b];rfl
theorem k9{b:ByteArray}{d:List Dt}(a:Tt)(h:cv (.mk false b d)=some a):(a.k=1/\a.s=b)∨a.k=2:=by
 cases c:eZ 34 b.data.toList with
 | true=>rw[qY c] at h;obtain⟨e,_,rfl⟩:=Option.map_eq_some_iff.1 h;exact .inr rfl
 | false=>rw[qX c] at h;injection h with h;subst h;exact .inl ⟨rfl,rfl⟩
theorem hP{g:Type}(e:Dt->Option g)(b:Tt->Option g)(c:Dt)(h:∀f∈c.l,e f=(cv f).bind b):((dd c).bind λa=>aW (a.map e))=(cv c).bind λd=>(bF d).bind λa=>a6 b a:=by
 obtain⟨j,l,a⟩:=c;cases j with
 | true=>
  rw[e2]
  show aW (a.map e)=_
  rw[gO (g:=cv) (h:=b) (show ∀f∈a,_ from h)]
  cases aW (a.map cv) with
  | none=>rfl
  | some i=>show aW (i.map b)=a6 b i;rw[cu]
 | false=>
  show none=_
  cases k:cv (.mk false l a) with
  | none=>rfl
  | some d=>
   show none=(bF d).bind _
   unfold bF
   rw[aL];rfl
   rcases k9 d k with ⟨h,_⟩|h<;>(rw[h];decide)
theorem n0(a:Dt):dM a=(cv a).bind λc=>(bF c).bind λb=>a6 cp b:=hP bO cp a λd _=>gB d
theorem rH(a:Dt):cn bG a=(cv a).bind gm:=(hD (by decide +kernel) a).symm
theorem rE(c:Dt):kg c=(cv c).bind hK:=by
 obtain⟨f,b,i⟩:=c;unfold kg;cases f with
 | true=>rw[e2];simp only[Dt.k,Dt.s,Bool.true_eq_false,false_and,if_false];cases aW (i.map cv)<;>rfl
 | false=>
  cases a:eZ 34 b.data.toList with
  | true=>
   rw[qY a,aL]
   .cases ht b.data.toList<;>rfl
   .intro h
    have h:dT b=true:=h.2
    unfold dT at h
    simp only[dW,eK] at h
    have d:=h.1.2
    unfold eZ Lib.hasPrefix at a
    have g:iw b 0=34:=by
     unfold iw
     cases e:b.data.toList with
     | nil=>rw[e] at a;cases a
     | cons j k=>
      rw[e] at a
      simp only[List.isPrefixOf,Bool.and_true,beq_iff_eq] at a
      subst a;rfl
    rw[g] at d
    exact absurd d (by decide)
  | false=>
   rw[qX a]
   show _=hK (.mk 1 b [])
   unfold hK
   simp only[Tt.k,Tt.s,Dt.k,Dt.s,true_and]
end Go.Proofs.YtabmgpillccfaaaGreatDoor
