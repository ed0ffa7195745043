import Derived.Test.YtekgpapophibcaaGreatPackQ
set_option linter.unusedSimpArgs false
set_option linter.unusedVariables false
set_option maxHeartbeats 1000000
set_option maxRecDepth 100000
namespace Go.Proofs.YtekgpapophibcaaGreat
open Go.RowKit Go.Sort
theorem zC3{W:World}{b1 b2:Nat}{v u:Value}{zs:List Int}{xs:List Val}(h1:zBC W b1 v zs)(h2:zAV W b2 u xs):∀g,u.ownBlock=some g->v.ownBlock≠some g:=by
 intro g hg hv
 rcases h1.2 with ⟨rfl,_⟩|⟨g1,_,c1,rfl,_,hh1,_⟩
 ·simp[Value.ownBlock] at hv
 rcases h2.2 with ⟨rfl,_⟩|⟨g2,_,c2,rfl,_,hh2,_⟩
 ·simp[Value.ownBlock] at hg
 simp only[Value.ownBlock,Option.some.injEq] at hg hv
 subst hg hv
 rw[hh1] at hh2
 simp at hh2
theorem zAV.grew{w w':World}{B:Nat}{u v v':Value}{xs:List Val}(h:zAV w B u xs)(hg:zAt w w' v v')(Hg:∀g,u.ownBlock=some g->v.ownBlock≠some g):zAV w' B u xs:=by
 refine World.ownsRow.kept h hg.1 ?_
 cases hu:u.ownBlock with
 | none=>exact .inl rfl
 | some g=>exact .inr fun e=>Hg g hu e.symm
theorem zAC{w:World}{base:Nat}{v:Value}{xs:List Val}(h:zAV w base v xs):∃a c,v=.slice a xs.length c/\(∀ad,a=some ad->∃b o,ad=⟨b,o,none⟩)/\(a=none->xs=[])/\zAR w a xs:=by
 obtain⟨a,c,e,hr⟩:=zBy h
 refine⟨a,c,e,?_,?_,hr⟩
 ·rcases h.2 with ⟨rfl,_⟩|⟨g,cap,cur,rfl,_⟩
  ·intro ad e2;injection e with e3;subst e3;cases e2
  ·intro ad e2;injection e with e3;subst e3;injection e2 with e2;exact⟨_,_,e2.symm⟩
 ·rintro rfl
  rcases h.2 with ⟨rfl,h0⟩|⟨g,cap,cur,rfl,_⟩
  ·exact List.eq_nil_of_length_eq_zero h0
  ·injection e with e3;cases e3
def zPJ(ns:List Nat)(k:Nat)(j:Nat):Value:=.int .u64 (if j<k then ((ns[j]?).getD 0:Nat) else 0:Int)
theorem zJf{ns:List Nat}{k b:Nat}(h:ns[k]?=some b)(j:Nat):zPJ ns (k+1) j=if j=k then .int .u64 (b:Int) else zPJ ns k j:=by
 unfold zPJ
 by_cases hj:j=k
 ·subst hj;simp[h]
 ·rw[if_neg hj]
  by_cases He:j<k
  ·rw[if_pos He,if_pos (by omega)]
  ·rw[if_neg He,if_neg (by omega)]
theorem zLl{w:World}{g t:Nat}{ns:List Nat}(h:w.rowIs g t ns.length (zPJ ns ns.length)):zAp w (some ⟨g,0,none⟩) (ns.map fun n:Nat=>Value.int .u64 (n:Int)):=by
 refine zD4 h (by simp) fun i y hi hy=>?_
 rw[List.getElem?_map] at hy
 obtain⟨m,hm,rfl⟩:=Option.map_eq_some_iff.1 hy
 simp only[zPJ,if_pos hi,hm,Option.getD_some]
theorem zQM(n:Nat):n<2 ^ bl n:=by
 unfold bl
 split
 ·omega
 ·exact Nat.lt_log2_self
theorem zFr{n k:Nat}(h:n<2 ^ k):bl n<=k:=by
 unfold bl
 split
 ·omega
 ·have:=(Nat.log2_lt (by assumption)).2 h
  omega
theorem zQf(aa:Option Addr)(ca:Nat)(W:List Val)(t:Val)(w:World)(hl:W.length<=1048576)(ha:zAR w aa W)(hr:zBe W) :
  Calls Tryz.prog 145 #[.slice aa W.length ca,t.v,.func (.func 104) #[] #[]] w fun e w'=>(∃f:Bool,e=.returned (.tuple #[.int .i64 (zF1 W t:Int),.bool f]))/\Below w.heap.size w w':=
 (zKJ aa ca W t w hl ha (hr.mono t)).mono fun e w' ⟨⟨k,f,he,hk,h1,h2⟩,hb⟩=>⟨⟨f,by rw[zKm hk h1 h2];exact he⟩,hb⟩
def zDA(W xs:List Val):List Int:=(beL (W.length:Int) 2 2++zBO W)++leB (zBG (bl (W.length-1)) (xs.map (zF1 W))) (zAO xs.length (bl (W.length-1)))
def zBW(xs W:List Val):Prop:=∃S,S.Perm xs/\zBe S/\W=zCH S
theorem zBW.len{xs W:List Val}(h:zBW xs W):W.length<=xs.length:=by
 obtain⟨S,hp,_,rfl⟩:=h
 rw[<-hp.length_eq]
 exact zQ6 S
theorem zBW.rises{xs W:List Val}(h:zBW xs W):zBe W:=by
 obtain⟨S,_,hr,rfl⟩:=h
 exact zL7 hr
theorem zBW.mem{xs W:List Val}(h:zBW xs W){x:Val}(hx:x∈xs):x∈W:=by
 obtain⟨S,hp,_,rfl⟩:=h
 exact zK0 (hp.mem_iff.2 hx)
theorem zBW.sub{xs W:List Val}(h:zBW xs W){x:Val}(hx:x∈W):x∈xs:=by
 obtain⟨S,hp,_,rfl⟩:=h
 exact hp.mem_iff.1 ((zEN S).mem hx)
theorem zEs(W:List Val)(hs:∀x∈W,x.s.size<=1000)(hl:W.length<=4096):(zBO W).length<=4128768:=by
 have:=zHe W hs
 omega
theorem zGw(b count:Nat)(l:List UInt8)(w:World)(hc:count<=4096)(h:Rd w b l)(hl:l.length<=140737488355328) :
  Calls Tryz.prog 151 #[.pointer (some ⟨b,0,none⟩),.int .i64 count] w fun e w'=>zMD w w' e b count (zBp count l):=by
 have no:∀{o},o=none->(Calls Tryz.prog 151 #[.pointer (some ⟨b,0,none⟩),.int .i64 count] w fun e w'=>e=dmg/\Gr w w' b)->Calls Tryz.prog 151 #[.pointer (some ⟨b,0,none⟩),.int .i64 count] w fun e w'=>zMD w w' e b count o:=
  fun ho QF=>QF.mono fun e w' ⟨he,hg⟩=>.inr ⟨ho,he,hg⟩
 cases hn:zBB 1 l with
 | none=>exact no (by unfold zBp;rw[hn];rfl) (zPO hc h hl hn)
 | some p=>
  obtain⟨m,r⟩:=p
  by_cases h0:m=0
  ·subst h0
   have e:zBp count l=some (List.replicate count false,r):=by unfold zBp;rw[hn];rfl
   rw[e];exact zN1 hc h hl hn
  ·by_cases h1:m=1
   ·subst h1
    cases hb:zCA count 1 r with
    | none=>exact no (by unfold zBp;rw[hn,Option.bind_some,if_neg Nat.one_ne_zero,if_pos rfl,hb];rfl) (zN3 hc h hl hn hb)
    | some q=>
     obtain⟨t,r2⟩:=q
     refine zPN hc h hl hn hb _ ?_
     show zBp count l=_
     unfold zBp;rw[hn,Option.bind_some,if_neg Nat.one_ne_zero,if_pos rfl,hb];rfl
   ·exact no (by unfold zBp;rw[hn,Option.bind_some,if_neg h0,if_neg h1]) (zN2 hc h hl hn (by omega))
def zAU:List Bool->List Val->List Val
 | [],_=>[]
 | true::nl,vs=>.null::zAU nl vs
 | false::nl,vs=>vs.headD .null::zAU nl vs.tail
def zDf(nl:List Bool)(k:Nat):Nat:=(nl.take k).count false
theorem zFQ{nl:List Bool}{k:Nat}{x:Bool}(h:nl[k]?=some x):zDf nl (k+1)=zDf nl k+(if x then 0 else 1):=by
 obtain⟨h1,rfl⟩:=zAL h
 unfold zDf
 rw[List.take_succ_eq_append_getElem h1,List.count_append]
 cases nl[k]<;>simp
theorem zQB{nl:List Bool}{k:Nat}(h:nl[k]?=some false):zDf nl k<nl.count false:=by
 have h1:=zFQ h
 have h2:zDf nl (k+1)<=nl.count false:=(List.take_sublist _ _).count_le _
 simp at h1;omega
theorem zDa:∀(nl:List Bool) (vs:List Val),(zAU nl vs).length=nl.length
 | [],_=>rfl
 | true::nl,vs=>by simp[zAU,zDa nl vs]
 | false::nl,vs=>by simp[zAU,zDa nl vs.tail]
theorem zGi:∀(nl:List Bool) (vs:List Val) (k:Nat) (x:Bool),nl[k]?=some x->(zAU nl vs)[k]?=some (if x then .null else vs.getD (zDf nl k) .null)
 | [],_,k,x,h=>by cases h
 | true::nl,vs,0,x,h=>by injection h with h;subst h;rfl
 | false::nl,vs,0,x,h=>by injection h with h;subst h;cases vs<;>rfl
 | true::nl,vs,k+1,x,h=>by
  have:=zGi nl vs k x (by simpa using h)
  simpa [zAU,zDf] using this
 | false::nl,vs,k+1,x,h=>by
  have:=zGi nl vs.tail k x (by simpa using h)
  rw[zAU,List.getElem?_cons_succ,this]
  cases x
  ·simp only[zDf,List.take_succ_cons,List.count_cons,Bool.false_eq_true,if_false,beq_self_eq_true,if_true]
   cases vs<;>simp
  ·rfl
def Z3(F:Nat->Value)(k n:Nat):Prop:=∀i,k<=i->i<n->F (i*3)=.int .i64 0/\F (i*3+1)=.int .i64 0/\F (i*3+2)=.string ⟨#[]⟩
theorem Z3.step{F:Nat->Value}{k n:Nat}(h:Z3 F k n)(a b c:Value):Z3 (fun j=>if j=k*3+2 then c else if j=k*3+1 then b else if j=k*3 then a else F j) (k+1) n:=by
 intro i h1 h2
 obtain⟨g0,g1,g2⟩:=h i (by omega) h2
 refine⟨?_,?_,?_⟩
 ·show (if i*3=k*3+2 then _ else if i*3=k*3+1 then _ else if i*3=k*3 then _ else _)=_
  rw[if_neg (by omega),if_neg (by omega),if_neg (by omega),g0]
 ·show (if i*3+1=k*3+2 then _ else if i*3+1=k*3+1 then _ else if i*3+1=k*3 then _ else _)=_
  rw[if_neg (by omega),if_neg (by omega),if_neg (by omega),g1]
 ·show (if i*3+2=k*3+2 then _ else if i*3+2=k*3+1 then _ else if i*3+2=k*3 then _ else _)=_
  rw[if_neg (by omega),if_neg (by omega),if_neg (by omega),g2]
theorem zUo(w:World)(n:Nat):∃F,(w.alloc (.cells (madeCells #[.int .i64 0,.int .i64 0,.string ⟨#[]⟩] (n*3)) 59)).rowIs w.heap.size 59 (n*3) F/\Z3 F 0 n:=by
 refine⟨fun j=>(madeCells #[.int .i64 0,.int .i64 0,.string ⟨#[]⟩] (n*3))[j]?.getD undef,?_,?_⟩
 ·have:=World.rowIs_alloc w (madeCells #[.int .i64 0,.int .i64 0,.string ⟨#[]⟩] (n*3)) 59 (fun j=>(madeCells #[.int .i64 0,.int .i64 0,.string ⟨#[]⟩] (n*3))[j]?.getD undef) (fun i hi=>by rw[Array.getElem?_eq_getElem hi];rfl)
  rw[size_madeCells] at this
  exact this
 ·intro i _ h2
  refine⟨?_,?_,?_⟩
  ·simp only[madeCells,Array.getElem?_map,Array.getElem?_range]
   rw[if_pos (by omega)]
   simp[Nat.mul_mod_left]
  ·simp only[madeCells,Array.getElem?_map,Array.getElem?_range]
   rw[if_pos (by omega)]
   simp[Nat.mul_add_mod']
  ·simp only[madeCells,Array.getElem?_map,Array.getElem?_range]
   rw[if_pos (by omega)]
   simp[Nat.mul_add_mod']
def zEh(w:World)(g n k:Nat)(ys:List Val):Prop:=∃F,w.rowIs g 59 (n*3) F/\zCu F k ys/\Z3 F k n
theorem zEh.start(w:World)(n:Nat)(ys:List Val):zEh (w.alloc (.cells (madeCells #[.int .i64 0,.int .i64 0,.string ⟨#[]⟩] (n*3)) 59)) w.heap.size n 0 ys:=by
 obtain⟨F,h1,h2⟩:=zUo w n
 exact⟨F,h1,zCu.zero _ _,h2⟩
theorem zEh.put{w:World}{g n k:Nat}{ys:List Val}{y:Val}(h:zEh w g n k ys)(hy:ys[k]?=some y) :
  zEh (((w.setCell ⟨g,k*3,none⟩ (.int .i64 y.k)).setCell ⟨g,k*3+1,none⟩ (.int .i64 y.n)).setCell ⟨g,k*3+2,none⟩ (.string y.s)) g n (k+1) ys:=by
 obtain⟨F,h1,h2,h3⟩:=h
 exact⟨_,((h1.set _ _).set _ _).set _ _,h2.step hy,h3.step _ _ _⟩
theorem zEh.skip{w:World}{g n k:Nat}{ys:List Val}(h:zEh w g n k ys)(hy:ys[k]?=some .null)(hk:k<n):zEh w g n (k+1) ys:=by
 obtain⟨F,h1,h2,h3⟩:=h
 refine⟨F,h1,fun i x hi hx=>?_,fun i a c=>h3 i (by omega) c⟩
 by_cases e:i=k
 ·subst e
  rw[hy] at hx;injection hx with hx;subst hx
  exact h3 i (Nat.le_refl _) hk
 ·exact h2 i x (by omega) hx
theorem zEh.grx{w w':World}{g n k B:Nat}{ys:List Val}(h:zEh w g n k ys)(hg:Gr w w' B)(Hg:g≠B):zEh w' g n k ys:=by
 obtain⟨F,h1,h2⟩:=h
 exact⟨F,zC8 h1 hg Hg,h2⟩
theorem zEh.cells{w:World}{g n k:Nat}{ys:List Val}(h:zEh w g n k ys)(hk:k<n):w.cell? ⟨g,k*3,none⟩=some (.int .i64 0)/\w.cell? ⟨g,k*3+1,none⟩=some (.int .i64 0)/\w.cell? ⟨g,k*3+2,none⟩=some (.string ⟨#[]⟩)/\w.frozen? ⟨g,k*3,none⟩=false/\w.frozen? ⟨g,k*3+1,none⟩=false/\w.frozen? ⟨g,k*3+2,none⟩=false:=by
 obtain⟨F,h1,h2,h3⟩:=h
 obtain⟨a,b,c⟩:=h3 k (Nat.le_refl _) hk
 have:=zQl (k:=k) h1 (by omega)
 rw[a,b,c] at this
 exact this
theorem zEh.own{w:World}{g n B:Nat}{ys:List Val}(h:zEh w g n n ys)(hl:ys.length=n)(hB:B<=g)(hn:n<=100000):zAV w B (.slice (some ⟨g,0,none⟩) n n) ys:=by
 obtain⟨F,h1,h2,h3⟩:=h
 exact zHi h1 hl h2 hB (by unfold maxLen;omega)
theorem zAR.lo{w:World}{a:Option Addr}{xs:List Val}{k:Nat}{x:Val}(h:zAR w a xs)(hx:xs[k]?=some x):∃b off,a=some ⟨b,off,none⟩/\w.cell? ⟨b,off+k*3,none⟩=some (.int .i64 x.k)/\w.cell? ⟨b,off+k*3+1,none⟩=some (.int .i64 x.n)/\w.cell? ⟨b,off+k*3+2,none⟩=some (.string x.s):=by
 rcases h with e|⟨b,off,rfl,hc⟩
 ·rw[e] at hx;cases hx
 ·exact⟨b,off,rfl,hc k x hx⟩
theorem zMX(g n:Nat)(nl:List Bool)(a:Option Addr)(c:Nat)(vs:List Val)(w:World)(hn:n<=4096)(Yf:nl.length=n)(hg:w.rowIs g 4 n (fun j=>.bool (nl.getD j false)))(ha:zAR w a vs)(hcnt:nl.count false=vs.length) :
  Calls Tryz.prog 153 #[.slice (some ⟨g,0,none⟩) n n,.slice a vs.length c] w fun e w'=>∃v,e=.returned v/\zAV w' w.heap.size v (zAU nl vs)/\Below w.heap.size w w':=by
 obtain⟨i4,Qd,z40,z41,z42⟩:=info_parts Tryz.info59
 have HA:=zA3 ha
 have HG:=zA3 hg
 have hgl:=hg.lt
 have Yu:vs.length<=n:=by rw[<-hcnt,<-Yf];exact List.count_le_length
 clear ha hg
 go_enter Tryz.func153,Tryz.ntmps153
 go_wp2_with (first
  | (at_make;refine zB5 _ rfl (.tmp 10) (.tmp 10) 37 rfl 59 i4 _ Tryz.underlying37 Qd z40 3 z41 .i64 .i64 n rfl rfl (by rw[z42];omega) (by omega) ?_)
  | fail)
 go_loopw[6,14] (fun s i wr=>∃k:Nat,k<=n/\i=.int .i64 (k:Int)/\s=.int .i64 (zDf nl k:Nat)/\zEh wr w.heap.size n k (zAU nl vs)/\Below w.heap.size w wr) (fun _ i _=>n-(intOf i).toNat)
 case atStart=>exact⟨0,Nat.zero_le _,rfl,rfl,zEh.start _ _ _,zA1 (Below.refl _ _) _⟩
 case round=>
  obtain⟨k,hk,rfl,rfl,hf,hb⟩:=hrel
  by_cases He:k<n
  ·have h9:(k:Int)<(n:Int):=by omega
   obtain⟨x,hx⟩:∃x,nl[k]?=some x:=⟨_,zAf (by omega)⟩
   have cg:=(zA5 (zA0 HG) hb).cell He
   have e1:nl.getD k false=x:=by rw[List.getD_eq_getElem?_getD,hx];rfl
   rw[e1] at cg
   have Jj:=zGi nl vs k x hx
   have hcn:=zFQ hx
   cases x
   ·have YN:=zQB hx
    rw[hcnt] at YN
    obtain⟨y,hy⟩:∃y,vs[zDf nl k]?=some y:=⟨_,zAf YN⟩
    obtain⟨vb,vo,rfl,c0,c1,c2⟩:=((zA0 HA).later hb).lo hy
    have e2:vs.getD (zDf nl k) .null=y:=by rw[List.getD_eq_getElem?_getD,hy];rfl
    rw[e2] at Jj
    obtain⟨p0,p1,p2,q0,q1,q2⟩:=hf.cells He
    have HF:=zA3 (hf.put Jj)
    have qQ:Hid (zDf nl (k+1)=zDf nl k+1):=hcn
    have FR:(zDf nl k:Int)<(vs.length:Int):=by omega
    have HB:=zA3 hb
    generalize zDf nl k=m at *
    clear hf hb Jj hcn e1 e2 hx hy
    go_wp2
    go_roundw
    case rel=>exact⟨k+1,by omega,by go_num,by rw[zA0 qQ];go_num,zA0 HF,(((zA0 HB).setCell (p:=⟨w.heap.size,k*3,none⟩) (Nat.le_refl _) _).setCell (p:=⟨w.heap.size,k*3+1,none⟩) (Nat.le_refl _) _).setCell (p:=⟨w.heap.size,k*3+2,none⟩) (Nat.le_refl _) _⟩
    case measure=>simp[intOf];omega
   ·have HF:=zA3 (hf.skip Jj He)
    have qQ:Hid (zDf nl (k+1)=zDf nl k):=hcn
    have HB:=zA3 hb
    generalize zDf nl k=m at *
    clear hf hb Jj hcn e1 hx
    go_wp2
    go_roundw
    case rel=>exact⟨k+1,by omega,by go_num,by rw[zA0 qQ],zA0 HF,zA0 HB⟩
    case measure=>simp[intOf];omega
  ·have h9:¬(k:Int)<(n:Int):=by omega
   have ek:k=n:=by omega
   subst ek
   have HE:Hid (zAV wr w.heap.size (.slice (some ⟨w.heap.size,0,none⟩) k k) (zAU nl vs)/\Below w.heap.size w wr):=⟨hf.own (by rw[zDa,Yf]) (Nat.le_refl _) (by omega),hb⟩
   clear hf hb
   generalize zDf nl k=m
   go_wp2
   go_ret
   exact⟨_,rfl,zA0 HE⟩
end Go.Proofs.YtekgpapophibcaaGreat
