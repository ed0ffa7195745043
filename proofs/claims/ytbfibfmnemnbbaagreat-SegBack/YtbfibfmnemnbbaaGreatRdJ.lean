import Derived.Test.YtbfibfmnemnbbaaGreatRdF
import Derived.Test.YtbfibfmnemnbbaaGreatPackVa
set_option linter.unusedSimpArgs false
set_option linter.unusedVariables false
set_option maxHeartbeats 1000000
set_option maxRecDepth 100000
namespace Go.Proofs.YtbfibfmnemnbbaaGreat
open Go.RowKit Go.Sort
theorem nulls_any(b count:Nat)(l:List UInt8)(w:World)(hc:count<=4096)(h:Rd w b l)(hl:l.length<=140737488355328) :
  Calls Tryz.prog 151 #[.pointer (some ⟨b,0,none⟩),.int .i64 count] w fun e w'=>NullsR w w' e b count (nullsD count l):=by
 have no:∀{o},o=none->(Calls Tryz.prog 151 #[.pointer (some ⟨b,0,none⟩),.int .i64 count] w fun e w'=>e=dmg/\Gr w w' b)->Calls Tryz.prog 151 #[.pointer (some ⟨b,0,none⟩),.int .i64 count] w fun e w'=>NullsR w w' e b count o:=
  fun ho hcall=>hcall.mono fun e w' ⟨he,hg⟩=>.inr ⟨ho,he,hg⟩
 cases hn:numD 1 l with
 | none=>exact no (by unfold nullsD;rw[hn];rfl) (nulls_num hc h hl hn)
 | some p=>
  obtain⟨m,r⟩:=p
  by_cases h0:m=0
  ·subst h0
   have e:nullsD count l=some (List.replicate count false,r):=by unfold nullsD;rw[hn];rfl
   rw[e];exact nulls_zero hc h hl hn
  ·by_cases h1:m=1
   ·subst h1
    cases hb:bitsD count 1 r with
    | none=>exact no (by unfold nullsD;rw[hn,Option.bind_some,if_neg Nat.one_ne_zero,if_pos rfl,hb];rfl) (nulls_bits hc h hl hn hb)
    | some q=>
     obtain⟨t,r2⟩:=q
     refine nulls_one hc h hl hn hb _ ?_
     show nullsD count l=_
     unfold nullsD;rw[hn,Option.bind_some,if_neg Nat.one_ne_zero,if_pos rfl,hb];rfl
   ·exact no (by unfold nullsD;rw[hn,Option.bind_some,if_neg h0,if_neg h1]) (nulls_mark hc h hl hn (by omega))
def spreadL:List Bool->List Val->List Val
 | [],_=>[]
 | true::nl,vs=>.null::spreadL nl vs
 | false::nl,vs=>vs.headD .null::spreadL nl vs.tail
def cntF(nl:List Bool)(k:Nat):Nat:=(nl.take k).count false
theorem cntF_next{nl:List Bool}{k:Nat}{x:Bool}(h:nl[k]?=some x):cntF nl (k+1)=cntF nl k+(if x then 0 else 1):=by
 obtain⟨h1,rfl⟩:=List.getElem?_eq_some_iff.1 h
 unfold cntF
 rw[List.take_succ_eq_append_getElem h1,List.count_append]
 cases nl[k]<;>simp
theorem cntF_lt{nl:List Bool}{k:Nat}(h:nl[k]?=some false):cntF nl k<nl.count false:=by
 have h1:=cntF_next h
 have h2:cntF nl (k+1)<=nl.count false:=(List.take_sublist _ _).count_le _
 simp at h1;omega
theorem spread_len:∀(nl:List Bool) (vs:List Val),(spreadL nl vs).length=nl.length
 | [],_=>rfl
 | true::nl,vs=>by simp[spreadL,spread_len nl vs]
 | false::nl,vs=>by simp[spreadL,spread_len nl vs.tail]
theorem spread_at:∀(nl:List Bool) (vs:List Val) (k:Nat) (x:Bool),nl[k]?=some x->(spreadL nl vs)[k]?=some (if x then .null else vs.getD (cntF nl k) .null)
 | [],_,k,x,h=>by cases h
 | true::nl,vs,0,x,h=>by injection h with h;subst h;rfl
 | false::nl,vs,0,x,h=>by injection h with h;subst h;cases vs<;>rfl
 | true::nl,vs,k+1,x,h=>by
  have:=spread_at nl vs k x (by simpa using h)
  simpa [spreadL,cntF] using this
 | false::nl,vs,k+1,x,h=>by
  have:=spread_at nl vs.tail k x (by simpa using h)
  rw[spreadL,List.getElem?_cons_succ,this]
  cases x
  ·simp only[cntF,List.take_succ_cons,List.count_cons,Bool.false_eq_true,if_false,beq_self_eq_true,if_true]
   cases vs<;>simp
  ·rfl
def Z3(F:Nat->Value)(k n:Nat):Prop:=∀i,k<=i->i<n->F (i*3)=.int .i64 0/\F (i*3+1)=.int .i64 0/\F (i*3+2)=.string ⟨#[]⟩
theorem Z3.step{F:Nat->Value}{k n:Nat}(h:Z3 F k n)(a b c:Value):Z3 (fun j=>if j=k*3+2 then c else if j=k*3+1 then b else if j=k*3 then a else F j) (k+1) n:=by
 intro i h1 h2
 obtain⟨g0,g1,g2⟩:=h i (by omega) h2
 refine⟨?_,?_,?_⟩
 ·show (if i*3=k*3+2 then _ else if i*3=k*3+1 then _ else if i*3=k*3 then _ else _)=_
  rw[if_neg (by omega),if_neg (by omega),if_neg (by omega),g0]
 ·show (if i*3+1=k*3+2 then _ else if i*3+1=k*3+1 then _ else if i*3+1=k*3 then _ else _)=_
  rw[if_neg (by omega),if_neg (by omega),if_neg (by omega),g1]
 ·show (if i*3+2=k*3+2 then _ else if i*3+2=k*3+1 then _ else if i*3+2=k*3 then _ else _)=_
  rw[if_neg (by omega),if_neg (by omega),if_neg (by omega),g2]
theorem made3(w:World)(n:Nat):∃F,(w.alloc (.cells (madeCells #[.int .i64 0,.int .i64 0,.string ⟨#[]⟩] (n*3)) 25)).rowIs w.heap.size 25 (n*3) F/\Z3 F 0 n:=by
 refine⟨fun j=>(madeCells #[.int .i64 0,.int .i64 0,.string ⟨#[]⟩] (n*3))[j]?.getD undef,?_,?_⟩
 ·have:=World.rowIs_alloc w (madeCells #[.int .i64 0,.int .i64 0,.string ⟨#[]⟩] (n*3)) 25 (fun j=>(madeCells #[.int .i64 0,.int .i64 0,.string ⟨#[]⟩] (n*3))[j]?.getD undef) (fun i hi=>by rw[Array.getElem?_eq_getElem hi];rfl)
  rw[size_madeCells] at this
  exact this
 ·intro i _ h2
  refine⟨?_,?_,?_⟩
  ·simp only[madeCells,Array.getElem?_map,Array.getElem?_range]
   rw[if_pos (by omega)]
   simp[Nat.mul_mod_left]
  ·simp only[madeCells,Array.getElem?_map,Array.getElem?_range]
   rw[if_pos (by omega)]
   simp[Nat.mul_add_mod']
  ·simp only[madeCells,Array.getElem?_map,Array.getElem?_range]
   rw[if_pos (by omega)]
   simp[Nat.mul_add_mod']
def Fill(w:World)(g n k:Nat)(ys:List Val):Prop:=∃F,w.rowIs g 25 (n*3) F/\Holds3 F k ys/\Z3 F k n
theorem Fill.start(w:World)(n:Nat)(ys:List Val):Fill (w.alloc (.cells (madeCells #[.int .i64 0,.int .i64 0,.string ⟨#[]⟩] (n*3)) 25)) w.heap.size n 0 ys:=by
 obtain⟨F,h1,h2⟩:=made3 w n
 exact⟨F,h1,Holds3.zero _ _,h2⟩
theorem Fill.put{w:World}{g n k:Nat}{ys:List Val}{y:Val}(h:Fill w g n k ys)(hy:ys[k]?=some y) :
  Fill (((w.setCell ⟨g,k*3,none⟩ (.int .i64 y.k)).setCell ⟨g,k*3+1,none⟩ (.int .i64 y.n)).setCell ⟨g,k*3+2,none⟩ (.string y.s)) g n (k+1) ys:=by
 obtain⟨F,h1,h2,h3⟩:=h
 exact⟨_,((h1.set _ _).set _ _).set _ _,h2.step hy,h3.step _ _ _⟩
theorem Fill.skip{w:World}{g n k:Nat}{ys:List Val}(h:Fill w g n k ys)(hy:ys[k]?=some .null)(hk:k<n):Fill w g n (k+1) ys:=by
 obtain⟨F,h1,h2,h3⟩:=h
 refine⟨F,h1,fun i x hi hx=>?_,fun i a c=>h3 i (by omega) c⟩
 by_cases e:i=k
 ·subst e
  rw[hy] at hx;injection hx with hx;subst hx
  exact h3 i (Nat.le_refl _) hk
 ·exact h2 i x (by omega) hx
theorem Fill.grx{w w':World}{g n k B:Nat}{ys:List Val}(h:Fill w g n k ys)(hg:Gr w w' B)(hne:g≠B):Fill w' g n k ys:=by
 obtain⟨F,h1,h2⟩:=h
 exact⟨F,row_grx h1 hg hne,h2⟩
theorem Fill.cells{w:World}{g n k:Nat}{ys:List Val}(h:Fill w g n k ys)(hk:k<n):w.cell? ⟨g,k*3,none⟩=some (.int .i64 0)/\w.cell? ⟨g,k*3+1,none⟩=some (.int .i64 0)/\w.cell? ⟨g,k*3+2,none⟩=some (.string ⟨#[]⟩)/\w.frozen? ⟨g,k*3,none⟩=false/\w.frozen? ⟨g,k*3+1,none⟩=false/\w.frozen? ⟨g,k*3+2,none⟩=false:=by
 obtain⟨F,h1,h2,h3⟩:=h
 obtain⟨a,b,c⟩:=h3 k (Nat.le_refl _) hk
 have:=three (k:=k) h1 (by omega)
 rw[a,b,c] at this
 exact this
theorem Fill.own{w:World}{g n B:Nat}{ys:List Val}(h:Fill w g n n ys)(hl:ys.length=n)(hB:B<=g)(hn:n<=100000):OwnV w B (.slice (some ⟨g,0,none⟩) n n) ys:=by
 obtain⟨F,h1,h2,h3⟩:=h
 exact own_of_row h1 hl h2 hB (by unfold maxLen;omega)
theorem RowAt.lo{w:World}{a:Option Addr}{xs:List Val}{k:Nat}{x:Val}(h:RowAt w a xs)(hx:xs[k]?=some x):∃b off,a=some ⟨b,off,none⟩/\w.cell? ⟨b,off+k*3,none⟩=some (.int .i64 x.k)/\w.cell? ⟨b,off+k*3+1,none⟩=some (.int .i64 x.n)/\w.cell? ⟨b,off+k*3+2,none⟩=some (.string x.s):=by
 rcases h with e|⟨b,off,rfl,hc⟩
 ·rw[e] at hx;cases hx
 ·exact⟨b,off,rfl,hc k x hx⟩
theorem spread_any(g n:Nat)(nl:List Bool)(a:Option Addr)(c:Nat)(vs:List Val)(w:World)(hn:n<=4096)(hnl:nl.length=n)(hg:w.rowIs g 4 n (fun j=>.bool (nl.getD j false)))(ha:RowAt w a vs)(hcnt:nl.count false=vs.length) :
  Calls Tryz.prog 153 #[.slice (some ⟨g,0,none⟩) n n,.slice a vs.length c] w fun e w'=>∃v,e=.returned v/\OwnV w' w.heap.size v (spreadL nl vs)/\Below w.heap.size w w':=by
 obtain⟨i4,hi4,z40,z41,z42⟩:=info_parts Tryz.info25
 have HA:=hide ha
 have HG:=hide hg
 have hgl:=hg.lt
 have hvl:vs.length<=n:=by rw[<-hcnt,<-hnl];exact List.count_le_length
 clear ha hg
 go_enter Tryz.func153,Tryz.ntmps153
 go_wp2_with (first
  | (at_make;refine wpList_make_rows _ rfl (.tmp 10) (.tmp 10) 36 rfl 25 i4 _ Tryz.underlying36 hi4 z40 3 z41 .i64 .i64 n rfl rfl (by rw[z42];omega) (by omega) ?_)
  | fail)
 go_loopw[6,14] (fun s i wr=>∃k:Nat,k<=n/\i=.int .i64 (k:Int)/\s=.int .i64 (cntF nl k:Nat)/\Fill wr w.heap.size n k (spreadL nl vs)/\Below w.heap.size w wr) (fun _ i _=>n-(intOf i).toNat)
 case atStart=>exact⟨0,Nat.zero_le _,rfl,rfl,Fill.start _ _ _,below_alloc (Below.refl _ _) _⟩
 case round=>
  obtain⟨k,hk,rfl,rfl,hf,hb⟩:=hrel
  by_cases hlt:k<n
  ·have h9:(k:Int)<(n:Int):=by omega
   obtain⟨x,hx⟩:∃x,nl[k]?=some x:=⟨_,List.getElem?_eq_getElem (by omega)⟩
   have cg:=(rowIs_later (unhide HG) hb).cell hlt
   have e1:nl.getD k false=x:=by rw[List.getD_eq_getElem?_getD,hx];rfl
   rw[e1] at cg
   have hsp:=spread_at nl vs k x hx
   have hcn:=cntF_next hx
   cases x
   ·have hcl:=cntF_lt hx
    rw[hcnt] at hcl
    obtain⟨y,hy⟩:∃y,vs[cntF nl k]?=some y:=⟨_,List.getElem?_eq_getElem hcl⟩
    obtain⟨vb,vo,rfl,c0,c1,c2⟩:=((unhide HA).later hb).lo hy
    have e2:vs.getD (cntF nl k) .null=y:=by rw[List.getD_eq_getElem?_getD,hy];rfl
    rw[e2] at hsp
    obtain⟨p0,p1,p2,q0,q1,q2⟩:=hf.cells hlt
    have HF:=hide (hf.put hsp)
    have HCN:Hid (cntF nl (k+1)=cntF nl k+1):=hcn
    have hcl2:(cntF nl k:Int)<(vs.length:Int):=by omega
    have HB:=hide hb
    generalize cntF nl k=m at *
    clear hf hb hsp hcn e1 e2 hx hy
    go_wp2
    go_roundw
    case rel=>exact⟨k+1,by omega,by go_num,by rw[unhide HCN];go_num,unhide HF,(((unhide HB).setCell (p:=⟨w.heap.size,k*3,none⟩) (Nat.le_refl _) _).setCell (p:=⟨w.heap.size,k*3+1,none⟩) (Nat.le_refl _) _).setCell (p:=⟨w.heap.size,k*3+2,none⟩) (Nat.le_refl _) _⟩
    case measure=>simp[intOf];omega
   ·have HF:=hide (hf.skip hsp hlt)
    have HCN:Hid (cntF nl (k+1)=cntF nl k):=hcn
    have HB:=hide hb
    generalize cntF nl k=m at *
    clear hf hb hsp hcn e1 hx
    go_wp2
    go_roundw
    case rel=>exact⟨k+1,by omega,by go_num,by rw[unhide HCN],unhide HF,unhide HB⟩
    case measure=>simp[intOf];omega
  ·have h9:¬(k:Int)<(n:Int):=by omega
   have ek:k=n:=by omega
   subst ek
   have HE:Hid (OwnV wr w.heap.size (.slice (some ⟨w.heap.size,0,none⟩) k k) (spreadL nl vs)/\Below w.heap.size w wr):=⟨hf.own (by rw[spread_len,hnl]) (Nat.le_refl _) (by omega),hb⟩
   clear hf hb
   generalize cntF nl k=m
   go_wp2
   go_ret
   exact⟨_,rfl,unhide HE⟩
end Go.Proofs.YtbfibfmnemnbbaaGreat
set_option linter.unusedSimpArgs false
set_option linter.unusedVariables false
set_option maxHeartbeats 800000
set_option maxRecDepth 100000
namespace Go.Proofs.YtbfibfmnemnbbaaGreat
open Go.RowKit Go.Sort
def offsetsD(count:Nat)(l:List UInt8):Option (List Val×List UInt8):=
 (numD 8 l).bind fun p=>(numD 1 p.2).bind fun q=>if q.1<=64 then
  (bitsD count q.1 q.2).bind fun r=>if (∀k∈numsOf r.1 q.1 count,sint p.1<=sint (p.1+k))/\q.1=bl ((numsOf r.1 q.1 count).foldl max 0)/\(if count=0 then p.1=0 else 0∈numsOf r.1 q.1 count) then some ((numsOf r.1 q.1 count).map fun k=>.num (sint (p.1+k)),r.2) else none
 else none
theorem wrap64_lo(n:Int):-9223372036854775808<=wrap64 n:=by
 unfold wrap64;omega
theorem wrap64_hi(n:Int):wrap64 n<=9223372036854775807:=by
 unfold wrap64;omega
theorem u64_wrap64(M:Nat)(h:M<18446744073709551616):IntKind.u64.wrap (wrap64 (M:Int))=(M:Int):=by
 rw[IntKind.wrap_u64];unfold wrap64;omega
theorem nums_len(t:List UInt8)(d count:Nat):(numsOf t d count).length=count:=by simp[numsOf]
theorem nums_at{t:List UInt8}{d count k:Nat}(h:k<count):(numsOf t d count)[k]?=some (numAt (leV t) d k):=by simp[numsOf,h]
theorem numAt_lt(T d i:Nat)(hd:d<=64):numAt T d i<18446744073709551616:=by
 have h1:numAt T d i<2 ^ d:=Nat.mod_lt _ (Nat.two_pow_pos _)
 have h2:2 ^ d<=2 ^ 64:=Nat.pow_le_pow_right (by decide) hd
 have h3:(2:Nat) ^ 64=18446744073709551616:=by decide
 omega
def minK(ks:List Nat)(k:Nat):Nat:=(ks.take k).foldl min 18446744073709551615
def maxK(ks:List Nat)(k:Nat):Nat:=(ks.take k).foldl max 0
theorem minK_next{ks:List Nat}{k x:Nat}(h:ks[k]?=some x):minK ks (k+1)=min (minK ks k) x:=by
 obtain⟨h1,rfl⟩:=List.getElem?_eq_some_iff.1 h
 unfold minK
 rw[List.take_succ_eq_append_getElem h1,List.foldl_append];rfl
theorem maxK_next{ks:List Nat}{k x:Nat}(h:ks[k]?=some x):maxK ks (k+1)=max (maxK ks k) x:=by
 obtain⟨h1,rfl⟩:=List.getElem?_eq_some_iff.1 h
 unfold maxK
 rw[List.take_succ_eq_append_getElem h1,List.foldl_append];rfl
theorem minK_zero(ks:List Nat):∀k,minK ks k=0 ↔ 0∈ks.take k:=by
 intro k
 unfold minK
 suffices h:∀(l:List Nat) (m:Nat),l.foldl min m=0 ↔ m=0∨0∈l by
  rw[h];simp
 intro l
 induction l with
 | nil=>intro m;simp
 | cons a l ih=>
  intro m
  have e:min m a=0 ↔ m=0∨a=0:=by omega
  rw[List.foldl_cons,ih,e,List.mem_cons,or_assoc,eq_comm (a:=a)]
theorem minK_le(ks:List Nat):∀k,minK ks k<=18446744073709551615:=by
 intro k
 unfold minK
 suffices h:∀(l:List Nat) (m:Nat),l.foldl min m<=m from h _ _
 intro l
 induction l with
 | nil=>intro m;simp
 | cons a l ih=>intro m;rw[List.foldl_cons];have:=ih (min m a);omega
theorem maxK_lt{ks:List Nat}(h:∀x∈ks,x<18446744073709551616):∀k,maxK ks k<18446744073709551616:=by
 intro k
 unfold maxK
 suffices g:∀(l:List Nat) (m:Nat),m<18446744073709551616->(∀x∈l,x<18446744073709551616)->l.foldl max m<18446744073709551616 from g _ _ (by decide) (fun x hx=>h x (List.mem_of_mem_take hx))
 intro l
 induction l with
 | nil=>intro m hm _;simpa using hm
 | cons a l ih=>
  intro m hm ha
  rw[List.foldl_cons]
  have:=ha a (by simp)
  exact ih (max m a) (by omega) (fun x hx=>ha x (by simp[hx]))
theorem cast_min{a b c:Nat}(h:c=min a b):min (a:Int) (b:Int)=(c:Int):=by subst h;omega
theorem cast_max{a b c:Nat}(h:c=max a b):max (a:Int) (b:Int)=(c:Int):=by subst h;omega
theorem Gr.put3{w wr:World}{b g:Nat}(h:Gr w wr b)(hg:w.heap.size<=g)(i j k:Nat)(u v x:Value):Gr w (((wr.setCell ⟨g,i,none⟩ u).setCell ⟨g,j,none⟩ v).setCell ⟨g,k,none⟩ x) b:=
 ((h.fresh (grown_set _ _ _ _) hg).fresh (grown_set _ _ _ _) hg).fresh (grown_set _ _ _ _) hg
theorem Rd.put3{w:World}{b g:Nat}{l:List UInt8}(h:Rd w b l)(hne:b≠g)(i j k:Nat)(u v x:Value):Rd (((w.setCell ⟨g,i,none⟩ u).setCell ⟨g,j,none⟩ v).setCell ⟨g,k,none⟩ x) b l:=
 World.rowIs.setOther (World.rowIs.setOther (World.rowIs.setOther h hne _) hne _) hne _
theorem Bits.put3{w:World}{A B C d P g:Nat}{t:List UInt8}(h:Bits w A B C d P t)(h1:A≠g)(h2:B≠g)(h3:C≠g)(i j k:Nat)(u v x:Value):Bits (((w.setCell ⟨g,i,none⟩ u).setCell ⟨g,j,none⟩ v).setCell ⟨g,k,none⟩ x) A B C d P t:=
 ((h.set _ h1 h2 h3).set _ h1 h2 h3).set _ h1 h2 h3
theorem Bits.lt{w:World}{A B C d P:Nat}{t:List UInt8}(h:Bits w A B C d P t):A<w.heap.size/\B<w.heap.size/\C<w.heap.size:=⟨World.rowIs.lt h.a,World.rowIs.lt h.b,World.rowIs.lt h.c⟩
theorem offs_loop{b count M d:Nat}{l l1 l2 t r:List UInt8}{w:World}(hc:count<=4096)(h:Rd w b l)(hl:l.length<=140737488355328)(hM:numD 8 l=some (M,l1))(hd:numD 1 l1=some (d,l2))(hd64:d<=64)(hb:bitsD count d l2=some (t,r))
  (O:Option (List Val×List UInt8)) (HO:Hid (O=if (∀k∈numsOf t d count,sint M<=sint (M+k))/\d=bl ((numsOf t d count).foldl max 0)/\(if count=0 then M=0 else 0∈numsOf t d count) then some ((numsOf t d count).map fun k=>.num (sint (M+k)),r) else none)) :
  Calls Tryz.prog 168 #[.pointer (some ⟨b,0,none⟩),.int .i64 count] w fun e w'=>PlainsR w w' e b O:=by
 obtain⟨i4,hi4,z40,z41,z42⟩:=info_parts Tryz.info25
 have HM:=hide (numd_yes h hl hM (by decide))
 have hl1:=numD_le hM
 have hl2:=numD_le hd
 have HD:=hide (fun W (hW:Rd W b l1)=>numd_yes hW (by omega) hd (by decide))
 have HB:=hide (fun W (hW:Rd W b l2)=>bitsd_yes hc hd64 hW (by omega) hb)
 have htl:=(bitsD_some hb).1
 have hbw:=h.ne
 have HTL:=hide htl
 have hM64:M<18446744073709551616:=by
  obtain⟨h1,rfl,rfl⟩:=numD_some hM
  have:=beV_lt (l.take 8)
  have h2:(l.take 8).length=8:=by rw[List.length_take];omega
  rw[h2] at this
  have h3:(256:Nat) ^ 8=18446744073709551616:=by decide
  omega
 obtain⟨L,hL,hL1,hL2⟩:∃L,wrap64 (M:Int)=L/\-9223372036854775808<=L/\L<=9223372036854775807:=⟨_,rfl,wrap64_lo _,wrap64_hi _⟩
 have eU:IntKind.u64.wrap L=(M:Int):=by rw[<-hL];exact u64_wrap64 M hM64
 have hdi:(d:Int)<=64:=by omega
 have HLM:Hid (sint M=L):=hL
 clear h htl
 go_enter Tryz.func168,Tryz.ntmps168
 go_wp2_with (first
  | (at_make;refine wpList_make_rows _ rfl (.tmp 27) (.tmp 27) 36 rfl 25 i4 _ Tryz.underlying36 hi4 z40 3 z41 .i64 .i64 count rfl rfl (by rw[z42];omega) (by omega) ?_)
  | (go_at_call 149;first | (refine(unhide HD _ hr1).mono ?_;rintro e w2 ⟨rfl,hr2,hg2⟩) | (refine(unhide HM).mono ?_;rintro e w1 ⟨rfl,hr1,hg1⟩))
  | (go_at_call 150;refine(ensure_yes _).mono ?_;rintro e w3 ⟨rfl,rfl⟩)
  | (go_at_call 164;refine(unhide HB _ hr2).mono ?_;rintro e w4 ⟨A,B,C,rfl,hb4,hA,hB,hC,hr4,hg4⟩))
 have hz2:=hg1.size
 have hz3:=hg2.size
 have hz4:=hg4.size
 have hG4:=(hg1.trans hg2).trans hg4
 obtain⟨hA4,hB4,hC4⟩:=hb4.lt
 clear hg1 hg2 hg4 hr1 hr2
 generalize hks:numsOf t d count=ks at HO
 have HKL:Hid (ks.length=count):=by rw[<-hks];exact nums_len _ _ _
 have HKA:Hid (∀k,k<count->ks[k]?=some (numAt (leV t) d k)):=fun k hk=>by rw[<-hks];exact nums_at hk
 have HKB:Hid (∀x∈ks,x<18446744073709551616):=fun x hx=>by
  rw[<-hks] at hx
  obtain⟨i,_,rfl⟩:=List.mem_map.1 hx
  exact numAt_lt _ _ _ hd64
 clear hks
 go_loopw[9,10,31] (fun s9 s10 i wr=>∃k:Nat,k<=count/\i=.int .i64 (k:Int)/\s9=.int .u64 (minK ks k:Nat)/\s10=.int .u64 (maxK ks k:Nat)/\Hid (∀x∈ks.take k,sint M<=sint (M+x))/\Fill wr w4.heap.size count k (ks.map fun k=>.num (sint (M+k)))/\Bits wr A B C d (d*k) t/\Rd wr b r/\Gr w wr b) (fun _ _ i _=>count-(intOf i).toNat)
 case atStart=>exact⟨0,Nat.zero_le _,rfl,rfl,rfl,fun x hx=>by simp at hx,Fill.start _ _ _,hb4.alloc _,hr4.alloc _,hG4.trans (Gr.alloc _ _ _)⟩
 case round=>
  obtain⟨k,hk,rfl,rfl,rfl,HS,hf,hbi,hrr,hgr⟩:=hrel
  have hmn:=minK_le ks k
  have hmx:=maxK_lt (unhide HKB) k
  by_cases hlt:k<count
  ·have h9:(k:Int)<(count:Int):=by omega
   have hat:=unhide HKA k hlt
   have hx64:=unhide HKB _ (List.mem_of_getElem? hat)
   have hmn2:=minK_next hat
   have hmx2:=maxK_next hat
   have HC:=hide (next_any hbi hd64 hlt hc (unhide HTL))
   have HT1:Hid (ks.take (k+1)=ks.take k++[numAt (leV t) d k]):=by
    obtain⟨g1,g2⟩:=List.getElem?_eq_some_iff.1 hat
    show _=_
    rw[List.take_succ_eq_append_getElem g1,g2]
   have HY:Hid ((ks.map fun k=>Val.num (sint (M+k)))[k]?=some (.num (sint (M+numAt (leV t) d k)))):=by
    show _=_
    rw[List.getElem?_map,hat];rfl
   have HMEM:=hide (List.mem_of_getElem? hat)
   have HKEEP:Hid (∀w5,Gr wr w5 B->Fill w5 w4.heap.size count k (ks.map fun k=>.num (sint (M+k)))/\Rd w5 b r/\Gr w w5 b):=fun w5 hg5=>
    ⟨hf.grx hg5 (by omega),hrr.grx hg5 (by omega),hgr.fresh hg5 (by omega)⟩
   generalize numAt (leV t) d k=x at hat hx64 hmn2 hmx2 HC HT1 HY HMEM
   obtain⟨V,hV,hV1,hV2⟩:∃V,wrap64 (IntKind.u64.wrap ((M:Int)+(x:Int)))=V/\-9223372036854775808<=V/\V<=9223372036854775807:=⟨_,rfl,wrap64_lo _,wrap64_hi _⟩
   have HV:Hid (sint (M+x)=V):=by
    show _=_
    rw[<-hV,IntKind.wrap_u64];unfold sint wrap64;omega
   rw[unhide HV] at HY
   have HPUT:Hid (∀W,Fill W w4.heap.size count k (ks.map fun k=>.num (sint (M+k)))->Fill (((W.setCell ⟨w4.heap.size,k*3,none⟩ (.int .i64 1)).setCell ⟨w4.heap.size,k*3+1,none⟩ (.int .i64 V)).setCell ⟨w4.heap.size,k*3+2,none⟩ (.string ⟨#[]⟩)) w4.heap.size count (k+1) (ks.map fun k=>.num (sint (M+k)))):=fun W h=>h.put (y:=Val.num V) (unhide HY)
   generalize minK ks k=mn at *
   generalize maxK ks k=mx at *
   have HN1:=hide hmn2
   have HN2:=hide hmx2
   clear hat hf hbi hrr hgr hmn2 hmx2
   by_cases hge:L<=V
   ·go_wp2_with (first
     | (go_at_call 178;refine(unhide HC).mono ?_;rintro e w5 ⟨rfl,hb5,hg5⟩;obtain⟨hf5,hr5,hG5⟩:=unhide HKEEP w5 hg5;obtain⟨p0,p1,p2,q0,q1,q2⟩:=hf5.cells hlt;replace hf5:=hide hf5;replace hb5:=hide hb5;replace hr5:=hide hr5;replace hG5:=hide hG5)
     | (go_at_call 150;refine(ensure_yes _).mono ?_;rintro e w6 ⟨rfl,rfl⟩))
    refine⟨⟨k+1,by omega,by go_num,?_,?_,?_,unhide HPUT _ (unhide hf5),(unhide hb5).put3 (by omega) (by omega) (by omega) _ _ _ _ _ _,(unhide hr5).put3 (by omega) _ _ _ _ _ _,(unhide hG5).put3 (by omega) _ _ _ _ _ _⟩,by simp[intOf];omega⟩
    ·exact congrArg (Value.int .u64) (cast_min (unhide HN1))
    ·exact congrArg (Value.int .u64) (cast_max (unhide HN2))
    ·show ∀_,_
     intro y hy
     rw[unhide HT1] at hy
     rcases List.mem_append.1 hy with hy|hy
     ·exact unhide HS y hy
     ·rw[List.mem_singleton.1 hy,unhide HV,unhide HLM];exact hge
   ·have HNO:Hid (O=none):=by
     show _=_
     rw[unhide HO,if_neg]
     rintro⟨g1,_⟩
     have:=g1 x (unhide HMEM)
     rw[unhide HV,unhide HLM] at this
     exact hge this
    go_wp2_with (first
     | (go_at_call 178;refine(unhide HC).mono ?_;rintro e w5 ⟨rfl,hb5,hg5⟩;obtain⟨hf5,hr5,hG5⟩:=unhide HKEEP w5 hg5;replace hf5:=hide hf5;replace hb5:=hide hb5;replace hr5:=hide hr5;replace hG5:=hide hG5)
     | (go_at_call 150;refine(ensureF _ (decide_eq_false (by omega)) _).mono ?_;rintro e w6 ⟨rfl,rfl⟩))
    exact⟨rfl,.inr ⟨unhide HNO,rfl,unhide hG5⟩⟩
  ·have h9:¬(k:Int)<(count:Int):=by omega
   have ek:k=count:=by omega
   subst ek
   have etk:ks.take k=ks:=List.take_of_length_le (by rw[unhide HKL];omega)
   have emx:maxK ks k=ks.foldl max 0:=by unfold maxK;rw[etk]
   have emn:minK ks k=0 ↔ 0∈ks:=by rw[minK_zero,etk]
   have HS2:Hid (∀x∈ks,sint M<=sint (M+x)):=by have:=unhide HS;rw[etk] at this;exact this
   have HLEN:=hide (len64_any (maxK ks k) wr hmx)
   have HOWN:Hid (OwnV wr w.heap.size (.slice (some ⟨w4.heap.size,0,none⟩) k k) (ks.map fun k=>.num (sint (M+k)))/\Rd wr b r/\Gr w wr b):=⟨hf.own (by rw[List.length_map];exact unhide HKL) (by omega) (by omega),hrr,hgr⟩
   have hLM:L=0 ↔ M=0:=by
    have h1:=unhide HLM
    unfold sint wrap64 at h1
    omega
   have HO2:Hid (O=if d=bl (maxK ks k)/\(if k=0 then M=0 else minK ks k=0) then some (ks.map fun k=>.num (sint (M+k)),r) else none):=by
    show _=_
    rw[unhide HO,emx]
    congr 1
    rw[emn]
    exact propext ⟨fun h=>h.2,fun h=>⟨unhide HS2,h⟩⟩
   generalize minK ks k=mn at *
   generalize maxK ks k=mx at *
   generalize (ks.map fun k=>Val.num (sint (M+k)))=ys at *
   clear etk emx emn HS HS2 hf hbi hrr hgr HO HKA HKB
   have hbl:bl mx<=64:=bl_le (by have:(2:Nat)^64=18446744073709551616:=(by decide);omega)
   generalize bl mx=m2 at *
   by_cases g1:d=m2
   ·subst g1
    by_cases g2:k=0
    ·subst g2
     by_cases g3:M=0
     ·have g4:=hLM.2 g3
      have HE:Hid (O=some (ys,r)):=by show _=_;rw[unhide HO2,if_pos ⟨rfl,by rw[if_pos rfl];exact g3⟩]
      clear hLM hL eU
      subst g4
      go_wp2_with (first
       | (go_at_call 148;refine(unhide HLEN).mono ?_;rintro e w6 ⟨rfl,rfl⟩)
       | (go_at_call 150;refine(ensure_yes _).mono ?_;rintro e w7 ⟨rfl,rfl⟩))
      go_ret
      exact .inl ⟨_,_,_,unhide HE,rfl,unhide HOWN⟩
     ·have g4:(L == 0)=false:=by simpa using fun h=>g3 (hLM.1 h)
      have HE:Hid (O=none):=by show _=_;rw[unhide HO2,if_neg (fun h=>g3 (by simpa using h.2))]
      clear hLM
      go_wp2_with (first
       | (go_at_call 148;refine(unhide HLEN).mono ?_;rintro e w6 ⟨rfl,rfl⟩)
       | (go_at_call 150;first | (refine(ensure_yes _).mono ?_;rintro e w7 ⟨rfl,rfl⟩) | (refine(ensure_no _).mono ?_;rintro e w7 ⟨rfl,rfl⟩)))
      exact⟨rfl,.inr ⟨unhide HE,rfl,(unhide HOWN).2.2⟩⟩
    ·have g5:((k:Int) == 0)=false:=by simpa using g2
     by_cases g3:mn=0
     ·subst g3
      have HE:Hid (O=some (ys,r)):=by show _=_;rw[unhide HO2,if_pos ⟨rfl,by rw[if_neg g2]⟩]
      go_wp2_with (first
       | (go_at_call 148;refine(unhide HLEN).mono ?_;rintro e w6 ⟨rfl,rfl⟩)
       | (go_at_call 150;refine(ensure_yes _).mono ?_;rintro e w7 ⟨rfl,rfl⟩))
      go_ret
      exact .inl ⟨_,_,_,unhide HE,rfl,unhide HOWN⟩
     ·have g4:((mn:Int) == 0)=false:=by simpa using g3
      have HE:Hid (O=none):=by show _=_;rw[unhide HO2,if_neg (fun h=>g3 (by simpa [g2] using h.2))]
      go_wp2_with (first
       | (go_at_call 148;refine(unhide HLEN).mono ?_;rintro e w6 ⟨rfl,rfl⟩)
       | (go_at_call 150;first | (refine(ensure_yes _).mono ?_;rintro e w7 ⟨rfl,rfl⟩) | (refine(ensure_no _).mono ?_;rintro e w7 ⟨rfl,rfl⟩)))
      exact⟨rfl,.inr ⟨unhide HE,rfl,(unhide HOWN).2.2⟩⟩
   ·have g4:((d:Int) == (m2:Int))=false:=by simp;omega
    have HE:Hid (O=none):=by show _=_;rw[unhide HO2,if_neg (fun h=>g1 h.1)]
    go_wp2_with (first
     | (go_at_call 148;refine(unhide HLEN).mono ?_;rintro e w6 ⟨rfl,rfl⟩)
     | (go_at_call 150;refine(ensure_no _).mono ?_;rintro e w7 ⟨rfl,rfl⟩))
    exact⟨rfl,.inr ⟨unhide HE,rfl,(unhide HOWN).2.2⟩⟩
end Go.Proofs.YtbfibfmnemnbbaaGreat
set_option linter.unusedSimpArgs false
set_option linter.unusedVariables false
set_option maxHeartbeats 400000
set_option maxRecDepth 100000
namespace Go.Proofs.YtbfibfmnemnbbaaGreat
open Go.RowKit Go.Sort
theorem offs_no1{b count:Nat}{l:List UInt8}{w:World}(h:Rd w b l)(hl:l.length<=140737488355328)(hM:numD 8 l=none) :
  Calls Tryz.prog 168 #[.pointer (some ⟨b,0,none⟩),.int .i64 count] w fun e w'=>e=dmg/\Gr w w' b:=by
 have HM:=hide (numd_no h hl hM)
 clear h
 go_enter Tryz.func168,Tryz.ntmps168
 go_wp2_with (go_at_call 149;refine(unhide HM).mono ?_;rintro e w1 ⟨rfl,rfl⟩)
 exact⟨rfl,rfl,Gr.refl _ _⟩
theorem offs_no2{b count M:Nat}{l l1:List UInt8}{w:World}(h:Rd w b l)(hl:l.length<=140737488355328)(hM:numD 8 l=some (M,l1))(hd:numD 1 l1=none) :
  Calls Tryz.prog 168 #[.pointer (some ⟨b,0,none⟩),.int .i64 count] w fun e w'=>e=dmg/\Gr w w' b:=by
 have HM:=hide (numd_yes h hl hM (by decide))
 have hl1:=numD_le hM
 have HD:=hide (fun W (hW:Rd W b l1)=>numd_no hW (by omega) hd)
 clear h
 go_enter Tryz.func168,Tryz.ntmps168
 go_wp2_with (go_at_call 149;first | (refine(unhide HD _ hr1).mono ?_;rintro e w2 ⟨rfl,rfl⟩) | (refine(unhide HM).mono ?_;rintro e w1 ⟨rfl,hr1,hg1⟩))
 exact⟨rfl,rfl,hg1⟩
theorem offs_no3{b count M d:Nat}{l l1 l2:List UInt8}{w:World}(h:Rd w b l)(hl:l.length<=140737488355328)(hM:numD 8 l=some (M,l1))(hd:numD 1 l1=some (d,l2))(hd64:64<d) :
  Calls Tryz.prog 168 #[.pointer (some ⟨b,0,none⟩),.int .i64 count] w fun e w'=>e=dmg/\Gr w w' b:=by
 have HM:=hide (numd_yes h hl hM (by decide))
 have hl1:=numD_le hM
 have HD:=hide (fun W (hW:Rd W b l1)=>numd_yes hW (by omega) hd (by decide))
 have hd2:d<256:=by
  obtain⟨h1,rfl,rfl⟩:=numD_some hd
  have:=beV_lt (l1.take 1)
  have h2:(l1.take 1).length=1:=by rw[List.length_take];omega
  rw[h2] at this;simpa using this
 clear h
 go_enter Tryz.func168,Tryz.ntmps168
 go_wp2_with (first
  | (go_at_call 149;first | (refine(unhide HD _ hr1).mono ?_;rintro e w2 ⟨rfl,hr2,hg2⟩) | (refine(unhide HM).mono ?_;rintro e w1 ⟨rfl,hr1,hg1⟩))
  | (go_at_call 150;refine(ensureF _ (decide_eq_false (by omega)) _).mono ?_;rintro e w3 ⟨rfl,rfl⟩))
 exact⟨rfl,rfl,hg1.trans hg2⟩
theorem offs_no4{b count M d:Nat}{l l1 l2:List UInt8}{w:World}(hc:count<=4096)(h:Rd w b l)(hl:l.length<=140737488355328)(hM:numD 8 l=some (M,l1))(hd:numD 1 l1=some (d,l2))(hd64:d<=64)(hb:bitsD count d l2=none) :
  Calls Tryz.prog 168 #[.pointer (some ⟨b,0,none⟩),.int .i64 count] w fun e w'=>e=dmg/\Gr w w' b:=by
 have HM:=hide (numd_yes h hl hM (by decide))
 have hl1:=numD_le hM
 have hl2:=numD_le hd
 have HD:=hide (fun W (hW:Rd W b l1)=>numd_yes hW (by omega) hd (by decide))
 have HB:=hide (fun W (hW:Rd W b l2)=>bitsd_no hc hd64 hW (by omega) hb)
 have hdi:(d:Int)<=64:=by omega
 clear h
 go_enter Tryz.func168,Tryz.ntmps168
 go_wp2_with (first
  | (go_at_call 149;first | (refine(unhide HD _ hr1).mono ?_;rintro e w2 ⟨rfl,hr2,hg2⟩) | (refine(unhide HM).mono ?_;rintro e w1 ⟨rfl,hr1,hg1⟩))
  | (go_at_call 150;refine(ensure_yes _).mono ?_;rintro e w3 ⟨rfl,rfl⟩)
  | (go_at_call 164;refine(unhide HB _ hr2).mono ?_;rintro e w4 ⟨rfl,hg4⟩))
 exact⟨rfl,rfl,(hg1.trans hg2).trans hg4⟩
theorem offsets_any(b count:Nat)(l:List UInt8)(w:World)(hc:count<=4096)(h:Rd w b l)(hl:l.length<=140737488355328) :
  Calls Tryz.prog 168 #[.pointer (some ⟨b,0,none⟩),.int .i64 count] w fun e w'=>PlainsR w w' e b (offsetsD count l):=by
 have no:∀{o},o=none->(Calls Tryz.prog 168 #[.pointer (some ⟨b,0,none⟩),.int .i64 count] w fun e w'=>e=dmg/\Gr w w' b)->Calls Tryz.prog 168 #[.pointer (some ⟨b,0,none⟩),.int .i64 count] w fun e w'=>PlainsR w w' e b o:=
  fun ho hcall=>hcall.mono fun e w' ⟨he,hg⟩=>.inr ⟨ho,he,hg⟩
 cases hM:numD 8 l with
 | none=>exact no (by unfold offsetsD;rw[hM];rfl) (offs_no1 h hl hM)
 | some p=>
  obtain⟨M,l1⟩:=p
  cases hd:numD 1 l1 with
  | none=>exact no (by unfold offsetsD;rw[hM,Option.bind_some,hd];rfl) (offs_no2 h hl hM hd)
  | some q=>
   obtain⟨d,l2⟩:=q
   by_cases hd64:d<=64
   ·cases hb:bitsD count d l2 with
    | none=>exact no (by unfold offsetsD;rw[hM,Option.bind_some,hd,Option.bind_some,if_pos hd64,hb];rfl) (offs_no4 hc h hl hM hd hd64 hb)
    | some q=>
     obtain⟨t,r⟩:=q
     refine offs_loop hc h hl hM hd hd64 hb _ ?_
     show offsetsD count l=_
     unfold offsetsD;rw[hM,Option.bind_some,hd,Option.bind_some,if_pos hd64,hb];rfl
   ·exact no (by unfold offsetsD;rw[hM,Option.bind_some,hd,Option.bind_some,if_neg hd64]) (offs_no3 h hl hM hd (by omega))
theorem bindex_any(g n:Nat)(F:Nat->Bool)(w:World)(hn:n<=100000)(h:w.rowIs g 4 n (fun j=>.bool (F j))) :
  Calls Tryz.prog 188 #[.slice (some ⟨g,0,none⟩) n n,.bool false] w fun e w'=>∃i:Int,e=.returned (.int .i64 i)/\Hid (decide (0<=i)=!(List.range n).all F)/\w'=w:=by
 have HR:=hide h
 clear h
 go_enter Tryz.func188,Tryz.ntmps188
 go_wp2_with fail
 go_loop[8] (fun i=>∃k:Nat,k<=n/\i=.int .i64 (k:Int)/\Hid (∀j,j<k->F j=true)) (fun i=>n-(intOf i).toNat)
 case atStart=>exact⟨0,Nat.zero_le _,rfl,fun j hj=>by omega⟩
 case round=>
  obtain⟨k,hk,rfl,HP⟩:=hrel
  by_cases hlt:k<n
  ·have h9:(k:Int)<(n:Int):=by omega
   have cm:=(unhide HR).cell hlt
   cases hF:F k
   ·rw[hF] at cm
    have HE:Hid (decide (0<=(k:Int))=!(List.range n).all F):=by
     show _=_
     have:(List.range n).all F=false:=by
      rw[List.all_eq_false]
      exact⟨k,List.mem_range.2 hlt,by simp[hF]⟩
     rw[this];simp
    clear hF
    go_wp2
    go_ret
    exact⟨_,rfl,HE,rfl⟩
   ·rw[hF] at cm
    have HP2:Hid (∀j,j<k+1->F j=true):=fun j hj=>by
     by_cases e:j=k
     ·rw[e];exact hF
     ·exact unhide HP j (by omega)
    clear hF
    go_wp2
    go_round
    case rel=>exact⟨k+1,by omega,by go_num,HP2⟩
    case measure=>simp[intOf];omega
  ·have h9:¬(k:Int)<(n:Int):=by omega
   have HE:Hid (decide (0<=(-1:Int))=!(List.range n).all F):=by
    show _=_
    have:(List.range n).all F=true:=by
     rw[List.all_eq_true]
     intro j hj
     exact unhide HP j (by have:=List.mem_range.1 hj;omega)
    rw[this];rfl
   go_wp2
   go_ret
   exact⟨_,rfl,HE,rfl⟩
theorem bcontains_any(g n:Nat)(F:Nat->Bool)(w:World)(hn:n<=100000)(h:w.rowIs g 4 n (fun j=>.bool (F j))) :
  Calls Tryz.prog 181 #[.slice (some ⟨g,0,none⟩) n n,.bool false] w fun e w'=>e=.returned (.bool (!(List.range n).all F))/\w'=w:=by
 have HI:=hide (bindex_any g n F w hn h)
 generalize (!(List.range n).all F)=Z at HI ⊢
 clear h
 go_enter Tryz.func181,Tryz.ntmps181
 go_wp2_with (go_at_call 188;refine(unhide HI).mono ?_;rintro e w1 ⟨i,rfl,HE,rfl⟩)
 go_ret
 exact⟨by rw[<-unhide HE];rfl,rfl⟩
end Go.Proofs.YtbfibfmnemnbbaaGreat
set_option linter.unusedSimpArgs false
set_option linter.unusedVariables false
set_option maxHeartbeats 800000
set_option maxRecDepth 100000
namespace Go.Proofs.YtbfibfmnemnbbaaGreat
open Go.RowKit Go.Sort
def strictB(W:List Val):Bool:=(List.range (W.length-1)).all fun i=>decide (ordV (W.getD i .null) (W.getD (i+1) .null)<0)
theorem strict_next{W:List Val}(h:strictB W=true){i:Nat}{x y:Val}(hx:W[i]?=some x)(hy:W[i+1]?=some y):ordV x y<0:=by
 unfold strictB at h
 rw[List.all_eq_true] at h
 obtain⟨hl,_⟩:=List.getElem?_eq_some_iff.1 hy
 have:=h i (by rw[List.mem_range];omega)
 simp only[List.getD_eq_getElem?_getD,hx,hy,Option.getD_some,decide_eq_true_eq] at this
 exact this
def wordsD(kind:Int)(count:Nat)(l:List UInt8):Option (List Val×List UInt8):=
 (numD 2 l).bind fun p=>(plainsD kind p.1 p.2).bind fun q=>if strictB q.1 then
  (bitsD count (bl (p.1-1)) q.2).bind fun r=>
   if (∀k∈numsOf r.1 (bl (p.1-1)) count,k<p.1)/\(∀j,j<p.1->j∈numsOf r.1 (bl (p.1-1)) count) then some ((numsOf r.1 (bl (p.1-1)) count).map fun k=>q.1.getD k .null,r.2) else none
 else none
theorem Rd.below{w w':World}{b:Nat}{l:List UInt8}(h:Rd w b l)(hb:Below w.heap.size w w'):Rd w' b l:=World.rowIs.of_block h (hb.block b h.ne)
theorem ensureB(t:Bool)(h:t=true)(w:World):Calls Tryz.prog 150 #[.bool t] w fun e w'=>e=.returned (.tuple #[])/\Below w.heap.size w w':=
 (ensureT t h w).mono fun e w' ⟨he,hw⟩=>⟨he,hw ▸ Below.refl _ _⟩
theorem RowAt.grx{w w':World}{a:Option Addr}{xs:List Val}{B:Nat}(h:RowAt w a xs)(hg:Gr w w' B)(hne:∀ad,a=some ad->ad.block≠B):RowAt w' a xs:=by
 rcases h with h|⟨b,off,ha,h⟩
 ·exact .inl h
 ·refine .inr ⟨b,off,ha,fun i x hx=>?_⟩
  obtain⟨h0,h1,h2⟩:=h i x hx
  have hs:=hne _ ha
  have hk:∀j v,w.cell? ⟨b,j,none⟩=some v->w'.cell? ⟨b,j,none⟩=some v:=fun j v hv=>by
   rw[World.cell?_of_block (a:=⟨b,j,none⟩) (hg.block b (World.block_lt_of_cell? _ _ hv) (fun e=>hs (by injection e)))];exact hv
  exact⟨hk _ _ h0,hk _ _ h1,hk _ _ h2⟩
def useF(l:List Nat)(j:Nat):Bool:=l.contains j
theorem words_yes{b count m:Nat}{kind:Int}{l l1 l2 t r:List UInt8}{W:List Val}{w:World}(hc:count<=4096)(hk:kind=1∨kind=2)(h:Rd w b l)(hl:l.length<=140737488355328)
  (hm:numD 2 l=some (m,l1)) (hW:plainsD kind m l1=some (W,l2)) (hs:strictB W=true) (hb:bitsD count (bl (m-1)) l2=some (t,r))
  (h1:∀k∈numsOf t (bl (m-1)) count,k<m) (h2:∀j,j<m->j∈numsOf t (bl (m-1)) count) :
  Calls Tryz.prog 167 #[.pointer (some ⟨b,0,none⟩),.int .i64 kind,.int .i64 count] w fun e w'=>∃v,e=.returned v/\OwnV w' w.heap.size v ((numsOf t (bl (m-1)) count).map fun k=>W.getD k .null)/\Rd w' b r/\Gr w w' b:=by
 obtain⟨i4,hi4,z40,z41,z42⟩:=info_parts Tryz.info25
 obtain⟨i6,hi6,z60,z61,z62⟩:=info_parts Tryz.info4
 have hm2:m<65536:=by
  obtain⟨g1,rfl,rfl⟩:=numD_some hm
  have:=beV_lt (l.take 2)
  have h2:(l.take 2).length=2:=by rw[List.length_take];omega
  rw[h2] at this;simpa using this
 have hl1:=numD_le hm
 obtain⟨hWl,hl2⟩:=plainsD_len hW
 have HN:=hide (numd_yes h hl hm (by decide))
 have HP:Hid (∀W2,Rd W2 b l1->Calls Tryz.prog 165 #[.pointer (some ⟨b,0,none⟩),.int .i64 kind,.int .i64 m] W2 fun e w'=>∃v,e=.returned v/\OwnV w' W2.heap.size v W/\Rd w' b l2/\Gr W2 w' b):=fun W2 hW2=>by
  have:=plains_any b m kind l1 W2 hk (by omega) hW2 (by omega)
  rw[hW] at this
  refine this.mono ?_
  rintro e w' (⟨vs,r',v,he,h3,h4,h5,h6⟩|⟨he,_⟩)
  ·injection he with he;injection he with e1 e2;subst e1;subst e2
   exact⟨v,h3,h4,h5,h6⟩
  ·cases he
 have hbl:bl (m-1)<=64:=bl_le (by have:(2:Nat)^64=18446744073709551616:=(by decide);omega)
 obtain⟨d,hd⟩:∃d,d=bl (m-1):=⟨_,rfl⟩
 rw[<-hd] at hb h1 h2 hbl ⊢
 have HB:=hide (fun W2 (hW2:Rd W2 b l2)=>bitsd_yes hc hbl hW2 (by omega) hb)
 have HWD:Hid (∀W2,Calls Tryz.prog 146 #[.int .i64 m] W2 fun e w'=>e=.returned (.int .i64 (d:Int))/\w'=W2):=fun W2=>by rw[hd];exact widthof_any m W2 (by omega)
 have htl:=hide (bitsD_some hb).1
 have hbw:=h.ne
 have HS:=hide hs
 have HWL:=hide hWl
 have H1:=hide h1
 have H2:=hide h2
 clear h h1 h2 hs hd hWl
 go_enter Tryz.func167,Tryz.ntmps167
 go_wp2_with (first
  | (go_at_call 149;refine(unhide HN).mono ?_;rintro e w1 ⟨rfl,hr1,hg1⟩)
  | (go_at_call 165;refine(unhide HP _ hr1).mono ?_;rintro e w2 ⟨v2,rfl,ho2,hr2,hg2⟩;obtain⟨wa,wc,rfl,hwa1,hwa2,hrow2⟩:=ownV_slice ho2;rw[unhide HWL]))
 have hG2:=hg1.trans hg2
 have hz1:=hg1.size
 have hz2:=hG2.size
 have HO2:=hide ho2
 have HROW:=hide hrow2
 clear hg1 hg2 hr1 ho2 hrow2
 go_loopw[22] (fun i wr=>∃k:Nat,k<=m/\i=.int .i64 (k:Int)/\Below w2.heap.size w2 wr) (fun i _=>m-(intOf i).toNat)
 case atStart=>exact⟨0,Nat.zero_le _,rfl,Below.refl _ _⟩
 case round=>
  obtain⟨k,hkm,rfl,hbr⟩:=hrel
  by_cases hlt:k<m
  ·have h9:(k:Int)<(m:Int):=by omega
   have HBR:=hide hbr
   by_cases hk0:k=0
   ·subst hk0
    clear hbr
    go_wp2_with fail
    refine wp_region_quiet_below (by kernel_rfl) (by kernel_rfl) ?_
    repeat (go_big_quiet_step (first
     | (go_at_call 150;exact Calls.regrown_of (ensureB _ rfl _))))
    refine wpQuiet_nil ?_
    intro w' hw'
    have hB:Below wr.heap.size wr w':=by obtain⟨p,rfl⟩:=hw';exact below_regrown _ _ _
    clear hw'
    go_wp2
    go_roundw
    case rel=>exact⟨1,by omega,by go_num,below_step (unhide HBR) hB⟩
    case measure=>simp[intOf];omega
   ·obtain⟨j,hj⟩:∃j,k=j+1:=⟨k-1,by omega⟩
    obtain⟨x,hx⟩:∃x,W[j]?=some x:=⟨_,List.getElem?_eq_getElem (by rw[unhide HWL];omega)⟩
    obtain⟨y,hy⟩:∃y,W[k]?=some y:=⟨_,List.getElem?_eq_getElem (by rw[unhide HWL];omega)⟩
    have HLT:=hide (strict_next (unhide HS) hx (by rw[<-hj];exact hy))
    obtain⟨vb,vo,rfl,c0,c1,c2⟩:=((unhide HROW).later hbr).lo hx
    obtain⟨vb',vo',e,d0,d1,d2⟩:=((unhide HROW).later hbr).lo hy
    injection e with e
    injection e with e1 e2
    subst e1;subst e2
    have k0:=cell_regrown c0
    have k1:=cell_regrown c1
    have k2:=cell_regrown c2
    have k3:=cell_regrown d0
    have k4:=cell_regrown d1
    have k5:=cell_regrown d2
    have ej:(k:Int)-1=(j:Int):=by omega
    have g0:((k:Int) == 0)=false:=by simpa using hk0
    have hjm:(j:Int)<(m:Int):=by omega
    have HO:=hide (order_o x y)
    generalize ordV x y=O at HLT HO
    have HLT2:Hid (decide (O<0)=true):=decide_eq_true (unhide HLT)
    clear c0 c1 c2 d0 d1 d2 hbr hx hy hj hk0
    go_wp2_with fail
    refine wp_region_quiet_below (by kernel_rfl) (by kernel_rfl) ?_
    repeat (go_big_quiet_step (first
     | (go_at_call 80;exact Calls.regrown_of (unhide HO _))
     | (go_at_call 150;exact Calls.regrown_of (ensureB _ (unhide HLT2) _))))
    refine wpQuiet_nil ?_
    intro w' hw'
    have hB:Below wr.heap.size wr w':=by obtain⟨p,rfl⟩:=hw';exact below_regrown _ _ _
    clear hw'
    go_wp2
    go_roundw
    case rel=>exact⟨k+1,by omega,by go_num,below_step (unhide HBR) hB⟩
    case measure=>simp[intOf];omega
  ·have h9:¬(k:Int)<(m:Int):=by omega
   have hr3:=hr2.below hbr
   have hO3:=(unhide HO2).later hbr
   have hrow3:=(unhide HROW).later hbr
   have hG3:=hG2.trans (Gr.of_below hbr b)
   have hz3:=hbr.size
   clear hbr HROW HO2 hr2 hG2
   replace hrow3:=hide hrow3
   have HO3:=hide hO3
   have HR3:=hide hr3
   have HG3:=hide hG3
   have HWLO:Hid (∀ad,wa=some ad->ad.block<wr.heap.size/\b<ad.block):=fun ad had=>by
    obtain⟨g,o,rfl⟩:=hwa1 ad had
    subst had
    have:=World.ownsRow.lt (unhide HO3) g rfl
    exact⟨this.2,Nat.lt_of_lt_of_le hbw (Nat.le_trans hz1 this.1)⟩
   clear hO3 hr3 hG3
   go_wp2_with (first
    | (go_at_call 146;refine(unhide HWD _).mono ?_;rintro e w3 ⟨rfl,rfl⟩)
    | (go_at_call 164;refine(unhide HB _ (unhide HR3)).mono ?_;rintro e w4 ⟨A,B,C,rfl,hb4,hA,hB,hC,hr4,hg4⟩)
    | (at_make;first | (refine wpList_make_row _ rfl (.tmp 49) (.tmp 49) 52 rfl 4 i6 (.bool false) Tryz.underlying52 hi6 z60 z61 rfl .i64 .i64 m rfl rfl (by rw[z62];omega) (by omega) ?_) | (refine wpList_make_rows _ rfl (.tmp 51) (.tmp 51) 36 rfl 25 i4 _ Tryz.underlying36 hi4 z40 3 z41 .i64 .i64 count rfl rfl (by rw[z42];omega) (by omega) ?_)))
   have hz4:=hg4.size
   obtain⟨hA4,hB4,hC4⟩:=hb4.lt
   have hG4:=(unhide HG3).trans hg4
   have hrow4:=(unhide hrow3).grx hg4 (fun ad had=>by have:=unhide HWLO ad had;omega)
   have HLO4:Hid (∀ad,wa=some ad->ad.block<w4.heap.size/\ad.block≠A/\ad.block≠B/\ad.block≠C):=fun ad had=>by have:=unhide HWLO ad had;omega
   have HU:Hid (((w4.alloc (.cells (madeCells #[.bool false] m) 4)).alloc (.cells (madeCells #[.int .i64 0,.int .i64 0,.string ⟨#[]⟩] (count*3)) 25)).rowIs w4.heap.size 4 m (fun j=>.bool (useF [] j))):=
    ((World.rowIs_made w4 (.bool false) m 4).congr fun j hj=>by simp[useF]).alloc _
   have HF:Hid (∀ys,Fill ((w4.alloc (.cells (madeCells #[.bool false] m) 4)).alloc (.cells (madeCells #[.int .i64 0,.int .i64 0,.string ⟨#[]⟩] (count*3)) 25)) (w4.heap.size+1) count 0 ys):=fun ys=>by
    have:=Fill.start (w4.alloc (.cells (madeCells #[.bool false] m) 4)) count ys
    simpa using this
   generalize hks:numsOf t d count=ks at *
   have HKS:=hide hks
   have HKL:Hid (ks.length=count):=by rw[<-hks];exact nums_len _ _ _
   have HKA:Hid (∀k,k<count->ks[k]?=some (numAt (leV t) d k)):=fun k hk=>by rw[<-hks];exact nums_at hk
   have hwz:w.heap.size<=w4.heap.size:=by omega
   have hBw:w.heap.size<=B:=by omega
   clear hks HWLO hrow3 HG3 HR3 HO3 hA hB hC hz1 hz2 hz3 hg4
   go_loopw[55] (fun i wr=>∃k:Nat,k<=count/\i=.int .i64 (k:Int)/\Fill wr (w4.heap.size+1) count k (ks.map fun k=>W.getD k .null)/\wr.rowIs w4.heap.size 4 m (fun j=>.bool (useF (ks.take k) j))/\Bits wr A B C d (d*k) t/\Rd wr b r/\RowAt wr wa W/\Gr w wr b) (fun i _=>count-(intOf i).toNat)
   case atStart=>exact⟨0,Nat.zero_le _,rfl,unhide HF _,unhide HU,(hb4.alloc _).alloc _,(hr4.alloc _).alloc _,(hrow4.later (below_alloc (Below.refl _ _) _)).later (below_alloc (Below.refl _ _) _),hG4.trans ((Gr.alloc _ _ _).trans (Gr.alloc _ _ _))⟩
   case round=>
    obtain⟨k,hkc,rfl,hf,hu,hbi,hrr,hrw,hgr⟩:=hrel
    by_cases hlt:k<count
    ·have h9:(k:Int)<(count:Int):=by omega
     have hat:=unhide HKA k hlt
     have hxm:=unhide H1 _ (List.mem_of_getElem? hat)
     have HC:=hide (next_any hbi hbl hlt hc (unhide htl))
     have HT1:Hid (ks.take (k+1)=ks.take k++[numAt (leV t) d k]):=by
      obtain⟨g1,g2⟩:=List.getElem?_eq_some_iff.1 hat
      show _=_
      rw[List.take_succ_eq_append_getElem g1,g2]
     obtain⟨y,hy⟩:∃y,W[numAt (leV t) d k]?=some y:=⟨_,List.getElem?_eq_getElem (by rw[unhide HWL];exact hxm)⟩
     have HY:Hid ((ks.map fun k=>W.getD k .null)[k]?=some y):=by
      show _=_
      rw[List.getElem?_map,hat]
      simp[List.getD_eq_getElem?_getD,hy]
     obtain⟨vb,vo,rfl,_,_,_⟩:=hrw.lo hy
     have hvb:=unhide HLO4 _ rfl
     simp only at hvb
     have HKEEP:Hid (∀w5,Gr wr w5 B->Fill w5 (w4.heap.size+1) count k (ks.map fun k=>W.getD k .null)/\w5.rowIs w4.heap.size 4 m (fun j=>.bool (useF (ks.take k) j))/\Rd w5 b r/\RowAt w5 (some ⟨vb,vo,none⟩) W/\Gr w w5 b):=fun w5 hg5=>
      ⟨hf.grx hg5 (by omega),row_grx hu hg5 (by omega),hrr.grx hg5 (by omega),hrw.grx hg5 (fun ad had=>by injection had with had;subst had;simp only;omega),hgr.fresh hg5 (by omega)⟩
     have HLO:=hide (fun w5 (h5:RowAt w5 (some ⟨vb,vo,none⟩) W)=>h5.lo hy)
     generalize numAt (leV t) d k=x at hat hxm HC HT1 hy HLO
     have hxi:(x:Int)<(m:Int):=by omega
     have HUS:Hid (∀j,useF (ks.take (k+1)) j=if j=x then true else useF (ks.take k) j):=fun j=>by
      unfold useF
      rw[unhide HT1]
      by_cases hj:j=x<;>simp[hj]
     have HSET:Hid (∀w5,Fill w5 (w4.heap.size+1) count k (ks.map fun k=>W.getD k .null)->w5.rowIs w4.heap.size 4 m (fun j=>.bool (useF (ks.take k) j))->Rd w5 b r->RowAt w5 (some ⟨vb,vo,none⟩) W->Gr w w5 b->Bits w5 A B C d (d*(k+1)) t->Fill (w5.setCell ⟨w4.heap.size,x,none⟩ (.bool true)) (w4.heap.size+1) count k (ks.map fun k=>W.getD k .null)/\(w5.setCell ⟨w4.heap.size,x,none⟩ (.bool true)).rowIs w4.heap.size 4 m (fun j=>.bool (useF (ks.take (k+1)) j))/\Rd (w5.setCell ⟨w4.heap.size,x,none⟩ (.bool true)) b r/\RowAt (w5.setCell ⟨w4.heap.size,x,none⟩ (.bool true)) (some ⟨vb,vo,none⟩) W/\Gr w (w5.setCell ⟨w4.heap.size,x,none⟩ (.bool true)) b/\Bits (w5.setCell ⟨w4.heap.size,x,none⟩ (.bool true)) A B C d (d*(k+1)) t):=
      fun w5 a1 a2 a3 a4 a5 a6=>⟨a1.grx (grown_set _ _ _ _) (by omega),(a2.set x (.bool true)).congr fun j hj=>by rw[unhide HUS j];by_cases e:j=x<;>simp[e],a3.grx (grown_set _ _ _ _) (by omega),a4.grx (grown_set _ _ _ _) (fun ad had=>by injection had with had;subst had;simp only;omega),a5.fresh (grown_set _ _ _ _) (by omega),a6.set _ (by omega) (by omega) (by omega)⟩
     clear hat hf hu hbi hrr hrw hgr
     go_wp2_with (first
      | (go_at_call 178;refine(unhide HC).mono ?_;rintro e w5 ⟨rfl,hb5,hg5⟩;obtain⟨hf5,hu5,hr5,hw5,hG5⟩:=unhide HKEEP w5 hg5;have cu:=hu5.cell hxm;have fu:=hu5.frozen x;obtain⟨hf6,hu6,hr6,hw6,hG6,hb6⟩:=unhide HSET w5 hf5 hu5 hr5 hw5 hG5 hb5;obtain⟨p0,p1,p2,q0,q1,q2⟩:=hf6.cells hlt;obtain⟨_,_,ea,c0,c1,c2⟩:=unhide HLO _ hw6;injection ea with ea;injection ea with ea1 ea2;subst ea1;subst ea2;replace hf6:=hide hf6;replace hu6:=hide hu6;replace hr6:=hide hr6;replace hw6:=hide hw6;replace hG6:=hide hG6;replace hb6:=hide hb6;clear hf5 hu5 hr5 hw5 hG5 hb5)
      | (go_at_call 150;refine(ensure_yes _).mono ?_;rintro e w6 ⟨rfl,rfl⟩))
     go_roundw
     case rel=>exact⟨k+1,by omega,by go_num,(unhide hf6).put (y:=y) (unhide HY),(((unhide hu6).setOther (by simp) _).setOther (by simp) _).setOther (by simp) _,(unhide hb6).put3 (by omega) (by omega) (by omega) _ _ _ _ _ _,(unhide hr6).put3 (by omega) _ _ _ _ _ _,(((unhide hw6).grx (grown_set _ _ _ _) (by intro ad had;injection had with had;subst had;simp only;omega)).grx (grown_set _ _ _ _) (by intro ad had;injection had with had;subst had;simp only;omega)).grx (grown_set _ _ _ _) (by intro ad had;injection had with had;subst had;simp only;omega),(unhide hG6).put3 (by omega) _ _ _ _ _ _⟩
     case measure=>simp[intOf];omega
    ·have h9:¬(k:Int)<(count:Int):=by omega
     have ek:k=count:=by omega
     subst ek
     have etk:ks.take k=ks:=List.take_of_length_le (by rw[unhide HKL];omega)
     rw[etk] at hu
     have HCN:=hide (bcontains_any w4.heap.size m (useF ks) wr (by omega) hu)
     have eall:(List.range m).all (useF ks)=true:=by
      rw[List.all_eq_true]
      intro j hj
      have:=unhide H2 j (List.mem_range.1 hj)
      unfold useF
      simpa using this
     rw[eall] at HCN
     have HOWN:Hid (OwnV wr w.heap.size (.slice (some ⟨w4.heap.size+1,0,none⟩) k k) (ks.map fun k=>W.getD k .null)/\Rd wr b r/\Gr w wr b):=⟨hf.own (by rw[List.length_map];exact unhide HKL) (by omega) (by omega),hrr,hgr⟩
     clear hf hu hbi hrr hrw hgr etk eall
     go_wp2_with (first
      | (go_at_call 181;refine(unhide HCN).mono ?_;rintro e w6 ⟨rfl,rfl⟩)
      | (go_at_call 150;refine(ensure_yes _).mono ?_;rintro e w7 ⟨rfl,rfl⟩))
     go_ret
     exact⟨_,rfl,by rw[unhide HKS];exact unhide HOWN⟩
end Go.Proofs.YtbfibfmnemnbbaaGreat
