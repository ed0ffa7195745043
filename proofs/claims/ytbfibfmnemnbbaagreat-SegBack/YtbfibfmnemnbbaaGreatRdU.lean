import Derived.Test.YtbfibfmnemnbbaaGreatRdS
import Derived.Test.YtbfibfmnemnbbaaGreatRxB
import Derived.Test.YtbfibfmnemnbbaaGreatRxC
import Derived.Defers
import Derived.Recover
import Derived.Laws.CopyOwn
import Derived.WalkKit
import Derived.WalkSpells
import Derived.WalkLawsBesides
import Derived.StillTactics
import Derived.Deep.RegionHeld3
import Derived.Lib.QuietBelow
import Derived.BigQuiet
import Derived.RowKit3
import Derived.Deep.DeepCutAuto
import Derived.Deep.DrawnRows
import Derived.Lib.Bytealg
import Derived.Maps.AppendAt
import Derived.Deep.AppendLies
import Derived.Deep.OwnRows
import Derived.Test.YtbfibfmnemnbbaaGreatBkW
import Derived.Test.YtbfibfmnemnbbaaGreatVecF
import Derived.Test.YtbfibfmnemnbbaaGreatPackP
import Derived.Test.YtbfibfmnemnbbaaGreatTabB
import Derived.Test.YtbfibfmnemnbbaaGreatPackZ
set_option linter.unusedSimpArgs false
set_option linter.unusedVariables false
set_option maxHeartbeats 400000
set_option maxRecDepth 100000
namespace Go.Proofs.YtbfibfmnemnbbaaGreat
open Go.RowKit Go.Sort
theorem Tryz.info3':(Tryz.prog.info? 3).map (fun i=>(i.zero,i.size,i.bytes))=some (some (.int .i64 0),1,8):=by kernel_rfl
theorem samerow_same(a b:Option Addr)(c d:Nat)(xs:List Val)(w:World)(hl:xs.length<=1048576)(ha:RowAt w a xs)(hb:RowAt w b xs) :
  Calls Tryz.prog 7 #[.slice a xs.length c,.slice b xs.length d] w fun e w'=>e=.returned (.bool true)/\Below w.heap.size w w':=by
 have HA:=hide ha
 have HB:=hide hb
 clear ha hb
 go_enter Tryz.func7,Tryz.ntmps7
 go_wp2_with fail
 go_loopw[13] (fun i wr=>∃k:Nat,k<=xs.length/\i=.int .i64 (k:Int)/\Below w.heap.size w wr) (fun i _=>xs.length-(intOf i).toNat)
 case atStart=>exact⟨0,Nat.zero_le _,rfl,Below.refl _ _⟩
 case round=>
  obtain⟨k,hk,rfl,hb⟩:=hrel
  by_cases hlt:k<xs.length
  ·have h9:(k:Int)<(xs.length:Int):=by omega
   obtain⟨x,hx⟩:∃x,xs[k]?=some x:=⟨_,List.getElem?_eq_getElem hlt⟩
   obtain⟨vb,vo,rfl,c0,c1,c2⟩:=((unhide HA).later hb).lo hx
   obtain⟨ub,uo,rfl,d0,d1,d2⟩:=((unhide HB).later hb).lo hx
   have HB2:=hide hb
   clear hx hb
   go_wp2_with fail
   go_quiet (fail)
   go_wp2
   go_roundw
   case rel=>exact⟨k+1,by omega,by go_num,below_drewN (unhide HB2) _⟩
   case measure=>simp[intOf];omega
  ·have h9:¬(k:Int)<(xs.length:Int):=by omega
   have HB2:=hide hb
   clear hb
   go_wp2
   go_ret
   exact⟨rfl,unhide HB2⟩
end Go.Proofs.YtbfibfmnemnbbaaGreat
set_option linter.unusedSimpArgs false
set_option linter.unusedVariables false
namespace Go.Proofs.YtbfibfmnemnbbaaGreat
open Go.RowKit Go.Sort
theorem clean_clean(x:Val):cleanV (cleanV x)=cleanV x:=by
 unfold cleanV
 rcases Bool.eq_false_or_eq_true (x.k == 1) with h1|h1<;>rcases Bool.eq_false_or_eq_true (x.k == 2) with h2|h2<;>simp[h1,h2,Val.num,Val.str,Val.null]
theorem clean_cases(x:Val):cleanV x=.null∨cleanV x=.num x.n∨cleanV x=.str x.s:=by
 unfold cleanV
 split
 ·exact .inr (.inl rfl)
 ·split
  ·exact .inr (.inr rfl)
  ·exact .inl rfl
theorem clean_shape{y:Val}(h:cleanV y=y):y=.null∨(∃n,y=.num n)∨∃s,y=.str s:=by
 rcases clean_cases y with e|e|e
 ·exact .inl (h.symm.trans e)
 ·exact .inr (.inl ⟨_,h.symm.trans e⟩)
 ·exact .inr (.inr ⟨_,h.symm.trans e⟩)
theorem large_le{s:ByteArray}:largeB s=false ↔ s.size<=1000:=by
 unfold largeB
 rw[decide_eq_false_iff_not]
 omega
theorem zip_map2{α β γ:Type}(f:α->β)(g:α->γ)(l:List α):(l.map f).zip (l.map g)=l.map fun x=>(f x,g x):=by
 induction l with
 | nil=>rfl
 | cons a l ih=>simp[ih]
theorem laid_good{kind:Int}{ys:List Val}(hk:kind=1∨kind=2)(hc:∀y∈ys,cleanV y=y)(hb:∀y∈ys,badK kind y=false)(hl:∀y∈ys,largeB y.s=false):goodB (laidV kind ys)=true:=by
 rcases hk with rfl|rfl
 ·unfold goodB laidV
  simp only[beq_self_eq_true,if_true,znN,nlOf,zip_map2,List.length_map,Bool.and_eq_true,Bool.not_eq_true',List.length_nil]
  refine⟨trivial,trivial,?_⟩
  rw[List.any_eq_false]
  intro p hp
  obtain⟨y,hy,rfl⟩:=List.mem_map.1 hp
  rcases clean_shape (hc y hy) with rfl|⟨n,rfl⟩|⟨s,rfl⟩<;>simp[badN,Val.null,Val.num,Val.str]
 ·have e1:((2:Int) == 1)=false:=rfl
  have e2:¬(2:Int)=1:=by decide
  unfold goodB laidV
  simp only[e1,Bool.false_eq_true,beq_self_eq_true,if_true,if_false,e2,znS,nlOf,zip_map2,List.length_map,Bool.and_eq_true,Bool.not_eq_true',List.length_nil]
  refine⟨⟨trivial,trivial,?_⟩,?_⟩
  ·rw[List.any_eq_false]
   intro p hp
   obtain⟨y,hy,rfl⟩:=List.mem_map.1 hp
   rcases clean_shape (hc y hy) with rfl|⟨n,rfl⟩|⟨s,rfl⟩
   ·simp[badS,Val.null]
   ·simp[badS,Val.num]
   ·simp[badS,Val.str]
  ·rw[List.any_eq_false]
   intro s hs
   obtain⟨y,hy,rfl⟩:=List.mem_map.1 hs
   simp[hl y hy]
theorem laid_vals{kind:Int}{ys:List Val}(hk:kind=1∨kind=2)(hc:∀y∈ys,cleanV y=y)(hb:∀y∈ys,badK kind y=false)(hl:∀y∈ys,largeB y.s=false):valsV (laidV kind ys)=ys:=by
 have hg:=laid_good hk hc hb hl
 apply List.ext_getElem?
 intro i
 by_cases hi:i<ys.length
 ·rw[vals_at hg (by simpa [laidV,nlOf] using hi),List.getElem?_eq_getElem hi]
  congr 1
  have hm:=List.getElem_mem hi
  have hcl:=hc _ hm
  have hbd:=hb _ hm
  generalize hy:ys[i]=y at *
  have hgt:ys[i]?=some y:=by rw[List.getElem?_eq_getElem hi,hy]
  unfold atV
  rcases hk with rfl|rfl
  ·rcases clean_shape hcl with rfl|⟨n,rfl⟩|⟨s,rfl⟩
   ·simp[laidV,nlOf,hgt,List.getD_eq_getElem?_getD,Val.null]
   ·simp[laidV,nlOf,hgt,List.getD_eq_getElem?_getD,Val.num]
   ·simp[badK,Val.str] at hbd
  ·rcases clean_shape hcl with rfl|⟨n,rfl⟩|⟨s,rfl⟩
   ·simp[laidV,nlOf,hgt,List.getD_eq_getElem?_getD,Val.null]
   ·simp[badK,Val.num] at hbd
   ·simp[laidV,nlOf,hgt,List.getD_eq_getElem?_getD,Val.str]
 ·rw[List.getElem?_eq_none (by rw[vals_len hg];simp[laidV,nlOf];omega),List.getElem?_eq_none (by omega)]
theorem from_ok{kind:Int}{xs:List Val}{X:Vc}(h:fromV kind xs=(X,0)):goodB X=true/\X.k=kind/\valsV X=xs.map cleanV/\fromV X.k (valsV X)=(X,0)/\X.nl.length=xs.length/\X.ns.length<=xs.length/\X.ss.length<=xs.length/\((∀x∈xs,-9223372036854775808<=x.n/\x.n<=9223372036854775807)->∀n∈X.ns,-9223372036854775808<=n/\n<=9223372036854775807):=by
 unfold fromV at h
 split at h
 ·injection h with _ h;cases h
 rename_i hk
 split at h
 ·injection h with _ h;cases h
 rename_i hb
 split at h
 ·injection h with _ h;cases h
 rename_i hl
 injection h with h _
 subst h
 have hk2:kind=1∨kind=2:=by
  cases hkk:kindB kind
  ·exact absurd hkk hk
  ·unfold kindB at hkk;simpa using hkk
 have hc:∀y∈xs.map cleanV,cleanV y=y:=fun y hy=>by
  obtain⟨x,_,rfl⟩:=List.mem_map.1 hy
  exact clean_clean x
 have hb2:∀y∈xs.map cleanV,badK kind y=false:=fun y hy=>by
  cases hbb:badK kind y
  ·rfl
  ·exact absurd (List.any_eq_true.2 ⟨y,hy,hbb⟩) hb
 have hl2:∀y∈xs.map cleanV,largeB y.s=false:=fun y hy=>by
  cases hbb:largeB y.s
  ·rfl
  ·exact absurd (List.any_eq_true.2 ⟨y,hy,hbb⟩) hl
 have hv:=laid_vals hk2 hc hb2 hl2
 have ec:(xs.map cleanV).map cleanV=xs.map cleanV:=by
  conv=>rhs;rw[<-List.map_id (xs.map cleanV)]
  exact List.map_congr_left fun y hy=>hc y hy
 refine⟨laid_good hk2 hc hb2 hl2,rfl,hv,?_,by simp[laidV,nlOf],?_,?_,?_⟩
 ·rw[hv]
  show fromV kind (xs.map cleanV)=_
  unfold fromV
  rw[if_neg hk,ec,if_neg hb,if_neg hl]
 ·simp only[laidV];split<;>simp
 ·simp only[laidV];split<;>simp
 ·intro hr n hn
  simp only[laidV] at hn
  split at hn
  ·obtain⟨y,hy,rfl⟩:=List.mem_map.1 hn
   obtain⟨x,hx,rfl⟩:=List.mem_map.1 hy
   rcases clean_cases x with e|e|e
   ·rw[e];decide
   ·rw[e];exact hr x hx
   ·rw[e];show -9223372036854775808<=(0:Int)/\(0:Int)<=9223372036854775807;decide
  ·cases hn
theorem words_one{ys W W':List Val}(hc:∀y∈ys,cleanV y=y)(h:WordsOf ys W)(h':WordsOf ys W'):W=W':=by
 obtain⟨S,hp,hr,rfl⟩:=h
 obtain⟨S',hp',hr',rfl⟩:=h'
 rw[rises_eq hr hr' (hp.trans hp'.symm) (fun x hx=>hc x (hp.mem_iff.1 hx))]
theorem body_one{n:Nat}{ys:List Val}{b b':List Int}(hc:∀y∈ys,cleanV y=y)(h:BodyB n ys b)(h':BodyB n ys b'):b=b':=by
 rcases h with ⟨rfl,rfl⟩|⟨rfl,rfl⟩|⟨rfl,W,hW,rfl⟩|⟨rfl,rfl⟩
 ·rcases h' with ⟨_,rfl⟩|⟨e,_⟩|⟨e,_⟩|⟨e,_⟩
  ·rfl
  all_goals cases e
 ·rcases h' with ⟨e,_⟩|⟨_,rfl⟩|⟨e,_⟩|⟨e,_⟩
  ·cases e
  ·rfl
  all_goals cases e
 ·rcases h' with ⟨e,_⟩|⟨e,_⟩|⟨_,W',hW',rfl⟩|⟨e,_⟩
  ·cases e
  ·cases e
  ·rw[words_one hc hW hW']
  ·cases e
 ·rcases h' with ⟨e,_⟩|⟨e,_⟩|⟨e,_⟩|⟨_,rfl⟩
  ·cases e
  ·cases e
  ·cases e
  ·rfl
theorem pw_one{X:Vc}(hg:goodB X=true){n:Int}{s s':ByteArray}{f f':Int}(h:PW X n s f)(h':PW X n s' f'):s=s'/\f=f':=by
 rcases h with ⟨h1,rfl,rfl⟩|⟨h1,h2,rfl,rfl⟩|⟨h1,h2,rfl,b,hb,rfl⟩
 ·rcases h' with ⟨_,rfl,rfl⟩|⟨g1,_⟩|⟨g1,_⟩
  ·exact⟨rfl,rfl⟩
  ·rw[h1] at g1;cases g1
  ·rw[h1] at g1;cases g1
 ·rcases h' with ⟨g1,_⟩|⟨_,_,rfl,rfl⟩|⟨_,g2,_⟩
  ·rw[h1] at g1;cases g1
  ·exact⟨rfl,rfl⟩
  ·omega
 ·rcases h' with ⟨g1,_⟩|⟨_,g2,_⟩|⟨_,_,rfl,b',hb',rfl⟩
  ·rw[h1] at g1;cases g1
  ·omega
  ·rw[body_one (fun y hy=>vals_clean hg (List.mem_filter.1 hy).1) hb hb']
   exact⟨rfl,rfl⟩
theorem pb_one{X:Vc}(hg:goodB X=true):∀(j:Nat) (b:ByteArray),PB X j b->(∃n:Nat,1<=n/\n<=j+1/\PW X (n:Int) b 0)/\∀(n:Nat) (s:ByteArray),1<=n->n<=j+1->PW X (n:Int) s 0->b.size<=s.size
 | 0,b,h=>by
  refine⟨⟨1,by omega,by omega,h⟩,fun n s h1 h2 hs=>?_⟩
  have:n=1:=by omega
  subst this
  rw[(pw_one hg h hs).1];exact Nat.le_refl _
 | j+1,b,⟨c,s,f,hc,hs,hb⟩=>by
  obtain⟨⟨n,n1,n2,hn⟩,hmin⟩:=pb_one hg j c hc
  have e:(j:Int)+2=((j+2:Nat):Int):=by omega
  rw[e] at hs
  subst hb
  unfold pickB
  by_cases hp:f=0/\s.size<c.size
  ·rw[if_pos hp]
   obtain⟨rfl,hlt⟩:=hp
   refine⟨⟨j+2,by omega,by omega,hs⟩,fun m t m1 m2 ht=>?_⟩
   by_cases hm:m=j+2
   ·subst hm;rw[(pw_one hg hs ht).1];exact Nat.le_refl _
   ·have:=hmin m t m1 (by omega) ht;omega
  ·rw[if_neg hp]
   refine⟨⟨n,n1,by omega,hn⟩,fun m t m1 m2 ht=>?_⟩
   by_cases hm:m=j+2
   ·subst hm
    obtain⟨e1,e2⟩:=pw_one hg hs ht
    subst e1;subst e2
    have:¬s.size<c.size:=fun h=>hp ⟨rfl,h⟩
    omega
   ·exact hmin m t m1 (by omega) ht
theorem runsB_len:∀(f:Nat) (xs:List Val),(∀x∈xs,x.s.size<=1000)->(runsB f xs).length<=1012*f
 | 0,_,_=>by simp[runsB]
 | f+1,[],_=>by simp[runsB]
 | f+1,x::xs,h=>by
  have h1:=plainL_len x
  have h2:=h x (by simp)
  have h3:=runsB_len f ((x::xs).drop (aheadN (x::xs))) (fun y hy=>h y (List.mem_of_mem_drop hy))
  rw[runsB,List.length_append,List.length_append,beL_len]
  omega
theorem bytesN_le{k d:Nat}(hk:k<=4096)(hd:d<=64):bytesN k d<=32769:=by
 have:k*d<=4096*64:=Nat.mul_le_mul hk hd
 unfold bytesN;omega
theorem body_len{n:Nat}{ys:List Val}{b:List Int}(h:BodyB n ys b)(hl:ys.length<=4096)(hs:∀x∈ys,x.s.size<=1000):b.length<=5000000:=by
 rcases h with ⟨_,rfl⟩|⟨_,rfl⟩|⟨_,W,hW,rfl⟩|⟨_,rfl⟩
 ·have:=plains_len4 ys hs hl;omega
 ·have:=runsB_len ys.length ys hs
  rw[List.length_append,beL_len];omega
 ·have h1:=plains_len4 W (fun x hx=>hs x (hW.sub hx)) (by have:=hW.len;omega)
  have hlen:=hW.len
  have hd:bl (W.length-1)<=64:=bl_le (by have:(2:Nat)^64=18446744073709551616:=(by decide);omega)
  have:=bytesN_le hl hd
  unfold wordsB
  rw[List.length_append,List.length_append,beL_len,leB_len];omega
 ·have:=bytesN_le hl (widL_le (leastI ys) ys)
  unfold offsB
  rw[List.length_append,List.length_append,beL_len,beL_len,leB_len];omega
theorem pw_size{X:Vc}{n:Int}{s:ByteArray}(h:PW X n s 0):s.size<=6000000:=by
 rcases h with ⟨_,_,h⟩|⟨_,_,_,h⟩|⟨hb,hl,_,b,hbody,rfl⟩
 ·cases h
 ·cases h
 have hg:goodB X=true:=by
  unfold badW at hb
  cases hgg:goodB X
  ·rw[hgg] at hb;simp at hb
  ·rfl
 have hvl:(valsV X).length<=4096:=Nat.le_trans (vals_le X) hl
 have h1:=body_len hbody (Nat.le_trans (List.length_filter_le _ _) hvl) (fun x hx=>vals_size hg (List.mem_filter.1 hx).1)
 have h2:=nulls_len (valsV X) hvl
 rw[toB_size,List.length_append]
 unfold headB
 rw[List.length_append,List.length_append,List.length_append,beL_len,beL_len,beL_len]
 omega
theorem pw_opens{X:Vc}(hr:∀n∈X.ns,-9223372036854775808<=n/\n<=9223372036854775807){n:Nat}(h1:1<=n)(h4:n<=4){s:ByteArray}(h:PW X (n:Int) s 0):Opens s n X.k (valsV X):=
 opens_of (by have:=pw_size h;omega) (packed_col hr (by omega) h)
end Go.Proofs.YtbfibfmnemnbbaaGreat
set_option linter.unusedSimpArgs false
set_option linter.unusedVariables false
set_option maxHeartbeats 400000
set_option maxRecDepth 100000
namespace Go.Proofs.YtbfibfmnemnbbaaGreat
open Go.RowKit Go.Sort
theorem values_die{b count:Nat}{sch kind:Int}{w:World}(f:Nat)
  (hf:(sch=1/\f=165)∨(sch=2/\f=166)∨(sch=3/\f=167)) (hcall:Calls Tryz.prog f #[.pointer (some ⟨b,0,none⟩),.int .i64 kind,.int .i64 count] w fun e w'=>e=dmg/\Gr w w' b) :
  Calls Tryz.prog 152 #[.pointer (some ⟨b,0,none⟩),.int .i64 sch,.int .i64 kind,.int .i64 count] w fun e w'=>e=dmg/\Gr w w' b:=by
 have HC:=hide hcall
 clear hcall
 rcases hf with ⟨rfl,rfl⟩|⟨rfl,rfl⟩|⟨rfl,rfl⟩
 ·go_enter Tryz.func152,Tryz.ntmps152
  go_wp2_with (go_at_call 165;refine(unhide HC).mono ?_;rintro e w1 ⟨rfl,h1⟩)
  exact⟨rfl,rfl,h1⟩
 ·go_enter Tryz.func152,Tryz.ntmps152
  go_wp2_with (go_at_call 166;refine(unhide HC).mono ?_;rintro e w1 ⟨rfl,h1⟩)
  exact⟨rfl,rfl,h1⟩
 ·go_enter Tryz.func152,Tryz.ntmps152
  go_wp2_with (go_at_call 167;refine(unhide HC).mono ?_;rintro e w1 ⟨rfl,h1⟩)
  exact⟨rfl,rfl,h1⟩
theorem values_die4{b count:Nat}{w:World}(hcall:Calls Tryz.prog 168 #[.pointer (some ⟨b,0,none⟩),.int .i64 count] w fun e w'=>e=dmg/\Gr w w' b) :
  Calls Tryz.prog 152 #[.pointer (some ⟨b,0,none⟩),.int .i64 4,.int .i64 1,.int .i64 count] w fun e w'=>e=dmg/\Gr w w' b:=by
 have HC:=hide hcall
 clear hcall
 go_enter Tryz.func152,Tryz.ntmps152
 go_wp2_with (first
  | (go_at_call 150;refine(ensure_yes _).mono ?_;rintro e w4 ⟨rfl,rfl⟩)
  | (go_at_call 168;refine(unhide HC).mono ?_;rintro e w1 ⟨rfl,h1⟩))
 exact⟨rfl,rfl,h1⟩
theorem values_die5{b count:Nat}{sch kind:Int}{w:World}(h1:sch≠1)(h2:sch≠2)(h3:sch≠3)(h4:¬(sch=4/\kind=1)) :
  Calls Tryz.prog 152 #[.pointer (some ⟨b,0,none⟩),.int .i64 sch,.int .i64 kind,.int .i64 count] w fun e w'=>e=dmg/\Gr w w' b:=by
 have e1:(sch == 1)=false:=by simpa using h1
 have e2:(sch == 2)=false:=by simpa using h2
 have e3:(sch == 3)=false:=by simpa using h3
 by_cases g:sch=4
 ·subst g
  have e5:(kind == 1)=false:=by simp;exact fun e=>h4 ⟨rfl,e⟩
  clear h1 h2 h3 h4
  go_enter Tryz.func152,Tryz.ntmps152
  go_wp2_with (go_at_call 150;refine(ensure_no _).mono ?_;rintro e w4 ⟨rfl,rfl⟩)
  exact⟨rfl,rfl,Gr.refl _ _⟩
 ·have e4:(sch == 4)=false:=by simpa using g
  clear h1 h2 h3 h4 g
  go_enter Tryz.func152,Tryz.ntmps152
  go_wp2_with (go_at_call 150;refine(ensure_no _).mono ?_;rintro e w4 ⟨rfl,rfl⟩)
  exact⟨rfl,rfl,Gr.refl _ _⟩
theorem dies_of{w w':World}{e:Ending}{b:Nat}(h:PlainsR w w' e b none):e=dmg/\Gr w w' b:=by
 rcases h with ⟨vs',r',v,he,_⟩|⟨_,he,hg⟩
 ·cases he
 ·exact⟨he,hg⟩
theorem values_no{b count sch:Nat}{kind:Int}{w:World}{l:List UInt8}(hc:count<=4096)(hk:kind=1∨kind=2)(h:Rd w b l)(hl:l.length<=140737488355328)(hv:valuesD sch kind count l=none) :
  Calls Tryz.prog 152 #[.pointer (some ⟨b,0,none⟩),.int .i64 (sch:Int),.int .i64 kind,.int .i64 count] w fun e w'=>e=dmg/\Gr w w' b:=by
 unfold valuesD at hv
 split at hv
 ·rename_i hs
  subst hs
  refine values_die 165 (.inl ⟨rfl,rfl⟩) ?_
  have:=plains_any b count kind l w hk (by omega) h hl
  rw[hv] at this
  exact this.mono fun e w' h=>dies_of h
 ·rename_i n1
  split at hv
  ·rename_i hs
   subst hs
   exact values_die 166 (.inr (.inl ⟨rfl,rfl⟩)) (runs_no hc hk h hl hv)
  ·rename_i n2
   split at hv
   ·rename_i hs
    subst hs
    exact values_die 167 (.inr (.inr ⟨rfl,rfl⟩)) (words_no hc hk h hl hv)
   ·rename_i n3
    split at hv
    ·rename_i hs
     obtain⟨rfl,rfl⟩:=hs
     refine values_die4 ?_
     have:=offsets_any b count l w hc h hl
     rw[hv] at this
     exact this.mono fun e w' h=>dies_of h
    ·rename_i n4
     exact values_die5 (by omega) (by omega) (by omega) (fun ⟨g1,g2⟩=>n4 ⟨by omega,g2⟩)
theorem nulls_y{b n:Nat}{l3 l4:List UInt8}{nl:List Bool}(hn:n<=4096)(hl:l3.length<=140737488355328)(h4:nullsD n l3=some (nl,l4))(W:World)(hW:Rd W b l3) :
  Calls Tryz.prog 151 #[.pointer (some ⟨b,0,none⟩),.int .i64 n] W fun e w'=>∃g,e=.returned (.tuple #[.slice (some ⟨g,0,none⟩) n n,.int .i64 (nl.count true:Nat)])/\w'.rowIs g 4 n (fun j=>.bool (nl.getD j false))/\W.heap.size<=g/\Rd w' b l4/\Gr W w' b:=by
 have:=nulls_any b n l3 W hn hW hl
 rw[h4] at this
 refine this.mono ?_
 rintro e w' (⟨nl',r',g,he,g1,g2,g3,g4,g5,g6⟩|⟨he,_⟩)
 ·injection he with he;injection he with e1 e2;subst e1;subst e2
  exact⟨g,g1,g2,g4,g5,g6⟩
 ·cases he
theorem nulls_n{b n:Nat}{l3:List UInt8}(hn:n<=4096)(hl:l3.length<=140737488355328)(h4:nullsD n l3=none)(W:World)(hW:Rd W b l3) :
  Calls Tryz.prog 151 #[.pointer (some ⟨b,0,none⟩),.int .i64 n] W fun e w'=>e=dmg/\Gr W w' b:=by
 have:=nulls_any b n l3 W hn hW hl
 rw[h4] at this
 refine this.mono ?_
 rintro e w' (⟨nl',r',g,he,_⟩|⟨_,he,hg⟩)
 ·cases he
 ·exact⟨he,hg⟩
theorem count_bool:∀m:List Bool,m.count false+m.count true=m.length:=by
 intro m
 induction m with
 | nil=>rfl
 | cons a m ih=>cases a<;>simp[List.count_cons]<;>omega
theorem col_no1{b:Nat}{l:List UInt8}{w:World}(h:Rd w b l)(hl:l.length<=140737488355328)(h1:numD 1 l=none) :
  Calls Tryz.prog 129 #[.pointer (some ⟨b,0,none⟩)] w fun e w'=>e=dmg/\Gr w w' b:=by
 have C1:=hide (fun o=>numd_no (h.alloc o) hl h1)
 clear h
 go_enter Tryz.func129,Tryz.ntmps129
 go_wp2_with (go_at_call 149;refine(unhide C1 _).mono ?_;rintro e w1 ⟨rfl,rfl⟩)
 exact⟨rfl,rfl,Gr.alloc _ _ _⟩
theorem col_no2{b sch:Nat}{l l1:List UInt8}{w:World}(h:Rd w b l)(hl:l.length<=140737488355328)(h1:numD 1 l=some (sch,l1))(h2:numD 1 l1=none) :
  Calls Tryz.prog 129 #[.pointer (some ⟨b,0,none⟩)] w fun e w'=>e=dmg/\Gr w w' b:=by
 have b1:=numD_le h1
 have hsch:=num1_lt h1
 have C1:=hide (fun o=>numd_yes (h.alloc o) hl h1 (by decide))
 have C2:=hide (fun W (hW:Rd W b l1)=>numd_no hW (by omega) h2)
 clear h
 go_enter Tryz.func129,Tryz.ntmps129
 go_wp2_with (go_at_call 149;first | (refine(unhide C2 _ hr1).mono ?_;rintro e w2 ⟨rfl,rfl⟩) | (refine(unhide C1 _).mono ?_;rintro e w1 ⟨rfl,hr1,hg1⟩))
 exact⟨rfl,rfl,hg1.of_alloc⟩
theorem col_no3{b sch kd:Nat}{l l1 l2:List UInt8}{w:World}(h:Rd w b l)(hl:l.length<=140737488355328)(h1:numD 1 l=some (sch,l1))(h2:numD 1 l1=some (kd,l2))(hk:¬(kd=1∨kd=2)) :
  Calls Tryz.prog 129 #[.pointer (some ⟨b,0,none⟩)] w fun e w'=>e=dmg/\Gr w w' b:=by
 have b1:=numD_le h1
 have hsch:=num1_lt h1
 have hkd:=num1_lt h2
 have C1:=hide (fun o=>numd_yes (h.alloc o) hl h1 (by decide))
 have C2:=hide (fun W (hW:Rd W b l1)=>numd_yes hW (by omega) h2 (by decide))
 have k1:((kd:Int) == 1)=false:=by simp;omega
 have k2:((kd:Int) == 2)=false:=by simp;omega
 clear h hk
 go_enter Tryz.func129,Tryz.ntmps129
 go_wp2_with (first
  | (go_at_call 149;first | (refine(unhide C2 _ hr1).mono ?_;rintro e w2 ⟨rfl,hr2,hg2⟩) | (refine(unhide C1 _).mono ?_;rintro e w1 ⟨rfl,hr1,hg1⟩))
  | (go_at_call 150;refine(ensure_no _).mono ?_;rintro e wE ⟨rfl,rfl⟩))
 exact⟨rfl,rfl,hg1.of_alloc.trans hg2⟩
theorem col_no4{b sch kd:Nat}{l l1 l2:List UInt8}{w:World}(h:Rd w b l)(hl:l.length<=140737488355328)(h1:numD 1 l=some (sch,l1))(h2:numD 1 l1=some (kd,l2))(hk:kd=1∨kd=2)(h3:numD 4 l2=none) :
  Calls Tryz.prog 129 #[.pointer (some ⟨b,0,none⟩)] w fun e w'=>e=dmg/\Gr w w' b:=by
 have b1:=numD_le h1
 have b2:=numD_le h2
 have hsch:=num1_lt h1
 have C1:=hide (fun o=>numd_yes (h.alloc o) hl h1 (by decide))
 have C2:=hide (fun W (hW:Rd W b l1)=>numd_yes hW (by omega) h2 (by decide))
 have C3:=hide (fun W (hW:Rd W b l2)=>numd_no hW (by omega) h3)
 clear h h2
 rcases hk with rfl|rfl
 all_goals
  go_enter Tryz.func129,Tryz.ntmps129
  go_wp2_with (first
   | (go_at_call 149;first | (refine(unhide C3 _ hr2).mono ?_;rintro e w3 ⟨rfl,rfl⟩) | (refine(unhide C2 _ hr1).mono ?_;rintro e w2 ⟨rfl,hr2,hg2⟩) | (refine(unhide C1 _).mono ?_;rintro e w1 ⟨rfl,hr1,hg1⟩))
   | (go_at_call 150;refine(ensure_yes _).mono ?_;rintro e wE ⟨rfl,rfl⟩))
  exact⟨rfl,rfl,hg1.of_alloc.trans hg2⟩
theorem col_no5{b sch kd n:Nat}{l l1 l2 l3:List UInt8}{w:World}(h:Rd w b l)(hl:l.length<=140737488355328)(h1:numD 1 l=some (sch,l1))(h2:numD 1 l1=some (kd,l2))(hk:kd=1∨kd=2)(h3:numD 4 l2=some (n,l3))(hn:¬n<=4096) :
  Calls Tryz.prog 129 #[.pointer (some ⟨b,0,none⟩)] w fun e w'=>e=dmg/\Gr w w' b:=by
 have b1:=numD_le h1
 have b2:=numD_le h2
 have hsch:=num1_lt h1
 have C1:=hide (fun o=>numd_yes (h.alloc o) hl h1 (by decide))
 have C2:=hide (fun W (hW:Rd W b l1)=>numd_yes hW (by omega) h2 (by decide))
 have C3:=hide (fun W (hW:Rd W b l2)=>numd_yes hW (by omega) h3 (by decide))
 have HNN:Hid (decide ((n:Int)<=4096)=false):=decide_eq_false (by omega)
 clear h h2 hn h3
 rcases hk with rfl|rfl
 all_goals
  go_enter Tryz.func129,Tryz.ntmps129
  go_wp2_with (first
   | (go_at_call 149;first | (refine(unhide C3 _ hr2).mono ?_;rintro e w3 ⟨rfl,hr3,hg3⟩) | (refine(unhide C2 _ hr1).mono ?_;rintro e w2 ⟨rfl,hr2,hg2⟩) | (refine(unhide C1 _).mono ?_;rintro e w1 ⟨rfl,hr1,hg1⟩))
   | (go_at_call 150;first | (refine(ensure_yes _).mono ?_;rintro e wE ⟨rfl,rfl⟩) | (refine(ensureF _ (unhide HNN) _).mono ?_;rintro e wF ⟨rfl,rfl⟩)))
  exact⟨rfl,rfl,(hg1.of_alloc.trans hg2).trans hg3⟩
theorem col_no6{b sch kd n:Nat}{l l1 l2 l3:List UInt8}{w:World}(h:Rd w b l)(hl:l.length<=140737488355328)(h1:numD 1 l=some (sch,l1))(h2:numD 1 l1=some (kd,l2))(hk:kd=1∨kd=2)(h3:numD 4 l2=some (n,l3))(hn:n<=4096)(h4:nullsD n l3=none) :
  Calls Tryz.prog 129 #[.pointer (some ⟨b,0,none⟩)] w fun e w'=>e=dmg/\Gr w w' b:=by
 have b1:=numD_le h1
 have b2:=numD_le h2
 have b3:=numD_le h3
 have hsch:=num1_lt h1
 have C1:=hide (fun o=>numd_yes (h.alloc o) hl h1 (by decide))
 have C2:=hide (fun W (hW:Rd W b l1)=>numd_yes hW (by omega) h2 (by decide))
 have C3:=hide (fun W (hW:Rd W b l2)=>numd_yes hW (by omega) h3 (by decide))
 have C4:=hide (nulls_n (b:=b) hn (by omega) h4)
 have hni:(n:Int)<=4096:=by omega
 clear h h2 h3 h4
 rcases hk with rfl|rfl
 all_goals
  go_enter Tryz.func129,Tryz.ntmps129
  go_wp2_with (first
   | (go_at_call 149;first | (refine(unhide C3 _ hr2).mono ?_;rintro e w3 ⟨rfl,hr3,hg3⟩) | (refine(unhide C2 _ hr1).mono ?_;rintro e w2 ⟨rfl,hr2,hg2⟩) | (refine(unhide C1 _).mono ?_;rintro e w1 ⟨rfl,hr1,hg1⟩))
   | (go_at_call 150;refine(ensure_yes _).mono ?_;rintro e wE ⟨rfl,rfl⟩)
   | (go_at_call 151;refine(unhide C4 _ hr3).mono ?_;rintro e w4 ⟨rfl,hg4⟩))
  exact⟨rfl,rfl,((hg1.of_alloc.trans hg2).trans hg3).trans hg4⟩
theorem col_no7{b sch kd n:Nat}{l l1 l2 l3 l4:List UInt8}{nl:List Bool}{w:World}(h:Rd w b l)(hl:l.length<=140737488355328)(h1:numD 1 l=some (sch,l1))(h2:numD 1 l1=some (kd,l2))(hk:kd=1∨kd=2)(h3:numD 4 l2=some (n,l3))(hn:n<=4096)(h4:nullsD n l3=some (nl,l4))(h5:valuesD sch (kd:Int) (nl.count false) l4=none) :
  Calls Tryz.prog 129 #[.pointer (some ⟨b,0,none⟩)] w fun e w'=>e=dmg/\Gr w w' b:=by
 have b1:=numD_le h1
 have b2:=numD_le h2
 have b3:=numD_le h3
 obtain⟨hnl,b4⟩:=nullsD_len h4
 have hct:=count_bool nl
 have hsch:=num1_lt h1
 have C1:=hide (fun o=>numd_yes (h.alloc o) hl h1 (by decide))
 have C2:=hide (fun W (hW:Rd W b l1)=>numd_yes hW (by omega) h2 (by decide))
 have C3:=hide (fun W (hW:Rd W b l2)=>numd_yes hW (by omega) h3 (by decide))
 have C4:=hide (nulls_y (b:=b) hn (by omega) h4)
 have hki:((kd:Int))=1∨(kd:Int)=2:=by omega
 have hcf:nl.count false<=4096:=by omega
 have C5:=hide (fun W (hW:Rd W b l4)=>values_no hcf hki hW (by omega) h5)
 have hni:(n:Int)<=4096:=by omega
 obtain⟨cT,hcT⟩:∃cT,cT=nl.count true:=⟨_,rfl⟩
 obtain⟨cF,hcF⟩:∃cF,cF=nl.count false:=⟨_,rfl⟩
 rw[<-hcT] at C4
 rw[<-hcF] at C5
 have e1:(n:Int)-(cT:Int)=(cF:Int):=by omega
 have hcTn:cT<=n:=by omega
 clear h h2 h3 h4 h5 hct hcT hcF hnl hcf
 rcases hk with rfl|rfl
 all_goals
  go_enter Tryz.func129,Tryz.ntmps129
  go_wp2_with (first
   | (go_at_call 149;first | (refine(unhide C3 _ hr2).mono ?_;rintro e w3 ⟨rfl,hr3,hg3⟩) | (refine(unhide C2 _ hr1).mono ?_;rintro e w2 ⟨rfl,hr2,hg2⟩) | (refine(unhide C1 _).mono ?_;rintro e w1 ⟨rfl,hr1,hg1⟩))
   | (go_at_call 150;refine(ensure_yes _).mono ?_;rintro e wE ⟨rfl,rfl⟩)
   | (go_at_call 151;refine(unhide C4 _ hr3).mono ?_;rintro e w4 ⟨g,rfl,hrow4,hgl4,hr4,hg4⟩)
   | (go_at_call 152;refine(unhide C5 _ hr4).mono ?_;rintro e w5 ⟨rfl,hg5⟩))
  exact⟨rfl,rfl,(((hg1.of_alloc.trans hg2).trans hg3).trans hg4).trans hg5⟩
theorem col_no8{b sch kd n:Nat}{l l1 l2 l3 l4 r:List UInt8}{nl:List Bool}{vs:List Val}{w:World}(h:Rd w b l)(hl:l.length<=140737488355328)(h1:numD 1 l=some (sch,l1))(h2:numD 1 l1=some (kd,l2))(hk:kd=1∨kd=2)(h3:numD 4 l2=some (n,l3))(hn:n<=4096)(h4:nullsD n l3=some (nl,l4))(h5:valuesD sch (kd:Int) (nl.count false) l4=some (vs,r))(hr:r≠[]) :
  Calls Tryz.prog 129 #[.pointer (some ⟨b,0,none⟩)] w fun e w'=>e=dmg/\Gr w w' b:=by
 have b1:=numD_le h1
 have b2:=numD_le h2
 have b3:=numD_le h3
 obtain⟨hnl,b4⟩:=nullsD_len h4
 have hct:=count_bool nl
 have hsch:=num1_lt h1
 have C1:=hide (fun o=>numd_yes (h.alloc o) hl h1 (by decide))
 have C2:=hide (fun W (hW:Rd W b l1)=>numd_yes hW (by omega) h2 (by decide))
 have C3:=hide (fun W (hW:Rd W b l2)=>numd_yes hW (by omega) h3 (by decide))
 have C4:=hide (nulls_y (b:=b) hn (by omega) h4)
 have hki:((kd:Int))=1∨(kd:Int)=2:=by omega
 have hcf:nl.count false<=4096:=by omega
 have C5:=hide (fun W (hW:Rd W b l4)=>values_yes hcf hki hW (by omega) h5)
 have hni:(n:Int)<=4096:=by omega
 obtain⟨cT,hcT⟩:∃cT,cT=nl.count true:=⟨_,rfl⟩
 obtain⟨cF,hcF⟩:∃cF,cF=nl.count false:=⟨_,rfl⟩
 rw[<-hcT] at C4
 rw[<-hcF] at C5
 have e1:(n:Int)-(cT:Int)=(cF:Int):=by omega
 have hcTn:cT<=n:=by omega
 have HRE:Hid ((bs r).toList.isEmpty=false):=by
  show _=_
  cases hq:(bs r).toList.isEmpty with
  | false=>rfl
  | true=>
   have:=congrArg List.length (List.isEmpty_iff.1 hq)
   cases r with
   | nil=>exact absurd rfl hr
   | cons a r=>simp[bs,ByteArray.toList_eq] at this
 clear h h2 h3 h4 h5 hct hcT hcF hnl hcf
 rcases hk with rfl|rfl
 all_goals
  go_enter Tryz.func129,Tryz.ntmps129
  go_wp2_with (first
   | (go_at_call 149;first | (refine(unhide C3 _ hr2).mono ?_;rintro e w3 ⟨rfl,hr3,hg3⟩) | (refine(unhide C2 _ hr1).mono ?_;rintro e w2 ⟨rfl,hr2,hg2⟩) | (refine(unhide C1 _).mono ?_;rintro e w1 ⟨rfl,hr1,hg1⟩))
   | (go_at_call 150;first | (refine(ensure_yes _).mono ?_;rintro e wE ⟨rfl,rfl⟩) | (refine(ensureF _ (unhide HRE) _).mono ?_;rintro e wF ⟨rfl,rfl⟩))
   | (go_at_call 151;refine(unhide C4 _ hr3).mono ?_;rintro e w4 ⟨g,rfl,hrow4,hgl4,hr4,hg4⟩)
   | (go_at_call 152;refine(unhide C5 _ hr4).mono ?_;rintro e w5 ⟨v5,rfl,ho5,hr5,hg5⟩;obtain⟨a5,c5,rfl,_,_,hrw5⟩:=ownV_slice ho5;have c9:w5.cell? ⟨b,0,none⟩=some (.string (bs r)):=hr5.cell))
  exact⟨rfl,rfl,(((hg1.of_alloc.trans hg2).trans hg3).trans hg4).trans hg5⟩
theorem column_no{b:Nat}{l:List UInt8}{w:World}(h:Rd w b l)(hl:l.length<=140737488355328)(hd:columnD l=none) :
  Calls Tryz.prog 129 #[.pointer (some ⟨b,0,none⟩)] w fun e w'=>e=dmg/\Gr w w' b:=by
 unfold columnD at hd
 cases h1:numD 1 l with
 | none=>exact col_no1 h hl h1
 | some a=>
  obtain⟨sch,l1⟩:=a
  rw[h1,Option.bind_some] at hd
  cases h2:numD 1 l1 with
  | none=>exact col_no2 h hl h1 h2
  | some q=>
   obtain⟨kd,l2⟩:=q
   simp only[h2,Option.bind_some] at hd
   by_cases hk:kd=1∨kd=2
   ·rw[if_pos hk] at hd
    cases h3:numD 4 l2 with
    | none=>exact col_no4 h hl h1 h2 hk h3
    | some q=>
     obtain⟨n,l3⟩:=q
     simp only[h3,Option.bind_some] at hd
     by_cases hn:n<=4096
     ·rw[if_pos hn] at hd
      cases h4:nullsD n l3 with
      | none=>exact col_no6 h hl h1 h2 hk h3 hn h4
      | some q=>
       obtain⟨nl,l4⟩:=q
       simp only[h4,Option.bind_some] at hd
       cases h5:valuesD sch (kd:Int) (nl.count false) l4 with
       | none=>exact col_no7 h hl h1 h2 hk h3 hn h4 h5
       | some q=>
        obtain⟨vs,r⟩:=q
        simp only[h5,Option.bind_some] at hd
        by_cases hr:r=[]
        ·rw[if_pos hr] at hd;cases hd
        ·exact col_no8 h hl h1 h2 hk h3 hn h4 h5 hr
     ·exact col_no5 h hl h1 h2 hk h3 hn
   ·exact col_no3 h hl h1 h2 hk
end Go.Proofs.YtbfibfmnemnbbaaGreat
set_option linter.unusedSimpArgs false
set_option linter.unusedVariables false
set_option maxHeartbeats 1000000
set_option maxRecDepth 100000
namespace Go.Proofs.YtbfibfmnemnbbaaGreat
open Go.RowKit Go.Sort
theorem wp_cast{P:Program}{c:Code}{Q:Exit->Act->World->Prop}{T T':Array Value}{ds:List Deferred}{w:World}(e:T=T')(h:c.wp P Q { tmps:=T',defers:=ds } w):c.wp P Q { tmps:=T,defers:=ds } w:=e ▸ h
theorem catch_dmg(g h:Nat)(w:World)(hg:w.rowIs g 134 3 (box86 (.int .i64 0) (.int .i64 0) (.slice none 0 0)))(hh:At1 w h 29 (.int .i64 0))(hgh:g≠h) :
  CallsD Tryz.prog 128 #[.pointer (some ⟨g,0,none⟩),.pointer (some ⟨h,0,none⟩)] (.panicking [{ v:=.iface 154 (.agg #[]),recovered:=false }]) w fun e u' w'=>e=.returned (.tuple #[])/\u'=.panicking [{ v:=.iface 154 (.agg #[]),recovered:=true }]/\w'=((((w.alloc (.cells #[] 154)).setCell ⟨g,0,none⟩ (.int .i64 0)).setCell ⟨g,1,none⟩ (.int .i64 0)).setCell ⟨g,2,none⟩ (.slice none 0 0)).setCell ⟨h,0,none⟩ (.int .i64 2):=by
 obtain⟨p0,p1,p2,q0,q1,q2⟩:=box86_facts (hg.alloc (.cells #[] 154))
 have y0:=(hh.new (.cells #[] 154)).cell
 have z0:=World.rowIs.frozen (hh.new (.cells #[] 154)) 0
 have hta:∀w:World,(Instr.typeAssert (Value.iface 154 (Value.agg #[])) 20 154 true).run Tryz.prog w=.ok (.tuple #[.agg #[],.bool true]) w:=fun _=>by kernel_rfl
 refine callsD_of_wpS Tryz.func128 rfl fun c₀ cs hu=>?_
 apply wpS_seq
 apply wpS_region
 simp[wpOpsS,go_sem,recoverD,hu,Tryz.ntmps128,Exit.thenS]
 refine wpS_of_wp ?_
 refine wp_cast (T':=#[.pointer (some ⟨g,0,none⟩),.pointer (some ⟨h,0,none⟩),.iface 154 (.agg #[]),undef,undef,.iface 154 (.agg #[]),undef,undef,undef,undef,undef,undef,undef,undef,undef,undef,undef]) (by rfl) ?_
 go_wp2
 exact⟨rfl,_,rfl,_,by simp[results,Tryz.results128,go_sem],rfl,rfl,rfl⟩
theorem opened_no{l:List UInt8}{w:World}(hl:l.length<=140737488355328)(hd:columnD l=none) :
  Calls Tryz.prog 92 #[.string (bs l)] w fun e w'=>e=.returned (.tuple #[.agg #[.int .i64 0,.int .i64 0,.slice none 0 0],.int .i64 2])/\Below w.heap.size w w':=by
 have hmf:=makeFunc_run
 have HC:Hid (∀o1 o2,Calls Tryz.prog 129 #[.pointer (some ⟨w.heap.size+1+1,0,none⟩)] (((w.alloc o1).alloc o2).alloc (.cells #[.string (bs l)] 157)) fun e w'=>e=dmg/\Gr (((w.alloc o1).alloc o2).alloc (.cells #[.string (bs l)] 157)) w' (w.heap.size+1+1)):=fun o1 o2=>by
  have h:=Rd.made ((w.alloc o1).alloc o2) l
  have e:((w.alloc o1).alloc o2).heap.size=w.heap.size+1+1:=by simp
  rw[e] at h
  exact column_no h hl hd
 have HX:Hid (∀w1 o,Gr (((w.alloc (.cells #[.int .i64 0,.int .i64 0,.slice none 0 0] 134)).alloc (.cells #[.int .i64 0] 29)).alloc o) w1 (w.heap.size+1+1)->w1.rowIs w.heap.size 134 3 (box86 (.int .i64 0) (.int .i64 0) (.slice none 0 0))/\At1 w1 (w.heap.size+1) 29 (.int .i64 0)):=fun w1 o hg=>by
  refine⟨row_grx (((box86_alloc w _ _ _).alloc _).alloc _) hg (by omega),?_⟩
  have h:=At1.alloc (w.alloc (.cells #[.int .i64 0,.int .i64 0,.slice none 0 0] 134)) 29 (.int .i64 0)
  have e:(w.alloc (.cells #[.int .i64 0,.int .i64 0,.slice none 0 0] 134)).heap.size=w.heap.size+1:=by simp
  rw[e] at h
  exact(h.new o).gr hg (by omega)
 go_enter_defers Tryz.func92,Tryz.ntmps92
 go_wp2_with (go_at_call 129;refine(unhide HC _ _).mono ?_;rintro e w1 ⟨rfl,hg1⟩;obtain⟨hx1,hx2⟩:=unhide HX w1 _ hg1)
 refine leaves_cons (f:=128) (args:=#[.pointer (some ⟨w.heap.size,0,none⟩),.pointer (some ⟨w.heap.size+1,0,none⟩)]) (by simp) (by simp[go_sem]) ?_
 refine(catch_dmg w.heap.size (w.heap.size+1) _ hx1 hx2 (by omega)).mono ?_
 rintro e u' w'' ⟨rfl,rfl,hw⟩
 have hz:w.heap.size+1+1+1<=w1.heap.size:=by have:=hg1.size;simpa using this
 have hb:Below w.heap.size w w1:=by
  refine⟨hg1.os,hg1.tape,hg1.output,by omega,fun i hi=>?_⟩
  rw[hg1.block i (by simp;omega) (fun e=>by injection e with e;omega),Below.heap_alloc _ _ _ (by simp;omega),Below.heap_alloc _ _ _ (by simp;omega),Below.heap_alloc _ _ _ hi]
 have hB:Below w.heap.size w w'':=by
  rw[hw]
  exact((((below_alloc hb _).setCell (p:=⟨w.heap.size,0,none⟩) (Nat.le_refl _) _).setCell (p:=⟨w.heap.size,1,none⟩) (Nat.le_refl _) _).setCell (p:=⟨w.heap.size,2,none⟩) (Nat.le_refl _) _).setCell (p:=⟨w.heap.size+1,0,none⟩) (by simp) _
 have hx3:w''.rowIs w.heap.size 134 3 (box86 (.int .i64 0) (.int .i64 0) (.slice none 0 0)):=by
  rw[hw]
  refine World.rowIs.setOther ?_ (by simp) _
  refine World.rowIs.congr (World.rowIs.set (World.rowIs.set (World.rowIs.set (World.rowIs.alloc hx1 (.cells #[] 154)) 0 (.int .i64 0)) 1 (.int .i64 0)) 2 (.slice none 0 0)) ?_
  intro i hi
  match i,hi with
  | 0,_=>rfl
  | 1,_=>rfl
  | 2,_=>rfl
 have hx4:At1 w'' (w.heap.size+1) 29 (.int .i64 2):=by
  rw[hw]
  refine World.rowIs.congr (World.rowIs.set (World.rowIs.setOther (World.rowIs.setOther (World.rowIs.setOther (World.rowIs.alloc hx2 (.cells #[] 154)) (by simp) _) (by simp) _) (by simp) _) 0 (.int .i64 2)) ?_
  intro i hi
  have e0:i=0:=by omega
  subst e0
  simp
 obtain⟨p0,p1,p2,q0,q1,q2⟩:=box86_facts hx3
 have y0:=hx4.cell
 clear hw hx1 hx2
 refine⟨.tuple #[.agg #[.int .i64 0,.int .i64 0,.slice none 0 0],.int .i64 2],?_,rfl,hB⟩
 simp[results,Tryz.results92,go_sem,p0,p1,p2,y0]
end Go.Proofs.YtbfibfmnemnbbaaGreat
set_option linter.unusedSimpArgs false
set_option linter.unusedVariables false
set_option maxRecDepth 100000
namespace Go.Proofs.YtbfibfmnemnbbaaGreat
open Go.RowKit Go.Sort
theorem min_spec2:∀(ys:List Val) (m:Val),minFrom m ys∈m::ys/\∀y∈m::ys,ordV (minFrom m ys) y<=0
 | [],m=>⟨by simp[minFrom],fun y hy=>by simp at hy;subst hy;rw[minFrom,List.foldl_nil,ord_self];omega⟩
 | z::ys,m=>by
  have e:minFrom m (z::ys)=minFrom (if ordV z m<0 then z else m) ys:=rfl
  rw[e]
  obtain⟨h1,h2⟩:=min_spec2 ys (if ordV z m<0 then z else m)
  have hle:=h2 _ (List.mem_cons_self ..)
  by_cases hz:ordV z m<0
  ·rw[if_pos hz] at h1 h2 hle ⊢
   refine⟨?_,fun y hy=>?_⟩
   ·rcases List.mem_cons.1 h1 with h|h
    ·rw[h];simp
    ·simp[h]
   ·rcases List.mem_cons.1 hy with rfl|hy
    ·exact ord_le hle (by omega)
    ·rcases List.mem_cons.1 hy with rfl|hy
     ·exact hle
     ·exact h2 y (by simp[hy])
  ·rw[if_neg hz] at h1 h2 hle ⊢
   have hmz:ordV m z<=0:=by have:=ord_anti m z;omega
   refine⟨?_,fun y hy=>?_⟩
   ·rcases List.mem_cons.1 h1 with h|h
    ·rw[h];simp
    ·simp[h]
   ·rcases List.mem_cons.1 hy with rfl|hy
    ·exact hle
    ·rcases List.mem_cons.1 hy with rfl|hy
     ·exact ord_le hle hmz
     ·exact h2 y (by simp[hy])
end Go.Proofs.YtbfibfmnemnbbaaGreat
set_option linter.unusedSimpArgs false
set_option linter.unusedVariables false
set_option maxRecDepth 100000
namespace Go.Proofs.YtbfibfmnemnbbaaGreat
open Go.RowKit Go.Sort
def atL(L:List Val)(k:Nat):Val:=L.getD k Val.null
def SAB(a b:Nat)(L:List Val):Prop:=∀i j,a<=i->i<j->j<b->ordV (atL L i) (atL L j)<=0
end Go.Proofs.YtbfibfmnemnbbaaGreat
