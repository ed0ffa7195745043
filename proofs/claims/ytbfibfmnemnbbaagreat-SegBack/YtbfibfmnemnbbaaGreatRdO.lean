import Derived.Test.YtbfibfmnemnbbaaGreatRdJ
import Derived.Test.YtbfibfmnemnbbaaGreatPackP
import Derived.Laws.CopyOwn
set_option linter.unusedSimpArgs false
set_option linter.unusedVariables false
namespace Go.Proofs.YtbfibfmnemnbbaaGreat
open Go.RowKit Go.Sort
theorem run_copy3(w:World)(ty:TypeId)(g o dLen dCap:Nat)(a:Addr)(sLen sCap n:Nat)(cur:Array Value)(t:TypeId)(cs:List Value)
  (hg:w.heap[g]?=some (.cells cur t (0,0))) (hn:n=Nat.min sLen dLen) (hl:cs.length=n*3)
  (hsrc:∀j v,cs[j]?=some v->w.cell? (a.add j)=some v) (hfit:o+cs.length<=cur.size) (h1:∀v∈cs,v.oneCell'=true) :
  (Builtin.copy_ #[36,36] ty #[.slice (some ⟨g,o,none⟩) dLen dCap,.slice (some a) sLen sCap]).run Tryz.prog w =
   .ok (goInt n) (w.setRow g (cur.toList.take o++cs++cur.toList.drop (o+cs.length)).toArray):=by
 obtain⟨i4,hi4,z40,z41,z42⟩:=info_parts Tryz.info25
 have hld:=run_loadCells_list (P:=Tryz.prog) w a cs hsrc
 have hst:=run_storeCells_at Tryz.prog g o t cs 0 cur w hg (by simpa using hfit) h1
 rw[hl] at hld
 simp[Builtin.copy_,run_underlying Tryz.underlying36,Builtin.lenOf,Builtin.firstCells,sizeOf,typeInfo,hi4,z41,<-hn,hld,hst]
def RowL(w:World)(g:Nat)(ys:List Val):Prop:=w.heap[g]?=some (.cells (ys.flatMap c3).toArray 25 (0,0))
theorem flat_take3:∀(ys:List Val) (n:Nat),(ys.flatMap c3).take (n*3)=(ys.take n).flatMap c3
 | ys,0=>by simp
 | [],n+1=>by simp
 | y::ys,n+1=>by
  have:=flat_take3 ys n
  rw[List.flatMap_cons,List.take_succ_cons,List.flatMap_cons,Nat.succ_mul,Nat.add_comm]
  show List.take (3+n*3) (Value.int .i64 y.k::Value.int .i64 y.n::Value.string y.s::ys.flatMap c3)=_
  rw[show 3+n*3=(n*3+1+1)+1 by omega,List.take_succ_cons,List.take_succ_cons,List.take_succ_cons,this]
  rfl
theorem flat_drop:∀(ys:List Val) (n:Nat),(ys.flatMap c3).drop (n*3)=(ys.drop n).flatMap c3
 | ys,0=>by simp
 | [],n+1=>by simp
 | y::ys,n+1=>by
  have:=flat_drop ys n
  rw[List.flatMap_cons,List.drop_succ_cons,Nat.succ_mul,Nat.add_comm]
  show List.drop (3+n*3) (Value.int .i64 y.k::Value.int .i64 y.n::Value.string y.s::ys.flatMap c3)=_
  rw[show 3+n*3=(n*3+1+1)+1 by omega,List.drop_succ_cons,List.drop_succ_cons,List.drop_succ_cons,this]
theorem RowL.cell{w:World}{g:Nat}{ys:List Val}(h:RowL w g ys){i:Nat}{v:Value}(hv:(ys.flatMap c3)[i]?=some v):w.cell? ⟨g,i,none⟩=some v:=by
 unfold World.cell?
 simp only[RowL] at h
 simp[h,hv]
theorem RowL.copy{w:World}{g n:Nat}{ys zs:List Val}{ty:TypeId}{dLen dCap sLen sCap m:Nat}{a:Addr}(h:RowL w g ys)(hm:m=Nat.min sLen dLen)(hz:zs.length=m)(hfit:n+m<=ys.length)
  (hsrc:∀j v,(zs.flatMap c3)[j]?=some v->w.cell? (a.add j)=some v) :
  ∃w',(Builtin.copy_ #[36,36] ty #[.slice (some ⟨g,n*3,none⟩) dLen dCap,.slice (some a) sLen sCap]).run Tryz.prog w=.ok (goInt m) w'/\RowL w' g (ys.take n++zs++ys.drop (n+m))/\∀B w0,Below B w0 w->B<=g->Below B w0 w':=by
 refine⟨_,run_copy3 w ty g (n*3) dLen dCap a sLen sCap m _ 25 (zs.flatMap c3) h hm (by rw[flat_len,hz]) hsrc (by rw[flat_len,hz];simp only[List.size_toArray];rw[flat_len];omega) (fun v hv=>by
  obtain⟨z,_,hz⟩:=List.mem_flatMap.1 hv
  exact c3_one z v hz),?_,fun B w0 hb hB=>below_setRow hb hB _⟩
 have:=setRow_heap w g _ ((ys.flatMap c3).toArray.toList.take (n*3)++zs.flatMap c3++(ys.flatMap c3).toArray.toList.drop (n*3+(zs.flatMap c3).length)).toArray 25 _ h
 unfold RowL
 rw[this]
 congr 2
 rw[flat_len,hz,<-Nat.add_mul,flat_take3,flat_drop,List.flatMap_append,List.flatMap_append]
theorem RowL.made(w:World)(n:Nat):RowL (w.alloc (.cells (madeCells #[.int .i64 0,.int .i64 0,.string ⟨#[]⟩] (n*3)) 25)) w.heap.size (List.replicate n Val.null):=by
 unfold RowL
 have e:madeCells #[.int .i64 0,.int .i64 0,.string ⟨#[]⟩] (n*3)=((List.replicate n Val.null).flatMap c3).toArray:=by
  apply Array.ext
  ·rw[size_madeCells];simp only[List.size_toArray];rw[flat_len,List.length_replicate]
  ·intro j h1 h2
   rw[size_madeCells] at h1
   have hx:(List.replicate n Val.null)[j / 3]?=some Val.null:=by rw[List.getElem?_replicate,if_pos (by omega)]
   have hf:=flat_at (List.replicate n Val.null) (j / 3) (j % 3) Val.null hx (Nat.mod_lt _ (by decide))
   rw[show j / 3*3+j % 3=j by omega] at hf
   have h3:j % 3=0∨j % 3=1∨j % 3=2:=by omega
   have hg:((List.replicate n Val.null).flatMap c3)[j]?=some (((List.replicate n Val.null).flatMap c3).toArray[j]):=by simp
   rw[hg] at hf
   simp only[madeCells,Array.getElem_map,Array.getElem_range]
   rcases h3 with h3|h3|h3<;>(rw[h3] at hf;simp[h3];simp[c3,Val.null] at hf;exact hf.symm)
 rw[e]
 exact Deep.blk_alloc_new _ _
theorem RowL.own{w:World}{g B:Nat}{ys:List Val}(h:RowL w g ys)(hB:B<=g)(hl:ys.length<=100000):OwnV w B (.slice (some ⟨g,0,none⟩) ys.length ys.length) ys:=by
 refine⟨flat_len ys,.inr ⟨g,ys.length,_,rfl,hB,h,Nat.le_refl _,by unfold maxLen;omega,by simp only[List.size_toArray];exact flat_len ys,?_⟩⟩
 rw[List.take_of_length_le (by rw[<-flat_len ys];exact Nat.le_refl _)]
end Go.Proofs.YtbfibfmnemnbbaaGreat
set_option linter.unusedSimpArgs false
set_option linter.unusedVariables false
set_option maxHeartbeats 400000
set_option maxRecDepth 100000
namespace Go.Proofs.YtbfibfmnemnbbaaGreat
open Go.RowKit Go.Sort
theorem and_u64(a b:Nat)(ha:a<18446744073709551616)(hb:b<18446744073709551616):bits .and .u64 (a:Int) (b:Int)=((a &&& b:Nat):Int):=by
 have hx:a &&& b<2 ^ 64:=Nat.and_lt_two_pow _ (by omega)
 have h1:(BitVec.ofInt 64 (a:Int)).toNat=a:=by
  rw[BitVec.ofInt_natCast,BitVec.toNat_ofNat];exact Nat.mod_eq_of_lt (by omega)
 have h2:(BitVec.ofInt 64 (b:Int)).toNat=b:=by
  rw[BitVec.ofInt_natCast,BitVec.toNat_ofNat];exact Nat.mod_eq_of_lt (by omega)
 show IntKind.u64.wrap ((BitVec.ofInt 64 (a:Int) &&& BitVec.ofInt 64 (b:Int)).toNat:Int)=_
 rw[BitVec.toNat_and,h1,h2,IntKind.wrap_u64]
 omega
theorem and_mask(n:Nat)(h:n<4294967296):bits .and .u64 (n:Int) 4294967295=(n:Int):=by
 have e:(4294967295:Int)=((2 ^ 32-1:Nat):Int):=rfl
 rw[e,and_u64 n _ (by omega) (by decide),Nat.and_two_pow_sub_one_eq_mod,Nat.mod_eq_of_lt (by omega)]
theorem mul64_one(n:Nat)(hn:n<=4096)(w:World):Calls Tryz.prog 191 #[.int .u64 1,.int .u64 n] w fun e w'=>e=.returned (.tuple #[.int .u64 0,.int .u64 n])/\w'=w:=by
 have h1:bits .and .u64 1 4294967295=1:=by kernel_rfl
 have h2:=and_mask n (by omega)
 have h3:bits .and .u64 0 4294967295=0:=by kernel_rfl
 have h4:(n:Int) / 4294967296=0:=by omega
 have h5:(n:Int)<=4096:=by omega
 go_enter Tryz.func191,Tryz.ntmps191
 go_wp2
 go_ret2
 exact⟨rfl,rfl⟩
theorem mul_one(n:Nat)(hn:n<=4096)(w:World):Calls Tryz.prog 187 #[.int .u64 1,.int .u64 n] w fun e w'=>e=.returned (.tuple #[.int .u64 0,.int .u64 n])/\w'=w:=by
 have HM:=hide (mul64_one n hn w)
 go_enter Tryz.func187,Tryz.ntmps187
 go_wp2_with (go_at_call 191;refine(unhide HM).mono ?_;rintro e w1 ⟨rfl,rfl⟩)
 go_ret2
 exact⟨rfl,rfl⟩
theorem wp_copy3{w:World}{o:Oper}{a:Act}{K:Act->World->Prop}{Q:Exit->Act->World->Prop}(d s:Operand)(ho:o.op=.call { callee:=.builtin .copy,args:=#[d,s],argTypes:=#[36,36] })
  (g off dLen dCap:Nat) (ad:Addr) (sLen sCap:Nat) (hd:a.eval d=.slice (some ⟨g,off,none⟩) dLen dCap) (hs:a.eval s=.slice (some ad) sLen sCap)
  (n m:Nat) (ys zs:List Val) (hoff:off=n*3) (h:RowL w g ys) (hm:m=Nat.min sLen dLen) (hz:zs.length=m) (hfit:n+m<=ys.length) (hsrc:∀j v,(zs.flatMap c3)[j]?=some v->w.cell? (ad.add j)=some v)
  (hK:∀w',RowL w' g (ys.take n++zs++ys.drop (n+m))->(∀B w0,Below B w0 w->B<=g->Below B w0 w')->K (a.put o.dst (goInt m)) w'):o.wp Tryz.prog a w K Q:=by
 subst hoff
 obtain⟨w',hrun,hr,hb⟩:=h.copy (ty:=o.type) (dLen:=dLen) (dCap:=dCap) (sCap:=sCap) hm hz hfit hsrc
 unfold Oper.wp
 simp[execOp,ho,resolve,invoke,builtin,hd,hs,hrun,Result.andThen]
 exact hK w' hr hb
theorem one_cells{w:World}{sb:Nat}{x:Val}(h:w.rowIs sb 25 3 (box3 x)):∀j v,(([x]:List Val).flatMap c3)[j]?=some v->w.cell? ((⟨sb,0,none⟩:Addr).add j)=some v:=by
 intro j v hv
 have e:([x]:List Val).flatMap c3=c3 x:=by simp
 rw[e] at hv
 obtain⟨h0,h1,h2,_⟩:=box3_facts h
 match j,hv with
 | 0,hv=>simp[c3] at hv;subst hv;simpa [Addr.add] using h0
 | 1,hv=>simp[c3] at hv;subst hv;simpa [Addr.add] using h1
 | 2,hv=>simp[c3] at hv;subst hv;simpa [Addr.add] using h2
 | j+3,hv=>simp[c3] at hv
theorem rep_next{n k m:Nat}(x:Val)(hm:k+m<=n):(List.replicate k x++List.replicate (n-k) Val.null).take k++List.replicate m x++(List.replicate k x++List.replicate (n-k) Val.null).drop (k+m)=List.replicate (k+m) x++List.replicate (n-(k+m)) Val.null:=by
 rw[List.take_append_of_le_length (by simp),List.take_of_length_le (by simp),List.replicate_append_replicate,List.drop_append,List.drop_of_length_le (by simp),List.nil_append,List.drop_replicate,List.length_replicate]
 congr 2;omega
theorem rep_src{w:World}{g n k m:Nat}{x:Val}(h:RowL w g (List.replicate k x++List.replicate (n-k) Val.null))(hm:m<=k):∀j v,((List.replicate m x).flatMap c3)[j]?=some v->w.cell? ((⟨g,0,none⟩:Addr).add j)=some v:=by
 intro j v hv
 have hj:j<m*3:=by
  have:=(List.getElem?_eq_some_iff.1 hv).1
  rw[flat_len,List.length_replicate] at this;exact this
 have e:(List.replicate k x++List.replicate (n-k) Val.null)=List.replicate m x++(List.replicate (k-m) x++List.replicate (n-k) Val.null):=by
  rw[<-List.append_assoc,List.replicate_append_replicate];congr 2;omega
 rw[e] at h
 have h2:=RowL.cell h (i:=j) (v:=v) (by
  rw[List.flatMap_append,List.getElem?_append_left (by rw[flat_len,List.length_replicate];exact hj)];exact hv)
 by_cases h0:j=0
 ·subst h0;simpa [Addr.add] using h2
 ·simpa [Addr.add,h0] using h2
theorem below_drew{a w:World}{B:Nat}(h:Below B a w):Below B a { w with drawn:=w.drawn+1 }:=⟨h.os,h.tape,h.output,h.size,h.block⟩
theorem repeat_any(sb n:Nat)(x:Val)(w:World)(h1:1<=n)(hn:n<=4096)(hx:w.rowIs sb 25 3 (box3 x)) :
  Calls Tryz.prog 180 #[.slice (some ⟨sb,0,none⟩) 1 1,.int .i64 n] w fun e w'=>∃v,e=.returned v/\OwnV w' w.heap.size v (List.replicate n x)/\Below w.heap.size w w':=by
 obtain⟨i4,hi4,z40,z41,z42⟩:=info_parts Tryz.info25
 have HM:=hide (mul_one n hn)
 have HX:=hide hx
 have hni:(0:Int)<=(n:Int):=by omega
 have hni2:(n:Int)<=4096:=by omega
 have hw:IntKind.u64.wrap (n:Int)=(n:Int):=by rw[IntKind.wrap_u64];omega
 clear hx
 go_enter Tryz.func180,Tryz.ntmps180
 go_wp2_with (first
  | (go_at_call 187;refine(unhide HM _).mono ?_;rintro e w1 ⟨rfl,rfl⟩)
  | (at_make;refine wpList_make_rows _ rfl (.tmp 29) (.tmp 29) 36 rfl 25 i4 _ Tryz.underlying36 hi4 z40 3 z41 .i64 .i64 n rfl rfl (by rw[z42];omega) (by omega) ?_))
 obtain⟨w2,hrun,hr2,hb2⟩:=(RowL.made w1 n).copy (ty:=3) (n:=0) (dLen:=n) (dCap:=n) (sLen:=1) (sCap:=1) (m:=1) (a:=⟨sb,0,none⟩) (zs:=[x]) (Nat.min_eq_left h1).symm rfl (by rw[List.length_replicate];omega) (one_cells ((unhide HX).alloc _))
 simp only[Nat.zero_mul,List.take_zero,List.nil_append,Nat.zero_add] at hrun hr2
 rw[hrun]
 have hb3:=hb2 w1.heap.size w1 (below_alloc (Below.refl _ _) _) (Nat.le_refl _)
 have HR2:Hid (RowL w2 w1.heap.size (List.replicate 1 x++List.replicate (n-1) Val.null)):=by
  rw[List.drop_replicate] at hr2
  exact hr2
 clear hr2 hb2 hrun HX HM
 go_wp2_with fail
 go_loopw[8] (fun s wr=>∃k:Nat,1<=k/\k<=n/\s=.int .i64 (k:Int)/\RowL wr w1.heap.size (List.replicate k x++List.replicate (n-k) Val.null)/\Below w1.heap.size w1 wr) (fun s _=>n-(intOf s).toNat)
 case atStart=>exact⟨1,Nat.le_refl _,h1,rfl,unhide HR2,hb3⟩
 case round=>
  obtain⟨k,hk1,hkn,rfl,hr,hb⟩:=hrel
  by_cases hlt:k<n
  ·have h9:(k:Int)<(n:Int):=by omega
   have HR:=hide hr
   have HB:=hide hb
   clear hr hb
   obtain⟨m,hm⟩:∃m,m=Nat.min k (n-k):=⟨_,rfl⟩
   have hm':m=min k (n-k):=hm
   have hm1:1<=m/\m<=k/\k+m<=n:=by omega
   have HMM:=hide hm
   clear hm hm'
   go_upto_region 9 with fail
   refine wp_region_noPanic ?_
   refine wp_region_G (S:=fun _=>True) (k:=9) (by kernel_rfl) ?_
   refine anyG_takel (i:=0) (v:=(.int .i64 k)) [8,9] rfl (by kernel_rfl) (by kernel_rfl) (by kernel_rfl) (by kernel_rfl) (fun _ _ _ h=>h) (Or.inl ⟨by rfl,fun w' hSw=>?_⟩) trivial ?_
   ·go_simp<;>omega
   try simp only[Act.put,List.setIfInBounds_toArray,List.set_cons_zero,List.set_cons_succ]
   refine anyG_takel (i:=1) (v:=(.slice (some ⟨w1.heap.size,0,none⟩) n n)) [3,7,8,9] rfl (by kernel_rfl) (by kernel_rfl) (by kernel_rfl) (by kernel_rfl) (fun _ _ _ h=>h) (Or.inl ⟨by rfl,fun w' hSw=>?_⟩) trivial ?_
   ·go_simp<;>omega
   try simp only[Act.put,List.setIfInBounds_toArray,List.set_cons_zero,List.set_cons_succ]
   refine anyG_takel (i:=2) (v:=(.int .i64 k)) [3,7,8,9] rfl (by kernel_rfl) (by kernel_rfl) (by kernel_rfl) (by kernel_rfl) (fun _ _ _ h=>h) (Or.inl ⟨by rfl,fun w' hSw=>?_⟩) trivial ?_
   ·go_simp<;>omega
   try simp only[Act.put,List.setIfInBounds_toArray,List.set_cons_zero,List.set_cons_succ]
   refine anyG_takel (i:=3) (v:=(.slice (some ⟨w1.heap.size,k*3,none⟩) (n-k) (n-k))) [7,8,9] rfl (by kernel_rfl) (by kernel_rfl) (by kernel_rfl) (by kernel_rfl) (fun _ _ _ h=>h) (Or.inl ⟨by rfl,fun w' hSw=>?_⟩) trivial ?_
   ·go_simp<;>omega
   try simp only[Act.put,List.setIfInBounds_toArray,List.set_cons_zero,List.set_cons_succ]
   refine anyG_takel (i:=4) (v:=(.slice (some ⟨w1.heap.size,0,none⟩) n n)) [6,7,8,9] rfl (by kernel_rfl) (by kernel_rfl) (by kernel_rfl) (by kernel_rfl) (fun _ _ _ h=>h) (Or.inl ⟨by rfl,fun w' hSw=>?_⟩) trivial ?_
   ·go_simp<;>omega
   try simp only[Act.put,List.setIfInBounds_toArray,List.set_cons_zero,List.set_cons_succ]
   refine anyG_takel (i:=5) (v:=(.int .i64 k)) [6,7,8,9] rfl (by kernel_rfl) (by kernel_rfl) (by kernel_rfl) (by kernel_rfl) (fun _ _ _ h=>h) (Or.inl ⟨by rfl,fun w' hSw=>?_⟩) trivial ?_
   ·go_simp<;>omega
   try simp only[Act.put,List.setIfInBounds_toArray,List.set_cons_zero,List.set_cons_succ]
   refine anyG_takel (i:=6) (v:=(.slice (some ⟨w1.heap.size,0,none⟩) k n)) [7,8,9] rfl (by kernel_rfl) (by kernel_rfl) (by kernel_rfl) (by kernel_rfl) (fun _ _ _ h=>h) (Or.inl ⟨by rfl,fun w' hSw=>?_⟩) trivial ?_
   ·go_simp<;>omega
   try simp only[Act.put,List.setIfInBounds_toArray,List.set_cons_zero,List.set_cons_succ]
   refine anyG_one (i:=7) (by kernel_rfl) ?_
   refine wpOp_lit rfl (by rfl) fun K hK=>?_
   refine wp_copy3 (.tmp 41) (.tmp 44) (by rfl) w1.heap.size (k*3) (n-k) (n-k) ⟨w1.heap.size,0,none⟩ k n (by rfl) (by rfl) k m _ (List.replicate m x) rfl (unhide HR) (unhide HMM) (List.length_replicate ..) (by rw[List.length_append,List.length_replicate,List.length_replicate];omega) (rep_src (unhide HR) hm1.2.1) ?_
   intro w3 hr3 hb3
   have hB3:=hb3 w1.heap.size w1 (below_drew (unhide HB)) (Nat.le_refl _)
   rw[rep_next x hm1.2.2] at hr3
   replace hr3:=hide hr3
   clear hb3
   go_simp
   refine unhide hK _ _ ⟨fun _=>trivial,?_⟩
   clear hK K
   refine anyG_one (i:=8) (by kernel_rfl) ?_
   refine wpOp_lit rfl (by rfl) fun K hK=>?_
   go_simp
   refine unhide hK _ _ ⟨fun _=>trivial,?_⟩
   clear hK K
   refine anyG_one (i:=9) (by kernel_rfl) ?_
   refine wpOp_lit rfl (by rfl) fun K hK=>?_
   go_simp
   refine unhide hK _ _ ⟨fun _=>trivial,?_⟩
   clear hK K
   refine anyG_done (by kernel_rfl) ?_ _
   refine NoPanic.normal ?_
   go_wp2
   have ew:IntKind.i64.wrap ((k:Int)+(m:Int))=((k+m:Nat):Int):=by rw[IntKind.wrap_i64];omega
   rw[ew]
   exact⟨⟨k+m,by omega,hm1.2.2,rfl,unhide hr3,hB3⟩,by simp[intOf];omega⟩
  ·have h9:¬(k:Int)<(n:Int):=by omega
   have ek:k=n:=by omega
   subst ek
   have HE:Hid (OwnV wr w1.heap.size (.slice (some ⟨w1.heap.size,0,none⟩) k k) (List.replicate k x)/\Below w1.heap.size w1 wr):=by
    simp only[Nat.sub_self,List.replicate_zero,List.append_nil] at hr
    have:=hr.own (B:=w1.heap.size) (Nat.le_refl _) (by rw[List.length_replicate];omega)
    rw[List.length_replicate] at this
    exact⟨this,hb⟩
   clear hr hb
   go_wp2
   go_ret
   exact⟨_,rfl,unhide HE⟩
end Go.Proofs.YtbfibfmnemnbbaaGreat
set_option linter.unusedSimpArgs false
set_option linter.unusedVariables false
set_option maxHeartbeats 400000
set_option maxRecDepth 100000
namespace Go.Proofs.YtbfibfmnemnbbaaGreat
open Go.RowKit Go.Sort
def runD(kind:Int)(count:Nat)(vs:List Val)(l:List UInt8):Option (List Val×List UInt8):=
 (numD 4 l).bind fun p=>(plainD kind p.2).bind fun q=>
  if 0<p.1/\p.1<=count-vs.length/\(∀y,vs.getLast?=some y->sameB y q.1=false) then some (vs++List.replicate p.1 q.1,q.2) else none
def runsD(kind:Int)(count:Nat):Nat->List UInt8->Option (List Val×List UInt8)
 | 0,l=>some ([],l)
 | n+1,l=>(runsD kind count n l).bind fun p=>runD kind count p.1 p.2
theorem runD_some{kind:Int}{count:Nat}{vs us:List Val}{l r:List UInt8}(h:runD kind count vs l=some (us,r)):∃m l1 x,numD 4 l=some (m,l1)/\plainD kind l1=some (x,r)/\0<m/\m<=count-vs.length/\(∀y,vs.getLast?=some y->sameB y x=false)/\us=vs++List.replicate m x:=by
 unfold runD at h
 cases hn:numD 4 l with
 | none=>rw[hn] at h;cases h
 | some p=>
  rw[hn,Option.bind_some] at h
  cases hp:plainD kind p.2 with
  | none=>rw[hp] at h;cases h
  | some q=>
   rw[hp,Option.bind_some] at h
   split at h
   ·rename_i hc
    injection h with h;injection h with h1 h2
    subst h2
    exact⟨p.1,p.2,q.1,rfl,hp,hc.1,hc.2.1,hc.2.2,h1.symm⟩
   ·cases h
theorem runsD_split{kind:Int}{count n k:Nat}{l:List UInt8}{us:List Val}{r:List UInt8}(h:runsD kind count n l=some (us,r))(hk:k<=n):∃vs r2,runsD kind count k l=some (vs,r2):=by
 obtain⟨j,rfl⟩:∃j,n=k+j:=⟨n-k,by omega⟩
 clear hk
 induction j generalizing us r with
 | zero=>exact⟨_,_,h⟩
 | succ j ih=>
  rw[<-Nat.add_assoc,runsD] at h
  cases hp:runsD kind count (k+j) l with
  | none=>rw[hp] at h;cases h
  | some p=>exact ih hp
theorem runsD_next{kind:Int}{count n k:Nat}{l:List UInt8}{us:List Val}{r:List UInt8}(h:runsD kind count n l=some (us,r))(hk:k<n){vs:List Val}{r2:List UInt8}(hv:runsD kind count k l=some (vs,r2)):∃us' r3,runD kind count vs r2=some (us',r3)/\runsD kind count (k+1) l=some (us',r3):=by
 obtain⟨a,c,h2⟩:=runsD_split h (k:=k+1) hk
 refine⟨a,c,?_,h2⟩
 rw[runsD,hv,Option.bind_some] at h2
 exact h2
theorem runsD_le{kind:Int}{count:Nat}:∀{n:Nat} {l r:List UInt8} {vs:List Val},runsD kind count n l=some (vs,r)->vs.length<=count/\r.length<=l.length
 | 0,l,r,vs,h=>by
  unfold runsD at h
  injection h with h;injection h with h1 h2
  subst h1;subst h2;exact⟨by simp,Nat.le_refl _⟩
 | n+1,l,r,vs,h=>by
  unfold runsD at h
  cases hp:runsD kind count n l with
  | none=>rw[hp] at h;cases h
  | some p=>
   rw[hp,Option.bind_some] at h
   obtain⟨a,c⟩:=runsD_le (vs:=p.1) (r:=p.2) hp
   obtain⟨m,l1,x,h1,h2,h3,h4,_,rfl⟩:=runD_some h
   have:=numD_le h1
   have:=plainD_le h2
   refine⟨?_,by omega⟩
   rw[List.length_append,List.length_replicate];omega
theorem wpList_append_more{w:World}{ops:Array Oper}{rest:List Oper}{o:Oper}{a:Act}{Q:Exit->Act->World->Prop}(hgd:o.guard=none)(s x:Operand)(ho:o.op=.call { callee:=.builtin .append,args:=#[s,x],argTypes:=#[36,36] })
  (B B2:Nat) (v u:Value) (xs ys:List Val) (hs:a.eval s=v) (hx:a.eval x=u) (hown:OwnV w B v xs) (hu:OwnV w B2 u ys) (hl:xs.length+ys.length<=100000) (hB:B<=w.heap.size)
  (hK:∀v' w',OwnV w' B v' (xs++ys)->w.grownBy w' v.ownBlock->wpList Tryz.prog ops Q rest (a.put o.dst v') w'):wpList Tryz.prog ops Q (o::rest) a w:=by
 obtain⟨i4,hi4,z40,z41,z42⟩:=info_parts Tryz.info25
 rcases hu.2 with ⟨rfl,h0⟩|⟨g,cap,cur,rfl,hb,hh,hc,hm,hcs,ht⟩
 ·have e:ys=[]:=List.eq_nil_of_length_eq_zero h0
  subst e
  refine wpList_append_own_none hgd s x 36 ho B 25 i4 3 Tryz.underlying36 hi4 v xs.length (xs.flatMap c3) hs hown hx ?_
  exact hK v w (by simpa using hown) (World.grownBy.refl _ _)
 ·refine wpList_append_own_at w hgd s x 36 ho B 25 i4 (.agg #[.int .i64 0,.int .i64 0,.string ⟨#[]⟩]) 3 32 Tryz.underlying36 hi4 z40 z41 z42 rfl (by decide) v xs.length (xs.flatMap c3) hs hown ⟨g,0,none⟩ ys.length cap (ys.flatMap c3) hx (flat_len ys) (World.ownsRow.cells hu rfl) (fun v hv=>by
   obtain⟨z,_,hz⟩:=List.mem_flatMap.1 hv
   exact c3_one z v hz) (by unfold maxLen;omega) (by omega) hB ?_
  intro v' w' h1 h2 _ hat
  refine hK v' w' ?_ h2
  unfold OwnV
  rw[List.length_append,List.flatMap_append]
  exact h1
theorem Gr.own{w wr w1:World}{b:Nat}{v:Value}{xs:List Val}(h:Gr w wr b)(ho:OwnV wr w.heap.size v xs)(hg:wr.grownBy w1 v.ownBlock):Gr w w1 b:=by
 have h2:=h.size
 exact⟨hg.os.trans h.os,hg.tape.trans h.tape,hg.output.trans h.output,Nat.le_trans h2 hg.size,fun i hi hne=>by
  rw[hg.block i (by omega) (fun e=>by have:=(World.ownsRow.lt ho i e.symm).1;omega),h.block i hi hne]⟩
theorem Rd.own{wr w1:World}{b B:Nat}{v:Value}{xs:List Val}{l:List UInt8}(hr:Rd wr b l)(ho:OwnV wr B v xs)(hb:b<B)(hg:wr.grownBy w1 v.ownBlock):Rd w1 b l:=
 World.rowIs.of_block hr (hg.block b hr.ne (fun e=>by have:=(World.ownsRow.lt ho b e.symm).1;omega))
theorem same_no{y x:Val}(h:sameB y x=false):(y.k == x.k)=false∨((y.k == x.k)=true/\(y.n == x.n)=false)∨((y.k == x.k)=true/\(y.n == x.n)=true/\(y.s.toList == x.s.toList)=false):=by
 unfold sameB at h
 cases h1:(y.k == x.k)<;>cases h2:(y.n == x.n)<;>cases h3:(y.s.toList == x.s.toList)<;>simp_all
theorem runs_yes{b count m:Nat}{kind:Int}{l l1 r:List UInt8}{vs:List Val}{w:World}(hc:count<=4096)(hk:kind=1∨kind=2)(h:Rd w b l)(hl:l.length<=140737488355328)
  (hm:numD 4 l=some (m,l1)) (hv:runsD kind count m l1=some (vs,r)) (hlen:vs.length=count) :
  Calls Tryz.prog 166 #[.pointer (some ⟨b,0,none⟩),.int .i64 kind,.int .i64 count] w fun e w'=>∃v,e=.returned v/\OwnV w' w.heap.size v vs/\Rd w' b r/\Gr w w' b:=by
 have hm2:m<4294967296:=by
  obtain⟨g1,rfl,rfl⟩:=numD_some hm
  have:=beV_lt (l.take 4)
  have h2:(l.take 4).length=4:=by rw[List.length_take];omega
  rw[h2] at this;simpa using this
 have hl1:=numD_le hm
 have HN:=hide (numd_yes h hl hm (by decide))
 have hbw:=h.ne
 have HV:=hide hv
 have HLEN:=hide hlen
 clear h hlen hv
 go_enter Tryz.func166,Tryz.ntmps166
 go_wp2_with (go_at_call 149;refine(unhide HN).mono ?_;rintro e w1 ⟨rfl,hr1,hg1⟩)
 go_loopw[7,12] (fun v i wr=>∃(k:Nat) (us:List Val) (rk:List UInt8),k<=m/\i=.int .u64 (k:Int)/\Hid (runsD kind count k l1=some (us,rk))/\OwnV wr w.heap.size v us/\Rd wr b rk/\Gr w wr b) (fun _ i _=>m-(intOf i).toNat)
 case atStart=>exact⟨0,[],l1,Nat.zero_le _,rfl,rfl,⟨rfl,.inl ⟨rfl,rfl⟩⟩,hr1,hg1⟩
 case round=>
  obtain⟨k,us,rk,hkm,rfl,HK,ho,hr,hg⟩:=hrel
  obtain⟨hul,hrl⟩:=runsD_le (unhide HK)
  by_cases hlt:k<m
  ·have h9:(k:Int)<(m:Int):=by omega
   obtain⟨us',r3,hrun,hrn⟩:=runsD_next (unhide HV) hlt (unhide HK)
   have HRN:=hide hrn
   obtain⟨c,q1,x,hnum,hpl,hc0,hc1,hlast,rfl⟩:=runD_some hrun
   have hq1:=numD_le hnum
   have HC:=hide (numd_yes hr (by omega) hnum (by decide))
   have HPL:=hide (fun W (hW:Rd W b q1)=>plain_yes hk hW (by omega) hpl)
   have hc2:(0:Int)<(c:Int):=by omega
   obtain⟨ua,uc,rfl,hua1,hua2,hurow⟩:=ownV_slice ho
   obtain⟨U,hU⟩:∃U,U=us.length:=⟨_,rfl⟩
   rw[<-hU]
   have hcu:(c:Int)<=(count:Int)-(U:Int):=by omega
   have hcw:IntKind.u64.wrap ((count:Int)-(U:Int))=(count:Int)-(U:Int):=by rw[IntKind.wrap_u64];omega
   have hU2:U+c<=count:=by omega
   have HU:=hide hU
   have HKEEP:Hid (∀w3,Gr wr w3 b->OwnV w3 w.heap.size (.slice ua us.length uc) us/\Gr w w3 b):=fun w3 hg3=>⟨ho.gr hg3 hbw,hg.trans hg3⟩
   have hz:=hg.size
   have HLAST:=hide hlast
   clear hrun hrn hnum hpl ho hr hg hurow hU hlast hul
   go_upto_region 7 with (first
    | (go_at_call 149;refine(unhide HC).mono ?_;rintro e w2 ⟨rfl,hr2,hg2⟩)
    | (go_at_call 179;refine(unhide HPL _ hr2).mono ?_;rintro e w3 ⟨rfl,hr3,hg3⟩;rw[Val.open_])
    | (go_at_call 150;refine(ensure_yes _).mono ?_;rintro e w4 ⟨rfl,rfl⟩))
   obtain⟨W,hW⟩:∃W,Hid (W=w3.alloc (.cells #[.int .i64 x.k,.int .i64 x.n,.string x.s] 25)):=⟨_,rfl⟩
   have hbox:W.rowIs w3.heap.size 25 3 (box3 x):=by rw[unhide hW];exact box3_alloc w3 x
   obtain⟨b0,b1,b2,_,_,_⟩:=box3_facts hbox
   obtain⟨hO3,hG3⟩:=unhide HKEEP w3 (hg2.trans hg3)
   have hOW:OwnV W w.heap.size (.slice ua us.length uc) us:=by rw[unhide hW];exact hO3.later (below_alloc (Below.refl _ _) _)
   have hRW:Rd W b r3:=by rw[unhide hW];exact hr3.alloc _
   have hGW:Gr w W b:=by rw[unhide hW];exact hG3.trans (Gr.alloc _ _ _)
   have hzW:w.heap.size<=W.heap.size:=hGW.size
   rw[<-unhide hW]
   have HOW:=hide hOW
   have HRW:=hide hRW
   have HGW:=hide hGW
   have HBOX:=hide hbox
   clear hW hO3 hG3 hbox hOW hRW hGW hr2 hg2 hr3 hg3 HKEEP
   go_cut[44] (fun _ wx=>Below W.heap.size W wx)
   case first=>
    by_cases hU0:U=0
    ·subst hU0
     refine wp_region_quiet_below (by kernel_rfl) (by kernel_rfl) ?_
     repeat (go_big_quiet_step (first
      | (go_at_call 150;exact Calls.regrown_of (ensureB _ rfl _))))
     refine wpQuiet_nil ?_
     intro w' hw'
     have hB:Below W.heap.size W w':=by obtain⟨p,rfl⟩:=hw';exact below_regrown _ _ _
     clear hw'
     go_wp2
     go_meet
     exact hB
    ·obtain⟨j,hj⟩:∃j,U=j+1:=⟨U-1,by omega⟩
     obtain⟨y,hy⟩:∃y,us[j]?=some y:=⟨_,List.getElem?_eq_getElem (by rw[<-unhide HU];omega)⟩
     have hl2:us.getLast?=some y:=by
      rw[List.getLast?_eq_getElem?,<-unhide HU,hj];exact hy
     have hno:=same_no (unhide HLAST y hl2)
     obtain⟨_,_,e,_,_,hurow⟩:=ownV_slice (unhide HOW)
     injection e with e1 e2 e3
     subst e1
     subst e3
     obtain⟨vb,vo,rfl,c0,c1,c2⟩:=hurow.lo hy
     have k0:=cell_regrown c0
     have k1:=cell_regrown c1
     have k2:=cell_regrown c2
     have k3:=cell_regrown b0
     have k4:=cell_regrown b1
     have k5:=cell_regrown b2
     have ej:(U:Int)-1=(j:Int):=by omega
     have g0:((U:Int) == 0)=false:=by simpa using hU0
     have hjm:(j:Int)<(U:Int):=by omega
     clear c0 c1 c2 b0 b1 b2 hy hj hU0 hl2 hurow
     rcases hno with e1|⟨e1,e2⟩|⟨e1,e2,e3⟩
     all_goals
      refine wp_region_quiet_below (by kernel_rfl) (by kernel_rfl) ?_
      repeat (go_big_quiet_step (first
       | (go_at_call 150;exact Calls.regrown_of (ensureB _ rfl _))))
      refine wpQuiet_nil ?_
      intro w' hw'
      have hB:Below W.heap.size W w':=by obtain⟨p,rfl⟩:=hw';exact below_regrown _ _ _
      clear hw'
      go_wp2
      go_meet
      exact hB
   case rest=>
    rename World=>wx
    have hbx:Below W.heap.size W wx:=hcut
    have HOX:=hide ((unhide HOW).later hbx)
    have HRX:=hide ((unhide HRW).below hbx)
    have HGX:=hide ((unhide HGW).trans (Gr.of_below hbx b))
    obtain⟨x0,x1,x2,_,_,_⟩:=box3_facts (rowIs_later (unhide HBOX) hbx)
    have hzx:=hbx.size
    have HREP:=hide (repeat_any wx.heap.size c x (wx.alloc (.cells #[.int .i64 x.k,.int .i64 x.n,.string x.s] 25)) (by omega) (by omega) (box3_alloc wx x))
    have hc4:(c:Int)<=4096:=by omega
    clear hcut hbx HOW HRW HGW HBOX b0 b1 b2
    go_wp2_with (first
     | (go_at_call 180;refine(unhide HREP).mono ?_;rintro e w5 ⟨v5,rfl,ho5,hb5⟩;have HO5:Hid (OwnV w5 w.heap.size (.slice ua U uc) us):=by(have:=(unhide HOX).later (below_one hb5);rw[<-unhide HU] at this;exact this))
     | (at_builtin;refine wpList_append_more rfl (.tmp 45) (.tmp 50) rfl w.heap.size _ (.slice ua U uc) v5 us (List.replicate c x) rfl rfl (unhide HO5) ho5 (by rw[List.length_replicate,<-unhide HU];omega) (by have:=(below_one hb5).size;omega) ?_;intro v6 w6 ho6 hg6))
    have hr5:=(unhide HRX).below (below_one hb5)
    have hg5:=(unhide HGX).trans (Gr.of_below (below_one hb5) b)
    exact⟨⟨k+1,us++List.replicate c x,r3,by omega,by go_num,HRN,ho6,hr5.own (unhide HO5) hbw hg6,hg5.own (unhide HO5) hg6⟩,by simp[intOf];omega⟩
  ·have h9:¬(k:Int)<(m:Int):=by omega
   have ek:k=m:=by omega
   subst ek
   have e:=unhide HV
   rw[unhide HK] at e
   injection e with e
   injection e with e1 e2
   subst e1;subst e2
   obtain⟨ua,uc,rfl,hua1,hua2,hurow⟩:=ownV_slice ho
   have HOWN:Hid (OwnV wr w.heap.size (.slice ua us.length uc) us/\Rd wr b rk/\Gr w wr b):=⟨ho,hr,hg⟩
   rw[unhide HLEN] at HOWN ⊢
   clear ho hr hg hurow hua1 hua2
   go_wp2_with (go_at_call 150;refine(ensure_yes _).mono ?_;rintro e w4 ⟨rfl,rfl⟩)
   go_ret
   exact⟨_,rfl,unhide HOWN⟩
end Go.Proofs.YtbfibfmnemnbbaaGreat
set_option linter.unusedSimpArgs false
set_option linter.unusedVariables false
set_option maxHeartbeats 400000
set_option maxRecDepth 100000
namespace Go.Proofs.YtbfibfmnemnbbaaGreat
open Go.RowKit Go.Sort
def valuesD(scheme:Nat)(kind:Int)(count:Nat)(l:List UInt8):Option (List Val×List UInt8):=
 if scheme=1 then plainsD kind count l
 else if scheme=2 then (numD 4 l).bind fun p=>(runsD kind count p.1 p.2).bind fun q=>if q.1.length=count then some q else none
 else if scheme=3 then wordsD kind count l
 else if scheme=4/\kind=1 then offsetsD count l
 else none
def ReadsV(w w':World)(e:Ending)(b:Nat)(vs:List Val)(r:List UInt8):Prop:=∃v,e=.returned v/\OwnV w' w.heap.size v vs/\Rd w' b r/\Gr w w' b
theorem reads_of{w w':World}{e:Ending}{b:Nat}{vs:List Val}{r:List UInt8}(h:PlainsR w w' e b (some (vs,r))):ReadsV w w' e b vs r:=by
 rcases h with ⟨vs',r',v,he,h3,h4,h5,h6⟩|⟨he,_⟩
 ·injection he with he;injection he with e1 e2;subst e1;subst e2
  exact⟨v,h3,h4,h5,h6⟩
 ·cases he
theorem wordsD_some{kind:Int}{count:Nat}{l r:List UInt8}{vs:List Val}(h:wordsD kind count l=some (vs,r)):∃m l1 W l2 t,numD 2 l=some (m,l1)/\plainsD kind m l1=some (W,l2)/\strictB W=true/\bitsD count (bl (m-1)) l2=some (t,r)/\(∀k∈numsOf t (bl (m-1)) count,k<m)/\(∀j,j<m->j∈numsOf t (bl (m-1)) count)/\vs=(numsOf t (bl (m-1)) count).map fun k=>W.getD k .null:=by
 unfold wordsD at h
 cases hn:numD 2 l with
 | none=>rw[hn] at h;cases h
 | some p=>
  rw[hn,Option.bind_some] at h
  cases hp:plainsD kind p.1 p.2 with
  | none=>rw[hp] at h;cases h
  | some q=>
   rw[hp,Option.bind_some] at h
   split at h
   ·rename_i hs
    cases hb:bitsD count (bl (p.1-1)) q.2 with
    | none=>rw[hb] at h;cases h
    | some t=>
     rw[hb,Option.bind_some] at h
     split at h
     ·rename_i hc
      injection h with h;injection h with h1 h2
      subst h2
      exact⟨p.1,p.2,q.1,q.2,t.1,rfl,hp,hs,hb,hc.1,hc.2,h1.symm⟩
     ·cases h
   ·cases h
theorem values_to{b count:Nat}{sch kind:Int}{w:World}{l r:List UInt8}{vs:List Val}(f:Nat)
  (hf:(sch=1/\f=165)∨(sch=2/\f=166)∨(sch=3/\f=167)) (hcall:Calls Tryz.prog f #[.pointer (some ⟨b,0,none⟩),.int .i64 kind,.int .i64 count] w fun e w'=>ReadsV w w' e b vs r) :
  Calls Tryz.prog 152 #[.pointer (some ⟨b,0,none⟩),.int .i64 sch,.int .i64 kind,.int .i64 count] w fun e w'=>ReadsV w w' e b vs r:=by
 have HC:=hide hcall
 clear hcall
 rcases hf with ⟨rfl,rfl⟩|⟨rfl,rfl⟩|⟨rfl,rfl⟩
 ·go_enter Tryz.func152,Tryz.ntmps152
  go_wp2_with (go_at_call 165;refine(unhide HC).mono ?_;rintro e w1 ⟨v1,rfl,h1⟩)
  go_ret
  exact⟨_,rfl,h1⟩
 ·go_enter Tryz.func152,Tryz.ntmps152
  go_wp2_with (go_at_call 166;refine(unhide HC).mono ?_;rintro e w1 ⟨v1,rfl,h1⟩)
  go_ret
  exact⟨_,rfl,h1⟩
 ·go_enter Tryz.func152,Tryz.ntmps152
  go_wp2_with (go_at_call 167;refine(unhide HC).mono ?_;rintro e w1 ⟨v1,rfl,h1⟩)
  go_ret
  exact⟨_,rfl,h1⟩
theorem values_to4{b count:Nat}{w:World}{l r:List UInt8}{vs:List Val}(hcall:Calls Tryz.prog 168 #[.pointer (some ⟨b,0,none⟩),.int .i64 count] w fun e w'=>ReadsV w w' e b vs r) :
  Calls Tryz.prog 152 #[.pointer (some ⟨b,0,none⟩),.int .i64 4,.int .i64 1,.int .i64 count] w fun e w'=>ReadsV w w' e b vs r:=by
 have HC:=hide hcall
 clear hcall
 go_enter Tryz.func152,Tryz.ntmps152
 go_wp2_with (first
  | (go_at_call 150;refine(ensure_yes _).mono ?_;rintro e w4 ⟨rfl,rfl⟩)
  | (go_at_call 168;refine(unhide HC).mono ?_;rintro e w1 ⟨v1,rfl,h1⟩))
 go_ret
 exact⟨_,rfl,h1⟩
theorem values_yes{b count sch:Nat}{kind:Int}{w:World}{l r:List UInt8}{vs:List Val}(hc:count<=4096)(hk:kind=1∨kind=2)(h:Rd w b l)(hl:l.length<=140737488355328)(hv:valuesD sch kind count l=some (vs,r)) :
  Calls Tryz.prog 152 #[.pointer (some ⟨b,0,none⟩),.int .i64 (sch:Int),.int .i64 kind,.int .i64 count] w fun e w'=>ReadsV w w' e b vs r:=by
 unfold valuesD at hv
 split at hv
 ·rename_i hs
  subst hs
  refine values_to (l:=l) 165 (.inl ⟨rfl,rfl⟩) ?_
  have:=plains_any b count kind l w hk (by omega) h hl
  rw[hv] at this
  exact this.mono fun e w' h=>reads_of h
 ·split at hv
  ·rename_i hs
   subst hs
   refine values_to (l:=l) 166 (.inr (.inl ⟨rfl,rfl⟩)) ?_
   cases hn:numD 4 l with
   | none=>rw[hn] at hv;cases hv
   | some p=>
    rw[hn,Option.bind_some] at hv
    cases hr:runsD kind count p.1 p.2 with
    | none=>rw[hr] at hv;cases hv
    | some q=>
     rw[hr,Option.bind_some] at hv
     split at hv
     ·rename_i hlen
      injection hv with hv;subst hv
      exact runs_yes hc hk h hl hn hr hlen
     ·cases hv
  ·split at hv
   ·rename_i hs
    subst hs
    refine values_to (l:=l) 167 (.inr (.inr ⟨rfl,rfl⟩)) ?_
    obtain⟨m,l1,W,l2,t,h1,h2,h3,h4,h5,h6,rfl⟩:=wordsD_some hv
    exact words_yes hc hk h hl h1 h2 h3 h4 h5 h6
   ·split at hv
    ·rename_i hs
     obtain⟨rfl,rfl⟩:=hs
     refine values_to4 (l:=l) ?_
     have:=offsets_any b count l w hc h hl
     rw[hv] at this
     exact this.mono fun e w' h=>reads_of h
    ·cases hv
def columnD(l:List UInt8):Option (Nat×Int×List Val):=
 (numD 1 l).bind fun a=>(numD 1 a.2).bind fun b=>if b.1=1∨b.1=2 then
  (numD 4 b.2).bind fun c=>if c.1<=4096 then (nullsD c.1 c.2).bind fun d=>(valuesD a.1 (b.1:Int) (d.1.count false) d.2).bind fun e=>
   if e.2=[] then some (a.1,(b.1:Int),spreadL d.1 e.1) else none
  else none
 else none
theorem ite_some{α:Type}{c:Prop}[Decidable c]{a b:α}(h:(if c then some a else none)=some b):c/\a=b:=by
 by_cases hc:c
 ·rw[if_pos hc] at h;injection h with h;exact⟨hc,h⟩
 ·rw[if_neg hc] at h;cases h
theorem valuesD_len{sch:Nat}{kind:Int}{count:Nat}{l r:List UInt8}{vs:List Val}(h:valuesD sch kind count l=some (vs,r)):vs.length=count:=by
 unfold valuesD at h
 split at h
 ·exact(plainsD_len h).1
 ·split at h
  ·cases hn:numD 4 l with
   | none=>rw[hn] at h;cases h
   | some p=>
    rw[hn,Option.bind_some] at h
    cases hr:runsD kind count p.1 p.2 with
    | none=>rw[hr] at h;cases h
    | some q=>
     rw[hr,Option.bind_some] at h
     split at h
     ·injection h with h;subst h;assumption
     ·cases h
  ·split at h
   ·obtain⟨m,l1,W,l2,t,_,_,_,_,_,_,rfl⟩:=wordsD_some h
    rw[List.length_map,nums_len]
   ·split at h
    ·unfold offsetsD at h
     cases hM:numD 8 l with
     | none=>rw[hM] at h;cases h
     | some p=>
      rw[hM,Option.bind_some] at h
      cases hd:numD 1 p.2 with
      | none=>rw[hd] at h;cases h
      | some q=>
       rw[hd,Option.bind_some] at h
       split at h
       ·cases hb:bitsD count q.1 q.2 with
        | none=>rw[hb] at h;cases h
        | some t=>
         rw[hb,Option.bind_some] at h
         have h1:=(ite_some h).2
         injection h1 with e1 e2
         rw[<-e1,List.length_map,nums_len]
       ·cases h
    ·cases h
theorem columnD_some{l:List UInt8}{sch:Nat}{kind:Int}{xs:List Val}(h:columnD l=some (sch,kind,xs)):∃l1 kd l2 n l3 nl l4 vs,numD 1 l=some (sch,l1)/\numD 1 l1=some (kd,l2)/\kind=(kd:Int)/\(kd=1∨kd=2)/\numD 4 l2=some (n,l3)/\n<=4096/\nullsD n l3=some (nl,l4)/\valuesD sch kind (nl.count false) l4=some (vs,[])/\xs=spreadL nl vs:=by
 unfold columnD at h
 cases h1:numD 1 l with
 | none=>rw[h1] at h;cases h
 | some a=>
  rw[h1,Option.bind_some] at h
  cases h2:numD 1 a.2 with
  | none=>rw[h2] at h;cases h
  | some b=>
   rw[h2,Option.bind_some] at h
   split at h
   ·rename_i hk
    cases h3:numD 4 b.2 with
    | none=>rw[h3] at h;cases h
    | some c=>
     rw[h3,Option.bind_some] at h
     split at h
     ·rename_i hc
      cases h4:nullsD c.1 c.2 with
      | none=>rw[h4] at h;cases h
      | some d=>
       rw[h4,Option.bind_some] at h
       cases h5:valuesD a.1 (b.1:Int) (d.1.count false) d.2 with
       | none=>rw[h5] at h;cases h
       | some e=>
        rw[h5,Option.bind_some] at h
        split at h
        ·rename_i he
         injection h with h;injection h with g1 g2;injection g2 with g2 g3
         subst g1;subst g2
         exact⟨a.2,b.1,b.2,c.1,c.2,d.1,d.2,e.1,rfl,h2,rfl,hk,h3,hc,h4,by rw[h5,<-he],g3.symm⟩
        ·cases h
     ·cases h
   ·cases h
theorem nullsD_len{count:Nat}{l r:List UInt8}{nl:List Bool}(h:nullsD count l=some (nl,r)):nl.length=count/\r.length<=l.length:=by
 unfold nullsD at h
 cases hn:numD 1 l with
 | none=>rw[hn] at h;cases h
 | some p=>
  rw[hn,Option.bind_some] at h
  have:=numD_le hn
  split at h
  ·injection h with h;injection h with h1 h2
   subst h1;subst h2;exact⟨by simp,this⟩
  ·split at h
   ·cases hb:bitsD count 1 p.2 with
    | none=>rw[hb] at h;cases h
    | some q=>
     rw[hb,Option.bind_some] at h
     split at h
     ·injection h with h;injection h with h1 h2
      subst h1;subst h2
      exact⟨nlOfT_len _ _,by have:=(bitsD_some hb).2.2.1;omega⟩
     ·cases h
   ·cases h
def box86(a b c:Value):Nat->Value
 | 0=>a
 | 1=>b
 | _=>c
theorem box86_alloc(w:World)(a b c:Value):(w.alloc (.cells #[a,b,c] 134)).rowIs w.heap.size 134 3 (box86 a b c):=by
 refine World.rowIs_alloc w _ 134 _ ?_
 intro i hi
 match i,hi with
 | 0,_=>rfl
 | 1,_=>rfl
 | 2,_=>rfl
theorem box86_facts{w:World}{g:Nat}{a b c:Value}(h:w.rowIs g 134 3 (box86 a b c)):w.cell? ⟨g,0,none⟩=some a/\w.cell? ⟨g,1,none⟩=some b/\w.cell? ⟨g,2,none⟩=some c/\w.frozen? ⟨g,0,none⟩=false/\w.frozen? ⟨g,1,none⟩=false/\w.frozen? ⟨g,2,none⟩=false:=
 ⟨h.cell (by omega),h.cell (by omega),h.cell (by omega),h.frozen _,h.frozen _,h.frozen _⟩
theorem OwnV.putg{w:World}{B g j:Nat}{v:Value}{xs:List Val}(h:OwnV w B v xs)(hg:g<B)(u:Value):OwnV (w.setCell ⟨g,j,none⟩ u) B v xs:=h.gr (grown_set _ _ _ _) hg
theorem column_yes{b sch:Nat}{kind:Int}{l:List UInt8}{xs:List Val}{w:World}(h:Rd w b l)(hl:l.length<=140737488355328)(hd:columnD l=some (sch,kind,xs)) :
  Calls Tryz.prog 129 #[.pointer (some ⟨b,0,none⟩)] w fun e w'=>∃v,e=.returned (.agg #[.int .i64 (sch:Int),.int .i64 kind,v])/\OwnV w' w.heap.size v xs/\Gr w w' b:=by
 obtain⟨l1,kd,l2,n,l3,nl,l4,vs,h1,h2,rfl,hk,h3,hn,h4,h5,rfl⟩:=columnD_some hd
 have b1:=numD_le h1
 have b2:=numD_le h2
 have b3:=numD_le h3
 obtain⟨hnl,b4⟩:=nullsD_len h4
 have hvl:=valuesD_len h5
 have hsch:sch<256:=by
  obtain⟨g1,rfl,rfl⟩:=numD_some h1
  have:=beV_lt (l.take 1)
  have h2:(l.take 1).length=1:=by rw[List.length_take];omega
  rw[h2] at this;simpa using this
 have hct:nl.count false+nl.count true=n:=by
  rw[<-hnl]
  have:∀m:List Bool,m.count false+m.count true=m.length:=by
   intro m
   induction m with
   | nil=>rfl
   | cons a m ih=>cases a<;>simp[List.count_cons]<;>omega
  exact this nl
 have hki:((kd:Int))=1∨(kd:Int)=2:=by omega
 have C1:=hide (fun o=>numd_yes (h.alloc o) hl h1 (by decide))
 have C2:=hide (fun W (hW:Rd W b l1)=>numd_yes hW (by omega) h2 (by decide))
 have C3:=hide (fun W (hW:Rd W b l2)=>numd_yes hW (by omega) h3 (by decide))
 have C4:Hid (∀W,Rd W b l3->Calls Tryz.prog 151 #[.pointer (some ⟨b,0,none⟩),.int .i64 n] W fun e w'=>∃g,e=.returned (.tuple #[.slice (some ⟨g,0,none⟩) n n,.int .i64 (nl.count true:Nat)])/\w'.rowIs g 4 n (fun j=>.bool (nl.getD j false))/\W.heap.size<=g/\Rd w' b l4/\Gr W w' b):=fun W hW=>by
  have:=nulls_any b n l3 W hn hW (by omega)
  rw[h4] at this
  refine this.mono ?_
  rintro e w' (⟨nl',r',g,he,g1,g2,g3,g4,g5,g6⟩|⟨he,_⟩)
  ·injection he with he;injection he with e1 e2;subst e1;subst e2
   exact⟨g,g1,g2,g4,g5,g6⟩
  ·cases he
 have hcf:nl.count false<=4096:=by omega
 have C5:=hide (fun W (hW:Rd W b l4)=>values_yes hcf hki hW (by omega) h5)
 have hbw:=h.ne
 have hnb:w.heap.size≠b:=by omega
 have HBOX:=hide (box86_alloc w (.int .i64 0) (.int .i64 0) (.slice none 0 0))
 have HSP:Hid (∀W g a c,W.rowIs g 4 n (fun j=>.bool (nl.getD j false))->RowAt W a vs->Calls Tryz.prog 153 #[.slice (some ⟨g,0,none⟩) n n,.slice a vs.length c] W fun e w'=>∃v,e=.returned v/\OwnV w' W.heap.size v (spreadL nl vs)/\Below W.heap.size W w'):=fun W g a c hg ha=>spread_any g n nl a c vs W hn hnl hg ha hvl.symm
 have hni:(n:Int)<=4096:=by omega
 obtain⟨cT,hcT⟩:∃cT,cT=nl.count true:=⟨_,rfl⟩
 obtain⟨cF,hcF⟩:∃cF,cF=nl.count false:=⟨_,rfl⟩
 rw[<-hcT] at C4
 rw[<-hcF] at C5
 have e1:(n:Int)-(cT:Int)=(cF:Int):=by omega
 have hcTn:cT<=n:=by omega
 have HNB:=hide hnb
 have hse:((bs []).data)=#[]:=rfl
 clear h h1 h2 h3 h4 h5 hd hct hcT hcF hvl hnl hcf b1 b2 b3 b4
 rcases hk with rfl|rfl
 all_goals
  go_enter Tryz.func129,Tryz.ntmps129
  go_wp2_with (first
   | (go_at_call 149;first | (refine(unhide C3 _ hr2).mono ?_;rintro e w3 ⟨rfl,hr3,hg3⟩) | (refine(unhide C2 _ hr1).mono ?_;rintro e w2 ⟨rfl,hr2,hg2⟩) | (refine(unhide C1 _).mono ?_;rintro e w1 ⟨rfl,hr1,hg1⟩))
   | (go_at_call 150;refine(ensure_yes _).mono ?_;rintro e wE ⟨rfl,rfl⟩)
   | (go_at_call 151;refine(unhide C4 _ hr3).mono ?_;rintro e w4 ⟨g,rfl,hrow4,hgl4,hr4,hg4⟩)
   | (go_at_call 152;refine(unhide C5 _ hr4).mono ?_;rintro e w5 ⟨v5,rfl,ho5,hr5,hg5⟩;obtain⟨a5,c5,rfl,_,_,hrw5⟩:=ownV_slice ho5;have c9:w5.cell? ⟨b,0,none⟩=some (.string ⟨#[]⟩):=hr5.cell)
   | (go_at_call 153;refine(unhide HSP _ _ _ _ (row_grx hrow4 hg5 (by have:=hg1.size;have:=hg2.size;have:=hg3.size;simp at *;omega)) hrw5).mono ?_;rintro e w6 ⟨v6,rfl,ho6,hb6⟩;obtain⟨a6,c6,rfl,_,_,_⟩:=ownV_slice ho6;obtain⟨p0,p1,p2,q0,q1,q2⟩:=box86_facts (rowIs_later (row_grx (row_grx (row_grx (row_grx (row_grx (unhide HBOX) hg1 (unhide HNB)) hg2 (unhide HNB)) hg3 (unhide HNB)) hg4 (unhide HNB)) hg5 (unhide HNB)) hb6)))
  have hz:w.heap.size+1<=wE.heap.size:=by have:=hg1.size;have:=hg2.size;have:=hg3.size;have:=hg4.size;have:=hg5.size;simp at *;omega
  refine bodyPost_ret (v:=.agg #[.int .i64 (sch:Int),.int .i64 _,.slice a6 (spreadL nl vs).length c6]) ?_ rfl ⟨_,rfl,?_,?_⟩
  ·simp[results,Tryz.results129,go_sem,p0,p1,p2]
  ·exact own_base (((ho6.putg (by omega) _).putg (by omega) _).putg (by omega) _) (by omega)
  ·exact(((((hg1.of_alloc.trans hg2).trans hg3).trans hg4).trans hg5).trans (Gr.of_below hb6 b)).put3 (Nat.le_refl _) _ _ _ _ _ _
end Go.Proofs.YtbfibfmnemnbbaaGreat
