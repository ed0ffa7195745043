import Derived.Test.YtbfibfmnemnbbaaGreatPackC
import Derived.OrdersHeld
import Derived.Deep.RegionHeld3
set_option linter.unusedSimpArgs false
set_option linter.unusedVariables false
namespace Go.Proofs.YtbfibfmnemnbbaaGreat
open Go.RowKit Go.Sort
section
variable {P:Program}{ops:Array Oper}{Q:Exit->Act->World->Prop}{md:Region.Mode}{S:World->Prop}{k:Nat}
def anyG(P:Program)(md:Region.Mode)(ops:Array Oper)(Q:Exit->Act->World->Prop)(S:World->Prop)(k:Nat):Nat->Array Bool->Act->World->Prop
 | 0,L,a,w=>Region.ready md ops L=[]/\Q .normal a w
 | f+1,L,a,w=>(Region.ready md ops L=[]->Q .normal a w)/\∀i∈Region.ready md ops L,wpOp P ops Q i (fun a' w'=>((L.setIfInBounds i true).getD k true=false->S w')/\anyG P md ops Q S k f (L.setIfInBounds i true) a' w') a w
theorem any_of_G:∀(f:Nat) (L:Array Bool) (a:Act) (w:World),anyG P md ops Q S k f L a w->wpAny P md ops Q f L a w
 | 0,_,_,_,h=>h
 | f+1,_,_,_,h=>⟨h.1,fun i hi=>wpOp_mono (fun a' w' h'=>any_of_G f _ a' w' h'.2) (h.2 i hi)⟩
def waits(md:Region.Mode)(ops:Array Oper)(i:Nat)(K:List Nat):Bool:=
 K.all fun c=>match ops[c]? with
  | some o=>o.after.any fun e=>Region.binds md e && (e.on == i || K.contains e.on)
  | none=>true
theorem not_ready{i j:Nat}{K:List Nat}{L:Array Bool}(hw:waits md ops i K=true)(hL:∀c∈K,L.getD c true=false)(hi:i∈Region.ready md ops L)(hj:j∈Region.ready md ops L):j ∉ K:=by
 intro hjK
 have un:∀c,L.getD c true=false->L.getD c false=true->False:=by
  intro c h0 h1
  rcases Nat.lt_or_ge c L.size with h' | h'
  ·simp[h'] at h0 h1;rw[h0] at h1;cases h1
  ·simp[Array.getElem?_eq_none h'] at h1
 obtain⟨_,o,ho,hall⟩:=mem_ready.1 hj
 have h1:=List.all_eq_true.1 hw j hjK
 simp only[ho] at h1
 obtain⟨e,he,hb⟩:∃e,e∈o.after/\(Region.binds md e && (e.on == i || K.contains e.on))=true:=by
  obtain⟨n,hn,hb⟩:=Array.any_eq_true.1 h1
  exact⟨_,Array.getElem_mem hn,hb⟩
 simp only[Bool.and_eq_true,Bool.or_eq_true,beq_iff_eq,List.contains_iff_mem] at hb
 have h2:=hall e he hb.1
 rcases hb.2 with h3|h3
 ·rw[h3] at h2
  exact un _ (mem_ready.1 hi).1 h2
 ·exact un _ (hL _ h3) h2
theorem anyG_first{i:Nat}{oi:Oper}{v:Value}{K:List Nat}(hi:ops[i]?=some oi)(hsel:∀(j:Nat) (o:Oper) cs b,ops[j]?=some o->o.op≠.select cs b)
  (hQ:∀c a w,Q (.panic c) (a.put oi.dst v) w->Q (.panic c) a w) (hk:k∈K) (hiK:i ∉ K) (hw:waits md ops i K=true) :
  ∀(f:Nat) (L:Array Bool) (a:Act) (w:World),
   (∀j oj,ops[j]?=some oj->j≠i->L.getD j true=false->(∀e∈oj.after,Region.binds md e=true->e.on≠i)->oi.apart ops oj=true)->(∀c∈K,L.getD c true=false)->i∈Region.ready md ops L->YieldsIf P ops S oi v a->S w->anyG P md ops Q S k f (L.setIfInBounds i true) (a.put oi.dst v) w->anyG P md ops Q S k (f+1) L a w:=by
 intro f
 induction f with
 | zero=>
  intro L a w _ _ hr hy hS H
  refine⟨fun h=>(by rw[h] at hr;cases hr),fun j hj=>?_⟩
  by_cases hji:j=i
  ·subst hji;exact hy.wpOp hi hS ⟨fun _=>hS,H⟩
  ·have:=ready_mono hj hji
   rw[H.1] at this
   cases this
 | succ f ih=>
  intro L a w hfree hL hr hy hS H
  refine⟨fun h=>(by rw[h] at hr;cases hr),fun j hj=>?_⟩
  by_cases hji:j=i
  ·subst hji;exact hy.wpOp hi hS ⟨fun _=>hS,H⟩
  ·have hjK:=not_ready hw hL hr hj
   have h1:=H.2 j (ready_mono hj hji)
   obtain⟨hjun,oj,hoj,hall⟩:=mem_ready.1 hj
   have hnot:∀e∈oj.after,Region.binds md e=true->e.on≠i:=fun e he hb heq=>by
    have h1:=hall e he hb
    have h0:=(mem_ready.1 hr).1
    rw[heq] at h1
    rcases Nat.lt_or_ge i L.size with h' | h'
    ·simp[h'] at h0 h1;rw[h0] at h1;cases h1
    ·simp[Array.getElem?_eq_none h'] at h1
   have h2:=wpOp_putIf hoj (hfree j oj hoj hji hjun hnot) (fun cs b=>hsel i oi cs b hi) (fun cs b=>hsel j oj cs b hoj) hQ hy h1
   have hfree':∀c oc,ops[c]?=some oc->c≠i->(L.setIfInBounds j true).getD c true=false->(∀e∈oc.after,Region.binds md e=true->e.on≠i)->oi.apart ops oc=true:=fun c oc hc hci hun hno=>by
    refine hfree c oc hc hci ?_ hno
    by_cases hjc:j=c
    ·subst hjc;exact hjun
    ·rw[getD_set_ne true hjc] at hun;exact hun
   have hL':∀c∈K,(L.setIfInBounds j true).getD c true=false:=fun c hc=>by
    have hne:j≠c:=fun h=>hjK (by rw[h];exact hc)
    rw[getD_set_ne true hne]
    exact hL c hc
   refine wpOp_mono (fun a' w' h3=>?_) h2
   have hjk:j≠k:=fun h=>hjK (by rw[h];exact hk)
   have hik:i≠k:=fun h=>hiK (by rw[h];exact hk)
   have hS':S w':=h3.2.1 (by rw[getD_set_ne true hjk,getD_set_ne true hik];exact hL k hk)
   refine⟨fun _=>hS',ih (L.setIfInBounds j true) a' w' hfree' hL' (ready_mono hr (Ne.symm hji)) h3.1 hS' ?_⟩
   rw[Array.setIfInBounds_comm _ _ hji]
   exact h3.2.2
theorem anyG_take{i:Nat}{oi:Oper}{v:Value}{f:Nat}{L:Array Bool}{a:Act}{w:World}(K:List Nat)(hi:ops[i]?=some oi)
  (hs:Region.noSelect ops=true) (hf:Region.free md ops L i=true) (hr:(Region.ready md ops L).contains i=true)
  (hK:(K.contains k && !K.contains i && waits md ops i K && K.all fun c=>!L.getD c true)=true)
  (hQ:∀c a w,Q (.panic c) (a.put oi.dst v) w->Q (.panic c) a w) (hy:YieldsIf P ops S oi v a) (hS:S w)
  (h:anyG P md ops Q S k f (L.setIfInBounds i true) (a.put oi.dst v) w):anyG P md ops Q S k (f+1) L a w:=by
 simp only[Bool.and_eq_true,List.contains_iff_mem,Bool.not_eq_true',List.all_eq_true] at hK
 refine anyG_first (K:=K) hi (Region.noSelect_spec hs) hQ hK.1.1.1 (fun hm=>?_) hK.1.2 f L a w (Region.free_spec hi hf) hK.2 (by simpa using hr) hy hS h
 have:=hK.1.1.2
 rw[List.contains_iff_mem.2 hm] at this
 cases this
theorem anyG_one{i:Nat}{f:Nat}{L:Array Bool}{a:Act}{w:World}(hr:Region.ready md ops L=[i])
  (h:wpOp P ops Q i (fun a' w'=>((L.setIfInBounds i true).getD k true=false->S w')/\anyG P md ops Q S k f (L.setIfInBounds i true) a' w') a w):anyG P md ops Q S k (f+1) L a w:=
 ⟨fun h0=>(by rw[hr] at h0;cases h0),fun j hj=>by rw[hr,List.mem_singleton] at hj;subst hj;exact h⟩
theorem wpOp_at{i:Nat}{o:Oper}{a:Act}{w:World}{K:Act->World->Prop}(hi:ops[i]?=some o)(hw:Region.wanted o (yielded ops a.tmps)=true)
  (h:∀K':Act->World->Prop,Hid (∀a w,K a w->K' a w)->o.wp P a w K' Q):wpOp P ops Q i K a w:=by
 unfold wpOp
 simp only[hi,hw,if_true]
 exact .inl (h K (hide fun _ _ h=>h))
theorem anyG_done{L:Array Bool}{a:Act}{w:World}(hr:Region.ready md ops L=[])(h:Q .normal a w):∀f,anyG P md ops Q S k f L a w
 | 0=>⟨hr,h⟩
 | _+1=>⟨fun _=>h,by rw[hr];simp⟩
theorem wp_region_G{id:Nat}{a:Act}{w:World}(hm:P.follows .mixedOrders=true)
  (h:anyG P .any ops Q S k ops.size (Array.replicate ops.size false) a { w with drawn:=w.drawn+1 }):(Code.region id ops true).wp P Q a w:=
 wp_region_any hm (any_of_G _ _ _ _ h)
theorem drop_at{α:Type}{l:Array α}{i:Nat}{o:α}{r:List α}(h:l.toList.drop i=o::r):l[i]?=some o:=by
 have h1:(l.toList.drop i)[0]?=some o:=by rw[h];rfl
 rw[List.getElem?_drop] at h1
 simpa using h1
theorem wpOp_lit{i:Nat}{o:Oper}{r:List Oper}{a:Act}{w:World}{K:Act->World->Prop}(hi:ops.toList.drop i=o::r)(hw:Region.wanted o (yielded ops a.tmps)=true)
  (h:∀K':Act->World->Prop,Hid (∀a w,K a w->K' a w)->o.wp P a w K' Q):wpOp P ops Q i K a w:=wpOp_at (drop_at hi) hw h
theorem anyG_takel{i:Nat}{oi:Oper}{r:List Oper}{v:Value}{f:Nat}{L:Array Bool}{a:Act}{w:World}(K:List Nat)(hi:ops.toList.drop i=oi::r)
  (hs:Region.noSelect ops=true) (hf:Region.free md ops L i=true) (hr:(Region.ready md ops L).contains i=true)
  (hK:(K.contains k && !K.contains i && waits md ops i K && K.all fun c=>!L.getD c true)=true)
  (hQ:∀c a w,Q (.panic c) (a.put oi.dst v) w->Q (.panic c) a w) (hy:YieldsIf P ops S oi v a) (hS:S w)
  (h:anyG P md ops Q S k f (L.setIfInBounds i true) (a.put oi.dst v) w):anyG P md ops Q S k (f+1) L a w:=anyG_take K (drop_at hi) hs hf hr hK hQ hy hS h
end
end Go.Proofs.YtbfibfmnemnbbaaGreat
set_option linter.unusedSimpArgs false
set_option linter.unusedVariables false
set_option maxHeartbeats 2000000
set_option maxRecDepth 100000
namespace Go.Proofs.YtbfibfmnemnbbaaGreat
open Go.RowKit Go.Sort Go.Lib
def txt(s:ByteArray):List Int:=s.data.toList.map fun b=>(b.toNat:Int)
theorem txt_len(s:ByteArray):(txt s).length=s.size:=by rw[txt,List.length_map,Array.length_toList];rfl
theorem txt_cells(s:ByteArray):(txt s).map (Value.int .u8)=strCells s:=by simp[txt,strCells]
theorem append_str{base n:Nat}{i:TypeInfo}{w:World}{v:Value}{xs:List Value}(ty:TypeId)(hi:Tryz.prog.info? 5=some i)(hz:i.zero=some (.int .u8 0))(hsize:i.size=1)(hby:i.bytes=1)
  (hown:w.ownsRow base 5 1 v n xs) (s:ByteArray) (hn:n+s.size<=140737488355328) (hbase:base<=w.heap.size) :
  ∃v' w',(Builtin.append_ #[82,9] ty #[v,.string s]).run Tryz.prog w=.ok v' w'/\w'.ownsRow base 5 1 v' (n+s.size) (xs++strCells s)/\w.grownBy w' v.ownBlock/\(v'.ownBlock=v.ownBlock∨v'.ownBlock=some w.heap.size):=by
 have h63:n+s.size<=maxLen:=by unfold maxLen;omega
 obtain⟨v',w',hr,ho,hg,hiff⟩:=run_append_own_string (P:=Tryz.prog) w base 82 9 ty 5 i Tryz.underlying82 Tryz.underlying9 hi hz hsize hby v n xs hown s h63 hn hbase
 refine⟨v',w',hr,ho,hg,?_⟩
 have hxl:xs.length=n:=by simpa using hown.1
 rcases hown.2 with ⟨rfl,rfl⟩|⟨g,cap,cur,rfl,hbg,hgc,hnc,hcm,hcs,htake⟩
 ·by_cases hm:s.size=0
  ·rw[hiff.2 ⟨rfl,hm⟩];exact .inl rfl
  ·have h2:=run_append_nil_string (P:=Tryz.prog) w 82 9 ty 5 i (.int .u8 0) Tryz.underlying82 Tryz.underlying9 hi hz s (by omega) (by omega) (by rw[hby];omega)
   rw[hr] at h2
   injection h2 with h3 h4
   rw[h3]
   exact .inr rfl
 ·by_cases hroom:n+s.size<=cap
  ·have h2:=run_append_room_string (P:=Tryz.prog) w 82 9 ty 5 i Tryz.underlying82 Tryz.underlying9 hi hsize g n cap cur hgc s hroom (by omega)
   rw[hr] at h2
   injection h2 with h3 h4
   rw[h3]
   exact .inl rfl
  ·have holds:∀j u,xs[j]?=some u->w.cell? ((⟨g,0,none⟩:Addr).add j)=some u:=World.ownsRow.cells hown (g:=g) rfl
   have h2:=run_append_grow_string (P:=Tryz.prog) w 82 9 ty 5 i (.int .u8 0) Tryz.underlying82 Tryz.underlying9 hi hz ⟨g,0,none⟩ n cap xs (by rw[hsize];simpa using hxl) holds s (by omega) (by omega) (by rw[hby];exact growslice_fits (by omega) (by omega))
   rw[hr] at h2
   injection h2 with h3 h4
   rw[h3]
   exact .inr rfl
theorem Grew.alloc(w:World)(v:Value)(o:Obj):Grew w (w.alloc o) v v:=by
 refine⟨⟨rfl,rfl,rfl,by simp,fun i hi _=>?_⟩,.inl rfl⟩
 exact Below.heap_alloc w o i hi
theorem Grew.drew(w:World)(v:Value):Grew w w.drew v v:=⟨⟨rfl,rfl,rfl,Nat.le_refl _,fun _ _ _=>rfl⟩,.inl rfl⟩
def plainL(x:Val):List Int:=if x.k == 1 then beL (IntKind.u64.wrap x.n) 8 8 else beL (x.s.size:Int) 2 2++txt x.s
theorem wp_append_str{w:World}{o:Oper}{a:Act}{K:Act->World->Prop}{Q:Exit->Act->World->Prop}(sl x:Operand)
  (ho:o.op=.call { callee:=.builtin .append,args:=#[sl,x],argTypes:=#[82,9] }) (base:Nat) (i:TypeInfo) (hi:Tryz.prog.info? 5=some i) (hz:i.zero=some (.int .u8 0)) (hsize:i.size=1) (hby:i.bytes=1)
  (v:Value) (n:Nat) (xs:List Value) (hs:a.eval sl=v) (hown:w.ownsRow base 5 1 v n xs) (s:ByteArray) (hx:a.eval x=.string s) (hn:n+s.size<=140737488355328) (hbase:base<=w.heap.size)
  (h:∀v' w',w'.ownsRow base 5 1 v' (n+s.size) (xs++strCells s)->w.grownBy w' v.ownBlock->(v'.ownBlock=v.ownBlock∨v'.ownBlock=some w.heap.size)->K (a.put o.dst v') w') :
  Oper.wp Tryz.prog o a w K Q:=by
 obtain⟨v',w',hr,h2,h3,h4⟩:=append_str o.type hi hz hsize hby hown s hn hbase
 unfold Oper.wp execOp
 simp only[ho,resolve,invoke,builtin,Sem.run_bind,Sem.run_pure,Result.andThen_ok,List.map_toArray,List.map_cons,List.map_nil,hs,hx,hr]
 exact h v' w' h2 h3 h4
theorem wrap_size{n:Nat}(h:n<=1000000):IntKind.u64.wrap (n:Int)=n:=by
 simp[IntKind.wrap,IntKind.signed,IntKind.bits]
 omega
theorem plainL_len(x:Val):(plainL x).length<=8+x.s.size:=by
 unfold plainL
 split
 ·rw[beL_len];omega
 ·rw[List.length_append,beL_len,txt_len];omega
theorem applain_any(base:Nat)(zs:List Int)(x:Val)(v:Value)(w:World)(hown:OwnB w base v zs)(hlen:zs.length+x.s.size<=140737488300000)(hs:x.s.size<=1000000)(hbase:base<=w.heap.size) :
  Calls Tryz.prog 142 #[v,x.v] w fun e w'=>∃v',e=.returned v'/\OwnB w' base v' (zs++plainL x)/\Grew w w' v v':=by
 obtain⟨i0,hi,hz0,hz1,hz2⟩:=info_parts Tryz.info5
 rw[x.open_]
 rcases Bool.eq_false_or_eq_true (x.k == 1) with k1|k1
 ·have HV:Hid (plainL x=beL (IntKind.u64.wrap x.n) 8 8):=by show _=_;rw[plainL,k1];rfl
  have HC:=hide (fun W o (h:W=w.alloc o)=>appnum_any base zs (IntKind.u64.wrap x.n) 8 v W (by omega) (by rw[h];exact World.ownsRow.alloc hown o) (by omega) (by rw[h];simp;omega))
  go_enter Tryz.func142,Tryz.ntmps142
  go_wp2_with (go_at_call 120;refine(unhide HC _ _ rfl).mono ?_;rintro e w2 ⟨v2,rfl,ho2,hg2⟩)
  go_ret
  exact⟨_,rfl,by rw[unhide HV];exact ho2,(Grew.alloc w v _).trans hg2⟩
 ·have HV:Hid (plainL x=beL (x.s.size:Int) 2 2++txt x.s):=by show _=_;rw[plainL,k1];rfl
  have hs2:(x.s.size:Int)<=1000000:=by omega
  have hlt:∀g,v.ownBlock=some g->g<w.heap.size:=fun g h=>(ownB_lt hown h).2
  have HLT:=hide hlt
  have HC:Hid (∀W,W=(w.alloc (.cells #[.int .i64 x.k,.int .i64 x.n,.string x.s] 25)).drew->Calls Tryz.prog 120 #[v,.int .u64 (x.s.size:Int),.int .i64 2] W fun e w'=>∃v',e=.returned v'/\(OwnB w' base v' (zs++beL (x.s.size:Int) 2 2)/\Grew w w' v v')/\w'.cell? ⟨w.heap.size,2,none⟩=some (.string x.s)/\v'.ownBlock≠some w.heap.size):=fun W h=>by
   refine(appnum_any base zs (x.s.size:Int) 2 v W (by omega) (by rw[h];exact World.ownsRow.drew (World.ownsRow.alloc hown _)) (by omega) (by rw[h];simp;omega)).mono fun e w' ⟨v',he,ho,hg⟩=>⟨v',he,⟨ho,?_⟩,?_,?_⟩
   ·rw[h] at hg
    exact((Grew.alloc w v _).trans (Grew.drew _ v)).trans hg
   ·rw[grew_kept hg (by rw[h];simp) (fun h=>by have:=hlt _ h;omega) 2,h]
    simp[go_sem]
   ·rw[h] at hg
    intro e
    rcases hg.2 with e2|⟨g,e2,h2⟩
    ·rw[e] at e2;have:=hlt _ e2.symm;omega
    ·rw[e] at e2;injection e2 with e3;simp at h2;omega
  clear hlt
  go_enter Tryz.func142,Tryz.ntmps142
  go_upto_region 3 with fail
  have hS0:(fun w':World=>w'.cell? ⟨w.heap.size,2,none⟩=some (.string x.s)) (w.alloc (.cells #[.int .i64 x.k,.int .i64 x.n,.string x.s] 25)).drew:=by simp[go_sem]
  refine wp_region_noPanic ?_
  refine wp_region_G (S:=fun w':World=>w'.cell? ⟨w.heap.size,2,none⟩=some (.string x.s)) (k:=8) (by kernel_rfl) ?_
  refine anyG_takel (i:=0) (v:=v) [5,8] rfl (by kernel_rfl) (by kernel_rfl) (by kernel_rfl) (by kernel_rfl) (fun _ _ _ h=>h) (Or.inl ⟨by rfl,fun w' hSw=>?_⟩) hS0 ?_
  ·dsimp only at hSw;go_simp
  try simp only[Act.put,List.setIfInBounds_toArray,List.set_cons_zero,List.set_cons_succ]
  refine anyG_takel (i:=1) (v:=(.pointer (some ⟨w.heap.size,2,none⟩))) [2,3,4,5,8] rfl (by kernel_rfl) (by kernel_rfl) (by kernel_rfl) (by kernel_rfl) (fun _ _ _ h=>h) (Or.inl ⟨by rfl,fun w' hSw=>?_⟩) hS0 ?_
  ·dsimp only at hSw;go_simp
  try simp only[Act.put,List.setIfInBounds_toArray,List.set_cons_zero,List.set_cons_succ]
  refine anyG_takel (i:=2) (v:=(.string x.s)) [3,4,5,8] rfl (by kernel_rfl) (by kernel_rfl) (by kernel_rfl) (by kernel_rfl) (fun _ _ _ h=>h) (Or.inl ⟨by rfl,fun w' hSw=>?_⟩) hS0 ?_
  ·dsimp only at hSw;go_simp
  try simp only[Act.put,List.setIfInBounds_toArray,List.set_cons_zero,List.set_cons_succ]
  refine anyG_takel (i:=3) (v:=(.int .i64 x.s.size)) [4,5,8] rfl (by kernel_rfl) (by kernel_rfl) (by kernel_rfl) (by kernel_rfl) (fun _ _ _ h=>h) (Or.inl ⟨by rfl,fun w' hSw=>?_⟩) hS0 ?_
  ·dsimp only at hSw;go_simp
  try simp only[Act.put,List.setIfInBounds_toArray,List.set_cons_zero,List.set_cons_succ]
  refine anyG_takel (i:=4) (v:=(.int .u64 x.s.size)) [5,8] rfl (by kernel_rfl) (by kernel_rfl) (by kernel_rfl) (by kernel_rfl) (fun _ _ _ h=>h) (Or.inl ⟨by rfl,fun w' hSw=>?_⟩) hS0 ?_
  ·dsimp only at hSw;go_simp;exact wrap_size hs
  try simp only[Act.put,List.setIfInBounds_toArray,List.set_cons_zero,List.set_cons_succ]
  refine anyG_takel (i:=6) (v:=(.pointer (some ⟨w.heap.size,2,none⟩))) [7,8] rfl (by kernel_rfl) (by kernel_rfl) (by kernel_rfl) (by kernel_rfl) (fun _ _ _ h=>h) (Or.inl ⟨by rfl,fun w' hSw=>?_⟩) hS0 ?_
  ·dsimp only at hSw;go_simp
  try simp only[Act.put,List.setIfInBounds_toArray,List.set_cons_zero,List.set_cons_succ]
  refine anyG_takel (i:=7) (v:=(.string x.s)) [8] rfl (by kernel_rfl) (by kernel_rfl) (by kernel_rfl) (by kernel_rfl) (fun _ _ _ h=>h) (Or.inl ⟨by rfl,fun w' hSw=>?_⟩) hS0 ?_
  ·dsimp only at hSw;go_simp
  try simp only[Act.put,List.setIfInBounds_toArray,List.set_cons_zero,List.set_cons_succ]
  clear hS0
  refine anyG_one (i:=5) (by kernel_rfl) ?_
  refine wpOp_lit rfl (by rfl) fun K hK=>?_
  go_simp
  refine(unhide HC _ rfl).mono ?_
  rintro e w2 ⟨v2,rfl,HO2,hS2,hne2⟩
  replace HO2:=hide HO2
  go_simp
  refine unhide hK _ _ ⟨fun _=>hS2,?_⟩
  clear hK K
  refine anyG_one (i:=8) (by kernel_rfl) ?_
  refine wpOp_lit rfl (by rfl) fun K hK=>?_
  refine wp_append_str (.tmp 18) (.tmp 20) (by rfl) base i0 hi hz0 hz1 hz2 v2 _ _ (by rfl) (unhide HO2).1 x.s (by rfl) (by rw[List.length_append,beL_len];omega) (by have:=(unhide HO2).2.1.size;omega) ?_
  intro v3 w3 ho3 hgr3 hat3
  have hS3:w3.cell? ⟨w.heap.size,2,none⟩=some (.string x.s):=by rw[hgr3.cell_far ⟨w.heap.size,2,none⟩ (World.block_lt_of_cell? _ _ hS2) (fun e=>hne2 e.symm)];exact hS2
  have HO3:=hide ho3
  have hg3:Grew w2 w3 v2 v3:=⟨hgr3,by rcases hat3 with h|h;exact .inl h;exact .inr ⟨_,h,Nat.le_refl _⟩⟩
  have HG3:=hide ((unhide HO2).2.trans hg3)
  clear ho3 hgr3 hat3 hg3
  go_simp
  refine unhide hK _ _ ⟨fun hh=>absurd hh (by decide),?_⟩
  clear hK K
  refine anyG_one (i:=9) (by kernel_rfl) ?_
  refine wpOp_lit rfl (by rfl) fun K hK=>?_
  go_simp
  refine unhide hK _ _ ⟨fun hh=>absurd hh (by decide),?_⟩
  clear hK K
  refine anyG_done (by kernel_rfl) ?_ _
  refine NoPanic.normal ?_
  go_wp2
  go_ret
  refine⟨_,rfl,?_,unhide HG3⟩
  rw[unhide HV,<-List.append_assoc]
  refine ownB_app (txt_len x.s) ?_
  rw[txt_cells]
  exact unhide HO3
end Go.Proofs.YtbfibfmnemnbbaaGreat
set_option linter.unusedSimpArgs false
set_option linter.unusedVariables false
set_option maxHeartbeats 2000000
set_option maxRecDepth 100000
namespace Go.Proofs.YtbfibfmnemnbbaaGreat
open Go.RowKit Go.Sort
theorem RowAt.grew{w w':World}{v v':Value}{a:Option Addr}{xs:List Val}(h:RowAt w a xs)(hg:Grew w w' v v')(hsep:∀ad,a=some ad->v.ownBlock≠some ad.block):RowAt w' a xs:=by
 rcases h with h|⟨b,off,ha,h⟩
 ·exact .inl h
 ·refine .inr ⟨b,off,ha,fun i x hx=>?_⟩
  obtain⟨h0,h1,h2⟩:=h i x hx
  have hs:=hsep _ ha
  exact⟨by rw[grew_kept hg (World.block_lt_of_cell? _ _ h0) hs];exact h0,by rw[grew_kept hg (World.block_lt_of_cell? _ _ h1) hs];exact h1,by rw[grew_kept hg (World.block_lt_of_cell? _ _ h2) hs];exact h2⟩
def plains(xs:List Val):List Int:=xs.flatMap plainL
theorem plains_next{xs:List Val}{k:Nat}{x:Val}(h:xs[k]?=some x):plains (xs.take (k+1))=plains (xs.take k)++plainL x:=by
 obtain⟨h1,rfl⟩:=List.getElem?_eq_some_iff.1 h
 unfold plains
 rw[List.take_succ_eq_append_getElem h1,List.flatMap_append,List.flatMap_cons,List.flatMap_nil,List.append_nil]
theorem plains_len(xs:List Val)(h:∀x∈xs,x.s.size<=1000):(plains xs).length<=1008*xs.length:=by
 unfold plains
 induction xs with
 | nil=>simp
 | cons x xs ih=>
  have h1:=plainL_len x
  have h2:=h x (by simp)
  have h3:=ih (fun y hy=>h y (by simp[hy]))
  rw[List.flatMap_cons,List.length_append,List.length_cons]
  omega
theorem applains_any(base:Nat)(zs:List Int)(aa:Option Addr)(ca:Nat)(xs:List Val)(v:Value)(w:World)(hown:OwnB w base v zs)(hlen:zs.length+1008*xs.length<=140737488000000)(hs:∀x∈xs,x.s.size<=1000)(hbase:base<=w.heap.size)
  (ha:RowAt w aa xs) (hsep:∀ad,aa=some ad->v.ownBlock≠some ad.block) :
  Calls Tryz.prog 127 #[v,.slice aa xs.length ca] w fun e w'=>∃v',e=.returned v'/\OwnB w' base v' (zs++plains xs)/\Grew w w' v v':=by
 have HA:=hide ha
 have HSEP:=hide hsep
 have HS:=hide hs
 clear ha hsep hs
 go_enter Tryz.func127,Tryz.ntmps127
 go_wp2_with fail
 go_loopw[0,9] (fun key s wr=>∃k:Nat,k<=xs.length/\s=.int .i64 (k:Int)/\OwnB wr base key (zs++plains (xs.take k))/\Grew w wr v key) (fun _ s _=>xs.length-(intOf s).toNat)
 case atStart=>exact⟨0,Nat.zero_le _,rfl,by simpa [plains] using hown,Grew.refl _ _⟩
 case round=>
  obtain⟨k,hk,rfl,ho,hg⟩:=hrel
  by_cases h8:k<xs.length
  ·have h9:(k:Int)<(xs.length:Int):=by omega
   obtain⟨x,hx⟩:∃x,xs[k]?=some x:=⟨_,List.getElem?_eq_getElem h8⟩
   have hxs:=unhide HS x (List.mem_of_getElem? hx)
   have hA:=(unhide HA).grew hg (unhide HSEP)
   rcases hA with e|⟨b,off,rfl,hc⟩
   ·rw[e] at hx;cases hx
   obtain⟨c0,c1,c2⟩:=hc k x hx
   have hll:(zs++plains (xs.take k)).length+x.s.size<=140737488300000:=by
    have:=plains_len (xs.take k) (fun y hy=>unhide HS y (List.mem_of_mem_take hy))
    rw[List.length_take] at this
    rw[List.length_append]
    omega
   have HC:=hide (fun W o (h:W=wr.alloc o)=>applain_any base (zs++plains (xs.take k)) x u0 W (by rw[h];exact World.ownsRow.alloc ho o) hll (by omega) (by rw[h];have:=hg.1.size;simp;omega))
   have HN:=hide (plains_next hx)
   have HG:=hide hg
   have HO:=hide ho
   have hsz:=hg.1.size
   clear hc hx hll ho hg
   go_wp2_with (go_at_call 142;refine(unhide HC _ _ rfl).mono ?_;rintro e w2 ⟨v2,rfl,ho2,hg2⟩)
   go_roundw
   case rel=>exact⟨k+1,by omega,by go_num,by rw[unhide HN,<-List.append_assoc];exact ho2,(unhide HG).trans ((Grew.alloc wr _ _).trans hg2)⟩
   case measure=>first | (simp[intOf];done) | (simp only[intOf];omega)
  ·have hk8:k=xs.length:=by omega
   have h9:¬(k:Int)<(xs.length:Int):=by omega
   rw[hk8,List.take_length] at ho
   have HO:=hide ho
   have HG:=hide hg
   clear ho hg hk8
   go_wp2
   go_ret
   exact⟨_,rfl,unhide HO,unhide HG⟩
end Go.Proofs.YtbfibfmnemnbbaaGreat
set_option linter.unusedSimpArgs false
set_option linter.unusedVariables false
namespace Go.Proofs.YtbfibfmnemnbbaaGreat
open Go.RowKit Go.Sort
def standL(xs:List Val):List Val:=xs.filter fun x=>x.k != 0
theorem stand_yes{xs:List Val}{k:Nat}{x:Val}(h:xs[k]?=some x)(hx:(x.k != 0)=true):standL (xs.take (k+1))=standL (xs.take k)++[x]:=by
 obtain⟨h1,rfl⟩:=List.getElem?_eq_some_iff.1 h
 unfold standL
 rw[List.take_succ_eq_append_getElem h1,List.filter_append,List.filter_cons,hx]
 rfl
theorem stand_no{xs:List Val}{k:Nat}{x:Val}(h:xs[k]?=some x)(hx:(x.k != 0)=false):standL (xs.take (k+1))=standL (xs.take k):=by
 obtain⟨h1,rfl⟩:=List.getElem?_eq_some_iff.1 h
 unfold standL
 rw[List.take_succ_eq_append_getElem h1,List.filter_append,List.filter_cons,hx]
 simp
theorem stand_len(xs:List Val):(standL xs).length<=xs.length:=List.length_filter_le _ _
end Go.Proofs.YtbfibfmnemnbbaaGreat
set_option linter.unusedSimpArgs false
set_option linter.unusedVariables false
set_option maxHeartbeats 2000000
set_option maxRecDepth 100000
namespace Go.Proofs.YtbfibfmnemnbbaaGreat
open Go.RowKit Go.Sort
theorem below_drewN{W0 w:World}(h:Below W0.heap.size W0 w)(n:Nat):Below W0.heap.size W0 (World.drewN w n):=by
 induction n with
 | zero=>exact h
 | succ n ih=>exact ih.drew
def sameB(x y:Val):Bool:=x.k == y.k && x.n == y.n && x.s.toList == y.s.toList
def aheadN(xs:List Val):Nat:=(xs.takeWhile fun y=>sameB y (xs.headD Val.null)).length
theorem while_len{α:Type}(p:α->Bool):∀(xs:List α) (k:Nat),(∀i y,i<k->xs[i]?=some y->p y=true)->k<=xs.length->(∀y,xs[k]?=some y->p y=false)->(xs.takeWhile p).length=k
 | [],k,_,hk,_=>by simp at hk;simp[hk]
 | x::xs,0,_,_,h=>by
  have:=h x (by simp)
  simp[List.takeWhile_cons,this]
 | x::xs,k+1,h,hk,h2=>by
  have h0:=h 0 x (by omega) (by simp)
  rw[List.takeWhile_cons,h0]
  have ih:=while_len p xs k (fun i y hi hy=>h (i+1) y (by omega) (by simpa using hy)) (by simpa using hk) (fun y hy=>h2 y (by simpa using hy))
  simp[ih]
theorem ahead_any(aa:Option Addr)(ca:Nat)(xs:List Val)(w:World)(hl:xs.length<=1048576)(ha:RowAt w aa xs) :
  Calls Tryz.prog 141 #[.slice aa xs.length ca] w fun e w'=>e=.returned (.int .i64 (aheadN xs))/\Below w.heap.size w w':=by
 have HA:=hide ha
 clear ha
 have HL:Hid (∀k,(∀i y,i<k->xs[i]?=some y->sameB y (xs.headD Val.null)=true)->k<=xs.length->(∀y,xs[k]?=some y->sameB y (xs.headD Val.null)=false)->aheadN xs=k):=fun k=>while_len _ xs k
 generalize aheadN xs=R at *
 go_enter Tryz.func141,Tryz.ntmps141
 go_wp2_with fail
 go_loopw[7] (fun s wr=>∃k:Nat,k<=xs.length/\s=.int .i64 (k:Int)/\Hid (∀i y,i<k->xs[i]?=some y->sameB y (xs.headD Val.null)=true)/\Below w.heap.size w wr) (fun s _=>xs.length-(intOf s).toNat)
 case atStart=>exact⟨0,Nat.zero_le _,rfl,fun i y hi=>by omega,Below.refl _ _⟩
 case round=>
  obtain⟨k,hk,rfl,HS,hb⟩:=hrel
  by_cases h8:k<xs.length
  ·have h9:(k:Int)<(xs.length:Int):=by omega
   have h90:(0:Int)<(xs.length:Int):=by omega
   obtain⟨x,hx⟩:∃x,xs[k]?=some x:=⟨_,List.getElem?_eq_getElem h8⟩
   obtain⟨z,hz⟩:∃z,xs[0]?=some z:=⟨_,List.getElem?_eq_getElem (by omega)⟩
   have hh:xs.headD Val.null=z:=by cases xs with|nil=>simp at hz|cons y ys=>simpa using hz
   have bl:=below_alloc (Below.refl _ wr) (.cells #[.int .i64 x.k,.int .i64 x.n,.string x.s] 25)
   have HB1:=hide (below_step hb bl)
   have hA1:=(unhide HA).later (below_step hb bl)
   rcases(unhide HA).later hb with e|⟨b,off,rfl,hc⟩
   ·rw[e] at hx;cases hx
   obtain⟨c0,c1,c2⟩:=hc k x hx
   have HX:=hide hx
   have HH:=hide hh
   rcases hA1 with e|⟨b',off',eb,hc'⟩
   ·rw[e] at hx;cases hx
   injection eb with eb
   injection eb with eb1 eb2
   subst eb1 eb2
   obtain⟨d0,d1,d2⟩:=hc' 0 z hz
   simp only[Nat.zero_mul,Nat.add_zero] at d0 d1 d2
   have HCELL:Hid ((wr.alloc (.cells #[.int .i64 x.k,.int .i64 x.n,.string x.s] 25)).cell? ⟨wr.heap.size,0,none⟩=some (.int .i64 x.k)):=by show _=_;simp[go_sem]
   clear hc hc' hx hz hb bl
   go_upto_region 4 with fail
   obtain⟨W,hW⟩:∃W,Hid (W=wr.alloc (.cells #[.int .i64 x.k,.int .i64 x.n,.string x.s] 25)):=⟨_,rfl⟩
   have b0:W.cell? ⟨wr.heap.size,0,none⟩=some (.int .i64 x.k):=by rw[unhide hW];simp[go_sem]
   have b1:W.cell? ⟨wr.heap.size,1,none⟩=some (.int .i64 x.n):=by rw[unhide hW];simp[go_sem]
   have b2:W.cell? ⟨wr.heap.size,2,none⟩=some (.string x.s):=by rw[unhide hW];simp[go_sem]
   rw[<-unhide hW] at d0 d1 d2 HB1 ⊢
   clear hW c0 c1 c2 HCELL
   rcases Bool.eq_false_or_eq_true (x.k == z.k) with e1|e1
   ·rcases Bool.eq_false_or_eq_true (x.n == z.n) with e2|e2
    ·rcases Bool.eq_false_or_eq_true (x.s.toList == z.s.toList) with e3|e3
     ·have HSM:Hid (sameB x z=true):=by show _=_;simp only[sameB,e1,e2,e3,Bool.and_self]
      go_quiet (fail)
      go_wp2
      go_roundw
      case rel=>
       refine⟨k+1,by omega,by go_num,fun i y hi hy=>?_,below_drewN (unhide HB1) _⟩
       by_cases h:i<k
       ·exact unhide HS i y h hy
       ·have:i=k:=by omega
        subst this
        rw[unhide HX] at hy
        injection hy with hy
        rw[<-hy,unhide HH]
        exact unhide HSM
      case measure=>first | (simp[intOf];done) | (simp only[intOf];omega)
     ·have HSM:Hid (R=k):=by show _=_;exact unhide HL k (unhide HS) hk (fun y hy=>by rw[unhide HX] at hy;injection hy with hy;rw[<-hy,unhide HH];simp only[sameB,e1,e2,e3,Bool.and_false])
      go_quiet (fail)
      go_wp2
      go_ret
      exact⟨by rw[unhide HSM];rfl,below_drewN (unhide HB1) _⟩
    ·have HSM:Hid (R=k):=by show _=_;exact unhide HL k (unhide HS) hk (fun y hy=>by rw[unhide HX] at hy;injection hy with hy;rw[<-hy,unhide HH];simp only[sameB,e1,e2,Bool.and_false,Bool.false_and])
     go_quiet (fail)
     go_wp2
     go_ret
     exact⟨by rw[unhide HSM];rfl,below_drewN (unhide HB1) _⟩
   ·have HSM:Hid (R=k):=by show _=_;exact unhide HL k (unhide HS) hk (fun y hy=>by rw[unhide HX] at hy;injection hy with hy;rw[<-hy,unhide HH];simp only[sameB,e1,Bool.false_and])
    go_quiet (fail)
    go_wp2
    go_ret
    exact⟨by rw[unhide HSM];rfl,below_drewN (unhide HB1) _⟩
  ·have h9:¬(k:Int)<(xs.length:Int):=by omega
   have hk8:k=xs.length:=by omega
   have HSM:Hid (R=xs.length):=by show _=_;rw[<-hk8];exact unhide HL k (unhide HS) hk (fun y hy=>by rw[List.getElem?_eq_none (by omega)] at hy;cases hy)
   have HB:=hide hb
   clear hb hk8
   go_wp2
   go_ret
   exact⟨by rw[unhide HSM];rfl,unhide HB⟩
end Go.Proofs.YtbfibfmnemnbbaaGreat
set_option linter.unusedSimpArgs false
set_option linter.unusedVariables false
set_option maxHeartbeats 4000000
set_option maxRecDepth 100000
namespace Go.Proofs.YtbfibfmnemnbbaaGreat
open Go.RowKit Go.Sort
def minFrom(m:Val)(ys:List Val):Val:=ys.foldl (fun m x=>if ordV x m<0 then x else m) m
theorem minFrom_next{m y:Val}{ys:List Val}{j:Nat}(h:ys[j]?=some y):minFrom m (ys.take (j+1))=if ordV y (minFrom m (ys.take j))<0 then y else minFrom m (ys.take j):=by
 obtain⟨h1,rfl⟩:=List.getElem?_eq_some_iff.1 h
 unfold minFrom
 rw[List.take_succ_eq_append_getElem h1,List.foldl_append]
 rfl
theorem order_o(x y:Val)(w:World):Calls Tryz.prog 80 #[.agg #[.int .i64 x.k,.int .i64 x.n,.string x.s],.agg #[.int .i64 y.k,.int .i64 y.n,.string y.s]] w fun e w'=>e=.returned (.int .i64 (ordV x y))/\Below w.heap.size w w':=order_any x y w
theorem box3_cells{w:World}{g:Nat}{y:Val}(h:w.rowIs g 25 3 (box3 y)):w.cell? ⟨g,0,none⟩=some (.int .i64 y.k)/\w.cell? ⟨g,1,none⟩=some (.int .i64 y.n)/\w.cell? ⟨g,2,none⟩=some (.string y.s)/\w.frozen? ⟨g,0,none⟩=false/\w.frozen? ⟨g,1,none⟩=false/\w.frozen? ⟨g,2,none⟩=false:=
 ⟨h.cell (by omega),h.cell (by omega),h.cell (by omega),h.frozen 0,h.frozen 1,h.frozen 2⟩
theorem vmin_any(aa:Option Addr)(ca:Nat)(x0:Val)(ys:List Val)(w:World)(hl:(x0::ys).length<=1048576)(ha:RowAt w aa (x0::ys)) :
  Calls Tryz.prog 147 #[.slice aa (x0::ys).length ca,.func (.func 80) #[] #[]] w fun e w'=>e=.returned (minFrom x0 ys).v/\Below w.heap.size w w':=by
 have HA:=hide ha
 rcases ha with e|⟨rb,ro,rfl,hc⟩
 ·cases e
 obtain⟨d0,d1,d2⟩:=hc 0 x0 rfl
 simp only[Nat.zero_mul,Nat.add_zero] at d0 d1 d2
 have hlt:=World.block_lt_of_cell? _ _ d0
 have hlt':rb<w.heap.size:=hlt
 clear hc hlt
 have HYL:Hid ((x0::ys).length=ys.length+1):=rfl
 have h1:¬(((x0::ys).length:Int)<1):=by simp only[List.length_cons];omega
 have h0:(0:Int)<((x0::ys).length:Int):=by simp only[List.length_cons];omega
 generalize hN:(x0::ys).length=N at *
 clear hN
 go_enter Tryz.func147,Tryz.ntmps147
 go_wp2_with fail
 go_loopw[6] (fun s wr=>∃(j:Nat) (m:Val),s=.int .i64 ((j:Int)+1)/\j<=ys.length/\Hid (m=minFrom x0 (ys.take j))/\wr.rowIs (w.heap.size+1) 25 3 (box3 m)/\wr.rowIs w.heap.size 25 3 (box3 Val.null)/\Below w.heap.size w wr) (fun s _=>N-(intOf s).toNat)
 case atStart=>
  refine⟨0,x0,rfl,Nat.zero_le _,rfl,?_,?_,?_⟩
  ·have:=box3_alloc (w.alloc (.cells #[.int .i64 0,.int .i64 0,.string ⟨#[]⟩] 25)) x0
   simpa using this
  ·exact(box3_alloc w Val.null).alloc _
  ·exact below_alloc (below_alloc (Below.refl _ _) _) _
 case round=>
  obtain⟨j,m,rfl,hj,HM,hrm,hr0,hb⟩:=hrel
  by_cases h8:j<ys.length
  ·have h9:(j:Int)+1<(N:Int):=by have:=unhide HYL;omega
   obtain⟨y,hy⟩:∃y,ys[j]?=some y:=⟨_,List.getElem?_eq_getElem h8⟩
   have HNX:=hide (minFrom_next (m:=x0) hy)
   rcases(unhide HA).later hb with e|⟨rb',ro',eb,hc⟩
   ·cases e
   injection eb with eb
   injection eb with eb1 eb2
   subst eb1 eb2
   obtain⟨c0,c1,c2⟩:=hc (j+1) y (by simpa using hy)
   obtain⟨b0,b1,b2,f0,f1,f2⟩:=box3_cells hrm
   have HO:=hide (order_o y m)
   have HRM:=hide hrm
   have HR0:=hide hr0
   have HB:=hide hb
   have hszr:w.heap.size+1<wr.heap.size:=hrm.lt
   rw[<-unhide HM] at HNX
   generalize ordV y m=O at *
   have ej:((j:Int)+1)=((j+1:Nat):Int):=by omega
   rw[ej] at h9 ⊢
   clear hc hy hrm hr0 hb ej
   go_upto_region 7 with fail
   go_cut[27] (fun s27 wx=>s27=.bool (decide (O<0))/\Below wr.heap.size wr wx)
   case first=>
    have k0:=cell_regrown c0
    have k1:=cell_regrown c1
    have k2:=cell_regrown c2
    have k3:=cell_regrown b0
    have k4:=cell_regrown b1
    have k5:=cell_regrown b2
    clear c0 c1 c2 b0 b1 b2
    refine wp_region_quiet_below (by kernel_rfl) (by kernel_rfl) ?_
    repeat (go_big_quiet_step (first
     | (go_at_call 80;exact Calls.regrown_of (unhide HO _))))
    refine wpQuiet_nil ?_
    intro w' hw'
    have hB:Below wr.heap.size wr w':=by obtain⟨p,rfl⟩:=hw';exact below_regrown _ _ _
    clear hw'
    go_wp2
    go_meet
    exact⟨rfl,hB⟩
   case rest=>
    obtain⟨rfl,hbx⟩:=hcut
    rename World=>wx
    replace c0:=cell_later hbx c0
    replace c1:=cell_later hbx c1
    replace c2:=cell_later hbx c2
    have hrm:=rowIs_later (unhide HRM) hbx
    have hr0:=rowIs_later (unhide HR0) hbx
    obtain⟨b0,b1,b2,f0,f1,f2⟩:=box3_cells hrm
    have HRX:=hide hrm
    have HR0X:=hide hr0
    have HBX:=hide (below_step (unhide HB) hbx)
    clear hbx hrm hr0
    by_cases hO:O<0
    ·have e1:decide (O<0)=true:=decide_eq_true hO
     rw[if_pos hO] at HNX
     rw[e1]
     clear e1
     go_wp2
     go_roundw
     case rel=>
      refine⟨j+1,y,by go_num,by omega,(unhide HNX).symm,box3_set (unhide HRX),?_,?_⟩
      ·exact(((unhide HR0X).setOther (by simp) _).setOther (by simp) _).setOther (by simp) _
      ·exact(((unhide HBX).setCell (by simp) _).setCell (by simp) _).setCell (by simp) _
     case measure=>have:=unhide HYL;first | (simp[intOf];omega) | (simp only[intOf];omega)
    ·have e1:decide (O<0)=false:=decide_eq_false hO
     rw[if_neg hO] at HNX
     rw[e1]
     clear e1
     go_wp2
     go_roundw
     case rel=>exact⟨j+1,m,by go_num,by omega,(unhide HNX).symm,unhide HRX,unhide HR0X,unhide HBX⟩
     case measure=>have:=unhide HYL;first | (simp[intOf];omega) | (simp only[intOf];omega)
  ·have h9:¬(j:Int)+1<(N:Int):=by have:=unhide HYL;omega
   have hj':j=ys.length:=by omega
   have HM2:Hid (m=minFrom x0 ys):=by show _=_;rw[unhide HM,hj',List.take_length]
   obtain⟨b0,b1,b2,_⟩:=box3_cells hrm
   obtain⟨z0,z1,z2,y0,y1,y2⟩:=box3_cells hr0
   simp only[Val.null] at z0 z1 z2
   have HB:=hide hb
   have hszr:w.heap.size+1<wr.heap.size:=hrm.lt
   clear hrm hr0 hb hj'
   go_wp2
   refine bodyPost_ret (v:=m.v) (by simp[results,Tryz.results147,go_sem,Val.v, *]) rfl ⟨by rw[unhide HM2],?_⟩
   exact(((unhide HB).setCell (by simp) _).setCell (by simp) _).setCell (by simp) _
end Go.Proofs.YtbfibfmnemnbbaaGreat
