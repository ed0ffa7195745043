import Derived.Test.YtekgpapophibcaaGreatVecP
import Derived.OrdersHeld
import Derived.Laws.AppendOwnNone
set_option linter.unusedSimpArgs false
set_option linter.unusedVariables false
set_option maxHeartbeats 2000000
set_option maxRecDepth 100000
namespace Go.Proofs.YtekgpapophibcaaGreat
open Go.RowKit Go.Sort
section
variable {P:Program}{ops:Array Oper}{Q:Exit->Act->World->Prop}{md:Region.Mode}{S:World->Prop}{k:Nat}
def zJ2(P:Program)(md:Region.Mode)(ops:Array Oper)(Q:Exit->Act->World->Prop)(S:World->Prop)(k:Nat):Nat->Array Bool->Act->World->Prop
 | 0,L,a,w=>Region.ready md ops L=[]/\Q .normal a w
 | f+1,L,a,w=>(Region.ready md ops L=[]->Q .normal a w)/\∀i∈Region.ready md ops L,wpOp P ops Q i (fun a' w'=>((L.setIfInBounds i true).getD k true=false->S w')/\zJ2 P md ops Q S k f (L.setIfInBounds i true) a' w') a w
theorem zMC:∀(f:Nat) (L:Array Bool) (a:Act) (w:World),zJ2 P md ops Q S k f L a w->wpAny P md ops Q f L a w
 | 0,_,_,_,h=>h
 | f+1,_,_,_,h=>⟨h.1,fun i hi=>wpOp_mono (fun a' w' h'=>zMC f _ a' w' h'.2) (h.2 i hi)⟩
def zNy(md:Region.Mode)(ops:Array Oper)(i:Nat)(K:List Nat):Bool:=
 K.all fun c=>match ops[c]? with
  | some o=>o.after.any fun e=>Region.binds md e && (e.on == i || K.contains e.on)
  | none=>true
theorem zPP{i j:Nat}{K:List Nat}{L:Array Bool}(hw:zNy md ops i K=true)(hL:∀c∈K,L.getD c true=false)(hi:i∈Region.ready md ops L)(hj:j∈Region.ready md ops L):j ∉ K:=by
 intro hjK
 have un:∀c,L.getD c true=false->L.getD c false=true->False:=by
  intro c h0 h1
  rcases Nat.lt_or_ge c L.size with h' | h'
  ·simp[h'] at h0 h1;rw[h0] at h1;cases h1
  ·simp[Array.getElem?_eq_none h'] at h1
 obtain⟨_,o,ho,Qs⟩:=mem_ready.1 hj
 have h1:=List.all_eq_true.1 hw j hjK
 simp only[ho] at h1
 obtain⟨e,he,hb⟩:∃e,e∈o.after/\(Region.binds md e && (e.on == i || K.contains e.on))=true:=by
  obtain⟨n,hn,hb⟩:=Array.any_eq_true.1 h1
  exact⟨_,Array.getElem_mem hn,hb⟩
 simp only[Bool.and_eq_true,Bool.or_eq_true,beq_iff_eq,List.contains_iff_mem] at hb
 have h2:=Qs e he hb.1
 rcases hb.2 with h3|h3
 ·rw[h3] at h2
  exact un _ (mem_ready.1 hi).1 h2
 ·exact un _ (hL _ h3) h2
theorem zNU{i:Nat}{oi:Oper}{v:Value}{K:List Nat}(hi:ops[i]?=some oi)(hsel:∀(j:Nat) (o:Oper) cs b,ops[j]?=some o->o.op≠.select cs b)
  (hQ:∀c a w,Q (.panic c) (a.put oi.dst v) w->Q (.panic c) a w) (hk:k∈K) (hiK:i ∉ K) (hw:zNy md ops i K=true) :
  ∀(f:Nat) (L:Array Bool) (a:Act) (w:World),
   (∀j oj,ops[j]?=some oj->j≠i->L.getD j true=false->(∀e∈oj.after,Region.binds md e=true->e.on≠i)->oi.apart ops oj=true)->(∀c∈K,L.getD c true=false)->i∈Region.ready md ops L->YieldsIf P ops S oi v a->S w->zJ2 P md ops Q S k f (L.setIfInBounds i true) (a.put oi.dst v) w->zJ2 P md ops Q S k (f+1) L a w:=by
 intro f
 induction f with
 | zero=>
  intro L a w _ _ hr hy hS H
  refine⟨fun h=>(by rw[h] at hr;cases hr),fun j hj=>?_⟩
  by_cases GA:j=i
  ·subst GA;exact hy.wpOp hi hS ⟨fun _=>hS,H⟩
  ·have:=ready_mono hj GA
   rw[H.1] at this
   cases this
 | succ f ih=>
  intro L a w DU hL hr hy hS H
  refine⟨fun h=>(by rw[h] at hr;cases hr),fun j hj=>?_⟩
  by_cases GA:j=i
  ·subst GA;exact hy.wpOp hi hS ⟨fun _=>hS,H⟩
  ·have hjK:=zPP hw hL hr hj
   have h1:=H.2 j (ready_mono hj GA)
   obtain⟨hjun,oj,hoj,Qs⟩:=mem_ready.1 hj
   have hnot:∀e∈oj.after,Region.binds md e=true->e.on≠i:=fun e he hb heq=>by
    have h1:=Qs e he hb
    have h0:=(mem_ready.1 hr).1
    rw[heq] at h1
    rcases Nat.lt_or_ge i L.size with h' | h'
    ·simp[h'] at h0 h1;rw[h0] at h1;cases h1
    ·simp[Array.getElem?_eq_none h'] at h1
   have h2:=wpOp_putIf hoj (DU j oj hoj GA hjun hnot) (fun cs b=>hsel i oi cs b hi) (fun cs b=>hsel j oj cs b hoj) hQ hy h1
   have FP:∀c oc,ops[c]?=some oc->c≠i->(L.setIfInBounds j true).getD c true=false->(∀e∈oc.after,Region.binds md e=true->e.on≠i)->oi.apart ops oc=true:=fun c oc hc GO hun yI=>by
    refine DU c oc hc GO ?_ yI
    by_cases hjc:j=c
    ·subst hjc;exact hjun
    ·rw[getD_set_ne true hjc] at hun;exact hun
   have hL':∀c∈K,(L.setIfInBounds j true).getD c true=false:=fun c hc=>by
    have Hg:j≠c:=fun h=>hjK (by rw[h];exact hc)
    rw[getD_set_ne true Hg]
    exact hL c hc
   refine wpOp_mono (fun a' w' h3=>?_) h2
   have FG:j≠k:=fun h=>hjK (by rw[h];exact hk)
   have hik:i≠k:=fun h=>hiK (by rw[h];exact hk)
   have hS':S w':=h3.2.1 (by rw[getD_set_ne true FG,getD_set_ne true hik];exact hL k hk)
   refine⟨fun _=>hS',ih (L.setIfInBounds j true) a' w' FP hL' (ready_mono hr (Ne.symm GA)) h3.1 hS' ?_⟩
   rw[Array.setIfInBounds_comm _ _ GA]
   exact h3.2.2
theorem zQR{i:Nat}{oi:Oper}{v:Value}{f:Nat}{L:Array Bool}{a:Act}{w:World}(K:List Nat)(hi:ops[i]?=some oi)
  (hs:Region.noSelect ops=true) (hf:Region.free md ops L i=true) (hr:(Region.ready md ops L).contains i=true)
  (hK:(K.contains k && !K.contains i && zNy md ops i K && K.all fun c=>!L.getD c true)=true)
  (hQ:∀c a w,Q (.panic c) (a.put oi.dst v) w->Q (.panic c) a w) (hy:YieldsIf P ops S oi v a) (hS:S w)
  (h:zJ2 P md ops Q S k f (L.setIfInBounds i true) (a.put oi.dst v) w):zJ2 P md ops Q S k (f+1) L a w:=by
 simp only[Bool.and_eq_true,List.contains_iff_mem,Bool.not_eq_true',List.all_eq_true] at hK
 refine zNU (K:=K) hi (Region.noSelect_spec hs) hQ hK.1.1.1 (fun hm=>?_) hK.1.2 f L a w (Region.free_spec hi hf) hK.2 (by simpa using hr) hy hS h
 have:=hK.1.1.2
 rw[List.contains_iff_mem.2 hm] at this
 cases this
theorem zA7{i:Nat}{f:Nat}{L:Array Bool}{a:Act}{w:World}(hr:Region.ready md ops L=[i])
  (h:wpOp P ops Q i (fun a' w'=>((L.setIfInBounds i true).getD k true=false->S w')/\zJ2 P md ops Q S k f (L.setIfInBounds i true) a' w') a w):zJ2 P md ops Q S k (f+1) L a w:=
 ⟨fun h0=>(by rw[hr] at h0;cases h0),fun j hj=>by rw[hr,List.mem_singleton] at hj;subst hj;exact h⟩
theorem zSr{i:Nat}{o:Oper}{a:Act}{w:World}{K:Act->World->Prop}(hi:ops[i]?=some o)(hw:Region.wanted o (yielded ops a.tmps)=true)
  (h:∀K':Act->World->Prop,Hid (∀a w,K a w->K' a w)->o.wp P a w K' Q):wpOp P ops Q i K a w:=by
 unfold wpOp
 simp only[hi,hw,if_true]
 exact .inl (h K (zA3 fun _ _ h=>h))
theorem zAl{L:Array Bool}{a:Act}{w:World}(hr:Region.ready md ops L=[])(h:Q .normal a w):∀f,zJ2 P md ops Q S k f L a w
 | 0=>⟨hr,h⟩
 | _+1=>⟨fun _=>h,by rw[hr];simp⟩
theorem zAu{id:Nat}{a:Act}{w:World}(hm:P.follows .mixedOrders=true)
  (h:zJ2 P .any ops Q S k ops.size (Array.replicate ops.size false) a { w with drawn:=w.drawn+1 }):(Code.region id ops true).wp P Q a w:=
 wp_region_any hm (zMC _ _ _ _ h)
theorem zBF{f:Nat}{L:Array Bool}{a:Act}{w:World}(l:List Nat)(hr:Region.ready md ops L=l)(hl:l≠[])
  (h:∀i∈l,wpOp P ops Q i (fun a' w'=>((L.setIfInBounds i true).getD k true=false->S w')/\zJ2 P md ops Q S k f (L.setIfInBounds i true) a' w') a w):zJ2 P md ops Q S k (f+1) L a w:=
 ⟨fun h0=>absurd (hr.symm.trans h0) hl,fun j hj=>h j (by rw[<-hr];exact hj)⟩
theorem zQ1{α:Type}{l:Array α}{i:Nat}{o:α}{r:List α}(h:l.toList.drop i=o::r):l[i]?=some o:=by
 have h1:(l.toList.drop i)[0]?=some o:=by rw[h];rfl
 rw[List.getElem?_drop] at h1
 simpa using h1
theorem zA4{i:Nat}{o:Oper}{r:List Oper}{a:Act}{w:World}{K:Act->World->Prop}(hi:ops.toList.drop i=o::r)(hw:Region.wanted o (yielded ops a.tmps)=true)
  (h:∀K':Act->World->Prop,Hid (∀a w,K a w->K' a w)->o.wp P a w K' Q):wpOp P ops Q i K a w:=zSr (zQ1 hi) hw h
theorem zC7{i:Nat}{oi:Oper}{r:List Oper}{v:Value}{f:Nat}{L:Array Bool}{a:Act}{w:World}(K:List Nat)(hi:ops.toList.drop i=oi::r)
  (hs:Region.noSelect ops=true) (hf:Region.free md ops L i=true) (hr:(Region.ready md ops L).contains i=true)
  (hK:(K.contains k && !K.contains i && zNy md ops i K && K.all fun c=>!L.getD c true)=true)
  (hQ:∀c a w,Q (.panic c) (a.put oi.dst v) w->Q (.panic c) a w) (hy:YieldsIf P ops S oi v a) (hS:S w)
  (h:zJ2 P md ops Q S k f (L.setIfInBounds i true) (a.put oi.dst v) w):zJ2 P md ops Q S k (f+1) L a w:=zQR K (zQ1 hi) hs hf hr hK hQ hy hS h
theorem zA6{i:Nat}{oi:Oper}{r:List Oper}{v:Value}{f:Nat}{L:Array Bool}{a:Act}{w:World}(K:List Nat)(hi:ops.toList.drop i=oi::r)
  (hQ:∀c a w,Q (.panic c) (a.put oi.dst v) w->Q (.panic c) a w) (hy:YieldsIf P ops S oi v a) (hS:S w)
  (h:zJ2 P md ops Q S k f (L.setIfInBounds i true) (a.put oi.dst v) w)
  (hs:Region.noSelect ops=true:=by kernel_rfl) (hf:Region.free md ops L i=true:=by kernel_rfl) (hr:(Region.ready md ops L).contains i=true:=by kernel_rfl)
  (hK:(K.contains k && !K.contains i && zNy md ops i K && K.all fun c=>!L.getD c true)=true:=by kernel_rfl):zJ2 P md ops Q S k (f+1) L a w:=zC7 K hi hs hf hr hK hQ hy hS h
theorem zAI{α:Type}(l:List α)(i:Nat)(x:α):l.toArray.setIfInBounds i x=(l.set i x).toArray:=List.setIfInBounds_toArray ..
theorem zAH{α:Type}(a x:α)(l:List α):(a::l).set 0 x=x::l:=List.set_cons_zero
theorem zAG{α:Type}(a x:α)(i:Nat)(l:List α):(a::l).set (i+1) x=a::l.set i x:=List.set_cons_succ
end
end Go.Proofs.YtekgpapophibcaaGreat
set_option linter.unusedSimpArgs false
set_option linter.unusedVariables false
namespace Go.Proofs.YtekgpapophibcaaGreat
open Go.RowKit Go.Sort Go.Lib
def txt(s:ByteArray):List Int:=s.data.toList.map fun b=>(b.toNat:Int)
theorem zDj(s:ByteArray):(txt s).length=s.size:=by rw[txt,List.length_map,Array.length_toList];rfl
theorem zJA(s:ByteArray):(txt s).map (Value.int .u8)=strCells s:=by simp[txt,strCells]
theorem zKR(s:ByteArray):toB (txt s)=s:=by
 rw[zFx]
 apply ByteArray.ext
 simp only[txt,List.map_map]
 have:s.data.toList.map (ofI ∘ fun b=>(b.toNat:Int))=s.data.toList:=by
  rw[List.map_congr_left (g:=id)]
  ·simp
  ·intro b _
   simp[ofI]
 rw[this]
theorem zI1{base n:Nat}{i:TypeInfo}{w:World}{v:Value}{xs:List Value}(ty:TypeId)(hi:Tryz.prog.info? 5=some i)(hz:i.zero=some (.int .u8 0))(Yv:i.size=1)(TV:i.bytes=1)
  (Hd:w.ownsRow base 5 1 v n xs) (s:ByteArray) (hn:n+s.size<=140737488355328) (Hv:base<=w.heap.size) :
  ∃v' w',(Builtin.append_ #[71,9] ty #[v,.string s]).run Tryz.prog w=.ok v' w'/\w'.ownsRow base 5 1 v' (n+s.size) (xs++strCells s)/\w.grownBy w' v.ownBlock/\(v'.ownBlock=v.ownBlock∨v'.ownBlock=some w.heap.size):=by
 have h63:n+s.size<=maxLen:=by unfold maxLen;omega
 obtain⟨v',w',hr,ho,hg,hiff⟩:=run_append_own_string (P:=Tryz.prog) w base 71 9 ty 5 i Tryz.underlying71 Tryz.underlying9 hi hz Yv TV v n xs Hd s h63 hn Hv
 refine⟨v',w',hr,ho,hg,?_⟩
 have hxl:xs.length=n:=by simpa using Hd.1
 rcases Hd.2 with ⟨rfl,rfl⟩|⟨g,cap,cur,rfl,hbg,FO,hnc,ye,Gp,yz⟩
 ·by_cases hm:s.size=0
  ·rw[hiff.2 ⟨rfl,hm⟩];exact .inl rfl
  ·have h2:=run_append_nil_string (P:=Tryz.prog) w 71 9 ty 5 i (.int .u8 0) Tryz.underlying71 Tryz.underlying9 hi hz s (by omega) (by omega) (by rw[TV];omega)
   rw[hr] at h2
   injection h2 with h3 h4
   rw[h3]
   exact .inr rfl
 ·by_cases hroom:n+s.size<=cap
  ·have h2:=run_append_room_string (P:=Tryz.prog) w 71 9 ty 5 i Tryz.underlying71 Tryz.underlying9 hi Yv g n cap cur FO s hroom (by omega)
   rw[hr] at h2
   injection h2 with h3 h4
   rw[h3]
   exact .inl rfl
  ·have holds:∀j u,xs[j]?=some u->w.cell? ((⟨g,0,none⟩:Addr).add j)=some u:=World.ownsRow.cells Hd (g:=g) rfl
   have h2:=run_append_grow_string (P:=Tryz.prog) w 71 9 ty 5 i (.int .u8 0) Tryz.underlying71 Tryz.underlying9 hi hz ⟨g,0,none⟩ n cap xs (by rw[Yv];simpa using hxl) holds s (by omega) (by omega) (by rw[TV];exact growslice_fits (by omega) (by omega))
   rw[hr] at h2
   injection h2 with h3 h4
   rw[h3]
   exact .inr rfl
theorem zAt.alloc(w:World)(v:Value)(o:Obj):zAt w (w.alloc o) v v:=by
 refine⟨⟨rfl,rfl,rfl,by simp,fun i hi _=>?_⟩,.inl rfl⟩
 exact Below.heap_alloc w o i hi
theorem zAt.drew(w:World)(v:Value):zAt w w.drew v v:=⟨⟨rfl,rfl,rfl,Nat.le_refl _,fun _ _ _=>rfl⟩,.inl rfl⟩
def zB8(x:Val):List Int:=if x.k == 1 then beL (IntKind.u64.wrap x.n) 8 8 else beL (x.s.size:Int) 2 2++txt x.s
theorem zEB(x:Val)(w:World)(hs:x.s.size<=1000000) :
  Calls Tryz.prog 84 #[x.v] w fun e w'=>e=.returned (.string (toB (zB8 x)))/\Below w.heap.size w w':=by
 rw[x.open_]
 obtain⟨R,hR⟩:∃R,Hid (R=toB (zB8 x)):=⟨_,rfl⟩
 rw[<-zA0 hR]
 rcases Bool.eq_false_or_eq_true (x.k == 1) with k1|k1
 ·have E:Hid (toB (beL (IntKind.u64.wrap x.n) 8 8)=R):=by show _=_;rw[zA0 hR,zB8,k1];rfl
  clear hR
  go_enter Tryz.func84,Tryz.ntmps84
  go_wp2_with (go_at_call 32;refine(zBK _ 8 _ (by omega)).mono ?_;rintro e w2 ⟨rfl,Hh⟩)
  go_ret
  exact⟨by rw[zA0 E];rfl,zA2 (zA1 (Below.refl _ w) _) Hh⟩
 ·have E:Hid (toB (beL (x.s.size:Int) 2 2)++x.s=R):=by
   show _=_
   rw[zA0 hR,zB8,k1]
   show _=toB (_++_)
   rw[zAJ,zKR]
  have qt:(x.s.size:Int)<=1000000:=by omega
  clear hR
  go_enter Tryz.func84,Tryz.ntmps84
  go_upto_region 3 with fail
  obtain⟨W,hW⟩:∃W,Hid (W=w.alloc (.cells #[.int .i64 x.k,.int .i64 x.n,.string x.s] 59)):=⟨_,rfl⟩
  have p2:W.cell? ⟨w.heap.size,2,none⟩=some (.string x.s):=by rw[zA0 hW];simp[go_sem]
  have JW:Below w.heap.size w W:=by rw[zA0 hW];exact zA1 (Below.refl _ w) _
  rw[<-zA0 hW]
  have k2:=cell_regrown p2
  have HB:=zA3 (fun W'=>zBK (x.s.size:Int) 2 W' (by omega))
  have hT:(toB (beL (x.s.size:Int) 2 2)).size+x.s.size<=9223372036854775807:=by rw[zAN,zAK];omega
  generalize toB (beL (x.s.size:Int) 2 2)=T at *
  clear hW p2
  refine wp_region_quiet_below (by kernel_rfl) (by kernel_rfl) ?_
  repeat (go_big_quiet_step (first
   | (go_at_call 32;exact Calls.regrown_of (zA0 HB _))))
  refine wpQuiet_nil ?_
  intro w' Hp
  have hB:Below W.heap.size W w':=by obtain⟨p,rfl⟩:=Hp;exact below_regrown _ _ _
  clear Hp
  go_wp2
  go_ret
  exact⟨by rw[<-zA0 E];rfl,zA2 JW hB⟩
theorem zF4{w:World}{o:Oper}{a:Act}{K:Act->World->Prop}{Q:Exit->Act->World->Prop}(sl x:Operand)
  (ho:o.op=.call { callee:=.builtin .append,args:=#[sl,x],argTypes:=#[71,9] }) (base:Nat) (i:TypeInfo) (hi:Tryz.prog.info? 5=some i) (hz:i.zero=some (.int .u8 0)) (Yv:i.size=1) (TV:i.bytes=1)
  (v:Value) (n:Nat) (xs:List Value) (hs:a.eval sl=v) (Hd:w.ownsRow base 5 1 v n xs) (s:ByteArray) (hx:a.eval x=.string s) (hn:n+s.size<=140737488355328) (Hv:base<=w.heap.size)
  (h:∀v' w',w'.ownsRow base 5 1 v' (n+s.size) (xs++strCells s)->w.grownBy w' v.ownBlock->(v'.ownBlock=v.ownBlock∨v'.ownBlock=some w.heap.size)->K (a.put o.dst v') w') :
  Oper.wp Tryz.prog o a w K Q:=by
 obtain⟨v',w',hr,h2,h3,h4⟩:=zI1 o.type hi hz Yv TV Hd s hn Hv
 unfold Oper.wp execOp
 simp only[ho,resolve,invoke,builtin,Sem.run_bind,Sem.run_pure,Result.andThen_ok,List.map_toArray,List.map_cons,List.map_nil,hs,hx,hr]
 exact h v' w' h2 h3 h4
theorem zAW{n:Nat}(h:n<=1000000):IntKind.u64.wrap (n:Int)=n:=by
 simp[IntKind.wrap,IntKind.signed,IntKind.bits]
 omega
theorem zD3(x:Val):(zB8 x).length<=8+x.s.size:=by
 unfold zB8
 split
 ·rw[zAK];omega
 ·rw[zAX,zAK,zDj];omega
theorem zHF(base:Nat)(zs:List Int)(x:Val)(v:Value)(w:World)(Hd:zBC w base v zs)(Hf:zs.length+x.s.size<=140737488300000)(hs:x.s.size<=1000000)(Hv:base<=w.heap.size) :
  Calls Tryz.prog 142 #[v,x.v] w fun e w'=>∃v',e=.returned v'/\zBC w' base v' (zs++zB8 x)/\zAt w w' v v':=by
 obtain⟨i0,hi,QY,Qp,QC⟩:=info_parts Tryz.info5
 rw[x.open_]
 rcases Bool.eq_false_or_eq_true (x.k == 1) with k1|k1
 ·have HV:Hid (zB8 x=beL (IntKind.u64.wrap x.n) 8 8):=by show _=_;rw[zB8,k1];rfl
  have HC:=zA3 (fun W o (h:W=w.alloc o)=>zBv base zs (IntKind.u64.wrap x.n) 8 v W (by omega) (by rw[h];exact World.ownsRow.alloc Hd o) (by omega) (by rw[h];simp;omega))
  go_enter Tryz.func142,Tryz.ntmps142
  go_wp2_with (go_at_call 113;refine(zA0 HC _ _ rfl).mono ?_;rintro e w2 ⟨v2,rfl,Qi,Hj⟩)
  go_ret
  exact⟨_,rfl,by rw[zA0 HV];exact Qi,(zAt.alloc w v _).trans Hj⟩
 ·have HV:Hid (zB8 x=beL (x.s.size:Int) 2 2++txt x.s):=by show _=_;rw[zB8,k1];rfl
  have qt:(x.s.size:Int)<=1000000:=by omega
  have He:∀g,v.ownBlock=some g->g<w.heap.size:=fun g h=>(zBN Hd h).2
  have YV:=zA3 He
  have HC:Hid (∀W,W=(w.alloc (.cells #[.int .i64 x.k,.int .i64 x.n,.string x.s] 59)).drew->Calls Tryz.prog 113 #[v,.int .u64 (x.s.size:Int),.int .i64 2] W fun e w'=>∃v',e=.returned v'/\(zBC w' base v' (zs++beL (x.s.size:Int) 2 2)/\zAt w w' v v')/\w'.cell? ⟨w.heap.size,2,none⟩=some (.string x.s)/\v'.ownBlock≠some w.heap.size):=fun W h=>by
   refine(zBv base zs (x.s.size:Int) 2 v W (by omega) (by rw[h];exact World.ownsRow.drew (World.ownsRow.alloc Hd _)) (by omega) (by rw[h];simp;omega)).mono fun e w' ⟨v',he,ho,hg⟩=>⟨v',he,⟨ho,?_⟩,?_,?_⟩
   ·rw[h] at hg
    exact((zAt.alloc w v _).trans (zAt.drew _ v)).trans hg
   ·rw[zCG hg (by rw[h];simp) (fun h=>by have:=He _ h;omega) 2,h]
    simp[go_sem]
   ·rw[h] at hg
    intro e
    rcases hg.2 with e2|⟨g,e2,h2⟩
    ·rw[e] at e2;have:=He _ e2.symm;omega
    ·rw[e] at e2;injection e2 with e3;simp at h2;omega
  clear He
  go_enter Tryz.func142,Tryz.ntmps142
  go_upto_region 3 with fail
  have Ht:(fun w':World=>w'.cell? ⟨w.heap.size,2,none⟩=some (.string x.s)) (w.alloc (.cells #[.int .i64 x.k,.int .i64 x.n,.string x.s] 59)).drew:=by simp[go_sem]
  refine wp_region_noPanic ?_
  refine zAu (S:=fun w':World=>w'.cell? ⟨w.heap.size,2,none⟩=some (.string x.s)) (k:=8) (by kernel_rfl) ?_
  refine zC7 (i:=0) (v:=v) [5,8] rfl (by kernel_rfl) (by kernel_rfl) (by kernel_rfl) (by kernel_rfl) (fun _ _ _ h=>h) (Or.inl ⟨by rfl,fun w' hSw=>?_⟩) Ht ?_
  ·dsimp only at hSw;go_simp
  try simp only[Act.put,List.setIfInBounds_toArray,List.set_cons_zero,List.set_cons_succ]
  refine zC7 (i:=1) (v:=(.pointer (some ⟨w.heap.size,2,none⟩))) [2,3,4,5,8] rfl (by kernel_rfl) (by kernel_rfl) (by kernel_rfl) (by kernel_rfl) (fun _ _ _ h=>h) (Or.inl ⟨by rfl,fun w' hSw=>?_⟩) Ht ?_
  ·dsimp only at hSw;go_simp
  try simp only[Act.put,List.setIfInBounds_toArray,List.set_cons_zero,List.set_cons_succ]
  refine zC7 (i:=2) (v:=(.string x.s)) [3,4,5,8] rfl (by kernel_rfl) (by kernel_rfl) (by kernel_rfl) (by kernel_rfl) (fun _ _ _ h=>h) (Or.inl ⟨by rfl,fun w' hSw=>?_⟩) Ht ?_
  ·dsimp only at hSw;go_simp
  try simp only[Act.put,List.setIfInBounds_toArray,List.set_cons_zero,List.set_cons_succ]
  refine zC7 (i:=3) (v:=(.int .i64 x.s.size)) [4,5,8] rfl (by kernel_rfl) (by kernel_rfl) (by kernel_rfl) (by kernel_rfl) (fun _ _ _ h=>h) (Or.inl ⟨by rfl,fun w' hSw=>?_⟩) Ht ?_
  ·dsimp only at hSw;go_simp
  try simp only[Act.put,List.setIfInBounds_toArray,List.set_cons_zero,List.set_cons_succ]
  refine zC7 (i:=4) (v:=(.int .u64 x.s.size)) [5,8] rfl (by kernel_rfl) (by kernel_rfl) (by kernel_rfl) (by kernel_rfl) (fun _ _ _ h=>h) (Or.inl ⟨by rfl,fun w' hSw=>?_⟩) Ht ?_
  ·dsimp only at hSw;go_simp;exact zAW hs
  try simp only[Act.put,List.setIfInBounds_toArray,List.set_cons_zero,List.set_cons_succ]
  refine zC7 (i:=6) (v:=(.pointer (some ⟨w.heap.size,2,none⟩))) [7,8] rfl (by kernel_rfl) (by kernel_rfl) (by kernel_rfl) (by kernel_rfl) (fun _ _ _ h=>h) (Or.inl ⟨by rfl,fun w' hSw=>?_⟩) Ht ?_
  ·dsimp only at hSw;go_simp
  try simp only[Act.put,List.setIfInBounds_toArray,List.set_cons_zero,List.set_cons_succ]
  refine zC7 (i:=7) (v:=(.string x.s)) [8] rfl (by kernel_rfl) (by kernel_rfl) (by kernel_rfl) (by kernel_rfl) (fun _ _ _ h=>h) (Or.inl ⟨by rfl,fun w' hSw=>?_⟩) Ht ?_
  ·dsimp only at hSw;go_simp
  try simp only[Act.put,List.setIfInBounds_toArray,List.set_cons_zero,List.set_cons_succ]
  clear Ht
  refine zA7 (i:=5) (by kernel_rfl) ?_
  refine zA4 rfl (by rfl) fun K hK=>?_
  go_simp
  refine(zA0 HC _ rfl).mono ?_
  rintro e w2 ⟨v2,rfl,QN,Ja,Gz⟩
  replace QN:=zA3 QN
  go_simp
  refine zA0 hK _ _ ⟨fun _=>Ja,?_⟩
  clear hK K
  refine zA7 (i:=8) (by kernel_rfl) ?_
  refine zA4 rfl (by rfl) fun K hK=>?_
  refine zF4 (.tmp 18) (.tmp 20) (by rfl) base i0 hi QY Qp QC v2 _ _ (by rfl) (zA0 QN).1 x.s (by rfl) (by rw[zAX,zAK];omega) (by have:=(zA0 QN).2.1.size;omega) ?_
  intro v3 w3 Ya FL hat3
  have hS3:w3.cell? ⟨w.heap.size,2,none⟩=some (.string x.s):=by rw[FL.cell_far ⟨w.heap.size,2,none⟩ (World.block_lt_of_cell? _ _ Ja) (fun e=>Gz e.symm)];exact Ja
  have Jf:=zA3 Ya
  have Qw:zAt w2 w3 v2 v3:=⟨FL,by rcases hat3 with h|h;exact .inl h;exact .inr ⟨_,h,Nat.le_refl _⟩⟩
  have qh:=zA3 ((zA0 QN).2.trans Qw)
  clear Ya FL hat3 Qw
  go_simp
  refine zA0 hK _ _ ⟨fun hh=>absurd hh (by decide),?_⟩
  clear hK K
  refine zA7 (i:=9) (by kernel_rfl) ?_
  refine zA4 rfl (by rfl) fun K hK=>?_
  go_simp
  refine zA0 hK _ _ ⟨fun hh=>absurd hh (by decide),?_⟩
  clear hK K
  refine zAl (by kernel_rfl) ?_ _
  refine NoPanic.normal ?_
  go_wp2
  go_ret
  refine⟨_,rfl,?_,zA0 qh⟩
  rw[zA0 HV,<-List.append_assoc]
  refine zBS (zDj x.s) ?_
  rw[zJA]
  exact zA0 Jf
end Go.Proofs.YtekgpapophibcaaGreat
set_option linter.unusedSimpArgs false
set_option linter.unusedVariables false
namespace Go.Proofs.YtekgpapophibcaaGreat
open Go.RowKit Go.Sort
theorem zAR.grew{w w':World}{v v':Value}{a:Option Addr}{xs:List Val}(h:zAR w a xs)(hg:zAt w w' v v')(Ym:∀ad,a=some ad->v.ownBlock≠some ad.block):zAR w' a xs:=by
 rcases h with h|⟨b,off,ha,h⟩
 ·exact .inl h
 ·refine .inr ⟨b,off,ha,fun i x hx=>?_⟩
  obtain⟨h0,h1,h2⟩:=h i x hx
  have hs:=Ym _ ha
  exact⟨by rw[zCG hg (World.block_lt_of_cell? _ _ h0) hs];exact h0,by rw[zCG hg (World.block_lt_of_cell? _ _ h1) hs];exact h1,by rw[zCG hg (World.block_lt_of_cell? _ _ h2) hs];exact h2⟩
def zBO(xs:List Val):List Int:=xs.flatMap zB8
theorem zEr{xs:List Val}{k:Nat}{x:Val}(h:xs[k]?=some x):zBO (xs.take (k+1))=zBO (xs.take k)++zB8 x:=by
 obtain⟨h1,rfl⟩:=zAL h
 unfold zBO
 rw[List.take_succ_eq_append_getElem h1,List.flatMap_append,List.flatMap_cons,List.flatMap_nil,List.append_nil]
theorem zHe(xs:List Val)(h:∀x∈xs,x.s.size<=1000):(zBO xs).length<=1008*xs.length:=by
 unfold zBO
 induction xs with
 | nil=>simp
 | cons x xs ih=>
  have h1:=zD3 x
  have h2:=h x (by simp)
  have h3:=ih (fun y hy=>h y (by simp[hy]))
  rw[List.flatMap_cons,zAX,List.length_cons]
  omega
theorem zGC(base:Nat)(zs:List Int)(aa:Option Addr)(ca:Nat)(xs:List Val)(v:Value)(w:World)(Hd:zBC w base v zs)(Hf:zs.length+1008*xs.length<=140737488000000)(hs:∀x∈xs,x.s.size<=1000)(Hv:base<=w.heap.size)
  (ha:zAR w aa xs) (Ym:∀ad,aa=some ad->v.ownBlock≠some ad.block) :
  Calls Tryz.prog 120 #[v,.slice aa xs.length ca] w fun e w'=>∃v',e=.returned v'/\zBC w' base v' (zs++zBO xs)/\zAt w w' v v':=by
 have HA:=zA3 ha
 have JE:=zA3 Ym
 have HS:=zA3 hs
 clear ha Ym hs
 go_enter Tryz.func120,Tryz.ntmps120
 go_wp2_with fail
 go_loopw[0,9] (fun key s wr=>∃k:Nat,k<=xs.length/\s=.int .i64 (k:Int)/\zBC wr base key (zs++zBO (xs.take k))/\zAt w wr v key) (fun _ s _=>xs.length-(intOf s).toNat)
 case atStart=>exact⟨0,Nat.zero_le _,rfl,by simpa [zBO] using Hd,zAt.refl _ _⟩
 case round=>
  obtain⟨k,hk,rfl,ho,hg⟩:=hrel
  by_cases h8:k<xs.length
  ·have h9:(k:Int)<(xs.length:Int):=by omega
   obtain⟨x,hx⟩:∃x,xs[k]?=some x:=⟨_,zAf h8⟩
   have ZT:=zA0 HS x (List.mem_of_getElem? hx)
   have hA:=(zA0 HA).grew hg (zA0 JE)
   rcases hA with e|⟨b,off,rfl,hc⟩
   ·rw[e] at hx;cases hx
   obtain⟨c0,c1,c2⟩:=hc k x hx
   have hll:(zs++zBO (xs.take k)).length+x.s.size<=140737488300000:=by
    have:=zHe (xs.take k) (fun y hy=>zA0 HS y (List.mem_of_mem_take hy))
    rw[List.length_take] at this
    rw[zAX]
    omega
   have HC:=zA3 (fun W o (h:W=wr.alloc o)=>zHF base (zs++zBO (xs.take k)) x u0 W (by rw[h];exact World.ownsRow.alloc ho o) hll (by omega) (by rw[h];have:=hg.1.size;simp;omega))
   have HN:=zA3 (zEr hx)
   have HG:=zA3 hg
   have HO:=zA3 ho
   have QK:=hg.1.size
   clear hc hx hll ho hg
   go_wp2_with (go_at_call 142;refine(zA0 HC _ _ rfl).mono ?_;rintro e w2 ⟨v2,rfl,Qi,Hj⟩)
   go_roundw
   case rel=>exact⟨k+1,by omega,by go_num,by rw[zA0 HN,<-List.append_assoc];exact Qi,(zA0 HG).trans ((zAt.alloc wr _ _).trans Hj)⟩
   case measure=>first | (simp[intOf];done) | (simp only[intOf];omega)
  ·have Qk:k=xs.length:=by omega
   have h9:¬(k:Int)<(xs.length:Int):=by omega
   rw[Qk,List.take_length] at ho
   have HO:=zA3 ho
   have HG:=zA3 hg
   clear ho hg Qk
   go_wp2
   go_ret
   exact⟨_,rfl,zA0 HO,zA0 HG⟩
def zAA(xs:List Val):List Val:=xs.filter fun x=>x.k != 0
theorem zJG{xs:List Val}{k:Nat}{x:Val}(h:xs[k]?=some x)(hx:(x.k != 0)=true):zAA (xs.take (k+1))=zAA (xs.take k)++[x]:=by
 obtain⟨h1,rfl⟩:=zAL h
 unfold zAA
 rw[List.take_succ_eq_append_getElem h1,List.filter_append,List.filter_cons,hx]
 rfl
theorem zIG{xs:List Val}{k:Nat}{x:Val}(h:xs[k]?=some x)(hx:(x.k != 0)=false):zAA (xs.take (k+1))=zAA (xs.take k):=by
 obtain⟨h1,rfl⟩:=zAL h
 unfold zAA
 rw[List.take_succ_eq_append_getElem h1,List.filter_append,List.filter_cons,hx]
 simp
theorem zC1(xs:List Val):(zAA xs).length<=xs.length:=List.length_filter_le _ _
theorem zDZ(aa:Option Addr)(ca:Nat)(xs:List Val)(w:World)(hl:xs.length<=1048576)(ha:zAR w aa xs) :
  Calls Tryz.prog 66 #[.slice aa xs.length ca] w fun e w'=>∃v,e=.returned v/\zAV w' w.heap.size v (zAA xs)/\Below w.heap.size w w':=by
 obtain⟨i4,Qd,z40,z41,z42⟩:=info_parts Tryz.info59
 have HA:=zA3 ha
 clear ha
 go_enter Tryz.func66,Tryz.ntmps66
 go_wp2_with fail
 go_loopw[3,8] (fun v s wr=>∃k:Nat,k<=xs.length/\s=.int .i64 (k:Int)/\zAV wr w.heap.size v (zAA (xs.take k))/\Below w.heap.size w wr) (fun _ s _=>xs.length-(intOf s).toNat)
 case atStart=>exact⟨0,Nat.zero_le _,rfl,World.ownsRow_nil _ _ _ _,Below.refl _ _⟩
 case round=>
  obtain⟨k,hk,rfl,ho,hb⟩:=hrel
  by_cases h8:k<xs.length
  ·have h9:(k:Int)<(xs.length:Int):=by omega
   obtain⟨x,hx⟩:∃x,xs[k]?=some x:=⟨_,zAf h8⟩
   rcases(zA0 HA).later hb with e|⟨b,off,rfl,hc⟩
   ·rw[e] at hx;cases hx
   obtain⟨c0,c1,c2⟩:=hc k x hx
   have Hf:(zAA (xs.take k)).length<=1048576:=by have:=zC1 (xs.take k);rw[List.length_take] at this;omega
   have Qg:=zA3 Hf
   have QK:=hb.size
   have HO:=zA3 ho
   have HB:=zA3 hb
   have bl:=zA1 (Below.refl _ wr) (.cells #[.int .i64 x.k,.int .i64 x.n,.string x.s] 59)
   have QU:=ho.later bl
   have Qa:=zA3 (zA2 hb bl)
   rcases Bool.eq_false_or_eq_true (x.k != 0) with kx|kx
   ·have HN:=zA3 (zJG hx kx)
    clear hc hx ho hb Hf bl
    go_wp2_with (at_builtin;refine wpList_append_own_at _ rfl (.tmp 15) (.tmp 17) 37 rfl w.heap.size 59 i4 (.agg #[.int .i64 0,.int .i64 0,.string ⟨#[]⟩]) 3 32 Tryz.underlying37 Qd z40 z41 z42 rfl (by decide) _ _ _ rfl (World.ownsRow.alloc QU _) ⟨wr.heap.size+1,0,none⟩ 1 1 (c3 x) rfl rfl (by have:=zAy (wr.alloc (.cells #[.int .i64 x.k,.int .i64 x.n,.string x.s] 59)) x;simpa using this) (zBY _) (by have:=zA0 Qg;unfold maxLen;omega) (by have:=zA0 Qg;omega) (by simp;omega) ?_;intro v1 w3 Hc Ha _ Hl;have Ya:=zB9 Hc;have Hy:((wr.alloc (.cells #[.int .i64 x.k,.int .i64 x.n,.string x.s] 59)).alloc (.cells #[.int .i64 x.k,.int .i64 x.n,.string x.s] 59)).grownBy w3 u3.ownBlock:=Ha;clear Hc Ha Hl)
    go_roundw
    case rel=>exact⟨k+1,by omega,by go_num,zCf Ya (zA0 HN).symm,zCT (zA0 Qa) QU (Nat.le_refl _) Hy⟩
    case measure=>first | (simp[intOf];done) | (simp only[intOf];omega)
   ·have HN:=zA3 (zIG hx kx)
    clear hc hx ho hb Hf bl
    go_wp2
    go_roundw
    case rel=>exact⟨k+1,by omega,by go_num,zCf QU (zA0 HN).symm,zA0 Qa⟩
    case measure=>first | (simp[intOf];done) | (simp only[intOf];omega)
  ·have h9:¬(k:Int)<(xs.length:Int):=by omega
   have Qk:k=xs.length:=by omega
   rw[Qk,List.take_length] at ho
   have HO:=zA3 ho
   have HB:=zA3 hb
   clear ho hb Qk
   go_wp2
   go_ret
   exact⟨_,rfl,zA0 HO,zA0 HB⟩
set_option maxHeartbeats 4000000
theorem zBE{W0 w:World}(h:Below W0.heap.size W0 w)(n:Nat):Below W0.heap.size W0 (World.drewN w n):=by
 induction n with
 | zero=>exact h
 | succ n ih=>exact ih.drew
def zB1(x y:Val):Bool:=x.k == y.k && x.n == y.n && x.s.toList == y.s.toList
def zAz(xs:List Val):Nat:=(xs.takeWhile fun y=>zB1 y (xs.headD Val.null)).length
theorem zDW{α:Type}(p:α->Bool):∀(xs:List α) (k:Nat),(∀i y,i<k->xs[i]?=some y->p y=true)->k<=xs.length->(∀y,xs[k]?=some y->p y=false)->(xs.takeWhile p).length=k
 | [],k,_,hk,_=>by simp at hk;simp[hk]
 | x::xs,0,_,_,h=>by
  have:=h x (by simp)
  simp[List.takeWhile_cons,this]
 | x::xs,k+1,h,hk,h2=>by
  have h0:=h 0 x (by omega) (by simp)
  rw[List.takeWhile_cons,h0]
  have ih:=zDW p xs k (fun i y hi hy=>h (i+1) y (by omega) (by simpa using hy)) (by simpa using hk) (fun y hy=>h2 y (by simpa using hy))
  simp[ih]
theorem zQT(aa:Option Addr)(ca:Nat)(xs:List Val)(w:World)(hl:xs.length<=1048576)(ha:zAR w aa xs) :
  Calls Tryz.prog 141 #[.slice aa xs.length ca] w fun e w'=>e=.returned (.int .i64 (zAz xs))/\Below w.heap.size w w':=by
 have HA:=zA3 ha
 clear ha
 have HL:Hid (∀k,(∀i y,i<k->xs[i]?=some y->zB1 y (xs.headD Val.null)=true)->k<=xs.length->(∀y,xs[k]?=some y->zB1 y (xs.headD Val.null)=false)->zAz xs=k):=fun k=>zDW _ xs k
 generalize zAz xs=R at *
 go_enter Tryz.func141,Tryz.ntmps141
 go_wp2_with fail
 go_loopw[7] (fun s wr=>∃k:Nat,k<=xs.length/\s=.int .i64 (k:Int)/\Hid (∀i y,i<k->xs[i]?=some y->zB1 y (xs.headD Val.null)=true)/\Below w.heap.size w wr) (fun s _=>xs.length-(intOf s).toNat)
 case atStart=>exact⟨0,Nat.zero_le _,rfl,fun i y hi=>by omega,Below.refl _ _⟩
 case round=>
  obtain⟨k,hk,rfl,HS,hb⟩:=hrel
  by_cases h8:k<xs.length
  ·have h9:(k:Int)<(xs.length:Int):=by omega
   have h90:(0:Int)<(xs.length:Int):=by omega
   obtain⟨x,hx⟩:∃x,xs[k]?=some x:=⟨_,zAf h8⟩
   obtain⟨z,hz⟩:∃z,xs[0]?=some z:=⟨_,zAf (by omega)⟩
   have hh:xs.headD Val.null=z:=by cases xs with|nil=>simp at hz|cons y ys=>simpa using hz
   have bl:=zA1 (Below.refl _ wr) (.cells #[.int .i64 x.k,.int .i64 x.n,.string x.s] 59)
   have Qa:=zA3 (zA2 hb bl)
   have qK:=(zA0 HA).later (zA2 hb bl)
   rcases(zA0 HA).later hb with e|⟨b,off,rfl,hc⟩
   ·rw[e] at hx;cases hx
   obtain⟨c0,c1,c2⟩:=hc k x hx
   have HX:=zA3 hx
   have HH:=zA3 hh
   rcases qK with e|⟨b',off',eb,ZB⟩
   ·rw[e] at hx;cases hx
   injection eb with eb
   injection eb with eb1 eb2
   subst eb1 eb2
   obtain⟨d0,d1,d2⟩:=ZB 0 z hz
   simp only[Nat.zero_mul,Nat.add_zero] at d0 d1 d2
   have HCELL:Hid ((wr.alloc (.cells #[.int .i64 x.k,.int .i64 x.n,.string x.s] 59)).cell? ⟨wr.heap.size,0,none⟩=some (.int .i64 x.k)):=by show _=_;simp[go_sem]
   clear hc ZB hx hz hb bl
   go_upto_region 4 with fail
   obtain⟨W,hW⟩:∃W,Hid (W=wr.alloc (.cells #[.int .i64 x.k,.int .i64 x.n,.string x.s] 59)):=⟨_,rfl⟩
   have b0:W.cell? ⟨wr.heap.size,0,none⟩=some (.int .i64 x.k):=by rw[zA0 hW];simp[go_sem]
   have b1:W.cell? ⟨wr.heap.size,1,none⟩=some (.int .i64 x.n):=by rw[zA0 hW];simp[go_sem]
   have b2:W.cell? ⟨wr.heap.size,2,none⟩=some (.string x.s):=by rw[zA0 hW];simp[go_sem]
   rw[<-zA0 hW] at d0 d1 d2 Qa ⊢
   clear hW c0 c1 c2 HCELL
   rcases Bool.eq_false_or_eq_true (x.k == z.k) with e1|e1
   ·rcases Bool.eq_false_or_eq_true (x.n == z.n) with e2|e2
    ·rcases Bool.eq_false_or_eq_true (x.s.toList == z.s.toList) with e3|e3
     ·have ZI:Hid (zB1 x z=true):=by show _=_;simp only[zB1,e1,e2,e3,Bool.and_self]
      go_quiet (fail)
      go_wp2
      go_roundw
      case rel=>
       refine⟨k+1,by omega,by go_num,fun i y hi hy=>?_,zBE (zA0 Qa) _⟩
       by_cases h:i<k
       ·exact zA0 HS i y h hy
       ·have:i=k:=by omega
        subst this
        rw[zA0 HX] at hy
        injection hy with hy
        rw[<-hy,zA0 HH]
        exact zA0 ZI
      case measure=>first | (simp[intOf];done) | (simp only[intOf];omega)
     ·have ZI:Hid (R=k):=by show _=_;exact zA0 HL k (zA0 HS) hk (fun y hy=>by rw[zA0 HX] at hy;injection hy with hy;rw[<-hy,zA0 HH];simp only[zB1,e1,e2,e3,Bool.and_false])
      go_quiet (fail)
      go_wp2
      go_ret
      exact⟨by rw[zA0 ZI];rfl,zBE (zA0 Qa) _⟩
    ·have ZI:Hid (R=k):=by show _=_;exact zA0 HL k (zA0 HS) hk (fun y hy=>by rw[zA0 HX] at hy;injection hy with hy;rw[<-hy,zA0 HH];simp only[zB1,e1,e2,Bool.and_false,Bool.false_and])
     go_quiet (fail)
     go_wp2
     go_ret
     exact⟨by rw[zA0 ZI];rfl,zBE (zA0 Qa) _⟩
   ·have ZI:Hid (R=k):=by show _=_;exact zA0 HL k (zA0 HS) hk (fun y hy=>by rw[zA0 HX] at hy;injection hy with hy;rw[<-hy,zA0 HH];simp only[zB1,e1,Bool.false_and])
    go_quiet (fail)
    go_wp2
    go_ret
    exact⟨by rw[zA0 ZI];rfl,zBE (zA0 Qa) _⟩
  ·have h9:¬(k:Int)<(xs.length:Int):=by omega
   have Qk:k=xs.length:=by omega
   have ZI:Hid (R=xs.length):=by show _=_;rw[<-Qk];exact zA0 HL k (zA0 HS) hk (fun y hy=>by rw[List.getElem?_eq_none (by omega)] at hy;cases hy)
   have HB:=zA3 hb
   clear hb Qk
   go_wp2
   go_ret
   exact⟨by rw[zA0 ZI];rfl,zA0 HB⟩
theorem zIw(xs:List Val):zAz xs<=xs.length:=(List.takeWhile_prefix _).length_le
theorem zES{x:Val}{xs:List Val}:0<zAz (x::xs):=by
 unfold zAz
 have:zB1 x x=true:=by simp[zB1]
 simp[List.takeWhile_cons,this]
def zC2:Nat->List Val->List Int
 | 0,_=>[]
 | _+1,[]=>[]
 | f+1,x::xs=>(beL (zAz (x::xs):Int) 4 4++zB8 x)++zC2 f ((x::xs).drop (zAz (x::xs)))
def zCE:Nat->List Val->Nat
 | 0,_=>0
 | _+1,[]=>0
 | f+1,x::xs=>1+zCE f ((x::xs).drop (zAz (x::xs)))
theorem zHc:∀(f g:Nat) (xs:List Val),xs.length<=f->xs.length<=g->zC2 f xs=zC2 g xs/\zCE f xs=zCE g xs
 | 0,g,[],_,_=>by cases g<;>exact⟨rfl,rfl⟩
 | 0,g,x::xs,h,_=>by simp at h
 | f+1,0,[],_,_=>⟨rfl,rfl⟩
 | f+1,0,x::xs,_,h=>by simp at h
 | f+1,g+1,[],_,_=>⟨rfl,rfl⟩
 | f+1,g+1,x::xs,h1,h2=>by
  have hp:=zES (x:=x) (xs:=xs)
  have hl:((x::xs).drop (zAz (x::xs))).length<=xs.length:=by rw[List.length_drop,List.length_cons];omega
  simp only[List.length_cons] at h1 h2
  have ih:=zHc f g ((x::xs).drop (zAz (x::xs))) (by omega) (by omega)
  exact⟨by rw[zC2,zC2,ih.1],by rw[zCE,zCE,ih.2]⟩
theorem zOY{x:Val}{xs:List Val}:zC2 (x::xs).length (x::xs)=(beL (zAz (x::xs):Int) 4 4++zB8 x)++zC2 ((x::xs).drop (zAz (x::xs))).length ((x::xs).drop (zAz (x::xs)))/\zCE (x::xs).length (x::xs)=1+zCE ((x::xs).drop (zAz (x::xs))).length ((x::xs).drop (zAz (x::xs))):=by
 have hp:=zES (x:=x) (xs:=xs)
 have hl:((x::xs).drop (zAz (x::xs))).length<=xs.length:=by rw[List.length_drop,List.length_cons];omega
 have ih:=zHc xs.length _ ((x::xs).drop (zAz (x::xs))) hl (Nat.le_refl _)
 rw[List.length_cons]
 exact⟨by rw[zC2,ih.1],by rw[zCE,ih.2]⟩
theorem zAR.drop{w:World}{b off j:Nat}{xs:List Val}(h:zAR w (some ⟨b,off,none⟩) xs)(hj:j<=xs.length):zAR w (some ⟨b,off+j*3,none⟩) (xs.drop j):=by
 rcases h with h|⟨b',off',e,h⟩
 ·left;rw[h];simp
 ·injection e with e
  injection e with e1 e2
  subst e1 e2
  refine .inr ⟨b,off+j*3,rfl,fun i x hx=>?_⟩
  rw[List.getElem?_drop] at hx
  have:=h (j+i) x hx
  rw[show off+j*3+i*3=off+(j+i)*3 by omega]
  exact this
theorem zAR.keep{w wr W:World}{a:Option Addr}{xs:List Val}(h:zAR wr a xs)(hb:Below w.heap.size w wr)(hW:Below w.heap.size w W)(He:∀ad,a=some ad->ad.block<w.heap.size):zAR W a xs:=by
 rcases h with h|⟨b,off,ha,h⟩
 ·exact .inl h
 ·have hl:=He _ ha
  have e:∀o,W.cell? ⟨b,o,none⟩=wr.cell? ⟨b,o,none⟩:=fun o=>(hW.cell (p:=⟨b,o,none⟩) hl).trans (hb.cell (p:=⟨b,o,none⟩) hl).symm
  exact .inr ⟨b,off,ha,fun i x hx=>⟨by rw[e];exact(h i x hx).1,by rw[e];exact(h i x hx).2.1,by rw[e];exact(h i x hx).2.2⟩⟩
theorem zAR.lt{w:World}{a:Option Addr}{xs:List Val}(h:zAR w a xs)(hn:0<xs.length):∀ad,a=some ad->ad.block<w.heap.size:=by
 intro ad e
 rcases h with h|⟨b,off,ha,h⟩
 ·subst h;simp at hn
 ·rw[ha] at e
  injection e with e
  subst e
  exact World.block_lt_of_cell? _ _ (h 0 _ (zAf hn)).1
theorem zAt.of_below{w wr:World}(h:Below w.heap.size w wr)(v:Value):zAt w wr v v:=⟨⟨h.os,h.tape,h.output,h.size,fun i hi _=>h.block i hi⟩,.inl rfl⟩
theorem zBC.grew{w w':World}{B:Nat}{u v v':Value}{zr:List Int}(h:zBC w B u zr)(hg:zAt w w' v v')(Hg:∀g,u.ownBlock=some g->v.ownBlock≠some g):zBC w' B u zr:=by
 refine⟨h.1,?_⟩
 rcases h.2 with h1|⟨g,cap,cur,hv,hb,hh,rest⟩
 ·exact .inl h1
 ·refine .inr ⟨g,cap,cur,hv,hb,?_,rest⟩
  rw[hg.1.block g (by have:=(zBN h (g:=g) (by rw[hv];rfl)).2;exact this) (fun e=>Hg g (by rw[hv];rfl) e.symm)]
  exact hh
theorem zDM{ops:Array Oper}{rest:List Oper}{o:Oper}{a:Act}{Q:Exit->Act->World->Prop}(w:World)(Gm:o.guard=none)(s x:Operand)(ho:o.op=.call { callee:=.builtin .append,args:=#[s,x],argTypes:=#[71,71] })
  (base B:Nat) (v u:Value) (zs zr:List Int) (hs:a.eval s=v) (hx:a.eval x=u) (Hd:zBC w base v zs) (hu:zBC w B u zr) (Hf:zs.length+zr.length<=140737488355328) (Hv:base<=w.heap.size)
  (h:∀v' w',zBC w' base v' (zs++zr)->zAt w w' v v'->wpList Tryz.prog ops Q rest (a.put o.dst v') w'):wpList Tryz.prog ops Q (o::rest) a w:=by
 obtain⟨i0,hi,QY,Qp,QC⟩:=info_parts Tryz.info5
 rcases hu.2 with ⟨rfl,h0⟩|⟨g,cap,cur,rfl,hb,hh,hc,hm,Gp,ht⟩
 ·have e:zr=[]:=List.eq_nil_of_length_eq_zero h0
  subst e
  refine wpList_append_own_none Gm s x 71 ho base 5 i0 1 Tryz.underlying71 hi v zs.length (zs.map (.int .u8)) hs Hd hx ?_
  exact h v w (by simpa using Hd) (zAt.refl _ _)
 ·refine wpList_append_own_at w Gm s x 71 ho base 5 i0 (.int .u8 0) 1 1 Tryz.underlying71 hi QY Qp QC rfl (by decide) v zs.length (zs.map (.int .u8)) hs Hd ⟨g,0,none⟩ zr.length cap (zr.map (.int .u8)) hx (by simp) (World.ownsRow.cells hu rfl) (by intro u hu;obtain⟨y,_,rfl⟩:=List.mem_map.1 hu;rfl) (by unfold maxLen;omega) (by omega) Hv ?_
  intro v' w' h1 h2 _ Hm
  refine h v' w' (zBS rfl h1) ⟨h2,?_⟩
  rcases Hm with e|e
  ·exact .inl e
  ·exact .inr ⟨_,e,Nat.le_refl _⟩
theorem zOZ(base:Nat)(zs:List Int)(aa:Option Addr)(ca:Nat)(xs:List Val)(v:Value)(w:World)(Hd:zBC w base v zs)(hl:xs.length<=4096)(Qq:xs.length<=ca)(Hf:zs.length<=1000000)(hs:∀x∈xs,x.s.size<=1000)(Hv:base<=w.heap.size)
  (ha:zAR w aa xs) (Ym:∀ad,aa=some ad->v.ownBlock≠some ad.block) :
  Calls Tryz.prog 117 #[v,.slice aa xs.length ca] w fun e w'=>∃v',e=.returned v'/\zBC w' base v' (zs++(beL (zCE xs.length xs:Int) 4 4++zC2 xs.length xs))/\zAt w w' v v':=by
 obtain⟨i0,hi,QY,Qp,QC⟩:=info_parts Tryz.info5
 have HA:=zA3 ha
 have JE:=zA3 Ym
 have HS:=zA3 hs
 have Yi:=zA3 Hd
 clear ha Ym hs Hd
 go_enter Tryz.func117,Tryz.ntmps117
 go_wp2_with fail
 go_loopw[1,5,6] (fun s1 r s6 wr=>∃(j:Nat) (ys:List Val) (zr:List Int) (c:Nat) (a':Option Addr),ys=xs.drop j/\j<=xs.length/\s1=.slice a' ys.length (ca-j)/\zAR wr a' ys/\(∀ad,a'=some ad->∃ad0,aa=some ad0/\ad.block=ad0.block)/\zBC wr w.heap.size r zr/\s6=.int .i64 (c:Int)/\c<=j/\Hid (zC2 xs.length xs=zr++zC2 ys.length ys)/\Hid (zCE xs.length xs=c+zCE ys.length ys)/\zr.length<=1012*j/\Below w.heap.size w wr) (fun s1 _ _ _=>match s1 with | .slice _ n _=>n|_=>0)
 case atStart=>exact⟨0,xs,[],0,aa,by simp,Nat.zero_le _,by simp,zA0 HA,fun ad e=>⟨ad,e,rfl⟩,World.ownsRow_nil _ _ _ _,rfl,Nat.le_refl _,by show _=_;simp,by show _=_;simp,by simp,Below.refl _ _⟩
 case round=>
  obtain⟨j,ys,zr,c,a',YE,hj,rfl,hA,TW,ho,rfl,Fa,HRB,yU,hzr,hb⟩:=hrel
  cases ys with
  | nil=>
   have HRB2:Hid (zC2 xs.length xs=zr):=by show _=_;rw[zA0 HRB];simp[zC2]
   have HRN2:Hid (zCE xs.length xs=c):=by show _=_;rw[zA0 yU];simp[zCE]
   have yc:∀g,v.ownBlock=some g->g<w.heap.size:=fun g hg=>(zBN (zA0 Yi) hg).2
   have Hy:∀g,u5.ownBlock=some g->w.heap.size<=g:=fun g hg=>(zBN ho hg).1
   have QK:=hb.size
   have hc4:(c:Int)<=4096:=by omega
   have qV:IntKind.u64.wrap (c:Int)=c:=zAW (by omega)
   have HC:Hid (Calls Tryz.prog 113 #[v,.int .u64 (c:Int),.int .i64 4] wr fun e w'=>∃v2,e=.returned v2/\(zBC w' base v2 (zs++beL (c:Int) 4 4)/\zAt w w' v v2)/\zBC w' w.heap.size u5 zr/\w.heap.size<=w'.heap.size):=by
    refine(zBv base zs (c:Int) 4 v wr (by omega) (zAc (zA0 Yi) hb) (by omega) (by omega)).mono fun e w' ⟨v2,he,h1,h2⟩=>⟨v2,he,⟨h1,(zAt.of_below hb v).trans h2⟩,ho.grew h2 (fun g h3 h4=>?_),by have:=h2.1.size;omega⟩
    have:=yc g h4
    have:=Hy g h3
    omega
   have hzr2:zr.length<=5000000:=by omega
   clear hA TW ho hb yc Hy YE HRB yU
   go_wp2_with (first
    | (go_at_call 113;refine(zA0 HC).mono ?_;rintro e w2 ⟨v2,rfl,h2,h3,h4⟩;replace h2:=zA3 h2;replace h3:=zA3 h3)
    | (at_builtin;refine zDM _ rfl (.tmp 29) (.tmp 30) rfl base w.heap.size v2 u5 _ zr rfl rfl (zA0 h2).1 (zA0 h3) (by rw[zAX,zAK];omega) (by omega) ?_;intro v3 w3 h5 h6;replace h5:=zA3 h5;replace h6:=zA3 h6))
   go_ret
   refine⟨_,rfl,?_,(zA0 h2).2.trans (zA0 h6)⟩
   rw[zA0 HRB2,zA0 HRN2,<-List.append_assoc]
   exact zA0 h5
  | cons x ys=>
   have HYS:=zA3 YE
   have HO:=zA3 ho
   have HB:=zA3 hb
   have HAA:=zA3 hA
   have HBLK:=zA3 TW
   have h9:(0:Int)<((x::ys).length:Int):=by simp only[List.length_cons];omega
   have Gw:(x::ys).length<=4096:=by rw[YE,List.length_drop];omega
   have HAH:=zA3 (fun W (h:Below wr.heap.size wr W)=>zQT a' (ca-j) (x::ys) W (by omega) (hA.later h))
   have HAP:=zA3 (zES (x:=x) (xs:=ys))
   have HAL:=zA3 (zIw (x::ys))
   have hN0:0<xs.length:=by have:=congrArg List.length YE;rw[List.length_drop,List.length_cons] at this;omega
   have He:∀ad,a'=some ad->ad.block<w.heap.size:=fun ad e=>by
    obtain⟨ad0,e0,e1⟩:=TW ad e
    rw[e1]
    exact(zA0 HA).lt hN0 ad0 e0
   have YV:=zA3 He
   have ZT:x.s.size<=1000:=zA0 HS x (List.mem_of_mem_drop (i:=j) (by rw[<-YE];simp))
   have HC1:Hid (∀W,Below wr.heap.size wr W->Calls Tryz.prog 113 #[u5,.int .u64 (zAz (x::ys):Int),.int .i64 4] W fun e w'=>∃v2,e=.returned v2/\zBC w' w.heap.size v2 (zr++beL (zAz (x::ys):Int) 4 4)/\Below w.heap.size w w'):=fun W hW=>by
    refine(zBv w.heap.size zr (zAz (x::ys):Int) 4 u5 W (by omega) (zAc ho hW) (by omega) (by have:=hb.size;have:=hW.size;omega)).mono fun e w' ⟨v',he,h1,h2⟩=>⟨v',he,h1,?_⟩
    exact(zA2 hb hW).trans (h2.below (by have:=hb.size;have:=hW.size;omega) (fun g hg=>(zBN (zAc ho hW) hg).1))
   have qR:Hid (∀W v2,zBC W w.heap.size v2 (zr++beL (zAz (x::ys):Int) 4 4)->Below w.heap.size w W->Calls Tryz.prog 142 #[v2,.agg #[.int .i64 x.k,.int .i64 x.n,.string x.s]] W fun e w'=>∃v3,e=.returned v3/\zBC w' w.heap.size v3 ((zr++beL (zAz (x::ys):Int) 4 4)++zB8 x)/\Below w.heap.size w w'):=fun W v2 hO hW=>by
    refine(zHF w.heap.size _ x v2 W hO (by rw[zAX,zAK];omega) (by omega) hW.size).mono fun e w' ⟨v',he,h1,h2⟩=>⟨v',he,h1,?_⟩
    exact hW.trans (h2.below hW.size (fun g hg=>(zBN hO hg).1))
   have ZJ:=zA3 (zOY (x:=x) (xs:=ys))
   have h4:(zAz (x::ys):Int)<=4096:=by have:=zIw (x::ys);omega
   generalize hN:(x::ys).length=N at *
   generalize hr:zAz (x::ys)=R at *
   have HHN:=zA3 hN
   clear YE ho hb hA TW hN hr He
   go_upto_region 5 with (go_at_call 141;refine(zA0 HAH _ (Below.refl _ _)).mono ?_;rintro e w1 ⟨rfl,Hb⟩)
   rcases zA0 HAA with e|⟨rb,ro,ea,hc⟩
   ·cases e
   subst ea
   have Qa:=zA3 (zA2 (zA0 HB) Hb)
   have HSF:Hid (∀W,Below w.heap.size w W->W.cell? ⟨rb,ro,none⟩=some (.int .i64 x.k)/\W.cell? ⟨rb,ro+1,none⟩=some (.int .i64 x.n)/\W.cell? ⟨rb,ro+2,none⟩=some (.string x.s)):=fun W hW=>by
    rcases(zA0 HAA).keep (zA0 HB) hW (zA0 YV) with e|⟨rb',ro',ea,ZB⟩
    ·cases e
    ·injection ea with ea
     injection ea with ea1 ea2
     subst ea1 ea2
     have:=ZB 0 x rfl
     simpa using this
   clear hc
   go_cut[5] (fun s5 wx=>zBC wx w.heap.size s5 ((zr++beL (R:Int) 4 4)++zB8 x)/\Below w.heap.size w wx)
   case first=>
    rename_i K0 aK0 J1 K1 aJ aM
    have Ht:(fun w':World=>w'.cell? ⟨rb,ro,none⟩=some (.int .i64 x.k)/\w'.cell? ⟨rb,ro+1,none⟩=some (.int .i64 x.n)/\w'.cell? ⟨rb,ro+2,none⟩=some (.string x.s)) w1.drew:=zA0 HSF w1.drew ((zA0 Qa).drew)
    refine wp_region_noPanic ?_
    refine zAu (S:=fun w':World=>w'.cell? ⟨rb,ro,none⟩=some (.int .i64 x.k)/\w'.cell? ⟨rb,ro+1,none⟩=some (.int .i64 x.n)/\w'.cell? ⟨rb,ro+2,none⟩=some (.string x.s)) (k:=8) (by kernel_rfl) ?_
    refine zA6 (i:=0) (v:=u5) [3,7,8] rfl (fun _ _ _ h=>h) (Or.inl ⟨by rfl,fun w' hSw=>?_⟩) Ht ?_
    ·dsimp only at hSw;obtain⟨q0,q1,q2⟩:=hSw;go_simp
    try simp only[Act.put,zAI,zAH,zAG]
    refine zA6 (i:=1) (v:=(.int .i64 R)) [2,3,7,8] rfl (fun _ _ _ h=>h) (Or.inl ⟨by rfl,fun w' hSw=>?_⟩) Ht ?_
    ·dsimp only at hSw;obtain⟨q0,q1,q2⟩:=hSw;go_simp
    try simp only[Act.put,zAI,zAH,zAG]
    refine zA6 (i:=2) (v:=(.int .u64 R)) [3,7,8] rfl (fun _ _ _ h=>h) (Or.inl ⟨by rfl,fun w' hSw=>?_⟩) Ht ?_
    ·dsimp only at hSw;obtain⟨q0,q1,q2⟩:=hSw;go_simp;first|done|exact zAW (by omega)
    try simp only[Act.put,zAI,zAH,zAG]
    refine zA6 (i:=4) (v:=(.slice (some ⟨rb,ro,none⟩) N (ca-j))) [5,6,7,8] rfl (fun _ _ _ h=>h) (Or.inl ⟨by rfl,fun w' hSw=>?_⟩) Ht ?_
    ·dsimp only at hSw;obtain⟨q0,q1,q2⟩:=hSw;go_simp
    try simp only[Act.put,zAI,zAH,zAG]
    refine zA6 (i:=5) (v:=(.pointer (some ⟨rb,ro,none⟩))) [6,7,8] rfl (fun _ _ _ h=>h) (Or.inl ⟨by rfl,fun w' hSw=>?_⟩) Ht ?_
    ·dsimp only at hSw;obtain⟨q0,q1,q2⟩:=hSw;go_simp
    try simp only[Act.put,zAI,zAH,zAG]
    refine zA6 (i:=6) (v:=(.agg #[.int .i64 x.k,.int .i64 x.n,.string x.s])) [7,8] rfl (fun _ _ _ h=>h) (Or.inl ⟨by rfl,fun w' hSw=>?_⟩) Ht ?_
    ·dsimp only at hSw;obtain⟨q0,q1,q2⟩:=hSw;go_simp
    try simp only[Act.put,zAI,zAH,zAG]
    clear Ht
    refine zA7 (i:=3) (by kernel_rfl) ?_
    refine zA4 rfl (by rfl) fun K hK=>?_
    go_simp
    refine(zA0 HC1 _ (Hb.drew)).mono ?_
    rintro e w2 ⟨v2,rfl,Kb,Ge⟩
    go_simp
    have QN:=zA3 Kb
    have Qz:=zA3 Ge
    refine zA0 hK _ _ ⟨fun _=>zA0 HSF _ Ge,?_⟩
    clear hK K Kb Ge
    refine zA7 (i:=7) (by kernel_rfl) ?_
    refine zA4 rfl (by rfl) fun K hK=>?_
    go_simp
    refine(zA0 qR _ _ (zA0 QN) (zA0 Qz)).mono ?_
    rintro e w3 ⟨v3,rfl,Gc,Df⟩
    go_simp
    have Jf:=zA3 Gc
    have Yo:=zA3 Df
    refine zA0 hK _ _ ⟨fun _=>zA0 HSF _ Df,?_⟩
    clear hK K Gc Df
    refine zA7 (i:=8) (by kernel_rfl) ?_
    refine zA4 rfl (by rfl) fun K hK=>?_
    go_simp
    refine zA0 hK _ _ ⟨fun hh=>absurd hh (by decide),?_⟩
    clear hK K
    refine zAl (by kernel_rfl) ?_ _
    refine NoPanic.normal ?_
    go_wp2
    go_meet
    exact⟨zA0 Jf,zA0 Yo⟩
   case rest=>
    obtain⟨hO5,Zq⟩:=hcut
    have Dq:=zA3 hO5
    have yo:=zA3 Zq
    have hRN:=zA0 HAL
    have hRi:(R:Int)<=(N:Int):=by omega
    clear hO5 Zq
    rename World=>wc
    have hNx:N=xs.length-j:=by have:=congrArg List.length (zA0 HYS);rw[List.length_drop,zA0 HHN] at this;exact this
    have Qf:Hid (zAR wc (if ca-j=R then some ⟨rb,ro,none⟩ else some ⟨rb,ro+R*3,none⟩) ((x::ys).drop R)):=by
     by_cases hcR:ca-j=R
     ·left
      exact List.drop_eq_nil_of_le (by rw[zA0 HHN];omega)
     ·rw[if_neg hcR]
      exact((zA0 HAA).keep (zA0 HB) (zA0 yo) (zA0 YV)).drop (by rw[zA0 HHN];exact hRN)
    have HBK2:Hid (∀ad,(if ca-j=R then some (⟨rb,ro,none⟩:Addr) else some ⟨rb,ro+R*3,none⟩)=some ad->∃ad0,aa=some ad0/\ad.block=ad0.block):=by
     obtain⟨ad0,e0,e1⟩:=zA0 HBLK _ rfl
     intro ad e
     split at e
     ·injection e with e;subst e;exact⟨ad0,e0,e1⟩
     ·injection e with e;subst e;exact⟨ad0,e0,e1⟩
    have hp:=zA0 HAP
    clear hNx
    go_wp2
    refine⟨⟨j+R,(x::ys).drop R,(zr++beL (R:Int) 4 4)++zB8 x,c+1,_,?_,?_,?_,zA0 Qf,zA0 HBK2,zA0 Dq,by go_num,by omega,?_,?_,?_,zA0 yo⟩,?_⟩
    ·rw[zA0 HYS,List.drop_drop]
    ·have:=congrArg List.length (zA0 HYS);rw[List.length_drop,zA0 HHN] at this;omega
    ·rw[List.length_drop,zA0 HHN,Nat.sub_sub]
    ·show _=_
     rw[zA0 HRB,(zA0 ZJ).1]
     simp only[List.append_assoc]
    ·show _=_
     rw[zA0 yU,(zA0 ZJ).2]
     omega
    ·have:=zD3 x
     rw[zAX,zAX,zAK]
     have:1012*(j+R)=1012*j+1012*R:=by rw[Nat.mul_add]
     omega
    ·show N-R<N
     omega
end Go.Proofs.YtekgpapophibcaaGreat
