import Derived.Test.YtbfibfmnemnbbaaGreatQSrT
import Derived.Test.YtbfibfmnemnbbaaGreatBkW
import Derived.Test.YtbfibfmnemnbbaaGreatEKnB
import Derived.Test.YtbfibfmnemnbbaaGreatEExR
import Derived.Test.YtbfibfmnemnbbaaGreatBsA
import Derived.Test.YtbfibfmnemnbbaaGreatEExO
import Derived.Test.YtbfibfmnemnbbaaGreatRows
set_option linter.unusedSimpArgs false
set_option linter.unusedVariables false
set_option maxRecDepth 100000
namespace Go.Proofs.YtbfibfmnemnbbaaGreat
open Go.RowKit Go.Sort
def cE(x:Val):E.Val:=⟨x.k,x.n,x.s⟩
theorem cE_clean(x:Val):E.cleanV (cE x)=cE (cleanV x):=by
 unfold E.cleanV cleanV cE
 rcases Bool.eq_false_or_eq_true (x.k == 1) with h1|h1
 ·simp[h1];rfl
 ·rcases Bool.eq_false_or_eq_true (x.k == 2) with h2|h2
  ·simp[h1,h2];rfl
  ·simp[h1,h2];rfl
theorem cE_ord(x y:Val):E.ordV (cE x) (cE y)=ordV x y:=by
 unfold E.ordV
 rw[cE_clean,cE_clean]
 rfl
theorem cE_all(c:E.Val):∃x,c=cE x:=⟨⟨c.k,c.n,c.s⟩,rfl⟩
theorem cE_anti(a b:E.Val):E.ordV a b=- E.ordV b a:=by
 obtain⟨x,rfl⟩:=cE_all a
 obtain⟨y,rfl⟩:=cE_all b
 rw[cE_ord,cE_ord]
 exact ord_anti x y
theorem cE_null(x:Val):E.nullB (cE x)=((cleanV x).k == 0):=by unfold E.nullB;rw[cE_clean];rfl
theorem ord_clean(x y:Val):ordV (cleanV x) y=ordV x y:=by unfold ordV;rw[clean_two]
theorem rowE{w:World}{a:Option Addr}{xs:List Val}(h:RowAt w a xs):E.RowAt w a (xs.map cE):=by
 rcases h with h|⟨b,off,ha,h⟩
 ·exact .inl (by rw[h];rfl)
 ·refine .inr ⟨b,off,ha,fun i x hx=>?_⟩
  rw[List.getElem?_map] at hx
  obtain⟨y,hy,rfl⟩:=Option.map_eq_some_iff.1 hx
  exact h i y hy
theorem intsE{w:World}{a:Option Addr}{l:List Int}(h:LisAt w a (l.map (Value.int .i64))):E.IntsAt w a l:=by
 rcases h with h|⟨b,off,ha,h⟩
 ·exact .inl (by simpa using h)
 ·exact .inr ⟨b,off,ha,fun i x hx=>h i _ (by rw[List.getElem?_map,hx];rfl)⟩
def OKS(ks:List Int)(rs:List (List Val))(s:ByteArray):Prop:=∃l ps,s=bs l/\Seg l (colsX ks rs) ps/\layR l=rs.length/\l.length<=140737488300000/\Even ks rs/\(∀j,j<ks.length->(colX ks rs j).2=0)/\1<=ks.length/\ks.length<=32
def HDS(Xs:List Vc)(p q o:Option Addr×Nat)(w:World):Prop:=RowAt w p.1 (Xs.map lowX)/\RowAt w q.1 (Xs.map highX)/\LisAt w o.1 (Xs.map fun X=>Value.int .i64 (nulX X:Int))
def hdS(ks:List Int)(rs:List (List Val)):E.Hd:=⟨(rs.length:Int),((colsX ks rs).map lowX).map cE,((colsX ks rs).map highX).map cE,(colsX ks rs).map fun X=>(nulX X:Int)⟩
theorem colsX_len(ks:List Int)(rs:List (List Val)):(colsX ks rs).length=ks.length:=by simp[colsX]
theorem colsX_get{ks:List Int}{rs:List (List Val)}{i:Nat}(h:i<ks.length):(colsX ks rs)[i]?=some (colX ks rs i).1:=by
 unfold colsX
 rw[List.getElem?_map,List.getElem?_range h]
 rfl
theorem cov_row{ks:List Int}{rs:List (List Val)}(hE:Even ks rs)(hc:∀j,j<ks.length->(colX ks rs j).2=0){r:List Val}(hr:r∈rs):E.Cov (hdS ks rs) ks.length (r.map cE):=by
 refine⟨by rw[List.length_map];exact hE.len r hr,fun i hi=>?_⟩
 have hX:=colsX_get (rs:=rs) hi
 have e1:(hdS ks rs).low.getD i .null=cE (lowX (colX ks rs i).1):=by simp[hdS,List.getD,hX]
 have e2:(hdS ks rs).high.getD i .null=cE (highX (colX ks rs i).1):=by simp[hdS,List.getD,hX]
 have e3:(hdS ks rs).nulls.getD i 0=(nulX (colX ks rs i).1:Int):=by simp[hdS,List.getD,hX]
 have hir:i<r.length:=by rw[hE.len r hr];exact hi
 have e4:(r.map cE).getD i .null=cE (r.getD i .null):=by simp[List.getD,hir]
 rw[e1,e2,e3,e4]
 obtain⟨_,_,hv,_⟩:=col_at (hc i hi)
 have hmem:cleanV (r.getD i .null)∈valsV (colX ks rs i).1:=by
  rw[hv]
  exact List.mem_map.2 ⟨_,List.mem_map.2 ⟨r,hr,rfl⟩,rfl⟩
 generalize r.getD i .null=v at *
 obtain⟨s1,s2⟩:=span_cov hmem
 have hk:∀h:E.nullB (cE v)=false,¬(cleanV v).k=0:=fun h=>by rw[cE_null] at h;simpa using h
 have a1:∀c,ordV (cleanV v) c=ordV v c:=fun c=>ord_clean v c
 refine⟨fun h=>?_,fun h=>?_,fun h c=>?_,fun h c=>?_,fun h c=>?_,fun h c=>?_⟩
 ·rw[cE_null] at h
  have:=s1 (by simpa using h)
  show (0:Int)<((spanT _ _).2.2:Int)
  omega
 ·have hn:=(s2 (hk h)).1
  have hcl:cleanV (lowX (colX ks rs i).1)=lowX (colX ks rs i).1:=(span_in (P:=fun x=>cleanV x=x) rfl (fun x hx=>by rw[hv] at hx;obtain⟨y,_,rfl⟩:=List.mem_map.1 hx;exact clean_two y)).1
  show E.nulV (cE (lowX _))=false
  unfold E.nulV
  rw[cE_clean,hcl]
  show ((lowX (colX ks rs i).1).k == 0)=false
  have hn2:¬(lowX (colX ks rs i).1).k=0:=hn
  simpa using hn2
 all_goals
  obtain⟨x,rfl⟩:=cE_all c
  rw[cE_ord,cE_ord]
  obtain⟨_,b1,b2⟩:=s2 (hk h)
  intro hlt
  change ordV (lowX _) (cleanV v)<=0 at b1
  change ordV (cleanV v) (highX _)<=0 at b2
  rw[<-a1]
  generalize lowX (colX ks rs i).1=lo at *
  generalize highX (colX ks rs i).1=hi' at *
  have c1:=ord_anti lo x;have c2:=ord_anti (cleanV v) x;have c3:=ord_anti hi' x;have c4:=ord_anti lo (cleanV v)
  first
   | (have:=ord_lt_le (x:=x) (y:=lo) (z:=cleanV v) (by omega) b1;omega)
   | (have:=ord_le (x:=x) (y:=lo) (z:=cleanV v) (by omega) b1;omega)
   | (have:=ord_le_lt (x:=cleanV v) (y:=hi') (z:=x) b2 (by omega);omega)
   | (have:=ord_le (x:=cleanV v) (y:=hi') (z:=x) b2 (by omega);omega)
theorem open_yes{l:List UInt8}(hl:l.length<=140737488300000){Xs:List Vc}{ps:List (ByteArray×ByteArray)}(h:Seg l Xs ps)(w:World):Calls Tryz.prog 6 #[.string (bs l)] w fun e w'=>e=.returned (.int .i64 0)/\Below w.heap.size w w':=by
 have HO:=hide (fun W=>sop_yes hl h W)
 clear h
 go_enter Tryz.func6,Tryz.ntmps6
 go_wp2_with (go_at_call 21;refine(unhide HO _).mono ?_;rintro _ w1 ⟨Cs,az,ac,cz,cc,rfl,-,-,-,-,hb⟩)
 go_ret
 exact⟨rfl,below_alloc hb _⟩
theorem law_bk(ks:List Int)(aK:Option Addr)(cK:Nat)(rs:List (List Val))(aR:Option Addr)(cR:Nat)(e:E.Ex)(hf:e.fin)(a:Option Addr)(c:Nat)(w:World)(h1:ks.length<=140737488355328)(h2:rs.length<=140737488355328)(h3:∀r∈rs,r.length<=140737488355328)
  (hr:∀r∈rs,∀x∈r,E.VOk (cE x)) (hK:LisAt w aK (ks.map (Value.int .i64))) (hR:RowsAt w aR rs) (ha:E.Ex.all w a e.args) :
  Calls Tryz.prog 3 #[.slice aK ks.length cK,.slice aR rs.length cR,e.val a c] w fun r w'=>r=.returned (.bool true)/\Below w.heap.size w w':=by
 have hrn:∀r∈rs,∀x∈r,-9223372036854775808<=x.n/\x.n<=9223372036854775807:=fun r h x hx=>(hr r h x hx).1
 refine law_walk ks aK cK rs aR cR e a c w hR (OKS ks rs) (HDS (colsX ks rs)) (fun r=>E.evalB (r.map cE) e) ?_ ?_ ?_ ?_ ?_ ?_ ?_ ?_ ?_
 ·intro W hW
  refine(build_any W ks aK cK rs aR cR h1 h2 h3 hrn (hK.later hW) (hR.later hW)).mono ?_
  rintro r w' ⟨⟨er,hn,rfl⟩|⟨l,ps,rfl,s1,s2,s3,s4,s5,s6,s7,s8,s9⟩,hb⟩
  ·exact⟨_,er,rfl,.inl ⟨hn,rfl⟩,hb⟩
  ·exact⟨_,0,rfl,.inr ⟨rfl,l,ps,rfl,s1,s2,s4,s6,s7,s8,s9⟩,hb⟩
 ·exact fun W b h=>build_one W b h
 ·rintro s ⟨l,ps,rfl,s1,s2,s4,s6,s7,s8,s9⟩
  exact⟨s9,s6.le,fun r hr=>by rw[s6.len r hr];exact s9⟩
 ·rintro s ⟨l,ps,rfl,s1,s2,s4,s6,s7,s8,s9⟩ W a5 c5 hW hL
  have hcl:((List.range ks.length).map fun (i:Nat)=>(i:Int)).length=ks.length:=by simp
  have hL':LisAt W a5 (((List.range ks.length).map fun (i:Nat)=>(i:Int)).map (Value.int .i64)):=by rw[List.map_map];exact hL
  have q:=sread_yes s4 s1 ((List.range ks.length).map fun (i:Nat)=>(i:Int)) a5 c5 W (by omega) hL'
  rw[hcl] at q
  refine q.mono ?_
  have hno:((List.range ks.length).map fun (i:Nat)=>(i:Int)).any (outC (colsX ks rs).length)=false:=by
   rw[List.any_eq_false]
   intro c hc
   obtain⟨i,hi,rfl⟩:=List.mem_map.1 hc
   have hi:=List.mem_range.1 hi
   unfold outC
   rw[colsX_len]
   simp
   omega
  rintro r w' (⟨q1,_⟩|⟨_,q2,_⟩|⟨_,_,Ps,v,hPl,hP,rfl,⟨b,_,⟨ra,rc,rfl,hrr⟩,_⟩,hb⟩)
  ·rw[hno] at q1;cases q1
  ·have:=congrArg List.length q2;rw[hcl] at this;rw[List.length_nil] at this;omega
  ·have ht:=tab_back s6 s8 s7 (Ps:=Ps) (by rw[hPl,hcl]) (fun i q hq=>by
    have hi:i<ks.length:=by
     have:=(List.getElem?_eq_some_iff.1 hq).1
     rw[hPl,hcl] at this;exact this
    have:=hP i (i:Int) q (by rw[List.getElem?_map,List.getElem?_range hi];rfl) hq
    rw[Int.toNat_natCast,colsX_get hi] at this
    injection this with this
    exact this.symm)
   rw[ht] at hrr ⊢
   exact⟨ra,rc,by simp only[List.length_map],hrr,hb⟩
 ·rintro s ⟨l,ps,rfl,s1,s2,s4,s6,s7,s8,s9⟩ W
  exact open_yes s4 s1 W
 ·intro W a7 b7 c7 d7 xs n hn hl q1 q2
  subst hn
  exact samerow_same a7 b7 c7 d7 xs W (by omega) q1 q2
 ·rintro s ⟨l,ps,rfl,s1,s2,s4,s6,s7,s8,s9⟩ W
  refine(head_yes s4 s1 W).mono ?_
  rintro r w' ⟨lv,hv,nv,b,rfl,o1,o2,o3,_,hb⟩
  obtain⟨a1,c1,rfl,r1⟩:=ownV_row o1
  obtain⟨a2,c2,rfl,r2⟩:=ownV_row o2
  obtain⟨a3,c3',rfl,r3,_⟩:=lis_of_own o3
  refine⟨(a1,c1),(a2,c2),(a3,c3'),?_,⟨r1,r2,r3⟩,hb⟩
  simp only[List.length_map,colsX_len,s2]
 ·rintro s ⟨l,ps,rfl,s1,s2,s4,s6,s7,s8,s9⟩ p q o W0 W ⟨d1,d2,d3⟩ hW0 hW
  have hbw:=below_step hW0 hW
  have hl:∀{α:Type} (f:Vc->α),((colsX ks rs).map f).length=ks.length:=fun f=>by rw[List.length_map,colsX_len]
  have e1:(hdS ks rs).low.length=ks.length:=by simp[hdS,colsX_len]
  have e2:(hdS ks rs).high.length=ks.length:=by simp[hdS,colsX_len]
  have e3:(hdS ks rs).nulls.length=ks.length:=by simp[hdS,colsX_len]
  have d3':LisAt W0 o.1 ((hdS ks rs).nulls.map (Value.int .i64)):=by
   show LisAt W0 o.1 (((colsX ks rs).map fun X=>(nulX X:Int)).map (Value.int .i64))
   rw[List.map_map]
   exact d3
  have q:=E.may_any ks h1 aK cK (hdS ks rs) ⟨p.1,p.2,q.1,q.2,o.1,o.2⟩ (by omega) (by omega) (by omega) (by
   have:=s6.le
   exact⟨by show _<=(rs.length:Int);omega,by show (rs.length:Int)<=_;omega⟩) e hf a c W (E.Ex.all_later _ ha hbw) (intsE (hK.later hbw)) ⟨rowE (d1.later hW),rowE (d2.later hW),intsE (d3'.later hW)⟩
  rw[E.Hd.val_open,e1,e2,e3] at q
  refine q.mono ?_
  rintro r w' ⟨rfl,hb⟩
  refine⟨_,_,rfl,fun g0 m0 r hr=>?_,hb⟩
  refine E.may_sound cE_anti (cov_row s6 s7 hr) ?_ (Prod.ext m0 g0)
  show (0:Int)<(rs.length:Int)
  have:=List.length_pos_of_mem hr
  omega
 ·intro W r ra rc hW hm hrr
  have q:=E.evals_any e hf (r.map cE) (fun x hx=>by obtain⟨y,hy,rfl⟩:=List.mem_map.1 hx;exact hr r hm y hy) (by rw[List.length_map];exact h3 r hm) a ra c rc W (E.Ex.all_later _ ha hW) (rowE hrr)
  rw[List.length_map] at q
  exact q
end Go.Proofs.YtbfibfmnemnbbaaGreat
set_option linter.unusedSimpArgs false
set_option linter.unusedVariables false
set_option maxRecDepth 100000
namespace Go.Proofs.YtbfibfmnemnbbaaGreat
open Go.ChangeShapes Go.WideShapes Go.ChangeAt Go.RowKit Go.Joins Go.Deep
theorem bk_lifted(os:Os)(started:os.Started)(H:Type)(enc:TypeId×Value->H) :
  ReturnsInHanded {} Tryz.checked os 3 .any (Rows.segBackSpec.pre6 enc Tryz.prog Tryz.f3 Rows.segBackRow.domain false) (Rows.segBackSpec.post enc Tryz.prog Tryz.f3 false true false false):=by
 refine returnsInHanded_of_change_sized (C:=Tryz.checked) ownT started (by kernel_rfl) Tryz.func3
  (ChangeSpec.witness6 (enc:=enc) (C:=Tryz.checked) false ⟨#[],#[.slice none 0 0,.slice none 0 0,.agg #[.int .i64 0,.int .i64 0,.int .i64 0,.int .i64 0,.string ⟨#[]⟩,.slice none 0 0]],[]⟩ 8 (by kernel_rfl) (by kernel_rfl) (by kernel_rfl) (by kernel_rfl)) ?_
 intro W base args ds gs before hval0 hW hcnd hsz0 _
 have hval:∀(j:Nat) t v,Tryz.f3.params[j]?=some t->args[j]?=some v->Value.okWide Tryz.prog W .any base t v:=hval0
 have hsz:(DataW.weightsEach Tryz.prog (Tryz.f3.params.toList++Rows.segBackSpec.plain.varTypes Tryz.prog) (ds++gs)).all (·<=reachBytes)=true:=hsz0
 have hW':=hW
 obtain⟨p,q,hA0,hV,rfl,hfz,hnd⟩:=hW
 have hA:DataW.TrodAll enc Tryz.prog W 0 (fun _=>true) true Tryz.f3.params.toList args.toList ds p:=hA0
 rw[Tryz.params3] at hA hval hsz
 obtain⟨v0,vs0,d0,ds0,p0,q0,hargs,rfl,rfl,h0,r0⟩:=trodAll_cons hA
 obtain⟨v1,vs1,d1,ds1,p1,q1,rfl,rfl,rfl,h1,r1⟩:=trodAll_cons r0
 obtain⟨v2,vs2,d2,ds2,p2,q2,rfl,rfl,rfl,h2,r2⟩:=trodAll_cons r1
 obtain⟨rfl,rfl,rfl⟩:=trodAll_nil r2
 obtain rfl:args=#[v0,v1,v2]:=by cases args;simp_all
 obtain⟨rfl,rfl⟩:=trodVars_none hV
 have k0:=h0
 have lt0:∀x∈p0,x.block<W.heap.size:=by obtain⟨m,hm⟩:=k0;exact DataW.trod_lt m _ _ _ hm
 have k1:=h1
 have lt1:∀x∈p1,x.block<W.heap.size:=by obtain⟨m,hm⟩:=k1;exact DataW.trod_lt m _ _ _ hm
 have k2:=h2
 have lt2:∀x∈p2,x.block<W.heap.size:=by obtain⟨m,hm⟩:=k2;exact DataW.trod_lt m _ _ _ hm
 have hall:=List.all_eq_true.1 hsz
 have hw0:∀n∈d0.weights Tryz.prog (22),n<=reachBytes:=fun n hn=>by have:=hall n (DataW.weights_mem_each (j:=0) rfl rfl n hn);simpa using this
 have hw1:∀n∈d1.weights Tryz.prog (23),n<=reachBytes:=fun n hn=>by have:=hall n (DataW.weights_mem_each (j:=1) rfl rfl n hn);simpa using this
 have hw2:∀n∈d2.weights Tryz.prog (28),n<=reachBytes:=fun n hn=>by have:=hall n (DataW.weights_mem_each (j:=2) rfl rfl n hn);simpa using this
 obtain⟨aK,cK,ks,rfl,hK,hkl⟩:=open_ints (hval 0 22 v0 rfl rfl) h0 hw0
 obtain⟨aR,cR,rs,rfl,hR,hrl,hrx⟩:=open_rows (hval 1 23 v1 rfl rfl) h1 hw1
 obtain⟨e,a,c,rfl,hea,hef⟩:=E.open_expr (hval 2 28 v2 rfl rfl) h2 hw2
 clear hA0 hval0 hsz hsz0
 refine(law_bk ks aK cK rs aR cR e hef a c W hkl hrl (fun r hr=>(hrx r hr).1) (fun r hr x hx=>(hrx r hr).2 x hx) hK hR hea).mono fun r W' ⟨he,bel⟩=>?_
 subst he
 exact⟨_,rfl,_,_,_,[],_,[],hW',trodAll_mk1 (shut_bool Tryz.underlying4 _),(trodAll_cons_mk (Below.trod laidT (by kernel_rfl) (of_decide_eq_true (by kernel_rfl)) k0 bel lt0) (trodAll_cons_mk (Below.trod laidT (by kernel_rfl) (of_decide_eq_true (by kernel_rfl)) k1 bel lt1) (trodAll_cons_mk (Below.trod laidT (by kernel_rfl) (of_decide_eq_true (by kernel_rfl)) k2 bel lt2) trodAll_mk0))),rfl,bel.frame _,fun h=>by cases h⟩
theorem bk_holds:Rows.SegBackSaid:=
 OpenClaim.holds_of_wide 3 Tryz.f3 rfl rfl rfl rfl rfl rfl rfl ⟨rfl,rfl,rfl,rfl,rfl⟩ rfl rfl rfl rfl rfl (by kernel_rfl) Tryz.func3 (by kernel_rfl)
  (of_decide_eq_true (by kernel_rfl)) (by unfold Func.isWrapper;first | (rw[if_pos (by decide +kernel)];kernel_rfl) | (rw[if_neg (by decide +kernel)];exact⟨rfl,rfl⟩))
  (fun os started H enc _=>bk_lifted os started H enc)
#print axioms bk_holds
end Go.Proofs.YtbfibfmnemnbbaaGreat
