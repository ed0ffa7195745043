import Derived.Test.YtekgpapophibcaaGreatSsE
set_option linter.unusedSimpArgs false
set_option linter.unusedVariables false
set_option maxRecDepth 100000
namespace Go.Proofs.YtekgpapophibcaaGreat
open Go.ChangeShapes Go.WideShapes Go.ChangeAt Go.RowKit Go.Joins Go.Deep
theorem zUe:ownKnob Tryz.prog.godebug=none:=by kernel_rfl
theorem zON:laidOutB Tryz.prog=true:=by kernel_rfl
theorem zQu:Tryz.prog.cellsOf 3=1:=by kernel_rfl
theorem zU9{H:Type}(d:DataW H):1<=Rows.uptoBulk d:=by
 cases d with
 | lit l=>cases l<;>simp[Rows.uptoBulk]
 | nil=>simp[Rows.uptoBulk]
 | ptr d=>simp[Rows.uptoBulk]
 | slice elems zKX=>simp[Rows.uptoBulk]
 | agg parts=>simp[Rows.uptoBulk]
 | iface t d=>simp[Rows.uptoBulk]
 | map entries=>simp[Rows.uptoBulk]
 | held h=>simp[Rows.uptoBulk]
theorem zSh{H:Type}:∀(l:List (DataW H)),l.length<=Rows.uptoBulkAll l
 | []=>by simp
 | d::l=>by
  have:=zSh l
  have:=zU9 d
  simp only[List.length_cons,Rows.uptoBulkAll]
  omega
section
variable {H:Type}{enc:TypeId×Value->H}{w:World}{base:Nat}{zKX:Nat->Bool}{held:Bool}
theorem zRS{α:Type}[Inhabited α]{t e fuel:Nat}{v:Value}{y:DataW H×List MemPlace}(mk:α->Value)(ht:Tryz.prog.underlying t=some (.slice e))(hc:Tryz.prog.cellsOf e=1)
  (hE:∀n v y,DataW.trod enc Tryz.prog w base zKX held n e [v]=some y->∃b,v=mk b) (h:DataW.trod enc Tryz.prog w base zKX held fuel t [v]=some y) :
  ∃(a:Option Addr) (cap:Nat) (xs:List α),v=.slice a xs.length cap/\zAp w a (xs.map mk)/\xs.length<=Rows.uptoBulk y.1:=by
 rcases open_slice1 ht hc h with ⟨Gp,hx⟩|⟨a,len,cap,m,n,V,D,Pl,Gp,hb,hl,hm,hmm,hx,hel⟩
 ·simp only[List.cons.injEq,and_true] at Gp
  subst Gp
  exact⟨none,0,[],rfl,.inl rfl,Nat.zero_le _⟩
 ·simp only[List.cons.injEq,and_true] at Gp
  subst Gp
  have hlm:len<=m:=by rw[hmm];split<;>omega
  obtain⟨f,hf⟩:=choose_lt (α:=α) (n:=len) (p:=fun i x=>V i=mk x) (fun i hi=>hE _ _ _ (hel i (by omega)).2)
  have Hf:((List.range len).map f).length=len:=by simp
  refine⟨some a,cap,(List.range len).map f,by rw[Hf],?_,?_⟩
  ·by_cases h0:len=0
   ·left;subst h0;rfl
   ·right
    obtain⟨b,off,spot⟩:=a
    have Fd:=(hel 0 (by omega)).1
    have YJ:spot=none:=by simpa [Addr.add] using World.cell?_spot Fd
    subst YJ
    refine⟨b,off,rfl,fun i x hx=>?_⟩
    obtain⟨hi,rfl⟩:=zAL hx
    have Gl:i<len:=by simpa using hi
    have GO:=(hel i (by omega)).1
    have ea:∀(o n:Nat),(⟨b,o,none⟩:Addr).add n=⟨b,o+n,none⟩:=by
     intro o n
     by_cases h:n=0<;>simp[Addr.add,h]
    rw[ea] at GO
    rw[GO,hf i Gl]
    simp
  ·rw[Hf,hx]
   have:=zSh ((List.range len).map D)
   simp only[Rows.uptoBulk]
   simp at this
   omega
theorem zMw{r:Reach}{b0:Nat}{v:Value}{d:DataW H}{p:List MemPlace}(hv:Value.okWide Tryz.prog w r b0 22 v)(h:DataW.Trod enc Tryz.prog w base zKX held 22 v d p) :
  ∃(a:Option Addr) (c:Nat) (xs:List Int),v=.slice a xs.length c/\zAp w a (xs.map (Value.int .i64))/\xs.length<=Rows.uptoBulk d:=by
 obtain⟨a0,len,cap,rfl⟩:=okWide_slice Tryz.underlying22 hv
 obtain⟨fuel,hf⟩:=h
 exact zRS (y:=(d,p)) (Value.int .i64) Tryz.underlying22 zQu (fun n v y h=>by
  obtain⟨x,e,_⟩:=DataW.trod_int Tryz.underlying3 h
  simp only[List.cons.injEq,and_true] at e
  exact⟨x,e⟩) hf
end
theorem zKW(H:Type)(enc:TypeId×Value->H)(W:World)(base:Nat)(args:Array Value)(ds gs:List (DataW H))(before:List MemPlace)
  (ZU:∀(j:Nat) t v,Tryz.f4.params[j]?=some t->args[j]?=some v->Value.okWide Tryz.prog W .any base t v)
  (hW:DataW.Whole enc Tryz.prog Tryz.f4.params.toList Rows.segReadsSpec.vars false W args.toList ds gs before) (hk:Rows.uptoSmall H (ds++gs)=true) :
  Calls Tryz.prog 4 args W fun e W'=>∃v,e=.returned v/\Rows.segReadsSpec.post enc Tryz.prog Tryz.f4 false true false false W args v W':=by
 have Tp:=hW
 obtain⟨p,q,hA0,hV,rfl,hfz,hnd⟩:=hW
 have hA:DataW.TrodAll enc Tryz.prog W 0 (fun _=>true) true Tryz.f4.params.toList args.toList ds p:=hA0
 rw[Tryz.params4] at hA ZU
 obtain⟨v0,vs0,d0,ds0,p0,q0,hargs,rfl,rfl,h0,r0⟩:=trodAll_cons hA
 obtain⟨v1,vs1,d1,ds1,p1,q1,rfl,rfl,rfl,h1,r1⟩:=trodAll_cons r0
 obtain⟨v2,vs2,d2,ds2,p2,q2,rfl,rfl,rfl,h2,r2⟩:=trodAll_cons r1
 obtain⟨rfl,rfl,rfl⟩:=trodAll_nil r2
 obtain rfl:args=#[v0,v1,v2]:=by cases args;simp_all
 obtain⟨rfl,rfl⟩:=trodVars_none hV
 have k0:=h0
 have lt0:∀x∈p0,x.block<W.heap.size:=by obtain⟨m,hm⟩:=k0;exact DataW.trod_lt m _ _ _ hm
 have k1:=h1
 have lt1:∀x∈p1,x.block<W.heap.size:=by obtain⟨m,hm⟩:=k1;exact DataW.trod_lt m _ _ _ hm
 have k2:=h2
 have lt2:∀x∈p2,x.block<W.heap.size:=by obtain⟨m,hm⟩:=k2;exact DataW.trod_lt m _ _ _ hm
 obtain⟨s,rfl,rfl,rfl,ws⟩:=Go.ChangeMaps.open_string Tryz.underlying9 (ZU 0 9 v0 rfl rfl) h0
 obtain⟨i,rfl,rfl,rfl,wi⟩:=open_int Tryz.underlying3 (ZU 1 3 v1 rfl rfl) h1
 obtain⟨a,c,cs,rfl,hC,YN⟩:=zMw (ZU 2 22 v2 rfl rfl) h2
 clear hA0
 simp only[List.append_nil] at hk
 have hb:Rows.uptoBulkAll [(.lit (.string s.data.toList):DataW H),.lit (.int .i64 i),d2]<=1048576:=of_decide_eq_true hk
 simp only[Rows.uptoBulkAll,Rows.uptoBulk] at hb
 have hL:=zUF (l:=s.data.toList) (by omega) i cs a c W (by omega) hC
 rw[zTl] at hL
 refine hL.mono fun e W' ⟨he,bel⟩=>?_
 subst he
 exact⟨_,rfl,_,_,_,[],_,[],Tp,trodAll_mk1 (shut_bool Tryz.underlying4 _),(trodAll_cons_mk (Below.trod zON (by kernel_rfl) (of_decide_eq_true (by kernel_rfl)) k0 bel lt0) (trodAll_cons_mk (Below.trod zON (by kernel_rfl) (of_decide_eq_true (by kernel_rfl)) k1 bel lt1) (trodAll_cons_mk (Below.trod zON (by kernel_rfl) (of_decide_eq_true (by kernel_rfl)) k2 bel lt2) trodAll_mk0))),rfl,bel.frame _,fun h=>by cases h⟩
theorem zOM(os:Os)(started:os.Started)(H:Type)(enc:TypeId×Value->H)(F:Stop.Interp) :
  ReturnsInHanded {} Tryz.checked os 4 .any ((Rows.OpenSpec.upto Rows.segReadsSpec).pre6 enc Tryz.prog Tryz.f4 Rows.segReadsUptoRow.domain false) (((Rows.OpenSpec.upto Rows.segReadsSpec).at F).post enc Tryz.prog Tryz.f4 false true false false):=by
 refine returnsInHanded_of_cond (C:=Tryz.checked) (s:=Rows.OpenSpec.upto Rows.segReadsSpec) (k:=Rows.uptoSmall) rfl zUe started (by kernel_rfl) Tryz.func4
  (OpenSpec.witness (enc:=enc) (C:=Tryz.checked) (s:=Rows.OpenSpec.upto Rows.segReadsSpec) (k:=Rows.uptoSmall) rfl false ⟨#[],#[.string ⟨#[]⟩,.int .i64 0,.slice none 0 0],[]⟩ 8 (by kernel_rfl) (by kernel_rfl) (by kernel_rfl)
   (x:=([.lit (.string []),.lit (.int .i64 0),.nil],[],[])) (by kernel_rfl) rfl (by kernel_rfl)) ?_
 intro W base args ds gs before ZU hW _ hk _
 exact zKW H enc W base args ds gs before ZU hW hk
theorem sr_holds:Rows.SegReadsUptoSaid:=
 OpenClaim.holds_of_cond 4 Tryz.f4 rfl rfl rfl rfl rfl rfl rfl ⟨rfl,rfl,rfl,rfl,rfl⟩ rfl rfl rfl rfl rfl (by kernel_rfl) Tryz.func4 (by kernel_rfl)
  (of_decide_eq_true (by kernel_rfl)) (by unfold Func.isWrapper;first | (rw[if_pos (by decide +kernel)];kernel_rfl) | (rw[if_neg (by decide +kernel)];exact⟨rfl,rfl⟩))
  (fun os started H enc _ F=>zOM os started H enc F)
#print axioms sr_holds
end Go.Proofs.YtekgpapophibcaaGreat
