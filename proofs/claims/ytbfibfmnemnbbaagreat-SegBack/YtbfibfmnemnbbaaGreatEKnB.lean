import Derived.Test.YtbfibfmnemnbbaaGreatEKnA
import Derived.Test.YtbfibfmnemnbbaaGreatEPaI
import Derived.Test.YtbfibfmnemnbbaaGreatEMyB
import Derived.Test.YtbfibfmnemnbbaaGreatEExH
set_option linter.unusedSimpArgs false
set_option linter.unusedVariables false
set_option maxHeartbeats 1000000
set_option maxRecDepth 100000
namespace Go.Proofs.YtbfibfmnemnbbaaGreat.E
open Go.RowKit Go.Sort
mutual
def kE(ks:List Int):Ex->Option Int
 | .mk op n v l=>if op == 1 then some (ks.getD n.toNat 0) else if op == 2 then some (cleanV v).k else match kL ks l with
  | some d=>if (kOf op d).2 then some (kOf op d).1 else none
  | none=>none
def kL(ks:List Int):List Ex->Option (List Int)
 | []=>some []
 | e::l=>match kE ks e with
  | some k=>(match kL ks l with
   | some d=>some (k::d)
   | none=>none)
  | none=>none
end
theorem kE_eq(ks:List Int)(e:Ex):kE ks e=if e.op == 1 then some (ks.getD e.n.toNat 0) else if e.op == 2 then some (cleanV e.v).k else match kL ks e.args with
  | some d=>if (kOf e.op d).2 then some (kOf e.op d).1 else none
  | none=>none:=by cases e;rw[kE];rfl
theorem kL_snoc(ks:List Int):∀(l:List Ex) (x:Ex) {d:List Int} {y:Int},kL ks l=some d->kE ks x=some y->kL ks (l++[x])=some (d++[y])
 | [],x,d,y,h,hx=>by
  rw[kL] at h
  injection h with h
  subst h
  rw[List.nil_append,kL,hx,kL]
  rfl
 | e::l,x,d,y,h,hx=>by
  rw[kL] at h
  rw[List.cons_append,kL]
  cases he:kE ks e with
  | none=>rw[he] at h;cases h
  | some k=>
   rw[he] at h
   cases hl:kL ks l with
   | none=>rw[hl] at h;cases h
   | some d'=>
    rw[hl] at h
    injection h with h
    subst h
    rw[kL_snoc ks l x hl hx]
    rfl
theorem kL_none(ks:List Int):∀{l:List Ex} {x:Ex},x∈l->kE ks x=none->kL ks l=none
 | e::l,x,h,hx=>by
  rw[kL]
  rcases List.mem_cons.1 h with rfl|h
  ·rw[hx]
  ·rw[kL_none ks h hx]
   cases kE ks e<;>rfl
def KPost(o:Option Int)(w:World)(r:Ending)(w':World):Prop:=(∃(k:Int) (ok:Bool),r=.returned (.tuple #[.int .i64 k,.bool ok])/\ok=o.isSome/\∀x,o=some x->k=x)/\Below w.heap.size w w'
theorem OwnI.store{w:World}{base g N cap k:Nat}{L:List Int}(h:OwnI w base (.slice (some ⟨g,0,none⟩) N cap) L)(hN:N=L.length)(y:Int):OwnI (w.setCell ⟨g,k,none⟩ (.int .i64 y)) base (.slice (some ⟨g,0,none⟩) N cap) (L.set k y):=by
 subst hN
 have h1:=(World.ownsRow.stored h k (.int .i64 y)).1
 unfold OwnI
 rw[List.length_set,List.map_set]
 exact h1
theorem OwnI.at{w:World}{base g N cap k:Nat}{L:List Int}{x:Int}(h:OwnI w base (.slice (some ⟨g,0,none⟩) N cap) L)(hN:N=L.length)(hx:L[k]?=some x):w.cell? ⟨g,k,none⟩=some (.int .i64 x)/\w.frozen? ⟨g,k,none⟩=false:=by
 subst hN
 have hk:=(List.getElem?_eq_some_iff.1 hx).1
 refine⟨?_,World.ownsRow.frozenAt h k⟩
 rw[World.ownsRow.cellAt h k (by omega),List.getElem?_map,hx]
 rfl
theorem set_zero(d:List Int)(m:Nat)(y:Int):(d++List.replicate (m+1) 0).set d.length y=(d++[y])++List.replicate m 0:=by
 rw[List.set_append,if_neg (by omega),Nat.sub_self,List.replicate_succ,List.set_cons_zero,List.append_assoc]
 rfl
def KLoop(ks:List Int)(e:Ex)(a:Option Addr)(c g:Nat)(w:World)(i:Value)(wr:World):Prop:=∃(k:Nat) (d:List Int),k<=e.args.length/\i=.int .i64 (k:Int)/\d.length=k/\Hid (kL ks (e.args.take k)=some d)/\Hid (OwnI wr (w.heap.size+1) (.slice (some ⟨g,0,none⟩) e.args.length e.args.length) (d++List.replicate (e.args.length-k) 0))/\Hid (Below w.heap.size w wr)/\Hid (Six wr w.heap.size e a c)/\g<wr.heap.size
theorem kover_node(ks:List Int)(hkl:ks.length<=140737488355328)(aK:Option Addr)(cK:Nat)(e:Ex)(hg:goodE e)(h1:¬e.op=1)(h2:¬e.op=2)(a:Option Addr)(c:Nat)(w:World)(ha:Ex.all w a e.args)
  (IH:∀(i:Nat) (x:Ex),e.args[i]?=some x->∀(a':Option Addr) (c':Nat) (W:World),Below w.heap.size w W->Ex.all W a' x.args->Calls Tryz.prog 53 #[x.val a' c',.slice aK ks.length cK] W (KPost (kE ks x) W)) :
  Calls Tryz.prog 53 #[e.val a c,.slice aK ks.length cK] w (KPost (kE ks e) w):=by
 have HIH:=hide IH
 have HA:=hide ha
 have hal:=sound_len (good_open hg).1
 have har:arI e.op<=3:=by unfold arI;split;omega;split;omega;split;omega;split;omega;split<;>omega
 have hlen:e.args.length<=3:=by omega
 have e1:(e.op == 1)=false:=by simpa using h1
 have e2:(e.op == 2)=false:=by simpa using h2
 have HK:Hid (kE ks e=match kL ks e.args with
  | some d=>if (kOf e.op d).2 then some (kOf e.op d).1 else none
  | none=>none):=by show _=_;rw[kE_eq,e1,e2];rfl
 have HAL:=hide hal
 obtain⟨i4,hi4,z40,z41,z42⟩:=info_parts info3K
 have HB0:=hide (below_alloc (Below.refl _ w) (.cells #[.int .i64 e.op,.int .i64 e.n,.int .i64 e.v.k,.int .i64 e.v.n,.string e.v.s,.slice a e.args.length c] 28))
 have H6:=hide (Six.new w e a c)
 have hs0:(w.alloc (.cells #[.int .i64 e.op,.int .i64 e.n,.int .i64 e.v.k,.int .i64 e.v.n,.string e.v.s,.slice a e.args.length c] 28)).heap.size=w.heap.size+1:=by simp[go_sem]
 obtain⟨R,hR⟩:∃R,R=kE ks e:=⟨_,rfl⟩
 rw[<-hR] at HK ⊢
 rw[Ex.val_open]
 clear IH ha hR hal har hg
 go_enter Tryz.func53,Tryz.ntmps53
 go_upto_region 7 with (at_make;refine wpList_make_full _ rfl (.tmp 28) (.tmp 28) 22 rfl (w.heap.size+1) 3 i4 (.int .i64 0) 1 Tryz.underlying22 hi4 z40 z41 .i64 .i64 _ _ e.args.length rfl rfl rfl rfl (by rw[z42];omega) (by unfold maxLen;omega) (by rw[hs0];exact Nat.le_refl _) ?_;intro w2 hO2 hg2)
 rw[hs0] at hO2
 have hBg:=grown_below hg2 (Nat.le_refl _) (fun g hg=>by cases hg)
 refine enter_with (fun wx=>KLoop ks e a c (w.heap.size+1) w (.int .i64 (0:Int)) wx) ?_ ?_
 ·refine⟨0,[],Nat.zero_le _,rfl,rfl,by rw[List.take_zero,kL];rfl,?_,below_step (unhide HB0) hBg,(unhide H6).later hBg,?_⟩
  ·show OwnI _ _ _ _
   unfold OwnI
   rw[List.nil_append,List.length_replicate,Nat.sub_zero,List.map_replicate]
   have hz:(madeCells (Value.cells (.int .i64 0)) (e.args.length*1)).toList=List.replicate e.args.length (Value.int .i64 0):=by rw[Nat.mul_one];exact toList_madeCells_one _ _
   rw[hz] at hO2
   exact hO2
  ·rcases hO2.2 with ⟨q,_⟩|⟨g',_,_,q,_,hh,_⟩
   ·cases q
   ·simp only[Value.slice.injEq,Option.some.injEq,Addr.mk.injEq,and_true,true_and] at q
    rw[q.1]
    exact(Array.getElem?_eq_some_iff.1 hh).1
 intro wx HW
 clear hO2 hg2 hBg HB0 H6
 obtain⟨_,_,_,_,_,_,_,_,HS,_⟩:=unhide HW
 obtain⟨s0,s1,s2,s3,s4,s5⟩:=unhide HS
 go_upto_region 8 with fail
 clear s0 s1 s2 s3 s4 s5 HS
 go_loopw[33] (fun i wr=>KLoop ks e a c (w.heap.size+1) w i wr) (fun i _=>e.args.length-(intOf i).toNat)
 case atStart=>exact unhide HW
 case round=>
  obtain⟨k,d,hk,rfl,hdk,HL,HO,HB,H6r,hgs⟩:=hrel
  by_cases hlt:k<e.args.length
  ·have h9:(k:Int)<(e.args.length:Int):=by omega
   obtain⟨x,hx⟩:∃x,e.args[k]?=some x:=⟨_,List.getElem?_eq_getElem hlt⟩
   obtain⟨vb,vo,ea,hat⟩:=Ex.all_get (Ex.all_later _ (unhide HA) (unhide HB)) hx
   obtain⟨a',c',⟨d0,d1,d2,d3,d4,d5⟩,hal⟩:=Ex.at_open hat
   have HB1:=hide (below_alloc (Below.refl _ wr) (.cells #[.int .i64 x.op,.int .i64 x.n,.int .i64 x.v.k,.int .i64 x.v.n,.string x.v.s,.slice a' x.args.length c'] 28))
   have HX:=hide (unhide HIH k x hx a' c' _ (below_step (unhide HB) (unhide HB1)) (Ex.all_later _ hal (unhide HB1)))
   rw[Ex.val_open] at HX
   have HXX:=hide hx
   subst ea
   clear hx hat hal
   cases hke:kE ks x with
   | none=>
    rw[hke] at HX
    have HR:Hid (R=none):=by
     show _=_
     rw[unhide HK,kL_none ks (List.mem_of_getElem? (unhide HXX)) hke]
    clear hke
    go_wp2_with (go_at_call 53;refine(unhide HX).mono ?_;rintro r w1 ⟨⟨kk,ok,rfl,rfl,_⟩,hb1⟩)
    refine bodyPost_ret (v:=.tuple #[.int .i64 0,.bool false]) (by simp[results,Tryz.results53,go_sem]) rfl ⟨⟨0,false,rfl,by rw[unhide HR];rfl,fun y hy=>by rw[unhide HR] at hy;cases hy⟩,below_step (unhide HB) (below_step (unhide HB1) hb1)⟩
   | some y=>
    rw[hke] at HX
    have HL2:Hid (kL ks (e.args.take (k+1))=some (d++[y])):=by
     show _=_
     rw[List.take_add_one,unhide HXX]
     exact kL_snoc ks _ x (unhide HL) hke
    clear hke
    obtain⟨mm,hmm⟩:∃mm,e.args.length-k=mm+1:=⟨e.args.length-k-1,by omega⟩
    have HMM:=hide hmm
    rw[hmm] at HO
    have hLL:e.args.length=(d++List.replicate (mm+1) (0:Int)).length:=by rw[List.length_append,List.length_replicate];omega
    have HLL:=hide hLL
    have hat0:(d++List.replicate (mm+1) (0:Int))[k]?=some 0:=by
     rw[List.getElem?_append_right (by omega),hdk,Nat.sub_self]
     rfl
    have HAT:=hide hat0
    clear hmm hLL hat0
    go_wp2_with (go_at_call 53;refine(unhide HX).mono ?_;rintro r w1 ⟨⟨kk,ok,rfl,rfl,hkk⟩,hb1⟩;obtain rfl:=hkk y rfl;have hb01:=below_step (unhide HB1) hb1;obtain⟨q0,q1⟩:=((unhide HO).later hb01).at (unhide HLL) (unhide HAT))
    have hO1:=(unhide HO).later hb01
    have hsz:=hb01.size
    refine⟨⟨k+1,d++[kk],by omega,by go_num,by simp[hdk],unhide HL2,?_,?_,?_,?_⟩,by simp[intOf];omega⟩
    ·have h:=hO1.store (k:=k) (unhide HLL) kk
     rw[<-hdk,set_zero,hdk] at h
     rw[show e.args.length-(k+1)=mm by have:=unhide HMM;omega]
     exact h
    ·exact(below_step (unhide HB) hb01).setCell (by show w.heap.size<=w.heap.size+1;omega) _
    ·exact six_put ((unhide H6r).later hb01) _ _ _ (by omega)
    ·simp only[World.setCell]
     simp
     omega
  ·have h9:¬(k:Int)<(e.args.length:Int):=by omega
   obtain rfl:k=e.args.length:=by omega
   have hL:=unhide HL
   rw[List.take_length] at hL
   have hO:=unhide HO
   rw[Nat.sub_self,List.replicate_zero,List.append_nil] at hO
   have HKF:=hide (kof_any e.op (some ⟨w.heap.size+1,0,none⟩) e.args.length d wr (by rw[hdk];exact unhide HAL) (by omega) hO.ints)
   have HRR:Hid (R=if (kOf e.op d).2 then some (kOf e.op d).1 else none):=by show _=_;rw[unhide HK,hL]
   rw[hdk] at HKF
   obtain⟨KO,hKO⟩:∃KO,KO=kOf e.op d:=⟨_,rfl⟩
   rw[<-hKO] at HKF HRR
   obtain⟨c1,c2⟩:=KO
   simp only at HKF HRR
   obtain⟨s0,s1,s2,s3,s4,s5⟩:=unhide H6r
   clear hL hO HL HO HK hKO
   go_wp2_with (go_at_call 77;refine(unhide HKF).mono ?_;rintro r w1 ⟨rfl,hb1⟩)
   refine bodyPost_ret (v:=.tuple #[.int .i64 c1,.bool c2]) (by simp[results,Tryz.results53,go_sem]) rfl ⟨⟨c1,c2,rfl,?_,?_⟩,below_step (unhide HB) hb1⟩
   ·rw[unhide HRR];cases c2<;>rfl
   ·intro y hy
    rw[unhide HRR] at hy
    cases c2 with
    | false=>cases hy
    | true=>injection hy
theorem kover_leaf(ks:List Int)(hkl:ks.length<=140737488355328)(aK:Option Addr)(cK:Nat)(e:Ex)(hg:goodE e)(hu:usesB e ks.length=true)(h12:e.op=1∨e.op=2)(a:Option Addr)(c:Nat)(w:World)(hK:IntsAt w aK ks) :
  Calls Tryz.prog 53 #[e.val a c,.slice aK ks.length cK] w (KPost (kE ks e) w):=by
 have HB0:=hide (below_alloc (Below.refl _ w) (.cells #[.int .i64 e.op,.int .i64 e.n,.int .i64 e.v.k,.int .i64 e.v.n,.string e.v.s,.slice a e.args.length c] 28))
 rcases h12 with h1|h2
 ·have hn:=col_nat hg h1
  have hlt:=uses_col hu h1
  obtain⟨n,hn2⟩:∃n:Nat,e.n=n:=⟨e.n.toNat,by omega⟩
  have hke:kE ks e=some (ks.getD n 0):=by rw[kE_eq,h1,hn2];rfl
  have hgk:ks[n]?=some (ks.getD n 0):=by
   rw[List.getD_eq_getElem?_getD,List.getElem?_eq_getElem (by omega)]
   rfl
  rw[hke]
  generalize ks.getD n 0=q at *
  obtain⟨vb,vo,rfl,d0⟩:=(hK.later (unhide HB0)).get hgk
  have h8:(n:Int)<(ks.length:Int):=by omega
  rw[Ex.val_open]
  rw[h1,hn2] at HB0 d0 ⊢
  clear hke hgk hg hu hK hn hlt
  go_enter Tryz.func53,Tryz.ntmps53
  go_wp2
  refine bodyPost_ret (v:=.tuple #[.int .i64 q,.bool true]) (by simp[results,Tryz.results53,go_sem]) rfl ⟨⟨q,true,rfl,rfl,fun x hx=>by injection hx⟩,unhide HB0⟩
 ·have hke:kE ks e=some (cleanV e.v).k:=by rw[kE_eq,h2];rfl
  have HC:=hide (fun W=>clean_any e.v W)
  rw[hke]
  rw[Val.open_,Val.open_] at HC
  generalize cleanV e.v=u at *
  have hfk:=field0 u.k u.n u.s
  rw[Ex.val_open]
  rw[h2] at HB0 ⊢
  clear hke hg hu hK
  go_enter Tryz.func53,Tryz.ntmps53
  go_wp2_with (go_at_call 23;refine(unhide HC _).mono ?_;rintro r w1 ⟨rfl,hb1⟩)
  refine bodyPost_ret (v:=.tuple #[.int .i64 u.k,.bool true]) (by simp[results,Tryz.results53,go_sem]) rfl ⟨⟨u.k,true,rfl,rfl,fun x hx=>by injection hx⟩,below_step (unhide HB0) hb1⟩
theorem kover_all(ks:List Int)(hkl:ks.length<=140737488355328)(aK:Option Addr)(cK:Nat):∀(k:Nat) (e:Ex),e.size<=k->goodE e->usesB e ks.length=true->∀(a:Option Addr) (c:Nat) (w:World),Ex.all w a e.args->IntsAt w aK ks->Calls Tryz.prog 53 #[e.val a c,.slice aK ks.length cK] w (KPost (kE ks e) w)
 | 0,e,hs,_,_,_,_,_,_,_=>by rw[Ex.size_mk] at hs;omega
 | k+1,e,hs,hg,hu,a,c,w,ha,hK=>by
  by_cases h1:e.op=1
  ·exact kover_leaf ks hkl aK cK e hg hu (.inl h1) a c w hK
  ·by_cases h2:e.op=2
   ·exact kover_leaf ks hkl aK cK e hg hu (.inr h2) a c w hK
   ·exact kover_node ks hkl aK cK e hg h1 h2 a c w ha fun i x hx a' c' W hW hal=>
     kover_all ks hkl aK cK k x (by have:=Ex.size_arg hx;omega) (good_arg hg hx) (uses_arg hu hx) a' c' W hal (hK.later hW)
def kErr(ks:List Int)(e:Ex):Int:=if builtE e && (!ks.any noK) && usesB e ks.length then (if (kE ks e).isSome then 0 else 4) else 1
theorem kind_any(ks:List Int)(hkl:ks.length<=140737488355328)(aK:Option Addr)(cK:Nat)(e:Ex)(hf:e.fin)(a:Option Addr)(c:Nat)(w:World)(ha:Ex.all w a e.args)(hK:IntsAt w aK ks) :
  Calls Tryz.prog 25 #[e.val a c,.slice aK ks.length cK] w fun r w'=>(∃k:Int,r=.returned (.tuple #[.int .i64 k,.int .i64 (kErr ks e)]))/\Below w.heap.size w w':=by
 have HB:=hide (fun (W:World) (hW:Below w.heap.size w W)=>built_any e hf a c W (Ex.all_later _ ha hW))
 have HN:=hide (fun (W:World) (hW:Below w.heap.size w W)=>containsK_any aK cK ks W hkl (hK.later hW))
 have HU:=hide (fun (hb:builtE e=true) (W:World) (hW:Below w.heap.size w W)=>uses_any e (built_good hb) hf (built_bounds hb).1 ks.length a c W (Ex.all_later _ ha hW))
 have HV:=hide (fun (hb:builtE e=true) (hu:usesB e ks.length=true) (W:World) (hW:Below w.heap.size w W)=>kover_all ks hkl aK cK e.size e (Nat.le_refl _) (built_good hb) hu a c W (Ex.all_later _ ha hW) (hK.later hW))
 have HB0:=hide (below_alloc (Below.refl _ w) (.cells #[.int .i64 e.op,.int .i64 e.n,.int .i64 e.v.k,.int .i64 e.v.n,.string e.v.s,.slice a e.args.length c] 28))
 have H6:=hide (Six.new w e a c)
 rw[Ex.val_open] at HB HU HV ⊢
 clear ha hK
 cases hb:builtE e with
 | false=>
  rw[hb] at HB
  have hke:kErr ks e=1:=by unfold kErr;rw[hb];rfl
  rw[hke]
  clear hb hke HN HU HV
  go_enter Tryz.func25,Tryz.ntmps25
  go_wp2_with (go_at_call 50;refine(unhide HB _ (unhide HB0)).mono ?_;rintro r w1 ⟨rfl,hb1⟩)
  refine bodyPost_ret (v:=.tuple #[.int .i64 0,.int .i64 1]) (by simp[results,Tryz.results25,go_sem]) rfl ⟨⟨0,rfl⟩,below_step (unhide HB0) hb1⟩
 | true=>
  rw[hb] at HB
  have HU:=hide (unhide HU hb)
  have HV:=hide (unhide HV hb)
  cases hn:ks.any noK with
  | true=>
   rw[hn] at HN
   have hke:kErr ks e=1:=by unfold kErr;rw[hn];simp
   rw[hke]
   clear hb hn hke HU HV
   go_enter Tryz.func25,Tryz.ntmps25
   go_wp2_with (first
    | (go_at_call 13;refine(unhide HN w1 hB1).mono ?_;rintro r w2 ⟨rfl,hb2⟩)
    | (go_at_call 50;refine(unhide HB _ (unhide HB0)).mono ?_;rintro r w1 ⟨rfl,hb1⟩;have hB1:=below_step (unhide HB0) hb1))
   refine bodyPost_ret (v:=.tuple #[.int .i64 0,.int .i64 1]) (by simp[results,Tryz.results25,go_sem]) rfl ⟨⟨0,rfl⟩,below_step hB1 hb2⟩
  | false=>
   rw[hn] at HN
   cases hu:usesB e ks.length with
   | false=>
    rw[hu] at HU
    have hke:kErr ks e=1:=by unfold kErr;rw[hu];simp
    rw[hke]
    clear hb hn hu hke HV
    go_enter Tryz.func25,Tryz.ntmps25
    go_wp2_with (first
     | (go_at_call 52;refine(unhide HU w2 hB2).mono ?_;rintro r w3 ⟨rfl,hb3⟩)
     | (go_at_call 13;refine(unhide HN w1 hB1).mono ?_;rintro r w2 ⟨rfl,hb2⟩;have hB2:=below_step hB1 hb2;obtain⟨b0,b1,b2,b3,b4,b5⟩:=(unhide H6).later (below_step hb1 hb2))
     | (go_at_call 50;refine(unhide HB _ (unhide HB0)).mono ?_;rintro r w1 ⟨rfl,hb1⟩;have hB1:=below_step (unhide HB0) hb1))
    refine bodyPost_ret (v:=.tuple #[.int .i64 0,.int .i64 1]) (by simp[results,Tryz.results25,go_sem]) rfl ⟨⟨0,rfl⟩,below_step hB2 hb3⟩
   | true=>
    rw[hu] at HU
    have HV:=hide (unhide HV hu)
    have hke:kErr ks e=if (kE ks e).isSome then 0 else 4:=by unfold kErr;rw[hb,hn,hu];rfl
    rw[hke]
    generalize kE ks e=O at *
    obtain⟨bo,hbo⟩:∃bo,bo=O.isSome:=⟨_,rfl⟩
    rw[<-hbo]
    have HV2:Hid (∀W,Below w.heap.size w W->Calls Tryz.prog 53 #[.agg #[.int .i64 e.op,.int .i64 e.n,.int .i64 e.v.k,.int .i64 e.v.n,.string e.v.s,.slice a e.args.length c],.slice aK ks.length cK] W fun r w'=>(∃kk:Int,r=.returned (.tuple #[.int .i64 kk,.bool bo]))/\Below W.heap.size W w'):=fun W hW=>(unhide HV W hW).mono fun r w' ⟨⟨kk,ok,h1,h2,_⟩,hb⟩=>⟨⟨kk,by rw[h1,h2,<-hbo]⟩,hb⟩
    clear hb hn hu hke hbo HV
    cases bo with
    | true=>
     simp only[if_true]
     go_enter Tryz.func25,Tryz.ntmps25
     go_wp2_with (first
      | (go_at_call 53;refine(unhide HV2 w3 hB3).mono ?_;rintro r w4 ⟨⟨kk,rfl⟩,hb4⟩)
      | (go_at_call 52;refine(unhide HU w2 hB2).mono ?_;rintro r w3 ⟨rfl,hb3⟩;have hB3:=below_step hB2 hb3;obtain⟨b0,b1,b2,b3,b4,b5⟩:=(unhide H6).later (below_step (below_step hb1 hb2) hb3))
      | (go_at_call 13;refine(unhide HN w1 hB1).mono ?_;rintro r w2 ⟨rfl,hb2⟩;have hB2:=below_step hB1 hb2;obtain⟨b0,b1,b2,b3,b4,b5⟩:=(unhide H6).later (below_step hb1 hb2))
      | (go_at_call 50;refine(unhide HB _ (unhide HB0)).mono ?_;rintro r w1 ⟨rfl,hb1⟩;have hB1:=below_step (unhide HB0) hb1))
     refine bodyPost_ret (v:=.tuple #[.int .i64 kk,.int .i64 0]) (by simp[results,Tryz.results25,go_sem]) rfl ⟨⟨kk,rfl⟩,below_step hB3 hb4⟩
    | false=>
     simp only[Bool.false_eq_true,if_false]
     go_enter Tryz.func25,Tryz.ntmps25
     go_wp2_with (first
      | (go_at_call 53;refine(unhide HV2 w3 hB3).mono ?_;rintro r w4 ⟨⟨kk,rfl⟩,hb4⟩)
      | (go_at_call 52;refine(unhide HU w2 hB2).mono ?_;rintro r w3 ⟨rfl,hb3⟩;have hB3:=below_step hB2 hb3;obtain⟨b0,b1,b2,b3,b4,b5⟩:=(unhide H6).later (below_step (below_step hb1 hb2) hb3))
      | (go_at_call 13;refine(unhide HN w1 hB1).mono ?_;rintro r w2 ⟨rfl,hb2⟩;have hB2:=below_step hB1 hb2;obtain⟨b0,b1,b2,b3,b4,b5⟩:=(unhide H6).later (below_step hb1 hb2))
      | (go_at_call 50;refine(unhide HB _ (unhide HB0)).mono ?_;rintro r w1 ⟨rfl,hb1⟩;have hB1:=below_step (unhide HB0) hb1))
     refine bodyPost_ret (v:=.tuple #[.int .i64 0,.int .i64 4]) (by simp[results,Tryz.results25,go_sem]) rfl ⟨⟨0,rfl⟩,below_step hB3 hb4⟩
end Go.Proofs.YtbfibfmnemnbbaaGreat.E
set_option linter.unusedSimpArgs false
set_option linter.unusedVariables false
set_option maxHeartbeats 4000000
set_option maxRecDepth 100000
namespace Go.Proofs.YtbfibfmnemnbbaaGreat.E
open Go.RowKit Go.Sort
def colOf(e:Ex):Nat:=(e.args.headD zeroE').n.toNat
def neverE(h:Hd)(p:Ex):Bool:=
 if p.op == 2 then !trueB p.v else if nulcol p then decide (h.nulls.getD (colOf p) 0<=0)
 else if p.op == 4 && nulcol (p.args.headD zeroE') then nulV (h.low.getD (colOf (p.args.headD zeroE')) .null)
 else if decide (12<=p.op) && decide (p.op<=17) then neverSo h p.op (p.args.getD 0 zeroE') (p.args.getD 1 zeroE')
 else false
def Hd.len(h:Hd)(N:Nat):Prop:=h.low.length=N/\h.high.length=N/\h.nulls.length=N
theorem arity_one{p:Ex}(hg:goodE p)(h:p.op=5∨p.op=4):p.args.length=1:=by
 have hl:=sound_len (good_open hg).1
 rcases h with h|h
 ·rw[h,show arI 5=1 by decide] at hl;omega
 ·rw[h,show arI 4=1 by decide] at hl;omega
theorem arity_two{p:Ex}(hg:goodE p)(h1:12<=p.op)(h2:p.op<=17):p.args.length=2:=by
 have hl:=sound_len (good_open hg).1
 have:arI p.op=2:=by
  unfold arI
  rw[if_neg (by simp;omega),if_neg (by simp;omega),if_neg (by simp;omega),if_pos (by simp;omega)]
 omega
theorem one_argM{p:Ex}(h:p.args.length=1):∃x,p.args=[x]:=by
 match p.args,h with
 | [x],_=>exact⟨x,rfl⟩
theorem two_argsM{p:Ex}(h:p.args.length=2):∃x y,p.args=[x,y]:=by
 match p.args,h with
 | [x,y],_=>exact⟨x,y,rfl⟩
theorem at_zero{w:World}{a:Option Addr}{x:Ex}{l:List Ex}(h:Ex.all w a (x::l)):∃b off,a=some ⟨b,off,none⟩/\Ex.at w b off x:=by
 rw[Ex.all] at h
 obtain⟨b,off,h1,h2,_⟩:=h
 exact⟨b,off,h1,h2⟩
theorem at_two{w:World}{a:Option Addr}{x y:Ex}(h:Ex.all w a [x,y]):∃b off,a=some ⟨b,off,none⟩/\Ex.at w b off x/\Ex.at w b (off+6) y:=by
 rw[Ex.all] at h
 obtain⟨b,off,h1,h2,h3⟩:=h
 rw[Ex.all] at h3
 obtain⟨b',off',h4,h5,_⟩:=h3
 simp only[Option.some.injEq,Addr.mk.injEq,and_true] at h4
 obtain⟨rfl,rfl⟩:=h4
 exact⟨b,off,h1,h2,h5⟩
theorem nulcol_yes{e:Ex}(h:nulcol e=true):e.op=5/\(e.args.headD zeroE').op=1:=by
 unfold nulcol at h
 simpa using h
theorem getD_nat{l:List Int}{n:Nat}(h:n<l.length):l[n]?=some (l.getD n 0):=by
 rw[List.getD_eq_getElem?_getD,List.getElem?_eq_getElem h]
 rfl
theorem never_any(h:Hd)(m:Hm)(N:Nat)(hN:h.len N)(hN64:N<=140737488355328)(p:Ex)(hg:goodE p)(hu:usesB p N=true)(a:Option Addr)(c:Nat)(w:World)(ha:Ex.all w a p.args)(hh:HdAt w h m) :
  Calls Tryz.prog 27 #[p.val a c,h.val m] w fun r w'=>r=.returned (.bool (neverE h p))/\Below w.heap.size w w':=by
 obtain⟨wa,hwa⟩:∃wa,wa=(w.alloc (p.box a c)).alloc (h.box m):=⟨_,rfl⟩
 have HBA:Hid (Below w.heap.size w wa):=by rw[hwa];exact below_alloc (below_alloc (Below.refl _ _) _) _
 have HX:Hid (Six wa w.heap.size p a c):=by rw[hwa];exact(Six.new w p a c).later (below_alloc (Below.refl _ _) _)
 have hs1:(w.alloc (p.box a c)).heap.size=w.heap.size+1:=by simp[go_sem]
 have HH:Hid (Four wa (w.heap.size+1) h m):=by
  have q:=Four.new (w.alloc (p.box a c)) h m
  rw[hs1] at q
  rw[hwa]
  exact q
 have HAT:=hide (hh.later (unhide HBA))
 have HAL:=hide (Ex.all_later _ ha (unhide HBA))
 have HNN:=hide hN
 clear hN
 have HNC:=hide (fun (W:World) (hW:Below w.heap.size w W)=>nulcol_any p (fun h5=>arity_one hg (.inl h5)) a c W (Ex.all_later _ ha hW))
 obtain⟨R,hR⟩:∃R,R=neverE h p:=⟨_,rfl⟩
 rw[<-hR]
 rw[Ex.val_open] at HNC
 rw[Ex.val_open,Hd.val_open]
 unfold Ex.box Hd.box at hwa
 clear hs1 ha hh
 by_cases h2:p.op=2
 ·have HR:Hid (R=!trueB p.v):=by show _=_;rw[hR];unfold neverE;rw[h2];rfl
  have HT:=hide (fun W=>true_any p.v W)
  rw[Val.open_] at HT
  generalize trueB p.v=tb at *
  have H2:=hide h2
  clear hR h2 HNC hg hu
  go_enter Tryz.func27,Tryz.ntmps27
  go_upto_region 1 with fail
  rw[<-hwa]
  clear hwa
  obtain⟨s0,s1,s2,s3,s4,s5⟩:=unhide HX
  rw[unhide H2] at s0
  go_wp2_with (go_at_call 11;refine(unhide HT _).mono ?_;rintro r w1 ⟨rfl,hb1⟩)
  go_ret
  exact⟨by rw[unhide HR];rfl,below_step (unhide HBA) hb1⟩
 have n2:(p.op == 2)=false:=by simpa using h2
 cases hnc:nulcol p with
 | true=>
  obtain⟨h5,hx1⟩:=nulcol_yes hnc
  obtain⟨x,hx⟩:=one_argM (arity_one hg (.inl h5))
  rw[hx] at hx1
  have hx1:x.op=1:=hx1
  have hxg:p.args[0]?=some x:=by rw[hx];rfl
  have hgx:=good_arg hg hxg
  have hxn:=col_nat hgx hx1
  have hxl:=uses_col (uses_arg hu hxg) hx1
  obtain⟨n,hn⟩:∃n:Nat,x.n=n:=⟨x.n.toNat,by omega⟩
  have hcol:colOf p=n:=by unfold colOf;rw[hx];show x.n.toNat=n;rw[hn];rfl
  have HR:Hid (R=decide (h.nulls.getD n 0<=0)):=by show _=_;rw[hR];unfold neverE;rw[n2,hnc,hcol];rfl
  have hgn:=getD_nat (l:=h.nulls) (n:=n) (by have:=(unhide HNN).2.2;omega)
  generalize h.nulls.getD n 0=q at *
  obtain⟨nb,nf,en,q0⟩:=(unhide HAT).2.2.get hgn
  rw[hx] at HAL
  obtain⟨xb,xf,exx,hat⟩:=at_zero (unhide HAL)
  obtain⟨a',c',⟨d0,d1,d2,d3,d4,d5⟩,_⟩:=Ex.at_open hat
  rw[hn] at d1
  rw[hnc] at HNC
  have hll:p.args.length=1:=by rw[hx];rfl
  have hnl:(n:Int)<(h.nulls.length:Int):=by have:=(unhide HNN).2.2;omega
  rw[h5] at HNC
  have H5:=hide h5
  have HLL:=hide hll
  have HEN:=hide en
  have HEX:=hide exx
  clear hR h2 hnc h5 hx1 hx hxg hgx hxn hxl hn hcol hgn hat hg hu hll en exx HAL HAT n2
  go_enter Tryz.func27,Tryz.ntmps27
  go_upto_region 1 with fail
  rw[<-hwa]
  clear hwa
  obtain⟨s0,s1,s2,s3,s4,s5⟩:=unhide HX
  rw[unhide H5] at s0
  go_upto_region 4 with (go_at_call 54;refine(unhide HNC _ (unhide HBA)).mono ?_;rintro r w1 ⟨rfl,hb1⟩)
  clear s0 s1 s2 s3 s4 s5
  obtain⟨s0,s1,s2,s3,s4,s5⟩:=(unhide HX).later hb1
  obtain⟨u0,u1,u2,u3⟩:=(unhide HH).later hb1
  rw[unhide HLL,unhide HEX] at s5
  rw[unhide HEN] at u3
  have d1:=clater d1 hb1
  have q0:=clater q0 hb1
  go_quiet (fail)
  go_wp2
  go_ret
  exact⟨by rw[unhide HR];rfl,below_drewN (below_step (unhide HBA) hb1) _⟩
 | false=>
  rw[hnc] at HNC
  by_cases h4:p.op=4
  ·obtain⟨x,hx⟩:=one_argM (arity_one hg (.inr h4))
   have hxg:p.args[0]?=some x:=by rw[hx];rfl
   have hgx:=good_arg hg hxg
   have hux:=uses_arg hu hxg
   have hR2:R=if nulcol x then nulV (h.low.getD (colOf x) .null) else false:=by
    rw[hR]
    unfold neverE
    rw[n2,hnc,h4,hx]
    show (if nulcol x=true then _ else _)=_
    cases nulcol x<;>rfl
   have HR2:=hide hR2
   rw[hx] at HAL
   obtain⟨xb,xf,exx,hat⟩:=at_zero (unhide HAL)
   obtain⟨a',c',⟨d0,d1,d2,d3,d4,d5⟩,hal⟩:=Ex.at_open hat
   have HNX:=hide (fun (W:World) (hW:Below wa.heap.size wa W)=>nulcol_any x (fun h5=>arity_one hgx (.inl h5)) a' c' W (Ex.all_later _ hal hW))
   rw[Ex.val_open] at HNX
   have hll:p.args.length=1:=by rw[hx];rfl
   rw[h4] at HNC
   have H4:=hide h4
   have HLL:=hide hll
   have HEX:=hide exx
   cases hnx:nulcol x with
   | false=>
    rw[hnx] at HNX HR2
    clear hR hR2 h2 hnc h4 hx hxg hgx hux hat hal hg hu hll exx HAL HAT n2 hnx
    go_enter Tryz.func27,Tryz.ntmps27
    go_upto_region 1 with fail
    rw[<-hwa]
    clear hwa
    obtain⟨s0,s1,s2,s3,s4,s5⟩:=unhide HX
    rw[unhide H4] at s0
    go_wp2_with (first
     | (go_at_call 54;refine(unhide HNX w1 hb1).mono ?_;rintro r w2 ⟨rfl,hb2⟩;obtain⟨s0,s1,s2,s3,s4,s5⟩:=(unhide HX).later (below_step hb1 hb2);rw[unhide H4] at s0)
     | (go_at_call 54;refine(unhide HNC _ (unhide HBA)).mono ?_;rintro r w1 ⟨rfl,hb1⟩;obtain⟨s0,s1,s2,s3,s4,s5⟩:=(unhide HX).later hb1;rw[unhide H4] at s0;rw[unhide HLL,unhide HEX] at s5;have d0:=clater d0 hb1;have d1:=clater d1 hb1;have d2:=clater d2 hb1;have d3:=clater d3 hb1;have d4:=clater d4 hb1;have d5:=clater d5 hb1))
    go_ret
    exact⟨by rw[unhide HR2];rfl,below_step (unhide HBA) (below_step hb1 hb2)⟩
   | true=>
    obtain⟨g5,hz1⟩:=nulcol_yes hnx
    obtain⟨z,hz⟩:=one_argM (arity_one hgx (.inl g5))
    rw[hz] at hz1
    have hz1:z.op=1:=hz1
    have hzg:x.args[0]?=some z:=by rw[hz];rfl
    have hzn:=col_nat (good_arg hgx hzg) hz1
    have hzl:=uses_col (uses_arg hux hzg) hz1
    obtain⟨n,hn⟩:∃n:Nat,z.n=n:=⟨z.n.toNat,by omega⟩
    have hcol:colOf x=n:=by unfold colOf;rw[hz];show z.n.toNat=n;rw[hn];rfl
    rw[hnx,hcol] at HR2
    have hgl:=getD_val (l:=h.low) (n:=n) (by have:=(unhide HNN).1;omega)
    generalize h.low.getD n .null=lo at *
    obtain⟨lb,lf,el,l0,l1,l2⟩:=(unhide HAT).1.lo hgl
    rw[hz] at hal
    obtain⟨zb,zf,ez,hat2⟩:=at_zero hal
    obtain⟨a3,c3,⟨e0,e1,e2,e3,e4,e5⟩,_⟩:=Ex.at_open hat2
    rw[hn] at e1
    rw[hnx] at HNX
    have hzz:x.args.length=1:=by rw[hz];rfl
    have hnl:(n:Int)<(h.low.length:Int):=by have:=(unhide HNN).1;omega
    have HSN:=hide (fun W=>segnull_any lo W)
    rw[Val.open_] at HSN
    have HEL:=hide el
    have HEZ:=hide ez
    have HZZ:=hide hzz
    generalize nulV lo=nv at *
    clear hR hR2 h2 hnc h4 hx hxg hgx hux hat hal hg hu hll exx HAL HAT n2 hnx g5 hz1 hz hzg hzn hzl hn hcol hgl el ez hat2 hzz
    go_enter Tryz.func27,Tryz.ntmps27
    go_upto_region 1 with fail
    rw[<-hwa]
    clear hwa
    obtain⟨s0,s1,s2,s3,s4,s5⟩:=unhide HX
    rw[unhide H4] at s0
    go_upto_region 6 with (first
     | (go_at_call 54;refine(unhide HNX w1 hb1).mono ?_;rintro r w2 ⟨rfl,hb2⟩)
     | (go_at_call 54;refine(unhide HNC _ (unhide HBA)).mono ?_;rintro r w1 ⟨rfl,hb1⟩;obtain⟨s0,s1,s2,s3,s4,s5⟩:=(unhide HX).later hb1;rw[unhide H4] at s0;rw[unhide HLL,unhide HEX] at s5;have d0:=clater d0 hb1;have d1:=clater d1 hb1;have d2:=clater d2 hb1;have d3:=clater d3 hb1;have d4:=clater d4 hb1;have d5:=clater d5 hb1))
    have hb12:=below_step hb1 hb2
    clear s0 s1 s2 s3 s4 s5
    obtain⟨s0,s1,s2,s3,s4,s5⟩:=(unhide HX).later hb12
    obtain⟨u0,u1,u2,u3⟩:=(unhide HH).later hb12
    rw[unhide HLL,unhide HEX] at s5
    rw[unhide HEL] at u1
    have d5:=clater d5 hb2
    rw[unhide HZZ,unhide HEZ] at d5
    have e1:=clater e1 hb12
    have l0:=clater l0 hb12
    have l1:=clater l1 hb12
    have l2:=clater l2 hb12
    have k0:=cell_regrown s5
    have k1:=cell_regrown u1
    have k2:=cell_regrown d5
    have k3:=cell_regrown e1
    have k4:=cell_regrown l0
    have k5:=cell_regrown l1
    have k6:=cell_regrown l2
    refine wp_region_quiet_below (by kernel_rfl) (by kernel_rfl) ?_
    repeat (go_big_quiet_step ((go_at_call 55;exact Calls.regrown_of (unhide HSN _))))
    refine wpQuiet_nil ?_
    intro w' hw'
    have hB:Below w2.heap.size w2 w':=by obtain⟨p,rfl⟩:=hw';exact below_regrown _ _ _
    clear hw' k0 k1 k2 k3 k4 k5 k6 s0 s1 s2 s3 s4 s5 u0 u1 u2 u3 d0 d1 d2 d3 d4 d5 e0 e1 e2 e3 e4 e5 l0 l1 l2
    go_wp2
    go_ret
    exact⟨by rw[unhide HR2];rfl,below_step (below_step (unhide HBA) hb12) hB⟩
  have n4:(p.op == 4)=false:=by simpa using h4
  by_cases hc:12<=p.op/\p.op<=17
  ·have hd:(decide (12<=p.op) && decide (p.op<=17))=true:=by simp;omega
   obtain⟨x,y,hxy⟩:=two_argsM (arity_two hg hc.1 hc.2)
   have hxg:p.args[0]?=some x:=by rw[hxy];rfl
   have hyg:p.args[1]?=some y:=by rw[hxy];rfl
   have HR:Hid (R=neverSo h p.op x y):=by show _=_;rw[hR];unfold neverE;rw[n2,hnc,n4,hd,hxy];rfl
   obtain⟨hNl,hNh,hNn⟩:=unhide HNN
   have HSO:=hide (fun (a b:Option Addr) (c d:Nat) (W:World) (hW:HdAt W h m)=>neverso_any h m p.op x y (fun q=>by have h1:=col_nat (good_arg hg hxg) q;have h2:=uses_col (uses_arg hu hxg) q;omega) (fun q=>by have h1:=col_nat (good_arg hg hyg) q;have h2:=uses_col (uses_arg hu hyg) q;omega) (by omega) (by omega) a b c d W hW)
   rw[hxy] at HAL
   obtain⟨xb,xf,exx,hax,hay⟩:=at_two (unhide HAL)
   obtain⟨a1,c1,⟨d0,d1,d2,d3,d4,d5⟩,_⟩:=Ex.at_open hax
   obtain⟨a2,c2,⟨e0,e1,e2,e3,e4,e5⟩,_⟩:=Ex.at_open hay
   have HSX:=hide (fun (W:World) (hW:Below wa.heap.size wa W)=>unhide HSO a1 a2 c1 c2 W ((unhide HAT).later hW))
   rw[Ex.val_open,Ex.val_open,Hd.val_open] at HSX
   have hll:p.args.length=2:=by rw[hxy];rfl
   have HLL:=hide hll
   have HEX:=hide exx
   have hc1:=hc.1
   have hc2:=hc.2
   generalize neverSo h p.op x y=NS at *
   clear hR hnc hg hu HAL hc hd hNl hNh hNn hxg hyg hax hay hll exx hxy HSO
   go_enter Tryz.func27,Tryz.ntmps27
   go_upto_region 1 with fail
   rw[<-hwa]
   clear hwa
   obtain⟨s0,s1,s2,s3,s4,s5⟩:=unhide HX
   go_upto_region 8 with (go_at_call 54;refine(unhide HNC _ (unhide HBA)).mono ?_;rintro r w1 ⟨rfl,hb1⟩;obtain⟨s0,s1,s2,s3,s4,s5⟩:=(unhide HX).later hb1)
   clear s0 s1 s2 s3 s4 s5
   obtain⟨s0,s1,s2,s3,s4,s5⟩:=(unhide HX).later hb1
   obtain⟨u0,u1,u2,u3⟩:=(unhide HH).later hb1
   rw[unhide HLL,unhide HEX] at s5
   have k0:=cell_regrown s0
   have k1:=cell_regrown s5
   have k2:=cell_regrown u0
   have k3:=cell_regrown u1
   have k4:=cell_regrown u2
   have k5:=cell_regrown u3
   have m0:=cell_regrown (clater d0 hb1)
   have m1:=cell_regrown (clater d1 hb1)
   have m2:=cell_regrown (clater d2 hb1)
   have m3:=cell_regrown (clater d3 hb1)
   have m4:=cell_regrown (clater d4 hb1)
   have m5:=cell_regrown (clater d5 hb1)
   have n0:=cell_regrown (clater e0 hb1)
   have n1:=cell_regrown (clater e1 hb1)
   have n2:=cell_regrown (clater e2 hb1)
   have n3:=cell_regrown (clater e3 hb1)
   have n4:=cell_regrown (clater e4 hb1)
   have n5:=cell_regrown (clater e5 hb1)
   clear s0 s1 s2 s3 s4 s5 u0 u1 u2 u3 d0 d1 d2 d3 d4 d5 e0 e1 e2 e3 e4 e5
   refine wp_region_quiet_below (by kernel_rfl) (by kernel_rfl) ?_
   repeat (go_big_quiet_step ((go_at_call 56;exact Calls.regrown_of (unhide HSX _ (below_step hb1 (below_regrown _ _ _))))))
   refine wpQuiet_nil ?_
   intro w' hw'
   have hB:Below w1.heap.size w1 w':=by obtain⟨p,rfl⟩:=hw';exact below_regrown _ _ _
   clear hw' k0 k1 k2 k3 k4 k5 m0 m1 m2 m3 m4 m5 n0 n1 n2 n3 n4 n5
   go_wp2
   go_ret
   exact⟨by rw[unhide HR];rfl,below_step (below_step (unhide HBA) hb1) hB⟩
  ·have hd:(decide (12<=p.op) && decide (p.op<=17))=false:=by
    by_cases q:(decide (12<=p.op) && decide (p.op<=17))=true
    ·simp at q;exact absurd q hc
    ·simpa using q
   have HR:Hid (R=false):=by show _=_;rw[hR];unfold neverE;rw[n2,hnc,n4,hd];rfl
   have hcd:p.op<12∨17<p.op:=by omega
   clear hR hnc hg hu HAL HAT hc hd
   rcases hcd with hcd|hcd
   ·have hcd2:¬12<=p.op:=by omega
    go_enter Tryz.func27,Tryz.ntmps27
    go_upto_region 1 with fail
    rw[<-hwa]
    clear hwa
    obtain⟨s0,s1,s2,s3,s4,s5⟩:=unhide HX
    go_wp2_with (go_at_call 54;refine(unhide HNC _ (unhide HBA)).mono ?_;rintro r w1 ⟨rfl,hb1⟩;obtain⟨s0,s1,s2,s3,s4,s5⟩:=(unhide HX).later hb1)
    go_ret
    exact⟨by rw[unhide HR];rfl,below_step (unhide HBA) hb1⟩
   ·have hcd2:¬p.op<=17:=by omega
    have hcd3:12<=p.op:=by omega
    go_enter Tryz.func27,Tryz.ntmps27
    go_upto_region 1 with fail
    rw[<-hwa]
    clear hwa
    obtain⟨s0,s1,s2,s3,s4,s5⟩:=unhide HX
    go_wp2_with (go_at_call 54;refine(unhide HNC _ (unhide HBA)).mono ?_;rintro r w1 ⟨rfl,hb1⟩;obtain⟨s0,s1,s2,s3,s4,s5⟩:=(unhide HX).later hb1)
    go_ret
    exact⟨by rw[unhide HR];rfl,below_step (unhide HBA) hb1⟩
end Go.Proofs.YtbfibfmnemnbbaaGreat.E
set_option linter.unusedSimpArgs false
set_option linter.unusedVariables false
set_option maxHeartbeats 2000000
set_option maxRecDepth 100000
namespace Go.Proofs.YtbfibfmnemnbbaaGreat.E
open Go.RowKit Go.Sort
mutual
theorem cols_copy:∀e:Ex,colsE (copyE e)=colsE e
 | .mk op n v l=>by
  rw[copyE,colsE,colsE,cols_copyL l]
  by_cases h:(op == 1)=true
  ·rw[if_pos h,if_pos h,if_pos h]
  ·rw[if_neg h,if_neg h]
theorem cols_copyL:∀l:List Ex,colsL (copyL l)=colsL l
 | []=>by rw[copyL]
 | e::l=>by rw[copyL,colsL,colsL,cols_copy e,cols_copyL l]
end
theorem parts_good(N:Int):∀(k:Nat) (e:Ex),e.size<=k->builtE e=true->usesB e N=true->∀p∈partsE e,goodE p/\usesB p N=true:=by
 intro k
 induction k with
 | zero=>intro e hs;rw[Ex.size_mk] at hs;omega
 | succ k ih=>
  intro e hs hb hu p hp
  rw[partsE_eq] at hp
  split at hp
  ·rename_i h
   simp only[Bool.and_eq_true,beq_iff_eq] at h
   obtain⟨x,y,hxy⟩:=two_args (built_good h.2) (by rw[h.1];decide)
   rw[hxy,partsL,partsL,partsL,List.append_nil,List.mem_append] at hp
   have h0:e.args[0]?=some x:=by rw[hxy];rfl
   have h1:e.args[1]?=some y:=by rw[hxy];rfl
   have:=Ex.size_arg h0
   have:=Ex.size_arg h1
   rcases hp with hp|hp
   ·exact ih x (by omega) (built_arg hb h0) (uses_arg hu h0) p hp
   ·exact ih y (by omega) (built_arg hb h1) (uses_arg hu h1) p hp
  ·rw[List.mem_singleton] at hp
   subst hp
   have hc:copyT e=copyE e:=by unfold copyT;rw[built_ends hb];rfl
   rw[hc]
   refine⟨built_good (by rw[built_copy];exact hb),?_⟩
   unfold usesB
   rw[cols_copy]
   exact hu
theorem may1_any(h:Hd)(m:Hm)(N:Nat)(hN:h.len N)(hN64:N<=140737488355328)(p:Ex)(hg:goodE p)(hu:usesB p N=true)(a:Option Addr)(c:Nat)(B:Nat)(w:World)(ha:Ex.all w a p.args)(hh:HdAt w h m)(hB:Four w B h m) :
  Calls Tryz.prog 26 #[p.val a c,.pointer (some ⟨B,0,none⟩)] w fun r w'=>r=.returned (.bool (neverE h p))/\Below w.heap.size w w':=by
 have HB0:=hide (below_alloc (Below.refl _ w) (.cells #[.int .i64 p.op,.int .i64 p.n,.int .i64 p.v.k,.int .i64 p.v.n,.string p.v.s,.slice a p.args.length c] 28))
 have HX:=hide (never_any h m N hN hN64 p hg hu a c _ (Ex.all_later _ ha (unhide HB0)) (hh.later (unhide HB0)))
 obtain⟨u0,u1,u2,u3⟩:=hB.later (unhide HB0)
 generalize neverE h p=R at *
 rw[Ex.val_open,Hd.val_open] at HX
 rw[Ex.val_open]
 clear hN hg hu ha hh hB
 go_enter Tryz.func26,Tryz.ntmps26
 go_wp2_with (go_at_call 27;refine(unhide HX).mono ?_;rintro r w1 ⟨rfl,hb1⟩)
 go_ret
 exact⟨rfl,below_step (unhide HB0) hb1⟩
theorem ent18:Enters 26:=fun args w=>by kernel_rfl
theorem test_never(h:Hd)(m:Hm)(N:Nat)(hN:h.len N)(hN64:N<=140737488355328)(B:Nat)(W:World)(hh:HdAt W h m)(hB:Four W B h m):TestP W (.func (.func 26) #[] #[.pointer (some ⟨B,0,none⟩)]) (neverE h) (fun x=>goodE x/\usesB x N=true):=
 ⟨26,#[.pointer (some ⟨B,0,none⟩)],rfl,ent18,fun x a c W' hx hW ha=>by simpa using may1_any h m N hN hN64 x hx.1 hx.2 a c B W' ha (hh.later hW) (hB.later hW)⟩
def fitH(h:Hd)(N:Nat):Bool:=!decide (h.rows<0) && (decide (h.low.length=N) && (decide (h.high.length=N) && decide (h.nulls.length=N)))
def mayR(ks:List Int)(h:Hd)(e:Ex):Bool×Int:=if fitH h ks.length then (if kErr ks e == 0 then (decide (0<h.rows) && !(partsE e).any (neverE h),0) else (false,kErr ks e)) else (false,1)
theorem kErr_zero{ks:List Int}{e:Ex}(h:kErr ks e=0):builtE e=true/\usesB e ks.length=true:=by
 unfold kErr at h
 split at h
 ·rename_i q
  simp only[Bool.and_eq_true] at q
  exact⟨q.1.1,q.2⟩
 ·cases h
theorem may_any(ks:List Int)(hkl:ks.length<=140737488355328)(aK:Option Addr)(cK:Nat)(h:Hd)(m:Hm)(hl1:h.low.length<=140737488355328)(hl2:h.high.length<=140737488355328)(hl3:h.nulls.length<=140737488355328)(hr:In64 h.rows)(e:Ex)(hf:e.fin)(a:Option Addr)(c:Nat)(w:World)(ha:Ex.all w a e.args)(hK:IntsAt w aK ks)(hh:HdAt w h m) :
  Calls Tryz.prog 10 #[.slice aK ks.length cK,h.val m,e.val a c] w fun r w'=>r=.returned (.tuple #[.bool (mayR ks h e).1,.int .i64 (mayR ks h e).2])/\Below w.heap.size w w':=by
 have HKI:=hide (fun (W:World) (hW:Below w.heap.size w W)=>kind_any ks hkl aK cK e hf a c W (Ex.all_later _ ha hW) (hK.later hW))
 have HPA:=hide (fun (W:World) (hW:Below w.heap.size w W)=>parts_any e hf a c W (Ex.all_later _ ha hW))
 have HAT:=hide (fun (W:World) (hW:Below w.heap.size w W)=>hh.later hW)
 obtain⟨wa,hwa⟩:∃wa,wa=(w.alloc (h.box m)).alloc (e.box a c):=⟨_,rfl⟩
 have HBA:Hid (Below w.heap.size w wa):=by rw[hwa];exact below_alloc (below_alloc (Below.refl _ _) _) _
 have hs1:(w.alloc (h.box m)).heap.size=w.heap.size+1:=by simp[go_sem]
 have HH:Hid (Four wa w.heap.size h m):=by rw[hwa];exact(Four.new w h m).later (below_alloc (Below.refl _ _) _)
 have H6:Hid (Six wa (w.heap.size+1) e a c):=by
  have q:=Six.new (w.alloc (h.box m)) e a c
  rw[hs1] at q
  rw[hwa]
  exact q
 obtain⟨R,hR⟩:∃R,R=mayR ks h e:=⟨_,rfl⟩
 rw[<-hR]
 obtain⟨R1,R2⟩:=R
 have HR:=hide hR
 rw[Ex.val_open] at HKI HPA
 rw[Ex.val_open,Hd.val_open]
 unfold Ex.box Hd.box at hwa
 clear hs1 ha hK hh hR
 simp only
 by_cases hneg:h.rows<0
 ·have HRR:Hid (R1=false/\R2=1):=by
   have hq:fitH h ks.length=false:=by unfold fitH;simp[hneg]
   have q:=unhide HR
   unfold mayR at q
   rw[hq] at q
   show R1=false/\R2=1
   simpa using q
  clear HR HKI HPA HAT
  go_enter Tryz.func10,Tryz.ntmps10
  go_upto_region 2 with fail
  rw[<-hwa]
  clear hwa
  obtain⟨u0,u1,u2,u3⟩:=unhide HH
  go_wp2
  exact bodyPost_ret (v:=.tuple #[.bool false,.int .i64 1]) (by simp[results,Tryz.results10,go_sem]) rfl ⟨by rw[(unhide HRR).1,(unhide HRR).2],unhide HBA⟩
 have HBAD:Hid (¬(h.low.length=ks.length/\h.high.length=ks.length/\h.nulls.length=ks.length)->R1=false/\R2=1):=fun hn=>by
  have hq:fitH h ks.length=false:=by
   unfold fitH
   by_cases q:(!decide (h.rows<0) && (decide (h.low.length=ks.length) && (decide (h.high.length=ks.length) && decide (h.nulls.length=ks.length))))=true
   ·simp only[Bool.and_eq_true,decide_eq_true_eq] at q
    exact absurd q.2 hn
   ·simpa using q
  have q:=unhide HR
  unfold mayR at q
  rw[hq] at q
  simpa using q
 by_cases n1:h.low.length=ks.length
 ·have N1:=hide n1
  by_cases n2:h.high.length=ks.length
  ·have N2:=hide n2
   by_cases n3:h.nulls.length=ks.length
   ·have N3:=hide n3
    have hfit:fitH h ks.length=true:=by unfold fitH;simp[hneg,n1,n2,n3]
    have HR2:Hid ((R1,R2)=if kErr ks e == 0 then (decide (0<h.rows) && !(partsE e).any (neverE h),0) else (false,kErr ks e)):=by
     have q:=unhide HR
     unfold mayR at q
     rw[hfit] at q
     exact q
    have HLEN:Hid (h.len ks.length):=⟨n1,n2,n3⟩
    have HGD:Hid (kErr ks e=0->∀p∈partsE e,goodE p/\usesB p ks.length=true):=fun q=>parts_good ks.length e.size e (Nat.le_refl _) (kErr_zero q).1 (kErr_zero q).2
    have HPL:Hid (kErr ks e=0->(partsE e).length<=400):=fun q=>parts_400 (kErr_zero q).1
    obtain⟨ER,hER⟩:∃ER,ER=kErr ks e:=⟨_,rfl⟩
    rw[<-hER] at HR2 HKI HGD HPL
    clear HR HBAD n1 n2 n3 hfit hER
    go_enter Tryz.func10,Tryz.ntmps10
    go_upto_region 2 with fail
    rw[<-hwa]
    clear hwa
    obtain⟨u0,u1,u2,u3⟩:=unhide HH
    obtain⟨b0,b1,b2,b3,b4,b5⟩:=unhide H6
    have q1:((h.low.length:Nat):Int)=(ks.length:Int):=by rw[unhide N1]
    have q2:((h.high.length:Nat):Int)=(ks.length:Int):=by rw[unhide N2]
    have q3:((h.nulls.length:Nat):Int)=(ks.length:Int):=by rw[unhide N3]
    go_upto_region 5 with (go_at_call 25;refine(unhide HKI _ (unhide HBA)).mono ?_;rintro r w1 ⟨⟨kk,rfl⟩,hb1⟩)
    clear q1 q2 q3 u0 u1 u2 u3 b0 b1 b2 b3 b4 b5
    have HB1:=hide (below_step (unhide HBA) hb1)
    have HH1:=hide ((unhide HH).later hb1)
    have H61:=hide ((unhide H6).later hb1)
    obtain⟨u0,u1,u2,u3⟩:=unhide HH1
    obtain⟨b0,b1,b2,b3,b4,b5⟩:=unhide H61
    by_cases hE:ER=0
    ·have HGD2:=hide (unhide HGD hE)
     have HPL2:=hide (unhide HPL hE)
     subst hE
     by_cases hr0:h.rows=0
     ·have HRR:Hid (R1=false/\R2=0):=by
       have q:=unhide HR2
       rw[hr0] at q
       show R1=false/\R2=0
       simpa using q
      rw[hr0] at u0
      clear HR2 hr0 hneg
      go_wp2
      exact bodyPost_ret (v:=.tuple #[.bool false,.int .i64 0]) (by simp[results,Tryz.results10,go_sem]) rfl ⟨by rw[(unhide HRR).1,(unhide HRR).2],unhide HB1⟩
     ·have hrp:decide (0<h.rows)=true:=by simp;omega
      have HRR:Hid (R1=(!(partsE e).any (neverE h))/\R2=0):=by
       have q:=unhide HR2
       rw[hrp] at q
       show R1=_/\R2=0
       simpa using q
      have hr1:¬h.rows=0:=hr0
      have HPX:=hide (unhide HPA w1 (unhide HB1))
      clear HR2 hrp hr0
      go_wp2_with (first
       | (go_at_call 28;refine(unhide HCT).mono ?_;rintro r w3 ⟨rfl,hb3⟩)
       | (go_at_call 29;refine(unhide HPX).mono ?_;rintro r w2 ⟨g,cap,L,rfl,hO,hM,hK,hb2⟩;have HCT:=hide (containsP_any (.func (.func 26) #[] #[.pointer (some ⟨w.heap.size,0,none⟩)]) (neverE h) (fun x=>goodE x/\usesB x ks.length=true) (some ⟨g,0,none⟩) cap (partsE e) w2 (by have:=unhide HPL2;omega) (unhide HGD2) (by rw[<-hM];exact ownE_all hO fun q hq=>hK q hq w2 hb2 (Kept.refl _ _ _)) (test_never h m ks.length (unhide HLEN) hkl w.heap.size w2 (unhide HAT w2 (below_step (unhide HB1) hb2)) ((unhide HH1).later hb2)));rw[<-hM,List.length_map,hM] at HCT))
      exact bodyPost_ret (v:=.tuple #[.bool (!(partsE e).any (neverE h)),.int .i64 0]) (by simp[results,Tryz.results10,go_sem]) rfl ⟨by rw[(unhide HRR).1,(unhide HRR).2],below_step (unhide HB1) (below_step hb2 hb3)⟩
    ·have HRR:Hid (R1=false/\R2=ER):=by
      have q:=unhide HR2
      rw[show (ER == 0)=false by simpa using hE] at q
      show R1=false/\R2=ER
      simpa using q
     clear HR2
     go_wp2
     exact bodyPost_ret (v:=.tuple #[.bool false,.int .i64 ER]) (by simp[results,Tryz.results10,go_sem]) rfl ⟨by rw[(unhide HRR).1,(unhide HRR).2],unhide HB1⟩
   ·have HRR:=hide (unhide HBAD (fun q=>n3 q.2.2))
    have q3:¬(h.nulls.length:Int)=(ks.length:Int):=by omega
    clear n1 n2 n3
    clear HR HKI HPA HAT HBAD
    go_enter Tryz.func10,Tryz.ntmps10
    go_upto_region 2 with fail
    rw[<-hwa]
    clear hwa
    obtain⟨u0,u1,u2,u3⟩:=unhide HH
    have q1:((h.low.length:Nat):Int)=(ks.length:Int):=by rw[unhide N1]
    have q2:((h.high.length:Nat):Int)=(ks.length:Int):=by rw[unhide N2]
    go_wp2
    exact bodyPost_ret (v:=.tuple #[.bool false,.int .i64 1]) (by simp[results,Tryz.results10,go_sem]) rfl ⟨by rw[(unhide HRR).1,(unhide HRR).2],unhide HBA⟩
  ·have HRR:=hide (unhide HBAD (fun q=>n2 q.2.1))
   have q2:¬(h.high.length:Int)=(ks.length:Int):=by omega
   clear n1 n2
   clear HR HKI HPA HAT HBAD
   go_enter Tryz.func10,Tryz.ntmps10
   go_upto_region 2 with fail
   rw[<-hwa]
   clear hwa
   obtain⟨u0,u1,u2,u3⟩:=unhide HH
   have q1:((h.low.length:Nat):Int)=(ks.length:Int):=by rw[unhide N1]
   go_wp2
   exact bodyPost_ret (v:=.tuple #[.bool false,.int .i64 1]) (by simp[results,Tryz.results10,go_sem]) rfl ⟨by rw[(unhide HRR).1,(unhide HRR).2],unhide HBA⟩
 ·have HRR:=hide (unhide HBAD (fun q=>n1 q.1))
  have q1:¬(h.low.length:Int)=(ks.length:Int):=by omega
  clear n1
  clear HR HKI HPA HAT HBAD
  go_enter Tryz.func10,Tryz.ntmps10
  go_upto_region 2 with fail
  rw[<-hwa]
  clear hwa
  obtain⟨u0,u1,u2,u3⟩:=unhide HH
  go_wp2
  exact bodyPost_ret (v:=.tuple #[.bool false,.int .i64 1]) (by simp[results,Tryz.results10,go_sem]) rfl ⟨by rw[(unhide HRR).1,(unhide HRR).2],unhide HBA⟩
end Go.Proofs.YtbfibfmnemnbbaaGreat.E
set_option linter.unusedSimpArgs false
set_option linter.unusedVariables false
namespace Go.Proofs.YtbfibfmnemnbbaaGreat.E
open Go.RowKit Go.Sort
structure CovV(low high:Val)(nul:Int)(v:Val):Prop where
 n:nullB v=true->0<nul
 l:nullB v=false->nulV low=false
 o1:nullB v=false->∀c,0<ordV low c->0<ordV v c
 o2:nullB v=false->∀c,0<=ordV low c->0<=ordV v c
 o3:nullB v=false->∀c,ordV high c<0->ordV v c<0
 o4:nullB v=false->∀c,ordV high c<=0->ordV v c<=0
def Cov(h:Hd)(N:Nat)(row:List Val):Prop:=row.length=N/\∀i,i<N->CovV (h.low.getD i .null) (h.high.getD i .null) (h.nulls.getD i 0) (row.getD i .null)
theorem clean2(x:Val):cleanV (cleanV x)=cleanV x:=by
 unfold cleanV
 rcases Bool.eq_false_or_eq_true (x.k == 1) with h1|h1<;>rcases Bool.eq_false_or_eq_true (x.k == 2) with h2|h2<;>simp[h1,h2,Val.num,Val.str,Val.null]
theorem null2(x:Val):nullB (cleanV x)=nullB x:=by unfold nullB;rw[clean2]
theorem ord2(x y:Val):ordV (cleanV x) (cleanV y)=ordV x y:=by unfold ordV;rw[clean2,clean2]
theorem true2(x:Val):trueB (cleanV x)=trueB x:=by
 unfold trueB cleanV
 rcases Bool.eq_false_or_eq_true (x.k == 1) with h1|h1
 ·simp[h1,Val.num]
 ·rcases Bool.eq_false_or_eq_true (x.k == 2) with h2|h2<;>simp[h1,h2,Val.str,Val.null]
theorem six_ops{op:Int}(h1:12<=op)(h2:op<=17):op=12∨op=13∨op=14∨op=15∨op=16∨op=17:=by omega
theorem out_no{op l g o:Int}(h1:12<=op)(h2:op<=17)(h:outB op l g=true)(o1:0<l->0<o)(o2:0<=l->0<=o)(o3:g<0->o<0)(o4:g<=0->o<=0):testB op o=some false:=by
 rcases six_ops h1 h2 with rfl|rfl|rfl|rfl|rfl|rfl
 ·simp[outB] at h
  have : ¬ o = 0 := by rcases h with h | h; · have := o1 h; omega
                       · have := o3 h; omega
  simp[testB,this]
 ·simp[outB] at h
  have a:=o2 (by omega);have b:=o4 (by omega)
  have:o=0:=by omega
  simp[testB,this]
 ·simp[outB] at h
  have a:=o2 h
  simp[testB];omega
 ·simp[outB] at h
  have a:=o1 h
  simp[testB];omega
 ·simp[outB] at h
  have a:=o4 h
  simp[testB];omega
 ·simp[outB] at h
  have a:=o3 h
  simp[testB];omega
theorem turn_test{op o:Int}(h1:12<=op)(h2:op<=17):testB op (-o)=testB (turnI op) o:=by
 rcases six_ops h1 h2 with rfl|rfl|rfl|rfl|rfl|rfl
 ·have e:(-o == 0)=(o == 0):=by rw[Bool.eq_iff_iff];simp
  simp[testB,turnI,e]
 ·have e:(-o != 0)=(o != 0):=by rw[Bool.eq_iff_iff];simp
  simp[testB,turnI,e]
 ·simp[testB,turnI]
 ·simp[testB,turnI]
 ·simp[testB,turnI]
 ·simp[testB,turnI]
theorem turn_op{op:Int}(h1:12<=op)(h2:op<=17):12<=turnI op/\turnI op<=17:=by
 rcases six_ops h1 h2 with rfl|rfl|rfl|rfl|rfl|rfl<;>decide
theorem test_no{op:Int}{a b:Val}(h:nullB a=true∨nullB b=true∨testB op (ordV a b)=some false):trueB (testV op (cleanV a) (cleanV b))=false:=by
 unfold testV
 rw[null2,null2,ord2]
 rcases h with h|h|h
 ·simp[h,trueB,Val.null]
 ·simp[h,trueB,Val.null]
 ·split
  ·rfl
  ·unfold testR;rw[h];rfl
theorem col_eval{row:List Val}{N:Nat}{x:Ex}(hg:goodE x)(h1:x.op=1)(hu:usesB x N=true)(hr:row.length=N):evalE row x=cleanV (row.getD x.n.toNat .null)/\x.n.toNat<N:=by
 have hl:=sound_len (good_open hg).1
 rw[h1,show arI 1=0 by decide] at hl
 have ha:x.args=[]:=List.length_eq_zero_iff.1 (by omega)
 have hn:0<=x.n:=by
  rcases no_args hg ha with h|h
  ·exact h.2
  ·omega
 have hlt:=uses_col hu h1
 refine⟨?_,by omega⟩
 rw[evalE_eq,ha,h1,evalL]
 unfold nodeV
 rw[if_neg (by decide),if_neg (by simp;omega)]
theorem const_evalS{row:List Val}{x:Ex}(hg:goodE x)(h1:x.op=2):evalE row x=cleanV x.v:=by
 have hl:=sound_len (good_open hg).1
 rw[h1,show arI 2=0 by decide] at hl
 have ha:x.args=[]:=List.length_eq_zero_iff.1 (by omega)
 rw[evalE_eq,ha,h1,evalL]
 rfl
theorem so_sound{h:Hd}{N:Nat}{row:List Val}(hc:Cov h N row)(anti:∀a b:Val,ordV a b=- ordV b a){op:Int}(h1:12<=op)(h2:op<=17){x y:Ex}(hx:goodE x)(hy:goodE y)(hu:usesB x N=true)
  (hs:soB h op x y=true):trueB (testV op (evalE row x) (evalE row y))=false/\∀op',12<=op'->op'<=17->turnI op'=op->trueB (testV op' (evalE row y) (evalE row x))=false:=by
 unfold soB at hs
 split at hs
 ·cases hs
 rename_i hxy
 simp only[Bool.or_eq_true,bne_iff_ne,ne_eq,not_or,Classical.not_not] at hxy
 obtain⟨ex,hn⟩:=col_eval hx hxy.1 hu hc.1
 have ey:=const_evalS (row:=row) hy hxy.2
 have C:=hc.2 _ hn
 rw[ex,ey]
 generalize row.getD x.n.toNat .null=v at *
 generalize h.low.getD x.n.toNat .null=lo at *
 generalize h.high.getD x.n.toNat .null=hi at *
 have key:nullB v=true∨nullB y.v=true∨testB op (ordV v y.v)=some false:=by
  cases hv:nullB v
  case true=>exact .inl rfl
  case false=>
   refine .inr ?_
   have hl:=C.l hv
   split at hs
   ·rename_i q
    rw[hl,Bool.false_or] at q
    exact .inl q
   ·exact .inr (out_no h1 h2 hs (C.o1 hv _) (C.o2 hv _) (C.o3 hv _) (C.o4 hv _))
 refine⟨test_no key,fun op' g1 g2 ht=>test_no ?_⟩
 rcases key with k|k|k
 ·exact .inr (.inl k)
 ·exact .inl k
 ·refine .inr (.inr ?_)
  rw[anti,turn_test g1 g2,ht]
  exact k
theorem never_sound{h:Hd}{N:Nat}{row:List Val}(hc:Cov h N row)(anti:∀a b:Val,ordV a b=- ordV b a){p:Ex}(hg:goodE p)(hu:usesB p N=true)(hn:neverE h p=true):trueB (evalE row p)=false:=by
 have colv:∀{q:Ex},goodE q->usesB q N=true->nulcol q=true->∃v,row.getD (colOf q) .null=v/\CovV (h.low.getD (colOf q) .null) (h.high.getD (colOf q) .null) (h.nulls.getD (colOf q) 0) v/\evalE row q=(if nullB v then .num 1 else .num 0):=by
  intro q gq uq nq
  obtain⟨q5,qa⟩:=nulcol_yes nq
  obtain⟨x,hx⟩:=one_argM (arity_one gq (.inl q5))
  have h0:q.args[0]?=some x:=by rw[hx];rfl
  rw[hx] at qa
  obtain⟨ex,hlt⟩:=col_eval (good_arg gq h0) qa (uses_arg uq h0) hc.1
  have ec:colOf q=x.n.toNat:=by unfold colOf;rw[hx];rfl
  refine⟨_,rfl,by rw[ec];exact hc.2 _ hlt,?_⟩
  rw[evalE_eq,hx,q5,evalL,evalL,ex,ec]
  rfl
 unfold neverE at hn
 split at hn
 ·rename_i h2
  rw[const_evalS hg (by simpa using h2),true2]
  simpa using hn
 split at hn
 ·rename_i hnc
  obtain⟨v,_,C,e⟩:=colv hg hu hnc
  rw[e]
  cases hv:nullB v
  case true=>have:=C.n hv;have hn2:=of_decide_eq_true hn;omega
  case false=>rfl
 split at hn
 ·rename_i h4
  simp only[Bool.and_eq_true,beq_iff_eq] at h4
  obtain⟨x,hx⟩:=one_argM (arity_one hg (.inr h4.1))
  have h0:p.args[0]?=some x:=by rw[hx];rfl
  have hd:p.args.headD zeroE'=x:=by rw[hx];rfl
  rw[hd] at h4 hn
  obtain⟨v,_,C,e⟩:=colv (good_arg hg h0) (uses_arg hu h0) h4.2
  rw[evalE_eq,hx,h4.1,evalL,evalL,e]
  cases hv:nullB v
  case true=>rfl
  case false=>rw[C.l hv] at hn;cases hn
 split at hn
 ·rename_i h12
  simp only[Bool.and_eq_true,decide_eq_true_eq] at h12
  obtain⟨x,y,hxy⟩:=two_argsM (arity_two hg h12.1 h12.2)
  have h0:p.args[0]?=some x:=by rw[hxy];rfl
  have h1:p.args[1]?=some y:=by rw[hxy];rfl
  rw[hxy] at hn
  have ee:evalE row p=testV p.op (evalE row x) (evalE row y):=by
   rw[evalE_eq,hxy,evalL,evalL,evalL]
   show twoV _ _ _=_
   unfold twoV
   rw[if_neg (by simp;omega),if_pos (by simp;omega)]
  rw[ee]
  unfold neverSo at hn
  split at hn
  ·obtain⟨t1,t2⟩:=turn_op h12.1 h12.2
   exact(so_sound hc anti t1 t2 (good_arg hg h1) (good_arg hg h0) (uses_arg hu h1) hn).2 _ h12.1 h12.2 rfl
  ·exact(so_sound hc anti h12.1 h12.2 (good_arg hg h0) (good_arg hg h1) (uses_arg hu h0) hn).1
 ·cases hn
theorem may_sound{ks:List Int}{h:Hd}{e:Ex}{row:List Val}(anti:∀a b:Val,ordV a b=- ordV b a)(hc:Cov h ks.length row)(hr:0<h.rows)(hm:mayR ks h e=(false,0)):trueB (evalB row e)=false:=by
 unfold mayR at hm
 split at hm
 ·split at hm
  ·rename_i hk
   obtain⟨hb,hu⟩:=kErr_zero (by simpa using hk)
   simp only[Prod.mk.injEq,and_true,Bool.and_eq_false_iff,decide_eq_false_iff_not,Bool.not_eq_false',List.any_eq_true] at hm
   rcases hm with hm|⟨p,hp,hn⟩
   ·exact absurd hr hm
   ·obtain⟨gp,up⟩:=parts_good ks.length e.size e (Nat.le_refl _) hb hu p hp
    have hf:=never_sound hc anti gp up hn
    rw[<-parts_true row e]
    rw[Bool.eq_false_iff]
    intro ha
    have:=List.all_eq_true.1 ha p hp
    unfold evalB at this
    split at this
    ·rw[hf] at this;cases this
    ·exact absurd this (by decide)
  ·rename_i hk
   simp only[Prod.mk.injEq,true_and] at hm
   simp[hm] at hk
 ·simp at hm
end Go.Proofs.YtbfibfmnemnbbaaGreat.E
