import Derived.Test.YtbfibfmnemnbbaaGreatVecF
import Derived.Laws.OwnMore
import Derived.Test.YtbfibfmnemnbbaaGreatPackB
import Derived.Test.YtbfibfmnemnbbaaGreatEExA
set_option linter.unusedSimpArgs false
set_option linter.unusedVariables false
set_option maxRecDepth 100000
namespace Go.Proofs.YtbfibfmnemnbbaaGreat
open Go.RowKit Go.Sort
theorem own_slice{w:World}{base e size n:Nat}{S:Value}{xs:List Value}(h:w.ownsRow base e size S n xs):∃a c,S=.slice a n c:=by
 rcases h.2 with ⟨e,h0⟩|⟨g,cap,cur,he,_⟩
 ·rw[<-h0] at e;exact⟨_,_,e⟩
 ·exact⟨_,_,he⟩
def AppOk(st t sz:Nat):Prop:=∀(w:World) (base n m c:Nat) (S:Value) (xs ys:List Value) (ty:TypeId) (a:Addr),w.ownsRow base t sz S n xs->ys.length=m*sz->(∀j u,ys[j]?=some u->w.cell? (a.add j)=some u)->(∀u∈ys,u.oneCell'=true)->n+m<=4194304->0<m->base<=w.heap.size->∃S' w',(Builtin.append_ #[st,st] ty #[S,.slice (some a) m c]).run Tryz.prog w=.ok S' w'/\w'.ownsRow base t sz S' (n+m) (xs++ys)/\((∃g cap,S=.slice (some ⟨g,0,none⟩) n cap/\S'=.slice (some ⟨g,0,none⟩) (n+m) cap/\w.grownBy w' (some g))∨((∀g,S'.ownBlock=some g->w.heap.size<=g)/\Below w.heap.size w w'))
theorem app_okB:AppOk 52 4 1:=by
 intro w base n m c S xs ys ty a ho hyl hc hone hl hm0 hb
 obtain⟨i2,hi2,z20,z21,z22⟩:=info_parts Tryz.info4
 obtain⟨S',w',hr,h2,h3,_,h5⟩:=run_append_own_at (P:=Tryz.prog) (w:=w) base 52 ty 4 i2 (.bool false) 1 1 Tryz.underlying52 hi2 z20 z21 z22 rfl (by decide) S n xs ho a m c ys hyl hc hone (by unfold maxLen;omega) (by omega) hb
 refine⟨S',w',hr,h2,?_⟩
 have hnew:∀v'' w'',(Builtin.append_ #[52,52] ty #[S,.slice (some a) m c]).run Tryz.prog w=.ok v'' w''->v''.ownBlock=some w.heap.size->Below w.heap.size w w''->(∀g,S'.ownBlock=some g->w.heap.size<=g)/\Below w.heap.size w w':=fun v'' w'' hr2 hv hbl=>by
  rw[hr] at hr2
  injection hr2 with e1 e2
  subst e1 e2
  exact⟨fun g hg=>by rw[hv] at hg;injection hg with hg;omega,hbl⟩
 rcases id ho.2 with ⟨e,h0⟩|⟨g,cap,cur,e,hbg,hg,hnc,hcm,hcs,htake⟩
 ·right
  subst e
  have hr2:=run_append_nil (P:=Tryz.prog) w 52 ty 4 i2 _ Tryz.underlying52 hi2 z20 a m c ys (by rw[z21];exact hyl) hc hm0 (by omega) (by rw[z22];omega)
  exact hnew _ _ hr2 rfl (below_alloc (Below.refl _ _).drew _)
 ·by_cases hroom:n+m<=cap
  ·left
   subst e
   obtain⟨w2,hr2,_,hg2⟩:=run_append_fits (P:=Tryz.prog) w base 52 ty 4 i2 1 Tryz.underlying52 hi2 z21 g n cap xs ho a m c ys hyl hc hone hroom
   rw[hr] at hr2
   injection hr2 with e1 e2
   subst e1 e2
   exact⟨g,cap,rfl,rfl,hg2⟩
  ·right
   subst e
   have holds:=ho.cells (g:=g) rfl
   have hr2:=run_append_grow (P:=Tryz.prog) w 52 ty 4 i2 _ Tryz.underlying52 hi2 z20 ⟨g,0,none⟩ n cap xs (by rw[z21];exact ho.1) holds a m c ys (by rw[z21];exact hyl) hc (by omega) (by omega) (growslice_fits (by omega) (by rw[z22];omega))
   exact hnew _ _ hr2 rfl (below_alloc (Below.refl _ _).drew _)
theorem app_okI:AppOk 22 3 1:=by
 intro w base n m c S xs ys ty a ho hyl hc hone hl hm0 hb
 obtain⟨i2,hi2,z20,z21,z22⟩:=info_parts Tryz.info3
 obtain⟨S',w',hr,h2,h3,_,h5⟩:=run_append_own_at (P:=Tryz.prog) (w:=w) base 22 ty 3 i2 (.int .i64 0) 1 8 Tryz.underlying22 hi2 z20 z21 z22 rfl (by decide) S n xs ho a m c ys hyl hc hone (by unfold maxLen;omega) (by omega) hb
 refine⟨S',w',hr,h2,?_⟩
 have hnew:∀v'' w'',(Builtin.append_ #[22,22] ty #[S,.slice (some a) m c]).run Tryz.prog w=.ok v'' w''->v''.ownBlock=some w.heap.size->Below w.heap.size w w''->(∀g,S'.ownBlock=some g->w.heap.size<=g)/\Below w.heap.size w w':=fun v'' w'' hr2 hv hbl=>by
  rw[hr] at hr2
  injection hr2 with e1 e2
  subst e1 e2
  exact⟨fun g hg=>by rw[hv] at hg;injection hg with hg;omega,hbl⟩
 rcases id ho.2 with ⟨e,h0⟩|⟨g,cap,cur,e,hbg,hg,hnc,hcm,hcs,htake⟩
 ·right
  subst e
  have hr2:=run_append_nil (P:=Tryz.prog) w 22 ty 3 i2 _ Tryz.underlying22 hi2 z20 a m c ys (by rw[z21];exact hyl) hc hm0 (by omega) (by rw[z22];omega)
  exact hnew _ _ hr2 rfl (below_alloc (Below.refl _ _).drew _)
 ·by_cases hroom:n+m<=cap
  ·left
   subst e
   obtain⟨w2,hr2,_,hg2⟩:=run_append_fits (P:=Tryz.prog) w base 22 ty 3 i2 1 Tryz.underlying22 hi2 z21 g n cap xs ho a m c ys hyl hc hone hroom
   rw[hr] at hr2
   injection hr2 with e1 e2
   subst e1 e2
   exact⟨g,cap,rfl,rfl,hg2⟩
  ·right
   subst e
   have holds:=ho.cells (g:=g) rfl
   have hr2:=run_append_grow (P:=Tryz.prog) w 22 ty 3 i2 _ Tryz.underlying22 hi2 z20 ⟨g,0,none⟩ n cap xs (by rw[z21];exact ho.1) holds a m c ys (by rw[z21];exact hyl) hc (by omega) (by omega) (growslice_fits (by omega) (by rw[z22];omega))
   exact hnew _ _ hr2 rfl (below_alloc (Below.refl _ _).drew _)
theorem app_okV:AppOk 36 25 3:=by
 intro w base n m c S xs ys ty a ho hyl hc hone hl hm0 hb
 obtain⟨i2,hi2,z20,z21,z22⟩:=info_parts Tryz.info25
 obtain⟨S',w',hr,h2,h3,_,h5⟩:=run_append_own_at (P:=Tryz.prog) (w:=w) base 36 ty 25 i2 (.agg #[.int .i64 0,.int .i64 0,.string ⟨#[]⟩]) 3 32 Tryz.underlying36 hi2 z20 z21 z22 rfl (by decide) S n xs ho a m c ys hyl hc hone (by unfold maxLen;omega) (by omega) hb
 refine⟨S',w',hr,h2,?_⟩
 have hnew:∀v'' w'',(Builtin.append_ #[36,36] ty #[S,.slice (some a) m c]).run Tryz.prog w=.ok v'' w''->v''.ownBlock=some w.heap.size->Below w.heap.size w w''->(∀g,S'.ownBlock=some g->w.heap.size<=g)/\Below w.heap.size w w':=fun v'' w'' hr2 hv hbl=>by
  rw[hr] at hr2
  injection hr2 with e1 e2
  subst e1 e2
  exact⟨fun g hg=>by rw[hv] at hg;injection hg with hg;omega,hbl⟩
 rcases id ho.2 with ⟨e,h0⟩|⟨g,cap,cur,e,hbg,hg,hnc,hcm,hcs,htake⟩
 ·right
  subst e
  have hr2:=run_append_nil (P:=Tryz.prog) w 36 ty 25 i2 _ Tryz.underlying36 hi2 z20 a m c ys (by rw[z21];exact hyl) hc hm0 (by omega) (by rw[z22];omega)
  exact hnew _ _ hr2 rfl (below_alloc (Below.refl _ _).drew _)
 ·by_cases hroom:n+m<=cap
  ·left
   subst e
   obtain⟨w2,hr2,_,hg2⟩:=run_append_fits (P:=Tryz.prog) w base 36 ty 25 i2 3 Tryz.underlying36 hi2 z21 g n cap xs ho a m c ys hyl hc hone hroom
   rw[hr] at hr2
   injection hr2 with e1 e2
   subst e1 e2
   exact⟨g,cap,rfl,rfl,hg2⟩
  ·right
   subst e
   have holds:=ho.cells (g:=g) rfl
   have hr2:=run_append_grow (P:=Tryz.prog) w 36 ty 25 i2 _ Tryz.underlying36 hi2 z20 ⟨g,0,none⟩ n cap xs (by rw[z21];exact ho.1) holds a m c ys (by rw[z21];exact hyl) hc (by omega) (by omega) (growslice_fits (by omega) (by rw[z22];omega))
   exact hnew _ _ hr2 rfl (below_alloc (Below.refl _ _).drew _)
variable {t sz st n N m c:Nat}{w wr w':World}{S T:Value}
theorem wp_app_run{o:Oper}{a:Act}{w:World}{K:Act->World->Prop}{Q:Exit->Act->World->Prop}(d x:Operand)(st:TypeId)(hop:o.op=Op.call { callee:=Callee.builtin Builtin.append,args:=#[d,x],argTypes:=#[st,st] })
  (s u:Value) (hd:a.eval d=s) (hx:a.eval x=u) {v':Value} {w':World} (hr:(Builtin.append_ #[st,st] o.type #[s,u]).run Tryz.prog w=.ok v' w') (h:K (a.put o.dst v') w'):o.wp Tryz.prog a w K Q:=by
 unfold Oper.wp execOp
 simp only[hop,resolve,invoke,builtin,Sem.run_bind,Sem.run_pure,Result.andThen_ok,List.map_toArray,List.map_cons,List.map_nil,hd,hx,hr]
 exact h
theorem wpList_app_run{ops:Array Oper}{rest:List Oper}{o:Oper}{a:Act}{w:World}{Q:Exit->Act->World->Prop}(hgd:o.guard=none)(d x:Operand)(st:TypeId)(hop:o.op=Op.call { callee:=Callee.builtin Builtin.append,args:=#[d,x],argTypes:=#[st,st] })
  (s u:Value) (hd:a.eval d=s) (hx:a.eval x=u) {v':Value} {w':World} (hr:(Builtin.append_ #[st,st] o.type #[s,u]).run Tryz.prog w=.ok v' w') (h:wpList Tryz.prog ops Q rest (a.put o.dst v') w'):wpList Tryz.prog ops Q (o::rest) a w:=
 wpList_plain hgd fun _ hK=>wp_app_run d x st hop s u hd hx hr (hK _ _ h)
end Go.Proofs.YtbfibfmnemnbbaaGreat
set_option linter.unusedSimpArgs false
set_option linter.unusedVariables false
set_option maxHeartbeats 2000000
set_option maxRecDepth 100000
namespace Go.Proofs.YtbfibfmnemnbbaaGreat
open Go.RowKit Go.Sort
theorem app_own{st t sz:Nat}(hA:AppOk st t sz){w0 w:World}{S:Value}{n m c:Nat}{xs ys:List Value}(ty:TypeId)(a:Addr)(ho:w.ownsRow w0.heap.size t sz S n xs)(hb:Below w0.heap.size w0 w)(hyl:ys.length=m*sz)(hc:∀j u,ys[j]?=some u->w.cell? (a.add j)=some u)(hone:∀u∈ys,u.oneCell'=true)(hl:n+m<=4194304)(hm0:0<m) :
  ∃a' c' w',(Builtin.append_ #[st,st] ty #[S,.slice (some a) m c]).run Tryz.prog w=.ok (.slice a' (n+m) c') w'/\w'.ownsRow w0.heap.size t sz (.slice a' (n+m) c') (n+m) (xs++ys)/\Below w0.heap.size w0 w':=by
 obtain⟨S',w',hr,h2,h3⟩:=hA w w0.heap.size n m c S xs ys ty a ho hyl hc hone hl hm0 hb.size
 obtain⟨a',c',rfl⟩:=own_slice h2
 refine⟨a',c',w',hr,h2,?_⟩
 rcases h3 with ⟨g,cap,rfl,_,hg⟩|⟨_,hb2⟩
 ·exact hb.trans (grown_below hg hb.size (fun q e=>by cases e;exact(World.ownsRow.lt ho _ rfl).1))
 ·exact below_step hb hb2
def KcA(xs:List Val)(w:World)(e:Ending)(w':World):Prop:=∃a' c',e=.returned (.slice a' xs.length c')/\RowAt w' a' (xs.map cleanV)/\Below w.heap.size w w'
theorem kclean_any(a:Option Addr)(c:Nat)(xs:List Val)(w:World)(hl:xs.length<=4194000)(ha:RowAt w a xs) :
  Calls Tryz.prog 8 #[.slice a xs.length c] w (KcA xs w):=by
 go_enter Tryz.func8,Tryz.ntmps8
 go_wp2_with fail
 go_loopw[3,8] (fun v i wr=>∃(k:Nat) (a3:Option Addr) (c3':Nat),k<=xs.length/\i=.int .i64 (k:Int)/\v=.slice a3 k c3'/\Hid (wr.ownsRow w.heap.size 25 3 (.slice a3 k c3') k (((xs.take k).map cleanV).flatMap c3))/\Hid (Below w.heap.size w wr)) (fun _ i wx=>xs.length-(intOf i).toNat)
 case atStart=>exact⟨0,none,0,Nat.zero_le _,rfl,rfl,own_none,Below.refl _ _⟩
 case round=>
  obtain⟨k,a3,c3',hk1,rfl,rfl,HO,HB⟩:=hrel
  by_cases h1:k<xs.length
  ·obtain⟨x,hx⟩:∃x,xs[k]?=some x:=⟨_,List.getElem?_eq_getElem h1⟩
   rcases ha.later (unhide HB) with e|⟨ba,oa,rfl,hca⟩
   ·subst e;simp at h1
   obtain⟨c0,c1,c2⟩:=hca k x hx
   have i1:(k:Int)<(xs.length:Int):=by omega
   have HT:Hid (((xs.take (k+1)).map cleanV).flatMap c3=((xs.take k).map cleanV).flatMap c3++c3 (cleanV x)):=by
    show _=_
    obtain⟨h1,rfl⟩:=List.getElem?_eq_some_iff.1 hx
    rw[List.take_succ_eq_append_getElem h1,List.map_append,List.flatMap_append];simp
   have HC:=hide (clean_any x)
   generalize cleanV x=cx at *
   generalize ((xs.take k).map cleanV).flatMap c3=zs at *
   have HBW:=hide (below_alloc (unhide HB) (.cells #[.int .i64 x.k,.int .i64 x.n,.string x.s] 25))
   have HB1:=hide (below_alloc (Below.refl _ wr) (.cells #[.int .i64 x.k,.int .i64 x.n,.string x.s] 25))
   clear hca hx ha
   rw[x.open_] at HC
   go_wp2_with (first
    | (go_at_call 23; refine (unhide HC _).mono ?_; rintro e w1 ⟨rfl, hb1⟩; rw [cx.open_]
       have hb2 := below_step (unhide HBW) hb1
       have hb3 := below_alloc hb2 (.cells #[.int .i64 cx.k, .int .i64 cx.n, .string cx.s] 25)
       have ho1 : (w1.alloc (.cells #[.int .i64 cx.k, .int .i64 cx.n, .string cx.s] 25)).ownsRow w.heap.size 25 3 (.slice a3 k c3') k zs := own_later (own_later (unhide HO) (below_step (unhide HB1) hb1)) (below_alloc (Below.refl _ _) _)
       obtain ⟨a', c', w2, hrun, ho2, hb4⟩ := app_own app_okV (m := 1) (c := 1) (ys := c3 cx) 36 ⟨w1.heap.size, 0, none⟩ ho1 hb3 rfl (by
          intro j u hj
          match j, hj with
          | 0, hj => simp [c3] at hj; subst hj; simp [Addr.add, go_sem]
          | 1, hj => simp [c3] at hj; subst hj; simp [Addr.add, go_sem]
          | 2, hj => simp [c3] at hj; subst hj; simp [Addr.add, go_sem]
          | j + 3, hj => simp [c3] at hj) (by intro u hu; simp [c3] at hu; rcases hu with rfl | rfl | rfl <;> rfl) (by omega) (by omega)
       have HRUN := hide hrun
       have HO2 := hide ho2
       have HB4 := hide hb4
       clear hrun ho2 hb4 ho1 hb3 hb2)
    | (at_builtin;refine wpList_app_run rfl (.tmp 12) (.tmp 15) 36 rfl _ _ rfl rfl (unhide HRUN) ?_))
   rw[<-unhide HT] at HO2
   go_roundw
   case rel=>exact⟨k+1,a',c',by omega,by go_num,rfl,unhide HO2,unhide HB4⟩
   case measure=>simp[intOf];omega
  ·have i1:¬(k:Int)<(xs.length:Int):=by omega
   obtain rfl:k=xs.length:=by omega
   rw[List.take_length] at HO
   clear hk1 h1
   go_wp2
   go_ret
   have h:OwnV wr w.heap.size (.slice a3 xs.length c3') (xs.map cleanV):=by unfold OwnV;rw[List.length_map];exact unhide HO
   obtain⟨a',c',e1,hr⟩:=ownV_row h
   rw[List.length_map] at e1
   injection e1 with e1 _ e2
   subst e1
   exact⟨a3,c3',rfl,hr,unhide HB⟩
end Go.Proofs.YtbfibfmnemnbbaaGreat
set_option linter.unusedSimpArgs false
set_option linter.unusedVariables false
set_option maxHeartbeats 8000000
set_option maxRecDepth 100000
namespace Go.Proofs.YtbfibfmnemnbbaaGreat
open Go.RowKit Go.Sort
theorem iota_snoc(k:Nat):((List.range (k+1)).map fun (i:Nat)=>Value.int .i64 (i:Int))=((List.range k).map fun (i:Nat)=>Value.int .i64 (i:Int))++[.int .i64 (k:Int)]:=by
 rw[List.range_succ,List.map_append];rfl
theorem RowsAt.get{w:World}{a:Option Addr}{rs:List (List Val)}{i:Nat}{r:List Val}(h:RowsAt w a rs)(hr:rs[i]?=some r):∃b off ra rc,a=some ⟨b,off,none⟩/\w.cell? ⟨b,off+i,none⟩=some (.slice ra r.length rc)/\RowAt w ra r:=by
 rcases h with h|⟨b,off,rfl,h⟩
 ·rw[h] at hr;simp at hr
 ·obtain⟨ra,rc,h1,h2⟩:=h i r hr
  exact⟨b,off,ra,rc,rfl,h1,h2⟩
theorem law_walk(ks:List Int)(aK:Option Addr)(cK:Nat)(rs:List (List Val))(aR:Option Addr)(cR:Nat)(e:E.Ex)(a:Option Addr)(c:Nat)(w:World)(hR:RowsAt w aR rs)
  (OKS:ByteArray->Prop) (HD:(Option Addr×Nat)->(Option Addr×Nat)->(Option Addr×Nat)->World->Prop) (ev:List Val->E.Val)
  (K4:∀W,Below w.heap.size w W->Calls Tryz.prog 4 #[.slice aK ks.length cK,.slice aR rs.length cR] W fun r w'=>∃s er,r=.returned (.tuple #[.string s,.int .i64 er])/\Hid ((er≠0/\s=⟨#[]⟩)∨(er=0/\OKS s))/\Below W.heap.size W w')
  (K4':∀W b,W.cell? ⟨b,0,none⟩=some (.int .i64 1)->Calls Tryz.prog 4 #[.slice (some ⟨b,0,none⟩) 1 1,.slice none 0 0] W fun r w'=>∃t,r=.returned (.tuple #[.string t,.int .i64 0])/\Below W.heap.size W w')
  (hS:∀s,OKS s->ks.length<=32/\rs.length<=4096/\∀r∈rs,r.length<=32)
  (K5:∀s,OKS s->∀W a5 c5,Below w.heap.size w W->LisAt W a5 ((List.range ks.length).map fun (i:Nat)=>Value.int .i64 (i:Int))->Calls Tryz.prog 5 #[.string s,.slice a5 ks.length c5] W fun r w'=>∃al cl,r=.returned (.tuple #[.slice al rs.length cl,.int .i64 0])/\RowsAt w' al (rs.map fun r=>r.map cleanV)/\Below W.heap.size W w')
  (K6:∀s,OKS s->∀W,Calls Tryz.prog 6 #[.string s] W fun r w'=>r=.returned (.int .i64 0)/\Below W.heap.size W w')
  (K7:∀W a7 b7 c7 d7 (xs:List Val) (n:Nat),xs.length=n->n<=32->RowAt W a7 xs->RowAt W b7 xs->Calls Tryz.prog 7 #[.slice a7 n c7,.slice b7 n d7] W fun r w'=>r=.returned (.bool true)/\Below W.heap.size W w')
  (K9:∀s,OKS s->∀W,Calls Tryz.prog 9 #[.string s] W fun r w'=>∃p q o,r=.returned (.tuple #[.agg #[.int .i64 (rs.length:Int),.slice p.1 ks.length p.2,.slice q.1 ks.length q.2,.slice o.1 ks.length o.2],.int .i64 0])/\HD p q o w'/\Below W.heap.size W w')
  (K10:∀s,OKS s->∀p q o W0 W,HD p q o W0->Below w.heap.size w W0->Below W0.heap.size W0 W->Calls Tryz.prog 10 #[.slice aK ks.length cK,.agg #[.int .i64 (rs.length:Int),.slice p.1 ks.length p.2,.slice q.1 ks.length q.2,.slice o.1 ks.length o.2],e.val a c] W fun r w'=>∃m g,r=.returned (.tuple #[.bool m,.int .i64 g])/\Hid (g=0->m=false->∀r∈rs,E.trueB (ev r)=false)/\Below W.heap.size W w')
  (K12:∀W r ra rc,Below w.heap.size w W->r∈rs->RowAt W ra r->Calls Tryz.prog 12 #[e.val a c,.slice ra r.length rc] W fun x w'=>x=.returned (ev r).v/\Below W.heap.size W w') :
  Calls Tryz.prog 3 #[.slice aK ks.length cK,.slice aR rs.length cR,e.val a c] w fun r w'=>r=.returned (.bool true)/\Below w.heap.size w w':=by
 have hBa:=below_alloc (Below.refl _ w) (.cells #[.int .i64 e.op,.int .i64 e.n,.int .i64 e.v.k,.int .i64 e.v.n,.string e.v.s,.slice a e.args.length c] 28)
 have H6:Hid (E.Six (w.alloc (.cells #[.int .i64 e.op,.int .i64 e.n,.int .i64 e.v.k,.int .i64 e.v.n,.string e.v.s,.slice a e.args.length c] 28)) w.heap.size e a c):=E.Six.new w e a c
 have HR:=hide (fun (W:World) (hW:Below w.heap.size w W)=>hR.later hW)
 have H4:=hide K4
 have H4':=hide K4'
 have H5:=hide K5
 have HK6:=hide K6
 have HK7:=hide K7
 have H9:=hide K9
 have H10:=hide K10
 have H12:=hide K12
 have HSS:=hide hS
 have H8:=hide kclean_any
 have H11:=hide E.true_any
 clear K4 K4' K5 K6 K7 K9 K10 K12 hS hR
 rw[E.Ex.val_open] at H10 H12 ⊢
 go_enter Tryz.func3,Tryz.ntmps3
 go_upto_region 1 with fail
 obtain⟨wa,hwa⟩:∃wa,wa=w.alloc (.cells #[.int .i64 e.op,.int .i64 e.n,.int .i64 e.v.k,.int .i64 e.v.n,.string e.v.s,.slice a e.args.length c] 28):=⟨_,rfl⟩
 rw[<-hwa] at hBa H6 ⊢
 clear hwa
 have HBA:=hide hBa
 clear hBa
 go_upto_region 2 with (go_at_call 4;refine(unhide H4 _ (unhide HBA)).mono ?_;rintro _ w1 ⟨s,er,rfl,HS,hb1⟩)
 have HB1:=hide (below_step (unhide HBA) hb1)
 have H61:=hide ((unhide H6).later hb1)
 clear hb1 H6 HBA H4
 rcases unhide HS with ⟨hn,rfl⟩|⟨rfl,hOK⟩
 ·have hne:(er != 0)=true:=by simpa using hn
  clear hn HS
  have HC:=hide (show (w1.alloc (.cells #[.int .i64 1] 3)).cell? ⟨w1.heap.size,0,none⟩=some (.int .i64 1) by simp[go_sem])
  have HBX:=hide (below_alloc (unhide HB1) (.cells #[.int .i64 1] 3))
  go_wp2_with (go_at_call 4;refine(unhide H4' _ _ (unhide HC)).mono ?_;rintro _ w2 ⟨t,rfl,hb2⟩)
  go_ret
  exact⟨rfl,below_step (unhide HBX) hb2⟩
 obtain⟨hk32,hr4,hr32⟩:=unhide HSS s hOK
 have HOK:=hide hOK
 have HR32:=hide hr32
 clear HS hOK hr32 HSS H4'
 go_wp2_with fail
 go_loopw[11,41] (fun v i wr=>∃(k:Nat) (a5:Option Addr) (c5:Nat),k<=ks.length/\i=.int .i64 (k:Int)/\v=.slice a5 k c5/\Hid (wr.ownsRow w1.heap.size 3 1 (.slice a5 k c5) k ((List.range k).map fun (i:Nat)=>Value.int .i64 (i:Int)))/\Hid (Below w1.heap.size w1 wr)) (fun _ i _=>ks.length-(intOf i).toNat)
 case atStart=>exact⟨0,none,0,Nat.zero_le _,rfl,rfl,own_none,Below.refl _ _⟩
 case round=>
  obtain⟨k,a5,c5,hk,rfl,rfl,HO,HB⟩:=hrel
  by_cases h1:k<ks.length
  ·have i1:(k:Int)<(ks.length:Int):=by omega
   have hb3:=below_alloc (unhide HB) (.cells #[.int .i64 (k:Int)] 3)
   have ho1:=own_later (unhide HO) (below_alloc (Below.refl _ wr) (.cells #[.int .i64 (k:Int)] 3))
   obtain⟨a',c',w2,hrun,ho2,hb4⟩:=app_own app_okI (m:=1) (c:=1) (ys:=[.int .i64 (k:Int)]) 22 ⟨wr.heap.size,0,none⟩ ho1 hb3 rfl (by
    intro j u hj
    match j,hj with
    | 0,hj=>simp at hj;subst hj;simp[Addr.add,go_sem]
    | j+1,hj=>simp at hj) (by intro u hu;simp at hu;subst hu;rfl) (by omega) (by omega)
   rw[<-iota_snoc] at ho2
   have HRUN:=hide hrun
   have HO2:=hide ho2
   have HB4:=hide hb4
   clear hrun ho2 hb4 ho1 hb3
   go_wp2_with (at_builtin;refine wpList_app_run rfl (.tmp 44) (.tmp 46) 22 rfl _ _ rfl rfl (unhide HRUN) ?_)
   go_roundw
   case rel=>exact⟨k+1,a',c',by omega,by go_num,rfl,unhide HO2,unhide HB4⟩
   case measure=>simp[intOf];omega
  ·have i1:¬(k:Int)<(ks.length:Int):=by omega
   obtain rfl:k=ks.length:=by omega
   obtain⟨a6,c6,e6,hl6,_⟩:=lis_of_own (unhide HO)
   injection e6 with e6 _ e7
   subst e6 e7
   have HL6:=hide hl6
   have HB5:=hide (below_step (unhide HB1) (unhide HB))
   have H62:=hide ((unhide H61).later (unhide HB))
   clear hl6 hk h1 HO HB
   go_upto_region 12 with (go_at_call 5;refine(unhide H5 s (unhide HOK) _ _ _ (unhide HB5) (unhide HL6)).mono ?_;rintro _ w2 ⟨al,cl,rfl,hl,hb2⟩)
   have HBR:=hide (below_step (unhide HB5) hb2)
   have HLL:=hide hl
   have H63:=hide ((unhide H62).later hb2)
   clear hl hb2 HL6 HB5 H62 H5
   go_wp2_with (go_at_call 6;refine(unhide HK6 s (unhide HOK) _).mono ?_;rintro _ w3 ⟨rfl,hb3⟩)
   have HB3:=hide (below_step (unhide HBR) hb3)
   have HL3:=hide ((unhide HLL).later hb3)
   have H64:=hide ((unhide H63).later hb3)
   clear hb3 HLL H63 HBR HK6
   go_loopw[71] (fun i wr=>∃(k:Nat),k<=rs.length/\i=.int .i64 (k:Int)/\Hid (Below w3.heap.size w3 wr)) (fun i _=>rs.length-(intOf i).toNat)
   case atStart=>exact⟨0,Nat.zero_le _,rfl,Below.refl _ _⟩
   case round=>
    obtain⟨k,hk,rfl,HB⟩:=hrel
    by_cases h1:k<rs.length
    ·have i1:(k:Int)<(rs.length:Int):=by omega
     obtain⟨r,hr⟩:∃r,rs[k]?=some r:=⟨_,List.getElem?_eq_getElem h1⟩
     have hq:(rs.map fun r=>r.map cleanV)[k]?=some (r.map cleanV):=by rw[List.getElem?_map,hr];rfl
     obtain⟨bl,ol,la,lc,rfl,cl0,hrl⟩:=((unhide HL3).later (unhide HB)).get hq
     obtain⟨br,oo,ra,rc,rfl,cr0,hrr⟩:=(unhide HR _ (below_step (unhide HB3) (unhide HB))).get hr
     rw[List.length_map] at cl0
     have hrn:=unhide HR32 r (List.mem_of_getElem? hr)
     have HRL:=hide hrl
     have HRR:=hide hrr
     have HBK:=hide (unhide HB)
     clear hq hr hrl hrr HB
     go_upto_region 17 with fail
     have dw:Below wr.heap.size wr wr.drew:=(Below.refl _ _).drew
     have S1:wr.drew.cell? ⟨bl,ol+k,none⟩=some (.slice la r.length lc)/\wr.drew.cell? ⟨br,oo+k,none⟩=some (.slice ra r.length rc):=⟨cell_later dw cl0,cell_later dw cr0⟩
     have HDW:=hide dw
     clear dw cl0 cr0
     go_region_held3 (fun W=>W.cell? ⟨bl,ol+k,none⟩=some (.slice la r.length lc)/\W.cell? ⟨br,oo+k,none⟩=some (.slice ra r.length rc)) (first|assumption|go_keep)
      (first
       | (go_at_call 8; refine (unhide H8 ra rc r _ (by omega) ((unhide HRR).later (unhide HDW))).mono ?_; rintro _ w4 ⟨a8, c8, rfl, hr8, hb8⟩
          have S2 : w4.cell? ⟨bl, ol + k, none⟩ = some (.slice la r.length lc) ∧ w4.cell? ⟨br, oo + k, none⟩ = some (.slice ra r.length rc) := ⟨cell_later hb8 S1.1, cell_later hb8 S1.2⟩)
       | (go_at_call 7; refine (unhide HK7 _ _ _ _ _ (r.map cleanV) _ (List.length_map ..) hrn (((unhide HRL).later (unhide HDW)).later hb8) hr8).mono ?_; rintro _ w5 ⟨rfl, hb7⟩
          have S3 : w5.cell? ⟨bl, ol + k, none⟩ = some (.slice la r.length lc) ∧ w5.cell? ⟨br, oo + k, none⟩ = some (.slice ra r.length rc) := ⟨cell_later hb7 S2.1, cell_later hb7 S2.2⟩))
     clear S1 S2 S3
     go_wp2
     go_roundw
     case rel=>exact⟨k+1,by omega,by go_num,below_step (below_step (below_step (unhide HBK) (unhide HDW)) hb8) hb7⟩
     case measure=>simp[intOf];omega
    ·have i1:¬(k:Int)<(rs.length:Int):=by omega
     have HB5:=hide (below_step (unhide HB3) (unhide HB))
     have H65:=hide ((unhide H64).later (unhide HB))
     clear hk h1 HB HB3 H64 HL3 H8 HK7
     go_upto_region 21 with (go_at_call 9;refine(unhide H9 s (unhide HOK) _).mono ?_;rintro _ w4 ⟨p,q,o,rfl,hd,hb4⟩)
     obtain⟨wh,hwh⟩:∃wh,wh=w4.alloc (.cells #[.int .i64 (rs.length:Int),.slice p.1 ks.length p.2,.slice q.1 ks.length q.2,.slice o.1 ks.length o.2] 39):=⟨_,rfl⟩
     have hbh:Below w4.heap.size w4 wh:=by rw[hwh];exact below_alloc (Below.refl _ _) _
     have f0:wh.cell? ⟨w4.heap.size,0,none⟩=some (.int .i64 (rs.length:Int)):=by rw[hwh];simp[go_sem]
     have f1:wh.cell? ⟨w4.heap.size,1,none⟩=some (.slice p.1 ks.length p.2):=by rw[hwh];simp[go_sem]
     have f2:wh.cell? ⟨w4.heap.size,2,none⟩=some (.slice q.1 ks.length q.2):=by rw[hwh];simp[go_sem]
     have f3:wh.cell? ⟨w4.heap.size,3,none⟩=some (.slice o.1 ks.length o.2):=by rw[hwh];simp[go_sem]
     rw[<-hwh]
     have hb5:=below_step (unhide HB5) hb4
     have HC10:=hide (unhide H10 s (unhide HOK) p q o w4 wh hd hb5 hbh)
     have HB6:=hide (below_step hb5 hbh)
     have h66:=((unhide H65).later hb4).later hbh
     have HF0:=hide f0
     have H66:=hide h66
     obtain⟨g0,g1,g2,g3,g4,g5⟩:=h66
     clear hwh hbh hb4 hb5 hd HB5 H65 H10 H9
     go_upto_region 22 with (go_at_call 10;refine(unhide HC10).mono ?_;rintro _ w5 ⟨m,g,rfl,HM,hb5⟩)
     have hx0:=cell_later hb5 (unhide HF0)
     have HB7:=hide (below_step (unhide HB6) hb5)
     have H67:=hide ((unhide H66).later hb5)
     clear hb5 HB6 H66 HC10 f0 f1 f2 f3 g0 g1 g2 g3 g4 g5 HF0
     go_wp2_with fail
     go_loopw[109] (fun i wr=>∃(k:Nat),k<=rs.length/\i=.int .i64 (k:Int)/\Hid (Below w5.heap.size w5 wr)) (fun i _=>rs.length-(intOf i).toNat)
     case atStart=>exact⟨0,Nat.zero_le _,rfl,Below.refl _ _⟩
     case round=>
      clear hx0
      obtain⟨k,hk,rfl,HB⟩:=hrel
      by_cases h1:k<rs.length
      ·have i1:(k:Int)<(rs.length:Int):=by omega
       obtain⟨r,hr⟩:∃r,rs[k]?=some r:=⟨_,List.getElem?_eq_getElem h1⟩
       have hm:=List.mem_of_getElem? hr
       have hbw:=below_step (unhide HB7) (unhide HB)
       obtain⟨br,oo,ra,rc,rfl,cr0,hrr⟩:=(unhide HR _ hbw).get hr
       have HEV:=hide (unhide H12 wr r ra rc hbw hm hrr)
       have HNT:Hid (g=0->m=false->E.trueB (ev r)=false):=fun h2 h3=>unhide HM h2 h3 r hm
       obtain⟨g0,g1,g2,g3,g4,g5⟩:=(unhide H67).later (unhide HB)
       have HTR:=hide (unhide H11 (ev r))
       have HBK:=hide (unhide HB)
       generalize ev r=x at *
       clear hr hm hbw hrr HB HM H12 H11
       rw[E.Val.open_] at HTR
       by_cases hg:g=0
       ·subst hg
        cases m with
        | true=>
         go_wp2
         go_roundw
         case rel=>exact⟨k+1,by omega,by go_num,unhide HBK⟩
         case measure=>simp[intOf];omega
        | false=>
         rw[unhide HNT rfl rfl] at HTR
         clear HNT
         go_wp2_with (first
          | (go_at_call 12;refine(unhide HEV).mono ?_;rintro _ w6 ⟨rfl,hb6⟩;rw[E.Val.open_])
          | (go_at_call 11;refine(unhide HTR _).mono ?_;rintro _ w7 ⟨rfl,hb7⟩))
         go_roundw
         case rel=>exact⟨k+1,by omega,by go_num,below_step (below_step (unhide HBK) hb6) hb7⟩
         case measure=>simp[intOf];omega
       ·have hg':(g == 0)=false:=by simpa using hg
        clear hg
        go_wp2
        go_roundw
        case rel=>exact⟨k+1,by omega,by go_num,unhide HBK⟩
        case measure=>simp[intOf];omega
      ·have i1:¬(k:Int)<(rs.length:Int):=by omega
       have HBZ:=hide (below_step (unhide HB7) (unhide HB))
       clear HB HM H67 HB7
       go_wp2
       go_ret
       exact⟨rfl,unhide HBZ⟩
end Go.Proofs.YtbfibfmnemnbbaaGreat
