import Derived.Test.YtbfibfmnemnbbaaGreatEExR
import Derived.Test.YtbfibfmnemnbbaaGreatEPaB
import Derived.Maps.AppendAt
import Derived.Laws.AppendOwnNone
set_option linter.unusedSimpArgs false
set_option linter.unusedVariables false
namespace Go.Proofs.YtbfibfmnemnbbaaGreat.E
open Go.RowKit Go.Sort
mutual
def Ex.high:Ex->Nat
 | .mk _ _ _ l=>Ex.highs l+1
def Ex.highs:List Ex->Nat
 | []=>0
 | e::l=>max e.high (Ex.highs l)
end
mutual
theorem meas_eq:∀(e:Ex) (N H:Int) {c h:Int},measE soundE e N H=(c,h,true)->c=(e.size:Int)/\h=(e.high:Int)
 | .mk op n v l,N,H,c,h,he=>by
  rw[measE] at he
  split at he
  ·injection he with _ he;injection he with _ he;cases he
  ·cases hm:measL soundE l N H 1 0 with
   | none=>rw[hm] at he;simp only at he;injection he with _ he;injection he with _ he;cases he
   | some q=>
    rw[hm] at he
    simp only at he
    injection he with e1 e2
    injection e2 with e2 _
    have:=measL_eq l N H 1 0 (c':=q.1) (h':=q.2) hm
    rw[Ex.size,Ex.high]
    omega
theorem measL_eq:∀(l:List Ex) (N H c h:Int) {c' h':Int},measL soundE l N H c h=some (c',h')->c'=c+(Ex.sizes l:Int)/\(0<=h->h'=max h (Ex.highs l:Int))
 | [],N,H,c,h,c',h',he=>by
  rw[measL] at he
  injection he with he;injection he with e1 e2
  rw[Ex.sizes,Ex.highs]
  constructor
  ·omega
  ·intro h0;omega
 | e::l,N,H,c,h,c',h',he=>by
  rw[measL] at he
  split at he
  ·rename_i hok
   obtain⟨c2,h2',ok,hm⟩:∃c2 h2 ok,measE soundE e (N-c) (H-1)=(c2,h2,ok):=⟨_,_,_,rfl⟩
   rw[hm] at he hok
   simp only at he hok
   subst hok
   have g:=meas_eq e (N-c) (H-1) hm
   have:=measL_eq l N H _ _ he
   rw[Ex.sizes,Ex.highs]
   constructor
   ·omega
   ·intro h0;have:=this.2 (by omega);omega
  ·cases he
end
theorem built_size{e:Ex}(h:builtE e=true):measE soundE e 400 40=((e.size:Int),(e.high:Int),true):=by
 obtain⟨c,h2,ok,hm⟩:∃c h2 ok,measE soundE e 400 40=(c,h2,ok):=⟨_,_,_,rfl⟩
 unfold builtE at h
 rw[hm] at h
 simp only at h
 subst h
 obtain⟨h1,h2⟩:=meas_eq e 400 40 hm
 rw[hm,h1,h2]
theorem built_bounds{e:Ex}(h:builtE e=true):e.size<=400/\e.high<=40:=by
 have:=meas_le soundE e 400 40 (built_size h)
 omega
end Go.Proofs.YtbfibfmnemnbbaaGreat.E
set_option linter.unusedSimpArgs false
set_option linter.unusedVariables false
namespace Go.Proofs.YtbfibfmnemnbbaaGreat.E
open Go.RowKit Go.Sort
def ob(v:Value):List Nat:=match v.ownBlock with|some g=>[g] | none=>[]
end Go.Proofs.YtbfibfmnemnbbaaGreat.E
set_option linter.unusedSimpArgs false
set_option linter.unusedVariables false
namespace Go.Proofs.YtbfibfmnemnbbaaGreat.E
open Go.RowKit Go.Sort
theorem cell_set_ne(w:World)(g b o o':Nat)(u:Value)(h:(⟨g,o,none⟩:Addr)≠⟨b,o',none⟩):(w.setCell ⟨b,o',none⟩ u).cell? ⟨g,o,none⟩=w.cell? ⟨g,o,none⟩:=by
 by_cases hg:g=b
 ·subst hg
  have ho:o≠o':=fun e=>h (by rw[e])
  simp[go_sem,ho,Ne.symm ho]
 ·exact World.cell?_of_block (Below.heap_setCell _ _ _ _ hg)
theorem frozen_set(w:World)(p q:Addr)(u:Value):(w.setCell p u).frozen? q=w.frozen? q:=by simp[go_sem]
end Go.Proofs.YtbfibfmnemnbbaaGreat.E
set_option linter.unusedSimpArgs false
set_option linter.unusedVariables false
namespace Go.Proofs.YtbfibfmnemnbbaaGreat.E
open Go.RowKit Go.Sort
theorem enter_with{P:Program}{code:Code}{Q:Exit->Act->World->Prop}{act:Act}{wa:World}(R:World->Prop)(h:R wa)(k:∀wx,Hid (R wx)->code.wp P Q act wx):code.wp P Q act wa:=k wa h
theorem six_put{b:Nat}{e:Ex}{a:Option Addr}{c:Nat}{w:World}(h:Six w b e a c)(g o:Nat)(u:Value)(hg:b≠g):Six (w.setCell ⟨g,o,none⟩ u) b e a c:=by
 obtain⟨s0,s1,s2,s3,s4,s5⟩:=h
 have hne:∀o',(⟨b,o',none⟩:Addr)≠⟨g,o,none⟩:=fun o' h=>by injection h with h;exact hg h
 exact⟨by rw[cell_set_ne _ _ _ _ _ _ (hne _)];exact s0,by rw[cell_set_ne _ _ _ _ _ _ (hne _)];exact s1,by rw[cell_set_ne _ _ _ _ _ _ (hne _)];exact s2,by rw[cell_set_ne _ _ _ _ _ _ (hne _)];exact s3,by rw[cell_set_ne _ _ _ _ _ _ (hne _)];exact s4,by rw[cell_set_ne _ _ _ _ _ _ (hne _)];exact s5⟩
theorem box_put{b:Nat}{e:Ex}{a:Option Addr}{c:Nat}{w:World}(h:Box6 w b e a c)(g o:Nat)(u:Value)(hg:b≠g):Box6 (w.setCell ⟨g,o,none⟩ u) b e a c:=by
 obtain⟨h1,h2⟩:=h
 refine⟨six_put h1 g o u hg,?_⟩
 simp only[frozen_set]
 exact h2
end Go.Proofs.YtbfibfmnemnbbaaGreat.E
set_option linter.unusedSimpArgs false
set_option linter.unusedVariables false
namespace Go.Proofs.YtbfibfmnemnbbaaGreat.E
open Go.RowKit Go.Sort
mutual
def colsE:Ex->List Int
 | .mk op n _ l=>(if op == 1 then [n] else [])++colsL l
def colsL:List Ex->List Int
 | []=>[]
 | e::l=>colsE e++colsL l
end
theorem colsE_eq(e:Ex):colsE e=(if e.op == 1 then [e.n] else [])++colsL e.args:=by cases e;rw[colsE];rfl
theorem cols_mem:∀{l:List Ex} {x:Ex} {n:Int},x∈l->n∈colsE x->n∈colsL l
 | [],_,_,h,_=>by cases h
 | e::l,x,n,h,hn=>by
  rw[colsL,List.mem_append]
  rcases List.mem_cons.1 h with rfl|h
  ·exact .inl hn
  ·exact .inr (cols_mem h hn)
def usesB(e:Ex)(n:Int):Bool:=(colsE e).all fun c=>decide (c<n)
theorem uses_arg{e x:Ex}{i:Nat}{n:Int}(h:usesB e n=true)(hx:e.args[i]?=some x):usesB x n=true:=by
 unfold usesB at h ⊢
 rw[List.all_eq_true] at h ⊢
 intro c hc
 exact h c (by rw[colsE_eq,List.mem_append];exact .inr (cols_mem (List.mem_of_getElem? hx) hc))
theorem uses_col{e:Ex}{n:Int}(h:usesB e n=true)(h1:e.op=1):e.n<n:=by
 unfold usesB at h
 rw[List.all_eq_true] at h
 have:=h e.n (by rw[colsE_eq,h1];simp)
 simpa using this
theorem col_args{x:Ex}(hg:goodE x)(h1:x.op=1):x.args=[]:=by
 have hl:=sound_len (good_open hg).1
 rw[h1,show arI 1=0 by decide] at hl
 exact List.eq_nil_of_length_eq_zero (by omega)
theorem col_nat{x:Ex}(hg:goodE x)(h1:x.op=1):0<=x.n:=by
 rcases no_args hg (col_args hg h1) with ⟨_,h⟩|h
 ·exact h
 ·rw[h1] at h;cases h
end Go.Proofs.YtbfibfmnemnbbaaGreat.E
set_option linter.unusedSimpArgs false
set_option linter.unusedVariables false
set_option maxHeartbeats 1000000
set_option maxRecDepth 100000
namespace Go.Proofs.YtbfibfmnemnbbaaGreat.E
open Go.RowKit Go.Sort
theorem info3:(Tryz.prog.info? 3).map (fun i=>(i.zero,i.size,i.bytes))=some (some (.int .i64 0),1,8):=by kernel_rfl
def OwnI(w:World)(base:Nat)(v:Value)(xs:List Int):Prop:=w.ownsRow base 3 1 v xs.length (xs.map (.int .i64))
theorem OwnI.later{w w1:World}{base:Nat}{v:Value}{xs:List Int}(h:OwnI w base v xs)(hb:Below w.heap.size w w1):OwnI w1 base v xs:=own_later h hb
theorem OwnI.slice{w:World}{base:Nat}{v:Value}{L:List Int}(h:OwnI w base v L):∃a cap,v=.slice a L.length cap:=by
 rcases h.2 with ⟨rfl,h0⟩|⟨g,cap,cur,rfl,_⟩
 ·have:L=[]:=List.eq_nil_of_length_eq_zero h0
  subst this
  exact⟨none,0,rfl⟩
 ·exact⟨_,cap,rfl⟩
theorem OwnI.ints{w:World}{base:Nat}{a:Option Addr}{n cap:Nat}{L:List Int}(h:OwnI w base (.slice a n cap) L):IntsAt w a L:=by
 rcases h.2 with ⟨e,h0⟩|⟨g,cap',cur,e,_⟩
 ·have:L=[]:=List.eq_nil_of_length_eq_zero h0
  exact .inl this
 ·injection e with e1 e2 e3
  subst e1
  refine .inr ⟨g,0,rfl,fun i x hx=>?_⟩
  subst e3
  have hc:=World.ownsRow.cells h rfl i (.int .i64 x) (by rw[List.getElem?_map,hx];rfl)
  have ea:(⟨g,0,none⟩:Addr).add i=⟨g,0+i,none⟩:=by
   by_cases h:i=0<;>simp[Addr.add,h]
  rw[ea] at hc
  exact hc
theorem ints_one(xs:List Int):∀u∈xs.map (Value.int .i64),u.oneCell'=true:=by
 intro u hu
 obtain⟨x,_,rfl⟩:=List.mem_map.1 hu
 rfl
theorem OwnI.base_le{w:World}{base base':Nat}{v:Value}{L:List Int}(h:OwnI w base v L)(hb:base'<=base):OwnI w base' v L:=by
 obtain⟨h1,h2⟩:=h
 refine⟨h1,?_⟩
 rcases h2 with h2|⟨g,cap,cur,q1,q2,q3⟩
 ·exact .inl h2
 ·exact .inr ⟨g,cap,cur,q1,by omega,q3⟩
mutual
theorem cols_size:∀e:Ex,(colsE e).length<=e.size
 | .mk op n v l=>by
  have:=colsL_size l
  rw[colsE,List.length_append,Ex.size]
  split
  ·show 1+_<=_;omega
  ·show 0+_<=_;omega
theorem colsL_size:∀l:List Ex,(colsL l).length<=Ex.sizes l
 | []=>by rw[colsL];exact Nat.zero_le _
 | e::l=>by
  have h1:=cols_size e
  have h2:=colsL_size l
  rw[colsL,List.length_append,Ex.sizes]
  omega
end
theorem own_ge{w:World}{base:Nat}{v:Value}{L:List Int}(h:OwnI w base v L):∀g,v.ownBlock=some g->base<=g:=by
 intro g hg
 rcases h.2 with ⟨rfl,_⟩|⟨g',cap,cur,rfl,hb,_⟩
 ·cases hg
 ·simp[Value.ownBlock] at hg
  omega
theorem wpList_append_ints{ops:Array Oper}{rest:List Oper}{o:Oper}{a:Act}{Q:Exit->Act->World->Prop}(w:World)(hgd:o.guard=none)(s x:Operand)(ho:o.op=.call { callee:=.builtin .append,args:=#[s,x],argTypes:=#[22,22] })
  (base base2:Nat) (v u:Value) (L1 L2:List Int) (hs:a.eval s=v) (hown:OwnI w base v L1) (hx:a.eval x=u) (hown2:OwnI w base2 u L2) (hl:L1.length+L2.length<=1000000) (hbase:base<=w.heap.size)
  (h:∀v' w',OwnI w' base v' (L1++L2)->Below base w w'->wpList Tryz.prog ops Q rest (a.put o.dst v') w'):wpList Tryz.prog ops Q (o::rest) a w:=by
 obtain⟨i4,hi4,z40,z41,z42⟩:=info_parts info3
 rcases hown2.2 with ⟨rfl,h0⟩|⟨g,cap,cur,rfl,_⟩
 ·have:L2=[]:=List.eq_nil_of_length_eq_zero h0
  subst this
  exact wpList_append_own_none hgd s x 22 ho base 3 i4 1 Tryz.underlying22 hi4 v L1.length _ hs hown hx (h v w (by rw[List.append_nil];exact hown) (Below.refl _ _))
 ·refine wpList_append_own_at w hgd s x 22 ho base 3 i4 (.int .i64 0) 1 8 Tryz.underlying22 hi4 z40 z41 z42 rfl (by decide) v L1.length (L1.map (.int .i64)) hs hown ⟨g,0,none⟩ L2.length cap (L2.map (.int .i64)) hx (by simp) (World.ownsRow.cells hown2 rfl) (ints_one L2) (by unfold maxLen;omega) (by omega) hbase ?_
  intro v' w' h1 h2 _ _
  refine h v' w' ?_ (grown_below h2 hbase (own_ge hown))
  unfold OwnI
  rw[List.length_append,List.map_append]
  exact h1
theorem own_nil(w:World)(base:Nat):OwnI w base (.slice none 0 0) []:=World.ownsRow_nil _ _ _ _
theorem colsL_take{l:List Ex}{k:Nat}{x:Ex}(h:l[k]?=some x):colsL (l.take (k+1))=colsL (l.take k)++colsE x:=by
 have key:∀(l m:List Ex),colsL (l++m)=colsL l++colsL m:=by
  intro l m
  induction l with
  | nil=>rw[List.nil_append,colsL,List.nil_append]
  | cons y l ih=>rw[List.cons_append,colsL,colsL,ih,List.append_assoc]
 rw[List.take_add_one,h,key]
 show _++colsL [x]=_
 rw[colsL,colsL,List.append_nil]
theorem colsL_take_le(l:List Ex)(k:Nat):(colsL (l.take k)).length<=Ex.sizes l:=by
 induction l generalizing k with
 | nil=>simp[colsL]
 | cons y l ih=>
  cases k with
  | zero=>simp[colsL]
  | succ k=>
   rw[List.take_succ_cons,colsL,List.length_append,Ex.sizes]
   have:=ih k
   have:=cols_size y
   omega
theorem own_single(W:World)(base:Nat)(hb:base<=W.heap.size)(n:Int):OwnI (W.alloc (.cells #[.int .i64 n] 3)) base (.slice (some ⟨W.heap.size,0,none⟩) 1 1) [n]:=
 ⟨rfl,.inr ⟨W.heap.size,1,_,rfl,hb,Go.Deep.blk_alloc_new _ _,Nat.le_refl _,by unfold maxLen;omega,rfl,rfl⟩⟩
theorem columns_step(e:Ex)(hg:goodE e)(hf:e.fin)(hsz:e.size<=400)(a:Option Addr)(c:Nat)(w:World)(ha:Ex.all w a e.args)
  (IH:∀(i:Nat) (x:Ex),e.args[i]?=some x->∀(a':Option Addr) (c':Nat) (W:World),Ex.all W a' x.args->Calls Tryz.prog 76 #[x.val a' c'] W fun r w'=>∃v,r=.returned v/\OwnI w' W.heap.size v (colsE x)/\Below W.heap.size W w') :
  Calls Tryz.prog 76 #[e.val a c] w fun r w'=>∃v,r=.returned v/\OwnI w' w.heap.size v (colsE e)/\Below w.heap.size w w':=by
 have HIH:=hide IH
 have HAL:=hide ha
 have hBa:=below_alloc (Below.refl _ w) (.cells #[.int .i64 e.op,.int .i64 e.n,.int .i64 e.v.k,.int .i64 e.v.n,.string e.v.s,.slice a e.args.length c] 28)
 have HCE:=hide (colsE_eq e)
 have HL:Hid (Ex.sizes e.args<=399):=by show _<=_;rw[Ex.size_mk] at hsz;omega
 have hlen:=(Ex.fin_open hf).1.1
 rw[Ex.val_open]
 clear IH ha
 by_cases h1:e.op=1
 ·have hl0:e.args.length=0:=by rw[col_args hg h1];rfl
  have hce:colsE e=[e.n]:=by rw[colsE_eq,h1,col_args hg h1,colsL];rfl
  have HCE2:=hide hce
  rw[h1,hl0]
  rw[h1,hl0] at hBa
  have HS:=hide (own_single (w.alloc (.cells #[.int .i64 1,.int .i64 e.n,.int .i64 e.v.k,.int .i64 e.v.n,.string e.v.s,.slice a 0 c] 28)) w.heap.size hBa.size e.n)
  rw[show (w.alloc (.cells #[.int .i64 1,.int .i64 e.n,.int .i64 e.v.k,.int .i64 e.v.n,.string e.v.s,.slice a 0 c] 28)).heap.size=w.heap.size+1 by simp[go_sem]] at HS
  have HB2:=hide (below_alloc hBa (.cells #[.int .i64 e.n] 3))
  have HSX:Hid (((w.alloc (.cells #[.int .i64 1,.int .i64 e.n,.int .i64 e.v.k,.int .i64 e.v.n,.string e.v.s,.slice a 0 c] 28)).alloc (.cells #[.int .i64 e.n] 3)).cell? ⟨w.heap.size,5,none⟩=some (.slice a 0 c)):=by show _=_;simp[go_sem]
  clear hce HCE hl0
  go_enter Tryz.func76,Tryz.ntmps76
  go_wp2_with (at_builtin;go_loud (refine wpList_append_ints _ rfl (.tmp 9) (.tmp 12) rfl (w.heap.size+1) w.heap.size (.slice none 0 0) (.slice (some ⟨w.heap.size+1,0,none⟩) 1 1) [] [e.n] rfl (own_nil _ _) rfl (unhide HS) (by simp) (by simp[go_sem]) ?_);intro v4 w4 hO4 hb4;have c5:w4.cell? ⟨w.heap.size,5,none⟩=some (.slice a 0 c):=by rw[hb4.cell (p:=⟨w.heap.size,5,none⟩) (by show w.heap.size<w.heap.size+1;omega)];exact unhide HSX)
  have HO4:Hid (OwnI w4 w.heap.size v4 [e.n]):=hO4.base_le (base':=w.heap.size) (by omega)
  have HB4:=hide ((unhide HB2).trans (hb4.mono (by omega:w.heap.size<=w.heap.size+1)))
  clear hO4 hb4
  obtain⟨a4,cap4,rfl⟩:=(unhide HO4).slice
  go_loopw[3,17] (fun s3 i wr=>s3=.slice a4 [e.n].length cap4/\i=.int .i64 0/\wr=w4) (fun _ _ _=>0)
  case atStart=>exact⟨rfl,rfl,rfl⟩
  case round=>
   obtain⟨rfl,rfl,rfl⟩:=hrel
   go_wp2
   go_ret
   exact⟨_,rfl,by rw[unhide HCE2];exact unhide HO4,unhide HB4⟩
 ·have e1:(e.op == 1)=false:=by simpa using h1
  rw[e1] at HCE
  simp only[Bool.false_eq_true,if_false,List.nil_append] at HCE
  have HE1:=hide e1
  obtain⟨wa,hwa⟩:∃wa,wa=w.alloc (.cells #[.int .i64 e.op,.int .i64 e.n,.int .i64 e.v.k,.int .i64 e.v.n,.string e.v.s,.slice a e.args.length c] 28):=⟨_,rfl⟩
  have HBA:Hid (Below w.heap.size w wa):=by rw[hwa];exact hBa
  go_enter Tryz.func76,Tryz.ntmps76
  go_wp2
  rw[<-hwa]
  try rw[unhide HE1]
  clear hBa hwa
  go_loopw[3,17] (fun s3 i wr=>∃(k:Nat) (v3:Value),k<=e.args.length/\i=.int .i64 (k:Int)/\s3=v3/\Hid (OwnI wr w.heap.size v3 (colsL (e.args.take k))/\Below w.heap.size w wr)) (fun _ i _=>e.args.length-(intOf i).toNat)
  case atStart=>exact⟨0,_,Nat.zero_le _,rfl,rfl,by show OwnI _ _ _ (colsL []);rw[colsL];exact own_nil _ _,unhide HBA⟩
  case round=>
   obtain⟨k,v3',hk,rfl,rfl,HI⟩:=hrel
   obtain⟨hO,hB⟩:=unhide HI
   obtain⟨a3,cap3,rfl⟩:=hO.slice
   by_cases hlt:k<e.args.length
   ·have h9:(k:Int)<(e.args.length:Int):=by omega
    obtain⟨x,hx⟩:∃x,e.args[k]?=some x:=⟨_,List.getElem?_eq_getElem hlt⟩
    obtain⟨vb,vo,ea,hat⟩:=Ex.all_get (Ex.all_later _ (unhide HAL) hB) hx
    obtain⟨a',c',⟨d0,d1,d2,d3,d4,d5⟩,hal⟩:=Ex.at_open hat
    have HC:=hide (unhide HIH k x hx a' c' (wr.alloc (.cells #[.int .i64 x.op,.int .i64 x.n,.int .i64 x.v.k,.int .i64 x.v.n,.string x.v.s,.slice a' x.args.length c'] 28)) (Ex.all_later _ hal (below_alloc (Below.refl _ _) _)))
    rw[Ex.val_open] at HC
    have HTK:=hide (colsL_take hx)
    have hcl:(colsL (e.args.take (k+1))).length<=399:=Nat.le_trans (colsL_take_le _ _) (unhide HL)
    rw[unhide HTK,List.length_append] at hcl
    have HBW:=hide (below_alloc (Below.refl _ wr) (.cells #[.int .i64 x.op,.int .i64 x.n,.int .i64 x.v.k,.int .i64 x.v.n,.string x.v.s,.slice a' x.args.length c'] 28))
    have HBr:=hide hB
    have HOr:=hide hO
    subst ea
    clear hx hat hal hO hB HI
    go_wp2_with (first
     | (go_at_call 76;refine(unhide HC).mono ?_;rintro r w3 ⟨v3,rfl,hO3,hb3⟩;have hb13:=below_step (unhide HBW) hb3;have HO3:=hide hO3;have HO1:=hide ((unhide HOr).later hb13);clear hO3)
     | (at_builtin;refine wpList_append_ints w3 rfl (.tmp 21) (.tmp 23) rfl w.heap.size _ (.slice a3 (colsL (e.args.take k)).length cap3) v3 _ _ rfl (unhide HO1) rfl (unhide HO3) (by omega) (below_step (unhide HBr) hb13).size ?_;intro v4 w4 hO4 hb4;have HO4:=hide hO4;clear hO4))
    refine⟨⟨k+1,v4,by omega,by go_num,rfl,?_,(unhide HBr).trans ((hb13.mono (unhide HBr).size).trans hb4)⟩,by simp[intOf];omega⟩
    rw[unhide HTK]
    exact unhide HO4
   ·have h9:¬(k:Int)<(e.args.length:Int):=by omega
    have HOr:Hid (OwnI wr w.heap.size (.slice a3 (colsL (e.args.take k)).length cap3) (colsE e)):=by
     show OwnI _ _ _ _
     rw[unhide HCE,show colsL e.args=colsL (e.args.take k) by rw[List.take_of_length_le (by omega)]]
     exact hO
    have HBr:=hide hB
    clear hO hB HI
    go_wp2
    go_ret
    exact⟨_,rfl,unhide HOr,unhide HBr⟩
theorem columns_all:∀(k:Nat) (e:Ex),e.size<=k->goodE e->e.fin->e.size<=400->∀(a:Option Addr) (c:Nat) (w:World),Ex.all w a e.args->Calls Tryz.prog 76 #[e.val a c] w fun r w'=>∃v,r=.returned v/\OwnI w' w.heap.size v (colsE e)/\Below w.heap.size w w'
 | 0,e,hs,_,_,_,_,_,_,_=>by rw[Ex.size_mk] at hs;omega
 | k+1,e,hs,hg,hf,h4,a,c,w,ha=>columns_step e hg hf h4 a c w ha fun i x hx a' c' W hW=>
  columns_all k x (by have:=Ex.size_arg hx;omega) (good_arg hg hx) (Ex.fin_arg hf hx) (by have:=Ex.size_arg hx;omega) a' c' W hW
end Go.Proofs.YtbfibfmnemnbbaaGreat.E
set_option linter.unusedSimpArgs false
set_option linter.unusedVariables false
set_option maxHeartbeats 1000000
set_option maxRecDepth 100000
namespace Go.Proofs.YtbfibfmnemnbbaaGreat.E
open Go.RowKit Go.Sort
theorem all_drop{p:Int->Bool}{l:List Int}{k:Nat}{x:Int}(hx:l[k]?=some x):(l.drop k).all p=(p x && (l.drop (k+1)).all p):=by
 obtain⟨q1,q2⟩:=List.getElem?_eq_some_iff.1 hx
 rw[List.drop_eq_getElem_cons q1,List.all_cons,q2]
theorem uses_any(e:Ex)(hg:goodE e)(hf:e.fin)(hsz:e.size<=400)(n:Int)(a:Option Addr)(c:Nat)(w:World)(ha:Ex.all w a e.args) :
  Calls Tryz.prog 52 #[e.val a c,.int .i64 n] w fun r w'=>r=.returned (.bool (usesB e n))/\Below w.heap.size w w':=by
 have HC:=hide (fun (W:World) (hW:Below w.heap.size w W)=>columns_all e.size e (Nat.le_refl _) hg hf hsz a c W (Ex.all_later _ ha hW))
 have HB0:=hide (below_alloc (Below.refl _ w) (.cells #[.int .i64 e.op,.int .i64 e.n,.int .i64 e.v.k,.int .i64 e.v.n,.string e.v.s,.slice a e.args.length c] 28))
 have hcl:(colsE e).length<=400:=Nat.le_trans (cols_size e) hsz
 obtain⟨cols,hcols⟩:∃cols,cols=colsE e:=⟨_,rfl⟩
 have HU:Hid (usesB e n=cols.all fun c=>decide (c<n)):=by rw[hcols];rfl
 rw[<-hcols] at HC hcl
 rw[Ex.val_open] at HC ⊢
 generalize usesB e n=R at *
 clear ha hcols
 go_enter Tryz.func52,Tryz.ntmps52
 go_wp2_with (go_at_call 76;refine(unhide HC _ (unhide HB0)).mono ?_;rintro r w1 ⟨v1,rfl,hO,hb1⟩;obtain⟨a1,cap1,rfl⟩:=hO.slice)
 have HI1:=hide hO.ints
 have HB1:=hide (below_step (unhide HB0) hb1)
 clear hO hb1
 go_loopw[10] (fun i wr=>∃k:Nat,k<=cols.length/\i=.int .i64 (k:Int)/\Hid (R=(cols.drop k).all fun c=>decide (c<n))/\wr=w1) (fun i _=>cols.length-(intOf i).toNat)
 case atStart=>exact⟨0,Nat.zero_le _,rfl,unhide HU,rfl⟩
 case round=>
  obtain⟨k,hk,rfl,HR,rfl⟩:=hrel
  by_cases hlt:k<cols.length
  ·have h9:(k:Int)<(cols.length:Int):=by omega
   obtain⟨x,hx⟩:∃x,cols[k]?=some x:=⟨_,List.getElem?_eq_getElem hlt⟩
   obtain⟨b,off,rfl,c0⟩:=(unhide HI1).get hx
   rw[all_drop hx] at HR
   clear hx
   by_cases hxn:x<n
   ·have hd:decide (x<n)=true:=by simpa using hxn
    rw[hd,Bool.true_and] at HR
    clear hd
    go_wp2
    exact⟨⟨k+1,by omega,by go_num,HR,by trivial⟩,by simp[intOf];omega⟩
   ·have hd:decide (x<n)=false:=by simpa using hxn
    rw[hd,Bool.false_and] at HR
    clear hd
    go_wp2
    go_ret
    exact⟨by rw[unhide HR];rfl,unhide HB1⟩
  ·have h9:¬(k:Int)<(cols.length:Int):=by omega
   rw[List.drop_eq_nil_of_le (by omega),List.all_nil] at HR
   go_wp2
   go_ret
   exact⟨by rw[unhide HR];rfl,unhide HB1⟩
end Go.Proofs.YtbfibfmnemnbbaaGreat.E
set_option linter.unusedSimpArgs false
set_option linter.unusedVariables false
namespace Go.Proofs.YtbfibfmnemnbbaaGreat.E
open Go.RowKit Go.Sort
mutual
theorem eval_copy(row:List Val):∀(e:Ex),goodE e->evalE row (copyE e)=evalE row e
 | .mk op n v l,hg=>by
  have hl:=evalL_copy row l (good_open hg).2
  have hn:=no_args hg
  rw[copyE,evalE,evalE,hl]
  cases l with
  | nil=>
   rw[evalL]
   simp only[nodeV]
   rcases hn rfl with ⟨h1,_⟩|h2
   ·have h1:op=1:=h1
    subst h1;rfl
   ·have h2:op=2:=h2
    subst h2
    simp only[beq_self_eq_true,if_true]
    rw[clean_clean]
  | cons x l=>
   rw[evalL]
   cases l with
   | nil=>rw[evalL];rfl
   | cons y l=>
    rw[evalL]
    cases l with
    | nil=>rw[evalL];rfl
    | cons z l=>rw[evalL];rfl
theorem evalL_copy(row:List Val):∀(l:List Ex),goodL l->evalL row (copyL l)=evalL row l
 | [],_=>by rw[copyL]
 | e::l,hg=>by
  rw[goodL] at hg
  rw[copyL,evalL,evalL,eval_copy row e hg.1,evalL_copy row l hg.2]
end
theorem evalB_copy(row:List Val)(e:Ex):evalB row (copyE e)=evalB row e:=by
 unfold evalB
 rw[built_copy]
 by_cases h:builtE e=true
 ·rw[if_pos h,if_pos h,eval_copy row e (built_good h)]
 ·rw[if_neg h,if_neg h]
theorem evalB_copyT(row:List Val)(e:Ex):evalB row (copyT e)=evalB row e:=by
 unfold copyT
 split
 ·exact evalB_copy row e
 ·rfl
mutual
def partsE:Ex->List Ex
 | .mk op n v l=>if op == 19 && builtE (.mk op n v l) then partsL l else [copyT (.mk op n v l)]
def partsL:List Ex->List Ex
 | []=>[]
 | e::l=>partsE e++partsL l
end
theorem partsE_eq(e:Ex):partsE e=if e.op == 19 && builtE e then partsL e.args else [copyT e]:=by cases e;rw[partsE];rfl
theorem true_both(x y:Val):trueB (bothV 19 x y)=(trueB x && trueB y):=by
 unfold bothV
 rw[if_pos rfl]
 obtain⟨k1,n1,s1⟩:=x
 obtain⟨k2,n2,s2⟩:=y
 unfold trueB falseB truthV
 simp only[Val.num,Val.null]
 by_cases a1:k1=1<;>by_cases a2:k2=1<;>by_cases b1:n1=0<;>by_cases b2:n2=0<;>simp[a1,a2,b1,b2]
mutual
theorem parts_true(row:List Val):∀(e:Ex),(partsE e).all (fun p=>trueB (evalB row p))=trueB (evalB row e)
 | .mk op n v l=>by
  rw[partsE]
  by_cases h:(op == 19 && builtE (.mk op n v l))=true
  ·rw[if_pos h]
   simp only[Bool.and_eq_true,beq_iff_eq] at h
   obtain⟨h1,h2⟩:=h
   have ih:=parts_trueL row l
   have hb:∀x∈l,builtE x=true:=fun x hx=>by
    obtain⟨i,hi⟩:=List.getElem?_of_mem hx
    exact built_arg (e:=.mk op n v l) h2 hi
   subst h1
   obtain⟨x,y,hxy⟩:=two_args (built_good h2) (by show arI 19=2;decide)
   have hxy:l=[x,y]:=hxy
   subst hxy
   rw[ih]
   show _=trueB (if builtE _ then _ else _)
   rw[if_pos h2,evalE,evalL,evalL,evalL]
   show _=trueB (bothV 19 _ _)
   rw[true_both]
   simp only[List.all_cons,List.all_nil,Bool.and_true]
   unfold evalB
   rw[if_pos (hb x (by simp)),if_pos (hb y (by simp))]
  ·rw[if_neg h]
   simp only[List.all_cons,List.all_nil,Bool.and_true]
   rw[evalB_copyT]
theorem parts_trueL(row:List Val):∀(l:List Ex),(partsL l).all (fun p=>trueB (evalB row p))=l.all (fun p=>trueB (evalB row p))
 | []=>by rw[partsL]
 | e::l=>by rw[partsL,List.all_append,parts_true row e,parts_trueL row l,List.all_cons]
end
mutual
theorem parts_le:∀(e:Ex) (N H:Int) {c h:Int},measE soundE e N H=(c,h,true)->((partsE e).length:Int)<=c
 | .mk op n v l,N,H,c,h,he=>by
  have hle:=meas_le soundE _ N H he
  rw[partsE]
  split
  ·rw[measE] at he
   split at he
   ·injection he with _ he;injection he with _ he;cases he
   ·rename_i hc
    simp only[Bool.or_eq_true,decide_eq_true_eq,not_or] at hc
    cases hm:measL soundE l N H 1 0 with
    | none=>rw[hm] at he;simp only at he;injection he with _ he;injection he with _ he;cases he
    | some q=>
     rw[hm] at he
     simp only at he
     injection he with e1 e2
     have:=parts_leL l N H 1 0 (c':=q.1) (h':=q.2) hm
     omega
  ·show ((1:Nat):Int)<=c
   omega
theorem parts_leL:∀(l:List Ex) (N H c h:Int) {c' h':Int},measL soundE l N H c h=some (c',h')->c+((partsL l).length:Int)<=c'
 | [],N,H,c,h,c',h',he=>by
  rw[measL] at he
  injection he with he;injection he with e1 e2
  rw[partsL]
  show c+((0:Nat):Int)<=c'
  omega
 | e::l,N,H,c,h,c',h',he=>by
  rw[measL] at he
  split at he
  ·rename_i hok
   obtain⟨c2,h2',ok,hm⟩:∃c2 h2 ok,measE soundE e (N-c) (H-1)=(c2,h2,ok):=⟨_,_,_,rfl⟩
   rw[hm] at he hok
   simp only at he hok
   subst hok
   have g:=parts_le e (N-c) (H-1) hm
   have:=parts_leL l N H _ _ he
   rw[partsL,List.length_append]
   omega
  ·cases he
end
mutual
theorem meas_any(p:Ex->Bool):∀(e:Ex) (N H:Int) {c h:Int},measE p e N H=(c,h,true)->measE allE e N H=(c,h,true)
 | .mk op n v l,N,H,c,h,he=>by
  rw[measE] at he ⊢
  split at he
  ·injection he with _ he;injection he with _ he;cases he
  ·rename_i hc
   simp only[Bool.or_eq_true,decide_eq_true_eq,not_or,Bool.not_eq_true'] at hc
   rw[if_neg (by simp only[Bool.or_eq_true,decide_eq_true_eq,not_or,Bool.not_eq_true'];exact⟨hc.1,by simp[allE]⟩)]
   cases hm:measL p l N H 1 0 with
   | none=>rw[hm] at he;simp only at he;injection he with _ he;injection he with _ he;cases he
   | some q=>
    rw[hm] at he
    rw[measL_any p l N H 1 0 (by rw[hm])]
    exact he
theorem measL_any(p:Ex->Bool):∀(l:List Ex) (N H c h:Int) {q:Int×Int},measL p l N H c h=some q->measL allE l N H c h=some q
 | [],N,H,c,h,q,he=>by rw[measL] at he ⊢;exact he
 | e::l,N,H,c,h,q,he=>by
  rw[measL] at he ⊢
  split at he
  ·rename_i hok
   obtain⟨c2,h2',ok,hm⟩:∃c2 h2 ok,measE p e (N-c) (H-1)=(c2,h2,ok):=⟨_,_,_,rfl⟩
   rw[hm] at he hok
   simp only at he hok
   subst hok
   rw[meas_any p e (N-c) (H-1) hm]
   simp only[if_true]
   exact measL_any p l N H _ _ he
  ·cases he
end
theorem built_ends{e:Ex}(h:builtE e=true):(measE allE e 33554432 131072).2.2=true:=by
 obtain⟨c,h2,ok,hm⟩:∃c h2 ok,measE soundE e 400 40=(c,h2,ok):=⟨_,_,_,rfl⟩
 unfold builtE at h
 rw[hm] at h
 simp only at h
 subst h
 rw[meas_mono allE e 400 40 33554432 131072 (meas_any soundE e 400 40 hm) (by omega) (by omega)]
theorem parts_400{e:Ex}(h:builtE e=true):(partsE e).length<=400:=by
 obtain⟨c,h2,ok,hm⟩:∃c h2 ok,measE soundE e 400 40=(c,h2,ok):=⟨_,_,_,rfl⟩
 unfold builtE at h
 rw[hm] at h
 simp only at h
 subst h
 have g1:=meas_le soundE e 400 40 hm
 have g2:=parts_le e 400 40 hm
 omega
theorem parts_pos(e:Ex):0<(partsE e).length:=by
 suffices H:∀(k:Nat) (e:Ex),e.size<=k->0<(partsE e).length from H e.size e (Nat.le_refl _)
 intro k
 induction k with
 | zero=>intro e hs;rw[Ex.size_mk] at hs;omega
 | succ k ih=>
  intro e hs
  rw[partsE_eq]
  split
  ·rename_i h
   simp only[Bool.and_eq_true,beq_iff_eq] at h
   obtain⟨x,y,hxy⟩:=two_args (built_good h.2) (by rw[h.1];decide)
   rw[hxy,partsL,List.length_append]
   have:=ih x (by have:=Ex.size_arg (e:=e) (i:=0) (x:=x) (by rw[hxy];rfl);omega)
   omega
  ·exact Nat.zero_lt_one
end Go.Proofs.YtbfibfmnemnbbaaGreat.E
set_option linter.unusedSimpArgs false
set_option linter.unusedVariables false
set_option maxHeartbeats 400000
set_option maxRecDepth 100000
namespace Go.Proofs.YtbfibfmnemnbbaaGreat.E
open Go.RowKit Go.Sort
def ExN(lo:Nat)(N:List Nat)(w:World)(a:Option Addr)(l:List Ex):Prop:=∀W',Kept lo N w W'->Ex.all W' a l
def PartsG(w:World)(e:Ex)(K:Nat->World->Nd->Prop)(r:Ending)(w':World):Prop:=∃(g cap:Nat) (L:List Nd),r=.returned (.slice (some ⟨g,0,none⟩) L.length cap)/\OwnE w' w.heap.size (.slice (some ⟨g,0,none⟩) L.length cap) L/\L.map (·.1)=partsE e/\(∀q∈L,K g w' q)/\Below w.heap.size w w'
def PartsOk(w:World)(e:Ex):Ending->World->Prop:=PartsG w e fun g w' q=>ExL w [g] w' q.2.1 q.1.args
def PartsK(w:World)(e:Ex):Ending->World->Prop:=PartsG w e fun g w' q=>ExN w.heap.size [g] w' q.2.1 q.1.args
theorem PartsK.ok{w:World}{e:Ex}{r:Ending}{w':World}(h:PartsK w e r w'):PartsOk w e r w':=by
 obtain⟨g,cap,L,h1,h2,h3,h4,h5⟩:=h
 exact⟨g,cap,L,h1,h2,h3,fun q hq W' _ hk=>h4 q hq W' hk,h5⟩
theorem below_between{w w1 w3 W':World}{N:List Nat}(h1:Below w.heap.size w w1)(h3:Below w1.heap.size w1 w3)(hW:Below w.heap.size w W')(hK:Kept w.heap.size N w3 W')(hN:∀b∈N,w1.heap.size<=b):Below w1.heap.size w1 W':=by
 refine⟨by rw[hW.os,h1.os],by rw[hW.tape,h1.tape],by rw[hW.output,h1.output],Nat.le_trans h3.size hK.size,fun b hb=>?_⟩
 by_cases hlo:b<w.heap.size
 ·rw[hW.block b hlo,h1.block b hlo]
 ·rw[hK.block b (by omega) (Nat.lt_of_lt_of_le hb h3.size) (fun h=>by have:=hN b h;omega),h3.block b hb]
theorem own_one(w:World)(base:Nat)(hb:base<=w.heap.size)(q:Nd):OwnE (w.alloc (.cells #[.int .i64 q.1.op,.int .i64 q.1.n,.int .i64 q.1.v.k,.int .i64 q.1.v.n,.string q.1.v.s,.slice q.2.1 q.1.args.length q.2.2] 28)) base (.slice (some ⟨w.heap.size,0,none⟩) 1 1) [q]:=
 ⟨rfl,.inr ⟨w.heap.size,1,_,rfl,hb,Go.Deep.blk_alloc_new _ _,Nat.le_refl _,by unfold maxLen;omega,rfl,rfl⟩⟩
theorem leaf_ok{w w1 w2:World}{e:Ex}{a2:Option Addr}{c2:Nat}(h1:Below w.heap.size w w1)(hb:Below w1.heap.size w1 w2)(hL:ExL w1 [] w2 a2 (copyT e).args)(hp:partsE e=[copyT e]) :
  PartsOk w e (.returned (.slice (some ⟨w2.heap.size,0,none⟩) 1 1)) (w2.alloc (.cells #[.int .i64 (copyT e).op,.int .i64 (copyT e).n,.int .i64 (copyT e).v.k,.int .i64 (copyT e).v.n,.string (copyT e).v.s,.slice a2 (copyT e).args.length c2] 28)):=by
 have hs:=h1.size
 have hs2:=hb.size
 refine⟨w2.heap.size,1,[(copyT e,a2,c2)],rfl,own_one w2 w.heap.size (by omega) (copyT e,a2,c2),by rw[hp];rfl,?_,below_alloc (below_step h1 hb) _⟩
 intro q hq W' hW hK
 rw[List.mem_singleton] at hq
 subst hq
 refine hL W' (below_between h1 (below_alloc hb _) hW hK (by simp;omega)) ?_
 refine⟨Nat.le_trans (below_alloc (Below.refl _ w2) _).size hK.size,fun b g1 g2 _=>?_⟩
 rw[hK.block b (by omega) (by simp[go_sem];omega) (by simp;omega),(below_alloc (Below.refl _ w2) _).block b g2]
theorem leaf_k2{w w1 w2:World}{e:Ex}{a2:Option Addr}{c2:Nat}(h1:Below w.heap.size w w1)(hb:Below w1.heap.size w1 w2)(hL:ExK w1.heap.size w2 a2 (copyT e).args)(hp:partsE e=[copyT e]) :
  PartsK w e (.returned (.slice (some ⟨w2.heap.size,0,none⟩) 1 1)) (w2.alloc (.cells #[.int .i64 (copyT e).op,.int .i64 (copyT e).n,.int .i64 (copyT e).v.k,.int .i64 (copyT e).v.n,.string (copyT e).v.s,.slice a2 (copyT e).args.length c2] 28)):=by
 have hs:=h1.size
 have hs2:=hb.size
 refine⟨w2.heap.size,1,[(copyT e,a2,c2)],rfl,own_one w2 w.heap.size (by omega) (copyT e,a2,c2),by rw[hp];rfl,?_,below_alloc (below_step h1 hb) _⟩
 intro q hq W' hK
 rw[List.mem_singleton] at hq
 subst hq
 refine hL W' ⟨Nat.le_trans (below_alloc (Below.refl _ w2) _).size hK.size,fun b g1 g2 _=>?_⟩
 rw[hK.block b (by omega) (by simp[go_sem];omega) (by simp;omega),(below_alloc (Below.refl _ w2) _).block b g2]
theorem parts_leaf(e:Ex)(hf:e.fin)(hp:partsE e=[copyT e])(hn:e.op≠19∨builtE e=false)(a:Option Addr)(c:Nat)(w:World)(ha:Ex.all w a e.args) :
  Calls Tryz.prog 29 #[e.val a c] w fun r w'=>PartsOk w e r w'/\(builtE e=true->PartsK w e r w'):=by
 have HB:=hide (fun (W:World) (hW:Below w.heap.size w W)=>built_any e hf a c W (Ex.all_later _ ha hW))
 have HC:=hide (fun (W:World) (hW:Below w.heap.size w W)=>copied_any e hf a c W (Ex.all_later _ ha hW))
 have HB0:=hide (below_alloc (Below.refl _ w) (.cells #[.int .i64 e.op,.int .i64 e.n,.int .i64 e.v.k,.int .i64 e.v.n,.string e.v.s,.slice a e.args.length c] 28))
 have H6:Hid (Six (w.alloc (.cells #[.int .i64 e.op,.int .i64 e.n,.int .i64 e.v.k,.int .i64 e.v.n,.string e.v.s,.slice a e.args.length c] 28)) w.heap.size e a c):=Six.new w e a c
 have HP:=hide hp
 have HBE:=hide (built_ends (e:=e))
 rw[Ex.val_open] at HB HC ⊢
 clear ha hp
 by_cases h19:e.op=19
 ·have hb:builtE e=false:=by rcases hn with h|h;exact absurd h19 h;exact h
  rw[hb] at HB
  rw[h19] at HB HC HB0 H6 ⊢
  have HBF:=hide hb
  clear hn hb
  go_enter Tryz.func29,Tryz.ntmps29
  go_wp2_with (first
   | (go_at_call 50;refine(unhide HB _ (unhide HB0)).mono ?_;rintro r w1 ⟨rfl,hb1⟩;have hB1:=below_step (unhide HB0) hb1;obtain⟨b0,b1,b2,b3,b4,b5⟩:=(unhide H6).later hb1)
   | (go_at_call 58;refine(unhide HC _ hB1).mono ?_;rintro r w2 ⟨a2,c2,rfl,hK2,hL2,hb2⟩;have HK2:=hide hK2;have HL2:=hide hL2;clear hK2 hL2;rw[Ex.val_open]))
  go_ret
  exact⟨leaf_ok hB1 hb2 (unhide HL2) (unhide HP),fun h=>by rw[unhide HBF] at h;cases h⟩
 ·clear hn
  go_enter Tryz.func29,Tryz.ntmps29
  go_wp2_with (go_at_call 58;refine(unhide HC _ (unhide HB0)).mono ?_;rintro r w2 ⟨a2,c2,rfl,hK2,hL2,hb2⟩;have HK2:=hide hK2;have HL2:=hide hL2;clear hK2 hL2;rw[Ex.val_open])
  go_ret
  exact⟨leaf_ok (unhide HB0) hb2 (unhide HL2) (unhide HP),fun h=>leaf_k2 (unhide HB0) hb2 (unhide HK2 (unhide HBE h)) (unhide HP)⟩
end Go.Proofs.YtbfibfmnemnbbaaGreat.E
set_option linter.unusedSimpArgs false
set_option linter.unusedVariables false
set_option maxHeartbeats 1000000
set_option maxRecDepth 100000
namespace Go.Proofs.YtbfibfmnemnbbaaGreat.E
open Go.RowKit Go.Sort
theorem op_append_nodes{o:Oper}{a:Act}{w:World}{K:Act->World->Prop}{Q:Exit->Act->World->Prop}(s x:Operand)(ho:o.op=.call { callee:=.builtin .append,args:=#[s,x],argTypes:=#[26,26] })
  (base base2:Nat) (v:Value) (L1 L2:List Nd) (hs:a.eval s=v) (hown:OwnE w base v L1) (g2 c2:Nat) (hx:a.eval x=.slice (some ⟨g2,0,none⟩) L2.length c2) (hown2:OwnE w base2 (.slice (some ⟨g2,0,none⟩) L2.length c2) L2)
  (hl:L1.length+L2.length<=1000000000) (hbase:base<=w.heap.size)
  (h:∀v' w',OwnE w' base v' (L1++L2)->w.grownBy w' v.ownBlock->(v'.ownBlock=v.ownBlock∨v'.ownBlock=some w.heap.size)->K (a.put o.dst v') w'):o.wp Tryz.prog a w K Q:=by
 obtain⟨i4,hi4,z40,z41,z42⟩:=info_parts info26
 obtain⟨v',w',hr,h2,h3,h4,h5⟩:=run_append_own_at (P:=Tryz.prog) w base 26 o.type 28 i4 (.agg #[.int .i64 0,.int .i64 0,.int .i64 0,.int .i64 0,.string ⟨#[]⟩,.slice none 0 0]) 6 72 Tryz.underlying26 hi4 z40 z41 z42 rfl (by decide) v L1.length (L1.flatMap sh) hown ⟨g2,0,none⟩ L2.length c2 (L2.flatMap sh) (sh_len L2) (World.ownsRow.cells hown2 rfl) (sh_all L2) (by unfold maxLen;omega) (by omega) hbase
 unfold Oper.wp execOp
 simp only[ho,resolve,invoke,builtin,Sem.run_bind,Sem.run_pure,Result.andThen_ok,List.map_toArray,List.map_cons,List.map_nil,hs,hx,hr]
 refine h v' w' ?_ h3 h5
 unfold OwnE
 rw[List.length_append,List.flatMap_append]
 exact h2
theorem joined_ok{w wA wB wC wD w3:World}{e x y:Ex}{v':Value}{g1 c1 g2:Nat}{L1 L2:List Nd}(hA:Below w.heap.size w wA)(hpe:partsE e=partsE x++partsE y)
  (m1:L1.map (·.1)=partsE x) (k1:∀q∈L1,ExN wA.heap.size [g1] wB q.2.1 q.1.args) (b1:Below wA.heap.size wA wB) (o1:OwnE wB wA.heap.size (.slice (some ⟨g1,0,none⟩) L1.length c1) L1)
  (hBC:Below wB.heap.size wB wC)
  (m2:L2.map (·.1)=partsE y) (k2:∀q∈L2,ExN wC.heap.size [g2] wD q.2.1 q.1.args) (b2:Below wC.heap.size wC wD)
  (o3:OwnE w3 wA.heap.size v' (L1++L2)) (gr:wD.grownBy w3 (some g1)) (hv:v'.ownBlock=some g1∨v'.ownBlock=some wD.heap.size) (hpos:0<(L1++L2).length):PartsK w e (.returned v') w3:=by
 obtain⟨g1',e1,hg1,hg1B⟩:=o1.some (by
  have:0<(partsE x).length:=parts_pos x
  rw[<-m1,List.length_map] at this
  exact this)
 injection e1 with e1
 injection e1 with e1 _
 subst e1
 obtain⟨a3,cap3,rfl⟩:=o3.slice
 obtain⟨g3,rfl,hg3,_⟩:=o3.some hpos
 have sA:=hA.size
 have sB:=b1.size
 have sC:=hBC.size
 have sD:=b2.size
 have hv:g3=g1∨g3=wD.heap.size:=by
  simp only[Value.ownBlock,Option.some.injEq] at hv
  exact hv
 have hb13:Below wA.heap.size wA w3:=(below_step (below_step b1 hBC) b2).trans (grown_below gr (by omega) (fun g h=>by injection h with h;omega))
 refine⟨g3,cap3,L1++L2,rfl,?_,by rw[List.map_append,m1,m2,hpe],?_,below_step hA hb13⟩
 ·obtain⟨h1,h2⟩:=o3
  refine⟨h1,?_⟩
  rcases h2 with h2|⟨g,cap,cur,q1,q2,q3⟩
  ·exact .inl h2
  ·exact .inr ⟨g,cap,cur,q1,by omega,q3⟩
 ·intro q hq W' hK
  rcases List.mem_append.1 hq with hq|hq
  ·refine k1 q hq W' ⟨by have:=hK.size;have:=gr.size;omega,fun b h1 h2 h3=>?_⟩
   rw[List.mem_singleton] at h3
   rw[hK.block b (by omega) (by have:=gr.size;omega) (by rw[List.mem_singleton];omega),gr.block b (by omega) (by simp;exact h3),b2.block b (by omega),hBC.block b h2]
  ·refine k2 q hq W' ⟨by have:=hK.size;have:=gr.size;omega,fun b h1 h2 h3=>?_⟩
   rw[hK.block b (by omega) (by have:=gr.size;omega) (by rw[List.mem_singleton];omega),gr.block b h2 (by simp;omega)]
theorem parts_and(e:Ex)(hf:e.fin)(h19:e.op=19)(hbt:builtE e=true)(x y:Ex)(hxy:e.args=[x,y])(a:Option Addr)(c:Nat)(w:World)(ha:Ex.all w a e.args)
  (IHx:∀(a':Option Addr) (c':Nat) (W:World),Ex.all W a' x.args->Calls Tryz.prog 29 #[x.val a' c'] W (PartsK W x))
  (IHy:∀(a':Option Addr) (c':Nat) (W:World),Ex.all W a' y.args->Calls Tryz.prog 29 #[y.val a' c'] W (PartsK W y)) :
  Calls Tryz.prog 29 #[e.val a c] w (PartsK w e):=by
 have HB:=hide (fun (W:World) (hW:Below w.heap.size w W)=>built_any e hf a c W (Ex.all_later _ ha hW))
 have HB0:=hide (below_alloc (Below.refl _ w) (.cells #[.int .i64 e.op,.int .i64 e.n,.int .i64 e.v.k,.int .i64 e.v.n,.string e.v.s,.slice a e.args.length c] 28))
 have H6:Hid (Six (w.alloc (.cells #[.int .i64 e.op,.int .i64 e.n,.int .i64 e.v.k,.int .i64 e.v.n,.string e.v.s,.slice a e.args.length c] 28)) w.heap.size e a c):=Six.new w e a c
 obtain⟨vb,vo,rfl,hx0⟩:=Ex.all_get ha (i:=0) (e:=x) (by rw[hxy];rfl)
 obtain⟨vb',vo',ee,hy0⟩:=Ex.all_get ha (i:=1) (e:=y) (by rw[hxy];rfl)
 injection ee with ee
 injection ee with e1 e2
 subst e1 e2
 have HX:=hide (fun (W:World) (hW:Below w.heap.size w W)=>Ex.at_open (Ex.at_later _ hx0 hW))
 have HY:=hide (fun (W:World) (hW:Below w.heap.size w W)=>Ex.at_open (Ex.at_later _ hy0 hW))
 have hln:e.args.length=2:=by rw[hxy];rfl
 have HPE:Hid (partsE e=partsE x++partsE y):=by
  show _=_
  rw[partsE_eq,h19,hbt,hxy,partsL,partsL,partsL,List.append_nil]
  rfl
 have hpl:=parts_400 hbt
 rw[unhide HPE,List.length_append] at hpl
 have HIX:=hide IHx
 have HIY:=hide IHy
 rw[Ex.val_open] at HB ⊢
 rw[hbt] at HB
 rw[h19,hln] at HB HB0 H6 ⊢
 clear ha IHx IHy hx0 hy0 hxy hbt hf
 go_enter Tryz.func29,Tryz.ntmps29
 go_wp2_with (go_at_call 50;refine(unhide HB _ (unhide HB0)).mono ?_;rintro r w1 ⟨rfl,hb1⟩;have hB1:=below_step (unhide HB0) hb1;obtain⟨b0,b1,b2,b3,b4,b5⟩:=(unhide H6).later hb1)
 obtain⟨ax,cx,⟨x0,x1,x2,x3,x4,x5⟩,hax⟩:=unhide HX w1 hB1
 obtain⟨ay,cy,⟨y0,y1,y2,y3,y4,y5⟩,hay⟩:=unhide HY w1 hB1
 rw[Nat.zero_mul,Nat.add_zero] at x0 x1 x2 x3 x4 x5
 rw[Nat.one_mul] at y0 y1 y2 y3 y4 y5
 have HAX:=hide hax
 have HAY:=hide hay
 have HB1:=hide hB1
 rw[hln] at b5
 clear hax hay hB1 hb1 HX HY HB H6 HB0 hln
 go_cut[2] (fun v wx=>Hid (PartsK w e (.returned v) wx))
 case first=>
  refine wp_region_noPanic ?_
  refine wp_region_G (S:=fun w':World=>Below w1.heap.size w1 w') (k:=11) (by kernel_rfl) ?_
  refine anyG_takel (i:=0) (v:=(.pointer (some ⟨w.heap.size,5,none⟩))) [1,2,3,4,10,11] rfl (by kernel_rfl) (by kernel_rfl) (by kernel_rfl) (by kernel_rfl) (fun _ _ _ h=>h) (Or.inl ⟨by rfl,fun w' hSw=>?_⟩) ((Below.refl _ w1).drew) ?_
  ·have e5:=clater b5 hSw;have f0:=clater x0 hSw;have f1:=clater x1 hSw;have f2:=clater x2 hSw;have f3:=clater x3 hSw;have f4:=clater x4 hSw;have f5:=clater x5 hSw;have f6:=clater y0 hSw;have f7:=clater y1 hSw;have f8:=clater y2 hSw;have f9:=clater y3 hSw;have f10:=clater y4 hSw;have f11:=clater y5 hSw
   clear b0 b1 b2 b3 b4 b5 x0 x1 x2 x3 x4 x5 y0 y1 y2 y3 y4 y5
   go_simp
  try simp only[Act.put,List.setIfInBounds_toArray,List.set_cons_zero,List.set_cons_succ]
  refine anyG_takel (i:=1) (v:=(.slice (some ⟨vb,vo,none⟩) 2 c)) [2,3,4,10,11] rfl (by kernel_rfl) (by kernel_rfl) (by kernel_rfl) (by kernel_rfl) (fun _ _ _ h=>h) (Or.inl ⟨by rfl,fun w' hSw=>?_⟩) ((Below.refl _ w1).drew) ?_
  ·have e5:=clater b5 hSw;have f0:=clater x0 hSw;have f1:=clater x1 hSw;have f2:=clater x2 hSw;have f3:=clater x3 hSw;have f4:=clater x4 hSw;have f5:=clater x5 hSw;have f6:=clater y0 hSw;have f7:=clater y1 hSw;have f8:=clater y2 hSw;have f9:=clater y3 hSw;have f10:=clater y4 hSw;have f11:=clater y5 hSw
   clear b0 b1 b2 b3 b4 b5 x0 x1 x2 x3 x4 x5 y0 y1 y2 y3 y4 y5
   go_simp
  try simp only[Act.put,List.setIfInBounds_toArray,List.set_cons_zero,List.set_cons_succ]
  refine anyG_takel (i:=2) (v:=(.pointer (some ⟨vb,vo,none⟩))) [3,4,10,11] rfl (by kernel_rfl) (by kernel_rfl) (by kernel_rfl) (by kernel_rfl) (fun _ _ _ h=>h) (Or.inl ⟨by rfl,fun w' hSw=>?_⟩) ((Below.refl _ w1).drew) ?_
  ·have e5:=clater b5 hSw;have f0:=clater x0 hSw;have f1:=clater x1 hSw;have f2:=clater x2 hSw;have f3:=clater x3 hSw;have f4:=clater x4 hSw;have f5:=clater x5 hSw;have f6:=clater y0 hSw;have f7:=clater y1 hSw;have f8:=clater y2 hSw;have f9:=clater y3 hSw;have f10:=clater y4 hSw;have f11:=clater y5 hSw
   clear b0 b1 b2 b3 b4 b5 x0 x1 x2 x3 x4 x5 y0 y1 y2 y3 y4 y5
   go_simp
  try simp only[Act.put,List.setIfInBounds_toArray,List.set_cons_zero,List.set_cons_succ]
  refine anyG_takel (i:=3) (v:=(.agg #[.int .i64 x.op,.int .i64 x.n,.int .i64 x.v.k,.int .i64 x.v.n,.string x.v.s,.slice ax x.args.length cx])) [4,10,11] rfl (by kernel_rfl) (by kernel_rfl) (by kernel_rfl) (by kernel_rfl) (fun _ _ _ h=>h) (Or.inl ⟨by rfl,fun w' hSw=>?_⟩) ((Below.refl _ w1).drew) ?_
  ·have e5:=clater b5 hSw;have f0:=clater x0 hSw;have f1:=clater x1 hSw;have f2:=clater x2 hSw;have f3:=clater x3 hSw;have f4:=clater x4 hSw;have f5:=clater x5 hSw;have f6:=clater y0 hSw;have f7:=clater y1 hSw;have f8:=clater y2 hSw;have f9:=clater y3 hSw;have f10:=clater y4 hSw;have f11:=clater y5 hSw
   clear b0 b1 b2 b3 b4 b5 x0 x1 x2 x3 x4 x5 y0 y1 y2 y3 y4 y5
   go_simp
  try simp only[Act.put,List.setIfInBounds_toArray,List.set_cons_zero,List.set_cons_succ]
  refine anyG_takel (i:=5) (v:=(.pointer (some ⟨w.heap.size,5,none⟩))) [6,7,8,9,10,11] rfl (by kernel_rfl) (by kernel_rfl) (by kernel_rfl) (by kernel_rfl) (fun _ _ _ h=>h) (Or.inl ⟨by rfl,fun w' hSw=>?_⟩) ((Below.refl _ w1).drew) ?_
  ·have e5:=clater b5 hSw;have f0:=clater x0 hSw;have f1:=clater x1 hSw;have f2:=clater x2 hSw;have f3:=clater x3 hSw;have f4:=clater x4 hSw;have f5:=clater x5 hSw;have f6:=clater y0 hSw;have f7:=clater y1 hSw;have f8:=clater y2 hSw;have f9:=clater y3 hSw;have f10:=clater y4 hSw;have f11:=clater y5 hSw
   clear b0 b1 b2 b3 b4 b5 x0 x1 x2 x3 x4 x5 y0 y1 y2 y3 y4 y5
   go_simp
  try simp only[Act.put,List.setIfInBounds_toArray,List.set_cons_zero,List.set_cons_succ]
  refine anyG_takel (i:=6) (v:=(.slice (some ⟨vb,vo,none⟩) 2 c)) [7,8,9,10,11] rfl (by kernel_rfl) (by kernel_rfl) (by kernel_rfl) (by kernel_rfl) (fun _ _ _ h=>h) (Or.inl ⟨by rfl,fun w' hSw=>?_⟩) ((Below.refl _ w1).drew) ?_
  ·have e5:=clater b5 hSw;have f0:=clater x0 hSw;have f1:=clater x1 hSw;have f2:=clater x2 hSw;have f3:=clater x3 hSw;have f4:=clater x4 hSw;have f5:=clater x5 hSw;have f6:=clater y0 hSw;have f7:=clater y1 hSw;have f8:=clater y2 hSw;have f9:=clater y3 hSw;have f10:=clater y4 hSw;have f11:=clater y5 hSw
   clear b0 b1 b2 b3 b4 b5 x0 x1 x2 x3 x4 x5 y0 y1 y2 y3 y4 y5
   go_simp
  try simp only[Act.put,List.setIfInBounds_toArray,List.set_cons_zero,List.set_cons_succ]
  refine anyG_takel (i:=7) (v:=(.pointer (some ⟨vb,vo+6,none⟩))) [8,9,10,11] rfl (by kernel_rfl) (by kernel_rfl) (by kernel_rfl) (by kernel_rfl) (fun _ _ _ h=>h) (Or.inl ⟨by rfl,fun w' hSw=>?_⟩) ((Below.refl _ w1).drew) ?_
  ·have e5:=clater b5 hSw;have f0:=clater x0 hSw;have f1:=clater x1 hSw;have f2:=clater x2 hSw;have f3:=clater x3 hSw;have f4:=clater x4 hSw;have f5:=clater x5 hSw;have f6:=clater y0 hSw;have f7:=clater y1 hSw;have f8:=clater y2 hSw;have f9:=clater y3 hSw;have f10:=clater y4 hSw;have f11:=clater y5 hSw
   clear b0 b1 b2 b3 b4 b5 x0 x1 x2 x3 x4 x5 y0 y1 y2 y3 y4 y5
   go_simp
  try simp only[Act.put,List.setIfInBounds_toArray,List.set_cons_zero,List.set_cons_succ]
  refine anyG_takel (i:=8) (v:=(.agg #[.int .i64 y.op,.int .i64 y.n,.int .i64 y.v.k,.int .i64 y.v.n,.string y.v.s,.slice ay y.args.length cy])) [9,10,11] rfl (by kernel_rfl) (by kernel_rfl) (by kernel_rfl) (by kernel_rfl) (fun _ _ _ h=>h) (Or.inl ⟨by rfl,fun w' hSw=>?_⟩) ((Below.refl _ w1).drew) ?_
  ·have e5:=clater b5 hSw;have f0:=clater x0 hSw;have f1:=clater x1 hSw;have f2:=clater x2 hSw;have f3:=clater x3 hSw;have f4:=clater x4 hSw;have f5:=clater x5 hSw;have f6:=clater y0 hSw;have f7:=clater y1 hSw;have f8:=clater y2 hSw;have f9:=clater y3 hSw;have f10:=clater y4 hSw;have f11:=clater y5 hSw
   clear b0 b1 b2 b3 b4 b5 x0 x1 x2 x3 x4 x5 y0 y1 y2 y3 y4 y5
   go_simp
  try simp only[Act.put,List.setIfInBounds_toArray,List.set_cons_zero,List.set_cons_succ]
  clear b0 b1 b2 b3 b4 b5 x0 x1 x2 x3 x4 x5 y0 y1 y2 y3 y4 y5
  have HCX:=hide (unhide HIX ax cx _ (Ex.all_later _ (unhide HAX) ((Below.refl _ w1).drew)))
  rw[Ex.val_open] at HCX
  refine anyG_one (i:=4) (by kernel_rfl) ?_
  refine wpOp_lit rfl (by rfl) fun K' hK'=>?_
  go_simp
  refine(unhide HCX).mono ?_
  rintro r wB ⟨g1,c1,L1,rfl,o1,m1,k1,bb1⟩
  go_simp
  have hS1:Below w1.heap.size w1 wB:=below_step ((Below.refl _ w1).drew) bb1
  have hbg1:w1.heap.size<=g1:=by
   obtain⟨g',e',h',_⟩:=o1.some (by have:=parts_pos x;rw[<-m1,List.length_map] at this;exact this)
   injection e' with e'
   injection e' with e' _
   rw[e']
   exact h'
  have HO1:=hide o1
  have HM1:=hide m1
  have HK1:=hide k1
  have HBB1:=hide bb1
  clear HCX o1 m1 k1 bb1
  refine unhide hK' _ _ ⟨fun _=>hS1,?_⟩
  clear hK' K'
  have HCY:=hide (unhide HIY ay cy wB (Ex.all_later _ (unhide HAY) hS1))
  rw[Ex.val_open] at HCY
  refine anyG_one (i:=9) (by kernel_rfl) ?_
  refine wpOp_lit rfl (by rfl) fun K' hK'=>?_
  go_simp
  refine(unhide HCY).mono ?_
  rintro r wD ⟨g2,c2,L2,rfl,o2,m2,k2,bb2⟩
  go_simp
  have hS2:Below w1.heap.size w1 wD:=below_step hS1 bb2
  refine unhide hK' _ _ ⟨fun _=>hS2,?_⟩
  clear hK' K' HCY
  have hl12:L1.length+L2.length<=1000000000:=by
   have h1:L1.length=(partsE x).length:=by rw[<-unhide HM1,List.length_map]
   have h2:L2.length=(partsE y).length:=by rw[<-m2,List.length_map]
   omega
  have hpos:0<(L1++L2).length:=by
   have h1:L1.length=(partsE x).length:=by rw[<-unhide HM1,List.length_map]
   have:=parts_pos x
   rw[List.length_append]
   omega
  refine anyG_one (i:=10) (by kernel_rfl) ?_
  refine wpOp_lit rfl (by rfl) fun K' hK'=>?_
  refine op_append_nodes (.tmp 18) (.tmp 23) rfl w1.drew.heap.size wB.heap.size (.slice (some ⟨g1,0,none⟩) L1.length c1) L1 L2 rfl ((unhide HO1).later bb2) g2 c2 rfl o2 hl12 hS2.size ?_
  intro v3 w3 o3 gr hv
  have hS3:Below w1.heap.size w1 w3:=hS2.trans (grown_below gr hS2.size (fun g h=>by simp[Value.ownBlock] at h;omega))
  refine unhide hK' _ _ ⟨fun _=>hS3,?_⟩
  clear hK' K'
  have HFIN:=hide (joined_ok (w3:=w3) (v':=v3) (below_step (unhide HB1) ((Below.refl _ w1).drew)) (unhide HPE) (unhide HM1) (unhide HK1) (unhide HBB1) (unhide HO1) (Below.refl _ wB) m2 k2 bb2 o3 gr hv hpos)
  clear o2 m2 k2 bb2 o3 gr hv hpos hl12
  simp only[Act.put,List.setIfInBounds_toArray,List.set_cons_zero,List.set_cons_succ]
  refine anyG_one (i:=11) (by kernel_rfl) ?_
  refine wpOp_lit rfl (by rfl) fun K' hK'=>?_
  go_simp
  refine unhide hK' _ _ ⟨fun hh=>absurd hh (by decide),?_⟩
  clear hK' K'
  refine anyG_done (by kernel_rfl) ?_ _
  refine NoPanic.normal ?_
  go_wp2
  go_meet
  exact HFIN
 case rest=>
  go_wp2
  go_ret
  exact unhide hcut
theorem parts_built:∀(k:Nat) (e:Ex),e.size<=k->e.fin->builtE e=true->∀(a:Option Addr) (c:Nat) (w:World),Ex.all w a e.args->Calls Tryz.prog 29 #[e.val a c] w (PartsK w e)
 | 0,e,hs,_,_,_,_,_,_=>by rw[Ex.size_mk] at hs;omega
 | k+1,e,hs,hf,hb,a,c,w,ha=>by
  by_cases h19:e.op=19
  ·obtain⟨x,y,hxy⟩:=two_args (built_good hb) (by rw[h19];decide)
   have h0:e.args[0]?=some x:=by rw[hxy];rfl
   have h1:e.args[1]?=some y:=by rw[hxy];rfl
   have s0:=Ex.size_arg h0
   have s1:=Ex.size_arg h1
   exact parts_and e hf h19 hb x y hxy a c w ha (fun a' c' W hW=>parts_built k x (by omega) (Ex.fin_arg hf h0) (built_arg hb h0) a' c' W hW) (fun a' c' W hW=>parts_built k y (by omega) (Ex.fin_arg hf h1) (built_arg hb h1) a' c' W hW)
  ·have hp:partsE e=[copyT e]:=by
    rw[partsE_eq,if_neg]
    simp[h19]
   exact(parts_leaf e hf hp (.inl h19) a c w ha).mono fun r w' h=>h.2 hb
theorem parts_any(e:Ex)(hf:e.fin)(a:Option Addr)(c:Nat)(w:World)(ha:Ex.all w a e.args):Calls Tryz.prog 29 #[e.val a c] w (PartsOk w e):=by
 by_cases hb:builtE e=true
 ·exact(parts_built e.size e (Nat.le_refl _) hf hb a c w ha).mono fun r w' h=>h.ok
 ·have hb:builtE e=false:=by simpa using hb
  have hp:partsE e=[copyT e]:=by
   rw[partsE_eq,if_neg]
   simp[hb]
  exact(parts_leaf e hf hp (.inr hb) a c w ha).mono fun r w' h=>h.1
end Go.Proofs.YtbfibfmnemnbbaaGreat.E
