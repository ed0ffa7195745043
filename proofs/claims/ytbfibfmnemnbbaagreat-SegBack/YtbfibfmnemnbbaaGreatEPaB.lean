import Derived.Test.YtbfibfmnemnbbaaGreatEExH
import Derived.Test.YtbfibfmnemnbbaaGreatEOwnA
import Derived.Test.YtbfibfmnemnbbaaGreatEExO
import Derived.Maps.AppendAt
import Derived.Laws.AppendOwnNone
import Derived.Lib.SliceRun
set_option linter.unusedSimpArgs false
set_option linter.unusedVariables false
set_option maxHeartbeats 2000000
set_option maxRecDepth 100000
namespace Go.Proofs.YtbfibfmnemnbbaaGreat.E
open Go.RowKit Go.Sort
abbrev Nd:=Ex×Option Addr×Nat
def sh(q:Nd):List Value:=[.int .i64 q.1.op,.int .i64 q.1.n,.int .i64 q.1.v.k,.int .i64 q.1.v.n,.string q.1.v.s,.slice q.2.1 q.1.args.length q.2.2]
theorem info26:(Tryz.prog.info? 28).map (fun i=>(i.zero,i.size,i.bytes))=some (some (.agg #[.int .i64 0,.int .i64 0,.int .i64 0,.int .i64 0,.string ⟨#[]⟩,.slice none 0 0]),6,72):=by kernel_rfl
def OwnE(w:World)(base:Nat)(v:Value)(L:List Nd):Prop:=w.ownsRow base 28 6 v L.length (L.flatMap sh)
theorem OwnE.later{w w1:World}{base:Nat}{v:Value}{xs:List Nd}(h:OwnE w base v xs)(hb:Below w.heap.size w w1):OwnE w1 base v xs:=own_later h hb
theorem sh_at:∀(zs:List Nd) (i j:Nat) (x:Nd),zs[i]?=some x->j<6->(zs.flatMap sh)[i*6+j]?=(sh x)[j]?
 | [],i,j,x,h,_=>by simp at h
 | z::zs,0,j,x,h,hj=>by
  simp at h
  subst h
  rw[List.flatMap_cons,List.getElem?_append_left (by simp[sh];omega)]
  simp
 | z::zs,i+1,j,x,h,hj=>by
  have ih:=sh_at zs i j x (by simpa using h) hj
  rw[List.flatMap_cons,List.getElem?_append_right (by simp[sh];omega)]
  rw[<-ih]
  congr 1
  simp[sh]
  omega
theorem sh_len(zs:List Nd):(zs.flatMap sh).length=zs.length*6:=by
 induction zs with
 | nil=>rfl
 | cons z zs ih=>rw[List.flatMap_cons,List.length_append,ih];simp[sh];omega
theorem sh_all(xs:List Nd):∀u∈xs.flatMap sh,u.oneCell'=true:=by
 intro u hu
 obtain⟨x,_,hx⟩:=List.mem_flatMap.1 hu
 simp[sh] at hx
 rcases hx with rfl|rfl|rfl|rfl|rfl|rfl<;>rfl
theorem sh_set:∀(L:List Nd) (j:Nat) (x:Nd),j<L.length->((((((L.flatMap sh).set (j*6) (.int .i64 x.1.op)).set (j*6+1) (.int .i64 x.1.n)).set (j*6+2) (.int .i64 x.1.v.k)).set (j*6+3) (.int .i64 x.1.v.n)).set (j*6+4) (.string x.1.v.s)).set (j*6+5) (.slice x.2.1 x.1.args.length x.2.2)=(L.set j x).flatMap sh
 | [],j,x,h=>by simp at h
 | z::L,0,x,_=>by simp[sh]
 | z::L,j+1,x,h=>by
  have ih:=sh_set L j x (by simpa using h)
  rw[List.set_cons_succ,List.flatMap_cons,List.flatMap_cons,<-ih]
  simp only[sh,List.cons_append,List.nil_append]
  have e:∀k,(j+1)*6+k=(j*6+k)+1+1+1+1+1+1:=by omega
  have e0:(j+1)*6=j*6+1+1+1+1+1+1:=by omega
  rw[e 1,e 2,e 3,e 4,e 5,e0]
  simp only[List.set_cons_succ]
theorem OwnE.len{w:World}{base g N cap:Nat}{L:List Nd}(h:OwnE w base (.slice (some ⟨g,0,none⟩) N cap) L):N=L.length:=by
 rcases h.2 with ⟨e,_⟩|⟨g',cap',cur,e,_⟩
 ·cases e
 ·injection e
theorem OwnE.put{w:World}{base g N cap j:Nat}{L:List Nd}(h:OwnE w base (.slice (some ⟨g,0,none⟩) N cap) L)(hj:j<L.length)(x:Nd) :
  OwnE ((((((w.setCell ⟨g,j*6,none⟩ (.int .i64 x.1.op)).setCell ⟨g,j*6+1,none⟩ (.int .i64 x.1.n)).setCell ⟨g,j*6+2,none⟩ (.int .i64 x.1.v.k)).setCell ⟨g,j*6+3,none⟩ (.int .i64 x.1.v.n)).setCell ⟨g,j*6+4,none⟩ (.string x.1.v.s)).setCell ⟨g,j*6+5,none⟩ (.slice x.2.1 x.1.args.length x.2.2)) base (.slice (some ⟨g,0,none⟩) N cap) (L.set j x):=by
 have hN:=h.len
 subst hN
 have h1:=(World.ownsRow.stored h (j*6) (.int .i64 x.1.op)).1
 have h2:=(World.ownsRow.stored h1 (j*6+1) (.int .i64 x.1.n)).1
 have h3:=(World.ownsRow.stored h2 (j*6+2) (.int .i64 x.1.v.k)).1
 have h4:=(World.ownsRow.stored h3 (j*6+3) (.int .i64 x.1.v.n)).1
 have h5:=(World.ownsRow.stored h4 (j*6+4) (.string x.1.v.s)).1
 have h6:=(World.ownsRow.stored h5 (j*6+5) (.slice x.2.1 x.1.args.length x.2.2)).1
 rw[sh_set L j x hj] at h6
 unfold OwnE
 rw[List.length_set]
 exact h6
def Cells6(w:World)(b off:Nat)(q:Nd):Prop:=w.cell? ⟨b,off,none⟩=some (.int .i64 q.1.op)/\w.cell? ⟨b,off+1,none⟩=some (.int .i64 q.1.n)/\w.cell? ⟨b,off+2,none⟩=some (.int .i64 q.1.v.k)/\w.cell? ⟨b,off+3,none⟩=some (.int .i64 q.1.v.n)/\w.cell? ⟨b,off+4,none⟩=some (.string q.1.v.s)/\w.cell? ⟨b,off+5,none⟩=some (.slice q.2.1 q.1.args.length q.2.2)
theorem OwnE.facts{w:World}{base g N cap j:Nat}{L:List Nd}{x:Nd}(h:OwnE w base (.slice (some ⟨g,0,none⟩) N cap) L)(hj:L[j]?=some x) :
  Cells6 w g (j*6) x/\(w.frozen? ⟨g,j*6,none⟩=false/\w.frozen? ⟨g,j*6+1,none⟩=false/\w.frozen? ⟨g,j*6+2,none⟩=false/\w.frozen? ⟨g,j*6+3,none⟩=false/\w.frozen? ⟨g,j*6+4,none⟩=false/\w.frozen? ⟨g,j*6+5,none⟩=false):=by
 have hN:=h.len
 subst hN
 have hl:=(List.getElem?_eq_some_iff.1 hj).1
 refine⟨⟨?_,?_,?_,?_,?_,?_⟩,World.ownsRow.frozenAt h _,World.ownsRow.frozenAt h _,World.ownsRow.frozenAt h _,World.ownsRow.frozenAt h _,World.ownsRow.frozenAt h _,World.ownsRow.frozenAt h _⟩
 ·rw[World.ownsRow.cellAt h (j*6) (by omega)];exact sh_at L j 0 x hj (by omega)
 ·rw[World.ownsRow.cellAt h (j*6+1) (by omega)];exact sh_at L j 1 x hj (by omega)
 ·rw[World.ownsRow.cellAt h (j*6+2) (by omega)];exact sh_at L j 2 x hj (by omega)
 ·rw[World.ownsRow.cellAt h (j*6+3) (by omega)];exact sh_at L j 3 x hj (by omega)
 ·rw[World.ownsRow.cellAt h (j*6+4) (by omega)];exact sh_at L j 4 x hj (by omega)
 ·rw[World.ownsRow.cellAt h (j*6+5) (by omega)];exact sh_at L j 5 x hj (by omega)
theorem OwnE.some{w:World}{base n cap:Nat}{a:Option Addr}{L:List Nd}(h:OwnE w base (.slice a n cap) L)(hl:0<L.length):∃g,a=some ⟨g,0,none⟩/\base<=g/\g<w.heap.size:=by
 rcases h.2 with ⟨_,h0⟩|⟨g,cap',cur,e,hb,hg,_⟩
 ·omega
 ·injection e with e
  exact⟨g,e,hb,(Array.getElem?_eq_some_iff.1 hg).1⟩
theorem OwnE.slice{w:World}{base:Nat}{v:Value}{L:List Nd}(h:OwnE w base v L):∃a cap,v=.slice a L.length cap:=by
 rcases h.2 with ⟨rfl,h0⟩|⟨g,cap,cur,rfl,_⟩
 ·have:L=[]:=List.eq_nil_of_length_eq_zero h0
  subst this
  exact⟨none,0,rfl⟩
 ·exact⟨_,cap,rfl⟩
theorem all_nodes{w:World}:∀(l:List Ex) (a:Option Addr),Ex.all w a l->∃L:List Nd,L.map (·.1)=l/\(∀q∈L,Ex.all w q.2.1 q.1.args)/\(l=[]∨∃b off,a=some ⟨b,off,none⟩/\∀i q,L[i]?=some q->Cells6 w b (off+i*6) q)
 | [],a,_=>⟨[],rfl,by simp,.inl rfl⟩
 | e::l,a,h=>by
  rw[Ex.all] at h
  obtain⟨b,off,rfl,h1,h2⟩:=h
  obtain⟨a',c',hc,ha⟩:=Ex.at_open h1
  obtain⟨L,g1,g2,g3⟩:=all_nodes l _ h2
  refine⟨(e,a',c')::L,by simp[g1],?_,.inr ⟨b,off,rfl,?_⟩⟩
  ·intro q hq
   rcases List.mem_cons.1 hq with rfl|hq
   ·exact ha
   ·exact g2 q hq
  ·intro i q hq
   cases i with
   | zero=>
    simp at hq
    subst hq
    simpa [Cells6] using hc
   | succ i=>
    rcases g3 with rfl|⟨b',off',e',g3⟩
    ·have:L=[]:=by cases L with
      | nil=>rfl
      | cons _ _=>simp at g1
     subst this
     simp at hq
    ·injection e' with e'
     injection e' with e1 e2
     subst e1 e2
     have:=g3 i q (by simpa using hq)
     rw[show off+(i+1)*6=off+6+i*6 by omega]
     exact this
theorem nodes_cells{w:World}{b off:Nat}{L:List Nd}(h:∀i q,L[i]?=some q->Cells6 w b (off+i*6) q):∀j u,(L.flatMap sh)[j]?=some u->w.cell? ((⟨b,off,none⟩:Addr).add j)=some u:=by
 intro j u hj
 rw[Addr.add_lit]
 have hlt:j<L.length*6:=by rw[<-sh_len];exact(List.getElem?_eq_some_iff.1 hj).1
 obtain⟨x,hx⟩:∃x,L[j / 6]?=some x:=⟨_,List.getElem?_eq_getElem (by omega)⟩
 have hf:=sh_at L (j / 6) (j % 6) x hx (by omega)
 rw[show j / 6*6+j % 6=j by omega,hj] at hf
 obtain⟨h0,h1,h2,h3,h4,h5⟩:=h (j / 6) x hx
 have h6:j % 6=0∨j % 6=1∨j % 6=2∨j % 6=3∨j % 6=4∨j % 6=5:=by omega
 rcases h6 with h6|h6|h6|h6|h6|h6<;>rw[h6] at hf<;>simp[sh] at hf<;>subst hf
 ·rw[show off+j=off+j / 6*6 by omega];exact h0
 ·rw[show off+j=off+j / 6*6+1 by omega];exact h1
 ·rw[show off+j=off+j / 6*6+2 by omega];exact h2
 ·rw[show off+j=off+j / 6*6+3 by omega];exact h3
 ·rw[show off+j=off+j / 6*6+4 by omega];exact h4
 ·rw[show off+j=off+j / 6*6+5 by omega];exact h5
def ExK(lo:Nat)(w:World)(a:Option Addr)(l:List Ex):Prop:=∀W',Kept lo [] w W'->Ex.all W' a l
theorem ExK.on{lo:Nat}{w w':World}{a:Option Addr}{l:List Ex}(h:ExK lo w a l)(hk:Kept lo [] w w'):ExK lo w' a l:=fun W' hW=>h W' (hk.trans hW)
theorem ExK.more{lo lo':Nat}{w:World}{a:Option Addr}{l:List Ex}(h:ExK lo w a l)(hl:lo'<=lo):ExK lo' w a l:=fun W' hW=>h W' (hW.more hl (by simp))
theorem ownE_all{w:World}{base g N cap:Nat}{L:List Nd}(h:OwnE w base (.slice (some ⟨g,0,none⟩) N cap) L)(hL:∀q∈L,Ex.all w q.2.1 q.1.args):Ex.all w (some ⟨g,0,none⟩) (L.map (·.1)):=by
 refine Ex.all_of _ 0 fun i e he=>?_
 obtain⟨q,hq,rfl⟩:∃q,L[i]?=some q/\q.1=e:=by
  rw[List.getElem?_map] at he
  cases hq:L[i]? with
  | none=>rw[hq] at he;cases he
  | some q=>rw[hq] at he;exact⟨q,rfl,by simpa using he⟩
 have hc:=(h.facts hq).1
 rw[show 0+i*6=i*6 by omega]
 exact Ex.at_mk hc (hL q (List.mem_of_getElem? hq))
theorem ownE_kept{w W':World}{base g N cap lo:Nat}{L:List Nd}(h:OwnE w base (.slice (some ⟨g,0,none⟩) N cap) L)(hk:Kept lo [] w W')(hg:lo<=g)(hL:∀q∈L,Ex.all W' q.2.1 q.1.args):Ex.all W' (some ⟨g,0,none⟩) (L.map (·.1)):=by
 refine Ex.all_of _ 0 fun i e he=>?_
 obtain⟨q,hq,rfl⟩:∃q,L[i]?=some q/\q.1=e:=by
  rw[List.getElem?_map] at he
  cases hq:L[i]? with
  | none=>rw[hq] at he;cases he
  | some q=>rw[hq] at he;exact⟨q,rfl,by simpa using he⟩
 obtain⟨h0,h1,h2,h3,h4,h5⟩:=(h.facts hq).1
 rw[show 0+i*6=i*6 by omega]
 exact Ex.at_mk ⟨Kept.cell h0 hk hg (by simp),Kept.cell h1 hk hg (by simp),Kept.cell h2 hk hg (by simp),Kept.cell h3 hk hg (by simp),Kept.cell h4 hk hg (by simp),Kept.cell h5 hk hg (by simp)⟩ (hL q (List.mem_of_getElem? hq))
theorem eclone_any(a:Option Addr)(c:Nat)(L:List Nd)(w:World)(hl:L.length<=1000000000)(ha:L=[]∨∃b off,a=some ⟨b,off,none⟩/\∀i q,L[i]?=some q->Cells6 w b (off+i*6) q)(hn:a=none->L=[]) :
  Calls Tryz.prog 104 #[.slice a L.length c] w fun e w'=>∃v,e=.returned v/\OwnE w' w.heap.size v L/\Below w.heap.size w w':=by
 obtain⟨i4,hi4,z40,z41,z42⟩:=info_parts info26
 cases a with
 | none=>
  have hx:=hn rfl
  subst hx
  clear hn ha
  have hcmp:∀w',(binOp .eql 26 (.slice none 0 c) (.slice none 0 0)).run Tryz.prog w'=.ok (.bool true) w':=fun w'=>by rw[Go.Lib.run_eql_slice_nil w' 26 28 none 0 c 0 0 Tryz.underlying26];rfl
  go_enter Tryz.func104,Tryz.ntmps104
  go_wp2
  go_ret
  exact⟨_,rfl,World.ownsRow_nil _ _ _ _,Below.refl _ _⟩
 | some ad=>
  have hcmp:∀w',(binOp .eql 26 (.slice (some ad) L.length c) (.slice none 0 0)).run Tryz.prog w'=.ok (.bool false) w':=fun w'=>by rw[Go.Lib.run_eql_slice_nil w' 26 28 _ _ _ 0 0 Tryz.underlying26];rfl
  have bl:=below_alloc (Below.refl _ w) (.cells #[] 28)
  have HA:Hid (∀j u,(L.flatMap sh)[j]?=some u->(w.alloc (.cells #[] 28)).cell? (ad.add j)=some u):=by
   rcases ha with h0|⟨b,off,e,h⟩
   ·subst h0
    intro j u hj
    simp at hj
   ·injection e with e
    subst e
    exact nodes_cells (fun i q hq=>by obtain⟨h0,h1,h2,h3,h4,h5⟩:=h i q hq;exact⟨clater h0 bl,clater h1 bl,clater h2 bl,clater h3 bl,clater h4 bl,clater h5 bl⟩)
  clear ha hn
  go_enter Tryz.func104,Tryz.ntmps104
  go_wp2_with (at_builtin;refine wpList_append_own_at _ rfl (.tmp 5) (.tmp 6) 26 rfl w.heap.size 28 i4 (.agg #[.int .i64 0,.int .i64 0,.int .i64 0,.int .i64 0,.string ⟨#[]⟩,.slice none 0 0]) 6 72 Tryz.underlying26 hi4 z40 z41 z42 rfl (by decide) (.slice (some ⟨w.heap.size,0,none⟩) 0 0) 0 [] rfl ?_ ad L.length c (L.flatMap sh) rfl (sh_len L) (unhide HA) (sh_all L) (by unfold maxLen;omega) (by omega) (by simp) ?_)
  ·exact⟨rfl,.inr ⟨w.heap.size,0,#[],rfl,Nat.le_refl _,Go.Deep.blk_alloc_new _ _,Nat.le_refl _,Nat.zero_le _,rfl,rfl⟩⟩
  ·intro v1 w3 hown1 hgrow1 _ hat1
   have HO:Hid (OwnE w3 w.heap.size v1 L):=by
    show OwnE w3 w.heap.size v1 L
    unfold OwnE
    simpa using hown1
   have HB:=hide (bl.trans (grown_below (B:=w.heap.size) hgrow1 (by simp) (fun g hg=>by simp[Value.ownBlock] at hg;omega)))
   clear hown1 hgrow1 hat1 bl
   go_wp2
   go_ret
   exact⟨_,rfl,unhide HO,unhide HB⟩
theorem Kept.of_low(w:World){lo:Nat}(N:List Nat){B:Nat}(o:Nat)(v:Value)(h:B<lo):Kept lo N w (w.setCell ⟨B,o,none⟩ v):=
 ⟨by simp[World.setCell],fun b h1 _ _=>Below.heap_setCell _ _ _ _ (fun e=>by have e2:b=B:=e;omega)⟩
def By(W:World)(F:Value)(g:Ex->Ex)(P:Ex->Prop):Prop:=∃n k,F=.func (.func n) #[] k/\Enters n/\∀W' (lo:Nat) (e:Ex) (a:Option Addr) (c:Nat),Below W.heap.size W W'->lo<=W'.heap.size->P e->ExK lo W' a e.args->Calls Tryz.prog n (#[e.val a c]++k) W' fun r w'=>∃a2 c2,r=.returned ((g e).val a2 c2)/\ExK lo w' a2 (g e).args/\Below W'.heap.size W' w'
theorem By.later{W W':World}{F:Value}{g:Ex->Ex}{P:Ex->Prop}(h:By W F g P)(hb:Below W.heap.size W W'):By W' F g P:=by
 obtain⟨n,k,h1,h2,h3⟩:=h
 exact⟨n,k,h1,h2,fun W2 lo e a c hW=>h3 W2 lo e a c (below_step hb hW)⟩
end Go.Proofs.YtbfibfmnemnbbaaGreat.E
set_option linter.unusedSimpArgs false
set_option linter.unusedVariables false
set_option maxHeartbeats 1000000
set_option maxRecDepth 100000
namespace Go.Proofs.YtbfibfmnemnbbaaGreat.E
open Go.RowKit Go.Sort
theorem all_none{w:World}{l:List Ex}(h:Ex.all w none l):l=[]:=by
 cases l with
 | nil=>rfl
 | cons e l=>rw[Ex.all] at h;obtain⟨b,off,h,_⟩:=h;cases h
def MInv(g:Ex->Ex)(L0:List Nd)(B gb n cap:Nat)(W1:World)(k:Nat)(wr:World):Prop:=∃L:List Nd,OwnE wr B (.slice (some ⟨gb,0,none⟩) n cap) L/\L.length=L0.length/\(∀i,k<=i->L[i]?=L0[i]?)/\(∀i q q0,i<k->L[i]?=some q->L0[i]?=some q0->q.1=madeE g q0.1/\ExK (gb+1) wr q.2.1 q.1.args)/\Below B W1 wr
theorem MInv.load{g:Ex->Ex}{L0:List Nd}{B gb n cap k:Nat}{W1 wr:World}{q0:Nd}(h:MInv g L0 B gb n cap W1 k wr)(hq0:L0[k]?=some q0):Cells6 wr gb (k*6) q0:=by
 obtain⟨L,h1,h2,h3,h4,h5⟩:=h
 exact(h1.facts (by rw[h3 k (Nat.le_refl _)];exact hq0)).1
theorem MInv.may{g:Ex->Ex}{L0:List Nd}{B gb n cap k:Nat}{W1 wr w2:World}{q0:Nd}(h:MInv g L0 B gb n cap W1 k wr)(hb:Below wr.heap.size wr w2)(hq0:L0[k]?=some q0) :
  Cells6 w2 gb (k*6) q0/\(w2.frozen? ⟨gb,k*6,none⟩=false/\w2.frozen? ⟨gb,k*6+1,none⟩=false/\w2.frozen? ⟨gb,k*6+2,none⟩=false/\w2.frozen? ⟨gb,k*6+3,none⟩=false/\w2.frozen? ⟨gb,k*6+4,none⟩=false/\w2.frozen? ⟨gb,k*6+5,none⟩=false):=by
 obtain⟨L,h1,h2,h3,h4,h5⟩:=h
 exact(h1.later hb).facts (by rw[h3 k (Nat.le_refl _)];exact hq0)
theorem MInv.step{g:Ex->Ex}{L0:List Nd}{B gb n cap k lo:Nat}{W1 wr w2:World}{q q0:Nd}(h:MInv g L0 B gb n cap W1 k wr)(hb:Below wr.heap.size wr w2)(hq0:L0[k]?=some q0)(hx:q.1=madeE g q0.1)(hk:ExK lo w2 q.2.1 q.1.args)(hlo:gb<lo)(hB:B<=gb)(hBr:B<=wr.heap.size) :
  MInv g L0 B gb n cap W1 (k+1) ((((((w2.setCell ⟨gb,k*6,none⟩ (.int .i64 q.1.op)).setCell ⟨gb,k*6+1,none⟩ (.int .i64 q.1.n)).setCell ⟨gb,k*6+2,none⟩ (.int .i64 q.1.v.k)).setCell ⟨gb,k*6+3,none⟩ (.int .i64 q.1.v.n)).setCell ⟨gb,k*6+4,none⟩ (.string q.1.v.s)).setCell ⟨gb,k*6+5,none⟩ (.slice q.2.1 q.1.args.length q.2.2)):=by
 obtain⟨L,h1,h2,h3,h4,h5⟩:=h
 have hkl:=(List.getElem?_eq_some_iff.1 hq0).1
 have hKs:Kept (gb+1) [] w2 ((((((w2.setCell ⟨gb,k*6,none⟩ (.int .i64 q.1.op)).setCell ⟨gb,k*6+1,none⟩ (.int .i64 q.1.n)).setCell ⟨gb,k*6+2,none⟩ (.int .i64 q.1.v.k)).setCell ⟨gb,k*6+3,none⟩ (.int .i64 q.1.v.n)).setCell ⟨gb,k*6+4,none⟩ (.string q.1.v.s)).setCell ⟨gb,k*6+5,none⟩ (.slice q.2.1 q.1.args.length q.2.2)):=
  (((((Kept.of_low _ _ _ _ (by omega)).trans (Kept.of_low _ _ _ _ (by omega))).trans (Kept.of_low _ _ _ _ (by omega))).trans (Kept.of_low _ _ _ _ (by omega))).trans (Kept.of_low _ _ _ _ (by omega))).trans (Kept.of_low _ _ _ _ (by omega))
 refine⟨L.set k q,(h1.later hb).put (by omega) q,by rw[List.length_set];exact h2,?_,?_,?_⟩
 ·intro i hi
  rw[List.getElem?_set_ne (by omega)]
  exact h3 i (by omega)
 ·intro i y y0 hi hy hy0
  by_cases hik:i=k
  ·subst hik
   rw[List.getElem?_set_self (by omega)] at hy
   injection hy with hy
   rw[hq0] at hy0
   injection hy0 with hy0
   subst hy hy0
   exact⟨hx,(hk.more (by omega)).on hKs⟩
  ·rw[List.getElem?_set_ne (by omega)] at hy
   obtain⟨g1,g2⟩:=h4 i y y0 (by omega) hy hy0
   exact⟨g1,(g2.on (Kept.of_below _ _ hb)).on hKs⟩
 ·have hb2:Below B wr w2:=hb.mono hBr
  exact((((((h5.trans hb2).setCell (by exact hB) _).setCell (by exact hB) _).setCell (by exact hB) _).setCell (by exact hB) _).setCell (by exact hB) _).setCell (by exact hB) _
theorem MInv.below{g:Ex->Ex}{L0:List Nd}{B gb n cap k:Nat}{W1 wr:World}(h:MInv g L0 B gb n cap W1 k wr):Below B W1 wr:=by
 obtain⟨L,h1,h2,h3,h4,h5⟩:=h
 exact h5
theorem MInv.done{g:Ex->Ex}{L0:List Nd}{B gb n cap lo:Nat}{W1 wr:World}(h:MInv g L0 B gb n cap W1 L0.length wr)(hlo:lo<=gb):ExK lo wr (some ⟨gb,0,none⟩) (L0.map fun q=>madeE g q.1):=by
 obtain⟨L,h1,h2,h3,h4,h5⟩:=h
 intro W' hW
 have e:L0.map (fun q=>madeE g q.1)=L.map (·.1):=by
  apply List.ext_getElem?
  intro i
  rw[List.getElem?_map,List.getElem?_map]
  by_cases hi:i<L0.length
  ·rw[List.getElem?_eq_getElem hi,List.getElem?_eq_getElem (by omega:i<L.length)]
   have:=(h4 i _ _ hi (List.getElem?_eq_getElem (by omega:i<L.length)) (List.getElem?_eq_getElem hi)).1
   simp only[Option.map_some]
   rw[this]
  ·rw[List.getElem?_eq_none (by omega),List.getElem?_eq_none (by omega)]
   rfl
 rw[e]
 refine ownE_kept h1 hW hlo fun q hq=>?_
 obtain⟨i,hi⟩:=List.getElem?_of_mem hq
 have hil:=(List.getElem?_eq_some_iff.1 hi).1
 exact(h4 i q _ (by omega) hi (List.getElem?_eq_getElem (by omega:i<L0.length))).2 W' (hW.more (by omega) (by simp))
theorem made_step(e:Ex)(hs:e.short)(F:Value)(g:Ex->Ex)(P:Ex->Prop)(a:Option Addr)(c:Nat)(w:World)(ha:Ex.all w a e.args)(hby:By w F g P)(hP:P (nodeG g e))
  (IH:∀(i:Nat) (x:Ex),e.args[i]?=some x->∀(a':Option Addr) (c':Nat) (W:World),Ex.all W a' x.args->By W F g P->Calls Tryz.prog 82 #[x.val a' c',F] W fun r w'=>∃a2 c2,r=.returned ((madeE g x).val a2 c2)/\ExK W.heap.size w' a2 (madeE g x).args/\Below W.heap.size W w') :
  Calls Tryz.prog 82 #[e.val a c,F] w fun r w'=>∃a2 c2,r=.returned ((madeE g e).val a2 c2)/\ExK w.heap.size w' a2 (madeE g e).args/\Below w.heap.size w w':=by
 rw[madeE_eq g e]
 have HBY:=hide hby
 obtain⟨nf,kf,rfl,ent,HF⟩:=hby
 unfold Enters at ent
 have HF:=hide HF
 have HIH:=hide IH
 have HP:=hide hP
 obtain⟨hl,_⟩:=Ex.short_open hs
 have hBa:=below_alloc (Below.refl _ w) (.cells #[.int .i64 e.op,.int .i64 e.n,.int .i64 e.v.k,.int .i64 e.v.n,.string e.v.s,.slice a e.args.length c] 28)
 have H6:Hid (Six (w.alloc (.cells #[.int .i64 e.op,.int .i64 e.n,.int .i64 e.v.k,.int .i64 e.v.n,.string e.v.s,.slice a e.args.length c] 28)) w.heap.size e a c):=Six.new w e a c
 have HA:=hide ha
 rw[Ex.val_open]
 have HCL:Hid (∀W,Below w.heap.size w W->Calls Tryz.prog 104 #[.slice a e.args.length c] W fun r w'=>∃(v:Value) (L0:List Nd),r=.returned v/\L0.map (·.1)=e.args/\(∀q∈L0,Ex.all W q.2.1 q.1.args)/\OwnE w' W.heap.size v L0/\Below W.heap.size W w'):=by
  intro W hW
  have hA:=Ex.all_later _ ha hW
  obtain⟨L0,h1,h2,h3⟩:=all_nodes _ _ hA
  have hll:L0.length=e.args.length:=by rw[<-h1,List.length_map]
  have h5:L0=[]∨∃b off,a=some ⟨b,off,none⟩/\∀i q,L0[i]?=some q->Cells6 W b (off+i*6) q:=by
   rcases h3 with h3|h3
   ·exact .inl (List.eq_nil_of_length_eq_zero (by rw[hll,h3];rfl))
   ·exact .inr h3
  have h4:=eclone_any a c L0 W (by omega) h5 (fun h=>List.eq_nil_of_length_eq_zero (by subst h;rw[hll,all_none hA];rfl))
  rw[hll] at h4
  exact h4.mono fun r w' ⟨v,g1,g2,g3⟩=>⟨v,L0,g1,h1,h2,g2,g3⟩
 clear IH hP ha
 go_enter Tryz.func82,Tryz.ntmps82
 obtain⟨wa,hwa⟩:∃wa,wa=(w.alloc (.cells #[.int .i64 e.op,.int .i64 e.n,.int .i64 e.v.k,.int .i64 e.v.n,.string e.v.s,.slice a e.args.length c] 28)).alloc (.cells #[.int .i64 0,.int .i64 0,.int .i64 0,.int .i64 0,.string ⟨#[]⟩,.slice none 0 0] 28):=⟨_,rfl⟩
 have hBa2:Below w.heap.size w wa:=by rw[hwa];exact below_alloc hBa _
 have HSX:Hid (Six wa w.heap.size e a c):=by rw[hwa];exact(unhide H6).later (below_alloc (Below.refl _ _) _)
 have HZR:Hid (Box6 wa (w.heap.size+1) zeroE none 0):=by
  have h:=Box6.new (w.alloc (.cells #[.int .i64 e.op,.int .i64 e.n,.int .i64 e.v.k,.int .i64 e.v.n,.string e.v.s,.slice a e.args.length c] 28)) zeroE none 0
  rw[show (w.alloc (.cells #[.int .i64 e.op,.int .i64 e.n,.int .i64 e.v.k,.int .i64 e.v.n,.string e.v.s,.slice a e.args.length c] 28)).heap.size=w.heap.size+1 by simp[go_sem]] at h
  rw[hwa]
  exact h
 have hsa:wa.heap.size=w.heap.size+2:=by rw[hwa];simp[go_sem]
 go_upto_region 1 with fail
 rw[<-hwa]
 clear hwa hBa H6
 obtain⟨s0,s1,s2,s3,s4,s5⟩:=unhide HSX
 go_wp2_with (go_at_call 104;refine(unhide HCL _ hBa2).mono ?_;rintro r w1 ⟨v1,L0,rfl,hL0,hL1,hO1,hb1⟩;obtain⟨a1,cap1,rfl⟩:=hO1.slice)
 clear s0 s1 s2 s3 s4 s5
 have hll:e.args.length=L0.length:=by rw[<-hL0,List.length_map]
 have hl2:L0.length<=1000000000:=by omega
 have HL0:=hide hL0
 have HL1:=hide hL1
 have HB1:=hide hb1
 have HBA:=hide hBa2
 have hmk:e.args.map (madeE g)=L0.map fun q=>madeE g q.1:=by rw[<-hL0,List.map_map];rfl
 have HND:Hid (∀(a':Option Addr) (c':Nat),(nodeG g e).val a' c'=.agg #[.int .i64 (needE e).op,.int .i64 (needE e).n,.int .i64 (needE e).v.k,.int .i64 (needE e).v.n,.string (needE e).v.s,.slice a' L0.length c']):=by
  intro a' c'
  have:(nodeG g e).args.length=L0.length:=by show (e.args.map (madeE g)).length=_;rw[List.length_map];exact hll
  rw[Ex.val_open,this]
  rfl
 have HNA:Hid ((nodeG g e).args=L0.map fun q=>madeE g q.1):=hmk
 clear hL0 hL1 hb1 hBa2 hmk hll
 by_cases h0:L0=[]
 ·subst h0
  clear hO1
  go_loopw[14] (fun i wr=>i=.int .i64 0/\wr=w1) (fun _ _=>0)
  case atStart=>exact⟨rfl,rfl⟩
  case round=>
   obtain⟨rfl,rfl⟩:=hrel
   have hba:=unhide HB1
   have HDN:Hid (ExK wa.heap.size wr a1 (([]:List Nd).map fun q=>madeE g q.1)):=fun _ _=>by show Ex.all _ _ [];rw[Ex.all];trivial
   obtain⟨s0,s1,s2,s3,s4,s5⟩:=(unhide HSX).later hba
   have HNE:=hide (needed_any e a c wr)
   have HBR:=hide hba
   rw[Ex.val_open] at HNE
   clear HIH HL0 HL1 hba
   go_wp2_with (first
    | (go_at_call 105;refine(unhide HNE).mono ?_;rintro r w2 ⟨rfl,hb2⟩;have hBW:=below_alloc (below_step (below_step (unhide HBA) (unhide HBR)) hb2) (.cells #[.int .i64 (needE e).op,.int .i64 (needE e).n,.int .i64 (needE e).v.k,.int .i64 (needE e).v.n,.string (needE e).v.s,.slice a1 0 cap1] 28);have HFN:=hide (unhide HF _ wa.heap.size (nodeG g e) a1 cap1 hBW (below_alloc (below_step (unhide HBR) hb2) _).size (unhide HP) (by rw[unhide HNA];exact(unhide HDN).on (Kept.of_below _ _ (below_alloc hb2 _))));rw[unhide HND] at HFN;rw[Ex.val_open];clear hBW)
    | (refine(unhide HFN).mono ?_;rintro r w4 ⟨a2,c2,rfl,hK4,hb4⟩;have HK4:=hide hK4;have hE4:=below_step (below_alloc (below_step (unhide HBR) hb2) (.cells #[.int .i64 (needE e).op,.int .i64 (needE e).n,.int .i64 (needE e).v.k,.int .i64 (needE e).v.n,.string (needE e).v.s,.slice a1 0 cap1] 28)) hb4;obtain⟨⟨z0,z1,z2,z3,z4,z5⟩,f0,f1,f2,f3,f4,f5⟩:=(unhide HZR).later hE4;rw[Ex.val_open];clear hK4))
   refine bodyPost_ret (v:=(g (nodeG g e)).val a2 c2) (by simp[results,Tryz.results82,go_sem,Ex.val, *]) rfl ⟨a2,c2,rfl,?_,?_⟩
   ·exact(((unhide HK4).on ((((((Kept.of_low _ _ _ _ (by omega)).trans (Kept.of_low _ _ _ _ (by omega))).trans (Kept.of_low _ _ _ _ (by omega))).trans (Kept.of_low _ _ _ _ (by omega))).trans (Kept.of_low _ _ _ _ (by omega))).trans (Kept.of_low _ _ _ _ (by omega)))).more (by omega))
   ·exact put6 (below_step (unhide HBA) hE4) (by omega) _ _ _ _ _ _
 ·have hpos:0<L0.length:=by cases L0 with|nil=>exact absurd rfl h0|cons _ _=>exact Nat.zero_lt_succ _
  obtain⟨gb,rfl,hgb1,hgb2⟩:=hO1.some hpos
  have HI0:Hid (MInv g L0 wa.heap.size gb L0.length cap1 w1 0 w1):=⟨L0,hO1,rfl,fun _ _=>rfl,fun i _ _ h=>absurd h (Nat.not_lt_zero _),Below.refl _ _⟩
  clear hO1 h0
  go_loopw[14] (fun i wr=>∃k:Nat,k<=L0.length/\i=.int .i64 (k:Int)/\Hid (MInv g L0 wa.heap.size gb L0.length cap1 w1 k wr)) (fun i _=>L0.length-(intOf i).toNat)
  case atStart=>exact⟨0,Nat.zero_le _,rfl,HI0⟩
  case round=>
   obtain⟨k,hk,rfl,HI⟩:=hrel
   have hbr:=(unhide HI).below
   have hba:=(unhide HB1).trans hbr
   have hsr:wa.heap.size<=wr.heap.size:=hba.size
   have hgr:gb<wr.heap.size:=Nat.lt_of_lt_of_le hgb2 hbr.size
   by_cases hlt:k<L0.length
   ·have h9:(k:Int)<(L0.length:Int):=by omega
    obtain⟨q0,hq0⟩:∃q0,L0[k]?=some q0:=⟨_,List.getElem?_eq_getElem hlt⟩
    obtain⟨d0,d1,d2,d3,d4,d5⟩:=(unhide HI).load hq0
    have hx:e.args[k]?=some q0.1:=by rw[<-unhide HL0,List.getElem?_map,hq0];rfl
    have hbw:=below_alloc (below_step (unhide HBA) hba) (.cells (sh q0).toArray 28)
    have HC:=hide (unhide HIH k q0.1 hx q0.2.1 q0.2.2 (wr.alloc (.cells (sh q0).toArray 28)) (Ex.all_later _ (unhide HL1 q0 (List.mem_of_getElem? hq0)) (below_alloc hba _)) ((unhide HBY).later hbw))
    have HMAY:=hide (fun (W:World) (hW:Below wr.heap.size wr W)=>(unhide HI).may hW hq0)
    have HST:=hide (fun (W:World) (q:Nd) (lo:Nat) (hW:Below wr.heap.size wr W)=>(unhide HI).step (w2:=W) (q:=q) (lo:=lo) hW hq0)
    have HBL:=hide (below_alloc (Below.refl _ wr) (.cells (sh q0).toArray 28))
    unfold sh at HC HBL
    rw[Ex.val_open] at HC
    clear hx hbw hba hbr HI
    obtain⟨qe,qa,qc⟩:=q0
    simp only at HC HBL d0 d1 d2 d3 d4 d5
    go_wp2_with (go_at_call 82;refine(unhide HC).mono ?_;rintro r w3 ⟨a2,c2,rfl,hK3,hb3⟩;have hbr3:=below_step (unhide HBL) hb3;obtain⟨⟨m0,m1,m2,m3,m4,m5⟩,f0,f1,f2,f3,f4,f5⟩:=unhide HMAY _ hbr3;have HN3:=hide (unhide HST _ (madeE g qe,a2,c2) _ hbr3 rfl hK3 (by rw[show (wr.alloc (.cells #[.int .i64 qe.op,.int .i64 qe.n,.int .i64 qe.v.k,.int .i64 qe.v.n,.string qe.v.s,.slice qa qe.args.length qc] 28)).heap.size=wr.heap.size+1 by simp[go_sem]];omega) hgb1 hsr);rw[Ex.val_open];clear d0 d1 d2 d3 d4 d5)
    exact⟨⟨k+1,by omega,by go_num,HN3⟩,by simp[intOf];omega⟩
   ·have h9:¬(k:Int)<(L0.length:Int):=by omega
    obtain rfl:k=L0.length:=by omega
    have hDN:=(unhide HI).done (lo:=wa.heap.size) hgb1
    clear hbr HI
    have HDN:Hid (ExK wa.heap.size wr (some ⟨gb,0,none⟩) (L0.map fun q=>madeE g q.1)):=hDN
    obtain⟨s0,s1,s2,s3,s4,s5⟩:=(unhide HSX).later hba
    have HNE:=hide (needed_any e a c wr)
    have HBR:=hide hba
    rw[Ex.val_open] at HNE
    clear HIH HL0 HL1 hba
    go_wp2_with (first
     | (go_at_call 105;refine(unhide HNE).mono ?_;rintro r w2 ⟨rfl,hb2⟩;have hBW:=below_alloc (below_step (below_step (unhide HBA) (unhide HBR)) hb2) (.cells #[.int .i64 (needE e).op,.int .i64 (needE e).n,.int .i64 (needE e).v.k,.int .i64 (needE e).v.n,.string (needE e).v.s,.slice (some ⟨gb,0,none⟩) L0.length cap1] 28);have HFN:=hide (unhide HF _ wa.heap.size (nodeG g e) (some ⟨gb,0,none⟩) cap1 hBW (below_alloc (below_step (unhide HBR) hb2) _).size (unhide HP) (by rw[unhide HNA];exact(unhide HDN).on (Kept.of_below _ _ (below_alloc hb2 _))));rw[unhide HND] at HFN;rw[Ex.val_open];clear hBW)
     | (refine(unhide HFN).mono ?_;rintro r w4 ⟨a2,c2,rfl,hK4,hb4⟩;have HK4:=hide hK4;have hE4:=below_step (below_alloc (below_step (unhide HBR) hb2) (.cells #[.int .i64 (needE e).op,.int .i64 (needE e).n,.int .i64 (needE e).v.k,.int .i64 (needE e).v.n,.string (needE e).v.s,.slice (some ⟨gb,0,none⟩) L0.length cap1] 28)) hb4;obtain⟨⟨z0,z1,z2,z3,z4,z5⟩,f0,f1,f2,f3,f4,f5⟩:=(unhide HZR).later hE4;rw[Ex.val_open];clear hK4))
    refine bodyPost_ret (v:=(g (nodeG g e)).val a2 c2) (by simp[results,Tryz.results82,go_sem,Ex.val, *]) rfl ⟨a2,c2,rfl,?_,?_⟩
    ·exact(((unhide HK4).on ((((((Kept.of_low _ _ _ _ (by omega)).trans (Kept.of_low _ _ _ _ (by omega))).trans (Kept.of_low _ _ _ _ (by omega))).trans (Kept.of_low _ _ _ _ (by omega))).trans (Kept.of_low _ _ _ _ (by omega))).trans (Kept.of_low _ _ _ _ (by omega)))).more (by omega))
    ·exact put6 (below_step (unhide HBA) hE4) (by omega) _ _ _ _ _ _
end Go.Proofs.YtbfibfmnemnbbaaGreat.E
set_option linter.unusedSimpArgs false
set_option linter.unusedVariables false
set_option maxHeartbeats 400000
set_option maxRecDepth 100000
namespace Go.Proofs.YtbfibfmnemnbbaaGreat.E
open Go.RowKit Go.Sort
def allE(_:Ex):Bool:=true
theorem alltrue_any(e:Ex)(a:Option Addr)(c:Nat)(w:World):Calls Tryz.prog 81 #[e.val a c] w fun r w'=>r=.returned (.bool (allE e))/\Below w.heap.size w w':=by
 rw[Ex.val_open]
 go_enter Tryz.func81,Tryz.ntmps81
 go_wp2
 go_ret
 exact⟨rfl,by first|exact Below.refl _ _|exact below_alloc (Below.refl _ _) _⟩
theorem measuredA_step(e:Ex)(hf:e.fin)(N H:Int)(a:Option Addr)(c:Nat)(w:World)(hN0:0<=N)(hN:N<=40000000)(hH0:0<=H)(hH:H<=200000)(ha:Ex.all w a e.args)
  (IH:∀(i:Nat) (x:Ex),e.args[i]?=some x->∀(N' H':Int) (a':Option Addr) (c':Nat) (W:World),0<=N'->N'<=40000000->0<=H'->H'<=200000->Ex.all W a' x.args->Calls Tryz.prog 74 #[x.val a' c',.int .i64 N',.int .i64 H',.func (.func 81) #[] #[]] W fun r w'=>r=M3 (measE allE x N' H')/\Below W.heap.size W w') :
  Calls Tryz.prog 74 #[e.val a c,.int .i64 N,.int .i64 H,.func (.func 81) #[] #[]] w fun r w'=>r=M3 (measE allE e N H)/\Below w.heap.size w w':=by
 obtain⟨⟨hl,hv,_,_⟩,_⟩:=Ex.fin_open hf
 have HS:=hide (fun W=>alltrue_any e a c W)
 obtain⟨R,hR⟩:∃R,R=measE allE e N H:=⟨_,rfl⟩
 have HR:Hid (R=if decide (N<1) || decide (H<1) || !allE e then (0,0,false) else match measL allE e.args N H 1 0 with
  | some (c,h)=>(c,h+1,true)
  | none=>(0,0,false)):=by rw[hR];exact measE_eq allE e N H
 rw[<-hR]
 have H6:Hid (Six (w.alloc (.cells #[.int .i64 e.op,.int .i64 e.n,.int .i64 e.v.k,.int .i64 e.v.n,.string e.v.s,.slice a e.args.length c] 28)) w.heap.size e a c):=Six.new w e a c
 have HB:=hide (below_alloc (Below.refl _ w) (.cells #[.int .i64 e.op,.int .i64 e.n,.int .i64 e.v.k,.int .i64 e.v.n,.string e.v.s,.slice a e.args.length c] 28))
 have HIH:=hide IH
 have HAL:=hide ha
 rw[Ex.val_open] at HS ⊢
 clear hR ha IH
 by_cases h1:N<1
 ·go_enter Tryz.func74,Tryz.ntmps74
  go_wp2
  refine bodyPost_ret (v:=.tuple #[.int .i64 0,.int .i64 0,.bool false]) (by simp[results,Tryz.results74,go_sem]) rfl ⟨by rw[unhide HR];simp[h1],unhide HB⟩
 by_cases h2:H<1
 ·go_enter Tryz.func74,Tryz.ntmps74
  go_wp2
  refine bodyPost_ret (v:=.tuple #[.int .i64 0,.int .i64 0,.bool false]) (by simp[results,Tryz.results74,go_sem]) rfl ⟨by rw[unhide HR];simp[h2],unhide HB⟩
 obtain⟨sb,hsb⟩:∃sb,sb=allE e:=⟨_,rfl⟩
 rw[<-hsb] at HS HR
 have n1:decide (N<1)=false:=by simpa using h1
 have n2:decide (H<1)=false:=by simpa using h2
 rw[n1,n2] at HR
 cases sb with
 | false=>
  clear hsb n1 n2
  go_enter Tryz.func74,Tryz.ntmps74
  go_wp2_with (go_at_call 81;refine(unhide HS _).mono ?_;rintro e' w1 ⟨rfl,hb1⟩)
  refine bodyPost_ret (v:=.tuple #[.int .i64 0,.int .i64 0,.bool false]) (by simp[results,Tryz.results74,go_sem]) rfl ⟨by rw[unhide HR];rfl,below_one hb1⟩
 | true=>
  clear hsb n1 n2
  have HR2:Hid (R=match measL allE e.args N H 1 0 with
   | some (c,h)=>(c,h+1,true)
   | none=>(0,0,false)):=by have:=unhide HR;show _=_;simpa using this
  clear HR
  go_enter Tryz.func74,Tryz.ntmps74
  go_wp2_with (go_at_call 81;refine(unhide HS _).mono ?_;rintro e' w1 ⟨rfl,hb1⟩;obtain⟨c0,c1,c2,c3,c4,c5⟩:=(unhide H6).later hb1)
  have HB1:=hide (below_step (unhide HB) hb1)
  have HAL1:=hide (Ex.all_later _ (unhide HAL) (unhide HB1))
  clear hb1 HS
  go_loopw[11,12,33] (fun s11 s12 i wr=>∃(k:Nat) (cc hh:Int),k<=e.args.length/\i=.int .i64 (k:Int)/\s11=.int .i64 cc/\s12=.int .i64 hh/\1<=cc/\cc<=N/\0<=hh/\hh<=H-1/\Hid (measL allE e.args N H 1 0=measL allE (e.args.drop k) N H cc hh)/\Below w1.heap.size w1 wr) (fun _ _ i _=>e.args.length-(intOf i).toNat)
  case atStart=>exact⟨0,1,0,Nat.zero_le _,rfl,rfl,rfl,by omega,by omega,by omega,by omega,rfl,Below.refl _ _⟩
  case round=>
   obtain⟨k,cc,hh,hk,rfl,rfl,rfl,g1,g2,g3,g4,HM,hb⟩:=hrel
   by_cases hlt:k<e.args.length
   ·have h9:(k:Int)<(e.args.length:Int):=by omega
    obtain⟨x,hx⟩:∃x,e.args[k]?=some x:=⟨_,List.getElem?_eq_getElem hlt⟩
    have hd:e.args.drop k=x::e.args.drop (k+1):=by
     obtain⟨q1,q2⟩:=List.getElem?_eq_some_iff.1 hx
     rw[List.drop_eq_getElem_cons q1,q2]
    obtain⟨vb,vo,ea,hat⟩:=Ex.all_get (Ex.all_later _ (unhide HAL1) hb) hx
    obtain⟨a',c',⟨d0,d1,d2,d3,d4,d5⟩,hal⟩:=Ex.at_open hat
    have HC:=hide (unhide HIH k x hx (N-cc) (H-1) a' c' (wr.alloc (.cells #[.int .i64 x.op,.int .i64 x.n,.int .i64 x.v.k,.int .i64 x.v.n,.string x.v.s,.slice a' x.args.length c'] 28)) (by omega) (by omega) (by omega) (by omega) (Ex.all_later _ hal (below_alloc (Below.refl _ _) _)))
    rw[Ex.val_open] at HC
    rw[hd,measL] at HM
    obtain⟨q,hq⟩:∃q,measE allE x (N-cc) (H-1)=q:=⟨_,rfl⟩
    rw[hq] at HC HM
    have HQ:=hide hq
    obtain⟨c2',h2',ok⟩:=q
    have HB2:=hide (below_alloc hb (.cells #[.int .i64 x.op,.int .i64 x.n,.int .i64 x.v.k,.int .i64 x.v.n,.string x.v.s,.slice a' x.args.length c'] 28))
    subst ea
    clear hx hd hat hal hq hb
    cases ok with
    | false=>
     have HE:Hid (R=(0,0,false)):=by have h1:=unhide HM;have h2:=unhide HR2;rw[h1] at h2;show _=_;simpa using h2
     clear HM HQ
     go_wp2_with (go_at_call 74;refine(unhide HC).mono ?_;rintro r w3 ⟨rfl,hb3⟩)
     refine bodyPost_ret (v:=.tuple #[.int .i64 0,.int .i64 0,.bool false]) (by simp[results,Tryz.results74,go_sem]) rfl ⟨by rw[unhide HE],below_step (unhide HB1) (below_step (unhide HB2) hb3)⟩
    | true=>
     obtain⟨m1,m2,m3,m4⟩:=meas_le allE x (N-cc) (H-1) (unhide HQ)
     have HM2:Hid (measL allE e.args N H 1 0=measL allE (e.args.drop (k+1)) N H (cc+c2') (max hh h2')):=by have:=unhide HM;show _=_;simpa using this
     clear HM HQ
     go_wp2_with (go_at_call 74;refine(unhide HC).mono ?_;rintro r w3 ⟨rfl,hb3⟩)
     refine⟨⟨k+1,cc+c2',max hh h2',by omega,by go_num,rfl,by rw[max_if],by omega,by omega,by omega,by omega,HM2,below_step (unhide HB2) hb3⟩,by simp[intOf];omega⟩
   ·have h9:¬(k:Int)<(e.args.length:Int):=by omega
    have HE:Hid (R=(cc,hh+1,true)):=by
     have h1:=unhide HM
     have h2:=unhide HR2
     rw[List.drop_eq_nil_of_le (by omega),measL] at h1
     rw[h1] at h2
     exact h2
    have HBE:=hide (below_step (unhide HB1) hb)
    clear HM HR2 hb
    go_wp2
    refine bodyPost_ret (v:=.tuple #[.int .i64 cc,.int .i64 (hh+1),.bool true]) (by simp[results,Tryz.results74,go_sem]) rfl ⟨by rw[unhide HE],unhide HBE⟩
theorem measuredA_all:∀(k:Nat) (e:Ex),e.size<=k->e.fin->∀(N H:Int) (a:Option Addr) (c:Nat) (w:World),0<=N->N<=40000000->0<=H->H<=200000->Ex.all w a e.args->Calls Tryz.prog 74 #[e.val a c,.int .i64 N,.int .i64 H,.func (.func 81) #[] #[]] w fun r w'=>r=M3 (measE allE e N H)/\Below w.heap.size w w'
 | 0,e,hs,_,_,_,_,_,_,_,_,_,_,_=>by rw[Ex.size_mk] at hs;omega
 | k+1,e,hs,hf,N,H,a,c,w,h1,h2,h3,h4,ha=>measuredA_step e hf N H a c w h1 h2 h3 h4 ha fun i x hx N' H' a' c' W g1 g2 g3 g4 hW=>
  measuredA_all k x (by have:=Ex.size_arg hx;omega) (Ex.fin_arg hf hx) N' H' a' c' W g1 g2 g3 g4 hW
theorem made_all{F:Value}{g:Ex->Ex}{P Q:Ex->Prop}(hP:∀x,Q x->P (nodeG g x))(hQ:∀(x y:Ex) (i:Nat),Q x->x.args[i]?=some y->Q y):∀(k:Nat) (e:Ex),e.size<=k->e.short->Q e->∀(a:Option Addr) (c:Nat) (w:World),Ex.all w a e.args->By w F g P->Calls Tryz.prog 82 #[e.val a c,F] w fun r w'=>∃a2 c2,r=.returned ((madeE g e).val a2 c2)/\ExK w.heap.size w' a2 (madeE g e).args/\Below w.heap.size w w'
 | 0,e,hs,_,_,_,_,_,_,_=>by rw[Ex.size_mk] at hs;omega
 | k+1,e,hs,hsh,hq,a,c,w,ha,hby=>made_step e hsh F g P a c w ha hby (hP e hq) fun i x hx a' c' W hW hbW=>
  made_all hP hQ k x (by have:=Ex.size_arg hx;omega) (Ex.short_arg hsh hx) (hQ e x i hq hx) a' c' W hW hbW
theorem same_any(e:Ex)(a:Option Addr)(c:Nat)(w:World):Calls Tryz.prog 83 #[e.val a c] w fun r w'=>r=.returned (e.val a c)/\Below w.heap.size w w':=by
 rw[Ex.val_open]
 go_enter Tryz.func83,Tryz.ntmps83
 go_wp2
 refine bodyPost_ret (v:=e.val a c) (by simp[results,Tryz.results83,go_sem,Ex.val]) rfl ⟨rfl,below_alloc (below_alloc (Below.refl _ _) _) _⟩
theorem entSame:Enters 83:=fun args w=>by kernel_rfl
theorem by_same(W:World):By W (.func (.func 83) #[] #[]) id (fun _=>True):=
 ⟨83,#[],rfl,entSame,fun W' lo e a c _ _ _ hK=>(same_any e a c W').mono fun r w' ⟨h1,h2⟩=>⟨a,c,h1,hK.on (Kept.of_below _ _ h2),h2⟩⟩
def copyT(e:Ex):Ex:=if (measE allE e 33554432 131072).2.2 then copyE e else e
def ExL(w:World)(N:List Nat)(w':World)(a:Option Addr)(l:List Ex):Prop:=∀W',Below w.heap.size w W'->Kept w.heap.size N w' W'->Ex.all W' a l
theorem copied_any(e:Ex)(hf:e.fin)(a:Option Addr)(c:Nat)(w:World)(ha:Ex.all w a e.args) :
  Calls Tryz.prog 58 #[e.val a c] w fun r w'=>∃a2 c2,r=.returned ((copyT e).val a2 c2)/\((measE allE e 33554432 131072).2.2=true->ExK w.heap.size w' a2 (copyT e).args)/\ExL w [] w' a2 (copyT e).args/\Below w.heap.size w w':=by
 have HM:=hide (fun (W:World) (hW:Below w.heap.size w W)=>measuredA_all e.size e (Nat.le_refl _) hf 33554432 131072 a c W (by omega) (by omega) (by omega) (by omega) (Ex.all_later _ ha hW))
 have HMD:Hid ((measE allE e 33554432 131072).2.2=true->∀(W:World),Below w.heap.size w W->Calls Tryz.prog 82 #[e.val a c,.func (.func 83) #[] #[]] W fun r w'=>∃a2 c2,r=.returned ((copyE e).val a2 c2)/\ExK W.heap.size w' a2 (copyE e).args/\Below W.heap.size W w'):=fun hm W hW=>by
  have h:=made_all (F:=.func (.func 83) #[] #[]) (g:=id) (P:=fun _=>True) (Q:=fun _=>True) (fun _ _=>trivial) (fun _ _ _ _ _=>trivial) e.size e (Nat.le_refl _) (meas_short allE e _ _ (by omega) hm) trivial a c W (Ex.all_later _ ha hW) (by_same W)
  rw[made_copy] at h
  exact h
 have HA:=hide (fun (W:World) (hW:Below w.heap.size w W)=>Ex.all_later _ ha hW)
 have HB0:Hid (Below w.heap.size w ((w.alloc (.cells #[.int .i64 e.op,.int .i64 e.n,.int .i64 e.v.k,.int .i64 e.v.n,.string e.v.s,.slice a e.args.length c] 28)).alloc (.cells #[.int .i64 0,.int .i64 0,.int .i64 0,.int .i64 0,.string ⟨#[]⟩,.slice none 0 0] 28))):=below_alloc (below_alloc (Below.refl _ w) _) _
 have H6:Hid (Six ((w.alloc (.cells #[.int .i64 e.op,.int .i64 e.n,.int .i64 e.v.k,.int .i64 e.v.n,.string e.v.s,.slice a e.args.length c] 28)).alloc (.cells #[.int .i64 0,.int .i64 0,.int .i64 0,.int .i64 0,.string ⟨#[]⟩,.slice none 0 0] 28)) w.heap.size e a c):=(Six.new w e a c).later (below_alloc (Below.refl _ _) _)
 have HZ:Hid (Box6 ((w.alloc (.cells #[.int .i64 e.op,.int .i64 e.n,.int .i64 e.v.k,.int .i64 e.v.n,.string e.v.s,.slice a e.args.length c] 28)).alloc (.cells #[.int .i64 0,.int .i64 0,.int .i64 0,.int .i64 0,.string ⟨#[]⟩,.slice none 0 0] 28)) (w.heap.size+1) zeroE none 0):=by
  have h:=Box6.new (w.alloc (.cells #[.int .i64 e.op,.int .i64 e.n,.int .i64 e.v.k,.int .i64 e.v.n,.string e.v.s,.slice a e.args.length c] 28)) zeroE none 0
  rw[show (w.alloc (.cells #[.int .i64 e.op,.int .i64 e.n,.int .i64 e.v.k,.int .i64 e.v.n,.string e.v.s,.slice a e.args.length c] 28)).heap.size=w.heap.size+1 by simp[go_sem]] at h
  exact h
 have HS:Hid (((w.alloc (.cells #[.int .i64 e.op,.int .i64 e.n,.int .i64 e.v.k,.int .i64 e.v.n,.string e.v.s,.slice a e.args.length c] 28)).alloc (.cells #[.int .i64 0,.int .i64 0,.int .i64 0,.int .i64 0,.string ⟨#[]⟩,.slice none 0 0] 28)).heap.size=w.heap.size+2):=by
  show _=_
  simp[go_sem]
 clear ha
 unfold copyT
 obtain⟨q,hq⟩:∃q,measE allE e 33554432 131072=q:=⟨_,rfl⟩
 rw[hq] at HM HMD ⊢
 obtain⟨c2,h2,ok⟩:=q
 clear hq
 rw[Ex.val_open] at HM HMD ⊢
 cases ok with
 | false=>
  clear HMD
  simp only[Bool.false_eq_true,if_false]
  go_enter Tryz.func58,Tryz.ntmps58
  go_wp2_with (go_at_call 74;refine(unhide HM _ (unhide HB0)).mono ?_;rintro r w1 ⟨rfl,hb1⟩;obtain⟨b0,b1,b2,b3,b4,b5⟩:=(unhide H6).later hb1;obtain⟨⟨z0,z1,z2,z3,z4,z5⟩,f0,f1,f2,f3,f4,f5⟩:=(unhide HZ).later hb1)
  refine bodyPost_ret (v:=e.val a c) (by simp[results,Tryz.results58,go_sem,Ex.val, *]) rfl ⟨a,c,rfl,fun h=>absurd h (by simp),fun W' hW _=>unhide HA W' hW,?_⟩
  exact put6 (below_step (unhide HB0) hb1) (by omega) _ _ _ _ _ _
 | true=>
  have HM2:=hide (unhide HMD rfl)
  clear HMD
  simp only[if_true]
  go_enter Tryz.func58,Tryz.ntmps58
  go_wp2_with (first
   | (go_at_call 74;refine(unhide HM _ (unhide HB0)).mono ?_;rintro r w1 ⟨rfl,hb1⟩;have hB1:=below_step (unhide HB0) hb1;obtain⟨b0,b1,b2,b3,b4,b5⟩:=(unhide H6).later hb1)
   | (go_at_call 82;refine(unhide HM2 _ hB1).mono ?_;rintro r w2 ⟨a2,c2,rfl,hK2,hb2⟩;have HK2:=hide hK2;clear hK2;have hs1:=(unhide HS);have hs2:=hb1.size;obtain⟨⟨z0,z1,z2,z3,z4,z5⟩,f0,f1,f2,f3,f4,f5⟩:=(unhide HZ).later (below_step hb1 hb2);rw[Ex.val_open]))
  refine bodyPost_ret (v:=(copyE e).val a2 c2) (by simp[results,Tryz.results58,go_sem,Ex.val, *]) rfl ⟨a2,c2,rfl,fun _=>?_,fun W' _ hW=>?_,?_⟩
  ·refine(((unhide HK2).on ((((((Kept.of_low _ _ _ _ ?_).trans (Kept.of_low _ _ _ _ ?_)).trans (Kept.of_low _ _ _ _ ?_)).trans (Kept.of_low _ _ _ _ ?_)).trans (Kept.of_low _ _ _ _ ?_)).trans (Kept.of_low _ _ _ _ ?_))).more (by omega))<;>omega
  ·refine(((unhide HK2).on ((((((Kept.of_low _ _ _ _ ?_).trans (Kept.of_low _ _ _ _ ?_)).trans (Kept.of_low _ _ _ _ ?_)).trans (Kept.of_low _ _ _ _ ?_)).trans (Kept.of_low _ _ _ _ ?_)).trans (Kept.of_low _ _ _ _ ?_))).more (by omega)) W' hW<;>omega
  ·exact put6 (below_step hB1 hb2) (by omega) _ _ _ _ _ _
end Go.Proofs.YtbfibfmnemnbbaaGreat.E
