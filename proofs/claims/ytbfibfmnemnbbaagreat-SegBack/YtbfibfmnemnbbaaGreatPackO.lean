import Derived.Test.YtbfibfmnemnbbaaGreatPackP
import Derived.Lib.SliceRun
set_option linter.unusedSimpArgs false
set_option linter.unusedVariables false
set_option maxHeartbeats 2000000
set_option maxRecDepth 100000
namespace Go.Proofs.YtbfibfmnemnbbaaGreat
open Go.RowKit Go.Sort
theorem c3_all(xs:List Val):∀u∈xs.flatMap c3,u.oneCell'=true:=by
 intro u hu
 obtain⟨x,_,hx⟩:=List.mem_flatMap.1 hu
 exact c3_one x u hx
theorem row_cells{w:World}{b off:Nat}{xs:List Val}(h:RowAt w (some ⟨b,off,none⟩) xs):∀j u,(xs.flatMap c3)[j]?=some u->w.cell? ((⟨b,off,none⟩:Addr).add j)=some u:=by
 intro j u hj
 rw[Addr.add_lit]
 have hlt:j<xs.length*3:=by rw[<-flat_len];exact(List.getElem?_eq_some_iff.1 hj).1
 obtain⟨x,hx⟩:∃x,xs[j / 3]?=some x:=⟨_,List.getElem?_eq_getElem (by omega)⟩
 have hf:=flat_at xs (j / 3) (j % 3) x hx (by omega)
 rw[show j / 3*3+j % 3=j by omega,hj] at hf
 rcases h with h|⟨b',off',e,h⟩
 ·subst h;simp at hlt
 ·injection e with e
  injection e with e1 e2
  subst e1 e2
  obtain⟨h0,h1,h2⟩:=h (j / 3) x hx
  have h3:j % 3=0∨j % 3=1∨j % 3=2:=by omega
  rcases h3 with h3|h3|h3<;>rw[h3] at hf<;>simp[c3] at hf<;>subst hf
  ·rw[show off+j=off+j / 3*3 by omega];exact h0
  ·rw[show off+j=off+j / 3*3+1 by omega];exact h1
  ·rw[show off+j=off+j / 3*3+2 by omega];exact h2
theorem vclone_any(aa:Option Addr)(ca:Nat)(xs:List Val)(w:World)(hl:xs.length<=1048576)(hspot:∀ad,aa=some ad->∃b o,ad=⟨b,o,none⟩)(ha:RowAt w aa xs)(hn:aa=none->xs=[]) :
  Calls Tryz.prog 123 #[.slice aa xs.length ca] w fun e w'=>∃v,e=.returned v/\OwnV w' w.heap.size v xs/\Below w.heap.size w w':=by
 obtain⟨i4,hi4,z40,z41,z42⟩:=info_parts Tryz.info25
 cases aa with
 | none=>
  have hx:=hn rfl
  subst hx
  clear hn ha
  have hcmp:∀w',(binOp .eql 36 (.slice none 0 ca) (.slice none 0 0)).run Tryz.prog w'=.ok (.bool true) w':=fun w'=>by rw[Go.Lib.run_eql_slice_nil w' 36 25 none 0 ca 0 0 Tryz.underlying36];rfl
  go_enter Tryz.func123,Tryz.ntmps123
  go_wp2
  go_ret
  exact⟨_,rfl,World.ownsRow_nil _ _ _ _,Below.refl _ _⟩
 | some ad=>
  obtain⟨b,o,rfl⟩:=hspot _ rfl
  have hcmp:∀w',(binOp .eql 36 (.slice (some ⟨b,o,none⟩) xs.length ca) (.slice none 0 0)).run Tryz.prog w'=.ok (.bool false) w':=fun w'=>by rw[Go.Lib.run_eql_slice_nil w' 36 25 _ _ _ 0 0 Tryz.underlying36];rfl
  have bl:=below_alloc (Below.refl _ w) (.cells #[] 25)
  have HA:=hide (ha.later bl)
  clear ha hn hspot
  go_enter Tryz.func123,Tryz.ntmps123
  go_wp2_with (at_builtin;refine wpList_append_own_at _ rfl (.tmp 5) (.tmp 6) 36 rfl w.heap.size 25 i4 (.agg #[.int .i64 0,.int .i64 0,.string ⟨#[]⟩]) 3 32 Tryz.underlying36 hi4 z40 z41 z42 rfl (by decide) (.slice (some ⟨w.heap.size,0,none⟩) 0 0) 0 [] rfl ?_ ⟨b,o,none⟩ xs.length ca (xs.flatMap c3) rfl (flat_len xs) (row_cells (unhide HA)) (c3_all xs) (by unfold maxLen;omega) (by omega) (by simp) ?_)
  ·exact⟨rfl,.inr ⟨w.heap.size,0,#[],rfl,Nat.le_refl _,Go.Deep.blk_alloc_new _ _,Nat.le_refl _,Nat.zero_le _,rfl,rfl⟩⟩
  ·intro v1 w3 hown1 hgrow1 _ hat1
   have HO:Hid (OwnV w3 w.heap.size v1 xs):=by
    show OwnV w3 w.heap.size v1 xs
    unfold OwnV
    simpa using hown1
   have HB:=hide (bl.trans (grown_below (B:=w.heap.size) hgrow1 (by simp) (fun g hg=>by simp[Value.ownBlock] at hg;omega)))
   clear hown1 hgrow1 hat1 bl
   go_wp2
   go_ret
   exact⟨_,rfl,unhide HO,unhide HB⟩
end Go.Proofs.YtbfibfmnemnbbaaGreat
