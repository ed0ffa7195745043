import Derived.Test.YtekgpapophibcaaGreatSrR
set_option linter.unusedSimpArgs false
set_option linter.unusedVariables false
set_option maxRecDepth 100000
namespace Go.Proofs.YtekgpapophibcaaGreat
open Go.RowKit Go.Sort
theorem zQt{l:List UInt8}(hl:l.length<=140737488300000)(h:∀Xs ps,¬Seg l Xs ps)(a:Value)(w:World):Calls Tryz.prog 20 #[.string (bs l),a] w fun e w'=>e=.returned (.tuple #[.slice none 0 0,.int .i64 2])/\Below w.heap.size w w':=by
 have HO:=zA3 (fun W=>zHV hl h W)
 clear h
 go_enter Tryz.func20,Tryz.ntmps20
 go_wp2_with (go_at_call 43;refine(zA0 HO _).mono ?_;rintro _ w1 ⟨rfl,hb⟩)
 go_ret2
 exact⟨rfl,zA1 hb _⟩
structure zQW(w0 w:World)(g n:Nat)(Cs:List (Vc×Sl)):Prop where
 bel:Below w0.heap.size w0 w
 ge:w0.heap.size<=g
 row:∃F,w.rowIs g 49 (n*4) F/\∀(i:Nat) (c:Vc×Sl),Cs[i]?=some c->F (i*4)=.int .i64 c.1.k/\F (i*4+1)=.slice c.2.a1 c.1.nl.length c.2.c1/\F (i*4+2)=.slice c.2.a2 c.1.ns.length c.2.c2/\F (i*4+3)=.slice c.2.a3 c.1.ss.length c.2.c3
 vec:∀c∈Cs,zAi w0 c.1 c.2
theorem zQW.start{w0 w:World}(h:Below w0.heap.size w0 w)(n:Nat)(z:Array Value):zQW w0 (w.alloc (.cells (madeCells z (n*4)) 49)) w.heap.size n []:=by
 obtain⟨F,hF⟩:=zFF w (madeCells z (n*4)) 49
 rw[size_madeCells] at hF
 exact⟨zA1 h _,h.size,⟨F,hF,fun i c hc=>by simp at hc⟩,fun c hc=>by simp at hc⟩
theorem zQW.step{w0 w:World}{g n:Nat}{Cs:List (Vc×Sl)}{X:Vc}{p:Sl}(h:zQW w0 w g n Cs)(hv:zAi w0 X p){k:Nat}(hk:Cs.length=k) :
  zQW w0 ((((w.setCell ⟨g,k*4,none⟩ (.int .i64 X.k)).setCell ⟨g,k*4+1,none⟩ (.slice p.a1 X.nl.length p.c1)).setCell ⟨g,k*4+2,none⟩ (.slice p.a2 X.ns.length p.c2)).setCell ⟨g,k*4+3,none⟩ (.slice p.a3 X.ss.length p.c3)) g n (Cs++[(X,p)]):=by
 obtain⟨F,hF,QP⟩:=h.row
 refine⟨(((h.bel.setCell h.ge _).setCell h.ge _).setCell h.ge _).setCell h.ge _,h.ge,⟨_,(((hF.set _ _).set _ _).set _ _).set _ _,fun i c hc=>?_⟩,fun c hc=>?_⟩
 ·by_cases e:i<k
  ·rw[List.getElem?_append_left (by omega)] at hc
   obtain⟨a0,a1,a2,a3⟩:=QP i c hc
   refine⟨?_,?_,?_,?_⟩
   ·rw[if_neg (by omega),if_neg (by omega),if_neg (by omega),if_neg (by omega),a0]
   ·rw[if_neg (by omega),if_neg (by omega),if_neg (by omega),if_neg (by omega),a1]
   ·rw[if_neg (by omega),if_neg (by omega),if_neg (by omega),if_neg (by omega),a2]
   ·rw[if_neg (by omega),if_neg (by omega),if_neg (by omega),if_neg (by omega),a3]
  ·have e2:i=k:=by
    have:=(zAL hc).1
    simp at this
    omega
   subst e2
   rw[List.getElem?_append_right (by omega),hk] at hc
   simp at hc
   subst hc
   refine⟨?_,?_,?_,?_⟩<;>simp
 ·rcases List.mem_append.1 hc with m|m
  ·exact h.vec c m
  ·simp at m;subst m;exact hv
theorem zQW.cols{w0 w:World}{g n:Nat}{Cs:List (Vc×Sl)}(h:zQW w0 w g n Cs)(hn:Cs.length=n):zBq w (some ⟨g,0,none⟩) Cs:=by
 obtain⟨F,hF,QP⟩:=h.row
 refine⟨.inr ⟨g,0,rfl,fun i c hc=>?_⟩,fun c hc=>(h.vec c hc).later h.bel⟩
 have hi:=(zAL hc).1
 obtain⟨a0,a1,a2,a3⟩:=QP i c hc
 refine⟨?_,?_,?_,?_⟩
 ·rw[Nat.zero_add,hF.cell (by omega),a0]
 ·rw[Nat.zero_add,hF.cell (by omega),a1]
 ·rw[Nat.zero_add,hF.cell (by omega),a2]
 ·rw[Nat.zero_add,hF.cell (by omega),a3]
theorem zQW.cells{w0 w:World}{g n k:Nat}{Cs:List (Vc×Sl)}(h:zQW w0 w g n Cs)(hk:k<n):∃v0 v1 v2 v3,w.cell? ⟨g,k*4,none⟩=some v0/\w.cell? ⟨g,k*4+1,none⟩=some v1/\w.cell? ⟨g,k*4+2,none⟩=some v2/\w.cell? ⟨g,k*4+3,none⟩=some v3/\w.frozen? ⟨g,k*4,none⟩=false/\w.frozen? ⟨g,k*4+1,none⟩=false/\w.frozen? ⟨g,k*4+2,none⟩=false/\w.frozen? ⟨g,k*4+3,none⟩=false:=by
 obtain⟨F,hF,QP⟩:=h.row
 exact⟨_,_,_,_,hF.cell (by omega),hF.cell (by omega),hF.cell (by omega),hF.cell (by omega),hF.frozen _,hF.frozen _,hF.frozen _,hF.frozen _⟩
def zGM(n:Nat)(c:Int):Bool:=decide (c<0) || decide ((n:Int)<=c)
def zSL(w w':World)(Xs:List Vc)(rows:Nat)(cs:List Int)(e:Ending):Prop:=
 (cs.any (zGM Xs.length)=true/\e=.returned (.tuple #[.slice none 0 0,.int .i64 1])/\Below w.heap.size w w')∨(cs.any (zGM Xs.length)=false/\cs=[]/\∃a c,e=.returned (.tuple #[.slice a rows c,.int .i64 0])/\zAp w' a (List.replicate rows (.slice none 0 0))/\Below w.heap.size w w')∨(cs.any (zGM Xs.length)=false/\cs≠[]/\∃(Ps:List (Vc×Sl)) (v:Value),Ps.length=cs.length/\(∀(i:Nat) (c:Int) (q:Vc×Sl),cs[i]?=some c->Ps[i]?=some q->Xs[c.toNat]?=some q.1)/\e=.returned (.tuple #[v,.int .i64 (zLU Ps).2])/\zLJ w' v (zLU Ps).1/\Below w.heap.size w w')
end Go.Proofs.YtekgpapophibcaaGreat
