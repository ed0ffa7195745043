import Derived.Test.YtekgpapophibcaaGreatSrW
set_option linter.unusedSimpArgs false
set_option linter.unusedVariables false
namespace Go.Proofs.YtekgpapophibcaaGreat
open Go.RowKit Go.Sort
def zQX(wr:World)(rb:Nat)(kv cv:Value)(c:Vc×Sl):Prop:=
 ∀w',(∀i,i<wr.heap.size->i≠rb->kv.ownBlock≠some i->cv.ownBlock≠some i->w'.heap[i]?=wr.heap[i]?)->zAi w' c.1 c.2
structure PE(w wr:World)(nv kv cv:Value)(N K:List Int)(Cs:List (Vc×Sl))(r:List UInt8)(x:Bool):Prop where
 rd:Br wr w.heap.size r x
 n:wr.ownsRow w.heap.size 3 1 nv N.length (N.map (Value.int .i64))
 k:wr.ownsRow w.heap.size 3 1 kv K.length (K.map (Value.int .i64))
 ap:apart nv kv
 c:wr.ownsRow w.heap.size 49 4 cv Cs.length (Cs.flatMap c4)
 saf:∀c∈Cs,zQX wr w.heap.size kv cv c
 bel:Below w.heap.size w wr
section
variable {w wr wx:World}{nv kv cv v':Value}{N K:List Int}{Cs:List (Vc×Sl)}{r r':List UInt8}{x x':Bool}
theorem PE.start(h:RD w wr nv N r x):PE w wr nv zCq zCq N [] [] r x:=
 ⟨h.rd,h.n,World.ownsRow_nil _ _ _ _,by cases hv:nv.ownBlock with
  | none=>exact .inl hv
  | some g=>exact .inr (by rw[hv];simp[Value.ownBlock]),World.ownsRow_nil _ _ _ _,fun c hc=>by simp at hc,h.bel⟩
theorem zQX.later{c:Vc×Sl}{rb:Nat}(h:zQX wr rb kv cv c)(hb:Below wr.heap.size wr wx):zQX wx rb kv cv c:=fun w' hw=>
 h w' fun i hi h1 h2 h3=>(hw i (Nat.lt_of_lt_of_le hi hb.size) h1 h2 h3).trans (hb.block i hi)
theorem PE.later(h:PE w wr nv kv cv N K Cs r x)(hb:Below wr.heap.size wr wx):PE w wx nv kv cv N K Cs r x:=
 ⟨zA5 h.rd hb,zAc h.n hb,zAc h.k hb,h.ap,zAc h.c hb,fun c hc=>(h.saf c hc).later hb,zA2 h.bel hb⟩
theorem PE.gr(h:PE w wr nv kv cv N K Cs r x)(hr:Br wx w.heap.size r' x')(hg:Gr wr wx w.heap.size):PE w wx nv kv cv N K Cs r' x':=
 ⟨hr,zDs h.n h.rd (by decide) hg,zDs h.k h.rd (by decide) hg,h.ap,zDs h.c h.rd (by decide) hg,
  fun c hc w' hw=>h.saf c hc w' fun i hi h1 h2 h3=>(hw i (Nat.lt_of_lt_of_le hi hg.size) h1 h2 h3).trans (hg.block i hi (by simpa using h1)),
  h.bel.trans (zAd hg h.bel.size (fun g e=>by cases e;omega))⟩
theorem PE.take(h:PE w wr nv kv cv N K Cs r x)(n:Nat)(hr:r.length<=140737488300000)(hn:n<4294967296):Calls Tryz.prog 39 #[.pointer (some ⟨w.heap.size,0,none⟩),.int .i64 (n:Int)] wr fun e w'=>e=.returned (.string (bs (zAE r x n).1))/\PE w w' nv kv cv N K Cs (zAE r x n).2.1 (zAE r x n).2.2:=by
 refine(zJQ _ n r x wr h.rd (by omega) (by omega)).mono ?_
 rintro e w' ⟨rfl,h1,h2⟩
 exact⟨rfl,h.gr h1 h2⟩
theorem PE.fresh{X:Vc}{p:Sl}(h:PE w wr nv kv cv N K Cs r x)(hb:Below wr.heap.size wr wx)(hv:zAi wx X p)(hf:zBb wr.heap.size p):zQX wx w.heap.size kv cv (X,p):=fun w' hw=>
 zDB hv hf fun i hm hi=>hw i hi (fun e=>by have:=Br.ne h.rd;omega) (fun e=>by have:=(World.ownsRow.lt h.k i e).2;omega) (fun e=>by have:=(World.ownsRow.lt h.c i e).2;omega)
theorem PE.pushC{c:Vc×Sl}{o:Obj}(h:PE w wr nv kv cv N K Cs r x)(hs:zQX wr w.heap.size kv cv c)(ho:wx.ownsRow w.heap.size 49 4 v' (Cs.length+1) (Cs.flatMap c4++c4 c))(hg:(wr.alloc o).grownBy wx cv.ownBlock)(Hm:v'.ownBlock=cv.ownBlock∨v'.ownBlock=some (wr.alloc o).heap.size) :
  PE w wx nv kv v' N K (Cs++[c]) r x:=by
 have hA:Below wr.heap.size wr (wr.alloc o):=zA1 (Below.refl _ _) _
 have key:∀d,zQX wr w.heap.size kv cv d->zQX wx w.heap.size kv v' d:=fun d hd w' hw=>
  (hd.later hA) w' fun i hi h1 h2 h3=>by
   rw[hw i (Nat.lt_of_lt_of_le hi hg.size) h1 h2 ?_,hg.block i hi (fun e=>h3 e.symm)]
   rcases Hm with e|e
   ·rw[e];exact h3
   ·rw[e];intro e2;injection e2 with e2;omega
 refine⟨zAF (World.rowIs.alloc h.rd o) hg (zBL h.rd h.c (by decide)),(World.ownsRow.alloc h.n o).kept hg (zCL h.n h.c (by decide)),(World.ownsRow.alloc h.k o).kept hg (zCL h.k h.c (by decide)),h.ap,?_,fun d hd=>?_,(zA1 h.bel o).trans (zAd hg (zA1 h.bel o).size (fun g e=>(World.ownsRow.lt h.c g e).1))⟩
 ·rw[zAX,List.flatMap_append]
  simpa using ho
 ·rcases List.mem_append.1 hd with m|m
  ·exact key d (h.saf d m)
  ·simp only[List.mem_singleton] at m
   subst m
   exact key _ hs
theorem PE.pushK{y:Int}{o:Obj}(h:PE w wr nv kv cv N K Cs r x)(ho:wx.ownsRow w.heap.size 3 1 v' (K.length+1) (K.map (Value.int .i64)++[.int .i64 y]))(hg:(wr.alloc o).grownBy wx kv.ownBlock)(Hm:v'.ownBlock=kv.ownBlock∨v'.ownBlock=some (wr.alloc o).heap.size) :
  PE w wx nv v' cv N (K++[y]) Cs r x:=by
 have hA:Below wr.heap.size wr (wr.alloc o):=zA1 (Below.refl _ _) _
 have key:∀d,zQX wr w.heap.size kv cv d->zQX wx w.heap.size v' cv d:=fun d hd w' hw=>
  (hd.later hA) w' fun i hi h1 h2 h3=>by
   rw[hw i (Nat.lt_of_lt_of_le hi hg.size) h1 ?_ h3,hg.block i hi (fun e=>h2 e.symm)]
   rcases Hm with e|e
   ·rw[e];exact h2
   ·rw[e];intro e2;injection e2 with e2;omega
 refine⟨zAF (World.rowIs.alloc h.rd o) hg (zBL h.rd h.k (by decide)),(World.ownsRow.alloc h.n o).kept hg h.ap,by simpa using ho,?_,(World.ownsRow.alloc h.c o).kept hg (zCL h.c h.k (by decide)),fun d hd=>key d (h.saf d hd),(zA1 h.bel o).trans (zAd hg (zA1 h.bel o).size (fun g e=>(World.ownsRow.lt h.k g e).1))⟩
 cases hq:nv.ownBlock with
 | none=>exact .inl hq
 | some g=>
  refine .inr fun e=>?_
  rcases Hm with h1|h1
  ·rcases h.ap with e2|e2
   ·rw[e2] at hq;cases hq
   ·exact e2 (by rw[<-h1,<-e])
  ·rw[h1,hq] at e
   injection e with e
   have:=(World.ownsRow.lt h.n g hq).2
   simp at e
   omega
theorem PE.cols(h:PE w wr nv kv cv N K Cs r x):∃a c,cv=.slice a Cs.length c/\zBq wr a Cs:=
 zNZ.cols (w0:=w) ⟨h.c,fun c hc w' hg=>h.saf c hc w' fun i hi h1 h2 h3=>hg.block i hi (fun e=>h3 e.symm),h.bel⟩
end
end Go.Proofs.YtekgpapophibcaaGreat
