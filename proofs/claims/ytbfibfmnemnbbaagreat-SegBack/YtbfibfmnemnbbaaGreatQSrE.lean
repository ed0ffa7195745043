import Derived.Test.YtbfibfmnemnbbaaGreatQSbOpen
set_option linter.unusedSimpArgs false
set_option linter.unusedVariables false
set_option maxRecDepth 100000
namespace Go.Proofs.YtbfibfmnemnbbaaGreat
open Go.RowKit Go.Sort
theorem pread_un(l:List UInt8)(w:World)(hl:l.length<=140737488355328):Calls Tryz.prog 68 #[.string (bs l)] w fun e w'=>UnQ w w' l e:=by
 cases hc:columnD l with
 | none=>
  refine(pread_no (shut_of (s:=bs l) (by rw[bs_size];exact hl) hc) w).mono ?_
  rintro e w' ⟨rfl,hb⟩
  exact un_dmg hc hb
 | some p=>
  obtain⟨sch,kind,xs⟩:=p
  obtain⟨h1,h2⟩:=read_col hc
  obtain⟨b,hk,hlen,_⟩:=columnD_forth hc
  obtain⟨g1,g2,g3,g4,g5,g6,g7,g8⟩:=from_ok h1
  have ec:xs.map cleanV=xs:=by
   conv=>rhs;rw[<-List.map_id xs]
   exact List.map_congr_left fun y hy=>(h2 y hy).1
  rw[ec] at g3
  refine(pread_any (opens_of (s:=bs l) (by rw[bs_size];exact hl) hc) hlen h1 w).mono ?_
  rintro e w' ⟨p,rfl,hv,hf,hb⟩
  exact⟨_,p,0,rfl,hv,hf,.inl ⟨rfl,⟨sch,by rw[g2,g3];exact hc⟩,g4,by omega,by omega,by omega⟩,hb⟩
theorem UnR.one{l:List UInt8}{X Y:Vc}{f g:Int}(h:UnR l X f)(h':UnR l Y g):X=Y/\f=g:=by
 rcases h with ⟨rfl,⟨s,hs⟩,hx,_⟩|⟨rfl,rfl,hn⟩
 ·rcases h' with ⟨rfl,⟨t,ht⟩,hy,_⟩|⟨rfl,rfl,hn⟩
  ·rw[hs] at ht
   simp only[Option.some.injEq,Prod.mk.injEq] at ht
   rw[ht.2.1,ht.2.2] at hx
   rw[hx] at hy
   exact⟨(Prod.mk.inj hy).1,rfl⟩
  ·rw[hs] at hn;cases hn
 ·rcases h' with ⟨rfl,⟨t,ht⟩,hy,_⟩|⟨rfl,rfl,hn'⟩
  ·rw[ht] at hn;cases hn
  ·exact⟨rfl,rfl⟩
def z1(r:List UInt8):ByteArray×Nat:=(bs ((r.drop 2).take (beV (r.take 2))),beV (((r.drop 2).drop (beV (r.take 2))).take 4))
def zr(r:List UInt8):List UInt8:=((r.drop 2).drop (beV (r.take 2))).drop 4
def zst:Nat->List UInt8->List (ByteArray×Nat)×List UInt8
 | 0,l=>([],l)
 | k+1,l=>((zst k l).1++[z1 (zst k l).2],zr (zst k l).2)
theorem zst_len(l:List UInt8):∀k,(zst k l).1.length=k
 | 0=>rfl
 | k+1=>by simp[zst,zst_len l k]
theorem zr_len(r:List UInt8):(zr r).length<=r.length:=by unfold zr;simp only[List.length_drop];omega
theorem zst_rest(l:List UInt8):∀k,(zst k l).2.length<=l.length
 | 0=>Nat.le_refl _
 | k+1=>Nat.le_trans (zr_len _) (zst_rest l k)
theorem be_lt{l:List UInt8}{n:Nat}:beV (l.take n)<256 ^ n:=by
 have h1:=beV_lt (l.take n)
 have h2:256 ^ (l.take n).length<=256 ^ n:=Nat.pow_le_pow_right (by decide) (by rw[List.length_take];omega)
 omega
theorem z1_lt(r:List UInt8):(z1 r).2<4294967296:=by
 have:=be_lt (l:=(r.drop 2).drop (beV (r.take 2))) (n:=4)
 have e:(256:Nat) ^ 4=4294967296:=by decide
 unfold z1
 simp only
 omega
theorem zst_lt(l:List UInt8):∀k (i:Nat) (p:ByteArray×Nat),(zst k l).1[i]?=some p->p.2<4294967296
 | 0,i,p,h=>by simp[zst] at h
 | k+1,i,p,h=>by
  rw[zst] at h
  by_cases hi:i<(zst k l).1.length
  ·rw[List.getElem?_append_left hi] at h
   exact zst_lt l k i p h
  ·rw[List.getElem?_append_right (by omega)] at h
   have:=List.mem_of_getElem? h
   simp at this
   rw[this]
   exact z1_lt _
def colR(ss:List Nat):Nat->List UInt8->List UInt8
 | 0,r=>r
 | k+1,r=>(colR ss k r).drop (ss.getD k 0)
def colP(ss:List Nat)(k:Nat)(r:List UInt8):List UInt8:=(colR ss k r).take (ss.getD k 0)
theorem colR_len(ss:List Nat)(r:List UInt8):∀k,(colR ss k r).length<=r.length
 | 0=>Nat.le_refl _
 | k+1=>by rw[colR,List.length_drop];have:=colR_len ss r k;omega
theorem colP_len(ss:List Nat)(r:List UInt8)(k:Nat):(colP ss k r).length<=r.length:=by
 unfold colP;rw[List.length_take];have:=colR_len ss r k;omega
def layS(l:List UInt8):List Nat:=((zst (beV ((l.drop 2).take 1)) (((l.drop 2).drop 1).drop 4)).1).map Prod.snd
def layZ(l:List UInt8):List ByteArray:=((zst (beV ((l.drop 2).take 1)) (((l.drop 2).drop 1).drop 4)).1).map Prod.fst
def layT(l:List UInt8):List UInt8:=(zst (beV ((l.drop 2).take 1)) (((l.drop 2).drop 1).drop 4)).2
def layN(l:List UInt8):Nat:=beV ((l.drop 2).take 1)
def layR(l:List UInt8):Nat:=beV (((l.drop 2).drop 1).take 4)
structure Lay(l:List UInt8)(Xs:List Vc):Prop where
 n1:1<=layN l
 n2:layN l<=32
 len:Xs.length=layN l
 at_:∀i X,Xs[i]?=some X->UnR (colP (layS l) i (layT l)) X 0/\X.nl.length=layR l
end Go.Proofs.YtbfibfmnemnbbaaGreat
set_option linter.unusedSimpArgs false
set_option linter.unusedVariables false
set_option maxRecDepth 100000
namespace Go.Proofs.YtbfibfmnemnbbaaGreat
open Go.RowKit Go.Sort
def seg3(r:Int)(z c:Value):Nat->Value
 | 0=>.int .i64 r
 | 1=>z
 | _=>c
abbrev noSl:Value:=.slice none 0 0
theorem stake2(b n:Nat)(l:List UInt8)(w:World)(h:SRd w b l)(hl:l.length<=140737488300000)(hn:n<18446744073709551616) :
  Calls Tryz.prog 66 #[.pointer (some ⟨b,0,none⟩),.int .u64 n] w fun e w'=>e=.returned (.string (bs (l.take n)))/\SRd w' b (l.drop n)/\Gr w w' b:=by
 refine(stake b n l w h hl hn).mono ?_
 rintro e w' ⟨rfl,rfl⟩
 exact⟨rfl,h.set _,Gr.set w b _⟩
structure LB(w wr:World)(r:List UInt8):Prop where
 rd:SRd wr (w.heap.size+1) r
 res:wr.rowIs w.heap.size 62 3 (seg3 0 noSl noSl)
 bel:Below w.heap.size w wr
theorem LB.gr{w wr wx:World}{r r':List UInt8}(h:LB w wr r)(hr:SRd wx (w.heap.size+1) r')(hg:Gr wr wx (w.heap.size+1)):LB w wx r':=
 ⟨hr,rowIs_grown h.res hg (by simp),h.bel.trans (grown_below hg h.bel.size (fun g e=>by cases e;omega))⟩
theorem LB.start(w:World)(l:List UInt8):LB w ((w.alloc (.cells #[.int .i64 0,.slice none 0 0,.slice none 0 0] 62)).alloc (.cells #[.string (bs l)] 112)) l:=by
 have h1:(w.alloc (.cells #[.int .i64 0,.slice none 0 0,.slice none 0 0] 62)).rowIs w.heap.size 62 3 (seg3 0 noSl noSl):=World.rowIs_alloc w _ 62 _ (fun i hi=>by
  match i,hi with
  | 0,_=>rfl
  | 1,_=>rfl
  | 2,_=>rfl
  | n+3,h=>have:n+3<3:=h;omega)
 have h2:=World.rowIs_alloc (w.alloc (.cells #[.int .i64 0,.slice none 0 0,.slice none 0 0] 62)) #[.string (bs l)] 112 (fun _=>.string (bs l)) (fun i hi=>by
  match i,hi with
  | 0,_=>rfl
  | n+1,h=>simp at h)
 have e:(w.alloc (.cells #[.int .i64 0,.slice none 0 0,.slice none 0 0] 62)).heap.size=w.heap.size+1:=by simp
 rw[e] at h2
 exact⟨h2,h1.alloc _,below_alloc (below_alloc (Below.refl _ w) _) _⟩
structure LD(w wr:World)(G S n rows:Nat)(zv:Value)(zs:List ByteArray)(ss:List Nat)(r:List UInt8):Prop where
 lb:LB w wr r
 g:wr.rowIs G 62 3 (seg3 rows zv noSl)
 z:wr.ownsRow w.heap.size 9 1 zv zs.length (zs.map Value.string)
 s:wr.rowIs S 84 n (fun i=>.int .u64 ((ss.getD i 0:Nat):Int))
 hG:w.heap.size+1<G
 hS:w.heap.size+1<S
theorem own_free{w:World}{base e size:Nat}{v:Value}{m:Nat}{xs:List Value}{g t n:Nat}{F:Nat->Value}(h:w.ownsRow base e size v m xs)(hr:w.rowIs g t n F)(hte:t≠e){w':World}(hg:w.grownBy w' (some g)):w'.ownsRow base e size v m xs:=
 h.kept hg (by have:=own_ne hr h hte;cases hv:v.ownBlock with|none=>exact .inl rfl|some k=>exact .inr (by rw[hv] at this;exact fun e=>this e.symm))
theorem LD.gr{w wr wx:World}{G S n rows:Nat}{zv:Value}{zs:List ByteArray}{ss:List Nat}{r r':List UInt8}(h:LD w wr G S n rows zv zs ss r)(hr:SRd wx (w.heap.size+1) r')(hg:Gr wr wx (w.heap.size+1)):LD w wx G S n rows zv zs ss r':=
 ⟨h.lb.gr hr hg,rowIs_grown h.g hg (by have:=h.hG;simp;omega),own_free h.z h.lb.rd (by decide) hg,rowIs_grown h.s hg (by have:=h.hS;simp;omega),h.hG,h.hS⟩
theorem LD.drew{w wr:World}{G S n rows:Nat}{zv:Value}{zs:List ByteArray}{ss:List Nat}{r:List UInt8}(h:LD w wr G S n rows zv zs ss r):LD w wr.drew G S n rows zv zs ss r:=
 ⟨⟨h.lb.rd.drew,h.lb.res.drew,h.lb.bel.drew⟩,h.g.drew,World.ownsRow.drew h.z,h.s.drew,h.hG,h.hS⟩
theorem LD.push{w wr wx:World}{G S n rows:Nat}{zv zv':Value}{zs:List ByteArray}{ss:List Nat}{r:List UInt8}{z:ByteArray}{o:Obj}(h:LD w wr G S n rows zv zs ss r)
  (ho:wx.ownsRow w.heap.size 9 1 zv' (zs.length+1) (zs.map Value.string++[.string z])) (hg:(wr.alloc o).grownBy wx zv.ownBlock):LD w (wx.setCell ⟨G,1,none⟩ zv') G S n rows zv' (zs++[z]) ss r:=by
 have lz:=World.ownsRow.lt h.z
 have k1:∀{g t m:Nat} {F:Nat->Value},wr.rowIs g t m F->t≠9->wx.rowIs g t m F:=fun hr ht=>rowIs_grown (hr.alloc o) hg (own_ne hr h.z ht)
 have g1:=k1 h.g (by decide)
 have r1:=k1 h.lb.rd (by decide)
 have e1:=k1 h.lb.res (by decide)
 have s1:=k1 h.s (by decide)
 have hG:=h.hG
 have hSG:S≠G:=fun e=>by
  obtain⟨c,hc,_⟩:=h.s
  obtain⟨d,hd,_⟩:=h.g
  rw[e,hd] at hc
  injection hc with hc
  injection hc with _ hc _
  cases hc
 have bx:Below w.heap.size w wx:=(below_alloc h.lb.bel o).trans (grown_below hg (below_alloc h.lb.bel o).size (fun g e=>(lz g e).1))
 refine⟨⟨r1.setOther (by simp;omega) _,e1.setOther (by simp;omega) _,bx.setCell (by simp;omega) _⟩,?_,?_,s1.setOther (by simpa using hSG) _,h.hG,h.hS⟩
 ·refine World.rowIs.congr (g1.set 1 zv') (fun i hi=>?_)
  match i,hi with
  | 0,_=>rfl
  | 1,_=>rfl
  | 2,_=>rfl
 ·have:=own_set (j:=1) (u:=zv') ho g1 (by decide)
  simpa using this
theorem LD.size{w wr:World}{G S n rows:Nat}{zv:Value}{zs:List ByteArray}{ss:List Nat}{r:List UInt8}(h:LD w wr G S n rows zv zs ss r)(v k:Nat)(hk:ss.length=k):LD w (wr.setCell ⟨S,k,none⟩ (.int .u64 (v:Int))) G S n rows zv zs (ss++[v]) r:=by
 have hS:=h.hS
 have hSG:G≠S:=fun e=>by
  obtain⟨c,hc,_⟩:=h.s
  obtain⟨d,hd,_⟩:=h.g
  rw[<-e,hd] at hc
  injection hc with hc
  injection hc with _ hc _
  cases hc
 refine⟨⟨h.lb.rd.setOther (by simp;omega) _,h.lb.res.setOther (by simp;omega) _,h.lb.bel.setCell (by simp;omega) _⟩,h.g.setOther (by simpa using hSG) _,own_set h.z h.s (by decide),?_,h.hG,h.hS⟩
 refine World.rowIs.congr (h.s.set k _) (fun i hi=>?_)
 by_cases e:i=k
 ·subst e;subst hk;simp
 ·simp only[e,if_false]
  by_cases hi2:i<ss.length
  ·simp[List.getD,List.getElem?_append_left hi2]
  ·simp[List.getD,List.getElem?_append_right (show ss.length<=i by omega),List.getElem?_eq_none (show ss.length<=i by omega)]
   have:i-ss.length≠0:=by omega
   cases hq:i-ss.length with
   | zero=>exact absurd hq this
   | succ m=>simp
end Go.Proofs.YtbfibfmnemnbbaaGreat
set_option linter.unusedSimpArgs false
set_option linter.unusedVariables false
set_option maxRecDepth 100000
namespace Go.Proofs.YtbfibfmnemnbbaaGreat
open Go.RowKit Go.Sort
variable {w wr wx:World}{G S n rows:Nat}{zv cv cv':Value}{zs:List ByteArray}{ss:List Nat}{r r':List UInt8}{Cs:List (Vc×Sl)}
structure LE(w wr:World)(G S n rows:Nat)(zv cv:Value)(zs:List ByteArray)(ss:List Nat)(r:List UInt8)(Cs:List (Vc×Sl)):Prop where
 lb:LB w wr r
 g:wr.rowIs G 62 3 (seg3 rows zv cv)
 z:wr.ownsRow w.heap.size 9 1 zv zs.length (zs.map Value.string)
 s:wr.rowIs S 84 n (fun i=>.int .u64 ((ss.getD i 0:Nat):Int))
 hG:w.heap.size+1<G
 hS:w.heap.size+1<S
 c:wr.ownsRow w.heap.size 56 4 cv Cs.length (Cs.flatMap c4)
 saf:∀x∈Cs,∀w':World,(∀i,i<wr.heap.size->i≠w.heap.size->i≠w.heap.size+1->i≠G->some i≠cv.ownBlock->w'.heap[i]?=wr.heap[i]?)->VecAt w' x.1 x.2/\Own3 w' w.heap.size x.1 x.2
theorem LE.start(h:LD w wr G S n rows zv zs ss r):LE w wr G S n rows zv noSl zs ss r []:=
 ⟨h.lb,h.g,h.z,h.s,h.hG,h.hS,World.ownsRow_nil _ _ _ _,fun x hx=>by simp at hx⟩
theorem LE.gr(h:LE w wr G S n rows zv cv zs ss r Cs)(hr:SRd wx (w.heap.size+1) r')(hg:Gr wr wx (w.heap.size+1)):LE w wx G S n rows zv cv zs ss r' Cs:=
 ⟨h.lb.gr hr hg,rowIs_grown h.g hg (by have:=h.hG;simp;omega),own_free h.z h.lb.rd (by decide) hg,rowIs_grown h.s hg (by have:=h.hS;simp;omega),h.hG,h.hS,own_free h.c h.lb.rd (by decide) hg,
  fun x hx w' hk=>h.saf x hx w' fun i hi n1 n2 n3 n4=>(hk i (Nat.lt_of_lt_of_le hi hg.size) n1 n2 n3 n4).trans (hg.block i hi (by simpa using n2))⟩
theorem LE.later(h:LE w wr G S n rows zv cv zs ss r Cs)(hb:Below wr.heap.size wr wx):LE w wx G S n rows zv cv zs ss r Cs:=
 ⟨⟨rowIs_later h.lb.rd hb,rowIs_later h.lb.res hb,below_step h.lb.bel hb⟩,rowIs_later h.g hb,own_later h.z hb,rowIs_later h.s hb,h.hG,h.hS,own_later h.c hb,
  fun x hx w' hk=>h.saf x hx w' fun i hi n1 n2 n3 n4=>(hk i (Nat.lt_of_lt_of_le hi hb.size) n1 n2 n3 n4).trans (hb.block i hi)⟩
theorem own_outside{w w':World}{base e size n m:Nat}{v:Value}{xs:List Value}(h:w.ownsRow base e size v n xs)(hm:m<=base)(hk:∀g,m<=g->g<w.heap.size->w'.heap[g]?=w.heap[g]?):w'.ownsRow base e size v n xs:=by
 have hlt:=World.ownsRow.lt h
 refine⟨h.1,?_⟩
 rcases h.2 with h|⟨g,cap,cur,rfl,hb,hc,h4⟩
 ·exact .inl h
 ·exact .inr ⟨g,cap,cur,rfl,hb,by rw[hk g (by omega) (hlt g rfl).2];exact hc,h4⟩
theorem Own3.outside{w w':World}{base m:Nat}{X:Vc}{p:Sl}(h:Own3 w base X p)(hm:m<=base)(hk:∀g,m<=g->g<w.heap.size->w'.heap[g]?=w.heap[g]?):Own3 w' base X p:=⟨own_outside h.1 hm hk,own_outside h.2.1 hm hk,own_outside h.2.2 hm hk⟩
theorem Own3.later{w w':World}{base:Nat}{X:Vc}{p:Sl}(h:Own3 w base X p)(hb:Below w.heap.size w w'):Own3 w' base X p:=⟨own_later h.1 hb,own_later h.2.1 hb,own_later h.2.2 hb⟩
theorem vec_outside{w1 w2:World}{X:Vc}{p:Sl}{m:Nat}(h:VecAt w1 X p)(hf:Fresh m p)(hk:∀i,m<=i->i<w1.heap.size->w2.heap[i]?=w1.heap[i]?):VecAt w2 X p:=by
 have key:∀(a:Option Addr) (cs:List Value),(∀ad,a=some ad->m<=ad.block)->LisAt w1 a cs->LisAt w2 a cs:=fun a cs ha hl=>by
  rcases hl with e|⟨b,off,e,hl⟩
  ·exact .inl e
  ·refine .inr ⟨b,off,e,fun i x hx=>?_⟩
   have hc:=hl i x hx
   have hlt:b<w1.heap.size:=World.block_lt_of_cell? _ _ hc
   have hb:=ha _ e
   rw[<-hc]
   exact World.cell?_of_block (a:=⟨b,off+i,none⟩) (hk b hb hlt)
 exact⟨key _ _ hf.1 h.1,key _ _ hf.2.1 h.2.1,key _ _ hf.2.2 h.2.2⟩
theorem LE.push{X:Vc}{p:Sl}{m:Nat}{o:Obj}(h:LE w wr G S n rows zv cv zs ss r Cs)(hv:VecAt wr X p)(hf:Own3 wr m X p)(hm:∀g,cv.ownBlock=some g->g<m)(hGm:G<m)
  (ho:wx.ownsRow w.heap.size 56 4 cv' (Cs.length+1) (Cs.flatMap c4++c4 (X,p))) (hg:(wr.alloc o).grownBy wx cv.ownBlock) (hat:cv'.ownBlock=cv.ownBlock∨cv'.ownBlock=some (wr.alloc o).heap.size) :
  LE w (wx.setCell ⟨G,2,none⟩ cv') G S n rows zv cv' zs ss r (Cs++[(X,p)]):=by
 have lc:=World.ownsRow.lt h.c
 have k1:∀{g t q:Nat} {F:Nat->Value},wr.rowIs g t q F->t≠56->wx.rowIs g t q F:=fun hr ht=>rowIs_grown (hr.alloc o) hg (own_ne hr h.c ht)
 have g1:=k1 h.g (by decide)
 have hG:=h.hG
 have hSG:S≠G:=fun e=>by
  obtain⟨c,hc,_⟩:=h.s
  obtain⟨d,hd,_⟩:=h.g
  rw[e,hd] at hc
  injection hc with hc
  injection hc with _ hc _
  cases hc
 have bx:Below w.heap.size w wx:=(below_alloc h.lb.bel o).trans (grown_below hg (below_alloc h.lb.bel o).size (fun g e=>(lc g e).1))
 have es:(wr.alloc o).heap.size=wr.heap.size+1:=by simp
 have hbl:∀i,i<wr.heap.size->i≠G->some i≠cv.ownBlock->(wx.setCell ⟨G,2,none⟩ cv').heap[i]?=wr.heap[i]?:=fun i hi nG nc=>by
  rw[Below.heap_setCell wx _ cv' i (by simpa using nG),hg.block i (by omega) nc]
  exact Below.heap_alloc wr o i hi
 have hsz:wr.heap.size<=(wx.setCell ⟨G,2,none⟩ cv').heap.size:=by
  have:=hg.size
  have e2:(wx.setCell ⟨G,2,none⟩ cv').heap.size=wx.heap.size:=by simp
  omega
 have hnb:∀i,i<wr.heap.size->some i≠cv.ownBlock->some i≠cv'.ownBlock:=fun i hi hn e=>by
  rcases hat with h1|h1
  ·exact hn (e.trans h1)
  ·rw[h1] at e
   injection e with e
   omega
 refine⟨⟨(k1 h.lb.rd (by decide)).setOther (by simp;omega) _,(k1 h.lb.res (by decide)).setOther (by simp;omega) _,bx.setCell (by simp;omega) _⟩,?_,?_,(k1 h.s (by decide)).setOther (by simpa using hSG) _,h.hG,h.hS,?_,fun x hx w' hk=>?_⟩
 ·refine World.rowIs.congr (g1.set 2 cv') (fun i hi=>?_)
  match i,hi with
  | 0,_=>rfl
  | 1,_=>rfl
  | 2,_=>rfl
 ·refine own_set (t:=62) (n:=3) ?_ g1 (by decide)
  refine(World.ownsRow.alloc h.z o).kept hg ?_
  have:=own_own h.z h.c (by decide)
  rcases this with e|e
  ·exact .inl e
  ·exact .inr e
 ·have:=own_set (j:=2) (u:=cv') ho g1 (by decide)
  simpa using this
 ·rcases List.mem_append.1 hx with hx|hx
  ·exact h.saf x hx w' fun i hi n1 n2 n3 n4=>(hk i (by omega) n1 n2 n3 (hnb i hi n4)).trans (hbl i hi n3 n4)
  ·simp at hx
   subst hx
   have hkk:∀i,m<=i->i<wr.heap.size->w'.heap[i]?=wr.heap[i]?:=fun i hmi hi=>by
    have lw:=h.lb.rd.lt
    have n4:some i≠cv.ownBlock:=fun e=>by have:=hm i e.symm;omega
    have n3:i≠G:=by omega
    exact(hk i (by omega) (by omega) (by omega) n3 (hnb i hi n4)).trans (hbl i hi n3 n4)
   exact⟨vec_outside hv hf.fresh hkk,(hf.outside (Nat.le_refl _) hkk).less (by omega)⟩
theorem LE.owns(h:LE w wr G S n rows zv cv zs ss r Cs)(hx:∀i,i<wr.heap.size->i≠w.heap.size->wx.heap[i]?=wr.heap[i]?):∀c∈Cs,Own3 wx w.heap.size c.1 c.2:=fun c hc=>(h.saf c hc wx fun i hi n1 _ _ _=>hx i hi n1).2
theorem LE.cols(h:LE w wr G S n rows zv cv zs ss r Cs)(hx:∀i,i<wr.heap.size->i≠w.heap.size->wx.heap[i]?=wr.heap[i]?):∃a c,cv=.slice a Cs.length c/\ColsAt wx a Cs/\∀ad,a=some ad->w.heap.size<=ad.block:=by
 have hv:∀c∈Cs,VecAt wx c.1 c.2:=fun c hc=>(h.saf c hc wx fun i hi n1 _ _ _=>hx i hi n1).1
 have h_c:=h.c
 rcases h.c.2 with ⟨rfl,h0⟩|⟨g,cap,cur,rfl,hb,hg,_⟩
 ·have e:Cs=[]:=List.eq_nil_of_length_eq_zero h0
  subst e
  exact⟨none,0,rfl,⟨.inl rfl,hv⟩,fun ad h=>by cases h⟩
 ·refine⟨some ⟨g,0,none⟩,cap,rfl,⟨.inr ⟨g,0,rfl,fun i c hc=>?_⟩,hv⟩,fun ad h=>by cases h;exact(World.ownsRow.lt h_c g rfl).1⟩
  have hlt:=(World.ownsRow.lt h.c g rfl).2
  have hgA:g≠w.heap.size:=fun e=>own_ne h.lb.res h.c (by decide) (by rw[e];rfl)
  have hcell:=World.ownsRow.cells h.c (g:=g) rfl
  have hat:∀j,j<4->(Cs.flatMap c4)[i*4+j]?=(c4 c)[j]?:=fun j hj=>flat4_at hc hj
  have hadd:∀k,(⟨g,0,none⟩:Addr).add k=⟨g,k,none⟩:=fun k=>by unfold Addr.add;split<;>simp_all
  have key:∀j v,wr.cell? ⟨g,j,none⟩=some v->wx.cell? ⟨g,j,none⟩=some v:=fun j v hj=>by
   rw[<-hj];exact World.cell?_of_block (a:=⟨g,j,none⟩) (hx g hlt hgA)
  have h0:=hcell (i*4+0) _ (hat 0 (by omega))
  have h1:=hcell (i*4+1) _ (hat 1 (by omega))
  have h2:=hcell (i*4+2) _ (hat 2 (by omega))
  have h3:=hcell (i*4+3) _ (hat 3 (by omega))
  rw[hadd] at h0 h1 h2 h3
  rw[Nat.zero_add]
  exact⟨key _ _ h0,key _ _ h1,key _ _ h2,key _ _ h3⟩
theorem LE.zones(h:LE w wr G S n rows zv cv zs ss r Cs)(hx:∀i,i<wr.heap.size->i≠w.heap.size->wx.heap[i]?=wr.heap[i]?):∃a c,zv=.slice a zs.length c/\LisAt wx a (zs.map Value.string)/\∀ad,a=some ad->w.heap.size<=ad.block:=by
 obtain⟨a,c,rfl,hl,hfa⟩:=lis_of_own h.z
 refine⟨a,c,rfl,?_,hfa⟩
 rcases hl with e|⟨b,off,rfl,hl⟩
 ·exact .inl e
 ·refine .inr ⟨b,off,rfl,fun i x hi=>?_⟩
  have hc:=hl i x hi
  have hlt:b<wr.heap.size:=World.block_lt_of_cell? _ _ hc
  have hob:(Value.slice (some ⟨b,off,none⟩) zs.length c).ownBlock=some b:=rfl
  have hbA:b≠w.heap.size:=fun e=>own_ne h.lb.res h.z (by decide) (by rw[hob,e])
  rw[<-hc]
  exact World.cell?_of_block (a:=⟨b,off+i,none⟩) (hx b hlt hbA)
end Go.Proofs.YtbfibfmnemnbbaaGreat
set_option linter.unusedSimpArgs false
set_option linter.unusedVariables false
set_option maxHeartbeats 2000000
set_option maxRecDepth 100000
namespace Go.Proofs.YtbfibfmnemnbbaaGreat
open Go.RowKit Go.Sort
structure Free(w:World)(n:Nat)(az ac:Option Addr)(Cs:List (Vc×Sl)):Prop where
 z:∀ad,az=some ad->n<=ad.block
 c:∀ad,ac=some ad->n<=ad.block
 v:∀x∈Cs,Own3 w n x.1 x.2
def LayQ(w w':World)(l:List UInt8)(e:Ending):Prop:=
 (∃(Cs:List (Vc×Sl)) (az ac:Option Addr) (cz cc:Nat),e=.returned (.tuple #[.agg #[.int .i64 (layR l:Int),.slice az (layN l) cz,.slice ac (layN l) cc],.bool true])/\Lay l (Cs.map Prod.fst)/\LisAt w' az ((layZ l).map Value.string)/\ColsAt w' ac Cs/\Free w' w.heap.size az ac Cs/\Below w.heap.size w w')∨((∀Xs,¬Lay l Xs)/\e=.returned (.tuple #[.agg #[.int .i64 0,.slice none 0 0,.slice none 0 0],.bool false])/\Below w.heap.size w w')
theorem res_facts{w wr:World}{r:List UInt8}(h:LB w wr r):(wr.cell? ⟨w.heap.size,0,none⟩=some (.int .i64 0)/\wr.cell? ⟨w.heap.size,1,none⟩=some (.slice none 0 0)/\wr.cell? ⟨w.heap.size,2,none⟩=some (.slice none 0 0))/\wr.frozen? ⟨w.heap.size,0,none⟩=false/\wr.frozen? ⟨w.heap.size,1,none⟩=false/\wr.frozen? ⟨w.heap.size,2,none⟩=false:=
 ⟨⟨World.rowIs.cell h.res (i:=0) (by decide),World.rowIs.cell h.res (i:=1) (by decide),World.rowIs.cell h.res (i:=2) (by decide)⟩,World.rowIs.frozen h.res 0,World.rowIs.frozen h.res 1,World.rowIs.frozen h.res 2⟩
theorem put3S{w wr:World}(hb:Below w.heap.size w wr)(u v x:Value):Below w.heap.size w (((wr.setCell ⟨w.heap.size,0,none⟩ u).setCell ⟨w.heap.size,1,none⟩ v).setCell ⟨w.heap.size,2,none⟩ x):=
 ((hb.setCell (Nat.le_refl _) u).setCell (Nat.le_refl _) v).setCell (Nat.le_refl _) x
theorem laid_no(l:List UInt8)(hl:l.length<=140737488300000)(hn:layN l<1∨32<layN l)(w:World):Calls Tryz.prog 44 #[.string (bs l)] w fun e w'=>LayQ w w' l e:=by
 have HNO:Hid (∀Xs,¬Lay l Xs):=fun Xs h=>by have h1:=h.n1;have h2:=h.n2;omega
 obtain⟨n,hN⟩:∃n,layN l=n:=⟨_,rfl⟩
 obtain⟨m,hR⟩:∃m,layR l=m:=⟨_,rfl⟩
 have hm:m<4294967296:=by
  rw[<-hR];exact be_lt (n:=4)
 have hn256:n<256:=by rw[<-hN];exact be_lt (n:=1)
 rw[hN] at hn
 have im:(m:Int)<4294967296:=by omega
 have HT:Hid (∀W,LB w W l->Calls Tryz.prog 66 #[.pointer (some ⟨w.heap.size+1,0,none⟩),.int .u64 2] W fun e w'=>(∃t,e=.returned (.string t))/\LB w w' (l.drop 2)):=fun W h=>by
  refine(stake2 _ 2 l W h.rd hl (by omega)).mono ?_
  rintro e w' ⟨rfl,h1,h2⟩
  exact⟨⟨_,rfl⟩,h.gr h1 h2⟩
 have H1:Hid (∀W,LB w W (l.drop 2)->Calls Tryz.prog 67 #[.pointer (some ⟨w.heap.size+1,0,none⟩),.int .u64 1] W fun e w'=>e=.returned (.int .u64 (n:Int))/\LB w w' ((l.drop 2).drop 1)):=fun W h=>by
  refine(snum _ 1 (l.drop 2) W h.rd (by rw[List.length_drop];omega) (by omega)).mono ?_
  rintro e w' ⟨rfl,h1,h2⟩
  exact⟨by rw[<-hN];rfl,h.gr h1 h2⟩
 have H4:Hid (∀W,LB w W ((l.drop 2).drop 1)->Calls Tryz.prog 67 #[.pointer (some ⟨w.heap.size+1,0,none⟩),.int .u64 4] W fun e w'=>e=.returned (.int .u64 (m:Int))/\LB w w' (((l.drop 2).drop 1).drop 4)):=fun W h=>by
  refine(snum _ 4 _ W h.rd (by simp only[List.length_drop];omega) (by omega)).mono ?_
  rintro e w' ⟨rfl,h1,h2⟩
  exact⟨by rw[<-hR];rfl,h.gr h1 h2⟩
 have HS:=hide (LB.start w l)
 clear hN hR
 rcases hn with h|h
 ·have i1:(n:Int)<1:=by omega
  go_enter Tryz.func44,Tryz.ntmps44
  go_wp2_with (first
   | (go_at_call 66;refine(unhide HT _ (unhide HS)).mono ?_;rintro _ w1 ⟨⟨t,rfl⟩,h1⟩;have HB1:=hide h1;clear h1)
   | (go_at_call_of 67 (Value.int IntKind.u64 1);refine(unhide H1 _ (unhide HB1)).mono ?_;rintro _ w2 ⟨rfl,h2⟩;have HB2:=hide h2;clear h2)
   | (go_at_call_of 67 (Value.int IntKind.u64 4);refine(unhide H4 _ (unhide HB2)).mono ?_;rintro _ w3 ⟨rfl,h3⟩;have HB3:=hide h3;obtain⟨⟨b0,b1,b2⟩,q0,q1,q2⟩:=res_facts h3;have hz:=h3.res.lt;clear h3))
  refine bodyPost_ret (v:=.tuple #[.agg #[.int .i64 0,.slice none 0 0,.slice none 0 0],.bool false]) (by simp[results,Tryz.results44,go_sem, *]) rfl (.inr ⟨unhide HNO,rfl,below_alloc (put3S (unhide HB3).bel _ _ _) _⟩)
 ·have i1:¬(n:Int)<1:=by omega
  have i2:(32:Int)<(n:Int):=by omega
  go_enter Tryz.func44,Tryz.ntmps44
  go_wp2_with (first
   | (go_at_call 66;refine(unhide HT _ (unhide HS)).mono ?_;rintro _ w1 ⟨⟨t,rfl⟩,h1⟩;have HB1:=hide h1;clear h1)
   | (go_at_call_of 67 (Value.int IntKind.u64 1);refine(unhide H1 _ (unhide HB1)).mono ?_;rintro _ w2 ⟨rfl,h2⟩;have HB2:=hide h2;clear h2)
   | (go_at_call_of 67 (Value.int IntKind.u64 4);refine(unhide H4 _ (unhide HB2)).mono ?_;rintro _ w3 ⟨rfl,h3⟩;have HB3:=hide h3;obtain⟨⟨b0,b1,b2⟩,q0,q1,q2⟩:=res_facts h3;have hz:=h3.res.lt;clear h3))
  refine bodyPost_ret (v:=.tuple #[.agg #[.int .i64 0,.slice none 0 0,.slice none 0 0],.bool false]) (by simp[results,Tryz.results44,go_sem, *]) rfl (.inr ⟨unhide HNO,rfl,below_alloc (put3S (unhide HB3).bel _ _ _) _⟩)
end Go.Proofs.YtbfibfmnemnbbaaGreat
