import Derived.Test.YtbfibfmnemnbbaaGreatVecD
import Derived.Test.YtbfibfmnemnbbaaGreatVecL
set_option linter.unusedSimpArgs false
set_option linter.unusedVariables false
set_option maxHeartbeats 4000000
namespace Go.Proofs.YtbfibfmnemnbbaaGreat
open Go.RowKit Go.Sort
theorem any_hit{p:Val->Bool}{ys:List Val}{k:Nat}{y:Val}(h:ys[k]?=some y)(hp:p y=true):ys.any p=true:=
 List.any_eq_true.2 ⟨y,List.mem_of_getElem? h,hp⟩
theorem any_none{p:Val->Bool}{ys:List Val}(h:∀i y,i<ys.length->ys[i]?=some y->p y=false):ys.any p=false:=by
 rw[List.any_eq_false]
 intro y hy
 obtain⟨i,hi⟩:=List.mem_iff_getElem?.1 hy
 rw[h i y (List.getElem?_eq_some_iff.1 hi).1 hi];simp
theorem none_step{p:Val->Bool}{ys:List Val}{k:Nat}{y:Val}(h:∀i y,i<k->ys[i]?=some y->p y=false)(hy:ys[k]?=some y)(hp:p y=false):∀i y,i<k+1->ys[i]?=some y->p y=false:=by
 intro i z hi hz
 by_cases e:i=k
 ·subst e;rw[hy] at hz;cases hz;exact hp
 ·exact h i z (by omega) hz
theorem three{w:World}{g t n k:Nat}{F:Nat->Value}(h:w.rowIs g t n F)(hk:k*3+2<n) :
  w.cell? ⟨g,k*3,none⟩=some (F (k*3))/\w.cell? ⟨g,k*3+1,none⟩=some (F (k*3+1))/\w.cell? ⟨g,k*3+2,none⟩=some (F (k*3+2))/\w.frozen? ⟨g,k*3,none⟩=false/\w.frozen? ⟨g,k*3+1,none⟩=false/\w.frozen? ⟨g,k*3+2,none⟩=false:=
 ⟨h.cell (by omega),h.cell (by omega),h.cell (by omega),h.frozen _,h.frozen _,h.frozen _⟩
theorem rowIs_later{w w':World}{g t n:Nat}{F:Nat->Value}(h:w.rowIs g t n F)(hb:Below w.heap.size w w'):w'.rowIs g t n F:=h.of_block (hb.block _ h.lt)
theorem below_one{w w':World}{o:Obj}(h:Below (w.alloc o).heap.size (w.alloc o) w'):Below w.heap.size w w':=below_step (below_alloc (Below.refl _ _) o) h
def zeroVec:Value:=.agg #[.int .i64 0,.slice none 0 0,.slice none 0 0,.slice none 0 0]
theorem refused{w0 w':World}{X:Vc×Int}{n:Int}(hX:X=(Vc.zero,n))(hb:Below w0.heap.size w0 w') :
  ∃p,Ending.returned (.tuple #[zeroVec,.int .i64 n])=.returned (.tuple #[vecV X.1 p,.int .i64 X.2])/\VecAt w' X.1 p/\Own3 w' w0.heap.size X.1 p/\Below w0.heap.size w0 w':=by
 subst hX
 exact⟨⟨none,0,none,0,none,0⟩,rfl,VecAt.zero _,Own3.zero _ _,hb⟩
theorem box_facts{w:World}{g:Nat}{a b c d:Value}(h:w.rowIs g 56 4 (box4 a b c d)) :
  w.cell? ⟨g,0,none⟩=some a/\w.cell? ⟨g,1,none⟩=some b/\w.cell? ⟨g,2,none⟩=some c/\w.cell? ⟨g,3,none⟩=some d/\w.frozen? ⟨g,0,none⟩=false/\w.frozen? ⟨g,1,none⟩=false/\w.frozen? ⟨g,2,none⟩=false/\w.frozen? ⟨g,3,none⟩=false:=
 ⟨h.cell (by omega),h.cell (by omega),h.cell (by omega),h.cell (by omega),h.frozen _,h.frozen _,h.frozen _,h.frozen _⟩
theorem from_any(a:Option Addr)(c:Nat)(kind:Int)(xs:List Val)(w:World)(hl:xs.length*32<=140737488355328)(ha:RowAt w a xs) :
  Calls Tryz.prog 18 #[.int .i64 kind,.slice a xs.length c] w fun e w'=>∃p,e=.returned (.tuple #[vecV (fromV kind xs).1 p,.int .i64 (fromV kind xs).2])/\VecAt w' (fromV kind xs).1 p/\Own3 w' w.heap.size (fromV kind xs).1 p/\Below w.heap.size w w':=by
 obtain⟨i4,hi4,z40,z41,z42⟩:=info_parts Tryz.info25
 generalize hX:fromV kind xs=X
 have HX:=hide hX
 clear hX
 have HA:=hide ha
 clear ha
 obtain⟨ys,hys⟩:∃ys,ys=xs.map cleanV:=⟨_,rfl⟩
 have HY:=hide hys
 have hyl:ys.length=xs.length:=by rw[hys];simp
 have HYL:=hide hyl
 clear hys hyl
 rcases Bool.eq_false_or_eq_true (kindB kind) with hk|hk
 rotate_left
 ·have HE:Hid (X=(Vc.zero,1)):=by
   show _=_
   rw[<-unhide HX,fromV,if_pos hk]
  go_enter Tryz.func18,Tryz.ntmps18
  go_wp2_with (go_at_call 35;refine(iskind_any _ _).mono ?_;rintro e w1 ⟨rfl,rfl⟩)
  refine bodyPost_ret (v:=.tuple #[zeroVec,.int .i64 1]) (by simp[results,Tryz.results18,go_sem,zeroVec, *]) rfl ?_
  exact refused (unhide HE) (by repeat (first|exact Below.refl _ _|refine Below.alloc ?_ (by simp<;>omega) _|refine Below.setCell ?_ (by simp<;>omega) _))
 ·go_enter Tryz.func18,Tryz.ntmps18
  go_wp2_with (first
   | (go_at_call 35;refine(iskind_any _ _).mono ?_;rintro e w1 ⟨rfl,rfl⟩)
   | (at_make;refine wpList_make_rows _ rfl (.tmp 18) (.tmp 18) 36 rfl 25 i4 _ Tryz.underlying36 hi4 z40 3 z41 .i64 .i64 xs.length rfl rfl (by rw[z42];omega) (by omega) ?_)
   | fail)
  go_loopw[22] (fun i wr=>∃k:Nat,k<=xs.length/\i=.int .i64 k/\FInv w wr xs.length k ys) (fun i _=>xs.length-(intOf i).toNat)
  case atStart=>exact⟨0,Nat.zero_le _,rfl,FInv.start _ _ _ _⟩
  case round=>
   obtain⟨k,hkl,rfl,hI⟩:=hrel
   have HI:=hide hI
   obtain⟨hb,hr,⟨F,hF,hF'⟩⟩:=hI
   have ha':=(unhide HA).later hb
   have hz:=hF.lt
   by_cases h1:k<xs.length
   ·obtain⟨x,hx'⟩:∃x,xs[k]?=some x:=⟨_,List.getElem?_eq_getElem h1⟩
    rcases ha' with e|⟨ba,oa,rfl,hca⟩
    ·subst e;simp at h1
    obtain⟨c0,c1,c2⟩:=hca k x hx'
    have HS:Hid (ys[k]?=some (cleanV x)):=by show _=_;rw[unhide HY];simp[hx']
    have i1:(k:Int)<(xs.length:Int):=by omega
    have HF:=hide hF
    clear hca hx' hF hF' hr hb
    go_wp2_with (go_at_call 23;refine(clean_any x _).mono ?_;rintro e w1 ⟨rfl,hb1⟩;rw[Val.open_];have hw1:=below_one hb1;clear hb1;obtain⟨p0,p1,p2,q0,q1,q2⟩:=three (k:=k) (rowIs_later (unhide HF) hw1) (by omega))
    go_roundw
    case rel=>exact⟨k+1,by omega,by go_num,((unhide HI).later hw1).step (unhide HS)⟩
    case measure=>simp[intOf];omega
   ·have e:k=xs.length:=by omega
    have i1:¬(k:Int)<(xs.length:Int):=by omega
    have HI2:Hid (FInv w wr xs.length xs.length ys):=by have:=unhide HI;rw[e] at this;exact this
    clear hr hF hF' hb ha' HI e
    go_wp2
    obtain⟨W1,rfl⟩:∃W1,W1=wr:=⟨_,rfl⟩
    clear hkl h1 F hz i1
    go_loopw[35] (fun i wr=>∃j:Nat,j<=xs.length/\i=.int .i64 j/\Hid (∀i y,i<j->ys[i]?=some y->badK kind y=false)/\Below W1.heap.size W1 wr) (fun i _=>xs.length-(intOf i).toNat)
    case atStart=>exact⟨0,Nat.zero_le _,rfl,fun i y h=>by omega,Below.refl _ _⟩
    case round=>
     obtain⟨j,hjl,rfl,HN,hb⟩:=hrel
     have hI:=(unhide HI2).later hb
     have HI:=hide hI
     obtain⟨hb0,hr,⟨F,hF,hF'⟩⟩:=hI
     obtain⟨r0,r1,r2,r3,f0,f1,f2,f3⟩:=box_facts hr
     by_cases h1:j<xs.length
     ·obtain⟨y,hy⟩:∃y,ys[j]?=some y:=⟨_,List.getElem?_eq_getElem (by rw[unhide HYL];exact h1)⟩
      have ha':=row_of_row hF (unhide HYL) hF'
      rcases ha' with e|⟨ba,oa,e,hca⟩
      ·rw[e] at hy;cases hy
      cases e
      obtain⟨c0,c1,c2⟩:=hca j y hy
      rw[Nat.zero_add] at c0 c1 c2
      have i1:(j:Int)<(xs.length:Int):=by omega
      have n1:w.heap.size<wr.heap.size:=hr.lt
      have HS:=hide hy
      have HB0:=hide hb0
      clear hca hy hF hF' hr hb0
      rcases Bool.eq_false_or_eq_true (y.k != 0) with e1|e1
      ·rcases Bool.eq_false_or_eq_true (y.k != kind) with e2|e2
       ·have HE:Hid (X=(Vc.zero,4)):=by
         show _=_
         rw[<-unhide HX,fromV,if_neg (by rw[hk];simp),<-unhide HY,if_pos (any_hit (unhide HS) (by rw[badK,e1,e2];rfl))]
        go_wp2
        refine bodyPost_ret (v:=.tuple #[zeroVec,.int .i64 4]) (by simp[results,Tryz.results18,go_sem,zeroVec, *]) rfl ?_
        exact refused (unhide HE) (below_alloc (below_set4 (unhide HB0) (Nat.le_refl _) _ _ _ _) _)
       ·have HP:=hide (none_step (unhide HN) (unhide HS) (by rw[badK,e1,e2];rfl))
        go_wp2
        go_roundw
        case rel=>exact⟨j+1,by omega,by go_num,HP,below_alloc hb _⟩
        case measure=>simp[intOf];omega
      ·have HP:=hide (none_step (unhide HN) (unhide HS) (by rw[badK,e1];rfl))
       go_wp2
       go_roundw
       case rel=>exact⟨j+1,by omega,by go_num,HP,below_alloc hb _⟩
       case measure=>simp[intOf];omega
     ·have e:j=xs.length:=by omega
      have i1:¬(j:Int)<(xs.length:Int):=by omega
      have HP:Hid (ys.any (badK kind)=false):=any_none (by rw[unhide HYL,<-e];exact unhide HN)
      clear e
      go_wp2
      obtain⟨W2,rfl⟩:∃W2,W2=wr:=⟨_,rfl⟩
      clear hjl h1 F hF hF' i1 hr hb0 r0 r1 r2 r3 f0 f1 f2 f3 HN HI2 hb
      go_loopw[52] (fun i wr=>∃j:Nat,j<=xs.length/\i=.int .i64 j/\Hid (∀i y,i<j->ys[i]?=some y->largeB y.s=false)/\Below W2.heap.size W2 wr) (fun i _=>xs.length-(intOf i).toNat)
      case atStart=>exact⟨0,Nat.zero_le _,rfl,fun i y h=>by omega,Below.refl _ _⟩
      case round=>
       obtain⟨j,hjl,rfl,HN,hb⟩:=hrel
       have hI:=(unhide HI).later hb
       obtain⟨hb0,hr,⟨F,hF,hF'⟩⟩:=hI
       obtain⟨r0,r1,r2,r3,f0,f1,f2,f3⟩:=box_facts hr
       by_cases h1:j<xs.length
       ·obtain⟨y,hy⟩:∃y,ys[j]?=some y:=⟨_,List.getElem?_eq_getElem (by rw[unhide HYL];exact h1)⟩
        have ha':=row_of_row hF (unhide HYL) hF'
        rcases ha' with e|⟨ba,oa,e,hca⟩
        ·rw[e] at hy;cases hy
        cases e
        obtain⟨c0,c1,c2⟩:=hca j y hy
        rw[Nat.zero_add] at c0 c1 c2
        have i1:(j:Int)<(xs.length:Int):=by omega
        have n1:w.heap.size<wr.heap.size:=hr.lt
        have HS:=hide hy
        have HB0:=hide hb0
        clear hca hy hF hF' hr hb0
        rcases Bool.eq_false_or_eq_true (largeB y.s) with e1|e1
        ·have HE:Hid (X=(Vc.zero,3)):=by
          show _=_
          rw[<-unhide HX,fromV,if_neg (by rw[hk];simp),<-unhide HY,if_neg (by rw[unhide HP];simp),if_pos (any_hit (p:=fun y=>largeB y.s) (unhide HS) e1)]
         go_wp2_with (go_at_call 36;refine(islarge_any _ _).mono ?_;rintro e w1 ⟨rfl,rfl⟩)
         refine bodyPost_ret (v:=.tuple #[zeroVec,.int .i64 3]) (by simp[results,Tryz.results18,go_sem,zeroVec, *]) rfl ?_
         exact refused (unhide HE) (below_alloc (below_set4 (unhide HB0) (Nat.le_refl _) _ _ _ _) _)
        ·have HQ:=hide (none_step (p:=fun y=>largeB y.s) (unhide HN) (unhide HS) e1)
         go_wp2_with (go_at_call 36;refine(islarge_any _ _).mono ?_;rintro e w1 ⟨rfl,rfl⟩)
         go_roundw
         case rel=>exact⟨j+1,by omega,by go_num,HQ,below_alloc hb _⟩
         case measure=>simp[intOf];omega
       ·have e:j=xs.length:=by omega
        have i1:¬(j:Int)<(xs.length:Int):=by omega
        have HE:Hid (X=(laidV kind ys,0)):=by
         show _=_
         have hq:ys.any (fun y=>largeB y.s)=false:=any_none (by rw[unhide HYL,<-e];exact unhide HN)
         rw[<-unhide HX,fromV,if_neg (by rw[hk];simp),<-unhide HY,if_neg (by rw[unhide HP];simp),if_neg (by rw[hq];simp)]
        have HC:Hid (Calls Tryz.prog 37 #[.int .i64 kind,.slice (some ⟨w.heap.size+1,0,none⟩) xs.length xs.length] wr fun e w'=>∃p,e=.returned (vecV (laidV kind ys) p)/\VecAt w' (laidV kind ys) p/\Own3 w' wr.heap.size (laidV kind ys) p/\Below wr.heap.size wr w'):=by
         have:=laid_any (some ⟨w.heap.size+1,0,none⟩) xs.length kind ys wr (by rw[unhide HYL];exact hl) (row_of_row hF (unhide HYL) hF')
         rw[unhide HYL] at this
         exact this
        have HB0:=hide hb0
        have HR:=hide hr
        have n1:w.heap.size<wr.heap.size:=hr.lt
        clear hF hF' hr hb0 e r0 r1 r2 r3 f0 f1 f2 f3
        go_wp2_with (go_at_call 37;refine(unhide HC).mono ?_;rintro e w1 ⟨p,rfl,hv1,hp1,hb1⟩;rw[vecV_open];obtain⟨r0,r1,r2,r3,f0,f1,f2,f3⟩:=box_facts (rowIs_later (unhide HR) hb1))
        refine bodyPost_ret (v:=.tuple #[vecV (laidV kind ys) p,.int .i64 0]) (by simp[results,Tryz.results18,go_sem,vecV, *]) rfl ?_
        rw[unhide HE]
        exact⟨p,rfl,hv1.setO4 hp1.fresh n1 _ _ _ _,(hp1.setO4 n1 _ _ _ _).less (by omega),below_set4 (below_step (unhide HB0) hb1) (Nat.le_refl _) _ _ _ _⟩
end Go.Proofs.YtbfibfmnemnbbaaGreat
set_option linter.unusedSimpArgs false
set_option linter.unusedVariables false
namespace Go.Proofs.YtbfibfmnemnbbaaGreat
open Go.RowKit Go.Sort
theorem rowIs_grown{w w':World}{g t n:Nat}{F:Nat->Value}{row:Option Nat}(h:w.rowIs g t n F)(hg:w.grownBy w' row)(hne:some g≠row):w'.rowIs g t n F:=h.of_block (hg.block _ h.lt hne)
theorem own_block{w:World}{base e size:Nat}{v:Value}{m:Nat}{xs:List Value}(h:w.ownsRow base e size v m xs){g:Nat}(hg:v.ownBlock=some g):∃cur,w.heap[g]?=some (.cells cur e (0,0)):=by
 rcases h.2 with ⟨rfl,_⟩|⟨g',cap,cur,rfl,_,hh,_⟩
 ·simp[Value.ownBlock] at hg
 ·simp[Value.ownBlock] at hg;subst hg;exact⟨cur,hh⟩
theorem own_ne{w:World}{g t n:Nat}{F:Nat->Value}{base e size:Nat}{v:Value}{m:Nat}{xs:List Value}(h:w.rowIs g t n F)(ho:w.ownsRow base e size v m xs)(hte:t≠e):some g≠v.ownBlock:=by
 intro hg
 obtain⟨cur,hc⟩:=own_block ho hg.symm
 obtain⟨c,hb,_⟩:=h
 rw[hc] at hb
 simp at hb
 exact hte hb.2.symm
theorem own_own{w:World}{base e size base' e' size':Nat}{v v':Value}{m m':Nat}{xs xs':List Value}(h:w.ownsRow base e size v m xs)(h':w.ownsRow base' e' size' v' m' xs')(hne:e≠e'):v.ownBlock=none∨v.ownBlock≠v'.ownBlock:=by
 cases hv:v.ownBlock with
 | none=>exact .inl rfl
 | some g=>
  right
  intro hg
  obtain⟨c,hc⟩:=own_block h hv
  obtain⟨c',hc'⟩:=own_block h' hg.symm
  rw[hc] at hc'
  simp at hc'
  exact hne hc'.2
theorem grown_set(w:World)(g j:Nat)(u:Value):w.grownBy (w.setCell ⟨g,j,none⟩ u) (some g):=by
 have:=(Below.refl g w).setCell (p:=⟨g,j,none⟩) (Nat.le_refl _) u
 exact⟨this.os,this.tape,this.output,this.size,fun k _ hne=>Below.heap_setCell w _ u k (fun e=>hne (by rw[e]))⟩
theorem own_set{w:World}{g t n j:Nat}{F:Nat->Value}{u:Value}{base e size:Nat}{v:Value}{m:Nat}{xs:List Value}(ho:w.ownsRow base e size v m xs)(h:w.rowIs g t n F)(hte:t≠e):(w.setCell ⟨g,j,none⟩ u).ownsRow base e size v m xs:=
 ho.kept (grown_set w g j u) (by have:=own_ne h ho hte;cases hv:v.ownBlock with|none=>exact .inl rfl|some k=>exact .inr (by rw[hv] at this;exact fun e=>this e.symm))
theorem own_later{w w1:World}{base e size:Nat}{v:Value}{m:Nat}{xs:List Value}(h:w.ownsRow base e size v m xs)(hb:Below w.heap.size w w1):w1.ownsRow base e size v m xs:=
 h.kept (row:=none) ⟨hb.os,hb.tape,hb.output,hb.size,fun k hk _=>hb.block k hk⟩ (by cases v.ownBlock with|none=>exact .inl rfl|some g=>exact .inr (by simp))
theorem grown_below{w w':World}{row:Option Nat}(hg:w.grownBy w' row){B:Nat}(hB:B<=w.heap.size)(hr:∀g,row=some g->B<=g):Below B w w':=
 ⟨hg.os,hg.tape,hg.output,hg.size,fun k hk=>hg.block k (by omega) (fun e=>by have:=hr k e.symm;omega)⟩
theorem lis_of_own{w:World}{base e:Nat}{v:Value}{m:Nat}{xs:List Value}(h:w.ownsRow base e 1 v m xs):∃a c,v=.slice a m c/\LisAt w a xs/\∀ad,a=some ad->base<=ad.block:=by
 have hcell:=@World.ownsRow.cells w base e 1 v m xs h
 have hl:=h.1
 rcases h.2 with ⟨rfl,h0⟩|⟨g,cap,cur,rfl,hb,_⟩
 ·subst h0
  have:xs=[]:=List.eq_nil_of_length_eq_zero (by omega)
  exact⟨none,0,rfl,.inl this,by simp⟩
 ·refine⟨some ⟨g,0,none⟩,cap,rfl,.inr ⟨g,0,rfl,fun i x hx=>?_⟩,by intro ad e;cases e;exact hb⟩
  have:=hcell (g:=g) rfl i x hx
  rw[Addr.add_lit,Nat.zero_add] at this
  rw[Nat.zero_add];exact this
def box3(y:Val):Nat->Value
 | 0=>.int .i64 y.k
 | 1=>.int .i64 y.n
 | _=>.string y.s
theorem box3_arr(y:Val):∀i,i < #[Value.int .i64 y.k,.int .i64 y.n,.string y.s].size->#[Value.int .i64 y.k,.int .i64 y.n,.string y.s][i]?=some (box3 y i):=by
 intro i hi
 match i,hi with
 | 0,_=>rfl
 | 1,_=>rfl
 | 2,_=>rfl
theorem box3_alloc(w:World)(y:Val):(w.alloc (.cells #[.int .i64 y.k,.int .i64 y.n,.string y.s] 25)).rowIs w.heap.size 25 3 (box3 y):=World.rowIs_alloc w _ 25 _ (box3_arr y)
theorem box3_facts{w:World}{g:Nat}{y:Val}(h:w.rowIs g 25 3 (box3 y)) :
  w.cell? ⟨g,0,none⟩=some (.int .i64 y.k)/\w.cell? ⟨g,1,none⟩=some (.int .i64 y.n)/\w.cell? ⟨g,2,none⟩=some (.string y.s)/\w.frozen? ⟨g,0,none⟩=false/\w.frozen? ⟨g,1,none⟩=false/\w.frozen? ⟨g,2,none⟩=false:=
 ⟨h.cell (by omega),h.cell (by omega),h.cell (by omega),h.frozen _,h.frozen _,h.frozen _⟩
theorem box3_set{w:World}{g:Nat}{x y:Val}(h:w.rowIs g 25 3 (box3 x)):(((w.setCell ⟨g,0,none⟩ (.int .i64 y.k)).setCell ⟨g,1,none⟩ (.int .i64 y.n)).setCell ⟨g,2,none⟩ (.string y.s)).rowIs g 25 3 (box3 y):=by
 refine(((h.set 0 _).set 1 _).set 2 _).congr fun i hi=>?_
 match i,hi with
 | 0,_=>rfl
 | 1,_=>rfl
 | 2,_=>rfl
end Go.Proofs.YtbfibfmnemnbbaaGreat
set_option linter.unusedSimpArgs false
set_option linter.unusedVariables false
namespace Go.Proofs.YtbfibfmnemnbbaaGreat
open Go.RowKit Go.Sort
theorem take_one{ys:List Val}{k:Nat}{y:Val}(h:ys[k]?=some y):ys.take (k+1)=ys.take k++[y]:=by
 rw[List.take_add_one,h];rfl
theorem own_shape{w:World}{base e size:Nat}{v:Value}{m:Nat}{xs:List Value}(h:w.ownsRow base e size v m xs):∃a c,v=.slice a m c:=by
 rcases h.2 with ⟨rfl,rfl⟩|⟨g,cap,cur,rfl,_⟩
 ·exact⟨none,0,rfl⟩
 ·exact⟨_,_,rfl⟩
end Go.Proofs.YtbfibfmnemnbbaaGreat
set_option linter.unusedSimpArgs false
set_option linter.unusedVariables false
namespace Go.Proofs.YtbfibfmnemnbbaaGreat
open Go.RowKit Go.Sort
theorem box4_alloc(w:World)(a b c d:Value):(w.alloc (.cells #[a,b,c,d] 56)).rowIs w.heap.size 56 4 (box4 a b c d):=World.rowIs_alloc w _ 56 _ (box4_arr _ _ _ _)
def boxV(w:World)(X:Vc)(p:Sl):World:=w.alloc (.cells #[.int .i64 X.k,.slice p.a1 X.nl.length p.c1,.slice p.a2 X.ns.length p.c2,.slice p.a3 X.ss.length p.c3] 56)
theorem boxV_facts{w w':World}{X:Vc}{p:Sl}(h:Below (boxV w X p).heap.size (boxV w X p) w') :
  (w'.cell? ⟨w.heap.size,0,none⟩=some (.int .i64 X.k)/\w'.cell? ⟨w.heap.size,1,none⟩=some (.slice p.a1 X.nl.length p.c1)/\w'.cell? ⟨w.heap.size,2,none⟩=some (.slice p.a2 X.ns.length p.c2)/\w'.cell? ⟨w.heap.size,3,none⟩=some (.slice p.a3 X.ss.length p.c3))/\Below w.heap.size w w'/\w.heap.size<w'.heap.size:=by
 have hr:=rowIs_later (box4_alloc w (.int .i64 X.k) (.slice p.a1 X.nl.length p.c1) (.slice p.a2 X.ns.length p.c2) (.slice p.a3 X.ss.length p.c3)) h
 obtain⟨r0,r1,r2,r3,_⟩:=box_facts hr
 exact⟨⟨r0,r1,r2,r3⟩,below_one h,hr.lt⟩
end Go.Proofs.YtbfibfmnemnbbaaGreat
set_option linter.unusedSimpArgs false
set_option linter.unusedVariables false
set_option maxHeartbeats 1000000
namespace Go.Proofs.YtbfibfmnemnbbaaGreat
open Go.RowKit Go.Sort
def atV(X:Vc)(i:Nat):Val:=if X.nl.getD i false then .null else if X.k == 1 then .num (X.ns.getD i 0) else .str (X.ss.getD i ⟨#[]⟩)
def valsV(X:Vc):List Val:=if goodB X then (List.range X.nl.length).map (atV X) else []
theorem vals_at{X:Vc}(hg:goodB X=true){i:Nat}(hi:i<X.nl.length):(valsV X)[i]?=some (atV X i):=by simp[valsV,hg,hi]
theorem vals_len{X:Vc}(hg:goodB X=true):(valsV X).length=X.nl.length:=by simp[valsV,hg]
theorem vals_none{X:Vc}(hg:goodB X=false):valsV X=[]:=by simp[valsV,hg]
theorem vals_le(X:Vc):(valsV X).length<=X.nl.length:=by
 cases h:goodB X
 ·rw[vals_none h];simp
 ·rw[vals_len h];exact Nat.le_refl _
theorem good_kinds{X:Vc}(hg:goodB X=true):((X.k == 1)=true/\X.ns.length=X.nl.length)∨((X.k == 1)=false/\(X.k == 2)=true/\X.ss.length=X.nl.length):=by
 unfold goodB at hg
 rcases Bool.eq_false_or_eq_true (X.k == 1) with k1|k1
 ·rw[k1] at hg
  simp[znN] at hg
  exact .inl ⟨k1,hg.2.1.symm⟩
 ·rcases Bool.eq_false_or_eq_true (X.k == 2) with k2|k2
  ·rw[k1,k2] at hg
   simp[znS] at hg
   exact .inr ⟨k1,k2,hg.1.2.1.symm⟩
  ·rw[k1,k2] at hg;simp at hg
theorem at_any(X:Vc)(p:Sl)(w:World)(hs:small X)(hg:goodB X=true)(hp:VecAt w X p)(i:Nat)(hi:i<X.nl.length) :
  Calls Tryz.prog 46 #[vecV X p,.int .i64 i] w fun e w'=>e=.returned (atV X i).v/\Below w.heap.size w w':=by
 rw[vecV_open]
 obtain⟨l1,l2,l3⟩:=hs
 obtain⟨b,hb⟩:∃b,X.nl[i]?=some b:=⟨_,List.getElem?_eq_getElem hi⟩
 obtain⟨pb,po,ea,cp⟩:=hp.1.get (k:=i) (x:=.bool b) (by simp[hb])
 rw[ea]
 have i1:(i:Int)<(X.nl.length:Int):=by omega
 have hbl:=World.block_lt_of_cell? _ _ cp
 simp only at hbl
 cases b
 ·rcases good_kinds hg with ⟨k1,e1⟩|⟨k1,k2,e1⟩
  ·obtain⟨m,hm⟩:∃m,X.ns[i]?=some m:=⟨_,List.getElem?_eq_getElem (by omega)⟩
   obtain⟨qb,qo,eb,cq⟩:=hp.2.1.get (k:=i) (x:=.int .i64 m) (by simp[hm])
   rw[eb]
   have i2:(i:Int)<(X.ns.length:Int):=by omega
   have hbl2:=World.block_lt_of_cell? _ _ cq
   simp only at hbl2
   have HV:Hid (atV X i=.num m):=by show _=_;simp[atV,hb,k1,hm]
   generalize atV X i=V at HV ⊢
   clear ea eb hb hm hp hg e1
   go_enter Tryz.func46,Tryz.ntmps46
   go_wp2
   refine bodyPost_ret (v:=(Val.num m).v) (by simp[results,Tryz.results46,go_sem,Val.v,Val.num]) rfl ⟨by rw[unhide HV],?_⟩
   (repeat (first|exact Below.refl _ _|refine Below.alloc ?_ (by simp<;>omega) _|refine Below.setCell ?_ (by simp<;>omega) _))
  ·obtain⟨m,hm⟩:∃m,X.ss[i]?=some m:=⟨_,List.getElem?_eq_getElem (by omega)⟩
   obtain⟨qb,qo,eb,cq⟩:=hp.2.2.get (k:=i) (x:=.string m) (by simp[hm])
   rw[eb]
   have i2:(i:Int)<(X.ss.length:Int):=by omega
   have hbl2:=World.block_lt_of_cell? _ _ cq
   simp only at hbl2
   have HV:Hid (atV X i=.str m):=by show _=_;simp[atV,hb,k1,hm]
   generalize atV X i=V at HV ⊢
   clear ea eb hb hm hp hg e1
   go_enter Tryz.func46,Tryz.ntmps46
   go_wp2
   refine bodyPost_ret (v:=(Val.str m).v) (by simp[results,Tryz.results46,go_sem,Val.v,Val.str]) rfl ⟨by rw[unhide HV],?_⟩
   (repeat (first|exact Below.refl _ _|refine Below.alloc ?_ (by simp<;>omega) _|refine Below.setCell ?_ (by simp<;>omega) _))
 ·have HV:Hid (atV X i=.null):=by show _=_;simp[atV,hb]
  generalize atV X i=V at HV ⊢
  clear ea hb hp hg
  go_enter Tryz.func46,Tryz.ntmps46
  go_wp2
  refine bodyPost_ret (v:=Val.null.v) (by simp[results,Tryz.results46,go_sem,Val.v,Val.null]) rfl ⟨by rw[unhide HV],?_⟩
  (repeat (first|exact Below.refl _ _|refine Below.alloc ?_ (by simp<;>omega) _|refine Below.setCell ?_ (by simp<;>omega) _))
theorem len_any(X:Vc)(p:Sl)(w:World)(hs:small X)(hp:VecAt w X p) :
  Calls Tryz.prog 39 #[vecV X p] w fun e w'=>e=.returned (.int .i64 ((valsV X).length:Nat))/\Below w.heap.size w w':=by
 have HG:Hid (∀w',Below w.heap.size w w'->Calls Tryz.prog 45 #[vecV X p] w' fun e w''=>e=.returned (.bool (goodB X))/\Below w'.heap.size w' w''):=fun w' hb=>good_any X p w' hs (hp.later hb)
 have HV:Hid ((valsV X).length=if goodB X then X.nl.length else 0):=by
  show _=_
  cases h:goodB X
  ·simp[vals_none h]
  ·simp[vals_len h]
 obtain⟨l1,l2,l3⟩:=hs
 generalize (valsV X).length=N at HV ⊢
 generalize goodB X=G at HV HG
 rw[vecV_open]
 clear hp
 cases G
 ·have HE:Hid (N=0):=unhide HV
  go_enter Tryz.func39,Tryz.ntmps39
  go_wp2_with (go_at_call 45;refine(unhide HG _ (below_alloc (Below.refl _ _) _)).mono ?_;rintro e w1 ⟨rfl,hb1⟩)
  go_ret
  exact⟨by rw[unhide HE];rfl,below_one hb1⟩
 ·have HE:Hid (N=X.nl.length):=unhide HV
  go_enter Tryz.func39,Tryz.ntmps39
  go_wp2_with (go_at_call 45;refine(unhide HG _ (below_alloc (Below.refl _ _) _)).mono ?_;rintro e w1 ⟨rfl,hb1⟩;obtain⟨⟨r0,r1,r2,r3⟩,hbb,hzz⟩:=boxV_facts hb1)
  go_ret
  exact⟨by rw[unhide HE];rfl,hbb⟩
end Go.Proofs.YtbfibfmnemnbbaaGreat
set_option linter.unusedSimpArgs false
set_option linter.unusedVariables false
set_option maxHeartbeats 2000000
namespace Go.Proofs.YtbfibfmnemnbbaaGreat
open Go.RowKit Go.Sort
def c3(x:Val):List Value:=[.int .i64 x.k,.int .i64 x.n,.string x.s]
def OwnV(w:World)(base:Nat)(v:Value)(xs:List Val):Prop:=w.ownsRow base 25 3 v xs.length (xs.flatMap c3)
theorem ownV_app{w:World}{base:Nat}{v:Value}{ys:List Val}{x:Val}(h:w.ownsRow base 25 3 v (ys.length+1) (ys.flatMap c3++c3 x)):OwnV w base v (ys++[x]):=by
 unfold OwnV
 rw[List.length_append,List.flatMap_append]
 simpa using h
theorem OwnV.later{w w1:World}{base:Nat}{v:Value}{xs:List Val}(h:OwnV w base v xs)(hb:Below w.heap.size w w1):OwnV w1 base v xs:=own_later h hb
theorem flat_at:∀(zs:List Val) (i j:Nat) (x:Val),zs[i]?=some x->j<3->(zs.flatMap c3)[i*3+j]?=(c3 x)[j]?
 | [],i,j,x,h,_=>by simp at h
 | z::zs,0,j,x,h,hj=>by
  simp at h
  subst h
  rw[List.flatMap_cons,List.getElem?_append_left (by simp[c3];omega)]
  simp
 | z::zs,i+1,j,x,h,hj=>by
  have ih:=flat_at zs i j x (by simpa using h) hj
  rw[List.flatMap_cons,List.getElem?_append_right (by simp[c3];omega)]
  rw[<-ih]
  congr 1
  simp[c3]
  omega
theorem flat_len(zs:List Val):(zs.flatMap c3).length=zs.length*3:=by
 induction zs with
 | nil=>rfl
 | cons z zs ih=>rw[List.flatMap_cons,List.length_append,ih];simp[c3];omega
theorem ownV_row{w:World}{base:Nat}{v:Value}{zs:List Val}(h:OwnV w base v zs):∃a cap,v=.slice a zs.length cap/\RowAt w a zs:=by
 rcases h.2 with ⟨rfl,h0⟩|⟨g,cap,cur,rfl,_⟩
 ·have:zs=[]:=List.eq_nil_of_length_eq_zero h0
  subst this
  exact⟨none,0,rfl,.inl rfl⟩
 ·refine⟨_,cap,rfl,.inr ⟨g,0,rfl,fun i x hx=>?_⟩⟩
  have hc:=World.ownsRow.cells h rfl
  have ea:∀n:Nat,(⟨g,0,none⟩:Addr).add n=⟨g,0+n,none⟩:=by
   intro n
   by_cases h:n=0<;>simp[Addr.add,h]
  have e0:=hc (i*3+0) _ (flat_at zs i 0 x hx (by omega))
  have e1:=hc (i*3+1) _ (flat_at zs i 1 x hx (by omega))
  have e2:=hc (i*3+2) _ (flat_at zs i 2 x hx (by omega))
  rw[ea] at e0 e1 e2
  exact⟨by simpa using e0,by simpa [Nat.add_assoc] using e1,by simpa [Nat.add_assoc] using e2⟩
theorem own_of_row{w:World}{base g n:Nat}{F:Nat->Value}{ys:List Val}(h:w.rowIs g 25 (n*3) F)(hl:ys.length=n)(hh:Holds3 F n ys)(hb:base<=g)(hn:n<=maxLen):OwnV w base (.slice (some ⟨g,0,none⟩) n n) ys:=by
 subst hl
 obtain⟨c,hc,hs,hf⟩:=h
 refine⟨flat_len ys,.inr ⟨g,ys.length,c,rfl,hb,hc,Nat.le_refl _,hn,hs,?_⟩⟩
 rw[List.take_of_length_le (by simp[hs])]
 apply List.ext_getElem?
 intro j
 by_cases hj:j<ys.length*3
 ·have e:j=(j / 3)*3+j % 3:=by omega
  have hx:ys[j / 3]?=some (ys[j / 3]'(by omega)):=List.getElem?_eq_getElem (by omega)
  obtain⟨f0,f1,f2⟩:=hh (j / 3) _ (by omega) hx
  have hcj:c.toList[j]?=some (F j):=by rw[Array.getElem?_toList];exact hf j hj
  rw[hcj]
  have hfl:=flat_at ys (j / 3) (j % 3) _ hx (by omega)
  rw[<-e] at hfl
  rw[hfl]
  have h3:j % 3=0∨j % 3=1∨j % 3=2:=by omega
  rcases h3 with h3|h3|h3
  ·rw[h3];rw[h3,Nat.add_zero] at e;rw[<-e] at f0;simp[c3,f0]
  ·rw[h3];rw[h3] at e;rw[<-e] at f1;simp[c3,f1]
  ·rw[h3];rw[h3] at e;rw[<-e] at f2;simp[c3,f2]
 ·rw[List.getElem?_eq_none (by simp[hs];omega),List.getElem?_eq_none (by rw[flat_len];omega)]
def PInv(w0 w:World)(B g n k:Nat)(v0 v1 v2 v3:Value)(ys:List Val):Prop:=
 Below w0.heap.size w0 w/\w.rowIs B 56 4 (box4 v0 v1 v2 v3)/\(∃F,w.rowIs g 25 (n*3) F/\Holds3 F k ys)
theorem PInv.later{w0 w w':World}{B g n k:Nat}{v0 v1 v2 v3:Value}{ys:List Val}(h:PInv w0 w B g n k v0 v1 v2 v3 ys)(hb:Below w.heap.size w w'):PInv w0 w' B g n k v0 v1 v2 v3 ys:=by
 obtain⟨hb0,hr,F,hF,hF'⟩:=h
 exact⟨below_step hb0 hb,rowIs_later hr hb,F,rowIs_later hF hb,hF'⟩
theorem PInv.step{w0 w:World}{B g n k:Nat}{v0 v1 v2 v3:Value}{ys:List Val}{y:Val}(h:PInv w0 w B g n k v0 v1 v2 v3 ys)(hg:w0.heap.size<=g)(hne:B≠g)(hy:ys[k]?=some y) :
  PInv w0 (((w.setCell ⟨g,k*3,none⟩ (.int .i64 y.k)).setCell ⟨g,k*3+1,none⟩ (.int .i64 y.n)).setCell ⟨g,k*3+2,none⟩ (.string y.s)) B g n (k+1) v0 v1 v2 v3 ys:=by
 obtain⟨hb0,hr,F,hF,hF'⟩:=h
 refine⟨((hb0.setCell hg _).setCell hg _).setCell hg _,?_,⟨_,?_,hF'.step hy⟩⟩
 ·exact((hr.setOther hne _).setOther hne _).setOther hne _
 ·exact((hF.set _ _).set _ _).set _ _
theorem PInv.start{w0 w1:World}{B:Nat}{v0 v1 v2 v3:Value}(hb:Below w0.heap.size w0 w1)(hr:w1.rowIs B 56 4 (box4 v0 v1 v2 v3))(c:Array Value)(n:Nat)(ys:List Val):PInv w0 (w1.alloc (.cells (madeCells c (n*3)) 25)) B w1.heap.size n 0 v0 v1 v2 v3 ys:=by
 obtain⟨F,hF⟩:=rowIs_any w1 (madeCells c (n*3)) 25
 rw[size_madeCells] at hF
 exact⟨below_alloc hb _,hr.alloc _,F,hF,Holds3.zero _ _⟩
theorem values_any(X:Vc)(p:Sl)(w:World)(hs:small X)(hp:VecAt w X p) :
  Calls Tryz.prog 91 #[vecV X p] w fun e w'=>∃v,e=.returned v/\OwnV w' w.heap.size v (valsV X)/\Below w.heap.size w w':=by
 obtain⟨i4,hi4,z40,z41,z42⟩:=info_parts Tryz.info25
 have HL:Hid (∀w',Below w.heap.size w w'->Calls Tryz.prog 39 #[vecV X p] w' fun e w''=>e=.returned (.int .i64 ((valsV X).length:Nat))/\Below w'.heap.size w' w''):=fun w' hb=>len_any X p w' hs (hp.later hb)
 have HT:Hid (goodB X=true->∀w',Below w.heap.size w w'->∀i,i<X.nl.length->Calls Tryz.prog 46 #[vecV X p,.int .i64 i] w' fun e w''=>e=.returned (atV X i).v/\Below w'.heap.size w' w''):=fun hg w' hb i hi=>at_any X p w' hs hg (hp.later hb) i hi
 have hN:(valsV X).length<=4398046511104:=Nat.le_trans (vals_le X) hs.1
 obtain⟨N,hNe⟩:∃N,N=(valsV X).length:=⟨_,rfl⟩
 have HN:=hide hNe
 rw[<-hNe] at hN HL
 have HA:Hid (∀i,i<N->(valsV X)[i]?=some (atV X i)/\∀w',Below w.heap.size w w'->Calls Tryz.prog 46 #[vecV X p,.int .i64 i] w' fun e w''=>e=.returned (atV X i).v/\Below w'.heap.size w' w''):=by
  intro i hi
  rw[hNe] at hi
  cases hg:goodB X
  ·rw[vals_none hg] at hi;simp at hi
  ·rw[vals_len hg] at hi
   exact⟨vals_at hg hi,fun w' hb=>unhide HT hg w' hb i hi⟩
 clear hp HT hNe hs
 rw[vecV_open]
 go_enter Tryz.func91,Tryz.ntmps91
 go_wp2_with (first
  | (go_at_call 39;refine(unhide HL _ (below_alloc (Below.refl _ _) _)).mono ?_;rintro e w1 ⟨rfl,hb1⟩;have hbx:=boxV_facts hb1;obtain⟨⟨r0,r1,r2,r3⟩,hbw,hzw⟩:=hbx)
  | (at_make;refine wpList_make_rows _ rfl (.tmp 6) (.tmp 6) 36 rfl 25 i4 _ Tryz.underlying36 hi4 z40 3 z41 .i64 .i64 N rfl rfl (by rw[z42];omega) (by omega) ?_)
  | fail)
 have HR:=hide (rowIs_later (box4_alloc w _ _ _ _) hb1)
 clear hb1 r0 r1 r2 r3
 go_loopw[10] (fun i wr=>∃k:Nat,k<=N/\i=.int .i64 k/\PInv w wr w.heap.size w1.heap.size N k (.int .i64 X.k) (.slice p.a1 X.nl.length p.c1) (.slice p.a2 X.ns.length p.c2) (.slice p.a3 X.ss.length p.c3) (valsV X)) (fun i _=>N-(intOf i).toNat)
 case atStart=>exact⟨0,Nat.zero_le _,rfl,PInv.start hbw (unhide HR) _ _ _⟩
 case round=>
  obtain⟨k,hk,rfl,hI⟩:=hrel
  have HI:=hide hI
  obtain⟨hb,hr,F,hF,hF'⟩:=hI
  by_cases h1:k<N
  ·obtain⟨r0,r1,r2,r3,_⟩:=box_facts hr
   obtain⟨hv,hat⟩:=unhide HA k h1
   have HV:=hide hv
   have HT:=hide (hat wr hb)
   generalize atV X k=y at HV HT
   have HF:=hide hF
   have hg:=hF.lt
   have i1:(k:Int)<(N:Int):=by omega
   clear hr hF hF' hb hv hat
   go_wp2_with (go_at_call 46;refine(unhide HT).mono ?_;rintro e w2 ⟨rfl,hb2⟩;rw[Val.open_];obtain⟨p0,p1,p2,q0,q1,q2⟩:=three (k:=k) (rowIs_later (unhide HF) hb2) (by omega))
   go_roundw
   case rel=>exact⟨k+1,by omega,by go_num,((unhide HI).later hb2).step (by omega) (by omega) (unhide HV)⟩
   case measure=>simp[intOf];omega
  ·have i1:¬(k:Int)<(N:Int):=by omega
   have HE:Hid (OwnV wr w.heap.size (.slice (some ⟨w1.heap.size,0,none⟩) N N) (valsV X)):=by
    have e:k=N:=by omega
    rw[e] at hF'
    exact own_of_row hF (unhide HN).symm hF' (by omega) (by unfold maxLen;omega)
   clear hF hF' hr
   go_wp2
   go_ret
   exact⟨_,rfl,unhide HE,hb⟩
end Go.Proofs.YtbfibfmnemnbbaaGreat
set_option linter.unusedSimpArgs false
set_option linter.unusedVariables false
namespace Go.Proofs.YtbfibfmnemnbbaaGreat
open Go.RowKit Go.Sort
theorem cells3_new(w:World)(y:Val):∀j u,(c3 y)[j]?=some u->(w.alloc (.cells #[.int .i64 y.k,.int .i64 y.n,.string y.s] 25)).cell? ((⟨w.heap.size,0,none⟩:Addr).add j)=some u:=by
 intro j u hj
 match j,hj with
 | 0,hj=>simp[c3] at hj;subst hj;simp[Addr.add,go_sem]
 | 1,hj=>simp[c3] at hj;subst hj;simp[Addr.add,go_sem]
 | 2,hj=>simp[c3] at hj;subst hj;simp[Addr.add,go_sem]
 | j+3,hj=>simp[c3] at hj
theorem c3_one(y:Val):∀u∈c3 y,u.oneCell'=true:=by
 intro u hu;simp[c3] at hu;rcases hu with rfl|rfl|rfl<;>rfl
theorem own_base{w:World}{base base' e size:Nat}{v:Value}{m:Nat}{xs:List Value}(h:w.ownsRow base e size v m xs)(hb:base'<=base):w.ownsRow base' e size v m xs:=by
 refine⟨h.1,?_⟩
 rcases h.2 with h|⟨g,cap,cur,hv,hg,rest⟩
 ·exact .inl h
 ·exact .inr ⟨g,cap,cur,hv,Nat.le_trans hb hg,rest⟩
end Go.Proofs.YtbfibfmnemnbbaaGreat
