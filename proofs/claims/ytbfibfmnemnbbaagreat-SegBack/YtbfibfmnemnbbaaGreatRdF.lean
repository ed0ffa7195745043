import Derived.Test.YtbfibfmnemnbbaaGreatRdE
import Derived.Test.YtbfibfmnemnbbaaGreatPackU
set_option linter.unusedSimpArgs false
set_option linter.unusedVariables false
set_option maxHeartbeats 2000000
set_option maxRecDepth 100000
namespace Go.Proofs.YtbfibfmnemnbbaaGreat
open Go.RowKit Go.Sort
theorem OwnV.gr{w w':World}{B b:Nat}{u:Value}{xs:List Val}(h:OwnV w B u xs)(hg:Gr w w' b)(hb:b<B):OwnV w' B u xs:=by
 refine⟨h.1,?_⟩
 rcases h.2 with h1|⟨g,cap,cur,hv,hB,hh,rest⟩
 ·exact .inl h1
 ·refine .inr ⟨g,cap,cur,hv,hB,?_,rest⟩
  rw[hg.block g (World.ownsRow.lt h g (by rw[hv];rfl)).2 (fun e=>by injection e with e;omega)]
  exact hh
theorem Gr.app{w wr w1:World}{b:Nat}{v:Value}{o:Obj}{xs:List Val}(h:Gr w wr b)(ho:OwnV wr w.heap.size v xs)(hg:(wr.alloc o).grownBy w1 v.ownBlock):Gr w w1 b:=by
 refine⟨hg.os.trans h.os,hg.tape.trans h.tape,hg.output.trans h.output,?_,fun i hi hne=>?_⟩
 ·have:=hg.size;have:=h.size;simp at *;omega
 ·have h2:=h.size
  rw[hg.block i (by simp;omega) (fun e=>by have:=(World.ownsRow.lt ho i e.symm).1;omega),Below.heap_alloc _ _ _ (by omega),h.block i hi hne]
theorem Rd.app{wr w1:World}{b B:Nat}{v:Value}{o:Obj}{xs:List Val}{l:List UInt8}(hr:Rd wr b l)(ho:OwnV wr B v xs)(hb:b<B)(hg:(wr.alloc o).grownBy w1 v.ownBlock):Rd w1 b l:=by
 have hl:=hr.ne
 refine World.rowIs.of_block hr ?_
 rw[hg.block b (by simp;omega) (fun e=>by have:=(World.ownsRow.lt ho b e.symm).1;omega),Below.heap_alloc _ _ _ hl]
theorem plainsD_len{kind:Int}:∀{n:Nat} {l r:List UInt8} {vs:List Val},plainsD kind n l=some (vs,r)->vs.length=n/\r.length<=l.length
 | 0,l,r,vs,h=>by
  unfold plainsD at h
  injection h with h;injection h with h1 h2
  subst h1;subst h2;exact⟨rfl,Nat.le_refl _⟩
 | n+1,l,r,vs,h=>by
  unfold plainsD at h
  cases hp:plainsD kind n l with
  | none=>rw[hp] at h;cases h
  | some p=>
   rw[hp,Option.bind_some] at h
   cases hq:plainD kind p.2 with
   | none=>rw[hq] at h;cases h
   | some q=>
    rw[hq] at h
    injection h with h;injection h with h1 h2
    obtain⟨a,c⟩:=plainsD_len (vs:=p.1) (r:=p.2) hp
    have:=plainD_le hq
    subst h1;subst h2
    exact⟨by simp[a],by omega⟩
theorem plainsD_step{kind:Int}{k:Nat}{l r r2:List UInt8}{vs:List Val}{x:Val}(h:plainsD kind k l=some (vs,r))(hx:plainD kind r=some (x,r2)):plainsD kind (k+1) l=some (vs++[x],r2):=by
 rw[plainsD,h,Option.bind_some,hx];rfl
theorem plainsD_stuck{kind:Int}{k:Nat}{l r:List UInt8}{vs:List Val}(h:plainsD kind k l=some (vs,r))(hx:plainD kind r=none):∀n,k<n->plainsD kind n l=none:=by
 intro n hn
 obtain⟨j,rfl⟩:∃j,n=k+1+j:=⟨n-k-1,by omega⟩
 clear hn
 induction j with
 | zero=>show plainsD kind (k+1) l=none;rw[plainsD,h,Option.bind_some,hx];rfl
 | succ j ih=>show plainsD kind (k+1+j+1) l=none;rw[plainsD,ih];rfl
def PlainsR(w w':World)(e:Ending)(b:Nat)(o:Option (List Val×List UInt8)):Prop:=
 (∃vs r v,o=some (vs,r)/\e=.returned v/\OwnV w' w.heap.size v vs/\Rd w' b r/\Gr w w' b)∨(o=none/\e=dmg/\Gr w w' b)
theorem plains_any(b n:Nat)(kind:Int)(l:List UInt8)(w:World)(hk:kind=1∨kind=2)(hn:n<=100000)(h:Rd w b l)(hl:l.length<=140737488355328) :
  Calls Tryz.prog 165 #[.pointer (some ⟨b,0,none⟩),.int .i64 kind,.int .i64 n] w fun e w'=>PlainsR w w' e b (plainsD kind n l):=by
 obtain⟨i4,hi4,z40,z41,z42⟩:=info_parts Tryz.info25
 have hb0:=h.ne
 go_enter Tryz.func165,Tryz.ntmps165
 go_wp2_with fail
 go_loopw[7,9] (fun v i wr=>∃(k:Nat) (vs:List Val) (r:List UInt8),k<=n/\i=.int .i64 (k:Int)/\Hid (plainsD kind k l=some (vs,r))/\OwnV wr w.heap.size v vs/\Rd wr b r/\Gr w wr b) (fun _ i _=>n-(intOf i).toNat)
 case atStart=>exact⟨0,[],l,Nat.zero_le _,rfl,rfl,⟨rfl,.inl ⟨rfl,rfl⟩⟩,h,Gr.refl _ _⟩
 case round=>
  obtain⟨k,vs,r,hkn,rfl,HP,ho,hr,hg⟩:=hrel
  obtain⟨hvl,hrl⟩:=plainsD_len (unhide HP)
  have HVL:=hide hvl
  by_cases hlt:k<n
  ·have h9:(k:Int)<(n:Int):=by omega
   cases hx:plainD kind r with
   | none=>
    have HN:=hide (plainsD_stuck (unhide HP) hx n hlt)
    have HC:=hide (plain_no hk hr (by omega) hx)
    have HG:=hide hg
    clear hx hg ho hr hvl
    go_wp2_with (go_at_call 179;refine(unhide HC).mono ?_;rintro e w1 ⟨rfl,hg1⟩)
    exact⟨rfl,.inr ⟨unhide HN,rfl,(unhide HG).trans hg1⟩⟩
   | some p=>
    obtain⟨x,r2⟩:=p
    have HN:=hide (plainsD_step (unhide HP) hx)
    have HC:=hide (plain_yes hk hr (by omega) hx)
    have HG:=hide hg
    have HO:=hide ho
    have hsz:=hg.size
    clear hx hg ho hr hvl
    go_wp2_with (first
     | (go_at_call 179;refine(unhide HC).mono ?_;rintro e w2 ⟨rfl,hr2,hg2⟩;rw[Val.open_];have ho2:=(unhide HO).gr hg2 hb0;have hG2:=(unhide HG).trans hg2;have hsz2:=hg2.size)
     | (at_builtin;refine wpList_append_own_at _ rfl (.tmp 11) (.tmp 15) 36 rfl w.heap.size 25 i4 (.agg #[.int .i64 0,.int .i64 0,.string ⟨#[]⟩]) 3 32 Tryz.underlying36 hi4 z40 z41 z42 rfl (by decide) _ _ _ rfl (World.ownsRow.alloc ho2 _) ⟨w2.heap.size,0,none⟩ 1 1 (c3 x) rfl rfl (cells3_new w2 x) (c3_one _) (by rw[unhide HVL];unfold maxLen;omega) (by rw[unhide HVL];omega) (by simp;omega) ?_;intro v1 w3 hown1 hgrow1 _ hat1;have ho3:=ownV_app hown1))
    go_roundw
    case rel=>exact⟨k+1,vs++[x],r2,by omega,by go_num,HN,ho3,hr2.app ho2 hb0 hgrow1,hG2.app ho2 hgrow1⟩
    case measure=>simp[intOf];omega
  ·have h9:¬(k:Int)<(n:Int):=by omega
   have ek:k=n:=by omega
   subst ek
   have HO:=hide (⟨ho,hr,hg⟩:OwnV wr w.heap.size u7 vs/\Rd wr b r/\Gr w wr b)
   clear ho hr hg hvl
   go_wp2
   go_ret
   exact .inl ⟨vs,r,_,unhide HP,rfl,unhide HO⟩
end Go.Proofs.YtbfibfmnemnbbaaGreat
set_option linter.unusedSimpArgs false
set_option linter.unusedVariables false
set_option maxHeartbeats 2000000
set_option maxRecDepth 100000
namespace Go.Proofs.YtbfibfmnemnbbaaGreat
open Go.RowKit Go.Sort
def numAt(T d i:Nat):Nat:=T / 2 ^ (d*i) % 2 ^ d
def numsOf(t:List UInt8)(d count:Nat):List Nat:=(List.range count).map (numAt (leV t) d)
def nlOfT(t:List UInt8)(count:Nat):List Bool:=(numsOf t 1 count).map (· == 1)
def nullsD(count:Nat)(l:List UInt8):Option (List Bool×List UInt8):=
 (numD 1 l).bind fun p=>if p.1=0 then some (List.replicate count false,p.2) else if p.1=1 then
  (bitsD count 1 p.2).bind fun q=>if (nlOfT q.1 count).any id then some (nlOfT q.1 count,q.2) else none
 else none
theorem Rd.grx{w w':World}{b B:Nat}{l:List UInt8}(h:Rd w b l)(hg:Gr w w' B)(hne:b≠B):Rd w' b l:=
 World.rowIs.of_block h (hg.block b h.ne (fun e=>hne (by injection e)))
theorem Gr.fresh{w wr w':World}{b B:Nat}(h:Gr w wr b)(hg:Gr wr w' B)(hB:w.heap.size<=B):Gr w w' b:=by
 have h2:=h.size
 exact⟨hg.os.trans h.os,hg.tape.trans h.tape,hg.output.trans h.output,Nat.le_trans h2 hg.size,fun i hi hne=>by
  rw[hg.block i (by omega) (fun e=>by injection e with e;omega),h.block i hi hne]⟩
theorem row_grx{w w':World}{g t n B:Nat}{F:Nat->Value}(h:w.rowIs g t n F)(hg:Gr w w' B)(hne:g≠B):w'.rowIs g t n F:=
 h.of_block (hg.block g h.lt (fun e=>hne (by injection e)))
theorem Bits.next{w w':World}{A B C d k:Nat}{t:List UInt8}(h:Bits w A B C d (d*k) t)(hb:At1 w' B 3 (.int .i64 ((d*k+d:Nat):Int)))(hg:Gr w w' B):Bits w' A B C d (d*(k+1)) t:=
 ⟨h.a.gr hg h.ab,by rw[Nat.mul_succ];exact hb,h.c.gr hg h.cb,h.ab,h.cb⟩
theorem Bits.set{w:World}{A B C d P g j:Nat}{t:List UInt8}(h:Bits w A B C d P t)(v:Value)(h1:A≠g)(h2:B≠g)(h3:C≠g):Bits (w.setCell ⟨g,j,none⟩ v) A B C d P t:=
 ⟨World.rowIs.setOther h.a h1 v,World.rowIs.setOther h.b h2 v,World.rowIs.setOther h.c h3 v,h.ab,h.cb⟩
theorem Bits.alloc{w:World}{A B C d P:Nat}{t:List UInt8}(h:Bits w A B C d P t)(o:Obj):Bits (w.alloc o) A B C d P t:=⟨h.a.new o,h.b.new o,h.c.new o,h.ab,h.cb⟩
theorem next_any{w:World}{A B C d k count:Nat}{t:List UInt8}(h:Bits w A B C d (d*k) t)(hd:d<=64)(hk:k<count)(hc:count<=4096)(hl:t.length=bytesN count d) :
  Calls Tryz.prog 178 #[.pointer (some ⟨A,0,none⟩),.pointer (some ⟨B,0,none⟩),.pointer (some ⟨C,0,none⟩)] w fun e w'=>
   e=.returned (.int .u64 ((numAt (leV t) d k:Nat):Int))/\Bits w' A B C d (d*(k+1)) t/\Gr w w' B:=by
 have h1:d*k+d<=d*count:=by rw[<-Nat.mul_succ];exact Nat.mul_le_mul_left _ hk
 have h2:count*d<=4096*64:=Nat.mul_le_mul hc hd
 have h3:d*count=count*d:=Nat.mul_comm _ _
 refine(bits1_any A B C (d*k) d t w h.a h.b h.c h.ab h.cb hd (by rw[hl];unfold bytesN;omega) (by rw[hl];unfold bytesN;omega)).mono ?_
 rintro e w' ⟨rfl,hb,hg⟩
 exact⟨rfl,h.next hb hg,hg⟩
def cntT(nl:List Bool)(k:Nat):Nat:=(nl.take k).count true
theorem cntT_next{nl:List Bool}{k:Nat}{x:Bool}(h:nl[k]?=some x):cntT nl (k+1)=cntT nl k+(if x then 1 else 0):=by
 obtain⟨h1,rfl⟩:=List.getElem?_eq_some_iff.1 h
 unfold cntT
 rw[List.take_succ_eq_append_getElem h1,List.count_append]
 cases nl[k]<;>simp
theorem cntT_le(nl:List Bool)(k:Nat):cntT nl k<=k:=by
 unfold cntT
 exact Nat.le_trans List.count_le_length (List.length_take_le _ _)
theorem nlOfT_len(t:List UInt8)(count:Nat):(nlOfT t count).length=count:=by simp[nlOfT,numsOf]
theorem nlOfT_at{t:List UInt8}{count k:Nat}(h:k<count):(nlOfT t count)[k]?=some (numAt (leV t) 1 k == 1):=by simp[nlOfT,numsOf,h]
def bF(nl:List Bool)(k:Nat)(j:Nat):Value:=.bool (if j<k then nl.getD j false else false)
def NullsR(w w':World)(e:Ending)(b count:Nat)(o:Option (List Bool×List UInt8)):Prop:=
 (∃nl r g,o=some (nl,r)/\e=.returned (.tuple #[.slice (some ⟨g,0,none⟩) count count,.int .i64 (nl.count true:Nat)])/\w'.rowIs g 4 count (fun j=>.bool (nl.getD j false))/\nl.length=count/\w.heap.size<=g/\Rd w' b r/\Gr w w' b)∨(o=none/\e=dmg/\Gr w w' b)
theorem Gr.of_alloc{w w1:World}{b:Nat}{o:Obj}(h:Gr (w.alloc o) w1 b):Gr w w1 b:=(Gr.alloc w b o).trans h
theorem nulls_zero{b count:Nat}{l r:List UInt8}{w:World}(hc:count<=4096)(h:Rd w b l)(hl:l.length<=140737488355328)(hd:numD 1 l=some (0,r)) :
  Calls Tryz.prog 151 #[.pointer (some ⟨b,0,none⟩),.int .i64 count] w fun e w'=>NullsR w w' e b count (some (List.replicate count false,r)):=by
 obtain⟨i6,hi6,z60,z61,z62⟩:=info_parts Tryz.info4
 have HN:=hide (fun o=>numd_yes (h.alloc o) hl hd (by decide))
 have hne:w.heap.size≠b:=by have:=h.ne;omega
 have HNE:=hide hne
 clear h hne
 go_enter Tryz.func151,Tryz.ntmps151
 go_wp2_with (first
  | (at_make;refine wpList_make_row _ rfl (.tmp 11) (.tmp 11) 52 rfl 4 i6 (.bool false) Tryz.underlying52 hi6 z60 z61 rfl .i64 .i64 count rfl rfl (by rw[z62];omega) (by omega) ?_)
  | (go_at_call 149;refine(unhide HN _).mono ?_;rintro e w1 ⟨rfl,hr1,hg1⟩)
  | (go_at_call 150;refine(ensureT _ (by decide) _).mono ?_;rintro e w2 ⟨rfl,rfl⟩))
 go_ret2
 refine .inl ⟨_,r,w.heap.size,rfl,?_,?_,by simp,Nat.le_refl _,hr1,hg1.of_alloc⟩
 ·have:(List.replicate count false).count true=0:=by rw[List.count_replicate];rfl
  rw[this];rfl
 ·refine World.rowIs.congr (row_grx (World.rowIs_made w (.bool false) count 4) hg1 (unhide HNE)) fun j hj=>?_
  simp[List.getD_eq_getElem?_getD,hj]
theorem nulls_num{b count:Nat}{l:List UInt8}{w:World}(hc:count<=4096)(h:Rd w b l)(hl:l.length<=140737488355328)(hd:numD 1 l=none) :
  Calls Tryz.prog 151 #[.pointer (some ⟨b,0,none⟩),.int .i64 count] w fun e w'=>e=dmg/\Gr w w' b:=by
 obtain⟨i6,hi6,z60,z61,z62⟩:=info_parts Tryz.info4
 have HN:=hide (fun o=>numd_no (h.alloc o) hl hd)
 clear h
 go_enter Tryz.func151,Tryz.ntmps151
 go_wp2_with (first
  | (at_make;refine wpList_make_row _ rfl (.tmp 11) (.tmp 11) 52 rfl 4 i6 (.bool false) Tryz.underlying52 hi6 z60 z61 rfl .i64 .i64 count rfl rfl (by rw[z62];omega) (by omega) ?_)
  | (go_at_call 149;refine(unhide HN _).mono ?_;rintro e w1 ⟨rfl,rfl⟩))
 exact⟨rfl,rfl,Gr.alloc _ _ _⟩
theorem nulls_mark{b count m:Nat}{l r:List UInt8}{w:World}(hc:count<=4096)(h:Rd w b l)(hl:l.length<=140737488355328)(hd:numD 1 l=some (m,r))(hm:1<m) :
  Calls Tryz.prog 151 #[.pointer (some ⟨b,0,none⟩),.int .i64 count] w fun e w'=>e=dmg/\Gr w w' b:=by
 obtain⟨i6,hi6,z60,z61,z62⟩:=info_parts Tryz.info4
 have HN:=hide (fun o=>numd_yes (h.alloc o) hl hd (by decide))
 clear h
 go_enter Tryz.func151,Tryz.ntmps151
 go_wp2_with (first
  | (at_make;refine wpList_make_row _ rfl (.tmp 11) (.tmp 11) 52 rfl 4 i6 (.bool false) Tryz.underlying52 hi6 z60 z61 rfl .i64 .i64 count rfl rfl (by rw[z62];omega) (by omega) ?_)
  | (go_at_call 149;refine(unhide HN _).mono ?_;rintro e w1 ⟨rfl,hr1,hg1⟩)
  | (go_at_call 150;refine(ensureF _ (decide_eq_false (by omega)) _).mono ?_;rintro e w2 ⟨rfl,rfl⟩))
 exact⟨rfl,rfl,hg1.of_alloc⟩
theorem nulls_bits{b count:Nat}{l r:List UInt8}{w:World}(hc:count<=4096)(h:Rd w b l)(hl:l.length<=140737488355328)(hd:numD 1 l=some (1,r))(hb:bitsD count 1 r=none) :
  Calls Tryz.prog 151 #[.pointer (some ⟨b,0,none⟩),.int .i64 count] w fun e w'=>e=dmg/\Gr w w' b:=by
 obtain⟨i6,hi6,z60,z61,z62⟩:=info_parts Tryz.info4
 have HN:=hide (fun o=>numd_yes (h.alloc o) hl hd (by decide))
 have hrl:=numD_le hd
 have HB:=hide (fun W (hW:Rd W b r)=>bitsd_no hc (by decide) hW (by omega) hb)
 clear h
 go_enter Tryz.func151,Tryz.ntmps151
 go_wp2_with (first
  | (at_make;refine wpList_make_row _ rfl (.tmp 11) (.tmp 11) 52 rfl 4 i6 (.bool false) Tryz.underlying52 hi6 z60 z61 rfl .i64 .i64 count rfl rfl (by rw[z62];omega) (by omega) ?_)
  | (go_at_call 149;refine(unhide HN _).mono ?_;rintro e w1 ⟨rfl,hr1,hg1⟩)
  | (go_at_call 150;refine(ensureT _ (by decide) _).mono ?_;rintro e w2 ⟨rfl,rfl⟩)
  | (go_at_call 164;refine(unhide HB _ hr1).mono ?_;rintro e w3 ⟨rfl,hg3⟩))
 exact⟨rfl,rfl,hg1.of_alloc.trans hg3⟩
theorem nulls_one{b count:Nat}{l r t r2:List UInt8}{w:World}(hc:count<=4096)(h:Rd w b l)(hl:l.length<=140737488355328)(hd:numD 1 l=some (1,r))(hb:bitsD count 1 r=some (t,r2))(O:Option (List Bool×List UInt8))(HO:Hid (O=if (nlOfT t count).any id then some (nlOfT t count,r2) else none)) :
  Calls Tryz.prog 151 #[.pointer (some ⟨b,0,none⟩),.int .i64 count] w fun e w'=>NullsR w w' e b count O:=by
 obtain⟨i6,hi6,z60,z61,z62⟩:=info_parts Tryz.info4
 have HN:=hide (fun o=>numd_yes (h.alloc o) hl hd (by decide))
 have hrl:=numD_le hd
 have HB:=hide (fun W (hW:Rd W b r)=>bitsd_yes hc (by decide) hW (by omega) hb)
 have htl:=(bitsD_some hb).1
 have hbw:=h.ne
 have hne:w.heap.size≠b:=by omega
 have HNE:=hide hne
 have HTL:=hide htl
 clear h hne htl
 go_enter Tryz.func151,Tryz.ntmps151
 go_wp2_with (first
  | (at_make;refine wpList_make_row _ rfl (.tmp 11) (.tmp 11) 52 rfl 4 i6 (.bool false) Tryz.underlying52 hi6 z60 z61 rfl .i64 .i64 count rfl rfl (by rw[z62];omega) (by omega) ?_)
  | (go_at_call 149;refine(unhide HN _).mono ?_;rintro e w1 ⟨rfl,hr1,hg1⟩)
  | (go_at_call 150;refine(ensureT _ (by decide) _).mono ?_;rintro e w2 ⟨rfl,rfl⟩)
  | (go_at_call 164;refine(unhide HB _ hr1).mono ?_;rintro e w3 ⟨A,B,C,rfl,hb3,hA,hB,hC,hr3,hg3⟩))
 have hrow:=row_grx (row_grx (World.rowIs_made w (.bool false) count 4) hg1 (unhide HNE)) hg3 (unhide HNE)
 have hG3:=hg1.of_alloc.trans hg3
 have hz2:w.heap.size+1<=w2.heap.size:=by have:=hg1.size;simpa using this
 have hA':w.heap.size<A:=by omega
 have hB':w.heap.size<B:=by omega
 have hC':w.heap.size<C:=by omega
 clear hA hB hC hz2 hg1 hg3 hr1
 go_loopw[8,26] (fun s i wr=>∃k:Nat,k<=count/\i=.int .i64 (k:Int)/\s=.int .i64 (cntT (nlOfT t count) k:Nat)/\wr.rowIs w.heap.size 4 count (bF (nlOfT t count) k)/\Bits wr A B C 1 (1*k) t/\Rd wr b r2/\Gr w wr b) (fun _ i _=>count-(intOf i).toNat)
 case atStart=>exact⟨0,Nat.zero_le _,rfl,rfl,hrow.congr fun j hj=>by simp[bF],hb3,hr3,hG3⟩
 case round=>
  obtain⟨k,hk,rfl,rfl,hrw,hbi,hrr,hgr⟩:=hrel
  have hcn:=cntT_le (nlOfT t count) k
  by_cases hlt:k<count
  ·have h9:(k:Int)<(count:Int):=by omega
   have hat:=nlOfT_at (t:=t) hlt
   have hct:=cntT_next hat
   have HC:=hide (next_any hbi (by decide) hlt hc (unhide HTL))
   have HKEEP:Hid (∀w4,Gr wr w4 B->w4.rowIs w.heap.size 4 count (bF (nlOfT t count) k)/\Rd w4 b r2/\Gr w w4 b):=fun w4 hg4=>
    ⟨row_grx hrw hg4 (by omega),hrr.grx hg4 (by omega),hgr.fresh hg4 (by omega)⟩
   have HF:Hid (∀j,bF (nlOfT t count) (k+1) j=if j=k then .bool (numAt (leV t) 1 k == 1) else bF (nlOfT t count) k j):=fun j=>by
    unfold bF
    by_cases hj:j=k
    ·subst hj;simp[List.getD_eq_getElem?_getD,hat]
    ·rw[if_neg hj]
     by_cases hl2:j<k
     ·rw[if_pos hl2,if_pos (by omega)]
     ·rw[if_neg hl2,if_neg (by omega)]
   have HCT:=hide hct
   generalize numAt (leV t) 1 k=x at HC HF HCT
   clear hat hrw hbi hrr hgr hct
   by_cases hx:x=1
   ·subst hx
    go_wp2_with (go_at_call 178;refine(unhide HC).mono ?_;rintro e w4 ⟨rfl,hb4,hg4⟩;obtain⟨hrw4,hr4,hG4⟩:=unhide HKEEP w4 hg4;have cm:=hrw4.cell hlt;have fm:=hrw4.frozen k)
    go_roundw
    case rel=>
     refine⟨k+1,by omega,by go_num,by rw[unhide HCT];go_num,(hrw4.set k (.bool true)).congr fun j hj=>?_,hb4.set _ (by omega) (by omega) (by omega),World.rowIs.setOther hr4 (by simp;omega) _,?_⟩
     ·rw[unhide HF j];rfl
     ·exact hG4.fresh (grown_set _ _ _ _) (Nat.le_refl _)
    case measure=>simp[intOf];omega
   ·have hx1:((x:Int) == 1)=false:=by simp;omega
    have hx2:(x == 1)=false:=by simpa using hx
    rw[hx2] at HF HCT
    go_wp2_with (go_at_call 178;refine(unhide HC).mono ?_;rintro e w4 ⟨rfl,hb4,hg4⟩;obtain⟨hrw4,hr4,hG4⟩:=unhide HKEEP w4 hg4)
    go_roundw
    case rel=>
     refine⟨k+1,by omega,by go_num,by rw[unhide HCT];go_num,hrw4.congr fun j hj=>?_,hb4,hr4,hG4⟩
     rw[unhide HF j]
     by_cases hj:j=k
     ·subst hj;rw[if_pos rfl];simp[bF]
     ·rw[if_neg hj]
    case measure=>simp[intOf];omega
  ·have h9:¬(k:Int)<(count:Int):=by omega
   have ek:k=count:=by omega
   subst ek
   have e1:cntT (nlOfT t k) k=(nlOfT t k).count true:=by unfold cntT;rw[List.take_of_length_le (by rw[nlOfT_len];omega)]
   have e2:(nlOfT t k).any id=decide (0<(nlOfT t k).count true):=by
    rw[Bool.eq_iff_iff];simp[List.count_pos_iff]
   rw[e1] at hcn ⊢
   have HE:=hide e2
   have HK:Hid (wr.rowIs w.heap.size 4 k (fun j=>.bool ((nlOfT t k).getD j false))/\Rd wr b r2/\Gr w wr b):=⟨hrw.congr fun j hj=>by simp[bF,hj],hrr,hgr⟩
   have HLEN:=hide (nlOfT_len t k)
   generalize nlOfT t k=nl at *
   clear e1 e2 hrw hbi hrr hgr
   generalize hcc:nl.count true=cc at *
   by_cases hp:0<cc
   ·have hp2:(0:Int)<(cc:Int):=by omega
    have HE2:Hid (O=some (nl,r2)):=by show _=_;rw[unhide HO,unhide HE];simp[hp]
    go_wp2_with (go_at_call 150;refine(ensureT _ (by simp) _).mono ?_;rintro e w2 ⟨rfl,rfl⟩)
    go_ret2
    exact .inl ⟨nl,r2,w.heap.size,unhide HE2,by rw[hcc];rfl,(unhide HK).1,unhide HLEN,Nat.le_refl _,(unhide HK).2⟩
   ·have hp2:¬(0:Int)<(cc:Int):=by omega
    have HE2:Hid (O=none):=by show _=_;rw[unhide HO,unhide HE];simp[hp]
    have hc0:cc=0:=by omega
    clear hp hp2
    subst hc0
    go_wp2_with (go_at_call 150;refine(ensureF _ (by first|rfl|simp) _).mono ?_;rintro e w2 ⟨rfl,rfl⟩)
    exact⟨rfl,.inr ⟨unhide HE2,rfl,(unhide HK).2.2⟩⟩
end Go.Proofs.YtbfibfmnemnbbaaGreat
