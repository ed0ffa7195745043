import Derived.Test.YtbfibfmnemnbbaaGreatPackB
import Derived.Lib.ConvBytes
import Derived.Test.YtbfibfmnemnbbaaGreatVecF
set_option linter.unusedSimpArgs false
set_option linter.unusedVariables false
set_option maxHeartbeats 1000000
set_option maxRecDepth 100000
namespace Go.Proofs.YtbfibfmnemnbbaaGreat
open Go.RowKit Go.Sort
def beV(l:List UInt8):Nat:=l.foldl (fun a b=>a*256+b.toNat) 0
theorem beV_snoc(l:List UInt8)(b:UInt8):beV (l++[b])=beV l*256+b.toNat:=by simp[beV]
theorem beV_lt(l:List UInt8):beV l<256 ^ l.length:=by
 generalize hn:l.length=n
 induction n generalizing l with
 | zero=>have:l=[]:=List.eq_nil_of_length_eq_zero hn;subst this;simp[beV]
 | succ n ih=>
  have hne:l≠[]:=by intro h;simp[h] at hn
  rw[<-List.dropLast_concat_getLast hne,beV_snoc,Nat.pow_succ]
  have:=ih l.dropLast (by simp[hn])
  have h2:=(l.getLast hne).toNat_lt
  have:(beV l.dropLast+1)*256<=256 ^ n*256:=Nat.mul_le_mul_right _ this
  omega
theorem conv_bytes(l:List UInt8)(W:World):∃W2 c,(convert 9 82 (.string (bs l))).run Tryz.prog W=.ok (.slice (some ⟨W.heap.size,0,none⟩) l.length c) W2/\Below W.heap.size W W2/\∀j (x:UInt8),l[j]?=some x->W2.cell? ⟨W.heap.size,j,none⟩=some (.int .u8 (x.toNat:Int)):=by
 have h:=Lib.run_convert_string_bytes (P:=Tryz.prog) W 9 82 5 (bs l) (u:=.string) Tryz.underlying9 Tryz.underlying82 Tryz.underlying5
 rw[bs_size] at h
 refine⟨_,_,h,⟨rfl,rfl,rfl,by rw[Lib.bytesWorld_size];omega,fun j hj=>Lib.bytesWorld_at_old W 5 (bs l) j hj⟩,fun j x hx=>?_⟩
 obtain⟨hj,e⟩:=List.getElem?_eq_some_iff.1 hx
 rw[Lib.bytesWorld_cell W 5 (bs l) j (by rw[bs_size];exact hj)]
 simp[bs,List.getD_eq_getElem?_getD,hx]
theorem or_u64(a b:Nat)(ha:a<18446744073709551616)(hb:b<18446744073709551616):bits .or .u64 (a:Int) (b:Int)=((a ||| b:Nat):Int):=by
 have hx:a ||| b<2 ^ 64:=Nat.or_lt_two_pow (by omega) (by omega)
 have h1:(BitVec.ofInt 64 (a:Int)).toNat=a:=by
  rw[BitVec.ofInt_natCast,BitVec.toNat_ofNat];exact Nat.mod_eq_of_lt (by omega)
 have h2:(BitVec.ofInt 64 (b:Int)).toNat=b:=by
  rw[BitVec.ofInt_natCast,BitVec.toNat_ofNat];exact Nat.mod_eq_of_lt (by omega)
 show IntKind.u64.wrap ((BitVec.ofInt 64 (a:Int) ||| BitVec.ofInt 64 (b:Int)).toNat:Int)=_
 rw[BitVec.toNat_or,h1,h2,IntKind.wrap_u64]
 omega
theorem or_add2{a x r:Nat}(h:a<2 ^ r):a ||| x*2 ^ r=a+x*2 ^ r:=by
 rw[Nat.or_comm,Nat.mul_comm,<-Nat.two_pow_add_eq_or_of_lt h x,Nat.add_comm]
theorem or_byte(X x:Nat)(hX:X<72057594037927936)(hx:x<256):bits .or .u64 (IntKind.u64.wrap ((X:Int)*256)) (IntKind.u64.wrap (x:Int))=((X*256+x:Nat):Int):=by
 have e1:IntKind.u64.wrap ((X:Int)*256)=((X*2 ^ 8:Nat):Int):=by rw[IntKind.wrap_u64];omega
 have e2:IntKind.u64.wrap (x:Int)=(x:Int):=by rw[IntKind.wrap_u64];omega
 rw[e1,e2,or_u64 _ _ (by omega) (by omega),Nat.or_comm,or_add2 (by omega)]
 congr 1;omega
theorem num_yes(b n:Nat)(l:List UInt8)(w:World)(h:Rd w b l)(hl:l.length<=140737488355328)(hn:n<=l.length)(h8:n<=8) :
  Calls Tryz.prog 149 #[.pointer (some ⟨b,0,none⟩),.int .i64 n] w fun e w'=>e=.returned (.int .u64 (beV (l.take n)))/\Rd w' b (l.drop n)/\Gr w w' b:=by
 have HT:=hide (take_yes b n l w h hl hn)
 have hL:(l.take n).length=n:=by rw[List.length_take];omega
 obtain⟨W2,c,hcv,hb,HC⟩:=conv_bytes (l.take n) (w.setCell ⟨b,0,none⟩ (.string (bs (l.drop n))))
 rw[hL] at hcv
 have HR:Hid (Rd W2 b (l.drop n)/\Gr w W2 b):=⟨World.rowIs.of_block (h.set (l.drop n)) (hb.block b (h.set (l.drop n)).lt),(Gr.set w b _).trans (Gr.of_below hb b)⟩
 have HB:=hide hb
 have HCC:=hide HC
 have HL:=hide hL
 clear hb HC hL h
 go_enter Tryz.func149,Tryz.ntmps149
 go_wp2_with (go_at_call 163;refine(unhide HT).mono ?_;rintro e w' ⟨rfl,rfl⟩)
 go_loop[5,13] (fun x i=>∃k:Nat,k<=n/\i=.int .i64 (k:Int)/\x=.int .u64 (beV ((l.take n).take k))) (fun _ i=>n-(intOf i).toNat)
 case atStart=>exact⟨0,Nat.zero_le _,rfl,rfl⟩
 case round=>
  obtain⟨k,hk,rfl,rfl⟩:=hrel
  by_cases hlt:k<n
  ·have h9:(k:Int)<(n:Int):=by omega
   obtain⟨x,hx⟩:∃x,(l.take n)[k]?=some x:=⟨_,List.getElem?_eq_getElem (by rw[unhide HL];exact hlt)⟩
   have hc:=unhide HCC k x hx
   simp at hc
   have HN:Hid (beV ((l.take n).take (k+1))=beV ((l.take n).take k)*256+x.toNat):=by
    obtain⟨g1,rfl⟩:=List.getElem?_eq_some_iff.1 hx
    show _=_
    rw[List.take_succ_eq_append_getElem g1,beV_snoc]
   have hbl:beV ((l.take n).take k)<72057594037927936:=by
    have h1:=beV_lt ((l.take n).take k)
    have h2:((l.take n).take k).length<=7:=by rw[List.length_take,unhide HL];omega
    have h3:256 ^ ((l.take n).take k).length<=256 ^ 7:=Nat.pow_le_pow_right (by decide) h2
    have h4:(256:Nat) ^ 7=72057594037927936:=by decide
    omega
   have HO:=hide (or_byte _ x.toNat hbl x.toNat_lt)
   clear hx hbl
   go_wp2
   refine⟨⟨k+1,by omega,by go_num,?_⟩,by simp[intOf];omega⟩
   exact congrArg (Value.int .u64) ((unhide HO).trans (by rw[unhide HN]))
  ·have h9:¬(k:Int)<(n:Int):=by omega
   have e:(l.take n).take k=l.take n:=List.take_of_length_le (by rw[unhide HL];omega)
   have E:=hide e
   clear e
   go_wp2
   go_ret
   exact⟨by rw[unhide E];rfl,unhide HR⟩
theorem num_no(b n:Nat)(l:List UInt8)(w:World)(h:Rd w b l)(hl:l.length<=140737488355328)(hn:l.length<n) :
  Calls Tryz.prog 149 #[.pointer (some ⟨b,0,none⟩),.int .i64 n] w fun e w'=>e=dmg/\w'=w:=by
 have HT:=hide (take_no b n l w h hl hn)
 go_enter Tryz.func149,Tryz.ntmps149
 go_wp2_with (go_at_call 163;refine(unhide HT).mono ?_;rintro e w' ⟨rfl,rfl⟩)
 exact⟨rfl,rfl,rfl⟩
end Go.Proofs.YtbfibfmnemnbbaaGreat
set_option linter.unusedSimpArgs false
set_option linter.unusedVariables false
set_option maxHeartbeats 1000000
set_option maxRecDepth 100000
namespace Go.Proofs.YtbfibfmnemnbbaaGreat
open Go.RowKit Go.Sort
def sint(n:Nat):Int:=wrap64 (n:Int)
def takeD(n:Nat)(l:List UInt8):Option (List UInt8×List UInt8):=if n<=l.length then some (l.take n,l.drop n) else none
def numD(n:Nat)(l:List UInt8):Option (Nat×List UInt8):=if n<=l.length then some (beV (l.take n),l.drop n) else none
def plainD(kind:Int)(l:List UInt8):Option (Val×List UInt8):=
 if kind == 1 then (numD 8 l).map fun p=>(.num (sint p.1),p.2)
 else (numD 2 l).bind fun p=>if p.1<=1000 then (takeD p.1 p.2).map fun q=>(.str (bs q.1),q.2) else none
def plainsD(kind:Int):Nat->List UInt8->Option (List Val×List UInt8)
 | 0,l=>some ([],l)
 | n+1,l=>(plainsD kind n l).bind fun p=>(plainD kind p.2).map fun q=>(p.1++[q.1],q.2)
theorem numD_some{n m:Nat}{l r:List UInt8}(h:numD n l=some (m,r)):n<=l.length/\m=beV (l.take n)/\r=l.drop n:=by
 unfold numD at h
 split at h
 ·injection h with h;injection h with h1 h2;exact⟨by assumption,h1.symm,h2.symm⟩
 ·cases h
theorem numD_none{n:Nat}{l:List UInt8}(h:numD n l=none):l.length<n:=by
 unfold numD at h
 split at h
 ·cases h
 ·omega
theorem takeD_some{n:Nat}{l t r:List UInt8}(h:takeD n l=some (t,r)):n<=l.length/\t=l.take n/\r=l.drop n:=by
 unfold takeD at h
 split at h
 ·injection h with h;injection h with h1 h2;exact⟨by assumption,h1.symm,h2.symm⟩
 ·cases h
theorem takeD_none{n:Nat}{l:List UInt8}(h:takeD n l=none):l.length<n:=by
 unfold takeD at h
 split at h
 ·cases h
 ·omega
theorem numd_yes{b n m:Nat}{l r:List UInt8}{w:World}(h:Rd w b l)(hl:l.length<=140737488355328)(hd:numD n l=some (m,r))(h8:n<=8) :
  Calls Tryz.prog 149 #[.pointer (some ⟨b,0,none⟩),.int .i64 n] w fun e w'=>e=.returned (.int .u64 m)/\Rd w' b r/\Gr w w' b:=by
 obtain⟨h1,rfl,rfl⟩:=numD_some hd
 exact num_yes b n l w h hl h1 h8
theorem numd_no{b n:Nat}{l:List UInt8}{w:World}(h:Rd w b l)(hl:l.length<=140737488355328)(hd:numD n l=none) :
  Calls Tryz.prog 149 #[.pointer (some ⟨b,0,none⟩),.int .i64 n] w fun e w'=>e=dmg/\w'=w:=num_no b n l w h hl (numD_none hd)
theorem takeg_yes{b n:Nat}{l t r:List UInt8}{w:World}(h:Rd w b l)(hl:l.length<=140737488355328)(hd:takeD n l=some (t,r)) :
  Calls Tryz.prog 163 #[.pointer (some ⟨b,0,none⟩),.int .i64 n] w fun e w'=>e=.returned (.string (bs t))/\Rd w' b r/\Gr w w' b:=by
 obtain⟨h1,rfl,rfl⟩:=takeD_some hd
 exact(take_yes b n l w h hl h1).mono fun e w' ⟨he,hw⟩=>⟨he,hw ▸ h.set _,hw ▸ Gr.set w b _⟩
theorem takeg_no{b n:Nat}{l:List UInt8}{w:World}(h:Rd w b l)(hl:l.length<=140737488355328)(hd:takeD n l=none) :
  Calls Tryz.prog 163 #[.pointer (some ⟨b,0,none⟩),.int .i64 n] w fun e w'=>e=dmg/\w'=w:=take_no b n l w h hl (takeD_none hd)
theorem numD_le{n m:Nat}{l r:List UInt8}(h:numD n l=some (m,r)):r.length<=l.length:=by
 obtain⟨_,_,rfl⟩:=numD_some h;simp
theorem takeD_le{n:Nat}{l t r:List UInt8}(h:takeD n l=some (t,r)):r.length<=l.length:=by
 obtain⟨_,_,rfl⟩:=takeD_some h;simp
theorem Rd.alloc{w:World}{b:Nat}{l:List UInt8}(h:Rd w b l)(o:Obj):Rd (w.alloc o) b l:=World.rowIs.alloc h o
theorem Rd.ne{w:World}{b:Nat}{l:List UInt8}(h:Rd w b l):b<w.heap.size:=World.rowIs.lt h
theorem box_gr{w w1:World}{b:Nat}{l:List UInt8}{y:Val}(h:Rd w b l)(hg:Gr (w.alloc (.cells #[.int .i64 y.k,.int .i64 y.n,.string y.s] 25)) w1 b):w1.rowIs w.heap.size 25 3 (box3 y):=
 World.rowIs.of_block (box3_alloc w y) (hg.block w.heap.size (by simp) (fun e=>by injection e with e;have:=h.ne;omega))
theorem Gr.new3{w w1:World}{b:Nat}{o:Obj}(hg:Gr (w.alloc o) w1 b)(u v x:Value):Gr w (((w1.setCell ⟨w.heap.size,0,none⟩ u).setCell ⟨w.heap.size,1,none⟩ v).setCell ⟨w.heap.size,2,none⟩ x) b:=by
 have hs:w.heap.size+1<=w1.heap.size:=by have:=hg.size;simpa using this
 refine⟨hg.os,hg.tape,hg.output,?_,fun i hi hne=>?_⟩
 ·simp;omega
 ·have h1:i≠w.heap.size:=by omega
  rw[Deep.blk_setCell_other _ _ _ _ h1,Deep.blk_setCell_other _ _ _ _ h1,Deep.blk_setCell_other _ _ _ _ h1,hg.block i (by simp;omega) hne,Below.heap_alloc _ _ _ hi]
theorem Rd.new3{w1:World}{b g:Nat}{l:List UInt8}(h:Rd w1 b l)(hne:b≠g)(u v x:Value):Rd (((w1.setCell ⟨g,0,none⟩ u).setCell ⟨g,1,none⟩ v).setCell ⟨g,2,none⟩ x) b l:=
 World.rowIs.setOther (World.rowIs.setOther (World.rowIs.setOther h hne _) hne _) hne _
theorem plain_int{b m:Nat}{l r:List UInt8}{w:World}(h:Rd w b l)(hl:l.length<=140737488355328)(hd:numD 8 l=some (m,r)) :
  Calls Tryz.prog 179 #[.pointer (some ⟨b,0,none⟩),.int .i64 1] w fun e w'=>e=.returned (Val.num (sint m)).v/\Rd w' b r/\Gr w w' b:=by
 have HN:=hide (fun o=>numd_yes (h.alloc o) hl hd (by decide))
 have HX:=hide (fun w1 hg=>box3_facts (box_gr (w1:=w1) (y:=Val.null) h hg))
 have hne:b≠w.heap.size:=by have:=h.ne;omega
 have HNE:=hide hne
 clear h hne
 go_enter Tryz.func179,Tryz.ntmps179
 go_wp2_with (go_at_call 149;refine(unhide HN _).mono ?_;rintro e w1 ⟨rfl,hr1,hg1⟩;obtain⟨c0,c1,c2,f0,f1,f2⟩:=unhide HX w1 hg1)
 refine bodyPost_ret (v:=(Val.num (sint m)).v) ?_ rfl ⟨rfl,?_,?_⟩
 ·simp[results,Tryz.results179,go_sem,Val.v,Val.num,sint,c0,c1,c2]
 ·exact hr1.new3 (unhide HNE) _ _ _
 ·exact hg1.new3 _ _ _
theorem plain_intno{b:Nat}{l:List UInt8}{w:World}(h:Rd w b l)(hl:l.length<=140737488355328)(hd:numD 8 l=none) :
  Calls Tryz.prog 179 #[.pointer (some ⟨b,0,none⟩),.int .i64 1] w fun e w'=>e=dmg/\Gr w w' b:=by
 have HN:=hide (fun o=>numd_no (h.alloc o) hl hd)
 clear h
 go_enter Tryz.func179,Tryz.ntmps179
 go_wp2_with (go_at_call 149;refine(unhide HN _).mono ?_;rintro e w1 ⟨rfl,rfl⟩)
 exact⟨rfl,rfl,Gr.alloc _ _ _⟩
theorem plain_text{b m:Nat}{l r t r2:List UInt8}{w:World}(h:Rd w b l)(hl:l.length<=140737488355328)(hd:numD 2 l=some (m,r))(hm:m<=1000)(ht:takeD m r=some (t,r2)) :
  Calls Tryz.prog 179 #[.pointer (some ⟨b,0,none⟩),.int .i64 2] w fun e w'=>e=.returned (Val.str (bs t)).v/\Rd w' b r2/\Gr w w' b:=by
 have HN:=hide (fun o=>numd_yes (h.alloc o) hl hd (by decide))
 have HX:=hide (fun w1 hg=>box3_facts (box_gr (w1:=w1) (y:=Val.null) h hg))
 have hrl:=numD_le hd
 have HT:=hide (fun W (hW:Rd W b r)=>takeg_yes hW (by omega) ht)
 have hne:b≠w.heap.size:=by have:=h.ne;omega
 have HNE:=hide hne
 have hmi:(m:Int)<=1000:=by omega
 clear h hne ht
 go_enter Tryz.func179,Tryz.ntmps179
 go_wp2_with (first
  | (go_at_call 149;refine(unhide HN _).mono ?_;rintro e w1 ⟨rfl,hr1,hg1⟩;replace hr1:=hide hr1)
  | (go_at_call 150;refine(ensure_yes _).mono ?_;rintro e w2 ⟨rfl,rfl⟩)
  | (go_at_call 163;refine(unhide HT _ (unhide hr1)).mono ?_;rintro e w3 ⟨rfl,hr3,hg3⟩;obtain⟨c0,c1,c2,f0,f1,f2⟩:=unhide HX _ (hg1.trans hg3)))
 refine bodyPost_ret (v:=(Val.str (bs t)).v) ?_ rfl ⟨rfl,?_,?_⟩
 ·simp[results,Tryz.results179,go_sem,Val.v,Val.str,c0,c1,c2]
 ·exact hr3.new3 (unhide HNE) _ _ _
 ·exact(hg1.trans hg3).new3 _ _ _
theorem plain_textno1{b:Nat}{l:List UInt8}{w:World}(h:Rd w b l)(hl:l.length<=140737488355328)(hd:numD 2 l=none) :
  Calls Tryz.prog 179 #[.pointer (some ⟨b,0,none⟩),.int .i64 2] w fun e w'=>e=dmg/\Gr w w' b:=by
 have HN:=hide (fun o=>numd_no (h.alloc o) hl hd)
 clear h
 go_enter Tryz.func179,Tryz.ntmps179
 go_wp2_with (go_at_call 149;refine(unhide HN _).mono ?_;rintro e w1 ⟨rfl,rfl⟩)
 exact⟨rfl,rfl,Gr.alloc _ _ _⟩
theorem plain_textno2{b m:Nat}{l r:List UInt8}{w:World}(h:Rd w b l)(hl:l.length<=140737488355328)(hd:numD 2 l=some (m,r))(hm:1000<m) :
  Calls Tryz.prog 179 #[.pointer (some ⟨b,0,none⟩),.int .i64 2] w fun e w'=>e=dmg/\Gr w w' b:=by
 have HN:=hide (fun o=>numd_yes (h.alloc o) hl hd (by decide))
 have hmi:¬(m:Int)<=1000:=by omega
 clear h
 go_enter Tryz.func179,Tryz.ntmps179
 go_wp2_with (first
  | (go_at_call 149;refine(unhide HN _).mono ?_;rintro e w1 ⟨rfl,hr1,hg1⟩;replace hr1:=hide hr1)
  | (go_at_call 150;refine(ensureF _ (decide_eq_false (by omega)) _).mono ?_;rintro e w2 ⟨rfl,rfl⟩))
 exact⟨rfl,rfl,(Gr.alloc _ _ _).trans hg1⟩
theorem plain_textno3{b m:Nat}{l r:List UInt8}{w:World}(h:Rd w b l)(hl:l.length<=140737488355328)(hd:numD 2 l=some (m,r))(hm:m<=1000)(ht:takeD m r=none) :
  Calls Tryz.prog 179 #[.pointer (some ⟨b,0,none⟩),.int .i64 2] w fun e w'=>e=dmg/\Gr w w' b:=by
 have HN:=hide (fun o=>numd_yes (h.alloc o) hl hd (by decide))
 have hrl:=numD_le hd
 have HT:=hide (fun W (hW:Rd W b r)=>takeg_no hW (by omega) ht)
 have hmi:(m:Int)<=1000:=by omega
 clear h ht
 go_enter Tryz.func179,Tryz.ntmps179
 go_wp2_with (first
  | (go_at_call 149;refine(unhide HN _).mono ?_;rintro e w1 ⟨rfl,hr1,hg1⟩;replace hr1:=hide hr1)
  | (go_at_call 150;refine(ensure_yes _).mono ?_;rintro e w2 ⟨rfl,rfl⟩)
  | (go_at_call 163;refine(unhide HT _ (unhide hr1)).mono ?_;rintro e w3 ⟨rfl,rfl⟩))
 exact⟨rfl,rfl,(Gr.alloc _ _ _).trans hg1⟩
theorem plain_yes{b:Nat}{kind:Int}{l r:List UInt8}{x:Val}{w:World}(hk:kind=1∨kind=2)(h:Rd w b l)(hl:l.length<=140737488355328)(hd:plainD kind l=some (x,r)) :
  Calls Tryz.prog 179 #[.pointer (some ⟨b,0,none⟩),.int .i64 kind] w fun e w'=>e=.returned x.v/\Rd w' b r/\Gr w w' b:=by
 rcases hk with rfl|rfl
 ·unfold plainD at hd
  rw[if_pos (by decide)] at hd
  cases hn:numD 8 l with
  | none=>rw[hn] at hd;cases hd
  | some p=>
   rw[hn] at hd
   injection hd with hd
   injection hd with h1 h2
   subst h1;subst h2
   exact plain_int h hl hn
 ·unfold plainD at hd
  rw[if_neg (by decide)] at hd
  cases hn:numD 2 l with
  | none=>rw[hn] at hd;cases hd
  | some p=>
   rw[hn,Option.bind_some] at hd
   by_cases hm:p.1<=1000
   ·rw[if_pos hm] at hd
    cases ht:takeD p.1 p.2 with
    | none=>rw[ht] at hd;cases hd
    | some q=>
     rw[ht] at hd
     injection hd with hd
     injection hd with h1 h2
     subst h1;subst h2
     exact plain_text h hl hn hm ht
   ·rw[if_neg hm] at hd;cases hd
theorem plain_no{b:Nat}{kind:Int}{l:List UInt8}{w:World}(hk:kind=1∨kind=2)(h:Rd w b l)(hl:l.length<=140737488355328)(hd:plainD kind l=none) :
  Calls Tryz.prog 179 #[.pointer (some ⟨b,0,none⟩),.int .i64 kind] w fun e w'=>e=dmg/\Gr w w' b:=by
 rcases hk with rfl|rfl
 ·unfold plainD at hd
  rw[if_pos (by decide)] at hd
  cases hn:numD 8 l with
  | none=>exact plain_intno h hl hn
  | some p=>rw[hn] at hd;cases hd
 ·unfold plainD at hd
  rw[if_neg (by decide)] at hd
  cases hn:numD 2 l with
  | none=>exact plain_textno1 h hl hn
  | some p=>
   rw[hn,Option.bind_some] at hd
   by_cases hm:p.1<=1000
   ·rw[if_pos hm] at hd
    cases ht:takeD p.1 p.2 with
    | none=>exact plain_textno3 h hl hn hm ht
    | some q=>rw[ht] at hd;cases hd
   ·exact plain_textno2 h hl hn (by omega)
theorem plainD_le{kind:Int}{l r:List UInt8}{x:Val}(hd:plainD kind l=some (x,r)):r.length<=l.length:=by
 unfold plainD at hd
 split at hd
 ·cases hn:numD 8 l with
  | none=>rw[hn] at hd;cases hd
  | some p=>
   rw[hn] at hd
   injection hd with hd
   injection hd with h1 h2
   subst h2
   exact numD_le hn
 ·cases hn:numD 2 l with
  | none=>rw[hn] at hd;cases hd
  | some p=>
   rw[hn,Option.bind_some] at hd
   split at hd
   ·cases ht:takeD p.1 p.2 with
    | none=>rw[ht] at hd;cases hd
    | some q=>
     rw[ht] at hd
     injection hd with hd
     injection hd with h1 h2
     subst h2
     exact Nat.le_trans (takeD_le ht) (numD_le hn)
   ·cases hd
end Go.Proofs.YtbfibfmnemnbbaaGreat
