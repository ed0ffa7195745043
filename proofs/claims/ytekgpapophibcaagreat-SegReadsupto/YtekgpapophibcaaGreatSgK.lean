import Derived.Test.YtekgpapophibcaaGreatVecP
set_option linter.unusedSimpArgs false
set_option linter.unusedVariables false
set_option maxHeartbeats 4000000
set_option maxRecDepth 100000
namespace Go.Proofs.YtekgpapophibcaaGreat
open Go.RowKit Go.Sort
def be(U:Int)(k:Nat):Int:=U / 2 ^ (56-8*k) % 256
def be8(U:Int)(k:Nat):List Int:=(List.range k).map (be U)
theorem zMA(U:Int)(k:Nat):be8 U (k+1)=be8 U k++[be U k]:=by simp[be8,List.range_succ]
theorem zFt(U:Int)(k:Nat):(be8 U k).length=k:=by simp[be8]
def zJ1(n:Int):Int:=bits BinOp.xor IntKind.u64 (IntKind.u64.wrap n) 9223372036854775808
theorem zNS(base:Nat)(zs:List Int)(n:Int)(v:Value)(w:World)(Hd:zBC w base v zs)(Hf:zs.length<=140737488300000)(Hv:base<=w.heap.size) :
  Calls Tryz.prog 127 #[v,.int .i64 n] w fun e w'=>∃v',e=.returned v'/\zBC w' base v' (zs++be8 (zJ1 n) 8)/\zAt w w' v v':=by
 obtain⟨i0,hi,QY,Qp,QC⟩:=info_parts Tryz.info5
 have HU:=zA3 (rfl:zJ1 n=bits BinOp.xor IntKind.u64 (IntKind.u64.wrap n) 9223372036854775808)
 go_enter Tryz.func127,Tryz.ntmps127
 go_wp2_with fail
 go_loopw[0,6] (fun key s wr=>∃k:Nat,k<=8/\s=.int .i64 (56-8*(k:Int))/\zBC wr base key (zs++be8 (zJ1 n) k)/\zAt w wr v key) (fun _ s _=>(intOf s+8).toNat)
 case atStart=>exact⟨0,Nat.zero_le _,rfl,by simpa [be8] using Hd,zAt.refl _ _⟩
 case round=>
  obtain⟨k,hk,rfl,ho,hg⟩:=hrel
  by_cases h8:k<8
  ·have h9:(0:Int)<=56-8*(k:Int):=by omega
   have hl:(zs++be8 (zJ1 n) k).length=zs.length+k:=by rw[zAX,zFt]
   have HL:=zA3 hl
   clear hl
   go_wp2_with (at_builtin;refine wpList_append_own_at _ rfl (.tmp 14) (.tmp 19) 71 rfl base 5 i0 (.int .u8 0) 1 1 Tryz.underlying71 hi QY Qp QC rfl (by decide) _ _ _ rfl (World.ownsRow.alloc ho _) ⟨wr.heap.size,0,none⟩ 1 1 [.int .u8 (be (zJ1 n) k)] rfl rfl (cell_one_new _ _ _) (by intro u hu;simp at hu;subst hu;rfl) (by rw[zA0 HL];unfold maxLen;omega) (by rw[zA0 HL];omega) (by have:=hg.1.size;simp;omega) ?_;intro v' w1 Yy Hr _ Hm)
   have Hj:=zAt.app hg Hr Hm
   have Qi:=zBS (news:=[be (zJ1 n) k]) rfl Yy
   rw[List.append_assoc,<-zMA] at Qi
   refine⟨⟨k+1,by omega,by go_num,Qi,Hj⟩,?_⟩
   simp only[intOf]
   omega
  ·have Qk:k=8:=by omega
   have h9:¬(0:Int)<=56-8*(k:Int):=by omega
   subst Qk
   go_wp2
   go_ret
   exact⟨_,rfl,ho,hg⟩
def zCs:List UInt8->List Int
 | []=>[]
 | c::l=>(c.toNat:Int)::(if c.toNat=0 then 255::zCs l else zCs l)
theorem zH6(l m:List UInt8):zCs (l++m)=zCs l++zCs m:=by
 induction l with
 | nil=>rfl
 | cons c l ih=>simp only[List.cons_append,zCs,ih];split<;>simp
theorem zIj(l:List UInt8):(zCs l).length<=2*l.length:=by
 induction l with
 | nil=>simp[zCs]
 | cons c l ih=>simp only[zCs];split<;>simp<;>omega
theorem zJD(s:ByteArray)(k:Nat)(h:k<s.size):s.data.toList.take (k+1)=s.data.toList.take k++[s[k]]:=by
 rw[List.take_succ_eq_append_getElem (by simpa using h)];rfl
theorem zLx(s:ByteArray)(k:Nat)(h:k<s.size)(h0:(s[k].toNat:Int)=0):zCs (s.data.toList.take (k+1))=zCs (s.data.toList.take k)++[(s[k].toNat:Int),255]:=by
 have:s[k].toNat=0:=by omega
 rw[zJD s k h,zH6];simp[zCs,this]
theorem zJw(s:ByteArray)(k:Nat)(h:k<s.size)(h0:¬(s[k].toNat:Int)=0):zCs (s.data.toList.take (k+1))=zCs (s.data.toList.take k)++[(s[k].toNat:Int)]:=by
 have:¬s[k].toNat=0:=by omega
 rw[zJD s k h,zH6];simp[zCs,this]
theorem zLG(base:Nat)(zs:List Int)(s:ByteArray)(v:Value)(w:World)(Hd:zBC w base v zs)(Hf:zs.length+2*s.size<=140737488300000)(Hv:base<=w.heap.size) :
  Calls Tryz.prog 128 #[v,.string s] w fun e w'=>∃v',e=.returned v'/\zBC w' base v' (zs++(zCs s.data.toList++[0,1]))/\zAt w w' v v':=by
 obtain⟨i0,hi,QY,Qp,QC⟩:=info_parts Tryz.info5
 have hs:(s.size:Int)<=140737488300000:=by omega
 go_enter Tryz.func128,Tryz.ntmps128
 go_wp2_with fail
 go_loopw[0,8] (fun key i wr=>∃k:Nat,k<=s.size/\i=.int .i64 k/\zBC wr base key (zs++zCs (s.data.toList.take k))/\zAt w wr v key) (fun _ i _=>s.size-(intOf i).toNat)
 case atStart=>exact⟨0,Nat.zero_le _,rfl,by simpa [zCs] using Hd,zAt.refl _ _⟩
 case round=>
  obtain⟨k,hk,rfl,ho,hg⟩:=hrel
  have hl:(zs++zCs (s.data.toList.take k)).length<=zs.length+2*k:=by
   rw[zAX]
   have h1:=zIj (s.data.toList.take k)
   have h2:(s.data.toList.take k).length<=k:=List.length_take_le _ _
   omega
  have HL:=zA3 hl
  clear hl
  by_cases h8:k<s.size
  ·have h9:(k:Int)<(s.size:Int):=by omega
   by_cases h0:(s[k].toNat:Int)=0
   ·have qL:((s[k].toNat:Int) == 0)=true:=by simpa using h0
    have HE:=zA3 (zLx s k h8 h0)
    clear h0
    go_wp2_with (first
     | (at_builtin;refine wpList_append_own_at _ rfl (.tmp 11) (.tmp 15) 71 rfl base 5 i0 (.int .u8 0) 1 1 Tryz.underlying71 hi QY Qp QC rfl (by decide) _ _ _ rfl (World.ownsRow.alloc ho _) ⟨wr.heap.size,0,none⟩ 1 1 [.int .u8 (s[k].toNat:Int)] rfl rfl (cell_one_new _ _ _) (by intro u hu;simp at hu;subst hu;rfl) (by have:=zA0 HL;unfold maxLen;omega) (by have:=zA0 HL;omega) (by have:=hg.1.size;simp;omega) ?_;intro v1 w1 Hc Ha _ Hl;have Hn:=zAt.app hg Ha Hl;have QU:=zBS (news:=[(s[k].toNat:Int)]) rfl Hc;clear Hc Ha Hl)
     | (at_builtin;refine wpList_append_own_at _ rfl (.tmp 21) (.tmp 22) 71 rfl base 5 i0 (.int .u8 0) 1 1 Tryz.underlying71 hi QY Qp QC rfl (by decide) _ _ _ rfl (World.ownsRow.alloc QU _) ⟨w1.heap.size,0,none⟩ 1 1 [.int .u8 255] rfl rfl (cell_one_new _ _ _) (by intro u hu;simp at hu;subst hu;rfl) (by have:=zA0 HL;rw[zAX];unfold maxLen;simp only[List.length_cons,List.length_nil];omega) (by have:=zA0 HL;rw[zAX];simp only[List.length_cons,List.length_nil];omega) (by have:=Hn.1.size;simp;omega) ?_;intro v2 w2 Gi yN _ hat2;have Hj:=zAt.app Hn yN hat2;have Qi:=zBS (news:=[255]) rfl Gi;clear Gi yN hat2))
    have Ya:zBC w2 base v2 (zs++zCs (s.data.toList.take (k+1))):=by rw[zA0 HE];simpa using Qi
    go_roundw
    case rel=>exact⟨k+1,by omega,by go_num,Ya,Hj⟩
    case measure=>simp[intOf];omega
   ·have qL:((s[k].toNat:Int) == 0)=false:=by simpa using h0
    have HE:=zA3 (zJw s k h8 h0)
    clear h0
    go_wp2_with (at_builtin;refine wpList_append_own_at _ rfl (.tmp 11) (.tmp 15) 71 rfl base 5 i0 (.int .u8 0) 1 1 Tryz.underlying71 hi QY Qp QC rfl (by decide) _ _ _ rfl (World.ownsRow.alloc ho _) ⟨wr.heap.size,0,none⟩ 1 1 [.int .u8 (s[k].toNat:Int)] rfl rfl (cell_one_new _ _ _) (by intro u hu;simp at hu;subst hu;rfl) (by have:=zA0 HL;unfold maxLen;omega) (by have:=zA0 HL;omega) (by have:=hg.1.size;simp;omega) ?_;intro v1 w1 Hc Ha _ Hl;have Hn:=zAt.app hg Ha Hl;have QU:=zBS (news:=[(s[k].toNat:Int)]) rfl Hc;clear Hc Ha Hl)
    have Ya:zBC w1 base v1 (zs++zCs (s.data.toList.take (k+1))):=by rw[zA0 HE];simpa using QU
    go_roundw
    case rel=>exact⟨k+1,by omega,by go_num,Ya,Hn⟩
    case measure=>simp[intOf];omega
  ·have Qk:k=s.size:=by omega
   have h9:¬(k:Int)<(s.size:Int):=by omega
   have HE:Hid (s.data.toList.take k=s.data.toList):=List.take_of_length_le (by simp;omega)
   clear Qk
   go_wp2_with (at_builtin;refine wpList_append_own_at _ rfl (.tmp 25) (.tmp 26) 71 rfl base 5 i0 (.int .u8 0) 1 1 Tryz.underlying71 hi QY Qp QC rfl (by decide) _ _ _ rfl (World.ownsRow.alloc ho _) ⟨wr.heap.size,0,none⟩ 2 2 [.int .u8 0,.int .u8 1] rfl rfl ?_ (by intro u hu;simp at hu;rcases hu with rfl|rfl<;>rfl) (by have:=zA0 HL;unfold maxLen;omega) (by have:=zA0 HL;omega) (by have:=hg.1.size;simp;omega) ?_;rotate_right;intro v1 w1 Hc Ha _ Hl;have Hn:=zAt.app hg Ha Hl;have QU:=zBS (news:=[0,1]) rfl Hc;clear Hc Ha Hl)
   ·go_ret
    exact⟨_,rfl,by rw[zA0 HE,List.append_assoc] at QU;exact QU,Hn⟩
   all_goals
    intro j u hj
    match j,hj with
    | 0,hj=>simp at hj;subst hj;simp[Addr.add,go_sem]
    | 1,hj=>simp at hj;subst hj;simp[Addr.add,go_sem]
    | j+2,hj=>simp at hj
theorem zM6{w w1:World}{base:Nat}{v:Value}{zs:List Int}{o c:Obj}(h:zBC w base v zs)(hg:(((w.alloc o).alloc c).drew).grownBy w1 v.ownBlock)(j:Nat) :
  w1.cell? ⟨w.heap.size,j,none⟩=(w.alloc o).cell? ⟨w.heap.size,j,none⟩:=by
 refine World.cell?_of_block (a:=⟨w.heap.size,j,none⟩) ?_
 rw[hg.block w.heap.size (by simp;omega) (fun e=>by have:=(zBN h e.symm).2;omega)]
 exact Below.heap_alloc (w.alloc o) c w.heap.size (by simp)
theorem zJq{w w1:World}{v:Value}{o c:Obj}{g n cap:Nat}(hg:(((w.alloc o).alloc c).drew).grownBy w1 v.ownBlock)(Hm:v.ownBlock=some g∨g=w.heap.size+1+1):zAt w w1 v (.slice (some ⟨g,0,none⟩) n cap):=by
 refine zAt.app2 (o:=o) (o2:=c) ⟨hg.os,hg.tape,hg.output,hg.size,hg.block⟩ ?_
 rcases Hm with h|h
 ·exact .inl h.symm
 ·exact .inr (by rw[h];simp[Value.ownBlock])
theorem zPa{v:Value}{g n cap m:Nat}(He:∀g,v.ownBlock=some g->g<m)(Hm:v.ownBlock=some g∨g=m+1+1):(Value.slice (some ⟨g,0,none⟩) n cap).ownBlock≠some m:=by
 rcases Hm with h|h
 ·have:=He _ h
  simp[Value.ownBlock];omega
 ·simp[Value.ownBlock];omega
def zFo(x:Val):List Int:=
 if x.k == 1 then 2::be8 (zJ1 x.n) 8 else if x.k == 2 then 3::(zCs x.s.data.toList++[0,1]) else [1]
def zNt(x:Val):Nat:=16+2*x.s.size
theorem zNR(base:Nat)(zs:List Int)(x:Val)(v:Value)(w:World)(Hd:zBC w base v zs)(Hf:zs.length+zNt x<=140737488300000)(Hv:base<=w.heap.size) :
  Calls Tryz.prog 105 #[v,x.v] w fun e w'=>∃v',e=.returned v'/\zBC w' base v' (zs++zFo x)/\zAt w w' v v':=by
 obtain⟨i0,hi,QY,Qp,QC⟩:=info_parts Tryz.info5
 unfold zNt at Hf
 rw[x.open_]
 rcases Bool.eq_false_or_eq_true (x.k == 1) with k1|k1
 ·have HV:Hid (zFo x=2::be8 (zJ1 x.n) 8):=by show _=_;simp[zFo,k1]
  have He:∀g,v.ownBlock=some g->g<w.heap.size:=fun g h=>(zBN Hd h).2
  have YV:=zA3 He
  clear He
  go_enter Tryz.func105,Tryz.ntmps105
  go_wp2_with fail
  go_region_held3 (fun w'=>w'.cell? ⟨w.heap.size,1,none⟩=some (.int .i64 x.n)) (first|assumption|go_keep)
   (first
    | ((refine step_append_lies _ (by rfl) (.tmp 9) (.tmp 10) 71 (by rfl) base 5 i0 (.int .u8 0) 1 1 Tryz.underlying71 hi QY Qp QC (by rfl) (by decide) v zs.length (zs.map (Value.int .u8)) (by rfl) (World.ownsRow.drew (World.ownsRow.alloc (World.ownsRow.alloc Hd _) _)) ⟨w.heap.size+1,0,none⟩ 1 1 [.int .u8 2] (by rfl) (by rfl) (by intro j u hj;match j,hj with|0,hj=>(simp at hj;subst hj;simp[Addr.add,go_sem])) (by intro u hu;simp at hu;subst hu;rfl) (by decide) (by unfold maxLen;omega) (by omega) (by simp;omega) (w.heap.size+1+1) (by simp) ?_;intro g cap w1 Hc Ha Hl FB;have JB:w1.cell? ⟨w.heap.size,1,none⟩=some (.int .i64 x.n):=(zM6 Hd Ha 1).trans (by simp[go_sem]);have Hn:=zJq (n:=zs.length+1) (cap:=cap) Ha Hl;have QU:=zBS (news:=[2]) rfl Hc))
    | (go_at_call 127;refine(zNS base (zs++[2]) x.n _ _ QU ?_ ?_).mono ?_;(rw[zAX];simp only[List.length_cons,List.length_nil];omega);(have:=Hn.1.size;omega);rintro e w2 ⟨v2,rfl,Qi,Hj⟩;have Ja:w2.cell? ⟨w.heap.size,1,none⟩=some (.int .i64 x.n):=(zCG Hj (World.block_lt_of_cell? _ _ JB) (zPa (zA0 YV) Hl) 1).trans JB))
  go_wp2
  go_ret
  exact⟨_,rfl,by rw[zA0 HV];simpa using Qi,Hn.trans Hj⟩
 ·rcases Bool.eq_false_or_eq_true (x.k == 2) with k2|k2
  ·have HV:Hid (zFo x=3::(zCs x.s.data.toList++[0,1])):=by show _=_;simp[zFo,k1,k2]
   have He:∀g,v.ownBlock=some g->g<w.heap.size:=fun g h=>(zBN Hd h).2
   have YV:=zA3 He
   clear He
   go_enter Tryz.func105,Tryz.ntmps105
   go_wp2_with fail
   go_region_held3 (fun w'=>w'.cell? ⟨w.heap.size,2,none⟩=some (.string x.s)) (first|assumption|go_keep)
    (first
     | ((refine step_append_lies _ (by rfl) (.tmp 17) (.tmp 18) 71 (by rfl) base 5 i0 (.int .u8 0) 1 1 Tryz.underlying71 hi QY Qp QC (by rfl) (by decide) v zs.length (zs.map (Value.int .u8)) (by rfl) (World.ownsRow.drew (World.ownsRow.alloc (World.ownsRow.alloc Hd _) _)) ⟨w.heap.size+1,0,none⟩ 1 1 [.int .u8 3] (by rfl) (by rfl) (by intro j u hj;match j,hj with|0,hj=>(simp at hj;subst hj;simp[Addr.add,go_sem])) (by intro u hu;simp at hu;subst hu;rfl) (by decide) (by unfold maxLen;omega) (by omega) (by simp;omega) (w.heap.size+1+1) (by simp) ?_;intro g cap w1 Hc Ha Hl FB;have JB:w1.cell? ⟨w.heap.size,2,none⟩=some (.string x.s):=(zM6 Hd Ha 2).trans (by simp[go_sem]);have Hn:=zJq (n:=zs.length+1) (cap:=cap) Ha Hl;have QU:=zBS (news:=[3]) rfl Hc))
     | (go_at_call 128;refine(zLG base (zs++[3]) x.s _ _ QU ?_ ?_).mono ?_;(rw[zAX];simp only[List.length_cons,List.length_nil];omega);(have:=Hn.1.size;omega);rintro e w2 ⟨v2,rfl,Qi,Hj⟩;have Ja:w2.cell? ⟨w.heap.size,2,none⟩=some (.string x.s):=(zCG Hj (World.block_lt_of_cell? _ _ JB) (zPa (zA0 YV) Hl) 2).trans JB))
   go_wp2
   go_ret
   exact⟨_,rfl,by rw[zA0 HV];simpa using Qi,Hn.trans Hj⟩
  ·have HV:Hid (zFo x=[1]):=by show _=_;simp[zFo,k1,k2]
   go_enter Tryz.func105,Tryz.ntmps105
   go_wp2_with (at_builtin;refine wpList_append_own_at _ rfl (.tmp 23) (.tmp 24) 71 rfl base 5 i0 (.int .u8 0) 1 1 Tryz.underlying71 hi QY Qp QC rfl (by decide) _ _ _ rfl (World.ownsRow.alloc (World.ownsRow.alloc Hd _) _) ⟨w.heap.size+1,0,none⟩ 1 1 [.int .u8 1] rfl rfl (by intro j u hj;match j,hj with|0,hj=>(simp at hj;subst hj;simp[Addr.add,go_sem])) (by intro u hu;simp at hu;subst hu;rfl) (by unfold maxLen;omega) (by omega) (by simp;omega) ?_;intro v1 w1 Hc Ha _ Hl;have Hn:=zAt.app2 Ha Hl;have QU:=zBS (news:=[1]) rfl Hc;clear Hc Ha Hl)
   go_ret
   exact⟨_,rfl,by rw[zA0 HV];exact QU,Hn⟩
def zGE(xs:List Val):List Int:=xs.flatMap zFo
theorem zJl{xs:List Val}{k:Nat}{x:Val}(h:xs[k]?=some x):zGE (xs.take (k+1))=zGE (xs.take k)++zFo x:=by
 obtain⟨h1,rfl⟩:=zAL h
 unfold zGE
 rw[List.take_succ_eq_append_getElem h1,List.flatMap_append,List.flatMap_cons,List.flatMap_nil,List.append_nil]
def zF8(xs:List Val):Nat:=(xs.map zNt).sum
theorem zRu(x:Val):(zFo x).length<=zNt x:=by
 unfold zFo zNt
 split
 ·simp[zFt];omega
 ·split
  ·have:=zIj x.s.data.toList
   simp at this
   simp
   omega
  ·simp;omega
theorem zIc(xs:List Val):(zGE xs).length<=zF8 xs:=by
 induction xs with
 | nil=>simp[zGE,zF8]
 | cons x xs ih=>
  have:=zRu x
  simp only[zGE,zF8,List.flatMap_cons,zAX,List.map_cons,List.sum_cons] at *
  omega
theorem zHO{xs:List Val}{k:Nat}{x:Val}(h:xs[k]?=some x):zF8 (xs.take k)+zNt x<=zF8 xs:=by
 obtain⟨h1,rfl⟩:=zAL h
 have e:xs=xs.take k++xs[k]::xs.drop (k+1):=by rw[<-List.drop_eq_getElem_cons h1,List.take_append_drop]
 have e2:zF8 xs=zF8 (xs.take k++xs[k]::xs.drop (k+1)):=congrArg zF8 e
 rw[e2]
 simp only[zF8,List.map_append,List.map_cons,List.sum_append,List.sum_cons]
 omega
theorem zTS(aa:Option Addr)(ca:Nat)(xs:List Val)(w:World)(qx:xs.length<=maxLen)(hw:zF8 xs<=140737488300000)(ha:zAR w aa xs) :
  Calls Tryz.prog 80 #[.slice aa xs.length ca] w fun e w'=>e=.returned (.string (toB (zGE xs)))/\Below w.heap.size w w':=by
 unfold maxLen at qx
 go_enter Tryz.func80,Tryz.ntmps80
 go_wp2_with fail
 go_loopw[3,8] (fun key i wr=>∃k:Nat,k<=xs.length/\i=.int .i64 k/\zBC wr w.heap.size key (zGE (xs.take k))/\Below w.heap.size w wr) (fun _ i wx=>xs.length-(intOf i).toNat)
 case atStart=>exact⟨0,Nat.zero_le _,rfl,World.ownsRow_nil _ _ _ _,Below.refl _ _⟩
 case round=>
  obtain⟨k,Jv,rfl,ho,Hx⟩:=hrel
  have ZR:=ha.later Hx
  by_cases h1:k<xs.length
  ·obtain⟨x,hx⟩:∃x,xs[k]?=some x:=⟨_,zAf h1⟩
   rcases ZR with e|⟨ba,oa,rfl,Qq⟩
   ·subst e;simp at h1
   obtain⟨c0,c1,c2⟩:=Qq k x hx
   have i1:(k:Int)<(xs.length:Int):=by omega
   have HT:=zA3 (zJl hx)
   have hl:(zGE (xs.take k)).length+zNt x<=140737488300000:=by
    have h1:=zIc (xs.take k)
    have h2:=zHO hx
    omega
   have HC:=zA3 (fun W (hW:zBC W w.heap.size u3 (zGE (xs.take k))) (hs:w.heap.size<=W.heap.size)=>zNR w.heap.size (zGE (xs.take k)) x u3 W hW hl hs)
   clear Qq hx hl
   go_wp2_with (go_at_call 105;refine(zA0 HC _ ?_ ?_).mono ?_;(exact World.ownsRow.alloc ho _);(have:=Hx.size;simp;omega);rintro e w1 ⟨v1,rfl,QU,Hn⟩)
   have Hb:Below w.heap.size w w1:=(zA1 Hx _).trans (Hn.below (by have:=Hx.size;simp;omega) (fun g hg=>(zBN ho hg).1))
   rw[<-zA0 HT] at QU
   go_roundw
   case rel=>exact⟨k+1,by omega,by go_num,QU,Hb⟩
   case measure=>simp[intOf];omega
  ·have e:k=xs.length:=by omega
   have i1:¬(k:Int)<(xs.length:Int):=by omega
   have HE:Hid (xs.take k=xs):=List.take_of_length_le (by omega)
   have Qm:=zAe ho
   rw[zA0 HE] at Qm
   clear e
   go_wp2
   go_ret
   exact⟨rfl,Hx⟩
theorem zUR(U:Int)(k:Nat)(h:k<8):U / 2 ^ (8*(7-k)) % 256=be U k:=by
 unfold be
 rw[show 8*(7-k)=56-8*k by omega]
theorem zNK(U:Int)(w:World) :
  Calls Tryz.prog 32 #[.int .u64 U,.int .i64 8] w fun e w'=>e=.returned (.string (toB (be8 U 8)))/\Below w.heap.size w w':=by
 obtain⟨i0,hi,QY,Qp,QC⟩:=info_parts Tryz.info5
 go_enter Tryz.func32,Tryz.ntmps32
 go_wp2_with fail
 go_loopw[5,6] (fun b s wr=>∃k:Nat,k<=8/\s=.int .i64 (7-(k:Int))/\zBC wr w.heap.size b (be8 U k)/\Below w.heap.size w wr) (fun _ s _=>(intOf s+1).toNat)
 case atStart=>exact⟨0,Nat.zero_le _,rfl,World.ownsRow_nil _ _ _ _,Below.refl _ _⟩
 case round=>
  obtain⟨k,hk,rfl,ho,hg⟩:=hrel
  by_cases h8:k<8
  ·have h9:(0:Int)<=7-(k:Int):=by omega
   have hl:(be8 U k).length=k:=zFt _ _
   have HL:=zA3 hl
   clear hl
   go_wp2_with (at_builtin;refine wpList_append_own_at _ rfl (.tmp 13) (.tmp 19) 71 rfl w.heap.size 5 i0 (.int .u8 0) 1 1 Tryz.underlying71 hi QY Qp QC rfl (by decide) _ _ _ rfl (World.ownsRow.alloc ho _) ⟨wr.heap.size,0,none⟩ 1 1 [.int .u8 (U / 2 ^ (8*(7-k)) % 256)] rfl rfl (cell_one_new _ _ _) (by intro u hu;simp at hu;subst hu;rfl) (by rw[zA0 HL];unfold maxLen;omega) (by rw[zA0 HL];omega) (by have:=hg.size;simp;omega) ?_;intro v' w1 Yy Hr _ Hm)
   have Hj:=zAt.app (zAt.refl wr u5) Hr Hm
   have Qi:=zBS (news:=[U / 2 ^ (8*(7-k)) % 256]) rfl Yy
   rw[zUR U k h8,<-zMA] at Qi
   have Hb:Below w.heap.size w w1:=hg.trans (Hj.below hg.size (fun g hh=>(zBN ho hh).1))
   go_roundw
   case rel=>exact⟨k+1,by omega,by go_num,Qi,Hb⟩
   case measure=>simp only[intOf];omega
  ·have Qk:k=8:=by omega
   subst Qk
   have Qm:=zAe ho
   go_wp2
   go_ret
   exact⟨rfl,hg⟩
theorem zUd:toB [1]=⟨#[1]⟩:=rfl
theorem zUc:toB [2]=⟨#[2]⟩:=rfl
theorem zUb:toB [3]=⟨#[3]⟩:=rfl
theorem zSv:toB [255]=⟨#[255]⟩:=rfl
theorem zTw:toB [0,1]=⟨#[0,1]⟩:=rfl
theorem zEv(x:ByteArray)(j:Nat)(h:j<x.size):x.extract j (j+1)=toB [(x[j].toNat:Int)]:=by
 have e:ofI (x[j].toNat:Int)=x[j]:=by simp[ofI]
 rw[zFx,List.map_cons,List.map_nil,e]
 apply WideShapes.bytes_inj
 rw[Lib.extract_data]
 have h':j<x.data.toList.length:=by simpa using h
 rw[List.drop_eq_getElem_cons h']
 simp
 rfl
theorem zR7(aa:Option Addr)(ca:Nat)(xs:List Val)(w:World)(qx:xs.length<=maxLen)(hw:zF8 xs<=140737488300000)(ha:zAR w aa xs) :
  Calls Tryz.prog 36 #[.slice aa xs.length ca] w fun e w'=>e=.returned (.string (toB (zGE xs)))/\Below w.heap.size w w':=by
 unfold maxLen at qx
 go_enter Tryz.func36,Tryz.ntmps36
 go_wp2_with fail
 go_loopw[3,9] (fun s i wr=>∃k:Nat,k<=xs.length/\i=.int .i64 k/\s=.string (toB (zGE (xs.take k)))/\Below w.heap.size w wr) (fun _ i wx=>xs.length-(intOf i).toNat)
 case atStart=>exact⟨0,Nat.zero_le _,rfl,rfl,Below.refl _ _⟩
 case round=>
  obtain⟨k,Jv,rfl,rfl,Hx⟩:=hrel
  have ZR:=ha.later Hx
  by_cases h1:k<xs.length
  ·obtain⟨x,hx⟩:∃x,xs[k]?=some x:=⟨_,zAf h1⟩
   rcases ZR with e|⟨ba,oa,rfl,Qq⟩
   ·subst e;simp at h1
   obtain⟨c0,c1,c2⟩:=Qq k x hx
   have i1:(k:Int)<(xs.length:Int):=by omega
   have HT:=zA3 (zJl hx)
   have hl:(zGE (xs.take k)).length+zNt x<=140737488300000:=by
    have h1:=zIc (xs.take k)
    have h2:=zHO hx
    omega
   have HC:=zA3 (zD2 x)
   clear Qq hx
   generalize zGE (xs.take k)=zs at *
   go_upto_region 5 with fail
   go_cut[] (fun wx=>zEi wx wr.heap.size (zA8 x)/\Below w.heap.size w wx)
   case first=>
    go_wp2_with (go_at_call 31;refine(zA0 HC _).mono ?_;rintro e w1 ⟨rfl,Hb⟩;obtain⟨Qj,QM⟩:=zCR Hb;rw[Val.open_])
    go_meet
    refine⟨⟨by simp[go_sem,Qj,QM],by simp[go_sem,Qj,QM],by simp[go_sem,Qj,QM]⟩,?_⟩
    exact((((zA2 (zA1 Hx _) Hb).setCell (by simpa using Hx.size) _).setCell (by simpa using Hx.size) _).setCell (by simpa using Hx.size) _)
   case rest=>
    obtain⟨⟨q0,q1,q2⟩,yP⟩:=hcut
    clear HC c0 c1 c2
    rename World=>wa
    unfold zNt at hl
    rcases Bool.eq_false_or_eq_true (x.k == 1) with k1|k1
    ·have hv:zA8 x=.num x.n:=by simp[zA8,k1]
     have HV:Hid (zFo x=2::be8 (zJ1 x.n) 8):=by show _=_;simp[zFo,k1]
     rw[hv] at q0 q1 q2
     simp only[Val.num] at q0 q1 q2
     clear hv k1
     have z1:(toB (be8 (zJ1 x.n) 8)).size=8:=by rw[zAN,zFt]
     have z2:(toB zs).size<=140737488300000:=by rw[zAN];omega
     have HB:=zA3 (zNK (zJ1 x.n))
     generalize Zt:toB (be8 (zJ1 x.n) 8)=B8 at *
     have Jh:=zA3 Zt
     clear Zt
     generalize hS:toB zs=S at *
     have HS:=zA3 hS
     clear hS
     have n1:¬9223372036854775807<1+B8.size:=by omega
     have n2:¬9223372036854775807<S.size+(1+B8.size):=by omega
     go_wp2_with (go_at_call 32;refine(zA0 HB _).mono ?_;rintro e w1 ⟨rfl,Hb⟩)
     have ZU:S++(⟨#[2]⟩++B8)=toB (zGE (xs.take (k+1))):=by
      rw[zA0 HT,zA0 HV,zAJ,zQk,zUc,zA0 HS,zA0 Jh]
     go_roundw
     case rel=>exact⟨k+1,by omega,by go_num,congrArg Value.string ZU,zA2 yP Hb⟩
     case measure=>simp[intOf];omega
    ·rcases Bool.eq_false_or_eq_true (x.k == 2) with k2|k2
     ·have hv:zA8 x=.str x.s:=by simp[zA8,k1,k2]
      have HV:Hid (zFo x=3::(zCs x.s.data.toList++[0,1])):=by show _=_;simp[zFo,k1,k2]
      rw[hv] at q0 q1 q2
      simp only[Val.str] at q0 q1 q2
      clear hv k1 k2
      have z2:(toB zs).size<=140737488300000:=by rw[zAN];omega
      have n1:¬9223372036854775807<(toB zs).size+1:=by omega
      have yB:(x.s.size:Int)<=140737488300000:=by omega
      go_wp2_with fail
      go_loop[3,6] (fun st i=>∃j:Nat,j<=x.s.size/\i=.int .i64 j/\st=.string (toB (zs++(3::zCs (x.s.data.toList.take j))))) (fun _ i=>x.s.size-(intOf i).toNat)
      case atStart=>exact⟨0,Nat.zero_le _,rfl,congrArg Value.string (by rw[zAJ];simp[zCs,zUb])⟩
      case round=>
       obtain⟨j,hj,rfl,rfl⟩:=hrel
       have z3:(toB (zs++(3::zCs (x.s.data.toList.take j)))).size<=zs.length+1+2*j:=by
        rw[zAN,zAX,List.length_cons]
        have h1:=zIj (x.s.data.toList.take j)
        have h2:(x.s.data.toList.take j).length<=j:=List.length_take_le _ _
        omega
       by_cases Tl:j<x.s.size
       ·have i2:(j:Int)<(x.s.size:Int):=by omega
        have z4:(x.s.extract j (j+1)).size=1:=by rw[zEv _ _ Tl,zAN];rfl
        by_cases h0:(x.s[j].toNat:Int)=0
        ·have qL:((x.s[j].toNat:Int) == 0)=true:=by simpa using h0
         have HE:Hid (toB (zs++(3::zCs (x.s.data.toList.take (j+1))))=toB (zs++(3::zCs (x.s.data.toList.take j)))++x.s.extract j (j+1)++⟨#[255]⟩):=by
          show _=_
          rw[zLx _ _ Tl h0,zEv _ _ Tl,<-zSv,<-zAJ,<-zAJ]
          simp
         clear h0
         generalize toB (zs++(3::zCs (x.s.data.toList.take j)))=S at *
         have n2:¬9223372036854775807<S.size+(x.s.extract j (j+1)).size:=by omega
         have n3:¬9223372036854775807<S.size+(x.s.extract j (j+1)).size+1:=by omega
         go_wp2
         go_round
         case rel=>exact⟨j+1,by omega,by go_num,congrArg Value.string (zA0 HE).symm⟩
         case measure=>simp[intOf];omega
        ·have qL:((x.s[j].toNat:Int) == 0)=false:=by simpa using h0
         have HE:Hid (toB (zs++(3::zCs (x.s.data.toList.take (j+1))))=toB (zs++(3::zCs (x.s.data.toList.take j)))++x.s.extract j (j+1)):=by
          show _=_
          rw[zJw _ _ Tl h0,zEv _ _ Tl,<-zAJ]
          simp
         clear h0
         generalize toB (zs++(3::zCs (x.s.data.toList.take j)))=S at *
         have n2:¬9223372036854775807<S.size+(x.s.extract j (j+1)).size:=by omega
         go_wp2
         go_round
         case rel=>exact⟨j+1,by omega,by go_num,congrArg Value.string (zA0 HE).symm⟩
         case measure=>simp[intOf];omega
       ·have i2:¬(j:Int)<(x.s.size:Int):=by omega
        have HE:Hid (toB (zs++(3::zCs (x.s.data.toList.take j)))++⟨#[0,1]⟩=toB (zGE (xs.take (k+1)))):=by
         show _=_
         rw[zA0 HT,zA0 HV,List.take_of_length_le (by simp;omega),<-zTw,<-zAJ]
         simp
        generalize toB (zs++(3::zCs (x.s.data.toList.take j)))=S at *
        have n2:¬9223372036854775807<S.size+2:=by omega
        go_wp2
        go_roundw
        case rel=>exact⟨k+1,by omega,by go_num,congrArg Value.string (zA0 HE),yP⟩
        case measure=>simp[intOf];omega
     ·have hv:zA8 x=.null:=by simp[zA8,k1,k2]
      have HV:Hid (zFo x=[1]):=by show _=_;simp[zFo,k1,k2]
      rw[hv] at q0 q1 q2
      simp only[Val.null] at q0 q1 q2
      clear hv k1 k2
      have z2:(toB zs).size<=140737488300000:=by rw[zAN];omega
      generalize hS:toB zs=S at *
      have HS:=zA3 hS
      clear hS
      have n1:¬9223372036854775807<S.size+1:=by omega
      go_wp2
      have ZU:S++⟨#[1]⟩=toB (zGE (xs.take (k+1))):=by
       rw[zA0 HT,zA0 HV,zAJ,zUd,zA0 HS]
      go_roundw
      case rel=>exact⟨k+1,by omega,by go_num,congrArg Value.string ZU,yP⟩
      case measure=>simp[intOf];omega
  ·have e:k=xs.length:=by omega
   have i1:¬(k:Int)<(xs.length:Int):=by omega
   have HE:Hid (xs.take k=xs):=List.take_of_length_le (by omega)
   clear e
   go_wp2
   go_ret
   exact⟨by rw[zA0 HE];rfl,Hx⟩
end Go.Proofs.YtekgpapophibcaaGreat
