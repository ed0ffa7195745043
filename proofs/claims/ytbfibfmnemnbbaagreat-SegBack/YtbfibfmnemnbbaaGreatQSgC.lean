import Derived.Deep.WholeRow
import Derived.Test.YtbfibfmnemnbbaaGreatQStbH
set_option linter.unusedSimpArgs false
set_option linter.unusedVariables false
set_option maxRecDepth 100000
namespace Go.Proofs.YtbfibfmnemnbbaaGreat
open Go.RowKit Go.Sort
variable {ops:Array Oper}{rest:List Oper}{o:Oper}{a:Act}{w w':World}{Q:Exit->Act->World->Prop}{P:Program}
theorem bit_step(x:Nat)(h:x<4294967296):bits .xor .u32 ((x:Int) / 2) (bits .and .u32 (x:Int) 1*3988292384 % 4294967296)=((stp x:Nat):Int):=by
 have h1:bits .and .u32 (x:Int) 1=((x % 2:Nat):Int):=by
  have:=u32_and_nat x 1 h (by decide)
  rw[show ((1:Nat):Int)=1 from rfl] at this
  rw[this,Nat.and_one_is_mod]
 have h2:((x % 2:Nat):Int)*3988292384 % 4294967296=(((if x % 2=1 then 3988292384 else 0:Nat)):Int):=by
  rcases Nat.mod_two_eq_zero_or_one x with e|e<;>simp[e]
 have h3:(x:Int) / 2=((x / 2:Nat):Int):=by omega
 rw[h1,h2,h3,u32_xor_nat _ _ (by omega) (by split<;>decide)]
 rfl
structure Tab(c:Array Value)(k:Nat):Prop where
 size:c.size=256
 one:c.all (·.oneCell')=true
 at_:∀j,j<k->c[j]?=some (.int .u32 ((stpN 8 j:Nat):Int))
theorem Tab.zero:Tab Tryz.zeroCells138 0:=⟨by kernel_rfl,by kernel_rfl,fun j h=>by omega⟩
theorem Tab.set{c:Array Value}{k:Nat}(h:Tab c k)(hk:k<256):Tab (c.setIfInBounds k (.int .u32 ((stpN 8 k:Nat):Int))) (k+1):=by
 have hs:=h.size
 refine⟨by simp[hs],?_,fun j hj=>?_⟩
 ·rw[Array.all_eq_true_iff_forall_mem]
  intro v hv
  rcases Array.mem_or_eq_of_mem_setIfInBounds hv with g|g
  ·exact(Array.all_eq_true_iff_forall_mem.1 h.one) v g
  ·subst g;rfl
 ·by_cases e:j=k
  ·subst e
   rw[Array.getElem?_setIfInBounds_self_of_lt (by omega)]
  ·rw[Array.getElem?_setIfInBounds_ne (by omega)]
   exact h.at_ j (by omega)
theorem wpList_load_at(hg:o.guard=none)(t:TypeId)(p:Operand)(hop:o.op=Op.load t p)(ad:Value)(hp:a.eval p=ad)(v:Value)(hrun:(Instr.loadAt t ad).run P w=.ok v w)
  (hK:wpList P ops Q rest (a.put o.dst v) w):wpList P ops Q (o::rest) a w:=by
 refine wpList_plain hg fun K hK'=>?_
 unfold Oper.wp
 simp only[execOp,hop,hp,Sem.run_bind,hrun,Result.andThen]
 exact hK' _ _ hK
theorem wpList_store_at(hg:o.guard=none)(t:TypeId)(p q:Operand)(hop:o.op=Op.store t p q)(ad v:Value)(hp:a.eval p=ad)(hq:a.eval q=v)(hrun:(Instr.storeAt t ad v).run P w=.ok () w')
  (hK:wpList P ops Q rest (a.put o.dst (.tuple #[])) w'):wpList P ops Q (o::rest) a w:=by
 refine wpList_plain hg fun K hK'=>?_
 unfold Oper.wp
 simp only[execOp,hop,hp,hq,Sem.run_bind,hrun,Result.andThen]
 exact hK' _ _ hK
theorem below_setRow{w0 w:World}{n:Nat}(h:Below n w0 w)(c:Array Value):Below n w0 (w.setRow n c):=
 h.trans ⟨rfl,rfl,rfl,by simp[World.setRow],fun k hk=>by
  simp only[World.setRow,Array.getElem?_modify]
  rw[if_neg (by omega)]⟩
theorem setRow_at{w:World}{g t:Nat}{c0:Array Value}(h:w.heap[g]?=some (.cells c0 t (0,0)))(c:Array Value):(w.setRow g c).heap[g]?=some (.cells c t (0,0)):=by
 simp[World.setRow,Array.getElem?_modify,h]
theorem loadAt_row{w:World}{g:Nat}{c:Array Value}(h:w.heap[g]?=some (.cells c 138 (0,0)))(hn:c.size=256) :
  (Instr.loadAt 138 (.pointer (some ⟨g,0,none⟩))).run Tryz.prog w=.ok (.agg c) w:=by
 simp only[Instr.loadAt,Instr.sureAddr,Sem.run_bind,Sem.run_pure,Result.andThen]
 exact run_loadVar_row (P:=Tryz.prog) w g 138 138 c (0,0) _ h Tryz.underlying138 rfl (by rw[hn];kernel_rfl)
theorem storeAt_row{w:World}{g:Nat}{c c0:Array Value}(h:w.heap[g]?=some (.cells c0 138 (0,0)))(h0:c0.size=256)(hn:c.size=256)(h1:c.all (·.oneCell')=true) :
  (Instr.storeAt 138 (.pointer (some ⟨g,0,none⟩)) (.agg c)).run Tryz.prog w=.ok () (w.setRow g c):=by
 simp only[Instr.storeAt,Instr.sureAddr,Sem.run_bind,Sem.run_pure,Result.andThen]
 exact run_storeVar_row (P:=Tryz.prog) w g 138 138 c0 c h (by rw[hn];kernel_rfl) (by omega) h1
theorem steps_any(w:World):Calls Tryz.prog 95 #[] w fun e w'=>∃c,e=.returned (.agg c)/\Tab c 256/\Below w.heap.size w w':=by
 go_enter Tryz.func95,Tryz.ntmps95
 go_wp2
 go_loopw[5] (fun s wr=>∃(k:Nat) (c:Array Value),s=.int .i64 (k:Int)/\k<=256/\Hid (Tab c k)/\wr=(w.alloc (.cells Tryz.zeroCells138 138)).alloc (.cells c 138)) (fun s _=>256-(intOf s).toNat)
 case atStart=>exact⟨0,_,rfl,by omega,Tab.zero,rfl⟩
 case round=>
  obtain⟨k,c,rfl,hk,HT,rfl⟩:=hrel
  have hsz:=(unhide HT).size
  by_cases h1:k<256
  ·have i1:(k:Int)<256:=by omega
   go_wp2
   go_loopw[10,3] (fun s c' wr=>∃(i:Nat) (x:Nat),s=.int .i64 (i:Int)/\c'=.int .u32 (x:Int)/\i<=8/\Hid (x=stpN i k)/\wr=(w.alloc (.cells Tryz.zeroCells138 138)).alloc (.cells c 138)) (fun s _ _=>8-(intOf s).toNat)
   case atStart=>exact⟨0,k,rfl,rfl,by omega,rfl,rfl⟩
   case round=>
    obtain⟨i,x,rfl,rfl,hi,HX,rfl⟩:=hrel
    by_cases h2:i<8
    ·have i2:(i:Int)<8:=by omega
     have hx:x<4294967296:=by rw[unhide HX];exact stpN_small i (by omega)
     have HB:=hide (bit_step x hx)
     have hn:stp x=stpN (i+1) k:=by rw[stpN_last,<-unhide HX]
     have HN:=hide hn
     clear hn hsz
     go_wp2
     go_roundw
     case rel=>exact⟨i+1,stp x,by go_num,by rw[unhide HB],by omega,unhide HN,trivial⟩
     case measure=>first | (simp[intOf];omega) | (simp only[intOf];omega)
    ·have hi8:i=8:=by omega
     have i2:¬(i:Int)<8:=by omega
     subst hi8
     have HT':Tab (c.setIfInBounds k (.int .u32 (x:Int))) (k+1):=by rw[unhide HX];exact(unhide HT).set h1
     have HT2:=hide HT'
     clear HT'
     go_wp2
     refine⟨⟨k+1,_,by go_num,by omega,HT2,rfl⟩,?_⟩
     first | (simp[intOf];omega) | (simp only[intOf];omega)
  ·have i1:¬(k:Int)<256:=by omega
   have hk2:k=256:=by omega
   subst hk2
   have hT:=unhide HT
   have hl1:((w.alloc (.cells Tryz.zeroCells138 138)).alloc (.cells c 138)).heap[w.heap.size+1]?=some (.cells c 138 (0,0)):=by
    have:=heap_alloc_last (w.alloc (.cells Tryz.zeroCells138 138)) (.cells c 138)
    simpa using this
   have hl0:((w.alloc (.cells Tryz.zeroCells138 138)).alloc (.cells c 138)).heap[w.heap.size]?=some (.cells Tryz.zeroCells138 138 (0,0)):=by
    rw[Below.heap_alloc _ _ _ (by simp)]
    exact heap_alloc_last w _
   have hb:Below w.heap.size w ((w.alloc (.cells Tryz.zeroCells138 138)).alloc (.cells c 138)):=((Below.refl _ _).alloc (Nat.le_refl _) _).alloc (by simp) _
   go_upto_region 13 with fail
   refine wp_region_lit ?_
   refine wpList_load_at rfl 138 (.tmp 1) rfl (.pointer (some ⟨w.heap.size+1,0,none⟩)) (by simp[Act.eval]) (.agg c) (loadAt_row hl1 hT.size) ?_
   refine wpList_store_at rfl 138 (.tmp 0) (.tmp 24) rfl (.pointer (some ⟨w.heap.size,0,none⟩)) (.agg c) (by simp[Act.eval,Act.put]) (by simp[Act.eval,Act.put]) (storeAt_row hl0 (by kernel_rfl) hT.size hT.one) ?_
   have hb2:=below_setRow hb c
   have hl2:=setRow_at hl0 c
   obtain⟨W2,hW2⟩:∃W2,((w.alloc (.cells Tryz.zeroCells138 138)).alloc (.cells c 138)).setRow w.heap.size c=W2:=⟨_,rfl⟩
   rw[hW2] at hb2 hl2 ⊢
   clear hl1 hl0 hb hW2
   refine wpList_nil ?_
   go_wp2
   exact bodyPost_ret (results_cell_row Tryz.results95 _ _ w.heap.size 138 c (0,0) _ (by simp) hl2 Tryz.underlying138 rfl (by rw[hT.size];kernel_rfl)) rfl ⟨c,rfl,hT,hb2⟩
end Go.Proofs.YtbfibfmnemnbbaaGreat
set_option linter.unusedSimpArgs false
set_option linter.unusedVariables false
set_option maxRecDepth 100000
namespace Go.Proofs.YtbfibfmnemnbbaaGreat
open Go.RowKit Go.Sort
theorem sum_step(c b:Nat)(hc:c<4294967296)(hb:b<256):bits .xor .u8 ((c:Int) % 256) (b:Int)=(((c % 256) ^^^ b:Nat):Int)/\((c % 256) ^^^ b)<256:=by
 have h:(c:Int) % 256=((c % 256:Nat):Int):=by omega
 rw[h]
 exact⟨u8_xor_nat _ _ (by omega) hb,Nat.xor_lt_two_pow (n:=8) (by omega) hb⟩
theorem sum_step2(c x:Nat)(hc:c<4294967296)(hx:x<4294967296):bits .xor .u32 ((c:Int) / 256) (x:Int)=((c / 256 ^^^ x:Nat):Int):=by
 have h:(c:Int) / 256=((c / 256:Nat):Int):=by omega
 rw[h]
 exact u32_xor_nat _ _ (by omega) hx
def sumB(s:ByteArray):Nat:=4294967295 ^^^ crcL 4294967295 s.data.toList
theorem sumB_small(s:ByteArray):sumB s<4294967296:=Nat.xor_lt_two_pow (n:=32) (by decide) (crcL_small _ (by decide))
theorem sumB_end{s:ByteArray}{x i:Nat}(hx:x<4294967296)(h:x=crcL 4294967295 (s.data.toList.take i))(hi:i=s.size):bits .xor .u32 IntKind.u32.max (x:Int)=((sumB s:Nat):Int):=by
 have:=u32_xor_nat 4294967295 x (by decide) hx
 rw[show IntKind.u32.max=((4294967295:Nat):Int) from rfl,this,h,hi]
 have e:s.data.toList.take s.size=s.data.toList:=List.take_of_length_le (Nat.le_of_eq (by rw[Array.length_toList];rfl))
 rw[e]
 rfl
theorem check_any(s:ByteArray)(hs:s.size<=281474976710656)(w:World):Calls Tryz.prog 65 #[.string s] w fun e w'=>e=.returned (.int .u32 (sumB s:Nat))/\Below w.heap.size w w':=by
 go_enter Tryz.func65,Tryz.ntmps65
 go_wp2_with (first | (go_at_call 95;refine(steps_any _).mono ?_;rintro _ w1 ⟨c,rfl,hT,hb1⟩;have hsz:=hT.size;have hSt:=run_storeCells_new (P:=Tryz.prog) w1 138 Tryz.zeroCells138 c (by rw[hT.size];kernel_rfl) (by rw[hT.size];kernel_rfl) hT.one))
 have hc:∀j,j<256->(w1.alloc (.cells c 138)).cell? ⟨w1.heap.size,j,none⟩=some (.int .u32 ((stpN 8 j:Nat):Int)):=fun j hj=>by
  rw[cell_of_row _ _ j c 138 (0,0) (heap_alloc_last w1 _)]
  exact hT.at_ j hj
 have hbA:=below_alloc hb1 (.cells c 138)
 obtain⟨wA,hwA⟩:∃wA,w1.alloc (.cells c 138)=wA:=⟨_,rfl⟩
 rw[hwA] at hc hbA ⊢
 have HC:=hide hc
 clear hSt hT hsz hwA hb1 hc
 go_loopw[9,4] (fun k v wr=>∃(i x:Nat),k=.int .i64 (i:Int)/\v=.int .u32 (x:Int)/\i<=s.size/\Hid (x=crcL 4294967295 (s.data.toList.take i))/\wr=wA) (fun k _ _=>s.size-(intOf k).toNat)
 case atStart=>exact⟨0,4294967295,rfl,rfl,by omega,rfl,rfl⟩
 case round=>
  obtain⟨i,x,rfl,rfl,hi,HX,rfl⟩:=hrel
  have hx:x<4294967296:=by rw[unhide HX];exact crcL_small _ (by decide)
  by_cases h1:i<s.size
  ·have i1:(i:Int)<(s.size:Int):=by omega
   obtain⟨hA,hB⟩:=sum_step x s[i].toNat hx s[i].toNat_lt
   have hC:=unhide HC _ hB
   have hD:=sum_step2 x (stpN 8 ((x % 256) ^^^ s[i].toNat)) hx (stpN_small 8 (by omega))
   have hN:(x / 256 ^^^ stpN 8 (x % 256 ^^^ s[i].toNat))=crcL 4294967295 (s.data.toList.take (i+1)):=by
    rw[crcL_next s i h1,<-unhide HX];exact(byte_step _ _).symm
   have HN:=hide hN
   clear hN
   go_wp2
   refine⟨⟨i+1,_,by go_num,rfl,by omega,unhide HN,trivial⟩,?_⟩
   first | (simp[intOf];omega) | (simp only[intOf];omega)
  ·have i1:¬(i:Int)<(s.size:Int):=by omega
   have he:=sumB_end hx (unhide HX) (by omega)
   go_wp2
   go_ret
   exact⟨rfl,hbA⟩
end Go.Proofs.YtbfibfmnemnbbaaGreat
set_option linter.unusedSimpArgs false
set_option linter.unusedVariables false
set_option maxHeartbeats 2000000
set_option maxRecDepth 100000
namespace Go.Proofs.YtbfibfmnemnbbaaGreat
open Go.RowKit Go.Sort
def be(U:Int)(k:Nat):Int:=U / 2 ^ (56-8*k) % 256
def be8(U:Int)(k:Nat):List Int:=(List.range k).map (be U)
theorem be8_succ(U:Int)(k:Nat):be8 U (k+1)=be8 U k++[be U k]:=by simp[be8,List.range_succ]
theorem be8_len(U:Int)(k:Nat):(be8 U k).length=k:=by simp[be8]
def keyU(n:Int):Int:=bits BinOp.xor IntKind.u64 (IntKind.u64.wrap n) 9223372036854775808
theorem appkey_any(base:Nat)(zs:List Int)(n:Int)(v:Value)(w:World)(hown:OwnB w base v zs)(hlen:zs.length<=140737488300000)(hbase:base<=w.heap.size) :
  Calls Tryz.prog 130 #[v,.int .i64 n] w fun e w'=>∃v',e=.returned v'/\OwnB w' base v' (zs++be8 (keyU n) 8)/\Grew w w' v v':=by
 obtain⟨i0,hi,hz0,hz1,hz2⟩:=info_parts Tryz.info5
 have HU:=hide (rfl:keyU n=bits BinOp.xor IntKind.u64 (IntKind.u64.wrap n) 9223372036854775808)
 go_enter Tryz.func130,Tryz.ntmps130
 go_wp2_with fail
 go_loopw[0,6] (fun key s wr=>∃k:Nat,k<=8/\s=.int .i64 (56-8*(k:Int))/\OwnB wr base key (zs++be8 (keyU n) k)/\Grew w wr v key) (fun _ s _=>(intOf s+8).toNat)
 case atStart=>exact⟨0,Nat.zero_le _,rfl,by simpa [be8] using hown,Grew.refl _ _⟩
 case round=>
  obtain⟨k,hk,rfl,ho,hg⟩:=hrel
  by_cases h8:k<8
  ·have h9:(0:Int)<=56-8*(k:Int):=by omega
   have hl:(zs++be8 (keyU n) k).length=zs.length+k:=by rw[List.length_append,be8_len]
   have HL:=hide hl
   clear hl
   go_wp2_with (at_builtin;refine wpList_append_own_at _ rfl (.tmp 14) (.tmp 19) 82 rfl base 5 i0 (.int .u8 0) 1 1 Tryz.underlying82 hi hz0 hz1 hz2 rfl (by decide) _ _ _ rfl (World.ownsRow.alloc ho _) ⟨wr.heap.size,0,none⟩ 1 1 [.int .u8 (be (keyU n) k)] rfl rfl (cell_one_new _ _ _) (by intro u hu;simp at hu;subst hu;rfl) (by rw[unhide HL];unfold maxLen;omega) (by rw[unhide HL];omega) (by have:=hg.1.size;simp;omega) ?_;intro v' w1 hown' hgrow _ hat)
   have hg2:=Grew.app hg hgrow hat
   have ho2:=ownB_app (news:=[be (keyU n) k]) rfl hown'
   rw[List.append_assoc,<-be8_succ] at ho2
   refine⟨⟨k+1,by omega,by go_num,ho2,hg2⟩,?_⟩
   simp only[intOf]
   omega
  ·have hk8:k=8:=by omega
   have h9:¬(0:Int)<=56-8*(k:Int):=by omega
   subst hk8
   go_wp2
   go_ret
   exact⟨_,rfl,ho,hg⟩
def encT:List UInt8->List Int
 | []=>[]
 | c::l=>(c.toNat:Int)::(if c.toNat=0 then 255::encT l else encT l)
theorem encT_append(l m:List UInt8):encT (l++m)=encT l++encT m:=by
 induction l with
 | nil=>rfl
 | cons c l ih=>simp only[List.cons_append,encT,ih];split<;>simp
theorem encT_len(l:List UInt8):(encT l).length<=2*l.length:=by
 induction l with
 | nil=>simp[encT]
 | cons c l ih=>simp only[encT];split<;>simp<;>omega
theorem take_snoc(s:ByteArray)(k:Nat)(h:k<s.size):s.data.toList.take (k+1)=s.data.toList.take k++[s[k]]:=by
 rw[List.take_succ_eq_append_getElem (by simpa using h)];rfl
theorem enc_zero(s:ByteArray)(k:Nat)(h:k<s.size)(h0:(s[k].toNat:Int)=0):encT (s.data.toList.take (k+1))=encT (s.data.toList.take k)++[(s[k].toNat:Int),255]:=by
 have:s[k].toNat=0:=by omega
 rw[take_snoc s k h,encT_append];simp[encT,this]
theorem enc_other(s:ByteArray)(k:Nat)(h:k<s.size)(h0:¬(s[k].toNat:Int)=0):encT (s.data.toList.take (k+1))=encT (s.data.toList.take k)++[(s[k].toNat:Int)]:=by
 have:¬s[k].toNat=0:=by omega
 rw[take_snoc s k h,encT_append];simp[encT,this]
theorem apptext_any(base:Nat)(zs:List Int)(s:ByteArray)(v:Value)(w:World)(hown:OwnB w base v zs)(hlen:zs.length+2*s.size<=140737488300000)(hbase:base<=w.heap.size) :
  Calls Tryz.prog 131 #[v,.string s] w fun e w'=>∃v',e=.returned v'/\OwnB w' base v' (zs++(encT s.data.toList++[0,1]))/\Grew w w' v v':=by
 obtain⟨i0,hi,hz0,hz1,hz2⟩:=info_parts Tryz.info5
 have hs:(s.size:Int)<=140737488300000:=by omega
 go_enter Tryz.func131,Tryz.ntmps131
 go_wp2_with fail
 go_loopw[0,8] (fun key i wr=>∃k:Nat,k<=s.size/\i=.int .i64 k/\OwnB wr base key (zs++encT (s.data.toList.take k))/\Grew w wr v key) (fun _ i _=>s.size-(intOf i).toNat)
 case atStart=>exact⟨0,Nat.zero_le _,rfl,by simpa [encT] using hown,Grew.refl _ _⟩
 case round=>
  obtain⟨k,hk,rfl,ho,hg⟩:=hrel
  have hl:(zs++encT (s.data.toList.take k)).length<=zs.length+2*k:=by
   rw[List.length_append]
   have h1:=encT_len (s.data.toList.take k)
   have h2:(s.data.toList.take k).length<=k:=List.length_take_le _ _
   omega
  have HL:=hide hl
  clear hl
  by_cases h8:k<s.size
  ·have h9:(k:Int)<(s.size:Int):=by omega
   by_cases h0:(s[k].toNat:Int)=0
   ·have h0':((s[k].toNat:Int) == 0)=true:=by simpa using h0
    have HE:=hide (enc_zero s k h8 h0)
    clear h0
    go_wp2_with (first
     | (at_builtin;refine wpList_append_own_at _ rfl (.tmp 11) (.tmp 15) 82 rfl base 5 i0 (.int .u8 0) 1 1 Tryz.underlying82 hi hz0 hz1 hz2 rfl (by decide) _ _ _ rfl (World.ownsRow.alloc ho _) ⟨wr.heap.size,0,none⟩ 1 1 [.int .u8 (s[k].toNat:Int)] rfl rfl (cell_one_new _ _ _) (by intro u hu;simp at hu;subst hu;rfl) (by have:=unhide HL;unfold maxLen;omega) (by have:=unhide HL;omega) (by have:=hg.1.size;simp;omega) ?_;intro v1 w1 hown1 hgrow1 _ hat1;have hg1:=Grew.app hg hgrow1 hat1;have ho1:=ownB_app (news:=[(s[k].toNat:Int)]) rfl hown1;clear hown1 hgrow1 hat1)
     | (at_builtin;refine wpList_append_own_at _ rfl (.tmp 21) (.tmp 22) 82 rfl base 5 i0 (.int .u8 0) 1 1 Tryz.underlying82 hi hz0 hz1 hz2 rfl (by decide) _ _ _ rfl (World.ownsRow.alloc ho1 _) ⟨w1.heap.size,0,none⟩ 1 1 [.int .u8 255] rfl rfl (cell_one_new _ _ _) (by intro u hu;simp at hu;subst hu;rfl) (by have:=unhide HL;rw[List.length_append];unfold maxLen;simp only[List.length_cons,List.length_nil];omega) (by have:=unhide HL;rw[List.length_append];simp only[List.length_cons,List.length_nil];omega) (by have:=hg1.1.size;simp;omega) ?_;intro v2 w2 hown2 hgrow2 _ hat2;have hg2:=Grew.app hg1 hgrow2 hat2;have ho2:=ownB_app (news:=[255]) rfl hown2;clear hown2 hgrow2 hat2))
    have ho3:OwnB w2 base v2 (zs++encT (s.data.toList.take (k+1))):=by rw[unhide HE];simpa using ho2
    go_roundw
    case rel=>exact⟨k+1,by omega,by go_num,ho3,hg2⟩
    case measure=>simp[intOf];omega
   ·have h0':((s[k].toNat:Int) == 0)=false:=by simpa using h0
    have HE:=hide (enc_other s k h8 h0)
    clear h0
    go_wp2_with (at_builtin;refine wpList_append_own_at _ rfl (.tmp 11) (.tmp 15) 82 rfl base 5 i0 (.int .u8 0) 1 1 Tryz.underlying82 hi hz0 hz1 hz2 rfl (by decide) _ _ _ rfl (World.ownsRow.alloc ho _) ⟨wr.heap.size,0,none⟩ 1 1 [.int .u8 (s[k].toNat:Int)] rfl rfl (cell_one_new _ _ _) (by intro u hu;simp at hu;subst hu;rfl) (by have:=unhide HL;unfold maxLen;omega) (by have:=unhide HL;omega) (by have:=hg.1.size;simp;omega) ?_;intro v1 w1 hown1 hgrow1 _ hat1;have hg1:=Grew.app hg hgrow1 hat1;have ho1:=ownB_app (news:=[(s[k].toNat:Int)]) rfl hown1;clear hown1 hgrow1 hat1)
    have ho3:OwnB w1 base v1 (zs++encT (s.data.toList.take (k+1))):=by rw[unhide HE];simpa using ho1
    go_roundw
    case rel=>exact⟨k+1,by omega,by go_num,ho3,hg1⟩
    case measure=>simp[intOf];omega
  ·have hk8:k=s.size:=by omega
   have h9:¬(k:Int)<(s.size:Int):=by omega
   have HE:Hid (s.data.toList.take k=s.data.toList):=List.take_of_length_le (by simp;omega)
   clear hk8
   go_wp2_with (at_builtin;refine wpList_append_own_at _ rfl (.tmp 25) (.tmp 26) 82 rfl base 5 i0 (.int .u8 0) 1 1 Tryz.underlying82 hi hz0 hz1 hz2 rfl (by decide) _ _ _ rfl (World.ownsRow.alloc ho _) ⟨wr.heap.size,0,none⟩ 2 2 [.int .u8 0,.int .u8 1] rfl rfl ?_ (by intro u hu;simp at hu;rcases hu with rfl|rfl<;>rfl) (by have:=unhide HL;unfold maxLen;omega) (by have:=unhide HL;omega) (by have:=hg.1.size;simp;omega) ?_;rotate_right;intro v1 w1 hown1 hgrow1 _ hat1;have hg1:=Grew.app hg hgrow1 hat1;have ho1:=ownB_app (news:=[0,1]) rfl hown1;clear hown1 hgrow1 hat1)
   ·go_ret
    exact⟨_,rfl,by rw[unhide HE,List.append_assoc] at ho1;exact ho1,hg1⟩
   all_goals
    intro j u hj
    match j,hj with
    | 0,hj=>simp at hj;subst hj;simp[Addr.add,go_sem]
    | 1,hj=>simp at hj;subst hj;simp[Addr.add,go_sem]
    | j+2,hj=>simp at hj
theorem box_kept{w w1:World}{base:Nat}{v:Value}{zs:List Int}{o c:Obj}(h:OwnB w base v zs)(hg:(((w.alloc o).alloc c).drew).grownBy w1 v.ownBlock)(j:Nat) :
  w1.cell? ⟨w.heap.size,j,none⟩=(w.alloc o).cell? ⟨w.heap.size,j,none⟩:=by
 refine World.cell?_of_block (a:=⟨w.heap.size,j,none⟩) ?_
 rw[hg.block w.heap.size (by simp;omega) (fun e=>by have:=(ownB_lt h e.symm).2;omega)]
 exact Below.heap_alloc (w.alloc o) c w.heap.size (by simp)
theorem grew_lies{w w1:World}{v:Value}{o c:Obj}{g n cap:Nat}(hg:(((w.alloc o).alloc c).drew).grownBy w1 v.ownBlock)(hat:v.ownBlock=some g∨g=w.heap.size+1+1):Grew w w1 v (.slice (some ⟨g,0,none⟩) n cap):=by
 refine Grew.app2 (o:=o) (o2:=c) ⟨hg.os,hg.tape,hg.output,hg.size,hg.block⟩ ?_
 rcases hat with h|h
 ·exact .inl h.symm
 ·exact .inr (by rw[h];simp[Value.ownBlock])
theorem lies_ne{v:Value}{g n cap m:Nat}(hlt:∀g,v.ownBlock=some g->g<m)(hat:v.ownBlock=some g∨g=m+1+1):(Value.slice (some ⟨g,0,none⟩) n cap).ownBlock≠some m:=by
 rcases hat with h|h
 ·have:=hlt _ h
  simp[Value.ownBlock];omega
 ·simp[Value.ownBlock];omega
def encV(x:Val):List Int:=
 if x.k == 1 then 2::be8 (keyU x.n) 8 else if x.k == 2 then 3::(encT x.s.data.toList++[0,1]) else [1]
def wide(x:Val):Nat:=16+2*x.s.size
theorem appval_any(base:Nat)(zs:List Int)(x:Val)(v:Value)(w:World)(hown:OwnB w base v zs)(hlen:zs.length+wide x<=140737488300000)(hbase:base<=w.heap.size) :
  Calls Tryz.prog 94 #[v,x.v] w fun e w'=>∃v',e=.returned v'/\OwnB w' base v' (zs++encV x)/\Grew w w' v v':=by
 obtain⟨i0,hi,hz0,hz1,hz2⟩:=info_parts Tryz.info5
 unfold wide at hlen
 rw[x.open_]
 rcases Bool.eq_false_or_eq_true (x.k == 1) with k1|k1
 ·have HV:Hid (encV x=2::be8 (keyU x.n) 8):=by show _=_;simp[encV,k1]
  have hlt:∀g,v.ownBlock=some g->g<w.heap.size:=fun g h=>(ownB_lt hown h).2
  have HLT:=hide hlt
  clear hlt
  go_enter Tryz.func94,Tryz.ntmps94
  go_wp2_with fail
  go_region_held3 (fun w'=>w'.cell? ⟨w.heap.size,1,none⟩=some (.int .i64 x.n)) (first|assumption|go_keep)
   (first
    | ((refine step_append_lies _ (by rfl) (.tmp 9) (.tmp 10) 82 (by rfl) base 5 i0 (.int .u8 0) 1 1 Tryz.underlying82 hi hz0 hz1 hz2 (by rfl) (by decide) v zs.length (zs.map (Value.int .u8)) (by rfl) (World.ownsRow.drew (World.ownsRow.alloc (World.ownsRow.alloc hown _) _)) ⟨w.heap.size+1,0,none⟩ 1 1 [.int .u8 2] (by rfl) (by rfl) (by intro j u hj;match j,hj with|0,hj=>(simp at hj;subst hj;simp[Addr.add,go_sem])) (by intro u hu;simp at hu;subst hu;rfl) (by decide) (by unfold maxLen;omega) (by omega) (by simp;omega) (w.heap.size+1+1) (by simp) ?_;intro g cap w1 hown1 hgrow1 hat1 hlt1;have hS1:w1.cell? ⟨w.heap.size,1,none⟩=some (.int .i64 x.n):=(box_kept hown hgrow1 1).trans (by simp[go_sem]);have hg1:=grew_lies (n:=zs.length+1) (cap:=cap) hgrow1 hat1;have ho1:=ownB_app (news:=[2]) rfl hown1))
    | (go_at_call 130;refine(appkey_any base (zs++[2]) x.n _ _ ho1 ?_ ?_).mono ?_;(rw[List.length_append];simp only[List.length_cons,List.length_nil];omega);(have:=hg1.1.size;omega);rintro e w2 ⟨v2,rfl,ho2,hg2⟩;have hS2:w2.cell? ⟨w.heap.size,1,none⟩=some (.int .i64 x.n):=(grew_kept hg2 (World.block_lt_of_cell? _ _ hS1) (lies_ne (unhide HLT) hat1) 1).trans hS1))
  go_wp2
  go_ret
  exact⟨_,rfl,by rw[unhide HV];simpa using ho2,hg1.trans hg2⟩
 ·rcases Bool.eq_false_or_eq_true (x.k == 2) with k2|k2
  ·have HV:Hid (encV x=3::(encT x.s.data.toList++[0,1])):=by show _=_;simp[encV,k1,k2]
   have hlt:∀g,v.ownBlock=some g->g<w.heap.size:=fun g h=>(ownB_lt hown h).2
   have HLT:=hide hlt
   clear hlt
   go_enter Tryz.func94,Tryz.ntmps94
   go_wp2_with fail
   go_region_held3 (fun w'=>w'.cell? ⟨w.heap.size,2,none⟩=some (.string x.s)) (first|assumption|go_keep)
    (first
     | ((refine step_append_lies _ (by rfl) (.tmp 17) (.tmp 18) 82 (by rfl) base 5 i0 (.int .u8 0) 1 1 Tryz.underlying82 hi hz0 hz1 hz2 (by rfl) (by decide) v zs.length (zs.map (Value.int .u8)) (by rfl) (World.ownsRow.drew (World.ownsRow.alloc (World.ownsRow.alloc hown _) _)) ⟨w.heap.size+1,0,none⟩ 1 1 [.int .u8 3] (by rfl) (by rfl) (by intro j u hj;match j,hj with|0,hj=>(simp at hj;subst hj;simp[Addr.add,go_sem])) (by intro u hu;simp at hu;subst hu;rfl) (by decide) (by unfold maxLen;omega) (by omega) (by simp;omega) (w.heap.size+1+1) (by simp) ?_;intro g cap w1 hown1 hgrow1 hat1 hlt1;have hS1:w1.cell? ⟨w.heap.size,2,none⟩=some (.string x.s):=(box_kept hown hgrow1 2).trans (by simp[go_sem]);have hg1:=grew_lies (n:=zs.length+1) (cap:=cap) hgrow1 hat1;have ho1:=ownB_app (news:=[3]) rfl hown1))
     | (go_at_call 131;refine(apptext_any base (zs++[3]) x.s _ _ ho1 ?_ ?_).mono ?_;(rw[List.length_append];simp only[List.length_cons,List.length_nil];omega);(have:=hg1.1.size;omega);rintro e w2 ⟨v2,rfl,ho2,hg2⟩;have hS2:w2.cell? ⟨w.heap.size,2,none⟩=some (.string x.s):=(grew_kept hg2 (World.block_lt_of_cell? _ _ hS1) (lies_ne (unhide HLT) hat1) 2).trans hS1))
   go_wp2
   go_ret
   exact⟨_,rfl,by rw[unhide HV];simpa using ho2,hg1.trans hg2⟩
  ·have HV:Hid (encV x=[1]):=by show _=_;simp[encV,k1,k2]
   go_enter Tryz.func94,Tryz.ntmps94
   go_wp2_with (at_builtin;refine wpList_append_own_at _ rfl (.tmp 23) (.tmp 24) 82 rfl base 5 i0 (.int .u8 0) 1 1 Tryz.underlying82 hi hz0 hz1 hz2 rfl (by decide) _ _ _ rfl (World.ownsRow.alloc (World.ownsRow.alloc hown _) _) ⟨w.heap.size+1,0,none⟩ 1 1 [.int .u8 1] rfl rfl (by intro j u hj;match j,hj with|0,hj=>(simp at hj;subst hj;simp[Addr.add,go_sem])) (by intro u hu;simp at hu;subst hu;rfl) (by unfold maxLen;omega) (by omega) (by simp;omega) ?_;intro v1 w1 hown1 hgrow1 _ hat1;have hg1:=Grew.app2 hgrow1 hat1;have ho1:=ownB_app (news:=[1]) rfl hown1;clear hown1 hgrow1 hat1)
   go_ret
   exact⟨_,rfl,by rw[unhide HV];exact ho1,hg1⟩
def keyL(xs:List Val):List Int:=xs.flatMap encV
theorem keyL_take{xs:List Val}{k:Nat}{x:Val}(h:xs[k]?=some x):keyL (xs.take (k+1))=keyL (xs.take k)++encV x:=by
 obtain⟨h1,rfl⟩:=List.getElem?_eq_some_iff.1 h
 unfold keyL
 rw[List.take_succ_eq_append_getElem h1,List.flatMap_append,List.flatMap_cons,List.flatMap_nil,List.append_nil]
def wides(xs:List Val):Nat:=(xs.map wide).sum
theorem encV_len(x:Val):(encV x).length<=wide x:=by
 unfold encV wide
 split
 ·simp[be8_len];omega
 ·split
  ·have:=encT_len x.s.data.toList
   simp at this
   simp
   omega
  ·simp;omega
theorem keyL_len(xs:List Val):(keyL xs).length<=wides xs:=by
 induction xs with
 | nil=>simp[keyL,wides]
 | cons x xs ih=>
  have:=encV_len x
  simp only[keyL,wides,List.flatMap_cons,List.length_append,List.map_cons,List.sum_cons] at *
  omega
theorem wides_take{xs:List Val}{k:Nat}{x:Val}(h:xs[k]?=some x):wides (xs.take k)+wide x<=wides xs:=by
 obtain⟨h1,rfl⟩:=List.getElem?_eq_some_iff.1 h
 have e:xs=xs.take k++xs[k]::xs.drop (k+1):=by rw[<-List.drop_eq_getElem_cons h1,List.take_append_drop]
 have e2:wides xs=wides (xs.take k++xs[k]::xs.drop (k+1)):=congrArg wides e
 rw[e2]
 simp only[wides,List.map_append,List.map_cons,List.sum_append,List.sum_cons]
 omega
theorem key_any(aa:Option Addr)(ca:Nat)(xs:List Val)(w:World)(hla:xs.length<=maxLen)(hw:wides xs<=140737488300000)(ha:RowAt w aa xs) :
  Calls Tryz.prog 64 #[.slice aa xs.length ca] w fun e w'=>e=.returned (.string (toB (keyL xs)))/\Below w.heap.size w w':=by
 unfold maxLen at hla
 go_enter Tryz.func64,Tryz.ntmps64
 go_wp2_with fail
 go_loopw[3,8] (fun key i wr=>∃k:Nat,k<=xs.length/\i=.int .i64 k/\OwnB wr w.heap.size key (keyL (xs.take k))/\Below w.heap.size w wr) (fun _ i wx=>xs.length-(intOf i).toNat)
 case atStart=>exact⟨0,Nat.zero_le _,rfl,World.ownsRow_nil _ _ _ _,Below.refl _ _⟩
 case round=>
  obtain⟨k,hk1,rfl,ho,hbel⟩:=hrel
  have ha':=ha.later hbel
  by_cases h1:k<xs.length
  ·obtain⟨x,hx⟩:∃x,xs[k]?=some x:=⟨_,List.getElem?_eq_getElem h1⟩
   rcases ha' with e|⟨ba,oa,rfl,hca⟩
   ·subst e;simp at h1
   obtain⟨c0,c1,c2⟩:=hca k x hx
   have i1:(k:Int)<(xs.length:Int):=by omega
   have HT:=hide (keyL_take hx)
   have hl:(keyL (xs.take k)).length+wide x<=140737488300000:=by
    have h1:=keyL_len (xs.take k)
    have h2:=wides_take hx
    omega
   have HC:=hide (fun W (hW:OwnB W w.heap.size u3 (keyL (xs.take k))) (hs:w.heap.size<=W.heap.size)=>appval_any w.heap.size (keyL (xs.take k)) x u3 W hW hl hs)
   clear hca hx hl
   go_wp2_with (go_at_call 94;refine(unhide HC _ ?_ ?_).mono ?_;(exact World.ownsRow.alloc ho _);(have:=hbel.size;simp;omega);rintro e w1 ⟨v1,rfl,ho1,hg1⟩)
   have hb1:Below w.heap.size w w1:=(below_alloc hbel _).trans (hg1.below (by have:=hbel.size;simp;omega) (fun g hg=>(ownB_lt ho hg).1))
   rw[<-unhide HT] at ho1
   go_roundw
   case rel=>exact⟨k+1,by omega,by go_num,ho1,hb1⟩
   case measure=>simp[intOf];omega
  ·have e:k=xs.length:=by omega
   have i1:¬(k:Int)<(xs.length:Int):=by omega
   have HE:Hid (xs.take k=xs):=List.take_of_length_le (by omega)
   have hcv:=convert_own ho
   rw[unhide HE] at hcv
   clear e
   go_wp2
   go_ret
   exact⟨rfl,hbel⟩
end Go.Proofs.YtbfibfmnemnbbaaGreat
set_option linter.unusedSimpArgs false
set_option linter.unusedVariables false
set_option maxHeartbeats 1000000
set_option maxRecDepth 100000
namespace Go.Proofs.YtbfibfmnemnbbaaGreat
open Go.RowKit Go.Sort
theorem sapp_any(base:Nat)(zs:List Int)(U:Int)(n:Nat)(v:Value)(w:World)(hn:n<=8)(hown:OwnB w base v zs)(hlen:zs.length<=140737488300000)(hbase:base<=w.heap.size) :
  Calls Tryz.prog 38 #[v,.int .u64 U,.int .i64 n] w fun e w'=>∃v',e=.returned v'/\OwnB w' base v' (zs++beL U n n)/\Grew w w' v v':=by
 obtain⟨i0,hi,hz0,hz1,hz2⟩:=info_parts Tryz.info5
 go_enter Tryz.func38,Tryz.ntmps38
 go_wp2_with fail
 go_loopw[0,9] (fun key s wr=>∃k:Nat,k<=n/\s=.int .i64 (k:Int)/\OwnB wr base key (zs++beL U n k)/\Grew w wr v key) (fun _ s _=>n-(intOf s).toNat)
 case atStart=>exact⟨0,Nat.zero_le _,rfl,by simpa [beL] using hown,Grew.refl _ _⟩
 case round=>
  obtain⟨k,hk,rfl,ho,hg⟩:=hrel
  by_cases h8:k<n
  ·have h9:(k:Int)<(n:Int):=by omega
   have hl:(zs++beL U n k).length=zs.length+k:=by rw[List.length_append,beL_len]
   have HL:=hide hl
   have es:((n:Int)-1-(k:Int))=((n-1-k:Nat):Int):=by omega
   have h10:(0:Int)<=8*((n:Int)-1-(k:Int)):=by omega
   have h11:(8*((n:Int)-1-(k:Int))).toNat=8*(n-1-k):=by omega
   clear hl
   go_wp2_with (at_builtin;refine wpList_append_own_at _ rfl (.tmp 12) (.tmp 21) 82 rfl base 5 i0 (.int .u8 0) 1 1 Tryz.underlying82 hi hz0 hz1 hz2 rfl (by decide) _ _ _ rfl (World.ownsRow.alloc ho _) ⟨wr.heap.size,0,none⟩ 1 1 [.int .u8 (beN U n k)] rfl rfl (cell_one_new _ _ _) (by intro u hu;simp at hu;subst hu;rfl) (by rw[unhide HL];unfold maxLen;omega) (by rw[unhide HL];omega) (by have:=hg.1.size;simp;omega) ?_;intro v' w1 hown' hgrow _ hat)
   have hg2:=Grew.app hg hgrow hat
   have ho2:=ownB_app (news:=[beN U n k]) rfl hown'
   rw[List.append_assoc,<-beL_succ] at ho2
   refine⟨⟨k+1,by omega,by go_num,ho2,hg2⟩,?_⟩
   simp only[intOf]
   omega
  ·have hk8:k=n:=by omega
   have h9:¬(k:Int)<(n:Int):=by omega
   subst hk8
   go_wp2
   go_ret
   exact⟨_,rfl,ho,hg⟩
def sealB(s:ByteArray):ByteArray:=s++toB (beL (sumB s:Nat) 4 4)
theorem sealed_any(s:ByteArray)(hs:s.size<=140737488300000)(w:World):Calls Tryz.prog 42 #[.string s] w fun e w'=>e=.returned (.string (sealB s))/\Below w.heap.size w w':=by
 have hw:IntKind.u64.wrap ((sumB s:Nat):Int)=((sumB s:Nat):Int):=by rw[IntKind.wrap_u64,Int.emod_eq_of_lt (by omega) (by have:=sumB_small s;omega)]
 have HK:Hid (∀W,Below w.heap.size w W->Calls Tryz.prog 38 #[.slice none 0 0,.int .u64 ((sumB s:Nat):Int),.int .i64 4] W fun e w'=>∃v',e=.returned v'/\Hid ((convert 82 9 v').run Tryz.prog w'=.ok (.string (toB (beL (sumB s:Nat) 4 4))) w')/\Below w.heap.size w w'):=fun W hW=>by
  refine(sapp_any W.heap.size [] ((sumB s:Nat):Int) 4 (.slice none 0 0) W (by omega) (World.ownsRow_nil _ _ _ _) (by simp) (Nat.le_refl _)).mono ?_
  rintro e w' ⟨v',rfl,ho,hg⟩
  exact⟨v',rfl,convert_own ho,hW.trans ((hg.below (Nat.le_refl _) (fun g hh=>by cases hh)).mono hW.size)⟩
 have hz:¬9223372036854775807<s.size+(toB (beL ((sumB s:Nat):Int) 4 4)).size:=by rw[toB_size,beL_len];omega
 go_enter Tryz.func42,Tryz.ntmps42
 go_wp2_with (first | (go_at_call 65;refine(check_any s (by omega) _).mono ?_;rintro _ w1 ⟨rfl,hb1⟩) | (go_at_call 38;refine(unhide HK _ hb1).mono ?_;rintro _ w2 ⟨v',rfl,hc2,hb2⟩;have hc2':=unhide hc2))
 go_ret
 exact⟨rfl,hb2⟩
end Go.Proofs.YtbfibfmnemnbbaaGreat
set_option linter.unusedSimpArgs false
set_option linter.unusedVariables false
set_option maxHeartbeats 1000000
set_option maxRecDepth 100000
namespace Go.Proofs.YtbfibfmnemnbbaaGreat
open Go.RowKit Go.Sort
def SpanIs(s:ByteArray)(L G:Val)(N:Nat):Prop:=∀W,Calls Tryz.prog 63 #[.string s] W fun e w'=>e=.returned (.tuple #[L.v,G.v,.int .i64 (N:Int),.int .i64 0])/\Below W.heap.size W w'
def zoneB(L G:Val)(N:Nat):ByteArray:=toB (keyL [L,G,Val.num (N:Int)])
theorem three_row(w:World)(L G:Val)(N:Int):RowAt (w.alloc (.cells #[.int .i64 L.k,.int .i64 L.n,.string L.s,.int .i64 G.k,.int .i64 G.n,.string G.s,.int .i64 1,.int .i64 N,.string ⟨#[]⟩] 25)) (some ⟨w.heap.size,0,none⟩) [L,G,Val.num N]:=by
 refine .inr ⟨_,_,rfl,fun i x hx=>?_⟩
 match i,hx with
 | 0,hx=>simp at hx;subst hx;exact⟨by simp[go_sem],by simp[go_sem],by simp[go_sem]⟩
 | 1,hx=>simp at hx;subst hx;exact⟨by simp[go_sem],by simp[go_sem],by simp[go_sem]⟩
 | 2,hx=>simp at hx;subst hx;exact⟨by simp[go_sem,Val.num],by simp[go_sem,Val.num],by simp[go_sem,Val.num]⟩
 | i+3,hx=>simp at hx
theorem three_wide{L G:Val}(N:Int)(hL:L.s.size<=1000000)(hG:G.s.size<=1000000):wides [L,G,Val.num N]<=140737488300000:=by
 have e:(Val.num N).s.size=0:=rfl
 simp only[wides,wide,List.map_cons,List.map_nil,List.sum_cons,List.sum_nil,e]
 omega
theorem zone_any(s:ByteArray)(L G:Val)(N:Nat)(h:SpanIs s L G N)(hL:L.s.size<=1000000)(hG:G.s.size<=1000000)(w:World) :
  Calls Tryz.prog 41 #[.string s] w fun e w'=>e=.returned (.string (zoneB L G N))/\Below w.heap.size w w':=by
 have H:=hide h
 clear h
 have HK:Hid (∀W0:World,Calls Tryz.prog 64 #[.slice (some ⟨W0.heap.size+1+1,0,none⟩) 3 3] (((W0.alloc (.cells #[.int .i64 L.k,.int .i64 L.n,.string L.s] 25)).alloc (.cells #[.int .i64 G.k,.int .i64 G.n,.string G.s] 25)).alloc (.cells #[.int .i64 L.k,.int .i64 L.n,.string L.s,.int .i64 G.k,.int .i64 G.n,.string G.s,.int .i64 1,.int .i64 (N:Int),.string ⟨#[]⟩] 25)) fun e w'=>e=.returned (.string (zoneB L G N))/\Below W0.heap.size W0 w'):=fun W0=>by
  have hb:Below W0.heap.size W0 ((W0.alloc (.cells #[.int .i64 L.k,.int .i64 L.n,.string L.s] 25)).alloc (.cells #[.int .i64 G.k,.int .i64 G.n,.string G.s] 25)):=below_alloc (below_alloc (Below.refl _ _) _) _
  have hz:((W0.alloc (.cells #[.int .i64 L.k,.int .i64 L.n,.string L.s] 25)).alloc (.cells #[.int .i64 G.k,.int .i64 G.n,.string G.s] 25)).heap.size=W0.heap.size+1+1:=by simp
  have hr:=three_row ((W0.alloc (.cells #[.int .i64 L.k,.int .i64 L.n,.string L.s] 25)).alloc (.cells #[.int .i64 G.k,.int .i64 G.n,.string G.s] 25)) L G (N:Int)
  rw[hz] at hr
  refine(key_any (some ⟨W0.heap.size+1+1,0,none⟩) 3 [L,G,Val.num (N:Int)] _ (by unfold maxLen;simp) (three_wide _ hL hG) hr).mono ?_
  rintro e w' ⟨rfl,hw⟩
  exact⟨rfl,(below_alloc hb _).trans (hw.mono (by simp;omega))⟩
 go_enter Tryz.func41,Tryz.ntmps41
 go_wp2_with (first | (go_at_call 63;refine(unhide H _).mono ?_;rintro _ w1 ⟨rfl,hb1⟩;rw[L.open_,G.open_]) | (go_at_call 64;refine(unhide HK w1).mono ?_;rintro _ w2 ⟨rfl,hb2⟩))
 go_ret
 exact⟨rfl,hb1.trans (hb2.mono hb1.size)⟩
end Go.Proofs.YtbfibfmnemnbbaaGreat
set_option linter.unusedSimpArgs false
set_option linter.unusedVariables false
set_option maxRecDepth 100000
namespace Go.Proofs.YtbfibfmnemnbbaaGreat
open Go.RowKit Go.Sort
structure HB(w0 w:World)(hv bv:Value)(hs bs:List Int):Prop where
 h:OwnB w w0.heap.size hv hs
 b:OwnB w w0.heap.size bv bs
 ne:∀g,bv.ownBlock=some g->hv.ownBlock≠some g
 bel:Below w0.heap.size w0 w
theorem HB.later{w0 w w':World}{hv bv:Value}{hs bs:List Int}(h:HB w0 w hv bv hs bs)(hb:Below w.heap.size w w'):HB w0 w' hv bv hs bs:=
 ⟨h.h.grew (Grew.of_below hb (.slice none 0 0)) (fun g _ e=>by cases e),h.b.grew (Grew.of_below hb (.slice none 0 0)) (fun g _ e=>by cases e),h.ne,h.bel.trans (hb.mono h.bel.size)⟩
theorem HB.head{w0 w w':World}{hv bv hv':Value}{hs bs hs':List Int}(h:HB w0 w hv bv hs bs)(ho:OwnB w' w0.heap.size hv' hs')(hg:Grew w w' hv hv'):HB w0 w' hv' bv hs' bs:=by
 refine⟨ho,h.b.grew hg h.ne,fun g hb e=>?_,h.bel.trans (hg.below h.bel.size (fun g hh=>(ownB_lt h.h hh).1))⟩
 rcases hg.2 with e' | ⟨g',e',hl⟩
 ·exact h.ne g hb (e' ▸ e)
 ·rw[e'] at e;cases e
  have:=(ownB_lt h.b hb).2
  omega
theorem HB.body{w0 w w':World}{hv bv bv':Value}{hs bs bs':List Int}(h:HB w0 w hv bv hs bs)(ho:OwnB w' w0.heap.size bv' bs')(hg:Grew w w' bv bv'):HB w0 w' hv bv' hs bs':=by
 refine⟨h.h.grew hg (fun g hh e=>h.ne g e hh),ho,fun g hb e=>?_,h.bel.trans (hg.below h.bel.size (fun g hh=>(ownB_lt h.b hh).1))⟩
 rcases hg.2 with e' | ⟨g',e',hl⟩
 ·exact h.ne g (e' ▸ hb) e
 ·rw[e'] at hb;cases hb
  have:=(ownB_lt h.h e).2
  omega
theorem wpList_append_txt{w:World}{ops:Array Oper}{rest:List Oper}{o:Oper}{a:Act}{Q:Exit->Act->World->Prop}(hgd:o.guard=none)(sl x:Operand)
  (ho:o.op=.call { callee:=.builtin .append,args:=#[sl,x],argTypes:=#[82,9] }) (base:Nat) (v:Value) (zs:List Int) (s:ByteArray) (hs:a.eval sl=v) (hx:a.eval x=.string s)
  (hown:OwnB w base v zs) (hlen:zs.length+s.size<=140737488355328) (hbase:base<=w.heap.size)
  (h:∀v' w',OwnB w' base v' (zs++txt s)->Grew w w' v v'->wpList Tryz.prog ops Q rest (a.put o.dst v') w'):wpList Tryz.prog ops Q (o::rest) a w:=by
 obtain⟨i0,hi,hz0,hz1,hz2⟩:=info_parts Tryz.info5
 refine wpList_plain hgd fun K hK=>wp_append_str sl x ho base i0 hi hz0 hz1 hz2 v _ _ hs hown s hx hlen hbase fun v' w' h1 h2 hat=>hK _ _ (h v' w' ?_ ⟨h2,?_⟩)
 ·rw[<-txt_cells] at h1
  exact ownB_app (txt_len s) h1
 ·rcases hat with e|e
  ·exact .inl e
  ·exact .inr ⟨_,e,Nat.le_refl _⟩
def hd1(p:ByteArray×ByteArray):List Int:=beL (p.1.size:Nat) 2 2++(txt p.1++beL (p.2.size:Nat) 4 4)
def hdL(ps:List (ByteArray×ByteArray)):List Int:=ps.flatMap hd1
def bdL(ps:List (ByteArray×ByteArray)):List Int:=ps.flatMap fun p=>txt p.2
def frontL(n rows:Nat):List Int:=[83,49]++(beL (n:Int) 1 1++beL (rows:Int) 4 4)
def segB(n rows:Nat)(ps:List (ByteArray×ByteArray)):ByteArray:=sealB (toB ((frontL n rows++hdL ps)++bdL ps))
theorem hdL_snoc(ps:List (ByteArray×ByteArray))(p:ByteArray×ByteArray):hdL (ps++[p])=hdL ps++hd1 p:=by simp[hdL]
theorem bdL_snoc(ps:List (ByteArray×ByteArray))(p:ByteArray×ByteArray):bdL (ps++[p])=bdL ps++txt p.2:=by simp[bdL]
theorem hdL_len{ps:List (ByteArray×ByteArray)}(h:∀p∈ps,p.1.size<=10000):(hdL ps).length<=ps.length*10010:=by
 induction ps with
 | nil=>simp[hdL]
 | cons p ps ih=>
  have h1:=h p (by simp)
  have h2:=ih (fun q hq=>h q (by simp[hq]))
  simp only[hdL,List.flatMap_cons,List.length_append,hd1,beL_len,txt_len,List.length_cons] at h2 ⊢
  omega
theorem bdL_len{ps:List (ByteArray×ByteArray)}(h:∀p∈ps,p.2.size<=100000000):(bdL ps).length<=ps.length*100000000:=by
 induction ps with
 | nil=>simp[bdL]
 | cons p ps ih=>
  have h1:=h p (by simp)
  have h2:=ih (fun q hq=>h q (by simp[hq]))
  simp only[bdL,List.flatMap_cons,List.length_append,txt_len,List.length_cons] at h2 ⊢
  omega
structure Ps(K:Vc->ByteArray->Prop)(zf:Vc->ByteArray)(Cs:List (Vc×Sl))(ps:List (ByteArray×ByteArray)):Prop where
 len:ps.length=Cs.length
 at_:∀(i:Nat) (c:Vc×Sl) (p:ByteArray×ByteArray),Cs[i]?=some c->ps[i]?=some p->p.1=zf c.1/\K c.1 p.2
 z:∀p∈ps,p.1.size<=10000
 s:∀p∈ps,p.2.size<=100000000
theorem Ps.nil(K:Vc->ByteArray->Prop)(zf:Vc->ByteArray):Ps K zf [] []:=⟨rfl,fun i c p h=>by simp at h,fun p h=>by simp at h,fun p h=>by simp at h⟩
theorem Ps.snoc{K:Vc->ByteArray->Prop}{zf:Vc->ByteArray}{Cs:List (Vc×Sl)}{ps:List (ByteArray×ByteArray)}{k:Nat}{c:Vc×Sl}{s:ByteArray}(h:Ps K zf (Cs.take k) ps)(hc:Cs[k]?=some c)(hk:K c.1 s)(hz:(zf c.1).size<=10000)(hs:s.size<=100000000) :
  Ps K zf (Cs.take (k+1)) (ps++[(zf c.1,s)]):=by
 obtain⟨hlt,rfl⟩:=List.getElem?_eq_some_iff.1 hc
 have hl:(Cs.take k).length=k:=by simp;omega
 have hpl:ps.length=k:=h.len.trans hl
 rw[List.take_succ_eq_append_getElem hlt]
 refine⟨by simp[h.len];omega,fun i c p h1 h2=>?_,fun p hp=>?_,fun p hp=>?_⟩
 ·by_cases hi:i<k
  ·rw[List.getElem?_append_left (by omega)] at h1
   rw[List.getElem?_append_left (by omega)] at h2
   exact h.at_ i c p h1 h2
  ·have e:i=k:=by
    have:=(List.getElem?_eq_some_iff.1 h1).1
    simp at this
    omega
   subst e
   rw[List.getElem?_append_right (by omega),hl] at h1
   rw[List.getElem?_append_right (by omega),hpl] at h2
   simp at h1 h2
   subst h1 h2
   exact⟨rfl,hk⟩
 ·rcases List.mem_append.1 hp with g|g
  ·exact h.z p g
  ·simp at g;subst g;exact hz
 ·rcases List.mem_append.1 hp with g|g
  ·exact h.s p g
  ·simp at g;subst g;exact hs
end Go.Proofs.YtbfibfmnemnbbaaGreat
