import Derived.Test.YtekgpapophibcaaGreatRyW
import Derived.Test.YtekgpapophibcaaGreatRows
import Derived.WalkKit
import Derived.WalkSpells
import Derived.WalkLawsBesides
import Derived.StillTactics
import Derived.Deep.RegionHeld3
import Derived.Lib.QuietBelow
import Derived.BigQuiet
import Derived.RowKit3
import Derived.Deep.DeepCutAuto
import Derived.Deep.DrawnRows
import Derived.Lib.Bytealg
import Derived.Maps.AppendAt
import Derived.Deep.AppendLies
import Derived.Deep.OwnRows
import Derived.Test.YtekgpapophibcaaGreatVecA
import Derived.Deep.WholeRow
import Derived.Test.YtekgpapophibcaaGreatVecP
import Derived.OrdersHeld
import Derived.Lib.AppendStr
import Derived.Laws.AppendOwnNone
import Derived.Lib.ConvBytes
import Derived.Lib.SlBytesConst
import Derived.ArgAppend
set_option linter.unusedSimpArgs false
set_option linter.unusedVariables false
set_option maxHeartbeats 400000
set_option maxRecDepth 100000
namespace Go.Proofs.YtekgpapophibcaaGreat
open Go.RowKit Go.Sort
def zSM(s:ByteArray)(sch:Nat)(kind:Int)(xs:List Val):Prop:=∀W,Calls Tryz.prog 102 #[.string s] W fun e w'=>∃a c,e=.returned (.tuple #[.agg #[.int .i64 (sch:Int),.int .i64 kind,.slice a xs.length c],.int .i64 0])/\zAR w' a xs/\Below W.heap.size W w'
theorem zLj{s:ByteArray}{sch:Nat}{kind:Int}{xs:List Val}(hl:s.size<=140737488355328)(h:zB7 s.data.toList=some (sch,kind,xs)):zSM s sch kind xs:=by
 intro W
 have:=zMv (w:=W) (l:=s.data.toList) (by rw[Array.length_toList];exact hl) h
 rw[zTn] at this
 refine this.mono ?_
 rintro e w' ⟨v,rfl,ho,hb⟩
 obtain⟨a,c,rfl,_,_,hr⟩:=zAC ho
 exact⟨a,c,rfl,hr,hb⟩
theorem zOs{s:ByteArray}{sch:Nat}{kind:Int}{xs:List Val}(h:zSM s sch kind xs)(hl:xs.length<=4096){X:Vc}(hf:zBU kind xs=(X,0))(w:World):Calls Tryz.prog 94 #[.string s] w fun e w'=>∃p,e=.returned (.tuple #[zCC X p,.int .i64 0])/\zAi w' X p/\zBb w.heap.size p/\Below w.heap.size w w':=by
 have H:=zA3 h
 have HF:Hid (∀W a c,zAR W a xs->Calls Tryz.prog 27 #[.int .i64 kind,.slice a xs.length c] W fun e w'=>∃p,e=.returned (.tuple #[zCC X p,.int .i64 0])/\zAi w' X p/\zBb W.heap.size p/\Below W.heap.size W w'):=fun W a c ha=>by
  have:=zRs a c kind xs W (by omega) ha
  rw[hf] at this
  exact this
 clear h hf
 go_enter Tryz.func94,Tryz.ntmps94
 go_wp2_with (first
  | (go_at_call 102;refine(zA0 H _).mono ?_;rintro e w1 ⟨a,c,rfl,Hq,Hb⟩)
  | (go_at_call 27;refine(zA0 HF _ _ _ (Hq.later (zA1 (Below.refl _ _) _))).mono ?_;rintro e w2 ⟨p,rfl,yv,hfr2,Hh⟩;rw[zAM];obtain⟨r0,r1,r2,r3,s0,s1,s2,s3⟩:=zAk (zA5 (World.rowIs.alloc (zA5 (zD6 w (.int .i64 0) (.slice none 0 0) (.slice none 0 0) (.slice none 0 0)) Hb) _) Hh))
  | fail)
 have GH:=zAP Hb
 have Ge:=zA2 (zA1 GH _) Hh
 have Qp:w.heap.size+1<=w1.heap.size:=by have:=Hb.size;simpa using this
 have Zf:zBb (w.heap.size+1) p:=hfr2.less (by simp;omega)
 have hfr4:zBb w.heap.size p:=Zf.less (by omega)
 refine bodyPost_ret (v:=.tuple #[zCC X p,.int .i64 0]) ?_ rfl ⟨p,rfl,?_,hfr4,?_⟩
 ·simp[results,Tryz.results94,go_sem,zCC,r0,r1,r2,r3]
 ·exact⟨(((yv.1.setO Zf.1 _ (by simp) _).setO Zf.1 _ (by simp) _).setO Zf.1 _ (by simp) _).setO Zf.1 _ (by simp) _,(((yv.2.1.setO Zf.2.1 _ (by simp) _).setO Zf.2.1 _ (by simp) _).setO Zf.2.1 _ (by simp) _).setO Zf.2.1 _ (by simp) _,(((yv.2.2.setO Zf.2.2 _ (by simp) _).setO Zf.2.2 _ (by simp) _).setO Zf.2.2 _ (by simp) _).setO Zf.2.2 _ (by simp) _⟩
 ·exact(((Ge.setCell (p:=⟨w.heap.size,0,none⟩) (Nat.le_refl _) _).setCell (p:=⟨w.heap.size,1,none⟩) (Nat.le_refl _) _).setCell (p:=⟨w.heap.size,2,none⟩) (Nat.le_refl _) _).setCell (p:=⟨w.heap.size,3,none⟩) (Nat.le_refl _) _
theorem Tryz.info3':(Tryz.prog.info? 3).map (fun i=>(i.zero,i.size,i.bytes))=some (some (.int .i64 0),1,8):=by kernel_rfl
end Go.Proofs.YtekgpapophibcaaGreat
set_option linter.unusedSimpArgs false
set_option linter.unusedVariables false
namespace Go.Proofs.YtekgpapophibcaaGreat
open Go.RowKit
def stp(c:Nat):Nat:=(c / 2) ^^^ (if c % 2=1 then 3988292384 else 0)
def zG1:Nat->Nat->Nat
 | 0,c=>c
 | n+1,c=>zG1 n (stp c)
theorem zGf:∀(n c:Nat),zG1 (n+1) c=stp (zG1 n c)
 | 0,c=>rfl
 | n+1,c=>by
  show zG1 (n+1) (stp c)=stp (zG1 n (stp c))
  exact zGf n (stp c)
theorem zQa(a b:Nat):(a ^^^ b) / 2=a / 2 ^^^ b / 2:=by
 apply Nat.eq_of_testBit_eq
 intro i
 simp[Nat.testBit_div_two,Nat.testBit_xor]
theorem zSp(a b:Nat):(a ^^^ b) % 2=(a % 2+b % 2) % 2:=by
 have h:∀n:Nat,n % 2=(n.testBit 0).toNat:=fun n=>by rw[Nat.testBit_zero];rcases Nat.mod_two_eq_zero_or_one n with h|h<;>simp[h]
 rw[h (a ^^^ b),h a,h b,Nat.testBit_xor]
 cases a.testBit 0<;>cases b.testBit 0<;>rfl
theorem zSy(a b:Nat):stp (a ^^^ b)=stp a ^^^ stp b:=by
 unfold stp
 rw[zQa,zSp]
 rcases Nat.mod_two_eq_zero_or_one a with h|h<;>rcases Nat.mod_two_eq_zero_or_one b with g|g<;>simp[h,g]
 ·rw[Nat.xor_assoc]
 ·rw[Nat.xor_assoc,Nat.xor_assoc,Nat.xor_comm (b / 2)]
 ·apply Nat.eq_of_testBit_eq
  intro i
  simp only[Nat.testBit_xor]
  cases (a / 2).testBit i<;>cases (b / 2).testBit i<;>cases (3988292384).testBit i<;>rfl
theorem zLW:∀(n a b:Nat),zG1 n (a ^^^ b)=zG1 n a ^^^ zG1 n b
 | 0,_,_=>rfl
 | n+1,a,b=>by
  show zG1 n (stp (a ^^^ b))=zG1 n (stp a) ^^^ zG1 n (stp b)
  rw[zSy,zLW n]
theorem zQr(q:Nat):stp (2*q)=q:=by
 unfold stp
 rw[if_neg (by omega),Nat.xor_zero]
 omega
theorem zOF(q:Nat):zG1 8 (256*q)=q:=by
 show stp (stp (stp (stp (stp (stp (stp (stp (256*q))))))))=q
 rw[show 256*q=2*(2*(2*(2*(2*(2*(2*(2*q))))))) by omega]
 simp only[zQr]
theorem zMY(c:Nat):c=(256*(c / 256)) ^^^ (c % 256):=by
 apply Nat.eq_of_testBit_eq
 intro i
 have h:=Nat.testBit_two_pow_mul_add (c / 256) (i:=8) (b:=c % 256) (Nat.mod_lt _ (by decide)) i
 have h2:(2 ^ 8*(c / 256)).testBit i=(decide (i≥8) && Nat.testBit (c / 256) (i-8)):=Nat.testBit_two_pow_mul
 have e:2 ^ 8*(c / 256)+c % 256=c:=Nat.div_add_mod c 256
 rw[e] at h
 rw[Nat.testBit_xor,show (256:Nat)*(c / 256)=2 ^ 8*(c / 256) from rfl,h2,h]
 by_cases hi:i<8
 ·have h8:¬8<=i:=by omega
  simp[hi,h8]
 ·have h8:i≥8:=by omega
  have hz:(c % 256).testBit i=false:=Nat.testBit_lt_two_pow (Nat.lt_of_lt_of_le (Nat.mod_lt _ (by decide)) (Nat.pow_le_pow_right (by decide) h8:2 ^ 8<=2 ^ i))
  simp[hi,h8,hz]
theorem zQJ(c b:Nat):zG1 8 (c ^^^ b)=(c / 256) ^^^ zG1 8 ((c % 256) ^^^ b):=by
 conv=>lhs;rw[zMY c,Nat.xor_assoc,zLW,zOF]
theorem zOE{c:Nat}(h:c<4294967296):stp c<4294967296:=by
 unfold stp
 exact Nat.xor_lt_two_pow (n:=32) (by omega) (by split<;>decide)
theorem zDY:∀(n:Nat) {c:Nat},c<4294967296->zG1 n c<4294967296
 | 0,_,h=>h
 | n+1,_,h=>zDY n (zOE h)
def zNF:Nat->List UInt8->Nat
 | c,[]=>c
 | c,b::l=>zNF (zG1 8 (c ^^^ b.toNat)) l
theorem zEd:∀(l:List UInt8) {c:Nat},c<4294967296->zNF c l<4294967296
 | [],_,h=>h
 | b::l,_,h=>zEd l (zDY 8 (Nat.xor_lt_two_pow (n:=32) h (Nat.lt_of_lt_of_le b.toNat_lt (by decide))))
theorem zLy:∀(l m:List UInt8) (c:Nat),zNF c (l++m)=zNF (zNF c l) m
 | [],_,_=>rfl
 | b::l,m,c=>zLy l m _
theorem zJy(s:ByteArray)(k:Nat)(h:k<s.size)(c:Nat):zNF c (s.data.toList.take (k+1))=zG1 8 (zNF c (s.data.toList.take k) ^^^ s[k].toNat):=by
 have hk:k<s.data.toList.length:=by simpa using h
 rw[List.take_succ_eq_append_getElem hk,zLy]
 rfl
theorem zSC(x:Nat)(h:x<4294967296):bits .xor .u32 ((x:Int) / 2) (bits .and .u32 (x:Int) 1*3988292384 % 4294967296)=((stp x:Nat):Int):=by
 have h1:bits .and .u32 (x:Int) 1=((x % 2:Nat):Int):=by
  have:=u32_and_nat x 1 h (by decide)
  rw[show ((1:Nat):Int)=1 from rfl] at this
  rw[this,Nat.and_one_is_mod]
 have h2:((x % 2:Nat):Int)*3988292384 % 4294967296=(((if x % 2=1 then 3988292384 else 0:Nat)):Int):=by
  rcases Nat.mod_two_eq_zero_or_one x with e|e<;>simp[e]
 have h3:(x:Int) / 2=((x / 2:Nat):Int):=by omega
 rw[h1,h2,h3,u32_xor_nat _ _ (by omega) (by split<;>decide)]
 rfl
structure Tab(c:Array Value)(k:Nat):Prop where
 size:c.size=256
 one:c.all (·.oneCell')=true
 at_:∀j,j<k->c[j]?=some (.int .u32 ((zG1 8 j:Nat):Int))
theorem Tab.zero:Tab Tryz.zeroCells152 0:=⟨by kernel_rfl,by kernel_rfl,fun j h=>by omega⟩
theorem Tab.set{c:Array Value}{k:Nat}(h:Tab c k)(hk:k<256):Tab (c.setIfInBounds k (.int .u32 ((zG1 8 k:Nat):Int))) (k+1):=by
 have hs:=h.size
 refine⟨by simp[hs],?_,fun j hj=>?_⟩
 ·rw[Array.all_eq_true_iff_forall_mem]
  intro v hv
  rcases Array.mem_or_eq_of_mem_setIfInBounds hv with g|g
  ·exact(Array.all_eq_true_iff_forall_mem.1 h.one) v g
  ·subst g;rfl
 ·by_cases e:j=k
  ·subst e
   rw[Array.getElem?_setIfInBounds_self_of_lt (by omega)]
  ·rw[Array.getElem?_setIfInBounds_ne (by omega)]
   exact h.at_ j (by omega)
section
variable {ops:Array Oper}{rest:List Oper}{o:Oper}{a:Act}{w w':World}{Q:Exit->Act->World->Prop}{P:Program}
theorem zHL(hg:o.guard=none)(t:TypeId)(p:Operand)(hop:o.op=Op.load t p)(ad:Value)(hp:a.eval p=ad)(v:Value)(QL:(Instr.loadAt t ad).run P w=.ok v w)
  (hK:wpList P ops Q rest (a.put o.dst v) w):wpList P ops Q (o::rest) a w:=by
 refine wpList_plain hg fun K hK'=>?_
 unfold Oper.wp
 simp only[execOp,hop,hp,Sem.run_bind,QL,Result.andThen]
 exact hK' _ _ hK
theorem zGX(hg:o.guard=none)(t:TypeId)(p q:Operand)(hop:o.op=Op.store t p q)(ad v:Value)(hp:a.eval p=ad)(hq:a.eval q=v)(QL:(Instr.storeAt t ad v).run P w=.ok () w')
  (hK:wpList P ops Q rest (a.put o.dst (.tuple #[])) w'):wpList P ops Q (o::rest) a w:=by
 refine wpList_plain hg fun K hK'=>?_
 unfold Oper.wp
 simp only[execOp,hop,hp,hq,Sem.run_bind,QL,Result.andThen]
 exact hK' _ _ hK
end
theorem zGB{w0 w:World}{n:Nat}(h:Below n w0 w)(c:Array Value):Below n w0 (w.setRow n c):=
 h.trans ⟨rfl,rfl,rfl,by simp[World.setRow],fun k hk=>by
  simp only[World.setRow,Array.getElem?_modify]
  rw[if_neg (by omega)]⟩
theorem zOS{w:World}{g t:Nat}{c0:Array Value}(h:w.heap[g]?=some (.cells c0 t (0,0)))(c:Array Value):(w.setRow g c).heap[g]?=some (.cells c t (0,0)):=by
 simp[World.setRow,Array.getElem?_modify,h]
theorem zN7{w:World}{g:Nat}{c:Array Value}(h:w.heap[g]?=some (.cells c 152 (0,0)))(hn:c.size=256) :
  (Instr.loadAt 152 (.pointer (some ⟨g,0,none⟩))).run Tryz.prog w=.ok (.agg c) w:=by
 simp only[Instr.loadAt,Instr.sureAddr,Sem.run_bind,Sem.run_pure,Result.andThen]
 exact run_loadVar_row (P:=Tryz.prog) w g 152 152 c (0,0) _ h Tryz.underlying152 rfl (by rw[hn];kernel_rfl)
theorem zKU{w:World}{g:Nat}{c c0:Array Value}(h:w.heap[g]?=some (.cells c0 152 (0,0)))(h0:c0.size=256)(hn:c.size=256)(h1:c.all (·.oneCell')=true) :
  (Instr.storeAt 152 (.pointer (some ⟨g,0,none⟩)) (.agg c)).run Tryz.prog w=.ok () (w.setRow g c):=by
 simp only[Instr.storeAt,Instr.sureAddr,Sem.run_bind,Sem.run_pure,Result.andThen]
 exact run_storeVar_row (P:=Tryz.prog) w g 152 152 c0 c h (by rw[hn];kernel_rfl) (by omega) h1
theorem zOG(w:World):Calls Tryz.prog 106 #[] w fun e w'=>∃c,e=.returned (.agg c)/\Tab c 256/\Below w.heap.size w w':=by
 go_enter Tryz.func106,Tryz.ntmps106
 go_wp2
 go_loopw[5] (fun s wr=>∃(k:Nat) (c:Array Value),s=.int .i64 (k:Int)/\k<=256/\Hid (Tab c k)/\wr=(w.alloc (.cells Tryz.zeroCells152 152)).alloc (.cells c 152)) (fun s _=>256-(intOf s).toNat)
 case atStart=>exact⟨0,_,rfl,by omega,Tab.zero,rfl⟩
 case round=>
  obtain⟨k,c,rfl,hk,HT,rfl⟩:=hrel
  have QK:=(zA0 HT).size
  by_cases h1:k<256
  ·have i1:(k:Int)<256:=by omega
   go_wp2
   go_loopw[10,3] (fun s c' wr=>∃(i:Nat) (x:Nat),s=.int .i64 (i:Int)/\c'=.int .u32 (x:Int)/\i<=8/\Hid (x=zG1 i k)/\wr=(w.alloc (.cells Tryz.zeroCells152 152)).alloc (.cells c 152)) (fun s _ _=>8-(intOf s).toNat)
   case atStart=>exact⟨0,k,rfl,rfl,by omega,rfl,rfl⟩
   case round=>
    obtain⟨i,x,rfl,rfl,hi,HX,rfl⟩:=hrel
    by_cases h2:i<8
    ·have i2:(i:Int)<8:=by omega
     have hx:x<4294967296:=by rw[zA0 HX];exact zDY i (by omega)
     have HB:=zA3 (zSC x hx)
     have hn:stp x=zG1 (i+1) k:=by rw[zGf,<-zA0 HX]
     have HN:=zA3 hn
     clear hn QK
     go_wp2
     go_roundw
     case rel=>exact⟨i+1,stp x,by go_num,by rw[zA0 HB],by omega,zA0 HN,trivial⟩
     case measure=>first | (simp[intOf];omega) | (simp only[intOf];omega)
    ·have hi8:i=8:=by omega
     have i2:¬(i:Int)<8:=by omega
     subst hi8
     have HT':Tab (c.setIfInBounds k (.int .u32 (x:Int))) (k+1):=by rw[zA0 HX];exact(zA0 HT).set h1
     have qN:=zA3 HT'
     clear HT'
     go_wp2
     refine⟨⟨k+1,_,by go_num,by omega,qN,rfl⟩,?_⟩
     first | (simp[intOf];omega) | (simp only[intOf];omega)
  ·have i1:¬(k:Int)<256:=by omega
   have JU:k=256:=by omega
   subst JU
   have hT:=zA0 HT
   have YK:((w.alloc (.cells Tryz.zeroCells152 152)).alloc (.cells c 152)).heap[w.heap.size+1]?=some (.cells c 152 (0,0)):=by
    have:=heap_alloc_last (w.alloc (.cells Tryz.zeroCells152 152)) (.cells c 152)
    simpa using this
   have DQ:((w.alloc (.cells Tryz.zeroCells152 152)).alloc (.cells c 152)).heap[w.heap.size]?=some (.cells Tryz.zeroCells152 152 (0,0)):=by
    rw[Below.heap_alloc _ _ _ (by simp)]
    exact heap_alloc_last w _
   have hb:Below w.heap.size w ((w.alloc (.cells Tryz.zeroCells152 152)).alloc (.cells c 152)):=((Below.refl _ _).alloc (Nat.le_refl _) _).alloc (by simp) _
   go_upto_region 13 with fail
   refine wp_region_lit ?_
   refine zHL rfl 152 (.tmp 1) rfl (.pointer (some ⟨w.heap.size+1,0,none⟩)) (by simp[Act.eval]) (.agg c) (zN7 YK hT.size) ?_
   refine zGX rfl 152 (.tmp 0) (.tmp 24) rfl (.pointer (some ⟨w.heap.size,0,none⟩)) (.agg c) (by simp[Act.eval,Act.put]) (by simp[Act.eval,Act.put]) (zKU DQ (by kernel_rfl) hT.size hT.one) ?_
   have Hh:=zGB hb c
   have Yd:=zOS DQ c
   obtain⟨W2,Yz⟩:∃W2,((w.alloc (.cells Tryz.zeroCells152 152)).alloc (.cells c 152)).setRow w.heap.size c=W2:=⟨_,rfl⟩
   rw[Yz] at Hh Yd ⊢
   clear YK DQ hb Yz
   refine wpList_nil ?_
   go_wp2
   exact bodyPost_ret (results_cell_row Tryz.results106 _ _ w.heap.size 152 c (0,0) _ (by simp) Yd Tryz.underlying152 rfl (by rw[hT.size];kernel_rfl)) rfl ⟨c,rfl,hT,Hh⟩
theorem zQq(c b:Nat)(hc:c<4294967296)(hb:b<256):bits .xor .u8 ((c:Int) % 256) (b:Int)=(((c % 256) ^^^ b:Nat):Int)/\((c % 256) ^^^ b)<256:=by
 have h:(c:Int) % 256=((c % 256:Nat):Int):=by omega
 rw[h]
 exact⟨u8_xor_nat _ _ (by omega) hb,Nat.xor_lt_two_pow (n:=8) (by omega) hb⟩
theorem zOD(c x:Nat)(hc:c<4294967296)(hx:x<4294967296):bits .xor .u32 ((c:Int) / 256) (x:Int)=((c / 256 ^^^ x:Nat):Int):=by
 have h:(c:Int) / 256=((c / 256:Nat):Int):=by omega
 rw[h]
 exact u32_xor_nat _ _ (by omega) hx
def zIF(s:ByteArray):Nat:=4294967295 ^^^ zNF 4294967295 s.data.toList
theorem zHT(s:ByteArray):zIF s<4294967296:=Nat.xor_lt_two_pow (n:=32) (by decide) (zEd _ (by decide))
theorem zLV{s:ByteArray}{x i:Nat}(hx:x<4294967296)(h:x=zNF 4294967295 (s.data.toList.take i))(hi:i=s.size):bits .xor .u32 IntKind.u32.max (x:Int)=((zIF s:Nat):Int):=by
 have:=u32_xor_nat 4294967295 x (by decide) hx
 rw[show IntKind.u32.max=((4294967295:Nat):Int) from rfl,this,h,hi]
 have e:s.data.toList.take s.size=s.data.toList:=List.take_of_length_le (Nat.le_of_eq (by rw[Array.length_toList];rfl))
 rw[e]
 rfl
theorem zQE(s:ByteArray)(hs:s.size<=281474976710656)(w:World):Calls Tryz.prog 81 #[.string s] w fun e w'=>e=.returned (.int .u32 (zIF s:Nat))/\Below w.heap.size w w':=by
 go_enter Tryz.func81,Tryz.ntmps81
 go_wp2_with (first | (go_at_call 106;refine(zOG _).mono ?_;rintro _ w1 ⟨c,rfl,hT,Hb⟩;have QK:=hT.size;have hSt:=run_storeCells_new (P:=Tryz.prog) w1 152 Tryz.zeroCells152 c (by rw[hT.size];kernel_rfl) (by rw[hT.size];kernel_rfl) hT.one))
 have hc:∀j,j<256->(w1.alloc (.cells c 152)).cell? ⟨w1.heap.size,j,none⟩=some (.int .u32 ((zG1 8 j:Nat):Int)):=fun j hj=>by
  rw[cell_of_row _ _ j c 152 (0,0) (heap_alloc_last w1 _)]
  exact hT.at_ j hj
 have qC:=zA1 Hb (.cells c 152)
 obtain⟨wA,hwA⟩:∃wA,w1.alloc (.cells c 152)=wA:=⟨_,rfl⟩
 rw[hwA] at hc qC ⊢
 have HC:=zA3 hc
 clear hSt hT QK hwA Hb hc
 go_loopw[9,4] (fun k v wr=>∃(i x:Nat),k=.int .i64 (i:Int)/\v=.int .u32 (x:Int)/\i<=s.size/\Hid (x=zNF 4294967295 (s.data.toList.take i))/\wr=wA) (fun k _ _=>s.size-(intOf k).toNat)
 case atStart=>exact⟨0,4294967295,rfl,rfl,by omega,rfl,rfl⟩
 case round=>
  obtain⟨i,x,rfl,rfl,hi,HX,rfl⟩:=hrel
  have hx:x<4294967296:=by rw[zA0 HX];exact zEd _ (by decide)
  by_cases h1:i<s.size
  ·have i1:(i:Int)<(s.size:Int):=by omega
   obtain⟨hA,hB⟩:=zQq x s[i].toNat hx s[i].toNat_lt
   have hC:=zA0 HC _ hB
   have hD:=zOD x (zG1 8 ((x % 256) ^^^ s[i].toNat)) hx (zDY 8 (by omega))
   have hN:(x / 256 ^^^ zG1 8 (x % 256 ^^^ s[i].toNat))=zNF 4294967295 (s.data.toList.take (i+1)):=by
    rw[zJy s i h1,<-zA0 HX];exact(zQJ _ _).symm
   have HN:=zA3 hN
   clear hN
   go_wp2
   refine⟨⟨i+1,_,by go_num,rfl,by omega,zA0 HN,trivial⟩,?_⟩
   first | (simp[intOf];omega) | (simp only[intOf];omega)
  ·have i1:¬(i:Int)<(s.size:Int):=by omega
   have he:=zLV hx (zA0 HX) (by omega)
   go_wp2
   go_ret
   exact⟨rfl,qC⟩
theorem zQO(x:Nat)(h:x<4294967296):bits .and .u32 (x:Int) 1=((x % 2:Nat):Int):=by
 have:=u32_and_nat x 1 h (by decide)
 rw[show ((1:Nat):Int)=1 from rfl] at this
 rw[this,Nat.and_one_is_mod]
theorem zSz(x:Nat)(h:x<4294967296)(ho:x % 2=1):bits .xor .u32 ((x:Int) / 2) 3988292384=((stp x:Nat):Int):=by
 have h3:(x:Int) / 2=((x / 2:Nat):Int):=by omega
 have:=u32_xor_nat (x / 2) 3988292384 (by omega) (by decide)
 rw[h3,show (3988292384:Int)=((3988292384:Nat):Int) from rfl,this]
 simp[stp,ho]
theorem zTz(x:Nat)(ho:x % 2=0):(x:Int) / 2=((stp x:Nat):Int):=by
 simp[stp,ho]
theorem zTZ(s:ByteArray)(hs:s.size<=281474976710656)(w:World):Calls Tryz.prog 38 #[.string s] w fun e w'=>e=.returned (.int .u64 (zIF s:Nat))/\w'=w:=by
 go_enter Tryz.func38,Tryz.ntmps38
 go_wp2
 go_loopw[4,3] (fun k v wr=>∃(i x:Nat),k=.int .i64 (i:Int)/\v=.int .u32 (x:Int)/\i<=s.size/\Hid (x=zNF 4294967295 (s.data.toList.take i))/\wr=w) (fun k _ _=>s.size-(intOf k).toNat)
 case atStart=>exact⟨0,4294967295,rfl,rfl,by omega,rfl,rfl⟩
 case round=>
  obtain⟨i,x,rfl,rfl,hi,HX,rfl⟩:=hrel
  have hx:x<4294967296:=by rw[zA0 HX];exact zEd _ (by decide)
  by_cases h1:i<s.size
  ·have i1:(i:Int)<(s.size:Int):=by omega
   have hb:=s[i].toNat_lt
   have hA:=u32_xor_nat x s[i].toNat hx (by omega)
   have HN:=zA3 (zJy s i h1 4294967295)
   have yt:x ^^^ s[i].toNat<4294967296:=Nat.xor_lt_two_pow (n:=32) hx (by omega)
   obtain⟨y0,hy0⟩:∃y,x ^^^ s[i].toNat=y:=⟨_,rfl⟩
   rw[hy0] at hA yt
   rw[<-zA0 HX,hy0] at HN
   clear hy0
   go_wp2
   go_loopw[5,3] (fun k v wr'=>∃(j y:Nat),k=.int .i64 (j:Int)/\v=.int .u32 (y:Int)/\j<=8/\Hid (y=zG1 j y0)/\wr'=wr) (fun k _ _=>8-(intOf k).toNat)
   case atStart=>exact⟨0,y0,rfl,by simp,by omega,rfl,rfl⟩
   case round=>
    obtain⟨j,y,rfl,rfl,hj,HY,rfl⟩:=hrel
    have hy:y<4294967296:=by rw[zA0 HY];exact zDY j yt
    by_cases h2:j<8
    ·have i2:(j:Int)<8:=by omega
     have hE:=zQO y hy
     have HS:Hid (stp y=zG1 (j+1) y0):=by show _=_;rw[zGf,<-zA0 HY]
     rcases Nat.mod_two_eq_zero_or_one y with ho|ho
     ·rw[ho] at hE
      have hF:=zTz y ho
      clear ho
      go_wp2
      refine⟨⟨j+1,_,by go_num,rfl,by omega,zA0 HS,trivial⟩,?_⟩
      first | (simp[intOf];omega) | (simp only[intOf];omega)
     ·rw[ho] at hE
      have hF:=zSz y hy ho
      clear ho
      go_wp2
      refine⟨⟨j+1,_,by go_num,rfl,by omega,zA0 HS,trivial⟩,?_⟩
      first | (simp[intOf];omega) | (simp only[intOf];omega)
    ·have hj8:j=8:=by omega
     have i2:¬(j:Int)<8:=by omega
     subst hj8
     have HZ:Hid (y=zNF 4294967295 (s.data.toList.take (i+1))):=by show _=_;rw[zA0 HN];exact zA0 HY
     go_wp2
     refine⟨⟨i+1,_,by go_num,rfl,by omega,zA0 HZ,trivial⟩,?_⟩
     first | (simp[intOf];omega) | (simp only[intOf];omega)
  ·have i1:¬(i:Int)<(s.size:Int):=by omega
   have he:=zLV hx (zA0 HX) (by omega)
   go_wp2
   go_ret
   refine⟨?_,rfl⟩
   show Ending.returned (Value.int .u64 (IntKind.u64.wrap ((zIF s:Nat):Int)))=_
   rw[IntKind.wrap_u64,Int.emod_eq_of_lt (by omega) (by have:=zHT s;omega)]
end Go.Proofs.YtekgpapophibcaaGreat
set_option linter.unusedSimpArgs false
set_option linter.unusedVariables false
set_option maxHeartbeats 1000000
set_option maxRecDepth 100000
namespace Go.Proofs.YtekgpapophibcaaGreat
open Go.RowKit Go.Sort
theorem zLZ(base:Nat)(zs:List Int)(U:Int)(n:Nat)(v:Value)(w:World)(hn:n<=8)(Hd:zBC w base v zs)(Hf:zs.length<=140737488300000)(Hv:base<=w.heap.size) :
  Calls Tryz.prog 56 #[v,.int .u64 U,.int .i64 n] w fun e w'=>∃v',e=.returned v'/\zBC w' base v' (zs++beL U n n)/\zAt w w' v v':=by
 obtain⟨i0,hi,QY,Qp,QC⟩:=info_parts Tryz.info5
 go_enter Tryz.func56,Tryz.ntmps56
 go_wp2_with fail
 go_loopw[0,9] (fun key s wr=>∃k:Nat,k<=n/\s=.int .i64 (k:Int)/\zBC wr base key (zs++beL U n k)/\zAt w wr v key) (fun _ s _=>n-(intOf s).toNat)
 case atStart=>exact⟨0,Nat.zero_le _,rfl,by simpa [beL] using Hd,zAt.refl _ _⟩
 case round=>
  obtain⟨k,hk,rfl,ho,hg⟩:=hrel
  by_cases h8:k<n
  ·have h9:(k:Int)<(n:Int):=by omega
   have hl:(zs++beL U n k).length=zs.length+k:=by rw[zAX,zAK]
   have HL:=zA3 hl
   have es:((n:Int)-1-(k:Int))=((n-1-k:Nat):Int):=by omega
   have h10:(0:Int)<=8*((n:Int)-1-(k:Int)):=by omega
   have h11:(8*((n:Int)-1-(k:Int))).toNat=8*(n-1-k):=by omega
   clear hl
   go_wp2_with (at_builtin;refine wpList_append_own_at _ rfl (.tmp 12) (.tmp 21) 71 rfl base 5 i0 (.int .u8 0) 1 1 Tryz.underlying71 hi QY Qp QC rfl (by decide) _ _ _ rfl (World.ownsRow.alloc ho _) ⟨wr.heap.size,0,none⟩ 1 1 [.int .u8 (beN U n k)] rfl rfl (cell_one_new _ _ _) (by intro u hu;simp at hu;subst hu;rfl) (by rw[zA0 HL];unfold maxLen;omega) (by rw[zA0 HL];omega) (by have:=hg.1.size;simp;omega) ?_;intro v' w1 Yy Hr _ Hm)
   have Hj:=zAt.app hg Hr Hm
   have Qi:=zBS (news:=[beN U n k]) rfl Yy
   rw[List.append_assoc,<-zIu] at Qi
   refine⟨⟨k+1,by omega,by go_num,Qi,Hj⟩,?_⟩
   simp only[intOf]
   omega
  ·have Qk:k=n:=by omega
   have h9:¬(k:Int)<(n:Int):=by omega
   subst Qk
   go_wp2
   go_ret
   exact⟨_,rfl,ho,hg⟩
def zFe(s:ByteArray):ByteArray:=s++toB (beL (zIF s:Nat) 4 4)
theorem zHW(s:ByteArray)(hs:s.size<=140737488300000)(w:World):Calls Tryz.prog 60 #[.string s] w fun e w'=>e=.returned (.string (zFe s))/\Below w.heap.size w w':=by
 have hw:IntKind.u64.wrap ((zIF s:Nat):Int)=((zIF s:Nat):Int):=by rw[IntKind.wrap_u64,Int.emod_eq_of_lt (by omega) (by have:=zHT s;omega)]
 have HK:Hid (∀W,Below w.heap.size w W->Calls Tryz.prog 56 #[.slice none 0 0,.int .u64 ((zIF s:Nat):Int),.int .i64 4] W fun e w'=>∃v',e=.returned v'/\Hid ((convert 71 9 v').run Tryz.prog w'=.ok (.string (toB (beL (zIF s:Nat) 4 4))) w')/\Below w.heap.size w w'):=fun W hW=>by
  refine(zLZ W.heap.size [] ((zIF s:Nat):Int) 4 (.slice none 0 0) W (by omega) (World.ownsRow_nil _ _ _ _) (by simp) (Nat.le_refl _)).mono ?_
  rintro e w' ⟨v',rfl,ho,hg⟩
  exact⟨v',rfl,zAe ho,hW.trans ((hg.below (Nat.le_refl _) (fun g hh=>by cases hh)).mono hW.size)⟩
 have hz:¬9223372036854775807<s.size+(toB (beL ((zIF s:Nat):Int) 4 4)).size:=by rw[zAN,zAK];omega
 go_enter Tryz.func60,Tryz.ntmps60
 go_wp2_with (first | (go_at_call 81;refine(zQE s (by omega) _).mono ?_;rintro _ w1 ⟨rfl,Hb⟩) | (go_at_call 56;refine(zA0 HK _ Hb).mono ?_;rintro _ w2 ⟨v',rfl,To,Hh⟩;have hc2':=zA0 To))
 go_ret
 exact⟨rfl,Hh⟩
def zKy(k:Int):Bool:=(k != 1) && (k != 2)
def zH1(x:Val):Bool:=(x.k == 2) && decide (1000<(x.s.size:Int))
def zGR(rs:List (List Val))(i:Nat):List Val:=rs.map fun r=>r.getD i .null
theorem zQ9{rs:List (List Val)}{i k:Nat}{r:List Val}{x:Val}(h:rs[k]?=some r)(hx:r[i]?=some x):(zGR rs i)[k]?=some x:=by simp[zGR,h,hx]
end Go.Proofs.YtekgpapophibcaaGreat
