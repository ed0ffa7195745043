import Derived.Test.YtbfibfmnemnbbaaGreatRdB
import Derived.Test.YtbfibfmnemnbbaaGreatPackN
import Derived.Test.YtbfibfmnemnbbaaGreatPackP
set_option linter.unusedSimpArgs false
set_option linter.unusedVariables false
set_option maxHeartbeats 2000000
set_option maxRecDepth 100000
namespace Go.Proofs.YtbfibfmnemnbbaaGreat
open Go.RowKit Go.Sort
def leV:List UInt8->Nat
 | []=>0
 | b::l=>b.toNat+256*leV l
theorem leV_byte:∀(l:List UInt8) (i:Nat) (h:i<l.length),leV l / 256 ^ i % 256=(l[i]).toNat
 | b::l,0,_=>by have:=b.toNat_lt;simp[leV]
 | b::l,i+1,h=>by
  have h2:=b.toNat_lt
  rw[Nat.pow_succ,Nat.mul_comm (256 ^ i) 256,<-Nat.div_div_eq_div_mul,leV]
  rw[show (b.toNat+256*leV l) / 256=leV l by omega]
  simpa using leV_byte l i (by simpa using h)
def At1(w:World)(b t:Nat)(v:Value):Prop:=w.rowIs b t 1 fun _=>v
theorem At1.cell{w:World}{b t:Nat}{v:Value}(h:At1 w b t v):w.cell? ⟨b,0,none⟩=some v:=World.rowIs.cell h (by decide)
theorem At1.set{w:World}{b t:Nat}{v:Value}(h:At1 w b t v)(u:Value):At1 (w.setCell ⟨b,0,none⟩ u) b t u:=
 World.rowIs.congr (World.rowIs.set h 0 u) (fun i hi => by have : i = 0 := by omega
                                                           subst this; simp)
theorem At1.gr{w w':World}{b t k:Nat}{v:Value}(h:At1 w b t v)(hg:Gr w w' k)(hne:b≠k):At1 w' b t v:=
 World.rowIs.of_block h (hg.block b (World.rowIs.lt h) (fun e=>hne (by injection e)))
theorem At1.alloc(w:World)(t:Nat)(v:Value):At1 (w.alloc (.cells #[v] t)) w.heap.size t v:=by
 refine World.rowIs_alloc w #[v] t _ ?_
 intro i hi
 have:i=0:=by simp at hi;omega
 subst this
 rfl
theorem mod_div_pow(x a b:Nat)(h:b<=a):x % 2 ^ a / 2 ^ b=x / 2 ^ b % 2 ^ (a-b):=by
 obtain⟨c,rfl⟩:∃c,a=b+c:=⟨a-b,by omega⟩
 rw[Nat.pow_add,Nat.mod_mul_right_div_self,Nat.add_sub_cancel_left]
theorem piece_is(T P k s q r:Nat)(hQ:P+k=8*q+r)(hr:r+s<=8) :
  T / 256 ^ q % 256 / 2 ^ r % 2 ^ s=T / 2 ^ P / 2 ^ k % 2 ^ s:=by
 have e1:(256:Nat) ^ q=2 ^ (8*q):=by rw[Nat.pow_mul]
 have e2:(256:Nat)=2 ^ 8:=rfl
 rw[e1]
 conv=>lhs;lhs;lhs;rhs;rw[e2]
 rw[mod_div_pow _ _ _ (by omega),Nat.div_div_eq_div_mul,<-Nat.pow_add,Nat.div_div_eq_div_mul,<-Nat.pow_add,hQ]
 rw[Nat.mod_mod_of_dvd]
 exact Nat.pow_dvd_pow 2 (by omega)
theorem piece_next(T P k s q r:Nat)(hQ:P+k=8*q+r)(hr:r+s<=8) :
  T / 2 ^ P % 2 ^ k+(T / 256 ^ q % 256 / 2 ^ r % 2 ^ s)*2 ^ k=T / 2 ^ P % 2 ^ (k+s):=by
 rw[piece_is T P k s q r hQ hr,Nat.pow_add,Nat.mod_mul,Nat.mul_comm (2 ^ k)]
theorem and_u8(a b:Nat)(ha:a<256)(hb:b<256):bits .and .u8 (a:Int) (b:Int)=((a &&& b:Nat):Int):=by
 have hx:a &&& b<2 ^ 8:=Nat.and_lt_two_pow _ (by omega)
 have h1:(BitVec.ofInt 8 (a:Int)).toNat=a:=by
  rw[BitVec.ofInt_natCast,BitVec.toNat_ofNat];exact Nat.mod_eq_of_lt (by omega)
 have h2:(BitVec.ofInt 8 (b:Int)).toNat=b:=by
  rw[BitVec.ofInt_natCast,BitVec.toNat_ofNat];exact Nat.mod_eq_of_lt (by omega)
 show IntKind.u8.wrap ((BitVec.ofInt 8 (a:Int) &&& BitVec.ofInt 8 (b:Int)).toNat:Int)=_
 rw[BitVec.toNat_and,h1,h2]
 simp[IntKind.wrap,IntKind.signed,IntKind.bits]
 omega
theorem and_piece(Y r s:Nat)(hY:Y<256)(hs:s<=8):bits .and .u8 ((Y:Int) / 2 ^ r) ((2 ^ s-1) % 256)=((Y / 2 ^ r % 2 ^ s:Nat):Int):=by
 have e1:(Y:Int) / 2 ^ r=((Y / 2 ^ r:Nat):Int):=by rw[Int.natCast_ediv,Int.natCast_pow];rfl
 have h2:2 ^ s<=2 ^ 8:=Nat.pow_le_pow_right (by decide) hs
 have h3:=Nat.two_pow_pos s
 have e2:((2:Int) ^ s-1) % 256=((2 ^ s-1:Nat):Int):=by
  have:(2:Int) ^ s=((2 ^ s:Nat):Int):=by rw[Int.natCast_pow];rfl
  rw[this];omega
 have h4:Y / 2 ^ r<=Y:=Nat.div_le_self _ _
 rw[e1,e2,and_u8 _ _ (by omega) (by omega),Nat.and_two_pow_sub_one_eq_mod]
theorem idx_bs(t:List UInt8)(q:Nat)(h:q<t.length)(W:World):(Instr.index 9 (.string (bs t)) (.int .i64 (q:Int))).run Tryz.prog W=.ok (.int .u8 ((leV t / 256 ^ q % 256:Nat):Int)) W:=by
 rw[run_index_string W 9 (bs t) .i64 q Tryz.underlying9]
 rw[dif_pos ⟨by omega,by rw[bs_size];omega⟩,leV_byte t q h]
 rfl
theorem At1.below{w w':World}{b t:Nat}{v:Value}(h:At1 w b t v)(hb:Below w.heap.size w w'):At1 w' b t v:=
 World.rowIs.of_block h (hb.block b (World.rowIs.lt h))
theorem piece_or{T P k s q r Y X Q d:Nat}{Z:Int}(hX:X=T / 2 ^ P % 2 ^ k)(hY:Y=T / 256 ^ q % 256)(hQ:Q=P+k)(hQR:Q=8*q+r)(hr:r+s<=8)(hk:k+s<=d)(hd:d<=64)
  (hZ:bits .and .u8 ((Y:Int) / 2 ^ r) ((2 ^ s-1) % 256)=Z):bits .or .u64 (X:Int) (IntKind.u64.wrap (IntKind.u64.wrap Z*2 ^ k))=((T / 2 ^ P % 2 ^ (k+s):Nat):Int):=by
 have hY2:Y<256:=by rw[hY];exact Nat.mod_lt _ (by decide)
 rw[and_piece Y r s hY2 (by omega)] at hZ
 subst hZ
 have e:=piece_next T P k s q r (by omega) hr
 rw[<-hY,<-hX] at e
 have hlt:T / 2 ^ P % 2 ^ (k+s)<2 ^ 64:=Nat.lt_of_lt_of_le (Nat.mod_lt _ (Nat.two_pow_pos _)) (Nat.pow_le_pow_right (by decide) (by omega))
 have hXl:X<2 ^ k:=by rw[hX];exact Nat.mod_lt _ (Nat.two_pow_pos _)
 generalize hz:Y / 2 ^ r % 2 ^ s=z at *
 have hz2:z<256:=by
  rw[<-hz]
  have h1:Y / 2 ^ r<=Y:=Nat.div_le_self _ _
  have h2:Y / 2 ^ r % 2 ^ s<=Y / 2 ^ r:=Nat.mod_le _ _
  omega
 have h64:(2:Nat) ^ 64=18446744073709551616:=by decide
 have e1:IntKind.u64.wrap (z:Int)=(z:Int):=by rw[IntKind.wrap_u64];omega
 have e2:(z:Int)*2 ^ k=((z*2 ^ k:Nat):Int):=by rw[Int.natCast_mul,Int.natCast_pow];rfl
 have e3:IntKind.u64.wrap ((z:Int)*2 ^ k)=((z*2 ^ k:Nat):Int):=by rw[e2,IntKind.wrap_u64];omega
 rw[e1,e3,or_u64 _ _ (by omega) (by omega),or_add2 hXl,e]
theorem bits1_any(A B C P d:Nat)(t:List UInt8)(w:World)(hA:At1 w A 3 (.int .i64 d))(hB:At1 w B 3 (.int .i64 P))(hC:At1 w C 9 (.string (bs t)))(hAB:A≠B)(hCB:C≠B)(hd:d<=64)(hP:P+d<=8*t.length)(hl:t.length<=1000000) :
  Calls Tryz.prog 178 #[.pointer (some ⟨A,0,none⟩),.pointer (some ⟨B,0,none⟩),.pointer (some ⟨C,0,none⟩)] w fun e w'=>
   e=.returned (.int .u64 ((leV t / 2 ^ P % 2 ^ d:Nat):Int))/\At1 w' B 3 (.int .i64 ((P+d:Nat):Int))/\Gr w w' B:=by
 have HAA:=hide hA
 have HCC:=hide hC
 have HBB:=hide hB
 have hs:=bs_size t
 clear hA hB hC
 go_enter Tryz.func178,Tryz.ntmps178
 go_wp2_with fail
 go_loopw[4,5] (fun x i wr=>∃k:Nat,k<=d/\i=.int .i64 (k:Int)/\x=.int .u64 ((leV t / 2 ^ P % 2 ^ k:Nat):Int)/\At1 wr B 3 (.int .i64 ((P+k:Nat):Int))/\Gr w wr B) (fun _ i _=>d-(intOf i).toNat)
 case atStart=>exact⟨0,Nat.zero_le _,rfl,by simp[Nat.mod_one],unhide HBB,Gr.refl _ _⟩
 case round=>
  obtain⟨k,hk,rfl,rfl,hb,hg⟩:=hrel
  have cA:=((unhide HAA).gr hg hAB).cell
  have cB:=hb.cell
  have fB:=World.rowIs.frozen hb 0
  have cC:=((unhide HCC).gr hg hCB).cell
  have HG:=hide hg
  have HB:=hide hb
  clear hg hb
  by_cases hlt:k<d
  ·have h9:(k:Int)<(d:Int):=by omega
   obtain⟨Q,hQ⟩:∃Q,Q=P+k:=⟨_,rfl⟩
   obtain⟨X,hX⟩:∃X,X=leV t / 2 ^ P % 2 ^ k:=⟨_,rfl⟩
   obtain⟨q,r,hqr,hr8⟩:∃q r,Q=8*q+r/\r<8:=⟨Q / 8,Q % 8,by omega,by omega⟩
   obtain⟨Y,hY,hix⟩:∃Y:Nat,Y=leV t / 256 ^ q % 256/\∀W,(Instr.index 9 (.string (bs t)) (.int .i64 (q:Int))).run Tryz.prog W=.ok (.int .u8 (Y:Int)) W:=⟨_,rfl,idx_bs t q (by omega)⟩
   have hY2:Y<256:=by rw[hY];exact Nat.mod_lt _ (by decide)
   have HY:=hide hY
   have hqb:(q:Int)<=1000000:=by omega
   have hqw:IntKind.i64.wrap (q:Int)=(q:Int):=by rw[IntKind.wrap_i64];omega
   clear hY
   have e1:(Q:Int) / 8=(q:Int):=by omega
   have e2:(Q:Int) % 8=(r:Int):=by omega
   rw[<-hQ] at cB
   rw[<-hX]
   have HX:=hide hX
   have HQ:=hide hQ
   clear hX hQ hP
   have HQR:=hide hqr
   clear hqr
   obtain⟨s1,hs1⟩:∃s1,s1=8-r:=⟨_,rfl⟩
   obtain⟨s2,hs2⟩:∃s2,s2=d-k:=⟨_,rfl⟩
   have e3:8-(r:Int)=(s1:Int):=by omega
   have e4:(d:Int)-(k:Int)=(s2:Int):=by omega
   have HS1:=hide hs1
   have HS2:=hide hs2
   clear hs1 hs2
   by_cases hm:(s1:Int)<=(s2:Int)
   ·go_wp2_with fail
    go_quiet (fail)
    generalize hZ:bits BinOp.and IntKind.u8 ((Y:Int) / 2 ^ r) ((2 ^ s1-1) % 256)=Z
    replace hZ:=hide hZ
    go_wp2_with fail
    have g1:=unhide HS1
    have g2:=unhide HS2
    have g3:=unhide HQ
    have hbn:Below wr.heap.size wr (wr.drewN nq):=below_drewN (Below.refl _ _) nq
    refine⟨⟨k+s1,by omega,by go_num,congrArg (Value.int .u64) (piece_or (unhide HX) (unhide HY) g3 (unhide HQR) (by omega) (by omega) hd (unhide hZ)),?_,((unhide HG).trans (Gr.of_below hbn B)).trans (Gr.set _ _ _)⟩,by simp[intOf];omega⟩
    have e5:((P+(k+s1):Nat):Int)=(Q:Int)+(s1:Int):=by omega
    rw[e5]
    exact((unhide HB).below hbn).set _
   ·go_wp2_with fail
    go_quiet (fail)
    generalize hZ:bits BinOp.and IntKind.u8 ((Y:Int) / 2 ^ r) ((2 ^ s2-1) % 256)=Z
    replace hZ:=hide hZ
    go_wp2_with fail
    have g1:=unhide HS1
    have g2:=unhide HS2
    have g3:=unhide HQ
    have hbn:Below wr.heap.size wr (wr.drewN nq):=below_drewN (Below.refl _ _) nq
    refine⟨⟨k+s2,by omega,by go_num,congrArg (Value.int .u64) (piece_or (unhide HX) (unhide HY) g3 (unhide HQR) (by omega) (by omega) hd (unhide hZ)),?_,((unhide HG).trans (Gr.of_below hbn B)).trans (Gr.set _ _ _)⟩,by simp[intOf];omega⟩
    have e5:((P+(k+s2):Nat):Int)=(Q:Int)+(s2:Int):=by omega
    rw[e5]
    exact((unhide HB).below hbn).set _
  ·have h9:¬(k:Int)<(d:Int):=by omega
   have ek:k=d:=by omega
   subst ek
   go_wp2
   go_ret
   exact⟨rfl,unhide HB,unhide HG⟩
end Go.Proofs.YtbfibfmnemnbbaaGreat
set_option linter.unusedSimpArgs false
set_option linter.unusedVariables false
set_option maxHeartbeats 2000000
set_option maxRecDepth 100000
namespace Go.Proofs.YtbfibfmnemnbbaaGreat
open Go.RowKit Go.Sort
theorem leV_lt:∀l:List UInt8,leV l<256 ^ l.length
 | []=>by simp[leV]
 | b::l=>by
  have:=leV_lt l
  have h2:=b.toNat_lt
  simp only[leV,List.length_cons,Nat.pow_succ]
  omega
theorem spare(t:List UInt8)(q f:Nat)(hl:t.length=q+1)(hf:f<8):leV t / 256 ^ q % 256 / 2 ^ f=0 ↔ leV t<2 ^ (8*q+f):=by
 have h1:=leV_lt t
 rw[hl,Nat.pow_succ] at h1
 have e1:(256:Nat) ^ q=2 ^ (8*q):=by rw[Nat.pow_mul]
 have h2:leV t / 256 ^ q<256:=Nat.div_lt_of_lt_mul h1
 rw[Nat.mod_eq_of_lt h2,e1,Nat.div_div_eq_div_mul,<-Nat.pow_add,Nat.div_eq_zero_iff]
 have:=Nat.two_pow_pos (8*q+f)
 omega
theorem full(t:List UInt8)(n:Nat)(h:8*t.length=n):leV t<2 ^ n:=by
 have h1:=leV_lt t
 have e1:(256:Nat) ^ t.length=2 ^ (8*t.length):=by rw[Nat.pow_mul]
 rw[e1,h] at h1;exact h1
def bitsD(count d:Nat)(l:List UInt8):Option (List UInt8×List UInt8):=
 (takeD (bytesN count d) l).bind fun p=>if leV p.1<2 ^ (d*count) then some p else none
structure Bits(w:World)(A B C d P:Nat)(t:List UInt8):Prop where
 a:At1 w A 3 (.int .i64 d)
 b:At1 w B 3 (.int .i64 P)
 c:At1 w C 9 (.string (bs t))
 ab:A≠B
 cb:C≠B
theorem At1.new{w:World}{b t:Nat}{v:Value}(h:At1 w b t v)(o:Obj):At1 (w.alloc o) b t v:=World.rowIs.alloc h o
theorem makeFunc_run(fn:Fn)(first cap:Array Value)(w:World):(Instr.makeFunc fn first cap).run Tryz.prog w=.ok (.func fn first cap) w:=rfl
theorem bytes_f0{count d:Nat}{t:List UInt8}(hl:t.length=bytesN count d)(h:count*d % 8=0):leV t<2 ^ (d*count):=
 full t _ (by rw[hl,Nat.mul_comm d count];unfold bytesN;omega)
theorem bytes_f1{count d:Nat}{t:List UInt8}(hl:t.length=bytesN count d)(h:0<count*d % 8):t.length=count*d / 8+1/\(leV t / 256 ^ (count*d / 8) % 256 / 2 ^ (count*d % 8)=0 ↔ leV t<2 ^ (d*count)):=by
 have h1:t.length=count*d / 8+1:=by rw[hl];unfold bytesN;omega
 refine⟨h1,?_⟩
 rw[spare t _ _ h1 (by omega),show 8*(count*d / 8)+count*d % 8=d*count by rw[Nat.mul_comm d count];omega]
theorem tst0(Y f:Nat):((Y:Int) / 2 ^ f == 0)=decide (Y / 2 ^ f=0):=by
 have e1:(Y:Int) / 2 ^ f=((Y / 2 ^ f:Nat):Int):=by rw[Int.natCast_ediv,Int.natCast_pow];rfl
 rw[e1]
 generalize Y / 2 ^ f=z
 rw[Bool.eq_iff_iff]
 simp
def BitsR(w w':World)(e:Ending)(b d:Nat)(t r:List UInt8):Prop:=∃A B C:Nat,e=.returned (.func (.func 178) #[] #[.pointer (some ⟨A,0,none⟩),.pointer (some ⟨B,0,none⟩),.pointer (some ⟨C,0,none⟩)])/\Bits w' A B C d 0 t/\w.heap.size<=A/\w.heap.size<=B/\w.heap.size<=C/\Rd w' b r/\Gr w w' b
theorem bits_end{w w2:World}{b d:Nat}{t r:List UInt8}{o:Obj}(hA:At1 w2 w.heap.size 3 (.int .i64 d))(hr2:Rd w2 b r)(hg2:Gr (w.alloc o) w2 b) :
  BitsR w ((w2.alloc (.cells #[.string (bs t)] 9)).alloc (.cells #[.int .i64 0] 3)) (.returned (.func (.func 178) #[] #[.pointer (some ⟨w.heap.size,0,none⟩),.pointer (some ⟨w2.heap.size+1,0,none⟩),.pointer (some ⟨w2.heap.size,0,none⟩)])) b d t r:=by
 have hs:w.heap.size+1<=w2.heap.size:=by have:=hg2.size;simpa using this
 refine⟨_,_,_,rfl,⟨(hA.new _).new _,?_,(At1.alloc w2 9 _).new _,by omega,by omega⟩,by omega,by omega,by omega,(hr2.alloc _).alloc _,((Gr.alloc _ _ _).trans hg2).trans ((Gr.alloc _ _ _).trans (Gr.alloc _ _ _))⟩
 have:=At1.alloc (w2.alloc (.cells #[.string (bs t)] 9)) 3 (.int .i64 0)
 simpa using this
theorem bits_yes{b count d:Nat}{l t r:List UInt8}{w:World}(hc:count<=4096)(hd:d<=64)(h:Rd w b l)(hl:l.length<=140737488355328)(ht:takeD (bytesN count d) l=some (t,r))(hlt:leV t<2 ^ (d*count)) :
  Calls Tryz.prog 164 #[.pointer (some ⟨b,0,none⟩),.int .i64 count,.int .i64 d] w fun e w'=>BitsR w w' e b d t r:=by
 have HB:=hide (fun W=>bytesfor_any count d W (by omega) hd)
 have HT:=hide (fun W (hW:Rd W b l)=>takeg_yes hW hl ht)
 have htl:t.length=bytesN count d:=by
  obtain⟨h1,rfl,rfl⟩:=takeD_some ht
  rw[List.length_take];omega
 have hmf:=makeFunc_run
 have hne:w.heap.size≠b:=by have:=h.ne;omega
 have HA:=hide (fun w2 (hg2:Gr (w.alloc (.cells #[.int .i64 d] 3)) w2 b)=>(At1.alloc w 3 (.int .i64 d)).gr hg2 hne)
 have HR:=hide h
 have hN:count*d<=4096*64:=Nat.mul_le_mul hc hd
 obtain⟨N,hNe⟩:∃N,N=count*d:=⟨_,rfl⟩
 have e1:(count:Int)*(d:Int)=(N:Int):=by rw[hNe,Int.natCast_mul]
 have hf1:0<N % 8->t.length=N / 8+1/\(leV t / 256 ^ (N / 8) % 256 / 2 ^ (N % 8)=0 ↔ leV t<2 ^ (d*count)):=by
  rw[hNe];exact bytes_f1 htl
 rw[<-hNe] at hN
 have HLT:=hide hlt
 clear h htl hNe ht hne hlt
 by_cases hf:0<N % 8
 ·obtain⟨hf2,hf3⟩:=hf1 hf
  obtain⟨q,f,hq,hf4⟩:∃q f,q=N / 8/\f=N % 8:=⟨_,_,rfl,rfl⟩
  rw[<-hq,<-hf4] at hf3
  have hix:=idx_bs t q (by omega)
  have e2:(N:Int) % 8=(f:Int):=by omega
  have e3:((bs t).size:Int)-1=(q:Int):=by rw[bs_size];omega
  have hs0:((bs t).size:Int)<=1000000:=by rw[bs_size];omega
  obtain⟨Y,hY⟩:∃Y,Y=leV t / 256 ^ q % 256:=⟨_,rfl⟩
  rw[<-hY] at hf3
  simp only[<-hY] at hix
  have hY2:Y<256:=by rw[hY];exact Nat.mod_lt _ (by decide)
  have HZ:Hid (Y / 2 ^ f=0):=hf3.2 (unhide HLT)
  have hfp:(0:Int)<(f:Int):=by omega
  have hf8:f<8:=by omega
  clear hf1 hf2 hf3 hq hf4 hf hY
  go_enter Tryz.func164,Tryz.ntmps164
  go_wp2_with (first
   | (go_at_call 160;refine(unhide HB _).mono ?_;rintro e w1 ⟨rfl,rfl⟩)
   | (go_at_call 163;refine(unhide HT _ ((unhide HR).alloc _)).mono ?_;rintro e w2 ⟨rfl,hr2,hg2⟩;have hA:=unhide HA w2 hg2;have cA:=fun o=>(hA.new o).cell;replace hA:=hide hA;replace hr2:=hide hr2;replace hg2:=hide hg2)
   | (go_at_call 150;refine(ensureT _ (by rw[tst0,unhide HZ];rfl) _).mono ?_;rintro e w3 ⟨rfl,rfl⟩))
  go_ret
  exact bits_end (unhide hA) (unhide hr2) (unhide hg2)
 ·have e2:(N:Int) % 8=0:=by omega
  clear hf1 hf
  go_enter Tryz.func164,Tryz.ntmps164
  go_wp2_with (first
   | (go_at_call 160;refine(unhide HB _).mono ?_;rintro e w1 ⟨rfl,rfl⟩)
   | (go_at_call 163;refine(unhide HT _ ((unhide HR).alloc _)).mono ?_;rintro e w2 ⟨rfl,hr2,hg2⟩;have hA:=unhide HA w2 hg2;have cA:=fun o=>(hA.new o).cell;replace hA:=hide hA;replace hr2:=hide hr2;replace hg2:=hide hg2))
  go_ret
  exact bits_end (unhide hA) (unhide hr2) (unhide hg2)
theorem bits_no1{b count d:Nat}{l:List UInt8}{w:World}(hc:count<=4096)(hd:d<=64)(h:Rd w b l)(hl:l.length<=140737488355328)(ht:takeD (bytesN count d) l=none) :
  Calls Tryz.prog 164 #[.pointer (some ⟨b,0,none⟩),.int .i64 count,.int .i64 d] w fun e w'=>e=dmg/\Gr w w' b:=by
 have HB:=hide (fun W=>bytesfor_any count d W (by omega) hd)
 have HT:=hide (fun W (hW:Rd W b l)=>takeg_no hW hl ht)
 have HR:=hide h
 clear h
 go_enter Tryz.func164,Tryz.ntmps164
 go_wp2_with (first
  | (go_at_call 160;refine(unhide HB _).mono ?_;rintro e w1 ⟨rfl,rfl⟩)
  | (go_at_call 163;refine(unhide HT _ ((unhide HR).alloc _)).mono ?_;rintro e w2 ⟨rfl,rfl⟩))
 exact⟨rfl,rfl,Gr.alloc _ _ _⟩
theorem bits_no2{b count d:Nat}{l t r:List UInt8}{w:World}(hc:count<=4096)(hd:d<=64)(h:Rd w b l)(hl:l.length<=140737488355328)(ht:takeD (bytesN count d) l=some (t,r))(hlt:¬leV t<2 ^ (d*count)) :
  Calls Tryz.prog 164 #[.pointer (some ⟨b,0,none⟩),.int .i64 count,.int .i64 d] w fun e w'=>e=dmg/\Gr w w' b:=by
 have HB:=hide (fun W=>bytesfor_any count d W (by omega) hd)
 have HT:=hide (fun W (hW:Rd W b l)=>takeg_yes hW hl ht)
 have htl:t.length=bytesN count d:=by
  obtain⟨h1,rfl,rfl⟩:=takeD_some ht
  rw[List.length_take];omega
 have hne:w.heap.size≠b:=by have:=h.ne;omega
 have HA:=hide (fun w2 (hg2:Gr (w.alloc (.cells #[.int .i64 d] 3)) w2 b)=>(At1.alloc w 3 (.int .i64 d)).gr hg2 hne)
 have HR:=hide h
 have hN:count*d<=4096*64:=Nat.mul_le_mul hc hd
 obtain⟨N,hNe⟩:∃N,N=count*d:=⟨_,rfl⟩
 have e1:(count:Int)*(d:Int)=(N:Int):=by rw[hNe,Int.natCast_mul]
 have hf:0<N % 8:=by
  rcases Nat.eq_zero_or_pos (N % 8) with h0|h0
  ·exact absurd (bytes_f0 htl (by rw[<-hNe];exact h0)) hlt
  ·exact h0
 have hf1:t.length=N / 8+1/\(leV t / 256 ^ (N / 8) % 256 / 2 ^ (N % 8)=0 ↔ leV t<2 ^ (d*count)):=by
  rw[hNe] at hf ⊢;exact bytes_f1 htl hf
 rw[<-hNe] at hN
 have HLT:=hide hlt
 clear h htl hNe ht hne hlt
 obtain⟨hf2,hf3⟩:=hf1
 obtain⟨q,f,hq,hf4⟩:∃q f,q=N / 8/\f=N % 8:=⟨_,_,rfl,rfl⟩
 rw[<-hq,<-hf4] at hf3
 have hix:=idx_bs t q (by omega)
 have e2:(N:Int) % 8=(f:Int):=by omega
 have e3:((bs t).size:Int)-1=(q:Int):=by rw[bs_size];omega
 have hs0:((bs t).size:Int)<=1000000:=by rw[bs_size];omega
 obtain⟨Y,hY⟩:∃Y,Y=leV t / 256 ^ q % 256:=⟨_,rfl⟩
 rw[<-hY] at hf3
 simp only[<-hY] at hix
 have hY2:Y<256:=by rw[hY];exact Nat.mod_lt _ (by decide)
 have HZ:Hid (¬Y / 2 ^ f=0):=fun h=>unhide HLT (hf3.1 h)
 have hfp:(0:Int)<(f:Int):=by omega
 have hf8:f<8:=by omega
 clear hf2 hf3 hq hf4 hf hY
 go_enter Tryz.func164,Tryz.ntmps164
 go_wp2_with (first
  | (go_at_call 160;refine(unhide HB _).mono ?_;rintro e w1 ⟨rfl,rfl⟩)
  | (go_at_call 163;refine(unhide HT _ ((unhide HR).alloc _)).mono ?_;rintro e w2 ⟨rfl,hr2,hg2⟩;have hA:=unhide HA w2 hg2;have cA:=fun o=>(hA.new o).cell;replace hA:=hide hA;replace hr2:=hide hr2;replace hg2:=hide hg2)
  | (go_at_call 150;refine(ensureF _ (by rw[tst0];exact decide_eq_false (unhide HZ)) _).mono ?_;rintro e w3 ⟨rfl,rfl⟩))
 exact⟨rfl,rfl,((Gr.alloc _ _ _).trans (unhide hg2)).trans (Gr.alloc _ _ _)⟩
theorem bitsd_yes{b count d:Nat}{l t r:List UInt8}{w:World}(hc:count<=4096)(hd:d<=64)(h:Rd w b l)(hl:l.length<=140737488355328)(hb:bitsD count d l=some (t,r)) :
  Calls Tryz.prog 164 #[.pointer (some ⟨b,0,none⟩),.int .i64 count,.int .i64 d] w fun e w'=>BitsR w w' e b d t r:=by
 unfold bitsD at hb
 cases ht:takeD (bytesN count d) l with
 | none=>rw[ht] at hb;cases hb
 | some p=>
  rw[ht,Option.bind_some] at hb
  split at hb
  ·injection hb with hb;subst hb
   exact bits_yes hc hd h hl ht (by assumption)
  ·cases hb
theorem bitsd_no{b count d:Nat}{l:List UInt8}{w:World}(hc:count<=4096)(hd:d<=64)(h:Rd w b l)(hl:l.length<=140737488355328)(hb:bitsD count d l=none) :
  Calls Tryz.prog 164 #[.pointer (some ⟨b,0,none⟩),.int .i64 count,.int .i64 d] w fun e w'=>e=dmg/\Gr w w' b:=by
 unfold bitsD at hb
 cases ht:takeD (bytesN count d) l with
 | none=>exact bits_no1 hc hd h hl ht
 | some p=>
  rw[ht,Option.bind_some] at hb
  split at hb
  ·cases hb
  ·exact bits_no2 hc hd h hl ht (by assumption)
theorem bitsD_some{count d:Nat}{l t r:List UInt8}(hb:bitsD count d l=some (t,r)):t.length=bytesN count d/\leV t<2 ^ (d*count)/\r.length<=l.length/\l=t++r:=by
 unfold bitsD at hb
 cases ht:takeD (bytesN count d) l with
 | none=>rw[ht] at hb;cases hb
 | some p=>
  rw[ht,Option.bind_some] at hb
  split at hb
  ·injection hb with hb;subst hb
   obtain⟨h1,rfl,rfl⟩:=takeD_some ht
   exact⟨by rw[List.length_take];omega,by assumption,by simp,by simp⟩
  ·cases hb
end Go.Proofs.YtbfibfmnemnbbaaGreat
