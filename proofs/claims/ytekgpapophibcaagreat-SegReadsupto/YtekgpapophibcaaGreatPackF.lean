import Derived.Test.YtekgpapophibcaaGreatAnyG
set_option linter.unusedSimpArgs false
set_option linter.unusedVariables false
set_option maxHeartbeats 4000000
set_option maxRecDepth 100000
namespace Go.Proofs.YtekgpapophibcaaGreat
open Go.RowKit Go.Sort
def bl(n:Nat):Nat:=if n=0 then 0 else Nat.log2 n+1
theorem zTp:bl 0=0:=rfl
theorem zSe{n:Nat}(h:0<n):bl n=bl (n / 2)+1:=by
 unfold bl
 rw[if_neg (by omega)]
 by_cases h1:n=1
 ·subst h1;rfl
 ·rw[if_neg (by omega),Nat.log2_def,if_pos (by omega)]
theorem zFy(T:ByteArray)(hs:T.size=256)(h:(List.range 256).all (fun m=>(T.data.toList.getD m 0).toNat == bl m)=true)(n:Nat)(hn:n<T.size):((T[n]).toNat:Int)=bl n:=by
 have h1:=List.all_eq_true.1 h n (List.mem_range.2 (by omega))
 have e:T.data.toList.getD n 0=T[n]:=by
  have hn':n<T.data.toList.length:=by rw[Array.length_toList];exact hn
  rw[List.getD_eq_getElem?_getD,zAf hn']
  rfl
 rw[e] at h1
 simp at h1
 rw[h1]
theorem zDR:∀(s n:Nat),0<n / 2 ^ s->bl n=bl (n / 2 ^ s)+s
 | 0,n,_=>by simp
 | s+1,n,h=>by
  have e:n / 2 ^ (s+1)=n / 2 / 2 ^ s:=by rw[Nat.pow_succ,Nat.mul_comm,Nat.div_div_eq_div_mul]
  have hn:0<n:=by
   refine Nat.pos_of_ne_zero fun h0=>?_
   subst h0
   simp at h
  rw[zSe hn,zDR s (n / 2) (by rw[<-e];exact h),<-e]
  omega
theorem zFf(n:Nat)(w:World)(hn:n<18446744073709551616) :
  Calls Tryz.prog 88 #[.int .u64 n] w fun e w'=>e=.returned (.int .i64 (bl n))/\w'=w:=by
 go_enter Tryz.func88,Tryz.ntmps88
 go_wp2_with fail
 go_loopw[0,3] (fun x s wr=>∃(m j:Nat),x=.int .u64 (m:Int)/\s=.int .i64 (j:Int)/\j<=64/\Hid (bl n=bl m+j)/\Hid (m<=n / 2 ^ j)/\wr=w) (fun x _ _=>(intOf x).toNat)
 case atStart=>exact⟨n,0,rfl,rfl,by omega,by show _=_;omega,by show _<=_;simp,rfl⟩
 case round=>
  obtain⟨m,j,rfl,rfl,hj,HB,HM,rfl⟩:=hrel
  by_cases h0:0<m
  ·have t1:(0:Int)<(m:Int):=by omega
   have hj64:j<64:=by
    refine Nat.lt_of_not_le fun hh=>?_
    have h1:=zA0 HM
    have h2:n / 2 ^ j<=n / 2 ^ 64:=Nat.div_le_div_left (Nat.pow_le_pow_right (by omega) hh) (by decide)
    have h3:n / 2 ^ 64=0:=Nat.div_eq_of_lt (by have:(2:Nat) ^ 64=18446744073709551616:=(by decide);omega)
    omega
   have tj:(j:Int)<64:=by omega
   go_wp2
   go_roundw
   case rel=>
    refine⟨m / 2,j+1,?_,by go_num,by omega,?_,?_,by first|rfl|trivial⟩
    ·first|rfl | (congr 1;omega)|go_num
    ·show _=_
     rw[zA0 HB,zSe h0];omega
    ·show _<=_
     have:=zA0 HM
     rw[Nat.pow_succ,<-Nat.div_div_eq_div_mul]
     omega
   case measure=>simp[intOf];omega
  ·have h1:m=0:=by omega
   have HE:Hid (bl n=j):=by show _=_;rw[zA0 HB,h1,zTp];omega
   subst h1
   go_wp2
   go_ret
   exact⟨by rw[zA0 HE];rfl,rfl⟩
theorem zBg{m:Nat}(h:m<256):bl m<=8:=by
 have:∀k:Fin 256,bl k.val<=8:=by decide +kernel
 exact this ⟨m,h⟩
theorem zDL{k:Int}{a c:Nat}(hk:0<=k/\k<=56)(ha:a<=8)(hc:(c:Int)=k+a):wrap64 (k+wrap64 (a:Int))=c:=by
 unfold wrap64
 omega
theorem zCh{a c:Nat}(ha:a<=8)(hc:(c:Int)=a):wrap64 (wrap64 (a:Int))=c:=by
 unfold wrap64
 omega
theorem zGz(n:Nat)(w:World)(hn:n<18446744073709551616) :
  Calls Tryz.prog 148 #[.int .u64 n] w fun e w'=>e=.returned (.int .i64 (bl n))/\w'=w:=by
 have QW:Hid (bl n=bl n+0):=rfl
 by_cases h0:(4294967296:Int)<=(n:Int)
 ·obtain⟨m0,e0⟩:∃m0:Nat,(n:Int) / 4294967296=(m0:Int):=⟨n / 4294967296,by simp⟩
  have Zg:bl n=bl m0+32:=by
   have h1:m0=n / 2 ^ 32:=by have:(2:Nat) ^ 32=4294967296:=(by decide);rw[this];omega
   rw[h1];exact zDR 32 n (by rw[<-h1];omega)
  replace QW:Hid (bl n=bl m0+32):=by show _=_;have:=zA0 QW;omega
  clear Zg
  have t0:(m0:Int)<4294967296:=by omega
  by_cases h1:(65536:Int)<=(m0:Int)
  ·obtain⟨m1,e1⟩:∃m1:Nat,(m0:Int) / 65536=(m1:Int):=⟨m0 / 65536,by simp⟩
   have Hb:bl m0=bl m1+16:=by
    have h1:m1=m0 / 2 ^ 16:=by have:(2:Nat) ^ 16=65536:=(by decide);rw[this];omega
    rw[h1];exact zDR 16 m0 (by rw[<-h1];omega)
   replace QW:Hid (bl n=bl m1+48):=by show _=_;have:=zA0 QW;omega
   clear Hb
   have t1:(m1:Int)<65536:=by omega
   by_cases h2:(256:Int)<=(m1:Int)
   ·obtain⟨m2,e2⟩:∃m2:Nat,(m1:Int) / 256=(m2:Int):=⟨m1 / 256,by simp⟩
    have Hh:bl m1=bl m2+8:=by
     have h1:m2=m1 / 2 ^ 8:=by have:(2:Nat) ^ 8=256:=(by decide);rw[this];omega
     rw[h1];exact zDR 8 m1 (by rw[<-h1];omega)
    replace QW:Hid (bl n=bl m2+56):=by show _=_;have:=zA0 QW;omega
    clear Hh
    have t2:(m2:Int)<256:=by omega
    go_enter Tryz.func148,Tryz.ntmps148
    go_wp2
    go_ret
    refine⟨?_,rfl⟩
    show Ending.returned (Value.int IntKind.i64 _)=_
    rw[zFy _ (by decide +kernel) (by decide +kernel) m2]
    first|rw[zDL (c:=bl n) (by omega) (zBg (by omega)) (by have:=zA0 QW;omega)] | rw[zCh (c:=bl n) (zBg (by omega)) (by have:=zA0 QW;omega)]
   ·go_enter Tryz.func148,Tryz.ntmps148
    go_wp2
    go_ret
    refine⟨?_,rfl⟩
    show Ending.returned (Value.int IntKind.i64 _)=_
    rw[zFy _ (by decide +kernel) (by decide +kernel) m1]
    first|rw[zDL (c:=bl n) (by omega) (zBg (by omega)) (by have:=zA0 QW;omega)] | rw[zCh (c:=bl n) (zBg (by omega)) (by have:=zA0 QW;omega)]
  ·by_cases h2:(256:Int)<=(m0:Int)
   ·obtain⟨m2,e2⟩:∃m2:Nat,(m0:Int) / 256=(m2:Int):=⟨m0 / 256,by simp⟩
    have Hh:bl m0=bl m2+8:=by
     have h1:m2=m0 / 2 ^ 8:=by have:(2:Nat) ^ 8=256:=(by decide);rw[this];omega
     rw[h1];exact zDR 8 m0 (by rw[<-h1];omega)
    replace QW:Hid (bl n=bl m2+40):=by show _=_;have:=zA0 QW;omega
    clear Hh
    have t2:(m2:Int)<256:=by omega
    go_enter Tryz.func148,Tryz.ntmps148
    go_wp2
    go_ret
    refine⟨?_,rfl⟩
    show Ending.returned (Value.int IntKind.i64 _)=_
    rw[zFy _ (by decide +kernel) (by decide +kernel) m2]
    first|rw[zDL (c:=bl n) (by omega) (zBg (by omega)) (by have:=zA0 QW;omega)] | rw[zCh (c:=bl n) (zBg (by omega)) (by have:=zA0 QW;omega)]
   ·go_enter Tryz.func148,Tryz.ntmps148
    go_wp2
    go_ret
    refine⟨?_,rfl⟩
    show Ending.returned (Value.int IntKind.i64 _)=_
    rw[zFy _ (by decide +kernel) (by decide +kernel) m0]
    first|rw[zDL (c:=bl n) (by omega) (zBg (by omega)) (by have:=zA0 QW;omega)] | rw[zCh (c:=bl n) (zBg (by omega)) (by have:=zA0 QW;omega)]
 ·by_cases h1:(65536:Int)<=(n:Int)
  ·obtain⟨m1,e1⟩:∃m1:Nat,(n:Int) / 65536=(m1:Int):=⟨n / 65536,by simp⟩
   have Hb:bl n=bl m1+16:=by
    have h1:m1=n / 2 ^ 16:=by have:(2:Nat) ^ 16=65536:=(by decide);rw[this];omega
    rw[h1];exact zDR 16 n (by rw[<-h1];omega)
   replace QW:Hid (bl n=bl m1+16):=by show _=_;have:=zA0 QW;omega
   clear Hb
   have t1:(m1:Int)<65536:=by omega
   by_cases h2:(256:Int)<=(m1:Int)
   ·obtain⟨m2,e2⟩:∃m2:Nat,(m1:Int) / 256=(m2:Int):=⟨m1 / 256,by simp⟩
    have Hh:bl m1=bl m2+8:=by
     have h1:m2=m1 / 2 ^ 8:=by have:(2:Nat) ^ 8=256:=(by decide);rw[this];omega
     rw[h1];exact zDR 8 m1 (by rw[<-h1];omega)
    replace QW:Hid (bl n=bl m2+24):=by show _=_;have:=zA0 QW;omega
    clear Hh
    have t2:(m2:Int)<256:=by omega
    go_enter Tryz.func148,Tryz.ntmps148
    go_wp2
    go_ret
    refine⟨?_,rfl⟩
    show Ending.returned (Value.int IntKind.i64 _)=_
    rw[zFy _ (by decide +kernel) (by decide +kernel) m2]
    first|rw[zDL (c:=bl n) (by omega) (zBg (by omega)) (by have:=zA0 QW;omega)] | rw[zCh (c:=bl n) (zBg (by omega)) (by have:=zA0 QW;omega)]
   ·go_enter Tryz.func148,Tryz.ntmps148
    go_wp2
    go_ret
    refine⟨?_,rfl⟩
    show Ending.returned (Value.int IntKind.i64 _)=_
    rw[zFy _ (by decide +kernel) (by decide +kernel) m1]
    first|rw[zDL (c:=bl n) (by omega) (zBg (by omega)) (by have:=zA0 QW;omega)] | rw[zCh (c:=bl n) (zBg (by omega)) (by have:=zA0 QW;omega)]
  ·by_cases h2:(256:Int)<=(n:Int)
   ·obtain⟨m2,e2⟩:∃m2:Nat,(n:Int) / 256=(m2:Int):=⟨n / 256,by simp⟩
    have Hh:bl n=bl m2+8:=by
     have h1:m2=n / 2 ^ 8:=by have:(2:Nat) ^ 8=256:=(by decide);rw[this];omega
     rw[h1];exact zDR 8 n (by rw[<-h1];omega)
    replace QW:Hid (bl n=bl m2+8):=by show _=_;have:=zA0 QW;omega
    clear Hh
    have t2:(m2:Int)<256:=by omega
    go_enter Tryz.func148,Tryz.ntmps148
    go_wp2
    go_ret
    refine⟨?_,rfl⟩
    show Ending.returned (Value.int IntKind.i64 _)=_
    rw[zFy _ (by decide +kernel) (by decide +kernel) m2]
    first|rw[zDL (c:=bl n) (by omega) (zBg (by omega)) (by have:=zA0 QW;omega)] | rw[zCh (c:=bl n) (zBg (by omega)) (by have:=zA0 QW;omega)]
   ·go_enter Tryz.func148,Tryz.ntmps148
    go_wp2
    go_ret
    refine⟨?_,rfl⟩
    show Ending.returned (Value.int IntKind.i64 _)=_
    rw[zFy _ (by decide +kernel) (by decide +kernel) n]
    first|rw[zDL (c:=bl n) (by omega) (zBg (by omega)) (by have:=zA0 QW;omega)] | rw[zCh (c:=bl n) (zBg (by omega)) (by have:=zA0 QW;omega)]
theorem zS6(n:Nat)(w:World)(hn:n<18446744073709551616) :
  Calls Tryz.prog 160 #[.int .u64 n] w fun e w'=>e=.returned (.int .i64 (bl n))/\w'=w:=by
 have H:=zA3 (zGz n w hn)
 generalize bl n=r at *
 go_enter Tryz.func160,Tryz.ntmps160
 go_wp2_with (go_at_call 148;refine(zA0 H).mono ?_;rintro e w1 ⟨rfl,rfl⟩)
 go_ret
 exact⟨rfl,rfl⟩
theorem zDh(k:Nat)(w:World)(hk:k<=1000000) :
  Calls Tryz.prog 146 #[.int .i64 k] w fun e w'=>e=.returned (.int .i64 (bl (k-1)))/\w'=w:=by
 cases k with
 | zero=>
  go_enter Tryz.func146,Tryz.ntmps146
  go_wp2
  go_ret
  exact⟨rfl,rfl⟩
 | succ m=>
  have H:=zA3 (zS6 m w (by omega))
  rw[Nat.add_sub_cancel]
  generalize bl m=r at *
  have e1:(((m+1:Nat):Int) == 0)=false:=by simp;omega
  have e2:(((m+1:Nat):Int)-1)=(m:Int):=by omega
  have e3:IntKind.u64.wrap (m:Int)=m:=by simp[IntKind.wrap,IntKind.signed,IntKind.bits];omega
  have e4:(m:Int)<=1000000:=by omega
  generalize ((m+1:Nat):Int)=M at *
  have hM:M<=1000001:=by omega
  have hM0:1<=M:=by omega
  go_enter Tryz.func146,Tryz.ntmps146
  go_wp2_with (go_at_call 160;refine(zA0 H).mono ?_;rintro e w1 ⟨rfl,rfl⟩)
  go_ret
  exact⟨rfl,rfl⟩
def zBG(d:Nat):List Nat->Nat
 | []=>0
 | n::ns=>n % 2 ^ d+2 ^ d*zBG d ns
theorem zFZ(d:Nat)(n:Nat):∀ns:List Nat,zBG d (ns++[n])=zBG d ns+2 ^ (d*ns.length)*(n % 2 ^ d)
 | []=>by simp[zBG]
 | m::ns=>by
  have ih:=zFZ d n ns
  simp only[List.cons_append,zBG,List.length_cons]
  rw[ih,Nat.mul_add,Nat.mul_succ,Nat.pow_add,Nat.add_assoc,Nat.mul_comm (2 ^ (d*ns.length)) (2 ^ d),Nat.mul_assoc]
theorem zGJ(d:Nat):∀ns:List Nat,zBG d ns<2 ^ (d*ns.length)
 | []=>by simp[zBG]
 | n::ns=>by
  have ih:=zGJ d ns
  have h1:n % 2 ^ d<2 ^ d:=Nat.mod_lt _ (Nat.two_pow_pos d)
  simp only[zBG,List.length_cons]
  rw[Nat.mul_succ,Nat.pow_add,Nat.mul_comm (2 ^ (d*ns.length)) (2 ^ d)]
  have h2:2 ^ d*zBG d ns+2 ^ d<=2 ^ d*2 ^ (d*ns.length):=by
   rw[<-Nat.mul_succ];exact Nat.mul_le_mul_left _ ih
  omega
def zCy(T j:Nat):Nat:=T / 256 ^ j % 256
theorem zSS(j:Nat):256 ^ j=2 ^ (8*j):=by rw[Nat.pow_mul]
theorem zM5{T p x:Nat}(hT:T<2 ^ p)(hx:x<2 ^ (8-p % 8))(i:Nat) :
  zCy (T+x*2 ^ p) i=if i=p / 8 then zCy T i+x*2 ^ (p % 8) else zCy T i:=by
 obtain⟨q,r,hp,hr⟩:∃q r,p=8*q+r/\r<8:=⟨p / 8,p % 8,by omega,by omega⟩
 have e1:p / 8=q:=by omega
 have e2:p % 8=r:=by omega
 rw[e2] at hx
 rw[e1,e2]
 clear e1 e2
 have e3:2 ^ p=256 ^ q*2 ^ r:=by rw[hp,Nat.pow_add,zSS]
 rw[e3] at hT ⊢
 have hxr:(x+1)*2 ^ r<=256:=by
  have:2 ^ (8-r)*2 ^ r=256:=by rw[<-Nat.pow_add,show 8-r+r=8 by omega]
  rw[<-this]
  exact Nat.mul_le_mul_right _ hx
 have hq:T / 256 ^ q<2 ^ r:=Nat.div_lt_of_lt_mul hT
 have Js:∀k,0<256 ^ k:=fun k=>Nat.pow_pos (by decide)
 have e4:x*(256 ^ q*2 ^ r)=256 ^ q*(x*2 ^ r):=by rw[Nat.mul_left_comm]
 rw[e4]
 unfold zCy
 by_cases h:i=q
 ·subst h
  rw[if_pos rfl,Nat.add_mul_div_left _ _ (Js _)]
  have h2:2 ^ r<=256:=by
   have:(2:Nat) ^ r<=2 ^ 8:=Nat.pow_le_pow_right (by decide) (by omega)
   simpa using this
  rw[Nat.mod_eq_of_lt (by rw[Nat.add_mul] at hxr;omega),Nat.mod_eq_of_lt (by omega)]
 ·rw[if_neg h]
  by_cases h1:i<q
  ·obtain⟨s,rfl⟩:∃s,q=i+1+s:=⟨q-i-1,by omega⟩
   have e5:256 ^ (i+1+s)*(x*2 ^ r)=256 ^ i*(256*(256 ^ s*(x*2 ^ r))):=by
    rw[Nat.pow_add,Nat.pow_succ]
    simp only[Nat.mul_assoc]
   rw[e5,Nat.add_mul_div_left _ _ (Js _),Nat.add_mul_mod_self_left]
  ·have h3:256 ^ (q+1)<=256 ^ i:=Nat.pow_le_pow_right (by decide) (by omega)
   have h4:T+256 ^ q*(x*2 ^ r)<256 ^ (q+1):=by
    have h5:256 ^ q*((x+1)*2 ^ r)<=256 ^ q*256:=Nat.mul_le_mul_left _ hxr
    rw[Nat.add_mul,Nat.one_mul,Nat.mul_add] at h5
    rw[Nat.pow_succ]
    omega
   rw[Nat.div_eq_of_lt (by omega),Nat.div_eq_of_lt (by omega)]
theorem zM4{T p:Nat}(hT:T<2 ^ p):zCy T (p / 8)<2 ^ (p % 8):=by
 have e3:2 ^ p=256 ^ (p / 8)*2 ^ (p % 8):=by
  rw[zSS,<-Nat.pow_add]
  congr 1
  omega
 rw[e3] at hT
 exact Nat.lt_of_le_of_lt (Nat.mod_le _ _) (Nat.div_lt_of_lt_mul hT)
theorem zU7(a b:Nat)(ha:a<256)(hb:b<256):bits .or .u8 (a:Int) (b:Int)=((a ||| b:Nat):Int):=by
 have hx:a ||| b<2 ^ 8:=Nat.or_lt_two_pow (by omega) (by omega)
 have h1:(BitVec.ofInt 8 (a:Int)).toNat=a:=by
  rw[BitVec.ofInt_natCast,BitVec.toNat_ofNat];exact Nat.mod_eq_of_lt (by omega)
 have h2:(BitVec.ofInt 8 (b:Int)).toNat=b:=by
  rw[BitVec.ofInt_natCast,BitVec.toNat_ofNat];exact Nat.mod_eq_of_lt (by omega)
 show IntKind.u8.wrap ((BitVec.ofInt 8 (a:Int) ||| BitVec.ofInt 8 (b:Int)).toNat:Int)=_
 rw[BitVec.toNat_or,h1,h2]
 simp[IntKind.wrap,IntKind.signed,IntKind.bits]
 omega
theorem zSU{a x r:Nat}(h:a<2 ^ r):a ||| x*2 ^ r=a+x*2 ^ r:=by
 rw[Nat.or_comm,Nat.mul_comm,<-Nat.two_pow_add_eq_or_of_lt h x,Nat.add_comm]
def leB(T m:Nat):List Int:=(List.range m).map fun j=>(zCy T j:Int)
theorem zBw(T m:Nat):(leB T m).length=m:=by simp[leB]
def leF(T:Nat)(j:Nat):Value:=.int .u8 (zCy T j:Int)
theorem zI0(j:Nat):zCy 0 j=0:=by simp[zCy]
theorem Tryz.info73:(Tryz.prog.info? 73).map (fun i=>(i.zero,i.size,i.bytes))=some (some (.int .u64 0),1,8):=by kernel_rfl
theorem zP3{w:World}{g m T:Nat}(h:w.rowIs g 5 m (leF T))(hm:m<=maxLen):zBC w g (.slice (some ⟨g,0,none⟩) m m) (leB T m):=by
 obtain⟨cs,Gp,QK,Qc⟩:=h
 unfold zBC
 rw[zBw]
 refine⟨by simp[leB],.inr ⟨g,m,cs,rfl,Nat.le_refl _,Gp,Nat.le_refl _,hm,by omega,?_⟩⟩
 have hl:cs.toList.length=m:=by rw[Array.length_toList];exact QK
 rw[List.take_of_length_le (by omega)]
 refine List.ext_getElem? fun i=>?_
 by_cases hi:i<m
 ·have:=Qc i hi
  rw[Array.getElem?_toList,this]
  simp[leB,leF,hi]
 ·rw[List.getElem?_eq_none (by omega),List.getElem?_eq_none (by simp[leB];omega)]
theorem zDb(aa:Option Addr)(ca:Nat)(ns:List Nat)(d:Nat)(w:World)(hk:ns.length<=1000000)(hd:d<=64)(hn:∀n∈ns,n<18446744073709551616)(ha:zAp w aa (ns.map fun n:Nat=>Value.int .u64 (n:Int))) :
  Calls Tryz.prog 83 #[.slice aa ns.length ca,.int .i64 d] w fun e w'=>e=.returned (.string (toB (leB (zBG d ns) (zAO ns.length d))))/\Below w.heap.size w w':=by
 obtain⟨i5,hi5,z50,z51,z52⟩:=info_parts Tryz.info5
 have hm:(ns.length:Int)*(d:Int)<=64000000:=by
  have:=Nat.mul_le_mul hk hd
  have e:((ns.length*d:Nat):Int)=(ns.length:Int)*(d:Int):=by simp
  omega
 have hm0:(0:Int)<=(ns.length:Int)*(d:Int):=Int.mul_nonneg (by omega) (by omega)
 have e1:((ns.length:Int)*(d:Int)+7).tdiv 8=(zAO ns.length d:Int):=by
  rw[Int.tdiv_eq_ediv_of_nonneg (by omega)]
  unfold zAO
  simp
 have hN:8*zAO ns.length d<=ns.length*d+7/\ns.length*d<=8*zAO ns.length d:=by unfold zAO;omega
 have hNb:zAO ns.length d<=8000001:=by
  have e:((ns.length*d:Nat):Int)=(ns.length:Int)*(d:Int):=by simp
  omega
 have HA:=zA3 ha
 have HN:=zA3 hN
 have yX:=zA3 hn
 generalize zAO ns.length d=N at *
 have e1':((ns.length:Int)*(d:Int)+7) / 8=(N:Int):=by rw[<-e1,Int.tdiv_eq_ediv_of_nonneg (by omega)]
 clear ha hN hn
 go_enter Tryz.func83,Tryz.ntmps83
 go_wp2_with (first
  | (at_make;refine wpList_make_row _ rfl (.tmp 15) (.tmp 15) 71 rfl 5 i5 (.int .u8 0) Tryz.underlying71 hi5 z50 z51 rfl .i64 .i64 N (by first|rfl | (simp[go_sem,e1,e1'];done)) (by first|rfl | (simp[go_sem,e1,e1'];done)) (by rw[z52];omega) (by omega) ?_)
  | fail)
 go_loopw[19] (fun s wr=>∃i:Nat,i<=ns.length/\s=.int .i64 (i:Int)/\wr.rowIs w.heap.size 5 N (leF (zBG d (ns.take i)))/\Below w.heap.size w wr) (fun s _=>ns.length-(intOf s).toNat)
 case atStart=>exact⟨0,Nat.zero_le _,rfl,(World.rowIs_made w (.int .u8 0) N 5).congr fun j hj=>by simp[leF,zBG,zI0],zA1 (Below.refl _ _) _⟩
 case round=>
  obtain⟨i,hi,rfl,hr,hb⟩:=hrel
  by_cases h1:i<ns.length
  ·have i1:(i:Int)<(ns.length:Int):=by omega
   obtain⟨n,hn⟩:∃n,ns[i]?=some n:=⟨_,zAf h1⟩
   have ZW:=zA0 yX n (List.mem_of_getElem? hn)
   obtain⟨qb,qo,ea,cq⟩:=((zA0 HA).later hb).get (k:=i) (x:=.int .u64 (n:Int)) (by simp[hn])
   subst ea
   have hQ:i*d+d<=ns.length*d:=by rw[<-Nat.succ_mul];exact Nat.mul_le_mul_right d h1
   have HT:Hid (zBG d (ns.take (i+1))=zBG d (ns.take i)+2 ^ (d*i)*(n % 2 ^ d)):=by
    show _=_
    obtain⟨Gl,rfl⟩:=zAL hn
    rw[List.take_succ_eq_append_getElem Gl,zFZ,List.length_take,Nat.min_eq_left (by omega)]
   have Dm:Hid (zBG d (ns.take i)<2 ^ (d*i)):=by
    show _<_
    have:=zGJ d (ns.take i)
    rw[List.length_take,Nat.min_eq_left (by omega)] at this
    exact this
   have HR:=zA3 hr
   have HB:=zA3 hb
   have HQ:=zA3 hQ
   generalize zBG d (ns.take i)=T0 at *
   have hml:ns.length*d<=64000000:=by
    have e:((ns.length*d:Nat):Int)=(ns.length:Int)*(d:Int):=by simp
    omega
   obtain⟨Q,hQe⟩:∃Q,Q=i*d:=⟨_,rfl⟩
   have eq1:(i:Int)*(d:Int)=(Q:Int):=by rw[hQe];simp
   have hQb:Q+d<=64000000:=by omega
   have HQE:=zA3 hQe
   have ZK:=zA3 hml
   clear hr hb hQ hn hQe hml
   go_wp2_with fail
   go_loopw[8] (fun s wv=>∃t:Nat,t<=d/\s=.int .i64 (t:Int)/\wv.rowIs w.heap.size 5 N (leF (T0+n % 2 ^ t*2 ^ (d*i)))/\Below w.heap.size w wv) (fun s _=>d-(intOf s).toNat)
   case atStart=>exact⟨0,Nat.zero_le _,rfl,(zA0 HR).congr fun j hj=>by simp[Nat.mod_one],zA0 HB⟩
   case round=>
    obtain⟨t,ht,rfl,hr,hb⟩:=hrel
    by_cases h2:t<d
    ·have i2:(t:Int)<(d:Int):=by omega
     obtain⟨P,hP⟩:∃P,P=Q+t:=⟨_,rfl⟩
     have eq2:(Q:Int)+(t:Int)=(P:Int):=by omega
     have hPd:P=d*i+t:=by rw[hP,zA0 HQE,Nat.mul_comm]
     have hTt:T0+n % 2 ^ t*2 ^ (d*i)<2 ^ P:=by
      have h3:n % 2 ^ t<2 ^ t:=Nat.mod_lt _ (Nat.two_pow_pos t)
      have h4:=zA0 Dm
      have h5:(n % 2 ^ t+1)*2 ^ (d*i)<=2 ^ t*2 ^ (d*i):=Nat.mul_le_mul_right _ h3
      rw[hPd,Nat.pow_add,Nat.mul_comm (2 ^ (d*i)) (2 ^ t)]
      rw[Nat.add_mul,Nat.one_mul] at h5
      omega
     obtain⟨T,hT⟩:∃T,T=T0+n % 2 ^ t*2 ^ (d*i):=⟨_,rfl⟩
     obtain⟨bt,hbt⟩:∃bt,bt=n / 2 ^ t % 2:=⟨_,rfl⟩
     have hbt1:bt<2:=by omega
     obtain⟨q,hq⟩:∃q,q=P / 8:=⟨_,rfl⟩
     obtain⟨r,hr8⟩:∃r,r=P % 8:=⟨_,rfl⟩
     have eq3:(P:Int).tdiv 8=(q:Int):=by rw[Int.tdiv_eq_ediv_of_nonneg (by omega)];omega
     have eq4:(P:Int).tmod 8=(r:Int):=by rw[Int.tmod_eq_emod_of_nonneg (by omega)];omega
     have hqN:q<N:=by have:=(zA0 HN).2;have:=zA0 HQ;have:=zA0 HQE;omega
     have hqN':(q:Int)<(N:Int):=by omega
     have hr7:(r:Int)<8:=by omega
     rw[<-hT] at hr hTt
     have HNEW:Hid (∀j,leF (T0+n % 2 ^ (t+1)*2 ^ (d*i)) j=if j=q then .int .u8 ((zCy T q+bt*2 ^ r:Nat):Int) else leF T j):=fun j=>by
      have e:T0+n % 2 ^ (t+1)*2 ^ (d*i)=T+bt*2 ^ P:=by
       rw[hT,hPd,Nat.mod_pow_succ,<-hbt,Nat.add_mul,Nat.pow_add,Nat.mul_comm (2 ^ t) bt,Nat.mul_assoc,Nat.mul_comm (2 ^ t) (2 ^ (d*i)),Nat.add_assoc]
      unfold leF
      rw[e,zM5 hTt (Nat.lt_of_lt_of_le hbt1 (by have:2 ^ 1<=2 ^ (8-P % 8):=Nat.pow_le_pow_right (by decide) (by omega);simpa using this)),<-hq,<-hr8]
      by_cases hj:j=q
      ·rw[if_pos hj,if_pos hj,hj]
      ·rw[if_neg hj,if_neg hj]
     have GV:zCy T q<2 ^ r:=by rw[hq,hr8];exact zM4 hTt
     have hsv:zCy T q+bt*2 ^ r<256:=by
      have h6:2 ^ r*2<=256:=by have:2 ^ (r+1)<=2 ^ 8:=Nat.pow_le_pow_right (by decide) (by omega);rw[Nat.pow_succ] at this;simpa using this
      have h7:bt*2 ^ r<=1*2 ^ r:=Nat.mul_le_mul_right _ (by omega)
      omega
     have eqA:bits BinOp.and IntKind.u64 ((n:Int) / 2 ^ t) 1=(bt:Int):=by
      have h8:=bits_and_u64_nat (n / 2 ^ t) 1 (Nat.lt_of_le_of_lt (Nat.div_le_self _ _) ZW) (by decide)
      have h9:((n / 2 ^ t:Nat):Int)=(n:Int) / 2 ^ t:=by simp
      rw[<-h9,show (1:Int)=((1:Nat):Int) from rfl,h8,Nat.and_one_is_mod,hbt]
     have hor:=zU7 (zCy T q) (bt*2 ^ r) (by omega) (by omega)
     rw[zSU GV] at hor
     have c1:=hr.cell hqN
     have f1:=hr.frozen q
     unfold leF at c1
     generalize zCy T q=Bv at *
     generalize hsve:bt*2 ^ r=sv at *
     have GQ:=zA3 hr
     have Qz:=zA3 hb
     have hszv:=hr.lt
     clear hr hb hTt hT hbt hq hr8 hP hPd GV
     have hbt2:(bt:Int)<2:=by omega
     have i3:(t:Int)<64:=by omega
     have eqS:(bt:Int)*2 ^ r % 256=(sv:Int):=by
      have e:((bt*2 ^ r:Nat):Int)=(bt:Int)*2 ^ r:=by simp
      rw[<-e,hsve]
      omega
     have HSV:=zA3 hsve
     clear hsve
     go_upto_region 9 with fail
     go_region
     go_wp2
     go_roundw
     case rel=>
      refine⟨t+1,by omega,by go_num,(((zA0 GQ).set q (.int .u8 ((Bv:Int)+(sv:Int)))).drew).congr fun j hj=>?_,((zA0 Qz).setCell (p:=⟨w.heap.size,q,none⟩) (Nat.le_refl _) _).drew⟩
      rw[zA0 HNEW j,Int.natCast_add]
     case measure=>first | (simp[intOf];done) | (simp only[intOf];omega)
    ·have i2:¬(t:Int)<(d:Int):=by omega
     have ht':t=d:=by omega
     have GQ:Hid (wr.rowIs w.heap.size 5 N (leF (zBG d (ns.take (i+1))))):=by
      show World.rowIs _ _ _ _ _
      rw[zA0 HT,Nat.mul_comm]
      rw[ht'] at hr
      exact hr
     have Qz:=zA3 hb
     clear hr hb ht'
     go_wp2
     go_roundw
     case rel=>exact⟨i+1,by omega,by go_num,zA0 GQ,zA0 Qz⟩
     case measure=>first | (simp[intOf];done) | (simp only[intOf];omega)
  ·have i1:¬(i:Int)<(ns.length:Int):=by omega
   have Gl:i=ns.length:=by omega
   rw[Gl,List.take_length] at hr
   have Qm:=zAe (zP3 hr (by unfold maxLen;omega))
   have HB:=zA3 hb
   clear hb hr Gl
   obtain⟨BB,hBB⟩:∃BB,Hid (BB=leB (zBG d ns) N):=⟨_,rfl⟩
   rw[<-zA0 hBB] at Qm
   go_wp2
   go_ret
   exact⟨by rw[<-zA0 hBB];rfl,zA0 HB⟩
end Go.Proofs.YtekgpapophibcaaGreat
set_option linter.unusedSimpArgs false
set_option linter.unusedVariables false
namespace Go.Proofs.YtekgpapophibcaaGreat
open Go.RowKit Go.Sort Go.Lib
def zHK(n:Nat):ByteArray:=⟨Array.replicate n 0⟩
theorem zCz(n:Nat):(zHK n).size=n:=by simp[zHK,ByteArray.size]
theorem zKG(n:Nat):strCells (zHK n)=List.replicate n (.int .u8 0):=by simp[strCells,zHK]
theorem zGW(n:Nat):((zHK n).data.map fun b=>Value.int .u8 (b.toNat:Int))=Builtin.zeroCells (Value.int .u8 0).cells n:=by
 apply Array.ext
 ·simp[zHK,Builtin.zeroCells,Value.cells]
 ·intro i h1 h2
  simp[zHK,Builtin.zeroCells,Value.cells,Nat.mod_one]
theorem zGV:Builtin.zeroCells (Value.int .u8 0).cells 0=#[]:=by simp[Builtin.zeroCells]
theorem zEV(n:Nat):(Builtin.zeroCells (Value.int .u8 0).cells n).size=n:=by simp[Builtin.zeroCells,Value.cells]
theorem zHG(ty:TypeId)(i:TypeInfo)(hi:Tryz.prog.info? 5=some i)(hz:i.zero=some (.int .u8 0))(Yv:i.size=1)(TV:i.bytes=1)(a:Option Addr)(l c n:Nat)(w:World)(hl:l+n<=140737488355328)(hn:n<=1000000000)(hlc:l<=c) :
  (Builtin.append_ #[71,3] ty #[.slice a l c,.int .i64 n]).run Tryz.prog w=(Builtin.append_ #[71,9] ty #[.slice a l c,.string (zHK n)]).run Tryz.prog w:=by
 have hw:IntKind.i64.wrap (n:Int)=n:=by simp[IntKind.wrap,IntKind.signed,IntKind.bits];omega
 have hf:=run_firstCells_string (P:=Tryz.prog) w 1 (zHK n)
 rw[zCz] at hf
 have wz:IntKind.i64.wrap 0=0:=by decide
 have h1:¬((n:Int)<0):=by omega
 have h2:¬((n:Int)*1 > 2 ^ 48):=by omega
 have h3:¬((281474976710656:Int)<(n:Int)):=by omega
 have h4:¬((9223372036854775807:Int)<(l:Int)+(n:Int)):=by omega
 have Gx:List.take n (Builtin.zeroCells (Value.int .u8 0).cells n).toList=(Builtin.zeroCells (Value.int .u8 0).cells n).toList:=List.take_of_length_le (by rw[Array.length_toList,zEV];exact Nat.le_refl _)
 have hex:(Builtin.zeroCells (Value.int .u8 0).cells n).extract 0 n=Builtin.zeroCells (Value.int .u8 0).cells n:=by
  apply Array.ext'
  simpa using Gx
 by_cases hroom:l+n<=c
 ·by_cases h0:n=0
  ·subst h0
   simp at hroom
   simp[wz,hroom,Builtin.append_,run_underlying Tryz.underlying71,run_underlying Tryz.underlying9,run_underlying Tryz.underlying3,sizeOf,typeInfo,hi,Yv,TV,hz,Builtin.lenOf,zCz,hw,asInt,asIntOf,h1,h2,h3,h4,zeroValue,Builtin.firstCells,zGW,zGV,zEV,IntKind.max,IntKind.signed,IntKind.bits]
  ·simp[hroom,h0,Builtin.append_,run_underlying Tryz.underlying71,run_underlying Tryz.underlying9,run_underlying Tryz.underlying3,sizeOf,typeInfo,hi,Yv,TV,hz,Builtin.lenOf,zCz,hw,asInt,asIntOf,h1,h2,h3,h4,zeroValue,Builtin.firstCells,zGW,zGV,zEV,IntKind.max,IntKind.signed,IntKind.bits,Gx,hex]
 have h5:¬(281474976710656<Builtin.nextslicecap (l+n) c):=by have:=growslice_fits (need:=l+n) (old:=c) (bytes:=1) (by omega) (by omega);omega
 have h0:¬n=0:=by omega
 simp[hroom,h5,h0,Builtin.append_,run_underlying Tryz.underlying71,run_underlying Tryz.underlying9,run_underlying Tryz.underlying3,sizeOf,typeInfo,hi,Yv,TV,hz,Builtin.lenOf,zCz,hw,asInt,asIntOf,h1,h2,h3,h4,zeroValue,Builtin.firstCells,zGW,zGV,zEV,IntKind.max,IntKind.signed,IntKind.bits,Gx,hex]
theorem zEm{ops:Array Oper}{rest:List Oper}{o:Oper}{a:Act}{Q:Exit->Act->World->Prop}(w:World)(Gm:o.guard=none)(s x:Operand)(ho:o.op=.call { callee:=.builtin .append,args:=#[s,x],argTypes:=#[71,3] })
  (base:Nat) (v:Value) (n:Nat) (zs:List Int) (hs:a.eval s=v) (hx:a.eval x=.int .i64 (n:Int)) (Hd:zBC w base v zs) (Hf:zs.length+n<=140737488355328) (hn:n<=1000000000) (Hv:base<=w.heap.size)
  (h:∀v' w',zBC w' base v' (zs++List.replicate n 0)->zAt w w' v v'->wpList Tryz.prog ops Q rest (a.put o.dst v') w'):wpList Tryz.prog ops Q (o::rest) a w:=by
 obtain⟨i0,hi,QY,Qp,QC⟩:=info_parts Tryz.info5
 obtain⟨v',w',hr,h2,h3,h4⟩:=zI1 o.type hi QY Qp QC Hd (zHK n) (by rw[zCz];exact Hf) Hv
 have hv:∃aa cap,v=.slice aa zs.length cap/\zs.length<=cap:=by
  rcases Hd.2 with ⟨rfl,h0⟩|⟨g,cap,cur,rfl,hb,hh,hc,_⟩
  ·exact⟨none,0,by rw[h0],by omega⟩
  ·exact⟨_,_,rfl,hc⟩
 obtain⟨aa,cap,rfl,hlc⟩:=hv
 rw[<-zHG o.type i0 hi QY Qp QC aa zs.length cap n w Hf hn hlc] at hr
 refine wpList_plain Gm fun K hK=>?_
 unfold Oper.wp execOp
 simp only[ho,resolve,invoke,builtin,Sem.run_bind,Sem.run_pure,Result.andThen_ok,List.map_toArray,List.map_cons,List.map_nil,hs,hx,hr]
 refine hK _ _ (h v' w' ?_ ⟨h3,?_⟩)
 ·refine zBS (m:=n) (by simp) ?_
  rw[zCz,zKG] at h2
  simpa using h2
 ·rcases h4 with e|e
  ·exact .inl e
  ·exact .inr ⟨_,e,Nat.le_refl _⟩
end Go.Proofs.YtekgpapophibcaaGreat
set_option linter.unusedSimpArgs false
set_option linter.unusedVariables false
set_option maxHeartbeats 4000000
set_option maxRecDepth 100000
namespace Go.Proofs.YtekgpapophibcaaGreat
open Go.RowKit Go.Sort
theorem zP2{w:World}{base e:Nat}{R n cap i:Nat}{cs:List Value}{u:Value}(h:w.ownsRow base e 1 (.slice (some ⟨R,0,none⟩) n cap) n cs)(hi:i<n):(w.setCell ⟨R,i,none⟩ u).ownsRow base e 1 (.slice (some ⟨R,0,none⟩) n cap) n (cs.set i u):=by
 refine⟨by rw[List.length_set];exact h.1,?_⟩
 rcases h.2 with ⟨e0,_⟩|⟨g,cap',cur,ev,hb,hh,h1,h2,h3,h4⟩
 ·cases e0
 ·cases ev
  refine .inr ⟨R,cap,cur.setIfInBounds i u,rfl,hb,?_,h1,h2,by simpa using h3,?_⟩
  ·simp[World.setCell,Array.getElem?_modify,hh]
  ·rw[<-h4]
   simp[List.take_set]
theorem zBC.store{w:World}{base g cap j:Nat}{zs:List Int}(h:zBC w base (.slice (some ⟨g,0,none⟩) zs.length cap) zs)(hj:j<zs.length)(x:Int):zBC (w.setCell ⟨g,j,none⟩ (.int .u8 x)) base (.slice (some ⟨g,0,none⟩) zs.length cap) (zs.set j x):=by
 have:=zP2 (u:=.int .u8 x) h hj
 unfold zBC
 rw[List.length_set,List.map_set]
 exact this
theorem zBC.at{w:World}{base g cap j:Nat}{zs:List Int}{y:Int}(h:zBC w base (.slice (some ⟨g,0,none⟩) zs.length cap) zs)(hj:zs[j]?=some y):w.cell? ⟨g,j,none⟩=some (.int .u8 y)/\w.frozen? ⟨g,j,none⟩=false:=by
 refine⟨?_,?_⟩
 ·have:=World.ownsRow.cells h (g:=g) rfl j (.int .u8 y) (by simp[hj])
  rw[Addr.add_lit] at this
  simpa using this
 ·rcases h.2 with ⟨e0,_⟩|⟨g',cap',cur,ev,hb,hh,_⟩
  ·cases e0
  ·cases ev
   simp[World.frozen?,hh]
theorem zAt.store{w wr:World}{v:Value}{g n cap j:Nat}(h:zAt w wr v (.slice (some ⟨g,0,none⟩) n cap))(u:Value):zAt w (wr.setCell ⟨g,j,none⟩ u) v (.slice (some ⟨g,0,none⟩) n cap):=by
 refine⟨⟨h.1.os,h.1.tape,h.1.output,by simp;exact h.1.size,fun i hi Hg=>?_⟩,h.2⟩
 rw[Go.Deep.blk_setCell_other]
 ·exact h.1.block i hi Hg
 ·simp
  intro e
  subst e
  rcases h.2 with e|⟨g',e,hg⟩
  ·exact Hg e
  ·simp[Value.ownBlock] at e;omega
theorem zAp.grew{w w':World}{v v':Value}{a:Option Addr}{cs:List Value}(h:zAp w a cs)(hg:zAt w w' v v')(Ym:∀ad,a=some ad->v.ownBlock≠some ad.block):zAp w' a cs:=by
 rcases h with h|⟨b,off,ha,h⟩
 ·exact .inl h
 ·have hs:v.ownBlock≠some b:=Ym _ ha
  exact .inr ⟨b,off,ha,fun i x hx=>by rw[zCG hg (World.block_lt_of_cell? _ _ (h i x hx)) hs];exact h i x hx⟩
theorem zRg(N:Nat):leB 0 N=List.replicate N 0:=by
 refine List.ext_getElem? fun i=>?_
 by_cases hi:i<N
 ·simp[leB,hi,zI0]
 ·rw[List.getElem?_eq_none (by simp[leB];omega),List.getElem?_eq_none (by simp;omega)]
theorem zPe(T N q:Nat)(h:q<N):(leB T N)[q]?=some (zCy T q:Int):=by simp[leB,h]
theorem zTR{T P x N:Nat}(hT:T<2 ^ P)(hx:x<2 ^ (8-P % 8))(zs:List Int):(zs++leB T N).set (zs.length+P / 8) ((zCy T (P / 8)+x*2 ^ (P % 8):Nat):Int)=zs++leB (T+x*2 ^ P) N:=by
 rw[List.set_append_right _ _ (by omega),Nat.add_sub_cancel_left]
 congr 1
 refine List.ext_getElem? fun i=>?_
 rw[List.getElem?_set]
 by_cases hi:i<N
 ·rw[zPe (T+x*2 ^ P) _ _ hi,zPe T _ _ hi,zM5 hT hx]
  by_cases h:P / 8=i
  ·rw[if_pos h,if_pos (by rw[zBw];omega),if_pos h.symm,h]
  ·rw[if_neg h,if_neg (Ne.symm h)]
 ·rw[List.getElem?_eq_none (l:=leB (T+x*2 ^ P) N) (by rw[zBw];omega)]
  by_cases h:P / 8=i
  ·rw[if_pos h,if_neg (by rw[zBw];omega)]
  ·rw[if_neg h,List.getElem?_eq_none (by rw[zBw];omega)]
theorem zUl{T P m L s:Nat}(hm:m<2 ^ L)(hs:s=min (8-P % 8) L)(hT:T<2 ^ P) :
  T+m % 2 ^ (8-P % 8)*2 ^ P<2 ^ (P+s)/\T+m % 2 ^ (8-P % 8)*2 ^ P+m / 2 ^ s*2 ^ (P+s)=T+m*2 ^ P/\m / 2 ^ s<2 ^ (L-s):=by
 have e:m % 2 ^ (8-P % 8)=m % 2 ^ s:=by
  by_cases h:8-P % 8<=L
  ·rw[hs,Nat.min_eq_left h]
  ·rw[hs,Nat.min_eq_right (by omega),Nat.mod_eq_of_lt hm,Nat.mod_eq_of_lt]
   exact Nat.lt_of_lt_of_le hm (Nat.pow_le_pow_right (by decide) (by omega))
 rw[e]
 have h1:m % 2 ^ s<2 ^ s:=Nat.mod_lt _ (Nat.two_pow_pos s)
 refine⟨?_,?_,?_⟩
 ·have h2:(m % 2 ^ s+1)*2 ^ P<=2 ^ s*2 ^ P:=Nat.mul_le_mul_right _ h1
  rw[Nat.pow_add,Nat.mul_comm (2 ^ P) (2 ^ s)]
  rw[Nat.add_mul,Nat.one_mul] at h2
  omega
 ·have h3:=Nat.mod_add_div m (2 ^ s)
  rw[Nat.pow_add,Nat.mul_comm (2 ^ P) (2 ^ s),<-Nat.mul_assoc,Nat.add_assoc,<-Nat.add_mul,Nat.mul_comm (m / 2 ^ s) (2 ^ s),h3]
 ·refine Nat.div_lt_of_lt_mul ?_
  rw[<-Nat.pow_add,show s+(L-s)=L by omega]
  exact hm
theorem zEg(base:Nat)(zs:List Int)(aa:Option Addr)(ca:Nat)(ns:List Nat)(d:Nat)(v:Value)(w:World)(Hd:zBC w base v zs)(Hf:zs.length<=1000000000)(hk:ns.length<=1000000)(hd:d<=64)(hn:∀n∈ns,n<2 ^ d)(Hv:base<=w.heap.size)
  (ha:zAp w aa (ns.map fun n:Nat=>Value.int .u64 (n:Int))) (Ym:∀ad,aa=some ad->v.ownBlock≠some ad.block) :
  Calls Tryz.prog 140 #[v,.slice aa ns.length ca,.int .i64 d] w fun e w'=>∃v',e=.returned v'/\zBC w' base v' (zs++leB (zBG d ns) (zAO ns.length d))/\zAt w w' v v':=by
 have hN:8*zAO ns.length d<=ns.length*d+7/\ns.length*d<=8*zAO ns.length d:=by unfold zAO;omega
 have hml:ns.length*d<=64000000:=Nat.mul_le_mul hk hd
 have HF:=zA3 (fun w'=>zDP ns.length d w' hk hd)
 have HA:=zA3 ha
 have HN:=zA3 hN
 have yX:=zA3 hn
 have JE:=zA3 Ym
 have Yu:∃av cv,v=.slice av zs.length cv:=by
  rcases Hd.2 with ⟨rfl,h0⟩|⟨g,cap,cur,rfl,_⟩
  ·exact⟨none,0,by rw[h0]⟩
  ·exact⟨_,_,rfl⟩
 obtain⟨av,cv,rfl⟩:=Yu
 have Yi:=zA3 Hd
 generalize zAO ns.length d=N at *
 have hNb:N<=8000001:=by omega
 clear ha hN hn Ym Hd
 go_enter Tryz.func140,Tryz.ntmps140
 go_wp2_with (first
  | (go_at_call 158;refine(zA0 HF _).mono ?_;rintro e w1 ⟨rfl,rfl⟩)
  | (at_builtin;refine zEm _ rfl (.tmp 16) (.tmp 20) rfl base (.slice av zs.length cv) N zs rfl rfl (zA0 Yi) (by omega) (by omega) Hv ?_;intro v1 w2 hO1 hG1;replace hO1:=zA3 hO1;replace hG1:=zA3 hG1)
  | fail)
 go_loopw[8,24] (fun s8 s24 wr=>∃i:Nat,i<=ns.length/\s24=.int .i64 (i:Int)/\s8=.int .i64 ((d*i:Nat):Int)/\zBC wr base v1 (zs++leB (zBG d (ns.take i)) N)/\zAt w1 wr (.slice av zs.length cv) v1) (fun _ s _=>ns.length-(intOf s).toNat)
 case atStart=>exact⟨0,Nat.zero_le _,rfl,by simp,by simp only[List.take_zero,zBG];rw[zRg];exact zA0 hO1,zA0 hG1⟩
 case round=>
  obtain⟨i,hi,rfl,rfl,hO,hG⟩:=hrel
  by_cases h1:i<ns.length
  ·have i1:(i:Int)<(ns.length:Int):=by omega
   obtain⟨n,hn⟩:∃n,ns[i]?=some n:=⟨_,zAf h1⟩
   have ZW:=zA0 yX n (List.mem_of_getElem? hn)
   obtain⟨qb,qo,ea,cq⟩:=((zA0 HA).grew hG (zA0 JE)).get (k:=i) (x:=.int .u64 (n:Int)) (by simp[hn])
   subst ea
   have hQ:d*i+d<=ns.length*d:=by rw[Nat.mul_comm d i,<-Nat.succ_mul];exact Nat.mul_le_mul_right d h1
   have HT:Hid (zBG d (ns.take (i+1))=zBG d (ns.take i)+n*2 ^ (d*i)):=by
    show _=_
    obtain⟨Gl,rfl⟩:=zAL hn
    rw[List.take_succ_eq_append_getElem Gl,zFZ,List.length_take,Nat.min_eq_left (by omega),Nat.mod_eq_of_lt ZW,Nat.mul_comm]
   have Dm:Hid (zBG d (ns.take i)<2 ^ (d*i)):=by
    show _<_
    have:=zGJ d (ns.take i)
    rw[List.length_take,Nat.min_eq_left (by omega)] at this
    exact this
   have HO:=zA3 hO
   have HG:=zA3 hG
   have HQ:=zA3 hQ
   have hn64:n<18446744073709551616:=Nat.lt_of_lt_of_le ZW (by have:2 ^ d<=2 ^ 64:=Nat.pow_le_pow_right (by decide) hd;simpa using this)
   generalize zBG d (ns.take i)=T0 at *
   obtain⟨T1,HTT⟩:∃T1,Hid (zBG d (ns.take (i+1))=T1):=⟨_,rfl⟩
   rw[zA0 HTT] at HT
   generalize hD:d*i=D at *
   have HD:=zA3 hD
   have JH:=zA3 ZW
   clear hO hG hQ hn hD ZW
   go_wp2_with fail
   go_loopw[8,10,11] (fun s8 s10 s11 wv=>∃P m L T:Nat,s8=.int .i64 (P:Int)/\s10=.int .u64 (m:Int)/\s11=.int .i64 (L:Int)/\P+L=D+d/\Hid (T<2 ^ P)/\Hid (m<2 ^ L)/\Hid (T+m*2 ^ P=T1)/\zBC wv base v1 (zs++leB T N)/\zAt w1 wv (.slice av zs.length cv) v1) (fun _ _ s _=>(intOf s).toNat)
   case atStart=>exact⟨D,n,d,T0,rfl,rfl,rfl,rfl,zA0 Dm,zA0 JH,(zA0 HT).symm,zA0 HO,zA0 HG⟩
   case round=>
    obtain⟨P,m,L,T,rfl,rfl,rfl,hPL,HTP,ZK,HE,hO,hG⟩:=hrel
    by_cases h2:0<L
    ·have i2:(0:Int)<(L:Int):=by omega
     have hqN:P / 8<N:=by have:=(zA0 HN).2;have:=zA0 HQ;omega
     obtain⟨g,cap,ev⟩:∃g cap,v1=.slice (some ⟨g,0,none⟩) (zs++leB T N).length cap:=by
      rcases hO.2 with ⟨_,h0⟩|⟨g,cap,cur,ev,_⟩
      ·rw[zAX,zBw] at h0;omega
      ·exact⟨g,cap,ev⟩
     subst ev
     have hlN:(zs++leB T N).length=zs.length+N:=by rw[zAX,zBw]
     obtain⟨q,hq⟩:∃q,q=P / 8:=⟨_,rfl⟩
     obtain⟨r,hr⟩:∃r,r=P % 8:=⟨_,rfl⟩
     obtain⟨s,hs⟩:∃s,s=min (8-r) L:=⟨_,rfl⟩
     have eq3:(P:Int).tdiv 8=(q:Int):=by rw[Int.tdiv_eq_ediv_of_nonneg (by omega)];omega
     have eq4:(P:Int).tmod 8=(r:Int):=by rw[Int.tmod_eq_emod_of_nonneg (by omega)];omega
     have eq5:(8:Int)-(r:Int)=((8-r:Nat):Int):=by omega
     have hr8:r<8:=by omega
     have KA:=zA3 (zUl (T:=T) (P:=P) (m:=m) (L:=L) (s:=s) (zA0 ZK) (by rw[hs,hr]) (zA0 HTP))
     obtain⟨x,hx⟩:∃x,x=m % 2 ^ (8-r):=⟨_,rfl⟩
     have hxl:x<2 ^ (8-r):=by rw[hx];exact Nat.mod_lt _ (Nat.two_pow_pos _)
     have e256:2 ^ (8-r)*2 ^ r=256:=by rw[<-Nat.pow_add,show 8-r+r=8 by omega]
     have GV:zCy T q<2 ^ r:=by rw[hq,hr];exact zM4 (zA0 HTP)
     have Fs:zCy T q+x*2 ^ r<256:=by
      have h3:(x+1)*2 ^ r<=2 ^ (8-r)*2 ^ r:=Nat.mul_le_mul_right _ hxl
      rw[e256,Nat.add_mul,Nat.one_mul] at h3
      omega
     have hor:=zU7 (zCy T q) (x*2 ^ r) (by omega) (by omega)
     rw[zSU GV] at hor
     obtain⟨sv,hsv⟩:∃sv,sv=x*2 ^ r:=⟨_,rfl⟩
     have eqS:IntKind.u64.wrap ((m:Int)*2 ^ r) % 256=(sv:Int):=by
      rw[IntKind.wrap_u64]
      have h4:m*2 ^ r % 18446744073709551616 % 256=sv:=by
       rw[Nat.mod_mod_of_dvd _ (by decide),hsv,hx,<-e256,Nat.mul_mod_mul_right]
      have h5:((m*2 ^ r:Nat):Int)=(m:Int)*2 ^ r:=by simp
      rw[<-h5]
      omega
     have qO:=zA3 (zTR (T:=T) (P:=P) (x:=x) (N:=N) (zA0 HTP) (by rw[<-hr];exact hxl) zs)
     rw[<-hq,<-hr,<-hsv] at qO
     rw[<-hr,<-hx] at KA
     rw[<-hsv] at hor Fs
     obtain⟨c1,f1⟩:=zBC.at (j:=zs.length+q) (y:=(zCy T q:Int)) hO (by rw[List.getElem?_append_right (by omega),Nat.add_sub_cancel_left];exact zPe T N q (by omega))
     have QQ:=zA3 (zBC.store hO (j:=zs.length+q) (by rw[hlN];omega) ((zCy T q+sv:Nat):Int))
     rw[zA0 qO] at QQ
     generalize zCy T q=Bv at *
     have hLL:((zs++leB T N).length:Int)=(zs.length:Int)+(N:Int):=by rw[hlN];simp
     have hqL:(zs.length:Int)+(q:Int)<((zs++leB T N).length:Int):=by rw[hLL];omega
     have HGS:=zA3 (zAt.store (j:=zs.length+q) hG (.int .u8 ((Bv:Int)+(sv:Int))))
     have ym:Hid ((zs++leB (T+x*2 ^ P) N).length=(zs++leB T N).length):=by show _=_;rw[zAX,zAX,zBw,zBw]
     generalize hLe:(zs++leB T N).length=LL at *
     have emin:min ((8:Int)-(r:Int)) (L:Int)=(s:Int):=by rw[hs];omega
     have hs64:(s:Int)<=8:=by rw[hs];omega
     have hsL:(s:Int)<=(L:Int):=by rw[hs];omega
     have hs0:0<s:=by rw[hs];omega
     have hm64:(P:Int)<=64000000:=by have:=zA0 HQ;omega
     have hq8:(q:Int)<=8000001:=by omega
     have hL8:(L:Int)<=64000000:=by have:=zA0 HQ;omega
     have HX:=zA3 hx
     clear hO hG hq hr hs hx hsv GV hxl e256 hlN hLe hLL
     rw[Int.natCast_add] at QQ
     have hz8:(zs.length:Int)<=1000000000:=by omega
     obtain⟨KK,hKK⟩:∃KK,zs.length+q=KK:=⟨_,rfl⟩
     rw[hKK] at c1 f1 QQ HGS
     have ezk:(zs.length:Int)+(q:Int)=(KK:Int):=by omega
     rw[ezk] at hqL
     clear hKK
     have emin2:(if L<8-r then (L:Int) else ((8-r:Nat):Int))=(s:Int):=by
      rw[<-emin]
      split<;>omega
     have Tv:=zA0 KA
     go_upto_region 11 with fail
     try rw[emin2]
     clear emin2 emin eq5 Tv
     go_region
     go_wp2
     go_roundw
     case rel=>
      refine⟨P+s,m / 2 ^ s,L-s,T+x*2 ^ P,by go_num,?_,?_,by omega,(zA0 KA).1,(zA0 KA).2.2,?_,World.ownsRow.drew (zA0 QQ),(zA0 HGS).trans (zAt.drew _ _)⟩
      ·first|rfl | (congr 1;simp;done) | (simp;done)
      ·first|go_num | (congr 1;omega)
      ·show _=_
       rw[(zA0 KA).2.1]
       exact zA0 HE
     case measure=>first | (simp[intOf];omega) | (simp only[intOf];omega)
    ·have i2:¬(0:Int)<(L:Int):=by omega
     have hL0:L=0:=by omega
     have qN:Hid (T=T1):=by
      show _=_
      have h3:=zA0 HE
      have h4:=zA0 ZK
      rw[hL0] at h4
      have h5:m=0:=by simpa using h4
      rw[h5] at h3
      simpa using h3
     have hPD:P=D+d:=by omega
     have QN:Hid (zBC wr base v1 (zs++leB T1 N)):=by rw[<-zA0 qN];exact hO
     have Gt:=zA3 hG
     have HPD:=zA3 hPD
     clear hO hG hL0 hPD
     go_wp2
     go_roundw
     case rel=>exact⟨i+1,by omega,by go_num,by rw[zA0 HPD,Nat.mul_succ,zA0 HD],by rw[zA0 HTT];exact zA0 QN,zA0 Gt⟩
     case measure=>first | (simp[intOf];omega) | (simp only[intOf];omega)
  ·have i1:¬(i:Int)<(ns.length:Int):=by omega
   have Gl:i=ns.length:=by omega
   rw[Gl,List.take_length] at hO
   have HO:=zA3 hO
   have HG:=zA3 hG
   clear hO hG Gl
   go_wp2
   go_ret
   exact⟨_,rfl,zA0 HO,zA0 HG⟩
def leV:List UInt8->Nat
 | []=>0
 | b::l=>b.toNat+256*leV l
theorem zIa:∀(l:List UInt8) (i:Nat) (h:i<l.length),leV l / 256 ^ i % 256=(l[i]).toNat
 | b::l,0,_=>by have:=b.toNat_lt;simp[leV]
 | b::l,i+1,h=>by
  have h2:=b.toNat_lt
  rw[Nat.pow_succ,Nat.mul_comm (256 ^ i) 256,<-Nat.div_div_eq_div_mul,leV]
  rw[show (b.toNat+256*leV l) / 256=leV l by omega]
  simpa using zIa l i (by simpa using h)
def At1(w:World)(b t:Nat)(v:Value):Prop:=w.rowIs b t 1 fun _=>v
theorem At1.cell{w:World}{b t:Nat}{v:Value}(h:At1 w b t v):w.cell? ⟨b,0,none⟩=some v:=World.rowIs.cell h (by decide)
theorem At1.set{w:World}{b t:Nat}{v:Value}(h:At1 w b t v)(u:Value):At1 (w.setCell ⟨b,0,none⟩ u) b t u:=
 World.rowIs.congr (World.rowIs.set h 0 u) (fun i hi => by have : i = 0 := by omega
                                                           subst this; simp)
theorem At1.gr{w w':World}{b t k:Nat}{v:Value}(h:At1 w b t v)(hg:Gr w w' k)(Hg:b≠k):At1 w' b t v:=
 World.rowIs.of_block h (hg.block b (World.rowIs.lt h) (fun e=>Hg (by injection e)))
theorem At1.alloc(w:World)(t:Nat)(v:Value):At1 (w.alloc (.cells #[v] t)) w.heap.size t v:=by
 refine World.rowIs_alloc w #[v] t _ ?_
 intro i hi
 have:i=0:=by simp at hi;omega
 subst this
 rfl
theorem zKz(x a b:Nat)(h:b<=a):x % 2 ^ a / 2 ^ b=x / 2 ^ b % 2 ^ (a-b):=by
 obtain⟨c,rfl⟩:∃c,a=b+c:=⟨a-b,by omega⟩
 rw[Nat.pow_add,Nat.mod_mul_right_div_self,Nat.add_sub_cancel_left]
theorem zRI(T P k s q r:Nat)(hQ:P+k=8*q+r)(hr:r+s<=8) :
  T / 256 ^ q % 256 / 2 ^ r % 2 ^ s=T / 2 ^ P / 2 ^ k % 2 ^ s:=by
 have e1:(256:Nat) ^ q=2 ^ (8*q):=by rw[Nat.pow_mul]
 have e2:(256:Nat)=2 ^ 8:=rfl
 rw[e1]
 conv=>lhs;lhs;lhs;rhs;rw[e2]
 rw[zKz _ _ _ (by omega),Nat.div_div_eq_div_mul,<-Nat.pow_add,Nat.div_div_eq_div_mul,<-Nat.pow_add,hQ]
 rw[Nat.mod_mod_of_dvd]
 exact Nat.pow_dvd_pow 2 (by omega)
theorem zMq(T P k s q r:Nat)(hQ:P+k=8*q+r)(hr:r+s<=8) :
  T / 2 ^ P % 2 ^ k+(T / 256 ^ q % 256 / 2 ^ r % 2 ^ s)*2 ^ k=T / 2 ^ P % 2 ^ (k+s):=by
 rw[zRI T P k s q r hQ hr,Nat.pow_add,Nat.mod_mul,Nat.mul_comm (2 ^ k)]
theorem zUS(a b:Nat)(ha:a<256)(hb:b<256):bits .and .u8 (a:Int) (b:Int)=((a &&& b:Nat):Int):=by
 have hx:a &&& b<2 ^ 8:=Nat.and_lt_two_pow _ (by omega)
 have h1:(BitVec.ofInt 8 (a:Int)).toNat=a:=by
  rw[BitVec.ofInt_natCast,BitVec.toNat_ofNat];exact Nat.mod_eq_of_lt (by omega)
 have h2:(BitVec.ofInt 8 (b:Int)).toNat=b:=by
  rw[BitVec.ofInt_natCast,BitVec.toNat_ofNat];exact Nat.mod_eq_of_lt (by omega)
 show IntKind.u8.wrap ((BitVec.ofInt 8 (a:Int) &&& BitVec.ofInt 8 (b:Int)).toNat:Int)=_
 rw[BitVec.toNat_and,h1,h2]
 simp[IntKind.wrap,IntKind.signed,IntKind.bits]
 omega
theorem zK6(Y r s:Nat)(hY:Y<256)(hs:s<=8):bits .and .u8 ((Y:Int) / 2 ^ r) ((2 ^ s-1) % 256)=((Y / 2 ^ r % 2 ^ s:Nat):Int):=by
 have e1:(Y:Int) / 2 ^ r=((Y / 2 ^ r:Nat):Int):=by rw[Int.natCast_ediv,Int.natCast_pow];rfl
 have h2:2 ^ s<=2 ^ 8:=Nat.pow_le_pow_right (by decide) hs
 have h3:=Nat.two_pow_pos s
 have e2:((2:Int) ^ s-1) % 256=((2 ^ s-1:Nat):Int):=by
  have:(2:Int) ^ s=((2 ^ s:Nat):Int):=by rw[Int.natCast_pow];rfl
  rw[this];omega
 have h4:Y / 2 ^ r<=Y:=Nat.div_le_self _ _
 rw[e1,e2,zUS _ _ (by omega) (by omega),Nat.and_two_pow_sub_one_eq_mod]
theorem zJo(t:List UInt8)(q:Nat)(h:q<t.length)(W:World):(Instr.index 9 (.string (bs t)) (.int .i64 (q:Int))).run Tryz.prog W=.ok (.int .u8 ((leV t / 256 ^ q % 256:Nat):Int)) W:=by
 rw[run_index_string W 9 (bs t) .i64 q Tryz.underlying9]
 rw[dif_pos ⟨by omega,by rw[zBV];omega⟩,zIa t q h]
 rfl
theorem At1.below{w w':World}{b t:Nat}{v:Value}(h:At1 w b t v)(hb:Below w.heap.size w w'):At1 w' b t v:=
 World.rowIs.of_block h (hb.block b (World.rowIs.lt h))
theorem zLe{T P k s q r Y X Q d:Nat}{Z:Int}(hX:X=T / 2 ^ P % 2 ^ k)(hY:Y=T / 256 ^ q % 256)(hQ:Q=P+k)(hQR:Q=8*q+r)(hr:r+s<=8)(hk:k+s<=d)(hd:d<=64)
  (hZ:bits .and .u8 ((Y:Int) / 2 ^ r) ((2 ^ s-1) % 256)=Z):bits .or .u64 (X:Int) (IntKind.u64.wrap (IntKind.u64.wrap Z*2 ^ k))=((T / 2 ^ P % 2 ^ (k+s):Nat):Int):=by
 have hY2:Y<256:=by rw[hY];exact Nat.mod_lt _ (by decide)
 rw[zK6 Y r s hY2 (by omega)] at hZ
 subst hZ
 have e:=zMq T P k s q r (by omega) hr
 rw[<-hY,<-hX] at e
 have He:T / 2 ^ P % 2 ^ (k+s)<2 ^ 64:=Nat.lt_of_lt_of_le (Nat.mod_lt _ (Nat.two_pow_pos _)) (Nat.pow_le_pow_right (by decide) (by omega))
 have FW:X<2 ^ k:=by rw[hX];exact Nat.mod_lt _ (Nat.two_pow_pos _)
 generalize hz:Y / 2 ^ r % 2 ^ s=z at *
 have QC:z<256:=by
  rw[<-hz]
  have h1:Y / 2 ^ r<=Y:=Nat.div_le_self _ _
  have h2:Y / 2 ^ r % 2 ^ s<=Y / 2 ^ r:=Nat.mod_le _ _
  omega
 have h64:(2:Nat) ^ 64=18446744073709551616:=by decide
 have e1:IntKind.u64.wrap (z:Int)=(z:Int):=by rw[IntKind.wrap_u64];omega
 have e2:(z:Int)*2 ^ k=((z*2 ^ k:Nat):Int):=by rw[Int.natCast_mul,Int.natCast_pow];rfl
 have e3:IntKind.u64.wrap ((z:Int)*2 ^ k)=((z*2 ^ k:Nat):Int):=by rw[e2,IntKind.wrap_u64];omega
 rw[e1,e3,zP8 _ _ (by omega) (by omega),zKs FW,e]
theorem zQN(A B C P d:Nat)(t:List UInt8)(w:World)(hA:At1 w A 3 (.int .i64 d))(hB:At1 w B 3 (.int .i64 P))(hC:At1 w C 9 (.string (bs t)))(hAB:A≠B)(hCB:C≠B)(hd:d<=64)(hP:P+d<=8*t.length)(hl:t.length<=1000000) :
  Calls Tryz.prog 178 #[.pointer (some ⟨A,0,none⟩),.pointer (some ⟨B,0,none⟩),.pointer (some ⟨C,0,none⟩)] w fun e w'=>
   e=.returned (.int .u64 ((leV t / 2 ^ P % 2 ^ d:Nat):Int))/\At1 w' B 3 (.int .i64 ((P+d:Nat):Int))/\Gr w w' B:=by
 have HAA:=zA3 hA
 have Dz:=zA3 hC
 have QX:=zA3 hB
 have hs:=zBV t
 clear hA hB hC
 go_enter Tryz.func178,Tryz.ntmps178
 go_wp2_with fail
 go_loopw[4,5] (fun x i wr=>∃k:Nat,k<=d/\i=.int .i64 (k:Int)/\x=.int .u64 ((leV t / 2 ^ P % 2 ^ k:Nat):Int)/\At1 wr B 3 (.int .i64 ((P+k:Nat):Int))/\Gr w wr B) (fun _ i _=>d-(intOf i).toNat)
 case atStart=>exact⟨0,Nat.zero_le _,rfl,by simp[Nat.mod_one],zA0 QX,Gr.refl _ _⟩
 case round=>
  obtain⟨k,hk,rfl,rfl,hb,hg⟩:=hrel
  have cA:=((zA0 HAA).gr hg hAB).cell
  have cB:=hb.cell
  have fB:=World.rowIs.frozen hb 0
  have cC:=((zA0 Dz).gr hg hCB).cell
  have HG:=zA3 hg
  have HB:=zA3 hb
  clear hg hb
  by_cases He:k<d
  ·have h9:(k:Int)<(d:Int):=by omega
   obtain⟨Q,hQ⟩:∃Q,Q=P+k:=⟨_,rfl⟩
   obtain⟨X,hX⟩:∃X,X=leV t / 2 ^ P % 2 ^ k:=⟨_,rfl⟩
   obtain⟨q,r,hqr,hr8⟩:∃q r,Q=8*q+r/\r<8:=⟨Q / 8,Q % 8,by omega,by omega⟩
   obtain⟨Y,hY,hix⟩:∃Y:Nat,Y=leV t / 256 ^ q % 256/\∀W,(Instr.index 9 (.string (bs t)) (.int .i64 (q:Int))).run Tryz.prog W=.ok (.int .u8 (Y:Int)) W:=⟨_,rfl,zJo t q (by omega)⟩
   have hY2:Y<256:=by rw[hY];exact Nat.mod_lt _ (by decide)
   have HY:=zA3 hY
   have hqb:(q:Int)<=1000000:=by omega
   have hqw:IntKind.i64.wrap (q:Int)=(q:Int):=by rw[IntKind.wrap_i64];omega
   clear hY
   have e1:(Q:Int) / 8=(q:Int):=by omega
   have e2:(Q:Int) % 8=(r:Int):=by omega
   rw[<-hQ] at cB
   rw[<-hX]
   have HX:=zA3 hX
   have HQ:=zA3 hQ
   clear hX hQ hP
   have HQR:=zA3 hqr
   clear hqr
   obtain⟨s1,GN⟩:∃s1,s1=8-r:=⟨_,rfl⟩
   obtain⟨s2,qt⟩:∃s2,s2=d-k:=⟨_,rfl⟩
   have e3:8-(r:Int)=(s1:Int):=by omega
   have e4:(d:Int)-(k:Int)=(s2:Int):=by omega
   have JF:=zA3 GN
   have Tu:=zA3 qt
   clear GN qt
   by_cases hm:(s1:Int)<=(s2:Int)
   ·go_wp2_with fail
    go_quiet (fail)
    generalize hZ:bits BinOp.and IntKind.u8 ((Y:Int) / 2 ^ r) ((2 ^ s1-1) % 256)=Z
    replace hZ:=zA3 hZ
    go_wp2_with fail
    have g1:=zA0 JF
    have g2:=zA0 Tu
    have g3:=zA0 HQ
    have hbn:Below wr.heap.size wr (wr.drewN nq):=zBE (Below.refl _ _) nq
    refine⟨⟨k+s1,by omega,by go_num,congrArg (Value.int .u64) (zLe (zA0 HX) (zA0 HY) g3 (zA0 HQR) (by omega) (by omega) hd (zA0 hZ)),?_,((zA0 HG).trans (Gr.of_below hbn B)).trans (Gr.set _ _ _)⟩,by simp[intOf];omega⟩
    have e5:((P+(k+s1):Nat):Int)=(Q:Int)+(s1:Int):=by omega
    rw[e5]
    exact((zA0 HB).below hbn).set _
   ·go_wp2_with fail
    go_quiet (fail)
    generalize hZ:bits BinOp.and IntKind.u8 ((Y:Int) / 2 ^ r) ((2 ^ s2-1) % 256)=Z
    replace hZ:=zA3 hZ
    go_wp2_with fail
    have g1:=zA0 JF
    have g2:=zA0 Tu
    have g3:=zA0 HQ
    have hbn:Below wr.heap.size wr (wr.drewN nq):=zBE (Below.refl _ _) nq
    refine⟨⟨k+s2,by omega,by go_num,congrArg (Value.int .u64) (zLe (zA0 HX) (zA0 HY) g3 (zA0 HQR) (by omega) (by omega) hd (zA0 hZ)),?_,((zA0 HG).trans (Gr.of_below hbn B)).trans (Gr.set _ _ _)⟩,by simp[intOf];omega⟩
    have e5:((P+(k+s2):Nat):Int)=(Q:Int)+(s2:Int):=by omega
    rw[e5]
    exact((zA0 HB).below hbn).set _
  ·have h9:¬(k:Int)<(d:Int):=by omega
   have ek:k=d:=by omega
   subst ek
   go_wp2
   go_ret
   exact⟨rfl,zA0 HB,zA0 HG⟩
def brF(l:List UInt8)(bad:Bool):Nat->Value
 | 0=>.string (bs l)
 | _=>.bool bad
def Br(w:World)(b:Nat)(l:List UInt8)(bad:Bool):Prop:=w.rowIs b 83 2 (brF l bad)
def zAE(l:List UInt8)(bad:Bool)(n:Nat):List UInt8×List UInt8×Bool:=if bad=true∨l.length<n then ([],l,true) else (l.take n,l.drop n,false)
theorem Br.facts{w:World}{b:Nat}{l:List UInt8}{bad:Bool}(h:Br w b l bad):w.cell? ⟨b,0,none⟩=some (.string (bs l))/\w.cell? ⟨b,1,none⟩=some (.bool bad)/\w.frozen? ⟨b,0,none⟩=false/\w.frozen? ⟨b,1,none⟩=false:=
 ⟨World.rowIs.cell h (i:=0) (by omega),World.rowIs.cell h (i:=1) (by omega),World.rowIs.frozen h 0,World.rowIs.frozen h 1⟩
theorem Br.ne{w:World}{b:Nat}{l:List UInt8}{bad:Bool}(h:Br w b l bad):b<w.heap.size:=World.rowIs.lt h
theorem Br.alloc{w:World}{b:Nat}{l:List UInt8}{bad:Bool}(h:Br w b l bad)(o:Obj):Br (w.alloc o) b l bad:=World.rowIs.alloc h o
theorem Br.bad{w:World}{b:Nat}{l:List UInt8}{bad:Bool}(h:Br w b l bad)(x:Bool):Br (w.setCell ⟨b,1,none⟩ (.bool x)) b l x:=
 World.rowIs.congr (World.rowIs.set h 1 (.bool x)) (fun i hi=>by
  match i,hi with
  | 0,_=>rfl
  | 1,_=>rfl)
theorem Br.rest{w:World}{b:Nat}{l:List UInt8}{bad:Bool}(h:Br w b l bad)(r:List UInt8):Br (w.setCell ⟨b,0,none⟩ (.string (bs r))) b r bad:=
 World.rowIs.congr (World.rowIs.set h 0 (.string (bs r))) (fun i hi=>by
  match i,hi with
  | 0,_=>rfl
  | 1,_=>rfl)
theorem zOc(b n:Nat)(l:List UInt8)(bad:Bool)(w:World)(h:Br w b l bad)(hl:l.length<=140737488355328)(hn:n<=1000000000) :
  Calls Tryz.prog 39 #[.pointer (some ⟨b,0,none⟩),.int .i64 n] w fun e w'=>e=.returned (.string (bs (zAE l bad n).1))/\Br w' b (zAE l bad n).2.1 (zAE l bad n).2.2/\Gr w w' b:=by
 obtain⟨c0,c1,f0,f1⟩:=h.facts
 have hs:=zBV l
 have HB:=zA3 h
 clear h
 cases bad with
 | true=>
  have e:zAE l true n=([],l,true):=by simp[zAE]
  rw[e]
  go_enter Tryz.func39,Tryz.ntmps39
  go_wp2
  go_ret
  exact⟨rfl,(zA0 HB).bad true,zAY w b 1 _⟩
 | false=>
  by_cases He:l.length<n
  ·have e:zAE l false n=([],l,true):=by simp[zAE,He]
   rw[e]
   have hi:(l.length:Int)<(n:Int):=by omega
   go_enter Tryz.func39,Tryz.ntmps39
   go_wp2
   go_ret
   exact⟨rfl,(zA0 HB).bad true,zAY w b 1 _⟩
  ·have e:zAE l false n=(l.take n,l.drop n,false):=by simp[zAE,He]
   rw[e]
   have hi:¬(l.length:Int)<(n:Int):=by omega
   have ZY:(n:Int)<=(l.length:Int):=by omega
   go_enter Tryz.func39,Tryz.ntmps39
   go_wp2
   go_ret
   exact⟨by rw[zIq l n (by omega)];rfl,by rw[zHD];exact(zA0 HB).rest _,zAY w b 0 _⟩
theorem zH4(t:List UInt8)(q:Nat)(x:UInt8)(h:t[q]?=some x)(W:World):(Instr.index 9 (.string (bs t)) (.int .i64 (q:Int))).run Tryz.prog W=.ok (.int .u8 (x.toNat:Int)) W:=by
 obtain⟨hl,hx⟩:=zAL h
 rw[zJo t q hl W,zIa t q hl,hx]
theorem zB6(l:List UInt8)(hl:l.length<=8)(w:World) :
  Calls Tryz.prog 40 #[.string (bs l)] w fun e w'=>e=.returned (.int .u64 (beV l))/\w'=w:=by
 have hs:=zBV l
 go_enter Tryz.func40,Tryz.ntmps40
 go_wp2
 go_loop[3,4] (fun x i=>∃k:Nat,k<=l.length/\i=.int .i64 (k:Int)/\x=.int .u64 (beV (l.take k))) (fun _ i=>l.length-(intOf i).toNat)
 case atStart=>exact⟨0,Nat.zero_le _,rfl,rfl⟩
 case round=>
  obtain⟨k,hk,rfl,rfl⟩:=hrel
  by_cases He:k<l.length
  ·have h9:(k:Int)<(l.length:Int):=by omega
   obtain⟨x,hx⟩:∃x,l[k]?=some x:=⟨_,zAf He⟩
   have HN:Hid (beV (l.take (k+1))=beV (l.take k)*256+x.toNat):=by
    obtain⟨g1,rfl⟩:=zAL hx
    show _=_
    rw[List.take_succ_eq_append_getElem g1,zE0]
   have Zm:beV (l.take k)<72057594037927936:=by
    have h1:=zBn (l.take k)
    have h2:(l.take k).length<=7:=by rw[List.length_take];omega
    have h3:256 ^ (l.take k).length<=256 ^ 7:=Nat.pow_le_pow_right (by decide) h2
    have h4:(256:Nat) ^ 7=72057594037927936:=by decide
    omega
   have HO:=zA3 (zKr _ x.toNat Zm x.toNat_lt)
   have hix:=zH4 l k x hx
   clear hx Zm
   go_wp2
   refine⟨⟨k+1,by omega,by go_num,?_⟩,by simp[intOf];omega⟩
   exact congrArg (Value.int .u64) ((zA0 HO).trans (by rw[zA0 HN]))
  ·have h9:¬(k:Int)<(l.length:Int):=by omega
   have e:l.take k=l:=List.take_of_length_le (by omega)
   have E:=zA3 e
   clear e
   go_wp2
   go_ret
   exact⟨by rw[zA0 E];rfl,rfl⟩
def zCP(kind:Int)(l:List UInt8)(bad:Bool):Val×List UInt8×Bool:=
 if kind == 1 then (.num (zBf (beV (zAE l bad 8).1)),(zAE l bad 8).2)
 else (.str (bs (zAE (zAE l bad 2).2.1 (zAE l bad 2).2.2 (beV (zAE l bad 2).1)).1),(zAE (zAE l bad 2).2.1 (zAE l bad 2).2.2 (beV (zAE l bad 2).1)).2)
theorem zB4(l:List UInt8)(bad:Bool)(n:Nat):(zAE l bad n).1.length<=n/\(zAE l bad n).2.1.length<=l.length:=by
 unfold zAE
 split
 ·simp
 ·simp[List.length_take];omega
theorem Br.new3{w1:World}{b g:Nat}{l:List UInt8}{bad:Bool}(h:Br w1 b l bad)(Hg:b≠g)(u v x:Value):Br (((w1.setCell ⟨g,0,none⟩ u).setCell ⟨g,1,none⟩ v).setCell ⟨g,2,none⟩ x) b l bad:=
 World.rowIs.setOther (World.rowIs.setOther (World.rowIs.setOther h Hg _) Hg _) Hg _
theorem zSd{w w1:World}{b:Nat}{l:List UInt8}{bad:Bool}{y:Val}(h:Br w b l bad)(hg:Gr (w.alloc (.cells #[.int .i64 y.k,.int .i64 y.n,.string y.s] 59)) w1 b):w1.rowIs w.heap.size 59 3 (zDU y):=
 World.rowIs.of_block (zAs w y) (hg.block w.heap.size (by simp) (fun e=>by injection e with e;have:=h.ne;omega))
end Go.Proofs.YtekgpapophibcaaGreat
