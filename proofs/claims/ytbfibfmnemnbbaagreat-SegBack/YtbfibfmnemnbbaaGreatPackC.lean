import Derived.Test.YtbfibfmnemnbbaaGreatPackB
import Derived.Lib.AppendStr
set_option linter.unusedSimpArgs false
set_option linter.unusedVariables false
namespace Go.Proofs.YtbfibfmnemnbbaaGreat
open Go.RowKit Go.Sort
theorem pnull_any(x:Val)(w:World):Calls Tryz.prog 93 #[x.v] w fun e w'=>e=.returned (.bool (x.k == 0))/\Below w.heap.size w w':=by
 rw[x.open_]
 go_enter Tryz.func93,Tryz.ntmps93
 go_wp2
 go_ret
 exact⟨rfl,(Below.refl _ _).alloc (Nat.le_refl _) _⟩
def bytesN(k d:Nat):Nat:=(k*d+7) / 8
theorem bytesfor_any(k d:Nat)(w:World)(hk:k<=1000000)(hd:d<=64):Calls Tryz.prog 160 #[.int .i64 k,.int .i64 d] w fun e w'=>e=.returned (.int .i64 (bytesN k d))/\w'=w:=by
 have hm:(k:Int)*(d:Int)<=64000000:=by
  have:=Nat.mul_le_mul hk hd
  have e:((k*d:Nat):Int)=(k:Int)*(d:Int):=by simp
  omega
 have hm0:(0:Int)<=(k:Int)*(d:Int):=Int.mul_nonneg (by omega) (by omega)
 have e1:((k:Int)*(d:Int)+7).tdiv 8=(bytesN k d:Int):=by
  rw[Int.tdiv_eq_ediv_of_nonneg (by omega)]
  unfold bytesN
  simp
 obtain⟨M,hM⟩:∃M,M=(k:Int)*(d:Int):=⟨_,rfl⟩
 rw[<-hM] at hm hm0 e1
 go_enter Tryz.func160,Tryz.ntmps160
 go_wp2
 try rw[<-hM]
 go_ret
 refine⟨?_,rfl⟩
 first|rw[e1] | rw[e2] | (rw[Int.tdiv_eq_ediv_of_nonneg (by omega)] at e1;rw[e1];rfl)
end Go.Proofs.YtbfibfmnemnbbaaGreat
set_option linter.unusedSimpArgs false
set_option linter.unusedVariables false
set_option maxHeartbeats 2000000
set_option maxRecDepth 100000
namespace Go.Proofs.YtbfibfmnemnbbaaGreat
open Go.RowKit Go.Sort
def bl(n:Nat):Nat:=if n=0 then 0 else Nat.log2 n+1
theorem bl_pos{n:Nat}(h:0<n):bl n=bl (n / 2)+1:=by
 unfold bl
 rw[if_neg (by omega)]
 by_cases h1:n=1
 ·subst h1;rfl
 ·rw[if_neg (by omega),Nat.log2_def,if_pos (by omega)]
theorem tab_at(T:ByteArray)(hs:T.size=256)(h:(List.range 256).all (fun m=>(T.data.toList.getD m 0).toNat == bl m)=true)(n:Nat)(hn:n<T.size):((T[n]).toNat:Int)=bl n:=by
 have h1:=List.all_eq_true.1 h n (List.mem_range.2 (by omega))
 have e:T.data.toList.getD n 0=T[n]:=by
  have hn':n<T.data.toList.length:=by rw[Array.length_toList];exact hn
  rw[List.getD_eq_getElem?_getD,List.getElem?_eq_getElem hn']
  rfl
 rw[e] at h1
 simp at h1
 rw[h1]
theorem bl_shift:∀(s n:Nat),0<n / 2 ^ s->bl n=bl (n / 2 ^ s)+s
 | 0,n,_=>by simp
 | s+1,n,h=>by
  have e:n / 2 ^ (s+1)=n / 2 / 2 ^ s:=by rw[Nat.pow_succ,Nat.mul_comm,Nat.div_div_eq_div_mul]
  have hn:0<n:=by
   refine Nat.pos_of_ne_zero fun h0=>?_
   subst h0
   simp at h
  rw[bl_pos hn,bl_shift s (n / 2) (by rw[<-e];exact h),<-e]
  omega
theorem bl_small{m:Nat}(h:m<256):bl m<=8:=by
 have:∀k:Fin 256,bl k.val<=8:=by decide +kernel
 exact this ⟨m,h⟩
theorem wrap_len{k:Int}{a c:Nat}(hk:0<=k/\k<=56)(ha:a<=8)(hc:(c:Int)=k+a):wrap64 (k+wrap64 (a:Int))=c:=by
 unfold wrap64
 omega
theorem wrap_lenz{a c:Nat}(ha:a<=8)(hc:(c:Int)=a):wrap64 (wrap64 (a:Int))=c:=by
 unfold wrap64
 omega
theorem len64_any(n:Nat)(w:World)(hn:n<18446744073709551616) :
  Calls Tryz.prog 148 #[.int .u64 n] w fun e w'=>e=.returned (.int .i64 (bl n))/\w'=w:=by
 have HBL:Hid (bl n=bl n+0):=rfl
 by_cases h0:(4294967296:Int)<=(n:Int)
 ·obtain⟨m0,e0⟩:∃m0:Nat,(n:Int) / 4294967296=(m0:Int):=⟨n / 4294967296,by simp⟩
  have hb0:bl n=bl m0+32:=by
   have h1:m0=n / 2 ^ 32:=by have:(2:Nat) ^ 32=4294967296:=(by decide);rw[this];omega
   rw[h1];exact bl_shift 32 n (by rw[<-h1];omega)
  replace HBL:Hid (bl n=bl m0+32):=by show _=_;have:=unhide HBL;omega
  clear hb0
  have t0:(m0:Int)<4294967296:=by omega
  by_cases h1:(65536:Int)<=(m0:Int)
  ·obtain⟨m1,e1⟩:∃m1:Nat,(m0:Int) / 65536=(m1:Int):=⟨m0 / 65536,by simp⟩
   have hb1:bl m0=bl m1+16:=by
    have h1:m1=m0 / 2 ^ 16:=by have:(2:Nat) ^ 16=65536:=(by decide);rw[this];omega
    rw[h1];exact bl_shift 16 m0 (by rw[<-h1];omega)
   replace HBL:Hid (bl n=bl m1+48):=by show _=_;have:=unhide HBL;omega
   clear hb1
   have t1:(m1:Int)<65536:=by omega
   by_cases h2:(256:Int)<=(m1:Int)
   ·obtain⟨m2,e2⟩:∃m2:Nat,(m1:Int) / 256=(m2:Int):=⟨m1 / 256,by simp⟩
    have hb2:bl m1=bl m2+8:=by
     have h1:m2=m1 / 2 ^ 8:=by have:(2:Nat) ^ 8=256:=(by decide);rw[this];omega
     rw[h1];exact bl_shift 8 m1 (by rw[<-h1];omega)
    replace HBL:Hid (bl n=bl m2+56):=by show _=_;have:=unhide HBL;omega
    clear hb2
    have t2:(m2:Int)<256:=by omega
    go_enter Tryz.func148,Tryz.ntmps148
    go_wp2
    go_ret
    refine⟨?_,rfl⟩
    show Ending.returned (Value.int IntKind.i64 _)=_
    rw[tab_at _ (by decide +kernel) (by decide +kernel) m2]
    first|rw[wrap_len (c:=bl n) (by omega) (bl_small (by omega)) (by have:=unhide HBL;omega)] | rw[wrap_lenz (c:=bl n) (bl_small (by omega)) (by have:=unhide HBL;omega)]
   ·go_enter Tryz.func148,Tryz.ntmps148
    go_wp2
    go_ret
    refine⟨?_,rfl⟩
    show Ending.returned (Value.int IntKind.i64 _)=_
    rw[tab_at _ (by decide +kernel) (by decide +kernel) m1]
    first|rw[wrap_len (c:=bl n) (by omega) (bl_small (by omega)) (by have:=unhide HBL;omega)] | rw[wrap_lenz (c:=bl n) (bl_small (by omega)) (by have:=unhide HBL;omega)]
  ·by_cases h2:(256:Int)<=(m0:Int)
   ·obtain⟨m2,e2⟩:∃m2:Nat,(m0:Int) / 256=(m2:Int):=⟨m0 / 256,by simp⟩
    have hb2:bl m0=bl m2+8:=by
     have h1:m2=m0 / 2 ^ 8:=by have:(2:Nat) ^ 8=256:=(by decide);rw[this];omega
     rw[h1];exact bl_shift 8 m0 (by rw[<-h1];omega)
    replace HBL:Hid (bl n=bl m2+40):=by show _=_;have:=unhide HBL;omega
    clear hb2
    have t2:(m2:Int)<256:=by omega
    go_enter Tryz.func148,Tryz.ntmps148
    go_wp2
    go_ret
    refine⟨?_,rfl⟩
    show Ending.returned (Value.int IntKind.i64 _)=_
    rw[tab_at _ (by decide +kernel) (by decide +kernel) m2]
    first|rw[wrap_len (c:=bl n) (by omega) (bl_small (by omega)) (by have:=unhide HBL;omega)] | rw[wrap_lenz (c:=bl n) (bl_small (by omega)) (by have:=unhide HBL;omega)]
   ·go_enter Tryz.func148,Tryz.ntmps148
    go_wp2
    go_ret
    refine⟨?_,rfl⟩
    show Ending.returned (Value.int IntKind.i64 _)=_
    rw[tab_at _ (by decide +kernel) (by decide +kernel) m0]
    first|rw[wrap_len (c:=bl n) (by omega) (bl_small (by omega)) (by have:=unhide HBL;omega)] | rw[wrap_lenz (c:=bl n) (bl_small (by omega)) (by have:=unhide HBL;omega)]
 ·by_cases h1:(65536:Int)<=(n:Int)
  ·obtain⟨m1,e1⟩:∃m1:Nat,(n:Int) / 65536=(m1:Int):=⟨n / 65536,by simp⟩
   have hb1:bl n=bl m1+16:=by
    have h1:m1=n / 2 ^ 16:=by have:(2:Nat) ^ 16=65536:=(by decide);rw[this];omega
    rw[h1];exact bl_shift 16 n (by rw[<-h1];omega)
   replace HBL:Hid (bl n=bl m1+16):=by show _=_;have:=unhide HBL;omega
   clear hb1
   have t1:(m1:Int)<65536:=by omega
   by_cases h2:(256:Int)<=(m1:Int)
   ·obtain⟨m2,e2⟩:∃m2:Nat,(m1:Int) / 256=(m2:Int):=⟨m1 / 256,by simp⟩
    have hb2:bl m1=bl m2+8:=by
     have h1:m2=m1 / 2 ^ 8:=by have:(2:Nat) ^ 8=256:=(by decide);rw[this];omega
     rw[h1];exact bl_shift 8 m1 (by rw[<-h1];omega)
    replace HBL:Hid (bl n=bl m2+24):=by show _=_;have:=unhide HBL;omega
    clear hb2
    have t2:(m2:Int)<256:=by omega
    go_enter Tryz.func148,Tryz.ntmps148
    go_wp2
    go_ret
    refine⟨?_,rfl⟩
    show Ending.returned (Value.int IntKind.i64 _)=_
    rw[tab_at _ (by decide +kernel) (by decide +kernel) m2]
    first|rw[wrap_len (c:=bl n) (by omega) (bl_small (by omega)) (by have:=unhide HBL;omega)] | rw[wrap_lenz (c:=bl n) (bl_small (by omega)) (by have:=unhide HBL;omega)]
   ·go_enter Tryz.func148,Tryz.ntmps148
    go_wp2
    go_ret
    refine⟨?_,rfl⟩
    show Ending.returned (Value.int IntKind.i64 _)=_
    rw[tab_at _ (by decide +kernel) (by decide +kernel) m1]
    first|rw[wrap_len (c:=bl n) (by omega) (bl_small (by omega)) (by have:=unhide HBL;omega)] | rw[wrap_lenz (c:=bl n) (bl_small (by omega)) (by have:=unhide HBL;omega)]
  ·by_cases h2:(256:Int)<=(n:Int)
   ·obtain⟨m2,e2⟩:∃m2:Nat,(n:Int) / 256=(m2:Int):=⟨n / 256,by simp⟩
    have hb2:bl n=bl m2+8:=by
     have h1:m2=n / 2 ^ 8:=by have:(2:Nat) ^ 8=256:=(by decide);rw[this];omega
     rw[h1];exact bl_shift 8 n (by rw[<-h1];omega)
    replace HBL:Hid (bl n=bl m2+8):=by show _=_;have:=unhide HBL;omega
    clear hb2
    have t2:(m2:Int)<256:=by omega
    go_enter Tryz.func148,Tryz.ntmps148
    go_wp2
    go_ret
    refine⟨?_,rfl⟩
    show Ending.returned (Value.int IntKind.i64 _)=_
    rw[tab_at _ (by decide +kernel) (by decide +kernel) m2]
    first|rw[wrap_len (c:=bl n) (by omega) (bl_small (by omega)) (by have:=unhide HBL;omega)] | rw[wrap_lenz (c:=bl n) (bl_small (by omega)) (by have:=unhide HBL;omega)]
   ·go_enter Tryz.func148,Tryz.ntmps148
    go_wp2
    go_ret
    refine⟨?_,rfl⟩
    show Ending.returned (Value.int IntKind.i64 _)=_
    rw[tab_at _ (by decide +kernel) (by decide +kernel) n]
    first|rw[wrap_len (c:=bl n) (by omega) (bl_small (by omega)) (by have:=unhide HBL;omega)] | rw[wrap_lenz (c:=bl n) (bl_small (by omega)) (by have:=unhide HBL;omega)]
theorem blen_any(n:Nat)(w:World)(hn:n<18446744073709551616) :
  Calls Tryz.prog 162 #[.int .u64 n] w fun e w'=>e=.returned (.int .i64 (bl n))/\w'=w:=by
 have H:=hide (len64_any n w hn)
 generalize bl n=r at *
 go_enter Tryz.func162,Tryz.ntmps162
 go_wp2_with (go_at_call 148;refine(unhide H).mono ?_;rintro e w1 ⟨rfl,rfl⟩)
 go_ret
 exact⟨rfl,rfl⟩
theorem widthof_any(k:Nat)(w:World)(hk:k<=1000000) :
  Calls Tryz.prog 146 #[.int .i64 k] w fun e w'=>e=.returned (.int .i64 (bl (k-1)))/\w'=w:=by
 cases k with
 | zero=>
  go_enter Tryz.func146,Tryz.ntmps146
  go_wp2
  go_ret
  exact⟨rfl,rfl⟩
 | succ m=>
  have H:=hide (blen_any m w (by omega))
  rw[Nat.add_sub_cancel]
  generalize bl m=r at *
  have e1:(((m+1:Nat):Int) == 0)=false:=by simp;omega
  have e2:(((m+1:Nat):Int)-1)=(m:Int):=by omega
  have e3:IntKind.u64.wrap (m:Int)=m:=by simp[IntKind.wrap,IntKind.signed,IntKind.bits];omega
  have e4:(m:Int)<=1000000:=by omega
  generalize ((m+1:Nat):Int)=M at *
  have hM:M<=1000001:=by omega
  have hM0:1<=M:=by omega
  go_enter Tryz.func146,Tryz.ntmps146
  go_wp2_with (go_at_call 162;refine(unhide H).mono ?_;rintro e w1 ⟨rfl,rfl⟩)
  go_ret
  exact⟨rfl,rfl⟩
end Go.Proofs.YtbfibfmnemnbbaaGreat
