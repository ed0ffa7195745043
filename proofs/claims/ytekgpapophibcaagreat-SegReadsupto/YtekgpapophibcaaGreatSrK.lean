import Derived.Test.YtekgpapophibcaaGreatRyM
import Derived.Test.YtekgpapophibcaaGreatSgK
import Derived.Test.YtekgpapophibcaaGreatSrG
import Derived.Test.YtekgpapophibcaaGreatRxD
set_option linter.unusedSimpArgs false
set_option linter.unusedVariables false
set_option maxHeartbeats 4000000
set_option maxRecDepth 100000
namespace Go.Proofs.YtekgpapophibcaaGreat
open Go.RowKit Go.Sort
theorem zSo(a:Nat)(h:a<18446744073709551616):a ^^^ 9223372036854775808=(a+9223372036854775808) % 18446744073709551616:=by
 have e1:(a ^^^ 9223372036854775808) / 2 ^ 63=a / 2 ^ 63 ^^^ 9223372036854775808 / 2 ^ 63:=Nat.xor_div_two_pow
 have e2:(a ^^^ 9223372036854775808) % 2 ^ 63=a % 2 ^ 63 ^^^ 9223372036854775808 % 2 ^ 63:=Nat.xor_mod_two_pow
 have e3:9223372036854775808 / 2 ^ 63=1:=by decide
 have e4:9223372036854775808 % 2 ^ 63=0:=by decide
 rw[e3] at e1
 rw[e4,Nat.xor_zero] at e2
 have e5:a / 2 ^ 63=0∨a / 2 ^ 63=1:=by omega
 have e6:=Nat.div_add_mod (a ^^^ 9223372036854775808) (2 ^ 63)
 rcases e5 with e|e
 ·rw[e] at e1
  have:(0 ^^^ 1:Nat)=1:=by decide
  omega
 ·rw[e] at e1
  have:(1 ^^^ 1:Nat)=0:=by decide
  omega
theorem zNj(x:Int)(h0:0<=x)(h:x<18446744073709551616):bits BinOp.xor IntKind.u64 x 9223372036854775808=(x+9223372036854775808) % 18446744073709551616:=by
 obtain⟨a,rfl⟩:=Int.eq_ofNat_of_zero_le h0
 have:=bits_xor_u64_nat a 9223372036854775808 (by omega) (by omega)
 rw[show (9223372036854775808:Int)=((9223372036854775808:Nat):Int) from rfl,this,zSo a (by omega)]
 omega
theorem zTT(n:Int)(h:zUW n):zJ1 n=n+9223372036854775808:=by
 unfold zJ1 zUW at *
 rw[IntKind.wrap_u64,zNj _ (by omega) (by omega)]
 omega
theorem zTF(U c:Int)(h0:0<=U)(h1:U<72057594037927936)(c0:0<=c)(c1:c<256):bits BinOp.or IntKind.u64 (IntKind.u64.wrap (U*256)) (IntKind.u64.wrap c)=U*256+c:=by
 obtain⟨a,rfl⟩:=Int.eq_ofNat_of_zero_le h0
 obtain⟨b,rfl⟩:=Int.eq_ofNat_of_zero_le c0
 rw[IntKind.wrap_u64,IntKind.wrap_u64,Int.emod_eq_of_lt (by omega) (by omega),Int.emod_eq_of_lt (by omega) (by omega)]
 have h:=bits_or_u64_nat (2 ^ 8*a) b (by omega) (by omega)
 rw[<-Nat.two_pow_add_eq_or_of_lt (by omega) a] at h
 rw[show (a:Int)*256=((2 ^ 8*a:Nat):Int) by omega,h]
 omega
def hor(l:List UInt8):Int:=l.foldl (fun U c=>U*256+(c.toNat:Int)) 0
theorem zLr(l:List UInt8)(c:UInt8):hor (l++[c])=hor l*256+(c.toNat:Int):=by simp[hor]
theorem zHn(l:List UInt8):0<=hor l:=by
 suffices ∀(l:List UInt8) (U:Int),0<=U->0<=l.foldl (fun U c=>U*256+(c.toNat:Int)) U from this l 0 (by omega)
 intro l
 induction l with
 | nil=>intro U h;exact h
 | cons c l ih=>intro U h;exact ih _ (show 0<=U*256+(c.toNat:Int) by omega)
theorem zSX:∀(n:Nat) (l:List UInt8),l.length=n->hor l<256 ^ n:=by
 intro n
 induction n with
 | zero=>intro l h;have:l=[]:=List.eq_nil_of_length_eq_zero h;subst this;decide
 | succ n ih=>
  intro l h
  obtain⟨m,c,rfl⟩:∃m c,l=m++[c]:=⟨l.dropLast,l.getLast (by intro e;simp[e] at h),(List.dropLast_concat_getLast _).symm⟩
  rw[zLr]
  have h1:=ih m (by simpa using h)
  have h2:=UInt8.toNat_lt c
  rw[Int.pow_succ]
  omega
def zHl(s:ByteArray)(k:Nat):List UInt8:=(s.data.toList.drop 1).take k
theorem zRd(s:ByteArray)(k:Nat)(h:1+k<s.size):zHl s (k+1)=zHl s k++[s[1+k]]:=by
 unfold zHl
 rw[List.take_succ_eq_append_getElem (by simp;omega)]
 simp
 simp only[Nat.add_comm k 1]
 rfl
theorem zPW(s:ByteArray)(k:Nat)(h:1+k<=s.size):(zHl s k).length=k:=by simp[zHl];omega
theorem zJu(s:ByteArray)(w:World)(h9:9<=s.size)(hs:s.size<=140737488300000) :
  Calls Tryz.prog 95 #[.string s] w fun e w'=>e=.returned (.tuple #[(Val.num (hor (zHl s 8)-9223372036854775808)).v,.int .i64 9])/\Below w.heap.size w w':=by
 have hs':(s.size:Int)<=140737488300000:=by omega
 have Kn:¬(s.size:Int)<9:=by omega
 go_enter Tryz.func95,Tryz.ntmps95
 go_wp2_with fail
 go_loop[4,10] (fun u i=>∃k:Nat,k<=8/\i=.int .i64 k/\u=.int .u64 (hor (zHl s k))) (fun _ i=>8-(intOf i).toNat)
 case atStart=>exact⟨0,Nat.zero_le _,rfl,rfl⟩
 case round=>
  obtain⟨k,hk,rfl,rfl⟩:=hrel
  by_cases h8:k<8
  ·have i1:(k:Int)<8:=by omega
   have i2:1+(k:Int)<(s.size:Int):=by omega
   have i3:1+k<s.size:=by omega
   have HE:Hid (bits BinOp.or IntKind.u64 (IntKind.u64.wrap (hor (zHl s k)*256)) (IntKind.u64.wrap (s[1+k].toNat:Int))=hor (zHl s (k+1))):=by
    show _=_
    have h1:=zSX k (zHl s k) (zPW s k (by omega))
    have h2:(256:Int) ^ k<=256 ^ 7:=by
     rcases(show k=0∨k=1∨k=2∨k=3∨k=4∨k=5∨k=6∨k=7 by omega) with rfl|rfl|rfl|rfl|rfl|rfl|rfl|rfl<;>decide
    have h3:=UInt8.toNat_lt s[1+k]
    rw[zTF _ _ (zHn _) (by omega) (by omega) (by omega),zRd s k i3,zLr]
   go_wp2
   go_round
   case rel=>exact⟨k+1,by omega,by go_num,congrArg (Value.int IntKind.u64) (zA0 HE)⟩
   case measure=>simp[intOf];omega
  ·have Qk:k=8:=by omega
   subst Qk
   have HE:Hid (wrap64 (bits BinOp.xor IntKind.u64 (hor (zHl s 8)) 9223372036854775808)=hor (zHl s 8)-9223372036854775808):=by
    show _=_
    have h1:=zSX 8 (zHl s 8) (zPW s 8 (by omega))
    have h2:=zHn (zHl s 8)
    rw[zNj _ h2 (by omega)]
    unfold wrap64
    omega
   have HN:=zA3 (zHj (hor (zHl s 8)-9223372036854775808))
   go_wp2_with (go_at_call 76;rw[zA0 HE];refine(zA0 HN _).mono ?_;rintro e w1 ⟨rfl,Hb⟩;obtain⟨Qj,QM⟩:=zCR Hb;rw[Val.open_])
   refine bodyPost_ret (v:=.tuple #[(Val.num (hor (zHl s 8)-9223372036854775808)).v,.int .i64 9]) (by simp[results,Tryz.results95,go_sem,Val.v,Qj,QM]) rfl ⟨rfl,?_⟩
   exact((((((Below.refl _ _).alloc (Nat.le_refl _) _).trans (Hb.mono (by simp))).setCell (by simp) _).setCell (by simp) _).setCell (by simp) _)
theorem zL4(s:ByteArray)(w:World)(h9:s.size<9) :
  Calls Tryz.prog 95 #[.string s] w fun e w'=>e=.returned (.tuple #[Val.null.v,.int .i64 0])/\Below w.heap.size w w':=by
 have Kn:(s.size:Int)<9:=by omega
 go_enter Tryz.func95,Tryz.ntmps95
 go_wp2
 exact bodyPost_ret (v:=.tuple #[Val.null.v,.int .i64 0]) (by simp[results,Tryz.results95,go_sem,Val.v,Val.null]) rfl ⟨rfl,by repeat (first|exact Below.refl _ _|refine Below.alloc ?_ (by simp<;>omega) _|refine Below.setCell ?_ (by simp<;>omega) _)⟩
def zIx(t:List Int)(m:Nat)(o:Option (List Int×Nat)):Option (List Int×Nat):=o.map fun p=>(t++p.1,m+p.2)
theorem zK8(t u:List Int)(m n:Nat)(o:Option (List Int×Nat)):zIx t m (zIx u n o)=zIx (t++u) (m+n) o:=by
 cases o with
 | none=>rfl
 | some p=>simp[zIx,List.append_assoc,Nat.add_assoc]
def zBJ:List UInt8->Option (List Int×Nat)
 | []=>none
 | [_]=>none
 | c::d::r=>if c.toNat=0 then (if d.toNat=255 then zIx [0] 2 (zBJ r) else if d.toNat=1 then some ([],2) else none) else zIx [(c.toNat:Int)] 1 (zBJ (d::r))
def zC9(s:ByteArray)(k:Nat):List UInt8:=s.data.toList.drop k
theorem zDe(s:ByteArray)(k:Nat)(h:k<s.size):zC9 s k=s[k]::zC9 s (k+1):=by
 unfold zC9
 rw[List.drop_eq_getElem_cons (by simpa using h)]
 rfl
theorem zGQ(s:ByteArray)(k:Nat)(h:s.size<=k):zC9 s k=[]:=by
 unfold zC9
 exact List.drop_eq_nil_of_le (by simpa using h)
theorem zUK(s:ByteArray)(k:Nat)(h:s.size<=k):zBJ (zC9 s k)=none:=by rw[zGQ s k h];rfl
theorem zRr(s:ByteArray)(k:Nat)(h:k<s.size)(h0:¬(s[k].toNat:Int)=0):zBJ (zC9 s k)=zIx [(s[k].toNat:Int)] 1 (zBJ (zC9 s (k+1))):=by
 have qL:¬s[k].toNat=0:=by omega
 rw[zDe s k h]
 by_cases h1:k+1<s.size
 ·rw[zDe s (k+1) h1,zBJ,if_neg qL]
 ·rw[zGQ s (k+1) (by omega)];rfl
theorem zL3(s:ByteArray)(k:Nat)(h:k+1=s.size):zBJ (zC9 s k)=none:=by
 rw[zDe s k (by omega),zGQ s (k+1) (by omega)];rfl
theorem zTX(s:ByteArray)(k:Nat)(h:k+1<s.size)(h0:(s[k].toNat:Int)=0):zBJ (zC9 s k)=if s[k+1].toNat=255 then zIx [0] 2 (zBJ (zC9 s (k+2))) else if s[k+1].toNat=1 then some ([],2) else none:=by
 have qL:s[k].toNat=0:=by omega
 rw[zDe s k (by omega),zDe s (k+1) h,zBJ,if_pos qL]
def zTV:Option (Val×Nat)->Value
 | some (x,n)=>.tuple #[x.v,.int .i64 n]
 | none=>.tuple #[Val.null.v,.int .i64 0]
def zJC(o:Option (List Int×Nat)):Option (Val×Nat):=o.map fun p=>(.str (toB p.1),p.2+1)
def Z0(w:World):World:=w.alloc (.cells #[.int .i64 0,.int .i64 0,.string ⟨#[]⟩] 59)
theorem zI9{w wr:World}(hb:Below (w.heap.size+1) (Z0 w) wr):(wr.cell? ⟨w.heap.size,0,none⟩=some (.int .i64 0)/\wr.cell? ⟨w.heap.size,1,none⟩=some (.int .i64 0)/\wr.cell? ⟨w.heap.size,2,none⟩=some (.string ⟨#[]⟩))/\(wr.frozen? ⟨w.heap.size,0,none⟩=false/\wr.frozen? ⟨w.heap.size,1,none⟩=false/\wr.frozen? ⟨w.heap.size,2,none⟩=false)/\Below w.heap.size w wr:=
 ⟨⟨(hb.cell (p := ⟨w.heap.size, 0, none⟩) (by simp)).trans (by simp [Z0, go_sem]), (hb.cell (p := ⟨w.heap.size, 1, none⟩) (by simp)).trans (by simp [Z0, go_sem]), (hb.cell (p := ⟨w.heap.size, 2, none⟩) (by simp)).trans (by simp [Z0, go_sem])⟩,
  ⟨(hb.frozen (p := ⟨w.heap.size, 0, none⟩) (by simp)).trans (by simp [Z0, go_sem]), (hb.frozen (p := ⟨w.heap.size, 1, none⟩) (by simp)).trans (by simp [Z0, go_sem]), (hb.frozen (p := ⟨w.heap.size, 2, none⟩) (by simp)).trans (by simp [Z0, go_sem])⟩,
  ((Below.refl _ _).alloc (Nat.le_refl _) _).trans (hb.mono (by omega))⟩
theorem zIh(s:ByteArray)(w:World)(h1:1<=s.size)(hs:s.size<=140737488300000) :
  Calls Tryz.prog 96 #[.string s] w fun e w'=>e=.returned (zTV (zJC (zBJ (zC9 s 1))))/\Below w.heap.size w w':=by
 obtain⟨i0,hi,QY,Qp,QC⟩:=info_parts Tryz.info5
 have hs':(s.size:Int)<=140737488300000:=by omega
 go_enter Tryz.func96,Tryz.ntmps96
 go_wp2_with fail
 go_loopw[4,5] (fun v i wr=>∃(k:Nat) (t:List Int),1<=k/\k<=s.size/\i=.int .i64 k/\t.length<=k/\zBC wr (w.heap.size+1) v t/\Hid (zBJ (zC9 s 1)=zIx t (k-1) (zBJ (zC9 s k)))/\Below (w.heap.size+1) (Z0 w) wr) (fun _ i _=>s.size-(intOf i).toNat)
 case atStart=>exact⟨1,[],by omega,by omega,rfl,by simp,World.ownsRow_nil _ _ _ _,by show _=_;cases zBJ (zC9 s 1)<;>simp[zIx],Below.refl _ _⟩
 case round=>
  obtain⟨k,t,Jv,JU,rfl,ht,ho,HF,hb⟩:=hrel
  by_cases h8:k<s.size
  ·have i1:(k:Int)<(s.size:Int):=by omega
   by_cases h0:(s[k].toNat:Int)=0
   ·have qL:((s[k].toNat:Int) != 0)=false:=by simpa using h0
    by_cases h7:k+1<s.size
    ·have yZ:=zA3 (zTX s k h7 h0)
     have i2:(k:Int)+1<(s.size:Int):=by omega
     have i3:((k:Int)+1 == (s.size:Int))=false:=by simp;omega
     by_cases d1:(s[k+1].toNat:Int)=255
     ·have d1':((s[k+1].toNat:Int) == 255)=true:=by simpa using d1
      have HE:Hid (zBJ (zC9 s k)=zIx [0] 2 (zBJ (zC9 s (k+2)))):=by show _=_;rw[zA0 yZ,if_pos (by omega)]
      clear d1 h0 yZ
      go_wp2_with (at_builtin;refine wpList_append_own_at _ rfl (.tmp 34) (.tmp 35) 71 rfl (w.heap.size+1) 5 i0 (.int .u8 0) 1 1 Tryz.underlying71 hi QY Qp QC rfl (by decide) _ _ _ rfl (World.ownsRow.alloc ho _) ⟨wr.heap.size,0,none⟩ 1 1 [.int .u8 0] rfl rfl (cell_one_new _ _ _) (by intro u hu;simp at hu;subst hu;rfl) (by unfold maxLen;omega) (by omega) (by have:=hb.size;simp[Z0] at this;simp;omega) ?_;intro v1 w1 Hc Ha _ Hl;have Hn:=zAt.app (zAt.refl wr u4) Ha Hl;have QU:=zBS (news:=[0]) rfl Hc;clear Hc Ha Hl)
      have Hb:Below (w.heap.size+1) (Z0 w) w1:=hb.trans (Hn.below (by have:=hb.size;simp[Z0] at this;omega) (fun g hg=>(zBN ho hg).1))
      have hF:zBJ (zC9 s 1)=zIx (t++[0]) (k+2-1) (zBJ (zC9 s (k+2))):=by
       rw[zA0 HF,zA0 HE,zK8]
       rw[show k-1+2=k+2-1 by omega]
      go_roundw
      case rel=>exact⟨k+2,t++[0],by omega,by omega,by go_num,by simp;omega,QU,hF,Hb⟩
      case measure=>simp[intOf];omega
     ·have d1':((s[k+1].toNat:Int) == 255)=false:=by simpa using d1
      obtain⟨⟨f0,f1,f2⟩,⟨g0,g1,g2⟩,Qn⟩:=zI9 hb
      by_cases d2:(s[k+1].toNat:Int)=1
      ·have d2':((s[k+1].toNat:Int) == 1)=true:=by simpa using d2
       have HE:Hid (zTV (zJC (zBJ (zC9 s 1)))=.tuple #[(Val.str (toB t)).v,.int .i64 ((k:Int)+1+1)]):=by
        show _=_
        rw[zA0 HF,zA0 yZ,if_neg (by omega),if_pos (by omega)]
        simp only[zIx,zJC,zTV,Option.map_some,List.append_nil]
        rw[show ((k-1+2+1:Nat):Int)=(k:Int)+1+1 by omega]
       have Qm:=zAe ho
       clear d1 d2 h0 yZ
       go_wp2_with (go_at_call 77;refine(zLR _ _).mono ?_;rintro e w1 ⟨rfl,Hb⟩;obtain⟨Qj,QM⟩:=zCR Hb;rw[Val.open_];have Qp:w.heap.size<wr.heap.size:=World.block_lt_of_cell? _ _ f0)
       refine bodyPost_ret (v:=.tuple #[(Val.str (toB t)).v,.int .i64 ((k:Int)+1+1)]) (by simp[results,Tryz.results96,go_sem,Val.v,Qj,QM,Qp,f0,f1,f2]) rfl ⟨by rw[zA0 HE],?_⟩
       exact(((zA2 Qn Hb).setCell (by simp) _).setCell (by simp) _).setCell (by simp) _
      ·have d2':((s[k+1].toNat:Int) == 1)=false:=by simpa using d2
       have HE:Hid (zBJ (zC9 s 1)=none):=by show _=_;rw[zA0 HF,zA0 yZ,if_neg (by omega),if_neg (by omega)];rfl
       clear d1 d2 h0 yZ
       go_wp2
       refine bodyPost_ret (v:=.tuple #[Val.null.v,.int .i64 0]) (by simp[results,Tryz.results96,go_sem,Val.v,Val.null,f0,f1,f2]) rfl ⟨by rw[zA0 HE];rfl,?_⟩
       exact((Qn.setCell (by simp) _).setCell (by simp) _).setCell (by simp) _
    ·have HE:Hid (zBJ (zC9 s 1)=none):=by show _=_;rw[zA0 HF,zL3 s k (by omega)];rfl
     have i3:((k:Int)+1 == (s.size:Int))=true:=by simp;omega
     obtain⟨⟨f0,f1,f2⟩,⟨g0,g1,g2⟩,Qn⟩:=zI9 hb
     clear h0
     go_wp2
     refine bodyPost_ret (v:=.tuple #[Val.null.v,.int .i64 0]) (by simp[results,Tryz.results96,go_sem,Val.v,Val.null,f0,f1,f2]) rfl ⟨by rw[zA0 HE];rfl,?_⟩
     exact((Qn.setCell (by simp) _).setCell (by simp) _).setCell (by simp) _
   ·have qL:((s[k].toNat:Int) != 0)=true:=by simpa using h0
    have HE:=zA3 (zRr s k h8 h0)
    clear h0
    go_wp2_with (at_builtin;refine wpList_append_own_at _ rfl (.tmp 16) (.tmp 20) 71 rfl (w.heap.size+1) 5 i0 (.int .u8 0) 1 1 Tryz.underlying71 hi QY Qp QC rfl (by decide) _ _ _ rfl (World.ownsRow.alloc ho _) ⟨wr.heap.size,0,none⟩ 1 1 [.int .u8 (s[k].toNat:Int)] rfl rfl (cell_one_new _ _ _) (by intro u hu;simp at hu;subst hu;rfl) (by unfold maxLen;omega) (by omega) (by have:=hb.size;simp[Z0] at this;simp;omega) ?_;intro v1 w1 Hc Ha _ Hl;have Hn:=zAt.app (zAt.refl wr u4) Ha Hl;have QU:=zBS (news:=[(s[k].toNat:Int)]) rfl Hc;clear Hc Ha Hl)
    have Hb:Below (w.heap.size+1) (Z0 w) w1:=hb.trans (Hn.below (by have:=hb.size;simp[Z0] at this;omega) (fun g hg=>(zBN ho hg).1))
    have hF:zBJ (zC9 s 1)=zIx (t++[(s[k].toNat:Int)]) (k+1-1) (zBJ (zC9 s (k+1))):=by
     rw[zA0 HF,zA0 HE,zK8]
     rw[show k-1+1=k+1-1 by omega]
    go_roundw
    case rel=>exact⟨k+1,t++[(s[k].toNat:Int)],by omega,by omega,by go_num,by simp;omega,QU,hF,Hb⟩
    case measure=>simp[intOf];omega
  ·have hk:k=s.size:=by omega
   have i1:¬(k:Int)<(s.size:Int):=by omega
   have HE:Hid (zBJ (zC9 s 1)=none):=by show _=_;rw[zA0 HF,zUK s k (by omega)];rfl
   obtain⟨⟨f0,f1,f2⟩,⟨g0,g1,g2⟩,Qn⟩:=zI9 hb
   clear hk
   go_wp2
   refine bodyPost_ret (v:=.tuple #[Val.null.v,.int .i64 0]) (by simp[results,Tryz.results96,go_sem,Val.v,Val.null,f0,f1,f2]) rfl ⟨by rw[zA0 HE];rfl,?_⟩
   exact((Qn.setCell (by simp) _).setCell (by simp) _).setCell (by simp) _
def zCr(s:ByteArray):Option (Val×Nat):=
 match zC9 s 0 with
 | []=>none
 | c::_=>if c.toNat=1 then some (.null,1)
  else if c.toNat=2 then (if 9<=s.size then some (.num (hor (zHl s 8)-9223372036854775808),9) else none)
  else if c.toNat=3 then zJC (zBJ (zC9 s 1)) else none
theorem zJv(s:ByteArray)(h:0<s.size):zCr s=if s[0].toNat=1 then some (.null,1)
  else if s[0].toNat=2 then (if 9<=s.size then some (.num (hor (zHl s 8)-9223372036854775808),9) else none)
  else if s[0].toNat=3 then zJC (zBJ (zC9 s 1)) else none:=by
 unfold zCr
 rw[zDe s 0 h]
theorem zJr(o:Option (Val×Nat)):∃x n,zTV o=.tuple #[x.v,.int .i64 (n:Nat)]/\(∀p,o=some p->x=p.1/\n=p.2)/\(o=none->x=.null/\n=0):=by
 cases o with
 | none=>exact⟨.null,0,rfl,(fun p h=>by cases h),(fun _=>⟨rfl,rfl⟩)⟩
 | some p=>exact⟨p.1,p.2,rfl,(fun q h=>by cases h;exact⟨rfl,rfl⟩),(fun h=>by cases h)⟩
theorem zG7(s:ByteArray)(w:World)(h1:0<s.size)(hs:s.size<=140737488300000) :
  Calls Tryz.prog 72 #[.string s] w fun e w'=>e=.returned (zTV (zCr s))/\Below w.heap.size w w':=by
 have e:=zJv s h1
 have i0:(0:Int)<(s.size:Int):=by omega
 by_cases c1:(s[0].toNat:Int)=1
 ·have c1':((s[0].toNat:Int) == 1)=true:=by simpa using c1
  rw[if_pos (by omega)] at e
  rw[e]
  clear e c1
  go_enter Tryz.func72,Tryz.ntmps72
  go_wp2
  exact bodyPost_ret (v:=.tuple #[Val.null.v,.int .i64 1]) (by simp[results,Tryz.results72,go_sem,Val.v,Val.null]) rfl ⟨rfl,by repeat (first|exact Below.refl _ _|refine Below.alloc ?_ (by simp<;>omega) _|refine Below.setCell ?_ (by simp<;>omega) _)⟩
 ·have c1':((s[0].toNat:Int) == 1)=false:=by simpa using c1
  rw[if_neg (by omega)] at e
  by_cases c2:(s[0].toNat:Int)=2
  ·have c2':((s[0].toNat:Int) == 2)=true:=by simpa using c2
   rw[if_pos (by omega)] at e
   have HC:Hid (∀w,Calls Tryz.prog 95 #[.string s] w fun e w'=>e=.returned (zTV (zCr s))/\Below w.heap.size w w'):=by
    intro w
    rw[e]
    by_cases h9:9<=s.size
    ·rw[if_pos h9];exact zJu s w h9 hs
    ·rw[if_neg h9];exact zL4 s w (by omega)
   obtain⟨x,n,hg,_,_⟩:=zJr (zCr s)
   rw[hg] at HC ⊢
   clear e c1 c2 hg
   go_enter Tryz.func72,Tryz.ntmps72
   go_wp2_with (go_at_call 95;refine(zA0 HC _).mono ?_;rintro e w1 ⟨rfl,Hb⟩;obtain⟨Qj,QM⟩:=zCR Hb;rw[Val.open_])
   refine bodyPost_ret (v:=.tuple #[x.v,.int .i64 n]) (by simp[results,Tryz.results72,go_sem,Val.v,Qj,QM]) rfl ⟨rfl,?_⟩
   exact((((((Below.refl _ _).alloc (Nat.le_refl _) _).trans (Hb.mono (by simp))).setCell (by simp) _).setCell (by simp) _).setCell (by simp) _)
  ·have c2':((s[0].toNat:Int) == 2)=false:=by simpa using c2
   rw[if_neg (by omega)] at e
   by_cases c3:(s[0].toNat:Int)=3
   ·have c3':((s[0].toNat:Int) == 3)=true:=by simpa using c3
    rw[if_pos (by omega)] at e
    have HC:Hid (∀w,Calls Tryz.prog 96 #[.string s] w fun e w'=>e=.returned (zTV (zCr s))/\Below w.heap.size w w'):=by
     intro w
     rw[e]
     exact zIh s w h1 hs
    obtain⟨x,n,hg,_,_⟩:=zJr (zCr s)
    rw[hg] at HC ⊢
    clear e c1 c2 c3 hg
    go_enter Tryz.func72,Tryz.ntmps72
    go_wp2_with (go_at_call 96;refine(zA0 HC _).mono ?_;rintro e w1 ⟨rfl,Hb⟩;obtain⟨Qj,QM⟩:=zCR Hb;rw[Val.open_])
    refine bodyPost_ret (v:=.tuple #[x.v,.int .i64 n]) (by simp[results,Tryz.results72,go_sem,Val.v,Qj,QM]) rfl ⟨rfl,?_⟩
    exact((((((Below.refl _ _).alloc (Nat.le_refl _) _).trans (Hb.mono (by simp))).setCell (by simp) _).setCell (by simp) _).setCell (by simp) _)
   ·have c3':((s[0].toNat:Int) == 3)=false:=by simpa using c3
    rw[if_neg (by omega)] at e
    rw[e]
    clear e c1 c2 c3
    go_enter Tryz.func72,Tryz.ntmps72
    go_wp2
    exact bodyPost_ret (v:=.tuple #[Val.null.v,.int .i64 0]) (by simp[results,Tryz.results72,go_sem,Val.v,Val.null]) rfl ⟨rfl,by repeat (first|exact Below.refl _ _|refine Below.alloc ?_ (by simp<;>omega) _|refine Below.setCell ?_ (by simp<;>omega) _)⟩
theorem zRL{w:World}{base:Nat}{v:Value}{xs:List Val}(h:zAV w base v xs){g:Nat}(hg:v.ownBlock=some g):base<=g/\g<w.heap.size:=World.ownsRow.lt h g hg
theorem zK7{t u:List Int}{m n:Nat}{o:Option (List Int×Nat)}(h:zIx t m o=some (u,n)):∃u' n',o=some (u',n')/\n=m+n':=by
 cases o with
 | none=>simp[zIx] at h
 | some p=>simp[zIx] at h;exact⟨p.1,p.2,rfl,by omega⟩
theorem zRt:∀(N:Nat) (l:List UInt8) (t:List Int) (m:Nat),l.length<=N->zBJ l=some (t,m)->m<=l.length:=by
 intro N
 induction N with
 | zero=>intro l t m hl h;have:l=[]:=List.eq_nil_of_length_eq_zero (by omega);subst this;simp[zBJ] at h
 | succ N ih=>
  intro l t m hl h
  match l,hl,h with
  | [],_,h=>simp[zBJ] at h
  | [c],_,h=>simp[zBJ] at h
  | c::d::r,hl,h=>
   simp only[List.length_cons] at hl
   rw[zBJ] at h
   split at h
   ·split at h
    ·obtain⟨u',n',h1,h2⟩:=zK7 h
     have:=ih r u' n' (by omega) h1
     simp only[List.length_cons]
     omega
    ·split at h
     ·simp at h;simp only[List.length_cons];omega
     ·cases h
   ·obtain⟨u',n',h1,h2⟩:=zK7 h
    have:=ih (d::r) u' n' (by simp only[List.length_cons];omega) h1
    simp only[List.length_cons] at *
    omega
theorem zIi{s:ByteArray}{x:Val}{n:Nat}(h:zCr s=some (x,n)):1<=n/\n<=s.size:=by
 by_cases h0:0<s.size
 ·rw[zJv s h0] at h
  split at h
  ·simp at h;omega
  ·split at h
   ·split at h
    ·simp at h;omega
    ·cases h
   ·split at h
    ·cases hf:zBJ (zC9 s 1) with
     | none=>rw[hf] at h;simp[zJC] at h
     | some p=>
      rw[hf] at h
      simp[zJC] at h
      have:=zRt _ _ p.1 p.2 (Nat.le_refl _) hf
      simp[zC9] at this
      omega
    ·cases h
 ·rw[zCr,zGQ s 0 (by omega)] at h
  cases h
def zKg:Nat->ByteArray->Option (List Val)
 | 0,s=>if s.size=0 then some [] else none
 | f+1,s=>if s.size=0 then some [] else match zCr s with
  | none=>none
  | some (x,n)=>(zKg f (s.extract n s.size)).map (x :: ·)
theorem zOi:∀(f:Nat) (s:ByteArray),s.size<=f->zKg (f+1) s=zKg f s:=by
 intro f
 induction f with
 | zero => intro s h; have h0 : s.size = 0 := by omega
           simp [zKg, h0]
 | succ f ih=>
  intro s h
  rw[zKg]
  by_cases h0:s.size=0
  ·simp[zKg,h0]
  ·rw[if_neg h0]
   rw[zKg,if_neg h0]
   cases hf:zCr s with
   | none=>rfl
   | some p=>
    obtain⟨x,n⟩:=p
    have:=zIi hf
    simp only
    rw[ih _ (by simp;omega)]
theorem zOj(s:ByteArray):∀(f:Nat),s.size<=f->zKg f s=zKg s.size s:=by
 intro f h
 induction f with
 | zero => have : s.size = 0 := by omega
           rw [this]
 | succ f ih=>
  by_cases h1:s.size=f+1
  ·rw[h1]
  ·rw[zOi f s (by omega),ih (by omega)]
def zCW(s:ByteArray):Option (List Val):=zKg s.size s
theorem zHt(s:ByteArray)(h:s.size=0):zCW s=some []:=by
 unfold zCW;rw[h];simp[zKg,h]
theorem zL6(s:ByteArray)(h:0<s.size)(hf:zCr s=none):zCW s=none:=by
 unfold zCW
 obtain⟨m,hm⟩:∃m,s.size=m+1:=⟨s.size-1,by omega⟩
 rw[hm,zKg,if_neg (by omega),hf]
theorem zH7(s:ByteArray)(x:Val)(n:Nat)(hf:zCr s=some (x,n)):zCW s=(zCW (s.extract n s.size)).map (x :: ·):=by
 have h1:=zIi hf
 unfold zCW
 obtain⟨m,hm⟩:∃m,s.size=m+1:=⟨s.size-1,by omega⟩
 have e:zKg s.size s=(zKg m (s.extract n s.size)).map (x :: ·):=by
  conv=>lhs;rw[hm]
  rw[zKg,if_neg (by omega),hf]
 rw[e,zOj _ m (by simp;omega)]
def zUX(w':World)(base:Nat)(o:Option (List Val))(e:Ending):Prop:=
 match o with
 | some xs=>∃v,e=.returned (.tuple #[v,.int .i64 0])/\zAV w' base v xs
 | none=>e=.returned (.tuple #[.slice none 0 0,.int .i64 2])
def zSQ:Value->Nat
 | .string s=>s.size
 | _=>0
theorem zRw(s:ByteArray)(w:World)(hs:s.size<=1000000000) :
  Calls Tryz.prog 44 #[.string s] w fun e w'=>zUX w' w.heap.size (zCW s) e/\Below w.heap.size w w':=by
 obtain⟨i0,hi,QY,Qp,QC⟩:=info_parts Tryz.info59
 go_enter Tryz.func44,Tryz.ntmps44
 go_wp2_with fail
 go_loopw[0,4] (fun key v wr=>∃(s':ByteArray) (xs:List Val),key=.string s'/\xs.length+s'.size<=s.size/\zAV wr w.heap.size v xs/\Hid (zCW s=(zCW s').map (xs++·))/\Below w.heap.size w wr) (fun key _ _=>zSQ key)
 case atStart=>exact⟨s,[],rfl,by simp,World.ownsRow_lit w #[] 0 (Nat.le_refl _) (by decide) rfl,by show _=_;cases zCW s<;>simp,(Below.refl _ _).alloc (Nat.le_refl _) _⟩
 case round=>
  obtain⟨s',xs,rfl,hl,ho,HD,hb⟩:=hrel
  by_cases h1:0<s'.size
  ·have i1:(0:Int)<(s'.size:Int):=by omega
   cases hf:zCr s' with
   | none=>
    have HE:Hid (zCW s=none):=by show _=_;rw[zA0 HD,zL6 s' h1 hf];rfl
    have HC:Hid (∀w,Calls Tryz.prog 72 #[.string s'] w fun e w'=>e=.returned (.tuple #[Val.null.v,.int .i64 0])/\Below w.heap.size w w'):=by
     intro w
     have:=zG7 s' w h1 (by omega)
     rw[hf] at this
     exact this
    clear hf
    go_wp2_with (go_at_call 72;refine(zA0 HC _).mono ?_;rintro e w1 ⟨rfl,Hb⟩;rw[Val.open_])
    go_ret2
    exact⟨by rw[zA0 HE];rfl,zA1 (zA2 hb Hb) _⟩
   | some p=>
    obtain⟨x,n⟩:=p
    have hn:=zIi hf
    have HE:Hid (zCW s=(zCW (s'.extract n s'.size)).map ((xs++[x])++·)):=by
     show _=_
     rw[zA0 HD,zH7 s' x n hf]
     cases zCW (s'.extract n s'.size)<;>simp
    have HC:Hid (∀w,Calls Tryz.prog 72 #[.string s'] w fun e w'=>e=.returned (.tuple #[x.v,.int .i64 n])/\Below w.heap.size w w'):=by
     intro w
     have:=zG7 s' w h1 (by omega)
     rw[hf] at this
     exact this
    obtain⟨TK,TJ⟩:=hn
    have i2:((n:Int) == 0)=false:=by simp;omega
    have i3:(n:Int)<=(s'.size:Int):=by omega
    clear hf
    go_wp2_with (first
     | (go_at_call 72;refine(zA0 HC _).mono ?_;rintro e w1 ⟨rfl,Hb⟩;rw[Val.open_];have QU:=ho.later Hb;have Qn:=zA2 hb Hb)
     | (at_builtin;refine wpList_append_own_at _ rfl (.tmp 18) (.tmp 20) 37 rfl w.heap.size 59 i0 (.agg #[.int .i64 0,.int .i64 0,.string ⟨#[]⟩]) 3 32 Tryz.underlying37 hi QY Qp QC rfl (by decide) _ _ _ rfl (World.ownsRow.alloc (World.ownsRow.alloc QU _) _) ⟨w1.heap.size+1,0,none⟩ 1 1 (c3 x) rfl rfl ?_ (by intro u hu;simp[c3] at hu;rcases hu with rfl|rfl|rfl<;>rfl) (by unfold maxLen;omega) (by omega) (by have:=Qn.size;simp;omega) ?_;rotate_right;intro v1 w2 Hc Ha _ Hl;have Hn:=zAt.app2 Ha Hl;have Qi:=zB9 Hc;clear Hc Ha Hl))
    ·have Hj:zAt w1 w2 u4 v1:=Hn
     have Hh:Below w.heap.size w w2:=Qn.trans (Hj.below Qn.size (fun g hg=>(zRL QU hg).1))
     have QK:(s'.extract n s'.size).size=s'.size-n:=by simp
     clear Hn Hj
     go_roundw
     case rel=>exact⟨_,xs++[x],rfl,by rw[QK,zAX,List.length_singleton];omega,Qi,HE,Hh⟩
     case measure=>simp only[zSQ];omega
    ·intro j u hj
     match j,hj with
     | 0,hj=>simp[c3] at hj;subst hj;simp[Addr.add,go_sem]
     | 1,hj=>simp[c3] at hj;subst hj;simp[Addr.add,go_sem]
     | 2,hj=>simp[c3] at hj;subst hj;simp[Addr.add,go_sem]
     | j+3,hj=>simp[c3] at hj
  ·have h0:s'.size=0:=by omega
   have i1:¬(0:Int)<(s'.size:Int):=by omega
   have HE:Hid (zCW s=some xs):=by show _=_;rw[zA0 HD,zHt s' h0];simp
   clear h0
   go_wp2
   go_ret2
   exact⟨by rw[zA0 HE];exact⟨_,rfl,ho⟩,hb⟩
theorem zE6(zs:List Int):(toB zs).data.toList=zs.map ofI:=by rw[zFx]
theorem zIW(c:UInt8):ofI (c.toNat:Int)=c:=by simp[ofI]
def Byt(z:Int):Prop:=0<=z/\z<256
theorem zUO(U:Int):be U 0=U / 72057594037927936 % 256/\be U 1=U / 281474976710656 % 256/\be U 2=U / 1099511627776 % 256/\be U 3=U / 4294967296 % 256/\be U 4=U / 16777216 % 256/\be U 5=U / 65536 % 256/\be U 6=U / 256 % 256/\be U 7=U % 256:=by
 refine⟨?_,?_,?_,?_,?_,?_,?_,?_⟩<;>simp[be]
theorem zUP(U:Int)(h0:0<=U)(h:U<18446744073709551616):U=be U 0*72057594037927936+be U 1*281474976710656+be U 2*1099511627776+be U 3*4294967296+be U 4*16777216+be U 5*65536+be U 6*256+be U 7:=by
 obtain⟨e0,e1,e2,e3,e4,e5,e6,e7⟩:=zUO U
 omega
theorem zUQ(U:Int)(k:Nat):Byt (be U k):=by unfold Byt be;omega
theorem zSf(U:Int):be8 U 8=[be U 0,be U 1,be U 2,be U 3,be U 4,be U 5,be U 6,be U 7]:=rfl
theorem zAB(x:Val):(x.k=1/\zA8 x=.num x.n/\zFo x=2::be8 (zJ1 x.n) 8)∨(x.k=2/\zA8 x=.str x.s/\zFo x=3::(zCs x.s.data.toList++[0,1]))∨(zA8 x=.null/\zFo x=[1]):=by
 by_cases h1:x.k=1
 ·exact .inl ⟨h1,by simp[zA8,h1],by simp[zFo,h1]⟩
 ·by_cases h2:x.k=2
  ·exact .inr (.inl ⟨h2,by simp[zA8,h2],by simp[zFo,h2]⟩)
  ·exact .inr (.inr ⟨by simp[zA8,h1,h2],by simp[zFo,h1,h2]⟩)
theorem zUI(U:Int)(h0:0<=U)(h:U<18446744073709551616):hor ((be8 U 8).map ofI)=U:=by
 have e:=zUP U h0 h
 have t:∀k,((ofI (be U k)).toNat:Int)=be U k:=by
  intro k
  have:=zUQ U k
  unfold Byt at this
  simp[ofI]
  omega
 rw[zSf]
 simp only[hor,List.map_cons,List.map_nil,List.foldl_cons,List.foldl_nil,t]
 omega
theorem zHr:∀(l:List UInt8) (r:List UInt8),zBJ ((zCs l).map ofI++0::1::r)=some (l.map (fun c=>(c.toNat:Int)),(zCs l).length+2)
 | [],r=>rfl
 | c::l,r=>by
  have ih:=zHr l r
  by_cases hc:c.toNat=0
  ·have e:(zCs (c::l)).map ofI++0::1::r=c::255::((zCs l).map ofI++0::1::r):=by
    simp[zCs,hc]
    exact⟨by rw[<-zIW c,hc];rfl,rfl⟩
   rw[e,zBJ,if_pos hc,if_pos (by decide),ih]
   simp[zIx,zCs,hc]
   omega
  ·have e:(zCs (c::l)).map ofI++0::1::r=c::((zCs l).map ofI++0::1::r):=by
    simp[zCs,hc,zIW]
   have e2:∃d t,(zCs l).map ofI++0::1::r=d::t:=by
    cases (zCs l).map ofI with
    | nil=>exact⟨0,_,rfl⟩
    | cons d t=>exact⟨d,_,rfl⟩
   obtain⟨d,t,e3⟩:=e2
   rw[e,e3,zBJ,if_neg hc,<-e3,ih]
   simp[zIx,zCs,hc]
   omega
theorem zO7(s:ByteArray):toB (s.data.toList.map (fun c=>(c.toNat:Int)))=s:=by
 apply WideShapes.bytes_inj
 rw[zE6,List.map_map]
 have:(ofI ∘ fun c:UInt8=>(c.toNat:Int))=id:=by funext c;exact zIW c
 rw[this,List.map_id]
theorem zJx(zs:List Int)(k:Nat):zC9 (toB zs) k=(zs.drop k).map ofI:=by
 unfold zC9
 rw[zE6,List.map_drop]
theorem zKS(a b:List Int):(toB (a++b)).extract a.length (toB (a++b)).size=toB b:=by
 apply WideShapes.bytes_inj
 rw[Lib.extract_data,zE6,zE6,zAN]
 simp
 exact List.take_of_length_le (by simp)
theorem zNE(x:Val)(hx:zUW x.n)(r:List Int):zCr (toB (zFo x++r))=some (zA8 x,(zFo x).length):=by
 have Js:0<(toB (zFo x++r)).size:=by
  rw[zAN]
  rcases zAB x with ⟨_,_,ex⟩|⟨_,_,ex⟩|⟨_,ex⟩<;>simp[ex]
 unfold zCr
 rw[zJx]
 rcases zAB x with ⟨_,cx,ex⟩|⟨_,cx,ex⟩|⟨cx,ex⟩
 ·rw[ex,cx]
  have eU:=zTT x.n hx
  unfold zUW at hx
  have hm:zHl (toB (2::be8 (zJ1 x.n) 8++r)) 8=(be8 (zJ1 x.n) 8).map ofI:=by
   unfold zHl
   rw[zE6]
   simp[zSf]
  have h9:9<=(toB (2::be8 (zJ1 x.n) 8++r)).size:=by rw[zAN];simp[zFt]
  simp only[List.cons_append,List.drop_zero,List.map_cons] at *
  rw[if_neg (by decide),if_pos (by decide),if_pos h9,hm,zUI _ (by omega) (by omega),eU]
  simp[zFt]
 ·rw[ex,cx]
  have hd:zC9 (toB (3::(zCs x.s.data.toList++[0,1])++r)) 1=(zCs x.s.data.toList).map ofI++0::1::r.map ofI:=by
   rw[zJx]
   simp
   exact⟨rfl,rfl⟩
  simp only[List.cons_append,List.drop_zero,List.map_cons] at *
  rw[if_neg (by decide),if_neg (by decide),if_pos (by decide),hd,zHr]
  simp[zJC,zO7]
 ·rw[ex,cx]
  simp only[List.cons_append,List.drop_zero,List.map_cons]
  rw[if_pos (by decide)]
  simp
theorem zHu:∀(xs:List Val),(∀x∈xs,zUW x.n)->zCW (toB (zGE xs))=some (xs.map zA8)
 | [],_=>zHt _ (by rw[zAN];rfl)
 | x::xs,hx=>by
  have ih:=zHu xs (fun z hz=>hx z (by simp[hz]))
  have e:zGE (x::xs)=zFo x++zGE xs:=by simp[zGE]
  rw[e,zH7 _ _ _ (zNE x (hx x (by simp)) (zGE xs)),zKS,ih]
  simp
end Go.Proofs.YtekgpapophibcaaGreat
