import Derived.ProofKit
import Derived.OpenShut
import Derived.Lib.SmallJoins
import Derived.ChangeOld
import Derived.Deep.Slices
import Derived.Deep.Strs
import Derived.JoinedCond
import Derived.SizedLaws
import Derived.Test.YtbfibfmnemnbbaaGreatQSgG
set_option linter.unusedSimpArgs false
set_option linter.unusedVariables false
set_option maxRecDepth 100000
namespace Go.Proofs.YtbfibfmnemnbbaaGreat
open Go.RowKit Go.Sort
variable {H:Type}{enc:TypeId×Value->H}{w:World}{base:Nat}{spare:Nat->Bool}{held:Bool}
def In64(n:Int):Prop:=-9223372036854775808<=n/\n<=9223372036854775807
end Go.Proofs.YtbfibfmnemnbbaaGreat
set_option linter.unusedSimpArgs false
set_option linter.unusedVariables false
set_option maxHeartbeats 4000000
set_option maxRecDepth 100000
namespace Go.Proofs.YtbfibfmnemnbbaaGreat
open Go.RowKit Go.Sort
def noKB(k:Int):Bool:=(k != 1) && (k != 2)
theorem noKind_any(k:Int)(w:World):Calls Tryz.prog 14 #[.int .i64 k] w fun e w'=>e=.returned (.bool (noKB k))/\w'=w:=by
 unfold noKB
 cases h:(k != 1)
 ·go_enter Tryz.func14,Tryz.ntmps14
  go_wp2
  go_ret
  exact⟨by simp,rfl⟩
 ·go_enter Tryz.func14,Tryz.ntmps14
  go_wp2
  go_ret
  exact⟨by simp,rfl⟩
def largeTB(x:Val):Bool:=(x.k == 2) && decide (1000<(x.s.size:Int))
theorem largeT_any(x:Val)(w:World):Calls Tryz.prog 34 #[x.v] w fun e w'=>e=.returned (.bool (largeTB x))/\Below w.heap.size w w':=by
 unfold largeTB
 rw[x.open_]
 cases h:(x.k == 2)
 ·go_enter Tryz.func34,Tryz.ntmps34
  go_wp2
  go_ret
  exact⟨by simp,below_alloc (Below.refl _ _) _⟩
 ·go_enter Tryz.func34,Tryz.ntmps34
  go_wp2
  go_ret
  exact⟨by simp,below_alloc (Below.refl _ _) _⟩
theorem hasLarge_any(r:List Val)(a:Option Addr)(c:Nat)(w:World)(hl:r.length<=140737488355328)(ha:RowAt w a r):Calls Tryz.prog 16 #[.slice a r.length c] w fun e w'=>e=.returned (.bool (r.any largeTB))/\Below w.heap.size w w':=by
 have H:=hide (containsX_any (.func (.func 34) #[] #[]) largeTB a c r w hl ha ⟨34,#[],rfl,fun _ _=>rfl,fun x W' _=>by simpa using largeT_any x W'⟩)
 clear ha
 go_enter Tryz.func16,Tryz.ntmps16
 go_wp2_with (first | (go_at_call 33;refine(unhide H).mono ?_;rintro _ w1 ⟨rfl,hb1⟩))
 go_ret
 exact⟨rfl,hb1⟩
theorem len_any1(n:Nat)(r:List Val)(a a2:Option Addr)(c c2 b:Nat)(w:World)(h:w.cell? ⟨b,0,none⟩=some (.slice a2 n c2)):Calls Tryz.prog 17 #[.slice a r.length c,.pointer (some ⟨b,0,none⟩)] w fun e w'=>e=.returned (.bool ((r.length:Int) != (n:Int)))/\w'=w:=by
 go_enter Tryz.func17,Tryz.ntmps17
 go_wp2
 go_ret
 exact⟨by simp,rfl⟩
def VInv(w0 w:World)(n k:Nat)(ys:List Val):Prop:=Below w0.heap.size w0 w/\(∃F,w.rowIs w0.heap.size 25 (n*3) F/\Holds3 F k ys)
theorem VInv.start(w:World)(n:Nat)(ys:List Val)(z:Array Value):VInv w (w.alloc (.cells (madeCells z (n*3)) 25)) n 0 ys:=by
 obtain⟨F,hF⟩:=rowIs_any w (madeCells z (n*3)) 25
 rw[size_madeCells] at hF
 exact⟨below_alloc (Below.refl _ _) _,F,hF,Holds3.zero _ _⟩
theorem VInv.step{w0 w:World}{n k:Nat}{ys:List Val}{y:Val}(h:VInv w0 w n k ys)(hy:ys[k]?=some y) :
  VInv w0 (((w.setCell ⟨w0.heap.size,k*3,none⟩ (.int .i64 y.k)).setCell ⟨w0.heap.size,k*3+1,none⟩ (.int .i64 y.n)).setCell ⟨w0.heap.size,k*3+2,none⟩ (.string y.s)) n (k+1) ys:=by
 obtain⟨hb,⟨F,hF,hF'⟩⟩:=h
 exact⟨((hb.setCell (Nat.le_refl _) _).setCell (Nat.le_refl _) _).setCell (Nat.le_refl _) _,_,((hF.set _ _).set _ _).set _ _,hF'.step hy⟩
def colL(rs:List (List Val))(i:Nat):List Val:=rs.map fun r=>r.getD i .null
theorem colL_at{rs:List (List Val)}{i k:Nat}{r:List Val}{x:Val}(h:rs[k]?=some r)(hx:r[i]?=some x):(colL rs i)[k]?=some x:=by simp[colL,h,hx]
theorem valuesIn_any(a:Option Addr)(c i:Nat)(rs:List (List Val))(w:World)(hl:rs.length<=4096)(hi:i<=4096)(hr:∀r∈rs,i<r.length)(ha:RowsAt w a rs) :
  Calls Tryz.prog 19 #[.slice a rs.length c,.int .i64 (i:Int)] w fun e w'=>∃a',e=.returned (.slice a' rs.length rs.length)/\RowAt w' a' (colL rs i)/\Below w.heap.size w w':=by
 obtain⟨i4,hi4,z40,z41,z42⟩:=info_parts Tryz.info25
 have HA:=hide ha
 have HR:=hide hr
 clear ha hr
 go_enter Tryz.func19,Tryz.ntmps19
 go_wp2_with (first
  | (at_make;refine wpList_make_rows _ rfl (.tmp 9) (.tmp 9) 36 rfl 25 i4 _ Tryz.underlying36 hi4 z40 3 z41 .i64 .i64 rs.length rfl rfl (by rw[z42];omega) (by omega) ?_)
  | fail)
 go_loopw[13] (fun s wr=>∃k:Nat,k<=rs.length/\s=.int .i64 (k:Int)/\VInv w wr rs.length k (colL rs i)) (fun s _=>rs.length-(intOf s).toNat)
 case atStart=>exact⟨0,Nat.zero_le _,rfl,VInv.start _ _ _ _⟩
 case round=>
  obtain⟨k,hk,rfl,hI⟩:=hrel
  have HI:=hide hI
  obtain⟨hb,⟨F,hF,hF'⟩⟩:=hI
  have hz:=hF.lt
  by_cases h1:k<rs.length
  ·have i1:(k:Int)<(rs.length:Int):=by omega
   obtain⟨r,hx⟩:∃r,rs[k]?=some r:=⟨_,List.getElem?_eq_getElem h1⟩
   obtain⟨vb,vo,rfl,ra,rc,c0,hra⟩:=rows_get ((unhide HA).later hb) hx
   have hir:=unhide HR r (List.mem_of_getElem? hx)
   obtain⟨x,hxi⟩:∃x,r[i]?=some x:=⟨_,List.getElem?_eq_getElem hir⟩
   obtain⟨rb,ro,rfl,d0,d1,d2⟩:=row_get hra hxi
   have i2:(i:Int)<(r.length:Int):=by omega
   obtain⟨p0,p1,p2,q0,q1,q2⟩:=three (k:=k) hF (by omega)
   have HY:=hide (colL_at hx hxi)
   clear hx hxi hra hF' hb
   go_wp2
   go_roundw
   case rel=>exact⟨k+1,by omega,by go_num,(unhide HI).step (unhide HY)⟩
   case measure=>simp[intOf];omega
  ·have e:k=rs.length:=by omega
   have i1:¬(k:Int)<(rs.length:Int):=by omega
   rw[e] at hF'
   clear HI e
   go_wp2
   go_ret
   exact⟨_,rfl,row_of_row hF (by simp[colL]) hF',hb⟩
end Go.Proofs.YtbfibfmnemnbbaaGreat
set_option linter.unusedSimpArgs false
set_option linter.unusedVariables false
set_option maxRecDepth 100000
namespace Go.Proofs.YtbfibfmnemnbbaaGreat
open Go.RowKit Go.Sort
def oddB(n:Nat)(r:List Val):Bool:=(r.length:Int) != (n:Int)
structure Looks(w:World)(kinds:List Int)(ak:Option Addr)(ck:Nat)(rs:List (List Val))(ar:Option Addr)(cr:Nat):Prop where
 hk:∀W,Below w.heap.size w W->Calls Tryz.prog 13 #[.slice ak kinds.length ck,.func (.func 14) #[] #[]] W fun e w'=>e=.returned (.bool (kinds.any noKB))/\Below W.heap.size W w'
 hl:∀W,Below w.heap.size w W->Calls Tryz.prog 15 #[.slice ar rs.length cr,.func (.func 16) #[] #[]] W fun e w'=>e=.returned (.bool (rs.any fun r=>r.any largeTB))/\Below W.heap.size W w'
 hn:∀W,Below w.heap.size w W->W.cell? ⟨w.heap.size,0,none⟩=some (.slice ak kinds.length ck)->Calls Tryz.prog 15 #[.slice ar rs.length cr,.func (.func 17) #[] #[.pointer (some ⟨w.heap.size,0,none⟩)]] W fun e w'=>e=.returned (.bool (rs.any (oddB kinds.length)))/\Below W.heap.size W w'
theorem looks(w:World)(kinds:List Int)(ak:Option Addr)(ck:Nat)(rs:List (List Val))(ar:Option Addr)(cr:Nat)(h1:kinds.length<=140737488355328)(h2:rs.length<=140737488355328)(h3:∀r∈rs,r.length<=140737488355328)(hak:LisAt w ak (kinds.map (Value.int .i64)))(har:RowsAt w ar rs):Looks w kinds ak ck rs ar cr:=by
 refine⟨fun W hW=>?_,fun W hW=>?_,fun W hW hc=>?_⟩
 ·exact containsI_any (.func (.func 14) #[] #[]) noKB ak ck kinds W h1 (hak.later hW) ⟨14,#[],rfl,fun _ _=>by kernel_rfl,fun x W' hb=>by
   refine(noKind_any x W').mono ?_
   rintro e w' ⟨rfl,rfl⟩
   exact⟨rfl,Below.refl _ _⟩⟩
 ·have hlen:=h3
  refine containsR_any (.func (.func 16) #[] #[]) (fun r=>r.any largeTB) ar cr rs W h2 (har.later hW) ⟨16,#[],rfl,fun _ _=>by kernel_rfl,fun x a' c' W' hm hb hx=>?_⟩
  exact hasLarge_any x a' c' W' (hlen x hm) hx
 ·refine containsR_any (.func (.func 17) #[] #[.pointer (some ⟨w.heap.size,0,none⟩)]) (oddB kinds.length) ar cr rs W h2 (har.later hW) ⟨17,_,rfl,fun _ _=>by kernel_rfl,fun x a' c' W' hm hb hx=>?_⟩
  refine(len_any1 kinds.length x a' ak c' ck w.heap.size W' (cell_later hb hc)).mono ?_
  rintro e w' ⟨rfl,rfl⟩
  exact⟨rfl,Below.refl _ _⟩
theorem build_a1(w:World)(kinds:List Int)(ak:Option Addr)(ck:Nat)(rs:List (List Val))(ar:Option Addr)(cr:Nat)(C:Looks w kinds ak ck rs ar cr)(h:kinds.length<1) :
  Calls Tryz.prog 4 #[.slice ak kinds.length ck,.slice ar rs.length cr] w fun e w'=>e=.returned (.tuple #[.string ⟨#[]⟩,.int .i64 1])/\Below w.heap.size w w':=by
 have hbx0:(w.alloc (.cells #[.slice ak kinds.length ck] 22)).cell? ⟨w.heap.size,0,none⟩=some (.slice ak kinds.length ck):=by simp[go_sem]
 have HK:=hide C.hk
 have HL:=hide C.hl
 have HN:=hide C.hn
 have i1:(kinds.length:Int)<1:=by omega
 go_enter Tryz.func4,Tryz.ntmps4
 go_wp2_with (first
  | (go_at_call 13;refine(unhide HK _ (below_alloc (Below.refl _ _) _)).mono ?_;rintro _ w1 ⟨rfl,hb1⟩;have hbx1:=cell_later hb1 hbx0)
  | (go_at_call 15;refine(unhide HN w2 ((below_one hb1).trans (hb2.mono (below_one hb1).size)) hbx2).mono ?_;rintro _ w3 ⟨rfl,hb3⟩;have hbx3:=cell_later hb3 hbx2)
  | (go_at_call 15;refine(unhide HL w1 (below_one hb1)).mono ?_;rintro _ w2 ⟨rfl,hb2⟩;have hbx2:=cell_later hb2 hbx1))
 refine bodyPost_ret (v:=.tuple #[.string ⟨#[]⟩,.int .i64 1]) (by simp[results,Tryz.results4,go_sem]) rfl ⟨rfl,below_alloc (Below.refl _ _) _⟩
theorem build_a2(w:World)(kinds:List Int)(ak:Option Addr)(ck:Nat)(rs:List (List Val))(ar:Option Addr)(cr:Nat)(C:Looks w kinds ak ck rs ar cr)(h:32<kinds.length) :
  Calls Tryz.prog 4 #[.slice ak kinds.length ck,.slice ar rs.length cr] w fun e w'=>e=.returned (.tuple #[.string ⟨#[]⟩,.int .i64 1])/\Below w.heap.size w w':=by
 have hbx0:(w.alloc (.cells #[.slice ak kinds.length ck] 22)).cell? ⟨w.heap.size,0,none⟩=some (.slice ak kinds.length ck):=by simp[go_sem]
 have HK:=hide C.hk
 have HL:=hide C.hl
 have HN:=hide C.hn
 have i1:¬(kinds.length:Int)<1:=by omega
 have i2:(32:Int)<(kinds.length:Int):=by omega
 go_enter Tryz.func4,Tryz.ntmps4
 go_wp2_with (first
  | (go_at_call 13;refine(unhide HK _ (below_alloc (Below.refl _ _) _)).mono ?_;rintro _ w1 ⟨rfl,hb1⟩;have hbx1:=cell_later hb1 hbx0)
  | (go_at_call 15;refine(unhide HN w2 ((below_one hb1).trans (hb2.mono (below_one hb1).size)) hbx2).mono ?_;rintro _ w3 ⟨rfl,hb3⟩;have hbx3:=cell_later hb3 hbx2)
  | (go_at_call 15;refine(unhide HL w1 (below_one hb1)).mono ?_;rintro _ w2 ⟨rfl,hb2⟩;have hbx2:=cell_later hb2 hbx1))
 refine bodyPost_ret (v:=.tuple #[.string ⟨#[]⟩,.int .i64 1]) (by simp[results,Tryz.results4,go_sem]) rfl ⟨rfl,below_alloc (Below.refl _ _) _⟩
theorem build_a3(w:World)(kinds:List Int)(ak:Option Addr)(ck:Nat)(rs:List (List Val))(ar:Option Addr)(cr:Nat)(C:Looks w kinds ak ck rs ar cr)(h1:1<=kinds.length)(h2:kinds.length<=32)(h3:kinds.any noKB=true) :
  Calls Tryz.prog 4 #[.slice ak kinds.length ck,.slice ar rs.length cr] w fun e w'=>e=.returned (.tuple #[.string ⟨#[]⟩,.int .i64 1])/\Below w.heap.size w w':=by
 have hbx0:(w.alloc (.cells #[.slice ak kinds.length ck] 22)).cell? ⟨w.heap.size,0,none⟩=some (.slice ak kinds.length ck):=by simp[go_sem]
 have HK:=hide C.hk
 have HL:=hide C.hl
 have HN:=hide C.hn
 rw[h3] at HK
 have i1:¬(kinds.length:Int)<1:=by omega
 have i2:¬(32:Int)<(kinds.length:Int):=by omega
 go_enter Tryz.func4,Tryz.ntmps4
 go_wp2_with (first
  | (go_at_call 13;refine(unhide HK _ (below_alloc (Below.refl _ _) _)).mono ?_;rintro _ w1 ⟨rfl,hb1⟩;have hbx1:=cell_later hb1 hbx0)
  | (go_at_call 15;refine(unhide HN w2 ((below_one hb1).trans (hb2.mono (below_one hb1).size)) hbx2).mono ?_;rintro _ w3 ⟨rfl,hb3⟩;have hbx3:=cell_later hb3 hbx2)
  | (go_at_call 15;refine(unhide HL w1 (below_one hb1)).mono ?_;rintro _ w2 ⟨rfl,hb2⟩;have hbx2:=cell_later hb2 hbx1))
 refine bodyPost_ret (v:=.tuple #[.string ⟨#[]⟩,.int .i64 1]) (by simp[results,Tryz.results4,go_sem]) rfl ⟨rfl,below_one hb1⟩
theorem build_b1(w:World)(kinds:List Int)(ak:Option Addr)(ck:Nat)(rs:List (List Val))(ar:Option Addr)(cr:Nat)(C:Looks w kinds ak ck rs ar cr)(h1:1<=kinds.length)(h2:kinds.length<=32)(h3:kinds.any noKB=false)(h4:4096<rs.length) :
  Calls Tryz.prog 4 #[.slice ak kinds.length ck,.slice ar rs.length cr] w fun e w'=>e=.returned (.tuple #[.string ⟨#[]⟩,.int .i64 3])/\Below w.heap.size w w':=by
 have hbx0:(w.alloc (.cells #[.slice ak kinds.length ck] 22)).cell? ⟨w.heap.size,0,none⟩=some (.slice ak kinds.length ck):=by simp[go_sem]
 have HK:=hide C.hk
 have HL:=hide C.hl
 have HN:=hide C.hn
 rw[h3] at HK
 have i1:¬(kinds.length:Int)<1:=by omega
 have i2:¬(32:Int)<(kinds.length:Int):=by omega
 have i3:(4096:Int)<(rs.length:Int):=by omega
 go_enter Tryz.func4,Tryz.ntmps4
 go_wp2_with (first
  | (go_at_call 13;refine(unhide HK _ (below_alloc (Below.refl _ _) _)).mono ?_;rintro _ w1 ⟨rfl,hb1⟩;have hbx1:=cell_later hb1 hbx0)
  | (go_at_call 15;refine(unhide HN w2 ((below_one hb1).trans (hb2.mono (below_one hb1).size)) hbx2).mono ?_;rintro _ w3 ⟨rfl,hb3⟩;have hbx3:=cell_later hb3 hbx2)
  | (go_at_call 15;refine(unhide HL w1 (below_one hb1)).mono ?_;rintro _ w2 ⟨rfl,hb2⟩;have hbx2:=cell_later hb2 hbx1))
 refine bodyPost_ret (v:=.tuple #[.string ⟨#[]⟩,.int .i64 3]) (by simp[results,Tryz.results4,go_sem]) rfl ⟨rfl,below_one hb1⟩
theorem build_b2(w:World)(kinds:List Int)(ak:Option Addr)(ck:Nat)(rs:List (List Val))(ar:Option Addr)(cr:Nat)(C:Looks w kinds ak ck rs ar cr)(h1:1<=kinds.length)(h2:kinds.length<=32)(h3:kinds.any noKB=false)(h4:rs.length<=4096)(h5:(rs.any fun r=>r.any largeTB)=true) :
  Calls Tryz.prog 4 #[.slice ak kinds.length ck,.slice ar rs.length cr] w fun e w'=>e=.returned (.tuple #[.string ⟨#[]⟩,.int .i64 3])/\Below w.heap.size w w':=by
 have hbx0:(w.alloc (.cells #[.slice ak kinds.length ck] 22)).cell? ⟨w.heap.size,0,none⟩=some (.slice ak kinds.length ck):=by simp[go_sem]
 have HK:=hide C.hk
 have HL:=hide C.hl
 have HN:=hide C.hn
 rw[h3] at HK
 rw[h5] at HL
 have i1:¬(kinds.length:Int)<1:=by omega
 have i2:¬(32:Int)<(kinds.length:Int):=by omega
 have i3:¬(4096:Int)<(rs.length:Int):=by omega
 go_enter Tryz.func4,Tryz.ntmps4
 go_wp2_with (first
  | (go_at_call 13;refine(unhide HK _ (below_alloc (Below.refl _ _) _)).mono ?_;rintro _ w1 ⟨rfl,hb1⟩;have hbx1:=cell_later hb1 hbx0)
  | (go_at_call 15;refine(unhide HN w2 ((below_one hb1).trans (hb2.mono (below_one hb1).size)) hbx2).mono ?_;rintro _ w3 ⟨rfl,hb3⟩;have hbx3:=cell_later hb3 hbx2)
  | (go_at_call 15;refine(unhide HL w1 (below_one hb1)).mono ?_;rintro _ w2 ⟨rfl,hb2⟩;have hbx2:=cell_later hb2 hbx1))
 refine bodyPost_ret (v:=.tuple #[.string ⟨#[]⟩,.int .i64 3]) (by simp[results,Tryz.results4,go_sem]) rfl ⟨rfl,(below_one hb1).trans (hb2.mono (below_one hb1).size)⟩
theorem build_c(w:World)(kinds:List Int)(ak:Option Addr)(ck:Nat)(rs:List (List Val))(ar:Option Addr)(cr:Nat)(C:Looks w kinds ak ck rs ar cr)(h1:1<=kinds.length)(h2:kinds.length<=32)(h3:kinds.any noKB=false)(h4:rs.length<=4096)(h5:(rs.any fun r=>r.any largeTB)=false)(h6:rs.any (oddB kinds.length)=true) :
  Calls Tryz.prog 4 #[.slice ak kinds.length ck,.slice ar rs.length cr] w fun e w'=>e=.returned (.tuple #[.string ⟨#[]⟩,.int .i64 4])/\Below w.heap.size w w':=by
 have hbx0:(w.alloc (.cells #[.slice ak kinds.length ck] 22)).cell? ⟨w.heap.size,0,none⟩=some (.slice ak kinds.length ck):=by simp[go_sem]
 have HK:=hide C.hk
 have HL:=hide C.hl
 have HN:=hide C.hn
 rw[h3] at HK
 rw[h5] at HL
 rw[h6] at HN
 have i1:¬(kinds.length:Int)<1:=by omega
 have i2:¬(32:Int)<(kinds.length:Int):=by omega
 have i3:¬(4096:Int)<(rs.length:Int):=by omega
 go_enter Tryz.func4,Tryz.ntmps4
 go_wp2_with (first
  | (go_at_call 13;refine(unhide HK _ (below_alloc (Below.refl _ _) _)).mono ?_;rintro _ w1 ⟨rfl,hb1⟩;have hbx1:=cell_later hb1 hbx0)
  | (go_at_call 15;refine(unhide HN w2 ((below_one hb1).trans (hb2.mono (below_one hb1).size)) hbx2).mono ?_;rintro _ w3 ⟨rfl,hb3⟩;have hbx3:=cell_later hb3 hbx2)
  | (go_at_call 15;refine(unhide HL w1 (below_one hb1)).mono ?_;rintro _ w2 ⟨rfl,hb2⟩;have hbx2:=cell_later hb2 hbx1))
 refine bodyPost_ret (v:=.tuple #[.string ⟨#[]⟩,.int .i64 4]) (by simp[results,Tryz.results4,go_sem]) rfl ⟨rfl,((below_one hb1).trans (hb2.mono (below_one hb1).size)).trans (hb3.mono (Nat.le_trans (below_one hb1).size hb2.size))⟩
end Go.Proofs.YtbfibfmnemnbbaaGreat
set_option linter.unusedSimpArgs false
set_option linter.unusedVariables false
set_option maxRecDepth 100000
namespace Go.Proofs.YtbfibfmnemnbbaaGreat
open Go.RowKit Go.Sort
theorem Tryz.info56':(Tryz.prog.info? 56).map (fun i=>(i.zero,i.size,i.bytes))=some (some (.agg #[.int .i64 0,.slice none 0 0,.slice none 0 0,.slice none 0 0]),4,80):=by kernel_rfl
structure CInv(w0 w:World)(g n:Nat)(Cs:List (Vc×Sl)):Prop where
 bel:Below w0.heap.size w0 w
 ge:w0.heap.size<=g
 row:∃F,w.rowIs g 56 (n*4) F/\∀(i:Nat) (c:Vc×Sl),Cs[i]?=some c->F (i*4)=.int .i64 c.1.k/\F (i*4+1)=.slice c.2.a1 c.1.nl.length c.2.c1/\F (i*4+2)=.slice c.2.a2 c.1.ns.length c.2.c2/\F (i*4+3)=.slice c.2.a3 c.1.ss.length c.2.c3
 vec:∀c∈Cs,VecAt w c.1 c.2/\Fresh (g+1) c.2
theorem CInv.start{w0 w:World}(h:Below w0.heap.size w0 w)(n:Nat)(z:Array Value):CInv w0 (w.alloc (.cells (madeCells z (n*4)) 56)) w.heap.size n []:=by
 obtain⟨F,hF⟩:=rowIs_any w (madeCells z (n*4)) 56
 rw[size_madeCells] at hF
 exact⟨below_alloc h _,h.size,⟨F,hF,fun i c hc=>by simp at hc⟩,fun c hc=>by simp at hc⟩
theorem CInv.later{w0 w w':World}{g n:Nat}{Cs:List (Vc×Sl)}(h:CInv w0 w g n Cs)(hb:Below w.heap.size w w'):CInv w0 w' g n Cs:=by
 obtain⟨F,hF,hF'⟩:=h.row
 exact⟨below_step h.bel hb,h.ge,⟨F,rowIs_later hF hb,hF'⟩,fun c hc=>⟨(h.vec c hc).1.later hb,(h.vec c hc).2⟩⟩
theorem CInv.lt{w0 w:World}{g n:Nat}{Cs:List (Vc×Sl)}(h:CInv w0 w g n Cs):g<w.heap.size:=by
 obtain⟨F,hF,hF'⟩:=h.row
 exact hF.lt
theorem CInv.step{w0 w:World}{g n:Nat}{Cs:List (Vc×Sl)}{X:Vc}{p:Sl}(h:CInv w0 w g n Cs)(hv:VecAt w X p)(hf:Fresh (g+1) p){k:Nat}(hk:Cs.length=k) :
  CInv w0 ((((w.setCell ⟨g,k*4,none⟩ (.int .i64 X.k)).setCell ⟨g,k*4+1,none⟩ (.slice p.a1 X.nl.length p.c1)).setCell ⟨g,k*4+2,none⟩ (.slice p.a2 X.ns.length p.c2)).setCell ⟨g,k*4+3,none⟩ (.slice p.a3 X.ss.length p.c3)) g n (Cs++[(X,p)]):=by
 obtain⟨F,hF,hF'⟩:=h.row
 have sv:∀{Y:Vc} {q:Sl},VecAt w Y q->Fresh (g+1) q->VecAt ((((w.setCell ⟨g,k*4,none⟩ (.int .i64 X.k)).setCell ⟨g,k*4+1,none⟩ (.slice p.a1 X.nl.length p.c1)).setCell ⟨g,k*4+2,none⟩ (.slice p.a2 X.ns.length p.c2)).setCell ⟨g,k*4+3,none⟩ (.slice p.a3 X.ss.length p.c3)) Y q:=fun hy hq=>
  (((hy.setO hq _ (by simp) _).setO hq _ (by simp) _).setO hq _ (by simp) _).setO hq _ (by simp) _
 refine⟨(((h.bel.setCell h.ge _).setCell h.ge _).setCell h.ge _).setCell h.ge _,h.ge,⟨_,(((hF.set _ _).set _ _).set _ _).set _ _,fun i c hc=>?_⟩,fun c hc=>?_⟩
 ·by_cases e:i<k
  ·rw[List.getElem?_append_left (by omega)] at hc
   obtain⟨a0,a1,a2,a3⟩:=hF' i c hc
   refine⟨?_,?_,?_,?_⟩
   ·rw[if_neg (by omega),if_neg (by omega),if_neg (by omega),if_neg (by omega),a0]
   ·rw[if_neg (by omega),if_neg (by omega),if_neg (by omega),if_neg (by omega),a1]
   ·rw[if_neg (by omega),if_neg (by omega),if_neg (by omega),if_neg (by omega),a2]
   ·rw[if_neg (by omega),if_neg (by omega),if_neg (by omega),if_neg (by omega),a3]
  ·have e2:i=k:=by
    have:=(List.getElem?_eq_some_iff.1 hc).1
    simp at this
    omega
   subst e2
   rw[List.getElem?_append_right (by omega),hk] at hc
   simp at hc
   subst hc
   refine⟨?_,?_,?_,?_⟩<;>simp
 ·rcases List.mem_append.1 hc with m|m
  ·exact⟨sv (h.vec c m).1 (h.vec c m).2,(h.vec c m).2⟩
  ·simp at m;subst m;exact⟨sv hv hf,hf⟩
theorem CInv.cols{w0 w:World}{g n:Nat}{Cs:List (Vc×Sl)}(h:CInv w0 w g n Cs)(hn:Cs.length=n):ColsAt w (some ⟨g,0,none⟩) Cs:=by
 obtain⟨F,hF,hF'⟩:=h.row
 refine⟨.inr ⟨g,0,rfl,fun i c hc=>?_⟩,fun c hc=>(h.vec c hc).1⟩
 have hi:=(List.getElem?_eq_some_iff.1 hc).1
 obtain⟨a0,a1,a2,a3⟩:=hF' i c hc
 refine⟨?_,?_,?_,?_⟩
 ·rw[Nat.zero_add,hF.cell (by omega),a0]
 ·rw[Nat.zero_add,hF.cell (by omega),a1]
 ·rw[Nat.zero_add,hF.cell (by omega),a2]
 ·rw[Nat.zero_add,hF.cell (by omega),a3]
theorem CInv.cells{w0 w:World}{g n k:Nat}{Cs:List (Vc×Sl)}(h:CInv w0 w g n Cs)(hk:k<n):∃v0 v1 v2 v3,w.cell? ⟨g,k*4,none⟩=some v0/\w.cell? ⟨g,k*4+1,none⟩=some v1/\w.cell? ⟨g,k*4+2,none⟩=some v2/\w.cell? ⟨g,k*4+3,none⟩=some v3/\w.frozen? ⟨g,k*4,none⟩=false/\w.frozen? ⟨g,k*4+1,none⟩=false/\w.frozen? ⟨g,k*4+2,none⟩=false/\w.frozen? ⟨g,k*4+3,none⟩=false:=by
 obtain⟨F,hF,hF'⟩:=h.row
 exact⟨_,_,_,_,hF.cell (by omega),hF.cell (by omega),hF.cell (by omega),hF.cell (by omega),hF.frozen _,hF.frozen _,hF.frozen _,hF.frozen _⟩
end Go.Proofs.YtbfibfmnemnbbaaGreat
set_option linter.unusedSimpArgs false
set_option linter.unusedVariables false
set_option maxHeartbeats 4000000
set_option maxRecDepth 100000
namespace Go.Proofs.YtbfibfmnemnbbaaGreat
open Go.RowKit Go.Sort
def colX(kinds:List Int)(rs:List (List Val))(i:Nat):Vc×Int:=fromV (kinds.getD i 0) (colL rs i)
structure PsX(K:Vc->ByteArray->Prop)(zf:Vc->ByteArray)(n:Nat)(X:Nat->Vc)(ps:List (ByteArray×ByteArray)):Prop where
 len:ps.length=n
 at_:∀(i:Nat) (p:ByteArray×ByteArray),ps[i]?=some p->p.1=zf (X i)/\K (X i) p.2
 z:∀p∈ps,p.1.size<=10000
 s:∀p∈ps,p.2.size<=100000000
theorem Ps.toX{K:Vc->ByteArray->Prop}{zf:Vc->ByteArray}{Cs:List (Vc×Sl)}{ps:List (ByteArray×ByteArray)}(h:Ps K zf Cs ps){X:Nat->Vc}(hX:∀(i:Nat) (c:Vc×Sl),Cs[i]?=some c->c.1=X i):PsX K zf Cs.length X ps:=by
 refine⟨h.len,fun i p hp=>?_,h.z,h.s⟩
 have hi:i<Cs.length:=by rw[<-h.len];exact(List.getElem?_eq_some_iff.1 hp).1
 have hc:=List.getElem?_eq_getElem hi
 have:=h.at_ i _ p hc hp
 rwa [hX i _ hc] at this
def BAns(K:Vc->ByteArray->Prop)(zf:Vc->ByteArray)(kinds:List Int)(rs:List (List Val))(e:Ending):Prop:=
 (∃i,i<kinds.length/\(colX kinds rs i).2≠0/\(∀j,j<i->(colX kinds rs j).2=0)/\e=.returned (.tuple #[.string ⟨#[]⟩,.int .i64 (colX kinds rs i).2]))∨((∀j,j<kinds.length->(colX kinds rs j).2=0)/\∃ps,e=.returned (.tuple #[.string (segB kinds.length rs.length ps),.int .i64 0])/\PsX K zf kinds.length (fun i=>(colX kinds rs i).1) ps)
theorem build_d(K:Vc->ByteArray->Prop)(zf:Vc->ByteArray)(w:World)(kinds:List Int)(ak:Option Addr)(ck:Nat)(rs:List (List Val))(ar:Option Addr)(cr:Nat)(C:Looks w kinds ak ck rs ar cr)
  (hak:LisAt w ak (kinds.map (Value.int .i64))) (har:RowsAt w ar rs)
  (h1:1<=kinds.length) (h2:kinds.length<=32) (h3:kinds.any noKB=false) (h4:rs.length<=4096) (h5:(rs.any fun r=>r.any largeTB)=false) (h6:rs.any (oddB kinds.length)=false)
  (hC:∀i,i<kinds.length->(colX kinds rs i).2=0->ColLaw K zf rs.length (colX kinds rs i).1) :
  Calls Tryz.prog 4 #[.slice ak kinds.length ck,.slice ar rs.length cr] w fun e w'=>BAns K zf kinds rs e/\Below w.heap.size w w':=by
 have hbx0:(w.alloc (.cells #[.slice ak kinds.length ck] 22)).cell? ⟨w.heap.size,0,none⟩=some (.slice ak kinds.length ck):=by simp[go_sem]
 obtain⟨i4,hi4,z40,z41,z42⟩:=info_parts Tryz.info56'
 have HK:=hide C.hk
 have HL:=hide C.hl
 have HN:=hide C.hn
 rw[h3] at HK
 rw[h5] at HL
 have hlr:∀r∈rs,r.length=kinds.length:=fun r hr=>by
  have:=List.any_eq_false.1 h6 r hr
  simp[oddB] at this
  omega
 rw[h6] at HN
 have i1:¬(kinds.length:Int)<1:=by omega
 have i2:¬(32:Int)<(kinds.length:Int):=by omega
 have i3:¬(4096:Int)<(rs.length:Int):=by omega
 have HAK:=hide hak
 have HAR:=hide har
 have HC:=hide hC
 have HLR:=hide hlr
 clear hak har hC hlr C h3 h5 h6
 go_enter Tryz.func4,Tryz.ntmps4
 go_wp2_with (first
  | (go_at_call 13;refine(unhide HK _ (below_alloc (Below.refl _ _) _)).mono ?_;rintro _ w1 ⟨rfl,hb1⟩;have hbx1:=cell_later hb1 hbx0)
  | (go_at_call 15;refine(unhide HN w2 ((below_one hb1).trans (hb2.mono (below_one hb1).size)) hbx2).mono ?_;rintro _ w3 ⟨rfl,hb3⟩;have hbx3:=cell_later hb3 hbx2;have hbx4:∀o,(w3.alloc o).cell? ⟨w.heap.size,0,none⟩=some (.slice ak kinds.length ck):=(fun o=>cell_later (below_alloc (Below.refl _ _) o) hbx3))
  | (go_at_call 15;refine(unhide HL w1 (below_one hb1)).mono ?_;rintro _ w2 ⟨rfl,hb2⟩;have hbx2:=cell_later hb2 hbx1)
  | (at_make;refine wpList_make_rows _ rfl (.tmp 31) (.tmp 31) 51 rfl 56 i4 _ Tryz.underlying51 hi4 z40 4 z41 .i64 .i64 kinds.length rfl rfl (by rw[z42];omega) (by omega) ?_))
 have hbw:Below w.heap.size w w3:=((below_one hb1).trans (hb2.mono (below_one hb1).size)).trans (hb3.mono (Nat.le_trans (below_one hb1).size hb2.size))
 have S0:=hide (CInv.start hbw kinds.length #[.int .i64 0,.slice none 0 0,.slice none 0 0,.slice none 0 0])
 clear hb1 hb2 hb3 hbx0 hbx1 hbx2 hbx3 hbx4 HK HL HN
 go_loopw[35] (fun s wr=>∃(k:Nat) (Cs:List (Vc×Sl)),s=.int .i64 (k:Int)/\k<=kinds.length/\Cs.length=k/\Hid (CInv w wr w3.heap.size kinds.length Cs)/\Hid (∀(j:Nat) (c:Vc×Sl),Cs[j]?=some c->colX kinds rs j=(c.1,0))) (fun s _=>kinds.length-(intOf s).toNat)
 case atStart=>exact⟨0,[],rfl,by omega,rfl,S0,fun j c hc=>by simp at hc⟩
 case round=>
  obtain⟨k,Cs,rfl,hk,hcl,S,HX⟩:=hrel
  clear S0
  by_cases h7:k<kinds.length
  ·have i7:(k:Int)<(kinds.length:Int):=by omega
   obtain⟨kd,hkd⟩:∃kd,kinds[k]?=some kd:=⟨_,List.getElem?_eq_getElem h7⟩
   obtain⟨vb,vo,rfl,q0⟩:=lis_get ((unhide HAK).later (unhide S).bel) (show (kinds.map (Value.int .i64))[k]?=some (.int .i64 kd) by simp[hkd])
   have hlt:=(unhide S).lt
   have HV:=hide (valuesIn_any ar cr k rs wr h4 (by omega) (fun r hr=>by rw[unhide HLR r hr];exact h7) ((unhide HAR).later (unhide S).bel))
   have hcx:colX kinds rs k=fromV kd (colL rs k):=by simp[colX,hkd]
   have HF:Hid (∀(a':Option Addr) (W:World),RowAt W a' (colL rs k)->Calls Tryz.prog 18 #[.int .i64 kd,.slice a' rs.length rs.length] W fun e w'=>∃p,e=.returned (.tuple #[.agg #[.int .i64 (colX kinds rs k).1.k,.slice p.a1 (colX kinds rs k).1.nl.length p.c1,.slice p.a2 (colX kinds rs k).1.ns.length p.c2,.slice p.a3 (colX kinds rs k).1.ss.length p.c3],.int .i64 (colX kinds rs k).2])/\VecAt w' (colX kinds rs k).1 p/\Fresh W.heap.size p/\Below W.heap.size W w'):=fun a' W hW=>by
    have hl:(colL rs k).length=rs.length:=by simp[colL]
    have:=from_any a' rs.length kd (colL rs k) W (by rw[hl];omega) hW
    rw[hl] at this
    rw[hcx]
    exact this.mono fun e w2 ⟨p,h1,h2,h3,h4⟩=>⟨p,h1,h2,h3.fresh,h4⟩
   clear hcx hkd
   generalize hY:colX kinds rs k=Y at HF
   have HY:=hide hY
   clear hY
   obtain⟨X,er⟩:=Y
   by_cases he:er=0
   ·subst he
    go_wp2_with (first
     | (go_at_call 19;refine(unhide HV).mono ?_;rintro _ w4 ⟨a',rfl,hra,hb4⟩)
     | (go_at_call 18;refine(unhide HF a' w4 hra).mono ?_;rintro _ w5 ⟨p,rfl,hv5,hf5,hb5⟩;have S5:=hide (((unhide S).later hb4).later hb5);obtain⟨v0,v1,v2,v3,p0,p1,p2,p3,f0,f1,f2,f3⟩:=((unhide S5).later (below_alloc (Below.refl _ _) (.cells #[.int .i64 X.k,.slice p.a1 X.nl.length p.c1,.slice p.a2 X.ns.length p.c2,.slice p.a3 X.ss.length p.c3] 56))).cells h7))
    refine⟨⟨k+1,Cs++[(X,p)],by go_num,by omega,by simp[hcl],((unhide S5).later (below_alloc (Below.refl _ _) _)).step (hv5.later (below_alloc (Below.refl _ _) _)) (hf5.less (by have:=hb4.size;omega)) hcl,fun j c hc=>?_⟩,?_⟩
    ·by_cases hj:j<k
     ·rw[List.getElem?_append_left (by omega)] at hc
      exact unhide HX j c hc
     ·have e2:j=k:=by
       have:=(List.getElem?_eq_some_iff.1 hc).1
       simp at this
       omega
      subst e2
      rw[List.getElem?_append_right (by omega),hcl] at hc
      simp at hc
      subst hc
      exact unhide HY
    ·first | (simp[intOf];omega) | (simp only[intOf];omega)
   ·have he2:(er != 0)=true:=by simpa using he
    go_wp2_with (first
     | (go_at_call 19;refine(unhide HV).mono ?_;rintro _ w4 ⟨a',rfl,hra,hb4⟩)
     | (go_at_call 18;refine(unhide HF a' w4 hra).mono ?_;rintro _ w5 ⟨p,rfl,hv5,hf5,hb5⟩;have S5:=hide (((unhide S).later hb4).later hb5)))
    have hZ:∀j,j<k->(colX kinds rs j).2=0:=fun j hj=>by
     rw[unhide HX j _ (List.getElem?_eq_getElem (by omega))]
    refine bodyPost_ret (v:=.tuple #[.string ⟨#[]⟩,.int .i64 er]) (by simp[results,Tryz.results4,go_sem]) rfl ⟨.inl ⟨k,h7,by rw[unhide HY];exact he,hZ,by rw[unhide HY]⟩,below_alloc (unhide S5).bel _⟩
  ·have i7:¬(k:Int)<(kinds.length:Int):=by omega
   have hkn:k=kinds.length:=by omega
   have hZ:∀j,j<kinds.length->(colX kinds rs j).2=0:=fun j hj=>by
    rw[unhide HX j _ (List.getElem?_eq_getElem (by omega))]
   have HW:=hide (swritten_any K zf rs.length h4 (some ⟨w3.heap.size,0,none⟩) kinds.length Cs wr (by omega) (by omega) (fun x hx=>by
    obtain⟨j,hj⟩:=List.mem_iff_getElem?.1 hx
    have hjl:=(List.getElem?_eq_some_iff.1 hj).1
    have hcx:=unhide HX j x hj
    have:=unhide HC j (by omega) (by rw[hcx])
    rwa [hcx] at this) ((unhide S).cols (by omega)))
   rw[hcl,hkn] at HW
   have HPX:Hid (∀ps,Ps K zf Cs ps->PsX K zf kinds.length (fun i=>(colX kinds rs i).1) ps):=fun ps h=>by
    have:=h.toX (X:=fun i=>(colX kinds rs i).1) (fun i c hc=>by show c.1=(colX kinds rs i).1;rw[unhide HX i c hc])
    rwa [hcl,hkn] at this
   have HZ:=hide hZ
   clear hZ hcl hkn
   go_wp2_with (first | (go_at_call 20;refine(unhide HW).mono ?_;rintro _ w4 ⟨ps,rfl,hps,hb4⟩))
   refine bodyPost_ret (v:=.tuple #[.string (segB kinds.length rs.length ps),.int .i64 0]) (by simp[results,Tryz.results4,go_sem]) rfl ⟨.inr ⟨unhide HZ,ps,rfl,unhide HPX ps (unhide hps)⟩,below_step (unhide S).bel hb4⟩
end Go.Proofs.YtbfibfmnemnbbaaGreat
set_option linter.unusedSimpArgs false
set_option linter.unusedVariables false
set_option maxRecDepth 100000
namespace Go.Proofs.YtbfibfmnemnbbaaGreat
open Go.RowKit Go.Sort
def c4(c:Vc×Sl):List Value:=[.int .i64 c.1.k,.slice c.2.a1 c.1.nl.length c.2.c1,.slice c.2.a2 c.1.ns.length c.2.c2,.slice c.2.a3 c.1.ss.length c.2.c3]
theorem flat4_at:∀{Cs:List (Vc×Sl)} {i:Nat} {c:Vc×Sl} {j:Nat},Cs[i]?=some c->j<4->(Cs.flatMap c4)[i*4+j]?=(c4 c)[j]?
 | [],_,_,_,h,_=>by simp at h
 | d::Cs,0,c,j,h,hj=>by
  simp at h
  subst h
  rw[List.flatMap_cons,List.getElem?_append_left (by simp[c4];omega)]
  simp
 | d::Cs,i+1,c,j,h,hj=>by
  rw[List.flatMap_cons,List.getElem?_append_right (by simp[c4];omega)]
  have e:(i+1)*4+j-(c4 d).length=i*4+j:=by simp[c4];omega
  rw[e]
  exact flat4_at (by simpa using h) hj
end Go.Proofs.YtbfibfmnemnbbaaGreat
set_option linter.unusedSimpArgs false
set_option linter.unusedVariables false
set_option maxRecDepth 100000
namespace Go.Proofs.YtbfibfmnemnbbaaGreat
open Go.RowKit Go.Sort
theorem cells4_new(w:World)(c:Vc×Sl):∀j u,(c4 c)[j]?=some u->(w.alloc (.cells #[.int .i64 c.1.k,.slice c.2.a1 c.1.nl.length c.2.c1,.slice c.2.a2 c.1.ns.length c.2.c2,.slice c.2.a3 c.1.ss.length c.2.c3] 56)).cell? ((⟨w.heap.size,0,none⟩:Addr).add j)=some u:=by
 intro j u hu
 have hadd:(⟨w.heap.size,0,none⟩:Addr).add j=⟨w.heap.size,j,none⟩:=by unfold Addr.add;split<;>simp_all
 rw[hadd,cell_of_row _ _ j _ 56 (0,0) (heap_alloc_last w _)]
 simpa [c4] using hu
theorem c4_one(c:Vc×Sl):∀u∈c4 c,u.oneCell'=true:=by
 intro u hu
 simp[c4] at hu
 rcases hu with rfl|rfl|rfl|rfl<;>rfl
end Go.Proofs.YtbfibfmnemnbbaaGreat
set_option linter.unusedSimpArgs false
set_option linter.unusedVariables false
set_option maxRecDepth 100000
namespace Go.Proofs.YtbfibfmnemnbbaaGreat
open Go.RowKit Go.Sort
def okKB(kinds:List Int):Bool:=decide (1<=kinds.length) && decide (kinds.length<=32) && !kinds.any noKB
end Go.Proofs.YtbfibfmnemnbbaaGreat
set_option linter.unusedSimpArgs false
set_option linter.unusedVariables false
set_option maxRecDepth 100000
namespace Go.Proofs.YtbfibfmnemnbbaaGreat
open Go.RowKit Go.Sort
def KP(X:Vc)(s:ByteArray):Prop:=PP X s 0
def zP(X:Vc):ByteArray:=zoneB (spanT (valsV X) (valsV X).length).1 (spanT (valsV X) (valsV X).length).2.1 (spanT (valsV X) (valsV X).length).2.2
theorem fold_mem{f:Val->Val->Val}(hf:∀m x,f m x=m∨f m x=x):∀(ys:List Val) (m:Val),ys.foldl f m=m∨ys.foldl f m∈ys
 | [],m=>.inl rfl
 | y::ys,m=>by
  rw[List.foldl_cons]
  rcases fold_mem hf ys (f m y) with h|h
  ·rw[h]
   rcases hf m y with e|e
   ·exact .inl e
   ·exact .inr (by rw[e];simp)
  ·exact .inr (List.mem_cons_of_mem _ h)
theorem span_size{xs:List Val}(h:∀x∈xs,x.s.size<=1000):(spanT xs xs.length).1.s.size<=1000/\(spanT xs xs.length).2.1.s.size<=1000:=by
 have key:∀(f:Val->Val->Val),(∀m x,f m x=m∨f m x=x)->((standL (xs.take xs.length)).foldl f .null).s.size<=1000:=fun f hf=>by
  rcases fold_mem hf (standL (xs.take xs.length)) .null with e|e
  ·rw[e];decide
  ·rw[List.take_length] at e ⊢
   exact h _ (List.mem_filter.1 e).1
 refine⟨key lowS (fun m x=>?_),key highS (fun m x=>?_)⟩
 ·unfold lowS;split
  ·exact .inr rfl
  ·exact .inl rfl
 ·unfold highS;split
  ·exact .inr rfl
  ·exact .inl rfl
theorem pp_pw{X:Vc}(hg:goodB X=true){s:ByteArray}(h:PP X s 0):∃n:Nat,1<=n/\n<=4/\PW X (n:Int) s 0:=by
 rcases h with ⟨_,h⟩|⟨_,h,_⟩
 ·obtain⟨⟨n,h1,h2,h3⟩,_⟩:=pb_one hg 3 s h
  exact⟨n,h1,by omega,h3⟩
 ·exact absurd rfl h
structure Fit(rows:Nat)(X:Vc):Prop where
 good:goodB X=true
 len:X.nl.length=rows
 le:rows<=4096
 ns:X.ns.length<=rows
 ss:X.ss.length<=rows
 rng:∀n∈X.ns,-9223372036854775808<=n/\n<=9223372036854775807
theorem Fit.small{rows:Nat}{X:Vc}(h:Fit rows X):small X:=by
 have:=h.len;have:=h.le;have:=h.ns;have:=h.ss
 exact⟨by omega,by omega,by omega⟩
theorem Fit.pp{rows:Nat}{X:Vc}(h:Fit rows X){s:ByteArray}{f:Int}(hp:PP X s f):f=0:=by
 rcases hp with ⟨e,_⟩|⟨_,hf,t,hw⟩
 ·exact e
 ·have hl:=h.len
  have hle:=h.le
  have hbad:badW X 1=false:=by unfold badW;rw[h.good];simp
  rcases hw with ⟨e,_⟩|⟨_,e,_⟩|⟨_,_,e,_⟩
  ·rw[hbad] at e;cases e
  ·omega
  ·exact e
theorem Fit.vlen{rows:Nat}{X:Vc}(h:Fit rows X):(valsV X).length=rows:=(vals_len h.good).trans h.len
theorem Fit.zone{rows:Nat}{X:Vc}(h:Fit rows X):(zP X).size<=10000:=by
 have hs:=span_size (xs:=valsV X) (fun x hx=>vals_size h.good hx)
 have h2:=keyL_len [(spanT (valsV X) (valsV X).length).1,(spanT (valsV X) (valsV X).length).2.1,Val.num ((spanT (valsV X) (valsV X).length).2.2:Nat)]
 have e:∀N:Int,(Val.num N).s.size=0:=fun _=>rfl
 simp only[wides,wide,List.map_cons,List.map_nil,List.sum_cons,List.sum_nil,e] at h2
 unfold zP zoneB
 rw[toB_size]
 omega
theorem Fit.law{rows:Nat}{X:Vc}(h:Fit rows X):ColLaw KP zP rows X:=by
 have hs:=span_size (xs:=valsV X) (fun x hx=>vals_size h.good hx)
 refine⟨fun p W hp=>?_,fun s W hk=>?_,fun p W hp=>?_,fun s hk=>?_,h.zone⟩
 ·refine(ppack_any X p W h.small hp).mono ?_
  rintro e w' ⟨s,f,rfl,hpp,hb⟩
  have:=h.pp (unhide hpp)
  subst this
  exact⟨s,rfl,unhide hpp,hb⟩
 ·obtain⟨n,h1,h4,hw⟩:=pp_pw h.good hk
  have ho:=pw_opens h.rng h1 h4 hw
  exact zone_any s _ _ _ (fun W=>span_any ho (by rw[h.vlen];exact h.le) W) (by omega) (by omega) W
 ·have:=len_any X p W h.small hp
  rwa [h.vlen] at this
 ·obtain⟨n,h1,h4,hw⟩:=pp_pw h.good hk
  have:=pw_size hw
  omega
end Go.Proofs.YtbfibfmnemnbbaaGreat
set_option linter.unusedSimpArgs false
set_option linter.unusedVariables false
set_option maxRecDepth 100000
namespace Go.Proofs.YtbfibfmnemnbbaaGreat
open Go.RowKit Go.Sort
structure Even(kinds:List Int)(rs:List (List Val)):Prop where
 ok:okKB kinds=true
 le:rs.length<=4096
 len:∀r∈rs,r.length=kinds.length
 lg:∀r∈rs,∀x∈r,largeTB x=false
theorem Even.fit{kinds:List Int}{rs:List (List Val)}(h:Even kinds rs)(hr:∀r∈rs,∀x∈r,-9223372036854775808<=x.n/\x.n<=9223372036854775807){i:Nat}(hi:i<kinds.length)(hc:(colX kinds rs i).2=0):Fit rs.length (colX kinds rs i).1:=by
 have hf:fromV (kinds.getD i 0) (colL rs i)=((colX kinds rs i).1,0):=by
  have:fromV (kinds.getD i 0) (colL rs i)=colX kinds rs i:=rfl
  rw[this,<-hc]
 obtain⟨h1,h2,h3,h4,h5,h6,h7,h8⟩:=from_ok hf
 have hl:(colL rs i).length=rs.length:=by simp[colL]
 refine⟨h1,by omega,h.le,by omega,by omega,h8 (fun x hx=>?_)⟩
 obtain⟨r,hr',rfl⟩:=List.mem_map.1 hx
 have hir:i<r.length:=by rw[h.len r hr'];exact hi
 have e:r.getD i Val.null=r[i]:=by simp[hir]
 rw[e]
 exact hr r hr' _ (List.getElem_mem hir)
end Go.Proofs.YtbfibfmnemnbbaaGreat
set_option linter.unusedSimpArgs false
set_option linter.unusedVariables false
set_option maxRecDepth 100000
namespace Go.Proofs.YtbfibfmnemnbbaaGreat
open Go.RowKit Go.Sort
theorem toList_same{a b:ByteArray}(h:a.toList=b.toList):a=b:=by
 have h2:a.data.toList=b.data.toList:=by rw[<-ByteArray.toList_eq,<-ByteArray.toList_eq,h]
 exact ByteArray.ext (Array.toList_inj.1 h2)
theorem beq_text(a b:ByteArray):(a.toList == b.toList)=decide (a=b):=by
 by_cases h:a=b
 ·subst h;simp
 ·simp only[h,decide_false]
  exact beq_eq_false_iff_ne.2 fun e=>h (toList_same e)
theorem isSealed_any(s:ByteArray)(hs:s.size<=140737488300000)(w:World):Calls Tryz.prog 43 #[.string s] w fun e w'=>e=.returned (.bool (decide (4<=s.size) && decide (sealB (s.extract 0 (s.size-4))=s)))/\Below w.heap.size w w':=by
 by_cases h4:4<=s.size
 ·have i4:(4:Int)<=(s.size:Int):=by omega
  have e4:((s.size:Int)-4).toNat=s.size-4:=by omega
  have H:=hide (fun W=>sealed_any (s.extract 0 (s.size-4)) (by simp;omega) W)
  go_enter Tryz.func43,Tryz.ntmps43
  go_wp2_with (first | (go_at_call 42;refine(unhide H _).mono ?_;rintro _ w1 ⟨rfl,hb1⟩))
  exact bodyPost_ret (v:=.bool ((sealB (s.extract 0 (s.size-4))).toList == s.toList)) (by simp[results,Tryz.results43,go_sem]) rfl ⟨by rw[beq_text];simp[h4],hb1⟩
 ·have i4:¬(4:Int)<=(s.size:Int):=by omega
  go_enter Tryz.func43,Tryz.ntmps43
  go_wp2
  exact bodyPost_ret (v:=.bool false) (by simp[results,Tryz.results43,go_sem]) rfl ⟨by simp[h4],Below.refl _ _⟩
theorem stake_any(b o n:Nat)(r:ByteArray)(hr:r.size<=140737488300000)(hn:n<18446744073709551616)(w:World)(hw:w.cell? ⟨b,o,none⟩=some (.string r))(hf:w.frozen? ⟨b,o,none⟩=false) :
  Calls Tryz.prog 66 #[.pointer (some ⟨b,o,none⟩),.int .u64 n] w fun e w'=>e=.returned (.string (r.extract 0 (min n r.size)))/\w'=w.setCell ⟨b,o,none⟩ (.string (r.extract (min n r.size) r.size)):=by
 have hw8:IntKind.u64.wrap (r.size:Int)=(r.size:Int):=by rw[IntKind.wrap_u64,Int.emod_eq_of_lt (by omega) (by omega)]
 by_cases h:r.size<n
 ·have h2:min n r.size=r.size:=by omega
  rw[h2]
  have h3:min (n:Int) (r.size:Int)=(r.size:Int):=by omega
  go_enter Tryz.func66,Tryz.ntmps66
  go_wp2
  exact bodyPost_ret (v:=.string r) (by simp[results,Tryz.results66,go_sem]) rfl ⟨by simp,by simp⟩
 ·have h2:min n r.size=n:=by omega
  rw[h2]
  have h3:min (n:Int) (r.size:Int)=(n:Int):=by omega
  go_enter Tryz.func66,Tryz.ntmps66
  go_wp2
  exact bodyPost_ret (v:=.string (r.extract 0 n)) (by simp[results,Tryz.results66,go_sem]) rfl ⟨rfl,rfl⟩
end Go.Proofs.YtbfibfmnemnbbaaGreat
set_option linter.unusedSimpArgs false
set_option linter.unusedVariables false
set_option maxHeartbeats 1000000
set_option maxRecDepth 100000
namespace Go.Proofs.YtbfibfmnemnbbaaGreat
open Go.RowKit Go.Sort
def SRd(w:World)(b:Nat)(l:List UInt8):Prop:=w.rowIs b 112 1 fun _=>.string (bs l)
theorem SRd.cell{w:World}{b:Nat}{l:List UInt8}(h:SRd w b l):w.cell? ⟨b,0,none⟩=some (.string (bs l)):=World.rowIs.cell h (by decide)
theorem SRd.set{w:World}{b:Nat}{l:List UInt8}(h:SRd w b l)(l':List UInt8):SRd (w.setCell ⟨b,0,none⟩ (.string (bs l'))) b l':=
 World.rowIs.congr (World.rowIs.set h 0 (.string (bs l'))) (fun i hi => by have : i = 0 := by omega
                                                                           subst this; simp)
theorem stake(b n:Nat)(l:List UInt8)(w:World)(h:SRd w b l)(hl:l.length<=140737488300000)(hn:n<18446744073709551616) :
  Calls Tryz.prog 66 #[.pointer (some ⟨b,0,none⟩),.int .u64 n] w fun e w'=>e=.returned (.string (bs (l.take n)))/\w'=w.setCell ⟨b,0,none⟩ (.string (bs (l.drop n))):=by
 refine(stake_any b 0 n (bs l) (by rw[bs_size];exact hl) hn w h.cell (World.rowIs.frozen h 0)).mono ?_
 rintro e w' ⟨rfl,rfl⟩
 rw[bs_size,bs_take l _ (by omega),bs_drop]
 by_cases hc:n<=l.length
 ·rw[Nat.min_eq_left hc];exact⟨rfl,rfl⟩
 ·rw[Nat.min_eq_right (by omega),List.take_of_length_le (i:=l.length) (by omega),List.drop_of_length_le (i:=l.length) (by omega),List.take_of_length_le (by omega),List.drop_of_length_le (by omega)]
  exact⟨rfl,rfl⟩
theorem snum(b n:Nat)(l:List UInt8)(w:World)(h:SRd w b l)(hl:l.length<=140737488300000)(h8:n<=8) :
  Calls Tryz.prog 67 #[.pointer (some ⟨b,0,none⟩),.int .u64 n] w fun e w'=>e=.returned (.int .u64 (beV (l.take n)))/\SRd w' b (l.drop n)/\Gr w w' b:=by
 have HT:=hide (stake b n l w h hl (by omega))
 obtain⟨m,hL⟩:∃m,(l.take n).length=m:=⟨_,rfl⟩
 have hm:m<=8:=by rw[<-hL,List.length_take];omega
 obtain⟨W2,c,hcv,hb,HC⟩:=conv_bytes (l.take n) (w.setCell ⟨b,0,none⟩ (.string (bs (l.drop n))))
 rw[hL] at hcv
 have HR:Hid (SRd W2 b (l.drop n)/\Gr w W2 b):=⟨World.rowIs.of_block (h.set (l.drop n)) (hb.block b (h.set (l.drop n)).lt),(Gr.set w b _).trans (Gr.of_below hb b)⟩
 have HB:=hide hb
 have HCC:=hide HC
 have HL:=hide hL
 clear hb HC hL h
 go_enter Tryz.func67,Tryz.ntmps67
 go_wp2_with (go_at_call 66;refine(unhide HT).mono ?_;rintro e w' ⟨rfl,rfl⟩)
 go_loop[5,13] (fun x i=>∃k:Nat,k<=m/\i=.int .i64 (k:Int)/\x=.int .u64 (beV ((l.take n).take k))) (fun _ i=>m-(intOf i).toNat)
 case atStart=>exact⟨0,Nat.zero_le _,rfl,rfl⟩
 case round=>
  obtain⟨k,hk,rfl,rfl⟩:=hrel
  by_cases hlt:k<m
  ·have h9:(k:Int)<(m:Int):=by omega
   obtain⟨x,hx⟩:∃x,(l.take n)[k]?=some x:=⟨_,List.getElem?_eq_getElem (by rw[unhide HL];exact hlt)⟩
   have hc:=unhide HCC k x hx
   simp at hc
   have HN:Hid (beV ((l.take n).take (k+1))=beV ((l.take n).take k)*256+x.toNat):=by
    obtain⟨g1,rfl⟩:=List.getElem?_eq_some_iff.1 hx
    show _=_
    rw[List.take_succ_eq_append_getElem g1,beV_snoc]
   have hbl:beV ((l.take n).take k)<72057594037927936:=by
    have h1:=beV_lt ((l.take n).take k)
    have h2:((l.take n).take k).length<=7:=by rw[List.length_take,unhide HL];omega
    have h3:256 ^ ((l.take n).take k).length<=256 ^ 7:=Nat.pow_le_pow_right (by decide) h2
    have h4:(256:Nat) ^ 7=72057594037927936:=by decide
    omega
   have HO:=hide (or_byte _ x.toNat hbl x.toNat_lt)
   clear hx hbl
   go_wp2
   refine⟨⟨k+1,by omega,by go_num,?_⟩,by simp[intOf];omega⟩
   exact congrArg (Value.int .u64) ((unhide HO).trans (by rw[unhide HN]))
  ·have h9:¬(k:Int)<(m:Int):=by omega
   have e:(l.take n).take k=l.take n:=List.take_of_length_le (by rw[unhide HL];omega)
   have E:=hide e
   clear e
   go_wp2
   go_ret
   exact⟨by rw[unhide E];rfl,unhide HR⟩
end Go.Proofs.YtbfibfmnemnbbaaGreat
