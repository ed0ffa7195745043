import Derived.Test.YtekgpapophibcaaGreatRyM
set_option linter.unusedSimpArgs false
set_option linter.unusedVariables false
set_option maxHeartbeats 1000000
set_option maxRecDepth 100000
namespace Go.Proofs.YtekgpapophibcaaGreat
open Go.RowKit Go.Sort
def UnQ(w w':World)(l:List UInt8)(e:Ending):Prop:=
 ∃X p f,e=.returned (.tuple #[zCC X p,.int .i64 f])/\zAi w' X p/\zBb w.heap.size p/\Hid (UnR l X f)/\Below w.heap.size w w'
theorem zE2{w w':World}{l:List UInt8}(hd:zB7 l=none)(hb:Below w.heap.size w w'):UnQ w w' l (.returned (.tuple #[zAa,.int .i64 2])):=
 ⟨.zero,⟨none,0,none,0,none,0⟩,2,rfl,zAi.zero _,⟨by simp,by simp,by simp⟩,.inr ⟨rfl,rfl,hd⟩,hb⟩
theorem put4{w W:World}(hb:Below w.heap.size w W)(u v x y:Value):Below w.heap.size w ((((W.setCell ⟨w.heap.size,0,none⟩ u).setCell ⟨w.heap.size,1,none⟩ v).setCell ⟨w.heap.size,2,none⟩ x).setCell ⟨w.heap.size,3,none⟩ y):=
 ((((hb.setCell (by simp) _).setCell (by simp) _).setCell (by simp) _).setCell (by simp) _)
abbrev zCp:Obj:=.cells #[.int .i64 0,.slice none 0 0,.slice none 0 0,.slice none 0 0] 49
theorem zBo{w W:World}(h:Below (w.alloc zCp).heap.size (w.alloc zCp) W) :
  (W.cell? ⟨w.heap.size,0,none⟩=some (.int .i64 0)/\W.cell? ⟨w.heap.size,1,none⟩=some (.slice none 0 0)/\W.cell? ⟨w.heap.size,2,none⟩=some (.slice none 0 0)/\W.cell? ⟨w.heap.size,3,none⟩=some (.slice none 0 0))/\(W.frozen? ⟨w.heap.size,0,none⟩=false/\W.frozen? ⟨w.heap.size,1,none⟩=false/\W.frozen? ⟨w.heap.size,2,none⟩=false/\W.frozen? ⟨w.heap.size,3,none⟩=false):=by
 have hr:(w.alloc zCp).rowIs w.heap.size 49 4 (zGA (.int .i64 0) (.slice none 0 0) (.slice none 0 0) (.slice none 0 0)):=by
  refine World.rowIs_alloc w _ 49 _ ?_
  intro i hi
  match i,hi with
  | 0,_=>rfl
  | 1,_=>rfl
  | 2,_=>rfl
  | 3,_=>rfl
 obtain⟨h0,h1,h2,h3,f0,f1,f2,f3⟩:=zAk (zA5 hr h)
 exact⟨⟨h0,h1,h2,h3⟩,f0,f1,f2,f3⟩
theorem zJ9{l:List UInt8}{w:World}(h:l.length<7):Calls Tryz.prog 41 #[.string (bs l)] w fun e w'=>UnQ w w' l e:=by
 have hd:zB7 l=none:=zFl fun sch kind xs hc=>by
  obtain⟨c0,c1,n0,n1,n2,n3,z,tl,rfl,_⟩:=zEw hc
  simp at h;omega
 have HD:=zA3 hd
 have hs:=zBV l
 have hi:(l.length:Int)<7:=by omega
 clear hd
 go_enter Tryz.func41,Tryz.ntmps41
 go_wp2
 refine bodyPost_ret (v:=.tuple #[zAa,.int .i64 2]) (by simp[results,Tryz.results41,go_sem,zAa, *]) rfl (zE2 (zA0 HD) ?_)
 exact zA1 (Below.refl _ _) _
def zPq(c0 c1 z:UInt8)(n:Nat):Prop:=(1<=c0.toNat/\c0.toNat<=4)/\(c1.toNat=1∨c1.toNat=2)/\n<=4096/\z.toNat<=1
theorem zMH{c0 c1 n0 n1 n2 n3 z:UInt8}{tl L:List UInt8}{w:World}(hL:L=c0::c1::n0::n1::n2::n3::z::tl)(hl:L.length<=140737488355328)(yI:¬zPq c0 c1 z (beV [n0,n1,n2,n3])) :
  Calls Tryz.prog 41 #[.string (bs L)] w fun e w'=>UnQ w w' L e:=by
 have hd:zB7 L=none:=zFl fun sch kind xs hc=>by
  obtain⟨d0,d1,m0,m1,m2,m3,y,tl',e,_,_,h1,h2,h3,h4,_⟩:=zEw hc
  rw[hL] at e
  injection e with e0 e;injection e with e1 e;injection e with e2 e;injection e with e3 e;injection e with e4 e;injection e with e5 e;injection e with e6 e
  subst e0 e1 e2 e3 e4 e5 e6
  exact yI ⟨h1,h2,h3,h4⟩
 unfold zPq at yI
 have HD:=zA3 hd
 have hs:(bs L).size=L.length:=zBV L
 have Hf:L.length=tl.length+7:=by rw[hL];rfl
 have g0:L[0]?=some c0:=by rw[hL];rfl
 have g1:L[1]?=some c1:=by rw[hL];rfl
 have g6:L[6]?=some z:=by rw[hL];rfl
 have hi0:∀W,(Instr.index 9 (.string (bs L)) (.int .i64 0)).run Tryz.prog W=.ok (.int .u8 (c0.toNat:Int)) W:=fun W=>zH4 L 0 c0 g0 W
 have hi1:∀W,(Instr.index 9 (.string (bs L)) (.int .i64 1)).run Tryz.prog W=.ok (.int .u8 (c1.toNat:Int)) W:=fun W=>zH4 L 1 c1 g1 W
 have YL:∀W,(Instr.index 9 (.string (bs L)) (.int .i64 6)).run Tryz.prog W=.ok (.int .u8 (z.toNat:Int)) W:=fun W=>zH4 L 6 z g6 W
 have hx:(bs L).extract 2 6=bs [n0,n1,n2,n3]:=by
  rw[hL]
  rfl
 have HN:=zA3 (fun W=>zB6 [n0,n1,n2,n3] (by show 4<=8;decide) W)
 have ZW:beV [n0,n1,n2,n3]<4294967296:=Nat.lt_of_lt_of_le (zBn _) (by show 256 ^ 4<=4294967296;decide)
 generalize beV [n0,n1,n2,n3]=n at *
 have h7:¬(L.length:Int)<7:=by omega
 have hlb:(L.length:Int)<=140737488355328:=by omega
 have Fd:c0.toNat<256:=c0.toNat_lt
 have Qj:c1.toNat<256:=c1.toNat_lt
 have QY:z.toNat<256:=z.toNat_lt
 generalize c0.toNat=a0 at *
 generalize c1.toNat=a1 at *
 generalize z.toNat=az at *
 have Zk:a0<1∨(¬a0<1/\4<a0)∨((¬a0<1/\¬4<a0)/\a1≠1/\a1≠2)∨((¬a0<1/\¬4<a0)/\(a1=1∨a1=2)/\4096<n)∨((¬a0<1/\¬4<a0)/\(a1=1∨a1=2)/\¬4096<n/\1<az):=by
  omega
 clear yI hd g0 g1 g6 hL
 rcases Zk with h|⟨h,h'⟩|⟨⟨h,h'⟩,h1,h2⟩|⟨⟨h,h'⟩,h1,h2⟩|⟨⟨h,h'⟩,h1,h2,h3⟩
 ·have j0:(a0:Int)<1:=by omega
  go_enter Tryz.func41,Tryz.ntmps41
  go_wp2
  refine bodyPost_ret (v:=.tuple #[zAa,.int .i64 2]) (by simp[results,Tryz.results41,go_sem,zAa, *]) rfl (zE2 (zA0 HD) ?_)
  exact zA1 (Below.refl _ _) _
 ·have j0:¬(a0:Int)<1:=by omega
  have j1:(4:Int)<(a0:Int):=by omega
  go_enter Tryz.func41,Tryz.ntmps41
  go_wp2
  refine bodyPost_ret (v:=.tuple #[zAa,.int .i64 2]) (by simp[results,Tryz.results41,go_sem,zAa, *]) rfl (zE2 (zA0 HD) ?_)
  exact zA1 (Below.refl _ _) _
 ·have j0:¬(a0:Int)<1:=by omega
  have j1:¬(4:Int)<(a0:Int):=by omega
  have j2:((a1:Int) != 1)=true:=by simp;omega
  have j3:((a1:Int) != 2)=true:=by simp;omega
  go_enter Tryz.func41,Tryz.ntmps41
  go_wp2
  refine bodyPost_ret (v:=.tuple #[zAa,.int .i64 2]) (by simp[results,Tryz.results41,go_sem,zAa, *]) rfl (zE2 (zA0 HD) ?_)
  exact zA1 (Below.refl _ _) _
 ·have j0:¬(a0:Int)<1:=by omega
  have j1:¬(4:Int)<(a0:Int):=by omega
  have j4:(4096:Int)<(n:Int):=by omega
  rcases h1 with rfl|rfl
  all_goals
   go_enter Tryz.func41,Tryz.ntmps41
   go_wp2_with (go_at_call 40;refine(zA0 HN _).mono ?_;rintro e wn ⟨rfl,rfl⟩)
   refine bodyPost_ret (v:=.tuple #[zAa,.int .i64 2]) (by simp[results,Tryz.results41,go_sem,zAa, *]) rfl (zE2 (zA0 HD) ?_)
   exact zA1 (Below.refl _ _) _
 ·have j0:¬(a0:Int)<1:=by omega
  have j1:¬(4:Int)<(a0:Int):=by omega
  have j4:¬(4096:Int)<(n:Int):=by omega
  have j5:(1:Int)<(az:Int):=by omega
  rcases h1 with rfl|rfl
  all_goals
   go_enter Tryz.func41,Tryz.ntmps41
   go_wp2_with (go_at_call 40;refine(zA0 HN _).mono ?_;rintro e wn ⟨rfl,rfl⟩)
   refine bodyPost_ret (v:=.tuple #[zAa,.int .i64 2]) (by simp[results,Tryz.results41,go_sem,zAa, *]) rfl (zE2 (zA0 HD) ?_)
   exact zA1 (Below.refl _ _) _
theorem zRM{w:World}{base:Nat}{a:Option Addr}{c:Nat}{xs:List Val}(h:zAV w base (.slice a xs.length c) xs):xs.length<=c:=by
 rcases h.2 with ⟨e,h0⟩|⟨g,cap,cur,e,hb,hh,hc,hm,Gp,ht⟩
 ·omega
 ·injection e with _ _ e
  omega
theorem zEq:∀{nl:List Bool} {vs:List Val} {k:Nat} {b:Bool},nl[k]?=some b->zAU (nl.take (k+1)) vs=zAU (nl.take k) vs++[if b then .null else (vs.drop (zDf nl k)).headD .null]
 | [],vs,k,b,h=>by simp at h
 | true::nl,vs,0,b,h=>by simp at h;subst h;simp[zAU]
 | false::nl,vs,0,b,h=>by simp at h;subst h;simp[zAU,zDf]
 | true::nl,vs,k+1,b,h=>by
  have ih:=zEq (vs:=vs) (by simpa using h:nl[k]?=some b)
  rw[List.take_succ_cons,List.take_succ_cons,zAU,zAU,ih]
  simp[zDf]
 | false::nl,vs,k+1,b,h=>by
  have ih:=zEq (vs:=vs.tail) (by simpa using h:nl[k]?=some b)
  rw[List.take_succ_cons,List.take_succ_cons,zAU,zAU,ih]
  simp[zDf]
theorem Br.new(W:World)(l:List UInt8)(x:Bool):Br (W.alloc (.cells #[.string (bs l),.bool x] 83)) W.heap.size l x:=by
 refine World.rowIs_alloc W _ 83 _ ?_
 intro i hi
 match i,hi with
 | 0,_=>rfl
 | 1,_=>rfl
theorem zSu{c0 c1 n0 n1 n2 n3 z:UInt8}{tl L:List UInt8}(hL:L=c0::c1::n0::n1::n2::n3::z::tl){n m:Nat}(hn:n=beV [n0,n1,n2,n3]){ks:List Nat}{r:List UInt8}{x:Bool}(hq:zIz z.toNat n tl=(ks,r,x))(hm:m=(ks.map (· == 1)).count false)
  {vs:List Val} {r2:List UInt8} {x2:Bool} (hv:zG2 c0.toNat (c1.toNat:Int) m r x=(vs,r2,x2)) {sch:Nat} {kind:Int} {xs:List Val} (hc:zB7 L=some (sch,kind,xs)) :
  sch=c0.toNat/\kind=(c1.toNat:Int)/\x2=false/\vs.length=m/\xs=zAU (ks.map (· == 1)) vs:=by
 obtain⟨d0,d1,m0,m1,m2,m3,y,tl',e,f1,f2,h1,h2,h3,h4,r',vs',g1,g2,g3,g4⟩:=zEw hc
 rw[hL] at e
 injection e with e0 e;injection e with e1 e;injection e with e2 e;injection e with e3 e;injection e with e4 e;injection e with e5 e;injection e with e6 e
 subst e0 e1 e2 e3 e4 e5 e6 e
 rw[<-hn,hq] at g1 g2 g3 g4
 simp only at g1 g2 g3 g4
 injection g1 with g1 g5
 subst g1 g5
 rw[<-hm,f1,f2,hv] at g2
 injection g2 with g2 g6
 injection g6 with g6 g7
 subst g2 g7
 exact⟨f1,f2,rfl,by rw[g3,hm],g4⟩
theorem zSV{ks:List Nat}(h:∀k∈ks,k<2){k y:Nat}(hy:ks[k]?=some y):y=0∨y=1:=by
 have:=h y (List.mem_of_getElem? hy)
 omega
theorem zCZ{a:Int}(h1:-9223372036854775808<=a)(h2:a<=9223372036854775807):IntKind.i64.wrap a=a:=by
 rw[IntKind.wrap_i64];omega
theorem zTy{t s:ByteArray}(h:t≠s):(t.toList == s.toList)=false:=by
 rw[beq_eq_false_iff_ne]
 intro h2
 exact h (WideShapes.bytes_inj (by rw[<-Lib.toList_data,<-Lib.toList_data];exact h2))
theorem zAp.set1{w:World}{a:Option Addr}{cs:List Value}{B:Nat}(h:zAp w a cs)(hf:∀ad,a=some ad->B<ad.block)(j:Nat)(v:Value):zAp (w.setCell ⟨B,j,none⟩ v) a cs:=
 zAp.setO (base:=B+1) h (fun ad e=>hf ad e) ⟨B,j,none⟩ (by simp) v
theorem zAi.put4{w:World}{X:Vc}{p:Sl}{B:Nat}(h:zAi w X p)(hf:zBb (B+1) p)(u v x y:Value):zAi ((((w.setCell ⟨B,0,none⟩ u).setCell ⟨B,1,none⟩ v).setCell ⟨B,2,none⟩ x).setCell ⟨B,3,none⟩ y) X p:=
 ⟨(((h.1.set1 hf.1 _ _).set1 hf.1 _ _).set1 hf.1 _ _).set1 hf.1 _ _,(((h.2.1.set1 hf.2.1 _ _).set1 hf.2.1 _ _).set1 hf.2.1 _ _).set1 hf.2.1 _ _,(((h.2.2.set1 hf.2.2 _ _).set1 hf.2.2 _ _).set1 hf.2.2 _ _).set1 hf.2.2 _ _⟩
theorem zDS(w:World)(o:Obj):(w.alloc o).heap.size=w.heap.size+1:=by simp
theorem zLt{w1 wr w5:World}{b:Nat}(hb:Below w1.heap.size w1 wr)(hg:Gr wr w5 b)(Tn:w1.heap.size<=b):Below w1.heap.size w1 w5:=
 ⟨hg.os.trans hb.os,hg.tape.trans hb.tape,hg.output.trans hb.output,Nat.le_trans hb.size hg.size,fun i hi=>(hg.block i (Nat.lt_of_lt_of_le hi hb.size) (fun e=>by injection e with e;omega)).trans (hb.block i hi)⟩
theorem zTk(nl:List Bool)(k:Nat):zDf nl k<=k:=by
 unfold zDf
 refine Nat.le_trans List.count_le_length ?_
 rw[List.length_take];omega
end Go.Proofs.YtekgpapophibcaaGreat
