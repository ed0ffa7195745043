import Derived.Test.YtbfibfmnemnbbaaGreatQSrO
import Derived.Test.YtbfibfmnemnbbaaGreatQSbOpen
import Derived.Test.YtbfibfmnemnbbaaGreatPackB
import Derived.ProofKit
import Derived.OpenShut
import Derived.Lib.SmallJoins
import Derived.ChangeOld
import Derived.Deep.Slices
import Derived.Deep.Strs
import Derived.JoinedCond
import Derived.SizedLaws
set_option linter.unusedSimpArgs false
set_option linter.unusedVariables false
set_option maxRecDepth 100000
namespace Go.Proofs.YtbfibfmnemnbbaaGreat
open Go.RowKit Go.Sort
def colsX(kinds:List Int)(rs:List (List Val)):List Vc:=(List.range kinds.length).map fun i=>(colX kinds rs i).1
theorem colsX_at{kinds:List Int}{rs:List (List Val)}{i:Nat}{X:Vc}(h:(colsX kinds rs)[i]?=some X):i<kinds.length/\X=(colX kinds rs i).1:=by
 unfold colsX at h
 rw[List.getElem?_map] at h
 by_cases hi:i<kinds.length
 ·rw[List.getElem?_range hi] at h
  injection h with h
  exact⟨hi,h.symm⟩
 ·rw[List.getElem?_eq_none (by simp;omega)] at h
  cases h
theorem kp_un{rows:Nat}{X:Vc}(hf:Fit rows X)(hff:fromV X.k (valsV X)=(X,0)){s:ByteArray}(h:KP X s):UnR s.data.toList X 0:=by
 rcases h with ⟨_,h⟩|⟨_,h,_⟩
 ·obtain⟨⟨n,h1,h4,hw⟩,_⟩:=pb_one hf.good 3 s h
  have:=packed_col hf.rng (n:=n) (by omega) hw
  have l1:=hf.len;have l2:=hf.le;have l3:=hf.ns;have l4:=hf.ss
  exact .inl ⟨rfl,⟨n,this⟩,hff,by omega,by omega,by omega⟩
 ·exact absurd rfl h
theorem seg_of{kinds:List Int}{rs:List (List Val)}{ps:List (ByteArray×ByteArray)}(hE:Even kinds rs)(hr:∀r∈rs,∀x∈r,-9223372036854775808<=x.n/\x.n<=9223372036854775807)(h1:1<=kinds.length)(h2:kinds.length<=32)
  (hc:∀j,j<kinds.length->(colX kinds rs j).2=0) (hP:PsX KP zP kinds.length (fun i=>(colX kinds rs i).1) ps) {l:List UInt8} (hl:segB kinds.length rs.length ps=bs l) :
  Seg l (colsX kinds rs) ps/\layR l=rs.length/\layN l=kinds.length/\l.length<=140737488300000:=by
 have hle:=hE.le
 have P:=parsed (n:=kinds.length) (rows:=rs.length) (by omega) (by omega) hP.len hP.z hP.s hl
 have hlen:(colsX kinds rs).length=kinds.length:=by simp[colsX]
 have hfit:∀i,i<kinds.length->Fit rs.length (colX kinds rs i).1:=fun i hi=>hE.fit hr hi (hc i hi)
 refine⟨⟨⟨by rw[P.nn];exact h1,by rw[P.nn];exact h2,by rw[P.nn,hlen],fun i X hX=>?_⟩,by rw[hP.len,hlen],fun i X p hX hp=>?_,?_⟩,P.r,P.nn,?_⟩
 ·obtain⟨hi,rfl⟩:=colsX_at hX
  have hip:i<ps.length:=by rw[hP.len];exact hi
  have hff:fromV (kinds.getD i 0) (colL rs i)=((colX kinds rs i).1,0):=by
   have:fromV (kinds.getD i 0) (colL rs i)=colX kinds rs i:=rfl
   rw[this,<-hc i hi]
  obtain⟨g1,g2,g3,g4,g5,g6,g7,g8⟩:=from_ok hff
  have hk:=(hP.at_ i _ (List.getElem?_eq_getElem hip)).2
  obtain⟨C,hC,hT⟩:=P.t
  have e:colP (layS l) i (layT l)=ps[i].2.data.toList:=by
   unfold colP
   rw[P.s,hT,colR_bd C ps i (by omega)]
   have eg:(ps.map fun p=>p.2.size).getD i 0=ps[i].2.size:=by simp[List.getD,List.getElem?_eq_getElem hip]
   have e2:bdL (ps.drop i)=txt ps[i].2++bdL (ps.drop (i+1)):=by
    rw[List.drop_eq_getElem_cons hip,bdL,List.flatMap_cons];rfl
   rw[eg,e2,en_append,List.append_assoc]
   have:=(txt_take ps[i].2 (en (bdL (ps.drop (i+1)))++C)).1
   rw[<-bs_of ps[i].2] at this
   have h3:=congrArg (fun b:ByteArray=>b.data.toList) this
   simp only[bs] at h3
   simpa [bs_of] using h3
  rw[e,P.r]
  exact⟨kp_un (hfit i hi) g4 hk,(hfit i hi).len⟩
 ·obtain⟨hi,rfl⟩:=colsX_at hX
  exact hP.at_ i p hp
 ·rw[hlen,P.r];exact hl
 ·obtain⟨C,hC,e⟩:=P.w
  have b1:=hdL_len hP.z
  have b2:=bdL_len hP.s
  have b3:=hP.len
  rw[e]
  simp only[List.length_append,en_len,beL_length,hC,List.length_cons,List.length_nil]
  omega
theorem colsX_kinds{kinds:List Int}{rs:List (List Val)}(hc:∀j,j<kinds.length->(colX kinds rs j).2=0):(colsX kinds rs).map Vc.k=kinds:=by
 refine List.ext_getElem (by simp[colsX]) fun i h1 h2=>?_
 have hff:fromV (kinds.getD i 0) (colL rs i)=((colX kinds rs i).1,0):=by
  have:fromV (kinds.getD i 0) (colL rs i)=colX kinds rs i:=rfl
  rw[this,<-hc i h2]
 obtain⟨g1,g2,_⟩:=from_ok hff
 simp only[colsX,List.getElem_map,List.getElem_range]
 rw[g2]
 simp[List.getD,List.getElem?_eq_getElem h2]
def BuQ(kinds:List Int)(rs:List (List Val))(w w':World)(e:Ending):Prop:=
 ((∃er:Int,er≠0/\e=.returned (.tuple #[.string ⟨#[]⟩,.int .i64 er]))∨(∃l ps,e=.returned (.tuple #[.string (bs l),.int .i64 0])/\Seg l (colsX kinds rs) ps/\layR l=rs.length/\layN l=kinds.length/\l.length<=140737488300000/\(colsX kinds rs).map Vc.k=kinds/\Even kinds rs/\(∀j,j<kinds.length->(colX kinds rs j).2=0)/\1<=kinds.length/\kinds.length<=32))/\Below w.heap.size w w'
theorem build_any(w:World)(kinds:List Int)(ak:Option Addr)(ck:Nat)(rs:List (List Val))(ar:Option Addr)(cr:Nat)(h1:kinds.length<=140737488355328)(h2:rs.length<=140737488355328)(h3:∀r∈rs,r.length<=140737488355328)
  (hr:∀r∈rs,∀x∈r,-9223372036854775808<=x.n/\x.n<=9223372036854775807) (hak:LisAt w ak (kinds.map (Value.int .i64))) (har:RowsAt w ar rs) :
  Calls Tryz.prog 4 #[.slice ak kinds.length ck,.slice ar rs.length cr] w fun e w'=>BuQ kinds rs w w' e:=by
 have C:=looks w kinds ak ck rs ar cr h1 h2 h3 hak har
 have no:∀{er:Int},er≠0->∀(e:Ending) (w':World),(e=.returned (.tuple #[.string ⟨#[]⟩,.int .i64 er])/\Below w.heap.size w w')->BuQ kinds rs w w' e:=fun hn e w' h=>⟨.inl ⟨_,hn,h.1⟩,h.2⟩
 by_cases a1:kinds.length<1
 ·exact(build_a1 w kinds ak ck rs ar cr C a1).mono (no (by decide))
 by_cases a2:32<kinds.length
 ·exact(build_a2 w kinds ak ck rs ar cr C a2).mono (no (by decide))
 have b1:1<=kinds.length:=by omega
 have b2:kinds.length<=32:=by omega
 cases a3:kinds.any noKB
 case true=>exact(build_a3 w kinds ak ck rs ar cr C b1 b2 a3).mono (no (by decide))
 by_cases a4:4096<rs.length
 ·exact(build_b1 w kinds ak ck rs ar cr C b1 b2 a3 a4).mono (no (by decide))
 have b4:rs.length<=4096:=by omega
 cases a5:rs.any fun r=>r.any largeTB
 case true=>exact(build_b2 w kinds ak ck rs ar cr C b1 b2 a3 b4 a5).mono (no (by decide))
 cases a6:rs.any (oddB kinds.length)
 case true=>exact(build_c w kinds ak ck rs ar cr C b1 b2 a3 b4 a5 a6).mono (no (by decide))
 have hE:Even kinds rs:=⟨by simp[okKB,a3,b1,b2],b4,fun r hr'=>by
   have:=List.any_eq_false.1 a6 r hr'
   simp only[oddB,bne_iff_ne,ne_eq,Classical.not_not] at this
   omega,fun r hr' x hx=>by
   have:=List.any_eq_false.1 a5 r hr'
   have:=List.any_eq_false.1 (by simpa using this) x hx
   simpa using this⟩
 refine(build_d KP zP w kinds ak ck rs ar cr C hak har b1 b2 a3 b4 a5 a6 (fun i hi hc=>(hE.fit hr hi hc).law)).mono ?_
 rintro e w' ⟨⟨i,hi,hn,_,rfl⟩|⟨hc,ps,rfl,hP⟩,hb⟩
 ·exact⟨.inl ⟨_,hn,rfl⟩,hb⟩
 ·have hl:segB kinds.length rs.length ps=bs (segB kinds.length rs.length ps).data.toList:=(bs_of _).symm
  obtain⟨s1,s2,s3,s4⟩:=seg_of hE hr b1 b2 hc hP hl
  exact⟨.inr ⟨_,ps,by rw[<-hl],s1,s2,s3,s4,colsX_kinds hc,hE,hc,b1,b2⟩,hb⟩
end Go.Proofs.YtbfibfmnemnbbaaGreat
set_option linter.unusedSimpArgs false
set_option linter.unusedVariables false
set_option maxRecDepth 100000
namespace Go.Proofs.YtbfibfmnemnbbaaGreat
open Go.ChangeShapes Go.WideShapes Go.ChangeAt Go.RowKit Go.Joins Go.Deep
theorem ownT:ownKnob Tryz.prog.godebug=none:=by kernel_rfl
theorem laidT:laidOutB Tryz.prog=true:=by kernel_rfl
theorem bytes3:Tryz.prog.bytesOf 3=8:=by kernel_rfl
theorem bytesV:Tryz.prog.bytesOf 25=32:=by kernel_rfl
theorem bytes37:Tryz.prog.bytesOf 36=24:=by kernel_rfl
theorem cellsV:Tryz.prog.cellsOf 25=3:=by kernel_rfl
theorem cells37:Tryz.prog.cellsOf 36=1:=by kernel_rfl
theorem cells3:Tryz.prog.cellsOf 3=1:=by kernel_rfl
theorem cells2:Tryz.prog.cellsOf 2=1:=by kernel_rfl
theorem cells9:Tryz.prog.cellsOf 9=1:=by kernel_rfl
def VOk(x:Val):Prop:=In64 x.n/\x.s.size<=140737488355328
theorem in64_of{x:Int}(h:(Lit.int .i64 x).wf=true):In64 x:=by
 simp[Lit.wf,IntKind.min,IntKind.max,IntKind.signed,IntKind.bits] at h
 exact⟨by omega,by omega⟩
theorem weights_all{H:Type}{P:Program}{e:TypeId}:∀{l:List (DataW H)} {d:DataW H},d∈l->∀n∈d.weights P e,n∈DataW.weightsAll P e l
 | x::l,d,h,n,hn=>by
  rw[DataW.weightsAll,List.mem_append]
  rcases List.mem_cons.1 h with rfl|h
  ·exact .inl hn
  ·exact .inr (weights_all h n hn)
section
variable {H:Type}{enc:TypeId×Value->H}{w:World}{base:Nat}{spare:Nat->Bool}{held:Bool}
theorem addr_lit(b o n:Nat):(⟨b,o,none⟩:Addr).add n=⟨b,o+n,none⟩:=by
 by_cases h:n=0<;>simp[Addr.add,h]
theorem open_rowT{fu:Nat}{cv:Value}{y:DataW H×List MemPlace}(hf:DataW.trod enc Tryz.prog w base spare held fu 36 [cv]=some y)(hw:∀n∈y.1.weights Tryz.prog (36),n<=reachBytes) :
  ∃(a:Option Addr) (c:Nat) (xs:List Val),cv=.slice a xs.length c/\RowAt w a xs/\(∀x∈xs,VOk x)/\xs.length<=4398046511104/\(a=none->xs=[]/\c=0):=by
 rcases open_slice Tryz.underlying36 hf with ⟨hcs,hx⟩|⟨a,len,cap,m,n,D,Pl,hcs,hb,hl,hm,hmm,hx,hel⟩
 ·simp only[List.cons.injEq,and_true] at hcs
  subst hcs
  exact⟨none,0,[],rfl,.inl rfl,by simp,Nat.zero_le _,fun _=>⟨rfl,rfl⟩⟩
 ·simp only[List.cons.injEq,and_true] at hcs
  subst hcs
  have hx:=(show y.1=_/\y.2=_ by rw[hx];exact⟨rfl,rfl⟩)
  have hlm:len<=m:=by rw[hmm];split<;>omega
  have hbyt:len<=4398046511104:=by
   have:=hw ((((List.range len).map D).length+((List.range (m-len)).map fun j=>D (len+j)).length)*Tryz.prog.bytesOf 25) (by rw[hx.1];simp[DataW.weights,Tryz.underlying36])
   rw[bytesV] at this
   have h2:=reachBytes_lt
   simp only[List.length_map,List.length_range] at this
   omega
  have hel2:∀i,i<len->∃x:Val,w.cells? base (a.add (i*3)) 3=some [.int .i64 x.k,.int .i64 x.n,.string x.s]/\VOk x:=by
   intro i hi
   obtain⟨cs,g1,g2⟩:=hel i (by omega)
   rw[cellsV] at g1
   have hwi:∀n∈(D i).weights Tryz.prog (25),n<=reachBytes:=fun n hn=>hw n (by
    rw[hx.1]
    simp only[DataW.weights,Tryz.underlying36,List.mem_cons,List.mem_append]
    exact .inr (.inl (weights_all (List.mem_map.2 ⟨i,List.mem_range.2 hi,rfl⟩) n hn)))
   obtain⟨z0,z1,z2,n2,hz,hzl,h0,h1,h2⟩:=trod_struct3 Tryz.underlying25 g2
   rw[cellsV] at hzl
   match cs,hzl with
   | [c0,c1,c2],_=>
    simp only[cells3,cells2,cells9,List.drop_zero,List.take_succ_cons,List.take_zero,List.drop_succ_cons] at h0 h1 h2
    obtain⟨vk,e2,r0,wk⟩:=DataW.trod_int Tryz.underlying3 h0
    obtain⟨vn,e3,r1,wn⟩:=DataW.trod_int Tryz.underlying2 h1
    obtain⟨vs,e4,r2,ws⟩:=DataW.trod_string Tryz.underlying9 h2
    simp only[List.cons.injEq,and_true] at e2 e3 e4
    subst e2 e3 e4
    have hD:D i=.agg [z0.1,z1.1,z2.1]:=by simp only[Prod.mk.injEq] at hz;exact hz.1
    refine⟨⟨vk,vn,vs⟩,g1,in64_of wn,?_⟩
    have:=hwi vs.data.toList.length (by rw[hD];simp[DataW.weights,DataW.weightsEach,Tryz.underlying25,r2])
    have h2:=reachBytes_lt
    rw[Array.length_toList] at this
    have e:vs.data.size=vs.size:=rfl
    show vs.size<=_
    omega
  have inst:Inhabited Val:=⟨Val.null⟩
  obtain⟨f,hfx⟩:=choose_lt (α:=Val) (n:=len) hel2
  have hlen:((List.range len).map f).length=len:=by simp
  refine⟨some a,cap,(List.range len).map f,by rw[hlen],?_,?_,by rw[hlen];exact hbyt,fun h=>by cases h⟩
  ·by_cases h0:len=0
   ·left;subst h0;rfl
   ·right
    obtain⟨b,off,spot⟩:=a
    have hc0:=(World.cells?_some (hfx 0 (by omega)).1).2.2 0 (by omega)
    have hspot:spot=none:=by simpa [Addr.add] using World.cell?_spot hc0
    subst hspot
    refine⟨b,off,rfl,fun i x hx=>?_⟩
    obtain⟨hi,rfl⟩:=List.getElem?_eq_some_iff.1 hx
    have hi':i<len:=by simpa using hi
    have hc:=(World.cells?_some (hfx i hi').1).2.2
    have e0:=hc 0 (by omega)
    have e1:=hc 1 (by omega)
    have e2:=hc 2 (by omega)
    rw[addr_lit,addr_lit] at e0 e1 e2
    simp only[List.getElem_map,List.getElem_range]
    exact⟨by simpa using e0,by simpa using e1,by simpa using e2⟩
  ·intro x hx
   obtain⟨i,hi,rfl⟩:=List.mem_map.1 hx
   exact(hfx i (by simpa using hi)).2
theorem open_intsT{fu:Nat}{cv:Value}{y:DataW H×List MemPlace}(hf:DataW.trod enc Tryz.prog w base spare held fu 22 [cv]=some y)(hw:∀n∈y.1.weights Tryz.prog (22),n<=reachBytes) :
  ∃(a:Option Addr) (c:Nat) (xs:List Int),cv=.slice a xs.length c/\LisAt w a (xs.map (Value.int .i64))/\xs.length<=140737488355328:=by
 rcases open_slice Tryz.underlying22 hf with ⟨hcs,hx⟩|⟨a,len,cap,m,n,D,Pl,hcs,hb,hl,hm,hmm,hx,hel⟩
 ·simp only[List.cons.injEq,and_true] at hcs
  subst hcs
  exact⟨none,0,[],rfl,.inl rfl,Nat.zero_le _⟩
 ·simp only[List.cons.injEq,and_true] at hcs
  subst hcs
  have hx:=(show y.1=_/\y.2=_ by rw[hx];exact⟨rfl,rfl⟩)
  have hlm:len<=m:=by rw[hmm];split<;>omega
  have hbyt:len<=140737488355328:=by
   have:=hw ((((List.range len).map D).length+((List.range (m-len)).map fun j=>D (len+j)).length)*Tryz.prog.bytesOf 3) (by rw[hx.1];simp[DataW.weights,Tryz.underlying22])
   rw[bytes3] at this
   have h2:=reachBytes_lt
   simp only[List.length_map,List.length_range] at this
   omega
  have hel2:∀i,i<len->∃x:Int,w.cells? base (a.add (i*1)) 1=some [.int .i64 x]:=by
   intro i hi
   obtain⟨cs',h1,h2⟩:=hel i (by omega)
   rw[cells3] at h1
   obtain⟨x,rfl,_⟩:=DataW.trod_int Tryz.underlying3 h2
   exact⟨x,h1⟩
  obtain⟨f,hfx⟩:=choose_lt (α:=Int) (n:=len) hel2
  have hlen:((List.range len).map f).length=len:=by simp
  refine⟨some a,cap,(List.range len).map f,by rw[hlen],?_,by rw[hlen];exact hbyt⟩
  by_cases h0:len=0
  ·left;subst h0;rfl
  ·right
   obtain⟨b,off,spot⟩:=a
   have hc0:=(World.cells?_some (hfx 0 (by omega))).2.2 0 (by omega)
   have hspot:spot=none:=by simpa [Addr.add] using World.cell?_spot hc0
   subst hspot
   refine⟨b,off,rfl,fun i x hx=>?_⟩
   rw[List.getElem?_map] at hx
   obtain⟨x,hx1,rfl⟩:=Option.map_eq_some_iff.1 hx
   obtain⟨hi,rfl⟩:=List.getElem?_eq_some_iff.1 hx1
   have hi':i<len:=by simpa using hi
   have e0:=(World.cells?_some (hfx i hi')).2.2 0 (by omega)
   rw[addr_lit,addr_lit] at e0
   simp only[List.getElem_map,List.getElem_range]
   simpa using e0
theorem open_ints{r:Reach}{b0:Nat}{v:Value}{d:DataW H}{p:List MemPlace}(hv:Value.okWide Tryz.prog w r b0 22 v)(h:DataW.Trod enc Tryz.prog w base spare held 22 v d p)(hw:∀n∈d.weights Tryz.prog (22),n<=reachBytes) :
  ∃(a:Option Addr) (c:Nat) (xs:List Int),v=.slice a xs.length c/\LisAt w a (xs.map (Value.int .i64))/\xs.length<=140737488355328:=by
 obtain⟨a0,len,cap,rfl⟩:=okWide_slice Tryz.underlying22 hv
 obtain⟨fuel,hf⟩:=h
 exact open_intsT (y:=(d,p)) hf hw
theorem open_rows{r:Reach}{b0:Nat}{v:Value}{d:DataW H}{p:List MemPlace}(hv:Value.okWide Tryz.prog w r b0 23 v)(h:DataW.Trod enc Tryz.prog w base spare held 23 v d p)(hw:∀n∈d.weights Tryz.prog (23),n<=reachBytes) :
  ∃(a:Option Addr) (c:Nat) (rs:List (List Val)),v=.slice a rs.length c/\RowsAt w a rs/\rs.length<=140737488355328/\∀x∈rs,x.length<=140737488355328/\∀y∈x,VOk y:=by
 obtain⟨a0,len,cap,rfl⟩:=okWide_slice Tryz.underlying23 hv
 obtain⟨fuel,hf⟩:=h
 rcases open_slice Tryz.underlying23 hf with ⟨hcs,hx⟩|⟨a,len',cap',m,n,D,Pl,hcs,hb,hl,hm,hmm,hx,hel⟩
 ·simp[Value.cells] at hcs
  obtain⟨rfl,rfl,rfl⟩:=hcs
  exact⟨none,0,[],rfl,.inl rfl,Nat.zero_le _,by simp⟩
 ·simp[Value.cells] at hcs
  obtain⟨rfl,rfl,rfl⟩:=hcs
  simp only[Prod.mk.injEq] at hx
  have hlm:len<=m:=by rw[hmm];split<;>omega
  have hbyt:len<=140737488355328:=by
   have:=hw ((((List.range len).map D).length+((List.range (m-len)).map fun j=>D (len+j)).length)*Tryz.prog.bytesOf 36) (by rw[hx.1];simp[DataW.weights,Tryz.underlying23])
   rw[bytes37] at this
   have h2:=reachBytes_lt
   simp only[List.length_map,List.length_range] at this
   omega
  have hel2:∀i,i<len->∃x:List Val,∃ra rc,w.cells? base (a.add (i*1)) 1=some [.slice ra x.length rc]/\RowAt w ra x/\(∀y∈x,VOk y)/\x.length<=140737488355328:=by
   intro i hi
   obtain⟨cs',g1,g2⟩:=hel i (by omega)
   rw[cells37] at g1
   have hwi:∀n∈(D i).weights Tryz.prog (36),n<=reachBytes:=fun n hn=>hw n (by
    rw[hx.1]
    simp only[DataW.weights,Tryz.underlying23,List.mem_cons,List.mem_append]
    exact .inr (.inl (weights_all (List.mem_map.2 ⟨i,List.mem_range.2 hi,rfl⟩) n hn)))
   have hl1:cs'.length=1:=(World.cells?_some g1).2.1
   match cs',hl1 with
   | [c0],_=>
    obtain⟨ra,rc,x,rfl,q1,q2,q3,_⟩:=open_rowT g2 hwi
    exact⟨x,ra,rc,g1,q1,q2,by omega⟩
  obtain⟨f,hfx⟩:=choose_lt (α:=List Val) (n:=len) hel2
  have hlen:((List.range len).map f).length=len:=by simp
  refine⟨some a,cap,(List.range len).map f,by rw[hlen],?_,by rw[hlen];exact hbyt,?_⟩
  ·by_cases h0:len=0
   ·left;subst h0;rfl
   ·right
    obtain⟨b,off,spot⟩:=a
    obtain⟨ra0,rc0,hz,_⟩:=hfx 0 (by omega)
    have hc0:=(World.cells?_some hz).2.2 0 (by omega)
    have hspot:spot=none:=by simpa [Addr.add] using World.cell?_spot hc0
    subst hspot
    refine⟨b,off,rfl,fun i x hx=>?_⟩
    obtain⟨hi,rfl⟩:=List.getElem?_eq_some_iff.1 hx
    have hi':i<len:=by simpa using hi
    obtain⟨ra,rc,hc,q1,_⟩:=hfx i hi'
    have e0:=(World.cells?_some hc).2.2 0 (by omega)
    rw[addr_lit,addr_lit] at e0
    simp only[List.getElem_map,List.getElem_range]
    exact⟨ra,rc,by simpa using e0,q1⟩
  ·intro x hx
   obtain⟨i,hi,rfl⟩:=List.mem_map.1 hx
   obtain⟨ra,rc,_,_,q2,q3⟩:=hfx i (by simpa using hi)
   exact⟨q3,q2⟩
end
end Go.Proofs.YtbfibfmnemnbbaaGreat
