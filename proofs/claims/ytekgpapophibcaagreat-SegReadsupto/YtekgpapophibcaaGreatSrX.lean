import Derived.Test.YtekgpapophibcaaGreatSgQ
import Derived.Test.YtekgpapophibcaaGreatRyM
import Derived.Test.YtekgpapophibcaaGreatSrW
set_option linter.unusedSimpArgs false
set_option linter.unusedVariables false
namespace Go.Proofs.YtekgpapophibcaaGreat
open Go.RowKit Go.Sort
theorem zQe(ys:List Val):∃W,zBW ys W:=by
 refine⟨_,ys.mergeSort (fun x y=>decide (zAh x y<=0)),List.mergeSort_perm _ _,?_,rfl⟩
 have h:=List.pairwise_mergeSort (le:=fun x y:Val=>decide (zAh x y<=0)) (fun a b c h1 h2=>by
  simp only[decide_eq_true_eq] at *
  exact zBz h1 h2) (fun a b=>by
  have:=zBA a b
  simp only[Bool.or_eq_true,decide_eq_true_eq]
  omega) ys
 refine List.Pairwise.imp (fun hh=>?_) h
 simpa using hh
theorem zQL{n:Nat}(h1:1<=n)(h4:n<=4)(ys:List Val):∃b,zEj n ys b:=by
 have:n=1∨n=2∨n=3∨n=4:=by omega
 rcases this with rfl|rfl|rfl|rfl
 ·exact⟨_,.inl ⟨rfl,rfl⟩⟩
 ·exact⟨_,.inr (.inl ⟨rfl,rfl⟩)⟩
 ·obtain⟨W,hW⟩:=zQe ys
  exact⟨_,.inr (.inr (.inl ⟨rfl,W,hW,rfl⟩))⟩
 ·exact⟨_,.inr (.inr (.inr ⟨rfl,rfl⟩))⟩
theorem zUk{X:Vc}(hl:X.nl.length<=4096){n:Nat}(h1:1<=n)(h4:n<=4):∃s f,PW X (n:Int) s f:=by
 cases hb:zFU X (n:Int) with
 | true=>exact⟨_,_,.inl ⟨hb,rfl,rfl⟩⟩
 | false=>
  obtain⟨b,h⟩:=zQL h1 h4 (zAA (zAD X))
  exact⟨_,_,.inr (.inr ⟨hb,hl,rfl,b,h,rfl⟩)⟩
theorem zU6{X:Vc}(hg:zAg X=true)(hl:X.nl.length<=4096):∀j,j<=3->∃b,PB X j b
 | 0,_=>by
  obtain⟨b,h⟩:=zQL (n:=1) (by omega) (by omega) (zAA (zAD X))
  exact⟨_,.inr (.inr ⟨by unfold zFU;rw[hg];rfl,hl,rfl,b,h,rfl⟩)⟩
 | j+1,hj=>by
  obtain⟨c,hc⟩:=zU6 hg hl j (by omega)
  obtain⟨s,f,h⟩:=zUk hl (n:=j+2) (by omega) (by omega)
  exact ⟨_, c, s, f, hc, by have e : ((j + 2 : Nat) : Int) = (j : Int) + 2 := by omega
                            rw [← e]; exact h, rfl⟩
theorem zUp{n:Nat}{X:Vc}(h:Fit n X):∃s,KP X s:=by
 obtain⟨b,hb⟩:=zU6 h.good (by have:=h.len;have:=h.le;omega) 3 (by omega)
 exact⟨b,.inl ⟨rfl,hb⟩⟩
theorem zU4{n:Nat}:∀Cs:List (Vc×Sl),(∀c∈Cs,Fit n c.1)->∃ps:List (ByteArray×ByteArray),Ps KP zP Cs ps
 | [],_=>⟨[],Ps.nil _ _⟩
 | c::Cs,h=>by
  obtain⟨ps,hp⟩:=zU4 Cs (fun d hd=>h d (List.mem_cons_of_mem _ hd))
  have hc:=h c (List.mem_cons_self ..)
  obtain⟨s,hs⟩:=zUp hc
  refine⟨(zP c.1,s)::ps,⟨by simp[hp.len],fun i d p h1 h2=>?_,fun p hp'=>?_,fun p hp'=>?_⟩⟩
  ·cases i with
   | zero=>
    simp only[List.getElem?_cons_zero,Option.some.injEq] at h1 h2
    subst h1;subst h2
    exact⟨rfl,hs⟩
   | succ i=>
    rw[List.getElem?_cons_succ] at h1 h2
    exact hp.at_ i d p h1 h2
  ·rcases List.mem_cons.1 hp' with rfl|h3
   ·exact hc.zone
   ·exact hp.z p h3
  ·rcases List.mem_cons.1 hp' with rfl|h3
   ·exact hc.law.sz _ hs
   ·exact hp.s p h3
structure zBZ(n:Nat)(Cs:List (Vc×Sl)):Prop where
 fit:∀c∈Cs,Fit n c.1
 frm:∀c∈Cs,zBU c.1.k (zAD c.1)=(c.1,0)
 rng:∀c∈Cs,∀x∈zAD c.1,zA8 x=x/\-9223372036854775808<=x.n/\x.n<=9223372036854775807
theorem zBZ.nil(n:Nat):zBZ n []:=⟨by simp,by simp,by simp⟩
theorem zBZ.snoc{n:Nat}{Cs:List (Vc×Sl)}{X:Vc}{p:Sl}{t:List UInt8}(h:zBZ n Cs)(hu:UnR t X 0)(hl:X.nl.length=n):zBZ n (Cs++[(X,p)]):=by
 have hf:=zO6 hu hl
 rcases hu with ⟨_,⟨sch,hc⟩,Gn,_⟩|⟨h,_⟩
 ·refine⟨fun c ZB=>?_,fun c ZB=>?_,fun c ZB=>?_⟩
  ·rcases List.mem_append.1 ZB with h1|h1
   ·exact h.fit c h1
   ·simp only[List.mem_singleton] at h1;subst h1;exact hf
  ·rcases List.mem_append.1 ZB with h1|h1
   ·exact h.frm c h1
   ·simp only[List.mem_singleton] at h1;subst h1;exact Gn
  ·rcases List.mem_append.1 ZB with h1|h1
   ·exact h.rng c h1
   ·simp only[List.mem_singleton] at h1;subst h1;exact(zDo hc).2
 ·cases h
theorem zBZ.len0{n:Nat}{Cs:List (Vc×Sl)}(h:zBZ n Cs)(Hg:1<=Cs.length):len0 Cs=n:=by
 cases Cs with
 | nil=>simp at Hg
 | cons c Cs=>exact(h.fit c (List.mem_cons_self ..)).len
theorem zBZ.tab{n:Nat}{Cs:List (Vc×Sl)}(h:zBZ n Cs):zLU Cs=(zAn Cs,0):=by
 unfold zLU
 rw[if_neg]
 intro hh
 obtain⟨c,hc,hb⟩:=List.any_eq_true.1 hh
 have hl:=h.len0 (by cases Cs with
  | nil=>simp at hc
  | cons _ _=>simp)
 have hf:=h.fit c hc
 unfold zLD at hb
 rw[hl,hf.good,hf.len] at hb
 simp at hb
theorem zBZ.rows{n:Nat}{Cs:List (Vc×Sl)}(h:zBZ n Cs)(Hg:1<=Cs.length):(zAn Cs).length=n:=by
 rw[zAn,List.length_map,List.length_range,h.len0 Hg]
theorem zBZ.col{n:Nat}{Cs:List (Vc×Sl)}(h:zBZ n Cs){i:Nat}{c:Vc×Sl}(hc:Cs[i]?=some c):zGR (zAn Cs) i=zAD c.1:=by
 have hm:=List.mem_of_getElem? hc
 have hl:=h.len0 (by cases Cs with
  | nil=>simp at hc
  | cons _ _=>simp)
 have hf:=h.fit c hm
 unfold zGR zAn zAD
 rw[hl,hf.good,hf.len,List.map_map]
 simp only[if_true]
 refine List.map_congr_left fun j _=>?_
 simp only[Function.comp_def]
 rw[List.getD_eq_getElem?_getD,zIK hc]
 rfl
def zBk(Cs:List (Vc×Sl)):List Int:=Cs.map fun c=>c.1.k
theorem zB3(Cs:List (Vc×Sl)):(zBk Cs).length=Cs.length:=List.length_map ..
theorem zBZ.colX{n:Nat}{Cs:List (Vc×Sl)}(h:zBZ n Cs){i:Nat}{c:Vc×Sl}(hc:Cs[i]?=some c):colX (zBk Cs) (zAn Cs) i=(c.1,0):=by
 unfold Go.Proofs.YtekgpapophibcaaGreat.colX
 rw[h.col hc]
 have:(zBk Cs).getD i 0=c.1.k:=by simp[zBk,List.getD_eq_getElem?_getD,hc]
 rw[this]
 exact h.frm c (List.mem_of_getElem? hc)
theorem zBZ.ok{n:Nat}{Cs:List (Vc×Sl)}(h:zBZ n Cs):zRT (zBk Cs)=(decide (1<=Cs.length) && decide (Cs.length<=32)):=by
 unfold zRT
 have:(zBk Cs).any zKy=false:=by
  rw[List.any_eq_false]
  intro k hk
  obtain⟨c,hc,rfl⟩:=List.mem_map.1 hk
  have hf:=(h.fit c hc).good
  unfold zKy
  rcases zFm hf with ⟨e,_⟩|⟨_,e,_⟩<;>· have:=beq_iff_eq.1 e;rw[this];decide
 rw[this,zB3]
 simp
theorem zFh{n:Nat}{Cs:List (Vc×Sl)}(h:zBZ n Cs){r:List Val}(hr:r∈zAn Cs):r.length=Cs.length/\∀x∈r,∃c∈Cs,x∈zAD c.1:=by
 obtain⟨j,hj,rfl⟩:=List.mem_map.1 hr
 have hj:=List.mem_range.1 hj
 refine⟨zEC _ _,fun x hx=>?_⟩
 obtain⟨c,hc,rfl⟩:=List.mem_map.1 hx
 refine⟨c,hc,?_⟩
 have hl:=h.len0 (by cases Cs with
  | nil=>simp at hc
  | cons _ _=>simp)
 have hf:=h.fit c hc
 exact List.mem_of_getElem? (zFY hf.good (by rw[hf.len];omega))
theorem zBZ.even{n:Nat}{Cs:List (Vc×Sl)}(h:zBZ n Cs)(h1:1<=Cs.length)(h2:Cs.length<=32):zSO (zBk Cs) (zAn Cs):=by
 refine⟨by rw[h.ok];simp[h1,h2],?_,fun r hr=>?_,fun r hr x hx=>?_⟩
 ·rw[h.rows h1]
  cases Cs with
  | nil=>simp at h1
  | cons c Cs=>exact(h.fit c (List.mem_cons_self ..)).le
 ·rw[(zFh h hr).1,zB3]
 ·obtain⟨c,hc,hx⟩:=(zFh h hr).2 x hx
  have:=zCD (h.fit c hc).good hx
  rw[<-zIY]
  unfold lgV
  rw[zD0 (h.fit c hc).good hx]
  simp;omega
theorem zSO.lo{zAB:List Int}{rs:List (List Val)}(h:zSO zAB rs):loM rs=false:=by
 rw[zTQ]
 have:=h.le
 rw[Bool.or_eq_false_iff]
 refine⟨by simp;omega,List.any_eq_false.2 fun r hr=>?_⟩
 rw[Bool.not_eq_true]
 exact List.any_eq_false.2 fun x hx=>by rw[h.lg r hr x hx];simp
theorem zBZ.od{n:Nat}{Cs:List (Vc×Sl)}(h:zBZ n Cs)(h1:1<=Cs.length)(h2:Cs.length<=32):odM (zBk Cs) (zAn Cs)=false:=by
 cases ho:odM (zBk Cs) (zAn Cs) with
 | false=>rfl
 | true=>
  obtain⟨i,hi,Hg⟩:=(h.even h1 h2).odd.1 ho
  rw[zB3] at hi
  rw[h.colX (zAf hi)] at Hg
  exact absurd rfl Hg
theorem zKk{n:Nat}{Cs:List (Vc×Sl)}(h:zBZ n Cs)(h1:1<=Cs.length)(h2:Cs.length<=32){ps:List (ByteArray×ByteArray)}(qY:Ps KP zP Cs ps)(ak:Option Addr)(ck:Nat)(ar:Option Addr)(cr:Nat)(w:World)
  (GC:zAp w ak ((zBk Cs).map (Value.int .i64))) (TX:zCY w ar (zAn Cs)) :
  Calls Tryz.prog 6 #[.slice ak Cs.length ck,.slice ar n cr] w fun e w'=>e=.returned (.tuple #[.string (zJJ Cs.length n ps),.int .i64 0])/\Below w.heap.size w w':=by
 have hE:=h.even h1 h2
 have hx:∀(i:Nat) (c:Vc×Sl),Cs[i]?=some c->c.1=(Go.Proofs.YtekgpapophibcaaGreat.colX (zBk Cs) (zAn Cs) i).1:=fun i c hc=>by rw[h.colX hc]
 have hP:=qY.toX hx
 have YT:=hE.le
 have:=zRB KP zP ps (zBk Cs) ak ck (zAn Cs) ar cr w (by rw[zB3];exact h1) (by rw[zB3];exact h2) hE.ok (by omega) (fun r hr=>by rw[(zFh h hr).1];omega) GC TX (fun _ _=>by
  rw[zB3]
  refine⟨hP,fun i hi=>?_⟩
  rw[h.colX (zAf hi)]
  exact(h.fit _ (List.getElem_mem hi)).rlaw)
 rw[hE.lo,h.od h1 h2,zB3,h.rows h1] at this
 exact this
theorem Seg.front{l:List UInt8}{Xs:List Vc}{ps:List (ByteArray×ByteArray)}(h:Seg l Xs ps):l.take 2=[83,49]/\7<=l.length:=by
 obtain⟨C,hC,e⟩:=h.parsed.w
 refine⟨h.parsed.s1,?_⟩
 rw[e]
 simp only[zAX,zEl,zD9,List.length_cons,List.length_nil]
 omega
theorem Seg.rest{l:List UInt8}{Xs:List Vc}{ps:List (ByteArray×ByteArray)}(h:Seg l Xs ps):∃C:List UInt8,((l.drop 2).drop 1).drop 4=en (hdL ps)++(en (bdL ps)++C)/\zPg l=en (bdL ps)++C:=by
 obtain⟨C,hC,e⟩:=h.parsed.w
 have n2:=h.lay.n2
 have n3:=h.lay.len
 have n4:=h.lay.rows
 obtain⟨u1,u2⟩:=zF0 Xs.length 1 (en (beL (zCn l:Int) 4 4)++(en (hdL ps)++(en (bdL ps)++C))) (by omega)
 have h256:(256:Nat) ^ 4=4294967296:=by decide
 obtain⟨v1,v2⟩:=zF0 (zCn l) 4 (en (hdL ps)++(en (bdL ps)++C)) (by omega)
 have d2:((l.drop 2).drop 1).drop 4=en (hdL ps)++(en (bdL ps)++C):=by
  have d3:l.drop 2=en (beL (Xs.length:Int) 1 1)++(en (beL (zCn l:Int) 4 4)++(en (hdL ps)++(en (bdL ps)++C))):=by
   have e4:l.drop 2=([83,49]++(en (beL (Xs.length:Int) 1 1)++(en (beL (zCn l:Int) 4 4)++(en (hdL ps)++(en (bdL ps)++C))))).drop 2:=congrArg (List.drop 2) e
   exact e4
  rw[d3,u2,v2]
 refine⟨C,d2,?_⟩
 have hz:=zLK (en (bdL ps)++C) ps Xs.length (fun p hp=>(h.bounds p hp).1) (fun p hp=>(h.bounds p hp).2) (by rw[h.len];exact Nat.le_refl _)
 unfold zPg
 rw[d2,show beV ((l.drop 2).take 1)=Xs.length from h.parsed.nn,hz,<-h.len,List.drop_length]
 rfl
theorem Seg.zone{l:List UInt8}{Xs:List Vc}{ps:List (ByteArray×ByteArray)}(h:Seg l Xs ps){k:Nat}(hk:k<zCm l):(rzC (zst k (((l.drop 2).drop 1).drop 4)).2).2.2=false:=by
 obtain⟨C,e,_⟩:=h.rest
 have JU:k<ps.length:=by rw[h.len,h.lay.len];exact hk
 rw[e,zLK (en (bdL ps)++C) ps k (fun p hp=>(h.bounds p hp).1) (fun p hp=>(h.bounds p hp).2) (by omega)]
 have hb:=h.bounds _ (List.getElem_mem JU)
 have e2:en (hdL (ps.drop k))=en (hd1 ps[k])++en (hdL (ps.drop (k+1))):=by
  rw[List.drop_eq_getElem_cons JU,hdL,List.flatMap_cons,zAZ];rfl
 simp only
 rw[e2,List.append_assoc]
 exact zUh _ _ hb.1 hb.2
theorem Seg.body{l:List UInt8}{Xs:List Vc}{ps:List (ByteArray×ByteArray)}(h:Seg l Xs ps){k:Nat}(hk:k<zCm l):(zPh l).getD k 0<=(zM0 (zPh l) k (zPg l)).length:=by
 obtain⟨C,_,e⟩:=h.rest
 have JU:k<ps.length:=by rw[h.len,h.lay.len];exact hk
 rw[e,h.parsed.s,zQ8 C ps k (by omega)]
 have e2:bdL (ps.drop k)=txt ps[k].2++bdL (ps.drop (k+1)):=by
  rw[List.drop_eq_getElem_cons JU,bdL,List.flatMap_cons];rfl
 rw[e2,zAZ,zAX,zAX,zEl,zDj]
 simp[JU]
 omega
end Go.Proofs.YtekgpapophibcaaGreat
