import Derived.Test.YtekgpapophibcaaGreatSrR
set_option linter.unusedSimpArgs false
set_option linter.unusedVariables false
namespace Go.Proofs.YtekgpapophibcaaGreat
open Go.RowKit Go.Sort
theorem zO9(l:List UInt8)(n:Nat):zAE l true n=([],l,true):=by simp[zAE]
theorem zCv{l:List UInt8}{n:Nat}(h:n<=l.length):zAE l false n=(l.take n,l.drop n,false):=by
 unfold zAE
 rw[if_neg (by simp;omega)]
theorem zGc{l:List UInt8}{n:Nat}(x:Bool)(h:l.length<n):zAE l x n=([],l,true):=by
 unfold zAE
 rw[if_pos (.inr h)]
theorem zCa{l:List UInt8}{x:Bool}{n:Nat}(h:(zAE l x n).2.2=false):x=false/\n<=l.length/\zAE l x n=(l.take n,l.drop n,false):=by
 cases x with
 | true=>rw[zO9] at h;cases h
 | false=>
  by_cases hn:n<=l.length
  ·exact⟨rfl,hn,zCv hn⟩
  ·rw[zGc false (by omega)] at h;cases h
theorem zCN(l:List UInt8)(x:Bool)(n:Nat):(zAE l x n).2.1.length<=l.length/\(zAE l x n).1.length<=n:=by
 unfold zAE
 split
 ·exact⟨Nat.le_refl _,by simp⟩
 ·exact⟨by simp,by simp;omega⟩
def rzA(r:List UInt8):List UInt8×List UInt8×Bool:=zAE r false 2
def rzB(r:List UInt8):List UInt8×List UInt8×Bool:=zAE (rzA r).2.1 (rzA r).2.2 (beV (rzA r).1)
def rzC(r:List UInt8):List UInt8×List UInt8×Bool:=zAE (rzB r).2.1 (rzB r).2.2 4
theorem zUg{r:List UInt8}(h:(rzC r).2.2=false):beV (rzC r).1=(z1 r).2/\(rzC r).2.1=zr r:=by
 obtain⟨h1,h2,h3⟩:=zCa h
 obtain⟨g1,g2,g3⟩:=zCa (show (zAE (rzA r).2.1 (rzA r).2.2 (beV (rzA r).1)).2.2=false from h1)
 obtain⟨f1,f2,f3⟩:=zCa (show (zAE r false 2).2.2=false from g1)
 have eA:rzA r=(r.take 2,r.drop 2,false):=f3
 have eB:rzB r=((r.drop 2).take (beV (r.take 2)),(r.drop 2).drop (beV (r.take 2)),false):=by
  have:rzB r=zAE (rzA r).2.1 (rzA r).2.2 (beV (rzA r).1):=rfl
  rw[this,g3,eA]
 have eC:rzC r=(((r.drop 2).drop (beV (r.take 2))).take 4,((r.drop 2).drop (beV (r.take 2))).drop 4,false):=by
  have:rzC r=zAE (rzB r).2.1 (rzB r).2.2 4:=rfl
  rw[this,h3,eB]
 rw[eC]
 exact⟨rfl,rfl⟩
theorem zUh(p:ByteArray×ByteArray)(T:List UInt8)(h1:p.1.size<=10000)(h2:p.2.size<=100000000):(rzC (en (hd1 p)++T)).2.2=false:=by
 have e2:en (hd1 p)++T=en (beL ((p.1.size:Nat):Int) 2 2)++(en (txt p.1)++(en (beL ((p.2.size:Nat):Int) 4 4)++T)):=by simp only[hd1,zAZ,List.append_assoc]
 rw[e2]
 have b2:(en (beL ((p.1.size:Nat):Int) 2 2)).length=2:=by rw[zEl,zD9]
 have b4:(en (beL ((p.2.size:Nat):Int) 4 4)).length=4:=by rw[zEl,zD9]
 have bt:(en (txt p.1)).length=p.1.size:=by rw[zEl,zDj]
 obtain⟨u1,u2⟩:=zF0 p.1.size 2 (en (txt p.1)++(en (beL ((p.2.size:Nat):Int) 4 4)++T)) (by have:(256:Nat) ^ 2=65536:=(by decide);omega)
 obtain⟨v1,v2⟩:=zID p.1 (en (beL ((p.2.size:Nat):Int) 4 4)++T)
 have eA:rzA (en (beL ((p.1.size:Nat):Int) 2 2)++(en (txt p.1)++(en (beL ((p.2.size:Nat):Int) 4 4)++T)))=((en (beL ((p.1.size:Nat):Int) 2 2)++(en (txt p.1)++(en (beL ((p.2.size:Nat):Int) 4 4)++T))).take 2,(en (beL ((p.1.size:Nat):Int) 2 2)++(en (txt p.1)++(en (beL ((p.2.size:Nat):Int) 4 4)++T))).drop 2,false):=zCv (by simp only[zAX,b2];omega)
 have eB:(rzB (en (beL ((p.1.size:Nat):Int) 2 2)++(en (txt p.1)++(en (beL ((p.2.size:Nat):Int) 4 4)++T)))).2=(en (beL ((p.2.size:Nat):Int) 4 4)++T,false):=by
  unfold rzB
  rw[eA]
  simp only
  rw[u1,u2,zCv (by simp only[zAX,bt];omega)]
  simp only
  rw[v2]
 unfold rzC
 rw[eB]
 simp only
 rw[zCv (by simp only[zAX,b4];omega)]
structure RD(w wr:World)(v:Value)(N:List Int)(r:List UInt8)(x:Bool):Prop where
 rd:Br wr w.heap.size r x
 n:wr.ownsRow w.heap.size 3 1 v N.length (N.map (Value.int .i64))
 bel:Below w.heap.size w wr
theorem RD.gr{w wr wx:World}{v:Value}{N:List Int}{r r':List UInt8}{x x':Bool}(h:RD w wr v N r x)(hr:Br wx w.heap.size r' x')(hg:Gr wr wx w.heap.size):RD w wx v N r' x':=
 ⟨hr,zDs h.n h.rd (by decide) hg,h.bel.trans (zAd hg h.bel.size (fun g e=>by cases e;omega))⟩
theorem RD.push{w wr wx:World}{v v':Value}{N:List Int}{r:List UInt8}{x:Bool}{y:Int}{o:Obj}(h:RD w wr v N r x)(ho:wx.ownsRow w.heap.size 3 1 v' (N.length+1) (N.map (Value.int .i64)++[.int .i64 y]))(hg:(wr.alloc o).grownBy wx v.ownBlock):RD w wx v' (N++[y]) r x:=by
 refine⟨zAF (World.rowIs.alloc h.rd o) hg (zBL h.rd h.n (by decide)),by simpa using ho,(zA1 h.bel o).trans (zAd hg (zA1 h.bel o).size (fun g e=>(World.ownsRow.lt h.n g e).1))⟩
end Go.Proofs.YtekgpapophibcaaGreat
