import Derived.Test.YtekgpapophibcaaGreatSrH
import Derived.ProofKit
import Derived.OpenShut
import Derived.Lib.SmallJoins
import Derived.ChangeOld
import Derived.Deep.Slices
import Derived.Deep.Strs
import Derived.JoinedCond
import Derived.SizedLaws
import Derived.Test.YtekgpapophibcaaGreatRyZ
import Derived.Test.YtekgpapophibcaaGreatSrK
set_option linter.unusedSimpArgs false
set_option linter.unusedVariables false
namespace Go.Proofs.YtekgpapophibcaaGreat
open Go.RowKit Go.Sort
theorem zF0(U n:Nat)(r:List UInt8)(h:U<256 ^ n):beV ((en (beL (U:Int) n n)++r).take n)=U/\(en (beL (U:Int) n n)++r).drop n=r:=by
 have:=zC6 U n r h
 unfold zBB at this
 rw[if_pos (by rw[zAX,zEl,zD9];omega)] at this
 simp only[Option.some.injEq,Prod.mk.injEq] at this
 exact this
theorem zID(s:ByteArray)(r:List UInt8):bs ((en (txt s)++r).take s.size)=s/\(en (txt s)++r).drop s.size=r:=by
 have hl:(en (txt s)).length=s.size:=by rw[zEl,zDj]
 refine⟨?_,by rw[<-hl,List.drop_left]⟩
 rw[<-hl,List.take_left,zQ0,zTl]
theorem zLK(T:List UInt8):∀(ps:List (ByteArray×ByteArray)) (k:Nat),(∀p∈ps,p.1.size<=10000)->(∀p∈ps,p.2.size<=100000000)->k<=ps.length->zst k (en (hdL ps)++T)=((ps.take k).map (fun p=>(p.1,p.2.size)),en (hdL (ps.drop k))++T)
 | ps,0,_,_,_=>by simp[zst]
 | ps,k+1,h1,h2,hk=>by
  have ih:=zLK T ps k h1 h2 (by omega)
  have He:k<ps.length:=by omega
  have e:ps.drop k=ps[k]::ps.drop (k+1):=List.drop_eq_getElem_cons He
  have hm:=List.getElem_mem He
  have b1:=h1 _ hm
  have b2:=h2 _ hm
  obtain⟨p,hp⟩:∃p,ps[k]=p:=⟨_,rfl⟩
  rw[hp] at e b1 b2
  have e2:en (hdL (ps.drop k))++T=en (beL ((p.1.size:Nat):Int) 2 2)++(en (txt p.1)++(en (beL ((p.2.size:Nat):Int) 4 4)++(en (hdL (ps.drop (k+1)))++T))):=by
   rw[e]
   simp only[hdL,List.flatMap_cons,hd1,zAZ,List.append_assoc]
  obtain⟨u1,u2⟩:=zF0 p.1.size 2 (en (txt p.1)++(en (beL ((p.2.size:Nat):Int) 4 4)++(en (hdL (ps.drop (k+1)))++T))) (by have:(256:Nat) ^ 2=65536:=(by decide);omega)
  obtain⟨v1,v2⟩:=zID p.1 (en (beL ((p.2.size:Nat):Int) 4 4)++(en (hdL (ps.drop (k+1)))++T))
  obtain⟨x1,x2⟩:=zF0 p.2.size 4 (en (hdL (ps.drop (k+1)))++T) (by have:(256:Nat) ^ 4=4294967296:=(by decide);omega)
  rw[zst,ih]
  simp only
  rw[e2]
  unfold z1 zr
  rw[u1,u2,v1,v2,x1,x2,List.take_succ_eq_append_getElem He,hp]
  simp
theorem zQ8(T:List UInt8)(ps:List (ByteArray×ByteArray)):∀k,k<=ps.length->zM0 (ps.map fun p=>p.2.size) k (en (bdL ps)++T)=en (bdL (ps.drop k))++T
 | 0,_=>by simp[zM0]
 | k+1,hk=>by
  have He:k<ps.length:=by omega
  have e:ps.drop k=ps[k]::ps.drop (k+1):=List.drop_eq_getElem_cons He
  rw[zM0,zQ8 T ps k (by omega),e]
  have eg:(ps.map fun p=>p.2.size).getD k 0=ps[k].2.size:=by simp[List.getD,zAf He]
  rw[eg]
  simp only[bdL,List.flatMap_cons,zAZ,List.append_assoc]
  exact(zID ps[k].2 _).2
theorem zTv(zs:List Int):toB zs=bs (en zs):=by
 apply ByteArray.ext
 apply Array.toList_inj.1
 rw[zIE]
 rfl
theorem zOU(n rows:Nat)(ps:List (ByteArray×ByteArray)):∃C:List UInt8,C.length=4/\zJJ n rows ps=bs ([83,49]++(en (beL (n:Int) 1 1)++(en (beL (rows:Int) 4 4)++(en (hdL ps)++(en (bdL ps)++C))))):=by
 refine⟨en (beL (zIF (toB ((zBc n rows++hdL ps)++bdL ps)):Nat) 4 4),by rw[zEl,zD9],?_⟩
 unfold zJJ zFe
 rw[<-zAJ,zTv]
 simp only[zBc,zAZ,List.append_assoc]
 rfl
structure zSi(l:List UInt8)(n rows:Nat)(ps:List (ByteArray×ByteArray)):Prop where
 s1:l.take 2=[83,49]
 nn:zCm l=n
 r:zCn l=rows
 z:zPf l=ps.map Prod.fst
 s:zPh l=ps.map fun p=>p.2.size
 t:∃C:List UInt8,C.length=4/\zPg l=en (bdL ps)++C
 w:∃C:List UInt8,C.length=4/\l=[83,49]++(en (beL (n:Int) 1 1)++(en (beL (rows:Int) 4 4)++(en (hdL ps)++(en (bdL ps)++C))))
theorem parsed{l:List UInt8}{n rows:Nat}{ps:List (ByteArray×ByteArray)}(hn:n<256)(hr:rows<4294967296)(hl:ps.length=n)(h1:∀p∈ps,p.1.size<=10000)(h2:∀p∈ps,p.2.size<=100000000)(h:zJJ n rows ps=bs l):zSi l n rows ps:=by
 obtain⟨C,hC,e⟩:=zOU n rows ps
 have el:l=[83,49]++(en (beL (n:Int) 1 1)++(en (beL (rows:Int) 4 4)++(en (hdL ps)++(en (bdL ps)++C)))):=by
  have:=h.symm.trans e
  have h3:(bs l).data.toList=(bs ([83,49]++(en (beL (n:Int) 1 1)++(en (beL (rows:Int) 4 4)++(en (hdL ps)++(en (bdL ps)++C)))))).data.toList:=by rw[this]
  exact h3
 obtain⟨u1,u2⟩:=zF0 n 1 (en (beL (rows:Int) 4 4)++(en (hdL ps)++(en (bdL ps)++C))) (by omega)
 obtain⟨v1,v2⟩:=zF0 rows 4 (en (hdL ps)++(en (bdL ps)++C)) (by have:(256:Nat) ^ 4=4294967296:=(by decide);omega)
 have d2:l.drop 2=en (beL (n:Int) 1 1)++(en (beL (rows:Int) 4 4)++(en (hdL ps)++(en (bdL ps)++C))):=by rw[el];rfl
 have hz:=zLK (en (bdL ps)++C) ps n h1 h2 (by omega)
 rw[<-hl,List.take_length,List.drop_length] at hz
 have eN:zCm l=n:=by unfold zCm;rw[d2,u1]
 have key:zst (beV ((l.drop 2).take 1)) (((l.drop 2).drop 1).drop 4)=(ps.map (fun p=>(p.1,p.2.size)),en (bdL ps)++C):=by
  rw[d2,u1,u2,v2,<-hl,hz]
  simp[hdL,en]
 refine⟨by rw[el];rfl,eN,by unfold zCn;rw[d2,u2,v1],?_,?_,⟨C,hC,?_⟩,⟨C,hC,el⟩⟩
 ·unfold zPf;rw[key];simp[Function.comp_def]
 ·unfold zPh;rw[key];simp[Function.comp_def]
 ·unfold zPg;rw[key]
theorem Seg.bounds{l:List UInt8}{Xs:List Vc}{ps:List (ByteArray×ByteArray)}(h:Seg l Xs ps):∀p∈ps,p.1.size<=10000/\p.2.size<=100000000:=fun p hp=>by
 obtain⟨i,hi,e⟩:=List.mem_iff_getElem.1 hp
 have hx:i<Xs.length:=by rw[<-h.len];exact hi
 obtain⟨a1,a2⟩:=h.at_ i _ p (zAf hx) (by rw[zAf hi,e])
 have hf:=h.lay.fit (List.getElem_mem hx)
 exact⟨by rw[a1];exact hf.zone,hf.law.sz _ a2⟩
theorem Seg.parsed{l:List UInt8}{Xs:List Vc}{ps:List (ByteArray×ByteArray)}(h:Seg l Xs ps):zSi l Xs.length (zCn l) ps:=by
 have n2:=h.lay.n2
 have:=h.lay.len
 have:=h.lay.rows
 exact Go.Proofs.YtekgpapophibcaaGreat.parsed (by omega) (by omega) h.len (fun p hp=>(h.bounds p hp).1) (fun p hp=>(h.bounds p hp).2) h.eq
theorem Seg.zones{l:List UInt8}{Xs:List Vc}{ps:List (ByteArray×ByteArray)}(h:Seg l Xs ps):zPf l=Xs.map zP:=by
 rw[h.parsed.z]
 refine List.ext_getElem (by simp[h.len]) fun i h1 h2=>?_
 simp only[List.getElem_map]
 have hi:i<ps.length:=by simpa using h1
 have hx:i<Xs.length:=by simpa using h2
 exact(h.at_ i _ _ (zAf hx) (zAf hi)).1
def zHI(X:Vc):Val:=(zBR (zAD X) (zAD X).length).1
def zDK(X:Vc):Val:=(zBR (zAD X) (zAD X).length).2.1
def zGD(X:Vc):Nat:=(zBR (zAD X) (zAD X).length).2.2
theorem zT0{xs:List Val}{P:Val->Prop}(h0:P .null)(h:∀x∈xs,P x):P (zBR xs xs.length).1/\P (zBR xs xs.length).2.1:=by
 have key:∀(f:Val->Val->Val),(∀m x,f m x=m∨f m x=x)->P ((zAA (xs.take xs.length)).foldl f .null):=fun f hf=>by
  rcases zIf hf (zAA (xs.take xs.length)) .null with e|e
  ·rw[e];exact h0
  ·rw[List.take_length] at e ⊢
   exact h _ (List.mem_filter.1 e).1
 refine⟨key zJ0 fun m x=>?_,key zDE fun m x=>?_⟩
 ·unfold zJ0;split<;>simp
 ·unfold zDE;split<;>simp
theorem zKY(xs:List Val):(zBR xs xs.length).2.2<=xs.length:=by
 unfold zBR
 simp only[List.take_length]
 exact List.length_filter_le _ _
theorem zSt{l:List UInt8}{X:Vc}(h:UnR l X 0):zCW (zP X)=some [zHI X,zDK X,.num (zGD X:Nat)]/\zGD X<=4096:=by
 rcases h with ⟨_,⟨sch,hc⟩,hf,h1,h2,h3⟩|⟨h,_⟩
 ·obtain⟨g1,g2,g3,g4,g5,g6,g7,g8⟩:=zH5 hf
  have hv:=zAb g1
  have hr:=(zDo hc).2
  have hP:=zT0 (P:=fun x=>zA8 x=x/\-9223372036854775808<=x.n/\x.n<=9223372036854775807) ⟨rfl,by decide,by decide⟩ hr
  have hn:=zKY (zAD X)
  have TJ:zGD X<=4096:=by unfold zGD;omega
  refine⟨?_,TJ⟩
  show zCW (toB (zGE [zHI X,zDK X,Val.num (zGD X:Int)]))=_
  rw[zHu _ (fun x hx=>?_)]
  ·simp only[List.map_cons,List.map_nil,Option.some.injEq,List.cons.injEq,and_true]
   exact⟨hP.1.1,hP.2.1,rfl⟩
  ·simp only[List.mem_cons,List.not_mem_nil,or_false] at hx
   rcases hx with rfl|rfl|rfl
   ·exact⟨hP.1.2.1,hP.1.2.2⟩
   ·exact⟨hP.2.2.1,hP.2.2.2⟩
   ·exact⟨by show -9223372036854775808<=(zGD X:Int);omega,by show (zGD X:Int)<=9223372036854775807;omega⟩
 ·cases h
def hd4(r:Int)(a b c:Value):Nat->Value
 | 0=>.int .i64 r
 | 1=>a
 | 2=>b
 | _=>c
def apart(u v:Value):Prop:=u.ownBlock=none∨u.ownBlock≠v.ownBlock
structure HS(w wr:World)(H:Nat)(rows:Int)(lv hv nv sv:Value)(L G:List Val)(N:List Int)(Z:List Val):Prop where
 h:wr.rowIs H 39 4 (hd4 rows lv hv nv)
 l:zAV wr w.heap.size lv L
 g:zAV wr w.heap.size hv G
 n:wr.ownsRow w.heap.size 3 1 nv N.length (N.map (Value.int .i64))
 s:zAV wr w.heap.size sv Z
 lh:apart lv hv
 hl:apart hv lv
 sl:apart sv lv
 sh:apart sv hv
 bel:Below w.heap.size w wr
 hH:w.heap.size<=H
section
variable {w wr wx:World}{H:Nat}{rows:Int}{lv hv nv sv v':Value}{L G Z:List Val}{N:List Int}
theorem HS.later(h:HS w wr H rows lv hv nv sv L G N Z)(hb:Below wr.heap.size wr wx):HS w wx H rows lv hv nv sv L G N Z:=
 ⟨zA5 h.h hb,h.l.later hb,h.g.later hb,zAc h.n hb,h.s.later hb,h.lh,h.hl,h.sl,h.sh,zA2 h.bel hb,h.hH⟩
theorem HS.says{Z':List Val}(h:HS w wr H rows lv hv nv sv L G N Z)(hb:Below wr.heap.size wr wx)(ho:zAV wx wr.heap.size v' Z'):HS w wx H rows lv hv nv v' L G N Z':=by
 have key:∀{u:Value} {U:List Val},zAV wr w.heap.size u U->apart v' u:=fun {u U} hu=>by
  cases hv:v'.ownBlock with
  | none=>exact .inl hv
  | some g=>
   refine .inr fun e=>?_
   have h1:=(World.ownsRow.lt ho g hv).1
   have h2:=(World.ownsRow.lt hu g (by rw[<-e];exact hv)).2
   omega
 exact⟨zA5 h.h hb,h.l.later hb,h.g.later hb,zAc h.n hb,⟨ho.1,by
  rcases ho.2 with e|⟨g,cap,cur,e,h1,h2⟩
  ·exact .inl e
  ·exact .inr ⟨g,cap,cur,e,Nat.le_trans h.bel.size h1,h2⟩⟩,h.lh,h.hl,key h.l,key h.g,zA2 h.bel hb,h.hH⟩
theorem zRk{o:Obj}{u:Value}{U:List Val}{b:Nat}(hu:zAV wr b u U)(hg:(wr.alloc o).grownBy wx v'.ownBlock)(ha:apart u v'):zAV wx b u U:=
 World.ownsRow.kept (World.ownsRow.alloc hu o) hg (by rcases ha with h|h;exact .inl h;exact .inr h)
theorem zFW{u x x':Value}{U:List Val}{b:Nat}{o:Obj}(hu:zAV wr b u U)(ha:apart u x)(Hm:x'.ownBlock=x.ownBlock∨x'.ownBlock=some (wr.alloc o).heap.size):apart u x':=by
 rcases ha with h|h
 ·exact .inl h
 ·cases hq:u.ownBlock with
  | none=>exact .inl hq
  | some g=>
   refine .inr fun e=>?_
   rcases Hm with h1|h1
   ·exact h (by rw[hq,<-h1,<-e,hq])
   ·rw[h1,hq] at e
    injection e with e
    have:=(World.ownsRow.lt hu g hq).2
    simp at e
    omega
theorem zER{u v:Value}(h:apart u v):apart v u:=by
 rcases h with h|h
 ·cases hv:v.ownBlock with
  | none=>exact .inl hv
  | some g=>exact .inr (by rw[hv,h];simp)
 ·cases hv:v.ownBlock with
  | none=>exact .inl hv
  | some g=>exact .inr fun e=>h (by rw[<-e])
theorem HS.low{x:Val}{o:Obj}(h:HS w wr H rows lv hv nv sv L G N Z)(ho:wx.ownsRow w.heap.size 59 3 v' (L.length+1) (L.flatMap c3++c3 x))(hg:(wr.alloc o).grownBy wx lv.ownBlock)(Hm:v'.ownBlock=lv.ownBlock∨v'.ownBlock=some (wr.alloc o).heap.size) :
  HS w (wx.setCell ⟨H,1,none⟩ v') H rows v' hv nv sv (L++[x]) G N Z:=by
 have k1:=zAF (h.h.alloc o) hg (zBL h.h h.l (by decide))
 have bx:Below w.heap.size w wx:=(zA1 h.bel o).trans (zAd hg (zA1 h.bel o).size (fun g e=>(World.ownsRow.lt h.l g e).1))
 have hl:=zFW h.g h.hl Hm
 refine⟨World.rowIs.congr (k1.set 1 v') (fun i hi=>by match i,hi with|0,_=>rfl|1,_=>rfl|2,_=>rfl|3,_=>rfl),zAw (zB9 ho) k1 (by decide),zAw (zRk h.g hg h.hl) k1 (by decide),zAw ((World.ownsRow.alloc h.n o).kept hg (by rcases zCL h.n h.l (by decide) with e|e;exact .inl e;exact .inr e)) k1 (by decide),zAw (zRk h.s hg h.sl) k1 (by decide),zER hl,hl,zFW h.s h.sl Hm,h.sh,bx.setCell (by have:=h.hH;simpa using this) _,h.hH⟩
theorem HS.high{x:Val}{o:Obj}(h:HS w wr H rows lv hv nv sv L G N Z)(ho:wx.ownsRow w.heap.size 59 3 v' (G.length+1) (G.flatMap c3++c3 x))(hg:(wr.alloc o).grownBy wx hv.ownBlock)(Hm:v'.ownBlock=hv.ownBlock∨v'.ownBlock=some (wr.alloc o).heap.size) :
  HS w (wx.setCell ⟨H,2,none⟩ v') H rows lv v' nv sv L (G++[x]) N Z:=by
 have k1:=zAF (h.h.alloc o) hg (zBL h.h h.g (by decide))
 have bx:Below w.heap.size w wx:=(zA1 h.bel o).trans (zAd hg (zA1 h.bel o).size (fun g e=>(World.ownsRow.lt h.g g e).1))
 have hl:=zFW h.l h.lh Hm
 refine⟨World.rowIs.congr (k1.set 2 v') (fun i hi=>by match i,hi with|0,_=>rfl|1,_=>rfl|2,_=>rfl|3,_=>rfl),zAw (zRk h.l hg h.lh) k1 (by decide),zAw (zB9 ho) k1 (by decide),zAw ((World.ownsRow.alloc h.n o).kept hg (by rcases zCL h.n h.g (by decide) with e|e;exact .inl e;exact .inr e)) k1 (by decide),zAw (zRk h.s hg h.sh) k1 (by decide),hl,zER hl,h.sl,zFW h.s h.sh Hm,bx.setCell (by have:=h.hH;simpa using this) _,h.hH⟩
theorem HS.nul{x:Int}{o:Obj}(h:HS w wr H rows lv hv nv sv L G N Z)(ho:wx.ownsRow w.heap.size 3 1 v' (N.length+1) (N.map (Value.int .i64)++[.int .i64 x]))(hg:(wr.alloc o).grownBy wx nv.ownBlock) :
  HS w (wx.setCell ⟨H,3,none⟩ v') H rows lv hv v' sv L G (N++[x]) Z:=by
 have k1:=zAF (h.h.alloc o) hg (zBL h.h h.n (by decide))
 have bx:Below w.heap.size w wx:=(zA1 h.bel o).trans (zAd hg (zA1 h.bel o).size (fun g e=>(World.ownsRow.lt h.n g e).1))
 have kk:∀{u:Value} {U:List Val},zAV wr w.heap.size u U->zAV wx w.heap.size u U:=fun hu=>World.ownsRow.kept (World.ownsRow.alloc hu o) hg (by rcases zCL hu h.n (by decide) with e|e;exact .inl e;exact .inr e)
 refine⟨World.rowIs.congr (k1.set 3 v') (fun i hi=>by match i,hi with|0,_=>rfl|1,_=>rfl|2,_=>rfl|3,_=>rfl),zAw (kk h.l) k1 (by decide),zAw (kk h.g) k1 (by decide),?_,zAw (kk h.s) k1 (by decide),h.lh,h.hl,h.sl,h.sh,bx.setCell (by have:=h.hH;simpa using this) _,h.hH⟩
 have:=zAw (j:=3) (u:=v') ho k1 (by decide)
 simpa using this
end
set_option maxRecDepth 100000
theorem zCF(w:World)(r:Int)(a b c:Value):(w.alloc (.cells #[.int .i64 r,a,b,c] 39)).rowIs w.heap.size 39 4 (hd4 r a b c):=World.rowIs_alloc w _ 39 _ (fun i hi=>by
  match i,hi with
  | 0,_=>rfl
  | 1,_=>rfl
  | 2,_=>rfl
  | 3,_=>rfl
  | n+4,h=>have:n+4<4:=h;omega)
theorem zBX{w:World}{g:Nat}{r:Int}{a b c:Value}(h:w.rowIs g 39 4 (hd4 r a b c)):(w.cell? ⟨g,0,none⟩=some (.int .i64 r)/\w.cell? ⟨g,1,none⟩=some a/\w.cell? ⟨g,2,none⟩=some b/\w.cell? ⟨g,3,none⟩=some c)/\w.frozen? ⟨g,0,none⟩=false/\w.frozen? ⟨g,1,none⟩=false/\w.frozen? ⟨g,2,none⟩=false/\w.frozen? ⟨g,3,none⟩=false:=
 ⟨⟨World.rowIs.cell h (i:=0) (by decide),World.rowIs.cell h (i:=1) (by decide),World.rowIs.cell h (i:=2) (by decide),World.rowIs.cell h (i:=3) (by decide)⟩,World.rowIs.frozen h 0,World.rowIs.frozen h 1,World.rowIs.frozen h 2,World.rowIs.frozen h 3⟩
theorem zTU{l:List UInt8}(hl:l.length<=140737488300000)(h:∀Xs ps,¬Seg l Xs ps)(w:World):Calls Tryz.prog 13 #[.string (bs l)] w fun e w'=>e=.returned (.tuple #[.agg #[.int .i64 0,.slice none 0 0,.slice none 0 0,.slice none 0 0],.int .i64 2])/\Below w.heap.size w w':=by
 have HO:=zA3 (fun W=>zHV hl h W)
 have HA:=zA3 (zCF w 0 zCq zCq zCq)
 clear h
 go_enter Tryz.func13,Tryz.ntmps13
 go_wp2_with (go_at_call 43;refine(zA0 HO _).mono ?_;rintro _ w1 ⟨rfl,hb⟩;have qK:=zA5 (zA0 HA) hb;obtain⟨⟨a0,a1,a2,a3⟩,q0,q1,q2,q3⟩:=zBX qK;have hz:=qK.lt;have HB:=zA3 (zA2 (zA1 (Below.refl _ w) _) hb);clear hb qK)
 refine bodyPost_ret (v:=.tuple #[.agg #[.int .i64 0,.slice none 0 0,.slice none 0 0,.slice none 0 0],.int .i64 2]) (by simp[results,Tryz.results13,go_sem, *]) rfl ⟨rfl,zA1 (put4 (zA0 HB) _ _ _ _) _⟩
theorem zKa{w:World}{b g cap:Nat}{xs:List Val}{i:Nat}{x:Val}(h:zAV w b (.slice (some ⟨g,0,none⟩) xs.length cap) xs)(hx:xs[i]?=some x):w.cell? ⟨g,i*3,none⟩=some (.int .i64 x.k)/\w.cell? ⟨g,i*3+1,none⟩=some (.int .i64 x.n)/\w.cell? ⟨g,i*3+2,none⟩=some (.string x.s):=by
 have Qc:=World.ownsRow.cells h (g:=g) rfl
 have ZE:∀k,(⟨g,0,none⟩:Addr).add k=⟨g,k,none⟩:=fun k=>by unfold Addr.add;split<;>simp_all
 have h0:=Qc (i*3+0) _ ((zCV xs i 0 x hx (by omega)).trans rfl)
 have h1:=Qc (i*3+1) _ ((zCV xs i 1 x hx (by omega)).trans rfl)
 have h2:=Qc (i*3+2) _ ((zCV xs i 2 x hx (by omega)).trans rfl)
 rw[ZE] at h0 h1 h2
 exact⟨h0,h1,h2⟩
def zNa(w w':World)(Xs:List Vc)(rows:Nat)(e:Ending):Prop:=
 ∃lv hv nv b,e=.returned (.tuple #[.agg #[.int .i64 (rows:Int),lv,hv,nv],.int .i64 0])/\zAV w' b lv (Xs.map zHI)/\zAV w' b hv (Xs.map zDK)/\w'.ownsRow b 3 1 nv Xs.length (Xs.map fun X=>Value.int .i64 (zGD X:Int))/\Below w.heap.size w w'
set_option maxHeartbeats 4000000
theorem zRK{w:World}{b:Nat}{v:Value}{xs:List Val}(h:zAV w b v xs)(hx:xs≠[]):∃g cap,v=.slice (some ⟨g,0,none⟩) xs.length cap:=by
 rcases h.2 with ⟨_,h0⟩|⟨g,cap,cur,e,_⟩
 ·exact absurd (List.eq_nil_of_length_eq_zero h0) hx
 ·exact⟨g,cap,e⟩
theorem HS.cells{w wr:World}{H g cap:Nat}{rows:Int}{lv hv nv:Value}{L G:List Val}{N:List Int}{x y z:Val}(h:HS w wr H rows lv hv nv (.slice (some ⟨g,0,none⟩) 3 cap) L G N [x,y,z]) :
  (wr.cell? ⟨H,1,none⟩=some lv/\wr.cell? ⟨g,0,none⟩=some (.int .i64 x.k)/\wr.cell? ⟨g,1,none⟩=some (.int .i64 x.n)/\wr.cell? ⟨g,2,none⟩=some (.string x.s))/\(wr.cell? ⟨H,2,none⟩=some hv/\wr.cell? ⟨g,3,none⟩=some (.int .i64 y.k)/\wr.cell? ⟨g,4,none⟩=some (.int .i64 y.n)/\wr.cell? ⟨g,5,none⟩=some (.string y.s))/\(wr.cell? ⟨H,3,none⟩=some nv/\wr.cell? ⟨g,7,none⟩=some (.int .i64 z.n)):=by
 obtain⟨⟨_,h1,h2,h3⟩,_⟩:=zBX h.h
 obtain⟨a0,a1,a2⟩:=zKa (xs:=[x,y,z]) h.s (i:=0) rfl
 obtain⟨b0,b1,b2⟩:=zKa (xs:=[x,y,z]) h.s (i:=1) rfl
 obtain⟨c0,c1,c2⟩:=zKa (xs:=[x,y,z]) h.s (i:=2) rfl
 exact⟨⟨h1,a0,a1,a2⟩,⟨h2,b0,b1,b2⟩,h3,c1⟩
theorem zEa{w:World}{g t n:Nat}{F:Nat->Value}{base e size:Nat}{v:Value}{m:Nat}{xs:List Value}(ho:w.ownsRow base e size v m xs)(h:w.rowIs g t n F)(Th:t≠e)(u0 u1 u2 u3:Value) :
  ((((w.setCell ⟨g,0,none⟩ u0).setCell ⟨g,1,none⟩ u1).setCell ⟨g,2,none⟩ u2).setCell ⟨g,3,none⟩ u3).ownsRow base e size v m xs:=
 zAw (zAw (zAw (zAw ho h Th) (h.set 0 u0) Th) ((h.set 0 u0).set 1 u1) Th) (((h.set 0 u0).set 1 u1).set 2 u2) Th
theorem zRm{l:List UInt8}(hl:l.length<=140737488300000){Xs:List Vc}{ps:List (ByteArray×ByteArray)}(h:Seg l Xs ps)(w:World):Calls Tryz.prog 13 #[.string (bs l)] w fun e w'=>zNa w w' Xs (zCn l) e:=by
 obtain⟨i4,Qd,z40,z41,z42⟩:=info_parts Tryz.info59
 obtain⟨i3,Tm,z30,z31,z32⟩:=info_parts Tryz.info3'
 have HO:=zA3 (fun W=>zFd hl h W)
 have hn:=h.lay.len
 have JD:=h.lay.n2
 rw[<-hn] at JD
 rw[<-hn,h.zones] at HO
 have HR:Hid (∀(j:Nat) (X:Vc),Xs[j]?=some X->∀W,Calls Tryz.prog 44 #[.string (zP X)] W fun e w'=>∃v,e=.returned (.tuple #[v,.int .i64 0])/\zAV w' W.heap.size v [zHI X,zDK X,.num (zGD X:Nat)]/\Below W.heap.size W w'):=fun j X hX W=>by
  obtain⟨u1,u2⟩:=h.lay.at_ j X hX
  have hz:=(zO6 u1 u2).zone
  refine(zRw (zP X) W (by omega)).mono ?_
  rintro e w' ⟨hg,hb⟩
  rw[(zSt u1).1] at hg
  obtain⟨v,he,ho⟩:=hg
  exact⟨v,he,ho,hb⟩
 obtain⟨rows,QZ⟩:∃rows,zCn l=rows:=⟨_,rfl⟩
 rw[QZ] at HO ⊢
 obtain⟨n,Yb⟩:∃n,Xs.length=n:=⟨_,rfl⟩
 rw[Yb] at HO JD
 have QS:=zA3 Yb
 have HA:=zA3 (zCF w 0 zCq zCq zCq)
 clear h hn Yb QZ
 have i32:(n:Int)<=32:=by omega
 go_enter Tryz.func13,Tryz.ntmps13
 go_wp2_with (go_at_call 43;refine(zA0 HO _).mono ?_;rintro _ w2 ⟨Cs,az,ac,cz,cc,rfl,-,hz,-,-,hb⟩;have HZ:=zA3 hz;have QH:=zA3 (zA5 (zA0 HA) hb);have HB:=zA3 (zA2 (zA1 (Below.refl _ w) _) hb);clear hz hb)
 have hH:=zCF (w2.alloc (.cells #[.int .i64 (rows:Int),.slice az n cz,.slice ac n cc] 89)) (rows:Int) zCq zCq zCq
 have Hw:=zA1 (zA1 (Below.refl _ w2) (.cells #[.int .i64 (rows:Int),.slice az n cz,.slice ac n cc] 89)) (.cells #[.int .i64 (rows:Int),.slice none 0 0,.slice none 0 0,.slice none 0 0] 39)
 rw[show (w2.alloc (.cells #[.int .i64 (rows:Int),.slice az n cz,.slice ac n cc] 89)).heap.size=w2.heap.size+1 by simp] at hH
 obtain⟨w3,JR⟩:∃w3,(w2.alloc (.cells #[.int .i64 (rows:Int),.slice az n cz,.slice ac n cc] 89)).alloc (.cells #[.int .i64 (rows:Int),.slice none 0 0,.slice none 0 0,.slice none 0 0] 39)=w3:=⟨_,rfl⟩
 rw[JR] at hH Hw ⊢
 clear JR
 obtain⟨H,hHH⟩:∃H,w2.heap.size+1=H:=⟨_,rfl⟩
 rw[hHH] at hH ⊢
 have QQ:Hid (HS w2 w3 H rows zCq zCq zCq zCq [] [] [] []):=⟨hH,World.ownsRow_nil _ _ _ _,World.ownsRow_nil _ _ _ _,World.ownsRow_nil _ _ _ _,World.ownsRow_nil _ _ _ _,.inl rfl,.inl rfl,.inl rfl,.inl rfl,Hw,by omega⟩
 clear hH Hw hHH HO HA
 go_loopw[26] (fun s wr=>∃(j:Nat) (lv hv nv sv:Value) (Z:List Val),j<=n/\s=.int .i64 (j:Int)/\Hid (HS w2 wr H rows lv hv nv sv ((Xs.take j).map zHI) ((Xs.take j).map zDK) ((Xs.take j).map fun X=>((zGD X:Nat):Int)) Z)) (fun s _=>n-(intOf s).toNat)
 case atStart=>exact⟨0,_,_,_,_,_,Nat.zero_le _,rfl,QQ⟩
 case round=>
  obtain⟨j,lv,hv,nv,sv,Z,hj,rfl,HJ⟩:=hrel
  clear QQ
  by_cases Jw:j<n
  ·have ij:(j:Int)<(n:Int):=by omega
   have FW:j<Xs.length:=by rw[zA0 QS];exact Jw
   obtain⟨X,hX⟩:∃X,Xs[j]?=some X:=⟨_,zAf FW⟩
   have hTK:Xs.take (j+1)=Xs.take j++[X]:=by
    obtain⟨h1,rfl⟩:=zAL hX
    exact List.take_succ_eq_append_getElem h1
   have JY:=zA3 hTK
   obtain⟨bz,oz,rfl,qz⟩:=zDT ((zA0 HZ).later (zA0 HJ).bel) (show ((Xs.map zP).map Value.string)[j]?=some (.string (zP X)) by simp[hX])
   have QR:=zA3 (zA0 HR j X hX)
   have Hf:(Xs.take j).length=j:=by rw[List.length_take];omega
   obtain⟨Ls,TZ⟩:∃Ls,(Xs.take j).map zHI=Ls:=⟨_,rfl⟩
   obtain⟨Gs,Db⟩:∃Gs,(Xs.take j).map zDK=Gs:=⟨_,rfl⟩
   obtain⟨Ns,TY⟩:∃Ns,(Xs.take j).map (fun X=>((zGD X:Nat):Int))=Ns:=⟨_,rfl⟩
   have HaL:Hid (Ls.length<=32):=by show _<=_;rw[<-TZ,List.length_map];omega
   have HbL:Hid (Gs.length<=32):=by show _<=_;rw[<-Db,List.length_map];omega
   have HcL:Hid (Ns.length<=32):=by show _<=_;rw[<-TY,List.length_map];omega
   have qP:=zA3 (And.intro TZ (And.intro Db TY))
   rw[TZ,Db,TY] at HJ
   obtain⟨L,hL⟩:∃L,zHI X=L:=⟨_,rfl⟩
   obtain⟨Gg,hG⟩:∃Gg,zDK X=Gg:=⟨_,rfl⟩
   obtain⟨N,hN⟩:∃N,zGD X=N:=⟨_,rfl⟩
   have JI:=zA3 (And.intro hL (And.intro hG hN))
   rw[hL,hG,hN] at QR
   clear hTK hX FW Hf TZ Db TY hL hG hN
   go_upto_region 9 with (go_at_call 44;refine(zA0 QR _).mono ?_;rintro _ w4 ⟨v4,rfl,ya,Qe⟩;obtain⟨g4,cap4,rfl⟩:=zRK ya (by simp);have Du:=zA3 ((zA0 HJ).says Qe ya);clear ya Qe)
   go_upto_region 9 with fail
   have Sa:(fun w':World=>w'.cell? ⟨H,1,none⟩=some lv/\w'.cell? ⟨g4,0,none⟩=some (.int .i64 L.k)/\w'.cell? ⟨g4,1,none⟩=some (.int .i64 L.n)/\w'.cell? ⟨g4,2,none⟩=some (.string L.s)) w4.drew:=((zA0 Du).later (Below.refl _ _).drew).cells.1
   refine wp_region_noPanic ?_
   refine zAu (S:=fun w':World=>w'.cell? ⟨H,1,none⟩=some lv/\w'.cell? ⟨g4,0,none⟩=some (.int .i64 L.k)/\w'.cell? ⟨g4,1,none⟩=some (.int .i64 L.n)/\w'.cell? ⟨g4,2,none⟩=some (.string L.s)) (k:=6) (by kernel_rfl) ?_
   refine zA6 (i:=0) (v:=(.pointer (some ⟨H,1,none⟩))) [1,6] rfl (fun _ _ _ h=>h) (Or.inl ⟨by rfl,fun w' hSw=>?_⟩) Sa ?_
   ·dsimp only at hSw;go_simp
   try simp only[Act.put,zAI,zAH,zAG]
   refine zA6 (i:=1) (v:=lv) [6] rfl (fun _ _ _ h=>h) (Or.inl ⟨by rfl,fun w' hSw=>?_⟩) Sa ?_
   ·dsimp only at hSw;go_simp
   try simp only[Act.put,zAI,zAH,zAG]
   refine zA6 (i:=2) (v:=(.slice (some ⟨g4,0,none⟩) 3 cap4)) [3,4,5,6] rfl (fun _ _ _ h=>h) (Or.inl ⟨by rfl,fun w' hSw=>?_⟩) Sa ?_
   ·dsimp only at hSw;go_simp
   try simp only[Act.put,zAI,zAH,zAG]
   refine zA6 (i:=3) (v:=(.pointer (some ⟨g4,0,none⟩))) [4,5,6] rfl (fun _ _ _ h=>h) (Or.inl ⟨by rfl,fun w' hSw=>?_⟩) Sa ?_
   ·dsimp only at hSw;go_simp
   try simp only[Act.put,zAI,zAH,zAG]
   refine zA6 (i:=4) (v:=(.agg #[.int .i64 L.k,.int .i64 L.n,.string L.s])) [5,6] rfl (fun _ _ _ h=>h) (Or.inl ⟨by rfl,fun w' hSw=>?_⟩) Sa ?_
   ·dsimp only at hSw;go_simp
   try simp only[Act.put,zAI,zAH,zAG]
   clear Sa
   refine zA7 (i:=5) (by kernel_rfl) ?_
   refine zA4 rfl (by rfl) fun K hK=>?_
   go_simp
   refine zA0 hK _ _ ⟨fun _=>((zA0 Du).later ((Below.refl _ _).drew.alloc (Nat.le_refl _) _)).cells.1,?_⟩
   clear hK K
   refine zA7 (i:=6) (by kernel_rfl) ?_
   refine zA4 rfl (by rfl) fun K hK=>?_
   refine wp_append_lies _ (.tmp 36) (.tmp 40) 37 (by rfl) w2.heap.size 59 i4 (.agg #[.int .i64 0,.int .i64 0,.string ⟨#[]⟩]) 3 32 Tryz.underlying37 Qd z40 z41 z42 (by rfl) (by decide) lv Ls.length (Ls.flatMap c3) (by rfl) (World.ownsRow.alloc (World.ownsRow.drew (zA0 Du).l) _) ⟨w4.heap.size,0,none⟩ 1 1 (c3 L) (by rfl) (by rfl) (zAy w4.drew L) (zBY _) (by decide) (by have:=zA0 HaL;unfold maxLen;omega) (by have:=zA0 HaL;omega) (by have:=(zA0 Du).bel.size;simp;omega) (w4.heap.size+1) (by simp) ?_
   intro ga capa wa Hd Hr Hm He
   have Hk:=zAF ((zA0 Du).h.drew.alloc _) Hr (zBL (zA0 Du).h.drew (World.ownsRow.drew (zA0 Du).l) (by decide))
   have qf:wa.frozen? ⟨H,1,none⟩=false:=World.rowIs.frozen Hk 1
   have qc:=World.rowIs.cell Hk (i:=1) (by decide)
   have Tx:=zA3 (((zA0 Du).later (Below.refl _ _).drew).low (x:=L) Hd Hr (by rcases Hm with e|e;exact .inl e.symm;exact .inr (by rw[e];simp[Value.ownBlock])))
   clear Hd Hr Hm He Hk
   refine zA0 hK _ _ ⟨fun hh=>absurd hh (by decide),?_⟩
   clear hK K
   refine zA7 (i:=7) (by kernel_rfl) ?_
   refine zA4 rfl (by rfl) fun K hK=>?_
   go_simp
   refine zA0 hK _ _ ⟨fun hh=>absurd hh (by decide),?_⟩
   clear hK K
   refine zA7 (i:=8) (by kernel_rfl) ?_
   refine zA4 rfl (by rfl) fun K hK=>?_
   go_simp
   refine zA0 hK _ _ ⟨fun hh=>absurd hh (by decide),?_⟩
   clear hK K
   refine zAl (by kernel_rfl) ?_ _
   refine NoPanic.normal ?_
   clear qc qf Du
   obtain⟨w5,DH⟩:∃W,wa.setCell ⟨H,1,none⟩ (.slice (some ⟨ga,0,none⟩) (Ls.length+1) capa)=W:=⟨_,rfl⟩
   rw[DH] at Tx ⊢
   clear DH
   go_upto_region 10 with fail
   have Sb:(fun w':World=>w'.cell? ⟨H,2,none⟩=some hv/\w'.cell? ⟨g4,3,none⟩=some (.int .i64 Gg.k)/\w'.cell? ⟨g4,4,none⟩=some (.int .i64 Gg.n)/\w'.cell? ⟨g4,5,none⟩=some (.string Gg.s)) w5.drew:=((zA0 Tx).later (Below.refl _ _).drew).cells.2.1
   refine wp_region_noPanic ?_
   refine zAu (S:=fun w':World=>w'.cell? ⟨H,2,none⟩=some hv/\w'.cell? ⟨g4,3,none⟩=some (.int .i64 Gg.k)/\w'.cell? ⟨g4,4,none⟩=some (.int .i64 Gg.n)/\w'.cell? ⟨g4,5,none⟩=some (.string Gg.s)) (k:=6) (by kernel_rfl) ?_
   refine zA6 (i:=0) (v:=(.pointer (some ⟨H,2,none⟩))) [1,6] rfl (fun _ _ _ h=>h) (Or.inl ⟨by rfl,fun w' hSw=>?_⟩) Sb ?_
   ·dsimp only at hSw;go_simp
   try simp only[Act.put,zAI,zAH,zAG]
   refine zA6 (i:=1) (v:=hv) [6] rfl (fun _ _ _ h=>h) (Or.inl ⟨by rfl,fun w' hSw=>?_⟩) Sb ?_
   ·dsimp only at hSw;go_simp
   try simp only[Act.put,zAI,zAH,zAG]
   refine zA6 (i:=2) (v:=(.slice (some ⟨g4,0,none⟩) 3 cap4)) [3,4,5,6] rfl (fun _ _ _ h=>h) (Or.inl ⟨by rfl,fun w' hSw=>?_⟩) Sb ?_
   ·dsimp only at hSw;go_simp
   try simp only[Act.put,zAI,zAH,zAG]
   refine zA6 (i:=3) (v:=(.pointer (some ⟨g4,3,none⟩))) [4,5,6] rfl (fun _ _ _ h=>h) (Or.inl ⟨by rfl,fun w' hSw=>?_⟩) Sb ?_
   ·dsimp only at hSw;go_simp
   try simp only[Act.put,zAI,zAH,zAG]
   refine zA6 (i:=4) (v:=(.agg #[.int .i64 Gg.k,.int .i64 Gg.n,.string Gg.s])) [5,6] rfl (fun _ _ _ h=>h) (Or.inl ⟨by rfl,fun w' hSw=>?_⟩) Sb ?_
   ·dsimp only at hSw;go_simp
   try simp only[Act.put,zAI,zAH,zAG]
   clear Sb
   refine zA7 (i:=5) (by kernel_rfl) ?_
   refine zA4 rfl (by rfl) fun K hK=>?_
   go_simp
   refine zA0 hK _ _ ⟨fun _=>((zA0 Tx).later ((Below.refl _ _).drew.alloc (Nat.le_refl _) _)).cells.2.1,?_⟩
   clear hK K
   refine zA7 (i:=6) (by kernel_rfl) ?_
   refine zA4 rfl (by rfl) fun K hK=>?_
   refine wp_append_lies _ (.tmp 44) (.tmp 48) 37 (by rfl) w2.heap.size 59 i4 (.agg #[.int .i64 0,.int .i64 0,.string ⟨#[]⟩]) 3 32 Tryz.underlying37 Qd z40 z41 z42 (by rfl) (by decide) hv Gs.length (Gs.flatMap c3) (by rfl) (World.ownsRow.alloc (World.ownsRow.drew (zA0 Tx).g) _) ⟨w5.heap.size,0,none⟩ 1 1 (c3 Gg) (by rfl) (by rfl) (zAy w5.drew Gg) (zBY _) (by decide) (by have:=zA0 HbL;unfold maxLen;omega) (by have:=zA0 HbL;omega) (by have:=(zA0 Tx).bel.size;simp;omega) (w5.heap.size+1) (by simp) ?_
   intro gb capb wb Hd Hr Hm He
   have Hk:=zAF ((zA0 Tx).h.drew.alloc _) Hr (zBL (zA0 Tx).h.drew (World.ownsRow.drew (zA0 Tx).g) (by decide))
   have qf:wb.frozen? ⟨H,2,none⟩=false:=World.rowIs.frozen Hk 2
   have qc:=World.rowIs.cell Hk (i:=2) (by decide)
   have Tw:=zA3 (((zA0 Tx).later (Below.refl _ _).drew).high (x:=Gg) Hd Hr (by rcases Hm with e|e;exact .inl e.symm;exact .inr (by rw[e];simp[Value.ownBlock])))
   clear Hd Hr Hm He Hk
   refine zA0 hK _ _ ⟨fun hh=>absurd hh (by decide),?_⟩
   clear hK K
   refine zA7 (i:=7) (by kernel_rfl) ?_
   refine zA4 rfl (by rfl) fun K hK=>?_
   go_simp
   refine zA0 hK _ _ ⟨fun hh=>absurd hh (by decide),?_⟩
   clear hK K
   refine zA7 (i:=8) (by kernel_rfl) ?_
   refine zA4 rfl (by rfl) fun K hK=>?_
   go_simp
   refine zA0 hK _ _ ⟨fun hh=>absurd hh (by decide),?_⟩
   clear hK K
   refine zAl (by kernel_rfl) ?_ _
   refine NoPanic.normal ?_
   clear qc qf Tx
   obtain⟨w6,DH⟩:∃W,wb.setCell ⟨H,2,none⟩ (.slice (some ⟨gb,0,none⟩) (Gs.length+1) capb)=W:=⟨_,rfl⟩
   rw[DH] at Tw ⊢
   clear DH
   go_upto_region 11 with fail
   have Sc:(fun w':World=>w'.cell? ⟨H,3,none⟩=some nv/\w'.cell? ⟨g4,7,none⟩=some (.int .i64 ((N:Nat):Int))) w6.drew:=((zA0 Tw).later (Below.refl _ _).drew).cells.2.2
   refine wp_region_noPanic ?_
   refine zAu (S:=fun w':World=>w'.cell? ⟨H,3,none⟩=some nv/\w'.cell? ⟨g4,7,none⟩=some (.int .i64 ((N:Nat):Int))) (k:=7) (by kernel_rfl) ?_
   refine zA6 (i:=0) (v:=(.pointer (some ⟨H,3,none⟩))) [1,7] rfl (fun _ _ _ h=>h) (Or.inl ⟨by rfl,fun w' hSw=>?_⟩) Sc ?_
   ·dsimp only at hSw;go_simp
   try simp only[Act.put,zAI,zAH,zAG]
   refine zA6 (i:=1) (v:=nv) [7] rfl (fun _ _ _ h=>h) (Or.inl ⟨by rfl,fun w' hSw=>?_⟩) Sc ?_
   ·dsimp only at hSw;go_simp
   try simp only[Act.put,zAI,zAH,zAG]
   refine zA6 (i:=2) (v:=(.slice (some ⟨g4,0,none⟩) 3 cap4)) [3,4,5,6,7] rfl (fun _ _ _ h=>h) (Or.inl ⟨by rfl,fun w' hSw=>?_⟩) Sc ?_
   ·dsimp only at hSw;go_simp
   try simp only[Act.put,zAI,zAH,zAG]
   refine zA6 (i:=3) (v:=(.pointer (some ⟨g4,6,none⟩))) [4,5,6,7] rfl (fun _ _ _ h=>h) (Or.inl ⟨by rfl,fun w' hSw=>?_⟩) Sc ?_
   ·dsimp only at hSw;go_simp
   try simp only[Act.put,zAI,zAH,zAG]
   refine zA6 (i:=4) (v:=(.pointer (some ⟨g4,7,none⟩))) [5,6,7] rfl (fun _ _ _ h=>h) (Or.inl ⟨by rfl,fun w' hSw=>?_⟩) Sc ?_
   ·dsimp only at hSw;go_simp
   try simp only[Act.put,zAI,zAH,zAG]
   refine zA6 (i:=5) (v:=(.int .i64 ((N:Nat):Int))) [6,7] rfl (fun _ _ _ h=>h) (Or.inl ⟨by rfl,fun w' hSw=>?_⟩) Sc ?_
   ·dsimp only at hSw;go_simp
   try simp only[Act.put,zAI,zAH,zAG]
   clear Sc
   refine zA7 (i:=6) (by kernel_rfl) ?_
   refine zA4 rfl (by rfl) fun K hK=>?_
   go_simp
   refine zA0 hK _ _ ⟨fun _=>((zA0 Tw).later ((Below.refl _ _).drew.alloc (Nat.le_refl _) _)).cells.2.2,?_⟩
   clear hK K
   refine zA7 (i:=7) (by kernel_rfl) ?_
   refine zA4 rfl (by rfl) fun K hK=>?_
   refine wp_append_lies _ (.tmp 52) (.tmp 57) 22 (by rfl) w2.heap.size 3 i3 (.int .i64 0) 1 8 Tryz.underlying22 Tm z30 z31 z32 (by rfl) (by decide) nv Ns.length (Ns.map (Value.int .i64)) (by rfl) (World.ownsRow.alloc (World.ownsRow.drew (zA0 Tw).n) _) ⟨w6.heap.size,0,none⟩ 1 1 [.int .i64 ((N:Nat):Int)] (by rfl) (by rfl) (cell_one_new _ _ _) (by intro u hu;simp at hu;subst hu;rfl) (by decide) (by have:=zA0 HcL;unfold maxLen;omega) (by have:=zA0 HcL;omega) (by have:=(zA0 Tw).bel.size;simp;omega) (w6.heap.size+1) (by simp) ?_
   intro gc capc wc Hd Hr Hm He
   have Hk:=zAF ((zA0 Tw).h.drew.alloc _) Hr (zBL (zA0 Tw).h.drew (World.ownsRow.drew (zA0 Tw).n) (by decide))
   have qf:wc.frozen? ⟨H,3,none⟩=false:=World.rowIs.frozen Hk 3
   have qc:=World.rowIs.cell Hk (i:=3) (by decide)
   have HNc:=zA3 (((zA0 Tw).later (Below.refl _ _).drew).nul (x:=((N:Nat):Int)) Hd Hr)
   clear Hd Hr Hm He Hk
   refine zA0 hK _ _ ⟨fun hh=>absurd hh (by decide),?_⟩
   clear hK K
   refine zA7 (i:=8) (by kernel_rfl) ?_
   refine zA4 rfl (by rfl) fun K hK=>?_
   go_simp
   refine zA0 hK _ _ ⟨fun hh=>absurd hh (by decide),?_⟩
   clear hK K
   refine zA7 (i:=9) (by kernel_rfl) ?_
   refine zA4 rfl (by rfl) fun K hK=>?_
   go_simp
   refine zA0 hK _ _ ⟨fun hh=>absurd hh (by decide),?_⟩
   clear hK K
   refine zAl (by kernel_rfl) ?_ _
   refine NoPanic.normal ?_
   clear qc qf Tw
   obtain⟨w7,DH⟩:∃W,wc.setCell ⟨H,3,none⟩ (.slice (some ⟨gc,0,none⟩) (Ns.length+1) capc)=W:=⟨_,rfl⟩
   rw[DH] at HNc ⊢
   clear DH
   clear QR HJ
   go_wp2
   go_roundw
   case rel=>
    refine⟨j+1,.slice (some ⟨ga,0,none⟩) (Ls.length+1) capa,.slice (some ⟨gb,0,none⟩) (Gs.length+1) capb,.slice (some ⟨gc,0,none⟩) (Ns.length+1) capc,.slice (some ⟨g4,0,none⟩) 3 cap4,[L,Gg,.num ((N:Nat):Int)],by omega,by go_num,?_⟩
    rw[zA0 JY]
    simp only[List.map_append,List.map_cons,List.map_nil]
    rw[(zA0 qP).1,(zA0 qP).2.1,(zA0 qP).2.2,(zA0 JI).1,(zA0 JI).2.1,(zA0 JI).2.2]
    exact HNc
   case measure=>first | (simp[intOf];omega) | (simp only[intOf];omega)
  ·have yL:j=n:=by omega
   subst yL
   have ij:¬(j:Int)<(j:Int):=by omega
   have Gx:Xs.take j=Xs:=by rw[<-zA0 QS];exact List.take_length
   rw[Gx] at HJ
   have hA:=zA5 (zA0 QH) (zA0 HJ).bel
   obtain⟨al,cl,rfl,_⟩:=zBy (zA0 HJ).l
   obtain⟨ah,ch,rfl,_⟩:=zBy (zA0 HJ).g
   obtain⟨an,cn,rfl⟩:=zCj (zA0 HJ).n
   obtain⟨⟨g0,g1,g2,g3⟩,_⟩:=zBX (zA0 HJ).h
   obtain⟨⟨a0,a1,a2,a3⟩,q0,q1,q2,q3⟩:=zBX hA
   have He:=hA.lt
   have ZN:=zA3 (And.intro (zEa (zA0 HJ).l hA (by decide)) (And.intro (zEa (zA0 HJ).g hA (by decide)) (zEa (zA0 HJ).n hA (by decide))))
   have QW:=zA3 (zA2 (zA0 HB) (zA0 HJ).bel)
   clear Gx hA
   go_wp2
   refine bodyPost_ret (v:=.tuple #[.agg #[.int .i64 (rows:Int),.slice al (Xs.map zHI).length cl,.slice ah (Xs.map zDK).length ch,.slice an (Xs.map fun X=>((zGD X:Nat):Int)).length cn],.int .i64 0]) (by simp[results,Tryz.results13,go_sem, *]) rfl ⟨_,_,_,w2.heap.size,rfl,zA0 ZN |>.1 _ _ _ _,zA0 ZN |>.2.1 _ _ _ _,?_,put4 (zA0 QW) _ _ _ _⟩
   have:=(zA0 ZN).2.2 (.int .i64 (rows:Int)) (.slice al (Xs.map zHI).length cl) (.slice ah (Xs.map zDK).length ch) (.slice an (Xs.map fun X=>((zGD X:Nat):Int)).length cn)
   simp only[List.length_map,List.map_map] at this ⊢
   exact this
end Go.Proofs.YtekgpapophibcaaGreat
