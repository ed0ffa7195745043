import Derived.Test.YtekgpapophibcaaGreatAnyG
import Derived.Test.YtekgpapophibcaaGreatSgB
import Derived.Lib.SlBytesConst
import Derived.ArgAppend
import Derived.Test.YtekgpapophibcaaGreatSgK
import Derived.Deep.WholeRow
set_option linter.unusedSimpArgs false
set_option linter.unusedVariables false
namespace Go.Proofs.YtekgpapophibcaaGreat
open Go.RowKit Go.Sort
def zKB(w:World)(b o:Nat)(X:Vc)(p:Sl):Prop:=
 w.cell? ⟨b,o,none⟩=some (.int .i64 X.k)/\w.cell? ⟨b,o+1,none⟩=some (.slice p.a1 X.nl.length p.c1)/\w.cell? ⟨b,o+2,none⟩=some (.slice p.a2 X.ns.length p.c2)/\w.cell? ⟨b,o+3,none⟩=some (.slice p.a3 X.ss.length p.c3)
def zBq(w:World)(a:Option Addr)(Cs:List (Vc×Sl)):Prop:=
 (Cs=[]∨∃b off,a=some ⟨b,off,none⟩/\∀i c,Cs[i]?=some c->zKB w b (off+i*4) c.1 c.2)/\∀c∈Cs,zAi w c.1 c.2
theorem zKB.later{w w':World}{b o:Nat}{X:Vc}{p:Sl}(h:zKB w b o X p)(hb:Below w.heap.size w w'):zKB w' b o X p:=
 ⟨cell_later hb h.1,cell_later hb h.2.1,cell_later hb h.2.2.1,cell_later hb h.2.2.2⟩
theorem zBq.later{w w':World}{a:Option Addr}{Cs:List (Vc×Sl)}(h:zBq w a Cs)(hb:Below w.heap.size w w'):zBq w' a Cs:=by
 refine⟨?_,fun c hc=>(h.2 c hc).later hb⟩
 rcases h.1 with e|⟨b,off,ha,h1⟩
 ·exact .inl e
 ·exact .inr ⟨b,off,ha,fun i c hc=>(h1 i c hc).later hb⟩
structure HB(w0 w:World)(hv bv:Value)(hs bs:List Int):Prop where
 h:zBC w w0.heap.size hv hs
 b:zBC w w0.heap.size bv bs
 ne:∀g,bv.ownBlock=some g->hv.ownBlock≠some g
 bel:Below w0.heap.size w0 w
theorem HB.later{w0 w w':World}{hv bv:Value}{hs bs:List Int}(h:HB w0 w hv bv hs bs)(hb:Below w.heap.size w w'):HB w0 w' hv bv hs bs:=
 ⟨h.h.grew (zAt.of_below hb (.slice none 0 0)) (fun g _ e=>by cases e),h.b.grew (zAt.of_below hb (.slice none 0 0)) (fun g _ e=>by cases e),h.ne,h.bel.trans (hb.mono h.bel.size)⟩
theorem HB.head{w0 w w':World}{hv bv Tg:Value}{hs bs hs':List Int}(h:HB w0 w hv bv hs bs)(ho:zBC w' w0.heap.size Tg hs')(hg:zAt w w' hv Tg):HB w0 w' Tg bv hs' bs:=by
 refine⟨ho,h.b.grew hg h.ne,fun g hb e=>?_,h.bel.trans (hg.below h.bel.size (fun g hh=>(zBN h.h hh).1))⟩
 rcases hg.2 with e' | ⟨g',e',hl⟩
 ·exact h.ne g hb (e' ▸ e)
 ·rw[e'] at e;cases e
  have:=(zBN h.b hb).2
  omega
theorem HB.body{w0 w w':World}{hv bv bv':Value}{hs bs bs':List Int}(h:HB w0 w hv bv hs bs)(ho:zBC w' w0.heap.size bv' bs')(hg:zAt w w' bv bv'):HB w0 w' hv bv' hs bs':=by
 refine⟨h.h.grew hg (fun g hh e=>h.ne g e hh),ho,fun g hb e=>?_,h.bel.trans (hg.below h.bel.size (fun g hh=>(zBN h.b hh).1))⟩
 rcases hg.2 with e' | ⟨g',e',hl⟩
 ·exact h.ne g (e' ▸ hb) e
 ·rw[e'] at hb;cases hb
  have:=(zBN h.h e).2
  omega
theorem zDV{w:World}{ops:Array Oper}{rest:List Oper}{o:Oper}{a:Act}{Q:Exit->Act->World->Prop}(Gm:o.guard=none)(sl x:Operand)
  (ho:o.op=.call { callee:=.builtin .append,args:=#[sl,x],argTypes:=#[71,9] }) (base:Nat) (v:Value) (zs:List Int) (s:ByteArray) (hs:a.eval sl=v) (hx:a.eval x=.string s)
  (Hd:zBC w base v zs) (Hf:zs.length+s.size<=140737488355328) (Hv:base<=w.heap.size)
  (h:∀v' w',zBC w' base v' (zs++txt s)->zAt w w' v v'->wpList Tryz.prog ops Q rest (a.put o.dst v') w'):wpList Tryz.prog ops Q (o::rest) a w:=by
 obtain⟨i0,hi,QY,Qp,QC⟩:=info_parts Tryz.info5
 refine wpList_plain Gm fun K hK=>zF4 sl x ho base i0 hi QY Qp QC v _ _ hs Hd s hx Hf Hv fun v' w' h1 h2 Hm=>hK _ _ (h v' w' ?_ ⟨h2,?_⟩)
 ·rw[<-zJA] at h1
  exact zBS (zDj s) h1
 ·rcases Hm with e|e
  ·exact .inl e
  ·exact .inr ⟨_,e,Nat.le_refl _⟩
def hd1(p:ByteArray×ByteArray):List Int:=beL (p.1.size:Nat) 2 2++(txt p.1++beL (p.2.size:Nat) 4 4)
def hdL(ps:List (ByteArray×ByteArray)):List Int:=ps.flatMap hd1
def bdL(ps:List (ByteArray×ByteArray)):List Int:=ps.flatMap fun p=>txt p.2
def zBc(n rows:Nat):List Int:=[83,49]++(beL (n:Int) 1 1++beL (rows:Int) 4 4)
def zJJ(n rows:Nat)(ps:List (ByteArray×ByteArray)):ByteArray:=zFe (toB ((zBc n rows++hdL ps)++bdL ps))
theorem zLs(ps:List (ByteArray×ByteArray))(p:ByteArray×ByteArray):hdL (ps++[p])=hdL ps++hd1 p:=by simp[hdL]
theorem zMB(ps:List (ByteArray×ByteArray))(p:ByteArray×ByteArray):bdL (ps++[p])=bdL ps++txt p.2:=by simp[bdL]
theorem zL2{ps:List (ByteArray×ByteArray)}(h:∀p∈ps,p.1.size<=10000):(hdL ps).length<=ps.length*10010:=by
 induction ps with
 | nil=>simp[hdL]
 | cons p ps ih=>
  have h1:=h p (by simp)
  have h2:=ih (fun q hq=>h q (by simp[hq]))
  simp only[hdL,List.flatMap_cons,zAX,hd1,zAK,zDj,List.length_cons] at h2 ⊢
  omega
theorem zLA{ps:List (ByteArray×ByteArray)}(h:∀p∈ps,p.2.size<=100000000):(bdL ps).length<=ps.length*100000000:=by
 induction ps with
 | nil=>simp[bdL]
 | cons p ps ih=>
  have h1:=h p (by simp)
  have h2:=ih (fun q hq=>h q (by simp[hq]))
  simp only[bdL,List.flatMap_cons,zAX,zDj,List.length_cons] at h2 ⊢
  omega
structure Ps(K:Vc->ByteArray->Prop)(zf:Vc->ByteArray)(Cs:List (Vc×Sl))(ps:List (ByteArray×ByteArray)):Prop where
 len:ps.length=Cs.length
 at_:∀(i:Nat) (c:Vc×Sl) (p:ByteArray×ByteArray),Cs[i]?=some c->ps[i]?=some p->p.1=zf c.1/\K c.1 p.2
 z:∀p∈ps,p.1.size<=10000
 s:∀p∈ps,p.2.size<=100000000
theorem Ps.nil(K:Vc->ByteArray->Prop)(zf:Vc->ByteArray):Ps K zf [] []:=⟨rfl,fun i c p h=>by simp at h,fun p h=>by simp at h,fun p h=>by simp at h⟩
theorem Ps.snoc{K:Vc->ByteArray->Prop}{zf:Vc->ByteArray}{Cs:List (Vc×Sl)}{ps:List (ByteArray×ByteArray)}{k:Nat}{c:Vc×Sl}{s:ByteArray}(h:Ps K zf (Cs.take k) ps)(hc:Cs[k]?=some c)(hk:K c.1 s)(hz:(zf c.1).size<=10000)(hs:s.size<=100000000) :
  Ps K zf (Cs.take (k+1)) (ps++[(zf c.1,s)]):=by
 obtain⟨He,rfl⟩:=zAL hc
 have hl:(Cs.take k).length=k:=by simp;omega
 have Zw:ps.length=k:=h.len.trans hl
 rw[List.take_succ_eq_append_getElem He]
 refine⟨by simp[h.len];omega,fun i c p h1 h2=>?_,fun p hp=>?_,fun p hp=>?_⟩
 ·by_cases hi:i<k
  ·rw[List.getElem?_append_left (by omega)] at h1
   rw[List.getElem?_append_left (by omega)] at h2
   exact h.at_ i c p h1 h2
  ·have e:i=k:=by
    have:=(zAL h1).1
    simp at this
    omega
   subst e
   rw[List.getElem?_append_right (by omega),hl] at h1
   rw[List.getElem?_append_right (by omega),Zw] at h2
   simp at h1 h2
   subst h1 h2
   exact⟨rfl,hk⟩
 ·rcases List.mem_append.1 hp with g|g
  ·exact h.z p g
  ·simp at g;subst g;exact hz
 ·rcases List.mem_append.1 hp with g|g
  ·exact h.s p g
  ·simp at g;subst g;exact hs
set_option maxHeartbeats 4000000
set_option maxRecDepth 100000
structure zSm(K:Vc->ByteArray->Prop)(zf:Vc->ByteArray)(rows:Nat)(X:Vc):Prop where
 pk:∀p W,zAi W X p->Calls Tryz.prog 58 #[zCC X p] W fun e w'=>∃s,e=.returned (.tuple #[.string s,.int .i64 0])/\Hid (K X s)/\Below W.heap.size W w'
 zo:∀s W,K X s->Calls Tryz.prog 59 #[.string s] W fun e w'=>e=.returned (.string (zf X))/\Below W.heap.size W w'
 ln:∀p W,zAi W X p->Calls Tryz.prog 57 #[zCC X p] W fun e w'=>e=.returned (.int .i64 (rows:Int))/\Below W.heap.size W w'
 sz:∀s,K X s->s.size<=100000000
 zz:(zf X).size<=10000
theorem zJZ{w:World}{b b':Nat}{v:Value}{zs:List Int}(hb:b'<=b)(h:w.ownsRow b 5 1 v zs.length (zs.map (Value.int .u8))):zBC w b' v zs:=by
 refine⟨h.1,?_⟩
 rcases h.2 with h|⟨g,cap,cur,hv,hg,rest⟩
 ·exact .inl h
 ·exact .inr ⟨g,cap,cur,hv,Nat.le_trans hb hg,rest⟩
theorem zPv(g:Nat)(U:Int)(w:World)(h0:w.cell? ⟨g,0,none⟩=some (.int .u8 83))(h1:w.cell? ⟨g,1,none⟩=some (.int .u8 49)) :
  Calls Tryz.prog 56 #[.slice (some ⟨g,0,none⟩) 2 2,.int .u64 U,.int .i64 1] w fun e w'=>∃v',e=.returned v'/\zBC w' w.heap.size v' ([83,49]++beL U 1 1)/\Below w.heap.size w w':=by
 obtain⟨i0,hi,QY,Qp,QC⟩:=info_parts Tryz.info5
 have lg:g<w.heap.size:=World.block_lt_of_cell? _ _ h0
 go_enter Tryz.func56,Tryz.ntmps56
 go_wp2_with fail
 go_loopw[0,9] (fun key s wr=>(s=.int .i64 0/\key=.slice (some ⟨g,0,none⟩) 2 2/\wr=w)∨(s=.int .i64 1/\zBC wr w.heap.size key ([83,49]++beL U 1 1)/\Below w.heap.size w wr)) (fun _ s _=>1-(intOf s).toNat)
 case atStart=>exact .inl ⟨rfl,rfl,rfl⟩
 case round=>
  rcases hrel with ⟨rfl,rfl,rfl⟩|⟨rfl,ho,hb⟩
  ·have hA:∀j u,[Value.int .u8 83,.int .u8 49][j]?=some u->(wr.alloc (.cells #[.int .u8 (U % 256)] 5)).cell? ((⟨g,0,none⟩:Addr).add j)=some u:=by
    intro j u hu
    match j,hu with
    | 0,hu=>simp at hu;subst hu;exact cell_later (zA1 (Below.refl _ _) _) h0
    | 1,hu=>simp at hu;subst hu;exact cell_later (zA1 (Below.refl _ _) _) h1
    | j+2,hu=>simp at hu
   go_wp2_with (at_builtin;refine wpList_append_grows _ rfl (.tmp 12) (.tmp 21) 71 rfl 5 i0 (.int .u8 0) 1 1 Tryz.underlying71 hi QY Qp QC rfl (by decide) (some ⟨g,0,none⟩) 2 2 [.int .u8 83,.int .u8 49] rfl (fun e=>by cases e) rfl (fun b e=>by cases e;exact hA) ⟨wr.heap.size,0,none⟩ 1 1 [.int .u8 (U % 256)] rfl rfl (cell_one_new _ _ _) (by intro u hu;simp at hu;subst hu;rfl) (by decide) (by unfold maxLen;decide) (by decide) ?_;intro v' w1 Yy Hr)
   have e1:beL U 1 1=[U % 256]:=by simp[beL,beN]
   have ho:zBC w1 wr.heap.size v' ([83,49]++beL U 1 1):=by
    rw[e1]
    refine zJZ ?_ Yy
    simp
   have hb:Below wr.heap.size wr w1:=(zA1 (Below.refl _ _) _).grown Hr (by simp) (fun k e=>by cases e)
   exact⟨.inr ⟨rfl,ho,hb⟩,by simp[intOf]⟩
  ·go_wp2
   go_ret
   exact⟨_,rfl,ho,hb⟩
theorem HB.start{w w1 w2:World}{v:Value}{hs:List Int}(Hb:Below w.heap.size w w1)(ho:zBC w2 w1.heap.size v hs)(Hh:Below w1.heap.size w1 w2):HB w w2 v (.slice none 0 0) hs []:=by
 exact⟨zJZ Hb.size ho,World.ownsRow_nil _ _ _ _,fun g h=>(by cases h),Hb.trans (Hh.mono Hb.size)⟩
theorem HB.num{w0 w:World}{hv bv:Value}{hs bs:List Int}(h:HB w0 w hv bv hs bs)(U:Int)(n:Nat)(hn:n<=8)(hl:hs.length<=1000000) :
  Calls Tryz.prog 56 #[hv,.int .u64 U,.int .i64 (n:Int)] w fun e w'=>∃v',e=.returned v'/\Hid (HB w0 w' v' bv (hs++beL U n n) bs):=
 (zLZ w0.heap.size hs U n hv w hn h.h (by omega) h.bel.size).mono fun e w' ⟨v',he,ho,hg⟩=>⟨v',he,h.head ho hg⟩
theorem zJF(K:Vc->ByteArray->Prop)(zf:Vc->ByteArray)(rows:Nat)(hr:rows<=4096)(a:Option Addr)(c:Nat)(Cs:List (Vc×Sl))(w:World)(hn:1<=Cs.length)(TJ:Cs.length<=32)(hC:∀x∈Cs,zSm K zf rows x.1)(ha:zBq w a Cs) :
  Calls Tryz.prog 29 #[.slice a Cs.length c] w fun e w'=>∃ps,e=.returned (.string (zJJ Cs.length rows ps))/\Hid (Ps K zf Cs ps)/\Below w.heap.size w w':=by
 obtain⟨b,off,rfl,ZZ⟩:∃b off,a=some ⟨b,off,none⟩/\∀i c,Cs[i]?=some c->zKB w b (off+i*4) c.1 c.2:=by
  rcases ha.1 with e|h
  ·subst e;simp at hn
  ·exact h
 have Fo:=ha.2
 have c0:=zAf (l:=Cs) (i:=0) (by omega)
 generalize Cs[0]=x0 at c0
 have JK:=zA3 ((hC x0 (List.mem_of_getElem? c0)).ln x0.2)
 have hV0:=Fo x0 (List.mem_of_getElem? c0)
 obtain⟨q0,q1,q2,q3⟩:=ZZ 0 x0 c0
 simp only[Nat.zero_mul,Nat.add_zero] at q0 q1 q2 q3
 have lb:b<w.heap.size:=World.block_lt_of_cell? _ _ q0
 have Dw:=zA3 ZZ
 have HVEC:=zA3 Fo
 have HC:=zA3 hC
 clear ZZ Fo hC ha c0
 have Qm:=Lib.run_convert_bytes_const (P:=Tryz.prog) w 71 5 #[.int .u8 83,.int .u8 49] 2 2 Tryz.underlying71 Tryz.underlying5
 have H1:Hid (Calls Tryz.prog 56 #[.slice (some ⟨w.heap.size,0,none⟩) 2 2,.int .u64 (Cs.length:Int),.int .i64 1] (w.alloc (.cells #[.int .u8 83,.int .u8 49] 5 (2,3))) fun e w'=>∃v',e=.returned v'/\Hid (HB w w' v' (.slice none 0 0) ([83,49]++beL (Cs.length:Int) 1 1) [])):=by
  refine(zPv w.heap.size (Cs.length:Int) (w.alloc (.cells #[.int .u8 83,.int .u8 49] 5 (2,3))) (by rw[cell_of_row _ _ 0 _ 5 (2,3) (heap_alloc_last w _)];rfl) (by rw[cell_of_row _ _ 1 _ 5 (2,3) (heap_alloc_last w _)];rfl)).mono ?_
  rintro e w' ⟨v',he,ho,hb⟩
  exact⟨v',he,HB.start (zA1 (Below.refl _ _) _) ho hb⟩
 have H2:Hid (∀W v',Hid (HB w W v' (.slice none 0 0) ([83,49]++beL (Cs.length:Int) 1 1) [])->Calls Tryz.prog 56 #[v',.int .u64 (rows:Int),.int .i64 4] W fun e w'=>∃v',e=.returned v'/\Hid (HB w w' v' (.slice none 0 0) (zBc Cs.length rows) [])):=fun W v' h=>by
  have:=(zA0 h).num (rows:Int) 4 (by omega) (by simp[zAK])
  rwa [List.append_assoc] at this
 have hwn:IntKind.u64.wrap (Cs.length:Int)=(Cs.length:Int):=by rw[IntKind.wrap_u64,Int.emod_eq_of_lt (by omega) (by omega)]
 have hwr:IntKind.u64.wrap (rows:Int)=(rows:Int):=by rw[IntKind.wrap_u64,Int.emod_eq_of_lt (by omega) (by omega)]
 have He:(0:Int)<(Cs.length:Int):=by omega
 go_enter Tryz.func29,Tryz.ntmps29
 go_wp2_with (first | (go_at_call_of 56 (Value.int IntKind.u64 (Cs.length:Int));refine(zA0 H1).mono ?_;rintro _ w1 ⟨v1,rfl,Hb⟩;have r1:=cell_later (zA0 Hb).bel q0;have r2:=cell_later (zA0 Hb).bel q1;have r3:=cell_later (zA0 Hb).bel q2;have r4:=cell_later (zA0 Hb).bel q3) | (go_at_call 57;refine(zA0 JK _ (hV0.later (zA0 Hb).bel)).mono ?_;rintro _ w2 ⟨rfl,Hh⟩) | (go_at_call_of 56 (Value.int IntKind.u64 (rows:Int));refine(zA0 H2 _ _ ((zA0 Hb).later Hh)).mono ?_;rintro _ w3 ⟨v3,rfl,Hz⟩))
 have S3:Hid (HB w w3 v3 (.slice none 0 0) (zBc Cs.length rows++hdL []) (bdL [])):=by show HB _ _ _ _ _ _;simpa [hdL,bdL] using zA0 Hz
 clear Hb Hh Hz r1 r2 r3 r4 q0 q1 q2 q3 hV0 JK H1 H2 Qm
 go_loopw[3,4,26] (fun hv bv s wr=>∃(k:Nat) (ps:List (ByteArray×ByteArray)),s=.int .i64 (k:Int)/\k<=Cs.length/\Hid (HB w wr hv bv (zBc Cs.length rows++hdL ps) (bdL ps))/\Hid (Ps K zf (Cs.take k) ps)) (fun _ _ s _=>Cs.length-(intOf s).toNat)
 case atStart=>exact⟨0,[],rfl,by omega,S3,Ps.nil _ _⟩
 case round=>
  obtain⟨k,ps,rfl,hk,S,HP⟩:=hrel
  clear S3
  have Hf:(zBc Cs.length rows++hdL ps).length<=330000:=by
   have h1:=zL2 (zA0 HP).z
   have h2:ps.length<=32:=by have:=(zA0 HP).len;simp at this;omega
   have h3:(zBc Cs.length rows).length=7:=by simp[zBc,zAK]
   rw[zAX]
   omega
  have Zm:(bdL ps).length<=3200000000:=by
   have h1:=zLA (zA0 HP).s
   have h2:ps.length<=32:=by have:=(zA0 HP).len;simp at this;omega
   omega
  by_cases h1:k<Cs.length
  ·have i1:(k:Int)<(Cs.length:Int):=by omega
   have hx:=zAf h1
   generalize Cs[k]=x at hx
   have hm:=List.mem_of_getElem? hx
   have LX:=zA0 HC x hm
   obtain⟨q0,q1,q2,q3⟩:=(zA0 Dw k x hx).later (zA0 S).bel
   have HV:=zA3 ((zA0 HVEC x hm).later (zA0 S).bel)
   have HPK:Hid (∀W,Below wr.heap.size wr W->Calls Tryz.prog 58 #[.agg #[.int .i64 x.1.k,.slice x.2.a1 x.1.nl.length x.2.c1,.slice x.2.a2 x.1.ns.length x.2.c2,.slice x.2.a3 x.1.ss.length x.2.c3]] W fun e w'=>∃s,e=.returned (.tuple #[.string s,.int .i64 0])/\Hid (K x.1 s)/\Below W.heap.size W w'):=fun W hW=>LX.pk x.2 W ((zA0 HV).later hW)
   have HZ:=zA3 LX.zo
   have GJ:=zA3 LX.sz
   have yr:=LX.zz
   have HX:=zA3 hx
   have hwz:IntKind.u64.wrap ((zf x.1).size:Int)=((zf x.1).size:Int):=by rw[IntKind.wrap_u64,Int.emod_eq_of_lt (by omega) (by omega)]
   clear hx LX hm
   go_wp2_with (first
    | (go_at_call 58;refine(zA0 HPK _ (zA1 (Below.refl _ _) _)).mono ?_;rintro _ w4 ⟨s,rfl,hk4,Qe⟩;have yB:=zA0 GJ s (zA0 hk4);have hws:IntKind.u64.wrap (s.size:Int)=(s.size:Int):=(by rw[IntKind.wrap_u64,Int.emod_eq_of_lt (by omega) (by omega)]))
    | (go_at_call 59;refine(zA0 HZ s w4 (zA0 hk4)).mono ?_;rintro _ w5 ⟨rfl,QO⟩;have S5:=zA3 ((((zA0 S).later (zA1 (Below.refl _ _) _)).later Qe).later QO))
    | (go_at_call_of 56 (Value.int IntKind.i64 2);refine((zA0 S5).num ((zf x.1).size:Int) 2 (by omega) (by omega)).mono ?_;rintro _ w6 ⟨v6,rfl,S6⟩)
    | (go_at_call_of 56 (Value.int IntKind.i64 4);refine((zA0 S7).num (s.size:Int) 4 (by omega) (by rw[zAX,zAX,zAK,zDj];omega)).mono ?_;rintro _ w8 ⟨v8,rfl,S8⟩)
    | (at_builtin;refine zDV rfl (.tmp 42) (.tmp 43) rfl w.heap.size v6 _ (zf x.1) rfl rfl (zA0 S6).h (by rw[zAX,zAK];omega) (zA0 S6).bel.size ?_;intro v7 w7 TH hg7;have S7:=zA3 ((zA0 S6).head TH hg7))
    | (at_builtin;refine zDV rfl (.tmp 50) (.tmp 51) rfl w.heap.size u4 _ s rfl rfl (zA0 S8).b (by omega) (zA0 S8).bel.size ?_;intro v9 w9 ho9 hg9;have S9:=zA3 ((zA0 S8).body ho9 hg9)))
   refine⟨⟨k+1,ps++[(zf x.1,s)],by go_num,by omega,?_,(zA0 HP).snoc (zA0 HX) (zA0 hk4) yr yB⟩,?_⟩
   ·show HB _ _ _ _ _ _
    rw[zLs,zMB]
    have:=zA0 S9
    simpa only[hd1,List.append_assoc] using this
   ·first | (simp[intOf];omega) | (simp only[intOf];omega)
  ·have i1:¬(k:Int)<(Cs.length:Int):=by omega
   have Zj:k=Cs.length:=by omega
   have HPF:Hid (Ps K zf Cs ps):=by show Ps _ _ _ _;have:=zA0 HP;rwa [Zj,List.take_length] at this
   have HSE:Hid (∀W,Calls Tryz.prog 60 #[.string (toB ((zBc Cs.length rows++hdL ps)++bdL ps))] W fun e w'=>e=.returned (.string (zJJ Cs.length rows ps))/\Below W.heap.size W w'):=fun W=>zHW _ (by rw[zAN,zAX];omega) W
   clear Zj
   go_wp2_with (first
    | (at_builtin;refine zDM _ rfl (.tmp 54) (.tmp 55) rfl w.heap.size w.heap.size u3 u4 _ _ rfl rfl (zA0 S).h (zA0 S).b (by omega) (zA0 S).bel.size ?_;intro v4 w4 ya Yh;have hcv4:=zAe ya;have Qe:=(zA0 S).bel.trans (Yh.below (zA0 S).bel.size (fun g hh=>(zBN (zA0 S).h hh).1)))
    | (go_at_call 60;refine(zA0 HSE _).mono ?_;rintro _ w5 ⟨rfl,QO⟩))
   go_ret
   exact⟨ps,rfl,HPF,Qe.trans (QO.mono Qe.size)⟩
set_option maxHeartbeats 1000000
def zUT(s:ByteArray)(L G:Val)(N:Nat):Prop:=∀W,Calls Tryz.prog 79 #[.string s] W fun e w'=>e=.returned (.tuple #[L.v,G.v,.int .i64 (N:Int),.int .i64 0])/\Below W.heap.size W w'
def zJ3(L G:Val)(N:Nat):ByteArray:=toB (zGE [L,G,Val.num (N:Int)])
theorem zJB(w:World)(L G:Val)(N:Int):zAR (w.alloc (.cells #[.int .i64 L.k,.int .i64 L.n,.string L.s,.int .i64 G.k,.int .i64 G.n,.string G.s,.int .i64 1,.int .i64 N,.string ⟨#[]⟩] 59)) (some ⟨w.heap.size,0,none⟩) [L,G,Val.num N]:=by
 refine .inr ⟨_,_,rfl,fun i x hx=>?_⟩
 match i,hx with
 | 0,hx=>simp at hx;subst hx;exact⟨by simp[go_sem],by simp[go_sem],by simp[go_sem]⟩
 | 1,hx=>simp at hx;subst hx;exact⟨by simp[go_sem],by simp[go_sem],by simp[go_sem]⟩
 | 2,hx=>simp at hx;subst hx;exact⟨by simp[go_sem,Val.num],by simp[go_sem,Val.num],by simp[go_sem,Val.num]⟩
 | i+3,hx=>simp at hx
theorem zHS{L G:Val}(N:Int)(hL:L.s.size<=1000000)(hG:G.s.size<=1000000):zF8 [L,G,Val.num N]<=140737488300000:=by
 have e:(Val.num N).s.size=0:=rfl
 simp only[zF8,zNt,List.map_cons,List.map_nil,List.sum_cons,List.sum_nil,e]
 omega
theorem zQZ(s:ByteArray)(L G:Val)(N:Nat)(h:zUT s L G N)(hL:L.s.size<=1000000)(hG:G.s.size<=1000000)(w:World) :
  Calls Tryz.prog 59 #[.string s] w fun e w'=>e=.returned (.string (zJ3 L G N))/\Below w.heap.size w w':=by
 have H:=zA3 h
 clear h
 have HK:Hid (∀W0:World,Calls Tryz.prog 80 #[.slice (some ⟨W0.heap.size+1+1,0,none⟩) 3 3] (((W0.alloc (.cells #[.int .i64 L.k,.int .i64 L.n,.string L.s] 59)).alloc (.cells #[.int .i64 G.k,.int .i64 G.n,.string G.s] 59)).alloc (.cells #[.int .i64 L.k,.int .i64 L.n,.string L.s,.int .i64 G.k,.int .i64 G.n,.string G.s,.int .i64 1,.int .i64 (N:Int),.string ⟨#[]⟩] 59)) fun e w'=>e=.returned (.string (zJ3 L G N))/\Below W0.heap.size W0 w'):=fun W0=>by
  have hb:Below W0.heap.size W0 ((W0.alloc (.cells #[.int .i64 L.k,.int .i64 L.n,.string L.s] 59)).alloc (.cells #[.int .i64 G.k,.int .i64 G.n,.string G.s] 59)):=zA1 (zA1 (Below.refl _ _) _) _
  have hz:((W0.alloc (.cells #[.int .i64 L.k,.int .i64 L.n,.string L.s] 59)).alloc (.cells #[.int .i64 G.k,.int .i64 G.n,.string G.s] 59)).heap.size=W0.heap.size+1+1:=by simp
  have hr:=zJB ((W0.alloc (.cells #[.int .i64 L.k,.int .i64 L.n,.string L.s] 59)).alloc (.cells #[.int .i64 G.k,.int .i64 G.n,.string G.s] 59)) L G (N:Int)
  rw[hz] at hr
  refine(zTS (some ⟨W0.heap.size+1+1,0,none⟩) 3 [L,G,Val.num (N:Int)] _ (by unfold maxLen;simp) (zHS _ hL hG) hr).mono ?_
  rintro e w' ⟨rfl,hw⟩
  exact⟨rfl,(zA1 hb _).trans (hw.mono (by simp;omega))⟩
 go_enter Tryz.func59,Tryz.ntmps59
 go_wp2_with (first | (go_at_call 79;refine(zA0 H _).mono ?_;rintro _ w1 ⟨rfl,Hb⟩;rw[L.open_,G.open_]) | (go_at_call 80;refine(zA0 HK w1).mono ?_;rintro _ w2 ⟨rfl,Hh⟩))
 go_ret
 exact⟨rfl,Hb.trans (Hh.mono Hb.size)⟩
end Go.Proofs.YtekgpapophibcaaGreat
