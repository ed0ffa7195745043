import Derived.Lib.SlBytesConst
import Derived.ArgAppend
import Derived.Test.YtbfibfmnemnbbaaGreatQSgC
set_option linter.unusedSimpArgs false
set_option linter.unusedVariables false
set_option maxHeartbeats 4000000
set_option maxRecDepth 100000
namespace Go.Proofs.YtbfibfmnemnbbaaGreat
open Go.RowKit Go.Sort
structure ColLaw(K:Vc->ByteArray->Prop)(zf:Vc->ByteArray)(rows:Nat)(X:Vc):Prop where
 pk:∀p W,VecAt W X p->Calls Tryz.prog 40 #[vecV X p] W fun e w'=>∃s,e=.returned (.tuple #[.string s,.int .i64 0])/\Hid (K X s)/\Below W.heap.size W w'
 zo:∀s W,K X s->Calls Tryz.prog 41 #[.string s] W fun e w'=>e=.returned (.string (zf X))/\Below W.heap.size W w'
 ln:∀p W,VecAt W X p->Calls Tryz.prog 39 #[vecV X p] W fun e w'=>e=.returned (.int .i64 (rows:Int))/\Below W.heap.size W w'
 sz:∀s,K X s->s.size<=100000000
 zz:(zf X).size<=10000
theorem ownB_less{w:World}{b b':Nat}{v:Value}{zs:List Int}(hb:b'<=b)(h:w.ownsRow b 5 1 v zs.length (zs.map (Value.int .u8))):OwnB w b' v zs:=by
 refine⟨h.1,?_⟩
 rcases h.2 with h|⟨g,cap,cur,hv,hg,rest⟩
 ·exact .inl h
 ·exact .inr ⟨g,cap,cur,hv,Nat.le_trans hb hg,rest⟩
theorem front_num(g:Nat)(U:Int)(w:World)(h0:w.cell? ⟨g,0,none⟩=some (.int .u8 83))(h1:w.cell? ⟨g,1,none⟩=some (.int .u8 49)) :
  Calls Tryz.prog 38 #[.slice (some ⟨g,0,none⟩) 2 2,.int .u64 U,.int .i64 1] w fun e w'=>∃v',e=.returned v'/\OwnB w' w.heap.size v' ([83,49]++beL U 1 1)/\Below w.heap.size w w':=by
 obtain⟨i0,hi,hz0,hz1,hz2⟩:=info_parts Tryz.info5
 have lg:g<w.heap.size:=World.block_lt_of_cell? _ _ h0
 go_enter Tryz.func38,Tryz.ntmps38
 go_wp2_with fail
 go_loopw[0,9] (fun key s wr=>(s=.int .i64 0/\key=.slice (some ⟨g,0,none⟩) 2 2/\wr=w)∨(s=.int .i64 1/\OwnB wr w.heap.size key ([83,49]++beL U 1 1)/\Below w.heap.size w wr)) (fun _ s _=>1-(intOf s).toNat)
 case atStart=>exact .inl ⟨rfl,rfl,rfl⟩
 case round=>
  rcases hrel with ⟨rfl,rfl,rfl⟩|⟨rfl,ho,hb⟩
  ·have hA:∀j u,[Value.int .u8 83,.int .u8 49][j]?=some u->(wr.alloc (.cells #[.int .u8 (U % 256)] 5)).cell? ((⟨g,0,none⟩:Addr).add j)=some u:=by
    intro j u hu
    match j,hu with
    | 0,hu=>simp at hu;subst hu;exact cell_later (below_alloc (Below.refl _ _) _) h0
    | 1,hu=>simp at hu;subst hu;exact cell_later (below_alloc (Below.refl _ _) _) h1
    | j+2,hu=>simp at hu
   go_wp2_with (at_builtin;refine wpList_append_grows _ rfl (.tmp 12) (.tmp 21) 82 rfl 5 i0 (.int .u8 0) 1 1 Tryz.underlying82 hi hz0 hz1 hz2 rfl (by decide) (some ⟨g,0,none⟩) 2 2 [.int .u8 83,.int .u8 49] rfl (fun e=>by cases e) rfl (fun b e=>by cases e;exact hA) ⟨wr.heap.size,0,none⟩ 1 1 [.int .u8 (U % 256)] rfl rfl (cell_one_new _ _ _) (by intro u hu;simp at hu;subst hu;rfl) (by decide) (by unfold maxLen;decide) (by decide) ?_;intro v' w1 hown' hgrow)
   have e1:beL U 1 1=[U % 256]:=by simp[beL,beN]
   have ho:OwnB w1 wr.heap.size v' ([83,49]++beL U 1 1):=by
    rw[e1]
    refine ownB_less ?_ hown'
    simp
   have hb:Below wr.heap.size wr w1:=(below_alloc (Below.refl _ _) _).grown hgrow (by simp) (fun k e=>by cases e)
   exact⟨.inr ⟨rfl,ho,hb⟩,by simp[intOf]⟩
  ·go_wp2
   go_ret
   exact⟨_,rfl,ho,hb⟩
theorem HB.start{w w1 w2:World}{v:Value}{hs:List Int}(hb1:Below w.heap.size w w1)(ho:OwnB w2 w1.heap.size v hs)(hb2:Below w1.heap.size w1 w2):HB w w2 v (.slice none 0 0) hs []:=by
 exact⟨ownB_less hb1.size ho,World.ownsRow_nil _ _ _ _,fun g h=>(by cases h),hb1.trans (hb2.mono hb1.size)⟩
theorem HB.num{w0 w:World}{hv bv:Value}{hs bs:List Int}(h:HB w0 w hv bv hs bs)(U:Int)(n:Nat)(hn:n<=8)(hl:hs.length<=1000000) :
  Calls Tryz.prog 38 #[hv,.int .u64 U,.int .i64 (n:Int)] w fun e w'=>∃v',e=.returned v'/\Hid (HB w0 w' v' bv (hs++beL U n n) bs):=
 (sapp_any w0.heap.size hs U n hv w hn h.h (by omega) h.bel.size).mono fun e w' ⟨v',he,ho,hg⟩=>⟨v',he,h.head ho hg⟩
theorem swritten_any(K:Vc->ByteArray->Prop)(zf:Vc->ByteArray)(rows:Nat)(hr:rows<=4096)(a:Option Addr)(c:Nat)(Cs:List (Vc×Sl))(w:World)(hn:1<=Cs.length)(hn2:Cs.length<=32)(hC:∀x∈Cs,ColLaw K zf rows x.1)(ha:ColsAt w a Cs) :
  Calls Tryz.prog 20 #[.slice a Cs.length c] w fun e w'=>∃ps,e=.returned (.string (segB Cs.length rows ps))/\Hid (Ps K zf Cs ps)/\Below w.heap.size w w':=by
 obtain⟨b,off,rfl,hcol⟩:∃b off,a=some ⟨b,off,none⟩/\∀i c,Cs[i]?=some c->ColAt w b (off+i*4) c.1 c.2:=by
  rcases ha.1 with e|h
  ·subst e;simp at hn
  ·exact h
 have hvec:=ha.2
 have c0:=List.getElem?_eq_getElem (l:=Cs) (i:=0) (by omega)
 generalize Cs[0]=x0 at c0
 have HL0:=hide ((hC x0 (List.mem_of_getElem? c0)).ln x0.2)
 have hV0:=hvec x0 (List.mem_of_getElem? c0)
 obtain⟨q0,q1,q2,q3⟩:=hcol 0 x0 c0
 simp only[Nat.zero_mul,Nat.add_zero] at q0 q1 q2 q3
 have lb:b<w.heap.size:=World.block_lt_of_cell? _ _ q0
 have HCOL:=hide hcol
 have HVEC:=hide hvec
 have HC:=hide hC
 clear hcol hvec hC ha c0
 have hcv:=Lib.run_convert_bytes_const (P:=Tryz.prog) w 82 5 #[.int .u8 83,.int .u8 49] 2 2 Tryz.underlying82 Tryz.underlying5
 have H1:Hid (Calls Tryz.prog 38 #[.slice (some ⟨w.heap.size,0,none⟩) 2 2,.int .u64 (Cs.length:Int),.int .i64 1] (w.alloc (.cells #[.int .u8 83,.int .u8 49] 5 (2,3))) fun e w'=>∃v',e=.returned v'/\Hid (HB w w' v' (.slice none 0 0) ([83,49]++beL (Cs.length:Int) 1 1) [])):=by
  refine(front_num w.heap.size (Cs.length:Int) (w.alloc (.cells #[.int .u8 83,.int .u8 49] 5 (2,3))) (by rw[cell_of_row _ _ 0 _ 5 (2,3) (heap_alloc_last w _)];rfl) (by rw[cell_of_row _ _ 1 _ 5 (2,3) (heap_alloc_last w _)];rfl)).mono ?_
  rintro e w' ⟨v',he,ho,hb⟩
  exact⟨v',he,HB.start (below_alloc (Below.refl _ _) _) ho hb⟩
 have H2:Hid (∀W v',Hid (HB w W v' (.slice none 0 0) ([83,49]++beL (Cs.length:Int) 1 1) [])->Calls Tryz.prog 38 #[v',.int .u64 (rows:Int),.int .i64 4] W fun e w'=>∃v',e=.returned v'/\Hid (HB w w' v' (.slice none 0 0) (frontL Cs.length rows) [])):=fun W v' h=>by
  have:=(unhide h).num (rows:Int) 4 (by omega) (by simp[beL_len])
  rwa [List.append_assoc] at this
 have hwn:IntKind.u64.wrap (Cs.length:Int)=(Cs.length:Int):=by rw[IntKind.wrap_u64,Int.emod_eq_of_lt (by omega) (by omega)]
 have hwr:IntKind.u64.wrap (rows:Int)=(rows:Int):=by rw[IntKind.wrap_u64,Int.emod_eq_of_lt (by omega) (by omega)]
 have hlt:(0:Int)<(Cs.length:Int):=by omega
 go_enter Tryz.func20,Tryz.ntmps20
 go_wp2_with (first | (go_at_call_of 38 (Value.int IntKind.u64 (Cs.length:Int));refine(unhide H1).mono ?_;rintro _ w1 ⟨v1,rfl,hb1⟩;have r1:=cell_later (unhide hb1).bel q0;have r2:=cell_later (unhide hb1).bel q1;have r3:=cell_later (unhide hb1).bel q2;have r4:=cell_later (unhide hb1).bel q3) | (go_at_call 39;refine(unhide HL0 _ (hV0.later (unhide hb1).bel)).mono ?_;rintro _ w2 ⟨rfl,hb2⟩) | (go_at_call_of 38 (Value.int IntKind.u64 (rows:Int));refine(unhide H2 _ _ ((unhide hb1).later hb2)).mono ?_;rintro _ w3 ⟨v3,rfl,hb3⟩))
 have S3:Hid (HB w w3 v3 (.slice none 0 0) (frontL Cs.length rows++hdL []) (bdL [])):=by show HB _ _ _ _ _ _;simpa [hdL,bdL] using unhide hb3
 clear hb1 hb2 hb3 r1 r2 r3 r4 q0 q1 q2 q3 hV0 HL0 H1 H2 hcv
 go_loopw[3,4,26] (fun hv bv s wr=>∃(k:Nat) (ps:List (ByteArray×ByteArray)),s=.int .i64 (k:Int)/\k<=Cs.length/\Hid (HB w wr hv bv (frontL Cs.length rows++hdL ps) (bdL ps))/\Hid (Ps K zf (Cs.take k) ps)) (fun _ _ s _=>Cs.length-(intOf s).toNat)
 case atStart=>exact⟨0,[],rfl,by omega,S3,Ps.nil _ _⟩
 case round=>
  obtain⟨k,ps,rfl,hk,S,HP⟩:=hrel
  clear S3
  have hlen:(frontL Cs.length rows++hdL ps).length<=330000:=by
   have h1:=hdL_len (unhide HP).z
   have h2:ps.length<=32:=by have:=(unhide HP).len;simp at this;omega
   have h3:(frontL Cs.length rows).length=7:=by simp[frontL,beL_len]
   rw[List.length_append]
   omega
  have hbl:(bdL ps).length<=3200000000:=by
   have h1:=bdL_len (unhide HP).s
   have h2:ps.length<=32:=by have:=(unhide HP).len;simp at this;omega
   omega
  by_cases h1:k<Cs.length
  ·have i1:(k:Int)<(Cs.length:Int):=by omega
   have hx:=List.getElem?_eq_getElem h1
   generalize Cs[k]=x at hx
   have hm:=List.mem_of_getElem? hx
   have LX:=unhide HC x hm
   obtain⟨q0,q1,q2,q3⟩:=(unhide HCOL k x hx).later (unhide S).bel
   have HV:=hide ((unhide HVEC x hm).later (unhide S).bel)
   have HPK:Hid (∀W,Below wr.heap.size wr W->Calls Tryz.prog 40 #[.agg #[.int .i64 x.1.k,.slice x.2.a1 x.1.nl.length x.2.c1,.slice x.2.a2 x.1.ns.length x.2.c2,.slice x.2.a3 x.1.ss.length x.2.c3]] W fun e w'=>∃s,e=.returned (.tuple #[.string s,.int .i64 0])/\Hid (K x.1 s)/\Below W.heap.size W w'):=fun W hW=>LX.pk x.2 W ((unhide HV).later hW)
   have HZ:=hide LX.zo
   have HSZ:=hide LX.sz
   have hzz:=LX.zz
   have HX:=hide hx
   have hwz:IntKind.u64.wrap ((zf x.1).size:Int)=((zf x.1).size:Int):=by rw[IntKind.wrap_u64,Int.emod_eq_of_lt (by omega) (by omega)]
   clear hx LX hm
   go_wp2_with (first
    | (go_at_call 40;refine(unhide HPK _ (below_alloc (Below.refl _ _) _)).mono ?_;rintro _ w4 ⟨s,rfl,hk4,hb4⟩;have hss:=unhide HSZ s (unhide hk4);have hws:IntKind.u64.wrap (s.size:Int)=(s.size:Int):=(by rw[IntKind.wrap_u64,Int.emod_eq_of_lt (by omega) (by omega)]))
    | (go_at_call 41;refine(unhide HZ s w4 (unhide hk4)).mono ?_;rintro _ w5 ⟨rfl,hb5⟩;have S5:=hide ((((unhide S).later (below_alloc (Below.refl _ _) _)).later hb4).later hb5))
    | (go_at_call_of 38 (Value.int IntKind.i64 2);refine((unhide S5).num ((zf x.1).size:Int) 2 (by omega) (by omega)).mono ?_;rintro _ w6 ⟨v6,rfl,S6⟩)
    | (go_at_call_of 38 (Value.int IntKind.i64 4);refine((unhide S7).num (s.size:Int) 4 (by omega) (by rw[List.length_append,List.length_append,beL_len,txt_len];omega)).mono ?_;rintro _ w8 ⟨v8,rfl,S8⟩)
    | (at_builtin;refine wpList_append_txt rfl (.tmp 42) (.tmp 43) rfl w.heap.size v6 _ (zf x.1) rfl rfl (unhide S6).h (by rw[List.length_append,beL_len];omega) (unhide S6).bel.size ?_;intro v7 w7 ho7 hg7;have S7:=hide ((unhide S6).head ho7 hg7))
    | (at_builtin;refine wpList_append_txt rfl (.tmp 50) (.tmp 51) rfl w.heap.size u4 _ s rfl rfl (unhide S8).b (by omega) (unhide S8).bel.size ?_;intro v9 w9 ho9 hg9;have S9:=hide ((unhide S8).body ho9 hg9)))
   refine⟨⟨k+1,ps++[(zf x.1,s)],by go_num,by omega,?_,(unhide HP).snoc (unhide HX) (unhide hk4) hzz hss⟩,?_⟩
   ·show HB _ _ _ _ _ _
    rw[hdL_snoc,bdL_snoc]
    have:=unhide S9
    simpa only[hd1,List.append_assoc] using this
   ·first | (simp[intOf];omega) | (simp only[intOf];omega)
  ·have i1:¬(k:Int)<(Cs.length:Int):=by omega
   have hkn:k=Cs.length:=by omega
   have HPF:Hid (Ps K zf Cs ps):=by show Ps _ _ _ _;have:=unhide HP;rwa [hkn,List.take_length] at this
   have HSE:Hid (∀W,Calls Tryz.prog 42 #[.string (toB ((frontL Cs.length rows++hdL ps)++bdL ps))] W fun e w'=>e=.returned (.string (segB Cs.length rows ps))/\Below W.heap.size W w'):=fun W=>sealed_any _ (by rw[toB_size,List.length_append];omega) W
   clear hkn
   go_wp2_with (first
    | (at_builtin;refine wpList_append_rows _ rfl (.tmp 54) (.tmp 55) rfl w.heap.size w.heap.size u3 u4 _ _ rfl rfl (unhide S).h (unhide S).b (by omega) (unhide S).bel.size ?_;intro v4 w4 ho4 hg4;have hcv4:=convert_own ho4;have hb4:=(unhide S).bel.trans (hg4.below (unhide S).bel.size (fun g hh=>(ownB_lt (unhide S).h hh).1)))
    | (go_at_call 42;refine(unhide HSE _).mono ?_;rintro _ w5 ⟨rfl,hb5⟩))
   go_ret
   exact⟨ps,rfl,HPF,hb4.trans (hb5.mono hb4.size)⟩
end Go.Proofs.YtbfibfmnemnbbaaGreat
set_option linter.unusedSimpArgs false
set_option linter.unusedVariables false
set_option maxHeartbeats 400000
set_option maxRecDepth 100000
namespace Go.Proofs.YtbfibfmnemnbbaaGreat
open Go.RowKit Go.Sort
theorem lis_get{w:World}{a:Option Addr}{cs:List Value}{k:Nat}{v:Value}(h:LisAt w a cs)(hv:cs[k]?=some v):∃b o,a=some ⟨b,o,none⟩/\w.cell? ⟨b,o+k,none⟩=some v:=by
 rcases h with h|⟨b,o,e,h⟩
 ·subst h;simp at hv
 ·exact⟨b,o,e,h k v hv⟩
theorem row_get{w:World}{a:Option Addr}{xs:List Val}{k:Nat}{x:Val}(h:RowAt w a xs)(hv:xs[k]?=some x):∃b o,a=some ⟨b,o,none⟩/\w.cell? ⟨b,o+k*3,none⟩=some (.int .i64 x.k)/\w.cell? ⟨b,o+k*3+1,none⟩=some (.int .i64 x.n)/\w.cell? ⟨b,o+k*3+2,none⟩=some (.string x.s):=by
 rcases h with h|⟨b,o,e,h⟩
 ·subst h;simp at hv
 ·exact⟨b,o,e,h k x hv⟩
theorem rows_get{w:World}{a:Option Addr}{rs:List (List Val)}{k:Nat}{r:List Val}(h:RowsAt w a rs)(hv:rs[k]?=some r):∃b o,a=some ⟨b,o,none⟩/\∃ra rc,w.cell? ⟨b,o+k,none⟩=some (.slice ra r.length rc)/\RowAt w ra r:=by
 rcases h with h|⟨b,o,e,h⟩
 ·subst h;simp at hv
 ·exact⟨b,o,e,h k r hv⟩
def TestI(W:World)(F:Value)(p:Int->Bool):Prop:=∃n k,F=.func (.func n) #[] k/\(∀args w,(callFunc n args).run Tryz.prog w=.ok (.enter n args) w)/\∀(x:Int) (W':World),Below W.heap.size W W'->Calls Tryz.prog n (#[.int .i64 x]++k) W' fun r w'=>r=.returned (.bool (p x))/\Below W'.heap.size W' w'
theorem indexI_any(F:Value)(p:Int->Bool)(a:Option Addr)(c:Nat)(l:List Int)(w:World)(hl:l.length<=140737488355328)(ha:LisAt w a (l.map (Value.int .i64)) )(hF:TestI w F p) :
  Calls Tryz.prog 31 #[.slice a l.length c,F] w fun e w'=>∃r,e=.returned (.int .i64 r)/\Hid (decide (0<=r)=l.any p)/\Below w.heap.size w w':=by
 have HA:=hide ha
 obtain⟨nf,kf,rfl,ent,HP⟩:=hF
 have HC:=hide HP
 clear ha HP
 go_enter Tryz.func31,Tryz.ntmps31
 go_wp2_with fail
 go_loopw[8] (fun i wr=>∃k:Nat,k<=l.length/\i=.int .i64 (k:Int)/\Hid (∀i x,i<k->l[i]?=some x->p x=false)/\Below w.heap.size w wr) (fun i _=>l.length-(intOf i).toNat)
 case atStart=>exact⟨0,Nat.zero_le _,rfl,fun i x hi=>absurd hi (by omega),Below.refl _ _⟩
 case round=>
  obtain⟨k,hk,rfl,HN,hb⟩:=hrel
  by_cases hlt:k<l.length
  ·have h9:(k:Int)<(l.length:Int):=by omega
   obtain⟨x,hx⟩:∃x,l[k]?=some x:=⟨_,List.getElem?_eq_getElem hlt⟩
   obtain⟨vb,vo,ea,hat⟩:=lis_get ((unhide HA).later hb) (show (l.map (Value.int .i64))[k]?=some (.int .i64 x) by simp[hx])
   have HX:=hide (unhide HC x wr hb)
   subst ea
   have HB:=hide hb
   clear hb
   cases hp:p x
   ·have HE:Hid (∀i y,i<k+1->l[i]?=some y->p y=false):=fun i y hi hy=>by
     by_cases e:i=k
     ·subst e;rw[hx] at hy;injection hy with hy;rw[<-hy];exact hp
     ·exact unhide HN i y (by omega) hy
    rw[hp] at HX
    clear hx HN hp
    go_wp2_with (refine(unhide HX).mono ?_;rintro r w1 ⟨rfl,hb1⟩)
    exact⟨⟨k+1,by omega,by go_num,HE,below_step (unhide HB) hb1⟩,by simp[intOf];omega⟩
   ·have HE:Hid (decide ((0:Int)<=(k:Int))=l.any p):=by
     show _=_
     rw[List.any_eq_true.2 ⟨x,List.mem_of_getElem? hx,hp⟩]
     simp
    rw[hp] at HX
    clear hx HN hp
    go_wp2_with (refine(unhide HX).mono ?_;rintro r w1 ⟨rfl,hb1⟩)
    go_ret
    exact⟨_,rfl,HE,below_step (unhide HB) hb1⟩
  ·have h9:¬(k:Int)<(l.length:Int):=by omega
   have HE:Hid (decide ((0:Int)<=-1)=l.any p):=by
    show _=_
    rw[List.any_eq_false.2 fun x hx=>by
     obtain⟨i,hi,e⟩:=List.mem_iff_getElem.1 hx
     rw[unhide HN i x (by omega) (by rw[List.getElem?_eq_getElem hi,e])]
     simp]
    rfl
   have HB:=hide hb
   clear HN hb
   go_wp2
   go_ret
   exact⟨_,rfl,HE,unhide HB⟩
theorem containsI_any(F:Value)(p:Int->Bool)(a:Option Addr)(c:Nat)(l:List Int)(w:World)(hl:l.length<=140737488355328)(ha:LisAt w a (l.map (Value.int .i64)))(hF:TestI w F p) :
  Calls Tryz.prog 13 #[.slice a l.length c,F] w fun e w'=>e=.returned (.bool (l.any p))/\Below w.heap.size w w':=by
 have HI:=hide (indexI_any F p a c l w hl ha hF)
 clear ha
 generalize l.any p=r at *
 go_enter Tryz.func13,Tryz.ntmps13
 go_wp2_with (go_at_call 31;refine(unhide HI).mono ?_;rintro e w1 ⟨q,rfl,hq,hb⟩;have hq':=unhide hq)
 go_ret
 exact⟨by simp[hq'],hb⟩
def TestX(W:World)(F:Value)(p:Val->Bool):Prop:=∃n k,F=.func (.func n) #[] k/\(∀args w,(callFunc n args).run Tryz.prog w=.ok (.enter n args) w)/\∀(x:Val) (W':World),Below W.heap.size W W'->Calls Tryz.prog n (#[x.v]++k) W' fun r w'=>r=.returned (.bool (p x))/\Below W'.heap.size W' w'
theorem indexX_any(F:Value)(p:Val->Bool)(a:Option Addr)(c:Nat)(l:List Val)(w:World)(hl:l.length<=140737488355328)(ha:RowAt w a l )(hF:TestX w F p) :
  Calls Tryz.prog 61 #[.slice a l.length c,F] w fun e w'=>∃r,e=.returned (.int .i64 r)/\Hid (decide (0<=r)=l.any p)/\Below w.heap.size w w':=by
 have HA:=hide ha
 obtain⟨nf,kf,rfl,ent,HP⟩:=hF
 have HC:=hide HP
 clear ha HP
 go_enter Tryz.func61,Tryz.ntmps61
 go_wp2_with fail
 go_loopw[8] (fun i wr=>∃k:Nat,k<=l.length/\i=.int .i64 (k:Int)/\Hid (∀i x,i<k->l[i]?=some x->p x=false)/\Below w.heap.size w wr) (fun i _=>l.length-(intOf i).toNat)
 case atStart=>exact⟨0,Nat.zero_le _,rfl,fun i x hi=>absurd hi (by omega),Below.refl _ _⟩
 case round=>
  obtain⟨k,hk,rfl,HN,hb⟩:=hrel
  by_cases hlt:k<l.length
  ·have h9:(k:Int)<(l.length:Int):=by omega
   obtain⟨x,hx⟩:∃x,l[k]?=some x:=⟨_,List.getElem?_eq_getElem hlt⟩
   obtain⟨vb,vo,ea,d0,d1,d2⟩:=row_get ((unhide HA).later hb) hx
   have HX:=hide (unhide HC x wr hb)
   rw[x.open_] at HX
   subst ea
   have HB:=hide hb
   clear hb
   cases hp:p x
   ·have HE:Hid (∀i y,i<k+1->l[i]?=some y->p y=false):=fun i y hi hy=>by
     by_cases e:i=k
     ·subst e;rw[hx] at hy;injection hy with hy;rw[<-hy];exact hp
     ·exact unhide HN i y (by omega) hy
    rw[hp] at HX
    clear hx HN hp
    go_wp2_with (refine(unhide HX).mono ?_;rintro r w1 ⟨rfl,hb1⟩)
    exact⟨⟨k+1,by omega,by go_num,HE,below_step (unhide HB) hb1⟩,by simp[intOf];omega⟩
   ·have HE:Hid (decide ((0:Int)<=(k:Int))=l.any p):=by
     show _=_
     rw[List.any_eq_true.2 ⟨x,List.mem_of_getElem? hx,hp⟩]
     simp
    rw[hp] at HX
    clear hx HN hp
    go_wp2_with (refine(unhide HX).mono ?_;rintro r w1 ⟨rfl,hb1⟩)
    go_ret
    exact⟨_,rfl,HE,below_step (unhide HB) hb1⟩
  ·have h9:¬(k:Int)<(l.length:Int):=by omega
   have HE:Hid (decide ((0:Int)<=-1)=l.any p):=by
    show _=_
    rw[List.any_eq_false.2 fun x hx=>by
     obtain⟨i,hi,e⟩:=List.mem_iff_getElem.1 hx
     rw[unhide HN i x (by omega) (by rw[List.getElem?_eq_getElem hi,e])]
     simp]
    rfl
   have HB:=hide hb
   clear HN hb
   go_wp2
   go_ret
   exact⟨_,rfl,HE,unhide HB⟩
theorem containsX_any(F:Value)(p:Val->Bool)(a:Option Addr)(c:Nat)(l:List Val)(w:World)(hl:l.length<=140737488355328)(ha:RowAt w a l)(hF:TestX w F p) :
  Calls Tryz.prog 33 #[.slice a l.length c,F] w fun e w'=>e=.returned (.bool (l.any p))/\Below w.heap.size w w':=by
 have HI:=hide (indexX_any F p a c l w hl ha hF)
 clear ha
 generalize l.any p=r at *
 go_enter Tryz.func33,Tryz.ntmps33
 go_wp2_with (go_at_call 61;refine(unhide HI).mono ?_;rintro e w1 ⟨q,rfl,hq,hb⟩;have hq':=unhide hq)
 go_ret
 exact⟨by simp[hq'],hb⟩
def TestR(W:World)(F:Value)(p:List Val->Bool)(l:List (List Val)):Prop:=∃n k,F=.func (.func n) #[] k/\(∀args w,(callFunc n args).run Tryz.prog w=.ok (.enter n args) w)/\∀(x:List Val) (a':Option Addr) (c':Nat) (W':World),x∈l->Below W.heap.size W W'->RowAt W' a' x->Calls Tryz.prog n (#[.slice a' x.length c']++k) W' fun r w'=>r=.returned (.bool (p x))/\Below W'.heap.size W' w'
theorem indexR_any(F:Value)(p:List Val->Bool)(a:Option Addr)(c:Nat)(l:List (List Val))(w:World)(hl:l.length<=140737488355328)(ha:RowsAt w a l )(hF:TestR w F p l) :
  Calls Tryz.prog 32 #[.slice a l.length c,F] w fun e w'=>∃r,e=.returned (.int .i64 r)/\Hid (decide (0<=r)=l.any p)/\Below w.heap.size w w':=by
 have HA:=hide ha
 obtain⟨nf,kf,rfl,ent,HP⟩:=hF
 have HC:=hide HP
 clear ha HP
 go_enter Tryz.func32,Tryz.ntmps32
 go_wp2_with fail
 go_loopw[8] (fun i wr=>∃k:Nat,k<=l.length/\i=.int .i64 (k:Int)/\Hid (∀i x,i<k->l[i]?=some x->p x=false)/\Below w.heap.size w wr) (fun i _=>l.length-(intOf i).toNat)
 case atStart=>exact⟨0,Nat.zero_le _,rfl,fun i x hi=>absurd hi (by omega),Below.refl _ _⟩
 case round=>
  obtain⟨k,hk,rfl,HN,hb⟩:=hrel
  by_cases hlt:k<l.length
  ·have h9:(k:Int)<(l.length:Int):=by omega
   obtain⟨x,hx⟩:∃x,l[k]?=some x:=⟨_,List.getElem?_eq_getElem hlt⟩
   obtain⟨vb,vo,ea,a',c',d0,hal⟩:=rows_get ((unhide HA).later hb) hx
   have HX:=hide (unhide HC x a' c' wr (List.mem_of_getElem? hx) hb hal)
   subst ea
   have HB:=hide hb
   clear hb
   cases hp:p x
   ·have HE:Hid (∀i y,i<k+1->l[i]?=some y->p y=false):=fun i y hi hy=>by
     by_cases e:i=k
     ·subst e;rw[hx] at hy;injection hy with hy;rw[<-hy];exact hp
     ·exact unhide HN i y (by omega) hy
    rw[hp] at HX
    clear hx HN hp
    go_wp2_with (refine(unhide HX).mono ?_;rintro r w1 ⟨rfl,hb1⟩)
    exact⟨⟨k+1,by omega,by go_num,HE,below_step (unhide HB) hb1⟩,by simp[intOf];omega⟩
   ·have HE:Hid (decide ((0:Int)<=(k:Int))=l.any p):=by
     show _=_
     rw[List.any_eq_true.2 ⟨x,List.mem_of_getElem? hx,hp⟩]
     simp
    rw[hp] at HX
    clear hx HN hp
    go_wp2_with (refine(unhide HX).mono ?_;rintro r w1 ⟨rfl,hb1⟩)
    go_ret
    exact⟨_,rfl,HE,below_step (unhide HB) hb1⟩
  ·have h9:¬(k:Int)<(l.length:Int):=by omega
   have HE:Hid (decide ((0:Int)<=-1)=l.any p):=by
    show _=_
    rw[List.any_eq_false.2 fun x hx=>by
     obtain⟨i,hi,e⟩:=List.mem_iff_getElem.1 hx
     rw[unhide HN i x (by omega) (by rw[List.getElem?_eq_getElem hi,e])]
     simp]
    rfl
   have HB:=hide hb
   clear HN hb
   go_wp2
   go_ret
   exact⟨_,rfl,HE,unhide HB⟩
theorem containsR_any(F:Value)(p:List Val->Bool)(a:Option Addr)(c:Nat)(l:List (List Val))(w:World)(hl:l.length<=140737488355328)(ha:RowsAt w a l)(hF:TestR w F p l) :
  Calls Tryz.prog 15 #[.slice a l.length c,F] w fun e w'=>e=.returned (.bool (l.any p))/\Below w.heap.size w w':=by
 have HI:=hide (indexR_any F p a c l w hl ha hF)
 clear ha
 generalize l.any p=r at *
 go_enter Tryz.func15,Tryz.ntmps15
 go_wp2_with (go_at_call 32;refine(unhide HI).mono ?_;rintro e w1 ⟨q,rfl,hq,hb⟩;have hq':=unhide hq)
 go_ret
 exact⟨by simp[hq'],hb⟩
end Go.Proofs.YtbfibfmnemnbbaaGreat
