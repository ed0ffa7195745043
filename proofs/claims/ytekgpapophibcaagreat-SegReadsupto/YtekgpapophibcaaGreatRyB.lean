import Derived.Test.YtekgpapophibcaaGreatPackF
import Derived.Lib.SliceRun
import Derived.Laws.OwnMore
import Derived.Sort.Statements
set_option linter.unusedSimpArgs false
set_option linter.unusedVariables false
set_option maxHeartbeats 2000000
set_option maxRecDepth 100000
namespace Go.Proofs.YtekgpapophibcaaGreat
open Go.RowKit Go.Sort
theorem zCI{b n:Nat}{l:List UInt8}{bad:Bool}{w:World}(h:Br w b l bad)(hl:l.length<=140737488355328)(hn:n<=1000000000){t r:List UInt8}{bad2:Bool}(e:zAE l bad n=(t,r,bad2)) :
  Calls Tryz.prog 39 #[.pointer (some ⟨b,0,none⟩),.int .i64 n] w fun e w'=>e=.returned (.string (bs t))/\Br w' b r bad2/\Gr w w' b:=by
 have:=zOc b n l bad w h hl hn
 rw[e] at this
 exact this
theorem zMh{b:Nat}{l t r:List UInt8}{bad bad2:Bool}{w:World}(h:Br w b l bad)(hl:l.length<=140737488355328)(ht:zAE l bad 8=(t,r,bad2)) :
  Calls Tryz.prog 91 #[.pointer (some ⟨b,0,none⟩),.int .i64 1] w fun e w'=>e=.returned (Val.num (zBf (beV t))).v/\Br w' b r bad2/\Gr w w' b:=by
 have YR:t.length<=8:=by have:=(zB4 l bad 8).1;rw[ht] at this;exact this
 have HT:=zA3 (fun o=>zCI (h.alloc o) hl (by decide) ht)
 have HN:=zA3 (fun W=>zB6 t YR W)
 have HU:=zA3 (fun W=>zDn (zBf (beV t)) W)
 have HX:=zA3 (fun w1 hg=>zA9 (zSd (w1:=w1) (y:=Val.null) h hg))
 have Hg:b≠w.heap.size:=by have:=h.ne;omega
 have hm:=zBn t
 have hm8:beV t<18446744073709551616:=by
  have h3:256 ^ t.length<=256 ^ 8:=Nat.pow_le_pow_right (by decide) YR
  have h4:(256:Nat) ^ 8=18446744073709551616:=by decide
  omega
 have Gq:=zA3 Hg
 clear h Hg hm ht YR
 generalize beV t=m at *
 go_enter Tryz.func91,Tryz.ntmps91
 go_wp2_with (first
  | (go_at_call 39;refine(zA0 HT _).mono ?_;rintro e w1 ⟨rfl,Hq,Hn⟩)
  | (go_at_call 40;refine(zA0 HN _).mono ?_;rintro e w2 ⟨rfl,rfl⟩)
  | (go_at_call 37;refine(zA0 HU _).mono ?_;rintro e w3 ⟨rfl,Hz⟩;rw[Val.open_];obtain⟨c0,c1,c2,f0,f1,f2⟩:=zA0 HX w3 (Hn.trans (Gr.of_below Hz b))))
 refine bodyPost_ret (v:=(Val.num (zBf m)).v) ?_ rfl ⟨rfl,?_,?_⟩
 ·simp[results,Tryz.results91,go_sem,Val.v,Val.num,c0,c1,c2]
 ·exact Br.new3 (l:=r) (bad:=bad2) (World.rowIs.of_block Hq (Hz.block b Hq.ne)) (zA0 Gq) _ _ _
 ·exact(Hn.trans (Gr.of_below Hz b)).new3 _ _ _
theorem zKe{b:Nat}{l t r u r2:List UInt8}{bad bad2 bad3:Bool}{w:World}(h:Br w b l bad)(hl:l.length<=140737488355328)(ht:zAE l bad 2=(t,r,bad2))(hu:zAE r bad2 (beV t)=(u,r2,bad3)) :
  Calls Tryz.prog 91 #[.pointer (some ⟨b,0,none⟩),.int .i64 2] w fun e w'=>e=.returned (Val.str (bs u)).v/\Br w' b r2 bad3/\Gr w w' b:=by
 have YR:t.length<=2:=by have:=(zB4 l bad 2).1;rw[ht] at this;exact this
 have Yn:r.length<=l.length:=by have:=(zB4 l bad 2).2;rw[ht] at this;exact this
 have hm:=zBn t
 have TM:beV t<65536:=by
  have h3:256 ^ t.length<=256 ^ 2:=Nat.pow_le_pow_right (by decide) YR
  have h4:(256:Nat) ^ 2=65536:=by decide
  omega
 have HT:=zA3 (fun o=>zCI (h.alloc o) hl (by decide) ht)
 have HN:=zA3 (fun W=>zB6 t (by omega) W)
 have qN:=zA3 (fun W (hW:Br W b r bad2)=>zCI hW (by omega) (by omega) hu)
 have HU:=zA3 (fun W=>zII (bs u) W)
 have HX:=zA3 (fun w1 hg=>zA9 (zSd (w1:=w1) (y:=Val.null) h hg))
 have Hg:b≠w.heap.size:=by have:=h.ne;omega
 have Gq:=zA3 Hg
 clear h Hg hm ht YR hu
 generalize beV t=m at *
 go_enter Tryz.func91,Tryz.ntmps91
 go_wp2_with (first
  | (go_at_call 39;first | (refine(zA0 qN _ Hq).mono ?_;rintro e w2 ⟨rfl,Hu,Hj⟩) | (refine(zA0 HT _).mono ?_;rintro e w1 ⟨rfl,Hq,Hn⟩))
  | (go_at_call 40;refine(zA0 HN _).mono ?_;rintro e wn ⟨rfl,rfl⟩)
  | (go_at_call 61;refine(zA0 HU _).mono ?_;rintro e w3 ⟨rfl,Hz⟩;rw[Val.open_];obtain⟨c0,c1,c2,f0,f1,f2⟩:=zA0 HX w3 ((Hn.trans Hj).trans (Gr.of_below Hz b))))
 refine bodyPost_ret (v:=(Val.str (bs u)).v) ?_ rfl ⟨rfl,?_,?_⟩
 ·simp[results,Tryz.results91,go_sem,Val.v,Val.str,c0,c1,c2]
 ·exact Br.new3 (l:=r2) (bad:=bad3) (World.rowIs.of_block Hu (Hz.block b Hu.ne)) (zA0 Gq) _ _ _
 ·exact((Hn.trans Hj).trans (Gr.of_below Hz b)).new3 _ _ _
theorem zFg{b:Nat}{kind:Int}{l:List UInt8}{bad:Bool}{w:World}(hk:kind=1∨kind=2)(h:Br w b l bad)(hl:l.length<=140737488355328) :
  Calls Tryz.prog 91 #[.pointer (some ⟨b,0,none⟩),.int .i64 kind] w fun e w'=>e=.returned (zCP kind l bad).1.v/\Br w' b (zCP kind l bad).2.1 (zCP kind l bad).2.2/\Gr w w' b:=by
 rcases hk with rfl|rfl
 ·have e:zCP 1 l bad=(.num (zBf (beV (zAE l bad 8).1)),(zAE l bad 8).2):=rfl
  rw[e]
  exact zMh h hl rfl
 ·have e:zCP 2 l bad=(.str (bs (zAE (zAE l bad 2).2.1 (zAE l bad 2).2.2 (beV (zAE l bad 2).1)).1),(zAE (zAE l bad 2).2.1 (zAE l bad 2).2.2 (beV (zAE l bad 2).1)).2):=rfl
  rw[e]
  exact zKe h hl rfl rfl
theorem zFA{n:Nat}{l t r:List UInt8}(h:zCS n l=some (t,r)):zAE l false n=(t,r,false):=by
 obtain⟨h1,rfl,rfl⟩:=zCb h
 simp[zAE];omega
theorem zJW{kind:Int}{l r:List UInt8}{x:Val}(h:zBh kind l=some (x,r)):zCP kind l false=(x,r,false):=by
 unfold zBh at h
 unfold zCP
 split at h
 ·rename_i hk
  rw[if_pos hk]
  cases hn:zBB 8 l with
  | none=>rw[hn] at h;cases h
  | some p=>
   obtain⟨m,r'⟩:=p
   rw[hn] at h
   injection h with h
   injection h with h1 h2
   subst h1;subst h2
   obtain⟨g1,rfl,rfl⟩:=zBD hn
   rw[zFA (t:=l.take 8) (r:=l.drop 8) (by simp[zCS,g1])]
 ·rename_i hk
  rw[if_neg hk]
  cases hn:zBB 2 l with
  | none=>rw[hn] at h;cases h
  | some p=>
   obtain⟨m,l1⟩:=p
   rw[hn,Option.bind_some] at h
   split at h
   ·cases ht:zCS m l1 with
    | none=>simp only[ht] at h;cases h
    | some q=>
     obtain⟨t,r'⟩:=q
     simp only[ht] at h
     injection h with h
     injection h with h1 h2
     subst h1;subst h2
     obtain⟨g1,rfl,rfl⟩:=zBD hn
     rw[zFA (t:=l.take 2) (r:=l.drop 2) (by simp[zCS,g1])]
     simp only
     rw[zFA ht]
   ·cases h
theorem zPd:∀l:List UInt8,leV l<256 ^ l.length
 | []=>by simp[leV]
 | b::l=>by
  have:=zPd l
  have h2:=b.toNat_lt
  simp only[leV,List.length_cons,Nat.pow_succ]
  omega
theorem zKX(t:List UInt8)(q f:Nat)(hl:t.length=q+1)(hf:f<8):leV t / 256 ^ q % 256 / 2 ^ f=0 ↔ leV t<2 ^ (8*q+f):=by
 have h1:=zPd t
 rw[hl,Nat.pow_succ] at h1
 have e1:(256:Nat) ^ q=2 ^ (8*q):=by rw[Nat.pow_mul]
 have h2:leV t / 256 ^ q<256:=Nat.div_lt_of_lt_mul h1
 rw[Nat.mod_eq_of_lt h2,e1,Nat.div_div_eq_div_mul,<-Nat.pow_add,Nat.div_eq_zero_iff]
 have:=Nat.two_pow_pos (8*q+f)
 omega
theorem full(t:List UInt8)(n:Nat)(h:8*t.length=n):leV t<2 ^ n:=by
 have h1:=zPd t
 have e1:(256:Nat) ^ t.length=2 ^ (8*t.length):=by rw[Nat.pow_mul]
 rw[e1,h] at h1;exact h1
def zCA(count d:Nat)(l:List UInt8):Option (List UInt8×List UInt8):=
 (zCS (zAO count d) l).bind fun p=>if leV p.1<2 ^ (d*count) then some p else none
structure zGH(w:World)(A B C d P:Nat)(t:List UInt8):Prop where
 a:At1 w A 3 (.int .i64 d)
 b:At1 w B 3 (.int .i64 P)
 c:At1 w C 9 (.string (bs t))
 ab:A≠B
 cb:C≠B
theorem At1.new{w:World}{b t:Nat}{v:Value}(h:At1 w b t v)(o:Obj):At1 (w.alloc o) b t v:=World.rowIs.alloc h o
theorem zEM(fn:Fn)(first cap:Array Value)(w:World):(Instr.makeFunc fn first cap).run Tryz.prog w=.ok (.func fn first cap) w:=rfl
theorem zS2{count d:Nat}{t:List UInt8}(hl:t.length=zAO count d)(h:count*d % 8=0):leV t<2 ^ (d*count):=
 full t _ (by rw[hl,Nat.mul_comm d count];unfold zAO;omega)
theorem zM3{count d:Nat}{t:List UInt8}(hl:t.length=zAO count d)(h:0<count*d % 8):t.length=count*d / 8+1/\(leV t / 256 ^ (count*d / 8) % 256 / 2 ^ (count*d % 8)=0 ↔ leV t<2 ^ (d*count)):=by
 have h1:t.length=count*d / 8+1:=by rw[hl];unfold zAO;omega
 refine⟨h1,?_⟩
 rw[zKX t _ _ h1 (by omega),show 8*(count*d / 8)+count*d % 8=d*count by rw[Nat.mul_comm d count];omega]
theorem tst0(Y f:Nat):((Y:Int) / 2 ^ f == 0)=decide (Y / 2 ^ f=0):=by
 have e1:(Y:Int) / 2 ^ f=((Y / 2 ^ f:Nat):Int):=by rw[Int.natCast_ediv,Int.natCast_pow];rfl
 rw[e1]
 generalize Y / 2 ^ f=z
 rw[Bool.eq_iff_iff]
 simp
def zTs(w w':World)(e:Ending)(b d:Nat)(t r:List UInt8):Prop:=∃A B C:Nat,e=.returned (.func (.func 178) #[] #[.pointer (some ⟨A,0,none⟩),.pointer (some ⟨B,0,none⟩),.pointer (some ⟨C,0,none⟩)])/\zGH w' A B C d 0 t/\w.heap.size<=A/\w.heap.size<=B/\w.heap.size<=C/\Rd w' b r/\Gr w w' b
theorem zM9{w w2:World}{b d:Nat}{t r:List UInt8}{o:Obj}(hA:At1 w2 w.heap.size 3 (.int .i64 d))(Hu:Rd w2 b r)(Hj:Gr (w.alloc o) w2 b) :
  zTs w ((w2.alloc (.cells #[.string (bs t)] 9)).alloc (.cells #[.int .i64 0] 3)) (.returned (.func (.func 178) #[] #[.pointer (some ⟨w.heap.size,0,none⟩),.pointer (some ⟨w2.heap.size+1,0,none⟩),.pointer (some ⟨w2.heap.size,0,none⟩)])) b d t r:=by
 have hs:w.heap.size+1<=w2.heap.size:=by have:=Hj.size;simpa using this
 refine⟨_,_,_,rfl,⟨(hA.new _).new _,?_,(At1.alloc w2 9 _).new _,by omega,by omega⟩,by omega,by omega,by omega,(Hu.alloc _).alloc _,((Gr.alloc _ _ _).trans Hj).trans ((Gr.alloc _ _ _).trans (Gr.alloc _ _ _))⟩
 have:=At1.alloc (w2.alloc (.cells #[.string (bs t)] 9)) 3 (.int .i64 0)
 simpa using this
theorem zS8{b count d:Nat}{l t r:List UInt8}{w:World}(hc:count<=4096)(hd:d<=64)(h:Rd w b l)(hl:l.length<=140737488355328)(ht:zCS (zAO count d) l=some (t,r))(He:leV t<2 ^ (d*count)) :
  Calls Tryz.prog 162 #[.pointer (some ⟨b,0,none⟩),.int .i64 count,.int .i64 d] w fun e w'=>zTs w w' e b d t r:=by
 have HB:=zA3 (fun W=>zDP count d W (by omega) hd)
 have HT:=zA3 (fun W (hW:Rd W b l)=>zGb hW hl ht)
 have YR:t.length=zAO count d:=by
  obtain⟨h1,rfl,rfl⟩:=zCb ht
  rw[List.length_take];omega
 have hmf:=zEM
 have Hg:w.heap.size≠b:=by have:=h.ne;omega
 have HA:=zA3 (fun w2 (Hj:Gr (w.alloc (.cells #[.int .i64 d] 3)) w2 b)=>(At1.alloc w 3 (.int .i64 d)).gr Hj Hg)
 have HR:=zA3 h
 have hN:count*d<=4096*64:=Nat.mul_le_mul hc hd
 obtain⟨N,Zn⟩:∃N,N=count*d:=⟨_,rfl⟩
 have e1:(count:Int)*(d:Int)=(N:Int):=by rw[Zn,Int.natCast_mul]
 have QM:0<N % 8->t.length=N / 8+1/\(leV t / 256 ^ (N / 8) % 256 / 2 ^ (N % 8)=0 ↔ leV t<2 ^ (d*count)):=by
  rw[Zn];exact zM3 YR
 rw[<-Zn] at hN
 have YV:=zA3 He
 clear h YR Zn ht Hg He
 by_cases hf:0<N % 8
 ·obtain⟨TU,yd⟩:=QM hf
  obtain⟨q,f,hq,DV⟩:∃q f,q=N / 8/\f=N % 8:=⟨_,_,rfl,rfl⟩
  rw[<-hq,<-DV] at yd
  have hix:=zJo t q (by omega)
  have e2:(N:Int) % 8=(f:Int):=by omega
  have e3:((bs t).size:Int)-1=(q:Int):=by rw[zBV];omega
  have hs0:((bs t).size:Int)<=1000000:=by rw[zBV];omega
  obtain⟨Y,hY⟩:∃Y,Y=leV t / 256 ^ q % 256:=⟨_,rfl⟩
  rw[<-hY] at yd
  simp only[<-hY] at hix
  have hY2:Y<256:=by rw[hY];exact Nat.mod_lt _ (by decide)
  have HZ:Hid (Y / 2 ^ f=0):=yd.2 (zA0 YV)
  have hfp:(0:Int)<(f:Int):=by omega
  have hf8:f<8:=by omega
  clear QM TU yd hq DV hf hY
  go_enter Tryz.func162,Tryz.ntmps162
  go_wp2_with (first
   | (go_at_call 158;refine(zA0 HB _).mono ?_;rintro e w1 ⟨rfl,rfl⟩)
   | (go_at_call 161;refine(zA0 HT _ ((zA0 HR).alloc _)).mono ?_;rintro e w2 ⟨rfl,Hu,Hj⟩;have hA:=zA0 HA w2 Hj;have cA:=fun o=>(hA.new o).cell;replace hA:=zA3 hA;replace Hu:=zA3 Hu;replace Hj:=zA3 Hj)
   | (go_at_call 150;refine(zFn _ (by rw[tst0,zA0 HZ];rfl) _).mono ?_;rintro e w3 ⟨rfl,rfl⟩))
  go_ret
  exact zM9 (zA0 hA) (zA0 Hu) (zA0 Hj)
 ·have e2:(N:Int) % 8=0:=by omega
  clear QM hf
  go_enter Tryz.func162,Tryz.ntmps162
  go_wp2_with (first
   | (go_at_call 158;refine(zA0 HB _).mono ?_;rintro e w1 ⟨rfl,rfl⟩)
   | (go_at_call 161;refine(zA0 HT _ ((zA0 HR).alloc _)).mono ?_;rintro e w2 ⟨rfl,Hu,Hj⟩;have hA:=zA0 HA w2 Hj;have cA:=fun o=>(hA.new o).cell;replace hA:=zA3 hA;replace Hu:=zA3 Hu;replace Hj:=zA3 Hj))
  go_ret
  exact zM9 (zA0 hA) (zA0 Hu) (zA0 Hj)
theorem zSA{b count d:Nat}{l:List UInt8}{w:World}(hc:count<=4096)(hd:d<=64)(h:Rd w b l)(hl:l.length<=140737488355328)(ht:zCS (zAO count d) l=none) :
  Calls Tryz.prog 162 #[.pointer (some ⟨b,0,none⟩),.int .i64 count,.int .i64 d] w fun e w'=>e=dmg/\Gr w w' b:=by
 have HB:=zA3 (fun W=>zDP count d W (by omega) hd)
 have HT:=zA3 (fun W (hW:Rd W b l)=>zLS hW hl ht)
 have HR:=zA3 h
 clear h
 go_enter Tryz.func162,Tryz.ntmps162
 go_wp2_with (first
  | (go_at_call 158;refine(zA0 HB _).mono ?_;rintro e w1 ⟨rfl,rfl⟩)
  | (go_at_call 161;refine(zA0 HT _ ((zA0 HR).alloc _)).mono ?_;rintro e w2 ⟨rfl,rfl⟩))
 exact⟨rfl,rfl,Gr.alloc _ _ _⟩
theorem zS9{b count d:Nat}{l t r:List UInt8}{w:World}(hc:count<=4096)(hd:d<=64)(h:Rd w b l)(hl:l.length<=140737488355328)(ht:zCS (zAO count d) l=some (t,r))(He:¬leV t<2 ^ (d*count)) :
  Calls Tryz.prog 162 #[.pointer (some ⟨b,0,none⟩),.int .i64 count,.int .i64 d] w fun e w'=>e=dmg/\Gr w w' b:=by
 have HB:=zA3 (fun W=>zDP count d W (by omega) hd)
 have HT:=zA3 (fun W (hW:Rd W b l)=>zGb hW hl ht)
 have YR:t.length=zAO count d:=by
  obtain⟨h1,rfl,rfl⟩:=zCb ht
  rw[List.length_take];omega
 have Hg:w.heap.size≠b:=by have:=h.ne;omega
 have HA:=zA3 (fun w2 (Hj:Gr (w.alloc (.cells #[.int .i64 d] 3)) w2 b)=>(At1.alloc w 3 (.int .i64 d)).gr Hj Hg)
 have HR:=zA3 h
 have hN:count*d<=4096*64:=Nat.mul_le_mul hc hd
 obtain⟨N,Zn⟩:∃N,N=count*d:=⟨_,rfl⟩
 have e1:(count:Int)*(d:Int)=(N:Int):=by rw[Zn,Int.natCast_mul]
 have hf:0<N % 8:=by
  rcases Nat.eq_zero_or_pos (N % 8) with h0|h0
  ·exact absurd (zS2 YR (by rw[<-Zn];exact h0)) He
  ·exact h0
 have QM:t.length=N / 8+1/\(leV t / 256 ^ (N / 8) % 256 / 2 ^ (N % 8)=0 ↔ leV t<2 ^ (d*count)):=by
  rw[Zn] at hf ⊢;exact zM3 YR hf
 rw[<-Zn] at hN
 have YV:=zA3 He
 clear h YR Zn ht Hg He
 obtain⟨TU,yd⟩:=QM
 obtain⟨q,f,hq,DV⟩:∃q f,q=N / 8/\f=N % 8:=⟨_,_,rfl,rfl⟩
 rw[<-hq,<-DV] at yd
 have hix:=zJo t q (by omega)
 have e2:(N:Int) % 8=(f:Int):=by omega
 have e3:((bs t).size:Int)-1=(q:Int):=by rw[zBV];omega
 have hs0:((bs t).size:Int)<=1000000:=by rw[zBV];omega
 obtain⟨Y,hY⟩:∃Y,Y=leV t / 256 ^ q % 256:=⟨_,rfl⟩
 rw[<-hY] at yd
 simp only[<-hY] at hix
 have hY2:Y<256:=by rw[hY];exact Nat.mod_lt _ (by decide)
 have HZ:Hid (¬Y / 2 ^ f=0):=fun h=>zA0 YV (yd.1 h)
 have hfp:(0:Int)<(f:Int):=by omega
 have hf8:f<8:=by omega
 clear TU yd hq DV hf hY
 go_enter Tryz.func162,Tryz.ntmps162
 go_wp2_with (first
  | (go_at_call 158;refine(zA0 HB _).mono ?_;rintro e w1 ⟨rfl,rfl⟩)
  | (go_at_call 161;refine(zA0 HT _ ((zA0 HR).alloc _)).mono ?_;rintro e w2 ⟨rfl,Hu,Hj⟩;have hA:=zA0 HA w2 Hj;have cA:=fun o=>(hA.new o).cell;replace hA:=zA3 hA;replace Hu:=zA3 Hu;replace Hj:=zA3 Hj)
  | (go_at_call 150;refine(zDF _ (by rw[tst0];exact decide_eq_false (zA0 HZ)) _).mono ?_;rintro e w3 ⟨rfl,rfl⟩))
 exact⟨rfl,rfl,((Gr.alloc _ _ _).trans (zA0 Hj)).trans (Gr.alloc _ _ _)⟩
theorem zFS{b count d:Nat}{l t r:List UInt8}{w:World}(hc:count<=4096)(hd:d<=64)(h:Rd w b l)(hl:l.length<=140737488355328)(hb:zCA count d l=some (t,r)) :
  Calls Tryz.prog 162 #[.pointer (some ⟨b,0,none⟩),.int .i64 count,.int .i64 d] w fun e w'=>zTs w w' e b d t r:=by
 unfold zCA at hb
 cases ht:zCS (zAO count d) l with
 | none=>rw[ht] at hb;cases hb
 | some p=>
  rw[ht,Option.bind_some] at hb
  split at hb
  ·injection hb with hb;subst hb
   exact zS8 hc hd h hl ht (by assumption)
  ·cases hb
theorem zIs{b count d:Nat}{l:List UInt8}{w:World}(hc:count<=4096)(hd:d<=64)(h:Rd w b l)(hl:l.length<=140737488355328)(hb:zCA count d l=none) :
  Calls Tryz.prog 162 #[.pointer (some ⟨b,0,none⟩),.int .i64 count,.int .i64 d] w fun e w'=>e=dmg/\Gr w w' b:=by
 unfold zCA at hb
 cases ht:zCS (zAO count d) l with
 | none=>exact zSA hc hd h hl ht
 | some p=>
  rw[ht,Option.bind_some] at hb
  split at hb
  ·cases hb
  ·exact zS9 hc hd h hl ht (by assumption)
theorem zD8{count d:Nat}{l t r:List UInt8}(hb:zCA count d l=some (t,r)):t.length=zAO count d/\leV t<2 ^ (d*count)/\r.length<=l.length/\l=t++r:=by
 unfold zCA at hb
 cases ht:zCS (zAO count d) l with
 | none=>rw[ht] at hb;cases hb
 | some p=>
  rw[ht,Option.bind_some] at hb
  split at hb
  ·injection hb with hb;subst hb
   obtain⟨h1,rfl,rfl⟩:=zCb ht
   exact⟨by rw[List.length_take];omega,by assumption,by simp,by simp⟩
  ·cases hb
def zAr(x:Val):Bool:=x.k == 0
theorem zME(a:Option Addr)(c:Nat)(xs:List Val)(w:World)(l:xs.length<=1048576)(h:zAR w a xs) :
  Calls Tryz.prog 75 #[.slice a xs.length c,.func (.func 103) #[] #[]] w fun e w'=>(∃i:Int,e=.returned (.int .i64 i)/\Hid (decide (0<=i)=xs.any zAr))/\Below w.heap.size w w':=by
 have H:=zA3 h
 clear h
 go_enter Tryz.func75,Tryz.ntmps75
 go_wp2_with fail
 go_loopw[8] (fun i wr=>∃k:Nat,k<=xs.length/\i=.int .i64 k/\Hid (∀i y,i<k->xs[i]?=some y->zAr y=false)/\Below w.heap.size w wr) (fun i _=>xs.length-(intOf i).toNat)
 case atStart=>exact⟨0,Nat.zero_le _,rfl,fun i y h=>by omega,Below.refl _ _⟩
 case round=>
  obtain⟨k,hk,rfl,HN,hb⟩:=hrel
  by_cases h1:k<xs.length
  ·obtain⟨x,hx⟩:∃x,xs[k]?=some x:=⟨_,zAf h1⟩
   rcases(zA0 H).later hb with e|⟨rb,ro,rfl,hc⟩
   ·rw[e] at hx;cases hx
   obtain⟨c0,c1,c2⟩:=hc k x hx
   have HX:=zA3 hx
   have HB:=zA3 hb
   have i1:(k:Int)<(xs.length:Int):=by omega
   have HP:=zA3 (fun W=>zEG x W)
   clear hx hc hb
   rcases Bool.eq_false_or_eq_true (zAr x) with e1|e1
   ·have HE:Hid (decide (0<=(k:Int))=xs.any zAr):=by
     show _=_
     have:xs.any zAr=true:=List.any_eq_true.2 ⟨x,List.mem_of_getElem? (zA0 HX),e1⟩
     rw[this];simp
    have e2:(x.k == 0)=true:=e1
    rw[e2] at HP
    go_wp2_with (go_at_call 103;refine(zA0 HP _).mono ?_;rintro e w1 ⟨rfl,Hb⟩)
    go_ret
    exact⟨⟨_,rfl,HE⟩,zA2 (zA0 HB) Hb⟩
   ·have e2:(x.k == 0)=false:=e1
    rw[e2] at HP
    have HS:Hid (∀i y,i<k+1->xs[i]?=some y->zAr y=false):=fun i y hi hy=>by
     by_cases h:i<k
     ·exact zA0 HN i y h hy
     ·have:i=k:=by omega
      subst this
      rw[zA0 HX] at hy
      injection hy with hy
      rw[<-hy];exact e1
    go_wp2_with (go_at_call 103;refine(zA0 HP _).mono ?_;rintro e w1 ⟨rfl,Hb⟩)
    go_roundw
    case rel=>exact⟨k+1,by omega,by go_num,HS,zA2 (zA0 HB) Hb⟩
    case measure=>first | (simp[intOf];omega) | (simp only[intOf];omega)
  ·have i1:¬(k:Int)<(xs.length:Int):=by omega
   have HE:Hid (decide (0<=(-1:Int))=xs.any zAr):=by
    show _=_
    have e:k=xs.length:=by omega
    have:xs.any zAr=false:=by
     rw[List.any_eq_false]
     intro y hy
     obtain⟨i,hi,rfl⟩:=List.getElem_of_mem hy
     rw[zA0 HN i _ (by omega) (zAf hi)]
     simp
    rw[this];rfl
   have HB:=zA3 hb
   clear hb
   go_wp2
   go_ret
   exact⟨⟨_,rfl,HE⟩,zA0 HB⟩
theorem zIB(a:Option Addr)(c:Nat)(xs:List Val)(w:World)(l:xs.length<=1048576)(h:zAR w a xs) :
  Calls Tryz.prog 50 #[.slice a xs.length c,.func (.func 103) #[] #[]] w fun e w'=>e=.returned (.bool (xs.any zAr))/\Below w.heap.size w w':=by
 have HI:=zA3 (zME a c xs w l h)
 generalize xs.any zAr=Z at HI ⊢
 clear h l
 go_enter Tryz.func50,Tryz.ntmps50
 go_wp2_with (go_at_call 75;refine(zA0 HI).mono ?_;rintro e w1 ⟨⟨i,rfl,HE⟩,Hb⟩)
 go_ret
 exact⟨by rw[<-zA0 HE];rfl,Hb⟩
theorem zSb(xs:List Val):∀u∈xs.flatMap c3,u.oneCell'=true:=by
 intro u hu
 obtain⟨x,_,hx⟩:=List.mem_flatMap.1 hu
 exact zBY x u hx
theorem zOh{w:World}{b off:Nat}{xs:List Val}(h:zAR w (some ⟨b,off,none⟩) xs):∀j u,(xs.flatMap c3)[j]?=some u->w.cell? ((⟨b,off,none⟩:Addr).add j)=some u:=by
 intro j u hj
 rw[Addr.add_lit]
 have He:j<xs.length*3:=by rw[<-zBP];exact(zAL hj).1
 obtain⟨x,hx⟩:∃x,xs[j / 3]?=some x:=⟨_,zAf (by omega)⟩
 have hf:=zCV xs (j / 3) (j % 3) x hx (by omega)
 rw[show j / 3*3+j % 3=j by omega,hj] at hf
 rcases h with h|⟨b',off',e,h⟩
 ·subst h;simp at He
 ·injection e with e
  injection e with e1 e2
  subst e1 e2
  obtain⟨h0,h1,h2⟩:=h (j / 3) x hx
  have h3:j % 3=0∨j % 3=1∨j % 3=2:=by omega
  rcases h3 with h3|h3|h3<;>rw[h3] at hf<;>simp[c3] at hf<;>subst hf
  ·rw[show off+j=off+j / 3*3 by omega];exact h0
  ·rw[show off+j=off+j / 3*3+1 by omega];exact h1
  ·rw[show off+j=off+j / 3*3+2 by omega];exact h2
theorem zHP(aa:Option Addr)(ca:Nat)(xs:List Val)(w:World)(hl:xs.length<=1048576)(YJ:∀ad,aa=some ad->∃b o,ad=⟨b,o,none⟩)(ha:zAR w aa xs)(hn:aa=none->xs=[]) :
  Calls Tryz.prog 116 #[.slice aa xs.length ca] w fun e w'=>∃v,e=.returned v/\zAV w' w.heap.size v xs/\Below w.heap.size w w':=by
 obtain⟨i4,Qd,z40,z41,z42⟩:=info_parts Tryz.info59
 cases aa with
 | none=>
  have hx:=hn rfl
  subst hx
  clear hn ha
  have hcmp:∀w',(binOp .eql 37 (.slice none 0 ca) (.slice none 0 0)).run Tryz.prog w'=.ok (.bool true) w':=fun w'=>by rw[Go.Lib.run_eql_slice_nil w' 37 59 none 0 ca 0 0 Tryz.underlying37];rfl
  go_enter Tryz.func116,Tryz.ntmps116
  go_wp2
  go_ret
  exact⟨_,rfl,World.ownsRow_nil _ _ _ _,Below.refl _ _⟩
 | some ad=>
  obtain⟨b,o,rfl⟩:=YJ _ rfl
  have hcmp:∀w',(binOp .eql 37 (.slice (some ⟨b,o,none⟩) xs.length ca) (.slice none 0 0)).run Tryz.prog w'=.ok (.bool false) w':=fun w'=>by rw[Go.Lib.run_eql_slice_nil w' 37 59 _ _ _ 0 0 Tryz.underlying37];rfl
  have bl:=zA1 (Below.refl _ w) (.cells #[] 59)
  have HA:=zA3 (ha.later bl)
  clear ha hn YJ
  go_enter Tryz.func116,Tryz.ntmps116
  go_wp2_with (at_builtin;refine wpList_append_own_at _ rfl (.tmp 5) (.tmp 6) 37 rfl w.heap.size 59 i4 (.agg #[.int .i64 0,.int .i64 0,.string ⟨#[]⟩]) 3 32 Tryz.underlying37 Qd z40 z41 z42 rfl (by decide) (.slice (some ⟨w.heap.size,0,none⟩) 0 0) 0 [] rfl ?_ ⟨b,o,none⟩ xs.length ca (xs.flatMap c3) rfl (zBP xs) (zOh (zA0 HA)) (zSb xs) (by unfold maxLen;omega) (by omega) (by simp) ?_)
  ·exact⟨rfl,.inr ⟨w.heap.size,0,#[],rfl,Nat.le_refl _,Go.Deep.blk_alloc_new _ _,Nat.le_refl _,Nat.zero_le _,rfl,rfl⟩⟩
  ·intro v1 w3 Hc Ha _ Hl
   have HO:Hid (zAV w3 w.heap.size v1 xs):=by
    show zAV w3 w.heap.size v1 xs
    unfold zAV
    simpa using Hc
   have HB:=zA3 (bl.trans (zAd (B:=w.heap.size) Ha (by simp) (fun g hg=>by simp[Value.ownBlock] at hg;omega)))
   clear Hc Ha Hl bl
   go_wp2
   go_ret
   exact⟨_,rfl,zA0 HO,zA0 HB⟩
set_option maxHeartbeats 4000000
def zC0(xs:List Val):Nat:=(xs.takeWhile fun x=>!zAr x).length
def zSW(xs:List Val):Int:=if zC0 xs=xs.length then -1 else (zC0 xs:Int)
theorem zPx(xs:List Val):zC0 xs<=xs.length:=(List.takeWhile_prefix _).length_le
theorem zPy{xs:List Val}{k:Nat}(h1:∀i y,i<k->xs[i]?=some y->zAr y=false)(hk:k<=xs.length)(h2:∀y,xs[k]?=some y->zAr y=true):zC0 xs=k:=
 zDW _ xs k (fun i y hi hy=>by rw[h1 i y hi hy];rfl) hk (fun y hy=>by rw[h2 y hy];rfl)
theorem zEu(xs:List Val):xs.take (zC0 xs)=xs.takeWhile fun x=>!zAr x:=(List.prefix_iff_eq_take.1 (List.takeWhile_prefix _)).symm
theorem zJH{xs:List Val}(h:∀(i:Nat) (y:Val),xs[i]?=some y->zAr y=false):zAA xs=xs:=by
 unfold zAA
 rw[List.filter_eq_self]
 intro y hy
 obtain⟨i,hi,rfl⟩:=List.getElem_of_mem hy
 have:=h i _ (zAf hi)
 simp[zAr] at this
 simpa using this
theorem zO0(a:Option Addr)(c:Nat)(xs:List Val)(w:World)(l:xs.length<=1048576)(h:zAR w a xs) :
  Calls Tryz.prog 75 #[.slice a xs.length c,.func (.func 103) #[] #[]] w fun e w'=>e=.returned (.int .i64 (zSW xs))/\Below w.heap.size w w':=by
 have H:=zA3 h
 have HL:Hid (∀k,(∀i y,i<k->xs[i]?=some y->zAr y=false)->k<=xs.length->(∀y,xs[k]?=some y->zAr y=true)->zSW xs=if k=xs.length then -1 else (k:Int)):=fun k a b c=>by unfold zSW;rw[zPy a b c]
 generalize zSW xs=R at *
 clear h
 go_enter Tryz.func75,Tryz.ntmps75
 go_wp2_with fail
 go_loopw[8] (fun i wr=>∃k:Nat,k<=xs.length/\i=.int .i64 k/\Hid (∀i y,i<k->xs[i]?=some y->zAr y=false)/\Below w.heap.size w wr) (fun i _=>xs.length-(intOf i).toNat)
 case atStart=>exact⟨0,Nat.zero_le _,rfl,fun i y h=>by omega,Below.refl _ _⟩
 case round=>
  obtain⟨k,hk,rfl,HN,hb⟩:=hrel
  by_cases h1:k<xs.length
  ·obtain⟨x,hx⟩:∃x,xs[k]?=some x:=⟨_,zAf h1⟩
   rcases(zA0 H).later hb with e|⟨rb,ro,rfl,hc⟩
   ·rw[e] at hx;cases hx
   obtain⟨c0,c1,c2⟩:=hc k x hx
   have HX:=zA3 hx
   have HB:=zA3 hb
   have i1:(k:Int)<(xs.length:Int):=by omega
   have HP:=zA3 (fun W=>zEG x W)
   clear hx hc hb
   rcases Bool.eq_false_or_eq_true (zAr x) with e1|e1
   ·have HE:Hid (R=(k:Int)):=by
     show _=_
     rw[zA0 HL k (zA0 HN) hk (fun y hy=>by rw[zA0 HX] at hy;injection hy with hy;rw[<-hy];exact e1),if_neg (by omega)]
    have e2:(x.k == 0)=true:=e1
    rw[e2] at HP
    go_wp2_with (go_at_call 103;refine(zA0 HP _).mono ?_;rintro e w1 ⟨rfl,Hb⟩)
    go_ret
    exact⟨by rw[zA0 HE];rfl,zA2 (zA0 HB) Hb⟩
   ·have e2:(x.k == 0)=false:=e1
    rw[e2] at HP
    have HS:Hid (∀i y,i<k+1->xs[i]?=some y->zAr y=false):=fun i y hi hy=>by
     by_cases h:i<k
     ·exact zA0 HN i y h hy
     ·have:i=k:=by omega
      subst this
      rw[zA0 HX] at hy
      injection hy with hy
      rw[<-hy];exact e1
    go_wp2_with (go_at_call 103;refine(zA0 HP _).mono ?_;rintro e w1 ⟨rfl,Hb⟩)
    go_roundw
    case rel=>exact⟨k+1,by omega,by go_num,HS,zA2 (zA0 HB) Hb⟩
    case measure=>first | (simp[intOf];omega) | (simp only[intOf];omega)
  ·have i1:¬(k:Int)<(xs.length:Int):=by omega
   have HE:Hid (R=-1):=by
    show _=_
    rw[zA0 HL k (zA0 HN) hk (fun y hy=>by rw[List.getElem?_eq_none (by omega)] at hy;cases hy),if_pos (by omega)]
   have HB:=zA3 hb
   clear hb
   go_wp2
   go_ret
   exact⟨by rw[zA0 HE];rfl,zA0 HB⟩
theorem zLu:∀(L:List Val) (j:Nat) (x:Val),j<L.length->(((L.flatMap c3).set (j*3) (.int .i64 x.k)).set (j*3+1) (.int .i64 x.n)).set (j*3+2) (.string x.s)=(L.set j x).flatMap c3
 | [],j,x,h=>by simp at h
 | z::L,0,x,_=>by simp[c3]
 | z::L,j+1,x,h=>by
  have ih:=zLu L j x (by simpa using h)
  rw[List.set_cons_succ,List.flatMap_cons,List.flatMap_cons,<-ih]
  simp only[c3,List.cons_append,List.nil_append]
  rw[show (j+1)*3=j*3+1+1+1 by omega,show j*3+1+1+1+1=(j*3+1)+1+1+1 by omega,show j*3+1+1+1+2=(j*3+2)+1+1+1 by omega]
  simp only[List.set_cons_succ]
theorem zAV.put{w:World}{base g N cap j:Nat}{L:List Val}(h:zAV w base (.slice (some ⟨g,0,none⟩) N cap) L)(hj:j<L.length)(x:Val) :
  zAV (((w.setCell ⟨g,j*3,none⟩ (.int .i64 x.k)).setCell ⟨g,j*3+1,none⟩ (.int .i64 x.n)).setCell ⟨g,j*3+2,none⟩ (.string x.s)) base (.slice (some ⟨g,0,none⟩) N cap) (L.set j x):=by
 have hN:N=L.length:=by
  rcases h.2 with ⟨e,_⟩|⟨g',cap',cur,e,_⟩
  ·cases e
  ·injection e
 subst hN
 have h1:=(World.ownsRow.stored h (j*3) (.int .i64 x.k)).1
 have h2:=(World.ownsRow.stored h1 (j*3+1) (.int .i64 x.n)).1
 have h3:=(World.ownsRow.stored h2 (j*3+2) (.string x.s)).1
 rw[zLu L j x hj] at h3
 unfold zAV
 rw[List.length_set]
 exact h3
theorem zAV.len{w:World}{base g N cap:Nat}{L:List Val}(h:zAV w base (.slice (some ⟨g,0,none⟩) N cap) L):N=L.length:=by
 rcases h.2 with ⟨e,_⟩|⟨g',cap',cur,e,_⟩
 ·cases e
 ·injection e
theorem zAV.facts{w:World}{base g N cap j:Nat}{L:List Val}{x:Val}(h:zAV w base (.slice (some ⟨g,0,none⟩) N cap) L)(hj:L[j]?=some x) :
  w.cell? ⟨g,j*3,none⟩=some (.int .i64 x.k)/\w.cell? ⟨g,j*3+1,none⟩=some (.int .i64 x.n)/\w.cell? ⟨g,j*3+2,none⟩=some (.string x.s)/\w.frozen? ⟨g,j*3,none⟩=false/\w.frozen? ⟨g,j*3+1,none⟩=false/\w.frozen? ⟨g,j*3+2,none⟩=false:=by
 have hN:=h.len
 subst hN
 have hl:=(zAL hj).1
 refine⟨?_,?_,?_,World.ownsRow.frozenAt h _,World.ownsRow.frozenAt h _,World.ownsRow.frozenAt h _⟩
 ·rw[World.ownsRow.cellAt h (j*3) (by omega)];exact zCV L j 0 x hj (by omega)
 ·rw[World.ownsRow.cellAt h (j*3+1) (by omega)];exact zCV L j 1 x hj (by omega)
 ·rw[World.ownsRow.cellAt h (j*3+2) (by omega)];exact zCV L j 2 x hj (by omega)
theorem zNi(n:Nat):(Builtin.zeroCells #[.int .i64 0,.int .i64 0,.string ⟨#[]⟩] n).toList.length=n*3:=by simp[Builtin.zeroCells]
theorem zPw(L:List Val)(i:Nat):(L.flatMap c3).take (i*3)=(L.take i).flatMap c3:=by
 induction L generalizing i with
 | nil=>simp
 | cons z L ih=>
  cases i with
  | zero=>simp
  | succ i=>
   rw[List.take_succ_cons,List.flatMap_cons,List.flatMap_cons,<-ih]
   simp only[c3,List.cons_append,List.nil_append]
   rw[show (i+1)*3=i*3+1+1+1 by omega]
   simp only[List.take_succ_cons]
theorem zAV.clear{w:World}{base g N cap i:Nat}{L:List Val}(h:zAV w base (.slice (some ⟨g,0,none⟩) N cap) L)(hi:i<=N)(ty:TypeId) :
  ∃w',(Builtin.clear_ #[37] ty #[.slice (some ⟨g,i*3,none⟩) (N-i) (cap-i)]).run Tryz.prog w=.ok (.tuple #[]) w'/\zAV w' base (.slice (some ⟨g,0,none⟩) i cap) (L.take i)/\zAt w w' (.slice (some ⟨g,0,none⟩) N cap) (.slice (some ⟨g,0,none⟩) i cap):=by
 have hN:=h.len
 rcases h.2 with ⟨e,_⟩|⟨g',cap',cur,e,hb,hh,hnc,ye,Gp,yz⟩
 ·cases e
 injection e with e1 e2 e3
 injection e1 with e1
 injection e1 with e1
 subst e1 e3
 subst hN
 have Gx:∀c2:Array Value,c2.toList.take (i*3)=cur.toList.take (i*3)->c2.toList.take (i*3)=(L.take i).flatMap c3:=fun c2 e=>by
  rw[e,<-zPw,<-yz,List.take_take,Nat.min_eq_left (by omega)]
 have hll:((L.take i).flatMap c3).length=i*3:=by rw[zBP,List.length_take,Nat.min_eq_left hi]
 by_cases h0:L.length-i=0
 ·refine⟨w,?_,?_,zAt.refl _ _ |>.trans ⟨⟨rfl,rfl,rfl,Nat.le_refl _,fun _ _ _=>rfl⟩,.inl rfl⟩⟩
  ·rw[h0]
   simp[Builtin.clear_,run_underlying Tryz.underlying37]
  ·have Gl:i=L.length:=by omega
   unfold zAV
   rw[List.length_take,Nat.min_eq_left hi]
   exact⟨hll,.inr ⟨g,cap,cur,rfl,hb,hh,by omega,ye,Gp,Gx cur rfl⟩⟩
 ·have qr:=run_storeCells_at (P:=Tryz.prog) g (i*3) 59 (Builtin.zeroCells #[.int .i64 0,.int .i64 0,.string ⟨#[]⟩] (L.length-i)).toList 0 cur w hh (by rw[zNi,Gp];omega) (by
   intro v hv
   simp only[Builtin.zeroCells,Array.toList_map,List.mem_map] at hv
   obtain⟨q,_,rfl⟩:=hv
   have:q % 3=0∨q % 3=1∨q % 3=2:=by omega
   rcases this with e|e|e<;>simp[e]<;>rfl)
  refine⟨w.setRow g (cur.toList.take (i*3+0)++(Builtin.zeroCells #[.int .i64 0,.int .i64 0,.string ⟨#[]⟩] (L.length-i)).toList++cur.toList.drop (i*3+0+(Builtin.zeroCells #[.int .i64 0,.int .i64 0,.string ⟨#[]⟩] (L.length-i)).toList.length)).toArray,?_,?_,?_⟩
  ·obtain⟨m,hm⟩:∃m,L.length-i=m+1:=⟨L.length-i-1,by omega⟩
   rw[hm] at qr ⊢
   have hv:∀w,(zeroValue 59).run Tryz.prog w=.ok (.agg #[.int .i64 0,.int .i64 0,.string ⟨#[]⟩]) w:=Tryz.zeroValue59
   simp[Builtin.clear_,run_underlying Tryz.underlying37,hv,qr,Value.cells]
  ·unfold zAV
   rw[List.length_take,Nat.min_eq_left hi]
   refine⟨hll,.inr ⟨g,cap,_,rfl,hb,setRow_heap w g cur _ 59 _ hh,by omega,ye,?_,Gx _ ?_⟩⟩
   ·have hz:(Builtin.zeroCells #[.int .i64 0,.int .i64 0,.string ⟨#[]⟩] (L.length-i)).size=(L.length-i)*3:=by simp[Builtin.zeroCells]
    simp only[List.size_toArray,zAX,List.length_take,List.length_drop,Array.length_toList,Gp,hz]
    omega
   ·rw[List.append_assoc,List.take_append_of_le_length (by simp[Gp];omega),List.take_take]
    simp
  ·refine⟨⟨rfl,rfl,rfl,by simp,fun k hk Hg=>setRow_other w g k _ (fun e=>Hg (by rw[e];rfl))⟩,.inl rfl⟩
theorem zND{xs:List Val}(h:zC0 xs<xs.length):zAA (xs.take (zC0 xs+1))=xs.take (zC0 xs):=by
 have hl:zC0 xs=(xs.takeWhile fun x=>!zAr x).length:=rfl
 have Qs:=List.all_takeWhile (l:=xs) (p:=fun x=>!zAr x)
 rw[List.all_eq_true] at Qs
 have Jj:zAA (xs.take (zC0 xs))=xs.take (zC0 xs):=zJH fun i y hy=>by
  have hm:=List.mem_of_getElem? hy
  rw[zEu] at hm
  simpa using Qs y hm
 have hz:xs[zC0 xs]?=some xs[zC0 xs]:=zAf h
 have h2:xs.dropWhile (fun x=>!zAr x)=xs.drop (zC0 xs):=by
  have h3:=List.takeWhile_append_dropWhile (p:=fun x=>!zAr x) (l:=xs)
  have h4:=List.take_append_drop (zC0 xs) xs
  rw[zEu] at h4
  exact List.append_cancel_left (h3.trans h4.symm)
 have hn:zAr xs[zC0 xs]=true:=by
  have Hg:xs.dropWhile (fun x=>!zAr x)≠[]:=by rw[h2];simp;omega
  have h5:=List.head_dropWhile_not (fun x=>!zAr x) Hg
  have h6:(xs.dropWhile (fun x=>!zAr x)).head Hg=xs[zC0 xs]:=by
   have:(xs.dropWhile (fun x=>!zAr x)).head?=some xs[zC0 xs]:=by rw[h2,List.head?_drop];exact hz
   rw[List.head?_eq_some_head Hg] at this
   injection this
  rw[h6] at h5
  simpa using h5
 rw[zIG hz (by simp[zAr] at hn;simp[hn])]
 exact Jj
theorem zKK(base:Nat)(xs:List Val)(v:Value)(w:World)(hl:xs.length<=1048576)(Hd:zAV w base v xs) :
  Calls Tryz.prog 115 #[v,.func (.func 103) #[] #[]] w fun e w'=>∃v',e=.returned v'/\zAV w' base v' (zAA xs)/\zAt w w' v v':=by
 obtain⟨aa,ca,ev,Hk⟩:=zBy Hd
 have HI:=zA3 (zO0 aa ca xs w hl Hk)
 rw[<-ev] at HI
 by_cases hf:zC0 xs=xs.length
 ·have HS:Hid (zAA xs=xs):=by
   show _=_
   refine zJH fun i y hy=>?_
   have h2:=zEu xs
   rw[hf,List.take_length] at h2
   rw[h2] at hy
   have:=List.all_takeWhile (l:=xs) (p:=fun x=>!zAr x)
   rw[List.all_eq_true] at this
   simpa using this y (List.mem_of_getElem? hy)
  have e:zSW xs=-1:=by rw[zSW,if_pos hf]
  rw[e] at HI
  have HO:=zA3 Hd
  clear hf e Hk Hd ev
  go_enter Tryz.func115,Tryz.ntmps115
  go_wp2_with (go_at_call 75;refine(zA0 HI).mono ?_;rintro e w1 ⟨rfl,Hb⟩)
  go_ret
  exact⟨_,rfl,by rw[zA0 HS];exact(zA0 HO).later Hb,zAt.of_below Hb _⟩
 ·have hfl:=zPx xs
  have e:zSW xs=(zC0 xs:Int):=by rw[zSW,if_neg hf]
  rw[e] at HI
  have H1:=zA3 (zND (xs:=xs) (by omega))
  have hk:zC0 xs<xs.length:=by omega
  obtain⟨g,cap,ev2⟩:∃g cap,v=.slice (some ⟨g,0,none⟩) xs.length cap:=by
   rcases Hd.2 with ⟨_,h0⟩|⟨g,cap,cur,ev,_⟩
   ·omega
   ·exact⟨g,cap,ev⟩
  have hcap:xs.length<=cap:=by
   rcases Hd.2 with ⟨_,h0⟩|⟨g',cap',cur,ev3,_,_,hc,_⟩
   ·omega
   ·rw[ev2] at ev3;injection ev3 with _ _ e3;omega
  subst ev2
  have HO:=zA3 Hd
  have HF:Hid (xs.take (zC0 xs)=xs.take (zC0 xs)):=rfl
  generalize zC0 xs=K at *
  clear hf e Hk Hd ev hfl HF aa ca
  have hK1:((K:Int) == -1)=false:=by simp
  go_enter Tryz.func115,Tryz.ntmps115
  go_wp2_with (first | (go_at_call 75;refine(zA0 HI).mono ?_;rintro e w1 ⟨rfl,Hb⟩;replace Hb:=zA3 Hb)|fail)
  go_loopw[5,6] (fun s5 s6 wr=>∃(i j:Nat) (L:List Val),s5=.int .i64 (i:Int)/\s6=.int .i64 (j:Int)/\i<j/\j<=xs.length/\Hid (L.take i=zAA (xs.take j))/\Hid (L.drop j=xs.drop j)/\zAV wr base (.slice (some ⟨g,0,none⟩) xs.length cap) L/\zAt w wr (.slice (some ⟨g,0,none⟩) xs.length cap) (.slice (some ⟨g,0,none⟩) xs.length cap)) (fun _ s _=>xs.length-(intOf s).toNat)
  case atStart=>exact⟨K,K+1,xs,rfl,by go_num,by omega,by omega,(zA0 H1).symm,rfl,(zA0 HO).later (zA0 Hb),zAt.of_below (zA0 Hb) _⟩
  case round=>
   obtain⟨i,j,L,rfl,rfl,ZX,Jw,HT,HD,ho,hg⟩:=hrel
   have hLn:=ho.len
   by_cases h1:j<xs.length
   ·have i1:(j:Int)<(xs.length:Int):=by omega
    obtain⟨x,hx⟩:∃x,xs[j]?=some x:=⟨_,zAf h1⟩
    have hxL:L[j]?=some x:=by
     have h2:(L.drop j)[0]?=(xs.drop j)[0]?:=by rw[zA0 HD]
     simpa [hx] using h2
    obtain⟨y,hy⟩:∃y,L[i]?=some y:=⟨_,zAf (by omega)⟩
    obtain⟨c0,c1,c2,_,_,_⟩:=ho.facts hxL
    have hgl:g<wr.heap.size:=(World.ownsRow.lt ho g rfl).2
    have bl:=zA1 (Below.refl _ wr) (.cells #[.int .i64 x.k,.int .i64 x.n,.string x.s] 59)
    have Fh:=zA3 ho
    have HGw:=zA3 hg
    have HX:=zA3 hx
    have HP:=zA3 (fun W=>zEG x W)
    have ym:=zA3 hLn
    have qm:Hid (∀m u,m<=j->(L.set m u).drop (j+1)=xs.drop (j+1)):=fun m u hm=>by
     rw[List.drop_set_of_lt (by omega)]
     have h2:=congrArg (List.drop 1) (zA0 HD)
     rw[List.drop_drop,List.drop_drop] at h2
     exact h2
    have HD3:Hid (L.drop (j+1)=xs.drop (j+1)):=by
     have h2:=congrArg (List.drop 1) (zA0 HD)
     rw[List.drop_drop,List.drop_drop] at h2
     exact h2
    clear hx hxL ho hg hLn
    rcases Bool.eq_false_or_eq_true (zAr x) with e1|e1
    ·have e2:(x.k == 0)=true:=e1
     rw[e2] at HP
     have HN:=zA3 (zIG (zA0 HX) (by simp[zAr] at e1;simp[e1]))
     clear hy e1 e2
     go_wp2_with (go_at_call 103;refine(zA0 HP _).mono ?_;rintro e w2 ⟨rfl,Hh⟩;replace Hh:=zA3 Hh)
     go_roundw
     case rel=>(exact⟨i,j+1,L,rfl,by go_num,by omega,by omega,by rw[zA0 HN];exact HT,HD3,((zA0 Fh).later bl).later (zA0 Hh),((zA0 HGw).trans (zAt.of_below bl _)).trans (zAt.of_below (zA0 Hh) _)⟩)
     case measure=>first | (simp[intOf];omega) | (simp only[intOf];omega)
    ·have e2:(x.k == 0)=false:=e1
     rw[e2] at HP
     have HN:=zA3 (zJG (zA0 HX) (by simp[zAr] at e1;simp[e1]))
     have Fi:=zA3 (show i<L.length by have:=zA0 ym;omega)
     have HY:=zA3 hy
     have i2:(i:Int)<(xs.length:Int):=by omega
     clear hy e1 e2
     have FACT:Hid (∀w2,Below (wr.alloc (.cells #[.int .i64 x.k,.int .i64 x.n,.string x.s] 59)).heap.size (wr.alloc (.cells #[.int .i64 x.k,.int .i64 x.n,.string x.s] 59)) w2->Hid (zAV w2 base (.slice (some ⟨g,0,none⟩) xs.length cap) L)/\Hid (zAt w w2 (.slice (some ⟨g,0,none⟩) xs.length cap) (.slice (some ⟨g,0,none⟩) xs.length cap))/\(w2.cell? ⟨wr.heap.size,0,none⟩=some (.int .i64 x.k)/\w2.cell? ⟨wr.heap.size,1,none⟩=some (.int .i64 x.n)/\w2.cell? ⟨wr.heap.size,2,none⟩=some (.string x.s))/\(w2.cell? ⟨g,i*3,none⟩=some (.int .i64 y.k)/\w2.cell? ⟨g,i*3+1,none⟩=some (.int .i64 y.n)/\w2.cell? ⟨g,i*3+2,none⟩=some (.string y.s)/\w2.frozen? ⟨g,i*3,none⟩=false/\w2.frozen? ⟨g,i*3+1,none⟩=false/\w2.frozen? ⟨g,i*3+2,none⟩=false)):=fun w2 Hh=>by
      have h1:=((zA0 Fh).later bl).later Hh
      obtain⟨To,_⟩:=zCR Hh
      refine⟨h1,((zA0 HGw).trans (zAt.of_below bl _)).trans (zAt.of_below Hh _),⟨?_,?_,?_⟩,h1.facts (zA0 HY)⟩
      all_goals (rw[To _ _ (by simp)];simp[go_sem])
     go_wp2_with (go_at_call 103;refine(zA0 HP _).mono ?_;rintro e w2 ⟨rfl,Hh⟩;obtain⟨QN,Gt,⟨x0,x1,x2⟩,d0,d1,d2,f0,f1,f2⟩:=zA0 FACT w2 Hh;clear Hh)
     go_roundw
     case rel=>
      refine⟨i+1,j+1,L.set i x,by go_num,by go_num,by omega,by omega,?_,zA0 qm i x (by omega),(zA0 QN).put (zA0 Fi) x,(((zA0 Gt).store _).store _).store _⟩
      show _=_
      rw[zA0 HN,<-zA0 HT,List.take_succ_eq_append_getElem (by rw[List.length_set];exact zA0 Fi),List.take_set_of_le (Nat.le_refl _)]
      simp
     case measure=>first | (simp[intOf];omega) | (simp only[intOf];omega)
   ·have i1:¬(j:Int)<(xs.length:Int):=by omega
    have qA:j=xs.length:=by omega
    obtain⟨wc,QL,hoc,FO⟩:=ho.clear (i:=i) (by omega) 0
    have qN:Hid (L.take i=zAA xs):=by
     show _=_
     rw[zA0 HT,qA,List.take_length]
    have QN:=zA3 hoc
    have Gt:=zA3 (hg.trans FO)
    have Dv:=zA3 hg
    clear ho hg hoc FO hLn qA
    go_wp2
    go_ret
    exact⟨_,rfl,by rw[<-zA0 qN];exact zA0 QN,zA0 Gt⟩
theorem zQG:∀(s t:List UInt8),Lib.compareBytes s t=- Lib.compareBytes t s
 | [],[]=>rfl
 | [],b::t=>rfl
 | a::s,[]=>rfl
 | a::s,b::t=>by
  rw[Lib.compareBytes,Lib.compareBytes]
  by_cases h:a<b
  ·have h2:¬b<a:=fun h3=>absurd (UInt8.lt_trans h h3) (UInt8.lt_irrefl a)
   simp[h,h2]
  ·by_cases h2:b<a
   ·simp[h,h2]
   ·simp only[h,h2,if_false]
    exact zQG s t
theorem zQF:∀(s t:List UInt8),Lib.compareBytes s t=0->s=t
 | [],[],_=>rfl
 | [],b::t,h=>by simp[Lib.compareBytes] at h
 | a::s,[],h=>by simp[Lib.compareBytes] at h
 | a::s,b::t,h=>by
  rw[Lib.compareBytes] at h
  by_cases h1:a<b
  ·simp[h1] at h
  ·by_cases h2:b<a
   ·simp[h1,h2] at h
   ·simp only[h1,h2,if_false] at h
    have e:a=b:=UInt8.le_antisymm (UInt8.not_lt.1 h2) (UInt8.not_lt.1 h1)
    rw[e,zQF s t h]
theorem zUN:∀(s t u:List UInt8),Lib.compareBytes s t<=0->Lib.compareBytes t u<=0->Lib.compareBytes s u<=0
 | [],t,[],_,_=>by simp[Lib.compareBytes]
 | [],t,c::u,_,_=>by simp[Lib.compareBytes]
 | a::s,[],u,h,_=>by simp[Lib.compareBytes] at h
 | a::s,b::t,[],_,h=>by simp[Lib.compareBytes] at h
 | a::s,b::t,c::u,h1,h2=>by
  rw[Lib.compareBytes] at h1 h2 ⊢
  by_cases yh:a<b
  ·by_cases ZQ:b<c
   ·have:=UInt8.lt_trans yh ZQ
    simp[this]
   ·by_cases JV:c<b
    ·simp[ZQ,JV] at h2
    ·have e:b=c:=UInt8.le_antisymm (UInt8.not_lt.1 JV) (UInt8.not_lt.1 ZQ)
     subst e
     simp[yh]
  ·by_cases ZD:b<a
   ·simp[yh,ZD] at h1
   ·have e:a=b:=UInt8.le_antisymm (UInt8.not_lt.1 ZD) (UInt8.not_lt.1 yh)
    subst e
    simp only[yh,if_false] at h1
    by_cases ZQ:a<c
    ·simp[ZQ]
    ·by_cases JV:c<a
     ·simp[ZQ,JV] at h2
     ·simp only[ZQ,JV,if_false] at h2 ⊢
      exact zUN s t u h1 h2
theorem zM1(x y:Int):zEQ x y<0 ↔ x<y:=by unfold zEQ;split<;>(try split)<;>omega
theorem zFR(x y:Int):zEQ x y=0 ↔ x=y:=by unfold zEQ;split<;>(try split)<;>omega
theorem zK2(x y:Int):zEQ x y=- zEQ y x:=by unfold zEQ;split<;>(try split)<;>(try split)<;>omega
theorem zU8(x y z:Int):orI x y z<=0 ↔ x<0∨(x=0/\(y<0∨(y=0/\z<=0))):=by unfold orI;split<;>(try split)<;>omega
theorem zRQ(x y z:Int):orI x y z=0 ↔ x=0/\y=0/\z=0:=by unfold orI;split<;>(try split)<;>omega
theorem zBA(x y:Val):zAh x y=- zAh y x:=by
 unfold zAh
 rw[zK2 (zA8 x).k,zK2 (zA8 x).n]
 have:=zQG (zA8 x).s.data.toList (zA8 y).s.data.toList
 have e:zK3 (zA8 x).s (zA8 y).s=- zK3 (zA8 y).s (zA8 x).s:=this
 rw[e]
 unfold orI
 split<;>(try split)<;>(try split)<;>(try split)<;>omega
theorem zBz{x y z:Val}(h1:zAh x y<=0)(h2:zAh y z<=0):zAh x z<=0:=by
 unfold zAh at *
 rw[zU8,zM1,zFR,zM1,zFR] at *
 have h3:=zUN (zA8 x).s.data.toList (zA8 y).s.data.toList (zA8 z).s.data.toList
 have h4:zK3 (zA8 x).s (zA8 y).s<=0->zK3 (zA8 y).s (zA8 z).s<=0->zK3 (zA8 x).s (zA8 z).s<=0:=h3
 generalize zK3 (zA8 x).s (zA8 y).s=p at *
 generalize zK3 (zA8 y).s (zA8 z).s=q at *
 generalize zK3 (zA8 x).s (zA8 z).s=r at *
 omega
theorem zC5(x:Val):zAh x x=0:=by have:=zBA x x;omega
theorem zJc{x y:Val}(h:zAh x y=0):zA8 x=zA8 y:=by
 unfold zAh at h
 rw[zRQ,zFR,zFR] at h
 obtain⟨h1,h2,h3⟩:=h
 have h4:=zQF _ _ h3
 cases hx:zA8 x with
 | mk a b c=>
  cases hy:zA8 y with
  | mk a' b' c'=>
   rw[hx,hy] at h1 h2 h4
   simp only at h1 h2 h4
   rw[h1,h2]
   congr 1
   exact ByteArray.ext (Array.toList_inj.1 h4)
def ltV(x y:Val):Bool:=decide (zAh x y<0)
theorem swoV:SWO ltV where
 irrefl x:=by simp[ltV,zC5]
 trans x y z h1 h2:=by
  simp only[ltV,decide_eq_true_eq] at *
  have h3:=zBz (x:=x) (y:=y) (z:=z) (by omega) (by omega)
  rcases Int.lt_or_eq_of_le h3 with h|h
  ·exact h
  ·have h4:=zBA x z
   have h5:=zBz (x:=z) (y:=x) (z:=y) (by omega) (by omega)
   have h6:=zBA y z
   omega
 ntrans x y z h1 h2:=by
  simp only[ltV,decide_eq_false_iff_not] at *
  have a1:=zBA x y
  have a2:=zBA y z
  have a3:=zBA x z
  have h3:=zBz (x:=z) (y:=y) (z:=x) (by omega) (by omega)
  omega
theorem zC4{x y:Val}:zB1 x y=true ↔ x=y:=by
 unfold zB1
 constructor
 ·intro h
  simp only[Bool.and_eq_true,beq_iff_eq] at h
  obtain⟨⟨h1,h2⟩,h3⟩:=h
  cases x;cases y
  simp only at h1 h2 h3
  rw[h1,h2]
  congr 1
  rw[Lib.toList_data,Lib.toList_data] at h3
  exact ByteArray.ext (Array.toList_inj.1 h3)
 ·rintro rfl;simp
def zCw(xs:List Val):Nat->List Val
 | 0=>xs.take 1
 | j+1=>zCw xs j++(if zB1 (xs.getD (j+1) Val.null) (xs.getD j Val.null) then [] else [xs.getD (j+1) Val.null])
def zCH(xs:List Val):List Val:=zCw xs (xs.length-1)
theorem zDG{xs:List Val}{j:Nat}{x y:Val}(hx:xs[j+1]?=some x)(hy:xs[j]?=some y):zCw xs (j+1)=zCw xs j++(if zB1 x y then [] else [x]):=by
 simp only[zCw,List.getD_eq_getElem?_getD,hx,hy,Option.getD_some]
theorem zLz(xs:List Val):∀j,j<xs.length->(zCw xs j).Sublist (xs.take (j+1))
 | 0,_=>List.Sublist.refl _
 | j+1,h=>by
  rw[zDG (zAf h) (zAf (by omega:j<xs.length)),List.take_succ_eq_append_getElem h]
  refine List.Sublist.append (zLz xs j (by omega)) ?_
  split
  ·exact List.nil_sublist _
  ·exact List.Sublist.refl _
theorem zEN(xs:List Val):(zCH xs).Sublist xs:=by
 unfold zCH
 by_cases h:xs.length=0
 ·have:xs=[]:=List.eq_nil_of_length_eq_zero h
  subst this
  exact List.Sublist.refl _
 ·have:=zLz xs (xs.length-1) (by omega)
  rw[show xs.length-1+1=xs.length by omega,List.take_length] at this
  exact this
theorem zQ6(xs:List Val):(zCH xs).length<=xs.length:=(zEN xs).length_le
theorem zIl(xs:List Val):∀j,j<xs.length->∀i x,i<=j->xs[i]?=some x->x∈zCw xs j
 | 0,h,i,x,hi,hx=>by
  have:i=0:=by omega
  subst this
  obtain⟨h1,rfl⟩:=zAL hx
  simp only[zCw]
  rw[List.take_one]
  simp[List.head?_eq_getElem?,hx]
 | j+1,h,i,x,hi,hx=>by
  have e1:xs[j+1]?=some xs[j+1]:=zAf h
  have e2:xs[j]?=some (xs[j]'(by omega)):=zAf (by omega)
  rw[zDG e1 e2,List.mem_append]
  by_cases ZX:i<=j
  ·exact .inl (zIl xs j (by omega) i x ZX hx)
  ·have:i=j+1:=by omega
   subst this
   rw[hx] at e1
   injection e1 with e1
   rw[<-e1]
   by_cases hs:zB1 x (xs[j]'(by omega))=true
   ·rw[if_pos hs]
    left
    have:=zC4.1 hs
    rw[this]
    exact zIl xs j (by omega) j _ (Nat.le_refl _) e2
   ·rw[if_neg hs]
    right
    simp
theorem zK0{xs:List Val}{x:Val}(h:x∈xs):x∈zCH xs:=by
 obtain⟨i,hi,rfl⟩:=List.getElem_of_mem h
 exact zIl xs _ (by omega) i _ (by omega) (zAf hi)
def zBe(xs:List Val):Prop:=xs.Pairwise fun x y=>zAh x y<=0
theorem zIM{xs ys:List Val}(h1:zBe xs)(h2:zBe ys)(hp:xs.Perm ys)(hc:∀x∈xs,zA8 x=x):xs=ys:=
 List.Perm.eq_of_pairwise (le:=fun x y=>zAh x y<=0) (fun a b ha hb h3 h4=>by
  have:=zBA a b
  have:=zJc (x:=a) (y:=b) (by omega)
  rw[hc a ha,hc b (hp.mem_iff.2 hb)] at this
  exact this) h1 h2 hp
theorem zBe.at{xs:List Val}(h:zBe xs){a b:Nat}{x y:Val}(yh:a<=b)(hx:xs[a]?=some x)(hy:xs[b]?=some y):zAh x y<=0:=by
 by_cases e:a=b
 ·subst e
  rw[hx] at hy
  injection hy with hy
  subst hy
  rw[zC5]
  omega
 ·obtain⟨ha,rfl⟩:=zAL hx
  obtain⟨hb,rfl⟩:=zAL hy
  exact List.pairwise_iff_getElem.1 h a b ha hb (by omega)
theorem zL7{xs:List Val}(h:zBe xs):zBe (zCH xs):=h.sublist (zEN xs)
theorem zBe.mono{xs:List Val}(h:zBe xs)(t:Val):∀(a b:Nat) (x y:Val),a<=b->xs[a]?=some x->xs[b]?=some y->zAh y t<0->zAh x t<0:=fun a b x y yh hx hy hl=>by
 have h1:=h.at yh hx hy
 have h2:=zBz h1 (by omega:zAh y t<=0)
 rcases Int.lt_or_eq_of_le h2 with h3|h3
 ·exact h3
 ·have h4:=zBA x t
  have h5:=zBz (x:=t) (y:=x) (z:=y) (by omega) h1
  have h6:=zBA t y
  omega
def zF1(xs:List Val)(t:Val):Nat:=(xs.takeWhile fun x=>decide (zAh x t<0)).length
theorem zKm{xs:List Val}{t:Val}{k:Nat}(hk:k<=xs.length)(h1:∀a x,a<k->xs[a]?=some x->zAh x t<0)(h2:∀a x,k<=a->xs[a]?=some x->¬zAh x t<0):zF1 xs t=k:=
 zDW _ xs k (fun i y hi hy=>by simp[h1 i y hi hy]) hk (fun y hy=>by simpa using h2 k y (Nat.le_refl _) hy)
theorem zIO{xs:List Val}{t:Val}(h:t∈xs):zF1 xs t<xs.length:=by
 unfold zF1
 rcases Nat.lt_or_ge (xs.takeWhile fun x=>decide (zAh x t<0)).length xs.length with h1|h1
 ·exact h1
 ·exfalso
  have h2:xs.takeWhile (fun x=>decide (zAh x t<0))=xs:=by
   obtain⟨r,hr⟩:=List.takeWhile_prefix (l:=xs) (fun x=>decide (zAh x t<0))
   have:r.length=0:=by have:=congrArg List.length hr;rw[zAX] at this;omega
   rw[List.eq_nil_of_length_eq_zero this,List.append_nil] at hr
   exact hr
  have h3:=List.all_takeWhile (l:=xs) (p:=fun x=>decide (zAh x t<0))
  rw[h2,List.all_eq_true] at h3
  have:=h3 t h
  simp[zC5] at this
end Go.Proofs.YtekgpapophibcaaGreat
