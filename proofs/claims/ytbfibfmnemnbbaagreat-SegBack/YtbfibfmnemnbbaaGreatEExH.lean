import Derived.Test.YtbfibfmnemnbbaaGreatEExA
import Derived.Test.YtbfibfmnemnbbaaGreatECellC
set_option linter.unusedSimpArgs false
set_option linter.unusedVariables false
namespace Go.Proofs.YtbfibfmnemnbbaaGreat.E
open Go.RowKit Go.Sort
mutual
def measE(p:Ex->Bool):Ex->Int->Int->Int×Int×Bool
 | .mk op n v l,N,H=>if decide (N<1) || decide (H<1) || !p (.mk op n v l) then (0,0,false) else match measL p l N H 1 0 with
  | some (c,h)=>(c,h+1,true)
  | none=>(0,0,false)
def measL(p:Ex->Bool):List Ex->Int->Int->Int->Int->Option (Int×Int)
 | [],_,_,c,h=>some (c,h)
 | e::l,N,H,c,h=>if (measE p e (N-c) (H-1)).2.2 then measL p l N H (c+(measE p e (N-c) (H-1)).1) (max h (measE p e (N-c) (H-1)).2.1) else none
end
mutual
theorem meas_le(p:Ex->Bool):∀(e:Ex) (N H:Int) {c h:Int},measE p e N H=(c,h,true)->1<=c/\c<=N/\1<=h/\h<=H
 | .mk op n v l,N,H,c,h,he=>by
  rw[measE] at he
  split at he
  ·injection he with _ he;injection he with _ he;cases he
  ·rename_i hc
   simp only[Bool.or_eq_true,decide_eq_true_eq,not_or] at hc
   cases hm:measL p l N H 1 0 with
   | none=>rw[hm] at he;simp only at he;injection he with _ he;injection he with _ he;cases he
   | some q=>
    rw[hm] at he
    simp only at he
    injection he with e1 e2
    injection e2 with e2 _
    have:=measL_le p l N H 1 0 (c':=q.1) (h':=q.2) (by omega) (by omega) (by omega) (by omega) hm
    omega
theorem measL_le(p:Ex->Bool):∀(l:List Ex) (N H c h:Int) {c' h':Int},1<=c->c<=N->0<=h->h<=H-1->measL p l N H c h=some (c',h')->c<=c'/\c'<=N/\h<=h'/\h'<=H-1
 | [],N,H,c,h,c',h',h1,h2,h3,h4,he=>by
  rw[measL] at he
  injection he with he;injection he with e1 e2
  omega
 | e::l,N,H,c,h,c',h',h1,h2,h3,h4,he=>by
  rw[measL] at he
  split at he
  ·rename_i hok
   obtain⟨c2,h2',ok,hm⟩:∃c2 h2 ok,measE p e (N-c) (H-1)=(c2,h2,ok):=⟨_,_,_,rfl⟩
   rw[hm] at he hok
   simp only at he hok
   subst hok
   have g:=meas_le p e (N-c) (H-1) hm
   have:=measL_le p l N H (c+c2) (max h h2') (by omega) (by omega) (by omega) (by omega) he
   omega
  ·cases he
end
theorem measE_eq(p:Ex->Bool)(e:Ex)(N H:Int):measE p e N H=if decide (N<1) || decide (H<1) || !p e then (0,0,false) else match measL p e.args N H 1 0 with
  | some (c,h)=>(c,h+1,true)
  | none=>(0,0,false):=by cases e;rw[measE];rfl
def builtE(e:Ex):Bool:=(measE soundE e 400 40).2.2
end Go.Proofs.YtbfibfmnemnbbaaGreat.E
set_option linter.unusedSimpArgs false
set_option linter.unusedVariables false
set_option maxHeartbeats 2000000
set_option maxRecDepth 100000
namespace Go.Proofs.YtbfibfmnemnbbaaGreat.E
open Go.RowKit Go.Sort
mutual
def Ex.fin:Ex->Prop
 | .mk op n v l=>(l.length<=140737488355328/\v.s.size<=140737488355328/\In64 v.n/\In64 n)/\Ex.fins l
def Ex.fins:List Ex->Prop
 | []=>True
 | e::l=>e.fin/\Ex.fins l
end
theorem Ex.fin_open{e:Ex}(h:e.fin):(e.args.length<=140737488355328/\e.v.s.size<=140737488355328/\In64 e.v.n/\In64 e.n)/\Ex.fins e.args:=by
 cases e with
 | mk op n v l=>rw[Ex.fin] at h;exact h
theorem Ex.fins_mem:∀{l:List Ex} {x:Ex},Ex.fins l->x∈l->x.fin
 | [],_,_,h=>by cases h
 | e::l,x,hf,h=>by
  rw[Ex.fins] at hf
  rcases List.mem_cons.1 h with rfl|h
  ·exact hf.1
  ·exact Ex.fins_mem hf.2 h
theorem Ex.fin_arg{e x:Ex}{i:Nat}(h:e.fin)(hx:e.args[i]?=some x):x.fin:=Ex.fins_mem (Ex.fin_open h).2 (List.mem_of_getElem? hx)
theorem below_one{w w':World}{o:Obj}(h:Below (w.alloc o).heap.size (w.alloc o) w'):Below w.heap.size w w':=below_step (below_alloc (Below.refl _ _) o) h
theorem max_if(x y:Int):(if x<y then y else x)=max x y:=by
 by_cases h:x<y
 ·rw[if_pos h];omega
 ·rw[if_neg h];omega
abbrev M3 (m:Int×Int×Bool):Ending:=.returned (.tuple #[.int .i64 m.1,.int .i64 m.2.1,.bool m.2.2])
theorem measured_step(e:Ex)(hf:e.fin)(N H:Int)(a:Option Addr)(c:Nat)(w:World)(hN0:0<=N)(hN:N<=40000000)(hH0:0<=H)(hH:H<=200000)(ha:Ex.all w a e.args)
  (IH:∀(i:Nat) (x:Ex),e.args[i]?=some x->∀(N' H':Int) (a':Option Addr) (c':Nat) (W:World),0<=N'->N'<=40000000->0<=H'->H'<=200000->Ex.all W a' x.args->Calls Tryz.prog 74 #[x.val a' c',.int .i64 N',.int .i64 H',.func (.func 75) #[] #[]] W fun r w'=>r=M3 (measE soundE x N' H')/\Below W.heap.size W w') :
  Calls Tryz.prog 74 #[e.val a c,.int .i64 N,.int .i64 H,.func (.func 75) #[] #[]] w fun r w'=>r=M3 (measE soundE e N H)/\Below w.heap.size w w':=by
 obtain⟨⟨hl,hv,_,_⟩,_⟩:=Ex.fin_open hf
 have HS:=hide (fun W=>sound_any e a c W hl hv)
 obtain⟨R,hR⟩:∃R,R=measE soundE e N H:=⟨_,rfl⟩
 have HR:Hid (R=if decide (N<1) || decide (H<1) || !soundE e then (0,0,false) else match measL soundE e.args N H 1 0 with
  | some (c,h)=>(c,h+1,true)
  | none=>(0,0,false)):=by rw[hR];exact measE_eq soundE e N H
 rw[<-hR]
 have H6:Hid (Six (w.alloc (.cells #[.int .i64 e.op,.int .i64 e.n,.int .i64 e.v.k,.int .i64 e.v.n,.string e.v.s,.slice a e.args.length c] 28)) w.heap.size e a c):=Six.new w e a c
 have HB:=hide (below_alloc (Below.refl _ w) (.cells #[.int .i64 e.op,.int .i64 e.n,.int .i64 e.v.k,.int .i64 e.v.n,.string e.v.s,.slice a e.args.length c] 28))
 have HIH:=hide IH
 have HAL:=hide ha
 rw[Ex.val_open] at HS ⊢
 clear hR ha IH
 by_cases h1:N<1
 ·go_enter Tryz.func74,Tryz.ntmps74
  go_wp2
  refine bodyPost_ret (v:=.tuple #[.int .i64 0,.int .i64 0,.bool false]) (by simp[results,Tryz.results74,go_sem]) rfl ⟨by rw[unhide HR];simp[h1],unhide HB⟩
 by_cases h2:H<1
 ·go_enter Tryz.func74,Tryz.ntmps74
  go_wp2
  refine bodyPost_ret (v:=.tuple #[.int .i64 0,.int .i64 0,.bool false]) (by simp[results,Tryz.results74,go_sem]) rfl ⟨by rw[unhide HR];simp[h2],unhide HB⟩
 obtain⟨sb,hsb⟩:∃sb,sb=soundE e:=⟨_,rfl⟩
 rw[<-hsb] at HS HR
 have n1:decide (N<1)=false:=by simpa using h1
 have n2:decide (H<1)=false:=by simpa using h2
 rw[n1,n2] at HR
 cases sb with
 | false=>
  clear hsb n1 n2
  go_enter Tryz.func74,Tryz.ntmps74
  go_wp2_with (go_at_call 75;refine(unhide HS _).mono ?_;rintro e' w1 ⟨rfl,hb1⟩)
  refine bodyPost_ret (v:=.tuple #[.int .i64 0,.int .i64 0,.bool false]) (by simp[results,Tryz.results74,go_sem]) rfl ⟨by rw[unhide HR];rfl,below_one hb1⟩
 | true=>
  clear hsb n1 n2
  have HR2:Hid (R=match measL soundE e.args N H 1 0 with
   | some (c,h)=>(c,h+1,true)
   | none=>(0,0,false)):=by have:=unhide HR;show _=_;simpa using this
  clear HR
  go_enter Tryz.func74,Tryz.ntmps74
  go_wp2_with (go_at_call 75;refine(unhide HS _).mono ?_;rintro e' w1 ⟨rfl,hb1⟩;obtain⟨c0,c1,c2,c3,c4,c5⟩:=(unhide H6).later hb1)
  have HB1:=hide (below_step (unhide HB) hb1)
  have HAL1:=hide (Ex.all_later _ (unhide HAL) (unhide HB1))
  clear hb1 HS
  go_loopw[11,12,33] (fun s11 s12 i wr=>∃(k:Nat) (cc hh:Int),k<=e.args.length/\i=.int .i64 (k:Int)/\s11=.int .i64 cc/\s12=.int .i64 hh/\1<=cc/\cc<=N/\0<=hh/\hh<=H-1/\Hid (measL soundE e.args N H 1 0=measL soundE (e.args.drop k) N H cc hh)/\Below w1.heap.size w1 wr) (fun _ _ i _=>e.args.length-(intOf i).toNat)
  case atStart=>exact⟨0,1,0,Nat.zero_le _,rfl,rfl,rfl,by omega,by omega,by omega,by omega,rfl,Below.refl _ _⟩
  case round=>
   obtain⟨k,cc,hh,hk,rfl,rfl,rfl,g1,g2,g3,g4,HM,hb⟩:=hrel
   by_cases hlt:k<e.args.length
   ·have h9:(k:Int)<(e.args.length:Int):=by omega
    obtain⟨x,hx⟩:∃x,e.args[k]?=some x:=⟨_,List.getElem?_eq_getElem hlt⟩
    have hd:e.args.drop k=x::e.args.drop (k+1):=by
     obtain⟨q1,q2⟩:=List.getElem?_eq_some_iff.1 hx
     rw[List.drop_eq_getElem_cons q1,q2]
    obtain⟨vb,vo,ea,hat⟩:=Ex.all_get (Ex.all_later _ (unhide HAL1) hb) hx
    obtain⟨a',c',⟨d0,d1,d2,d3,d4,d5⟩,hal⟩:=Ex.at_open hat
    have HC:=hide (unhide HIH k x hx (N-cc) (H-1) a' c' (wr.alloc (.cells #[.int .i64 x.op,.int .i64 x.n,.int .i64 x.v.k,.int .i64 x.v.n,.string x.v.s,.slice a' x.args.length c'] 28)) (by omega) (by omega) (by omega) (by omega) (Ex.all_later _ hal (below_alloc (Below.refl _ _) _)))
    rw[Ex.val_open] at HC
    rw[hd,measL] at HM
    obtain⟨q,hq⟩:∃q,measE soundE x (N-cc) (H-1)=q:=⟨_,rfl⟩
    rw[hq] at HC HM
    have HQ:=hide hq
    obtain⟨c2',h2',ok⟩:=q
    have HB2:=hide (below_alloc hb (.cells #[.int .i64 x.op,.int .i64 x.n,.int .i64 x.v.k,.int .i64 x.v.n,.string x.v.s,.slice a' x.args.length c'] 28))
    subst ea
    clear hx hd hat hal hq hb
    cases ok with
    | false=>
     have HE:Hid (R=(0,0,false)):=by have h1:=unhide HM;have h2:=unhide HR2;rw[h1] at h2;show _=_;simpa using h2
     clear HM HQ
     go_wp2_with (go_at_call 74;refine(unhide HC).mono ?_;rintro r w3 ⟨rfl,hb3⟩)
     refine bodyPost_ret (v:=.tuple #[.int .i64 0,.int .i64 0,.bool false]) (by simp[results,Tryz.results74,go_sem]) rfl ⟨by rw[unhide HE],below_step (unhide HB1) (below_step (unhide HB2) hb3)⟩
    | true=>
     obtain⟨m1,m2,m3,m4⟩:=meas_le soundE x (N-cc) (H-1) (unhide HQ)
     have HM2:Hid (measL soundE e.args N H 1 0=measL soundE (e.args.drop (k+1)) N H (cc+c2') (max hh h2')):=by have:=unhide HM;show _=_;simpa using this
     clear HM HQ
     go_wp2_with (go_at_call 74;refine(unhide HC).mono ?_;rintro r w3 ⟨rfl,hb3⟩)
     refine⟨⟨k+1,cc+c2',max hh h2',by omega,by go_num,rfl,by rw[max_if],by omega,by omega,by omega,by omega,HM2,below_step (unhide HB2) hb3⟩,by simp[intOf];omega⟩
   ·have h9:¬(k:Int)<(e.args.length:Int):=by omega
    have HE:Hid (R=(cc,hh+1,true)):=by
     have h1:=unhide HM
     have h2:=unhide HR2
     rw[List.drop_eq_nil_of_le (by omega),measL] at h1
     rw[h1] at h2
     exact h2
    have HBE:=hide (below_step (unhide HB1) hb)
    clear HM HR2 hb
    go_wp2
    refine bodyPost_ret (v:=.tuple #[.int .i64 cc,.int .i64 (hh+1),.bool true]) (by simp[results,Tryz.results74,go_sem]) rfl ⟨by rw[unhide HE],unhide HBE⟩
theorem measured_all:∀(k:Nat) (e:Ex),e.size<=k->e.fin->∀(N H:Int) (a:Option Addr) (c:Nat) (w:World),0<=N->N<=40000000->0<=H->H<=200000->Ex.all w a e.args->Calls Tryz.prog 74 #[e.val a c,.int .i64 N,.int .i64 H,.func (.func 75) #[] #[]] w fun r w'=>r=M3 (measE soundE e N H)/\Below w.heap.size w w'
 | 0,e,hs,_,_,_,_,_,_,_,_,_,_,_=>by rw[Ex.size_mk] at hs;omega
 | k+1,e,hs,hf,N,H,a,c,w,h1,h2,h3,h4,ha=>measured_step e hf N H a c w h1 h2 h3 h4 ha fun i x hx N' H' a' c' W g1 g2 g3 g4 hW=>
  measured_all k x (by have:=Ex.size_arg hx;omega) (Ex.fin_arg hf hx) N' H' a' c' W g1 g2 g3 g4 hW
theorem built_any(e:Ex)(hf:e.fin)(a:Option Addr)(c:Nat)(w:World)(ha:Ex.all w a e.args) :
  Calls Tryz.prog 50 #[e.val a c] w fun r w'=>r=.returned (.bool (builtE e))/\Below w.heap.size w w':=by
 have HM:=hide (fun o=>measured_all e.size e (Nat.le_refl _) hf 400 40 a c (w.alloc o) (by omega) (by omega) (by omega) (by omega) (Ex.all_later _ ha (below_alloc (Below.refl _ _) o)))
 obtain⟨q,hq⟩:∃q,measE soundE e 400 40=q:=⟨_,rfl⟩
 have hb:builtE e=q.2.2:=by rw[<-hq];rfl
 rw[hb]
 rw[hq] at HM
 obtain⟨c2,h2,ok⟩:=q
 rw[Ex.val_open] at HM ⊢
 clear hq hb ha
 go_enter Tryz.func50,Tryz.ntmps50
 go_wp2_with (go_at_call 74;refine(unhide HM _).mono ?_;rintro r w1 ⟨rfl,hb1⟩)
 go_ret
 exact⟨rfl,below_one hb1⟩
end Go.Proofs.YtbfibfmnemnbbaaGreat.E
set_option linter.unusedSimpArgs false
set_option linter.unusedVariables false
namespace Go.Proofs.YtbfibfmnemnbbaaGreat.E
open Go.RowKit Go.Sort
def IntsAt(w:World)(a:Option Addr)(l:List Int):Prop:=l=[]∨∃b off,a=some ⟨b,off,none⟩/\∀i x,l[i]?=some x->w.cell? ⟨b,off+i,none⟩=some (.int .i64 x)
theorem IntsAt.later{w w':World}{a:Option Addr}{l:List Int}(h:IntsAt w a l)(hb:Below w.heap.size w w'):IntsAt w' a l:=by
 rcases h with h|⟨b,off,ha,h⟩
 ·exact .inl h
 ·exact .inr ⟨b,off,ha,fun i x hx=>clater (h i x hx) hb⟩
theorem IntsAt.get{w:World}{a:Option Addr}{l:List Int}{k:Nat}{x:Int}(h:IntsAt w a l)(hx:l[k]?=some x):∃b off,a=some ⟨b,off,none⟩/\w.cell? ⟨b,off+k,none⟩=some (.int .i64 x):=by
 rcases h with h|⟨b,off,ha,h⟩
 ·rw[h] at hx;cases hx
 ·exact⟨b,off,ha,h k x hx⟩
theorem any_at{α:Type}{p:α->Bool}{l:List α}{k:Nat}{x:α}(h:l[k]?=some x)(hp:p x=true):l.any p=true:=List.any_eq_true.2 ⟨x,List.mem_of_getElem? h,hp⟩
theorem any_no{α:Type}{p:α->Bool}{l:List α}(h:∀i x,i<l.length->l[i]?=some x->p x=false):l.any p=false:=by
 rw[List.any_eq_false]
 intro y hy
 obtain⟨i,hi⟩:=List.mem_iff_getElem?.1 hy
 rw[h i y (List.getElem?_eq_some_iff.1 hi).1 hi];simp
theorem no_step{α:Type}{p:α->Bool}{l:List α}{k:Nat}{x:α}(h:∀i x,i<k->l[i]?=some x->p x=false)(hx:l[k]?=some x)(hp:p x=false):∀i x,i<k+1->l[i]?=some x->p x=false:=by
 intro i z hi hz
 by_cases e:i=k
 ·subst e;rw[hx] at hz;injection hz with hz;rw[<-hz];exact hp
 ·exact h i z (by omega) hz
end Go.Proofs.YtbfibfmnemnbbaaGreat.E
set_option linter.unusedSimpArgs false
set_option linter.unusedVariables false
namespace Go.Proofs.YtbfibfmnemnbbaaGreat.E
open Go.RowKit Go.Sort
def Box1(w:World)(B:Nat)(v:Value):Prop:=w.cell? ⟨B,0,none⟩=some v
theorem Box1.later{w w':World}{B:Nat}{v:Value}(h:Box1 w B v)(hb:Below w.heap.size w w'):Box1 w' B v:=clater h hb
end Go.Proofs.YtbfibfmnemnbbaaGreat.E
set_option linter.unusedSimpArgs false
set_option linter.unusedVariables false
namespace Go.Proofs.YtbfibfmnemnbbaaGreat.E
open Go.RowKit Go.Sort
mutual
def goodE:Ex->Prop
 | .mk op n v l=>soundE (.mk op n v l)=true/\goodL l
def goodL:List Ex->Prop
 | []=>True
 | e::l=>goodE e/\goodL l
end
theorem good_open{e:Ex}(h:goodE e):soundE e=true/\goodL e.args:=by
 cases e with
 | mk op n v l=>rw[goodE] at h;exact h
theorem goodL_mem:∀{l:List Ex} {x:Ex},goodL l->x∈l->goodE x
 | [],_,_,h=>by cases h
 | e::l,x,hf,h=>by
  rw[goodL] at hf
  rcases List.mem_cons.1 h with rfl|h
  ·exact hf.1
  ·exact goodL_mem hf.2 h
theorem good_arg{e x:Ex}{i:Nat}(h:goodE e)(hx:e.args[i]?=some x):goodE x:=goodL_mem (good_open h).2 (List.mem_of_getElem? hx)
mutual
theorem meas_good:∀(e:Ex) (N H:Int),(measE soundE e N H).2.2=true->goodE e
 | .mk op n v l,N,H,he=>by
  rw[measE] at he
  split at he
  ·cases he
  ·rename_i hc
   simp only[Bool.or_eq_true,Bool.not_eq_true',not_or] at hc
   cases hm:measL soundE l N H 1 0 with
   | none=>rw[hm] at he;cases he
   | some q=>
    rw[goodE]
    exact⟨by simpa using hc.2,measL_good l N H 1 0 (by rw[hm];rfl)⟩
theorem measL_good:∀(l:List Ex) (N H c h:Int),(measL soundE l N H c h).isSome=true->goodL l
 | [],N,H,c,h,he=>by rw[goodL];trivial
 | e::l,N,H,c,h,he=>by
  rw[measL] at he
  split at he
  ·rename_i hok
   rw[goodL]
   exact⟨meas_good e _ _ hok,measL_good l _ _ _ _ he⟩
  ·cases he
end
theorem built_good{e:Ex}(h:builtE e=true):goodE e:=meas_good e _ _ h
theorem sound_len{e:Ex}(h:soundE e=true):(e.args.length:Int)=arI e.op:=by
 unfold soundE at h
 simp only[Bool.and_eq_true,beq_iff_eq] at h
 exact h.1
theorem two_args{e:Ex}(h:goodE e)(ho:arI e.op=2):∃x y,e.args=[x,y]:=by
 have hl:=sound_len (good_open h).1
 rw[ho] at hl
 match he:e.args,hl with
 | [x,y],_=>exact⟨x,y,rfl⟩
 | [],hl=>simp at hl
 | [_],hl=>simp at hl
 | _::_::_::_,hl=>simp at hl;omega
end Go.Proofs.YtbfibfmnemnbbaaGreat.E
set_option linter.unusedSimpArgs false
set_option linter.unusedVariables false
set_option maxHeartbeats 400000
namespace Go.Proofs.YtbfibfmnemnbbaaGreat.E
open Go.RowKit Go.Sort
def RowAt(w:World)(a:Option Addr)(xs:List Val):Prop:=
 xs=[]∨∃b off,a=some ⟨b,off,none⟩/\∀i x,xs[i]?=some x->w.cell? ⟨b,off+i*3,none⟩=some (.int .i64 x.k)/\w.cell? ⟨b,off+i*3+1,none⟩=some (.int .i64 x.n)/\w.cell? ⟨b,off+i*3+2,none⟩=some (.string x.s)
theorem RowAt.later{w w':World}{a:Option Addr}{xs:List Val}(h:RowAt w a xs)(hb:Below w.heap.size w w'):RowAt w' a xs:=by
 rcases h with h|⟨b,off,ha,h⟩
 ·exact .inl h
 ·exact .inr ⟨b,off,ha,fun i x hx=>⟨clater (h i x hx).1 hb,clater (h i x hx).2.1 hb,clater (h i x hx).2.2 hb⟩⟩
theorem RowAt.lo{w:World}{a:Option Addr}{xs:List Val}{k:Nat}{x:Val}(h:RowAt w a xs)(hx:xs[k]?=some x):∃b off,a=some ⟨b,off,none⟩/\w.cell? ⟨b,off+k*3,none⟩=some (.int .i64 x.k)/\w.cell? ⟨b,off+k*3+1,none⟩=some (.int .i64 x.n)/\w.cell? ⟨b,off+k*3+2,none⟩=some (.string x.s):=by
 rcases h with e|⟨b,off,rfl,hc⟩
 ·rw[e] at hx;cases hx
 ·exact⟨b,off,rfl,hc k x hx⟩
def VOk(x:Val):Prop:=In64 x.n/\x.s.size<=140737488355328
theorem vok_null:VOk .null:=⟨⟨by show -9223372036854775808<=(0:Int);decide,by show (0:Int)<=9223372036854775807;decide⟩,Nat.zero_le _⟩
theorem vok_num{n:Int}(h:In64 n):VOk (.num n):=⟨h,Nat.zero_le _⟩
theorem vok_clean{x:Val}(h:VOk x):VOk (cleanV x):=by
 unfold cleanV
 split
 ·exact vok_num h.1
 ·split
  ·exact⟨⟨by show -9223372036854775808<=(0:Int);decide,by show (0:Int)<=9223372036854775807;decide⟩,h.2⟩
  ·exact vok_null
def oneV(op:Int)(x:Val):Val:=if op == 3 then reckV 8 (.num 0) x else if op == 4 then notV x else if op == 5 then (if x.k == 0 then .num 1 else .num 0) else (if x.k == 2 then .num x.s.size else .null)
def twoV(op:Int)(x y:Val):Val:=if decide (op<=11) then reckV op x y else if decide (op<=17) then testV op x y else if op == 18 then catV x y else bothV op x y
def nodeV(op n:Int)(v:Val)(row:List Val):List Val->Val
 | []=>if op == 2 then cleanV v else if decide ((row.length:Int)<=n) then .null else cleanV (row.getD n.toNat .null)
 | [x]=>oneV op x
 | [x,y]=>twoV op x y
 | x::y::z::_=>if trueB x then y else z
mutual
def evalE(row:List Val):Ex->Val
 | .mk op n v l=>nodeV op n v row (evalL row l)
def evalL(row:List Val):List Ex->List Val
 | []=>[]
 | e::l=>evalE row e::evalL row l
end
def Enters(n:Nat):Prop:=∀args w,(callFunc n args).run Tryz.prog w=.ok (.enter n args) w
def Fun1(W:World)(F:Value)(g:Val->Val):Prop:=∃n k,F=.func (.func n) #[] k/\Enters n/\∀W' x,Below W.heap.size W W'->VOk x->Calls Tryz.prog n (#[x.v]++k) W' fun r w'=>r=.returned (g x).v/\Below W'.heap.size W' w'
def Fun2(W:World)(F:Value)(g:Val->Val->Val):Prop:=∃n k,F=.func (.func n) #[] k/\Enters n/\∀W' x y,Below W.heap.size W W'->VOk x->VOk y->Calls Tryz.prog n (#[x.v,y.v]++k) W' fun r w'=>r=.returned (g x y).v/\Below W'.heap.size W' w'
def Work(W:World)(F:Value)(e:Ex):Prop:=∃n k,F=.func (.func n) #[] k/\Enters n/\∀W' a c row,Below W.heap.size W W'->RowAt W' a row->(∀x∈row,VOk x)->row.length<=140737488355328->Calls Tryz.prog n (#[.slice a row.length c]++k) W' fun r w'=>r=.returned (evalE row e).v/\Below W'.heap.size W' w'
theorem ent57:Enters 106:=fun args w=>by kernel_rfl
theorem ent58:Enters 107:=fun args w=>by kernel_rfl
theorem ent59:Enters 108:=fun args w=>by kernel_rfl
theorem ent62:Enters 111:=fun args w=>by kernel_rfl
theorem ent63:Enters 112:=fun args w=>by kernel_rfl
theorem ent64:Enters 113:=fun args w=>by kernel_rfl
theorem ent65:Enters 114:=fun args w=>by kernel_rfl
theorem ent66:Enters 115:=fun args w=>by kernel_rfl
theorem ent68:Enters 117:=fun args w=>by kernel_rfl
theorem ent69:Enters 118:=fun args w=>by kernel_rfl
theorem ent29:Enters 86:=fun args w=>by kernel_rfl
theorem ent31:Enters 88:=fun args w=>by kernel_rfl
theorem ent32:Enters 89:=fun args w=>by kernel_rfl
theorem expnum_any(n:Int)(w:World):Calls Tryz.prog 110 #[.int .i64 n] w fun e w'=>e=.returned (.agg #[.int .i64 1,.int .i64 n,.string ⟨#[]⟩])/\Below w.heap.size w w':=by
 go_enter Tryz.func110,Tryz.ntmps110
 go_wp2
 exact bodyPost_ret (v:=.agg #[.int .i64 1,.int .i64 n,.string ⟨#[]⟩]) (by simp[results,Tryz.results110,go_sem]) rfl ⟨rfl,(Below.refl _ _).alloc (Nat.le_refl _) _⟩
theorem zeroAt_new(w:World):ZeroAt (w.alloc (.cells #[.int .i64 0,.int .i64 0,.string ⟨#[]⟩] 25)) w.heap.size:=by
 refine⟨?_,?_,?_,?_,?_,?_⟩<;>simp[go_sem]
theorem put3{w W:World}{B:Nat}(hb:Below w.heap.size w W)(hB:w.heap.size<=B)(u v x:Value):Below w.heap.size w (((W.setCell ⟨B,0,none⟩ u).setCell ⟨B,1,none⟩ v).setCell ⟨B,2,none⟩ x):=
 (((hb.setCell (by simpa using hB) _).setCell (by simpa using hB) _).setCell (by simpa using hB) _)
theorem leaf1_any(v:Val)(B:Nat)(a:Option Addr)(m c:Nat)(W:World)(hB:BoxAt W B v):Calls Tryz.prog 106 #[.slice a m c,.pointer (some ⟨B,0,none⟩)] W fun r w'=>r=.returned v.v/\Below W.heap.size W w':=by
 obtain⟨c0,c1,c2⟩:=hB.later (below_alloc (Below.refl _ W) (.cells #[.int .i64 0,.int .i64 0,.string ⟨#[]⟩] 25))
 clear hB
 go_enter Tryz.func106,Tryz.ntmps106
 go_wp2
 exact bodyPost_ret (v:=v.v) (by simp[results,Tryz.results106,go_sem,Val.v]) rfl ⟨rfl,(Below.refl _ _).alloc (Nat.le_refl _) _⟩
theorem leaf2_any(n:Int)(B:Nat)(a:Option Addr)(c:Nat)(row:List Val)(W:World)(hn:0<=n)(hl:row.length<=140737488355328)(hB:Box1 W B (.int .i64 n))(hr:RowAt W a row) :
  Calls Tryz.prog 107 #[.slice a row.length c,.pointer (some ⟨B,0,none⟩)] W fun r w'=>r=.returned (if decide ((row.length:Int)<=n) then Val.null else cleanV (row.getD n.toNat .null)).v/\Below W.heap.size W w':=by
 have c0:=clater hB (below_alloc (Below.refl _ W) (.cells #[.int .i64 0,.int .i64 0,.string ⟨#[]⟩] 25))
 by_cases h:(row.length:Int)<=n
 ·have e:(if decide ((row.length:Int)<=n) then Val.null else cleanV (row.getD n.toNat .null))=.null:=by simp[h]
  rw[e]
  clear hB
  go_enter Tryz.func107,Tryz.ntmps107
  go_wp2
  exact bodyPost_ret (v:=Val.null.v) (by simp[results,Tryz.results107,go_sem,Val.v,Val.null]) rfl ⟨rfl,(Below.refl _ _).alloc (Nat.le_refl _) _⟩
 ·obtain⟨k,rfl⟩:∃k:Nat,n=(k:Int):=⟨n.toNat,by omega⟩
  obtain⟨x,hx⟩:∃x,row[k]?=some x:=⟨_,List.getElem?_eq_getElem (by omega)⟩
  have e:(if decide ((row.length:Int)<=(k:Int)) then Val.null else cleanV (row.getD (k:Int).toNat .null))=cleanV x:=by
   have h2:decide ((row.length:Int)<=(k:Int))=false:=by simpa using h
   rw[h2,Int.toNat_natCast,List.getD_eq_getElem?_getD,hx];rfl
  rw[e]
  obtain⟨b,off,rfl,d0,d1,d2⟩:=(hr.later (below_alloc (Below.refl _ W) (.cells #[.int .i64 0,.int .i64 0,.string ⟨#[]⟩] 25))).lo hx
  have HC:=hide (clean_any x)
  rw[Val.open_] at HC
  generalize cleanV x=cx at *
  have hki:(k:Int)<(row.length:Int):=by omega
  clear hB hr hx e
  go_enter Tryz.func107,Tryz.ntmps107
  go_wp2_with (go_at_call 23;refine(unhide HC _).mono ?_;rintro r w1 ⟨rfl,hb1⟩;rw[Val.open_];obtain⟨z0,z1,z2,z3,z4,z5⟩:=(zeroAt_new W).later hb1)
  refine bodyPost_ret (v:=cx.v) (by simp[results,Tryz.results107,go_sem,Val.v, *]) rfl ⟨rfl,?_⟩
  exact put3 (below_one hb1) (Nat.le_refl _) _ _ _
end Go.Proofs.YtbfibfmnemnbbaaGreat.E
set_option linter.unusedSimpArgs false
set_option linter.unusedVariables false
set_option maxHeartbeats 400000
set_option maxRecDepth 100000
namespace Go.Proofs.YtbfibfmnemnbbaaGreat.E
open Go.RowKit Go.Sort
theorem neg_any(x:Val)(w:World)(hx:VOk x):Calls Tryz.prog 108 #[x.v] w fun e w'=>e=.returned (reckV 8 (.num 0) x).v/\Below w.heap.size w w':=by
 have HR:=hide (reckon_any 8 (.num 0) x ⟨by show -9223372036854775808<=(0:Int);decide,by show (0:Int)<=9223372036854775807;decide⟩ hx.1)
 have HZ:Hid (∀W,Calls Tryz.prog 109 #[.int .i64 8,.agg #[.int .i64 1,.int .i64 0,.string ⟨#[]⟩],.agg #[.int .i64 x.k,.int .i64 x.n,.string x.s]] W fun e w'=>e=.returned (reckV 8 (.num 0) x).v/\Below W.heap.size W w'):=fun W=>unhide HR W
 have HN:=hide (expnum_any 0)
 generalize reckV 8 (.num 0) x=r at *
 have hB:=below_alloc (below_alloc (Below.refl _ w) (.cells #[.int .i64 x.k,.int .i64 x.n,.string x.s] 25)) (.cells #[.int .i64 0,.int .i64 0,.string ⟨#[]⟩] 25)
 have hb0:BoxAt ((w.alloc (.cells #[.int .i64 x.k,.int .i64 x.n,.string x.s] 25)).alloc (.cells #[.int .i64 0,.int .i64 0,.string ⟨#[]⟩] 25)) w.heap.size x:=by refine⟨?_,?_,?_⟩<;>simp[go_sem]
 have hz0:=zeroAt_new (w.alloc (.cells #[.int .i64 x.k,.int .i64 x.n,.string x.s] 25))
 rw[show (w.alloc (.cells #[.int .i64 x.k,.int .i64 x.n,.string x.s] 25)).heap.size=w.heap.size+1 by simp] at hz0
 rw[x.open_]
 clear HR hx
 go_enter Tryz.func108,Tryz.ntmps108
 go_upto_region 1 with fail
 obtain⟨wa,hwa⟩:∃wa,wa=(w.alloc (.cells #[.int .i64 x.k,.int .i64 x.n,.string x.s] 25)).alloc (.cells #[.int .i64 0,.int .i64 0,.string ⟨#[]⟩] 25):=⟨_,rfl⟩
 rw[<-hwa] at hB hb0 hz0 ⊢
 have HB:=hide hB
 have HBX:=hide hb0
 have HZ0:=hide hz0
 obtain⟨c0,c1,c2⟩:=hb0
 obtain⟨z0,z1,z2,z3,z4,z5⟩:=hz0
 clear hwa hB
 go_cut[] (fun wx=>(wx.cell? ⟨w.heap.size+1,0,none⟩=some (.int .i64 r.k)/\wx.cell? ⟨w.heap.size+1,1,none⟩=some (.int .i64 r.n)/\wx.cell? ⟨w.heap.size+1,2,none⟩=some (.string r.s))/\Below w.heap.size w wx)
 case first=>
  go_region_with (first
   | (go_at_call 110;refine(unhide HN _).mono ?_;rintro e w1 ⟨rfl,hb1⟩;have hB1:=below_step ((Below.refl _ wa).drew) hb1;obtain⟨c0,c1,c2⟩:=(unhide HBX).later hB1)
   | (go_at_call 109;refine(unhide HZ _).mono ?_;rintro e w2 ⟨rfl,hb2⟩;rw[Val.open_];have hB2:=below_step hB1 hb2;obtain⟨z0,z1,z2,z3,z4,z5⟩:=(unhide HZ0).later hB2))
  all_goals
   go_wp2
   go_meet
   refine⟨⟨by simp[go_sem, *],by simp[go_sem, *],by simp[go_sem, *]⟩,?_⟩
   exact put3 (below_step (unhide HB) hB2) (by omega) _ _ _
 case rest=>
  obtain⟨⟨x0,x1,x2⟩,hbe⟩:=hcut
  have HBE:=hide hbe
  clear hbe
  go_wp2
  exact bodyPost_ret (v:=r.v) (by simp[results,Tryz.results108,go_sem,Val.v, *]) rfl ⟨rfl,unhide HBE⟩
theorem isnull_any(x:Val)(w:World):Calls Tryz.prog 112 #[x.v] w fun e w'=>e=.returned (if x.k == 0 then Val.num 1 else Val.num 0).v/\Below w.heap.size w w':=by
 have hz0:=fun (W:World) hb=>(zeroAt_new (w.alloc (.cells #[.int .i64 x.k,.int .i64 x.n,.string x.s] 25))).later (w1:=W) hb
 have HZ:=hide hz0
 rw[show (w.alloc (.cells #[.int .i64 x.k,.int .i64 x.n,.string x.s] 25)).heap.size=w.heap.size+1 by simp] at HZ
 rw[x.open_]
 clear hz0
 rcases Bool.eq_false_or_eq_true (x.k == 0) with h|h
 ·go_enter Tryz.func112,Tryz.ntmps112
  go_wp2_with (go_at_call 110;refine(expnum_any _ _).mono ?_;rintro e w1 ⟨rfl,hb1⟩;obtain⟨z0,z1,z2,z3,z4,z5⟩:=unhide HZ _ hb1)
  refine bodyPost_ret (v:=(Val.num 1).v) (by simp[results,Tryz.results112,go_sem,Val.v,Val.num, *]) rfl ⟨by first|rfl | (rw[h];rfl)|simp_all,?_⟩
  exact put3 (below_one (below_one hb1)) (by omega) _ _ _
 ·go_enter Tryz.func112,Tryz.ntmps112
  go_wp2_with (go_at_call 110;refine(expnum_any _ _).mono ?_;rintro e w1 ⟨rfl,hb1⟩;obtain⟨z0,z1,z2,z3,z4,z5⟩:=unhide HZ _ hb1)
  refine bodyPost_ret (v:=(Val.num 0).v) (by simp[results,Tryz.results112,go_sem,Val.v,Val.num, *]) rfl ⟨by first|rfl | (rw[h];rfl)|simp_all,?_⟩
  exact put3 (below_one (below_one hb1)) (by omega) _ _ _
theorem length_any(x:Val)(w:World)(hx:x.s.size<=140737488355328):Calls Tryz.prog 113 #[x.v] w fun e w'=>e=.returned (if x.k == 2 then Val.num x.s.size else Val.null).v/\Below w.heap.size w w':=by
 have HZ:=hide (fun (W:World) hb=>(zeroAt_new (w.alloc (.cells #[.int .i64 x.k,.int .i64 x.n,.string x.s] 25))).later (w1:=W) hb)
 rw[show (w.alloc (.cells #[.int .i64 x.k,.int .i64 x.n,.string x.s] 25)).heap.size=w.heap.size+1 by simp] at HZ
 rw[x.open_]
 rcases Bool.eq_false_or_eq_true (x.k == 2) with h|h
 ·have h2:(x.k != 2)=false:=by simp[bne,h]
  have hi:(x.s.size:Int)<=140737488355328:=by omega
  go_enter Tryz.func113,Tryz.ntmps113
  go_wp2_with (go_at_call 110;refine(expnum_any _ _).mono ?_;rintro e w1 ⟨rfl,hb1⟩;obtain⟨z0,z1,z2,z3,z4,z5⟩:=unhide HZ _ hb1)
  refine bodyPost_ret (v:=(Val.num x.s.size).v) (by simp[results,Tryz.results113,go_sem,Val.v,Val.num, *]) rfl ⟨by first|rfl | (rw[h];rfl)|simp_all,?_⟩
  exact put3 (below_one (below_one hb1)) (by omega) _ _ _
 ·have h2:(x.k != 2)=true:=by simp[bne,h]
  go_enter Tryz.func113,Tryz.ntmps113
  go_wp2
  refine bodyPost_ret (v:=Val.null.v) (by simp[results,Tryz.results113,go_sem,Val.v,Val.null, *]) rfl ⟨by first|rfl | (rw[h];rfl)|simp_all,?_⟩
  exact below_alloc (below_alloc (Below.refl _ _) _) _
theorem both_any(op:Int)(a b:Val)(w:World):Calls Tryz.prog 119 #[.int .i64 op,a.v,b.v] w fun e w'=>e=.returned (bothV op a b).v/\Below w.heap.size w w':=by
 by_cases h1:op=19
 ·subst h1;exact both_and a b w
 by_cases h2:op=20
 ·subst h2;exact both_or a b w
 exact both_other op a b w (by simpa using h1) (by simpa using h2)
theorem dbl65_any(op:Int)(B:Nat)(x y:Val)(w:World)(hB:Box1 w B (.int .i64 op))(hx:VOk x)(hy:VOk y):Calls Tryz.prog 114 #[x.v,y.v,.pointer (some ⟨B,0,none⟩)] w fun e w'=>e=.returned (reckV op x y).v/\Below w.heap.size w w':=by
 have HR:Hid (∀W,Calls Tryz.prog 109 #[.int .i64 op,x.v,y.v] W fun e w'=>e=.returned (reckV op x y).v/\Below W.heap.size W w'):=fun W=>reckon_any op x y hx.1 hy.1 W
 generalize reckV op x y=r at *
 rw[x.open_,y.open_] at HR ⊢
 have hBa:=below_alloc (below_alloc (below_alloc (Below.refl _ w) (.cells #[.int .i64 x.k,.int .i64 x.n,.string x.s] 25)) (.cells #[.int .i64 y.k,.int .i64 y.n,.string y.s] 25)) (.cells #[.int .i64 0,.int .i64 0,.string ⟨#[]⟩] 25)
 have c0:=clater hB hBa
 have HZ:=hide (fun (W:World) hb=>(zeroAt_new ((w.alloc (.cells #[.int .i64 x.k,.int .i64 x.n,.string x.s] 25)).alloc (.cells #[.int .i64 y.k,.int .i64 y.n,.string y.s] 25))).later (w1:=W) hb)
 rw[show ((w.alloc (.cells #[.int .i64 x.k,.int .i64 x.n,.string x.s] 25)).alloc (.cells #[.int .i64 y.k,.int .i64 y.n,.string y.s] 25)).heap.size=w.heap.size+1+1 by simp] at HZ
 clear hB hx hy hBa
 go_enter Tryz.func114,Tryz.ntmps114
 go_wp2_with (go_at_call 109;refine(unhide HR _).mono ?_;rintro e w1 ⟨rfl,hb1⟩;rw[Val.open_];obtain⟨z0,z1,z2,z3,z4,z5⟩:=unhide HZ _ hb1)
 refine bodyPost_ret (v:=r.v) (by simp[results,Tryz.results114,go_sem,Val.v, *]) rfl ⟨rfl,?_⟩
 exact put3 (below_one (below_one (below_one hb1))) (by omega) _ _ _
theorem dbl66_any(op:Int)(B:Nat)(x y:Val)(w:World)(hB:Box1 w B (.int .i64 op))(hx:VOk x)(hy:VOk y):Calls Tryz.prog 115 #[x.v,y.v,.pointer (some ⟨B,0,none⟩)] w fun e w'=>e=.returned (testV op x y).v/\Below w.heap.size w w':=by
 have HR:Hid (∀W,Calls Tryz.prog 116 #[.int .i64 op,x.v,y.v] W fun e w'=>e=.returned (testV op x y).v/\Below W.heap.size W w'):=fun W=>test_any op x y W
 generalize testV op x y=r at *
 rw[x.open_,y.open_] at HR ⊢
 have hBa:=below_alloc (below_alloc (below_alloc (Below.refl _ w) (.cells #[.int .i64 x.k,.int .i64 x.n,.string x.s] 25)) (.cells #[.int .i64 y.k,.int .i64 y.n,.string y.s] 25)) (.cells #[.int .i64 0,.int .i64 0,.string ⟨#[]⟩] 25)
 have c0:=clater hB hBa
 have HZ:=hide (fun (W:World) hb=>(zeroAt_new ((w.alloc (.cells #[.int .i64 x.k,.int .i64 x.n,.string x.s] 25)).alloc (.cells #[.int .i64 y.k,.int .i64 y.n,.string y.s] 25))).later (w1:=W) hb)
 rw[show ((w.alloc (.cells #[.int .i64 x.k,.int .i64 x.n,.string x.s] 25)).alloc (.cells #[.int .i64 y.k,.int .i64 y.n,.string y.s] 25)).heap.size=w.heap.size+1+1 by simp] at HZ
 clear hB hx hy hBa
 go_enter Tryz.func115,Tryz.ntmps115
 go_wp2_with (go_at_call 116;refine(unhide HR _).mono ?_;rintro e w1 ⟨rfl,hb1⟩;rw[Val.open_];obtain⟨z0,z1,z2,z3,z4,z5⟩:=unhide HZ _ hb1)
 refine bodyPost_ret (v:=r.v) (by simp[results,Tryz.results115,go_sem,Val.v, *]) rfl ⟨rfl,?_⟩
 exact put3 (below_one (below_one (below_one hb1))) (by omega) _ _ _
theorem dbl69_any(op:Int)(B:Nat)(x y:Val)(w:World)(hB:Box1 w B (.int .i64 op))(hx:VOk x)(hy:VOk y):Calls Tryz.prog 118 #[x.v,y.v,.pointer (some ⟨B,0,none⟩)] w fun e w'=>e=.returned (bothV op x y).v/\Below w.heap.size w w':=by
 have HR:Hid (∀W,Calls Tryz.prog 119 #[.int .i64 op,x.v,y.v] W fun e w'=>e=.returned (bothV op x y).v/\Below W.heap.size W w'):=fun W=>both_any op x y W
 generalize bothV op x y=r at *
 rw[x.open_,y.open_] at HR ⊢
 have hBa:=below_alloc (below_alloc (below_alloc (Below.refl _ w) (.cells #[.int .i64 x.k,.int .i64 x.n,.string x.s] 25)) (.cells #[.int .i64 y.k,.int .i64 y.n,.string y.s] 25)) (.cells #[.int .i64 0,.int .i64 0,.string ⟨#[]⟩] 25)
 have c0:=clater hB hBa
 have HZ:=hide (fun (W:World) hb=>(zeroAt_new ((w.alloc (.cells #[.int .i64 x.k,.int .i64 x.n,.string x.s] 25)).alloc (.cells #[.int .i64 y.k,.int .i64 y.n,.string y.s] 25))).later (w1:=W) hb)
 rw[show ((w.alloc (.cells #[.int .i64 x.k,.int .i64 x.n,.string x.s] 25)).alloc (.cells #[.int .i64 y.k,.int .i64 y.n,.string y.s] 25)).heap.size=w.heap.size+1+1 by simp] at HZ
 clear hB hx hy hBa
 go_enter Tryz.func118,Tryz.ntmps118
 go_wp2_with (go_at_call 119;refine(unhide HR _).mono ?_;rintro e w1 ⟨rfl,hb1⟩;rw[Val.open_];obtain⟨z0,z1,z2,z3,z4,z5⟩:=unhide HZ _ hb1)
 refine bodyPost_ret (v:=r.v) (by simp[results,Tryz.results118,go_sem,Val.v, *]) rfl ⟨rfl,?_⟩
 exact put3 (below_one (below_one (below_one hb1))) (by omega) _ _ _
theorem Fun1.of{W:World}{F:Value}{g g':Val->Val}(h:Fun1 W F g)(e:g=g'):Fun1 W F g':=e ▸ h
end Go.Proofs.YtbfibfmnemnbbaaGreat.E
set_option linter.unusedSimpArgs false
set_option linter.unusedVariables false
namespace Go.Proofs.YtbfibfmnemnbbaaGreat.E
open Go.RowKit Go.Sort
theorem vok_truth(b:Bool):VOk (truthV b):=by
 cases b
 ·exact vok_num ⟨by decide,by decide⟩
 ·exact vok_num ⟨by decide,by decide⟩
theorem fits_in{n:Int}(h:fitsB n=true):In64 n:=by
 unfold fitsB at h
 simp only[Bool.and_eq_true,decide_eq_true_eq] at h
 exact h
theorem ite_so{c:Prop}[Decidable c]{a n:Int}(h:(if c then some a else none)=some n):c/\a=n:=by
 by_cases hc:c
 ·rw[if_pos hc] at h;injection h with h;exact⟨hc,h⟩
 ·rw[if_neg hc] at h;cases h
theorem tmod_in{x y:Int}(hx:In64 x):In64 (x.tmod y):=by
 have h1:(x.tmod y).natAbs<=x.natAbs:=by rw[Int.natAbs_tmod];exact Nat.mod_le _ _
 obtain⟨h2,h3⟩:=hx
 by_cases h0:0<=x
 ·have:=Int.tmod_nonneg y h0
  exact⟨by omega,by omega⟩
 ·have e:x.tmod y=-((-x).tmod y):=by rw[Int.neg_tmod];omega
  have:=Int.tmod_nonneg y (a:=-x) (by omega)
  exact⟨by omega,by omega⟩
theorem reck_in{op x y n:Int}(hx:In64 x)(h:reck op x y=some n):In64 n:=by
 unfold reck at h
 split at h
 ·obtain⟨h1,rfl⟩:=ite_so h;exact fits_in h1
 split at h
 ·obtain⟨h1,rfl⟩:=ite_so h;exact fits_in h1
 split at h
 ·obtain⟨h1,rfl⟩:=ite_so h;exact fits_in h1
 split at h
 ·split at h
  ·cases h
  ·obtain⟨h1,rfl⟩:=ite_so h;exact fits_in h1
 split at h
 ·split at h
  ·cases h
  ·injection h with h;rw[<-h];exact tmod_in hx
 ·cases h
theorem vok_reck(op:Int)(x y:Val)(hx:VOk x):VOk (reckV op x y):=by
 unfold reckV
 split
 ·cases h:reck op x.n y.n with
  | none=>exact vok_null
  | some n=>exact vok_num (reck_in hx.1 h)
 ·exact vok_null
theorem vok_test(op:Int)(x y:Val):VOk (testV op x y):=by
 unfold testV
 split
 ·exact vok_null
 ·unfold testR
  split
  ·exact vok_truth _
  ·exact vok_null
theorem vok_both(op:Int)(x y:Val):VOk (bothV op x y):=by
 unfold bothV
 repeat' split
 all_goals first|exact vok_truth _|exact vok_null
theorem vok_cat(x y:Val):VOk (catV x y):=by
 unfold catV
 split
 ·rename_i h
  simp only[Bool.and_eq_true,decide_eq_true_eq] at h
  refine⟨⟨by show -9223372036854775808<=(0:Int);decide,by show (0:Int)<=9223372036854775807;decide⟩,?_⟩
  show (x.s++y.s).size<=_
  rw[ByteArray.size_append];omega
 ·exact vok_null
theorem vok_not(x:Val):VOk (notV x):=by
 unfold notV
 split
 ·exact vok_truth _
 ·exact vok_null
theorem vok_one(op:Int){x:Val}(hx:VOk x):VOk (oneV op x):=by
 unfold oneV
 split
 ·exact vok_reck _ _ _ (vok_num ⟨by decide,by decide⟩)
 ·split
  ·exact vok_not x
  ·split
   ·split
    ·exact vok_num ⟨by decide,by decide⟩
    ·exact vok_num ⟨by decide,by decide⟩
   ·split
    ·have:=hx.2
     exact vok_num ⟨by omega,by omega⟩
    ·exact vok_null
theorem vok_two(op:Int){x y:Val}(hx:VOk x)(hy:VOk y):VOk (twoV op x y):=by
 unfold twoV
 split
 ·exact vok_reck _ _ _ hx
 ·split
  ·exact vok_test _ _ _
  ·split
   ·exact vok_cat _ _
   ·exact vok_both _ _ _
theorem vok_node{op n:Int}{v:Val}{row:List Val}(hv:VOk v)(hr:∀x∈row,VOk x):∀(l:List Val),(∀x∈l,VOk x)->VOk (nodeV op n v row l)
 | [],_=>by
  show VOk (if op == 2 then cleanV v else if decide ((row.length:Int)<=n) then .null else cleanV (row.getD n.toNat .null))
  split
  ·exact vok_clean hv
  ·split
   ·exact vok_null
   ·rw[List.getD_eq_getElem?_getD]
    cases h:row[n.toNat]? with
    | none=>exact vok_clean vok_null
    | some x=>exact vok_clean (hr x (List.mem_of_getElem? h))
 | [x],h=>vok_one op (h x (by simp))
 | [x,y],h=>vok_two op (h x (by simp)) (h y (by simp))
 | x::y::z::t,h=>by
  show VOk (if trueB x then y else z)
  split
  ·exact h y (by simp)
  ·exact h z (by simp)
mutual
theorem eval_ok{row:List Val}(hr:∀x∈row,VOk x):∀(e:Ex),e.fin->VOk (evalE row e)
 | .mk op n v l,hf=>by
  rw[Ex.fin] at hf
  rw[evalE]
  exact vok_node ⟨hf.1.2.2.1,hf.1.2.1⟩ hr _ (evalL_ok hr l hf.2)
theorem evalL_ok{row:List Val}(hr:∀x∈row,VOk x):∀(l:List Ex),Ex.fins l->∀x∈evalL row l,VOk x
 | [],_=>by rw[evalL];intro x hx;cases hx
 | e::l,hf=>by
  rw[Ex.fins] at hf
  rw[evalL]
  intro x hx
  rcases List.mem_cons.1 hx with rfl|hx
  ·exact eval_ok hr e hf.1
  ·exact evalL_ok hr l hf.2 x hx
end
theorem evalE_eq(row:List Val)(e:Ex):evalE row e=nodeV e.op e.n e.v row (evalL row e.args):=by
 cases e with
 | mk op n v l=>rw[evalE];rfl
theorem no_args{e:Ex}(h:goodE e)(h0:e.args=[]):(e.op=1/\0<=e.n)∨e.op=2:=by
 have hs:=(good_open h).1
 have hl:=sound_len hs
 rw[h0] at hl
 have ha:arI e.op=0:=hl.symm
 have h12:e.op=1∨e.op=2:=by
  by_cases h1:e.op=1
  ·exact .inl h1
  by_cases h2:e.op=2
  ·exact .inr h2
  unfold arI at ha
  have e1:(e.op == 1)=false:=by simpa using h1
  have e2:(e.op == 2)=false:=by simpa using h2
  rw[e1,e2] at ha
  simp only[Bool.false_eq_true,if_false] at ha
  split at ha
  ·cases ha
  ·split at ha
   ·cases ha
   ·split at ha<;>cases ha
 rcases h12 with h1|h1
 ·refine .inl ⟨h1,?_⟩
  unfold soundE at hs
  rw[h1] at hs
  simp only[Bool.and_eq_true] at hs
  simpa using hs.2
 ·exact .inr h1
end Go.Proofs.YtbfibfmnemnbbaaGreat.E
set_option linter.unusedSimpArgs false
set_option linter.unusedVariables false
namespace Go.Proofs.YtbfibfmnemnbbaaGreat.E
open Go.RowKit Go.Sort
structure Kept(lo:Nat)(N:List Nat)(w w':World):Prop where
 size:w.heap.size<=w'.heap.size
 block:∀b,lo<=b->b<w.heap.size->b ∉ N->w'.heap[b]?=w.heap[b]?
theorem Kept.refl(lo:Nat)(N:List Nat)(w:World):Kept lo N w w:=⟨Nat.le_refl _,fun _ _ _ _=>rfl⟩
theorem Kept.trans{lo:Nat}{N:List Nat}{w w' w'':World}(h:Kept lo N w w')(h':Kept lo N w' w''):Kept lo N w w'':=
 ⟨Nat.le_trans h.size h'.size,fun b h1 h2 h3=>(h'.block b h1 (Nat.lt_of_lt_of_le h2 h.size) h3).trans (h.block b h1 h2 h3)⟩
theorem Kept.of_below{w w':World}(lo:Nat)(N:List Nat)(h:Below w.heap.size w w'):Kept lo N w w':=⟨h.size,fun b _ h2 _=>h.block b h2⟩
theorem Kept.of_store(w:World)(lo:Nat){N:List Nat}{B:Nat}(o:Nat)(v:Value)(h:B∈N):Kept lo N w (w.setCell ⟨B,o,none⟩ v):=
 ⟨by simp[World.setCell],fun b _ _ h3=>Below.heap_setCell _ _ _ _ (fun e=>h3 (by rw[e];exact h))⟩
theorem Kept.more{lo lo':Nat}{N N':List Nat}{w w':World}(h:Kept lo' N' w w')(hl:lo'<=lo)(hN:∀b∈N',b∈N∨b<lo∨w.heap.size<=b):Kept lo N w w':=
 ⟨h.size,fun b h1 h2 h3=>h.block b (Nat.le_trans hl h1) h2 fun hb=>by
  rcases hN b hb with h|h|h
  ·exact h3 h
  ·omega
  ·omega⟩
theorem Kept.cell{lo:Nat}{N:List Nat}{w w':World}{b o:Nat}{v:Value}(h:w.cell? ⟨b,o,none⟩=some v)(hk:Kept lo N w w')(h1:lo<=b)(h3:b ∉ N):w'.cell? ⟨b,o,none⟩=some v:=by
 have hl:=World.block_lt_of_cell? _ _ h
 rw[<-h]
 unfold World.cell?
 rw[hk.block b h1 hl h3]
end Go.Proofs.YtbfibfmnemnbbaaGreat.E
set_option linter.unusedSimpArgs false
set_option linter.unusedVariables false
namespace Go.Proofs.YtbfibfmnemnbbaaGreat.E
open Go.RowKit Go.Sort
mutual
def copyE:Ex->Ex
 | .mk op n v l=>.mk op (if op == 1 then n else 0) (if op == 2 then cleanV v else .null) (copyL l)
def copyL:List Ex->List Ex
 | []=>[]
 | e::l=>copyE e::copyL l
end
theorem copyL_map:∀l:List Ex,copyL l=l.map copyE
 | []=>by rw[copyL];rfl
 | e::l=>by rw[copyL,copyL_map l];rfl
theorem copyE_eq(e:Ex):copyE e=.mk e.op (if e.op == 1 then e.n else 0) (if e.op == 2 then cleanV e.v else .null) (e.args.map copyE):=by
 cases e with
 | mk op n v l=>rw[copyE,copyL_map];rfl
theorem copy_op(e:Ex):(copyE e).op=e.op:=by rw[copyE_eq];rfl
theorem copy_args(e:Ex):(copyE e).args=e.args.map copyE:=by rw[copyE_eq];rfl
theorem copy_n(e:Ex):(copyE e).n=if e.op == 1 then e.n else 0:=by rw[copyE_eq];rfl
theorem copy_v(e:Ex):(copyE e).v=if e.op == 2 then cleanV e.v else .null:=by rw[copyE_eq];rfl
theorem sound_copy(e:Ex):soundE (copyE e)=soundE e:=by
 have ho:=copy_op e
 have hl:(copyE e).args.length=e.args.length:=by rw[copy_args,List.length_map]
 have hn:=copy_n e
 have hv:=copy_v e
 unfold soundE
 rw[ho,hl,hn,hv]
 generalize e.op=op
 by_cases h1:op=1
 ·subst h1;rfl
 ·by_cases h2:op=2
  ·subst h2
   simp[clean_clean]
  ·have e1:(op == 1)=false:=by simpa using h1
   have e2:(op == 2)=false:=by simpa using h2
   rw[e1,e2]
   rfl
mutual
theorem meas_copy:∀(e:Ex) (N H:Int),measE soundE (copyE e) N H=measE soundE e N H
 | .mk op n v l,N,H=>by
  have hs:=sound_copy (.mk op n v l)
  rw[copyE] at hs ⊢
  rw[measE,measE,hs,measL_copy l]
theorem measL_copy:∀(l:List Ex) (N H c h:Int),measL soundE (copyL l) N H c h=measL soundE l N H c h
 | [],N,H,c,h=>by rw[copyL]
 | e::l,N,H,c,h=>by
  rw[copyL,measL,measL,meas_copy e,measL_copy l]
end
theorem built_copy(e:Ex):builtE (copyE e)=builtE e:=by unfold builtE;rw[meas_copy]
mutual
theorem meas_mono(p:Ex->Bool):∀(e:Ex) (N H N' H':Int) {c h:Int},measE p e N H=(c,h,true)->N<=N'->H<=H'->measE p e N' H'=(c,h,true)
 | .mk op n v l,N,H,N',H',c,h,he,h1,h2=>by
  rw[measE] at he ⊢
  split at he
  ·injection he with _ he;injection he with _ he;cases he
  ·rename_i hc
   simp only[Bool.or_eq_true,decide_eq_true_eq,not_or,Bool.not_eq_true'] at hc
   have hp:p (.mk op n v l)=true:=by simpa using hc.2
   rw[if_neg (by simp only[Bool.or_eq_true,decide_eq_true_eq,not_or,Bool.not_eq_true'];exact⟨⟨by omega,by omega⟩,by simp[hp]⟩)]
   cases hm:measL p l N H 1 0 with
   | none=>rw[hm] at he;simp only at he;injection he with _ he;injection he with _ he;cases he
   | some q=>
    rw[hm] at he
    rw[measL_mono p l N H N' H' 1 0 (by rw[hm]) h1 h2]
    exact he
theorem measL_mono(p:Ex->Bool):∀(l:List Ex) (N H N' H' c h:Int) {q:Int×Int},measL p l N H c h=some q->N<=N'->H<=H'->measL p l N' H' c h=some q
 | [],N,H,N',H',c,h,q,he,h1,h2=>by rw[measL] at he ⊢;exact he
 | e::l,N,H,N',H',c,h,q,he,h1,h2=>by
  rw[measL] at he ⊢
  split at he
  ·rename_i hok
   obtain⟨c2,h2',ok,hm⟩:∃c2 h2 ok,measE p e (N-c) (H-1)=(c2,h2,ok):=⟨_,_,_,rfl⟩
   rw[hm] at he hok
   simp only at he hok
   subst hok
   rw[meas_mono p e (N-c) (H-1) (N'-c) (H'-1) hm (by omega) (by omega)]
   simp only[if_true]
   exact measL_mono p l N H N' H' _ _ he h1 h2
  ·cases he
end
theorem measL_mem(p:Ex->Bool):∀(l:List Ex) (N H c h:Int) (x:Ex),1<=c->0<=h->(measL p l N H c h).isSome=true->x∈l->∃N' H',N'<=N/\H'<=H/\(measE p x N' H').2.2=true
 | [],N,H,c,h,x,_,_,he,hx=>by cases hx
 | e::l,N,H,c,h,x,h1,h2,he,hx=>by
  rw[measL] at he
  split at he
  ·rename_i hok
   rcases List.mem_cons.1 hx with rfl|hx
   ·exact⟨N-c,H-1,by omega,by omega,hok⟩
   ·obtain⟨c2,h2',ok,hm⟩:∃c2 h2 ok,measE p e (N-c) (H-1)=(c2,h2,ok):=⟨_,_,_,rfl⟩
    rw[hm] at he hok
    simp only at he hok
    subst hok
    have g:=meas_le p e (N-c) (H-1) hm
    exact measL_mem p l N H _ _ x (by omega) (by omega) he hx
  ·cases he
theorem built_arg{e x:Ex}{i:Nat}(h:builtE e=true)(hx:e.args[i]?=some x):builtE x=true:=by
 unfold builtE at h ⊢
 rw[measE_eq] at h
 split at h
 ·cases h
 ·cases hm:measL soundE e.args 400 40 1 0 with
  | none=>rw[hm] at h;cases h
  | some q=>
   obtain⟨N',H',h1,h2,h3⟩:=measL_mem soundE e.args 400 40 1 0 x (by omega) (by omega) (by rw[hm];rfl) (List.mem_of_getElem? hx)
   obtain⟨c2,h2',ok,hk⟩:∃c2 h2 ok,measE soundE x N' H'=(c2,h2,ok):=⟨_,_,_,rfl⟩
   rw[hk] at h3
   simp only at h3
   subst h3
   rw[meas_mono soundE x N' H' 400 40 hk h1 h2]
def needE(e:Ex):Ex:=.mk e.op (if e.op == 1 then e.n else 0) (if e.op == 2 then cleanV e.v else .null) []
mutual
def madeE(g:Ex->Ex):Ex->Ex
 | .mk op n v l=>g (.mk op (if op == 1 then n else 0) (if op == 2 then cleanV v else .null) (madeL g l))
def madeL(g:Ex->Ex):List Ex->List Ex
 | []=>[]
 | e::l=>madeE g e::madeL g l
end
theorem madeL_map(g:Ex->Ex):∀l:List Ex,madeL g l=l.map (madeE g)
 | []=>by rw[madeL];rfl
 | e::l=>by rw[madeL,madeL_map g l];rfl
def nodeG(g:Ex->Ex)(e:Ex):Ex:=.mk e.op (if e.op == 1 then e.n else 0) (if e.op == 2 then cleanV e.v else .null) (e.args.map (madeE g))
theorem madeE_eq(g:Ex->Ex)(e:Ex):madeE g e=g (nodeG g e):=by
 cases e with
 | mk op n v l=>rw[madeE,madeL_map];rfl
mutual
theorem made_copy:∀e:Ex,madeE id e=copyE e
 | .mk op n v l=>by rw[madeE,copyE,made_copyL l];rfl
theorem made_copyL:∀l:List Ex,madeL id l=copyL l
 | []=>by rw[madeL,copyL]
 | e::l=>by rw[madeL,copyL,made_copy e,made_copyL l]
end
mutual
def Ex.short:Ex->Prop
 | .mk _ _ _ l=>l.length<=1000000000/\Ex.shorts l
def Ex.shorts:List Ex->Prop
 | []=>True
 | e::l=>e.short/\Ex.shorts l
end
theorem Ex.short_open{e:Ex}(h:e.short):e.args.length<=1000000000/\Ex.shorts e.args:=by
 cases e with
 | mk op n v l=>rw[Ex.short] at h;exact h
theorem Ex.shorts_mem:∀{l:List Ex} {x:Ex},Ex.shorts l->x∈l->x.short
 | [],_,_,h=>by cases h
 | e::l,x,hf,h=>by
  rw[Ex.shorts] at hf
  rcases List.mem_cons.1 h with rfl|h
  ·exact hf.1
  ·exact Ex.shorts_mem hf.2 h
theorem Ex.short_arg{e x:Ex}{i:Nat}(h:e.short)(hx:e.args[i]?=some x):x.short:=Ex.shorts_mem (Ex.short_open h).2 (List.mem_of_getElem? hx)
mutual
theorem meas_short(p:Ex->Bool):∀(e:Ex) (N H:Int),N<=1000000000->(measE p e N H).2.2=true->e.short
 | .mk op n v l,N,H,hN,he=>by
  rw[measE] at he
  split at he
  ·cases he
  ·rename_i hc
   simp only[Bool.or_eq_true,decide_eq_true_eq,not_or] at hc
   cases hm:measL p l N H 1 0 with
   | none=>rw[hm] at he;cases he
   | some q=>
    rw[Ex.short]
    have:=measL_short p l N H 1 0 (q:=q) (by omega) (by omega) (by omega) (by omega) hN hm
    have h2:=measL_le p l N H 1 0 (c':=q.1) (h':=q.2) (by omega) (by omega) (by omega) (by omega) hm
    exact⟨by omega,this.2⟩
theorem measL_short(p:Ex->Bool):∀(l:List Ex) (N H c h:Int) {q:Int×Int},1<=c->c<=N->0<=h->h<=H-1->N<=1000000000->measL p l N H c h=some q->c+l.length<=q.1/\Ex.shorts l
 | [],N,H,c,h,q,h1,h2,h3,h4,hN,he=>by
  rw[measL] at he
  injection he with he
  subst he
  exact⟨by show c+((0:Nat):Int)<=c;omega,by rw[Ex.shorts];trivial⟩
 | e::l,N,H,c,h,q,h1,h2,h3,h4,hN,he=>by
  rw[measL] at he
  split at he
  ·rename_i hok
   have hs:=meas_short p e (N-c) (H-1) (by omega) hok
   obtain⟨c2,h2',ok,hm⟩:∃c2 h2 ok,measE p e (N-c) (H-1)=(c2,h2,ok):=⟨_,_,_,rfl⟩
   rw[hm] at he hok
   simp only at he hok
   subst hok
   have g:=meas_le p e (N-c) (H-1) hm
   have:=measL_short p l N H (c+c2) (max h h2') (by omega) (by omega) (by omega) (by omega) hN he
   rw[Ex.shorts,List.length_cons]
   exact⟨by omega,hs,this.2⟩
  ·cases he
end
end Go.Proofs.YtbfibfmnemnbbaaGreat.E
set_option linter.unusedSimpArgs false
set_option linter.unusedVariables false
set_option maxHeartbeats 400000
namespace Go.Proofs.YtbfibfmnemnbbaaGreat.E
open Go.RowKit Go.Sort
theorem constant_any(v:Val)(w:World):Calls Tryz.prog 135 #[v.v] w fun r w'=>r=.returned ((Ex.mk 2 0 v []).val none 0)/\Below w.heap.size w w':=by
 rw[Val.open_]
 go_enter Tryz.func135,Tryz.ntmps135
 go_wp2
 refine bodyPost_ret (v:=(Ex.mk 2 0 v []).val none 0) (by simp[results,Tryz.results135,go_sem,Ex.val,Ex.op,Ex.n,Ex.v,Ex.args]) rfl ?_
 exact⟨rfl,by first|exact Below.refl _ _|exact below_alloc (Below.refl _ _) _|exact below_alloc (below_alloc (Below.refl _ _) _) _⟩
def Box6(w:World)(b:Nat)(e:Ex)(a:Option Addr)(c:Nat):Prop:=Six w b e a c/\(w.frozen? ⟨b,0,none⟩=false/\w.frozen? ⟨b,1,none⟩=false/\w.frozen? ⟨b,2,none⟩=false/\w.frozen? ⟨b,3,none⟩=false/\w.frozen? ⟨b,4,none⟩=false/\w.frozen? ⟨b,5,none⟩=false)
theorem Box6.later{w w1:World}{b:Nat}{e:Ex}{a:Option Addr}{c:Nat}(h:Box6 w b e a c)(hb:Below w.heap.size w w1):Box6 w1 b e a c:=by
 obtain⟨h0,f0,f1,f2,f3,f4,f5⟩:=h
 obtain⟨hc,hf⟩:=bcell hb
 have hl:b<w.heap.size:=World.block_lt_of_cell? w _ h0.1
 refine⟨h0.later hb,?_⟩
 rw[hf _ _ hl,hf _ _ hl,hf _ _ hl,hf _ _ hl,hf _ _ hl,hf _ _ hl]
 exact⟨f0,f1,f2,f3,f4,f5⟩
theorem Box6.new(w:World)(e:Ex)(a:Option Addr)(c:Nat):Box6 (w.alloc (e.box a c)) w.heap.size e a c:=⟨Six.new w e a c,by simp[go_sem],by simp[go_sem],by simp[go_sem],by simp[go_sem],by simp[go_sem],by simp[go_sem]⟩
abbrev zeroE:Ex:=.mk 0 0 .null []
theorem put6{w W:World}{B:Nat}(hb:Below w.heap.size w W)(hB:w.heap.size<=B)(u0 u1 u2 u3 u4 u5:Value):Below w.heap.size w ((((((W.setCell ⟨B,0,none⟩ u0).setCell ⟨B,1,none⟩ u1).setCell ⟨B,2,none⟩ u2).setCell ⟨B,3,none⟩ u3).setCell ⟨B,4,none⟩ u4).setCell ⟨B,5,none⟩ u5):=
 ((((((hb.setCell (by simpa using hB) _).setCell (by simpa using hB) _).setCell (by simpa using hB) _).setCell (by simpa using hB) _).setCell (by simpa using hB) _).setCell (by simpa using hB) _)
theorem needed_any(e:Ex)(a:Option Addr)(c:Nat)(w:World):Calls Tryz.prog 105 #[e.val a c] w fun r w'=>r=.returned ((needE e).val none 0)/\Below w.heap.size w w':=by
 have HC:=hide (fun W=>clean_any e.v W)
 have HK:=hide (fun W=>constant_any (cleanV e.v) W)
 have HB:=hide (below_alloc (Below.refl _ w) (.cells #[.int .i64 e.op,.int .i64 e.n,.int .i64 e.v.k,.int .i64 e.v.n,.string e.v.s,.slice a e.args.length c] 28))
 have H6:Hid (Six (w.alloc (.cells #[.int .i64 e.op,.int .i64 e.n,.int .i64 e.v.k,.int .i64 e.v.n,.string e.v.s,.slice a e.args.length c] 28)) w.heap.size e a c):=Six.new w e a c
 obtain⟨R,hR⟩:∃R,R=(needE e).val none 0:=⟨_,rfl⟩
 rw[<-hR]
 by_cases h1:e.op=1
 ·have hR2:R=.agg #[.int .i64 1,.int .i64 e.n,.int .i64 0,.int .i64 0,.string ⟨#[]⟩,.slice none 0 0]:=by rw[hR,show needE e=.mk 1 e.n .null [] by unfold needE;rw[h1];rfl];rfl
  subst hR2
  clear hR
  rw[Ex.val_open,h1]
  rw[h1] at HB
  go_enter Tryz.func105,Tryz.ntmps105
  go_wp2
  refine bodyPost_ret (v:=.agg #[.int .i64 1,.int .i64 e.n,.int .i64 0,.int .i64 0,.string ⟨#[]⟩,.slice none 0 0]) (by simp[results,Tryz.results105,go_sem]) rfl ?_
  exact⟨rfl,below_alloc (unhide HB) _⟩
 by_cases h2:e.op=2
 ·have hR2:R=(Ex.mk 2 0 (cleanV e.v) []).val none 0:=by rw[hR,show needE e=.mk 2 0 (cleanV e.v) [] by unfold needE;rw[h2];rfl]
  subst hR2
  clear hR h1
  rw[Ex.val_open,h2]
  rw[h2] at HB
  rw[Val.open_] at HC
  have HB2:=hide (below_alloc (unhide HB) (zeroE.box none 0))
  have HZ:=hide (Box6.new (w.alloc (.cells #[.int .i64 2,.int .i64 e.n,.int .i64 e.v.k,.int .i64 e.v.n,.string e.v.s,.slice a e.args.length c] 28)) zeroE none 0)
  have hsz:(w.alloc (.cells #[.int .i64 2,.int .i64 e.n,.int .i64 e.v.k,.int .i64 e.v.n,.string e.v.s,.slice a e.args.length c] 28)).heap.size=w.heap.size+1:=by simp[go_sem]
  rw[hsz] at HZ
  clear hsz
  generalize cleanV e.v=cv at *
  go_enter Tryz.func105,Tryz.ntmps105
  go_wp2_with (first
   | (go_at_call 23;refine(unhide HC _).mono ?_;rintro r w1 ⟨rfl,hb1⟩)
   | (go_at_call 135;refine(unhide HK _).mono ?_;rintro r w2 ⟨rfl,hb2⟩;obtain⟨⟨z0,z1,z2,z3,z4,z5⟩,f0,f1,f2,f3,f4,f5⟩:=(unhide HZ).later (below_step hb1 hb2);rw[Ex.val_open]))
  refine bodyPost_ret (v:=(Ex.mk 2 0 cv []).val none 0) (by simp[results,Tryz.results105,go_sem,Ex.val,Ex.op,Ex.n,Ex.v,Ex.args, *]) rfl ?_
  exact⟨rfl,put6 (below_step (below_step (unhide HB2) hb1) hb2) (by omega) _ _ _ _ _ _⟩
 ·have e1:(e.op == 1)=false:=by simpa using h1
  have e2:(e.op == 2)=false:=by simpa using h2
  have hR2:R=.agg #[.int .i64 e.op,.int .i64 0,.int .i64 0,.int .i64 0,.string ⟨#[]⟩,.slice none 0 0]:=by rw[hR,show needE e=.mk e.op 0 .null [] by unfold needE;rw[e1,e2];rfl];rfl
  subst hR2
  clear hR e1 e2
  rw[Ex.val_open]
  go_enter Tryz.func105,Tryz.ntmps105
  go_wp2
  refine bodyPost_ret (v:=.agg #[.int .i64 e.op,.int .i64 0,.int .i64 0,.int .i64 0,.string ⟨#[]⟩,.slice none 0 0]) (by simp[results,Tryz.results105,go_sem]) rfl ?_
  exact⟨rfl,below_alloc (unhide HB) _⟩
end Go.Proofs.YtbfibfmnemnbbaaGreat.E
set_option linter.unusedSimpArgs false
set_option linter.unusedVariables false
set_option maxHeartbeats 400000
set_option maxRecDepth 100000
namespace Go.Proofs.YtbfibfmnemnbbaaGreat.E
open Go.RowKit Go.Sort
def TestP(W:World)(F:Value)(p:Ex->Bool)(PP:Ex->Prop):Prop:=∃n k,F=.func (.func n) #[] k/\(∀args w,(callFunc n args).run Tryz.prog w=.ok (.enter n args) w)/\∀(x:Ex) (a':Option Addr) (c':Nat) (W':World),PP x->Below W.heap.size W W'->Ex.all W' a' x.args->Calls Tryz.prog n (#[x.val a' c']++k) W' fun r w'=>r=.returned (.bool (p x))/\Below W'.heap.size W' w'
def FoundP(p:Ex->Bool)(l:List Ex)(r:Int):Prop:=(∃(k:Nat) (x:Ex),r=k/\l[k]?=some x/\p x=true/\∀(i:Nat) (y:Ex),i<k->l[i]?=some y->p y=false)∨(r=-1/\∀(i:Nat) (y:Ex),l[i]?=some y->p y=false)
theorem indexP_any(F:Value)(p:Ex->Bool)(PP:Ex->Prop)(a:Option Addr)(c:Nat)(l:List Ex)(w:World)(hl:l.length<=140737488355328)(hf:∀x∈l,PP x)(ha:Ex.all w a l)(hF:TestP w F p PP) :
  Calls Tryz.prog 57 #[.slice a l.length c,F] w fun e w'=>∃r,e=.returned (.int .i64 r)/\FoundP p l r/\Below w.heap.size w w':=by
 have HA:=hide ha
 obtain⟨nf,kf,rfl,ent,HP⟩:=hF
 have HC:=hide HP
 clear ha HP
 go_enter Tryz.func57,Tryz.ntmps57
 go_wp2_with fail
 go_loopw[8] (fun i wr=>∃k:Nat,k<=l.length/\i=.int .i64 (k:Int)/\Hid (∀i x,i<k->l[i]?=some x->p x=false)/\Below w.heap.size w wr) (fun i _=>l.length-(intOf i).toNat)
 case atStart=>exact⟨0,Nat.zero_le _,rfl,fun i x hi=>absurd hi (by omega),Below.refl _ _⟩
 case round=>
  obtain⟨k,hk,rfl,HN,hb⟩:=hrel
  by_cases hlt:k<l.length
  ·have h9:(k:Int)<(l.length:Int):=by omega
   obtain⟨x,hx⟩:∃x,l[k]?=some x:=⟨_,List.getElem?_eq_getElem hlt⟩
   obtain⟨vb,vo,ea,hat⟩:=Ex.all_get (Ex.all_later _ (unhide HA) hb) hx
   obtain⟨a',c',⟨d0,d1,d2,d3,d4,d5⟩,hal⟩:=Ex.at_open hat
   have HX:=hide (unhide HC x a' c' wr (hf _ (List.mem_of_getElem? hx)) hb hal)
   rw[Ex.val_open] at HX
   have HB:=hide hb
   subst ea
   clear hat hal hb
   cases hp:p x
   ·have HE:=hide (no_step (unhide HN) hx hp)
    rw[hp] at HX
    clear hx HN hp
    go_wp2_with (refine(unhide HX).mono ?_;rintro r w1 ⟨rfl,hb1⟩)
    exact⟨⟨k+1,by omega,by go_num,unhide HE,below_step (unhide HB) hb1⟩,by simp[intOf];omega⟩
   ·have HE:Hid (FoundP p l (k:Int)):=Or.inl ⟨k,x,rfl,hx,hp,unhide HN⟩
    rw[hp] at HX
    clear hx HN hp
    go_wp2_with (refine(unhide HX).mono ?_;rintro r w1 ⟨rfl,hb1⟩)
    go_ret
    exact⟨_,rfl,unhide HE,below_step (unhide HB) hb1⟩
  ·have h9:¬(k:Int)<(l.length:Int):=by omega
   have HE:Hid (FoundP p l (-1)):=Or.inr ⟨rfl,fun i x hx=>unhide HN i x (by have:=(List.getElem?_eq_some_iff.1 hx).1;omega) hx⟩
   have HB:=hide hb
   clear HN hb
   go_wp2
   go_ret
   exact⟨_,rfl,unhide HE,unhide HB⟩
theorem foundP_any{p:Ex->Bool}{l:List Ex}{r:Int}(h:FoundP p l r):decide (0<=r)=l.any p:=by
 rcases h with ⟨k,x,rfl,hx,hp,_⟩|⟨rfl,h⟩
 ·rw[any_at hx hp];simp
 ·rw[any_no fun i x _ hx=>h i x hx];rfl
theorem containsP_any(F:Value)(p:Ex->Bool)(PP:Ex->Prop)(a:Option Addr)(c:Nat)(l:List Ex)(w:World)(hl:l.length<=140737488355328)(hf:∀x∈l,PP x)(ha:Ex.all w a l)(hF:TestP w F p PP) :
  Calls Tryz.prog 28 #[.slice a l.length c,F] w fun e w'=>e=.returned (.bool (l.any p))/\Below w.heap.size w w':=by
 have HI:Hid (Calls Tryz.prog 57 #[.slice a l.length c,F] w fun e w'=>∃r,e=.returned (.int .i64 r)/\decide (0<=r)=l.any p/\Below w.heap.size w w'):=(indexP_any F p PP a c l w hl hf ha hF).mono fun e w' ⟨r,h1,h2,h3⟩=>⟨r,h1,foundP_any h2,h3⟩
 clear ha
 generalize l.any p=r at *
 go_enter Tryz.func28,Tryz.ntmps28
 go_wp2_with (go_at_call 57;refine(unhide HI).mono ?_;rintro e w1 ⟨q,rfl,hq,hb⟩)
 go_ret
 exact⟨rfl,hb⟩
end Go.Proofs.YtbfibfmnemnbbaaGreat.E
