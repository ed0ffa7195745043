import Derived.Test.YtbfibfmnemnbbaaGreatRdO
import Derived.Defers
import Derived.Recover
import Derived.Test.YtbfibfmnemnbbaaGreatPackZ
set_option linter.unusedSimpArgs false
set_option linter.unusedVariables false
set_option maxHeartbeats 400000
set_option maxRecDepth 100000
namespace Go.Proofs.YtbfibfmnemnbbaaGreat
open Go.RowKit Go.Sort
theorem catch_idle(p q:Addr)(w:World) :
  CallsD Tryz.prog 128 #[.pointer (some p),.pointer (some q)] .returning w fun e u' w'=>e=.returned (.tuple #[])/\u'=.returning/\w'=w:=by
 refine callsD_of_wpS Tryz.func128 rfl fun c₀ cs hu=>?_
 apply wpS_seq
 apply wpS_region
 simp[wpOpsS,go_sem,recoverD,hu,Tryz.ntmps128,Exit.thenS]
 apply wpS_seq
 apply wpS_seq
 apply wpS_region
 simp[wpOpsS,go_sem,Exit.thenS]
 refine wpS_cond (t:=true) (by simp[Act.eval,Array.replicate]) ?_
 simp only[if_true]
 refine wpS_of_wp (wp_ret ?_)
 cases c₀
 simp_all [bodyPostS,results,Tryz.results128,Exit.thenS]
theorem Rd.made(w:World)(l:List UInt8):Rd (w.alloc (.cells #[.string (bs l)] 157)) w.heap.size l:=At1.alloc w 157 _
theorem bs_back(s:ByteArray):bs s.data.toList=s:=by simp[bs]
theorem opened_yes{sch:Nat}{kind:Int}{l:List UInt8}{xs:List Val}{w:World}(hl:l.length<=140737488355328)(hd:columnD l=some (sch,kind,xs)) :
  Calls Tryz.prog 92 #[.string (bs l)] w fun e w'=>∃v,e=.returned (.tuple #[.agg #[.int .i64 (sch:Int),.int .i64 kind,v],.int .i64 0])/\OwnV w' w.heap.size v xs/\Below w.heap.size w w':=by
 have hmf:=makeFunc_run
 have HC:Hid (∀o1 o2,Calls Tryz.prog 129 #[.pointer (some ⟨w.heap.size+1+1,0,none⟩)] (((w.alloc o1).alloc o2).alloc (.cells #[.string (bs l)] 157)) fun e w'=>∃v,e=.returned (.agg #[.int .i64 (sch:Int),.int .i64 kind,v])/\OwnV w' (w.heap.size+1+1+1) v xs/\Gr (((w.alloc o1).alloc o2).alloc (.cells #[.string (bs l)] 157)) w' (w.heap.size+1+1)):=fun o1 o2=>by
  have h:=Rd.made ((w.alloc o1).alloc o2) l
  have e:((w.alloc o1).alloc o2).heap.size=w.heap.size+1+1:=by simp
  rw[e] at h
  have h2:=column_yes h hl hd
  have e2:(((w.alloc o1).alloc o2).alloc (.cells #[.string (bs l)] 157)).heap.size=w.heap.size+1+1+1:=by simp
  rw[e2] at h2
  exact h2
 have HX:Hid (∀w1 o,Gr (((w.alloc (.cells #[.int .i64 0,.int .i64 0,.slice none 0 0] 134)).alloc (.cells #[.int .i64 0] 29)).alloc o) w1 (w.heap.size+1+1)->w1.rowIs w.heap.size 134 3 (box86 (.int .i64 0) (.int .i64 0) (.slice none 0 0))/\At1 w1 (w.heap.size+1) 29 (.int .i64 0)):=fun w1 o hg=>by
  refine⟨row_grx (((box86_alloc w _ _ _).alloc _).alloc _) hg (by omega),?_⟩
  have h:=At1.alloc (w.alloc (.cells #[.int .i64 0,.int .i64 0,.slice none 0 0] 134)) 29 (.int .i64 0)
  have e:(w.alloc (.cells #[.int .i64 0,.int .i64 0,.slice none 0 0] 134)).heap.size=w.heap.size+1:=by simp
  rw[e] at h
  exact(h.new o).gr hg (by omega)
 go_enter_defers Tryz.func92,Tryz.ntmps92
 go_wp2_with (go_at_call 129;refine(unhide HC _ _).mono ?_;rintro e w1 ⟨v1,rfl,ho1,hg1⟩;obtain⟨a1,c1,rfl,_,_,_⟩:=ownV_slice ho1;obtain⟨hx1,hx2⟩:=unhide HX w1 _ hg1;obtain⟨p0,p1,p2,q0,q1,q2⟩:=box86_facts hx1;have y0:=hx2.cell;have z0:=World.rowIs.frozen hx2 0)
 refine leaves_cons (f:=128) (args:=#[.pointer (some ⟨w.heap.size,0,none⟩),.pointer (some ⟨w.heap.size+1,0,none⟩)]) (by simp) (by simp[go_sem]) ?_
 refine(catch_idle ⟨w.heap.size,0,none⟩ ⟨w.heap.size+1,0,none⟩ _).mono ?_
 rintro e u' w'' ⟨rfl,rfl,rfl⟩
 have hz:w.heap.size+1+1+1<=w1.heap.size:=by have:=hg1.size;simpa using this
 have hb:Below w.heap.size w w1:=by
  refine⟨hg1.os,hg1.tape,hg1.output,by omega,fun i hi=>?_⟩
  rw[hg1.block i (by simp;omega) (fun e=>by injection e with e;omega),Below.heap_alloc _ _ _ (by simp;omega),Below.heap_alloc _ _ _ (by simp;omega),Below.heap_alloc _ _ _ hi]
 refine⟨.tuple #[.agg #[.int .i64 (sch:Int),.int .i64 kind,.slice a1 xs.length c1],.int .i64 0],?_,⟨_,rfl,?_,?_⟩⟩
 ·simp[results,Tryz.results92,go_sem,p0,p1,p2,y0]
 ·exact own_base ((((ho1.putg (by omega) _).putg (by omega) _).putg (by omega) _).putg (by omega) _) (by omega)
 ·exact(((hb.setCell (p:=⟨w.heap.size,0,none⟩) (Nat.le_refl _) _).setCell (p:=⟨w.heap.size,1,none⟩) (Nat.le_refl _) _).setCell (p:=⟨w.heap.size,2,none⟩) (Nat.le_refl _) _).setCell (p:=⟨w.heap.size+1,0,none⟩) (by simp) _
end Go.Proofs.YtbfibfmnemnbbaaGreat
set_option linter.unusedSimpArgs false
set_option linter.unusedVariables false
namespace Go.Proofs.YtbfibfmnemnbbaaGreat
open Go.RowKit Go.Sort
theorem ofI_nat(k:Nat)(h:k<256):(ofI (k:Int)).toNat=k:=by simp[ofI];omega
theorem two8(m:Nat):(2:Int) ^ (8*m)=((256 ^ m:Nat):Int):=by
 have:(2:Nat) ^ (8*m)=256 ^ m:=by rw[Nat.pow_mul]
 rw[<-this,Int.natCast_pow];rfl
theorem castdm(U p:Nat):(U:Int) / (p:Int) % 256=((U / p % 256:Nat):Int):=by rw[Int.natCast_emod,Int.natCast_ediv];rfl
theorem beV_take(U n:Nat):∀k,k<=n->beV ((beL (U:Int) n k).map ofI)=U / 256 ^ (n-k) % 256 ^ k:=by
 intro k
 induction k with
 | zero=>intro _;simp[beL,beV,Nat.mod_one]
 | succ k ih=>
  intro hk
  have e:beL (U:Int) n (k+1)=beL (U:Int) n k++[beN (U:Int) n k]:=by simp[beL,List.range_succ]
  rw[e,List.map_append,List.map_cons,List.map_nil,beV_snoc,ih (by omega)]
  have e2:beN (U:Int) n k=((U / 256 ^ (n-(k+1)) % 256:Nat):Int):=by
   unfold beN
   rw[show n-1-k=n-(k+1) by omega,two8,castdm]
  rw[e2,ofI_nat _ (Nat.mod_lt _ (by decide))]
  have e3:n-k=n-(k+1)+1:=by omega
  rw[e3,Nat.pow_succ,<-Nat.div_div_eq_div_mul]
  generalize U / 256 ^ (n-(k+1))=x
  rw[Nat.pow_succ,Nat.mul_comm (256 ^ k) 256,Nat.mod_mul]
  omega
theorem beV_back(U n:Nat)(h:U<256 ^ n):beV ((beL (U:Int) n n).map ofI)=U:=by
 rw[beV_take U n n (Nat.le_refl _)];simp[Nat.mod_eq_of_lt h]
theorem leB_cons(T m:Nat):leB T (m+1)=((T % 256:Nat):Int)::leB (T / 256) m:=by
 unfold leB
 rw[List.range_succ_eq_map,List.map_cons,List.map_map]
 congr 1
 ·simp[byteN]
 ·apply List.map_congr_left
  intro j _
  simp only[Function.comp,byteN,Nat.succ_eq_add_one,Nat.pow_succ,Nat.mul_comm (256 ^ j) 256,Nat.div_div_eq_div_mul]
theorem leV_back:∀(m T:Nat),leV ((leB T m).map ofI)=T % 256 ^ m
 | 0,T=>by simp[leB,leV,Nat.mod_one]
 | m+1,T=>by
  rw[leB_cons,List.map_cons,leV,leV_back m,ofI_nat _ (Nat.mod_lt _ (by decide)),Nat.pow_succ,Nat.mul_comm (256 ^ m) 256,Nat.mod_mul]
theorem leB_forth:∀l:List UInt8,leB (leV l) l.length=l.map fun b=>(b.toNat:Int)
 | []=>by simp[leB]
 | b::l=>by
  have h2:=b.toNat_lt
  rw[List.length_cons,leB_cons,leV,List.map_cons,<-leB_forth l]
  congr 1
  ·congr 1;omega
  ·congr 1;omega
theorem beL_forth(l:List UInt8):beL ((beV l:Nat):Int) l.length l.length=l.map fun b=>(b.toNat:Int):=by
 apply List.ext_getElem
 ·simp[beL]
 intro i h1 h2
 simp only[beL,List.length_map,List.length_range] at h1
 simp only[beL,List.getElem_map,List.getElem_range,beN]
 rw[two8,castdm]
 congr 1
 have key:∀(k:Nat) (l:List UInt8) (i:Nat) (hi:i<l.length),l.length=i+1+k->beV l / 256 ^ k % 256=(l[i]).toNat:=by
  intro k
  induction k with
  | zero=>
   intro l i hi hl
   have hne:l≠[]:=by intro h;simp[h] at hi
   have e:=List.dropLast_concat_getLast hne
   have e2:l[i]=l.getLast hne:=by rw[List.getLast_eq_getElem];congr 1;omega
   rw[e2]
   conv=>lhs;rw[<-e,beV_snoc]
   have:=(l.getLast hne).toNat_lt
   omega
  | succ k ih=>
   intro l i hi hl
   have hne:l≠[]:=by intro h;simp[h] at hi
   have e:=List.dropLast_concat_getLast hne
   have e3:l[i]=l.dropLast[i]'(by simp;omega):=by simp
   rw[e3,<-ih l.dropLast i (by simp;omega) (by simp;omega)]
   conv=>lhs;rw[<-e,beV_snoc]
   rw[Nat.pow_succ,Nat.mul_comm (256 ^ k) 256,<-Nat.div_div_eq_div_mul]
   have:=(l.getLast hne).toNat_lt
   congr 2
   omega
 have:=key (l.length-1-i) l i h1 (by omega)
 exact this
theorem numAt_total(d:Nat):∀(ns:List Nat) (i:Nat) (h:i<ns.length),numAt (total d ns) d i=ns[i] % 2 ^ d
 | n::ns,0,_=>by simp[numAt,total]
 | n::ns,i+1,h=>by
  have ih:=numAt_total d ns i (by simpa using h)
  unfold numAt at ih ⊢
  rw[Nat.mul_succ,Nat.add_comm,Nat.pow_add,<-Nat.div_div_eq_div_mul,total]
  have h1:n % 2 ^ d<2 ^ d:=Nat.mod_lt _ (Nat.two_pow_pos d)
  rw[Nat.add_mul_div_left _ _ (Nat.two_pow_pos d),Nat.div_eq_of_lt h1,Nat.zero_add,ih]
  simp
theorem total_nums(d:Nat):∀(m T:Nat),total d ((List.range m).map (numAt T d))=T % 2 ^ (d*m)
 | 0,T=>by simp[total,Nat.mod_one]
 | m+1,T=>by
  have ih:=total_nums d m (T / 2 ^ d)
  have e:(List.range (m+1)).map (numAt T d)=numAt T d 0::(List.range m).map (numAt (T / 2 ^ d) d):=by
   rw[List.range_succ_eq_map,List.map_cons,List.map_map]
   congr 1
   apply List.map_congr_left
   intro j _
   simp only[Function.comp,numAt,Nat.succ_eq_add_one,Nat.mul_succ,Nat.add_comm (d*j) d,Nat.pow_add,Nat.div_div_eq_div_mul]
  rw[e,total,ih,Nat.mul_succ,Nat.add_comm (d*m) d,Nat.pow_add,Nat.mod_mul]
  simp[numAt]
def en(zs:List Int):List UInt8:=zs.map ofI
theorem en_append(a b:List Int):en (a++b)=en a++en b:=List.map_append
theorem en_len(a:List Int):(en a).length=a.length:=List.length_map ..
theorem beL_length(U:Int)(n k:Nat):(beL U n k).length=k:=by simp[beL]
theorem leB_length(T m:Nat):(leB T m).length=m:=by simp[leB]
theorem takeD_app(a r:List UInt8)(n:Nat)(h:a.length=n):takeD n (a++r)=some (a,r):=by
 subst h;simp[takeD]
theorem numD_app(U n:Nat)(r:List UInt8)(h:U<256 ^ n):numD n (en (beL (U:Int) n n)++r)=some (U,r):=by
 have hl:(en (beL (U:Int) n n)).length=n:=by rw[en_len,beL_length]
 unfold numD
 rw[if_pos (by rw[List.length_append,hl];omega)]
 have e1:(en (beL (U:Int) n n)++r).take n=en (beL (U:Int) n n):=by rw[List.take_append_of_le_length (by omega),List.take_of_length_le (by omega)]
 have e2:(en (beL (U:Int) n n)++r).drop n=r:=by rw[List.drop_append_of_le_length (by omega),List.drop_of_length_le (by omega),List.nil_append]
 rw[e1,e2]
 show some (beV ((beL (U:Int) n n).map ofI),r)=_
 rw[beV_back U n h]
theorem en_txt(s:ByteArray):en (txt s)=s.data.toList:=by
 unfold en txt
 rw[List.map_map]
 conv=>rhs;rw[<-List.map_id s.data.toList]
 apply List.map_congr_left
 intro b _
 simp[ofI]
def Fits(kind:Int)(x:Val):Prop:=(kind=1/\∃n,-9223372036854775808<=n/\n<=9223372036854775807/\x=.num n)∨(kind=2/\∃s:ByteArray,s.size<=1000/\x=.str s)
theorem plainD_back{kind:Int}{x:Val}(h:Fits kind x)(r:List UInt8):plainD kind (en (plainL x)++r)=some (x,r):=by
 rcases h with ⟨rfl,n,h1,h2,rfl⟩|⟨rfl,s,h1,rfl⟩
 ·have e:plainL (.num n)=beL (((n % 18446744073709551616).toNat:Nat):Int) 8 8:=by
   have:(((n % 18446744073709551616).toNat:Nat):Int)=n % 18446744073709551616:=by omega
   rw[this]
   simp[plainL,Val.num,IntKind.wrap_u64]
  rw[e]
  unfold plainD
  rw[if_pos (by decide),numD_app _ 8 r (by have:(256:Nat)^8=18446744073709551616:=(by decide);omega)]
  have e3:sint (n % 18446744073709551616).toNat=n:=by unfold sint wrap64;omega
  simp only[Option.map_some,e3]
 ·have e:plainL (.str s)=beL (s.size:Int) 2 2++txt s:=by simp[plainL,Val.str]
  rw[e,en_append,List.append_assoc]
  unfold plainD
  rw[if_neg (by decide),numD_app s.size 2 _ (by have:(256:Nat)^2=65536:=(by decide);omega),en_txt]
  simp only[Option.bind_some]
  rw[if_pos h1,takeD_app _ _ _ (by rw[Array.length_toList];rfl)]
  rfl
theorem plainsD_snoc(kind:Int):∀(xs:List Val) (r:List UInt8),(∀x∈xs,Fits kind x)->plainsD kind xs.length (en (plains xs)++r)=some (xs,r):=by
 intro xs
 suffices h:∀(n:Nat) (xs:List Val),xs.length=n->∀(r:List UInt8),(∀x∈xs,Fits kind x)->plainsD kind n (en (plains xs)++r)=some (xs,r) from fun r hx=>h _ xs rfl r hx
 intro n
 induction n with
 | zero=>intro xs hl r _;have:xs=[]:=List.eq_nil_of_length_eq_zero hl;subst this;simp[plainsD,plains,en]
 | succ n ih=>
  intro xs hl r hx
  have hne:xs≠[]:=by intro h;simp[h] at hl
  have e:=List.dropLast_concat_getLast hne
  have e2:plains xs=plains xs.dropLast++plainL (xs.getLast hne):=by
   conv=>lhs;rw[<-e]
   simp[plains]
  rw[e2,en_append,List.append_assoc,plainsD,ih xs.dropLast (by simp[hl]) _ (fun x h=>hx x (List.dropLast_subset xs h))]
  simp only[Option.bind_some]
  rw[plainD_back (hx _ (List.getLast_mem hne))]
  simp only[Option.map_some,e]
theorem bytesN_pow(k d:Nat):2 ^ (d*k)<=256 ^ bytesN k d:=by
 rw[show (256:Nat)=2 ^ 8 by rfl,<-Nat.pow_mul]
 exact Nat.pow_le_pow_right (by decide) (by unfold bytesN;rw[Nat.mul_comm d k];omega)
theorem bitsD_back(d:Nat)(ns:List Nat)(hn:∀n∈ns,n<2 ^ d)(r:List UInt8) :
  ∃t,bitsD ns.length d (en (leB (total d ns) (bytesN ns.length d))++r)=some (t,r)/\numsOf t d ns.length=ns:=by
 have hT:=total_lt d ns
 have hb:=bytesN_pow ns.length d
 have e:leV (en (leB (total d ns) (bytesN ns.length d)))=total d ns:=by
  show leV ((leB _ _).map ofI)=_
  rw[leV_back,Nat.mod_eq_of_lt (by omega)]
 refine⟨en (leB (total d ns) (bytesN ns.length d)),?_,?_⟩
 ·unfold bitsD
  rw[takeD_app _ _ _ (by rw[en_len,leB_length])]
  simp only[Option.bind_some]
  rw[if_pos (by rw[e];exact hT)]
 ·unfold numsOf
  rw[e]
  apply List.ext_getElem
  ·simp
  ·intro i h1 h2
   simp only[List.getElem_map,List.getElem_range]
   rw[numAt_total d ns i h2,Nat.mod_eq_of_lt (hn _ (List.getElem_mem h2))]
theorem ord_num(a b:Int):ordV (.num a) (.num b)=cmpI a b:=by
 unfold ordV
 show orI (cmpI 1 1) (cmpI a b) (cmpB ⟨#[]⟩ ⟨#[]⟩)=_
 rw[cmpI_self,cmpB_nil,orI_last]
theorem ord_numle(a b:Int):ordV (.num a) (.num b)<=0 ↔ a<=b:=by
 rw[ord_num]
 unfold cmpI
 split
 ·omega
 ·split<;>omega
theorem min_spec:∀(ys:List Val) (m:Val),minFrom m ys∈m::ys/\∀y∈m::ys,ordV (minFrom m ys) y<=0
 | [],m=>⟨by simp[minFrom],fun y hy=>by simp at hy;subst hy;rw[minFrom,List.foldl_nil,ord_self];omega⟩
 | z::ys,m=>by
  have e:minFrom m (z::ys)=minFrom (if ordV z m<0 then z else m) ys:=rfl
  rw[e]
  obtain⟨h1,h2⟩:=min_spec ys (if ordV z m<0 then z else m)
  have hle:=h2 _ (List.mem_cons_self ..)
  by_cases hz:ordV z m<0
  ·rw[if_pos hz] at h1 h2 hle ⊢
   refine⟨?_,fun y hy=>?_⟩
   ·rcases List.mem_cons.1 h1 with h|h
    ·rw[h];simp
    ·simp[h]
   ·rcases List.mem_cons.1 hy with rfl|hy
    ·exact ord_le hle (by omega)
    ·rcases List.mem_cons.1 hy with rfl|hy
     ·exact hle
     ·exact h2 y (by simp[hy])
  ·rw[if_neg hz] at h1 h2 hle ⊢
   have hmz:ordV m z<=0:=by have:=ord_anti m z;omega
   refine⟨?_,fun y hy=>?_⟩
   ·rcases List.mem_cons.1 h1 with h|h
    ·rw[h];simp
    ·simp[h]
   ·rcases List.mem_cons.1 hy with rfl|hy
    ·exact hle
    ·rcases List.mem_cons.1 hy with rfl|hy
     ·exact ord_le hle hmz
     ·exact h2 y (by simp[hy])
theorem bl_mono{a b:Nat}(h:a<=b):bl a<=bl b:=bl_le (Nat.lt_of_le_of_lt h (bl_lt b))
theorem strict_all{W:List Val}(h:strictB W=true):∀(i j:Nat) (x y:Val),i<j->W[i]?=some x->W[j]?=some y->ordV x y<0:=by
 have h1:∀(i:Nat) (x y:Val),W[i]?=some x->W[i+1]?=some y->ordV x y<0:=by
  intro i x y hx hy
  unfold strictB at h
  rw[List.all_eq_true] at h
  obtain⟨hl,_⟩:=List.getElem?_eq_some_iff.1 hy
  have:=h i (by rw[List.mem_range];omega)
  simp only[List.getD_eq_getElem?_getD,hx,hy,Option.getD_some,decide_eq_true_eq] at this
  exact this
 intro i j x y hij hx
 obtain⟨d,rfl⟩:∃d,j=i+1+d:=⟨j-i-1,by omega⟩
 clear hij
 induction d generalizing y with
 | zero=>intro hy;exact h1 i x y hx hy
 | succ d ih=>
  intro hy
  obtain⟨hl,_⟩:=List.getElem?_eq_some_iff.1 hy
  have hz:W[i+1+d]?=some (W[i+1+d]'(by omega)):=List.getElem?_eq_getElem (by omega)
  have a:=ih _ hz
  have b:=h1 (i+1+d) _ _ hz hy
  have c:=ord_le (Int.le_of_lt a) (Int.le_of_lt b)
  rcases Int.lt_or_eq_of_le c with c|c
  ·exact c
  ·exfalso
   have e:=ord_anti x y
   have f:=ord_le (x:=y) (y:=x) (z:=W[i+1+d]'(by omega)) (by omega) (Int.le_of_lt a)
   have g:=ord_anti y (W[i+1+d]'(by omega))
   omega
theorem strict_pos{W:List Val}(h:strictB W=true){k:Nat}{x:Val}(hx:W[k]?=some x):posN W x=k:=by
 obtain⟨hl,_⟩:=List.getElem?_eq_some_iff.1 hx
 refine posN_eq (Nat.le_of_lt hl) (fun a y ha hy=>strict_all h a k y x ha hy hx) (fun a y ha hy=>?_)
 rcases Nat.lt_or_eq_of_le ha with ha|ha
 ·have:=strict_all h k a x y ha hx hy
  have e:=ord_anti x y
  omega
 ·subst ha
  rw[hx] at hy;injection hy with hy;subst hy
  rw[ord_self];omega
theorem bl_words{W:List Val}{k:Nat}(h:k<W.length):k<2 ^ bl (W.length-1):=Nat.lt_of_le_of_lt (by omega) (bl_lt _)
theorem wordsD_back{kind:Int}{xs W:List Val}(hs:strictB W=true)(hmem:∀x,x∈xs ↔ x∈W)(hf:∀x∈xs,Fits kind x)(hl:W.length<=4096)(r:List UInt8) :
  wordsD kind xs.length (en (wordsB W xs)++r)=some (xs,r):=by
 have hpos:∀x∈xs,W.getD (posN W x) .null=x:=by
  intro x hx
  obtain⟨k,hk,e⟩:=List.getElem_of_mem ((hmem x).1 hx)
  have:=strict_pos hs (k:=k) (x:=x) (by rw[List.getElem?_eq_getElem hk,e])
  rw[this,List.getD_eq_getElem?_getD,List.getElem?_eq_getElem hk,e];rfl
 obtain⟨t,ht,hn⟩:=bitsD_back (bl (W.length-1)) (xs.map (posN W)) (by
  intro n hn
  obtain⟨x,hx,rfl⟩:=List.mem_map.1 hn
  exact bl_words (posN_lt ((hmem x).1 hx))) r
 rw[List.length_map] at ht hn
 unfold wordsD wordsB
 rw[en_append,en_append,List.append_assoc,List.append_assoc,numD_app W.length 2 _ (by have:(256:Nat)^2=65536:=(by decide);omega)]
 simp only[Option.bind_some]
 rw[plainsD_snoc kind W _ (fun x hx=>hf x ((hmem x).2 hx))]
 simp only[Option.bind_some]
 rw[if_pos hs,ht]
 simp only[Option.bind_some,hn]
 refine(if_pos ⟨?_,?_⟩).trans ?_
 ·congr 2
  rw[List.map_map]
  conv=>rhs;rw[<-List.map_id xs]
  exact List.map_congr_left fun x hx=>hpos x hx
 ·intro k hk
  obtain⟨x,hx,rfl⟩:=List.mem_map.1 hk
  exact posN_lt ((hmem x).1 hx)
 ·intro j hj
  rw[List.mem_map]
  exact⟨W[j],(hmem _).2 (List.getElem_mem hj),strict_pos hs (List.getElem?_eq_getElem hj)⟩
theorem foldl_wid(least:Int):∀(xs:List Val) (m M:Nat),m=bl M->xs.foldl (fun m x=>max m (bl (offN least x))) m=bl ((xs.map (offN least)).foldl max M)
 | [],m,M,h=>h
 | x::xs,m,M,h=>by
  rw[List.foldl_cons,List.map_cons,List.foldl_cons]
  refine foldl_wid least xs _ _ ?_
  rcases Nat.le_total M (offN least x) with g|g
  ·rw[Nat.max_eq_right g,h,Nat.max_eq_right (bl_mono g)]
  ·rw[Nat.max_eq_left g,h,Nat.max_eq_left (bl_mono g)]
theorem widL_fold(least:Int)(xs:List Val):widL least xs=bl ((xs.map (offN least)).foldl max 0):=foldl_wid least xs 0 0 rfl
theorem sint_off{least n:Int}(h1:-9223372036854775808<=least)(h2:least<=n)(h3:n<=9223372036854775807):sint ((least % 18446744073709551616).toNat+((n-least) % 18446744073709551616).toNat)=n:=by
 unfold sint wrap64;omega
theorem sint_self{least:Int}(h1:-9223372036854775808<=least)(h3:least<=9223372036854775807):sint (least % 18446744073709551616).toNat=least:=by
 unfold sint wrap64;omega
theorem offsD_back{xs:List Val}(hf:∀x∈xs,Fits 1 x)(hlen:xs.length<=4096)(r:List UInt8):offsetsD xs.length (en (offsB (leastI xs) xs)++r)=some (xs,r):=by
 have hnum:∀x∈xs,-9223372036854775808<=x.n/\x.n<=9223372036854775807/\x=.num x.n:=by
  intro x hx
  rcases hf x hx with ⟨_,n,h1,h2,rfl⟩|⟨h,_⟩
  ·exact⟨h1,h2,rfl⟩
  ·cases h
 have hle:-9223372036854775808<=leastI xs/\leastI xs<=9223372036854775807/\(∀x∈xs,leastI xs<=x.n)/\(xs≠[]->∃x∈xs,x.n=leastI xs):=by
  cases xs with
  | nil=>simp[leastI]
  | cons x ys=>
   obtain⟨hm,hle⟩:=min_spec ys x
   have h0:=hnum _ hm
   refine⟨h0.1,h0.2.1,fun y hy=>?_,fun _=>⟨_,hm,rfl⟩⟩
   have h3:=hle y hy
   rw[h0.2.2,(hnum y hy).2.2,ord_numle] at h3
   exact h3
 obtain⟨l1,l2,l3,l4⟩:=hle
 have l5:xs=[]->leastI xs=0:=by intro h;subst h;rfl
 generalize leastI xs=least at *
 obtain⟨t,ht,hn⟩:=bitsD_back (widL least xs) (xs.map (offN least)) (by
  intro n hn
  obtain⟨x,hx,rfl⟩:=List.mem_map.1 hn
  exact widL_ge hx) r
 rw[List.length_map] at ht hn
 have hw:=widL_le least xs
 have eU:IntKind.u64.wrap least=(((least % 18446744073709551616).toNat:Nat):Int):=by rw[IntKind.wrap_u64];omega
 unfold offsetsD offsB
 rw[en_append,en_append,List.append_assoc,List.append_assoc,eU,numD_app _ 8 _ (by have:(256:Nat)^8=18446744073709551616:=(by decide);omega)]
 simp only[Option.bind_some]
 rw[numD_app (widL least xs) 1 _ (by omega)]
 simp only[Option.bind_some]
 rw[if_pos hw,ht]
 simp only[Option.bind_some,hn]
 refine(if_pos ⟨?_,widL_fold least xs,?_⟩).trans ?_
 ·congr 2
  rw[List.map_map]
  conv=>rhs;rw[<-List.map_id xs]
  refine List.map_congr_left fun x hx=>?_
  obtain⟨n1,n2,n3⟩:=hnum x hx
  show Val.num (sint (_+offN least x))=x
  unfold offN
  rw[sint_off l1 (l3 x hx) n2]
  exact n3.symm
 ·intro k hk
  obtain⟨x,hx,rfl⟩:=List.mem_map.1 hk
  obtain⟨n1,n2,n3⟩:=hnum x hx
  unfold offN
  rw[sint_off l1 (l3 x hx) n2,sint_self l1 l2]
  exact l3 x hx
 ·by_cases h0:xs=[]
  ·subst h0
   simp only[List.length_nil,if_true]
   rw[l5 rfl];rfl
  ·rw[if_neg (by simpa using h0)]
   obtain⟨x,hx,e⟩:=l4 h0
   rw[List.mem_map]
   refine⟨x,hx,?_⟩
   unfold offN
   rw[e];simp
theorem nullsD_back(xs:List Val)(r:List UInt8):nullsD xs.length (en (nullsL xs)++r)=some (xs.map nullB,r):=by
 unfold nullsL
 by_cases h:xs.any nullB=true
 ·rw[if_pos h]
  have hm:∀n∈marksN xs,n<2 ^ 1:=by
   intro n hn
   obtain⟨x,_,rfl⟩:=List.mem_map.1 hn
   show (if nullB x=true then 1 else 0)<2 ^ 1
   split<;>decide
  obtain⟨t,ht,hn⟩:=bitsD_back 1 (marksN xs) hm r
  have hl:(marksN xs).length=xs.length:=List.length_map ..
  rw[hl] at ht hn
  unfold nullsD
  have e1:(1:Int)=((1:Nat):Int):=rfl
  rw[en_append,List.append_assoc,e1,numD_app 1 1 _ (by decide)]
  simp only[Option.bind_some]
  rw[if_neg (by decide),if_pos trivial,ht]
  simp only[Option.bind_some,hn]
  have e2:(marksN xs).map (· == 1)=xs.map nullB:=by
   unfold marksN
   rw[List.map_map]
   refine List.map_congr_left fun x _=>?_
   show ((if nullB x=true then 1 else 0) == 1)=nullB x
   cases nullB x<;>rfl
  have e3:nlOfT t xs.length=xs.map nullB:=by unfold nlOfT;rw[hn,e2]
  rw[e3,if_pos (by simpa [List.any_map] using h)]
 ·rw[if_neg h]
  unfold nullsD
  have e1:(0:Int)=((0:Nat):Int):=rfl
  rw[e1,numD_app 0 1 _ (by decide)]
  simp only[Option.bind_some]
  rw[if_pos trivial]
  congr 2
  apply List.ext_getElem
  ·simp
  ·intro i h1 h2
   simp only[List.getElem_replicate,List.getElem_map]
   simp only[List.any_eq_true,not_exists,not_and,Bool.not_eq_true] at h
   exact(h _ (List.getElem_mem (by simpa using h2))).symm
theorem stand_count(xs:List Val):(xs.map nullB).count false=(standL xs).length:=by
 induction xs with
 | nil=>rfl
 | cons x xs ih=>
  unfold standL at ih ⊢
  rw[List.map_cons,List.count_cons,ih,List.filter_cons]
  unfold nullB
  by_cases h:x.k=0<;>simp[h]
theorem spread_back:∀(xs:List Val),(∀x∈xs,x.k=0->x=.null)->spreadL (xs.map nullB) (standL xs)=xs
 | [],_=>rfl
 | x::xs,h=>by
  have ih:=spread_back xs (fun y hy=>h y (List.mem_cons_of_mem _ hy))
  unfold standL at ih ⊢
  rw[List.map_cons,List.filter_cons]
  unfold nullB at ih ⊢
  by_cases hk:x.k=0
  ·have e:=h x (by simp) hk
   simp[hk,spreadL,ih,<-e]
  ·have e:(x.k == 0)=false:=by simpa using hk
   simp[e,hk,spreadL,ih]
def runsG(kind:Int)(count:Nat):Nat->List Val×List UInt8->Option (List Val×List UInt8)
 | 0,p=>some p
 | n+1,p=>(runD kind count p.1 p.2).bind (runsG kind count n)
theorem runsG_snoc(kind:Int)(count:Nat):∀(n:Nat) (p:List Val×List UInt8),runsG kind count (n+1) p=(runsG kind count n p).bind fun q=>runD kind count q.1 q.2
 | 0,p=>by
  cases h:runD kind count p.1 p.2<;>simp[runsG,h]
 | n+1,p=>by
  rw[runsG]
  conv=>rhs;rw[runsG]
  rw[Option.bind_assoc]
  congr 1
  funext q
  exact runsG_snoc kind count n q
theorem runsD_G(kind:Int)(count:Nat):∀(n:Nat) (l:List UInt8),runsD kind count n l=runsG kind count n ([],l)
 | 0,_=>rfl
 | n+1,l=>by rw[runsG_snoc,runsD,runsD_G kind count n l]
theorem ahead_take(x:Val)(xs:List Val):(x::xs).take (aheadN (x::xs))=List.replicate (aheadN (x::xs)) x:=by
 unfold aheadN
 rw[List.eq_replicate_iff]
 refine⟨by rw[List.length_take,Nat.min_eq_left (List.takeWhile_prefix _).length_le],?_⟩
 intro y hy
 have e:(x::xs).take ((x::xs).takeWhile fun y=>sameB y ((x::xs).headD Val.null)).length=(x::xs).takeWhile fun y=>sameB y ((x::xs).headD Val.null):=by
  obtain⟨r,hr⟩:=List.takeWhile_prefix (l:=x::xs) (fun y=>sameB y ((x::xs).headD Val.null))
  conv=>lhs;arg 2;rw[<-hr]
  rw[List.take_left]
 rw[e] at hy
 have:=List.all_takeWhile (l:=x::xs) (p:=fun y=>sameB y ((x::xs).headD Val.null))
 rw[List.all_eq_true] at this
 exact sameB_eq.1 (this y hy)
theorem ahead_drop(x:Val)(xs:List Val){z:Val}(h:((x::xs).drop (aheadN (x::xs))).head?=some z):sameB x z=false:=by
 unfold aheadN at h
 have hh:=List.head?_dropWhile_not (fun y=>sameB y ((x::xs).headD Val.null)) (x::xs)
 have e:(x::xs).drop ((x::xs).takeWhile fun y=>sameB y ((x::xs).headD Val.null)).length=(x::xs).dropWhile fun y=>sameB y ((x::xs).headD Val.null):=by
  have:=List.takeWhile_append_dropWhile (p:=fun y=>sameB y ((x::xs).headD Val.null)) (l:=x::xs)
  conv=>lhs;arg 2;rw[<-this]
  rw[List.drop_left]
 rw[e] at h
 rw[h] at hh
 cases hs:sameB x z
 ·rfl
 ·have e:=sameB_eq.1 hs
  subst e
  have:sameB x x=true:=sameB_eq.2 rfl
  simp[this] at hh
theorem runsG_back{kind:Int}{count:Nat}(hc:count<=4096):∀(f:Nat) (vs xs:List Val) (r:List UInt8),xs.length<=f->vs.length+xs.length=count->(∀x∈xs,Fits kind x)->(∀y z,vs.getLast?=some y->xs.head?=some z->sameB y z=false)->runsG kind count (runsN f xs) (vs,en (runsB f xs)++r)=some (vs++xs,r)
 | 0,vs,[],r,_,_,_,_=>by simp[runsN,runsG,runsB,en]
 | 0,vs,x::xs,r,h,_,_,_=>by simp at h
 | f+1,vs,[],r,_,_,_,_=>by simp[runsN,runsG,runsB,en]
 | f+1,vs,x::xs,r,hf,hl,hx,hlast=>by
  have hp:=ahead_pos (x:=x) (xs:=xs)
  have hle:=ahead_le (x::xs)
  have ht:=ahead_take x xs
  have hd:=fun z h=>ahead_drop x xs (z:=z) h
  have hsplit:=List.take_append_drop (aheadN (x::xs)) (x::xs)
  rw[ht] at hsplit
  have hdl:((x::xs).drop (aheadN (x::xs))).length=(x::xs).length-aheadN (x::xs):=List.length_drop
  unfold runsN runsB
  generalize hR:(x::xs).drop (aheadN (x::xs))=R at *
  generalize hA:aheadN (x::xs)=A at *
  rw[Nat.add_comm 1,runsG,en_append,en_append,List.append_assoc,List.append_assoc]
  have hrun:runD kind count vs (en (beL (A:Int) 4 4)++(en (plainL x)++(en (runsB f R)++r)))=some (vs++List.replicate A x,en (runsB f R)++r):=by
   unfold runD
   rw[numD_app A 4 _ (by have:(256:Nat)^4=4294967296:=(by decide);omega)]
   simp only[Option.bind_some]
   rw[plainD_back (hx x (by simp))]
   simp only[Option.bind_some]
   rw[if_pos ⟨hp,by omega,fun y hy=>hlast y x hy rfl⟩]
  rw[hrun,Option.bind_some]
  have ih:=runsG_back hc f (vs++List.replicate A x) R r (by simp at hf hdl;omega) (by rw[List.length_append,List.length_replicate];omega)
   (fun y hy=>hx y (by rw[<-hsplit];exact List.mem_append_right _ hy)) (fun y z hy hz=>by
    have:y=x:=by
     rw[List.getLast?_append,List.getLast?_replicate,if_neg (by omega)] at hy
     simpa using hy.symm
    rw[this];exact hd z hz)
  rw[ih,List.append_assoc,hsplit]
theorem runsN_le:∀(f:Nat) (xs:List Val),runsN f xs<=f
 | 0,_=>by simp[runsN]
 | f+1,[]=>by simp[runsN]
 | f+1,x::xs=>by rw[runsN];have:=runsN_le f ((x::xs).drop (aheadN (x::xs)));omega
theorem valuesD_back{sch:Nat}{kind:Int}{ys:List Val}{b:List Int}(hb:BodyB sch ys b)(hf:∀x∈ys,Fits kind x)(hl:ys.length<=4096)(h4:sch=4->kind=1)
  (hst:∀W,WordsOf ys W->strictB W=true):valuesD sch kind ys.length (en b)=some (ys,[]):=by
 have e0:∀b:List Int,en b=en b++[]:=fun b=>(List.append_nil _).symm
 rcases hb with ⟨rfl,rfl⟩|⟨rfl,rfl⟩|⟨rfl,W,hW,rfl⟩|⟨rfl,rfl⟩
 ·unfold valuesD
  rw[if_pos rfl,e0,plainsD_snoc kind ys _ hf]
 ·unfold valuesD
  have:=runsN_le ys.length ys
  rw[if_neg (by decide),if_pos rfl,e0,en_append,List.append_assoc,numD_app _ 4 _ (by have:(256:Nat)^4=4294967296:=(by decide);omega)]
  simp only[Option.bind_some]
  rw[runsD_G,runsG_back hl ys.length [] ys [] (Nat.le_refl _) (by simp) hf (by simp)]
  simp
 ·unfold valuesD
  rw[if_neg (by decide),if_neg (by decide),if_pos rfl,e0,wordsD_back (hst W hW) (fun x=>⟨fun h=>hW.mem h,fun h=>hW.sub h⟩) hf (by have:=hW.len;omega)]
 ·unfold valuesD
  have:=h4 rfl
  subst this
  rw[if_neg (by decide),if_neg (by decide),if_neg (by decide),if_pos ⟨rfl,rfl⟩,e0,offsD_back hf hl]
theorem columnD_back{sch kd:Nat}{xs:List Val}{b:List Int}(hsch:sch<=4)(hk:kd=1∨kd=2)(hl:xs.length<=4096)(hb:BodyB sch (standL xs) b)(hf:∀x∈standL xs,Fits (kd:Int) x)(h0:∀x∈xs,x.k=0->x=.null)
  (h4:sch=4->kd=1) (hst:∀W,WordsOf (standL xs) W->strictB W=true):columnD (en (headB sch kd xs++b))=some (sch,(kd:Int),xs):=by
 have hs:(standL xs).length<=xs.length:=List.length_filter_le _ _
 unfold columnD headB
 rw[en_append,en_append,en_append,en_append,List.append_assoc,List.append_assoc,List.append_assoc,numD_app sch 1 _ (by omega)]
 simp only[Option.bind_some]
 rw[numD_app kd 1 _ (by omega)]
 simp only[Option.bind_some]
 rw[if_pos hk,numD_app xs.length 4 _ (by have:(256:Nat)^4=4294967296:=(by decide);omega)]
 simp only[Option.bind_some]
 rw[if_pos hl,nullsD_back]
 simp only[Option.bind_some]
 rw[stand_count,valuesD_back hb hf (by omega) (fun h=>by rw[h4 h];rfl) hst]
 simp only[Option.bind_some,if_true]
 rw[spread_back xs h0]
def SA(L:List Val):Prop:=∀(i:Nat) (x y:Val),L[i]?=some x->L[i+1]?=some y->ordV x y<0
theorem SA.snoc{L:List Val}{x:Val}(h:SA L)(hl:∀y,L.getLast?=some y->ordV y x<0):SA (L++[x]):=by
 intro i a b ha hb
 by_cases h1:i+1<L.length
 ·rw[List.getElem?_append_left (by omega)] at ha
  rw[List.getElem?_append_left h1] at hb
  exact h i a b ha hb
 ·have h2:i+1=L.length:=by
   have:=(List.getElem?_eq_some_iff.1 hb).1
   simp at this;omega
  rw[List.getElem?_append_right (by omega)] at hb
  rw[List.getElem?_append_left (by omega)] at ha
  have e:b=x:=by rw[show i+1-L.length=0 by omega] at hb;simpa using hb.symm
  rw[e]
  refine hl a ?_
  rw[List.getLast?_eq_getElem?,show L.length-1=i by omega]
  exact ha
theorem comp_strict{xs:List Val}(hr:Rises xs)(hc:∀x∈xs,cleanV x=x):∀j y,xs[j]?=some y->SA (compT xs j)/\(compT xs j).getLast?=some y
 | 0,y,hy=>by
  cases xs with
  | nil=>cases hy
  | cons a xs=>
   injection hy with hy
   subst hy
   have e:compT (a::xs) 0=[a]:=by simp[compT]
   rw[e]
   exact⟨fun i x y h1 h2=>by simp at h2,rfl⟩
 | j+1,x,hx=>by
  have hl:=(List.getElem?_eq_some_iff.1 hx).1
  obtain⟨y,hy⟩:∃y,xs[j]?=some y:=⟨_,List.getElem?_eq_getElem (by omega)⟩
  obtain⟨h1,h2⟩:=comp_strict hr hc j y hy
  rw[comp_next hx hy]
  cases hs:sameB x y
  ·rw[if_neg (by simp)]
   refine⟨h1.snoc fun z hz=>?_,by simp⟩
   rw[h2] at hz
   injection hz with hz
   subst hz
   have h3:=hr.at (a:=j) (b:=j+1) (by omega) hy hx
   rcases Int.lt_or_eq_of_le h3 with h4|h4
   ·exact h4
   ·have h5:=ord_eq h4
    rw[hc y (List.mem_of_getElem? hy),hc x (List.mem_of_getElem? hx)] at h5
    rw[sameB_eq.2 h5.symm] at hs
    cases hs
  ·rw[if_pos rfl,List.append_nil]
   rw[sameB_eq.1 hs]
   exact⟨h1,h2⟩
theorem words_strict{ys W:List Val}(h:WordsOf ys W)(hc:∀y∈ys,cleanV y=y):strictB W=true:=by
 obtain⟨S,hp,hr,rfl⟩:=h
 have hcS:∀x∈S,cleanV x=x:=fun x hx=>hc x (hp.mem_iff.1 hx)
 have hSA:SA (compL S):=by
  by_cases h0:S.length=0
  ·have:S=[]:=List.eq_nil_of_length_eq_zero h0
   subst this
   intro i x y h1 _
   simp[compL,compT] at h1
  ·exact(comp_strict hr hcS (S.length-1) _ (List.getElem?_eq_getElem (by omega))).1
 unfold strictB
 rw[List.all_eq_true]
 intro i hi
 rw[List.mem_range] at hi
 have h1:(compL S)[i]?=some ((compL S)[i]'(by omega)):=List.getElem?_eq_getElem (by omega)
 have h2:(compL S)[i+1]?=some ((compL S)[i+1]'(by omega)):=List.getElem?_eq_getElem (by omega)
 simp only[List.getD_eq_getElem?_getD,h1,h2,Option.getD_some,decide_eq_true_eq]
 exact hSA i _ _ h1 h2
theorem toB_list(zs:List Int):(toB zs).data.toList=en zs:=by rw[toB_eq];rfl
theorem packed_col{X:Vc}(hr:∀n∈X.ns,-9223372036854775808<=n/\n<=9223372036854775807){n:Nat}(hn:n=1∨n=2∨n=3∨n=4){s:ByteArray}(h:PW X (n:Int) s 0):columnD s.data.toList=some (n,X.k,valsV X):=by
 rcases h with ⟨_,_,h⟩|⟨_,_,_,h⟩|⟨hb,hl,_,b,hbody,rfl⟩
 ·cases h
 ·cases h
 have hg:goodB X=true:=by
  unfold badW at hb
  cases hgg:goodB X
  ·rw[hgg] at hb;simp at hb
  ·rfl
 have h4:n=4->X.k=1:=by
  intro h4
  subst h4
  unfold badW at hb
  rcases good_kind hg with h|h
  ·exact h
  ·rw[h,hg] at hb;simp at hb
 have hk:=good_kind hg
 have hkn:X.k.toNat=1∨X.k.toNat=2:=by omega
 have hke:((X.k.toNat:Nat):Int)=X.k:=by omega
 rw[Int.toNat_natCast] at hbody ⊢
 have hvl:(valsV X).length<=4096:=Nat.le_trans (vals_le X) hl
 have hfit:∀x∈standL (valsV X),Fits ((X.k.toNat:Nat):Int) x:=by
  intro x hx
  obtain⟨h1,h2⟩:=List.mem_filter.1 hx
  rw[hke]
  rcases vals_kind hg h1 with rfl|⟨hk,m,hm,rfl⟩|⟨hk,t,ht,rfl⟩
  ·simp[Val.null] at h2
  ·refine .inl ⟨hk,m,?_,?_,rfl⟩
   ·rcases hm with hm|rfl
    ·exact(hr m hm).1
    ·decide
   ·rcases hm with hm|rfl
    ·exact(hr m hm).2
    ·decide
  ·exact .inr ⟨hk,t,ht,rfl⟩
 rw[toB_list,columnD_back (by omega) hkn hvl hbody hfit ?_ ?_ ?_,hke]
 ·intro x hx h0
  rcases vals_kind hg hx with rfl|⟨hk,m,hm,rfl⟩|⟨hk,t,ht,rfl⟩
  ·rfl
  ·simp[Val.num] at h0
  ·simp[Val.str] at h0
 ·intro h;have:=h4 h;omega
 ·intro W hW
  exact words_strict hW fun y hy=>vals_clean hg (List.mem_filter.1 hy).1
end Go.Proofs.YtbfibfmnemnbbaaGreat
set_option linter.unusedSimpArgs false
set_option linter.unusedVariables false
set_option maxHeartbeats 400000
set_option maxRecDepth 100000
namespace Go.Proofs.YtbfibfmnemnbbaaGreat
open Go.RowKit Go.Sort
def Opens(s:ByteArray)(sch:Nat)(kind:Int)(xs:List Val):Prop:=∀W,Calls Tryz.prog 92 #[.string s] W fun e w'=>∃a c,e=.returned (.tuple #[.agg #[.int .i64 (sch:Int),.int .i64 kind,.slice a xs.length c],.int .i64 0])/\RowAt w' a xs/\Below W.heap.size W w'
theorem opens_of{s:ByteArray}{sch:Nat}{kind:Int}{xs:List Val}(hl:s.size<=140737488355328)(h:columnD s.data.toList=some (sch,kind,xs)):Opens s sch kind xs:=by
 intro W
 have:=opened_yes (w:=W) (l:=s.data.toList) (by rw[Array.length_toList];exact hl) h
 rw[bs_back] at this
 refine this.mono ?_
 rintro e w' ⟨v,rfl,ho,hb⟩
 obtain⟨a,c,rfl,_,_,hr⟩:=ownV_slice ho
 exact⟨a,c,rfl,hr,hb⟩
theorem pread_any{s:ByteArray}{sch:Nat}{kind:Int}{xs:List Val}(h:Opens s sch kind xs)(hl:xs.length<=4096){X:Vc}(hf:fromV kind xs=(X,0))(w:World):Calls Tryz.prog 68 #[.string s] w fun e w'=>∃p,e=.returned (.tuple #[vecV X p,.int .i64 0])/\VecAt w' X p/\Own3 w' w.heap.size X p/\Below w.heap.size w w':=by
 have H:=hide h
 have HF:Hid (∀W a c,RowAt W a xs->Calls Tryz.prog 18 #[.int .i64 kind,.slice a xs.length c] W fun e w'=>∃p,e=.returned (.tuple #[vecV X p,.int .i64 0])/\VecAt w' X p/\Own3 w' W.heap.size X p/\Below W.heap.size W w'):=fun W a c ha=>by
  have:=from_any a c kind xs W (by omega) ha
  rw[hf] at this
  exact this
 clear h hf
 go_enter Tryz.func68,Tryz.ntmps68
 go_wp2_with (first
  | (go_at_call 92;refine(unhide H _).mono ?_;rintro e w1 ⟨a,c,rfl,hr1,hb1⟩)
  | (go_at_call 18;refine(unhide HF _ _ _ (hr1.later (below_alloc (Below.refl _ _) _))).mono ?_;rintro e w2 ⟨p,rfl,hv2,hfr2,hb2⟩;rw[vecV_open];obtain⟨r0,r1,r2,r3,s0,s1,s2,s3⟩:=box_facts (rowIs_later (World.rowIs.alloc (rowIs_later (box4_alloc w (.int .i64 0) (.slice none 0 0) (.slice none 0 0) (.slice none 0 0)) hb1) _) hb2))
  | fail)
 have hB1:=below_one hb1
 have hB2:=below_step (below_alloc hB1 _) hb2
 have hz1:w.heap.size+1<=w1.heap.size:=by have:=hb1.size;simpa using this
 have hfr2':Own3 w2 (w.heap.size+1) X p:=hfr2.less (by simp;omega)
 have hfr3:Fresh (w.heap.size+1) p:=hfr2'.fresh
 refine bodyPost_ret (v:=.tuple #[vecV X p,.int .i64 0]) ?_ rfl ⟨p,rfl,?_,(hfr2'.setO4 (by omega) _ _ _ _).less (by omega),?_⟩
 ·simp[results,Tryz.results68,go_sem,vecV,r0,r1,r2,r3]
 ·exact⟨(((hv2.1.setO hfr3.1 _ (by simp) _).setO hfr3.1 _ (by simp) _).setO hfr3.1 _ (by simp) _).setO hfr3.1 _ (by simp) _,(((hv2.2.1.setO hfr3.2.1 _ (by simp) _).setO hfr3.2.1 _ (by simp) _).setO hfr3.2.1 _ (by simp) _).setO hfr3.2.1 _ (by simp) _,(((hv2.2.2.setO hfr3.2.2 _ (by simp) _).setO hfr3.2.2 _ (by simp) _).setO hfr3.2.2 _ (by simp) _).setO hfr3.2.2 _ (by simp) _⟩
 ·exact(((hB2.setCell (p:=⟨w.heap.size,0,none⟩) (Nat.le_refl _) _).setCell (p:=⟨w.heap.size,1,none⟩) (Nat.le_refl _) _).setCell (p:=⟨w.heap.size,2,none⟩) (Nat.le_refl _) _).setCell (p:=⟨w.heap.size,3,none⟩) (Nat.le_refl _) _
end Go.Proofs.YtbfibfmnemnbbaaGreat
set_option linter.unusedSimpArgs false
set_option linter.unusedVariables false
set_option maxHeartbeats 800000
set_option maxRecDepth 100000
namespace Go.Proofs.YtbfibfmnemnbbaaGreat
open Go.RowKit Go.Sort
theorem strict_not{W:List Val}(h:strictB W=false):∃i x y,W[i]?=some x/\W[i+1]?=some y/\decide (ordV x y<0)=false:=by
 unfold strictB at h
 rw[List.all_eq_false] at h
 obtain⟨i,hi,hn⟩:=h
 rw[List.mem_range] at hi
 have h1:i<W.length:=by omega
 have h2:i+1<W.length:=by omega
 refine⟨i,W[i],W[i+1],List.getElem?_eq_getElem h1,List.getElem?_eq_getElem h2,?_⟩
 simp only[List.getD_eq_getElem?_getD,List.getElem?_eq_getElem h1,List.getElem?_eq_getElem h2,Option.getD_some] at hn
 simpa using hn
abbrev S6 (w:World) (vb vo j k:Nat) (x y:Val):Prop:=
 w.cell? ⟨vb,vo+j*3,none⟩=some (.int .i64 x.k)/\w.cell? ⟨vb,vo+j*3+1,none⟩=some (.int .i64 x.n)/\w.cell? ⟨vb,vo+j*3+2,none⟩=some (.string x.s)/\w.cell? ⟨vb,vo+k*3,none⟩=some (.int .i64 y.k)/\w.cell? ⟨vb,vo+k*3+1,none⟩=some (.int .i64 y.n)/\w.cell? ⟨vb,vo+k*3+2,none⟩=some (.string y.s)
def dieQ(G:World->Prop):Exit->Act->World->Prop
 | .panic c,a,w=>c=[{ v:=.iface 154 (.agg #[]),recovered:=false }]/\a.defers=[]/\G w
 | _,_,_=>False
theorem dieQ.to{G:World->Prop}{Q:Exit->Act->World->Prop}(h:∀a w,a.defers=[]->G w->Q (.panic [{ v:=.iface 154 (.agg #[]),recovered:=false }]) a w):∀e a w,dieQ G e a w->Q e a w:=fun e a w hd=>by
 cases e with
 | panic c=>obtain⟨rfl,h0,hg⟩:=(show c=_/\a.defers=[]/\G w from hd);exact h a w h0 hg
 | _=>exact(show False from hd).elim
theorem num2_lt{m:Nat}{l l1:List UInt8}(hm:numD 2 l=some (m,l1)):m<65536:=by
 obtain⟨g1,rfl,rfl⟩:=numD_some hm
 have:=beV_lt (l.take 2)
 have h2:(l.take 2).length=2:=by rw[List.length_take];omega
 rw[h2] at this;simpa using this
theorem num4_lt{m:Nat}{l l1:List UInt8}(hm:numD 4 l=some (m,l1)):m<4294967296:=by
 obtain⟨g1,rfl,rfl⟩:=numD_some hm
 have:=beV_lt (l.take 4)
 have h2:(l.take 4).length=4:=by rw[List.length_take];omega
 rw[h2] at this;simpa using this
theorem num1_lt{m:Nat}{l l1:List UInt8}(hm:numD 1 l=some (m,l1)):m<256:=by
 obtain⟨g1,rfl,rfl⟩:=numD_some hm
 have:=beV_lt (l.take 1)
 have h2:(l.take 1).length=1:=by rw[List.length_take];omega
 rw[h2] at this;simpa using this
theorem plains_y{b m:Nat}{kind:Int}{l1 l2:List UInt8}{W:List Val}(hk:kind=1∨kind=2)(hm:m<=100000)(hl:l1.length<=140737488355328)(hW:plainsD kind m l1=some (W,l2))(W2:World)(hW2:Rd W2 b l1) :
  Calls Tryz.prog 165 #[.pointer (some ⟨b,0,none⟩),.int .i64 kind,.int .i64 m] W2 fun e w'=>∃v,e=.returned v/\OwnV w' W2.heap.size v W/\Rd w' b l2/\Gr W2 w' b:=by
 have:=plains_any b m kind l1 W2 hk hm hW2 hl
 rw[hW] at this
 refine this.mono ?_
 rintro e w' (⟨vs,r',v,he,h3,h4,h5,h6⟩|⟨he,_⟩)
 ·injection he with he;injection he with e1 e2;subst e1;subst e2
  exact⟨v,h3,h4,h5,h6⟩
 ·cases he
theorem plains_n{b m:Nat}{kind:Int}{l1:List UInt8}(hk:kind=1∨kind=2)(hm:m<=100000)(hl:l1.length<=140737488355328)(hW:plainsD kind m l1=none)(W2:World)(hW2:Rd W2 b l1) :
  Calls Tryz.prog 165 #[.pointer (some ⟨b,0,none⟩),.int .i64 kind,.int .i64 m] W2 fun e w'=>e=dmg/\Gr W2 w' b:=by
 have:=plains_any b m kind l1 W2 hk hm hW2 hl
 rw[hW] at this
 refine this.mono ?_
 rintro e w' (⟨vs,r',v,he,h3,h4,h5,h6⟩|⟨_,he,hg⟩)
 ·cases he
 ·exact⟨he,hg⟩
theorem words_no1{b count:Nat}{kind:Int}{l:List UInt8}{w:World}(h:Rd w b l)(hl:l.length<=140737488355328)(hm:numD 2 l=none) :
  Calls Tryz.prog 167 #[.pointer (some ⟨b,0,none⟩),.int .i64 kind,.int .i64 count] w fun e w'=>e=dmg/\Gr w w' b:=by
 have HM:=hide (numd_no h hl hm)
 clear h
 go_enter Tryz.func167,Tryz.ntmps167
 go_wp2_with (go_at_call 149;refine(unhide HM).mono ?_;rintro e w1 ⟨rfl,rfl⟩)
 exact⟨rfl,rfl,Gr.refl _ _⟩
theorem words_no2{b count m:Nat}{kind:Int}{l l1:List UInt8}{w:World}(hk:kind=1∨kind=2)(h:Rd w b l)(hl:l.length<=140737488355328)(hm:numD 2 l=some (m,l1))(hW:plainsD kind m l1=none) :
  Calls Tryz.prog 167 #[.pointer (some ⟨b,0,none⟩),.int .i64 kind,.int .i64 count] w fun e w'=>e=dmg/\Gr w w' b:=by
 have hm2:=num2_lt hm
 have hl1:=numD_le hm
 have HN:=hide (numd_yes h hl hm (by decide))
 have HP:=hide (plains_n (b:=b) hk (by omega) (by omega) hW)
 clear h hW
 go_enter Tryz.func167,Tryz.ntmps167
 go_wp2_with (first
  | (go_at_call 149;refine(unhide HN).mono ?_;rintro e w1 ⟨rfl,hr1,hg1⟩)
  | (go_at_call 165;refine(unhide HP _ hr1).mono ?_;rintro e w2 ⟨rfl,hg2⟩))
 exact⟨rfl,rfl,hg1.trans hg2⟩
theorem words_no3{b count m:Nat}{kind:Int}{l l1 l2:List UInt8}{W:List Val}{w:World}(hk:kind=1∨kind=2)(h:Rd w b l)(hl:l.length<=140737488355328)
  (hm:numD 2 l=some (m,l1)) (hW:plainsD kind m l1=some (W,l2)) (hs:strictB W=false) :
  Calls Tryz.prog 167 #[.pointer (some ⟨b,0,none⟩),.int .i64 kind,.int .i64 count] w fun e w'=>e=dmg/\Gr w w' b:=by
 have hm2:=num2_lt hm
 have hl1:=numD_le hm
 obtain⟨hWl,hl2⟩:=plainsD_len hW
 have HN:=hide (numd_yes h hl hm (by decide))
 have HP:=hide (plains_y (b:=b) hk (by omega) (by omega) hW)
 obtain⟨K,X,Y,hX,hY,hXY⟩:=strict_not hs
 have hK:K+1<m:=by
  obtain⟨g,_⟩:=List.getElem?_eq_some_iff.1 hY
  omega
 have HBAD:Hid (∀x y,W[K]?=some x->W[K+1]?=some y->decide (ordV x y<0)=false):=fun x y hx hy=>by
  rw[hX] at hx;rw[hY] at hy
  injection hx with hx;injection hy with hy
  subst hx;subst hy;exact hXY
 have HWL:=hide hWl
 clear h hW hs hWl hX hY hXY
 go_enter Tryz.func167,Tryz.ntmps167
 go_wp2_with (first
  | (go_at_call 149;refine(unhide HN).mono ?_;rintro e w1 ⟨rfl,hr1,hg1⟩)
  | (go_at_call 165;refine(unhide HP _ hr1).mono ?_;rintro e w2 ⟨v2,rfl,ho2,hr2,hg2⟩;obtain⟨wa,wc,rfl,hwa1,hwa2,hrow2⟩:=ownV_slice ho2;rw[unhide HWL]))
 have HG2:=hide (hg1.trans hg2)
 have HROW:=hide hrow2
 clear hg1 hg2 hr1 ho2 hrow2 hr2
 go_loopw[22] (fun i wr=>∃k:Nat,k<=K+1/\i=.int .i64 (k:Int)/\Below w2.heap.size w2 wr) (fun i _=>m-(intOf i).toNat)
 case atStart=>exact⟨0,Nat.zero_le _,rfl,Below.refl _ _⟩
 case round=>
  obtain⟨k,hkm,rfl,hbr⟩:=hrel
  have hlt:k<m:=by omega
  have h9:(k:Int)<(m:Int):=by omega
  have HBR:=hide hbr
  by_cases hk0:k=0
  ·subst hk0
   clear hbr
   go_wp2_with fail
   refine wp_region_quiet_below (by kernel_rfl) (by kernel_rfl) ?_
   repeat (go_big_quiet_step (first
    | (go_at_call 150;exact Calls.regrown_of (ensureB _ rfl _))))
   refine wpQuiet_nil ?_
   intro w' hw'
   have hB:Below wr.heap.size wr w':=by obtain⟨p,rfl⟩:=hw';exact below_regrown _ _ _
   clear hw'
   go_wp2
   go_roundw
   case rel=>exact⟨1,by omega,by go_num,below_step (unhide HBR) hB⟩
   case measure=>simp[intOf];omega
  ·obtain⟨j,hj⟩:∃j,k=j+1:=⟨k-1,by omega⟩
   obtain⟨x,hx⟩:∃x,W[j]?=some x:=⟨_,List.getElem?_eq_getElem (by rw[unhide HWL];omega)⟩
   obtain⟨y,hy⟩:∃y,W[k]?=some y:=⟨_,List.getElem?_eq_getElem (by rw[unhide HWL];omega)⟩
   have HLAST:Hid (k=K+1->decide (ordV x y<0)=false):=fun e=>by
    have ej:j=K:=by omega
    exact unhide HBAD x y (by rw[<-ej];exact hx) (by rw[<-e];exact hy)
   obtain⟨vb,vo,rfl,c0,c1,c2⟩:=((unhide HROW).later hbr).lo hx
   obtain⟨vb',vo',e,d0,d1,d2⟩:=((unhide HROW).later hbr).lo hy
   injection e with e
   injection e with e1 e2
   subst e1;subst e2
   have ej:(k:Int)-1=(j:Int):=by omega
   have g0:((k:Int) == 0)=false:=by simpa using hk0
   have hjm:(j:Int)<(m:Int):=by omega
   have HO:=hide (order_o x y)
   generalize ordV x y=O at HLAST HO
   cases hO:decide (O<0) with
   | true=>
    have hkK:k≠K+1:=fun e=>by have:=unhide HLAST e;rw[hO] at this;cases this
    have HLT2:=hide hO
    have k0:=cell_regrown c0
    have k1:=cell_regrown c1
    have k2:=cell_regrown c2
    have k3:=cell_regrown d0
    have k4:=cell_regrown d1
    have k5:=cell_regrown d2
    clear c0 c1 c2 d0 d1 d2 hbr hx hy hj hk0 hO
    go_wp2_with fail
    refine wp_region_quiet_below (by kernel_rfl) (by kernel_rfl) ?_
    repeat (go_big_quiet_step (first
     | (go_at_call 80;exact Calls.regrown_of (unhide HO _))
     | (go_at_call 150;exact Calls.regrown_of (ensureB _ (unhide HLT2) _))))
    refine wpQuiet_nil ?_
    intro w' hw'
    have hB:Below wr.heap.size wr w':=by obtain⟨p,rfl⟩:=hw';exact below_regrown _ _ _
    clear hw'
    go_wp2
    go_roundw
    case rel=>exact⟨k+1,by omega,by go_num,below_step (unhide HBR) hB⟩
    case measure=>simp[intOf];omega
   | false=>
    have HLT2:=hide hO
    have HS6:Hid (∀w3,Below wr.heap.size wr w3->S6 w3 vb vo j k x y):=fun w3 hb3=>by
     have r3:=((unhide HROW).later hbr).later hb3
     obtain⟨_,_,e,c0,c1,c2⟩:=r3.lo hx
     injection e with e;injection e with e1 e2;subst e1;subst e2
     obtain⟨_,_,e,d0,d1,d2⟩:=r3.lo hy
     injection e with e;injection e with e1 e2;subst e1;subst e2
     exact⟨c0,c1,c2,d0,d1,d2⟩
    have S0:=unhide HS6 wr.drew (Below.refl _ _).drew
    have hwj:IntKind.i64.wrap (j:Int)=(j:Int):=by rw[IntKind.wrap_i64];omega
    have hwj2:wrap64 (j:Int)=(j:Int):=by unfold wrap64;omega
    have hj0:(0:Int)<=(j:Int):=by omega
    have hk1:(0:Int)<=(k:Int):=by omega
    clear hbr hx hy hj hk0 hO
    go_wp2_with fail
    refine Code.wp_mono (dieQ.to (G:=fun w'=>Below wr.heap.size wr w') fun a9 w9 h0 hb9=>?_) ?_
    ·have hG9:=(unhide HG2).trans ((Gr.of_below (unhide HBR) b).trans (Gr.of_below hb9 b))
     exact⟨h0,rfl,hG9⟩
    refine wp_region_G (S:=fun w':World=>S6 w' vb vo j k x y) (k:=15) (by kernel_rfl) ?_
    refine anyG_takel (i:=0) (v:=(.int .i64 (k:Int))) [1,2,14,15] rfl (by kernel_rfl) (by kernel_rfl) (by kernel_rfl) (by kernel_rfl) (fun _ _ _ h=>h) (Or.inl ⟨by rfl,fun w' hSw=>?_⟩) S0 ?_
    ·dsimp only at hSw;obtain⟨q0,q1,q2,q3,q4,q5⟩:=hSw;go_simp
    try simp only[Act.put,List.setIfInBounds_toArray,List.set_cons_zero,List.set_cons_succ]
    refine anyG_takel (i:=1) (v:=(.bool false)) [2,14,15] rfl (by kernel_rfl) (by kernel_rfl) (by kernel_rfl) (by kernel_rfl) (fun _ _ _ h=>h) (Or.inl ⟨by rfl,fun w' hSw=>?_⟩) S0 ?_
    ·dsimp only at hSw;obtain⟨q0,q1,q2,q3,q4,q5⟩:=hSw;go_simp
    try simp only[Act.put,List.setIfInBounds_toArray,List.set_cons_zero,List.set_cons_succ]
    refine anyG_takel (i:=2) (v:=(.bool false)) [14,15] rfl (by kernel_rfl) (by kernel_rfl) (by kernel_rfl) (by kernel_rfl) (fun _ _ _ h=>h) (Or.inl ⟨by rfl,fun w' hSw=>?_⟩) S0 ?_
    ·dsimp only at hSw;obtain⟨q0,q1,q2,q3,q4,q5⟩:=hSw;go_simp
    try simp only[Act.put,List.setIfInBounds_toArray,List.set_cons_zero,List.set_cons_succ]
    refine anyG_takel (i:=3) (v:=(.slice (some ⟨vb,vo,none⟩) m wc)) [6,7,12,13,14,15] rfl (by kernel_rfl) (by kernel_rfl) (by kernel_rfl) (by kernel_rfl) (fun _ _ _ h=>h) (Or.inl ⟨by rfl,fun w' hSw=>?_⟩) S0 ?_
    ·dsimp only at hSw;obtain⟨q0,q1,q2,q3,q4,q5⟩:=hSw;go_simp
    try simp only[Act.put,List.setIfInBounds_toArray,List.set_cons_zero,List.set_cons_succ]
    refine anyG_takel (i:=4) (v:=(.int .i64 (k:Int))) [5,6,7,12,13,14,15] rfl (by kernel_rfl) (by kernel_rfl) (by kernel_rfl) (by kernel_rfl) (fun _ _ _ h=>h) (Or.inl ⟨by rfl,fun w' hSw=>?_⟩) S0 ?_
    ·dsimp only at hSw;obtain⟨q0,q1,q2,q3,q4,q5⟩:=hSw;go_simp
    try simp only[Act.put,List.setIfInBounds_toArray,List.set_cons_zero,List.set_cons_succ]
    refine anyG_takel (i:=5) (v:=(.int .i64 (j:Int))) [6,7,12,13,14,15] rfl (by kernel_rfl) (by kernel_rfl) (by kernel_rfl) (by kernel_rfl) (fun _ _ _ h=>h) (Or.inl ⟨by rfl,fun w' hSw=>?_⟩) S0 ?_
    ·dsimp only at hSw;obtain⟨q0,q1,q2,q3,q4,q5⟩:=hSw;go_simp
    try simp only[Act.put,List.setIfInBounds_toArray,List.set_cons_zero,List.set_cons_succ]
    refine anyG_takel (i:=6) (v:=(.pointer (some ⟨vb,vo+j*3,none⟩))) [7,12,13,14,15] rfl (by kernel_rfl) (by kernel_rfl) (by kernel_rfl) (by kernel_rfl) (fun _ _ _ h=>h) (Or.inl ⟨by rfl,fun w' hSw=>?_⟩) S0 ?_
    ·dsimp only at hSw;obtain⟨q0,q1,q2,q3,q4,q5⟩:=hSw;go_simp
    try simp only[Act.put,List.setIfInBounds_toArray,List.set_cons_zero,List.set_cons_succ]
    refine anyG_takel (i:=7) (v:=(.agg #[.int .i64 x.k,.int .i64 x.n,.string x.s])) [12,13,14,15] rfl (by kernel_rfl) (by kernel_rfl) (by kernel_rfl) (by kernel_rfl) (fun _ _ _ h=>h) (Or.inl ⟨by rfl,fun w' hSw=>?_⟩) S0 ?_
    ·dsimp only at hSw;obtain⟨q0,q1,q2,q3,q4,q5⟩:=hSw;go_simp
    try simp only[Act.put,List.setIfInBounds_toArray,List.set_cons_zero,List.set_cons_succ]
    refine anyG_takel (i:=8) (v:=(.slice (some ⟨vb,vo,none⟩) m wc)) [10,11,12,13,14,15] rfl (by kernel_rfl) (by kernel_rfl) (by kernel_rfl) (by kernel_rfl) (fun _ _ _ h=>h) (Or.inl ⟨by rfl,fun w' hSw=>?_⟩) S0 ?_
    ·dsimp only at hSw;obtain⟨q0,q1,q2,q3,q4,q5⟩:=hSw;go_simp
    try simp only[Act.put,List.setIfInBounds_toArray,List.set_cons_zero,List.set_cons_succ]
    refine anyG_takel (i:=9) (v:=(.int .i64 (k:Int))) [10,11,12,13,14,15] rfl (by kernel_rfl) (by kernel_rfl) (by kernel_rfl) (by kernel_rfl) (fun _ _ _ h=>h) (Or.inl ⟨by rfl,fun w' hSw=>?_⟩) S0 ?_
    ·dsimp only at hSw;obtain⟨q0,q1,q2,q3,q4,q5⟩:=hSw;go_simp
    try simp only[Act.put,List.setIfInBounds_toArray,List.set_cons_zero,List.set_cons_succ]
    refine anyG_takel (i:=10) (v:=(.pointer (some ⟨vb,vo+k*3,none⟩))) [11,12,13,14,15] rfl (by kernel_rfl) (by kernel_rfl) (by kernel_rfl) (by kernel_rfl) (fun _ _ _ h=>h) (Or.inl ⟨by rfl,fun w' hSw=>?_⟩) S0 ?_
    ·dsimp only at hSw;obtain⟨q0,q1,q2,q3,q4,q5⟩:=hSw;go_simp
    try simp only[Act.put,List.setIfInBounds_toArray,List.set_cons_zero,List.set_cons_succ]
    refine anyG_takel (i:=11) (v:=(.agg #[.int .i64 y.k,.int .i64 y.n,.string y.s])) [12,13,14,15] rfl (by kernel_rfl) (by kernel_rfl) (by kernel_rfl) (by kernel_rfl) (fun _ _ _ h=>h) (Or.inl ⟨by rfl,fun w' hSw=>?_⟩) S0 ?_
    ·dsimp only at hSw;obtain⟨q0,q1,q2,q3,q4,q5⟩:=hSw;go_simp
    try simp only[Act.put,List.setIfInBounds_toArray,List.set_cons_zero,List.set_cons_succ]
    clear S0
    refine anyG_one (i:=12) (by kernel_rfl) ?_
    refine wpOp_lit rfl (by rfl) fun K hK=>?_
    go_simp
    refine(unhide HO _).mono ?_
    rintro e w3 ⟨rfl,hb3⟩
    go_simp
    refine unhide hK _ _ ⟨fun _=>unhide HS6 w3 (below_step (Below.refl _ _).drew hb3),?_⟩
    clear hK K
    refine anyG_one (i:=13) (by kernel_rfl) ?_
    refine wpOp_lit rfl (by rfl) fun K hK=>?_
    go_simp
    refine unhide hK _ _ ⟨fun _=>unhide HS6 w3 (below_step (Below.refl _ _).drew hb3),?_⟩
    clear hK K
    refine anyG_one (i:=14) (by kernel_rfl) ?_
    refine wpOp_lit rfl (by rfl) fun K hK=>?_
    go_simp
    refine unhide hK _ _ ⟨fun _=>unhide HS6 w3 (below_step (Below.refl _ _).drew hb3),?_⟩
    clear hK K
    refine anyG_one (i:=15) (by kernel_rfl) ?_
    refine wpOp_lit rfl (by rfl) fun K hK=>?_
    go_simp
    refine(ensureF _ (unhide HLT2) _).mono ?_
    rintro e w4 ⟨rfl,rfl⟩
    exact⟨rfl,rfl,below_step (Below.refl _ _).drew hb3⟩
end Go.Proofs.YtbfibfmnemnbbaaGreat
