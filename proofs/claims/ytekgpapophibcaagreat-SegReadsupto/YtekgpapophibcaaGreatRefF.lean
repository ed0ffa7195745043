import Derived.Test.YtekgpapophibcaaGreatRefD
set_option linter.unusedSimpArgs false
set_option linter.unusedVariables false
namespace Go.Proofs.YtekgpapophibcaaGreat
open Go.RowKit Go.Sort
theorem zLQ(xs:List Val):∀k,0<(zBx xs (k+1)).length
 | 0=>by rw[zBx,if_pos (.inl rfl),zAX];simp
 | k+1=>by rw[zBx,zAX];have:=zLQ xs k;omega
theorem zSs{xs:List Val}(h:0<xs.length):0<(zBx xs xs.length).length:=by
 obtain⟨k,hk⟩:∃k,xs.length=k+1:=⟨xs.length-1,by omega⟩
 rw[hk]
 exact zLQ xs k
def zKD(W:List Val):Nat:=((zH0 W-zDO W) % 18446744073709551616).toNat
theorem zL5(W:List Val):zKD W<18446744073709551616:=by unfold zKD;omega
theorem zPz(W:List Val):IntKind.u64.wrap (IntKind.u64.wrap (zH0 W)-IntKind.u64.wrap (zDO W))=(zKD W:Int):=by
 simp only[IntKind.wrap_u64,zKD]
 omega
theorem zPC(W:World)(a:Int):zBC (W.alloc (.cells #[.int .u8 a] 5)) 0 (.slice (some ⟨W.heap.size,0,none⟩) 1 1) [a]:=
 World.ownsRow_lit W #[.int .u8 a] 1 (Nat.zero_le _) (by unfold maxLen;omega) rfl
theorem zLM{k:Nat}(h:k<=64):IntKind.u8.wrap (k:Int)=(k:Int):=by
 simp[IntKind.wrap,IntKind.signed,IntKind.bits]
 omega
theorem zUA{k:Nat}(h:k<=64):toB [(k:Int)]=toB (beL (k:Int) 1 1):=by
 congr 1
 simp[beL,beN]
 omega
theorem zF6{ops:Array Oper}{rest:List Oper}{o:Oper}{a:Act}{Q:Exit->Act->World->Prop}(w:World)(m g:Nat)(hg:w.heap.size=g)(Gm:o.guard=none)(s x:Operand)(ho:o.op=.call { callee:=.builtin .append,args:=#[s,x],argTypes:=#[115,115] })
  (base:Nat) (v:Value) (ns:List Nat) (hs:a.eval s=v) (hx:a.eval x=.slice (some ⟨g,0,none⟩) 1 1) (Hd:zKE w base v ns) (hl:ns.length<=1048576) (Hv:base<=w.heap.size)
  (h:∀v' w',zKE w' base v' (ns++[m])->Below base w w'->wpList Tryz.prog ops Q rest (a.put o.dst v') w'):wpList Tryz.prog ops Q (o::rest) a (w.alloc (.cells #[.int .u64 (m:Int)] 73)):=
 zAx w m Gm s x ho base v ns hs (by rw[hg];exact hx) Hd hl Hv h
theorem zI3{x:Val}{xs:List Val}:0<zCX (x::xs):=by
 unfold zCX
 simp[List.takeWhile_cons,zC5]
theorem zQU{xs:List Val}{k:Nat}{z:Val}(hz:xs[0]?=some z)(hk:k<=xs.length)(h1:∀i y,i<k->xs[i]?=some y->zAh y z=0)(h2:∀y,xs[k]?=some y->zAh y z≠0):zCX xs=k:=by
 have hh:xs.headD Val.null=z:=by cases xs with|nil=>simp at hz|cons y ys=>simpa using hz
 unfold zCX
 rw[hh]
 exact zDW _ xs k (fun i y hi hy=>by simp[h1 i y hi hy]) hk (fun y hy=>by simp[h2 y hy])
theorem zHZ:∀(f g:Nat) (xs:List Val),xs.length<=f->xs.length<=g->zE9 f xs=zE9 g xs/\zEA f xs=zEA g xs
 | 0,g,[],_,_=>by cases g<;>exact⟨rfl,rfl⟩
 | 0,g,x::xs,h,_=>by simp at h
 | f+1,0,[],_,_=>⟨rfl,rfl⟩
 | f+1,0,x::xs,_,h=>by simp at h
 | f+1,g+1,[],_,_=>⟨rfl,rfl⟩
 | f+1,g+1,x::xs,h1,h2=>by
  have hp:=zI3 (x:=x) (xs:=xs)
  have hl:((x::xs).drop (zCX (x::xs))).length<=xs.length:=by rw[List.length_drop,List.length_cons];omega
  simp only[List.length_cons] at h1 h2
  have ih:=zHZ f g ((x::xs).drop (zCX (x::xs))) (by omega) (by omega)
  exact⟨by rw[zE9,zE9,ih.1],by rw[zEA,zEA,ih.2]⟩
theorem zMf{x:Val}{xs:List Val}:zE9 (x::xs).length (x::xs)=(beL (zCX (x::xs):Int) 4 4++zB8 x)++zE9 ((x::xs).drop (zCX (x::xs))).length ((x::xs).drop (zCX (x::xs)))/\zEA (x::xs).length (x::xs)=1+zEA ((x::xs).drop (zCX (x::xs))).length ((x::xs).drop (zCX (x::xs))):=by
 have hp:=zI3 (x:=x) (xs:=xs)
 have hl:((x::xs).drop (zCX (x::xs))).length<=xs.length:=by rw[List.length_drop,List.length_cons];omega
 have ih:=zHZ xs.length _ ((x::xs).drop (zCX (x::xs))) hl (Nat.le_refl _)
 rw[List.length_cons]
 exact⟨by rw[zE9,ih.1],by rw[zEA,ih.2]⟩
theorem zNW{xs:List Val}(hc:∀x∈xs,zA8 x=x):zCX xs=zAz xs:=by
 cases xs with
 | nil=>rfl
 | cons z zs=>
  unfold zCX zAz
  congr 1
  simp only[List.headD_cons]
  have hcz:=hc z (by simp)
  have key:∀l:List Val,(∀x∈l,zA8 x=x)->l.takeWhile (fun y=>decide (zAh y z=0))=l.takeWhile (fun y=>zB1 y z):=by
   intro l
   induction l with
   | nil=>intro _;rfl
   | cons y l ih=>
    intro h
    have hy:=h y (by simp)
    have e:decide (zAh y z=0)=zB1 y z:=by
     by_cases hs:zB1 y z=true
     ·rw[hs,zC4.1 hs,zC5];rfl
     ·have:¬zAh y z=0:=fun h0=>hs (zC4.2 (by have:=zJc h0;rw[hy,hcz] at this;exact this))
      simp[this]
      simpa using hs
    rw[List.takeWhile_cons,List.takeWhile_cons,e,ih (fun x hx=>h x (by simp[hx]))]
  exact key _ hc
theorem zGm:∀(f:Nat) (xs:List Val),(∀x∈xs,zA8 x=x)->zE9 f xs=zC2 f xs/\zEA f xs=zCE f xs
 | 0,_,_=>⟨rfl,rfl⟩
 | _+1,[],_=>⟨rfl,rfl⟩
 | f+1,x::xs,h=>by
  have e:=zNW h
  have ih:=zGm f ((x::xs).drop (zAz (x::xs))) (fun y hy=>h y (List.mem_of_mem_drop hy))
  rw[zE9,zC2,zEA,zCE,e]
  exact⟨by rw[ih.1],by rw[ih.2]⟩
end Go.Proofs.YtekgpapophibcaaGreat
