import Derived.Test.YtklgoolblpmmlaaGreatCoA
import Derived.Test.YtklgoolblpmmlaaGreatShelf
import Derived.Sort.OwnSortedInts
import Derived.Lib.OwnBridge
set_option linter.all false
set_option maxHeartbeats 1000000
set_option maxRecDepth 100000
namespace Go.Proofs.YtklgoolblpmmlaaGreat
open Go.RowKit Go.Sort Go.Shelf Go.Proofs.Tryz
theorem wl(base:Nat)(a:List Int)(i:Value)(b:World)(E:a.length<=1048576)(g:cm b base i a)(t:base<=b.heap.size):Calls prog 171 #[i] b λf e=>f=.returned (.tuple #[])/\cm e base i (a.mergeSort λj k=>decide (j<=k))/\Below base b e:=by
 have m:(a.mergeSort λj k=>decide (j<=k)).length=a.length:=List.length_mergeSort a;rcases g.2 with ⟨rfl,r⟩|⟨q,n,C,rfl,l,x,z,u,v,F⟩
 .have A:a=[]:=dF r;subst A;have d:=Any.slices_Sort_int_none Tryz.sortI none 0 b;change Calls prog 171 _ _ _ at d;refine d.mono ?_;rintro f e ⟨rfl,rfl⟩;exact⟨rfl,by rw[List.mergeSort_nil];exact g,VS⟩
 .obtain⟨D,B,o,_,w,_,_,_,s⟩:=Lib.holds_of_ownsRow g (by simp);injection o with c _ p;injection c with c;injection c with c;subst c p;have d:=Any.slices_Sort_int Tryz.sortI q 0 n a b s w (by omega);change Calls prog 171 _ _ _ at d;refine d.mono ?_;rintro f e ⟨rfl,I,J,rfl⟩;refine⟨rfl,?_,(VT base b).grown (grownBy_sortedI _) t λG y=>by cases y;exact l⟩;unfold cm;rw[m];exact ownsRow_sortedI m l x z u v
theorem pV(base:Nat)(a:List Int)(l:Value)(b:World)(E:a.length<=1048576)(e:cm b base l a)(z:base<=b.heap.size):Calls prog 172 #[l] b λg f=>∃m,g=.returned m/\cm f base m (Lib.compact a)/\Below base b f:=by
 rcases e.2 with ⟨rfl,r⟩|⟨q,n,x,rfl,t,D,u,A,B,G⟩
 .have v:a=[]:=dF r;subst v;have d:=Any.slices_Compact_int_empty Tryz.compI none 0 b;change Calls prog 172 _ _ _ at d;refine d.mono ?_;rintro g f ⟨rfl,rfl⟩;exact⟨_,rfl,e,VS⟩
 .obtain⟨y,w,o,_,C,_,_,_,s⟩:=Lib.holds_of_ownsRow e (by simp);injection o with c _ p;injection c with c;injection c with c;subst c p;have d:=Any.slices_Compact_int Tryz.compI q 0 n a b s (by omega) u;change Calls prog 172 _ _ _ at d;refine d.mono ?_;rintro g f ⟨rfl,j,rfl⟩;have F:=Lib.compact_length_le a;refine⟨_,rfl,?_,Lib.below_putRow VS t⟩;have i:=Lib.ownsRow_putRow (q:=j) (k:=(Lib.compact a).length) (ys:=Lib.compact a++List.replicate (a.length-(Lib.compact a).length) 0) e (by simp;omega) (by omega);rw[List.take_left] at i;exact i
theorem r7(a:Ex)(t:a.fin)(d:Option Addr)(j:Nat)(b:World)(p:Ex.all b d a.args):Calls prog 119 #[a.val d j] b λe w=>∃u,e=.returned u/\cm w b.heap.size u (if bJ a then i7 (dj a) else [])/\Bw b w:=by
 have f:=H (λ(i:World) (o:Bw b i)=>hG a t d j i (Ex.af _ p o));have g:=H (λ(c:bJ a=true) (i:World) (o:Bw b i)=>iI a.size a bi (da c) t (fs c).1 d j i (Ex.af _ p o));have k:=H (am (VT _ b) (a.box d j));have y:=H (ee.new b a d j);have q:bJ a=true->(dj a).length<=400:=λc=>by have R:=gB a;have S:=(fs c).1;omega
 rw[Ex.ad] at f g ⊢;clear p;unfold i7;cases c:bJ a with
 | false=>rw[c] at f;clear c g q;go_enter func119,ntmps119;go_wp2_with (go_at_call 53;refine(U f _ (U k)).mono ?_;rintro e x ⟨rfl,l⟩);go_ret;exact⟨_,rfl,gr _ _,ac (U k) l⟩
 | true=>
  rw[c] at f;have g:=H (U g c);have r:=H (q c);clear c q;generalize dj a=K at *;go_enter func119,ntmps119
  go_wp2_with (first
   | (go_at_call 172;refine(U A).mono ?_;rintro e V ⟨T,rfl,E,G⟩)
   | (go_at_call 171;refine(U z).mono ?_;rintro e J ⟨rfl,D,s⟩;have A:=H (pV b.heap.size _ v J (by rw[List.length_mergeSort];have:=U r;omega) D (n.trans s).size);have B:=n.trans s)
   | (go_at_call 170;refine(U g x m).mono ?_;rintro e I ⟨v,rfl,C,F⟩;have n:=ac m F;have z:=H (wl b.heap.size _ v I (by have:=U r;omega) (C.ax m.size) n.size))
   | (go_at_call 53;refine(U f _ (U k)).mono ?_;rintro e x ⟨rfl,l⟩;obtain⟨L,M,N,O,P,Q⟩:=(U y).aa l;have m:=ac (U k) l))
  go_ret;exact⟨_,rfl,E,B.trans G⟩
end Go.Proofs.YtklgoolblpmmlaaGreat
