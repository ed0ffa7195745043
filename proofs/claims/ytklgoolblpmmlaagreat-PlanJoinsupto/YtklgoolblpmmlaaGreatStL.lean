import Derived.Test.YtklgoolblpmmlaaGreatStB
import Derived.Test.YtklgoolblpmmlaaGreatProg
import Derived.Test.YtklgoolblpmmlaaGreatEvA
import Derived.Test.YtklgoolblpmmlaaGreatPlL
import Derived.Shelf.GgSortMore.Stable
import Derived.Ground.GgtProg
import Derived.Shelf.GgSortFunc.SmallK
set_option linter.all false
set_option maxRecDepth 100000
namespace Go.Proofs.YtklgoolblpmmlaaGreat
open Go.RowKit Go.Sort Go.Proofs.Tryz
variable{W w:World}{m n:Nat}{x y:List aH}{a:Option Addr}
theorem bX.blk(h:bX w (some ⟨n,m,none⟩) x)(b:x≠[]):n<w.heap.size:=by
 rcases h with h|⟨e,g,a,h⟩;.exact absurd h b
 .injection a with a
  injection a with c f
  subst c
  cases x with
  | nil=>exact absurd rfl b
  | cons d x=>exact ck _ _ (h 0 d rfl).1
theorem bX.kept(h:bX w a x)(e:∀b c f,a=some ⟨b,c,none⟩->x≠[]->W.cell? ⟨b,f,none⟩=w.cell? ⟨b,f,none⟩):bX W a x:=by
 by_cases d:x=[];.exact .inl d
 rcases h with h|⟨b,c,rfl,h⟩;.exact .inl h
 .refine .inr ⟨b,c,rfl,λi j g=>?_⟩;rw[e b c _ rfl d,e b c _ rfl d,e b c _ rfl d];exact h i j g
def ic(a:Int×Bool)(x b:List aH):Int:=if a.2 then-dk (x.getD a.1.toNat .null) (b.getD a.1.toNat .null) else dk (x.getD a.1.toNat .null) (b.getD a.1.toNat .null)
def d5:List (Int×Bool)->List aH->List aH->Int
 | [],_,_=>0
 | c::d,a,b=>if ic c a b=0 then d5 d a b else ic c a b
theorem iU(a:Int×Bool)(x b:List aH):ic a x b=- ic a b x:=by have:=fV (x.getD a.1.toNat .null) (b.getD a.1.toNat .null);unfold ic;split<;>omega
theorem pQ(a:Int×Bool)(x b c:List aH)(d:ic a x b<=0)(i:ic a b c<=0):ic a x c<=0:=by have e:=fV (x.getD a.1.toNat .null) (b.getD a.1.toNat .null);have f:=fV (b.getD a.1.toNat .null) (c.getD a.1.toNat .null);have g:=fV (x.getD a.1.toNat .null) (c.getD a.1.toNat .null);have j:=@mu (x.getD a.1.toNat .null) (b.getD a.1.toNat .null) (c.getD a.1.toNat .null);have k:=@mu (c.getD a.1.toNat .null) (b.getD a.1.toNat .null) (x.getD a.1.toNat .null);unfold ic at *;split at d<;>simp_all<;>omega
theorem gI:∀(c:List (Int×Bool)) (a b:List aH),d5 c a b=- d5 c b a
 | [],a,b=>rfl
 | e::c,a,b=>by have h:=iU e a b;have d:=gI c a b;simp only[d5];split;(.rw[ba (by omega)];exact d);.rw[VU (by omega)];exact h
theorem jX:∀(e:List (Int×Bool)) (a b c:List aH),d5 e a b<=0->d5 e b c<=0->d5 e a c<=0
 | [],a,b,c,_,_=>Int.le_refl 0
 | d::e,a,b,c,f,g=>by have m:=iU d a b;have n:=iU d b c;have o:=iU d a c;have p:=pQ d a b c;have q:=pQ d b c a;have r:=pQ d c a b;have l:=jX e a b c;simp only[d5] at f g ⊢;by_cases i:ic d a b=0<;>by_cases j:ic d b c=0<;>by_cases k:ic d a c=0<;>simp only[i,j,k,if_true,if_false] at f g ⊢<;>first|exact l f g|omega
def fj(b:List (Int×Bool))(x a:List aH):Int:=if d5 b x a=0 then cd x a else d5 b x a
theorem gz(b:List (Int×Bool))(x a:List aH):fj b x a=- fj b a x:=by
 have c:=gI b x a;have d:=fE x a;unfold fj;split;.rw[ba (by omega)];exact d
 .rw[VU (by omega)];exact c
theorem lV(a:List (Int×Bool))(x b c:List aH)(d:fj a x b<=0)(e:fj a b c<=0):fj a x c<=0:=by have k:=gI a x b;have l:=gI a b c;have m:=gI a x c;have n:=jX a x b c;have o:=jX a b c x;have p:=jX a c x b;have j:=jJ x b c;unfold fj at *;by_cases f:d5 a x b=0<;>by_cases g:d5 a b c=0<;>by_cases i:d5 a x c=0<;>simp only[f,g,i,if_true,if_false] at d e ⊢<;>first|exact j d e|omega
theorem uB{ks:List (Int×Bool)}{x:List aH}(h:fj ks x y=0):cd x y=0:=by
 unfold fj at h;split at h;.exact h
 .omega
theorem dh.blk{a:List (Int×Bool)}(h:dh w (some ⟨n,m,none⟩) a)(e:a≠[]):n<w.heap.size:=by
 cases a with
 | nil=>exact absurd rfl e
 | cons f a=>obtain⟨g,k,b,c,_⟩:=h.get (i:=0) (x:=f) rfl;injection b with b;injection b with d j;subst d;exact ck _ _ c
end Go.Proofs.YtklgoolblpmmlaaGreat
