import Derived.Test.YtklgoolblpmmlaaGreatPcS
import Derived.Lib.SlicesCompact
set_option linter.all false
set_option maxRecDepth 100000
namespace Go.Proofs.YtklgoolblpmmlaaGreat
open Go.RowKit Go.Sort Go.Proofs.Tryz
theorem o4(d:Array Int)(h:∀b l,b<=l->l<d.size->d[b]!<=d[l]!):∀a,a<=d.size->(Lib.compactUpTo d a).Pairwise (· < ·)/\∀f,f∈Lib.compactUpTo d a ↔ ∃b,b<a/\d[b]! =f
 | 0,_=>⟨by show List.Pairwise _ [];exact .nil,λf=>⟨λe=>(by cases e),λ⟨b,i,_⟩=>absurd i (by omega)⟩⟩
 | a+1,r=>by
  obtain⟨m,g⟩:=o4 d h a (by omega)
  rw[Lib.compactUpTo_succ]
  cases n:Lib.keeps d a with
  | true=>
   rw[ba rfl]
   have k:a=0∨d[a]!≠d[a-1]!:=by simpa [Lib.keeps] using n
   refine⟨List.pairwise_append.2 ⟨m,List.pairwise_singleton _ _,λf e s o=>?_⟩,λf=>⟨λe=>?_,λ⟨b,i,c⟩=>?_⟩⟩
   .rw[List.mem_singleton] at o
    subst o
    obtain⟨b,i,rfl⟩:=(g f).1 e
    have p:=h b (a-1) (by omega) (by omega)
    have q:=h (a-1) a (by omega) (by omega)
    have:d[a]!≠d[a-1]!:=k.resolve_left (by omega)
    omega
   .rcases cM e with e|e
    .obtain⟨b,i,c⟩:=(g f).1 e
     exact⟨b,by omega,c⟩
    .rw[List.mem_singleton] at e
     exact⟨a,by omega,e.symm⟩
   .by_cases j:b=a
    .subst j
     exact List.mem_append.2 (.inr (by rw[c];exact List.mem_singleton.2 rfl))
    .exact List.mem_append.2 (.inl ((g f).2 ⟨b,by omega,c⟩))
  | false=>
   rw[VU (by decide),VI]
   have k:a≠0/\d[a]! =d[a-1]!:=by
    have:¬(a=0∨d[a]!≠d[a-1]!):=by simpa [Lib.keeps] using n
    refine⟨λh=>this (.inl h),?_⟩
    by_cases c:d[a]! =d[a-1]!
    .exact c
    .exact absurd (.inr c) this
   refine⟨m,λf=>⟨λe=>?_,λ⟨b,i,c⟩=>?_⟩⟩
   .obtain⟨b,i,c⟩:=(g f).1 e
    exact⟨b,by omega,c⟩
   .by_cases j:b=a
    .subst j
     exact(g f).2 ⟨b-1,by omega,by rw[<-c,k.2]⟩
    .exact(g f).2 ⟨b,by omega,c⟩
theorem nb(d:Array Int):∀a,(Lib.compactUpTo d a).length<=a
 | 0=>bi
 | a+1=>by have:=nb d a;rw[Lib.compactUpTo_succ,bG];cases Lib.keeps d a<;>simp<;>omega
def i7(a:List Int):List Int:=Lib.compact (a.mergeSort λb c=>decide (b<=c))
theorem lN(g:List Int):Sd (i7 g) g:=by
 have j:=List.mergeSort_perm g λc f=>decide (c<=f);have o:(g.mergeSort λc f=>decide (c<=f)).Pairwise (λc f=>decide (c<=f)=true):=List.pairwise_mergeSort (λp q v k l=>by simp at *;omega) (λp q=>by simp;omega) g;unfold i7;obtain⟨a,t⟩:=bn (g.mergeSort λc f=>decide (c<=f));rw[<-t] at j o ⊢;have s:∀b d,b<=d->d<a.toArray.size->a.toArray[b]!<=a.toArray[d]!:=by intro b d w r;(have n:d<a.length:=by simpa using r);(have m:b<a.length:=by omega);simp only[List.getElem!_toArray];rw[getElem!_pos a b m,getElem!_pos a d n];by_cases e:b=d;(.subst e;exact Int.le_refl _);.have:=List.pairwise_iff_getElem.1 o b d m n (by omega);simpa using this
 obtain⟨k,l⟩:=o4 a.toArray s a.length (by simp);refine⟨k,λc=>?_,?_⟩;.rw[<-j.mem_iff];refine(l c).trans ⟨λ⟨b,i,e⟩=>?_,λu=>?_⟩;(.simp only[List.getElem!_toArray] at e;rw[getElem!_pos a b i] at e;rw[<-e];exact List.getElem_mem _);.obtain⟨b,i,e⟩:=List.getElem_of_mem u;refine⟨b,i,?_⟩;simp only[List.getElem!_toArray];rw[getElem!_pos a b i,e]
 .have:=nb a.toArray a.length;rw[<-j.length_eq];exact this
end Go.Proofs.YtklgoolblpmmlaaGreat
