import Derived.Test.YtklgoolblpmmlaaGreatSmA
import Derived.Test.YtklgoolblpmmlaaGreatBgH
set_option linter.all false
set_option maxHeartbeats 4000000
set_option maxRecDepth 100000
namespace Go.Proofs.YtklgoolblpmmlaaGreat
open Go.RowKit Go.Sort Go.Lib Go.Proofs.Tryz
def eC(b:List aH)(cols:List Int):List aH:=cols.map λa=>b.getD a.toNat .null
variable{a b:Option Addr}{x:List aH}{w:World}
theorem BR{c cC:Nat}{cols:List Int}(D:bX w a x)(VY:x.length<=64)(y:bP w b cols)(Q:cols.length<=1048576)(C:∀f∈cols,0<=f/\f<(x.length:Int)):Calls prog 250 #[.slice a x.length c,.slice b cols.length cC] w λP I=>∃e,P=.returned (.slice (some ⟨e,0,none⟩) cols.length cols.length)/\e8 I e (eC x cols)/\w.heap.size<=e/\Bw w I:=by
 obtain⟨g,o⟩:=bj cols.length;rw[o] at Q ⊢;have k:=H o;have N:=H D;have L:=H y;have M:=H C;clear o D y C;go_enter func250,ntmps250;go_upto_region 2 with (at_make;refine eT _ rfl (.tmp 9) (.tmp 9) rfl g rfl rfl (by omega) ?_;intro V7 A z E;have s:=H A;have J:=H z;have T:=H E;clear A z E);obtain⟨e,n⟩:=bn w.heap.size;have u:=H n;rw[<-n] at s ⊢;have t:=H (Fl.start (U s) (ys:=eC x cols) (by simp[eC,U k]));clear n;go_wp2_with fail;go_loopw[13] (λf wr=>∃(d:Nat),d<=g/\f=.int .i64 (d:Int)/\Hid (Fl wr e (eC x cols) d)/\Hid (Bw w wr)) (λf _=>g-(intOf f).toNat);case atStart=>exact⟨0,bt,rfl,t,J⟩
 case round=>clear t;obtain⟨d,VX,rfl,m,i⟩:=hrel;by_cases v:d<g;(·(have R:(d:Int)<(g:Int):=by omega);obtain⟨j,l⟩:∃j,cols[d]?=some j:=⟨_,VR (by rw[U k];exact v)⟩;obtain⟨V,V1,rfl,X⟩:=((U L).aa (U i)).get l;obtain⟨VZ,V0⟩:=U M j (VQ l);obtain⟨q,rfl⟩:∃q:Nat,j=(q:Int):=⟨j.toNat,by omega⟩;obtain⟨r,p⟩:∃r,x[q]?=some r:=⟨_,VR (by omega)⟩;obtain⟨W,V2,rfl,Y,Z,VW⟩:=((U N).aa (U i)).lo p;(have O:Hid ((eC x cols)[d]?=some r):=by show _=_;unfold eC;rw[bL,l];simp[p]);obtain⟨V8,V3,p1,p2,V4,V5,V6⟩:=(U m).three (by simp[eC,U k];exact v);clear l p;go_wp2;go_roundw;(case rel=>refine⟨d+1,by omega,by go_num,(U m).put (U O),?_⟩;exact(U i).trans ((dt (F:=λG=>G=e) _ _ _ _ rfl).below (λG S=>by rw[S,U u];exact bi) (U i).size));case measure=>simp[intOf];omega);·(have R:¬(d:Int)<(g:Int):=by omega);(have B:e8 wr e (eC x cols):=by have:=U m;rw[show d=(eC x cols).length by simp[eC,U k];omega] at this;exact this.done);have K:=H B;clear B;go_wp2;go_ret;exact⟨e,rfl,U K,by rw[U u];exact bi,U i⟩
end Go.Proofs.YtklgoolblpmmlaaGreat
