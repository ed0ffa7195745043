import Derived.Test.YtabmgpillccfaaaGreatDoorRmB
set_option linter.all false
set_option maxHeartbeats 400000
set_option maxRecDepth 100000
namespace Go.Proofs.YtabmgpillccfaaaGreatDoor
open Go.RowKit Go.Sort Go.Proofs.Tryz
variable{w:World}{n:Nat}{a:Option Addr}{C:List Int}
theorem et.ax{base:Nat}(h:et w base (.slice a C.length n) C):C.length<=n:=by
 rcases h.2 with ⟨b,j⟩|⟨i,f,g,b,k,l,m,_⟩
 .injection b with c d e;omega
 .injection b with c d e;omega
theorem lx(a:Ex)(p:a.fin)(f:Option Addr)(l:Nat)(e:World)(m:Ex.all e f a.args):Calls prog 111 #[a.val f l] e λk q=>k=.returned (.tuple #[.int .i64 (cq a).1,.int .i64 (cq a).2])/\Bw e q:=by
 have c:=VV (λn=>hM a.size a aV p 400 40 f l (e.alloc n) (by omega) (by omega) (by omega) (by omega) (Ex.ab _ m (ae aN n)));rw[Ex.ad] at c ⊢;clear m;cases b:b0 a with
 | true=>(have d:cq a=((a.size:Int),(a.high:Int)):=by unfold cq;rw[aR b]);rw[hn b] at c;rw[d];clear b d;go_enter func111,ntmps111;go_wp2_with (go_at_call 148;refine(U c _).mono ?_;rintro k r ⟨rfl,g⟩);refine aM (v:=.tuple #[.int .i64 (a.size:Int),.int .i64 (a.high:Int)]) (by simp[results,results111,go_sem]) rfl ⟨rfl,dy g⟩
 | false=>(have d:cq a=(401,41):=by unfold cq;rw[b];rfl);obtain⟨o,j⟩:=bq (ct bd a 400 40);(have i:b0 a=o.2.2:=by rw[<-j];rfl);rw[b] at i;rw[j] at c;obtain⟨s,t,ok⟩:=o;simp only at i;subst i;rw[d];clear b d j;go_enter func111,ntmps111;go_wp2_with (go_at_call 148;refine(U c _).mono ?_;rintro k r ⟨rfl,g⟩);refine aM (v:=.tuple #[.int .i64 401,.int .i64 41]) (by simp[results,results111,go_sem]) rfl ⟨rfl,dy g⟩
end Go.Proofs.YtabmgpillccfaaaGreatDoor
