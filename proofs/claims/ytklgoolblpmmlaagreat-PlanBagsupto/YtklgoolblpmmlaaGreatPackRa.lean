import Derived.Test.YtklgoolblpmmlaaGreatExB
import Derived.Shelf.SlSortCmp.Whole1
set_option linter.all false
set_option maxHeartbeats 16000000
set_option maxRecDepth 100000
namespace Go.Proofs.YtklgoolblpmmlaaGreat
open Go.RowKit Go.Sort Go.Shelf Go.Lib Go.Proofs.Tryz
def Up(a b:World):Prop:=Bw a b/\a.drawn<=b.drawn
variable{W w:World}
theorem Up.grown(h:Up w W):∃e c,W=grow (w.drewN e) c:=by obtain⟨d,b⟩:=regrown_of_below h.1;have a:=h.2;refine⟨W.drawn-w.drawn,d.os,?_⟩;rw[b] at a ⊢;simp only[grow,redrawn,World.drewN] at a ⊢;congr 1;omega
theorem vS(a:Int)(b:World):Calls prog 92 #[.int .i64 a] b λc d=>c=.returned (aH.num a).v/\Up b d:=by unfold aH.v aH.num;go_enter func92,ntmps92;go_wp2;exact bs (v:=.agg #[.int .i64 1,.int .i64 a,.string ⟨#[]⟩]) (by simp[results,results92,go_sem]) rfl ⟨rfl,VS.alloc bi _,bi⟩
theorem An(a:ByteArray)(b:World):Calls prog 93 #[.string a] b λc d=>c=.returned (aH.str a).v/\Up b d:=by unfold aH.v aH.str;go_enter func93,ntmps93;go_wp2;exact bs (v:=.agg #[.int .i64 2,.int .i64 0,.string a]) (by simp[results,results93,go_sem]) rfl ⟨rfl,VS.alloc bi _,bi⟩
theorem sd(x:aH)(j:World):Calls prog 47 #[x.v] j λc k=>c=.returned (bk x).v/\Up j k:=by
 rw[x.open_];rcases dp (x.k == 1) with b|b;·(have a:bk x=.num x.n:=by simp[bk,b]);rw[a];clear a;go_enter func47,ntmps47;go_wp2_with (go_at_call 92;refine(vS _ _).mono ?_;rintro c l ⟨rfl,d,f⟩;obtain⟨e,g⟩:=cO d;rw[aH.open_]);refine bs (v:=(aH.num x.n).v) (by simp[results,results47,go_sem,aH.v,aH.num,e,g]) rfl ⟨rfl,?_,by simpa using f⟩;(repeat (first|exact VS|refine Below.alloc ?_ (by simp<;>omega) _|refine Below.setCell ?_ (by simp<;>omega) _|refine Below.trans ?_ (Below.mono (by assumption) (by first|omega | (simp;omega)))))
 .rcases dp (x.k == 2) with i|i;(·(have a:bk x=.str x.s:=by simp[bk,b,i]);rw[a];clear a;go_enter func47,ntmps47;go_wp2_with (go_at_call 93;refine(An _ _).mono ?_;rintro c l ⟨rfl,d,f⟩;obtain⟨e,g⟩:=cO d;rw[aH.open_]);refine bs (v:=(aH.str x.s).v) (by simp[results,results47,go_sem,aH.v,aH.str,e,g]) rfl ⟨rfl,?_,by simpa using f⟩;(repeat (first|exact VS|refine Below.alloc ?_ (by simp<;>omega) _|refine Below.setCell ?_ (by simp<;>omega) _|refine Below.trans ?_ (Below.mono (by assumption) (by first|omega | (simp;omega))))));·(have a:bk x=.null:=by simp[bk,b,i]);rw[a];clear a;go_enter func47,ntmps47;go_wp2;refine bs (v:=aH.null.v) (by simp[results,results47,go_sem,aH.v,aH.null]) rfl ⟨rfl,?_,bi⟩;(repeat (first|exact VS|refine Below.alloc ?_ (by simp<;>omega) _|refine Below.setCell ?_ (by simp<;>omega) _))
theorem jO(b c:aH)(a:World):Calls prog 30 #[b.v,c.v] a λg f=>g=.returned (.int .i64 (dk b c))/\Up a f:=by
 rw[b.open_,c.open_];have m:=H (sd b);have n:=H (sd c);unfold dk;generalize bk b=d at *;generalize bk c=e at *;go_enter func30,ntmps30;go_upto_region 1 with fail;go_cut[] (λj=>eB j a.heap.size d/\eB j (a.heap.size+1) e/\Bw a j/\a.drawn<=j.drawn)
 case first=>
  have u:a.drawn<=(fy a b c).drew.drawn:=by simp[fy,World.drew]
  go_region_with (first
   | (go_at_call_of 47 (Value.agg #[Value.int IntKind.i64 b.k,Value.int IntKind.i64 b.n,Value.string b.s]);refine(U m _).mono ?_;rintro g i ⟨rfl,G,v⟩;rw[aH.open_];have k:=ac (nv a b c) G;obtain⟨⟨o,p,q⟩,⟨r,s,t⟩,⟨B,C,D⟩,⟨g0,E,F⟩,L⟩:=VF k)
   | (go_at_call_of 47 (Value.agg #[Value.int IntKind.i64 c.k,Value.int IntKind.i64 c.n,Value.string c.s]);refine(U n _).mono ?_;rintro g M ⟨rfl,I,w⟩;rw[aH.open_];have l:=ac k I;obtain⟨⟨o,p,q⟩,⟨r,s,t⟩,⟨B,C,D⟩,⟨g0,E,F⟩,L⟩:=VF l))
  all_goals go_wp2_with fail;go_meet;obtain⟨y,z,A⟩:=uq d e l;refine⟨y,z,A,?_⟩;have x:a.drawn<=i.drawn:=cw u v;have K:a.drawn<=M.drawn:=cw x w;clear u v w x y z A;rw[World.drawn_setCell,World.drawn_setCell,World.drawn_setCell,World.drawn_setCell,World.drawn_setCell,World.drawn_setCell];exact K
 case rest=>
  obtain⟨⟨o,p,q⟩,⟨r,s,t⟩,J,N⟩:=hcut;clear m n;rename World=>wa;go_upto_region 2 with fail
  go_region_held3 (λf=>f.cell? ⟨a.heap.size,0,none⟩=some (.int .i64 d.k)/\f.cell? ⟨a.heap.size,1,none⟩=some (.int .i64 d.n)/\f.cell? ⟨a.heap.size,2,none⟩=some (.string d.s)/\f.cell? ⟨a.heap.size+1,0,none⟩=some (.int .i64 e.k)/\f.cell? ⟨a.heap.size+1,1,none⟩=some (.int .i64 e.n)/\f.cell? ⟨a.heap.size+1,2,none⟩=some (.string e.s))
   (go_keep)
   (first
    | (go_at_call 49;refine(nn _ _ _).mono ?_;rintro g i ⟨rfl,rfl⟩)
    | (go_at_call 50;refine(kg _ _ _).mono ?_;rintro g i ⟨rfl,rfl⟩)
    | (go_at_call 51;refine(nk _ _ _).mono ?_;rintro g i ⟨rfl,rfl⟩)
    | (go_at_call 48;refine(uv _ (dI d.k e.k) (dI d.n e.n) (jt d.s e.s) _ ?_ ?_ ?_).mono ?_;(simp[go_sem]);(simp[go_sem]);(simp[go_sem]);rintro g i ⟨rfl,rfl⟩))
  go_wp2;go_ret;exact⟨rfl,(am J _).drew,by simp[World.drew];omega⟩
end Go.Proofs.YtklgoolblpmmlaaGreat
