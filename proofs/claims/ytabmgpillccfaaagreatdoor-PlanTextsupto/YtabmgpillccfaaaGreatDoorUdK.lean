import Derived.Test.YtabmgpillccfaaaGreatDoorUdB
import Derived.Test.YtabmgpillccfaaaGreatDoorCards
import Derived.Test.YtabmgpillccfaaaGreatDoorTie
import Derived.Deep.DeepHandedRow
import Derived.Deep.DeepWitnessRowRef
import Derived.Lib.LaidTab
import Derived.Lib.LaidIn
set_option linter.all false
set_option maxRecDepth 100000
namespace Go.Proofs.YtabmgpillccfaaaGreatDoor
open Go.ChangeShapes Go.WideShapes Go.ChangeAt Go.RowKit Go.Joins Go.Deep Go.Proofs.Tryz
theorem sP:ownKnob Tryz.prog.godebug=none:=by kernel_rfl
theorem ql:laidOutB prog=true:=by kernel_rfl
variable{w:World}{C:List Int}{n:Nat}
theorem ek{b:Program}{d:String×DataW Unit}{c:List (String×DataW Unit)}{e:List MemPlace}(h:DataW.LaidVars b w (d::c) e):∃a,DataW.LaidVars b w c a:=by obtain⟨k,g⟩:=d;obtain⟨j,m,f,i,l,a,_,_,_,_,h,_⟩:=h;exact⟨a,h⟩
theorem VE{a:Program}{d:String}{c:IntKind}{t:List (String×DataW Unit)}{s:List MemPlace}{g:Nat}{e b:TypeId} (l:a.globalNamed d=some g) (q:(a.globals[g]?).map (·.type)=some e) (o:a.underlying e=some (.array n b)) (k:a.underlying b=some (.int c)) (f:a.cellsOf b=1) (i:a.cellsOf e=n) (h:DataW.LaidVars a w ((d,Lib.tabData c C)::t) s):Lib.TabIs a w d c C:=by obtain⟨x,A,u,v,y,z,m,p,r,j,_,_⟩:=h;obtain rfl:=Option.some.inj (l.symm.trans m);obtain rfl:=Option.some.inj (q.symm.trans p);unfold Lib.TabIs;rw[r,<-Lib.cells_of_tab o k f i j]
theorem iX{b:Program}{d u:String}{m:DataW Unit}{x:List (String×DataW Unit)}{v:List MemPlace}{g:Nat}{k:TypeId}{t:Array (String×TypeId)} (n:b.globalNamed d=some g) (r:(b.globals[g]?).map (·.type)=some k) (p:b.underlying k=some (.interface t)) (h:DataW.LaidVars b w ((d,.iface u m)::x) v):∃y j,w.var? b d=some #[.iface y j]:=by
 obtain⟨B,D,e,f,C,j,o,q,s,a,_,_⟩:=h;obtain rfl:=Option.some.inj (n.symm.trans o);obtain rfl:=Option.some.inj (r.symm.trans q);cases f with
 | zero=>simp[DataW.trod] at a
 | succ f=>
  unfold DataW.trod at a
  rw[p] at a
  rw[s]
  cases c:e.toList with
  | nil=>rw[c] at a;exact absurd a (by simp)
  | cons l i=>
   rw[c] at a
   cases i with
   | cons E i=>exact absurd a (by cases l<;>simp)
   | nil=>
    cases l with
    | iface z A=>exact⟨z,A,by rw[<-Array.toArray_toList (xs:=e),c]⟩
    | _=>exact absurd a (by simp)
theorem sW(h:laidMetH prog Rows.planTextsRow.laid w):GT w:=by
 have n:(Rows.planTextsRow.laid.filter λo=>o.2.handleName?.isSome)=[]:=by kernel_rfl
 have j:laidMet prog Rows.planTextsRow.laid w:=by unfold laidMetH at h;rw[n] at h;exact h
 clear h;obtain⟨s,b,_⟩:=j;unfold Rows.planTextsRow at b;obtain⟨p2,k⟩:=ek b;obtain⟨p3,a⟩:=ek k;obtain⟨p4,l⟩:=ek a;obtain⟨p5,c⟩:=ek l;obtain⟨p,d⟩:=ek c;obtain⟨q,m⟩:=ek d;obtain⟨r,e⟩:=ek m;have f:(Rows.laid_internal_strconv_uint64pow10:DataW Unit)=Lib.tabData .u64 Lib.pow10Tab:=by kernel_rfl
 have i:(Rows.laid_strings_asciiSpace:DataW Unit)=Lib.tabData .u8 Lib.asciiSpaceTab:=by kernel_rfl
 rw[f] at a;rw[i] at e;exact⟨VE (g:=2) (by kernel_rfl) (by kernel_rfl) underlying242 underlying209 (by kernel_rfl) (by kernel_rfl) a, VE (g:=0) (by kernel_rfl) (by kernel_rfl) underlying164 underlying5 (by kernel_rfl) (by kernel_rfl) e, iX (g:=3) (by kernel_rfl) (by kernel_rfl) underlying159 d,iX (g:=4) (by kernel_rfl) (by kernel_rfl) underlying159 c⟩
theorem lC(g:Type)(l:TypeId×Value->g)(a:World)(base:Nat)(args:Array Value)(j v:List (DataW g))(F:List MemPlace) (m:∀(C:Nat) t e,Tryz.f3.params[C]?=some t->args[C]?=some e->Value.okWide prog a .any base t e) (A:DataW.Whole l prog Tryz.f3.params.toList Rows.planTextsSpec.vars false a args.toList j v F) (B:Rows.uptoSmall g (j++v)=true) (J:laidMetH prog Rows.planTextsRow.laid a):Calls prog 3 args a λk r=>∃e,k=.returned e/\Rows.planTextsSpec.post l prog Tryz.f3 false true false false a args e r:=by
 have I:=sW J;have O:=A;obtain⟨c,V8,z,N,rfl,V5,V6⟩:=A;have y:DataW.TrodAll l prog a 0 (λ_=>true) true Tryz.f3.params.toList args.toList j c:=z;rw[Tryz.params3] at y m;obtain⟨o,Wc,f,V1,Z,V9,V4,rfl,rfl,w,VY⟩:=trodAll_cons y;obtain⟨p,Wd,u,V2,p1,Wa,rfl,rfl,rfl,x,VZ⟩:=trodAll_cons VY;obtain⟨rfl,rfl,rfl⟩:=trodAll_nil VZ;obtain rfl:args=#[o,p]:=by cases args;simp_all
 obtain⟨rfl,rfl⟩:=trodVars_none N;have D:=w;have V:∀q∈Z,q.block<a.heap.size:=by obtain⟨b,d⟩:=D;exact DataW.trod_lt b _ _ _ d
 have E:=x;have W:∀q∈p1,q.block<a.heap.size:=by obtain⟨b,d⟩:=E;exact DataW.trod_lt b _ _ _ d
 have P:Rows.uptoBulk f<=1048576/\Rows.uptoBulk u<=1048576:=by simp only[d7] at B;have h:Rows.uptoBulkAll [f,u]<=1048576:=of_decide_eq_true B;simp only[Rows.uptoBulkAll] at h;exact⟨by omega,by omega⟩
 have X:∃(c:Pl) (b:Pm),o=c.val b/\dN a c b/\c.fin/\c.finO:=by obtain⟨s,rfl,V7⟩:=okWide_struct underlying28 (m 0 28 o rfl rfl);obtain⟨V3,Q⟩:=w;obtain⟨⟨c,b⟩,k,d,R,S⟩:=lV (SizeOf.sizeOf f) f aV P.1 Q;refine⟨c,b,?_,d,R,S⟩;rw[Pl.ad];congr 1;have G:s.toList=iS (c,b):=k;rw[<-Array.toArray_toList (xs:=s),G];rfl
 obtain⟨VW,VX,rfl,L,K,M⟩:=X;have Y:∃n:List UInt8,p=.string (bs n):=by have h:=Go.ChangeMaps.open_string underlying9 (m 1 9 p rfl rfl) x;obtain⟨V0,rfl,_⟩:=h;exact⟨V0.data.toList,by unfold bs;simp⟩
 obtain⟨n,rfl⟩:=Y;clear z;refine(sq VW K M VX a L I n).mono λWb r ⟨T,i⟩=>?_;subst T;exact⟨_,rfl,_,_,_,[],_,[],O,trodAll_mk1 (shut_bool underlying4 _),(trodAll_cons_mk (Below.trod ql (by kernel_rfl) (of_decide_eq_true (by kernel_rfl)) D i V) (trodAll_cons_mk (Below.trod ql (by kernel_rfl) (of_decide_eq_true (by kernel_rfl)) E i W) trodAll_mk0)),rfl,i.frame _,λh=>by cases h⟩
end Go.Proofs.YtabmgpillccfaaaGreatDoor
