import Derived.Test.YtklgoolblpmmlaaGreatPackRa
import Derived.Test.YtklgoolblpmmlaaGreatBgB
set_option linter.all false
set_option maxHeartbeats 2000000
set_option maxRecDepth 100000
namespace Go.Proofs.YtklgoolblpmmlaaGreat
open Go.RowKit Go.Sort Go.Proofs.Tryz
theorem Up.refl(a:World):Up a a:=⟨VS,bi⟩
variable{W X w:World}
theorem Up.step(h:Up w W)(a:Up W X):Up w X:=⟨ac h.1 a.1,cw h.2 a.2⟩
theorem Up.alloc(h:Up w W)(a:Obj):Up w (W.alloc a):=⟨am h.1 a,h.2⟩
theorem Up.drew(h:Up w W):Up w W.drew:=⟨h.1.drew,by have:=h.2;show w.drawn<=W.drawn+1;omega⟩
theorem tX(u v:Option Addr)(A B:Nat)(c b:List aH)(l:World)(I:c.length<=maxLen)(J:b.length<=maxLen)(D:bX l u c)(F:bX l v b):Calls prog 29 #[.slice u c.length A,.slice v b.length B,.func (.func 30) #[] #[]] l λd O=>d=.returned (.int .i64 (cd c b))/\Up l O:=by
 unfold maxLen at I J;go_enter func29,ntmps29;go_wp2_with fail;go_loopw[13] (λs z=>∃a:Nat,a<=c.length/\a<=b.length/\s=.int .i64 a/\cd c b=cd (c.drop a) (b.drop a)/\Up l z) (λs z=>c.length-(intOf s).toNat);case atStart=>exact⟨0,bt,bt,rfl,rfl,Up.refl _⟩
 case round=>
  obtain⟨a,Y,Z,rfl,y,i⟩:=hrel;have k:=H y;clear y;have E:=D.aa i.1;have G:=F.aa i.1;by_cases o:a<c.length;.obtain⟨f,n⟩:∃f,c[a]?=some f:=⟨_,VR o⟩;rcases E with d|⟨Q,VX,rfl,q⟩;(.subst d;simp at o);obtain⟨S,T,V⟩:=q a f n;(have L:(a:Int)<(c.length:Int):=by omega);by_cases m:a<b.length;(.obtain⟨g,r⟩:∃g,b[a]?=some g:=⟨_,VR m⟩;rcases G with d|⟨R,ob,rfl,x⟩;(.subst d;simp at m);obtain⟨C,W,X⟩:=x a g r;have t:=H (ol n r);(have M:(a:Int)<(b.length:Int):=by omega);have VW:=ck _ _ C;clear q x n r;by_cases j:dk f g=0;(·(have K:(dk f g != 0)=false:=by simpa using j);(have e:Hid (cd c b=cd (c.drop (a+1)) (b.drop (a+1))):=by show _=_;rw[U k,U t,ba j]);clear j;go_wp2_with (go_at_call 30;refine(jO f g _).mono ?_;rintro d P ⟨rfl,p⟩);go_roundw;(case rel=>exact⟨a+1,by omega,by omega,by go_num,U e,Up.step (Up.alloc (Up.alloc i _) _) p⟩);case measure=>simp[intOf];omega);·(have K:(dk f g != 0)=true:=by simpa using j);(have e:Hid (cd c b=dk f g):=by show _=_;rw[U k,U t,VU j]);clear j;go_wp2_with (go_at_call 30;refine(jO f g _).mono ?_;rintro d P ⟨rfl,p⟩);go_ret;exact⟨by rw[U e];rfl,Up.step (Up.alloc (Up.alloc i _) _) p⟩);·(have d:a=b.length:=by omega);(have e:Hid (cd c b=1):=by show _=_;rw[U k,d,List.drop_length,<-d,gP o,cd]);(have M:(b.length:Int)<=(a:Int):=by omega);clear d q n;go_wp2;go_ret;exact⟨by rw[U e];rfl,Up.alloc i _⟩
  ·(have d:a=c.length:=by omega);(have L:¬(a:Int)<(c.length:Int):=by omega);by_cases m:a<b.length
   .have e:Hid (cd c b=-1):=by
     show _=_
     rw[U k,d,List.drop_length,<-d,gP m,cd]
    have N:(c.length:Int)<(b.length:Int):=by omega
    clear d
    go_wp2
    go_ret
    exact⟨by rw[U e];rfl,i⟩
   ·(have w:a=b.length:=by omega);(have e:Hid (cd c b=0):=by show _=_;rw[U k,d,List.drop_length,<-d,w,List.drop_length,cd]);(have N:¬(c.length:Int)<(b.length:Int):=by omega);clear d w;go_wp2;go_ret;exact⟨by rw[U e];rfl,i⟩
theorem up(d e:Option Addr)(f g:Nat)(b c:List aH)(a:World)(l:b.length<=maxLen)(m:c.length<=maxLen)(j:bX a d b)(k:bX a e c):Calls prog 13 #[.slice d b.length f,.slice e c.length g] a λi p=>i=.returned (.int .i64 (cd b c))/\Up a p:=by have n:=H (tX d e f g b c a l m j k);clear j k l m;go_enter func13,ntmps13;go_wp2_with (go_at_call 29;refine(U n).mono ?_;rintro i q ⟨rfl,o⟩);go_ret;exact⟨rfl,o⟩
end Go.Proofs.YtklgoolblpmmlaaGreat
