import Derived.Test.YtabmgpillccfaaaGreatDoorTzU
import Derived.Defers
import Derived.Recover
set_option linter.all false
set_option maxHeartbeats 1000000
set_option maxRecDepth 100000
namespace Go.Proofs.YtabmgpillccfaaaGreatDoor
open Go.RowKit Go.Sort Go.Proofs.Tryz
variable{W w:World}{m n:Nat}{P:Nat->Prop}{I:Int}{e:Ex}{L:List Ex}{C:List Int}
theorem ln{a:Program}{d:Code}{b:Exit->Act->World->Prop}{c T':Array Value}{e:List Deferred}(f:c=T')(h:d.wp a b { tmps:=T',defers:=e } w):d.wp a b { tmps:=c,defers:=e } w:=f ▸ h
theorem pI(a:World):CallsD prog 92 #[] (.panicking sk) a λb d e=>b=.returned (.tuple #[])/\d=.panicking [{ v:=.iface 138 (.agg #[]),recovered:=true }]/\Bw a e:=by
 have i:∀a:World,(Instr.typeAssert (Value.iface 138 (Value.agg #[])) 20 138 true).run prog a=.ok (.tuple #[.agg #[],.bool true]) a:=λ_=>by kernel_rfl
 refine callsD_of_wpS func92 rfl λg f c=>?_;apply wpS_seq;apply wpS_region;simp[wpOpsS,go_sem,recoverD,c,ntmps92,Exit.thenS];refine wpS_of_wp ?_;refine ln (T':=#[.iface 138 (.agg #[]),undef,undef,.iface 138 (.agg #[]),undef,undef,undef,undef,undef,undef,undef,undef,undef,undef,undef,undef]) (by rfl) ?_;go_wp2;exact⟨rfl,_,rfl,_,by simp[results,results92,go_sem],rfl,rfl,ae aN _⟩
theorem nG(a:World):CallsD prog 92 #[] .returning a λd e f=>d=.returned (.tuple #[])/\e=.returning/\Bw a f:=by
 have i:∀a:World,(Instr.typeAssert Value.nilIface 20 138 true).run prog a=.ok (.tuple #[.agg #[],.bool false]) a:=λ_=>by kernel_rfl
 refine callsD_of_wpS func92 rfl λc g b=>?_;apply wpS_seq;apply wpS_region;simp[wpOpsS,go_sem,recoverD,b,ntmps92,Exit.thenS];refine wpS_of_wp ?_;refine ln (T':=#[.nilIface,undef,undef,.nilIface,undef,undef,undef,undef,undef,undef,undef,undef,undef,undef,undef,undef]) (by rfl) ?_;go_wp2;refine⟨rfl,_,rfl,_,by simp[results,results92,go_sem],rfl,?_,ae aN _⟩;first|exact b | (cases c;simp_all)
abbrev VT:List Value:=[.int .i64 0,.string ⟨#[]⟩,.slice none 0 0,.slice none 0 0,.slice none 0 0,.slice none 0 0,.int .i64 0,.int .i64 0,.int .i64 0,.int .i64 0,.slice none 0 0]
abbrev ft:Value:=.agg #[.int .i64 0,.string ⟨#[]⟩,.slice none 0 0,.slice none 0 0,.slice none 0 0,.slice none 0 0,.int .i64 0,.int .i64 0,.int .i64 0,.int .i64 0,.slice none 0 0]
def tn(g:Option Pl)(a:World)(c:Ending)(b:World):Prop:=Bw a b/\match g with
 | some e=>∃d,c=.returned (.tuple #[e.val d,.bool true])/\SK (SN a.heap.size b) b λf=>dN f e d
 | none=>c=.returned (.tuple #[ft,.bool false])
theorem bR(d:World)(a:Nat)(f e g i j k h m n c o:Value):fm (λc=>a+1<=c/\c<d.heap.size) d (((((((((((d.setCell ⟨a,0,none⟩ f).setCell ⟨a,1,none⟩ e).setCell ⟨a,2,none⟩ g).setCell ⟨a,3,none⟩ i).setCell ⟨a,4,none⟩ j).setCell ⟨a,5,none⟩ k).setCell ⟨a,6,none⟩ h).setCell ⟨a,7,none⟩ m).setCell ⟨a,8,none⟩ n).setCell ⟨a,9,none⟩ c).setCell ⟨a,10,none⟩ o):=
 λe p q b l=>bA b.1 (bA b.1 (bA b.1 (bA b.1 (bA b.1 (bA b.1 (bA b.1 (bA b.1 (bA b.1 (bA b.1 (bA b.1 l))))))))))
theorem aJ(o:Below n w W)(a:n<=m)(b c d e f g h i j k l:Value):Below n w (((((((((((W.setCell ⟨m,0,none⟩ b).setCell ⟨m,1,none⟩ c).setCell ⟨m,2,none⟩ d).setCell ⟨m,3,none⟩ e).setCell ⟨m,4,none⟩ f).setCell ⟨m,5,none⟩ g).setCell ⟨m,6,none⟩ h).setCell ⟨m,7,none⟩ i).setCell ⟨m,8,none⟩ j).setCell ⟨m,9,none⟩ k).setCell ⟨m,10,none⟩ l):=
 (b1 o a b c d e f g).setCell (p:=⟨m,6,none⟩) a h |>.setCell (p:=⟨m,7,none⟩) a i |>.setCell (p:=⟨m,8,none⟩) a j |>.setCell (p:=⟨m,9,none⟩) a k |>.setCell (p:=⟨m,10,none⟩) a l
theorem qm(K:Option Pl)(d:Tt)(A:Option Addr)(y:Nat)(c:World)(M:∀I,Bw c I->Calls prog 50 #[d.val A y] I (PQ K I)):Calls prog 49 #[d.val A y,.func (.func 50) #[] #[]] c (tn K c):=by
 obtain⟨x,w⟩:=bq ((c.alloc (.cells #[.int .i64 d.k,.string d.s,.slice A d.l.length (d.l.length+y)] 51)).alloc (.cells #[.int .i64 0,.string ⟨#[]⟩,.slice none 0 0,.slice none 0 0,.slice none 0 0,.slice none 0 0,.int .i64 0,.int .i64 0,.int .i64 0,.int .i64 0,.slice none 0 0] 28));have Q:=ae (ar _ c) (.cells #[.int .i64 d.k,.string d.s,.slice A d.l.length (d.l.length+y)] 51);have J:Bw c x:=by rw[<-w];exact ae Q _
 have R:bp x (c.heap.size+1) VT:=by rw[<-w];have:=bp.new (c.alloc (.cells #[.int .i64 d.k,.string d.s,.slice A d.l.length (d.l.length+y)] 51)) VT 28;simpa using this
 have N:=VV R;have V:Hid (c.heap.size+1<x.heap.size):=by show _<_;rw[<-w];simp
 have Wm:x.cell? ⟨c.heap.size,0,none⟩=some (.int .i64 d.k):=by rw[<-w];simp[go_sem]
 have Wn:x.cell? ⟨c.heap.size,1,none⟩=some (.string d.s):=by rw[<-w];simp[go_sem]
 have Wo:x.cell? ⟨c.heap.size,2,none⟩=some (.slice A d.l.length (d.l.length+y)):=by rw[<-w];simp[go_sem]
 have L:=VV J;have O:=VV w;have G:=VV (M x J);rw[Tt.ad] at G ⊢;generalize d.l.length+y=Wl at *;generalize d.l.length=Wp at *;clear J Q R w M;cases K with
 | none=>go_enter_defers func49,ntmps49;go_upto_region 1 with fail;rw[U O];go_wp2_with (go_at_call 50;refine(U G).mono ?_;rintro V8 B ⟨z,rfl⟩;have g:=(U N).aa z;have F:=VV (ac (U L) z);have W:=VV g;clear z g);refine leaves_cons (f:=92) (args:=#[]) (by simp) (by simp[go_sem]) ?_;refine(pI B).mono ?_;rintro Y V9 j ⟨rfl,rfl,e⟩;have v:=(U W).aa e;obtain⟨k,Z⟩:=v 0 _ rfl;obtain⟨l,VW⟩:=v 1 _ rfl;obtain⟨n,VY⟩:=v 2 _ rfl;obtain⟨o,VZ⟩:=v 3 _ rfl;obtain⟨p,V0⟩:=v 4 _ rfl;obtain⟨q,V1⟩:=v 5 _ rfl;obtain⟨r,V2⟩:=v 6 _ rfl;obtain⟨s,V3⟩:=v 7 _ rfl;obtain⟨t,V4⟩:=v 8 _ rfl;obtain⟨u,V5⟩:=v 9 _ rfl;obtain⟨m,VX⟩:=v 10 _ rfl;refine⟨.tuple #[ft,.bool false],?_,ac (U F) e,rfl⟩;simp[results,results49,go_sem,k,l,n,o,p,q,r,s,t,u,m]
 | some a=>go_enter_defers func49,ntmps49;go_upto_region 1 with fail;rw[U O];go_wp2_with (go_at_call 50;refine(U G).mono ?_;rintro V8 B ⟨z,b,rfl,S⟩;rw[Pl.ad];have g:=(U N).aa z;obtain⟨k,Z⟩:=g 0 _ rfl;obtain⟨l,VW⟩:=g 1 _ rfl;obtain⟨n,VY⟩:=g 2 _ rfl;obtain⟨o,VZ⟩:=g 3 _ rfl;obtain⟨p,V0⟩:=g 4 _ rfl;obtain⟨q,V1⟩:=g 5 _ rfl;obtain⟨r,V2⟩:=g 6 _ rfl;obtain⟨s,V3⟩:=g 7 _ rfl;obtain⟨t,V4⟩:=g 8 _ rfl;obtain⟨u,V5⟩:=g 9 _ rfl;obtain⟨m,VX⟩:=g 10 _ rfl;have F:=VV (ac (U L) z);have X:=VV S;clear z g S);refine leaves_cons (f:=92) (args:=#[]) (by simp) (by simp[go_sem]) ?_;refine(nG _).mono ?_;rintro Y V9 j ⟨rfl,rfl,e⟩;obtain⟨E,i⟩:=al (((((((((((B.setCell ⟨c.heap.size+1,0,none⟩ (.int .i64 a.op)).setCell ⟨c.heap.size+1,1,none⟩ (.string a.tab)).setCell ⟨c.heap.size+1,2,none⟩ (.slice b.aE a.ex.length b.cE)).setCell ⟨c.heap.size+1,3,none⟩ (.slice b.aC a.cols.length b.cC)).setCell ⟨c.heap.size+1,4,none⟩ (.slice b.aK a.keys.length b.cK)).setCell ⟨c.heap.size+1,5,none⟩ (.slice b.aA a.aggs.length b.cA)).setCell ⟨c.heap.size+1,6,none⟩ (.int .i64 a.fn)).setCell ⟨c.heap.size+1,7,none⟩ (.int .i64 a.col)).setCell ⟨c.heap.size+1,8,none⟩ (.int .i64 a.n)).setCell ⟨c.heap.size+1,9,none⟩ (.int .i64 a.off)).setCell ⟨c.heap.size+1,10,none⟩ (.slice b.aP a.args.length b.cP));(have e:Bw E j:=by rw[i];exact e);have Wa:j.cell? ⟨c.heap.size+1,0,none⟩=some (.int .i64 a.op):=aG (by rw[i];simp[go_sem,k,l,n,o,p,q,r,s,t,u,m]) e;have Wb:j.cell? ⟨c.heap.size+1,1,none⟩=some (.string a.tab):=aG (by rw[i];simp[go_sem,k,l,n,o,p,q,r,s,t,u,m]) e;have Wd:j.cell? ⟨c.heap.size+1,2,none⟩=some (.slice b.aE a.ex.length b.cE):=aG (by rw[i];simp[go_sem,k,l,n,o,p,q,r,s,t,u,m]) e;have We:j.cell? ⟨c.heap.size+1,3,none⟩=some (.slice b.aC a.cols.length b.cC):=aG (by rw[i];simp[go_sem,k,l,n,o,p,q,r,s,t,u,m]) e;have Wf:j.cell? ⟨c.heap.size+1,4,none⟩=some (.slice b.aK a.keys.length b.cK):=aG (by rw[i];simp[go_sem,k,l,n,o,p,q,r,s,t,u,m]) e;have Wg:j.cell? ⟨c.heap.size+1,5,none⟩=some (.slice b.aA a.aggs.length b.cA):=aG (by rw[i];simp[go_sem,k,l,n,o,p,q,r,s,t,u,m]) e;have Wh:j.cell? ⟨c.heap.size+1,6,none⟩=some (.int .i64 a.fn):=aG (by rw[i];simp[go_sem,k,l,n,o,p,q,r,s,t,u,m]) e;have Wi:j.cell? ⟨c.heap.size+1,7,none⟩=some (.int .i64 a.col):=aG (by rw[i];simp[go_sem,k,l,n,o,p,q,r,s,t,u,m]) e;have Wj:j.cell? ⟨c.heap.size+1,8,none⟩=some (.int .i64 a.n):=aG (by rw[i];simp[go_sem,k,l,n,o,p,q,r,s,t,u,m]) e;have Wk:j.cell? ⟨c.heap.size+1,9,none⟩=some (.int .i64 a.off):=aG (by rw[i];simp[go_sem,k,l,n,o,p,q,r,s,t,u,m]) e;have Wc:j.cell? ⟨c.heap.size+1,10,none⟩=some (.slice b.aP a.args.length b.cP):=aG (by rw[i];simp[go_sem,k,l,n,o,p,q,r,s,t,u,m]) e;(have V6:Bw c E:=by rw[i];exact aJ (U F) (Nat.le_succ _) _ _ _ _ _ _ _ _ _ _ _);have V7:=U V;refine⟨.tuple #[.agg #[.int .i64 a.op,.string a.tab,.slice b.aE a.ex.length b.cE,.slice b.aC a.cols.length b.cC,.slice b.aK a.keys.length b.cK,.slice b.aA a.aggs.length b.cA,.int .i64 a.fn,.int .i64 a.col,.int .i64 a.n,.int .i64 a.off,.slice b.aP a.args.length b.cP],.bool true],?_,ac V6 e,b,rfl,?_⟩;(.simp[results,results49,go_sem,Wa,Wb,Wd,We,Wf,Wg,Wh,Wi,Wj,Wk,Wc]);.have P:=((U X).mono (T:=λD=>c.heap.size+1+1<=D/\D<B.heap.size) λD C=>⟨aQ V7 C.1,C.2⟩).kept (bR B (c.heap.size+1) (.int .i64 a.op) (.string a.tab) (.slice b.aE a.ex.length b.cE) (.slice b.aC a.cols.length b.cC) (.slice b.aK a.keys.length b.cK) (.slice b.aA a.aggs.length b.cA) (.int .i64 a.fn) (.int .i64 a.col) (.int .i64 a.n) (.int .i64 a.off) (.slice b.aP a.args.length b.cP)) (T:=SN c.heap.size E) λD C=>⟨by omega,by rw[i];exact be C.2 (by simp)⟩;rw[<-i] at P;exact P.up e
theorem ij(o:Option Pl)(b:Tt)(j:Option Addr)(f:Nat)(c:World)(G:∀l,Bw c l->Calls prog 50 #[b.val j f] l (PQ o l)):Calls prog 16 #[b.val j f] c (tn o c):=by
 obtain⟨i,g⟩:=bq ((c.alloc (.cells #[.int .i64 b.k,.string b.s,.slice j b.l.length (b.l.length+f)] 51)).alloc (.cells #[.int .i64 0,.string ⟨#[]⟩,.slice none 0 0,.slice none 0 0,.slice none 0 0,.slice none 0 0,.int .i64 0,.int .i64 0,.int .i64 0,.int .i64 0,.slice none 0 0] 28));have K:=ae (ar _ c) (.cells #[.int .i64 b.k,.string b.s,.slice j b.l.length (b.l.length+f)] 51);have r:Bw c i:=by rw[<-g];exact ae K _
 have L:bp i (c.heap.size+1) VT:=by rw[<-g];have:=bp.new (c.alloc (.cells #[.int .i64 b.k,.string b.s,.slice j b.l.length (b.l.length+f)] 51)) VT 28;simpa using this
 have I:=VV L;have N:Hid (c.heap.size+1<i.heap.size):=by show _<_;rw[<-g];simp
 have V2:i.cell? ⟨c.heap.size,0,none⟩=some (.int .i64 b.k):=by rw[<-g];simp[go_sem]
 have V3:i.cell? ⟨c.heap.size,1,none⟩=some (.string b.s):=by rw[<-g];simp[go_sem]
 have V4:i.cell? ⟨c.heap.size,2,none⟩=some (.slice j b.l.length (b.l.length+f)):=by rw[<-g];simp[go_sem]
 have F:=VV r;have J:=VV g;have q:=VV (qm o b j f i λl VY=>G l (ac r VY));rw[Tt.ad] at q ⊢;generalize b.l.length+f=V1 at *;generalize b.l.length=V5 at *;clear r K L g G;cases o with
 | none=>go_enter func16,ntmps16;go_upto_region 1 with fail;rw[U J];go_wp2_with (go_at_call 49;refine(U q).mono ?_;rintro V0 s ⟨k,rfl⟩;have a:=(U I).aa k;obtain⟨t,P⟩:=a 0 _ rfl;obtain⟨u,Q⟩:=a 1 _ rfl;obtain⟨x,S⟩:=a 2 _ rfl;obtain⟨y,V⟩:=a 3 _ rfl;obtain⟨z,W⟩:=a 4 _ rfl;obtain⟨A,X⟩:=a 5 _ rfl;obtain⟨B,Y⟩:=a 6 _ rfl;obtain⟨C,Z⟩:=a 7 _ rfl;obtain⟨D,VW⟩:=a 8 _ rfl;obtain⟨E,VX⟩:=a 9 _ rfl;obtain⟨w,R⟩:=a 10 _ rfl;have p:=VV (ac (U F) k);clear k a);refine aM (v:=.tuple #[ft,.bool false]) (by simp[results,results16,go_sem,t,u,x,y,z,A,B,C,D,E,w]) rfl ?_;exact⟨aJ (U p) (Nat.le_succ _) _ _ _ _ _ _ _ _ _ _ _,rfl⟩
 | some e=>go_enter func16,ntmps16;go_upto_region 1 with fail;rw[U J];go_wp2_with (go_at_call 49;refine(U q).mono ?_;rintro V0 s ⟨k,d,rfl,M⟩;rw[Pl.ad];have a:=(U I).aa k;obtain⟨t,P⟩:=a 0 _ rfl;obtain⟨u,Q⟩:=a 1 _ rfl;obtain⟨x,S⟩:=a 2 _ rfl;obtain⟨y,V⟩:=a 3 _ rfl;obtain⟨z,W⟩:=a 4 _ rfl;obtain⟨A,X⟩:=a 5 _ rfl;obtain⟨B,Y⟩:=a 6 _ rfl;obtain⟨C,Z⟩:=a 7 _ rfl;obtain⟨D,VW⟩:=a 8 _ rfl;obtain⟨E,VX⟩:=a 9 _ rfl;obtain⟨w,R⟩:=a 10 _ rfl;have p:=VV (ac (U F) k);have O:=VV M;clear k a M);refine aM (v:=.tuple #[.agg #[.int .i64 e.op,.string e.tab,.slice d.aE e.ex.length d.cE,.slice d.aC e.cols.length d.cC,.slice d.aK e.keys.length d.cK,.slice d.aA e.aggs.length d.cA,.int .i64 e.fn,.int .i64 e.col,.int .i64 e.n,.int .i64 e.off,.slice d.aP e.args.length d.cP],.bool true]) (by simp[results,results16,go_sem,t,u,x,y,z,A,B,C,D,E,w]) rfl ?_;have VZ:=U N;refine⟨aJ (U p) (Nat.le_succ _) _ _ _ _ _ _ _ _ _ _ _,d,rfl,?_⟩;exact((U O).mono (T:=λn=>c.heap.size+1+1<=n/\n<s.heap.size) λn m=>⟨aQ VZ m.1,m.2⟩).kept (bR s (c.heap.size+1) _ _ _ _ _ _ _ _ _ _ _) λn m=>⟨by omega,be m.2 (by simp)⟩
def rk:Pl:=.mk 0 ⟨#[]⟩ [] [] [] [] 0 0 0 0 []
def ee(b:List UInt8):Option Pl×Int:=if 20000<b.length then (none,3) else match fv b with
 | none=>(none,5)
 | some c=>match b9 c with
  | none=>(none,5)
  | some a=>if bS a=0 then (some a,0) else (none,bS a)
def r6(a:Option Pl×Int)(b:World)(f:Ending)(c:World):Prop:=Bw b c/\∃d,f=.returned (.tuple #[(a.1.getD rk).val d,.int .i64 a.2])/\SK (SN b.heap.size c) c λe=>dN e (a.1.getD rk) d
theorem ed:SK P w λa=>dN a rk ⟨none,0,none,0,none,0,none,0,none,0⟩:=λa _=>⟨⟨by show Ex.all a none [];rw[Ex.all];trivial,.inl rfl,.inl rfl,.inl rfl,aV⟩,by show Pl.all a none [];rw[Pl.all];trivial⟩
theorem qr(n:List UInt8)(k:World)(Wj:GT k)(V3:n.length<=1000000) (VX:∀b,fv n=some b->∀(Wv:Option Addr) (WB:Nat) (j:World),Tt.all j Wv b.l->Bw k j->Calls prog 50 #[b.val Wv WB] j (PQ (b9 b) j)) (V2:∀b p,fv n=some b->b9 b=some p->p.fin):Calls prog 7 #[.string (bs n)] k (r6 (ee n) k):=by
 obtain⟨V7,J⟩:=bq (k.alloc (.cells #[.int .i64 0,.string ⟨#[]⟩,.slice none 0 0,.slice none 0 0,.slice none 0 0,.slice none 0 0,.int .i64 0,.int .i64 0,.int .i64 0,.int .i64 0,.slice none 0 0] 28));have V1:Bw k V7:=by rw[<-J];exact ae aN _
 have V4:bp V7 k.heap.size VT:=by rw[<-J];exact bp.new k VT 28
 have i:=VV V4;have Wz:Hid (k.heap.size<V7.heap.size):=by show _<_;rw[<-J];simp
 have VW:=VV V1;have V0:=VV J;have WH:=bx n;have V:=VV (qh n V7 V3);obtain⟨WD,e⟩:=al (ee n);rw[<-e];unfold ee at e;by_cases X:20000<n.length;.rw[aR X] at e;subst e;(have WC:(20000:Int)<(n.length:Int):=by omega);obtain⟨w,V8⟩:=(U i) 0 _ rfl;obtain⟨x,V9⟩:=(U i) 1 _ rfl;obtain⟨z,Wb⟩:=(U i) 2 _ rfl;obtain⟨A,Wc⟩:=(U i) 3 _ rfl;obtain⟨B,Wd⟩:=(U i) 4 _ rfl;obtain⟨C,We⟩:=(U i) 5 _ rfl;obtain⟨D,Wf⟩:=(U i) 6 _ rfl;obtain⟨E,Wg⟩:=(U i) 7 _ rfl;obtain⟨F,Wh⟩:=(U i) 8 _ rfl;obtain⟨G,Wi⟩:=(U i) 9 _ rfl;obtain⟨y,Wa⟩:=(U i) 10 _ rfl;clear V1 V4 J VX V2 Wj X V3;go_enter func7,ntmps7;go_upto_region 1 with fail;rw[U V0];go_wp2;refine aM (v:=.tuple #[ft,.int .i64 3]) (by simp[results,results7,go_sem,w,x,z,A,B,C,D,E,F,G,y]) rfl ?_;exact⟨aJ (U VW) aV _ _ _ _ _ _ _ _ _ _ _,_,rfl,ed⟩
 rw[aL X] at e;have WC:¬(20000:Int)<(n.length:Int):=by omega
 cases R:fv n with
 | none=>rw[R] at e V;simp only at e;subst e;clear V1 V4 J VX V2 Wj X V3 R;go_enter func7,ntmps7;go_upto_region 1 with fail;rw[U V0];go_wp2_with (go_at_call 15;refine(U V).mono ?_;rintro L S ⟨g,rfl⟩;have a:=ae (ar _ S) (.cells #[.int .i64 0,.string ⟨#[]⟩,.slice none 0 0] 51);have t:=VV (ac (ac (U VW) g) a);have l:=((U i).aa g).aa a;obtain⟨w,V8⟩:=l 0 _ rfl;obtain⟨x,V9⟩:=l 1 _ rfl;obtain⟨z,Wb⟩:=l 2 _ rfl;obtain⟨A,Wc⟩:=l 3 _ rfl;obtain⟨B,Wd⟩:=l 4 _ rfl;obtain⟨C,We⟩:=l 5 _ rfl;obtain⟨D,Wf⟩:=l 6 _ rfl;obtain⟨E,Wg⟩:=l 7 _ rfl;obtain⟨F,Wh⟩:=l 8 _ rfl;obtain⟨G,Wi⟩:=l 9 _ rfl;obtain⟨y,Wa⟩:=l 10 _ rfl;clear g a l);refine aM (v:=.tuple #[ft,.int .i64 5]) (by simp[results,results7,go_sem,w,x,z,A,B,C,D,E,F,G,y]) rfl ?_;exact⟨aJ (U t) aV _ _ _ _ _ _ _ _ _ _ _,_,rfl,ed⟩
 | some b=>
  rw[R] at e V
  simp only at e
  have Wo:=VV (VX b R)
  have Wq:=V2 b
  cases Q:b9 b with
  | none=>
   rw[Q] at e
   simp only at e
   subst e
   have V6:=VV Q
   clear V1 V4 J VX V2 Wj X V3 R Wq Q
   go_enter func7,ntmps7
   go_upto_region 1 with fail
   rw[U V0]
   go_wp2_with (first
    | (go_at_call 15;refine(U V).mono ?_;rintro L S ⟨g,q,r,rfl,K⟩;rw[Tt.ad];have a:=ae (ar _ S) (.cells #[.int .i64 b.k,.string b.s,.slice q b.l.length (b.l.length+r)] 51);have t:=VV (ac (ac (U VW) g) a);have Z:=VV (Tt.ab _ (Tt.aA _ K) a);have VZ:=VV (((U i).aa g).aa a);have Wp:=VV (aQ g.size a.size);have o:=VV (ij (b9 b) b q r _ λj I=>U Wo q r j (Tt.ab _ (U Z) I) (ac (U t) I));rw[Tt.ad] at o;rw[U V6] at o;clear g a K)
    | (go_at_call 16;refine(U o).mono ?_;rintro L M ⟨s,rfl⟩;have a:=ae (ar _ M) (.cells #[.int .i64 0,.string ⟨#[]⟩,.slice none 0 0,.slice none 0 0,.slice none 0 0,.slice none 0 0,.int .i64 0,.int .i64 0,.int .i64 0,.int .i64 0,.slice none 0 0] 28);have N:=VV (ac (ac (U t) s) a);have m:=((U VZ).aa s).aa a;obtain⟨w,V8⟩:=m 0 _ rfl;obtain⟨x,V9⟩:=m 1 _ rfl;obtain⟨z,Wb⟩:=m 2 _ rfl;obtain⟨A,Wc⟩:=m 3 _ rfl;obtain⟨B,Wd⟩:=m 4 _ rfl;obtain⟨C,We⟩:=m 5 _ rfl;obtain⟨D,Wf⟩:=m 6 _ rfl;obtain⟨E,Wg⟩:=m 7 _ rfl;obtain⟨F,Wh⟩:=m 8 _ rfl;obtain⟨G,Wi⟩:=m 9 _ rfl;obtain⟨y,Wa⟩:=m 10 _ rfl;clear s a m))
   refine aM (v:=.tuple #[ft,.int .i64 5]) (by simp[results,results7,go_sem,w,x,z,A,B,C,D,E,F,G,y]) rfl ?_
   exact⟨aJ (U N) aV _ _ _ _ _ _ _ _ _ _ _,_,rfl,ed⟩
  | some d=>
   rw[Q] at e
   simp only at e
   have V6:=VV Q
   have V5:=VV λ(Wy:Pm) (j:World) (h:dN j d Wy)=>jy d (Wq d R Q) Wy j h
   clear V1 V4 J VX V2 Wj X V3 R Wq Q
   by_cases W:bS d=0
   .rw[aR W] at e
    subst e
    rw[W] at V5
    clear W
    go_enter func7,ntmps7
    go_upto_region 1 with fail
    rw[U V0]
    go_wp2_with (first
     | (refine aH ?_ 28 (.tmp 6) rfl _ (by simp[Act.eval]) _ (U Wt) ?_;. simp[Region.wanted,yielded])
     | (refine aH ?_ 28 (.tmp 6) rfl _ (by simp[Act.eval]) _ (U P) ?_;. simp[Region.wanted,yielded])
     | (go_at_call 15;refine(U V).mono ?_;rintro L S ⟨g,q,r,rfl,K⟩;rw[Tt.ad];have a:=ae (ar _ S) (.cells #[.int .i64 b.k,.string b.s,.slice q b.l.length (b.l.length+r)] 51);have t:=VV (ac (ac (U VW) g) a);have Z:=VV (Tt.ab _ (Tt.aA _ K) a);have VZ:=VV (((U i).aa g).aa a);have Wp:=VV (aQ g.size a.size);have o:=VV (ij (b9 b) b q r _ λj I=>U Wo q r j (Tt.ab _ (U Z) I) (ac (U t) I));rw[Tt.ad] at o;rw[U V6] at o;clear g a K)
     | (go_at_call 16;refine(U o).mono ?_;rintro L M ⟨s,f,rfl,Y⟩;have a:=ae (ar _ M) (d.box f);have N:=VV (ac (ac (U t) s) a);have VY:=VV (((U VZ).aa s).aa a);have Ws:=VV (dL.new M d f);have P:=VV (dL.new M d f).load;have Wn:=VV (Y.now.aa a);have Wu:=VV (Y.up a);have O:=VV (U V5 f _ (U Wn));unfold Pl.box at N VY Ws P Wu O;rw[Pl.ad] at P O;rw[Pl.ad];clear s a Y)
     | (go_at_call 10;refine(U O).mono ?_;rintro L Wr ⟨rfl,u⟩;have Wm:=VV (ac (U N) u);have c:=(U VY).aa u;obtain⟨w,V8⟩:=c 0 _ rfl;obtain⟨x,V9⟩:=c 1 _ rfl;obtain⟨z,Wb⟩:=c 2 _ rfl;obtain⟨A,Wc⟩:=c 3 _ rfl;obtain⟨B,Wd⟩:=c 4 _ rfl;obtain⟨C,We⟩:=c 5 _ rfl;obtain⟨D,Wf⟩:=c 6 _ rfl;obtain⟨E,Wg⟩:=c 7 _ rfl;obtain⟨F,Wh⟩:=c 8 _ rfl;obtain⟨G,Wi⟩:=c 9 _ rfl;obtain⟨y,Wa⟩:=c 10 _ rfl;have Wt:=VV ((U Ws).aa u).load;rw[Pl.ad] at Wt;have WA:=VV ((U Wu).up u);clear u c))
    refine aM (v:=.tuple #[.agg #[.int .i64 d.op,.string d.tab,.slice f.aE d.ex.length f.cE,.slice f.aC d.cols.length f.cC,.slice f.aK d.keys.length f.cK,.slice f.aA d.aggs.length f.cA,.int .i64 d.fn,.int .i64 d.col,.int .i64 d.n,.int .i64 d.off,.slice f.aP d.args.length f.cP],.int .i64 0]) (by simp[results,results7,go_sem,w,x,z,A,B,C,D,E,F,G,y]) rfl ?_
    have WF:=U Wz
    have WG:=U Wp
    refine⟨aJ (U Wm) aV _ _ _ _ _ _ _ _ _ _ _,f,rfl,?_⟩
    exact((U WA).mono (T:=λWl=>k.heap.size+1<=Wl/\Wl<Wr.heap.size) λWl Wk=>⟨by have:=Wk.1;omega,Wk.2⟩).kept (bR Wr k.heap.size _ _ _ _ _ _ _ _ _ _ _) λWl Wk=>⟨by omega,be Wk.2 (by simp)⟩
   .rw[aL W] at e
    subst e
    obtain⟨Ww,Wx⟩:=al (bS d)
    rw[<-Wx] at V5 W ⊢
    have WE:(Ww == 0)=false:=by simp[W]
    clear Wx
    go_enter func7,ntmps7
    go_upto_region 1 with fail
    rw[U V0]
    go_wp2_with (first
     | (refine aH ?_ 28 (.tmp 6) rfl _ (by simp[Act.eval]) _ (U P) ?_;. simp[Region.wanted,yielded])
     | (go_at_call 15;refine(U V).mono ?_;rintro L S ⟨g,q,r,rfl,K⟩;rw[Tt.ad];have a:=ae (ar _ S) (.cells #[.int .i64 b.k,.string b.s,.slice q b.l.length (b.l.length+r)] 51);have t:=VV (ac (ac (U VW) g) a);have Z:=VV (Tt.ab _ (Tt.aA _ K) a);have VZ:=VV (((U i).aa g).aa a);have Wp:=VV (aQ g.size a.size);have o:=VV (ij (b9 b) b q r _ λj I=>U Wo q r j (Tt.ab _ (U Z) I) (ac (U t) I));rw[Tt.ad] at o;rw[U V6] at o;clear g a K)
     | (go_at_call 16;refine(U o).mono ?_;rintro L M ⟨s,f,rfl,Y⟩;have a:=ae (ar _ M) (d.box f);have N:=VV (ac (ac (U t) s) a);have VY:=VV (((U VZ).aa s).aa a);have P:=VV (dL.new M d f).load;have Wn:=VV (Y.now.aa a);have O:=VV (U V5 f _ (U Wn));unfold Pl.box at N VY P O;rw[Pl.ad] at P O;rw[Pl.ad];clear s a Y)
     | (go_at_call 10;refine(U O).mono ?_;rintro L Wr ⟨rfl,u⟩;have Wm:=VV (ac (U N) u);have c:=(U VY).aa u;obtain⟨w,V8⟩:=c 0 _ rfl;obtain⟨x,V9⟩:=c 1 _ rfl;obtain⟨z,Wb⟩:=c 2 _ rfl;obtain⟨A,Wc⟩:=c 3 _ rfl;obtain⟨B,Wd⟩:=c 4 _ rfl;obtain⟨C,We⟩:=c 5 _ rfl;obtain⟨D,Wf⟩:=c 6 _ rfl;obtain⟨E,Wg⟩:=c 7 _ rfl;obtain⟨F,Wh⟩:=c 8 _ rfl;obtain⟨G,Wi⟩:=c 9 _ rfl;obtain⟨y,Wa⟩:=c 10 _ rfl;clear u c))
    refine aM (v:=.tuple #[ft,.int .i64 Ww]) (by simp[results,results7,go_sem,w,x,z,A,B,C,D,E,F,G,y]) rfl ?_
    exact⟨aJ (U Wm) aV _ _ _ _ _ _ _ _ _ _ _,_,rfl,ed⟩
theorem hd:∀(b:Nat) (a:List UInt8),a.length<=b->∀{c:List UInt8×List UInt8},cz a=some c->c.1.length<=a.length
 | 0,a,f,c,h=>by have:a=[]:=eV (by omega);subst this;simp[cz] at h
 | b+1,[],f,c,h=>by simp[cz] at h
 | b+1,d::a,f,c,h=>by
  rw[a1] at f ⊢;by_cases j:d=34;.subst j;rw[gN] at h;injection h with h;rw[<-h];exact bf
  by_cases k:d=92
  .subst k
   rw[d1] at h
   cases e:fO a with
   | none=>rw[e] at h;cases h
   | some l=>
    obtain⟨n,m⟩:=l
    rw[e] at h
    have o:=jw e
    obtain⟨i,g,rfl⟩:=Option.map_eq_some_iff.1 h
    have:=hd b m (by omega) g
    show (n::i.1).length<=_;rw[a1];omega
  rw[ey a j k] at h;split at h;.obtain⟨i,g,rfl⟩:=Option.map_eq_some_iff.1 h;have:=hd b a (by omega) g;show (d::i.1).length<=_;rw[a1];omega
  .cases h
theorem oD:∀(c:Nat),(∀a b,a.length<=1000000->dQ c a=some b->b.1.fin)/\∀a b,a.length<=1000000->dU c a=some b->Tt.ah b.1/\b.1.length<=a.length:=by
 intro c;induction c with
 | zero=>exact⟨λa b _ h=>(by rw[dQ] at h;exact nomatch h),λa b _ h=>(by rw[dU] at h;exact nomatch h)⟩
 | succ c i=>
  refine⟨λa b n h=>?_,λa b n h=>?_⟩;.rw[dQ] at h;have o:=ez a;split at h;(.rename_i f;have:=fb f;obtain⟨d,e,rfl⟩:=Option.map_eq_some_iff.1 h;have m:=i.2 _ _ (by omega) e;show Tt.fin (.mk 3 ⟨#[]⟩ d.1);rw[Tt.fin];exact⟨bf,by omega,m.1⟩);split at h;(.rename_i f;have:=fb f;unfold g7 at h;obtain⟨d,e,rfl⟩:=Option.map_eq_some_iff.1 h;have:=hd _ _ aV e;show Tt.fin (.mk 2 (bs d.1) []);rw[Tt.fin,Tt.ah,bx];exact⟨by omega,bf,trivial⟩);.unfold fa at h;split at h;(.cases h);.injection h with h;subst h;show Tt.fin (.mk 1 (bs _) []);rw[Tt.fin,Tt.ah,bx];have:=(List.takeWhile_sublist (p:=bn) (l:=bD a)).length_le;exact⟨by omega,bf,trivial⟩
  .rw[dU] at h;have o:=ez a;split at h;.injection h with h;subst h;exact⟨by rw[Tt.ah];trivial,bf⟩
   .cases g:dQ c (bD a) with
    | none=>rw[g] at h;cases h
    | some j=>
     rw[g] at h
     simp only at h
     obtain⟨d,e,rfl⟩:=Option.map_eq_some_iff.1 h
     have f:=(lr c).1 _ _ g
     have k:=i.1 _ _ (by omega) g
     have l:=i.2 _ _ (by omega) e
     show Tt.ah (j.1::d.1)/\(j.1::d.1).length<=_
     rw[Tt.ah,a1]
     exact⟨⟨k,l.1⟩,by omega⟩
theorem ie{a:List UInt8}{b:Tt}(c:a.length<=1000000)(h:fv a=some b):b.fin:=by
 unfold fv at h;split at h;.cases h
 .rename_i e d;split at h;(.injection h with h;subst h;exact(oD _).1 _ _ c d);.cases h
theorem dF{c:Type}{d:Tt->Option c}:∀{b:List Tt} {a:List c},a6 d b=some a->a.length=b.length
 | [],a,h=>by rw[a6] at h;injection h with h;subst h;rfl
 | f::b,a,h=>by rw[a6] at h;split at h;(.cases h);.obtain⟨g,e,rfl⟩:=Option.map_eq_some_iff.1 h;rw[a1,a1,dF e]
theorem eh{d:Type}{g:Tt->Option d}:∀{e:List Tt} {c:List d} {b:d},a6 g e=some c->b∈c->∃f∈e,g f=some b
 | [],c,b,h,a=>by rw[a6] at h;injection h with h;subst h;cases a
 | f::e,c,b,h,a=>by rw[a6] at h;split at h;(.cases h);.rename_i n k;obtain⟨o,l,rfl⟩:=Option.map_eq_some_iff.1 h;rcases dm a with rfl|a;(.exact⟨f,List.mem_cons_self ..,k⟩);.obtain⟨m,j,i⟩:=eh l a;exact⟨m,List.mem_cons_of_mem _ j,i⟩
theorem gS{a:Tt}(h:cp a=some I):b2 I:=by
 unfold cp at h;split at h;.exact kS h
 .cases h
theorem ir:∀{a:List Ex},(∀b∈a,b.fin)->Ex.ah a
 | [],_=>by rw[Ex.ah];trivial
 | c::a,h=>by rw[Ex.ah];exact⟨h c (List.mem_cons_self ..),ir λb d=>h b (List.mem_cons_of_mem _ d)⟩
theorem kb:∀{a:List Pl},(∀b∈a,b.fin)->Pl.ah a
 | [],_=>by rw[Pl.ah];trivial
 | c::a,h=>by rw[Pl.ah];exact⟨h c (List.mem_cons_self ..),kb λb d=>h b (List.mem_cons_of_mem _ d)⟩
theorem gb:b2 0:=⟨by decide,by decide⟩
theorem pt{c:Tt}(h:fy c=some e):e.fin:=by
 unfold fy at h;split at h;.injection h with h;subst h;rw[Ex.fin,Ex.ah];exact⟨⟨bf,bf,gb,gb⟩,trivial⟩
 split at h;.obtain⟨b,a,rfl⟩:=Option.map_eq_some_iff.1 h;rw[Ex.fin,Ex.ah];exact⟨⟨bf,bf,gb,kS a⟩,trivial⟩
 .obtain⟨b,a,rfl⟩:=Option.map_eq_some_iff.1 h;rw[Ex.fin,Ex.ah];exact⟨⟨bf,bf,kS a,gb⟩,trivial⟩
theorem rS:∀(b:Nat) (a:Tt),a.size<=b->a.fin->∀d,eG a=some d->d.fin:=by
 intro b;induction b with
 | zero=>intro a h;exact absurd h (by rw[Tt.am];omega)
 | succ b p=>
 intro a v s d h;have f:=Tt.af s;obtain⟨j,y,c⟩:=a;by_cases e:j=2;.rw[gg,aR e] at h;injection h with h;subst h;rw[Ex.fin,Ex.ah];exact⟨⟨bf,aQ f.1 (by decide),gb,gb⟩,trivial⟩
 by_cases k:j=1;.rw[gg,aL e,aR k] at h;exact pt h
 rw[mi e k] at h;cases g:bB bV (.mk j y c) with
 | none=>rw[g] at h;cases h
 | some x=>obtain⟨D,w⟩:=x;rw[g] at h;simp only at h;obtain⟨o,t,_⟩:=cd g;have i:c=o::w:=t;split at h;(.obtain⟨E,n,rfl⟩:=Option.map_eq_some_iff.1 h;have B:=dF n;have r:c.length<=1000000:=f.2.1;rw[i,a1] at r;rw[Ex.fin];refine⟨⟨by omega,bf,gb,gb⟩,ir λA u=>?_⟩;obtain⟨z,m,q⟩:=eh n u;have l:Tt.ah c:=f.2.2;rw[i,Tt.ah] at l;have C:=Tt.an m;rw[Tt.size,i,Tt.sizes] at v;have:=Tt.am o;exact p z (by omega) (Tt.ag l.2 m) A q);.cases h
theorem oe{a:List Tt}(d:Tt.ah a)(h:a6 eG a=some L):Ex.ah L:=ir λg f=>by
 obtain⟨b,e,c⟩:=eh h f
 exact rS b.size b aV (Tt.ag d e) g c
theorem pc{a:List Tt}(h:Tt.ah a)(b:Nat):(fd a b).fin:=by
 unfold fd;rw[fC];cases c:a[b]? with
 | none=>show Tt.fin (.mk 0 ⟨#[]⟩ []);rw[Tt.fin,Tt.ah];exact⟨bf,bf,trivial⟩
 | some d=>exact Tt.ag h (a8 c)
theorem eo{c:Tt}(h:c.fin){b:List Tt}(a:bF c=some b):b.length<=1000000/\Tt.ah b:=by
 unfold bF at a;split at a;.injection a with a;subst a;exact(Tt.af h).2
 .cases a
theorem j2:∀{a:List Tt} (b:Nat),Tt.ah a->Tt.ah (a.take b)
 | [],b,h=>by rw[List.take_nil];exact h
 | c::a,0,h=>by rw[List.take_zero,Tt.ah];trivial
 | c::a,b+1,h=>by rw[List.take_succ_cons,Tt.ah];rw[Tt.ah] at h;exact⟨h.1,j2 b h.2⟩
theorem n1{d:List Tt}(h:a6 cp d=some C):∀a∈C,b2 a:=λa c=>by
 obtain⟨e,_,b⟩:=eh h c
 exact gS b
theorem r4{c:Tt}{a:Int×Int}(h:VM c=some a):b2 a.2:=by
 unfold VM at h;split at h;.obtain⟨d,b,rfl⟩:=Option.map_eq_some_iff.1 h;exact gS b
 .cases h
theorem n9{d:Tt}{b:Int×Bool}(h:fr d=some b):b2 b.1:=by
 unfold fr at h;split at h;.split at h;(.obtain⟨c,a,rfl⟩:=Option.map_eq_some_iff.1 h;exact gS a);.cases h
 .obtain⟨c,a,rfl⟩:=Option.map_eq_some_iff.1 h;exact gS a
theorem qD{a:Tt}(h:gm a=some I):b2 I:=by
 unfold gm bW at h;split at h;.injection h with h;have:=dC bG a.s;(have b:bG.length=2:=by kernel_rfl);rw[b] at this;subst h;exact⟨by omega,by omega⟩
 .cases h
theorem pm{b:Tt}(c:b.fin){a:ByteArray}(h:hK b=some a):a.size<=1000000:=by
 unfold hK at h;split at h;.injection h with h;subst h;exact(Tt.af c).1
 .cases h
theorem nV:∀(s:Nat) (k:Tt),k.size<=s->k.fin->∀A,b9 k=some A->A.fin:=by
 intro s;induction s with
 | zero=>intro k h;exact absurd h (by rw[Tt.am];omega)
 | succ s M=>
 intro k V S A h;have F:=Tt.af S;obtain⟨W,VW,v⟩:=k;rw[je] at h;cases x:bB aX (.mk W VW v) with
 | none=>rw[x] at h;cases h
 | some Z=>obtain⟨V6,K⟩:=Z;rw[x] at h;simp only at h;obtain⟨L,T,_⟩:=cd x;have z:v=L::K:=T;have Q:v.length<=1000000:=F.2.1;rw[z,a1] at Q;have t:Tt.ah v:=F.2.2;rw[z,Tt.ah] at t;rw[Tt.size,z,Tt.sizes] at V;have V4:=Tt.am L;(have c:∀I d,aW ((K.map b9).drop I)=some d->d.length<=1048576/\Pl.ah d:=λI d a=>by rw[<-List.map_drop,<-cu] at a;have u:=dF a;rw[List.length_drop] at u;refine⟨by omega,kb λr f=>?_⟩;obtain⟨q,b,P⟩:=eh a f;have b:=List.mem_of_mem_drop b;have:=Tt.an b;exact M q (by omega) (Tt.ag t.2 b) r P);have g:=pc t.2;(have j:Ex.ah []:=by rw[Ex.ah];trivial);(have C:Pl.ah []:=by rw[Pl.ah];trivial);have l:=gb;split at h;(.unfold bm at h;split at h;(.obtain⟨J,p,rfl⟩:=Option.map_eq_some_iff.1 h;rw[Pl.fin];exact⟨⟨by have:=pm (g 0) p;omega,by simp,by simp,by simp,by simp,by simp,l,by simp,by simp,by simp⟩,j,C⟩);split at h;(.obtain⟨N,m,h⟩:=Option.bind_eq_some_iff.1 h;obtain⟨d,a,rfl⟩:=Option.map_eq_some_iff.1 h;have u:=dF m;rw[List.length_take] at u;rw[Pl.fin];exact⟨⟨by simp[ByteArray.size],by omega,by simp,by simp,by simp,(c _ _ a).1,l,by simp,by simp,by simp⟩,oe (j2 1 t.2) m,(c _ _ a).2⟩);split at h;(.obtain⟨w,e,h⟩:=Option.bind_eq_some_iff.1 h;obtain⟨N,m,h⟩:=Option.bind_eq_some_iff.1 h;obtain⟨d,a,rfl⟩:=Option.map_eq_some_iff.1 h;have n:=eo (g 0) e;have u:=dF m;rw[Pl.fin];exact⟨⟨by simp[ByteArray.size],by omega,by simp,by simp,by simp,(c _ _ a).1,l,by simp,by simp,by simp⟩,oe n.2 m,(c _ _ a).2⟩);split at h;(.obtain⟨w,e,h⟩:=Option.bind_eq_some_iff.1 h;obtain⟨B,i,h⟩:=Option.bind_eq_some_iff.1 h;obtain⟨Y,y,h⟩:=Option.bind_eq_some_iff.1 h;obtain⟨VX,E,h⟩:=Option.bind_eq_some_iff.1 h;obtain⟨d,a,rfl⟩:=Option.map_eq_some_iff.1 h;have n:=eo (g 0) e;have O:=eo (g 1) y;have G:=dF i;have V2:=dF E;rw[Pl.fin];exact⟨⟨by simp[ByteArray.size],by simp,by omega,by simp,by omega,(c _ _ a).1,l,n1 i,by simp,λr f=>by obtain⟨q,_,b⟩:=eh E f;exact r4 b⟩,j,(c _ _ a).2⟩);split at h;(.obtain⟨w,e,h⟩:=Option.bind_eq_some_iff.1 h;obtain⟨X,o,h⟩:=Option.bind_eq_some_iff.1 h;obtain⟨J,p,h⟩:=Option.bind_eq_some_iff.1 h;obtain⟨V5,V3,h⟩:=Option.bind_eq_some_iff.1 h;obtain⟨d,a,rfl⟩:=Option.map_eq_some_iff.1 h;have n:=eo (g 0) e;have R:=dF o;rw[Pl.fin];exact⟨⟨by simp[ByteArray.size],by simp,by simp,by omega,by simp,(c _ _ a).1,gS p,by simp,λr f=>(by obtain⟨q,_,b⟩:=eh o f;exact n9 b),by simp⟩,j,(c _ _ a).2⟩);split at h;(.obtain⟨VZ,V1,h⟩:=Option.bind_eq_some_iff.1 h;obtain⟨VY,V0,h⟩:=Option.bind_eq_some_iff.1 h;obtain⟨J,p,h⟩:=Option.bind_eq_some_iff.1 h;obtain⟨w,e,h⟩:=Option.bind_eq_some_iff.1 h;obtain⟨B,i,h⟩:=Option.bind_eq_some_iff.1 h;obtain⟨Y,y,h⟩:=Option.bind_eq_some_iff.1 h;obtain⟨X,o,h⟩:=Option.bind_eq_some_iff.1 h;obtain⟨d,a,rfl⟩:=Option.map_eq_some_iff.1 h;have n:=eo (g 3) e;have O:=eo (g 4) y;have G:=dF i;have R:=dF o;rw[Pl.fin];exact⟨⟨by simp[ByteArray.size],by simp,by omega,by omega,by simp,(c _ _ a).1,gS p,n1 i,λr f=>(by obtain⟨q,_,b⟩:=eh o f;exact n9 b),by simp⟩,j,(c _ _ a).2⟩);split at h;(.obtain⟨w,e,h⟩:=Option.bind_eq_some_iff.1 h;obtain⟨B,i,rfl⟩:=Option.map_eq_some_iff.1 h;have n:=eo (g 0) e;have G:=dF i;rw[Pl.fin];exact⟨⟨by simp[ByteArray.size],by simp,by omega,by simp,by simp,by simp,l,λr f=>(by obtain⟨q,_,b⟩:=eh i f;exact qD b),by simp,by simp⟩,j,C⟩);.obtain⟨d,a,rfl⟩:=Option.map_eq_some_iff.1 h;have D:=c 0 d (by rw[List.drop_zero];exact a);rw[Pl.fin];exact⟨⟨by simp[ByteArray.size],by simp,by simp,by simp,by simp,D.1,l,by simp,by simp,by simp⟩,j,D.2⟩);.cases h
theorem o3(b:Tt)(V3:b.fin)(k:Option Addr)(l:Nat)(a:World)(VW:Tt.all a k b.l)(F:GT a)(f:List Tt)(L:bB aX b=some (7,f))(VY:f.length=1)  (Q:∀g,Bw a g->∀(Wd:Nat) (A:Tt),f[Wd]?=some A->∀(Z:Option Addr) (Wa:Nat) (e:World),Tt.all e Z A.l->Bw g e->Calls prog 50 #[A.val Z Wa] e (PQ (b9 A) e)):Calls prog 50 #[b.val k l] a (PQ (bm 7 f (f.map b9)) a):=by
 obtain⟨V9,G⟩:=al (PQ (bm 7 f (f.map b9)) a);rw[<-G];have S:=VV G;have K:=Tt.af V3;obtain⟨j,i⟩:=bq ((a.alloc (.cells #[.int .i64 b.k,.string b.s,.slice k b.l.length (b.l.length+l)] 51)).alloc (.cells #[.int .i64 0,.string ⟨#[]⟩,.slice none 0 0,.slice none 0 0,.slice none 0 0,.slice none 0 0,.int .i64 0,.int .i64 0,.int .i64 0,.int .i64 0,.slice none 0 0] 28));have c:=ae (ar _ a) (.cells #[.int .i64 b.k,.string b.s,.slice k b.l.length (b.l.length+l)] 51);have y:Bw a j:=by rw[<-i];exact ae c _
 have V1:bp j (a.heap.size+1) VT:=by rw[<-i];have:=bp.new (a.alloc (.cells #[.int .i64 b.k,.string b.s,.slice k b.l.length (b.l.length+l)] 51)) VT 28;simpa using this
 have V:=VV V1;have V7:Hid (a.heap.size+1<j.heap.size):=by show _<_;rw[<-i];simp
 have Wu:j.cell? ⟨a.heap.size,0,none⟩=some (.int .i64 b.k):=by rw[<-i];simp[go_sem]
 have Wv:j.cell? ⟨a.heap.size,1,none⟩=some (.string b.s):=by rw[<-i];simp[go_sem]
 have Ww:j.cell? ⟨a.heap.size,2,none⟩=some (.slice k b.l.length (b.l.length+l)):=by rw[<-i];simp[go_sem]
 have O:=VV y;have Y:=VV i;have p:=bM bE aX aZ (by decide) (by decide) (ascii_of_all (by decide)) b K.2.1 k l j (Tt.ab _ VW y) (F.aa y);unfold bE at p;rw[L,Tt.ad] at p;have p:=VV p;have R:=VV λ(e:World)=>b5 7 (by decide) e;have P:=VV Q;obtain⟨WM,V4,_⟩:=cd L;have J:=K.2.2;rw[V4,Tt.ah] at J;have Wr:=VV J.2;have Ws:=VV λ(e:World) (I:Bw a e)=>F.aa I;have t:=VV VY;rw[Tt.ad];generalize b.l.length+l=Wt at *;generalize b.l.length=WK at *;clear y c V1 G i Q F VW L V3 K V4 J;have s:=VV λ(u:Option Addr) (E:Nat) (g:World) (m:Tt.all g u f) (Wc:Bw a g)=>db b9 f (by have:=U t;omega) u E g m (U P g Wc);rw[U t] at s;have D:Hid (V9=PQ ((a6 b9 f).map λV5=>.mk 7 ⟨#[]⟩ [] [] [] [] 0 0 0 0 V5) a):=by have:=U S;rw[cu];exact this
 obtain⟨We,VZ⟩:=al (a6 b9 f);rw[<-VZ] at s D;clear S P VZ VY;cases We with
 | none=>
  go_enter func50,ntmps50;go_upto_region 1 with fail;rw[U Y]
  go_wp2_with (first
   | (go_at_call 93;refine(U p).mono ?_;rintro o Wf ⟨c,u,E,rfl,m⟩;simp only[U t];have C:=VV (Tt.ab _ m c);have q:=VV (ac (U O) c);have W:=VV ((U V).aa c);have X:=VV c.size;clear c m)
   | (go_at_call 95;refine(U R _).mono ?_;rintro o N ⟨rfl,rfl⟩)
   | (go_at_call 94;refine(bc _).mono ?_;rintro o N ⟨rfl,rfl⟩)
   | (go_at_call 99;refine(U s _ _ _ (U C) (U q)).mono ?_;rintro o B ⟨r,rfl⟩))
  refine⟨rfl,?_⟩;rw[U D];exact⟨ac (U q) r,rfl⟩
 | some V5=>
  go_enter func50,ntmps50;go_upto_region 1 with fail;rw[U Y]
  go_wp2_with (first
   | (go_at_call 93;refine(U p).mono ?_;rintro o Wf ⟨c,u,E,rfl,m⟩;simp only[U t];have C:=VV (Tt.ab _ m c);have q:=VV (ac (U O) c);have W:=VV ((U V).aa c);have X:=VV c.size;clear c m)
   | (go_at_call 95;refine(U R _).mono ?_;rintro o N ⟨rfl,rfl⟩)
   | (go_at_call 94;refine(bc _).mono ?_;rintro o N ⟨rfl,rfl⟩)
   | (go_at_call 99;refine(U s _ _ _ (U C) (U q)).mono ?_;rintro o B ⟨r,WL,M,rfl,V0,VX⟩;obtain⟨w,x,rfl,V2⟩:=VX.pls;have d:=(U W).aa r;obtain⟨Wg,Wx⟩:=d 0 _ rfl;obtain⟨Wh,Wy⟩:=d 1 _ rfl;obtain⟨Wj,WA⟩:=d 2 _ rfl;obtain⟨Wk,WB⟩:=d 3 _ rfl;obtain⟨Wl,WC⟩:=d 4 _ rfl;obtain⟨Wm,WD⟩:=d 5 _ rfl;obtain⟨Wn,WE⟩:=d 6 _ rfl;obtain⟨Wo,WF⟩:=d 7 _ rfl;obtain⟨Wp,WG⟩:=d 8 _ rfl;obtain⟨Wq,WH⟩:=d 9 _ rfl;obtain⟨Wi,Wz⟩:=d 10 _ rfl;have V6:=VV (ac (U q) r);have V8:=VV V2;clear r d VX V2))
  refine aM (v:=.agg #[.int .i64 7,.string ⟨#[]⟩,.slice none 0 0,.slice none 0 0,.slice none 0 0,.slice none 0 0,.int .i64 0,.int .i64 0,.int .i64 0,.int .i64 0,.slice w (M.map Prod.fst).length x]) (by simp[results,results50,go_sem,Wg,Wh,Wj,Wk,Wl,Wm,Wn,Wo,Wp,Wq,Wi];rw[<-V0,VP]) rfl ?_;rw[U D];subst V0;have WI:=U V7;have WJ:=U X;refine⟨aJ (U V6) (Nat.le_succ _) _ _ _ _ _ _ _ _ _ _ _,⟨none,0,none,0,none,0,none,0,w,x⟩,rfl,?_⟩;have Wb:=((U V8).mono (T:=λn=>a.heap.size+1+1<=n/\n<B.heap.size) λn z=>⟨by have:=z.1;omega,z.2⟩).kept (bR B (a.heap.size+1) (.int .i64 7) (.string ⟨#[]⟩) (.slice none 0 0) (.slice none 0 0) (.slice none 0 0) (.slice none 0 0) (.int .i64 0) (.int .i64 0) (.int .i64 0) (.int .i64 0) (.slice w (M.map Prod.fst).length x)) (T:=λn=>a.heap.size<=n/\n<(((((((((((B.setCell ⟨a.heap.size+1,0,none⟩ (.int .i64 7)).setCell ⟨a.heap.size+1,1,none⟩ (.string ⟨#[]⟩)).setCell ⟨a.heap.size+1,2,none⟩ (.slice none 0 0)).setCell ⟨a.heap.size+1,3,none⟩ (.slice none 0 0)).setCell ⟨a.heap.size+1,4,none⟩ (.slice none 0 0)).setCell ⟨a.heap.size+1,5,none⟩ (.slice none 0 0)).setCell ⟨a.heap.size+1,6,none⟩ (.int .i64 0)).setCell ⟨a.heap.size+1,7,none⟩ (.int .i64 0)).setCell ⟨a.heap.size+1,8,none⟩ (.int .i64 0)).setCell ⟨a.heap.size+1,9,none⟩ (.int .i64 0)).setCell ⟨a.heap.size+1,10,none⟩ (.slice w (M.map Prod.fst).length x)).heap.size) λn z=>⟨by omega,be z.2 (by simp)⟩;exact λe I=>⟨⟨by show Ex.all e none [];rw[Ex.all];trivial,.inl rfl,.inl rfl,.inl rfl,aV⟩,Wb e I⟩
theorem m2(b:Tt)(V3:b.fin)(k:Option Addr)(l:Nat)(a:World)(VW:Tt.all a k b.l)(F:GT a)(f:List Tt)(L:bB aX b=some (11,f))(VY:f.length=2)  (Q:∀g,Bw a g->∀(Wd:Nat) (A:Tt),f[Wd]?=some A->∀(Z:Option Addr) (Wa:Nat) (e:World),Tt.all e Z A.l->Bw g e->Calls prog 50 #[A.val Z Wa] e (PQ (b9 A) e)):Calls prog 50 #[b.val k l] a (PQ (bm 11 f (f.map b9)) a):=by
 obtain⟨V9,G⟩:=al (PQ (bm 11 f (f.map b9)) a);rw[<-G];have S:=VV G;have K:=Tt.af V3;obtain⟨j,i⟩:=bq ((a.alloc (.cells #[.int .i64 b.k,.string b.s,.slice k b.l.length (b.l.length+l)] 51)).alloc (.cells #[.int .i64 0,.string ⟨#[]⟩,.slice none 0 0,.slice none 0 0,.slice none 0 0,.slice none 0 0,.int .i64 0,.int .i64 0,.int .i64 0,.int .i64 0,.slice none 0 0] 28));have c:=ae (ar _ a) (.cells #[.int .i64 b.k,.string b.s,.slice k b.l.length (b.l.length+l)] 51);have y:Bw a j:=by rw[<-i];exact ae c _
 have V1:bp j (a.heap.size+1) VT:=by rw[<-i];have:=bp.new (a.alloc (.cells #[.int .i64 b.k,.string b.s,.slice k b.l.length (b.l.length+l)] 51)) VT 28;simpa using this
 have V:=VV V1;have V7:Hid (a.heap.size+1<j.heap.size):=by show _<_;rw[<-i];simp
 have Wu:j.cell? ⟨a.heap.size,0,none⟩=some (.int .i64 b.k):=by rw[<-i];simp[go_sem]
 have Wv:j.cell? ⟨a.heap.size,1,none⟩=some (.string b.s):=by rw[<-i];simp[go_sem]
 have Ww:j.cell? ⟨a.heap.size,2,none⟩=some (.slice k b.l.length (b.l.length+l)):=by rw[<-i];simp[go_sem]
 have O:=VV y;have Y:=VV i;have p:=bM bE aX aZ (by decide) (by decide) (ascii_of_all (by decide)) b K.2.1 k l j (Tt.ab _ VW y) (F.aa y);unfold bE at p;rw[L,Tt.ad] at p;have p:=VV p;have R:=VV λ(e:World)=>b5 11 (by decide) e;have P:=VV Q;obtain⟨WM,V4,_⟩:=cd L;have J:=K.2.2;rw[V4,Tt.ah] at J;have Wr:=VV J.2;have Ws:=VV λ(e:World) (I:Bw a e)=>F.aa I;have t:=VV VY;rw[Tt.ad];generalize b.l.length+l=Wt at *;generalize b.l.length=WK at *;clear y c V1 G i Q F VW L V3 K V4 J;have s:=VV λ(u:Option Addr) (E:Nat) (g:World) (m:Tt.all g u f) (Wc:Bw a g)=>db b9 f (by have:=U t;omega) u E g m (U P g Wc);rw[U t] at s;have D:Hid (V9=PQ ((a6 b9 f).map λV5=>.mk 11 ⟨#[]⟩ [] [] [] [] 0 0 0 0 V5) a):=by have:=U S;rw[cu];exact this
 obtain⟨We,VZ⟩:=al (a6 b9 f);rw[<-VZ] at s D;clear S P VZ VY;cases We with
 | none=>
  go_enter func50,ntmps50;go_upto_region 1 with fail;rw[U Y]
  go_wp2_with (first
   | (go_at_call 93;refine(U p).mono ?_;rintro o Wf ⟨c,u,E,rfl,m⟩;simp only[U t];have C:=VV (Tt.ab _ m c);have q:=VV (ac (U O) c);have W:=VV ((U V).aa c);have X:=VV c.size;clear c m)
   | (go_at_call 95;refine(U R _).mono ?_;rintro o N ⟨rfl,rfl⟩)
   | (go_at_call 94;refine(bc _).mono ?_;rintro o N ⟨rfl,rfl⟩)
   | (go_at_call 99;refine(U s _ _ _ (U C) (U q)).mono ?_;rintro o B ⟨r,rfl⟩))
  refine⟨rfl,?_⟩;rw[U D];exact⟨ac (U q) r,rfl⟩
 | some V5=>
  go_enter func50,ntmps50;go_upto_region 1 with fail;rw[U Y]
  go_wp2_with (first
   | (go_at_call 93;refine(U p).mono ?_;rintro o Wf ⟨c,u,E,rfl,m⟩;simp only[U t];have C:=VV (Tt.ab _ m c);have q:=VV (ac (U O) c);have W:=VV ((U V).aa c);have X:=VV c.size;clear c m)
   | (go_at_call 95;refine(U R _).mono ?_;rintro o N ⟨rfl,rfl⟩)
   | (go_at_call 94;refine(bc _).mono ?_;rintro o N ⟨rfl,rfl⟩)
   | (go_at_call 99;refine(U s _ _ _ (U C) (U q)).mono ?_;rintro o B ⟨r,WL,M,rfl,V0,VX⟩;obtain⟨w,x,rfl,V2⟩:=VX.pls;have d:=(U W).aa r;obtain⟨Wg,Wx⟩:=d 0 _ rfl;obtain⟨Wh,Wy⟩:=d 1 _ rfl;obtain⟨Wj,WA⟩:=d 2 _ rfl;obtain⟨Wk,WB⟩:=d 3 _ rfl;obtain⟨Wl,WC⟩:=d 4 _ rfl;obtain⟨Wm,WD⟩:=d 5 _ rfl;obtain⟨Wn,WE⟩:=d 6 _ rfl;obtain⟨Wo,WF⟩:=d 7 _ rfl;obtain⟨Wp,WG⟩:=d 8 _ rfl;obtain⟨Wq,WH⟩:=d 9 _ rfl;obtain⟨Wi,Wz⟩:=d 10 _ rfl;have V6:=VV (ac (U q) r);have V8:=VV V2;clear r d VX V2))
  refine aM (v:=.agg #[.int .i64 11,.string ⟨#[]⟩,.slice none 0 0,.slice none 0 0,.slice none 0 0,.slice none 0 0,.int .i64 0,.int .i64 0,.int .i64 0,.int .i64 0,.slice w (M.map Prod.fst).length x]) (by simp[results,results50,go_sem,Wg,Wh,Wj,Wk,Wl,Wm,Wn,Wo,Wp,Wq,Wi];rw[<-V0,VP]) rfl ?_;rw[U D];subst V0;have WI:=U V7;have WJ:=U X;refine⟨aJ (U V6) (Nat.le_succ _) _ _ _ _ _ _ _ _ _ _ _,⟨none,0,none,0,none,0,none,0,w,x⟩,rfl,?_⟩;have Wb:=((U V8).mono (T:=λn=>a.heap.size+1+1<=n/\n<B.heap.size) λn z=>⟨by have:=z.1;omega,z.2⟩).kept (bR B (a.heap.size+1) (.int .i64 11) (.string ⟨#[]⟩) (.slice none 0 0) (.slice none 0 0) (.slice none 0 0) (.slice none 0 0) (.int .i64 0) (.int .i64 0) (.int .i64 0) (.int .i64 0) (.slice w (M.map Prod.fst).length x)) (T:=λn=>a.heap.size<=n/\n<(((((((((((B.setCell ⟨a.heap.size+1,0,none⟩ (.int .i64 11)).setCell ⟨a.heap.size+1,1,none⟩ (.string ⟨#[]⟩)).setCell ⟨a.heap.size+1,2,none⟩ (.slice none 0 0)).setCell ⟨a.heap.size+1,3,none⟩ (.slice none 0 0)).setCell ⟨a.heap.size+1,4,none⟩ (.slice none 0 0)).setCell ⟨a.heap.size+1,5,none⟩ (.slice none 0 0)).setCell ⟨a.heap.size+1,6,none⟩ (.int .i64 0)).setCell ⟨a.heap.size+1,7,none⟩ (.int .i64 0)).setCell ⟨a.heap.size+1,8,none⟩ (.int .i64 0)).setCell ⟨a.heap.size+1,9,none⟩ (.int .i64 0)).setCell ⟨a.heap.size+1,10,none⟩ (.slice w (M.map Prod.fst).length x)).heap.size) λn z=>⟨by omega,be z.2 (by simp)⟩;exact λe I=>⟨⟨by show Ex.all e none [];rw[Ex.all];trivial,.inl rfl,.inl rfl,.inl rfl,aV⟩,Wb e I⟩
theorem o2(b:Tt)(V4:b.fin)(k:Option Addr)(l:Nat)(a:World)(VW:Tt.all a k b.l)(F:GT a)(e:List Tt)(L:bB aX b=some (8,e))(VY:e.length<=1000000)  (Q:∀g,Bw a g->∀(Wf:Nat) (z:Tt),e[Wf]?=some z->∀(Z:Option Addr) (Wc:Nat) (f:World),Tt.all f Z z.l->Bw g f->Calls prog 50 #[z.val Z Wc] f (PQ (b9 z) f)):Calls prog 50 #[b.val k l] a (PQ (bm 8 e (e.map b9)) a):=by
 obtain⟨Wb,G⟩:=al (PQ (bm 8 e (e.map b9)) a);rw[<-G];have S:=VV G;have K:=Tt.af V4;obtain⟨j,i⟩:=bq ((a.alloc (.cells #[.int .i64 b.k,.string b.s,.slice k b.l.length (b.l.length+l)] 51)).alloc (.cells #[.int .i64 0,.string ⟨#[]⟩,.slice none 0 0,.slice none 0 0,.slice none 0 0,.slice none 0 0,.int .i64 0,.int .i64 0,.int .i64 0,.int .i64 0,.slice none 0 0] 28));have c:=ae (ar _ a) (.cells #[.int .i64 b.k,.string b.s,.slice k b.l.length (b.l.length+l)] 51);have x:Bw a j:=by rw[<-i];exact ae c _
 have V2:bp j (a.heap.size+1) VT:=by rw[<-i];have:=bp.new (a.alloc (.cells #[.int .i64 b.k,.string b.s,.slice k b.l.length (b.l.length+l)] 51)) VT 28;simpa using this
 have V:=VV V2;have V8:Hid (a.heap.size+1<j.heap.size):=by show _<_;rw[<-i];simp
 have Ww:j.cell? ⟨a.heap.size,0,none⟩=some (.int .i64 b.k):=by rw[<-i];simp[go_sem]
 have Wx:j.cell? ⟨a.heap.size,1,none⟩=some (.string b.s):=by rw[<-i];simp[go_sem]
 have Wy:j.cell? ⟨a.heap.size,2,none⟩=some (.slice k b.l.length (b.l.length+l)):=by rw[<-i];simp[go_sem]
 have O:=VV x;have Y:=VV i;have p:=bM bE aX aZ (by decide) (by decide) (ascii_of_all (by decide)) b K.2.1 k l j (Tt.ab _ VW x) (F.aa x);unfold bE at p;rw[L,Tt.ad] at p;have p:=VV p;have R:=VV λ(f:World)=>b5 8 (by decide) f;have P:=VV Q;obtain⟨WP,V5,_⟩:=cd L;have J:=K.2.2;rw[V5,Tt.ah] at J;have Wt:=VV J.2;have Wu:=VV λ(f:World) (I:Bw a f)=>F.aa I;have V9:=VV VY;rw[Tt.ad];generalize b.l.length+l=Wv at *;generalize b.l.length=WN at *;clear x c V2 G i Q F VW L V4 K V5 J;obtain⟨WM,VZ⟩:=bq e.length;have C:=VV VZ;clear VY;have s:=VV λ(t:Option Addr) (E:Nat) (g:World) (m:Tt.all g t e) (We:Bw a g)=>db b9 e (by have:=U V9;omega) t E g m (U P g We);rw[U C] at s;have D:Hid (Wb=PQ ((a6 b9 e).map λV6=>.mk 8 ⟨#[]⟩ [] [] [] [] 0 0 0 0 V6) a):=by have:=U S;rw[cu];exact this
 obtain⟨Wg,V0⟩:=al (a6 b9 e);rw[<-V0] at s D;clear S P V0 VZ;cases Wg with
 | none=>
  go_enter func50,ntmps50;go_upto_region 1 with fail;rw[U Y]
  go_wp2_with (first
   | (go_at_call 93;refine(U p).mono ?_;rintro o Wh ⟨c,t,E,rfl,m⟩;simp only[U C];have B:=VV (Tt.ab _ m c);have q:=VV (ac (U O) c);have W:=VV ((U V).aa c);have X:=VV c.size;clear c m)
   | (go_at_call 95;refine(U R _).mono ?_;rintro o N ⟨rfl,rfl⟩)
   | (go_at_call 94;refine(bc _).mono ?_;rintro o N ⟨rfl,rfl⟩)
   | (go_at_call 99;refine(U s _ _ _ (U B) (U q)).mono ?_;rintro o A ⟨r,rfl⟩))
  refine⟨rfl,?_⟩;rw[U D];exact⟨ac (U q) r,rfl⟩
 | some V6=>
  go_enter func50,ntmps50;go_upto_region 1 with fail;rw[U Y]
  go_wp2_with (first
   | (go_at_call 93;refine(U p).mono ?_;rintro o Wh ⟨c,t,E,rfl,m⟩;simp only[U C];have B:=VV (Tt.ab _ m c);have q:=VV (ac (U O) c);have W:=VV ((U V).aa c);have X:=VV c.size;clear c m)
   | (go_at_call 95;refine(U R _).mono ?_;rintro o N ⟨rfl,rfl⟩)
   | (go_at_call 94;refine(bc _).mono ?_;rintro o N ⟨rfl,rfl⟩)
   | (go_at_call 99;refine(U s _ _ _ (U B) (U q)).mono ?_;rintro o A ⟨r,WO,M,rfl,V1,VX⟩;obtain⟨u,w,rfl,V3⟩:=VX.pls;have d:=(U W).aa r;obtain⟨Wi,Wz⟩:=d 0 _ rfl;obtain⟨Wj,WA⟩:=d 1 _ rfl;obtain⟨Wl,WC⟩:=d 2 _ rfl;obtain⟨Wm,WD⟩:=d 3 _ rfl;obtain⟨Wn,WE⟩:=d 4 _ rfl;obtain⟨Wo,WF⟩:=d 5 _ rfl;obtain⟨Wp,WG⟩:=d 6 _ rfl;obtain⟨Wq,WH⟩:=d 7 _ rfl;obtain⟨Wr,WI⟩:=d 8 _ rfl;obtain⟨Ws,WJ⟩:=d 9 _ rfl;obtain⟨Wk,WB⟩:=d 10 _ rfl;have V7:=VV (ac (U q) r);have Wa:=VV V3;clear r d VX V3))
  refine aM (v:=.agg #[.int .i64 8,.string ⟨#[]⟩,.slice none 0 0,.slice none 0 0,.slice none 0 0,.slice none 0 0,.int .i64 0,.int .i64 0,.int .i64 0,.int .i64 0,.slice u (M.map Prod.fst).length w]) (by simp[results,results50,go_sem,Wi,Wj,Wl,Wm,Wn,Wo,Wp,Wq,Wr,Ws,Wk];rw[<-V1,VP]) rfl ?_;rw[U D];subst V1;have WK:=U V8;have WL:=U X;refine⟨aJ (U V7) (Nat.le_succ _) _ _ _ _ _ _ _ _ _ _ _,⟨none,0,none,0,none,0,none,0,u,w⟩,rfl,?_⟩;have Wd:=((U Wa).mono (T:=λn=>a.heap.size+1+1<=n/\n<A.heap.size) λn y=>⟨by have:=y.1;omega,y.2⟩).kept (bR A (a.heap.size+1) (.int .i64 8) (.string ⟨#[]⟩) (.slice none 0 0) (.slice none 0 0) (.slice none 0 0) (.slice none 0 0) (.int .i64 0) (.int .i64 0) (.int .i64 0) (.int .i64 0) (.slice u (M.map Prod.fst).length w)) (T:=λn=>a.heap.size<=n/\n<(((((((((((A.setCell ⟨a.heap.size+1,0,none⟩ (.int .i64 8)).setCell ⟨a.heap.size+1,1,none⟩ (.string ⟨#[]⟩)).setCell ⟨a.heap.size+1,2,none⟩ (.slice none 0 0)).setCell ⟨a.heap.size+1,3,none⟩ (.slice none 0 0)).setCell ⟨a.heap.size+1,4,none⟩ (.slice none 0 0)).setCell ⟨a.heap.size+1,5,none⟩ (.slice none 0 0)).setCell ⟨a.heap.size+1,6,none⟩ (.int .i64 0)).setCell ⟨a.heap.size+1,7,none⟩ (.int .i64 0)).setCell ⟨a.heap.size+1,8,none⟩ (.int .i64 0)).setCell ⟨a.heap.size+1,9,none⟩ (.int .i64 0)).setCell ⟨a.heap.size+1,10,none⟩ (.slice u (M.map Prod.fst).length w)).heap.size) λn y=>⟨by omega,be y.2 (by simp)⟩;exact λf I=>⟨⟨by show Ex.all f none [];rw[Ex.all];trivial,.inl rfl,.inl rfl,.inl rfl,aV⟩,Wd f I⟩
end Go.Proofs.YtabmgpillccfaaaGreatDoor
