import Derived.Maps.AppendAt
import Derived.Deep.AppendLies
import Derived.Test.YtklgoolblpmmlaaGreatStA
set_option linter.all false
set_option maxHeartbeats 2000000
set_option maxRecDepth 100000
namespace Go.Proofs.YtklgoolblpmmlaaGreat
open Go.RowKit Go.Sort Go.Proofs.Tryz
theorem Tryz.a6:(Tryz.prog.info? 5).map (λa=>(a.zero,a.size,a.bytes))=some (some (.int .u8 0),1,1):=by kernel_rfl
def iN(c:World)(base:Nat)(b:Value)(a:List Int):Prop:=c.ownsRow base 5 1 b a.length (a.map (Value.int .u8))
def eH(d e:World)(b c:Value):Prop:=d.grownBy e b.ownBlock/\(c.ownBlock=b.ownBlock∨∃a,c.ownBlock=some a/\d.heap.size<=a)
theorem eH.refl(b:World)(a:Value):eH b b a a:=⟨⟨rfl,rfl,rfl,bi,λ_ _ _=>rfl⟩,.inl rfl⟩
variable{W X w:World}{u v:Value}{j k m n:Nat}{C:List Int}{y:List aH}{I J:Int}{c:aH}{A B r:List (List aH)}
theorem eH.trans{x:Value}(h:eH w W v u)(l:eH W X u x):eH w X v x:=by
 obtain⟨b,a⟩:=h;obtain⟨d,c⟩:=l;refine⟨⟨d.os.trans b.os,d.tape.trans b.tape,d.output.trans b.output,cw b.size d.size,λj g i=>?_⟩,?_⟩;.rw[d.block j (cN g b.size) ?_,b.block j g i];rcases a with a|⟨e,a,f⟩;(.rw[a];exact i);.rw[a];intro k;cases k;omega
 .rcases c with c|⟨e,c,f⟩;(.rcases a with a|⟨e,a,f⟩;(.exact .inl (c.trans a));.exact .inr ⟨e,c.trans a,f⟩);.exact .inr ⟨e,c,cw b.size f⟩
theorem eH.app{x:Value}{b:Obj}(h:eH w W v u)(a:(W.alloc b).grownBy X u.ownBlock)(d:x.ownBlock=u.ownBlock∨x.ownBlock=some (W.alloc b).heap.size):eH w X v x:=by
 refine h.trans ⟨⟨a.os,a.tape,a.output,?_,λc e f=>?_⟩,?_⟩;.have:=a.size;simp at this;omega
 .rw[a.block c (by simp;omega) f,Below.heap_alloc W b c e]
 .rcases d with h|h;(.exact .inl h);.exact .inr ⟨_,h,by simp⟩
theorem eH.app2{x:Value}{o o2:Obj}(a:((w.alloc o).alloc o2).grownBy W v.ownBlock)(c:x.ownBlock=v.ownBlock∨x.ownBlock=some ((w.alloc o).alloc o2).heap.size):eH w W v x:=by
 refine⟨⟨a.os,a.tape,a.output,?_,λb d e=>?_⟩,?_⟩;.have:=a.size;simp at this;omega
 .rw[a.block b (by simp;omega) e,Below.heap_alloc _ o2 b (by simp;omega),Below.heap_alloc w o b d]
 .rcases c with h|h;(.exact .inl h);.exact .inr ⟨_,h,by simp;omega⟩
theorem eH.below(h:eH w W v u)(e:n<=w.heap.size)(d:∀a,v.ownBlock=some a->n<=a):Below n w W:=
 ⟨h.1.os,h.1.tape,h.1.output,h.1.size,λb f=>h.1.block b (by omega) (λc=>by have:=d b c.symm;omega)⟩
theorem fU{base:Nat}{news:List Int}(a:news.length=n)(h:w.ownsRow base 5 1 v (C.length+n) (C.map (Value.int .u8)++news.map (Value.int .u8))):iN w base v (C++news):=by unfold iN;rw[bG,ep,a];exact h
def be(a:Int)(b:Nat):Int:=a / 2 ^ (56-8*b) % 256
def t8(a:Int)(b:Nat):List Int:=(List.range b).map (be a)
theorem zM(a:Int)(b:Nat):t8 a (b+1)=t8 a b++[be a b]:=by simp[t8,List.range_succ]
theorem va(b:Int)(a:Nat):(t8 b a).length=a:=by simp[t8]
def kO(a:Int):Int:=bits BinOp.xor IntKind.u64 (IntKind.u64.wrap a) 9223372036854775808
def eg:List UInt8->List Int
 | []=>[]
 | a::b=>(a.toNat:Int)::(if a.toNat=0 then 255::eg b else eg b)
theorem lw(a b:List UInt8):eg (a++b)=eg a++eg b:=by
 induction a with
 | nil=>rfl
 | cons d a c=>simp only[eL,eg,c];split<;>simp
theorem rX(a:List UInt8):(eg a).length<=2*a.length:=by
 induction a with
 | nil=>simp[eg]
 | cons b a c=>simp only[eg];split<;>simp<;>omega
theorem n5(b:ByteArray)(a:Nat)(h:a<b.size):b.data.toList.take (a+1)=b.data.toList.take a++[b[a]]:=by rw[List.take_succ_eq_append_getElem (by simpa using h)];rfl
theorem y6(b:ByteArray)(a:Nat)(h:a<b.size)(c:(b[a].toNat:Int)=0):eg (b.data.toList.take (a+1))=eg (b.data.toList.take a)++[(b[a].toNat:Int),255]:=by
 have:b[a].toNat=0:=by omega
 rw[n5 b a h,lw];simp[eg,this]
theorem wF(b:ByteArray)(a:Nat)(h:a<b.size)(c:¬(b[a].toNat:Int)=0):eg (b.data.toList.take (a+1))=eg (b.data.toList.take a)++[(b[a].toNat:Int)]:=by
 have:¬b[a].toNat=0:=by omega
 rw[n5 b a h,lw];simp[eg,this]
theorem lT{base:Nat}(h:iN w base v C)(a:v.ownBlock=some n):base<=n/\n<w.heap.size:=World.ownsRow.lt h n a
theorem sm{base:Nat}{c d:Obj}(h:iN w base v C)(f:(((w.alloc c).alloc d).drew).grownBy W v.ownBlock)(b:Nat):W.cell? ⟨w.heap.size,b,none⟩=(w.alloc c).cell? ⟨w.heap.size,b,none⟩:=by refine World.cell?_of_block (a:=⟨w.heap.size,b,none⟩) ?_;rw[f.block w.heap.size (by simp;omega) (λe=>by have:=(lT h e.symm).2;omega)];exact Below.heap_alloc (w.alloc c) d w.heap.size (by simp)
theorem oV{b c:Obj}{n cap:Nat}(a:(((w.alloc b).alloc c).drew).grownBy W v.ownBlock)(d:v.ownBlock=some m∨m=w.heap.size+1+1):eH w W v (.slice (some ⟨m,0,none⟩) n cap):=by
 refine eH.app2 (o:=b) (o2:=c) ⟨a.os,a.tape,a.output,a.size,a.block⟩ ?_;rcases d with h|h;.exact .inl h.symm
 .exact .inr (by rw[h];simp[Value.ownBlock])
theorem uA(b:∀n,v.ownBlock=some n->n<j)(a:v.ownBlock=some n∨n=j+1+1):(Value.slice (some ⟨n,0,none⟩) m k).ownBlock≠some j:=by
 rcases a with h|h;.have:=b _ h;simp[Value.ownBlock];omega
 .simp[Value.ownBlock];omega
theorem oW(h:eH w W v u)(d:n<w.heap.size)(e:v.ownBlock≠some n)(b:Nat):W.cell? ⟨n,b,none⟩=w.cell? ⟨n,b,none⟩:=
 World.cell?_of_block (a:=⟨n,b,none⟩) (h.1.block n d (λc=>e c.symm))
def g1(x:aH):List Int:=
 if x.k == 1 then 2::t8 (kO x.n) 8 else if x.k == 2 then 3::(eg x.s.data.toList++[0,1]) else [1]
def po(x:aH):Nat:=16+2*x.s.size
theorem ub(base:Nat)(c:List Int)(b:Int)(e:Value)(d:World)(w:iN d base e c)(G:c.length<=140737488300000)(E:base<=d.heap.size):Calls prog 97 #[e,.int .i64 b] d λp o=>∃f,p=.returned f/\iN o base f (c++t8 (kO b) 8)/\eH d o e f:=by
 obtain⟨B,u,y,z,A⟩:=info_parts Tryz.a6;have C:=H (rfl:kO b=bits BinOp.xor IntKind.u64 (IntKind.u64.wrap b) 9223372036854775808);go_enter func97,ntmps97;go_wp2_with fail;go_loopw[0,6] (λkey i wr=>∃a:Nat,a<=8/\i=.int .i64 (56-8*(a:Int))/\iN wr base key (c++t8 (kO b) a)/\eH d wr e key) (λ_ i _=>(intOf i+8).toNat);case atStart=>exact⟨0,bt,rfl,by simpa [t8] using w,eH.refl _ _⟩
 case round=>obtain⟨a,F,rfl,l,g⟩:=hrel;by_cases D:a<8;(·(have q:(0:Int)<=56-8*(a:Int):=by omega);(have k:(c++t8 (kO b) a).length=c.length+a:=by rw[bG,va]);have j:=H k;clear k;go_wp2_with (at_builtin;refine wpList_append_own_at _ rfl (.tmp 14) (.tmp 19) 101 rfl base 5 B (.int .u8 0) 1 1 underlying101 u y z A rfl (by decide) _ _ _ rfl (World.ownsRow.alloc l _) ⟨wr.heap.size,0,none⟩ 1 1 [.int .u8 (be (kO b) a)] rfl rfl (cell_one_new _ _ _) (by intro I n;simp at n;subst n;rfl) (by rw[U j];unfold maxLen;omega) (by rw[U j];omega) (by have:=g.1.size;simp;omega) ?_;intro f J x t _ r);have s:=eH.app g t r;have m:=fU (news:=[be (kO b) a]) rfl x;rw[cI,<-zM] at m;refine⟨⟨a+1,by omega,by go_num,m,s⟩,?_⟩;simp only[intOf];omega);·(have v:a=8:=by omega);(have q:¬(0:Int)<=56-8*(a:Int):=by omega);subst v;go_wp2;go_ret;exact⟨_,rfl,l,g⟩
theorem sp(base:Nat)(j:List Int)(b:ByteArray)(w:Value)(p:World)(R:iN p base w j)(Z:j.length+2*b.size<=140737488300000)(X:base<=p.heap.size):Calls prog 98 #[w,.string b] p λL K=>∃B,L=.returned B/\iN K base B (j++(eg b.data.toList++[0,1]))/\eH p K w B:=by
 obtain⟨u,q,r,s,t⟩:=info_parts Tryz.a6;have VW:(b.size:Int)<=140737488300000:=by omega
 go_enter func98,ntmps98;go_wp2_with fail;go_loopw[0,8] (λkey A wr=>∃a:Nat,a<=b.size/\A=.int .i64 a/\iN wr base key (j++eg (b.data.toList.take a))/\eH p wr w key) (λ_ A _=>b.size-(intOf A).toNat);case atStart=>exact⟨0,bt,rfl,by simpa [eg] using R,eH.refl _ _⟩
 case round=>
  obtain⟨a,Y,rfl,y,l⟩:=hrel;have G:(j++eg (b.data.toList.take a)).length<=j.length+2*a:=by rw[bG];have V:=rX (b.data.toList.take a);have W:(b.data.toList.take a).length<=a:=List.length_take_le _ _;omega
  have e:=H G;clear G;by_cases D:a<b.size
  ·(have N:(a:Int)<(b.size:Int):=by omega);by_cases k:(b[a].toNat:Int)=0
   ·(have M:((b[a].toNat:Int) == 0)=true:=by simpa using k);have o:=H (y6 b a D k);clear k
    go_wp2_with (first
     | (at_builtin;refine wpList_append_own_at _ rfl (.tmp 11) (.tmp 15) 101 rfl base 5 u (.int .u8 0) 1 1 underlying101 q r s t rfl (by decide) _ _ _ rfl (World.ownsRow.alloc y _) ⟨wr.heap.size,0,none⟩ 1 1 [.int .u8 (b[a].toNat:Int)] rfl rfl (cell_one_new _ _ _) (by intro v c;simp at c;subst c;rfl) (by have:=U e;unfold maxLen;omega) (by have:=U e;omega) (by have:=l.1.size;simp;omega) ?_;intro C x i g _ f;have m:=eH.app l g f;have n:=fU (news:=[(b[a].toNat:Int)]) rfl i;clear i g f)
     | (at_builtin;refine wpList_append_own_at _ rfl (.tmp 21) (.tmp 22) 101 rfl base 5 u (.int .u8 0) 1 1 underlying101 q r s t rfl (by decide) _ _ _ rfl (World.ownsRow.alloc n _) ⟨x.heap.size,0,none⟩ 1 1 [.int .u8 255] rfl rfl (cell_one_new _ _ _) (by intro v c;simp at c;subst c;rfl) (by have:=U e;rw[bG];unfold maxLen;simp only[dY,List.length_nil];omega) (by have:=U e;rw[bG];simp only[dY,List.length_nil];omega) (by have:=m.1.size;simp;omega) ?_;intro S T I F _ E;have O:=eH.app m F E;have Q:=fU (news:=[255]) rfl I;clear I F E))
    (have z:iN T base S (j++eg (b.data.toList.take (a+1))):=by rw[U o];simpa using Q);go_roundw;(case rel=>exact⟨a+1,by omega,by go_num,z,O⟩);case measure=>simp[intOf];omega
   ·(have M:((b[a].toNat:Int) == 0)=false:=by simpa using k);have o:=H (wF b a D k);clear k;go_wp2_with (at_builtin;refine wpList_append_own_at _ rfl (.tmp 11) (.tmp 15) 101 rfl base 5 u (.int .u8 0) 1 1 underlying101 q r s t rfl (by decide) _ _ _ rfl (World.ownsRow.alloc y _) ⟨wr.heap.size,0,none⟩ 1 1 [.int .u8 (b[a].toNat:Int)] rfl rfl (cell_one_new _ _ _) (by intro v c;simp at c;subst c;rfl) (by have:=U e;unfold maxLen;omega) (by have:=U e;omega) (by have:=l.1.size;simp;omega) ?_;intro C x i g _ f;have m:=eH.app l g f;have n:=fU (news:=[(b[a].toNat:Int)]) rfl i;clear i g f);(have z:iN x base C (j++eg (b.data.toList.take (a+1))):=by rw[U o];simpa using n);go_roundw;(case rel=>exact⟨a+1,by omega,by go_num,z,m⟩);case measure=>simp[intOf];omega
  ·(have P:a=b.size:=by omega);(have N:¬(a:Int)<(b.size:Int):=by omega);have o:Hid (b.data.toList.take a=b.data.toList):=fz (by simp;omega);clear P;go_wp2_with (at_builtin;refine wpList_append_own_at _ rfl (.tmp 25) (.tmp 26) 101 rfl base 5 u (.int .u8 0) 1 1 underlying101 q r s t rfl (by decide) _ _ _ rfl (World.ownsRow.alloc y _) ⟨wr.heap.size,0,none⟩ 2 2 [.int .u8 0,.int .u8 1] rfl rfl ?_ (by intro v c;simp at c;rcases c with rfl|rfl<;>rfl) (by have:=U e;unfold maxLen;omega) (by have:=U e;omega) (by have:=l.1.size;simp;omega) ?_;rotate_right;intro C x i g _ f;have m:=eH.app l g f;have n:=fU (news:=[0,1]) rfl i;clear i g f);.go_ret;exact⟨_,rfl,by rw[U o,cI] at n;exact n,m⟩
   all_goals
    intro J v d
    match J,d with
    | 0,d=>simp at d;subst d;simp[Addr.add,go_sem]
    | 1,d=>simp at d;subst d;simp[Addr.add,go_sem]
    | J+2,d=>simp at d
theorem ua(base:Nat)(c:List Int)(x:aH)(k:Value)(a:World)(j:iN a base k c)(M:c.length+po x<=140737488300000)(P:base<=a.heap.size):Calls prog 52 #[k,x.v] a λA m=>∃J,A=.returned J/\iN m base J (c++g1 x)/\eH a m k J:=by
 obtain⟨G,B,D,E,F⟩:=info_parts Tryz.a6;unfold po at M;rw[x.open_];rcases dp (x.k == 1) with w|w
 .have o:Hid (g1 x=2::t8 (kO x.n) 8):=by show _=_;simp[g1,w]
  have s:∀d,k.ownBlock=some d->d<a.heap.size:=λd h=>(lT j h).2;have z:=H s;clear s;go_enter func52,ntmps52;go_wp2_with fail
  go_region_held3 (λm=>m.cell? ⟨a.heap.size,1,none⟩=some (.int .i64 x.n)) (first|assumption|go_keep)
   (first
    | ((refine step_append_lies _ (by rfl) (.tmp 9) (.tmp 10) 101 (by rfl) base 5 G (.int .u8 0) 1 1 underlying101 B D E F (by rfl) (by decide) k c.length (c.map (Value.int .u8)) (by rfl) (World.ownsRow.drew (World.ownsRow.alloc (World.ownsRow.alloc j _) _)) ⟨a.heap.size+1,0,none⟩ 1 1 [.int .u8 2] (by rfl) (by rfl) (by intro u v b;match u,b with|0,b=>(simp at b;subst b;simp[Addr.add,go_sem])) (by intro v g;simp at g;subst g;rfl) (by decide) (by unfold maxLen;omega) (by omega) (by simp;omega) (a.heap.size+1+1) (by simp) ?_;intro d p y l f e N;have q:y.cell? ⟨a.heap.size,1,none⟩=some (.int .i64 x.n):=(sm j f 1).trans (by simp[go_sem]);have i:=oV (n:=c.length+1) (cap:=p) f e;have t:=fU (news:=[2]) rfl l))
    | (go_at_call 97;refine(ub base (c++[2]) x.n _ _ t ?_ ?_).mono ?_;(rw[bG];simp only[dY,List.length_nil];omega);(have:=i.1.size;omega);rintro A K ⟨O,rfl,C,r⟩;have L:K.cell? ⟨a.heap.size,1,none⟩=some (.int .i64 x.n):=(oW r (ck _ _ q) (uA (U z) e) 1).trans q))
  go_wp2;go_ret;exact⟨_,rfl,by rw[U o];simpa using C,i.trans r⟩
 .rcases dp (x.k == 2) with I|I
  ·(have o:Hid (g1 x=3::(eg x.s.data.toList++[0,1])):=by show _=_;simp[g1,w,I]);have s:∀d,k.ownBlock=some d->d<a.heap.size:=λd h=>(lT j h).2;have z:=H s;clear s;go_enter func52,ntmps52;go_wp2_with fail
   go_region_held3 (λm=>m.cell? ⟨a.heap.size,2,none⟩=some (.string x.s)) (first|assumption|go_keep)
    (first
     | ((refine step_append_lies _ (by rfl) (.tmp 17) (.tmp 18) 101 (by rfl) base 5 G (.int .u8 0) 1 1 underlying101 B D E F (by rfl) (by decide) k c.length (c.map (Value.int .u8)) (by rfl) (World.ownsRow.drew (World.ownsRow.alloc (World.ownsRow.alloc j _) _)) ⟨a.heap.size+1,0,none⟩ 1 1 [.int .u8 3] (by rfl) (by rfl) (by intro u v b;match u,b with|0,b=>(simp at b;subst b;simp[Addr.add,go_sem])) (by intro v g;simp at g;subst g;rfl) (by decide) (by unfold maxLen;omega) (by omega) (by simp;omega) (a.heap.size+1+1) (by simp) ?_;intro d p y l f e N;have q:y.cell? ⟨a.heap.size,2,none⟩=some (.string x.s):=(sm j f 2).trans (by simp[go_sem]);have i:=oV (n:=c.length+1) (cap:=p) f e;have t:=fU (news:=[3]) rfl l))
     | (go_at_call 98;refine(sp base (c++[3]) x.s _ _ t ?_ ?_).mono ?_;(rw[bG];simp only[dY,List.length_nil];omega);(have:=i.1.size;omega);rintro A K ⟨O,rfl,C,r⟩;have L:K.cell? ⟨a.heap.size,2,none⟩=some (.string x.s):=(oW r (ck _ _ q) (uA (U z) e) 2).trans q))
   go_wp2;go_ret;exact⟨_,rfl,by rw[U o];simpa using C,i.trans r⟩
  ·(have o:Hid (g1 x=[1]):=by show _=_;simp[g1,w,I]);go_enter func52,ntmps52;go_wp2_with (at_builtin;refine wpList_append_own_at _ rfl (.tmp 23) (.tmp 24) 101 rfl base 5 G (.int .u8 0) 1 1 underlying101 B D E F rfl (by decide) _ _ _ rfl (World.ownsRow.alloc (World.ownsRow.alloc j _) _) ⟨a.heap.size+1,0,none⟩ 1 1 [.int .u8 1] rfl rfl (by intro u v b;match u,b with|0,b=>(simp at b;subst b;simp[Addr.add,go_sem])) (by intro v g;simp at g;subst g;rfl) (by unfold maxLen;omega) (by omega) (by simp;omega) ?_;intro Q y l f _ e;have i:=eH.app2 f e;have t:=fU (news:=[1]) rfl l;clear l f e);go_ret;exact⟨_,rfl,by rw[U o];exact t,i⟩
def xC(c:List Int):ByteArray:=c.foldl (λb a=>b.push (UInt8.ofNat a.toNat)) ByteArray.empty
theorem r3{base:Nat}(h:iN w base v C):(convert 101 9 v).run prog w=.ok (.string (xC C)) w:=by
 rcases h.2 with ⟨rfl,b⟩|⟨a,c,d,rfl,e,f,_⟩
 .have:C=[]:=dF b;subst this;rw[run_convert_bytes_string w 101 9 5 none 0 0 underlying101 underlying5 underlying9];rfl
 .rw[run_convert_bytes_string w 101 9 5 _ _ _ underlying101 underlying5 underlying9];refine run_bytesToString w _ _ _ C ?_;have:=run_loadCells_list (P:=prog) (w:=w) ⟨a,0,none⟩ (C.map (Value.int .u8)) (World.ownsRow.cells h rfl);simpa using this
def gJ(a:List aH):List Int:=a.flatMap g1
theorem we{x:aH}(h:y[n]?=some x):gJ (y.take (n+1))=gJ (y.take n)++g1 x:=by obtain⟨a,rfl⟩:=bD h;unfold gJ;rw[List.take_succ_eq_append_getElem a,List.flatMap_append,eA,List.flatMap_nil,VI]
def Vw(a:List aH):Nat:=(a.map po).sum
theorem y7(x:aH):(g1 x).length<=po x:=by
 unfold g1 po;split;.simp[va];omega
 .split;(.have:=rX x.s.data.toList;simp at this;simp;omega);.simp;omega
theorem rC(a:List aH):(gJ a).length<=Vw a:=by
 induction a with
 | nil=>simp[gJ,Vw]
 | cons b a c=>have:=y7 b;simp only[gJ,Vw,eA,bG,dX,List.sum_cons] at *;omega
theorem sG{x:aH}(h:y[n]?=some x):Vw (y.take n)+po x<=Vw y:=by
 obtain⟨c,rfl⟩:=bD h;have a:y=y.take n++y[n]::y.drop (n+1):=by rw[<-gP c,List.take_append_drop]
 have b:Vw y=Vw (y.take n++y[n]::y.drop (n+1)):=congrArg Vw a;rw[b];simp only[Vw,ep,dX,List.sum_append,List.sum_cons];omega
theorem A5(m:Option Addr)(t:Nat)(a:List aH)(c:World)(B:a.length<=maxLen)(O:Vw a<=140737488300000)(v:bX c m a):Calls prog 31 #[.slice m a.length t] c λd E=>d=.returned (.string (xC (gJ a)))/\Bw c E:=by
 unfold maxLen at B;go_enter func31,ntmps31;go_wp2_with fail;go_loopw[3,8] (λkey l wr=>∃b:Nat,b<=a.length/\l=.int .i64 b/\iN wr c.heap.size key (gJ (a.take b))/\Bw c wr) (λ_ l R=>a.length-(intOf l).toNat);case atStart=>exact⟨0,bt,rfl,World.ownsRow_nil _ _ _ _,VS⟩
 case round=>obtain⟨b,N,rfl,k,e⟩:=hrel;have w:=v.aa e;by_cases j:b<a.length;(.obtain⟨f,g⟩:∃f,a[b]?=some f:=⟨_,VR j⟩;rcases w with d|⟨G,P,rfl,n⟩;(.subst d;simp at j);obtain⟨I,J,K⟩:=n b f g;(have D:(b:Int)<(a.length:Int):=by omega);have s:=H (we g);(have o:(gJ (a.take b)).length+po f<=140737488300000:=by have j:=rC (a.take b);have M:=sG g;omega);have q:=H (λi (u:iN i c.heap.size u3 (gJ (a.take b))) (C:c.heap.size<=i.heap.size)=>ua c.heap.size (gJ (a.take b)) f u3 i u o C);clear n g o;go_wp2_with (go_at_call 52;refine(U q _ ?_ ?_).mono ?_;(exact World.ownsRow.alloc k _);(have:=e.size;simp;omega);rintro d F ⟨Q,rfl,p,A⟩);have x:Bw c F:=(am e _).trans (A.below (by have:=e.size;simp;omega) (λL z=>(lT k z).1));rw[<-U s] at p;go_roundw;(case rel=>exact⟨b+1,by omega,by go_num,p,x⟩);case measure=>simp[intOf];omega);·(have d:b=a.length:=by omega);(have D:¬(b:Int)<(a.length:Int):=by omega);have r:Hid (a.take b=a):=fz (by omega);have y:=r3 k;rw[U r] at y;clear d;go_wp2;go_ret;exact⟨rfl,e⟩
def AR(a:Int):UInt8:=UInt8.ofNat a.toNat
theorem xA(b:List Int):∀a:ByteArray,b.foldl (λe d=>e.push (UInt8.ofNat d.toNat)) a=⟨a.data++(b.map AR).toArray⟩:=by
 induction b with
 | nil=>intro a;simp
 | cons f b c=>intro a;rw[List.foldl_cons,c];congr 1;simp[ByteArray.push,AR]
theorem xB(a:List Int):xC a=⟨(a.map AR).toArray⟩:=by unfold xC;rw[xA];show ByteArray.mk (#[]++_)=_;rw[Array.empty_append]
theorem z2(a:Nat)(h:a<18446744073709551616):a ^^^ 9223372036854775808=(a+9223372036854775808) % 18446744073709551616:=by
 have c:(a ^^^ 9223372036854775808) / 2 ^ 63=a / 2 ^ 63 ^^^ 9223372036854775808 / 2 ^ 63:=Nat.xor_div_two_pow;have d:(a ^^^ 9223372036854775808) % 2 ^ 63=a % 2 ^ 63 ^^^ 9223372036854775808 % 2 ^ 63:=Nat.xor_mod_two_pow;have e:9223372036854775808 / 2 ^ 63=1:=by decide
 have f:9223372036854775808 % 2 ^ 63=0:=by decide
 rw[e] at c;rw[f,Nat.xor_zero] at d;have g:a / 2 ^ 63=0∨a / 2 ^ 63=1:=by omega
 have i:=Nat.div_add_mod (a ^^^ 9223372036854775808) (2 ^ 63);rcases g with b|b;.rw[b] at c;(have:(0 ^^^ 1:Nat)=1:=by decide);omega
 .rw[b] at c;(have:(1 ^^^ 1:Nat)=0:=by decide);omega
theorem Uu(x:Int)(b:0<=x)(h:x<18446744073709551616):bits BinOp.xor IntKind.u64 x 9223372036854775808=(x+9223372036854775808) % 18446744073709551616:=by obtain⟨a,rfl⟩:=Int.eq_ofNat_of_zero_le b;have:=bits_xor_u64_nat a 9223372036854775808 (by omega) (by omega);rw[show (9223372036854775808:Int)=((9223372036854775808:Nat):Int) from rfl,this,z2 a (by omega)];omega
theorem uF(a:Int)(h:bY a):kO a=a+9223372036854775808:=by unfold kO bY at *;rw[IntKind.wrap_u64,Uu _ (by omega) (by omega)];omega
def fJ:List Int->List Int->Int
 | [],[]=>0
 | [],_::_=>-1
 | _::_,[]=>1
 | a::c,b::d=>if a<b then -1 else if b<a then 1 else fJ c d
def sB(a:Int):Prop:=0<=a/\a<256
theorem yo(a:sB I)(b:sB J):(AR I<AR J) ↔ I<J:=by unfold sB at *;rw[UInt8.lt_iff_toNat_lt];simp[AR];omega
theorem nj:∀(b c:List Int),(∀a∈b,sB a)->(∀a∈c,sB a)->Lib.compareBytes (b.map AR) (c.map AR)=fJ b c
 | [],[],_,_=>rfl
 | [],_::_,_,_=>rfl
 | _::_,[],_,_=>rfl
 | j::b,k::c,g,i=>by have e:=g j (by simp);have f:=i k (by simp);have l:=nj b c (λa d=>g a (by simp[d])) (λa d=>i a (by simp[d]));simp only[dX,Lib.compareBytes,fJ,yo e f,yo f e,l]
theorem C6(a:Int):be a 0=a / 72057594037927936 % 256/\be a 1=a / 281474976710656 % 256/\be a 2=a / 1099511627776 % 256/\be a 3=a / 4294967296 % 256/\be a 4=a / 16777216 % 256/\be a 5=a / 65536 % 256/\be a 6=a / 256 % 256/\be a 7=a % 256:=by refine⟨?_,?_,?_,?_,?_,?_,?_,?_⟩<;>simp[be]
theorem zL(a:Int)(k:0<=a)(h:a<18446744073709551616):a=be a 0*72057594037927936+be a 1*281474976710656+be a 2*1099511627776+be a 3*4294967296+be a 4*16777216+be a 5*65536+be a 6*256+be a 7:=by obtain⟨b,c,d,e,f,g,i,j⟩:=C6 a;omega
theorem ew(a:Int)(b:Nat):sB (be a b):=by unfold sB be;omega
theorem zN(a:Int):t8 a 8=[be a 0,be a 1,be a 2,be a 3,be a 4,be a 5,be a 6,be a 7]:=rfl
theorem Bt(a b:Int)(L:0<=a)(M:a<18446744073709551616)(g0:0<=b)(K:b<18446744073709551616)(e f:List Int):fJ (t8 a 8++e) (t8 b 8++f)=if dI a b=0 then fJ e f else dI a b:=by
 have N:=zL a L M;have O:=zL b g0 K;rw[zN,zN];have P:=ew a 0;have Q:=ew a 1;have R:=ew a 2;have S:=ew a 3;have T:=ew a 4;have V:=ew a 5;have W:=ew a 6;have X:=ew a 7;have Y:=ew b 0;have Z:=ew b 1;have VW:=ew b 2;have VX:=ew b 3;have VY:=ew b 4;have VZ:=ew b 5;have V0:=ew b 6;have V1:=ew b 7;generalize be a 0=g at *;generalize be a 1=i at *;generalize be a 2=j at *;generalize be a 3=k at *;generalize be a 4=l at *;generalize be a 5=m at *;generalize be a 6=n at *;generalize be a 7=o at *;generalize be b 0=p at *;generalize be b 1=q at *;generalize be b 2=r at *;generalize be b 3=s at *;generalize be b 4=t at *;generalize be b 5=u at *;generalize be b 6=v at *;generalize be b 7=w at *;unfold sB at *;have d:a<b->(if dI a b=0 then fJ e f else dI a b)=-1:=by intro h;simp[dI,h]
 have c:b<a->(if dI a b=0 then fJ e f else dI a b)=1:=by intro h;(have:¬a<b:=by omega);simp[dI,h,this]
 have J:a=b->(if dI a b=0 then fJ e f else dI a b)=fJ e f:=by intro h;simp[h,o6]
 simp only[eL,dK,fJ];by_cases x:g<p;.rw[ba x,d (by omega)]
 rw[VU x];by_cases A:p<g;.rw[ba A,c (by omega)]
 rw[VU A];by_cases p1:i<q;.rw[ba p1,d (by omega)]
 rw[VU p1];by_cases B:q<i;.rw[ba B,c (by omega)]
 rw[VU B];by_cases p2:j<r;.rw[ba p2,d (by omega)]
 rw[VU p2];by_cases C:r<j;.rw[ba C,c (by omega)]
 rw[VU C];by_cases p3:k<s;.rw[ba p3,d (by omega)]
 rw[VU p3];by_cases D:s<k;.rw[ba D,c (by omega)]
 rw[VU D];by_cases p4:l<t;.rw[ba p4,d (by omega)]
 rw[VU p4];by_cases E:t<l;.rw[ba E,c (by omega)]
 rw[VU E];by_cases p5:m<u;.rw[ba p5,d (by omega)]
 rw[VU p5];by_cases F:u<m;.rw[ba F,c (by omega)]
 rw[VU F];by_cases y:n<v;.rw[ba y,d (by omega)]
 rw[VU y];by_cases G:v<n;.rw[ba G,c (by omega)]
 rw[VU G];by_cases z:o<w;.rw[ba z,d (by omega)]
 rw[VU z];by_cases I:w<o;.rw[ba I,c (by omega)]
 rw[VU I,J (by omega)]
theorem r8:∀(d e:List UInt8) (g i:List Int),fJ (eg d++0::1::g) (eg e++0::1::i)=if Lib.compareBytes d e=0 then fJ g i else Lib.compareBytes d e
 | [],[],g,i=>by simp[eg,fJ,Lib.compareBytes]
 | [],b::e,g,i=>by by_cases j:b.toNat=0;(.simp[eg,j,fJ,Lib.compareBytes]);·(have:(0:Int)<(b.toNat:Int):=by omega);simp[eg,j,fJ,Lib.compareBytes,this]
 | a::d,[],g,i=>by by_cases c:a.toNat=0;(.simp[eg,c,fJ,Lib.compareBytes]);·(have f:(0:Int)<(a.toNat:Int):=by omega);(have k:¬(a.toNat:Int)<0:=by omega);simp[eg,c,fJ,Lib.compareBytes,f,k]
 | a::d,b::e,g,i=>by have n:=r8 d e g i;by_cases f:a<b;(·(have m:(a.toNat:Int)<(b.toNat:Int):=by rw[UInt8.lt_iff_toNat_lt] at f;omega);by_cases c:a.toNat=0<;>by_cases j:b.toNat=0<;>simp[eg,c,j,fJ,Lib.compareBytes,f]<;>omega);.by_cases k:b<a;(·(have o:(b.toNat:Int)<(a.toNat:Int):=by rw[UInt8.lt_iff_toNat_lt] at k;omega);(have m:¬(a.toNat:Int)<(b.toNat:Int):=by omega);by_cases c:a.toNat=0<;>by_cases j:b.toNat=0<;>simp[eg,c,j,fJ,Lib.compareBytes,f,k]<;>omega);.have l:a=b:=UInt8.le_antisymm (UInt8.not_lt.1 k) (UInt8.not_lt.1 f);subst l;rw[show Lib.compareBytes (a::d) (a::e)=Lib.compareBytes d e by simp[Lib.compareBytes,f]];rw[<-n];by_cases c:a.toNat=0<;>simp[eg,c,fJ]
theorem kinds(x:aH):(x.k=1/\bk x=.num x.n/\g1 x=2::t8 (kO x.n) 8)∨(x.k=2/\bk x=.str x.s/\g1 x=3::(eg x.s.data.toList++[0,1]))∨(bk x=.null/\g1 x=[1]):=by
 by_cases a:x.k=1;.exact .inl ⟨a,by simp[bk,a],by simp[g1,a]⟩
 .by_cases b:x.k=2;(.exact .inr (.inl ⟨b,by simp[bk,b],by simp[g1,b]⟩));.exact .inr (.inr ⟨by simp[bk,a,b],by simp[g1,a,b]⟩)
theorem UT(a b c:Int):dI (a+c) (b+c)=dI a b:=by unfold dI;simp only[Int.add_lt_add_iff_right]
theorem Bs(x a:aH)(i:bY x.n)(j:bY a.n)(b c:List Int):fJ (g1 x++b) (g1 a++c)=if dk x a=0 then fJ b c else dk x a:=by
 unfold dk;rcases kinds x with ⟨_,d,f⟩|⟨_,d,f⟩|⟨d,f⟩<;>rcases kinds a with ⟨_,e,g⟩|⟨_,e,g⟩|⟨e,g⟩<;>rw[d,e,f,g]<;>simp only[aH.num,aH.str,aH.null,o6,eL,fJ]
 .rw[sc,ym];have l:=uF x.n i;have m:=uF a.n j;unfold bY at i j;(have k:dI x.n a.n=dI (kO x.n) (kO a.n):=by rw[l,m,UT]);rw[k];simp only[Int.lt_irrefl,if_false];exact Bt _ _ (by omega) (by omega) (by omega) (by omega) b c
 .simp[dI,mv]
 .simp[dI,mv]
 .simp[dI,mv]
 .rw[vN];simp only[Int.lt_irrefl,if_false,cI,eL,dK];exact r8 _ _ b c
 .simp[dI,mv]
 .simp[dI,mv]
 .simp[dI,mv]
 .rw[sc];simp[mv]
theorem r9:∀(b d:List aH),(∀a∈b,bY a.n)->(∀c∈d,bY c.n)->fJ (gJ b) (gJ d)=cd b d
 | [],[],_,_=>rfl
 | [],c::d,_,_=>by rcases kinds c with ⟨_,_,f⟩|⟨_,_,f⟩|⟨_,f⟩<;>simp[gJ,f,fJ,cd]
 | a::b,[],_,_=>by rcases kinds a with ⟨_,_,e⟩|⟨_,_,e⟩|⟨_,e⟩<;>simp[gJ,e,fJ,cd]
 | a::b,c::d,j,k=>by have l:=r9 b d (λi g=>j i (by simp[g])) (λi g=>k i (by simp[g]));show fJ (g1 a++gJ b) (g1 c++gJ d)=_;rw[Bs a c (j a (by simp)) (k c (by simp)),l,cd]
theorem y9(c:List UInt8):∀b∈eg c,sB b:=by
 induction c with
 | nil=>intro b a;simp[eg] at a
 | cons e c d=>intro b a;have f:=UInt8.toNat_lt e;simp only[eg,List.mem_cons] at a;rcases a with rfl|a;(.unfold sB;omega);.split at a;(.rcases dr a with rfl|a;(.unfold sB;omega);.exact d b a);.exact d b a
theorem y8(x:aH):∀c∈g1 x,sB c:=by
 intro c a;rcases kinds x with ⟨_,_,b⟩|⟨_,_,b⟩|⟨_,b⟩<;>rw[b] at a
 .rcases dr a with rfl|a;(.unfold sB;omega);.obtain⟨d,_,rfl⟩:=b6 a;exact ew _ d
 .rcases dr a with rfl|a;(.unfold sB;omega);.rcases cM a with a|a;(.exact y9 _ c a);.simp at a;unfold sB;omega
 .simp at a;unfold sB;omega
theorem rD(e:List aH):∀a∈gJ e,sB a:=by intro a c;obtain⟨d,_,b⟩:=List.mem_flatMap.1 c;exact y8 d a b
theorem qR(a:List Int):(xC a).data.toList=a.map AR:=by rw[xB]
theorem mS(a b:List aH)(c:∀x∈a,bY x.n)(d:∀e∈b,bY e.n):BK (Op.bytesLess (xC (gJ a)).toList (xC (gJ b)).toList) ((xC (gJ a)).toList == (xC (gJ b)).toList)=cd a b:=by rw[<-r9 a b c d,<-nj _ _ (rD a) (rD b),<-qR,<-qR,<-rB,Lib.toList_data,Lib.toList_data,BK]
theorem o7(a b:Int):dI a b=- dI b a:=by
 unfold dI;by_cases h:a<b;·(have:¬b<a:=by omega);simp[h,this]
 .by_cases c:b<a;(.simp[h,c]);.simp[h,c]
theorem Sh:∀(a b:List UInt8),Lib.compareBytes a b=- Lib.compareBytes b a
 | [],[]=>rfl
 | [],_::_=>rfl
 | _::_,[]=>rfl
 | c::a,d::b=>by have f:=Sh a b;by_cases h:c<d;(.have:¬d<c:=UInt8.not_lt.2 (UInt8.le_of_lt h);simp[Lib.compareBytes,h,this]);.by_cases e:d<c;(.simp[Lib.compareBytes,h,e]);.simp[Lib.compareBytes,h,e,f]
theorem fV(x a:aH):dk x a=- dk a x:=by unfold dk jt;rw[o7 (bk x).k,o7 (bk x).n,Sh (bk x).s.data.toList];unfold mv;generalize dI (bk a).k (bk x).k=b;generalize dI (bk a).n (bk x).n=c;generalize Lib.compareBytes (bk a).s.data.toList (bk x).s.data.toList=e;by_cases h:b=0<;>by_cases d:c=0<;>simp[h,d]
theorem fE:∀(b d:List aH),cd b d=- cd d b
 | [],[]=>rfl
 | [],_::_=>rfl
 | _::_,[]=>rfl
 | a::b,c::d=>by have g:=fE b d;have f:=fV a c;rw[cd,cd];by_cases h:dk a c=0;(·(have e:dk c a=0:=by omega);rw[ba h,ba e,g]);·(have e:¬dk c a=0:=by omega);rw[VU h,VU e,f]
theorem Sg:∀(a b:List UInt8),Lib.compareBytes a b=0->a=b
 | [],[],_=>rfl
 | [],d::b,h=>by simp[Lib.compareBytes] at h
 | c::a,[],h=>by simp[Lib.compareBytes] at h
 | c::a,d::b,h=>by rw[Lib.compareBytes] at h;by_cases e:c<d;(.simp[e] at h);.by_cases f:d<c;(.simp[e,f] at h);.simp only[e,f,if_false] at h;have g:c=d:=UInt8.le_antisymm (UInt8.not_lt.1 f) (UInt8.not_lt.1 e);rw[g,Sg a b h]
theorem BP:∀(f d g:List UInt8),Lib.compareBytes f d<=0->Lib.compareBytes d g<=0->Lib.compareBytes f g<=0
 | [],d,[],_,_=>by simp[Lib.compareBytes]
 | [],d,e::g,_,_=>by simp[Lib.compareBytes]
 | a::f,[],g,h,_=>by simp[Lib.compareBytes] at h
 | a::f,b::d,[],_,h=>by simp[Lib.compareBytes] at h
 | a::f,b::d,e::g,l,i=>by rw[Lib.compareBytes] at l i ⊢;by_cases j:a<b;(.by_cases c:b<e;(.have:=UInt8.lt_trans j c;simp[this]);.by_cases k:e<b;(.simp[c,k] at i);.have m:b=e:=UInt8.le_antisymm (UInt8.not_lt.1 k) (UInt8.not_lt.1 c);subst m;simp[j]);.by_cases n:b<a;(.simp[j,n] at l);.have m:a=b:=UInt8.le_antisymm (UInt8.not_lt.1 n) (UInt8.not_lt.1 j);subst m;simp only[j,if_false] at l;by_cases c:a<e;(.simp[c]);.by_cases k:e<a;(.simp[c,k] at i);.simp only[c,k,if_false] at i ⊢;exact BP f d g l i
theorem UW(x a:Int):dI x a<0 ↔ x<a:=by unfold dI;split<;>(try split)<;>omega
theorem iZ(x a:Int):dI x a=0 ↔ x=a:=by unfold dI;split<;>(try split)<;>omega
theorem Ci(x a b:Int):mv x a b<=0 ↔ x<0∨(x=0/\(a<0∨(a=0/\b<=0))):=by unfold mv;split<;>(try split)<;>omega
theorem Uy(x a b:Int):mv x a b=0 ↔ x=0/\a=0/\b=0:=by unfold mv;split<;>(try split)<;>omega
theorem mu{x y z:aH}(b:dk x y<=0)(c:dk y z<=0):dk x z<=0:=by unfold dk at *;rw[Ci,UW,iZ,UW,iZ] at *;have a:=BP (bk x).s.data.toList (bk y).s.data.toList (bk z).s.data.toList;have d:jt (bk x).s (bk y).s<=0->jt (bk y).s (bk z).s<=0->jt (bk x).s (bk z).s<=0:=a;generalize jt (bk x).s (bk y).s=e at *;generalize jt (bk y).s (bk z).s=f at *;generalize jt (bk x).s (bk z).s=g at *;omega
theorem yk{x:aH}(h:dk x c=0):bk x=bk c:=by
 unfold dk at h;rw[Uy,iZ,iZ] at h;obtain⟨a,b,e⟩:=h;have d:=Sg _ _ e;cases f:bk x with
 | mk i k m=>
  cases g:bk c with
  | mk j l n=>
   rw[f,g] at a b d
   simp only at a b d
   rw[a,b]
   congr 1
   exact ByteArray.ext (Array.toList_inj.1 d)
theorem qo(x:aH):bk (bk x)=bk x:=by
 unfold bk;by_cases a:x.k == 1;.simp[a,aH.num]
 .by_cases b:x.k == 2;(.simp[a,b,aH.str]);.simp[a,b,aH.null]
theorem jJ:∀(f g i:List aH),cd f g<=0->cd g i<=0->cd f i<=0
 | [],_,[],_,_=>by simp[cd]
 | [],_,_::_,_,_=>by simp[cd]
 | _::_,[],_,h,_=>by simp[cd] at h
 | _::_,_::_,[],_,h=>by simp[cd] at h
 | b::f,a::g,c::i,d,e=>by simp only[cd] at d e ⊢;have n:=fV b a;have o:=fV a c;have p:=fV b c;have m:=jJ f g i;(have j:dk b a<=0:=by split at d<;>omega);(have k:dk a c<=0:=by split at e<;>omega);have l:=mu j k;split;(.rename_i q;have r:=mu (x:=c) (y:=b) (z:=a) (by omega) j;have s:=mu (x:=a) (y:=c) (z:=b) k (by omega);rw[ba (by omega)] at d;rw[ba (by omega)] at e;exact m d e);.exact l
theorem jK:∀(a b:List aH),cd a b=0->a.map bk=b.map bk
 | [],[],_=>rfl
 | [],_::_,h=>by simp[cd] at h
 | _::_,[],h=>by simp[cd] at h
 | d::a,e::b,h=>by rw[cd] at h;split at h;(.rename_i c;rw[dX,dX,yk c,jK a b h]);.omega
def cp(a:List aH):List aH:=a.map bk
def k6(a:List (List aH)):Prop:=a.Pairwise λb c=>cd b c<=0
theorem ou(e:k6 r)(f:k6 A)(d:r.Perm A)(c:∀x∈r,cp x=x):r=A:=
 List.Perm.eq_of_pairwise (le:=λx j=>cd x j<=0) (λa b g i k l=>by
  have:=fE a b
  have:=jK a b (by omega)
  rw[show a.map bk=a from c a g,show b.map bk=b from c b (d.mem_iff.2 i)] at this
  exact this) e f d
instance:DecidableEq aH:=λx y=>if h:x.k=y.k/\x.n=y.n/\x.s=y.s then isTrue (by cases x;cases y;simp at h;simp[h]) else isFalse (by rintro rfl;simp at h)
def D5(a:List (List aH)->List aH->Bool):List (List aH)->List (List aH)
 | []=>[]
 | c::b=>if a b.reverse c then D5 a b++[c] else D5 a b
def em(a:List (List aH)->List aH->Bool)(b:List (List aH)):List (List aH):=D5 a b.reverse
theorem kV(a:List (List aH)->List aH->Bool):em a []=[]:=rfl
theorem hd(a:List (List aH)->List aH->Bool)(b:List (List aH))(c:List aH):em a (b++[c])=if a b c then em a b++[c] else em a b:=by unfold em;rw[List.reverse_append];show D5 a (c::b.reverse)=_;rw[D5,List.reverse_reverse]
theorem gL{P:List (List aH)->Prop}(d:P [])(e:∀a c,P a->P (a++[c]))(a:List (List aH)):P a:=by
 have:∀b:List (List aH),P b.reverse:=λb=>by
  induction b with
  | nil=>exact d
  | cons c b f=>rw[List.reverse_cons];exact e _ _ f
 simpa using this a.reverse
theorem qa(d:List (List aH)->List aH->Bool)(a:List (List aH)):∀b∈em d a,b∈a:=by
 refine gL (P:=λa=>∀b∈em d a,b∈a) (λb h=>by simp[kV] at h) (λa b e f c=>?_) a;rw[hd] at c;split at c;.rcases cM c with h|h;(.exact List.mem_append.2 (.inl (e f h)));.exact List.mem_append.2 (.inr h)
 .exact List.mem_append.2 (.inl (e f c))
theorem tU(b:List (List aH)->List aH->Bool)(a:List (List aH)):(em b a).length<=a.length:=by refine gL (P:=λa=>(em b a).length<=a.length) (by simp[kV]) (λa d c=>?_) a;rw[hd];split<;>simp<;>omega
theorem oZ(a:List (List aH)->List aH->Bool)(h:r <+: A):em a r <+: em a A:=by
 obtain⟨b,rfl⟩:=h;refine gL (P:=λb=>em a r <+: em a (r++b)) (by simp) (λb d c=>?_) b;rw[<-cI,hd];split;.exact c.trans (List.prefix_append _ _)
 .exact c
def ih(a:List (List aH)):List (List aH):=em (λa b=>decide (¬b∈a)) a
theorem vi(h:r <+: A):ih r <+: ih A:=oZ _ h
theorem l3(a:List (List aH))(x:List aH):(ih a).count x=if x∈a then 1 else 0:=by
 refine gL (P:=λa=>(ih a).count x=if x∈a then 1 else 0) (by simp[ih,kV]) (λa d f=>?_) a;unfold ih at f ⊢;rw[hd];by_cases c:d∈a;.rw[VU (by simpa using c),f];by_cases e:x∈a;(.simp[e]);.have:x≠d:=λb=>e (b ▸ c);simp[e,this]
 .rw[ba (by simpa using c),List.count_append,f];by_cases b:x=d;(.subst b;simp[c]);·(have:List.count x [d]=0:=by rw[List.count_eq_zero];simpa using b);rw[this];simp[b]
def dP(c a:List (List aH)):List (List aH):=em (λa b=>decide (c.count b<=a.count b)) a
theorem rA(h:A <+: B):dP r A <+: dP r B:=oZ _ h
theorem i8(h:∀x,r.count x=A.count x):r.Perm A:=List.perm_iff_count.2 h
theorem Ad(h:r.Perm A):(ih r).Perm (ih A):=i8 λa=>by rw[l3,l3];simp[h.mem_iff]
end Go.Proofs.YtklgoolblpmmlaaGreat
