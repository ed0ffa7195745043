import Derived.Test.YtbfibfmnemnbbaaGreatVecF
import Derived.Deep.DeepCutAuto
import Derived.Deep.DrawnRows
import Derived.Lib.Bytealg
set_option linter.unusedSimpArgs false
set_option linter.unusedVariables false
namespace Go.Proofs.YtbfibfmnemnbbaaGreat
open Go.RowKit Go.Sort
theorem Tryz.info3:(Tryz.prog.info? 3).map (fun i=>(i.zero,i.size,i.bytes))=some (some (.int .i64 0),1,8):=by kernel_rfl
end Go.Proofs.YtbfibfmnemnbbaaGreat
set_option linter.unusedSimpArgs false
set_option linter.unusedVariables false
set_option maxHeartbeats 2000000
set_option maxRecDepth 100000
namespace Go.Proofs.YtbfibfmnemnbbaaGreat
open Go.RowKit Go.Sort
def cmpI(x y:Int):Int:=if x<y then -1 else if y<x then 1 else 0
theorem cmpInt_any(x y:Int)(w:World) :
  Calls Tryz.prog 101 #[.int .i64 x,.int .i64 y] w fun e w'=>e=.returned (.int .i64 (cmpI x y))/\w'=w:=by
 unfold cmpI
 go_enter Tryz.func101,Tryz.ntmps101
 go_wp2
 all_goals (go_ret;exact⟨rfl,rfl⟩)
theorem cmpInt64_any(x y:Int)(w:World) :
  Calls Tryz.prog 102 #[.int .i64 x,.int .i64 y] w fun e w'=>e=.returned (.int .i64 (cmpI x y))/\w'=w:=by
 unfold cmpI
 go_enter Tryz.func102,Tryz.ntmps102
 go_wp2
 all_goals (go_ret;exact⟨rfl,rfl⟩)
def cmpB(x y:ByteArray):Int:=Lib.compareBytes x.data.toList y.data.toList
theorem run79(x y:ByteArray)(w:World):(callFunc 154 #[.string x,.string y]).run Tryz.prog w=.ok (.value (.int .i64 (cmpB x y))) w:=by
 rw[run_callFunc_extern Tryz.func154 (by kernel_rfl) (by kernel_rfl) (by kernel_rfl) (e:=Extern.BytealgCompare.compare) (by kernel_rfl),Lib.run_compareString]
 rfl
theorem cmpStr_any(x y:ByteArray)(w:World) :
  Calls Tryz.prog 103 #[.string x,.string y] w fun e w'=>e=.returned (.int .i64 (cmpB x y))/\w'=w:=by
 have h79:=run79 x y
 go_enter Tryz.func103,Tryz.ntmps103
 go_wp2
 go_ret
 exact⟨rfl,rfl⟩
def orI(x y z:Int):Int:=if x≠0 then x else if y≠0 then y else z
theorem or3_any(b:Nat)(x y z:Int)(w:World)(h0:w.cell? ⟨b,0,none⟩=some (.int .i64 x))(h1:w.cell? ⟨b,1,none⟩=some (.int .i64 y))(h2:w.cell? ⟨b,2,none⟩=some (.int .i64 z)) :
  Calls Tryz.prog 100 #[.slice (some ⟨b,0,none⟩) 3 3] w fun e w'=>e=.returned (.int .i64 (orI x y z))/\w'=w:=by
 go_enter Tryz.func100,Tryz.ntmps100
 go_wp2
 go_loop[8] (fun i=>∃k:Nat,k<=3/\i=.int .i64 k/\(1<=k->x=0)/\(2<=k->y=0)/\(3<=k->z=0)) (fun i=>3-(intOf i).toNat)
 case atStart=>exact⟨0,Nat.zero_le _,rfl,by omega,by omega,by omega⟩
 case round=>
  obtain⟨k,hk,rfl,r1,r2,r3⟩:=hrel
  rcases(show k=0∨k=1∨k=2∨k=3 by omega) with rfl|rfl|rfl|rfl
  ·clear r1 r2 r3
   by_cases hx:x=0
   ·have hx':(x != 0)=false:=by simpa using hx
    have HX:=hide hx
    clear hx
    go_wp2
    go_round
    case rel=>exact⟨1,by omega,rfl,fun _=>unhide HX,by omega,by omega⟩
    case measure=>simp[intOf]
   ·have hx':(x != 0)=true:=by simpa using hx
    have HX:=hide hx
    clear hx
    go_wp2
    go_ret
    exact⟨by simp[orI,unhide HX],rfl⟩
  ·have HX:=hide (r1 (by omega))
   clear r1 r2 r3
   by_cases hx:y=0
   ·have hx':(y != 0)=false:=by simpa using hx
    have HY:=hide hx
    clear hx
    go_wp2
    go_round
    case rel=>exact⟨2,by omega,rfl,fun _=>unhide HX,fun _=>unhide HY,by omega⟩
    case measure=>simp[intOf]
   ·have hx':(y != 0)=true:=by simpa using hx
    have HY:=hide hx
    clear hx
    go_wp2
    go_ret
    exact⟨by simp[orI,unhide HX,unhide HY],rfl⟩
  ·have HX:=hide (r1 (by omega))
   have HY:=hide (r2 (by omega))
   clear r1 r2 r3
   by_cases hx:z=0
   ·have hx':(z != 0)=false:=by simpa using hx
    have HZ:=hide hx
    clear hx
    go_wp2
    go_round
    case rel=>exact⟨3,by omega,rfl,fun _=>unhide HX,fun _=>unhide HY,fun _=>unhide HZ⟩
    case measure=>simp[intOf]
   ·have hx':(z != 0)=true:=by simpa using hx
    have HZ:=hide hx
    clear hx
    go_wp2
    go_ret
    exact⟨by simp[orI,unhide HX,unhide HY],rfl⟩
  ·have HX:=hide (r1 (by omega))
   have HY:=hide (r2 (by omega))
   have HZ:=hide (r3 (by omega))
   clear r1 r2 r3
   go_wp2
   go_ret
   exact⟨by simp[orI,unhide HX,unhide HY,unhide HZ],rfl⟩
def BoxAt(w:World)(b:Nat)(x:Val):Prop:=w.cell? ⟨b,0,none⟩=some (.int .i64 x.k)/\w.cell? ⟨b,1,none⟩=some (.int .i64 x.n)/\w.cell? ⟨b,2,none⟩=some (.string x.s)
def FreeAt(w:World)(b:Nat):Prop:=w.frozen? ⟨b,0,none⟩=false/\w.frozen? ⟨b,1,none⟩=false/\w.frozen? ⟨b,2,none⟩=false
def boxes(w:World)(a b:Val):World:=(w.alloc (.cells #[.int .i64 a.k,.int .i64 a.n,.string a.s] 25)).alloc (.cells #[.int .i64 b.k,.int .i64 b.n,.string b.s] 25)
theorem boxes_size(w:World)(a b:Val):(boxes w a b).heap.size=w.heap.size+1+1:=by simp[boxes]
theorem boxes_facts{w w':World}{a b:Val}(h:Below (boxes w a b).heap.size (boxes w a b) w') :
  BoxAt w' w.heap.size a/\BoxAt w' (w.heap.size+1) b/\FreeAt w' w.heap.size/\FreeAt w' (w.heap.size+1)/\w.heap.size+1<w'.heap.size:=by
 have hs:=h.size
 rw[boxes_size] at hs
 obtain⟨hc,hf⟩:=bcell h
 refine⟨⟨?_,?_,?_⟩,⟨?_,?_,?_⟩,⟨?_,?_,?_⟩,⟨?_,?_,?_⟩,by omega⟩
 all_goals first | (rw[hc _ _ (by rw[boxes_size];omega)];simp[boxes,go_sem];done) | (rw[hf _ _ (by rw[boxes_size];omega)];simp[boxes,go_sem];done)
theorem boxes_below{w w':World}{a b:Val}(h:Below (boxes w a b).heap.size (boxes w a b) w'):Below w.heap.size w w':=
 (((Below.refl _ _).alloc (Nat.le_refl _) _).alloc (by simp) _).trans (h.mono (by rw[boxes_size];omega))
theorem boxes_drew(w:World)(a b:Val):Below (boxes w a b).heap.size (boxes w a b) (boxes w a b).drew:=(Below.refl _ _).drew
theorem put_two{w w2:World}{a b:Val}(ca cb:Val)(h:Below (boxes w a b).heap.size (boxes w a b) w2) :
  BoxAt ((((((w2.setCell ⟨w.heap.size,0,none⟩ (.int .i64 ca.k)).setCell ⟨w.heap.size,1,none⟩ (.int .i64 ca.n)).setCell ⟨w.heap.size,2,none⟩ (.string ca.s)).setCell ⟨w.heap.size+1,0,none⟩ (.int .i64 cb.k)).setCell ⟨w.heap.size+1,1,none⟩ (.int .i64 cb.n)).setCell ⟨w.heap.size+1,2,none⟩ (.string cb.s)) w.heap.size ca/\BoxAt ((((((w2.setCell ⟨w.heap.size,0,none⟩ (.int .i64 ca.k)).setCell ⟨w.heap.size,1,none⟩ (.int .i64 ca.n)).setCell ⟨w.heap.size,2,none⟩ (.string ca.s)).setCell ⟨w.heap.size+1,0,none⟩ (.int .i64 cb.k)).setCell ⟨w.heap.size+1,1,none⟩ (.int .i64 cb.n)).setCell ⟨w.heap.size+1,2,none⟩ (.string cb.s)) (w.heap.size+1) cb/\Below w.heap.size w ((((((w2.setCell ⟨w.heap.size,0,none⟩ (.int .i64 ca.k)).setCell ⟨w.heap.size,1,none⟩ (.int .i64 ca.n)).setCell ⟨w.heap.size,2,none⟩ (.string ca.s)).setCell ⟨w.heap.size+1,0,none⟩ (.int .i64 cb.k)).setCell ⟨w.heap.size+1,1,none⟩ (.int .i64 cb.n)).setCell ⟨w.heap.size+1,2,none⟩ (.string cb.s)):=by
 obtain⟨⟨a0,a1,a2⟩,⟨b0,b1,b2⟩,⟨f0,f1,f2⟩,⟨g0,g1,g2⟩,hz⟩:=boxes_facts h
 refine⟨⟨by simp[go_sem, *],by simp[go_sem, *],by simp[go_sem, *]⟩,⟨by simp[go_sem, *],by simp[go_sem, *],by simp[go_sem, *]⟩,?_⟩
 exact((((((boxes_below h).setCell (by simp) _).setCell (by simp) _).setCell (by simp) _).setCell (by simp) _).setCell (by simp) _).setCell (by simp) _
def ordV(x y:Val):Int:=orI (cmpI (cleanV x).k (cleanV y).k) (cmpI (cleanV x).n (cleanV y).n) (cmpB (cleanV x).s (cleanV y).s)
theorem order_any(a b:Val)(w:World) :
  Calls Tryz.prog 80 #[a.v,b.v] w fun e w'=>e=.returned (.int .i64 (ordV a b))/\Below w.heap.size w w':=by
 rw[a.open_,b.open_]
 have HA:=hide (clean_any a)
 have HB:=hide (clean_any b)
 unfold ordV
 generalize cleanV a=ca at *
 generalize cleanV b=cb at *
 go_enter Tryz.func80,Tryz.ntmps80
 go_upto_region 1 with fail
 go_cut[] (fun wx=>BoxAt wx w.heap.size ca/\BoxAt wx (w.heap.size+1) cb/\Below w.heap.size w wx)
 case first=>
  go_region_with (first
   | (go_at_call_of 23 (Value.agg #[Value.int IntKind.i64 a.k,Value.int IntKind.i64 a.n,Value.string a.s]);refine(unhide HA _).mono ?_;rintro e w1 ⟨rfl,hb1⟩;rw[Val.open_];have B1:=below_step (boxes_drew w a b) hb1;obtain⟨⟨a0,a1,a2⟩,⟨b0,b1,b2⟩,⟨f0,f1,f2⟩,⟨g0,g1,g2⟩,hz⟩:=boxes_facts B1)
   | (go_at_call_of 23 (Value.agg #[Value.int IntKind.i64 b.k,Value.int IntKind.i64 b.n,Value.string b.s]);refine(unhide HB _).mono ?_;rintro e w2 ⟨rfl,hb2⟩;rw[Val.open_];have B2:=below_step B1 hb2;obtain⟨⟨a0,a1,a2⟩,⟨b0,b1,b2⟩,⟨f0,f1,f2⟩,⟨g0,g1,g2⟩,hz⟩:=boxes_facts B2))
  all_goals
   go_wp2_with fail
   go_meet
   exact put_two ca cb B2
 case rest=>
  obtain⟨⟨a0,a1,a2⟩,⟨b0,b1,b2⟩,hbel⟩:=hcut
  clear HA HB
  rename World=>wa
  go_upto_region 2 with fail
  go_region_held3 (fun w'=>w'.cell? ⟨w.heap.size,0,none⟩=some (.int .i64 ca.k)/\w'.cell? ⟨w.heap.size,1,none⟩=some (.int .i64 ca.n)/\w'.cell? ⟨w.heap.size,2,none⟩=some (.string ca.s)/\w'.cell? ⟨w.heap.size+1,0,none⟩=some (.int .i64 cb.k)/\w'.cell? ⟨w.heap.size+1,1,none⟩=some (.int .i64 cb.n)/\w'.cell? ⟨w.heap.size+1,2,none⟩=some (.string cb.s))
   (go_keep)
   (first
    | (go_at_call 101;refine(cmpInt_any _ _ _).mono ?_;rintro e w1 ⟨rfl,rfl⟩)
    | (go_at_call 102;refine(cmpInt64_any _ _ _).mono ?_;rintro e w1 ⟨rfl,rfl⟩)
    | (go_at_call 103;refine(cmpStr_any _ _ _).mono ?_;rintro e w1 ⟨rfl,rfl⟩)
    | (go_at_call 100;refine(or3_any _ (cmpI ca.k cb.k) (cmpI ca.n cb.n) (cmpB ca.s cb.s) _ ?_ ?_ ?_).mono ?_;(simp[go_sem]);(simp[go_sem]);(simp[go_sem]);rintro e w1 ⟨rfl,rfl⟩))
  go_wp2
  go_ret
  exact⟨rfl,(below_alloc hbel _).drew⟩
theorem orI_last(c:Int):orI 0 c 0=c:=by unfold orI;by_cases h:c=0<;>simp[h]
theorem cmpB_nil:cmpB ⟨#[]⟩ ⟨#[]⟩=0:=rfl
theorem cmpI_self(x:Int):cmpI x x=0:=by simp[cmpI]
end Go.Proofs.YtbfibfmnemnbbaaGreat
set_option linter.unusedSimpArgs false
set_option linter.unusedVariables false
set_option maxHeartbeats 1000000
namespace Go.Proofs.YtbfibfmnemnbbaaGreat
open Go.RowKit Go.Sort
theorem Tryz.info5:(Tryz.prog.info? 5).map (fun i=>(i.zero,i.size,i.bytes))=some (some (.int .u8 0),1,1):=by kernel_rfl
def OwnB(w:World)(base:Nat)(v:Value)(zs:List Int):Prop:=w.ownsRow base 5 1 v zs.length (zs.map (Value.int .u8))
def Grew(w w':World)(v v':Value):Prop:=w.grownBy w' v.ownBlock/\(v'.ownBlock=v.ownBlock∨∃g,v'.ownBlock=some g/\w.heap.size<=g)
theorem Grew.refl(w:World)(v:Value):Grew w w v v:=⟨⟨rfl,rfl,rfl,Nat.le_refl _,fun _ _ _=>rfl⟩,.inl rfl⟩
theorem Grew.trans{a b c:World}{u v x:Value}(h:Grew a b u v)(k:Grew b c v x):Grew a c u x:=by
 obtain⟨h1,h2⟩:=h
 obtain⟨k1,k2⟩:=k
 refine⟨⟨k1.os.trans h1.os,k1.tape.trans h1.tape,k1.output.trans h1.output,Nat.le_trans h1.size k1.size,fun i hi hne=>?_⟩,?_⟩
 ·rw[k1.block i (Nat.lt_of_lt_of_le hi h1.size) ?_,h1.block i hi hne]
  rcases h2 with h2|⟨g,h2,hg⟩
  ·rw[h2];exact hne
  ·rw[h2];intro e;cases e;omega
 ·rcases k2 with k2|⟨g,k2,hg⟩
  ·rcases h2 with h2|⟨g,h2,hg⟩
   ·exact .inl (k2.trans h2)
   ·exact .inr ⟨g,k2.trans h2,hg⟩
  ·exact .inr ⟨g,k2,Nat.le_trans h1.size hg⟩
theorem Grew.app{a b c:World}{u v x:Value}{o:Obj}(h:Grew a b u v)(hg:(b.alloc o).grownBy c v.ownBlock)(hat:x.ownBlock=v.ownBlock∨x.ownBlock=some (b.alloc o).heap.size):Grew a c u x:=by
 refine h.trans ⟨⟨hg.os,hg.tape,hg.output,?_,fun i hi hne=>?_⟩,?_⟩
 ·have:=hg.size;simp at this;omega
 ·rw[hg.block i (by simp;omega) hne,Below.heap_alloc b o i hi]
 ·rcases hat with h|h
  ·exact .inl h
  ·exact .inr ⟨_,h,by simp⟩
theorem Grew.app2{b c:World}{v x:Value}{o o2:Obj}(hg:((b.alloc o).alloc o2).grownBy c v.ownBlock)(hat:x.ownBlock=v.ownBlock∨x.ownBlock=some ((b.alloc o).alloc o2).heap.size):Grew b c v x:=by
 refine⟨⟨hg.os,hg.tape,hg.output,?_,fun i hi hne=>?_⟩,?_⟩
 ·have:=hg.size;simp at this;omega
 ·rw[hg.block i (by simp;omega) hne,Below.heap_alloc _ o2 i (by simp;omega),Below.heap_alloc b o i hi]
 ·rcases hat with h|h
  ·exact .inl h
  ·exact .inr ⟨_,h,by simp;omega⟩
theorem Grew.below{a b:World}{u v:Value}(h:Grew a b u v){B:Nat}(hB:B<=a.heap.size)(hu:∀g,u.ownBlock=some g->B<=g):Below B a b:=
 ⟨h.1.os,h.1.tape,h.1.output,h.1.size,fun k hk=>h.1.block k (by omega) (fun e=>by have:=hu k e.symm;omega)⟩
theorem ownB_app{w:World}{base:Nat}{v:Value}{ys news:List Int}{m:Nat}(hm:news.length=m)(h:w.ownsRow base 5 1 v (ys.length+m) (ys.map (Value.int .u8)++news.map (Value.int .u8))):OwnB w base v (ys++news):=by
 unfold OwnB
 rw[List.length_append,List.map_append,hm]
 exact h
theorem ownB_lt{w:World}{base:Nat}{v:Value}{zs:List Int}(h:OwnB w base v zs){g:Nat}(hg:v.ownBlock=some g):base<=g/\g<w.heap.size:=World.ownsRow.lt h g hg
theorem grew_kept{w1 w2:World}{u v:Value}(h:Grew w1 w2 u v){b:Nat}(hb:b<w1.heap.size)(hne:u.ownBlock≠some b)(j:Nat):w2.cell? ⟨b,j,none⟩=w1.cell? ⟨b,j,none⟩:=
 World.cell?_of_block (a:=⟨b,j,none⟩) (h.1.block b hb (fun e=>hne e.symm))
def toB(zs:List Int):ByteArray:=zs.foldl (fun r n=>r.push (UInt8.ofNat n.toNat)) ByteArray.empty
theorem convert_own{w:World}{base:Nat}{v:Value}{zs:List Int}(h:OwnB w base v zs):(convert 82 9 v).run Tryz.prog w=.ok (.string (toB zs)) w:=by
 rcases h.2 with ⟨rfl,h0⟩|⟨g,cap,cur,rfl,hb,hg,_⟩
 ·have:zs=[]:=List.eq_nil_of_length_eq_zero h0
  subst this
  rw[run_convert_bytes_string w 82 9 5 none 0 0 Tryz.underlying82 Tryz.underlying5 Tryz.underlying9]
  rfl
 ·rw[run_convert_bytes_string w 82 9 5 _ _ _ Tryz.underlying82 Tryz.underlying5 Tryz.underlying9]
  refine run_bytesToString w _ _ _ zs ?_
  have:=run_loadCells_list (P:=Tryz.prog) (w:=w) ⟨g,0,none⟩ (zs.map (Value.int .u8)) (World.ownsRow.cells h rfl)
  simpa using this
def ofI(n:Int):UInt8:=UInt8.ofNat n.toNat
theorem toB_fold(zs:List Int):∀acc:ByteArray,zs.foldl (fun r n=>r.push (UInt8.ofNat n.toNat)) acc=⟨acc.data++(zs.map ofI).toArray⟩:=by
 induction zs with
 | nil=>intro acc;simp
 | cons z zs ih=>
  intro acc
  rw[List.foldl_cons,ih]
  congr 1
  simp[ByteArray.push,ofI]
theorem toB_eq(zs:List Int):toB zs=⟨(zs.map ofI).toArray⟩:=by
 unfold toB
 rw[toB_fold]
 show ByteArray.mk (#[]++_)=_
 rw[Array.empty_append]
theorem toB_append(a b:List Int):toB (a++b)=toB a++toB b:=by
 rw[toB_eq,toB_eq,toB_eq]
 simp only[List.map_append]
 apply ByteArray.ext
 simp
theorem toB_size(a:List Int):(toB a).size=a.length:=by
 rw[toB_eq];simp[ByteArray.size]
def beN(U:Int)(n k:Nat):Int:=U / 2 ^ (8*(n-1-k)) % 256
def beL(U:Int)(n k:Nat):List Int:=(List.range k).map (beN U n)
theorem beL_succ(U:Int)(n k:Nat):beL U n (k+1)=beL U n k++[beN U n k]:=by simp[beL,List.range_succ]
theorem beL_len(U:Int)(n k:Nat):(beL U n k).length=k:=by simp[beL]
theorem appnum_any(base:Nat)(zs:List Int)(U:Int)(n:Nat)(v:Value)(w:World)(hn:n<=8)(hown:OwnB w base v zs)(hlen:zs.length<=140737488300000)(hbase:base<=w.heap.size) :
  Calls Tryz.prog 120 #[v,.int .u64 U,.int .i64 n] w fun e w'=>∃v',e=.returned v'/\OwnB w' base v' (zs++beL U n n)/\Grew w w' v v':=by
 obtain⟨i0,hi,hz0,hz1,hz2⟩:=info_parts Tryz.info5
 go_enter Tryz.func120,Tryz.ntmps120
 go_wp2_with fail
 go_loopw[0,9] (fun key s wr=>∃k:Nat,k<=n/\s=.int .i64 (k:Int)/\OwnB wr base key (zs++beL U n k)/\Grew w wr v key) (fun _ s _=>n-(intOf s).toNat)
 case atStart=>exact⟨0,Nat.zero_le _,rfl,by simpa [beL] using hown,Grew.refl _ _⟩
 case round=>
  obtain⟨k,hk,rfl,ho,hg⟩:=hrel
  by_cases h8:k<n
  ·have h9:(k:Int)<(n:Int):=by omega
   have hl:(zs++beL U n k).length=zs.length+k:=by rw[List.length_append,beL_len]
   have HL:=hide hl
   have es:((n:Int)-1-(k:Int))=((n-1-k:Nat):Int):=by omega
   have h10:(0:Int)<=8*((n:Int)-1-(k:Int)):=by omega
   have h11:(8*((n:Int)-1-(k:Int))).toNat=8*(n-1-k):=by omega
   clear hl
   go_wp2_with (at_builtin;refine wpList_append_own_at _ rfl (.tmp 12) (.tmp 21) 82 rfl base 5 i0 (.int .u8 0) 1 1 Tryz.underlying82 hi hz0 hz1 hz2 rfl (by decide) _ _ _ rfl (World.ownsRow.alloc ho _) ⟨wr.heap.size,0,none⟩ 1 1 [.int .u8 (beN U n k)] rfl rfl (cell_one_new _ _ _) (by intro u hu;simp at hu;subst hu;rfl) (by rw[unhide HL];unfold maxLen;omega) (by rw[unhide HL];omega) (by have:=hg.1.size;simp;omega) ?_;intro v' w1 hown' hgrow _ hat)
   have hg2:=Grew.app hg hgrow hat
   have ho2:=ownB_app (news:=[beN U n k]) rfl hown'
   rw[List.append_assoc,<-beL_succ] at ho2
   refine⟨⟨k+1,by omega,by go_num,ho2,hg2⟩,?_⟩
   simp only[intOf]
   omega
  ·have hk8:k=n:=by omega
   have h9:¬(k:Int)<(n:Int):=by omega
   subst hk8
   go_wp2
   go_ret
   exact⟨_,rfl,ho,hg⟩
end Go.Proofs.YtbfibfmnemnbbaaGreat
set_option linter.unusedSimpArgs false
set_option linter.unusedVariables false
namespace Go.Proofs.YtbfibfmnemnbbaaGreat
open Go.RowKit Go.Sort
def RowsAt(w:World)(a:Option Addr)(rs:List (List Val)):Prop:=
 rs=[]∨∃b off,a=some ⟨b,off,none⟩/\∀i r,rs[i]?=some r->∃ra rc,w.cell? ⟨b,off+i,none⟩=some (.slice ra r.length rc)/\RowAt w ra r
theorem RowsAt.later{w w':World}{a:Option Addr}{rs:List (List Val)}(h:RowsAt w a rs)(hb:Below w.heap.size w w'):RowsAt w' a rs:=by
 rcases h with h|⟨b,off,ha,h⟩
 ·exact .inl h
 ·exact .inr ⟨b,off,ha,fun i r hr=>by obtain⟨ra,rc,h1,h2⟩:=h i r hr;exact⟨ra,rc,cell_later hb h1,h2.later hb⟩⟩
end Go.Proofs.YtbfibfmnemnbbaaGreat
set_option linter.unusedSimpArgs false
set_option linter.unusedVariables false
set_option maxHeartbeats 1000000
namespace Go.Proofs.YtbfibfmnemnbbaaGreat
open Go.RowKit Go.Sort
def bs(l:List UInt8):ByteArray:=⟨l.toArray⟩
theorem bs_size(l:List UInt8):(bs l).size=l.length:=by simp[bs,ByteArray.size]
theorem bs_take(l:List UInt8)(n:Nat)(h:n<=l.length):(bs l).extract 0 n=bs (l.take n):=by
 apply ByteArray.ext
 simp[bs,ByteArray.data_extract]
theorem bs_drop(l:List UInt8)(n:Nat):(bs l).extract n l.length=bs (l.drop n):=by
 apply ByteArray.ext
 simp[bs,ByteArray.data_extract]
 rw[List.take_of_length_le (by simp)]
def Rd(w:World)(b:Nat)(l:List UInt8):Prop:=w.rowIs b 157 1 fun _=>.string (bs l)
def Gr(w w':World)(b:Nat):Prop:=w.grownBy w' (some b)
theorem Gr.refl(w:World)(b:Nat):Gr w w b:=World.grownBy.refl _ _
theorem Gr.trans{a b c:World}{k:Nat}(h:Gr a b k)(g:Gr b c k):Gr a c k:=
 ⟨g.os.trans h.os,g.tape.trans h.tape,g.output.trans h.output,Nat.le_trans h.size g.size,fun i hi hne=>by rw[g.block i (Nat.lt_of_lt_of_le hi h.size) hne,h.block i hi hne]⟩
theorem Gr.of_below{w w':World}(h:Below w.heap.size w w')(b:Nat):Gr w w' b:=⟨h.os,h.tape,h.output,h.size,fun i hi _=>h.block i hi⟩
theorem Gr.alloc(w:World)(b:Nat)(o:Obj):Gr w (w.alloc o) b:=World.grownBy_alloc w o _
abbrev dmg:Ending:=.panicked [{ v:=.iface 154 (.agg #[]),recovered:=false }]
theorem ensure_yes(w:World):Calls Tryz.prog 150 #[.bool true] w fun e w'=>e=.returned (.tuple #[])/\w'=w:=by
 go_enter Tryz.func150,Tryz.ntmps150
 go_wp2
 go_end0
 exact⟨rfl,rfl⟩
theorem ensure_no(w:World):Calls Tryz.prog 150 #[.bool false] w fun e w'=>e=dmg/\w'=w:=by
 go_enter Tryz.func150,Tryz.ntmps150
 go_wp2
 exact⟨rfl,rfl,rfl⟩
theorem ensureF(t:Bool)(h:t=false)(w:World):Calls Tryz.prog 150 #[.bool t] w fun e w'=>e=dmg/\w'=w:=by subst h;exact ensure_no w
theorem ensureT(t:Bool)(h:t=true)(w:World):Calls Tryz.prog 150 #[.bool t] w fun e w'=>e=.returned (.tuple #[])/\w'=w:=by subst h;exact ensure_yes w
theorem Rd.cell{w:World}{b:Nat}{l:List UInt8}(h:Rd w b l):w.cell? ⟨b,0,none⟩=some (.string (bs l)):=World.rowIs.cell h (by decide)
theorem Rd.set{w:World}{b:Nat}{l:List UInt8}(h:Rd w b l)(l':List UInt8):Rd (w.setCell ⟨b,0,none⟩ (.string (bs l'))) b l':=
 World.rowIs.congr (World.rowIs.set h 0 (.string (bs l'))) (fun i hi => by have : i = 0 := by omega
                                                                           subst this; simp)
theorem Gr.set(w:World)(b:Nat)(v:Value):Gr w (w.setCell ⟨b,0,none⟩ v) b:=grown_set w b 0 v
theorem take_yes(b n:Nat)(l:List UInt8)(w:World)(h:Rd w b l)(hl:l.length<=140737488355328)(hn:n<=l.length) :
  Calls Tryz.prog 163 #[.pointer (some ⟨b,0,none⟩),.int .i64 n] w fun e w'=>e=.returned (.string (bs (l.take n)))/\w'=w.setCell ⟨b,0,none⟩ (.string (bs (l.drop n))):=by
 have hc:=h.cell
 have hf:=World.rowIs.frozen h 0
 have hs:=bs_size l
 have hd:decide ((n:Int)<=(l.length:Int))=true:=by simp;omega
 go_enter Tryz.func163,Tryz.ntmps163
 go_wp2_with (go_at_call 150;refine(ensure_yes _).mono ?_;rintro e w' ⟨rfl,rfl⟩)
 go_ret
 exact⟨by rw[bs_take l n hn];rfl,by rw[bs_drop]⟩
theorem take_no(b n:Nat)(l:List UInt8)(w:World)(h:Rd w b l)(hl:l.length<=140737488355328)(hn:l.length<n) :
  Calls Tryz.prog 163 #[.pointer (some ⟨b,0,none⟩),.int .i64 n] w fun e w'=>e=dmg/\w'=w:=by
 have hc:=h.cell
 have hf:=World.rowIs.frozen h 0
 have hs:=bs_size l
 have hd:¬(n:Int)<=(l.length:Int):=by omega
 go_enter Tryz.func163,Tryz.ntmps163
 go_wp2_with (go_at_call 150;refine(ensure_no _).mono ?_;rintro e w' ⟨rfl,rfl⟩)
 exact⟨rfl,rfl,rfl⟩
end Go.Proofs.YtbfibfmnemnbbaaGreat
