import Derived.Test.YtekgpapophibcaaGreatSrT
import Derived.Test.YtekgpapophibcaaGreatSrV
set_option linter.unusedSimpArgs false
set_option linter.unusedVariables false
set_option maxHeartbeats 2000000
set_option maxRecDepth 100000
namespace Go.Proofs.YtekgpapophibcaaGreat
open Go.RowKit Go.Sort
theorem zJQ(b n:Nat)(l:List UInt8)(bad:Bool)(w:World)(h:Br w b l bad)(hl:l.length<=140737488355328)(hn:n<9223372036854775808) :
  Calls Tryz.prog 39 #[.pointer (some ⟨b,0,none⟩),.int .i64 n] w fun e w'=>e=.returned (.string (bs (zAE l bad n).1))/\Br w' b (zAE l bad n).2.1 (zAE l bad n).2.2/\Gr w w' b:=by
 obtain⟨c0,c1,f0,f1⟩:=h.facts
 have hs:=zBV l
 have HB:=zA3 h
 clear h
 cases bad with
 | true=>
  have e:zAE l true n=([],l,true):=by simp[zAE]
  rw[e]
  go_enter Tryz.func39,Tryz.ntmps39
  go_wp2
  go_ret
  exact⟨rfl,(zA0 HB).bad true,zAY w b 1 _⟩
 | false=>
  by_cases He:l.length<n
  ·have e:zAE l false n=([],l,true):=by simp[zAE,He]
   rw[e]
   have hi:(l.length:Int)<(n:Int):=by omega
   go_enter Tryz.func39,Tryz.ntmps39
   go_wp2
   go_ret
   exact⟨rfl,(zA0 HB).bad true,zAY w b 1 _⟩
  ·have e:zAE l false n=(l.take n,l.drop n,false):=by simp[zAE,He]
   rw[e]
   have hi:¬(l.length:Int)<(n:Int):=by omega
   have ZY:(n:Int)<=(l.length:Int):=by omega
   go_enter Tryz.func39,Tryz.ntmps39
   go_wp2
   go_ret
   exact⟨by rw[zIq l n (by omega)];rfl,by rw[zHD];exact(zA0 HB).rest _,zAY w b 0 _⟩
theorem RD.start(w:World)(l:List UInt8):RD w (w.alloc (.cells #[.string (bs l),.bool false] 83)) zCq [] l false:=by
 refine⟨World.rowIs_alloc w _ 83 _ (fun i hi=>?_),World.ownsRow_nil _ _ _ _,zA1 (Below.refl _ w) _⟩
 match i,hi with
 | 0,_=>rfl
 | 1,_=>rfl
 | n+2,h=>have:n+2<2:=h;omega
theorem RD.take{w wr:World}{v:Value}{N:List Int}{r:List UInt8}{x:Bool}(h:RD w wr v N r x)(n:Nat)(hr:r.length<=140737488300000)(hn:n<4294967296):Calls Tryz.prog 39 #[.pointer (some ⟨w.heap.size,0,none⟩),.int .i64 (n:Int)] wr fun e w'=>e=.returned (.string (bs (zAE r x n).1))/\RD w w' v N (zAE r x n).2.1 (zAE r x n).2.2:=by
 refine(zJQ _ n r x wr h.rd (by omega) (by omega)).mono ?_
 rintro e w' ⟨rfl,h1,h2⟩
 exact⟨rfl,h.gr h1 h2⟩
theorem zTD(l:List UInt8)(hl:l.length<=140737488300000)(hs:(zAE l false 2).1≠[83,49])(w:World):Calls Tryz.prog 8 #[.string (bs l)] w fun e w'=>e=.returned (.tuple #[.slice none 0 0,.slice none 0 0,.bool false])/\Below w.heap.size w w':=by
 obtain⟨t,ht⟩:∃t,bs (zAE l false 2).1=t:=⟨_,rfl⟩
 have H2:Hid (Calls Tryz.prog 39 #[.pointer (some ⟨w.heap.size,0,none⟩),.int .i64 2] (w.alloc (.cells #[.string (bs l),.bool false] 83)) fun e w'=>e=.returned (.string t)/\Below w.heap.size w w'):=by
  refine((RD.start w l).take 2 hl (by omega)).mono ?_
  rintro e w' ⟨rfl,h1⟩
  exact⟨by rw[ht],h1.bel⟩
 have Hg:((bs (zAE l false 2).1).toList == (ByteArray.mk #[83,49]).toList)=false:=by
  rw[zGS]
  refine decide_eq_false fun e=>hs ?_
  have:(bs (zAE l false 2).1).data.toList=(ByteArray.mk #[83,49]).data.toList:=by rw[e]
  exact this
 rw[ht] at Hg
 have e2:(ByteArray.mk #[83,49]).toList=[83,49]:=by rw[ByteArray.toList_eq]
 rw[e2] at Hg
 clear e2
 clear hs ht
 go_enter Tryz.func8,Tryz.ntmps8
 go_wp2_with (go_at_call 39;refine(zA0 H2).mono ?_;rintro _ w1 ⟨rfl,h1⟩;have HB:=zA3 h1;clear h1)
 go_ret3
 exact⟨rfl,zA0 HB⟩
end Go.Proofs.YtekgpapophibcaaGreat
