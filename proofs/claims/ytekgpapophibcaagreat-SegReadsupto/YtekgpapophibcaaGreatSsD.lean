import Derived.Test.YtekgpapophibcaaGreatSsB
import Derived.Test.YtekgpapophibcaaGreatSsC
set_option linter.unusedSimpArgs false
set_option linter.unusedVariables false
set_option maxHeartbeats 8000000
set_option maxRecDepth 100000
namespace Go.Proofs.YtekgpapophibcaaGreat
open Go.RowKit Go.Sort
theorem zUG{l:List UInt8}(hl:l.length<=140737488300000)(h:∀Xs ps,¬Seg l Xs ps)(i:Int)(cs:List Int)(a:Option Addr)(cp:Nat)(w:World)(YN:cs.length<=1048576)(ha:zAp w a (cs.map (Value.int .i64))) :
  Calls Tryz.prog 4 #[.string (bs l),.int .i64 i,.slice a cs.length cp] w fun e w'=>e=.returned (.bool true)/\Below w.heap.size w w':=by
 have K8:=zA3 (fun W=>zOz hl h W)
 have K9:=zA3 (fun W=>zTG hl h W)
 have K10:=zA3 (fun W=>zQs hl h W)
 have K12:Hid (∀W,Calls Tryz.prog 12 #[.string (bs l)] W fun e w'=>∃a c,e=.returned (.slice a 0 c)/\Below W.heap.size W w'):=fun W=>(zOQ hl h W).mono (by rintro e w' ⟨a,c,rfl,_,hb⟩;exact⟨a,c,rfl,hb⟩)
 have K11:Hid (∀W a c,Calls Tryz.prog 11 #[.slice a 0 c,.slice none 0 0] W fun e w'=>e=.returned (.bool true)/\Below W.heap.size W w'):=fun W a c=>zDm a none c 0 [] W (by unfold maxLen;simp) (.inl rfl) (.inl rfl)
 have K13:=zA3 (fun W=>zTU hl h W)
 have K14:=zA3 (fun W=>zPp hl h W)
 have K15:Hid (∀W,Calls Tryz.prog 15 #[.agg #[.int .i64 0,.slice none 0 0,.slice none 0 0,.slice none 0 0],.agg #[.int .i64 0,.slice none 0 0,.slice none 0 0,.slice none 0 0]] W fun e w'=>e=.returned (.bool true)/\Below W.heap.size W w'):=fun W=>zFB 0 none none none none none none 0 0 0 0 0 0 [] [] [] W (by simp) (by simp) (by simp) (.inl rfl) (.inl rfl) (.inl rfl) (.inl rfl) (.inl rfl) (.inl rfl)
 have K16:Hid (∀W,Calls Tryz.prog 16 #[.string (bs l),.int .i64 i] W fun e w'=>e=.returned (.tuple #[.agg #[.int .i64 0,.slice none 0 0,.slice none 0 0,.slice none 0 0],.int .i64 2])/\Below W.heap.size W w'):=fun W=>zMc hl h i W
 have K19:Hid (∀W,Calls Tryz.prog 19 #[.agg #[.int .i64 0,.slice none 0 0,.slice none 0 0,.slice none 0 0],.agg #[.int .i64 0,.slice none 0 0,.slice none 0 0,.slice none 0 0]] W fun e w'=>e=.returned (.bool true)/\Below W.heap.size W w'):=fun W=>zG3 .zero ⟨none,0,none,0,none,0⟩ ⟨none,0,none,0,none,0⟩ W (by refine⟨?_,?_,?_⟩<;>simp[Vc.zero]) (zAi.zero _) (zAi.zero _)
 have K20:=zA3 (fun W=>zQt hl h (.slice a cs.length cp) W)
 have K21:Hid (∀W,Calls Tryz.prog 21 #[.slice none 0 0,.slice none 0 0] W fun e w'=>e=.returned (.bool true)/\Below W.heap.size W w'):=fun W=>zDl none none 0 0 [] W (by unfold maxLen;simp) (by simp) (.inl rfl) (.inl rfl)
 obtain⟨s,hs⟩:∃s,bs l=s:=⟨_,rfl⟩
 rw[hs] at K8 K9 K10 K12 K13 K14 K16 K20 ⊢
 have HA:=zA3 ha
 clear h hl hs ha
 have icl:(cs.length:Int)<=1048576:=by omega
 go_enter Tryz.func4,Tryz.ntmps4
 go_upto_region 10 with (first
  | (go_at_call 8;refine(zA0 K8 _).mono ?_;rintro _ w1 ⟨u,v,rfl,hb⟩;have Qa:=zA3 hb;clear hb)
  | (go_at_call 9;refine(zA0 K9 _).mono ?_;rintro _ w2 ⟨rfl,hb⟩;have Qz:=zA3 (zA2 (zA0 Qa) hb);clear hb)
  | (go_at_call 7;refine(zDu _ _).mono ?_;rintro _ w9 ⟨rfl,h9⟩;rw[h9];clear h9)
  | (go_at_call 10;refine(zA0 K10 _).mono ?_;rintro _ w3 ⟨rfl,hb⟩;have Yo:=zA3 (zA2 (zA0 Qz) hb);clear hb)
  | (go_at_call 12;refine(zA0 K12 _).mono ?_;rintro _ w4 ⟨ak,ck,rfl,hb⟩;have DB:=zA3 (zA2 (zA0 Yo) hb);clear hb)
  | (go_at_call 11;refine(zA0 K11 _ _ _).mono ?_;rintro _ w5 ⟨rfl,hb⟩;have yo:=zA3 (zA2 (zA0 DB) hb);clear hb)
  | (go_at_call 13;refine(zA0 K13 _).mono ?_;rintro _ w6 ⟨rfl,hb⟩;have HB6:=zA3 (zA2 (zA0 yo) hb);clear hb)
  | (go_at_call 14;refine(zA0 K14 _).mono ?_;rintro _ w7 ⟨rfl,hb⟩;have Zh:=zA3 (zA2 (zA1 (zA0 HB6) _) hb);have HR7:=zA3 (zA5 (zCF w6 0 zCq zCq zCq) hb);clear hb))
 obtain⟨⟨x0,x1,x2,x3⟩,_⟩:=zBX (zA0 HR7)
 have FA:=(zA0 HR7).lt
 have Jh:=zA3 (zA1 (zA0 Zh) (.cells #[.int .i64 0,.slice none 0 0,.slice none 0 0,.slice none 0 0] 39))
 go_upto_region 12 with (first
  | (go_at_call 7;refine(zDu _ _).mono ?_;rintro _ w9 ⟨rfl,h9⟩;rw[h9];clear h9)
  | (go_at_call 15;refine(zA0 K15 _).mono ?_;rintro _ w10 ⟨rfl,hb⟩;have JO:=zA3 (zA2 (zA0 Jh) hb);clear hb))
 clear x0 x1 x2 x3 FA
 go_upto_region 20 with (first
  | (go_at_call 16;refine(zA0 K16 _).mono ?_;rintro _ w11 ⟨rfl,hb⟩;have DF:=zA3 (zA1 (zA1 (zA2 (zA0 JO) hb) (.cells #[.int .i64 0,.slice none 0 0,.slice none 0 0,.slice none 0 0] 49)) (.cells #[.int .i64 0,.slice none 0 0,.slice none 0 0,.slice none 0 0] 49));clear hb)
  | (go_at_call 7;refine(zDu _ _).mono ?_;rintro _ w9 ⟨rfl,h9⟩;rw[h9];clear h9)
  | (go_at_call 19;refine(zA0 K19 _).mono ?_;rintro _ w12 ⟨rfl,hb⟩;have DE:=zA3 (zA2 (zA0 DF) hb);clear hb))
 go_wp2_with (go_at_call 20;refine(zA0 K20 _).mono ?_;rintro _ w13 ⟨rfl,hb⟩;have qU:=zA3 (zA2 (zA0 DE) hb);clear hb)
 go_loop[14,122] (fun g s=>∃j:Nat,j<=cs.length/\g=.int .i64 2/\s=.int .i64 (j:Int)) (fun _ s=>cs.length-(intOf s).toNat)
 case atStart=>exact⟨0,Nat.zero_le _,rfl,rfl⟩
 case round=>
  obtain⟨j,hj,rfl,rfl⟩:=hrel
  by_cases h8:j<cs.length
  ·have i8:(j:Int)<(cs.length:Int):=by omega
   obtain⟨c,hc⟩:∃c,cs[j]?=some c:=⟨_,zAf h8⟩
   obtain⟨b,o,rfl,q0⟩:=zDT ((zA0 HA).later (zA0 qU)) (show (cs.map (Value.int .i64))[j]?=some (.int .i64 c) by simp[hc])
   clear hc
   go_wp2
   exact⟨⟨j+1,by omega,rfl,by go_num⟩,by simp[intOf];omega⟩
  ·have i8:¬(j:Int)<(cs.length:Int):=by omega
   go_wp2
   go_loop[18,21] (fun v s=>v=.slice none 0 0/\s=.int .i64 0) (fun _ _=>0)
   case atStart=>exact⟨rfl,rfl⟩
   case round=>
    obtain⟨rfl,rfl⟩:=hrel
    go_wp2_with (first
     | (go_at_call 7;refine(zDu _ _).mono ?_;rintro _ w9 ⟨rfl,h9⟩;rw[h9];clear h9)
     | (go_at_call 21;refine(zA0 K21 _).mono ?_;rintro _ w14 ⟨rfl,hb⟩;have DC:=zA3 (zA2 (zA0 qU) hb);clear hb))
    go_ret
    exact⟨rfl,zA0 DC⟩
end Go.Proofs.YtekgpapophibcaaGreat
