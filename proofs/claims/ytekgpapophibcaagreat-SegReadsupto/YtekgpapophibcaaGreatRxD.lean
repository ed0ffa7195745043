import Derived.Test.YtekgpapophibcaaGreatRxC
import Derived.Test.YtekgpapophibcaaGreatRyO
import Derived.Test.YtekgpapophibcaaGreatSgB
set_option linter.unusedSimpArgs false
set_option linter.unusedVariables false
set_option maxHeartbeats 1000000
set_option maxRecDepth 100000
namespace Go.Proofs.YtekgpapophibcaaGreat
open Go.RowKit Go.Sort
theorem zFX{b count:Nat}{sch kind:Int}{w:World}(f:Nat)
  (hf:(sch=1/\f=163)∨(sch=2/\f=164)∨(sch=3/\f=165)) (QF:Calls Tryz.prog f #[.pointer (some ⟨b,0,none⟩),.int .i64 kind,.int .i64 count] w fun e w'=>e=dmg/\Gr w w' b) :
  Calls Tryz.prog 152 #[.pointer (some ⟨b,0,none⟩),.int .i64 sch,.int .i64 kind,.int .i64 count] w fun e w'=>e=dmg/\Gr w w' b:=by
 have HC:=zA3 QF
 clear QF
 rcases hf with ⟨rfl,rfl⟩|⟨rfl,rfl⟩|⟨rfl,rfl⟩
 ·go_enter Tryz.func152,Tryz.ntmps152
  go_wp2_with (go_at_call 163;refine(zA0 HC).mono ?_;rintro e w1 ⟨rfl,h1⟩)
  exact⟨rfl,rfl,h1⟩
 ·go_enter Tryz.func152,Tryz.ntmps152
  go_wp2_with (go_at_call 164;refine(zA0 HC).mono ?_;rintro e w1 ⟨rfl,h1⟩)
  exact⟨rfl,rfl,h1⟩
 ·go_enter Tryz.func152,Tryz.ntmps152
  go_wp2_with (go_at_call 165;refine(zA0 HC).mono ?_;rintro e w1 ⟨rfl,h1⟩)
  exact⟨rfl,rfl,h1⟩
theorem zKM{b count:Nat}{w:World}(QF:Calls Tryz.prog 166 #[.pointer (some ⟨b,0,none⟩),.int .i64 count] w fun e w'=>e=dmg/\Gr w w' b) :
  Calls Tryz.prog 152 #[.pointer (some ⟨b,0,none⟩),.int .i64 4,.int .i64 1,.int .i64 count] w fun e w'=>e=dmg/\Gr w w' b:=by
 have HC:=zA3 QF
 clear QF
 go_enter Tryz.func152,Tryz.ntmps152
 go_wp2_with (first
  | (go_at_call 150;refine(zAj _).mono ?_;rintro e w4 ⟨rfl,rfl⟩)
  | (go_at_call 166;refine(zA0 HC).mono ?_;rintro e w1 ⟨rfl,h1⟩))
 exact⟨rfl,rfl,h1⟩
theorem zKL{b count:Nat}{sch kind:Int}{w:World}(h1:sch≠1)(h2:sch≠2)(h3:sch≠3)(h4:¬(sch=4/\kind=1)) :
  Calls Tryz.prog 152 #[.pointer (some ⟨b,0,none⟩),.int .i64 sch,.int .i64 kind,.int .i64 count] w fun e w'=>e=dmg/\Gr w w' b:=by
 have e1:(sch == 1)=false:=by simpa using h1
 have e2:(sch == 2)=false:=by simpa using h2
 have e3:(sch == 3)=false:=by simpa using h3
 by_cases g:sch=4
 ·subst g
  have e5:(kind == 1)=false:=by simp;exact fun e=>h4 ⟨rfl,e⟩
  clear h1 h2 h3 h4
  go_enter Tryz.func152,Tryz.ntmps152
  go_wp2_with (go_at_call 150;refine(zBu _).mono ?_;rintro e w4 ⟨rfl,rfl⟩)
  exact⟨rfl,rfl,Gr.refl _ _⟩
 ·have e4:(sch == 4)=false:=by simpa using g
  clear h1 h2 h3 h4 g
  go_enter Tryz.func152,Tryz.ntmps152
  go_wp2_with (go_at_call 150;refine(zBu _).mono ?_;rintro e w4 ⟨rfl,rfl⟩)
  exact⟨rfl,rfl,Gr.refl _ _⟩
theorem zQ4{w w':World}{e:Ending}{b:Nat}(h:zFv w w' e b none):e=dmg/\Gr w w' b:=by
 rcases h with ⟨vs',r',v,he,_⟩|⟨_,he,hg⟩
 ·cases he
 ·exact⟨he,hg⟩
theorem zO2{b count sch:Nat}{kind:Int}{w:World}{l:List UInt8}(hc:count<=4096)(hk:kind=1∨kind=2)(h:Rd w b l)(hl:l.length<=140737488355328)(hv:zBa sch kind count l=none) :
  Calls Tryz.prog 152 #[.pointer (some ⟨b,0,none⟩),.int .i64 (sch:Int),.int .i64 kind,.int .i64 count] w fun e w'=>e=dmg/\Gr w w' b:=by
 unfold zBa at hv
 split at hv
 ·rename_i hs
  subst hs
  refine zFX 163 (.inl ⟨rfl,rfl⟩) ?_
  have:=zCe b count kind l w hk (by omega) h hl
  rw[hv] at this
  exact this.mono fun e w' h=>zQ4 h
 ·rename_i n1
  split at hv
  ·rename_i hs
   subst hs
   exact zFX 164 (.inr (.inl ⟨rfl,rfl⟩)) (zT7 hc hk h hl hv)
  ·rename_i n2
   split at hv
   ·rename_i hs
    subst hs
    exact zFX 165 (.inr (.inr ⟨rfl,rfl⟩)) (zQd hc hk h hl hv)
   ·rename_i n3
    split at hv
    ·rename_i hs
     obtain⟨rfl,rfl⟩:=hs
     refine zKM ?_
     have:=zGt b count l w hc h hl
     rw[hv] at this
     exact this.mono fun e w' h=>zQ4 h
    ·rename_i n4
     exact zKL (by omega) (by omega) (by omega) (fun ⟨g1,g2⟩=>n4 ⟨by omega,g2⟩)
theorem zPM{b n:Nat}{l3 l4:List UInt8}{nl:List Bool}(hn:n<=4096)(hl:l3.length<=140737488355328)(h4:zBp n l3=some (nl,l4))(W:World)(hW:Rd W b l3) :
  Calls Tryz.prog 151 #[.pointer (some ⟨b,0,none⟩),.int .i64 n] W fun e w'=>∃g,e=.returned (.tuple #[.slice (some ⟨g,0,none⟩) n n,.int .i64 (nl.count true:Nat)])/\w'.rowIs g 4 n (fun j=>.bool (nl.getD j false))/\W.heap.size<=g/\Rd w' b l4/\Gr W w' b:=by
 have:=zGw b n l3 W hn hW hl
 rw[h4] at this
 refine this.mono ?_
 rintro e w' (⟨nl',r',g,he,g1,g2,g3,g4,g5,g6⟩|⟨he,_⟩)
 ·injection he with he;injection he with e1 e2;subst e1;subst e2
  exact⟨g,g1,g2,g4,g5,g6⟩
 ·cases he
theorem zTM{b n:Nat}{l3:List UInt8}(hn:n<=4096)(hl:l3.length<=140737488355328)(h4:zBp n l3=none)(W:World)(hW:Rd W b l3) :
  Calls Tryz.prog 151 #[.pointer (some ⟨b,0,none⟩),.int .i64 n] W fun e w'=>e=dmg/\Gr W w' b:=by
 have:=zGw b n l3 W hn hW hl
 rw[h4] at this
 refine this.mono ?_
 rintro e w' (⟨nl',r',g,he,_⟩|⟨_,he,hg⟩)
 ·cases he
 ·exact⟨he,hg⟩
theorem zHw:∀m:List Bool,m.count false+m.count true=m.length:=by
 intro m
 induction m with
 | nil=>rfl
 | cons a m ih=>cases a<;>simp[List.count_cons]<;>omega
theorem zTh{b:Nat}{l:List UInt8}{w:World}(h:Rd w b l)(hl:l.length<=140737488355328)(h1:zBB 1 l=none) :
  Calls Tryz.prog 122 #[.pointer (some ⟨b,0,none⟩)] w fun e w'=>e=dmg/\Gr w w' b:=by
 have C1:=zA3 (fun o=>zDC (h.alloc o) hl h1)
 clear h
 go_enter Tryz.func122,Tryz.ntmps122
 go_wp2_with (go_at_call 149;refine(zA0 C1 _).mono ?_;rintro e w1 ⟨rfl,rfl⟩)
 exact⟨rfl,rfl,Gr.alloc _ _ _⟩
theorem zTg{b sch:Nat}{l l1:List UInt8}{w:World}(h:Rd w b l)(hl:l.length<=140737488355328)(h1:zBB 1 l=some (sch,l1))(h2:zBB 1 l1=none) :
  Calls Tryz.prog 122 #[.pointer (some ⟨b,0,none⟩)] w fun e w'=>e=dmg/\Gr w w' b:=by
 have b1:=zAo h1
 have ZV:=zEK h1
 have C1:=zA3 (fun o=>zAT (h.alloc o) hl h1 (by decide))
 have C2:=zA3 (fun W (hW:Rd W b l1)=>zDC hW (by omega) h2)
 clear h
 go_enter Tryz.func122,Tryz.ntmps122
 go_wp2_with (go_at_call 149;first | (refine(zA0 C2 _ Hq).mono ?_;rintro e w2 ⟨rfl,rfl⟩) | (refine(zA0 C1 _).mono ?_;rintro e w1 ⟨rfl,Hq,Hn⟩))
 exact⟨rfl,rfl,Hn.of_alloc⟩
theorem zTf{b sch kd:Nat}{l l1 l2:List UInt8}{w:World}(h:Rd w b l)(hl:l.length<=140737488355328)(h1:zBB 1 l=some (sch,l1))(h2:zBB 1 l1=some (kd,l2))(hk:¬(kd=1∨kd=2)) :
  Calls Tryz.prog 122 #[.pointer (some ⟨b,0,none⟩)] w fun e w'=>e=dmg/\Gr w w' b:=by
 have b1:=zAo h1
 have ZV:=zEK h1
 have YG:=zEK h2
 have C1:=zA3 (fun o=>zAT (h.alloc o) hl h1 (by decide))
 have C2:=zA3 (fun W (hW:Rd W b l1)=>zAT hW (by omega) h2 (by decide))
 have k1:((kd:Int) == 1)=false:=by simp;omega
 have k2:((kd:Int) == 2)=false:=by simp;omega
 clear h hk
 go_enter Tryz.func122,Tryz.ntmps122
 go_wp2_with (first
  | (go_at_call 149;first | (refine(zA0 C2 _ Hq).mono ?_;rintro e w2 ⟨rfl,Hu,Hj⟩) | (refine(zA0 C1 _).mono ?_;rintro e w1 ⟨rfl,Hq,Hn⟩))
  | (go_at_call 150;refine(zBu _).mono ?_;rintro e wE ⟨rfl,rfl⟩))
 exact⟨rfl,rfl,Hn.of_alloc.trans Hj⟩
theorem zTe{b sch kd:Nat}{l l1 l2:List UInt8}{w:World}(h:Rd w b l)(hl:l.length<=140737488355328)(h1:zBB 1 l=some (sch,l1))(h2:zBB 1 l1=some (kd,l2))(hk:kd=1∨kd=2)(h3:zBB 4 l2=none) :
  Calls Tryz.prog 122 #[.pointer (some ⟨b,0,none⟩)] w fun e w'=>e=dmg/\Gr w w' b:=by
 have b1:=zAo h1
 have b2:=zAo h2
 have ZV:=zEK h1
 have C1:=zA3 (fun o=>zAT (h.alloc o) hl h1 (by decide))
 have C2:=zA3 (fun W (hW:Rd W b l1)=>zAT hW (by omega) h2 (by decide))
 have C3:=zA3 (fun W (hW:Rd W b l2)=>zDC hW (by omega) h3)
 clear h h2
 rcases hk with rfl|rfl
 all_goals
  go_enter Tryz.func122,Tryz.ntmps122
  go_wp2_with (first
   | (go_at_call 149;first | (refine(zA0 C3 _ Hu).mono ?_;rintro e w3 ⟨rfl,rfl⟩) | (refine(zA0 C2 _ Hq).mono ?_;rintro e w2 ⟨rfl,Hu,Hj⟩) | (refine(zA0 C1 _).mono ?_;rintro e w1 ⟨rfl,Hq,Hn⟩))
   | (go_at_call 150;refine(zAj _).mono ?_;rintro e wE ⟨rfl,rfl⟩))
  exact⟨rfl,rfl,Hn.of_alloc.trans Hj⟩
theorem zTd{b sch kd n:Nat}{l l1 l2 l3:List UInt8}{w:World}(h:Rd w b l)(hl:l.length<=140737488355328)(h1:zBB 1 l=some (sch,l1))(h2:zBB 1 l1=some (kd,l2))(hk:kd=1∨kd=2)(h3:zBB 4 l2=some (n,l3))(hn:¬n<=4096) :
  Calls Tryz.prog 122 #[.pointer (some ⟨b,0,none⟩)] w fun e w'=>e=dmg/\Gr w w' b:=by
 have b1:=zAo h1
 have b2:=zAo h2
 have ZV:=zEK h1
 have C1:=zA3 (fun o=>zAT (h.alloc o) hl h1 (by decide))
 have C2:=zA3 (fun W (hW:Rd W b l1)=>zAT hW (by omega) h2 (by decide))
 have C3:=zA3 (fun W (hW:Rd W b l2)=>zAT hW (by omega) h3 (by decide))
 have QS:Hid (decide ((n:Int)<=4096)=false):=decide_eq_false (by omega)
 clear h h2 hn h3
 rcases hk with rfl|rfl
 all_goals
  go_enter Tryz.func122,Tryz.ntmps122
  go_wp2_with (first
   | (go_at_call 149;first | (refine(zA0 C3 _ Hu).mono ?_;rintro e w3 ⟨rfl,Qt,Qw⟩) | (refine(zA0 C2 _ Hq).mono ?_;rintro e w2 ⟨rfl,Hu,Hj⟩) | (refine(zA0 C1 _).mono ?_;rintro e w1 ⟨rfl,Hq,Hn⟩))
   | (go_at_call 150;first | (refine(zAj _).mono ?_;rintro e wE ⟨rfl,rfl⟩) | (refine(zDF _ (zA0 QS) _).mono ?_;rintro e wF ⟨rfl,rfl⟩)))
  exact⟨rfl,rfl,(Hn.of_alloc.trans Hj).trans Qw⟩
theorem zTc{b sch kd n:Nat}{l l1 l2 l3:List UInt8}{w:World}(h:Rd w b l)(hl:l.length<=140737488355328)(h1:zBB 1 l=some (sch,l1))(h2:zBB 1 l1=some (kd,l2))(hk:kd=1∨kd=2)(h3:zBB 4 l2=some (n,l3))(hn:n<=4096)(h4:zBp n l3=none) :
  Calls Tryz.prog 122 #[.pointer (some ⟨b,0,none⟩)] w fun e w'=>e=dmg/\Gr w w' b:=by
 have b1:=zAo h1
 have b2:=zAo h2
 have b3:=zAo h3
 have ZV:=zEK h1
 have C1:=zA3 (fun o=>zAT (h.alloc o) hl h1 (by decide))
 have C2:=zA3 (fun W (hW:Rd W b l1)=>zAT hW (by omega) h2 (by decide))
 have C3:=zA3 (fun W (hW:Rd W b l2)=>zAT hW (by omega) h3 (by decide))
 have C4:=zA3 (zTM (b:=b) hn (by omega) h4)
 have hni:(n:Int)<=4096:=by omega
 clear h h2 h3 h4
 rcases hk with rfl|rfl
 all_goals
  go_enter Tryz.func122,Tryz.ntmps122
  go_wp2_with (first
   | (go_at_call 149;first | (refine(zA0 C3 _ Hu).mono ?_;rintro e w3 ⟨rfl,Qt,Qw⟩) | (refine(zA0 C2 _ Hq).mono ?_;rintro e w2 ⟨rfl,Hu,Hj⟩) | (refine(zA0 C1 _).mono ?_;rintro e w1 ⟨rfl,Hq,Hn⟩))
   | (go_at_call 150;refine(zAj _).mono ?_;rintro e wE ⟨rfl,rfl⟩)
   | (go_at_call 151;refine(zA0 C4 _ Qt).mono ?_;rintro e w4 ⟨rfl,Yh⟩))
  exact⟨rfl,rfl,((Hn.of_alloc.trans Hj).trans Qw).trans Yh⟩
theorem zTb{b sch kd n:Nat}{l l1 l2 l3 l4:List UInt8}{nl:List Bool}{w:World}(h:Rd w b l)(hl:l.length<=140737488355328)(h1:zBB 1 l=some (sch,l1))(h2:zBB 1 l1=some (kd,l2))(hk:kd=1∨kd=2)(h3:zBB 4 l2=some (n,l3))(hn:n<=4096)(h4:zBp n l3=some (nl,l4))(h5:zBa sch (kd:Int) (nl.count false) l4=none) :
  Calls Tryz.prog 122 #[.pointer (some ⟨b,0,none⟩)] w fun e w'=>e=dmg/\Gr w w' b:=by
 have b1:=zAo h1
 have b2:=zAo h2
 have b3:=zAo h3
 obtain⟨Yf,b4⟩:=zDd h4
 have DZ:=zHw nl
 have ZV:=zEK h1
 have C1:=zA3 (fun o=>zAT (h.alloc o) hl h1 (by decide))
 have C2:=zA3 (fun W (hW:Rd W b l1)=>zAT hW (by omega) h2 (by decide))
 have C3:=zA3 (fun W (hW:Rd W b l2)=>zAT hW (by omega) h3 (by decide))
 have C4:=zA3 (zPM (b:=b) hn (by omega) h4)
 have JT:((kd:Int))=1∨(kd:Int)=2:=by omega
 have yO:nl.count false<=4096:=by omega
 have C5:=zA3 (fun W (hW:Rd W b l4)=>zO2 yO JT hW (by omega) h5)
 have hni:(n:Int)<=4096:=by omega
 obtain⟨cT,Fb⟩:∃cT,cT=nl.count true:=⟨_,rfl⟩
 obtain⟨cF,Fc⟩:∃cF,cF=nl.count false:=⟨_,rfl⟩
 rw[<-Fb] at C4
 rw[<-Fc] at C5
 have e1:(n:Int)-(cT:Int)=(cF:Int):=by omega
 have hcTn:cT<=n:=by omega
 clear h h2 h3 h4 h5 DZ Fb Fc Yf yO
 rcases hk with rfl|rfl
 all_goals
  go_enter Tryz.func122,Tryz.ntmps122
  go_wp2_with (first
   | (go_at_call 149;first | (refine(zA0 C3 _ Hu).mono ?_;rintro e w3 ⟨rfl,Qt,Qw⟩) | (refine(zA0 C2 _ Hq).mono ?_;rintro e w2 ⟨rfl,Hu,Hj⟩) | (refine(zA0 C1 _).mono ?_;rintro e w1 ⟨rfl,Hq,Hn⟩))
   | (go_at_call 150;refine(zAj _).mono ?_;rintro e wE ⟨rfl,rfl⟩)
   | (go_at_call 151;refine(zA0 C4 _ Qt).mono ?_;rintro e w4 ⟨g,rfl,Zv,TR,Gy,Yh⟩)
   | (go_at_call 152;refine(zA0 C5 _ Gy).mono ?_;rintro e w5 ⟨rfl,QI⟩))
  exact⟨rfl,rfl,(((Hn.of_alloc.trans Hj).trans Qw).trans Yh).trans QI⟩
theorem zTa{b sch kd n:Nat}{l l1 l2 l3 l4 r:List UInt8}{nl:List Bool}{vs:List Val}{w:World}(h:Rd w b l)(hl:l.length<=140737488355328)(h1:zBB 1 l=some (sch,l1))(h2:zBB 1 l1=some (kd,l2))(hk:kd=1∨kd=2)(h3:zBB 4 l2=some (n,l3))(hn:n<=4096)(h4:zBp n l3=some (nl,l4))(h5:zBa sch (kd:Int) (nl.count false) l4=some (vs,r))(hr:r≠[]) :
  Calls Tryz.prog 122 #[.pointer (some ⟨b,0,none⟩)] w fun e w'=>e=dmg/\Gr w w' b:=by
 have b1:=zAo h1
 have b2:=zAo h2
 have b3:=zAo h3
 obtain⟨Yf,b4⟩:=zDd h4
 have DZ:=zHw nl
 have ZV:=zEK h1
 have C1:=zA3 (fun o=>zAT (h.alloc o) hl h1 (by decide))
 have C2:=zA3 (fun W (hW:Rd W b l1)=>zAT hW (by omega) h2 (by decide))
 have C3:=zA3 (fun W (hW:Rd W b l2)=>zAT hW (by omega) h3 (by decide))
 have C4:=zA3 (zPM (b:=b) hn (by omega) h4)
 have JT:((kd:Int))=1∨(kd:Int)=2:=by omega
 have yO:nl.count false<=4096:=by omega
 have C5:=zA3 (fun W (hW:Rd W b l4)=>zHQ yO JT hW (by omega) h5)
 have hni:(n:Int)<=4096:=by omega
 obtain⟨cT,Fb⟩:∃cT,cT=nl.count true:=⟨_,rfl⟩
 obtain⟨cF,Fc⟩:∃cF,cF=nl.count false:=⟨_,rfl⟩
 rw[<-Fb] at C4
 rw[<-Fc] at C5
 have e1:(n:Int)-(cT:Int)=(cF:Int):=by omega
 have hcTn:cT<=n:=by omega
 have Fg:Hid ((bs r).toList.isEmpty=false):=by
  show _=_
  cases hq:(bs r).toList.isEmpty with
  | false=>rfl
  | true=>
   have:=congrArg List.length (List.isEmpty_iff.1 hq)
   cases r with
   | nil=>exact absurd rfl hr
   | cons a r=>simp[bs,ByteArray.toList_eq] at this
 clear h h2 h3 h4 h5 DZ Fb Fc Yf yO
 rcases hk with rfl|rfl
 all_goals
  go_enter Tryz.func122,Tryz.ntmps122
  go_wp2_with (first
   | (go_at_call 149;first | (refine(zA0 C3 _ Hu).mono ?_;rintro e w3 ⟨rfl,Qt,Qw⟩) | (refine(zA0 C2 _ Hq).mono ?_;rintro e w2 ⟨rfl,Hu,Hj⟩) | (refine(zA0 C1 _).mono ?_;rintro e w1 ⟨rfl,Hq,Hn⟩))
   | (go_at_call 150;first | (refine(zAj _).mono ?_;rintro e wE ⟨rfl,rfl⟩) | (refine(zDF _ (zA0 Fg) _).mono ?_;rintro e wF ⟨rfl,rfl⟩))
   | (go_at_call 151;refine(zA0 C4 _ Qt).mono ?_;rintro e w4 ⟨g,rfl,Zv,TR,Gy,Yh⟩)
   | (go_at_call 152;refine(zA0 C5 _ Gy).mono ?_;rintro e w5 ⟨v5,rfl,ZP,YS,QI⟩;obtain⟨a5,c5,rfl,_,_,Jr⟩:=zAC ZP;have c9:w5.cell? ⟨b,0,none⟩=some (.string (bs r)):=YS.cell))
  exact⟨rfl,rfl,(((Hn.of_alloc.trans Hj).trans Qw).trans Yh).trans QI⟩
theorem zQ7{b:Nat}{l:List UInt8}{w:World}(h:Rd w b l)(hl:l.length<=140737488355328)(hd:zB7 l=none) :
  Calls Tryz.prog 122 #[.pointer (some ⟨b,0,none⟩)] w fun e w'=>e=dmg/\Gr w w' b:=by
 unfold zB7 at hd
 cases h1:zBB 1 l with
 | none=>exact zTh h hl h1
 | some a=>
  obtain⟨sch,l1⟩:=a
  rw[h1,Option.bind_some] at hd
  cases h2:zBB 1 l1 with
  | none=>exact zTg h hl h1 h2
  | some q=>
   obtain⟨kd,l2⟩:=q
   simp only[h2,Option.bind_some] at hd
   by_cases hk:kd=1∨kd=2
   ·rw[if_pos hk] at hd
    cases h3:zBB 4 l2 with
    | none=>exact zTe h hl h1 h2 hk h3
    | some q=>
     obtain⟨n,l3⟩:=q
     simp only[h3,Option.bind_some] at hd
     by_cases hn:n<=4096
     ·rw[if_pos hn] at hd
      cases h4:zBp n l3 with
      | none=>exact zTc h hl h1 h2 hk h3 hn h4
      | some q=>
       obtain⟨nl,l4⟩:=q
       simp only[h4,Option.bind_some] at hd
       cases h5:zBa sch (kd:Int) (nl.count false) l4 with
       | none=>exact zTb h hl h1 h2 hk h3 hn h4 h5
       | some q=>
        obtain⟨vs,r⟩:=q
        simp only[h5,Option.bind_some] at hd
        by_cases hr:r=[]
        ·rw[if_pos hr] at hd;cases hd
        ·exact zTa h hl h1 h2 hk h3 hn h4 h5 hr
     ·exact zTd h hl h1 h2 hk h3 hn
   ·exact zTf h hl h1 h2 hk
theorem zSq{P:Program}{c:Code}{Q:Exit->Act->World->Prop}{T T':Array Value}{ds:List Deferred}{w:World}(e:T=T')(h:c.wp P Q { tmps:=T',defers:=ds } w):c.wp P Q { tmps:=T,defers:=ds } w:=e ▸ h
theorem zQH(g h:Nat)(w:World)(hg:w.rowIs g 148 3 (zNO (.int .i64 0) (.int .i64 0) (.slice none 0 0)))(hh:At1 w h 24 (.int .i64 0))(hgh:g≠h) :
  CallsD Tryz.prog 121 #[.pointer (some ⟨g,0,none⟩),.pointer (some ⟨h,0,none⟩)] (.panicking [{ v:=.iface 171 (.agg #[]),recovered:=false }]) w fun e u' w'=>e=.returned (.tuple #[])/\u'=.panicking [{ v:=.iface 171 (.agg #[]),recovered:=true }]/\w'=((((w.alloc (.cells #[] 171)).setCell ⟨g,0,none⟩ (.int .i64 0)).setCell ⟨g,1,none⟩ (.int .i64 0)).setCell ⟨g,2,none⟩ (.slice none 0 0)).setCell ⟨h,0,none⟩ (.int .i64 2):=by
 obtain⟨p0,p1,p2,q0,q1,q2⟩:=zDx (hg.alloc (.cells #[] 171))
 have y0:=(hh.new (.cells #[] 171)).cell
 have z0:=World.rowIs.frozen (hh.new (.cells #[] 171)) 0
 have hta:∀w:World,(Instr.typeAssert (Value.iface 171 (Value.agg #[])) 20 171 true).run Tryz.prog w=.ok (.tuple #[.agg #[],.bool true]) w:=fun _=>by kernel_rfl
 refine callsD_of_wpS Tryz.func121 rfl fun c₀ cs hu=>?_
 apply wpS_seq
 apply wpS_region
 simp[wpOpsS,go_sem,recoverD,hu,Tryz.ntmps121,Exit.thenS]
 refine wpS_of_wp ?_
 refine zSq (T':=#[.pointer (some ⟨g,0,none⟩),.pointer (some ⟨h,0,none⟩),.iface 171 (.agg #[]),undef,undef,.iface 171 (.agg #[]),undef,undef,undef,undef,undef,undef,undef,undef,undef,undef,undef]) (by rfl) ?_
 go_wp2
 exact⟨rfl,_,rfl,_,by simp[results,Tryz.results121,go_sem],rfl,rfl,rfl⟩
theorem zPB{l:List UInt8}{w:World}(hl:l.length<=140737488355328)(hd:zB7 l=none) :
  Calls Tryz.prog 102 #[.string (bs l)] w fun e w'=>e=.returned (.tuple #[.agg #[.int .i64 0,.int .i64 0,.slice none 0 0],.int .i64 2])/\Below w.heap.size w w':=by
 have hmf:=zEM
 have HC:Hid (∀o1 o2,Calls Tryz.prog 122 #[.pointer (some ⟨w.heap.size+1+1,0,none⟩)] (((w.alloc o1).alloc o2).alloc (.cells #[.string (bs l)] 174)) fun e w'=>e=dmg/\Gr (((w.alloc o1).alloc o2).alloc (.cells #[.string (bs l)] 174)) w' (w.heap.size+1+1)):=fun o1 o2=>by
  have h:=Rd.made ((w.alloc o1).alloc o2) l
  have e:((w.alloc o1).alloc o2).heap.size=w.heap.size+1+1:=by simp
  rw[e] at h
  exact zQ7 h hl hd
 have HX:Hid (∀w1 o,Gr (((w.alloc (.cells #[.int .i64 0,.int .i64 0,.slice none 0 0] 148)).alloc (.cells #[.int .i64 0] 24)).alloc o) w1 (w.heap.size+1+1)->w1.rowIs w.heap.size 148 3 (zNO (.int .i64 0) (.int .i64 0) (.slice none 0 0))/\At1 w1 (w.heap.size+1) 24 (.int .i64 0)):=fun w1 o hg=>by
  refine⟨zC8 (((zEy w _ _ _).alloc _).alloc _) hg (by omega),?_⟩
  have h:=At1.alloc (w.alloc (.cells #[.int .i64 0,.int .i64 0,.slice none 0 0] 148)) 24 (.int .i64 0)
  have e:(w.alloc (.cells #[.int .i64 0,.int .i64 0,.slice none 0 0] 148)).heap.size=w.heap.size+1:=by simp
  rw[e] at h
  exact(h.new o).gr hg (by omega)
 go_enter_defers Tryz.func102,Tryz.ntmps102
 go_wp2_with (go_at_call 122;refine(zA0 HC _ _).mono ?_;rintro e w1 ⟨rfl,Hn⟩;obtain⟨GR,Ji⟩:=zA0 HX w1 _ Hn)
 refine leaves_cons (f:=121) (args:=#[.pointer (some ⟨w.heap.size,0,none⟩),.pointer (some ⟨w.heap.size+1,0,none⟩)]) (by simp) (by simp[go_sem]) ?_
 refine(zQH w.heap.size (w.heap.size+1) _ GR Ji (by omega)).mono ?_
 rintro e u' w'' ⟨rfl,rfl,hw⟩
 have hz:w.heap.size+1+1+1<=w1.heap.size:=by have:=Hn.size;simpa using this
 have hb:Below w.heap.size w w1:=by
  refine⟨Hn.os,Hn.tape,Hn.output,by omega,fun i hi=>?_⟩
  rw[Hn.block i (by simp;omega) (fun e=>by injection e with e;omega),Below.heap_alloc _ _ _ (by simp;omega),Below.heap_alloc _ _ _ (by simp;omega),Below.heap_alloc _ _ _ hi]
 have hB:Below w.heap.size w w'':=by
  rw[hw]
  exact((((zA1 hb _).setCell (p:=⟨w.heap.size,0,none⟩) (Nat.le_refl _) _).setCell (p:=⟨w.heap.size,1,none⟩) (Nat.le_refl _) _).setCell (p:=⟨w.heap.size,2,none⟩) (Nat.le_refl _) _).setCell (p:=⟨w.heap.size+1,0,none⟩) (by simp) _
 have hx3:w''.rowIs w.heap.size 148 3 (zNO (.int .i64 0) (.int .i64 0) (.slice none 0 0)):=by
  rw[hw]
  refine World.rowIs.setOther ?_ (by simp) _
  refine World.rowIs.congr (World.rowIs.set (World.rowIs.set (World.rowIs.set (World.rowIs.alloc GR (.cells #[] 171)) 0 (.int .i64 0)) 1 (.int .i64 0)) 2 (.slice none 0 0)) ?_
  intro i hi
  match i,hi with
  | 0,_=>rfl
  | 1,_=>rfl
  | 2,_=>rfl
 have hx4:At1 w'' (w.heap.size+1) 24 (.int .i64 2):=by
  rw[hw]
  refine World.rowIs.congr (World.rowIs.set (World.rowIs.setOther (World.rowIs.setOther (World.rowIs.setOther (World.rowIs.alloc Ji (.cells #[] 171)) (by simp) _) (by simp) _) (by simp) _) 0 (.int .i64 2)) ?_
  intro i hi
  have e0:i=0:=by omega
  subst e0
  simp
 obtain⟨p0,p1,p2,q0,q1,q2⟩:=zDx hx3
 have y0:=hx4.cell
 clear hw GR Ji
 refine⟨.tuple #[.agg #[.int .i64 0,.int .i64 0,.slice none 0 0],.int .i64 2],?_,rfl,hB⟩
 simp[results,Tryz.results102,go_sem,p0,p1,p2,y0]
def zUq(s:ByteArray):Prop:=∀W,Calls Tryz.prog 102 #[.string s] W fun e w'=>e=.returned (.tuple #[.agg #[.int .i64 0,.int .i64 0,.slice none 0 0],.int .i64 2])/\Below W.heap.size W w'
theorem zT1{s:ByteArray}(hl:s.size<=140737488355328)(h:zB7 s.data.toList=none):zUq s:=fun W=>by
 have:=zPB (w:=W) (by rw[Array.length_toList];exact hl) h
 rw[zTl] at this
 exact this
theorem zRF{s:ByteArray}(h:zUq s)(w:World):Calls Tryz.prog 94 #[.string s] w fun e w'=>e=.returned (.tuple #[zAa,.int .i64 2])/\Below w.heap.size w w':=by
 have H:=zA3 h
 clear h
 go_enter Tryz.func94,Tryz.ntmps94
 go_wp2_with (go_at_call 102;refine(zA0 H _).mono ?_;rintro e w1 ⟨rfl,Hb⟩;obtain⟨⟨b0,b1,b2,b3⟩,q0,q1,q2,q3⟩:=zBo (zA1 Hb (.cells #[.int .i64 0,.int .i64 0,.slice none 0 0] 148)))
 refine bodyPost_ret (v:=.tuple #[zAa,.int .i64 2]) (by simp[results,Tryz.results94,go_sem,zAa, *]) rfl ⟨rfl,?_⟩
 exact put4 (zA1 (zAP Hb) _) _ _ _ _
abbrev zE3:Obj:=.cells #[.int .i64 0,.int .i64 0,.string ⟨#[]⟩] 59
theorem zBQ{w W:World}{B:Nat}{o:Obj}(hB:B=w.heap.size)(ho:o=zE3)(h:Below (w.alloc o).heap.size (w.alloc o) W) :
  (W.cell? ⟨B,0,none⟩=some (.int .i64 0)/\W.cell? ⟨B,1,none⟩=some (.int .i64 0)/\W.cell? ⟨B,2,none⟩=some (.string ⟨#[]⟩))/\(W.frozen? ⟨B,0,none⟩=false/\W.frozen? ⟨B,1,none⟩=false/\W.frozen? ⟨B,2,none⟩=false):=by
 subst hB ho
 obtain⟨h0,h1,h2,f0,f1,f2⟩:=zA9 (zA5 (zAs w Val.null) h)
 exact⟨⟨h0,h1,h2⟩,f0,f1,f2⟩
theorem put3{w W:World}{B:Nat}(hb:Below w.heap.size w W)(hB:w.heap.size<=B)(u v x:Value):Below w.heap.size w (((W.setCell ⟨B,0,none⟩ u).setCell ⟨B,1,none⟩ v).setCell ⟨B,2,none⟩ x):=
 (((hb.setCell (by simpa using hB) _).setCell (by simpa using hB) _).setCell (by simpa using hB) _)
set_option maxHeartbeats 2000000
theorem zP4(x y:Val)(w:World):Calls Tryz.prog 104 #[.agg #[.int .i64 x.k,.int .i64 x.n,.string x.s],.agg #[.int .i64 y.k,.int .i64 y.n,.string y.s]] w fun e w'=>e=.returned (.int .i64 (zAh x y))/\Below w.heap.size w w':=zJa x y w
theorem zKn(x:Val)(w:World):Calls Tryz.prog 103 #[.agg #[.int .i64 x.k,.int .i64 x.n,.string x.s]] w fun e w'=>e=.returned (.bool (x.k == 0))/\Below w.heap.size w w':=zEG x w
theorem zUf{s:ByteArray}(h:zUq s)(w:World):Calls Tryz.prog 79 #[.string s] w fun e w'=>e=.returned (.tuple #[Val.null.v,Val.null.v,.int .i64 0,.int .i64 2])/\Below w.heap.size w w':=by
 have H:=zA3 h
 clear h
 go_enter Tryz.func79,Tryz.ntmps79
 go_wp2_with (go_at_call 102;refine(zA0 H _).mono ?_;rintro e w1 ⟨rfl,Hb⟩;obtain⟨⟨b0,b1,b2⟩,q0,q1,q2⟩:=zBQ (B:=w.heap.size+1) (w:=w.alloc zE3) (by simp) rfl (zA1 Hb (.cells #[.int .i64 0,.int .i64 0,.slice none 0 0] 148));obtain⟨⟨d0,d1,d2⟩,r0,r1,r2⟩:=zBQ (B:=w.heap.size) (w:=w) rfl rfl (zA1 (zAP Hb) (.cells #[.int .i64 0,.int .i64 0,.slice none 0 0] 148)))
 refine bodyPost_ret (v:=.tuple #[Val.null.v,Val.null.v,.int .i64 0,.int .i64 2]) (by simp[results,Tryz.results79,go_sem,Val.v,Val.null, *]) rfl ⟨rfl,?_⟩
 exact put3 (put3 (zA1 (zAP (zAP Hb)) _) (Nat.le_refl _) _ _ _) (by omega) _ _ _
theorem zDy{w:World}{g:Nat}{x:Val}(h:w.rowIs g 59 3 (zDU x))(y:Val):(((w.setCell ⟨g,0,none⟩ (.int .i64 y.k)).setCell ⟨g,1,none⟩ (.int .i64 y.n)).setCell ⟨g,2,none⟩ (.string y.s)).rowIs g 59 3 (zDU y):=
 World.rowIs.congr (World.rowIs.set (World.rowIs.set (World.rowIs.set h 0 (.int .i64 y.k)) 1 (.int .i64 y.n)) 2 (.string y.s)) (fun i hi=>by
  match i,hi with
  | 0,_=>rfl
  | 1,_=>rfl
  | 2,_=>rfl)
theorem zBl{w:World}{g B:Nat}{x:Val}(h:w.rowIs g 59 3 (zDU x))(Hg:g≠B)(u v z:Value):(((w.setCell ⟨B,0,none⟩ u).setCell ⟨B,1,none⟩ v).setCell ⟨B,2,none⟩ z).rowIs g 59 3 (zDU x):=
 World.rowIs.setOther (World.rowIs.setOther (World.rowIs.setOther h Hg _) Hg _) Hg _
def Tri(W:World)(a b c:Nat)(L G x:Val):Prop:=W.rowIs a 59 3 (zDU L)/\W.rowIs b 59 3 (zDU G)/\W.rowIs c 59 3 (zDU x)
theorem Tri.later{W W':World}{a b c:Nat}{L G x:Val}(h:Tri W a b c L G x)(hb:Below W.heap.size W W'):Tri W' a b c L G x:=⟨zA5 h.1 hb,zA5 h.2.1 hb,zA5 h.2.2 hb⟩
theorem zQw{s:ByteArray}{sch:Nat}{kind:Int}{xs:List Val}(h:zSM s sch kind xs)(hl:xs.length<=4096)(w:World) :
  Calls Tryz.prog 79 #[.string s] w fun e w'=>e=.returned (.tuple #[(zBR xs xs.length).1.v,(zBR xs xs.length).2.1.v,.int .i64 ((zBR xs xs.length).2.2:Nat),.int .i64 0])/\Below w.heap.size w w':=by
 have H:=zA3 h
 clear h
 obtain⟨R,hR⟩:∃R,R=zBR xs xs.length:=⟨_,rfl⟩
 rw[<-hR]
 have HR:=zA3 hR
 clear hR
 go_enter Tryz.func79,Tryz.ntmps79
 go_wp2_with (go_at_call 102;refine(zA0 H _).mono ?_;rintro e w1 ⟨a,c,rfl,Hq,Hb⟩)
 have GH:=zA1 (zAP (zAP Hb)) (.cells #[.int .i64 (sch:Int),.int .i64 kind,.slice a xs.length c] 148)
 have Ge:=zA1 (zAP Hb) (.cells #[.int .i64 (sch:Int),.int .i64 kind,.slice a xs.length c] 148)
 have Df:=zA1 Hb (.cells #[.int .i64 (sch:Int),.int .i64 kind,.slice a xs.length c] 148)
 have Hu:=Hq.later (zA1 (Below.refl _ _) (.cells #[.int .i64 (sch:Int),.int .i64 kind,.slice a xs.length c] 148))
 obtain⟨W,hW⟩:∃W,W=w1.alloc (.cells #[.int .i64 (sch:Int),.int .i64 kind,.slice a xs.length c] 148):=⟨_,rfl⟩
 have Qc:W.cell? ⟨w1.heap.size,2,none⟩=some (.slice a xs.length c):=by rw[hW];simp[go_sem]
 have hWs:W.heap.size=w1.heap.size+1:=by rw[hW];simp
 have Qp:w.heap.size+1+1<=w1.heap.size:=by have:=Hb.size;simp at this;omega
 rw[<-hW] at GH Ge Df Hu ⊢
 have Qa:=zA3 GH
 have Qz:=zA3 Ge
 have Yo:=zA3 Df
 have YY:=zA3 Hu
 have HA8:Hid (((W.alloc zE3).alloc zE3).rowIs (w1.heap.size+1) 59 3 (zDU Val.null)):=by rw[<-hWs];exact World.rowIs.alloc (zAs W Val.null) _
 have HA9:Hid (((W.alloc zE3).alloc zE3).rowIs (w1.heap.size+1+1) 59 3 (zDU Val.null)):=by
  have:=zAs (W.alloc zE3) Val.null
  rw[zDS,hWs] at this
  exact this
 have hzW:w.heap.size+1+1<=W.heap.size:=by omega
 have Dj:=zA3 hWs
 clear GH Ge Df Hq Hu hW Hb hWs hzW
 go_loopw[10,26] (fun v i wr=>∃(k:Nat) (L G:Val) (N:Nat),k<=xs.length/\i=.int .i64 (k:Int)/\v=.int .i64 (N:Int)/\N<=k/\Hid (zBR xs k=(L,G,N))/\wr.rowIs (w1.heap.size+1) 59 3 (zDU L)/\wr.rowIs (w1.heap.size+1+1) 59 3 (zDU G)/\Below W.heap.size W wr) (fun _ i _=>xs.length-(intOf i).toNat)
 case atStart=>exact⟨0,.null,.null,0,Nat.zero_le _,rfl,rfl,Nat.le_refl _,rfl,zA0 HA8,zA0 HA9,zA1 (zA1 (Below.refl _ _) _) _⟩
 case round=>
  obtain⟨k,L,G,N,hk,rfl,rfl,hNk,HS,h8,Kn,hb⟩:=hrel
  have hwz:w1.heap.size+1+1<wr.heap.size:=World.rowIs.lt Kn
  by_cases He:k<xs.length
  ·have h9:(k:Int)<(xs.length:Int):=by omega
   obtain⟨x,hx⟩:∃x,xs[k]?=some x:=⟨_,zAf He⟩
   obtain⟨vb,vo,rfl,c0,c1,c2⟩:=((zA0 YY).later hb).lo hx
   have QS:(x.k == 0)=true->Hid (zBR xs (k+1)=(L,G,N+1)):=fun h0=>by show _=_;rw[zOP hx h0,zA0 HS]
   have HNV:(x.k == 0)=false->Hid (zBR xs (k+1)=(zJ0 L x,zDE G x,N)):=fun h0=>by show _=_;rw[zQv hx h0,zA0 HS]
   have HT:Hid (Tri (wr.alloc (.cells #[.int .i64 x.k,.int .i64 x.n,.string x.s] 59)) (w1.heap.size+1) (w1.heap.size+1+1) wr.heap.size L G x):=⟨World.rowIs.alloc h8 _,World.rowIs.alloc Kn _,zAs wr x⟩
   have HB:=zA3 (zA1 hb (.cells #[.int .i64 x.k,.int .i64 x.n,.string x.s] 59))
   clear h8 Kn hb hx
   cases hx0:(x.k == 0)
   ·have HN:=HNV hx0
    have HQ:=zA3 (zKn x)
    rw[hx0] at HQ
    clear QS HNV hx0
    have yV:=zA3 (zKn L)
    have HOL:=zA3 (zP4 x L)
    have HOG:=zA3 (zP4 x G)
    have Ze:wr.heap.size≠w1.heap.size+1:=by omega
    have Gz:wr.heap.size≠w1.heap.size+1+1:=by omega
    have Zk:((L.k == 0)=true)∨((L.k == 0)=false/\zAh x L<0)∨((L.k == 0)=false/\¬zAh x L<0):=by
     cases (L.k == 0)
     ·by_cases h:zAh x L<0
      ·exact .inr (.inl ⟨rfl,h⟩)
      ·exact .inr (.inr ⟨rfl,h⟩)
     ·exact .inl rfl
    have hcG:(0<zAh x G)∨¬(0<zAh x G):=by omega
    have GV:zJ0 L x=if (L.k == 0) || decide (zAh x L<0) then x else L:=rfl
    have DT:zDE G x=if decide (0<zAh x G) then x else G:=rfl
    rw[GV,DT] at HN
    clear GV DT
    generalize zAh x L=oL at *
    generalize zAh x G=oG at *
    generalize (L.k == 0)=bL at *
    rcases Zk with rfl|⟨rfl,hoL⟩|⟨rfl,hoL⟩<;>rcases hcG with Fw|Fw
    ·have yY:Hid (zBR xs (k+1)=(x,x,N)):=by
      have h:=zA0 HN
      show _=_
      simpa [Fw] using h
     clear HN
     go_wp2_with (first
      | (go_at_call_of 103 (Value.agg #[Value.int IntKind.i64 x.k,Value.int IntKind.i64 x.n,Value.string x.s]);refine(zA0 HQ _).mono ?_;rintro e wa ⟨rfl,ZD⟩;have Ta:=(zA0 HT).later ZD;obtain⟨l0,l1,l2,_,_,_⟩:=zA9 Ta.1)
      | (go_at_call_of 103 (Value.agg #[Value.int IntKind.i64 L.k,Value.int IntKind.i64 L.n,Value.string L.s]);refine(zA0 yV _).mono ?_;rintro e wb ⟨rfl,Hw⟩;have Tb:=Ta.later Hw;obtain⟨l0,l1,l2,f0,f1,f2⟩:=zA9 Tb.1;obtain⟨x0,x1,x2,_,_,_⟩:=zA9 Tb.2.2;obtain⟨g0,g1,g2,_,_,_⟩:=zA9 Tb.2.1)
      | (go_at_call_of 104 (Value.agg #[Value.int IntKind.i64 G.k,Value.int IntKind.i64 G.n,Value.string G.s]);refine(zA0 HOG _).mono ?_;rintro e wd ⟨rfl,Yr⟩;have Td:=Tri.later (⟨zDy Tb.1 x,zBl Tb.2.1 (by omega) _ _ _,zBl Tb.2.2 (by omega) _ _ _⟩:Tri _ (w1.heap.size+1) (w1.heap.size+1+1) wr.heap.size x G x) Yr;obtain⟨x0,x1,x2,_,_,_⟩:=zA9 Td.2.2;obtain⟨g0,g1,g2,f3,f4,f5⟩:=zA9 Td.2.1))
     go_roundw
     case rel=>exact⟨k+1,x,x,N,by omega,by go_num,rfl,by omega,yY,zBl Td.1 (by omega) _ _ _,zDy Td.2.1 x,put3 (zA2 (put3 (zA2 (zA2 (zA0 HB) ZD) Hw) (by rw[zA0 Dj];omega) _ _ _) Yr) (by rw[zA0 Dj];omega) _ _ _⟩
     case measure=>simp[intOf];omega
    ·have yY:Hid (zBR xs (k+1)=(x,G,N)):=by
      have h:=zA0 HN
      show _=_
      simpa [Fw] using h
     clear HN
     go_wp2_with (first
      | (go_at_call_of 103 (Value.agg #[Value.int IntKind.i64 x.k,Value.int IntKind.i64 x.n,Value.string x.s]);refine(zA0 HQ _).mono ?_;rintro e wa ⟨rfl,ZD⟩;have Ta:=(zA0 HT).later ZD;obtain⟨l0,l1,l2,_,_,_⟩:=zA9 Ta.1)
      | (go_at_call_of 103 (Value.agg #[Value.int IntKind.i64 L.k,Value.int IntKind.i64 L.n,Value.string L.s]);refine(zA0 yV _).mono ?_;rintro e wb ⟨rfl,Hw⟩;have Tb:=Ta.later Hw;obtain⟨l0,l1,l2,f0,f1,f2⟩:=zA9 Tb.1;obtain⟨x0,x1,x2,_,_,_⟩:=zA9 Tb.2.2;obtain⟨g0,g1,g2,_,_,_⟩:=zA9 Tb.2.1)
      | (go_at_call_of 104 (Value.agg #[Value.int IntKind.i64 G.k,Value.int IntKind.i64 G.n,Value.string G.s]);refine(zA0 HOG _).mono ?_;rintro e wd ⟨rfl,Yr⟩;have Td:=Tri.later (⟨zDy Tb.1 x,zBl Tb.2.1 (by omega) _ _ _,zBl Tb.2.2 (by omega) _ _ _⟩:Tri _ (w1.heap.size+1) (w1.heap.size+1+1) wr.heap.size x G x) Yr;obtain⟨x0,x1,x2,_,_,_⟩:=zA9 Td.2.2;obtain⟨g0,g1,g2,f3,f4,f5⟩:=zA9 Td.2.1))
     go_roundw
     case rel=>exact⟨k+1,x,G,N,by omega,by go_num,rfl,by omega,yY,Td.1,Td.2.1,zA2 (put3 (zA2 (zA2 (zA0 HB) ZD) Hw) (by rw[zA0 Dj];omega) _ _ _) Yr⟩
     case measure=>simp[intOf];omega
    ·have yY:Hid (zBR xs (k+1)=(x,x,N)):=by
      have h:=zA0 HN
      show _=_
      simpa [Fw,hoL] using h
     clear HN
     go_wp2_with (first
      | (go_at_call_of 103 (Value.agg #[Value.int IntKind.i64 x.k,Value.int IntKind.i64 x.n,Value.string x.s]);refine(zA0 HQ _).mono ?_;rintro e wa ⟨rfl,ZD⟩;have Ta:=(zA0 HT).later ZD;obtain⟨l0,l1,l2,_,_,_⟩:=zA9 Ta.1)
      | (go_at_call_of 103 (Value.agg #[Value.int IntKind.i64 L.k,Value.int IntKind.i64 L.n,Value.string L.s]);refine(zA0 yV _).mono ?_;rintro e wb ⟨rfl,Hw⟩;have Tb:=Ta.later Hw;obtain⟨l0,l1,l2,f0,f1,f2⟩:=zA9 Tb.1;obtain⟨x0,x1,x2,_,_,_⟩:=zA9 Tb.2.2;obtain⟨g0,g1,g2,_,_,_⟩:=zA9 Tb.2.1)
      | (go_at_call_of 104 (Value.agg #[Value.int IntKind.i64 L.k,Value.int IntKind.i64 L.n,Value.string L.s]);refine(zA0 HOL _).mono ?_;rintro e wc ⟨rfl,ZQ⟩;have Tc:=Tb.later ZQ;obtain⟨l0,l1,l2,f0,f1,f2⟩:=zA9 Tc.1;obtain⟨x0,x1,x2,_,_,_⟩:=zA9 Tc.2.2;obtain⟨g0,g1,g2,_,_,_⟩:=zA9 Tc.2.1)
      | (go_at_call_of 104 (Value.agg #[Value.int IntKind.i64 G.k,Value.int IntKind.i64 G.n,Value.string G.s]);refine(zA0 HOG _).mono ?_;rintro e wd ⟨rfl,Yr⟩;have Td:=Tri.later (⟨zDy Tc.1 x,zBl Tc.2.1 (by omega) _ _ _,zBl Tc.2.2 (by omega) _ _ _⟩:Tri _ (w1.heap.size+1) (w1.heap.size+1+1) wr.heap.size x G x) Yr;obtain⟨x0,x1,x2,_,_,_⟩:=zA9 Td.2.2;obtain⟨g0,g1,g2,f3,f4,f5⟩:=zA9 Td.2.1))
     go_roundw
     case rel=>exact⟨k+1,x,x,N,by omega,by go_num,rfl,by omega,yY,zBl Td.1 (by omega) _ _ _,zDy Td.2.1 x,put3 (zA2 (put3 (zA2 (zA2 (zA2 (zA0 HB) ZD) Hw) ZQ) (by rw[zA0 Dj];omega) _ _ _) Yr) (by rw[zA0 Dj];omega) _ _ _⟩
     case measure=>simp[intOf];omega
    ·have yY:Hid (zBR xs (k+1)=(x,G,N)):=by
      have h:=zA0 HN
      show _=_
      simpa [Fw,hoL] using h
     clear HN
     go_wp2_with (first
      | (go_at_call_of 103 (Value.agg #[Value.int IntKind.i64 x.k,Value.int IntKind.i64 x.n,Value.string x.s]);refine(zA0 HQ _).mono ?_;rintro e wa ⟨rfl,ZD⟩;have Ta:=(zA0 HT).later ZD;obtain⟨l0,l1,l2,_,_,_⟩:=zA9 Ta.1)
      | (go_at_call_of 103 (Value.agg #[Value.int IntKind.i64 L.k,Value.int IntKind.i64 L.n,Value.string L.s]);refine(zA0 yV _).mono ?_;rintro e wb ⟨rfl,Hw⟩;have Tb:=Ta.later Hw;obtain⟨l0,l1,l2,f0,f1,f2⟩:=zA9 Tb.1;obtain⟨x0,x1,x2,_,_,_⟩:=zA9 Tb.2.2;obtain⟨g0,g1,g2,_,_,_⟩:=zA9 Tb.2.1)
      | (go_at_call_of 104 (Value.agg #[Value.int IntKind.i64 L.k,Value.int IntKind.i64 L.n,Value.string L.s]);refine(zA0 HOL _).mono ?_;rintro e wc ⟨rfl,ZQ⟩;have Tc:=Tb.later ZQ;obtain⟨l0,l1,l2,f0,f1,f2⟩:=zA9 Tc.1;obtain⟨x0,x1,x2,_,_,_⟩:=zA9 Tc.2.2;obtain⟨g0,g1,g2,_,_,_⟩:=zA9 Tc.2.1)
      | (go_at_call_of 104 (Value.agg #[Value.int IntKind.i64 G.k,Value.int IntKind.i64 G.n,Value.string G.s]);refine(zA0 HOG _).mono ?_;rintro e wd ⟨rfl,Yr⟩;have Td:=Tri.later (⟨zDy Tc.1 x,zBl Tc.2.1 (by omega) _ _ _,zBl Tc.2.2 (by omega) _ _ _⟩:Tri _ (w1.heap.size+1) (w1.heap.size+1+1) wr.heap.size x G x) Yr;obtain⟨x0,x1,x2,_,_,_⟩:=zA9 Td.2.2;obtain⟨g0,g1,g2,f3,f4,f5⟩:=zA9 Td.2.1))
     go_roundw
     case rel=>exact⟨k+1,x,G,N,by omega,by go_num,rfl,by omega,yY,Td.1,Td.2.1,zA2 (put3 (zA2 (zA2 (zA2 (zA0 HB) ZD) Hw) ZQ) (by rw[zA0 Dj];omega) _ _ _) Yr⟩
     case measure=>simp[intOf];omega
    ·have yY:Hid (zBR xs (k+1)=(L,x,N)):=by
      have h:=zA0 HN
      show _=_
      simpa [Fw,hoL] using h
     clear HN
     go_wp2_with (first
      | (go_at_call_of 103 (Value.agg #[Value.int IntKind.i64 x.k,Value.int IntKind.i64 x.n,Value.string x.s]);refine(zA0 HQ _).mono ?_;rintro e wa ⟨rfl,ZD⟩;have Ta:=(zA0 HT).later ZD;obtain⟨l0,l1,l2,_,_,_⟩:=zA9 Ta.1)
      | (go_at_call_of 103 (Value.agg #[Value.int IntKind.i64 L.k,Value.int IntKind.i64 L.n,Value.string L.s]);refine(zA0 yV _).mono ?_;rintro e wb ⟨rfl,Hw⟩;have Tb:=Ta.later Hw;obtain⟨l0,l1,l2,f0,f1,f2⟩:=zA9 Tb.1;obtain⟨x0,x1,x2,_,_,_⟩:=zA9 Tb.2.2;obtain⟨g0,g1,g2,_,_,_⟩:=zA9 Tb.2.1)
      | (go_at_call_of 104 (Value.agg #[Value.int IntKind.i64 L.k,Value.int IntKind.i64 L.n,Value.string L.s]);refine(zA0 HOL _).mono ?_;rintro e wc ⟨rfl,ZQ⟩;have Tc:=Tb.later ZQ;obtain⟨l0,l1,l2,f0,f1,f2⟩:=zA9 Tc.1;obtain⟨x0,x1,x2,_,_,_⟩:=zA9 Tc.2.2;obtain⟨g0,g1,g2,_,_,_⟩:=zA9 Tc.2.1)
      | (go_at_call_of 104 (Value.agg #[Value.int IntKind.i64 G.k,Value.int IntKind.i64 G.n,Value.string G.s]);refine(zA0 HOG _).mono ?_;rintro e wd ⟨rfl,Yr⟩;have Td:=Tri.later Tc Yr;obtain⟨x0,x1,x2,_,_,_⟩:=zA9 Td.2.2;obtain⟨g0,g1,g2,f3,f4,f5⟩:=zA9 Td.2.1))
     go_roundw
     case rel=>exact⟨k+1,L,x,N,by omega,by go_num,rfl,by omega,yY,zBl Td.1 (by omega) _ _ _,zDy Td.2.1 x,put3 (zA2 (zA2 (zA2 (zA2 (zA0 HB) ZD) Hw) ZQ) Yr) (by rw[zA0 Dj];omega) _ _ _⟩
     case measure=>simp[intOf];omega
    ·have yY:Hid (zBR xs (k+1)=(L,G,N)):=by
      have h:=zA0 HN
      show _=_
      simpa [Fw,hoL] using h
     clear HN
     go_wp2_with (first
      | (go_at_call_of 103 (Value.agg #[Value.int IntKind.i64 x.k,Value.int IntKind.i64 x.n,Value.string x.s]);refine(zA0 HQ _).mono ?_;rintro e wa ⟨rfl,ZD⟩;have Ta:=(zA0 HT).later ZD;obtain⟨l0,l1,l2,_,_,_⟩:=zA9 Ta.1)
      | (go_at_call_of 103 (Value.agg #[Value.int IntKind.i64 L.k,Value.int IntKind.i64 L.n,Value.string L.s]);refine(zA0 yV _).mono ?_;rintro e wb ⟨rfl,Hw⟩;have Tb:=Ta.later Hw;obtain⟨l0,l1,l2,f0,f1,f2⟩:=zA9 Tb.1;obtain⟨x0,x1,x2,_,_,_⟩:=zA9 Tb.2.2;obtain⟨g0,g1,g2,_,_,_⟩:=zA9 Tb.2.1)
      | (go_at_call_of 104 (Value.agg #[Value.int IntKind.i64 L.k,Value.int IntKind.i64 L.n,Value.string L.s]);refine(zA0 HOL _).mono ?_;rintro e wc ⟨rfl,ZQ⟩;have Tc:=Tb.later ZQ;obtain⟨l0,l1,l2,f0,f1,f2⟩:=zA9 Tc.1;obtain⟨x0,x1,x2,_,_,_⟩:=zA9 Tc.2.2;obtain⟨g0,g1,g2,_,_,_⟩:=zA9 Tc.2.1)
      | (go_at_call_of 104 (Value.agg #[Value.int IntKind.i64 G.k,Value.int IntKind.i64 G.n,Value.string G.s]);refine(zA0 HOG _).mono ?_;rintro e wd ⟨rfl,Yr⟩;have Td:=Tri.later Tc Yr;obtain⟨x0,x1,x2,_,_,_⟩:=zA9 Td.2.2;obtain⟨g0,g1,g2,f3,f4,f5⟩:=zA9 Td.2.1))
     go_roundw
     case rel=>exact⟨k+1,L,G,N,by omega,by go_num,rfl,by omega,yY,Td.1,Td.2.1,zA2 (zA2 (zA2 (zA2 (zA0 HB) ZD) Hw) ZQ) Yr⟩
     case measure=>simp[intOf];omega
   ·have HN:=QS hx0
    have HQ:=zA3 (zKn x)
    rw[hx0] at HQ
    clear QS HNV hx0
    go_wp2_with (go_at_call 103;refine(zA0 HQ _).mono ?_;rintro e wa ⟨rfl,ZD⟩;have Ta:=(zA0 HT).later ZD)
    go_roundw
    case rel=>exact⟨k+1,L,G,N+1,by omega,by go_num,by go_num,by omega,HN,Ta.1,Ta.2.1,zA2 (zA0 HB) ZD⟩
    case measure=>simp[intOf];omega
  ·have h9:¬(k:Int)<(xs.length:Int):=by omega
   have ek:k=xs.length:=by omega
   rw[ek,<-zA0 HR] at HS
   have hRe:=zA0 HS
   clear HR HS
   subst hRe
   obtain⟨l0,l1,l2,l3,l4,l5⟩:=zA9 h8
   obtain⟨g0,g1,g2,g3,g4,g5⟩:=zA9 Kn
   obtain⟨⟨b0,b1,b2⟩,q0,q1,q2⟩:=zBQ (B:=w.heap.size+1) (w:=w.alloc zE3) (by simp) rfl (zA2 (zA0 Yo) hb)
   obtain⟨⟨d0,d1,d2⟩,r0,r1,r2⟩:=zBQ (B:=w.heap.size) (w:=w) rfl rfl (zA2 (zA0 Qz) hb)
   have HE:=zA3 (zA2 (zA0 Qa) hb)
   have TK:w.heap.size≠w1.heap.size+1:=by omega
   have TJ:w.heap.size≠w1.heap.size+1+1:=by omega
   have hn3:w.heap.size+1≠w1.heap.size+1:=by omega
   have hn4:w.heap.size+1≠w1.heap.size+1+1:=by omega
   clear ek h8 Kn hb
   go_wp2_with fail
   go_region
   go_wp2
   refine bodyPost_ret (v:=.tuple #[L.v,G.v,.int .i64 (N:Int),.int .i64 0]) (by simp[results,Tryz.results79,go_sem,Val.v, *]) rfl ⟨rfl,?_⟩
   have hz:w.heap.size<=w.heap.size+1:=by omega
   exact Below.drew (put3 (put3 (zA0 HE) (Nat.le_refl _) _ _ _) hz _ _ _)
end Go.Proofs.YtekgpapophibcaaGreat
