import Derived.Test.YtabmgpillccfaaaGreatDoorExG
import Derived.Lib.ItoaNum
import Derived.Lib.Join
import Derived.Lib.Fields
set_option linter.all false
set_option maxRecDepth 100000
namespace Go.Proofs.YtabmgpillccfaaaGreatDoor
open Go.RowKit Go.Sort Go.Proofs.Tryz
def bs(a:List UInt8):ByteArray:=⟨a.toArray⟩
theorem dZ(a:List UInt8):(bs a).data.toList=a:=by simp[bs]
theorem bx(a:List UInt8):(bs a).size=a.length:=by simp[bs,ByteArray.size]
theorem eg(a b:List UInt8):bs a++bs b=bs (a++b):=by apply ByteArray.ext;simp[bs]
theorem sa(a:ByteArray):bs a.data.toList=a:=by apply ByteArray.ext;simp[bs]
def VU(a:List (List UInt8)):List UInt8:=40::(Lib.join a [32]++[41])
def VO(a:List (List UInt8))(b:Int):List UInt8:=a.getD (b-1).toNat []
def cs(a:UInt8):Bool:=decide (32<=a.toNat) && decide (a.toNat<=126) && a != 34 && a != 92
def cB(a:Nat):UInt8:=if a<10 then UInt8.ofNat (48+a) else UInt8.ofNat (87+a)
def fq(a:UInt8):List UInt8:=if cs a then [a] else [92,cB (a.toNat / 16),cB (a.toNat % 16)]
def fV(a:List UInt8):List UInt8:=34::(a.flatMap fq++[34])
def bE:ByteArray:=⟨#[115,99,97,110,32,102,105,108,116,101,114,32,112,114,111,106,101,99,116,32,106,111,105,110,32,108,101,102,116,106,111,105,110,32,103,114,111,117,112,32,100,105,115,116,105,110,99,116,32,117,110,105,111,110,32,116,111,112,32,119,105,110,100,111,119,32,109,105,110,117,115,32,101,109,112,116,121]⟩
def ku:ByteArray:=⟨#[110,101,103,32,110,111,116,32,105,115,110,117,108,108,32,108,101,110,32,97,100,100,32,115,117,98,32,109,117,108,32,100,105,118,32,109,111,100,32,101,113,32,110,101,32,108,116,32,108,101,32,103,116,32,103,101,32,99,97,116,32,97,110,100,32,111,114,32,105,102]⟩
def pO:ByteArray:=⟨#[99,111,117,110,116,97,108,108,32,99,111,117,110,116,32,115,117,109,32,108,101,97,115,116,32,109,111,115,116,32,99,111,117,110,116,101,97,99,104]⟩
def mC:ByteArray:=⟨#[110,117,109,98,101,114,32,114,97,110,107,32,100,101,110,115,101,32,115,117,109,111,118,101,114,32,99,111,117,110,116,111,118,101,114,32,97,104,101,97,100]⟩
def kn:ByteArray:=⟨#[105,110,116,32,116,101,120,116]⟩
def aX:List (List UInt8):=Lib.fields bE.data.toList
def bV:List (List UInt8):=Lib.fields ku.data.toList
def ea:List (List UInt8):=Lib.fields pO.data.toList
def d0:List (List UInt8):=Lib.fields mC.data.toList
def bG:List (List UInt8):=Lib.fields kn.data.toList
theorem a7:aX.length=12:=by kernel_rfl
theorem d5:bV.length=19:=by kernel_rfl
theorem fQ:ea.length=6:=by kernel_rfl
theorem fE:d0.length=6:=by kernel_rfl
theorem pw:bG.length=2:=by kernel_rfl
def n3:List UInt8:=[110,117,108,108]
def cy:List UInt8:=[100,101,115,99]
def gY(a:dt):List UInt8:=if a.k=1 then Lib.itoa a.n else if a.k=2 then fV a.s.data.toList else n3
mutual
def eT:Ex->List UInt8
 | .mk a c d b=>if a=1 then 35::Lib.itoa c else if a=2 then gY d else VU (VO bV (a-2)::gZ b)
def gZ:List Ex->List (List UInt8)
 | []=>[]
 | a::b=>eT a::gZ b
end
theorem gy:∀a:List Ex,gZ a=a.map eT
 | []=>by rw[gZ];rfl
 | b::a=>by rw[gZ,gy a];rfl
def eY(a:Int×Bool):List UInt8:=if a.2 then VU [cy,Lib.itoa a.1] else Lib.itoa a.1
def VL(a:Int×Int):List UInt8:=VU [VO ea a.1,Lib.itoa a.2]
def fJ(a:List Int):List UInt8:=VU (a.map Lib.itoa)
def ef(a:Int)(k:ByteArray)(c:List (List UInt8))(b:List Int)(d:List (Int×Bool))(f:List (Int×Int))(i g e j:Int):List (List UInt8):=
 if a=1 then [k.data.toList] else if a=2∨a=4∨a=5 then [c.headD []] else if a=3 then [VU c]
 else if a=6 then [fJ b,VU (f.map VL)] else if a=9 then [VU (d.map eY),Lib.itoa e,Lib.itoa j]
 else if a=10 then [VO d0 i,Lib.itoa g,Lib.itoa e,fJ b,VU (d.map eY)]
 else if a=12 then [VU (b.map (VO bG))] else []
mutual
def cX:Pl->List UInt8
 | .mk a l e d g b f c j k i=>VU (VO aX a::(ef a l (e.map eT) d g b f c j k++ii i))
def ii:List Pl->List (List UInt8)
 | []=>[]
 | b::a=>cX b::ii a
end
theorem ja:∀a:List Pl,ii a=a.map cX
 | []=>by rw[ii];rfl
 | b::a=>by rw[ii,ja a];rfl
end Go.Proofs.YtabmgpillccfaaaGreatDoor
