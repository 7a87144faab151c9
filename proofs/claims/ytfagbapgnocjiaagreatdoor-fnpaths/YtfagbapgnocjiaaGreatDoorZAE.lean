import Derived.Test.YtfagbapgnocjiaaGreatDoorImB
import Derived.Test.YtfagbapgnocjiaaGreatDoorZAD
import Derived.Deep.RegionHeld3
import Derived.Laws.OwnMore
import Derived.Test.YtfagbapgnocjiaaGreatDoorZAB
set_option maxRecDepth 100000
set_option maxHeartbeats 2000000
namespace Go.Proofs.YtfagbapgnocjiaaGreatDoor
open Go.RowKit
theorem zir(w1:World)(x y:Int):Rd (w1.alloc (.cells #[.I x,.I y] 208)) 2 (.slice (some ⟨w1.heap.size,0,none⟩) 1 1) 1 (ses [⟨x,y⟩]):=by
 refine⟨rfl,_,_,rfl,⟨Nat.le_refl _,fun e=>by cases e⟩,fun _=>⟨w1.heap.size,0,rfl,by simp,fun j hj=>?_⟩⟩;obtain⟨e0,e1,_,_⟩:=zad (zai (w:=w1) (o:=.cells #[.I x,.I y] 208) rfl)
 rcases(show j=0\/j=1 by omega)with rfl|rfl
 ·exact e0
 ·exact e1
theorem zff(l:List Se):∀ u∈ses l,u.oneCell'=true:=by
 intro u hu;simp only[ses,List.mem_flatMap]at hu;obtain⟨m,_,hm⟩:=hu;simp[Se.cells]at hm
 rcases hm with rfl|rfl<;>rfl
theorem yahw(l l':List Se):ses (l++l')=ses l++ses l':=by simp[ses]
structure UpI(W w:World)(vL:Value)(ls:List Se):Prop where
 l:w.ownsRow W.heap.size 208 2 vL ls.length (ses ls)
 b:zB W w
theorem UpI.z{W w:World}{vL:Value}{ls:List Se}(h:UpI W w vL ls):W.heap.size<=w.heap.size:=h.b.size
theorem UpI.below{W w w':World}{vL:Value}{ls:List Se}(h:UpI W w vL ls)(hb:zB w w'):UpI W w' vL ls :=
 ⟨((zac h.l).below hb zL).1,zab h.b hb h.z⟩
theorem UpI.grow{W w w':World}{vL v':Value}{ls:List Se}(h:UpI W w vL ls)(ms:List Se)(ho:w'.ownsRow W.heap.size 208 2 v' (ls.length+ms.length) (ses ls++ses ms))(hg:w.grownBy w' vL.ownBlock):UpI W w' v' (ls++ms) :=
 ⟨by rw[yahw,List.length_append];exact ho,h.b.grown hg h.z (fun q hq=>(h.l.lt q hq).1)⟩
def wrL(i:Int)(x:Ino)(k:Nat):List Se:=[⟨48+12*i,x.kind⟩,⟨48+12*i+1,x.size⟩,⟨48+12*i+2,x.links⟩]++(List.range k).map (fun j=>⟨48+12*i+(3+(j:Int)),x.map.getD j 0⟩)
theorem zxt(i:Int)(x:Ino)(k:Nat):(wrL i x k).length=3+k:=by simp[wrL];omega
theorem yakg(i:Int)(x:Ino)(k:Nat):wrL i x (k+1)=wrL i x k++[⟨48+12*i+(3+(k:Int)),x.map.getD k 0⟩]:=by
 unfold wrL;rw[List.range_succ,List.map_append,List.append_assoc];rfl
theorem zvd(i:Int)(x:Ino)(w:World)(hi:0<=i/\i<16) :
  zC 191 #[.I i,x.v] w fun e w'=>∃ v',e=.returned v'/\Row w' 208 2 w.heap.size w'.heap.size v' (wrL i x 8).length (ses (wrL i x 8))/\zB w w':=by
 have hv:x.v=.agg x.cs.toArray:=rfl
 obtain⟨W,hW⟩:=zE (w.alloc (.cells x.cs.toArray 41))
 have CA:Hid (∀ w',zB W w'->∀ j,w'.cell? ⟨w.heap.size,j,none⟩=x.cs[j]?):=fun w' hb j=>by
  have:w'.heap[w.heap.size]?=some (.cells x.cs.toArray 41 (0,0)):=(hb.block _ (by rw[hW];simp)).trans (by rw[hW];exact zai rfl);exact(zat (xs:=x.cs) this j).1
 have BW:Hid (zB w W):=by rw[hW];exact zR.alloc zL _
 have c0:W.cell? ⟨w.heap.size,0,none⟩=some (.I x.kind):=CA.o W zR 0;have c1:W.cell? ⟨w.heap.size,1,none⟩=some (.I x.size):=CA.o W zR 1;have c2:W.cell? ⟨w.heap.size,2,none⟩=some (.I x.links):=CA.o W zR 2
 have hWz:w.heap.size<W.heap.size:=by rw[hW];simp
 rw[hv];go_enter Tryz.func191,Tryz.ntmps191
 have SK:Hid (∀ w',zB W w'->w'.cell? ⟨w.heap.size,0,none⟩=some (.I x.kind)/\w'.cell? ⟨w.heap.size,1,none⟩=some (.I x.size)/\w'.cell? ⟨w.heap.size,2,none⟩=some (.I x.links)):=fun w' hb=>⟨CA.o w' hb 0,CA.o w' hb 1,CA.o w' hb 2⟩
 go_wp2_with fail;rw[<- hW];clear hW c0 c1 c2
 go_region_held3 (fun w'=>w'.cell? ⟨w.heap.size,0,none⟩=some (.I x.kind)/\w'.cell? ⟨w.heap.size,1,none⟩=some (.I x.size)/\w'.cell? ⟨w.heap.size,2,none⟩=some (.I x.links))
  (exact SK.o _ (by repeat (first | exact zR | refine Below.drew ?_ | refine Below.alloc ?_ (by simp) _)))
  (first | (go_at_call 56;refine(zay _ _ _ hi (by omega)).mono ?_;rintro e w' ⟨rfl,hw'⟩;subst w'))
 have START:Hid (UpI W (W.alloc (.cells #[.I (48+12*i),.I x.kind,.I (48+12*i+1),.I x.size,.I (48+12*i+2),.I x.links] 208)).drew (.slice (some ⟨W.heap.size,0,none⟩) 3 3) (wrL i x 0)) :=
  UpI.below (w:=W.alloc (.cells #[.I (48+12*i),.I x.kind,.I (48+12*i+1),.I x.size,.I (48+12*i+2),.I x.links] 208)) ⟨World.ownsRow_lit W _ 3 zL (by simp[maxLen]) rfl,zR.alloc zL _⟩ (zR.drew)
 clear SK;go_wp2
 go_loopw [5,6] (fun vL i' wr=>∃ m:Nat,m<=8/\i'=.I m/\Hid (UpI W wr vL (wrL i x m))) (fun _ i' _=>8-(intOf i').toNat)
 case atStart=>exact⟨0,by omega,rfl,START⟩
 case round =>
  obtain⟨m,hm,rfl,J⟩:=hrel;clear START
  have m0:(0:Int)<=(m:Int):=by omega
  by_cases hlt:m<8
  ·have m1:(m:Int)<8:=by omega
   have SK:Hid (∀ w',zB W w'->w'.cell? ⟨w.heap.size,3+m,none⟩=some (.I (x.map.getD m 0))):=fun w' hb=>(CA.o w' hb (3+m)).trans (x.at m hlt)
   have x1:=SK.o wr J.o.b;have EM:=zaa (yakg i x m);have l1:=zxt i x m
   have l2:(wrL i x m).length<=11:=by omega
   have li:=hi.1;have lj:=hi.2
   have wp1:IntKind.i64.wrap (3+(m:Int))=3+(m:Int):=by rw[IntKind.wrap_i64];omega
   generalize x.map.getD m 0=y at *;have J4:=zaa (J.o.below (zR.alloc zL (.cells #[.I (48+12*i+(3+(m:Int))),.I y] 208)));have J4d:=zaa ((J.o.below ((Below.refl wr.heap.size wr).drew)).below (zR.alloc zL (.cells #[.I (48+12*i+(3+(m:Int))),.I y] 208)));have HRD:=zaa (zir wr (48+12*i+(3+(m:Int))) y);have HRDd:=zaa (zir wr.drew (48+12*i+(3+(m:Int))) y);clear l1;go_wp2_with fail
   go_region_held3 (fun w'=>w'.cell? ⟨w.heap.size,3+m,none⟩=some (.I y))
    (first | exact SK.o _ G.o.b | exact SK.o _ J.o.b | exact SK.o _ J.o.b.drew | exact SK.o _ J4.o.b | exact SK.o _ J4d.o.b)
    (first
     | (go_at_call 56;refine(zay _ _ _ hi (by omega)).mono ?_;rintro e w' ⟨rfl,hw'⟩;subst w')
     | (refine zam rfl (.tmp 27) (.tmp 37) 189 rfl W.heap.size 208 (.agg #[.I 0,.I 0]) 2 16 Tryz.underlying189 zkv rfl (by decide) _ (wrL i x m).length (ses (wrL i x m)) rfl (by first | exact J4.o.l | exact J4d.o.l) _ 1 (ses [⟨48+12*i+(3+(m:Int)),y⟩]) rfl (by first | exact HRD.o | exact HRDd.o) (zff _) (by simp[maxLen];omega) (by omega) (by first | exact J4.o.z | exact J4d.o.z) ?_;intro vN wN hownN hgrN;have G:=(by first | exact zaa (J4.o.grow [⟨48+12*i+(3+(m:Int)),y⟩] hownN hgrN) | exact zaa (J4d.o.grow [⟨48+12*i+(3+(m:Int)),y⟩] hownN hgrN):Hid (UpI W wN vN (wrL i x m++[⟨48+12*i+(3+(m:Int)),y⟩])));clear hownN hgrN))
   all_goals
    rw[<- EM.o]at G;clear J J4 J4d HRD HRDd x1 SK;go_wp2
    go_roundw
    case rel=>exact⟨m+1,by omega,by go_num,G⟩
    case measure=>simp[intOf];omega
  ·obtain rfl:m=8:=by omega
   obtain⟨-,aL,cL,hvL,-⟩:=(zac J.o.l).rd;subst hvL;go_wp2;go_ret;exact⟨_,rfl,(zac J.o.l).wide (by omega) zL,zab BW.o (J.o.b) (by omega)⟩
theorem zlq(w:World)(t:TypeId)(size:Nat):Row (w.alloc (.cells #[] t)) t size w.heap.size (w.alloc (.cells #[] t)).heap.size (.slice (some ⟨w.heap.size,0,none⟩) 0 0) 0 [] :=
 zac (World.ownsRow_lit w #[] 0 zL (by simp[maxLen]) (by simp))
theorem Ino.all{x:Ino}{w':World}{b:Nat}(h:∀ j,w'.cell? ⟨b,j,none⟩=x.cs[j]?):w'.cell? ⟨b,0,none⟩=some (.I x.kind)/\w'.cell? ⟨b,1,none⟩=some (.I x.size)/\w'.cell? ⟨b,2,none⟩=some (.I x.links)/\w'.cell? ⟨b,3,none⟩=some (.I x.m0)/\w'.cell? ⟨b,4,none⟩=some (.I x.m1)/\w'.cell? ⟨b,5,none⟩=some (.I x.m2)/\w'.cell? ⟨b,6,none⟩=some (.I x.m3)/\w'.cell? ⟨b,7,none⟩=some (.I x.m4)/\w'.cell? ⟨b,8,none⟩=some (.I x.m5)/\w'.cell? ⟨b,9,none⟩=some (.I x.m6)/\w'.cell? ⟨b,10,none⟩=some (.I x.m7):=⟨h 0,h 1,h 2,h 3,h 4,h 5,h 6,h 7,h 8,h 9,h 10⟩
end Go.Proofs.YtfagbapgnocjiaaGreatDoor
