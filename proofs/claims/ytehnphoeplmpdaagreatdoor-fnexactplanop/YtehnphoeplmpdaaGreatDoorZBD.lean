/- Several texts laid together: RdD, DtC. -/
import Derived.Test.YtehnphoeplmpdaaGreatDoorRdC
import Derived.Test.YtehnphoeplmpdaaGreatDoorZBB
set_option maxRecDepth 100000
set_option maxHeartbeats 4000000
namespace Go.Proofs.YtehnphoeplmpdaaGreatDoor
open Go.RowKit
theorem yahn {ws:List Int} {ps:List St} (h:pmB ws ps=false):riC ws ps=1∧riN ws ps=[]∧riD ws ps=[]:=by
 have e:riC ws ps=1:=by unfold riC;rw[h];rfl
 exact ⟨e,by unfold riN;rw[e];rfl,by unfold riD;rw[e];rfl⟩
theorem zzc {ws:List Int} {ps:List St} (h:pmB ws ps=true) (q:riB (zcj ws ps)=false):riC ws ps=3∧riN ws ps=[]∧riD ws ps=[]:=by
 have e:riC ws ps=3:=by unfold riC;rw[h,q];rfl
 exact ⟨e,by unfold riN;rw[e];rfl,by unfold riD;rw[e];rfl⟩
theorem yapg {ws:List Int} {ps:List St} (h:pmB ws ps=true) (q:riB (zcj ws ps)=true):riC ws ps=0∧riN ws ps=zbk (zcj ws ps) 16∧riD ws ps=zbq (zcj ws ps) 24:=by
 have e:riC ws ps=0:=by unfold riC;rw[h,q];rfl
 exact ⟨e,by unfold riN;rw[if_pos e],by unfold riD;rw[if_pos e]⟩
theorem zcs (w:World) (lo hi:Nat):RowIm w lo hi (.agg #[.slice none 0 0,.slice none 0 0]) [] []:=⟨_,_,rfl,Row.nil _ _ _ _ _,Row.nil _ _ _ _ _⟩
theorem zsa {ws:List Int} {ps:List St} (h:pmB ws ps=true) (n:Nat):∀ k (hk:k < (zbk (zcj ws ps) n).length),(zbk (zcj ws ps) n)[k].R:=by
 intro k hk;have hm:(zbk (zcj ws ps) n)[k]∈(List.range n).map (zlm (zcj ws ps)):=List.getElem_mem hk;obtain ⟨j,_,e⟩:=List.mem_map.1 hm;rw[← e];exact yaoo h j
theorem zjs (ls:List Int) (n:Nat):∀ k (hk:k < (zbq ls n).length),(zbq ls n)[k].name.size≤maxLen:=by
 intro k hk;have hm:(zbq ls n)[k]∈(List.range n).map (zqn ls):=List.getElem_mem hk;obtain ⟨j,_,e⟩:=List.mem_map.1 hm;rw[← e];exact yade ls j
theorem zie {w:World} {lo hi lo' hi':Nat} {v:Value} {xs:List Ino} {ds:List Den} (h:RowIm w lo hi v xs ds) (h1:lo'≤lo) (h2:hi≤hi'):RowIm w lo' hi' v xs ds:=by
 obtain ⟨vI,vD,e,a,b⟩:=h;exact ⟨vI,vD,e,a.wide h1 h2,b.wide h1 h2⟩
theorem zwu {w:World} {lo hi:Nat} {b1 b2 c1 c2 n1 n2:Nat} {xs:List Ino} {ds:List Den} {b:Nat} {cs:Array Value} {fr:Nat×Nat} (h:RowIm w lo hi (.agg #[.slice (some ⟨b1,0,none⟩) n1 c1,.slice (some ⟨b2,0,none⟩) n2 c2]) xs ds) (hb:w.heap[b]?=some (.cells cs 79 fr)) (v0 v1:Value):RowIm ((w.setCell ⟨b,0,none⟩ v0).setCell ⟨b,1,none⟩ v1) lo hi (.agg #[.slice (some ⟨b1,0,none⟩) n1 c1,.slice (some ⟨b2,0,none⟩) n2 c2]) xs ds:=by
 obtain ⟨vI,vD,e,h1,h2⟩:=h;injection e with e
 obtain ⟨rfl,rfl⟩:vI=.slice (some ⟨b1,0,none⟩) n1 c1∧vD=.slice (some ⟨b2,0,none⟩) n2 c2:=by
  have:=congrArg Array.toList e;simp at this;exact ⟨this.1.symm,this.2.symm⟩
 have T1:=zcc h1.1 hb zlf;have T2:=zcc h2.1 hb zlu;exact ⟨_,_,rfl,⟨ownsRow_setCell_other (ownsRow_setCell_other h1.1 T1 _) T1 _,h1.2⟩,⟨ownsRow_setCell_other (ownsRow_setCell_other h2.1 T2 _) T2 _,h2.2⟩⟩
theorem zlt (v:Value) (ws:List Int) (ps:List St) (w:World) (h:RdPm w v ws ps) (hw:ws.length≤1048576) (hp:ps.length≤1048576) :
  Calls Tryz.prog 77 #[v] w fun e w'=>∃ v',e=.returned (.tuple #[v',.int .i64 (riC ws ps)])∧RowIm w' w.heap.size w'.heap.size v' (riN ws ps) (riD ws ps)∧Below w.heap.size w w':=by
 have HR:=zaa h;have LO:=zaa (fun w1 h=>zhm v ws ps w1 h hw hp);have LR:=zaa (fun w1 h (q:pmB ws ps=true)=>zyp v ws ps w1 h q);have LL:=zaa (fun w1 h (q:pmB ws ps=true)=>yanb v ws ps 0 w1 h q (by omega));obtain ⟨vW,vP,rfl,h1,h2⟩:=h;obtain ⟨aW,cW,rfl,_,_⟩:=h1.shape;obtain ⟨aP,cP,rfl,_,_⟩:=h2.shape;clear h1 h2
 obtain ⟨W1,hW1⟩:∃ W1,W1=(w.alloc (.cells #[.slice aW ws.length cW,.slice aP ps.length cP] 43)).alloc (.cells #[.slice none 0 0,.slice none 0 0] 79):=⟨_,rfl⟩
 have hz1:W1.heap.size=w.heap.size+1+1:=by rw[hW1];simp
 have CA:Hid (∀ w',Below W1.heap.size W1 w'→w'.cell? ⟨w.heap.size,0,none⟩=some (.slice aW ws.length cW)∧w'.cell? ⟨w.heap.size,1,none⟩=some (.slice aP ps.length cP)):=fun w' hb=>by
  have:w'.heap[w.heap.size]?=some (.cells #[.slice aW ws.length cW,.slice aP ps.length cP] 43 (0,0)):=(hb.block _ (by omega)).trans (by rw[hW1];exact zat (zah rfl));exact ⟨(zac this).1,(zac this).2.1⟩
 have CR:Hid (∀ w',Below W1.heap.size W1 w'→w'.heap[w.heap.size+1]?=some (.cells #[.slice none 0 0,.slice none 0 0] 79 (0,0))):=fun w' hb=>(hb.block _ (by omega)).trans (by
  rw[hW1];have:=zah (w:=w.alloc (.cells #[.slice aW ws.length cW,.slice aP ps.length cP] 43)) (o:=.cells #[.slice none 0 0,.slice none 0 0] 79) rfl;rw[World.size_alloc] at this
  exact this)
 have BW:Hid (Below w.heap.size w W1):=by rw[hW1];exact ((Below.refl _ _).alloc (Nat.le_refl _) _).alloc (by simp) _
 have hz0:w.heap.size+1 < W1.heap.size:=by omega
 clear hz1;obtain ⟨x0,x1⟩:=CA.o W1 (Below.refl _ _)
 cases c1:pmB ws ps with
 | false =>
  obtain ⟨E1,E2,E3⟩:=yahn c1;rw[c1] at LO;rw[E1,E2,E3];clear c1 E1 E2 E3 LR LL;go_enter Tryz.func77,Tryz.ntmps77;go_wp2_with fail;rw[← hW1];clear hW1;refine (LO.o _ (HR.o.below BW.o)).mono ?_;rintro e w1 ⟨rfl,hb1⟩;have B1:=zaa hb1;clear x0 x1 hb1;obtain ⟨x0,x1⟩:=CA.o w1 B1.o;have CB:=zaa (CR.o _ B1.o);obtain ⟨p0,p1,p2,p3⟩:=zac CB.o;have BR:Hid (Below w.heap.size w ((w1.setCell ⟨w.heap.size+1,0,none⟩ (.slice none 0 0)).setCell ⟨w.heap.size+1,1,none⟩ (.slice none 0 0))):=((zab BW.o B1.o BW.o.size).setCell (by simp only;omega) _).setCell (by simp only;omega) _;go_wp2;refine bodyPost_ret (v:=.tuple #[.agg #[.slice none 0 0,.slice none 0 0],.int .i64 1]) (by simp[results,Tryz.results77,go_sem,p0,p1]) rfl ?_;exact ⟨_,rfl,zcs _ _ _,BR.o⟩
 | true =>
 have C1:=zaa c1;rw[c1] at LO;have LR2:=zaa (fun w1 (hb:Below W1.heap.size W1 w1)=>LR.o w1 (HR.o.below (zab BW.o hb BW.o.size)) c1);have LL2:=zaa (fun w1 (hb:Below W1.heap.size W1 w1)=>LL.o w1 (HR.o.below (zab BW.o hb BW.o.size)) c1);have NO:=zaa (fun q=>zzc C1.o q);have YES:=zaa (fun q=>yapg C1.o q);have RB:=zaa (show riB (zcj ws ps)=(wdI (zcj ws ps) 0 == 7 && (zee (zcj ws ps) 24 && zay (zbk (zcj ws ps) 16) (zbq (zcj ws ps) 24))) from rfl);have LI:=zaa (fun v w1 h=>zps v (zbk (zcj ws ps) 16) (zbq (zcj ws ps) 24) w1 h (by rw[zbs];omega) (by rw[zbj];omega) (zsa C1.o 16) (zjs _ 24));have NI:=zaa (zbs (zcj ws ps) 16);have ND:=zaa (zbj (zcj ws ps) 24);clear c1 LR LL;generalize riC ws ps=rc at *;generalize riN ws ps=rn at *;generalize riD ws ps=rd at *;generalize riB (zcj ws ps)=rb at *;generalize wdI (zcj ws ps) 0=w0 at *;generalize zee (zcj ws ps) 24=ag at *;generalize zbk (zcj ws ps) 16=XI at *;generalize zbq (zcj ws ps) 24=XD at *;generalize zay XI XD=ib at *
 cases ag with
 | false =>
  obtain ⟨rfl,rfl,rfl⟩:=NO.o (by rw[RB.o];simp);clear NO YES RB LI;go_enter Tryz.func77,Tryz.ntmps77;go_wp2_with fail;rw[← hW1];clear hW1;refine (LO.o _ (HR.o.below BW.o)).mono ?_;rintro e w1 ⟨rfl,hb1⟩;have B1:=zaa hb1;clear x0 x1 hb1;obtain ⟨x0,x1⟩:=CA.o w1 B1.o;go_wp2_with fail;refine (LR2.o _ B1.o).mono ?_;rintro e w2 ⟨⟨v2,rfl,_,hv2⟩,hb2⟩;obtain rfl:=hv2 (by trivial);clear hv2;have B2:=zaa (zfh B1.o hb2);have B3:Hid (Below W1.heap.size W1 (w2.alloc (.cells #[.slice none 0 0,.slice none 0 0] 79))):=zan B2.o _;clear x0 x1 hb2;obtain ⟨x0,x1⟩:=CA.o _ B3.o;go_wp2_with fail
  obtain ⟨w3,hw3⟩:∃ w3,w3=w2.alloc (.cells #[.slice none 0 0,.slice none 0 0] 79):=⟨_,rfl⟩
  rw[← hw3] at B3 x0 x1 ⊢;clear hw3;refine (LL2.o _ B3.o).mono ?_;rintro e w4 ⟨rfl,hb4⟩;have B4:=zaa (zfh B3.o hb4);clear x0 x1 hb4
  by_cases q:w0=7
  ·have q1:(w0 != 7)=false:=by rw[q];rfl
   have CB:=zaa (CR.o _ B4.o);obtain ⟨p0,p1,p2,p3⟩:=zac CB.o;have BR:Hid (Below w.heap.size w ((w4.setCell ⟨w.heap.size+1,0,none⟩ (.slice none 0 0)).setCell ⟨w.heap.size+1,1,none⟩ (.slice none 0 0))):=((zab BW.o B4.o BW.o.size).setCell (by simp only;omega) _).setCell (by simp only;omega) _;go_wp2;refine bodyPost_ret (v:=.tuple #[.agg #[.slice none 0 0,.slice none 0 0],.int .i64 3]) (by simp[results,Tryz.results77,go_sem,p0,p1]) rfl ?_;exact ⟨_,rfl,zcs _ _ _,BR.o⟩
  ·have q1:(w0 != 7)=true:=by rw[bne_iff_ne];exact q
   have CB:=zaa (CR.o _ B4.o);obtain ⟨p0,p1,p2,p3⟩:=zac CB.o;have BR:Hid (Below w.heap.size w ((w4.setCell ⟨w.heap.size+1,0,none⟩ (.slice none 0 0)).setCell ⟨w.heap.size+1,1,none⟩ (.slice none 0 0))):=((zab BW.o B4.o BW.o.size).setCell (by simp only;omega) _).setCell (by simp only;omega) _;go_wp2;refine bodyPost_ret (v:=.tuple #[.agg #[.slice none 0 0,.slice none 0 0],.int .i64 3]) (by simp[results,Tryz.results77,go_sem,p0,p1]) rfl ?_;exact ⟨_,rfl,zcs _ _ _,BR.o⟩
 | true =>
 by_cases q:w0=7
 case neg =>
  obtain ⟨rfl,rfl,rfl⟩:=NO.o (by rw[RB.o,show (w0 == 7)=false by rw[beq_eq_false_iff_ne];exact q];rfl)
  have q1:(w0 != 7)=true:=by rw[bne_iff_ne];exact q
  clear NO YES RB LI q;go_enter Tryz.func77,Tryz.ntmps77;go_wp2_with fail;rw[← hW1];clear hW1;refine (LO.o _ (HR.o.below BW.o)).mono ?_;rintro e w1 ⟨rfl,hb1⟩;have B1:=zaa hb1;clear x0 x1 hb1;obtain ⟨x0,x1⟩:=CA.o w1 B1.o;go_wp2_with fail;refine (LR2.o _ B1.o).mono ?_;rintro e w2 ⟨⟨v2,rfl,hv2,_⟩,hb2⟩;obtain ⟨vI,vD,rfl,hI,hD⟩:=hv2 (by trivial)
  rcases hI.shape with ⟨_,e,_⟩ | ⟨b1,c1,rfl,_,_⟩
  ·have:=NI.o;omega
  rcases hD.shape with ⟨_,e,_⟩ | ⟨b2,c2,rfl,_,_⟩
  ·have:=ND.o;omega
  clear hv2 hI hD;have B2:=zaa (zfh B1.o hb2);have B3:Hid (Below W1.heap.size W1 (w2.alloc (.cells #[.slice (some ⟨b1,0,none⟩) XI.length c1,.slice (some ⟨b2,0,none⟩) XD.length c2] 79))):=zan B2.o _;clear x0 x1 hb2;obtain ⟨x0,x1⟩:=CA.o _ B3.o;go_wp2_with fail
  obtain ⟨w3,hw3⟩:∃ w3,w3=w2.alloc (.cells #[.slice (some ⟨b1,0,none⟩) XI.length c1,.slice (some ⟨b2,0,none⟩) XD.length c2] 79):=⟨_,rfl⟩
  rw[← hw3] at B3 x0 x1 ⊢;clear hw3;refine (LL2.o _ B3.o).mono ?_;rintro e w4 ⟨rfl,hb4⟩;have B4:=zaa (zfh B3.o hb4);clear x0 x1 hb4;have CB:=zaa (CR.o _ B4.o);obtain ⟨p0,p1,p2,p3⟩:=zac CB.o;have BR:Hid (Below w.heap.size w ((w4.setCell ⟨w.heap.size+1,0,none⟩ (.slice none 0 0)).setCell ⟨w.heap.size+1,1,none⟩ (.slice none 0 0))):=((zab BW.o B4.o BW.o.size).setCell (by simp only;omega) _).setCell (by simp only;omega) _;go_wp2;refine bodyPost_ret (v:=.tuple #[.agg #[.slice none 0 0,.slice none 0 0],.int .i64 3]) (by simp[results,Tryz.results77,go_sem,p0,p1]) rfl ?_;exact ⟨_,rfl,zcs _ _ _,BR.o⟩
 have q1:(w0 != 7)=false:=by rw[q];rfl
 have RB2:Hid (rb=ib):=by unfold Hid;rw[RB.o,q];rfl
 clear q RB
 cases ib with
 | false =>
  obtain ⟨rfl,rfl,rfl⟩:=NO.o RB2.o;clear NO YES RB2;go_enter Tryz.func77,Tryz.ntmps77;go_wp2_with fail;rw[← hW1];clear hW1;refine (LO.o _ (HR.o.below BW.o)).mono ?_;rintro e w1 ⟨rfl,hb1⟩;have B1:=zaa hb1;clear x0 x1 hb1;obtain ⟨x0,x1⟩:=CA.o w1 B1.o;go_wp2_with fail;refine (LR2.o _ B1.o).mono ?_;rintro e w2 ⟨⟨v2,rfl,hv2,_⟩,hb2⟩;have RR:=zaa (hv2 (by trivial));obtain ⟨vI,vD,rfl,hI,hD⟩:=RR.o
  rcases hI.shape with ⟨_,e,_⟩ | ⟨b1,c1,rfl,_,_⟩
  ·have:=NI.o;omega
  rcases hD.shape with ⟨_,e,_⟩ | ⟨b2,c2,rfl,_,_⟩
  ·have:=ND.o;omega
  have hz12:W1.heap.size≤w1.heap.size:=B1.o.size;have hz2:w1.heap.size≤w2.heap.size:=hb2.size;clear hv2 hI hD;have B2:=zaa (zfh B1.o hb2);have B3:Hid (Below W1.heap.size W1 (w2.alloc (.cells #[.slice (some ⟨b1,0,none⟩) XI.length c1,.slice (some ⟨b2,0,none⟩) XD.length c2] 79))):=zan B2.o _;have BC:Hid (Below w2.heap.size w2 (w2.alloc (.cells #[.slice (some ⟨b1,0,none⟩) XI.length c1,.slice (some ⟨b2,0,none⟩) XD.length c2] 79))):=(Below.refl _ _).alloc (Nat.le_refl _) _;have VM:Hid ((w2.alloc (.cells #[.slice (some ⟨b1,0,none⟩) XI.length c1,.slice (some ⟨b2,0,none⟩) XD.length c2] 79)).heap[w2.heap.size]?=some (.cells #[.slice (some ⟨b1,0,none⟩) XI.length c1,.slice (some ⟨b2,0,none⟩) XD.length c2] 79 (0,0))):=zah rfl;clear x0 x1 hb2;obtain ⟨x0,x1⟩:=CA.o _ B3.o;go_wp2_with fail
  obtain ⟨w3,hw3⟩:∃ w3,w3=w2.alloc (.cells #[.slice (some ⟨b1,0,none⟩) XI.length c1,.slice (some ⟨b2,0,none⟩) XD.length c2] 79):=⟨_,rfl⟩
  rw[← hw3] at B3 BC VM x0 x1 ⊢;have hz3:w2.heap.size < w3.heap.size:=(Array.getElem?_eq_some_iff.1 VM.o).1;clear hw3;refine (LL2.o _ B3.o).mono ?_;rintro e w4 ⟨rfl,hb4⟩;have B4:=zaa (zfh B3.o hb4);have BD:=zaa (zfh BC.o hb4);have VM4:=zaa ((hb4.block _ hz3).trans VM.o);have R4:=zaa (RR.o.below BD.o (Nat.le_refl _));have hz4:w3.heap.size≤w4.heap.size:=hb4.size;clear x0 x1 hb4 VM RR BC;obtain ⟨y0,y1,_,_⟩:=zac VM4.o;go_wp2_with fail;refine (LI.o _ _ R4.o.rd).mono ?_;rintro e w5 ⟨rfl,hb5⟩;have B5:=zaa (zfh B4.o hb5);have VM5:=zaa ((hb5.block _ (by omega)).trans VM4.o);have R5:=zaa (R4.o.below hb5 (by omega));have hz5:w4.heap.size≤w5.heap.size:=hb5.size;clear y0 y1 hb5 VM4 R4;have CB:=zaa (CR.o _ B5.o);obtain ⟨p0,p1,p2,p3⟩:=zac CB.o;have BR:Hid (Below w.heap.size w ((w5.setCell ⟨w.heap.size+1,0,none⟩ (.slice none 0 0)).setCell ⟨w.heap.size+1,1,none⟩ (.slice none 0 0))):=((zab BW.o B5.o BW.o.size).setCell (by simp only;omega) _).setCell (by simp only;omega) _;go_wp2;refine bodyPost_ret (v:=.tuple #[.agg #[.slice none 0 0,.slice none 0 0],.int .i64 3]) (by simp[results,Tryz.results77,go_sem,p0,p1]) rfl ?_;exact ⟨_,rfl,zcs _ _ _,BR.o⟩
 | true =>
  obtain ⟨rfl,rfl,rfl⟩:=YES.o RB2.o;clear NO YES RB2;go_enter Tryz.func77,Tryz.ntmps77;go_wp2_with fail;rw[← hW1];clear hW1;refine (LO.o _ (HR.o.below BW.o)).mono ?_;rintro e w1 ⟨rfl,hb1⟩;have B1:=zaa hb1;clear x0 x1 hb1;obtain ⟨x0,x1⟩:=CA.o w1 B1.o;go_wp2_with fail;refine (LR2.o _ B1.o).mono ?_;rintro e w2 ⟨⟨v2,rfl,hv2,_⟩,hb2⟩;have RR:=zaa (hv2 (by trivial));obtain ⟨vI,vD,rfl,hI,hD⟩:=RR.o
  rcases hI.shape with ⟨_,e,_⟩ | ⟨b1,c1,rfl,_,_⟩
  ·have:=NI.o;omega
  rcases hD.shape with ⟨_,e,_⟩ | ⟨b2,c2,rfl,_,_⟩
  ·have:=ND.o;omega
  have hz12:W1.heap.size≤w1.heap.size:=B1.o.size;have hz2:w1.heap.size≤w2.heap.size:=hb2.size;clear hv2 hI hD;have B2:=zaa (zfh B1.o hb2);have B3:Hid (Below W1.heap.size W1 (w2.alloc (.cells #[.slice (some ⟨b1,0,none⟩) rn.length c1,.slice (some ⟨b2,0,none⟩) rd.length c2] 79))):=zan B2.o _;have BC:Hid (Below w2.heap.size w2 (w2.alloc (.cells #[.slice (some ⟨b1,0,none⟩) rn.length c1,.slice (some ⟨b2,0,none⟩) rd.length c2] 79))):=(Below.refl _ _).alloc (Nat.le_refl _) _;have VM:Hid ((w2.alloc (.cells #[.slice (some ⟨b1,0,none⟩) rn.length c1,.slice (some ⟨b2,0,none⟩) rd.length c2] 79)).heap[w2.heap.size]?=some (.cells #[.slice (some ⟨b1,0,none⟩) rn.length c1,.slice (some ⟨b2,0,none⟩) rd.length c2] 79 (0,0))):=zah rfl;clear x0 x1 hb2;obtain ⟨x0,x1⟩:=CA.o _ B3.o;go_wp2_with fail
  obtain ⟨w3,hw3⟩:∃ w3,w3=w2.alloc (.cells #[.slice (some ⟨b1,0,none⟩) rn.length c1,.slice (some ⟨b2,0,none⟩) rd.length c2] 79):=⟨_,rfl⟩
  rw[← hw3] at B3 BC VM x0 x1 ⊢;have hz3:w2.heap.size < w3.heap.size:=(Array.getElem?_eq_some_iff.1 VM.o).1;clear hw3;refine (LL2.o _ B3.o).mono ?_;rintro e w4 ⟨rfl,hb4⟩;have B4:=zaa (zfh B3.o hb4);have BD:=zaa (zfh BC.o hb4);have VM4:=zaa ((hb4.block _ hz3).trans VM.o);have R4:=zaa (RR.o.below BD.o (Nat.le_refl _));have hz4:w3.heap.size≤w4.heap.size:=hb4.size;clear x0 x1 hb4 VM RR BC;obtain ⟨y0,y1,_,_⟩:=zac VM4.o;go_wp2_with fail;refine (LI.o _ _ R4.o.rd).mono ?_;rintro e w5 ⟨rfl,hb5⟩;have B5:=zaa (zfh B4.o hb5);have VM5:=zaa ((hb5.block _ (by omega)).trans VM4.o);have R5:=zaa (R4.o.below hb5 (by omega));have hz5:w4.heap.size≤w5.heap.size:=hb5.size;clear y0 y1 hb5 VM4 R4;obtain ⟨y0,y1,_,_⟩:=zac VM5.o;have CB:=zaa (CR.o _ B5.o);obtain ⟨p0,p1,p2,p3⟩:=zac CB.o;have BR:Hid (Below w.heap.size w ((w5.setCell ⟨w.heap.size+1,0,none⟩ (.slice (some ⟨b1,0,none⟩) rn.length c1)).setCell ⟨w.heap.size+1,1,none⟩ (.slice (some ⟨b2,0,none⟩) rd.length c2))):=((zab BW.o B5.o BW.o.size).setCell (by simp only;omega) _).setCell (by simp only;omega) _;have RF:=zaa (zie (zwu R5.o CB.o (.slice (some ⟨b1,0,none⟩) rn.length c1) (.slice (some ⟨b2,0,none⟩) rd.length c2)) (lo':=w.heap.size) (hi':=((w5.setCell ⟨w.heap.size+1,0,none⟩ (.slice (some ⟨b1,0,none⟩) rn.length c1)).setCell ⟨w.heap.size+1,1,none⟩ (.slice (some ⟨b2,0,none⟩) rd.length c2)).heap.size) (by have:=BW.o.size;omega) (by simp;omega));clear CB R5 VM5;go_wp2;refine bodyPost_ret (v:=.tuple #[.agg #[.slice (some ⟨b1,0,none⟩) rn.length c1,.slice (some ⟨b2,0,none⟩) rd.length c2],.int .i64 0]) (by simp[results,Tryz.results77,go_sem,p0,p1]) rfl ?_;exact ⟨_,rfl,RF.o,BR.o⟩
def dvN (ws:List Int) (ps:List St) (es:List Int) (qs:List Se):List Ino:=if dvB ws ps es qs=true then zbk (zcj ws ps) 16 else []
def dvD (ws:List Int) (ps:List St) (es:List Int) (qs:List Se):List Den:=if dvB ws ps es qs=true then zbq (zcj ws ps) 24 else []
theorem yaiw {ws:List Int} {ps:List St} {es:List Int} {qs:List Se} (h:(pmB ws ps && zin es qs)=false):dvB ws ps es qs=false∧dvN ws ps es qs=[]∧dvD ws ps es qs=[]:=by
 have e:dvB ws ps es qs=false:=by unfold dvB;rw[h];rfl
 exact ⟨e,by unfold dvN;rw[e];rfl,by unfold dvD;rw[e];rfl⟩
theorem yags {ws:List Int} {ps:List St} {es:List Int} {qs:List Se} (h:(pmB ws ps && zin es qs)=true):dvB ws ps es qs=(riC ws ps == 0)∧dvN ws ps es qs=riN ws ps∧dvD ws ps es qs=riD ws ps:=by
 have p:pmB ws ps=true:=by rw[Bool.and_eq_true] at h;exact h.1
 have e:dvB ws ps es qs=riB (zcj ws ps):=by unfold dvB;rw[h];rfl
 cases q:riB (zcj ws ps) with
 | false =>
  obtain ⟨a,b,c⟩:=zzc p q;rw[q] at e;exact ⟨by rw[e,a];rfl,by unfold dvN;rw[e,b];rfl,by unfold dvD;rw[e,c];rfl⟩
 | true =>
  obtain ⟨a,b,c⟩:=yapg p q;rw[q] at e;exact ⟨by rw[e,a];rfl,by unfold dvN;rw[e,b];rfl,by unfold dvD;rw[e,c];rfl⟩
theorem zva {w:World} {lo hi:Nat} {vI vD:Value} {xs:List Ino} {ds:List Den} {b:Nat} {cs:Array Value} {fr:Nat×Nat} (h1:Row w 133 11 lo hi vI xs.length (inos xs)) (h2:Row w 185 3 lo hi vD ds.length (zhd ds)) (hb:w.heap[b]?=some (.cells cs 79 fr)) (v0 v1:Value):RowIm ((w.setCell ⟨b,0,none⟩ v0).setCell ⟨b,1,none⟩ v1) lo hi (.agg #[vI,vD]) xs ds:=by
 have T1:=zcc h1.1 hb zlf;have T2:=zcc h2.1 hb zlu;exact ⟨_,_,rfl,⟨ownsRow_setCell_other (ownsRow_setCell_other h1.1 T1 _) T1 _,h1.2⟩,⟨ownsRow_setCell_other (ownsRow_setCell_other h2.1 T2 _) T2 _,h2.2⟩⟩
theorem zxc (v:Value) (ws:List Int) (ps:List St) (es:List Int) (qs:List Se) (w:World) (h:RdDev w v ws ps es qs) (hw:ws.length≤1048576) (hp:ps.length≤1048576) (he:es.length≤1048576) (hq:qs.length≤1048576) :
  Calls Tryz.prog 31 #[v] w fun e w'=>∃ v',e=.returned (.tuple #[v',.bool (dvB ws ps es qs)])∧RowIm w' w.heap.size w'.heap.size v' (dvN ws ps es qs) (dvD ws ps es qs)∧Below w.heap.size w w':=by
 have LO:=zaa (fun w1 (hb:Below w.heap.size w w1)=>zlz v ws ps es qs w1 (h.below hb) hw hp he hq);obtain ⟨aW,cW,aP,cP,aS,cS,aQ,cQ,rfl,h1,h2⟩:=h.form;have LR:=zaa (fun w1 (hb:Below w.heap.size w w1)=>zlt _ ws ps w1 (h1.below hb) hw hp);have NO:=zaa (fun q=>yaiw (ws:=ws) (ps:=ps) (es:=es) (qs:=qs) q);have YES:=zaa (fun q=>yags (ws:=ws) (ps:=ps) (es:=es) (qs:=qs) q);clear h h1 h2
 obtain ⟨W1,hW1⟩:∃ W1,W1=(w.alloc (.cells #[.slice aW ws.length cW,.slice aP ps.length cP,.slice aS es.length cS,.slice aQ qs.length cQ] 48)).alloc (.cells #[.slice none 0 0,.slice none 0 0] 79):=⟨_,rfl⟩
 have hz1:W1.heap.size=w.heap.size+1+1:=by rw[hW1];simp
 have CA:Hid (∀ w',Below W1.heap.size W1 w'→w'.cell? ⟨w.heap.size,0,none⟩=some (.slice aW ws.length cW)∧w'.cell? ⟨w.heap.size,1,none⟩=some (.slice aP ps.length cP)∧w'.cell? ⟨w.heap.size,2,none⟩=some (.slice aS es.length cS)∧w'.cell? ⟨w.heap.size,3,none⟩=some (.slice aQ qs.length cQ)):=fun w' hb=>by
  have:w'.heap[w.heap.size]?=some (.cells #[.slice aW ws.length cW,.slice aP ps.length cP,.slice aS es.length cS,.slice aQ qs.length cQ] 48 (0,0)):=(hb.block _ (by omega)).trans (by rw[hW1];exact zat (zah rfl));obtain ⟨x0,x1,x2,x3,-,-,-,-⟩:=zax this;exact ⟨x0,x1,x2,x3⟩
 have CR:Hid (∀ w',Below W1.heap.size W1 w'→w'.heap[w.heap.size+1]?=some (.cells #[.slice none 0 0,.slice none 0 0] 79 (0,0))):=fun w' hb=>(hb.block _ (by omega)).trans (by
  rw[hW1];have:=zah (w:=w.alloc (.cells #[.slice aW ws.length cW,.slice aP ps.length cP,.slice aS es.length cS,.slice aQ qs.length cQ] 48)) (o:=.cells #[.slice none 0 0,.slice none 0 0] 79) rfl;rw[World.size_alloc] at this
  exact this)
 have BW:Hid (Below w.heap.size w W1):=by rw[hW1];exact ((Below.refl _ _).alloc (Nat.le_refl _) _).alloc (by simp) _
 have hz0:w.heap.size+1 < W1.heap.size:=by omega
 clear hz1;obtain ⟨x0,x1,x2,x3⟩:=CA.o W1 (Below.refl _ _);generalize riC ws ps=rc at *;generalize riN ws ps=rn at *;generalize riD ws ps=rd at *;generalize dvB ws ps es qs=db at *;generalize dvN ws ps es qs=dn at *;generalize dvD ws ps es qs=dd at *;generalize (pmB ws ps && zin es qs)=ok at *;go_enter Tryz.func31,Tryz.ntmps31;go_wp2_with fail;rw[← hW1];clear hW1;refine (LO.o _ BW.o).mono ?_;rintro e w1 ⟨rfl,hb1⟩;have B1:=zaa hb1;have B1w:=zaa (zab BW.o B1.o BW.o.size);clear x0 x1 x2 x3 hb1;obtain ⟨x0,x1,x2,x3⟩:=CA.o w1 B1.o
 cases ok with
 | false =>
  obtain ⟨rfl,rfl,rfl⟩:=NO.o rfl;have CB:=zaa (CR.o _ B1.o);obtain ⟨p0,p1,p2,p3⟩:=zac CB.o;have BR:Hid (Below w.heap.size w ((w1.setCell ⟨w.heap.size+1,0,none⟩ (.slice none 0 0)).setCell ⟨w.heap.size+1,1,none⟩ (.slice none 0 0))):=(B1w.o.setCell (by simp only;omega) _).setCell (by simp only;omega) _;clear NO YES;go_wp2;refine bodyPost_ret (v:=.tuple #[.agg #[.slice none 0 0,.slice none 0 0],.bool false]) (by simp[results,Tryz.results31,go_sem,p0,p1]) rfl ?_;exact ⟨_,rfl,zcs _ _ _,BR.o⟩
 | true =>
  obtain ⟨rfl,rfl,rfl⟩:=YES.o rfl;clear NO YES;go_wp2_with fail;refine (LR.o _ B1w.o).mono ?_;rintro e w2 ⟨v2,rfl,⟨vI,vD,rfl,hI,hD⟩,hb2⟩;obtain ⟨-,a1,c1,hv1,-⟩:=hI.rd;obtain ⟨-,a2,c2,hv2,-⟩:=hD.rd;subst hv1;subst hv2;have HI:=zaa hI;have HD:=zaa hD;have B2:=zaa (zfh B1.o hb2);have B3:Hid (Below W1.heap.size W1 (w2.alloc (.cells #[.slice a1 dn.length c1,.slice a2 dd.length c2] 79))):=zan B2.o _;have hz12:W1.heap.size≤w1.heap.size:=B1.o.size;have hz2:w1.heap.size≤w2.heap.size:=hb2.size;have hzw:w.heap.size≤w1.heap.size:=B1w.o.size;clear x0 x1 x2 x3 hb2 hI hD;obtain ⟨y0,y1,_,_⟩:=zac (zah (w:=w2) (o:=.cells #[.slice a1 dn.length c1,.slice a2 dd.length c2] 79) rfl)
  obtain ⟨w3,hw3⟩:∃ w3,w3=w2.alloc (.cells #[.slice a1 dn.length c1,.slice a2 dd.length c2] 79):=⟨_,rfl⟩
  have BC:Hid (Below w2.heap.size w2 w3):=by rw[hw3];exact (Below.refl _ _).alloc (Nat.le_refl _) _
  rw[← hw3] at B3 y0 y1;have HI3:=zaa (HI.o.below BC.o (Nat.le_refl _));have HD3:=zaa (HD.o.below BC.o (Nat.le_refl _));have hz3:w2.heap.size≤w3.heap.size:=BC.o.size;have CB:=zaa (CR.o _ B3.o);obtain ⟨p0,p1,p2,p3⟩:=zac CB.o;have BR:Hid (Below w.heap.size w ((w3.setCell ⟨w.heap.size+1,0,none⟩ (.slice a1 dn.length c1)).setCell ⟨w.heap.size+1,1,none⟩ (.slice a2 dd.length c2))):=((zab BW.o B3.o BW.o.size).setCell (by simp only;omega) _).setCell (by simp only;omega) _;have RF:=zaa (zie (zva HI3.o HD3.o CB.o (.slice a1 dn.length c1) (.slice a2 dd.length c2)) (lo':=w.heap.size) (hi':=((w3.setCell ⟨w.heap.size+1,0,none⟩ (.slice a1 dn.length c1)).setCell ⟨w.heap.size+1,1,none⟩ (.slice a2 dd.length c2)).heap.size) (by omega) (by simp;omega));clear CB HI HD HI3 HD3 BC B3 B2 LR LO CA CR;subst hw3;go_wp2;refine bodyPost_ret (v:=.tuple #[.agg #[.slice a1 dn.length c1,.slice a2 dd.length c2],.bool (rc == 0)]) (by simp[results,Tryz.results31,go_sem,p0,p1]) rfl ?_;exact ⟨_,rfl,RF.o,BR.o⟩
end Go.Proofs.YtehnphoeplmpdaaGreatDoor
