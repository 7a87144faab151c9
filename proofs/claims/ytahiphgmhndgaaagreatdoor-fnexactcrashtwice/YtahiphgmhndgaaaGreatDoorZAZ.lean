/- Several texts laid together: RdD, DtC, FqD. -/
import Derived.Test.YtahiphgmhndgaaaGreatDoorRdC
import Derived.Test.YtahiphgmhndgaaaGreatDoorZAX
import Derived.Test.YtahiphgmhndgaaaGreatDoorZAD
import Derived.Test.YtahiphgmhndgaaaGreatDoorZAT
import Derived.Test.YtahiphgmhndgaaaGreatDoorZAK
import Derived.Test.YtahiphgmhndgaaaGreatDoorZAI
import Derived.Test.YtahiphgmhndgaaaGreatDoorZAQ
import Derived.Deep.RegionHeld3
import Derived.Maps.Views
import Derived.Deep.LoopGhost
import Derived.Laws.OwnMore
import Derived.Lib.SplitLaws
import Derived.Lib.IndexBytes
import Derived.BigQuiet
import Derived.Sort.Walk0
import Derived.Laws.Cover1
import Derived.Deep.RegionLaw
import Derived.Test.YtahiphgmhndgaaaGreatDoorZAN
import Derived.Test.YtahiphgmhndgaaaGreatDoorZAP
set_option maxRecDepth 100000
set_option maxHeartbeats 8000000
namespace Go.Proofs.YtahiphgmhndgaaaGreatDoor
open Go.RowKit
theorem yaih {ws:List Int} {ps:List St} (h:pmB ws ps=false):riC ws ps=1∧riN ws ps=[]∧riD ws ps=[]:=by
 have e:riC ws ps=1:=by unfold riC;rw[h];rfl
 exact ⟨e,by unfold riN;rw[e];rfl,by unfold riD;rw[e];rfl⟩
theorem yabx {ws:List Int} {ps:List St} (h:pmB ws ps=true) (q:riB (zcq ws ps)=false):riC ws ps=3∧riN ws ps=[]∧riD ws ps=[]:=by
 have e:riC ws ps=3:=by unfold riC;rw[h,q];rfl
 exact ⟨e,by unfold riN;rw[e];rfl,by unfold riD;rw[e];rfl⟩
theorem yasb {ws:List Int} {ps:List St} (h:pmB ws ps=true) (q:riB (zcq ws ps)=true):riC ws ps=0∧riN ws ps=zbm (zcq ws ps) 16∧riD ws ps=zbw (zcq ws ps) 24:=by
 have e:riC ws ps=0:=by unfold riC;rw[h,q];rfl
 exact ⟨e,by unfold riN;rw[if_pos e],by unfold riD;rw[if_pos e]⟩
theorem zdj (w:World) (lo hi:Nat):RowIm w lo hi (.agg #[.slice none 0 0,.slice none 0 0]) [] []:=⟨_,_,rfl,Row.nil _ _ _ _ _,Row.nil _ _ _ _ _⟩
theorem zuo {ws:List Int} {ps:List St} (h:pmB ws ps=true) (n:Nat):∀ k (hk:k < (zbm (zcq ws ps) n).length),(zbm (zcq ws ps) n)[k].R:=by
 intro k hk;have hm:(zbm (zcq ws ps) n)[k]∈(List.range n).map (zmc (zcq ws ps)):=List.getElem_mem hk;obtain ⟨j,_,e⟩:=List.mem_map.1 hm;rw[← e];exact yaru h j
theorem zjq (ls:List Int) (n:Nat):∀ k (hk:k < (zbw ls n).length),(zbw ls n)[k].name.size≤maxLen:=by
 intro k hk;have hm:(zbw ls n)[k]∈(List.range n).map (zrr ls):=List.getElem_mem hk;obtain ⟨j,_,e⟩:=List.mem_map.1 hm;rw[← e];exact yafv ls j
theorem zlz {w:World} {lo hi lo' hi':Nat} {v:Value} {xs:List Ino} {ds:List Den} (h:RowIm w lo hi v xs ds) (h1:lo'≤lo) (h2:hi≤hi'):RowIm w lo' hi' v xs ds:=by
 obtain ⟨vI,vD,e,a,b⟩:=h;exact ⟨vI,vD,e,a.wide h1 h2,b.wide h1 h2⟩
theorem zxt {w:World} {lo hi:Nat} {b1 b2 c1 c2 n1 n2:Nat} {xs:List Ino} {ds:List Den} {b:Nat} {cs:Array Value} {fr:Nat×Nat} (h:RowIm w lo hi (.agg #[.slice (some ⟨b1,0,none⟩) n1 c1,.slice (some ⟨b2,0,none⟩) n2 c2]) xs ds) (hb:w.heap[b]?=some (.cells cs 102 fr)) (v0 v1:Value):RowIm ((w.setCell ⟨b,0,none⟩ v0).setCell ⟨b,1,none⟩ v1) lo hi (.agg #[.slice (some ⟨b1,0,none⟩) n1 c1,.slice (some ⟨b2,0,none⟩) n2 c2]) xs ds:=by
 obtain ⟨vI,vD,e,h1,h2⟩:=h;injection e with e
 obtain ⟨rfl,rfl⟩:vI=.slice (some ⟨b1,0,none⟩) n1 c1∧vD=.slice (some ⟨b2,0,none⟩) n2 c2:=by
  have:=congrArg Array.toList e;simp at this;exact ⟨this.1.symm,this.2.symm⟩
 have T1:=zdk h1.1 hb zlu;have T2:=zdk h2.1 hb zlk;exact ⟨_,_,rfl,⟨ownsRow_setCell_other (ownsRow_setCell_other h1.1 T1 _) T1 _,h1.2⟩,⟨ownsRow_setCell_other (ownsRow_setCell_other h2.1 T2 _) T2 _,h2.2⟩⟩
theorem zgm (v:Value) (ws:List Int) (ps:List St) (w:World) (h:RdPm w v ws ps) (hw:ws.length≤1048576) (hp:ps.length≤1048576) :
  Calls Tryz.prog 62 #[v] w fun e w'=>∃ v',e=.returned (.tuple #[v',.int .i64 (riC ws ps)])∧RowIm w' w.heap.size w'.heap.size v' (riN ws ps) (riD ws ps)∧Below w.heap.size w w':=by
 have HR:=zaa h;have LO:=zaa (fun w1 h=>zde v ws ps w1 h hw hp);have LR:=zaa (fun w1 h (q:pmB ws ps=true)=>zzy v ws ps w1 h q);have LL:=zaa (fun w1 h (q:pmB ws ps=true)=>yaqn v ws ps 0 w1 h q (by omega));obtain ⟨vW,vP,rfl,h1,h2⟩:=h;obtain ⟨aW,cW,rfl,_,_⟩:=h1.shape;obtain ⟨aP,cP,rfl,_,_⟩:=h2.shape;clear h1 h2
 obtain ⟨W1,hW1⟩:∃ W1,W1=(w.alloc (.cells #[.slice aW ws.length cW,.slice aP ps.length cP] 40)).alloc (.cells #[.slice none 0 0,.slice none 0 0] 102):=⟨_,rfl⟩
 have hz1:W1.heap.size=w.heap.size+1+1:=by rw[hW1];simp
 have CA:Hid (∀ w',Below W1.heap.size W1 w'→w'.cell? ⟨w.heap.size,0,none⟩=some (.slice aW ws.length cW)∧w'.cell? ⟨w.heap.size,1,none⟩=some (.slice aP ps.length cP)):=fun w' hb=>by
  have:w'.heap[w.heap.size]?=some (.cells #[.slice aW ws.length cW,.slice aP ps.length cP] 40 (0,0)):=(hb.block _ (by omega)).trans (by rw[hW1];exact zal (zag rfl));exact ⟨(zad this).1,(zad this).2.1⟩
 have CR:Hid (∀ w',Below W1.heap.size W1 w'→w'.heap[w.heap.size+1]?=some (.cells #[.slice none 0 0,.slice none 0 0] 102 (0,0))):=fun w' hb=>(hb.block _ (by omega)).trans (by
  rw[hW1];have:=zag (w:=w.alloc (.cells #[.slice aW ws.length cW,.slice aP ps.length cP] 40)) (o:=.cells #[.slice none 0 0,.slice none 0 0] 102) rfl;rw[World.size_alloc] at this
  exact this)
 have BW:Hid (Below w.heap.size w W1):=by rw[hW1];exact ((Below.refl _ _).alloc (Nat.le_refl _) _).alloc (by simp) _
 have hz0:w.heap.size+1 < W1.heap.size:=by omega
 clear hz1;obtain ⟨x0,x1⟩:=CA.o W1 (Below.refl _ _)
 cases c1:pmB ws ps with
 | false =>
  obtain ⟨E1,E2,E3⟩:=yaih c1;rw[c1] at LO;rw[E1,E2,E3];clear c1 E1 E2 E3 LR LL;go_enter Tryz.func62,Tryz.ntmps62;go_wp2_with fail;rw[← hW1];clear hW1;refine (LO.o _ (HR.o.below BW.o)).mono ?_;rintro e w1 ⟨rfl,hb1⟩;have B1:=zaa hb1;clear x0 x1 hb1;obtain ⟨x0,x1⟩:=CA.o w1 B1.o;have CB:=zaa (CR.o _ B1.o);obtain ⟨p0,p1,p2,p3⟩:=zad CB.o;have BR:Hid (Below w.heap.size w ((w1.setCell ⟨w.heap.size+1,0,none⟩ (.slice none 0 0)).setCell ⟨w.heap.size+1,1,none⟩ (.slice none 0 0))):=((zab BW.o B1.o BW.o.size).setCell (by simp only;omega) _).setCell (by simp only;omega) _;go_wp2;refine bodyPost_ret (v:=.tuple #[.agg #[.slice none 0 0,.slice none 0 0],.int .i64 1]) (by simp[results,Tryz.results62,go_sem,p0,p1]) rfl ?_;exact ⟨_,rfl,zdj _ _ _,BR.o⟩
 | true =>
 have C1:=zaa c1;rw[c1] at LO;have LR2:=zaa (fun w1 (hb:Below W1.heap.size W1 w1)=>LR.o w1 (HR.o.below (zab BW.o hb BW.o.size)) c1);have LL2:=zaa (fun w1 (hb:Below W1.heap.size W1 w1)=>LL.o w1 (HR.o.below (zab BW.o hb BW.o.size)) c1);have NO:=zaa (fun q=>yabx C1.o q);have YES:=zaa (fun q=>yasb C1.o q);have RB:=zaa (show riB (zcq ws ps)=(wdI (zcq ws ps) 0 == 7 && (zfa (zcq ws ps) 24 && zti (zbm (zcq ws ps) 16) (zbw (zcq ws ps) 24))) from rfl);have LI:=zaa (fun v w1 h=>zpi v (zbm (zcq ws ps) 16) (zbw (zcq ws ps) 24) w1 h (by rw[zbn];omega) (by rw[zbh];omega) (zuo C1.o 16) (zjq _ 24));have NI:=zaa (zbn (zcq ws ps) 16);have ND:=zaa (zbh (zcq ws ps) 24);clear c1 LR LL;generalize riC ws ps=rc at *;generalize riN ws ps=rn at *;generalize riD ws ps=rd at *;generalize riB (zcq ws ps)=rb at *;generalize wdI (zcq ws ps) 0=w0 at *;generalize zfa (zcq ws ps) 24=ag at *;generalize zbm (zcq ws ps) 16=XI at *;generalize zbw (zcq ws ps) 24=XD at *;generalize zti XI XD=ib at *
 cases ag with
 | false =>
  obtain ⟨rfl,rfl,rfl⟩:=NO.o (by rw[RB.o];simp);clear NO YES RB LI;go_enter Tryz.func62,Tryz.ntmps62;go_wp2_with fail;rw[← hW1];clear hW1;refine (LO.o _ (HR.o.below BW.o)).mono ?_;rintro e w1 ⟨rfl,hb1⟩;have B1:=zaa hb1;clear x0 x1 hb1;obtain ⟨x0,x1⟩:=CA.o w1 B1.o;go_wp2_with fail;refine (LR2.o _ B1.o).mono ?_;rintro e w2 ⟨⟨v2,rfl,_,hv2⟩,hb2⟩;obtain rfl:=hv2 (by trivial);clear hv2;have B2:=zaa (zjx B1.o hb2);have B3:Hid (Below W1.heap.size W1 (w2.alloc (.cells #[.slice none 0 0,.slice none 0 0] 102))):=zan B2.o _;clear x0 x1 hb2;obtain ⟨x0,x1⟩:=CA.o _ B3.o;go_wp2_with fail
  obtain ⟨w3,hw3⟩:∃ w3,w3=w2.alloc (.cells #[.slice none 0 0,.slice none 0 0] 102):=⟨_,rfl⟩
  rw[← hw3] at B3 x0 x1 ⊢;clear hw3;refine (LL2.o _ B3.o).mono ?_;rintro e w4 ⟨rfl,hb4⟩;have B4:=zaa (zjx B3.o hb4);clear x0 x1 hb4
  by_cases q:w0=7
  ·have q1:(w0 != 7)=false:=by rw[q];rfl
   have CB:=zaa (CR.o _ B4.o);obtain ⟨p0,p1,p2,p3⟩:=zad CB.o;have BR:Hid (Below w.heap.size w ((w4.setCell ⟨w.heap.size+1,0,none⟩ (.slice none 0 0)).setCell ⟨w.heap.size+1,1,none⟩ (.slice none 0 0))):=((zab BW.o B4.o BW.o.size).setCell (by simp only;omega) _).setCell (by simp only;omega) _;go_wp2;refine bodyPost_ret (v:=.tuple #[.agg #[.slice none 0 0,.slice none 0 0],.int .i64 3]) (by simp[results,Tryz.results62,go_sem,p0,p1]) rfl ?_;exact ⟨_,rfl,zdj _ _ _,BR.o⟩
  ·have q1:(w0 != 7)=true:=by rw[bne_iff_ne];exact q
   have CB:=zaa (CR.o _ B4.o);obtain ⟨p0,p1,p2,p3⟩:=zad CB.o;have BR:Hid (Below w.heap.size w ((w4.setCell ⟨w.heap.size+1,0,none⟩ (.slice none 0 0)).setCell ⟨w.heap.size+1,1,none⟩ (.slice none 0 0))):=((zab BW.o B4.o BW.o.size).setCell (by simp only;omega) _).setCell (by simp only;omega) _;go_wp2;refine bodyPost_ret (v:=.tuple #[.agg #[.slice none 0 0,.slice none 0 0],.int .i64 3]) (by simp[results,Tryz.results62,go_sem,p0,p1]) rfl ?_;exact ⟨_,rfl,zdj _ _ _,BR.o⟩
 | true =>
 by_cases q:w0=7
 case neg =>
  obtain ⟨rfl,rfl,rfl⟩:=NO.o (by rw[RB.o,show (w0 == 7)=false by rw[beq_eq_false_iff_ne];exact q];rfl)
  have q1:(w0 != 7)=true:=by rw[bne_iff_ne];exact q
  clear NO YES RB LI q;go_enter Tryz.func62,Tryz.ntmps62;go_wp2_with fail;rw[← hW1];clear hW1;refine (LO.o _ (HR.o.below BW.o)).mono ?_;rintro e w1 ⟨rfl,hb1⟩;have B1:=zaa hb1;clear x0 x1 hb1;obtain ⟨x0,x1⟩:=CA.o w1 B1.o;go_wp2_with fail;refine (LR2.o _ B1.o).mono ?_;rintro e w2 ⟨⟨v2,rfl,hv2,_⟩,hb2⟩;obtain ⟨vI,vD,rfl,hI,hD⟩:=hv2 (by trivial)
  rcases hI.shape with ⟨_,e,_⟩ | ⟨b1,c1,rfl,_,_⟩
  ·have:=NI.o;omega
  rcases hD.shape with ⟨_,e,_⟩ | ⟨b2,c2,rfl,_,_⟩
  ·have:=ND.o;omega
  clear hv2 hI hD;have B2:=zaa (zjx B1.o hb2);have B3:Hid (Below W1.heap.size W1 (w2.alloc (.cells #[.slice (some ⟨b1,0,none⟩) XI.length c1,.slice (some ⟨b2,0,none⟩) XD.length c2] 102))):=zan B2.o _;clear x0 x1 hb2;obtain ⟨x0,x1⟩:=CA.o _ B3.o;go_wp2_with fail
  obtain ⟨w3,hw3⟩:∃ w3,w3=w2.alloc (.cells #[.slice (some ⟨b1,0,none⟩) XI.length c1,.slice (some ⟨b2,0,none⟩) XD.length c2] 102):=⟨_,rfl⟩
  rw[← hw3] at B3 x0 x1 ⊢;clear hw3;refine (LL2.o _ B3.o).mono ?_;rintro e w4 ⟨rfl,hb4⟩;have B4:=zaa (zjx B3.o hb4);clear x0 x1 hb4;have CB:=zaa (CR.o _ B4.o);obtain ⟨p0,p1,p2,p3⟩:=zad CB.o;have BR:Hid (Below w.heap.size w ((w4.setCell ⟨w.heap.size+1,0,none⟩ (.slice none 0 0)).setCell ⟨w.heap.size+1,1,none⟩ (.slice none 0 0))):=((zab BW.o B4.o BW.o.size).setCell (by simp only;omega) _).setCell (by simp only;omega) _;go_wp2;refine bodyPost_ret (v:=.tuple #[.agg #[.slice none 0 0,.slice none 0 0],.int .i64 3]) (by simp[results,Tryz.results62,go_sem,p0,p1]) rfl ?_;exact ⟨_,rfl,zdj _ _ _,BR.o⟩
 have q1:(w0 != 7)=false:=by rw[q];rfl
 have RB2:Hid (rb=ib):=by unfold Hid;rw[RB.o,q];rfl
 clear q RB
 cases ib with
 | false =>
  obtain ⟨rfl,rfl,rfl⟩:=NO.o RB2.o;clear NO YES RB2;go_enter Tryz.func62,Tryz.ntmps62;go_wp2_with fail;rw[← hW1];clear hW1;refine (LO.o _ (HR.o.below BW.o)).mono ?_;rintro e w1 ⟨rfl,hb1⟩;have B1:=zaa hb1;clear x0 x1 hb1;obtain ⟨x0,x1⟩:=CA.o w1 B1.o;go_wp2_with fail;refine (LR2.o _ B1.o).mono ?_;rintro e w2 ⟨⟨v2,rfl,hv2,_⟩,hb2⟩;have RR:=zaa (hv2 (by trivial));obtain ⟨vI,vD,rfl,hI,hD⟩:=RR.o
  rcases hI.shape with ⟨_,e,_⟩ | ⟨b1,c1,rfl,_,_⟩
  ·have:=NI.o;omega
  rcases hD.shape with ⟨_,e,_⟩ | ⟨b2,c2,rfl,_,_⟩
  ·have:=ND.o;omega
  have hz12:W1.heap.size≤w1.heap.size:=B1.o.size;have hz2:w1.heap.size≤w2.heap.size:=hb2.size;clear hv2 hI hD;have B2:=zaa (zjx B1.o hb2);have B3:Hid (Below W1.heap.size W1 (w2.alloc (.cells #[.slice (some ⟨b1,0,none⟩) XI.length c1,.slice (some ⟨b2,0,none⟩) XD.length c2] 102))):=zan B2.o _;have BC:Hid (Below w2.heap.size w2 (w2.alloc (.cells #[.slice (some ⟨b1,0,none⟩) XI.length c1,.slice (some ⟨b2,0,none⟩) XD.length c2] 102))):=(Below.refl _ _).alloc (Nat.le_refl _) _;have VM:Hid ((w2.alloc (.cells #[.slice (some ⟨b1,0,none⟩) XI.length c1,.slice (some ⟨b2,0,none⟩) XD.length c2] 102)).heap[w2.heap.size]?=some (.cells #[.slice (some ⟨b1,0,none⟩) XI.length c1,.slice (some ⟨b2,0,none⟩) XD.length c2] 102 (0,0))):=zag rfl;clear x0 x1 hb2;obtain ⟨x0,x1⟩:=CA.o _ B3.o;go_wp2_with fail
  obtain ⟨w3,hw3⟩:∃ w3,w3=w2.alloc (.cells #[.slice (some ⟨b1,0,none⟩) XI.length c1,.slice (some ⟨b2,0,none⟩) XD.length c2] 102):=⟨_,rfl⟩
  rw[← hw3] at B3 BC VM x0 x1 ⊢;have hz3:w2.heap.size < w3.heap.size:=(Array.getElem?_eq_some_iff.1 VM.o).1;clear hw3;refine (LL2.o _ B3.o).mono ?_;rintro e w4 ⟨rfl,hb4⟩;have B4:=zaa (zjx B3.o hb4);have BD:=zaa (zjx BC.o hb4);have VM4:=zaa ((hb4.block _ hz3).trans VM.o);have R4:=zaa (RR.o.below BD.o (Nat.le_refl _));have hz4:w3.heap.size≤w4.heap.size:=hb4.size;clear x0 x1 hb4 VM RR BC;obtain ⟨y0,y1,_,_⟩:=zad VM4.o;go_wp2_with fail;refine (LI.o _ _ R4.o.rd).mono ?_;rintro e w5 ⟨rfl,hb5⟩;have B5:=zaa (zjx B4.o hb5);have VM5:=zaa ((hb5.block _ (by omega)).trans VM4.o);have R5:=zaa (R4.o.below hb5 (by omega));have hz5:w4.heap.size≤w5.heap.size:=hb5.size;clear y0 y1 hb5 VM4 R4;have CB:=zaa (CR.o _ B5.o);obtain ⟨p0,p1,p2,p3⟩:=zad CB.o;have BR:Hid (Below w.heap.size w ((w5.setCell ⟨w.heap.size+1,0,none⟩ (.slice none 0 0)).setCell ⟨w.heap.size+1,1,none⟩ (.slice none 0 0))):=((zab BW.o B5.o BW.o.size).setCell (by simp only;omega) _).setCell (by simp only;omega) _;go_wp2;refine bodyPost_ret (v:=.tuple #[.agg #[.slice none 0 0,.slice none 0 0],.int .i64 3]) (by simp[results,Tryz.results62,go_sem,p0,p1]) rfl ?_;exact ⟨_,rfl,zdj _ _ _,BR.o⟩
 | true =>
  obtain ⟨rfl,rfl,rfl⟩:=YES.o RB2.o;clear NO YES RB2;go_enter Tryz.func62,Tryz.ntmps62;go_wp2_with fail;rw[← hW1];clear hW1;refine (LO.o _ (HR.o.below BW.o)).mono ?_;rintro e w1 ⟨rfl,hb1⟩;have B1:=zaa hb1;clear x0 x1 hb1;obtain ⟨x0,x1⟩:=CA.o w1 B1.o;go_wp2_with fail;refine (LR2.o _ B1.o).mono ?_;rintro e w2 ⟨⟨v2,rfl,hv2,_⟩,hb2⟩;have RR:=zaa (hv2 (by trivial));obtain ⟨vI,vD,rfl,hI,hD⟩:=RR.o
  rcases hI.shape with ⟨_,e,_⟩ | ⟨b1,c1,rfl,_,_⟩
  ·have:=NI.o;omega
  rcases hD.shape with ⟨_,e,_⟩ | ⟨b2,c2,rfl,_,_⟩
  ·have:=ND.o;omega
  have hz12:W1.heap.size≤w1.heap.size:=B1.o.size;have hz2:w1.heap.size≤w2.heap.size:=hb2.size;clear hv2 hI hD;have B2:=zaa (zjx B1.o hb2);have B3:Hid (Below W1.heap.size W1 (w2.alloc (.cells #[.slice (some ⟨b1,0,none⟩) rn.length c1,.slice (some ⟨b2,0,none⟩) rd.length c2] 102))):=zan B2.o _;have BC:Hid (Below w2.heap.size w2 (w2.alloc (.cells #[.slice (some ⟨b1,0,none⟩) rn.length c1,.slice (some ⟨b2,0,none⟩) rd.length c2] 102))):=(Below.refl _ _).alloc (Nat.le_refl _) _;have VM:Hid ((w2.alloc (.cells #[.slice (some ⟨b1,0,none⟩) rn.length c1,.slice (some ⟨b2,0,none⟩) rd.length c2] 102)).heap[w2.heap.size]?=some (.cells #[.slice (some ⟨b1,0,none⟩) rn.length c1,.slice (some ⟨b2,0,none⟩) rd.length c2] 102 (0,0))):=zag rfl;clear x0 x1 hb2;obtain ⟨x0,x1⟩:=CA.o _ B3.o;go_wp2_with fail
  obtain ⟨w3,hw3⟩:∃ w3,w3=w2.alloc (.cells #[.slice (some ⟨b1,0,none⟩) rn.length c1,.slice (some ⟨b2,0,none⟩) rd.length c2] 102):=⟨_,rfl⟩
  rw[← hw3] at B3 BC VM x0 x1 ⊢;have hz3:w2.heap.size < w3.heap.size:=(Array.getElem?_eq_some_iff.1 VM.o).1;clear hw3;refine (LL2.o _ B3.o).mono ?_;rintro e w4 ⟨rfl,hb4⟩;have B4:=zaa (zjx B3.o hb4);have BD:=zaa (zjx BC.o hb4);have VM4:=zaa ((hb4.block _ hz3).trans VM.o);have R4:=zaa (RR.o.below BD.o (Nat.le_refl _));have hz4:w3.heap.size≤w4.heap.size:=hb4.size;clear x0 x1 hb4 VM RR BC;obtain ⟨y0,y1,_,_⟩:=zad VM4.o;go_wp2_with fail;refine (LI.o _ _ R4.o.rd).mono ?_;rintro e w5 ⟨rfl,hb5⟩;have B5:=zaa (zjx B4.o hb5);have VM5:=zaa ((hb5.block _ (by omega)).trans VM4.o);have R5:=zaa (R4.o.below hb5 (by omega));have hz5:w4.heap.size≤w5.heap.size:=hb5.size;clear y0 y1 hb5 VM4 R4;obtain ⟨y0,y1,_,_⟩:=zad VM5.o;have CB:=zaa (CR.o _ B5.o);obtain ⟨p0,p1,p2,p3⟩:=zad CB.o;have BR:Hid (Below w.heap.size w ((w5.setCell ⟨w.heap.size+1,0,none⟩ (.slice (some ⟨b1,0,none⟩) rn.length c1)).setCell ⟨w.heap.size+1,1,none⟩ (.slice (some ⟨b2,0,none⟩) rd.length c2))):=((zab BW.o B5.o BW.o.size).setCell (by simp only;omega) _).setCell (by simp only;omega) _;have RF:=zaa (zlz (zxt R5.o CB.o (.slice (some ⟨b1,0,none⟩) rn.length c1) (.slice (some ⟨b2,0,none⟩) rd.length c2)) (lo':=w.heap.size) (hi':=((w5.setCell ⟨w.heap.size+1,0,none⟩ (.slice (some ⟨b1,0,none⟩) rn.length c1)).setCell ⟨w.heap.size+1,1,none⟩ (.slice (some ⟨b2,0,none⟩) rd.length c2)).heap.size) (by have:=BW.o.size;omega) (by simp;omega));clear CB R5 VM5;go_wp2;refine bodyPost_ret (v:=.tuple #[.agg #[.slice (some ⟨b1,0,none⟩) rn.length c1,.slice (some ⟨b2,0,none⟩) rd.length c2],.int .i64 0]) (by simp[results,Tryz.results62,go_sem,p0,p1]) rfl ?_;exact ⟨_,rfl,RF.o,BR.o⟩
def dvN (ws:List Int) (ps:List St) (es:List Int) (qs:List Se):List Ino:=if dvB ws ps es qs=true then zbm (zcq ws ps) 16 else []
def dvD (ws:List Int) (ps:List St) (es:List Int) (qs:List Se):List Den:=if dvB ws ps es qs=true then zbw (zcq ws ps) 24 else []
theorem yaqm {ws:List Int} {ps:List St} {es:List Int} {qs:List Se} (h:(pmB ws ps && zbp es qs)=false):dvB ws ps es qs=false∧dvN ws ps es qs=[]∧dvD ws ps es qs=[]:=by
 have e:dvB ws ps es qs=false:=by unfold dvB;rw[h];rfl
 exact ⟨e,by unfold dvN;rw[e];rfl,by unfold dvD;rw[e];rfl⟩
theorem yalh {ws:List Int} {ps:List St} {es:List Int} {qs:List Se} (h:(pmB ws ps && zbp es qs)=true):dvB ws ps es qs=(riC ws ps == 0)∧dvN ws ps es qs=riN ws ps∧dvD ws ps es qs=riD ws ps:=by
 have p:pmB ws ps=true:=by rw[Bool.and_eq_true] at h;exact h.1
 have e:dvB ws ps es qs=riB (zcq ws ps):=by unfold dvB;rw[h];rfl
 cases q:riB (zcq ws ps) with
 | false =>
  obtain ⟨a,b,c⟩:=yabx p q;rw[q] at e;exact ⟨by rw[e,a];rfl,by unfold dvN;rw[e,b];rfl,by unfold dvD;rw[e,c];rfl⟩
 | true =>
  obtain ⟨a,b,c⟩:=yasb p q;rw[q] at e;exact ⟨by rw[e,a];rfl,by unfold dvN;rw[e,b];rfl,by unfold dvD;rw[e,c];rfl⟩
theorem yaiz {w:World} {lo hi:Nat} {vI vD:Value} {xs:List Ino} {ds:List Den} {b:Nat} {cs:Array Value} {fr:Nat×Nat} (h1:Row w 187 11 lo hi vI xs.length (inos xs)) (h2:Row w 189 3 lo hi vD ds.length (zhh ds)) (hb:w.heap[b]?=some (.cells cs 102 fr)) (v0 v1:Value):RowIm ((w.setCell ⟨b,0,none⟩ v0).setCell ⟨b,1,none⟩ v1) lo hi (.agg #[vI,vD]) xs ds:=by
 have T1:=zdk h1.1 hb zlu;have T2:=zdk h2.1 hb zlk;exact ⟨_,_,rfl,⟨ownsRow_setCell_other (ownsRow_setCell_other h1.1 T1 _) T1 _,h1.2⟩,⟨ownsRow_setCell_other (ownsRow_setCell_other h2.1 T2 _) T2 _,h2.2⟩⟩
theorem yalz {w:World} {aW aP aS aQ:Option Addr} {cW cP cS cQ:Nat} {ws:List Int} {ps:List St} {es:List Int} {qs:List Se} (h:RdDev w (.agg #[.slice aW ws.length cW,.slice aP ps.length cP,.slice aS es.length cS,.slice aQ qs.length cQ]) ws ps es qs):RdPm w (.agg #[.slice aW ws.length cW,.slice aP ps.length cP]) ws ps:=by
 obtain ⟨_,_,_,_,e,p1,_⟩:=h
 cases e
 exact p1
def noA (cd vl:Int) (nm:List ByteArray):Bool:=decide (cd=0) && (decide (vl=0) && decide (nm.length=0))
def zra (ws:List Int) (ps:List St) (es:List Int) (qs:List Se):Bool:=dvB ws ps es qs && (decide (ps.length=0) && (decide (qs.length=0) && decide (ldW ws ps 8=0)))
def todB (ps:List St) (qs:List Se) (td:List Mi):Bool:=decide (td.length≤200) && (td.all miB && (decide (ps.length+td.length≤400) && decide (qs.length+td.length≤400)))
def fsB (ws:List Int) (ps:List St) (es:List Int) (qs:List Se) (hs:List Int) (td:List Mi) (cd vl:Int) (nm:List ByteArray) (fr:Bool):Bool:=(pmB ws ps && zbp es qs) && (zjt hs && (todB ps qs td && ((fr || noA cd vl nm) && (decide (0 < td.length) || zra ws ps es qs))))
theorem zmv (v:Value) (ws:List Int) (ps:List St) (es:List Int) (qs:List Se) (hs:List Int) (td:List Mi) (cd vl:Int) (nm:List ByteArray) (fr:Bool) (w:World) (h:RdF w v ws ps es qs hs td cd vl nm fr) (hws:ws.length≤1048576) (hps:ps.length≤1048576) (hes:es.length≤1048576) (hqs:qs.length≤1048576) (hhs:hs.length≤1048576) (htd:td.length≤1048576) (_hnm:nm.length≤1048576) :
  Calls Tryz.prog 24 #[v] w fun e w'=>e=.returned (.bool (fsB ws ps es qs hs td cd vl nm fr))∧Below w.heap.size w w':=by
 obtain ⟨aW,cW,aP,cP,aS,cS,aQ,cQ,aH,cH,aT,cT,aN,cN,rfl,d1,h1,t1,n1⟩:=h
 obtain ⟨D,eD⟩:∃ D,D=(pmB ws ps && zbp es qs):=⟨_,rfl⟩
 obtain ⟨H,eH⟩:∃ H,H=zjt hs:=⟨_,rfl⟩
 obtain ⟨rc,erc⟩:∃ rc,rc=riC ws ps:=⟨_,rfl⟩
 obtain ⟨jc,ejc⟩:∃ jc,jc=ldW ws ps 8:=⟨_,rfl⟩
 have LD:Hid (∀ w1,Below w.heap.size w w1→Calls Tryz.prog 59 #[.agg #[.slice aW ws.length cW,.slice aP ps.length cP,.slice aS es.length cS,.slice aQ qs.length cQ]] w1 fun e w'=>e=.returned (.bool D)∧Below w1.heap.size w1 w'):=fun w1 hb=>by rw[eD];exact zgi _ ws ps es qs w1 (d1.below hb) hws hps hes hqs
 have LH:Hid (∀ w1,Below w.heap.size w w1→Calls Tryz.prog 60 #[.slice aH hs.length cH] w1 fun e w'=>e=.returned (.bool H)∧w'=w1):=fun w1 hb=>by rw[eH];exact zqt _ hs w1 (Rd.below h1 hb) hhs
 have LR:Hid (∀ w1,Below w.heap.size w w1→Calls Tryz.prog 62 #[.agg #[.slice aW ws.length cW,.slice aP ps.length cP]] w1 fun e w'=>∃ a b c d f g,e=.returned (.tuple #[.agg #[.slice a b c,.slice d f g],.int .i64 rc])∧Below w1.heap.size w1 w'):=fun w1 hb=>by
  have p1:=yalz (d1.below hb);rw[erc];refine (zgm _ ws ps w1 p1 hws hps).mono ?_;rintro e w2 ⟨v2,rfl,hr,hb2⟩;obtain ⟨vA,vB,rfl,⟨-,a,c,rfl,-⟩,⟨-,d,g,rfl,-⟩⟩:=hr.rd;exact ⟨a,_,c,d,_,g,rfl,hb2⟩
 have LJ:Hid (D=true→∀ w1,Below w.heap.size w w1→Calls Tryz.prog 63 #[.agg #[.slice aW ws.length cW,.slice aP ps.length cP]] w1 fun e w'=>e=.returned (.int .i64 jc)∧Below w1.heap.size w1 w'):=fun hD w1 hb=>by
  have p1:=yalz (d1.below hb);rw[ejc];rw[eD] at hD;simp only[Bool.and_eq_true] at hD;exact zid _ ws ps w1 p1 hws hps (by rw[zyt hD.1];decide)
 have RT:=zaa t1
 have FB:Hid (fsB ws ps es qs hs td cd vl nm fr=(D && (H && (todB ps qs td && ((fr || noA cd vl nm) && (decide (0 < td.length) || (decide (rc=0) && (decide (ps.length=0) && (decide (qs.length=0) && decide (jc=0)))))))))):=by
  unfold fsB zra;rw[← eD,← eH,← ejc]
  cases hD:D with
  | false=>rfl
  | true =>
   have:=(yalh (eD.symm.trans hD)).1;rw[this,erc];rfl
 generalize fsB ws ps es qs hs td cd vl nm fr=r at *;clear eD eH erc ejc d1 h1 t1 n1
 obtain ⟨V,hV⟩:∃ V,V=w.alloc (.cells #[.slice aW ws.length cW,.slice aP ps.length cP,.slice aS es.length cS,.slice aQ qs.length cQ,.slice aH hs.length cH,.slice aT td.length cT,.int .i64 cd,.int .i64 vl,.slice aN nm.length cN,.bool fr] 51):=⟨_,rfl⟩
 have BV:Hid (Below w.heap.size w V):=by rw[hV];exact (Below.refl _ _).alloc (Nat.le_refl _) _
 have XV:Hid (V.heap[w.heap.size]?=some (.cells #[.slice aW ws.length cW,.slice aP ps.length cP,.slice aS es.length cS,.slice aQ qs.length cQ,.slice aH hs.length cH,.slice aT td.length cT,.int .i64 cd,.int .i64 vl,.slice aN nm.length cN,.bool fr] 51 (0,0))):=by rw[hV];exact zag rfl
 have zV:w.heap.size < V.heap.size:=zah XV.o;go_enter Tryz.func24,Tryz.ntmps24;go_upto_region 1 with fail;rw[← hV];clear hV;obtain ⟨x0,x1,x2,x3⟩:=tenD XV.o;go_wp2_with fail;refine (LD.o V BV.o).mono ?_;rintro e w1 ⟨rfl,hb1⟩;have B1:=zaa (zab BV.o hb1 BV.o.size);have X1:=zaa (zac XV.o hb1 zV);have z1:w.heap.size < w1.heap.size:=Nat.lt_of_lt_of_le zV hb1.size;clear hb1 x0 x1 x2 x3 LD BV XV
 cases D with
 | false =>
  obtain rfl:=FB.o;clear FB LH LR LJ RT X1;go_wp2;go_ret;exact ⟨rfl,B1.o⟩
 | true =>
 have x4:=tenH X1.o;go_wp2_with fail;refine (LH.o w1 B1.o).mono ?_;rintro e w' ⟨rfl,hw'⟩;subst w';clear LH x4
 cases H with
 | false =>
  obtain rfl:=FB.o;clear FB LR LJ RT X1;go_wp2;go_ret;exact ⟨rfl,B1.o⟩
 | true =>
 have x5:=tenT X1.o
 by_cases cL:200 < td.length
 ·have q:todB ps qs td=false:=by unfold todB;rw[decide_eq_false (by omega)];rfl
  rw[q] at FB;obtain rfl:=FB.o;clear FB LR LJ RT X1 q
  have cL':(200:Int) < (td.length:Int):=by omega
  go_wp2;go_ret;exact ⟨rfl,B1.o⟩
 have hl:td.length≤200:=by omega
 have cL':¬ (200:Int) < (td.length:Int):=by omega
 clear cL;go_wp2_with fail
 go_loopw [3] (fun i wq=>∃ k:Nat,k≤td.length∧i=.int .i64 k∧Hid (∀ j (hj:j < td.length),j < k→miB td[j]=true)∧Hid (Below w.heap.size w wq)∧Hid (wq.heap[w.heap.size]?=some (.cells #[.slice aW ws.length cW,.slice aP ps.length cP,.slice aS es.length cS,.slice aQ qs.length cQ,.slice aH hs.length cH,.slice aT td.length cT,.int .i64 cd,.int .i64 vl,.slice aN nm.length cN,.bool fr] 51 (0,0)))∧w.heap.size < wq.heap.size) (fun i _=>td.length - (intOf i).toNat)
 case atStart=>exact ⟨0,by omega,rfl,fun j _ h=>absurd h (by omega),B1,X1,z1⟩
 case round =>
  obtain ⟨k,hk,rfl,G,B,X,z⟩:=hrel;clear B1 X1 x5 z1;have x5:=tenT X.o
  by_cases hlt:k < td.length
  ·have hlt':(k:Int) < (td.length:Int):=by omega
   have hge:(0:Int)≤(k:Int):=by omega
   obtain ⟨-,ao,cap,e,-,hc⟩:=Rd.below RT.o B.o
   cases e
   obtain ⟨b,o,rfl,hbl,hcl⟩:=hc (by omega);have c0:=(hcl (k*3) (by omega)).trans (zqi td k hlt);have c1:=(hcl (k*3+1) (by omega)).trans (zqn td k hlt);have c2:=(hcl (k*3+2) (by omega)).trans (zor td k hlt);rw[← Nat.add_assoc] at c1 c2;have LM:=zaa (fun w1=>zwi td[k] w1)
   obtain ⟨mb,emb⟩:∃ mb,mb=miB td[k]:=⟨_,rfl⟩
   rw[← emb] at LM
   have AL:Hid (mb=false→todB ps qs td=false):=fun q=>by
    unfold todB
    have:td.all miB=false:=by
     apply Bool.eq_false_iff.2;intro h;have:=List.all_eq_true.1 h td[k] (List.getElem_mem hlt);rw[← emb,q] at this
     cases this
    rw[this];simp
   have GG:Hid (mb=true→∀ j (hj:j < td.length),j < k+1→miB td[j]=true):=fun q j hj hjk=>by
    by_cases e:j=k
    ·subst e;rw[← emb];exact q
    ·exact G.o j hj (by omega)
   rw[show Mi.v td[k]=.agg #[.int .i64 td[k].kind,.int .i64 td[k].at_,.int .i64 td[k].val] from rfl] at LM;generalize td[k]=m at *;clear hc hcl G emb;go_wp2_with fail;refine (LM.o wr).mono ?_;rintro e w2 ⟨rfl,hb2⟩;have B2:=zaa (zab B.o hb2 B.o.size);have X2:=zaa (zac X.o hb2 z);have z2:w.heap.size < w2.heap.size:=Nat.lt_of_lt_of_le z hb2.size;clear hb2 c0 c1 c2 x5 B X LM
   cases mb with
   | false =>
    have q:=AL.o (by simp);rw[q] at FB;obtain rfl:=FB.o;clear FB LR LJ RT X2 q;go_wp2;go_ret;exact ⟨rfl,B2.o⟩
   | true =>
    go_wp2
    go_roundw
    case rel=>exact ⟨k+1,by omega,by go_num,GG.o (by simp),B2,X2,z2⟩
    case measure=>simp[intOf];omega
  ·have hlt':¬ (k:Int) < (td.length:Int):=by omega
   have TA:td.all miB=true:=List.all_eq_true.2 (fun m hm=>by
    obtain ⟨j,hj,rfl⟩:=List.getElem_of_mem hm
    exact G.o j hj (by omega))
   have TB:Hid (todB ps qs td=(decide (ps.length+td.length≤400) && decide (qs.length+td.length≤400))):=by unfold todB;rw[TA,decide_eq_true hl];rfl
   rw[TB.o] at FB;clear TB TA G RT;simp only[Bool.true_and] at FB;go_upto_region 8 with fail;obtain ⟨x6,x7,x8⟩:=tenA X.o;have x9:=tenB X.o
   have PX:Hid (¬ fr=true→¬ (cd=0∧vl=0∧nm.length=0)→r=false):=fun q1 q2=>by
    rw[FB.o]
    have:(fr || noA cd vl nm)=false:=by
     unfold noA;simp only[Bool.or_eq_false_iff];refine ⟨by simpa using q1,?_⟩;apply Bool.eq_false_iff.2;intro h;simp only[Bool.and_eq_true,decide_eq_true_eq] at h;exact q2 ⟨h.1,h.2.1,h.2.2⟩
    rw[this];simp
   have PY:Hid ((fr=true∨(cd=0∧vl=0∧nm.length=0))→r=((decide (ps.length+td.length≤400) && decide (qs.length+td.length≤400)) && (decide (0 < td.length) || (decide (rc=0) && (decide (ps.length=0) && (decide (qs.length=0) && decide (jc=0))))))):=fun q=>by
    rw[FB.o]
    have:(fr || noA cd vl nm)=true:=by
     unfold noA
     rcases q with q | ⟨q1,q2,q3⟩
     ·rw[q];rfl
     ·rw[q1,q2,q3];simp
    rw[this,Bool.true_and]
   clear FB;have REST:Hid (r=r):=rfl
   by_cases cF:fr=true
   ·subst cF;have FB:=zaa (PY.o (.inl rfl));clear PX PY;go_upto_region 10 with fail;clear x6 x7 x8 x9;obtain ⟨x0,x1,x2,x3⟩:=tenD X.o
    by_cases e1:400 < ps.length+td.length
    ·have q:r=false:=by rw[FB.o,decide_eq_false (p:=ps.length+td.length≤400) (by omega)];rfl
     subst q;clear FB LR LJ X
     have e1':(400:Int) < (ps.length:Int)+(td.length:Int):=by omega
     go_wp2;go_ret;exact ⟨rfl,B.o⟩
    have e1':¬ (400:Int) < (ps.length:Int)+(td.length:Int):=by omega
    by_cases e2:400 < qs.length+td.length
    ·have q:r=false:=by rw[FB.o,decide_eq_false (p:=qs.length+td.length≤400) (by omega)];simp
     subst q;clear FB LR LJ X
     have e2':(400:Int) < (qs.length:Int)+(td.length:Int):=by omega
     go_wp2;go_ret;exact ⟨rfl,B.o⟩
    have e2':¬ (400:Int) < (qs.length:Int)+(td.length:Int):=by omega
    rw[decide_eq_true (p:=ps.length+td.length≤400) (by omega),decide_eq_true (p:=qs.length+td.length≤400) (by omega)] at FB;simp only[Bool.true_and] at FB
    by_cases e3:0 < td.length
    ·have q:r=true:=by rw[FB.o,decide_eq_true e3];rfl
     subst q;clear FB LR LJ X
     have e3':(0:Int) < (td.length:Int):=by omega
     go_wp2;go_ret;exact ⟨rfl,B.o⟩
    have e3':¬ (0:Int) < (td.length:Int):=by omega
    rw[decide_eq_false e3] at FB;simp only[Bool.false_or] at FB;go_wp2_with fail;refine (LR.o wr B.o).mono ?_;rintro e w2 ⟨ia,ib,ic,id,ie,ig,rfl,hb2⟩;have B2:=zaa (zab B.o hb2 B.o.size);have X2:=zaa (zac X.o hb2 z);have z2:w.heap.size < w2.heap.size:=Nat.lt_of_lt_of_le z hb2.size;clear hb2 x0 x1 x2 x3 x5 B X LR
    obtain ⟨w3,hw3⟩:∃ w3,w3=w2.alloc (.cells #[.slice ia ib ic,.slice id ie ig] 102):=⟨_,rfl⟩
    have hb3:Below w2.heap.size w2 w3:=by rw[hw3];exact (Below.refl _ _).alloc (Nat.le_refl _) _
    have B3:=zaa (zab B2.o hb3 B2.o.size);have X3:=zaa (zac X2.o hb3 z2);go_upto_region 15 with fail;rw[← hw3];clear hw3 hb3 B2 X2;obtain ⟨x0,x1,x2,x3⟩:=tenD X3.o
    by_cases f1:rc=0
    ·subst f1
     by_cases f2:ps.length=0
     ·have f2':(ps.length:Int)=0:=by omega
      by_cases f3:qs.length=0
      ·have f3':(qs.length:Int)=0:=by omega
       have q:r=decide (jc=0):=by rw[FB.o,decide_eq_true f2,decide_eq_true f3];rfl
       clear FB f2 f3;go_wp2_with fail;refine (LJ.o (by simp) w3 B3.o).mono ?_;rintro e w4 ⟨rfl,hb4⟩;have B4:=zaa (zab B3.o hb4 B3.o.size);clear hb4 B3 X3 x0 x1 x2 x3 LJ;subst q;go_wp2;go_ret;exact ⟨rfl,B4.o⟩
      ·have q:r=false:=by rw[FB.o,decide_eq_false f3];simp
       subst q
       have f3':¬ (qs.length:Int)=0:=by omega
       clear FB LJ X3;go_wp2;go_ret;exact ⟨rfl,B3.o⟩
     ·have q:r=false:=by rw[FB.o,decide_eq_false f2];simp
      subst q
      have f2':¬ (ps.length:Int)=0:=by omega
      clear FB LJ X3;go_wp2;go_ret;exact ⟨rfl,B3.o⟩
    ·have q:r=false:=by rw[FB.o,decide_eq_false f1];rfl
     subst q;clear FB LJ X3;go_wp2;go_ret;exact ⟨rfl,B3.o⟩
   have cF':fr=false:=by simpa using cF
   by_cases a1:cd=0
   ·by_cases a2:vl=0
    ·by_cases a3:nm.length=0
     ·have FB:=zaa (PY.o (.inr ⟨a1,a2,a3⟩));clear PX PY;subst a1 a2 cF'
      have a3':(nm.length:Int)=0:=by omega
      go_upto_region 10 with fail;clear x6 x7 x8 x9 a3 a3' REST;obtain ⟨x0,x1,x2,x3⟩:=tenD X.o
      by_cases e1:400 < ps.length+td.length
      ·have q:r=false:=by rw[FB.o,decide_eq_false (p:=ps.length+td.length≤400) (by omega)];rfl
       subst q;clear FB LR LJ X
       have e1':(400:Int) < (ps.length:Int)+(td.length:Int):=by omega
       go_wp2;go_ret;exact ⟨rfl,B.o⟩
      have e1':¬ (400:Int) < (ps.length:Int)+(td.length:Int):=by omega
      by_cases e2:400 < qs.length+td.length
      ·have q:r=false:=by rw[FB.o,decide_eq_false (p:=qs.length+td.length≤400) (by omega)];simp
       subst q;clear FB LR LJ X
       have e2':(400:Int) < (qs.length:Int)+(td.length:Int):=by omega
       go_wp2;go_ret;exact ⟨rfl,B.o⟩
      have e2':¬ (400:Int) < (qs.length:Int)+(td.length:Int):=by omega
      rw[decide_eq_true (p:=ps.length+td.length≤400) (by omega),decide_eq_true (p:=qs.length+td.length≤400) (by omega)] at FB;simp only[Bool.true_and] at FB
      by_cases e3:0 < td.length
      ·have q:r=true:=by rw[FB.o,decide_eq_true e3];rfl
       subst q;clear FB LR LJ X
       have e3':(0:Int) < (td.length:Int):=by omega
       go_wp2;go_ret;exact ⟨rfl,B.o⟩
      have e3':¬ (0:Int) < (td.length:Int):=by omega
      rw[decide_eq_false e3] at FB;simp only[Bool.false_or] at FB;go_wp2_with fail;refine (LR.o wr B.o).mono ?_;rintro e w2 ⟨ia,ib,ic,id,ie,ig,rfl,hb2⟩;have B2:=zaa (zab B.o hb2 B.o.size);have X2:=zaa (zac X.o hb2 z);have z2:w.heap.size < w2.heap.size:=Nat.lt_of_lt_of_le z hb2.size;clear hb2 x0 x1 x2 x3 x5 B X LR
      obtain ⟨w3,hw3⟩:∃ w3,w3=w2.alloc (.cells #[.slice ia ib ic,.slice id ie ig] 102):=⟨_,rfl⟩
      have hb3:Below w2.heap.size w2 w3:=by rw[hw3];exact (Below.refl _ _).alloc (Nat.le_refl _) _
      have B3:=zaa (zab B2.o hb3 B2.o.size);have X3:=zaa (zac X2.o hb3 z2);go_upto_region 15 with fail;rw[← hw3];clear hw3 hb3 B2 X2;obtain ⟨x0,x1,x2,x3⟩:=tenD X3.o
      by_cases f1:rc=0
      ·subst f1
       by_cases f2:ps.length=0
       ·have f2':(ps.length:Int)=0:=by omega
        by_cases f3:qs.length=0
        ·have f3':(qs.length:Int)=0:=by omega
         have q:r=decide (jc=0):=by rw[FB.o,decide_eq_true f2,decide_eq_true f3];rfl
         clear FB f2 f3;go_wp2_with fail;refine (LJ.o (by simp) w3 B3.o).mono ?_;rintro e w4 ⟨rfl,hb4⟩;have B4:=zaa (zab B3.o hb4 B3.o.size);clear hb4 B3 X3 x0 x1 x2 x3 LJ;subst q;go_wp2;go_ret;exact ⟨rfl,B4.o⟩
        ·have q:r=false:=by rw[FB.o,decide_eq_false f3];simp
         subst q
         have f3':¬ (qs.length:Int)=0:=by omega
         clear FB LJ X3;go_wp2;go_ret;exact ⟨rfl,B3.o⟩
       ·have q:r=false:=by rw[FB.o,decide_eq_false f2];simp
        subst q
        have f2':¬ (ps.length:Int)=0:=by omega
        clear FB LJ X3;go_wp2;go_ret;exact ⟨rfl,B3.o⟩
      ·have q:r=false:=by rw[FB.o,decide_eq_false f1];rfl
       subst q;clear FB LJ X3;go_wp2;go_ret;exact ⟨rfl,B3.o⟩
     ·obtain rfl:=PX.o cF (fun q=>a3 q.2.2);subst a1 a2 cF'
      have a3':¬ (nm.length:Int)=0:=by omega
      clear PX PY LR LJ X;go_wp2;go_ret;exact ⟨rfl,B.o⟩
    ·obtain rfl:=PX.o cF (fun q=>a2 q.2.1);subst a1 cF';clear PX PY LR LJ X;go_wp2;go_ret;exact ⟨rfl,B.o⟩
   ·obtain rfl:=PX.o cF (fun q=>a1 q.1);subst cF';clear PX PY LR LJ X;go_wp2;go_ret;exact ⟨rfl,B.o⟩
end Go.Proofs.YtahiphgmhndgaaaGreatDoor
