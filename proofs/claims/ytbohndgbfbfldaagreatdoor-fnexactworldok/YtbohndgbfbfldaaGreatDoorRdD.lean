/- An image, read: ReadImage by the model. -/
import Derived.Test.YtbohndgbfbfldaaGreatDoorRdC
set_option maxRecDepth 100000
set_option maxHeartbeats 4000000
namespace Go.Proofs.YtbohndgbfbfldaaGreatDoor
open Go.RowKit
theorem zti {ws:List Int} {ps:List St} (h:pmB ws ps=false):riC ws ps=1∧riN ws ps=[]∧riD ws ps=[]:=by
 have e:riC ws ps=1:=by unfold riC;rw[h];rfl
 exact ⟨e,by unfold riN;rw[e];rfl,by unfold riD;rw[e];rfl⟩
theorem zos {ws:List Int} {ps:List St} (h:pmB ws ps=true) (q:riB (zbk ws ps)=false):riC ws ps=3∧riN ws ps=[]∧riD ws ps=[]:=by
 have e:riC ws ps=3:=by unfold riC;rw[h,q];rfl
 exact ⟨e,by unfold riN;rw[e];rfl,by unfold riD;rw[e];rfl⟩
theorem yacs {ws:List Int} {ps:List St} (h:pmB ws ps=true) (q:riB (zbk ws ps)=true):riC ws ps=0∧riN ws ps=zaz (zbk ws ps) 16∧riD ws ps=zbc (zbk ws ps) 24:=by
 have e:riC ws ps=0:=by unfold riC;rw[h,q];rfl
 exact ⟨e,by unfold riN;rw[if_pos e],by unfold riD;rw[if_pos e]⟩
theorem zbo (w:World) (lo hi:Nat):RowIm w lo hi (.agg #[.slice none 0 0,.slice none 0 0]) [] []:=⟨_,_,rfl,Row.nil _ _ _ _ _,Row.nil _ _ _ _ _⟩
theorem zky {ws:List Int} {ps:List St} (h:pmB ws ps=true) (n:Nat):∀ k (hk:k < (zaz (zbk ws ps) n).length),(zaz (zbk ws ps) n)[k].R:=by
 intro k hk;have hm:(zaz (zbk ws ps) n)[k]∈(List.range n).map (zfx (zbk ws ps)):=List.getElem_mem hk;obtain ⟨j,_,e⟩:=List.mem_map.1 hm;rw[← e];exact yaby h j
theorem zeq (ls:List Int) (n:Nat):∀ k (hk:k < (zbc ls n).length),(zbc ls n)[k].name.size≤maxLen:=by
 intro k hk;have hm:(zbc ls n)[k]∈(List.range n).map (zjl ls):=List.getElem_mem hk;obtain ⟨j,_,e⟩:=List.mem_map.1 hm;rw[← e];exact zsk ls j
theorem zfs {w:World} {lo hi lo' hi':Nat} {v:Value} {xs:List Ino} {ds:List Den} (h:RowIm w lo hi v xs ds) (h1:lo'≤lo) (h2:hi≤hi'):RowIm w lo' hi' v xs ds:=by
 obtain ⟨vI,vD,e,a,b⟩:=h;exact ⟨vI,vD,e,a.wide h1 h2,b.wide h1 h2⟩
theorem zlw {w:World} {lo hi:Nat} {b1 b2 c1 c2 n1 n2:Nat} {xs:List Ino} {ds:List Den} {b:Nat} {cs:Array Value} {fr:Nat×Nat} (h:RowIm w lo hi (.agg #[.slice (some ⟨b1,0,none⟩) n1 c1,.slice (some ⟨b2,0,none⟩) n2 c2]) xs ds) (hb:w.heap[b]?=some (.cells cs 123 fr)) (v0 v1:Value):RowIm ((w.setCell ⟨b,0,none⟩ v0).setCell ⟨b,1,none⟩ v1) lo hi (.agg #[.slice (some ⟨b1,0,none⟩) n1 c1,.slice (some ⟨b2,0,none⟩) n2 c2]) xs ds:=by
 obtain ⟨vI,vD,e,h1,h2⟩:=h;injection e with e
 obtain ⟨rfl,rfl⟩:vI=.slice (some ⟨b1,0,none⟩) n1 c1∧vD=.slice (some ⟨b2,0,none⟩) n2 c2:=by
  have:=congrArg Array.toList e;simp at this;exact ⟨this.1.symm,this.2.symm⟩
 have T1:=zbp h1.1 hb zge;have T2:=zbp h2.1 hb zfo;exact ⟨_,_,rfl,⟨ownsRow_setCell_other (ownsRow_setCell_other h1.1 T1 _) T1 _,h1.2⟩,⟨ownsRow_setCell_other (ownsRow_setCell_other h2.1 T2 _) T2 _,h2.2⟩⟩
theorem zfz (v:Value) (ws:List Int) (ps:List St) (w:World) (h:RdPm w v ws ps) (hw:ws.length≤1048576) (hp:ps.length≤1048576) :
  Calls Tryz.prog 75 #[v] w fun e w'=>∃ v',e=.returned (.tuple #[v',.int .i64 (riC ws ps)])∧RowIm w' w.heap.size w'.heap.size v' (riN ws ps) (riD ws ps)∧Below w.heap.size w w':=by
 have HR:=zaa h;have LO:=zaa (fun w1 h=>zdu v ws ps w1 h hw hp);have LR:=zaa (fun w1 h (q:pmB ws ps=true)=>zpn v ws ps w1 h q);have LL:=zaa (fun w1 h (q:pmB ws ps=true)=>zzp v ws ps 0 w1 h q (by omega));obtain ⟨vW,vP,rfl,h1,h2⟩:=h;obtain ⟨aW,cW,rfl,_,_⟩:=h1.shape;obtain ⟨aP,cP,rfl,_,_⟩:=h2.shape;clear h1 h2
 obtain ⟨W1,hW1⟩:∃ W1,W1=(w.alloc (.cells #[.slice aW ws.length cW,.slice aP ps.length cP] 25)).alloc (.cells #[.slice none 0 0,.slice none 0 0] 123):=⟨_,rfl⟩
 have hz1:W1.heap.size=w.heap.size+1+1:=by rw[hW1];simp
 have CA:Hid (∀ w',Below W1.heap.size W1 w'→w'.cell? ⟨w.heap.size,0,none⟩=some (.slice aW ws.length cW)∧w'.cell? ⟨w.heap.size,1,none⟩=some (.slice aP ps.length cP)):=fun w' hb=>by
  have:w'.heap[w.heap.size]?=some (.cells #[.slice aW ws.length cW,.slice aP ps.length cP] 25 (0,0)):=(hb.block _ (by omega)).trans (by rw[hW1];exact zas (zah rfl));exact ⟨(zae this).1,(zae this).2.1⟩
 have CR:Hid (∀ w',Below W1.heap.size W1 w'→w'.heap[w.heap.size+1]?=some (.cells #[.slice none 0 0,.slice none 0 0] 123 (0,0))):=fun w' hb=>(hb.block _ (by omega)).trans (by
  rw[hW1];have:=zah (w:=w.alloc (.cells #[.slice aW ws.length cW,.slice aP ps.length cP] 25)) (o:=.cells #[.slice none 0 0,.slice none 0 0] 123) rfl;rw[World.size_alloc] at this
  exact this)
 have BW:Hid (Below w.heap.size w W1):=by rw[hW1];exact ((Below.refl _ _).alloc (Nat.le_refl _) _).alloc (by simp) _
 have hz0:w.heap.size+1 < W1.heap.size:=by omega
 clear hz1;obtain ⟨x0,x1⟩:=CA.o W1 (Below.refl _ _)
 cases c1:pmB ws ps with
 | false =>
  obtain ⟨E1,E2,E3⟩:=zti c1;rw[c1] at LO;rw[E1,E2,E3];clear c1 E1 E2 E3 LR LL;go_enter Tryz.func75,Tryz.ntmps75;go_wp2_with fail;rw[← hW1];clear hW1;refine (LO.o _ (HR.o.below BW.o)).mono ?_;rintro e w1 ⟨rfl,hb1⟩;have B1:=zaa hb1;clear x0 x1 hb1;obtain ⟨x0,x1⟩:=CA.o w1 B1.o;have CB:=zaa (CR.o _ B1.o);obtain ⟨p0,p1,p2,p3⟩:=zae CB.o;have BR:Hid (Below w.heap.size w ((w1.setCell ⟨w.heap.size+1,0,none⟩ (.slice none 0 0)).setCell ⟨w.heap.size+1,1,none⟩ (.slice none 0 0))):=((zab BW.o B1.o BW.o.size).setCell (by simp only;omega) _).setCell (by simp only;omega) _;go_wp2;refine bodyPost_ret (v:=.tuple #[.agg #[.slice none 0 0,.slice none 0 0],.int .i64 1]) (by simp[results,Tryz.results75,go_sem,p0,p1]) rfl ?_;exact ⟨_,rfl,zbo _ _ _,BR.o⟩
 | true =>
 have C1:=zaa c1;rw[c1] at LO;have LR2:=zaa (fun w1 (hb:Below W1.heap.size W1 w1)=>LR.o w1 (HR.o.below (zab BW.o hb BW.o.size)) c1);have LL2:=zaa (fun w1 (hb:Below W1.heap.size W1 w1)=>LL.o w1 (HR.o.below (zab BW.o hb BW.o.size)) c1);have NO:=zaa (fun q=>zos C1.o q);have YES:=zaa (fun q=>yacs C1.o q);have RB:=zaa (show riB (zbk ws ps)=(wdI (zbk ws ps) 0 == 7 && (zce (zbk ws ps) 24 && zew (zaz (zbk ws ps) 16) (zbc (zbk ws ps) 24))) from rfl);have LI:=zaa (fun v w1 h=>zdn v (zaz (zbk ws ps) 16) (zbc (zbk ws ps) 24) w1 h (by rw[zba];omega) (by rw[zaw];omega) (zky C1.o 16) (zeq _ 24));have NI:=zaa (zba (zbk ws ps) 16);have ND:=zaa (zaw (zbk ws ps) 24);clear c1 LR LL;generalize riC ws ps=rc at *;generalize riN ws ps=rn at *;generalize riD ws ps=rd at *;generalize riB (zbk ws ps)=rb at *;generalize wdI (zbk ws ps) 0=w0 at *;generalize zce (zbk ws ps) 24=ag at *;generalize zaz (zbk ws ps) 16=XI at *;generalize zbc (zbk ws ps) 24=XD at *;generalize zew XI XD=ib at *
 cases ag with
 | false =>
  obtain ⟨rfl,rfl,rfl⟩:=NO.o (by rw[RB.o];simp);clear NO YES RB LI;go_enter Tryz.func75,Tryz.ntmps75;go_wp2_with fail;rw[← hW1];clear hW1;refine (LO.o _ (HR.o.below BW.o)).mono ?_;rintro e w1 ⟨rfl,hb1⟩;have B1:=zaa hb1;clear x0 x1 hb1;obtain ⟨x0,x1⟩:=CA.o w1 B1.o;go_wp2_with fail;refine (LR2.o _ B1.o).mono ?_;rintro e w2 ⟨⟨v2,rfl,_,hv2⟩,hb2⟩;obtain rfl:=hv2 (by trivial);clear hv2;have B2:=zaa (zel B1.o hb2);have B3:Hid (Below W1.heap.size W1 (w2.alloc (.cells #[.slice none 0 0,.slice none 0 0] 123))):=zaj B2.o _;clear x0 x1 hb2;obtain ⟨x0,x1⟩:=CA.o _ B3.o;go_wp2_with fail
  obtain ⟨w3,hw3⟩:∃ w3,w3=w2.alloc (.cells #[.slice none 0 0,.slice none 0 0] 123):=⟨_,rfl⟩
  rw[← hw3] at B3 x0 x1 ⊢;clear hw3;refine (LL2.o _ B3.o).mono ?_;rintro e w4 ⟨rfl,hb4⟩;have B4:=zaa (zel B3.o hb4);clear x0 x1 hb4
  by_cases q:w0=7
  ·have q1:(w0 != 7)=false:=by rw[q];rfl
   have CB:=zaa (CR.o _ B4.o);obtain ⟨p0,p1,p2,p3⟩:=zae CB.o;have BR:Hid (Below w.heap.size w ((w4.setCell ⟨w.heap.size+1,0,none⟩ (.slice none 0 0)).setCell ⟨w.heap.size+1,1,none⟩ (.slice none 0 0))):=((zab BW.o B4.o BW.o.size).setCell (by simp only;omega) _).setCell (by simp only;omega) _;go_wp2;refine bodyPost_ret (v:=.tuple #[.agg #[.slice none 0 0,.slice none 0 0],.int .i64 3]) (by simp[results,Tryz.results75,go_sem,p0,p1]) rfl ?_;exact ⟨_,rfl,zbo _ _ _,BR.o⟩
  ·have q1:(w0 != 7)=true:=by rw[bne_iff_ne];exact q
   have CB:=zaa (CR.o _ B4.o);obtain ⟨p0,p1,p2,p3⟩:=zae CB.o;have BR:Hid (Below w.heap.size w ((w4.setCell ⟨w.heap.size+1,0,none⟩ (.slice none 0 0)).setCell ⟨w.heap.size+1,1,none⟩ (.slice none 0 0))):=((zab BW.o B4.o BW.o.size).setCell (by simp only;omega) _).setCell (by simp only;omega) _;go_wp2;refine bodyPost_ret (v:=.tuple #[.agg #[.slice none 0 0,.slice none 0 0],.int .i64 3]) (by simp[results,Tryz.results75,go_sem,p0,p1]) rfl ?_;exact ⟨_,rfl,zbo _ _ _,BR.o⟩
 | true =>
 by_cases q:w0=7
 case neg =>
  obtain ⟨rfl,rfl,rfl⟩:=NO.o (by rw[RB.o,show (w0 == 7)=false by rw[beq_eq_false_iff_ne];exact q];rfl)
  have q1:(w0 != 7)=true:=by rw[bne_iff_ne];exact q
  clear NO YES RB LI q;go_enter Tryz.func75,Tryz.ntmps75;go_wp2_with fail;rw[← hW1];clear hW1;refine (LO.o _ (HR.o.below BW.o)).mono ?_;rintro e w1 ⟨rfl,hb1⟩;have B1:=zaa hb1;clear x0 x1 hb1;obtain ⟨x0,x1⟩:=CA.o w1 B1.o;go_wp2_with fail;refine (LR2.o _ B1.o).mono ?_;rintro e w2 ⟨⟨v2,rfl,hv2,_⟩,hb2⟩;obtain ⟨vI,vD,rfl,hI,hD⟩:=hv2 (by trivial)
  rcases hI.shape with ⟨_,e,_⟩ | ⟨b1,c1,rfl,_,_⟩
  ·have:=NI.o;omega
  rcases hD.shape with ⟨_,e,_⟩ | ⟨b2,c2,rfl,_,_⟩
  ·have:=ND.o;omega
  clear hv2 hI hD;have B2:=zaa (zel B1.o hb2);have B3:Hid (Below W1.heap.size W1 (w2.alloc (.cells #[.slice (some ⟨b1,0,none⟩) XI.length c1,.slice (some ⟨b2,0,none⟩) XD.length c2] 123))):=zaj B2.o _;clear x0 x1 hb2;obtain ⟨x0,x1⟩:=CA.o _ B3.o;go_wp2_with fail
  obtain ⟨w3,hw3⟩:∃ w3,w3=w2.alloc (.cells #[.slice (some ⟨b1,0,none⟩) XI.length c1,.slice (some ⟨b2,0,none⟩) XD.length c2] 123):=⟨_,rfl⟩
  rw[← hw3] at B3 x0 x1 ⊢;clear hw3;refine (LL2.o _ B3.o).mono ?_;rintro e w4 ⟨rfl,hb4⟩;have B4:=zaa (zel B3.o hb4);clear x0 x1 hb4;have CB:=zaa (CR.o _ B4.o);obtain ⟨p0,p1,p2,p3⟩:=zae CB.o;have BR:Hid (Below w.heap.size w ((w4.setCell ⟨w.heap.size+1,0,none⟩ (.slice none 0 0)).setCell ⟨w.heap.size+1,1,none⟩ (.slice none 0 0))):=((zab BW.o B4.o BW.o.size).setCell (by simp only;omega) _).setCell (by simp only;omega) _;go_wp2;refine bodyPost_ret (v:=.tuple #[.agg #[.slice none 0 0,.slice none 0 0],.int .i64 3]) (by simp[results,Tryz.results75,go_sem,p0,p1]) rfl ?_;exact ⟨_,rfl,zbo _ _ _,BR.o⟩
 have q1:(w0 != 7)=false:=by rw[q];rfl
 have RB2:Hid (rb=ib):=by unfold Hid;rw[RB.o,q];rfl
 clear q RB
 cases ib with
 | false =>
  obtain ⟨rfl,rfl,rfl⟩:=NO.o RB2.o;clear NO YES RB2;go_enter Tryz.func75,Tryz.ntmps75;go_wp2_with fail;rw[← hW1];clear hW1;refine (LO.o _ (HR.o.below BW.o)).mono ?_;rintro e w1 ⟨rfl,hb1⟩;have B1:=zaa hb1;clear x0 x1 hb1;obtain ⟨x0,x1⟩:=CA.o w1 B1.o;go_wp2_with fail;refine (LR2.o _ B1.o).mono ?_;rintro e w2 ⟨⟨v2,rfl,hv2,_⟩,hb2⟩;have RR:=zaa (hv2 (by trivial));obtain ⟨vI,vD,rfl,hI,hD⟩:=RR.o
  rcases hI.shape with ⟨_,e,_⟩ | ⟨b1,c1,rfl,_,_⟩
  ·have:=NI.o;omega
  rcases hD.shape with ⟨_,e,_⟩ | ⟨b2,c2,rfl,_,_⟩
  ·have:=ND.o;omega
  have hz12:W1.heap.size≤w1.heap.size:=B1.o.size;have hz2:w1.heap.size≤w2.heap.size:=hb2.size;clear hv2 hI hD;have B2:=zaa (zel B1.o hb2);have B3:Hid (Below W1.heap.size W1 (w2.alloc (.cells #[.slice (some ⟨b1,0,none⟩) XI.length c1,.slice (some ⟨b2,0,none⟩) XD.length c2] 123))):=zaj B2.o _;have BC:Hid (Below w2.heap.size w2 (w2.alloc (.cells #[.slice (some ⟨b1,0,none⟩) XI.length c1,.slice (some ⟨b2,0,none⟩) XD.length c2] 123))):=(Below.refl _ _).alloc (Nat.le_refl _) _;have VM:Hid ((w2.alloc (.cells #[.slice (some ⟨b1,0,none⟩) XI.length c1,.slice (some ⟨b2,0,none⟩) XD.length c2] 123)).heap[w2.heap.size]?=some (.cells #[.slice (some ⟨b1,0,none⟩) XI.length c1,.slice (some ⟨b2,0,none⟩) XD.length c2] 123 (0,0))):=zah rfl;clear x0 x1 hb2;obtain ⟨x0,x1⟩:=CA.o _ B3.o;go_wp2_with fail
  obtain ⟨w3,hw3⟩:∃ w3,w3=w2.alloc (.cells #[.slice (some ⟨b1,0,none⟩) XI.length c1,.slice (some ⟨b2,0,none⟩) XD.length c2] 123):=⟨_,rfl⟩
  rw[← hw3] at B3 BC VM x0 x1 ⊢;have hz3:w2.heap.size < w3.heap.size:=(Array.getElem?_eq_some_iff.1 VM.o).1;clear hw3;refine (LL2.o _ B3.o).mono ?_;rintro e w4 ⟨rfl,hb4⟩;have B4:=zaa (zel B3.o hb4);have BD:=zaa (zel BC.o hb4);have VM4:=zaa ((hb4.block _ hz3).trans VM.o);have R4:=zaa (RR.o.below BD.o (Nat.le_refl _));have hz4:w3.heap.size≤w4.heap.size:=hb4.size;clear x0 x1 hb4 VM RR BC;obtain ⟨y0,y1,_,_⟩:=zae VM4.o;go_wp2_with fail;refine (LI.o _ _ R4.o.rd).mono ?_;rintro e w5 ⟨rfl,hb5⟩;have B5:=zaa (zel B4.o hb5);have VM5:=zaa ((hb5.block _ (by omega)).trans VM4.o);have R5:=zaa (R4.o.below hb5 (by omega));have hz5:w4.heap.size≤w5.heap.size:=hb5.size;clear y0 y1 hb5 VM4 R4;have CB:=zaa (CR.o _ B5.o);obtain ⟨p0,p1,p2,p3⟩:=zae CB.o;have BR:Hid (Below w.heap.size w ((w5.setCell ⟨w.heap.size+1,0,none⟩ (.slice none 0 0)).setCell ⟨w.heap.size+1,1,none⟩ (.slice none 0 0))):=((zab BW.o B5.o BW.o.size).setCell (by simp only;omega) _).setCell (by simp only;omega) _;go_wp2;refine bodyPost_ret (v:=.tuple #[.agg #[.slice none 0 0,.slice none 0 0],.int .i64 3]) (by simp[results,Tryz.results75,go_sem,p0,p1]) rfl ?_;exact ⟨_,rfl,zbo _ _ _,BR.o⟩
 | true =>
  obtain ⟨rfl,rfl,rfl⟩:=YES.o RB2.o;clear NO YES RB2;go_enter Tryz.func75,Tryz.ntmps75;go_wp2_with fail;rw[← hW1];clear hW1;refine (LO.o _ (HR.o.below BW.o)).mono ?_;rintro e w1 ⟨rfl,hb1⟩;have B1:=zaa hb1;clear x0 x1 hb1;obtain ⟨x0,x1⟩:=CA.o w1 B1.o;go_wp2_with fail;refine (LR2.o _ B1.o).mono ?_;rintro e w2 ⟨⟨v2,rfl,hv2,_⟩,hb2⟩;have RR:=zaa (hv2 (by trivial));obtain ⟨vI,vD,rfl,hI,hD⟩:=RR.o
  rcases hI.shape with ⟨_,e,_⟩ | ⟨b1,c1,rfl,_,_⟩
  ·have:=NI.o;omega
  rcases hD.shape with ⟨_,e,_⟩ | ⟨b2,c2,rfl,_,_⟩
  ·have:=ND.o;omega
  have hz12:W1.heap.size≤w1.heap.size:=B1.o.size;have hz2:w1.heap.size≤w2.heap.size:=hb2.size;clear hv2 hI hD;have B2:=zaa (zel B1.o hb2);have B3:Hid (Below W1.heap.size W1 (w2.alloc (.cells #[.slice (some ⟨b1,0,none⟩) rn.length c1,.slice (some ⟨b2,0,none⟩) rd.length c2] 123))):=zaj B2.o _;have BC:Hid (Below w2.heap.size w2 (w2.alloc (.cells #[.slice (some ⟨b1,0,none⟩) rn.length c1,.slice (some ⟨b2,0,none⟩) rd.length c2] 123))):=(Below.refl _ _).alloc (Nat.le_refl _) _;have VM:Hid ((w2.alloc (.cells #[.slice (some ⟨b1,0,none⟩) rn.length c1,.slice (some ⟨b2,0,none⟩) rd.length c2] 123)).heap[w2.heap.size]?=some (.cells #[.slice (some ⟨b1,0,none⟩) rn.length c1,.slice (some ⟨b2,0,none⟩) rd.length c2] 123 (0,0))):=zah rfl;clear x0 x1 hb2;obtain ⟨x0,x1⟩:=CA.o _ B3.o;go_wp2_with fail
  obtain ⟨w3,hw3⟩:∃ w3,w3=w2.alloc (.cells #[.slice (some ⟨b1,0,none⟩) rn.length c1,.slice (some ⟨b2,0,none⟩) rd.length c2] 123):=⟨_,rfl⟩
  rw[← hw3] at B3 BC VM x0 x1 ⊢;have hz3:w2.heap.size < w3.heap.size:=(Array.getElem?_eq_some_iff.1 VM.o).1;clear hw3;refine (LL2.o _ B3.o).mono ?_;rintro e w4 ⟨rfl,hb4⟩;have B4:=zaa (zel B3.o hb4);have BD:=zaa (zel BC.o hb4);have VM4:=zaa ((hb4.block _ hz3).trans VM.o);have R4:=zaa (RR.o.below BD.o (Nat.le_refl _));have hz4:w3.heap.size≤w4.heap.size:=hb4.size;clear x0 x1 hb4 VM RR BC;obtain ⟨y0,y1,_,_⟩:=zae VM4.o;go_wp2_with fail;refine (LI.o _ _ R4.o.rd).mono ?_;rintro e w5 ⟨rfl,hb5⟩;have B5:=zaa (zel B4.o hb5);have VM5:=zaa ((hb5.block _ (by omega)).trans VM4.o);have R5:=zaa (R4.o.below hb5 (by omega));have hz5:w4.heap.size≤w5.heap.size:=hb5.size;clear y0 y1 hb5 VM4 R4;obtain ⟨y0,y1,_,_⟩:=zae VM5.o;have CB:=zaa (CR.o _ B5.o);obtain ⟨p0,p1,p2,p3⟩:=zae CB.o;have BR:Hid (Below w.heap.size w ((w5.setCell ⟨w.heap.size+1,0,none⟩ (.slice (some ⟨b1,0,none⟩) rn.length c1)).setCell ⟨w.heap.size+1,1,none⟩ (.slice (some ⟨b2,0,none⟩) rd.length c2))):=((zab BW.o B5.o BW.o.size).setCell (by simp only;omega) _).setCell (by simp only;omega) _;have RF:=zaa (zfs (zlw R5.o CB.o (.slice (some ⟨b1,0,none⟩) rn.length c1) (.slice (some ⟨b2,0,none⟩) rd.length c2)) (lo':=w.heap.size) (hi':=((w5.setCell ⟨w.heap.size+1,0,none⟩ (.slice (some ⟨b1,0,none⟩) rn.length c1)).setCell ⟨w.heap.size+1,1,none⟩ (.slice (some ⟨b2,0,none⟩) rd.length c2)).heap.size) (by have:=BW.o.size;omega) (by simp;omega));clear CB R5 VM5;go_wp2;refine bodyPost_ret (v:=.tuple #[.agg #[.slice (some ⟨b1,0,none⟩) rn.length c1,.slice (some ⟨b2,0,none⟩) rd.length c2],.int .i64 0]) (by simp[results,Tryz.results75,go_sem,p0,p1]) rfl ?_;exact ⟨_,rfl,RF.o,BR.o⟩
end Go.Proofs.YtbohndgbfbfldaaGreatDoor
