import Derived.Test.YtdiaiejmoocpmaaGreatDoorRdC
set_option maxRecDepth 100000
set_option maxHeartbeats 8000000
namespace Go.Proofs.YtdiaiejmoocpmaaGreatDoor
open Go.RowKit
theorem yalm{ws:List Int}{ps:List St}(h:pmB ws ps=false):riC ws ps=1/\riN ws ps=[]/\riD ws ps=[]:=by
 have e:riC ws ps=1:=by unfold riC;rw[h];rfl
 exact⟨e,by unfold riN;rw[e];rfl,by unfold riD;rw[e];rfl⟩
theorem yacn{ws:List Int}{ps:List St}(h:pmB ws ps=true)(q:riB (zbs ws ps)=false):riC ws ps=3/\riN ws ps=[]/\riD ws ps=[]:=by
 have e:riC ws ps=3:=by unfold riC;rw[h,q];rfl
 exact⟨e,by unfold riN;rw[e];rfl,by unfold riD;rw[e];rfl⟩
theorem yaxs{ws:List Int}{ps:List St}(h:pmB ws ps=true)(q:riB (zbs ws ps)=true):riC ws ps=0/\riN ws ps=zbc (zbs ws ps) 16/\riD ws ps=zbh (zbs ws ps) 24:=by
 have e:riC ws ps=0:=by unfold riC;rw[h,q];rfl
 exact⟨e,by unfold riN;rw[if_pos e],by unfold riD;rw[if_pos e]⟩
theorem zdu(w:World)(lo hi:Nat):RowIm w lo hi (.agg #[.N,.N]) [] []:=⟨_,_,rfl,Row.nil _ _ _ _ _,Row.nil _ _ _ _ _⟩
theorem zwg{ws:List Int}{ps:List St}(h:pmB ws ps=true)(n:Nat):∀ k (hk:k<(zbc (zbs ws ps) n).length),(zbc (zbs ws ps) n)[k].R:=by
 intro k hk;have hm:(zbc (zbs ws ps) n)[k]∈(List.range n).map (zej (zbs ws ps)):=List.getElem_mem hk;obtain⟨j,_,e⟩:=List.mem_map.1 hm;rw[<- e];exact yayt h j
theorem zkp(ls:List Int)(n:Nat):∀ k (hk:k<(zbh ls n).length),(zbh ls n)[k].name.size<=maxLen:=by
 intro k hk;have hm:(zbh ls n)[k]∈(List.range n).map (zgi ls):=List.getElem_mem hk;obtain⟨j,_,e⟩:=List.mem_map.1 hm;rw[<- e];exact yahg ls j
theorem zjp{w:World}{lo hi lo' hi':Nat}{v:Value}{xs:List Ino}{ds:List Den}(h:RowIm w lo hi v xs ds)(h1:lo'<=lo)(h2:hi<=hi'):RowIm w lo' hi' v xs ds:=by
 obtain⟨vI,vD,e,a,b⟩:=h;exact⟨vI,vD,e,a.wide h1 h2,b.wide h1 h2⟩
theorem zyk{w:World}{lo hi:Nat}{b1 b2 c1 c2 n1 n2:Nat}{xs:List Ino}{ds:List Den}{b:Nat}{cs:Array Value}{fr:Nat×Nat}(h:RowIm w lo hi (.agg #[.slice (some ⟨b1,0,none⟩) n1 c1,.slice (some ⟨b2,0,none⟩) n2 c2]) xs ds)(hb:w.heap[b]?=some (.cells cs 67 fr))(v0 v1:Value):RowIm ((w.setCell ⟨b,0,none⟩ v0).setCell ⟨b,1,none⟩ v1) lo hi (.agg #[.slice (some ⟨b1,0,none⟩) n1 c1,.slice (some ⟨b2,0,none⟩) n2 c2]) xs ds:=by
 obtain⟨vI,vD,e,h1,h2⟩:=h;injection e with e
 obtain⟨rfl,rfl⟩:vI=.slice (some ⟨b1,0,none⟩) n1 c1/\vD=.slice (some ⟨b2,0,none⟩) n2 c2:=by
  have:=congrArg Array.toList e;simp at this;exact⟨this.1.symm,this.2.symm⟩
 have T1:=zdg h1.1 hb zno;have T2:=zdg h2.1 hb znm;exact⟨_,_,rfl,⟨ownsRow_setCell_other (ownsRow_setCell_other h1.1 T1 _) T1 _,h1.2⟩,⟨ownsRow_setCell_other (ownsRow_setCell_other h2.1 T2 _) T2 _,h2.2⟩⟩
theorem znh(v:Value)(ws:List Int)(ps:List St)(w:World)(h:RdPm w v ws ps)(hw:ws.length<=1048576)(hp:ps.length<=1048576) :
  zC 63 #[v] w fun e w'=>∃ v',e=.returned (.tuple #[v',.I (riC ws ps)])/\RowIm w' w.heap.size w'.heap.size v' (riN ws ps) (riD ws ps)/\zB w w':=by
 have HR:=zaa h;have LO:=zaa (fun w1 h=>zjg v ws ps w1 h hw hp);have LR:=zaa (fun w1 h (q:pmB ws ps=true)=>zll v ws ps w1 h q);have LL:=zaa (fun w1 h (q:pmB ws ps=true)=>yavt v ws ps 0 w1 h q (by omega));obtain⟨vW,vP,rfl,h1,h2⟩:=h;obtain⟨aW,cW,rfl,_,_⟩:=h1.shape;obtain⟨aP,cP,rfl,_,_⟩:=h2.shape;clear h1 h2
 obtain⟨W1,hW1⟩:=zE ((w.alloc (.cells #[.slice aW ws.length cW,.slice aP ps.length cP] 26)).alloc (.cells #[.N,.N] 67))
 have hz1:W1.heap.size=w.heap.size+1+1:=by rw[hW1];simp
 have CA:Hid (∀ w',zB W1 w'->w'.cell? ⟨w.heap.size,0,none⟩=some (.slice aW ws.length cW)/\w'.cell? ⟨w.heap.size,1,none⟩=some (.slice aP ps.length cP)):=fun w' hb=>by
  have:w'.heap[w.heap.size]?=some (.cells #[.slice aW ws.length cW,.slice aP ps.length cP] 26 (0,0)):=(hb.block _ (by omega)).trans (by rw[hW1];exact zaj (zaf rfl));exact⟨(zac this).1,(zac this).2.1⟩
 have CR:Hid (∀ w',zB W1 w'->w'.heap[w.heap.size+1]?=some (.cells #[.N,.N] 67 (0,0))):=fun w' hb=>(hb.block _ (by omega)).trans (by
  rw[hW1];have:=zaf (w:=w.alloc (.cells #[.slice aW ws.length cW,.slice aP ps.length cP] 26)) (o:=.cells #[.N,.N] 67) rfl;rw[World.size_alloc]at this
  exact this)
 have BW:Hid (zB w W1):=by rw[hW1];exact(zR.alloc zL _).alloc (by simp) _
 have hz0:w.heap.size+1<W1.heap.size:=by omega
 clear hz1;obtain⟨x0,x1⟩:=CA.o W1 zR
 cases c1:pmB ws ps with
 | false =>
  obtain⟨E1,E2,E3⟩:=yalm c1;rw[c1]at LO;rw[E1,E2,E3];clear c1 E1 E2 E3 LR LL;go_enter Tryz.func63,Tryz.ntmps63;go_wp2_with fail;rw[<- hW1];clear hW1;refine(LO.o _ (HR.o.below BW.o)).mono ?_;rintro e w1 ⟨rfl,hb1⟩;have B1:=zaa hb1;clear x0 x1 hb1;obtain⟨x0,x1⟩:=CA.o w1 B1.o;have CB:=zaa (CR.o _ B1.o);obtain⟨p0,p1,p2,p3⟩:=zac CB.o;have BR:Hid (zB w ((w1.setCell ⟨w.heap.size+1,0,none⟩ (.N)).setCell ⟨w.heap.size+1,1,none⟩ (.N))):=((zab BW.o B1.o BW.o.size).setCell (by simp only;omega) _).setCell (by simp only;omega) _;go_wp2;refine bodyPost_ret (v:=.tuple #[.agg #[.N,.N],.I 1]) (by simp[results,Tryz.results63,go_sem,p0,p1]) rfl ?_;exact⟨_,rfl,zdu _ _ _,BR.o⟩
 | true =>
 have C1:=zaa c1;rw[c1]at LO;have LR2:=zaa (fun w1 (hb:zB W1 w1)=>LR.o w1 (HR.o.below (zab BW.o hb BW.o.size)) c1);have LL2:=zaa (fun w1 (hb:zB W1 w1)=>LL.o w1 (HR.o.below (zab BW.o hb BW.o.size)) c1);have NO:=zaa (fun q=>yacn C1.o q);have YES:=zaa (fun q=>yaxs C1.o q);have RB:=zaa (show riB (zbs ws ps)=(wdI (zbs ws ps) 0 == 7&&(zch (zbs ws ps) 24&&zck (zbc (zbs ws ps) 16) (zbh (zbs ws ps) 24)))from rfl);have LI:=zaa (fun v w1 h=>zss v (zbc (zbs ws ps) 16) (zbh (zbs ws ps) 24) w1 h (by rw[zbw];omega) (by rw[zbm];omega) (zwg C1.o 16) (zkp _ 24));have NI:=zaa (zbw (zbs ws ps) 16);have ND:=zaa (zbm (zbs ws ps) 24);clear c1 LR LL;generalize riC ws ps=rc at *;generalize riN ws ps=rn at *;generalize riD ws ps=rd at *;generalize riB (zbs ws ps)=rb at *;generalize wdI (zbs ws ps) 0=w0 at *;generalize zch (zbs ws ps) 24=ag at *;generalize zbc (zbs ws ps) 16=XI at *;generalize zbh (zbs ws ps) 24=XD at *;generalize zck XI XD=ib at *
 cases ag with
 | false =>
  obtain⟨rfl,rfl,rfl⟩:=NO.o (by rw[RB.o];simp);clear NO YES RB LI;go_enter Tryz.func63,Tryz.ntmps63;go_wp2_with fail;rw[<- hW1];clear hW1;refine(LO.o _ (HR.o.below BW.o)).mono ?_;rintro e w1 ⟨rfl,hb1⟩;have B1:=zaa hb1;clear x0 x1 hb1;obtain⟨x0,x1⟩:=CA.o w1 B1.o;go_wp2_with fail;refine(LR2.o _ B1.o).mono ?_;rintro e w2 ⟨⟨v2,rfl,_,hv2⟩,hb2⟩;obtain rfl:=hv2 (by trivial);clear hv2;have B2:=zaa (zik B1.o hb2);have B3:Hid (zB W1 (w2.alloc (.cells #[.N,.N] 67))):=zar B2.o _;clear x0 x1 hb2;obtain⟨x0,x1⟩:=CA.o _ B3.o;go_wp2_with fail
  obtain⟨w3,hw3⟩:=zE (w2.alloc (.cells #[.N,.N] 67))
  rw[<- hw3]at B3 x0 x1 ⊢;clear hw3;refine(LL2.o _ B3.o).mono ?_;rintro e w4 ⟨rfl,hb4⟩;have B4:=zaa (zik B3.o hb4);clear x0 x1 hb4
  by_cases q:w0=7
  ·have q1:(w0 != 7)=false:=by rw[q];rfl
   have CB:=zaa (CR.o _ B4.o);obtain⟨p0,p1,p2,p3⟩:=zac CB.o;have BR:Hid (zB w ((w4.setCell ⟨w.heap.size+1,0,none⟩ (.N)).setCell ⟨w.heap.size+1,1,none⟩ (.N))):=((zab BW.o B4.o BW.o.size).setCell (by simp only;omega) _).setCell (by simp only;omega) _;go_wp2;refine bodyPost_ret (v:=.tuple #[.agg #[.N,.N],.I 3]) (by simp[results,Tryz.results63,go_sem,p0,p1]) rfl ?_;exact⟨_,rfl,zdu _ _ _,BR.o⟩
  ·have q1:(w0 != 7)=true:=by rw[bne_iff_ne];exact q
   have CB:=zaa (CR.o _ B4.o);obtain⟨p0,p1,p2,p3⟩:=zac CB.o;have BR:Hid (zB w ((w4.setCell ⟨w.heap.size+1,0,none⟩ (.N)).setCell ⟨w.heap.size+1,1,none⟩ (.N))):=((zab BW.o B4.o BW.o.size).setCell (by simp only;omega) _).setCell (by simp only;omega) _;go_wp2;refine bodyPost_ret (v:=.tuple #[.agg #[.N,.N],.I 3]) (by simp[results,Tryz.results63,go_sem,p0,p1]) rfl ?_;exact⟨_,rfl,zdu _ _ _,BR.o⟩
 | true =>
 by_cases q:w0=7
 case neg =>
  obtain⟨rfl,rfl,rfl⟩:=NO.o (by rw[RB.o,show(w0 == 7)=false by rw[beq_eq_false_iff_ne];exact q];rfl)
  have q1:(w0 != 7)=true:=by rw[bne_iff_ne];exact q
  clear NO YES RB LI q;go_enter Tryz.func63,Tryz.ntmps63;go_wp2_with fail;rw[<- hW1];clear hW1;refine(LO.o _ (HR.o.below BW.o)).mono ?_;rintro e w1 ⟨rfl,hb1⟩;have B1:=zaa hb1;clear x0 x1 hb1;obtain⟨x0,x1⟩:=CA.o w1 B1.o;go_wp2_with fail;refine(LR2.o _ B1.o).mono ?_;rintro e w2 ⟨⟨v2,rfl,hv2,_⟩,hb2⟩;obtain⟨vI,vD,rfl,hI,hD⟩:=hv2 (by trivial)
  rcases hI.shape with ⟨_,e,_⟩ | ⟨b1,c1,rfl,_,_⟩
  ·have:=NI.o;omega
  rcases hD.shape with ⟨_,e,_⟩ | ⟨b2,c2,rfl,_,_⟩
  ·have:=ND.o;omega
  clear hv2 hI hD;have B2:=zaa (zik B1.o hb2);have B3:Hid (zB W1 (w2.alloc (.cells #[.slice (some ⟨b1,0,none⟩) XI.length c1,.slice (some ⟨b2,0,none⟩) XD.length c2] 67))):=zar B2.o _;clear x0 x1 hb2;obtain⟨x0,x1⟩:=CA.o _ B3.o;go_wp2_with fail
  obtain⟨w3,hw3⟩:=zE (w2.alloc (.cells #[.slice (some ⟨b1,0,none⟩) XI.length c1,.slice (some ⟨b2,0,none⟩) XD.length c2] 67))
  rw[<- hw3]at B3 x0 x1 ⊢;clear hw3;refine(LL2.o _ B3.o).mono ?_;rintro e w4 ⟨rfl,hb4⟩;have B4:=zaa (zik B3.o hb4);clear x0 x1 hb4;have CB:=zaa (CR.o _ B4.o);obtain⟨p0,p1,p2,p3⟩:=zac CB.o;have BR:Hid (zB w ((w4.setCell ⟨w.heap.size+1,0,none⟩ (.N)).setCell ⟨w.heap.size+1,1,none⟩ (.N))):=((zab BW.o B4.o BW.o.size).setCell (by simp only;omega) _).setCell (by simp only;omega) _;go_wp2;refine bodyPost_ret (v:=.tuple #[.agg #[.N,.N],.I 3]) (by simp[results,Tryz.results63,go_sem,p0,p1]) rfl ?_;exact⟨_,rfl,zdu _ _ _,BR.o⟩
 have q1:(w0 != 7)=false:=by rw[q];rfl
 have RB2:Hid (rb=ib):=by unfold Hid;rw[RB.o,q];rfl
 clear q RB
 cases ib with
 | false =>
  obtain⟨rfl,rfl,rfl⟩:=NO.o RB2.o;clear NO YES RB2;go_enter Tryz.func63,Tryz.ntmps63;go_wp2_with fail;rw[<- hW1];clear hW1;refine(LO.o _ (HR.o.below BW.o)).mono ?_;rintro e w1 ⟨rfl,hb1⟩;have B1:=zaa hb1;clear x0 x1 hb1;obtain⟨x0,x1⟩:=CA.o w1 B1.o;go_wp2_with fail;refine(LR2.o _ B1.o).mono ?_;rintro e w2 ⟨⟨v2,rfl,hv2,_⟩,hb2⟩;have RR:=zaa (hv2 (by trivial));obtain⟨vI,vD,rfl,hI,hD⟩:=RR.o
  rcases hI.shape with ⟨_,e,_⟩ | ⟨b1,c1,rfl,_,_⟩
  ·have:=NI.o;omega
  rcases hD.shape with ⟨_,e,_⟩ | ⟨b2,c2,rfl,_,_⟩
  ·have:=ND.o;omega
  have hz12:W1.heap.size<=w1.heap.size:=B1.o.size;have hz2:w1.heap.size<=w2.heap.size:=hb2.size;clear hv2 hI hD;have B2:=zaa (zik B1.o hb2);have B3:Hid (zB W1 (w2.alloc (.cells #[.slice (some ⟨b1,0,none⟩) XI.length c1,.slice (some ⟨b2,0,none⟩) XD.length c2] 67))):=zar B2.o _;have BC:Hid (zB w2 (w2.alloc (.cells #[.slice (some ⟨b1,0,none⟩) XI.length c1,.slice (some ⟨b2,0,none⟩) XD.length c2] 67))):=zR.alloc zL _;have VM:Hid ((w2.alloc (.cells #[.slice (some ⟨b1,0,none⟩) XI.length c1,.slice (some ⟨b2,0,none⟩) XD.length c2] 67)).heap[w2.heap.size]?=some (.cells #[.slice (some ⟨b1,0,none⟩) XI.length c1,.slice (some ⟨b2,0,none⟩) XD.length c2] 67 (0,0))):=zaf rfl;clear x0 x1 hb2;obtain⟨x0,x1⟩:=CA.o _ B3.o;go_wp2_with fail
  obtain⟨w3,hw3⟩:=zE (w2.alloc (.cells #[.slice (some ⟨b1,0,none⟩) XI.length c1,.slice (some ⟨b2,0,none⟩) XD.length c2] 67))
  rw[<- hw3]at B3 BC VM x0 x1 ⊢;have hz3:w2.heap.size<w3.heap.size:=(Array.getElem?_eq_some_iff.1 VM.o).1;clear hw3;refine(LL2.o _ B3.o).mono ?_;rintro e w4 ⟨rfl,hb4⟩;have B4:=zaa (zik B3.o hb4);have BD:=zaa (zik BC.o hb4);have VM4:=zaa ((hb4.block _ hz3).trans VM.o);have R4:=zaa (RR.o.below BD.o zL);have hz4:w3.heap.size<=w4.heap.size:=hb4.size;clear x0 x1 hb4 VM RR BC;obtain⟨y0,y1,_,_⟩:=zac VM4.o;go_wp2_with fail;refine(LI.o _ _ R4.o.rd).mono ?_;rintro e w5 ⟨rfl,hb5⟩;have B5:=zaa (zik B4.o hb5);have VM5:=zaa ((hb5.block _ (by omega)).trans VM4.o);have R5:=zaa (R4.o.below hb5 (by omega));have hz5:w4.heap.size<=w5.heap.size:=hb5.size;clear y0 y1 hb5 VM4 R4;have CB:=zaa (CR.o _ B5.o);obtain⟨p0,p1,p2,p3⟩:=zac CB.o;have BR:Hid (zB w ((w5.setCell ⟨w.heap.size+1,0,none⟩ (.N)).setCell ⟨w.heap.size+1,1,none⟩ (.N))):=((zab BW.o B5.o BW.o.size).setCell (by simp only;omega) _).setCell (by simp only;omega) _;go_wp2;refine bodyPost_ret (v:=.tuple #[.agg #[.N,.N],.I 3]) (by simp[results,Tryz.results63,go_sem,p0,p1]) rfl ?_;exact⟨_,rfl,zdu _ _ _,BR.o⟩
 | true =>
  obtain⟨rfl,rfl,rfl⟩:=YES.o RB2.o;clear NO YES RB2;go_enter Tryz.func63,Tryz.ntmps63;go_wp2_with fail;rw[<- hW1];clear hW1;refine(LO.o _ (HR.o.below BW.o)).mono ?_;rintro e w1 ⟨rfl,hb1⟩;have B1:=zaa hb1;clear x0 x1 hb1;obtain⟨x0,x1⟩:=CA.o w1 B1.o;go_wp2_with fail;refine(LR2.o _ B1.o).mono ?_;rintro e w2 ⟨⟨v2,rfl,hv2,_⟩,hb2⟩;have RR:=zaa (hv2 (by trivial));obtain⟨vI,vD,rfl,hI,hD⟩:=RR.o
  rcases hI.shape with ⟨_,e,_⟩ | ⟨b1,c1,rfl,_,_⟩
  ·have:=NI.o;omega
  rcases hD.shape with ⟨_,e,_⟩ | ⟨b2,c2,rfl,_,_⟩
  ·have:=ND.o;omega
  have hz12:W1.heap.size<=w1.heap.size:=B1.o.size;have hz2:w1.heap.size<=w2.heap.size:=hb2.size;clear hv2 hI hD;have B2:=zaa (zik B1.o hb2);have B3:Hid (zB W1 (w2.alloc (.cells #[.slice (some ⟨b1,0,none⟩) rn.length c1,.slice (some ⟨b2,0,none⟩) rd.length c2] 67))):=zar B2.o _;have BC:Hid (zB w2 (w2.alloc (.cells #[.slice (some ⟨b1,0,none⟩) rn.length c1,.slice (some ⟨b2,0,none⟩) rd.length c2] 67))):=zR.alloc zL _;have VM:Hid ((w2.alloc (.cells #[.slice (some ⟨b1,0,none⟩) rn.length c1,.slice (some ⟨b2,0,none⟩) rd.length c2] 67)).heap[w2.heap.size]?=some (.cells #[.slice (some ⟨b1,0,none⟩) rn.length c1,.slice (some ⟨b2,0,none⟩) rd.length c2] 67 (0,0))):=zaf rfl;clear x0 x1 hb2;obtain⟨x0,x1⟩:=CA.o _ B3.o;go_wp2_with fail
  obtain⟨w3,hw3⟩:=zE (w2.alloc (.cells #[.slice (some ⟨b1,0,none⟩) rn.length c1,.slice (some ⟨b2,0,none⟩) rd.length c2] 67))
  rw[<- hw3]at B3 BC VM x0 x1 ⊢;have hz3:w2.heap.size<w3.heap.size:=(Array.getElem?_eq_some_iff.1 VM.o).1;clear hw3;refine(LL2.o _ B3.o).mono ?_;rintro e w4 ⟨rfl,hb4⟩;have B4:=zaa (zik B3.o hb4);have BD:=zaa (zik BC.o hb4);have VM4:=zaa ((hb4.block _ hz3).trans VM.o);have R4:=zaa (RR.o.below BD.o zL);have hz4:w3.heap.size<=w4.heap.size:=hb4.size;clear x0 x1 hb4 VM RR BC;obtain⟨y0,y1,_,_⟩:=zac VM4.o;go_wp2_with fail;refine(LI.o _ _ R4.o.rd).mono ?_;rintro e w5 ⟨rfl,hb5⟩;have B5:=zaa (zik B4.o hb5);have VM5:=zaa ((hb5.block _ (by omega)).trans VM4.o);have R5:=zaa (R4.o.below hb5 (by omega));have hz5:w4.heap.size<=w5.heap.size:=hb5.size;clear y0 y1 hb5 VM4 R4;obtain⟨y0,y1,_,_⟩:=zac VM5.o;have CB:=zaa (CR.o _ B5.o);obtain⟨p0,p1,p2,p3⟩:=zac CB.o;have BR:Hid (zB w ((w5.setCell ⟨w.heap.size+1,0,none⟩ (.slice (some ⟨b1,0,none⟩) rn.length c1)).setCell ⟨w.heap.size+1,1,none⟩ (.slice (some ⟨b2,0,none⟩) rd.length c2))):=((zab BW.o B5.o BW.o.size).setCell (by simp only;omega) _).setCell (by simp only;omega) _;have RF:=zaa (zjp (zyk R5.o CB.o (.slice (some ⟨b1,0,none⟩) rn.length c1) (.slice (some ⟨b2,0,none⟩) rd.length c2)) (lo':=w.heap.size) (hi':=((w5.setCell ⟨w.heap.size+1,0,none⟩ (.slice (some ⟨b1,0,none⟩) rn.length c1)).setCell ⟨w.heap.size+1,1,none⟩ (.slice (some ⟨b2,0,none⟩) rd.length c2)).heap.size) (by have:=BW.o.size;omega) (by simp;omega));clear CB R5 VM5;go_wp2;refine bodyPost_ret (v:=.tuple #[.agg #[.slice (some ⟨b1,0,none⟩) rn.length c1,.slice (some ⟨b2,0,none⟩) rd.length c2],.I 0]) (by simp[results,Tryz.results63,go_sem,p0,p1]) rfl ?_;exact⟨_,rfl,RF.o,BR.o⟩
def dvN(ws:List Int)(ps:List St)(es:List Int)(qs:List Se):List Ino:=if dvB ws ps es qs=true then zbc (zbs ws ps) 16 else[]
def dvD(ws:List Int)(ps:List St)(es:List Int)(qs:List Se):List Den:=if dvB ws ps es qs=true then zbh (zbs ws ps) 24 else[]
theorem yalt{ws:List Int}{ps:List St}{es:List Int}{qs:List Se}(h:(pmB ws ps&&zdk es qs)=false):dvB ws ps es qs=false/\dvN ws ps es qs=[]/\dvD ws ps es qs=[]:=by
 have e:dvB ws ps es qs=false:=by unfold dvB;rw[h];rfl
 exact⟨e,by unfold dvN;rw[e];rfl,by unfold dvD;rw[e];rfl⟩
theorem yakh{ws:List Int}{ps:List St}{es:List Int}{qs:List Se}(h:(pmB ws ps&&zdk es qs)=true):dvB ws ps es qs=(riC ws ps == 0)/\dvN ws ps es qs=riN ws ps/\dvD ws ps es qs=riD ws ps:=by
 have p:pmB ws ps=true:=by rw[Bool.and_eq_true]at h;exact h.1
 have e:dvB ws ps es qs=riB (zbs ws ps):=by unfold dvB;rw[h];rfl
 cases q:riB (zbs ws ps) with
 | false =>
  obtain⟨a,b,c⟩:=yacn p q;rw[q]at e;exact⟨by rw[e,a];rfl,by unfold dvN;rw[e,b];rfl,by unfold dvD;rw[e,c];rfl⟩
 | true =>
  obtain⟨a,b,c⟩:=yaxs p q;rw[q]at e;exact⟨by rw[e,a];rfl,by unfold dvN;rw[e,b];rfl,by unfold dvD;rw[e,c];rfl⟩
theorem yaao{w:World}{lo hi:Nat}{vI vD:Value}{xs:List Ino}{ds:List Den}{b:Nat}{cs:Array Value}{fr:Nat×Nat}(h1:Row w 59 11 lo hi vI xs.length (inos xs))(h2:Row w 158 3 lo hi vD ds.length (dens ds))(hb:w.heap[b]?=some (.cells cs 67 fr))(v0 v1:Value):RowIm ((w.setCell ⟨b,0,none⟩ v0).setCell ⟨b,1,none⟩ v1) lo hi (.agg #[vI,vD]) xs ds:=by
 have T1:=zdg h1.1 hb zno;have T2:=zdg h2.1 hb znm;exact⟨_,_,rfl,⟨ownsRow_setCell_other (ownsRow_setCell_other h1.1 T1 _) T1 _,h1.2⟩,⟨ownsRow_setCell_other (ownsRow_setCell_other h2.1 T2 _) T2 _,h2.2⟩⟩
theorem yaad(v:Value)(ws:List Int)(ps:List St)(es:List Int)(qs:List Se)(w:World)(h:RdDev w v ws ps es qs)(hw:ws.length<=1048576)(hp:ps.length<=1048576)(he:es.length<=1048576)(hq:qs.length<=1048576) :
  zC 27 #[v] w fun e w'=>∃ v',e=.returned (.tuple #[v',.bool (dvB ws ps es qs)])/\RowIm w' w.heap.size w'.heap.size v' (dvN ws ps es qs) (dvD ws ps es qs)/\zB w w':=by
 have LO:=zaa (fun w1 (hb:zB w w1)=>znw v ws ps es qs w1 (h.below hb) hw hp he hq);obtain⟨aW,cW,aP,cP,aS,cS,aQ,cQ,rfl,h1,h2⟩:=h.form;have LR:=zaa (fun w1 (hb:zB w w1)=>znh _ ws ps w1 (h1.below hb) hw hp);have NO:=zaa (fun q=>yalt (ws:=ws) (ps:=ps) (es:=es) (qs:=qs) q);have YES:=zaa (fun q=>yakh (ws:=ws) (ps:=ps) (es:=es) (qs:=qs) q);clear h h1 h2
 obtain⟨W1,hW1⟩:=zE ((w.alloc (.cells #[.slice aW ws.length cW,.slice aP ps.length cP,.slice aS es.length cS,.slice aQ qs.length cQ] 31)).alloc (.cells #[.N,.N] 67))
 have hz1:W1.heap.size=w.heap.size+1+1:=by rw[hW1];simp
 have CA:Hid (∀ w',zB W1 w'->w'.cell? ⟨w.heap.size,0,none⟩=some (.slice aW ws.length cW)/\w'.cell? ⟨w.heap.size,1,none⟩=some (.slice aP ps.length cP)/\w'.cell? ⟨w.heap.size,2,none⟩=some (.slice aS es.length cS)/\w'.cell? ⟨w.heap.size,3,none⟩=some (.slice aQ qs.length cQ)):=fun w' hb=>by
  have:w'.heap[w.heap.size]?=some (.cells #[.slice aW ws.length cW,.slice aP ps.length cP,.slice aS es.length cS,.slice aQ qs.length cQ] 31 (0,0)):=(hb.block _ (by omega)).trans (by rw[hW1];exact zaj (zaf rfl));obtain⟨x0,x1,x2,x3,-,-,-,-⟩:=zai this;exact⟨x0,x1,x2,x3⟩
 have CR:Hid (∀ w',zB W1 w'->w'.heap[w.heap.size+1]?=some (.cells #[.N,.N] 67 (0,0))):=fun w' hb=>(hb.block _ (by omega)).trans (by
  rw[hW1];have:=zaf (w:=w.alloc (.cells #[.slice aW ws.length cW,.slice aP ps.length cP,.slice aS es.length cS,.slice aQ qs.length cQ] 31)) (o:=.cells #[.N,.N] 67) rfl;rw[World.size_alloc]at this
  exact this)
 have BW:Hid (zB w W1):=by rw[hW1];exact(zR.alloc zL _).alloc (by simp) _
 have hz0:w.heap.size+1<W1.heap.size:=by omega
 clear hz1;obtain⟨x0,x1,x2,x3⟩:=CA.o W1 zR;generalize riC ws ps=rc at *;generalize riN ws ps=rn at *;generalize riD ws ps=rd at *;generalize dvB ws ps es qs=db at *;generalize dvN ws ps es qs=dn at *;generalize dvD ws ps es qs=dd at *;generalize (pmB ws ps&&zdk es qs)=ok at *;go_enter Tryz.func27,Tryz.ntmps27;go_wp2_with fail;rw[<- hW1];clear hW1;refine(LO.o _ BW.o).mono ?_;rintro e w1 ⟨rfl,hb1⟩;have B1:=zaa hb1;have B1w:=zaa (zab BW.o B1.o BW.o.size);clear x0 x1 x2 x3 hb1;obtain⟨x0,x1,x2,x3⟩:=CA.o w1 B1.o
 cases ok with
 | false =>
  obtain⟨rfl,rfl,rfl⟩:=NO.o rfl;have CB:=zaa (CR.o _ B1.o);obtain⟨p0,p1,p2,p3⟩:=zac CB.o;have BR:Hid (zB w ((w1.setCell ⟨w.heap.size+1,0,none⟩ (.N)).setCell ⟨w.heap.size+1,1,none⟩ (.N))):=(B1w.o.setCell (by simp only;omega) _).setCell (by simp only;omega) _;clear NO YES;go_wp2;refine bodyPost_ret (v:=.tuple #[.agg #[.N,.N],.bool false]) (by simp[results,Tryz.results27,go_sem,p0,p1]) rfl ?_;exact⟨_,rfl,zdu _ _ _,BR.o⟩
 | true =>
  obtain⟨rfl,rfl,rfl⟩:=YES.o rfl;clear NO YES;go_wp2_with fail;refine(LR.o _ B1w.o).mono ?_;rintro e w2 ⟨v2,rfl,⟨vI,vD,rfl,hI,hD⟩,hb2⟩;obtain⟨-,a1,c1,hv1,-⟩:=hI.rd;obtain⟨-,a2,c2,hv2,-⟩:=hD.rd;subst hv1;subst hv2;have HI:=zaa hI;have HD:=zaa hD;have B2:=zaa (zik B1.o hb2);have B3:Hid (zB W1 (w2.alloc (.cells #[.slice a1 dn.length c1,.slice a2 dd.length c2] 67))):=zar B2.o _;have hz12:W1.heap.size<=w1.heap.size:=B1.o.size;have hz2:w1.heap.size<=w2.heap.size:=hb2.size;have hzw:w.heap.size<=w1.heap.size:=B1w.o.size;clear x0 x1 x2 x3 hb2 hI hD;obtain⟨y0,y1,_,_⟩:=zac (zaf (w:=w2) (o:=.cells #[.slice a1 dn.length c1,.slice a2 dd.length c2] 67) rfl)
  obtain⟨w3,hw3⟩:=zE (w2.alloc (.cells #[.slice a1 dn.length c1,.slice a2 dd.length c2] 67))
  have BC:Hid (zB w2 w3):=by rw[hw3];exact zR.alloc zL _
  rw[<- hw3]at B3 y0 y1;have HI3:=zaa (HI.o.below BC.o zL);have HD3:=zaa (HD.o.below BC.o zL);have hz3:w2.heap.size<=w3.heap.size:=BC.o.size;have CB:=zaa (CR.o _ B3.o);obtain⟨p0,p1,p2,p3⟩:=zac CB.o;have BR:Hid (zB w ((w3.setCell ⟨w.heap.size+1,0,none⟩ (.slice a1 dn.length c1)).setCell ⟨w.heap.size+1,1,none⟩ (.slice a2 dd.length c2))):=((zab BW.o B3.o BW.o.size).setCell (by simp only;omega) _).setCell (by simp only;omega) _;have RF:=zaa (zjp (yaao HI3.o HD3.o CB.o (.slice a1 dn.length c1) (.slice a2 dd.length c2)) (lo':=w.heap.size) (hi':=((w3.setCell ⟨w.heap.size+1,0,none⟩ (.slice a1 dn.length c1)).setCell ⟨w.heap.size+1,1,none⟩ (.slice a2 dd.length c2)).heap.size) (by omega) (by simp;omega));clear CB HI HD HI3 HD3 BC B3 B2 LR LO CA CR;subst hw3;go_wp2;refine bodyPost_ret (v:=.tuple #[.agg #[.slice a1 dn.length c1,.slice a2 dd.length c2],.bool (rc == 0)]) (by simp[results,Tryz.results27,go_sem,p0,p1]) rfl ?_;exact⟨_,rfl,RF.o,BR.o⟩
theorem yabm(vd v:Value)(ws:List Int)(ps:List St)(es:List Int)(qs:List Se)(ns:List Ino)(ds:List Den)(s:ByteArray)(page:Int)(w:World)(hd:RdDev w vd ws ps es qs)(hP:pmB ws ps=true)(hB:zdk es qs=true)(h:RdIm w v ns ds)(hi:zck ns ds=true)(hs:s.size<=65536) :
  zC 156 #[vd,v,.string s,.I page] w fun e w'=>e=.returned (.tuple #[.I (rpI ws ps es qs ns ds s page).1,.I (rpI ws ps es qs ns ds s page).2])/\zB w w':=by
 have LV:=zaa (fun w1 (hb:zB w w1) z (hz:zeo z=true)=>ziy vd ws ps es qs z w1 (hd.below hb) hP hB hz);have LL:=zaa (fun w1 (hb:zB w w1)=>zkq v ns ds s w1 (h.below hb) hi hs);have EL:=zaa (show rpI ws ps es qs ns ds s page=if (flI ns ds s).2=0 then rpF ws ps es qs ns (flI ns ds s).1 page else(0,(flI ns ds s).2)from rfl);have LO:=zaa (fun c=>zgl (s:=s) (zbu.1 hi) c);have EF:=zaa (fun i=>show rpF ws ps es qs ns i page=if 0<=page/\page<zcx ns i then(pgV ws ps es qs (zod ns i page),0) else(0,4)from rfl)
 have SZ:Hid (∀ i:Nat,i<16->0<=zcx ns (i:Int)/\zcx ns (i:Int)<=8):=fun i hk=>(zbq ((zbu.1 hi).ok i hk)).2.1
 have TI:Hid (∀ i:Nat,i<16->∀ j:Nat,j<8->zeo (zod ns (i:Int) (j:Int))=true):=fun i hk j hj=>by
  refine(zfj ((zbu.1 hi).ok i hk)).1 _ ?_
  show(zan ns i).map.getD j 0∈_
  rw[List.getD_eq_getElem?_getD,List.getElem?_eq_getElem (show j<(zan ns i).map.length from hj)];exact List.getElem_mem _
 obtain⟨l16,l24,_⟩:=zba hi;have L16:=zaa l16;obtain⟨dW,eW,dP,eP,dS,eS,dQ,eQ,rfl,-,-⟩:=hd.form;obtain⟨vW,vP,rfl,h1,h2⟩:=h;obtain⟨aW,cW,rfl,_,hcW⟩:=h1.shape;obtain⟨aP,cP,rfl,_,hcP⟩:=h2.shape;obtain⟨bW,oW,rfl,hblW,hcellW⟩:=hcW (by omega)
 have HM:Hid (∀ k,k<16->∀ w',zB w w'->w'.cell? ⟨bW,oW+k*11+1,none⟩=some (.I (zcx ns (k:Int)))/\∀ j,j<8->w'.cell? ⟨bW,oW+k*11+3+j,none⟩=some (.I (zod ns (k:Int) (j:Int)))):=fun k hk w' hb=>by
  unfold zcx zod;rw[Int.toNat_natCast,zbp (by omega:k<ns.length)];obtain⟨a0,a1,a2,a3,a4,a5,a6,a7,a8,a9,a10⟩:=hcellW k (by omega);refine⟨(hb.cell (p:=⟨bW,oW+k*11+1,none⟩) hblW).trans a1,fun j hj=>?_⟩;rw[Int.toNat_natCast]
  rcases(show j=0\/j=1\/j=2\/j=3\/j=4\/j=5\/j=6\/j=7 by omega)with rfl|rfl|rfl|rfl|rfl|rfl|rfl|rfl
  ·exact(hb.cell (p:=⟨bW,oW+k*11+3,none⟩) hblW).trans a3
  ·exact(hb.cell (p:=⟨bW,oW+k*11+4,none⟩) hblW).trans a4
  ·exact(hb.cell (p:=⟨bW,oW+k*11+5,none⟩) hblW).trans a5
  ·exact(hb.cell (p:=⟨bW,oW+k*11+6,none⟩) hblW).trans a6
  ·exact(hb.cell (p:=⟨bW,oW+k*11+7,none⟩) hblW).trans a7
  ·exact(hb.cell (p:=⟨bW,oW+k*11+8,none⟩) hblW).trans a8
  ·exact(hb.cell (p:=⟨bW,oW+k*11+9,none⟩) hblW).trans a9
  ·exact(hb.cell (p:=⟨bW,oW+k*11+10,none⟩) hblW).trans a10
 clear h1 h2 hi hs hcW hcP hcellW l16 l24 hd hP hB
 obtain⟨W,hW⟩:=zE ((w.alloc (.cells #[.slice dW ws.length eW,.slice dP ps.length eP,.slice dS es.length eS,.slice dQ qs.length eQ] 31)).alloc (.cells #[.slice (some ⟨bW,oW,none⟩) ns.length cW,.slice aP ds.length cP] 67))
 have hzW:W.heap.size=w.heap.size+1+1:=by rw[hW];simp
 have CD:Hid (∀ w',zB W w'->w'.cell? ⟨w.heap.size,0,none⟩=some (.slice dW ws.length eW)/\w'.cell? ⟨w.heap.size,1,none⟩=some (.slice dP ps.length eP)/\w'.cell? ⟨w.heap.size,2,none⟩=some (.slice dS es.length eS)/\w'.cell? ⟨w.heap.size,3,none⟩=some (.slice dQ qs.length eQ)):=fun w' hb=>by
  have:w'.heap[w.heap.size]?=some (.cells #[.slice dW ws.length eW,.slice dP ps.length eP,.slice dS es.length eS,.slice dQ qs.length eQ] 31 (0,0)):=(hb.block _ (by omega)).trans (by rw[hW];exact zaj (zaf rfl));obtain⟨x0,x1,x2,x3,-,-,-,-⟩:=zai this;exact⟨x0,x1,x2,x3⟩
 have CA:Hid (∀ w',zB W w'->w'.cell? ⟨w.heap.size+1,0,none⟩=some (.slice (some ⟨bW,oW,none⟩) ns.length cW)/\w'.cell? ⟨w.heap.size+1,1,none⟩=some (.slice aP ds.length cP)):=fun w' hb=>by
  have:w'.heap[w.heap.size+1]?=some (.cells #[.slice (some ⟨bW,oW,none⟩) ns.length cW,.slice aP ds.length cP] 67 (0,0)):=(hb.block _ (by omega)).trans (by
   rw[hW];have:=zaf (w:=w.alloc (.cells #[.slice dW ws.length eW,.slice dP ps.length eP,.slice dS es.length eS,.slice dQ qs.length eQ] 31)) (o:=.cells #[.slice (some ⟨bW,oW,none⟩) ns.length cW,.slice aP ds.length cP] 67) rfl;rw[World.size_alloc]at this
   exact this)
  exact⟨(zac this).1,(zac this).2.1⟩
 have BW:Hid (zB w W):=by rw[hW];exact(zR.alloc zL _).alloc (by simp) _
 obtain⟨x0,x1⟩:=CA.o _ zR
 have hz:w.heap.size+1<W.heap.size:=by omega
 clear hzW;generalize rpI ws ps es qs ns ds s page=res at *;generalize flI ns ds s=lr at *;obtain⟨li,lc⟩:=lr;simp only at EL LO LL;go_enter Tryz.func156,Tryz.ntmps156;go_wp2_with fail;rw[<- hW];clear hW x0 x1;refine(LL.o _ BW.o).mono ?_;rintro e w1 ⟨rfl,hb1⟩;have A1:=zaa hb1;have B1:=zaa (zab BW.o A1.o BW.o.size);clear hb1 LL
 by_cases c:lc=0
 case neg =>
  rw[if_neg c]at EL;obtain rfl:=EL.o
  have q:(lc != 0)=true:=by rw[bne_iff_ne];exact c
  clear EL LO c;go_wp2;go_ret2;exact⟨rfl,B1.o⟩
 subst c;rw[if_pos rfl]at EL;obtain⟨i,i16,ei,-⟩:=LO.o rfl;subst ei;rw[EF.o]at EL;have HMi:=zaa (HM.o i i16);have TIi:=zaa (TI.o i i16);obtain⟨z0,z8⟩:=SZ.o i i16
 have i1:i<ns.length:=by have:=L16.o;omega
 have i0:(0:Int)<=(i:Int):=by omega
 have il:(i:Int)<(ns.length:Int):=by omega
 clear HM EF LO L16 SZ TI;obtain⟨x0,x1⟩:=CA.o _ A1.o;have y0:=(HMi.o _ B1.o).1;generalize zcx ns (i:Int)=sz at *
 by_cases c:0<=page/\page<sz
 case neg =>
  rw[if_neg c]at EL;obtain rfl:=EL.o;clear EL;go_wp2_with fail;refine(zgs _ _ _ _ (by omega)).mono ?_;rintro e w' ⟨rfl,hw'⟩;subst w';go_wp2;go_ret2;exact⟨rfl,B1.o⟩
 rw[if_pos c]at EL
 obtain⟨j,rfl⟩:∃ j:Nat,page=(j:Int):=⟨page.toNat,by omega⟩
 have j8:j<8:=by omega
 have te:=zaa (TIi.o j j8);have LV2:=zaa (fun w1 hb=>LV.o w1 hb _ te.o)
 have j0:(0:Int)<=(j:Int):=by omega
 have j1:(j:Int)<8:=by omega
 have KE:Hid (∀ w',zB W w'->w'.cell? ⟨w.heap.size,0,none⟩=some (.slice dW ws.length eW)/\w'.cell? ⟨w.heap.size,1,none⟩=some (.slice dP ps.length eP)/\w'.cell? ⟨w.heap.size,2,none⟩=some (.slice dS es.length eS)/\w'.cell? ⟨w.heap.size,3,none⟩=some (.slice dQ qs.length eQ)/\w'.cell? ⟨w.heap.size+1,0,none⟩=some (.slice (some ⟨bW,oW,none⟩) ns.length cW)/\w'.cell? ⟨bW,oW+i*11+3+j,none⟩=some (.I (zod ns (i:Int) (j:Int)))):=fun w' hb =>
  ⟨(CD.o w' hb).1,(CD.o w' hb).2.1,(CD.o w' hb).2.2.1,(CD.o w' hb).2.2.2,(CA.o w' hb).1,(HMi.o w' (zab BW.o hb BW.o.size)).2 j j8⟩
 generalize zod ns (i:Int) (j:Int)=pz at *;go_wp2_with fail;refine(zbr _ _ _ _ (by omega)).mono ?_;rintro e w' ⟨rfl,hw'⟩;subst w';clear c y0 HMi TIi te LV CD CA x0 x1;obtain⟨x0,x1,x2,x3,x4,x5⟩:=KE.o _ A1.o;go_wp2_with fail
 go_region_held3 (fun w'=>w'.cell? ⟨w.heap.size,0,none⟩=some (.slice dW ws.length eW)/\w'.cell? ⟨w.heap.size,1,none⟩=some (.slice dP ps.length eP)/\w'.cell? ⟨w.heap.size,2,none⟩=some (.slice dS es.length eS)/\w'.cell? ⟨w.heap.size,3,none⟩=some (.slice dQ qs.length eQ)/\w'.cell? ⟨w.heap.size+1,0,none⟩=some (.slice (some ⟨bW,oW,none⟩) ns.length cW)/\w'.cell? ⟨bW,oW+i*11+3+j,none⟩=some (.I pz))
  (first | with_reducible exact KE.o _ A2.o | with_reducible exact KE.o _ A1.o | with_reducible exact KE.o _ A1.o.drew)
  (first
   | (go_at_call 130;refine(LV2.o _ (by first | with_reducible exact B1.o | with_reducible exact B1.o.drew)).mono ?_;rintro e w2 ⟨rfl,hb2⟩;have A2:=zaa (zab A1.o (zdx hb2) A1.o.size);have B2:=zaa (zab B1.o (zdx hb2) B1.o.size);clear hb2;obtain⟨r0,r1,r2,r3,r4,r5⟩:=KE.o _ A2.o))
 all_goals
  obtain rfl:=EL.o;go_wp2;go_ret2;exact⟨rfl,B2.o⟩
theorem zfp{ws:List Int}{ps:List St}{es:List Int}{qs:List Se}(h:dvB ws ps es qs=true):pmB ws ps=true/\zdk es qs=true/\dvN ws ps es qs=zbc (zbs ws ps) 16/\dvD ws ps es qs=zbh (zbs ws ps) 24/\zck (zbc (zbs ws ps) 16) (zbh (zbs ws ps) 24)=true:=by
 have q:=h;unfold dvB at q;rw[Bool.and_eq_true,Bool.and_eq_true]at q;obtain⟨⟨a,b⟩,r⟩:=q;unfold riB at r;rw[Bool.and_eq_true,Bool.and_eq_true]at r;exact⟨a,b,by unfold dvN;rw[if_pos h],by unfold dvD;rw[if_pos h],r.2.2⟩
theorem yawx(ws:List Int)(ps:List St)(es:List Int)(qs:List Se)(x:Ino)(k:Nat):(pgL ws ps es qs x k).length=k:=by simp[pgL]
end Go.Proofs.YtdiaiejmoocpmaaGreatDoor
