/- Several texts laid together: RdD, DtC, FqD. -/
import Derived.Test.YtlkmnpanddchdaaGreatDoorRdC
import Derived.Test.YtlkmnpanddchdaaGreatDoorZAW
import Derived.Test.YtlkmnpanddchdaaGreatDoorZAD
import Derived.Test.YtlkmnpanddchdaaGreatDoorZAS
import Derived.Test.YtlkmnpanddchdaaGreatDoorZAK
import Derived.Test.YtlkmnpanddchdaaGreatDoorZAI
import Derived.Test.YtlkmnpanddchdaaGreatDoorZAP
import Derived.Test.YtlkmnpanddchdaaGreatDoorZAJ
import Derived.Test.YtlkmnpanddchdaaGreatDoorZAO
import Derived.Deep.RegionHeld3
import Derived.Maps.Views
import Derived.Deep.LoopGhost
import Derived.Laws.OwnMore
import Derived.Lib.SplitLaws
import Derived.Lib.IndexBytes
import Derived.BigQuiet
import Derived.Sort.Walk0
import Derived.Laws.Cover1
import Derived.Deep.RegionLaw
import Derived.Test.YtlkmnpanddchdaaGreatDoorZAM
import Derived.Test.YtlkmnpanddchdaaGreatDoorZAV
namespace Go.Proofs.YtlkmnpanddchdaaGreatDoor
open Go.RowKit
theorem yaid {ws:List Int} {ps:List St} (h:pmB ws ps = false):riC ws ps = 1 ∧ riN ws ps = [] ∧ riD ws ps = []:=by
 have e:riC ws ps = 1:=by unfold riC; rw [h]; rfl
 exact ⟨e,by unfold riN; rw [e]; rfl,by unfold riD; rw [e]; rfl⟩
theorem yaap {ws:List Int} {ps:List St} (h:pmB ws ps = true) (q:riB (zcq ws ps) = false):riC ws ps = 3 ∧ riN ws ps = [] ∧ riD ws ps = []:=by
 have e:riC ws ps = 3:=by unfold riC; rw [h,q]; rfl
 exact ⟨e,by unfold riN; rw [e]; rfl,by unfold riD; rw [e]; rfl⟩
theorem yarp {ws:List Int} {ps:List St} (h:pmB ws ps = true) (q:riB (zcq ws ps) = true):riC ws ps = 0 ∧ riN ws ps = zbm (zcq ws ps) 16 ∧ riD ws ps = zbx (zcq ws ps) 24:=by
 have e:riC ws ps = 0:=by unfold riC; rw [h,q]; rfl
 exact ⟨e,by unfold riN; rw [if_pos e],by unfold riD; rw [if_pos e]⟩
theorem zdk (w:World) (lo hi:Nat):RowIm w lo hi (.agg #[.slice none 0 0,.slice none 0 0]) [] []:=⟨_,_,rfl,Row.nil _ _ _ _ _,Row.nil _ _ _ _ _⟩
theorem zut {ws:List Int} {ps:List St} (h:pmB ws ps = true) (n:Nat):∀ k (hk:k < (zbm (zcq ws ps) n).length),(zbm (zcq ws ps) n)[k].R:=by
 intro k hk
 have hm:(zbm (zcq ws ps) n)[k] ∈ (List.range n).map (zme (zcq ws ps)):=List.getElem_mem hk
 obtain ⟨j,_,e⟩:=List.mem_map.1 hm
 rw [← e]
 exact yasb h j
theorem zjq (ls:List Int) (n:Nat):∀ k (hk:k < (zbx ls n).length),(zbx ls n)[k].name.size ≤ maxLen:=by
 intro k hk
 have hm:(zbx ls n)[k] ∈ (List.range n).map (zqy ls):=List.getElem_mem hk
 obtain ⟨j,_,e⟩:=List.mem_map.1 hm
 rw [← e]
 exact yaff ls j
theorem zls {w:World} {lo hi lo' hi':Nat} {v:Value} {xs:List Ino} {ds:List Den} (h:RowIm w lo hi v xs ds) (h1:lo' ≤ lo) (h2:hi ≤ hi'):RowIm w lo' hi' v xs ds:=by
 obtain ⟨vI,vD,e,a,b⟩:=h
 exact ⟨vI,vD,e,a.wide h1 h2,b.wide h1 h2⟩
theorem zwk {w:World} {lo hi:Nat} {b1 b2 c1 c2 n1 n2:Nat} {xs:List Ino} {ds:List Den} {b:Nat} {cs:Array Value} {fr:Nat × Nat} (h:RowIm w lo hi (.agg #[.slice (some ⟨b1,0,none⟩) n1 c1,.slice (some ⟨b2,0,none⟩) n2 c2]) xs ds) (hb:w.heap[b]? = some (.cells cs 108 fr)) (v0 v1:Value):RowIm ((w.setCell ⟨b,0,none⟩ v0).setCell ⟨b,1,none⟩ v1) lo hi (.agg #[.slice (some ⟨b1,0,none⟩) n1 c1,.slice (some ⟨b2,0,none⟩) n2 c2]) xs ds:=by
 obtain ⟨vI,vD,e,h1,h2⟩:=h
 injection e with e
 obtain ⟨rfl,rfl⟩:vI = .slice (some ⟨b1,0,none⟩) n1 c1 ∧ vD = .slice (some ⟨b2,0,none⟩) n2 c2:=by
  have:=congrArg Array.toList e
  simp at this
  exact ⟨this.1.symm,this.2.symm⟩
 have T1:=zdl h1.1 hb zmb
 have T2:=zdl h2.1 hb zma
 exact ⟨_,_,rfl,⟨ownsRow_setCell_other (ownsRow_setCell_other h1.1 T1 _) T1 _,h1.2⟩,⟨ownsRow_setCell_other (ownsRow_setCell_other h2.1 T2 _) T2 _,h2.2⟩⟩
set_option maxRecDepth 100000 in
set_option maxHeartbeats 4000000 in
theorem zgl (v:Value) (ws:List Int) (ps:List St) (w:World) (h:RdPm w v ws ps) (hw:ws.length ≤ 1048576) (hp:ps.length ≤ 1048576) :
  Calls Tryz.prog 69 #[v] w fun e w' => ∃ v',e = .returned (.tuple #[v',.int .i64 (riC ws ps)]) ∧ RowIm w' w.heap.size w'.heap.size v' (riN ws ps) (riD ws ps) ∧ Below w.heap.size w w':=by
 have HR:=zaa h
 have LO:=zaa (fun w1 h => zdd v ws ps w1 h hw hp)
 have LR:=zaa (fun w1 h (q:pmB ws ps = true) => yabv v ws ps w1 h q)
 have LL:=zaa (fun w1 h (q:pmB ws ps = true) => yaqt v ws ps 0 w1 h q (by omega))
 obtain ⟨vW,vP,rfl,h1,h2⟩:=h
 obtain ⟨aW,cW,rfl,_,_⟩:=h1.shape
 obtain ⟨aP,cP,rfl,_,_⟩:=h2.shape
 clear h1 h2
 obtain ⟨W1,hW1⟩:∃ W1,W1 = (w.alloc (.cells #[.slice aW ws.length cW,.slice aP ps.length cP] 40)).alloc (.cells #[.slice none 0 0,.slice none 0 0] 108):=⟨_,rfl⟩
 have hz1:W1.heap.size = w.heap.size + 1 + 1:=by rw [hW1]; simp
 have CA:Hid (∀ w',Below W1.heap.size W1 w' → w'.cell? ⟨w.heap.size,0,none⟩ = some (.slice aW ws.length cW) ∧ w'.cell? ⟨w.heap.size,1,none⟩ = some (.slice aP ps.length cP)):=fun w' hb => by
  have:w'.heap[w.heap.size]? = some (.cells #[.slice aW ws.length cW,.slice aP ps.length cP] 40 (0,0)):=(hb.block _ (by omega)).trans (by rw [hW1]; exact zal (zag rfl))
  exact ⟨(zad this).1,(zad this).2.1⟩
 have CR:Hid (∀ w',Below W1.heap.size W1 w' → w'.heap[w.heap.size + 1]? = some (.cells #[.slice none 0 0,.slice none 0 0] 108 (0,0))):=fun w' hb => (hb.block _ (by omega)).trans (by
  rw [hW1]
  have:=zag (w:=w.alloc (.cells #[.slice aW ws.length cW,.slice aP ps.length cP] 40)) (o:=.cells #[.slice none 0 0,.slice none 0 0] 108) rfl
  rw [World.size_alloc] at this
  exact this)
 have BW:Hid (Below w.heap.size w W1):=by rw [hW1]; exact ((Below.refl _ _).alloc (Nat.le_refl _) _).alloc (by simp) _
 have hz0:w.heap.size + 1 < W1.heap.size:=by omega
 clear hz1
 obtain ⟨x0,x1⟩:=CA.out W1 (Below.refl _ _)
 cases c1:pmB ws ps with
 | false =>
  obtain ⟨E1,E2,E3⟩:=yaid c1
  rw [c1] at LO
  rw [E1,E2,E3]
  clear c1 E1 E2 E3 LR LL
  go_enter Tryz.func69,Tryz.ntmps69
  go_wp2_with fail
  rw [← hW1]
  clear hW1
  refine (LO.out _ (HR.out.below BW.out)).mono ?_
  rintro e w1 ⟨rfl,hb1⟩
  have B1:=zaa hb1
  clear x0 x1 hb1
  obtain ⟨x0,x1⟩:=CA.out w1 B1.out
  have CB:=zaa (CR.out _ B1.out)
  obtain ⟨p0,p1,p2,p3⟩:=zad CB.out
  have BR:Hid (Below w.heap.size w ((w1.setCell ⟨w.heap.size + 1,0,none⟩ (.slice none 0 0)).setCell ⟨w.heap.size + 1,1,none⟩ (.slice none 0 0))):=((zab BW.out B1.out BW.out.size).setCell (by simp only; omega) _).setCell (by simp only; omega) _
  go_wp2
  refine bodyPost_ret (v:=.tuple #[.agg #[.slice none 0 0,.slice none 0 0],.int .i64 1]) (by simp [results,Tryz.results69,go_sem,p0,p1]) rfl ?_
  exact ⟨_,rfl,zdk _ _ _,BR.out⟩
 | true =>
 have C1:=zaa c1
 rw [c1] at LO
 have LR2:=zaa (fun w1 (hb:Below W1.heap.size W1 w1) => LR.out w1 (HR.out.below (zab BW.out hb BW.out.size)) c1)
 have LL2:=zaa (fun w1 (hb:Below W1.heap.size W1 w1) => LL.out w1 (HR.out.below (zab BW.out hb BW.out.size)) c1)
 have NO:=zaa (fun q => yaap C1.out q)
 have YES:=zaa (fun q => yarp C1.out q)
 have RB:=zaa (show riB (zcq ws ps) = (wdI (zcq ws ps) 0 == 7 && (zez (zcq ws ps) 24 && zsq (zbm (zcq ws ps) 16) (zbx (zcq ws ps) 24))) from rfl)
 have LI:=zaa (fun v w1 h => zpg v (zbm (zcq ws ps) 16) (zbx (zcq ws ps) 24) w1 h (by rw [zbn]; omega) (by rw [zbh]; omega) (zut C1.out 16) (zjq _ 24))
 have NI:=zaa (zbn (zcq ws ps) 16)
 have ND:=zaa (zbh (zcq ws ps) 24)
 clear c1 LR LL
 generalize riC ws ps = rc at *
 generalize riN ws ps = rn at *
 generalize riD ws ps = rd at *
 generalize riB (zcq ws ps) = rb at *
 generalize wdI (zcq ws ps) 0 = w0 at *
 generalize zez (zcq ws ps) 24 = ag at *
 generalize zbm (zcq ws ps) 16 = XI at *
 generalize zbx (zcq ws ps) 24 = XD at *
 generalize zsq XI XD = ib at *
 cases ag with
 | false =>
  obtain ⟨rfl,rfl,rfl⟩:=NO.out (by rw [RB.out]; simp)
  clear NO YES RB LI
  go_enter Tryz.func69,Tryz.ntmps69
  go_wp2_with fail
  rw [← hW1]
  clear hW1
  refine (LO.out _ (HR.out.below BW.out)).mono ?_
  rintro e w1 ⟨rfl,hb1⟩
  have B1:=zaa hb1
  clear x0 x1 hb1
  obtain ⟨x0,x1⟩:=CA.out w1 B1.out
  go_wp2_with fail
  refine (LR2.out _ B1.out).mono ?_
  rintro e w2 ⟨⟨v2,rfl,_,hv2⟩,hb2⟩
  obtain rfl:=hv2 (by trivial)
  clear hv2
  have B2:=zaa (zkb B1.out hb2)
  have B3:Hid (Below W1.heap.size W1 (w2.alloc (.cells #[.slice none 0 0,.slice none 0 0] 108))):=zan B2.out _
  clear x0 x1 hb2
  obtain ⟨x0,x1⟩:=CA.out _ B3.out
  go_wp2_with fail
  obtain ⟨w3,hw3⟩:∃ w3,w3 = w2.alloc (.cells #[.slice none 0 0,.slice none 0 0] 108):=⟨_,rfl⟩
  rw [← hw3] at B3 x0 x1 ⊢
  clear hw3
  refine (LL2.out _ B3.out).mono ?_
  rintro e w4 ⟨rfl,hb4⟩
  have B4:=zaa (zkb B3.out hb4)
  clear x0 x1 hb4
  by_cases q:w0 = 7
  ·have q1:(w0 != 7) = false:=by rw [q]; rfl
   have CB:=zaa (CR.out _ B4.out)
   obtain ⟨p0,p1,p2,p3⟩:=zad CB.out
   have BR:Hid (Below w.heap.size w ((w4.setCell ⟨w.heap.size + 1,0,none⟩ (.slice none 0 0)).setCell ⟨w.heap.size + 1,1,none⟩ (.slice none 0 0))):=((zab BW.out B4.out BW.out.size).setCell (by simp only; omega) _).setCell (by simp only; omega) _
   go_wp2
   refine bodyPost_ret (v:=.tuple #[.agg #[.slice none 0 0,.slice none 0 0],.int .i64 3]) (by simp [results,Tryz.results69,go_sem,p0,p1]) rfl ?_
   exact ⟨_,rfl,zdk _ _ _,BR.out⟩
  ·have q1:(w0 != 7) = true:=by rw [bne_iff_ne]; exact q
   have CB:=zaa (CR.out _ B4.out)
   obtain ⟨p0,p1,p2,p3⟩:=zad CB.out
   have BR:Hid (Below w.heap.size w ((w4.setCell ⟨w.heap.size + 1,0,none⟩ (.slice none 0 0)).setCell ⟨w.heap.size + 1,1,none⟩ (.slice none 0 0))):=((zab BW.out B4.out BW.out.size).setCell (by simp only; omega) _).setCell (by simp only; omega) _
   go_wp2
   refine bodyPost_ret (v:=.tuple #[.agg #[.slice none 0 0,.slice none 0 0],.int .i64 3]) (by simp [results,Tryz.results69,go_sem,p0,p1]) rfl ?_
   exact ⟨_,rfl,zdk _ _ _,BR.out⟩
 | true =>
 by_cases q:w0 = 7
 case neg =>
  obtain ⟨rfl,rfl,rfl⟩:=NO.out (by rw [RB.out,show (w0 == 7) = false by rw [beq_eq_false_iff_ne]; exact q]; rfl)
  have q1:(w0 != 7) = true:=by rw [bne_iff_ne]; exact q
  clear NO YES RB LI q
  go_enter Tryz.func69,Tryz.ntmps69
  go_wp2_with fail
  rw [← hW1]
  clear hW1
  refine (LO.out _ (HR.out.below BW.out)).mono ?_
  rintro e w1 ⟨rfl,hb1⟩
  have B1:=zaa hb1
  clear x0 x1 hb1
  obtain ⟨x0,x1⟩:=CA.out w1 B1.out
  go_wp2_with fail
  refine (LR2.out _ B1.out).mono ?_
  rintro e w2 ⟨⟨v2,rfl,hv2,_⟩,hb2⟩
  obtain ⟨vI,vD,rfl,hI,hD⟩:=hv2 (by trivial)
  rcases hI.shape with ⟨_,e,_⟩ | ⟨b1,c1,rfl,_,_⟩
  ·have:=NI.out; omega
  rcases hD.shape with ⟨_,e,_⟩ | ⟨b2,c2,rfl,_,_⟩
  ·have:=ND.out; omega
  clear hv2 hI hD
  have B2:=zaa (zkb B1.out hb2)
  have B3:Hid (Below W1.heap.size W1 (w2.alloc (.cells #[.slice (some ⟨b1,0,none⟩) XI.length c1,.slice (some ⟨b2,0,none⟩) XD.length c2] 108))):=zan B2.out _
  clear x0 x1 hb2
  obtain ⟨x0,x1⟩:=CA.out _ B3.out
  go_wp2_with fail
  obtain ⟨w3,hw3⟩:∃ w3,w3 = w2.alloc (.cells #[.slice (some ⟨b1,0,none⟩) XI.length c1,.slice (some ⟨b2,0,none⟩) XD.length c2] 108):=⟨_,rfl⟩
  rw [← hw3] at B3 x0 x1 ⊢
  clear hw3
  refine (LL2.out _ B3.out).mono ?_
  rintro e w4 ⟨rfl,hb4⟩
  have B4:=zaa (zkb B3.out hb4)
  clear x0 x1 hb4
  have CB:=zaa (CR.out _ B4.out)
  obtain ⟨p0,p1,p2,p3⟩:=zad CB.out
  have BR:Hid (Below w.heap.size w ((w4.setCell ⟨w.heap.size + 1,0,none⟩ (.slice none 0 0)).setCell ⟨w.heap.size + 1,1,none⟩ (.slice none 0 0))):=((zab BW.out B4.out BW.out.size).setCell (by simp only; omega) _).setCell (by simp only; omega) _
  go_wp2
  refine bodyPost_ret (v:=.tuple #[.agg #[.slice none 0 0,.slice none 0 0],.int .i64 3]) (by simp [results,Tryz.results69,go_sem,p0,p1]) rfl ?_
  exact ⟨_,rfl,zdk _ _ _,BR.out⟩
 have q1:(w0 != 7) = false:=by rw [q]; rfl
 have RB2:Hid (rb = ib):=by unfold Hid; rw [RB.out,q]; rfl
 clear q RB
 cases ib with
 | false =>
  obtain ⟨rfl,rfl,rfl⟩:=NO.out RB2.out
  clear NO YES RB2
  go_enter Tryz.func69,Tryz.ntmps69
  go_wp2_with fail
  rw [← hW1]
  clear hW1
  refine (LO.out _ (HR.out.below BW.out)).mono ?_
  rintro e w1 ⟨rfl,hb1⟩
  have B1:=zaa hb1
  clear x0 x1 hb1
  obtain ⟨x0,x1⟩:=CA.out w1 B1.out
  go_wp2_with fail
  refine (LR2.out _ B1.out).mono ?_
  rintro e w2 ⟨⟨v2,rfl,hv2,_⟩,hb2⟩
  have RR:=zaa (hv2 (by trivial))
  obtain ⟨vI,vD,rfl,hI,hD⟩:=RR.out
  rcases hI.shape with ⟨_,e,_⟩ | ⟨b1,c1,rfl,_,_⟩
  ·have:=NI.out; omega
  rcases hD.shape with ⟨_,e,_⟩ | ⟨b2,c2,rfl,_,_⟩
  ·have:=ND.out; omega
  have hz12:W1.heap.size ≤ w1.heap.size:=B1.out.size
  have hz2:w1.heap.size ≤ w2.heap.size:=hb2.size
  clear hv2 hI hD
  have B2:=zaa (zkb B1.out hb2)
  have B3:Hid (Below W1.heap.size W1 (w2.alloc (.cells #[.slice (some ⟨b1,0,none⟩) XI.length c1,.slice (some ⟨b2,0,none⟩) XD.length c2] 108))):=zan B2.out _
  have BC:Hid (Below w2.heap.size w2 (w2.alloc (.cells #[.slice (some ⟨b1,0,none⟩) XI.length c1,.slice (some ⟨b2,0,none⟩) XD.length c2] 108))):=(Below.refl _ _).alloc (Nat.le_refl _) _
  have VM:Hid ((w2.alloc (.cells #[.slice (some ⟨b1,0,none⟩) XI.length c1,.slice (some ⟨b2,0,none⟩) XD.length c2] 108)).heap[w2.heap.size]? = some (.cells #[.slice (some ⟨b1,0,none⟩) XI.length c1,.slice (some ⟨b2,0,none⟩) XD.length c2] 108 (0,0))):=zag rfl
  clear x0 x1 hb2
  obtain ⟨x0,x1⟩:=CA.out _ B3.out
  go_wp2_with fail
  obtain ⟨w3,hw3⟩:∃ w3,w3 = w2.alloc (.cells #[.slice (some ⟨b1,0,none⟩) XI.length c1,.slice (some ⟨b2,0,none⟩) XD.length c2] 108):=⟨_,rfl⟩
  rw [← hw3] at B3 BC VM x0 x1 ⊢
  have hz3:w2.heap.size < w3.heap.size:=(Array.getElem?_eq_some_iff.1 VM.out).1
  clear hw3
  refine (LL2.out _ B3.out).mono ?_
  rintro e w4 ⟨rfl,hb4⟩
  have B4:=zaa (zkb B3.out hb4)
  have BD:=zaa (zkb BC.out hb4)
  have VM4:=zaa ((hb4.block _ hz3).trans VM.out)
  have R4:=zaa (RR.out.below BD.out (Nat.le_refl _))
  have hz4:w3.heap.size ≤ w4.heap.size:=hb4.size
  clear x0 x1 hb4 VM RR BC
  obtain ⟨y0,y1,_,_⟩:=zad VM4.out
  go_wp2_with fail
  refine (LI.out _ _ R4.out.rd).mono ?_
  rintro e w5 ⟨rfl,hb5⟩
  have B5:=zaa (zkb B4.out hb5)
  have VM5:=zaa ((hb5.block _ (by omega)).trans VM4.out)
  have R5:=zaa (R4.out.below hb5 (by omega))
  have hz5:w4.heap.size ≤ w5.heap.size:=hb5.size
  clear y0 y1 hb5 VM4 R4
  have CB:=zaa (CR.out _ B5.out)
  obtain ⟨p0,p1,p2,p3⟩:=zad CB.out
  have BR:Hid (Below w.heap.size w ((w5.setCell ⟨w.heap.size + 1,0,none⟩ (.slice none 0 0)).setCell ⟨w.heap.size + 1,1,none⟩ (.slice none 0 0))):=((zab BW.out B5.out BW.out.size).setCell (by simp only; omega) _).setCell (by simp only; omega) _
  go_wp2
  refine bodyPost_ret (v:=.tuple #[.agg #[.slice none 0 0,.slice none 0 0],.int .i64 3]) (by simp [results,Tryz.results69,go_sem,p0,p1]) rfl ?_
  exact ⟨_,rfl,zdk _ _ _,BR.out⟩
 | true =>
  obtain ⟨rfl,rfl,rfl⟩:=YES.out RB2.out
  clear NO YES RB2
  go_enter Tryz.func69,Tryz.ntmps69
  go_wp2_with fail
  rw [← hW1]
  clear hW1
  refine (LO.out _ (HR.out.below BW.out)).mono ?_
  rintro e w1 ⟨rfl,hb1⟩
  have B1:=zaa hb1
  clear x0 x1 hb1
  obtain ⟨x0,x1⟩:=CA.out w1 B1.out
  go_wp2_with fail
  refine (LR2.out _ B1.out).mono ?_
  rintro e w2 ⟨⟨v2,rfl,hv2,_⟩,hb2⟩
  have RR:=zaa (hv2 (by trivial))
  obtain ⟨vI,vD,rfl,hI,hD⟩:=RR.out
  rcases hI.shape with ⟨_,e,_⟩ | ⟨b1,c1,rfl,_,_⟩
  ·have:=NI.out; omega
  rcases hD.shape with ⟨_,e,_⟩ | ⟨b2,c2,rfl,_,_⟩
  ·have:=ND.out; omega
  have hz12:W1.heap.size ≤ w1.heap.size:=B1.out.size
  have hz2:w1.heap.size ≤ w2.heap.size:=hb2.size
  clear hv2 hI hD
  have B2:=zaa (zkb B1.out hb2)
  have B3:Hid (Below W1.heap.size W1 (w2.alloc (.cells #[.slice (some ⟨b1,0,none⟩) rn.length c1,.slice (some ⟨b2,0,none⟩) rd.length c2] 108))):=zan B2.out _
  have BC:Hid (Below w2.heap.size w2 (w2.alloc (.cells #[.slice (some ⟨b1,0,none⟩) rn.length c1,.slice (some ⟨b2,0,none⟩) rd.length c2] 108))):=(Below.refl _ _).alloc (Nat.le_refl _) _
  have VM:Hid ((w2.alloc (.cells #[.slice (some ⟨b1,0,none⟩) rn.length c1,.slice (some ⟨b2,0,none⟩) rd.length c2] 108)).heap[w2.heap.size]? = some (.cells #[.slice (some ⟨b1,0,none⟩) rn.length c1,.slice (some ⟨b2,0,none⟩) rd.length c2] 108 (0,0))):=zag rfl
  clear x0 x1 hb2
  obtain ⟨x0,x1⟩:=CA.out _ B3.out
  go_wp2_with fail
  obtain ⟨w3,hw3⟩:∃ w3,w3 = w2.alloc (.cells #[.slice (some ⟨b1,0,none⟩) rn.length c1,.slice (some ⟨b2,0,none⟩) rd.length c2] 108):=⟨_,rfl⟩
  rw [← hw3] at B3 BC VM x0 x1 ⊢
  have hz3:w2.heap.size < w3.heap.size:=(Array.getElem?_eq_some_iff.1 VM.out).1
  clear hw3
  refine (LL2.out _ B3.out).mono ?_
  rintro e w4 ⟨rfl,hb4⟩
  have B4:=zaa (zkb B3.out hb4)
  have BD:=zaa (zkb BC.out hb4)
  have VM4:=zaa ((hb4.block _ hz3).trans VM.out)
  have R4:=zaa (RR.out.below BD.out (Nat.le_refl _))
  have hz4:w3.heap.size ≤ w4.heap.size:=hb4.size
  clear x0 x1 hb4 VM RR BC
  obtain ⟨y0,y1,_,_⟩:=zad VM4.out
  go_wp2_with fail
  refine (LI.out _ _ R4.out.rd).mono ?_
  rintro e w5 ⟨rfl,hb5⟩
  have B5:=zaa (zkb B4.out hb5)
  have VM5:=zaa ((hb5.block _ (by omega)).trans VM4.out)
  have R5:=zaa (R4.out.below hb5 (by omega))
  have hz5:w4.heap.size ≤ w5.heap.size:=hb5.size
  clear y0 y1 hb5 VM4 R4
  obtain ⟨y0,y1,_,_⟩:=zad VM5.out
  have CB:=zaa (CR.out _ B5.out)
  obtain ⟨p0,p1,p2,p3⟩:=zad CB.out
  have BR:Hid (Below w.heap.size w ((w5.setCell ⟨w.heap.size + 1,0,none⟩ (.slice (some ⟨b1,0,none⟩) rn.length c1)).setCell ⟨w.heap.size + 1,1,none⟩ (.slice (some ⟨b2,0,none⟩) rd.length c2))):=((zab BW.out B5.out BW.out.size).setCell (by simp only; omega) _).setCell (by simp only; omega) _
  have RF:=zaa (zls (zwk R5.out CB.out (.slice (some ⟨b1,0,none⟩) rn.length c1) (.slice (some ⟨b2,0,none⟩) rd.length c2)) (lo':=w.heap.size) (hi':=((w5.setCell ⟨w.heap.size + 1,0,none⟩ (.slice (some ⟨b1,0,none⟩) rn.length c1)).setCell ⟨w.heap.size + 1,1,none⟩ (.slice (some ⟨b2,0,none⟩) rd.length c2)).heap.size) (by have:=BW.out.size; omega) (by simp; omega))
  clear CB R5 VM5
  go_wp2
  refine bodyPost_ret (v:=.tuple #[.agg #[.slice (some ⟨b1,0,none⟩) rn.length c1,.slice (some ⟨b2,0,none⟩) rd.length c2],.int .i64 0]) (by simp [results,Tryz.results69,go_sem,p0,p1]) rfl ?_
  exact ⟨_,rfl,RF.out,BR.out⟩
def dvN (ws:List Int) (ps:List St) (es:List Int) (qs:List Se):List Ino:=if dvB ws ps es qs = true then zbm (zcq ws ps) 16 else []
def dvD (ws:List Int) (ps:List St) (es:List Int) (qs:List Se):List Den:=if dvB ws ps es qs = true then zbx (zcq ws ps) 24 else []
theorem yarh {ws:List Int} {ps:List St} {es:List Int} {qs:List Se} (h:(pmB ws ps && zbp es qs) = false):dvB ws ps es qs = false ∧ dvN ws ps es qs = [] ∧ dvD ws ps es qs = []:=by
 have e:dvB ws ps es qs = false:=by unfold dvB; rw [h]; rfl
 exact ⟨e,by unfold dvN; rw [e]; rfl,by unfold dvD; rw [e]; rfl⟩
theorem yajv {ws:List Int} {ps:List St} {es:List Int} {qs:List Se} (h:(pmB ws ps && zbp es qs) = true):dvB ws ps es qs = (riC ws ps == 0) ∧ dvN ws ps es qs = riN ws ps ∧ dvD ws ps es qs = riD ws ps:=by
 have p:pmB ws ps = true:=by rw [Bool.and_eq_true] at h; exact h.1
 have e:dvB ws ps es qs = riB (zcq ws ps):=by unfold dvB; rw [h]; rfl
 cases q:riB (zcq ws ps) with
 | false =>
  obtain ⟨a,b,c⟩:=yaap p q
  rw [q] at e
  exact ⟨by rw [e,a]; rfl,by unfold dvN; rw [e,b]; rfl,by unfold dvD; rw [e,c]; rfl⟩
 | true =>
  obtain ⟨a,b,c⟩:=yarp p q
  rw [q] at e
  exact ⟨by rw [e,a]; rfl,by unfold dvN; rw [e,b]; rfl,by unfold dvD; rw [e,c]; rfl⟩
theorem yalo {w:World} {lo hi:Nat} {vI vD:Value} {xs:List Ino} {ds:List Den} {b:Nat} {cs:Array Value} {fr:Nat × Nat} (h1:Row w 197 11 lo hi vI xs.length (inos xs)) (h2:Row w 199 3 lo hi vD ds.length (zhl ds)) (hb:w.heap[b]? = some (.cells cs 108 fr)) (v0 v1:Value):RowIm ((w.setCell ⟨b,0,none⟩ v0).setCell ⟨b,1,none⟩ v1) lo hi (.agg #[vI,vD]) xs ds:=by
 have T1:=zdl h1.1 hb zmb
 have T2:=zdl h2.1 hb zma
 exact ⟨_,_,rfl,⟨ownsRow_setCell_other (ownsRow_setCell_other h1.1 T1 _) T1 _,h1.2⟩,⟨ownsRow_setCell_other (ownsRow_setCell_other h2.1 T2 _) T2 _,h2.2⟩⟩
theorem yajr {w:World} {aW aP aS aQ:Option Addr} {cW cP cS cQ:Nat} {ws:List Int} {ps:List St} {es:List Int} {qs:List Se} (h:RdDev w (.agg #[.slice aW ws.length cW,.slice aP ps.length cP,.slice aS es.length cS,.slice aQ qs.length cQ]) ws ps es qs):RdPm w (.agg #[.slice aW ws.length cW,.slice aP ps.length cP]) ws ps:=by
 obtain ⟨_,_,_,_,e,p1,_⟩:=h
 cases e
 exact p1
def noA (cd vl:Int) (nm:List ByteArray):Bool:=decide (cd = 0) && (decide (vl = 0) && decide (nm.length = 0))
def zrq (ws:List Int) (ps:List St) (es:List Int) (qs:List Se):Bool:=dvB ws ps es qs && (decide (ps.length = 0) && (decide (qs.length = 0) && decide (ldW ws ps 8 = 0)))
def todB (ps:List St) (qs:List Se) (td:List Mi):Bool:=decide (td.length ≤ 200) && (td.all miB && (decide (ps.length + td.length ≤ 400) && decide (qs.length + td.length ≤ 400)))
def fsB (ws:List Int) (ps:List St) (es:List Int) (qs:List Se) (hs:List Int) (td:List Mi) (cd vl:Int) (nm:List ByteArray) (fr:Bool):Bool:=(pmB ws ps && zbp es qs) && (zju hs && (todB ps qs td && ((fr || noA cd vl nm) && (decide (0 < td.length) || zrq ws ps es qs))))
set_option maxRecDepth 100000 in
set_option maxHeartbeats 8000000 in
theorem zmx (v:Value) (ws:List Int) (ps:List St) (es:List Int) (qs:List Se) (hs:List Int) (td:List Mi) (cd vl:Int) (nm:List ByteArray) (fr:Bool) (w:World) (h:RdF w v ws ps es qs hs td cd vl nm fr) (hws:ws.length ≤ 1048576) (hps:ps.length ≤ 1048576) (hes:es.length ≤ 1048576) (hqs:qs.length ≤ 1048576) (hhs:hs.length ≤ 1048576) (htd:td.length ≤ 1048576) (_hnm:nm.length ≤ 1048576) :
  Calls Tryz.prog 28 #[v] w fun e w' => e = .returned (.bool (fsB ws ps es qs hs td cd vl nm fr)) ∧ Below w.heap.size w w':=by
 obtain ⟨aW,cW,aP,cP,aS,cS,aQ,cQ,aH,cH,aT,cT,aN,cN,rfl,d1,h1,t1,n1⟩:=h
 obtain ⟨D,eD⟩:∃ D,D = (pmB ws ps && zbp es qs):=⟨_,rfl⟩
 obtain ⟨H,eH⟩:∃ H,H = zju hs:=⟨_,rfl⟩
 obtain ⟨rc,erc⟩:∃ rc,rc = riC ws ps:=⟨_,rfl⟩
 obtain ⟨jc,ejc⟩:∃ jc,jc = ldW ws ps 8:=⟨_,rfl⟩
 have LD:Hid (∀ w1,Below w.heap.size w w1 → Calls Tryz.prog 66 #[.agg #[.slice aW ws.length cW,.slice aP ps.length cP,.slice aS es.length cS,.slice aQ qs.length cQ]] w1 fun e w' => e = .returned (.bool D) ∧ Below w1.heap.size w1 w'):=fun w1 hb => by rw [eD]; exact zgh _ ws ps es qs w1 (d1.below hb) hws hps hes hqs
 have LH:Hid (∀ w1,Below w.heap.size w w1 → Calls Tryz.prog 67 #[.slice aH hs.length cH] w1 fun e w' => e = .returned (.bool H) ∧ w' = w1):=fun w1 hb => by rw [eH]; exact zrl _ hs w1 (Rd.below h1 hb) hhs
 have LR:Hid (∀ w1,Below w.heap.size w w1 → Calls Tryz.prog 69 #[.agg #[.slice aW ws.length cW,.slice aP ps.length cP]] w1 fun e w' => ∃ a b c d f g,e = .returned (.tuple #[.agg #[.slice a b c,.slice d f g],.int .i64 rc]) ∧ Below w1.heap.size w1 w'):=fun w1 hb => by
  have p1:=yajr (d1.below hb)
  rw [erc]
  refine (zgl _ ws ps w1 p1 hws hps).mono ?_
  rintro e w2 ⟨v2,rfl,hr,hb2⟩
  obtain ⟨vA,vB,rfl,⟨-,a,c,rfl,-⟩,⟨-,d,g,rfl,-⟩⟩:=hr.rd
  exact ⟨a,_,c,d,_,g,rfl,hb2⟩
 have LJ:Hid (D = true → ∀ w1,Below w.heap.size w w1 → Calls Tryz.prog 70 #[.agg #[.slice aW ws.length cW,.slice aP ps.length cP]] w1 fun e w' => e = .returned (.int .i64 jc) ∧ Below w1.heap.size w1 w'):=fun hD w1 hb => by
  have p1:=yajr (d1.below hb)
  rw [ejc]
  rw [eD] at hD
  simp only [Bool.and_eq_true] at hD
  exact zht _ ws ps w1 p1 hws hps (by rw [zyd hD.1]; decide)
 have RT:=zaa t1
 have FB:Hid (fsB ws ps es qs hs td cd vl nm fr = (D && (H && (todB ps qs td && ((fr || noA cd vl nm) && (decide (0 < td.length) || (decide (rc = 0) && (decide (ps.length = 0) && (decide (qs.length = 0) && decide (jc = 0)))))))))):=by
  unfold fsB zrq
  rw [← eD,← eH,← ejc]
  cases hD:D with
  | false => rfl
  | true =>
   have:=(yajv (eD.symm.trans hD)).1
   rw [this,erc]
   rfl
 generalize fsB ws ps es qs hs td cd vl nm fr = r at *
 clear eD eH erc ejc d1 h1 t1 n1
 obtain ⟨V,hV⟩:∃ V,V = w.alloc (.cells #[.slice aW ws.length cW,.slice aP ps.length cP,.slice aS es.length cS,.slice aQ qs.length cQ,.slice aH hs.length cH,.slice aT td.length cT,.int .i64 cd,.int .i64 vl,.slice aN nm.length cN,.bool fr] 51):=⟨_,rfl⟩
 have BV:Hid (Below w.heap.size w V):=by rw [hV]; exact (Below.refl _ _).alloc (Nat.le_refl _) _
 have XV:Hid (V.heap[w.heap.size]? = some (.cells #[.slice aW ws.length cW,.slice aP ps.length cP,.slice aS es.length cS,.slice aQ qs.length cQ,.slice aH hs.length cH,.slice aT td.length cT,.int .i64 cd,.int .i64 vl,.slice aN nm.length cN,.bool fr] 51 (0,0))):=by rw [hV]; exact zag rfl
 have zV:w.heap.size < V.heap.size:=zah XV.out
 go_enter Tryz.func28,Tryz.ntmps28
 go_upto_region 1 with fail
 rw [← hV]
 clear hV
 obtain ⟨x0,x1,x2,x3⟩:=tenD XV.out
 go_wp2_with fail
 refine (LD.out V BV.out).mono ?_
 rintro e w1 ⟨rfl,hb1⟩
 have B1:=zaa (zab BV.out hb1 BV.out.size)
 have X1:=zaa (zac XV.out hb1 zV)
 have z1:w.heap.size < w1.heap.size:=Nat.lt_of_lt_of_le zV hb1.size
 clear hb1 x0 x1 x2 x3 LD BV XV
 cases D with
 | false =>
  obtain rfl:=FB.out
  clear FB LH LR LJ RT X1
  go_wp2
  go_ret
  exact ⟨rfl,B1.out⟩
 | true =>
 have x4:=tenH X1.out
 go_wp2_with fail
 refine (LH.out w1 B1.out).mono ?_
 rintro e w' ⟨rfl,hw'⟩
 subst w'
 clear LH x4
 cases H with
 | false =>
  obtain rfl:=FB.out
  clear FB LR LJ RT X1
  go_wp2
  go_ret
  exact ⟨rfl,B1.out⟩
 | true =>
 have x5:=tenT X1.out
 by_cases cL:200 < td.length
 ·have q:todB ps qs td = false:=by unfold todB; rw [decide_eq_false (by omega)]; rfl
  rw [q] at FB
  obtain rfl:=FB.out
  clear FB LR LJ RT X1 q
  have cL':(200:Int) < (td.length:Int):=by omega
  go_wp2
  go_ret
  exact ⟨rfl,B1.out⟩
 have hl:td.length ≤ 200:=by omega
 have cL':¬ (200:Int) < (td.length:Int):=by omega
 clear cL
 go_wp2_with fail
 go_loopw [3] (fun i wq => ∃ k:Nat,k ≤ td.length ∧ i = .int .i64 k ∧ Hid (∀ j (hj:j < td.length),j < k → miB td[j] = true) ∧ Hid (Below w.heap.size w wq) ∧ Hid (wq.heap[w.heap.size]? = some (.cells #[.slice aW ws.length cW,.slice aP ps.length cP,.slice aS es.length cS,.slice aQ qs.length cQ,.slice aH hs.length cH,.slice aT td.length cT,.int .i64 cd,.int .i64 vl,.slice aN nm.length cN,.bool fr] 51 (0,0))) ∧ w.heap.size < wq.heap.size) (fun i _ => td.length - (intOf i).toNat)
 case atStart => exact ⟨0,by omega,rfl,fun j _ h => absurd h (by omega),B1,X1,z1⟩
 case round =>
  obtain ⟨k,hk,rfl,G,B,X,z⟩:=hrel
  clear B1 X1 x5 z1
  have x5:=tenT X.out
  by_cases hlt:k < td.length
  ·have hlt':(k:Int) < (td.length:Int):=by omega
   have hge:(0:Int) ≤ (k:Int):=by omega
   obtain ⟨-,ao,cap,e,-,hc⟩:=Rd.below RT.out B.out
   cases e
   obtain ⟨b,o,rfl,hbl,hcl⟩:=hc (by omega)
   have c0:=(hcl (k * 3) (by omega)).trans (zps td k hlt)
   have c1:=(hcl (k * 3 + 1) (by omega)).trans (zpm td k hlt)
   have c2:=(hcl (k * 3 + 2) (by omega)).trans (zpj td k hlt)
   rw [← Nat.add_assoc] at c1 c2
   have LM:=zaa (fun w1 => zyl td[k] w1)
   obtain ⟨mb,emb⟩:∃ mb,mb = miB td[k]:=⟨_,rfl⟩
   rw [← emb] at LM
   have AL:Hid (mb = false → todB ps qs td = false):=fun q => by
    unfold todB
    have:td.all miB = false:=by
     apply Bool.eq_false_iff.2
     intro h
     have:=List.all_eq_true.1 h td[k] (List.getElem_mem hlt)
     rw [← emb,q] at this
     cases this
    rw [this]
    simp
   have GG:Hid (mb = true → ∀ j (hj:j < td.length),j < k + 1 → miB td[j] = true):=fun q j hj hjk => by
    by_cases e:j = k
    ·subst e; rw [← emb]; exact q
    ·exact G.out j hj (by omega)
   rw [show Mi.v td[k] = .agg #[.int .i64 td[k].kind,.int .i64 td[k].at_,.int .i64 td[k].val] from rfl] at LM
   generalize td[k] = m at *
   clear hc hcl G emb
   go_wp2_with fail
   refine (LM.out wr).mono ?_
   rintro e w2 ⟨rfl,hb2⟩
   have B2:=zaa (zab B.out hb2 B.out.size)
   have X2:=zaa (zac X.out hb2 z)
   have z2:w.heap.size < w2.heap.size:=Nat.lt_of_lt_of_le z hb2.size
   clear hb2 c0 c1 c2 x5 B X LM
   cases mb with
   | false =>
    have q:=AL.out (by simp)
    rw [q] at FB
    obtain rfl:=FB.out
    clear FB LR LJ RT X2 q
    go_wp2
    go_ret
    exact ⟨rfl,B2.out⟩
   | true =>
    go_wp2
    go_roundw
    case rel => exact ⟨k + 1,by omega,by go_num,GG.out (by simp),B2,X2,z2⟩
    case measure => simp [intOf]; omega
  ·have hlt':¬ (k:Int) < (td.length:Int):=by omega
   have TA:td.all miB = true:=List.all_eq_true.2 (fun m hm => by
    obtain ⟨j,hj,rfl⟩:=List.getElem_of_mem hm
    exact G.out j hj (by omega))
   have TB:Hid (todB ps qs td = (decide (ps.length + td.length ≤ 400) && decide (qs.length + td.length ≤ 400))):=by unfold todB; rw [TA,decide_eq_true hl]; rfl
   rw [TB.out] at FB
   clear TB TA G RT
   simp only [Bool.true_and] at FB
   go_upto_region 8 with fail
   obtain ⟨x6,x7,x8⟩:=tenA X.out
   have x9:=tenB X.out
   have PX:Hid (¬ fr = true → ¬ (cd = 0 ∧ vl = 0 ∧ nm.length = 0) → r = false):=fun q1 q2 => by
    rw [FB.out]
    have:(fr || noA cd vl nm) = false:=by
     unfold noA
     simp only [Bool.or_eq_false_iff]
     refine ⟨by simpa using q1,?_⟩
     apply Bool.eq_false_iff.2
     intro h
     simp only [Bool.and_eq_true,decide_eq_true_eq] at h
     exact q2 ⟨h.1,h.2.1,h.2.2⟩
    rw [this]
    simp
   have PY:Hid ((fr = true ∨ (cd = 0 ∧ vl = 0 ∧ nm.length = 0)) → r = ((decide (ps.length + td.length ≤ 400) && decide (qs.length + td.length ≤ 400)) && (decide (0 < td.length) || (decide (rc = 0) && (decide (ps.length = 0) && (decide (qs.length = 0) && decide (jc = 0))))))):=fun q => by
    rw [FB.out]
    have:(fr || noA cd vl nm) = true:=by
     unfold noA
     rcases q with q | ⟨q1,q2,q3⟩
     ·rw [q]; rfl
     ·rw [q1,q2,q3]; simp
    rw [this,Bool.true_and]
   clear FB
   have REST:Hid (r = r):=rfl
   by_cases cF:fr = true
   ·subst cF
    have FB:=zaa (PY.out (.inl rfl))
    clear PX PY
    go_upto_region 10 with fail
    clear x6 x7 x8 x9
    obtain ⟨x0,x1,x2,x3⟩:=tenD X.out
    by_cases e1:400 < ps.length + td.length
    ·have q:r = false:=by rw [FB.out,decide_eq_false (p:=ps.length + td.length ≤ 400) (by omega)]; rfl
     subst q
     clear FB LR LJ X
     have e1':(400:Int) < (ps.length:Int) + (td.length:Int):=by omega
     go_wp2
     go_ret
     exact ⟨rfl,B.out⟩
    have e1':¬ (400:Int) < (ps.length:Int) + (td.length:Int):=by omega
    by_cases e2:400 < qs.length + td.length
    ·have q:r = false:=by rw [FB.out,decide_eq_false (p:=qs.length + td.length ≤ 400) (by omega)]; simp
     subst q
     clear FB LR LJ X
     have e2':(400:Int) < (qs.length:Int) + (td.length:Int):=by omega
     go_wp2
     go_ret
     exact ⟨rfl,B.out⟩
    have e2':¬ (400:Int) < (qs.length:Int) + (td.length:Int):=by omega
    rw [decide_eq_true (p:=ps.length + td.length ≤ 400) (by omega),decide_eq_true (p:=qs.length + td.length ≤ 400) (by omega)] at FB
    simp only [Bool.true_and] at FB
    by_cases e3:0 < td.length
    ·have q:r = true:=by rw [FB.out,decide_eq_true e3]; rfl
     subst q
     clear FB LR LJ X
     have e3':(0:Int) < (td.length:Int):=by omega
     go_wp2
     go_ret
     exact ⟨rfl,B.out⟩
    have e3':¬ (0:Int) < (td.length:Int):=by omega
    rw [decide_eq_false e3] at FB
    simp only [Bool.false_or] at FB
    go_wp2_with fail
    refine (LR.out wr B.out).mono ?_
    rintro e w2 ⟨ia,ib,ic,id,ie,ig,rfl,hb2⟩
    have B2:=zaa (zab B.out hb2 B.out.size)
    have X2:=zaa (zac X.out hb2 z)
    have z2:w.heap.size < w2.heap.size:=Nat.lt_of_lt_of_le z hb2.size
    clear hb2 x0 x1 x2 x3 x5 B X LR
    obtain ⟨w3,hw3⟩:∃ w3,w3 = w2.alloc (.cells #[.slice ia ib ic,.slice id ie ig] 108):=⟨_,rfl⟩
    have hb3:Below w2.heap.size w2 w3:=by rw [hw3]; exact (Below.refl _ _).alloc (Nat.le_refl _) _
    have B3:=zaa (zab B2.out hb3 B2.out.size)
    have X3:=zaa (zac X2.out hb3 z2)
    go_upto_region 15 with fail
    rw [← hw3]
    clear hw3 hb3 B2 X2
    obtain ⟨x0,x1,x2,x3⟩:=tenD X3.out
    by_cases f1:rc = 0
    ·subst f1
     by_cases f2:ps.length = 0
     ·have f2':(ps.length:Int) = 0:=by omega
      by_cases f3:qs.length = 0
      ·have f3':(qs.length:Int) = 0:=by omega
       have q:r = decide (jc = 0):=by rw [FB.out,decide_eq_true f2,decide_eq_true f3]; rfl
       clear FB f2 f3
       go_wp2_with fail
       refine (LJ.out (by simp) w3 B3.out).mono ?_
       rintro e w4 ⟨rfl,hb4⟩
       have B4:=zaa (zab B3.out hb4 B3.out.size)
       clear hb4 B3 X3 x0 x1 x2 x3 LJ
       subst q
       go_wp2
       go_ret
       exact ⟨rfl,B4.out⟩
      ·have q:r = false:=by rw [FB.out,decide_eq_false f3]; simp
       subst q
       have f3':¬ (qs.length:Int) = 0:=by omega
       clear FB LJ X3
       go_wp2
       go_ret
       exact ⟨rfl,B3.out⟩
     ·have q:r = false:=by rw [FB.out,decide_eq_false f2]; simp
      subst q
      have f2':¬ (ps.length:Int) = 0:=by omega
      clear FB LJ X3
      go_wp2
      go_ret
      exact ⟨rfl,B3.out⟩
    ·have q:r = false:=by rw [FB.out,decide_eq_false f1]; rfl
     subst q
     clear FB LJ X3
     go_wp2
     go_ret
     exact ⟨rfl,B3.out⟩
   have cF':fr = false:=by simpa using cF
   by_cases a1:cd = 0
   ·by_cases a2:vl = 0
    ·by_cases a3:nm.length = 0
     ·have FB:=zaa (PY.out (.inr ⟨a1,a2,a3⟩))
      clear PX PY
      subst a1 a2 cF'
      have a3':(nm.length:Int) = 0:=by omega
      go_upto_region 10 with fail
      clear x6 x7 x8 x9 a3 a3' REST
      obtain ⟨x0,x1,x2,x3⟩:=tenD X.out
      by_cases e1:400 < ps.length + td.length
      ·have q:r = false:=by rw [FB.out,decide_eq_false (p:=ps.length + td.length ≤ 400) (by omega)]; rfl
       subst q
       clear FB LR LJ X
       have e1':(400:Int) < (ps.length:Int) + (td.length:Int):=by omega
       go_wp2
       go_ret
       exact ⟨rfl,B.out⟩
      have e1':¬ (400:Int) < (ps.length:Int) + (td.length:Int):=by omega
      by_cases e2:400 < qs.length + td.length
      ·have q:r = false:=by rw [FB.out,decide_eq_false (p:=qs.length + td.length ≤ 400) (by omega)]; simp
       subst q
       clear FB LR LJ X
       have e2':(400:Int) < (qs.length:Int) + (td.length:Int):=by omega
       go_wp2
       go_ret
       exact ⟨rfl,B.out⟩
      have e2':¬ (400:Int) < (qs.length:Int) + (td.length:Int):=by omega
      rw [decide_eq_true (p:=ps.length + td.length ≤ 400) (by omega),decide_eq_true (p:=qs.length + td.length ≤ 400) (by omega)] at FB
      simp only [Bool.true_and] at FB
      by_cases e3:0 < td.length
      ·have q:r = true:=by rw [FB.out,decide_eq_true e3]; rfl
       subst q
       clear FB LR LJ X
       have e3':(0:Int) < (td.length:Int):=by omega
       go_wp2
       go_ret
       exact ⟨rfl,B.out⟩
      have e3':¬ (0:Int) < (td.length:Int):=by omega
      rw [decide_eq_false e3] at FB
      simp only [Bool.false_or] at FB
      go_wp2_with fail
      refine (LR.out wr B.out).mono ?_
      rintro e w2 ⟨ia,ib,ic,id,ie,ig,rfl,hb2⟩
      have B2:=zaa (zab B.out hb2 B.out.size)
      have X2:=zaa (zac X.out hb2 z)
      have z2:w.heap.size < w2.heap.size:=Nat.lt_of_lt_of_le z hb2.size
      clear hb2 x0 x1 x2 x3 x5 B X LR
      obtain ⟨w3,hw3⟩:∃ w3,w3 = w2.alloc (.cells #[.slice ia ib ic,.slice id ie ig] 108):=⟨_,rfl⟩
      have hb3:Below w2.heap.size w2 w3:=by rw [hw3]; exact (Below.refl _ _).alloc (Nat.le_refl _) _
      have B3:=zaa (zab B2.out hb3 B2.out.size)
      have X3:=zaa (zac X2.out hb3 z2)
      go_upto_region 15 with fail
      rw [← hw3]
      clear hw3 hb3 B2 X2
      obtain ⟨x0,x1,x2,x3⟩:=tenD X3.out
      by_cases f1:rc = 0
      ·subst f1
       by_cases f2:ps.length = 0
       ·have f2':(ps.length:Int) = 0:=by omega
        by_cases f3:qs.length = 0
        ·have f3':(qs.length:Int) = 0:=by omega
         have q:r = decide (jc = 0):=by rw [FB.out,decide_eq_true f2,decide_eq_true f3]; rfl
         clear FB f2 f3
         go_wp2_with fail
         refine (LJ.out (by simp) w3 B3.out).mono ?_
         rintro e w4 ⟨rfl,hb4⟩
         have B4:=zaa (zab B3.out hb4 B3.out.size)
         clear hb4 B3 X3 x0 x1 x2 x3 LJ
         subst q
         go_wp2
         go_ret
         exact ⟨rfl,B4.out⟩
        ·have q:r = false:=by rw [FB.out,decide_eq_false f3]; simp
         subst q
         have f3':¬ (qs.length:Int) = 0:=by omega
         clear FB LJ X3
         go_wp2
         go_ret
         exact ⟨rfl,B3.out⟩
       ·have q:r = false:=by rw [FB.out,decide_eq_false f2]; simp
        subst q
        have f2':¬ (ps.length:Int) = 0:=by omega
        clear FB LJ X3
        go_wp2
        go_ret
        exact ⟨rfl,B3.out⟩
      ·have q:r = false:=by rw [FB.out,decide_eq_false f1]; rfl
       subst q
       clear FB LJ X3
       go_wp2
       go_ret
       exact ⟨rfl,B3.out⟩
     ·obtain rfl:=PX.out cF (fun q => a3 q.2.2)
      subst a1 a2 cF'
      have a3':¬ (nm.length:Int) = 0:=by omega
      clear PX PY LR LJ X
      go_wp2
      go_ret
      exact ⟨rfl,B.out⟩
    ·obtain rfl:=PX.out cF (fun q => a2 q.2.1)
     subst a1 cF'
     clear PX PY LR LJ X
     go_wp2
     go_ret
     exact ⟨rfl,B.out⟩
   ·obtain rfl:=PX.out cF (fun q => a1 q.1)
    subst cF'
    clear PX PY LR LJ X
    go_wp2
    go_ret
    exact ⟨rfl,B.out⟩
end Go.Proofs.YtlkmnpanddchdaaGreatDoor
