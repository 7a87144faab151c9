/- An image, read off its words: by the model. -/
import Derived.Test.YtahiphgmhndgaaaGreatDoorZAX
import Derived.BigQuiet
set_option maxRecDepth 100000
set_option maxHeartbeats 4000000
namespace Go.Proofs.YtahiphgmhndgaaaGreatDoor
open Go.RowKit
def xC (ls:List Int) (i j:Nat):List Value:=[.int .i64 (wdI ls (48+12*(i:Int))),.int .i64 (wdI ls (48+12*(i:Int)+1)),.int .i64 (wdI ls (48+12*(i:Int)+2))] ++ (List.range 8).map fun m=>.int .i64 (if m < j then wdI ls (48+12*(i:Int)+(3+(m:Int))) else 0)
theorem yagf {t:TypeId} {wr w:World} {b:Nat} (h:BoxZ t wr w b [.int .i64 0,.int .i64 0,.int .i64 0,.int .i64 0,.int .i64 0,.int .i64 0,.int .i64 0,.int .i64 0,.int .i64 0,.int .i64 0,.int .i64 0]):w.cell? ⟨b,0,none⟩=some (.int .i64 0)∧w.cell? ⟨b,1,none⟩=some (.int .i64 0)∧w.cell? ⟨b,2,none⟩=some (.int .i64 0)∧w.cell? ⟨b,3,none⟩=some (.int .i64 0)∧w.cell? ⟨b,4,none⟩=some (.int .i64 0)∧w.cell? ⟨b,5,none⟩=some (.int .i64 0)∧w.cell? ⟨b,6,none⟩=some (.int .i64 0)∧w.cell? ⟨b,7,none⟩=some (.int .i64 0)∧w.cell? ⟨b,8,none⟩=some (.int .i64 0)∧w.cell? ⟨b,9,none⟩=some (.int .i64 0)∧w.cell? ⟨b,10,none⟩=some (.int .i64 0)∧w.frozen? ⟨b,0,none⟩=false∧w.frozen? ⟨b,1,none⟩=false∧w.frozen? ⟨b,2,none⟩=false∧w.frozen? ⟨b,3,none⟩=false∧w.frozen? ⟨b,4,none⟩=false∧w.frozen? ⟨b,5,none⟩=false∧w.frozen? ⟨b,6,none⟩=false∧w.frozen? ⟨b,7,none⟩=false∧w.frozen? ⟨b,8,none⟩=false∧w.frozen? ⟨b,9,none⟩=false∧w.frozen? ⟨b,10,none⟩=false :=
 ⟨(h.cell 0).1,(h.cell 1).1,(h.cell 2).1,(h.cell 3).1,(h.cell 4).1,(h.cell 5).1,(h.cell 6).1,(h.cell 7).1,(h.cell 8).1,(h.cell 9).1,(h.cell 10).1,(h.cell 0).2,(h.cell 1).2,(h.cell 2).2,(h.cell 3).2,(h.cell 4).2,(h.cell 5).2,(h.cell 6).2,(h.cell 7).2,(h.cell 8).2,(h.cell 9).2,(h.cell 10).2⟩
theorem BoxZ.put11 {t:TypeId} {wr w:World} {b:Nat} (h:BoxZ t wr w b [.int .i64 0,.int .i64 0,.int .i64 0,.int .i64 0,.int .i64 0,.int .i64 0,.int .i64 0,.int .i64 0,.int .i64 0,.int .i64 0,.int .i64 0]) (v0 v1 v2 v3 v4 v5 v6 v7 v8 v9 v10:Value):BoxZ t wr (((((((((((w.setCell ⟨b,0,none⟩ v0).setCell ⟨b,1,none⟩ v1).setCell ⟨b,2,none⟩ v2).setCell ⟨b,3,none⟩ v3).setCell ⟨b,4,none⟩ v4).setCell ⟨b,5,none⟩ v5).setCell ⟨b,6,none⟩ v6).setCell ⟨b,7,none⟩ v7).setCell ⟨b,8,none⟩ v8).setCell ⟨b,9,none⟩ v9).setCell ⟨b,10,none⟩ v10) b [v0,v1,v2,v3,v4,v5,v6,v7,v8,v9,v10]:=(((((((((((h.put 0 v0).put 1 v1).put 2 v2).put 3 v3).put 4 v4).put 5 v5).put 6 v6).put 7 v7).put 8 v8).put 9 v9).put 10 v10)
theorem yars (ls:List Int) (i:Nat):xC ls i 0=[.int .i64 (wdI ls (48+12*(i:Int))),.int .i64 (wdI ls (48+12*(i:Int)+1)),.int .i64 (wdI ls (48+12*(i:Int)+2)),.int .i64 0,.int .i64 0,.int .i64 0,.int .i64 0,.int .i64 0,.int .i64 0,.int .i64 0,.int .i64 0]:=rfl
theorem yavg (ls:List Int) (i:Nat):xC ls i 8=(zmc ls i).cs:=by
 simp[xC,zmc,Ino.cs,List.range_succ_eq_map,Int.add_assoc]
theorem yath (ls:List Int) (i j:Nat) (h:j < 8):(xC ls i j).set (3+j) (.int .i64 (wdI ls (48+12*(i:Int)+(3+(j:Int)))))=xC ls i (j+1):=by
 rcases (show j=0∨j=1∨j=2∨j=3∨j=4∨j=5∨j=6∨j=7 by omega) with rfl | rfl | rfl | rfl | rfl | rfl | rfl | rfl <;> rfl
theorem yabg {B:Nat} {a w:World} (h:Below B a w) (n:Nat):Below B a (w.drewN n):=by
 induction n with
 | zero=>exact h
 | succ n ih=>exact ⟨ih.os,ih.tape,ih.output,ih.size,ih.block⟩
theorem yaky {t:TypeId} {wr w:World} {b:Nat} (h:BoxZ t wr w b [.int .i64 0,.string ⟨#[]⟩,.int .i64 0]):w.cell? ⟨b,0,none⟩=some (.int .i64 0)∧w.cell? ⟨b,1,none⟩=some (.string ⟨#[]⟩)∧w.cell? ⟨b,2,none⟩=some (.int .i64 0)∧w.frozen? ⟨b,0,none⟩=false∧w.frozen? ⟨b,1,none⟩=false∧w.frozen? ⟨b,2,none⟩=false :=
 ⟨(h.cell 0).1,(h.cell 1).1,(h.cell 2).1,(h.cell 0).2,(h.cell 1).2,(h.cell 2).2⟩
theorem BoxZ.put3 {t:TypeId} {wr w:World} {b:Nat} {a0 a1 a2:Value} (h:BoxZ t wr w b [a0,a1,a2]) (v0 v1 v2:Value):BoxZ t wr (((w.setCell ⟨b,0,none⟩ v0).setCell ⟨b,1,none⟩ v1).setCell ⟨b,2,none⟩ v2) b [v0,v1,v2]:=((h.put 0 v0).put 1 v1).put 2 v2
theorem yawi (ls:List Int) (i j:Nat) (h:j < 8):(xC ls i j)[3+j]?=some (.int .i64 0):=by
 rcases (show j=0∨j=1∨j=2∨j=3∨j=4∨j=5∨j=6∨j=7 by omega) with rfl | rfl | rfl | rfl | rfl | rfl | rfl | rfl <;> rfl
theorem yaie {t:TypeId} {wr w:World} {b:Nat} {x:Ino} (h:BoxZ t wr w b x.cs):w.cell? ⟨b,0,none⟩=some (.int .i64 x.kind)∧w.cell? ⟨b,1,none⟩=some (.int .i64 x.size)∧w.cell? ⟨b,2,none⟩=some (.int .i64 x.links)∧w.cell? ⟨b,3,none⟩=some (.int .i64 x.m0)∧w.cell? ⟨b,4,none⟩=some (.int .i64 x.m1)∧w.cell? ⟨b,5,none⟩=some (.int .i64 x.m2)∧w.cell? ⟨b,6,none⟩=some (.int .i64 x.m3)∧w.cell? ⟨b,7,none⟩=some (.int .i64 x.m4)∧w.cell? ⟨b,8,none⟩=some (.int .i64 x.m5)∧w.cell? ⟨b,9,none⟩=some (.int .i64 x.m6)∧w.cell? ⟨b,10,none⟩=some (.int .i64 x.m7) :=
 ⟨(h.cell 0).1,(h.cell 1).1,(h.cell 2).1,(h.cell 3).1,(h.cell 4).1,(h.cell 5).1,(h.cell 6).1,(h.cell 7).1,(h.cell 8).1,(h.cell 9).1,(h.cell 10).1⟩
theorem yaqj (w1:World) (x:Ino):Rd (w1.alloc (.cells #[.int .i64 x.kind,.int .i64 x.size,.int .i64 x.links,.int .i64 x.m0,.int .i64 x.m1,.int .i64 x.m2,.int .i64 x.m3,.int .i64 x.m4,.int .i64 x.m5,.int .i64 x.m6,.int .i64 x.m7] 187)) 11 (.slice (some ⟨w1.heap.size,0,none⟩) 1 1) 1 (inos [x]):=by
 refine ⟨rfl,_,_,rfl,⟨Nat.le_refl _,fun e=>by cases e⟩,fun _=>⟨w1.heap.size,0,rfl,by simp,fun j hj=>?_⟩⟩;rw[Nat.zero_add];exact (zbe (xs:=x.cs) (zag rfl) j).1
theorem zzy (v:Value) (ws:List Int) (ps:List St) (w:World) (h:RdPm w v ws ps) (hp:pmB ws ps=true) :
  Calls Tryz.prog 109 #[v] w fun e w'=>(∃ v',e=.returned (.tuple #[v',.bool (zfa (zcq ws ps) 24)])∧(zfa (zcq ws ps) 24=true→RowIm w' w.heap.size w'.heap.size v' (zbm (zcq ws ps) 16) (zbw (zcq ws ps) 24))∧(zfa (zcq ws ps) 24=false→v'=.agg #[.slice none 0 0,.slice none 0 0]))∧Below w.heap.size w w':=by
 have HR:=zaa h;have LL:=zaa (fun z w1 h h0=>yaqn v ws ps z w1 h hp h0);have WR:=zaa (fun z=>zow hp z);obtain ⟨vW,vP,rfl,h1,h2⟩:=h;obtain ⟨aW,cW,rfl,_,_⟩:=h1.shape;obtain ⟨aP,cP,rfl,_,_⟩:=h2.shape;clear h1 h2 hp;generalize hls:zcq ws ps=ls at *;clear hls
 obtain ⟨W1,hW1⟩:∃ W1,W1=(w.alloc (.cells #[.slice aW ws.length cW,.slice aP ps.length cP] 40)).alloc (.cells #[.slice none 0 0,.slice none 0 0] 102):=⟨_,rfl⟩
 have hz1:W1.heap.size=w.heap.size+1+1:=by rw[hW1];simp
 have CA:Hid (∀ w',Below W1.heap.size W1 w'→w'.cell? ⟨w.heap.size,0,none⟩=some (.slice aW ws.length cW)∧w'.cell? ⟨w.heap.size,1,none⟩=some (.slice aP ps.length cP)):=fun w' hb=>by
  have:w'.heap[w.heap.size]?=some (.cells #[.slice aW ws.length cW,.slice aP ps.length cP] 40 (0,0)):=(hb.block _ (by omega)).trans (by rw[hW1];exact zal (zag rfl));exact ⟨(zad this).1,(zad this).2.1⟩
 have CR:Hid (∀ w',Below W1.heap.size W1 w'→w'.heap[w.heap.size+1]?=some (.cells #[.slice none 0 0,.slice none 0 0] 102 (0,0))):=fun w' hb=>(hb.block _ (by omega)).trans (by
  rw[hW1];have:=zag (w:=w.alloc (.cells #[.slice aW ws.length cW,.slice aP ps.length cP] 40)) (o:=.cells #[.slice none 0 0,.slice none 0 0] 102) rfl;rw[World.size_alloc] at this
  exact this)
 have BW:Hid (Below w.heap.size w W1):=by rw[hW1];exact ((Below.refl _ _).alloc (Nat.le_refl _) _).alloc (by simp) _
 have START:Hid (RimI W1 (((W1.alloc (.cells #[] 187)).alloc (.cells #[] 189)).alloc (.cells #[.slice (some ⟨w.heap.size+1+1,0,none⟩) 0 0,.slice (some ⟨w.heap.size+1+1+1,0,none⟩) 0 0] 102)) (w.heap.size+1+1+1+1) (.slice (some ⟨w.heap.size+1+1,0,none⟩) 0 0) (.slice (some ⟨w.heap.size+1+1+1,0,none⟩) 0 0) [] []):=by
  have hs2:(W1.alloc (.cells #[] 187)).heap.size=w.heap.size+1+1+1:=by rw[World.size_alloc,hz1]
  have hs3:((W1.alloc (.cells #[] 187)).alloc (.cells #[] 189)).heap.size=w.heap.size+1+1+1+1:=by rw[World.size_alloc,hs2]
  refine ⟨?_,?_,?_,?_,by omega⟩
  ·have:=zag (w:=(W1.alloc (.cells #[] 187)).alloc (.cells #[] 189)) (o:=.cells #[.slice (some ⟨w.heap.size+1+1,0,none⟩) 0 0,.slice (some ⟨w.heap.size+1+1+1,0,none⟩) 0 0] 102) rfl;rw[hs3] at this;exact this
  ·have:=World.ownsRow_lit (e:=187) (size:=11) (base:=W1.heap.size) W1 #[] 0 (Nat.le_refl _) (by simp[maxLen]) (by simp);have r:=((zai this).below (((Below.refl _ (W1.alloc (.cells #[] 187))).alloc (Nat.le_refl _) (.cells #[] 189)).alloc (by simp) (.cells #[.slice (some ⟨w.heap.size+1+1,0,none⟩) 0 0,.slice (some ⟨w.heap.size+1+1+1,0,none⟩) 0 0] 102)) (Nat.le_refl _)).1;rw[hz1] at r ⊢;exact r
  ·have:=World.ownsRow_lit (e:=189) (size:=3) (base:=W1.heap.size) (W1.alloc (.cells #[] 187)) #[] 0 (by simp) (by simp[maxLen]) (by simp);have r:=((zai this).below ((Below.refl _ ((W1.alloc (.cells #[] 187)).alloc (.cells #[] 189))).alloc (Nat.le_refl _) (.cells #[.slice (some ⟨w.heap.size+1+1,0,none⟩) 0 0,.slice (some ⟨w.heap.size+1+1+1,0,none⟩) 0 0] 102)) (Nat.le_refl _)).1;rw[hs2] at r;exact r
  ·exact (((Below.refl _ _).alloc (Nat.le_refl _) _).alloc (by simp) _).alloc (by simp <;> omega) _
 have HZ1:=zaa hz1
 have hz1':w.heap.size < W1.heap.size:=by omega
 clear hz1;have LL2:=zaa (fun z w1 (hb:Below W1.heap.size W1 w1) (h0:0≤z∧z < 336)=>LL.o z w1 (HR.o.below (zab BW.o hb BW.o.size)) h0);clear LL;go_enter Tryz.func109,Tryz.ntmps109;go_wp2;rw[← hW1];clear hW1;generalize hbM:w.heap.size+1+1+1+1=bM at *;clear hbM
 go_loopg [5] 16 (fun g i wr=>∃ k:Nat,k+g=16∧i=.int .i64 k∧Hid (∃ vI vD,RimI W1 wr bM vI vD (zbm ls k) []))
 case atStart=>exact ⟨0,rfl,rfl,_,_,START.o⟩
 case round =>
  obtain ⟨k,hk,rfl,J⟩:=hrel;obtain ⟨vI,vD,I⟩:=J.o;have I:=zaa I;obtain ⟨x0,x1⟩:=CA.o wr I.o.b
  have k0:(0:Int)≤(k:Int):=by omega
  clear J START
  by_cases hlt:k < 16
  ·have k1:(k:Int) < 16:=by omega
   have SK:Hid (∀ w',Below wr.heap.size wr w'→w'.cell? ⟨w.heap.size,0,none⟩=some (.slice aW ws.length cW)∧w'.cell? ⟨w.heap.size,1,none⟩=some (.slice aP ps.length cP)):=fun w' hb=>CA.o w' (zab I.o.b hb I.o.z)
   have LL3:=zaa (fun z w1 (hb:Below wr.heap.size wr w1) (h0:0≤z∧z < 336)=>LL2.o z w1 (zab I.o.b hb I.o.z) h0);go_wp2_with fail
   go_cut [6] (fun s wx=>∃ bX,s=.pointer (some ⟨bX,0,none⟩)∧Hid (BoxZ 187 wr wx bX (xC ls k 0)∧Below wr.heap.size wr wx))
   case first =>
    go_region_held3 (fun w'=>w'.cell? ⟨w.heap.size,0,none⟩=some (.slice aW ws.length cW)∧w'.cell? ⟨w.heap.size,1,none⟩=some (.slice aP ps.length cP))
     (exact SK.o _ (by repeat (first | with_reducible exact BF.o | with_reducible exact Below.refl _ _ | with_reducible refine zan ?_ _ | with_reducible refine Below.drew ?_ | with_reducible refine Below.setCell ?_ VX.o.ge _)))
     (first
      | (go_at_call 152;refine (zgd _ _ _ ⟨k0,k1⟩ ⟨by decide,by decide⟩).mono ?_;rintro e w' ⟨rfl,hw'⟩;subst w')
      | (go_at_call 110;refine (LL3.o _ _ (by repeat (first | with_reducible exact BF.o | with_reducible exact Below.refl _ _ | with_reducible refine zan ?_ _ | with_reducible refine Below.drew ?_)) ⟨by omega,by omega⟩).mono ?_;rintro e w1 ⟨rfl,hb1⟩;(first | (have VX:=zaa (BoxZ.below (t:=187) (wr:=wr) (by repeat (first | with_reducible exact VX.o | with_reducible exact BoxZ.new (by repeat (first | with_reducible exact BF.o | with_reducible exact Below.refl _ _ | with_reducible refine zan ?_ _ | with_reducible refine Below.drew ?_)) | with_reducible apply BoxZ.drew)) hb1);obtain ⟨c0,c1,c2,c3,c4,c5,c6,c7,c8,c9,c10,d0,d1,d2,d3,d4,d5,d6,d7,d8,d9,d10⟩:=yagf VX.o) | skip);have BF:Hid (Below wr.heap.size wr w1):=zjx (by repeat (first | with_reducible exact BF.o | with_reducible exact Below.refl _ _ | with_reducible refine zan ?_ _ | with_reducible refine Below.drew ?_)) hb1;clear hb1))
    all_goals
     go_wp2_with fail
     go_meet
     refine ⟨_,rfl,?_⟩;unfold Hid;rw[yars];refine ⟨?_,?_⟩
     ·repeat (first | with_reducible exact BoxZ.new (by repeat (first | with_reducible exact BF.o | with_reducible exact Below.refl _ _ | with_reducible refine zan ?_ _ | with_reducible refine Below.drew ?_)) | with_reducible exact BoxZ.put11 VX.o _ _ _ _ _ _ _ _ _ _ _ | with_reducible apply BoxZ.drew)
     ·repeat (first | with_reducible exact BF.o | with_reducible exact Below.refl _ _ | with_reducible refine zan ?_ _ | with_reducible refine Below.drew ?_ | with_reducible refine Below.setCell ?_ VX.o.ge _)
   case rest =>
    obtain ⟨bX,rfl,C⟩:=hcut
    rename World=>wx
    have BX:=zaa C.o.2;have XB:=zaa C.o.1;clear x0 x1 SK C;generalize gk=G0 at *;generalize hV:wr=V at *;clear hV;have hzV:W1.heap.size≤V.heap.size:=I.o.z
    have SK2:Hid (∀ w',Below V.heap.size V w'→w'.cell? ⟨w.heap.size,0,none⟩=some (.slice aW ws.length cW)∧w'.cell? ⟨w.heap.size,1,none⟩=some (.slice aP ps.length cP)):=fun w' hb=>CA.o w' (zab I.o.b hb hzV)
    go_wp2_with fail
    go_loopg [7] 8 (fun g j wq=>∃ m:Nat,m+g=8∧j=.int .i64 m∧Hid (BoxZ 187 V wq bX (xC ls k m)∧Below V.heap.size V wq))
    case atStart=>exact ⟨0,rfl,rfl,XB.o,BX.o⟩
    case round =>
     obtain ⟨m,hm,rfl,K⟩:=hrel;have KX:=zaa K.o.1;have KB:=zaa K.o.2
     have m0:(0:Int)≤(m:Int):=by omega
     clear XB BX K
     by_cases hlm:m < 8
     ·have m1:(m:Int) < 8:=by omega
      have wp1:IntKind.i64.wrap (3+(m:Int))=3+(m:Int):=by rw[IntKind.wrap_i64];omega
      obtain ⟨x0,x1⟩:=SK2.o wr KB.o
      have SK3:Hid (∀ w',Below wr.heap.size wr w'→w'.cell? ⟨w.heap.size,0,none⟩=some (.slice aW ws.length cW)∧w'.cell? ⟨w.heap.size,1,none⟩=some (.slice aP ps.length cP)):=fun w' hb=>SK2.o w' (zab KB.o hb KB.o.size)
      have LL4:=zaa (fun z w1 (hb:Below wr.heap.size wr w1) (h0:0≤z∧z < 336)=>LL3.o z w1 (zab KB.o hb KB.o.size) h0);have XA:=yawi ls k m hlm;have XS:=zaa (yath ls k m hlm);go_wp2_with fail
      go_region_held3 (fun w'=>w'.cell? ⟨w.heap.size,0,none⟩=some (.slice aW ws.length cW)∧w'.cell? ⟨w.heap.size,1,none⟩=some (.slice aP ps.length cP))
       (exact SK2.o _ (by repeat (first | with_reducible exact BG.o | with_reducible exact KB.o | with_reducible refine Below.drew ?_ | with_reducible refine Below.setCell ?_ KX.o.ge _)))
       (first
        | (go_at_call 152;refine (zgd _ _ _ ⟨k0,k1⟩ ⟨by omega,by omega⟩).mono ?_;rintro e w' ⟨rfl,hw'⟩;subst w')
        | (go_at_call 110;refine (LL4.o _ _ (by repeat (first | with_reducible exact BF.o | with_reducible exact Below.refl _ _ | with_reducible refine Below.drew ?_)) ⟨by omega,by omega⟩).mono ?_;rintro e w1 ⟨rfl,hb1⟩;have BF:Hid (Below wr.heap.size wr w1):=zjx (by repeat (first | with_reducible exact BF.o | with_reducible exact Below.refl _ _ | with_reducible refine Below.drew ?_)) hb1;clear hb1;have BG:Hid (Below V.heap.size V w1):=zab KB.o BF.o KB.o.size;have e0:=((KX.o.below BF.o).cell (3+m)).1.trans XA;have e1:=((KX.o.below BF.o).cell (3+m)).2))
      all_goals
       have P:=zaa ((KX.o.below BF.o).put (3+m) (.int .i64 (wdI ls (48+12*(k:Int)+(3+(m:Int))))));rw[XS.o] at P;have BP:Hid (Below V.heap.size V (w1.setCell ⟨bX,3+m,none⟩ (.int .i64 (wdI ls (48+12*(k:Int)+(3+(m:Int))))))):=BG.o.setCell KX.o.ge _;clear e0 e1 x0 x1 SK3 LL4;go_wp2
       go_roundg (8 - (m+1))
       case measure=>omega
       case rel=>exact ⟨m+1,by omega,by go_num,(by repeat (first | exact P.o | refine BoxZ.drew ?_)),(by repeat (first | with_reducible exact BP.o | with_reducible refine Below.drew ?_))⟩
     ·obtain rfl:m=8:=by omega
      have KX2:Hid (BoxZ 187 V wr bX (zmc ls k).cs):=by unfold Hid;rw[← yavg];exact KX.o
      have IR:=zaa (I.o.below KB.o);have MN:=zaa (zpz ls k);have ML:=zbn ls k;clear KX;generalize zmc ls k=x at *;obtain ⟨c0,c1,c2,c3,c4,c5,c6,c7,c8,c9,c10⟩:=yaie KX2.o;obtain ⟨n0,n1,_,_⟩:=zad IR.o.m;have IA:=zaa (IR.o.below ((Below.refl _ _).alloc (Nat.le_refl _) (.cells #[.int .i64 x.kind,.int .i64 x.size,.int .i64 x.links,.int .i64 x.m0,.int .i64 x.m1,.int .i64 x.m2,.int .i64 x.m3,.int .i64 x.m4,.int .i64 x.m5,.int .i64 x.m6,.int .i64 x.m7] 187)));have RB:=zaa (yaqj wr x);have hzA:=IA.o.z;simp only[World.size_alloc] at hzA;clear IR LL3 SK2 KX2;go_wp2_with (at_builtin;refine zak _ rfl (.tmp 46) (.tmp 48) 99 rfl W1.heap.size 187 (.agg #[.int .i64 0,.int .i64 0,.int .i64 0,.int .i64 0,.int .i64 0,.int .i64 0,.int .i64 0,.int .i64 0,.int .i64 0,.int .i64 0,.int .i64 0]) 11 88 Tryz.underlying99 yalu rfl (by decide) _ _ _ rfl IA.o.i _ 1 _ rfl RB.o (zxs _) (by simp[maxLen];omega) (by omega) IA.o.z ?_);intro vN wN hownN hgrN
      rcases (zai hownN).shape with ⟨_,eN,_⟩ | ⟨bN,cN,rfl,_,_⟩
      ·omega
      obtain ⟨g1,g2⟩:=IA.o.growI x (by rw[zbn];exact hownN) hgrN;have G:=zaa g2;rw[← MN.o] at G;clear n0 n1 g2 c0 c1 c2 c3 c4 c5 c6 c7 c8 c9 c10 IA RB hownN hgrN ML MN;obtain ⟨n0,n1,n2,n3⟩:=zad g1;clear g1;go_wp2
      go_roundg (16 - (k+1))
      case measure=>omega
      case rel=>exact ⟨k+1,by omega,by go_num,_,_,G.o⟩
  ·obtain rfl:k=16:=by omega
   have LL3:=LL2
   have SE:Hid (∃ vI vD,RimI W1 wr bM vI vD (zbm ls 16) (zbw ls 0)):=⟨vI,vD,I.o⟩
   have AG0:Hid (∀ j,j < 0→zda ls j=true):=fun j h=>absurd h (by omega)
   clear I x0 x1;go_wp2_with fail
   go_loopg [8] 24 (fun g i wq=>∃ k:Nat,k+g=24∧i=.int .i64 k∧Hid ((∃ vI vD,RimI W1 wq bM vI vD (zbm ls 16) (zbw ls k))∧∀ j,j < k→zda ls j=true))
   case atStart=>exact ⟨0,rfl,rfl,SE.o,AG0.o⟩
   case round =>
    obtain ⟨k,hk,rfl,J⟩:=hrel;obtain ⟨vI,vD,I⟩:=J.o.1;have I:=zaa I;have AG:=zaa J.o.2;obtain ⟨x0,x1⟩:=CA.o wr I.o.b
    have k0:(0:Int)≤(k:Int):=by omega
    clear J SE AG0
    by_cases hlt:k < 24
    ·have k1:(k:Int) < 24:=by omega
     have SK:Hid (∀ w',Below wr.heap.size wr w'→w'.cell? ⟨w.heap.size,0,none⟩=some (.slice aW ws.length cW)∧w'.cell? ⟨w.heap.size,1,none⟩=some (.slice aP ps.length cP)):=fun w' hb=>CA.o w' (zab I.o.b hb I.o.z)
     have LL4:=zaa (fun z w1 (hb:Below wr.heap.size wr w1) (h0:0≤z∧z < 336)=>LL3.o z w1 (zab I.o.b hb I.o.z) h0);have r2:=WR.o (240+3*(k:Int)+2)
     have wp1:IntKind.i64.wrap (wdI ls (240+3*(k:Int)+2) - 1)=wdI ls (240+3*(k:Int)+2) - 1:=by rw[IntKind.wrap_i64];omega
     go_wp2_with fail
     go_cut [9] (fun s wx=>∃ bX,s=.pointer (some ⟨bX,0,none⟩)∧Hid (BoxZ 189 wr wx bX [.int .i64 (wdI ls (240+3*(k:Int))),.string ⟨#[]⟩,.int .i64 (wdI ls (240+3*(k:Int)+2) - 1)]∧Below wr.heap.size wr wx))
     case first =>
      go_region_held3 (fun w'=>w'.cell? ⟨w.heap.size,0,none⟩=some (.slice aW ws.length cW)∧w'.cell? ⟨w.heap.size,1,none⟩=some (.slice aP ps.length cP))
       (exact SK.o _ (by repeat (first | with_reducible exact BF.o | with_reducible exact Below.refl _ _ | with_reducible refine zan ?_ _ | with_reducible refine Below.drew ?_ | with_reducible refine Below.setCell ?_ VX.o.ge _)))
       (first
        | (go_at_call 153;refine (zfk _ _ _ ⟨k0,k1⟩ ⟨by decide,by decide⟩).mono ?_;rintro e w' ⟨rfl,hw'⟩;subst w')
        | (go_at_call 110;refine (LL4.o _ _ (by repeat (first | with_reducible exact BF.o | with_reducible exact Below.refl _ _ | with_reducible refine zan ?_ _ | with_reducible refine Below.drew ?_)) ⟨by omega,by omega⟩).mono ?_;rintro e w1 ⟨rfl,hb1⟩;(first | (have VX:=zaa (BoxZ.below (t:=189) (wr:=wr) (by repeat (first | with_reducible exact VX.o | with_reducible exact BoxZ.new (by repeat (first | with_reducible exact BF.o | with_reducible exact Below.refl _ _ | with_reducible refine zan ?_ _ | with_reducible refine Below.drew ?_)) | with_reducible apply BoxZ.drew)) hb1);obtain ⟨c0,c1,c2,d0,d1,d2⟩:=yaky VX.o) | skip);have BF:Hid (Below wr.heap.size wr w1):=zjx (by repeat (first | with_reducible exact BF.o | with_reducible exact Below.refl _ _ | with_reducible refine zan ?_ _ | with_reducible refine Below.drew ?_)) hb1;clear hb1))
      all_goals
       go_wp2_with fail
       go_meet
       refine ⟨_,rfl,?_⟩;unfold Hid;refine ⟨?_,?_⟩
       ·repeat (first | with_reducible exact BoxZ.new (by repeat (first | with_reducible exact BF.o | with_reducible exact Below.refl _ _ | with_reducible refine zan ?_ _ | with_reducible refine Below.drew ?_)) | with_reducible exact BoxZ.put3 VX.o _ _ _ | with_reducible apply BoxZ.drew)
       ·repeat (first | with_reducible exact BF.o | with_reducible exact Below.refl _ _ | with_reducible refine zan ?_ _ | with_reducible refine Below.drew ?_ | with_reducible refine Below.setCell ?_ VX.o.ge _)
     case rest =>
      obtain ⟨bX,rfl,C⟩:=hcut
      rename World=>wx
      have BX:=zaa C.o.2;have XB:=zaa C.o.1;clear x0 x1 C;obtain ⟨x0,x1⟩:=SK.o wx BX.o;have e0:=(XB.o.cell 0).1;have e1:=(XB.o.cell 1).1;have e2:=(XB.o.cell 2).1;have f1:=(XB.o.cell 1).2;simp only[List.getElem?_cons_zero,List.getElem?_cons_succ] at e0 e1 e2;have r0:=WR.o (240+3*(k:Int));have r1:=WR.o (240+3*(k:Int)+1);have GD:=zaa (show zda ls k=if wdI ls (240+3*(k:Int)+2)=0 then wdI ls (240+3*(k:Int)) == 0 && wdI ls (240+3*(k:Int)+1) == 0 else zgo (wdI ls (240+3*(k:Int)+1)) from rfl);have DD:=zaa (show zrr ls k=if wdI ls (240+3*(k:Int)+2)=0 then ⟨0,⟨#[]⟩,-1⟩ else ⟨wdI ls (240+3*(k:Int)),zzm (wdI ls (240+3*(k:Int)+1)),wdI ls (240+3*(k:Int)+2) - 1⟩ from rfl);have L1:=zaa (fun w1 (hb:Below wr.heap.size wr w1)=>LL4.o (240+3*(k:Int)+1) w1 hb (by omega))
      have AGN:Hid (zda ls k=true→∀ j,j < k+1→zda ls j=true):=fun q j h=>by
       by_cases e:j=k
       ·subst e;exact q
       ·exact AG.o j (by omega)
      generalize wdI ls (240+3*(k:Int)+1)=nm at *;generalize wdI ls (240+3*(k:Int)+2)=ch at *;generalize wdI ls (240+3*(k:Int))=dr at *
      have SK3:Hid (∀ w',Below wx.heap.size wx w'→w'.cell? ⟨w.heap.size,0,none⟩=some (.slice aW ws.length cW)∧w'.cell? ⟨w.heap.size,1,none⟩=some (.slice aP ps.length cP)):=fun w' hb=>SK.o w' (zjx BX.o hb)
      have SKX:Hid (∀ w',Below wx.heap.size wx w'→w'.cell? ⟨bX,0,none⟩=some (.int .i64 dr)):=fun w' hb=>((XB.o.below hb).cell 0).1
      by_cases c:ch=0
      ·subst c
       have c1:¬ ((0:Int) - 1≥0):=by decide
       rw[if_pos rfl] at GD DD
       by_cases q0:dr=0
       case neg =>
        have q1:(dr != 0)=true:=by rw[bne_iff_ne];exact q0
        have GF:Hid (zda ls k=false):=GD.o.trans (by rw[show (dr == 0)=false by rw[beq_eq_false_iff_ne];exact q0];rfl);clear q0 AGN GD DD;go_wp2_with fail
        go_quiet (fail)
        obtain ⟨wy,hwy⟩:∃ wy,wy=wx.drewN nq:=⟨_,rfl⟩
        rw[← hwy]
        have BW3:Hid (Below wr.heap.size wr wy):=by rw[hwy];exact yabg BX.o _
        clear hwy x0 x1 e0 e1 e2 f1 SK SK3 SKX LL4 L1;have CB:=zaa (CR.o _ (zab I.o.b BW3.o I.o.z));obtain ⟨p0,p1,p2,p3⟩:=zad CB.o;have EB:=zaa (zip (n:=24) hlt GF.o);have BR:Hid (Below w.heap.size w ((wy.setCell ⟨w.heap.size+1,0,none⟩ (.slice none 0 0)).setCell ⟨w.heap.size+1,1,none⟩ (.slice none 0 0))):=((zab BW.o (zab I.o.b BW3.o I.o.z) BW.o.size).setCell (by simp only;omega) _).setCell (by simp only;omega) _;go_wp2;refine bodyPost_ret (v:=.tuple #[.agg #[.slice none 0 0,.slice none 0 0],.bool false]) (by simp[results,Tryz.results109,go_sem,p0,p1]) rfl ?_;rw[EB.o];exact ⟨⟨_,rfl,(fun h=>by cases h),fun _=>rfl⟩,BR.o⟩
       have q1:(dr != 0)=false:=by rw[q0];rfl
       by_cases q2:nm=0
       case neg =>
        have q3:(nm != 0)=true:=by rw[bne_iff_ne];exact q2
        have GF:Hid (zda ls k=false):=GD.o.trans (by rw[show (nm == 0)=false by rw[beq_eq_false_iff_ne];exact q2];simp);clear q0 q2 AGN GD DD;go_wp2_with fail
        go_region_held3 (fun w'=>(w'.cell? ⟨w.heap.size,0,none⟩=some (.slice aW ws.length cW)∧w'.cell? ⟨w.heap.size,1,none⟩=some (.slice aP ps.length cP))∧w'.cell? ⟨bX,0,none⟩=some (.int .i64 dr))
         (exact ⟨SK3.o _ (by repeat (first | with_reducible exact BF.o | with_reducible exact Below.refl _ _ | with_reducible refine Below.drew ?_)),SKX.o _ (by repeat (first | with_reducible exact BF.o | with_reducible exact Below.refl _ _ | with_reducible refine Below.drew ?_))⟩)
         (first
          | (go_at_call 153;refine (zfk _ _ _ ⟨k0,k1⟩ ⟨by decide,by decide⟩).mono ?_;rintro e w' ⟨rfl,hw'⟩;subst w')
          | (go_at_call 110;refine (L1.o _ (zjx BX.o (by repeat (first | with_reducible exact BF.o | with_reducible exact Below.refl _ _ | with_reducible refine Below.drew ?_)))).mono ?_;rintro e w1 ⟨rfl,hb1⟩;have BF:Hid (Below wx.heap.size wx w1):=zjx (by repeat (first | with_reducible exact BF.o | with_reducible exact Below.refl _ _ | with_reducible refine Below.drew ?_)) hb1;clear hb1))
        all_goals
         have BW3:Hid (Below wr.heap.size wr w1):=zjx BX.o BF.o;clear x0 x1 e0 e1 e2 f1 SK SK3 SKX LL4 L1;have CB:=zaa (CR.o _ (zab I.o.b BW3.o I.o.z));obtain ⟨p0,p1,p2,p3⟩:=zad CB.o;have EB:=zaa (zip (n:=24) hlt GF.o);have BR:Hid (Below w.heap.size w ((w1.setCell ⟨w.heap.size+1,0,none⟩ (.slice none 0 0)).setCell ⟨w.heap.size+1,1,none⟩ (.slice none 0 0))):=((zab BW.o (zab I.o.b BW3.o I.o.z) BW.o.size).setCell (by simp only;omega) _).setCell (by simp only;omega) _;go_wp2;refine bodyPost_ret (v:=.tuple #[.agg #[.slice none 0 0,.slice none 0 0],.bool false]) (by simp[results,Tryz.results109,go_sem,p0,p1]) rfl ?_;rw[EB.o];exact ⟨⟨_,rfl,(fun h=>by cases h),fun _=>rfl⟩,BR.o⟩
       have q3:(nm != 0)=false:=by rw[q2];rfl
       have AG2:=zaa (AGN.o (GD.o.trans (by rw[q0,q2];rfl)))
       have DO:Hid (zrr ls k=⟨dr,⟨#[]⟩,-1⟩):=by unfold Hid;rw[DD.o,q0]
       clear q0 q2 AGN GD DD;go_wp2_with fail
       go_region_held3 (fun w'=>(w'.cell? ⟨w.heap.size,0,none⟩=some (.slice aW ws.length cW)∧w'.cell? ⟨w.heap.size,1,none⟩=some (.slice aP ps.length cP))∧w'.cell? ⟨bX,0,none⟩=some (.int .i64 dr))
        (exact ⟨SK3.o _ (by repeat (first | with_reducible exact BF.o | with_reducible exact Below.refl _ _ | with_reducible refine Below.drew ?_)),SKX.o _ (by repeat (first | with_reducible exact BF.o | with_reducible exact Below.refl _ _ | with_reducible refine Below.drew ?_))⟩)
        (first
         | (go_at_call 153;refine (zfk _ _ _ ⟨k0,k1⟩ ⟨by decide,by decide⟩).mono ?_;rintro e w' ⟨rfl,hw'⟩;subst w')
         | (go_at_call 110;refine (L1.o _ (zjx BX.o (by repeat (first | with_reducible exact BF.o | with_reducible exact Below.refl _ _ | with_reducible refine Below.drew ?_)))).mono ?_;rintro e w1 ⟨rfl,hb1⟩;have BF:Hid (Below wx.heap.size wx w1):=zjx (by repeat (first | with_reducible exact BF.o | with_reducible exact Below.refl _ _ | with_reducible refine Below.drew ?_)) hb1;clear hb1))
       all_goals
        have BW3:Hid (Below wr.heap.size wr w1):=zjx BX.o BF.o;have XW:=zaa (XB.o.below BF.o);have IR:=zaa (I.o.below BW3.o);clear x0 x1 e0 e1 e2 f1 SK SK3 SKX LL4 L1 BF;have e0:=(XW.o.cell 0).1;have e1:=(XW.o.cell 1).1;have e2:=(XW.o.cell 2).1;simp only[List.getElem?_cons_zero,List.getElem?_cons_succ,show ((0:Int) - 1)=-1 from rfl] at e0 e1 e2;have MN:=zaa (zjr ls k);have ML:=zbh ls k;obtain ⟨n0,n1,_,_⟩:=zad IR.o.m;have IA:=zaa (IR.o.below ((Below.refl _ _).alloc (Nat.le_refl _) (.cells #[.int .i64 dr,.string ⟨#[]⟩,.int .i64 (-1)] 189)));have RB:=zaa (yacl w1 ⟨dr,⟨#[]⟩,(-1)⟩);have hzA:=IA.o.z;simp only[World.size_alloc] at hzA;rw[DO.o] at MN;go_wp2_with (at_builtin;refine zak _ rfl (.tmp 93) (.tmp 95) 100 rfl W1.heap.size 189 (.agg #[.int .i64 0,.string ⟨#[]⟩,.int .i64 0]) 3 32 Tryz.underlying100 zoo rfl (by decide) _ _ _ rfl IA.o.d _ 1 _ rfl RB.o (zho _) (by simp[maxLen];omega) (by omega) IA.o.z ?_);intro vN wN hownN hgrN
        rcases (zai hownN).shape with ⟨_,eN,_⟩ | ⟨bN,cN,rfl,_,_⟩
        ·omega
        obtain ⟨g1,g2⟩:=IA.o.growD ⟨dr,⟨#[]⟩,(-1)⟩ (by rw[zbh];exact hownN) hgrN;have G:=zaa g2;rw[← MN.o] at G;clear n0 n1 g2 IA RB hownN hgrN ML MN;obtain ⟨n0,n1,n2,n3⟩:=zad g1;clear g1;go_wp2
        go_roundg (24 - (k+1))
        case measure=>omega
        case rel=>exact ⟨k+1,by omega,by go_num,⟨_,_,G.o⟩,AG2.o⟩
      ·have c1:ch - 1≥0:=by omega
       rw[if_neg c] at GD DD;have LU:=zaa (fun w1=>zve nm w1 (by omega));clear c;generalize ch - 1=cm at *;go_wp2_with fail
       go_region_held3 (fun w'=>w'.cell? ⟨w.heap.size,0,none⟩=some (.slice aW ws.length cW)∧w'.cell? ⟨w.heap.size,1,none⟩=some (.slice aP ps.length cP))
        (exact SK3.o _ (by repeat (first | with_reducible exact BF.o | with_reducible exact Below.refl _ _ | with_reducible refine Below.drew ?_)))
        (first
         | (go_at_call 153;refine (zfk _ _ _ ⟨k0,k1⟩ ⟨by decide,by decide⟩).mono ?_;rintro e w' ⟨rfl,hw'⟩;subst w')
         | (go_at_call 110;refine (L1.o _ (zjx BX.o (by repeat (first | with_reducible exact BF.o | with_reducible exact Below.refl _ _ | with_reducible refine Below.drew ?_)))).mono ?_;rintro e w1 ⟨rfl,hb1⟩;have BF:Hid (Below wx.heap.size wx w1):=zjx (by repeat (first | with_reducible exact BF.o | with_reducible exact Below.refl _ _ | with_reducible refine Below.drew ?_)) hb1;clear hb1)
         | (go_at_call 154;refine (LU.o _).mono ?_;rintro e w1 ⟨⟨sN,rfl,hsN⟩,hb1⟩;have BF:Hid (Below wx.heap.size wx w1):=zjx (by repeat (first | with_reducible exact BF.o | with_reducible exact Below.refl _ _ | with_reducible refine Below.drew ?_)) hb1;clear hb1))
       all_goals
        have BW3:Hid (Below wr.heap.size wr w1):=zjx BX.o BF.o;have XW:=zaa (XB.o.below BF.o);clear x0 x1 e0 e1 e2 f1 SK SK3 SKX LL4 L1 LU
        cases gq:zgo nm with
        | false =>
         have GF:Hid (zda ls k=false):=GD.o.trans gq;clear gq hsN AGN GD DD;have CB:=zaa (CR.o _ (zab I.o.b BW3.o I.o.z));obtain ⟨p0,p1,p2,p3⟩:=zad CB.o;have EB:=zaa (zip (n:=24) hlt GF.o);have BR:Hid (Below w.heap.size w ((w1.setCell ⟨w.heap.size+1,0,none⟩ (.slice none 0 0)).setCell ⟨w.heap.size+1,1,none⟩ (.slice none 0 0))):=((zab BW.o (zab I.o.b BW3.o I.o.z) BW.o.size).setCell (by simp only;omega) _).setCell (by simp only;omega) _;go_wp2;refine bodyPost_ret (v:=.tuple #[.agg #[.slice none 0 0,.slice none 0 0],.bool false]) (by simp[results,Tryz.results109,go_sem,p0,p1]) rfl ?_;rw[EB.o];exact ⟨⟨_,rfl,(fun h=>by cases h),fun _=>rfl⟩,BR.o⟩
        | true =>
         have AG2:=zaa (AGN.o (GD.o.trans gq))
         have DO:Hid (zrr ls k=⟨dr,sN,cm⟩):=by unfold Hid;rw[DD.o,hsN gq]
         have e1:=(XW.o.cell 1).1;have f1:=(XW.o.cell 1).2;simp only[List.getElem?_cons_zero,List.getElem?_cons_succ] at e1;have XP:=zaa (XW.o.put 1 (.string sN));have BP:Hid (Below wr.heap.size wr (w1.setCell ⟨bX,1,none⟩ (.string sN))):=BW3.o.setCell XW.o.ge _;have IR:=zaa (I.o.below BP.o);clear gq hsN AGN GD DD;go_upto_region 22 with fail
         obtain ⟨w2,hw2⟩:∃ w2,w2=w1.setCell ⟨bX,1,none⟩ (.string sN):=⟨_,rfl⟩
         rw[← hw2];rw[← hw2] at XP BP IR;clear hw2 e1 f1 XW BW3 BF;have e0:=(XP.o.cell 0).1;have e1:=(XP.o.cell 1).1;have e2:=(XP.o.cell 2).1;simp only[List.set_cons_succ,List.set_cons_zero,List.getElem?_cons_zero,List.getElem?_cons_succ] at e0 e1 e2;have MN:=zaa (zjr ls k);have ML:=zbh ls k;obtain ⟨n0,n1,_,_⟩:=zad IR.o.m;have IA:=zaa (IR.o.below ((Below.refl _ _).alloc (Nat.le_refl _) (.cells #[.int .i64 dr,.string sN,.int .i64 cm] 189)));have RB:=zaa (yacl w2 ⟨dr,sN,cm⟩);have hzA:=IA.o.z;simp only[World.size_alloc] at hzA;rw[DO.o] at MN;go_wp2_with (at_builtin;refine zak _ rfl (.tmp 93) (.tmp 95) 100 rfl W1.heap.size 189 (.agg #[.int .i64 0,.string ⟨#[]⟩,.int .i64 0]) 3 32 Tryz.underlying100 zoo rfl (by decide) _ _ _ rfl IA.o.d _ 1 _ rfl RB.o (zho _) (by simp[maxLen];omega) (by omega) IA.o.z ?_);intro vN wN hownN hgrN
         rcases (zai hownN).shape with ⟨_,eN,_⟩ | ⟨bN,cN,rfl,_,_⟩
         ·omega
         obtain ⟨g1,g2⟩:=IA.o.growD ⟨dr,sN,cm⟩ (by rw[zbh];exact hownN) hgrN;have G:=zaa g2;rw[← MN.o] at G;clear n0 n1 g2 IA RB hownN hgrN ML MN;obtain ⟨n0,n1,n2,n3⟩:=zad g1;clear g1;go_wp2
         go_roundg (24 - (k+1))
         case measure=>omega
         case rel=>exact ⟨k+1,by omega,by go_num,⟨_,_,G.o⟩,AG2.o⟩
    ·obtain rfl:k=24:=by omega
     have EB:=zaa (zpa (ls:=ls) (n:=24) AG.o);have NI:=zbn ls 16;have ND:=zbh ls 24;have RI:=zaa (zai I.o.i);have RD:=zaa (zai I.o.d)
     rcases RI.o.shape with ⟨_,e,_⟩ | ⟨b1,c1,rfl,_,_⟩
     ·omega
     rcases RD.o.shape with ⟨_,e,_⟩ | ⟨b2,c2,rfl,_,_⟩
     ·omega
     obtain ⟨n0,n1,_,_⟩:=zad I.o.m;have CB:=zaa (CR.o _ I.o.b);obtain ⟨p0,p1,p2,p3⟩:=zad CB.o;have T1:=zaa (zdk I.o.i CB.o zlu);have T2:=zaa (zdk I.o.d CB.o zlk);have hbz:W1.heap.size≤wr.heap.size:=I.o.z;have BR:Hid (Below w.heap.size w ((wr.setCell ⟨w.heap.size+1,0,none⟩ (.slice (some ⟨b1,0,none⟩) (zbm ls 16).length c1)).setCell ⟨w.heap.size+1,1,none⟩ (.slice (some ⟨b2,0,none⟩) (zbw ls 24).length c2))):=((zab BW.o I.o.b BW.o.size).setCell (by simp only;omega) _).setCell (by simp only;omega) _
     have RR:Hid (RowIm ((wr.setCell ⟨w.heap.size+1,0,none⟩ (.slice (some ⟨b1,0,none⟩) (zbm ls 16).length c1)).setCell ⟨w.heap.size+1,1,none⟩ (.slice (some ⟨b2,0,none⟩) (zbw ls 24).length c2)) w.heap.size ((wr.setCell ⟨w.heap.size+1,0,none⟩ (.slice (some ⟨b1,0,none⟩) (zbm ls 16).length c1)).setCell ⟨w.heap.size+1,1,none⟩ (.slice (some ⟨b2,0,none⟩) (zbw ls 24).length c2)).heap.size (.agg #[.slice (some ⟨b1,0,none⟩) (zbm ls 16).length c1,.slice (some ⟨b2,0,none⟩) (zbw ls 24).length c2]) (zbm ls 16) (zbw ls 24)) :=
      ⟨_,_,rfl,(zai (ownsRow_setCell_other (ownsRow_setCell_other I.o.i T1.o _) T1.o _)).wide (by omega) (Nat.le_refl _),(zai (ownsRow_setCell_other (ownsRow_setCell_other I.o.d T2.o _) T2.o _)).wide (by omega) (Nat.le_refl _)⟩
     clear RI RD T1 T2 x0 x1 AG CB;simp only[zbn,zbh] at n0 n1 BR;clear NI ND;go_wp2;refine bodyPost_ret (v:=.tuple #[.agg #[.slice (some ⟨b1,0,none⟩) (zbm ls 16).length c1,.slice (some ⟨b2,0,none⟩) (zbw ls 24).length c2],.bool true]) (by simp[results,Tryz.results109,go_sem,p0,p1,zbn,zbh]) rfl ?_;rw[EB.o];simp only[zbn,zbh] at RR ⊢;exact ⟨⟨_,rfl,(fun _=>RR.o),fun h=>by cases h⟩,BR.o⟩
end Go.Proofs.YtahiphgmhndgaaaGreatDoor
