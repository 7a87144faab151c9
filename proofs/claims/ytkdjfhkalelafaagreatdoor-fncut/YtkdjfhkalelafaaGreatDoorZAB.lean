/- Several texts laid together: ImB, SecS, UpL, ImC, WdM, Nm. -/
import Derived.Test.YtkdjfhkalelafaaGreatDoorZAA
import Derived.Deep.RegionWith
import Derived.Deep.RegionHeld3
import Derived.Laws.OwnMore
import Derived.WalkKit
import Derived.Laws.IdiomStrings
import Derived.Laws.BytesArg
import Derived.Deep.OwnRows
namespace Go.Proofs.YtkdjfhkalelafaaGreatDoor
open Go.RowKit
def zqr (i:Nat) (z size:Int):Bool:=zet z && (z == 0 || decide ((i:Int) < size))
def yakm (zs:List Int) (size:Int) (k:Nat):Prop:=∀ i,i < k → zqr i (zs.getD i 0) size = true
def mapB (zs:List Int) (size:Int):Bool:=(List.range 8).all fun i => zqr i (zs.getD i 0) size
theorem zsf {zs:List Int} {size:Int} (h:yakm zs size 8):mapB zs size = true:=by
 unfold mapB
 rw [List.all_eq_true]
 intro i hi
 exact h i (List.mem_range.1 hi)
theorem zjd {zs:List Int} {size:Int} (h:mapB zs size = true):yakm zs size 8:=by
 unfold mapB at h
 rw [List.all_eq_true] at h
 intro i hi
 exact h i (List.mem_range.2 hi)
theorem yanu {zs:List Int} {size:Int} {k:Nat} (hk:k < 8) (h:zqr k (zs.getD k 0) size = false):mapB zs size = false:=by
 rw [Bool.eq_false_iff]
 intro e
 rw [zjd e k hk] at h
 exact absurd h (by decide)
theorem yacu {zs:List Int} {size:Int} {k:Nat} (h:yakm zs size k) (g:zqr k (zs.getD k 0) size = true):yakm zs size (k + 1):=by
 intro i hi
 by_cases e:i = k
 ·rw [e]; exact g
 ·exact h i (by omega)
def zfb (x:Ino):Bool:=if x.kind = 0 then decide (x.size = 0 ∧ x.links = 0 ∧ x.map = [0,0,0,0,0,0,0,0]) else if x.kind = 2 then x.size == 0 && x.links == 1 else decide (0 < x.links)
def zdy (x:Ino):Bool:=decide (0 ≤ x.kind ∧ x.kind ≤ 2) && (decide (0 ≤ x.size ∧ x.size ≤ 8) && (decide (0 ≤ x.links ∧ x.links ≤ 24) && (mapB x.map x.size && zfb x)))
def Ino.R (x:Ino):Prop:=∀ z ∈ x.map,-9223372036854775808 ≤ z ∧ z ≤ 9223372036854775807
theorem Ino.len (x:Ino):x.map.length = 8:=rfl
theorem Ino.at (x:Ino) (k:Nat) (hk:k < 8):x.cs[3 + k]? = some (.int .i64 (x.map.getD k 0)):=by
 rcases (show k = 0 ∨ k = 1 ∨ k = 2 ∨ k = 3 ∨ k = 4 ∨ k = 5 ∨ k = 6 ∨ k = 7 by omega) with rfl | rfl | rfl | rfl | rfl | rfl | rfl | rfl <;> rfl
theorem Ino.R.at {x:Ino} (h:x.R) (k:Nat) (hk:k < 8):-9223372036854775808 ≤ x.map.getD k 0 ∧ x.map.getD k 0 ≤ 9223372036854775807:=by
 have e:x.map.getD k 0 = x.map[k]'(by rw [x.len]; exact hk):=by rw [List.getD_eq_getElem?_getD,List.getElem?_eq_getElem (by rw [x.len]; exact hk)]; rfl
 rw [e]
 exact h _ (List.getElem_mem _)
set_option maxRecDepth 100000 in
set_option maxHeartbeats 2000000 in
@[go_sem] theorem yawt (m0 m1 m2 m3 m4 m5 m6 m7:Int) (w:World):(Op.equalIn 9999 64 (.agg #[.int .i64 m0,.int .i64 m1,.int .i64 m2,.int .i64 m3,.int .i64 m4,.int .i64 m5,.int .i64 m6,.int .i64 m7]) (.agg #[.int .i64 0,.int .i64 0,.int .i64 0,.int .i64 0,.int .i64 0,.int .i64 0,.int .i64 0,.int .i64 0])).run Tryz.prog w = .ok (decide ([m0,m1,m2,m3,m4,m5,m6,m7] = [0,0,0,0,0,0,0,0])) w:=by
 have u3:=Tryz.underlying3
 have a3:=Tryz.isAgg3
 have z3:=Tryz.sizeOf3
 rw [show (9999:Nat) = 9998 + 1 from rfl,Op.equalIn]
 simp only [Sem.run_bind,run_underlying Tryz.underlying64,Result.andThen_ok]
 simp only [Std.Legacy.Range.forIn_eq_forIn_range',Std.Legacy.Range.size,Nat.sub_zero,Nat.add_sub_cancel,Nat.div_one,List.range'_succ,List.range'_zero,List.forIn_cons,List.forIn_nil]
 go_simp
 by_cases h0:m0 = 0
 case neg => simp [h0]
 by_cases h1:m1 = 0
 case neg => simp [h0,h1]
 by_cases h2:m2 = 0
 case neg => simp [h0,h1,h2]
 by_cases h3:m3 = 0
 case neg => simp [h0,h1,h2,h3]
 by_cases h4:m4 = 0
 case neg => simp [h0,h1,h2,h3,h4]
 by_cases h5:m5 = 0
 case neg => simp [h0,h1,h2,h3,h4,h5]
 by_cases h6:m6 = 0
 case neg => simp [h0,h1,h2,h3,h4,h5,h6]
 by_cases h7:m7 = 0
 case neg => simp [h0,h1,h2,h3,h4,h5,h6,h7]
 simp [h0,h1,h2,h3,h4,h5,h6,h7]
set_option maxRecDepth 100000 in
set_option maxHeartbeats 2000000 in
theorem zub (x:Ino) (w:World) (hr:x.R):Calls Tryz.prog 70 #[x.v] w fun e w' => e = .returned (.bool (zdy x)) ∧ Below w.heap.size w w':=by
 have hv:x.v = .agg x.cs.toArray:=rfl
 have c0:(w.alloc (.cells x.cs.toArray 66)).cell? ⟨w.heap.size,0,none⟩ = some (.int .i64 x.kind):=(zao (xs:=x.cs) (zah rfl) 0).1
 have c1:(w.alloc (.cells x.cs.toArray 66)).cell? ⟨w.heap.size,1,none⟩ = some (.int .i64 x.size):=(zao (xs:=x.cs) (zah rfl) 1).1
 have c2:(w.alloc (.cells x.cs.toArray 66)).cell? ⟨w.heap.size,2,none⟩ = some (.int .i64 x.links):=(zao (xs:=x.cs) (zah rfl) 2).1
 have CM:=zaa (show ∀ k,k < 8 → (w.alloc (.cells x.cs.toArray 66)).cell? ⟨w.heap.size,3 + k,none⟩ = some (.int .i64 (x.map.getD k 0)) from fun k hk => ((zao (xs:=x.cs) (zah rfl) (3 + k)).1).trans (x.at k hk))
 have B:=zaa ((Below.refl w.heap.size w).alloc (Nat.le_refl _) (.cells x.cs.toArray 66))
 rw [hv]
 by_cases h0:0 ≤ x.kind ∧ x.kind ≤ 2
 ·by_cases h1:0 ≤ x.size ∧ x.size ≤ 8
  ·by_cases h2:0 ≤ x.links ∧ x.links ≤ 24
   ·have E:=zaa (show zdy x = (mapB x.map x.size && zfb x) by unfold zdy; rw [decide_eq_true h0,decide_eq_true h1,decide_eq_true h2]; rfl)
    have H:=zaa (And.intro h0 (And.intro h1 h2))
    clear h0 h1 h2
    go_enter Tryz.func70,Tryz.ntmps70
    go_wp2_with fail
    refine (zbm _ _ _ _ H.out.1).mono ?_
    rintro e w' ⟨rfl,rfl⟩
    go_wp2_with fail
    refine (zbm _ _ _ _ H.out.2.1).mono ?_
    rintro e w' ⟨rfl,rfl⟩
    go_wp2_with fail
    refine (zbm _ _ _ _ H.out.2.2).mono ?_
    rintro e w' ⟨rfl,rfl⟩
    go_wp2
    obtain ⟨wa,hwa⟩:∃ wa,wa = w.alloc (.cells x.cs.toArray 66):=⟨_,rfl⟩
    rw [← hwa] at c0 c1 c2 CM B ⊢
    have CA:=zaa (show ∀ j,wa.cell? ⟨w.heap.size,j,none⟩ = x.cs[j]? by rw [hwa]; exact fun j => (zao (xs:=x.cs) (zah rfl) j).1)
    clear hwa
    go_loopw [3] (fun i wr => ∃ k:Nat,k ≤ 8 ∧ i = .int .i64 k ∧ wr = wa ∧ Hid (yakm x.map x.size k)) (fun i _ => 8 - (intOf i).toNat)
    case atStart => exact ⟨0,by omega,rfl,rfl,fun i hi => absurd hi (by omega)⟩
    case round =>
     obtain ⟨k,hk,rfl,rfl,M⟩:=hrel
     by_cases hlt:k < 8
     ·have c3:=CM.out k hlt
      obtain ⟨r0,r1⟩:=hr.at k hlt
      have k0:(0:Int) ≤ (k:Int):=by omega
      have k1:(k:Int) < 8:=by omega
      have MN:=zaa (fun e => yanu (zs:=x.map) (size:=x.size) hlt e)
      have MS:=zaa (fun e => yacu (k:=k) M.out e)
      generalize x.map.getD k 0 = z at c3 r0 r1 MN MS
      clear CM CA M
      cases ht:zet z with
      | false =>
       have F:=zaa (show zdy x = false by rw [E.out,MN.out (by unfold zqr; rw [ht]; rfl),Bool.false_and])
       have T:=zaa ht
       clear ht MN MS E
       go_wp2_with fail
       refine (zel _ _ r0 r1).mono ?_
       rintro e w' ⟨rfl,rfl⟩
       rw [T.out]
       go_wp2
       go_ret
       exact ⟨zag F.out.symm,B.out⟩
      | true =>
       by_cases hz:z = 0
       ·have q:(z != 0) = false:=by rw [hz]; rfl
        have G:=zaa (MS.out (by unfold zqr; rw [ht,hz]; rfl))
        have T:=zaa ht
        clear ht MN MS hz
        go_wp2_with fail
        refine (zel _ _ r0 r1).mono ?_
        rintro e w' ⟨rfl,rfl⟩
        rw [T.out]
        go_wp2
        go_roundw
        case rel => exact ⟨k + 1,by omega,by go_num,trivial,G⟩
        case measure => simp [intOf]; omega
       ·have q:(z != 0) = true:=by rw [bne_iff_ne]; exact hz
        have qz:(z == 0) = false:=by rw [beq_eq_false_iff_ne]; exact hz
        by_cases hs:(k:Int) < x.size
        ·have q2:¬ x.size ≤ (k:Int):=by omega
         have G:=zaa (MS.out (by unfold zqr; rw [ht,qz,decide_eq_true hs]; rfl))
         have T:=zaa ht
         clear ht MN MS hz hs qz
         go_wp2_with fail
         refine (zel _ _ r0 r1).mono ?_
         rintro e w' ⟨rfl,rfl⟩
         rw [T.out]
         go_wp2
         go_roundw
         case rel => exact ⟨k + 1,by omega,by go_num,trivial,G⟩
         case measure => simp [intOf]; omega
        ·have q2:x.size ≤ (k:Int):=by omega
         have F:=zaa (show zdy x = false by rw [E.out,MN.out (by unfold zqr; rw [ht,qz,decide_eq_false hs]; rfl),Bool.false_and])
         have T:=zaa ht
         clear ht MN MS hz hs qz E
         go_wp2_with fail
         refine (zel _ _ r0 r1).mono ?_
         rintro e w' ⟨rfl,rfl⟩
         rw [T.out]
         go_wp2
         go_ret
         exact ⟨zag F.out.symm,B.out⟩
     ·obtain rfl:k = 8:=by omega
      have F:=zaa (show zdy x = zfb x by rw [E.out,zsf M.out,Bool.true_and])
      clear E M CM
      rcases (show x.kind = 0 ∨ x.kind = 1 ∨ x.kind = 2 by have:=H.out; omega) with hz | hz | hz
      ·have K:=zaa (show zfb x = decide (x.size = 0 ∧ x.links = 0 ∧ x.map = [0,0,0,0,0,0,0,0]) by unfold zfb; rw [if_pos hz])
       rw [hz] at c0
       have c3:wr.cell? ⟨w.heap.size,3,none⟩ = some (.int .i64 x.m0):=CA.out 3
       have c4:wr.cell? ⟨w.heap.size,4,none⟩ = some (.int .i64 x.m1):=CA.out 4
       have c5:wr.cell? ⟨w.heap.size,5,none⟩ = some (.int .i64 x.m2):=CA.out 5
       have c6:wr.cell? ⟨w.heap.size,6,none⟩ = some (.int .i64 x.m3):=CA.out 6
       have c7:wr.cell? ⟨w.heap.size,7,none⟩ = some (.int .i64 x.m4):=CA.out 7
       have c8:wr.cell? ⟨w.heap.size,8,none⟩ = some (.int .i64 x.m5):=CA.out 8
       have c9:wr.cell? ⟨w.heap.size,9,none⟩ = some (.int .i64 x.m6):=CA.out 9
       have c10:wr.cell? ⟨w.heap.size,10,none⟩ = some (.int .i64 x.m7):=CA.out 10
       clear CA
       go_wp2
       all_goals
        go_ret
        refine ⟨zag ?_,B.out⟩
        rw [F.out,K.out,eq_comm]
        clear c0 c1 c2 c3 c4 c5 c6 c7 c8 c9 c10
        rename_i h9
        simp_all [Ino.map]
      ·have K:=zaa (show zfb x = decide (0 < x.links) by unfold zfb; rw [if_neg (by omega),if_neg (by omega)])
       rw [hz] at c0
       clear CA
       go_wp2
       go_ret
       exact ⟨zag (by rw [F.out,K.out]),B.out⟩
      ·have K:=zaa (show zfb x = (x.size == 0 && x.links == 1) by unfold zfb; rw [if_neg (by omega),if_pos hz])
       rw [hz] at c0
       clear CA
       cases hq:(x.size == 0)
       all_goals
        rw [hq] at K
        go_wp2
        go_ret
        exact ⟨zag (by rw [F.out,K.out]; rfl),B.out⟩
   ·have E:=zaa (show zdy x = false by unfold zdy; rw [decide_eq_false h2,Bool.false_and,Bool.and_false,Bool.and_false])
    go_enter Tryz.func70,Tryz.ntmps70
    go_wp2_with fail
    refine (zbm _ _ _ _ h0).mono ?_
    rintro e w' ⟨rfl,rfl⟩
    go_wp2_with fail
    refine (zbm _ _ _ _ h1).mono ?_
    rintro e w' ⟨rfl,rfl⟩
    go_wp2_with fail
    refine (zfs _ _ _ _ h2).mono ?_
    rintro e w' ⟨rfl,rfl⟩
    go_wp2
    go_ret
    exact ⟨zag E.out.symm,B.out⟩
  ·have E:=zaa (show zdy x = false by unfold zdy; rw [decide_eq_false h1,Bool.false_and,Bool.and_false])
   go_enter Tryz.func70,Tryz.ntmps70
   go_wp2_with fail
   refine (zbm _ _ _ _ h0).mono ?_
   rintro e w' ⟨rfl,rfl⟩
   go_wp2_with fail
   refine (zfs _ _ _ _ h1).mono ?_
   rintro e w' ⟨rfl,rfl⟩
   go_wp2
   go_ret
   exact ⟨zag E.out.symm,B.out⟩
 ·have E:=zaa (show zdy x = false by unfold zdy; rw [decide_eq_false h0,Bool.false_and])
  go_enter Tryz.func70,Tryz.ntmps70
  go_wp2_with fail
  refine (zfs _ _ _ _ h0).mono ?_
  rintro e w' ⟨rfl,rfl⟩
  go_wp2
  go_ret
  exact ⟨zag E.out.symm,B.out⟩
structure Se where
 at_:Int
 val:Int
deriving DecidableEq
def Se.cells (s:Se):List Value:=[.int .i64 s.at_,.int .i64 s.val]
def ses (ps:List Se):List Value:=ps.flatMap Se.cells
theorem Se.cells_len (s:Se):s.cells.length = 2:=rfl
theorem zsj (ps:List Se) (k:Nat) (h:k < ps.length):(ses ps)[k * 2]? = some (.int .i64 ps[k].at_):=zbo _ 2 Se.cells_len ps k 0 h (by omega)
theorem yald (ps:List Se) (k:Nat) (h:k < ps.length):(ses ps)[k * 2 + 1]? = some (.int .i64 ps[k].val):=zbo _ 2 Se.cells_len ps k 1 h (by omega)
def RdE (w:World) (v:Value) (ps:List Se):Prop:=Rd w 2 v ps.length (ses ps)
theorem RdE.shape {w:World} {v:Value} {ps:List Se} (h:RdE w v ps):∃ ao cap,v = .slice ao ps.length cap ∧ ps.length ≤ cap ∧ (0 < ps.length → ∃ b o,ao = some ⟨b,o,none⟩ ∧ b < w.heap.size ∧
  ∀ k (h:k < ps.length),w.cell? ⟨b,o + k * 2,none⟩ = some (.int .i64 ps[k].at_) ∧ w.cell? ⟨b,o + k * 2 + 1,none⟩ = some (.int .i64 ps[k].val)):=by
 obtain ⟨_,ao,cap,rfl,h2,h3⟩:=h
 refine ⟨ao,cap,rfl,h2.1,fun hn => ?_⟩
 obtain ⟨b,o,rfl,hb,hc⟩:=h3 hn
 exact ⟨b,o,rfl,hb,fun k hk => ⟨(hc (k * 2) (by omega)).trans (zsj ps k hk),(hc (k * 2 + 1) (by omega)).trans (yald ps k hk)⟩⟩
theorem zzb:(Tryz.prog.info? 180).map (fun i => (i.zero,i.size,i.bytes)) = some (some (.agg #[.int .i64 0,.int .i64 0]),2,16):=by kernel_rfl
theorem zjy:(Tryz.prog.info? 83).map (fun i => (i.zero,i.size,i.bytes)) = some (some (.agg #[.int .i64 0,.int .i64 0]),2,16):=by kernel_rfl
theorem ziq (w1:World) (x y:Int):Rd (w1.alloc (.cells #[.int .i64 x,.int .i64 y] 83)) 2 (.slice (some ⟨w1.heap.size,0,none⟩) 1 1) 1 (ses [⟨x,y⟩]):=by
 refine ⟨rfl,_,_,rfl,⟨Nat.le_refl _,fun e => by cases e⟩,fun _ => ⟨w1.heap.size,0,rfl,by simp,fun j hj => ?_⟩⟩
 obtain ⟨e0,e1,_,_⟩:=zac (zah (w:=w1) (o:=.cells #[.int .i64 x,.int .i64 y] 83) rfl)
 rcases (show j = 0 ∨ j = 1 by omega) with rfl | rfl
 ·exact e0
 ·exact e1
theorem zew (l:List Se):∀ u ∈ ses l,u.oneCell' = true:=by
 intro u hu
 simp only [ses,List.mem_flatMap] at hu
 obtain ⟨m,_,hm⟩:=hu
 simp [Se.cells] at hm
 rcases hm with rfl | rfl <;> rfl
theorem yaka (l l':List Se):ses (l ++ l') = ses l ++ ses l':=by simp [ses]
structure UpI (W w:World) (vL:Value) (ls:List Se):Prop where
 l:w.ownsRow W.heap.size 83 2 vL ls.length (ses ls)
 b:Below W.heap.size W w
theorem UpI.z {W w:World} {vL:Value} {ls:List Se} (h:UpI W w vL ls):W.heap.size ≤ w.heap.size:=h.b.size
theorem UpI.below {W w w':World} {vL:Value} {ls:List Se} (h:UpI W w vL ls) (hb:Below w.heap.size w w'):UpI W w' vL ls :=
 ⟨((zad h.l).below hb (Nat.le_refl _)).1,zab h.b hb h.z⟩
theorem UpI.grow {W w w':World} {vL v':Value} {ls:List Se} (h:UpI W w vL ls) (ms:List Se) (ho:w'.ownsRow W.heap.size 83 2 v' (ls.length + ms.length) (ses ls ++ ses ms)) (hg:w.grownBy w' vL.ownBlock):UpI W w' v' (ls ++ ms) :=
 ⟨by rw [yaka,List.length_append]; exact ho,h.b.grown hg h.z (fun q hq => (h.l.lt q hq).1)⟩
def wrL (i:Int) (x:Ino) (k:Nat):List Se:=[⟨48 + 12 * i,x.kind⟩,⟨48 + 12 * i + 1,x.size⟩,⟨48 + 12 * i + 2,x.links⟩] ++ (List.range k).map (fun j => ⟨48 + 12 * i + (3 + (j:Int)),x.map.getD j 0⟩)
theorem zxi (i:Int) (x:Ino) (k:Nat):(wrL i x k).length = 3 + k:=by simp [wrL]; omega
theorem yamf (i:Int) (x:Ino) (k:Nat):wrL i x (k + 1) = wrL i x k ++ [⟨48 + 12 * i + (3 + (k:Int)),x.map.getD k 0⟩]:=by
 unfold wrL; rw [List.range_succ,List.map_append,List.append_assoc]; rfl
set_option maxRecDepth 100000 in
set_option maxHeartbeats 2000000 in
theorem zur (i:Int) (x:Ino) (w:World) (hi:0 ≤ i ∧ i < 16) :
  Calls Tryz.prog 187 #[.int .i64 i,x.v] w fun e w' => ∃ v',e = .returned v' ∧ Row w' 83 2 w.heap.size w'.heap.size v' (wrL i x 8).length (ses (wrL i x 8)) ∧ Below w.heap.size w w':=by
 have hv:x.v = .agg x.cs.toArray:=rfl
 obtain ⟨W,hW⟩:∃ W,W = w.alloc (.cells x.cs.toArray 66):=⟨_,rfl⟩
 have CA:Hid (∀ w',Below W.heap.size W w' → ∀ j,w'.cell? ⟨w.heap.size,j,none⟩ = x.cs[j]?):=fun w' hb j => by
  have:w'.heap[w.heap.size]? = some (.cells x.cs.toArray 66 (0,0)):=(hb.block _ (by rw [hW]; simp)).trans (by rw [hW]; exact zah rfl)
  exact (zao (xs:=x.cs) this j).1
 have BW:Hid (Below w.heap.size w W):=by rw [hW]; exact (Below.refl _ _).alloc (Nat.le_refl _) _
 have c0:W.cell? ⟨w.heap.size,0,none⟩ = some (.int .i64 x.kind):=CA.out W (Below.refl _ _) 0
 have c1:W.cell? ⟨w.heap.size,1,none⟩ = some (.int .i64 x.size):=CA.out W (Below.refl _ _) 1
 have c2:W.cell? ⟨w.heap.size,2,none⟩ = some (.int .i64 x.links):=CA.out W (Below.refl _ _) 2
 have hWz:w.heap.size < W.heap.size:=by rw [hW]; simp
 rw [hv]
 go_enter Tryz.func187,Tryz.ntmps187
 have SK:Hid (∀ w',Below W.heap.size W w' → w'.cell? ⟨w.heap.size,0,none⟩ = some (.int .i64 x.kind) ∧ w'.cell? ⟨w.heap.size,1,none⟩ = some (.int .i64 x.size) ∧ w'.cell? ⟨w.heap.size,2,none⟩ = some (.int .i64 x.links)):=fun w' hb => ⟨CA.out w' hb 0,CA.out w' hb 1,CA.out w' hb 2⟩
 go_wp2_with fail
 rw [← hW]
 clear hW c0 c1 c2
 go_region_held3 (fun w' => w'.cell? ⟨w.heap.size,0,none⟩ = some (.int .i64 x.kind) ∧ w'.cell? ⟨w.heap.size,1,none⟩ = some (.int .i64 x.size) ∧ w'.cell? ⟨w.heap.size,2,none⟩ = some (.int .i64 x.links))
  (exact SK.out _ (by repeat (first | exact Below.refl _ _ | refine Below.drew ?_ | refine Below.alloc ?_ (by simp) _)))
  (first | (go_at_call 93; refine (zbc _ _ _ hi (by omega)).mono ?_; rintro e w' ⟨rfl,hw'⟩; subst w'))
 have START:Hid (UpI W (W.alloc (.cells #[.int .i64 (48 + 12 * i),.int .i64 x.kind,.int .i64 (48 + 12 * i + 1),.int .i64 x.size,.int .i64 (48 + 12 * i + 2),.int .i64 x.links] 83)).drew (.slice (some ⟨W.heap.size,0,none⟩) 3 3) (wrL i x 0)) :=
  UpI.below (w:=W.alloc (.cells #[.int .i64 (48 + 12 * i),.int .i64 x.kind,.int .i64 (48 + 12 * i + 1),.int .i64 x.size,.int .i64 (48 + 12 * i + 2),.int .i64 x.links] 83)) ⟨World.ownsRow_lit W _ 3 (Nat.le_refl _) (by simp [maxLen]) rfl,(Below.refl _ _).alloc (Nat.le_refl _) _⟩ ((Below.refl _ _).drew)
 clear SK
 go_wp2
 go_loopw [5,6] (fun vL i' wr => ∃ m:Nat,m ≤ 8 ∧ i' = .int .i64 m ∧ Hid (UpI W wr vL (wrL i x m))) (fun _ i' _ => 8 - (intOf i').toNat)
 case atStart => exact ⟨0,by omega,rfl,START⟩
 case round =>
  obtain ⟨m,hm,rfl,J⟩:=hrel
  clear START
  have m0:(0:Int) ≤ (m:Int):=by omega
  by_cases hlt:m < 8
  ·have m1:(m:Int) < 8:=by omega
   have SK:Hid (∀ w',Below W.heap.size W w' → w'.cell? ⟨w.heap.size,3 + m,none⟩ = some (.int .i64 (x.map.getD m 0))):=fun w' hb => (CA.out w' hb (3 + m)).trans (x.at m hlt)
   have x1:=SK.out wr J.out.b
   have EM:=zaa (yamf i x m)
   have l1:=zxi i x m
   have l2:(wrL i x m).length ≤ 11:=by omega
   have li:=hi.1
   have lj:=hi.2
   have wp1:IntKind.i64.wrap (3 + (m:Int)) = 3 + (m:Int):=by rw [IntKind.wrap_i64]; omega
   generalize x.map.getD m 0 = y at *
   have J4:=zaa (J.out.below ((Below.refl _ _).alloc (Nat.le_refl _) (.cells #[.int .i64 (48 + 12 * i + (3 + (m:Int))),.int .i64 y] 83)))
   have J4d:=zaa ((J.out.below ((Below.refl wr.heap.size wr).drew)).below ((Below.refl _ _).alloc (Nat.le_refl _) (.cells #[.int .i64 (48 + 12 * i + (3 + (m:Int))),.int .i64 y] 83)))
   have HRD:=zaa (ziq wr (48 + 12 * i + (3 + (m:Int))) y)
   have HRDd:=zaa (ziq wr.drew (48 + 12 * i + (3 + (m:Int))) y)
   clear l1
   go_wp2_with fail
   go_region_held3 (fun w' => w'.cell? ⟨w.heap.size,3 + m,none⟩ = some (.int .i64 y))
    (first | exact SK.out _ G.out.b | exact SK.out _ J.out.b | exact SK.out _ J.out.b.drew | exact SK.out _ J4.out.b | exact SK.out _ J4d.out.b)
    (first
     | (go_at_call 93; refine (zbc _ _ _ hi (by omega)).mono ?_; rintro e w' ⟨rfl,hw'⟩; subst w')
     | (refine zam rfl (.tmp 27) (.tmp 37) 46 rfl W.heap.size 83 (.agg #[.int .i64 0,.int .i64 0]) 2 16 Tryz.underlying46 zjy rfl (by decide) _ (wrL i x m).length (ses (wrL i x m)) rfl (by first | exact J4.out.l | exact J4d.out.l) _ 1 (ses [⟨48 + 12 * i + (3 + (m:Int)),y⟩]) rfl (by first | exact HRD.out | exact HRDd.out) (zew _) (by simp [maxLen]; omega) (by omega) (by first | exact J4.out.z | exact J4d.out.z) ?_; intro vN wN hownN hgrN; have G:=(by first | exact zaa (J4.out.grow [⟨48 + 12 * i + (3 + (m:Int)),y⟩] hownN hgrN) | exact zaa (J4d.out.grow [⟨48 + 12 * i + (3 + (m:Int)),y⟩] hownN hgrN):Hid (UpI W wN vN (wrL i x m ++ [⟨48 + 12 * i + (3 + (m:Int)),y⟩]))); clear hownN hgrN))
   all_goals
    rw [← EM.out] at G
    clear J J4 J4d HRD HRDd x1 SK
    go_wp2
    go_roundw
    case rel => exact ⟨m + 1,by omega,by go_num,G⟩
    case measure => simp [intOf]; omega
  ·obtain rfl:m = 8:=by omega
   obtain ⟨-,aL,cL,hvL,-⟩:=(zad J.out.l).rd
   subst hvL
   go_wp2
   go_ret
   exact ⟨_,rfl,(zad J.out.l).wide (by omega) (Nat.le_refl _),zab BW.out (J.out.b) (by omega)⟩
end Go.Proofs.YtkdjfhkalelafaaGreatDoor

namespace Go.Proofs.YtkdjfhkalelafaaGreatDoor
def zpl (n:Nat):List Nat:=if _h:n = 0 then [] else zpl (n / 27) ++ [n % 27]
termination_by n
decreasing_by omega
theorem zku:zpl 0 = []:=by rw [zpl]; simp
theorem zhz {n:Nat} (h:0 < n):zpl n = zpl (n / 27) ++ [n % 27]:=by rw [zpl]; simp [show n ≠ 0 by omega]
def val (ds:List Nat):Nat:=ds.foldl (fun a d => 27 * a + d) 0
theorem zmk (ds:List Nat) (d:Nat):val (ds ++ [d]) = 27 * val ds + d:=by simp [val]
theorem yaht {n:Nat} (h:0 < n):1 ≤ (zpl n).length:=by rw [zhz h]; simp
theorem yabc {α:Type} {P:List α → Prop} (h0:P []) (h1:∀ l x,P l → P (l ++ [x])):∀ l,P l:=by
 intro l
 have:∀ n (l:List α),l.length = n → P l:=by
  intro n
  induction n with
  | zero => intro l hl; rw [List.length_eq_zero_iff.1 hl]; exact h0
  | succ n ih =>
   intro l hl
   have hne:l ≠ []:=by intro h; subst h; simp at hl
   rw [← List.dropLast_concat_getLast hne]
   exact h1 _ _ (ih _ (by simp [hl]))
 exact this _ l rfl
theorem yask {ds:List Nat} (h:∀ d ∈ ds,1 ≤ d ∧ d < 27) (hn:ds ≠ []):0 < val ds:=by
 rw [← List.dropLast_concat_getLast hn,zmk]
 have:=(h _ (List.getLast_mem hn)).1
 omega
theorem yaln (ds:List Nat):(∀ d ∈ ds,1 ≤ d ∧ d < 27) → zpl (val ds) = ds:=by
 refine yabc (P:=fun ds => (∀ d ∈ ds,1 ≤ d ∧ d < 27) → zpl (val ds) = ds) (fun _ => zku) (fun l x ih h => ?_) ds
 have hx:=h x (by simp)
 rw [zmk,zhz (by omega),show (27 * val l + x) / 27 = val l by omega,show (27 * val l + x) % 27 = x by omega,ih (fun d hd => h d (by simp [hd]))]
theorem yaug (ds:List Nat):(∀ d ∈ ds,d < 27) → val ds < 27 ^ ds.length:=by
 refine yabc (P:=fun ds => (∀ d ∈ ds,d < 27) → val ds < 27 ^ ds.length) (fun _ => by simp [val]) (fun l x ih h => ?_) ds
 have hx:=h x (by simp)
 have:=ih (fun d hd => h d (by simp [hd]))
 rw [zmk,List.length_append,List.length_singleton,Nat.pow_succ]
 omega
theorem yals (k:Nat):∀ n,n < 27 ^ k → (zpl n).length ≤ k:=by
 induction k with
 | zero =>
  intro n h
  have:n = 0:=by simpa using h
  subst this
  rw [zku]
  simp
 | succ k ih =>
  intro n h
  by_cases h0:n = 0
  ·subst h0; rw [zku]; simp
  ·rw [zhz (by omega),List.length_append,List.length_singleton]
   have:=ih (n / 27) (by rw [Nat.pow_succ] at h; omega)
   omega
structure Dg (n m:Nat) (ds:List Nat):Prop where
 eq:zpl n = zpl m ++ ds
 ok:∀ d ∈ ds,1 ≤ d ∧ d < 27
theorem Dg.start (n:Nat):Dg n n []:=⟨by simp,fun d h => by cases h⟩
theorem Dg.step {n m:Nat} {ds:List Nat} (h:Dg n m ds) (hm:0 < m) (h1:m % 27 ≠ 0):Dg n (m / 27) (m % 27 :: ds) :=
 ⟨by rw [h.eq,zhz hm]; simp,fun d hd => by
  rcases List.mem_cons.1 hd with rfl | hd
  ·omega
  ·exact h.ok d hd⟩
theorem Dg.zero {n m:Nat} {ds:List Nat} (h:Dg n m ds) (hm:0 < m) (h0:m % 27 = 0):¬ ∀ d ∈ zpl n,1 ≤ d:=fun x => by
 have:=x (m % 27) (by rw [h.eq,zhz hm]; simp)
 omega
theorem Dg.many {n m:Nat} {ds:List Nat} (h:Dg n m ds) (hm:0 < m):ds.length < (zpl n).length:=by
 rw [h.eq,zhz hm]; simp; omega
theorem Dg.len {n m:Nat} {ds:List Nat} (h:Dg n m ds):ds.length ≤ (zpl n).length:=by rw [h.eq]; simp
theorem Dg.done {n:Nat} {ds:List Nat} (h:Dg n 0 ds):zpl n = ds:=by rw [h.eq,zku]; simp
def nmB (s:ByteArray):Bool:=decide (1 ≤ s.size ∧ s.size ≤ 6 ∧ ∀ j (h:j < s.size),97 ≤ s[j].toNat ∧ s[j].toNat ≤ 122)
theorem zwi {s:ByteArray} (h:s.size < 1):nmB s = false:=decide_eq_false (fun x => by omega)
theorem ztg {s:ByteArray} (h:6 < s.size):nmB s = false:=decide_eq_false (fun x => by omega)
theorem znq {s:ByteArray} {k:Nat} (h:k < s.size) (hb:¬ (97 ≤ s[k].toNat ∧ s[k].toNat ≤ 122)):nmB s = false:=decide_eq_false (fun x => hb (x.2.2 k h))
theorem zyj {s:ByteArray} (h0:1 ≤ s.size) (h6:s.size ≤ 6) (h:∀ j (h:j < s.size),97 ≤ s[j].toNat ∧ s[j].toNat ≤ 122):nmB s = true:=decide_eq_true ⟨h0,h6,h⟩
theorem zdc {s:ByteArray} (h:nmB s = true):1 ≤ s.size ∧ s.size ≤ 6 ∧ ∀ j (h:j < s.size),97 ≤ s[j].toNat ∧ s[j].toNat ≤ 122:=of_decide_eq_true h
def letD (b:UInt8):Nat:=b.toNat - 96
def zws (s:ByteArray):List Nat:=s.data.toList.map letD
def pk (s:ByteArray) (k:Nat):Nat:=val ((zws s).take k)
theorem zgl (s:ByteArray):(zws s).length = s.size:=by unfold zws; rw [List.length_map,Array.length_toList]; rfl
theorem zyp (s:ByteArray) (j:Nat) (h:j < s.size):(zws s)[j]'(by rw [zgl]; exact h) = s[j].toNat - 96:=by
 simp only [zws,List.getElem_map,letD,Array.getElem_toList]
 rfl
theorem zzh (s:ByteArray):pk s 0 = 0:=by simp [pk,val]
theorem yakc (s:ByteArray) (k:Nat) (h:k < s.size):pk s (k + 1) = 27 * pk s k + (s[k].toNat - 96):=by
 unfold pk
 rw [List.take_succ_eq_append_getElem (by rw [zgl]; exact h),zmk,zyp s k h]
theorem yasi {s:ByteArray} (h:nmB s = true):∀ d ∈ zws s,1 ≤ d ∧ d < 27:=by
 intro d hd
 obtain ⟨i,hi,rfl⟩:=List.getElem_of_mem hd
 rw [zgl] at hi
 rw [zyp s i hi]
 have:=(zdc h).2.2 i hi
 omega
theorem yavm {s:ByteArray}:pk s s.size = val (zws s):=by unfold pk; rw [← zgl,List.take_length]
theorem yarl {s:ByteArray} {k:Nat} (hl:∀ j (h:j < s.size),j < k → 97 ≤ s[j].toNat ∧ s[j].toNat ≤ 122) (h6:k ≤ 6):pk s k < 387420489:=by
 have h1:pk s k < 27 ^ ((zws s).take k).length:=by
  unfold pk
  apply yaug
  intro d hd
  obtain ⟨i,hi,rfl⟩:=List.getElem_of_mem hd
  simp only [List.length_take,zgl] at hi
  rw [List.getElem_take,zyp s i (by omega)]
  have:=hl i (by omega) (by omega)
  omega
 have h2:((zws s).take k).length ≤ 6:=by simp only [List.length_take]; omega
 have h3:27 ^ ((zws s).take k).length ≤ 27 ^ 6:=Nat.pow_le_pow_right (by omega) h2
 omega
def zcl (ds:List Nat):ByteArray:=⟨(ds.map fun d => UInt8.ofNat (96 + d)).toArray⟩
theorem zci (ds:List Nat):(zcl ds).size = ds.length:=by simp [zcl,ByteArray.size]
theorem yadm (ds:List Nat) (j:Nat) (h:j < (zcl ds).size) (hd:∀ d ∈ ds,d < 27):(zcl ds)[j].toNat = 96 + ds[j]'(by rw [zci] at h; exact h):=by
 have hj:j < ds.length:=by rw [zci] at h; exact h
 have:=hd _ (List.getElem_mem hj)
 have e:(zcl ds)[j] = UInt8.ofNat (96 + ds[j]):=by
  have e1:(zcl ds)[j] = ((ds.map fun d => UInt8.ofNat (96 + d)).toArray)[j]'(by simpa using hj):=rfl
  rw [e1,List.getElem_toArray,List.getElem_map]
 rw [e,UInt8.toNat_ofNat']
 omega
theorem zwf {s:ByteArray} (h:nmB s = true):zcl (zws s) = s:=by
 obtain ⟨⟨l⟩⟩:=s
 simp only [zcl,zws,List.map_map]
 congr 2
 have hh:=(zdc h).2.2
 apply List.ext_getElem
 ·simp
 ·intro i h1 h2
  simp only [List.getElem_map,Function.comp,letD]
  have:=hh i h2
  have e:(ByteArray.mk ⟨l⟩)[i]'h2 = l[i]'h2:=rfl
  rw [e] at this
  have e2:96 + (l[i].toNat - 96) = l[i].toNat:=by omega
  rw [e2,UInt8.ofNat_toNat]
theorem zvo (d:Nat) (ds:List Nat):(⟨#[UInt8.ofNat (96 + d)]⟩:ByteArray) ++ zcl ds = zcl (d :: ds):=by
 apply ByteArray.ext
 simp [zcl]
theorem zys {ds:List Nat} (hd:∀ d ∈ ds,1 ≤ d ∧ d < 27) (h1:1 ≤ ds.length) (h6:ds.length ≤ 6):nmB (zcl ds) = true:=by
 refine zyj (by rw [zci]; exact h1) (by rw [zci]; exact h6) (fun j h => ?_)
 rw [yadm ds j h (fun d x => (hd d x).2)]
 have:=hd _ (List.getElem_mem (by rw [zci] at h; exact h))
 omega
def zfx (n:Int):Bool:=decide (0 < n ∧ (∀ d ∈ zpl n.toNat,1 ≤ d) ∧ (zpl n.toNat).length ≤ 6)
def zto (n:Int):ByteArray:=if zfx n = true then zcl (zpl n.toNat) else ⟨#[]⟩
def unpC (n:Int):Int:=if zfx n = true then 0 else 3
def zjj (s:ByteArray):Int:=if nmB s = true then (pk s s.size:Nat) else 0
def zpu (s:ByteArray):Int:=if 65536 < s.size then 2 else if nmB s = true then 0 else 12
theorem zxu {n:Int} (h:zfx n = false):zto n = ⟨#[]⟩ ∧ unpC n = 3:=by unfold zto unpC; rw [h]; exact ⟨rfl,rfl⟩
theorem zyn {n:Int} (h:¬ 0 < n):zfx n = false:=decide_eq_false (fun x => h x.1)
theorem yabf {n:Nat} {m:Nat} {ds:List Nat} (h:Dg n m ds) (hm:0 < m) (h0:m % 27 = 0):zfx (n:Int) = false:=decide_eq_false (fun x => h.zero hm h0 x.2.1)
theorem yaol {n:Nat} {m:Nat} {ds:List Nat} (h:Dg n m ds) (hm:0 < m) (h6:6 ≤ ds.length):zfx (n:Int) = false:=decide_eq_false (fun x => by have:=h.many hm; have:=x.2.2; simp only [Int.toNat_natCast] at this; omega)
theorem yapd {n:Nat} {ds:List Nat} (h:Dg n 0 ds) (hn:0 < n) (h6:ds.length ≤ 6):zto (n:Int) = zcl ds ∧ unpC (n:Int) = 0:=by
 have g:zfx (n:Int) = true:=decide_eq_true ⟨by omega,by rw [Int.toNat_natCast,h.done]; exact fun d x => (h.ok d x).1,by rw [Int.toNat_natCast,h.done]; exact h6⟩
 unfold zto unpC
 rw [if_pos g,if_pos g,Int.toNat_natCast,h.done]
 exact ⟨rfl,rfl⟩
theorem yane {s:ByteArray} (h:nmB s = true):zfx (zjj s) = true ∧ zto (zjj s) = s:=by
 have e:zjj s = ((val (zws s):Nat):Int):=by unfold zjj; rw [if_pos h,yavm]
 have hl:=yasi h
 have hd:zpl (val (zws s)) = zws s:=yaln _ hl
 have hn:=zdc h
 have hne:zws s ≠ []:=by intro x; have:=zgl s; rw [x] at this; simp at this; omega
 have hp:=yask hl hne
 have g:zfx (zjj s) = true:=by
  rw [e]
  refine decide_eq_true ⟨by omega,?_,?_⟩
  ·rw [Int.toNat_natCast,hd]; exact fun d x => (hl d x).1
  ·rw [Int.toNat_natCast,hd,zgl]; exact hn.2.1
 refine ⟨g,?_⟩
 unfold zto
 rw [if_pos g,e,Int.toNat_natCast,hd,zwf h]
end Go.Proofs.YtkdjfhkalelafaaGreatDoor

namespace Go.Proofs.YtkdjfhkalelafaaGreatDoor
open Go.RowKit
theorem zzq {a b:ByteArray} {c d:Int} (h:a = b) (k:c = d):Ending.returned (.tuple #[.string a,.int .i64 c]) = .returned (.tuple #[.string b,.int .i64 d]):=by rw [h,k]
theorem yapy {a b:ByteArray} {c d:Bool} (h:a = b) (k:c = d):Ending.returned (.tuple #[.string a,.bool c]) = .returned (.tuple #[.string b,.bool d]):=by rw [h,k]
theorem yadq (n:Int) (w:World) (h:1 ≤ n ∧ n ≤ 6):Calls Tryz.prog 92 #[.int .i64 n,.int .i64 1,.int .i64 6] w fun e w' => e = .returned (.bool true) ∧ w' = w:=by
 obtain ⟨h1,h2⟩:=h
 go_enter Tryz.func92,Tryz.ntmps92
 go_wp2
 go_ret
 exact ⟨rfl,rfl⟩
theorem yakh (n:Int) (w:World) (h:¬ (1 ≤ n ∧ n ≤ 6)):Calls Tryz.prog 92 #[.int .i64 n,.int .i64 1,.int .i64 6] w fun e w' => e = .returned (.bool false) ∧ w' = w:=by
 rcases (show ¬ 1 ≤ n ∨ (1 ≤ n ∧ ¬ n ≤ 6) by omega) with h1 | ⟨h1,h2⟩
 all_goals
  clear h
  go_enter Tryz.func92,Tryz.ntmps92
  go_wp2
  go_ret
  exact ⟨rfl,rfl⟩
set_option maxHeartbeats 1000000 in
theorem zeg (s:ByteArray) (w:World) (hs:s.size ≤ maxLen):Calls Tryz.prog 116 #[.string s] w fun e w' => e = .returned (.bool (nmB s)) ∧ w' = w:=by
 unfold maxLen at hs
 by_cases c:1 ≤ s.size ∧ s.size ≤ 6
 ·have c':1 ≤ (s.size:Int) ∧ (s.size:Int) ≤ 6:=by omega
  have C:=zaa c'
  obtain ⟨c1,c2⟩:=c
  clear c'
  go_enter Tryz.func116,Tryz.ntmps116
  go_wp2_with (go_at_call 92; refine (yadq _ _ C.out).mono ?_; rintro e w' ⟨rfl,rfl⟩)
  go_loop [3] (fun i => ∃ k:Nat,k ≤ s.size ∧ i = .int .i64 k ∧ Hid (∀ j (h:j < s.size),j < k → 97 ≤ s[j].toNat ∧ s[j].toNat ≤ 122)) (fun i => s.size - (intOf i).toNat)
  case atStart => exact ⟨0,by omega,rfl,fun j h b => absurd b (by omega)⟩
  case round =>
   obtain ⟨k,hk,rfl,H⟩:=hrel
   by_cases hlt:k < s.size
   ·rcases (show ((s[k].toNat:Int) < 97) ∨ (¬ ((s[k].toNat:Int) < 97) ∧ (122:Int) < (s[k].toNat:Int)) ∨ (¬ ((s[k].toNat:Int) < 97) ∧ ¬ (122:Int) < (s[k].toNat:Int)) by omega) with d | ⟨d,d'⟩ | ⟨d,d'⟩
    ·have E:=zaa (znq hlt (by omega))
     go_wp2
     go_ret
     exact ⟨zag E.out.symm,rfl⟩
    ·have E:=zaa (znq hlt (by omega))
     go_wp2
     go_ret
     exact ⟨zag E.out.symm,rfl⟩
    ·go_wp2
     go_round
     case rel =>
      refine ⟨k + 1,by omega,by go_num,fun j h b => ?_⟩
      by_cases e:j = k
      ·subst e; omega
      ·exact H.out j h (by omega)
     case measure => simp [intOf]; omega
   ·have E:=zaa (zyj c1 c2 (fun j h => H.out j h (by omega)))
    go_wp2
    go_ret
    exact ⟨zag E.out.symm,rfl⟩
 ·have c':¬ (1 ≤ (s.size:Int) ∧ (s.size:Int) ≤ 6):=by omega
  have C:=zaa c'
  have E:=zaa (show nmB s = false from decide_eq_false (fun x => c ⟨x.1,x.2.1⟩))
  clear c c'
  go_enter Tryz.func116,Tryz.ntmps116
  go_wp2_with (go_at_call 92; refine (yakh _ _ C.out).mono ?_; rintro e w' ⟨rfl,rfl⟩)
  go_ret
  exact ⟨zag E.out.symm,rfl⟩
theorem yaew {s:ByteArray} (h:65536 < s.size):zjj s = 0 ∧ zpu s = 2:=by
 unfold zjj zpu
 rw [if_neg (by rw [ztg (by omega)]; simp),if_pos h]
 exact ⟨rfl,rfl⟩
theorem zmo {s:ByteArray} (h:¬ 65536 < s.size) (h2:nmB s = false):zjj s = 0 ∧ zpu s = 12:=by
 unfold zjj zpu
 rw [h2,if_neg h]
 exact ⟨rfl,rfl⟩
theorem zrf {s:ByteArray} (h:nmB s = true):zjj s = ((pk s s.size:Nat):Int) ∧ zpu s = 0:=by
 unfold zjj zpu
 have:=(zdc h).2.1
 rw [if_pos h,if_neg (by omega),if_pos h]
 exact ⟨rfl,rfl⟩
set_option maxRecDepth 100000 in
set_option maxHeartbeats 4000000 in
theorem zhd (s:ByteArray) (w:World) (hs:s.size ≤ maxLen):Calls Tryz.prog 68 #[.string s] w fun e w' => e = .returned (.tuple #[.int .i64 (zjj s),.int .i64 (zpu s)]) ∧ Below w.heap.size w w':=by
 unfold maxLen at hs
 by_cases c0:65536 < s.size
 ·have E:=zaa (yaew c0)
  go_enter Tryz.func68,Tryz.ntmps68
  go_wp2
  go_ret2
  exact ⟨zdk E.out.1.symm E.out.2.symm,Below.refl _ _⟩
 by_cases c1:s.size < 1
 ·have E:=zaa (zmo c0 (zwi c1))
  go_enter Tryz.func68,Tryz.ntmps68
  go_wp2
  go_ret2
  exact ⟨zdk E.out.1.symm E.out.2.symm,Below.refl _ _⟩
 by_cases c2:6 < s.size
 ·have E:=zaa (zmo c0 (ztg c2))
  go_enter Tryz.func68,Tryz.ntmps68
  go_wp2
  go_ret2
  exact ⟨zdk E.out.1.symm E.out.2.symm,Below.refl _ _⟩
 have hconv:=run_bytes_of_string (P:=Tryz.prog) w 9 22 5 s Tryz.underlying9 Tryz.underlying22 Tryz.underlying5
 generalize hcap:grownCap w s.size 0 5 = cap at hconv
 have CELL:Hid (∀ k (h:k < s.size),(w.drew.alloc (.cells (bytesRow s cap) 5 ((bytesRow s cap).size,(bytesRow s cap).size + 1))).cell? ⟨w.heap.size,k,none⟩ = some (.int .u8 (s[k].toNat:Int))):=fun k h => by
  have e:=World.cell?_alloc_mark w.drew (bytesRow s cap) 5 ((bytesRow s cap).size,(bytesRow s cap).size + 1) k
  rw [bytesRow_at s cap k h] at e
  exact e
 have BB:Hid (Below w.heap.size w (w.drew.alloc (.cells (bytesRow s cap) 5 ((bytesRow s cap).size,(bytesRow s cap).size + 1)))):=((Below.refl _ _).drew).alloc (Nat.le_refl _) _
 clear hcap
 generalize w.drew.alloc (.cells (bytesRow s cap) 5 ((bytesRow s cap).size,(bytesRow s cap).size + 1)) = w1 at hconv CELL BB
 go_enter Tryz.func68,Tryz.ntmps68
 go_wp2
 go_loop [4,6,21] (fun n _ i => ∃ k:Nat,k ≤ s.size ∧ i = .int .i64 k ∧ n = .int .i64 ((pk s k:Nat):Int) ∧ Hid (∀ j (h:j < s.size),j < k → 97 ≤ s[j].toNat ∧ s[j].toNat ≤ 122)) (fun _ _ i => s.size - (intOf i).toNat)
 case atStart => exact ⟨0,by omega,rfl,by rw [zzh]; rfl,fun j h b => absurd b (by omega)⟩
 case round =>
  obtain ⟨k,hk,rfl,rfl,H⟩:=hrel
  by_cases hlt:k < s.size
  ·have x0:=CELL.out k hlt
   have bd:pk s k < 387420489:=yarl H.out (by omega)
   have SU:=zaa (yakc s k hlt)
   have b255:s[k].toNat < 256:=s[k].toNat_lt
   have NO:=zaa (znq (s:=s) hlt)
   have NX:Hid (97 ≤ s[k].toNat ∧ s[k].toNat ≤ 122 → ∀ j (h:j < s.size),j < k + 1 → 97 ≤ s[j].toNat ∧ s[j].toNat ≤ 122):=fun hx j h b => by
    by_cases e:j = k
    ·subst e; exact hx
    ·exact H.out j h (by omega)
   generalize s[k].toNat = x at x0 SU b255 NO NX
   rcases (show ((x:Int) < 97) ∨ (¬ ((x:Int) < 97) ∧ (122:Int) < (x:Int)) ∨ (¬ ((x:Int) < 97) ∧ ¬ (122:Int) < (x:Int)) by omega) with d | ⟨d,d'⟩ | ⟨d,d'⟩
   ·have E:=zaa (zmo c0 (NO.out (by omega)))
    go_wp2
    go_ret2
    exact ⟨zdk E.out.1.symm E.out.2.symm,BB.out⟩
   ·have E:=zaa (zmo c0 (NO.out (by omega)))
    go_wp2
    go_ret2
    exact ⟨zdk E.out.1.symm E.out.2.symm,BB.out⟩
   ·go_wp2
    go_round
    case rel => exact ⟨k + 1,by omega,by go_num,by rw [SU.out]; congr 1; omega,NX.out (by omega)⟩
    case measure => simp [intOf]; omega
  ·have ek:k = s.size:=by omega
   subst ek
   have E:=zaa (zrf (zyj (s:=s) (by omega) (by omega) (fun j h => H.out j h h)))
   go_wp2
   go_ret2
   exact ⟨zdk E.out.1.symm E.out.2.symm,BB.out⟩
set_option maxRecDepth 100000 in
set_option maxHeartbeats 4000000 in
theorem zxx (s:ByteArray) (w:World) (hs:nmB s = true):Calls Tryz.prog 125 #[.string s] w fun e w' => e = .returned (.int .i64 ((pk s s.size:Nat):Int)) ∧ w' = w:=by
 have N:=zaa (zdc hs)
 have h6:s.size ≤ 6:=(zdc hs).2.1
 clear hs
 go_enter Tryz.func125,Tryz.ntmps125
 go_wp2
 go_loop [3,4] (fun n i => ∃ k:Nat,k ≤ s.size ∧ i = .int .i64 k ∧ n = .int .i64 ((pk s k:Nat):Int)) (fun _ i => s.size - (intOf i).toNat)
 case atStart => exact ⟨0,by omega,rfl,by rw [zzh]; rfl⟩
 case round =>
  obtain ⟨k,hk,rfl,rfl⟩:=hrel
  by_cases hlt:k < s.size
  ·have bd:pk s k < 387420489:=yarl (fun j h _ => N.out.2.2 j h) (by omega)
   have SU:=zaa (yakc s k hlt)
   have b1:=N.out.2.2 k hlt
   go_wp2
   go_round
   case rel => exact ⟨k + 1,by omega,by go_num,by rw [SU.out]; congr 1; omega⟩
   case measure => simp [intOf]; omega
  ·have ek:k = s.size:=by omega
   subst ek
   go_wp2
   go_ret
   exact ⟨rfl,rfl⟩
end Go.Proofs.YtkdjfhkalelafaaGreatDoor
