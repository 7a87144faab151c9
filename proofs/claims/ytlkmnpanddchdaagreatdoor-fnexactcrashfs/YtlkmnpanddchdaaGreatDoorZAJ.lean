/- Several texts laid together: ImF, ImJ, PiA, PiB, PiD, PiF, PiI. -/
import Derived.Test.YtlkmnpanddchdaaGreatDoorZAA
import Derived.Test.YtlkmnpanddchdaaGreatDoorZAI
import Derived.Deep.RegionWith
import Derived.Test.YtlkmnpanddchdaaGreatDoorZAC
import Derived.Laws.CopyRow
import Derived.Laws.CopyOwn
import Derived.Deep.RegionHeld3
import Derived.Laws.OwnMore
import Derived.Deep.RegionLaw
namespace Go.Proofs.YtlkmnpanddchdaaGreatDoor
open Go.RowKit
def Den.cells (s:Den):List Value:=[.int .i64 s.dir,.string s.name,.int .i64 s.child]
def zhl (ps:List Den):List Value:=ps.flatMap Den.cells
theorem Den.cells_len (s:Den):s.cells.length = 3:=rfl
theorem yadf (ps:List Den):(zhl ps).length = ps.length * 3:=zha _ 3 Den.cells_len ps
theorem yaor (ps:List Den) (k:Nat) (h:k < ps.length):(zhl ps)[k * 3]? = some (.int .i64 ps[k].dir):=zbl _ 3 Den.cells_len ps k 0 h (by omega)
theorem yanr (ps:List Den) (k:Nat) (h:k < ps.length):(zhl ps)[k * 3 + 1]? = some (.string ps[k].name):=zbl _ 3 Den.cells_len ps k 1 h (by omega)
theorem yapq (ps:List Den) (k:Nat) (h:k < ps.length):(zhl ps)[k * 3 + 2]? = some (.int .i64 ps[k].child):=zbl _ 3 Den.cells_len ps k 2 h (by omega)
def RdD (w:World) (v:Value) (ps:List Den):Prop:=Rd w 3 v ps.length (zhl ps)
theorem RdD.shape {w:World} {v:Value} {ps:List Den} (h:RdD w v ps):∃ ao cap,v = .slice ao ps.length cap ∧ ps.length ≤ cap ∧ (0 < ps.length → ∃ b o,ao = some ⟨b,o,none⟩ ∧ b < w.heap.size ∧
  ∀ k (h:k < ps.length),w.cell? ⟨b,o + k * 3,none⟩ = some (.int .i64 ps[k].dir) ∧ w.cell? ⟨b,o + k * 3 + 1,none⟩ = some (.string ps[k].name) ∧ w.cell? ⟨b,o + k * 3 + 2,none⟩ = some (.int .i64 ps[k].child)):=by
 obtain ⟨_,ao,cap,rfl,h2,h3⟩:=h
 refine ⟨ao,cap,rfl,h2.1,fun hn => ?_⟩
 obtain ⟨b,o,rfl,hb,hc⟩:=h3 hn
 exact ⟨b,o,rfl,hb,fun k hk => ⟨(hc (k * 3) (by omega)).trans (yaor ps k hk),(hc (k * 3 + 1) (by omega)).trans (yanr ps k hk),(hc (k * 3 + 2) (by omega)).trans (yapq ps k hk)⟩⟩
theorem zox:(Tryz.prog.info? 199).map (fun i => (i.zero,i.size,i.bytes)) = some (some (.agg #[.int .i64 0,.string ⟨#[]⟩,.int .i64 0]),3,32):=by kernel_rfl
def RdIm (w:World) (v:Value) (ws:List Ino) (ps:List Den):Prop:=∃ vW vP,v = .agg #[vW,vP] ∧ RdN w vW ws ∧ RdD w vP ps
def RowIm (w:World) (lo hi:Nat) (v:Value) (ws:List Ino) (ps:List Den):Prop:=∃ vW vP,v = .agg #[vW,vP] ∧ Row w 197 11 lo hi vW ws.length (inos ws) ∧ Row w 199 3 lo hi vP ps.length (zhl ps)
theorem RowIm.rd {w:World} {lo hi:Nat} {v:Value} {ws:List Ino} {ps:List Den} (h:RowIm w lo hi v ws ps):RdIm w v ws ps:=by
 obtain ⟨vW,vP,rfl,h1,h2⟩:=h
 exact ⟨vW,vP,rfl,h1.rd,h2.rd⟩
theorem RdIm.below {w w':World} {v:Value} {ws:List Ino} {ps:List Den} (h:RdIm w v ws ps) (hb:Below w.heap.size w w'):RdIm w' v ws ps:=by
 obtain ⟨vW,vP,rfl,h1,h2⟩:=h
 exact ⟨vW,vP,rfl,Rd.below h1 hb,Rd.below h2 hb⟩
theorem RowIm.below {w w':World} {lo hi:Nat} {v:Value} {ws:List Ino} {ps:List Den} (h:RowIm w lo hi v ws ps) {B:Nat} (hb:Below B w w') (hB:hi ≤ B):RowIm w' lo hi v ws ps:=by
 obtain ⟨vW,vP,rfl,h1,h2⟩:=h
 exact ⟨vW,vP,rfl,h1.below hb hB,h2.below hb hB⟩
def Ino.ns (x:Ino):List Int:=[x.kind,x.size,x.links,x.m0,x.m1,x.m2,x.m3,x.m4,x.m5,x.m6,x.m7]
def yaab (zs:List Int):Bool:=decide (∀ k (h:k < zs.length),zjk zs[k] = true)
def yafl (zs:List Int):Bool:=decide (∀ k (h:k < zs.length),(zs[k] == 0) = true)
def zjw (x:Ino):Bool:=decide (x.kind = 1) && (decide (1 ≤ x.links ∧ x.links ≤ 24) && (decide (0 ≤ x.size ∧ x.size < 9) && (yaab (x.map.take x.size.toNat) && yafl (x.map.drop x.size.toNat))))
theorem yaij:zjk 0 = true:=by decide
theorem yaml {x:Ino} (h:x.ns = [0,0,0,0,0,0,0,0,0,0,0]):ziy x = true:=by
 obtain ⟨k,s,l,m0,m1,m2,m3,m4,m5,m6,m7⟩:=x
 simp only [Ino.ns,List.cons.injEq,and_true] at h
 obtain ⟨rfl,rfl,rfl,rfl,rfl,rfl,rfl,rfl,rfl,rfl,rfl⟩:=h
 decide
theorem yase {x:Ino} (h:x.ns = [2,0,1,0,0,0,0,0,0,0,0]):ziy x = true:=by
 obtain ⟨k,s,l,m0,m1,m2,m3,m4,m5,m6,m7⟩:=x
 simp only [Ino.ns,List.cons.injEq,and_true] at h
 obtain ⟨rfl,rfl,rfl,rfl,rfl,rfl,rfl,rfl,rfl,rfl,rfl⟩:=h
 decide
theorem yahq {x:Ino} (h0:0 ≤ x.size) (h8:x.size ≤ 8):mapB x.map x.size = (yaab (x.map.take x.size.toNat) && yafl (x.map.drop x.size.toNat)):=by
 rw [Bool.eq_iff_iff,Bool.and_eq_true]
 have hl:x.map.length = 8:=rfl
 have hg:∀ i (h:i < 8),x.map.getD i 0 = x.map[i]'(by rw [hl]; exact h):=fun i h => by
  rw [List.getD_eq_getElem?_getD,List.getElem?_eq_getElem (by rw [hl]; exact h)]; rfl
 constructor
 ·intro h
  have h:=zug h
  refine ⟨decide_eq_true fun k hk => ?_,decide_eq_true fun k hk => ?_⟩
  ·rw [List.length_take,hl] at hk
   have:=h k (by omega)
   rw [hg k (by omega)] at this
   rw [List.getElem_take]
   unfold entB at this
   exact (Bool.and_eq_true _ _ ▸ this:_ ∧ _).1
  ·rw [List.length_drop,hl] at hk
   have:=h (x.size.toNat + k) (by omega)
   rw [hg _ (by omega)] at this
   rw [List.getElem_drop]
   unfold entB at this
   have:=(Bool.and_eq_true _ _ ▸ this:_ ∧ _).2
   rw [Bool.or_eq_true] at this
   rcases this with h1 | h1
   ·exact h1
   ·have:=of_decide_eq_true h1
    omega
 ·rintro ⟨h1,h2⟩
  have h1:=of_decide_eq_true h1
  have h2:=of_decide_eq_true h2
  refine yakq fun i hi => ?_
  rw [hg i hi]
  unfold entB
  rw [Bool.and_eq_true,Bool.or_eq_true]
  by_cases hs:i < x.size.toNat
  ·have:=h1 i (by rw [List.length_take,hl]; omega)
   rw [List.getElem_take] at this
   exact ⟨this,.inr (decide_eq_true (by omega))⟩
  ·have:=h2 (i - x.size.toNat) (by rw [List.length_drop,hl]; omega)
   rw [List.getElem_drop] at this
   have e:x.size.toNat + (i - x.size.toNat) = i:=by omega
   simp only [e] at this
   exact ⟨by rw [eq_of_beq this]; exact yaij,.inl this⟩
theorem yage {x:Ino} (h0:x.size = 0) (h:mapB x.map x.size = true):x.map = [0,0,0,0,0,0,0,0]:=by
 have h:=zug h
 have g:∀ i,i < 8 → x.map.getD i 0 = 0:=fun i hi => by
  have:=h i hi
  unfold entB at this
  have:=(Bool.and_eq_true _ _ ▸ this:_ ∧ _).2
  rw [Bool.or_eq_true] at this
  rcases this with h1 | h1
  ·exact eq_of_beq h1
  ·have:=of_decide_eq_true h1; omega
 have a0:=g 0 (by omega); have a1:=g 1 (by omega); have a2:=g 2 (by omega); have a3:=g 3 (by omega); have a4:=g 4 (by omega); have a5:=g 5 (by omega); have a6:=g 6 (by omega); have a7:=g 7 (by omega)
 simp [Ino.map] at *
 exact ⟨a0,a1,a2,a3,a4,a5,a6,a7⟩
theorem yank {x:Ino} (h0:¬ x.ns = [0,0,0,0,0,0,0,0,0,0,0]) (h1:¬ x.ns = [2,0,1,0,0,0,0,0,0,0,0]):zjw x = ziy x:=by
 by_cases hk:x.kind = 1
 ·unfold zjw ziy
  rw [decide_eq_true hk,decide_eq_true (show 0 ≤ x.kind ∧ x.kind ≤ 2 by omega)]
  simp only [Bool.true_and]
  by_cases hs:0 ≤ x.size ∧ x.size ≤ 8
  ·rw [decide_eq_true hs,decide_eq_true (show 0 ≤ x.size ∧ x.size < 9 by omega),← yahq hs.1 hs.2]
   have e:zlv x = decide (0 < x.links):=by unfold zlv; rw [if_neg (by omega),if_neg (by omega)]
   rw [e]
   by_cases hl:1 ≤ x.links ∧ x.links ≤ 24
   ·rw [decide_eq_true hl,decide_eq_true (show 0 ≤ x.links ∧ x.links ≤ 24 by omega),decide_eq_true (show 0 < x.links by omega)]; simp
   ·rw [decide_eq_false hl]
    by_cases h3:0 < x.links
    ·rw [decide_eq_false (show ¬ (0 ≤ x.links ∧ x.links ≤ 24) by omega)]; simp
    ·rw [decide_eq_false h3]; simp
  ·rw [decide_eq_false hs,decide_eq_false (show ¬ (0 ≤ x.size ∧ x.size < 9) by omega)]; simp
 ·have e1:zjw x = false:=by unfold zjw; rw [decide_eq_false hk]; rfl
  rw [e1,eq_comm,Bool.eq_false_iff]
  intro e
  unfold ziy at e
  simp only [Bool.and_eq_true,decide_eq_true_eq] at e
  obtain ⟨a,b,c,d,f⟩:=e
  unfold zlv at f
  by_cases k0:x.kind = 0
  ·rw [if_pos k0] at f
   obtain ⟨f1,f2,f3⟩:=of_decide_eq_true f
   apply h0
   simp only [Ino.map,List.cons.injEq,and_true] at f3
   simp [Ino.ns,k0,f1,f2,f3]
  ·rw [if_neg k0,if_pos (by omega)] at f
   simp only [Bool.and_eq_true,beq_iff_eq] at f
   have f3:=yage f.1 d
   apply h1
   simp only [Ino.map,List.cons.injEq,and_true] at f3
   have k2:x.kind = 2:=by omega
   simp [Ino.ns,k2,f.1,f.2,f3]
def ED (w:World):Prop:=∃ t fr,w.heap[3]? = some (.cells #[.int .i64 2,.int .i64 0,.int .i64 1,.int .i64 0,.int .i64 0,.int .i64 0,.int .i64 0,.int .i64 0,.int .i64 0,.int .i64 0,.int .i64 0] t fr)
theorem ED.lt {w:World} (h:ED w):3 < w.heap.size:=by
 obtain ⟨t,fr,h⟩:=h
 exact (Array.getElem?_eq_some_iff.1 h).1
theorem ED.below {w w':World} (h:ED w) (hb:Below w.heap.size w w'):ED w':=by
 have hl:=h.lt
 obtain ⟨t,fr,h⟩:=h
 exact ⟨t,fr,(hb.block _ hl).trans h⟩
theorem ED.cells {w:World} (h:ED w):w.cell? ⟨3,0,none⟩ = some (.int .i64 2) ∧ w.cell? ⟨3,1,none⟩ = some (.int .i64 0) ∧ w.cell? ⟨3,2,none⟩ = some (.int .i64 1) ∧ w.cell? ⟨3,3,none⟩ = some (.int .i64 0) ∧ w.cell? ⟨3,4,none⟩ = some (.int .i64 0) ∧ w.cell? ⟨3,5,none⟩ = some (.int .i64 0) ∧ w.cell? ⟨3,6,none⟩ = some (.int .i64 0) ∧ w.cell? ⟨3,7,none⟩ = some (.int .i64 0) ∧ w.cell? ⟨3,8,none⟩ = some (.int .i64 0) ∧ w.cell? ⟨3,9,none⟩ = some (.int .i64 0) ∧ w.cell? ⟨3,10,none⟩ = some (.int .i64 0):=by
 obtain ⟨t,fr,h⟩:=h
 simp [World.cell?,h]
theorem zqg (n:Int) (w:World) (hT:TS w) (h0:-9223372036854775808 ≤ n) (h1:n ≤ 9223372036854775807):Calls Tryz.prog 216 #[.int .i64 n] w fun e w' => e = .returned (.bool (zjk n)) ∧ w' = w:=by
 have T:=zaa hT
 clear hT
 cases c:zjk n with
 | true =>
  have E:=zaa (yarj c).2.2
  clear c
  go_enter Tryz.func216,Tryz.ntmps216
  go_wp2_with (go_at_call 220; refine (zjb _ _ T.out h0 h1).mono ?_; rw [E.out]; rintro e w' ⟨rfl,rfl⟩)
  go_ret
  exact ⟨rfl,rfl⟩
 | false =>
  have E:=zaa (zzy c).2.2
  clear c
  go_enter Tryz.func216,Tryz.ntmps216
  go_wp2_with (go_at_call 220; refine (zjb _ _ T.out h0 h1).mono ?_; rw [E.out]; rintro e w' ⟨rfl,rfl⟩)
  go_ret
  exact ⟨rfl,rfl⟩
theorem zkr (n:Int) (w:World):Calls Tryz.prog 217 #[.int .i64 n] w fun e w' => e = .returned (.bool (n == 0)) ∧ w' = w:=by
 go_enter Tryz.func217,Tryz.ntmps217
 go_wp2
 go_ret
 exact ⟨rfl,rfl⟩
theorem yaqf {zs:List Int} (h:∀ k (h:k < zs.length),zjk zs[k] = true):yaab zs = true:=decide_eq_true h
theorem yame {zs:List Int} {k:Nat} (hk:k < zs.length) (h:zjk zs[k] = false):yaab zs = false:=decide_eq_false (fun x => by have:=x k hk; rw [h] at this; cases this)
theorem yaoy {zs:List Int} (h:∀ k (h:k < zs.length),(zs[k] == 0) = true):yafl zs = true:=decide_eq_true h
theorem yain {zs:List Int} {k:Nat} (hk:k < zs.length) (h:(zs[k] == 0) = false):yafl zs = false:=decide_eq_false (fun x => by have:=x k hk; rw [h] at this; cases this)
set_option maxHeartbeats 2000000 in
theorem zjh (v:Value) (zs:List Int) (w:World) (h:RdI w v zs) (hn:zs.length ≤ 2147483648) (hT:TS w) (hr:∀ k (h:k < zs.length),-9223372036854775808 ≤ zs[k] ∧ zs[k] ≤ 9223372036854775807) :
  Calls Tryz.prog 122 #[v,.func (.func 216) #[] #[]] w fun e w' => e = .returned (.bool (yaab zs)) ∧ w' = w:=by
 have T:=zaa hT
 have HR:=zaa hr
 clear hT hr
 obtain ⟨ao,cap,rfl,_,hc⟩:=h.shape
 clear h
 go_enter Tryz.func122,Tryz.ntmps122
 go_wp2
 go_loop [6,9] (fun _ i => ∃ k:Nat,k ≤ zs.length ∧ i = .int .i64 k ∧ Hid (∀ j (h:j < zs.length),j < k → zjk zs[j] = true)) (fun _ i => zs.length - (intOf i).toNat)
 case atStart => exact ⟨0,by omega,rfl,fun j h a => absurd a (by omega)⟩
 case round =>
  obtain ⟨k,hk,rfl,H⟩:=hrel
  by_cases hlt:k < zs.length
  ·obtain ⟨b,o,rfl,hbl,hcell⟩:=hc (by omega)
   have hck:=hcell k hlt
   obtain ⟨r0,r1⟩:=HR.out k hlt
   clear hcell hc
   by_cases q:zjk zs[k] = true
   ·go_wp2_with (go_at_call 216; refine (zqg _ _ T.out r0 r1).mono ?_; rintro e w' ⟨rfl,rfl⟩)
    go_round
    case rel =>
     refine ⟨k + 1,by omega,by go_num,fun j h a => ?_⟩
     by_cases e:j = k
     ·subst e; exact q
     ·exact H.out j h (by omega)
    case measure => simp [intOf]; omega
   ·have q':zjk zs[k] = false:=by simpa using q
    have E:=zaa (yame hlt q')
    go_wp2_with (go_at_call 216; refine (zqg _ _ T.out r0 r1).mono ?_; rintro e w' ⟨rfl,rfl⟩)
    go_ret
    exact ⟨zae E.out.symm,rfl⟩
  ·have E:=zaa (yaqf (fun j h => H.out j h (by omega)))
   clear H
   go_wp2
   go_ret
   exact ⟨zae E.out.symm,rfl⟩
set_option maxHeartbeats 2000000 in
theorem znj (v:Value) (zs:List Int) (w:World) (h:RdI w v zs) (hn:zs.length ≤ 2147483648) :
  Calls Tryz.prog 122 #[v,.func (.func 217) #[] #[]] w fun e w' => e = .returned (.bool (yafl zs)) ∧ w' = w:=by
 obtain ⟨ao,cap,rfl,_,hc⟩:=h.shape
 clear h
 go_enter Tryz.func122,Tryz.ntmps122
 go_wp2
 go_loop [6,9] (fun _ i => ∃ k:Nat,k ≤ zs.length ∧ i = .int .i64 k ∧ Hid (∀ j (h:j < zs.length),j < k → (zs[j] == 0) = true)) (fun _ i => zs.length - (intOf i).toNat)
 case atStart => exact ⟨0,by omega,rfl,fun j h a => absurd a (by omega)⟩
 case round =>
  obtain ⟨k,hk,rfl,H⟩:=hrel
  by_cases hlt:k < zs.length
  ·obtain ⟨b,o,rfl,hbl,hcell⟩:=hc (by omega)
   have hck:=hcell k hlt
   clear hcell hc
   by_cases q:(zs[k] == 0) = true
   ·go_wp2_with (go_at_call 217; refine (zkr _ _).mono ?_; rintro e w' ⟨rfl,rfl⟩)
    go_round
    case rel =>
     refine ⟨k + 1,by omega,by go_num,fun j h a => ?_⟩
     by_cases e:j = k
     ·subst e; exact q
     ·exact H.out j h (by omega)
    case measure => simp [intOf]; omega
   ·have q':(zs[k] == 0) = false:=by simpa using q
    have E:=zaa (yain hlt q')
    go_wp2_with (go_at_call 217; refine (zkr _ _).mono ?_; rintro e w' ⟨rfl,rfl⟩)
    go_ret
    exact ⟨zae E.out.symm,rfl⟩
  ·have E:=zaa (yaoy (fun j h => H.out j h (by omega)))
   clear H
   go_wp2
   go_ret
   exact ⟨zae E.out.symm,rfl⟩
theorem yarn (w:World) (b n:Nat) (hn:n ≤ 8):(Instr.sliceAt 195 (.pointer (some ⟨b,3,none⟩)) none (some (.int .i64 (n:Int))) none).run Tryz.prog w = .ok (.slice (some ⟨b,3,none⟩) n 8) w:=by
 have al:Tryz.prog.arrayLen 195 = 8:=by kernel_rfl
 rw [run_sliceAt_array_h w 195 ⟨b,3,none⟩ (by kernel_rfl) .i64 (n:Int) (by omega) (by rw [al]; omega),al]
 have sz:(sizeOf (Tryz.prog.elem 195)).run Tryz.prog w = .ok 1 w:=by kernel_rfl
 rw [sz]
 simp [Result.andThen,slicedAt,Addr.add]
theorem yask (w:World) (b n:Nat) (hn:n ≤ 8):(Instr.sliceAt 195 (.pointer (some ⟨b,3,none⟩)) (some (.int .i64 (n:Int))) none none).run Tryz.prog w = .ok (.slice (some (if n = 8 then ⟨b,3,none⟩ else ⟨b,3 + n,none⟩)) (8 - n) (8 - n)) w:=by
 have al:Tryz.prog.arrayLen 195 = 8:=by kernel_rfl
 rw [run_sliceAt_array_l w 195 ⟨b,3,none⟩ (by kernel_rfl) .i64 (n:Int) (by omega) (by rw [al]; omega),al]
 have sz:(sizeOf (Tryz.prog.elem 195)).run Tryz.prog w = .ok 1 w:=by kernel_rfl
 rw [sz]
 by_cases h:n = 8
 ·subst h
  simp [Result.andThen,slicedAt]
 ·have h':¬ 8 = n:=by omega
  simp only [Result.andThen,slicedAt]
  rw [if_neg (by omega),if_neg h]
  simp [Addr.add]
theorem Ino.cs_map (x:Ino) (k:Nat) (hk:k < 8):x.cs[3 + k]? = some (.int .i64 (x.map[k]'(by rw [x.len]; exact hk))):=by
 rcases (show k = 0 ∨ k = 1 ∨ k = 2 ∨ k = 3 ∨ k = 4 ∨ k = 5 ∨ k = 6 ∨ k = 7 by omega) with rfl | rfl | rfl | rfl | rfl | rfl | rfl | rfl <;> rfl
theorem yaqi {x:Ino} {w:World} {b n:Nat} (hn:n ≤ 8) (hb:b < w.heap.size) (h:∀ j,w.cell? ⟨b,j,none⟩ = x.cs[j]?):RdI w (.slice (some ⟨b,3,none⟩) n 8) (x.map.take n):=by
 have hl:(x.map.take n).length = n:=by rw [List.length_take,x.len]; omega
 refine ⟨by rw [zdg,Nat.mul_one],some ⟨b,3,none⟩,8,by rw [hl],⟨by omega,fun e => by cases e⟩,fun _ => ⟨b,3,rfl,hb,fun j hj => ?_⟩⟩
 rw [hl,Nat.mul_one] at hj
 rw [h,x.cs_map j (by omega),zax _ _ (by omega),List.getElem_take]
theorem yanq {x:Ino} {w:World} {b n:Nat} (hn:n ≤ 8) (hb:b < w.heap.size) (h:∀ j,w.cell? ⟨b,j,none⟩ = x.cs[j]?):RdI w (.slice (some (if n = 8 then ⟨b,3,none⟩ else ⟨b,3 + n,none⟩)) (8 - n) (8 - n)) (x.map.drop n):=by
 have hl:(x.map.drop n).length = 8 - n:=by rw [List.length_drop,x.len]
 refine ⟨by rw [zdg,Nat.mul_one],some (if n = 8 then ⟨b,3,none⟩ else ⟨b,3 + n,none⟩),8 - n,by rw [hl],⟨by omega,fun e => by cases e⟩,fun hp => ?_⟩
 rw [hl] at hp
 refine ⟨b,3 + n,by rw [if_neg (by omega)],hb,fun j hj => ?_⟩
 rw [hl,Nat.mul_one] at hj
 rw [h,Nat.add_assoc,x.cs_map (n + j) (by omega),zax _ _ (by omega),List.getElem_drop]
theorem Ino.R.at' {x:Ino} (h:x.R) (k:Nat) (hk:k < x.map.length):-9223372036854775808 ≤ x.map[k] ∧ x.map[k] ≤ 9223372036854775807:=h _ (List.getElem_mem _)
set_option maxRecDepth 100000 in
set_option maxHeartbeats 2000000 in
theorem yafj (x:Ino) (w:World) (hT:TS w) (hr:x.R):Calls Tryz.prog 211 #[x.v] w fun e w' => e = .returned (.bool (zjw x)) ∧ Below w.heap.size w w':=by
 have hv:x.v = .agg x.cs.toArray:=rfl
 obtain ⟨W,hW⟩:∃ W,W = w.alloc (.cells x.cs.toArray 197):=⟨_,rfl⟩
 have CA:Hid (∀ j,W.cell? ⟨w.heap.size,j,none⟩ = x.cs[j]?):=fun j => by rw [hW]; exact (zbe (xs:=x.cs) (zag rfl) j).1
 have BW:Hid (Below w.heap.size w W):=by rw [hW]; exact (Below.refl _ _).alloc (Nat.le_refl _) _
 have T:Hid (TS W):=hT.below BW.out
 have hWz:w.heap.size < W.heap.size:=by rw [hW]; simp
 have c0:W.cell? ⟨w.heap.size,0,none⟩ = some (.int .i64 x.kind):=CA.out 0
 have c1:W.cell? ⟨w.heap.size,1,none⟩ = some (.int .i64 x.size):=CA.out 1
 have c2:W.cell? ⟨w.heap.size,2,none⟩ = some (.int .i64 x.links):=CA.out 2
 have HR:=zaa hr
 subst hW
 rw [hv]
 clear hT hr
 by_cases h0:x.kind = 1
 case neg =>
  have E:=zaa (show zjw x = false by unfold zjw; rw [decide_eq_false h0]; rfl)
  have q:(x.kind != 1) = true:=by rw [bne_iff_ne]; exact h0
  go_enter Tryz.func211,Tryz.ntmps211
  go_wp2
  go_ret
  exact ⟨zae E.out.symm,BW.out⟩
 have q:(x.kind != 1) = false:=by rw [h0]; rfl
 by_cases h1:1 ≤ x.links
 case neg =>
  have E:=zaa (show zjw x = false by unfold zjw; rw [decide_eq_true h0,decide_eq_false (show ¬ (1 ≤ x.links ∧ x.links ≤ 24) by omega)]; rfl)
  have q2:x.links < 1:=by omega
  go_enter Tryz.func211,Tryz.ntmps211
  go_wp2
  go_ret
  exact ⟨zae E.out.symm,BW.out⟩
 have q2:¬ x.links < 1:=by omega
 by_cases h2:x.links ≤ 24
 case neg =>
  have E:=zaa (show zjw x = false by unfold zjw; rw [decide_eq_true h0,decide_eq_false (show ¬ (1 ≤ x.links ∧ x.links ≤ 24) by omega)]; rfl)
  have q3:24 < x.links:=by omega
  go_enter Tryz.func211,Tryz.ntmps211
  go_wp2
  go_ret
  exact ⟨zae E.out.symm,BW.out⟩
 have q3:¬ 24 < x.links:=by omega
 by_cases h3:0 ≤ x.size ∧ x.size < 9
 case neg =>
  have E:=zaa (show zjw x = false by unfold zjw; rw [decide_eq_true h0,decide_eq_true (show 1 ≤ x.links ∧ x.links ≤ 24 by omega),decide_eq_false h3]; rfl)
  have H3:=zaa h3
  clear h3
  go_enter Tryz.func211,Tryz.ntmps211
  go_wp2_with (go_at_call 64; refine (zbc _ _ _ H3.out).mono ?_; rintro e w' ⟨rfl,rfl⟩)
  go_ret
  exact ⟨zae E.out.symm,BW.out⟩
 have E:=zaa (show zjw x = (yaab (x.map.take x.size.toNat) && yafl (x.map.drop x.size.toNat)) by unfold zjw; rw [decide_eq_true h0,decide_eq_true (show 1 ≤ x.links ∧ x.links ≤ 24 by omega),decide_eq_true h3]; rfl)
 obtain ⟨n,hn⟩:∃ n:Nat,x.size = (n:Int):=⟨x.size.toNat,by omega⟩
 have hn8:n ≤ 8:=by omega
 rw [show x.size.toNat = n by omega] at E
 rw [hn] at c1 h3
 have R1:=zaa (yaqi (x:=x) hn8 hWz CA.out)
 have R2:=zaa (yanq (x:=x) hn8 hWz CA.out)
 have s1:=yarn (w.alloc (.cells x.cs.toArray 197)) w.heap.size n hn8
 have s2:=yask (w.alloc (.cells x.cs.toArray 197)) w.heap.size n hn8
 have L1:=zaa (show (x.map.take n).length ≤ 2147483648 by rw [List.length_take]; omega)
 have L2:=zaa (show (x.map.drop n).length ≤ 2147483648 by rw [List.length_drop,x.len]; omega)
 have RR:=zaa (show ∀ k (h:k < (x.map.take n).length),-9223372036854775808 ≤ (x.map.take n)[k] ∧ (x.map.take n)[k] ≤ 9223372036854775807 from fun k h => by rw [List.getElem_take]; exact HR.out.at' k _)
 have H3:=zaa h3
 generalize (if n = 8 then (⟨w.heap.size,3,none⟩:Addr) else ⟨w.heap.size,3 + n,none⟩) = aT at s2 R2
 cases hq:yaab (x.map.take n) with
 | false =>
  have TQ:=zaa hq
  rw [hq] at E
  clear h3 hn hq
  go_enter Tryz.func211,Tryz.ntmps211
  go_wp2_with fail
  refine (zaq _ _ _ H3.out).mono ?_
  rintro e w' ⟨rfl,rfl⟩
  go_wp2_with fail
  refine (zjh _ _ _ R1.out L1.out T.out RR.out).mono ?_
  rw [TQ.out]
  rintro e w' ⟨rfl,rfl⟩
  go_wp2
  go_ret
  exact ⟨zae (by rw [E.out]; rfl),BW.out⟩
 | true =>
  have TQ:=zaa hq
  rw [hq] at E
  clear h3 hn hq
  go_enter Tryz.func211,Tryz.ntmps211
  go_wp2_with fail
  refine (zaq _ _ _ H3.out).mono ?_
  rintro e w' ⟨rfl,rfl⟩
  go_wp2_with fail
  refine (zjh _ _ _ R1.out L1.out T.out RR.out).mono ?_
  rw [TQ.out]
  rintro e w' ⟨rfl,rfl⟩
  go_wp2_with fail
  refine (znj _ _ _ R2.out L2.out).mono ?_
  rintro e w' ⟨rfl,rfl⟩
  go_wp2
  go_ret
  exact ⟨zae (by rw [E.out]; rfl),BW.out⟩
set_option maxRecDepth 100000 in
set_option maxHeartbeats 2000000 in
theorem eq8 (a0 a1 a2 a3 a4 a5 a6 a7 b0 b1 b2 b3 b4 b5 b6 b7:Int) (w:World):(Op.equalIn 9999 195 (.agg #[.int .i64 a0,.int .i64 a1,.int .i64 a2,.int .i64 a3,.int .i64 a4,.int .i64 a5,.int .i64 a6,.int .i64 a7]) (.agg #[.int .i64 b0,.int .i64 b1,.int .i64 b2,.int .i64 b3,.int .i64 b4,.int .i64 b5,.int .i64 b6,.int .i64 b7])).run Tryz.prog w = .ok (decide ([a0,a1,a2,a3,a4,a5,a6,a7] = [b0,b1,b2,b3,b4,b5,b6,b7])) w:=by
 have U3:=Tryz.underlying3
 have A3:=Tryz.isAgg3
 have Z3:=Tryz.sizeOf3
 rw [show (9999:Nat) = 9998 + 1 from rfl,Op.equalIn]
 simp only [Sem.run_bind,run_underlying Tryz.underlying195,Result.andThen_ok]
 simp only [Std.Legacy.Range.forIn_eq_forIn_range',Std.Legacy.Range.size,Nat.sub_zero,Nat.add_sub_cancel,Nat.div_one,List.range'_succ,List.range'_zero,List.forIn_cons,List.forIn_nil]
 go_simp
 by_cases h0:a0 = b0
 case neg => simp [h0]
 by_cases h1:a1 = b1
 case neg => simp [h0,h1]
 by_cases h2:a2 = b2
 case neg => simp [h0,h1,h2]
 by_cases h3:a3 = b3
 case neg => simp [h0,h1,h2,h3]
 by_cases h4:a4 = b4
 case neg => simp [h0,h1,h2,h3,h4]
 by_cases h5:a5 = b5
 case neg => simp [h0,h1,h2,h3,h4,h5]
 by_cases h6:a6 = b6
 case neg => simp [h0,h1,h2,h3,h4,h5,h6]
 by_cases h7:a7 = b7
 case neg => simp [h0,h1,h2,h3,h4,h5,h6,h7]
 simp [h0,h1,h2,h3,h4,h5,h6,h7]
def zys (xs ys:List Int):Bool:=decide (xs = ys)
theorem yaii {xs ys:List Int} (h:xs = ys):zys xs ys = true:=decide_eq_true h
theorem yamp {xs ys:List Int} (h:¬ xs = ys):zys xs ys = false:=decide_eq_false h
set_option maxRecDepth 100000 in
set_option maxHeartbeats 4000000 in
@[go_sem ↓] theorem yawv (k s l a0 a1 a2 a3 a4 a5 a6 a7 k' s' l' b0 b1 b2 b3 b4 b5 b6 b7:Int) (w:World):(Op.equalIn 10000 197 (.agg #[.int .i64 k,.int .i64 s,.int .i64 l,.int .i64 a0,.int .i64 a1,.int .i64 a2,.int .i64 a3,.int .i64 a4,.int .i64 a5,.int .i64 a6,.int .i64 a7]) (.agg #[.int .i64 k',.int .i64 s',.int .i64 l',.int .i64 b0,.int .i64 b1,.int .i64 b2,.int .i64 b3,.int .i64 b4,.int .i64 b5,.int .i64 b6,.int .i64 b7])).run Tryz.prog w = .ok (zys [k,s,l,a0,a1,a2,a3,a4,a5,a6,a7] [k',s',l',b0,b1,b2,b3,b4,b5,b6,b7]) w:=by
 have e8:=eq8 a0 a1 a2 a3 a4 a5 a6 a7 b0 b1 b2 b3 b4 b5 b6 b7 w
 unfold zys
 by_cases g0:k = k'
 case neg => go_simp
 by_cases g1:s = s'
 case neg => go_simp
 by_cases g2:l = l'
 case neg => go_simp
 subst g0 g1 g2
 go_simp
 split
 ·rename_i h
  rw [h]
 ·rename_i h
  rw [Bool.not_eq_false] at h
  rw [h]
set_option maxRecDepth 100000 in
set_option maxHeartbeats 2000000 in
theorem yaas (x:Ino) (w:World) (hT:TS w) (hE:ED w) (hr:x.R):Calls Tryz.prog 198 #[x.v] w fun e w' => e = .returned (.bool (ziy x)) ∧ Below w.heap.size w w':=by
 have hv:x.v = .agg x.cs.toArray:=rfl
 have BW:Hid (Below w.heap.size w (w.alloc (.cells x.cs.toArray 197))):=(Below.refl _ _).alloc (Nat.le_refl _) _
 have CA:Hid (∀ j,(w.alloc (.cells x.cs.toArray 197)).cell? ⟨w.heap.size,j,none⟩ = x.cs[j]?):=fun j => (zbe (xs:=x.cs) (zag rfl) j).1
 have T:Hid (TS (w.alloc (.cells x.cs.toArray 197))):=hT.below BW.out
 obtain ⟨d0,d1,d2,d3,d4,d5,d6,d7,d8,d9,d10⟩:=ED.cells (hE.below BW.out)
 obtain ⟨p0,p1,p2,p3,p4,p5,p6,p7,p8,p9,p10⟩:=Ino.all CA.out
 have LF:=zaa (fun w1 (h:TS w1) => yafj x w1 h hr)
 rw [hv]
 clear hT hE hr CA
 by_cases h0:x.ns = [0,0,0,0,0,0,0,0,0,0,0]
 ·have E:=zaa (yaml h0)
  have q1:zys [x.kind,x.size,x.links,x.m0,x.m1,x.m2,x.m3,x.m4,x.m5,x.m6,x.m7] [0,0,0,0,0,0,0,0,0,0,0] = true:=yaii h0
  clear h0
  go_enter Tryz.func198,Tryz.ntmps198
  go_wp2
  go_ret
  exact ⟨zae E.out.symm,BW.out⟩
 have q1:zys [x.kind,x.size,x.links,x.m0,x.m1,x.m2,x.m3,x.m4,x.m5,x.m6,x.m7] [0,0,0,0,0,0,0,0,0,0,0] = false:=yamp h0
 by_cases h1:x.ns = [2,0,1,0,0,0,0,0,0,0,0]
 ·have E:=zaa (yase h1)
  have q2:zys [x.kind,x.size,x.links,x.m0,x.m1,x.m2,x.m3,x.m4,x.m5,x.m6,x.m7] [2,0,1,0,0,0,0,0,0,0,0] = true:=yaii h1
  clear h0 h1
  go_enter Tryz.func198,Tryz.ntmps198
  go_wp2
  go_ret
  exact ⟨zae E.out.symm,BW.out⟩
 have q2:zys [x.kind,x.size,x.links,x.m0,x.m1,x.m2,x.m3,x.m4,x.m5,x.m6,x.m7] [2,0,1,0,0,0,0,0,0,0,0] = false:=yamp h1
 have E:=zaa (yank h0 h1)
 clear h0 h1
 go_enter Tryz.func198,Tryz.ntmps198
 go_wp2_with fail
 refine (LF.out _ T.out).mono ?_
 rw [E.out]
 rintro e w1 ⟨rfl,hb1⟩
 have B1:=zaa (zab BW.out hb1 BW.out.size)
 clear hb1
 go_wp2
 go_ret
 exact ⟨rfl,B1.out⟩
def FD (w:World):Prop:=∃ t fr,w.heap[2]? = some (.cells #[.int .i64 0,.string ⟨#[]⟩,.int .i64 (-1)] t fr)
theorem FD.lt {w:World} (h:FD w):2 < w.heap.size:=by
 obtain ⟨t,fr,h⟩:=h
 exact (Array.getElem?_eq_some_iff.1 h).1
theorem FD.below {w w':World} (h:FD w) (hb:Below w.heap.size w w'):FD w':=by
 have hl:=h.lt
 obtain ⟨t,fr,h⟩:=h
 exact ⟨t,fr,(hb.block _ hl).trans h⟩
theorem FD.cells {w:World} (h:FD w):w.cell? ⟨2,0,none⟩ = some (.int .i64 0) ∧ w.cell? ⟨2,1,none⟩ = some (.string ⟨#[]⟩) ∧ w.cell? ⟨2,2,none⟩ = some (.int .i64 (-1)):=by
 obtain ⟨t,fr,h⟩:=h
 simp [World.cell?,h]
def zno (a:Int) (s:ByteArray) (c a':Int) (s':ByteArray) (c':Int):Bool:=(a == a') && ((s.toList == s'.toList) && (c == c'))
set_option maxRecDepth 100000 in
set_option maxHeartbeats 4000000 in
@[go_sem ↓] theorem yawu (a:Int) (s:ByteArray) (c a':Int) (s':ByteArray) (c':Int) (w:World):(Op.equalIn 10000 199 (.agg #[.int .i64 a,.string s,.int .i64 c]) (.agg #[.int .i64 a',.string s',.int .i64 c'])).run Tryz.prog w = .ok (zno a s c a' s' c') w:=by
 unfold zno
 cases g0:(a == a')
 ·go_simp
 cases g1:(s.toList == s'.toList)
 ·go_simp
 cases g2:(c == c')
 ·go_simp
 ·go_simp
theorem yabi:(⟨#[]⟩:ByteArray).toList = []:=(yamq _).2 rfl
theorem zuq (x:Den):zno x.dir x.name x.child 0 ⟨#[]⟩ (-1) = x.freeB:=by
 unfold zno Den.freeB
 congr 2
 rw [yabi,Bool.eq_iff_iff,beq_iff_eq,beq_iff_eq]
 exact yamq x.name
theorem Den.okB_free {x:Den} (h:x.freeB = true):x.okB = true:=by unfold Den.okB; rw [h]; rfl
theorem Den.okB_not {x:Den} (h:x.freeB = false):x.okB = (decide (1 ≤ x.child ∧ x.child ≤ 15) && (decide (0 ≤ x.dir ∧ x.dir ≤ 15) && nmB x.name)):=by unfold Den.okB; rw [h,Bool.false_or]
theorem yafn (s:ByteArray):(zqz s == 0) = nmB s:=by
 unfold zqz
 cases h:nmB s with
 | true =>
  have:=(of_decide_eq_true h:1 ≤ s.size ∧ s.size ≤ 6 ∧ _)
  rw [if_neg (by omega),if_pos rfl]; rfl
 | false =>
  split
  ·rfl
  ·rw [if_neg (by decide)]; rfl
theorem zoz (s:ByteArray) (w:World) (hs:s.size ≤ maxLen):Calls Tryz.prog 212 #[.string s] w fun e w' => e = .returned (.bool (nmB s)) ∧ Below w.heap.size w w':=by
 have P:=zaa (yafn s)
 have LP:=zaa (fun w1 => znz s w1 hs)
 generalize zvy s = pv at *
 generalize zqz s = pc at *
 clear hs
 go_enter Tryz.func212,Tryz.ntmps212
 go_wp2_with fail
 refine (LP.out _).mono ?_
 rintro e w1 ⟨rfl,hb1⟩
 go_wp2
 go_ret
 exact ⟨zae P.out,hb1⟩
set_option maxRecDepth 100000 in
set_option maxHeartbeats 4000000 in
theorem zyj (x:Den) (w:World) (hF:FD w) (hs:x.name.size ≤ maxLen):Calls Tryz.prog 200 #[x.v] w fun e w' => e = .returned (.bool x.okB) ∧ Below w.heap.size w w':=by
 have LN:=zaa (fun w1 => zoz x.name w1 hs)
 have DF:=zuq x
 have OF:=@Den.okB_free x
 have ON:=@Den.okB_not x
 obtain ⟨d,s,c⟩:=x
 simp only at LN DF ON hs
 unfold Den.v
 simp only
 have BW:=zaa ((Below.refl w.heap.size w).alloc (Nat.le_refl _) (.cells #[.int .i64 d,.string s,.int .i64 c] 199))
 have CB:Hid (∀ w',Below (w.alloc (.cells #[.int .i64 d,.string s,.int .i64 c] 199)).heap.size (w.alloc (.cells #[.int .i64 d,.string s,.int .i64 c] 199)) w' → w'.cell? ⟨w.heap.size,0,none⟩ = some (.int .i64 d) ∧ w'.cell? ⟨w.heap.size,1,none⟩ = some (.string s) ∧ w'.cell? ⟨w.heap.size,2,none⟩ = some (.int .i64 c)):=fun w' hb => zas ((hb.block _ (by simp)).trans (zag rfl))
 obtain ⟨x0,x1,x2⟩:=CB.out _ (Below.refl _ _)
 obtain ⟨f0,f1,f2⟩:=FD.cells (hF.below BW.out)
 clear hF hs
 cases h0:(Den.mk d s c).freeB with
 | true =>
  rw [h0] at DF
  have E:=zaa (OF h0)
  clear OF ON LN CB h0
  go_enter Tryz.func200,Tryz.ntmps200
  go_wp2
  go_ret
  exact ⟨zae E.out.symm,BW.out⟩
 | false =>
  rw [h0] at DF
  have E:=zaa (ON h0)
  clear OF ON h0
  cases h1:nmB s with
  | false =>
   rw [h1] at E
   have N1:=zaa h1
   clear h1 CB
   go_enter Tryz.func200,Tryz.ntmps200
   go_wp2_with fail
   refine (LN.out _).mono ?_
   rw [N1.out]
   rintro e w1 ⟨rfl,hb1⟩
   have B1:=zaa (zab BW.out hb1 BW.out.size)
   clear hb1 x0 x1 x2 f0 f1 f2
   go_wp2
   go_ret
   exact ⟨zae (by rw [E.out,Bool.and_false,Bool.and_false]),B1.out⟩
  | true =>
   rw [h1] at E
   have N1:=zaa h1
   clear h1
   by_cases h2:0 ≤ d ∧ d < 16
   case neg =>
    have E2:=zaa (show (Den.mk d s c).okB = false by rw [E.out,decide_eq_false (show ¬ (0 ≤ d ∧ d ≤ 15) by omega),Bool.false_and,Bool.and_false])
    have H2:=zaa h2
    clear h2 E
    go_enter Tryz.func200,Tryz.ntmps200
    go_wp2_with fail
    refine (LN.out _).mono ?_
    rw [N1.out]
    rintro e w1 ⟨rfl,hb1⟩
    have B1:=zaa (zab BW.out hb1 BW.out.size)
    clear x0 x1 x2 f0 f1 f2
    obtain ⟨x0,x1,x2⟩:=CB.out _ hb1
    clear hb1 CB
    go_wp2_with fail
    refine (zbc _ _ _ H2.out).mono ?_
    rintro e w' ⟨rfl,hw'⟩
    subst w'
    go_wp2
    go_ret
    exact ⟨zae E2.out.symm,B1.out⟩
   by_cases h3:0 ≤ c ∧ c < 16
   case neg =>
    have E2:=zaa (show (Den.mk d s c).okB = false by rw [E.out,decide_eq_false (show ¬ (1 ≤ c ∧ c ≤ 15) by omega),Bool.false_and])
    have H2:=zaa h2
    have H3:=zaa h3
    clear h2 h3 E
    go_enter Tryz.func200,Tryz.ntmps200
    go_wp2_with fail
    refine (LN.out _).mono ?_
    rw [N1.out]
    rintro e w1 ⟨rfl,hb1⟩
    have B1:=zaa (zab BW.out hb1 BW.out.size)
    clear x0 x1 x2 f0 f1 f2
    obtain ⟨x0,x1,x2⟩:=CB.out _ hb1
    clear hb1 CB
    go_wp2_with fail
    refine (zaq _ _ _ H2.out).mono ?_
    rintro e w' ⟨rfl,hw'⟩
    subst w'
    go_wp2_with fail
    refine (zbc _ _ _ H3.out).mono ?_
    rintro e w' ⟨rfl,hw'⟩
    subst w'
    go_wp2
    go_ret
    exact ⟨zae E2.out.symm,B1.out⟩
   have E2:=zaa (show (Den.mk d s c).okB = (c != 0) by
    rw [E.out,decide_eq_true (show 0 ≤ d ∧ d ≤ 15 by omega)]
    by_cases h:c = 0
    ·rw [h]; rfl
    ·rw [decide_eq_true (show 1 ≤ c ∧ c ≤ 15 by omega),eq_comm]; simpa using h)
   have H2:=zaa h2
   have H3:=zaa h3
   clear h2 h3 E
   go_enter Tryz.func200,Tryz.ntmps200
   go_wp2_with fail
   refine (LN.out _).mono ?_
   rw [N1.out]
   rintro e w1 ⟨rfl,hb1⟩
   have B1:=zaa (zab BW.out hb1 BW.out.size)
   clear x0 x1 x2 f0 f1 f2
   obtain ⟨x0,x1,x2⟩:=CB.out _ hb1
   clear hb1 CB
   go_wp2_with fail
   refine (zaq _ _ _ H2.out).mono ?_
   rintro e w' ⟨rfl,hw'⟩
   subst w'
   go_wp2_with fail
   refine (zaq _ _ _ H3.out).mono ?_
   rintro e w' ⟨rfl,hw'⟩
   subst w'
   go_wp2
   go_ret
   exact ⟨zae E2.out.symm,B1.out⟩
theorem yaeu (w1:World) (x:Den):Rd (w1.alloc (.cells #[.int .i64 x.dir,.string x.name,.int .i64 x.child] 199)) 3 (.slice (some ⟨w1.heap.size,0,none⟩) 1 1) 1 (zhl [x]):=by
 refine ⟨rfl,_,_,rfl,⟨Nat.le_refl _,fun e => by cases e⟩,fun _ => ⟨w1.heap.size,0,rfl,by simp,fun j hj => ?_⟩⟩
 obtain ⟨e0,e1,e2⟩:=zas (zag (w:=w1) (o:=.cells #[.int .i64 x.dir,.string x.name,.int .i64 x.child] 199) rfl)
 rcases (show j = 0 ∨ j = 1 ∨ j = 2 by omega) with rfl | rfl | rfl
 ·exact e0
 ·exact e1
 ·exact e2
theorem zif (l:List Den):∀ u ∈ zhl l,u.oneCell' = true:=by
 intro u hu
 simp only [zhl,List.mem_flatMap] at hu
 obtain ⟨m,_,hm⟩:=hu
 simp [Den.cells] at hm
 rcases hm with rfl | rfl | rfl <;> rfl
theorem zkt (l l':List Den):zhl (l ++ l') = zhl l ++ zhl l':=by simp [zhl]
structure DnI (W w:World) (vL:Value) (ds:List Den):Prop where
 l:w.ownsRow W.heap.size 199 3 vL ds.length (zhl ds)
 b:Below W.heap.size W w
theorem DnI.z {W w:World} {vL:Value} {ds:List Den} (h:DnI W w vL ds):W.heap.size ≤ w.heap.size:=h.b.size
theorem DnI.below {W w w':World} {vL:Value} {ds:List Den} (h:DnI W w vL ds) (hb:Below w.heap.size w w'):DnI W w' vL ds :=
 ⟨((zai h.l).below hb (Nat.le_refl _)).1,zab h.b hb h.z⟩
theorem DnI.grow {W w w':World} {vL v':Value} {ds:List Den} (h:DnI W w vL ds) (ms:List Den) (ho:w'.ownsRow W.heap.size 199 3 v' (ds.length + ms.length) (zhl ds ++ zhl ms)) (hg:w.grownBy w' vL.ownBlock):DnI W w' v' (ds ++ ms) :=
 ⟨by rw [zkt,List.length_append]; exact ho,h.b.grown hg h.z (fun q hq => (h.l.lt q hq).1)⟩
def zap (ps:List Den):List Den:=ps.filter fun x => !x.freeB
theorem yafw {ps:List Den} {k:Nat} (h:k < ps.length):zap (ps.take (k + 1)) = if ps[k].freeB = true then zap (ps.take k) else zap (ps.take k) ++ [ps[k]]:=by
 unfold zap
 rw [List.take_succ_eq_append_getElem h,List.filter_append]
 cases hf:ps[k].freeB <;> simp [hf]
theorem zxo (ps:List Den):(zap ps).length ≤ ps.length:=List.length_filter_le _ _
set_option maxRecDepth 100000 in
set_option maxHeartbeats 4000000 in
theorem zny (v:Value) (ps:List Den) (w:World) (h:RdD w v ps) (hn:ps.length ≤ 4096) (hF:FD w) :
  Calls Tryz.prog 173 #[v] w fun e w' => ∃ v',e = .returned v' ∧ Row w' 199 3 w.heap.size w'.heap.size v' (zap ps).length (zhl (zap ps)) ∧ Below w.heap.size w w':=by
 obtain ⟨aP,cP,rfl,_,hcP⟩:=h.shape
 have HP:=zaa hcP
 have F:=zaa hF
 clear h hcP hF
 go_enter Tryz.func173,Tryz.ntmps173
 go_wp2
 go_loopw [3,5,8] (fun vL _ i wr => ∃ k:Nat,k ≤ ps.length ∧ i = .int .i64 k ∧ Hid (DnI w wr vL (zap (ps.take k))) ∧ w.heap.size ≤ wr.heap.size) (fun _ _ i _ => ps.length - (intOf i).toNat)
 case atStart => exact ⟨0,by omega,rfl,⟨World.ownsRow_nil _ _ _ _,Below.refl _ _⟩,Nat.le_refl _⟩
 case round =>
  obtain ⟨k,hk,rfl,I,hz⟩:=hrel
  by_cases hlt:k < ps.length
  ·obtain ⟨b,o,rfl,hbl,hcell⟩:=HP.out (by omega)
   obtain ⟨a0,a1,a2⟩:=hcell k hlt
   have d0:=(I.out.b.cell (p:=⟨b,o + k * 3,none⟩) hbl).trans a0
   have d1:=(I.out.b.cell (p:=⟨b,o + k * 3 + 1,none⟩) hbl).trans a1
   have d2:=(I.out.b.cell (p:=⟨b,o + k * 3 + 2,none⟩) hbl).trans a2
   have k0:(0:Int) ≤ (k:Int):=by omega
   have k1:(k:Int) < (ps.length:Int):=by omega
   have TS:=zaa (yafw hlt)
   have TL:=zxo (ps.take k)
   rw [List.length_take] at TL
   have DF:=zuq ps[k]
   clear a0 a1 a2 hcell
   generalize ps[k] = x at *
   have IB:Hid (DnI w (wr.alloc (.cells #[.int .i64 x.dir,.string x.name,.int .i64 x.child] 199)) u3 (zap (ps.take k))):=I.out.below ((Below.refl _ _).alloc (Nat.le_refl _) _)
   obtain ⟨f0,f1,f2⟩:=FD.cells (F.out.below IB.out.b)
   have hzb:=IB.out.z
   cases hf:x.freeB with
   | true =>
    have G:Hid (DnI w (wr.alloc (.cells #[.int .i64 x.dir,.string x.name,.int .i64 x.child] 199)) u3 (zap (ps.take (k + 1)))):=by unfold Hid; rw [TS.out,if_pos hf]; exact IB.out
    rw [hf] at DF
    clear IB I TS hf TL
    go_wp2
    go_roundw
    case rel => exact ⟨k + 1,by omega,by go_num,G,hzb⟩
    case measure => simp [intOf]; omega
   | false =>
    have IC:Hid (DnI w ((wr.alloc (.cells #[.int .i64 x.dir,.string x.name,.int .i64 x.child] 199)).alloc (.cells #[.int .i64 x.dir,.string x.name,.int .i64 x.child] 199)) u3 (zap (ps.take k))):=IB.out.below ((Below.refl _ _).alloc (Nat.le_refl _) _)
    have RC:=zaa (yaeu (wr.alloc (.cells #[.int .i64 x.dir,.string x.name,.int .i64 x.child] 199)) x)
    have hzc:=IC.out.z
    have TN:Hid (zap (ps.take (k + 1)) = zap (ps.take k) ++ [x]):=by unfold Hid; rw [TS.out,if_neg (by rw [hf]; decide)]
    rw [hf] at DF
    rw [World.size_alloc] at RC
    clear IB I TS hf
    go_wp2_with (at_builtin; refine zak _ rfl (.tmp 15) (.tmp 17) 106 rfl w.heap.size 199 (.agg #[.int .i64 0,.string ⟨#[]⟩,.int .i64 0]) 3 32 Tryz.underlying106 zox rfl (by decide) _ _ _ rfl IC.out.l _ 1 _ rfl RC.out (zif _) (by simp [maxLen]; omega) (by omega) (by omega) ?_)
    intro vN wN hownN hgrN
    have G:=zaa (IC.out.grow [x] hownN hgrN)
    rw [← TN.out] at G
    have hzN:=G.out.z
    clear hownN hgrN IC RC
    go_wp2
    go_roundw
    case rel => exact ⟨k + 1,by omega,by go_num,G,hzN⟩
    case measure => simp [intOf]; omega
  ·obtain rfl:k = ps.length:=by omega
   have E:=zaa (show zap (ps.take ps.length) = zap ps by rw [List.take_length])
   rw [E.out] at I
   obtain ⟨-,aL,cL,hvL,-⟩:=(zai I.out.l).rd
   subst hvL
   go_wp2
   go_ret
   exact ⟨_,rfl,zai I.out.l,I.out.b⟩
end Go.Proofs.YtlkmnpanddchdaaGreatDoor
