/- What a page has, a page read: by the program. -/
import Derived.Test.YtkdjfhkalelafaaGreatDoorDuB
import Derived.Test.YtkdjfhkalelafaaGreatDoorBlkReadI
import Derived.Test.YtkdjfhkalelafaaGreatDoorZAN
import Derived.Test.YtkdjfhkalelafaaGreatDoorZAA
import Derived.Deep.RegionHeld3
namespace Go.Proofs.YtkdjfhkalelafaaGreatDoor
open Go.RowKit
theorem load_page {ws:List Int} {ps:List St} (h:pmB ws ps = true) {k:Nat} (hk:k < 24):yafc ws ps (312 + (k:Int)) = ldW ws ps (312 + k) ∧ zzg ws ps (312 + (k:Int)) = 0:=by
 have p:zcx (312 + (k:Int)) = true:=decide_eq_true (by omega)
 have a:zzg ws ps (312 + (k:Int)) = 0:=by unfold zzg; rw [h,p]; rfl
 refine ⟨?_,a⟩
 unfold yafc ldW
 rw [if_pos a,show (312 + (k:Int)).toNat = 312 + k by omega,show ((312 + k:Nat):Int) = 312 + (k:Int) by omega]
theorem read_page {es:List Int} {qs:List Se} (h:zgk es qs = true) {k:Nat} (hk:k < 32):yapn es qs (k:Int) = zkt (k:Int) (es[k]?.getD 0) qs ∧ askE es qs (k:Int) = 0:=by
 have p:zpr (k:Int) = true:=decide_eq_true (by omega)
 have a:askE es qs (k:Int) = 0:=by unfold askE; rw [h,p]; rfl
 refine ⟨?_,a⟩
 unfold yapn
 rw [if_pos a,Int.toNat_natCast]
set_option maxRecDepth 100000 in
set_option maxHeartbeats 4000000 in
theorem wordOfE_any (v:Value) (ws:List Int) (ps:List St) (es:List Int) (qs:List Se) (e:Int) (w:World) (h:RdDev w v ws ps es qs) (hP:pmB ws ps = true) (hB:zgk es qs = true) (te:zet e = true) (hT:TS w) (hN:NW w) :
  Calls Tryz.prog 40 #[v,.int .i64 e] w fun r w' => r = .returned (.int .i64 (pgV ws ps es qs e)) ∧ Below w.heap.size w w':=by
 obtain ⟨aW,cW,aP,cP,aS,cS,aQ,cQ,rfl,h1,h2⟩:=h.form
 have te':0 ≤ e ∧ ((e % 4 = 0 ∧ e / 4 = 0) ∨ (e % 4 = 1 ∧ 0 ≤ e / 4 ∧ e / 4 < 24) ∨ (e % 4 = 2 ∧ 0 ≤ e / 4 ∧ e / 4 < 32)):=by
  unfold zet zhh at te
  rw [Bool.and_eq_true,decide_eq_true_eq,decide_eq_true_eq] at te
  exact te
 have wl:=zes hP
 have el:=zej hB
 have BW:Hid (Below w.heap.size w (w.alloc (.cells #[.slice aW ws.length cW,.slice aP ps.length cP,.slice aS es.length cS,.slice aQ qs.length cQ] 31))):=(Below.refl _ _).alloc (Nat.le_refl _) _
 have LT:Hid (∀ w1,Below w.heap.size w w1 → Calls Tryz.prog 85 #[.int .i64 e] w1 fun r w' => r = .returned (.tuple #[.int .i64 (e % 4),.int .i64 (e / 4),.int .i64 0]) ∧ w' = w1):=fun w1 hb => by
  have q:=zix e w1 (hT.below hb) (by omega) (by omega)
  rw [(yaqf te).1,(yaqf te).2.1,(yaqf te).2.2] at q
  exact q
 have EV:=zaa (show pgV ws ps es qs e = if e % 4 = 1 then ldW ws ps (312 + e / 4).toNat else if e % 4 = 2 then zkt (e / 4) (es[(e / 4).toNat]?.getD 0) qs else 0 from rfl)
 have L1:Hid (∀ (k:Nat),k < 24 → ∀ w1,Below w.heap.size w w1 → Calls Tryz.prog 86 #[.agg #[.slice aW ws.length cW,.slice aP ps.length cP],.int .i64 (312 + (k:Int))] w1 fun r w' => r = .returned (.tuple #[.int .i64 (ldW ws ps (312 + k)),.int .i64 0]) ∧ Below w1.heap.size w1 w'):=fun k hk w1 hb => by
  have:=yali _ ws ps (312 + (k:Int)) w1 (h1.below hb) (by omega) (by omega)
  rw [(load_page hP hk).1,(load_page hP hk).2] at this
  exact this
 have L2:Hid (∀ (k:Nat),k < 32 → ∀ w1,Below w.heap.size w w1 → Calls Tryz.prog 87 #[.agg #[.slice aS es.length cS,.slice aQ qs.length cQ],.int .i64 (k:Int)] w1 fun r w' => r = .returned (.tuple #[.int .i64 (zkt (k:Int) (es[k]?.getD 0) qs),.int .i64 0]) ∧ Below w1.heap.size w1 w'):=fun k hk w1 hb => by
  have:=implBlkRead_any _ es qs (k:Int) w1 (h2.below hb) (hN.below hb) (by omega) (by omega)
  rw [(read_page hB hk).1,(read_page hB hk).2] at this
  exact this
 clear h h1 h2 te hP hB wl el hT hN
 generalize pgV ws ps es qs e = r at *
 generalize e % 4 = t at *
 generalize e / 4 = a at *
 rcases te'.2 with ⟨rfl,rfl⟩ | ⟨rfl,a0,a1⟩ | ⟨rfl,a0,a1⟩
 ·rw [if_neg (by omega),if_neg (by omega)] at EV
  obtain rfl:=EV.out
  clear te' L1 L2 EV
  go_enter Tryz.func40,Tryz.ntmps40
  go_wp2_with fail
  refine (LT.out _ BW.out).mono ?_
  rintro r w1 ⟨rfl,hw1⟩
  subst w1
  go_wp2
  go_ret
  exact ⟨rfl,BW.out⟩
 ·obtain ⟨k,rfl⟩:∃ k:Nat,a = (k:Int):=⟨a.toNat,by omega⟩
  rw [if_pos rfl,show (312 + (k:Int)).toNat = 312 + k by omega] at EV
  obtain rfl:=EV.out
  have k24:k < 24:=by omega
  have Q:=zaa (L1.out k k24)
  clear te' L1 L2 EV a0 a1
  go_enter Tryz.func40,Tryz.ntmps40
  go_wp2_with fail
  refine (LT.out _ BW.out).mono ?_
  rintro r w1 ⟨rfl,hw1⟩
  subst w1
  go_wp2_with fail
  refine (Q.out _ BW.out).mono ?_
  rintro r w2 ⟨rfl,hb2⟩
  have B2:=zaa (zab BW.out hb2 BW.out.size)
  clear hb2
  go_wp2
  go_ret
  exact ⟨rfl,B2.out⟩
 ·obtain ⟨k,rfl⟩:∃ k:Nat,a = (k:Int):=⟨a.toNat,by omega⟩
  rw [if_neg (by omega),if_pos rfl,Int.toNat_natCast] at EV
  obtain rfl:=EV.out
  have k32:k < 32:=by omega
  have Q:=zaa (L2.out k k32)
  clear te' L1 L2 EV a0 a1
  go_enter Tryz.func40,Tryz.ntmps40
  go_wp2_with fail
  refine (LT.out _ BW.out).mono ?_
  rintro r w1 ⟨rfl,hw1⟩
  subst w1
  go_wp2_with fail
  refine (Q.out _ BW.out).mono ?_
  rintro r w2 ⟨rfl,hb2⟩
  have B2:=zaa (zab BW.out hb2 BW.out.size)
  clear hb2
  go_wp2
  go_ret
  exact ⟨rfl,B2.out⟩
theorem dv_fl {ws:List Int} {ps:List St} {es:List Int} {qs:List Se} {s:ByteArray} (h:(flR (dvN ws ps es qs) (dvD ws ps es qs) s).2 = 0):pmB ws ps = true ∧ zgk es qs = true ∧ zcb (dvN ws ps es qs) (dvD ws ps es qs) = true ∧ ∃ i:Nat,i < 16 ∧ (flR (dvN ws ps es qs) (dvD ws ps es qs) s).1 = (i:Int):=by
 obtain ⟨hi,-,e⟩:=fl_right h
 have d:dvB ws ps es qs = true:=by rw [← dv_img]; exact hi
 rw [e] at h ⊢
 obtain ⟨i,h16,ei,-⟩:=zgu (zbz.1 hi) h
 exact ⟨(yaxs d).1,(yaxs d).2.1,hi,i,h16,ei⟩
def Ino.fa (x:Ino) (i:Int):List Value:=[.int .i64 x.kind,.int .i64 x.size,.int .i64 x.links,.int .i64 x.m0,.int .i64 x.m1,.int .i64 x.m2,.int .i64 x.m3,.int .i64 x.m4,.int .i64 x.m5,.int .i64 x.m6,.int .i64 x.m7,.int .i64 i]
theorem Ino.faM (x:Ino) (i:Int) (m:Nat) (hm:m < 8):(x.fa i)[3 + m]? = some (.int .i64 (x.map.getD m 0)):=by
 rcases (show m = 0 ∨ m = 1 ∨ m = 2 ∨ m = 3 ∨ m = 4 ∨ m = 5 ∨ m = 6 ∨ m = 7 by omega) with rfl | rfl | rfl | rfl | rfl | rfl | rfl | rfl <;> rfl
end Go.Proofs.YtkdjfhkalelafaaGreatDoor
