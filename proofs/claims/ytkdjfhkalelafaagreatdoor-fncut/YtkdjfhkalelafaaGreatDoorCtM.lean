/- A file that is cut has its first pages alone; made longer it has noughts: mathematics. -/
import Derived.Test.YtkdjfhkalelafaaGreatDoorZBC
import Derived.Test.YtkdjfhkalelafaaGreatDoorZAS
namespace Go.Proofs.YtkdjfhkalelafaaGreatDoor
theorem upd_far {k:Nat} (hk:312 ≤ k):∀ (us:List Se) (ls:List Int),UpIn us → (zbk ls us)[k]? = ls[k]?
 | [],_,_ => rfl
 | u :: us,ls,h => by
  rw [zht,upd_far hk us _ (fun v hv => h v (List.mem_cons_of_mem _ hv))]
  have q:=h u List.mem_cons_self
  rw [List.getElem?_set_ne (by omega)]
theorem pg_keep {ls es:List Int} {us:List Se} (ui:UpIn us) {e:Int} (he:0 ≤ e):pgV (zbk ls us) [] es [] e = pgV ls [] es [] e:=by
 unfold pgV
 by_cases c:e % 4 = 1
 ·rw [if_pos c,if_pos c]
  show ((zbk ls us)[(312 + e / 4).toNat]?.getD 0) = (ls[(312 + e / 4).toNat]?.getD 0)
  rw [upd_far (by omega) us ls ui]
 ·rw [if_neg c,if_neg c]
theorem ent_pos {x:Ino} (h:zdy x = true) {j:Nat} (hj:j < 8):0 ≤ x.map.getD j 0 ∧ (x.size ≤ (j:Int) → x.map.getD j 0 = 0):=by
 have m:=zjd (zcp h).2.2.2.1 j hj
 unfold zqr at m
 rw [Bool.and_eq_true] at m
 have t:=zer m.1
 refine ⟨t.1,fun hs => ?_⟩
 rw [Bool.or_eq_true] at m
 rcases m.2 with q | q
 ·simpa using q
 ·have:=of_decide_eq_true q
  omega
theorem lk_same {ns ns':List Ino} {ds:List Den} (hk:∀ z,zai ns' z = zai ns z):∀ (xs:List ByteArray) (z:Int),wk ns' ds z xs = wk ns ds z xs
 | [],_ => rfl
 | n :: xs,z => by
  by_cases q:zai ns z = 2
  ·cases e:zax ds z n with
   | none => rw [zgs q e,zgs ((hk z).trans q) e]
   | some j => rw [zfu q e,zfu ((hk z).trans q) e]; exact lk_same hk xs _
  ·rw [zfa q,zfa (by rw [hk]; exact q)]
theorem fl_same {ns ns':List Ino} {ds:List Den} {s:ByteArray} (hk:∀ z,zai ns' z = zai ns z):flI ns' ds s = flI ns ds s:=by
 unfold flI lkI
 rw [lk_same hk,hk]
theorem ps_idle {ls es:List Int} {ns:List Ino} {ds:List Den} {s:ByteArray} (h:Idle ls es ns ds) (hs:s.size ≤ 65536):psR ls [] es [] s = psI ls [] es [] ns ds s:=by
 unfold psR
 rw [if_neg (by omega),if_pos (by unfold dvB; rw [h.pm,h.bk,show riB (zcg ls []) = true from h.wi.ri]; rfl)]
 rw [show zbe (zcg ls []) 16 = ns from h.wi.inos,show zbi (zcg ls []) 24 = ds from h.wi.dens]
theorem pgL_len0 (ls es:List Int) (x:Ino) (k:Nat):(pgL ls [] es [] x k).length = k:=by simp [pgL]
theorem pgL_at {ls es:List Int} {x:Ino} {k j:Nat} (hj:j < (pgL ls [] es [] x k).length):(pgL ls [] es [] x k)[j] = pgV ls [] es [] (x.map.getD j 0):=by simp [pgL]
theorem cu_found {ls es:List Int} {ns:List Ino} {ds:List Den} {s:ByteArray} {size:Int} {us:List Se} (h:Idle ls es ns ds) (hs:s.size ≤ 65536) (e:cuI ns ds s size = (us,0)) :
  us.length ≤ 16 ∧ (auC ls [] us = 0 ∧ auW ls [] us = zbk ls us ∧ auP ls [] us = []) ∧ ∃ L L':List Int,psR ls [] es [] s = (L,0) ∧ psR (zbk ls us) [] es [] s = (L',0) ∧ (L'.length:Int) = size ∧ L.length ≤ 8 ∧ L'.length ≤ 8 ∧ ∀ j (hj:j < L'.length),L'[j] = if hl:j < L.length then L[j] else 0:=by
 obtain ⟨ui,ul,i,n,i16,n8,ef,es',W⟩:=yavq h.wi e
 have uv:=(yauk h.wi.img e).2.2
 have fz:(flI ns ds s).2 = 0:=by
  unfold cuI at e
  by_cases c:(flI ns ds s).2 = 0
  ·exact c
  ·rw [if_neg c] at e; exact (Prod.mk.inj e).2
 obtain ⟨a1,a2,a3,-⟩:=ztb h ui (by omega) uv W
 have I:=yand h ui (by omega) uv W
 have hi:i < ns.length:=by have:=h.wi.img.l16; omega
 have kk:∀ z,zai (ns.set i (inoM (zan ns i).kind (n:Int) (zan ns i).links (cutM (zan ns i).map n))) z = zai ns z:=fun z => yaum (x:=inoM (zan ns i).kind (n:Int) (zan ns i).links (cutM (zan ns i).map n)) (ws:=ns) (i:=i) rfl z
 have ff:=fl_same (ds:=ds) (s:=s) kk
 have ix:zan (ns.set i (inoM (zan ns i).kind (n:Int) (zan ns i).links (cutM (zan ns i).map n))) i = inoM (zan ns i).kind (n:Int) (zan ns i).links (cutM (zan ns i).map n):=by rw [zca (by rw [List.length_set]; exact hi),List.getElem_set_self]
 have ok:=h.wi.img.ok i i16
 have sz:=(zcp ok).2.1
 have p1:psR ls [] es [] s = (pgL ls [] es [] (zan ns i) (zan ns i).size.toNat,0):=by
  rw [ps_idle h hs]
  unfold psI zdp
  rw [if_pos fz,ef,Int.toNat_natCast]
 have p2:psR (zbk ls us) [] es [] s = (pgL (zbk ls us) [] es [] (inoM (zan ns i).kind (n:Int) (zan ns i).links (cutM (zan ns i).map n)) n,0):=by
  rw [ps_idle I hs]
  unfold psI zdp
  rw [ff,if_pos fz,ef,Int.toNat_natCast,ix]
  rfl
 refine ⟨by omega,⟨a1,a2,a3⟩,_,_,p1,p2,?_,?_,?_,fun j hj => ?_⟩
 ·rw [pgL_len0]; exact es'.symm
 ·rw [pgL_len0]; omega
 ·rw [pgL_len0]; omega
 ·have jn:j < n:=by rw [pgL_len0] at hj; exact hj
  rw [pgL_at hj,zmh (yabe _ _),yagl _ _ _ (by omega),if_pos jn]
  have en:=ent_pos ok (j:=j) (by omega)
  rw [pg_keep ui en.1]
  split
  ·rename_i hl
   rw [pgL_at hl]
  ·rename_i hl
   rw [pgL_len0] at hl
   rw [en.2 (by omega)]
   rfl
theorem cu_codes {ns:List Ino} {ds:List Den} {s:ByteArray} {size:Int} (h0:0 ≤ size ∧ size ≤ 8):(cuI ns ds s size).2 = (flI ns ds s).2:=by
 unfold cuI
 by_cases c:(flI ns ds s).2 = 0
 ·rw [if_pos c]
  unfold cuF
  rw [if_pos h0,c]
 ·rw [if_neg c]
theorem ps_codes {ls es:List Int} {ns:List Ino} {ds:List Den} {s:ByteArray}:(psI ls [] es [] ns ds s).2 = (flI ns ds s).2:=by
 unfold psI
 by_cases c:(flI ns ds s).2 = 0
 ·rw [if_pos c,c]
 ·rw [if_neg c]
end Go.Proofs.YtkdjfhkalelafaaGreatDoor
