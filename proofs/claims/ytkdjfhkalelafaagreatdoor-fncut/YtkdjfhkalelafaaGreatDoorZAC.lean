/- Several texts laid together: ImD, ImH, StoreS, ImE, ImF, ImJ, ImK, ImL, Word. -/
import Derived.Test.YtkdjfhkalelafaaGreatDoorZAB
import Derived.Deep.RegionWith
import Derived.Test.YtkdjfhkalelafaaGreatDoorZAA
namespace Go.Proofs.YtkdjfhkalelafaaGreatDoor
open Go.RowKit
theorem zmu (w:World) (t:TypeId) (size:Nat):Row (w.alloc (.cells #[] t)) t size w.heap.size (w.alloc (.cells #[] t)).heap.size (.slice (some ⟨w.heap.size,0,none⟩) 0 0) 0 [] :=
 zad (World.ownsRow_lit w #[] 0 (Nat.le_refl _) (by simp [maxLen]) (by simp))
theorem Ino.all {x:Ino} {w':World} {b:Nat} (h:∀ j,w'.cell? ⟨b,j,none⟩ = x.cs[j]?):w'.cell? ⟨b,0,none⟩ = some (.int .i64 x.kind) ∧ w'.cell? ⟨b,1,none⟩ = some (.int .i64 x.size) ∧ w'.cell? ⟨b,2,none⟩ = some (.int .i64 x.links) ∧ w'.cell? ⟨b,3,none⟩ = some (.int .i64 x.m0) ∧ w'.cell? ⟨b,4,none⟩ = some (.int .i64 x.m1) ∧ w'.cell? ⟨b,5,none⟩ = some (.int .i64 x.m2) ∧ w'.cell? ⟨b,6,none⟩ = some (.int .i64 x.m3) ∧ w'.cell? ⟨b,7,none⟩ = some (.int .i64 x.m4) ∧ w'.cell? ⟨b,8,none⟩ = some (.int .i64 x.m5) ∧ w'.cell? ⟨b,9,none⟩ = some (.int .i64 x.m6) ∧ w'.cell? ⟨b,10,none⟩ = some (.int .i64 x.m7):=⟨h 0,h 1,h 2,h 3,h 4,h 5,h 6,h 7,h 8,h 9,h 10⟩
def inos (ps:List Ino):List Value:=ps.flatMap Ino.cs
theorem Ino.cs_len (x:Ino):x.cs.length = 11:=rfl
theorem zfk (ps:List Ino) (k i:Nat) (h:k < ps.length) (hi:i < 11):(inos ps)[k * 11 + i]? = ps[k].cs[i]?:=(zbo _ 11 Ino.cs_len ps k i h hi).trans (by rw [List.getElem?_eq_getElem (show i < ps[k].cs.length by rw [Ino.cs_len]; exact hi)])
def RdN (w:World) (v:Value) (ps:List Ino):Prop:=Rd w 11 v ps.length (inos ps)
theorem RdN.shape {w:World} {v:Value} {ps:List Ino} (h:RdN w v ps):∃ ao cap,v = .slice ao ps.length cap ∧ ps.length ≤ cap ∧ (0 < ps.length → ∃ b o,ao = some ⟨b,o,none⟩ ∧ b < w.heap.size ∧
  ∀ k (h:k < ps.length),w.cell? ⟨b,o + k * 11,none⟩ = some (.int .i64 ps[k].kind) ∧ w.cell? ⟨b,o + k * 11 + 1,none⟩ = some (.int .i64 ps[k].size) ∧ w.cell? ⟨b,o + k * 11 + 2,none⟩ = some (.int .i64 ps[k].links) ∧ w.cell? ⟨b,o + k * 11 + 3,none⟩ = some (.int .i64 ps[k].m0) ∧ w.cell? ⟨b,o + k * 11 + 4,none⟩ = some (.int .i64 ps[k].m1) ∧ w.cell? ⟨b,o + k * 11 + 5,none⟩ = some (.int .i64 ps[k].m2) ∧ w.cell? ⟨b,o + k * 11 + 6,none⟩ = some (.int .i64 ps[k].m3) ∧ w.cell? ⟨b,o + k * 11 + 7,none⟩ = some (.int .i64 ps[k].m4) ∧ w.cell? ⟨b,o + k * 11 + 8,none⟩ = some (.int .i64 ps[k].m5) ∧ w.cell? ⟨b,o + k * 11 + 9,none⟩ = some (.int .i64 ps[k].m6) ∧ w.cell? ⟨b,o + k * 11 + 10,none⟩ = some (.int .i64 ps[k].m7)):=by
 obtain ⟨_,ao,cap,rfl,h2,h3⟩:=h
 refine ⟨ao,cap,rfl,h2.1,fun hn => ?_⟩
 obtain ⟨b,o,rfl,hb,hc⟩:=h3 hn
 exact ⟨b,o,rfl,hb,fun k hk => ⟨(hc (k * 11) (by omega)).trans (zfk ps k 0 hk (by omega)),(hc (k * 11 + 1) (by omega)).trans (zfk ps k 1 hk (by omega)),(hc (k * 11 + 2) (by omega)).trans (zfk ps k 2 hk (by omega)),(hc (k * 11 + 3) (by omega)).trans (zfk ps k 3 hk (by omega)),(hc (k * 11 + 4) (by omega)).trans (zfk ps k 4 hk (by omega)),(hc (k * 11 + 5) (by omega)).trans (zfk ps k 5 hk (by omega)),(hc (k * 11 + 6) (by omega)).trans (zfk ps k 6 hk (by omega)),(hc (k * 11 + 7) (by omega)).trans (zfk ps k 7 hk (by omega)),(hc (k * 11 + 8) (by omega)).trans (zfk ps k 8 hk (by omega)),(hc (k * 11 + 9) (by omega)).trans (zfk ps k 9 hk (by omega)),(hc (k * 11 + 10) (by omega)).trans (zfk ps k 10 hk (by omega))⟩⟩
theorem yaky:(Tryz.prog.info? 66).map (fun i => (i.zero,i.size,i.bytes)) = some (some (.agg #[.int .i64 0,.int .i64 0,.int .i64 0,.int .i64 0,.int .i64 0,.int .i64 0,.int .i64 0,.int .i64 0,.int .i64 0,.int .i64 0,.int .i64 0]),11,88):=by kernel_rfl
structure St where
 at_:Int
 val:Int
 fl:Bool
deriving DecidableEq
def St.cells (s:St):List Value:=[.int .i64 s.at_,.int .i64 s.val,.bool s.fl]
def sts (ps:List St):List Value:=ps.flatMap St.cells
theorem St.cells_len (s:St):s.cells.length = 3:=rfl
theorem zxo (ps:List St):(sts ps).length = ps.length * 3:=znr _ 3 St.cells_len ps
theorem zox (ps:List St) (k:Nat) (h:k < ps.length):(sts ps)[k * 3]? = some (.int .i64 ps[k].at_):=zbo _ 3 St.cells_len ps k 0 h (by omega)
theorem yajt (ps:List St) (k:Nat) (h:k < ps.length):(sts ps)[k * 3 + 1]? = some (.int .i64 ps[k].val):=zbo _ 3 St.cells_len ps k 1 h (by omega)
theorem zxt (ps:List St) (k:Nat) (h:k < ps.length):(sts ps)[k * 3 + 2]? = some (.bool ps[k].fl):=zbo _ 3 St.cells_len ps k 2 h (by omega)
def RdS (w:World) (v:Value) (ps:List St):Prop:=Rd w 3 v ps.length (sts ps)
theorem RdS.shape {w:World} {v:Value} {ps:List St} (h:RdS w v ps):∃ ao cap,v = .slice ao ps.length cap ∧ ps.length ≤ cap ∧ (0 < ps.length → ∃ b o,ao = some ⟨b,o,none⟩ ∧ b < w.heap.size ∧
  ∀ k (h:k < ps.length),w.cell? ⟨b,o + k * 3,none⟩ = some (.int .i64 ps[k].at_) ∧ w.cell? ⟨b,o + k * 3 + 1,none⟩ = some (.int .i64 ps[k].val) ∧ w.cell? ⟨b,o + k * 3 + 2,none⟩ = some (.bool ps[k].fl)):=by
 obtain ⟨_,ao,cap,rfl,h2,h3⟩:=h
 refine ⟨ao,cap,rfl,h2.1,fun hn => ?_⟩
 obtain ⟨b,o,rfl,hb,hc⟩:=h3 hn
 exact ⟨b,o,rfl,hb,fun k hk => ⟨(hc (k * 3) (by omega)).trans (zox ps k hk),(hc (k * 3 + 1) (by omega)).trans (yajt ps k hk),(hc (k * 3 + 2) (by omega)).trans (zxt ps k hk)⟩⟩
theorem zqp:(Tryz.prog.info? 114).map (fun i => (i.zero,i.size,i.bytes)) = some (some (.agg #[.int .i64 0,.int .i64 0,.bool false]),3,24):=by kernel_rfl
structure Den where
 dir:Int
 name:ByteArray
 child:Int
def Den.v (x:Den):Value:=.agg #[.int .i64 x.dir,.string x.name,.int .i64 x.child]
def Den.freeB (x:Den):Bool:=x.dir == 0 && (x.name.size == 0 && x.child == -1)
def Den.okB (x:Den):Bool:=x.freeB || (decide (1 ≤ x.child ∧ x.child ≤ 15) && (decide (0 ≤ x.dir ∧ x.dir ≤ 15) && nmB x.name))
def enL (k:Int) (x:Den):List Se:=[⟨240 + 3 * k,x.dir⟩,⟨240 + 3 * k + 1,((pk x.name x.name.size:Nat):Int)⟩,⟨240 + 3 * k + 2,x.child + 1⟩]
set_option maxRecDepth 100000 in
set_option maxHeartbeats 2000000 in
theorem zud (s:ByteArray) (w:World) (hs:s.size = 0):Calls Tryz.prog 125 #[.string s] w fun e w' => e = .returned (.int .i64 ((pk s s.size:Nat):Int)) ∧ w' = w:=by
 have E:=zaa (show ((pk s s.size:Nat):Int) = 0 by rw [hs,zzh]; rfl)
 rw [E.out]
 go_enter Tryz.func125,Tryz.ntmps125
 go_wp2
 go_loop [3,4] (fun n i => i = .int .i64 0 ∧ n = .int .i64 0) (fun _ i => 0)
 case atStart => exact ⟨rfl,rfl⟩
 case round =>
  obtain ⟨rfl,rfl⟩:=hrel
  go_wp2
  go_ret
  exact ⟨rfl,rfl⟩
set_option maxRecDepth 100000 in
set_option maxHeartbeats 2000000 in
theorem zfp (k:Int) (x:Den) (w:World) (hk:0 ≤ k ∧ k < 24) (hc:-1 ≤ x.child ∧ x.child ≤ 15) (hn:x.name.size = 0 ∨ nmB x.name = true) :
  Calls Tryz.prog 77 #[.int .i64 k,x.v] w fun e w' => ∃ v',e = .returned v' ∧ Row w' 83 2 w.heap.size w'.heap.size v' (enL k x).length (ses (enL k x)) ∧ Below w.heap.size w w':=by
 have LP:=zaa (fun w1 => show Calls Tryz.prog 125 #[.string x.name] w1 fun e w' => e = .returned (.int .i64 ((pk x.name x.name.size:Nat):Int)) ∧ w' = w1 by
  rcases hn with h | h
  ·exact zud _ _ h
  ·exact zxx _ _ h)
 clear hn
 have EL:=zaa (show enL k x = [⟨240 + 3 * k,x.dir⟩,⟨240 + 3 * k + 1,((pk x.name x.name.size:Nat):Int)⟩,⟨240 + 3 * k + 2,x.child + 1⟩] from rfl)
 generalize ((pk x.name x.name.size:Nat):Int) = p at LP EL
 obtain ⟨W,hW⟩:∃ W,W = w.alloc (.cells #[.int .i64 x.dir,.string x.name,.int .i64 x.child] 69):=⟨_,rfl⟩
 have SK:Hid (∀ w',Below W.heap.size W w' → w'.cell? ⟨w.heap.size,0,none⟩ = some (.int .i64 x.dir) ∧ w'.cell? ⟨w.heap.size,1,none⟩ = some (.string x.name) ∧ w'.cell? ⟨w.heap.size,2,none⟩ = some (.int .i64 x.child)):=fun w' hb => by
  have:w'.heap[w.heap.size]? = some (.cells #[.int .i64 x.dir,.string x.name,.int .i64 x.child] 69 (0,0)):=(hb.block _ (by rw [hW]; simp)).trans (by rw [hW]; exact zah rfl)
  exact zay this
 have BW:Hid (Below w.heap.size w W):=by rw [hW]; exact (Below.refl _ _).alloc (Nat.le_refl _) _
 have hz:w.heap.size ≤ W.heap.size:=BW.out.size
 unfold Den.v
 go_enter Tryz.func77,Tryz.ntmps77
 go_wp2_with fail
 rw [← hW]
 clear hW
 go_region_held3 (fun w' => w'.cell? ⟨w.heap.size,0,none⟩ = some (.int .i64 x.dir) ∧ w'.cell? ⟨w.heap.size,1,none⟩ = some (.string x.name) ∧ w'.cell? ⟨w.heap.size,2,none⟩ = some (.int .i64 x.child))
  (exact SK.out _ (by repeat (first | exact Below.refl _ _ | refine Below.drew ?_ | refine Below.alloc ?_ (by simp) _)))
  (first | (go_at_call 124; refine (zdq _ _ _ hk (by omega)).mono ?_; rintro e w' ⟨rfl,hw'⟩; subst w') | (go_at_call 125; refine (LP.out _).mono ?_; rintro e w' ⟨rfl,hw'⟩; subst w'))
 have wp1:IntKind.i64.wrap (x.child + 1) = x.child + 1:=by rw [IntKind.wrap_i64]; omega
 rw [wp1]
 have R:Hid (UpI W (W.alloc (.cells #[.int .i64 (240 + 3 * k),.int .i64 x.dir,.int .i64 (240 + 3 * k + 1),.int .i64 p,.int .i64 (240 + 3 * k + 2),.int .i64 (x.child + 1)] 83)).drew (.slice (some ⟨W.heap.size,0,none⟩) 3 3) (enL k x)):=by
  show UpI _ _ _ _
  rw [EL.out]
  exact UpI.below (w:=W.alloc (.cells #[.int .i64 (240 + 3 * k),.int .i64 x.dir,.int .i64 (240 + 3 * k + 1),.int .i64 p,.int .i64 (240 + 3 * k + 2),.int .i64 (x.child + 1)] 83)) ⟨World.ownsRow_lit W _ 3 (Nat.le_refl _) (by simp [maxLen]) rfl,(Below.refl _ _).alloc (Nat.le_refl _) _⟩ ((Below.refl _ _).drew)
 go_wp2
 go_ret
 exact ⟨_,rfl,(zad R.out.l).wide hz (Nat.le_refl _),zab BW.out R.out.b hz⟩
theorem yajn (s:ByteArray):s.toList = [] ↔ s.size = 0:=by
 rw [ByteArray.toList_eq]
 obtain ⟨⟨x⟩⟩:=s
 show x = [] ↔ x.length = 0
 exact List.length_eq_zero_iff.symm
def duC (k:Int) (x:Den):Int:=if 0 ≤ k ∧ k ≤ 23 then (if x.okB = true then 0 else 1) else 4
def duL (k:Int) (x:Den):List Se:=if 0 ≤ k ∧ k ≤ 23 then (if x.okB = true then enL k x else []) else []
theorem yalt (k:Int) (x:Den):(¬ (0 ≤ k ∧ k ≤ 23) ∧ duC k x = 4 ∧ duL k x = []) ∨ ((0 ≤ k ∧ k ≤ 23) ∧ x.okB = false ∧ duC k x = 1 ∧ duL k x = []) ∨ ((0 ≤ k ∧ k ≤ 23) ∧ x.okB = true ∧ duC k x = 0 ∧ duL k x = enL k x):=by
 unfold duC duL
 by_cases h:0 ≤ k ∧ k ≤ 23
 ·cases q:x.okB
  ·exact .inr (.inl ⟨h,rfl,by rw [if_pos h,if_neg (by decide)],by rw [if_pos h,if_neg (by decide)]⟩)
  ·exact .inr (.inr ⟨h,rfl,by rw [if_pos h,if_pos rfl],by rw [if_pos h,if_pos rfl]⟩)
 ·exact .inl ⟨h,by rw [if_neg h],by rw [if_neg h]⟩
def Den.cells (s:Den):List Value:=[.int .i64 s.dir,.string s.name,.int .i64 s.child]
def dens (ps:List Den):List Value:=ps.flatMap Den.cells
theorem Den.cells_len (s:Den):s.cells.length = 3:=rfl
theorem yaay (ps:List Den):(dens ps).length = ps.length * 3:=znr _ 3 Den.cells_len ps
theorem yaoj (ps:List Den) (k:Nat) (h:k < ps.length):(dens ps)[k * 3]? = some (.int .i64 ps[k].dir):=zbo _ 3 Den.cells_len ps k 0 h (by omega)
theorem yaou (ps:List Den) (k:Nat) (h:k < ps.length):(dens ps)[k * 3 + 1]? = some (.string ps[k].name):=zbo _ 3 Den.cells_len ps k 1 h (by omega)
theorem yano (ps:List Den) (k:Nat) (h:k < ps.length):(dens ps)[k * 3 + 2]? = some (.int .i64 ps[k].child):=zbo _ 3 Den.cells_len ps k 2 h (by omega)
def RdD (w:World) (v:Value) (ps:List Den):Prop:=Rd w 3 v ps.length (dens ps)
theorem RdD.shape {w:World} {v:Value} {ps:List Den} (h:RdD w v ps):∃ ao cap,v = .slice ao ps.length cap ∧ ps.length ≤ cap ∧ (0 < ps.length → ∃ b o,ao = some ⟨b,o,none⟩ ∧ b < w.heap.size ∧
  ∀ k (h:k < ps.length),w.cell? ⟨b,o + k * 3,none⟩ = some (.int .i64 ps[k].dir) ∧ w.cell? ⟨b,o + k * 3 + 1,none⟩ = some (.string ps[k].name) ∧ w.cell? ⟨b,o + k * 3 + 2,none⟩ = some (.int .i64 ps[k].child)):=by
 obtain ⟨_,ao,cap,rfl,h2,h3⟩:=h
 refine ⟨ao,cap,rfl,h2.1,fun hn => ?_⟩
 obtain ⟨b,o,rfl,hb,hc⟩:=h3 hn
 exact ⟨b,o,rfl,hb,fun k hk => ⟨(hc (k * 3) (by omega)).trans (yaoj ps k hk),(hc (k * 3 + 1) (by omega)).trans (yaou ps k hk),(hc (k * 3 + 2) (by omega)).trans (yano ps k hk)⟩⟩
theorem znb:(Tryz.prog.info? 69).map (fun i => (i.zero,i.size,i.bytes)) = some (some (.agg #[.int .i64 0,.string ⟨#[]⟩,.int .i64 0]),3,32):=by kernel_rfl
def RdIm (w:World) (v:Value) (ws:List Ino) (ps:List Den):Prop:=∃ vW vP,v = .agg #[vW,vP] ∧ RdN w vW ws ∧ RdD w vP ps
def RowIm (w:World) (lo hi:Nat) (v:Value) (ws:List Ino) (ps:List Den):Prop:=∃ vW vP,v = .agg #[vW,vP] ∧ Row w 66 11 lo hi vW ws.length (inos ws) ∧ Row w 69 3 lo hi vP ps.length (dens ps)
theorem RowIm.rd {w:World} {lo hi:Nat} {v:Value} {ws:List Ino} {ps:List Den} (h:RowIm w lo hi v ws ps):RdIm w v ws ps:=by
 obtain ⟨vW,vP,rfl,h1,h2⟩:=h
 exact ⟨vW,vP,rfl,h1.rd,h2.rd⟩
theorem RdIm.below {w w':World} {v:Value} {ws:List Ino} {ps:List Den} (h:RdIm w v ws ps) (hb:Below w.heap.size w w'):RdIm w' v ws ps:=by
 obtain ⟨vW,vP,rfl,h1,h2⟩:=h
 exact ⟨vW,vP,rfl,Rd.below h1 hb,Rd.below h2 hb⟩
theorem RowIm.below {w w':World} {lo hi:Nat} {v:Value} {ws:List Ino} {ps:List Den} (h:RowIm w lo hi v ws ps) {B:Nat} (hb:Below B w w') (hB:hi ≤ B):RowIm w' lo hi v ws ps:=by
 obtain ⟨vW,vP,rfl,h1,h2⟩:=h
 exact ⟨vW,vP,rfl,h1.below hb hB,h2.below hb hB⟩
def zhv (zs:List Int) (n:Int):Bool:=zs.contains n
theorem yafi {zs:List Int} {n:Int} (h:∀ j (h:j < zs.length),¬ zs[j] = n):zhv zs n = false:=by
 unfold zhv
 rw [List.contains_eq_any_beq,List.any_eq_false]
 intro z hz
 obtain ⟨j,hj,rfl⟩:=List.getElem_of_mem hz
 simp only [beq_iff_eq]
 exact fun e => h j hj e.symm
set_option maxRecDepth 100000 in
set_option maxHeartbeats 2000000 in
theorem zlf (v:Value) (zs:List Int) (n:Int) (w:World) (h:RdI w v zs) (hn:zs.length ≤ 1048576) :
  Calls Tryz.prog 120 #[v,.int .i64 n] w fun e w' => e = .returned (.bool (zhv zs n)) ∧ w' = w:=by
 obtain ⟨aZ,cZ,rfl,_,hcZ⟩:=h.shape
 have HZ:=zaa hcZ
 clear h hcZ
 go_enter Tryz.func120,Tryz.ntmps120
 go_wp2
 go_loop [5] (fun i => ∃ k:Nat,k ≤ zs.length ∧ i = .int .i64 k ∧ Hid (∀ j (h:j < zs.length),j < k → ¬ zs[j] = n)) (fun i => zs.length - (intOf i).toNat)
 case atStart => exact ⟨0,by omega,rfl,fun j h a => absurd a (by omega)⟩
 case round =>
  obtain ⟨k,hk,rfl,H⟩:=hrel
  by_cases hlt:k < zs.length
  ·obtain ⟨b,o,rfl,hbl,hcell⟩:=HZ.out (by omega)
   have d0:=hcell k hlt
   have k0:(0:Int) ≤ (k:Int):=by omega
   have k1:(k:Int) < (zs.length:Int):=by omega
   have HY:=zaa (fun e:zs[k] = n => show zhv zs n = true by unfold zhv; rw [← e]; exact List.contains_iff_mem.2 (List.getElem_mem hlt))
   have HX:=zaa (fun (e:¬ zs[k] = n) j (h:j < zs.length) (a:j < k + 1) => show ¬ zs[j] = n by
    by_cases q:j = k
    ·subst q; exact e
    ·exact H.out j h (by omega))
   clear hcell
   generalize zs[k] = z at *
   by_cases q:z = n
   ·have q1:(z == n) = true:=beq_iff_eq.2 q
    have E:=zaa (HY.out q)
    clear q HX HY
    go_wp2
    go_ret
    exact ⟨zag E.out.symm,rfl⟩
   ·have q1:(z == n) = false:=beq_eq_false_iff_ne.2 q
    have E:=zaa (HX.out q)
    clear q HX HY
    go_wp2
    go_round
    case rel => exact ⟨k + 1,by omega,by go_num,E⟩
    case measure => simp [intOf]; omega
  ·obtain rfl:k = zs.length:=by omega
   have E:=zaa (yafi (fun j h => H.out j h h))
   go_wp2
   go_ret
   exact ⟨zag E.out.symm,rfl⟩
theorem zrd (b:Bool) (w:World):Calls Tryz.prog 117 #[.bool b] w fun e w' => e = .returned (.int .i64 (if b = true then 1 else 0)) ∧ w' = w:=by
 cases b
 all_goals
  go_enter Tryz.func117,Tryz.ntmps117
  go_wp2
  go_ret
  exact ⟨rfl,rfl⟩
def upD (ds:List Den) (c:Int):Int:=((ds.find? fun x => x.child == c).map Den.dir).getD (-1)
theorem zzy {ds:List Den} {c:Int} (h:∀ j (h:j < ds.length),¬ ds[j].child = c):upD ds c = -1:=by
 unfold upD
 rw [List.find?_eq_none.2]
 ·rfl
 ·intro x hx
  obtain ⟨j,hj,rfl⟩:=List.getElem_of_mem hx
  simp only [beq_iff_eq]
  exact h j hj
theorem ztj {ds:List Den} {c:Int} {k:Nat} (hk:k < ds.length) (h:∀ j (h:j < ds.length),j < k → ¬ ds[j].child = c) (e:ds[k].child = c):upD ds c = ds[k].dir:=by
 unfold upD
 have:ds.find? (fun x => x.child == c) = some ds[k]:=List.find?_eq_some_iff_getElem.2 ⟨beq_iff_eq.2 e,k,hk,rfl,fun j hj => by
  have:=h j (by omega) hj
  simp [this]⟩
 rw [this]
 rfl
set_option maxRecDepth 100000 in
set_option maxHeartbeats 2000000 in
theorem zwj (v:Value) (ws:List Ino) (ps:List Den) (c:Int) (w:World) (h:RdIm w v ws ps) (hn:ps.length ≤ 1048576) :
  Calls Tryz.prog 123 #[v,.int .i64 c] w fun e w' => e = .returned (.int .i64 (upD ps c)) ∧ Below w.heap.size w w':=by
 obtain ⟨vW,vP,rfl,h1,h2⟩:=h
 obtain ⟨aW,cW,rfl,_⟩:=h1.shape
 obtain ⟨aP,cP,rfl,_,hcP⟩:=h2.shape
 have HZ:=zaa hcP
 clear h1 h2 hcP
 obtain ⟨W,hW⟩:∃ W,W = w.alloc (.cells #[.slice aW ws.length cW,.slice aP ps.length cP] 42):=⟨_,rfl⟩
 have CA:Hid (∀ w',Below W.heap.size W w' → w'.cell? ⟨w.heap.size,1,none⟩ = some (.slice aP ps.length cP)):=fun w' hb => by
  have:w'.heap[w.heap.size]? = some (.cells #[.slice aW ws.length cW,.slice aP ps.length cP] 42 (0,0)):=(hb.block _ (by rw [hW]; simp)).trans (by rw [hW]; exact zah rfl)
  exact (zac this).2.1
 have BW:Hid (Below w.heap.size w W):=by rw [hW]; exact (Below.refl _ _).alloc (Nat.le_refl _) _
 have hz:w.heap.size ≤ W.heap.size:=BW.out.size
 go_enter Tryz.func123,Tryz.ntmps123
 go_wp2
 rw [← hW]
 clear hW
 go_loopw [5] (fun i wr => ∃ k:Nat,k ≤ ps.length ∧ i = .int .i64 k ∧ Hid (Below W.heap.size W wr ∧ ∀ j (h:j < ps.length),j < k → ¬ ps[j].child = c)) (fun i _ => ps.length - (intOf i).toNat)
 case atStart => exact ⟨0,by omega,rfl,Below.refl _ _,fun j h a => absurd a (by omega)⟩
 case round =>
  obtain ⟨k,hk,rfl,J⟩:=hrel
  have x1:=CA.out wr J.out.1
  by_cases hlt:k < ps.length
  ·obtain ⟨b,o,rfl,hbl,hcell⟩:=HZ.out (by omega)
   have BR:=zab BW.out J.out.1 hz
   obtain ⟨c0,c1,c2⟩:=hcell k hlt
   have d0:=(BR.cell (p:=⟨b,o + k * 3,none⟩) hbl).trans c0
   have d2:=(BR.cell (p:=⟨b,o + k * 3 + 2,none⟩) hbl).trans c2
   have B:=zaa BR
   have k0:(0:Int) ≤ (k:Int):=by omega
   have k1:(k:Int) < (ps.length:Int):=by omega
   have HY:=zaa (fun e:ps[k].child = c => ztj hlt J.out.2 e)
   have HX:=zaa (fun (e:¬ ps[k].child = c) j (h:j < ps.length) (a:j < k + 1) => show ¬ ps[j].child = c by
    by_cases q:j = k
    ·subst q; exact e
    ·exact J.out.2 j h (by omega))
   clear hcell c0 c1 c2 BR
   generalize ps[k].child = z at *
   generalize ps[k].dir = y at *
   by_cases q:z = c
   ·have q1:(z == c) = true:=beq_iff_eq.2 q
    have E:=zaa (HY.out q)
    clear q HX HY
    go_wp2
    go_ret
    exact ⟨zct E.out.symm,B.out⟩
   ·have q1:(z == c) = false:=beq_eq_false_iff_ne.2 q
    have E:Hid (Below W.heap.size W wr ∧ ∀ j (h:j < ps.length),j < k + 1 → ¬ ps[j].child = c):=⟨J.out.1,HX.out q⟩
    clear q HX HY
    go_wp2
    go_roundw
    case rel => exact ⟨k + 1,by omega,by go_num,E⟩
    case measure => simp [intOf]; omega
  ·obtain rfl:k = ps.length:=by omega
   have E:=zaa (zzy (fun j h => J.out.2 j h h))
   go_wp2
   go_ret
   exact ⟨zct E.out.symm,zab BW.out J.out.1 hz⟩
def zcr (ds:List Den):Nat → Int → Bool
 | 0,_ => false
 | n + 1,d => if d = 0 then true else if upD ds d < 0 then false else zcr ds n (upD ds d)
set_option maxRecDepth 100000 in
set_option maxHeartbeats 2000000 in
theorem zvm (v:Value) (ws:List Ino) (ps:List Den) (c:Int) (w:World) (h:RdIm w v ws ps) (hn:ps.length ≤ 1048576) :
  Calls Tryz.prog 118 #[v,.int .i64 c] w fun e w' => e = .returned (.bool (zcr ps 16 c)) ∧ Below w.heap.size w w':=by
 have HR:=zaa h
 obtain ⟨vW,vP,rfl,h1,h2⟩:=h
 obtain ⟨aW,cW,rfl,_⟩:=h1.shape
 obtain ⟨aP,cP,rfl,_,hcP⟩:=h2.shape
 clear h1 h2 hcP
 obtain ⟨W,hW⟩:∃ W,W = w.alloc (.cells #[.slice aW ws.length cW,.slice aP ps.length cP] 42):=⟨_,rfl⟩
 have CA:Hid (∀ w',Below W.heap.size W w' → w'.cell? ⟨w.heap.size,0,none⟩ = some (.slice aW ws.length cW) ∧ w'.cell? ⟨w.heap.size,1,none⟩ = some (.slice aP ps.length cP)):=fun w' hb => by
  have:w'.heap[w.heap.size]? = some (.cells #[.slice aW ws.length cW,.slice aP ps.length cP] 42 (0,0)):=(hb.block _ (by rw [hW]; simp)).trans (by rw [hW]; exact zah rfl)
  exact ⟨(zac this).1,(zac this).2.1⟩
 have BW:Hid (Below w.heap.size w W):=by rw [hW]; exact (Below.refl _ _).alloc (Nat.le_refl _) _
 have hz:w.heap.size ≤ W.heap.size:=BW.out.size
 have LU:=zaa (fun d w1 h => zwj (.agg #[.slice aW ws.length cW,.slice aP ps.length cP]) ws ps d w1 h hn)
 go_enter Tryz.func118,Tryz.ntmps118
 go_wp2
 rw [← hW]
 clear hW
 go_loopw [1,5] (fun d i wr => ∃ (k:Nat) (z:Int),k ≤ 16 ∧ i = .int .i64 k ∧ d = .int .i64 z ∧ Hid (Below W.heap.size W wr ∧ zcr ps 16 c = zcr ps (16 - k) z)) (fun _ i _ => 16 - (intOf i).toNat)
 case atStart => exact ⟨0,c,by omega,rfl,rfl,Below.refl _ _,rfl⟩
 case round =>
  obtain ⟨k,z,hk,rfl,rfl,J⟩:=hrel
  obtain ⟨x0,x1⟩:=CA.out wr J.out.1
  by_cases hlt:k < 16
  ·have ES:=zaa (show zcr ps (16 - k) z = if z = 0 then true else if upD ps z < 0 then false else zcr ps (16 - (k + 1)) (upD ps z) by
    rw [show 16 - k = (16 - (k + 1)) + 1 by omega]; rfl)
   have B:=zaa (zab BW.out J.out.1 hz)
   by_cases q:z = 0
   ·subst q
    have E:=zaa (show zcr ps 16 c = true by rw [J.out.2,ES.out,if_pos rfl])
    go_wp2
    go_ret
    exact ⟨zag E.out.symm,B.out⟩
   ·have q1:(z == 0) = false:=beq_eq_false_iff_ne.2 q
    have R:=zaa (HR.out.below B.out)
    by_cases r:upD ps z < 0
    ·have E:=zaa (show zcr ps 16 c = false by rw [J.out.2,ES.out,if_neg q,if_pos r])
     go_wp2_with fail
     refine (LU.out _ _ R.out).mono ?_
     rintro e w1 ⟨rfl,hb1⟩
     have B1:=zaa (zab B.out hb1 B.out.size)
     clear hb1
     go_wp2
     go_ret
     exact ⟨zag E.out.symm,B1.out⟩
    ·have E:=zaa (show zcr ps 16 c = zcr ps (16 - (k + 1)) (upD ps z) by rw [J.out.2,ES.out,if_neg q,if_neg r])
     go_wp2_with fail
     refine (LU.out _ _ R.out).mono ?_
     rintro e w1 ⟨rfl,hb1⟩
     have B1:=zaa (zab J.out.1 hb1 J.out.1.size)
     clear hb1
     go_wp2
     go_roundw
     case rel => exact ⟨k + 1,_,by omega,by go_num,rfl,B1.out,E.out⟩
     case measure => simp [intOf]; omega
  ·obtain rfl:k = 16:=by omega
   have E:=zaa (show zcr ps 16 c = false by rw [J.out.2]; rfl)
   go_wp2
   go_ret
   exact ⟨zag E.out.symm,zab BW.out J.out.1 hz⟩
def zlr (ds:List Den) (c:Int) (k:Nat):Nat:=((ds.take k).filter fun x => x.child == c).length
theorem yaks (ds:List Den) (c:Int):zlr ds c 0 = 0:=rfl
theorem zkm {ds:List Den} {c:Int} {k:Nat} (h:k < ds.length):zlr ds c (k + 1) = zlr ds c k + (if (ds[k].child == c) = true then 1 else 0):=by
 unfold zlr
 rw [List.take_succ_eq_append_getElem h,List.filter_append,List.length_append]
 congr 1
 cases q:ds[k].child == c <;> simp [List.filter,q]
theorem yagn (ds:List Den) (c:Int) (k:Nat):zlr ds c k ≤ k:=by
 unfold zlr
 exact Nat.le_trans (List.length_filter_le _ _) (by simp; omega)
def zgm (ps:List Den) (i:Nat) (x:Ino):Bool:=decide ((if i = 0 then 1 else 0) + (zlr ps i ps.length:Int) = x.links) && (decide (¬ x.kind = 2) || zcr ps 16 i)
def zgg (ws:List Ino) (ps:List Den):Bool:=decide (∀ i (h:i < ws.length),zgm ps i ws[i] = true)
theorem yadx {ws:List Ino} {ps:List Den} {i:Nat} (h:i < ws.length) (q:zgm ps i ws[i] = false):zgg ws ps = false:=decide_eq_false (fun e => by rw [e i h] at q; cases q)
theorem yabp (w:World):Calls Tryz.prog 117 #[.bool true] w fun e w' => e = .returned (.int .i64 1) ∧ w' = w:=zrd true w
theorem yaal (w:World):Calls Tryz.prog 117 #[.bool false] w fun e w' => e = .returned (.int .i64 0) ∧ w' = w:=zrd false w
set_option maxRecDepth 100000 in
set_option maxHeartbeats 4000000 in
theorem ztw (v:Value) (ws:List Ino) (ps:List Den) (w:World) (h:RdIm w v ws ps) (hm:ws.length ≤ 1048576) (hn:ps.length ≤ 1048576) :
  Calls Tryz.prog 72 #[v] w fun e w' => e = .returned (.bool (zgg ws ps)) ∧ Below w.heap.size w w':=by
 have HR:=zaa h
 obtain ⟨vW,vP,rfl,h1,h2⟩:=h
 obtain ⟨aW,cW,rfl,_,hcW⟩:=h1.shape
 obtain ⟨aP,cP,rfl,_,hcP⟩:=h2.shape
 have HW:=zaa hcW
 have HZ:=zaa hcP
 clear h1 h2 hcP hcW
 obtain ⟨W,hW⟩:∃ W,W = w.alloc (.cells #[.slice aW ws.length cW,.slice aP ps.length cP] 42):=⟨_,rfl⟩
 have CA:Hid (∀ w',Below W.heap.size W w' → w'.cell? ⟨w.heap.size,0,none⟩ = some (.slice aW ws.length cW) ∧ w'.cell? ⟨w.heap.size,1,none⟩ = some (.slice aP ps.length cP)):=fun w' hb => by
  have:w'.heap[w.heap.size]? = some (.cells #[.slice aW ws.length cW,.slice aP ps.length cP] 42 (0,0)):=(hb.block _ (by rw [hW]; simp)).trans (by rw [hW]; exact zah rfl)
  exact ⟨(zac this).1,(zac this).2.1⟩
 have BW:Hid (Below w.heap.size w W):=by rw [hW]; exact (Below.refl _ _).alloc (Nat.le_refl _) _
 have hz:w.heap.size ≤ W.heap.size:=BW.out.size
 have LH:=zaa (fun d w1 h => zvm (.agg #[.slice aW ws.length cW,.slice aP ps.length cP]) ws ps d w1 h hn)
 go_enter Tryz.func72,Tryz.ntmps72
 go_wp2
 rw [← hW]
 clear hW
 go_loopw [3] (fun i wr => ∃ k:Nat,k ≤ ws.length ∧ i = .int .i64 k ∧ Hid (Below W.heap.size W wr ∧ ∀ j (h:j < ws.length),j < k → zgm ps j ws[j] = true)) (fun i _ => ws.length - (intOf i).toNat)
 case atStart => exact ⟨0,by omega,rfl,Below.refl _ _,fun j h a => absurd a (by omega)⟩
 case round =>
  obtain ⟨i,hi,rfl,J⟩:=hrel
  obtain ⟨x0,x1⟩:=CA.out wr J.out.1
  by_cases hlt:i < ws.length
  ·have i0:(0:Int) ≤ (i:Int):=by omega
   have i1:(i:Int) < (ws.length:Int):=by omega
   obtain ⟨b0,HB,b1,LB⟩:∃ b0:Int,Hid (b0 = if i = 0 then 1 else 0) ∧ (0 ≤ b0 ∧ b0 ≤ 1) ∧ Hid (∀ w1:World,Calls Tryz.prog 117 #[.bool ((i:Int) == 0)] w1 fun e w' => e = .returned (.int .i64 b0) ∧ w' = w1):=by
    by_cases q:i = 0
    ·refine ⟨1,zaa (by rw [if_pos q]),by omega,fun w1 => ?_⟩
     rw [show ((i:Int) == 0) = true by rw [beq_iff_eq]; omega]
     exact yabp w1
    ·refine ⟨0,zaa (by rw [if_neg q]),by omega,fun w1 => ?_⟩
     rw [show ((i:Int) == 0) = false by rw [beq_eq_false_iff_ne]; omega]
     exact yaal w1
   have START:Hid (Below W.heap.size W wr):=J.out.1
   go_wp2_with (go_at_call 117; refine (LB.out _).mono ?_; rintro e w' ⟨rfl,hw'⟩; subst w')
   go_loopw [4,5] (fun n kk wq => ∃ k:Nat,k ≤ ps.length ∧ kk = .int .i64 k ∧ n = .int .i64 (b0 + (zlr ps i k:Int)) ∧ Hid (Below W.heap.size W wq)) (fun _ kk _ => ps.length - (intOf kk).toNat)
   case atStart => exact ⟨0,by omega,rfl,by rw [yaks]; simp,START⟩
   case round =>
    obtain ⟨k,hk,rfl,rfl,K⟩:=hrel
    obtain ⟨y0,y1⟩:=CA.out wr K.out
    have B:=zaa (zab BW.out K.out hz)
    have cl:=yagn ps i k
    have k0:(0:Int) ≤ (k:Int):=by omega
    clear x0 x1 START
    by_cases hlk:k < ps.length
    ·obtain ⟨b,o,rfl,hbl,hcell⟩:=HZ.out (by omega)
     obtain ⟨_,_,c2⟩:=hcell k hlk
     have d2:=(B.out.cell (p:=⟨b,o + k * 3 + 2,none⟩) hbl).trans c2
     have k1:(k:Int) < (ps.length:Int):=by omega
     obtain ⟨t,HT,t1,LT⟩:∃ t:Int,Hid ((zlr ps i (k + 1):Int) = (zlr ps i k:Int) + t) ∧ (0 ≤ t ∧ t ≤ 1) ∧ Hid (∀ w1:World,Calls Tryz.prog 117 #[.bool (ps[k].child == (i:Int))] w1 fun e w' => e = .returned (.int .i64 t) ∧ w' = w1):=by
      cases q:(ps[k].child == (i:Int))
      ·refine ⟨0,zaa (by rw [zkm hlk,q]; simp),by omega,fun w1 => ?_⟩
       exact yaal w1
      ·refine ⟨1,zaa (by rw [zkm hlk,q]; simp),by omega,fun w1 => ?_⟩
       exact yabp w1
     clear hcell c2
     generalize ps[k].child = z at *
     have cc0:(0:Int) ≤ (zlr ps i k:Int) ∧ (zlr ps i k:Int) ≤ 1048576:=by omega
     generalize (zlr ps i k:Int) = cc at *
     go_wp2_with (go_at_call 117; refine (LT.out _).mono ?_; rintro e w' ⟨rfl,hw'⟩; subst w')
     go_roundw
     case rel => exact ⟨k + 1,by omega,by go_num,by rw [HT.out,Int.add_assoc],K⟩
     case measure => simp [intOf]; omega
    ·obtain rfl:k = ps.length:=by omega
     obtain ⟨b,o,rfl,hbl,hcell⟩:=HW.out (by omega)
     obtain ⟨c0,_,c2,_⟩:=hcell i hlt
     have d0:=(B.out.cell (p:=⟨b,o + i * 11,none⟩) hbl).trans c0
     have d2:=(B.out.cell (p:=⟨b,o + i * 11 + 2,none⟩) hbl).trans c2
     have EL:=zaa (show zgm ps i ws[i] = (decide (b0 + (zlr ps i ps.length:Int) = ws[i].links) && (decide (¬ ws[i].kind = 2) || zcr ps 16 i)) by unfold zgm; rw [HB.out])
     have NO:=zaa (fun e => yadx (ps:=ps) hlt e)
     have YES:=zaa (fun (e:zgm ps i ws[i] = true) j (h:j < ws.length) (a:j < i + 1) => show zgm ps j ws[j] = true by
      by_cases q:j = i
      ·subst q; exact e
      ·exact J.out.2 j h (by omega))
     clear hcell c0 c2 J HB LB
     have cc0:(0:Int) ≤ (zlr ps i ps.length:Int) ∧ (zlr ps i ps.length:Int) ≤ 1048576:=by omega
     generalize (zlr ps i ps.length:Int) = cc at *
     generalize zgm ps i ws[i] = lb at EL NO YES
     generalize ws[i].links = zl at *
     generalize ws[i].kind = zk at *
     by_cases q:b0 + cc = zl
     ·by_cases r:zk = 2
      ·subst r
       cases hh:zcr ps 16 i with
       | true =>
        have E:=zaa (YES.out (by rw [EL.out,decide_eq_true q,hh]; rfl))
        have HH:=zaa hh
        have R:=zaa (HR.out.below B.out)
        have q1:(b0 + cc != zl) = false:=by rw [q]; simp
        clear hh EL NO YES q
        go_wp2_with fail
        refine (LH.out _ _ R.out).mono ?_
        rw [HH.out]
        rintro e w1 ⟨rfl,hb1⟩
        have B1:=zaa (zab K.out hb1 K.out.size)
        clear hb1
        go_wp2
        go_roundw
        case rel => exact ⟨i + 1,by omega,by go_num,B1.out,E.out⟩
        case measure => simp [intOf]; omega
       | false =>
        have E:=zaa (NO.out (by rw [EL.out,hh]; simp))
        have HH:=zaa hh
        have R:=zaa (HR.out.below B.out)
        have q1:(b0 + cc != zl) = false:=by rw [q]; simp
        clear hh EL NO YES q
        go_wp2_with fail
        refine (LH.out _ _ R.out).mono ?_
        rw [HH.out]
        rintro e w1 ⟨rfl,hb1⟩
        have B1:=zaa (zab B.out hb1 B.out.size)
        clear hb1
        go_wp2
        go_ret
        exact ⟨zag E.out.symm,B1.out⟩
      ·have E:Hid (Below W.heap.size W wr ∧ ∀ j (h:j < ws.length),j < i + 1 → zgm ps j ws[j] = true):=⟨K.out,YES.out (by rw [EL.out,decide_eq_true q,decide_eq_true r]; rfl)⟩
       have r1:(zk == 2) = false:=beq_eq_false_iff_ne.2 r
       have q1:(b0 + cc != zl) = false:=by rw [q]; simp
       clear EL NO YES q r
       go_wp2
       go_roundw
       case rel => exact ⟨i + 1,by omega,by go_num,E⟩
       case measure => simp [intOf]; omega
     ·have q1:(b0 + cc != zl) = true:=by rw [bne_iff_ne]; exact q
      have E:=zaa (NO.out (by rw [EL.out,decide_eq_false q]; rfl))
      clear q EL NO YES
      go_wp2
      go_ret
      exact ⟨zag E.out.symm,B.out⟩
  ·obtain rfl:i = ws.length:=by omega
   have E:=zaa (show zgg ws ps = true from decide_eq_true (fun j h => J.out.2 j h h))
   go_wp2
   go_ret
   exact ⟨zag E.out.symm,zab BW.out J.out.1 hz⟩
def zbd (n:Int):Bool:=decide (0 ≤ n ∧ n < 1099511627776)
def zcx (n:Int):Bool:=decide (0 ≤ n ∧ n < 336)
def zpr (n:Int):Bool:=decide (0 ≤ n ∧ n < 32)
theorem zvl {n:Int} (h:zpr n = true):0 ≤ n ∧ n < 32:=of_decide_eq_true h
theorem zha {n:Int} (h:zcx n = true):0 ≤ n ∧ n < 336:=of_decide_eq_true h
theorem zgd (n:Int) (w:World):Calls Tryz.prog 80 #[.int .i64 n] w fun e w' => e = .returned (.bool (zbd n)) ∧ w' = w:=by
 by_cases h0:0 ≤ n
 ·by_cases h1:n < 1099511627776
  ·have e:zbd n = true:=decide_eq_true ⟨h0,h1⟩
   rw [e]; clear e
   go_enter Tryz.func80,Tryz.ntmps80
   go_wp2
   go_ret
   exact ⟨rfl,rfl⟩
  ·have e:zbd n = false:=decide_eq_false (fun h => h1 h.2)
   rw [e]; clear e
   go_enter Tryz.func80,Tryz.ntmps80
   go_wp2
   go_ret
   exact ⟨rfl,rfl⟩
 ·have e:zbd n = false:=decide_eq_false (fun h => h0 h.1)
  rw [e]; clear e
  go_enter Tryz.func80,Tryz.ntmps80
  go_wp2
  go_ret
  exact ⟨rfl,rfl⟩
theorem zdl (n:Int) (w:World):Calls Tryz.prog 83 #[.int .i64 n] w fun e w' => e = .returned (.bool (zcx n)) ∧ w' = w:=by
 by_cases h0:0 ≤ n
 ·by_cases h1:n < 336
  ·have e:zcx n = true:=decide_eq_true ⟨h0,h1⟩
   rw [e]; clear e
   go_enter Tryz.func83,Tryz.ntmps83
   go_wp2
   go_ret
   exact ⟨rfl,rfl⟩
  ·have e:zcx n = false:=decide_eq_false (fun h => h1 h.2)
   rw [e]; clear e
   go_enter Tryz.func83,Tryz.ntmps83
   go_wp2
   go_ret
   exact ⟨rfl,rfl⟩
 ·have e:zcx n = false:=decide_eq_false (fun h => h0 h.1)
  rw [e]; clear e
  go_enter Tryz.func83,Tryz.ntmps83
  go_wp2
  go_ret
  exact ⟨rfl,rfl⟩
theorem zeq (n:Int) (w:World):Calls Tryz.prog 157 #[.int .i64 n] w fun e w' => e = .returned (.bool (zpr n)) ∧ w' = w:=by
 by_cases h0:0 ≤ n
 ·by_cases h1:n < 32
  ·have e:zpr n = true:=decide_eq_true ⟨h0,h1⟩
   rw [e]; clear e
   go_enter Tryz.func157,Tryz.ntmps157
   go_wp2
   go_ret
   exact ⟨rfl,rfl⟩
  ·have e:zpr n = false:=decide_eq_false (fun h => h1 h.2)
   rw [e]; clear e
   go_enter Tryz.func157,Tryz.ntmps157
   go_wp2
   go_ret
   exact ⟨rfl,rfl⟩
 ·have e:zpr n = false:=decide_eq_false (fun h => h0 h.1)
  rw [e]; clear e
  go_enter Tryz.func157,Tryz.ntmps157
  go_wp2
  go_ret
  exact ⟨rfl,rfl⟩
def inB (n lo hi:Int):Bool:=decide (lo ≤ n ∧ n ≤ hi)
theorem yafw (n lo hi:Int) (w:World):Calls Tryz.prog 92 #[.int .i64 n,.int .i64 lo,.int .i64 hi] w fun e w' => e = .returned (.bool (inB n lo hi)) ∧ w' = w:=by
 by_cases h0:lo ≤ n
 ·by_cases h1:n ≤ hi
  ·have e:inB n lo hi = true:=decide_eq_true ⟨h0,h1⟩
   rw [e]; clear e
   go_enter Tryz.func92,Tryz.ntmps92
   go_wp2
   go_ret
   exact ⟨rfl,rfl⟩
  ·have e:inB n lo hi = false:=decide_eq_false (fun h => h1 h.2)
   rw [e]; clear e
   go_enter Tryz.func92,Tryz.ntmps92
   go_wp2
   go_ret
   exact ⟨rfl,rfl⟩
 ·have e:inB n lo hi = false:=decide_eq_false (fun h => h0 h.1)
  rw [e]; clear e
  go_enter Tryz.func92,Tryz.ntmps92
  go_wp2
  go_ret
  exact ⟨rfl,rfl⟩
theorem yalv (n:Int):inB n 0 1099511627775 = zbd n:=by
 unfold inB zbd
 rw [decide_eq_decide]
 omega
theorem zyr (n:Int) (w:World):Calls Tryz.prog 176 #[.int .i64 n] w fun e w' => e = .returned (.bool (zbd n)) ∧ w' = w:=by
 have E:=zaa (yalv n)
 go_enter Tryz.func176,Tryz.ntmps176
 go_wp2_with fail
 refine (yafw n 0 1099511627775 _).mono ?_
 rw [E.out]
 rintro e w' ⟨rfl,rfl⟩
 go_wp2
 go_ret
 exact ⟨rfl,rfl⟩
def zis (zs:List Int):Bool:=decide (∀ k (h:k < zs.length),zbd zs[k] = true)
theorem znu {zs:List Int} (h:zis zs = true):∀ k (h:k < zs.length),zbd zs[k] = true:=of_decide_eq_true h
theorem zue {zs:List Int} (h:∀ k (h:k < zs.length),zbd zs[k] = true):zis zs = true:=decide_eq_true h
theorem yadu {zs:List Int} {k:Nat} (hk:k < zs.length) (h:zbd zs[k] = false):zis zs = false:=decide_eq_false (fun x => by have:=x k hk; rw [h] at this; cases this)
theorem zvd {zs:List Int} (h:zis zs = false):∃ k,∃ h:k < zs.length,zbd zs[k] = false:=by
 apply Classical.byContradiction
 intro hn
 have:zis zs = true:=zue (fun k hk => by
  cases e:zbd zs[k] with
  | true => rfl
  | false => exact absurd ⟨k,hk,e⟩ hn)
 rw [h] at this
 cases this
end Go.Proofs.YtkdjfhkalelafaaGreatDoor
