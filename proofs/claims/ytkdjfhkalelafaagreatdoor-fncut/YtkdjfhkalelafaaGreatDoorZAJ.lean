/- Several texts laid together: PbD, PcA, PcB, PcC, PiP, PiQ. -/
import Derived.Test.YtkdjfhkalelafaaGreatDoorZAI
import Derived.Deep.LoopGhost
import Derived.Deep.RegionHeld3
namespace Go.Proofs.YtkdjfhkalelafaaGreatDoor
open Go.RowKit
def znw (s:ByteArray):Bool:=s.toList == [47]
def spN (s:ByteArray):Bool:=decide (2 ≤ (pcs s).length ∧ (pcs s).length ≤ 7) && (((pcs s).getD 0 ⟨#[]⟩).toList.isEmpty && ((pcs s).drop 1).all nmB)
def spB (s:ByteArray):Bool:=znw s || spN s
def spL (s:ByteArray):List ByteArray:=if znw s = true then [] else if spN s = true then (pcs s).drop 1 else []
theorem yaat {s:ByteArray} (h:znw s = true):spB s = true ∧ spL s = []:=by
 unfold spB spL
 rw [h]
 exact ⟨rfl,if_pos rfl⟩
theorem yatf {s:ByteArray} (h:znw s = false) (h2:spN s = false):spB s = false ∧ spL s = []:=by
 unfold spB spL
 rw [h,h2]
 exact ⟨rfl,rfl⟩
theorem yaqe {s:ByteArray} (h:znw s = false) (h2:spN s = true):spB s = true ∧ spL s = (pcs s).drop 1:=by
 unfold spB spL
 rw [h,h2]
 exact ⟨rfl,rfl⟩
theorem yaeq (w:World):RdT w (.slice none 0 0) []:=⟨rfl,none,0,rfl,⟨Nat.le_refl _,fun _ => rfl⟩,fun h => absurd h (by simp)⟩
theorem zon (w:World) (a:Addr):RdT w (.slice (some a) 0 0) []:=⟨rfl,some a,0,rfl,⟨Nat.le_refl _,fun e => by cases e⟩,fun h => absurd h (by simp)⟩
set_option maxRecDepth 100000 in
set_option maxHeartbeats 4000000 in
theorem zlm (s:ByteArray) (w:World) (hs:s.size ≤ 65536) :
  Calls Tryz.prog 121 #[.string s] w fun e w' => ∃ v',e = .returned (.tuple #[v',.bool (spB s)]) ∧ RdT w' v' (spL s) ∧ Below w.heap.size w w':=by
 have LC:=zaa (fun w1 => yadl s w1 hs)
 have BE:=zaa (fun w1:World => (Below.refl w1.heap.size w1).alloc (Nat.le_refl _) (.cells #[] 9))
 cases c1:znw s with
 | true =>
  obtain ⟨E1,E2⟩:=yaat c1
  rw [E1,E2]
  have c2:(s.toList == [47]) = true:=c1
  clear c1 E1 E2
  go_enter Tryz.func121,Tryz.ntmps121
  go_wp2
  go_ret2
  exact ⟨_,rfl,zon _ _,BE.out _⟩
 | false =>
  have c2:(s.toList == [47]) = false:=c1
  have NO:=zaa (fun h => yatf c1 h)
  have YES:=zaa (fun h => yaqe c1 h)
  have PL:=yakz s
  have PP:=yaeg s
  have PS:=zaa (yaaw s)
  have SN:=zaa (show spN s = (decide (2 ≤ (pcs s).length ∧ (pcs s).length ≤ 7) && (((pcs s).getD 0 ⟨#[]⟩).toList.isEmpty && ((pcs s).drop 1).all nmB)) from rfl)
  clear c1
  generalize spB s = sb at *
  generalize spL s = sl at *
  generalize spN s = sn at *
  generalize pcs s = P at *
  have hp0:0 < P.length:=by omega
  have SA:Hid ((∀ j (h:j < P.length),1 ≤ j → nmB P[j] = true) → (P.drop 1).all nmB = true):=fun h => by
   rw [List.all_eq_true]
   intro x hx
   obtain ⟨j,hj,rfl⟩:=List.getElem_of_mem hx
   rw [List.length_drop] at hj
   rw [List.getElem_drop]
   exact h (1 + j) (by omega) (by omega)
  have SF:Hid (∀ j (h:j < P.length),1 ≤ j → nmB P[j] = false → (P.drop 1).all nmB = false):=fun j h h1 q => by
   rw [List.all_eq_false]
   refine ⟨P[j],?_,by rw [q]; simp⟩
   have e:P[j] = (P.drop 1)[j - 1]'(by rw [List.length_drop]; omega):=by rw [List.getElem_drop]; congr 1; omega
   rw [e]
   exact List.getElem_mem _
  have S0:Hid (P.getD 0 ⟨#[]⟩ = P[0]):=by unfold Hid; rw [List.getD_eq_getElem?_getD,List.getElem?_eq_getElem hp0]; rfl
  go_enter Tryz.func121,Tryz.ntmps121
  go_wp2_with fail
  refine (LC.out _).mono ?_
  rintro e w1 ⟨v1,rfl,hr1,hb1⟩
  have R1:Hid (RdT w1 v1 P):=hr1.rd
  obtain ⟨aP,cP,rfl,hcap,hcP⟩:=R1.out.shape
  obtain ⟨b,o,rfl,hbl,hcell⟩:=hcP hp0
  have HC:=zaa hcell
  have B1:=zaa hb1
  have c0:=hcell 0 hp0
  rw [Nat.add_zero] at c0
  clear hr1 hb1 hcP hcell LC
  by_cases n1:P.length < 2
  ·have E:Hid (sn = false):=by unfold Hid; rw [SN.out,decide_eq_false (by omega)]; rfl
   obtain ⟨e1,e2⟩:=NO.out E.out
   have n2:(P.length:Int) < 2:=by omega
   subst e1 e2
   clear NO YES SN SA SF S0 n1
   go_wp2
   go_ret2
   exact ⟨_,rfl,zon _ _,zab B1.out (BE.out w1) B1.out.size⟩
  have n2:¬ (P.length:Int) < 2:=by omega
  by_cases n3:7 < P.length
  ·have E:Hid (sn = false):=by unfold Hid; rw [SN.out,decide_eq_false (by omega)]; rfl
   obtain ⟨e1,e2⟩:=NO.out E.out
   have n4:(P.length:Int) > 7:=by omega
   subst e1 e2
   clear NO YES SN SA SF S0 n1 n3
   go_wp2
   go_ret2
   exact ⟨_,rfl,zon _ _,zab B1.out (BE.out w1) B1.out.size⟩
  have n4:¬ (P.length:Int) > 7:=by omega
  have SN2:Hid (sn = (P[0].toList.isEmpty && (P.drop 1).all nmB)):=by unfold Hid; rw [SN.out,S0.out,decide_eq_true (by omega),Bool.true_and]
  have p1:(0:Int) < (P.length:Int):=by omega
  clear SN S0
  cases c3:P[0].toList.isEmpty with
  | false =>
   have E:Hid (sn = false):=by unfold Hid; rw [SN2.out,c3]; rfl
   obtain ⟨e1,e2⟩:=NO.out E.out
   subst e1 e2
   clear NO YES SN2 SA SF n1 n3
   generalize P[0] = p0 at *
   go_wp2
   go_ret2
   exact ⟨_,rfl,zon _ _,zab B1.out (BE.out w1) B1.out.size⟩
  | true =>
  have SN3:Hid (sn = (P.drop 1).all nmB):=by unfold Hid; rw [SN2.out,c3]; rfl
  clear SN2
  generalize P[0] = p0 at *
  go_wp2
  clear c0 c3
  go_loopg [5] (P.length - 1) (fun g i wr => ∃ k:Nat,k + g = P.length ∧ 1 ≤ k ∧ i = .int .i64 k ∧ wr = w1 ∧ Hid (∀ j (h:j < P.length),1 ≤ j → j < k → nmB P[j] = true))
  case atStart => exact ⟨1,by omega,Nat.le_refl _,rfl,rfl,fun j h a b => absurd b (by omega)⟩
  case round =>
   obtain ⟨k,hk,hk1,rfl,rfl,H⟩:=hrel
   have k0:(0:Int) ≤ (k:Int):=by omega
   by_cases hlt:k < P.length
   ·have k1:(k:Int) < (P.length:Int):=by omega
    have d0:=HC.out k hlt
    have LN:=zaa (fun w2 => zeg P[k] w2 (by have:=PS.out k hlt; unfold maxLen; omega))
    cases q:nmB P[k] with
    | false =>
     have E:Hid (sn = false):=by unfold Hid; rw [SN3.out]; exact SF.out k hlt hk1 q
     obtain ⟨e1,e2⟩:=NO.out E.out
     rw [q] at LN
     subst e1 e2
     clear NO YES SN3 SA SF n1 n3 H q
     generalize P[k] = x at *
     go_wp2_with fail
     refine (LN.out _).mono ?_
     rintro e w2 ⟨rfl,hw2⟩
     subst w2
     go_wp2
     go_ret2
     exact ⟨_,rfl,zon _ _,zab B1.out (BE.out _) B1.out.size⟩
    | true =>
     have H2:Hid (∀ j (h:j < P.length),1 ≤ j → j < k + 1 → nmB P[j] = true):=fun j h a c => by
      by_cases e:j = k
      ·subst e; exact q
      ·exact H.out j h a (by omega)
     rw [q] at LN
     clear H q
     generalize P[k] = x at d0 LN
     go_wp2_with fail
     refine (LN.out _).mono ?_
     rintro e w2 ⟨rfl,hw2⟩
     subst w2
     go_wp2
     go_roundg (P.length - (k + 1))
     case measure => omega
     case rel => exact ⟨k + 1,by omega,by omega,by go_num,rfl,H2.out⟩
   ·have E:Hid (sn = true):=by unfold Hid; rw [SN3.out]; exact SA.out (fun j h a => H.out j h a (by omega))
    obtain ⟨e1,e2⟩:=YES.out E.out
    have RD:Hid (Rd wr 1 (.slice (some ⟨b,o + 1,none⟩) (P.length - 1) (cP - 1)) (P.length - 1) (zep (P.drop 1))):=zsp R1.out (by omega)
    have DL:=zaa (List.length_drop (l:=P) (i:=1))
    have cc:¬ cP = 1:=by omega
    subst e1 e2
    clear NO YES SN3 SA SF H
    go_wp2
    go_ret2
    exact ⟨_,rfl,(by unfold RdT; rw [DL.out]; exact RD.out),B1.out⟩
def spC (s:ByteArray):Int:=if 65536 < s.size then 2 else if spB s = true then 0 else 12
def spR (s:ByteArray):List ByteArray:=if 65536 < s.size then [] else spL s
theorem yaej {s:ByteArray} (h:65536 < s.size):spC s = 2 ∧ spR s = []:=by
 unfold spC spR
 exact ⟨if_pos h,if_pos h⟩
theorem zst {s:ByteArray} (h:¬ 65536 < s.size):(spB s = true → spC s = 0 ∧ spR s = spL s) ∧ (spB s = false → spC s = 12 ∧ spR s = []):=by
 unfold spC spR
 rw [if_neg h,if_neg h]
 refine ⟨fun q => ⟨if_pos q,rfl⟩,fun q => ⟨by rw [q]; rfl,?_⟩⟩
 unfold spB at q
 unfold spL
 rw [Bool.or_eq_false_iff] at q
 rw [q.1,q.2]
 rfl
theorem zss {s:ByteArray}:(spL s).length ≤ 6:=by
 unfold spL
 split
 ·simp
 ·split
  ·rename_i h
   unfold spN at h
   simp only [Bool.and_eq_true,decide_eq_true_eq] at h
   rw [List.length_drop]
   omega
  ·simp
def zbg (d:Int) (nm:ByteArray) (x:Den):Bool:=decide (0 ≤ x.child) && (x.dir == d && x.name.toList == nm.toList)
def zax (ps:List Den) (d:Int) (nm:ByteArray):Option Nat:=ps.findIdx? (zbg d nm)
def zkf (ps:List Den) (d:Int) (nm:ByteArray):Int:=match zax ps d nm with | none => -1 | some k => (k:Int)
def zal (ps:List Den) (k:Nat):Int:=(ps.getD k ⟨0,⟨#[]⟩,0⟩).child
theorem zbh {ps:List Den} {k:Nat} (h:k < ps.length):zal ps k = ps[k].child:=by
 unfold zal
 rw [List.getD_eq_getElem?_getD,List.getElem?_eq_getElem h]; rfl
theorem yaqc {ps:List Den} {d:Int} {nm:ByteArray} (h:∀ j (h:j < ps.length),zbg d nm ps[j] = false):zax ps d nm = none:=by
 unfold zax
 rw [List.findIdx?_eq_none_iff]
 intro x hx
 obtain ⟨j,hj,rfl⟩:=List.getElem_of_mem hx
 exact h j hj
theorem yajb {ps:List Den} {d:Int} {nm:ByteArray} {k:Nat} (hk:k < ps.length) (h:∀ j (h:j < ps.length),j < k → zbg d nm ps[j] = false) (e:zbg d nm ps[k] = true):zax ps d nm = some k:=by
 unfold zax
 rw [List.findIdx?_eq_some_iff_getElem]
 exact ⟨hk,e,fun j hj => by rw [h j (by omega) hj]; simp⟩
theorem zmv {ps:List Den} {d:Int} {nm:ByteArray} {k:Nat} (h:zax ps d nm = some k):∃ hk:k < ps.length,zbg d nm ps[k] = true:=by
 unfold zax at h
 rw [List.findIdx?_eq_some_iff_getElem] at h
 obtain ⟨hk,e,_⟩:=h
 exact ⟨hk,e⟩
theorem ztu {d:Int} {nm:ByteArray} {x:Den} (h:zbg d nm x = true):0 ≤ x.child:=by
 unfold zbg at h
 simp only [Bool.and_eq_true,decide_eq_true_eq] at h
 exact h.1
def wk (ws:List Ino) (ps:List Den):Int → List ByteArray → Int × Int
 | z,[] => (z,0)
 | z,n :: ns => if zai ws z = 2 then (match zax ps z n with | none => (0,5) | some k => wk ws ps (zal ps k) ns) else (0,10)
theorem yapv (ws:List Ino) (ps:List Den) (z:Int):wk ws ps z [] = (z,0):=rfl
theorem zfa {ws:List Ino} {ps:List Den} {z:Int} {n:ByteArray} {ns:List ByteArray} (h:¬ zai ws z = 2):wk ws ps z (n :: ns) = (0,10):=by
 show (if zai ws z = 2 then _ else _) = _
 rw [if_neg h]
theorem zgs {ws:List Ino} {ps:List Den} {z:Int} {n:ByteArray} {ns:List ByteArray} (h:zai ws z = 2) (e:zax ps z n = none):wk ws ps z (n :: ns) = (0,5):=by
 show (if zai ws z = 2 then (match zax ps z n with | none => (0,5) | some k => wk ws ps (zal ps k) ns) else _) = _
 rw [if_pos h,e]
theorem zfu {ws:List Ino} {ps:List Den} {z:Int} {n:ByteArray} {ns:List ByteArray} {k:Nat} (h:zai ws z = 2) (e:zax ps z n = some k):wk ws ps z (n :: ns) = wk ws ps (zal ps k) ns:=by
 show (if zai ws z = 2 then (match zax ps z n with | none => (0,5) | some k => wk ws ps (zal ps k) ns) else _) = _
 rw [if_pos h,e]
theorem zeb {ws:List Ino} {ps:List Den} (h:zcb ws ps = true) {d:Int} {nm:ByteArray} {k:Nat} (e:zax ps d nm = some k):k < ps.length ∧ 0 ≤ zal ps k ∧ zal ps k ≤ 15:=by
 obtain ⟨hk,q⟩:=zmv e
 have:=ztu q
 rw [zbh hk]
 rcases zfq h k hk with r | r
 ·omega
 ·exact ⟨hk,by omega,by omega⟩
theorem zjx {ws:List Ino} {ps:List Den} (h:zcb ws ps = true):∀ (ns:List ByteArray) (z:Int),0 ≤ z ∧ z ≤ 15 → 0 ≤ (wk ws ps z ns).1 ∧ (wk ws ps z ns).1 ≤ 15
 | [],z,hz => hz
 | n :: ns,z,hz => by
  by_cases c:zai ws z = 2
  ·cases e:zax ps z n with
   | none => rw [zgs c e]; exact ⟨by decide,by decide⟩
   | some k => rw [zfu c e]; exact zjx h ns _ (zeb h e).2
  ·rw [zfa c]; exact ⟨by decide,by decide⟩
set_option maxRecDepth 100000 in
set_option maxHeartbeats 4000000 in
theorem zen (v:Value) (ws:List Ino) (ps:List Den) (d:Int) (nm:ByteArray) (w:World) (h:RdIm w v ws ps) (hn:ps.length ≤ 1048576) :
  Calls Tryz.prog 75 #[v,.int .i64 d,.string nm] w fun e w' => e = .returned (.int .i64 (zkf ps d nm)) ∧ Below w.heap.size w w':=by
 obtain ⟨vW,vP,rfl,h1,h2⟩:=h
 obtain ⟨aW,cW,rfl,_⟩:=h1.shape
 obtain ⟨aP,cP,rfl,_,hcP⟩:=h2.shape
 have HZ:=zaa hcP
 clear h1 h2 hcP
 obtain ⟨W,hW⟩:∃ W,W = w.alloc (.cells #[.slice aW ws.length cW,.slice aP ps.length cP] 42):=⟨_,rfl⟩
 have CA:Hid (∀ w',Below W.heap.size W w' → w'.cell? ⟨w.heap.size,1,none⟩ = some (.slice aP ps.length cP)):=fun w' hb => by
  have:w'.heap[w.heap.size]? = some (.cells #[.slice aW ws.length cW,.slice aP ps.length cP] 42 (0,0)):=(hb.block _ (by rw [hW]; simp)).trans (by rw [hW]; exact zah rfl)
  exact (zac this).2.1
 have BW:Hid (Below w.heap.size w W):=by rw [hW]; exact (Below.refl _ _).alloc (Nat.le_refl _) _
 have hz:w.heap.size ≤ W.heap.size:=BW.out.size
 go_enter Tryz.func75,Tryz.ntmps75
 go_wp2
 rw [← hW]
 clear hW
 go_loopg [7] ps.length (fun g i wr => ∃ k:Nat,k + g = ps.length ∧ i = .int .i64 k ∧ Hid (Below W.heap.size W wr ∧ ∀ j (h:j < ps.length),j < k → zbg d nm ps[j] = false))
 case atStart => exact ⟨0,by omega,rfl,Below.refl _ _,fun j h a => absurd a (by omega)⟩
 case round =>
  obtain ⟨k,hk,rfl,J⟩:=hrel
  have x1:=CA.out wr J.out.1
  have B:=zaa (zab BW.out J.out.1 hz)
  have k0:(0:Int) ≤ (k:Int):=by omega
  by_cases hlt:k < ps.length
  ·obtain ⟨b,o,rfl,hbl,hcell⟩:=HZ.out (by omega)
   obtain ⟨c0,c1,c2⟩:=hcell k hlt
   have d0:=(B.out.cell (p:=⟨b,o + k * 3,none⟩) hbl).trans c0
   have d1:=(B.out.cell (p:=⟨b,o + k * 3 + 1,none⟩) hbl).trans c1
   have d2:=(B.out.cell (p:=⟨b,o + k * 3 + 2,none⟩) hbl).trans c2
   have k1:(k:Int) < (ps.length:Int):=by omega
   have HY:=zaa (fun e:zbg d nm ps[k] = true => show zkf ps d nm = (k:Int) by unfold zkf; rw [yajb hlt J.out.2 e])
   have HX:=zaa (fun (e:zbg d nm ps[k] = false) j (h:j < ps.length) (a:j < k + 1) => show zbg d nm ps[j] = false by
    by_cases q:j = k
    ·subst q; exact e
    ·exact J.out.2 j h (by omega))
   have EH:=zaa (show zbg d nm ps[k] = (decide (0 ≤ ps[k].child) && (ps[k].dir == d && ps[k].name.toList == nm.toList)) from rfl)
   have J1:=zaa J.out.1
   clear hcell c0 c1 c2 J
   generalize zbg d nm ps[k] = hit at *
   generalize ps[k].child = y at *
   generalize ps[k].dir = yd at *
   generalize ps[k].name = yn at *
   have BX:=zaa ((Below.refl wr.heap.size wr).alloc (Nat.le_refl _) (.cells #[.int .i64 yd,.string yn,.int .i64 y] 69))
   have B5:=zaa (zab J1.out BX.out J1.out.size)
   have B6:=zaa (zab B.out BX.out B.out.size)
   by_cases q:0 ≤ y
   case neg =>
    have q1:¬ y ≥ 0:=q
    have E:=zaa (HX.out (by rw [EH.out,decide_eq_false q]; rfl))
    clear q HX HY EH
    go_wp2
    go_roundg (ps.length - (k + 1))
    case measure => omega
    case rel => exact ⟨k + 1,by omega,by go_num,B5.out,E.out⟩
   have q1:y ≥ 0:=q
   by_cases r:yd = d
   case neg =>
    have r1:(yd == d) = false:=beq_eq_false_iff_ne.2 r
    have E:=zaa (HX.out (by rw [EH.out,r1]; simp))
    clear q r HX HY EH
    go_wp2
    go_roundg (ps.length - (k + 1))
    case measure => omega
    case rel => exact ⟨k + 1,by omega,by go_num,B5.out,E.out⟩
   have r1:(yd == d) = true:=beq_iff_eq.2 r
   cases t:(yn.toList == nm.toList) with
   | false =>
    have E:=zaa (HX.out (by rw [EH.out,t]; simp))
    clear q r HX HY EH
    go_wp2
    go_roundg (ps.length - (k + 1))
    case measure => omega
    case rel => exact ⟨k + 1,by omega,by go_num,B5.out,E.out⟩
   | true =>
    have E:=zaa (HY.out (by rw [EH.out,t,r1,decide_eq_true q]; rfl))
    clear q r HX HY EH
    go_wp2
    go_ret
    exact ⟨zct E.out.symm,B6.out⟩
  ·obtain rfl:k = ps.length:=by omega
   have E:=zaa (show zkf ps d nm = -1 by unfold zkf; rw [yaqc (fun j h => J.out.2 j h h)])
   clear J
   go_wp2
   go_ret
   exact ⟨zct E.out.symm,B.out⟩
set_option maxRecDepth 100000 in
set_option maxHeartbeats 4000000 in
theorem znf (v vL:Value) (ws:List Ino) (ps:List Den) (ns:List ByteArray) (w:World) (h:RdIm w v ws ps) (hL:RdT w vL ns) (hi:zcb ws ps = true) (hn:ns.length ≤ 1048576) :
  Calls Tryz.prog 122 #[v,vL] w fun e w' => e = .returned (.tuple #[.int .i64 (wk ws ps 0 ns).1,.int .i64 (wk ws ps 0 ns).2]) ∧ Below w.heap.size w w':=by
 have HR:=zaa h
 have LE:=zaa (fun d nm w1 h => zen v ws ps d nm w1 h (by have:=(zat hi).2.1; omega))
 obtain ⟨vW,vP,rfl,h1,h2⟩:=h
 obtain ⟨aW,cW,rfl,_,hcW⟩:=h1.shape
 obtain ⟨aP,cP,rfl,_,hcP⟩:=h2.shape
 obtain ⟨aL,cL,rfl,_,hcL⟩:=hL.shape
 have L16:=zaa (zat hi).1
 have L24:=zaa (zat hi).2.1
 obtain ⟨bW,oW,rfl,hblW,hcellW⟩:=hcW (by have:=L16.out; omega)
 obtain ⟨bP,oP,rfl,hblP,hcellP⟩:=hcP (by have:=L24.out; omega)
 have HW:Hid (∀ w',Below w.heap.size w w' → ∀ n:Nat,n < 16 → w'.cell? ⟨bW,oW + n * 11,none⟩ = some (.int .i64 (zai ws n))):=fun w' hb n hn => by
  have hnl:n < ws.length:=by have:=L16.out; omega
  rw [zbn hnl]
  exact (hb.cell (p:=⟨bW,oW + n * 11,none⟩) hblW).trans (hcellW n hnl).1
 have HP:Hid (∀ w',Below w.heap.size w w' → ∀ k (h:k < ps.length),w'.cell? ⟨bP,oP + k * 3 + 2,none⟩ = some (.int .i64 (zal ps k))):=fun w' hb k hk => by
  rw [zbh hk]
  exact (hb.cell (p:=⟨bP,oP + k * 3 + 2,none⟩) hblP).trans (hcellP k hk).2.2
 have HN:=zaa hcL
 have CR:=zaa (fun (d:Int) (nm:ByteArray) (k:Nat) (e:zax ps d nm = some k) => zeb hi e)
 generalize hres:wk ws ps 0 ns = res
 have HRES:=zaa hres
 clear hres
 clear h1 h2 hcW hcP hcellW hcellP hcL hL hi
 obtain ⟨W,hW⟩:∃ W,W = w.alloc (.cells #[.slice (some ⟨bW,oW,none⟩) ws.length cW,.slice (some ⟨bP,oP,none⟩) ps.length cP] 42):=⟨_,rfl⟩
 have CA:Hid (∀ w',Below W.heap.size W w' → w'.cell? ⟨w.heap.size,0,none⟩ = some (.slice (some ⟨bW,oW,none⟩) ws.length cW) ∧ w'.cell? ⟨w.heap.size,1,none⟩ = some (.slice (some ⟨bP,oP,none⟩) ps.length cP)):=fun w' hb => by
  have:w'.heap[w.heap.size]? = some (.cells #[.slice (some ⟨bW,oW,none⟩) ws.length cW,.slice (some ⟨bP,oP,none⟩) ps.length cP] 42 (0,0)):=(hb.block _ (by rw [hW]; simp)).trans (by rw [hW]; exact zah rfl)
  exact ⟨(zac this).1,(zac this).2.1⟩
 have BW:Hid (Below w.heap.size w W):=by rw [hW]; exact (Below.refl _ _).alloc (Nat.le_refl _) _
 have hz:w.heap.size ≤ W.heap.size:=BW.out.size
 go_enter Tryz.func122,Tryz.ntmps122
 go_wp2
 rw [← hW]
 clear hW
 go_loopg [6,7] ns.length (fun g a i wr => ∃ (k:Nat) (z:Nat),k + g = ns.length ∧ z < 16 ∧ a = .int .i64 z ∧ i = .int .i64 k ∧ Hid (Below W.heap.size W wr ∧ res = wk ws ps z (ns.drop k)))
 case atStart => exact ⟨0,0,by omega,by omega,rfl,rfl,Below.refl _ _,HRES.out.symm⟩
 case round =>
  obtain ⟨k,z,hk,hz16,rfl,rfl,J⟩:=hrel
  obtain ⟨x0,x1⟩:=CA.out wr J.out.1
  have B:=zaa (zab BW.out J.out.1 hz)
  have J1:=zaa J.out.1
  have k0:(0:Int) ≤ (k:Int):=by omega
  have z0:(0:Int) ≤ (z:Int):=by omega
  have z1:(z:Int) < (ws.length:Int):=by have:=L16.out; omega
  by_cases hlt:k < ns.length
  ·have k1:(k:Int) < (ns.length:Int):=by omega
   have y0:=HW.out wr B.out z hz16
   have JD:Hid (res = wk ws ps z (ns[k] :: ns.drop (k + 1))):=by unfold Hid; rw [J.out.2,List.drop_eq_getElem_cons hlt]
   obtain ⟨bL,oL,rfl,hblL,hcell⟩:=HN.out (by omega)
   have n0:=(B.out.cell (p:=⟨bL,oL + k,none⟩) hblL).trans (hcell k hlt)
   have WN:=zaa (fun (h:¬ zai ws z = 2) => zfa (ps:=ps) (n:=ns[k]) (ns:=ns.drop (k + 1)) h)
   have WO:=zaa (fun (h:zai ws z = 2) (e:zax ps z ns[k] = none) => zgs (ns:=ns.drop (k + 1)) h e)
   have WS:=zaa (fun (h:zai ws z = 2) (j:Nat) (e:zax ps z ns[k] = some j) => zfu (ns:=ns.drop (k + 1)) h e)
   have EI:=zaa (show zkf ps z ns[k] = match zax ps z ns[k] with | none => -1 | some k => (k:Int) from rfl)
   have CR2:=zaa (fun (j:Nat) (e:zax ps z ns[k] = some j) => CR.out _ _ _ e)
   have LE2:=zaa (fun w1 (hb:Below wr.heap.size wr w1) => LE.out (z:Int) ns[k] w1 (HR.out.below (zab B.out hb B.out.size)))
   clear J hcell
   generalize zai ws z = kk at *
   clear HRES
   generalize ns[k] = nm at *
   by_cases q:kk = 2
   case neg =>
    have q1:(kk != 2) = true:=by rw [bne_iff_ne]; exact q
    obtain rfl:=JD.out.trans (WN.out q)
    clear q WN WO WS EI CR2 LE2
    go_wp2
    go_ret2
    exact ⟨rfl,B.out⟩
   have q1:(kk != 2) = false:=by rw [q]; rfl
   have SK:Hid (∀ w',Below wr.heap.size wr w' → (w'.cell? ⟨w.heap.size,0,none⟩ = some (.slice (some ⟨bW,oW,none⟩) ws.length cW) ∧ w'.cell? ⟨w.heap.size,1,none⟩ = some (.slice (some ⟨bP,oP,none⟩) ps.length cP)) ∧ w'.cell? ⟨bL,oL + k,none⟩ = some (.string nm)):=fun w' hb => ⟨CA.out w' (zab J1.out hb J1.out.size),(hb.cell (p:=⟨bL,oL + k,none⟩) (Nat.lt_of_lt_of_le hblL B.out.size)).trans n0⟩
   cases e:zax ps z nm with
   | none =>
    have W2:=zaa (JD.out.trans (WO.out q e))
    rw [e] at EI
    obtain rfl:=W2.out
    have EI2:Hid (zkf ps z nm = -1):=EI
    rw [EI2.out] at LE2
    clear q WN WO WS EI CR2 W2 JD e
    go_wp2_with fail
    go_region_held3 (fun w' => (w'.cell? ⟨w.heap.size,0,none⟩ = some (.slice (some ⟨bW,oW,none⟩) ws.length cW) ∧ w'.cell? ⟨w.heap.size,1,none⟩ = some (.slice (some ⟨bP,oP,none⟩) ps.length cP)) ∧ w'.cell? ⟨bL,oL + k,none⟩ = some (.string nm))
     (exact SK.out _ (by repeat (first | exact BF.out | exact Below.refl _ _ | refine Below.drew ?_)))
     (first
      | (go_at_call 75; refine (LE2.out _ (by repeat (first | exact Below.refl _ _ | refine Below.drew ?_))).mono ?_; rintro e w1 ⟨rfl,hb1⟩; have BF:Hid (Below wr.heap.size wr w1):=(by first | exact hb1 | exact zab (by repeat (first | exact Below.refl _ _ | refine Below.drew ?_)) hb1 (Nat.le_refl _)); clear hb1))
    all_goals
     have B3:=zaa (zab B.out BF.out B.out.size)
     clear SK x0 x1 y0 n0
     go_wp2
     go_ret2
     exact ⟨rfl,(by repeat (first | exact B3.out | refine Below.drew ?_))⟩
   | some j =>
    have W2:=zaa (JD.out.trans (WS.out q j e))
    obtain ⟨hj,c1,c2⟩:=CR2.out j e
    rw [e] at EI
    have EI2:Hid (zkf ps z nm = (j:Int)):=EI
    rw [EI2.out] at LE2
    obtain ⟨y,hy⟩:∃ y:Nat,zal ps j = (y:Int):=⟨(zal ps j).toNat,by omega⟩
    have HJ:=zaa (fun w' (hb:Below w.heap.size w w') => HP.out w' hb j hj)
    rw [hy] at HJ W2
    have y16:y < 16:=by omega
    have j0:(0:Int) ≤ (j:Int):=by omega
    have j1:(j:Int) < (ps.length:Int):=by omega
    have j2:¬ (j:Int) < 0:=by omega
    clear q WN WO WS EI CR2 JD e hy c1 c2
    go_wp2_with fail
    go_region_held3 (fun w' => (w'.cell? ⟨w.heap.size,0,none⟩ = some (.slice (some ⟨bW,oW,none⟩) ws.length cW) ∧ w'.cell? ⟨w.heap.size,1,none⟩ = some (.slice (some ⟨bP,oP,none⟩) ps.length cP)) ∧ w'.cell? ⟨bL,oL + k,none⟩ = some (.string nm))
     (exact SK.out _ (by repeat (first | exact BF.out | exact Below.refl _ _ | refine Below.drew ?_)))
     (first
      | (go_at_call 75; refine (LE2.out _ (by repeat (first | exact Below.refl _ _ | refine Below.drew ?_))).mono ?_; rintro e w1 ⟨rfl,hb1⟩; have BF:Hid (Below wr.heap.size wr w1):=(by first | exact hb1 | exact zab (by repeat (first | exact Below.refl _ _ | refine Below.drew ?_)) hb1 (Nat.le_refl _)); clear hb1))
    all_goals
     have B3:=zaa (zab B.out BF.out B.out.size)
     have B4:=zaa (zab J1.out BF.out J1.out.size)
     have p1:=(SK.out _ BF.out).1.2
     have p2:=HJ.out _ B3.out
     clear SK x0 x1 y0 n0
     go_wp2
     go_roundg (ns.length - (k + 1))
     case measure => omega
     case rel => exact ⟨k + 1,y,by omega,y16,rfl,by go_num,(by repeat (first | exact B4.out | refine Below.drew ?_)),W2.out⟩
  ·obtain rfl:k = ns.length:=by omega
   have E:Hid (res = ((z:Int),0)):=by unfold Hid; rw [J.out.2,List.drop_length]; rfl
   clear HRES J
   obtain rfl:=E.out
   go_wp2
   go_ret2
   exact ⟨rfl,B.out⟩
def lkI (ws:List Ino) (ps:List Den) (s:ByteArray):Int × Int:=if spB s = true then wk ws ps 0 (spL s) else (0,12)
def lkR (ws:List Ino) (ps:List Den) (s:ByteArray):Int × Int:=if 65536 < s.size then (0,2) else if zcb ws ps = true then lkI ws ps s else (0,1)
def paN (ws:List Ino) (ps:List Den) (xs:List ByteArray) (x:ByteArray):Int × ByteArray × Int:=if (wk ws ps 0 xs).2 = 0 then (if zai ws (wk ws ps 0 xs).1 = 2 then ((wk ws ps 0 xs).1,x,0) else (0,⟨#[]⟩,10)) else (0,⟨#[]⟩,(wk ws ps 0 xs).2)
def paL (ws:List Ino) (ps:List Den) (ns:List ByteArray):Int × ByteArray × Int:=if ns = [] then (0,⟨#[]⟩,19) else paN ws ps ns.dropLast (ns.getLastD ⟨#[]⟩)
def paI (ws:List Ino) (ps:List Den) (s:ByteArray):Int × ByteArray × Int:=if spB s = true then paL ws ps (spL s) else (0,⟨#[]⟩,12)
def paR (ws:List Ino) (ps:List Den) (s:ByteArray):Int × ByteArray × Int:=if 65536 < s.size then (0,⟨#[]⟩,2) else if zcb ws ps = true then paI ws ps s else (0,⟨#[]⟩,1)
theorem zid (ws:List Ino) (ps:List Den) (xs:List ByteArray) (x:ByteArray):paL ws ps (xs ++ [x]) = paN ws ps xs x:=by
 unfold paL
 rw [if_neg (by simp),List.dropLast_concat]
 congr 1
 simp
theorem zyz {ns:List ByteArray} (h:¬ ns = []):∃ xs x,ns = xs ++ [x]:=⟨ns.dropLast,ns.getLast h,(List.dropLast_concat_getLast h).symm⟩
set_option maxRecDepth 100000 in
set_option maxHeartbeats 4000000 in
theorem zez (v:Value) (ws:List Ino) (ps:List Den) (s:ByteArray) (w:World) (h:RdIm w v ws ps) (hi:zcb ws ps = true) (hs:s.size ≤ 65536) :
  Calls Tryz.prog 136 #[v,.string s] w fun e w' => e = .returned (.tuple #[.int .i64 (lkI ws ps s).1,.int .i64 (lkI ws ps s).2]) ∧ Below w.heap.size w w':=by
 have HR:=zaa h
 have LS:=zaa (fun w1 => zlm s w1 hs)
 have LW:=zaa (fun vL w1 h hL => znf v vL ws ps (spL s) w1 h hL hi (by have:=@zss s; omega))
 have EL:=zaa (show lkI ws ps s = if spB s = true then wk ws ps 0 (spL s) else (0,12) from rfl)
 obtain ⟨vW,vP,rfl,h1,h2⟩:=h
 obtain ⟨aW,cW,rfl,_,_⟩:=h1.shape
 obtain ⟨aP,cP,rfl,_,_⟩:=h2.shape
 clear h1 h2 hi
 have CA:Hid (∀ w',Below (w.alloc (.cells #[.slice aW ws.length cW,.slice aP ps.length cP] 42)).heap.size (w.alloc (.cells #[.slice aW ws.length cW,.slice aP ps.length cP] 42)) w' → w'.cell? ⟨w.heap.size,0,none⟩ = some (.slice aW ws.length cW) ∧ w'.cell? ⟨w.heap.size,1,none⟩ = some (.slice aP ps.length cP)):=fun w' hb => by
  have:w'.heap[w.heap.size]? = some (.cells #[.slice aW ws.length cW,.slice aP ps.length cP] 42 (0,0)):=(hb.block _ (by simp)).trans (zah rfl)
  exact ⟨(zac this).1,(zac this).2.1⟩
 have BW:Hid (Below w.heap.size w (w.alloc (.cells #[.slice aW ws.length cW,.slice aP ps.length cP] 42))):=(Below.refl _ _).alloc (Nat.le_refl _) _
 generalize lkI ws ps s = res at *
 generalize wk ws ps 0 (spL s) = rw0 at *
 cases c:spB s with
 | false =>
  rw [c] at LS EL
  obtain rfl:=EL.out
  clear EL LW
  go_enter Tryz.func136,Tryz.ntmps136
  go_wp2_with fail
  refine (LS.out _).mono ?_
  rintro e w1 ⟨v1,rfl,hr1,hb1⟩
  have B1:=zaa (zab BW.out hb1 BW.out.size)
  clear hr1 hb1
  go_wp2
  go_ret2
  exact ⟨rfl,B1.out⟩
 | true =>
  rw [c] at LS EL
  obtain rfl:res = rw0:=EL.out
  clear EL
  go_enter Tryz.func136,Tryz.ntmps136
  go_wp2_with fail
  refine (LS.out _).mono ?_
  rintro e w1 ⟨v1,rfl,hr1,hb1⟩
  have B1:=zaa (zab BW.out hb1 BW.out.size)
  obtain ⟨x0,x1⟩:=CA.out _ hb1
  have R1:=zaa hr1
  clear hr1 hb1
  go_wp2_with fail
  refine (LW.out _ _ (HR.out.below B1.out) R1.out).mono ?_
  rintro e w2 ⟨rfl,hb2⟩
  have B2:=zaa (zab B1.out hb2 B1.out.size)
  clear hb2 x0 x1
  go_wp2
  go_ret2
  exact ⟨rfl,B2.out⟩
def zby (p:Nat → Bool) (n:Nat):Int:=match (List.range n).find? p with | some i => (i:Int) | none => -1
theorem ztc {p:Nat → Bool} {n k:Nat} (hk:k < n) (h:∀ j,j < k → p j = false) (e:p k = true):zby p n = (k:Int):=by
 have:(List.range n).find? p = some k:=List.find?_range_eq_some.2 ⟨e,List.mem_range.2 hk,fun j hj => by rw [h j hj]; rfl⟩
 unfold zby
 rw [this]
theorem zli {p:Nat → Bool} {n:Nat} (h:∀ j,j < n → p j = false):zby p n = -1:=by
 have:(List.range n).find? p = none:=List.find?_eq_none.2 (fun j hj => by rw [h j (List.mem_range.1 hj)]; decide)
 unfold zby
 rw [this]
theorem zec (p:Nat → Bool) (n:Nat):-1 ≤ zby p n ∧ zby p n < n:=by
 unfold zby
 split
 ·rename_i i h
  have:=List.mem_range.1 (List.mem_of_find?_eq_some h)
  omega
 ·omega
set_option maxRecDepth 100000 in
set_option maxHeartbeats 4000000 in
theorem zhb (v:Value) (ws:List Ino) (ps:List Den) (t:Int) (n:Nat) (w:World) (h:RdIm w v ws ps) (hl:ws.length ≤ 4096) (hr:∀ k (h:k < ws.length),∀ z ∈ ws[k].map,0 ≤ z ∧ z ≤ 1048576) (hn:n ≤ 1000) :
  Calls Tryz.prog 141 #[v,.int .i64 t,.int .i64 (n:Int)] w fun e w' => e = .returned (.int .i64 (zby (fun i => !zhv (zbp (zap ws) t) (i:Int)) n)) ∧ Below w.heap.size w w':=by
 have HRD:=zaa h
 have LU:=zaa (fun w1 h => zpi v ws ps t w1 h hl hr)
 have UL:(zbp (zap ws) t).length ≤ 1048576:=by have:=zlc (zap ws) t; have:=zic ws; omega
 obtain ⟨vW,vP,rfl,h1,h2⟩:=h
 obtain ⟨aW,cW,rfl,_,hcW⟩:=h1.shape
 obtain ⟨aP,cP,rfl,_,_⟩:=h2.shape
 clear h1 h2 hcW hr
 have CA:Hid (∀ w',Below (w.alloc (.cells #[.slice aW ws.length cW,.slice aP ps.length cP] 42)).heap.size (w.alloc (.cells #[.slice aW ws.length cW,.slice aP ps.length cP] 42)) w' → w'.cell? ⟨w.heap.size,0,none⟩ = some (.slice aW ws.length cW) ∧ w'.cell? ⟨w.heap.size,1,none⟩ = some (.slice aP ps.length cP)):=fun w' hb => by
  have:w'.heap[w.heap.size]? = some (.cells #[.slice aW ws.length cW,.slice aP ps.length cP] 42 (0,0)):=(hb.block _ (by simp)).trans (zah rfl)
  exact ⟨(zac this).1,(zac this).2.1⟩
 have BW:Hid (Below w.heap.size w (w.alloc (.cells #[.slice aW ws.length cW,.slice aP ps.length cP] 42))):=(Below.refl _ _).alloc (Nat.le_refl _) _
 obtain ⟨x0,x1⟩:=CA.out _ (Below.refl _ _)
 generalize zbp (zap ws) t = zs at *
 go_enter Tryz.func141,Tryz.ntmps141
 go_wp2_with fail
 refine (LU.out _ (HRD.out.below BW.out)).mono ?_
 rintro e w1 ⟨v1,rfl,hr1,hb1⟩
 obtain ⟨-,aL,cL,hvL,-⟩:=hr1.rd
 subst hvL
 have R1:Hid (RdI w1 (.slice aL zs.length cL) zs):=hr1.rd
 have B1:=zaa (zab BW.out hb1 BW.out.size)
 clear hr1 hb1 x0 x1 CA
 go_wp2
 go_loopw [8] (fun i wr => ∃ k:Nat,k ≤ n ∧ i = .int .i64 k ∧ wr = w1 ∧ Hid (∀ j,j < k → (!zhv zs (j:Int)) = false)) (fun i _ => n - (intOf i).toNat)
 case atStart => exact ⟨0,by omega,rfl,rfl,fun j a => absurd a (by omega)⟩
 case round =>
  obtain ⟨k,hk,rfl,rfl,H⟩:=hrel
  have k0:(0:Int) ≤ (k:Int):=by omega
  by_cases hlt:k < n
  ·have k1:(k:Int) < (n:Int):=by omega
   have LH:=zaa (zlf (.slice aL zs.length cL) zs (k:Int) _ R1.out UL)
   cases q:zhv zs (k:Int) with
   | true =>
    have H':Hid (∀ j,j < k + 1 → (!zhv zs (j:Int)) = false):=fun j a => by
     by_cases e:j = k
     ·subst e; rw [q]; rfl
     ·exact H.out j (by omega)
    rw [q] at LH
    clear q H
    go_wp2_with (go_at_call 120; refine LH.out.mono ?_; rintro e w' ⟨rfl,rfl⟩)
    go_roundw
    case rel => exact ⟨k + 1,by omega,by go_num,trivial,H'⟩
    case measure => simp [intOf]; omega
   | false =>
    have E:=zaa (ztc (p:=fun i => !zhv zs (i:Int)) hlt H.out (by rw [q]; rfl))
    rw [q] at LH
    clear q H
    go_wp2_with (go_at_call 120; refine LH.out.mono ?_; rintro e w' ⟨rfl,rfl⟩)
    go_ret
    exact ⟨zct E.out.symm,B1.out⟩
  ·have E:=zaa (zli (p:=fun i => !zhv zs (i:Int)) (n:=n) (fun j hj => H.out j (by omega)))
   clear H
   go_wp2
   go_ret
   exact ⟨zct E.out.symm,B1.out⟩
set_option maxRecDepth 100000 in
set_option maxHeartbeats 4000000 in
theorem zly (v:Value) (ws:List Ino) (ps:List Den) (w:World) (h:RdIm w v ws ps) (hl:ws.length ≤ 4096) :
  Calls Tryz.prog 185 #[v] w fun e w' => e = .returned (.int .i64 (zby (fun i => decide (1 ≤ i) && zai ws (i:Int) == 0) ws.length)) ∧ Below w.heap.size w w':=by
 obtain ⟨vW,vP,rfl,h1,h2⟩:=h
 obtain ⟨aW,cW,rfl,_,hcW⟩:=h1.shape
 obtain ⟨aP,cP,rfl,_,_⟩:=h2.shape
 have HW:=zaa hcW
 clear h1 h2 hcW
 have CA:Hid (∀ w',Below (w.alloc (.cells #[.slice aW ws.length cW,.slice aP ps.length cP] 42)).heap.size (w.alloc (.cells #[.slice aW ws.length cW,.slice aP ps.length cP] 42)) w' → w'.cell? ⟨w.heap.size,0,none⟩ = some (.slice aW ws.length cW) ∧ w'.cell? ⟨w.heap.size,1,none⟩ = some (.slice aP ps.length cP)):=fun w' hb => by
  have:w'.heap[w.heap.size]? = some (.cells #[.slice aW ws.length cW,.slice aP ps.length cP] 42 (0,0)):=(hb.block _ (by simp)).trans (zah rfl)
  exact ⟨(zac this).1,(zac this).2.1⟩
 have BW:Hid (Below w.heap.size w (w.alloc (.cells #[.slice aW ws.length cW,.slice aP ps.length cP] 42))):=(Below.refl _ _).alloc (Nat.le_refl _) _
 obtain ⟨x0,x1⟩:=CA.out _ (Below.refl _ _)
 clear x0 x1
 obtain ⟨W,hW⟩:∃ W,W = w.alloc (.cells #[.slice aW ws.length cW,.slice aP ps.length cP] 42):=⟨_,rfl⟩
 rw [← hW] at CA BW
 obtain ⟨y0,y1⟩:=CA.out _ (Below.refl _ _)
 go_enter Tryz.func185,Tryz.ntmps185
 go_wp2
 rw [← hW]
 clear hW
 go_loopw [3] (fun i wr => ∃ k:Nat,(1 ≤ k ∧ (k ≤ ws.length ∨ k = 1)) ∧ i = .int .i64 k ∧ wr = W ∧ Hid (∀ j,j < k → (decide (1 ≤ j) && zai ws (j:Int) == 0) = false)) (fun i _ => ws.length + 1 - (intOf i).toNat)
 case atStart => exact ⟨1,by omega,rfl,rfl,fun j a => by rw [decide_eq_false (by omega)]; rfl⟩
 case round =>
  obtain ⟨k,hk,rfl,rfl,H⟩:=hrel
  have k0:(0:Int) ≤ (k:Int):=by omega
  by_cases hlt:k < ws.length
  ·obtain ⟨b,o,rfl,hbl,hcell⟩:=HW.out (by omega)
   have d0:=(BW.out.cell (p:=⟨b,o + k * 11,none⟩) hbl).trans (hcell k hlt).1
   rw [← zbn hlt] at d0
   have k1:(k:Int) < (ws.length:Int):=by omega
   have P:=zaa (show (decide (1 ≤ k) && zai ws (k:Int) == 0) = (zai ws (k:Int) == 0) by rw [decide_eq_true hk.1]; rfl)
   clear hcell
   cases q:(zai ws (k:Int) == 0) with
   | true =>
    have E:=zaa (ztc (p:=fun i => decide (1 ≤ i) && zai ws (i:Int) == 0) hlt H.out (by show (decide (1 ≤ k) && zai ws (k:Int) == 0) = true; rw [P.out,q]))
    clear H P
    generalize zai ws (k:Int) = z at d0 q
    go_wp2
    go_ret
    exact ⟨zct E.out.symm,BW.out⟩
   | false =>
    have H':Hid (∀ j,j < k + 1 → (decide (1 ≤ j) && zai ws (j:Int) == 0) = false):=fun j a => by
     by_cases e:j = k
     ·subst e; rw [P.out,q]
     ·exact H.out j (by omega)
    clear H P
    generalize zai ws (k:Int) = z at d0 q
    go_wp2
    go_roundw
    case rel => exact ⟨k + 1,by omega,by go_num,trivial,H'⟩
    case measure => simp [intOf]; omega
  ·have E:=zaa (zli (p:=fun i => decide (1 ≤ i) && zai ws (i:Int) == 0) (n:=ws.length) (fun j hj => H.out j (by omega)))
   have k2:¬ (k:Int) < (ws.length:Int):=by omega
   clear H
   go_wp2
   go_ret
   exact ⟨zct E.out.symm,BW.out⟩
def zhu:Ino:=⟨0,0,0,0,0,0,0,0,0,0,0⟩
end Go.Proofs.YtkdjfhkalelafaaGreatDoor
