/- What is told of a file system is no greater than it was asked. -/
import Derived.Test.YtipklbnfobckaaaGreatDoorFqL
namespace Go.Proofs.YtipklbnfobckaaaGreatDoor
open Go.RowKit

structure SmF (f : Fz) : Prop where
  a : f.ws.length ≤ 1048576
  b : f.ps.length ≤ 1048576
  c : f.es.length ≤ 1048576
  d : f.qs.length ≤ 1048576
  e : f.hs.length ≤ 1048576
  t : f.td.length ≤ 1048576
  n : f.nm.length ≤ 1048576
theorem sm_zz : SmF zz := ⟨by simp [zz], by simp [zz], by simp [zz], by simp [zz], by simp [zz], by simp [zz], by simp [zz]⟩
theorem stp_sm (ws : List Int) (ps : List St) (es : List Int) (qs : List Se) (hs : List Int) (td : List Mi) (cd vl : Int) (nm : List ByteArray) (fr : Bool) (hws : ws.length ≤ 1048576) (hps : ps.length ≤ 1048576) (hes : es.length ≤ 1048576) (hqs : qs.length ≤ 1048576) (hhs : hs.length ≤ 1048576) (htd : td.length ≤ 1048576) (hnm : nm.length ≤ 1048576) : SmF (stpR ws ps es qs hs td cd vl nm fr).1 := by
  unfold stpR
  split
  · rename_i y
    have Y := fs_yes y
    cases td with
    | nil => exact ⟨hws, hps, hes, hqs, hhs, htd, hnm⟩
    | cons m t =>
      have q := do_len m Y.pm Y.bl
      simp only [List.length_cons] at htd
      exact ⟨by simp only; omega, by simp only; omega, by simp only; omega, by simp only; omega, hhs, by simp only; omega, hnm⟩
  · exact sm_zz
theorem fin_sm (ws : List Int) (ps : List St) (es : List Int) (qs : List Se) (hs : List Int) (td : List Mi) (cd vl : Int) (nm : List ByteArray) (fr : Bool) (_hws : ws.length ≤ 1048576) (_hps : ps.length ≤ 1048576) (_hes : es.length ≤ 1048576) (_hqs : qs.length ≤ 1048576) (hhs : hs.length ≤ 1048576) (_htd : td.length ≤ 1048576) (hnm : nm.length ≤ 1048576) : SmF (finR ws ps es qs hs td cd vl nm fr).1 := by

  unfold finR
  split
  · rename_i y
    have Y := fs_yes y
    have p1 := pmB_len Y.done.1
    have p2 := blkB_len Y.done.2
    exact ⟨by simp only; omega, by simp only; omega, by simp only; omega, by simp only; omega, hhs, by simp, hnm⟩
  · exact sm_zz
theorem dcy_sm (ws : List Int) (ps : List St) (es : List Int) (qs : List Se) (hs : List Int) (td : List Mi) (cd vl : Int) (nm : List ByteArray) (fr : Bool) (hws : ws.length ≤ 1048576) (hps : ps.length ≤ 1048576) (hes : es.length ≤ 1048576) (hqs : qs.length ≤ 1048576) (_hhs : hs.length ≤ 1048576) (htd : td.length ≤ 1048576) (hnm : nm.length ≤ 1048576) : SmF (dcyR ws ps es qs hs td cd vl nm fr).1 := by
  unfold dcyR
  split
  · have := decH_len hs 128
    exact ⟨hws, hps, hes, hqs, by simp only; omega, htd, hnm⟩
  · exact sm_zz
end Go.Proofs.YtipklbnfobckaaaGreatDoor
