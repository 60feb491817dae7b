/- Numbers read from decimals, by the program: whether a text is decimals; small ones. No condition but the text's length. -/
import Derived.Test.YtnjdcaidoffhbaaGreatDoorNY
namespace Go.Proofs.YtnjdcaidoffhbaaGreatDoor
open Go.RowKit
set_option linter.unusedVariables false
set_option maxRecDepth 100000

theorem of_toListN {s : ByteArray} {l : List UInt8} (h : s.toList = l) : s = ⟨l.toArray⟩ := by
  obtain ⟨d⟩ := s
  rw [ByteArray.toList_eq] at h
  subst h
  simp
theorem size_nilN {s : ByteArray} (h : s.size = 0) : s = ⟨#[]⟩ := by
  obtain ⟨d⟩ := s
  have : d.size = 0 := h
  rw [Array.size_eq_zero_iff.1 this]
theorem one_byte {s : ByteArray} (h : s.size = 1) (hb : byt s 0 = 48) : s.toList = [48] := by
  obtain ⟨d⟩ := s
  have h1 : d.size = 1 := h
  rw [ByteArray.toList_eq]
  obtain ⟨x, hx⟩ : ∃ x, d.toList = [x] := by
    match hl : d.toList, (show d.toList.length = 1 by simpa using h1) with
    | [x], _ => exact ⟨x, rfl⟩
  unfold byt at hb
  show d.toList = [48]
  rw [hx] at hb ⊢
  simp at hb
  congr 1
  apply UInt8.toNat_inj.1
  have h9 : x.toNat = 48 := by omega
  rw [h9]; rfl
end Go.Proofs.YtnjdcaidoffhbaaGreatDoor
