/- Stores into a new variable leave the boxes and rows that lay ahead. No condition. -/
import Derived.Test.YtmofapcoaolndaaE9
namespace Go.Proofs.Ytmofapcoaolndaa
open Go.RowKit
set_option linter.unusedVariables false

theorem sz_le {W wx : World} {n : Nat} (hb : Below W.heap.size W wx) (h : n ≤ W.heap.size) : n ≤ wx.heap.size := Nat.le_trans h hb.size
theorem OB.mono {w : World} {b b' cv : Nat} {av : Option Addr} {ps : List (Int × Int)} (h : OB w b av cv ps) (hb : b' ≤ b) : OB w b' av cv ps := by
  obtain ⟨h1, h2, h3, h4 | ⟨g, h4, h5, h6⟩⟩ := h
  · exact ⟨h1, h2, h3, .inl h4⟩
  · exact ⟨h1, h2, h3, .inr ⟨g, h4, Nat.le_trans hb h5, h6⟩⟩
theorem OB.set {w : World} {base cv : Nat} {av : Option Addr} {ps : List (Int × Int)} (h : OB w base av cv ps) (b : Nat) (hne : ∀ q, av = some q → q.block ≠ b) (v : Value) : OB (w.setCell ⟨b, 0, none⟩ v) base av cv ps := by
  obtain ⟨h1, h2, h3, h4 | ⟨g, h4, h5, h6⟩⟩ := h
  · exact ⟨h1, h2, h3, .inl h4⟩
  · exact ⟨h1, h2, h3, .inr ⟨g, h4, h5, h6.other ⟨b, 0, none⟩ (hne _ h4) v⟩⟩
theorem InRow.set' {w : World} {a : Option Addr} {len cap : Nat} {ps : List (Int × Int)} (h : InRow w a len cap ps) (b : Nat) (v : Value) (hne : 0 < len → ∀ q, a = some q → q.block ≠ b) : InRow (w.setCell ⟨b, 0, none⟩ v) a len cap ps := by
  by_cases h0 : 0 < len
  · exact h.set ⟨b, 0, none⟩ v (hne h0)
  · exact ⟨h.1, h.2.1, h.2.2.1, h.2.2.2.1, .inl (by omega)⟩
theorem Cel1.aside {w : World} {c : Nat} {x : Value} (h : Cel1 w c x) (b : Nat) (hne : c ≠ b) (y : Value) : Cel1 (w.setCell ⟨b, 0, none⟩ y) c x := h.other ⟨b, 0, none⟩ hne y
theorem Below.aside {n : Nat} {w0 w : World} (h : Below n w0 w) (b : Nat) (hb : n ≤ b) (v : Value) : Below n w0 (w.setCell ⟨b, 0, none⟩ v) := h.setCell (p := ⟨b, 0, none⟩) hb v
end Go.Proofs.Ytmofapcoaolndaa
