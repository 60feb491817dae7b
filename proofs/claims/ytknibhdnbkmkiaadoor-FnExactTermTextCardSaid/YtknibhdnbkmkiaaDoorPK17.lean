/- A node with the trees of its parts is a tree, by the program. Nothing that was there is written. -/
import Derived.Test.YtknibhdnbkmkiaaDoorPK11
import Derived.Deep.DeepCutAuto
import Derived.Deep.RegionWith
import Derived.Lib.Slices
namespace Go.Proofs.YtknibhdnbkmkiaaDoor
open Go.RowKit
set_option linter.unusedVariables false
set_option maxRecDepth 100000

theorem infoTree : (Tryd.prog.info? 38).map (fun i => (i.zero, i.size, i.bytes)) = some (some .nilIface, 1, 16) := by kernel_rfl
def rowV (m : Nat) (vs : Nat → Value) : List Value := (List.range m).map vs
theorem rowV_len (m : Nat) (vs : Nat → Value) : (rowV m vs).length = m := by simp [rowV]
theorem rowV_get {m : Nat} {vs : Nat → Value} {j : Nat} (h : j < m) : (rowV m vs)[j]? = some (vs j) := by simp [rowV, h]
set_option maxRecDepth 100000 in
set_option maxHeartbeats 2000000 in
theorem iCloneT (b off m cap : Nat) (vs : Nat → Value) (w : World) (hm : 0 < m) (hm6 : m ≤ 6) (hc : ∀ i, i < m → w.cell? ⟨b, off + i, none⟩ = some (vs i)) (h1 : ∀ i, i < m → ∃ (ty : TypeId) (u : Value), vs i = .iface ty u) :
    Calls Tryd.prog 32 #[.slice (some ⟨b, off, none⟩) m cap] w fun e w' => (∃ g c, e = .returned (.slice (some ⟨g, 0, none⟩) m c) ∧ w.heap.size ≤ g ∧ g < w'.heap.size ∧ m ≤ c ∧ c ≤ maxLen ∧ ∀ i, i < m → w'.cell? ⟨g, 0 + i, none⟩ = some (vs i)) ∧ Below w.heap.size w w' := by
  obtain ⟨i0, hi, hz0, hz1, hz2⟩ := info_parts infoTree
  have hc' := hd hc
  have h1' := hd h1
  clear hc h1
  have q22 : ∀ w, (binOp .eql 54 (.slice (some ⟨b, off, none⟩) m cap) (.slice none 0 0)).run Tryd.prog w = .ok (.bool false) w := fun w => Lib.run_eql_slice_nil w _ _ _ _ _ _ _ Tryd.underlying54
  go_enter Tryd.func32, Tryd.ntmps32
  go_wp2_with (at_builtin; go_loud (refine wpList_append_own _ rfl _ _ 54 rfl w.heap.size 38 i0 _ 1 16 Tryd.underlying54 hi hz0 hz1 hz2 rfl (by decide) _ _ _ rfl (World.ownsRow_made w #[] 0 (Nat.le_refl _) (Nat.zero_le _) rfl) ⟨b, off, none⟩ m cap (rowV m vs) rfl ?qc1 ?qc2 ?qc3 ?qc4 ?qc5 ?qc6 ?_))
  case qc1 => rw [rowV_len]; omega
  case qc2 =>
    intro j u hj
    have hjn : j < m := by
      have := (List.getElem?_eq_some_iff.1 hj).1
      rw [rowV_len] at this; exact this
    rw [rowV_get hjn] at hj
    rw [Addr.add_lit]
    refine Lib.cell?_alloc_some _ ?_
    rw [hc'.out j hjn]
    exact hj
  case qc3 =>
    intro u hu
    simp only [rowV, List.mem_map, List.mem_range] at hu
    obtain ⟨j, hj, rfl⟩ := hu
    obtain ⟨ty, x, e⟩ := h1'.out j hj
    rw [e]; rfl
  case qc4 => unfold maxLen; omega
  case qc5 => omega
  case qc6 => simp
  intro v' w1 hown hgrow hnil
  go_wp2
  go_ret
  have hown' : w1.ownsRow w.heap.size 38 1 v' m (rowV m vs) := by simpa using hown
  rcases hown'.2 with ⟨_, h0⟩ | ⟨g, c, cur, rfl, q1, q2, q3, q4, -, -⟩
  · omega
  refine ⟨⟨g, c, rfl, q1, (Array.getElem?_eq_some_iff.1 q2).1, q3, q4, fun i hi => ?_⟩, ((Below.refl _ w).alloc (Nat.le_refl _) _).grown hgrow (by simp) (by intro k hk; simp [Value.ownBlock] at hk; omega)⟩
  have := (World.ownsRow.cellAt hown' i (by omega)).trans (rowV_get hi)
  rw [Nat.zero_add]
  exact this
end Go.Proofs.YtknibhdnbkmkiaaDoor
