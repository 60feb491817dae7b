/- Numbers read from decimals, by the program: whether a text is decimals; small ones. No condition but the text's length. -/
import Derived.Test.YtlfaiekcmflgnaaGreatDoorNY
namespace Go.Proofs.YtlfaiekcmflgnaaGreatDoor
open Go.RowKit
set_option linter.unusedVariables false
set_option maxRecDepth 100000

theorem of_toListN {s : ByteArray} {l : List UInt8} (h : s.toList = l) : s = ⟨l.toArray⟩ := by
  obtain ⟨d⟩ := s
  rw [ByteArray.toList_eq] at h
  subst h
  simp
theorem size_nilN {s : ByteArray} (h : s.size = 0) : s = ⟨#[]⟩ := by
  obtain ⟨d⟩ := s
  have : d.size = 0 := h
  rw [Array.size_eq_zero_iff.1 this]
theorem one_byte {s : ByteArray} (h : s.size = 1) (hb : byt s 0 = 48) : s.toList = [48] := by
  obtain ⟨d⟩ := s
  have h1 : d.size = 1 := h
  rw [ByteArray.toList_eq]
  obtain ⟨x, hx⟩ : ∃ x, d.toList = [x] := by
    match hl : d.toList, (show d.toList.length = 1 by simpa using h1) with
    | [x], _ => exact ⟨x, rfl⟩
  unfold byt at hb
  show d.toList = [48]
  rw [hx] at hb ⊢
  simp at hb
  congr 1
  apply UInt8.toNat_inj.1
  have h9 : x.toNat = 48 := by omega
  rw [h9]; rfl
set_option maxRecDepth 100000 in
set_option maxHeartbeats 4000000 in
theorem iIsDecimal (s : ByteArray) (hs : s.size ≤ maxLen) (w : World) :
    Calls Tryz.prog 41 #[.string s] w fun e w' => e = .returned (.bool (decB s)) ∧ Below w.heap.size w w' := by
  unfold maxLen at hs
  obtain ⟨res, hres⟩ : ∃ r, decB s = r := ⟨_, rfl⟩
  have hno : Hid (∀ i, i < s.size → isD (byt s i) = false → res = false) := fun i h1 h2 => by rw [← hres]; unfold decB; rw [allDg_no h1 h2]; simp
  have hyes : Hid ((∀ i, i < s.size → isD (byt s i) = true) → res = (decide (s.size ≠ 0) && decide (s.size = 1 ∨ byt s 0 ≠ 48))) := fun h => by rw [← hres]; unfold decB; rw [allDg_yes h]; simp
  rw [hres]
  clear hres
  go_enter Tryz.func41, Tryz.ntmps41
  go_wp2
  go_loopw [6] (fun i wr => ∃ (k : Nat), k ≤ s.size ∧ i = .int .i64 k ∧ (∀ j, j < k → isD (byt s j) = true) ∧ Below w.heap.size w wr) (fun i _ => s.size - (intOf i).toNat)
  case atStart => exact ⟨0, by omega, rfl, fun j hj => by omega, Below.refl _ _⟩
  case round =>
    obtain ⟨k, hk, rfl, hall, hb⟩ := hrel
    have hall' := hd hall
    clear hall
    by_cases hlt : k < s.size
    · have ik := idxS Tryz.underlying9 s k hlt
      have bk := byt_bd s k
      have hkI : (k : Int) < (s.size : Int) := by omega
      cases hd9 : isD (byt s k)
      · have hr := hno.out k hlt hd9
        have hc := isD_n hd9
        subst hr
        clear hd9
        generalize byt s k = bt at *
        rcases hc with hc | hc
        · go_wp2
          go_ret
          exact ⟨rfl, hb⟩
        · have hc' : ¬ bt < 48 := by omega
          go_wp2
          go_ret
          exact ⟨rfl, hb⟩
      · have hc := isD_b hd9
        have hal2 : Hid (∀ j, j < k + 1 → isD (byt s j) = true) := fun j hj => by
          by_cases e : j = k
          · subst e; exact hd9
          · exact hall'.out j (by omega)
        clear hd9
        generalize byt s k = bt at *
        have q1 : ¬ bt < 48 := by omega
        have q2 : ¬ bt > 57 := by omega
        go_wp2
        go_roundw
        case rel => exact ⟨k + 1, by omega, by go_num, hal2.out, hb⟩
        case measure => simp [intOf]; omega
    · obtain rfl : k = s.size := by omega
      have hni : ¬ ((s.size : Int) < (s.size : Int)) := by omega
      have hr := hyes.out hall'.out
      clear hyes hno hall'
      by_cases hA : s.toList = [48]
      · obtain rfl := of_toListN hA
        have hr' : res = true := by rw [hr]; decide
        subst hr'
        clear hr hA
        go_wp2
        go_ret
        exact ⟨rfl, hb⟩
      · by_cases h0 : s.size = 0
        · obtain rfl := size_nilN h0
          have hr' : res = false := by rw [hr]; rfl
          subst hr'
          clear hr hA
          go_wp2
          go_ret
          exact ⟨rfl, hb⟩
        · have ix := idxS0 Tryz.underlying9 s (by omega)
          have nA : (s.toList == [48]) = false := by simpa using hA
          have nB : (s.toList == []) = false := by
            rw [ByteArray.toList_eq]
            simp
            intro e
            apply h0
            show s.data.size = 0
            rw [e]; rfl
          have hr' : res = !(byt s 0 == 48) := by
            rw [hr]
            by_cases h48 : byt s 0 = 48
            · have : s.size ≠ 1 := fun h1 => hA (one_byte h1 h48)
              simp [h48, this]
            · simp [h48, h0]
          subst hr'
          clear hr hA
          go_wp2
          go_ret
          exact ⟨by first | rfl | simp, hb⟩
end Go.Proofs.YtlfaiekcmflgnaaGreatDoor
