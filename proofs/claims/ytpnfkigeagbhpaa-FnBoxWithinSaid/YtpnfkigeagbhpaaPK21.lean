/- A box within another one: it has no more units, no longer a path, and is fine where that one is; what two boxes have in common lies in both. No condition. -/
import Derived.Test.YtpnfkigeagbhpaaPK17
import Derived.Test.YtpnfkigeagbhpaaPK16
import Derived.Test.YtpnfkigeagbhpaaPK20
namespace Go.Proofs.Ytpnfkigeagbhpaa
open Go.RowKit
set_option linter.unusedVariables false
set_option maxRecDepth 100000

theorem hlvI_mono : ∀ (n : Nat) (g h : Int), 0 ≤ g → g ≤ h → h ≤ 18446744073709551615 → g ≤ n → hlvI g ≤ hlvI h
  | 0, g, h, h0, h1, h2, hn => by
    obtain rfl : g = 0 := by omega
    have := hlvI_bd (g := h) ⟨by omega, h2⟩
    rw [hlvI_zero]
    exact this.1
  | n + 1, g, h, h0, h1, h2, hn => by
    by_cases e : g = 0
    · subst e
      have := hlvI_bd (g := h) ⟨by omega, h2⟩
      rw [hlvI_zero]
      exact this.1
    · rw [hlvI_half (g := g) (by omega) (by omega), hlvI_half (g := h) (by omega) h2]
      have := hlvI_mono n (g / 2) (h / 2) (by omega) (by omega) (by omega) (by omega)
      omega
theorem hlvI_le {g h : Int} (h0 : 0 ≤ g) (h1 : g ≤ h) (h2 : h ≤ 18446744073709551615) : hlvI g ≤ hlvI h := hlvI_mono g.toNat g h h0 h1 h2 (by omega)
theorem unitI_le {g h : Int} (h0 : 0 ≤ g) (h1 : g ≤ h) : unitI g ≤ unitI h := by
  unfold unitI
  split <;> split <;> (try split) <;> (try split) <;> omega
theorem isRow_at {us ps : List (Int × Int)} (h : isRow us ps = true) {k : Nat} (hk : k < us.length) : (ps.getD k (0, 0)).1 ≤ (us.getD k (0, 0)).1 ∧ (us.getD k (0, 0)).2 ≤ (ps.getD k (0, 0)).2 := by
  unfold isRow at h
  rw [Bool.and_eq_true] at h
  cases e : isAt us ps k
  · rw [allI_no hk e] at h; cases h.2
  · unfold isAt isB at e
    exact of_decide_eq_true e
theorem isRow_len' {us ps : List (Int × Int)} (h : isRow us ps = true) : us.length = ps.length := by
  unfold isRow at h
  rw [Bool.and_eq_true] at h
  exact of_decide_eq_true h.1
theorem okRow_in {wd : Int} {ps : List (Int × Int)} (h : okRow wd ps = true) {k : Nat} (hk : k < ps.length) : gapAt ps k = (ps.getD k (0, 0)).2 - (ps.getD k (0, 0)).1 ∧ 0 ≤ gapAt ps k ∧ gapAt ps k ≤ 18446744073709551615 := by
  have k1 := okRow_at h hk
  have k2 := pokB_in k1
  have b1 := okB_bd k2.1
  have b2 := okB_bd k2.2.1
  unfold gapAt gapI
  rw [if_neg (by omega)]
  omega
theorem gap_le {wd : Int} {us ps : List (Int × Int)} (hu : okRow wd us = true) (hp : okRow wd ps = true) (h : isRow us ps = true) {k : Nat} (hk : k < us.length) : 0 ≤ gapAt us k ∧ gapAt us k ≤ gapAt ps k ∧ gapAt ps k ≤ 18446744073709551615 := by
  have e := isRow_len' h
  have a := okRow_in hu hk
  have b := okRow_in hp (k := k) (by omega)
  have c := isRow_at h hk
  omega
theorem units_le {wd : Int} {us ps : List (Int × Int)} (hu : okRow wd us = true) (hp : okRow wd ps = true) (h : isRow us ps = true) : unitsRow wd us ≤ unitsRow wd ps := by
  have e := isRow_len' h
  have key : ∀ k, k ≤ us.length → unitsG us k ≤ unitsG ps k := by
    intro k
    induction k with
    | zero => intro _; exact Int.le_refl _
    | succ k ih =>
      intro hk
      have g := gap_le hu hp h (k := k) (by omega)
      have i := ih (by omega)
      have u := unitI_le g.1 g.2.1
      have p1 := (unitI_bd g.1).1
      have p2 := (unitsG_bd (ps := ps) (n := ps.length) (fun j hj => (okRow_in hp hj).2.1) k (by omega)).1
      have m : unitsG us k * unitI (gapAt us k) ≤ unitsG ps k * unitI (gapAt ps k) := Int.mul_le_mul i u (by omega) (by omega)
      show min _ _ ≤ min _ _
      omega
  unfold unitsRow
  rw [hu, hp]
  simp only [if_true]
  rw [← e]
  exact key _ (Nat.le_refl _)
theorem path_le {wd : Int} {us ps : List (Int × Int)} (hu : okRow wd us = true) (hp : okRow wd ps = true) (h : isRow us ps = true) : pathRow wd us ≤ pathRow wd ps := by
  have e := isRow_len' h
  have key : ∀ k, k ≤ us.length → pathG us k ≤ pathG ps k := by
    intro k
    induction k with
    | zero => intro _; exact Int.le_refl _
    | succ k ih =>
      intro hk
      have g := gap_le hu hp h (k := k) (by omega)
      have i := ih (by omega)
      have u := hlvI_le g.1 g.2.1 g.2.2
      show pathG us k + hlvI (gapAt us k) ≤ pathG ps k + hlvI (gapAt ps k)
      omega
  unfold pathRow
  rw [hu, hp]
  simp only [if_true]
  rw [← e]
  exact key _ (Nat.le_refl _)
theorem fine_le {wd bt : Int} {us ps : List (Int × Int)} (hu : okRow wd us = true) (hp : okRow wd ps = true) (h : isRow us ps = true) (hf : fineRow wd ps bt = true) : fineRow wd us bt = true := by
  unfold fineRow at hf ⊢
  rw [Bool.and_eq_true] at hf
  rw [hu]
  rw [allI_yes]
  · rfl
  · intro k hk
    have g := gap_le hu hp h hk
    have e := isRow_len' h
    cases c : fineAt ps (mostI bt) k
    · rw [allI_no (show k < ps.length by omega) c] at hf; cases hf.2
    · unfold fineAt at c ⊢
      have := of_decide_eq_true c
      exact decide_eq_true (by omega)
theorem meetL_length (us ps : List (Int × Int)) : (meetL us ps).length = us.length := madeL_length _ _ _
theorem meetL_at (us ps : List (Int × Int)) {k : Nat} (hk : k < us.length) : (meetL us ps).getD k (0, 0) = (max (us.getD k (0, 0)).1 (ps.getD k (0, 0)).1, min (us.getD k (0, 0)).2 (ps.getD k (0, 0)).2) := madeL_getD _ _ hk
theorem meetRow_in {wd : Int} {us ps : List (Int × Int)} (h : meetRow wd us ps = true) : okRow wd us = true ∧ okRow wd ps = true ∧ us.length = ps.length ∧ ∀ k, k < us.length → max (us.getD k (0, 0)).1 (ps.getD k (0, 0)).1 ≤ min (us.getD k (0, 0)).2 (ps.getD k (0, 0)).2 := by
  unfold meetRow at h
  simp only [Bool.and_eq_true] at h
  refine ⟨h.1, h.2.1, of_decide_eq_true h.2.2.1, fun k hk => ?_⟩
  cases c : meetAt us ps k
  · rw [allI_no hk c] at h; cases h.2.2.2
  · exact of_decide_eq_true c
theorem meet_ok {wd : Int} {us ps : List (Int × Int)} (h : meetRow wd us ps = true) : okRow wd (meetL us ps) = true := by
  obtain ⟨h1, h2, h3, h4⟩ := meetRow_in h
  have l := okRow_len h1
  refine okRow_yes (by rw [meetL_length]; omega) (by rw [meetL_length]; omega) (fun k hk => ?_)
  rw [meetL_length] at hk
  rw [meetL_at _ _ hk]
  have a := pokB_in (okRow_at h1 hk)
  have b := pokB_in (okRow_at h2 (k := k) (by omega))
  have c := h4 k hk
  have a1 := okB_in a.1
  have a2 := okB_in a.2.1
  have b1 := okB_in b.1
  have b2 := okB_in b.2.1
  refine pokB_mk ?_ ?_ c (by omega) (by omega)
  · unfold okB; simp only [decide_eq_true_eq]; exact ⟨a1.1, by omega, by omega⟩
  · unfold okB; simp only [decide_eq_true_eq]; exact ⟨a1.1, by omega, by omega⟩
theorem meet_is1 {us ps : List (Int × Int)} : isRow (meetL us ps) us = true := by
  unfold isRow
  rw [meetL_length, allI_yes]
  · simp
  · intro k hk
    unfold isAt isB
    rw [meetL_at _ _ hk]
    simp only [decide_eq_true_eq]
    omega
theorem meet_is2 {us ps : List (Int × Int)} (hl : us.length = ps.length) : isRow (meetL us ps) ps = true := by
  unfold isRow
  rw [meetL_length, allI_yes]
  · simp [hl]
  · intro k hk
    unfold isAt isB
    rw [meetL_at _ _ hk]
    simp only [decide_eq_true_eq]
    omega
theorem within_meet {wd : Int} {us ps : List (Int × Int)} (hu : okRow wd us = true) (hp : okRow wd ps = true) (h : isRow us ps = true) : meetRow wd us ps = true ∧ isRow us (meetL us ps) = true := by
  have e := isRow_len' h
  refine ⟨?_, ?_⟩
  · rw [meetRow_yes hu hp rfl e.symm]
    refine allI_yes (fun k hk => ?_)
    have c := isRow_at h hk
    have a := pokB_in (okRow_at hu hk)
    unfold meetAt meetX meetY
    exact decide_eq_true (by omega)
  · unfold isRow
    rw [meetL_length, allI_yes]
    · simp
    · intro k hk
      have c := isRow_at h hk
      unfold isAt isB
      rw [meetL_at _ _ hk]
      simp only [decide_eq_true_eq]
      omega
section
variable (wd : Int) (av : Option Addr) (cv base : Nat) (ps : List (Int × Int)) (w : World) (O : OB w base av cv ps)
include O
theorem iUnitsO : Calls Try.prog 16 #[.int .i64 wd, .agg #[.slice av ps.length cv]] w fun e w' => e = .returned (.int .i64 (unitsRow wd ps)) ∧ Below w.heap.size w w' := iBoxUnits wd av _ cv ps w O.inRow
theorem iPathO : Calls Try.prog 17 #[.int .i64 wd, .agg #[.slice av ps.length cv]] w fun e w' => e = .returned (.int .i64 (pathRow wd ps)) ∧ Below w.heap.size w w' := iBoxPath wd av _ cv ps w O.inRow
theorem iFineO (bt : Int) (b1 : -9223372036854775808 ≤ bt ∧ bt ≤ 9223372036854775807) (r : Bool) (h : fineRow wd ps bt = r) : Calls Try.prog 18 #[.int .i64 wd, .agg #[.slice av ps.length cv], .int .i64 bt] w fun e w' => e = .returned (.bool r) ∧ Below w.heap.size w w' := by
  subst h; exact iBoxFine wd bt b1 av _ cv ps w O.inRow
variable (au : Option Addr) (cu base' : Nat) (qs : List (Int × Int)) (U : OB w base' au cu qs)
include U
theorem iMeetNo (h : meetRow wd ps qs = false) : Calls Try.prog 14 #[.int .i64 wd, .agg #[.slice av ps.length cv], .agg #[.slice au qs.length cu]] w fun e w' => e = .returned (.tuple #[.agg #[.slice none 0 0], .bool false]) ∧ Below w.heap.size w w' := by
  refine (iBoxMeet wd av au _ _ cv cu ps qs w O.inRow U.inRow).mono ?_
  rintro e w' ⟨r | ⟨-, r⟩, hb⟩
  · rw [h] at r; cases r.1
  · exact ⟨r, hb⟩
theorem iMeetYes (h : meetRow wd ps qs = true) : Calls Try.prog 14 #[.int .i64 wd, .agg #[.slice av ps.length cv], .agg #[.slice au qs.length cu]] w fun e w' => (∃ ax cx, e = .returned (.tuple #[.agg #[.slice ax (meetL ps qs).length cx], .bool true]) ∧ OB w' w.heap.size ax cx (meetL ps qs)) ∧ Below w.heap.size w w' := by
  refine (iBoxMeet wd av au _ _ cv cu ps qs w O.inRow U.inRow).mono ?_
  rintro e w' ⟨⟨-, g, cap, r, h1, h2, h3, h4⟩ | ⟨r, -⟩, hb⟩
  · exact ⟨⟨_, _, r, meet_fits (wd := wd) O.1 U.1 (meetRow_len h), h2, h3, .inr ⟨g, rfl, h1, h4⟩⟩, hb⟩
  · rw [h] at r; cases r
theorem sMeetNo (h : meetRow wd ps qs = false) : Calls Try.prog 15 #[.int .i64 wd, .agg #[.slice av ps.length cv], .agg #[.slice au qs.length cu]] w fun e w' => e = .returned (.tuple #[.agg #[.slice none 0 0], .bool false]) ∧ Below w.heap.size w w' := by
  refine (sBoxMeet wd av au _ _ cv cu ps qs w O.inRow U.inRow).mono ?_
  rintro e w' ⟨r | ⟨-, r⟩, hb⟩
  · rw [h] at r; cases r.1
  · exact ⟨r, hb⟩
theorem sMeetYes (h : meetRow wd ps qs = true) : Calls Try.prog 15 #[.int .i64 wd, .agg #[.slice av ps.length cv], .agg #[.slice au qs.length cu]] w fun e w' => (∃ ax cx, e = .returned (.tuple #[.agg #[.slice ax (meetL ps qs).length cx], .bool true]) ∧ OB w' w.heap.size ax cx (meetL ps qs)) ∧ Below w.heap.size w w' := by
  refine (sBoxMeet wd av au _ _ cv cu ps qs w O.inRow U.inRow).mono ?_
  rintro e w' ⟨⟨-, g, cap, r, h1, h2, h3, h4⟩ | ⟨r, -⟩, hb⟩
  · exact ⟨⟨_, _, r, meet_fits (wd := wd) O.1 U.1 (meetRow_len h), h2, h3, .inr ⟨g, rfl, h1, h4⟩⟩, hb⟩
  · rw [h] at r; cases r
end
end Go.Proofs.Ytpnfkigeagbhpaa
