/- A box that is split or cut: both parts are boxes, use fewer units together, and the part with which it goes on has a path less by one. No condition. -/
import Derived.Test.YtpnfkigeagbhpaaPK19
import Derived.Test.YtpnfkigeagbhpaaPK20
import Derived.Test.YtpnfkigeagbhpaaPK23
import Derived.Test.YtpnfkigeagbhpaaPK12
namespace Go.Proofs.Ytpnfkigeagbhpaa
open Go.RowKit
set_option linter.unusedVariables false
set_option maxRecDepth 100000

theorem getD_set_at {ps : List (Int × Int)} {a : Nat} (ha : a < ps.length) (v : Int × Int) : (ps.set a v).getD a (0, 0) = v := by
  simp [List.getD_eq_getElem?_getD, ha]
theorem getD_set_off {ps : List (Int × Int)} {a k : Nat} (hk : k ≠ a) (v : Int × Int) : (ps.set a v).getD k (0, 0) = ps.getD k (0, 0) := by
  simp [List.getD_eq_getElem?_getD, List.getElem?_set_ne (fun e => hk e.symm)]
theorem units_part {ps us vs : List (Int × Int)} {n a : Nat} (hg : ∀ j, j < n → 0 ≤ gapAt ps j) (hs : ∀ j, j ≠ a → gapAt us j = gapAt ps j ∧ gapAt vs j = gapAt ps j) (h0 : 0 ≤ gapAt us a) (h1 : 0 ≤ gapAt vs a)
    (hu : unitI (gapAt ps a) < 1000000000 → unitI (gapAt us a) + unitI (gapAt vs a) + 1 ≤ unitI (gapAt ps a)) :
    ∀ k, k ≤ n → (k ≤ a → unitsG us k = unitsG ps k ∧ unitsG vs k = unitsG ps k) ∧ (a < k → unitsG ps k < 1000000000 → unitsG us k + unitsG vs k + 1 ≤ unitsG ps k)
  | 0, _ => ⟨fun _ => ⟨rfl, rfl⟩, fun h => by omega⟩
  | k + 1, hk => by
    obtain ⟨i1, i2⟩ := units_part hg hs h0 h1 hu k (by omega)
    have b := (unitsG_bd hg k (by omega)).1
    have c := unitI_bd (hg k (by omega))
    by_cases e : k = a
    · subst e
      refine ⟨fun h => by omega, fun _ ht => ?_⟩
      obtain ⟨e1, e2⟩ := i1 (Nat.le_refl _)
      have p1 := (unitI_bd h0).1
      have p2 := (unitI_bd h1).1
      have ht' : min (unitsG ps k * unitI (gapAt ps k)) 1000000000 < 1000000000 := ht
      show min (unitsG us k * unitI (gapAt us k)) 1000000000 + min (unitsG vs k * unitI (gapAt vs k)) 1000000000 + 1 ≤ min (unitsG ps k * unitI (gapAt ps k)) 1000000000
      rw [e1, e2]
      generalize unitsG ps k = u at *
      have hlt : unitI (gapAt ps k) < 1000000000 := by
        have : 1 * unitI (gapAt ps k) ≤ u * unitI (gapAt ps k) := Int.mul_le_mul_of_nonneg_right b (by omega)
        omega
      have hs' := hu hlt
      generalize unitI (gapAt ps k) = z at *
      generalize unitI (gapAt us k) = x at *
      generalize unitI (gapAt vs k) = y at *
      have m : u * (x + y + 1) ≤ u * z := Int.mul_le_mul_of_nonneg_left hs' (by omega)
      rw [Int.mul_add, Int.mul_add, Int.mul_one] at m
      omega
    · obtain ⟨g1, g2⟩ := hs k e
      refine ⟨fun h => ?_, fun h ht => ?_⟩
      · obtain ⟨e1, e2⟩ := i1 (by omega)
        show min (unitsG us k * unitI (gapAt us k)) 1000000000 = min (unitsG ps k * unitI (gapAt ps k)) 1000000000 ∧ min (unitsG vs k * unitI (gapAt vs k)) 1000000000 = min (unitsG ps k * unitI (gapAt ps k)) 1000000000
        rw [g1, g2, e1, e2]
        exact ⟨rfl, rfl⟩
      · have ht' : min (unitsG ps k * unitI (gapAt ps k)) 1000000000 < 1000000000 := ht
        show min (unitsG us k * unitI (gapAt us k)) 1000000000 + min (unitsG vs k * unitI (gapAt vs k)) 1000000000 + 1 ≤ min (unitsG ps k * unitI (gapAt ps k)) 1000000000
        rw [g1, g2]
        have i3 := i2 (by omega)
        generalize unitsG ps k = z at *
        generalize unitI (gapAt ps k) = v at *
        have hz : z < 1000000000 := by
          have : z * 1 ≤ z * v := Int.mul_le_mul_of_nonneg_left c.1 (by omega)
          omega
        have i4 := i3 hz
        generalize unitsG us k = x at *
        generalize unitsG vs k = y at *
        have m : (x + y + 1) * v ≤ z * v := Int.mul_le_mul_of_nonneg_right i4 (by omega)
        rw [Int.add_mul, Int.add_mul, Int.one_mul] at m
        omega
theorem path_part {ps us : List (Int × Int)} {a : Nat} (hs : ∀ j, j ≠ a → gapAt us j = gapAt ps j) :
    ∀ k, (k ≤ a → pathG us k = pathG ps k) ∧ (a < k → pathG us k + hlvI (gapAt ps a) = pathG ps k + hlvI (gapAt us a))
  | 0 => ⟨fun _ => rfl, fun h => by omega⟩
  | k + 1 => by
    obtain ⟨i1, i2⟩ := path_part hs k
    have d1 : pathG us (k + 1) = pathG us k + hlvI (gapAt us k) := rfl
    have d2 : pathG ps (k + 1) = pathG ps k + hlvI (gapAt ps k) := rfl
    by_cases e : k = a
    · subst e
      have := i1 (Nat.le_refl _)
      exact ⟨fun h => by omega, fun _ => by omega⟩
    · have g := hs k e
      rw [g] at d1
      refine ⟨fun h => ?_, fun h => ?_⟩
      · have := i1 (by omega); omega
      · have := i2 (by omega); omega
theorem unitI_pos {g : Int} (h : 1 ≤ g) (h2 : g ≤ 250000000) : unitI g = 4 * g - 1 := by
  unfold unitI
  rw [if_neg (by omega), if_neg (by omega)]
theorem unitI_most {g : Int} (h : 0 ≤ g) (h2 : g ≤ 250000000) : unitI g ≤ 4 * g + 1 := by
  unfold unitI
  split
  · omega
  · rw [if_neg (by omega)]; omega
theorem unitI_part {g h j : Int} (h0 : 0 ≤ h) (j0 : 0 ≤ j) (hc : (1 ≤ h ∧ 1 ≤ j ∧ h + j ≤ g) ∨ h + j + 1 ≤ g) (ht : unitI g < 1000000000) : unitI h + unitI j + 1 ≤ unitI g := by
  have hg : g ≤ 250000000 := by
    by_cases e : 250000000 < g
    · unfold unitI at ht; rw [if_neg (by omega), if_pos e] at ht; omega
    · omega
  rw [unitI_pos (g := g) (by omega) hg]
  rcases hc with ⟨a, b, c⟩ | c
  · rw [unitI_pos (g := h) a (by omega), unitI_pos (g := j) b (by omega)]; omega
  · have m1 := unitI_most h0 (by omega)
    have m2 := unitI_most j0 (by omega)
    omega
theorem ok_set {wd : Int} {ps : List (Int × Int)} {a : Nat} {c d : Int} (hok : okRow wd ps = true) (hp : pokB wd c d = true) : okRow wd (ps.set a (c, d)) = true := by
  have l := okRow_len hok
  refine okRow_yes (by rw [List.length_set]; omega) (by rw [List.length_set]; omega) (fun k hk => ?_)
  rw [List.length_set] at hk
  by_cases e : k = a
  · subst e
    rw [getD_set_at hk]
    exact hp
  · rw [getD_set_off e]
    exact okRow_at hok hk
theorem pok_gap {wd c d : Int} (h : pokB wd c d = true) : gapI c d = d - c ∧ 0 ≤ d - c ∧ d - c ≤ 18446744073709551615 := by
  have k2 := pokB_in h
  have b1 := okB_bd k2.1
  have b2 := okB_bd k2.2.1
  unfold gapI
  rw [if_neg (by omega)]
  omega
theorem part_less {wd x y c1 d1 c2 d2 : Int} {ps : List (Int × Int)} {a : Nat} (hok : okRow wd ps = true) (ha : a < ps.length) (hx : ps.getD a (0, 0) = (x, y)) (p1 : pokB wd c1 d1 = true) (p2 : pokB wd c2 d2 = true)
    (h1 : 2 * (d1 - c1) ≤ y - x) (hg : 1 ≤ y - x) (hc : (1 ≤ d1 - c1 ∧ 1 ≤ d2 - c2 ∧ (d1 - c1) + (d2 - c2) ≤ y - x) ∨ (d1 - c1) + (d2 - c2) + 1 ≤ y - x) :
    (unitsRow wd ps < 1000000000 → unitsRow wd (ps.set a (c1, d1)) + unitsRow wd (ps.set a (c2, d2)) + 1 ≤ unitsRow wd ps) ∧ pathRow wd (ps.set a (c1, d1)) + 1 ≤ pathRow wd ps ∧ pathRow wd (ps.set a (c2, d2)) ≤ pathRow wd ps := by
  have q1 := pok_gap p1
  have q2 := pok_gap p2
  have g0 := okRow_in hok ha
  rw [hx] at g0
  have e1 : gapAt (ps.set a (c1, d1)) a = d1 - c1 := by unfold gapAt; rw [getD_set_at ha]; exact q1.1
  have e2 : gapAt (ps.set a (c2, d2)) a = d2 - c2 := by unfold gapAt; rw [getD_set_at ha]; exact q2.1
  have e3 : gapAt ps a = y - x := g0.1
  have s1 : ∀ j, j ≠ a → gapAt (ps.set a (c1, d1)) j = gapAt ps j := fun j hj => by unfold gapAt; rw [getD_set_off hj]
  have s2 : ∀ j, j ≠ a → gapAt (ps.set a (c2, d2)) j = gapAt ps j := fun j hj => by unfold gapAt; rw [getD_set_off hj]
  have U := (units_part (n := ps.length) (fun j hj => (okRow_in hok hj).2.1) (fun j hj => ⟨s1 j hj, s2 j hj⟩) (by rw [e1]; omega) (by rw [e2]; omega) (by rw [e1, e2, e3]; exact unitI_part q1.2.1 q2.2.1 hc) ps.length (Nat.le_refl _)).2 ha
  have P1 := (path_part s1 ps.length).2 ha
  have P2 := (path_part s2 ps.length).2 ha
  rw [e1, e3] at P1
  rw [e2, e3] at P2
  have m1 := hlvI_le q1.2.1 (show d1 - c1 ≤ (y - x) / 2 by omega) (by omega)
  have m2 := hlvI_le q2.2.1 (show d2 - c2 ≤ y - x by omega) (by omega)
  rw [hlvI_half (g := y - x) (by omega) (by omega)] at P1
  unfold unitsRow pathRow
  rw [hok, ok_set hok p1, ok_set hok p2, List.length_set, List.length_set]
  simp only [if_true]
  exact ⟨U, by omega, by omega⟩
theorem getD_at {ps : List (Int × Int)} {at_ : Int} : ps.getD at_.toNat (0, 0) = (splX ps at_, splY ps at_) := rfl
theorem split_less {wd at_ : Int} {ps : List (Int × Int)} (h : splR wd at_ ps = true) :
    (unitsRow wd ps < 1000000000 → unitsRow wd (splA at_ ps) + unitsRow wd (splZ at_ ps) + 1 ≤ unitsRow wd ps) ∧ pathRow wd (splA at_ ps) + 1 ≤ pathRow wd ps ∧ pathRow wd (splZ at_ ps) ≤ pathRow wd ps := by
  unfold splR inB splitB at h
  simp only [Bool.and_eq_true, decide_eq_true_eq] at h
  obtain ⟨⟨hok, h0, h1⟩, hp, hg⟩ := h
  have q := pok_gap hp
  have k := pokB_in hp
  have mid : midI (splX ps at_) (splY ps at_) = splX ps at_ + (splY ps at_ - splX ps at_) / 2 := by unfold midI; rw [q.1]
  have b1 := okB_in k.1
  have b2 := okB_in k.2.1
  rw [q.1] at hg
  have pm : okB wd (midI (splX ps at_) (splY ps at_)) = true := by rw [mid]; exact okB_mid k.1 k.2.1 (by omega) (by omega)
  unfold splA splZ
  refine part_less hok (by omega) getD_at (pokB_mk k.1 pm (by rw [mid]; omega) k.2.2.2.1 (by rw [mid]; omega)) (pokB_mk pm k.2.1 (by rw [mid]; omega) (by rw [mid]; omega) k.2.2.2.2) (by rw [mid]; omega) (by omega) (by rw [mid]; omega)
theorem cut_less {wd at_ gc gd : Int} {ps : List (Int × Int)} (h : cutR wd at_ gc gd ps = true) :
    (unitsRow wd ps < 1000000000 → unitsRow wd (cutA at_ gc gd ps) + unitsRow wd (cutZ at_ gc gd ps) + 1 ≤ unitsRow wd ps) ∧ pathRow wd (cutA at_ gc gd ps) + 1 ≤ pathRow wd ps ∧ pathRow wd (cutZ at_ gc gd ps) ≤ pathRow wd ps := by
  unfold cutR inB cutB at h
  simp only [Bool.and_eq_true, decide_eq_true_eq] at h
  obtain ⟨⟨hok, h0, h1⟩, hp, hcd, hp1, hp2⟩ := h
  have q := pok_gap hp
  have q1 := pok_gap hp1
  have q2 := pok_gap hp2
  unfold cutA cutZ cutHi
  rw [q1.1, q2.1]
  by_cases c : splY ps at_ - gd < gc - splX ps at_
  · rw [decide_eq_true c]
    exact part_less hok (by omega) getD_at hp2 hp1 (by omega) (by omega) (by omega)
  · rw [decide_eq_false c]
    exact part_less hok (by omega) getD_at hp1 hp2 (by omega) (by omega) (by omega)
theorem units_in {wd : Int} {ps : List (Int × Int)} (hok : okRow wd ps = true) : (1 ≤ unitsRow wd ps ∧ unitsRow wd ps ≤ 1000000000) ∧ 1 ≤ pathRow wd ps ∧ pathRow wd ps ≤ 64 * (ps.length : Int) + 1 := by
  have u := unitsG_bd (n := ps.length) (fun j hj => (okRow_in hok hj).2.1) ps.length (Nat.le_refl _)
  have p := pathG_bd (n := ps.length) (fun j hj => (okRow_in hok hj).2) ps.length (Nat.le_refl _)
  unfold unitsRow pathRow
  rw [hok]
  simp only [if_true]
  omega
theorem units_any {wd : Int} {ps : List (Int × Int)} (hl : ps.length ≤ 8) : (0 ≤ unitsRow wd ps ∧ unitsRow wd ps ≤ 1000000000) ∧ 0 ≤ pathRow wd ps ∧ pathRow wd ps ≤ 1000 := by
  cases hok : okRow wd ps
  · unfold unitsRow pathRow; rw [hok]; simp
  · have := units_in hok; omega
theorem units_no {wd : Int} {ps : List (Int × Int)} (hok : okRow wd ps = false) : unitsRow wd ps = 0 ∧ pathRow wd ps = 0 := by
  unfold unitsRow pathRow; rw [hok]; exact ⟨rfl, rfl⟩
end Go.Proofs.Ytpnfkigeagbhpaa
