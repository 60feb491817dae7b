/- Which of two numbers is greater: mathematics, and the specification. Conditions: numbers. -/
import Derived.Test.YtpamnpdigoikoaaDoorN8
namespace Go.Proofs.YtpamnpdigoikoaaDoor
open Go.RowKit
set_option linter.unusedVariables false
set_option maxRecDepth 100000

def cmpI (x y : Nat) : Int := if x < y then -1 else if y < x then 1 else 0
theorem cmpI_lt {x y : Nat} (h : x < y) : cmpI x y = -1 := by unfold cmpI; rw [if_pos h]
theorem cmpI_gt {x y : Nat} (h : y < x) : cmpI x y = 1 := by unfold cmpI; rw [if_neg (by omega), if_pos h]
theorem cmpI_eq (x : Nat) : cmpI x x = 0 := by unfold cmpI; simp
theorem val_shorter {xs ys : List Int} (hx : digs xs) (hy : digs ys) (ty : topped ys) (h : xs.length < ys.length) : val xs < val ys := by
  have h1 := val_lt hx
  have h2 := val_ge hy ty (by omega)
  have h3 : 65536 ^ xs.length ≤ 65536 ^ (ys.length - 1) := Nat.pow_le_pow_right (by omega) (by omega)
  omega
theorem getD_drop (xs : List Int) (n i : Nat) : (xs.drop n).getD i 0 = xs.getD (n + i) 0 := by simp [List.getD_eq_getElem?_getD]
theorem ext_getD {xs ys : List Int} (hl : xs.length = ys.length) (h : ∀ i, i < xs.length → xs.getD i 0 = ys.getD i 0) : xs = ys := IUpto.all ⟨hl, fun i hi => h i (by omega)⟩
theorem val_at {xs ys : List Int} {j : Nat} (hx : digs xs) (hy : digs ys) (hl : xs.length = ys.length) (hj : j < xs.length) (he : ∀ i, j < i → i < xs.length → xs.getD i 0 = ys.getD i 0) (h : xs.getD j 0 < ys.getD j 0) : val xs < val ys := by
  have ed : xs.drop (j + 1) = ys.drop (j + 1) := by
    refine ext_getD (by rw [List.length_drop, List.length_drop, hl]) (fun i hi => ?_)
    rw [List.length_drop] at hi
    rw [getD_drop, getD_drop]
    exact he _ (by omega) (by omega)
  have e1 : val xs = val (xs.take (j + 1)) + 65536 ^ (j + 1) * val (xs.drop (j + 1)) := by
    rw [← List.take_append_drop (j + 1) xs, val_append, List.take_append_drop, List.length_take, Nat.min_eq_left (by omega)]
  have e2 : val ys = val (ys.take (j + 1)) + 65536 ^ (j + 1) * val (ys.drop (j + 1)) := by
    rw [← List.take_append_drop (j + 1) ys, val_append, List.take_append_drop, List.length_take, Nat.min_eq_left (by omega)]
  rw [e1, e2, ed, val_take_succ, val_take_succ]
  have dt : digs (xs.take j) := (digs_append.1 (by rw [List.take_append_drop]; exact hx)).1
  have hv := val_lt dt
  rw [List.length_take, Nat.min_eq_left (by omega)] at hv
  have dx := digs_getD hx j
  have dy := digs_getD hy j
  unfold dig at dx dy
  have hm : 65536 ^ j * ((xs.getD j 0).toNat + 1) ≤ 65536 ^ j * (ys.getD j 0).toNat := Nat.mul_le_mul_left _ (by omega)
  rw [Nat.mul_add] at hm
  omega
set_option maxHeartbeats 2000000 in
theorem sCmp (a b : Option Addr) (la lb ca cb : Nat) (xs ys : List Int) (w : World) (hA : InI w a la ca xs) (hB : InI w b lb cb ys) (hx : digs xs) (hy : digs ys) (tx : topped xs) (ty : topped ys) :
    Calls Tryd.prog 88 #[.slice a la ca, .slice b lb cb] w fun e w' => e = .returned (.int .i64 (cmpI (val xs) (val ys))) ∧ Below w.heap.size w w' := by
  have pa := hA.1
  have pb := hB.1
  have hla := hA.len
  have hlb := hB.len
  rcases Nat.lt_trichotomy la lb with h | h | h
  · rw [cmpI_lt (val_shorter hx hy ty (by omega))]
    go_enter Tryd.func88, Tryd.ntmps88
    go_wp2
    go_ret
    exact ⟨rfl, Below.refl _ _⟩
  · subst h
    have hlt := hd (fun j h1 h2 h3 => cmpI_lt (val_at (j := j) hx hy (by omega) h1 h2 h3))
    have hgt := hd (fun j h1 h2 h3 => cmpI_gt (val_at (j := j) hy hx (by omega) h1 h2 h3))
    have heq : Hid ((∀ i, i < la → xs.getD i 0 = ys.getD i 0) → cmpI (val xs) (val ys) = 0) := by
      intro h
      have e : xs = ys := ext_getD (by omega) (fun i hi => h i (by omega))
      rw [e]; exact cmpI_eq _
    generalize cmpI (val xs) (val ys) = r at *
    go_enter Tryd.func88, Tryd.ntmps88
    go_wp2
    go_loopw [5] (fun i wr => ∃ j : Int, -1 ≤ j ∧ j < la ∧ i = .int .i64 j ∧ (∀ m : Nat, j < (m : Int) → m < la → xs.getD m 0 = ys.getD m 0) ∧ Below w.heap.size w wr) (fun i _ => (intOf i + 1).toNat)
    case atStart => exact ⟨(la : Int) - 1, by omega, by omega, rfl, fun m h1 h2 => by omega, Below.refl _ _⟩
    case round =>
      obtain ⟨j, hj1, hj2, rfl, he, hb⟩ := hrel
      by_cases h0 : 0 ≤ j
      · obtain ⟨m, rfl⟩ := Int.eq_ofNat_of_zero_le h0
        have hm : m < la := by omega
        obtain ⟨b1, o1, x, rfl, hb1, ex, -, c1⟩ := (hA.old hb).at hm
        obtain ⟨b2, o2, y, rfl, hb2, ey, -, c2⟩ := (hB.old hb).at hm
        have he' := hd he
        clear he
        rcases Int.lt_trichotomy x y with g | g | g
        · go_wp2_with fail
          go_region
          all_goals
            go_wp2
            go_ret
            exact ⟨retI (hlt.out m (by omega) (fun i h1 h2 => he'.out i (by omega) (by omega)) (by rw [ex, ey]; exact g)), hb.drew⟩
        · subst g
          go_wp2_with fail
          go_region
          all_goals
            go_wp2_with fail
            go_region
            all_goals
              go_wp2
              go_roundw
              case rel =>
                refine ⟨(m : Int) - 1, by omega, by omega, by go_num, fun i h1 h2 => ?_, hb.drew.drew⟩
                by_cases e : i = m
                · subst e; rw [ex, ey]
                · exact he'.out i (by omega) h2
              case measure => simp [intOf] <;> omega
        · go_wp2_with fail
          go_region
          all_goals
            go_wp2_with fail
            go_region
            all_goals
              go_wp2
              go_ret
              exact ⟨retI (hgt.out m (by omega) (fun i h1 h2 => (he'.out i (by omega) (by omega)).symm) (by rw [ex, ey]; exact g)), hb.drew.drew⟩
      · obtain rfl : j = -1 := by omega
        have he' := hd he
        clear he
        go_wp2
        go_ret
        exact ⟨retI (heq.out (fun i hi => he'.out i (by omega) hi)), hb⟩
  · rw [cmpI_gt (val_shorter hy hx tx (by omega))]
    go_enter Tryd.func88, Tryd.ntmps88
    go_wp2
    go_ret
    exact ⟨rfl, Below.refl _ _⟩
end Go.Proofs.YtpamnpdigoikoaaDoor
