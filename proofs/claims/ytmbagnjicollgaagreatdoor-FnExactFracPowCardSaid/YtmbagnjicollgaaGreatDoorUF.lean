/- Powers of fractions: by the program and by the specification. Conditions, of the program: the library's table and its handle of errors hold what their texts lay. -/
import Derived.Test.YtmbagnjicollgaaGreatDoorFN
import Derived.Test.YtmbagnjicollgaaGreatDoorUE
import Derived.Test.YtmbagnjicollgaaGreatDoorBC
namespace Go.Proofs.YtmbagnjicollgaaGreatDoor
open Go.RowKit
set_option linter.unusedVariables false
set_option maxRecDepth 100000

def pwOk (xs ys : List Int) (n : Int) : Bool := powB xs n && powB ys n
theorem pw_low {bl : Bool} {xs ys : List Int} {n : Int} (hf : fracOk bl xs ys = true) (h1 : powB xs n = true) (h2 : powB ys n = true) : (lowB (val xs ^ n.toNat) (val ys ^ n.toNat) = true ∧ lowT (val xs ^ n.toNat) (val ys ^ n.toNat) = natL (val xs ^ n.toNat) ∧ lowU (val xs ^ n.toNat) (val ys ^ n.toNat) = natL (val ys ^ n.toNat)) ∧ (natL (val xs ^ n.toNat)).length ≤ 256 ∧ (natL (val ys ^ n.toNat)).length ≤ 256 := by
  have q := fracOk_in hf
  have l1 := of_decide_eq_true (powB_fits h1)
  have l2 := of_decide_eq_true (powB_fits h2)
  have hv := val_ne q.2.1 q.2.2.1
  exact ⟨low_cop (Nat.pow_gcd_pow_of_gcd_eq_one q.2.2.2.1) (Nat.pos_iff_ne_zero.mp (Nat.pow_pos (Nat.pos_of_ne_zero hv))) l1 l2, l1, l2⟩
theorem pw_sg {bl : Bool} {xs ys : List Int} {c : Prop} [Decidable c] {m : Nat} (hf : fracOk bl xs ys = true) : ((bl && decide c) && decide (val xs ^ m ≠ 0)) = (bl && decide c) := by
  cases bl
  · rfl
  · have q := fracOk_in hf
    have hx : val xs ≠ 0 := val_ne q.1 (fun h => q.2.2.2.2 ⟨rfl, h⟩)
    rw [decide_eq_true (Nat.pos_iff_ne_zero.mp (Nat.pow_pos (Nat.pos_of_ne_zero hx))), Bool.and_true]
theorem powB_rng {xs : List Int} {n : Int} (h : powB xs n = true) : 0 ≤ n ∧ n ≤ 64 := by
  unfold powB at h
  simp only [Bool.and_eq_true, decide_eq_true_eq] at h
  exact h.2.1
theorem pwOk_in {xs ys : List Int} {n : Int} (h : pwOk xs ys n = true) : powB xs n = true ∧ powB ys n = true := by
  unfold pwOk at h
  simp only [Bool.and_eq_true] at h
  exact h
theorem resFracPowS {W : World} {b : Nat} {v0 v1 v2 r : Value} {tmps : Array Value} (h : Cel3 W b v0 v1 v2) (ht : tmps[4]? = some (.pointer (some ⟨b, 0, none⟩))) (h3 : tmps[5]? = some r) : (results Tryz.f6 tmps).run Tryz.prog W = .ok (.tuple #[.agg #[v0, v1, v2], r]) W := by
  obtain ⟨h1, ⟨a0, a1, a2⟩, -⟩ := h
  simp [results, Tryz.results6, go_sem, a0, a1, a2, ht, h3]
set_option maxHeartbeats 8000000 in
theorem sFracPow (bl : Bool) (a b : Option Addr) (la lb ca cb : Nat) (xs ys : List Int) (n : Int) (w : World) (hA : InI w a la ca xs) (hB : InI w b lb cb ys) :
    Calls Tryz.prog 6 #[.agg #[.bool bl, .slice a la ca, .slice b lb cb], .int .i64 n] w fun e w' => FRes w' w.heap.size e (fracOk bl xs ys && (pwOk xs ys n && lowB (val xs ^ n.toNat) (val ys ^ n.toNat))) (bl && decide (n % 2 = 1)) (val xs ^ n.toNat) (val ys ^ n.toNat) ∧ Below w.heap.size w w' := by
  have e0 : Below w.heap.size w ((w.alloc (.cells #[.bool bl, .slice a la ca, .slice b lb cb] 26)).alloc (.cells #[.bool false, .slice none 0 0, .slice none 0 0] 26)) := (by repeat (first | exact Below.refl _ _ | refine Below.drew ?_ | refine old_alloc ?_ _ | refine old_trans ?_ (by assumption)))
  have K1 := (Cel3.new w (.bool bl) (.slice a la ca) (.slice b lb cb) 26).old (old_alloc (Below.refl _ _) (.cells #[.bool false, .slice none 0 0, .slice none 0 0] 26))
  have K2 := Cel3.new (w.alloc (.cells #[.bool bl, .slice a la ca, .slice b lb cb] 26)) (.bool false) (.slice none 0 0) (.slice none 0 0) 26
  simp only [World.size_alloc] at K2
  have O := hd (sFracOk bl a b la lb ca cb xs ys _ (hA.old e0) (hB.old e0))
  cases hf : fracOk bl xs ys
  · rw [hf] at O
    show Calls _ _ _ _ fun e w' => FRes w' w.heap.size e (false) (bl && decide (n % 2 = 1)) (val xs ^ n.toNat) (val ys ^ n.toNat) ∧ Below w.heap.size w w'
    clear hf hA hB
    go_enter Tryz.func6, Tryz.ntmps6
    go_wp2_with fail
    refine O.out.mono ?_
    rintro e w1 ⟨rfl, hb1⟩
    replace K1 := K1.old hb1
    replace K2 := K2.old hb1
    have hB1 := old_trans e0 hb1
    obtain ⟨k1, ⟨k2, k3, k4⟩, -⟩ := id K1
    obtain ⟨m1, ⟨m2, m3, m4⟩, m5, m6, m7⟩ := id K2
    go_wp2
    exact bodyPost_ret (resFracPowS (K2.setAll (.bool false) (.slice none 0 0) (.slice none 0 0)) rfl rfl) rfl ⟨FRes.no _ _ _ _ _, below_set (below_set (below_set hB1 (by omega) _) (by omega) _) (by omega) _⟩
  rw [hf] at O
  by_cases hn : 0 ≤ n ∧ n ≤ 64
  case neg =>
    have hp : powB xs n = false := by unfold powB; rw [decide_eq_false hn]; cases natOk xs <;> rfl
    unfold pwOk
    rw [hp]
    show Calls _ _ _ _ fun e w' => FRes w' w.heap.size e (false) (bl && decide (n % 2 = 1)) (val xs ^ n.toNat) (val ys ^ n.toNat) ∧ Below w.heap.size w w'
    have hcase : n < 0 ∨ (0 ≤ n ∧ 64 < n) := by omega
    clear hn hf hA hB hp
    rcases hcase with hc | ⟨hc0, hc⟩
    all_goals
      go_enter Tryz.func6, Tryz.ntmps6
      go_wp2_with fail
      refine O.out.mono ?_
      rintro e w1 ⟨rfl, hb1⟩
      replace K1 := K1.old hb1
      replace K2 := K2.old hb1
      have hB1 := old_trans e0 hb1
      obtain ⟨k1, ⟨k2, k3, k4⟩, -⟩ := id K1
      obtain ⟨m1, ⟨m2, m3, m4⟩, m5, m6, m7⟩ := id K2
      go_wp2
      exact bodyPost_ret (resFracPowS (K2.setAll (.bool false) (.slice none 0 0) (.slice none 0 0)) rfl rfl) rfl ⟨FRes.no _ _ _ _ _, below_set (below_set (below_set hB1 (by omega) _) (by omega) _) (by omega) _⟩
  have q := fracOk_in hf
  have hlow := hd (fun (h1 : powB xs n = true) (h2 : powB ys n = true) => pw_low hf h1 h2)
  have N1 := hd (fun w' (h : Below w.heap.size w w') => sNatPow a la ca xs n w' (hA.old h))
  have N2 := hd (fun w' (h : Below w.heap.size w w') => sNatPow b lb cb ys n w' (hB.old h))
  obtain ⟨m, rfl⟩ := Int.eq_ofNat_of_zero_le hn.1
  simp only [Int.toNat_natCast] at N1 N2 hlow ⊢
  show Calls _ _ _ _ fun e w' => FRes w' w.heap.size e ((powB xs (m : Int) && powB ys (m : Int)) && lowB (val xs ^ m) (val ys ^ m)) (bl && decide ((m : Int) % 2 = 1)) (val xs ^ m) (val ys ^ m) ∧ Below w.heap.size w w'
  cases h1 : powB xs (m : Int)
  · rw [h1] at N1
    simp only [show ∀ v, resN false v = [] from fun _ => rfl, List.length_nil] at N1
    show Calls _ _ _ _ fun e w' => FRes w' w.heap.size e (false) (bl && decide ((m : Int) % 2 = 1)) (val xs ^ m) (val ys ^ m) ∧ Below w.heap.size w w'
    clear hf hA hB hlow q h1
    generalize powB ys (m : Int) = x2 at *
    generalize resN x2 (val ys ^ m) = ul at *
    go_enter Tryz.func6, Tryz.ntmps6
    go_wp2_with fail
    refine O.out.mono ?_
    rintro e w1 ⟨rfl, hb1⟩
    replace K1 := K1.old hb1
    replace K2 := K2.old hb1
    have hB1 := old_trans e0 hb1
    obtain ⟨k1, ⟨k2, k3, k4⟩, -⟩ := id K1
    clear O hb1 e0
    go_wp2_with fail
    refine (N1.out _ hB1).mono ?_
    rintro e w2 ⟨⟨av, cv, rfl, hO⟩, hb2⟩
    have z1 := K2.1
    replace K1 := K1.old hb2
    replace K2 := K2.old hb2
    have hB2 := old_trans hB1 hb2
    clear k1 k2 k3 k4 hb2 N1
    obtain ⟨k1, ⟨k2, k3, k4⟩, -⟩ := id K1
    go_wp2_with fail
    refine (N2.out _ hB2).mono ?_
    rintro e w3 ⟨⟨av', cv', rfl, hO'⟩, hb3⟩
    have z2 := K2.1
    have hS := OI.sepOf hO hO' (Nat.le_refl _)
    replace hO := hO.later hb3
    replace K1 := K1.old hb3
    replace K2 := K2.old hb3
    have hB3 := old_trans hB2 hb3
    clear k1 k2 k3 k4 hb3 N2
    obtain ⟨k1, ⟨k2, k3, k4⟩, -⟩ := id K1
    obtain ⟨m1, ⟨m2, m3, m4⟩, m5, m6, m7⟩ := id K2
    clear hO hO'
    go_wp2
    exact bodyPost_ret (resFracPowS (K2.setAll (.bool false) (.slice none 0 0) (.slice none 0 0)) rfl rfl) rfl ⟨FRes.no _ _ _ _ _, below_set (below_set (below_set hB3 (by omega) _) (by omega) _) (by omega) _⟩
  rw [h1] at N1
  simp only [show ∀ v, resN true v = natL v from fun _ => rfl] at N1
  cases h2 : powB ys (m : Int)
  · rw [h2] at N2
    simp only [show ∀ v, resN false v = [] from fun _ => rfl, List.length_nil] at N2
    show Calls _ _ _ _ fun e w' => FRes w' w.heap.size e (false) (bl && decide ((m : Int) % 2 = 1)) (val xs ^ m) (val ys ^ m) ∧ Below w.heap.size w w'
    clear hf hA hB hlow q h1 h2
    generalize natL (val xs ^ m) = tl at *
    go_enter Tryz.func6, Tryz.ntmps6
    go_wp2_with fail
    refine O.out.mono ?_
    rintro e w1 ⟨rfl, hb1⟩
    replace K1 := K1.old hb1
    replace K2 := K2.old hb1
    have hB1 := old_trans e0 hb1
    obtain ⟨k1, ⟨k2, k3, k4⟩, -⟩ := id K1
    clear O hb1 e0
    go_wp2_with fail
    refine (N1.out _ hB1).mono ?_
    rintro e w2 ⟨⟨av, cv, rfl, hO⟩, hb2⟩
    have z1 := K2.1
    replace K1 := K1.old hb2
    replace K2 := K2.old hb2
    have hB2 := old_trans hB1 hb2
    clear k1 k2 k3 k4 hb2 N1
    obtain ⟨k1, ⟨k2, k3, k4⟩, -⟩ := id K1
    go_wp2_with fail
    refine (N2.out _ hB2).mono ?_
    rintro e w3 ⟨⟨av', cv', rfl, hO'⟩, hb3⟩
    have z2 := K2.1
    have hS := OI.sepOf hO hO' (Nat.le_refl _)
    replace hO := hO.later hb3
    replace K1 := K1.old hb3
    replace K2 := K2.old hb3
    have hB3 := old_trans hB2 hb3
    clear k1 k2 k3 k4 hb3 N2
    obtain ⟨k1, ⟨k2, k3, k4⟩, -⟩ := id K1
    obtain ⟨m1, ⟨m2, m3, m4⟩, m5, m6, m7⟩ := id K2
    clear hO hO'
    go_wp2
    exact bodyPost_ret (resFracPowS (K2.setAll (.bool false) (.slice none 0 0) (.slice none 0 0)) rfl rfl) rfl ⟨FRes.no _ _ _ _ _, below_set (below_set (below_set hB3 (by omega) _) (by omega) _) (by omega) _⟩
  rw [h2] at N2
  simp only [show ∀ v, resN true v = natL v from fun _ => rfl] at N2
  have hl := (hlow.out h1 h2).1
  show Calls _ _ _ _ fun e w' => FRes w' w.heap.size e (lowB (val xs ^ m) (val ys ^ m)) (bl && decide ((m : Int) % 2 = 1)) (val xs ^ m) (val ys ^ m) ∧ Below w.heap.size w w'
  rw [hl.1]
  have hsg : ((bl && decide ((m : Int) % 2 = 1)) && decide (val xs ^ m ≠ 0)) = (bl && decide ((m : Int) % 2 = 1)) := pw_sg hf
  have hfin : Hid (∀ (W : World) (n : Nat) (av av' : Option Addr) (cv cv' : Nat), OI W n av cv (natL (val xs ^ m)) → OI W n av' cv' (natL (val ys ^ m)) → Sep av av' → FRes W n (.returned (.tuple #[.agg #[.bool (bl && decide ((m : Int) % 2 = 1)), .slice av (natL (val xs ^ m)).length cv, .slice av' (natL (val ys ^ m)).length cv'], .bool true])) true (bl && decide ((m : Int) % 2 = 1)) (val xs ^ m) (val ys ^ m)) := by
    intro W n av av' cv cv' h1 h2 h3
    have := FRes.yes (s := (bl && decide ((m : Int) % 2 = 1))) (A := val xs ^ m) (B := val ys ^ m) (by rw [hl.2.1]; exact h1) (by rw [hl.2.2]; exact h2) h3
    rw [hl.2.1, hl.2.2, hsg] at this
    exact this
  clear hf hA hB hlow q h1 h2 hl hsg
  generalize natL (val xs ^ m) = tl at *
  generalize natL (val ys ^ m) = ul at *
  have hm0 : (0 : Int) ≤ (m : Int) := by omega
  cases bl
  · simp only [Bool.false_and] at hfin ⊢
    go_enter Tryz.func6, Tryz.ntmps6
    go_wp2_with fail
    refine O.out.mono ?_
    rintro e w1 ⟨rfl, hb1⟩
    replace K1 := K1.old hb1
    replace K2 := K2.old hb1
    have hB1 := old_trans e0 hb1
    obtain ⟨k1, ⟨k2, k3, k4⟩, -⟩ := id K1
    clear O hb1 e0
    go_wp2_with fail
    refine (N1.out _ hB1).mono ?_
    rintro e w2 ⟨⟨av, cv, rfl, hO⟩, hb2⟩
    have z1 := K2.1
    replace K1 := K1.old hb2
    replace K2 := K2.old hb2
    have hB2 := old_trans hB1 hb2
    clear k1 k2 k3 k4 hb2 N1
    obtain ⟨k1, ⟨k2, k3, k4⟩, -⟩ := id K1
    go_wp2_with fail
    refine (N2.out _ hB2).mono ?_
    rintro e w3 ⟨⟨av', cv', rfl, hO'⟩, hb3⟩
    have z2 := K2.1
    have hS := OI.sepOf hO hO' (Nat.le_refl _)
    replace hO := hO.later hb3
    replace K1 := K1.old hb3
    replace K2 := K2.old hb3
    have hB3 := old_trans hB2 hb3
    clear k1 k2 k3 k4 hb3 N2
    obtain ⟨k1, ⟨k2, k3, k4⟩, -⟩ := id K1
    obtain ⟨m1, ⟨m2, m3, m4⟩, m5, m6, m7⟩ := id K2
    have o1 := (oi_set3 (v0 := .bool false) (v1 := .slice av tl.length cv) (v2 := .slice av' ul.length cv') hO z1).mono (show w.heap.size ≤ _ from hB1.size)
    have o2 := (oi_set3 (v0 := .bool false) (v1 := .slice av tl.length cv) (v2 := .slice av' ul.length cv') hO' z2).mono (show w.heap.size ≤ _ from hB2.size)
    have hF := hd (hfin.out _ _ _ _ _ _ o1 o2 hS)
    clear hO hO' o1 o2 hfin
    go_wp2
    exact bodyPost_ret (resFracPowS (K2.setAll (.bool false) (.slice av tl.length cv) (.slice av' ul.length cv')) rfl rfl) rfl ⟨hF.out, below_set (below_set (below_set hB3 (by omega) _) (by omega) _) (by omega) _⟩
  simp only [Bool.true_and] at hfin ⊢
  by_cases hodd : (m : Int) % 2 = 1
  · simp only [decide_eq_true hodd] at hfin ⊢
    have hodt : (m : Int).tmod 2 = 1 := by rw [Int.tmod_eq_emod_of_nonneg hm0]; exact hodd
    go_enter Tryz.func6, Tryz.ntmps6
    go_wp2_with fail
    refine O.out.mono ?_
    rintro e w1 ⟨rfl, hb1⟩
    replace K1 := K1.old hb1
    replace K2 := K2.old hb1
    have hB1 := old_trans e0 hb1
    obtain ⟨k1, ⟨k2, k3, k4⟩, -⟩ := id K1
    clear O hb1 e0
    go_wp2_with fail
    refine (N1.out _ hB1).mono ?_
    rintro e w2 ⟨⟨av, cv, rfl, hO⟩, hb2⟩
    have z1 := K2.1
    replace K1 := K1.old hb2
    replace K2 := K2.old hb2
    have hB2 := old_trans hB1 hb2
    clear k1 k2 k3 k4 hb2 N1
    obtain ⟨k1, ⟨k2, k3, k4⟩, -⟩ := id K1
    go_wp2_with fail
    refine (N2.out _ hB2).mono ?_
    rintro e w3 ⟨⟨av', cv', rfl, hO'⟩, hb3⟩
    have z2 := K2.1
    have hS := OI.sepOf hO hO' (Nat.le_refl _)
    replace hO := hO.later hb3
    replace K1 := K1.old hb3
    replace K2 := K2.old hb3
    have hB3 := old_trans hB2 hb3
    clear k1 k2 k3 k4 hb3 N2
    obtain ⟨k1, ⟨k2, k3, k4⟩, -⟩ := id K1
    obtain ⟨m1, ⟨m2, m3, m4⟩, m5, m6, m7⟩ := id K2
    have o1 := (oi_set3 (v0 := .bool true) (v1 := .slice av tl.length cv) (v2 := .slice av' ul.length cv') hO z1).mono (show w.heap.size ≤ _ from hB1.size)
    have o2 := (oi_set3 (v0 := .bool true) (v1 := .slice av tl.length cv) (v2 := .slice av' ul.length cv') hO' z2).mono (show w.heap.size ≤ _ from hB2.size)
    have hF := hd (hfin.out _ _ _ _ _ _ o1 o2 hS)
    clear hO hO' o1 o2 hfin
    go_wp2
    exact bodyPost_ret (resFracPowS (K2.setAll (.bool true) (.slice av tl.length cv) (.slice av' ul.length cv')) rfl rfl) rfl ⟨hF.out, below_set (below_set (below_set hB3 (by omega) _) (by omega) _) (by omega) _⟩
  · simp only [decide_eq_false hodd] at hfin ⊢
    have hev : (m : Int) % 2 = 0 := by omega
    have hevt : (m : Int).tmod 2 = 0 := by rw [Int.tmod_eq_emod_of_nonneg hm0]; exact hev
    clear hodd
    go_enter Tryz.func6, Tryz.ntmps6
    go_wp2_with fail
    refine O.out.mono ?_
    rintro e w1 ⟨rfl, hb1⟩
    replace K1 := K1.old hb1
    replace K2 := K2.old hb1
    have hB1 := old_trans e0 hb1
    obtain ⟨k1, ⟨k2, k3, k4⟩, -⟩ := id K1
    clear O hb1 e0
    go_wp2_with fail
    refine (N1.out _ hB1).mono ?_
    rintro e w2 ⟨⟨av, cv, rfl, hO⟩, hb2⟩
    have z1 := K2.1
    replace K1 := K1.old hb2
    replace K2 := K2.old hb2
    have hB2 := old_trans hB1 hb2
    clear k1 k2 k3 k4 hb2 N1
    obtain ⟨k1, ⟨k2, k3, k4⟩, -⟩ := id K1
    go_wp2_with fail
    refine (N2.out _ hB2).mono ?_
    rintro e w3 ⟨⟨av', cv', rfl, hO'⟩, hb3⟩
    have z2 := K2.1
    have hS := OI.sepOf hO hO' (Nat.le_refl _)
    replace hO := hO.later hb3
    replace K1 := K1.old hb3
    replace K2 := K2.old hb3
    have hB3 := old_trans hB2 hb3
    clear k1 k2 k3 k4 hb3 N2
    obtain ⟨k1, ⟨k2, k3, k4⟩, -⟩ := id K1
    obtain ⟨m1, ⟨m2, m3, m4⟩, m5, m6, m7⟩ := id K2
    have o1 := (oi_set3 (v0 := .bool false) (v1 := .slice av tl.length cv) (v2 := .slice av' ul.length cv') hO z1).mono (show w.heap.size ≤ _ from hB1.size)
    have o2 := (oi_set3 (v0 := .bool false) (v1 := .slice av tl.length cv) (v2 := .slice av' ul.length cv') hO' z2).mono (show w.heap.size ≤ _ from hB2.size)
    have hF := hd (hfin.out _ _ _ _ _ _ o1 o2 hS)
    clear hO hO' o1 o2 hfin
    go_wp2
    exact bodyPost_ret (resFracPowS (K2.setAll (.bool false) (.slice av tl.length cv) (.slice av' ul.length cv')) rfl rfl) rfl ⟨hF.out, below_set (below_set (below_set hB3 (by omega) _) (by omega) _) (by omega) _⟩
theorem resPowR {W : World} {b : Nat} {v0 v1 v2 r : Value} {tmps : Array Value} (h : Cel3 W b v0 v1 v2) (ht : tmps[4]? = some (.pointer (some ⟨b, 0, none⟩))) (h3 : tmps[5]? = some r) : (results Tryz.f20 tmps).run Tryz.prog W = .ok (.tuple #[.agg #[v0, v1, v2], r]) W := by
  obtain ⟨h1, ⟨a0, a1, a2⟩, -⟩ := h
  simp [results, Tryz.results20, go_sem, a0, a1, a2, ht, h3]
set_option maxHeartbeats 8000000 in
theorem iPowR (bl : Bool) (a b : Option Addr) (la lb ca cb : Nat) (xs ys : List Int) (n : Int) (w : World) (hA : InI w a la ca xs) (hB : InI w b lb cb ys) (hf : fracOk bl xs ys = true) :
    Calls Tryz.prog 20 #[.agg #[.bool bl, .slice a la ca, .slice b lb cb], .int .i64 n] w fun e w' => RRO w' w.heap.size e (pwOk xs ys n) (bl && decide (n % 2 = 1)) (val xs ^ n.toNat) (val ys ^ n.toNat) ∧ Below w.heap.size w w' := by
  have e0 : Below w.heap.size w ((w.alloc (.cells #[.bool bl, .slice a la ca, .slice b lb cb] 45)).alloc (.cells #[.bool false, .slice none 0 0, .slice none 0 0] 45)) := (by repeat (first | exact Below.refl _ _ | refine Below.drew ?_ | refine old_alloc ?_ _ | refine old_trans ?_ (by assumption)))
  have K1 := (Cel3.new w (.bool bl) (.slice a la ca) (.slice b lb cb) 45).old (old_alloc (Below.refl _ _) (.cells #[.bool false, .slice none 0 0, .slice none 0 0] 45))
  have K2 := Cel3.new (w.alloc (.cells #[.bool bl, .slice a la ca, .slice b lb cb] 45)) (.bool false) (.slice none 0 0) (.slice none 0 0) 45
  simp only [World.size_alloc] at K2
  have q := fracOk_in hf
  have N1 := hd (iNatPow a la ca xs n _ (hA.old e0))
  have N2 := hd (fun w' (h : Below w.heap.size w w') => iNatPow b lb cb ys n w' (hB.old h))
  clear hA hB q hf
  unfold pwOk
  cases h1 : powB xs n
  · rw [h1] at N1
    simp only [show ∀ v, resN false v = [] from fun _ => rfl, List.length_nil] at N1
    show Calls _ _ _ _ fun e w' => RRO w' w.heap.size e (false) (bl && decide (n % 2 = 1)) (val xs ^ n.toNat) (val ys ^ n.toNat) ∧ Below w.heap.size w w'
    unfold RRO
    generalize powB ys n = x2 at *
    generalize resN x2 (val ys ^ n.toNat) = ul at *
    clear h1
    go_enter Tryz.func20, Tryz.ntmps20
    go_wp2_with fail
    refine N1.out.mono ?_
    rintro e w1 ⟨⟨av, cv, rfl, hO⟩, hb1⟩
    have z1 := K2.1
    replace K1 := K1.old hb1
    replace K2 := K2.old hb1
    have hB1 := old_trans e0 hb1
    obtain ⟨k1, ⟨k2, k3, k4⟩, -⟩ := id K1
    clear N1 hb1
    go_wp2_with fail
    refine (N2.out _ hB1).mono ?_
    rintro e w2 ⟨⟨av', cv', rfl, hO'⟩, hb2⟩
    have z2 := K2.1
    replace hO := hO.later hb2
    replace K1 := K1.old hb2
    replace K2 := K2.old hb2
    have hB2 := old_trans hB1 hb2
    clear k1 k2 k3 k4 hb2 N2
    obtain ⟨k1, ⟨k2, k3, k4⟩, -⟩ := id K1
    obtain ⟨m1, ⟨m2, m3, m4⟩, m5, m6, m7⟩ := id K2
    clear hO hO'
    go_wp2
    exact bodyPost_ret (resPowR (K2.setAll (.bool false) (.slice none 0 0) (.slice none 0 0)) rfl rfl) rfl ⟨.inr ⟨by trivial, _, rfl⟩, below_set (below_set (below_set hB2 (by omega) _) (by omega) _) (by omega) _⟩
  rw [h1] at N1
  simp only [show ∀ v, resN true v = natL v from fun _ => rfl] at N1
  cases h2 : powB ys n
  · rw [h2] at N2
    simp only [show ∀ v, resN false v = [] from fun _ => rfl, List.length_nil] at N2
    show Calls _ _ _ _ fun e w' => RRO w' w.heap.size e (false) (bl && decide (n % 2 = 1)) (val xs ^ n.toNat) (val ys ^ n.toNat) ∧ Below w.heap.size w w'
    unfold RRO
    generalize natL (val xs ^ n.toNat) = tl at *
    clear h1 h2
    go_enter Tryz.func20, Tryz.ntmps20
    go_wp2_with fail
    refine N1.out.mono ?_
    rintro e w1 ⟨⟨av, cv, rfl, hO⟩, hb1⟩
    have z1 := K2.1
    replace K1 := K1.old hb1
    replace K2 := K2.old hb1
    have hB1 := old_trans e0 hb1
    obtain ⟨k1, ⟨k2, k3, k4⟩, -⟩ := id K1
    clear N1 hb1
    go_wp2_with fail
    refine (N2.out _ hB1).mono ?_
    rintro e w2 ⟨⟨av', cv', rfl, hO'⟩, hb2⟩
    have z2 := K2.1
    replace hO := hO.later hb2
    replace K1 := K1.old hb2
    replace K2 := K2.old hb2
    have hB2 := old_trans hB1 hb2
    clear k1 k2 k3 k4 hb2 N2
    obtain ⟨k1, ⟨k2, k3, k4⟩, -⟩ := id K1
    obtain ⟨m1, ⟨m2, m3, m4⟩, m5, m6, m7⟩ := id K2
    clear hO hO'
    go_wp2
    exact bodyPost_ret (resPowR (K2.setAll (.bool false) (.slice none 0 0) (.slice none 0 0)) rfl rfl) rfl ⟨.inr ⟨by trivial, _, rfl⟩, below_set (below_set (below_set hB2 (by omega) _) (by omega) _) (by omega) _⟩
  rw [h2] at N2
  simp only [show ∀ v, resN true v = natL v from fun _ => rfl] at N2
  have hn := powB_rng h1
  obtain ⟨m, rfl⟩ := Int.eq_ofNat_of_zero_le hn.1
  simp only [Int.toNat_natCast] at N1 N2 ⊢
  clear h1 h2
  show Calls _ _ _ _ fun e w' => RRO w' w.heap.size e (true) (bl && decide ((m : Int) % 2 = 1)) (val xs ^ m) (val ys ^ m) ∧ Below w.heap.size w w'
  unfold RRO
  generalize natL (val xs ^ m) = tl at *
  generalize natL (val ys ^ m) = ul at *
  have hm0 : (0 : Int) ≤ (m : Int) := by omega
  cases bl
  · simp only [Bool.false_and]
    go_enter Tryz.func20, Tryz.ntmps20
    go_wp2_with fail
    refine N1.out.mono ?_
    rintro e w1 ⟨⟨av, cv, rfl, hO⟩, hb1⟩
    have z1 := K2.1
    replace K1 := K1.old hb1
    replace K2 := K2.old hb1
    have hB1 := old_trans e0 hb1
    obtain ⟨k1, ⟨k2, k3, k4⟩, -⟩ := id K1
    clear N1 hb1
    go_wp2_with fail
    refine (N2.out _ hB1).mono ?_
    rintro e w2 ⟨⟨av', cv', rfl, hO'⟩, hb2⟩
    have z2 := K2.1
    replace hO := hO.later hb2
    replace K1 := K1.old hb2
    replace K2 := K2.old hb2
    have hB2 := old_trans hB1 hb2
    clear k1 k2 k3 k4 hb2 N2
    obtain ⟨k1, ⟨k2, k3, k4⟩, -⟩ := id K1
    obtain ⟨m1, ⟨m2, m3, m4⟩, m5, m6, m7⟩ := id K2
    have o1 := (oi_set3 (v0 := .bool false) (v1 := .slice av tl.length cv) (v2 := .slice av' ul.length cv') hO z1).mono (show w.heap.size ≤ _ from e0.size)
    have o2 := (oi_set3 (v0 := .bool false) (v1 := .slice av tl.length cv) (v2 := .slice av' ul.length cv') hO' z2).mono (show w.heap.size ≤ _ from hB1.size)
    clear hO hO'
    go_wp2
    exact bodyPost_ret (resPowR (K2.setAll (.bool false) (.slice av tl.length cv) (.slice av' ul.length cv')) rfl rfl) rfl ⟨.inl ⟨by trivial, _, _, _, _, rfl, o1, o2⟩, below_set (below_set (below_set hB2 (by omega) _) (by omega) _) (by omega) _⟩
  simp only [Bool.true_and]
  by_cases hodd : (m : Int) % 2 = 1
  · simp only [decide_eq_true hodd]
    have hodt : (m : Int).tmod 2 = 1 := by rw [Int.tmod_eq_emod_of_nonneg hm0]; exact hodd
    go_enter Tryz.func20, Tryz.ntmps20
    go_wp2_with fail
    refine N1.out.mono ?_
    rintro e w1 ⟨⟨av, cv, rfl, hO⟩, hb1⟩
    have z1 := K2.1
    replace K1 := K1.old hb1
    replace K2 := K2.old hb1
    have hB1 := old_trans e0 hb1
    obtain ⟨k1, ⟨k2, k3, k4⟩, -⟩ := id K1
    clear N1 hb1
    go_wp2_with fail
    refine (N2.out _ hB1).mono ?_
    rintro e w2 ⟨⟨av', cv', rfl, hO'⟩, hb2⟩
    have z2 := K2.1
    replace hO := hO.later hb2
    replace K1 := K1.old hb2
    replace K2 := K2.old hb2
    have hB2 := old_trans hB1 hb2
    clear k1 k2 k3 k4 hb2 N2
    obtain ⟨k1, ⟨k2, k3, k4⟩, -⟩ := id K1
    obtain ⟨m1, ⟨m2, m3, m4⟩, m5, m6, m7⟩ := id K2
    have o1 := (oi_set3 (v0 := .bool true) (v1 := .slice av tl.length cv) (v2 := .slice av' ul.length cv') hO z1).mono (show w.heap.size ≤ _ from e0.size)
    have o2 := (oi_set3 (v0 := .bool true) (v1 := .slice av tl.length cv) (v2 := .slice av' ul.length cv') hO' z2).mono (show w.heap.size ≤ _ from hB1.size)
    clear hO hO'
    go_wp2
    exact bodyPost_ret (resPowR (K2.setAll (.bool true) (.slice av tl.length cv) (.slice av' ul.length cv')) rfl rfl) rfl ⟨.inl ⟨by trivial, _, _, _, _, rfl, o1, o2⟩, below_set (below_set (below_set hB2 (by omega) _) (by omega) _) (by omega) _⟩
  · simp only [decide_eq_false hodd]
    have hev : (m : Int) % 2 = 0 := by omega
    have hevt : (m : Int).tmod 2 = 0 := by rw [Int.tmod_eq_emod_of_nonneg hm0]; exact hev
    clear hodd
    go_enter Tryz.func20, Tryz.ntmps20
    go_wp2_with fail
    refine N1.out.mono ?_
    rintro e w1 ⟨⟨av, cv, rfl, hO⟩, hb1⟩
    have z1 := K2.1
    replace K1 := K1.old hb1
    replace K2 := K2.old hb1
    have hB1 := old_trans e0 hb1
    obtain ⟨k1, ⟨k2, k3, k4⟩, -⟩ := id K1
    clear N1 hb1
    go_wp2_with fail
    refine (N2.out _ hB1).mono ?_
    rintro e w2 ⟨⟨av', cv', rfl, hO'⟩, hb2⟩
    have z2 := K2.1
    replace hO := hO.later hb2
    replace K1 := K1.old hb2
    replace K2 := K2.old hb2
    have hB2 := old_trans hB1 hb2
    clear k1 k2 k3 k4 hb2 N2
    obtain ⟨k1, ⟨k2, k3, k4⟩, -⟩ := id K1
    obtain ⟨m1, ⟨m2, m3, m4⟩, m5, m6, m7⟩ := id K2
    have o1 := (oi_set3 (v0 := .bool false) (v1 := .slice av tl.length cv) (v2 := .slice av' ul.length cv') hO z1).mono (show w.heap.size ≤ _ from e0.size)
    have o2 := (oi_set3 (v0 := .bool false) (v1 := .slice av tl.length cv) (v2 := .slice av' ul.length cv') hO' z2).mono (show w.heap.size ≤ _ from hB1.size)
    clear hO hO'
    go_wp2
    exact bodyPost_ret (resPowR (K2.setAll (.bool false) (.slice av tl.length cv) (.slice av' ul.length cv')) rfl rfl) rfl ⟨.inl ⟨by trivial, _, _, _, _, rfl, o1, o2⟩, below_set (below_set (below_set hB2 (by omega) _) (by omega) _) (by omega) _⟩
theorem resPow1 {W : World} {b : Nat} {v0 v1 v2 r : Value} {tmps : Array Value} (h : Cel3 W b v0 v1 v2) (ht : tmps[3]? = some (.pointer (some ⟨b, 0, none⟩))) (h3 : tmps[4]? = some r) : (results Tryz.f19 tmps).run Tryz.prog W = .ok (.tuple #[.agg #[v0, v1, v2], r]) W := by
  obtain ⟨h1, ⟨a0, a1, a2⟩, -⟩ := h
  simp [results, Tryz.results19, go_sem, a0, a1, a2, ht, h3]
set_option maxHeartbeats 4000000 in
theorem iPow1 (bl : Bool) (a b : Option Addr) (la lb ca cb : Nat) (xs ys : List Int) (n : Int) (w : World) (hA : InI w a la ca xs) (hB : InI w b lb cb ys) (hf : fracOk bl xs ys = true) (nb : Nat) (hc : w.cell? ⟨nb, 0, none⟩ = some (.int .i64 n)) :
    Calls Tryz.prog 19 (#[.agg #[.bool bl, .slice a la ca, .slice b lb cb]] ++ #[.pointer (some ⟨nb, 0, none⟩)]) w fun e w' => RRO w' w.heap.size e (pwOk xs ys n) (bl && decide (n % 2 = 1)) (val xs ^ n.toNat) (val ys ^ n.toNat) ∧ Below w.heap.size w w' := by
  have e0 : Below w.heap.size w ((w.alloc (.cells #[.bool bl, .slice a la ca, .slice b lb cb] 45)).alloc (.cells #[.bool false, .slice none 0 0, .slice none 0 0] 45)) := (by repeat (first | exact Below.refl _ _ | refine Below.drew ?_ | refine old_alloc ?_ _ | refine old_trans ?_ (by assumption)))
  have K1 := (Cel3.new w (.bool bl) (.slice a la ca) (.slice b lb cb) 45).old (old_alloc (Below.refl _ _) (.cells #[.bool false, .slice none 0 0, .slice none 0 0] 45))
  have K2 := Cel3.new (w.alloc (.cells #[.bool bl, .slice a la ca, .slice b lb cb] 45)) (.bool false) (.slice none 0 0) (.slice none 0 0) 45
  simp only [World.size_alloc] at K2
  have hc2 := (e0.cell (p := ⟨nb, 0, none⟩) (World.block_lt_of_cell? _ _ hc)).trans hc
  have PR := hd (iPowR bl a b la lb ca cb xs ys n _ (hA.old e0) (hB.old e0) hf)
  clear hA hB hf hc
  generalize pwOk xs ys n = okk at *
  generalize (bl && decide (n % 2 = 1)) = sq at *
  generalize val xs ^ n.toNat = N at *
  generalize val ys ^ n.toNat = M at *
  have hs0 := K2.1
  obtain ⟨k1, ⟨k2, k3, k4⟩, -⟩ := id K1
  go_enter Tryz.func19, Tryz.ntmps19
  go_wp2_with fail
  refine PR.out.mono ?_
  rintro e w1 ⟨he, hb1⟩
  replace K2 := K2.old hb1
  have hB1 := old_trans e0 hb1
  clear K1 k1 k2 k3 k4 hc2 PR
  rcases he with ⟨hr, a1, c1, a2, c2, rfl, o1, o2⟩ | ⟨hr, f, rfl⟩
  · obtain ⟨m1, ⟨m2, m3, m4⟩, m5, m6, m7⟩ := id K2
    have p1 := (oi_set3 (v0 := .bool sq) (v1 := .slice a1 (natL N).length c1) (v2 := .slice a2 (natL M).length c2) o1 hs0).mono (show w.heap.size ≤ _ from e0.size)
    have p2 := (oi_set3 (v0 := .bool sq) (v1 := .slice a1 (natL N).length c1) (v2 := .slice a2 (natL M).length c2) o2 hs0).mono (show w.heap.size ≤ _ from e0.size)
    clear o1 o2 hb1
    go_wp2
    exact bodyPost_ret (resPow1 (K2.setAll (.bool sq) (.slice a1 (natL N).length c1) (.slice a2 (natL M).length c2)) rfl rfl) rfl ⟨.inl ⟨hr, _, _, _, _, rfl, p1, p2⟩, below_set (below_set (below_set hB1 (by omega) _) (by omega) _) (by omega) _⟩
  · obtain ⟨m1, ⟨m2, m3, m4⟩, m5, m6, m7⟩ := id K2
    clear hb1
    go_wp2
    exact bodyPost_ret (resPow1 (K2.setAll (.bool false) (.slice none 0 0) (.slice none 0 0)) rfl rfl) rfl ⟨.inr ⟨hr, _, rfl⟩, below_set (below_set (below_set hB1 (by omega) _) (by omega) _) (by omega) _⟩
theorem resFracPow {W : World} {b : Nat} {v0 v1 v2 r : Value} {tmps : Array Value} (h : Cel3 W b v0 v1 v2) (ht : tmps[4]? = some (.pointer (some ⟨b, 0, none⟩))) (h3 : tmps[5]? = some r) : (results Tryz.f8 tmps).run Tryz.prog W = .ok (.tuple #[.agg #[v0, v1, v2], r]) W := by
  obtain ⟨h1, ⟨a0, a1, a2⟩, -⟩ := h
  simp [results, Tryz.results8, go_sem, a0, a1, a2, ht, h3]
set_option maxHeartbeats 4000000 in
theorem iFracPow (bl : Bool) (a b : Option Addr) (la lb ca cb : Nat) (xs ys : List Int) (n : Int) (w : World) (hA : InI w a la ca xs) (hB : InI w b lb cb ys) (hT : Tab w) (hE : ET w) :
    Calls Tryz.prog 8 #[.agg #[.bool bl, .slice a la ca, .slice b lb cb], .int .i64 n] w fun e w' => FRes w' w.heap.size e (fracOk bl xs ys && (pwOk xs ys n && lowB (val xs ^ n.toNat) (val ys ^ n.toNat))) (bl && decide (n % 2 = 1)) (val xs ^ n.toNat) (val ys ^ n.toNat) ∧ Below w.heap.size w w' := by
  have e0 : Below w.heap.size w (((w.alloc (.cells #[.bool bl, .slice a la ca, .slice b lb cb] 26)).alloc (.cells #[.int .i64 n] 3)).alloc (.cells #[.bool false, .slice none 0 0, .slice none 0 0] 26)) := (by repeat (first | exact Below.refl _ _ | refine Below.drew ?_ | refine old_alloc ?_ _ | refine old_trans ?_ (by assumption)))
  have K2 := Cel3.new ((w.alloc (.cells #[.bool bl, .slice a la ca, .slice b lb cb] 26)).alloc (.cells #[.int .i64 n] 3)) (.bool false) (.slice none 0 0) (.slice none 0 0) 26
  simp only [World.size_alloc] at K2
  have hnc : (((w.alloc (.cells #[.bool bl, .slice a la ca, .slice b lb cb] 26)).alloc (.cells #[.int .i64 n] 3)).alloc (.cells #[.bool false, .slice none 0 0, .slice none 0 0] 26)).cell? ⟨w.heap.size + 1, 0, none⟩ = some (.int .i64 n) := by simp [go_sem]
  have hnb : (⟨w.heap.size + 1, 0, none⟩ : Addr).block < (((w.alloc (.cells #[.bool bl, .slice a la ca, .slice b lb cb] 26)).alloc (.cells #[.int .i64 n] 3)).alloc (.cells #[.bool false, .slice none 0 0, .slice none 0 0] 26)).heap.size := by simp
  have O : Hid (Calls Tryz.prog 18 #[.agg #[.bool bl, .slice a la ca, .slice b lb cb], .func (.func 19) #[] #[.pointer (some ⟨w.heap.size + 1, 0, none⟩)]] (((w.alloc (.cells #[.bool bl, .slice a la ca, .slice b lb cb] 26)).alloc (.cells #[.int .i64 n] 3)).alloc (.cells #[.bool false, .slice none 0 0, .slice none 0 0] 26)) fun e w' => FRes w' (((w.alloc (.cells #[.bool bl, .slice a la ca, .slice b lb cb] 26)).alloc (.cells #[.int .i64 n] 3)).alloc (.cells #[.bool false, .slice none 0 0, .slice none 0 0] 26)).heap.size e (fracOk bl xs ys && (pwOk xs ys n && lowB (val xs ^ n.toNat) (val ys ^ n.toNat))) (bl && decide (n % 2 = 1)) (val xs ^ n.toNat) (val ys ^ n.toNat) ∧ Below (((w.alloc (.cells #[.bool bl, .slice a la ca, .slice b lb cb] 26)).alloc (.cells #[.int .i64 n] 3)).alloc (.cells #[.bool false, .slice none 0 0, .slice none 0 0] 26)).heap.size (((w.alloc (.cells #[.bool bl, .slice a la ca, .slice b lb cb] 26)).alloc (.cells #[.int .i64 n] 3)).alloc (.cells #[.bool false, .slice none 0 0, .slice none 0 0] 26)) w') := by
    show Calls _ _ _ _ _
    cases hf : fracOk bl xs ys
    · have h := iOfOne 19 #[.pointer (some ⟨w.heap.size + 1, 0, none⟩)] bl a b la lb ca cb xs ys _ (hA.old e0) (hB.old e0) (hT.old e0) (hE.old e0) (enters_of Tryz.func19 (by kernel_rfl) rfl) true false 0 0 (by rw [natL_zero]; simp) (by rw [natL_zero]; simp) (fun h => by rw [hf] at h; cases h)
      rw [hf] at h
      refine h.mono ?_
      rintro e w' ⟨h1, h2⟩
      exact ⟨FRes.any h1, h2⟩
    · cases hk : pwOk xs ys n
      · have h := iOfOne 19 #[.pointer (some ⟨w.heap.size + 1, 0, none⟩)] bl a b la lb ca cb xs ys _ (hA.old e0) (hB.old e0) (hT.old e0) (hE.old e0) (enters_of Tryz.func19 (by kernel_rfl) rfl) false false 0 0 (by rw [natL_zero]; simp) (by rw [natL_zero]; simp) (fun hf W hW => (iPow1 bl a b la lb ca cb xs ys n W ((hA.old e0).old hW) ((hB.old e0).old hW) hf _ ((hW.cell (p := ⟨w.heap.size + 1, 0, none⟩) hnb).trans hnc)).mono (fun e W' (k : _ ∧ _) => (⟨RRes.none (by have h9 := k.1.res; rw [hk] at h9; exact h9), k.2⟩ : _ ∧ _)))
        rw [hf] at h
        refine h.mono ?_
        rintro e w' ⟨h1, h2⟩
        exact ⟨FRes.any h1, h2⟩
      · have hl := pw_low hf (pwOk_in hk).1 (pwOk_in hk).2
        have h := iOfOne 19 #[.pointer (some ⟨w.heap.size + 1, 0, none⟩)] bl a b la lb ca cb xs ys _ (hA.old e0) (hB.old e0) (hT.old e0) (hE.old e0) (enters_of Tryz.func19 (by kernel_rfl) rfl) true (bl && decide (n % 2 = 1)) (val xs ^ n.toNat) (val ys ^ n.toNat) (Nat.le_trans hl.2.1 (by omega)) (Nat.le_trans hl.2.2 (by omega)) (fun hf W hW => (iPow1 bl a b la lb ca cb xs ys n W ((hA.old e0).old hW) ((hB.old e0).old hW) hf _ ((hW.cell (p := ⟨w.heap.size + 1, 0, none⟩) hnb).trans hnc)).mono (fun e W' (k : _ ∧ _) => (⟨by have h9 := k.1.res; rw [hk] at h9; exact h9, k.2⟩ : _ ∧ _)))
        rw [hf] at h
        exact h
  clear hA hB hT hE hnc hnb
  generalize (fracOk bl xs ys && (pwOk xs ys n && lowB (val xs ^ n.toNat) (val ys ^ n.toNat))) = okk at *
  generalize val xs ^ n.toNat = N at *
  generalize val ys ^ n.toNat = M at *
  generalize (bl && decide (n % 2 = 1)) = sq at *
  go_enter Tryz.func8, Tryz.ntmps8
  go_wp2_with fail
  refine O.out.mono ?_
  rintro e w1 ⟨⟨av, cv, av', cv', rfl, hO, hO', hS⟩, hb1⟩
  have hs0 := K2.1
  replace K2 := K2.old hb1
  have hB1 := old_trans e0 hb1
  obtain ⟨m1, ⟨m2, m3, m4⟩, m5, m6, m7⟩ := id K2
  have hfin := hd (FRes.put (w' := w1) (s := (sq)) (base := w.heap.size) hO hO' hS (show w.heap.size ≤ (((w.alloc (.cells #[.bool bl, .slice a la ca, .slice b lb cb] 26)).alloc (.cells #[.int .i64 n] 3)).alloc (.cells #[.bool false, .slice none 0 0, .slice none 0 0] 26)).heap.size by simp; omega) (show w.heap.size + 2 < _ from hs0))
  have hK := K2.setAll (.bool (fS okk (sq) N)) (.slice av (fT okk N M).length cv) (.slice av' (fU okk N M).length cv')
  have hBF := below_set (below_set (below_set hB1 (show w.heap.size ≤ w.heap.size + 2 by omega) (i := 0) (.bool (fS okk (sq) N))) (show w.heap.size ≤ w.heap.size + 2 by omega) (i := 1) (.slice av (fT okk N M).length cv)) (show w.heap.size ≤ w.heap.size + 2 by omega) (i := 2) (.slice av' (fU okk N M).length cv')
  clear hO hO' hS hb1 O e0 hs0
  generalize hsg : fS okk (sq) N = sg at *
  go_wp2
  exact bodyPost_ret (resFracPow hK rfl rfl) rfl ⟨hfin.out, hBF⟩
end Go.Proofs.YtmbagnjicollgaaGreatDoor
