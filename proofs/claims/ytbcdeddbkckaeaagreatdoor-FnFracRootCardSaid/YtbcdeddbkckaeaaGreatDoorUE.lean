/- Roots of fractions: by the program and by the specification. Conditions, of the program: the library's table and its handle of errors hold what their texts lay. -/
import Derived.Test.YtbcdeddbkckaeaaGreatDoorFN
import Derived.Test.YtbcdeddbkckaeaaGreatDoorBV
import Derived.Test.YtbcdeddbkckaeaaGreatDoorBC
namespace Go.Proofs.YtbcdeddbkckaeaaGreatDoor
open Go.RowKit
set_option linter.unusedVariables false
set_option maxRecDepth 100000

theorem low_cop {A B : Nat} (h : Nat.gcd A B = 1) (h0 : B ≠ 0) (h1 : (natL A).length ≤ 256) (h2 : (natL B).length ≤ 256) : lowB A B = true ∧ lowT A B = natL A ∧ lowU A B = natL B := by
  have e1 : lowT A B = natL A := by unfold lowT; rw [h, Nat.div_one]
  have e2 : lowU A B = natL B := by unfold lowU; rw [h, Nat.div_one]
  exact ⟨lowB_mk h0 (by rw [e1]; exact h1) (by rw [e2]; exact h2), e1, e2⟩
theorem val_ne {ys : List Int} (h : natOk ys = true) (h0 : ys.length ≠ 0) : val ys ≠ 0 := by
  intro e
  have eB := natOk_canon h
  rw [e, natL_zero] at eB
  exact h0 (by rw [← eB]; rfl)
/-- what a rule answers with, in new memory -/
def RRO (w : World) (base : Nat) (e : Ending) (ok s : Bool) (A B : Nat) : Prop := (ok = true ∧ ∃ a1 c1 a2 c2, e = .returned (.tuple #[.agg #[.bool s, .slice a1 (natL A).length c1, .slice a2 (natL B).length c2], .nilIface]) ∧ OI w base a1 c1 (natL A) ∧ OI w base a2 c2 (natL B)) ∨ (ok = false ∧ ∃ f, e = .returned (.tuple #[.agg #[.bool false, .slice none 0 0, .slice none 0 0], .iface 79 (.agg #[.string f])]))
theorem RRO.res {w : World} {base : Nat} {e : Ending} {ok s : Bool} {A B : Nat} (h : RRO w base e ok s A B) : RRes w e ok s A B := by
  rcases h with ⟨h1, a1, c1, a2, c2, h2, h3, h4⟩ | h
  · exact .inl ⟨h1, a1, c1, a2, c2, h2, h3.inI, h4.inI⟩
  · exact .inr h
theorem RRes.none {w : World} {e : Ending} {s s' : Bool} {A B A' B' : Nat} (h : RRes w e false s A B) : RRes w e false s' A' B' := by
  rcases h with ⟨h1, _⟩ | h
  · cases h1
  · exact .inr h
def rtOk (bl : Bool) (xs ys : List Int) (r s : Nat) : Bool := !bl && (rootX xs r && rootX ys s)
theorem rt_low {bl : Bool} {xs ys : List Int} {r s : Nat} (hf : fracOk bl xs ys = true) (h1 : rootX xs r = true) (h2 : rootX ys s = true) : (lowB r s = true ∧ lowT r s = natL r ∧ lowU r s = natL s) ∧ (natL r).length ≤ 256 ∧ (natL s).length ≤ 256 := by
  have q := fracOk_in hf
  unfold rootX at h1 h2
  simp only [Bool.and_eq_true, decide_eq_true_eq] at h1 h2
  have hv := val_ne q.2.1 q.2.2.1
  have hg : Nat.gcd r s = 1 := by
    have hd1 : Nat.gcd r s ∣ Nat.gcd (val xs) (val ys) := Nat.dvd_gcd (by rw [← h1.2]; exact Nat.dvd_trans (Nat.gcd_dvd_left r s) (Nat.dvd_mul_right r r)) (by rw [← h2.2]; exact Nat.dvd_trans (Nat.gcd_dvd_right r s) (Nat.dvd_mul_right s s))
    rw [q.2.2.2.1] at hd1
    exact Nat.dvd_one.mp hd1
  have l1 : (natL r).length ≤ 256 := root_len (A := val xs) (by rw [← h1.2]; exact sq_ge) (natOk_lt q.1)
  have l2 : (natL s).length ≤ 256 := root_len (A := val ys) (by rw [← h2.2]; exact sq_ge) (natOk_lt q.2.1)
  exact ⟨low_cop hg (by intro e; subst e; exact hv (by rw [← h2.2])) l1 l2, l1, l2⟩
theorem rtOk_in {bl : Bool} {xs ys : List Int} {r s : Nat} (h : rtOk bl xs ys r s = true) : rootX xs r = true ∧ rootX ys s = true := by
  unfold rtOk at h
  simp only [Bool.and_eq_true] at h
  exact h.2
theorem resFracRootS {W : World} {b : Nat} {v0 v1 v2 r : Value} {tmps : Array Value} (h : Cel3 W b v0 v1 v2) (ht : tmps[2]? = some (.pointer (some ⟨b, 0, none⟩))) (h3 : tmps[3]? = some r) : (results Tryz.f6 tmps).run Tryz.prog W = .ok (.tuple #[.agg #[v0, v1, v2], r]) W := by
  obtain ⟨h1, ⟨a0, a1, a2⟩, -⟩ := h
  simp [results, Tryz.results6, go_sem, a0, a1, a2, ht, h3]
set_option maxHeartbeats 8000000 in
theorem sFracRoot (bl : Bool) (a b : Option Addr) (la lb ca cb : Nat) (xs ys : List Int) (r s : Nat) (hr : isRoot (val xs) r) (hs : isRoot (val ys) s) (w : World) (hA : InI w a la ca xs) (hB : InI w b lb cb ys) :
    Calls Tryz.prog 6 #[.agg #[.bool bl, .slice a la ca, .slice b lb cb]] w fun e w' => FRes w' w.heap.size e (fracOk bl xs ys && (rtOk bl xs ys r s && lowB (r) (s))) (false) (r) (s) ∧ Below w.heap.size w w' := by
  have e0 : Below w.heap.size w ((w.alloc (.cells #[.bool bl, .slice a la ca, .slice b lb cb] 26)).alloc (.cells #[.bool false, .slice none 0 0, .slice none 0 0] 26)) := (by repeat (first | exact Below.refl _ _ | refine Below.drew ?_ | refine old_alloc ?_ _ | refine old_trans ?_ (by assumption)))
  have K1 := (Cel3.new w (.bool bl) (.slice a la ca) (.slice b lb cb) 26).old (old_alloc (Below.refl _ _) (.cells #[.bool false, .slice none 0 0, .slice none 0 0] 26))
  have K2 := Cel3.new (w.alloc (.cells #[.bool bl, .slice a la ca, .slice b lb cb] 26)) (.bool false) (.slice none 0 0) (.slice none 0 0) 26
  simp only [World.size_alloc] at K2
  have O := hd (sFracOk bl a b la lb ca cb xs ys _ (hA.old e0) (hB.old e0))
  cases hf : fracOk bl xs ys
  · rw [hf] at O
    show Calls _ _ _ _ fun e w' => FRes w' w.heap.size e (false) (false) (r) (s) ∧ Below w.heap.size w w'
    clear hf hA hB
    go_enter Tryz.func6, Tryz.ntmps6
    go_wp2_with fail
    refine O.out.mono ?_
    rintro e w1 ⟨rfl, hb1⟩
    replace K1 := K1.old hb1
    replace K2 := K2.old hb1
    have hB1 := old_trans e0 hb1
    obtain ⟨k1, ⟨k2, k3, k4⟩, -⟩ := id K1
    obtain ⟨m1, ⟨m2, m3, m4⟩, m5, m6, m7⟩ := id K2
    go_wp2
    exact bodyPost_ret (resFracRootS (K2.setAll (.bool false) (.slice none 0 0) (.slice none 0 0)) rfl rfl) rfl ⟨FRes.no _ _ _ _ _, below_set (below_set (below_set hB1 (by omega) _) (by omega) _) (by omega) _⟩
  rw [hf] at O
  cases bl
  rotate_left
  · show Calls _ _ _ _ fun e w' => FRes w' w.heap.size e (false) (false) (r) (s) ∧ Below w.heap.size w w'
    clear hf hA hB
    go_enter Tryz.func6, Tryz.ntmps6
    go_wp2_with fail
    refine O.out.mono ?_
    rintro e w1 ⟨rfl, hb1⟩
    replace K1 := K1.old hb1
    replace K2 := K2.old hb1
    have hB1 := old_trans e0 hb1
    obtain ⟨k1, ⟨k2, k3, k4⟩, -⟩ := id K1
    obtain ⟨m1, ⟨m2, m3, m4⟩, m5, m6, m7⟩ := id K2
    go_wp2
    exact bodyPost_ret (resFracRootS (K2.setAll (.bool false) (.slice none 0 0) (.slice none 0 0)) rfl rfl) rfl ⟨FRes.no _ _ _ _ _, below_set (below_set (below_set hB1 (by omega) _) (by omega) _) (by omega) _⟩
  have q := fracOk_in hf
  have hlow := hd (fun (h1 : rootX xs r = true) (h2 : rootX ys s = true) => rt_low hf h1 h2)
  have N1 := hd (fun w' (h : Below w.heap.size w w') => sNatRoot a la ca xs r hr w' (hA.old h))
  have N2 := hd (fun w' (h : Below w.heap.size w w') => sNatRoot b lb cb ys s hs w' (hB.old h))
  simp only [q.1, q.2.1, show ∀ v, resN true v = natL v from fun _ => rfl] at N1 N2
  show Calls _ _ _ _ fun e w' => FRes w' w.heap.size e ((rootX xs r && rootX ys s) && lowB (r) (s)) (false) (r) (s) ∧ Below w.heap.size w w'
  cases h1 : rootX xs r
  · rw [h1] at N1
    show Calls _ _ _ _ fun e w' => FRes w' w.heap.size e (false) (false) (r) (s) ∧ Below w.heap.size w w'
    clear hf hA hB hlow q h1
    generalize rootX ys s = x2 at *
    generalize natL (r) = tl at *
    generalize natL (s) = ul at *
    go_enter Tryz.func6, Tryz.ntmps6
    go_wp2_with fail
    refine O.out.mono ?_
    rintro e w1 ⟨rfl, hb1⟩
    replace K1 := K1.old hb1
    replace K2 := K2.old hb1
    have hB1 := old_trans e0 hb1
    obtain ⟨k1, ⟨k2, k3, k4⟩, -⟩ := id K1
    clear O hb1 e0
    go_wp2_with fail
    refine (N1.out _ hB1).mono ?_
    rintro e w2 ⟨⟨av, cv, rfl, hO⟩, hb2⟩
    have z1 := K2.1
    replace K1 := K1.old hb2
    replace K2 := K2.old hb2
    have hB2 := old_trans hB1 hb2
    clear k1 k2 k3 k4 hb2 N1
    obtain ⟨k1, ⟨k2, k3, k4⟩, -⟩ := id K1
    go_wp2_with fail
    refine (N2.out _ hB2).mono ?_
    rintro e w3 ⟨⟨av', cv', rfl, hO'⟩, hb3⟩
    have z2 := K2.1
    have hS := OI.sepOf hO hO' (Nat.le_refl _)
    replace hO := hO.later hb3
    replace K1 := K1.old hb3
    replace K2 := K2.old hb3
    have hB3 := old_trans hB2 hb3
    clear k1 k2 k3 k4 hb3 N2
    obtain ⟨k1, ⟨k2, k3, k4⟩, -⟩ := id K1
    obtain ⟨m1, ⟨m2, m3, m4⟩, m5, m6, m7⟩ := id K2
    clear hO hO'
    go_wp2
    exact bodyPost_ret (resFracRootS (K2.setAll (.bool false) (.slice none 0 0) (.slice none 0 0)) rfl rfl) rfl ⟨FRes.no _ _ _ _ _, below_set (below_set (below_set hB3 (by omega) _) (by omega) _) (by omega) _⟩
  rw [h1] at N1
  cases h2 : rootX ys s
  · rw [h2] at N2
    show Calls _ _ _ _ fun e w' => FRes w' w.heap.size e (false) (false) (r) (s) ∧ Below w.heap.size w w'
    clear hf hA hB hlow q h1 h2
    generalize natL (r) = tl at *
    generalize natL (s) = ul at *
    go_enter Tryz.func6, Tryz.ntmps6
    go_wp2_with fail
    refine O.out.mono ?_
    rintro e w1 ⟨rfl, hb1⟩
    replace K1 := K1.old hb1
    replace K2 := K2.old hb1
    have hB1 := old_trans e0 hb1
    obtain ⟨k1, ⟨k2, k3, k4⟩, -⟩ := id K1
    clear O hb1 e0
    go_wp2_with fail
    refine (N1.out _ hB1).mono ?_
    rintro e w2 ⟨⟨av, cv, rfl, hO⟩, hb2⟩
    have z1 := K2.1
    replace K1 := K1.old hb2
    replace K2 := K2.old hb2
    have hB2 := old_trans hB1 hb2
    clear k1 k2 k3 k4 hb2 N1
    obtain ⟨k1, ⟨k2, k3, k4⟩, -⟩ := id K1
    go_wp2_with fail
    refine (N2.out _ hB2).mono ?_
    rintro e w3 ⟨⟨av', cv', rfl, hO'⟩, hb3⟩
    have z2 := K2.1
    have hS := OI.sepOf hO hO' (Nat.le_refl _)
    replace hO := hO.later hb3
    replace K1 := K1.old hb3
    replace K2 := K2.old hb3
    have hB3 := old_trans hB2 hb3
    clear k1 k2 k3 k4 hb3 N2
    obtain ⟨k1, ⟨k2, k3, k4⟩, -⟩ := id K1
    obtain ⟨m1, ⟨m2, m3, m4⟩, m5, m6, m7⟩ := id K2
    clear hO hO'
    go_wp2
    exact bodyPost_ret (resFracRootS (K2.setAll (.bool false) (.slice none 0 0) (.slice none 0 0)) rfl rfl) rfl ⟨FRes.no _ _ _ _ _, below_set (below_set (below_set hB3 (by omega) _) (by omega) _) (by omega) _⟩
  rw [h2] at N2
  have hl := (hlow.out h1 h2).1
  show Calls _ _ _ _ fun e w' => FRes w' w.heap.size e (lowB (r) (s)) (false) (r) (s) ∧ Below w.heap.size w w'
  rw [hl.1]
  have hfin : Hid (∀ (W : World) (n : Nat) (av av' : Option Addr) (cv cv' : Nat), OI W n av cv (natL (r)) → OI W n av' cv' (natL (s)) → Sep av av' → FRes W n (.returned (.tuple #[.agg #[.bool (false), .slice av (natL (r)).length cv, .slice av' (natL (s)).length cv'], .bool true])) true (false) (r) (s)) := by
    intro W n av av' cv cv' h1 h2 h3
    have := FRes.yes (s := (false)) (A := r) (B := s) (by rw [hl.2.1]; exact h1) (by rw [hl.2.2]; exact h2) h3
    rw [hl.2.1, hl.2.2] at this
    exact this
  clear hf hA hB hlow q h1 h2 hl
  generalize natL (r) = tl at *
  generalize natL (s) = ul at *
  go_enter Tryz.func6, Tryz.ntmps6
  go_wp2_with fail
  refine O.out.mono ?_
  rintro e w1 ⟨rfl, hb1⟩
  replace K1 := K1.old hb1
  replace K2 := K2.old hb1
  have hB1 := old_trans e0 hb1
  obtain ⟨k1, ⟨k2, k3, k4⟩, -⟩ := id K1
  clear O hb1 e0
  go_wp2_with fail
  refine (N1.out _ hB1).mono ?_
  rintro e w2 ⟨⟨av, cv, rfl, hO⟩, hb2⟩
  have z1 := K2.1
  replace K1 := K1.old hb2
  replace K2 := K2.old hb2
  have hB2 := old_trans hB1 hb2
  clear k1 k2 k3 k4 hb2 N1
  obtain ⟨k1, ⟨k2, k3, k4⟩, -⟩ := id K1
  go_wp2_with fail
  refine (N2.out _ hB2).mono ?_
  rintro e w3 ⟨⟨av', cv', rfl, hO'⟩, hb3⟩
  have z2 := K2.1
  have hS := OI.sepOf hO hO' (Nat.le_refl _)
  replace hO := hO.later hb3
  replace K1 := K1.old hb3
  replace K2 := K2.old hb3
  have hB3 := old_trans hB2 hb3
  clear k1 k2 k3 k4 hb3 N2
  obtain ⟨k1, ⟨k2, k3, k4⟩, -⟩ := id K1
  obtain ⟨m1, ⟨m2, m3, m4⟩, m5, m6, m7⟩ := id K2
  have o1 := (oi_set3 (v0 := .bool false) (v1 := .slice av tl.length cv) (v2 := .slice av' ul.length cv') hO z1).mono (show w.heap.size ≤ _ from hB1.size)
  have o2 := (oi_set3 (v0 := .bool false) (v1 := .slice av tl.length cv) (v2 := .slice av' ul.length cv') hO' z2).mono (show w.heap.size ≤ _ from hB2.size)
  have hF := hd (hfin.out _ _ _ _ _ _ o1 o2 hS)
  clear hO hO' o1 o2 hfin
  go_wp2
  exact bodyPost_ret (resFracRootS (K2.setAll (.bool false) (.slice av tl.length cv) (.slice av' ul.length cv')) rfl rfl) rfl ⟨hF.out, below_set (below_set (below_set hB3 (by omega) _) (by omega) _) (by omega) _⟩
theorem resRootR {W : World} {b : Nat} {v0 v1 v2 r : Value} {tmps : Array Value} (h : Cel3 W b v0 v1 v2) (ht : tmps[2]? = some (.pointer (some ⟨b, 0, none⟩))) (h3 : tmps[3]? = some r) : (results Tryz.f27 tmps).run Tryz.prog W = .ok (.tuple #[.agg #[v0, v1, v2], r]) W := by
  obtain ⟨h1, ⟨a0, a1, a2⟩, -⟩ := h
  simp [results, Tryz.results27, go_sem, a0, a1, a2, ht, h3]
set_option maxHeartbeats 8000000 in
theorem iRootR (bl : Bool) (a b : Option Addr) (la lb ca cb : Nat) (xs ys : List Int) (r s : Nat) (hr : isRoot (val xs) r) (hs : isRoot (val ys) s) (w : World) (hA : InI w a la ca xs) (hB : InI w b lb cb ys) (hf : fracOk bl xs ys = true) :
    Calls Tryz.prog 27 (#[.agg #[.bool bl, .slice a la ca, .slice b lb cb]] ++ #[]) w fun e w' => RRO w' w.heap.size e (rtOk bl xs ys r s) (false) (r) (s) ∧ Below w.heap.size w w' := by
  have e0 : Below w.heap.size w ((w.alloc (.cells #[.bool bl, .slice a la ca, .slice b lb cb] 53)).alloc (.cells #[.bool false, .slice none 0 0, .slice none 0 0] 53)) := (by repeat (first | exact Below.refl _ _ | refine Below.drew ?_ | refine old_alloc ?_ _ | refine old_trans ?_ (by assumption)))
  have K1 := (Cel3.new w (.bool bl) (.slice a la ca) (.slice b lb cb) 53).old (old_alloc (Below.refl _ _) (.cells #[.bool false, .slice none 0 0, .slice none 0 0] 53))
  have K2 := Cel3.new (w.alloc (.cells #[.bool bl, .slice a la ca, .slice b lb cb] 53)) (.bool false) (.slice none 0 0) (.slice none 0 0) 53
  simp only [World.size_alloc] at K2
  have q := fracOk_in hf
  have N1 := hd (iNatRoot a la ca xs r hr _ (hA.old e0))
  have N2 := hd (fun w' (h : Below w.heap.size w w') => iNatRoot b lb cb ys s hs w' (hB.old h))
  simp only [q.1, q.2.1, show ∀ v, resN true v = natL v from fun _ => rfl] at N1 N2
  clear hA hB q hf
  cases bl
  rotate_left
  · show Calls _ _ _ _ fun e w' => RRO w' w.heap.size e (false) (false) (r) (s) ∧ Below w.heap.size w w'
    unfold RRO
    generalize rootX xs r = x1 at *
    generalize rootX ys s = x2 at *
    generalize natL (r) = tl at *
    generalize natL (s) = ul at *
    go_enter Tryz.func27, Tryz.ntmps27
    go_wp2_with fail
    refine N1.out.mono ?_
    rintro e w1 ⟨⟨av, cv, rfl, hO⟩, hb1⟩
    have z1 := K2.1
    replace K1 := K1.old hb1
    replace K2 := K2.old hb1
    have hB1 := old_trans e0 hb1
    obtain ⟨k1, ⟨k2, k3, k4⟩, -⟩ := id K1
    clear N1 hb1
    go_wp2_with fail
    refine (N2.out _ hB1).mono ?_
    rintro e w2 ⟨⟨av', cv', rfl, hO'⟩, hb2⟩
    have z2 := K2.1
    replace hO := hO.later hb2
    replace K1 := K1.old hb2
    replace K2 := K2.old hb2
    have hB2 := old_trans hB1 hb2
    clear k1 k2 k3 k4 hb2 N2
    obtain ⟨k1, ⟨k2, k3, k4⟩, -⟩ := id K1
    obtain ⟨m1, ⟨m2, m3, m4⟩, m5, m6, m7⟩ := id K2
    clear hO hO'
    go_wp2
    exact bodyPost_ret (resRootR (K2.setAll (.bool false) (.slice none 0 0) (.slice none 0 0)) rfl rfl) rfl ⟨.inr ⟨by trivial, _, rfl⟩, below_set (below_set (below_set hB2 (by omega) _) (by omega) _) (by omega) _⟩
  show Calls _ _ _ _ fun e w' => RRO w' w.heap.size e (rootX xs r && rootX ys s) (false) (r) (s) ∧ Below w.heap.size w w'
  unfold RRO
  generalize rootX xs r = x1 at *
  generalize rootX ys s = x2 at *
  generalize natL (r) = tl at *
  generalize natL (s) = ul at *
  cases x1
  · show Calls _ _ _ _ fun e w' => ((false = true ∧ _) ∨ _) ∧ _
    go_enter Tryz.func27, Tryz.ntmps27
    go_wp2_with fail
    refine N1.out.mono ?_
    rintro e w1 ⟨⟨av, cv, rfl, hO⟩, hb1⟩
    have z1 := K2.1
    replace K1 := K1.old hb1
    replace K2 := K2.old hb1
    have hB1 := old_trans e0 hb1
    obtain ⟨k1, ⟨k2, k3, k4⟩, -⟩ := id K1
    clear N1 hb1
    go_wp2_with fail
    refine (N2.out _ hB1).mono ?_
    rintro e w2 ⟨⟨av', cv', rfl, hO'⟩, hb2⟩
    have z2 := K2.1
    replace hO := hO.later hb2
    replace K1 := K1.old hb2
    replace K2 := K2.old hb2
    have hB2 := old_trans hB1 hb2
    clear k1 k2 k3 k4 hb2 N2
    obtain ⟨k1, ⟨k2, k3, k4⟩, -⟩ := id K1
    obtain ⟨m1, ⟨m2, m3, m4⟩, m5, m6, m7⟩ := id K2
    clear hO hO'
    go_wp2
    exact bodyPost_ret (resRootR (K2.setAll (.bool false) (.slice none 0 0) (.slice none 0 0)) rfl rfl) rfl ⟨.inr ⟨by trivial, _, rfl⟩, below_set (below_set (below_set hB2 (by omega) _) (by omega) _) (by omega) _⟩
  cases x2
  · show Calls _ _ _ _ fun e w' => ((false = true ∧ _) ∨ _) ∧ _
    go_enter Tryz.func27, Tryz.ntmps27
    go_wp2_with fail
    refine N1.out.mono ?_
    rintro e w1 ⟨⟨av, cv, rfl, hO⟩, hb1⟩
    have z1 := K2.1
    replace K1 := K1.old hb1
    replace K2 := K2.old hb1
    have hB1 := old_trans e0 hb1
    obtain ⟨k1, ⟨k2, k3, k4⟩, -⟩ := id K1
    clear N1 hb1
    go_wp2_with fail
    refine (N2.out _ hB1).mono ?_
    rintro e w2 ⟨⟨av', cv', rfl, hO'⟩, hb2⟩
    have z2 := K2.1
    replace hO := hO.later hb2
    replace K1 := K1.old hb2
    replace K2 := K2.old hb2
    have hB2 := old_trans hB1 hb2
    clear k1 k2 k3 k4 hb2 N2
    obtain ⟨k1, ⟨k2, k3, k4⟩, -⟩ := id K1
    obtain ⟨m1, ⟨m2, m3, m4⟩, m5, m6, m7⟩ := id K2
    clear hO hO'
    go_wp2
    exact bodyPost_ret (resRootR (K2.setAll (.bool false) (.slice none 0 0) (.slice none 0 0)) rfl rfl) rfl ⟨.inr ⟨by trivial, _, rfl⟩, below_set (below_set (below_set hB2 (by omega) _) (by omega) _) (by omega) _⟩
  show Calls _ _ _ _ fun e w' => ((true = true ∧ _) ∨ _) ∧ _
  go_enter Tryz.func27, Tryz.ntmps27
  go_wp2_with fail
  refine N1.out.mono ?_
  rintro e w1 ⟨⟨av, cv, rfl, hO⟩, hb1⟩
  have z1 := K2.1
  replace K1 := K1.old hb1
  replace K2 := K2.old hb1
  have hB1 := old_trans e0 hb1
  obtain ⟨k1, ⟨k2, k3, k4⟩, -⟩ := id K1
  clear N1 hb1
  go_wp2_with fail
  refine (N2.out _ hB1).mono ?_
  rintro e w2 ⟨⟨av', cv', rfl, hO'⟩, hb2⟩
  have z2 := K2.1
  replace hO := hO.later hb2
  replace K1 := K1.old hb2
  replace K2 := K2.old hb2
  have hB2 := old_trans hB1 hb2
  clear k1 k2 k3 k4 hb2 N2
  obtain ⟨k1, ⟨k2, k3, k4⟩, -⟩ := id K1
  obtain ⟨m1, ⟨m2, m3, m4⟩, m5, m6, m7⟩ := id K2
  have o1 := (oi_set3 (v0 := .bool false) (v1 := .slice av tl.length cv) (v2 := .slice av' ul.length cv') hO z1).mono (show w.heap.size ≤ _ from e0.size)
  have o2 := (oi_set3 (v0 := .bool false) (v1 := .slice av tl.length cv) (v2 := .slice av' ul.length cv') hO' z2).mono (show w.heap.size ≤ _ from hB1.size)
  clear hO hO'
  go_wp2
  exact bodyPost_ret (resRootR (K2.setAll (.bool false) (.slice av tl.length cv) (.slice av' ul.length cv')) rfl rfl) rfl ⟨.inl ⟨by trivial, _, _, _, _, rfl, o1, o2⟩, below_set (below_set (below_set hB2 (by omega) _) (by omega) _) (by omega) _⟩
theorem resFracRoot {W : World} {b : Nat} {v0 v1 v2 r : Value} {tmps : Array Value} (h : Cel3 W b v0 v1 v2) (ht : tmps[2]? = some (.pointer (some ⟨b, 0, none⟩))) (h3 : tmps[3]? = some r) : (results Tryz.f8 tmps).run Tryz.prog W = .ok (.tuple #[.agg #[v0, v1, v2], r]) W := by
  obtain ⟨h1, ⟨a0, a1, a2⟩, -⟩ := h
  simp [results, Tryz.results8, go_sem, a0, a1, a2, ht, h3]
set_option maxHeartbeats 4000000 in
theorem iFracRoot (bl : Bool) (a b : Option Addr) (la lb ca cb : Nat) (xs ys : List Int) (r s : Nat) (hr : isRoot (val xs) r) (hs : isRoot (val ys) s) (w : World) (hA : InI w a la ca xs) (hB : InI w b lb cb ys) (hT : Tab w) (hE : ET w) :
    Calls Tryz.prog 8 #[.agg #[.bool bl, .slice a la ca, .slice b lb cb]] w fun e w' => FRes w' w.heap.size e (fracOk bl xs ys && (rtOk bl xs ys r s && lowB (r) (s))) (false) (r) (s) ∧ Below w.heap.size w w' := by
  have e0 : Below w.heap.size w ((w.alloc (.cells #[.bool bl, .slice a la ca, .slice b lb cb] 26)).alloc (.cells #[.bool false, .slice none 0 0, .slice none 0 0] 26)) := (by repeat (first | exact Below.refl _ _ | refine Below.drew ?_ | refine old_alloc ?_ _ | refine old_trans ?_ (by assumption)))
  have K2 := Cel3.new (w.alloc (.cells #[.bool bl, .slice a la ca, .slice b lb cb] 26)) (.bool false) (.slice none 0 0) (.slice none 0 0) 26
  simp only [World.size_alloc] at K2
  have O : Hid (Calls Tryz.prog 26 #[.agg #[.bool bl, .slice a la ca, .slice b lb cb], .func (.func 27) #[] #[]] ((w.alloc (.cells #[.bool bl, .slice a la ca, .slice b lb cb] 26)).alloc (.cells #[.bool false, .slice none 0 0, .slice none 0 0] 26)) fun e w' => FRes w' ((w.alloc (.cells #[.bool bl, .slice a la ca, .slice b lb cb] 26)).alloc (.cells #[.bool false, .slice none 0 0, .slice none 0 0] 26)).heap.size e (fracOk bl xs ys && (rtOk bl xs ys r s && lowB (r) (s))) (false) (r) (s) ∧ Below ((w.alloc (.cells #[.bool bl, .slice a la ca, .slice b lb cb] 26)).alloc (.cells #[.bool false, .slice none 0 0, .slice none 0 0] 26)).heap.size ((w.alloc (.cells #[.bool bl, .slice a la ca, .slice b lb cb] 26)).alloc (.cells #[.bool false, .slice none 0 0, .slice none 0 0] 26)) w') := by
    show Calls _ _ _ _ _
    cases hf : fracOk bl xs ys
    · have h := iOfOne 27 #[] bl a b la lb ca cb xs ys _ (hA.old e0) (hB.old e0) (hT.old e0) (hE.old e0) (enters_of Tryz.func27 (by kernel_rfl) rfl) true false 0 0 (by rw [natL_zero]; simp) (by rw [natL_zero]; simp) (fun h => by rw [hf] at h; cases h)
      rw [hf] at h
      refine h.mono ?_
      rintro e w' ⟨h1, h2⟩
      exact ⟨FRes.any h1, h2⟩
    · cases hk : rtOk bl xs ys r s
      · have h := iOfOne 27 #[] bl a b la lb ca cb xs ys _ (hA.old e0) (hB.old e0) (hT.old e0) (hE.old e0) (enters_of Tryz.func27 (by kernel_rfl) rfl) false false 0 0 (by rw [natL_zero]; simp) (by rw [natL_zero]; simp) (fun hf W hW => (iRootR bl a b la lb ca cb xs ys r s hr hs W ((hA.old e0).old hW) ((hB.old e0).old hW) hf).mono (fun e W' (k : _ ∧ _) => (⟨RRes.none (by have h9 := k.1.res; rw [hk] at h9; exact h9), k.2⟩ : _ ∧ _)))
        rw [hf] at h
        refine h.mono ?_
        rintro e w' ⟨h1, h2⟩
        exact ⟨FRes.any h1, h2⟩
      · have hl := rt_low hf (rtOk_in hk).1 (rtOk_in hk).2
        have h := iOfOne 27 #[] bl a b la lb ca cb xs ys _ (hA.old e0) (hB.old e0) (hT.old e0) (hE.old e0) (enters_of Tryz.func27 (by kernel_rfl) rfl) true (false) (r) (s) (Nat.le_trans hl.2.1 (by omega)) (Nat.le_trans hl.2.2 (by omega)) (fun hf W hW => (iRootR bl a b la lb ca cb xs ys r s hr hs W ((hA.old e0).old hW) ((hB.old e0).old hW) hf).mono (fun e W' (k : _ ∧ _) => (⟨by have h9 := k.1.res; rw [hk] at h9; exact h9, k.2⟩ : _ ∧ _)))
        rw [hf] at h
        exact h
  clear hA hB hT hE
  generalize (fracOk bl xs ys && (rtOk bl xs ys r s && lowB (r) (s))) = okk at *
  generalize r = N at *
  generalize s = M at *
  go_enter Tryz.func8, Tryz.ntmps8
  go_wp2_with fail
  refine O.out.mono ?_
  rintro e w1 ⟨⟨av, cv, av', cv', rfl, hO, hO', hS⟩, hb1⟩
  have hs0 := K2.1
  replace K2 := K2.old hb1
  have hB1 := old_trans e0 hb1
  obtain ⟨m1, ⟨m2, m3, m4⟩, m5, m6, m7⟩ := id K2
  have hfin := hd (FRes.put (w' := w1) (s := (false)) (base := w.heap.size) hO hO' hS (show w.heap.size ≤ ((w.alloc (.cells #[.bool bl, .slice a la ca, .slice b lb cb] 26)).alloc (.cells #[.bool false, .slice none 0 0, .slice none 0 0] 26)).heap.size by simp; omega) (show w.heap.size + 1 < _ from hs0))
  have hK := K2.setAll (.bool (fS okk (false) N)) (.slice av (fT okk N M).length cv) (.slice av' (fU okk N M).length cv')
  have hBF := below_set (below_set (below_set hB1 (show w.heap.size ≤ w.heap.size + 1 by omega) (i := 0) (.bool (fS okk (false) N))) (show w.heap.size ≤ w.heap.size + 1 by omega) (i := 1) (.slice av (fT okk N M).length cv)) (show w.heap.size ≤ w.heap.size + 1 by omega) (i := 2) (.slice av' (fU okk N M).length cv')
  clear hO hO' hS hb1 O e0 hs0
  generalize hsg : fS okk (false) N = sg at *
  go_wp2
  exact bodyPost_ret (resFracRoot hK rfl rfl) rfl ⟨hfin.out, hBF⟩
end Go.Proofs.YtbcdeddbkckaeaaGreatDoor
