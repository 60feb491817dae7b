/- How deep a term is, by the specification. Nothing that was there is written. No condition but that the nodes are there. -/
import Derived.Test.YtcoamadpigohjaaYC
import Derived.Deep.DeepCutAuto
import Derived.Deep.RegionWith
namespace Go.Proofs.Ytcoamadpigohjaa
open Go.RowKit
set_option linter.unusedVariables false

theorem depL_le {l : List Tr} {n : Nat} (h : ∀ t ∈ l, t.dep ≤ n) : depL l ≤ n := by
  induction l with
  | nil => simp [depL]
  | cons x l ih =>
    have h1 := h x (by simp)
    have h2 := ih (fun t ht => h t (by simp [ht]))
    simp only [depL]; omega
theorem prts_mem {xs : List Tn} {k n : Nat} (h : n ∈ prts xs k) : n < k := by
  unfold prts at h
  rw [List.mem_reverse] at h
  exact pst_mem (List.mem_of_mem_take h)
theorem tr_dep_le (xs : List Tn) (n : Nat) : ∀ i, i < n → (tr xs i).dep ≤ i + 1 := by
  induction n with
  | zero => intro i h; omega
  | succ n ih =>
    intro i h
    rw [tr_eq]
    simp only [Tr.dep]
    have : depL ((prts xs i).map (tr xs)) ≤ i := depL_le (fun t ht => by
      rw [List.mem_map] at ht
      obtain ⟨p, hp, rfl⟩ := ht
      have := prts_mem hp
      have := ih p (by omega)
      omega)
    omega
theorem depL_takeP {xs : List Tn} {e i : Nat} (h : i < (prts xs e).length) : depL (((prts xs e).map (tr xs)).take (i + 1)) = max (depL (((prts xs e).map (tr xs)).take i)) (tr xs ((prts xs e).getD i 0)).dep := by
  refine depL_take ?_
  rw [List.getElem?_map, List.getD_eq_getElem?_getD, List.getElem?_eq_getElem h]; rfl
set_option maxRecDepth 100000 in
set_option maxHeartbeats 4000000 in
theorem sDeepN (xs : List Tn) (hok : okT xs = true) (n : Nat) : ∀ (a : Option Addr) (len cap : Nat) (e : Nat) (w : World), e < n → InN w a len cap xs → e < len →
    Calls Try.prog 11 #[.agg #[.slice a len cap], .int .i64 (e : Int)] w fun ev w' => ev = .returned (.int .i64 (((tr xs e).dep : Nat) : Int)) ∧ Below w.heap.size w w' := by
  induction n with
  | zero => intro a len cap e w h; omega
  | succ n ih =>
    intro a len cap e w hen hR he
    have hp := hR.1
    have hl := (okT_in hok).1
    have PT := hd (fun w' (h : Below w.heap.size w w') => sParts a len cap xs e w' (hR.old h) hok he)
    have REC := hd (fun q w' (h : Below w.heap.size w w') (hq : q < e) => ih a len cap q w' (by omega) (hR.old h) (by omega))
    have hdl := hd (fun q (h : q < e) => tr_dep_le xs (q + 1) q (by omega))
    have hstep := hd (fun i h => depL_takeP (xs := xs) (e := e) (i := i) h)
    have hlt := hd (fun i h => prts_lt (xs := xs) (k := e) (i := i) h)
    have hres : (tr xs e).dep = depL ((prts xs e).map (tr xs)) + 1 := by rw [tr_eq]; rfl
    have hpl : (prts xs e).length ≤ 100 := by unfold prts; rw [List.length_reverse, List.length_take]; have := pst_le xs e; omega
    rw [hres]
    clear hres ih
    have K0 := CS.made w _ rfl #[.slice a len cap] 29
    have hBB : Below w.heap.size w (w.alloc (.cells #[.slice a len cap] 29)) := old_alloc (Below.refl _ _) _
    have hz0 : Hid (depL (((prts xs e).map (tr xs)).take 0) = 0) := by show _ = _; simp [depL]
    have hzn : Hid (depL (((prts xs e).map (tr xs)).take (prts xs e).length) = depL ((prts xs e).map (tr xs))) := by show _ = _; rw [List.take_of_length_le (by simp)]
    have hgen : ∃ F : Nat → Nat, ∀ i, F i = depL (((prts xs e).map (tr xs)).take i) := ⟨_, fun _ => rfl⟩
    obtain ⟨F, hF⟩ := hgen
    have hstep2 : Hid (∀ i, i < (prts xs e).length → F (i + 1) = max (F i) (tr xs ((prts xs e).getD i 0)).dep) := fun i h => by rw [hF, hF]; exact hstep.out i h
    rw [← hF] at hz0 hzn
    clear hstep hF
    generalize depL ((prts xs e).map (tr xs)) = DD at *
    have m0 := K0.cell 0 _ rfl
    go_enter Try.func11, Try.ntmps11
    generalize hW0 : w.alloc (.cells #[.slice a len cap] 29) = W0 at *
    go_wp2_with fail
    refine (PT.out _ hBB).mono ?_
    rintro ev w1 ⟨⟨av, cv, rfl, hO⟩, hb1⟩
    have hB1 := old_trans hBB hb1
    have K1 := K0.later hb1
    clear PT hb1 K0 hW0 m0 hBB
    go_wp2_with fail
    go_loopw [6, 7] (fun m i wr => ∃ (j : Nat), j ≤ (prts xs e).length ∧ i = .int .i64 j ∧ m = .int .i64 (F j : Int) ∧ F j ≤ 100 ∧ Below w1.heap.size w1 wr) (fun _ i _ => (prts xs e).length - (intOf i).toNat)
    case atStart => exact ⟨0, by omega, rfl, by rw [hz0.out]; rfl, by rw [hz0.out]; omega, Below.refl _ _⟩
    case round =>
      obtain ⟨j, hj, rfl, rfl, hFb, hb⟩ := hrel
      have hB := old_trans hB1 hb
      have Kr := K1.later hb
      have m0 := Kr.cell 0 _ rfl
      have mlt := Kr.lt
      by_cases hlt9 : j < (prts xs e).length
      · obtain ⟨bq, oq, Q, rfl, -, hQ, hQb, cQ⟩ := (hO.later hb).inI.at (k := j) (by rw [iz_len]; exact hlt9)
        rw [iz_getD _ _ hlt9] at hQ
        have hq := hlt.out j hlt9
        have hs := hd (hstep2.out j hlt9)
        have hdq := hdl.out _ hq
        have RC := hd (REC.out ((prts xs e).getD j 0))
        generalize (prts xs e).getD j 0 = q at *
        subst hQ
        generalize (tr xs q).dep = D at *
        have hDb : (D : Int) ≤ 101 := by omega
        generalize hPL : (prts xs e).length = PL at *
        have hjI : (j : Int) < (PL : Int) := by omega
        clear hdl REC hstep2 hlt
        by_cases hgt : (D : Int) > (F j : Int)
        · have hs2 : Hid (F (j + 1) = D ∧ D ≤ 100) := ⟨by have := hs.out; omega, by omega⟩
          clear hs
          generalize F j = Fj at *
          go_wp2_with fail
          go_region_with (go_at_call 11; refine (RC.out _ (by repeat (first | exact hB | exact Below.refl _ _ | refine Below.drew ?_ | refine old_alloc ?_ _ | refine old_trans ?_ (by assumption))) hq).mono ?_; rintro ev w2 ⟨rfl, hb2⟩)
          all_goals
            go_wp2
            go_roundw
            case rel => exact ⟨j + 1, by omega, by go_num, by rw [hs2.out.1], by rw [hs2.out.1]; exact hs2.out.2, (by repeat (first | exact hb | exact Below.refl _ _ | refine Below.drew ?_ | refine old_alloc ?_ _ | refine old_trans ?_ (by assumption)))⟩
            case measure => simp [intOf]; omega
        · have hs2 : Hid (F (j + 1) = F j) := by show _ = _; have := hs.out; omega
          clear hs
          generalize hFj : F j = Fj at *
          go_wp2_with fail
          go_region_with (go_at_call 11; refine (RC.out _ (by repeat (first | exact hB | exact Below.refl _ _ | refine Below.drew ?_ | refine old_alloc ?_ _ | refine old_trans ?_ (by assumption))) hq).mono ?_; rintro ev w2 ⟨rfl, hb2⟩)
          all_goals
            go_wp2
            go_roundw
            case rel => exact ⟨j + 1, by omega, by go_num, by rw [hs2.out], by rw [hs2.out]; exact hFb, (by repeat (first | exact hb | exact Below.refl _ _ | refine Below.drew ?_ | refine old_alloc ?_ _ | refine old_trans ?_ (by assumption)))⟩
            case measure => simp [intOf]; omega
      · obtain rfl : j = (prts xs e).length := by omega
        rw [hzn.out] at hFb ⊢
        have hni : ¬ (((prts xs e).length : Int) < ((prts xs e).length : Int)) := by omega
        generalize (prts xs e).length = PL at *
        go_wp2
        go_ret
        exact ⟨by congr 2, hB⟩
theorem sTermDepth (a : Option Addr) (len cap : Nat) (xs : List Tn) (w : World) (hR : InN w a len cap xs) :
    Calls Try.prog 5 #[.agg #[.slice a len cap]] w fun e w' => e = .returned (.int .i64 ((depT xs : Nat) : Int)) ∧ Below w.heap.size w w' := by
  have hp := hR.1
  have hlen : len ≤ maxLen := Nat.le_trans hR.2.1 hR.2.2.1
  unfold maxLen at hlen
  have OK := hd (fun w' (h : Below w.heap.size w w') => sTermOk a len cap xs w' (hR.old h))
  have K0 := CS.made w _ rfl #[.slice a len cap] 29
  have hBB : Below w.heap.size w (w.alloc (.cells #[.slice a len cap] 29)) := old_alloc (Below.refl _ _) _
  have m0 := K0.cell 0 _ rfl
  cases hk : okT xs
  · have e : depT xs = 0 := by unfold depT; rw [hk]; rfl
    rw [e]
    rw [hk] at OK
    clear hk e
    go_enter Try.func5, Try.ntmps5
    generalize hW0 : w.alloc (.cells #[.slice a len cap] 29) = W0 at *
    go_wp2_with fail
    refine (OK.out _ hBB).mono ?_
    rintro ev w1 ⟨rfl, hb1⟩
    go_wp2
    go_ret
    exact ⟨rfl, old_trans hBB hb1⟩
  · have e : depT xs = (tr xs (len - 1)).dep := by unfold depT; rw [hk, hp]; rfl
    rw [e]
    have hpos := okT_pos hk
    have DP := hd (fun w' (h : Below w.heap.size w w') => sDeepN xs hk (len - 1 + 1) a len cap (len - 1) w' (by omega) (hR.old h) (by omega))
    have hl1 : (((len - 1 : Nat)) : Int) = (len : Int) - 1 := by omega
    rw [hl1] at DP
    rw [hk] at OK
    have hl2 : (1 : Int) ≤ (len : Int) := by omega
    have hl3 : (len : Int) ≤ 100 := by have := (okT_in hk).1; omega
    clear e hk hl1
    generalize (tr xs (len - 1)).dep = D at *
    go_enter Try.func5, Try.ntmps5
    generalize hW0 : w.alloc (.cells #[.slice a len cap] 29) = W0 at *
    go_wp2_with fail
    refine (OK.out _ hBB).mono ?_
    rintro ev w1 ⟨rfl, hb1⟩
    have m1 := (K0.later hb1).cell 0 _ rfl
    have hB := old_trans hBB hb1
    go_wp2_with fail
    refine (DP.out _ (by repeat (first | exact hB | exact Below.refl _ _ | refine Below.drew ?_ | refine old_alloc ?_ _ | refine old_trans ?_ (by assumption)))).mono ?_
    rintro ev w2 ⟨rfl, hb2⟩
    go_wp2
    go_ret
    exact ⟨rfl, (by repeat (first | exact hB | exact Below.refl _ _ | refine Below.drew ?_ | refine old_alloc ?_ _ | refine old_trans ?_ (by assumption)))⟩
end Go.Proofs.Ytcoamadpigohjaa
