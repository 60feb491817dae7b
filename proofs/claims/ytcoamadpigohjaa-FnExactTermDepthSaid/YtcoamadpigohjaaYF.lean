/- How deep trees are, by the program. Nothing that was there is written. -/
import Derived.Test.YtcoamadpigohjaaYE
namespace Go.Proofs.Ytcoamadpigohjaa
open Go.RowKit
set_option linter.unusedVariables false

def DepOk (P : Program) (f : Nat) (w : World) (t : Tr) (v : Value) : Prop := t.dep ≤ 1000 → ∀ w', Below w.heap.size w w' → Calls P f #[v] w' fun e w'' => e = .returned (.int .i64 ((t.dep : Nat) : Int)) ∧ Below w'.heap.size w' w''
theorem dep_mk (n : Tn) (ps : List Tr) : (Tr.mk n ps).dep = depL ps + 1 := by simp [Tr.dep]
theorem depL_ge {l : List Tr} {i : Nat} (h : i < l.length) : l[i].dep ≤ depL l := by
  induction l generalizing i with
  | nil => simp at h
  | cons x l ih =>
    cases i with
    | zero => simp only [List.getElem_cons_zero, depL]; omega
    | succ i => have := ih (i := i) (by simpa using h); simp only [List.getElem_cons_succ, depL]; omega
theorem depL_takeI {l : List Tr} {i : Nat} (h : i < l.length) : depL (l.take (i + 1)) = max (depL (l.take i)) l[i].dep := depL_take (List.getElem?_eq_getElem h)
theorem depL_take_le (l : List Tr) (i : Nat) : depL (l.take i) ≤ depL l := by
  induction l generalizing i with
  | nil => simp [depL]
  | cons x l ih =>
    cases i with
    | zero => simp [depL]
    | succ i => have := ih i; simp only [List.take_succ_cons, depL]; omega
set_option maxRecDepth 100000 in
set_option maxHeartbeats 4000000 in
theorem iDepLeaf {w : World} (n : Tn) :
    DepOk Try.prog 14 w (.mk n []) (.iface 83 (.agg #[.int .i64 n.k, .string n.s])) := by
  intro hdep w' hW
  rw [dep_mk] at hdep ⊢
  obtain ⟨PS, hPS⟩ : ∃ PS : List Tr, PS = [] := ⟨_, rfl⟩
  obtain ⟨m, hm'⟩ : ∃ m : Nat, m = 0 := ⟨_, rfl⟩
  have hm : PS.length = m := by rw [hPS, hm']; try rfl
  have hmi : ∀ i, i < m → i < PS.length := fun i h => by omega
  have REC : Hid (∀ i (hi : i < m), ∀ w', Below w.heap.size w w' → Calls Try.prog 14 #[oneV default i] w' fun e w'' => e = .returned (.int .i64 (((PS[i]'(hmi i hi)).dep : Nat) : Int)) ∧ Below w'.heap.size w' w'') := fun i hi => by omega
  rw [← hPS] at hdep ⊢
  have PT : Hid (Calls Try.prog 75 #[.agg #[.int .i64 n.k, .string n.s]] w' fun e w'' => (∃ av cv, e = .returned (.slice av m cv) ∧ PSl w'' av m (oneV default)) ∧ Below w'.heap.size w' w'') := by
    show Calls _ _ _ _ _
    rw [hm']
    exact iPartsLeaf _ _ _
  have hm6 : m ≤ 6 := by omega
  clear hm' hPS
  have hF : ∃ F : Nat → Nat, ∀ i, F i = depL (PS.take i) := ⟨_, fun _ => rfl⟩
  obtain ⟨F, hF⟩ := hF
  have hF0 : Hid (F 0 = 0) := by show _ = _; rw [hF]; simp [depL]
  have hFm : Hid (F m = depL PS) := by show _ = _; rw [hF, ← hm, List.take_length]
  have hFs : Hid (∀ i (hi : i < m), F (i + 1) = max (F i) (PS[i]'(hmi i hi)).dep) := fun i hi => by rw [hF, hF]; exact depL_takeI (by omega)
  have hFl : Hid (∀ i, F i ≤ depL PS) := fun i => by rw [hF]; exact depL_take_le _ _
  clear hF
  go_enter Try.func14, Try.ntmps14
  go_wp2_with fail
  refine PT.out.mono ?_
  rintro ev w1 ⟨⟨av, cv, rfl, P⟩, hb1⟩
  have hB1 := old_trans hW hb1
  go_wp2_with fail
  go_loopw [3, 9] (fun d i wr => ∃ (j : Nat), j ≤ m ∧ i = .int .i64 j ∧ d = .int .i64 ((F j : Nat) : Int) ∧ F j ≤ 1000 ∧ Below w1.heap.size w1 wr) (fun _ i _ => m - (intOf i).toNat)
  case atStart => exact ⟨0, by omega, rfl, by rw [hF0.out]; rfl, by rw [hF0.out]; omega, Below.refl _ _⟩
  case round =>
    obtain ⟨j, hj, rfl, rfl, hFb, hb⟩ := hrel
    have hB := old_trans hB1 hb
    by_cases hlt : j < m
    · obtain ⟨bq, oq, rfl, -, cq⟩ := (P.later hb).at hlt
      have hs := hd (hFs.out j hlt)
      have R := hd (REC.out j hlt _ hB)
      have hdb : (PS[j]'(hmi j hlt)).dep ≤ 1000 := by have := depL_ge (l := PS) (i := j) (by omega); omega
      generalize (PS[j]'(hmi j hlt)).dep = D at *
      have hjI : (j : Int) < (m : Int) := by omega
      by_cases hgt : F j < D
      · have hs2 : Hid (F (j + 1) = D) := by show _ = _; have := hs.out; omega
        have hmx : max ((F j : Nat) : Int) (D : Int) = (D : Int) := by omega
        clear hs
        generalize F j = Fj at *
        go_wp2_with fail
        refine R.out.mono ?_
        rintro ev w2 ⟨rfl, hb2⟩
        go_wp2
        go_roundw
        case rel => exact ⟨j + 1, by omega, by go_num, by rw [hs2.out], by rw [hs2.out]; omega, old_trans hb hb2⟩
        case measure => simp [intOf]; omega
      · have hs2 : Hid (F (j + 1) = F j) := by show _ = _; have := hs.out; omega
        have hmx : max ((F j : Nat) : Int) (D : Int) = ((F j : Nat) : Int) := by omega
        clear hs
        generalize hFj : F j = Fj at *
        go_wp2_with fail
        refine R.out.mono ?_
        rintro ev w2 ⟨rfl, hb2⟩
        go_wp2
        go_roundw
        case rel => exact ⟨j + 1, by omega, by go_num, by rw [hs2.out], by rw [hs2.out]; omega, old_trans hb hb2⟩
        case measure => simp [intOf]; omega
    · obtain rfl : j = m := by omega
      have hni : ¬ ((j : Int) < (j : Int)) := by omega
      rw [hFm.out] at hFb ⊢
      have hdd : depL PS + 1 ≤ 1000 := hdep
      go_wp2
      go_ret
      exact ⟨by congr 2, old_trans hb1 hb⟩
set_option maxRecDepth 100000 in
set_option maxHeartbeats 4000000 in
theorem iDepMinus {w : World} (n : Tn) (t : Tr) (ty : TypeId) (v : Value) (ih : DepOk Try.prog 14 w t (.iface ty v)) :
    DepOk Try.prog 14 w (.mk n [t]) (.iface 61 (.agg #[.iface ty v])) := by
  intro hdep w' hW
  rw [dep_mk] at hdep ⊢
  obtain ⟨PS, hPS⟩ : ∃ PS : List Tr, PS = [t] := ⟨_, rfl⟩
  obtain ⟨m, hm'⟩ : ∃ m : Nat, m = 1 := ⟨_, rfl⟩
  have hm : PS.length = m := by rw [hPS, hm']; try rfl
  have hmi : ∀ i, i < m → i < PS.length := fun i h => by omega
  have REC : Hid (∀ i (hi : i < m), ∀ w', Below w.heap.size w w' → Calls Try.prog 14 #[oneV (.iface ty v) i] w' fun e w'' => e = .returned (.int .i64 (((PS[i]'(hmi i hi)).dep : Nat) : Int)) ∧ Below w'.heap.size w' w'') := fun i hi => by
      subst hPS
      obtain rfl : i = 0 := by omega
      exact ih (by simp only [depL] at hdep; omega)
  rw [← hPS] at hdep ⊢
  have PT : Hid (Calls Try.prog 65 #[.agg #[.iface ty v]] w' fun e w'' => (∃ av cv, e = .returned (.slice av m cv) ∧ PSl w'' av m (oneV (.iface ty v))) ∧ Below w'.heap.size w' w'') := by
    show Calls _ _ _ _ _
    rw [hm']
    exact iPartsMinus _ _ _
  have hm6 : m ≤ 6 := by omega
  clear hm' hPS
  have hF : ∃ F : Nat → Nat, ∀ i, F i = depL (PS.take i) := ⟨_, fun _ => rfl⟩
  obtain ⟨F, hF⟩ := hF
  have hF0 : Hid (F 0 = 0) := by show _ = _; rw [hF]; simp [depL]
  have hFm : Hid (F m = depL PS) := by show _ = _; rw [hF, ← hm, List.take_length]
  have hFs : Hid (∀ i (hi : i < m), F (i + 1) = max (F i) (PS[i]'(hmi i hi)).dep) := fun i hi => by rw [hF, hF]; exact depL_takeI (by omega)
  have hFl : Hid (∀ i, F i ≤ depL PS) := fun i => by rw [hF]; exact depL_take_le _ _
  clear hF
  go_enter Try.func14, Try.ntmps14
  go_wp2_with fail
  refine PT.out.mono ?_
  rintro ev w1 ⟨⟨av, cv, rfl, P⟩, hb1⟩
  have hB1 := old_trans hW hb1
  go_wp2_with fail
  go_loopw [3, 9] (fun d i wr => ∃ (j : Nat), j ≤ m ∧ i = .int .i64 j ∧ d = .int .i64 ((F j : Nat) : Int) ∧ F j ≤ 1000 ∧ Below w1.heap.size w1 wr) (fun _ i _ => m - (intOf i).toNat)
  case atStart => exact ⟨0, by omega, rfl, by rw [hF0.out]; rfl, by rw [hF0.out]; omega, Below.refl _ _⟩
  case round =>
    obtain ⟨j, hj, rfl, rfl, hFb, hb⟩ := hrel
    have hB := old_trans hB1 hb
    by_cases hlt : j < m
    · obtain ⟨bq, oq, rfl, -, cq⟩ := (P.later hb).at hlt
      have hs := hd (hFs.out j hlt)
      have R := hd (REC.out j hlt _ hB)
      have hdb : (PS[j]'(hmi j hlt)).dep ≤ 1000 := by have := depL_ge (l := PS) (i := j) (by omega); omega
      generalize (PS[j]'(hmi j hlt)).dep = D at *
      have hjI : (j : Int) < (m : Int) := by omega
      by_cases hgt : F j < D
      · have hs2 : Hid (F (j + 1) = D) := by show _ = _; have := hs.out; omega
        have hmx : max ((F j : Nat) : Int) (D : Int) = (D : Int) := by omega
        clear hs
        generalize F j = Fj at *
        go_wp2_with fail
        refine R.out.mono ?_
        rintro ev w2 ⟨rfl, hb2⟩
        go_wp2
        go_roundw
        case rel => exact ⟨j + 1, by omega, by go_num, by rw [hs2.out], by rw [hs2.out]; omega, old_trans hb hb2⟩
        case measure => simp [intOf]; omega
      · have hs2 : Hid (F (j + 1) = F j) := by show _ = _; have := hs.out; omega
        have hmx : max ((F j : Nat) : Int) (D : Int) = ((F j : Nat) : Int) := by omega
        clear hs
        generalize hFj : F j = Fj at *
        go_wp2_with fail
        refine R.out.mono ?_
        rintro ev w2 ⟨rfl, hb2⟩
        go_wp2
        go_roundw
        case rel => exact ⟨j + 1, by omega, by go_num, by rw [hs2.out], by rw [hs2.out]; omega, old_trans hb hb2⟩
        case measure => simp [intOf]; omega
    · obtain rfl : j = m := by omega
      have hni : ¬ ((j : Int) < (j : Int)) := by omega
      rw [hFm.out] at hFb ⊢
      have hdd : depL PS + 1 ≤ 1000 := hdep
      go_wp2
      go_ret
      exact ⟨by congr 2, old_trans hb1 hb⟩
set_option maxRecDepth 100000 in
set_option maxHeartbeats 4000000 in
theorem iDepRaised {w : World} (n : Tn) (t : Tr) (ty : TypeId) (v : Value) (ih : DepOk Try.prog 14 w t (.iface ty v)) :
    DepOk Try.prog 14 w (.mk n [t]) (.iface 63 (.agg #[.iface ty v, .int .i64 n.n])) := by
  intro hdep w' hW
  rw [dep_mk] at hdep ⊢
  obtain ⟨PS, hPS⟩ : ∃ PS : List Tr, PS = [t] := ⟨_, rfl⟩
  obtain ⟨m, hm'⟩ : ∃ m : Nat, m = 1 := ⟨_, rfl⟩
  have hm : PS.length = m := by rw [hPS, hm']; try rfl
  have hmi : ∀ i, i < m → i < PS.length := fun i h => by omega
  have REC : Hid (∀ i (hi : i < m), ∀ w', Below w.heap.size w w' → Calls Try.prog 14 #[oneV (.iface ty v) i] w' fun e w'' => e = .returned (.int .i64 (((PS[i]'(hmi i hi)).dep : Nat) : Int)) ∧ Below w'.heap.size w' w'') := fun i hi => by
      subst hPS
      obtain rfl : i = 0 := by omega
      exact ih (by simp only [depL] at hdep; omega)
  rw [← hPS] at hdep ⊢
  have PT : Hid (Calls Try.prog 67 #[.agg #[.iface ty v, .int .i64 n.n]] w' fun e w'' => (∃ av cv, e = .returned (.slice av m cv) ∧ PSl w'' av m (oneV (.iface ty v))) ∧ Below w'.heap.size w' w'') := by
    show Calls _ _ _ _ _
    rw [hm']
    exact iPartsRaised _ _ _ _
  have hm6 : m ≤ 6 := by omega
  clear hm' hPS
  have hF : ∃ F : Nat → Nat, ∀ i, F i = depL (PS.take i) := ⟨_, fun _ => rfl⟩
  obtain ⟨F, hF⟩ := hF
  have hF0 : Hid (F 0 = 0) := by show _ = _; rw [hF]; simp [depL]
  have hFm : Hid (F m = depL PS) := by show _ = _; rw [hF, ← hm, List.take_length]
  have hFs : Hid (∀ i (hi : i < m), F (i + 1) = max (F i) (PS[i]'(hmi i hi)).dep) := fun i hi => by rw [hF, hF]; exact depL_takeI (by omega)
  have hFl : Hid (∀ i, F i ≤ depL PS) := fun i => by rw [hF]; exact depL_take_le _ _
  clear hF
  go_enter Try.func14, Try.ntmps14
  go_wp2_with fail
  refine PT.out.mono ?_
  rintro ev w1 ⟨⟨av, cv, rfl, P⟩, hb1⟩
  have hB1 := old_trans hW hb1
  go_wp2_with fail
  go_loopw [3, 9] (fun d i wr => ∃ (j : Nat), j ≤ m ∧ i = .int .i64 j ∧ d = .int .i64 ((F j : Nat) : Int) ∧ F j ≤ 1000 ∧ Below w1.heap.size w1 wr) (fun _ i _ => m - (intOf i).toNat)
  case atStart => exact ⟨0, by omega, rfl, by rw [hF0.out]; rfl, by rw [hF0.out]; omega, Below.refl _ _⟩
  case round =>
    obtain ⟨j, hj, rfl, rfl, hFb, hb⟩ := hrel
    have hB := old_trans hB1 hb
    by_cases hlt : j < m
    · obtain ⟨bq, oq, rfl, -, cq⟩ := (P.later hb).at hlt
      have hs := hd (hFs.out j hlt)
      have R := hd (REC.out j hlt _ hB)
      have hdb : (PS[j]'(hmi j hlt)).dep ≤ 1000 := by have := depL_ge (l := PS) (i := j) (by omega); omega
      generalize (PS[j]'(hmi j hlt)).dep = D at *
      have hjI : (j : Int) < (m : Int) := by omega
      by_cases hgt : F j < D
      · have hs2 : Hid (F (j + 1) = D) := by show _ = _; have := hs.out; omega
        have hmx : max ((F j : Nat) : Int) (D : Int) = (D : Int) := by omega
        clear hs
        generalize F j = Fj at *
        go_wp2_with fail
        refine R.out.mono ?_
        rintro ev w2 ⟨rfl, hb2⟩
        go_wp2
        go_roundw
        case rel => exact ⟨j + 1, by omega, by go_num, by rw [hs2.out], by rw [hs2.out]; omega, old_trans hb hb2⟩
        case measure => simp [intOf]; omega
      · have hs2 : Hid (F (j + 1) = F j) := by show _ = _; have := hs.out; omega
        have hmx : max ((F j : Nat) : Int) (D : Int) = ((F j : Nat) : Int) := by omega
        clear hs
        generalize hFj : F j = Fj at *
        go_wp2_with fail
        refine R.out.mono ?_
        rintro ev w2 ⟨rfl, hb2⟩
        go_wp2
        go_roundw
        case rel => exact ⟨j + 1, by omega, by go_num, by rw [hs2.out], by rw [hs2.out]; omega, old_trans hb hb2⟩
        case measure => simp [intOf]; omega
    · obtain rfl : j = m := by omega
      have hni : ¬ ((j : Int) < (j : Int)) := by omega
      rw [hFm.out] at hFb ⊢
      have hdd : depL PS + 1 ≤ 1000 := hdep
      go_wp2
      go_ret
      exact ⟨by congr 2, old_trans hb1 hb⟩
set_option maxRecDepth 100000 in
set_option maxHeartbeats 4000000 in
theorem iDepJoint {w : World} (n : Tn) (t u : Tr) (ty ty' : TypeId) (v v' : Value) (sg : ByteArray) (lv : Int) (ih : DepOk Try.prog 14 w t (.iface ty v)) (ih' : DepOk Try.prog 14 w u (.iface ty' v')) :
    DepOk Try.prog 14 w (.mk n [t, u]) (.iface 75 (.agg #[.int .i64 n.k, .string sg, .int .i64 lv, .iface ty v, .iface ty' v'])) := by
  intro hdep w' hW
  rw [dep_mk] at hdep ⊢
  obtain ⟨PS, hPS⟩ : ∃ PS : List Tr, PS = [t, u] := ⟨_, rfl⟩
  obtain ⟨m, hm'⟩ : ∃ m : Nat, m = 2 := ⟨_, rfl⟩
  have hm : PS.length = m := by rw [hPS, hm']; try rfl
  have hmi : ∀ i, i < m → i < PS.length := fun i h => by omega
  have REC : Hid (∀ i (hi : i < m), ∀ w', Below w.heap.size w w' → Calls Try.prog 14 #[twoV (.iface ty v) (.iface ty' v') i] w' fun e w'' => e = .returned (.int .i64 (((PS[i]'(hmi i hi)).dep : Nat) : Int)) ∧ Below w'.heap.size w' w'') := fun i hi => by
      subst hPS
      obtain rfl | rfl : i = 0 ∨ i = 1 := by omega
      · exact ih (by simp only [depL] at hdep; omega)
      · exact ih' (by simp only [depL] at hdep; omega)
  rw [← hPS] at hdep ⊢
  have PT : Hid (Calls Try.prog 72 #[.agg #[.int .i64 n.k, .string sg, .int .i64 lv, .iface ty v, .iface ty' v']] w' fun e w'' => (∃ av cv, e = .returned (.slice av m cv) ∧ PSl w'' av m (twoV (.iface ty v) (.iface ty' v'))) ∧ Below w'.heap.size w' w'') := by
    show Calls _ _ _ _ _
    rw [hm']
    exact iPartsJoint _ _ _ _ _ _ _ _
  have hm6 : m ≤ 6 := by omega
  clear hm' hPS
  have hF : ∃ F : Nat → Nat, ∀ i, F i = depL (PS.take i) := ⟨_, fun _ => rfl⟩
  obtain ⟨F, hF⟩ := hF
  have hF0 : Hid (F 0 = 0) := by show _ = _; rw [hF]; simp [depL]
  have hFm : Hid (F m = depL PS) := by show _ = _; rw [hF, ← hm, List.take_length]
  have hFs : Hid (∀ i (hi : i < m), F (i + 1) = max (F i) (PS[i]'(hmi i hi)).dep) := fun i hi => by rw [hF, hF]; exact depL_takeI (by omega)
  have hFl : Hid (∀ i, F i ≤ depL PS) := fun i => by rw [hF]; exact depL_take_le _ _
  clear hF
  go_enter Try.func14, Try.ntmps14
  go_wp2_with fail
  refine PT.out.mono ?_
  rintro ev w1 ⟨⟨av, cv, rfl, P⟩, hb1⟩
  have hB1 := old_trans hW hb1
  go_wp2_with fail
  go_loopw [3, 9] (fun d i wr => ∃ (j : Nat), j ≤ m ∧ i = .int .i64 j ∧ d = .int .i64 ((F j : Nat) : Int) ∧ F j ≤ 1000 ∧ Below w1.heap.size w1 wr) (fun _ i _ => m - (intOf i).toNat)
  case atStart => exact ⟨0, by omega, rfl, by rw [hF0.out]; rfl, by rw [hF0.out]; omega, Below.refl _ _⟩
  case round =>
    obtain ⟨j, hj, rfl, rfl, hFb, hb⟩ := hrel
    have hB := old_trans hB1 hb
    by_cases hlt : j < m
    · obtain ⟨bq, oq, rfl, -, cq⟩ := (P.later hb).at hlt
      have hs := hd (hFs.out j hlt)
      have R := hd (REC.out j hlt _ hB)
      have hdb : (PS[j]'(hmi j hlt)).dep ≤ 1000 := by have := depL_ge (l := PS) (i := j) (by omega); omega
      generalize (PS[j]'(hmi j hlt)).dep = D at *
      have hjI : (j : Int) < (m : Int) := by omega
      by_cases hgt : F j < D
      · have hs2 : Hid (F (j + 1) = D) := by show _ = _; have := hs.out; omega
        have hmx : max ((F j : Nat) : Int) (D : Int) = (D : Int) := by omega
        clear hs
        generalize F j = Fj at *
        go_wp2_with fail
        refine R.out.mono ?_
        rintro ev w2 ⟨rfl, hb2⟩
        go_wp2
        go_roundw
        case rel => exact ⟨j + 1, by omega, by go_num, by rw [hs2.out], by rw [hs2.out]; omega, old_trans hb hb2⟩
        case measure => simp [intOf]; omega
      · have hs2 : Hid (F (j + 1) = F j) := by show _ = _; have := hs.out; omega
        have hmx : max ((F j : Nat) : Int) (D : Int) = ((F j : Nat) : Int) := by omega
        clear hs
        generalize hFj : F j = Fj at *
        go_wp2_with fail
        refine R.out.mono ?_
        rintro ev w2 ⟨rfl, hb2⟩
        go_wp2
        go_roundw
        case rel => exact ⟨j + 1, by omega, by go_num, by rw [hs2.out], by rw [hs2.out]; omega, old_trans hb hb2⟩
        case measure => simp [intOf]; omega
    · obtain rfl : j = m := by omega
      have hni : ¬ ((j : Int) < (j : Int)) := by omega
      rw [hFm.out] at hFb ⊢
      have hdd : depL PS + 1 ≤ 1000 := hdep
      go_wp2
      go_ret
      exact ⟨by congr 2, old_trans hb1 hb⟩
set_option maxRecDepth 100000 in
set_option maxHeartbeats 4000000 in
theorem iDepNamed {w : World} (n : Tn) (ps : List Tr) (s : ByteArray) (b off cap : Nat) (vs : Nat → Value) (hm6' : ps.length ≤ 6) (hb : b < w.heap.size) (hc : ∀ i, i < ps.length → w.cell? ⟨b, off + i, none⟩ = some (vs i)) (ih : ∀ i (hi : i < ps.length), DepOk Try.prog 14 w ps[i] (vs i)) :
    DepOk Try.prog 14 w (.mk n ps) (.iface 68 (.agg #[.string s, .slice (some ⟨b, off, none⟩) ps.length cap])) := by
  intro hdep w' hW
  rw [dep_mk] at hdep ⊢
  obtain ⟨PS, hPS⟩ : ∃ PS : List Tr, PS = ps := ⟨_, rfl⟩
  obtain ⟨m, hm'⟩ : ∃ m : Nat, m = ps.length := ⟨_, rfl⟩
  have hm : PS.length = m := by rw [hPS, hm']; try rfl
  have hmi : ∀ i, i < m → i < PS.length := fun i h => by omega
  have REC : Hid (∀ i (hi : i < m), ∀ w', Below w.heap.size w w' → Calls Try.prog 14 #[vs i] w' fun e w'' => e = .returned (.int .i64 (((PS[i]'(hmi i hi)).dep : Nat) : Int)) ∧ Below w'.heap.size w' w'') := fun i hi => by
      subst hPS
      exact ih i (by omega) (by have := depL_ge (l := PS) (i := i) (by omega); omega)
  rw [← hPS] at hdep ⊢
  have PP : PSl w' (some ⟨b, off, none⟩) m vs := by rw [hm']; exact .inr ⟨b, off, rfl, Nat.lt_of_lt_of_le hb hW.size, fun i hi => (hW.cell (p := ⟨b, off + i, none⟩) hb).trans (hc i hi)⟩
  have hm6 : m ≤ 6 := by rw [hm']; exact hm6'
  rw [hm]
  clear hm' hPS
  obtain ⟨av, hav⟩ : ∃ av : Option Addr, av = some ⟨b, off, none⟩ := ⟨_, rfl⟩
  rw [← hav] at PP ⊢
  clear hav
  have hF : ∃ F : Nat → Nat, ∀ i, F i = depL (PS.take i) := ⟨_, fun _ => rfl⟩
  obtain ⟨F, hF⟩ := hF
  have hF0 : Hid (F 0 = 0) := by show _ = _; rw [hF]; simp [depL]
  have hFm : Hid (F m = depL PS) := by show _ = _; rw [hF, ← hm, List.take_length]
  have hFs : Hid (∀ i (hi : i < m), F (i + 1) = max (F i) (PS[i]'(hmi i hi)).dep) := fun i hi => by rw [hF, hF]; exact depL_takeI (by omega)
  have hFl : Hid (∀ i, F i ≤ depL PS) := fun i => by rw [hF]; exact depL_take_le _ _
  clear hF
  go_enter Try.func14, Try.ntmps14
  go_wp2_with fail
  refine (iPartsCalled _ _ _ _ _).mono ?_
  rintro ev w1 ⟨rfl, hb1⟩
  have P := PP.later hb1
  have hB1 := old_trans hW hb1
  go_wp2_with fail
  go_loopw [3, 9] (fun d i wr => ∃ (j : Nat), j ≤ m ∧ i = .int .i64 j ∧ d = .int .i64 ((F j : Nat) : Int) ∧ F j ≤ 1000 ∧ Below w1.heap.size w1 wr) (fun _ i _ => m - (intOf i).toNat)
  case atStart => exact ⟨0, by omega, rfl, by rw [hF0.out]; rfl, by rw [hF0.out]; omega, Below.refl _ _⟩
  case round =>
    obtain ⟨j, hj, rfl, rfl, hFb, hb⟩ := hrel
    have hB := old_trans hB1 hb
    by_cases hlt : j < m
    · obtain ⟨bq, oq, rfl, -, cq⟩ := (P.later hb).at hlt
      have hs := hd (hFs.out j hlt)
      have R := hd (REC.out j hlt _ hB)
      have hdb : (PS[j]'(hmi j hlt)).dep ≤ 1000 := by have := depL_ge (l := PS) (i := j) (by omega); omega
      generalize (PS[j]'(hmi j hlt)).dep = D at *
      have hjI : (j : Int) < (m : Int) := by omega
      by_cases hgt : F j < D
      · have hs2 : Hid (F (j + 1) = D) := by show _ = _; have := hs.out; omega
        have hmx : max ((F j : Nat) : Int) (D : Int) = (D : Int) := by omega
        clear hs
        generalize F j = Fj at *
        go_wp2_with fail
        refine R.out.mono ?_
        rintro ev w2 ⟨rfl, hb2⟩
        go_wp2
        go_roundw
        case rel => exact ⟨j + 1, by omega, by go_num, by rw [hs2.out], by rw [hs2.out]; omega, old_trans hb hb2⟩
        case measure => simp [intOf]; omega
      · have hs2 : Hid (F (j + 1) = F j) := by show _ = _; have := hs.out; omega
        have hmx : max ((F j : Nat) : Int) (D : Int) = ((F j : Nat) : Int) := by omega
        clear hs
        generalize hFj : F j = Fj at *
        go_wp2_with fail
        refine R.out.mono ?_
        rintro ev w2 ⟨rfl, hb2⟩
        go_wp2
        go_roundw
        case rel => exact ⟨j + 1, by omega, by go_num, by rw [hs2.out], by rw [hs2.out]; omega, old_trans hb hb2⟩
        case measure => simp [intOf]; omega
    · obtain rfl : j = m := by omega
      have hni : ¬ ((j : Int) < (j : Int)) := by omega
      rw [hFm.out] at hFb ⊢
      have hdd : depL PS + 1 ≤ 1000 := hdep
      go_wp2
      go_ret
      exact ⟨by congr 2, old_trans hb1 hb⟩
set_option maxRecDepth 100000 in
set_option maxHeartbeats 4000000 in
theorem iDepOwn {w : World} (n : Tn) (ps : List Tr) (s : ByteArray) (b off cap : Nat) (vs : Nat → Value) (hm6' : ps.length ≤ 6) (hb : b < w.heap.size) (hc : ∀ i, i < ps.length → w.cell? ⟨b, off + i, none⟩ = some (vs i)) (ih : ∀ i (hi : i < ps.length), DepOk Try.prog 14 w ps[i] (vs i)) :
    DepOk Try.prog 14 w (.mk n ps) (.iface 81 (.agg #[.string s, .slice (some ⟨b, off, none⟩) ps.length cap, .int .i64 n.k])) := by
  intro hdep w' hW
  rw [dep_mk] at hdep ⊢
  obtain ⟨PS, hPS⟩ : ∃ PS : List Tr, PS = ps := ⟨_, rfl⟩
  obtain ⟨m, hm'⟩ : ∃ m : Nat, m = ps.length := ⟨_, rfl⟩
  have hm : PS.length = m := by rw [hPS, hm']; try rfl
  have hmi : ∀ i, i < m → i < PS.length := fun i h => by omega
  have REC : Hid (∀ i (hi : i < m), ∀ w', Below w.heap.size w w' → Calls Try.prog 14 #[vs i] w' fun e w'' => e = .returned (.int .i64 (((PS[i]'(hmi i hi)).dep : Nat) : Int)) ∧ Below w'.heap.size w' w'') := fun i hi => by
      subst hPS
      exact ih i (by omega) (by have := depL_ge (l := PS) (i := i) (by omega); omega)
  rw [← hPS] at hdep ⊢
  have PP : PSl w' (some ⟨b, off, none⟩) m vs := by rw [hm']; exact .inr ⟨b, off, rfl, Nat.lt_of_lt_of_le hb hW.size, fun i hi => (hW.cell (p := ⟨b, off + i, none⟩) hb).trans (hc i hi)⟩
  have hm6 : m ≤ 6 := by rw [hm']; exact hm6'
  rw [hm]
  clear hm' hPS
  obtain ⟨av, hav⟩ : ∃ av : Option Addr, av = some ⟨b, off, none⟩ := ⟨_, rfl⟩
  rw [← hav] at PP ⊢
  clear hav
  have hF : ∃ F : Nat → Nat, ∀ i, F i = depL (PS.take i) := ⟨_, fun _ => rfl⟩
  obtain ⟨F, hF⟩ := hF
  have hF0 : Hid (F 0 = 0) := by show _ = _; rw [hF]; simp [depL]
  have hFm : Hid (F m = depL PS) := by show _ = _; rw [hF, ← hm, List.take_length]
  have hFs : Hid (∀ i (hi : i < m), F (i + 1) = max (F i) (PS[i]'(hmi i hi)).dep) := fun i hi => by rw [hF, hF]; exact depL_takeI (by omega)
  have hFl : Hid (∀ i, F i ≤ depL PS) := fun i => by rw [hF]; exact depL_take_le _ _
  clear hF
  go_enter Try.func14, Try.ntmps14
  go_wp2_with fail
  refine (iPartsCalled _ _ _ _ _).mono ?_
  rintro ev w1 ⟨rfl, hb1⟩
  have P := PP.later hb1
  have hB1 := old_trans hW hb1
  go_wp2_with fail
  go_loopw [3, 9] (fun d i wr => ∃ (j : Nat), j ≤ m ∧ i = .int .i64 j ∧ d = .int .i64 ((F j : Nat) : Int) ∧ F j ≤ 1000 ∧ Below w1.heap.size w1 wr) (fun _ i _ => m - (intOf i).toNat)
  case atStart => exact ⟨0, by omega, rfl, by rw [hF0.out]; rfl, by rw [hF0.out]; omega, Below.refl _ _⟩
  case round =>
    obtain ⟨j, hj, rfl, rfl, hFb, hb⟩ := hrel
    have hB := old_trans hB1 hb
    by_cases hlt : j < m
    · obtain ⟨bq, oq, rfl, -, cq⟩ := (P.later hb).at hlt
      have hs := hd (hFs.out j hlt)
      have R := hd (REC.out j hlt _ hB)
      have hdb : (PS[j]'(hmi j hlt)).dep ≤ 1000 := by have := depL_ge (l := PS) (i := j) (by omega); omega
      generalize (PS[j]'(hmi j hlt)).dep = D at *
      have hjI : (j : Int) < (m : Int) := by omega
      by_cases hgt : F j < D
      · have hs2 : Hid (F (j + 1) = D) := by show _ = _; have := hs.out; omega
        have hmx : max ((F j : Nat) : Int) (D : Int) = (D : Int) := by omega
        clear hs
        generalize F j = Fj at *
        go_wp2_with fail
        refine R.out.mono ?_
        rintro ev w2 ⟨rfl, hb2⟩
        go_wp2
        go_roundw
        case rel => exact ⟨j + 1, by omega, by go_num, by rw [hs2.out], by rw [hs2.out]; omega, old_trans hb hb2⟩
        case measure => simp [intOf]; omega
      · have hs2 : Hid (F (j + 1) = F j) := by show _ = _; have := hs.out; omega
        have hmx : max ((F j : Nat) : Int) (D : Int) = ((F j : Nat) : Int) := by omega
        clear hs
        generalize hFj : F j = Fj at *
        go_wp2_with fail
        refine R.out.mono ?_
        rintro ev w2 ⟨rfl, hb2⟩
        go_wp2
        go_roundw
        case rel => exact ⟨j + 1, by omega, by go_num, by rw [hs2.out], by rw [hs2.out]; omega, old_trans hb hb2⟩
        case measure => simp [intOf]; omega
    · obtain rfl : j = m := by omega
      have hni : ¬ ((j : Int) < (j : Int)) := by omega
      rw [hFm.out] at hFb ⊢
      have hdd : depL PS + 1 ≤ 1000 := hdep
      go_wp2
      go_ret
      exact ⟨by congr 2, old_trans hb1 hb⟩
theorem iDepth {w : World} {g : Option Nat} {t : Tr} {v : Value} (h : TV w g t v) : DepOk Try.prog 14 w t v := by
  induction h with
  | leaf n hk => exact iDepLeaf n
  | minus n t v hk h ih => obtain ⟨ty, u, rfl⟩ := h.iface; exact iDepMinus n t ty u ih
  | raised n t v hk h ih => obtain ⟨ty, u, rfl⟩ := h.iface; exact iDepRaised n t ty u ih
  | joint n t u v v' sg lv hk h h' ih ih' => obtain ⟨ty, x, rfl⟩ := h.iface; obtain ⟨ty', x', rfl⟩ := h'.iface; exact iDepJoint n t u ty ty' x x' sg lv ih ih'
  | named n ps b off cap vs hk hm hcap hb hq hc h ih => exact iDepNamed n ps n.s b off cap vs hm hb hc ih
  | own n ps b off cap vs wd hk hm hcap hb hq hc h ih => exact iDepOwn n ps wd b off cap vs hm hb hc ih
end Go.Proofs.Ytcoamadpigohjaa
