/- What two boxes have in common, by the program. Conditions: 2^20 pairs at most. -/
import Derived.Test.YtmeijbiohbpgpaaE8
import Derived.Test.YtmeijbiohbpgpaaCut
namespace Go.Proofs.Ytmeijbiohbpgpaa
open Go.RowKit
set_option linter.unusedVariables false

theorem fits_at {ps : List (Int × Int)} (h : Fits ps) {k : Nat} (hk : k < ps.length) : (-9223372036854775808 ≤ (ps.getD k (0, 0)).1 ∧ (ps.getD k (0, 0)).1 ≤ 9223372036854775807) ∧ -9223372036854775808 ≤ (ps.getD k (0, 0)).2 ∧ (ps.getD k (0, 0)).2 ≤ 9223372036854775807 := by
  have e : ps.getD k (0, 0) = ps[k] := by rw [List.getD_eq_getElem?_getD, List.getElem?_eq_getElem hk]; rfl
  rw [e]
  exact h _ (List.getElem_mem _)
theorem meetRow_len {wd : Int} {ps qs : List (Int × Int)} (h : meetRow wd ps qs = true) : ps.length = qs.length := by
  unfold meetRow at h
  simp at h
  exact h.2.2.1
theorem madeL_congr {n : Nat} {x y x' y' : Nat → Int} (h : ∀ k, k < n → x k = x' k ∧ y k = y' k) : madeL n x y = madeL n x' y' := by
  unfold madeL
  apply List.map_congr_left
  intro k hk
  rw [(h k (List.mem_range.1 hk)).1, (h k (List.mem_range.1 hk)).2]

set_option maxHeartbeats 4000000 in
theorem iBoxMeet1 (wd : Int) (a a' : Option Addr) (len cap cap' : Nat) (ps qs : List (Int × Int)) (A B C k : Nat) (hk : k < len) (w : World) (hR : InRow w a len cap ps) (hR' : InRow w a' len cap' qs) (hA : w.cell? ⟨A, 0, none⟩ = some (.int .i64 wd)) (hB : w.cell? ⟨B, 0, none⟩ = some (.slice a len cap)) (hC : w.cell? ⟨C, 0, none⟩ = some (.slice a' len cap'))
    (hpk : pokB wd (ps.getD k (0, 0)).1 (ps.getD k (0, 0)).2 = true ∧ pokB wd (qs.getD k (0, 0)).1 (qs.getD k (0, 0)).2 = true) :
    Calls Try.prog 57 #[.int .i64 (k : Int), .pointer (some ⟨A, 0, none⟩), .pointer (some ⟨B, 0, none⟩), .pointer (some ⟨C, 0, none⟩)] w fun e w' => e = .returned (.tuple #[.agg #[.int .i64 (if meetAt ps qs k then meetX ps qs k else 0), .int .i64 (if meetAt ps qs k then meetY ps qs k else 0)], .bool (meetAt ps qs k)]) ∧ Below w.heap.size w w' := by
  have hlen : len ≤ maxLen := Nat.le_trans hR.2.1 hR.2.2.1
  unfold maxLen at hlen
  obtain ⟨b, off, x, y, rfl, hbl, hx, -, c0, c1⟩ := (hR.alloc (.cells #[.int .i64 0, .int .i64 0] 47)).at hk
  obtain ⟨b', off', x', y', rfl, hbl', hx', -, d0, d1⟩ := (hR'.alloc (.cells #[.int .i64 0, .int .i64 0] 47)).at hk
  have A1 := cell_al' hA (.cells #[.int .i64 0, .int .i64 0] 47)
  have B1 := cell_al' hB (.cells #[.int .i64 0, .int .i64 0] 47)
  have C1 := cell_al' hC (.cells #[.int .i64 0, .int .i64 0] 47)
  have N : Cel2 (w.alloc (.cells #[.int .i64 0, .int .i64 0] 47)) w.heap.size (.int .i64 0) (.int .i64 0) := Cel2.made w _ rfl _ _ _
  have hb0 : Below w.heap.size w (w.alloc (.cells #[.int .i64 0, .int .i64 0] 47)) := old_alloc (Below.refl _ _) _
  have E := hd (iPairMeet wd x y x' y')
  have hX : meetX ps qs k = max x x' := by unfold meetX; rw [hx, hx']
  have hY : meetY ps qs k = min y y' := by unfold meetY; rw [hx, hx']
  rw [hx, hx'] at hpk
  have hmt : meetB wd x y x' y' = meetAt ps qs k := by
    unfold meetAt; rw [hX, hY]; unfold meetB; rw [show pokB wd x y = true from hpk.1, show pokB wd x' y' = true from hpk.2]; rfl
  rw [hmt, pairV_eq] at E
  rw [hX, hY]
  clear hX hY hpk hmt hR hR' hA hB hC hx hx'
  generalize (if meetAt ps qs k then max x x' else 0) = u at *
  generalize (if meetAt ps qs k then min y y' else 0) = v at *
  generalize meetAt ps qs k = r at *
  obtain ⟨n0, n1, n2, n3, n4⟩ := id N
  go_enter Try.func57, Try.ntmps57
  go_wp2_with fail
  go_region_with (go_at_call 58; refine (E.out _).mono ?_; rintro e w1 ⟨rfl, hb1⟩; have N := (by with_reducible first | exact N.later hb1 | exact N.drew.later hb1 : Cel2 w1 _ _ _); have n0 := N.1; have n1 := N.2.1; have n2 := N.2.2.1; have n3 := N.2.2.2.1; have n4 := N.2.2.2.2; have hb0 := (by with_reducible first | exact old_trans hb0 hb1 | exact old_trans hb0.drew hb1 : Below w.heap.size w w1))
  all_goals
    go_wp2
    have N2 := N.stored (.int .i64 u) (.int .i64 v)
    refine bodyPost_ret (v := .tuple #[.agg #[.int .i64 u, .int .i64 v], .bool r]) ?_ rfl ⟨rfl, (hb0.setCell (p := ⟨w.heap.size, 0, none⟩) (Nat.le_refl _) _).setCell (p := ⟨w.heap.size, 1, none⟩) (Nat.le_refl _) _⟩
    simp [results, Try.results57, go_sem, N2.1, N2.2.1]

set_option maxHeartbeats 4000000 in
theorem iBoxMeet (wd : Int) (a a' : Option Addr) (len len' cap cap' : Nat) (ps qs : List (Int × Int)) (w : World) (hR : InRow w a len cap ps) (hR' : InRow w a' len' cap' qs) :
    Calls Try.prog 23 #[.int .i64 wd, .agg #[.slice a len cap], .agg #[.slice a' len' cap']] w fun e w' => BoxRes w.heap.size w' e (meetRow wd ps qs) (meetL ps qs) ∧ Below w.heap.size w w' := by
  have hlen : len ≤ maxLen := Nat.le_trans hR.2.1 hR.2.2.1
  have hlen' : len' ≤ maxLen := Nat.le_trans hR'.2.1 hR'.2.2.1
  have hp := hR.1
  have hq := hR'.1
  unfold maxLen at hlen hlen'
  have hB : Below w.heap.size w ((((w.alloc (.cells #[.int .i64 wd] 3)).alloc (.cells #[.slice a len cap] 29)).alloc (.cells #[.slice a' len' cap'] 29)).alloc (.cells #[.slice none 0 0] 29)) := (by repeat (first | exact Below.refl _ _ | refine Below.drew ?_ | refine old_alloc ?_ _ | refine old_trans ?_ (by assumption)))
  have V : Cel1 ((((w.alloc (.cells #[.int .i64 wd] 3)).alloc (.cells #[.slice a len cap] 29)).alloc (.cells #[.slice a' len' cap'] 29)).alloc (.cells #[.slice none 0 0] 29)) w.heap.size (.int .i64 wd) := (((Cel1.made w _ rfl _ _).alloc _).alloc _).alloc _
  have K : Cel1 ((((w.alloc (.cells #[.int .i64 wd] 3)).alloc (.cells #[.slice a len cap] 29)).alloc (.cells #[.slice a' len' cap'] 29)).alloc (.cells #[.slice none 0 0] 29)) (w.heap.size + 1) (.slice a len cap) := ((Cel1.made _ _ (by simp) _ _).alloc _).alloc _
  have M : Cel1 ((((w.alloc (.cells #[.int .i64 wd] 3)).alloc (.cells #[.slice a len cap] 29)).alloc (.cells #[.slice a' len' cap'] 29)).alloc (.cells #[.slice none 0 0] 29)) (w.heap.size + 1 + 1) (.slice a' len' cap') := (Cel1.made _ _ (by simp) _ _).alloc _
  have O : Cel1 ((((w.alloc (.cells #[.int .i64 wd] 3)).alloc (.cells #[.slice a len cap] 29)).alloc (.cells #[.slice a' len' cap'] 29)).alloc (.cells #[.slice none 0 0] 29)) (w.heap.size + 1 + 1 + 1) (.slice none 0 0) := Cel1.made _ _ (by simp) _ _
  have R := hR.old hB
  have R' := hR'.old hB
  have S1 := hd (iBoxOk wd a len cap ps _ R)
  have S2 := hd (fun w h => iBoxOk wd a' len' cap' qs w h)
  cases h1 : okRow wd ps
  · rw [h1] at S1
    rw [meetRow_no1 h1]
    clear h1
    go_enter Try.func23, Try.ntmps23
    go_wp2_with fail
    refine S1.out.mono ?_
    rintro e wa ⟨rfl, hba⟩
    replace V := V.later hba
    replace K := K.later hba
    replace M := M.later hba
    replace O := O.later hba
    replace R := R.old hba
    replace R' := R'.old hba
    replace hB := old_trans hB hba
    obtain ⟨m0, m1, m2⟩ := id O
    go_wp2
    refine bodyPost_ret (v := .tuple #[.agg #[.slice none 0 0], .bool false]) ?_ rfl ⟨.inr ⟨rfl, rfl⟩, hB.setCell (p := ⟨(w.heap.size + 1 + 1 + 1), 0, none⟩) (by simp <;> omega) _⟩
    simp [results, Try.results23, go_sem, m0]
  rw [h1] at S1
  cases h2 : okRow wd qs
  · rw [h2] at S2
    rw [meetRow_no2 h2]
    clear h1 h2
    go_enter Try.func23, Try.ntmps23
    go_wp2_with fail
    refine S1.out.mono ?_
    rintro e wa ⟨rfl, hba⟩
    replace V := V.later hba
    replace K := K.later hba
    replace M := M.later hba
    replace O := O.later hba
    replace R := R.old hba
    replace R' := R'.old hba
    replace hB := old_trans hB hba
    have v0 := V.1
    have v2 := V.2.2
    have k0 := K.1
    have k2 := K.2.2
    have m0 := M.1
    have m2 := M.2.2
    have o0 := O.1
    have o2 := O.2.2
    go_wp2_with fail
    refine (S2.out _ R').mono ?_
    rintro e wb ⟨rfl, hbb⟩
    clear v0 v2 k0 k2 m0 m2 o0 o2
    replace V := V.later hbb
    replace K := K.later hbb
    replace M := M.later hbb
    replace O := O.later hbb
    replace R := R.old hbb
    replace R' := R'.old hbb
    replace hB := old_trans hB hbb
    obtain ⟨m0, m1, m2⟩ := id O
    go_wp2
    refine bodyPost_ret (v := .tuple #[.agg #[.slice none 0 0], .bool false]) ?_ rfl ⟨.inr ⟨rfl, rfl⟩, hB.setCell (p := ⟨(w.heap.size + 1 + 1 + 1), 0, none⟩) (by simp <;> omega) _⟩
    simp [results, Try.results23, go_sem, m0]
  rw [h2] at S2
  by_cases hll : len = len'
  case neg =>
    have c2 : ((len : Int) != (len' : Int)) = true := by rw [bne_iff_ne]; omega
    rw [meetRow_no3 (by omega)]
    clear h1 h2
    go_enter Try.func23, Try.ntmps23
    go_wp2_with fail
    refine S1.out.mono ?_
    rintro e wa ⟨rfl, hba⟩
    replace V := V.later hba
    replace K := K.later hba
    replace M := M.later hba
    replace O := O.later hba
    replace R := R.old hba
    replace R' := R'.old hba
    replace hB := old_trans hB hba
    have v0 := V.1
    have v2 := V.2.2
    have k0 := K.1
    have k2 := K.2.2
    have m0 := M.1
    have m2 := M.2.2
    have o0 := O.1
    have o2 := O.2.2
    go_wp2_with fail
    refine (S2.out _ R').mono ?_
    rintro e wb ⟨rfl, hbb⟩
    clear v0 v2 k0 k2 m0 m2 o0 o2
    replace V := V.later hbb
    replace K := K.later hbb
    replace M := M.later hbb
    replace O := O.later hbb
    replace R := R.old hbb
    replace R' := R'.old hbb
    replace hB := old_trans hB hbb
    have v0 := V.1
    have v2 := V.2.2
    have k0 := K.1
    have k2 := K.2.2
    have m0 := M.1
    have m2 := M.2.2
    have o0 := O.1
    have o2 := O.2.2
    obtain ⟨m0, m1, m2⟩ := id O
    go_wp2
    refine bodyPost_ret (v := .tuple #[.agg #[.slice none 0 0], .bool false]) ?_ rfl ⟨.inr ⟨rfl, rfl⟩, hB.setCell (p := ⟨(w.heap.size + 1 + 1 + 1), 0, none⟩) (by simp <;> omega) _⟩
    simp [results, Try.results23, go_sem, m0]
  subst hll
  have hol := okRow_len h1
  have hr : Hid (meetRow wd ps qs = allI len (fun k => meetAt ps qs k)) := meetRow_yes h1 h2 hp hq
  have hall : Hid (∀ k, k < len → pokB wd (ps.getD k (0, 0)).1 (ps.getD k (0, 0)).2 = true ∧ pokB wd (qs.getD k (0, 0)).1 (qs.getD k (0, 0)).2 = true) := fun k hk => ⟨okRow_at h1 (by omega), okRow_at h2 (by omega)⟩
  clear h1 h2
  generalize meetRow wd ps qs = z at *
  have hL : meetL ps qs = madeL len (meetX ps qs) (meetY ps qs) := by unfold meetL; rw [hp]
  rw [hL]
  clear hL
  go_enter Try.func23, Try.ntmps23
  go_wp2_with fail
  refine S1.out.mono ?_
  rintro e wa ⟨rfl, hba⟩
  replace V := V.later hba
  replace K := K.later hba
  replace M := M.later hba
  replace O := O.later hba
  replace R := R.old hba
  replace R' := R'.old hba
  replace hB := old_trans hB hba
  have v0 := V.1
  have v2 := V.2.2
  have k0 := K.1
  have k2 := K.2.2
  have m0 := M.1
  have m2 := M.2.2
  have o0 := O.1
  have o2 := O.2.2
  go_wp2_with fail
  refine (S2.out _ R').mono ?_
  rintro e wb ⟨rfl, hbb⟩
  clear v0 v2 k0 k2 m0 m2 o0 o2
  replace V := V.later hbb
  replace K := K.later hbb
  replace M := M.later hbb
  replace O := O.later hbb
  replace R := R.old hbb
  replace R' := R'.old hbb
  replace hB := old_trans hB hbb
  have v0 := V.1
  have v2 := V.2.2
  have k0 := K.1
  have k2 := K.2.2
  have m0 := M.1
  have m2 := M.2.2
  have o0 := O.1
  have o2 := O.2.2
  go_wp2_with fail
  refine (ofEach 57 #[.pointer (some ⟨w.heap.size, 0, none⟩), .pointer (some ⟨w.heap.size + 1, 0, none⟩), .pointer (some ⟨w.heap.size + 1 + 1, 0, none⟩)] len (by omega) (fun k => if meetAt ps qs k then meetX ps qs k else 0) (fun k => if meetAt ps qs k then meetY ps qs k else 0) (fun k => meetAt ps qs k) wb (enters_of Try.func57 (by kernel_rfl) rfl)
    (fun k W hk hW => iBoxMeet1 wd a a' len cap cap' ps qs w.heap.size (w.heap.size + 1) (w.heap.size + 1 + 1) k hk W (R.old hW) (R'.old hW) (V.later hW).1 (K.later hW).1 (M.later hW).1 (hall.out k hk))).mono ?_
  have hsz : w.heap.size + 1 + 1 + 1 + 1 ≤ wb.heap.size := by have := hba.size; have := hbb.size; simp at *; omega
  rintro e w2 ⟨⟨hyes, g, rfl, hg, hrow⟩ | ⟨⟨k, hk, hno⟩, rfl⟩, hb2⟩
  · have hz : Hid (z = true) := hr.out.trans (allI_yes hyes)
    rw [madeL_congr (x' := meetX ps qs) (y' := meetY ps qs) (fun k hk => by simp [hyes k hk])] at hrow
    clear o0 o2
    replace O := O.later hb2
    obtain ⟨o0, o1, o2⟩ := id O
    replace hB := old_trans hB hb2
    have hne : g ≠ (w.heap.size + 1 + 1 + 1) := by omega
    go_wp2
    refine bodyPost_ret (v := .tuple #[.agg #[.slice (some ⟨g, 0, none⟩) (madeL len (meetX ps qs) (meetY ps qs)).length len], .bool true]) ?_ rfl ⟨.inl ⟨hz.out, g, len, rfl, by omega, by rw [madeL_length]; omega, by unfold maxLen; omega, hrow.other ⟨(w.heap.size + 1 + 1 + 1), 0, none⟩ hne _⟩, hB.setCell (p := ⟨(w.heap.size + 1 + 1 + 1), 0, none⟩) (by simp <;> omega) _⟩
    simp [results, Try.results23, go_sem, o0, madeL_length]
  · have hz : Hid (z = false) := hr.out.trans (allI_no hk hno)
    clear o0 o2
    replace O := O.later hb2
    obtain ⟨o0, o1, o2⟩ := id O
    replace hB := old_trans hB hb2
    go_wp2
    refine bodyPost_ret (v := .tuple #[.agg #[.slice none 0 0], .bool false]) ?_ rfl ⟨.inr ⟨hz.out, rfl⟩, hB.setCell (p := ⟨(w.heap.size + 1 + 1 + 1), 0, none⟩) (by simp <;> omega) _⟩
    simp [results, Try.results23, go_sem, o0]
theorem meet_fits {wd : Int} {ps qs : List (Int × Int)} (hf : Fits ps) (hg : Fits qs) (hl : ps.length = qs.length) : Fits (meetL ps qs) := by
  refine fits_made (fun k hk => ?_)
  have h1 := fits_at hf (k := k) hk
  have h2 := fits_at hg (k := k) (by omega)
  unfold meetX meetY
  omega
theorem sBoxMeetO (wd : Int) (a a' : Option Addr) (len len' cap cap' : Nat) (ps qs : List (Int × Int)) (w : World) (hR : InRow w a len cap ps) (hR' : InRow w a' len' cap' qs) :
    Calls Try.prog 22 #[.int .i64 wd, .agg #[.slice a len cap], .agg #[.slice a' len' cap']] w fun e w' => (∃ av cv, e = .returned (.tuple #[.agg #[.slice av (resL (meetRow wd ps qs) (meetL ps qs)).length cv], .bool (meetRow wd ps qs)]) ∧ OB w' w.heap.size av cv (resL (meetRow wd ps qs) (meetL ps qs))) ∧ Below w.heap.size w w' := by
  refine (sBoxMeet wd a a' len len' cap cap' ps qs w hR hR').mono ?_
  rintro e w' ⟨h, hb⟩
  exact ⟨h.ob (fun hm => meet_fits (wd := wd) hR.2.2.2.1 hR'.2.2.2.1 (meetRow_len hm)), hb⟩
theorem iBoxMeetO (wd : Int) (a a' : Option Addr) (len len' cap cap' : Nat) (ps qs : List (Int × Int)) (w : World) (hR : InRow w a len cap ps) (hR' : InRow w a' len' cap' qs) :
    Calls Try.prog 23 #[.int .i64 wd, .agg #[.slice a len cap], .agg #[.slice a' len' cap']] w fun e w' => (∃ av cv, e = .returned (.tuple #[.agg #[.slice av (resL (meetRow wd ps qs) (meetL ps qs)).length cv], .bool (meetRow wd ps qs)]) ∧ OB w' w.heap.size av cv (resL (meetRow wd ps qs) (meetL ps qs))) ∧ Below w.heap.size w w' := by
  refine (iBoxMeet wd a a' len len' cap cap' ps qs w hR hR').mono ?_
  rintro e w' ⟨h, hb⟩
  exact ⟨h.ob (fun hm => meet_fits (wd := wd) hR.2.2.2.1 hR'.2.2.2.1 (meetRow_len hm)), hb⟩
end Go.Proofs.Ytmeijbiohbpgpaa
