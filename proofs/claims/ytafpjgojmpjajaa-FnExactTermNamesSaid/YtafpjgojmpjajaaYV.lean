/- The names of a term, by the specification. Nothing that was there is written. -/
import Derived.Test.YtafpjgojmpjajaaYU
namespace Go.Proofs.Ytafpjgojmpjajaa
open Go.RowKit
set_option linter.unusedVariables false
set_option maxRecDepth 100000

theorem intoAt_len1 (l : List ByteArray) (s : ByteArray) : ∀ k, k ≤ l.length → (intoAt l s k).1.length + (if (intoAt l s k).2 then 0 else 1) ≤ k + 1 := by
  intro k
  induction k with
  | zero => intro _; simp [intoAt]
  | succ k ih =>
    intro h
    rw [intoAt_succ s (by omega)]
    have h1 := ih (by omega)
    generalize intoAt l s k = r at *
    obtain ⟨r1, r2⟩ := r
    unfold intoStep
    cases r2
    · have h2 : r1.length + 1 ≤ k + 1 := h1
      cases h3 : Op.bytesLess (l.getD k ⟨#[]⟩).toList s.toList
      · cases h4 : (l.getD k ⟨#[]⟩).toList == s.toList
        · simp only [Bool.false_eq_true, if_false, if_true, List.length_append, List.length_singleton]; omega
        · simp only [Bool.false_eq_true, if_false, if_true, List.length_append, List.length_singleton]; omega
      · simp only [Bool.false_eq_true, if_false, if_true, List.length_append, List.length_singleton]; omega
    · have h2 : r1.length + 0 ≤ k + 1 := h1
      simp only [if_true, List.length_append, List.length_singleton]; omega
theorem intoL_len (l : List ByteArray) (s : ByteArray) : (intoL l s).length ≤ l.length + 1 := by
  have h := intoAt_len1 l s l.length (Nat.le_refl _)
  unfold intoL
  split
  · rename_i g; rw [g] at h; simpa using h
  · rename_i g
    have g' : (intoAt l s l.length).2 = false := by simpa using g
    rw [g'] at h
    simpa using h
def nmStep (o : List ByteArray) (x : Tn) : List ByteArray := if x.k = 2 ∨ x.k = 13 then intoL o x.s else o
def nmAt (xs : List Tn) (k : Nat) : List ByteArray := (xs.take k).foldl nmStep []
def tnN (xs : List Tn) : List ByteArray := if okT xs then nmAt xs xs.length else []
theorem nmAt_succ {xs : List Tn} {k : Nat} (h : k < xs.length) : nmAt xs (k + 1) = nmStep (nmAt xs k) (xs.getD k tn0) := by
  unfold nmAt
  rw [List.take_add_one, List.getElem?_eq_getElem h, Option.toList_some, List.foldl_append]
  simp [List.getD_eq_getElem?_getD, List.getElem?_eq_getElem h]
theorem nmAt_len {xs : List Tn} : ∀ k, k ≤ xs.length → (nmAt xs k).length ≤ k := by
  intro k
  induction k with
  | zero => intro _; simp [nmAt]
  | succ k ih =>
    intro h
    rw [nmAt_succ (by omega)]
    have h1 := ih (by omega)
    unfold nmStep
    split
    · have := intoL_len (nmAt xs k) (xs.getD k tn0).s; omega
    · omega
theorem okT_len {xs : List Tn} (h : okT xs = true) : xs.length ≤ 100 := by
  unfold okT at h
  rw [Bool.and_eq_true] at h
  exact of_decide_eq_true h.1
set_option maxHeartbeats 8000000 in
theorem sTermNames (a : Option Addr) (cap : Nat) (xs : List Tn) (w : World) (hR : InN w a xs.length cap xs) :
    Calls Try.prog 5 #[.agg #[.slice a xs.length cap]] w fun e w' => (∃ av cv, e = .returned (.slice av (tnN xs).length cv) ∧ OT w' w.heap.size av cv (tnN xs)) ∧ Below w.heap.size w w' := by
  have K0 := CS.made w _ rfl #[.slice a xs.length cap] 30
  have hBB : Below w.heap.size w (w.alloc (.cells #[.slice a xs.length cap] 30)) := old_alloc (Below.refl _ _) _
  have TO := hd (fun W (h : Below w.heap.size w W) => sTermOk a xs.length cap xs W (hR.old h))
  have k0 := K0.cell 0 _ rfl
  cases hok : okT xs
  · have hq : Hid (tnN xs = []) := by show _ = _; unfold tnN; rw [hok]; rfl
    rw [hok] at TO
    clear hok
    go_enter Try.func5, Try.ntmps5
    go_wp2_with fail
    refine (TO.out _ hBB).mono ?_
    rintro e w1 ⟨rfl, hb1⟩
    go_wp2
    go_ret
    rw [hq.out]
    exact ⟨⟨none, 0, rfl, OT.none _ _⟩, old_trans hBB hb1⟩
  have hq : Hid (tnN xs = nmAt xs xs.length) := by show _ = _; unfold tnN; rw [hok]; rfl
  have h100 := okT_len hok
  rw [hok] at TO
  clear hok
  have hRo := hd (fun W (h : Below w.heap.size w W) => hR.old h)
  clear hR
  go_enter Try.func5, Try.ntmps5
  go_wp2_with fail
  refine (TO.out _ hBB).mono ?_
  rintro e w1 ⟨rfl, hb1⟩
  replace K0 := K0.later hb1
  replace hBB := old_trans hBB hb1
  clear k0 hb1 TO
  have hz := hBB.size
  go_wp2
  go_loopw [3, 4] (fun o i wr => ∃ (k : Nat) (av : Option Addr) (cv : Nat), k ≤ xs.length ∧ i = .int .i64 (k : Int) ∧ o = .slice av (nmAt xs k).length cv ∧ OT wr w.heap.size av cv (nmAt xs k) ∧ Below w1.heap.size w1 wr) (fun _ i _ => xs.length - (intOf i).toNat)
  case atStart => exact ⟨0, none, 0, by omega, rfl, rfl, OT.none _ _, Below.refl _ _⟩
  case round =>
    obtain ⟨k, av, cv, hk, rfl, rfl, O, hb⟩ := hrel
    have m0 := (K0.later hb).cell 0 _ rfl
    by_cases hlt : k < xs.length
    · obtain ⟨b, off, x, y, s, rfl, hbl, hx, hf, c0, c1, c2⟩ := (hRo.out _ (old_trans hBB hb)).at hlt
      have hst := nmAt_succ hlt
      rw [hx] at hst
      have hln := nmAt_len k hk
      have hki : (k : Int) < (xs.length : Int) := by omega
      have hrz := hb.size
      clear hx
      by_cases hn : x = 2 ∨ x = 13
      · have hst' : Hid (nmAt xs (k + 1) = intoL (nmAt xs k) s) := by show _ = _; rw [hst]; unfold nmStep; rw [if_pos hn]
        clear hst
        have IN := hd (fun W (h : InT W av (nmAt xs k).length cv (nmAt xs k)) => sInto av cv (nmAt xs k) s hf.2.2 W h (by omega))
        have OI' := O.inT
        generalize nmAt xs k = o at *
        rcases hn with rfl | rfl
        all_goals
          go_wp2_with fail
          refine (IN.out _ OI').mono ?_
          rintro e w2 ⟨⟨av2, cv2, rfl, O2⟩, hb2⟩
          go_wp2
          go_roundw
          case rel => exact ⟨k + 1, av2, cv2, by omega, by go_num, by rw [hst'.out], by rw [hst'.out]; exact O2.mono (by omega), old_trans hb hb2⟩
          case measure => simp [intOf]; omega
      · have hst' : Hid (nmAt xs (k + 1) = nmAt xs k) := by show _ = _; rw [hst]; unfold nmStep; rw [if_neg hn]
        clear hst
        have hn1 : ¬ x = 2 := fun h => hn (.inl h)
        have hn2 : ¬ x = 13 := fun h => hn (.inr h)
        have hb1 : (x == 2) = false := by simpa using hn1
        have hb2 : (x == 13) = false := by simpa using hn2
        generalize nmAt xs k = o at *
        go_wp2
        go_roundw
        case rel => exact ⟨k + 1, av, cv, by omega, by go_num, by rw [hst'.out], by rw [hst'.out]; exact O, hb⟩
        case measure => simp [intOf]; omega
    · obtain rfl : k = xs.length := by omega
      have hki : ¬ ((xs.length : Int) < (xs.length : Int)) := by omega
      go_wp2
      go_ret
      rw [hq.out]
      exact ⟨⟨_, _, rfl, O⟩, old_trans hBB hb⟩
end Go.Proofs.Ytafpjgojmpjajaa
