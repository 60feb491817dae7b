/- The narrow box around a wide one, a narrow box among the wide ones: the specification's loop, the program's box of each place. Conditions: 2^20 pairs at most. -/
import Derived.Test.YtmeijbiohbpgpaaE3
import Derived.Test.YtmeijbiohbpgpaaB7
namespace Go.Proofs.Ytmeijbiohbpgpaa
open Go.RowKit
set_option linter.unusedVariables false

theorem okRow_at {wd : Int} {ps : List (Int × Int)} (h : okRow wd ps = true) {k : Nat} (hk : k < ps.length) : pokB wd (ps.getD k (0, 0)).1 (ps.getD k (0, 0)).2 = true := by
  cases e : pokB wd (ps.getD k (0, 0)).1 (ps.getD k (0, 0)).2
  · rw [okRow_no (x := (ps.getD k (0, 0)).1) (y := (ps.getD k (0, 0)).2) hk rfl e] at h; cases h
  · rfl

def lessX (ps : List (Int × Int)) (k : Nat) : Int := belI (ps.getD k (0, 0)).1
def lessY (ps : List (Int × Int)) (k : Nat) : Int := -belI (-(ps.getD k (0, 0)).2)
def lessL (ps : List (Int × Int)) : List (Int × Int) := madeL ps.length (lessX ps) (lessY ps)

set_option maxHeartbeats 4000000 in
theorem sBoxLess (a : Option Addr) (len cap : Nat) (ps : List (Int × Int)) (w : World) (hR : InRow w a len cap ps) :
    Calls Try.prog 41 #[.agg #[.slice a len cap]] w fun e w' => BoxRes w.heap.size w' e (okRow 64 ps) (lessL ps) ∧ Below w.heap.size w w' := by
  have hlen : len ≤ maxLen := Nat.le_trans hR.2.1 hR.2.2.1
  have hp := hR.1
  unfold maxLen at hlen
  have hb1 : Below w.heap.size w ((w.alloc (.cells #[.slice a len cap] 29)).alloc (.cells #[.slice none 0 0] 29)) := ((Below.refl _ w).alloc (Nat.le_refl _) _).alloc (by simp) _
  have K : Cel1 ((w.alloc (.cells #[.slice a len cap] 29)).alloc (.cells #[.slice none 0 0] 29)) w.heap.size (.slice a len cap) := (Cel1.made w _ rfl _ _).alloc _
  have M : Cel1 ((w.alloc (.cells #[.slice a len cap] 29)).alloc (.cells #[.slice none 0 0] 29)) (w.heap.size + 1) (.slice none 0 0) := Cel1.made _ _ (by simp) _ _
  have S := hd (sBoxOk 64 a len cap ps _ (hR.old hb1))
  have hR1 := hR.old hb1
  cases hok : okRow 64 ps
  · rw [hok] at S
    clear hok
    go_enter Try.func41, Try.ntmps41
    go_wp2_with fail
    refine S.out.mono ?_
    rintro e wa ⟨rfl, hba⟩
    replace M := M.later hba
    obtain ⟨m0, m1, m2⟩ := id M
    have hB : Below w.heap.size w wa := old_trans hb1 hba
    go_wp2
    refine bodyPost_ret (v := .tuple #[.agg #[.slice none 0 0], .bool false]) ?_ rfl ⟨.inr ⟨rfl, rfl⟩, hB.setCell (p := ⟨w.heap.size + 1, 0, none⟩) (by simp) _⟩
    simp [results, Try.results41, go_sem, m0]
  rw [hok] at S
  have hol := okRow_len hok
  have hall : Hid (∀ k, k < len → pokB 64 (ps.getD k (0, 0)).1 (ps.getD k (0, 0)).2 = true) := fun k hk => okRow_at hok (by omega)
  obtain ⟨b, off, -, -, rfl, hbl, -, -, -, -⟩ := hR.at (k := 0) (by omega)
  have hL : lessL ps = madeL len (lessX ps) (lessY ps) := by unfold lessL; rw [hp]
  rw [hL]
  clear hok hL
  go_enter Try.func41, Try.ntmps41
  go_wp2_with fail
  refine S.out.mono ?_
  rintro e wa ⟨rfl, hba⟩
  replace K := K.later hba
  replace M := M.later hba
  replace hR1 := hR1.old hba
  have hB : Below w.heap.size w wa := old_trans hb1 hba
  have hsz : w.heap.size + 1 + 1 ≤ wa.heap.size := by have := hba.size; simp at this; omega
  obtain ⟨i0, hi, hz0, hz1, hz2⟩ := info_parts infoPair
  go_wp2
  go_loopw [5] (fun i wr => ∃ (k : Nat) (av : Option Addr) (nv cv : Nat), k ≤ len ∧ i = .int .i64 k ∧ Grows wr (wa.heap.size + 1) (.slice av nv cv) (madeL k (lessX ps) (lessY ps)) ∧ Cel1 wr wa.heap.size (.slice av nv cv) ∧ Cel1 wr w.heap.size (.slice (some ⟨b, off, none⟩) len cap) ∧ Cel1 wr (w.heap.size + 1) (.slice none 0 0) ∧ InRow wr (some ⟨b, off, none⟩) len cap ps ∧ wa.heap.size + 1 ≤ wr.heap.size ∧ Below w.heap.size w wr) (fun b _ => len - (intOf b).toNat)
  case atStart => exact ⟨0, none, 0, 0, by omega, rfl, Grows.nil _ _, Cel1.made _ _ rfl _ _, K.alloc _, M.alloc _, hR1.alloc _, by simp, hB.alloc hB.size _⟩
  case round =>
    clear K M hR1 hB
    obtain ⟨k, av, nv, cv, hk, rfl, G, O, K, M, hRr, hszr, hb⟩ := hrel
    obtain ⟨k0, k1, k2⟩ := id K
    by_cases hlt : k < len
    · obtain ⟨b', off', x, y, ha, -, hx, ⟨⟨q1, q2⟩, q3, q4⟩, c0, c1⟩ := hRr.at hlt
      obtain ⟨rfl, rfl⟩ : b = b' ∧ off = off' := by injection ha with ha; injection ha with h1 h2; exact ⟨h1, h2⟩
      clear ha
      have hpk := hall.out k hlt
      rw [hx] at hpk
      have E := hd (sPairLess x y)
      have hX : lessX ps k = belI x := by unfold lessX; rw [hx]
      have hY : lessY ps k = -belI (-y) := by unfold lessY; rw [hx]
      have hm := madeL_snoc k (lessX ps) (lessY ps)
      rw [hX, hY] at hm
      rw [show pokB 64 x y = true from hpk] at E
      clear hX hY hpk
      generalize belI x = u at *
      generalize -belI (-y) = v at *
      have E' : Hid (∀ w : World, Calls Try.prog 84 #[.agg #[.int .i64 x, .int .i64 y]] w fun e w' => e = .returned (.tuple #[.agg #[.int .i64 u, .int .i64 v], .bool true]) ∧ Below w.heap.size w w') := E
      clear E
      go_wp2_with fail
      refine (E'.out _).mono ?_
      rintro e w1 ⟨rfl, hbx⟩
      replace K := K.later hbx
      replace M := M.later hbx
      replace O := O.later hbx
      replace hRr := hRr.old hbx
      replace G := G.later hbx
      have hB : Below w.heap.size w w1 := (by repeat (first | exact hb | exact Below.refl _ _ | refine Below.drew ?_ | refine old_alloc ?_ _ | refine old_trans ?_ (by assumption)))
      have hs1 : wa.heap.size + 1 ≤ w1.heap.size := Nat.le_trans hszr hbx.size
      clear k0 k1 k2 hb hszr hbx E'
      have O2 := (O.alloc (.cells #[.int .i64 u, .int .i64 v] 47)).alloc (.cells #[.int .i64 u, .int .i64 v] 47)
      have K2 := (K.alloc (.cells #[.int .i64 u, .int .i64 v] 47)).alloc (.cells #[.int .i64 u, .int .i64 v] 47)
      have M2 := (M.alloc (.cells #[.int .i64 u, .int .i64 v] 47)).alloc (.cells #[.int .i64 u, .int .i64 v] 47)
      have R2 := (hRr.alloc (.cells #[.int .i64 u, .int .i64 v] 47)).alloc (.cells #[.int .i64 u, .int .i64 v] 47)
      have G2 := (G.alloc (.cells #[.int .i64 u, .int .i64 v] 47)).alloc (.cells #[.int .i64 u, .int .i64 v] 47)
      have B2 : Below w.heap.size w ((w1.alloc (.cells #[.int .i64 u, .int .i64 v] 47)).alloc (.cells #[.int .i64 u, .int .i64 v] 47)) := (hB.alloc hB.size _).alloc (by have := hB.size; simp; omega) _
      have cw := cells_two (w1.alloc (.cells #[.int .i64 u, .int .i64 v] 47)) (w1.heap.size + 1) (by simp) (.int .i64 u) (.int .i64 v) 47
      obtain ⟨o0, o1, o2⟩ := id O
      have hml := madeL_length k (lessX ps) (lessY ps)
      go_wp2_with (at_builtin; refine wpList_append_own _ rfl _ _ 27 rfl (wa.heap.size + 1) 47 i0 _ 2 16 Try.underlying27 hi hz0 hz1 hz2 rfl (by decide) _ _ _ rfl G2 ⟨w1.heap.size + 1, 0, none⟩ 1 1 [.int .i64 u, .int .i64 v] rfl rfl cw (by simp [Value.oneCell']) (by rw [hml]; unfold maxLen; omega) (by rw [hml]; omega) (by simp; omega) ?_; intro v' w5 hown hgrow _; rw [hml] at hown; obtain ⟨g', cap', rfl⟩ := ownsRow_succ hown; have O5 := O2.kept hgrow (G2.far (by omega)); have o5 := O5.1; have f5 := O5.2.1; have l5 := O5.2.2)
      have G5 : Grows w5 (wa.heap.size + 1) (.slice (some ⟨g', 0, none⟩) (k + 1) cap') (madeL (k + 1) (lessX ps) (lessY ps)) := by
        rw [hm]
        unfold Grows
        rw [flat_snoc, List.length_append, hml]
        exact hown
      have K5 := K2.kept hgrow (G2.far (by omega))
      have M5 := M2.kept hgrow (G2.far (by omega))
      have R5 := R2.kept hgrow (fun q e => by cases e; exact G2.far (by show b < _; omega))
      have B5 := B2.grown hgrow B2.size (fun c e => by have := (World.ownsRow.lt G2 c e).1; omega)
      have S5 := hgrow.size
      go_roundw
      case rel => exact ⟨k + 1, _, _, _, by omega, by go_num, G5.set (by omega) _, O5.set _, K5.other _ (by simp <;> omega) _, M5.other _ (by simp <;> omega) _, R5.set _ _ (fun q e => by cases e; simp <;> omega), by simp [World.setCell]; simp at S5; omega, B5.setCell (p := ⟨wa.heap.size, 0, none⟩) (by simp <;> omega) _⟩
      case measure => simp [intOf]; omega
    · obtain rfl : k = len := by omega
      obtain ⟨g, cap2, hv, hg1, hg2, hg3, hrow⟩ := G.row (by rw [madeL_length]; omega)
      rw [madeL_length] at hv
      injection hv with e1 e2 e3
      subst e1 e2 e3
      obtain ⟨o0, o1, o2⟩ := id O
      obtain ⟨m0, m1, m2⟩ := id M
      go_wp2
      refine bodyPost_ret (v := .tuple #[.agg #[.slice (some ⟨g, 0, none⟩) (madeL nv (lessX ps) (lessY ps)).length cv], .bool true]) ?_ rfl ⟨.inl ⟨rfl, g, cv, rfl, by omega, hg2, hg3, hrow.other ⟨w.heap.size + 1, 0, none⟩ (by simp <;> omega) _⟩, hb.setCell (p := ⟨w.heap.size + 1, 0, none⟩) (by simp) _⟩
      simp [results, Try.results41, go_sem, m0, madeL_length]
end Go.Proofs.Ytmeijbiohbpgpaa
