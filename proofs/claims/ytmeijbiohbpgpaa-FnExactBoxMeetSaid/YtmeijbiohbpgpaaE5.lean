/- The narrow box around a wide one, a narrow box among the wide ones: by the program; the second one by the specification. Conditions: 2^20 pairs at most. -/
import Derived.Test.YtmeijbiohbpgpaaE4
import Derived.Test.YtmeijbiohbpgpaaCut
namespace Go.Proofs.Ytmeijbiohbpgpaa
open Go.RowKit
set_option linter.unusedVariables false

set_option maxHeartbeats 2000000 in
theorem iBoxLess1 (a : Option Addr) (len cap : Nat) (ps : List (Int × Int)) (Bx k : Nat) (hk : k < len) (w : World) (hR : InRow w a len cap ps) (hB : w.cell? ⟨Bx, 0, none⟩ = some (.slice a len cap)) (hBl : Bx < w.heap.size) (hpk : pokB 64 (ps.getD k (0, 0)).1 (ps.getD k (0, 0)).2 = true) :
    Calls Try.prog 85 #[.int .i64 (k : Int), .pointer (some ⟨Bx, 0, none⟩)] w fun e w' => e = .returned (.tuple #[.agg #[.int .i64 (lessX ps k), .int .i64 (lessY ps k)], .bool true]) ∧ Below w.heap.size w w' := by
  have hlen : len ≤ maxLen := Nat.le_trans hR.2.1 hR.2.2.1
  unfold maxLen at hlen
  have hR1 := hR.alloc (.cells #[.int .i64 0, .int .i64 0] 47)
  obtain ⟨b, off, x, y, rfl, hbl, hx, ⟨⟨q1, q2⟩, q3, q4⟩, c0, c1⟩ := hR1.at hk
  have hX : lessX ps k = belI x := by unfold lessX; rw [hx]
  have hY : lessY ps k = -belI (-y) := by unfold lessY; rw [hx]
  have E := hd (iPairLess x y)
  rw [hx] at hpk
  rw [show pokB 64 x y = true from hpk] at E
  rw [hX, hY]
  clear hX hY hpk
  generalize belI x = u at *
  generalize -belI (-y) = v at *
  have E' : Hid (∀ w : World, Calls Try.prog 86 #[.agg #[.int .i64 x, .int .i64 y]] w fun e w' => e = .returned (.tuple #[.agg #[.int .i64 u, .int .i64 v], .bool true]) ∧ Below w.heap.size w w') := E
  clear E
  have B1 : (w.alloc (.cells #[.int .i64 0, .int .i64 0] 47)).cell? ⟨Bx, 0, none⟩ = some (.slice (some ⟨b, off, none⟩) len cap) := (World.grownBy_alloc w _ none).cell hB (by simp)
  have N : Cel2 (w.alloc (.cells #[.int .i64 0, .int .i64 0] 47)) w.heap.size (.int .i64 0) (.int .i64 0) := Cel2.made w _ rfl _ _ _
  go_enter Try.func85, Try.ntmps85
  go_wp2_with fail
  refine (E'.out _).mono ?_
  rintro e w1 ⟨rfl, hb1⟩
  replace N := N.later hb1
  obtain ⟨n0, n1, n2, n3, n4⟩ := id N
  have hb : Below w.heap.size w w1 := (by repeat (first | exact Below.refl _ _ | refine Below.drew ?_ | refine old_alloc ?_ _ | refine old_trans ?_ (by assumption)))
  go_wp2
  have N2 := N.stored (.int .i64 u) (.int .i64 v)
  refine bodyPost_ret (v := .tuple #[.agg #[.int .i64 u, .int .i64 v], .bool true]) ?_ rfl ⟨rfl, (hb.setCell (p := ⟨w.heap.size, 0, none⟩) (Nat.le_refl _) _).setCell (p := ⟨w.heap.size, 1, none⟩) (Nat.le_refl _) _⟩
  simp [results, Try.results85, go_sem, N2.1, N2.2.1]

set_option maxHeartbeats 4000000 in
theorem iBoxLess (a : Option Addr) (len cap : Nat) (ps : List (Int × Int)) (w : World) (hR : InRow w a len cap ps) :
    Calls Try.prog 42 #[.agg #[.slice a len cap]] w fun e w' => BoxRes w.heap.size w' e (okRow 64 ps) (lessL ps) ∧ Below w.heap.size w w' := by
  have hlen : len ≤ maxLen := Nat.le_trans hR.2.1 hR.2.2.1
  have hp := hR.1
  unfold maxLen at hlen
  have hb1 : Below w.heap.size w ((w.alloc (.cells #[.slice a len cap] 29)).alloc (.cells #[.slice none 0 0] 29)) := ((Below.refl _ w).alloc (Nat.le_refl _) _).alloc (by simp) _
  have K : Cel1 ((w.alloc (.cells #[.slice a len cap] 29)).alloc (.cells #[.slice none 0 0] 29)) w.heap.size (.slice a len cap) := (Cel1.made w _ rfl _ _).alloc _
  have M : Cel1 ((w.alloc (.cells #[.slice a len cap] 29)).alloc (.cells #[.slice none 0 0] 29)) (w.heap.size + 1) (.slice none 0 0) := Cel1.made _ _ (by simp) _ _
  have S := hd (iBoxOk 64 a len cap ps _ (hR.old hb1))
  have hR1 := hR.old hb1
  cases hok : okRow 64 ps
  · rw [hok] at S
    clear hok
    go_enter Try.func42, Try.ntmps42
    go_wp2_with fail
    refine S.out.mono ?_
    rintro e wa ⟨rfl, hba⟩
    replace M := M.later hba
    obtain ⟨m0, m1, m2⟩ := id M
    have hB : Below w.heap.size w wa := old_trans hb1 hba
    go_wp2
    refine bodyPost_ret (v := .tuple #[.agg #[.slice none 0 0], .bool false]) ?_ rfl ⟨.inr ⟨rfl, rfl⟩, hB.setCell (p := ⟨w.heap.size + 1, 0, none⟩) (by simp) _⟩
    simp [results, Try.results42, go_sem, m0]
  rw [hok] at S
  have hol := okRow_len hok
  have hall : ∀ k, k < len → pokB 64 (ps.getD k (0, 0)).1 (ps.getD k (0, 0)).2 = true := fun k hk => okRow_at hok (by omega)
  have hL : lessL ps = madeL len (lessX ps) (lessY ps) := by unfold lessL; rw [hp]
  rw [hL]
  clear hok hL
  go_enter Try.func42, Try.ntmps42
  go_wp2_with fail
  refine S.out.mono ?_
  rintro e wa ⟨rfl, hba⟩
  replace K := K.later hba
  replace M := M.later hba
  replace hR1 := hR1.old hba
  have hB : Below w.heap.size w wa := old_trans hb1 hba
  obtain ⟨k0, k1, k2⟩ := id K
  go_wp2_with fail
  refine (ofEach 85 #[.pointer (some ⟨w.heap.size, 0, none⟩)] len (by omega) (lessX ps) (lessY ps) (fun _ => true) wa (enters_of Try.func85 (by kernel_rfl) rfl)
    (fun k W hk hW => iBoxLess1 a len cap ps w.heap.size k hk W (hR1.old hW) (K.later hW).1 (K.later hW).2.2 (hall k hk))).mono ?_
  rintro e w2 ⟨⟨-, g, rfl, hg, hrow⟩ | ⟨⟨k, -, hk⟩, -⟩, hb2⟩
  case inr => cases hk
  replace M := M.later hb2
  obtain ⟨m0, m1, m2⟩ := id M
  have hB2 : Below w.heap.size w w2 := old_trans hB hb2
  have hg2 : w.heap.size ≤ g := Nat.le_trans hB.size hg
  have hne : g ≠ w.heap.size + 1 := by have := hba.size; simp at this; omega
  go_wp2
  refine bodyPost_ret (v := .tuple #[.agg #[.slice (some ⟨g, 0, none⟩) (madeL len (lessX ps) (lessY ps)).length len], .bool true]) ?_ rfl ⟨.inl ⟨rfl, g, len, rfl, hg2, by rw [madeL_length]; omega, by unfold maxLen; omega, hrow.other ⟨w.heap.size + 1, 0, none⟩ hne _⟩, hB2.setCell (p := ⟨w.heap.size + 1, 0, none⟩) (by simp) _⟩
  simp [results, Try.results42, go_sem, m0, madeL_length]

def moreX (ps : List (Int × Int)) (k : Nat) : Int := widI (ps.getD k (0, 0)).1
def moreY (ps : List (Int × Int)) (k : Nat) : Int := widI (ps.getD k (0, 0)).2
def moreL (ps : List (Int × Int)) : List (Int × Int) := madeL ps.length (moreX ps) (moreY ps)

set_option maxHeartbeats 4000000 in
theorem sBoxMore (a : Option Addr) (len cap : Nat) (ps : List (Int × Int)) (w : World) (hR : InRow w a len cap ps) :
    Calls Try.prog 43 #[.agg #[.slice a len cap]] w fun e w' => BoxRes w.heap.size w' e (okRow 32 ps) (moreL ps) ∧ Below w.heap.size w w' := by
  have hlen : len ≤ maxLen := Nat.le_trans hR.2.1 hR.2.2.1
  have hp := hR.1
  unfold maxLen at hlen
  have hb1 : Below w.heap.size w ((w.alloc (.cells #[.slice a len cap] 29)).alloc (.cells #[.slice none 0 0] 29)) := ((Below.refl _ w).alloc (Nat.le_refl _) _).alloc (by simp) _
  have K : Cel1 ((w.alloc (.cells #[.slice a len cap] 29)).alloc (.cells #[.slice none 0 0] 29)) w.heap.size (.slice a len cap) := (Cel1.made w _ rfl _ _).alloc _
  have M : Cel1 ((w.alloc (.cells #[.slice a len cap] 29)).alloc (.cells #[.slice none 0 0] 29)) (w.heap.size + 1) (.slice none 0 0) := Cel1.made _ _ (by simp) _ _
  have S := hd (sBoxOk 32 a len cap ps _ (hR.old hb1))
  have hR1 := hR.old hb1
  cases hok : okRow 32 ps
  · rw [hok] at S
    clear hok
    go_enter Try.func43, Try.ntmps43
    go_wp2_with fail
    refine S.out.mono ?_
    rintro e wa ⟨rfl, hba⟩
    replace M := M.later hba
    obtain ⟨m0, m1, m2⟩ := id M
    have hB : Below w.heap.size w wa := old_trans hb1 hba
    go_wp2
    refine bodyPost_ret (v := .tuple #[.agg #[.slice none 0 0], .bool false]) ?_ rfl ⟨.inr ⟨rfl, rfl⟩, hB.setCell (p := ⟨w.heap.size + 1, 0, none⟩) (by simp) _⟩
    simp [results, Try.results43, go_sem, m0]
  rw [hok] at S
  have hol := okRow_len hok
  have hall : Hid (∀ k, k < len → pokB 32 (ps.getD k (0, 0)).1 (ps.getD k (0, 0)).2 = true) := fun k hk => okRow_at hok (by omega)
  obtain ⟨b, off, -, -, rfl, hbl, -, -, -, -⟩ := hR.at (k := 0) (by omega)
  have hL : moreL ps = madeL len (moreX ps) (moreY ps) := by unfold moreL; rw [hp]
  rw [hL]
  clear hok hL
  go_enter Try.func43, Try.ntmps43
  go_wp2_with fail
  refine S.out.mono ?_
  rintro e wa ⟨rfl, hba⟩
  replace K := K.later hba
  replace M := M.later hba
  replace hR1 := hR1.old hba
  have hB : Below w.heap.size w wa := old_trans hb1 hba
  have hsz : w.heap.size + 1 + 1 ≤ wa.heap.size := by have := hba.size; simp at this; omega
  obtain ⟨i0, hi, hz0, hz1, hz2⟩ := info_parts infoPair
  go_wp2
  go_loopw [5] (fun i wr => ∃ (k : Nat) (av : Option Addr) (nv cv : Nat), k ≤ len ∧ i = .int .i64 k ∧ Grows wr (wa.heap.size + 1) (.slice av nv cv) (madeL k (moreX ps) (moreY ps)) ∧ Cel1 wr wa.heap.size (.slice av nv cv) ∧ Cel1 wr w.heap.size (.slice (some ⟨b, off, none⟩) len cap) ∧ Cel1 wr (w.heap.size + 1) (.slice none 0 0) ∧ InRow wr (some ⟨b, off, none⟩) len cap ps ∧ wa.heap.size + 1 ≤ wr.heap.size ∧ Below w.heap.size w wr) (fun b _ => len - (intOf b).toNat)
  case atStart => exact ⟨0, none, 0, 0, by omega, rfl, Grows.nil _ _, Cel1.made _ _ rfl _ _, K.alloc _, M.alloc _, hR1.alloc _, by simp, hB.alloc hB.size _⟩
  case round =>
    clear K M hR1 hB
    obtain ⟨k, av, nv, cv, hk, rfl, G, O, K, M, hRr, hszr, hb⟩ := hrel
    obtain ⟨k0, k1, k2⟩ := id K
    by_cases hlt : k < len
    · obtain ⟨b', off', x, y, ha, -, hx, ⟨⟨q1, q2⟩, q3, q4⟩, c0, c1⟩ := hRr.at hlt
      obtain ⟨rfl, rfl⟩ : b = b' ∧ off = off' := by injection ha with ha; injection ha with h1 h2; exact ⟨h1, h2⟩
      clear ha
      have hpk := hall.out k hlt
      rw [hx] at hpk
      have E := hd (sPairMore x y)
      have hX : moreX ps k = widI x := by unfold moreX; rw [hx]
      have hY : moreY ps k = widI y := by unfold moreY; rw [hx]
      have hm := madeL_snoc k (moreX ps) (moreY ps)
      rw [hX, hY] at hm
      rw [show pokB 32 x y = true from hpk] at E
      clear hX hY hpk
      generalize widI x = u at *
      generalize widI y = v at *
      have E' : Hid (∀ w : World, Calls Try.prog 87 #[.agg #[.int .i64 x, .int .i64 y]] w fun e w' => e = .returned (.tuple #[.agg #[.int .i64 u, .int .i64 v], .bool true]) ∧ Below w.heap.size w w') := E
      clear E
      go_wp2_with fail
      refine (E'.out _).mono ?_
      rintro e w1 ⟨rfl, hbx⟩
      replace K := K.later hbx
      replace M := M.later hbx
      replace O := O.later hbx
      replace hRr := hRr.old hbx
      replace G := G.later hbx
      have hB : Below w.heap.size w w1 := (by repeat (first | exact hb | exact Below.refl _ _ | refine Below.drew ?_ | refine old_alloc ?_ _ | refine old_trans ?_ (by assumption)))
      have hs1 : wa.heap.size + 1 ≤ w1.heap.size := Nat.le_trans hszr hbx.size
      clear k0 k1 k2 hb hszr hbx E'
      have O2 := (O.alloc (.cells #[.int .i64 u, .int .i64 v] 47)).alloc (.cells #[.int .i64 u, .int .i64 v] 47)
      have K2 := (K.alloc (.cells #[.int .i64 u, .int .i64 v] 47)).alloc (.cells #[.int .i64 u, .int .i64 v] 47)
      have M2 := (M.alloc (.cells #[.int .i64 u, .int .i64 v] 47)).alloc (.cells #[.int .i64 u, .int .i64 v] 47)
      have R2 := (hRr.alloc (.cells #[.int .i64 u, .int .i64 v] 47)).alloc (.cells #[.int .i64 u, .int .i64 v] 47)
      have G2 := (G.alloc (.cells #[.int .i64 u, .int .i64 v] 47)).alloc (.cells #[.int .i64 u, .int .i64 v] 47)
      have B2 : Below w.heap.size w ((w1.alloc (.cells #[.int .i64 u, .int .i64 v] 47)).alloc (.cells #[.int .i64 u, .int .i64 v] 47)) := (hB.alloc hB.size _).alloc (by have := hB.size; simp; omega) _
      have cw := cells_two (w1.alloc (.cells #[.int .i64 u, .int .i64 v] 47)) (w1.heap.size + 1) (by simp) (.int .i64 u) (.int .i64 v) 47
      obtain ⟨o0, o1, o2⟩ := id O
      have hml := madeL_length k (moreX ps) (moreY ps)
      go_wp2_with (at_builtin; refine wpList_append_own _ rfl _ _ 27 rfl (wa.heap.size + 1) 47 i0 _ 2 16 Try.underlying27 hi hz0 hz1 hz2 rfl (by decide) _ _ _ rfl G2 ⟨w1.heap.size + 1, 0, none⟩ 1 1 [.int .i64 u, .int .i64 v] rfl rfl cw (by simp [Value.oneCell']) (by rw [hml]; unfold maxLen; omega) (by rw [hml]; omega) (by simp; omega) ?_; intro v' w5 hown hgrow _; rw [hml] at hown; obtain ⟨g', cap', rfl⟩ := ownsRow_succ hown; have O5 := O2.kept hgrow (G2.far (by omega)); have o5 := O5.1; have f5 := O5.2.1; have l5 := O5.2.2)
      have G5 : Grows w5 (wa.heap.size + 1) (.slice (some ⟨g', 0, none⟩) (k + 1) cap') (madeL (k + 1) (moreX ps) (moreY ps)) := by
        rw [hm]
        unfold Grows
        rw [flat_snoc, List.length_append, hml]
        exact hown
      have K5 := K2.kept hgrow (G2.far (by omega))
      have M5 := M2.kept hgrow (G2.far (by omega))
      have R5 := R2.kept hgrow (fun q e => by cases e; exact G2.far (by show b < _; omega))
      have B5 := B2.grown hgrow B2.size (fun c e => by have := (World.ownsRow.lt G2 c e).1; omega)
      have S5 := hgrow.size
      go_roundw
      case rel => exact ⟨k + 1, _, _, _, by omega, by go_num, G5.set (by omega) _, O5.set _, K5.other _ (by simp <;> omega) _, M5.other _ (by simp <;> omega) _, R5.set _ _ (fun q e => by cases e; simp <;> omega), by simp [World.setCell]; simp at S5; omega, B5.setCell (p := ⟨wa.heap.size, 0, none⟩) (by simp <;> omega) _⟩
      case measure => simp [intOf]; omega
    · obtain rfl : k = len := by omega
      obtain ⟨g, cap2, hv, hg1, hg2, hg3, hrow⟩ := G.row (by rw [madeL_length]; omega)
      rw [madeL_length] at hv
      injection hv with e1 e2 e3
      subst e1 e2 e3
      obtain ⟨o0, o1, o2⟩ := id O
      obtain ⟨m0, m1, m2⟩ := id M
      go_wp2
      refine bodyPost_ret (v := .tuple #[.agg #[.slice (some ⟨g, 0, none⟩) (madeL nv (moreX ps) (moreY ps)).length cv], .bool true]) ?_ rfl ⟨.inl ⟨rfl, g, cv, rfl, by omega, hg2, hg3, hrow.other ⟨w.heap.size + 1, 0, none⟩ (by simp <;> omega) _⟩, hb.setCell (p := ⟨w.heap.size + 1, 0, none⟩) (by simp) _⟩
      simp [results, Try.results43, go_sem, m0, madeL_length]

set_option maxHeartbeats 2000000 in
theorem iBoxMore1 (a : Option Addr) (len cap : Nat) (ps : List (Int × Int)) (Bx k : Nat) (hk : k < len) (w : World) (hR : InRow w a len cap ps) (hB : w.cell? ⟨Bx, 0, none⟩ = some (.slice a len cap)) (hBl : Bx < w.heap.size) (hpk : pokB 32 (ps.getD k (0, 0)).1 (ps.getD k (0, 0)).2 = true) :
    Calls Try.prog 88 #[.int .i64 (k : Int), .pointer (some ⟨Bx, 0, none⟩)] w fun e w' => e = .returned (.tuple #[.agg #[.int .i64 (moreX ps k), .int .i64 (moreY ps k)], .bool true]) ∧ Below w.heap.size w w' := by
  have hlen : len ≤ maxLen := Nat.le_trans hR.2.1 hR.2.2.1
  unfold maxLen at hlen
  have hR1 := hR.alloc (.cells #[.int .i64 0, .int .i64 0] 47)
  obtain ⟨b, off, x, y, rfl, hbl, hx, ⟨⟨q1, q2⟩, q3, q4⟩, c0, c1⟩ := hR1.at hk
  have hX : moreX ps k = widI x := by unfold moreX; rw [hx]
  have hY : moreY ps k = widI y := by unfold moreY; rw [hx]
  have E := hd (iPairMore x y)
  rw [hx] at hpk
  rw [show pokB 32 x y = true from hpk] at E
  rw [hX, hY]
  clear hX hY hpk
  generalize widI x = u at *
  generalize widI y = v at *
  have E' : Hid (∀ w : World, Calls Try.prog 89 #[.agg #[.int .i64 x, .int .i64 y]] w fun e w' => e = .returned (.tuple #[.agg #[.int .i64 u, .int .i64 v], .bool true]) ∧ Below w.heap.size w w') := E
  clear E
  have B1 : (w.alloc (.cells #[.int .i64 0, .int .i64 0] 47)).cell? ⟨Bx, 0, none⟩ = some (.slice (some ⟨b, off, none⟩) len cap) := (World.grownBy_alloc w _ none).cell hB (by simp)
  have N : Cel2 (w.alloc (.cells #[.int .i64 0, .int .i64 0] 47)) w.heap.size (.int .i64 0) (.int .i64 0) := Cel2.made w _ rfl _ _ _
  go_enter Try.func88, Try.ntmps88
  go_wp2_with fail
  refine (E'.out _).mono ?_
  rintro e w1 ⟨rfl, hb1⟩
  replace N := N.later hb1
  obtain ⟨n0, n1, n2, n3, n4⟩ := id N
  have hb : Below w.heap.size w w1 := (by repeat (first | exact Below.refl _ _ | refine Below.drew ?_ | refine old_alloc ?_ _ | refine old_trans ?_ (by assumption)))
  go_wp2
  have N2 := N.stored (.int .i64 u) (.int .i64 v)
  refine bodyPost_ret (v := .tuple #[.agg #[.int .i64 u, .int .i64 v], .bool true]) ?_ rfl ⟨rfl, (hb.setCell (p := ⟨w.heap.size, 0, none⟩) (Nat.le_refl _) _).setCell (p := ⟨w.heap.size, 1, none⟩) (Nat.le_refl _) _⟩
  simp [results, Try.results88, go_sem, N2.1, N2.2.1]

set_option maxHeartbeats 4000000 in
theorem iBoxMore (a : Option Addr) (len cap : Nat) (ps : List (Int × Int)) (w : World) (hR : InRow w a len cap ps) :
    Calls Try.prog 44 #[.agg #[.slice a len cap]] w fun e w' => BoxRes w.heap.size w' e (okRow 32 ps) (moreL ps) ∧ Below w.heap.size w w' := by
  have hlen : len ≤ maxLen := Nat.le_trans hR.2.1 hR.2.2.1
  have hp := hR.1
  unfold maxLen at hlen
  have hb1 : Below w.heap.size w ((w.alloc (.cells #[.slice a len cap] 29)).alloc (.cells #[.slice none 0 0] 29)) := ((Below.refl _ w).alloc (Nat.le_refl _) _).alloc (by simp) _
  have K : Cel1 ((w.alloc (.cells #[.slice a len cap] 29)).alloc (.cells #[.slice none 0 0] 29)) w.heap.size (.slice a len cap) := (Cel1.made w _ rfl _ _).alloc _
  have M : Cel1 ((w.alloc (.cells #[.slice a len cap] 29)).alloc (.cells #[.slice none 0 0] 29)) (w.heap.size + 1) (.slice none 0 0) := Cel1.made _ _ (by simp) _ _
  have S := hd (iBoxOk 32 a len cap ps _ (hR.old hb1))
  have hR1 := hR.old hb1
  cases hok : okRow 32 ps
  · rw [hok] at S
    clear hok
    go_enter Try.func44, Try.ntmps44
    go_wp2_with fail
    refine S.out.mono ?_
    rintro e wa ⟨rfl, hba⟩
    replace M := M.later hba
    obtain ⟨m0, m1, m2⟩ := id M
    have hB : Below w.heap.size w wa := old_trans hb1 hba
    go_wp2
    refine bodyPost_ret (v := .tuple #[.agg #[.slice none 0 0], .bool false]) ?_ rfl ⟨.inr ⟨rfl, rfl⟩, hB.setCell (p := ⟨w.heap.size + 1, 0, none⟩) (by simp) _⟩
    simp [results, Try.results44, go_sem, m0]
  rw [hok] at S
  have hol := okRow_len hok
  have hall : ∀ k, k < len → pokB 32 (ps.getD k (0, 0)).1 (ps.getD k (0, 0)).2 = true := fun k hk => okRow_at hok (by omega)
  have hL : moreL ps = madeL len (moreX ps) (moreY ps) := by unfold moreL; rw [hp]
  rw [hL]
  clear hok hL
  go_enter Try.func44, Try.ntmps44
  go_wp2_with fail
  refine S.out.mono ?_
  rintro e wa ⟨rfl, hba⟩
  replace K := K.later hba
  replace M := M.later hba
  replace hR1 := hR1.old hba
  have hB : Below w.heap.size w wa := old_trans hb1 hba
  obtain ⟨k0, k1, k2⟩ := id K
  go_wp2_with fail
  refine (ofEach 88 #[.pointer (some ⟨w.heap.size, 0, none⟩)] len (by omega) (moreX ps) (moreY ps) (fun _ => true) wa (enters_of Try.func88 (by kernel_rfl) rfl)
    (fun k W hk hW => iBoxMore1 a len cap ps w.heap.size k hk W (hR1.old hW) (K.later hW).1 (K.later hW).2.2 (hall k hk))).mono ?_
  rintro e w2 ⟨⟨-, g, rfl, hg, hrow⟩ | ⟨⟨k, -, hk⟩, -⟩, hb2⟩
  case inr => cases hk
  replace M := M.later hb2
  obtain ⟨m0, m1, m2⟩ := id M
  have hB2 : Below w.heap.size w w2 := old_trans hB hb2
  have hg2 : w.heap.size ≤ g := Nat.le_trans hB.size hg
  have hne : g ≠ w.heap.size + 1 := by have := hba.size; simp at this; omega
  go_wp2
  refine bodyPost_ret (v := .tuple #[.agg #[.slice (some ⟨g, 0, none⟩) (madeL len (moreX ps) (moreY ps)).length len], .bool true]) ?_ rfl ⟨.inl ⟨rfl, g, len, rfl, hg2, by rw [madeL_length]; omega, by unfold maxLen; omega, hrow.other ⟨w.heap.size + 1, 0, none⟩ hne _⟩, hB2.setCell (p := ⟨w.heap.size + 1, 0, none⟩) (by simp) _⟩
  simp [results, Try.results44, go_sem, m0, madeL_length]
end Go.Proofs.Ytmeijbiohbpgpaa
