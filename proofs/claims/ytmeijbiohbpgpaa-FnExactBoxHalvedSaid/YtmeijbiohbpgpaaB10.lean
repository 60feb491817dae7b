/- Whether some coordinate came down to half: the specification's loop, the program's search. No condition. -/
import Derived.Test.YtmeijbiohbpgpaaB7
import Derived.Test.YtmeijbiohbpgpaaCut
import Derived.Deep.RegionHeld3
namespace Go.Proofs.Ytmeijbiohbpgpaa
open Go.RowKit
set_option linter.unusedVariables false

theorem cell_al {w : World} {p : Addr} {v : Value} (c : w.cell? p = some v) (o : Obj) : (w.alloc o).cell? p = some v := (World.grownBy_alloc w o none).cell c (by simp)
def anyI (n : Nat) (p : Nat → Bool) : Bool := !allI n (fun k => !p k)
theorem anyI_yes {n k : Nat} {p : Nat → Bool} (hk : k < n) (h : p k = true) : anyI n p = true := by unfold anyI; rw [allI_no hk (by simp [h])]; rfl
theorem anyI_no {n : Nat} {p : Nat → Bool} (h : ∀ k, k < n → p k = false) : anyI n p = false := by unfold anyI; rw [allI_yes (fun k hk => by simp [h k hk])]; rfl
theorem firstI_any {n : Nat} {p : Nat → Bool} : decide (firstI n p ≥ 0) = anyI n p := by
  unfold anyI
  rw [← firstI_all (p := p) (fun k _ => by simp), ← decide_not]
  congr 1; rw [eq_iff_iff]; omega
def halvAt (ps qs : List (Int × Int)) (k : Nat) : Bool := decide (0 < gapAt ps k) && decide (gapAt qs k ≤ gapAt ps k / 2)
def halvRow (wd : Int) (ps qs : List (Int × Int)) : Bool := okRow wd ps && (okRow wd qs && (isRow qs ps && anyI ps.length (halvAt ps qs)))
theorem isRow_len {ps qs : List (Int × Int)} (h : isRow ps qs = true) : ps.length = qs.length := by
  unfold isRow at h
  simp at h
  exact h.1
def Own3 (w : World) (b : Nat) (x y z : Value) : Prop := w.cell? ⟨b, 0, none⟩ = some x ∧ w.cell? ⟨b, 1, none⟩ = some y ∧ w.cell? ⟨b, 2, none⟩ = some z ∧ w.frozen? ⟨b, 0, none⟩ = false ∧ w.frozen? ⟨b, 1, none⟩ = false ∧ w.frozen? ⟨b, 2, none⟩ = false ∧ b < w.heap.size
theorem Own3.later {w w1 : World} {b : Nat} {x y z : Value} (h : Own3 w b x y z) (k : Below w.heap.size w w1) : Own3 w1 b x y z := by
  obtain ⟨h1, h2, h3, h4, h5, h6, h7⟩ := h
  exact ⟨(k.cell (p := ⟨b, 0, none⟩) h7).trans h1, (k.cell (p := ⟨b, 1, none⟩) h7).trans h2, (k.cell (p := ⟨b, 2, none⟩) h7).trans h3, (k.frozen (p := ⟨b, 0, none⟩) h7).trans h4, (k.frozen (p := ⟨b, 1, none⟩) h7).trans h5, (k.frozen (p := ⟨b, 2, none⟩) h7).trans h6, Nat.lt_of_lt_of_le h7 k.size⟩
theorem Own3.alloc {w : World} {b : Nat} {x y z : Value} (h : Own3 w b x y z) (o : Obj) : Own3 (w.alloc o) b x y z := h.later ((Below.refl _ _).alloc (Nat.le_refl _) o)
theorem Own3.drew {w : World} {b : Nat} {x y z : Value} (h : Own3 w b x y z) : Own3 w.drew b x y z := h
theorem Own3.made (w : World) (b : Nat) (hb : b = w.heap.size) (x y z : Value) (t : TypeId) : Own3 (w.alloc (.cells #[x, y, z] t)) b x y z := by subst hb; exact ⟨by simp, by simp, by simp, by simp, by simp, by simp, by simp⟩
theorem Own3.stored {w : World} {b : Nat} {u v t : Value} (h : Own3 w b u v t) (x y z : Value) : Own3 (((w.setCell ⟨b, 0, none⟩ x).setCell ⟨b, 1, none⟩ y).setCell ⟨b, 2, none⟩ z) b x y z := by
  obtain ⟨h1, h2, h3, h4, h5, h6, h7⟩ := h
  have ne : ∀ {i j : Nat}, i ≠ j → (⟨b, i, none⟩ : Addr) ≠ ⟨b, j, none⟩ := fun h e => by injection e with _ e; exact h e
  have e2 : (w.setCell ⟨b, 0, none⟩ x).cell? ⟨b, 1, none⟩ = some v := by rw [World.cell?_setCell_other _ _ _ _ (ne (by decide))]; exact h2
  have e3 : ((w.setCell ⟨b, 0, none⟩ x).setCell ⟨b, 1, none⟩ y).cell? ⟨b, 2, none⟩ = some t := by rw [World.cell?_setCell_other _ _ _ _ (ne (by decide)), World.cell?_setCell_other _ _ _ _ (ne (by decide))]; exact h3
  refine ⟨?_, ?_, World.cell?_setCell_same _ _ _ e3, by simpa using h4, by simpa using h5, by simpa using h6, by simpa [World.setCell] using h7⟩
  · rw [World.cell?_setCell_other _ _ _ _ (ne (by decide)), World.cell?_setCell_other _ _ _ _ (ne (by decide))]; exact World.cell?_setCell_same _ _ _ h1
  · rw [World.cell?_setCell_other _ _ _ _ (ne (by decide))]; exact World.cell?_setCell_same _ _ _ e2
theorem Own3.others {w : World} {b : Nat} {u v t : Value} (h : Own3 w b u v t) (b' : Nat) (hne : b ≠ b') (x y z : Value) : Own3 (((w.setCell ⟨b', 0, none⟩ x).setCell ⟨b', 1, none⟩ y).setCell ⟨b', 2, none⟩ z) b u v t := by
  obtain ⟨h1, h2, h3, h4, h5, h6, h7⟩ := h
  have ne : ∀ {i j : Nat}, (⟨b', i, none⟩ : Addr) ≠ ⟨b, j, none⟩ := fun e => by injection e with e _; exact hne e.symm
  refine ⟨?_, ?_, ?_, by simpa using h4, by simpa using h5, by simpa using h6, by simpa [World.setCell] using h7⟩
  · rw [World.cell?_setCell_other _ _ _ _ ne, World.cell?_setCell_other _ _ _ _ ne, World.cell?_setCell_other _ _ _ _ ne]; exact h1
  · rw [World.cell?_setCell_other _ _ _ _ ne, World.cell?_setCell_other _ _ _ _ ne, World.cell?_setCell_other _ _ _ _ ne]; exact h2
  · rw [World.cell?_setCell_other _ _ _ _ ne, World.cell?_setCell_other _ _ _ _ ne, World.cell?_setCell_other _ _ _ _ ne]; exact h3

set_option maxHeartbeats 4000000 in
theorem sBoxHalved (wd : Int) (a a' : Option Addr) (len len' cap cap' : Nat) (ps qs : List (Int × Int)) (w : World) (hR : InRow w a len cap ps) (hR' : InRow w a' len' cap' qs) :
    Calls Try.prog 30 #[.int .i64 wd, .agg #[.slice a len cap], .agg #[.slice a' len' cap']] w fun e w' => e = .returned (.bool (halvRow wd ps qs)) ∧ Below w.heap.size w w' := by
  have hlen : len ≤ maxLen := Nat.le_trans hR.2.1 hR.2.2.1
  have hlen' := hlen
  have hp := hR.1
  have hq := hR'.1
  unfold maxLen at hlen
  have K : Cel1 ((w.alloc (.cells #[.slice a len cap] 29)).alloc (.cells #[.slice a' len' cap'] 29)) w.heap.size (.slice a len cap) := (Cel1.made w _ rfl _ _).alloc _
  have M : Cel1 ((w.alloc (.cells #[.slice a len cap] 29)).alloc (.cells #[.slice a' len' cap'] 29)) (w.heap.size + 1) (.slice a' len' cap') := Cel1.made _ _ (by simp) _ _
  have hb0 : Below w.heap.size w ((w.alloc (.cells #[.slice a len cap] 29)).alloc (.cells #[.slice a' len' cap'] 29)) := ((Below.refl _ w).alloc (Nat.le_refl _) _).alloc (by simp) _
  have R := hR.old hb0
  have R' := hR'.old hb0
  have S1 := hd (sBoxOk wd a len cap ps _ R)
  cases h1 : okRow wd ps
  · have hno : Hid (halvRow wd ps qs = false) := by show _ = _; unfold halvRow; rw [h1]; rfl
    rw [h1] at S1
    clear h1
    go_enter Try.func30, Try.ntmps30
    go_wp2_with (go_at_call 16; refine S1.out.mono ?_; rintro e w1 ⟨rfl, hb1⟩)
    go_ret
    exact ⟨by rw [hno.out]; rfl, (by repeat (first | exact Below.refl _ _ | refine Below.drew ?_ | refine old_alloc ?_ _ | refine old_trans ?_ (by assumption)))⟩
  rw [h1] at S1
  have S2 := hd (fun w h => sBoxOk wd a' len' cap' qs w h)
  cases h2 : okRow wd qs
  · have hno : Hid (halvRow wd ps qs = false) := by show _ = _; unfold halvRow; rw [h1, h2]; rfl
    rw [h2] at S2
    clear h1 h2
    go_enter Try.func30, Try.ntmps30
    go_wp2_with fail
    refine S1.out.mono ?_
    rintro e w1 ⟨rfl, hb1⟩
    replace M := M.later hb1
    replace R' := R'.old hb1
    have m0 := M.1
    have m2 := M.2.2
    go_wp2_with (go_at_call 16; refine (S2.out _ R').mono ?_; rintro e w2 ⟨rfl, hb2⟩)
    go_ret
    exact ⟨by rw [hno.out]; rfl, (by repeat (first | exact Below.refl _ _ | refine Below.drew ?_ | refine old_alloc ?_ _ | refine old_trans ?_ (by assumption)))⟩
  rw [h2] at S2
  have S3 := hd (fun w h h' => sBoxIs a' a len' len cap' cap qs ps w h h')
  cases h3 : isRow qs ps
  · have hno : Hid (halvRow wd ps qs = false) := by show _ = _; unfold halvRow; rw [h1, h2, h3]; rfl
    rw [h3] at S3
    clear h1 h2 h3
    go_enter Try.func30, Try.ntmps30
    go_wp2_with fail
    refine S1.out.mono ?_
    rintro e w1 ⟨rfl, hb1⟩
    replace M := M.later hb1
    replace K := K.later hb1
    replace R' := R'.old hb1
    replace R := R.old hb1
    have m0 := M.1
    have m2 := M.2.2
    go_wp2_with fail
    refine (S2.out _ R').mono ?_
    rintro e w2 ⟨rfl, hb2⟩
    clear m0 m2
    replace M := M.later hb2
    replace K := K.later hb2
    replace R' := R'.old hb2
    replace R := R.old hb2
    have m0 := M.1
    have m2 := M.2.2
    have k0 := K.1
    have k2 := K.2.2
    go_wp2_with (go_at_call 20; refine (S3.out _ R' R).mono ?_; rintro e w3 ⟨rfl, hb3⟩)
    go_ret
    exact ⟨by rw [hno.out]; rfl, (by repeat (first | exact Below.refl _ _ | refine Below.drew ?_ | refine old_alloc ?_ _ | refine old_trans ?_ (by assumption)))⟩
  rw [h3] at S3
  have hll : len' = len := by have := isRow_len h3; omega
  subst hll
  have hr : Hid (halvRow wd ps qs = anyI len' (halvAt ps qs)) := by show _ = _; unfold halvRow; rw [h1, h2, h3, hp]; rfl
  clear h1 h2 h3
  generalize halvRow wd ps qs = z at *
  go_enter Try.func30, Try.ntmps30
  go_wp2_with fail
  refine S1.out.mono ?_
  rintro e w1 ⟨rfl, hb1⟩
  replace M := M.later hb1
  replace K := K.later hb1
  replace R' := R'.old hb1
  replace R := R.old hb1
  have m0 := M.1
  have m2 := M.2.2
  go_wp2_with fail
  refine (S2.out _ R').mono ?_
  rintro e w2 ⟨rfl, hb2⟩
  clear m0 m2
  replace M := M.later hb2
  replace K := K.later hb2
  replace R' := R'.old hb2
  replace R := R.old hb2
  have m0 := M.1
  have m2 := M.2.2
  have k0 := K.1
  have k2 := K.2.2
  go_wp2_with fail
  refine (S3.out _ R' R).mono ?_
  rintro e w3 ⟨rfl, hb3⟩
  clear m0 m2 k0 k2
  replace M := M.later hb3
  replace K := K.later hb3
  replace R' := R'.old hb3
  replace R := R.old hb3
  have hb : Below w.heap.size w w3 := (by repeat (first | exact Below.refl _ _ | refine Below.drew ?_ | refine old_alloc ?_ _ | refine old_trans ?_ (by assumption)))
  go_wp2
  go_loopw [7] (fun i wr => ∃ k : Nat, k ≤ len' ∧ i = .int .i64 k ∧ Hid (∀ j, j < k → halvAt ps qs j = false) ∧ Cel1 wr w.heap.size (.slice a len' cap) ∧ Cel1 wr (w.heap.size + 1) (.slice a' len' cap') ∧ InRow wr a len' cap ps ∧ InRow wr a' len' cap' qs ∧ Below w.heap.size w wr) (fun b _ => len' - (intOf b).toNat)
  case atStart => exact ⟨0, by omega, rfl, fun j hj => absurd hj (by omega), K, M, R, R', hb⟩
  case round =>
    clear K M R R' hb
    obtain ⟨k, hk, rfl, hall, K, M, hRr, hRr', hb⟩ := hrel
    obtain ⟨k0, k1, k2⟩ := id K
    obtain ⟨m0, m1, m2⟩ := id M
    by_cases hlt : k < len'
    · obtain ⟨b, off, x, y, rfl, hbl, hx, ⟨⟨q1, q2⟩, q3, q4⟩, c0, c1⟩ := hRr.at hlt
      obtain ⟨b', off', x', y', rfl, hbl', hx', ⟨⟨r1, r2⟩, r3, r4⟩, d0, d1⟩ := hRr'.at hlt
      have E := hd (sPGapB x y q1 q2 q3 q4)
      have E' := hd (sPGapB x' y' r1 r2 r3 r4)
      have hf : halvAt ps qs k = (decide (0 < gapI x y) && decide (gapI x' y' ≤ gapI x y / 2)) := by unfold halvAt; rw [gapAt_eq hx, gapAt_eq hx']
      have hgb1 := gapI_bd x y q1 q4
      have hgb2 := gapI_bd x' y' r1 r4
      generalize gapI x y = g at *
      generalize gapI x' y' = g' at *
      have step : halvAt ps qs k = false → Hid (∀ j, j < k + 1 → halvAt ps qs j = false) := by
        intro h j hj
        by_cases e : j = k
        · subst e; exact h
        · exact hall j (by omega)
      by_cases g0 : g = 0
      · have hall' := step (by rw [hf, g0]; rfl)
        clear hf step
        subst g0
        go_wp2_with (go_at_call 63; refine (E.out _).mono ?_; rintro e wx ⟨rfl, hbx⟩)
        go_roundw
        case rel => exact ⟨k + 1, by omega, by go_num, hall', K.later hbx, M.later hbx, hRr.old hbx, hRr'.old hbx, (by repeat (first | exact hb | exact Below.refl _ _ | refine Below.drew ?_ | refine old_alloc ?_ _ | refine old_trans ?_ (by assumption)))⟩
        case measure => simp [intOf]; omega
      have gp : 0 < g := by omega
      by_cases gh : g' ≤ g / 2
      · have hyes : Hid (z = true) := hr.out.trans (anyI_yes hlt (by rw [hf]; simp [gp, gh]))
        clear hf step
        go_wp2_with fail
        refine (E.out _).mono ?_
        rintro e wx ⟨rfl, hbx⟩
        have d0 := cell_later hbx d0
        have d1 := cell_later hbx d1
        have m0 := cell_later hbx m0
        go_wp2_with (go_at_call 63; refine (E'.out _).mono ?_; rintro e wy ⟨rfl, hby⟩)
        go_ret
        exact ⟨by rw [hyes.out]; rfl, (by repeat (first | exact hb | exact Below.refl _ _ | refine Below.drew ?_ | refine old_alloc ?_ _ | refine old_trans ?_ (by assumption)))⟩
      · have hall' := step (by rw [hf]; simp [gh])
        clear hf step
        go_wp2_with fail
        refine (E.out _).mono ?_
        rintro e wx ⟨rfl, hbx⟩
        have d0 := cell_later hbx d0
        have d1 := cell_later hbx d1
        have m0 := cell_later hbx m0
        go_wp2_with (go_at_call 63; refine (E'.out _).mono ?_; rintro e wy ⟨rfl, hby⟩)
        go_roundw
        case rel => exact ⟨k + 1, by omega, by go_num, hall', (K.later hbx).later hby, (M.later hbx).later hby, (hRr.old hbx).old hby, (hRr'.old hbx).old hby, (by repeat (first | exact hb | exact Below.refl _ _ | refine Below.drew ?_ | refine old_alloc ?_ _ | refine old_trans ?_ (by assumption)))⟩
        case measure => simp [intOf]; omega
    · obtain rfl : k = len' := by omega
      have hyes : Hid (z = false) := hr.out.trans (anyI_no hall)
      go_wp2
      go_ret
      exact ⟨by rw [hyes.out]; rfl, hb⟩

set_option maxHeartbeats 30000000 in
theorem iBoxHalved1 (a a' : Option Addr) (len cap cap' : Nat) (ps qs : List (Int × Int)) (B C k : Nat) (hk : k < len) (w : World) (hR : InRow w a len cap ps) (hR' : InRow w a' len cap' qs) (hB : w.cell? ⟨B, 0, none⟩ = some (.slice a len cap)) (hC : w.cell? ⟨C, 0, none⟩ = some (.slice a' len cap')) :
    Calls Try.prog 69 #[.int .i64 (k : Int), .pointer (some ⟨B, 0, none⟩), .pointer (some ⟨C, 0, none⟩)] w fun e w' => e = .returned (.bool (halvAt ps qs k)) ∧ Below w.heap.size w w' := by
  have hlen : len ≤ maxLen := Nat.le_trans hR.2.1 hR.2.2.1
  unfold maxLen at hlen
  obtain ⟨b, off, x, y, rfl, hbl, hx, ⟨⟨q1, q2⟩, q3, q4⟩, c0, c1⟩ := hR.at hk
  obtain ⟨b', off', x', y', rfl, hbl', hx', ⟨⟨r1, r2⟩, r3, r4⟩, d0, d1⟩ := hR'.at hk
  have E := hd (iCounted x y q1 q2 q3 q4)
  have E' := hd (iCounted x' y' r1 r2 r3 r4)
  have hgb1 := gapI_bd x y q1 q4
  have hgb2 := gapI_bd x' y' r1 r4
  have hf : Hid ((decide (0 < gapI x y) && decide (gapI x' y' ≤ gapI x y / 2)) = halvAt ps qs k) := by show _ = _; unfold halvAt; rw [gapAt_eq hx, gapAt_eq hx']
  generalize gapI x y = g at *
  generalize gapI x' y' = g' at *
  generalize halvAt ps qs k = z at *
  clear hR hR' hx hx'
  have n1 : w.heap.size ≠ w.heap.size + 1 := by omega
  have n2 : w.heap.size + 1 ≠ w.heap.size := by omega
  have lp : b < w.heap.size := World.block_lt_of_cell? _ _ c0
  have lp1 := Nat.ne_of_lt lp
  have lp2 := Nat.ne_of_gt lp
  have lp3 := Nat.ne_of_lt (Nat.lt_add_right 1 lp)
  have lp4 := Nat.ne_of_gt (Nat.lt_add_right 1 lp)
  have lq : b' < w.heap.size := World.block_lt_of_cell? _ _ d0
  have lq1 := Nat.ne_of_lt lq
  have lq2 := Nat.ne_of_gt lq
  have lq3 := Nat.ne_of_lt (Nat.lt_add_right 1 lq)
  have lq4 := Nat.ne_of_gt (Nat.lt_add_right 1 lq)
  have lr : B < w.heap.size := World.block_lt_of_cell? _ _ hB
  have lr1 := Nat.ne_of_lt lr
  have lr2 := Nat.ne_of_gt lr
  have lr3 := Nat.ne_of_lt (Nat.lt_add_right 1 lr)
  have lr4 := Nat.ne_of_gt (Nat.lt_add_right 1 lr)
  have ls : C < w.heap.size := World.block_lt_of_cell? _ _ hC
  have ls1 := Nat.ne_of_lt ls
  have ls2 := Nat.ne_of_gt ls
  have ls3 := Nat.ne_of_lt (Nat.lt_add_right 1 ls)
  have ls4 := Nat.ne_of_gt (Nat.lt_add_right 1 ls)
  have hBl : Below w.heap.size w w := Below.refl _ _
  have hzl := hBl.size
  go_enter Try.func69, Try.ntmps69
  go_upto_region 1 with fail
  go_cut [5, 6] (fun s t wx => ∃ b c, s = .pointer (some ⟨b, 0, none⟩) ∧ t = .pointer (some ⟨c, 0, none⟩) ∧ Own3 wx b (.int .u64 g) (.int .i64 x) (.int .i64 y) ∧ Own3 wx c (.int .u64 g') (.int .i64 x') (.int .i64 y') ∧ Below w.heap.size w wx)
  case first =>
    go_wp2_with fail
    go_region_held3 (fun w' => w'.cell? ⟨b, off + k * 2, none⟩ = some (.int .i64 x) ∧ w'.cell? ⟨b, off + k * 2 + 1, none⟩ = some (.int .i64 y) ∧ w'.cell? ⟨b', off' + k * 2, none⟩ = some (.int .i64 x') ∧ w'.cell? ⟨b', off' + k * 2 + 1, none⟩ = some (.int .i64 y') ∧ w'.cell? ⟨B, 0, none⟩ = some (.slice (some ⟨b, off, none⟩) len cap) ∧ w'.cell? ⟨C, 0, none⟩ = some (.slice (some ⟨b', off', none⟩) len cap')) (go_keep) (first | (go_at_call_of 65 (Value.agg #[.int .i64 x, .int .i64 y]); refine (E.out _).mono ?_; rintro e wx ⟨rfl, hbx⟩; have c0 := (by first | exact cell_later hbx c0 | exact cell_later hbx (cell_al c0 _) | exact cell_later hbx (cell_al (cell_al c0 _) _)); have c1 := (by first | exact cell_later hbx c1 | exact cell_later hbx (cell_al c1 _) | exact cell_later hbx (cell_al (cell_al c1 _) _)); have d0 := (by first | exact cell_later hbx d0 | exact cell_later hbx (cell_al d0 _) | exact cell_later hbx (cell_al (cell_al d0 _) _)); have d1 := (by first | exact cell_later hbx d1 | exact cell_later hbx (cell_al d1 _) | exact cell_later hbx (cell_al (cell_al d1 _) _)); have hB := (by first | exact cell_later hbx hB | exact cell_later hbx (cell_al hB _) | exact cell_later hbx (cell_al (cell_al hB _) _)); have hC := (by first | exact cell_later hbx hC | exact cell_later hbx (cell_al hC _) | exact cell_later hbx (cell_al (cell_al hC _) _)); have lp : b < wx.heap.size := World.block_lt_of_cell? _ _ c0; have lp1 := Nat.ne_of_lt lp; have lp2 := Nat.ne_of_gt lp; have lp3 := Nat.ne_of_lt (Nat.lt_add_right 1 lp); have lp4 := Nat.ne_of_gt (Nat.lt_add_right 1 lp); have lq : b' < wx.heap.size := World.block_lt_of_cell? _ _ d0; have lq1 := Nat.ne_of_lt lq; have lq2 := Nat.ne_of_gt lq; have lq3 := Nat.ne_of_lt (Nat.lt_add_right 1 lq); have lq4 := Nat.ne_of_gt (Nat.lt_add_right 1 lq); have lr : B < wx.heap.size := World.block_lt_of_cell? _ _ hB; have lr1 := Nat.ne_of_lt lr; have lr2 := Nat.ne_of_gt lr; have lr3 := Nat.ne_of_lt (Nat.lt_add_right 1 lr); have lr4 := Nat.ne_of_gt (Nat.lt_add_right 1 lr); have ls : C < wx.heap.size := World.block_lt_of_cell? _ _ hC; have ls1 := Nat.ne_of_lt ls; have ls2 := Nat.ne_of_gt ls; have ls3 := Nat.ne_of_lt (Nat.lt_add_right 1 ls); have ls4 := Nat.ne_of_gt (Nat.lt_add_right 1 ls); have hBl := (by with_reducible first | exact old_trans hBl hbx | exact old_trans (old_alloc hBl _) hbx | exact old_trans (old_alloc (old_alloc hBl _) _) hbx | exact old_trans (Below.drew hBl) hbx | exact old_trans (Below.drew (old_alloc hBl _)) hbx | exact old_trans (Below.drew (old_alloc (old_alloc hBl _) _)) hbx : Below w.heap.size w wx); have hzl := hBl.size; (first | (have O := O.later hbx; have N := N.later hbx; have N0 := N.1; have N1 := N.2.1; have N2 := N.2.2.1; have N3 := N.2.2.2.1; have N4 := N.2.2.2.2.1; have N5 := N.2.2.2.2.2.1; have Nz := N.2.2.2.2.2.2; have Nn := Nat.ne_of_lt Nz; have No := Nat.ne_of_gt Nz; have O0 := O.1; have O1 := O.2.1; have O2 := O.2.2.1; have O3 := O.2.2.2.1; have O4 := O.2.2.2.2.1; have O5 := O.2.2.2.2.2.1; have Oz := O.2.2.2.2.2.2; have On := Nat.ne_of_lt Oz; have Oo := Nat.ne_of_gt Oz) | (have N := (N.alloc _).later hbx; have O := (Own3.made _ _ rfl (.int .u64 0) (.int .i64 0) (.int .i64 0) 70).later hbx; have N0 := N.1; have N1 := N.2.1; have N2 := N.2.2.1; have N3 := N.2.2.2.1; have N4 := N.2.2.2.2.1; have N5 := N.2.2.2.2.2.1; have Nz := N.2.2.2.2.2.2; have Nn := Nat.ne_of_lt Nz; have No := Nat.ne_of_gt Nz; have O0 := O.1; have O1 := O.2.1; have O2 := O.2.2.1; have O3 := O.2.2.2.1; have O4 := O.2.2.2.2.1; have O5 := O.2.2.2.2.2.1; have Oz := O.2.2.2.2.2.2; have On := Nat.ne_of_lt Oz; have Oo := Nat.ne_of_gt Oz) | (have N := N.later hbx; have N0 := N.1; have N1 := N.2.1; have N2 := N.2.2.1; have N3 := N.2.2.2.1; have N4 := N.2.2.2.2.1; have N5 := N.2.2.2.2.2.1; have Nz := N.2.2.2.2.2.2; have Nn := Nat.ne_of_lt Nz; have No := Nat.ne_of_gt Nz) | (have N := ((Own3.made _ _ rfl (.int .u64 0) (.int .i64 0) (.int .i64 0) 70).alloc _).later hbx; have O := (Own3.made _ _ rfl (.int .u64 0) (.int .i64 0) (.int .i64 0) 70).later hbx; (try simp only [World.size_alloc] at N); (try simp only [World.size_alloc] at O); have N0 := N.1; have N1 := N.2.1; have N2 := N.2.2.1; have N3 := N.2.2.2.1; have N4 := N.2.2.2.2.1; have N5 := N.2.2.2.2.2.1; have Nz := N.2.2.2.2.2.2; have Nn := Nat.ne_of_lt Nz; have No := Nat.ne_of_gt Nz; have O0 := O.1; have O1 := O.2.1; have O2 := O.2.2.1; have O3 := O.2.2.2.1; have O4 := O.2.2.2.2.1; have O5 := O.2.2.2.2.2.1; have Oz := O.2.2.2.2.2.2; have On := Nat.ne_of_lt Oz; have Oo := Nat.ne_of_gt Oz) | (have N := (Own3.made _ _ rfl (.int .u64 0) (.int .i64 0) (.int .i64 0) 70).later hbx; (try simp only [World.size_alloc] at N); have N0 := N.1; have N1 := N.2.1; have N2 := N.2.2.1; have N3 := N.2.2.2.1; have N4 := N.2.2.2.2.1; have N5 := N.2.2.2.2.2.1; have Nz := N.2.2.2.2.2.2; have Nn := Nat.ne_of_lt Nz; have No := Nat.ne_of_gt Nz) | (have N := ((Own3.made _ _ rfl (.int .u64 0) (.int .i64 0) (.int .i64 0) 70).alloc _).drew.later hbx; have O := (Own3.made _ _ rfl (.int .u64 0) (.int .i64 0) (.int .i64 0) 70).drew.later hbx; (try simp only [World.size_alloc] at N); (try simp only [World.size_alloc] at O); have N0 := N.1; have N1 := N.2.1; have N2 := N.2.2.1; have N3 := N.2.2.2.1; have N4 := N.2.2.2.2.1; have N5 := N.2.2.2.2.2.1; have Nz := N.2.2.2.2.2.2; have Nn := Nat.ne_of_lt Nz; have No := Nat.ne_of_gt Nz; have O0 := O.1; have O1 := O.2.1; have O2 := O.2.2.1; have O3 := O.2.2.2.1; have O4 := O.2.2.2.2.1; have O5 := O.2.2.2.2.2.1; have Oz := O.2.2.2.2.2.2; have On := Nat.ne_of_lt Oz; have Oo := Nat.ne_of_gt Oz) | (have N := (Own3.made _ _ rfl (.int .u64 0) (.int .i64 0) (.int .i64 0) 70).drew.later hbx; (try simp only [World.size_alloc] at N); have N0 := N.1; have N1 := N.2.1; have N2 := N.2.2.1; have N3 := N.2.2.2.1; have N4 := N.2.2.2.2.1; have N5 := N.2.2.2.2.2.1; have Nz := N.2.2.2.2.2.2; have Nn := Nat.ne_of_lt Nz; have No := Nat.ne_of_gt Nz) | skip)) | (go_at_call_of 65 (Value.agg #[.int .i64 x', .int .i64 y']); refine (E'.out _).mono ?_; rintro e wx ⟨rfl, hbx⟩; have c0 := (by first | exact cell_later hbx c0 | exact cell_later hbx (cell_al c0 _) | exact cell_later hbx (cell_al (cell_al c0 _) _)); have c1 := (by first | exact cell_later hbx c1 | exact cell_later hbx (cell_al c1 _) | exact cell_later hbx (cell_al (cell_al c1 _) _)); have d0 := (by first | exact cell_later hbx d0 | exact cell_later hbx (cell_al d0 _) | exact cell_later hbx (cell_al (cell_al d0 _) _)); have d1 := (by first | exact cell_later hbx d1 | exact cell_later hbx (cell_al d1 _) | exact cell_later hbx (cell_al (cell_al d1 _) _)); have hB := (by first | exact cell_later hbx hB | exact cell_later hbx (cell_al hB _) | exact cell_later hbx (cell_al (cell_al hB _) _)); have hC := (by first | exact cell_later hbx hC | exact cell_later hbx (cell_al hC _) | exact cell_later hbx (cell_al (cell_al hC _) _)); have lp : b < wx.heap.size := World.block_lt_of_cell? _ _ c0; have lp1 := Nat.ne_of_lt lp; have lp2 := Nat.ne_of_gt lp; have lp3 := Nat.ne_of_lt (Nat.lt_add_right 1 lp); have lp4 := Nat.ne_of_gt (Nat.lt_add_right 1 lp); have lq : b' < wx.heap.size := World.block_lt_of_cell? _ _ d0; have lq1 := Nat.ne_of_lt lq; have lq2 := Nat.ne_of_gt lq; have lq3 := Nat.ne_of_lt (Nat.lt_add_right 1 lq); have lq4 := Nat.ne_of_gt (Nat.lt_add_right 1 lq); have lr : B < wx.heap.size := World.block_lt_of_cell? _ _ hB; have lr1 := Nat.ne_of_lt lr; have lr2 := Nat.ne_of_gt lr; have lr3 := Nat.ne_of_lt (Nat.lt_add_right 1 lr); have lr4 := Nat.ne_of_gt (Nat.lt_add_right 1 lr); have ls : C < wx.heap.size := World.block_lt_of_cell? _ _ hC; have ls1 := Nat.ne_of_lt ls; have ls2 := Nat.ne_of_gt ls; have ls3 := Nat.ne_of_lt (Nat.lt_add_right 1 ls); have ls4 := Nat.ne_of_gt (Nat.lt_add_right 1 ls); have hBl := (by with_reducible first | exact old_trans hBl hbx | exact old_trans (old_alloc hBl _) hbx | exact old_trans (old_alloc (old_alloc hBl _) _) hbx | exact old_trans (Below.drew hBl) hbx | exact old_trans (Below.drew (old_alloc hBl _)) hbx | exact old_trans (Below.drew (old_alloc (old_alloc hBl _) _)) hbx : Below w.heap.size w wx); have hzl := hBl.size; (first | (have O := O.later hbx; have N := N.later hbx; have N0 := N.1; have N1 := N.2.1; have N2 := N.2.2.1; have N3 := N.2.2.2.1; have N4 := N.2.2.2.2.1; have N5 := N.2.2.2.2.2.1; have Nz := N.2.2.2.2.2.2; have Nn := Nat.ne_of_lt Nz; have No := Nat.ne_of_gt Nz; have O0 := O.1; have O1 := O.2.1; have O2 := O.2.2.1; have O3 := O.2.2.2.1; have O4 := O.2.2.2.2.1; have O5 := O.2.2.2.2.2.1; have Oz := O.2.2.2.2.2.2; have On := Nat.ne_of_lt Oz; have Oo := Nat.ne_of_gt Oz) | (have N := (N.alloc _).later hbx; have O := (Own3.made _ _ rfl (.int .u64 0) (.int .i64 0) (.int .i64 0) 70).later hbx; have N0 := N.1; have N1 := N.2.1; have N2 := N.2.2.1; have N3 := N.2.2.2.1; have N4 := N.2.2.2.2.1; have N5 := N.2.2.2.2.2.1; have Nz := N.2.2.2.2.2.2; have Nn := Nat.ne_of_lt Nz; have No := Nat.ne_of_gt Nz; have O0 := O.1; have O1 := O.2.1; have O2 := O.2.2.1; have O3 := O.2.2.2.1; have O4 := O.2.2.2.2.1; have O5 := O.2.2.2.2.2.1; have Oz := O.2.2.2.2.2.2; have On := Nat.ne_of_lt Oz; have Oo := Nat.ne_of_gt Oz) | (have N := N.later hbx; have N0 := N.1; have N1 := N.2.1; have N2 := N.2.2.1; have N3 := N.2.2.2.1; have N4 := N.2.2.2.2.1; have N5 := N.2.2.2.2.2.1; have Nz := N.2.2.2.2.2.2; have Nn := Nat.ne_of_lt Nz; have No := Nat.ne_of_gt Nz) | (have N := ((Own3.made _ _ rfl (.int .u64 0) (.int .i64 0) (.int .i64 0) 70).alloc _).later hbx; have O := (Own3.made _ _ rfl (.int .u64 0) (.int .i64 0) (.int .i64 0) 70).later hbx; (try simp only [World.size_alloc] at N); (try simp only [World.size_alloc] at O); have N0 := N.1; have N1 := N.2.1; have N2 := N.2.2.1; have N3 := N.2.2.2.1; have N4 := N.2.2.2.2.1; have N5 := N.2.2.2.2.2.1; have Nz := N.2.2.2.2.2.2; have Nn := Nat.ne_of_lt Nz; have No := Nat.ne_of_gt Nz; have O0 := O.1; have O1 := O.2.1; have O2 := O.2.2.1; have O3 := O.2.2.2.1; have O4 := O.2.2.2.2.1; have O5 := O.2.2.2.2.2.1; have Oz := O.2.2.2.2.2.2; have On := Nat.ne_of_lt Oz; have Oo := Nat.ne_of_gt Oz) | (have N := (Own3.made _ _ rfl (.int .u64 0) (.int .i64 0) (.int .i64 0) 70).later hbx; (try simp only [World.size_alloc] at N); have N0 := N.1; have N1 := N.2.1; have N2 := N.2.2.1; have N3 := N.2.2.2.1; have N4 := N.2.2.2.2.1; have N5 := N.2.2.2.2.2.1; have Nz := N.2.2.2.2.2.2; have Nn := Nat.ne_of_lt Nz; have No := Nat.ne_of_gt Nz) | (have N := ((Own3.made _ _ rfl (.int .u64 0) (.int .i64 0) (.int .i64 0) 70).alloc _).drew.later hbx; have O := (Own3.made _ _ rfl (.int .u64 0) (.int .i64 0) (.int .i64 0) 70).drew.later hbx; (try simp only [World.size_alloc] at N); (try simp only [World.size_alloc] at O); have N0 := N.1; have N1 := N.2.1; have N2 := N.2.2.1; have N3 := N.2.2.2.1; have N4 := N.2.2.2.2.1; have N5 := N.2.2.2.2.2.1; have Nz := N.2.2.2.2.2.2; have Nn := Nat.ne_of_lt Nz; have No := Nat.ne_of_gt Nz; have O0 := O.1; have O1 := O.2.1; have O2 := O.2.2.1; have O3 := O.2.2.2.1; have O4 := O.2.2.2.2.1; have O5 := O.2.2.2.2.2.1; have Oz := O.2.2.2.2.2.2; have On := Nat.ne_of_lt Oz; have Oo := Nat.ne_of_gt Oz) | (have N := (Own3.made _ _ rfl (.int .u64 0) (.int .i64 0) (.int .i64 0) 70).drew.later hbx; (try simp only [World.size_alloc] at N); have N0 := N.1; have N1 := N.2.1; have N2 := N.2.2.1; have N3 := N.2.2.2.1; have N4 := N.2.2.2.2.1; have N5 := N.2.2.2.2.2.1; have Nz := N.2.2.2.2.2.2; have Nn := Nat.ne_of_lt Nz; have No := Nat.ne_of_gt Nz) | skip)))
    all_goals
      go_wp2_with fail
      go_meet
      exact ⟨_, _, rfl, rfl, (by repeat (with_reducible first | exact N | exact O | exact Own3.made _ _ rfl _ _ _ _ | (refine Own3.made _ _ ?_ _ _ _ _; (simp; done)) | refine Own3.stored (u := .int .u64 0) (v := .int .i64 0) (t := .int .i64 0) ?_ _ _ _ | refine Own3.drew ?_ | (refine Own3.others ?_ _ ?_ _ _ _; rotate_left; (first | omega | (simp; omega))) | refine Own3.alloc ?_ _)), (by repeat (with_reducible first | exact N | exact O | exact Own3.made _ _ rfl _ _ _ _ | (refine Own3.made _ _ ?_ _ _ _ _; (simp; done)) | refine Own3.stored (u := .int .u64 0) (v := .int .i64 0) (t := .int .i64 0) ?_ _ _ _ | refine Own3.drew ?_ | (refine Own3.others ?_ _ ?_ _ _ _; rotate_left; (first | omega | (simp; omega))) | refine Own3.alloc ?_ _)), (by repeat (first | with_reducible exact hBl | with_reducible refine Below.drew ?_ | (refine Below.setCell ?_ ?_ _; rotate_left; (first | exact Nat.le_refl _ | exact Nat.le_add_right _ _ | exact hzl | exact Nat.le_trans hzl (Nat.le_add_right _ _) | omega | (simp; done) | (simp; omega))) | with_reducible refine old_alloc ?_ _))⟩
  case rest =>
    obtain ⟨bx, cx, rfl, rfl, X, Y, hb⟩ := hcut
    have X0 := X.1
    have Y0 := Y.1
    have Xz := X.2.2.2.2.2.2
    have Yz := Y.2.2.2.2.2.2
    by_cases g0 : g = 0
    · have hz : Hid (z = false) := by show _ = _; rw [← hf.out, g0]; rfl
      subst g0
      go_wp2
      go_ret
      exact ⟨by rw [hz.out]; rfl, hb⟩
    · have hz : Hid (z = decide (g' ≤ g / 2)) := by show _ = _; rw [← hf.out]; simp [show 0 < g by omega]
      have g1 : 0 < g := by omega
      go_wp2
      go_ret
      exact ⟨by rw [hz.out]; rfl, hb⟩

set_option maxHeartbeats 4000000 in
theorem iBoxHalved (wd : Int) (a a' : Option Addr) (len len' cap cap' : Nat) (ps qs : List (Int × Int)) (w : World) (hR : InRow w a len cap ps) (hR' : InRow w a' len' cap' qs) :
    Calls Try.prog 31 #[.int .i64 wd, .agg #[.slice a len cap], .agg #[.slice a' len' cap']] w fun e w' => e = .returned (.bool (halvRow wd ps qs)) ∧ Below w.heap.size w w' := by
  have hlen : len ≤ maxLen := Nat.le_trans hR.2.1 hR.2.2.1
  have hlen' := hlen
  have hp := hR.1
  have hq := hR'.1
  unfold maxLen at hlen
  have K : Cel1 ((w.alloc (.cells #[.slice a len cap] 29)).alloc (.cells #[.slice a' len' cap'] 29)) w.heap.size (.slice a len cap) := (Cel1.made w _ rfl _ _).alloc _
  have M : Cel1 ((w.alloc (.cells #[.slice a len cap] 29)).alloc (.cells #[.slice a' len' cap'] 29)) (w.heap.size + 1) (.slice a' len' cap') := Cel1.made _ _ (by simp) _ _
  have hb0 : Below w.heap.size w ((w.alloc (.cells #[.slice a len cap] 29)).alloc (.cells #[.slice a' len' cap'] 29)) := ((Below.refl _ w).alloc (Nat.le_refl _) _).alloc (by simp) _
  have R := hR.old hb0
  have R' := hR'.old hb0
  have S1 := hd (iBoxOk wd a len cap ps _ R)
  cases h1 : okRow wd ps
  · have hno : Hid (halvRow wd ps qs = false) := by show _ = _; unfold halvRow; rw [h1]; rfl
    rw [h1] at S1
    clear h1
    go_enter Try.func31, Try.ntmps31
    go_wp2_with (go_at_call 18; refine S1.out.mono ?_; rintro e w1 ⟨rfl, hb1⟩)
    go_ret
    exact ⟨by rw [hno.out]; rfl, (by repeat (first | exact Below.refl _ _ | refine Below.drew ?_ | refine old_alloc ?_ _ | refine old_trans ?_ (by assumption)))⟩
  rw [h1] at S1
  have S2 := hd (fun w h => iBoxOk wd a' len' cap' qs w h)
  cases h2 : okRow wd qs
  · have hno : Hid (halvRow wd ps qs = false) := by show _ = _; unfold halvRow; rw [h1, h2]; rfl
    rw [h2] at S2
    clear h1 h2
    go_enter Try.func31, Try.ntmps31
    go_wp2_with fail
    refine S1.out.mono ?_
    rintro e w1 ⟨rfl, hb1⟩
    replace M := M.later hb1
    replace R' := R'.old hb1
    have m0 := M.1
    have m2 := M.2.2
    go_wp2_with (go_at_call 18; refine (S2.out _ R').mono ?_; rintro e w2 ⟨rfl, hb2⟩)
    go_ret
    exact ⟨by rw [hno.out]; rfl, (by repeat (first | exact Below.refl _ _ | refine Below.drew ?_ | refine old_alloc ?_ _ | refine old_trans ?_ (by assumption)))⟩
  rw [h2] at S2
  have S3 := hd (fun w h h' => iBoxIs a' a len' len cap' cap qs ps w h h')
  cases h3 : isRow qs ps
  · have hno : Hid (halvRow wd ps qs = false) := by show _ = _; unfold halvRow; rw [h1, h2, h3]; rfl
    rw [h3] at S3
    clear h1 h2 h3
    go_enter Try.func31, Try.ntmps31
    go_wp2_with fail
    refine S1.out.mono ?_
    rintro e w1 ⟨rfl, hb1⟩
    replace M := M.later hb1
    replace K := K.later hb1
    replace R' := R'.old hb1
    replace R := R.old hb1
    have m0 := M.1
    have m2 := M.2.2
    go_wp2_with fail
    refine (S2.out _ R').mono ?_
    rintro e w2 ⟨rfl, hb2⟩
    clear m0 m2
    replace M := M.later hb2
    replace K := K.later hb2
    replace R' := R'.old hb2
    replace R := R.old hb2
    have m0 := M.1
    have m2 := M.2.2
    have k0 := K.1
    have k2 := K.2.2
    go_wp2_with (go_at_call 21; refine (S3.out _ R' R).mono ?_; rintro e w3 ⟨rfl, hb3⟩)
    go_ret
    exact ⟨by rw [hno.out]; rfl, (by repeat (first | exact Below.refl _ _ | refine Below.drew ?_ | refine old_alloc ?_ _ | refine old_trans ?_ (by assumption)))⟩
  rw [h3] at S3
  have hll : len' = len := by have := isRow_len h3; omega
  subst hll
  have hr : Hid (halvRow wd ps qs = anyI len' (halvAt ps qs)) := by show _ = _; unfold halvRow; rw [h1, h2, h3, hp]; rfl
  clear h1 h2 h3
  generalize halvRow wd ps qs = z at *
  go_enter Try.func31, Try.ntmps31
  go_wp2_with fail
  refine S1.out.mono ?_
  rintro e w1 ⟨rfl, hb1⟩
  replace M := M.later hb1
  replace K := K.later hb1
  replace R' := R'.old hb1
  replace R := R.old hb1
  have m0 := M.1
  have m2 := M.2.2
  go_wp2_with fail
  refine (S2.out _ R').mono ?_
  rintro e w2 ⟨rfl, hb2⟩
  clear m0 m2
  replace M := M.later hb2
  replace K := K.later hb2
  replace R' := R'.old hb2
  replace R := R.old hb2
  have m0 := M.1
  have m2 := M.2.2
  have k0 := K.1
  have k2 := K.2.2
  go_wp2_with fail
  refine (S3.out _ R' R).mono ?_
  rintro e w3 ⟨rfl, hb3⟩
  clear m0 m2 k0 k2
  replace M := M.later hb3
  replace K := K.later hb3
  replace R' := R'.old hb3
  replace R := R.old hb3
  have hb : Below w.heap.size w w3 := (by repeat (first | exact Below.refl _ _ | refine Below.drew ?_ | refine old_alloc ?_ _ | refine old_trans ?_ (by assumption)))
  have hz : Hid (decide (firstI len' (halvAt ps qs) ≥ 0) = z) := firstI_any.trans hr.out.symm
  have k0 := K.1
  have k2 := K.2.2
  go_wp2_with fail
  refine (coordThat 69 #[.pointer (some ⟨w.heap.size, 0, none⟩), .pointer (some ⟨w.heap.size + 1, 0, none⟩)] a len' cap hlen' (halvAt ps qs) _ (enters_of Try.func69 (by kernel_rfl) rfl)
    (fun k W hk hW => iBoxHalved1 a a' len' cap cap' ps qs w.heap.size (w.heap.size + 1) k hk W (R.old hW) (R'.old hW) (K.later hW).1 (M.later hW).1)).mono ?_
  rintro e w4 ⟨rfl, hb4⟩
  generalize firstI len' _ = r at *
  go_wp2
  go_ret
  exact ⟨by rw [← hz.out]; rfl, (by repeat (first | exact hb | exact Below.refl _ _ | refine Below.drew ?_ | refine old_alloc ?_ _ | refine old_trans ?_ (by assumption)))⟩
end Go.Proofs.Ytmeijbiohbpgpaa
