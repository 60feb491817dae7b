/- Products, by the program. Conditions: digits. -/
import Derived.Test.YtpamnpdigoikoaaDoorN9
namespace Go.Proofs.YtpamnpdigoikoaaDoor
open Go.RowKit
set_option linter.unusedVariables false
set_option maxRecDepth 100000

theorem val_set (qs : List Int) (k : Nat) (d : Int) (h : k < qs.length) : ((val (qs.set k d) : Nat) : Int) + (65536 : Int) ^ k * ((qs.getD k 0).toNat : Int) = (val qs : Nat) + (65536 : Int) ^ k * (d.toNat : Int) := by
  induction k generalizing qs with
  | zero =>
    cases qs with
    | nil => simp at h
    | cons x xs =>
      rw [List.set_cons_zero, val_cons, val_cons]
      simp
      omega
  | succ k ih =>
    cases qs with
    | nil => simp at h
    | cons x xs =>
      have e := ih xs (by simpa using h)
      rw [List.set_cons_succ, val_cons, val_cons, List.getD_cons_succ, Int.pow_succ]
      generalize (xs.getD k 0).toNat = u at *
      generalize val (xs.set k d) = p at *
      generalize val xs = q at *
      generalize (65536 : Int) ^ k = P at *
      have : P * 65536 * (u : Int) = 65536 * (P * (u : Int)) := by grind
      have : P * 65536 * (d.toNat : Int) = 65536 * (P * (d.toNat : Int)) := by grind
      omega
/-- a row of a product: i rows are done, and j places of the next -/
structure MulI (la lb i j : Nat) (xs ys qs : List Int) (c : Int) : Prop where
  len : qs.length = la + lb
  dg : digs qs
  eq : ((val qs : Nat) : Int) + (65536 : Int) ^ (i + j) * c = (val (xs.take i) : Nat) * (val ys : Nat) + (65536 : Int) ^ i * (xs.getD i 0) * (val (ys.take j) : Nat)
  zero : ∀ m, i + lb ≤ m → m < la + lb → qs.getD m 0 = 0
theorem MulI.start {la lb : Nat} {xs ys : List Int} : MulI la lb 0 0 xs ys (List.replicate (la + lb) 0) 0 := by
  refine ⟨by simp, digs_zeros _, ?_, fun m h1 h2 => by simp [List.getD_eq_getElem?_getD, h2]⟩
  have : val (List.replicate (la + lb) 0) = 0 := digs_zero (fun i hi => by rw [List.length_replicate] at hi; simp [List.getD_eq_getElem?_getD, hi])
  rw [this]; simp [val]
theorem mul_alg {P V o s d c c' x y A B Y : Int} (h : V + P * c = A + B * x * Y) (hs : s = c + o + x * y) (hd : s = d + 65536 * c') (V' : Int) (hV : V' + P * o = V + P * d) (Q : Int) (hP : P = B * Q) : V' + P * 65536 * c' = A + B * x * (Y + Q * y) := by
  subst hP
  grind
theorem MulI.step {la lb i j : Nat} {xs ys qs : List Int} {c : Int} (h : MulI la lb i j xs ys qs c) (hx : digs xs) (hy : digs ys) (hi : i < la) (hj : j < lb) (hl : ys.length = lb) (s d c' : Int) (hs : s = c + qs.getD (i + j) 0 + xs.getD i 0 * ys.getD j 0) (hd : dig d) (hsd : s = d + 65536 * c') :
    MulI la lb i (j + 1) xs ys (qs.set (i + j) d) c' := by
  refine ⟨by simpa using h.len, digs_set h.dg _ hd, ?_, fun m h1 h2 => ?_⟩
  · have dq := digs_getD h.dg (i + j)
    have dy := digs_getD hy j
    unfold dig at dq dy hd
    have e := val_set qs (i + j) d (by rw [h.len]; omega)
    have e1 : (((qs.getD (i + j) 0).toNat : Nat) : Int) = qs.getD (i + j) 0 := by omega
    have e2 : ((d.toNat : Nat) : Int) = d := by omega
    have e3 : (((ys.getD j 0).toNat : Nat) : Int) = ys.getD j 0 := by omega
    rw [e1, e2] at e
    have k := mul_alg h.eq hs hsd _ e ((65536 : Int) ^ j) (Int.pow_add _ _ _)
    rw [val_take_succ, Int.natCast_add, Int.natCast_mul, pow_cast, e3, ← Nat.add_assoc, Int.pow_succ]
    exact k
  · have : (qs.set (i + j) d).getD m 0 = qs.getD m 0 := by simp [List.getD_eq_getElem?_getD, show i + j ≠ m by omega]
    rw [this]
    exact h.zero m h1 h2
theorem row_alg {V c A B x Y P V' : Int} (h : V + P * c = A + B * x * Y) (hV : V' + P * 0 = V + P * c) : V' + P * 65536 * 0 = (A + B * x * Y) := by grind
theorem MulI.next {la lb i : Nat} {xs ys qs : List Int} {c : Int} (h : MulI la lb i lb xs ys qs c) (hx : digs xs) (hi : i < la) (hl : ys.length = lb) (hc : dig c) :
    MulI la lb (i + 1) 0 xs ys (qs.set (i + lb) c) 0 := by
  refine ⟨by simpa using h.len, digs_set h.dg _ hc, ?_, fun m h1 h2 => ?_⟩
  · have hz := h.zero (i + lb) (by omega) (by omega)
    have dx := digs_getD hx i
    unfold dig at dx hc
    have e := val_set qs (i + lb) c (by rw [h.len]; omega)
    rw [hz] at e
    have e2 : ((c.toNat : Nat) : Int) = c := by omega
    have e3 : (((xs.getD i 0).toNat : Nat) : Int) = xs.getD i 0 := by omega
    rw [e2] at e
    have q := h.eq
    rw [List.take_of_length_le (show ys.length ≤ lb by omega)] at q
    rw [val_take_succ, Int.natCast_add, Int.natCast_mul, pow_cast, e3, List.take_zero, val_nil]
    generalize xs.getD i 0 = x at *
    simp at e ⊢
    rw [Int.add_mul]
    omega
  · have : (qs.set (i + lb) c).getD m 0 = qs.getD m 0 := by simp [List.getD_eq_getElem?_getD, show i + lb ≠ m by omega]
    rw [this]
    exact h.zero m (by omega) h2
theorem MulI.all {la lb : Nat} {xs ys qs : List Int} (h : MulI la lb la 0 xs ys qs 0) (hx : xs.length = la) : val qs = val xs * val ys := by
  have e := h.eq
  rw [List.take_of_length_le (show xs.length ≤ la by omega), List.take_zero, val_nil] at e
  simp at e
  exact_mod_cast e

set_option maxHeartbeats 2000000 in
theorem iTimes (a b : Option Addr) (la lb ca cb : Nat) (xs ys : List Int) (w : World) (hA : InI w a la ca xs) (hB : InI w b lb cb ys) (hx : digs xs) (hy : digs ys) (hla : la ≤ 1048576) (hlb : lb ≤ 1048576) :
    Calls Tryd.prog 93 #[.slice a la ca, .slice b lb cb] w fun e w' => (∃ av cv, e = .returned (.slice av (natL (val xs * val ys)).length cv) ∧ OI w' w.heap.size av cv (natL (val xs * val ys))) ∧ Below w.heap.size w w' := by
  have pa := hA.1
  have pb := hB.1
  have hmk := mkDigs w (la + lb) (by omega)
  have hr0 := IRow.made w (la + lb) 3
  have hb0 : Below w.heap.size w (w.alloc (.cells (madeCells #[.int .i64 0] ((la + lb) * 1)) 3)) := (Below.refl _ w).alloc (Nat.le_refl _) _
  rw [Int.natCast_add] at hmk
  generalize w.alloc (.cells (madeCells #[.int .i64 0] ((la + lb) * 1)) 3) = w0 at *
  have hend := hd (fun qs h => MulI.all (la := la) (lb := lb) (xs := xs) (ys := ys) (qs := qs) h pa)
  generalize val xs * val ys = V at *
  go_enter Tryd.func93, Tryd.ntmps93
  go_wp2
  go_loopw [19] (fun i wr => ∃ (k : Nat) (qs : List Int), k ≤ la ∧ i = .int .i64 k ∧ MulI la lb k 0 xs ys qs 0 ∧ IRow wr w.heap.size qs ∧ Below w.heap.size w wr) (fun i _ => la - (intOf i).toNat)
  case atStart => exact ⟨0, _, by omega, rfl, MulI.start, hr0, hb0⟩
  case round =>
    obtain ⟨k, qs, hk, rfl, hM, hr, hbw⟩ := hrel
    by_cases hlt : k < la
    · obtain ⟨b1, o1, x, rfl, hb1, ex, -, c1⟩ := (hA.old hbw).at hlt
      have dx := digs_getD hx k
      go_wp2
      go_loopw [8, 26] (fun c i wr => ∃ (j : Nat) (qs : List Int) (cv : Int), j ≤ lb ∧ c = .int .i64 cv ∧ i = .int .i64 j ∧ MulI la lb k j xs ys qs cv ∧ (0 ≤ cv ∧ cv ≤ 65535) ∧ IRow wr w.heap.size qs ∧ Below w.heap.size w wr) (fun _ i _ => lb - (intOf i).toNat)
      case atStart => exact ⟨0, qs, 0, by omega, rfl, rfl, hM, by omega, hr, hbw⟩
      case round =>
        clear hM hr hbw c1 hb1 hmk hr0 hb0 hend
        obtain ⟨j, qs, c, hj, rfl, rfl, hM, hc, hr, hbw⟩ := hrel
        by_cases hjl : j < lb
        · obtain ⟨b2, o2, y, rfl, -, ey, -, c2⟩ := (hB.old hbw).at hjl
          obtain ⟨z, ez, d0, d2⟩ := hr.at (k := k + j) (by rw [hM.len]; omega)
          have dy := digs_getD hy j
          have dz := digs_getD hM.dg (k + j)
          rw [ex] at dx
          rw [ey] at dy
          rw [ez] at dz
          have m1 := mul_bd (F := 65535) dx (f := y) (by unfold dig at dy; omega) (by unfold dig at dy; omega)
          unfold dig at dx dy dz
          have m0 : 0 ≤ x * y := Int.mul_nonneg dx.1 dy.1
          have hst := hM.step hx hy hlt hjl pb (c + (z + x * y)) ((c + (z + x * y)) % 65536) ((c + (z + x * y)) / 65536) (by rw [ez, ex, ey]; omega) (by unfold dig; omega) (by omega)
          have cb2 : 0 ≤ (c + (z + x * y)) / 65536 ∧ (c + (z + x * y)) / 65536 ≤ 65535 := by omega
          have hset := hr.set (k + j) (by rw [hM.len]; omega) ((c + (z + x * y)) % 65536)
          have hmask := i64_mask (c + (z + x * y))
          have hfd : (c + (z + x * y)).fdiv 65536 = (c + (z + x * y)) / 65536 := Int.fdiv_eq_ediv_of_nonneg _ (by omega)
          have hst' := hd hst
          clear hM hr hst
          go_wp2
          go_roundw
          case rel => exact ⟨j + 1, _, _, by omega, rfl, by go_num, hst'.out, cb2, hset, hbw.setCell (p := ⟨w.heap.size, k + j, none⟩) (Nat.le_refl _) _⟩
          case measure => simp [intOf]; omega
        · obtain rfl : j = lb := by omega
          obtain ⟨z, ez, d0, d2⟩ := hr.at (k := k + j) (by rw [hM.len]; omega)
          have hst' := hd (hM.next hx hlt pb (by unfold dig; omega))
          have hset := hr.set (k + j) (by rw [hM.len]; omega) c
          clear hM hr
          go_wp2
          go_roundw
          case rel => exact ⟨k + 1, _, by omega, by go_num, hst'.out, hset, hbw.setCell (p := ⟨w.heap.size, k + j, none⟩) (Nat.le_refl _) _⟩
          case measure => simp [intOf]; omega
    · obtain rfl : k = la := by omega
      have hv := hend.out qs hM
      have hq1 := hM.len
      have O : OI wr w.heap.size (some ⟨w.heap.size, 0, none⟩) (k + lb) qs := ⟨digs_fits hM.dg, by omega, by unfold maxLen; omega, .inr ⟨_, rfl, Nat.le_refl _, hr⟩⟩
      have T := hd (iTrimO _ _ _ _ _ O hM.dg)
      rw [hv, hq1] at T
      clear hM hr hmk O hr0 hb0 hv hA hB hend hq1
      go_wp2_with fail
      refine T.out.mono ?_
      rintro e w1 ⟨⟨av, cv, rfl, hO⟩, hb1⟩
      go_wp2
      go_ret
      exact ⟨⟨_, _, rfl, hO⟩, old_trans hbw hb1⟩
end Go.Proofs.YtpamnpdigoikoaaDoor
