/- The specification's products with a digit, its quotient and rest by a digit, what is left from a place on. Conditions: digits. -/
import Derived.Test.YtpamnpdigoikoaaDoorNN
import Derived.Test.YtpamnpdigoikoaaDoorNP
namespace Go.Proofs.YtpamnpdigoikoaaDoor
open Go.RowKit
set_option linter.unusedVariables false
set_option maxRecDepth 100000

theorem dig_row (w : World) (d : Int) (t : TypeId) : InI (w.alloc (.cells #[.int .i64 d] t)) (some ⟨w.heap.size, 0, none⟩) 1 1 [d] ∨ ¬ dig d := by
  by_cases h : dig d
  · left
    unfold dig at h
    refine ⟨rfl, Nat.le_refl _, by decide, fun x hx => ?_, .inr ⟨w.heap.size, 0, rfl, by simp, fun i hi => ?_⟩⟩
    · have : x = d := by simpa using hx
      subst this; omega
    · have : i = 0 := by omega
      subst this
      simp
  · exact .inr h
set_option maxHeartbeats 1000000 in
theorem sTimes (a : Option Addr) (len cap : Nat) (xs : List Int) (d : Int) (w : World) (hR : InI w a len cap xs) (hx : digs xs) (hdd : dig d) (hl : len ≤ 524288) :
    Calls Tryd.prog 100 #[.slice a len cap, .int .i64 d] w fun e w' => (∃ av cv, e = .returned (.slice av (natL (val xs * d.toNat)).length cv) ∧ OI w' w.heap.size av cv (natL (val xs * d.toNat))) ∧ Below w.heap.size w w' := by
  by_cases h0 : d = 0
  · subst h0
    have e : natL (val xs * (0 : Int).toNat) = [] := by rw [show (0 : Int).toNat = 0 from rfl, Nat.mul_zero, natL_zero]
    rw [e]
    go_enter Tryd.func100, Tryd.ntmps100
    go_wp2
    go_ret
    exact ⟨⟨_, _, rfl, OI.none _ _⟩, Below.refl _ _⟩
  · have hrow := (dig_row w d 3).resolve_right (fun h => h hdd)
    have hB1 : Below w.heap.size w (w.alloc (.cells #[.int .i64 d] 3)) := (Below.refl _ w).alloc (Nat.le_refl _) _
    have M := hd (sMul a (some ⟨w.heap.size, 0, none⟩) len 1 cap 1 xs [d] _ (hR.old hB1) hrow hx (digs_cons.2 ⟨hdd, digs_nil⟩) hl (by omega))
    have ev : val [d] = d.toNat := by rw [val_cons, val_nil]; omega
    rw [ev] at M
    have hdb : (d == 0) = false := by simpa using h0
    clear hrow ev
    generalize natL (val xs * d.toNat) = ql at *
    go_enter Tryd.func100, Tryd.ntmps100
    go_wp2_with fail
    refine M.out.mono ?_
    rintro e w1 ⟨⟨av, cv, rfl, hO⟩, hb1⟩
    go_wp2
    go_ret
    exact ⟨⟨_, _, rfl, hO.mono hB1.size⟩, old_trans hB1 hb1⟩
structure DivI (len : Nat) (xs qs : List Int) (d : Nat) (k : Nat) (r : Int) : Prop where
  sz : qs.length = len
  dg : digs qs
  lo : 0 ≤ r
  hi : r < d
  eq : val (xs.drop (len - k)) = d * val (qs.drop (len - k)) + r.toNat
theorem val_drop_set {qs : List Int} {i : Nat} {v : Int} (h : i < qs.length) : val ((qs.set i v).drop i) = v.toNat + 65536 * val (qs.drop (i + 1)) := by
  rw [val_drop (by simpa using h), getD_set _ _ _ h, List.drop_set_of_lt (by omega)]
theorem DivI.step {len : Nat} {xs qs : List Int} {d k i : Nat} {r : Int} (h : DivI len xs qs d k r) (hp : xs.length = len) (hi : i + 1 + k = len) (hx : digs xs) (s : Int) (hs : s = r * 65536 + xs.getD i 0) :
    DivI len xs (qs.set i (s / d)) d (k + 1) (s % d) ∧ 0 ≤ s / d ∧ s / d < 65536 ∧ 0 ≤ s % d ∧ s % d < d := by
  have h0 : (0 : Int) < d := Int.lt_of_le_of_lt h.lo h.hi
  have dx := digs_getD hx i
  unfold dig at dx
  have lo := h.lo
  have hi2 := h.hi
  have hs0 : 0 ≤ s := by omega
  have hs1 : s < d * 65536 := by omega
  have q0 : 0 ≤ s / d := Int.ediv_nonneg hs0 (by omega)
  have q1 : s / d < 65536 := Int.ediv_lt_of_lt_mul h0 (by omega)
  have r0 := Int.emod_nonneg s (show (d : Int) ≠ 0 by omega)
  have r1 := Int.emod_lt_of_pos s h0
  refine ⟨⟨by simpa using h.sz, digs_set h.dg _ ⟨q0, q1⟩, r0, r1, ?_⟩, q0, q1, r0, r1⟩
  have e := h.eq
  rw [show len - k = i + 1 by omega] at e
  rw [show len - (k + 1) = i by omega, val_drop (by omega), val_drop_set (by rw [h.sz]; omega), e]
  have hsd := Int.mul_ediv_add_emod s d
  generalize xs.getD i 0 = x at *
  generalize val (qs.drop (i + 1)) = B at *
  obtain ⟨q, hq⟩ := Int.eq_ofNat_of_zero_le q0
  obtain ⟨rr, hr⟩ := Int.eq_ofNat_of_zero_le r0
  obtain ⟨r', rfl⟩ := Int.eq_ofNat_of_zero_le lo
  obtain ⟨x', rfl⟩ := Int.eq_ofNat_of_zero_le dx.1
  rw [hq, hr]
  rw [hq, hr] at hsd
  simp only [Int.toNat_natCast]
  have hn : d * q + rr = r' * 65536 + x' := by
    have : ((d * q + rr : Nat) : Int) = ((r' * 65536 + x' : Nat) : Int) := by
      rw [Int.natCast_add, Int.natCast_mul, hsd, hs]; omega
    exact_mod_cast this
  grind
theorem DivI.all {len : Nat} {xs qs : List Int} {d : Nat} {r : Int} (h : DivI len xs qs d len r) : val qs = val xs / d ∧ r = ((val xs % d : Nat) : Int) := by
  have e := h.eq
  rw [Nat.sub_self, List.drop_zero, List.drop_zero] at e
  obtain ⟨r', rfl⟩ := Int.eq_ofNat_of_zero_le h.lo
  have hi := h.hi
  simp only [Int.toNat_natCast] at e
  have hd0 : 0 < d := by omega
  constructor
  · rw [e, Nat.mul_add_div hd0, Nat.div_eq_of_lt (by omega)]; omega
  · rw [e, Nat.mul_add_mod, Nat.mod_eq_of_lt (by omega)]
set_option maxHeartbeats 2000000 in
theorem sDivSmall (a : Option Addr) (len cap : Nat) (xs : List Int) (d : Nat) (w : World) (hR : InI w a len cap xs) (hx : digs xs) (hd0 : 0 < d) (hd1 : d ≤ 65536) (hl : len ≤ 1048576) :
    Calls Tryd.prog 99 #[.slice a len cap, .int .i64 (d : Int)] w fun e w' => (∃ av cv, e = .returned (.tuple #[.slice av (natL (val xs / d)).length cv, .int .i64 ((val xs % d : Nat) : Int)]) ∧ OI w' w.heap.size av cv (natL (val xs / d))) ∧ Below w.heap.size w w' := by
  have hmk := mkInts w len (by omega)
  have hr0 := IRow.made w len 3
  have hb0 : Below w.heap.size w (w.alloc (.cells (madeCells #[.int .i64 0] (len * 1)) 3)) := (Below.refl _ w).alloc (Nat.le_refl _) _
  generalize w.alloc (.cells (madeCells #[.int .i64 0] (len * 1)) 3) = w0 at *
  have hp := hR.1
  have hend := hd (fun qs r h => DivI.all (len := len) (xs := xs) (qs := qs) (d := d) (r := r) h)
  have hd0' : (0 : Int) < (d : Int) := by omega
  have hst0 : DivI len xs (List.replicate len 0) d 0 0 := ⟨by simp, digs_zeros _, by omega, hd0', by rw [Nat.sub_zero, List.drop_of_length_le (by omega), List.drop_of_length_le (by simp)]; simp [val]⟩
  have hst0' := hd hst0
  clear hst0
  generalize val xs / d = Q at *
  generalize val xs % d = Rr at *
  go_enter Tryd.func99, Tryd.ntmps99
  go_wp2
  go_loopw [7, 8] (fun r i wr => ∃ (k : Nat) (j rv : Int) (qs : List Int), j + 1 + k = len ∧ -1 ≤ j ∧ r = .int .i64 rv ∧ i = .int .i64 j ∧ DivI len xs qs d k rv ∧ IRow wr w.heap.size qs ∧ Below w.heap.size w wr) (fun _ i _ => (intOf i + 1).toNat)
  case atStart => exact ⟨0, (len : Int) - 1, 0, _, by omega, by omega, rfl, rfl, hst0'.out, hr0, hb0⟩
  case round =>
    obtain ⟨k, j, r, qs, hk, hj, rfl, rfl, hD, hr, hbw⟩ := hrel
    by_cases h0 : 0 ≤ j
    · obtain ⟨i, rfl⟩ := Int.eq_ofNat_of_zero_le h0
      obtain ⟨b1, o1, x, rfl, hb1, ex, -, c1⟩ := (hR.old hbw).at (k := i) (by omega)
      obtain ⟨z, -, d0, d2⟩ := hr.at (k := i) (by rw [hD.sz]; omega)
      have hst := hD.step (i := i) hp (by omega) hx (r * 65536 + x) (by rw [ex])
      have dx := digs_getD hx i
      rw [ex] at dx
      unfold dig at dx
      have lo := hD.lo
      have hi := hD.hi
      have hset := hr.set i (by rw [hD.sz]; omega) ((r * 65536 + x) / (d : Int))
      obtain ⟨hst1, q0, q1, r0, r1⟩ := hst
      have hst' := hd hst1
      have htd : (r * 65536 + x).tdiv (d : Int) = (r * 65536 + x) / (d : Int) := Int.tdiv_eq_ediv_of_nonneg (by omega)
      have htm : (r * 65536 + x).tmod (d : Int) = (r * 65536 + x) % (d : Int) := Int.tmod_eq_emod_of_nonneg (by omega)
      have hdz : ((d : Int) == 0) = false := by simp; omega
      clear hD hr hst1 hend hst0' hr0 hb0 hmk
      go_wp2
      go_roundw
      case rel => exact ⟨k + 1, (i : Int) - 1, _, _, by omega, by omega, rfl, by go_num, hst'.out, hset, hbw.setCell (p := ⟨w.heap.size, i, none⟩) (Nat.le_refl _) _⟩
      case measure => simp [intOf] <;> omega
    · obtain rfl : j = -1 := by omega
      obtain rfl : k = len := by omega
      obtain ⟨hv, hrr⟩ := hend.out qs r hD
      subst hrr
      have hq1 := hD.sz
      have O : OI wr w.heap.size (some ⟨w.heap.size, 0, none⟩) k qs := ⟨digs_fits hD.dg, by omega, by unfold maxLen; omega, .inr ⟨_, rfl, Nat.le_refl _, hr⟩⟩
      have T := hd (sTrim _ _ _ _ _ O.inI hD.dg (by omega))
      rw [hv, hq1] at T
      have hsz := hbw.size
      clear hD hr hmk O hr0 hb0 hv hR hend hq1 hst0'
      go_wp2_with fail
      refine T.out.mono ?_
      rintro e w1 ⟨⟨av, cv, rfl, hO⟩, hb1⟩
      go_wp2
      go_ret2
      exact ⟨⟨_, _, rfl, hO.mono hsz⟩, old_trans hbw hb1⟩
end Go.Proofs.YtpamnpdigoikoaaDoor
