/- Numbers shifted up, by the program. Conditions: digits. -/
import Derived.Test.YtpamnpdigoikoaaDoorNU
namespace Go.Proofs.YtpamnpdigoikoaaDoor
open Go.RowKit
set_option linter.unusedVariables false
set_option maxRecDepth 100000

theorem val_zeros' (n : Nat) : val (List.replicate n 0) = 0 := digs_zero (fun i hi => by rw [List.length_replicate] at hi; simp [List.getD_eq_getElem?_getD, hi])
theorem i64_join {c x : Int} {p : Nat} (hp : p < 16) (hc0 : 0 ≤ c) (hc1 : c < (2 ^ p : Nat)) (hx : dig x) : bits .or .i64 c (x * (2 ^ p : Nat)) = c + x * (2 ^ p : Nat) ∧ 0 ≤ x * ((2 ^ p : Nat) : Int) ∧ x * ((2 ^ p : Nat) : Int) ≤ 2147450880 ∧ c + x * ((2 ^ p : Nat) : Int) < 2147483648 := by
  unfold dig at hx
  obtain ⟨c', rfl⟩ := Int.eq_ofNat_of_zero_le hc0
  obtain ⟨x', rfl⟩ := Int.eq_ofNat_of_zero_le hx.1
  have hT : 2 ^ p ≤ 2 ^ 15 := Nat.pow_le_pow_right (by omega) (by omega)
  have hT' : 2 ^ 15 = 32768 := by decide
  have hm : x' * 2 ^ p ≤ 65535 * 2 ^ p := Nat.mul_le_mul_right _ (by omega)
  have e : ((x' : Int) * ((2 ^ p : Nat) : Int)) = ((x' * 2 ^ p : Nat) : Int) := by rw [Int.natCast_mul]
  have hj := nat_join p (x' * 2 ^ p) c' (Nat.mul_mod_left _ _) (by omega)
  rw [e]
  generalize 2 ^ p = T at *
  refine ⟨?_, by omega, by omega, by omega⟩
  show IntKind.i64.wrap ((BitVec.ofInt 64 (c' : Int) ||| BitVec.ofInt 64 ((x' * T : Nat) : Int)).toNat : Int) = _
  have e1 : (BitVec.ofInt 64 (c' : Int)).toNat = c' := ofInt_u64 c' (by omega)
  have e2 : (BitVec.ofInt 64 ((x' * T : Nat) : Int)).toNat = x' * T := ofInt_u64 (x' * T) (by omega)
  rw [BitVec.toNat_or, e1, e2, Nat.or_comm, hj]
  simp [IntKind.wrap, IntKind.bits, IntKind.signed]
  omega
theorem or_shl {c x : Int} {p : Nat} (hp : p < 16) (hc0 : 0 ≤ c) (hc1 : c < (2 ^ p : Nat)) (hx : dig x) : ∃ s : Int, bits .or .i64 c (wrap64 (x * 2 ^ p)) = s ∧ s = c + x * ((2 ^ p : Nat) : Int) ∧ 0 ≤ s ∧ s < 2147483648 := by
  obtain ⟨j1, j2, j3, j4⟩ := i64_join hp hc0 hc1 hx
  have e : (x * 2 ^ p : Int) = x * ((2 ^ p : Nat) : Int) := by rw [Int.natCast_pow]; rfl
  refine ⟨_, ?_, rfl, by omega, j4⟩
  rw [e]
  generalize x * ((2 ^ p : Nat) : Int) = y at *
  have hw : wrap64 y = y := by
    unfold wrap64
    omega
  rw [hw, j1]
/-- a shift up, k digits of it done -/
structure UpI (L P T k : Nat) (xs qs : List Int) (c : Int) : Prop where
  sz : qs.length = L
  dg : digs qs
  eq : ((val qs : Nat) : Int) + (65536 : Int) ^ (P + k) * c = (65536 : Int) ^ P * (T : Int) * (val (xs.take k) : Nat)
  zero : ∀ m, P + k ≤ m → m < L → qs.getD m 0 = 0
theorem up_alg {V c s d c' x T A B Y V' : Int} (h : V + A * B * c = A * T * Y) (hs : s = c + x * T) (hd : s = d + 65536 * c') (hV : V' + A * B * 0 = V + A * B * d) : V' + A * B * 65536 * c' = A * T * (Y + B * x) := by grind
theorem UpI.step {L P T k : Nat} {xs qs : List Int} {c : Int} (h : UpI L P T k xs qs c) (hx : digs xs) (hk : P + k < L) (s d c' : Int) (hs : s = c + xs.getD k 0 * (T : Int)) (hd : dig d) (hsd : s = d + 65536 * c') : UpI L P T (k + 1) xs (qs.set (P + k) d) c' := by
  refine ⟨by simpa using h.sz, digs_set h.dg _ hd, ?_, fun m h1 h2 => ?_⟩
  · have hz := h.zero (P + k) (Nat.le_refl _) hk
    have dx := digs_getD hx k
    unfold dig at dx hd
    have e := val_set qs (P + k) d (by rw [h.sz]; omega)
    rw [hz] at e
    have e2 : ((d.toNat : Nat) : Int) = d := by omega
    have e3 : (((xs.getD k 0).toNat : Nat) : Int) = xs.getD k 0 := by omega
    rw [e2, show (((0 : Int).toNat : Nat) : Int) = 0 from rfl, Int.pow_add] at e
    have q := h.eq
    rw [Int.pow_add] at q
    have := up_alg q hs hsd e
    rw [val_take_succ, Int.natCast_add, Int.natCast_mul, pow_cast, e3, ← Nat.add_assoc, Int.pow_succ, Int.pow_add]
    exact this
  · have : (qs.set (P + k) d).getD m 0 = qs.getD m 0 := by simp [List.getD_eq_getElem?_getD, show P + k ≠ m by omega]
    rw [this]
    exact h.zero m (by omega) h2
theorem UpI.all {L P T len : Nat} {xs qs : List Int} {c : Int} (h : UpI L P T len xs qs c) (hp : xs.length = len) (hk : P + len < L) (hc : dig c) : val (qs.set (P + len) c) = 65536 ^ P * T * val xs := by
  have hz := h.zero (P + len) (Nat.le_refl _) hk
  unfold dig at hc
  have e := val_set qs (P + len) c (by rw [h.sz]; omega)
  rw [hz, show (((0 : Int).toNat : Nat) : Int) = 0 from rfl, Int.mul_zero, Int.add_zero, show ((c.toNat : Nat) : Int) = c by omega, h.eq, List.take_of_length_le (by omega), ← pow_cast, ← Int.natCast_mul, ← Int.natCast_mul] at e
  exact Int.ofNat.inj e
set_option maxHeartbeats 2000000 in
theorem iUp (a : Option Addr) (len cap : Nat) (xs : List Int) (P p : Nat) (w : World) (hR : InI w a len cap xs) (hx : digs xs) (hp : p < 16) (hP : P ≤ 1024) (hl : len ≤ 1048576) :
    Calls Tryd.prog 75 #[.slice a len cap, .int .i64 (16 * (P : Int) + p)] w fun e w' => (∃ av cv, e = .returned (.slice av (natL (65536 ^ P * 2 ^ p * val xs)).length cv) ∧ OI w' w.heap.size av cv (natL (65536 ^ P * 2 ^ p * val xs))) ∧ Below w.heap.size w w' := by
  have hmk := mkDigs w (len + P + 1) (by omega)
  have hr0 := IRow.made w (len + P + 1) 3
  have hb0 : Below w.heap.size w (w.alloc (.cells (madeCells #[.int .i64 0] ((len + P + 1) * 1)) 3)) := (Below.refl _ w).alloc (Nat.le_refl _) _
  have hq : (16 * (P : Int) + p) / 16 = P := by omega
  have hr : (16 * (P : Int) + p) % 16 = p := by omega
  have hpx := hR.1
  simp only [Int.natCast_add, Int.natCast_one] at hmk
  generalize w.alloc (.cells (madeCells #[.int .i64 0] ((len + P + 1) * 1)) 3) = w0 at *
  have hT : Hid (2 ^ p ≤ 32768 ∧ 0 < 2 ^ p) := ⟨by have : 2 ^ p ≤ 2 ^ 15 := Nat.pow_le_pow_right (by omega) (by omega)
                                                   omega, Nat.pow_pos (by omega)⟩
  have hst0 : Hid (UpI (len + P + 1) P (2 ^ p) 0 xs (List.replicate (len + P + 1) 0) 0) := ⟨by simp, digs_zeros _, by rw [val_zeros']; simp [val], fun m h1 h2 => by simp [List.getD_eq_getElem?_getD, h2]⟩
  have hend := hd (fun qs c h1 h2 => UpI.all (L := len + P + 1) (P := P) (T := 2 ^ p) (len := len) (xs := xs) (qs := qs) (c := c) h1 hpx (by omega) h2)
  generalize 65536 ^ P * 2 ^ p * val xs = V at *
  go_enter Tryd.func75, Tryd.ntmps75
  go_wp2
  go_loopw [8, 23] (fun c i wr => ∃ (k : Nat) (cv : Int) (qs : List Int), k ≤ len ∧ c = .int .i64 cv ∧ i = .int .i64 k ∧ (0 ≤ cv ∧ cv < (2 ^ p : Nat)) ∧ UpI (len + P + 1) P (2 ^ p) k xs qs cv ∧ IRow wr w.heap.size qs ∧ Below w.heap.size w wr) (fun _ i _ => len - (intOf i).toNat)
  case atStart => exact ⟨0, 0, _, by omega, rfl, rfl, ⟨by omega, by have := hT.out.2; omega⟩, hst0.out, hr0, hb0⟩
  case round =>
    clear hst0 hr0 hb0 hmk
    obtain ⟨k, c, qs, hk, rfl, rfl, ⟨hc0, hc1⟩, hU, hrw, hbw⟩ := hrel
    have hT1 := hT.out.1
    by_cases hlt : k < len
    · obtain ⟨b, off, x, rfl, -, hx2, -, c0⟩ := (hR.old hbw).at hlt
      have dx := digs_getD hx k
      rw [hx2] at dx
      obtain ⟨s, hor, hs, hs0, hs1⟩ := or_shl hp hc0 hc1 dx
      have hst' := hd (hU.step hx (by omega) s (s % 65536) (s / 65536) (by rw [hx2]; exact hs) (by unfold dig; omega) (by omega))
      have hcb : Hid (0 ≤ s / 65536 ∧ s / 65536 < ((2 ^ p : Nat) : Int)) := by
        unfold dig at dx
        have m1 : x * ((2 ^ p : Nat) : Int) ≤ 65535 * ((2 ^ p : Nat) : Int) := Int.mul_le_mul_of_nonneg_right (by omega) (by omega)
        exact ⟨by omega, by omega⟩
      obtain ⟨z, -, d0, d2⟩ := hrw.at (k := k + P) (by rw [hU.sz]; omega)
      have hset := hrw.set (k + P) (by rw [hU.sz]; omega) (s % 65536)
      rw [show P + k = k + P by omega] at hst'
      have hmask := i64_mask s
      clear hU hrw hs hT1 hc0 hc1
      go_wp2
      go_roundw
      case rel => exact ⟨k + 1, _, _, by omega, rfl, by go_num, hcb.out, hst'.out, hset, hbw.setCell (p := ⟨w.heap.size, k + P, none⟩) (Nat.le_refl _) _⟩
      case measure => simp [intOf]; omega
    · obtain rfl : k = len := by omega
      have hcd : dig c := ⟨hc0, by omega⟩
      have hv := hend.out qs c hU hcd
      have dq := digs_set hU.dg (P + k) hcd
      obtain ⟨z, -, d0, d2⟩ := hrw.at (k := k + P) (by rw [hU.sz]; omega)
      have hset := hrw.set (k + P) (by rw [hU.sz]; omega) c
      have hq1 : (qs.set (P + k) c).length = k + P + 1 := by rw [List.length_set]; exact hU.sz
      have hbs := hbw.setCell (p := ⟨w.heap.size, k + P, none⟩) (Nat.le_refl _) (.int .i64 c)
      rw [show k + P = P + k by omega] at hset
      have O : OI (wr.setCell ⟨w.heap.size, P + k, none⟩ (.int .i64 c)) w.heap.size (some ⟨w.heap.size, 0, none⟩) (k + P + 1) (qs.set (P + k) c) := ⟨digs_fits dq, by omega, by unfold maxLen; omega, .inr ⟨_, rfl, Nat.le_refl _, hset⟩⟩
      have T := hd (iTrimO _ _ _ _ _ O dq)
      rw [hv, hq1, show P + k = k + P by omega] at T
      clear hU hrw O hv dq hend hq1 hset hR hT hT1
      go_wp2_with fail
      refine T.out.mono ?_
      rintro e w1 ⟨⟨av, cv, rfl, hO⟩, hb1⟩
      go_wp2
      go_ret
      exact ⟨⟨_, _, rfl, hO⟩, old_trans hbs hb1⟩
end Go.Proofs.YtpamnpdigoikoaaDoor
