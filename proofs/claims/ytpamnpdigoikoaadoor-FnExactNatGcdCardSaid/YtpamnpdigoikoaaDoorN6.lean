/- A sum of multiples of two numbers, by the program: its digits, in memory of its own. Conditions: what comes out is not below 0, and has one digit more than the longer one at most. -/
import Derived.Test.YtpamnpdigoikoaaDoorN5
namespace Go.Proofs.YtpamnpdigoikoaaDoor
open Go.RowKit
set_option linter.unusedVariables false
set_option maxRecDepth 100000

theorem infoIntD : (Tryd.prog.info? 3).map (fun i => (i.zero, i.size, i.bytes)) = some (some (.int .i64 0), 1, 8) := by kernel_rfl
theorem mkDigs (w : World) (n : Nat) (hn : n ≤ 2097154) : (Instr.makeSlice 57 (.int .i64 (n : Int)) (.int .i64 (n : Int))).run Tryd.prog w = .ok (.slice (some ⟨w.heap.size, 0, none⟩) n n) (w.alloc (.cells (madeCells #[.int .i64 0] (n * 1)) 3)) := by
  obtain ⟨i, h1, h2, h3, h4⟩ := info_parts infoInt
  have h := run_make (P := Tryd.prog) w 57 3 i _ Tryd.underlying57 h1 h2 .i64 .i64 n n (by omega) (by omega) (by rw [h4]; omega) (by omega)
  rw [h3] at h
  exact h
theorem getD_out {xs : List Int} {k : Nat} (h : xs.length ≤ k) : xs.getD k 0 = 0 := by rw [List.getD_eq_getElem?_getD, List.getElem?_eq_none (by omega)]; rfl

def MixI (k : Nat) (L : Nat) (xs ys qs : List Int) (fa fb c : Int) : Prop :=
  qs.length = L ∧ digs qs ∧ ((val (qs.take k) : Nat) : Int) + (65536 : Int) ^ k * c = (val (xs.take k) : Nat) * fa + (val (ys.take k) : Nat) * fb
theorem MixI.step {k L : Nat} {xs ys qs : List Int} {fa fb c : Int} (h : MixI k L xs ys qs fa fb c) (hx : digs xs) (hy : digs ys) (hk : k < L) (s : Int) (hs : s = c + xs.getD k 0 * fa + ys.getD k 0 * fb) :
    MixI (k + 1) L xs ys (qs.set k (s % 65536)) fa fb (s / 65536) := by
  obtain ⟨h1, h2, h3⟩ := h
  have hdm : dig (s % 65536) := by unfold dig; omega
  refine ⟨by simpa using h1, digs_set h2 k hdm, ?_⟩
  have dx := digs_getD hx k
  have dy := digs_getD hy k
  rw [val_take_succ, val_take_succ, val_take_succ, take_set_same, getD_set _ _ _ (by omega)]
  unfold dig at dx dy hdm
  have e1 : (((xs.getD k 0).toNat : Nat) : Int) = xs.getD k 0 := by omega
  have e2 : (((ys.getD k 0).toNat : Nat) : Int) = ys.getD k 0 := by omega
  have e3 : (((s % 65536).toNat : Nat) : Int) = s % 65536 := by omega
  have e := pow_cast k
  have := mix_step (P := (65536 : Int) ^ k) h3 hs (show s = s % 65536 + 65536 * (s / 65536) by omega)
  rw [Int.natCast_add, Int.natCast_add, Int.natCast_add, Int.natCast_mul, Int.natCast_mul, Int.natCast_mul, e, e1, e2, e3, Int.pow_succ, Int.add_mul, Int.add_mul]
  omega
theorem MixI.all {L : Nat} {xs ys qs : List Int} {fa fb c : Int} (h : MixI L L xs ys qs fa fb c) (hx : xs.length ≤ L) (hy : ys.length ≤ L) (V : Int) (hV : V = (val xs : Nat) * fa + (val ys : Nat) * fb) (h0 : 0 ≤ V) (h1 : V < (65536 : Int) ^ L) : val qs = V.toNat := by
  obtain ⟨q1, q2, q3⟩ := h
  rw [List.take_of_length_le (by omega), List.take_of_length_le hx, List.take_of_length_le hy] at q3
  have hl := val_lt q2
  rw [q1] at hl
  have := mix_end (q3.trans hV.symm) hl h0 h1
  omega

set_option maxHeartbeats 2000000 in
theorem iMixed (a b : Option Addr) (la lb ca cb : Nat) (xs ys : List Int) (fa fb F : Int) (w : World) (hA : InI w a la ca xs) (hB : InI w b lb cb ys) (hx : digs xs) (hy : digs ys) (hla : la ≤ 1048576) (hlb : lb ≤ 1048576)
    (hF : 1 ≤ F) (hF2 : F ≤ 35184372088832) (ha : -F ≤ fa ∧ fa ≤ F) (hb : -F ≤ fb ∧ fb ≤ F) (V : Int) (hV : V = (val xs : Nat) * fa + (val ys : Nat) * fb) (hV0 : 0 ≤ V) (hV1 : V < (65536 : Int) ^ (max la lb + 1)) :
    Calls Tryd.prog 94 #[.slice a la ca, .slice b lb cb, .int .i64 fa, .int .i64 fb] w fun e w' => (∃ av cv, e = .returned (.slice av (natL V.toNat).length cv) ∧ OI w' w.heap.size av cv (natL V.toNat)) ∧ Below w.heap.size w w' := by
  have pa := hA.1
  have pb := hB.1
  obtain ⟨L, hL⟩ : ∃ L, L = max la lb + 1 := ⟨_, rfl⟩
  have hLa : la < L := by omega
  have hLb : lb < L := by omega
  have hLm : L ≤ 1048577 := by omega
  rw [← hL] at hV1
  have hmk := mkDigs w L (by omega)
  have hr0 := IRow.made w L 3
  have hb0 : Below w.heap.size w (w.alloc (.cells (madeCells #[.int .i64 0] (L * 1)) 3)) := (Below.refl _ w).alloc (Nat.le_refl _) _
  generalize w.alloc (.cells (madeCells #[.int .i64 0] (L * 1)) 3) = w0 at *
  rcases Nat.lt_trichotomy la lb with hle | hle | hle
  · have hLi : (L : Int) = (lb : Int) + 1 := by omega
    rw [hLi] at hmk
    clear hLi hL
    go_enter Tryd.func94, Tryd.ntmps94
    go_wp2
    go_loopw [10, 21] (fun c i wr => ∃ (k : Nat) (qs : List Int) (cv : Int), k ≤ L ∧ c = .int .i64 cv ∧ i = .int .i64 k ∧ MixI k L xs ys qs fa fb cv ∧ (-(4 * F) ≤ cv ∧ cv ≤ 4 * F) ∧ IRow wr w.heap.size qs ∧ Below w.heap.size w wr) (fun _ i _ => L - (intOf i).toNat)
    case atStart => exact ⟨0, _, 0, by omega, rfl, rfl, ⟨by simp, digs_zeros _, by simp [val]⟩, by omega, hr0, hb0⟩
    case round =>
      obtain ⟨k, qs, c, hk, rfl, rfl, hM, hc, hr, hbw⟩ := hrel
      by_cases hlt : k < L
      · obtain ⟨z, -, d0, d2⟩ := hr.at (k := k) (by rw [hM.1]; omega)
        by_cases ka : k < la
        · obtain ⟨ba, oa, x, rfl, -, ex, -, cx⟩ := (hA.old hbw).at ka
          have m1 := mul_bd (digs_getD hx k) ha.1 ha.2
          rw [ex] at m1
          have kb : k < lb := by omega
          obtain ⟨bb, ob, y, rfl, -, ey, -, cy⟩ := (hB.old hbw).at kb
          have m2 := mul_bd (digs_getD hy k) hb.1 hb.2
          rw [ey] at m2
          have hst := hM.step hx hy hlt (c + x * fa + y * fb) (by rw [ex, ey])
          have cb2 : -(4 * F) ≤ (c + x * fa + y * fb) / 65536 ∧ (c + x * fa + y * fb) / 65536 ≤ 4 * F := by omega
          have hset := hr.set k (by rw [hM.1]; omega) ((c + x * fa + y * fb) % 65536)
          have hmask := i64_mask (c + x * fa + y * fb)
          have hfd : (c + x * fa + y * fb).fdiv 65536 = (c + x * fa + y * fb) / 65536 := Int.fdiv_eq_ediv_of_nonneg _ (by omega)
          clear hM hr
          go_wp2
          go_roundw
          case rel => exact ⟨k + 1, _, _, by omega, rfl, by go_num, hst, cb2, hset, hbw.setCell (p := ⟨w.heap.size, k, none⟩) (Nat.le_refl _) _⟩
          case measure => simp [intOf]; omega
        · have ex : xs.getD k 0 = 0 := getD_out (by omega)
          by_cases kb : k < lb
          · obtain ⟨bb, ob, y, rfl, -, ey, -, cy⟩ := (hB.old hbw).at kb
            have m2 := mul_bd (digs_getD hy k) hb.1 hb.2
            rw [ey] at m2
            have hst := hM.step hx hy hlt (c + y * fb) (by rw [ex, ey, Int.zero_mul, Int.add_zero])
            have cb2 : -(4 * F) ≤ (c + y * fb) / 65536 ∧ (c + y * fb) / 65536 ≤ 4 * F := by omega
            have hset := hr.set k (by rw [hM.1]; omega) ((c + y * fb) % 65536)
            have hmask := i64_mask (c + y * fb)
            have hfd : (c + y * fb).fdiv 65536 = (c + y * fb) / 65536 := Int.fdiv_eq_ediv_of_nonneg _ (by omega)
            clear hM hr
            go_wp2
            go_roundw
            case rel => exact ⟨k + 1, _, _, by omega, rfl, by go_num, hst, cb2, hset, hbw.setCell (p := ⟨w.heap.size, k, none⟩) (Nat.le_refl _) _⟩
            case measure => simp [intOf]; omega
          · have ey : ys.getD k 0 = 0 := getD_out (by omega)
            have hst := hM.step hx hy hlt (c) (by rw [ex, ey, Int.zero_mul, Int.zero_mul, Int.add_zero, Int.add_zero])
            have cb2 : -(4 * F) ≤ (c) / 65536 ∧ (c) / 65536 ≤ 4 * F := by omega
            have hset := hr.set k (by rw [hM.1]; omega) ((c) % 65536)
            have hmask := i64_mask (c)
            have hfd : (c).fdiv 65536 = (c) / 65536 := Int.fdiv_eq_ediv_of_nonneg _ (by omega)
            clear hM hr
            go_wp2
            go_roundw
            case rel => exact ⟨k + 1, _, _, by omega, rfl, by go_num, hst, cb2, hset, hbw.setCell (p := ⟨w.heap.size, k, none⟩) (Nat.le_refl _) _⟩
            case measure => simp [intOf]; omega
      · obtain rfl : k = L := by omega
        have hv := hM.all (by omega) (by omega) V hV hV0 hV1
        have hq1 := hM.1
        have O : OI wr w.heap.size (some ⟨w.heap.size, 0, none⟩) k qs := ⟨digs_fits hM.2.1, by omega, by unfold maxLen; omega, .inr ⟨_, rfl, Nat.le_refl _, hr⟩⟩
        have T := hd (iTrimO _ _ _ _ _ O hM.2.1)
        rw [hv, hq1] at T
        clear hM hr hmk O hr0 hb0 hV1 hV hv hA hB
        go_wp2_with fail
        refine T.out.mono ?_
        rintro e w1 ⟨⟨av, cv, rfl, hO⟩, hb1⟩
        go_wp2
        go_ret
        exact ⟨⟨_, _, rfl, hO⟩, old_trans hbw hb1⟩
  · subst hle
    have hLi : (L : Int) = (la : Int) + 1 := by omega
    rw [hLi] at hmk
    clear hLi hL
    go_enter Tryd.func94, Tryd.ntmps94
    go_wp2
    go_loopw [10, 21] (fun c i wr => ∃ (k : Nat) (qs : List Int) (cv : Int), k ≤ L ∧ c = .int .i64 cv ∧ i = .int .i64 k ∧ MixI k L xs ys qs fa fb cv ∧ (-(4 * F) ≤ cv ∧ cv ≤ 4 * F) ∧ IRow wr w.heap.size qs ∧ Below w.heap.size w wr) (fun _ i _ => L - (intOf i).toNat)
    case atStart => exact ⟨0, _, 0, by omega, rfl, rfl, ⟨by simp, digs_zeros _, by simp [val]⟩, by omega, hr0, hb0⟩
    case round =>
      obtain ⟨k, qs, c, hk, rfl, rfl, hM, hc, hr, hbw⟩ := hrel
      by_cases hlt : k < L
      · obtain ⟨z, -, d0, d2⟩ := hr.at (k := k) (by rw [hM.1]; omega)
        by_cases ka : k < la
        · obtain ⟨ba, oa, x, rfl, -, ex, -, cx⟩ := (hA.old hbw).at ka
          have m1 := mul_bd (digs_getD hx k) ha.1 ha.2
          rw [ex] at m1
          have kb := ka
          obtain ⟨bb, ob, y, rfl, -, ey, -, cy⟩ := (hB.old hbw).at kb
          have m2 := mul_bd (digs_getD hy k) hb.1 hb.2
          rw [ey] at m2
          have hst := hM.step hx hy hlt (c + x * fa + y * fb) (by rw [ex, ey])
          have cb2 : -(4 * F) ≤ (c + x * fa + y * fb) / 65536 ∧ (c + x * fa + y * fb) / 65536 ≤ 4 * F := by omega
          have hset := hr.set k (by rw [hM.1]; omega) ((c + x * fa + y * fb) % 65536)
          have hmask := i64_mask (c + x * fa + y * fb)
          have hfd : (c + x * fa + y * fb).fdiv 65536 = (c + x * fa + y * fb) / 65536 := Int.fdiv_eq_ediv_of_nonneg _ (by omega)
          clear hM hr
          go_wp2
          go_roundw
          case rel => exact ⟨k + 1, _, _, by omega, rfl, by go_num, hst, cb2, hset, hbw.setCell (p := ⟨w.heap.size, k, none⟩) (Nat.le_refl _) _⟩
          case measure => simp [intOf]; omega
        · have ex : xs.getD k 0 = 0 := getD_out (by omega)
          have kb : ¬ k < la := by omega
          have ey : ys.getD k 0 = 0 := getD_out (by omega)
          have hst := hM.step hx hy hlt (c) (by rw [ex, ey, Int.zero_mul, Int.zero_mul, Int.add_zero, Int.add_zero])
          have cb2 : -(4 * F) ≤ (c) / 65536 ∧ (c) / 65536 ≤ 4 * F := by omega
          have hset := hr.set k (by rw [hM.1]; omega) ((c) % 65536)
          have hmask := i64_mask (c)
          have hfd : (c).fdiv 65536 = (c) / 65536 := Int.fdiv_eq_ediv_of_nonneg _ (by omega)
          clear hM hr
          go_wp2
          go_roundw
          case rel => exact ⟨k + 1, _, _, by omega, rfl, by go_num, hst, cb2, hset, hbw.setCell (p := ⟨w.heap.size, k, none⟩) (Nat.le_refl _) _⟩
          case measure => simp [intOf]; omega
      · obtain rfl : k = L := by omega
        have hv := hM.all (by omega) (by omega) V hV hV0 hV1
        have hq1 := hM.1
        have O : OI wr w.heap.size (some ⟨w.heap.size, 0, none⟩) k qs := ⟨digs_fits hM.2.1, by omega, by unfold maxLen; omega, .inr ⟨_, rfl, Nat.le_refl _, hr⟩⟩
        have T := hd (iTrimO _ _ _ _ _ O hM.2.1)
        rw [hv, hq1] at T
        clear hM hr hmk O hr0 hb0 hV1 hV hv hA hB
        go_wp2_with fail
        refine T.out.mono ?_
        rintro e w1 ⟨⟨av, cv, rfl, hO⟩, hb1⟩
        go_wp2
        go_ret
        exact ⟨⟨_, _, rfl, hO⟩, old_trans hbw hb1⟩
  · have hLi : (L : Int) = (la : Int) + 1 := by omega
    rw [hLi] at hmk
    clear hLi hL
    go_enter Tryd.func94, Tryd.ntmps94
    go_wp2
    go_loopw [10, 21] (fun c i wr => ∃ (k : Nat) (qs : List Int) (cv : Int), k ≤ L ∧ c = .int .i64 cv ∧ i = .int .i64 k ∧ MixI k L xs ys qs fa fb cv ∧ (-(4 * F) ≤ cv ∧ cv ≤ 4 * F) ∧ IRow wr w.heap.size qs ∧ Below w.heap.size w wr) (fun _ i _ => L - (intOf i).toNat)
    case atStart => exact ⟨0, _, 0, by omega, rfl, rfl, ⟨by simp, digs_zeros _, by simp [val]⟩, by omega, hr0, hb0⟩
    case round =>
      obtain ⟨k, qs, c, hk, rfl, rfl, hM, hc, hr, hbw⟩ := hrel
      by_cases hlt : k < L
      · obtain ⟨z, -, d0, d2⟩ := hr.at (k := k) (by rw [hM.1]; omega)
        by_cases ka : k < la
        · obtain ⟨ba, oa, x, rfl, -, ex, -, cx⟩ := (hA.old hbw).at ka
          have m1 := mul_bd (digs_getD hx k) ha.1 ha.2
          rw [ex] at m1
          by_cases kb : k < lb
          · obtain ⟨bb, ob, y, rfl, -, ey, -, cy⟩ := (hB.old hbw).at kb
            have m2 := mul_bd (digs_getD hy k) hb.1 hb.2
            rw [ey] at m2
            have hst := hM.step hx hy hlt (c + x * fa + y * fb) (by rw [ex, ey])
            have cb2 : -(4 * F) ≤ (c + x * fa + y * fb) / 65536 ∧ (c + x * fa + y * fb) / 65536 ≤ 4 * F := by omega
            have hset := hr.set k (by rw [hM.1]; omega) ((c + x * fa + y * fb) % 65536)
            have hmask := i64_mask (c + x * fa + y * fb)
            have hfd : (c + x * fa + y * fb).fdiv 65536 = (c + x * fa + y * fb) / 65536 := Int.fdiv_eq_ediv_of_nonneg _ (by omega)
            clear hM hr
            go_wp2
            go_roundw
            case rel => exact ⟨k + 1, _, _, by omega, rfl, by go_num, hst, cb2, hset, hbw.setCell (p := ⟨w.heap.size, k, none⟩) (Nat.le_refl _) _⟩
            case measure => simp [intOf]; omega
          · have ey : ys.getD k 0 = 0 := getD_out (by omega)
            have hst := hM.step hx hy hlt (c + x * fa) (by rw [ex, ey, Int.zero_mul, Int.add_zero])
            have cb2 : -(4 * F) ≤ (c + x * fa) / 65536 ∧ (c + x * fa) / 65536 ≤ 4 * F := by omega
            have hset := hr.set k (by rw [hM.1]; omega) ((c + x * fa) % 65536)
            have hmask := i64_mask (c + x * fa)
            have hfd : (c + x * fa).fdiv 65536 = (c + x * fa) / 65536 := Int.fdiv_eq_ediv_of_nonneg _ (by omega)
            clear hM hr
            go_wp2
            go_roundw
            case rel => exact ⟨k + 1, _, _, by omega, rfl, by go_num, hst, cb2, hset, hbw.setCell (p := ⟨w.heap.size, k, none⟩) (Nat.le_refl _) _⟩
            case measure => simp [intOf]; omega
        · have ex : xs.getD k 0 = 0 := getD_out (by omega)
          have kb : ¬ k < lb := by omega
          have ey : ys.getD k 0 = 0 := getD_out (by omega)
          have hst := hM.step hx hy hlt (c) (by rw [ex, ey, Int.zero_mul, Int.zero_mul, Int.add_zero, Int.add_zero])
          have cb2 : -(4 * F) ≤ (c) / 65536 ∧ (c) / 65536 ≤ 4 * F := by omega
          have hset := hr.set k (by rw [hM.1]; omega) ((c) % 65536)
          have hmask := i64_mask (c)
          have hfd : (c).fdiv 65536 = (c) / 65536 := Int.fdiv_eq_ediv_of_nonneg _ (by omega)
          clear hM hr
          go_wp2
          go_roundw
          case rel => exact ⟨k + 1, _, _, by omega, rfl, by go_num, hst, cb2, hset, hbw.setCell (p := ⟨w.heap.size, k, none⟩) (Nat.le_refl _) _⟩
          case measure => simp [intOf]; omega
      · obtain rfl : k = L := by omega
        have hv := hM.all (by omega) (by omega) V hV hV0 hV1
        have hq1 := hM.1
        have O : OI wr w.heap.size (some ⟨w.heap.size, 0, none⟩) k qs := ⟨digs_fits hM.2.1, by omega, by unfold maxLen; omega, .inr ⟨_, rfl, Nat.le_refl _, hr⟩⟩
        have T := hd (iTrimO _ _ _ _ _ O hM.2.1)
        rw [hv, hq1] at T
        clear hM hr hmk O hr0 hb0 hV1 hV hv hA hB
        go_wp2_with fail
        refine T.out.mono ?_
        rintro e w1 ⟨⟨av, cv, rfl, hO⟩, hb1⟩
        go_wp2
        go_ret
        exact ⟨⟨_, _, rfl, hO⟩, old_trans hbw hb1⟩
end Go.Proofs.YtpamnpdigoikoaaDoor
