/- Powers of one digit, by the program, up to 511. No other condition. -/
import Derived.Test.YtbecopdoibonkaaGreatDoorPK14
namespace Go.Proofs.YtbecopdoibonkaaGreatDoor
open Go.RowKit
set_option linter.unusedVariables false
set_option maxRecDepth 100000

theorem pow_lenT' {V e N : Nat} (hV : V < 65536) (he : e < N) : (natL (V ^ e)).length ≤ N := by
  refine natL_len.2 ?_
  have h1 : V ^ e ≤ 65536 ^ e := Nat.pow_le_pow_left (Nat.le_of_lt hV) e
  exact Nat.lt_of_le_of_lt h1 (Nat.pow_lt_pow_right (by decide) he)
theorem pow_lenT {V e : Nat} (hV : V < 65536) (he : e ≤ 511) : (natL (V ^ e)).length ≤ 16385 := pow_lenT' hV (by omega)
theorem len_topT : ∀ m : Fin 512, 0 ≤ hlvI (m.val : Int) ∧ hlvI (m.val : Int) ≤ 9 ∧ m.val / 2 ^ (hlvI (m.val : Int)).toNat = 0 := by decide +kernel
/-- where the walk of the bits stands -/
structure PowJ (V m : Nat) (j : Int) (e : Nat) : Prop where
  lo : -1 ≤ j
  hi : j ≤ 8
  ex : e = m / 2 ^ (j + 1).toNat
set_option maxHeartbeats 8000000 in
theorem iPowerT (a : Option Addr) (len cap : Nat) (xs : List Int) (m : Nat) (w : World) (hR : InI w a len cap xs) (hok : natOk xs = true) (hVl : val xs < 65536) (hm : m ≤ 511) :
    Calls Tryz.prog 61 #[.slice a len cap, .int .i64 (m : Int)] w fun e w' => (∃ av cv, e = .returned (.slice av (natL (val xs ^ m)).length cv) ∧ OI w' w.heap.size av cv (natL (val xs ^ m))) ∧ Below w.heap.size w w' := by
  have hlen := hR.len
  have hp := hR.1
  have q := natOk_in hok
  have lt := len_topT ⟨m, by omega⟩
  dsimp only at lt
  have L := hd (iLenU (m : Int) (by omega))
  have hone := hd (one_oi w 3)
  have Sq := hd (fun e av cv w' (h : OI w' w.heap.size av cv (natL (val xs ^ e))) (he : e ≤ 511) => iTimes av av (natL (val xs ^ e)).length (natL (val xs ^ e)).length cv cv (natL (val xs ^ e)) (natL (val xs ^ e)) w' h.inI h.inI (digs_natL _) (digs_natL _) (by have := pow_lenT hVl he; omega) (by have := pow_lenT hVl he; omega))
  have Ml := hd (fun e av cv w' b (h : OI w' b av cv (natL (val xs ^ e))) (he : e ≤ 511) (hB : Below w.heap.size w w') => iTimes av a (natL (val xs ^ e)).length len cv cap (natL (val xs ^ e)) xs w' h.inI (hR.old hB) (digs_natL _) q.2.1 (by have := pow_lenT hVl he; omega) (by omega))
  simp only [val_natL, ← Nat.pow_add, ← Nat.pow_succ] at Sq Ml
  generalize val xs = V at *
  have h0 : PowJ V m (hlvI (m : Int) - 1) 0 := ⟨by omega, by omega, by rw [show hlvI (m : Int) - 1 + 1 = hlvI (m : Int) by omega]; exact lt.2.2.symm⟩
  have hl0 := lt.1
  have hl1 := lt.2.1
  generalize hlvI (m : Int) = lz at *
  clear lt hok q hVl
  have hB1 : Below w.heap.size w (w.alloc (.cells #[.int .i64 1] 3)) := (Below.refl _ w).alloc (Nat.le_refl _) _
  go_enter Tryz.func61, Tryz.ntmps61
  go_wp2_with fail
  refine (L.out _).mono ?_
  rintro e w1 ⟨rfl, hw⟩
  subst hw
  go_wp2
  go_loopw [5, 6] (fun o i wr => ∃ (j : Int) (e : Nat) (av : Option Addr) (l cv : Nat), PowJ V m j e ∧ i = .int .i64 j ∧ o = .slice av l cv ∧ l = (natL (V ^ e)).length ∧ OI wr w.heap.size av cv (natL (V ^ e)) ∧ Below w.heap.size w wr) (fun _ i _ => (intOf i + 1).toNat)
  case atStart => exact ⟨lz - 1, 0, _, 1, _, h0, rfl, rfl, by rw [Nat.pow_zero, one_len], by rw [Nat.pow_zero]; exact hone.out, hB1⟩
  case round =>
    clear h0 hl0 hl1
    obtain ⟨j, e, av, l, cv, hJ, rfl, rfl, hl, O, hb⟩ := hrel
    have j0 := hJ.lo
    have j1 := hJ.hi
    have je := hJ.ex
    by_cases hj : 0 ≤ j
    · have he64 : e ≤ 511 := by rw [je]; exact Nat.le_trans (Nat.div_le_self _ _) hm
      have P := hd (Sq.out e av cv wr O he64)
      rw [← hl] at P
      have hcase : j = 0 ∨ j = 1 ∨ j = 2 ∨ j = 3 ∨ j = 4 ∨ j = 5 ∨ j = 6 ∨ j = 7 ∨ j = 8 := by omega
      have hsz := hb.size
      clear hl O hJ
      rcases hcase with rfl | rfl | rfl | rfl | rfl | rfl | rfl | rfl | rfl
      · have hfd : (m : Int).fdiv 1 = (m : Int) := by rw [Int.fdiv_eq_ediv_of_nonneg _ (by omega)]; omega
        have je' : e = m / 2 := je
        by_cases hbit : m / 1 % 2 = 1
        · have hand : bits .and .i64 (m : Int) 1 = 1 := by rw [i64_and1]; omega
          have hnx : PowJ V m (0 - 1) (e + e + 1) := ⟨by omega, by omega, by show _ = m / 1; omega⟩
          have hnx' := hd hnx
          have hee : Hid (e + e ≤ 511) := by show _ ≤ _; omega
          clear je je' hbit hnx
          go_wp2_with fail
          refine P.out.mono ?_
          rintro e1 w2 ⟨⟨av2, cv2, rfl, hO⟩, hb2⟩
          have hbb := old_trans hb hb2
          have Q := hd (Ml.out (e + e) av2 cv2 w2 _ hO hee.out hbb)
          go_wp2_with fail
          refine Q.out.mono ?_
          rintro e1 w3 ⟨⟨av3, cv3, rfl, hO3⟩, hb3⟩
          have hs2 := hbb.size
          go_wp2
          go_roundw
          case rel => exact ⟨_, e + e + 1, av3, _, cv3, hnx'.out, by go_num, rfl, rfl, hO3.mono hs2, old_trans hbb hb3⟩
          case measure => simp [intOf]
        · have hand : bits .and .i64 (m : Int) 1 = 0 := by rw [i64_and1]; omega
          have hnx : PowJ V m (0 - 1) (e + e) := ⟨by omega, by omega, by show _ = m / 1; omega⟩
          have hnx' := hd hnx
          clear je je' hbit hnx
          go_wp2_with fail
          refine P.out.mono ?_
          rintro e1 w2 ⟨⟨av2, cv2, rfl, hO⟩, hb2⟩
          have hbb := old_trans hb hb2
          go_wp2
          go_roundw
          case rel => exact ⟨_, e + e, av2, _, cv2, hnx'.out, by go_num, rfl, rfl, hO.mono hsz, hbb⟩
          case measure => simp [intOf]
      · have hfd : (m : Int).fdiv 2 = (m : Int) / 2 := Int.fdiv_eq_ediv_of_nonneg _ (by omega)
        have je' : e = m / 4 := je
        by_cases hbit : m / 2 % 2 = 1
        · have hand : bits .and .i64 ((m : Int) / 2) 1 = 1 := by rw [i64_and1]; omega
          have hnx : PowJ V m (1 - 1) (e + e + 1) := ⟨by omega, by omega, by show _ = m / 2; omega⟩
          have hnx' := hd hnx
          have hee : Hid (e + e ≤ 511) := by show _ ≤ _; omega
          clear je je' hbit hnx
          go_wp2_with fail
          refine P.out.mono ?_
          rintro e1 w2 ⟨⟨av2, cv2, rfl, hO⟩, hb2⟩
          have hbb := old_trans hb hb2
          have Q := hd (Ml.out (e + e) av2 cv2 w2 _ hO hee.out hbb)
          go_wp2_with fail
          refine Q.out.mono ?_
          rintro e1 w3 ⟨⟨av3, cv3, rfl, hO3⟩, hb3⟩
          have hs2 := hbb.size
          go_wp2
          go_roundw
          case rel => exact ⟨_, e + e + 1, av3, _, cv3, hnx'.out, by go_num, rfl, rfl, hO3.mono hs2, old_trans hbb hb3⟩
          case measure => simp [intOf]
        · have hand : bits .and .i64 ((m : Int) / 2) 1 = 0 := by rw [i64_and1]; omega
          have hnx : PowJ V m (1 - 1) (e + e) := ⟨by omega, by omega, by show _ = m / 2; omega⟩
          have hnx' := hd hnx
          clear je je' hbit hnx
          go_wp2_with fail
          refine P.out.mono ?_
          rintro e1 w2 ⟨⟨av2, cv2, rfl, hO⟩, hb2⟩
          have hbb := old_trans hb hb2
          go_wp2
          go_roundw
          case rel => exact ⟨_, e + e, av2, _, cv2, hnx'.out, by go_num, rfl, rfl, hO.mono hsz, hbb⟩
          case measure => simp [intOf]
      · have hfd : (m : Int).fdiv 4 = (m : Int) / 4 := Int.fdiv_eq_ediv_of_nonneg _ (by omega)
        have je' : e = m / 8 := je
        by_cases hbit : m / 4 % 2 = 1
        · have hand : bits .and .i64 ((m : Int) / 4) 1 = 1 := by rw [i64_and1]; omega
          have hnx : PowJ V m (2 - 1) (e + e + 1) := ⟨by omega, by omega, by show _ = m / 4; omega⟩
          have hnx' := hd hnx
          have hee : Hid (e + e ≤ 511) := by show _ ≤ _; omega
          clear je je' hbit hnx
          go_wp2_with fail
          refine P.out.mono ?_
          rintro e1 w2 ⟨⟨av2, cv2, rfl, hO⟩, hb2⟩
          have hbb := old_trans hb hb2
          have Q := hd (Ml.out (e + e) av2 cv2 w2 _ hO hee.out hbb)
          go_wp2_with fail
          refine Q.out.mono ?_
          rintro e1 w3 ⟨⟨av3, cv3, rfl, hO3⟩, hb3⟩
          have hs2 := hbb.size
          go_wp2
          go_roundw
          case rel => exact ⟨_, e + e + 1, av3, _, cv3, hnx'.out, by go_num, rfl, rfl, hO3.mono hs2, old_trans hbb hb3⟩
          case measure => simp [intOf]
        · have hand : bits .and .i64 ((m : Int) / 4) 1 = 0 := by rw [i64_and1]; omega
          have hnx : PowJ V m (2 - 1) (e + e) := ⟨by omega, by omega, by show _ = m / 4; omega⟩
          have hnx' := hd hnx
          clear je je' hbit hnx
          go_wp2_with fail
          refine P.out.mono ?_
          rintro e1 w2 ⟨⟨av2, cv2, rfl, hO⟩, hb2⟩
          have hbb := old_trans hb hb2
          go_wp2
          go_roundw
          case rel => exact ⟨_, e + e, av2, _, cv2, hnx'.out, by go_num, rfl, rfl, hO.mono hsz, hbb⟩
          case measure => simp [intOf]
      · have hfd : (m : Int).fdiv 8 = (m : Int) / 8 := Int.fdiv_eq_ediv_of_nonneg _ (by omega)
        have je' : e = m / 16 := je
        by_cases hbit : m / 8 % 2 = 1
        · have hand : bits .and .i64 ((m : Int) / 8) 1 = 1 := by rw [i64_and1]; omega
          have hnx : PowJ V m (3 - 1) (e + e + 1) := ⟨by omega, by omega, by show _ = m / 8; omega⟩
          have hnx' := hd hnx
          have hee : Hid (e + e ≤ 511) := by show _ ≤ _; omega
          clear je je' hbit hnx
          go_wp2_with fail
          refine P.out.mono ?_
          rintro e1 w2 ⟨⟨av2, cv2, rfl, hO⟩, hb2⟩
          have hbb := old_trans hb hb2
          have Q := hd (Ml.out (e + e) av2 cv2 w2 _ hO hee.out hbb)
          go_wp2_with fail
          refine Q.out.mono ?_
          rintro e1 w3 ⟨⟨av3, cv3, rfl, hO3⟩, hb3⟩
          have hs2 := hbb.size
          go_wp2
          go_roundw
          case rel => exact ⟨_, e + e + 1, av3, _, cv3, hnx'.out, by go_num, rfl, rfl, hO3.mono hs2, old_trans hbb hb3⟩
          case measure => simp [intOf]
        · have hand : bits .and .i64 ((m : Int) / 8) 1 = 0 := by rw [i64_and1]; omega
          have hnx : PowJ V m (3 - 1) (e + e) := ⟨by omega, by omega, by show _ = m / 8; omega⟩
          have hnx' := hd hnx
          clear je je' hbit hnx
          go_wp2_with fail
          refine P.out.mono ?_
          rintro e1 w2 ⟨⟨av2, cv2, rfl, hO⟩, hb2⟩
          have hbb := old_trans hb hb2
          go_wp2
          go_roundw
          case rel => exact ⟨_, e + e, av2, _, cv2, hnx'.out, by go_num, rfl, rfl, hO.mono hsz, hbb⟩
          case measure => simp [intOf]
      · have hfd : (m : Int).fdiv 16 = (m : Int) / 16 := Int.fdiv_eq_ediv_of_nonneg _ (by omega)
        have je' : e = m / 32 := je
        by_cases hbit : m / 16 % 2 = 1
        · have hand : bits .and .i64 ((m : Int) / 16) 1 = 1 := by rw [i64_and1]; omega
          have hnx : PowJ V m (4 - 1) (e + e + 1) := ⟨by omega, by omega, by show _ = m / 16; omega⟩
          have hnx' := hd hnx
          have hee : Hid (e + e ≤ 511) := by show _ ≤ _; omega
          clear je je' hbit hnx
          go_wp2_with fail
          refine P.out.mono ?_
          rintro e1 w2 ⟨⟨av2, cv2, rfl, hO⟩, hb2⟩
          have hbb := old_trans hb hb2
          have Q := hd (Ml.out (e + e) av2 cv2 w2 _ hO hee.out hbb)
          go_wp2_with fail
          refine Q.out.mono ?_
          rintro e1 w3 ⟨⟨av3, cv3, rfl, hO3⟩, hb3⟩
          have hs2 := hbb.size
          go_wp2
          go_roundw
          case rel => exact ⟨_, e + e + 1, av3, _, cv3, hnx'.out, by go_num, rfl, rfl, hO3.mono hs2, old_trans hbb hb3⟩
          case measure => simp [intOf]
        · have hand : bits .and .i64 ((m : Int) / 16) 1 = 0 := by rw [i64_and1]; omega
          have hnx : PowJ V m (4 - 1) (e + e) := ⟨by omega, by omega, by show _ = m / 16; omega⟩
          have hnx' := hd hnx
          clear je je' hbit hnx
          go_wp2_with fail
          refine P.out.mono ?_
          rintro e1 w2 ⟨⟨av2, cv2, rfl, hO⟩, hb2⟩
          have hbb := old_trans hb hb2
          go_wp2
          go_roundw
          case rel => exact ⟨_, e + e, av2, _, cv2, hnx'.out, by go_num, rfl, rfl, hO.mono hsz, hbb⟩
          case measure => simp [intOf]
      · have hfd : (m : Int).fdiv 32 = (m : Int) / 32 := Int.fdiv_eq_ediv_of_nonneg _ (by omega)
        have je' : e = m / 64 := je
        by_cases hbit : m / 32 % 2 = 1
        · have hand : bits .and .i64 ((m : Int) / 32) 1 = 1 := by rw [i64_and1]; omega
          have hnx : PowJ V m (5 - 1) (e + e + 1) := ⟨by omega, by omega, by show _ = m / 32; omega⟩
          have hnx' := hd hnx
          have hee : Hid (e + e ≤ 511) := by show _ ≤ _; omega
          clear je je' hbit hnx
          go_wp2_with fail
          refine P.out.mono ?_
          rintro e1 w2 ⟨⟨av2, cv2, rfl, hO⟩, hb2⟩
          have hbb := old_trans hb hb2
          have Q := hd (Ml.out (e + e) av2 cv2 w2 _ hO hee.out hbb)
          go_wp2_with fail
          refine Q.out.mono ?_
          rintro e1 w3 ⟨⟨av3, cv3, rfl, hO3⟩, hb3⟩
          have hs2 := hbb.size
          go_wp2
          go_roundw
          case rel => exact ⟨_, e + e + 1, av3, _, cv3, hnx'.out, by go_num, rfl, rfl, hO3.mono hs2, old_trans hbb hb3⟩
          case measure => simp [intOf]
        · have hand : bits .and .i64 ((m : Int) / 32) 1 = 0 := by rw [i64_and1]; omega
          have hnx : PowJ V m (5 - 1) (e + e) := ⟨by omega, by omega, by show _ = m / 32; omega⟩
          have hnx' := hd hnx
          clear je je' hbit hnx
          go_wp2_with fail
          refine P.out.mono ?_
          rintro e1 w2 ⟨⟨av2, cv2, rfl, hO⟩, hb2⟩
          have hbb := old_trans hb hb2
          go_wp2
          go_roundw
          case rel => exact ⟨_, e + e, av2, _, cv2, hnx'.out, by go_num, rfl, rfl, hO.mono hsz, hbb⟩
          case measure => simp [intOf]
      · have hfd : (m : Int).fdiv 64 = (m : Int) / 64 := Int.fdiv_eq_ediv_of_nonneg _ (by omega)
        have je' : e = m / 128 := je
        by_cases hbit : m / 64 % 2 = 1
        · have hand : bits .and .i64 ((m : Int) / 64) 1 = 1 := by rw [i64_and1]; omega
          have hnx : PowJ V m (6 - 1) (e + e + 1) := ⟨by omega, by omega, by show _ = m / 64; omega⟩
          have hnx' := hd hnx
          have hee : Hid (e + e ≤ 511) := by show _ ≤ _; omega
          clear je je' hbit hnx
          go_wp2_with fail
          refine P.out.mono ?_
          rintro e1 w2 ⟨⟨av2, cv2, rfl, hO⟩, hb2⟩
          have hbb := old_trans hb hb2
          have Q := hd (Ml.out (e + e) av2 cv2 w2 _ hO hee.out hbb)
          go_wp2_with fail
          refine Q.out.mono ?_
          rintro e1 w3 ⟨⟨av3, cv3, rfl, hO3⟩, hb3⟩
          have hs2 := hbb.size
          go_wp2
          go_roundw
          case rel => exact ⟨_, e + e + 1, av3, _, cv3, hnx'.out, by go_num, rfl, rfl, hO3.mono hs2, old_trans hbb hb3⟩
          case measure => simp [intOf]
        · have hand : bits .and .i64 ((m : Int) / 64) 1 = 0 := by rw [i64_and1]; omega
          have hnx : PowJ V m (6 - 1) (e + e) := ⟨by omega, by omega, by show _ = m / 64; omega⟩
          have hnx' := hd hnx
          clear je je' hbit hnx
          go_wp2_with fail
          refine P.out.mono ?_
          rintro e1 w2 ⟨⟨av2, cv2, rfl, hO⟩, hb2⟩
          have hbb := old_trans hb hb2
          go_wp2
          go_roundw
          case rel => exact ⟨_, e + e, av2, _, cv2, hnx'.out, by go_num, rfl, rfl, hO.mono hsz, hbb⟩
          case measure => simp [intOf]
      · have hfd : (m : Int).fdiv 128 = (m : Int) / 128 := Int.fdiv_eq_ediv_of_nonneg _ (by omega)
        have je' : e = m / 256 := je
        by_cases hbit : m / 128 % 2 = 1
        · have hand : bits .and .i64 ((m : Int) / 128) 1 = 1 := by rw [i64_and1]; omega
          have hnx : PowJ V m (7 - 1) (e + e + 1) := ⟨by omega, by omega, by show _ = m / 128; omega⟩
          have hnx' := hd hnx
          have hee : Hid (e + e ≤ 511) := by show _ ≤ _; omega
          clear je je' hbit hnx
          go_wp2_with fail
          refine P.out.mono ?_
          rintro e1 w2 ⟨⟨av2, cv2, rfl, hO⟩, hb2⟩
          have hbb := old_trans hb hb2
          have Q := hd (Ml.out (e + e) av2 cv2 w2 _ hO hee.out hbb)
          go_wp2_with fail
          refine Q.out.mono ?_
          rintro e1 w3 ⟨⟨av3, cv3, rfl, hO3⟩, hb3⟩
          have hs2 := hbb.size
          go_wp2
          go_roundw
          case rel => exact ⟨_, e + e + 1, av3, _, cv3, hnx'.out, by go_num, rfl, rfl, hO3.mono hs2, old_trans hbb hb3⟩
          case measure => simp [intOf]
        · have hand : bits .and .i64 ((m : Int) / 128) 1 = 0 := by rw [i64_and1]; omega
          have hnx : PowJ V m (7 - 1) (e + e) := ⟨by omega, by omega, by show _ = m / 128; omega⟩
          have hnx' := hd hnx
          clear je je' hbit hnx
          go_wp2_with fail
          refine P.out.mono ?_
          rintro e1 w2 ⟨⟨av2, cv2, rfl, hO⟩, hb2⟩
          have hbb := old_trans hb hb2
          go_wp2
          go_roundw
          case rel => exact ⟨_, e + e, av2, _, cv2, hnx'.out, by go_num, rfl, rfl, hO.mono hsz, hbb⟩
          case measure => simp [intOf]
      · have hfd : (m : Int).fdiv 256 = (m : Int) / 256 := Int.fdiv_eq_ediv_of_nonneg _ (by omega)
        have je' : e = m / 512 := je
        by_cases hbit : m / 256 % 2 = 1
        · have hand : bits .and .i64 ((m : Int) / 256) 1 = 1 := by rw [i64_and1]; omega
          have hnx : PowJ V m (8 - 1) (e + e + 1) := ⟨by omega, by omega, by show _ = m / 256; omega⟩
          have hnx' := hd hnx
          have hee : Hid (e + e ≤ 511) := by show _ ≤ _; omega
          clear je je' hbit hnx
          go_wp2_with fail
          refine P.out.mono ?_
          rintro e1 w2 ⟨⟨av2, cv2, rfl, hO⟩, hb2⟩
          have hbb := old_trans hb hb2
          have Q := hd (Ml.out (e + e) av2 cv2 w2 _ hO hee.out hbb)
          go_wp2_with fail
          refine Q.out.mono ?_
          rintro e1 w3 ⟨⟨av3, cv3, rfl, hO3⟩, hb3⟩
          have hs2 := hbb.size
          go_wp2
          go_roundw
          case rel => exact ⟨_, e + e + 1, av3, _, cv3, hnx'.out, by go_num, rfl, rfl, hO3.mono hs2, old_trans hbb hb3⟩
          case measure => simp [intOf]
        · have hand : bits .and .i64 ((m : Int) / 256) 1 = 0 := by rw [i64_and1]; omega
          have hnx : PowJ V m (8 - 1) (e + e) := ⟨by omega, by omega, by show _ = m / 256; omega⟩
          have hnx' := hd hnx
          clear je je' hbit hnx
          go_wp2_with fail
          refine P.out.mono ?_
          rintro e1 w2 ⟨⟨av2, cv2, rfl, hO⟩, hb2⟩
          have hbb := old_trans hb hb2
          go_wp2
          go_roundw
          case rel => exact ⟨_, e + e, av2, _, cv2, hnx'.out, by go_num, rfl, rfl, hO.mono hsz, hbb⟩
          case measure => simp [intOf]
    · obtain rfl : j = -1 := by omega
      obtain rfl : e = m := by rw [je]; simp
      subst hl
      clear je hJ
      go_wp2
      go_ret
      exact ⟨⟨av, cv, rfl, O⟩, hb⟩
end Go.Proofs.YtbecopdoibonkaaGreatDoor
