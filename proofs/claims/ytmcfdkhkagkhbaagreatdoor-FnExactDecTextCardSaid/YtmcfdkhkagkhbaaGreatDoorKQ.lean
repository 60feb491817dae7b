/- Decimals with a point ahead of the last places, by the program. No condition but the lengths. -/
import Derived.Test.YtmcfdkhkagkhbaaGreatDoorBZ
import Derived.Test.YtmcfdkhkagkhbaaGreatDoorKU
namespace Go.Proofs.YtmcfdkhkagkhbaaGreatDoor
open Go.RowKit Go.Lib
set_option linter.unusedVariables false
set_option maxRecDepth 100000

/-- decimals with the point ahead of the last k -/
def ptL (l : List UInt8) (k : Nat) : List UInt8 := if k = 0 then l else (List.replicate (k + 1 - l.length) 48 ++ l).take (max l.length (k + 1) - k) ++ 46 :: (List.replicate (k + 1 - l.length) 48 ++ l).drop (max l.length (k + 1) - k)
theorem qt_app (l m : List UInt8) : bt l ++ bt m = bt (l ++ m) := by
  apply ByteArray.ext
  rw [ByteArray.data_append]
  simp [bt]
theorem qt_take (l : List UInt8) (n : Nat) : (bt l).extract 0 n = bt (l.take n) := by
  apply ByteArray.ext
  rw [ByteArray.data_extract]
  apply Array.ext'
  simp [bt]
theorem qt_drop (l : List UInt8) (k : Nat) : (bt l).extract k l.length = bt (l.drop k) := by
  apply ByteArray.ext
  rw [ByteArray.data_extract]
  apply Array.ext'
  simp [bt]
  exact List.take_of_length_le (by simp)
theorem qTo (l : List UInt8) (n : Nat) (h : n ≤ l.length) (w : World) : (Instr.slice 9 (.string (bt l)) none (some (.int .i64 (n : Int))) none).run Tryz.prog w = .ok (.string (bt (l.take n))) w := by
  have e1 : ¬ (l.length < n) := by omega
  simp [go_sem, bt_size, qt_take]
  intro h9
  exact absurd h9 e1
theorem qFrom (l : List UInt8) (k : Nat) (h : k ≤ l.length) (w : World) : (Instr.slice 9 (.string (bt l)) (some (.int .i64 (k : Int))) none none).run Tryz.prog w = .ok (.string (bt (l.drop k))) w := by
  have e1 : ¬ (l.length < k) := by omega
  simp [go_sem, bt_size, qt_drop]
  intro h9
  exact absurd h9 e1
theorem iHP (C : ByteArray) (b : UInt8) (h : C.data.toList.head? = some b) (w : World) : Calls Tryz.prog 85 #[.string C, .string ⟨#[48]⟩] w fun e w' => e = .returned (.bool (48 == b)) ∧ w' = w := by
  refine (sh_strings_HasPrefix C ⟨#[48]⟩ w).mono ?_
  rintro e w' ⟨rfl, rfl⟩
  refine ⟨?_, rfl⟩
  cases hc : C.data.toList with
  | nil => rw [hc] at h; cases h
  | cons x t =>
    rw [hc] at h
    obtain rfl : x = b := by simpa using h
    simp [hasPrefix, List.isPrefixOf]
theorem zeros_take (n m : Nat) (h : n ≤ m) : (List.replicate m (48 : UInt8)).take n = List.replicate n 48 := by rw [List.take_replicate, Nat.min_eq_left h]
set_option maxRecDepth 100000 in
set_option maxHeartbeats 4000000 in
theorem iRepeat (n : Nat) (h2 : n ≤ 60) (w : World) : Calls Tryz.prog 63 #[.string ⟨#[48]⟩, .int .i64 (n : Int)] w fun e w' => e = .returned (.string (bt (List.replicate n 48))) ∧ Below w.heap.size w w' := by
  have hc : n = 0 ∨ n = 1 ∨ 2 ≤ n := by omega
  rcases hc with rfl | rfl | hn
  · go_enter Tryz.func63, Tryz.ntmps63
    go_wp2
    go_ret
    exact ⟨rfl, Below.refl _ _⟩
  · go_enter Tryz.func63, Tryz.ntmps63
    go_wp2
    go_ret
    exact ⟨rfl, Below.refl _ _⟩
  · have M := hd (fun w' => sh_bits_Mul 1 n (by decide) (by omega) w')
    rw [Nat.one_mul, Nat.div_eq_of_lt (show n < 18446744073709551616 by omega), Nat.mod_eq_of_lt (show n < 18446744073709551616 by omega)] at M
    have i1 : ¬ ((n : Int) = 0) := by omega
    have i2 : ¬ ((n : Int) = 1) := by omega
    have i3 : ¬ ((n : Int) < 0) := by omega
    have i4 : (n : Int) ≤ 60 := by omega
    have i5 : ¬ ((9223372036854775807 : Int) < (n : Int)) := by omega
    have i6 : ¬ (9223372036854775807 < n) := by omega
    have i7 : (n : Int) ≤ 64 := by omega
    have i8 : (n : Int) ≤ 128 := by omega
    have i9 : n ≤ 64 := by omega
    go_enter Tryz.func63, Tryz.ntmps63
    go_wp2_with fail
    refine (M.out _).mono ?_
    rintro e w' ⟨rfl, rfl⟩
    go_wp2_with (go_at_call 85; (first | refine (iHP _ 32 rfl _).mono ?_ | refine (iHP _ 45 rfl _).mono ?_ | refine (iHP _ 48 rfl _).mono ?_); rintro e w'' ⟨rfl, rfl⟩)
    go_ret
    refine ⟨?_, Below.refl _ _⟩
    have e9 := qt_take (List.replicate 64 48) n
    rw [zeros_take n 64 (by omega)] at e9
    exact congrArg (fun z => Ending.returned (.string z)) e9
set_option maxRecDepth 100000 in
set_option maxHeartbeats 4000000 in
theorem iPointed (l : List UInt8) (k : Nat) (hk : k ≤ 59) (hl : l.length ≤ 100000) (w : World) : Calls Tryz.prog 43 #[.string (bt l), .int .i64 (k : Int)] w fun e w' => e = .returned (.string (bt (ptL l k))) ∧ Below w.heap.size w w' := by
  by_cases h0 : k = 0
  · subst h0
    rw [show ptL l 0 = l from rfl]
    go_enter Tryz.func43, Tryz.ntmps43
    go_wp2
    go_ret
    exact ⟨rfl, Below.refl _ _⟩
  · have hk0 : ¬ ((k : Int) = 0) := by omega
    obtain ⟨c, hc⟩ : ∃ c, k + 1 - l.length = c := ⟨_, rfl⟩
    have hp : ptL l k = (List.replicate c 48 ++ l).take (max l.length (k + 1) - k) ++ 46 :: (List.replicate c 48 ++ l).drop (max l.length (k + 1) - k) := by unfold ptL; rw [if_neg h0, hc]
    obtain ⟨p, hpp⟩ : ∃ p, max l.length (k + 1) - k = p := ⟨_, rfl⟩
    rw [hpp] at hp
    obtain ⟨a, ha⟩ : ∃ a, List.replicate c 48 ++ l = a := ⟨_, rfl⟩
    have hal : a.length = c + l.length := by rw [← ha]; simp
    rw [ha] at hp
    have R := hd (fun w' => iRepeat c (by omega) w')
    have hcI : (c : Int) ≤ 60 := by omega
    have hkI : (k : Int) ≤ 59 := by omega
    have hlI : (l.length : Int) ≤ 100000 := by omega
    have hmx : max ((k : Int) + 1 - (l.length : Int)) 0 = (c : Int) := by omega
    have hsz := bt_size l
    have hra : bt (List.replicate c 48) ++ bt l = bt a := by rw [qt_app, ha]
    have hsr : (bt (List.replicate c (48 : UInt8))).size = c := by rw [bt_size]; simp
    have hsa : (bt a).size = a.length := bt_size a
    have hpI : (a.length : Int) - (k : Int) = (p : Int) := by omega
    have q1 := qTo a p (by omega)
    have q2 := qFrom a p (by omega)
    have f1 : bt (a.take p) ++ ⟨#[46]⟩ ++ bt (a.drop p) = bt (ptL l k) := by
      rw [hp, show (⟨#[46]⟩ : ByteArray) = bt [46] from rfl, qt_app, qt_app]; simp
    have z1 : (bt (a.take p)).size ≤ 100100 := by rw [bt_size, List.length_take]; omega
    have z2 : (bt (a.drop p)).size ≤ 100100 := by rw [bt_size, List.length_drop]; omega
    have haI : (a.length : Int) ≤ 100100 := by omega
    have f1' := hd f1
    clear hp hpp ha hc hal f1
    go_enter Tryz.func43, Tryz.ntmps43
    go_wp2_with fail
    refine (R.out _).mono ?_
    rintro e w1 ⟨rfl, hb1⟩
    go_wp2
    go_quiet (fail)
    go_wp2
    go_ret
    refine ⟨?_, ?_⟩
    · rw [← f1'.out]; rfl
    · exact hb1.trans ⟨rfl, rfl, rfl, Nat.le_refl _, fun _ _ => rfl⟩
set_option maxHeartbeats 1000000 in
theorem iTenPow (k : Nat) (hk : k ≤ 64) (w : World) : Calls Tryz.prog 41 #[.int .i64 (k : Int)] w fun e w' => (∃ av cv, e = .returned (.slice av (natL (10 ^ k)).length cv) ∧ OI w' w.heap.size av cv (natL (10 ^ k))) ∧ Below w.heap.size w w' := by
  have e10 : natL 10 = [10] := by rw [natL_pos (by decide), show 10 / 65536 = 0 from rfl, natL_zero]; rfl
  have hal : Below w.heap.size w (w.alloc (.cells #[.int .i64 10] 3)) := old_alloc (Below.refl _ _) _
  have hI : InI (w.alloc (.cells #[.int .i64 10] 3)) (some ⟨w.heap.size, 0, none⟩) 1 1 [10] := ⟨rfl, Nat.le_refl _, by decide, fun x hx => by rw [List.mem_singleton] at hx; subst hx; decide, .inr ⟨w.heap.size, 0, rfl, by simp, fun i hi => by obtain rfl : i = 0 := (by omega); simp⟩⟩
  have P := hd (iPower (some ⟨w.heap.size, 0, none⟩) 1 1 [10] k _ hI (by rw [← e10]; exact natOk_natL (Nat.lt_of_lt_of_le (show 10 < 65536 ^ 1 by decide) (Nat.pow_le_pow_right (by decide) (by decide)))) hk)
  have hv : val [10] = 10 := by rw [← e10, val_natL]
  rw [hv] at P
  go_enter Tryz.func41, Tryz.ntmps41
  go_wp2_with fail
  refine P.out.mono ?_
  rintro e w1 ⟨⟨av, cv, rfl, O⟩, hb1⟩
  go_wp2
  go_ret
  exact ⟨⟨_, _, rfl, O.mono (by simp)⟩, old_trans hal hb1⟩
end Go.Proofs.YtmcfdkhkagkhbaaGreatDoor
