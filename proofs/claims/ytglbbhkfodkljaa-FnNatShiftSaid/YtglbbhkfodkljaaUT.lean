/- How many bits a number has, as a natural; a draw of digits and a shift. -/
import Derived.Test.YtglbbhkfodkljaaUL
import Derived.Test.YtglbbhkfodkljaaUN
import Derived.Test.YtglbbhkfodkljaaBC
namespace Go.Proofs.Ytglbbhkfodkljaa
open Go.RowKit
set_option linter.unusedVariables false

theorem bitLen_hi (n : Nat) : ∀ x : Nat, x = n → x < 2 ^ 64 → x < 2 ^ (Lib.bitLen x) := by
  induction n using Nat.strongRecOn with
  | _ n ih =>
    intro x hx h
    by_cases h0 : x = 0
    · subst h0; exact Nat.pow_pos (by omega)
    · have e := Lib.bitLen_half x h0 h
      have := ih (x / 2) (by omega) (x / 2) rfl (by omega)
      rw [e, Nat.add_comm, Nat.pow_succ]
      omega
theorem bits_high {xs : List Int} (h : natOk xs = true) (h0 : xs.length ≠ 0) : val xs < 2 ^ (bitsN xs).toNat := by
  obtain ⟨h1, h2, h3⟩ := natOk_in h
  have d := h2 (xs.length - 1) (by omega)
  have hv := val_take_succ xs (xs.length - 1)
  rw [show xs.length - 1 + 1 = xs.length by omega, List.take_of_length_le (Nat.le_refl _)] at hv
  have hb : bitsN xs = 16 * ((xs.length : Int) - 1) + hlvI (xs.getD (xs.length - 1) 0) := by unfold bitsN; rw [if_neg h0]
  have hdt : digs (xs.take (xs.length - 1)) := (digs_append.1 (by rw [List.take_append_drop]; exact h2)).1
  have ht := val_lt hdt
  rw [List.length_take, Nat.min_eq_left (by omega)] at ht
  generalize xs.getD (xs.length - 1) 0 = x at *
  generalize val (xs.take (xs.length - 1)) = T at *
  unfold dig at d
  have hl := bitLen_hi _ x.toNat rfl (by omega)
  unfold hlvI at hb
  have he : (bitsN xs).toNat = 16 * (xs.length - 1) + Lib.bitLen x.toNat := by omega
  rw [he, Nat.pow_add, Nat.pow_mul, hv]
  have : 2 ^ 16 = 65536 := by decide
  rw [this]
  have h5 := Nat.mul_le_mul_left (65536 ^ (xs.length - 1)) hl
  rw [Nat.mul_succ] at h5
  omega
theorem nbits_natL {v : Nat} (h0 : v ≠ 0) (l : (natL v).length ≤ 256) : nbits (natL v) = (v.log2 : Int) + 1 := by
  have hok := okL l
  have hn := natL_ne h0
  have a := bits_low hok hn
  have b := bits_high hok hn
  rw [val_natL] at a b
  have e : v.log2 = (bitsN (natL v) - 1).toNat := by
    rw [Nat.log2_eq_iff h0]
    refine ⟨a.1, ?_⟩
    rw [show (bitsN (natL v) - 1).toNat + 1 = (bitsN (natL v)).toNat by omega]
    exact b
  unfold nbits
  rw [hok, e]
  show bitsN (natL v) = _
  omega
theorem nbits_zero : nbits (natL 0) = 0 := by rw [natL_zero]; rfl
theorem log2_shl {v j : Nat} (h0 : v ≠ 0) : (v * 2 ^ j).log2 = v.log2 + j := by
  have h := (Nat.log2_eq_iff h0).1 rfl
  have hp : 0 < 2 ^ j := Nat.pow_pos (by omega)
  rw [Nat.log2_eq_iff (Nat.mul_ne_zero h0 (by omega))]
  refine ⟨?_, ?_⟩
  · rw [Nat.pow_add]; exact Nat.mul_le_mul_right _ h.1
  · rw [show v.log2 + j + 1 = (v.log2 + 1) + j by omega, Nat.pow_add]; exact Nat.mul_lt_mul_of_pos_right h.2 hp
theorem log2_shr {v j : Nat} (h0 : v / 2 ^ j ≠ 0) : v.log2 = (v / 2 ^ j).log2 + j := by
  have hp : 0 < 2 ^ j := Nat.pow_pos (by omega)
  have hv : v ≠ 0 := by intro e; subst e; exact h0 (Nat.zero_div _)
  have h := (Nat.log2_eq_iff h0).1 rfl
  rw [Nat.log2_eq_iff hv]
  refine ⟨?_, ?_⟩
  · rw [Nat.pow_add]; exact Nat.le_trans (Nat.mul_le_mul_right _ h.1) (Nat.div_mul_le_self v _)
  · rw [show (v / 2 ^ j).log2 + j + 1 = ((v / 2 ^ j).log2 + 1) + j by omega, Nat.pow_add]
    exact (Nat.div_lt_iff_lt_mul hp).1 h.2
theorem log2_small {v j : Nat} (h : v / 2 ^ j = 0) (h0 : v ≠ 0) : v.log2 + 1 ≤ j := by
  have hp : 0 < 2 ^ j := Nat.pow_pos (by omega)
  have h1 : v < 2 ^ j := (Nat.div_eq_zero_iff_lt hp).1 h
  have h2 := ((Nat.log2_eq_iff h0).1 rfl).1
  exact (Nat.pow_lt_pow_iff_right (by omega)).1 (Nat.lt_of_le_of_lt h2 h1)
theorem pick12 (t s u : Int) (t0 : 0 ≤ t) (t1 : t < 200) (s0 : 0 ≤ s) (s1 : s < 4000) (u0 : 0 ≤ u) (u1 : u < 12) : ∃ x : Int, ((-4096 ≤ x ∧ x ≤ 4097) ∨ x = 4611686018427387904) ∧ (#[Value.int .i64 0, Value.int .i64 1, Value.int .i64 (-1), Value.int .i64 16, Value.int .i64 (-16), Value.int .i64 17, Value.int .i64 (t - 100), Value.int .i64 4096, Value.int .i64 (-4096), Value.int .i64 4097, Value.int .i64 s, Value.int .i64 4611686018427387904] : Array Value)[u.toNat]? = some (.int .i64 x) := by
  have h : u = 0 ∨ u = 1 ∨ u = 2 ∨ u = 3 ∨ u = 4 ∨ u = 5 ∨ u = 6 ∨ u = 7 ∨ u = 8 ∨ u = 9 ∨ u = 10 ∨ u = 11 := by omega
  rcases h with rfl | rfl | rfl | rfl | rfl | rfl | rfl | rfl | rfl | rfl | rfl | rfl
  all_goals exact ⟨_, by omega, rfl⟩
theorem wrap100 {t : Int} (h0 : 0 ≤ t) (h1 : t < 200) : IntKind.wrap .i64 (t - 100) = t - 100 := by rw [IntKind.wrap_i64]; omega
/-- a list in new memory, and a shift -/
def LiS (w : World) (base : Nat) (e : Ending) : Prop := ∃ av cv xs, ∃ k : Int, e = .returned (.tuple #[.slice av (List.length xs) cv, .int .i64 k]) ∧ OI w base av cv xs ∧ List.length xs ≤ 257 ∧ ((-4096 ≤ k ∧ k ≤ 4097) ∨ k = 4611686018427387904)
set_option maxHeartbeats 4000000 in
theorem drawNatShift (w : World) (a : Option Addr) (len cap : Nat) (h : IsCode w a len cap) :
    Calls Try.prog 15 #[.slice a len cap] w fun e w' => LiS w' w.heap.size e ∧ Below w.heap.size w w' := by
  have hop := hd (open_kB w a len cap h)
  go_enter Try.func15, Try.ntmps15
  go_wp2_with fail
  refine hop.out.mono ?_
  rintro e w1 ⟨rfl, o, rfl, hR⟩
  have hsz0 : (w.alloc o).heap.size = w.heap.size + 1 := by simp
  generalize hrb : w.heap.size = rb at *
  clear hop h
  go_wp2_with fail
  refine (raw_k rb 90000 _ (hR.mono (by omega))).mono ?_
  rintro e w2 ⟨⟨v, xs, rfl, G, F_, hl_⟩, R2, B2⟩
  have hl := hd hl_
  have hs2 := B2.size
  obtain ⟨av, cv, rfl, O⟩ := G.oi F_
  clear hR F_ hl_ G
  have hlt2 : rb < w2.heap.size := by omega
  have hO : ∀ q, av = some q → some q.block ≠ some rb := fun q e1 e2 => by injection e2 with e2; have := O.ge q e1; omega
  go_wp2_with fail
  go_region_with (first
    | (go_at_call 36; with_reducible refine (pick_k rb 89999 200 _ (by first | exact R2 | exact R2.drewd) (by decide)).mono ?_; rintro e w5 ⟨⟨t, ⟨ta, tb⟩, rfl⟩, R5, B5⟩; have hw5 := wrap100 ta tb; have hs5 := (by first | exact B5.sizeD | exact B5.size : w2.heap.size ≤ w5.heap.size); have O5 := (by first | exact O.kept B5.grown hO | exact O.drew.kept B5.grown hO : OI w5 _ av cv _); have B55 := (by first | exact B2.trans B5 | exact B2.trans B5.ofD : But rb (w.alloc o) w5))
    | (go_at_call 36; with_reducible refine (pick_k rb 89998 4000 _ R5 (by decide)).mono ?_; rintro e w6 ⟨⟨s, ⟨sa, sb⟩, rfl⟩, R6, B6⟩; have hs6 := B6.size; have O6 := O5.kept B6.grown hO; have B56 := B55.trans B6; obtain ⟨arr, hArr⟩ : ∃ arr : Array Value, (#[Value.int .i64 0, Value.int .i64 1, Value.int .i64 (-1), Value.int .i64 16, Value.int .i64 (-16), Value.int .i64 17, Value.int .i64 (t - 100), Value.int .i64 4096, Value.int .i64 (-4096), Value.int .i64 4097, Value.int .i64 s, Value.int .i64 4611686018427387904] : Array Value) = arr := ⟨_, rfl⟩)
    | (go_at_call 36; with_reducible refine (pick_k rb 89997 12 _ (by first | exact R6 | exact (R6.alloc _)) (by decide)).mono ?_; rintro e w7 ⟨⟨u, ⟨ua, ub⟩, rfl⟩, R7, B7⟩; obtain ⟨x, hx, hX⟩ := pick12 t s u ta tb sa sb ua ub; rw [hArr] at hX; have hs7 := B7.size; (first | have hc7 := cell_built B7 hX (Nat.ne_of_gt (Nat.lt_of_lt_of_le (Nat.lt_of_lt_of_le hlt2 hs5) hs6)) | have hc7 := cell_made w7 3 hX); have O7 := (by first | exact O6.kept B7.grown hO | exact (O6.alloc _).kept B7.grown hO : OI w7 _ av cv _); have B57 := (by first | exact B56.trans B7 | exact (B56.alloc _).trans B7 : But rb (w.alloc o) w7)))
  all_goals
    subst hrb
    go_wp2
    go_ret2
    first | exact ⟨⟨av, cv, _, x, rfl, O7.mono (by omega), hl.out, hx⟩, B57.below⟩ | exact ⟨⟨av, cv, _, x, rfl, (O7.alloc _).mono (by omega), hl.out, hx⟩, (B57.alloc _).below⟩
end Go.Proofs.Ytglbbhkfodkljaa
