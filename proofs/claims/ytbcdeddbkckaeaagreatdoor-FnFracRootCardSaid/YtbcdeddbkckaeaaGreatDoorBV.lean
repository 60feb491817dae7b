/- Square roots, down: by bits and by steps from above. Conditions: numbers. -/
import Derived.Test.YtbcdeddbkckaeaaGreatDoorBG
import Derived.Test.YtbcdeddbkckaeaaGreatDoorV5
import Derived.Test.YtbcdeddbkckaeaaGreatDoorBC
import Derived.Deep.LoopGhost
import Derived.Test.YtbcdeddbkckaeaaGreatDoorBB
namespace Go.Proofs.YtbcdeddbkckaeaaGreatDoor
open Go.RowKit
set_option linter.unusedVariables false
set_option maxRecDepth 100000

def isRoot (a r : Nat) : Prop := r * r ≤ a ∧ a < (r + 1) * (r + 1)
theorem sq_lt {x y : Nat} (h : x < y) : (x + 1) * (x + 1) ≤ y * y := Nat.mul_le_mul h h
theorem isRoot_one {a r s : Nat} (h : isRoot a r) (k : isRoot a s) : r = s := by
  rcases Nat.lt_trichotomy r s with g | g | g
  · have := sq_lt g; have := h.2; have := k.1; omega
  · exact g
  · have := sq_lt g; have := k.2; have := h.1; omega
theorem root_is (a : Nat) : ∃ r, isRoot a r := by
  induction a with
  | zero => exact ⟨0, by simp [isRoot]⟩
  | succ a ih =>
    obtain ⟨r, h1, h2⟩ := ih
    by_cases h : (r + 1) * (r + 1) ≤ a + 1
    · refine ⟨r + 1, h, ?_⟩
      have e : (r + 1 + 1) * (r + 1 + 1) = (r + 1) * (r + 1) + 2 * (r + 1) + 1 := by grind
      omega
    · exact ⟨r, by omega, by omega⟩
theorem four_le (x y : Nat) : 4 * (x * y) ≤ (x + y) * (x + y) := by
  rcases Nat.le_total x y with h | h
  · obtain ⟨d, rfl⟩ := Nat.exists_eq_add_of_le h
    have e : (x + (x + d)) * (x + (x + d)) = 4 * (x * (x + d)) + d * d := by grind
    omega
  · obtain ⟨d, rfl⟩ := Nat.exists_eq_add_of_le h
    have e : (y + d + y) * (y + d + y) = 4 * ((y + d) * y) + d * d := by grind
    omega
/-- a step from above does not go below the root -/
theorem newton_above {a r : Nat} (hr : 0 < r) : a < ((r + a / r) / 2 + 1) * ((r + a / r) / 2 + 1) := by
  have hlt : a < r * (a / r + 1) := by
    have := Nat.div_add_mod a r
    have := Nat.mod_lt a hr
    rw [Nat.mul_add, Nat.mul_one]; omega
  generalize hq : a / r = q at *
  have h4 := four_le r (q + 1)
  have hs : r + (q + 1) ≤ 2 * ((r + q) / 2 + 1) := by omega
  generalize (r + q) / 2 + 1 = s at *
  have h5 : (r + (q + 1)) * (r + (q + 1)) ≤ (2 * s) * (2 * s) := Nat.mul_le_mul hs hs
  have e : (2 * s) * (2 * s) = 4 * (s * s) := by grind
  omega
theorem newton_stop {a r : Nat} (hr : 0 < r) (h : r ≤ (r + a / r) / 2) : r * r ≤ a := by
  have h1 : r ≤ a / r := by omega
  have := (Nat.le_div_iff_mul_le hr).1 h1
  exact this
theorem newton_pos {a r : Nat} (ha : 0 < a) (hr : 0 < r) : 0 < (r + a / r) / 2 := by
  have h := newton_above (a := a) hr
  rcases Nat.eq_zero_or_pos ((r + a / r) / 2) with g | g
  · rw [g] at h; omega
  · exact g
theorem hlv_up (k : Nat) : k ≤ 16 → ∀ d : Int, 0 ≤ d → d < ((2 ^ k : Nat) : Int) → d < ((2 ^ (hlvI d).toNat : Nat) : Int) ∧ 0 ≤ hlvI d := by
  induction k with
  | zero =>
    intro _ d h0 h1
    obtain rfl : d = 0 := by simp at h1; omega
    rw [hlvI_zero]; simp
  | succ k ih =>
    intro hk d h0 h1
    by_cases hd : d = 0
    · subst hd; rw [hlvI_zero]; simp
    · have hle : (2 : Nat) ^ (k + 1) ≤ 2 ^ 16 := Nat.pow_le_pow_right (by omega) hk
      have h16 : (2 : Nat) ^ 16 = 65536 := by decide
      have hps : (2 : Nat) ^ (k + 1) = 2 ^ k * 2 := Nat.pow_succ ..
      obtain ⟨i1, i2⟩ := ih (by omega) (d / 2) (by omega) (by omega)
      rw [hlvI_half (by omega) (by omega)]
      rw [show (hlvI (d / 2) + 1).toNat = (hlvI (d / 2)).toNat + 1 by omega, Nat.pow_succ]
      generalize 2 ^ (hlvI (d / 2)).toNat = z at *
      omega
theorem bits_up {xs : List Int} (h : digs xs) (h0 : xs.length ≠ 0) : val xs < 2 ^ (bitsN xs).toNat := by
  obtain ⟨n, hn⟩ : ∃ n, xs.length = n + 1 := ⟨xs.length - 1, by omega⟩
  have d := digs_getD h n
  unfold dig at d
  have h16 : ((2 ^ 16 : Nat) : Int) = 65536 := by decide
  obtain ⟨u1, u2⟩ := hlv_up 16 (by omega) (xs.getD n 0) d.1 (by rw [h16]; exact d.2)
  have e : bitsN xs = 16 * (n : Int) + hlvI (xs.getD n 0) := by
    unfold bitsN
    rw [if_neg h0, hn, show n + 1 - 1 = n by omega]
    omega
  have hv := val_take_succ xs n
  rw [List.take_of_length_le (by omega)] at hv
  have hl := val_lt (digs_take (n := n) h)
  rw [List.length_take, Nat.min_eq_left (by omega)] at hl
  rw [hv, e, show (16 * (n : Int) + hlvI (xs.getD n 0)).toNat = 16 * n + (hlvI (xs.getD n 0)).toNat by omega, pow2_split]
  have hz : (xs.getD n 0).toNat + 1 ≤ 2 ^ (hlvI (xs.getD n 0)).toNat := by
    generalize 2 ^ (hlvI (xs.getD n 0)).toNat = z at *
    omega
  have h5 := Nat.mul_le_mul_left (65536 ^ n) hz
  rw [Nat.mul_add, Nat.mul_one] at h5
  generalize 65536 ^ n * 2 ^ (hlvI (xs.getD n 0)).toNat = z at *
  generalize 65536 ^ n * (xs.getD n 0).toNat = z2 at *
  omega
theorem half_up {A : Nat} {b : Int} (hb : 0 ≤ b) (h : A < 2 ^ b.toNat) : ∃ K : Nat, (b + 1) / 2 = (K : Int) ∧ A < 2 ^ K * 2 ^ K := by
  refine ⟨((b + 1) / 2).toNat, by omega, ?_⟩
  rw [← Nat.pow_add]
  exact Nat.lt_of_lt_of_le h (Nat.pow_le_pow_right (by omega) (by omega))
theorem up_n (a : Option Addr) (len cap : Nat) (xs : List Int) (k : Nat) (w : World) (hR : InI w a len cap xs) (hx : digs xs) (hk : k ≤ 16000) (hl : len ≤ 1048576) :
    Calls Tryz.prog 88 #[.slice a len cap, .int .i64 (k : Int)] w fun e w' => (∃ av cv, e = .returned (.slice av (natL (2 ^ k * val xs)).length cv) ∧ OI w' w.heap.size av cv (natL (2 ^ k * val xs))) ∧ Below w.heap.size w w' := by
  obtain ⟨P, p, rfl, hp⟩ := split16q k
  have h := iUp a len cap xs P p w hR hx hp (by omega) hl
  rw [show (16 * (P : Int) + (p : Int)) = ((16 * P + p : Nat) : Int) by omega] at h
  rw [pow2_split]
  exact h
theorem sPow2n (k : Nat) (w : World) (hk : k ≤ 16000) :
    Calls Tryz.prog 72 #[.int .i64 (k : Int)] w fun e w' => (∃ av cv, e = .returned (.slice av (natL (2 ^ k)).length cv) ∧ OI w' w.heap.size av cv (natL (2 ^ k))) ∧ Below w.heap.size w w' := by
  obtain ⟨P, p, rfl, hp⟩ := split16q k
  have h := sPow2 P p w hp (by omega)
  rw [show (16 * (P : Int) + (p : Int)) = ((16 * P + p : Nat) : Int) by omega] at h
  rw [pow2_split]
  exact h
end Go.Proofs.YtbcdeddbkckaeaaGreatDoor

/- A number times a small one, and more: a new number. No condition. -/
namespace Go.Proofs.YtbcdeddbkckaeaaGreatDoor
open Go.RowKit
set_option linter.unusedVariables false
set_option maxRecDepth 100000

def TsI (k : Nat) (xs o : List Int) (f m c : Nat) : Prop := o.length = k ∧ digs o ∧ val o + 65536 ^ k * c = val (xs.take k) * f + m
theorem TsI.zero (xs : List Int) (f m : Nat) : TsI 0 xs [] f m m := ⟨rfl, digs_nil, by simp [val]⟩
theorem val_snocT (o : List Int) (d : Nat) : val (o ++ [(d : Int)]) = val o + 65536 ^ o.length * d := by
  rw [val_append, val_cons, val_nil]; simp
theorem ts_alg {V B c x f m T s q r : Nat} (h : V + B * c = T * f + m) (hs : s = c + x * f) (hq : s = r + 65536 * q) : V + B * r + B * 65536 * q = (T + B * x) * f + m := by
  have e : B * s = B * r + B * 65536 * q := by rw [hq]; grind
  have e2 : B * s = B * c + B * x * f := by rw [hs]; grind
  rw [Nat.add_mul]; omega
theorem TsI.step {k : Nat} {xs o : List Int} {f m c : Nat} (h : TsI k xs o f m c) (s : Nat) (hs : s = c + (xs.getD k 0).toNat * f) :
    TsI (k + 1) xs (o ++ [((s % 65536 : Nat) : Int)]) f m (s / 65536) := by
  obtain ⟨h1, h2, h3⟩ := h
  refine ⟨by simp [h1], digs_append.2 ⟨h2, digs_cons.2 ⟨by unfold dig; omega, digs_nil⟩⟩, ?_⟩
  rw [val_snocT, h1, val_take_succ, Nat.pow_succ]
  exact ts_alg h3 hs (by omega)
def TsE (T : Nat) (o : List Int) (c : Nat) : Prop := digs o ∧ val o + 65536 ^ o.length * c = T
theorem TsE.step {T : Nat} {o : List Int} {c : Nat} (h : TsE T o c) : TsE T (o ++ [((c % 65536 : Nat) : Int)]) (c / 65536) := by
  obtain ⟨h2, h3⟩ := h
  refine ⟨digs_append.2 ⟨h2, digs_cons.2 ⟨by unfold dig; omega, digs_nil⟩⟩, ?_⟩
  rw [val_snocT, List.length_append, List.length_singleton, Nat.pow_succ]
  have := ts_alg (V := val o) (B := 65536 ^ o.length) (c := c) (x := 0) (f := 0) (m := T) (T := 0) (s := c) (q := c / 65536) (r := c % 65536) (by omega) (by omega) (by omega)
  omega
theorem TsI.fin {xs o : List Int} {f m c : Nat} (h : TsI xs.length xs o f m c) : TsE (val xs * f + m) o c := by
  obtain ⟨h1, h2, h3⟩ := h
  rw [List.take_of_length_le (Nat.le_refl _)] at h3
  exact ⟨h2, by rw [h1]; exact h3⟩
theorem mul_bdN {x : Int} {f : Nat} (hx : dig x) : 0 ≤ x * (f : Int) ∧ x * (f : Int) ≤ 65535 * (f : Int) := by
  unfold dig at hx
  exact ⟨Int.mul_nonneg hx.1 (by omega), Int.mul_le_mul_of_nonneg_right (by omega) (by omega)⟩
theorem c_of (x : Int) (f c : Nat) (hx : dig x) : ((c + x.toNat * f : Nat) : Int) = (c : Int) + x * (f : Int) := by
  unfold dig at hx
  rw [Int.natCast_add, Int.natCast_mul, Int.toNat_of_nonneg hx.1]
set_option maxRecDepth 100000 in
set_option maxHeartbeats 4000000 in
theorem iTimesSmall (a : Option Addr) (len cap : Nat) (xs : List Int) (f m : Nat) (w : World) (hR : InI w a len cap xs) (hx : digs xs) (hf : f ≤ 1099511627776) (hm : m ≤ 1099511627776) (hl : len ≤ 1048576) :
    Calls Tryz.prog 102 #[.slice a len cap, .int .i64 (f : Int), .int .i64 (m : Int)] w fun e w' => (∃ av cv, e = .returned (.slice av (natL (val xs * f + m)).length cv) ∧ OI w' w.heap.size av cv (natL (val xs * f + m))) ∧ Below w.heap.size w w' := by
  obtain ⟨i0, hi, hz0, hz1, hz2⟩ := info_parts infoInt
  have hp := hR.1
  subst hp
  go_enter Tryz.func102, Tryz.ntmps102
  go_wp2
  go_loopw [7, 8, 14] (fun o c i wr => ∃ (k : Nat) (qs : List Int) (cv : Nat), k ≤ xs.length ∧ c = .int .i64 (cv : Int) ∧ i = .int .i64 k ∧ TsI k xs qs f m cv ∧ cv ≤ 1099511627776 ∧ IGrows wr w.heap.size o qs ∧ Below w.heap.size w wr) (fun _ _ i _ => xs.length - (intOf i).toNat)
  case atStart => exact ⟨0, [], m, by omega, rfl, rfl, TsI.zero _ _ _, hm, IGrows.nil _ _, Below.refl _ _⟩
  case round =>
    obtain ⟨k, qs, c, hk, rfl, rfl, hM, hc, G, hb⟩ := hrel
    have hql := hM.1
    have hsz := hb.size
    by_cases hlt : k < xs.length
    · obtain ⟨ba, oa, x, rfl, -, ex, -, cx⟩ := (hR.old hb).at hlt
      have dx := digs_getD hx k
      rw [ex] at dx
      have m1 := mul_bdN (f := f) dx
      have hst := hd (hM.step _ rfl)
      rw [ex] at hst
      have hcc := c_of x f c dx
      have hsb : c + x.toNat * f ≤ 72057594037927936 := by omega
      generalize c + x.toNat * f = s at *
      have hfe : Hid (s / 65536 ≤ 1099511627776) := by show _ ≤ _; omega
      have hmask := i64_mask ((c : Int) + x * (f : Int))
      have hfd : ((c : Int) + x * (f : Int)).fdiv 65536 = ((c : Int) + x * (f : Int)) / 65536 := Int.fdiv_eq_ediv_of_nonneg _ (by omega)
      rw [← hcc] at hmask hfd
      have e1 : ((s : Int) % 65536) = ((s % 65536 : Nat) : Int) := by omega
      have e2 : ((s : Int) / 65536) = ((s / 65536 : Nat) : Int) := by omega
      rw [e1] at hmask
      rw [e2] at hfd
      have G2 := G.alloc (.cells #[.int .i64 ((s % 65536 : Nat) : Int)] 3)
      have B2 : Below w.heap.size w (wr.alloc (.cells #[.int .i64 ((s % 65536 : Nat) : Int)] 3)) := old_alloc hb _
      have cw := cells_one wr wr.heap.size rfl (.int .i64 ((s % 65536 : Nat) : Int)) 3
      have hb1 : (0 : Int) ≤ (c : Int) + x * (f : Int) := by omega
      have hb2 : (c : Int) + x * (f : Int) ≤ 72057594037927936 := by omega
      have hcc' := hcc.symm
      clear hcc m1
      clear hM e1 e2
      go_wp2_with (at_builtin; refine wpList_append_own _ rfl _ _ 49 rfl w.heap.size 3 i0 _ 1 8 Tryz.underlying49 hi hz0 hz1 hz2 rfl (by decide) _ _ _ rfl G2 ⟨_, 0, none⟩ 1 1 [.int .i64 ((s % 65536 : Nat) : Int)] rfl rfl cw (by simp [Value.oneCell']) (by rw [hql]; unfold maxLen; omega) (by rw [hql]; omega) (by simp; omega) ?_; intro v' w5 hown hgrow _)
      go_roundw
      case rel =>
        refine ⟨k + 1, _, _, by omega, rfl, by go_num, hst.out, hfe.out, ?_, ?_⟩
        · unfold IGrows
          rw [ints_snoc, List.length_append]
          exact hown
        · exact B2.grown hgrow B2.size (fun c e => by have := (World.ownsRow.lt G2 c e).1; omega)
      case measure => simp [intOf]; omega
    · obtain rfl : k = xs.length := by omega
      have hE := hM.fin
      have hkl : ¬ ((xs.length : Int) < (xs.length : Int)) := by omega
      have T1 := hd (fun (o : List Int) (hE : TsE (val xs * f + m) o 0) av cv w' (h : OI w' w.heap.size av cv o) => iTrimO w.heap.size av cv o w' h hE.1)
      have T2 : Hid (∀ o : List Int, TsE (val xs * f + m) o 0 → val o = val xs * f + m) := fun o h => by have := h.2; rw [Nat.mul_zero] at this; omega
      have hE' := hd hE
      clear hM hE
      go_wp2
      go_loopw [7, 8] (fun o c wr => ∃ (qs : List Int) (cv : Nat), c = .int .i64 (cv : Int) ∧ TsE (val xs * f + m) qs cv ∧ ((qs.length = xs.length ∧ cv ≤ 1099511627776) ∨ (qs.length = xs.length + 1 ∧ cv ≤ 16777216) ∨ (qs.length = xs.length + 2 ∧ cv ≤ 256) ∨ (qs.length = xs.length + 3 ∧ cv = 0)) ∧ IGrows wr w.heap.size o qs ∧ Below w.heap.size w wr) (fun _ c _ => (intOf c).toNat)
      case atStart => exact ⟨qs, c, rfl, hE'.out, .inl ⟨hql, hc⟩, G, hb⟩
      case round =>
        clear hE' G hb hc hql
        obtain ⟨qs, c, rfl, hE, hq, G, hb⟩ := hrel
        have hsz := hb.size
        by_cases h0 : c = 0
        · subst h0
          have ev := T2.out qs hE
          obtain ⟨av, cv, rfl, ho⟩ := G.oi (digs_fits hE.1)
          have T3 := hd (T1.out qs hE av cv)
          rw [ev] at T3
          go_wp2_with fail
          refine (T3.out _ ho).mono ?_
          rintro e w3 ⟨⟨av3, cv3, rfl, hO3⟩, hb3⟩
          go_wp2
          go_ret
          exact ⟨⟨_, _, rfl, hO3⟩, old_trans hb hb3⟩
        · have hst := hd hE.step
          have hmask := i64_mask (c : Int)
          have hfd : (c : Int).fdiv 65536 = (c : Int) / 65536 := Int.fdiv_eq_ediv_of_nonneg _ (by omega)
          have e1 : ((c : Int) % 65536) = ((c % 65536 : Nat) : Int) := by omega
          have e2 : ((c : Int) / 65536) = ((c / 65536 : Nat) : Int) := by omega
          rw [e1] at hmask
          rw [e2] at hfd
          have hql : qs.length ≤ 1048579 := by omega
          have hcl : (c : Int) ≤ 1099511627776 := by omega
          have hq2 : Hid (((qs ++ [((c % 65536 : Nat) : Int)]).length = xs.length ∧ c / 65536 ≤ 1099511627776) ∨ ((qs ++ [((c % 65536 : Nat) : Int)]).length = xs.length + 1 ∧ c / 65536 ≤ 16777216) ∨ ((qs ++ [((c % 65536 : Nat) : Int)]).length = xs.length + 2 ∧ c / 65536 ≤ 256) ∨ ((qs ++ [((c % 65536 : Nat) : Int)]).length = xs.length + 3 ∧ c / 65536 = 0)) := by
            show _ ∨ _
            rw [List.length_append, List.length_singleton]
            omega
          have hm9 : Hid (c / 65536 < c) := by show _ < _; omega
          have G2 := G.alloc (.cells #[.int .i64 ((c % 65536 : Nat) : Int)] 3)
          have B2 : Below w.heap.size w (wr.alloc (.cells #[.int .i64 ((c % 65536 : Nat) : Int)] 3)) := old_alloc hb _
          have cw := cells_one wr wr.heap.size rfl (.int .i64 ((c % 65536 : Nat) : Int)) 3
          clear e1 e2 hE hq
          go_wp2_with (at_builtin; refine wpList_append_own _ rfl _ _ 49 rfl w.heap.size 3 i0 _ 1 8 Tryz.underlying49 hi hz0 hz1 hz2 rfl (by decide) _ _ _ rfl G2 ⟨_, 0, none⟩ 1 1 [.int .i64 ((c % 65536 : Nat) : Int)] rfl rfl cw (by simp [Value.oneCell']) (by unfold maxLen; omega) (by omega) (by simp; omega) ?_; intro v' w5 hown hgrow _)
          go_roundw
          case rel =>
            refine ⟨_, _, rfl, hst.out, hq2.out, ?_, ?_⟩
            · unfold IGrows
              rw [ints_snoc, List.length_append]
              exact hown
            · exact B2.grown hgrow B2.size (fun c e => by have := (World.ownsRow.lt G2 c e).1; omega)
          case measure =>
            have := hm9.out
            show ((((c / 65536 : Nat) : Int)).toNat) < _
            simp [intOf]
            omega
end Go.Proofs.YtbcdeddbkckaeaaGreatDoor

/- Square roots of numbers, down: the program's steps from above, the specification's bits. No condition. -/
namespace Go.Proofs.YtbcdeddbkckaeaaGreatDoor
open Go.RowKit
set_option linter.unusedVariables false
set_option maxRecDepth 100000

theorem root_len {r A n : Nat} (h : r ≤ A) (hA : A < 65536 ^ n) : (natL r).length ≤ n := natL_len.2 (Nat.lt_of_le_of_lt h hA)
theorem sum_len {a b n m : Nat} (ha : a < 65536 ^ n) (hb : b < 65536 ^ m) : (natL (a + b)).length ≤ n + m + 1 := by
  refine natL_len.2 ?_
  have e3 : 65536 ^ n ≤ 65536 ^ (n + m) := Nat.pow_le_pow_right (by omega) (by omega)
  have e4 : 65536 ^ m ≤ 65536 ^ (n + m) := Nat.pow_le_pow_right (by omega) (by omega)
  rw [Nat.pow_succ]
  have h1 := Nat.lt_of_lt_of_le ha e3
  have h2 := Nat.lt_of_lt_of_le hb e4
  clear ha hb e3 e4
  generalize 65536 ^ (n + m) = z at *
  omega
theorem sq_ge {r : Nat} : r ≤ r * r := by
  rcases Nat.eq_zero_or_pos r with h | h
  · subst h; simp
  · exact Nat.le_mul_of_pos_left r h
theorem down_n (a : Option Addr) (len cap : Nat) (xs : List Int) (k : Nat) (w : World) (hR : InI w a len cap xs) (hx : digs xs) (hk : k ≤ 16000) (hl : len ≤ 1048576) :
    Calls Tryz.prog 90 #[.slice a len cap, .int .i64 (k : Int)] w fun e w' => (∃ av cv, e = .returned (.slice av (natL (val xs / 2 ^ k)).length cv) ∧ OI w' w.heap.size av cv (natL (val xs / 2 ^ k))) ∧ Below w.heap.size w w' := by
  obtain ⟨P, p, rfl, hp⟩ := split16q k
  have h := iDown a len cap xs P p w hR hx hp (by omega) hl
  rw [show (16 * (P : Int) + (p : Int)) = ((16 * P + p : Nat) : Int) by omega] at h
  rw [pow2_split]
  exact h
theorem sq_ltR {x P v : Nat} (h : x * x ≤ v) (hv : v < P * P) : x < P := by
  rcases Nat.lt_or_ge x P with g | g
  · exact g
  · have := Nat.mul_le_mul g g; omega
/-- what stands above the root, by the highest bits -/
theorem above_sq {A r h : Nat} (hr : isRoot (A / 2 ^ (2 * h)) r) : A < (2 ^ h * (r + 1)) * (2 ^ h * (r + 1)) := by
  have h1 := hr.2
  have e : (2 : Nat) ^ (2 * h) = 2 ^ h * 2 ^ h := by rw [← Nat.pow_add]; congr 1; omega
  rw [e] at h1
  have h0 : 0 < 2 ^ h * 2 ^ h := Nat.mul_pos (Nat.pow_pos (by omega)) (Nat.pow_pos (by omega))
  have h2 := (Nat.div_lt_iff_lt_mul h0).1 h1
  calc A < (r + 1) * (r + 1) * (2 ^ h * 2 ^ h) := h2
    _ = (2 ^ h * (r + 1)) * (2 ^ h * (r + 1)) := by grind
theorem root_mul {A r h : Nat} (hr : isRoot (A / 2 ^ (2 * h)) r) : (2 ^ h * r) * (2 ^ h * r) ≤ A := by
  have h1 := hr.1
  have e : (2 : Nat) ^ (2 * h) = 2 ^ h * 2 ^ h := by rw [← Nat.pow_add]; congr 1; omega
  rw [e] at h1
  have h0 : 0 < 2 ^ h * 2 ^ h := Nat.mul_pos (Nat.pow_pos (by omega)) (Nat.pow_pos (by omega))
  have h2 := (Nat.le_div_iff_mul_le h0).1 h1
  have e2 : (2 ^ h * r) * (2 ^ h * r) = r * r * (2 ^ h * 2 ^ h) := by grind
  omega
theorem two_le {n h : Nat} (hh : h ≤ 16 * n) : 2 ^ h ≤ 65536 ^ n := by
  rw [show (65536 : Nat) = 2 ^ 16 by decide, ← Nat.pow_mul]
  exact Nat.pow_le_pow_right (by omega) hh
theorem two_lt {n h : Nat} (hh : h < 16 * n) : 2 ^ h < 65536 ^ n := by
  rw [show (65536 : Nat) = 2 ^ 16 by decide, ← Nat.pow_mul]
  exact Nat.pow_lt_pow_right (by omega) hh
theorem above_small {A r h : Nat} (hr : isRoot (A / 2 ^ (2 * h)) r) (hA : A < 65536 ^ 256) (hh : h ≤ 1024) : 2 ^ h * (r + 1) < 65536 ^ 129 := by
  have h1 := sq_ltR (root_mul hr) (P := 65536 ^ 128) (by rw [← Nat.pow_add]; exact hA)
  have h2 : 2 ^ h ≤ 65536 ^ 64 := two_le (by omega)
  have h3 : (65536 : Nat) ^ 64 ≤ 65536 ^ 128 := Nat.pow_le_pow_right (by omega) (by omega)
  have h4 : (65536 : Nat) ^ 129 = 65536 ^ 128 * 65536 := Nat.pow_succ ..
  rw [Nat.mul_add, Nat.mul_one, h4]
  clear h4
  generalize (65536 : Nat) ^ 128 = z at *
  generalize (65536 : Nat) ^ 64 = y at *
  omega
theorem two_small {K : Nat} (h : K ≤ 2049) : 2 ^ K < 65536 ^ 129 := two_lt (by omega)
theorem lt_256 {x : Nat} (h : x < 65536 ^ 129) : x < 65536 ^ 256 := Nat.lt_of_lt_of_le h (Nat.pow_le_pow_right (by omega) (by omega))
def RootAt (P : Program) (f : Nat) (xs : List Int) : Prop := ∀ (a : Option Addr) (len cap : Nat) (r : Nat) (w : World), InI w a len cap xs → natOk xs = true → isRoot (val xs) r →
    Calls P f #[.slice a len cap, .int .i64 2] w fun e w' => (∃ av cv, e = .returned (.slice av (natL r).length cv) ∧ OI w' w.heap.size av cv (natL r)) ∧ Below w.heap.size w w'
theorem iOneR (w : World) : Calls Tryz.prog 48 #[] w fun e w' => (∃ av cv, e = .returned (.slice av (natL 1).length cv) ∧ OI w' w.heap.size av cv (natL 1)) ∧ Below w.heap.size w w' := by
  have h := one_oi w 3
  have hB : Below w.heap.size w (w.alloc (.cells #[.int .i64 1] 3)) := (Below.refl _ w).alloc (Nat.le_refl _) _
  rw [one_len]
  go_enter Tryz.func48, Tryz.ntmps48
  go_wp2
  go_ret
  exact ⟨⟨_, _, rfl, h⟩, hB⟩
set_option maxRecDepth 100000 in
set_option maxHeartbeats 4000000 in
theorem iAbove (a : Option Addr) (len cap : Nat) (xs : List Int) (w : World) (hR : InI w a len cap xs) (hok : natOk xs = true) (h0 : len ≠ 0)
    (IH : ∀ ys, val ys < val xs → RootAt Tryz.prog 74 ys) :
    Calls Tryz.prog 100 #[.slice a len cap, .int .i64 2] w fun e w' => (∃ R0 av cv, e = .returned (.slice av (natL R0).length cv) ∧ OI w' w.heap.size av cv (natL R0) ∧ 0 < R0 ∧ val xs < (R0 + 1) * (R0 + 1) ∧ R0 < 65536 ^ 129) ∧ Below w.heap.size w w' := by
  have q := natOk_in hok
  have hp := hR.1
  have hApos : 0 < val xs := Nat.lt_of_lt_of_le (Nat.pow_pos (by omega)) (val_ge q.2.1 q.2.2 (by omega))
  have L := hd (fun w' (h : Below w.heap.size w w') => iLength a len cap xs w' (hR.old h) q.2.1 (by omega))
  have bb := bitsN_bd hok
  have hlt := hd (natOk_lt hok)
  have hxd := q.2.1
  have hl := q.1
  have bu := bits_up q.2.1 (by omega)
  obtain ⟨b, hb⟩ := Int.eq_ofNat_of_zero_le bb.1
  rw [hb] at L bb bu
  have hb4 : b ≤ 4096 := by omega
  by_cases hs : b / 4 ≤ 16
  · obtain ⟨K, hK, hK2⟩ := half_up (by omega) bu
    have hKb : K ≤ 2049 := by omega
    have U := hd (fun av cv base w' (h : OI w' base av cv (natL 1)) => up_n av (natL 1).length cv (natL 1) K w' h.inI (digs_natL _) (by omega) (by rw [one_len]; omega))
    rw [val_natL, Nat.mul_one] at U
    have hKq : ((b : Int) + 2 - 1).tdiv 2 = (K : Int) := by rw [Int.tdiv_eq_ediv_of_nonneg (by omega)]; omega
    have hr0 : 0 < 2 ^ K := Nat.pow_pos (by omega)
    have hr1 := hd (Nat.lt_of_lt_of_le hK2 (Nat.mul_le_mul (show 2 ^ K ≤ 2 ^ K + 1 by omega) (show 2 ^ K ≤ 2 ^ K + 1 by omega)))
    have hr2 := hd (two_small hKb)
    have hq4 : ((b : Int).tdiv 4) = ((b / 4 : Nat) : Int) := by rw [Int.tdiv_eq_ediv_of_nonneg (by omega)]; omega
    have hs' : ((b / 4 : Nat) : Int) ≤ 16 := by omega
    have hs2 : 0 ≤ ((b / 4 : Nat) : Int) := by omega
    have hKi : (K : Int) ≤ 2049 := by omega
    have hKi0 : 0 ≤ (K : Int) := by omega
    clear q hK2 bu hApos IH hK hKb
    generalize ((b / 4 : Nat) : Int) = hf at *
    generalize 2 ^ K = R0 at *
    have hr0' := hd hr0
    clear hr0
    go_enter Tryz.func100, Tryz.ntmps100
    go_wp2_with fail
    refine (L.out _ (Below.refl _ _)).mono ?_
    rintro e w1 ⟨rfl, rfl⟩
    go_wp2_with fail
    refine (iOneR _).mono ?_
    rintro e w2 ⟨⟨av2, cv2, rfl, hO2⟩, hb2⟩
    go_wp2_with fail
    refine (L.out _ hb2).mono ?_
    rintro e w3 ⟨rfl, rfl⟩
    go_wp2_with fail
    refine (U.out _ _ _ _ hO2).mono ?_
    rintro e w4 ⟨⟨av4, cv4, rfl, hO4⟩, hb4⟩
    go_wp2
    go_ret
    exact ⟨⟨_, _, _, rfl, hO4.mono hb2.size, hr0'.out, hr1.out, hr2.out⟩, old_trans hb2 hb4⟩
  · obtain ⟨h, hh⟩ : ∃ h, h = b / 4 := ⟨_, rfl⟩
    have hh1 : 16 < h := by omega
    have hh2 : h ≤ 1024 := by omega
    obtain ⟨r, hr⟩ := root_is (val xs / 2 ^ (2 * h))
    have D := hd (fun w' (hb : Below w.heap.size w w') => down_n a len cap xs (2 * h) w' (hR.old hb) hxd (by omega) (by omega))
    have hdl : val xs / 2 ^ (2 * h) < val xs := Nat.div_lt_self hApos (Nat.one_lt_pow (by omega) (by omega))
    have hok2 : natOk (natL (val xs / 2 ^ (2 * h))) = true := natOk_natL (Nat.lt_trans hdl hlt.out)
    have Rt := hd (fun av cv base w' (h' : OI w' base av cv (natL (val xs / 2 ^ (2 * h)))) => IH (natL (val xs / 2 ^ (2 * h))) (by rw [val_natL]; exact hdl) av _ cv r w' h'.inI hok2 (by rw [val_natL]; exact hr))
    have ab := hd (above_sq hr)
    have sm := hd (above_small hr hlt.out hh2)
    have hrl : (natL r).length ≤ 256 := root_len (Nat.le_trans sq_ge hr.1) (Nat.lt_trans hdl hlt.out)
    have hrl2 : (natL (r + 1)).length ≤ 400 := by
      have := sum_len (natL_lt_pow r) (natL_lt_pow 1)
      have e1 := one_len
      omega
    have P := hd (fun av av2 cv cv2 b1 b2 w' (h1 : OI w' b1 av cv (natL r)) (h2 : OI w' b2 av2 cv2 (natL 1)) => iPlus av av2 _ _ cv cv2 _ _ w' h1.inI h2.inI (digs_natL _) (digs_natL _) (by omega) (by rw [one_len]; omega))
    rw [val_natL, val_natL] at P
    have U := hd (fun av cv b1 w' (h1 : OI w' b1 av cv (natL (r + 1))) => up_n av _ cv (natL (r + 1)) h w' h1.inI (digs_natL _) (by omega) (by omega))
    rw [val_natL] at U
    have hpos : Hid (0 < 2 ^ h * (r + 1)) := Nat.mul_pos (Nat.pow_pos (by omega)) (by omega)
    have hup : Hid (val xs < (2 ^ h * (r + 1) + 1) * (2 ^ h * (r + 1) + 1)) := Nat.lt_of_lt_of_le ab.out (Nat.mul_le_mul (by omega) (by omega))
    have hq4 : ((b : Int).tdiv 4) = (h : Int) := by rw [Int.tdiv_eq_ediv_of_nonneg (by omega)]; omega
    have hq5 : (2 * (h : Int)) = ((2 * h : Nat) : Int) := by omega
    have hh3 : ¬ (h : Int) ≤ 16 := by omega
    have hh4 : (h : Int) ≤ 1024 := by omega
    rw [← hq5] at D
    clear hq5
    clear q bu hApos IH ab hr hdl hok2 hrl hrl2 hh hh1 hh2 hs
    generalize 2 ^ h * (r + 1) = R0 at *
    generalize natL (val xs / 2 ^ (2 * h)) = dl at *
    generalize natL (r + 1) = rl at *
    generalize (h : Int) = hI at *
    go_enter Tryz.func100, Tryz.ntmps100
    go_wp2_with fail
    refine (L.out _ (Below.refl _ _)).mono ?_
    rintro e w1 ⟨rfl, rfl⟩
    go_wp2_with fail
    refine (D.out _ (Below.refl _ _)).mono ?_
    rintro e w2 ⟨⟨av2, cv2, rfl, hO2⟩, hb2⟩
    go_wp2_with fail
    refine (Rt.out _ _ _ _ hO2).mono ?_
    rintro e w3 ⟨⟨av3, cv3, rfl, hO3⟩, hb3⟩
    go_wp2_with fail
    refine (iOneR _).mono ?_
    rintro e w4 ⟨⟨av4, cv4, rfl, hO4⟩, hb4⟩
    go_wp2_with fail
    refine (P.out _ _ _ _ _ _ _ (hO3.later hb4) hO4).mono ?_
    rintro e w5 ⟨⟨av5, cv5, rfl, hO5⟩, hb5⟩
    go_wp2_with fail
    refine (U.out _ _ _ _ hO5).mono ?_
    rintro e w6 ⟨⟨av6, cv6, rfl, hO6⟩, hb6⟩
    have hB := old_trans (old_trans (old_trans hb2 hb3) hb4) hb5
    go_wp2
    go_ret
    exact ⟨⟨_, _, _, rfl, hO6.mono hB.size, hpos.out, hup.out, sm.out⟩, old_trans hB hb6⟩
set_option maxRecDepth 100000 in
set_option maxHeartbeats 4000000 in
theorem iRootStep (a : Option Addr) (len cap : Nat) (xs : List Int) (r : Nat) (w : World) (hR : InI w a len cap xs) (hok : natOk xs = true) (hr : isRoot (val xs) r)
    (IH : ∀ ys, val ys < val xs → RootAt Tryz.prog 74 ys) :
    Calls Tryz.prog 74 #[.slice a len cap, .int .i64 2] w fun e w' => (∃ av cv, e = .returned (.slice av (natL r).length cv) ∧ OI w' w.heap.size av cv (natL r)) ∧ Below w.heap.size w w' := by
  have q := natOk_in hok
  have hp := hR.1
  by_cases h0 : len = 0
  · subst h0
    have : xs = [] := List.length_eq_zero_iff.1 hp
    subst this
    have e : r = 0 := isRoot_one hr (by simp [isRoot, val])
    rw [e, natL_zero]
    go_enter Tryz.func74, Tryz.ntmps74
    go_wp2
    go_ret
    exact ⟨⟨_, _, rfl, OI.none _ _⟩, Below.refl _ _⟩
  have hApos : 0 < val xs := Nat.lt_of_lt_of_le (Nat.pow_pos (by omega)) (val_ge q.2.1 q.2.2 (by omega))
  have AB := hd (iAbove a len cap xs w hR hok h0 IH)
  have hu := hd (fun s (h : isRoot (val xs) s) => isRoot_one h hr)
  have hlt := hd (natOk_lt hok)
  have hxd := q.2.1
  have hxt := q.2.2
  have hl := q.1
  clear q hok hr IH
  have h0' : ((len : Int) == 0) = false := by simp; omega
  have hA9 := hd hApos
  clear hApos
  go_enter Tryz.func74, Tryz.ntmps74
  go_wp2_with fail
  refine AB.out.mono ?_
  rintro e w2 ⟨⟨R0, av, cv, rfl, hO2, hr0, hr1, hr2⟩, hB2⟩
  replace hr1 := hd hr1
  replace hr2 := hd hr2
  clear AB
  go_wp2_with fail
  go_loopg [5] R0 (fun k s wr => ∃ (av : Option Addr) (cv : Nat), 0 < k ∧ k ≤ R0 ∧ s = .slice av (natL k).length cv ∧ OI wr w.heap.size av cv (natL k) ∧ val xs < (k + 1) * (k + 1) ∧ Below w.heap.size w wr)
  case atStart => exact ⟨av, cv, hr0, Nat.le_refl _, rfl, hO2, hr1.out, hB2⟩
  case round =>
    clear hO2 hB2
    obtain ⟨av9, cv9, g1, g2, rfl, hO, g3, hB⟩ := hrel
    have hks := Nat.lt_of_le_of_lt g2 hr2.out
    have hlk : (natL gk).length ≤ 129 := natL_len.2 hks
    have hlk0 : 0 < (natL gk).length := natL_length_pos g1
    have PW := hd (fun w' (h : OI w' w.heap.size av9 cv9 (natL gk)) => iPower av9 _ cv9 (natL gk) 1 w' h.inI (natOk_natL (lt_256 hks)) (by omega))
    rw [val_natL, Nat.pow_one, show ((1 : Nat) : Int) = 1 from rfl] at PW
    have C := hd (fun av' cv' b' w' (hb : Below w.heap.size w w') (h : OI w' b' av' cv' (natL gk)) => iCut a av' len _ cap cv' xs (natL gk) w' (hR.old hb) h.inI hxd (digs_natL _) (topped_natL _) (by omega) (by omega) hlk0)
    rw [val_natL] at C
    have TS := hd (fun w' (h : OI w' w.heap.size av9 cv9 (natL gk)) => iTimesSmall av9 _ cv9 (natL gk) 1 0 w' h.inI (digs_natL _) (by omega) (by omega) (by omega))
    rw [val_natL, Nat.mul_one, Nat.add_zero, show ((1 : Nat) : Int) = 1 from rfl, show ((0 : Nat) : Int) = 0 from rfl] at TS
    have hql := root_len (Nat.div_le_self (val xs) gk) hlt.out
    have P := hd (fun av1 cv1 b1 av2 cv2 b2 w' (h : OI w' b1 av1 cv1 (natL gk)) (h' : OI w' b2 av2 cv2 (natL (val xs / gk))) => iPlus av1 av2 _ _ cv1 cv2 _ _ w' h.inI h'.inI (digs_natL _) (digs_natL _) (by omega) (by omega))
    rw [val_natL, val_natL] at P
    have hsl := sum_len hks (Nat.lt_of_le_of_lt (Nat.div_le_self (val xs) gk) hlt.out)
    have DN := hd (fun av3 cv3 base w' (h : OI w' base av3 cv3 (natL (gk + val xs / gk))) => iCutSmall av3 _ cv3 _ 2 w' h.inI (digs_natL _) (by omega) (by omega) (by omega))
    rw [val_natL, show ((2 : Nat) : Int) = 2 from rfl] at DN
    have AG := hd (fun av4 cv4 base w' (h : OI w' w.heap.size av9 cv9 (natL gk)) (h' : OI w' base av4 cv4 (natL ((gk + val xs / gk) / 2))) => iAgainst av4 av9 _ _ cv4 cv9 _ _ w' h'.inI h.inI (digs_natL _) (digs_natL _) (topped_natL _) (topped_natL _))
    rw [val_natL, val_natL] at AG
    have na := hd (newton_above (a := val xs) g1)
    have np := hd (newton_pos hA9.out g1)
    have ns := hd (newton_stop (a := val xs) g1)
    have g1' := hd g1
    have g2' := hd g2
    have g3' := hd g3
    clear hsl hql hlk hlk0 g1 g2 g3 hks
    generalize hnx : (gk + val xs / gk) / 2 = nx at *
    generalize natL (gk + val xs / gk) = sl at *
    generalize natL (val xs / gk) = ql at *
    generalize ((gk + val xs / gk) % 2 : Nat) = rem at *
    by_cases hge : gk ≤ nx
    · have hrr := hd (hu.out gk ⟨ns.out hge, g3'.out⟩)
      have hc : 0 ≤ cmpI nx gk := by unfold cmpI; rw [if_neg (by omega)]; split <;> omega
      clear hnx
      generalize cmpI nx gk = cz at *
      generalize natL nx = nl at *
      go_wp2_with fail
      refine (PW.out _ hO).mono ?_
      rintro e w1 ⟨⟨avp, cvp, rfl, hOp⟩, hb1⟩
      go_wp2_with fail
      refine (C.out _ _ _ _ (old_trans hB hb1) hOp).mono ?_
      rintro e w3 ⟨⟨avq, cvq, avr, cvr, rfl, hOq, hOr, -⟩, hb3⟩
      have hO3 := (hO.later hb1).later hb3
      go_wp2_with fail
      refine (TS.out _ hO3).mono ?_
      rintro e w2 ⟨⟨avt, cvt, rfl, hOt⟩, hb2⟩
      go_wp2_with fail
      refine (P.out _ _ _ _ _ _ _ hOt (hOq.later hb2)).mono ?_
      rintro e w4 ⟨⟨avs, cvs, rfl, hOs⟩, hb4⟩
      go_wp2_with fail
      refine (DN.out _ _ _ _ hOs).mono ?_
      rintro e w5 ⟨⟨avn, cvn, rfl, hOn⟩, hb5⟩
      have hO6 := ((hO3.later hb2).later hb4).later hb5
      go_wp2_with fail
      refine (AG.out _ _ _ _ hO6 hOn).mono ?_
      rintro e w6 ⟨rfl, hb6⟩
      go_wp2
      go_ret
      have h9 : gk = r := hrr.out
      subst h9
      exact ⟨⟨_, _, rfl, hO6.later hb6⟩, old_trans (old_trans (old_trans (old_trans (old_trans (old_trans hB hb1) hb3) hb2) hb4) hb5) hb6⟩
    · have hc : cmpI nx gk = -1 := cmpI_lt (by omega)
      rw [hc] at AG
      have hlt9 : Hid (nx < gk ∧ nx ≤ R0) := ⟨by omega, by have := g2'.out; omega⟩
      clear hnx hge hc
      go_wp2_with fail
      refine (PW.out _ hO).mono ?_
      rintro e w1 ⟨⟨avp, cvp, rfl, hOp⟩, hb1⟩
      go_wp2_with fail
      refine (C.out _ _ _ _ (old_trans hB hb1) hOp).mono ?_
      rintro e w3 ⟨⟨avq, cvq, avr, cvr, rfl, hOq, hOr, -⟩, hb3⟩
      have hO3 := (hO.later hb1).later hb3
      go_wp2_with fail
      refine (TS.out _ hO3).mono ?_
      rintro e w2 ⟨⟨avt, cvt, rfl, hOt⟩, hb2⟩
      go_wp2_with fail
      refine (P.out _ _ _ _ _ _ _ hOt (hOq.later hb2)).mono ?_
      rintro e w4 ⟨⟨avs, cvs, rfl, hOs⟩, hb4⟩
      go_wp2_with fail
      refine (DN.out _ _ _ _ hOs).mono ?_
      rintro e w5 ⟨⟨avn, cvn, rfl, hOn⟩, hb5⟩
      have hO6 := ((hO3.later hb2).later hb4).later hb5
      go_wp2_with fail
      refine (AG.out _ _ _ _ hO6 hOn).mono ?_
      rintro e w6 ⟨rfl, hb6⟩
      have s3 := (old_trans (old_trans (old_trans (old_trans hB hb1) hb3) hb2) hb4).size
      go_wp2_with fail
      go_roundg nx
      case measure => exact hlt9.out.1
      case rel => exact ⟨avn, cvn, np.out, hlt9.out.2, rfl, (hOn.later hb6).mono s3, na.out, old_trans (old_trans (old_trans (old_trans (old_trans (old_trans hB hb1) hb3) hb2) hb4) hb5) hb6⟩
theorem iRootAll (n : Nat) : ∀ xs, val xs < n → RootAt Tryz.prog 74 xs := by
  induction n with
  | zero => intro xs h; omega
  | succ n ih => intro xs h a len cap r w hR hok hr; exact iRootStep a len cap xs r w hR hok hr (fun ys hy => ih ys (by omega))
theorem iRoot (a : Option Addr) (len cap : Nat) (xs : List Int) (r : Nat) (w : World) (hR : InI w a len cap xs) (hok : natOk xs = true) (hr : isRoot (val xs) r) :
    Calls Tryz.prog 74 #[.slice a len cap, .int .i64 2] w fun e w' => (∃ av cv, e = .returned (.slice av (natL r).length cv) ∧ OI w' w.heap.size av cv (natL r)) ∧ Below w.heap.size w w' :=
  iRootAll (val xs + 1) xs (by omega) a len cap r w hR hok hr
end Go.Proofs.YtbcdeddbkckaeaaGreatDoor

/- Square roots of numbers, down: the specification's bits; both, if they are numbers. No condition. -/
namespace Go.Proofs.YtbcdeddbkckaeaaGreatDoor
open Go.RowKit
set_option linter.unusedVariables false
set_option maxRecDepth 100000

set_option maxRecDepth 100000 in
set_option maxHeartbeats 4000000 in
theorem sRoot (a : Option Addr) (len cap : Nat) (xs : List Int) (r : Nat) (w : World) (hR : InI w a len cap xs) (hok : natOk xs = true) (hr : isRoot (val xs) r) :
    Calls Tryz.prog 50 #[.slice a len cap] w fun e w' => (∃ av cv, e = .returned (.slice av (natL r).length cv) ∧ OI w' w.heap.size av cv (natL r)) ∧ Below w.heap.size w w' := by
  have q := natOk_in hok
  have hp := hR.1
  have L := hd (sBits a len cap xs w hR q.2.1 (by omega))
  have bb := bitsN_bd hok
  have hup : val xs < 2 ^ (bitsN xs).toNat := by
    by_cases h0 : xs.length = 0
    · have : xs = [] := List.length_eq_zero_iff.1 h0
      subst this
      simp [val, bitsN]
    · exact bits_up q.2.1 h0
  obtain ⟨K, hK, hK2⟩ := half_up bb.1 hup
  have hKq : (bitsN xs + 1).tdiv 2 = (K : Int) := by rw [Int.tdiv_eq_ediv_of_nonneg (by omega)]; exact hK
  have hK3 : K ≤ 2049 := by omega
  have hs0 : Hid (val xs < (0 + 2 ^ (K + 1)) * (0 + 2 ^ (K + 1))) := by
    show _ < _
    rw [Nat.zero_add]
    exact Nat.lt_of_lt_of_le hK2 (Nat.mul_le_mul (Nat.pow_le_pow_right (by omega) (by omega)) (Nat.pow_le_pow_right (by omega) (by omega)))
  have hu := hd (fun s (h : isRoot (val xs) s) => isRoot_one h hr)
  have hlt := hd (natOk_lt hok)
  have hxd := q.2.1
  have hxt := q.2.2
  have hl := q.1
  clear q hK2 hok hr hup
  generalize bitsN xs = bt at *
  have hbt : bt + 1 ≤ 4097 := by omega
  have hbt0 : 0 ≤ bt + 1 := by omega
  go_enter Tryz.func50, Tryz.ntmps50
  go_wp2_with fail
  refine L.out.mono ?_
  rintro e w1 ⟨rfl, hw1⟩
  obtain rfl : w = w1 := hw1.symm
  clear hw1
  go_wp2_with fail
  go_loopw [3, 4] (fun s i wr => ∃ (j : Nat) (v : Nat) (av : Option Addr) (cv : Nat), j ≤ K + 1 ∧ i = .int .i64 ((j : Int) - 1) ∧ s = .slice av (natL v).length cv ∧ OI wr w.heap.size av cv (natL v) ∧ v * v ≤ val xs ∧ val xs < (v + 2 ^ j) * (v + 2 ^ j) ∧ Below w.heap.size w wr) (fun _ i _ => (intOf i + 1).toNat)
  case atStart => exact ⟨K + 1, 0, none, 0, Nat.le_refl _, by congr 1; omega, by rw [natL_zero]; rfl, by rw [natL_zero]; exact OI.none _ _, by simp, hs0.out, Below.refl _ _⟩
  case round =>
    clear L hs0
    obtain ⟨j, v, av, cv, hj, rfl, rfl, hO, hv1, hv2, hB⟩ := hrel
    by_cases h0 : j = 0
    · subst h0
      have hrr := hd (hu.out v ⟨hv1, by simpa using hv2⟩)
      clear hv1 hv2
      go_wp2
      go_ret
      have h9 : v = r := hrr.out
      subst h9
      exact ⟨⟨_, _, rfl, hO⟩, hB⟩
    · obtain ⟨k, rfl⟩ : ∃ k, j = k + 1 := ⟨j - 1, by omega⟩
      have hk : k ≤ 2049 := by omega
      have ekI : ((k + 1 : Nat) : Int) - 1 = (k : Int) := by omega
      rw [ekI]
      have P := hd (fun w' => sPow2n k w' (by omega))
      have hvl := root_len (Nat.le_trans sq_ge hv1) hlt.out
      have hpl : (natL (2 ^ k)).length ≤ k + 1 := natL_len.2 (Nat.lt_of_le_of_lt (Nat.pow_le_pow_left (show 2 ≤ 65536 by omega) k) (Nat.pow_lt_pow_right (show 1 < 65536 by omega) (by omega)))
      have AD := hd (fun av2 cv2 base w' (h : OI w' w.heap.size av cv (natL v)) (h' : OI w' base av2 cv2 (natL (2 ^ k))) => sAdd av av2 _ _ cv cv2 _ _ w' h.inI h'.inI (digs_natL _) (digs_natL _) (topped_natL _) (topped_natL _) (by omega) (by omega))
      rw [val_natL, val_natL] at AD
      have hml := sum_len (natL_lt_pow v) (natL_lt_pow (2 ^ k))
      have ML := hd (fun av3 cv3 base w' (h : OI w' base av3 cv3 (natL (v + 2 ^ k))) => sMul av3 av3 _ _ cv3 cv3 _ _ w' h.inI h.inI (digs_natL _) (digs_natL _) (by omega) (by omega))
      rw [val_natL] at ML
      have CP := hd (fun av4 cv4 base w' (hb : Below w.heap.size w w') (h : OI w' base av4 cv4 (natL ((v + 2 ^ k) * (v + 2 ^ k)))) => sCmp av4 a _ len cv4 cap _ xs w' h.inI (hR.old hb) (digs_natL _) hxd (topped_natL _) hxt)
      rw [val_natL] at CP
      have hs1 : Hid ((v + 2 ^ k) * (v + 2 ^ k) ≤ val xs → val xs < (v + 2 ^ k + 2 ^ k) * (v + 2 ^ k + 2 ^ k)) := fun _ => by
        rw [show v + 2 ^ k + 2 ^ k = v + 2 ^ (k + 1) by rw [Nat.pow_succ]; omega]
        exact hv2
      have hv1' := hd hv1
      have hki : (k : Int) ≤ 2049 := by omega
      have hki0 : (0 : Int) ≤ (k : Int) := by omega
      have hjK : Hid (k ≤ K + 1) := by show _ ≤ _; omega
      clear hvl hpl hml hv1 hv2 hj h0
      by_cases hle : (v + 2 ^ k) * (v + 2 ^ k) ≤ val xs
      · have hc : cmpI ((v + 2 ^ k) * (v + 2 ^ k)) (val xs) ≤ 0 := by unfold cmpI; split <;> (try split) <;> omega
        have hle' := hd hle
        clear hle ekI hk
        generalize cmpI ((v + 2 ^ k) * (v + 2 ^ k)) (val xs) = cz at *
        generalize natL (2 ^ k) = pl at *
        generalize natL ((v + 2 ^ k) * (v + 2 ^ k)) = ml at *
        generalize hkI : (k : Int) = kI at *
        go_wp2_with fail
        refine (P.out _).mono ?_
        rintro e w2 ⟨⟨av2, cv2, rfl, hO2⟩, hb2⟩
        go_wp2_with fail
        refine (AD.out _ _ _ _ (hO.later hb2) hO2).mono ?_
        rintro e w3 ⟨⟨av3, cv3, rfl, hO3⟩, hb3⟩
        go_wp2_with fail
        refine (ML.out _ _ _ _ hO3).mono ?_
        rintro e w4 ⟨⟨av4, cv4, rfl, hO4⟩, hb4⟩
        have hB4 := old_trans (old_trans (old_trans hB hb2) hb3) hb4
        go_wp2_with fail
        refine (CP.out _ _ _ _ hB4 hO4).mono ?_
        rintro e w5 ⟨rfl, hb5⟩
        have t1 := hB.size
        have t2 := hb2.size
        go_wp2_with fail
        go_roundw
        case rel => exact ⟨k, v + 2 ^ k, av3, cv3, hjK.out, by rw [hkI], rfl, ((hO3.later hb4).later hb5).mono (by omega), hle'.out, hs1.out hle'.out, old_trans hB4 hb5⟩
        case measure => (subst hkI; simp [intOf] <;> omega)
      · have hc : cmpI ((v + 2 ^ k) * (v + 2 ^ k)) (val xs) = 1 := cmpI_gt (by omega)
        rw [hc] at CP
        have hle' : Hid (val xs < (v + 2 ^ k) * (v + 2 ^ k)) := by show _ < _; omega
        clear hle ekI hk hc
        generalize natL (2 ^ k) = pl at *
        generalize natL ((v + 2 ^ k) * (v + 2 ^ k)) = ml at *
        generalize hkI : (k : Int) = kI at *
        go_wp2_with fail
        refine (P.out _).mono ?_
        rintro e w2 ⟨⟨av2, cv2, rfl, hO2⟩, hb2⟩
        go_wp2_with fail
        refine (AD.out _ _ _ _ (hO.later hb2) hO2).mono ?_
        rintro e w3 ⟨⟨av3, cv3, rfl, hO3⟩, hb3⟩
        go_wp2_with fail
        refine (ML.out _ _ _ _ hO3).mono ?_
        rintro e w4 ⟨⟨av4, cv4, rfl, hO4⟩, hb4⟩
        have hB4 := old_trans (old_trans (old_trans hB hb2) hb3) hb4
        go_wp2_with fail
        refine (CP.out _ _ _ _ hB4 hO4).mono ?_
        rintro e w5 ⟨rfl, hb5⟩
        go_wp2_with fail
        go_roundw
        case rel => exact ⟨k, v, av, cv, hjK.out, by rw [hkI], rfl, (((hO.later hb2).later hb3).later hb4).later hb5, hv1'.out, hle'.out, old_trans hB4 hb5⟩
        case measure => (subst hkI; simp [intOf] <;> omega)
end Go.Proofs.YtbcdeddbkckaeaaGreatDoor

/- Square roots of numbers, if they are numbers: by the program and by the specification. No condition. -/
namespace Go.Proofs.YtbcdeddbkckaeaaGreatDoor
open Go.RowKit
set_option linter.unusedVariables false
set_option maxRecDepth 100000

def rootX (xs : List Int) (r : Nat) : Bool := natOk xs && decide (r * r = val xs)
theorem rootN_len {xs : List Int} {r : Nat} (hr : isRoot (val xs) r) : (resN (natOk xs) r).length ≤ 1048576 := by
  cases h : natOk xs
  · show ([] : List Int).length ≤ 1048576
    simp
  · show (natL r).length ≤ 1048576
    have := root_len (Nat.le_trans sq_ge hr.1) (natOk_lt h)
    omega
set_option maxHeartbeats 2000000 in
theorem iNatRoot (a : Option Addr) (len cap : Nat) (xs : List Int) (r : Nat) (hr : isRoot (val xs) r) (w : World) (hR : InI w a len cap xs) :
    Calls Tryz.prog 55 #[.slice a len cap] w fun e w' => (∃ av cv, e = .returned (.tuple #[.slice av (resN (natOk xs) r).length cv, .bool (rootX xs r), .bool (natOk xs)]) ∧ OI w' w.heap.size av cv (resN (natOk xs) r)) ∧ Below w.heap.size w w' := by
  have hlen := hR.len
  have hp := hR.1
  have K1 := hd (iNatOk a len cap xs w hR)
  cases h1 : natOk xs
  · have e : rootX xs r = false := by unfold rootX; rw [h1]; rfl
    rw [e]
    show Calls _ _ _ _ fun e w' => (∃ av cv, e = .returned (.tuple #[.slice av 0 cv, .bool false, .bool false]) ∧ OI w' w.heap.size av cv []) ∧ Below w.heap.size w w'
    rw [h1] at K1
    clear e h1 hr
    go_enter Tryz.func55, Tryz.ntmps55
    go_wp2_with fail
    refine K1.out.mono ?_
    rintro e w1 ⟨rfl, rfl⟩
    go_wp2
    go_ret3
    exact ⟨⟨_, _, rfl, OI.none _ _⟩, Below.refl _ _⟩
  rw [h1] at K1
  have e : rootX xs r = decide (r * r = val xs) := by unfold rootX; rw [h1]; rfl
  rw [e]
  show Calls _ _ _ _ fun e w' => (∃ av cv, e = .returned (.tuple #[.slice av (natL r).length cv, .bool (decide (r * r = val xs)), .bool true]) ∧ OI w' w.heap.size av cv (natL r)) ∧ Below w.heap.size w w'
  have q := natOk_in h1
  have T := hd (iRoot a len cap xs r w hR h1 hr)
  have hrl := root_len (Nat.le_trans sq_ge hr.1) (natOk_lt h1)
  have M := hd (fun av cv base w' (h : OI w' base av cv (natL r)) => iTimes av av _ _ cv cv _ _ w' h.inI h.inI (digs_natL _) (digs_natL _) (by omega) (by omega))
  rw [val_natL] at M
  have C := hd (fun av2 cv2 base w' (hb : Below w.heap.size w w') (h : OI w' base av2 cv2 (natL (r * r))) => iAgainst av2 a _ len cv2 cap _ xs w' h.inI (hR.old hb) (digs_natL _) q.2.1 (topped_natL _) q.2.2)
  rw [val_natL] at C
  have hcz : Hid ((cmpI (r * r) (val xs) == 0) = decide (r * r = val xs)) := by
    show _ = _
    rcases Nat.lt_trichotomy (r * r) (val xs) with g | g | g
    · rw [cmpI_lt g, decide_eq_false (by omega)]; rfl
    · rw [g, cmpI_eq, decide_eq_true rfl]; rfl
    · rw [cmpI_gt g, decide_eq_false (by omega)]; rfl
  clear e h1 hr q hrl
  generalize natL (r * r) = sl at *
  generalize hdec : decide (r * r = val xs) = bx at *
  generalize cmpI (r * r) (val xs) = cz at *
  generalize natL r = ql at *
  go_enter Tryz.func55, Tryz.ntmps55
  go_wp2_with fail
  refine K1.out.mono ?_
  rintro e w1 ⟨rfl, rfl⟩
  go_wp2_with fail
  refine T.out.mono ?_
  rintro e w2 ⟨⟨av, cv, rfl, hO⟩, hb2⟩
  go_wp2_with fail
  refine (M.out _ _ _ _ hO).mono ?_
  rintro e w3 ⟨⟨av3, cv3, rfl, hO3⟩, hb3⟩
  have hB3 := old_trans hb2 hb3
  go_wp2_with fail
  refine (C.out _ _ _ _ hB3 hO3).mono ?_
  rintro e w4 ⟨rfl, hb4⟩
  have hcz' := hcz.out
  go_wp2
  go_ret3
  exact ⟨⟨_, _, rfl, (hO.later hb3).later hb4⟩, old_trans hB3 hb4⟩
set_option maxHeartbeats 2000000 in
theorem sNatRoot (a : Option Addr) (len cap : Nat) (xs : List Int) (r : Nat) (hr : isRoot (val xs) r) (w : World) (hR : InI w a len cap xs) :
    Calls Tryz.prog 24 #[.slice a len cap] w fun e w' => (∃ av cv, e = .returned (.tuple #[.slice av (resN (natOk xs) r).length cv, .bool (rootX xs r), .bool (natOk xs)]) ∧ OI w' w.heap.size av cv (resN (natOk xs) r)) ∧ Below w.heap.size w w' := by
  have hlen := hR.len
  have hp := hR.1
  have K1 := hd (sNatOk a len cap xs w hR)
  cases h1 : natOk xs
  · have e : rootX xs r = false := by unfold rootX; rw [h1]; rfl
    rw [e]
    show Calls _ _ _ _ fun e w' => (∃ av cv, e = .returned (.tuple #[.slice av 0 cv, .bool false, .bool false]) ∧ OI w' w.heap.size av cv []) ∧ Below w.heap.size w w'
    rw [h1] at K1
    clear e h1 hr
    go_enter Tryz.func24, Tryz.ntmps24
    go_wp2_with fail
    refine K1.out.mono ?_
    rintro e w1 ⟨rfl, rfl⟩
    go_wp2
    go_ret3
    exact ⟨⟨_, _, rfl, OI.none _ _⟩, Below.refl _ _⟩
  rw [h1] at K1
  have e : rootX xs r = decide (r * r = val xs) := by unfold rootX; rw [h1]; rfl
  rw [e]
  show Calls _ _ _ _ fun e w' => (∃ av cv, e = .returned (.tuple #[.slice av (natL r).length cv, .bool (decide (r * r = val xs)), .bool true]) ∧ OI w' w.heap.size av cv (natL r)) ∧ Below w.heap.size w w'
  have q := natOk_in h1
  have T := hd (sRoot a len cap xs r w hR h1 hr)
  have hrl := root_len (Nat.le_trans sq_ge hr.1) (natOk_lt h1)
  have M := hd (fun av cv base w' (h : OI w' base av cv (natL r)) => sMul av av _ _ cv cv _ _ w' h.inI h.inI (digs_natL _) (digs_natL _) (by omega) (by omega))
  rw [val_natL] at M
  have C := hd (fun av2 cv2 base w' (hb : Below w.heap.size w w') (h : OI w' base av2 cv2 (natL (r * r))) => sCmp av2 a _ len cv2 cap _ xs w' h.inI (hR.old hb) (digs_natL _) q.2.1 (topped_natL _) q.2.2)
  rw [val_natL] at C
  have hcz : Hid ((cmpI (r * r) (val xs) == 0) = decide (r * r = val xs)) := by
    show _ = _
    rcases Nat.lt_trichotomy (r * r) (val xs) with g | g | g
    · rw [cmpI_lt g, decide_eq_false (by omega)]; rfl
    · rw [g, cmpI_eq, decide_eq_true rfl]; rfl
    · rw [cmpI_gt g, decide_eq_false (by omega)]; rfl
  clear e h1 hr q hrl
  generalize natL (r * r) = sl at *
  generalize hdec : decide (r * r = val xs) = bx at *
  generalize cmpI (r * r) (val xs) = cz at *
  generalize natL r = ql at *
  go_enter Tryz.func24, Tryz.ntmps24
  go_wp2_with fail
  refine K1.out.mono ?_
  rintro e w1 ⟨rfl, rfl⟩
  go_wp2_with fail
  refine T.out.mono ?_
  rintro e w2 ⟨⟨av, cv, rfl, hO⟩, hb2⟩
  go_wp2_with fail
  refine (M.out _ _ _ _ hO).mono ?_
  rintro e w3 ⟨⟨av3, cv3, rfl, hO3⟩, hb3⟩
  have hB3 := old_trans hb2 hb3
  go_wp2_with fail
  refine (C.out _ _ _ _ hB3 hO3).mono ?_
  rintro e w4 ⟨rfl, hb4⟩
  have hcz' := hcz.out
  go_wp2
  go_ret3
  exact ⟨⟨_, _, rfl, (hO.later hb3).later hb4⟩, old_trans hB3 hb4⟩
end Go.Proofs.YtbcdeddbkckaeaaGreatDoor
