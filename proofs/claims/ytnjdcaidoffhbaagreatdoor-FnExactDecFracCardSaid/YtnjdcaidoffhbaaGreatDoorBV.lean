/- Square roots, down: by bits and by steps from above. Conditions: numbers. -/
import Derived.Test.YtnjdcaidoffhbaaGreatDoorBG
import Derived.Test.YtnjdcaidoffhbaaGreatDoorV5
import Derived.Test.YtnjdcaidoffhbaaGreatDoorBC
import Derived.Deep.LoopGhost
import Derived.Test.YtnjdcaidoffhbaaGreatDoorBB
namespace Go.Proofs.YtnjdcaidoffhbaaGreatDoor
open Go.RowKit
set_option linter.unusedVariables false
set_option maxRecDepth 100000

def isRoot (a r : Nat) : Prop := r * r ≤ a ∧ a < (r + 1) * (r + 1)
theorem sq_lt {x y : Nat} (h : x < y) : (x + 1) * (x + 1) ≤ y * y := Nat.mul_le_mul h h
theorem isRoot_one {a r s : Nat} (h : isRoot a r) (k : isRoot a s) : r = s := by
  rcases Nat.lt_trichotomy r s with g | g | g
  · have := sq_lt g; have := h.2; have := k.1; omega
  · exact g
  · have := sq_lt g; have := k.2; have := h.1; omega
theorem root_is (a : Nat) : ∃ r, isRoot a r := by
  induction a with
  | zero => exact ⟨0, by simp [isRoot]⟩
  | succ a ih =>
    obtain ⟨r, h1, h2⟩ := ih
    by_cases h : (r + 1) * (r + 1) ≤ a + 1
    · refine ⟨r + 1, h, ?_⟩
      have e : (r + 1 + 1) * (r + 1 + 1) = (r + 1) * (r + 1) + 2 * (r + 1) + 1 := by grind
      omega
    · exact ⟨r, by omega, by omega⟩
theorem four_le (x y : Nat) : 4 * (x * y) ≤ (x + y) * (x + y) := by
  rcases Nat.le_total x y with h | h
  · obtain ⟨d, rfl⟩ := Nat.exists_eq_add_of_le h
    have e : (x + (x + d)) * (x + (x + d)) = 4 * (x * (x + d)) + d * d := by grind
    omega
  · obtain ⟨d, rfl⟩ := Nat.exists_eq_add_of_le h
    have e : (y + d + y) * (y + d + y) = 4 * ((y + d) * y) + d * d := by grind
    omega
/-- a step from above does not go below the root -/
theorem newton_above {a r : Nat} (hr : 0 < r) : a < ((r + a / r) / 2 + 1) * ((r + a / r) / 2 + 1) := by
  have hlt : a < r * (a / r + 1) := by
    have := Nat.div_add_mod a r
    have := Nat.mod_lt a hr
    rw [Nat.mul_add, Nat.mul_one]; omega
  generalize hq : a / r = q at *
  have h4 := four_le r (q + 1)
  have hs : r + (q + 1) ≤ 2 * ((r + q) / 2 + 1) := by omega
  generalize (r + q) / 2 + 1 = s at *
  have h5 : (r + (q + 1)) * (r + (q + 1)) ≤ (2 * s) * (2 * s) := Nat.mul_le_mul hs hs
  have e : (2 * s) * (2 * s) = 4 * (s * s) := by grind
  omega
theorem newton_stop {a r : Nat} (hr : 0 < r) (h : r ≤ (r + a / r) / 2) : r * r ≤ a := by
  have h1 : r ≤ a / r := by omega
  have := (Nat.le_div_iff_mul_le hr).1 h1
  exact this
theorem newton_pos {a r : Nat} (ha : 0 < a) (hr : 0 < r) : 0 < (r + a / r) / 2 := by
  have h := newton_above (a := a) hr
  rcases Nat.eq_zero_or_pos ((r + a / r) / 2) with g | g
  · rw [g] at h; omega
  · exact g
theorem hlv_up (k : Nat) : k ≤ 16 → ∀ d : Int, 0 ≤ d → d < ((2 ^ k : Nat) : Int) → d < ((2 ^ (hlvI d).toNat : Nat) : Int) ∧ 0 ≤ hlvI d := by
  induction k with
  | zero =>
    intro _ d h0 h1
    obtain rfl : d = 0 := by simp at h1; omega
    rw [hlvI_zero]; simp
  | succ k ih =>
    intro hk d h0 h1
    by_cases hd : d = 0
    · subst hd; rw [hlvI_zero]; simp
    · have hle : (2 : Nat) ^ (k + 1) ≤ 2 ^ 16 := Nat.pow_le_pow_right (by omega) hk
      have h16 : (2 : Nat) ^ 16 = 65536 := by decide
      have hps : (2 : Nat) ^ (k + 1) = 2 ^ k * 2 := Nat.pow_succ ..
      obtain ⟨i1, i2⟩ := ih (by omega) (d / 2) (by omega) (by omega)
      rw [hlvI_half (by omega) (by omega)]
      rw [show (hlvI (d / 2) + 1).toNat = (hlvI (d / 2)).toNat + 1 by omega, Nat.pow_succ]
      generalize 2 ^ (hlvI (d / 2)).toNat = z at *
      omega
theorem bits_up {xs : List Int} (h : digs xs) (h0 : xs.length ≠ 0) : val xs < 2 ^ (bitsN xs).toNat := by
  obtain ⟨n, hn⟩ : ∃ n, xs.length = n + 1 := ⟨xs.length - 1, by omega⟩
  have d := digs_getD h n
  unfold dig at d
  have h16 : ((2 ^ 16 : Nat) : Int) = 65536 := by decide
  obtain ⟨u1, u2⟩ := hlv_up 16 (by omega) (xs.getD n 0) d.1 (by rw [h16]; exact d.2)
  have e : bitsN xs = 16 * (n : Int) + hlvI (xs.getD n 0) := by
    unfold bitsN
    rw [if_neg h0, hn, show n + 1 - 1 = n by omega]
    omega
  have hv := val_take_succ xs n
  rw [List.take_of_length_le (by omega)] at hv
  have hl := val_lt (digs_take (n := n) h)
  rw [List.length_take, Nat.min_eq_left (by omega)] at hl
  rw [hv, e, show (16 * (n : Int) + hlvI (xs.getD n 0)).toNat = 16 * n + (hlvI (xs.getD n 0)).toNat by omega, pow2_split]
  have hz : (xs.getD n 0).toNat + 1 ≤ 2 ^ (hlvI (xs.getD n 0)).toNat := by
    generalize 2 ^ (hlvI (xs.getD n 0)).toNat = z at *
    omega
  have h5 := Nat.mul_le_mul_left (65536 ^ n) hz
  rw [Nat.mul_add, Nat.mul_one] at h5
  generalize 65536 ^ n * 2 ^ (hlvI (xs.getD n 0)).toNat = z at *
  generalize 65536 ^ n * (xs.getD n 0).toNat = z2 at *
  omega
theorem half_up {A : Nat} {b : Int} (hb : 0 ≤ b) (h : A < 2 ^ b.toNat) : ∃ K : Nat, (b + 1) / 2 = (K : Int) ∧ A < 2 ^ K * 2 ^ K := by
  refine ⟨((b + 1) / 2).toNat, by omega, ?_⟩
  rw [← Nat.pow_add]
  exact Nat.lt_of_lt_of_le h (Nat.pow_le_pow_right (by omega) (by omega))
theorem up_n (a : Option Addr) (len cap : Nat) (xs : List Int) (k : Nat) (w : World) (hR : InI w a len cap xs) (hx : digs xs) (hk : k ≤ 16000) (hl : len ≤ 1048576) :
    Calls Tryz.prog 55 #[.slice a len cap, .int .i64 (k : Int)] w fun e w' => (∃ av cv, e = .returned (.slice av (natL (2 ^ k * val xs)).length cv) ∧ OI w' w.heap.size av cv (natL (2 ^ k * val xs))) ∧ Below w.heap.size w w' := by
  obtain ⟨P, p, rfl, hp⟩ := split16q k
  have h := iUp a len cap xs P p w hR hx hp (by omega) hl
  rw [show (16 * (P : Int) + (p : Int)) = ((16 * P + p : Nat) : Int) by omega] at h
  rw [pow2_split]
  exact h
end Go.Proofs.YtnjdcaidoffhbaaGreatDoor

/- A number times a small one, and more: a new number. No condition. -/
namespace Go.Proofs.YtnjdcaidoffhbaaGreatDoor
open Go.RowKit
set_option linter.unusedVariables false
set_option maxRecDepth 100000

def TsI (k : Nat) (xs o : List Int) (f m c : Nat) : Prop := o.length = k ∧ digs o ∧ val o + 65536 ^ k * c = val (xs.take k) * f + m
theorem TsI.zero (xs : List Int) (f m : Nat) : TsI 0 xs [] f m m := ⟨rfl, digs_nil, by simp [val]⟩
theorem val_snocT (o : List Int) (d : Nat) : val (o ++ [(d : Int)]) = val o + 65536 ^ o.length * d := by
  rw [val_append, val_cons, val_nil]; simp
theorem ts_alg {V B c x f m T s q r : Nat} (h : V + B * c = T * f + m) (hs : s = c + x * f) (hq : s = r + 65536 * q) : V + B * r + B * 65536 * q = (T + B * x) * f + m := by
  have e : B * s = B * r + B * 65536 * q := by rw [hq]; grind
  have e2 : B * s = B * c + B * x * f := by rw [hs]; grind
  rw [Nat.add_mul]; omega
theorem TsI.step {k : Nat} {xs o : List Int} {f m c : Nat} (h : TsI k xs o f m c) (s : Nat) (hs : s = c + (xs.getD k 0).toNat * f) :
    TsI (k + 1) xs (o ++ [((s % 65536 : Nat) : Int)]) f m (s / 65536) := by
  obtain ⟨h1, h2, h3⟩ := h
  refine ⟨by simp [h1], digs_append.2 ⟨h2, digs_cons.2 ⟨by unfold dig; omega, digs_nil⟩⟩, ?_⟩
  rw [val_snocT, h1, val_take_succ, Nat.pow_succ]
  exact ts_alg h3 hs (by omega)
def TsE (T : Nat) (o : List Int) (c : Nat) : Prop := digs o ∧ val o + 65536 ^ o.length * c = T
theorem TsE.step {T : Nat} {o : List Int} {c : Nat} (h : TsE T o c) : TsE T (o ++ [((c % 65536 : Nat) : Int)]) (c / 65536) := by
  obtain ⟨h2, h3⟩ := h
  refine ⟨digs_append.2 ⟨h2, digs_cons.2 ⟨by unfold dig; omega, digs_nil⟩⟩, ?_⟩
  rw [val_snocT, List.length_append, List.length_singleton, Nat.pow_succ]
  have := ts_alg (V := val o) (B := 65536 ^ o.length) (c := c) (x := 0) (f := 0) (m := T) (T := 0) (s := c) (q := c / 65536) (r := c % 65536) (by omega) (by omega) (by omega)
  omega
theorem TsI.fin {xs o : List Int} {f m c : Nat} (h : TsI xs.length xs o f m c) : TsE (val xs * f + m) o c := by
  obtain ⟨h1, h2, h3⟩ := h
  rw [List.take_of_length_le (Nat.le_refl _)] at h3
  exact ⟨h2, by rw [h1]; exact h3⟩
theorem mul_bdN {x : Int} {f : Nat} (hx : dig x) : 0 ≤ x * (f : Int) ∧ x * (f : Int) ≤ 65535 * (f : Int) := by
  unfold dig at hx
  exact ⟨Int.mul_nonneg hx.1 (by omega), Int.mul_le_mul_of_nonneg_right (by omega) (by omega)⟩
theorem c_of (x : Int) (f c : Nat) (hx : dig x) : ((c + x.toNat * f : Nat) : Int) = (c : Int) + x * (f : Int) := by
  unfold dig at hx
  rw [Int.natCast_add, Int.natCast_mul, Int.toNat_of_nonneg hx.1]
set_option maxRecDepth 100000 in
set_option maxHeartbeats 4000000 in
theorem iTimesSmall (a : Option Addr) (len cap : Nat) (xs : List Int) (f m : Nat) (w : World) (hR : InI w a len cap xs) (hx : digs xs) (hf : f ≤ 1099511627776) (hm : m ≤ 1099511627776) (hl : len ≤ 1048576) :
    Calls Tryz.prog 48 #[.slice a len cap, .int .i64 (f : Int), .int .i64 (m : Int)] w fun e w' => (∃ av cv, e = .returned (.slice av (natL (val xs * f + m)).length cv) ∧ OI w' w.heap.size av cv (natL (val xs * f + m))) ∧ Below w.heap.size w w' := by
  obtain ⟨i0, hi, hz0, hz1, hz2⟩ := info_parts infoInt
  have hp := hR.1
  subst hp
  go_enter Tryz.func48, Tryz.ntmps48
  go_wp2
  go_loopw [7, 8, 14] (fun o c i wr => ∃ (k : Nat) (qs : List Int) (cv : Nat), k ≤ xs.length ∧ c = .int .i64 (cv : Int) ∧ i = .int .i64 k ∧ TsI k xs qs f m cv ∧ cv ≤ 1099511627776 ∧ IGrows wr w.heap.size o qs ∧ Below w.heap.size w wr) (fun _ _ i _ => xs.length - (intOf i).toNat)
  case atStart => exact ⟨0, [], m, by omega, rfl, rfl, TsI.zero _ _ _, hm, IGrows.nil _ _, Below.refl _ _⟩
  case round =>
    obtain ⟨k, qs, c, hk, rfl, rfl, hM, hc, G, hb⟩ := hrel
    have hql := hM.1
    have hsz := hb.size
    by_cases hlt : k < xs.length
    · obtain ⟨ba, oa, x, rfl, -, ex, -, cx⟩ := (hR.old hb).at hlt
      have dx := digs_getD hx k
      rw [ex] at dx
      have m1 := mul_bdN (f := f) dx
      have hst := hd (hM.step _ rfl)
      rw [ex] at hst
      have hcc := c_of x f c dx
      have hsb : c + x.toNat * f ≤ 72057594037927936 := by omega
      generalize c + x.toNat * f = s at *
      have hfe : Hid (s / 65536 ≤ 1099511627776) := by show _ ≤ _; omega
      have hmask := i64_mask ((c : Int) + x * (f : Int))
      have hfd : ((c : Int) + x * (f : Int)).fdiv 65536 = ((c : Int) + x * (f : Int)) / 65536 := Int.fdiv_eq_ediv_of_nonneg _ (by omega)
      rw [← hcc] at hmask hfd
      have e1 : ((s : Int) % 65536) = ((s % 65536 : Nat) : Int) := by omega
      have e2 : ((s : Int) / 65536) = ((s / 65536 : Nat) : Int) := by omega
      rw [e1] at hmask
      rw [e2] at hfd
      have G2 := G.alloc (.cells #[.int .i64 ((s % 65536 : Nat) : Int)] 3)
      have B2 : Below w.heap.size w (wr.alloc (.cells #[.int .i64 ((s % 65536 : Nat) : Int)] 3)) := old_alloc hb _
      have cw := cells_one wr wr.heap.size rfl (.int .i64 ((s % 65536 : Nat) : Int)) 3
      have hb1 : (0 : Int) ≤ (c : Int) + x * (f : Int) := by omega
      have hb2 : (c : Int) + x * (f : Int) ≤ 72057594037927936 := by omega
      have hcc' := hcc.symm
      clear hcc m1
      clear hM e1 e2
      go_wp2_with (at_builtin; refine wpList_append_own _ rfl _ _ 47 rfl w.heap.size 3 i0 _ 1 8 Tryz.underlying47 hi hz0 hz1 hz2 rfl (by decide) _ _ _ rfl G2 ⟨_, 0, none⟩ 1 1 [.int .i64 ((s % 65536 : Nat) : Int)] rfl rfl cw (by simp [Value.oneCell']) (by rw [hql]; unfold maxLen; omega) (by rw [hql]; omega) (by simp; omega) ?_; intro v' w5 hown hgrow _)
      go_roundw
      case rel =>
        refine ⟨k + 1, _, _, by omega, rfl, by go_num, hst.out, hfe.out, ?_, ?_⟩
        · unfold IGrows
          rw [ints_snoc, List.length_append]
          exact hown
        · exact B2.grown hgrow B2.size (fun c e => by have := (World.ownsRow.lt G2 c e).1; omega)
      case measure => simp [intOf]; omega
    · obtain rfl : k = xs.length := by omega
      have hE := hM.fin
      have hkl : ¬ ((xs.length : Int) < (xs.length : Int)) := by omega
      have T1 := hd (fun (o : List Int) (hE : TsE (val xs * f + m) o 0) av cv w' (h : OI w' w.heap.size av cv o) => iTrimO w.heap.size av cv o w' h hE.1)
      have T2 : Hid (∀ o : List Int, TsE (val xs * f + m) o 0 → val o = val xs * f + m) := fun o h => by have := h.2; rw [Nat.mul_zero] at this; omega
      have hE' := hd hE
      clear hM hE
      go_wp2
      go_loopw [7, 8] (fun o c wr => ∃ (qs : List Int) (cv : Nat), c = .int .i64 (cv : Int) ∧ TsE (val xs * f + m) qs cv ∧ ((qs.length = xs.length ∧ cv ≤ 1099511627776) ∨ (qs.length = xs.length + 1 ∧ cv ≤ 16777216) ∨ (qs.length = xs.length + 2 ∧ cv ≤ 256) ∨ (qs.length = xs.length + 3 ∧ cv = 0)) ∧ IGrows wr w.heap.size o qs ∧ Below w.heap.size w wr) (fun _ c _ => (intOf c).toNat)
      case atStart => exact ⟨qs, c, rfl, hE'.out, .inl ⟨hql, hc⟩, G, hb⟩
      case round =>
        clear hE' G hb hc hql
        obtain ⟨qs, c, rfl, hE, hq, G, hb⟩ := hrel
        have hsz := hb.size
        by_cases h0 : c = 0
        · subst h0
          have ev := T2.out qs hE
          obtain ⟨av, cv, rfl, ho⟩ := G.oi (digs_fits hE.1)
          have T3 := hd (T1.out qs hE av cv)
          rw [ev] at T3
          go_wp2_with fail
          refine (T3.out _ ho).mono ?_
          rintro e w3 ⟨⟨av3, cv3, rfl, hO3⟩, hb3⟩
          go_wp2
          go_ret
          exact ⟨⟨_, _, rfl, hO3⟩, old_trans hb hb3⟩
        · have hst := hd hE.step
          have hmask := i64_mask (c : Int)
          have hfd : (c : Int).fdiv 65536 = (c : Int) / 65536 := Int.fdiv_eq_ediv_of_nonneg _ (by omega)
          have e1 : ((c : Int) % 65536) = ((c % 65536 : Nat) : Int) := by omega
          have e2 : ((c : Int) / 65536) = ((c / 65536 : Nat) : Int) := by omega
          rw [e1] at hmask
          rw [e2] at hfd
          have hql : qs.length ≤ 1048579 := by omega
          have hcl : (c : Int) ≤ 1099511627776 := by omega
          have hq2 : Hid (((qs ++ [((c % 65536 : Nat) : Int)]).length = xs.length ∧ c / 65536 ≤ 1099511627776) ∨ ((qs ++ [((c % 65536 : Nat) : Int)]).length = xs.length + 1 ∧ c / 65536 ≤ 16777216) ∨ ((qs ++ [((c % 65536 : Nat) : Int)]).length = xs.length + 2 ∧ c / 65536 ≤ 256) ∨ ((qs ++ [((c % 65536 : Nat) : Int)]).length = xs.length + 3 ∧ c / 65536 = 0)) := by
            show _ ∨ _
            rw [List.length_append, List.length_singleton]
            omega
          have hm9 : Hid (c / 65536 < c) := by show _ < _; omega
          have G2 := G.alloc (.cells #[.int .i64 ((c % 65536 : Nat) : Int)] 3)
          have B2 : Below w.heap.size w (wr.alloc (.cells #[.int .i64 ((c % 65536 : Nat) : Int)] 3)) := old_alloc hb _
          have cw := cells_one wr wr.heap.size rfl (.int .i64 ((c % 65536 : Nat) : Int)) 3
          clear e1 e2 hE hq
          go_wp2_with (at_builtin; refine wpList_append_own _ rfl _ _ 47 rfl w.heap.size 3 i0 _ 1 8 Tryz.underlying47 hi hz0 hz1 hz2 rfl (by decide) _ _ _ rfl G2 ⟨_, 0, none⟩ 1 1 [.int .i64 ((c % 65536 : Nat) : Int)] rfl rfl cw (by simp [Value.oneCell']) (by unfold maxLen; omega) (by omega) (by simp; omega) ?_; intro v' w5 hown hgrow _)
          go_roundw
          case rel =>
            refine ⟨_, _, rfl, hst.out, hq2.out, ?_, ?_⟩
            · unfold IGrows
              rw [ints_snoc, List.length_append]
              exact hown
            · exact B2.grown hgrow B2.size (fun c e => by have := (World.ownsRow.lt G2 c e).1; omega)
          case measure =>
            have := hm9.out
            show ((((c / 65536 : Nat) : Int)).toNat) < _
            simp [intOf]
            omega
end Go.Proofs.YtnjdcaidoffhbaaGreatDoor

/- Square roots of numbers, down: the program's steps from above, the specification's bits. No condition. -/
namespace Go.Proofs.YtnjdcaidoffhbaaGreatDoor
open Go.RowKit
set_option linter.unusedVariables false
set_option maxRecDepth 100000

theorem root_len {r A n : Nat} (h : r ≤ A) (hA : A < 65536 ^ n) : (natL r).length ≤ n := natL_len.2 (Nat.lt_of_le_of_lt h hA)
theorem sum_len {a b n m : Nat} (ha : a < 65536 ^ n) (hb : b < 65536 ^ m) : (natL (a + b)).length ≤ n + m + 1 := by
  refine natL_len.2 ?_
  have e3 : 65536 ^ n ≤ 65536 ^ (n + m) := Nat.pow_le_pow_right (by omega) (by omega)
  have e4 : 65536 ^ m ≤ 65536 ^ (n + m) := Nat.pow_le_pow_right (by omega) (by omega)
  rw [Nat.pow_succ]
  have h1 := Nat.lt_of_lt_of_le ha e3
  have h2 := Nat.lt_of_lt_of_le hb e4
  clear ha hb e3 e4
  generalize 65536 ^ (n + m) = z at *
  omega
theorem sq_ge {r : Nat} : r ≤ r * r := by
  rcases Nat.eq_zero_or_pos r with h | h
  · subst h; simp
  · exact Nat.le_mul_of_pos_left r h
theorem down_n (a : Option Addr) (len cap : Nat) (xs : List Int) (k : Nat) (w : World) (hR : InI w a len cap xs) (hx : digs xs) (hk : k ≤ 16000) (hl : len ≤ 1048576) :
    Calls Tryz.prog 58 #[.slice a len cap, .int .i64 (k : Int)] w fun e w' => (∃ av cv, e = .returned (.slice av (natL (val xs / 2 ^ k)).length cv) ∧ OI w' w.heap.size av cv (natL (val xs / 2 ^ k))) ∧ Below w.heap.size w w' := by
  obtain ⟨P, p, rfl, hp⟩ := split16q k
  have h := iDown a len cap xs P p w hR hx hp (by omega) hl
  rw [show (16 * (P : Int) + (p : Int)) = ((16 * P + p : Nat) : Int) by omega] at h
  rw [pow2_split]
  exact h
theorem sq_ltR {x P v : Nat} (h : x * x ≤ v) (hv : v < P * P) : x < P := by
  rcases Nat.lt_or_ge x P with g | g
  · exact g
  · have := Nat.mul_le_mul g g; omega
/-- what stands above the root, by the highest bits -/
theorem above_sq {A r h : Nat} (hr : isRoot (A / 2 ^ (2 * h)) r) : A < (2 ^ h * (r + 1)) * (2 ^ h * (r + 1)) := by
  have h1 := hr.2
  have e : (2 : Nat) ^ (2 * h) = 2 ^ h * 2 ^ h := by rw [← Nat.pow_add]; congr 1; omega
  rw [e] at h1
  have h0 : 0 < 2 ^ h * 2 ^ h := Nat.mul_pos (Nat.pow_pos (by omega)) (Nat.pow_pos (by omega))
  have h2 := (Nat.div_lt_iff_lt_mul h0).1 h1
  calc A < (r + 1) * (r + 1) * (2 ^ h * 2 ^ h) := h2
    _ = (2 ^ h * (r + 1)) * (2 ^ h * (r + 1)) := by grind
theorem root_mul {A r h : Nat} (hr : isRoot (A / 2 ^ (2 * h)) r) : (2 ^ h * r) * (2 ^ h * r) ≤ A := by
  have h1 := hr.1
  have e : (2 : Nat) ^ (2 * h) = 2 ^ h * 2 ^ h := by rw [← Nat.pow_add]; congr 1; omega
  rw [e] at h1
  have h0 : 0 < 2 ^ h * 2 ^ h := Nat.mul_pos (Nat.pow_pos (by omega)) (Nat.pow_pos (by omega))
  have h2 := (Nat.le_div_iff_mul_le h0).1 h1
  have e2 : (2 ^ h * r) * (2 ^ h * r) = r * r * (2 ^ h * 2 ^ h) := by grind
  omega
theorem two_le {n h : Nat} (hh : h ≤ 16 * n) : 2 ^ h ≤ 65536 ^ n := by
  rw [show (65536 : Nat) = 2 ^ 16 by decide, ← Nat.pow_mul]
  exact Nat.pow_le_pow_right (by omega) hh
theorem two_lt {n h : Nat} (hh : h < 16 * n) : 2 ^ h < 65536 ^ n := by
  rw [show (65536 : Nat) = 2 ^ 16 by decide, ← Nat.pow_mul]
  exact Nat.pow_lt_pow_right (by omega) hh
theorem above_small {A r h : Nat} (hr : isRoot (A / 2 ^ (2 * h)) r) (hA : A < 65536 ^ 256) (hh : h ≤ 1024) : 2 ^ h * (r + 1) < 65536 ^ 129 := by
  have h1 := sq_ltR (root_mul hr) (P := 65536 ^ 128) (by rw [← Nat.pow_add]; exact hA)
  have h2 : 2 ^ h ≤ 65536 ^ 64 := two_le (by omega)
  have h3 : (65536 : Nat) ^ 64 ≤ 65536 ^ 128 := Nat.pow_le_pow_right (by omega) (by omega)
  have h4 : (65536 : Nat) ^ 129 = 65536 ^ 128 * 65536 := Nat.pow_succ ..
  rw [Nat.mul_add, Nat.mul_one, h4]
  clear h4
  generalize (65536 : Nat) ^ 128 = z at *
  generalize (65536 : Nat) ^ 64 = y at *
  omega
theorem two_small {K : Nat} (h : K ≤ 2049) : 2 ^ K < 65536 ^ 129 := two_lt (by omega)
theorem lt_256 {x : Nat} (h : x < 65536 ^ 129) : x < 65536 ^ 256 := Nat.lt_of_lt_of_le h (Nat.pow_le_pow_right (by omega) (by omega))
def RootAt (P : Program) (f : Nat) (xs : List Int) : Prop := ∀ (a : Option Addr) (len cap : Nat) (r : Nat) (w : World), InI w a len cap xs → natOk xs = true → isRoot (val xs) r →
    Calls P f #[.slice a len cap, .int .i64 2] w fun e w' => (∃ av cv, e = .returned (.slice av (natL r).length cv) ∧ OI w' w.heap.size av cv (natL r)) ∧ Below w.heap.size w w'
theorem iOneR (w : World) : Calls Tryz.prog 50 #[] w fun e w' => (∃ av cv, e = .returned (.slice av (natL 1).length cv) ∧ OI w' w.heap.size av cv (natL 1)) ∧ Below w.heap.size w w' := by
  have h := one_oi w 3
  have hB : Below w.heap.size w (w.alloc (.cells #[.int .i64 1] 3)) := (Below.refl _ w).alloc (Nat.le_refl _) _
  rw [one_len]
  go_enter Tryz.func50, Tryz.ntmps50
  go_wp2
  go_ret
  exact ⟨⟨_, _, rfl, h⟩, hB⟩
end Go.Proofs.YtnjdcaidoffhbaaGreatDoor

/- Square roots of numbers, down: the specification's bits; both, if they are numbers. No condition. -/
namespace Go.Proofs.YtnjdcaidoffhbaaGreatDoor
open Go.RowKit
set_option linter.unusedVariables false
set_option maxRecDepth 100000

end Go.Proofs.YtnjdcaidoffhbaaGreatDoor

/- Square roots of numbers, if they are numbers: by the program and by the specification. No condition. -/
namespace Go.Proofs.YtnjdcaidoffhbaaGreatDoor
open Go.RowKit
set_option linter.unusedVariables false
set_option maxRecDepth 100000

def rootX (xs : List Int) (r : Nat) : Bool := natOk xs && decide (r * r = val xs)
theorem rootN_len {xs : List Int} {r : Nat} (hr : isRoot (val xs) r) : (resN (natOk xs) r).length ≤ 1048576 := by
  cases h : natOk xs
  · show ([] : List Int).length ≤ 1048576
    simp
  · show (natL r).length ≤ 1048576
    have := root_len (Nat.le_trans sq_ge hr.1) (natOk_lt h)
    omega
end Go.Proofs.YtnjdcaidoffhbaaGreatDoor
