/- Draws of what is to be written and read: some list, some text. Nothing that was there is written. -/
import Derived.Test.YtfdikhiaphgkpaaDoorKE
import Derived.Test.YtfdikhiaphgkpaaDoorKF
import Derived.Test.YtfdikhiaphgkpaaDoorBN
import Derived.Test.YtfdikhiaphgkpaaDoorUM
namespace Go.Proofs.YtfdikhiaphgkpaaDoor
open Go.RowKit Go.Lib
set_option linter.unusedVariables false
set_option maxRecDepth 100000

set_option maxHeartbeats 1000000 in
theorem sMany (s : ByteArray) (n : Nat) (h1 : s.size = 1) (hn : n ≤ 2000) (w : World) :
    Calls Tryd.prog 21 #[.string s, .int .i64 (n : Int)] w fun e w' => (∃ t : ByteArray, e = .returned (.string t) ∧ t.size ≤ 2000) ∧ w' = w := by
  go_enter Tryd.func21, Tryd.ntmps21
  go_wp2_with fail
  go_loopg [0, 1, 5] n (fun k u m o wr => ∃ su so : ByteArray, u = .string su ∧ m = .int .i64 (k : Int) ∧ o = .string so ∧ so.size + k * su.size ≤ n ∧ 1 ≤ su.size ∧ k ≤ 2000 ∧ wr = w)
  case atStart => exact ⟨s, _, rfl, rfl, rfl, by rw [h1, Nat.mul_one]; show 0 + n ≤ n; omega, by omega, hn, rfl⟩
  case round =>
    obtain ⟨su, so, rfl, rfl, rfl, hs, hu1, hk2, rfl⟩ := hrel
    by_cases hk : gk = 0
    · subst hk
      have hso : so.size ≤ 2000 := by omega
      clear hs
      go_wp2
      go_ret
      exact ⟨⟨_, rfl, hso⟩, rfl⟩
    · have hp : (0 : Int) < (gk : Int) := by omega
      have hk9 : gk / 2 < gk := by omega
      have hq : wrap64 ((gk : Int) / 2) = ((gk / 2 : Nat) : Int) := by unfold wrap64; omega
      have hmul : su.size ≤ gk * su.size := Nat.le_mul_of_pos_left _ (by omega)
      have hsu : su.size ≤ 2000 := by omega
      have hso : so.size ≤ 2000 := by omega
      have hu2 : 1 ≤ (su ++ su).size := by rw [ByteArray.size_append]; omega
      have hk3 : gk / 2 ≤ 2000 := by omega
      have hu2' := hd hu2
      have hk3' := hd hk3
      have hgI : (gk : Int) ≤ 2000 := by omega
      by_cases hm : gk % 2 = 1
      · have hm' : (gk : Int).tmod 2 = 1 := by rw [Int.tmod_eq_emod_of_nonneg (by omega)]; omega
        have hs2 : (so ++ su).size + gk / 2 * (su ++ su).size ≤ n := by
          rw [ByteArray.size_append, ByteArray.size_append]
          have e : gk = 2 * (gk / 2) + 1 := by omega
          rw [e] at hs
          generalize gk / 2 = q at *
          rw [Nat.add_mul, Nat.mul_assoc, Nat.mul_left_comm] at hs
          rw [← Nat.two_mul]
          omega
        have hg := hd hk9
        have hs2' := hd hs2
        clear hs hs2 hk9 hmul hu2 hk3
        go_wp2
        go_roundg (gk / 2)
        case measure => exact hg.out
        case rel => exact ⟨_, _, rfl, by first | go_num | (rw [hq]), rfl, hs2'.out, hu2'.out, hk3'.out, rfl⟩
      · have hm' : (gk : Int).tmod 2 = 0 := by rw [Int.tmod_eq_emod_of_nonneg (by omega)]; omega
        have hs2 : so.size + gk / 2 * (su ++ su).size ≤ n := by
          rw [ByteArray.size_append]
          have e : gk = 2 * (gk / 2) := by omega
          rw [e] at hs
          generalize gk / 2 = q at *
          rw [Nat.mul_assoc, Nat.mul_left_comm] at hs
          rw [← Nat.two_mul]
          omega
        have hg := hd hk9
        have hs2' := hd hs2
        clear hs hs2 hk9 hmul hu2 hk3
        go_wp2
        go_roundg (gk / 2)
        case measure => exact hg.out
        case rel => exact ⟨_, _, rfl, by first | go_num | (rw [hq]), rfl, hs2'.out, hu2'.out, hk3'.out, rfl⟩
set_option maxHeartbeats 1000000 in
theorem drawNatText (w : World) (a : Option Addr) (len cap : Nat) (h : IsCode w a len cap) :
    Calls Tryd.prog 4 #[.slice a len cap] w fun e w' => (∃ av cv xs, e = .returned (.slice av (List.length xs) cv) ∧ OI w' w.heap.size av cv xs) ∧ Below w.heap.size w w' := by
  have hop := hd (open_kB w a len cap h)
  go_enter Tryd.func4, Tryd.ntmps4
  go_wp2_with fail
  refine hop.out.mono ?_
  rintro e w1 ⟨rfl, o, rfl, hR⟩
  have hsz0 : (w.alloc o).heap.size = w.heap.size + 1 := by simp
  generalize hrb : w.heap.size = rb at *
  clear hop h
  go_wp2_with fail
  refine (raw_k rb 90000 _ (hR.mono (by omega))).mono ?_
  rintro e w2 ⟨⟨v, xs, rfl, G, F_, hl_⟩, R2, B2⟩
  obtain ⟨av, cv, rfl, O⟩ := G.oi F_
  have hz : OI w2 w.heap.size av cv xs := O.mono (by omega)
  have hbl : Below w.heap.size w w2 := by subst hrb; exact B2.below
  clear hR F_ hl_ G O R2 B2
  go_wp2
  go_ret
  rw [← hrb]
  exact ⟨⟨_, _, _, rfl, hz⟩, hbl⟩
theorem ntB_len (xs : List Int) : (ntB xs).length ≤ 1250 := by
  unfold ntB
  cases h : natOk xs
  · simp
  · simp only [if_true]
    exact big_dec (natOk_lt h)
set_option maxHeartbeats 2000000 in
theorem drawNatRead (w : World) (a : Option Addr) (len cap : Nat) (h : IsCode w a len cap) :
    Calls Tryd.prog 9 #[.slice a len cap] w fun e w' => (∃ t : ByteArray, e = .returned (.string t) ∧ t.size ≤ 4000) ∧ Below w.heap.size w w' := by
  have hop := hd (open_kB w a len cap h)
  go_enter Tryd.func9, Tryd.ntmps9
  go_wp2_with fail
  refine hop.out.mono ?_
  rintro e w1 ⟨rfl, o, rfl, hR⟩
  have hsz0 : (w.alloc o).heap.size = w.heap.size + 1 := by simp
  generalize hrb : w.heap.size = rb at *
  clear hop h
  go_wp2_with fail
  refine (nat_k rb 90000 _ (hR.mono (by omega))).mono ?_
  rintro e w2 ⟨⟨v, xs, rfl, G, F_, hl_⟩, R2, B2⟩
  obtain ⟨av, cv, rfl, O⟩ := G.oi (digs_fits F_)
  clear hR F_ hl_ G
  go_wp2_with fail
  refine (sNatText _ _ _ _ _ O.inI).mono ?_
  rintro e w3 ⟨rfl, hb3⟩
  have hln := ntB_len xs
  have R3 := R2.old hb3
  have B3 := B2.trans (But.of hb3)
  have hts : (⟨(ntB xs).toArray⟩ : ByteArray).size ≤ 1250 := hln
  generalize (⟨(ntB xs).toArray⟩ : ByteArray) = s0 at *
  clear O hln B2 R2 hb3
  go_wp2_with fail
  refine (pick_k rb 80000 12 _ (R3.mono (by omega)) (by decide)).mono ?_
  rintro e w4 ⟨⟨p, hp, rfl⟩, R4, B4⟩
  have B4 := B3.trans B4
  have fin : ∀ (W : World) (t : ByteArray), But rb (w.alloc o) W → t.size ≤ 4000 → (∃ u : ByteArray, Ending.returned (.string t) = .returned (.string u) ∧ u.size ≤ 4000) ∧ Below w.heap.size w W := fun W t h1 h2 => ⟨⟨t, rfl, h2⟩, by subst hrb; exact h1.below⟩
  have fin := hd fin
  have hc : p = 0 ∨ p = 1 ∨ p = 2 ∨ p = 3 ∨ p = 4 ∨ (¬ p = 0 ∧ ¬ p = 1 ∧ ¬ p = 2 ∧ ¬ p = 3 ∧ ¬ p = 4) := by omega
  clear hp
  rcases hc with rfl | rfl | rfl | rfl | rfl | ⟨q0, q1, q2, q3, q4⟩
  · go_wp2
    go_ret
    rw [← hrb]
    exact fin.out _ _ B4 (by rw [ByteArray.size_append]; show 1 + _ ≤ _; omega)
  · go_wp2
    go_ret
    rw [← hrb]
    exact fin.out _ _ B4 (by rw [ByteArray.size_append]; show _ + 1 ≤ _; omega)
  · go_wp2
    go_ret
    rw [← hrb]
    exact fin.out _ _ B4 (by show 0 ≤ _; omega)
  · go_wp2
    go_ret
    rw [← hrb]
    exact fin.out _ _ B4 (by rw [ByteArray.size_append]; show 1 + _ ≤ _; omega)
  · go_wp2_with fail
    refine (pick_k rb 70000 6 _ (R4.mono (by omega)) (by decide)).mono ?_
    rintro e w5 ⟨⟨p, hp, rfl⟩, R5, B5⟩
    have B5 := B4.trans B5
    by_cases h0 : p = 0
    · subst h0
      go_wp2_with fail
      refine (pick_k rb 60000 75 _ (R5.mono (by omega)) (by decide)).mono ?_
      rintro e w6 ⟨⟨z, hz, rfl⟩, R6, B6⟩
      have B6 := B5.trans B6
      obtain ⟨m, rfl⟩ := Int.eq_ofNat_of_zero_le hz.1
      have hz2 := hz.2
      have MM := hd (sMany ⟨#[48]⟩ (1228 + m) rfl (by omega) w6)
      have e9 : ((1228 + m : Nat) : Int) = 1228 + (m : Int) := by omega
      rw [e9] at MM
      go_wp2_with fail
      refine MM.out.mono ?_
      rintro e w7 ⟨⟨t, rfl, ht⟩, rfl⟩
      go_wp2
      go_ret
      rw [← hrb]
      exact fin.out _ _ B6 (by rw [ByteArray.size_append]; show 1 + _ ≤ _; omega)
    · go_wp2
      go_ret
      rw [← hrb]
      exact fin.out _ _ B5 (by omega)
  · go_wp2
    go_ret
    rw [← hrb]
    exact fin.out _ _ B4 (by omega)
end Go.Proofs.YtfdikhiaphgkpaaDoor
