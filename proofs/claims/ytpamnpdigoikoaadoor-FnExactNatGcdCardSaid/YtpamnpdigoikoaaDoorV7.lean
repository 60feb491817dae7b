/- A multiple of a number is added to digits in place, the last of which may fall below 0. Conditions: digits; the two lists apart. -/
import Derived.Test.YtpamnpdigoikoaaDoorN9
namespace Go.Proofs.YtpamnpdigoikoaaDoor
open Go.RowKit
set_option linter.unusedVariables false
set_option maxRecDepth 100000

/-- the number that n digits and a last one, which may be below 0, are -/
def sval (n : Nat) (rs : List Int) : Int := ((val (rs.take n) : Nat) : Int) + (65536 : Int) ^ n * rs.getD n 0
theorem take_getD {rs : List Int} {n k : Nat} (h : k < n) : (rs.take n).getD k 0 = rs.getD k 0 := by simp [List.getD_eq_getElem?_getD, h]
theorem digs_take {rs : List Int} {n : Nat} (h : digs rs) : digs (rs.take n) := (digs_append.1 (by rw [List.take_append_drop]; exact h)).1
structure AddI (n k : Nat) (rs xs qs : List Int) (t c : Int) : Prop where
  sz : qs.length = n + 1
  mix : MixG k (rs.take n) xs (qs.take k) 1 t c
  same : ∀ i, k ≤ i → i ≤ n → qs.getD i 0 = rs.getD i 0
theorem AddI.zero {n : Nat} {rs xs : List Int} {t : Int} (h : rs.length = n + 1) : AddI n 0 rs xs rs t 0 := ⟨h, MixG.zero _ _ _ _, fun _ _ _ => rfl⟩
theorem AddI.step {n k : Nat} {rs xs qs : List Int} {t c : Int} (h : AddI n k rs xs qs t c) (hr : digs (rs.take n)) (hx : digs xs) (hk : k < n) (s : Int) (hs : s = c + (rs.getD k 0 + xs.getD k 0 * t)) : AddI n (k + 1) rs xs (qs.set k (s % 65536)) t (s / 65536) := by
  refine ⟨by simpa using h.sz, ?_, fun i h1 h2 => ?_⟩
  · have hm := h.mix.step hr hx (c + (rs.take n).getD k 0 * 1 + xs.getD k 0 * t) (s % 65536) (s / 65536) rfl (by unfold dig; omega) (by rw [take_getD hk]; omega)
    have e : (qs.set k (s % 65536)).take (k + 1) = qs.take k ++ [s % 65536] := by
      rw [take_snoc (by rw [List.length_set, h.sz]; omega), take_set_same, getD_set _ _ _ (by rw [h.sz]; omega)]
    rw [e]; exact hm
  · have : (qs.set k (s % 65536)).getD i 0 = qs.getD i 0 := by simp [List.getD_eq_getElem?_getD, show k ≠ i by omega]
    rw [this]
    exact h.same i (by omega) h2
theorem AddI.all {n : Nat} {rs xs qs : List Int} {t c : Int} (h : AddI n n rs xs qs t c) (hx : xs.length = n) (hl : rs.length = n + 1) : sval n (qs.set n (rs.getD n 0 + c)) = sval n rs + t * (val xs : Nat) ∧ digs ((qs.set n (rs.getD n 0 + c)).take n) := by
  have ha := h.mix.all (by rw [List.length_take]; omega) (by omega)
  unfold sval
  rw [take_set_same, getD_set _ _ _ (by rw [h.sz]; omega)]
  refine ⟨?_, h.mix.2.1⟩
  generalize (65536 : Int) ^ n = P at *
  rw [Int.mul_add]
  have : ((val xs : Nat) : Int) * t = t * (val xs : Nat) := Int.mul_comm _ _
  omega
theorem mul_bd2 {x t : Int} (h : dig x) (h1 : -65535 ≤ t) (h2 : t ≤ 65535) : -4294836225 ≤ x * t ∧ x * t ≤ 4294836225 := by
  have := mul_bd (F := 65535) h h1 h2
  omega
set_option maxRecDepth 100000 in
set_option maxHeartbeats 2000000 in
theorem iAddTo (a : Option Addr) (n ca g cr : Nat) (xs rs : List Int) (t : Int) (w : World) (hA : InI w a n ca xs) (hr : IRow w g rs) (hl : rs.length = n + 1) (hx : digs xs) (hd0 : digs (rs.take n)) (hsep : 0 < n → ∀ q, a = some q → q.block ≠ g) (ht : -65535 ≤ t ∧ t ≤ 65535) (htop : -1099511627776 ≤ rs.getD n 0 ∧ rs.getD n 0 ≤ 1099511627776) (hn : n ≤ 1048576) (hcr : n + 1 ≤ cr) :
    Calls Tryd.prog 107 #[.slice a n ca, .slice (some ⟨g, 0, none⟩) (n + 1) cr, .int .i64 t] w fun e w' => (∃ v, e = .returned v) ∧ (∃ qs, qs.length = n + 1 ∧ digs (qs.take n) ∧ sval n qs = sval n rs + t * (val xs : Nat) ∧ IRow w' g qs) ∧ w.grownBy w' (some g) := by
  have pa := hA.1
  have hend := hd (fun qs c h => AddI.all (n := n) (rs := rs) (xs := xs) (qs := qs) (t := t) (c := c) h pa hl)
  generalize hR : rs.getD n 0 = top at *
  go_enter Tryd.func107, Tryd.ntmps107
  go_wp2
  go_loopw [6, 11] (fun c i wr => ∃ (k : Nat) (qs : List Int) (cv : Int), k ≤ n ∧ c = .int .i64 cv ∧ i = .int .i64 k ∧ AddI n k rs xs qs t cv ∧ (-131072 ≤ cv ∧ cv ≤ 131072) ∧ IRow wr g qs ∧ w.grownBy wr (some g)) (fun _ i _ => n - (intOf i).toNat)
  case atStart => exact ⟨0, rs, 0, by omega, rfl, rfl, AddI.zero hl, by omega, hr, World.grownBy.refl _ _⟩
  case round =>
    obtain ⟨k, qs, c, hk, rfl, rfl, hI, hc, hrw, hg⟩ := hrel
    by_cases hlt : k < n
    · have hAk := hA.kept hg (fun h q e => by intro e2; injection e2 with e3; exact hsep h q e e3)
      obtain ⟨ba, oa, x, rfl, -, ex, -, cx⟩ := hAk.at hlt
      have dx := digs_getD hx k
      rw [ex] at dx
      have m1 := mul_bd2 dx ht.1 ht.2
      obtain ⟨z, ez, d0, d2⟩ := hrw.at (k := k) (by rw [hI.sz]; omega)
      have ez2 : rs.getD k 0 = z := by rw [← hI.same k (Nat.le_refl _) (by omega)]; exact ez
      have dz := digs_getD hd0 k
      rw [take_getD hlt, ez2] at dz
      have hst := hd (hI.step hd0 hx hlt (c + (z + x * t)) (by rw [ez2, ex]))
      unfold dig at dx dz
      generalize hxt : x * t = xt at *
      have cb2 : Hid (-131072 ≤ (c + (z + xt)) / 65536 ∧ (c + (z + xt)) / 65536 ≤ 131072) := by show _ ∧ _; omega
      have hset := hrw.set k (by rw [hI.sz]; omega) ((c + (z + xt)) % 65536)
      have hmask := i64_mask (c + (z + xt))
      have hfd : (c + (z + xt)).fdiv 65536 = (c + (z + xt)) / 65536 := Int.fdiv_eq_ediv_of_nonneg _ (by omega)
      clear hI hrw hend hAk
      go_wp2
      go_roundw
      case rel => exact ⟨k + 1, _, _, by omega, rfl, by go_num, hst.out, cb2.out, hset, grown_set hg _ _⟩
      case measure => simp [intOf]; omega
    · obtain rfl : k = n := by omega
      obtain ⟨z, ez, d0, d2⟩ := hrw.at (k := k) (by rw [hI.sz]; omega)
      have ez2 : z = top := by rw [← ez, hI.same k (Nat.le_refl _) (Nat.le_refl _)]; exact hR
      subst ez2
      obtain ⟨q1, q2⟩ := hend.out _ _ hI
      have hset := hrw.set k (by rw [hI.sz]; omega) (z + c)
      have hsz : (qs.set k (z + c)).length = k + 1 := by rw [List.length_set]; exact hI.sz
      clear hI hrw hend
      go_wp2
      go_end0
      exact ⟨⟨_, rfl⟩, ⟨_, hsz, q2, q1, hset⟩, grown_set hg _ _⟩
end Go.Proofs.YtpamnpdigoikoaaDoor
