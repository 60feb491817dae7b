/- The specification's digit at a place, and its noughts taken off: a new list. Conditions: 2^20 numbers at most. -/
import Derived.Test.YtpamnpdigoikoaaDoorN5
namespace Go.Proofs.YtpamnpdigoikoaaDoor
open Go.RowKit
set_option linter.unusedVariables false
set_option maxRecDepth 100000

set_option maxHeartbeats 1000000 in
theorem sAt (a : Option Addr) (len cap : Nat) (xs : List Int) (k : Nat) (w : World) (hR : InI w a len cap xs) :
    Calls Tryd.prog 103 #[.slice a len cap, .int .i64 (k : Int)] w fun e w' => e = .returned (.int .i64 (xs.getD k 0)) ∧ w' = w := by
  have hlen := hR.len
  have hp := hR.1
  by_cases hk : k < len
  · obtain ⟨b, off, x, rfl, hbl, hx, -, c0⟩ := hR.at hk
    rw [hx]
    go_enter Tryd.func103, Tryd.ntmps103
    go_wp2
    go_ret
    exact ⟨rfl, rfl⟩
  · have hx : xs.getD k 0 = 0 := by rw [List.getD_eq_getElem?_getD, List.getElem?_eq_none (by omega)]; rfl
    rw [hx]
    go_enter Tryd.func103, Tryd.ntmps103
    go_wp2
    go_ret
    exact ⟨rfl, rfl⟩
theorem take_snoc {xs : List Int} {k : Nat} (h : k < xs.length) : xs.take (k + 1) = xs.take k ++ [xs.getD k 0] := by
  rw [List.take_succ_eq_append_getElem h, List.getD_eq_getElem?_getD, List.getElem?_eq_getElem h]; rfl
set_option maxHeartbeats 2000000 in
theorem sTrim (a : Option Addr) (len cap : Nat) (xs : List Int) (w : World) (hR : InI w a len cap xs) (hdg : digs xs) (hl : len ≤ 4194304) :
    Calls Tryd.prog 65 #[.slice a len cap] w fun e w' => (∃ av cv, e = .returned (.slice av (natL (val xs)).length cv) ∧ OI w' w.heap.size av cv (natL (val xs))) ∧ Below w.heap.size w w' := by
  obtain ⟨i0, hi, hz0, hz1, hz2⟩ := info_parts infoInt
  have hlen := hR.len
  have hp := hR.1
  have htr := hd (fun k h1 h2 h3 => trim_natL (xs := xs) (n := k) hdg h1 h2 h3)
  generalize natL (val xs) = qs at *
  go_enter Tryd.func65, Tryd.ntmps65
  go_wp2
  go_loopw [3] (fun n wr => ∃ k : Nat, k ≤ len ∧ n = .int .i64 k ∧ (∀ i, k ≤ i → i < len → xs.getD i 0 = 0) ∧ wr = w) (fun n _ => (intOf n).toNat)
  case atStart => exact ⟨len, by omega, rfl, fun i h1 h2 => by omega, rfl⟩
  case round =>
    obtain ⟨k, hk, rfl, hz, hw⟩ := hrel
    obtain rfl : w = wr := hw.symm
    clear hw
    by_cases hgo : 0 < k ∧ xs.getD (k - 1) 0 = 0
    · obtain ⟨b, off, x, rfl, hbl, hx, -, c0⟩ := hR.at (k := k - 1) (by omega)
      have ek : ((k : Int) - 1) = ((k - 1 : Nat) : Int) := by omega
      obtain rfl : x = 0 := by rw [← hx]; exact hgo.2
      have hpos := hgo.1
      clear hgo
      go_wp2
      go_roundw
      case rel =>
        refine ⟨k - 1, by omega, by go_num, fun i h1 h2 => ?_, trivial⟩
        by_cases e : i = k - 1
        · subst e; exact hx
        · exact hz i (by omega) h2
      case measure => simp [intOf]; omega
    · have ht : xs.take k = qs := by
        refine htr.out k (by omega) (fun i h1 h2 => hz i h1 (by omega)) ?_
        by_cases h0 : k = 0
        · exact .inl h0
        · exact .inr (fun e => hgo ⟨by omega, e⟩)
      have hkl : qs.length = k := by rw [← ht, List.length_take]; omega
      have hkl' := hd hkl
      have ht' := hd ht
      clear ht hkl hz
      have hcase : k = 0 ∨ (0 < k ∧ ∃ x, x ≠ 0 ∧ xs.getD (k - 1) 0 = x) := by
        by_cases h0 : k = 0
        · exact .inl h0
        · exact .inr ⟨by omega, _, fun e => hgo ⟨by omega, e⟩, rfl⟩
      clear hgo
      rcases hcase with rfl | ⟨h0, x, hx0, hx⟩
      · go_wp2
        go_loopw [4, 5] (fun o i wr => o = .slice none 0 0 ∧ i = .int .i64 0 ∧ wr = w) (fun _ _ _ => 0)
        case atStart => exact ⟨rfl, rfl, rfl⟩
        case round =>
          obtain ⟨rfl, rfl, rfl⟩ := hrel
          go_wp2
          go_ret
          have : qs = [] := List.length_eq_zero_iff.1 hkl'.out
          subst this
          exact ⟨⟨none, 0, rfl, OI.none _ _⟩, Below.refl _ _⟩
      · obtain ⟨b, off, x', rfl, hbl, hx2, -, c0⟩ := hR.at (k := k - 1) (by omega)
        obtain rfl : x' = x := by rw [← hx, ← hx2]
        have ek : ((k : Int) - 1) = ((k - 1 : Nat) : Int) := by omega
        have hxb : (x' == 0) = false := by simpa using hx0
        go_wp2
        go_loopw [4, 5] (fun o i wr => ∃ (j : Nat), j ≤ k ∧ i = .int .i64 j ∧ IGrows wr w.heap.size o (xs.take j) ∧ Below w.heap.size w wr) (fun _ i _ => k - (intOf i).toNat)
        case atStart => exact ⟨0, by omega, rfl, IGrows.nil _ _, Below.refl _ _⟩
        case round =>
          obtain ⟨j, hj, rfl, G, hb⟩ := hrel
          clear ek c0 hxb hx0 hx hx2
          by_cases hlt : j < k
          · obtain ⟨b', off', y, he, -, hy, -, c0⟩ := (hR.old hb).at (k := j) (by omega)
            obtain ⟨rfl, rfl⟩ : b = b' ∧ off = off' := by injection he with he; injection he with h1 h2; exact ⟨h1, h2⟩
            clear he
            have hjl : (xs.take j).length = j := by rw [List.length_take]; omega
            have hsn := hd (take_snoc (xs := xs) (k := j) (by omega))
            rw [hy] at hsn
            have G2 := G.alloc (.cells #[.int .i64 y] 3)
            have B2 : Below w.heap.size w (wr.alloc (.cells #[.int .i64 y] 3)) := old_alloc hb _
            have cw := cells_one wr wr.heap.size rfl (.int .i64 y) 3
            have hsz := hb.size
            go_wp2_with (at_builtin; refine wpList_append_own _ rfl _ _ 23 rfl w.heap.size 3 i0 _ 1 8 Tryd.underlying23 hi hz0 hz1 hz2 rfl (by decide) _ _ _ rfl G2 ⟨wr.heap.size, 0, none⟩ 1 1 [.int .i64 y] rfl rfl cw (by simp [Value.oneCell']) (by rw [hjl]; unfold maxLen; omega) (by rw [hjl]; omega) (by simp; omega) ?_; intro v' w5 hown hgrow _)
            go_roundw
            case rel =>
              refine ⟨j + 1, by omega, by go_num, ?_, ?_⟩
              · rw [hsn.out]
                unfold IGrows
                rw [ints_snoc, List.length_append]
                exact hown
              · exact B2.grown hgrow B2.size (fun c e => by have := (World.ownsRow.lt G2 c e).1; omega)
            case measure => simp [intOf]; omega
          · obtain rfl : j = k := by omega
            rw [ht'.out] at G
            have hf : IFits qs := by rw [← ht'.out]; exact fun x hx => hR.2.2.2.1 x (List.mem_of_mem_take hx)
            obtain ⟨av, cv, rfl, ho⟩ := G.oi hf
            go_wp2
            go_ret
            exact ⟨⟨_, _, rfl, ho⟩, hb⟩
end Go.Proofs.YtpamnpdigoikoaaDoor
