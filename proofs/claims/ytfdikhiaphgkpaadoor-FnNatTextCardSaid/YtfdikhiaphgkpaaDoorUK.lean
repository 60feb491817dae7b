/- Two draws of digits, of which the second may be made of the first: two lists each, in new memory. -/
import Derived.Test.YtfdikhiaphgkpaaDoorBN
import Derived.Test.YtfdikhiaphgkpaaDoorBB
namespace Go.Proofs.YtfdikhiaphgkpaaDoor
open Go.RowKit
set_option linter.unusedVariables false
set_option maxRecDepth 100000

set_option maxHeartbeats 2000000 in
theorem sTrimAny (a : Option Addr) (len cap : Nat) (xs : List Int) (w : World) (hR : InI w a len cap xs) (hl : len ≤ 4194304) :
    Calls Tryd.prog 22 #[.slice a len cap] w fun e w' => (∃ v qs, e = .returned v ∧ IGrows w' w.heap.size v qs ∧ Hid (IFits qs ∧ qs.length ≤ xs.length)) ∧ Below w.heap.size w w' := by
  obtain ⟨i0, hi, hz0, hz1, hz2⟩ := info_parts infoInt
  have hlen := hR.len
  have hp := hR.1
  go_enter Tryd.func22, Tryd.ntmps22
  go_wp2
  go_loopw [3] (fun n wr => ∃ k : Nat, k ≤ len ∧ n = .int .i64 k ∧ (∀ i, k ≤ i → i < len → xs.getD i 0 = 0) ∧ wr = w) (fun n _ => (intOf n).toNat)
  case atStart => exact ⟨len, by omega, rfl, fun i h1 h2 => by omega, rfl⟩
  case round =>
    obtain ⟨k, hk, rfl, hz, hw⟩ := hrel
    obtain rfl : w = wr := hw.symm
    clear hw
    by_cases hgo : 0 < k ∧ xs.getD (k - 1) 0 = 0
    · obtain ⟨b, off, x, rfl, hbl, hx, -, c0⟩ := hR.at (k := k - 1) (by omega)
      have ek : ((k : Int) - 1) = ((k - 1 : Nat) : Int) := by omega
      obtain rfl : x = 0 := by rw [← hx]; exact hgo.2
      have hpos := hgo.1
      clear hgo
      go_wp2
      go_roundw
      case rel =>
        refine ⟨k - 1, by omega, by go_num, fun i h1 h2 => ?_, trivial⟩
        by_cases e : i = k - 1
        · subst e; exact hx
        · exact hz i (by omega) h2
      case measure => simp [intOf]; omega
    · obtain ⟨qs, ht⟩ : ∃ qs, xs.take k = qs := ⟨_, rfl⟩
      have hkl : qs.length = k := by rw [← ht, List.length_take]; omega
      have hkl' := hd hkl
      have ht' := hd ht
      clear ht hkl hz
      have hcase : k = 0 ∨ (0 < k ∧ ∃ x, x ≠ 0 ∧ xs.getD (k - 1) 0 = x) := by
        by_cases h0 : k = 0
        · exact .inl h0
        · exact .inr ⟨by omega, _, fun e => hgo ⟨by omega, e⟩, rfl⟩
      clear hgo
      rcases hcase with rfl | ⟨h0, x, hx0, hx⟩
      · go_wp2
        go_loopw [4, 5] (fun o i wr => o = .slice none 0 0 ∧ i = .int .i64 0 ∧ wr = w) (fun _ _ _ => 0)
        case atStart => exact ⟨rfl, rfl, rfl⟩
        case round =>
          obtain ⟨rfl, rfl, rfl⟩ := hrel
          go_wp2
          go_ret
          have : qs = [] := List.length_eq_zero_iff.1 hkl'.out
          subst this
          exact ⟨⟨_, _, rfl, IGrows.nil _ _, fits_nil, Nat.zero_le _⟩, Below.refl _ _⟩
      · obtain ⟨b, off, x', rfl, hbl, hx2, -, c0⟩ := hR.at (k := k - 1) (by omega)
        obtain rfl : x' = x := by rw [← hx, ← hx2]
        have ek : ((k : Int) - 1) = ((k - 1 : Nat) : Int) := by omega
        have hxb : (x' == 0) = false := by simpa using hx0
        go_wp2
        go_loopw [4, 5] (fun o i wr => ∃ (j : Nat), j ≤ k ∧ i = .int .i64 j ∧ IGrows wr w.heap.size o (xs.take j) ∧ Below w.heap.size w wr) (fun _ i _ => k - (intOf i).toNat)
        case atStart => exact ⟨0, by omega, rfl, IGrows.nil _ _, Below.refl _ _⟩
        case round =>
          obtain ⟨j, hj, rfl, G, hb⟩ := hrel
          clear ek c0 hxb hx0 hx hx2
          by_cases hlt : j < k
          · obtain ⟨b', off', y, he, -, hy, -, c0⟩ := (hR.old hb).at (k := j) (by omega)
            obtain ⟨rfl, rfl⟩ : b = b' ∧ off = off' := by injection he with he; injection he with h1 h2; exact ⟨h1, h2⟩
            clear he
            have hjl : (xs.take j).length = j := by rw [List.length_take]; omega
            have hsn := hd (take_snoc (xs := xs) (k := j) (by omega))
            rw [hy] at hsn
            have G2 := G.alloc (.cells #[.int .i64 y] 3)
            have B2 : Below w.heap.size w (wr.alloc (.cells #[.int .i64 y] 3)) := old_alloc hb _
            have cw := cells_one wr wr.heap.size rfl (.int .i64 y) 3
            have hsz := hb.size
            go_wp2_with (at_builtin; refine wpList_append_own _ rfl _ _ 23 rfl w.heap.size 3 i0 _ 1 8 Tryd.underlying23 hi hz0 hz1 hz2 rfl (by decide) _ _ _ rfl G2 ⟨wr.heap.size, 0, none⟩ 1 1 [.int .i64 y] rfl rfl cw (by simp [Value.oneCell']) (by rw [hjl]; unfold maxLen; omega) (by rw [hjl]; omega) (by simp; omega) ?_; intro v' w5 hown hgrow _)
            go_roundw
            case rel =>
              refine ⟨j + 1, by omega, by go_num, ?_, ?_⟩
              · rw [hsn.out]
                unfold IGrows
                rw [ints_snoc, List.length_append]
                exact hown
              · exact B2.grown hgrow B2.size (fun c e => by have := (World.ownsRow.lt G2 c e).1; omega)
            case measure => simp [intOf]; omega
          · obtain rfl : j = k := by omega
            rw [ht'.out] at G
            have hf : IFits qs := by rw [← ht'.out]; exact fun x hx => hR.2.2.2.1 x (List.mem_of_mem_take hx)
            have hq : Hid (IFits qs ∧ qs.length ≤ xs.length) := ⟨hf, by have := hkl'.out; omega⟩
            go_wp2
            go_ret
            exact ⟨⟨_, _, rfl, G, hq⟩, hb⟩
theorem IGrows.oiS {w : World} {base : Nat} {v : Value} {xs : List Int} (h : IGrows w base v xs) (f : IFits xs) : ∃ av cv, v = .slice av xs.length cv ∧ OI w base av cv xs := h.oi f
theorem grown_refl' (w : World) (r : Option Nat) : w.grownBy w r := ⟨rfl, rfl, rfl, Nat.le_refl _, fun _ _ _ => rfl⟩
theorem setCell_size' (w : World) (a : Addr) (v : Value) : (w.setCell a v).heap.size = w.heap.size := by simp [World.setCell]
/-- two lists in new memory -/
def Two2 (w : World) (base : Nat) (e : Ending) : Prop := ∃ av cv xs av' cv' ys, e = .returned (.tuple #[.slice av (List.length xs) cv, .slice av' (List.length ys) cv']) ∧ OI w base av cv xs ∧ OI w base av' cv' ys ∧ List.length xs ≤ 257 ∧ List.length ys ≤ 257
end Go.Proofs.YtfdikhiaphgkpaaDoor
