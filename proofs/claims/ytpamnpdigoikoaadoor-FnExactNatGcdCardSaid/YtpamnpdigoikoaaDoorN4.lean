/- The digits of a number of 64 bits, by the specification and by the program: new lists with the same digits. No condition. -/
import Derived.Test.YtpamnpdigoikoaaDoorN3
namespace Go.Proofs.YtpamnpdigoikoaaDoor
open Go.RowKit
set_option linter.unusedVariables false
set_option maxRecDepth 100000

theorem snocN (m : Nat) (hm : m ≠ 0) : natL m = [(m : Int) % 65536] ++ natL (m / 65536) := by rw [natL_pos hm]; simp
set_option maxHeartbeats 4000000 in
theorem sNatOf (n : Nat) (hn : n < 18446744073709551616) (w : World) :
    Calls Tryd.prog 69 #[.int .u64 (n : Int)] w fun e w' => (∃ av cv, e = .returned (.slice av (natL n).length cv) ∧ OI w' w.heap.size av cv (natL n)) ∧ Below w.heap.size w w' := by
  obtain ⟨i0, hi, hz0, hz1, hz2⟩ := info_parts infoInt
  have hlen : (natL n).length ≤ 4 := natL_len.2 (by omega)
  go_enter Tryd.func69, Tryd.ntmps69
  go_wp2
  go_loopw [0, 3] (fun p o wr => ∃ (m : Nat) (xs : List Int), p = .int .u64 m ∧ m ≤ n ∧ natL n = xs ++ natL m ∧ IGrows wr w.heap.size o xs ∧ Below w.heap.size w wr) (fun p _ _ => (intOf p).toNat)
  case atStart => exact ⟨n, [], rfl, Nat.le_refl _, rfl, IGrows.nil _ _, Below.refl _ _⟩
  case round =>
    obtain ⟨m, xs, rfl, hm, he, G, hb⟩ := hrel
    by_cases h0 : m = 0
    · subst h0
      rw [natL_zero, List.append_nil] at he
      obtain ⟨av, cv, rfl, ho⟩ := G.oi (by rw [← he]; exact natL_fits n)
      go_wp2
      go_ret
      rw [he]
      exact ⟨⟨_, _, rfl, ho⟩, hb⟩
    · have he2 := he
      rw [snocN m h0, ← List.append_assoc] at he2
      have hxl : xs.length ≤ 3 := by
        have := congrArg List.length he2
        simp at this
        omega
      have G2 := G.alloc (.cells #[.int .i64 ((m : Int) % 65536)] 3)
      have B2 : Below w.heap.size w (wr.alloc (.cells #[.int .i64 ((m : Int) % 65536)] 3)) := old_alloc hb _
      have cw := cells_one wr wr.heap.size rfl (.int .i64 ((m : Int) % 65536)) 3
      have hsz := hb.size
      replace he := hd he
      replace he2 := hd he2
      go_wp2_with (at_builtin; refine wpList_append_own _ rfl _ _ 23 rfl w.heap.size 3 i0 _ 1 8 Tryd.underlying23 hi hz0 hz1 hz2 rfl (by decide) _ _ _ rfl G2 ⟨wr.heap.size, 0, none⟩ 1 1 [.int .i64 ((m : Int) % 65536)] rfl rfl cw (by simp [Value.oneCell']) (by unfold maxLen; omega) (by omega) (by simp; omega) ?_; intro v' w5 hown hgrow _)
      go_roundw
      case rel =>
        refine ⟨m / 65536, xs ++ [((m : Int) % 65536)], by go_num, by omega, he2.out, ?_, ?_⟩
        · unfold IGrows
          rw [ints_snoc, List.length_append]
          exact hown
        · exact B2.grown hgrow B2.size (fun c e => by have := (World.ownsRow.lt G2 c e).1; omega)
      case measure => simp [intOf]; omega
end Go.Proofs.YtpamnpdigoikoaaDoor
