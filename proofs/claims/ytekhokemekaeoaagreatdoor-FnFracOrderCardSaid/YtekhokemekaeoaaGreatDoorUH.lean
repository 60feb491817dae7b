/- Draws of numbers as lists of digits off a code: some list each, in new memory; nothing that was there is written but the reader. -/
import Derived.Test.YtekhokemekaeoaaGreatDoorUC
import Derived.Test.YtekhokemekaeoaaGreatDoorBA
import Derived.Deep.DeepCutAuto
namespace Go.Proofs.YtekhokemekaeoaaGreatDoor
open Go.RowKit
set_option linter.unusedVariables false
set_option maxRecDepth 100000

theorem But.grown {rb : Nat} {w w' : World} (h : But rb w w') : w.grownBy w' (some rb) := ⟨h.os, h.tape, h.output, h.size, fun k hk hne => h.block k hk (fun e => hne (by rw [e]))⟩
theorem IGrows.but {w w' : World} {base rb : Nat} {v : Value} {xs : List Int} (h : IGrows w base v xs) (b : But rb w w') (hr : rb < base) : IGrows w' base v xs := h.kept b.grown (fun c e => by injection e with e; omega)
theorem But.owned {rb : Nat} {a b c : World} {base : Nat} {v : Value} {xs : List Int} (h : But rb a b) (G : IGrows b base v xs) (g : b.grownBy c v.ownBlock) (hb : a.heap.size ≤ base) : But rb a c :=
  ⟨g.os.trans h.os, g.tape.trans h.tape, g.output.trans h.output, Nat.le_trans h.size g.size, fun k hk hne => (g.block k (Nat.lt_of_lt_of_le hk h.size) (fun e => by have := (World.ownsRow.lt G k e.symm).1; omega)).trans (h.block k hk hne)⟩
theorem Rk.kept {w w' : World} {rb k : Nat} {row : Option Nat} (h : Rk w rb k) (g : w.grownBy w' row) (hne : ∀ b, row = some b → rb < b) : Rk w' rb k := by
  obtain ⟨p, hp, a, len, cap, h0, h1, h2, h3, h4, h5, h6⟩ := h
  have e := g.block rb h0 (fun e => by have := hne rb e.symm; omega)
  refine ⟨p, hp, a, len, cap, Nat.lt_of_lt_of_le h0 g.size, (World.cell?_of_block (w := w) (a := ⟨rb, 0, none⟩) e).trans h1, (World.cell?_of_block (w := w) (a := ⟨rb, 1, none⟩) e).trans h2, (World.frozen?_of_block (w := w) (a := ⟨rb, 1, none⟩) e).trans h3, h4, h5, ?_⟩
  rcases h6 with h6 | ⟨bb, off, q1, q2, q3, q4⟩
  · exact .inl h6
  · refine .inr ⟨bb, off, q1, q2, Nat.lt_of_lt_of_le q3 g.size, fun i hi => ?_⟩
    obtain ⟨z, z0, z1, hz⟩ := q4 i hi
    exact ⟨z, z0, z1, (World.cell?_of_block (w := w) (g.block bb q3 (fun e => by have := hne bb e.symm; omega))).trans hz⟩
theorem made_rkB (w : World) (a : Option Addr) (len len' cap : Nat) (h : IsCode w a len cap) (hl : len' ≤ len) (h2 : len' ≤ 2000) : Rk (w.alloc (.cells #[.slice a len' cap, .int .i64 0] 75)) w.heap.size 100000 := by
  obtain ⟨h1, _, h3⟩ := h
  refine ⟨0, by omega, a, len', cap, by simp, by simp, by simp, by simp, h2, by omega, ?_⟩
  rcases h3 with h3 | ⟨bb, off, q1, q2, q3⟩
  · exact .inl (by omega)
  · refine .inr ⟨bb, off, q1, q2, by simp; omega, fun i hi => ?_⟩
    obtain ⟨z, z0, z1, hz⟩ := q3 i (by omega)
    exact ⟨z, z0, z1, (World.cell?_alloc_lt _ _ _ q2).trans hz⟩
theorem open_kB (w : World) (a : Option Addr) (len cap : Nat) (h : IsCode w a len cap) :
    Calls Tryz.prog 28 #[.slice a len cap] w fun e w' => e = .returned (.pointer (some ⟨w.heap.size, 0, none⟩)) ∧ ∃ o, w' = w.alloc o ∧ Rk (w.alloc o) w.heap.size 100000 := by
  by_cases hl : len ≤ 2000
  · refine (open_few w a len cap (by omega)).mono ?_
    rintro e w' ⟨rfl, rfl⟩
    exact ⟨rfl, _, rfl, made_rkB w a len len cap h (Nat.le_refl _) hl⟩
  · have h' := h
    obtain ⟨h1, h2, h3⟩ := h'
    rcases h3 with h3 | ⟨bb, off, rfl, q2, q3⟩
    · omega
    · refine (open_many w bb off len cap (by omega) (by omega) h2).mono ?_
      rintro e w' ⟨rfl, rfl⟩
      exact ⟨rfl, _, rfl, made_rkB w _ len 2000 cap h (by omega) (by omega)⟩
set_option maxHeartbeats 4000000 in
theorem sNatOfG (n : Nat) (hn : n < 18446744073709551616) (w : World) :
    Calls Tryz.prog 80 #[.int .u64 (n : Int)] w fun e w' => (∃ v, e = .returned v ∧ IGrows w' w.heap.size v (natL n)) ∧ Below w.heap.size w w' := by
  obtain ⟨i0, hi, hz0, hz1, hz2⟩ := info_parts infoInt
  have hlen : (natL n).length ≤ 4 := natL_len.2 (by omega)
  go_enter Tryz.func80, Tryz.ntmps80
  go_wp2
  go_loopw [0, 3] (fun p o wr => ∃ (m : Nat) (xs : List Int), p = .int .u64 m ∧ m ≤ n ∧ natL n = xs ++ natL m ∧ IGrows wr w.heap.size o xs ∧ Below w.heap.size w wr) (fun p _ _ => (intOf p).toNat)
  case atStart => exact ⟨n, [], rfl, Nat.le_refl _, rfl, IGrows.nil _ _, Below.refl _ _⟩
  case round =>
    obtain ⟨m, xs, rfl, hm, he, G, hb⟩ := hrel
    by_cases h0 : m = 0
    · subst h0
      rw [natL_zero, List.append_nil] at he
      go_wp2
      go_ret
      rw [he]
      exact ⟨⟨_, rfl, G⟩, hb⟩
    · have he2 := he
      rw [snocN m h0, ← List.append_assoc] at he2
      have hxl : xs.length ≤ 3 := by
        have := congrArg List.length he2
        simp at this
        omega
      have G2 := G.alloc (.cells #[.int .i64 ((m : Int) % 65536)] 3)
      have B2 : Below w.heap.size w (wr.alloc (.cells #[.int .i64 ((m : Int) % 65536)] 3)) := old_alloc hb _
      have cw := cells_one wr wr.heap.size rfl (.int .i64 ((m : Int) % 65536)) 3
      have hsz := hb.size
      replace he := hd he
      replace he2 := hd he2
      go_wp2_with (at_builtin; refine wpList_append_own _ rfl _ _ 23 rfl w.heap.size 3 i0 _ 1 8 Tryz.underlying23 hi hz0 hz1 hz2 rfl (by decide) _ _ _ rfl G2 ⟨wr.heap.size, 0, none⟩ 1 1 [.int .i64 ((m : Int) % 65536)] rfl rfl cw (by simp [Value.oneCell']) (by unfold maxLen; omega) (by omega) (by simp; omega) ?_; intro v' w5 hown hgrow _)
      go_roundw
      case rel =>
        refine ⟨m / 65536, xs ++ [((m : Int) % 65536)], by go_num, by omega, he2.out, ?_, ?_⟩
        · unfold IGrows
          rw [ints_snoc, List.length_append]
          exact hown
        · exact B2.grown hgrow B2.size (fun c e => by have := (World.ownsRow.lt G2 c e).1; omega)
      case measure => simp [intOf]; omega
end Go.Proofs.YtekhokemekaeoaaGreatDoor
