/- Numbers of one word, by the program's functions of naturals: what they answer with. Conditions: the numbers are below 2 to the 64th. -/
import Derived.Test.YtknhkgbmimjibaaUC
import Derived.Test.YtknhkgbmimjibaaBA
import Derived.Test.YtknhkgbmimjibaaBC
import Derived.Test.YtknhkgbmimjibaaNJ
import Derived.Test.YtknhkgbmimjibaaBG
import Derived.Test.YtknhkgbmimjibaaBB
import Derived.ShutString
import Derived.ChangeOld
namespace Go.Proofs.Ytknhkgbmimjibaa
open Go.ChangeShapes Go.WideShapes Go.ChangeAt Go.RowKit
set_option linter.unusedVariables false

section
variable {H : Type} {enc : TypeId × Value → H} {w : World} {base : Nat}
theorem open_bytes {r : Reach} {b0 : Nat} {v : Value} {d : DataW H} {p : List MemPlace} (hv : Value.okWide Try.prog w r b0 22 v) (h : DataW.Trod enc Try.prog w base (fun _ => true) true 22 v d p) :
    ∃ (a : Option Addr) (len cap : Nat), v = .slice a len cap ∧ IsCode w a len cap := by
  obtain ⟨a, len, cap, rfl⟩ := okWide_slice Try.underlying22 hv
  refine ⟨a, len, cap, rfl, ?_⟩
  obtain ⟨fuel, hf⟩ := h
  rcases open_ints Try.underlying22 Try.underlying5 (by kernel_rfl) hf with ⟨hcs, _⟩ | ⟨x, l, c, zs, hcs, _, hl, hm, hz, _, hcell, hwz⟩
  · simp [Value.cells] at hcs
    obtain ⟨rfl, rfl, rfl⟩ := hcs
    exact ⟨by omega, by omega, .inl rfl⟩
  · simp [Value.cells] at hcs
    obtain ⟨rfl, rfl, rfl⟩ := hcs
    have hm' := hm
    unfold maxLen at hm'
    have hzl : zs.length = cap := by simpa using hz
    refine ⟨hl, by omega, ?_⟩
    by_cases h0 : len = 0
    · exact .inl h0
    obtain ⟨b, off, spot⟩ := x
    have hc := hcell 0 (by omega)
    have hspot : spot = none := by simpa [Addr.add] using World.cell?_spot hc
    subst hspot
    have hb := World.block_lt_of_cell? w _ hc
    refine .inr ⟨b, off, rfl, by simpa [Addr.add] using hb, fun i hi => ?_⟩
    have hci := hcell i (by omega)
    have hw : (Lit.int .u8 (zs.getD i 0)).wf = true := by
      apply hwz
      rw [List.getD_eq_getElem?_getD, List.getElem?_eq_getElem (by omega)]
      exact List.getElem_mem _
    obtain ⟨z0, z1⟩ := bounds_u8 hw
    have e : (⟨b, off, none⟩ : Addr).add i = ⟨b, off + i, none⟩ := by
      by_cases h : i = 0
      · subst h; simp [Addr.add]
      · simp [Addr.add, h]
    rw [e] at hci
    exact ⟨_, z0, z1, hci⟩
end
theorem ok_natL {x : Nat} (h : x < 36893488147419103232) : natOk (natL x) = true := natOk_mk (Nat.le_trans (natL_len.2 (show x < 65536 ^ 5 by omega)) (by omega)) (digs_natL x) (topped_natL x)
theorem small_natL {x : Nat} (h : x < 36893488147419103232) : smallB (natL x) = decide (x < 18446744073709551616) ∧ smallV (natL x) = if x < 18446744073709551616 then x else 0 := by
  have e : smallB (natL x) = decide (x < 18446744073709551616) := by
    unfold smallB
    rw [ok_natL h, Bool.true_and]
    exact decide_eq_decide.2 (natL_len (n := 4))
  refine ⟨e, ?_⟩
  unfold smallV
  rw [e, val_natL]
  by_cases c : x < 18446744073709551616
  · rw [if_pos c, decide_eq_true c]; rfl
  · rw [if_neg c, decide_eq_false c]; rfl
theorem nSmall (a : Option Addr) (cap x : Nat) (w : World) (hR : InI w a (natL x).length cap (natL x)) (h : x < 18446744073709551616) :
    Calls Try.prog 14 #[.slice a (natL x).length cap] w fun e w' => e = .returned (.tuple #[.int .u64 (x : Int), .bool true]) ∧ Below w.heap.size w w' := by
  have := iNatSmall a _ cap _ w hR
  rw [(small_natL (by omega)).1, (small_natL (by omega)).2, if_pos h, decide_eq_true h] at this
  exact this
theorem nSmallNo (a : Option Addr) (cap x : Nat) (w : World) (hR : InI w a (natL x).length cap (natL x)) (h : ¬ x < 18446744073709551616) (h2 : x < 36893488147419103232) :
    Calls Try.prog 14 #[.slice a (natL x).length cap] w fun e w' => e = .returned (.tuple #[.int .u64 0, .bool false]) ∧ Below w.heap.size w w' := by
  have := iNatSmall a _ cap _ w hR
  rw [(small_natL h2).1, (small_natL h2).2, if_neg h, decide_eq_false h] at this
  exact this
theorem nOk (a : Option Addr) (cap x : Nat) (w : World) (hR : InI w a (natL x).length cap (natL x)) (h : x < 18446744073709551616) :
    Calls Try.prog 15 #[.slice a (natL x).length cap] w fun e w' => e = .returned (.bool true) ∧ w' = w := by
  have := iNatOk a _ cap _ w hR
  rw [ok_natL (by omega)] at this
  exact this
theorem nCmp (a b : Option Addr) (ca cb x y : Nat) (w : World) (hA : InI w a (natL x).length ca (natL x)) (hB : InI w b (natL y).length cb (natL y)) (hx : x < 18446744073709551616) (hy : y < 18446744073709551616) :
    Calls Try.prog 16 #[.slice a (natL x).length ca, .slice b (natL y).length cb] w fun e w' => e = .returned (.int .i64 (cmpI x y)) ∧ Below w.heap.size w w' := by
  have := iNatCmp a b _ _ ca cb _ _ w hA hB
  unfold ncmp at this
  rw [ok_natL (by omega), ok_natL (by omega), val_natL, val_natL] at this
  exact this
theorem nSub (a b : Option Addr) (ca cb x y : Nat) (w : World) (hA : InI w a (natL x).length ca (natL x)) (hB : InI w b (natL y).length cb (natL y)) (hx : x < 18446744073709551616) (hy : y ≤ x) :
    Calls Try.prog 17 #[.slice a (natL x).length ca, .slice b (natL y).length cb] w fun e w' => (∃ av cv, e = .returned (.tuple #[.slice av (natL (x - y)).length cv, .bool true]) ∧ OI w' w.heap.size av cv (natL (x - y))) ∧ Below w.heap.size w w' := by
  have := iNatSub a b _ _ ca cb _ _ w hA hB
  have e : subB (natL x) (natL y) = true := by
    unfold subB
    rw [ok_natL (by omega), ok_natL (by omega), val_natL, val_natL, decide_eq_true hy]; rfl
  rw [e, val_natL, val_natL] at this
  exact this
theorem nAdd (a b : Option Addr) (ca cb x y : Nat) (w : World) (hA : InI w a (natL x).length ca (natL x)) (hB : InI w b (natL y).length cb (natL y)) (hx : x < 18446744073709551616) (hy : y < 18446744073709551616) :
    Calls Try.prog 19 #[.slice a (natL x).length ca, .slice b (natL y).length cb] w fun e w' => (∃ av cv, e = .returned (.tuple #[.slice av (natL (x + y)).length cv, .bool true]) ∧ OI w' w.heap.size av cv (natL (x + y))) ∧ Below w.heap.size w w' := by
  have := iNatAdd a b _ _ ca cb _ _ w hA hB
  have e : addB (natL x) (natL y) = true := by
    unfold addB fitsB
    rw [ok_natL (by omega), ok_natL (by omega), val_natL, val_natL, decide_eq_true (Nat.le_trans (natL_len.2 (show x + y < 65536 ^ 5 by omega)) (by omega))]; rfl
  rw [e, val_natL, val_natL] at this
  exact this
theorem nDiv (a b : Option Addr) (ca cb x y : Nat) (w : World) (hA : InI w a (natL x).length ca (natL x)) (hB : InI w b (natL y).length cb (natL y)) (hx : x < 18446744073709551616) (hy : y < 18446744073709551616) (h0 : 0 < y) :
    Calls Try.prog 18 #[.slice a (natL x).length ca, .slice b (natL y).length cb] w fun e w' => (∃ av cv av2 cv2, e = .returned (.tuple #[.slice av (natL (x / y)).length cv, .slice av2 (natL (x % y)).length cv2, .bool true]) ∧ OI w' w.heap.size av cv (natL (x / y)) ∧ OI w' w.heap.size av2 cv2 (natL (x % y))) ∧ Below w.heap.size w w' := by
  have := iNatDiv a b _ _ ca cb _ _ w hA hB
  have e : divB (natL x) (natL y) = true := by
    unfold divB
    rw [ok_natL (by omega), ok_natL (by omega), decide_eq_true (Nat.ne_of_gt (natL_length_pos h0))]; rfl
  unfold divQ divR at this
  rw [e, val_natL, val_natL] at this
  refine this.mono ?_
  rintro e w' ⟨⟨av, cv, av2, cv2, he, h1, h2, -⟩, hb⟩
  exact ⟨⟨av, cv, av2, cv2, he, h1, h2⟩, hb⟩
end Go.Proofs.Ytknhkgbmimjibaa
