/- Whether a box is one: by the specification's loop, and by the program's search for a wrong coordinate. No condition. -/
import Derived.Test.YtpnfkigeagbhpaaPK13
import Derived.Test.YtpnfkigeagbhpaaPK14
import Derived.RangeFuncBox
import Derived.Maps.AppendAt
namespace Go.Proofs.Ytpnfkigeagbhpaa
open Go.RowKit
set_option linter.unusedVariables false
set_option maxRecDepth 100000

def okRow (wd : Int) (ps : List (Int × Int)) : Bool := decide (1 ≤ ps.length) && (decide (ps.length ≤ 6) && ps.all (fun p => pokB wd p.1 p.2))
theorem okRow_short {wd : Int} {ps : List (Int × Int)} (h : ps.length < 1) : okRow wd ps = false := by unfold okRow; simp [show ¬ 1 ≤ ps.length by omega]
theorem okRow_long {wd : Int} {ps : List (Int × Int)} (h : 6 < ps.length) : okRow wd ps = false := by unfold okRow; simp [show ¬ ps.length ≤ 6 by omega]
theorem okRow_no {wd : Int} {ps : List (Int × Int)} {k : Nat} (hk : k < ps.length) {x y : Int} (hx : ps.getD k (0, 0) = (x, y)) (h : pokB wd x y = false) : okRow wd ps = false := by
  unfold okRow
  have : ps.all (fun p => pokB wd p.1 p.2) = false := by
    rw [List.all_eq_false]
    refine ⟨(x, y), ?_, by simp [h]⟩
    rw [← hx, List.getD_eq_getElem?_getD, List.getElem?_eq_getElem hk]
    exact List.getElem_mem _
  simp [this]
theorem okRow_yes {wd : Int} {ps : List (Int × Int)} (h1 : 1 ≤ ps.length) (h2 : ps.length ≤ 6) (h : ∀ k, k < ps.length → pokB wd (ps.getD k (0, 0)).1 (ps.getD k (0, 0)).2 = true) : okRow wd ps = true := by
  unfold okRow
  have : ps.all (fun p => pokB wd p.1 p.2) = true := by
    rw [List.all_eq_true]
    intro p hp
    obtain ⟨k, hk, rfl⟩ := List.getElem_of_mem hp
    have := h k hk
    rw [List.getD_eq_getElem?_getD, List.getElem?_eq_getElem hk] at this
    exact this
  simp [this, h1, h2]

set_option maxHeartbeats 2000000 in
theorem sBoxOk (wd : Int) (a : Option Addr) (len cap : Nat) (ps : List (Int × Int)) (w : World) (hR : InRow w a len cap ps) :
    Calls Try.prog 8 #[.int .i64 wd, .agg #[.slice a len cap]] w fun e w' => e = .returned (.bool (okRow wd ps)) ∧ Below w.heap.size w w' := by
  have hlen : len ≤ maxLen := Nat.le_trans hR.2.1 hR.2.2.1
  have hp := hR.1
  unfold maxLen at hlen
  by_cases c1 : len < 1
  · rw [okRow_short (by omega)]
    go_enter Try.func8, Try.ntmps8
    go_wp2
    go_ret
    exact ⟨rfl, (by repeat (first | exact Below.refl _ _ | refine Below.drew ?_ | refine old_alloc ?_ _ | refine old_trans ?_ (by assumption)))⟩
  by_cases c2 : 6 < len
  · rw [okRow_long (by omega)]
    go_enter Try.func8, Try.ntmps8
    go_wp2
    go_ret
    exact ⟨rfl, (by repeat (first | exact Below.refl _ _ | refine Below.drew ?_ | refine old_alloc ?_ _ | refine old_trans ?_ (by assumption)))⟩
  have b3 := Cel1.made w _ rfl (.slice a len cap) 25
  have hb3 : Below w.heap.size w (w.alloc (.cells #[.slice a len cap] 25)) := (Below.refl _ w).alloc (Nat.le_refl _) _
  have hR3 := hR.old hb3
  go_enter Try.func8, Try.ntmps8
  go_wp2
  go_loopw [5] (fun i wr => ∃ k : Nat, k ≤ len ∧ i = .int .i64 k ∧ Hid (∀ j, j < k → pokB wd (ps.getD j (0, 0)).1 (ps.getD j (0, 0)).2 = true) ∧ Cel1 wr w.heap.size (.slice a len cap) ∧ InRow wr a len cap ps ∧ Below w.heap.size w wr) (fun b _ => len - (intOf b).toNat)
  case atStart => exact ⟨0, by omega, rfl, fun j hj => absurd hj (by omega), b3, hR3, hb3⟩
  case round =>
    obtain ⟨k, hk, rfl, hall, K, hRr, hb⟩ := hrel
    obtain ⟨k0, k1, k2⟩ := id K
    by_cases hlt : k < len
    · obtain ⟨b, off, x, y, rfl, hbl, hx, -, c0, c1'⟩ := hRr.at hlt
      have E := hd (sPairOk wd x y)
      cases hpk : pokB wd x y
      · rw [hpk] at E
        have hno : Hid (okRow wd ps = false) := okRow_no (by omega) hx hpk
        clear hpk
        go_wp2_with (go_at_call 31; refine (E.out _).mono ?_; rintro e w1 ⟨rfl, hb1⟩)
        go_ret
        exact ⟨by rw [hno.out]; rfl, (by repeat (first | exact hb | exact Below.refl _ _ | refine Below.drew ?_ | refine old_alloc ?_ _ | refine old_trans ?_ (by assumption)))⟩
      · have hall' : Hid (∀ j, j < k + 1 → pokB wd (ps.getD j (0, 0)).1 (ps.getD j (0, 0)).2 = true) := by
          intro j hj
          by_cases e : j = k
          · subst e; rw [hx]; exact hpk
          · exact hall j (by omega)
        rw [hpk] at E
        clear hpk
        go_wp2_with (go_at_call 31; refine (E.out _).mono ?_; rintro e w1 ⟨rfl, hb1⟩)
        go_roundw
        case rel => exact ⟨k + 1, by omega, by go_num, hall', K.later hb1, hRr.old hb1, (by repeat (first | exact hb | exact Below.refl _ _ | refine Below.drew ?_ | refine old_alloc ?_ _ | refine old_trans ?_ (by assumption)))⟩
        case measure => simp [intOf]; omega
    · obtain rfl : k = len := by omega
      have hyes : Hid (okRow wd ps = true) := okRow_yes (by omega) (by omega) (hp ▸ hall)
      go_wp2
      go_ret
      exact ⟨by rw [hyes.out]; rfl, hb⟩

theorem firstI_neg {len : Nat} {p : Nat → Bool} : decide (firstI len p < 0) = (List.range len).all (fun k => !p k) := by
  unfold firstI
  split
  · rename_i k h
    have := List.find?_some h
    have hm := List.mem_of_find?_eq_some h
    rw [Bool.eq_iff_iff]
    simp only [decide_eq_true_eq, List.all_eq_true]
    constructor
    · intro h; omega
    · intro h; have := h k hm; simp_all
  · rename_i h
    rw [List.find?_eq_none] at h
    rw [Bool.eq_iff_iff]
    simp only [decide_eq_true_eq, List.all_eq_true]
    constructor
    · intro _ x hx; simpa using h x hx
    · intro _; omega

set_option maxHeartbeats 2000000 in
theorem iBoxOk1 (wd : Int) (a : Option Addr) (len cap : Nat) (ps : List (Int × Int)) (B C k : Nat) (hk : k < len) (w : World) (hR : InRow w a len cap ps) (hB : w.cell? ⟨B, 0, none⟩ = some (.int .i64 wd)) (hC : w.cell? ⟨C, 0, none⟩ = some (.slice a len cap)) :
    Calls Try.prog 35 #[.int .i64 (k : Int), .pointer (some ⟨B, 0, none⟩), .pointer (some ⟨C, 0, none⟩)] w fun e w' => e = .returned (.bool (!pokB wd (ps.getD k (0, 0)).1 (ps.getD k (0, 0)).2)) ∧ Below w.heap.size w w' := by
  have hlen : len ≤ maxLen := Nat.le_trans hR.2.1 hR.2.2.1
  unfold maxLen at hlen
  obtain ⟨b, off, x, y, rfl, hbl, hx, -, c0, c1⟩ := hR.at hk
  rw [hx]
  have E := hd (iPairOk wd x y)
  dsimp only
  generalize pokB wd x y = r at *
  go_enter Try.func35, Try.ntmps35
  go_wp2_with fail
  go_region_with (go_at_call 36; refine (E.out _).mono ?_; rintro e w1 ⟨rfl, hb1⟩)
  all_goals
    go_wp2
    go_ret
    exact ⟨rfl, (by repeat (first | exact Below.refl _ _ | refine Below.drew ?_ | refine old_alloc ?_ _ | refine old_trans ?_ (by assumption)))⟩

theorem okRow_first {wd : Int} {ps : List (Int × Int)} (h1 : ¬ ps.length < 1) (h2 : ¬ 6 < ps.length) : decide (firstI ps.length (fun k => !pokB wd (ps.getD k (0, 0)).1 (ps.getD k (0, 0)).2) < 0) = okRow wd ps := by
  rw [firstI_neg]
  cases h : (List.range ps.length).all (fun k => !(!pokB wd (ps.getD k (0, 0)).1 (ps.getD k (0, 0)).2))
  · rw [List.all_eq_false] at h
    obtain ⟨k, hk, hn⟩ := h
    rw [List.mem_range] at hk
    rw [okRow_no (k := k) hk (x := (ps.getD k (0, 0)).1) (y := (ps.getD k (0, 0)).2) rfl (by simpa only [Bool.not_not, Bool.not_eq_true] using hn)]
  · rw [List.all_eq_true] at h
    rw [okRow_yes (by omega) (by omega) (fun k hk => by simpa using h k (List.mem_range.2 hk))]

set_option maxHeartbeats 2000000 in
theorem iBoxOk (wd : Int) (a : Option Addr) (len cap : Nat) (ps : List (Int × Int)) (w : World) (hR : InRow w a len cap ps) :
    Calls Try.prog 10 #[.int .i64 wd, .agg #[.slice a len cap]] w fun e w' => e = .returned (.bool (okRow wd ps)) ∧ Below w.heap.size w w' := by
  have hlen : len ≤ maxLen := Nat.le_trans hR.2.1 hR.2.2.1
  have hlen' := hlen
  obtain rfl := hR.1
  unfold maxLen at hlen
  by_cases c1 : ps.length < 1
  · rw [okRow_short (by omega)]
    go_enter Try.func10, Try.ntmps10
    go_wp2
    go_ret
    exact ⟨rfl, (by repeat (first | exact Below.refl _ _ | refine Below.drew ?_ | refine old_alloc ?_ _ | refine old_trans ?_ (by assumption)))⟩
  by_cases c2 : 6 < ps.length
  · rw [okRow_long (by omega)]
    go_enter Try.func10, Try.ntmps10
    go_wp2
    go_ret
    exact ⟨rfl, (by repeat (first | exact Below.refl _ _ | refine Below.drew ?_ | refine old_alloc ?_ _ | refine old_trans ?_ (by assumption)))⟩
  have hz := okRow_first (wd := wd) c1 c2
  have b2 : Cel1 ((w.alloc (.cells #[.int .i64 wd] 3)).alloc (.cells #[.slice a ps.length cap] 25)) w.heap.size (.int .i64 wd) := (Cel1.made w _ rfl _ _).alloc _
  have b3 : Cel1 ((w.alloc (.cells #[.int .i64 wd] 3)).alloc (.cells #[.slice a ps.length cap] 25)) (w.heap.size + 1) (.slice a ps.length cap) := Cel1.made _ _ (by simp) _ _
  have hb3 : Below w.heap.size w ((w.alloc (.cells #[.int .i64 wd] 3)).alloc (.cells #[.slice a ps.length cap] 25)) := ((Below.refl _ w).alloc (Nat.le_refl _) _).alloc (by simp) _
  have hR3 := hR.old hb3
  have H := hd (coordThat 35 #[.pointer (some ⟨w.heap.size, 0, none⟩), .pointer (some ⟨w.heap.size + 1, 0, none⟩)] a ps.length cap hlen' (fun k => !pokB wd (ps.getD k (0, 0)).1 (ps.getD k (0, 0)).2) _ (enters_of Try.func35 (by kernel_rfl) rfl)
    (fun k W hk hW => iBoxOk1 wd a ps.length cap ps w.heap.size (w.heap.size + 1) k hk W (hR3.old hW) (b2.later hW).1 (b3.later hW).1))
  generalize firstI ps.length _ = r at *
  go_enter Try.func10, Try.ntmps10
  go_wp2_with (go_at_call 34; refine H.out.mono ?_; rintro e w1 ⟨rfl, hb1⟩)
  go_ret
  exact ⟨by rw [← hz]; rfl, (by repeat (first | exact Below.refl _ _ | refine Below.drew ?_ | refine old_alloc ?_ _ | refine old_trans ?_ (by assumption)))⟩
end Go.Proofs.Ytpnfkigeagbhpaa

/- What the laws over boxes carry from call to call. No condition. -/
namespace Go.Proofs.Ytpnfkigeagbhpaa
open Go.RowKit
set_option linter.unusedVariables false
set_option maxRecDepth 100000

theorem Cel1.drew {w : World} {b : Nat} {x : Value} (h : Cel1 w b x) : Cel1 w.drew b x := h
theorem InRow.drew {w : World} {a : Option Addr} {len cap : Nat} {ps : List (Int × Int)} (h : InRow w a len cap ps) : InRow w.drew a len cap ps := h
theorem InRow.alloc {w : World} {a : Option Addr} {len cap : Nat} {ps : List (Int × Int)} (h : InRow w a len cap ps) (o : Obj) : InRow (w.alloc o) a len cap ps := h.old ((Below.refl _ _).alloc (Nat.le_refl _) o)
theorem InRow.set {w : World} {a : Option Addr} {len cap : Nat} {ps : List (Int × Int)} (h : InRow w a len cap ps) (p : Addr) (v : Value) (hne : ∀ q, a = some q → q.block ≠ p.block) : InRow (w.setCell p v) a len cap ps := by
  obtain ⟨h1, h2, h3, h4, h5⟩ := h
  refine ⟨h1, h2, h3, h4, ?_⟩
  rcases h5 with h5 | ⟨b, off, q1, q2, q3⟩
  · exact .inl h5
  · refine .inr ⟨b, off, q1, by simpa [World.setCell] using q2, fun i hi => ?_⟩
    have hn := hne _ q1
    rw [World.cell?_setCell_other _ _ _ _ (by intro e; subst e; exact hn rfl), World.cell?_setCell_other _ _ _ _ (by intro e; subst e; exact hn rfl)]
    exact q3 i hi

end Go.Proofs.Ytpnfkigeagbhpaa

/- The laws' marks: every number of a list is written over with the next one; the list then holds these, and nothing else is written. Conditions: lists of 2^20 pairs at most. -/
namespace Go.Proofs.Ytpnfkigeagbhpaa
open Go.RowKit
set_option linter.unusedVariables false
set_option maxRecDepth 100000

theorem Cel1.kept {w w' : World} {c : Nat} {v : Value} {row : Option Nat} (h : Cel1 w c v) (g : w.grownBy w' row) (hne : some c ≠ row) : Cel1 w' c v :=
  ⟨(World.cell?_of_block (a := ⟨c, 0, none⟩) (g.block c h.2.2 hne)).trans h.1, (World.frozen?_of_block (a := ⟨c, 0, none⟩) (g.block c h.2.2 hne)).trans h.2.1, Nat.lt_of_lt_of_le h.2.2 g.size⟩
theorem Row.kept {w w' : World} {c : Nat} {ps : List (Int × Int)} {row : Option Nat} (h : Row w c ps) (g : w.grownBy w' row) (hne : some c ≠ row) : Row w' c ps := by
  refine ⟨Nat.lt_of_lt_of_le h.1 g.size, fun i hi => ?_⟩
  obtain ⟨⟨h1, h2⟩, h3, h4⟩ := h.2 i hi
  have e := g.block c h.1 hne
  exact ⟨⟨(World.cell?_of_block (a := ⟨c, i * 2, none⟩) e).trans h1, (World.cell?_of_block (a := ⟨c, i * 2 + 1, none⟩) e).trans h2⟩, (World.frozen?_of_block (a := ⟨c, i * 2, none⟩) e).trans h3, (World.frozen?_of_block (a := ⟨c, i * 2 + 1, none⟩) e).trans h4⟩
theorem InRow.kept {w w' : World} {a : Option Addr} {len cap : Nat} {ps : List (Int × Int)} {row : Option Nat} (h : InRow w a len cap ps) (g : w.grownBy w' row) (hne : ∀ q, a = some q → some q.block ≠ row) : InRow w' a len cap ps := by
  obtain ⟨h1, h2, h3, h4, h5⟩ := h
  refine ⟨h1, h2, h3, h4, ?_⟩
  rcases h5 with h5 | ⟨b, off, q1, q2, q3⟩
  · exact .inl h5
  · refine .inr ⟨b, off, q1, Nat.lt_of_lt_of_le q2 g.size, fun i hi => ?_⟩
    have e := g.block b q2 (hne _ q1)
    exact ⟨(World.cell?_of_block (a := ⟨b, off + i * 2, none⟩) e).trans (q3 i hi).1, (World.cell?_of_block (a := ⟨b, off + (i * 2 + 1), none⟩) e).trans (q3 i hi).2⟩

end Go.Proofs.Ytpnfkigeagbhpaa

/- A new box of what is made at each place; nothing, if one is not made: of whatever function that answers so at each place and writes nothing that was there. Conditions: 2^20 places at most. -/
namespace Go.Proofs.Ytpnfkigeagbhpaa
open Go.RowKit
set_option linter.unusedVariables false
set_option maxRecDepth 100000

/-- what is made at the first n places -/
def madeL (n : Nat) (x y : Nat → Int) : List (Int × Int) := (List.range n).map (fun i => (x i, y i))
theorem madeL_length (n : Nat) (x y : Nat → Int) : (madeL n x y).length = n := by simp [madeL]
end Go.Proofs.Ytpnfkigeagbhpaa

/- What the specification's loops over append leave: a list that grew by one pair a round, in memory of its own. Conditions: 2^20 pairs at most. -/
namespace Go.Proofs.Ytpnfkigeagbhpaa
open Go.RowKit
set_option linter.unusedVariables false
set_option maxRecDepth 100000

def flat (ps : List (Int × Int)) : List Value := ps.flatMap (fun p => [.int .i64 p.1, .int .i64 p.2])
theorem flat_length (ps : List (Int × Int)) : (flat ps).length = ps.length * 2 := by
  induction ps with
  | nil => rfl
  | cons p ps ih => show (_ :: _ :: flat ps).length = _; simp [ih]; omega
theorem flat_snoc (ps : List (Int × Int)) (x y : Int) : flat (ps ++ [(x, y)]) = flat ps ++ [.int .i64 x, .int .i64 y] := by simp [flat]
theorem flat_get : ∀ (ps : List (Int × Int)) (i : Nat), i < ps.length → (flat ps)[i * 2]? = some (.int .i64 (ps.getD i (0, 0)).1) ∧ (flat ps)[i * 2 + 1]? = some (.int .i64 (ps.getD i (0, 0)).2)
  | [], _, h => absurd h (by simp)
  | p :: ps, 0, _ => ⟨rfl, rfl⟩
  | p :: ps, i + 1, h => by
    have := flat_get ps i (by simpa using h)
    show ((_ :: _ :: flat ps) : List Value)[(i + 1) * 2]? = _ ∧ ((_ :: _ :: flat ps) : List Value)[(i + 1) * 2 + 1]? = _
    rw [show (i + 1) * 2 = i * 2 + 1 + 1 by omega, show i * 2 + 1 + 1 + 1 = (i * 2 + 1) + 1 + 1 by omega]
    simpa using this
/-- a list that is being made -/
def Grows (w : World) (base : Nat) (v : Value) (ps : List (Int × Int)) : Prop := w.ownsRow base 42 2 v ps.length (flat ps)
theorem Grows.nil (w : World) (base : Nat) : Grows w base (.slice none 0 0) [] := World.ownsRow_nil w base _ _
theorem Grows.kept {w w' : World} {base : Nat} {v : Value} {ps : List (Int × Int)} {row : Option Nat} (h : Grows w base v ps) (g : w.grownBy w' row) (hne : ∀ b, row = some b → b < base) : Grows w' base v ps := by
  refine World.ownsRow.kept h g ?_
  cases hv : v.ownBlock with
  | none => exact .inl rfl
  | some k =>
    refine .inr (fun e => ?_)
    have := hne k e.symm
    have := (World.ownsRow.lt h k hv).1
    omega
theorem grown_belowE {w w' : World} (h : Below w.heap.size w w') : w.grownBy w' none := ⟨h.1, h.2, h.3, h.4, fun k hk _ => h.5 k hk⟩
theorem Grows.later {w w' : World} {base : Nat} {v : Value} {ps : List (Int × Int)} (h : Grows w base v ps) (g : Below w.heap.size w w') : Grows w' base v ps := h.kept (grown_belowE g) (by simp)
theorem Grows.alloc {w : World} {base : Nat} {v : Value} {ps : List (Int × Int)} (h : Grows w base v ps) (o : Obj) : Grows (w.alloc o) base v ps := h.later ((Below.refl _ _).alloc (Nat.le_refl _) o)
theorem Grows.set {w : World} {base b : Nat} {v : Value} {ps : List (Int × Int)} (h : Grows w base v ps) (hb : b < base) (u : Value) : Grows (w.setCell ⟨b, 0, none⟩ u) base v ps := h.kept (grownBy_setCell' w b u) (fun c e => by cases e; exact hb)
theorem Grows.far {w : World} {base : Nat} {v : Value} {ps : List (Int × Int)} (h : Grows w base v ps) {c : Nat} (hc : c < base) : some c ≠ v.ownBlock := fun e => by have := (World.ownsRow.lt h c e.symm).1; omega
theorem Grows.row {w : World} {base : Nat} {v : Value} {ps : List (Int × Int)} (h : Grows w base v ps) (hp : 0 < ps.length) : ∃ g cap, v = .slice (some ⟨g, 0, none⟩) ps.length cap ∧ base ≤ g ∧ ps.length ≤ cap ∧ cap ≤ maxLen ∧ Row w g ps := by
  have h' := h
  rcases h.2 with ⟨_, h0⟩ | ⟨g, cap, cur, rfl, hb, hg, h1, h2, -, -⟩
  · omega
  refine ⟨g, cap, rfl, hb, h1, h2, (Array.getElem?_eq_some_iff.1 hg).1, fun i hi => ?_⟩
  have f := flat_get ps i hi
  exact ⟨⟨(World.ownsRow.cellAt h' (i * 2) (by omega)).trans f.1, (World.ownsRow.cellAt h' (i * 2 + 1) (by omega)).trans f.2⟩, World.ownsRow.frozenAt h' _, World.ownsRow.frozenAt h' _⟩
theorem cells_two (w : World) (b : Nat) (hb : b = w.heap.size) (x y : Value) (t : TypeId) : ∀ j u, [x, y][j]? = some u → (w.alloc (.cells #[x, y] t)).cell? ((⟨b, 0, none⟩ : Addr).add j) = some u := by
  subst hb
  intro j u h
  match j, h with
  | 0, h => simp at h; subst h; simp [Addr.add]
  | 1, h => simp at h; subst h; simp [Addr.add]
  | j + 2, h => simp at h
theorem madeL_snoc (k : Nat) (x y : Nat → Int) : madeL (k + 1) x y = madeL k x y ++ [(x k, y k)] := by simp [madeL, List.range_succ]
/-- a box that was made, or none -/
def BoxRes (n0 : Nat) (w' : World) (e : Ending) (r : Bool) (ps : List (Int × Int)) : Prop :=
  (r = true ∧ ∃ g cap, e = .returned (.tuple #[.agg #[.slice (some ⟨g, 0, none⟩) ps.length cap], .bool true]) ∧ n0 ≤ g ∧ ps.length ≤ cap ∧ cap ≤ maxLen ∧ Row w' g ps) ∨
  (r = false ∧ e = .returned (.tuple #[.agg #[.slice none 0 0], .bool false]))
end Go.Proofs.Ytpnfkigeagbhpaa

/- Whether few floats stand between the bounds of each coordinate: the specification's loop, the program's search. No condition. -/
namespace Go.Proofs.Ytpnfkigeagbhpaa
open Go.RowKit
set_option linter.unusedVariables false
set_option maxRecDepth 100000

def gapAt (ps : List (Int × Int)) (k : Nat) : Int := gapI (ps.getD k (0, 0)).1 (ps.getD k (0, 0)).2
theorem gapAt_eq {ps : List (Int × Int)} {k : Nat} {x y : Int} (h : ps.getD k (0, 0) = (x, y)) : gapAt ps k = gapI x y := by unfold gapAt; rw [h]
end Go.Proofs.Ytpnfkigeagbhpaa

/- One pair after the other is taken in: of whatever function that answers so at each pair and writes nothing that was there. -/
namespace Go.Proofs.Ytpnfkigeagbhpaa
open Go.RowKit
set_option linter.unusedVariables false
set_option maxRecDepth 100000

set_option maxHeartbeats 2000000 in
theorem foldN (g : Nat) (a : Option Addr) (len cap : Nat) (ps : List (Int × Int)) (acc : Nat → Int) (w : World) (hR : InRow w a len cap ps)
    (hE : ∀ args w, (callFunc g args).run Try.prog w = .ok (.enter g args) w)
    (hG : ∀ (k : Nat) (x y : Int) (W : World), k < len → ps.getD k (0, 0) = (x, y) → ((-9223372036854775808 ≤ x ∧ x ≤ 9223372036854775807) ∧ -9223372036854775808 ≤ y ∧ y ≤ 9223372036854775807) → Below w.heap.size w W →
      Calls Try.prog g #[.int .i64 (acc k), .agg #[.int .i64 x, .int .i64 y]] W fun e W' => e = .returned (.int .i64 (acc (k + 1))) ∧ Below W.heap.size W W') :
    Calls Try.prog 44 #[.slice a len cap, .int .i64 (acc 0), .func (.func g) #[] #[]] w fun e w' => e = .returned (.int .i64 (acc len)) ∧ Below w.heap.size w w' := by
  have hlen : len ≤ maxLen := Nat.le_trans hR.2.1 hR.2.2.1
  unfold maxLen at hlen
  go_enter Try.func44, Try.ntmps44
  go_wp2
  go_loopw [7, 12] (fun s i wr => ∃ k : Nat, k ≤ len ∧ s = .int .i64 (acc k) ∧ i = .int .i64 k ∧ Below w.heap.size w wr) (fun _ b _ => len - (intOf b).toNat)
  case atStart => exact ⟨0, by omega, rfl, rfl, (by repeat (first | exact Below.refl _ _ | refine Below.drew ?_ | refine old_alloc ?_ _ | refine old_trans ?_ (by assumption)))⟩
  case round =>
    obtain ⟨k, hk, rfl, rfl, hb⟩ := hrel
    by_cases hlt : k < len
    · obtain ⟨b, off, x, y, rfl, hbl, hx, hq, c0, c1⟩ := (hR.old hb).at hlt
      have H := hd (hG k x y wr hlt hx hq hb)
      go_wp2_with fail
      refine H.out.mono ?_
      rintro e w1 ⟨rfl, hb1⟩
      go_wp2
      go_roundw
      case rel => exact ⟨k + 1, by omega, rfl, by go_num, (by repeat (first | exact hb | exact Below.refl _ _ | refine Below.drew ?_ | refine old_alloc ?_ _ | refine old_trans ?_ (by assumption)))⟩
      case measure => simp [intOf]; omega
    · obtain rfl : k = len := by omega
      go_wp2
      go_ret
      exact ⟨rfl, hb⟩
end Go.Proofs.Ytpnfkigeagbhpaa

/- The coordinate with the most steps: the specification's loop, the program's greatest count and the first coordinate that has it. No condition. -/
namespace Go.Proofs.Ytpnfkigeagbhpaa
open Go.RowKit
set_option linter.unusedVariables false
set_option maxRecDepth 100000

theorem okRow_len {wd : Int} {ps : List (Int × Int)} (h : okRow wd ps = true) : 1 ≤ ps.length ∧ ps.length ≤ 6 := by
  unfold okRow at h
  simp at h
  omega
theorem gapAt_bd {w : World} {a : Option Addr} {len cap : Nat} {ps : List (Int × Int)} (hR : InRow w a len cap ps) {k : Nat} (hk : k < len) : 0 ≤ gapAt ps k ∧ gapAt ps k ≤ 18446744073709551615 := by
  obtain ⟨b, off, x, y, -, -, hx, ⟨⟨q1, q2⟩, q3, q4⟩, -, -⟩ := hR.at hk
  rw [gapAt_eq hx]
  exact gapI_bd x y q1 q4

end Go.Proofs.Ytpnfkigeagbhpaa

/- The narrow box around a wide one, a narrow box among the wide ones: the specification's loop, the program's box of each place. Conditions: 2^20 pairs at most. -/
namespace Go.Proofs.Ytpnfkigeagbhpaa
open Go.RowKit
set_option linter.unusedVariables false
set_option maxRecDepth 100000

theorem okRow_at {wd : Int} {ps : List (Int × Int)} (h : okRow wd ps = true) {k : Nat} (hk : k < ps.length) : pokB wd (ps.getD k (0, 0)).1 (ps.getD k (0, 0)).2 = true := by
  cases e : pokB wd (ps.getD k (0, 0)).1 (ps.getD k (0, 0)).2
  · rw [okRow_no (x := (ps.getD k (0, 0)).1) (y := (ps.getD k (0, 0)).2) hk rfl e] at h; cases h
  · rfl

end Go.Proofs.Ytpnfkigeagbhpaa

/- How many units of fuel a box can use: the specification's loop with its early ends, the program's product held down at each coordinate. No condition. -/
namespace Go.Proofs.Ytpnfkigeagbhpaa
open Go.RowKit
set_option linter.unusedVariables false
set_option maxRecDepth 100000

def unitI (g : Int) : Int := if g = 0 then 1 else if 250000000 < g then 1000000000 else 4 * g - 1
theorem unitI_bd {g : Int} (h : 0 ≤ g) : 1 ≤ unitI g ∧ unitI g ≤ 1000000000 := by unfold unitI; split <;> (try split) <;> omega
def unitsG (ps : List (Int × Int)) : Nat → Int
  | 0 => 1
  | k + 1 => min (unitsG ps k * unitI (gapAt ps k)) 1000000000
def unitsRow (wd : Int) (ps : List (Int × Int)) : Int := if okRow wd ps then unitsG ps ps.length else 0
theorem unitsG_bd {ps : List (Int × Int)} {n : Nat} (hb : ∀ j, j < n → 0 ≤ gapAt ps j) : ∀ k, k ≤ n → 1 ≤ unitsG ps k ∧ unitsG ps k ≤ 1000000000
  | 0, _ => by show 1 ≤ (1 : Int) ∧ (1 : Int) ≤ _; omega
  | k + 1, h => by
    have h1 := unitsG_bd hb k (by omega)
    have h2 := unitI_bd (hb k (by omega))
    have h3 : 1 * 1 ≤ unitsG ps k * unitI (gapAt ps k) := Int.mul_le_mul h1.1 h2.1 (by omega) (by omega)
    show 1 ≤ min _ _ ∧ min _ _ ≤ _
    omega
set_option maxHeartbeats 1000000 in
theorem iUnits (g : Int) (h : 0 ≤ g ∧ g ≤ 18446744073709551615) (w : World) :
    Calls Try.prog 47 #[.agg #[.int .u64 g]] w fun e w' => e = .returned (.int .i64 (unitI g)) ∧ Below w.heap.size w w' := by
  by_cases g0 : g = 0
  · have hu : Hid (unitI g = 1) := by show _ = _; unfold unitI; rw [if_pos g0]
    subst g0
    go_enter Try.func47, Try.ntmps47
    go_wp2
    go_ret
    exact ⟨by rw [hu.out]; rfl, (by repeat (first | exact Below.refl _ _ | refine Below.drew ?_ | refine old_alloc ?_ _ | refine old_trans ?_ (by assumption)))⟩
  by_cases g1 : 250000000 < g
  · have hu : Hid (unitI g = 1000000000) := by show _ = _; unfold unitI; rw [if_neg g0, if_pos g1]
    go_enter Try.func47, Try.ntmps47
    go_wp2
    go_ret
    exact ⟨by rw [hu.out]; rfl, (by repeat (first | exact Below.refl _ _ | refine Below.drew ?_ | refine old_alloc ?_ _ | refine old_trans ?_ (by assumption)))⟩
  · have hu : Hid (unitI g = 4 * g - 1) := by show _ = _; unfold unitI; rw [if_neg g0, if_neg g1]
    go_enter Try.func47, Try.ntmps47
    go_wp2
    go_ret
    exact ⟨by rw [hu.out]; rfl, (by repeat (first | exact Below.refl _ _ | refine Below.drew ?_ | refine old_alloc ?_ _ | refine old_trans ?_ (by assumption)))⟩

set_option maxHeartbeats 1000000 in
theorem iBoxUnits1 (u x y : Int) (hu : 1 ≤ u ∧ u ≤ 1000000000) (q : (-9223372036854775808 ≤ x ∧ x ≤ 9223372036854775807) ∧ -9223372036854775808 ≤ y ∧ y ≤ 9223372036854775807) (w : World) :
    Calls Try.prog 45 #[.int .i64 u, .agg #[.int .i64 x, .int .i64 y]] w fun e w' => e = .returned (.int .i64 (min (u * unitI (gapI x y)) 1000000000)) ∧ Below w.heap.size w w' := by
  have E := hd (iCounted x y q.1.1 q.1.2 q.2.1 q.2.2)
  have hgb := gapI_bd x y q.1.1 q.2.2
  generalize gapI x y = g at *
  have f1 := fld_count g x y
  have U := hd (iUnits g hgb)
  have hub := unitI_bd hgb.1
  generalize unitI g = c at *
  have m1 : u * c ≤ 1000000000 * 1000000000 := Int.mul_le_mul hu.2 hub.2 (by omega) (by omega)
  have m2 : 1 * 1 ≤ u * c := Int.mul_le_mul hu.1 hub.1 (by omega) (by omega)
  have hx : Hid (u * c ≤ 1000000000 → min (u * c) 1000000000 = u * c) := fun h => by omega
  have hy : Hid (1000000000 < u * c → min (u * c) 1000000000 = 1000000000) := fun h => by omega
  generalize min (u * c) 1000000000 = z at *
  go_enter Try.func45, Try.ntmps45
  go_wp2_with (first | (go_at_call 46; refine (E.out _).mono ?_; rintro e w1 ⟨rfl, hb1⟩) | (go_at_call 47; refine (U.out _).mono ?_; rintro e w2 ⟨rfl, hb2⟩))
  all_goals
    go_ret
    refine ⟨?_, (by repeat (first | exact Below.refl _ _ | refine Below.drew ?_ | refine old_alloc ?_ _ | refine old_trans ?_ (by assumption)))⟩
    first | rw [hx.out (by assumption)]; rfl | rw [hy.out (by assumption)]; rfl

set_option maxHeartbeats 2000000 in
theorem iBoxUnits (wd : Int) (a : Option Addr) (len cap : Nat) (ps : List (Int × Int)) (w : World) (hR : InRow w a len cap ps) :
    Calls Try.prog 16 #[.int .i64 wd, .agg #[.slice a len cap]] w fun e w' => e = .returned (.int .i64 (unitsRow wd ps)) ∧ Below w.heap.size w w' := by
  have hlen : len ≤ maxLen := Nat.le_trans hR.2.1 hR.2.2.1
  have hp := hR.1
  unfold maxLen at hlen
  have K : Cel1 (w.alloc (.cells #[.slice a len cap] 25)) w.heap.size (.slice a len cap) := Cel1.made w _ rfl _ _
  have hR3 := hR.alloc (.cells #[.slice a len cap] 25)
  have S := hd (iBoxOk wd a len cap ps _ hR3)
  cases hok : okRow wd ps
  · have hno : Hid (unitsRow wd ps = 0) := by show _ = _; unfold unitsRow; rw [hok]; rfl
    rw [hok] at S
    clear hok
    go_enter Try.func16, Try.ntmps16
    go_wp2_with (go_at_call 10; refine S.out.mono ?_; rintro e w1 ⟨rfl, hb1⟩)
    go_ret
    exact ⟨by rw [hno.out]; rfl, (by repeat (first | exact Below.refl _ _ | refine Below.drew ?_ | refine old_alloc ?_ _ | refine old_trans ?_ (by assumption)))⟩
  rw [hok] at S
  have hol := okRow_len hok
  have hgb : ∀ k, k < len → 0 ≤ gapAt ps k ∧ gapAt ps k ≤ 18446744073709551615 := fun k hk => gapAt_bd hR hk
  have hz : Hid (unitsG ps len = unitsRow wd ps) := by show _ = _; unfold unitsRow; rw [if_pos hok, hp]
  clear hok
  generalize unitsRow wd ps = z at *
  go_enter Try.func16, Try.ntmps16
  go_wp2_with fail
  refine S.out.mono ?_
  rintro e w1 ⟨rfl, hb1⟩
  replace K := K.later hb1
  replace hR3 := hR3.old hb1
  have k0 := K.1
  have k2 := K.2.2
  go_wp2_with fail
  refine (foldN 45 a len cap ps (unitsG ps) _ hR3 (enters_of Try.func45 (by kernel_rfl) rfl) (fun k x y W hk hx hq hW => by
    have := iBoxUnits1 (unitsG ps k) x y (unitsG_bd (fun j hj => (hgb j hj).1) k (by omega)) hq W
    rw [← gapAt_eq hx] at this
    exact this)).mono ?_
  rintro e w2 ⟨he, hb2⟩
  rw [hz.out] at he
  subst he
  go_wp2
  go_ret
  exact ⟨rfl, (by repeat (first | exact Below.refl _ _ | refine Below.drew ?_ | refine old_alloc ?_ _ | refine old_trans ?_ (by assumption)))⟩
end Go.Proofs.Ytpnfkigeagbhpaa
