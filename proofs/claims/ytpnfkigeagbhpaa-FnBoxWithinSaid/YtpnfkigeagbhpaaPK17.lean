/- Boxes that the walks of the laws hold: what is theirs, and what abides a mark set elsewhere. No condition. -/
import Derived.Test.YtpnfkigeagbhpaaPK16
import Derived.Test.YtpnfkigeagbhpaaPK09
import Derived.Test.YtpnfkigeagbhpaaPK03
import Derived.Test.YtpnfkigeagbhpaaPK01
import Derived.Test.YtpnfkigeagbhpaaPK11
import Derived.Deep.RegionHeld3
namespace Go.Proofs.Ytpnfkigeagbhpaa
open Go.RowKit
set_option linter.unusedVariables false
set_option maxRecDepth 100000

/-- a box in memory of its own, at or beyond base; or an empty one -/
def OB (w : World) (base : Nat) (av : Option Addr) (cv : Nat) (ps : List (Int × Int)) : Prop :=
  Fits ps ∧ ps.length ≤ cv ∧ cv ≤ maxLen ∧ ((av = none ∧ ps = []) ∨ ∃ g, av = some ⟨g, 0, none⟩ ∧ base ≤ g ∧ Row w g ps)
section
variable {w w' : World} {base cv : Nat} {av : Option Addr} {ps : List (Int × Int)}
theorem OB.inRow (h : OB w base av cv ps) : InRow w av ps.length cv ps := by
  obtain ⟨h1, h2, h3, ⟨rfl, rfl⟩ | ⟨g, rfl, h4, h5⟩⟩ := h
  · exact ⟨rfl, h2, h3, h1, .inl rfl⟩
  · exact h5.inRow h1 h2 h3
theorem OB.later (h : OB w base av cv ps) (k : Below w.heap.size w w') : OB w' base av cv ps := by
  obtain ⟨h1, h2, h3, h4 | ⟨g, h4, h5, h6⟩⟩ := h
  · exact ⟨h1, h2, h3, .inl h4⟩
  · exact ⟨h1, h2, h3, .inr ⟨g, h4, h5, h6.old k⟩⟩
theorem OB.alloc (h : OB w base av cv ps) (o : Obj) : OB (w.alloc o) base av cv ps := h.later ((Below.refl _ _).alloc (Nat.le_refl _) o)
theorem OB.drew (h : OB w base av cv ps) : OB w.drew base av cv ps := h
theorem OB.kept {row : Option Nat} (h : OB w base av cv ps) (g : w.grownBy w' row) (hne : ∀ q, av = some q → some q.block ≠ row) : OB w' base av cv ps := by
  obtain ⟨h1, h2, h3, h4 | ⟨c, h4, h5, h6⟩⟩ := h
  · exact ⟨h1, h2, h3, .inl h4⟩
  · exact ⟨h1, h2, h3, .inr ⟨c, h4, h5, h6.kept g (hne _ h4)⟩⟩
theorem OB.lt (h : OB w base av cv ps) : ∀ q, av = some q → q.block < w.heap.size := by
  intro q e
  obtain ⟨h1, h2, h3, ⟨rfl, _⟩ | ⟨c, rfl, h5, h6⟩⟩ := h
  · cases e
  · cases e; exact h6.1
theorem OB.ge (h : OB w base av cv ps) : ∀ q, av = some q → base ≤ q.block := by
  intro q e
  obtain ⟨h1, h2, h3, ⟨rfl, _⟩ | ⟨c, rfl, h5, h6⟩⟩ := h
  · cases e
  · cases e; exact h5
theorem InRow.far {a : Option Addr} {len cap : Nat} (h : InRow w a len cap ps) : 0 < len → ∀ q, a = some q → q.block < w.heap.size := by
  intro h0 q e
  rcases h.2.2.2.2 with h5 | ⟨b, off, q1, q2, -⟩
  · omega
  · rw [q1] at e; cases e; exact q2
theorem InRow.kept' {a : Option Addr} {len cap : Nat} {row : Option Nat} (h : InRow w a len cap ps) (g : w.grownBy w' row) (hne : 0 < len → ∀ q, a = some q → some q.block ≠ row) : InRow w' a len cap ps := by
  by_cases h0 : 0 < len
  · exact h.kept g (hne h0)
  · exact ⟨h.1, h.2.1, h.2.2.1, h.2.2.2.1, .inl (by omega)⟩
end
theorem fits_nil : Fits [] := fun p hp => absurd hp (by simp)
def resL (r : Bool) (ps : List (Int × Int)) : List (Int × Int) := if r then ps else []
theorem BoxRes.ob {n0 : Nat} {w' : World} {e : Ending} {r : Bool} {ps : List (Int × Int)} (h : BoxRes n0 w' e r ps) (hf : r = true → Fits ps) : ∃ av cv, e = .returned (.tuple #[.agg #[.slice av (resL r ps).length cv], .bool r]) ∧ OB w' n0 av cv (resL r ps) := by
  rcases h with ⟨rfl, g, cap, he, h1, h2, h3, h4⟩ | ⟨rfl, he⟩
  · exact ⟨_, _, he, hf rfl, h2, h3, .inr ⟨g, rfl, h1, h4⟩⟩
  · exact ⟨none, 0, he, fits_nil, Nat.le_refl _, Nat.zero_le _, .inl ⟨rfl, rfl⟩⟩
theorem fits_made {n : Nat} {x y : Nat → Int} (h : ∀ k, k < n → (-9223372036854775808 ≤ x k ∧ x k ≤ 9223372036854775807) ∧ -9223372036854775808 ≤ y k ∧ y k ≤ 9223372036854775807) : Fits (madeL n x y) := by
  intro p hp
  unfold madeL at hp
  obtain ⟨i, hi, rfl⟩ := List.mem_map.1 hp
  exact h i (List.mem_range.1 hi)
end Go.Proofs.Ytpnfkigeagbhpaa

/- What draws of boxes carry along: lists that grow while a reader is read; boxes of bounds that are tight. No condition. -/
namespace Go.Proofs.Ytpnfkigeagbhpaa
open Go.RowKit
set_option linter.unusedVariables false
set_option maxRecDepth 100000

def Tgt (a : Int) : Prop := -9218868437227406400 ≤ a ∧ a ≤ 9218868437227406400
def Tight (ps : List (Int × Int)) : Prop := ∀ p ∈ ps, Tgt p.1 ∧ Tgt p.2
theorem Tight.nil : Tight [] := fun p hp => absurd hp (by simp)
theorem Tight.snoc {ps : List (Int × Int)} {x y : Int} (h : Tight ps) (hx : Tgt x) (hy : Tgt y) : Tight (ps ++ [(x, y)]) := by
  intro p hp
  rcases List.mem_append.1 hp with hp | hp
  · exact h p hp
  · rw [List.mem_singleton] at hp; subst hp; exact ⟨hx, hy⟩
theorem Tight.fits {ps : List (Int × Int)} (h : Tight ps) : Fits ps := by
  intro p hp
  have := h p hp
  unfold Tgt at this
  omega
theorem Tight.at {ps : List (Int × Int)} (h : Tight ps) {k : Nat} (hk : k < ps.length) {x y : Int} (hx : ps.getD k (0, 0) = (x, y)) : Tgt x ∧ Tgt y := by
  have e : ps[k] = (x, y) := by rw [← hx]; simp [List.getD_eq_getElem?_getD, hk]
  have := h ps[k] (List.getElem_mem hk)
  rw [e] at this
  exact this
theorem Fits.snoc {ps : List (Int × Int)} {x y : Int} (h : Fits ps) (hx : (-9223372036854775808 ≤ x ∧ x ≤ 9223372036854775807) ∧ -9223372036854775808 ≤ y ∧ y ≤ 9223372036854775807) : Fits (ps ++ [(x, y)]) := by
  intro p hp
  rcases List.mem_append.1 hp with hp | hp
  · exact h p hp
  · rw [List.mem_singleton] at hp; subst hp; exact hx
section
variable {w w' : World} {rb base : Nat} {v : Value} {ps : List (Int × Int)}
theorem but_grown (h : But rb w w') : w.grownBy w' (some rb) := ⟨h.os, h.tape, h.output, h.size, fun k hk hne => h.block k hk (fun e => hne (by rw [e]))⟩
theorem Cel1.but {b : Nat} {x : Value} (h : Cel1 w b x) (k : But rb w w') (hne : b ≠ rb) : Cel1 w' b x := h.kept (but_grown k) (by simpa using hne)
theorem Grows.but (h : Grows w base v ps) (k : But rb w w') (hlt : rb < base) : Grows w' base v ps := h.kept (but_grown k) (fun b e => by cases e; exact hlt)
theorem Grows.drewd (h : Grows w base v ps) : Grows w.drew base v ps := h.later (Below.drew (Below.refl _ _))
theorem OB.but {av : Option Addr} {cv : Nat} (h : OB w base av cv ps) (k : But rb w w') (hlt : rb < base) : OB w' base av cv ps :=
  h.kept (but_grown k) (fun q e e2 => by have := h.ge q e; injection e2 with e2; omega)
theorem InRow.but {a : Option Addr} {len cap : Nat} (h : InRow w a len cap ps) (k : But rb w w') (hne : 0 < len → ∀ q, a = some q → q.block ≠ rb) : InRow w' a len cap ps :=
  h.kept' (but_grown k) (fun h0 q e e2 => hne h0 q e (by injection e2))
theorem But.grown {w1 w2 : World} {row : Option Nat} (h : But rb w w1) (g : w1.grownBy w2 row) (hn : ∀ b, row = some b → w.heap.size ≤ b) : But rb w w2 :=
  ⟨g.os.trans h.os, g.tape.trans h.tape, g.output.trans h.output, Nat.le_trans h.size g.size, fun k hk hne => (g.block k (Nat.lt_of_lt_of_le hk h.size) (fun e => by have := hn k e.symm; omega)).trans (h.block k hk hne)⟩
theorem Rk.kept {k : Nat} {row : Option Nat} (h : Rk w rb k) (g : w.grownBy w' row) (hn : ∀ b, row = some b → rb < b) : Rk w' rb k := by
  obtain ⟨p, hp, a, len, cap, h0, h1, h2, h3, h4, h5, h6⟩ := h
  have e : w'.heap[rb]? = w.heap[rb]? := g.block rb h0 (fun e => by have := hn rb e.symm; omega)
  refine ⟨p, hp, a, len, cap, Nat.lt_of_lt_of_le h0 g.size, (World.cell?_of_block (w := w) (a := ⟨rb, 0, none⟩) e).trans h1, (World.cell?_of_block (w := w) (a := ⟨rb, 1, none⟩) e).trans h2, (World.frozen?_of_block (w := w) (a := ⟨rb, 1, none⟩) e).trans h3, h4, h5, ?_⟩
  rcases h6 with h6 | ⟨bb, off, q1, q2, q3, q4⟩
  · exact .inl h6
  · refine .inr ⟨bb, off, q1, q2, Nat.lt_of_lt_of_le q3 g.size, fun i hi => ?_⟩
    obtain ⟨z, z0, z1, hz⟩ := q4 i hi
    exact ⟨z, z0, z1, (World.cell?_of_block (w := w) (a := ⟨bb, off + i, none⟩) (g.block bb q3 (fun e => by have := hn bb e.symm; omega))).trans hz⟩
theorem Grows.ob (h : Grows w base v ps) (f : Fits ps) : ∃ av cv, v = .slice av ps.length cv ∧ OB w base av cv ps := by
  by_cases h0 : 0 < ps.length
  · obtain ⟨g, cap, rfl, h1, h2, h3, h4⟩ := h.row h0
    exact ⟨_, _, rfl, f, h2, h3, .inr ⟨g, rfl, h1, h4⟩⟩
  · obtain rfl : ps = [] := List.length_eq_zero_iff.1 (by omega)
    rcases h.2 with ⟨h1, _⟩ | ⟨g, cap, cur, rfl, hb, hg, h1, h2, -, -⟩
    · exact ⟨_, _, h1, fits_nil, Nat.le_refl _, Nat.zero_le _, .inl ⟨rfl, rfl⟩⟩
    · exact ⟨_, _, rfl, fits_nil, h1, h2, .inr ⟨g, rfl, hb, (Array.getElem?_eq_some_iff.1 hg).1, fun i hi => absurd hi (by simp)⟩⟩
theorem Grows.snoc {g n : Nat} {cap : Nat} {x y : Int} (hl : ps.length = n) (h : w.ownsRow base 42 2 (.slice (some ⟨g, 0, none⟩) (n + 1) cap) (n + 1) (flat ps ++ [.int .i64 x, .int .i64 y])) : Grows w base (.slice (some ⟨g, 0, none⟩) (n + 1) cap) (ps ++ [(x, y)]) := by
  subst hl
  unfold Grows
  rw [flat_snoc, List.length_append]
  exact h
theorem OB.mono' {av : Option Addr} {b b' cv : Nat} (h : OB w b av cv ps) (hb : b' ≤ b) : OB w b' av cv ps := by
  obtain ⟨h1, h2, h3, h4 | ⟨g, h4, h5, h6⟩⟩ := h
  · exact ⟨h1, h2, h3, .inl h4⟩
  · exact ⟨h1, h2, h3, .inr ⟨g, h4, Nat.le_trans hb h5, h6⟩⟩
theorem OB.set1 {av : Option Addr} {b cv : Nat} (h : OB w base av cv ps) (hb : b < base) (u : Value) : OB (w.setCell ⟨b, 0, none⟩ u) base av cv ps :=
  h.kept (grownBy_setCell' w b u) (fun q e e2 => by have := h.ge q e; injection e2 with e2; omega)
end
theorem made_rkB (w : World) (a : Option Addr) (len len' cap : Nat) (h : IsCode w a len cap) (hl : len' ≤ len) (h2 : len' ≤ 2000) : Rk (w.alloc (.cells #[.slice a len' cap, .int .i64 0] 73)) w.heap.size 100000 := by
  obtain ⟨p, hp, hr⟩ := made_rk w a len len' cap h hl h2
  have hr' := hr
  obtain ⟨_, _, _, _, _, h3, _⟩ := hr'
  have e : p = 0 := by simpa using h3.symm
  exact ⟨0, by omega, e ▸ hr⟩
theorem open_kB (w : World) (a : Option Addr) (len cap : Nat) (h : IsCode w a len cap) :
    Calls Try.prog 25 #[.slice a len cap] w fun e w' => e = .returned (.pointer (some ⟨w.heap.size, 0, none⟩)) ∧ ∃ o, w' = w.alloc o ∧ Rk (w.alloc o) w.heap.size 100000 := by
  by_cases hl : len ≤ 2000
  · refine (open_few w a len cap (by omega)).mono ?_
    rintro e w' ⟨rfl, rfl⟩
    exact ⟨rfl, _, rfl, made_rkB w a len len cap h (Nat.le_refl _) hl⟩
  · have h' := h
    obtain ⟨h1, h2, h3⟩ := h'
    rcases h3 with h3 | ⟨bb, off, rfl, q2, q3⟩
    · omega
    · refine (open_many w bb off len cap (by omega) (by omega) h2).mono ?_
      rintro e w' ⟨rfl, rfl⟩
      exact ⟨rfl, _, rfl, made_rkB w _ len 2000 cap h (by omega) (by omega)⟩
end Go.Proofs.Ytpnfkigeagbhpaa

/- What two boxes have in common: the specification's loop, the program's box of each place. Conditions: 2^20 pairs at most. -/
namespace Go.Proofs.Ytpnfkigeagbhpaa
open Go.RowKit
set_option linter.unusedVariables false
set_option maxRecDepth 100000

theorem cell_al' {w : World} {p : Addr} {v : Value} (c : w.cell? p = some v) (o : Obj) : (w.alloc o).cell? p = some v := (World.grownBy_alloc w o none).cell c (by simp)
def meetX (ps qs : List (Int × Int)) (k : Nat) : Int := max (ps.getD k (0, 0)).1 (qs.getD k (0, 0)).1
def meetY (ps qs : List (Int × Int)) (k : Nat) : Int := min (ps.getD k (0, 0)).2 (qs.getD k (0, 0)).2
def meetAt (ps qs : List (Int × Int)) (k : Nat) : Bool := decide (meetX ps qs k ≤ meetY ps qs k)
def meetL (ps qs : List (Int × Int)) : List (Int × Int) := madeL ps.length (meetX ps qs) (meetY ps qs)
def meetRow (wd : Int) (ps qs : List (Int × Int)) : Bool := okRow wd ps && (okRow wd qs && (decide (ps.length = qs.length) && allI ps.length (fun k => meetAt ps qs k)))
theorem meetRow_no1 {wd : Int} {ps qs : List (Int × Int)} (h : okRow wd ps = false) : meetRow wd ps qs = false := by unfold meetRow; rw [h]; rfl
theorem meetRow_no2 {wd : Int} {ps qs : List (Int × Int)} (h : okRow wd qs = false) : meetRow wd ps qs = false := by unfold meetRow; rw [h]; simp
theorem meetRow_no3 {wd : Int} {ps qs : List (Int × Int)} (h : ps.length ≠ qs.length) : meetRow wd ps qs = false := by unfold meetRow; simp [h]
theorem meetRow_yes {wd : Int} {ps qs : List (Int × Int)} {len : Nat} (h : okRow wd ps = true) (h' : okRow wd qs = true) (hp : ps.length = len) (hq : qs.length = len) : meetRow wd ps qs = allI len (fun k => meetAt ps qs k) := by unfold meetRow; rw [h, h', hp, hq]; simp
set_option maxHeartbeats 4000000 in
theorem sBoxMeet (wd : Int) (a a' : Option Addr) (len len' cap cap' : Nat) (ps qs : List (Int × Int)) (w : World) (hR : InRow w a len cap ps) (hR' : InRow w a' len' cap' qs) :
    Calls Try.prog 15 #[.int .i64 wd, .agg #[.slice a len cap], .agg #[.slice a' len' cap']] w fun e w' => BoxRes w.heap.size w' e (meetRow wd ps qs) (meetL ps qs) ∧ Below w.heap.size w w' := by
  have hlen : len ≤ maxLen := Nat.le_trans hR.2.1 hR.2.2.1
  have hlen' : len' ≤ maxLen := Nat.le_trans hR'.2.1 hR'.2.2.1
  have hp := hR.1
  have hq := hR'.1
  unfold maxLen at hlen hlen'
  have hB : Below w.heap.size w (((w.alloc (.cells #[.slice a len cap] 25)).alloc (.cells #[.slice a' len' cap'] 25)).alloc (.cells #[.slice none 0 0] 25)) := (by repeat (first | exact Below.refl _ _ | refine Below.drew ?_ | refine old_alloc ?_ _ | refine old_trans ?_ (by assumption)))
  have K : Cel1 (((w.alloc (.cells #[.slice a len cap] 25)).alloc (.cells #[.slice a' len' cap'] 25)).alloc (.cells #[.slice none 0 0] 25)) w.heap.size (.slice a len cap) := ((Cel1.made _ _ (by simp) _ _).alloc _).alloc _
  have M : Cel1 (((w.alloc (.cells #[.slice a len cap] 25)).alloc (.cells #[.slice a' len' cap'] 25)).alloc (.cells #[.slice none 0 0] 25)) (w.heap.size + 1) (.slice a' len' cap') := (Cel1.made _ _ (by simp) _ _).alloc _
  have O : Cel1 (((w.alloc (.cells #[.slice a len cap] 25)).alloc (.cells #[.slice a' len' cap'] 25)).alloc (.cells #[.slice none 0 0] 25)) (w.heap.size + 1 + 1) (.slice none 0 0) := Cel1.made _ _ (by simp) _ _
  have R := hR.old hB
  have R' := hR'.old hB
  have S1 := hd (sBoxOk wd a len cap ps _ R)
  have S2 := hd (fun w h => sBoxOk wd a' len' cap' qs w h)
  cases h1 : okRow wd ps
  · rw [h1] at S1
    rw [meetRow_no1 h1]
    clear h1
    go_enter Try.func15, Try.ntmps15
    go_wp2_with fail
    refine S1.out.mono ?_
    rintro e wa ⟨rfl, hba⟩
    replace K := K.later hba
    replace M := M.later hba
    replace O := O.later hba
    replace R := R.old hba
    replace R' := R'.old hba
    replace hB := old_trans hB hba
    obtain ⟨m0, m1, m2⟩ := id O
    go_wp2
    refine bodyPost_ret (v := .tuple #[.agg #[.slice none 0 0], .bool false]) ?_ rfl ⟨.inr ⟨rfl, rfl⟩, hB.setCell (p := ⟨(w.heap.size + 1 + 1), 0, none⟩) (by simp <;> omega) _⟩
    simp [results, Try.results15, go_sem, m0]
  rw [h1] at S1
  cases h2 : okRow wd qs
  · rw [h2] at S2
    rw [meetRow_no2 h2]
    clear h1 h2
    go_enter Try.func15, Try.ntmps15
    go_wp2_with fail
    refine S1.out.mono ?_
    rintro e wa ⟨rfl, hba⟩
    replace K := K.later hba
    replace M := M.later hba
    replace O := O.later hba
    replace R := R.old hba
    replace R' := R'.old hba
    replace hB := old_trans hB hba
    have k0 := K.1
    have k2 := K.2.2
    have m0 := M.1
    have m2 := M.2.2
    have o0 := O.1
    have o2 := O.2.2
    go_wp2_with fail
    refine (S2.out _ R').mono ?_
    rintro e wb ⟨rfl, hbb⟩
    clear k0 k2 m0 m2 o0 o2
    replace K := K.later hbb
    replace M := M.later hbb
    replace O := O.later hbb
    replace R := R.old hbb
    replace R' := R'.old hbb
    replace hB := old_trans hB hbb
    obtain ⟨m0, m1, m2⟩ := id O
    go_wp2
    refine bodyPost_ret (v := .tuple #[.agg #[.slice none 0 0], .bool false]) ?_ rfl ⟨.inr ⟨rfl, rfl⟩, hB.setCell (p := ⟨(w.heap.size + 1 + 1), 0, none⟩) (by simp <;> omega) _⟩
    simp [results, Try.results15, go_sem, m0]
  rw [h2] at S2
  by_cases hll : len = len'
  case neg =>
    have c2 : ((len : Int) != (len' : Int)) = true := by rw [bne_iff_ne]; omega
    rw [meetRow_no3 (by omega)]
    clear h1 h2
    go_enter Try.func15, Try.ntmps15
    go_wp2_with fail
    refine S1.out.mono ?_
    rintro e wa ⟨rfl, hba⟩
    replace K := K.later hba
    replace M := M.later hba
    replace O := O.later hba
    replace R := R.old hba
    replace R' := R'.old hba
    replace hB := old_trans hB hba
    have k0 := K.1
    have k2 := K.2.2
    have m0 := M.1
    have m2 := M.2.2
    have o0 := O.1
    have o2 := O.2.2
    go_wp2_with fail
    refine (S2.out _ R').mono ?_
    rintro e wb ⟨rfl, hbb⟩
    clear k0 k2 m0 m2 o0 o2
    replace K := K.later hbb
    replace M := M.later hbb
    replace O := O.later hbb
    replace R := R.old hbb
    replace R' := R'.old hbb
    replace hB := old_trans hB hbb
    have k0 := K.1
    have k2 := K.2.2
    have m0 := M.1
    have m2 := M.2.2
    have o0 := O.1
    have o2 := O.2.2
    obtain ⟨m0, m1, m2⟩ := id O
    go_wp2
    refine bodyPost_ret (v := .tuple #[.agg #[.slice none 0 0], .bool false]) ?_ rfl ⟨.inr ⟨rfl, rfl⟩, hB.setCell (p := ⟨(w.heap.size + 1 + 1), 0, none⟩) (by simp <;> omega) _⟩
    simp [results, Try.results15, go_sem, m0]
  subst hll
  have hol := okRow_len h1
  have hr : Hid (meetRow wd ps qs = allI len (fun k => meetAt ps qs k)) := meetRow_yes h1 h2 hp hq
  have hall : Hid (∀ k, k < len → pokB wd (ps.getD k (0, 0)).1 (ps.getD k (0, 0)).2 = true ∧ pokB wd (qs.getD k (0, 0)).1 (qs.getD k (0, 0)).2 = true) := fun k hk => ⟨okRow_at h1 (by omega), okRow_at h2 (by omega)⟩
  clear h1 h2
  generalize meetRow wd ps qs = z at *
  have hL : meetL ps qs = madeL len (meetX ps qs) (meetY ps qs) := by unfold meetL; rw [hp]
  rw [hL]
  clear hL
  go_enter Try.func15, Try.ntmps15
  go_wp2_with fail
  refine S1.out.mono ?_
  rintro e wa ⟨rfl, hba⟩
  replace K := K.later hba
  replace M := M.later hba
  replace O := O.later hba
  replace R := R.old hba
  replace R' := R'.old hba
  replace hB := old_trans hB hba
  have k0 := K.1
  have k2 := K.2.2
  have m0 := M.1
  have m2 := M.2.2
  have o0 := O.1
  have o2 := O.2.2
  go_wp2_with fail
  refine (S2.out _ R').mono ?_
  rintro e wb ⟨rfl, hbb⟩
  clear k0 k2 m0 m2 o0 o2
  replace K := K.later hbb
  replace M := M.later hbb
  replace O := O.later hbb
  replace R := R.old hbb
  replace R' := R'.old hbb
  replace hB := old_trans hB hbb
  have k0 := K.1
  have k2 := K.2.2
  have m0 := M.1
  have m2 := M.2.2
  have o0 := O.1
  have o2 := O.2.2
  have hsz : w.heap.size + 1 + 1 + 1 ≤ wb.heap.size := by have := hba.size; have := hbb.size; simp at *; omega
  obtain ⟨b, off, -, -, rfl, hbl, -, -, -, -⟩ := hR.at (k := 0) (by omega)
  obtain ⟨b', off', -, -, rfl, hbl', -, -, -, -⟩ := hR'.at (k := 0) (by omega)
  obtain ⟨i0, hi, hz0, hz1, hz2⟩ := info_parts infoPair
  go_wp2
  go_loopw [9] (fun i wr => ∃ (k : Nat) (av : Option Addr) (nv cv : Nat), k ≤ len ∧ i = .int .i64 k ∧ Hid (∀ j, j < k → meetAt ps qs j = true) ∧ Grows wr (wb.heap.size + 1) (.slice av nv cv) (madeL k (meetX ps qs) (meetY ps qs)) ∧ Cel1 wr wb.heap.size (.slice av nv cv) ∧ Cel1 wr w.heap.size (.slice (some ⟨b, off, none⟩) len cap) ∧ Cel1 wr (w.heap.size + 1) (.slice (some ⟨b', off', none⟩) len cap') ∧ Cel1 wr (w.heap.size + 1 + 1) (.slice none 0 0) ∧ InRow wr (some ⟨b, off, none⟩) len cap ps ∧ InRow wr (some ⟨b', off', none⟩) len cap' qs ∧ wb.heap.size + 1 ≤ wr.heap.size ∧ Below w.heap.size w wr) (fun b _ => len - (intOf b).toNat)
  case atStart => exact ⟨0, none, 0, 0, by omega, rfl, fun j hj => absurd hj (by omega), Grows.nil _ _, Cel1.made _ _ rfl _ _, K.alloc _, M.alloc _, O.alloc _, R.alloc _, R'.alloc _, by simp, hB.alloc hB.size _⟩
  case round =>
    clear K M O R R' hB k0 k2 m0 m2 o0 o2
    obtain ⟨k, av, nv, cv, hk, rfl, hyes, G, Q, K, M, O, hRr, hRr', hszr, hb⟩ := hrel
    obtain ⟨k0, k1, k2⟩ := id K
    obtain ⟨m0, m1, m2⟩ := id M
    by_cases hlt : k < len
    · obtain ⟨b1, off1, x, y, ha, -, hx, ⟨⟨q1, q2⟩, q3, q4⟩, c0, c1⟩ := hRr.at hlt
      obtain ⟨b2, off2, x', y', ha', -, hx', ⟨⟨r1, r2⟩, r3, r4⟩, d0, d1⟩ := hRr'.at hlt
      obtain ⟨rfl, rfl⟩ : b = b1 ∧ off = off1 := by injection ha with ha; injection ha with h1 h2; exact ⟨h1, h2⟩
      obtain ⟨rfl, rfl⟩ : b' = b2 ∧ off' = off2 := by injection ha' with ha'; injection ha' with h1 h2; exact ⟨h1, h2⟩
      clear ha ha'
      have hpk := hall.out k hlt
      rw [hx, hx'] at hpk
      have E := hd (sPairMeet wd x y x' y')
      have hX : meetX ps qs k = max x x' := by unfold meetX; rw [hx, hx']
      have hY : meetY ps qs k = min y y' := by unfold meetY; rw [hx, hx']
      have hm := madeL_snoc k (meetX ps qs) (meetY ps qs)
      have hmt : meetB wd x y x' y' = meetAt ps qs k := by
        unfold meetAt; rw [hX, hY]; unfold meetB; rw [show pokB wd x y = true from hpk.1, show pokB wd x' y' = true from hpk.2]; rfl
      rw [hX, hY] at hm
      rw [hmt] at E
      clear hX hY hpk hmt
      generalize max x x' = u at *
      generalize min y y' = v at *
      cases hok : meetAt ps qs k
      · rw [hok] at E
        have hno : Hid (z = false) := hr.out.trans (allI_no hlt hok)
        have E' : Hid (∀ w : World, Calls Try.prog 43 #[.int .i64 wd, .agg #[.int .i64 x, .int .i64 y], .agg #[.int .i64 x', .int .i64 y']] w fun e w' => e = .returned (.tuple #[.agg #[.int .i64 0, .int .i64 0], .bool false]) ∧ Below w.heap.size w w') := E
        clear E hok
        have lp : b < wr.heap.size := World.block_lt_of_cell? _ _ c0
        have lp1 := Nat.ne_of_lt lp
        have lp2 := Nat.ne_of_gt lp
        have lq : b' < wr.heap.size := World.block_lt_of_cell? _ _ d0
        have lq1 := Nat.ne_of_lt lq
        have lq2 := Nat.ne_of_gt lq
        have lr : w.heap.size < wr.heap.size := World.block_lt_of_cell? _ _ k0
        have lr1 := Nat.ne_of_lt lr
        have lr2 := Nat.ne_of_gt lr
        have ls : w.heap.size + 1 < wr.heap.size := World.block_lt_of_cell? _ _ m0
        have ls1 := Nat.ne_of_lt ls
        have ls2 := Nat.ne_of_gt ls
        go_upto_region 7 with fail
        go_cut [10, 11] (fun s t wx => ∃ pb, s = .pointer (some ⟨pb, 0, none⟩) ∧ t = .bool false ∧ Cel2 wx pb (.int .i64 0) (.int .i64 0) ∧ Below wr.heap.size wr wx)
        case first =>
          go_wp2_with fail
          go_region_held3 (fun w' => w'.cell? ⟨b, off + k * 2, none⟩ = some (.int .i64 x) ∧ w'.cell? ⟨b, off + k * 2 + 1, none⟩ = some (.int .i64 y) ∧ w'.cell? ⟨b', off' + k * 2, none⟩ = some (.int .i64 x') ∧ w'.cell? ⟨b', off' + k * 2 + 1, none⟩ = some (.int .i64 y') ∧ w'.cell? ⟨w.heap.size, 0, none⟩ = some (.slice (some ⟨b, off, none⟩) len cap) ∧ w'.cell? ⟨w.heap.size + 1, 0, none⟩ = some (.slice (some ⟨b', off', none⟩) len cap')) (go_keep) (first | (go_at_call 43; refine (E'.out _).mono ?_; rintro e wx ⟨rfl, hbx⟩; have c0 := (by first | exact cell_later hbx c0 | exact cell_later hbx (cell_al' c0 _)); have c1 := (by first | exact cell_later hbx c1 | exact cell_later hbx (cell_al' c1 _)); have d0 := (by first | exact cell_later hbx d0 | exact cell_later hbx (cell_al' d0 _)); have d1 := (by first | exact cell_later hbx d1 | exact cell_later hbx (cell_al' d1 _)); have k0 := (by first | exact cell_later hbx k0 | exact cell_later hbx (cell_al' k0 _)); have m0 := (by first | exact cell_later hbx m0 | exact cell_later hbx (cell_al' m0 _)); have lp : b < wx.heap.size := World.block_lt_of_cell? _ _ c0; have lp1 := Nat.ne_of_lt lp; have lp2 := Nat.ne_of_gt lp; have lq : b' < wx.heap.size := World.block_lt_of_cell? _ _ d0; have lq1 := Nat.ne_of_lt lq; have lq2 := Nat.ne_of_gt lq; have lr : w.heap.size < wx.heap.size := World.block_lt_of_cell? _ _ k0; have lr1 := Nat.ne_of_lt lr; have lr2 := Nat.ne_of_gt lr; have ls : w.heap.size + 1 < wx.heap.size := World.block_lt_of_cell? _ _ m0; have ls1 := Nat.ne_of_lt ls; have ls2 := Nat.ne_of_gt ls; (first | (have N := (Cel2.made _ _ rfl (.int .i64 0) (.int .i64 0) 42).later hbx; (try simp only [World.size_alloc] at N); have N0 := N.1; have N1 := N.2.1; have N2 := N.2.2.1; have N3 := N.2.2.2.1; have Nz := N.2.2.2.2; have Nn := Nat.ne_of_lt Nz; have No := Nat.ne_of_gt Nz) | (have N := (Cel2.made _ _ rfl (.int .i64 0) (.int .i64 0) 42).drew.later hbx; (try simp only [World.size_alloc] at N); have N0 := N.1; have N1 := N.2.1; have N2 := N.2.2.1; have N3 := N.2.2.2.1; have Nz := N.2.2.2.2; have Nn := Nat.ne_of_lt Nz; have No := Nat.ne_of_gt Nz) | skip)))
          all_goals
            go_wp2_with fail
            go_meet
            exact ⟨_, rfl, rfl, (by repeat (with_reducible first | exact N.stored _ _ | exact N.drew.stored _ _ | exact N | exact Cel2.made _ _ rfl _ _ _ | exact (Cel2.made _ _ rfl _ _ _).stored _ _ | exact (Cel2.made _ _ rfl _ _ _).drew.stored _ _ | refine Cel2.drew ?_)), (by repeat (first | exact Below.refl _ _ | refine Below.drew ?_ | refine Below.setCell ?_ (by first | (simp; done) | omega | (simp; omega)) _ | refine old_alloc ?_ _ | refine old_trans ?_ (by assumption)))⟩
        case rest =>
          obtain ⟨pb, rfl, rfl, N, hbx⟩ := hcut
          clear E' k0 k1 k2 m0 m1 m2 c0 c1 d0 d1 lp lp1 lp2 lq lq1 lq2 lr lr1 lr2 ls ls1 ls2
          replace K := K.later hbx
          replace M := M.later hbx
          replace O := O.later hbx
          replace Q := Q.later hbx
          replace hRr := hRr.old hbx
          replace hRr' := hRr'.old hbx
          replace G := G.later hbx
          replace hb := old_trans hb hbx
          have hs1 := Nat.le_trans hszr hbx.size
          obtain ⟨n0, n1, n2, n3, n4⟩ := id N
          obtain ⟨o0, o1, o2⟩ := id O
          go_wp2
          refine bodyPost_ret (v := .tuple #[.agg #[.slice none 0 0], .bool false]) ?_ rfl ⟨.inr ⟨hno.out, rfl⟩, hb.setCell (p := ⟨w.heap.size + 1 + 1, 0, none⟩) (by simp <;> omega) _⟩
          simp [results, Try.results15, go_sem, o0]
      · rw [hok] at E
        have hyes' : Hid (∀ j, j < k + 1 → meetAt ps qs j = true) := by
          intro j hj
          by_cases e : j = k
          · subst e; exact hok
          · exact hyes j (by omega)
        have E' : Hid (∀ w : World, Calls Try.prog 43 #[.int .i64 wd, .agg #[.int .i64 x, .int .i64 y], .agg #[.int .i64 x', .int .i64 y']] w fun e w' => e = .returned (.tuple #[.agg #[.int .i64 u, .int .i64 v], .bool true]) ∧ Below w.heap.size w w') := E
        clear E hok
        have lp : b < wr.heap.size := World.block_lt_of_cell? _ _ c0
        have lp1 := Nat.ne_of_lt lp
        have lp2 := Nat.ne_of_gt lp
        have lq : b' < wr.heap.size := World.block_lt_of_cell? _ _ d0
        have lq1 := Nat.ne_of_lt lq
        have lq2 := Nat.ne_of_gt lq
        have lr : w.heap.size < wr.heap.size := World.block_lt_of_cell? _ _ k0
        have lr1 := Nat.ne_of_lt lr
        have lr2 := Nat.ne_of_gt lr
        have ls : w.heap.size + 1 < wr.heap.size := World.block_lt_of_cell? _ _ m0
        have ls1 := Nat.ne_of_lt ls
        have ls2 := Nat.ne_of_gt ls
        go_upto_region 7 with fail
        go_cut [10, 11] (fun s t wx => ∃ pb, s = .pointer (some ⟨pb, 0, none⟩) ∧ t = .bool true ∧ Cel2 wx pb (.int .i64 u) (.int .i64 v) ∧ Below wr.heap.size wr wx)
        case first =>
          go_wp2_with fail
          go_region_held3 (fun w' => w'.cell? ⟨b, off + k * 2, none⟩ = some (.int .i64 x) ∧ w'.cell? ⟨b, off + k * 2 + 1, none⟩ = some (.int .i64 y) ∧ w'.cell? ⟨b', off' + k * 2, none⟩ = some (.int .i64 x') ∧ w'.cell? ⟨b', off' + k * 2 + 1, none⟩ = some (.int .i64 y') ∧ w'.cell? ⟨w.heap.size, 0, none⟩ = some (.slice (some ⟨b, off, none⟩) len cap) ∧ w'.cell? ⟨w.heap.size + 1, 0, none⟩ = some (.slice (some ⟨b', off', none⟩) len cap')) (go_keep) (first | (go_at_call 43; refine (E'.out _).mono ?_; rintro e wx ⟨rfl, hbx⟩; have c0 := (by first | exact cell_later hbx c0 | exact cell_later hbx (cell_al' c0 _)); have c1 := (by first | exact cell_later hbx c1 | exact cell_later hbx (cell_al' c1 _)); have d0 := (by first | exact cell_later hbx d0 | exact cell_later hbx (cell_al' d0 _)); have d1 := (by first | exact cell_later hbx d1 | exact cell_later hbx (cell_al' d1 _)); have k0 := (by first | exact cell_later hbx k0 | exact cell_later hbx (cell_al' k0 _)); have m0 := (by first | exact cell_later hbx m0 | exact cell_later hbx (cell_al' m0 _)); have lp : b < wx.heap.size := World.block_lt_of_cell? _ _ c0; have lp1 := Nat.ne_of_lt lp; have lp2 := Nat.ne_of_gt lp; have lq : b' < wx.heap.size := World.block_lt_of_cell? _ _ d0; have lq1 := Nat.ne_of_lt lq; have lq2 := Nat.ne_of_gt lq; have lr : w.heap.size < wx.heap.size := World.block_lt_of_cell? _ _ k0; have lr1 := Nat.ne_of_lt lr; have lr2 := Nat.ne_of_gt lr; have ls : w.heap.size + 1 < wx.heap.size := World.block_lt_of_cell? _ _ m0; have ls1 := Nat.ne_of_lt ls; have ls2 := Nat.ne_of_gt ls; (first | (have N := (Cel2.made _ _ rfl (.int .i64 0) (.int .i64 0) 42).later hbx; (try simp only [World.size_alloc] at N); have N0 := N.1; have N1 := N.2.1; have N2 := N.2.2.1; have N3 := N.2.2.2.1; have Nz := N.2.2.2.2; have Nn := Nat.ne_of_lt Nz; have No := Nat.ne_of_gt Nz) | (have N := (Cel2.made _ _ rfl (.int .i64 0) (.int .i64 0) 42).drew.later hbx; (try simp only [World.size_alloc] at N); have N0 := N.1; have N1 := N.2.1; have N2 := N.2.2.1; have N3 := N.2.2.2.1; have Nz := N.2.2.2.2; have Nn := Nat.ne_of_lt Nz; have No := Nat.ne_of_gt Nz) | skip)))
          all_goals
            go_wp2_with fail
            go_meet
            exact ⟨_, rfl, rfl, (by repeat (with_reducible first | exact N.stored _ _ | exact N.drew.stored _ _ | exact N | exact Cel2.made _ _ rfl _ _ _ | exact (Cel2.made _ _ rfl _ _ _).stored _ _ | exact (Cel2.made _ _ rfl _ _ _).drew.stored _ _ | refine Cel2.drew ?_)), (by repeat (first | exact Below.refl _ _ | refine Below.drew ?_ | refine Below.setCell ?_ (by first | (simp; done) | omega | (simp; omega)) _ | refine old_alloc ?_ _ | refine old_trans ?_ (by assumption)))⟩
        case rest =>
          obtain ⟨pb, rfl, rfl, N, hbx⟩ := hcut
          clear E' k0 k1 k2 m0 m1 m2 c0 c1 d0 d1 lp lp1 lp2 lq lq1 lq2 lr lr1 lr2 ls ls1 ls2
          replace K := K.later hbx
          replace M := M.later hbx
          replace O := O.later hbx
          replace Q := Q.later hbx
          replace hRr := hRr.old hbx
          replace hRr' := hRr'.old hbx
          replace G := G.later hbx
          replace hb := old_trans hb hbx
          have hs1 := Nat.le_trans hszr hbx.size
          obtain ⟨n0, n1, n2, n3, n4⟩ := id N
          have O2 := O.alloc (.cells #[.int .i64 u, .int .i64 v] 42)
          have Q2 := Q.alloc (.cells #[.int .i64 u, .int .i64 v] 42)
          have K2 := K.alloc (.cells #[.int .i64 u, .int .i64 v] 42)
          have M2 := M.alloc (.cells #[.int .i64 u, .int .i64 v] 42)
          have R2 := hRr.alloc (.cells #[.int .i64 u, .int .i64 v] 42)
          have R2' := hRr'.alloc (.cells #[.int .i64 u, .int .i64 v] 42)
          have G2 := G.alloc (.cells #[.int .i64 u, .int .i64 v] 42)
          have B2 : Below w.heap.size w (wc.alloc (.cells #[.int .i64 u, .int .i64 v] 42)) := hb.alloc hb.size _
          have cw := cells_two wc wc.heap.size rfl (.int .i64 u) (.int .i64 v) 42
          obtain ⟨o0, o1, o2⟩ := id Q
          have hml := madeL_length k (meetX ps qs) (meetY ps qs)
          clear hbx hszr
          go_wp2_with (at_builtin; refine wpList_append_own _ rfl _ _ 23 rfl (wb.heap.size + 1) 42 i0 _ 2 16 Try.underlying23 hi hz0 hz1 hz2 rfl (by decide) _ _ _ rfl G2 ⟨wc.heap.size, 0, none⟩ 1 1 [.int .i64 u, .int .i64 v] rfl rfl cw (by simp [Value.oneCell']) (by rw [hml]; unfold maxLen; omega) (by rw [hml]; omega) (by simp; omega) ?_; intro v' w5 hown hgrow _; rw [hml] at hown; obtain ⟨g', cap', rfl⟩ := ownsRow_succ hown; have Q5 := Q2.kept hgrow (G2.far (by omega)); have o5 := Q5.1; have f5 := Q5.2.1; have l5 := Q5.2.2)
          have G5 : Grows w5 (wb.heap.size + 1) (.slice (some ⟨g', 0, none⟩) (k + 1) cap') (madeL (k + 1) (meetX ps qs) (meetY ps qs)) := by
            rw [hm]
            unfold Grows
            rw [flat_snoc, List.length_append, hml]
            exact hown
          have K5 := K2.kept hgrow (G2.far (by omega))
          have M5 := M2.kept hgrow (G2.far (by omega))
          have O5 := O2.kept hgrow (G2.far (by omega))
          have R5 := R2.kept hgrow (fun q e => by cases e; exact G2.far (by show b < _; omega))
          have R5' := R2'.kept hgrow (fun q e => by cases e; exact G2.far (by show b' < _; omega))
          have B5 := B2.grown hgrow B2.size (fun c e => by have := (World.ownsRow.lt G2 c e).1; omega)
          have S5 := hgrow.size
          go_roundw
          case rel => exact ⟨k + 1, _, _, _, by omega, by go_num, hyes', G5.set (by omega) _, Q5.set _, K5.other _ (by simp <;> omega) _, M5.other _ (by simp <;> omega) _, O5.other _ (by simp <;> omega) _, R5.set _ _ (fun q e => by cases e; simp <;> omega), R5'.set _ _ (fun q e => by cases e; simp <;> omega), by simp [World.setCell]; simp at S5; omega, B5.setCell (p := ⟨wb.heap.size, 0, none⟩) (by simp <;> omega) _⟩
          case measure => simp [intOf]; omega
    · obtain rfl : k = len := by omega
      have hyz : Hid (z = true) := hr.out.trans (allI_yes hyes)
      obtain ⟨g, cap2, hv, hg1, hg2, hg3, hrow⟩ := G.row (by rw [madeL_length]; omega)
      rw [madeL_length] at hv
      injection hv with e1 e2 e3
      subst e1 e2 e3
      obtain ⟨q0, q1, q2⟩ := id Q
      obtain ⟨o0, o1, o2⟩ := id O
      go_wp2
      refine bodyPost_ret (v := .tuple #[.agg #[.slice (some ⟨g, 0, none⟩) (madeL nv (meetX ps qs) (meetY ps qs)).length cv], .bool true]) ?_ rfl ⟨.inl ⟨hyz.out, g, cv, rfl, by omega, hg2, hg3, hrow.other ⟨w.heap.size + 1 + 1, 0, none⟩ (by simp <;> omega) _⟩, hb.setCell (p := ⟨w.heap.size + 1 + 1, 0, none⟩) (by simp <;> omega) _⟩
      simp [results, Try.results15, go_sem, o0, madeL_length]
end Go.Proofs.Ytpnfkigeagbhpaa

/- What two boxes have in common, by the program. Conditions: 2^20 pairs at most. -/
namespace Go.Proofs.Ytpnfkigeagbhpaa
open Go.RowKit
set_option linter.unusedVariables false
set_option maxRecDepth 100000

theorem fits_at {ps : List (Int × Int)} (h : Fits ps) {k : Nat} (hk : k < ps.length) : (-9223372036854775808 ≤ (ps.getD k (0, 0)).1 ∧ (ps.getD k (0, 0)).1 ≤ 9223372036854775807) ∧ -9223372036854775808 ≤ (ps.getD k (0, 0)).2 ∧ (ps.getD k (0, 0)).2 ≤ 9223372036854775807 := by
  have e : ps.getD k (0, 0) = ps[k] := by rw [List.getD_eq_getElem?_getD, List.getElem?_eq_getElem hk]; rfl
  rw [e]
  exact h _ (List.getElem_mem _)
theorem meetRow_len {wd : Int} {ps qs : List (Int × Int)} (h : meetRow wd ps qs = true) : ps.length = qs.length := by
  unfold meetRow at h
  simp at h
  exact h.2.2.1
theorem madeL_congr {n : Nat} {x y x' y' : Nat → Int} (h : ∀ k, k < n → x k = x' k ∧ y k = y' k) : madeL n x y = madeL n x' y' := by
  unfold madeL
  apply List.map_congr_left
  intro k hk
  rw [(h k (List.mem_range.1 hk)).1, (h k (List.mem_range.1 hk)).2]

set_option maxHeartbeats 4000000 in
theorem iBoxMeet1 (wd : Int) (a a' : Option Addr) (len cap cap' : Nat) (ps qs : List (Int × Int)) (A B C k : Nat) (hk : k < len) (w : World) (hR : InRow w a len cap ps) (hR' : InRow w a' len cap' qs) (hA : w.cell? ⟨A, 0, none⟩ = some (.int .i64 wd)) (hB : w.cell? ⟨B, 0, none⟩ = some (.slice a len cap)) (hC : w.cell? ⟨C, 0, none⟩ = some (.slice a' len cap'))
    (hpk : pokB wd (ps.getD k (0, 0)).1 (ps.getD k (0, 0)).2 = true ∧ pokB wd (qs.getD k (0, 0)).1 (qs.getD k (0, 0)).2 = true) :
    Calls Try.prog 41 #[.int .i64 (k : Int), .pointer (some ⟨A, 0, none⟩), .pointer (some ⟨B, 0, none⟩), .pointer (some ⟨C, 0, none⟩)] w fun e w' => e = .returned (.tuple #[.agg #[.int .i64 (if meetAt ps qs k then meetX ps qs k else 0), .int .i64 (if meetAt ps qs k then meetY ps qs k else 0)], .bool (meetAt ps qs k)]) ∧ Below w.heap.size w w' := by
  have hlen : len ≤ maxLen := Nat.le_trans hR.2.1 hR.2.2.1
  unfold maxLen at hlen
  obtain ⟨b, off, x, y, rfl, hbl, hx, -, c0, c1⟩ := (hR.alloc (.cells #[.int .i64 0, .int .i64 0] 42)).at hk
  obtain ⟨b', off', x', y', rfl, hbl', hx', -, d0, d1⟩ := (hR'.alloc (.cells #[.int .i64 0, .int .i64 0] 42)).at hk
  have A1 := cell_al' hA (.cells #[.int .i64 0, .int .i64 0] 42)
  have B1 := cell_al' hB (.cells #[.int .i64 0, .int .i64 0] 42)
  have C1 := cell_al' hC (.cells #[.int .i64 0, .int .i64 0] 42)
  have N : Cel2 (w.alloc (.cells #[.int .i64 0, .int .i64 0] 42)) w.heap.size (.int .i64 0) (.int .i64 0) := Cel2.made w _ rfl _ _ _
  have hb0 : Below w.heap.size w (w.alloc (.cells #[.int .i64 0, .int .i64 0] 42)) := old_alloc (Below.refl _ _) _
  have E := hd (iPairMeet wd x y x' y')
  have hX : meetX ps qs k = max x x' := by unfold meetX; rw [hx, hx']
  have hY : meetY ps qs k = min y y' := by unfold meetY; rw [hx, hx']
  rw [hx, hx'] at hpk
  have hmt : meetB wd x y x' y' = meetAt ps qs k := by
    unfold meetAt; rw [hX, hY]; unfold meetB; rw [show pokB wd x y = true from hpk.1, show pokB wd x' y' = true from hpk.2]; rfl
  rw [hmt, pairV_eq] at E
  rw [hX, hY]
  clear hX hY hpk hmt hR hR' hA hB hC hx hx'
  generalize (if meetAt ps qs k then max x x' else 0) = u at *
  generalize (if meetAt ps qs k then min y y' else 0) = v at *
  generalize meetAt ps qs k = r at *
  obtain ⟨n0, n1, n2, n3, n4⟩ := id N
  go_enter Try.func41, Try.ntmps41
  go_wp2_with fail
  go_region_with (go_at_call 42; refine (E.out _).mono ?_; rintro e w1 ⟨rfl, hb1⟩; have N := (by with_reducible first | exact N.later hb1 | exact N.drew.later hb1 : Cel2 w1 _ _ _); have n0 := N.1; have n1 := N.2.1; have n2 := N.2.2.1; have n3 := N.2.2.2.1; have n4 := N.2.2.2.2; have hb0 := (by with_reducible first | exact old_trans hb0 hb1 | exact old_trans hb0.drew hb1 : Below w.heap.size w w1))
  all_goals
    go_wp2
    have N2 := N.stored (.int .i64 u) (.int .i64 v)
    refine bodyPost_ret (v := .tuple #[.agg #[.int .i64 u, .int .i64 v], .bool r]) ?_ rfl ⟨rfl, (hb0.setCell (p := ⟨w.heap.size, 0, none⟩) (Nat.le_refl _) _).setCell (p := ⟨w.heap.size, 1, none⟩) (Nat.le_refl _) _⟩
    simp [results, Try.results41, go_sem, N2.1, N2.2.1]

set_option maxHeartbeats 4000000 in
theorem iBoxMeet (wd : Int) (a a' : Option Addr) (len len' cap cap' : Nat) (ps qs : List (Int × Int)) (w : World) (hR : InRow w a len cap ps) (hR' : InRow w a' len' cap' qs) :
    Calls Try.prog 14 #[.int .i64 wd, .agg #[.slice a len cap], .agg #[.slice a' len' cap']] w fun e w' => BoxRes w.heap.size w' e (meetRow wd ps qs) (meetL ps qs) ∧ Below w.heap.size w w' := by
  have hlen : len ≤ maxLen := Nat.le_trans hR.2.1 hR.2.2.1
  have hlen' : len' ≤ maxLen := Nat.le_trans hR'.2.1 hR'.2.2.1
  have hp := hR.1
  have hq := hR'.1
  unfold maxLen at hlen hlen'
  have hB : Below w.heap.size w ((((w.alloc (.cells #[.int .i64 wd] 3)).alloc (.cells #[.slice a len cap] 25)).alloc (.cells #[.slice a' len' cap'] 25)).alloc (.cells #[.slice none 0 0] 25)) := (by repeat (first | exact Below.refl _ _ | refine Below.drew ?_ | refine old_alloc ?_ _ | refine old_trans ?_ (by assumption)))
  have V : Cel1 ((((w.alloc (.cells #[.int .i64 wd] 3)).alloc (.cells #[.slice a len cap] 25)).alloc (.cells #[.slice a' len' cap'] 25)).alloc (.cells #[.slice none 0 0] 25)) w.heap.size (.int .i64 wd) := (((Cel1.made w _ rfl _ _).alloc _).alloc _).alloc _
  have K : Cel1 ((((w.alloc (.cells #[.int .i64 wd] 3)).alloc (.cells #[.slice a len cap] 25)).alloc (.cells #[.slice a' len' cap'] 25)).alloc (.cells #[.slice none 0 0] 25)) (w.heap.size + 1) (.slice a len cap) := ((Cel1.made _ _ (by simp) _ _).alloc _).alloc _
  have M : Cel1 ((((w.alloc (.cells #[.int .i64 wd] 3)).alloc (.cells #[.slice a len cap] 25)).alloc (.cells #[.slice a' len' cap'] 25)).alloc (.cells #[.slice none 0 0] 25)) (w.heap.size + 1 + 1) (.slice a' len' cap') := (Cel1.made _ _ (by simp) _ _).alloc _
  have O : Cel1 ((((w.alloc (.cells #[.int .i64 wd] 3)).alloc (.cells #[.slice a len cap] 25)).alloc (.cells #[.slice a' len' cap'] 25)).alloc (.cells #[.slice none 0 0] 25)) (w.heap.size + 1 + 1 + 1) (.slice none 0 0) := Cel1.made _ _ (by simp) _ _
  have R := hR.old hB
  have R' := hR'.old hB
  have S1 := hd (iBoxOk wd a len cap ps _ R)
  have S2 := hd (fun w h => iBoxOk wd a' len' cap' qs w h)
  cases h1 : okRow wd ps
  · rw [h1] at S1
    rw [meetRow_no1 h1]
    clear h1
    go_enter Try.func14, Try.ntmps14
    go_wp2_with fail
    refine S1.out.mono ?_
    rintro e wa ⟨rfl, hba⟩
    replace V := V.later hba
    replace K := K.later hba
    replace M := M.later hba
    replace O := O.later hba
    replace R := R.old hba
    replace R' := R'.old hba
    replace hB := old_trans hB hba
    obtain ⟨m0, m1, m2⟩ := id O
    go_wp2
    refine bodyPost_ret (v := .tuple #[.agg #[.slice none 0 0], .bool false]) ?_ rfl ⟨.inr ⟨rfl, rfl⟩, hB.setCell (p := ⟨(w.heap.size + 1 + 1 + 1), 0, none⟩) (by simp <;> omega) _⟩
    simp [results, Try.results14, go_sem, m0]
  rw [h1] at S1
  cases h2 : okRow wd qs
  · rw [h2] at S2
    rw [meetRow_no2 h2]
    clear h1 h2
    go_enter Try.func14, Try.ntmps14
    go_wp2_with fail
    refine S1.out.mono ?_
    rintro e wa ⟨rfl, hba⟩
    replace V := V.later hba
    replace K := K.later hba
    replace M := M.later hba
    replace O := O.later hba
    replace R := R.old hba
    replace R' := R'.old hba
    replace hB := old_trans hB hba
    have v0 := V.1
    have v2 := V.2.2
    have k0 := K.1
    have k2 := K.2.2
    have m0 := M.1
    have m2 := M.2.2
    have o0 := O.1
    have o2 := O.2.2
    go_wp2_with fail
    refine (S2.out _ R').mono ?_
    rintro e wb ⟨rfl, hbb⟩
    clear v0 v2 k0 k2 m0 m2 o0 o2
    replace V := V.later hbb
    replace K := K.later hbb
    replace M := M.later hbb
    replace O := O.later hbb
    replace R := R.old hbb
    replace R' := R'.old hbb
    replace hB := old_trans hB hbb
    obtain ⟨m0, m1, m2⟩ := id O
    go_wp2
    refine bodyPost_ret (v := .tuple #[.agg #[.slice none 0 0], .bool false]) ?_ rfl ⟨.inr ⟨rfl, rfl⟩, hB.setCell (p := ⟨(w.heap.size + 1 + 1 + 1), 0, none⟩) (by simp <;> omega) _⟩
    simp [results, Try.results14, go_sem, m0]
  rw [h2] at S2
  by_cases hll : len = len'
  case neg =>
    have c2 : ((len : Int) != (len' : Int)) = true := by rw [bne_iff_ne]; omega
    rw [meetRow_no3 (by omega)]
    clear h1 h2
    go_enter Try.func14, Try.ntmps14
    go_wp2_with fail
    refine S1.out.mono ?_
    rintro e wa ⟨rfl, hba⟩
    replace V := V.later hba
    replace K := K.later hba
    replace M := M.later hba
    replace O := O.later hba
    replace R := R.old hba
    replace R' := R'.old hba
    replace hB := old_trans hB hba
    have v0 := V.1
    have v2 := V.2.2
    have k0 := K.1
    have k2 := K.2.2
    have m0 := M.1
    have m2 := M.2.2
    have o0 := O.1
    have o2 := O.2.2
    go_wp2_with fail
    refine (S2.out _ R').mono ?_
    rintro e wb ⟨rfl, hbb⟩
    clear v0 v2 k0 k2 m0 m2 o0 o2
    replace V := V.later hbb
    replace K := K.later hbb
    replace M := M.later hbb
    replace O := O.later hbb
    replace R := R.old hbb
    replace R' := R'.old hbb
    replace hB := old_trans hB hbb
    have v0 := V.1
    have v2 := V.2.2
    have k0 := K.1
    have k2 := K.2.2
    have m0 := M.1
    have m2 := M.2.2
    have o0 := O.1
    have o2 := O.2.2
    obtain ⟨m0, m1, m2⟩ := id O
    go_wp2
    refine bodyPost_ret (v := .tuple #[.agg #[.slice none 0 0], .bool false]) ?_ rfl ⟨.inr ⟨rfl, rfl⟩, hB.setCell (p := ⟨(w.heap.size + 1 + 1 + 1), 0, none⟩) (by simp <;> omega) _⟩
    simp [results, Try.results14, go_sem, m0]
  subst hll
  have hol := okRow_len h1
  have hr : Hid (meetRow wd ps qs = allI len (fun k => meetAt ps qs k)) := meetRow_yes h1 h2 hp hq
  have hall : Hid (∀ k, k < len → pokB wd (ps.getD k (0, 0)).1 (ps.getD k (0, 0)).2 = true ∧ pokB wd (qs.getD k (0, 0)).1 (qs.getD k (0, 0)).2 = true) := fun k hk => ⟨okRow_at h1 (by omega), okRow_at h2 (by omega)⟩
  clear h1 h2
  generalize meetRow wd ps qs = z at *
  have hL : meetL ps qs = madeL len (meetX ps qs) (meetY ps qs) := by unfold meetL; rw [hp]
  rw [hL]
  clear hL
  go_enter Try.func14, Try.ntmps14
  go_wp2_with fail
  refine S1.out.mono ?_
  rintro e wa ⟨rfl, hba⟩
  replace V := V.later hba
  replace K := K.later hba
  replace M := M.later hba
  replace O := O.later hba
  replace R := R.old hba
  replace R' := R'.old hba
  replace hB := old_trans hB hba
  have v0 := V.1
  have v2 := V.2.2
  have k0 := K.1
  have k2 := K.2.2
  have m0 := M.1
  have m2 := M.2.2
  have o0 := O.1
  have o2 := O.2.2
  go_wp2_with fail
  refine (S2.out _ R').mono ?_
  rintro e wb ⟨rfl, hbb⟩
  clear v0 v2 k0 k2 m0 m2 o0 o2
  replace V := V.later hbb
  replace K := K.later hbb
  replace M := M.later hbb
  replace O := O.later hbb
  replace R := R.old hbb
  replace R' := R'.old hbb
  replace hB := old_trans hB hbb
  have v0 := V.1
  have v2 := V.2.2
  have k0 := K.1
  have k2 := K.2.2
  have m0 := M.1
  have m2 := M.2.2
  have o0 := O.1
  have o2 := O.2.2
  go_wp2_with fail
  refine (ofEach 41 #[.pointer (some ⟨w.heap.size, 0, none⟩), .pointer (some ⟨w.heap.size + 1, 0, none⟩), .pointer (some ⟨w.heap.size + 1 + 1, 0, none⟩)] len (by omega) (fun k => if meetAt ps qs k then meetX ps qs k else 0) (fun k => if meetAt ps qs k then meetY ps qs k else 0) (fun k => meetAt ps qs k) wb (enters_of Try.func41 (by kernel_rfl) rfl)
    (fun k W hk hW => iBoxMeet1 wd a a' len cap cap' ps qs w.heap.size (w.heap.size + 1) (w.heap.size + 1 + 1) k hk W (R.old hW) (R'.old hW) (V.later hW).1 (K.later hW).1 (M.later hW).1 (hall.out k hk))).mono ?_
  have hsz : w.heap.size + 1 + 1 + 1 + 1 ≤ wb.heap.size := by have := hba.size; have := hbb.size; simp at *; omega
  rintro e w2 ⟨⟨hyes, g, rfl, hg, hrow⟩ | ⟨⟨k, hk, hno⟩, rfl⟩, hb2⟩
  · have hz : Hid (z = true) := hr.out.trans (allI_yes hyes)
    rw [madeL_congr (x' := meetX ps qs) (y' := meetY ps qs) (fun k hk => by simp [hyes k hk])] at hrow
    clear o0 o2
    replace O := O.later hb2
    obtain ⟨o0, o1, o2⟩ := id O
    replace hB := old_trans hB hb2
    have hne : g ≠ (w.heap.size + 1 + 1 + 1) := by omega
    go_wp2
    refine bodyPost_ret (v := .tuple #[.agg #[.slice (some ⟨g, 0, none⟩) (madeL len (meetX ps qs) (meetY ps qs)).length len], .bool true]) ?_ rfl ⟨.inl ⟨hz.out, g, len, rfl, by omega, by rw [madeL_length]; omega, by unfold maxLen; omega, hrow.other ⟨(w.heap.size + 1 + 1 + 1), 0, none⟩ hne _⟩, hB.setCell (p := ⟨(w.heap.size + 1 + 1 + 1), 0, none⟩) (by simp <;> omega) _⟩
    simp [results, Try.results14, go_sem, o0, madeL_length]
  · have hz : Hid (z = false) := hr.out.trans (allI_no hk hno)
    clear o0 o2
    replace O := O.later hb2
    obtain ⟨o0, o1, o2⟩ := id O
    replace hB := old_trans hB hb2
    go_wp2
    refine bodyPost_ret (v := .tuple #[.agg #[.slice none 0 0], .bool false]) ?_ rfl ⟨.inr ⟨hz.out, rfl⟩, hB.setCell (p := ⟨(w.heap.size + 1 + 1 + 1), 0, none⟩) (by simp <;> omega) _⟩
    simp [results, Try.results14, go_sem, o0]
theorem meet_fits {wd : Int} {ps qs : List (Int × Int)} (hf : Fits ps) (hg : Fits qs) (hl : ps.length = qs.length) : Fits (meetL ps qs) := by
  refine fits_made (fun k hk => ?_)
  have h1 := fits_at hf (k := k) hk
  have h2 := fits_at hg (k := k) (by omega)
  unfold meetX meetY
  omega
end Go.Proofs.Ytpnfkigeagbhpaa

/- Boxes from width to width: the narrow box around a wide one is one and holds it; a narrow one among the wide ones is one and comes back. No condition. -/
namespace Go.Proofs.Ytpnfkigeagbhpaa
open Go.RowKit
set_option linter.unusedVariables false
set_option maxRecDepth 100000

section
variable (av : Option Addr) (cv base : Nat) (ps : List (Int × Int)) (w : World) (O : OB w base av cv ps)
include O
theorem sOkO (wd : Int) (r : Bool) (h : okRow wd ps = r) : Calls Try.prog 8 #[.int .i64 wd, .agg #[.slice av ps.length cv]] w fun e w' => e = .returned (.bool r) ∧ Below w.heap.size w w' := by
  subst h; exact sBoxOk wd av _ cv ps w O.inRow
theorem iOkO (wd : Int) (r : Bool) (h : okRow wd ps = r) : Calls Try.prog 10 #[.int .i64 wd, .agg #[.slice av ps.length cv]] w fun e w' => e = .returned (.bool r) ∧ Below w.heap.size w w' := by
  subst h; exact iBoxOk wd av _ cv ps w O.inRow
theorem iIsO (au : Option Addr) (cu base' : Nat) (qs : List (Int × Int)) (U : OB w base' au cu qs) (r : Bool) (h : isRow ps qs = r) : Calls Try.prog 11 #[.agg #[.slice av ps.length cv], .agg #[.slice au qs.length cu]] w fun e w' => e = .returned (.bool r) ∧ Below w.heap.size w w' := by
  subst h; exact iBoxIs av au _ _ cv cu ps qs w O.inRow U.inRow
end
end Go.Proofs.Ytpnfkigeagbhpaa
