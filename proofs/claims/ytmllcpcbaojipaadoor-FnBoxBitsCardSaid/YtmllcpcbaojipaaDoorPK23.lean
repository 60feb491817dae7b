/- What draws of boxes carry along: lists that grow while a reader is read; boxes of bounds that are tight. No condition. -/
import Derived.Test.YtmllcpcbaojipaaDoorPK22
import Derived.Test.YtmllcpcbaojipaaDoorPK18
import Derived.Test.YtmllcpcbaojipaaDoorPK06
import Derived.Test.YtmllcpcbaojipaaDoorPK01
import Derived.Test.YtmllcpcbaojipaaDoorPK04
import Derived.Test.YtmllcpcbaojipaaDoorPK11
namespace Go.Proofs.YtmllcpcbaojipaaDoor
open Go.RowKit
set_option linter.unusedVariables false
set_option maxRecDepth 100000

def Tgt (a : Int) : Prop := -9218868437227406400 ≤ a ∧ a ≤ 9218868437227406400
def Tight (ps : List (Int × Int)) : Prop := ∀ p ∈ ps, Tgt p.1 ∧ Tgt p.2
theorem Tight.nil : Tight [] := fun p hp => absurd hp (by simp)
theorem Tight.snoc {ps : List (Int × Int)} {x y : Int} (h : Tight ps) (hx : Tgt x) (hy : Tgt y) : Tight (ps ++ [(x, y)]) := by
  intro p hp
  rcases List.mem_append.1 hp with hp | hp
  · exact h p hp
  · rw [List.mem_singleton] at hp; subst hp; exact ⟨hx, hy⟩
theorem Tight.fits {ps : List (Int × Int)} (h : Tight ps) : Fits ps := by
  intro p hp
  have := h p hp
  unfold Tgt at this
  omega
theorem Tight.at {ps : List (Int × Int)} (h : Tight ps) {k : Nat} (hk : k < ps.length) {x y : Int} (hx : ps.getD k (0, 0) = (x, y)) : Tgt x ∧ Tgt y := by
  have e : ps[k] = (x, y) := by rw [← hx]; simp [List.getD_eq_getElem?_getD, hk]
  have := h ps[k] (List.getElem_mem hk)
  rw [e] at this
  exact this
theorem Fits.snoc {ps : List (Int × Int)} {x y : Int} (h : Fits ps) (hx : (-9223372036854775808 ≤ x ∧ x ≤ 9223372036854775807) ∧ -9223372036854775808 ≤ y ∧ y ≤ 9223372036854775807) : Fits (ps ++ [(x, y)]) := by
  intro p hp
  rcases List.mem_append.1 hp with hp | hp
  · exact h p hp
  · rw [List.mem_singleton] at hp; subst hp; exact hx
section
variable {w w' : World} {rb base : Nat} {v : Value} {ps : List (Int × Int)}
theorem but_grown (h : But rb w w') : w.grownBy w' (some rb) := ⟨h.os, h.tape, h.output, h.size, fun k hk hne => h.block k hk (fun e => hne (by rw [e]))⟩
theorem Cel1.but {b : Nat} {x : Value} (h : Cel1 w b x) (k : But rb w w') (hne : b ≠ rb) : Cel1 w' b x := h.kept (but_grown k) (by simpa using hne)
theorem Grows.but (h : Grows w base v ps) (k : But rb w w') (hlt : rb < base) : Grows w' base v ps := h.kept (but_grown k) (fun b e => by cases e; exact hlt)
theorem Grows.drewd (h : Grows w base v ps) : Grows w.drew base v ps := h.later (Below.drew (Below.refl _ _))
theorem OB.but {av : Option Addr} {cv : Nat} (h : OB w base av cv ps) (k : But rb w w') (hlt : rb < base) : OB w' base av cv ps :=
  h.kept (but_grown k) (fun q e e2 => by have := h.ge q e; injection e2 with e2; omega)
theorem InRow.but {a : Option Addr} {len cap : Nat} (h : InRow w a len cap ps) (k : But rb w w') (hne : 0 < len → ∀ q, a = some q → q.block ≠ rb) : InRow w' a len cap ps :=
  h.kept' (but_grown k) (fun h0 q e e2 => hne h0 q e (by injection e2))
theorem But.grown {w1 w2 : World} {row : Option Nat} (h : But rb w w1) (g : w1.grownBy w2 row) (hn : ∀ b, row = some b → w.heap.size ≤ b) : But rb w w2 :=
  ⟨g.os.trans h.os, g.tape.trans h.tape, g.output.trans h.output, Nat.le_trans h.size g.size, fun k hk hne => (g.block k (Nat.lt_of_lt_of_le hk h.size) (fun e => by have := hn k e.symm; omega)).trans (h.block k hk hne)⟩
theorem Rk.kept {k : Nat} {row : Option Nat} (h : Rk w rb k) (g : w.grownBy w' row) (hn : ∀ b, row = some b → rb < b) : Rk w' rb k := by
  obtain ⟨p, hp, a, len, cap, h0, h1, h2, h3, h4, h5, h6⟩ := h
  have e : w'.heap[rb]? = w.heap[rb]? := g.block rb h0 (fun e => by have := hn rb e.symm; omega)
  refine ⟨p, hp, a, len, cap, Nat.lt_of_lt_of_le h0 g.size, (World.cell?_of_block (w := w) (a := ⟨rb, 0, none⟩) e).trans h1, (World.cell?_of_block (w := w) (a := ⟨rb, 1, none⟩) e).trans h2, (World.frozen?_of_block (w := w) (a := ⟨rb, 1, none⟩) e).trans h3, h4, h5, ?_⟩
  rcases h6 with h6 | ⟨bb, off, q1, q2, q3, q4⟩
  · exact .inl h6
  · refine .inr ⟨bb, off, q1, q2, Nat.lt_of_lt_of_le q3 g.size, fun i hi => ?_⟩
    obtain ⟨z, z0, z1, hz⟩ := q4 i hi
    exact ⟨z, z0, z1, (World.cell?_of_block (w := w) (a := ⟨bb, off + i, none⟩) (g.block bb q3 (fun e => by have := hn bb e.symm; omega))).trans hz⟩
theorem Grows.ob (h : Grows w base v ps) (f : Fits ps) : ∃ av cv, v = .slice av ps.length cv ∧ OB w base av cv ps := by
  by_cases h0 : 0 < ps.length
  · obtain ⟨g, cap, rfl, h1, h2, h3, h4⟩ := h.row h0
    exact ⟨_, _, rfl, f, h2, h3, .inr ⟨g, rfl, h1, h4⟩⟩
  · obtain rfl : ps = [] := List.length_eq_zero_iff.1 (by omega)
    rcases h.2 with ⟨h1, _⟩ | ⟨g, cap, cur, rfl, hb, hg, h1, h2, -, -⟩
    · exact ⟨_, _, h1, fits_nil, Nat.le_refl _, Nat.zero_le _, .inl ⟨rfl, rfl⟩⟩
    · exact ⟨_, _, rfl, fits_nil, h1, h2, .inr ⟨g, rfl, hb, (Array.getElem?_eq_some_iff.1 hg).1, fun i hi => absurd hi (by simp)⟩⟩
theorem Grows.snoc {g n : Nat} {cap : Nat} {x y : Int} (hl : ps.length = n) (h : w.ownsRow base 40 2 (.slice (some ⟨g, 0, none⟩) (n + 1) cap) (n + 1) (flat ps ++ [.int .i64 x, .int .i64 y])) : Grows w base (.slice (some ⟨g, 0, none⟩) (n + 1) cap) (ps ++ [(x, y)]) := by
  subst hl
  unfold Grows
  rw [flat_snoc, List.length_append]
  exact h
theorem OB.mono' {av : Option Addr} {b b' cv : Nat} (h : OB w b av cv ps) (hb : b' ≤ b) : OB w b' av cv ps := by
  obtain ⟨h1, h2, h3, h4 | ⟨g, h4, h5, h6⟩⟩ := h
  · exact ⟨h1, h2, h3, .inl h4⟩
  · exact ⟨h1, h2, h3, .inr ⟨g, h4, Nat.le_trans hb h5, h6⟩⟩
theorem OB.set1 {av : Option Addr} {b cv : Nat} (h : OB w base av cv ps) (hb : b < base) (u : Value) : OB (w.setCell ⟨b, 0, none⟩ u) base av cv ps :=
  h.kept (grownBy_setCell' w b u) (fun q e e2 => by have := h.ge q e; injection e2 with e2; omega)
end
theorem made_rkB (w : World) (a : Option Addr) (len len' cap : Nat) (h : IsCode w a len cap) (hl : len' ≤ len) (h2 : len' ≤ 2000) : Rk (w.alloc (.cells #[.slice a len' cap, .int .i64 0] 91)) w.heap.size 100000 := by
  obtain ⟨p, hp, hr⟩ := made_rk w a len len' cap h hl h2
  have hr' := hr
  obtain ⟨_, _, _, _, _, h3, _⟩ := hr'
  have e : p = 0 := by simpa using h3.symm
  exact ⟨0, by omega, e ▸ hr⟩
theorem open_kB (w : World) (a : Option Addr) (len cap : Nat) (h : IsCode w a len cap) :
    Calls Tryd.prog 23 #[.slice a len cap] w fun e w' => e = .returned (.pointer (some ⟨w.heap.size, 0, none⟩)) ∧ ∃ o, w' = w.alloc o ∧ Rk (w.alloc o) w.heap.size 100000 := by
  by_cases hl : len ≤ 2000
  · refine (open_few w a len cap (by omega)).mono ?_
    rintro e w' ⟨rfl, rfl⟩
    exact ⟨rfl, _, rfl, made_rkB w a len len cap h (Nat.le_refl _) hl⟩
  · have h' := h
    obtain ⟨h1, h2, h3⟩ := h'
    rcases h3 with h3 | ⟨bb, off, rfl, q2, q3⟩
    · omega
    · refine (open_many w bb off len cap (by omega) (by omega) h2).mono ?_
      rintro e w' ⟨rfl, rfl⟩
      exact ⟨rfl, _, rfl, made_rkB w _ len 2000 cap h (by omega) (by omega)⟩
end Go.Proofs.YtmllcpcbaojipaaDoor
