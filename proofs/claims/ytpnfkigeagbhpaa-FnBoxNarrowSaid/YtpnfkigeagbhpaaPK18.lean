/- The narrow box around a wide one, a narrow box among the wide ones: by the program; the second one by the specification. Conditions: 2^20 pairs at most. -/
import Derived.Test.YtpnfkigeagbhpaaPK17
import Derived.Test.YtpnfkigeagbhpaaPK09
import Derived.Test.YtpnfkigeagbhpaaPK12
namespace Go.Proofs.Ytpnfkigeagbhpaa
open Go.RowKit
set_option linter.unusedVariables false
set_option maxRecDepth 100000

set_option maxHeartbeats 2000000 in
theorem iBoxLess1 (a : Option Addr) (len cap : Nat) (ps : List (Int × Int)) (Bx k : Nat) (hk : k < len) (w : World) (hR : InRow w a len cap ps) (hB : w.cell? ⟨Bx, 0, none⟩ = some (.slice a len cap)) (hBl : Bx < w.heap.size) (hpk : pokB 64 (ps.getD k (0, 0)).1 (ps.getD k (0, 0)).2 = true) :
    Calls Try.prog 29 #[.int .i64 (k : Int), .pointer (some ⟨Bx, 0, none⟩)] w fun e w' => e = .returned (.tuple #[.agg #[.int .i64 (lessX ps k), .int .i64 (lessY ps k)], .bool true]) ∧ Below w.heap.size w w' := by
  have hlen : len ≤ maxLen := Nat.le_trans hR.2.1 hR.2.2.1
  unfold maxLen at hlen
  have hR1 := hR.alloc (.cells #[.int .i64 0, .int .i64 0] 42)
  obtain ⟨b, off, x, y, rfl, hbl, hx, ⟨⟨q1, q2⟩, q3, q4⟩, c0, c1⟩ := hR1.at hk
  have hX : lessX ps k = belI x := by unfold lessX; rw [hx]
  have hY : lessY ps k = -belI (-y) := by unfold lessY; rw [hx]
  have E := hd (iPairLess x y)
  rw [hx] at hpk
  rw [show pokB 64 x y = true from hpk] at E
  rw [hX, hY]
  clear hX hY hpk
  generalize belI x = u at *
  generalize -belI (-y) = v at *
  have E' : Hid (∀ w : World, Calls Try.prog 30 #[.agg #[.int .i64 x, .int .i64 y]] w fun e w' => e = .returned (.tuple #[.agg #[.int .i64 u, .int .i64 v], .bool true]) ∧ Below w.heap.size w w') := E
  clear E
  have B1 : (w.alloc (.cells #[.int .i64 0, .int .i64 0] 42)).cell? ⟨Bx, 0, none⟩ = some (.slice (some ⟨b, off, none⟩) len cap) := (World.grownBy_alloc w _ none).cell hB (by simp)
  have N : Cel2 (w.alloc (.cells #[.int .i64 0, .int .i64 0] 42)) w.heap.size (.int .i64 0) (.int .i64 0) := Cel2.made w _ rfl _ _ _
  go_enter Try.func29, Try.ntmps29
  go_wp2_with fail
  refine (E'.out _).mono ?_
  rintro e w1 ⟨rfl, hb1⟩
  replace N := N.later hb1
  obtain ⟨n0, n1, n2, n3, n4⟩ := id N
  have hb : Below w.heap.size w w1 := (by repeat (first | exact Below.refl _ _ | refine Below.drew ?_ | refine old_alloc ?_ _ | refine old_trans ?_ (by assumption)))
  go_wp2
  have N2 := N.stored (.int .i64 u) (.int .i64 v)
  refine bodyPost_ret (v := .tuple #[.agg #[.int .i64 u, .int .i64 v], .bool true]) ?_ rfl ⟨rfl, (hb.setCell (p := ⟨w.heap.size, 0, none⟩) (Nat.le_refl _) _).setCell (p := ⟨w.heap.size, 1, none⟩) (Nat.le_refl _) _⟩
  simp [results, Try.results29, go_sem, N2.1, N2.2.1]

set_option maxHeartbeats 4000000 in
theorem iBoxLess (a : Option Addr) (len cap : Nat) (ps : List (Int × Int)) (w : World) (hR : InRow w a len cap ps) :
    Calls Try.prog 7 #[.agg #[.slice a len cap]] w fun e w' => BoxRes w.heap.size w' e (okRow 64 ps) (lessL ps) ∧ Below w.heap.size w w' := by
  have hlen : len ≤ maxLen := Nat.le_trans hR.2.1 hR.2.2.1
  have hp := hR.1
  unfold maxLen at hlen
  have hb1 : Below w.heap.size w ((w.alloc (.cells #[.slice a len cap] 25)).alloc (.cells #[.slice none 0 0] 25)) := ((Below.refl _ w).alloc (Nat.le_refl _) _).alloc (by simp) _
  have K : Cel1 ((w.alloc (.cells #[.slice a len cap] 25)).alloc (.cells #[.slice none 0 0] 25)) w.heap.size (.slice a len cap) := (Cel1.made w _ rfl _ _).alloc _
  have M : Cel1 ((w.alloc (.cells #[.slice a len cap] 25)).alloc (.cells #[.slice none 0 0] 25)) (w.heap.size + 1) (.slice none 0 0) := Cel1.made _ _ (by simp) _ _
  have S := hd (iBoxOk 64 a len cap ps _ (hR.old hb1))
  have hR1 := hR.old hb1
  cases hok : okRow 64 ps
  · rw [hok] at S
    clear hok
    go_enter Try.func7, Try.ntmps7
    go_wp2_with fail
    refine S.out.mono ?_
    rintro e wa ⟨rfl, hba⟩
    replace M := M.later hba
    obtain ⟨m0, m1, m2⟩ := id M
    have hB : Below w.heap.size w wa := old_trans hb1 hba
    go_wp2
    refine bodyPost_ret (v := .tuple #[.agg #[.slice none 0 0], .bool false]) ?_ rfl ⟨.inr ⟨rfl, rfl⟩, hB.setCell (p := ⟨w.heap.size + 1, 0, none⟩) (by simp) _⟩
    simp [results, Try.results7, go_sem, m0]
  rw [hok] at S
  have hol := okRow_len hok
  have hall : ∀ k, k < len → pokB 64 (ps.getD k (0, 0)).1 (ps.getD k (0, 0)).2 = true := fun k hk => okRow_at hok (by omega)
  have hL : lessL ps = madeL len (lessX ps) (lessY ps) := by unfold lessL; rw [hp]
  rw [hL]
  clear hok hL
  go_enter Try.func7, Try.ntmps7
  go_wp2_with fail
  refine S.out.mono ?_
  rintro e wa ⟨rfl, hba⟩
  replace K := K.later hba
  replace M := M.later hba
  replace hR1 := hR1.old hba
  have hB : Below w.heap.size w wa := old_trans hb1 hba
  obtain ⟨k0, k1, k2⟩ := id K
  go_wp2_with fail
  refine (ofEach 29 #[.pointer (some ⟨w.heap.size, 0, none⟩)] len (by omega) (lessX ps) (lessY ps) (fun _ => true) wa (enters_of Try.func29 (by kernel_rfl) rfl)
    (fun k W hk hW => iBoxLess1 a len cap ps w.heap.size k hk W (hR1.old hW) (K.later hW).1 (K.later hW).2.2 (hall k hk))).mono ?_
  rintro e w2 ⟨⟨-, g, rfl, hg, hrow⟩ | ⟨⟨k, -, hk⟩, -⟩, hb2⟩
  case inr => cases hk
  replace M := M.later hb2
  obtain ⟨m0, m1, m2⟩ := id M
  have hB2 : Below w.heap.size w w2 := old_trans hB hb2
  have hg2 : w.heap.size ≤ g := Nat.le_trans hB.size hg
  have hne : g ≠ w.heap.size + 1 := by have := hba.size; simp at this; omega
  go_wp2
  refine bodyPost_ret (v := .tuple #[.agg #[.slice (some ⟨g, 0, none⟩) (madeL len (lessX ps) (lessY ps)).length len], .bool true]) ?_ rfl ⟨.inl ⟨rfl, g, len, rfl, hg2, by rw [madeL_length]; omega, by unfold maxLen; omega, hrow.other ⟨w.heap.size + 1, 0, none⟩ hne _⟩, hB2.setCell (p := ⟨w.heap.size + 1, 0, none⟩) (by simp) _⟩
  simp [results, Try.results7, go_sem, m0, madeL_length]

def moreX (ps : List (Int × Int)) (k : Nat) : Int := widI (ps.getD k (0, 0)).1
def moreY (ps : List (Int × Int)) (k : Nat) : Int := widI (ps.getD k (0, 0)).2
def moreL (ps : List (Int × Int)) : List (Int × Int) := madeL ps.length (moreX ps) (moreY ps)

set_option maxHeartbeats 2000000 in
theorem iBoxMore1 (a : Option Addr) (len cap : Nat) (ps : List (Int × Int)) (Bx k : Nat) (hk : k < len) (w : World) (hR : InRow w a len cap ps) (hB : w.cell? ⟨Bx, 0, none⟩ = some (.slice a len cap)) (hBl : Bx < w.heap.size) (hpk : pokB 32 (ps.getD k (0, 0)).1 (ps.getD k (0, 0)).2 = true) :
    Calls Try.prog 32 #[.int .i64 (k : Int), .pointer (some ⟨Bx, 0, none⟩)] w fun e w' => e = .returned (.tuple #[.agg #[.int .i64 (moreX ps k), .int .i64 (moreY ps k)], .bool true]) ∧ Below w.heap.size w w' := by
  have hlen : len ≤ maxLen := Nat.le_trans hR.2.1 hR.2.2.1
  unfold maxLen at hlen
  have hR1 := hR.alloc (.cells #[.int .i64 0, .int .i64 0] 42)
  obtain ⟨b, off, x, y, rfl, hbl, hx, ⟨⟨q1, q2⟩, q3, q4⟩, c0, c1⟩ := hR1.at hk
  have hX : moreX ps k = widI x := by unfold moreX; rw [hx]
  have hY : moreY ps k = widI y := by unfold moreY; rw [hx]
  have E := hd (iPairMore x y)
  rw [hx] at hpk
  rw [show pokB 32 x y = true from hpk] at E
  rw [hX, hY]
  clear hX hY hpk
  generalize widI x = u at *
  generalize widI y = v at *
  have E' : Hid (∀ w : World, Calls Try.prog 33 #[.agg #[.int .i64 x, .int .i64 y]] w fun e w' => e = .returned (.tuple #[.agg #[.int .i64 u, .int .i64 v], .bool true]) ∧ Below w.heap.size w w') := E
  clear E
  have B1 : (w.alloc (.cells #[.int .i64 0, .int .i64 0] 42)).cell? ⟨Bx, 0, none⟩ = some (.slice (some ⟨b, off, none⟩) len cap) := (World.grownBy_alloc w _ none).cell hB (by simp)
  have N : Cel2 (w.alloc (.cells #[.int .i64 0, .int .i64 0] 42)) w.heap.size (.int .i64 0) (.int .i64 0) := Cel2.made w _ rfl _ _ _
  go_enter Try.func32, Try.ntmps32
  go_wp2_with fail
  refine (E'.out _).mono ?_
  rintro e w1 ⟨rfl, hb1⟩
  replace N := N.later hb1
  obtain ⟨n0, n1, n2, n3, n4⟩ := id N
  have hb : Below w.heap.size w w1 := (by repeat (first | exact Below.refl _ _ | refine Below.drew ?_ | refine old_alloc ?_ _ | refine old_trans ?_ (by assumption)))
  go_wp2
  have N2 := N.stored (.int .i64 u) (.int .i64 v)
  refine bodyPost_ret (v := .tuple #[.agg #[.int .i64 u, .int .i64 v], .bool true]) ?_ rfl ⟨rfl, (hb.setCell (p := ⟨w.heap.size, 0, none⟩) (Nat.le_refl _) _).setCell (p := ⟨w.heap.size, 1, none⟩) (Nat.le_refl _) _⟩
  simp [results, Try.results32, go_sem, N2.1, N2.2.1]

set_option maxHeartbeats 4000000 in
theorem iBoxMore (a : Option Addr) (len cap : Nat) (ps : List (Int × Int)) (w : World) (hR : InRow w a len cap ps) :
    Calls Try.prog 9 #[.agg #[.slice a len cap]] w fun e w' => BoxRes w.heap.size w' e (okRow 32 ps) (moreL ps) ∧ Below w.heap.size w w' := by
  have hlen : len ≤ maxLen := Nat.le_trans hR.2.1 hR.2.2.1
  have hp := hR.1
  unfold maxLen at hlen
  have hb1 : Below w.heap.size w ((w.alloc (.cells #[.slice a len cap] 25)).alloc (.cells #[.slice none 0 0] 25)) := ((Below.refl _ w).alloc (Nat.le_refl _) _).alloc (by simp) _
  have K : Cel1 ((w.alloc (.cells #[.slice a len cap] 25)).alloc (.cells #[.slice none 0 0] 25)) w.heap.size (.slice a len cap) := (Cel1.made w _ rfl _ _).alloc _
  have M : Cel1 ((w.alloc (.cells #[.slice a len cap] 25)).alloc (.cells #[.slice none 0 0] 25)) (w.heap.size + 1) (.slice none 0 0) := Cel1.made _ _ (by simp) _ _
  have S := hd (iBoxOk 32 a len cap ps _ (hR.old hb1))
  have hR1 := hR.old hb1
  cases hok : okRow 32 ps
  · rw [hok] at S
    clear hok
    go_enter Try.func9, Try.ntmps9
    go_wp2_with fail
    refine S.out.mono ?_
    rintro e wa ⟨rfl, hba⟩
    replace M := M.later hba
    obtain ⟨m0, m1, m2⟩ := id M
    have hB : Below w.heap.size w wa := old_trans hb1 hba
    go_wp2
    refine bodyPost_ret (v := .tuple #[.agg #[.slice none 0 0], .bool false]) ?_ rfl ⟨.inr ⟨rfl, rfl⟩, hB.setCell (p := ⟨w.heap.size + 1, 0, none⟩) (by simp) _⟩
    simp [results, Try.results9, go_sem, m0]
  rw [hok] at S
  have hol := okRow_len hok
  have hall : ∀ k, k < len → pokB 32 (ps.getD k (0, 0)).1 (ps.getD k (0, 0)).2 = true := fun k hk => okRow_at hok (by omega)
  have hL : moreL ps = madeL len (moreX ps) (moreY ps) := by unfold moreL; rw [hp]
  rw [hL]
  clear hok hL
  go_enter Try.func9, Try.ntmps9
  go_wp2_with fail
  refine S.out.mono ?_
  rintro e wa ⟨rfl, hba⟩
  replace K := K.later hba
  replace M := M.later hba
  replace hR1 := hR1.old hba
  have hB : Below w.heap.size w wa := old_trans hb1 hba
  obtain ⟨k0, k1, k2⟩ := id K
  go_wp2_with fail
  refine (ofEach 32 #[.pointer (some ⟨w.heap.size, 0, none⟩)] len (by omega) (moreX ps) (moreY ps) (fun _ => true) wa (enters_of Try.func32 (by kernel_rfl) rfl)
    (fun k W hk hW => iBoxMore1 a len cap ps w.heap.size k hk W (hR1.old hW) (K.later hW).1 (K.later hW).2.2 (hall k hk))).mono ?_
  rintro e w2 ⟨⟨-, g, rfl, hg, hrow⟩ | ⟨⟨k, -, hk⟩, -⟩, hb2⟩
  case inr => cases hk
  replace M := M.later hb2
  obtain ⟨m0, m1, m2⟩ := id M
  have hB2 : Below w.heap.size w w2 := old_trans hB hb2
  have hg2 : w.heap.size ≤ g := Nat.le_trans hB.size hg
  have hne : g ≠ w.heap.size + 1 := by have := hba.size; simp at this; omega
  go_wp2
  refine bodyPost_ret (v := .tuple #[.agg #[.slice (some ⟨g, 0, none⟩) (madeL len (moreX ps) (moreY ps)).length len], .bool true]) ?_ rfl ⟨.inl ⟨rfl, g, len, rfl, hg2, by rw [madeL_length]; omega, by unfold maxLen; omega, hrow.other ⟨w.heap.size + 1, 0, none⟩ hne _⟩, hB2.setCell (p := ⟨w.heap.size + 1, 0, none⟩) (by simp) _⟩
  simp [results, Try.results9, go_sem, m0, madeL_length]
end Go.Proofs.Ytpnfkigeagbhpaa

/- Boxes that the walks of the laws hold: what is theirs, and what abides a mark set elsewhere. No condition. -/
namespace Go.Proofs.Ytpnfkigeagbhpaa
open Go.RowKit
set_option linter.unusedVariables false
set_option maxRecDepth 100000

/-- a box in memory of its own, at or beyond base; or an empty one -/
def OB (w : World) (base : Nat) (av : Option Addr) (cv : Nat) (ps : List (Int × Int)) : Prop :=
  Fits ps ∧ ps.length ≤ cv ∧ cv ≤ maxLen ∧ ((av = none ∧ ps = []) ∨ ∃ g, av = some ⟨g, 0, none⟩ ∧ base ≤ g ∧ Row w g ps)
section
variable {w w' : World} {base cv : Nat} {av : Option Addr} {ps : List (Int × Int)}
theorem OB.inRow (h : OB w base av cv ps) : InRow w av ps.length cv ps := by
  obtain ⟨h1, h2, h3, ⟨rfl, rfl⟩ | ⟨g, rfl, h4, h5⟩⟩ := h
  · exact ⟨rfl, h2, h3, h1, .inl rfl⟩
  · exact h5.inRow h1 h2 h3
theorem OB.later (h : OB w base av cv ps) (k : Below w.heap.size w w') : OB w' base av cv ps := by
  obtain ⟨h1, h2, h3, h4 | ⟨g, h4, h5, h6⟩⟩ := h
  · exact ⟨h1, h2, h3, .inl h4⟩
  · exact ⟨h1, h2, h3, .inr ⟨g, h4, h5, h6.old k⟩⟩
theorem OB.alloc (h : OB w base av cv ps) (o : Obj) : OB (w.alloc o) base av cv ps := h.later ((Below.refl _ _).alloc (Nat.le_refl _) o)
theorem OB.drew (h : OB w base av cv ps) : OB w.drew base av cv ps := h
theorem OB.kept {row : Option Nat} (h : OB w base av cv ps) (g : w.grownBy w' row) (hne : ∀ q, av = some q → some q.block ≠ row) : OB w' base av cv ps := by
  obtain ⟨h1, h2, h3, h4 | ⟨c, h4, h5, h6⟩⟩ := h
  · exact ⟨h1, h2, h3, .inl h4⟩
  · exact ⟨h1, h2, h3, .inr ⟨c, h4, h5, h6.kept g (hne _ h4)⟩⟩
theorem OB.lt (h : OB w base av cv ps) : ∀ q, av = some q → q.block < w.heap.size := by
  intro q e
  obtain ⟨h1, h2, h3, ⟨rfl, _⟩ | ⟨c, rfl, h5, h6⟩⟩ := h
  · cases e
  · cases e; exact h6.1
theorem OB.ge (h : OB w base av cv ps) : ∀ q, av = some q → base ≤ q.block := by
  intro q e
  obtain ⟨h1, h2, h3, ⟨rfl, _⟩ | ⟨c, rfl, h5, h6⟩⟩ := h
  · cases e
  · cases e; exact h5
theorem InRow.far {a : Option Addr} {len cap : Nat} (h : InRow w a len cap ps) : 0 < len → ∀ q, a = some q → q.block < w.heap.size := by
  intro h0 q e
  rcases h.2.2.2.2 with h5 | ⟨b, off, q1, q2, -⟩
  · omega
  · rw [q1] at e; cases e; exact q2
theorem InRow.kept' {a : Option Addr} {len cap : Nat} {row : Option Nat} (h : InRow w a len cap ps) (g : w.grownBy w' row) (hne : 0 < len → ∀ q, a = some q → some q.block ≠ row) : InRow w' a len cap ps := by
  by_cases h0 : 0 < len
  · exact h.kept g (hne h0)
  · exact ⟨h.1, h.2.1, h.2.2.1, h.2.2.2.1, .inl (by omega)⟩
end
theorem fits_nil : Fits [] := fun p hp => absurd hp (by simp)
def resL (r : Bool) (ps : List (Int × Int)) : List (Int × Int) := if r then ps else []
theorem BoxRes.ob {n0 : Nat} {w' : World} {e : Ending} {r : Bool} {ps : List (Int × Int)} (h : BoxRes n0 w' e r ps) (hf : r = true → Fits ps) : ∃ av cv, e = .returned (.tuple #[.agg #[.slice av (resL r ps).length cv], .bool r]) ∧ OB w' n0 av cv (resL r ps) := by
  rcases h with ⟨rfl, g, cap, he, h1, h2, h3, h4⟩ | ⟨rfl, he⟩
  · exact ⟨_, _, he, hf rfl, h2, h3, .inr ⟨g, rfl, h1, h4⟩⟩
  · exact ⟨none, 0, he, fits_nil, Nat.le_refl _, Nat.zero_le _, .inl ⟨rfl, rfl⟩⟩
theorem fits_made {n : Nat} {x y : Nat → Int} (h : ∀ k, k < n → (-9223372036854775808 ≤ x k ∧ x k ≤ 9223372036854775807) ∧ -9223372036854775808 ≤ y k ∧ y k ≤ 9223372036854775807) : Fits (madeL n x y) := by
  intro p hp
  unfold madeL at hp
  obtain ⟨i, hi, rfl⟩ := List.mem_map.1 hp
  exact h i (List.mem_range.1 hi)
theorem pokB_bd {wd a b : Int} (h : pokB wd a b = true) : (-topI wd ≤ a ∧ a ≤ topI wd) ∧ -topI wd ≤ b ∧ b ≤ topI wd := by
  have h1 := pokB_in h
  exact ⟨(okB_in h1.1).2, (okB_in h1.2.1).2⟩
theorem less_fits {ps : List (Int × Int)} (h : okRow 64 ps = true) : Fits (lessL ps) := by
  refine fits_made (fun k hk => ?_)
  have hp := okRow_at h hk
  unfold lessX lessY
  generalize (ps.getD k (0, 0)).1 = a at *
  generalize (ps.getD k (0, 0)).2 = b at *
  have hb : (-9218868437227405312 ≤ a ∧ a ≤ 9218868437227405312) ∧ -9218868437227405312 ≤ b ∧ b ≤ 9218868437227405312 := pokB_bd (wd := 64) hp
  have h1 := belI_is a hb.1.1 hb.1.2
  have h2 := belI_is (-b) (by omega) (by omega)
  have := h1.1
  have := h1.2.1
  have := h2.1
  have := h2.2.1
  omega
theorem more_fits {ps : List (Int × Int)} (h : okRow 32 ps = true) : Fits (moreL ps) := by
  refine fits_made (fun k hk => ?_)
  have hp := okRow_at h hk
  unfold moreX moreY
  generalize (ps.getD k (0, 0)).1 = a at *
  generalize (ps.getD k (0, 0)).2 = b at *
  have hb : (-2139095040 ≤ a ∧ a ≤ 2139095040) ∧ -2139095040 ≤ b ∧ b ≤ 2139095040 := pokB_bd (wd := 32) hp
  have h1 := widI_bd hb.1.1 hb.1.2
  have h2 := widI_bd hb.2.1 hb.2.2
  omega
end Go.Proofs.Ytpnfkigeagbhpaa

/- What draws of boxes carry along: lists that grow while a reader is read; boxes of bounds that are tight. No condition. -/
namespace Go.Proofs.Ytpnfkigeagbhpaa
open Go.RowKit
set_option linter.unusedVariables false
set_option maxRecDepth 100000

def Tgt (a : Int) : Prop := -9218868437227406400 ≤ a ∧ a ≤ 9218868437227406400
def Tight (ps : List (Int × Int)) : Prop := ∀ p ∈ ps, Tgt p.1 ∧ Tgt p.2
theorem Tight.nil : Tight [] := fun p hp => absurd hp (by simp)
theorem Tight.snoc {ps : List (Int × Int)} {x y : Int} (h : Tight ps) (hx : Tgt x) (hy : Tgt y) : Tight (ps ++ [(x, y)]) := by
  intro p hp
  rcases List.mem_append.1 hp with hp | hp
  · exact h p hp
  · rw [List.mem_singleton] at hp; subst hp; exact ⟨hx, hy⟩
theorem Tight.fits {ps : List (Int × Int)} (h : Tight ps) : Fits ps := by
  intro p hp
  have := h p hp
  unfold Tgt at this
  omega
theorem Tight.at {ps : List (Int × Int)} (h : Tight ps) {k : Nat} (hk : k < ps.length) {x y : Int} (hx : ps.getD k (0, 0) = (x, y)) : Tgt x ∧ Tgt y := by
  have e : ps[k] = (x, y) := by rw [← hx]; simp [List.getD_eq_getElem?_getD, hk]
  have := h ps[k] (List.getElem_mem hk)
  rw [e] at this
  exact this
theorem Fits.snoc {ps : List (Int × Int)} {x y : Int} (h : Fits ps) (hx : (-9223372036854775808 ≤ x ∧ x ≤ 9223372036854775807) ∧ -9223372036854775808 ≤ y ∧ y ≤ 9223372036854775807) : Fits (ps ++ [(x, y)]) := by
  intro p hp
  rcases List.mem_append.1 hp with hp | hp
  · exact h p hp
  · rw [List.mem_singleton] at hp; subst hp; exact hx
section
variable {w w' : World} {rb base : Nat} {v : Value} {ps : List (Int × Int)}
theorem but_grown (h : But rb w w') : w.grownBy w' (some rb) := ⟨h.os, h.tape, h.output, h.size, fun k hk hne => h.block k hk (fun e => hne (by rw [e]))⟩
theorem Cel1.but {b : Nat} {x : Value} (h : Cel1 w b x) (k : But rb w w') (hne : b ≠ rb) : Cel1 w' b x := h.kept (but_grown k) (by simpa using hne)
theorem Grows.but (h : Grows w base v ps) (k : But rb w w') (hlt : rb < base) : Grows w' base v ps := h.kept (but_grown k) (fun b e => by cases e; exact hlt)
theorem Grows.drewd (h : Grows w base v ps) : Grows w.drew base v ps := h.later (Below.drew (Below.refl _ _))
theorem OB.but {av : Option Addr} {cv : Nat} (h : OB w base av cv ps) (k : But rb w w') (hlt : rb < base) : OB w' base av cv ps :=
  h.kept (but_grown k) (fun q e e2 => by have := h.ge q e; injection e2 with e2; omega)
theorem InRow.but {a : Option Addr} {len cap : Nat} (h : InRow w a len cap ps) (k : But rb w w') (hne : 0 < len → ∀ q, a = some q → q.block ≠ rb) : InRow w' a len cap ps :=
  h.kept' (but_grown k) (fun h0 q e e2 => hne h0 q e (by injection e2))
theorem But.grown {w1 w2 : World} {row : Option Nat} (h : But rb w w1) (g : w1.grownBy w2 row) (hn : ∀ b, row = some b → w.heap.size ≤ b) : But rb w w2 :=
  ⟨g.os.trans h.os, g.tape.trans h.tape, g.output.trans h.output, Nat.le_trans h.size g.size, fun k hk hne => (g.block k (Nat.lt_of_lt_of_le hk h.size) (fun e => by have := hn k e.symm; omega)).trans (h.block k hk hne)⟩
theorem Rk.kept {k : Nat} {row : Option Nat} (h : Rk w rb k) (g : w.grownBy w' row) (hn : ∀ b, row = some b → rb < b) : Rk w' rb k := by
  obtain ⟨p, hp, a, len, cap, h0, h1, h2, h3, h4, h5, h6⟩ := h
  have e : w'.heap[rb]? = w.heap[rb]? := g.block rb h0 (fun e => by have := hn rb e.symm; omega)
  refine ⟨p, hp, a, len, cap, Nat.lt_of_lt_of_le h0 g.size, (World.cell?_of_block (w := w) (a := ⟨rb, 0, none⟩) e).trans h1, (World.cell?_of_block (w := w) (a := ⟨rb, 1, none⟩) e).trans h2, (World.frozen?_of_block (w := w) (a := ⟨rb, 1, none⟩) e).trans h3, h4, h5, ?_⟩
  rcases h6 with h6 | ⟨bb, off, q1, q2, q3, q4⟩
  · exact .inl h6
  · refine .inr ⟨bb, off, q1, q2, Nat.lt_of_lt_of_le q3 g.size, fun i hi => ?_⟩
    obtain ⟨z, z0, z1, hz⟩ := q4 i hi
    exact ⟨z, z0, z1, (World.cell?_of_block (w := w) (a := ⟨bb, off + i, none⟩) (g.block bb q3 (fun e => by have := hn bb e.symm; omega))).trans hz⟩
theorem Grows.ob (h : Grows w base v ps) (f : Fits ps) : ∃ av cv, v = .slice av ps.length cv ∧ OB w base av cv ps := by
  by_cases h0 : 0 < ps.length
  · obtain ⟨g, cap, rfl, h1, h2, h3, h4⟩ := h.row h0
    exact ⟨_, _, rfl, f, h2, h3, .inr ⟨g, rfl, h1, h4⟩⟩
  · obtain rfl : ps = [] := List.length_eq_zero_iff.1 (by omega)
    rcases h.2 with ⟨h1, _⟩ | ⟨g, cap, cur, rfl, hb, hg, h1, h2, -, -⟩
    · exact ⟨_, _, h1, fits_nil, Nat.le_refl _, Nat.zero_le _, .inl ⟨rfl, rfl⟩⟩
    · exact ⟨_, _, rfl, fits_nil, h1, h2, .inr ⟨g, rfl, hb, (Array.getElem?_eq_some_iff.1 hg).1, fun i hi => absurd hi (by simp)⟩⟩
theorem Grows.snoc {g n : Nat} {cap : Nat} {x y : Int} (hl : ps.length = n) (h : w.ownsRow base 42 2 (.slice (some ⟨g, 0, none⟩) (n + 1) cap) (n + 1) (flat ps ++ [.int .i64 x, .int .i64 y])) : Grows w base (.slice (some ⟨g, 0, none⟩) (n + 1) cap) (ps ++ [(x, y)]) := by
  subst hl
  unfold Grows
  rw [flat_snoc, List.length_append]
  exact h
theorem OB.mono' {av : Option Addr} {b b' cv : Nat} (h : OB w b av cv ps) (hb : b' ≤ b) : OB w b' av cv ps := by
  obtain ⟨h1, h2, h3, h4 | ⟨g, h4, h5, h6⟩⟩ := h
  · exact ⟨h1, h2, h3, .inl h4⟩
  · exact ⟨h1, h2, h3, .inr ⟨g, h4, Nat.le_trans hb h5, h6⟩⟩
theorem OB.set1 {av : Option Addr} {b cv : Nat} (h : OB w base av cv ps) (hb : b < base) (u : Value) : OB (w.setCell ⟨b, 0, none⟩ u) base av cv ps :=
  h.kept (grownBy_setCell' w b u) (fun q e e2 => by have := h.ge q e; injection e2 with e2; omega)
end
theorem made_rkB (w : World) (a : Option Addr) (len len' cap : Nat) (h : IsCode w a len cap) (hl : len' ≤ len) (h2 : len' ≤ 2000) : Rk (w.alloc (.cells #[.slice a len' cap, .int .i64 0] 73)) w.heap.size 100000 := by
  obtain ⟨p, hp, hr⟩ := made_rk w a len len' cap h hl h2
  have hr' := hr
  obtain ⟨_, _, _, _, _, h3, _⟩ := hr'
  have e : p = 0 := by simpa using h3.symm
  exact ⟨0, by omega, e ▸ hr⟩
theorem open_kB (w : World) (a : Option Addr) (len cap : Nat) (h : IsCode w a len cap) :
    Calls Try.prog 25 #[.slice a len cap] w fun e w' => e = .returned (.pointer (some ⟨w.heap.size, 0, none⟩)) ∧ ∃ o, w' = w.alloc o ∧ Rk (w.alloc o) w.heap.size 100000 := by
  by_cases hl : len ≤ 2000
  · refine (open_few w a len cap (by omega)).mono ?_
    rintro e w' ⟨rfl, rfl⟩
    exact ⟨rfl, _, rfl, made_rkB w a len len cap h (Nat.le_refl _) hl⟩
  · have h' := h
    obtain ⟨h1, h2, h3⟩ := h'
    rcases h3 with h3 | ⟨bb, off, rfl, q2, q3⟩
    · omega
    · refine (open_many w bb off len cap (by omega) (by omega) h2).mono ?_
      rintro e w' ⟨rfl, rfl⟩
      exact ⟨rfl, _, rfl, made_rkB w _ len 2000 cap h (by omega) (by omega)⟩
end Go.Proofs.Ytpnfkigeagbhpaa

/- Boxes from width to width: the narrow box around a wide one is one and holds it; a narrow one among the wide ones is one and comes back. No condition. -/
namespace Go.Proofs.Ytpnfkigeagbhpaa
open Go.RowKit
set_option linter.unusedVariables false
set_option maxRecDepth 100000

theorem top64 : topI 64 = 9218868437227405312 := by decide
theorem top32 : topI 32 = 2139095040 := by decide
theorem pok_less {x y : Int} (h : pokB 64 x y = true) : pokB 32 (belI x) (-belI (-y)) = true ∧ widI (belI x) ≤ x ∧ y ≤ widI (-belI (-y)) := by
  have k := pokB_in h
  rw [top64] at k
  have b1 := okB_bd k.1
  have b2 := okB_bd k.2.1
  obtain ⟨p1, p2, p3, p4⟩ := belI_is x b1.1 b1.2
  obtain ⟨q1, q2, q3, q4⟩ := belI_is (-y) (by omega) (by omega)
  have e := widI_neg (belI (-y))
  have t := widI_top
  generalize belI x = n at *
  generalize belI (-y) = m at *
  have hn : n ≠ 2139095040 := by rintro rfl; omega
  have hm : m ≠ 2139095040 := by rintro rfl; omega
  have hnm : n ≤ -m := by
    by_cases c : -m < n
    · have := widI_mono c (by omega) (by omega); omega
    · omega
  refine ⟨pokB_mk ?_ ?_ hnm (by rw [top32]; omega) (by rw [top32]; omega), p3, by omega⟩
  · unfold okB; rw [top32]; simp; omega
  · unfold okB; rw [top32]; simp; omega
theorem bel_wid {n : Int} (h1 : -2139095040 ≤ n) (h2 : n ≤ 2139095040) : belI (widI n) = n := by
  have b := widI_bd h1 h2
  exact (belI_is (widI n) b.1 b.2).one ⟨h1, h2, Int.le_refl _, fun h => widI_mono (by omega) h1 (by omega)⟩
theorem pok_more {x y : Int} (h : pokB 32 x y = true) : pokB 64 (widI x) (widI y) = true ∧ belI (widI x) = x ∧ -belI (-widI y) = y := by
  have k := pokB_in h
  have o1 := okB_in k.1
  have o2 := okB_in k.2.1
  rw [top32] at k o1 o2
  have b1 := widI_bd o1.2.1 o1.2.2
  have b2 := widI_bd o2.2.1 o2.2.2
  have t1 := widI_mono k.2.2.2.1 o1.2.1 (Int.le_refl _)
  have t2 := widI_mono k.2.2.2.2 (Int.le_refl _) o2.2.2
  rw [widI_top] at t1
  rw [widI_bot] at t2
  refine ⟨pokB_mk ?_ ?_ (widI_le k.2.2.1 o1.2.1 o2.2.2) (by rw [top64]; omega) (by rw [top64]; omega), bel_wid o1.2.1 o1.2.2, ?_⟩
  · unfold okB; rw [top64]; simp; omega
  · unfold okB; rw [top64]; simp; omega
  · rw [← widI_neg, bel_wid (by omega) (by omega)]; omega
theorem lessL_length (ps : List (Int × Int)) : (lessL ps).length = ps.length := madeL_length _ _ _
theorem moreL_length (ps : List (Int × Int)) : (moreL ps).length = ps.length := madeL_length _ _ _
theorem lessL_at (ps : List (Int × Int)) {k : Nat} (hk : k < ps.length) : (lessL ps).getD k (0, 0) = (belI (ps.getD k (0, 0)).1, -belI (-(ps.getD k (0, 0)).2)) := madeL_getD _ _ hk
theorem moreL_at (ps : List (Int × Int)) {k : Nat} (hk : k < ps.length) : (moreL ps).getD k (0, 0) = (widI (ps.getD k (0, 0)).1, widI (ps.getD k (0, 0)).2) := madeL_getD _ _ hk
theorem less_ok {ps : List (Int × Int)} (h : okRow 64 ps = true) : okRow 32 (lessL ps) = true := by
  have l := okRow_len h
  refine okRow_yes (by rw [lessL_length]; omega) (by rw [lessL_length]; omega) (fun k hk => ?_)
  rw [lessL_length] at hk
  rw [lessL_at ps hk]
  exact (pok_less (okRow_at h hk)).1
theorem less_more {ps : List (Int × Int)} (h : okRow 64 ps = true) : isRow ps (moreL (lessL ps)) = true := by
  unfold isRow
  rw [moreL_length, lessL_length, allI_yes]
  · simp
  · intro k hk
    unfold isAt isB
    rw [moreL_at _ (by rw [lessL_length]; exact hk), lessL_at _ hk]
    have := pok_less (okRow_at h hk)
    simp only [decide_eq_true_eq]
    exact ⟨this.2.1, this.2.2⟩
theorem more_ok {ps : List (Int × Int)} (h : okRow 32 ps = true) : okRow 64 (moreL ps) = true := by
  have l := okRow_len h
  refine okRow_yes (by rw [moreL_length]; omega) (by rw [moreL_length]; omega) (fun k hk => ?_)
  rw [moreL_length] at hk
  rw [moreL_at ps hk]
  exact (pok_more (okRow_at h hk)).1
theorem getD_ext {ps qs : List (Int × Int)} (hl : ps.length = qs.length) (h : ∀ k, k < ps.length → ps.getD k (0, 0) = qs.getD k (0, 0)) : ps = qs := by
  apply List.ext_getElem hl
  intro i h1 h2
  have := h i h1
  simpa [List.getD_eq_getElem?_getD, h1, h2] using this
theorem more_less {ps : List (Int × Int)} (h : okRow 32 ps = true) : lessL (moreL ps) = ps := by
  refine getD_ext (by rw [lessL_length, moreL_length]) (fun k hk => ?_)
  rw [lessL_length, moreL_length] at hk
  rw [lessL_at _ (by rw [moreL_length]; exact hk), moreL_at _ hk]
  have := pok_more (okRow_at h hk)
  rw [this.2.1, this.2.2]
theorem isRow_self (ps : List (Int × Int)) : isRow ps ps = true := by
  unfold isRow
  rw [allI_yes]
  · simp
  · intro k hk
    unfold isAt isB
    simp
section
variable (av : Option Addr) (cv base : Nat) (ps : List (Int × Int)) (w : World) (O : OB w base av cv ps)
include O
theorem iLessNo (h : okRow 64 ps = false) : Calls Try.prog 7 #[.agg #[.slice av ps.length cv]] w fun e w' => e = .returned (.tuple #[.agg #[.slice none 0 0], .bool false]) ∧ Below w.heap.size w w' := by
  refine (iBoxLess av _ cv ps w O.inRow).mono ?_
  rintro e w' ⟨r | ⟨-, r⟩, hb⟩
  · rw [h] at r; cases r.1
  · exact ⟨r, hb⟩
theorem iLessYes (h : okRow 64 ps = true) : Calls Try.prog 7 #[.agg #[.slice av ps.length cv]] w fun e w' => (∃ au cu, e = .returned (.tuple #[.agg #[.slice au (lessL ps).length cu], .bool true]) ∧ OB w' w.heap.size au cu (lessL ps)) ∧ Below w.heap.size w w' := by
  refine (iBoxLess av _ cv ps w O.inRow).mono ?_
  rintro e w' ⟨⟨-, g, cap, r, h1, h2, h3, h4⟩ | ⟨r, -⟩, hb⟩
  · exact ⟨⟨_, _, r, less_fits h, h2, h3, .inr ⟨g, rfl, h1, h4⟩⟩, hb⟩
  · rw [h] at r; cases r
theorem iMoreNo (h : okRow 32 ps = false) : Calls Try.prog 9 #[.agg #[.slice av ps.length cv]] w fun e w' => e = .returned (.tuple #[.agg #[.slice none 0 0], .bool false]) ∧ Below w.heap.size w w' := by
  refine (iBoxMore av _ cv ps w O.inRow).mono ?_
  rintro e w' ⟨r | ⟨-, r⟩, hb⟩
  · rw [h] at r; cases r.1
  · exact ⟨r, hb⟩
theorem iMoreYes (h : okRow 32 ps = true) : Calls Try.prog 9 #[.agg #[.slice av ps.length cv]] w fun e w' => (∃ au cu, e = .returned (.tuple #[.agg #[.slice au (moreL ps).length cu], .bool true]) ∧ OB w' w.heap.size au cu (moreL ps)) ∧ Below w.heap.size w w' := by
  refine (iBoxMore av _ cv ps w O.inRow).mono ?_
  rintro e w' ⟨⟨-, g, cap, r, h1, h2, h3, h4⟩ | ⟨r, -⟩, hb⟩
  · exact ⟨⟨_, _, r, more_fits h, h2, h3, .inr ⟨g, rfl, h1, h4⟩⟩, hb⟩
  · rw [h] at r; cases r
theorem sOkO (wd : Int) (r : Bool) (h : okRow wd ps = r) : Calls Try.prog 8 #[.int .i64 wd, .agg #[.slice av ps.length cv]] w fun e w' => e = .returned (.bool r) ∧ Below w.heap.size w w' := by
  subst h; exact sBoxOk wd av _ cv ps w O.inRow
theorem iOkO (wd : Int) (r : Bool) (h : okRow wd ps = r) : Calls Try.prog 10 #[.int .i64 wd, .agg #[.slice av ps.length cv]] w fun e w' => e = .returned (.bool r) ∧ Below w.heap.size w w' := by
  subst h; exact iBoxOk wd av _ cv ps w O.inRow
theorem iIsO (au : Option Addr) (cu base' : Nat) (qs : List (Int × Int)) (U : OB w base' au cu qs) (r : Bool) (h : isRow ps qs = r) : Calls Try.prog 11 #[.agg #[.slice av ps.length cv], .agg #[.slice au qs.length cu]] w fun e w' => e = .returned (.bool r) ∧ Below w.heap.size w w' := by
  subst h; exact iBoxIs av au _ _ cv cu ps qs w O.inRow U.inRow
end
end Go.Proofs.Ytpnfkigeagbhpaa
