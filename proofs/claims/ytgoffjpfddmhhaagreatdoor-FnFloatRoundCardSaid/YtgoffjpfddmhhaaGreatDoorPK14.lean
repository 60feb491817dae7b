/- Digits that move up by one place in their own row, by copy; and how many bits a number lacks to whole digits. No condition. -/
import Derived.Test.YtgoffjpfddmhhaaGreatDoorPK13
import Derived.Laws.IdiomCopy
import Derived.Test.YtgoffjpfddmhhaaGreatDoorPK08
import Derived.Test.YtgoffjpfddmhhaaGreatDoorPK10
namespace Go.Proofs.YtgoffjpfddmhhaaGreatDoor
open Go.RowKit Go.Shelf
set_option linter.unusedVariables false
set_option maxRecDepth 100000

theorem grown_setCells {w : World} (b : Nat) : ∀ (vs : List Value) (o : Nat) (w' : World), w.grownBy w' (some b) → w.grownBy (w'.setCells b o vs) (some b)
  | [], _, _, h => h
  | v :: r, o, w', h => grown_setCells b r (o + 1) _ (grown_set h o v)
theorem same_grown {P : Nat → Prop} {w w' : World} {b : Nat} (h : w.grownBy w' (some b)) (hb : ¬ P b) : Same P w w' := ⟨h.size, fun k hk hl => h.block k hl (by intro e; injection e with e1; subst e1; exact hb hk)⟩
theorem below_grown {n : Nat} {w0 w w' : World} {b : Nat} (hb : Below n w0 w) (h : w.grownBy w' (some b)) (hn : n ≤ b) (hs : n ≤ w.heap.size) : Below n w0 w' := hb.grown h hs (fun k e => by injection e with e1; omega)
theorem add_plain (g o j : Nat) : (⟨g, o, none⟩ : Addr).add j = ⟨g, o + j, none⟩ := by
  by_cases h : j = 0
  · subst h; simp [Addr.add]
  · simp [Addr.add, h]
theorem copyUp {w : World} {g n c1 c2 : Nat} {rs : List Int} (hr : IRow w g rs) (hl : rs.length = n + 1) :
    (∀ ty, (Builtin.copy_ #[80, 80] ty #[.slice (some ⟨g, 1, none⟩) n c1, .slice (some ⟨g, 0, none⟩) (n + 1) c2]).run Tryz.prog w = .ok (goInt n) (w.setCells g 1 (ints (rs.take n)))) ∧
    IRow (w.setCells g 1 (ints (rs.take n))) g (rs.getD 0 0 :: rs.take n) := by
  have hlen : (ints (rs.take n)).length = n := by rw [ints_length, List.length_take]; omega
  have hsrc : ∀ j v, (ints (rs.take n))[j]? = some v → w.cell? ((⟨g, 0, none⟩ : Addr).add j) = some v := by
    intro j v hj
    have hjn : j < n := by
      have := (List.getElem?_eq_some_iff.1 hj).1
      omega
    rw [ints_get (by rw [List.length_take]; omega), take_getD hjn] at hj
    rw [add_plain, Nat.zero_add]
    rw [(hr.2 j (by omega)).1]; exact hj
  have hc : ∀ j, j < (ints (rs.take n)).length → (w.cell? ⟨g, 1 + j, none⟩).isSome = true := fun j hj => by
    rw [(hr.2 (1 + j) (by omega)).1]; rfl
  have hf : ∀ j, j < (ints (rs.take n)).length → w.frozen? ⟨g, 1 + j, none⟩ = false := fun j hj => (hr.2 (1 + j) (by omega)).2
  have h1 : ∀ v ∈ ints (rs.take n), v.oneCell' = true := by
    intro v hv
    unfold ints at hv
    obtain ⟨x, -, rfl⟩ := List.mem_map.1 hv
    rfl
  refine ⟨fun ty => ?_, ?_⟩
  · have h := run_copy_cells (P := Tryz.prog) w 80 80 ty 3 g 1 n c1 ⟨g, 0, none⟩ (n + 1) c2 (ints (rs.take n)) Tryz.underlying80 (by kernel_rfl) (by rw [hlen]; exact (Nat.min_eq_right (by omega)).symm) hsrc hc hf h1
    rw [hlen] at h
    exact h
  · have hg0 := grown_setCells (w := w) g (ints (rs.take n)) 1 w (World.grownBy.refl _ _)
    refine ⟨Nat.lt_of_lt_of_le hr.1 hg0.size, fun i hi => ?_⟩
    rw [List.length_cons, List.length_take, Nat.min_eq_left (by omega)] at hi
    refine ⟨?_, by rw [World.frozen?_setCells]; exact (hr.2 i (by omega)).2⟩
    cases i with
    | zero =>
      rw [World.cell?_setCells_out g _ 1 w _ (fun _ _ => Or.inl (by simp))]
      exact (hr.2 0 (by omega)).1
    | succ i =>
      have h := World.cell?_setCells_in g (ints (rs.take n)) 1 w hc i (by omega)
      rw [show i + 1 = 1 + i by omega, h]
      rw [show 1 + i = i + 1 by omega, List.getD_cons_succ]
      have := ints_get (xs := rs.take n) (i := i) (by rw [List.length_take]; omega)
      rw [List.getElem?_eq_getElem (by omega)] at this
      exact this
theorem hlvI_le (k : Nat) : k ≤ 16 → ∀ d : Int, 0 ≤ d → d < ((2 ^ k : Nat) : Int) → hlvI d ≤ k := by
  induction k with
  | zero =>
    intro _ d h0 h1
    obtain rfl : d = 0 := by simp at h1; omega
    rw [hlvI_zero]; omega
  | succ k ih =>
    intro hk d h0 h1
    by_cases hd : d = 0
    · subst hd; rw [hlvI_zero]; omega
    · have hle : (2 : Nat) ^ (k + 1) ≤ 2 ^ 16 := Nat.pow_le_pow_right (by omega) hk
      have h16 : (2 : Nat) ^ 16 = 65536 := by decide
      have hps : (2 : Nat) ^ (k + 1) = 2 ^ k * 2 := Nat.pow_succ ..
      rw [hlvI_half (by omega) (by omega)]
      have := ih (by omega) (d / 2) (by omega) (by omega)
      omega
theorem digit_bits {t : Int} (h0 : 0 < t) (h1 : t < 65536) : 1 ≤ hlvI t ∧ hlvI t ≤ 16 := by
  have h16 : ((2 ^ 16 : Nat) : Int) = 65536 := by decide
  refine ⟨?_, hlvI_le 16 (by omega) t (by omega) (by rw [h16]; exact h1)⟩
  rw [hlvI_half h0 h1]
  have := (hlvI_bd (g := t / 2) (by omega)).1
  omega
/-- how many bits lack to whole digits -/
theorem lack {ys : List Int} {n : Nat} (hy : digs ys) (ty : topped ys) (hl : ys.length = n) (h0 : 0 < n) : ∃ p : Nat, p < 16 ∧ (n : Int) * 16 - bitsN ys = (p : Int) ∧ 0 ≤ bitsN ys ∧ bitsN ys ≤ 16 * (n : Int) := by
  have d := digs_getD hy (n - 1)
  have ht := ty.resolve_left (by omega)
  rw [hl] at ht
  unfold dig at d
  have hb := digit_bits (t := ys.getD (n - 1) 0) (by omega) d.2
  have e : bitsN ys = 16 * ((n : Int) - 1) + hlvI (ys.getD (n - 1) 0) := by unfold bitsN; rw [if_neg (by omega), hl]
  generalize hlvI (ys.getD (n - 1) 0) = z at *
  exact ⟨(16 - z).toNat, by omega, by omega, by omega, by omega⟩
end Go.Proofs.YtgoffjpfddmhhaaGreatDoor

/- The program's quotient and rest by a number of two digits or more: new lists that share no memory. Conditions: digits, no needless noughts. -/
namespace Go.Proofs.YtgoffjpfddmhhaaGreatDoor
open Go.RowKit Go.Shelf
attribute [local go_sem] Oper.semAt_some
set_option linter.unusedVariables false
set_option maxRecDepth 100000

theorem up0 (a : Option Addr) (len cap : Nat) (xs : List Int) (p : Nat) (w : World) (hR : InI w a len cap xs) (hx : digs xs) (hp : p < 16) (hl : len ≤ 1048576) :
    Calls Tryz.prog 68 #[.slice a len cap, .int .i64 (p : Int)] w fun e w' => (∃ av cv, e = .returned (.slice av (natL (2 ^ p * val xs)).length cv) ∧ OI w' w.heap.size av cv (natL (2 ^ p * val xs))) ∧ Below w.heap.size w w' := by
  have h := iUp a len cap xs 0 p w hR hx hp (by omega) hl
  rw [show (16 * ((0 : Nat) : Int) + (p : Int)) = (p : Int) by omega, Nat.pow_zero, Nat.one_mul] at h
  exact h
theorem down0 (a : Option Addr) (len cap : Nat) (xs : List Int) (p : Nat) (w : World) (hR : InI w a len cap xs) (hx : digs xs) (hp : p < 16) (hl : len ≤ 1048576) :
    Calls Tryz.prog 92 #[.slice a len cap, .int .i64 (p : Int)] w fun e w' => (∃ av cv, e = .returned (.slice av (natL (val xs / 2 ^ p)).length cv) ∧ OI w' w.heap.size av cv (natL (val xs / 2 ^ p))) ∧ Below w.heap.size w w' := by
  have h := iDown a len cap xs 0 p w hR hx hp (by omega) hl
  rw [show (16 * ((0 : Nat) : Int) + (p : Int)) = (p : Int) by omega, Nat.pow_zero, Nat.one_mul] at h
  exact h
theorem cells_of_cell {W : World} {j i : Nat} {v : Value} {o : Obj} (h : W.cell? ⟨j, i, none⟩ = some v) (ho : W.heap[j]? = some o) : o.isCells = true := by
  cases o <;> first | rfl | (simp [World.cell?, ho] at h)
theorem mul_len2 {xs : List Int} {p : Nat} (hx : digs xs) (hp : p < 16) : (natL (2 ^ p * val xs)).length ≤ xs.length + 1 := by
  have h2 : 2 ^ p ≤ 65536 := by
    have : 2 ^ p ≤ 2 ^ 16 := Nat.pow_le_pow_right (by omega) (by omega)
    have e : (2 : Nat) ^ 16 = 65536 := by decide
    omega
  have := mul_len (U := 2 ^ p) hx h2
  rwa [Nat.mul_comm] at this
set_option maxRecDepth 100000 in
set_option maxHeartbeats 4000000 in
theorem iCutLong (a b : Option Addr) (la lb ca cb : Nat) (xs ys : List Int) (w : World) (hA : InI w a la ca xs) (hB : InI w b lb cb ys) (hx : digs xs) (hy : digs ys) (ty : topped ys) (hla : la ≤ 65536) (hlb : lb ≤ 65536) (h2 : 2 ≤ lb) :
    Calls Tryz.prog 70 #[.slice a la ca, .slice b lb cb] w fun e w' => (∃ av cv av2 cv2, e = .returned (.tuple #[.slice av (natL (val xs / val ys)).length cv, .slice av2 (natL (val xs % val ys)).length cv2]) ∧ OI w' w.heap.size av cv (natL (val xs / val ys)) ∧ OI w' w.heap.size av2 cv2 (natL (val xs % val ys)) ∧ Sep av av2) ∧ Below w.heap.size w w' := by
  have pa := hA.1
  have pb := hB.1
  have hY0 : 0 < val ys := Nat.lt_of_lt_of_le (Nat.pow_pos (by omega)) (val_ge hy ty (by omega))
  obtain ⟨p, hp, hlk, hb0, hb1⟩ := lack hy ty pb (by omega)
  have L := hd (iLength b lb cb ys w hB hy (by omega))
  have hT0 : 0 < 2 ^ p := Nat.pow_pos (by omega)
  have U1 := hd (up0 b lb cb ys p w hB hy hp (by omega))
  have U2 := hd (fun w' (h : Below w.heap.size w w') => up0 a la ca xs p w' (hA.old h) hx hp (by omega))
  have hDl := mul_len2 (p := p) hy hp
  have hNl := mul_len2 (p := p) hx hp
  have hD0 : 0 < 2 ^ p * val ys := Nat.mul_pos hT0 hY0
  have hDge : lb ≤ (natL (2 ^ p * val ys)).length := by
    have h5 := natL_le (Nat.le_mul_of_pos_left (val ys) hT0)
    rw [natL_canon hy ty, pb] at h5
    exact h5
  have hq : Hid ((2 ^ p * val xs) / (2 ^ p * val ys) = val xs / val ys) := Nat.mul_div_mul_left _ _ hT0
  have hr : Hid ((2 ^ p * val xs) % (2 ^ p * val ys) / 2 ^ p = val xs % val ys) := by show _ = _; rw [Nat.mul_mod_mul_left, Nat.mul_div_cancel_left _ hT0]
  rw [pb] at hDl
  rw [pa] at hNl
  generalize val xs / val ys = Qv at *
  generalize val xs % val ys = Rv at *
  obtain ⟨D, hDD⟩ : ∃ D, D = 2 ^ p * val ys := ⟨_, rfl⟩
  obtain ⟨NN, hNN⟩ : ∃ NN, NN = 2 ^ p * val xs := ⟨_, rfl⟩
  rw [← hDD] at U1 hDl hD0 hDge hq hr
  rw [← hNN] at U2 hNl hq hr
  clear hDD hNN hT0 hY0
  obtain ⟨n, hn⟩ : ∃ n, n = (natL D).length := ⟨_, rfl⟩
  obtain ⟨m, hm⟩ : ∃ m, m = (natL NN).length := ⟨_, rfl⟩
  rw [← hn] at U1 hDl hDge
  rw [← hm] at U2 hNl
  have hn' := hd hn
  have hm' := hd hm
  have hDn : Hid (D < 65536 ^ n) := by show _ < _; rw [hn]; exact natL_lt_pow D
  clear hn hm
  generalize bitsN ys = bt at *
  have hlb1 : ((lb : Int) == 1) = false := by simp; omega
  have hbi : (lb : Int) * 16 ≤ 1048576 := by omega
  have hwl : IntKind.i64.wrap ((lb : Int) * 16 - bt) = (p : Int) := by rw [hlk]; simp [IntKind.wrap, IntKind.bits, IntKind.signed]; omega
  have hp0 : (0 : Int) ≤ (p : Int) := by omega
  have hp1 : (p : Int) < 16 := by omega
  refine (callsIn_wide (n := 3)).1 ?_
  have hro : Fence.wide.round = none := rfl
  have h1 : 1 ≤ 3 := by omega
  refine callsIn_of_wp_marks Tryz.func70 rfl trivial ?_ hro
  simp only [Tryz.ntmps70, List.size_toArray, List.length_cons, List.length_nil, Nat.reduceAdd, Nat.reduceSub, Array.replicate_succ, Array.replicate_zero, List.push_toArray, List.append_toArray, List.nil_append, List.cons_append]
  gi_wp2_with (refine ⟨trivial, ?_⟩; first | (gi_at_call 89; refine (callsIn_wide.2 L.out).mono ?_; rintro e w' ⟨rfl, hw'⟩; obtain rfl : w = w' := hw'.symm; clear hw'))
  refine ⟨trivial, ?_⟩
  refine (callsIn_wide.2 U1.out).mono ?_
  rintro e w1 ⟨⟨av1, cv1, rfl, hO1⟩, hB1⟩
  clear U1 L
  gi_wp2_with fail
  refine ⟨trivial, ?_⟩
  refine (callsIn_wide.2 (U2.out _ hB1)).mono ?_
  rintro e w2 ⟨⟨av2, cv2, rfl, hO2⟩, hB2⟩
  clear U2
  have hBw : Below w.heap.size w w2 := old_trans hB1 hB2
  have hDi := (hO1.later hB2).inI
  have hNi := hO2.inI
  rw [← hn'.out] at hDi
  rw [← hm'.out] at hNi
  clear hO1 hO2 hB1 hB2 hA hB hwl hlk hbi
  have hmk1 := mkDigs (w2.alloc (.cells #[.slice av1 n cv1] 80)) m (by omega)
  have hr1 := IRow.made (w2.alloc (.cells #[.slice av1 n cv1] 80)) m 3
  have hmk2 := mkDigs (((w2.alloc (.cells #[.slice av1 n cv1] 80)).alloc (.cells (madeCells #[Value.int IntKind.i64 0] m) 3)).alloc (.cells #[.slice (some ⟨w2.heap.size + 1, 0, none⟩) m m] 80)) (n + 1) (by omega)
  have hr2 := IRow.made (((w2.alloc (.cells #[.slice av1 n cv1] 80)).alloc (.cells (madeCells #[Value.int IntKind.i64 0] m) 3)).alloc (.cells #[.slice (some ⟨w2.heap.size + 1, 0, none⟩) m m] 80)) (n + 1) 3
  rw [Nat.mul_one] at hr1 hr2 hmk1 hmk2
  rw [show ((n + 1 : Nat) : Int) = (n : Int) + 1 by omega] at hmk2
  simp only [World.size_alloc] at hmk1 hmk2 hr1 hr2
  have hnb : (n : Int) ≤ 1048576 := by omega
  gi_wp2_with (refine ⟨trivial, ?_⟩; first | (gi_at_call 90; refine (top_in Fence.wide (3 - 1) trivial hro _ _ _ _).mono ?_; rintro e w' ⟨rfl, rfl⟩))
  have c0 := ((((((Boxed.new w2 80 (.slice av1 n cv1)).alloc (.cells (madeCells #[Value.int IntKind.i64 0] m) 3)).alloc (.cells #[.slice (some ⟨w2.heap.size + 1, 0, none⟩) m m] 80)).alloc (.cells (madeCells #[Value.int IntKind.i64 0] (n + 1)) 3)).alloc (.cells #[.slice (some ⟨w2.heap.size + 1 + 1 + 1, 0, none⟩) (n + 1) (n + 1)] 80)).alloc (.cells #[.slice av2 m cv2] 80)).cell
  have c2 := ((((Boxed.new ((w2.alloc (.cells #[.slice av1 n cv1] 80)).alloc (.cells (madeCells #[Value.int IntKind.i64 0] m) 3)) 80 (.slice (some ⟨w2.heap.size + 1, 0, none⟩) m m)).alloc (.cells (madeCells #[Value.int IntKind.i64 0] (n + 1)) 3)).alloc (.cells #[.slice (some ⟨w2.heap.size + 1 + 1 + 1, 0, none⟩) (n + 1) (n + 1)] 80)).alloc (.cells #[.slice av2 m cv2] 80)).cell
  have c4 := ((Boxed.new ((((w2.alloc (.cells #[.slice av1 n cv1] 80)).alloc (.cells (madeCells #[Value.int IntKind.i64 0] m) 3)).alloc (.cells #[.slice (some ⟨w2.heap.size + 1, 0, none⟩) m m] 80)).alloc (.cells (madeCells #[Value.int IntKind.i64 0] (n + 1)) 3)) 80 (.slice (some ⟨w2.heap.size + 1 + 1 + 1, 0, none⟩) (n + 1) (n + 1))).alloc (.cells #[.slice av2 m cv2] 80)).cell
  have c5 := (Boxed.new (((((w2.alloc (.cells #[.slice av1 n cv1] 80)).alloc (.cells (madeCells #[Value.int IntKind.i64 0] m) 3)).alloc (.cells #[.slice (some ⟨w2.heap.size + 1, 0, none⟩) m m] 80)).alloc (.cells (madeCells #[Value.int IntKind.i64 0] (n + 1)) 3)).alloc (.cells #[.slice (some ⟨w2.heap.size + 1 + 1 + 1, 0, none⟩) (n + 1) (n + 1)] 80)) 80 (.slice av2 m cv2)).cell
  have row1 := ((((hr1.old ((Below.refl _ _).alloc (Nat.le_refl _) (.cells #[.slice (some ⟨w2.heap.size + 1, 0, none⟩) m m] 80))).old ((Below.refl _ _).alloc (Nat.le_refl _) (.cells (madeCells #[Value.int IntKind.i64 0] (n + 1)) 3))).old ((Below.refl _ _).alloc (Nat.le_refl _) (.cells #[.slice (some ⟨w2.heap.size + 1 + 1 + 1, 0, none⟩) (n + 1) (n + 1)] 80))).old ((Below.refl _ _).alloc (Nat.le_refl _) (.cells #[.slice av2 m cv2] 80)))
  have row3 := ((hr2.old ((Below.refl _ _).alloc (Nat.le_refl _) (.cells #[.slice (some ⟨w2.heap.size + 1 + 1 + 1, 0, none⟩) (n + 1) (n + 1)] 80))).old ((Below.refl _ _).alloc (Nat.le_refl _) (.cells #[.slice av2 m cv2] 80)))
  simp only [World.size_alloc] at c0 c2 c4 c5 row1 row3
  have hB0 : Below w2.heap.size w2 ((((((w2.alloc (.cells #[.slice av1 n cv1] 80)).alloc (.cells (madeCells #[Value.int IntKind.i64 0] m) 3)).alloc (.cells #[.slice (some ⟨w2.heap.size + 1, 0, none⟩) m m] 80)).alloc (.cells (madeCells #[Value.int IntKind.i64 0] (n + 1)) 3)).alloc (.cells #[.slice (some ⟨w2.heap.size + 1 + 1 + 1, 0, none⟩) (n + 1) (n + 1)] 80)).alloc (.cells #[.slice av2 m cv2] 80)) := ((((((Below.refl _ w2).alloc (Nat.le_refl _) _).alloc (by simp) _).alloc (by simp; omega) _).alloc (by simp; omega) _).alloc (by simp; omega) _).alloc (by simp; omega) _
  have hsz : ((((((w2.alloc (.cells #[.slice av1 n cv1] 80)).alloc (.cells (madeCells #[Value.int IntKind.i64 0] m) 3)).alloc (.cells #[.slice (some ⟨w2.heap.size + 1, 0, none⟩) m m] 80)).alloc (.cells (madeCells #[Value.int IntKind.i64 0] (n + 1)) 3)).alloc (.cells #[.slice (some ⟨w2.heap.size + 1 + 1 + 1, 0, none⟩) (n + 1) (n + 1)] 80)).alloc (.cells #[.slice av2 m cv2] 80)).heap.size = w2.heap.size + 6 := by simp
  clear hr1 hr2 hmk1 hmk2
  generalize ((((((w2.alloc (.cells #[.slice av1 n cv1] 80)).alloc (.cells (madeCells #[Value.int IntKind.i64 0] m) 3)).alloc (.cells #[.slice (some ⟨w2.heap.size + 1, 0, none⟩) m m] 80)).alloc (.cells (madeCells #[Value.int IntKind.i64 0] (n + 1)) 3)).alloc (.cells #[.slice (some ⟨w2.heap.size + 1 + 1 + 1, 0, none⟩) (n + 1) (n + 1)] 80)).alloc (.cells #[.slice av2 m cv2] 80)) = W0 at *
  have hN0 := hNi.old hB0
  have hfar := hNi.far
  have hfarD := hDi.far
  have hNd := digs_natL NN
  have hend := hd (fun ys h => cutF_all (xs := natL NN) (len := m) (D := D) hm'.out.symm hNd hD0 ys h)
  refine wpIn_rangeFunc_ownF hro h1 (gf := 108) (lb := #[.pointer (some ⟨w2.heap.size + 1 + 1 + 1 + 1 + 1, 0, none⟩)]) rfl trivial (enters_of Tryz.func108 (by kernel_rfl) rfl)
    (top_stop Fence.wide (3 - 1) trivial hro (by omega) (w2.heap.size + 1 + 1 + 1 + 1 + 1) m cv2 (KeepP (w2.heap.size + 1 + 1 + 1 + 1 + 1) av2 m) av2 (natL NN) W0 (by omega) (.inl rfl) c5 hN0 keepP_at) (fun h k => Same.trans h k) (same_b (n := w2.heap.size + 6) (keepP_lt (by omega) (fun h q e => by have := hfar h q e; omega)) (by omega)) (Below.refl _ _) (fun _ => rfl)
    (fun pre W => (W.cell? ⟨w2.heap.size, 0, none⟩ = some (.slice av1 n cv1) ∧ W.cell? ⟨w2.heap.size + 1 + 1, 0, none⟩ = some (.slice (some ⟨w2.heap.size + 1, 0, none⟩) m m) ∧ W.cell? ⟨w2.heap.size + 1 + 1 + 1 + 1, 0, none⟩ = some (.slice (some ⟨w2.heap.size + 1 + 1 + 1, 0, none⟩) (n + 1) (n + 1)) ∧ IRow W (w2.heap.size + 1) (cutF (natL NN) D pre).1 ∧ ∃ rs, IRow W (w2.heap.size + 1 + 1 + 1) rs ∧ rs.length = n + 1 ∧ digs rs ∧ val rs = (cutF (natL NN) D pre).2) ∧ w2.heap.size + 6 ≤ W.heap.size ∧ Below w2.heap.size w2 W)
    (fun c pre W => False)
    (OwnFrom.and (Own.from (fun s A B row hs hg hr => ⟨cell_kept hs.1 hg hr, cell_kept hs.2.1 hg hr, cell_kept hs.2.2.1 hg hr, irow_kept hs.2.2.2.1 hg hr, by obtain ⟨rs, h⟩ := hs.2.2.2.2; exact ⟨rs, irow_kept h.1 hg hr, h.2⟩⟩) _) (OwnFrom.and (fun s A B row hs hg hr => Nat.le_trans hs hg.size) (ownFrom_below (Nat.le_refl _) (by omega))))
    (fun c s A B row hs hg hr => hs.elim)
    ⟨⟨c0, c2, c4, by simpa [cutF] using row1, List.replicate (n + 1) 0, row3, by simp, digs_zeros _, by rw [val_zeros]; simp [cutF]⟩, by omega, hB0⟩
    (fun x => { tmps := #[.slice a la ca, .slice b lb cb, undef, undef, .slice none 0 0, .slice none 0 0, undef, undef, .int .i64 (p : Int), .pointer (some ⟨w2.heap.size, 0, none⟩), .slice av2 m cv2, .pointer (some ⟨w2.heap.size + 1 + 1, 0, none⟩), .pointer (some ⟨w2.heap.size + 1 + 1 + 1 + 1, 0, none⟩), .int .i64 (x.val : Int), .int .i64 ((natL NN).getD x.val 0), .slice b lb cb, .int .i64 (lb : Int), .bool false, undef, undef, undef, undef, undef, undef, undef, undef, undef, undef, undef, undef, .slice b lb cb, .int .i64 (lb : Int), .int .i64 ((lb : Int) * 16), .slice b lb cb, .int .i64 bt, .int .i64 (p : Int), .slice b lb cb, .int .i64 (p : Int), .slice av1 n cv1, .slice a la ca, .int .i64 (p : Int), .slice av2 m cv2, .slice av2 m cv2, .int .i64 (m : Int), .slice (some ⟨w2.heap.size + 1, 0, none⟩) m m, .slice av1 n cv1, .int .i64 (n : Int), .int .i64 ((n : Int) + 1), .slice (some ⟨w2.heap.size + 1 + 1 + 1, 0, none⟩) (n + 1) (n + 1), .slice av2 m cv2, .func (.func 108) #[] #[.pointer (some ⟨w2.heap.size + 1 + 1 + 1 + 1 + 1, 0, none⟩)], .int .i64 (x.val : Int), .int .i64 ((natL NN).getD x.val 0), undef, undef, undef, undef, undef, undef, undef, undef, undef, undef, undef, undef, undef, undef, undef, undef, undef, undef, undef], defers := [] }) ?assign ?body ?done ?stop
  case assign =>
    intro l x W K hK
    generalize (natL NN).getD x.val 0 = y at *
    gi_wp2
    exact hK
  case body =>
    rintro l pre x W ⟨⟨e0, e2, e4, hrw, rs, hrs, hrl, hrd, hrv⟩, hsW, hBW⟩ hpl
    have dx := digs_getD hNd x.val
    have hbd := cutF_bd (xs := natL NN) (D := D) hD0 pre.length pre rfl
    have hsn := hd (cutF_snoc (natL NN) D pre x)
    have hxl := x.isLt
    generalize hy : (natL NN).getD x.val 0 = y at *
    generalize hst : cutF (natL NN) D pre = st at *
    obtain ⟨qs, R⟩ := st
    dsimp only at *
    subst hrv
    have hvn : val rs < 65536 ^ n := Nat.lt_trans hbd.2 hDn.out
    obtain ⟨s1, s2, s3⟩ := shift_in hrl hrd hvn dx
    have hRd := hbd.2
    have hRR : val (y :: rs.take n) < val (natL D) * 65536 := by
      rw [s3, val_natL]
      unfold dig at dx
      omega
    have hsepD : ∀ q, av1 = some q → q.block ≠ w2.heap.size + 1 + 1 + 1 := fun q e => by have := hfarD (by omega) q e; omega
    have hne : ∀ k, w2.heap.size ≤ k → k < w2.heap.size + 5 → ¬ (KeepP (w2.heap.size + 1 + 1 + 1 + 1 + 1) av2 m) k := by
      rintro k h1 h2 (e | ⟨h, p, e, e2⟩)
      · omega
      · have := hfar h p e; omega
    have hne1 := hne (w2.heap.size + 1) (by omega) (by omega)
    have hne3 := hne (w2.heap.size + 1 + 1 + 1) (by omega) (by omega)
    obtain ⟨hcp, hcr⟩ := copyUp (w := W.drew) (g := w2.heap.size + 1 + 1 + 1) (n := n) (c1 := n) (c2 := n + 1) (rs := rs) hrs hrl
    have g1 : W.grownBy (W.drew.setCells (w2.heap.size + 1 + 1 + 1) 1 (ints (rs.take n))) (some (w2.heap.size + 1 + 1 + 1)) := grown_setCells (w := W) (w2.heap.size + 1 + 1 + 1) (ints (rs.take n)) 1 W.drew ⟨rfl, rfl, rfl, Nat.le_refl _, fun _ _ _ => rfl⟩
    generalize W.drew.setCells (w2.heap.size + 1 + 1 + 1) 1 (ints (rs.take n)) = W1 at *
    have lt0 : w2.heap.size < W.heap.size := by omega
    have lt1 : w2.heap.size + 1 < W.heap.size := by omega
    have lt2 : w2.heap.size + 1 + 1 < W.heap.size := by omega
    have lt4 : w2.heap.size + 1 + 1 + 1 + 1 < W.heap.size := by omega
    have lt3 : w2.heap.size + 1 + 1 + 1 < W.heap.size := by omega
    have f0 := (World.cell?_of_block (a := ⟨w2.heap.size, 0, none⟩) (g1.block (w2.heap.size) lt0 (fun e => absurd (Option.some.inj e) (by omega)))).trans e0
    have f2 := (World.cell?_of_block (a := ⟨w2.heap.size + 1 + 1, 0, none⟩) (g1.block (w2.heap.size + 1 + 1) lt2 (fun e => absurd (Option.some.inj e) (by omega)))).trans e2
    have f4 := (World.cell?_of_block (a := ⟨w2.heap.size + 1 + 1 + 1 + 1, 0, none⟩) (g1.block (w2.heap.size + 1 + 1 + 1 + 1) lt4 (fun e => absurd (Option.some.inj e) (by omega)))).trans e4
    obtain ⟨z0, -, d0, d2⟩ := hcr.at (k := 0) (by simp)
    have hcr2 := hcr.set 0 (by simp) y
    rw [List.set_cons_zero] at hcr2
    have g2 := grown_set g1 0 (.int .i64 y)
    have hB2 : Below w2.heap.size w2 (W1.setCell ⟨w2.heap.size + 1 + 1 + 1, 0, none⟩ (.int .i64 y)) := below_grown hBW g2 (by omega) (by omega)
    have TK := hd (iTaken av1 n cv1 (w2.heap.size + 1 + 1 + 1) (n + 1) (natL D) (y :: rs.take n) (W1.setCell ⟨w2.heap.size + 1 + 1 + 1, 0, none⟩ (.int .i64 y)).drew (hDi.old hB2.drew) (by omega) hcr2 s1 (digs_natL D) (topped_natL D) s2 hRR (by omega) (Nat.le_refl _) hsepD)
    rw [s3, val_natL] at TK
    have hst2 := hd (fun (wT : World) (h : (W1.setCell ⟨w2.heap.size + 1 + 1 + 1, 0, none⟩ (.int .i64 y)).drew.grownBy wT (some (w2.heap.size + 1 + 1 + 1))) => grown_on g2 ⟨h.os, h.tape, h.output, h.size, h.block⟩)
    obtain ⟨R', hR'⟩ : ∃ R', R' = val rs * 65536 + y.toNat := ⟨_, rfl⟩
    rw [← hR'] at TK hsn
    have hqd : R' / D < 65536 := Nat.div_lt_of_lt_mul (by unfold dig at dx; omega)
    obtain ⟨qd, hqd2⟩ : ∃ qd : Int, qd = ((R' / D : Nat) : Int) := ⟨_, rfl⟩
    rw [← hqd2] at TK hsn
    have F : Hid (∀ (wT : World) (ts : List Int), (W1.setCell ⟨w2.heap.size + 1 + 1 + 1, 0, none⟩ (.int .i64 y)).drew.grownBy wT (some (w2.heap.size + 1 + 1 + 1)) → ts.length = n + 1 → digs ts → val ts = R' % D → IRow wT (w2.heap.size + 1 + 1 + 1) ts → ownPostK (Same (KeepP (w2.heap.size + 1 + 1 + 1 + 1 + 1) av2 m)) (fun pre W => (W.cell? ⟨w2.heap.size, 0, none⟩ = some (.slice av1 n cv1) ∧ W.cell? ⟨w2.heap.size + 1 + 1, 0, none⟩ = some (.slice (some ⟨w2.heap.size + 1, 0, none⟩) m m) ∧ W.cell? ⟨w2.heap.size + 1 + 1 + 1 + 1, 0, none⟩ = some (.slice (some ⟨w2.heap.size + 1 + 1 + 1, 0, none⟩) (n + 1) (n + 1)) ∧ IRow W (w2.heap.size + 1) (cutF (natL NN) D pre).1 ∧ ∃ rs, IRow W (w2.heap.size + 1 + 1 + 1) rs ∧ rs.length = n + 1 ∧ digs rs ∧ val rs = (cutF (natL NN) D pre).2) ∧ w2.heap.size + 6 ≤ W.heap.size ∧ Below w2.heap.size w2 W) (fun c pre W => False) (pre ++ [x]) W Exit.normal { tmps := #[], defers := [] } (wT.setCell ⟨w2.heap.size + 1, x.val, none⟩ (.int .i64 qd))) := by
      intro wT ts hg q1 q2 q3 q4
      have G := hst2.out wT hg
      have hcell : ∀ (o : Obj), W.heap[w2.heap.size + 1 + 1 + 1]? = some o → o.isCells = true := fun o ho => cells_of_cell (hrs.2 0 (by omega)).1 ho
      have K1 : KeepsOthers W wT := KeepsOthers.of_grownBy G (fun j o e ho => by have := Option.some.inj e; subst this; exact hcell o ho)
      have r1 := (hrw.kept G (fun e => absurd (Option.some.inj e) (by omega))).set x.val (by rw [hbd.1]; exact hxl) qd
      have gq := grown_set (World.grownBy.refl wT (some (w2.heap.size + 1))) x.val (.int .i64 qd)
      have r3 := q4.kept gq (fun e => absurd (Option.some.inj e) (by omega))
      refine ⟨K1.trans (KeepsOthers.setCell _ _ _), (same_grown G hne3).setCell ⟨w2.heap.size + 1, x.val, none⟩ _ hne1, ⟨?_, ?_, ?_, ?_, ts, r3, q1, q2, ?_⟩, ?_, ?_⟩
      · rw [World.cell?_setCell_other _ _ _ _ (by intro h; injection h with h1; omega)]
        exact (World.cell?_of_block (a := ⟨w2.heap.size, 0, none⟩) (G.block (w2.heap.size) lt0 (fun e => absurd (Option.some.inj e) (by omega)))).trans e0
      · rw [World.cell?_setCell_other _ _ _ _ (by intro h; injection h with h1; omega)]
        exact (World.cell?_of_block (a := ⟨w2.heap.size + 1 + 1, 0, none⟩) (G.block (w2.heap.size + 1 + 1) lt2 (fun e => absurd (Option.some.inj e) (by omega)))).trans e2
      · rw [World.cell?_setCell_other _ _ _ _ (by intro h; injection h with h1; omega)]
        exact (World.cell?_of_block (a := ⟨w2.heap.size + 1 + 1 + 1 + 1, 0, none⟩) (G.block (w2.heap.size + 1 + 1 + 1 + 1) lt4 (fun e => absurd (Option.some.inj e) (by omega)))).trans e4
      · rw [hsn.out]; exact r1
      · rw [hsn.out]; exact q3
      · have := G.size; simp [World.setCell]; omega
      · exact (below_grown hBW G (by omega) (by omega)).setCell (p := ⟨w2.heap.size + 1, x.val, none⟩) (by simp) _
    have hqrow : ∀ (wT : World), (W1.setCell ⟨w2.heap.size + 1 + 1 + 1, 0, none⟩ (.int .i64 y)).drew.grownBy wT (some (w2.heap.size + 1 + 1 + 1)) → ∃ zq, wT.cell? ⟨w2.heap.size + 1, x.val, none⟩ = some (.int .i64 zq) ∧ wT.frozen? ⟨w2.heap.size + 1, x.val, none⟩ = false ∧ wT.cell? ⟨w2.heap.size + 1 + 1, 0, none⟩ = some (.slice (some ⟨w2.heap.size + 1, 0, none⟩) m m) ∧ wT.cell? ⟨w2.heap.size, 0, none⟩ = some (.slice av1 n cv1) ∧ wT.cell? ⟨w2.heap.size + 1 + 1 + 1 + 1, 0, none⟩ = some (.slice (some ⟨w2.heap.size + 1 + 1 + 1, 0, none⟩) (n + 1) (n + 1)) := by
      intro wT hg
      have G := hst2.out wT hg
      have r1 := hrw.kept G (fun e => absurd (Option.some.inj e) (by omega))
      obtain ⟨zq, -, u1, u2⟩ := r1.at (k := x.val) (by rw [hbd.1]; exact hxl)
      exact ⟨zq, u1, u2, (World.cell?_of_block (a := ⟨w2.heap.size + 1 + 1, 0, none⟩) (G.block (w2.heap.size + 1 + 1) lt2 (fun e => absurd (Option.some.inj e) (by omega)))).trans e2, (World.cell?_of_block (a := ⟨w2.heap.size, 0, none⟩) (G.block (w2.heap.size) lt0 (fun e => absurd (Option.some.inj e) (by omega)))).trans e0, (World.cell?_of_block (a := ⟨w2.heap.size + 1 + 1 + 1 + 1, 0, none⟩) (G.block (w2.heap.size + 1 + 1 + 1 + 1) lt4 (fun e => absurd (Option.some.inj e) (by omega)))).trans e4⟩
    have hqrow' := hd hqrow
    have hxi : (x.val : Int) < (m : Int) := by omega
    have hxi0 : (0 : Int) ≤ (x.val : Int) := by omega
    have hn1 : (1 : Int) ≤ (n : Int) + 1 := by omega
    have hn00 : ¬ n = 0 := by omega
    clear hqrow hst2 hsn hrw hbd hRd hvn hrs hrl hrd hcr hcr2 g1 g2 hB2 s1 s2 s3 hRR hqd hqd2 hR' hne hne1 hne3 hsepD hend hst hy dx hpl hsW hBW hD0 hDn hq hr hN0 hNd hNi hDi hfar hfarD hBw hB0 hsz c0 c2 c4 c5 row1 row3 hDl hNl hDge hn' hm' hlb1 hp0 hp1 hb0 hb1
    gi_wp2_with fail
    refine Code.wpIn_mono NoPanic.imp ?_
    refine wpIn_region_any (by kernel_rfl) ?_
    refine wpAnyIn_round (F := Fence.wide) rfl (by kernel_rfl) _ _ _ _ ?_
    try (change wpAnyIn _ _ _ _ _ _ _ _ _ (World.drew _))
    refine wpAnyIn_ready (rs := [0, 2]) (by kernel_rfl) (by simp) ?_
    refine AllReadyIn.cons rfl (fun K hK => ?_) ?_
    · go_simp
      refine hK _ _ ?_
      clear hK K
      refine wpAnyIn_take (i := 1) (v := ?_) rfl rfl (by kernel_rfl) (by kernel_rfl) (by kernel_rfl) (fun _ _ _ h => h) ⟨Or.inl ⟨by rfl, ?_⟩, fun _ => rfl⟩ ?_
      rotate_left
      · intro w; go_simp <;> with_reducible rfl
      refine wpAnyIn_ready (rs := [2]) (by kernel_rfl) (by simp) ?_
      refine AllReadyIn.cons rfl (fun K hK => ?_) ?_
      · go_simp
        refine hK _ _ ?_
        clear hK K
        refine wpAnyIn_ready (rs := [3]) (by kernel_rfl) (by simp) ?_
        refine AllReadyIn.cons rfl (fun K hK => ?_) ?_
        · go_simp
          refine hK _ _ ?_
          clear hK K
          refine wpAnyIn_done (by kernel_rfl) ?_ _
          refine NoPanic.normal ?_
          gi_wp2_with fail
          refine Code.wpIn_mono NoPanic.imp ?_
          refine wpIn_region_any (by kernel_rfl) ?_
          refine wpAnyIn_round (F := Fence.wide) rfl (by kernel_rfl) _ _ _ _ ?_
          try (change wpAnyIn _ _ _ _ _ _ _ _ _ (World.drew _))
          refine wpAnyIn_take (i := 1) (v := ?_) rfl rfl (by kernel_rfl) (by kernel_rfl) (by kernel_rfl) (fun _ _ _ h => h) ⟨Or.inl ⟨by rfl, ?_⟩, fun _ => rfl⟩ ?_
          rotate_left
          · intro w; go_simp <;> with_reducible rfl
          refine wpAnyIn_ready (rs := [0, 2, 3]) (by kernel_rfl) (by simp) ?_
          refine AllReadyIn.cons rfl (fun K hK => ?_) ?_
          · go_simp
            refine hK _ _ ?_
            clear hK K
            refine wpAnyIn_ready (rs := [2, 3]) (by kernel_rfl) (by simp) ?_
            refine AllReadyIn.cons rfl (fun K hK => ?_) ?_
            · go_simp
              refine hK _ _ ?_
              clear hK K
              refine wpAnyIn_ready (rs := [3]) (by kernel_rfl) (by simp) ?_
              refine AllReadyIn.cons rfl (fun K hK => ?_) ?_
              · go_simp
                refine hK _ _ ?_
                clear hK K
                refine wpAnyIn_ready (rs := [4]) (by kernel_rfl) (by simp) ?_
                refine AllReadyIn.cons rfl (fun K hK => ?_) ?_
                · go_simp; refine ⟨trivial, ?_⟩; refine (callsIn_wide.2 TK.out).mono ?_; rintro e wT ⟨rfl, ⟨ts, q1, q2, q3, q4⟩, hg⟩; obtain ⟨zq, u1, u2, u3, u4, u5⟩ := hqrow'.out wT hg; dsimp only
                  refine hK _ _ ?_
                  clear hK K
                  refine wpAnyIn_take (i := 5) (v := ?_) rfl rfl (by kernel_rfl) (by kernel_rfl) (by kernel_rfl) (fun _ _ _ h => h) ⟨Or.inl ⟨by rfl, ?_⟩, fun _ => rfl⟩ ?_
                  rotate_left
                  · intro w; go_simp <;> with_reducible rfl
                  refine wpAnyIn_ready (rs := [6]) (by kernel_rfl) (by simp) ?_
                  refine AllReadyIn.cons rfl (fun K hK => ?_) ?_
                  · go_simp
                    refine hK _ _ ?_
                    clear hK K
                    refine wpAnyIn_done (by kernel_rfl) ?_ _
                    refine NoPanic.normal ?_
                    gi_wp2
                    exact F.out wT ts hg q1 q2 q3 q4
                  exact AllReadyIn.nil
                exact AllReadyIn.nil
              exact AllReadyIn.nil
            refine AllReadyIn.cons rfl (fun K hK => ?_) ?_
            · go_simp
              refine hK _ _ ?_
              clear hK K
              refine wpAnyIn_ready (rs := [2]) (by kernel_rfl) (by simp) ?_
              refine AllReadyIn.cons rfl (fun K hK => ?_) ?_
              · go_simp
                refine hK _ _ ?_
                clear hK K
                refine wpAnyIn_ready (rs := [4]) (by kernel_rfl) (by simp) ?_
                refine AllReadyIn.cons rfl (fun K hK => ?_) ?_
                · go_simp; refine ⟨trivial, ?_⟩; refine (callsIn_wide.2 TK.out).mono ?_; rintro e wT ⟨rfl, ⟨ts, q1, q2, q3, q4⟩, hg⟩; obtain ⟨zq, u1, u2, u3, u4, u5⟩ := hqrow'.out wT hg; dsimp only
                  refine hK _ _ ?_
                  clear hK K
                  refine wpAnyIn_take (i := 5) (v := ?_) rfl rfl (by kernel_rfl) (by kernel_rfl) (by kernel_rfl) (fun _ _ _ h => h) ⟨Or.inl ⟨by rfl, ?_⟩, fun _ => rfl⟩ ?_
                  rotate_left
                  · intro w; go_simp <;> with_reducible rfl
                  refine wpAnyIn_ready (rs := [6]) (by kernel_rfl) (by simp) ?_
                  refine AllReadyIn.cons rfl (fun K hK => ?_) ?_
                  · go_simp
                    refine hK _ _ ?_
                    clear hK K
                    refine wpAnyIn_done (by kernel_rfl) ?_ _
                    refine NoPanic.normal ?_
                    gi_wp2
                    exact F.out wT ts hg q1 q2 q3 q4
                  exact AllReadyIn.nil
                exact AllReadyIn.nil
              exact AllReadyIn.nil
            exact AllReadyIn.nil
          refine AllReadyIn.cons rfl (fun K hK => ?_) ?_
          · go_simp
            refine hK _ _ ?_
            clear hK K
            refine wpAnyIn_ready (rs := [0, 3]) (by kernel_rfl) (by simp) ?_
            refine AllReadyIn.cons rfl (fun K hK => ?_) ?_
            · go_simp
              refine hK _ _ ?_
              clear hK K
              refine wpAnyIn_ready (rs := [3]) (by kernel_rfl) (by simp) ?_
              refine AllReadyIn.cons rfl (fun K hK => ?_) ?_
              · go_simp
                refine hK _ _ ?_
                clear hK K
                refine wpAnyIn_ready (rs := [4]) (by kernel_rfl) (by simp) ?_
                refine AllReadyIn.cons rfl (fun K hK => ?_) ?_
                · go_simp; refine ⟨trivial, ?_⟩; refine (callsIn_wide.2 TK.out).mono ?_; rintro e wT ⟨rfl, ⟨ts, q1, q2, q3, q4⟩, hg⟩; obtain ⟨zq, u1, u2, u3, u4, u5⟩ := hqrow'.out wT hg; dsimp only
                  refine hK _ _ ?_
                  clear hK K
                  refine wpAnyIn_take (i := 5) (v := ?_) rfl rfl (by kernel_rfl) (by kernel_rfl) (by kernel_rfl) (fun _ _ _ h => h) ⟨Or.inl ⟨by rfl, ?_⟩, fun _ => rfl⟩ ?_
                  rotate_left
                  · intro w; go_simp <;> with_reducible rfl
                  refine wpAnyIn_ready (rs := [6]) (by kernel_rfl) (by simp) ?_
                  refine AllReadyIn.cons rfl (fun K hK => ?_) ?_
                  · go_simp
                    refine hK _ _ ?_
                    clear hK K
                    refine wpAnyIn_done (by kernel_rfl) ?_ _
                    refine NoPanic.normal ?_
                    gi_wp2
                    exact F.out wT ts hg q1 q2 q3 q4
                  exact AllReadyIn.nil
                exact AllReadyIn.nil
              exact AllReadyIn.nil
            refine AllReadyIn.cons rfl (fun K hK => ?_) ?_
            · go_simp
              refine hK _ _ ?_
              clear hK K
              refine wpAnyIn_ready (rs := [0, 4]) (by kernel_rfl) (by simp) ?_
              refine AllReadyIn.cons rfl (fun K hK => ?_) ?_
              · go_simp
                refine hK _ _ ?_
                clear hK K
                refine wpAnyIn_ready (rs := [4]) (by kernel_rfl) (by simp) ?_
                refine AllReadyIn.cons rfl (fun K hK => ?_) ?_
                · go_simp; refine ⟨trivial, ?_⟩; refine (callsIn_wide.2 TK.out).mono ?_; rintro e wT ⟨rfl, ⟨ts, q1, q2, q3, q4⟩, hg⟩; obtain ⟨zq, u1, u2, u3, u4, u5⟩ := hqrow'.out wT hg; dsimp only
                  refine hK _ _ ?_
                  clear hK K
                  refine wpAnyIn_take (i := 5) (v := ?_) rfl rfl (by kernel_rfl) (by kernel_rfl) (by kernel_rfl) (fun _ _ _ h => h) ⟨Or.inl ⟨by rfl, ?_⟩, fun _ => rfl⟩ ?_
                  rotate_left
                  · intro w; go_simp <;> with_reducible rfl
                  refine wpAnyIn_ready (rs := [6]) (by kernel_rfl) (by simp) ?_
                  refine AllReadyIn.cons rfl (fun K hK => ?_) ?_
                  · go_simp
                    refine hK _ _ ?_
                    clear hK K
                    refine wpAnyIn_done (by kernel_rfl) ?_ _
                    refine NoPanic.normal ?_
                    gi_wp2
                    exact F.out wT ts hg q1 q2 q3 q4
                  exact AllReadyIn.nil
                exact AllReadyIn.nil
              refine AllReadyIn.cons rfl (fun K hK => ?_) ?_
              · go_simp; refine ⟨trivial, ?_⟩; refine (callsIn_wide.2 TK.out).mono ?_; rintro e wT ⟨rfl, ⟨ts, q1, q2, q3, q4⟩, hg⟩; obtain ⟨zq, u1, u2, u3, u4, u5⟩ := hqrow'.out wT hg; dsimp only
                refine hK _ _ ?_
                clear hK K
                refine wpAnyIn_ready (rs := [0]) (by kernel_rfl) (by simp) ?_
                refine AllReadyIn.cons rfl (fun K hK => ?_) ?_
                · go_simp
                  refine hK _ _ ?_
                  clear hK K
                  refine wpAnyIn_take (i := 5) (v := ?_) rfl rfl (by kernel_rfl) (by kernel_rfl) (by kernel_rfl) (fun _ _ _ h => h) ⟨Or.inl ⟨by rfl, ?_⟩, fun _ => rfl⟩ ?_
                  rotate_left
                  · intro w; go_simp <;> with_reducible rfl
                  refine wpAnyIn_ready (rs := [6]) (by kernel_rfl) (by simp) ?_
                  refine AllReadyIn.cons rfl (fun K hK => ?_) ?_
                  · go_simp
                    refine hK _ _ ?_
                    clear hK K
                    refine wpAnyIn_done (by kernel_rfl) ?_ _
                    refine NoPanic.normal ?_
                    gi_wp2
                    exact F.out wT ts hg q1 q2 q3 q4
                  exact AllReadyIn.nil
                exact AllReadyIn.nil
              exact AllReadyIn.nil
            exact AllReadyIn.nil
          refine AllReadyIn.cons rfl (fun K hK => ?_) ?_
          · go_simp
            refine hK _ _ ?_
            clear hK K
            refine wpAnyIn_ready (rs := [0, 2]) (by kernel_rfl) (by simp) ?_
            refine AllReadyIn.cons rfl (fun K hK => ?_) ?_
            · go_simp
              refine hK _ _ ?_
              clear hK K
              refine wpAnyIn_ready (rs := [2]) (by kernel_rfl) (by simp) ?_
              refine AllReadyIn.cons rfl (fun K hK => ?_) ?_
              · go_simp
                refine hK _ _ ?_
                clear hK K
                refine wpAnyIn_ready (rs := [4]) (by kernel_rfl) (by simp) ?_
                refine AllReadyIn.cons rfl (fun K hK => ?_) ?_
                · go_simp; refine ⟨trivial, ?_⟩; refine (callsIn_wide.2 TK.out).mono ?_; rintro e wT ⟨rfl, ⟨ts, q1, q2, q3, q4⟩, hg⟩; obtain ⟨zq, u1, u2, u3, u4, u5⟩ := hqrow'.out wT hg; dsimp only
                  refine hK _ _ ?_
                  clear hK K
                  refine wpAnyIn_take (i := 5) (v := ?_) rfl rfl (by kernel_rfl) (by kernel_rfl) (by kernel_rfl) (fun _ _ _ h => h) ⟨Or.inl ⟨by rfl, ?_⟩, fun _ => rfl⟩ ?_
                  rotate_left
                  · intro w; go_simp <;> with_reducible rfl
                  refine wpAnyIn_ready (rs := [6]) (by kernel_rfl) (by simp) ?_
                  refine AllReadyIn.cons rfl (fun K hK => ?_) ?_
                  · go_simp
                    refine hK _ _ ?_
                    clear hK K
                    refine wpAnyIn_done (by kernel_rfl) ?_ _
                    refine NoPanic.normal ?_
                    gi_wp2
                    exact F.out wT ts hg q1 q2 q3 q4
                  exact AllReadyIn.nil
                exact AllReadyIn.nil
              exact AllReadyIn.nil
            refine AllReadyIn.cons rfl (fun K hK => ?_) ?_
            · go_simp
              refine hK _ _ ?_
              clear hK K
              refine wpAnyIn_ready (rs := [0, 4]) (by kernel_rfl) (by simp) ?_
              refine AllReadyIn.cons rfl (fun K hK => ?_) ?_
              · go_simp
                refine hK _ _ ?_
                clear hK K
                refine wpAnyIn_ready (rs := [4]) (by kernel_rfl) (by simp) ?_
                refine AllReadyIn.cons rfl (fun K hK => ?_) ?_
                · go_simp; refine ⟨trivial, ?_⟩; refine (callsIn_wide.2 TK.out).mono ?_; rintro e wT ⟨rfl, ⟨ts, q1, q2, q3, q4⟩, hg⟩; obtain ⟨zq, u1, u2, u3, u4, u5⟩ := hqrow'.out wT hg; dsimp only
                  refine hK _ _ ?_
                  clear hK K
                  refine wpAnyIn_take (i := 5) (v := ?_) rfl rfl (by kernel_rfl) (by kernel_rfl) (by kernel_rfl) (fun _ _ _ h => h) ⟨Or.inl ⟨by rfl, ?_⟩, fun _ => rfl⟩ ?_
                  rotate_left
                  · intro w; go_simp <;> with_reducible rfl
                  refine wpAnyIn_ready (rs := [6]) (by kernel_rfl) (by simp) ?_
                  refine AllReadyIn.cons rfl (fun K hK => ?_) ?_
                  · go_simp
                    refine hK _ _ ?_
                    clear hK K
                    refine wpAnyIn_done (by kernel_rfl) ?_ _
                    refine NoPanic.normal ?_
                    gi_wp2
                    exact F.out wT ts hg q1 q2 q3 q4
                  exact AllReadyIn.nil
                exact AllReadyIn.nil
              refine AllReadyIn.cons rfl (fun K hK => ?_) ?_
              · go_simp; refine ⟨trivial, ?_⟩; refine (callsIn_wide.2 TK.out).mono ?_; rintro e wT ⟨rfl, ⟨ts, q1, q2, q3, q4⟩, hg⟩; obtain ⟨zq, u1, u2, u3, u4, u5⟩ := hqrow'.out wT hg; dsimp only
                refine hK _ _ ?_
                clear hK K
                refine wpAnyIn_ready (rs := [0]) (by kernel_rfl) (by simp) ?_
                refine AllReadyIn.cons rfl (fun K hK => ?_) ?_
                · go_simp
                  refine hK _ _ ?_
                  clear hK K
                  refine wpAnyIn_take (i := 5) (v := ?_) rfl rfl (by kernel_rfl) (by kernel_rfl) (by kernel_rfl) (fun _ _ _ h => h) ⟨Or.inl ⟨by rfl, ?_⟩, fun _ => rfl⟩ ?_
                  rotate_left
                  · intro w; go_simp <;> with_reducible rfl
                  refine wpAnyIn_ready (rs := [6]) (by kernel_rfl) (by simp) ?_
                  refine AllReadyIn.cons rfl (fun K hK => ?_) ?_
                  · go_simp
                    refine hK _ _ ?_
                    clear hK K
                    refine wpAnyIn_done (by kernel_rfl) ?_ _
                    refine NoPanic.normal ?_
                    gi_wp2
                    exact F.out wT ts hg q1 q2 q3 q4
                  exact AllReadyIn.nil
                exact AllReadyIn.nil
              exact AllReadyIn.nil
            exact AllReadyIn.nil
          exact AllReadyIn.nil
        exact AllReadyIn.nil
      exact AllReadyIn.nil
    refine AllReadyIn.cons rfl (fun K hK => ?_) ?_
    · go_simp
      refine hK _ _ ?_
      clear hK K
      refine wpAnyIn_ready (rs := [0]) (by kernel_rfl) (by simp) ?_
      refine AllReadyIn.cons rfl (fun K hK => ?_) ?_
      · go_simp
        refine hK _ _ ?_
        clear hK K
        refine wpAnyIn_take (i := 1) (v := ?_) rfl rfl (by kernel_rfl) (by kernel_rfl) (by kernel_rfl) (fun _ _ _ h => h) ⟨Or.inl ⟨by rfl, ?_⟩, fun _ => rfl⟩ ?_
        rotate_left
        · intro w; go_simp <;> with_reducible rfl
        refine wpAnyIn_ready (rs := [3]) (by kernel_rfl) (by simp) ?_
        refine AllReadyIn.cons rfl (fun K hK => ?_) ?_
        · go_simp
          refine hK _ _ ?_
          clear hK K
          refine wpAnyIn_done (by kernel_rfl) ?_ _
          refine NoPanic.normal ?_
          gi_wp2_with fail
          refine Code.wpIn_mono NoPanic.imp ?_
          refine wpIn_region_any (by kernel_rfl) ?_
          refine wpAnyIn_round (F := Fence.wide) rfl (by kernel_rfl) _ _ _ _ ?_
          try (change wpAnyIn _ _ _ _ _ _ _ _ _ (World.drew _))
          refine wpAnyIn_take (i := 1) (v := ?_) rfl rfl (by kernel_rfl) (by kernel_rfl) (by kernel_rfl) (fun _ _ _ h => h) ⟨Or.inl ⟨by rfl, ?_⟩, fun _ => rfl⟩ ?_
          rotate_left
          · intro w; go_simp <;> with_reducible rfl
          refine wpAnyIn_ready (rs := [0, 2, 3]) (by kernel_rfl) (by simp) ?_
          refine AllReadyIn.cons rfl (fun K hK => ?_) ?_
          · go_simp
            refine hK _ _ ?_
            clear hK K
            refine wpAnyIn_ready (rs := [2, 3]) (by kernel_rfl) (by simp) ?_
            refine AllReadyIn.cons rfl (fun K hK => ?_) ?_
            · go_simp
              refine hK _ _ ?_
              clear hK K
              refine wpAnyIn_ready (rs := [3]) (by kernel_rfl) (by simp) ?_
              refine AllReadyIn.cons rfl (fun K hK => ?_) ?_
              · go_simp
                refine hK _ _ ?_
                clear hK K
                refine wpAnyIn_ready (rs := [4]) (by kernel_rfl) (by simp) ?_
                refine AllReadyIn.cons rfl (fun K hK => ?_) ?_
                · go_simp; refine ⟨trivial, ?_⟩; refine (callsIn_wide.2 TK.out).mono ?_; rintro e wT ⟨rfl, ⟨ts, q1, q2, q3, q4⟩, hg⟩; obtain ⟨zq, u1, u2, u3, u4, u5⟩ := hqrow'.out wT hg; dsimp only
                  refine hK _ _ ?_
                  clear hK K
                  refine wpAnyIn_take (i := 5) (v := ?_) rfl rfl (by kernel_rfl) (by kernel_rfl) (by kernel_rfl) (fun _ _ _ h => h) ⟨Or.inl ⟨by rfl, ?_⟩, fun _ => rfl⟩ ?_
                  rotate_left
                  · intro w; go_simp <;> with_reducible rfl
                  refine wpAnyIn_ready (rs := [6]) (by kernel_rfl) (by simp) ?_
                  refine AllReadyIn.cons rfl (fun K hK => ?_) ?_
                  · go_simp
                    refine hK _ _ ?_
                    clear hK K
                    refine wpAnyIn_done (by kernel_rfl) ?_ _
                    refine NoPanic.normal ?_
                    gi_wp2
                    exact F.out wT ts hg q1 q2 q3 q4
                  exact AllReadyIn.nil
                exact AllReadyIn.nil
              exact AllReadyIn.nil
            refine AllReadyIn.cons rfl (fun K hK => ?_) ?_
            · go_simp
              refine hK _ _ ?_
              clear hK K
              refine wpAnyIn_ready (rs := [2]) (by kernel_rfl) (by simp) ?_
              refine AllReadyIn.cons rfl (fun K hK => ?_) ?_
              · go_simp
                refine hK _ _ ?_
                clear hK K
                refine wpAnyIn_ready (rs := [4]) (by kernel_rfl) (by simp) ?_
                refine AllReadyIn.cons rfl (fun K hK => ?_) ?_
                · go_simp; refine ⟨trivial, ?_⟩; refine (callsIn_wide.2 TK.out).mono ?_; rintro e wT ⟨rfl, ⟨ts, q1, q2, q3, q4⟩, hg⟩; obtain ⟨zq, u1, u2, u3, u4, u5⟩ := hqrow'.out wT hg; dsimp only
                  refine hK _ _ ?_
                  clear hK K
                  refine wpAnyIn_take (i := 5) (v := ?_) rfl rfl (by kernel_rfl) (by kernel_rfl) (by kernel_rfl) (fun _ _ _ h => h) ⟨Or.inl ⟨by rfl, ?_⟩, fun _ => rfl⟩ ?_
                  rotate_left
                  · intro w; go_simp <;> with_reducible rfl
                  refine wpAnyIn_ready (rs := [6]) (by kernel_rfl) (by simp) ?_
                  refine AllReadyIn.cons rfl (fun K hK => ?_) ?_
                  · go_simp
                    refine hK _ _ ?_
                    clear hK K
                    refine wpAnyIn_done (by kernel_rfl) ?_ _
                    refine NoPanic.normal ?_
                    gi_wp2
                    exact F.out wT ts hg q1 q2 q3 q4
                  exact AllReadyIn.nil
                exact AllReadyIn.nil
              exact AllReadyIn.nil
            exact AllReadyIn.nil
          refine AllReadyIn.cons rfl (fun K hK => ?_) ?_
          · go_simp
            refine hK _ _ ?_
            clear hK K
            refine wpAnyIn_ready (rs := [0, 3]) (by kernel_rfl) (by simp) ?_
            refine AllReadyIn.cons rfl (fun K hK => ?_) ?_
            · go_simp
              refine hK _ _ ?_
              clear hK K
              refine wpAnyIn_ready (rs := [3]) (by kernel_rfl) (by simp) ?_
              refine AllReadyIn.cons rfl (fun K hK => ?_) ?_
              · go_simp
                refine hK _ _ ?_
                clear hK K
                refine wpAnyIn_ready (rs := [4]) (by kernel_rfl) (by simp) ?_
                refine AllReadyIn.cons rfl (fun K hK => ?_) ?_
                · go_simp; refine ⟨trivial, ?_⟩; refine (callsIn_wide.2 TK.out).mono ?_; rintro e wT ⟨rfl, ⟨ts, q1, q2, q3, q4⟩, hg⟩; obtain ⟨zq, u1, u2, u3, u4, u5⟩ := hqrow'.out wT hg; dsimp only
                  refine hK _ _ ?_
                  clear hK K
                  refine wpAnyIn_take (i := 5) (v := ?_) rfl rfl (by kernel_rfl) (by kernel_rfl) (by kernel_rfl) (fun _ _ _ h => h) ⟨Or.inl ⟨by rfl, ?_⟩, fun _ => rfl⟩ ?_
                  rotate_left
                  · intro w; go_simp <;> with_reducible rfl
                  refine wpAnyIn_ready (rs := [6]) (by kernel_rfl) (by simp) ?_
                  refine AllReadyIn.cons rfl (fun K hK => ?_) ?_
                  · go_simp
                    refine hK _ _ ?_
                    clear hK K
                    refine wpAnyIn_done (by kernel_rfl) ?_ _
                    refine NoPanic.normal ?_
                    gi_wp2
                    exact F.out wT ts hg q1 q2 q3 q4
                  exact AllReadyIn.nil
                exact AllReadyIn.nil
              exact AllReadyIn.nil
            refine AllReadyIn.cons rfl (fun K hK => ?_) ?_
            · go_simp
              refine hK _ _ ?_
              clear hK K
              refine wpAnyIn_ready (rs := [0, 4]) (by kernel_rfl) (by simp) ?_
              refine AllReadyIn.cons rfl (fun K hK => ?_) ?_
              · go_simp
                refine hK _ _ ?_
                clear hK K
                refine wpAnyIn_ready (rs := [4]) (by kernel_rfl) (by simp) ?_
                refine AllReadyIn.cons rfl (fun K hK => ?_) ?_
                · go_simp; refine ⟨trivial, ?_⟩; refine (callsIn_wide.2 TK.out).mono ?_; rintro e wT ⟨rfl, ⟨ts, q1, q2, q3, q4⟩, hg⟩; obtain ⟨zq, u1, u2, u3, u4, u5⟩ := hqrow'.out wT hg; dsimp only
                  refine hK _ _ ?_
                  clear hK K
                  refine wpAnyIn_take (i := 5) (v := ?_) rfl rfl (by kernel_rfl) (by kernel_rfl) (by kernel_rfl) (fun _ _ _ h => h) ⟨Or.inl ⟨by rfl, ?_⟩, fun _ => rfl⟩ ?_
                  rotate_left
                  · intro w; go_simp <;> with_reducible rfl
                  refine wpAnyIn_ready (rs := [6]) (by kernel_rfl) (by simp) ?_
                  refine AllReadyIn.cons rfl (fun K hK => ?_) ?_
                  · go_simp
                    refine hK _ _ ?_
                    clear hK K
                    refine wpAnyIn_done (by kernel_rfl) ?_ _
                    refine NoPanic.normal ?_
                    gi_wp2
                    exact F.out wT ts hg q1 q2 q3 q4
                  exact AllReadyIn.nil
                exact AllReadyIn.nil
              refine AllReadyIn.cons rfl (fun K hK => ?_) ?_
              · go_simp; refine ⟨trivial, ?_⟩; refine (callsIn_wide.2 TK.out).mono ?_; rintro e wT ⟨rfl, ⟨ts, q1, q2, q3, q4⟩, hg⟩; obtain ⟨zq, u1, u2, u3, u4, u5⟩ := hqrow'.out wT hg; dsimp only
                refine hK _ _ ?_
                clear hK K
                refine wpAnyIn_ready (rs := [0]) (by kernel_rfl) (by simp) ?_
                refine AllReadyIn.cons rfl (fun K hK => ?_) ?_
                · go_simp
                  refine hK _ _ ?_
                  clear hK K
                  refine wpAnyIn_take (i := 5) (v := ?_) rfl rfl (by kernel_rfl) (by kernel_rfl) (by kernel_rfl) (fun _ _ _ h => h) ⟨Or.inl ⟨by rfl, ?_⟩, fun _ => rfl⟩ ?_
                  rotate_left
                  · intro w; go_simp <;> with_reducible rfl
                  refine wpAnyIn_ready (rs := [6]) (by kernel_rfl) (by simp) ?_
                  refine AllReadyIn.cons rfl (fun K hK => ?_) ?_
                  · go_simp
                    refine hK _ _ ?_
                    clear hK K
                    refine wpAnyIn_done (by kernel_rfl) ?_ _
                    refine NoPanic.normal ?_
                    gi_wp2
                    exact F.out wT ts hg q1 q2 q3 q4
                  exact AllReadyIn.nil
                exact AllReadyIn.nil
              exact AllReadyIn.nil
            exact AllReadyIn.nil
          refine AllReadyIn.cons rfl (fun K hK => ?_) ?_
          · go_simp
            refine hK _ _ ?_
            clear hK K
            refine wpAnyIn_ready (rs := [0, 2]) (by kernel_rfl) (by simp) ?_
            refine AllReadyIn.cons rfl (fun K hK => ?_) ?_
            · go_simp
              refine hK _ _ ?_
              clear hK K
              refine wpAnyIn_ready (rs := [2]) (by kernel_rfl) (by simp) ?_
              refine AllReadyIn.cons rfl (fun K hK => ?_) ?_
              · go_simp
                refine hK _ _ ?_
                clear hK K
                refine wpAnyIn_ready (rs := [4]) (by kernel_rfl) (by simp) ?_
                refine AllReadyIn.cons rfl (fun K hK => ?_) ?_
                · go_simp; refine ⟨trivial, ?_⟩; refine (callsIn_wide.2 TK.out).mono ?_; rintro e wT ⟨rfl, ⟨ts, q1, q2, q3, q4⟩, hg⟩; obtain ⟨zq, u1, u2, u3, u4, u5⟩ := hqrow'.out wT hg; dsimp only
                  refine hK _ _ ?_
                  clear hK K
                  refine wpAnyIn_take (i := 5) (v := ?_) rfl rfl (by kernel_rfl) (by kernel_rfl) (by kernel_rfl) (fun _ _ _ h => h) ⟨Or.inl ⟨by rfl, ?_⟩, fun _ => rfl⟩ ?_
                  rotate_left
                  · intro w; go_simp <;> with_reducible rfl
                  refine wpAnyIn_ready (rs := [6]) (by kernel_rfl) (by simp) ?_
                  refine AllReadyIn.cons rfl (fun K hK => ?_) ?_
                  · go_simp
                    refine hK _ _ ?_
                    clear hK K
                    refine wpAnyIn_done (by kernel_rfl) ?_ _
                    refine NoPanic.normal ?_
                    gi_wp2
                    exact F.out wT ts hg q1 q2 q3 q4
                  exact AllReadyIn.nil
                exact AllReadyIn.nil
              exact AllReadyIn.nil
            refine AllReadyIn.cons rfl (fun K hK => ?_) ?_
            · go_simp
              refine hK _ _ ?_
              clear hK K
              refine wpAnyIn_ready (rs := [0, 4]) (by kernel_rfl) (by simp) ?_
              refine AllReadyIn.cons rfl (fun K hK => ?_) ?_
              · go_simp
                refine hK _ _ ?_
                clear hK K
                refine wpAnyIn_ready (rs := [4]) (by kernel_rfl) (by simp) ?_
                refine AllReadyIn.cons rfl (fun K hK => ?_) ?_
                · go_simp; refine ⟨trivial, ?_⟩; refine (callsIn_wide.2 TK.out).mono ?_; rintro e wT ⟨rfl, ⟨ts, q1, q2, q3, q4⟩, hg⟩; obtain ⟨zq, u1, u2, u3, u4, u5⟩ := hqrow'.out wT hg; dsimp only
                  refine hK _ _ ?_
                  clear hK K
                  refine wpAnyIn_take (i := 5) (v := ?_) rfl rfl (by kernel_rfl) (by kernel_rfl) (by kernel_rfl) (fun _ _ _ h => h) ⟨Or.inl ⟨by rfl, ?_⟩, fun _ => rfl⟩ ?_
                  rotate_left
                  · intro w; go_simp <;> with_reducible rfl
                  refine wpAnyIn_ready (rs := [6]) (by kernel_rfl) (by simp) ?_
                  refine AllReadyIn.cons rfl (fun K hK => ?_) ?_
                  · go_simp
                    refine hK _ _ ?_
                    clear hK K
                    refine wpAnyIn_done (by kernel_rfl) ?_ _
                    refine NoPanic.normal ?_
                    gi_wp2
                    exact F.out wT ts hg q1 q2 q3 q4
                  exact AllReadyIn.nil
                exact AllReadyIn.nil
              refine AllReadyIn.cons rfl (fun K hK => ?_) ?_
              · go_simp; refine ⟨trivial, ?_⟩; refine (callsIn_wide.2 TK.out).mono ?_; rintro e wT ⟨rfl, ⟨ts, q1, q2, q3, q4⟩, hg⟩; obtain ⟨zq, u1, u2, u3, u4, u5⟩ := hqrow'.out wT hg; dsimp only
                refine hK _ _ ?_
                clear hK K
                refine wpAnyIn_ready (rs := [0]) (by kernel_rfl) (by simp) ?_
                refine AllReadyIn.cons rfl (fun K hK => ?_) ?_
                · go_simp
                  refine hK _ _ ?_
                  clear hK K
                  refine wpAnyIn_take (i := 5) (v := ?_) rfl rfl (by kernel_rfl) (by kernel_rfl) (by kernel_rfl) (fun _ _ _ h => h) ⟨Or.inl ⟨by rfl, ?_⟩, fun _ => rfl⟩ ?_
                  rotate_left
                  · intro w; go_simp <;> with_reducible rfl
                  refine wpAnyIn_ready (rs := [6]) (by kernel_rfl) (by simp) ?_
                  refine AllReadyIn.cons rfl (fun K hK => ?_) ?_
                  · go_simp
                    refine hK _ _ ?_
                    clear hK K
                    refine wpAnyIn_done (by kernel_rfl) ?_ _
                    refine NoPanic.normal ?_
                    gi_wp2
                    exact F.out wT ts hg q1 q2 q3 q4
                  exact AllReadyIn.nil
                exact AllReadyIn.nil
              exact AllReadyIn.nil
            exact AllReadyIn.nil
          exact AllReadyIn.nil
        exact AllReadyIn.nil
      exact AllReadyIn.nil
    exact AllReadyIn.nil
  case done =>
    rintro Dd ys W hDd hys ⟨⟨e0, e2, e4, hrw, rs, hrs, hrl, hrd, hrv⟩, hsW, hBW⟩ hK
    obtain ⟨v1, v2, v3⟩ := hend.out ys hys
    have hql := (cutF_bd (xs := natL NN) (D := D) hD0 ys.length ys rfl).1
    generalize cutF (natL NN) D ys = st at *
    obtain ⟨qs, R⟩ := st
    dsimp only at *
    rw [val_natL] at v1 v2
    have hDl2 : Dd < W.heap.size := (Array.getElem?_eq_some_iff.1 hK).1
    have hbase := hBw.size
    have OQ : OI W w.heap.size (some ⟨w2.heap.size + 1, 0, none⟩) m qs := ⟨digs_fits v3, by omega, by unfold maxLen; omega, .inr ⟨_, rfl, by omega, hrw⟩⟩
    have OR : OI W w.heap.size (some ⟨w2.heap.size + 1 + 1 + 1, 0, none⟩) (n + 1) rs := ⟨digs_fits hrd, by omega, by unfold maxLen; omega, .inr ⟨_, rfl, by omega, hrs⟩⟩
    have T1 := hd (fun w' (h : Below W.heap.size W w') => iTrimO _ _ _ _ w' (OQ.later h) v3)
    have T2 := hd (fun w' (h : Below W.heap.size W w') => iTrimO _ _ _ _ w' (OR.later h) hrd)
    rw [v1, hq.out, hql] at T1
    rw [hrv, v2, hrl] at T2
    have hRl : (natL (NN % D)).length ≤ 1048576 := by
      have h5 := natL_le (Nat.le_of_lt (Nat.mod_lt NN hD0))
      rw [← hn'.out] at h5
      omega
    have T3 := hd (fun av cv base w' (h : OI w' base av cv (natL (NN % D))) => down0 av _ cv (natL (NN % D)) p w' h.inI (digs_natL _) hp hRl)
    rw [val_natL, hr.out] at T3
    have lt2 : w2.heap.size + 1 + 1 < W.heap.size := by omega
    have lt4 : w2.heap.size + 1 + 1 + 1 + 1 < W.heap.size := by omega
    have hB9 := hBw.trans (hBW.mono hBw.size)
    clear hend hrw hrs hrd hrl hrv v1 v2 v3 hql OQ OR hq hr hDn hNd hN0 hNi hDi hRl hn' hm'
    generalize natL (NN % D) = ml at *
    generalize hqe : natL Qv = ql at *
    generalize hre : natL Rv = rl at *
    gi_wp2_with fail
    refine wpIn_wide.2 ?_
    go_region_held3 (fun w' => w'.cell? ⟨w2.heap.size + 1 + 1, 0, none⟩ = some (.slice (some ⟨w2.heap.size + 1, 0, none⟩) m m) ∧ w'.cell? ⟨w2.heap.size + 1 + 1 + 1 + 1, 0, none⟩ = some (.slice (some ⟨w2.heap.size + 1 + 1 + 1, 0, none⟩) (n + 1) (n + 1))) (go_keep) (first | (go_at_call 86; have hh := hOQ; clear hh; refine (T2.out _ (by repeat (first | exact Below.refl _ _ | refine Below.drew ?_ | refine old_alloc ?_ _ | refine old_trans ?_ (by assumption)))).mono ?_; rintro e wR ⟨⟨avR, cvR, rfl, hOR⟩, hbR⟩; have e2 := (hbR.cell (p := ⟨w2.heap.size + 1 + 1, 0, none⟩) lt2).trans e2; have e4 := (hbR.cell (p := ⟨w2.heap.size + 1 + 1 + 1 + 1, 0, none⟩) lt4).trans e4; have lt2 := Nat.lt_of_lt_of_le lt2 hbR.size; have lt4 := Nat.lt_of_lt_of_le lt4 hbR.size) | (go_at_call 86; refine (T1.out _ (by repeat (first | exact Below.refl _ _ | refine Below.drew ?_ | refine old_alloc ?_ _ | refine old_trans ?_ (by assumption)))).mono ?_; rintro e wQ ⟨⟨avQ, cvQ, rfl, hOQ⟩, hbQ⟩; have e2 := (hbQ.cell (p := ⟨w2.heap.size + 1 + 1, 0, none⟩) lt2).trans e2; have e4 := (hbQ.cell (p := ⟨w2.heap.size + 1 + 1 + 1 + 1, 0, none⟩) lt4).trans e4; have lt2 := Nat.lt_of_lt_of_le lt2 hbQ.size; have lt4 := Nat.lt_of_lt_of_le lt4 hbQ.size) | (go_at_call 92; refine (T3.out _ _ _ _ hOR).mono ?_; rintro e wS ⟨⟨avS, cvS, rfl, hOS⟩, hbS⟩; have e2 := (hbS.cell (p := ⟨w2.heap.size + 1 + 1, 0, none⟩) lt2).trans e2; have e4 := (hbS.cell (p := ⟨w2.heap.size + 1 + 1 + 1 + 1, 0, none⟩) lt4).trans e4))
    all_goals
      gi_wp2
      have hbA : Below W.heap.size W wS := (by repeat (first | exact Below.refl _ _ | refine Below.drew ?_ | refine old_alloc ?_ _ | refine old_trans ?_ (by assumption)))
      have hK2 := (hbA.5 Dd hDl2).trans hK
      have hzR := hbR.size
      have hzQ : W.heap.size ≤ wQ.heap.size := hbQ.size
      have hzW := hBW.size
      refine ⟨by simp, .inl ⟨_, _, rfl, run_takeDeferred hK2, ?_⟩⟩
      subst hqe
      subst hre
      refine ⟨.tuple #[.slice avQ (natL Qv).length cvQ, .slice avS (natL Rv).length cvS], ?_, ⟨avQ, cvQ, avS, cvS, rfl, ?_, ?_, ?_⟩, ?_⟩
      · simp [results, Tryz.f70, go_sem]
      · exact oi_kept ((hOQ.later hbR).later hbS) (grownBy_putObj' _ Dd (.deferred none)) (fun r e => by cases e; exact ⟨_, hK2, rfl⟩)
      · exact oi_kept (hOS.mono (by omega)) (grownBy_putObj' _ Dd (.deferred none)) (fun r e => by cases e; exact ⟨_, hK2, rfl⟩)
      · exact OI.sepOf hOQ hOS hbR.size
      · exact (old_trans hB9 hbA).trans (belowK_b (w := w) (Nat.le_refl _) _ Dd _ _ (by omega) hK2 rfl rfl)
  case stop =>
    rintro D c pre W hD _ h hK
    exact h.elim
end Go.Proofs.YtgoffjpfddmhhaaGreatDoor

/- Quotients and rests of numbers: by the program and by the specification. No condition. -/
namespace Go.Proofs.YtgoffjpfddmhhaaGreatDoor
open Go.RowKit
set_option linter.unusedVariables false
set_option maxRecDepth 100000

set_option maxRecDepth 100000 in
set_option maxHeartbeats 4000000 in
theorem iCut (a b : Option Addr) (la lb ca cb : Nat) (xs ys : List Int) (w : World) (hA : InI w a la ca xs) (hB : InI w b lb cb ys) (hx : digs xs) (hy : digs ys) (ty : topped ys) (hla : la ≤ 65536) (hlb : lb ≤ 65536) (h0 : 0 < lb) :
    Calls Tryz.prog 70 #[.slice a la ca, .slice b lb cb] w fun e w' => (∃ av cv av2 cv2, e = .returned (.tuple #[.slice av (natL (val xs / val ys)).length cv, .slice av2 (natL (val xs % val ys)).length cv2]) ∧ OI w' w.heap.size av cv (natL (val xs / val ys)) ∧ OI w' w.heap.size av2 cv2 (natL (val xs % val ys)) ∧ Sep av av2) ∧ Below w.heap.size w w' := by
  have pb := hB.1
  by_cases h2 : 2 ≤ lb
  · exact iCutLong a b la lb ca cb xs ys w hA hB hx hy ty hla hlb h2
  · obtain rfl : lb = 1 := by omega
    obtain ⟨bb, ob, t, rfl, hbl, ht, -, ct⟩ := hB.at (k := 0) (by omega)
    have dt := digs_getD hy 0
    have ht0 := ty.resolve_left (by omega)
    rw [pb] at ht0
    rw [show 1 - 1 = 0 from rfl] at ht0
    rw [ht] at dt ht0
    have hv := one_digit pb ht dt
    unfold dig at dt
    obtain ⟨d, rfl⟩ := Int.eq_ofNat_of_zero_le dt.1
    rw [Int.toNat_natCast] at hv
    rw [hv]
    have C := hd (iCutSmall a la ca xs d w hA hx (by omega) (by omega) (by omega))
    have hr : val xs % d < 65536 := by have := Nat.mod_lt (val xs) (show 0 < d by omega); omega
    have hdg : dig ((val xs % d : Nat) : Int) := by
      unfold dig
      generalize val xs % d = rr at *
      omega
    have T := hd (fun (w' : World) => iTrimO w'.heap.size (some ⟨w'.heap.size, 0, none⟩) 1 [((val xs % d : Nat) : Int)] (w'.alloc (.cells #[.int .i64 ((val xs % d : Nat) : Int)] 3)) ⟨digs_fits (digs_cons.2 ⟨hdg, digs_nil⟩), by simp, by decide, .inr ⟨_, rfl, Nat.le_refl _, by
        refine ⟨by simp, fun i hi => ?_⟩
        have : i = 0 := by simp at hi; omega
        subst this
        simp⟩⟩ (digs_cons.2 ⟨hdg, digs_nil⟩))
    have ev : val [((val xs % d : Nat) : Int)] = val xs % d := by rw [val_cons, val_nil, Int.toNat_natCast]; omega
    rw [ev] at T
    simp only [List.length_singleton] at T
    rw [Nat.add_zero] at ct
    have hdi : (0 : Int) < (d : Int) := by omega
    clear ev hr hdg hv
    generalize natL (val xs % d) = rl at *
    generalize natL (val xs / d) = ql at *
    generalize ((val xs % d : Nat) : Int) = rI at *
    generalize hdI : (d : Int) = dI at *
    go_enter Tryz.func70, Tryz.ntmps70
    go_wp2_with fail
    refine C.out.mono ?_
    rintro e w1 ⟨⟨av, cv, rfl, hO⟩, hb1⟩
    have T1 := hd (T.out w1)
    clear T C
    go_wp2_with fail
    refine T1.out.mono ?_
    rintro e w2 ⟨⟨av2, cv2, rfl, hO2⟩, hb2⟩
    have hs := hb1.size
    have ha : Below w1.heap.size w1 (w1.alloc (.cells #[.int .i64 rI] 3)) := (Below.refl _ _).alloc (Nat.le_refl _) _
    go_wp2
    go_ret2
    exact ⟨⟨av, cv, av2, cv2, rfl, (hO.later ha).later hb2, hO2.mono hs, OI.sepOf hO hO2 (Nat.le_refl _)⟩, old_trans (old_trans hb1 ha) hb2⟩
end Go.Proofs.YtgoffjpfddmhhaaGreatDoor
