/- The program's quotient and rest by a small number. Conditions: digits; the divisor from 1 to 2^46. -/
import Derived.Test.YtgoffjpfddmhhaaGreatDoorPK10
import Derived.Test.YtgoffjpfddmhhaaGreatDoorPK08
import Derived.Test.YtgoffjpfddmhhaaGreatDoorPK11
import Derived.BigRegionIn
import Derived.Stop.RegionWithIn
namespace Go.Proofs.YtgoffjpfddmhhaaGreatDoor
open Go.RowKit Go.Shelf
attribute [local go_sem] Oper.semAt_some
set_option linter.unusedVariables false
set_option maxRecDepth 100000

theorem i64_or16 {r x : Int} (h0 : 0 ≤ r) (h1 : r < 70368744177664) (hx : dig x) : bits .or .i64 (r * 65536) x = r * 65536 + x := by
  unfold dig at hx
  obtain ⟨r', rfl⟩ := Int.eq_ofNat_of_zero_le h0
  obtain ⟨x', rfl⟩ := Int.eq_ofNat_of_zero_le hx.1
  have hj := nat_join 16 (r' * 65536) x' (Nat.mul_mod_left _ _) (by omega)
  show IntKind.i64.wrap ((BitVec.ofInt 64 ((r' : Int) * 65536) ||| BitVec.ofInt 64 (x' : Int)).toNat : Int) = _
  have e1 : (BitVec.ofInt 64 ((r' : Int) * 65536)).toNat = r' * 65536 := by
    have := ofInt_u64 (r' * 65536) (by omega)
    rw [← this]; simp
  have e2 : (BitVec.ofInt 64 (x' : Int)).toNat = x' := ofInt_u64 x' (by omega)
  rw [BitVec.toNat_or, e1, e2, hj]
  simp [IntKind.wrap, IntKind.bits, IntKind.signed]
  omega
theorem irow_kept {A B : World} {b : Nat} {xs : List Int} {row : Option Nat} (h : IRow A b xs) (hg : A.grownBy B row) (hr : ∀ r, row = some r → ∃ o, A.heap[r]? = some o ∧ o.isCells = false) : IRow B b xs :=
  ⟨Nat.lt_of_lt_of_le h.1 hg.size, fun i hi => ⟨cell_kept (h.2 i hi).1 hg hr, (frozen_kept (h.2 i hi).1 hg hr).trans (h.2 i hi).2⟩⟩
theorem oi_kept {A B : World} {base cv : Nat} {av : Option Addr} {xs : List Int} {row : Option Nat} (h : OI A base av cv xs) (hg : A.grownBy B row) (hr : ∀ r, row = some r → ∃ o, A.heap[r]? = some o ∧ o.isCells = false) : OI B base av cv xs := by
  obtain ⟨h1, h2, h3, h4 | ⟨g, h4, h5, h6⟩⟩ := h
  · exact ⟨h1, h2, h3, .inl h4⟩
  · exact ⟨h1, h2, h3, .inr ⟨g, h4, h5, irow_kept h6 hg hr⟩⟩
/-- quotient and rest of what came, the highest digit ahead -/
def divF (xs : List Int) (d : Nat) {len : Nat} (pre : List (Fin len)) : List Int × Int := pre.foldl (fun s y => (s.1.set y.val ((s.2 * 65536 + xs.getD y.val 0) / (d : Int)), (s.2 * 65536 + xs.getD y.val 0) % (d : Int))) (List.replicate len 0, 0)
theorem divF_snoc (xs : List Int) (d : Nat) {len : Nat} (pre : List (Fin len)) (y : Fin len) : divF xs d (pre ++ [y]) = ((divF xs d pre).1.set y.val (((divF xs d pre).2 * 65536 + xs.getD y.val 0) / (d : Int)), ((divF xs d pre).2 * 65536 + xs.getD y.val 0) % (d : Int)) := by simp [divF]
theorem divF_bd {xs : List Int} {d : Nat} (hd0 : 0 < d) {len : Nat} (n : Nat) : ∀ (pre : List (Fin len)), pre.length = n → (divF xs d pre).1.length = len ∧ 0 ≤ (divF xs d pre).2 ∧ (divF xs d pre).2 < d := by
  induction n with
  | zero =>
    intro pre hp
    have : pre = [] := List.length_eq_zero_iff.1 hp
    subst this; simp [divF]; omega
  | succ n ih =>
    intro pre hp
    obtain ⟨q, x, rfl⟩ : ∃ q x, pre = q ++ [x] := ⟨pre.dropLast, pre.getLast (by intro e; subst e; simp at hp), (List.dropLast_concat_getLast _).symm⟩
    have := ih q (by simpa using hp)
    rw [divF_snoc]
    exact ⟨by simpa using this.1, Int.emod_nonneg _ (by omega), Int.emod_lt_of_pos _ (by omega)⟩
theorem divF_val {xs : List Int} {len d : Nat} (hp : xs.length = len) (hx : digs xs) (hd0 : 0 < d) (k : Nat) : ∀ (ys : List (Fin len)), k ≤ len → ys.map Fin.val = downR len k → DivI len xs (divF xs d ys).1 d k (divF xs d ys).2 := by
  induction k with
  | zero =>
    intro ys hk hy
    have : ys = [] := by simpa [downR] using hy
    subst this
    refine ⟨by simp [divF], by simp [divF]; exact digs_zeros _, by simp [divF], by simp [divF]; omega, ?_⟩
    rw [Nat.sub_zero, List.drop_of_length_le (by omega), List.drop_of_length_le (by simp [divF])]
    simp [divF, val]
  | succ k ih =>
    intro ys hk hy
    have hl : ys.length = k + 1 := by have := congrArg List.length hy; simpa [downR] using this
    obtain ⟨q, x, rfl⟩ : ∃ q x, ys = q ++ [x] := ⟨ys.dropLast, ys.getLast (by intro e; subst e; simp at hl), (List.dropLast_concat_getLast _).symm⟩
    obtain ⟨j, hj, hq, hxv⟩ := downR_last hy
    obtain rfl : k = j := by omega
    rw [divF_snoc]
    exact ((ih q (by omega) hq).step (i := x.val) hp (by omega) hx _ rfl).1
theorem divF_digs {xs : List Int} (hx : digs xs) {len d : Nat} (hd0 : 0 < d) (pre : List (Fin len)) (y : Fin len) : 0 ≤ ((divF xs d pre).2 * 65536 + xs.getD y.val 0) / (d : Int) ∧ ((divF xs d pre).2 * 65536 + xs.getD y.val 0) / (d : Int) < 65536 := by
  have h := divF_bd (xs := xs) hd0 pre.length pre rfl
  have dx := digs_getD hx y.val
  unfold dig at dx
  exact ⟨Int.ediv_nonneg (by omega) (by omega), Int.ediv_lt_of_lt_mul (by omega) (by omega)⟩
set_option maxRecDepth 100000 in
set_option maxHeartbeats 4000000 in
theorem iCutSmall (a : Option Addr) (len cap : Nat) (xs : List Int) (d : Nat) (w : World) (hR : InI w a len cap xs) (hx : digs xs) (hd0 : 0 < d) (hd1 : d ≤ 70368744177664) (hl : len ≤ 1048576) :
    Calls Tryz.prog 88 #[.slice a len cap, .int .i64 (d : Int)] w fun e w' => (∃ av cv, e = .returned (.tuple #[.slice av (natL (val xs / d)).length cv, .int .i64 ((val xs % d : Nat) : Int)]) ∧ OI w' w.heap.size av cv (natL (val xs / d))) ∧ Below w.heap.size w w' := by
  have hlen := hR.len
  have hp := hR.1
  have hend := hd (fun ys h => DivI.all (divF_val (d := d) hp hx hd0 len ys (Nat.le_refl _) h))
  have hend2 := hd (fun ys h => (divF_val (d := d) hp hx hd0 len ys (Nat.le_refl _) h).dg)
  have hmk := mkDigs (w.alloc (.cells #[.int .i64 (d : Int)] 3)) len (by omega)
  have hr0 := IRow.made (w.alloc (.cells #[.int .i64 (d : Int)] 3)) len 3
  generalize val xs / d = Q at *
  generalize val xs % d = Rr at *
  refine (callsIn_wide (n := 3)).1 ?_
  have hro : Fence.wide.round = none := rfl
  have h1 : 1 ≤ 3 := by omega
  refine callsIn_of_wp_marks Tryz.func88 rfl trivial ?_ hro
  simp only [Tryz.ntmps88, List.size_toArray, List.length_cons, List.length_nil, Nat.reduceAdd, Nat.reduceSub, Array.replicate_succ, Array.replicate_zero, List.push_toArray, List.append_toArray, List.nil_append, List.cons_append]
  gi_wp2_with (refine ⟨trivial, ?_⟩; first | (gi_at_call 90; refine (top_in Fence.wide (3 - 1) trivial hro _ _ _ _).mono ?_; rintro e w' ⟨rfl, rfl⟩))
  have b0 := ((((Boxed.new w 3 (.int .i64 (d : Int))).alloc (.cells (madeCells #[Value.int IntKind.i64 0] len) 3)).alloc (.cells #[.slice (some ⟨w.heap.size + 1, 0, none⟩) len len] 80)).alloc (.cells #[.int .i64 0] 3)).alloc (.cells #[.slice a len cap] 80)
  have b2 := ((Boxed.new ((w.alloc (.cells #[.int .i64 (d : Int)] 3)).alloc (.cells (madeCells #[Value.int IntKind.i64 0] len) 3)) 80 (.slice (some ⟨w.heap.size + 1, 0, none⟩) len len)).alloc (.cells #[.int .i64 0] 3)).alloc (.cells #[.slice a len cap] 80)
  have b3 := (Boxed.new (((w.alloc (.cells #[.int .i64 (d : Int)] 3)).alloc (.cells (madeCells #[Value.int IntKind.i64 0] len) 3)).alloc (.cells #[.slice (some ⟨w.heap.size + 1, 0, none⟩) len len] 80)) 3 (.int .i64 0)).alloc (.cells #[.slice a len cap] 80)
  have b4 := Boxed.new ((((w.alloc (.cells #[.int .i64 (d : Int)] 3)).alloc (.cells (madeCells #[Value.int IntKind.i64 0] len) 3)).alloc (.cells #[.slice (some ⟨w.heap.size + 1, 0, none⟩) len len] 80)).alloc (.cells #[.int .i64 0] 3)) 80 (.slice a len cap)
  simp only [World.size_alloc] at b0 b2 b3 b4
  have c0 := b0.cell
  have c2 := b2.cell
  have c3 := b3.cell
  have f3 := b3.frozen
  have c4 := b4.cell
  rw [Nat.mul_one] at hr0
  have hR0 := ((((hR.alloc (.cells #[.int .i64 (d : Int)] 3)).alloc (.cells (madeCells #[Value.int IntKind.i64 0] len) 3)).alloc (.cells #[.slice (some ⟨w.heap.size + 1, 0, none⟩) len len] 80)).alloc (.cells #[.int .i64 0] 3)).alloc (.cells #[.slice a len cap] 80)
  have hB0 : Below w.heap.size w (((((w.alloc (.cells #[.int .i64 (d : Int)] 3)).alloc (.cells (madeCells #[Value.int IntKind.i64 0] len) 3)).alloc (.cells #[.slice (some ⟨w.heap.size + 1, 0, none⟩) len len] 80)).alloc (.cells #[.int .i64 0] 3)).alloc (.cells #[.slice a len cap] 80)) := (((((Below.refl _ w).alloc (Nat.le_refl _) _).alloc (by simp) _).alloc (by simp; omega) _).alloc (by simp; omega) _).alloc (by simp; omega) _
  have hrow := ((hr0.old ((Below.refl _ _).alloc (Nat.le_refl _) (.cells #[.slice (some ⟨w.heap.size + 1, 0, none⟩) len len] 80))).old ((Below.refl _ _).alloc (Nat.le_refl _) (.cells #[.int .i64 0] 3))).old ((Below.refl _ _).alloc (Nat.le_refl _) (.cells #[.slice a len cap] 80))
  simp only [World.size_alloc] at hrow
  have hsz : (((((w.alloc (.cells #[.int .i64 (d : Int)] 3)).alloc (.cells (madeCells #[Value.int IntKind.i64 0] len) 3)).alloc (.cells #[.slice (some ⟨w.heap.size + 1, 0, none⟩) len len] 80)).alloc (.cells #[.int .i64 0] 3)).alloc (.cells #[.slice a len cap] 80)).heap.size = w.heap.size + 5 := by simp
  clear b0 b2 b3 b4 hr0 hmk
  generalize (((((w.alloc (.cells #[.int .i64 (d : Int)] 3)).alloc (.cells (madeCells #[Value.int IntKind.i64 0] len) 3)).alloc (.cells #[.slice (some ⟨w.heap.size + 1, 0, none⟩) len len] 80)).alloc (.cells #[.int .i64 0] 3)).alloc (.cells #[.slice a len cap] 80)) = W0 at *
  have hfar := hR.far
  refine wpIn_rangeFunc_ownF hro h1 (gf := 108) (lb := #[.pointer (some ⟨w.heap.size + 1 + 1 + 1 + 1, 0, none⟩)]) rfl trivial (enters_of Tryz.func108 (by kernel_rfl) rfl)
    (top_stop Fence.wide (3 - 1) trivial hro (by omega) (w.heap.size + 1 + 1 + 1 + 1) len cap (KeepP (w.heap.size + 1 + 1 + 1 + 1) a len) a xs W0 (by omega) (.inl rfl) c4 hR0 keepP_at) (fun h k => Same.trans h k) (same_b (n := w.heap.size + 5) (keepP_lt (by omega) (fun h q e => by have := hfar h q e; omega)) (by omega)) (Below.refl _ _) (fun _ => rfl)
    (fun pre W => (W.cell? ⟨w.heap.size, 0, none⟩ = some (.int .i64 (d : Int)) ∧ W.cell? ⟨w.heap.size + 1 + 1, 0, none⟩ = some (.slice (some ⟨w.heap.size + 1, 0, none⟩) len len) ∧ W.cell? ⟨w.heap.size + 1 + 1 + 1, 0, none⟩ = some (.int .i64 (divF xs d pre).2) ∧ W.frozen? ⟨w.heap.size + 1 + 1 + 1, 0, none⟩ = false ∧ IRow W (w.heap.size + 1) (divF xs d pre).1) ∧ w.heap.size + 5 ≤ W.heap.size ∧ Below w.heap.size w W)
    (fun c pre W => False)
    (OwnFrom.and (Own.from (fun s A B row hs hg hr => ⟨cell_kept hs.1 hg hr, cell_kept hs.2.1 hg hr, cell_kept hs.2.2.1 hg hr, (frozen_kept hs.2.2.1 hg hr).trans hs.2.2.2.1, irow_kept hs.2.2.2.2 hg hr⟩) _) (OwnFrom.and (fun s A B row hs hg hr => Nat.le_trans hs hg.size) (ownFrom_below (Nat.le_refl _) (by omega))))
    (fun c s A B row hs hg hr => hs.elim)
    ⟨⟨c0, c2, c3, f3, hrow⟩, by omega, hB0⟩
    (fun x => { tmps := #[.slice a len cap, .int .i64 (d : Int), undef, .pointer (some ⟨w.heap.size, 0, none⟩), .slice none 0 0, .int .i64 0, .pointer (some ⟨w.heap.size + 1 + 1, 0, none⟩), .pointer (some ⟨w.heap.size + 1 + 1 + 1, 0, none⟩), .int .i64 (x.val : Int), .int .i64 (xs.getD x.val 0), .slice a len cap, .int .i64 (len : Int), .slice (some ⟨w.heap.size + 1, 0, none⟩) len len, .slice a len cap, .func (.func 108) #[] #[.pointer (some ⟨w.heap.size + 1 + 1 + 1 + 1, 0, none⟩)], .int .i64 (x.val : Int), .int .i64 (xs.getD x.val 0), undef, undef, undef, undef, undef, undef, undef, undef, undef, undef, undef, undef, undef, undef, undef, undef], defers := [] }) ?assign ?body ?done ?stop
  case assign =>
    intro l x W K hK
    generalize xs.getD x.val 0 = y at *
    gi_wp2
    exact hK
  case body =>
    rintro l pre x W ⟨⟨e0, e2, e3, g3, hrw⟩, hsW, hBw⟩ hpl
    have dx := digs_getD hx x.val
    have hbd := divF_bd (xs := xs) hd0 pre.length pre rfl
    have hqd := divF_digs hx hd0 pre x
    have hsn := hd (divF_snoc xs d pre x)
    generalize hy : xs.getD x.val 0 = y at *
    generalize hdp : divF xs d pre = st at *
    obtain ⟨qs, r⟩ := st
    dsimp only at *
    have hor := i64_or16 hbd.2.1 (by omega) dx
    obtain ⟨sv, hsv⟩ : ∃ sv, sv = r * 65536 + y := ⟨_, rfl⟩
    rw [← hsv] at hor hqd hsn
    have hD0 : (0 : Int) < (d : Int) := by omega
    have hD1 : (d : Int) ≤ 70368744177664 := by omega
    have hr0 := hbd.2.1
    have hr1 := hbd.2.2
    unfold dig at dx
    have hs0 : 0 ≤ sv := by omega
    have hs1 : sv < 4611686018427387904 := by omega
    have htd : sv.tdiv (d : Int) = sv / (d : Int) := Int.tdiv_eq_ediv_of_nonneg (by omega)
    have htm : sv.tmod (d : Int) = sv % (d : Int) := Int.tmod_eq_emod_of_nonneg (by omega)
    have hdz : ((d : Int) == 0) = false := by simp; omega
    have hdz2 : ¬ (d : Int) = 0 := by omega
    have hm0 := Int.emod_nonneg sv (show (d : Int) ≠ 0 by omega)
    have hm1 := Int.emod_lt_of_pos sv hD0
    have hxl := x.isLt
    obtain ⟨z, -, d0, d2⟩ := hrw.at (k := x.val) (by rw [hbd.1]; exact x.isLt)
    have hset := hrw.set x.val (by rw [hbd.1]; exact x.isLt) (sv / (d : Int))
    have hne : ∀ k, w.heap.size ≤ k → k < w.heap.size + 4 → ¬ KeepP (w.heap.size + 1 + 1 + 1 + 1) a len k := by
      rintro k h1 h2 (e | ⟨h, p, e, e2⟩)
      · omega
      · have := hfar h p e; omega
    have hne1 := hne (w.heap.size + 1) (by omega) (by omega)
    have hne3 := hne (w.heap.size + 1 + 1 + 1) (by omega) (by omega)
    generalize sv / (d : Int) = qv at *
    generalize sv % (d : Int) = rv at *
    have hql := hbd.1
    clear hne hend hend2 hbd hpl hdp hy
    have hbk : (x.val : Int) < (len : Int) := by omega
    have hbk0 : (0 : Int) ≤ (x.val : Int) := by omega
    generalize (d : Int) = D at *
    replace hsv := hd hsv
    have ne03 : (⟨w.heap.size, 0, none⟩ : Addr) ≠ ⟨w.heap.size + 1 + 1 + 1, 0, none⟩ := by intro h; injection h with h1; omega
    have ne23 : (⟨w.heap.size + 1 + 1, 0, none⟩ : Addr) ≠ ⟨w.heap.size + 1 + 1 + 1, 0, none⟩ := by intro h; injection h with h1; omega
    have ne0x : (⟨w.heap.size, 0, none⟩ : Addr) ≠ ⟨w.heap.size + 1, x.val, none⟩ := by intro h; injection h with h1; omega
    have ne2x : (⟨w.heap.size + 1 + 1, 0, none⟩ : Addr) ≠ ⟨w.heap.size + 1, x.val, none⟩ := by intro h; injection h with h1; omega
    have ne3x : (⟨w.heap.size + 1 + 1 + 1, 0, none⟩ : Addr) ≠ ⟨w.heap.size + 1, x.val, none⟩ := by intro h; injection h with h1; omega
    have F : Hid (ownPostK (Same (KeepP (w.heap.size + 1 + 1 + 1 + 1) a len)) (fun pre W => (W.cell? ⟨w.heap.size, 0, none⟩ = some (.int .i64 D) ∧ W.cell? ⟨w.heap.size + 1 + 1, 0, none⟩ = some (.slice (some ⟨w.heap.size + 1, 0, none⟩) len len) ∧ W.cell? ⟨w.heap.size + 1 + 1 + 1, 0, none⟩ = some (.int .i64 (divF xs d pre).2) ∧ W.frozen? ⟨w.heap.size + 1 + 1 + 1, 0, none⟩ = false ∧ IRow W (w.heap.size + 1) (divF xs d pre).1) ∧ w.heap.size + 5 ≤ W.heap.size ∧ Below w.heap.size w W) (fun c pre W => False) (pre ++ [x]) W Exit.normal { tmps := #[], defers := [] } (((W.setCell ⟨w.heap.size + 1 + 1 + 1, 0, none⟩ (.int .i64 sv)).setCell ⟨w.heap.size + 1, x.val, none⟩ (.int .i64 qv)).setCell ⟨w.heap.size + 1 + 1 + 1, 0, none⟩ (.int .i64 rv)).drew) := by
      have g1 := (grown_set (World.grownBy.refl W (some (w.heap.size + 1 + 1 + 1))) 0 (.int .i64 sv))
      have r1 := (hrw.kept g1 (by intro e; injection e with e1; omega)).set x.val (by rw [hql]; exact hxl) qv
      have g2 := (grown_set (World.grownBy.refl ((W.setCell ⟨w.heap.size + 1 + 1 + 1, 0, none⟩ (.int .i64 sv)).setCell ⟨w.heap.size + 1, x.val, none⟩ (.int .i64 qv)) (some (w.heap.size + 1 + 1 + 1))) 0 (.int .i64 rv))
      have r2 := r1.kept g2 (by intro e; injection e with e1; omega)
      have k3 : ((W.setCell ⟨w.heap.size + 1 + 1 + 1, 0, none⟩ (.int .i64 sv)).setCell ⟨w.heap.size + 1, x.val, none⟩ (.int .i64 qv)).cell? ⟨w.heap.size + 1 + 1 + 1, 0, none⟩ = some (.int .i64 sv) := by rw [World.cell?_setCell_other _ _ _ _ ne3x.symm]; exact World.cell?_setCell_same' _ _ _ (by rw [e3]; rfl)
      refine ⟨((KeepsOthers.setCell _ _ _).trans (KeepsOthers.setCell _ _ _)).trans ((KeepsOthers.setCell _ _ _).trans (KeepsOthers.drew _)), (((Same.refl _ _).setCell ⟨w.heap.size + 1 + 1 + 1, 0, none⟩ _ hne3).setCell ⟨w.heap.size + 1, x.val, none⟩ _ hne1).setCell ⟨w.heap.size + 1 + 1 + 1, 0, none⟩ _ hne3, ⟨?_, ?_, ?_, ?_, ?_⟩, ?_, ?_⟩
      · exact (World.cell?_setCell_other _ _ _ _ ne03.symm).trans ((World.cell?_setCell_other _ _ _ _ ne0x.symm).trans ((World.cell?_setCell_other _ _ _ _ ne03.symm).trans e0))
      · exact (World.cell?_setCell_other _ _ _ _ ne23.symm).trans ((World.cell?_setCell_other _ _ _ _ ne2x.symm).trans ((World.cell?_setCell_other _ _ _ _ ne23.symm).trans e2))
      · rw [hsn.out]
        exact World.cell?_setCell_same' _ _ _ (by rw [k3]; rfl)
      · simpa using g3
      · rw [hsn.out]
        exact r2
      · simpa [World.setCell] using hsW
      · exact (((hBw.setCell (p := ⟨w.heap.size + 1 + 1 + 1, 0, none⟩) (by simp; omega) _).setCell (p := ⟨w.heap.size + 1, x.val, none⟩) (by simp) _).setCell (p := ⟨w.heap.size + 1 + 1 + 1, 0, none⟩) (by simp; omega) _).drew
    clear ne03 ne23 ne0x ne2x ne3x hsn hset hrw hne1 hne3
    have hwq : IntKind.i64.wrap qv = qv := by simp [IntKind.wrap, IntKind.bits, IntKind.signed]; omega
    gi_wp2_with fail
    refine Code.wpIn_mono NoPanic.imp ?_
    refine wpIn_region_any (by kernel_rfl) ?_
    refine wpAnyIn_round (F := Fence.wide) rfl (by kernel_rfl) _ _ _ _ ?_
    try (change wpAnyIn _ _ _ _ _ _ _ _ _ (World.drew _))
    refine wpAnyIn_take (i := 1) (v := ?_) rfl rfl (by kernel_rfl) (by kernel_rfl) (by kernel_rfl) (fun _ _ _ h => h) ⟨Or.inl ⟨by rfl, ?_⟩, fun _ => rfl⟩ ?_
    rotate_left
    · intro w; go_simp <;> with_reducible rfl
    refine wpAnyIn_ready (rs := [0, 2, 3]) (by kernel_rfl) (by simp) ?_
    refine AllReadyIn.cons rfl (fun K hK => ?_) ?_
    · go_simp
      refine hK _ _ ?_
      clear hK K
      refine wpAnyIn_ready (rs := [2, 3]) (by kernel_rfl) (by simp) ?_
      refine AllReadyIn.cons rfl (fun K hK => ?_) ?_
      · go_simp
        refine hK _ _ ?_
        clear hK K
        refine wpAnyIn_ready (rs := [3]) (by kernel_rfl) (by simp) ?_
        refine AllReadyIn.cons rfl (fun K hK => ?_) ?_
        · go_simp
          refine hK _ _ ?_
          clear hK K
          refine wpAnyIn_take (i := 4) (v := ?_) rfl rfl (by kernel_rfl) (by kernel_rfl) (by kernel_rfl) (fun _ _ _ h => h) ⟨Or.inl ⟨by rfl, ?_⟩, fun _ => rfl⟩ ?_
          rotate_left
          · intro w; go_simp <;> with_reducible rfl
          refine wpAnyIn_take (i := 5) (v := ?_) rfl rfl (by kernel_rfl) (by kernel_rfl) (by kernel_rfl) (fun _ _ _ h => h) ⟨Or.inl ⟨by rfl, ?_⟩, fun _ => rfl⟩ ?_
          rotate_left
          · intro w; go_simp <;> with_reducible rfl
          refine wpAnyIn_ready (rs := [6]) (by kernel_rfl) (by simp) ?_
          refine AllReadyIn.cons rfl (fun K hK => ?_) ?_
          · go_simp
            refine hK _ _ ?_
            clear hK K
            refine wpAnyIn_done (by kernel_rfl) ?_ _
            refine NoPanic.normal ?_
            gi_wp2
            exact F.out
          exact AllReadyIn.nil
        exact AllReadyIn.nil
      refine AllReadyIn.cons rfl (fun K hK => ?_) ?_
      · go_simp
        refine hK _ _ ?_
        clear hK K
        refine wpAnyIn_ready (rs := [2]) (by kernel_rfl) (by simp) ?_
        refine AllReadyIn.cons rfl (fun K hK => ?_) ?_
        · go_simp
          refine hK _ _ ?_
          clear hK K
          refine wpAnyIn_take (i := 4) (v := ?_) rfl rfl (by kernel_rfl) (by kernel_rfl) (by kernel_rfl) (fun _ _ _ h => h) ⟨Or.inl ⟨by rfl, ?_⟩, fun _ => rfl⟩ ?_
          rotate_left
          · intro w; go_simp <;> with_reducible rfl
          refine wpAnyIn_take (i := 5) (v := ?_) rfl rfl (by kernel_rfl) (by kernel_rfl) (by kernel_rfl) (fun _ _ _ h => h) ⟨Or.inl ⟨by rfl, ?_⟩, fun _ => rfl⟩ ?_
          rotate_left
          · intro w; go_simp <;> with_reducible rfl
          refine wpAnyIn_ready (rs := [6]) (by kernel_rfl) (by simp) ?_
          refine AllReadyIn.cons rfl (fun K hK => ?_) ?_
          · go_simp
            refine hK _ _ ?_
            clear hK K
            refine wpAnyIn_done (by kernel_rfl) ?_ _
            refine NoPanic.normal ?_
            gi_wp2
            exact F.out
          exact AllReadyIn.nil
        exact AllReadyIn.nil
      exact AllReadyIn.nil
    refine AllReadyIn.cons rfl (fun K hK => ?_) ?_
    · go_simp
      refine hK _ _ ?_
      clear hK K
      refine wpAnyIn_ready (rs := [0, 3]) (by kernel_rfl) (by simp) ?_
      refine AllReadyIn.cons rfl (fun K hK => ?_) ?_
      · go_simp
        refine hK _ _ ?_
        clear hK K
        refine wpAnyIn_ready (rs := [3]) (by kernel_rfl) (by simp) ?_
        refine AllReadyIn.cons rfl (fun K hK => ?_) ?_
        · go_simp
          refine hK _ _ ?_
          clear hK K
          refine wpAnyIn_take (i := 4) (v := ?_) rfl rfl (by kernel_rfl) (by kernel_rfl) (by kernel_rfl) (fun _ _ _ h => h) ⟨Or.inl ⟨by rfl, ?_⟩, fun _ => rfl⟩ ?_
          rotate_left
          · intro w; go_simp <;> with_reducible rfl
          refine wpAnyIn_take (i := 5) (v := ?_) rfl rfl (by kernel_rfl) (by kernel_rfl) (by kernel_rfl) (fun _ _ _ h => h) ⟨Or.inl ⟨by rfl, ?_⟩, fun _ => rfl⟩ ?_
          rotate_left
          · intro w; go_simp <;> with_reducible rfl
          refine wpAnyIn_ready (rs := [6]) (by kernel_rfl) (by simp) ?_
          refine AllReadyIn.cons rfl (fun K hK => ?_) ?_
          · go_simp
            refine hK _ _ ?_
            clear hK K
            refine wpAnyIn_done (by kernel_rfl) ?_ _
            refine NoPanic.normal ?_
            gi_wp2
            exact F.out
          exact AllReadyIn.nil
        exact AllReadyIn.nil
      refine AllReadyIn.cons rfl (fun K hK => ?_) ?_
      · go_simp
        refine hK _ _ ?_
        clear hK K
        refine wpAnyIn_take (i := 4) (v := ?_) rfl rfl (by kernel_rfl) (by kernel_rfl) (by kernel_rfl) (fun _ _ _ h => h) ⟨Or.inl ⟨by rfl, ?_⟩, fun _ => rfl⟩ ?_
        rotate_left
        · intro w; go_simp <;> with_reducible rfl
        refine wpAnyIn_ready (rs := [0]) (by kernel_rfl) (by simp) ?_
        refine AllReadyIn.cons rfl (fun K hK => ?_) ?_
        · go_simp
          refine hK _ _ ?_
          clear hK K
          refine wpAnyIn_take (i := 5) (v := ?_) rfl rfl (by kernel_rfl) (by kernel_rfl) (by kernel_rfl) (fun _ _ _ h => h) ⟨Or.inl ⟨by rfl, ?_⟩, fun _ => rfl⟩ ?_
          rotate_left
          · intro w; go_simp <;> with_reducible rfl
          refine wpAnyIn_ready (rs := [6]) (by kernel_rfl) (by simp) ?_
          refine AllReadyIn.cons rfl (fun K hK => ?_) ?_
          · go_simp
            refine hK _ _ ?_
            clear hK K
            refine wpAnyIn_done (by kernel_rfl) ?_ _
            refine NoPanic.normal ?_
            gi_wp2
            exact F.out
          exact AllReadyIn.nil
        exact AllReadyIn.nil
      exact AllReadyIn.nil
    refine AllReadyIn.cons rfl (fun K hK => ?_) ?_
    · go_simp
      refine hK _ _ ?_
      clear hK K
      refine wpAnyIn_ready (rs := [0, 2]) (by kernel_rfl) (by simp) ?_
      refine AllReadyIn.cons rfl (fun K hK => ?_) ?_
      · go_simp
        refine hK _ _ ?_
        clear hK K
        refine wpAnyIn_ready (rs := [2]) (by kernel_rfl) (by simp) ?_
        refine AllReadyIn.cons rfl (fun K hK => ?_) ?_
        · go_simp
          refine hK _ _ ?_
          clear hK K
          refine wpAnyIn_take (i := 4) (v := ?_) rfl rfl (by kernel_rfl) (by kernel_rfl) (by kernel_rfl) (fun _ _ _ h => h) ⟨Or.inl ⟨by rfl, ?_⟩, fun _ => rfl⟩ ?_
          rotate_left
          · intro w; go_simp <;> with_reducible rfl
          refine wpAnyIn_take (i := 5) (v := ?_) rfl rfl (by kernel_rfl) (by kernel_rfl) (by kernel_rfl) (fun _ _ _ h => h) ⟨Or.inl ⟨by rfl, ?_⟩, fun _ => rfl⟩ ?_
          rotate_left
          · intro w; go_simp <;> with_reducible rfl
          refine wpAnyIn_ready (rs := [6]) (by kernel_rfl) (by simp) ?_
          refine AllReadyIn.cons rfl (fun K hK => ?_) ?_
          · go_simp
            refine hK _ _ ?_
            clear hK K
            refine wpAnyIn_done (by kernel_rfl) ?_ _
            refine NoPanic.normal ?_
            gi_wp2
            exact F.out
          exact AllReadyIn.nil
        exact AllReadyIn.nil
      refine AllReadyIn.cons rfl (fun K hK => ?_) ?_
      · go_simp
        refine hK _ _ ?_
        clear hK K
        refine wpAnyIn_take (i := 4) (v := ?_) rfl rfl (by kernel_rfl) (by kernel_rfl) (by kernel_rfl) (fun _ _ _ h => h) ⟨Or.inl ⟨by rfl, ?_⟩, fun _ => rfl⟩ ?_
        rotate_left
        · intro w; go_simp <;> with_reducible rfl
        refine wpAnyIn_ready (rs := [0]) (by kernel_rfl) (by simp) ?_
        refine AllReadyIn.cons rfl (fun K hK => ?_) ?_
        · go_simp
          refine hK _ _ ?_
          clear hK K
          refine wpAnyIn_take (i := 5) (v := ?_) rfl rfl (by kernel_rfl) (by kernel_rfl) (by kernel_rfl) (fun _ _ _ h => h) ⟨Or.inl ⟨by rfl, ?_⟩, fun _ => rfl⟩ ?_
          rotate_left
          · intro w; go_simp <;> with_reducible rfl
          refine wpAnyIn_ready (rs := [6]) (by kernel_rfl) (by simp) ?_
          refine AllReadyIn.cons rfl (fun K hK => ?_) ?_
          · go_simp
            refine hK _ _ ?_
            clear hK K
            refine wpAnyIn_done (by kernel_rfl) ?_ _
            refine NoPanic.normal ?_
            gi_wp2
            exact F.out
          exact AllReadyIn.nil
        exact AllReadyIn.nil
      exact AllReadyIn.nil
    exact AllReadyIn.nil
  case done =>
    rintro D ys W hD hys ⟨⟨e0, e2, e3, g3, hrw⟩, hsW, hBw⟩ hK
    obtain ⟨hv, hrr⟩ := hend.out ys hys
    have dg := hend2.out ys hys
    have hql := (divF_bd (xs := xs) hd0 ys.length ys rfl).1
    generalize divF xs d ys = st at *
    obtain ⟨qs, r⟩ := st
    dsimp only at *
    subst hrr
    have O : OI W w.heap.size (some ⟨w.heap.size + 1, 0, none⟩) len qs := ⟨digs_fits dg, by omega, by unfold maxLen; omega, .inr ⟨_, rfl, by omega, hrw⟩⟩
    have T := hd (iTrimO _ _ _ _ W.drew O dg)
    rw [hv, hql] at T
    have hDl : D < W.heap.size := (Array.getElem?_eq_some_iff.1 hK).1
    have h3l : w.heap.size + 1 + 1 + 1 < W.heap.size := by omega
    clear hend hend2 hv dg hrw O
    gi_wp2_with fail
    refine Code.wpIn_mono NoPanic.imp ?_
    gi_region_with (first | (gi_at_call 86; refine (callsIn_wide.2 T.out).mono ?_; rintro e wT ⟨⟨av, cv, rfl, hO⟩, hbT⟩; have e3 := (hbT.cell (p := ⟨w.heap.size + 1 + 1 + 1, 0, none⟩) h3l).trans e3) | (refine ⟨trivial, ?_⟩; gi_at_call 86; refine (callsIn_wide.2 T.out).mono ?_; rintro e wT ⟨⟨av, cv, rfl, hO⟩, hbT⟩; have e3 := (hbT.cell (p := ⟨w.heap.size + 1 + 1 + 1, 0, none⟩) h3l).trans e3))
    all_goals
      refine NoPanic.normal ?_
      gi_wp2
      have hK2 := (hbT.5 D hDl).trans hK
      refine ⟨by simp, .inl ⟨_, _, rfl, run_takeDeferred hK2, ?_⟩⟩
      refine ⟨.tuple #[.slice av (natL Q).length cv, .int .i64 (Rr : Int)], ?_, ⟨_, _, rfl, ?_⟩, ?_⟩
      · simp [results, Tryz.f88, go_sem]
      · exact oi_kept hO (grownBy_putObj' _ D (.deferred none)) (fun r e => by cases e; exact ⟨_, hK2, rfl⟩)
      · exact (old_trans hBw.drew hbT).trans (belowK_b (w := w) (Nat.le_refl _) _ D _ _ (by omega) hK2 rfl rfl)
  case stop =>
    rintro D c pre W hD _ h hK
    exact h.elim
end Go.Proofs.YtgoffjpfddmhhaaGreatDoor

/- Digits of numbers shifted down: mathematics alone. No condition. -/
namespace Go.Proofs.YtgoffjpfddmhhaaGreatDoor
open Go.RowKit Go.Shelf
set_option linter.unusedVariables false
set_option maxRecDepth 100000

theorem val_of_digits {qs : List Int} : ∀ {V : Nat}, (∀ j, j < qs.length → qs.getD j 0 = ((V / 65536 ^ j % 65536 : Nat) : Int)) → val qs = V % 65536 ^ qs.length := by
  induction qs with
  | nil => intro V h; simp [val, Nat.mod_one]
  | cons x xs ih =>
    intro V h
    have h0 := h 0 (by simp)
    simp at h0
    have h1 := ih (V := V / 65536) (fun j hj => by
      have := h (j + 1) (by simp; omega)
      rw [List.getD_cons_succ] at this
      rw [this, Nat.div_div_eq_div_mul, Nat.pow_succ, Nat.mul_comm])
    rw [val_cons, h1, h0, List.length_cons, Nat.pow_succ, Nat.mul_comm (65536 ^ xs.length), Nat.mod_mul]
    omega
theorem val_drop_div {xs : List Int} (hx : digs xs) (k : Nat) : val (xs.drop k) = val xs / 65536 ^ k := by
  by_cases h : k ≤ xs.length
  · have e := val_append (xs.take k) (xs.drop k)
    rw [List.take_append_drop, List.length_take, Nat.min_eq_left h] at e
    have ht : digs (xs.take k) := (digs_append.1 (by rw [List.take_append_drop]; exact hx)).1
    have hl := val_lt ht
    rw [List.length_take, Nat.min_eq_left h] at hl
    rw [e, Nat.add_mul_div_left _ _ (Nat.pow_pos (by omega)), Nat.div_eq_of_lt hl]; omega
  · rw [List.drop_of_length_le (by omega), val_nil]
    have hl := val_lt hx
    have hp : 65536 ^ xs.length ≤ 65536 ^ k := Nat.pow_le_pow_right (by omega) (by omega)
    exact (Nat.div_eq_of_lt (Nat.lt_of_lt_of_le hl hp)).symm
theorem drop_two {xs : List Int} (hx : digs xs) {j : Nat} (h : j < xs.length) : ∃ m, val (xs.drop j) = (xs.getD j 0).toNat + 65536 * (xs.getD (j + 1) 0).toNat + 4294967296 * m := by
  by_cases h2 : j + 1 < xs.length
  · refine ⟨val (xs.drop (j + 1 + 1)), ?_⟩
    rw [val_drop h, val_drop h2]; omega
  · refine ⟨0, ?_⟩
    have e0 : xs.getD (j + 1) 0 = 0 := getD_out (by omega)
    rw [val_drop h, List.drop_of_length_le (by omega), val_nil, e0]; simp
/-- a digit of a number shifted down hangs on two digits -/
theorem down_digit {xs : List Int} (hx : digs xs) {p j : Nat} (hp : p < 16) (h : j < xs.length) : ((((xs.getD (j + 1) 0) * 65536 + xs.getD j 0) / ((2 ^ p : Nat) : Int)) % 65536) = ((val xs / 2 ^ p / 65536 ^ j % 65536 : Nat) : Int) := by
  obtain ⟨m, hm⟩ := drop_two hx h
  have d1 := digs_getD hx j
  have d2 := digs_getD hx (j + 1)
  unfold dig at d1 d2
  rw [Nat.div_div_eq_div_mul, Nat.mul_comm, ← Nat.div_div_eq_div_mul, ← val_drop_div hx, hm]
  obtain ⟨u, hu⟩ := Int.eq_ofNat_of_zero_le d1.1
  obtain ⟨v, hv⟩ := Int.eq_ofNat_of_zero_le d2.1
  rw [hu, hv, Int.toNat_natCast, Int.toNat_natCast]
  have e : (v : Int) * 65536 + (u : Int) = ((v * 65536 + u : Nat) : Int) := by omega
  have hT : 2 ^ p * 2 ^ (16 - p) = 65536 := by rw [← Nat.pow_add, show p + (16 - p) = 16 by omega]
  rw [e, ← Int.natCast_ediv, show (65536 : Int) = ((65536 : Nat) : Int) from rfl, ← Int.natCast_emod]
  congr 1
  have e2 : u + 65536 * v + 4294967296 * m = (v * 65536 + u) + 2 ^ p * (2 ^ (16 - p) * 65536 * m) := by
    have : 2 ^ p * (2 ^ (16 - p) * 65536 * m) = (2 ^ p * 2 ^ (16 - p)) * 65536 * m := by rw [Nat.mul_assoc, Nat.mul_assoc, Nat.mul_assoc]
    rw [this, hT]; omega
  rw [e2, Nat.add_mul_div_left _ _ (Nat.pow_pos (by omega)), show 2 ^ (16 - p) * 65536 * m = 65536 * (2 ^ (16 - p) * m) by rw [Nat.mul_right_comm, Nat.mul_comm], Nat.add_mul_mod_self_left]
/-- what came, the highest digit ahead, shifted down -/
def dnF (xs : List Int) (p : Nat) {len : Nat} (pre : List (Fin len)) : List Int × Int := pre.foldl (fun s y => (s.1.set y.val (((s.2 * 65536 + xs.getD y.val 0) / ((2 ^ p : Nat) : Int)) % 65536), xs.getD y.val 0)) (List.replicate len 0, 0)
theorem dnF_snoc (xs : List Int) (p : Nat) {len : Nat} (pre : List (Fin len)) (y : Fin len) : dnF xs p (pre ++ [y]) = ((dnF xs p pre).1.set y.val ((((dnF xs p pre).2 * 65536 + xs.getD y.val 0) / ((2 ^ p : Nat) : Int)) % 65536), xs.getD y.val 0) := by simp [dnF]
theorem dnF_bd {xs : List Int} {p : Nat} (hx : digs xs) {len : Nat} (n : Nat) : ∀ (pre : List (Fin len)), pre.length = n → (dnF xs p pre).1.length = len ∧ dig (dnF xs p pre).2 := by
  induction n with
  | zero =>
    intro pre hp
    have : pre = [] := List.length_eq_zero_iff.1 hp
    subst this; simp [dnF, dig]
  | succ n ih =>
    intro pre hp
    obtain ⟨q, x, rfl⟩ : ∃ q x, pre = q ++ [x] := ⟨pre.dropLast, pre.getLast (by intro e; subst e; simp at hp), (List.dropLast_concat_getLast _).symm⟩
    have := ih q (by simpa using hp)
    rw [dnF_snoc]
    exact ⟨by simpa using this.1, digs_getD hx _⟩
theorem dnF_val {xs : List Int} {len p : Nat} (hp : xs.length = len) (hx : digs xs) (k : Nat) : ∀ (ys : List (Fin len)), k ≤ len → ys.map Fin.val = downR len k → (dnF xs p ys).1.length = len ∧ (dnF xs p ys).2 = xs.getD (len - k) 0 ∧ ∀ j, len - k ≤ j → j < len → (dnF xs p ys).1.getD j 0 = (((xs.getD (j + 1) 0) * 65536 + xs.getD j 0) / ((2 ^ p : Nat) : Int)) % 65536 := by
  induction k with
  | zero =>
    intro ys hk hy
    have : ys = [] := by simpa [downR] using hy
    subst this
    refine ⟨by simp [dnF], ?_, fun j h1 h2 => by omega⟩
    have e0 : xs.getD (len - 0) 0 = 0 := getD_out (by omega)
    rw [e0]; simp [dnF]
  | succ k ih =>
    intro ys hk hy
    have hl : ys.length = k + 1 := by have := congrArg List.length hy; simpa [downR] using this
    obtain ⟨q, x, rfl⟩ : ∃ q x, ys = q ++ [x] := ⟨ys.dropLast, ys.getLast (by intro e; subst e; simp at hl), (List.dropLast_concat_getLast _).symm⟩
    obtain ⟨j, hj, hq, hxv⟩ := downR_last hy
    obtain rfl : k = j := by omega
    obtain ⟨i1, i2, i3⟩ := ih q (by omega) hq
    rw [dnF_snoc]
    refine ⟨by simpa using i1, by rw [hxv, show len - 1 - k = len - (k + 1) by omega], fun j h1 h2 => ?_⟩
    by_cases e : j = x.val
    · subst e
      rw [getD_set _ _ _ (by rw [i1]; exact x.isLt), i2, show len - k = x.val + 1 by omega]
    · have : ((dnF xs p q).1.set x.val ((((dnF xs p q).2 * 65536 + xs.getD x.val 0) / ((2 ^ p : Nat) : Int)) % 65536)).getD j 0 = (dnF xs p q).1.getD j 0 := by simp [List.getD_eq_getElem?_getD, Ne.symm e]
      rw [this]
      exact i3 j (by omega) h2
theorem dnF_all {xs : List Int} {len p : Nat} (hp : xs.length = len) (hx : digs xs) (h16 : p < 16) (ys : List (Fin len)) (hy : ys.map Fin.val = downR len len) : val (dnF xs p ys).1 = val xs / 2 ^ p ∧ digs (dnF xs p ys).1 := by
  obtain ⟨h1, -, h3⟩ := dnF_val (p := p) hp hx len ys (Nat.le_refl _) hy
  have hdig : ∀ j, j < (dnF xs p ys).1.length → (dnF xs p ys).1.getD j 0 = ((val xs / 2 ^ p / 65536 ^ j % 65536 : Nat) : Int) := fun j hj => by
    rw [h3 j (by omega) (by omega), down_digit hx h16 (by omega)]
  refine ⟨?_, fun j hj => ?_⟩
  · rw [val_of_digits hdig, h1]
    refine Nat.mod_eq_of_lt (Nat.lt_of_le_of_lt (Nat.div_le_self _ _) ?_)
    have := val_lt hx
    rwa [hp] at this
  · rw [hdig j hj]
    unfold dig
    have := Nat.mod_lt (val xs / 2 ^ p / 65536 ^ j) (show 0 < 65536 by omega)
    generalize val xs / 2 ^ p / 65536 ^ j % 65536 = z at *
    omega
theorem InI.tail {w : World} {b off len cap P : Nat} {xs : List Int} (h : InI w (some ⟨b, off, none⟩) len cap xs) (hP : P < len) : InI w (some ⟨b, off + P, none⟩) (len - P) (cap - P) (xs.drop P) := by
  obtain ⟨h1, h2, h3, h4, h5⟩ := h
  refine ⟨by rw [List.length_drop, h1], by omega, by omega, fun x hx => h4 x (List.mem_of_mem_drop hx), .inr ?_⟩
  rcases h5 with h5 | ⟨b', o', e, hb, hc⟩
  · omega
  · cases e
    refine ⟨b, off + P, rfl, hb, fun i hi => ?_⟩
    have := hc (P + i) (by omega)
    rw [show off + (P + i) = off + P + i by omega] at this
    rw [this]
    simp [List.getD_eq_getElem?_getD]
end Go.Proofs.YtgoffjpfddmhhaaGreatDoor

/- Numbers shifted down, by the program. Conditions: digits. -/
namespace Go.Proofs.YtgoffjpfddmhhaaGreatDoor
open Go.RowKit Go.Shelf
attribute [local go_sem] Oper.semAt_some
set_option linter.unusedVariables false
set_option maxRecDepth 100000

set_option maxRecDepth 100000 in
set_option maxHeartbeats 4000000 in
theorem iDown (a : Option Addr) (len cap : Nat) (xs : List Int) (P p : Nat) (w : World) (hR : InI w a len cap xs) (hx : digs xs) (hp : p < 16) (hP : P ≤ 1048576) (hl : len ≤ 1048576) :
    Calls Tryz.prog 92 #[.slice a len cap, .int .i64 (16 * (P : Int) + p)] w fun e w' => (∃ av cv, e = .returned (.slice av (natL (val xs / (65536 ^ P * 2 ^ p))).length cv) ∧ OI w' w.heap.size av cv (natL (val xs / (65536 ^ P * 2 ^ p)))) ∧ Below w.heap.size w w' := by
  have hlen := hR.len
  have hpx := hR.1
  have hq : (16 * (P : Int) + p) / 16 = P := by omega
  have hr : (16 * (P : Int) + p) % 16 = p := by omega
  rw [← Nat.div_div_eq_div_mul, ← val_drop_div hx]
  by_cases hPl : len ≤ P
  · rw [List.drop_of_length_le (by omega), val_nil, Nat.zero_div, natL_zero]
    go_enter Tryz.func92, Tryz.ntmps92
    go_wp2
    go_ret
    exact ⟨⟨_, _, rfl, OI.none _ _⟩, (Below.refl _ w).alloc (Nat.le_refl _) _⟩
  have hPl' : P < len := by omega
  obtain ⟨ba, oa, -, rfl, hba, -, -, -⟩ := hR.at (k := 0) (by omega)
  have hT := hR.tail hPl'
  have hxd : digs (xs.drop P) := (digs_append.1 (by rw [List.take_append_drop]; exact hx)).2
  have hxl : (xs.drop P).length = len - P := by rw [List.length_drop, hpx]
  generalize xs.drop P = zs at *
  have hend := hd (fun ys h => dnF_all (p := p) hxl hxd hp ys h)
  generalize val zs / 2 ^ p = Q at *
  have hcap := hR.2.1
  have hcm := hR.2.2.1
  unfold maxLen at hcm
  have hni : ((len - P : Nat) : Int) = (len : Int) - P := by omega
  have hmk := mkDigs (w.alloc (.cells #[.int .i64 (p : Int)] 3)) (len - P) (by omega)
  have hr0 := IRow.made (w.alloc (.cells #[.int .i64 (p : Int)] 3)) (len - P) 3
  rw [hni] at hmk
  refine (callsIn_wide (n := 3)).1 ?_
  have hro : Fence.wide.round = none := rfl
  have h1 : 1 ≤ 3 := by omega
  refine callsIn_of_wp_marks Tryz.func92 rfl trivial ?_ hro
  simp only [Tryz.ntmps92, List.size_toArray, List.length_cons, List.length_nil, Nat.reduceAdd, Nat.reduceSub, Array.replicate_succ, Array.replicate_zero, List.push_toArray, List.append_toArray, List.nil_append, List.cons_append]
  gi_wp2_with (refine ⟨trivial, ?_⟩; first | (gi_at_call 90; refine (top_in Fence.wide (3 - 1) trivial hro _ _ _ _).mono ?_; rintro e w' ⟨rfl, rfl⟩))
  have b0 := ((((Boxed.new w 3 (.int .i64 (p : Int))).alloc (.cells (madeCells #[Value.int IntKind.i64 0] (len - P)) 3)).alloc (.cells #[.slice (some ⟨w.heap.size + 1, 0, none⟩) (len - P) (len - P)] 80)).alloc (.cells #[.int .i64 0] 3)).alloc (.cells #[.slice (some ⟨ba, oa + P, none⟩) (len - P) (cap - P)] 80)
  have b2 := ((Boxed.new ((w.alloc (.cells #[.int .i64 (p : Int)] 3)).alloc (.cells (madeCells #[Value.int IntKind.i64 0] (len - P)) 3)) 80 (.slice (some ⟨w.heap.size + 1, 0, none⟩) (len - P) (len - P))).alloc (.cells #[.int .i64 0] 3)).alloc (.cells #[.slice (some ⟨ba, oa + P, none⟩) (len - P) (cap - P)] 80)
  have b3 := (Boxed.new (((w.alloc (.cells #[.int .i64 (p : Int)] 3)).alloc (.cells (madeCells #[Value.int IntKind.i64 0] (len - P)) 3)).alloc (.cells #[.slice (some ⟨w.heap.size + 1, 0, none⟩) (len - P) (len - P)] 80)) 3 (.int .i64 0)).alloc (.cells #[.slice (some ⟨ba, oa + P, none⟩) (len - P) (cap - P)] 80)
  have b4 := Boxed.new ((((w.alloc (.cells #[.int .i64 (p : Int)] 3)).alloc (.cells (madeCells #[Value.int IntKind.i64 0] (len - P)) 3)).alloc (.cells #[.slice (some ⟨w.heap.size + 1, 0, none⟩) (len - P) (len - P)] 80)).alloc (.cells #[.int .i64 0] 3)) 80 (.slice (some ⟨ba, oa + P, none⟩) (len - P) (cap - P))
  simp only [World.size_alloc] at b0 b2 b3 b4
  have c0 := b0.cell
  have c2 := b2.cell
  have c3 := b3.cell
  have f3 := b3.frozen
  have c4 := b4.cell
  rw [Nat.mul_one] at hr0
  have hR0 := ((((hT.alloc (.cells #[.int .i64 (p : Int)] 3)).alloc (.cells (madeCells #[Value.int IntKind.i64 0] (len - P)) 3)).alloc (.cells #[.slice (some ⟨w.heap.size + 1, 0, none⟩) (len - P) (len - P)] 80)).alloc (.cells #[.int .i64 0] 3)).alloc (.cells #[.slice (some ⟨ba, oa + P, none⟩) (len - P) (cap - P)] 80)
  have hB0 : Below w.heap.size w (((((w.alloc (.cells #[.int .i64 (p : Int)] 3)).alloc (.cells (madeCells #[Value.int IntKind.i64 0] (len - P)) 3)).alloc (.cells #[.slice (some ⟨w.heap.size + 1, 0, none⟩) (len - P) (len - P)] 80)).alloc (.cells #[.int .i64 0] 3)).alloc (.cells #[.slice (some ⟨ba, oa + P, none⟩) (len - P) (cap - P)] 80)) := (((((Below.refl _ w).alloc (Nat.le_refl _) _).alloc (by simp) _).alloc (by simp; omega) _).alloc (by simp; omega) _).alloc (by simp; omega) _
  have hrow := ((hr0.old ((Below.refl _ _).alloc (Nat.le_refl _) (.cells #[.slice (some ⟨w.heap.size + 1, 0, none⟩) (len - P) (len - P)] 80))).old ((Below.refl _ _).alloc (Nat.le_refl _) (.cells #[.int .i64 0] 3))).old ((Below.refl _ _).alloc (Nat.le_refl _) (.cells #[.slice (some ⟨ba, oa + P, none⟩) (len - P) (cap - P)] 80))
  simp only [World.size_alloc] at hrow
  have hsz : (((((w.alloc (.cells #[.int .i64 (p : Int)] 3)).alloc (.cells (madeCells #[Value.int IntKind.i64 0] (len - P)) 3)).alloc (.cells #[.slice (some ⟨w.heap.size + 1, 0, none⟩) (len - P) (len - P)] 80)).alloc (.cells #[.int .i64 0] 3)).alloc (.cells #[.slice (some ⟨ba, oa + P, none⟩) (len - P) (cap - P)] 80)).heap.size = w.heap.size + 5 := by simp
  clear b0 b2 b3 b4 hr0 hmk
  generalize (((((w.alloc (.cells #[.int .i64 (p : Int)] 3)).alloc (.cells (madeCells #[Value.int IntKind.i64 0] (len - P)) 3)).alloc (.cells #[.slice (some ⟨w.heap.size + 1, 0, none⟩) (len - P) (len - P)] 80)).alloc (.cells #[.int .i64 0] 3)).alloc (.cells #[.slice (some ⟨ba, oa + P, none⟩) (len - P) (cap - P)] 80)) = W0 at *
  have hfar := hT.far
  refine wpIn_rangeFunc_ownF hro h1 (gf := 108) (lb := #[.pointer (some ⟨w.heap.size + 1 + 1 + 1 + 1, 0, none⟩)]) rfl trivial (enters_of Tryz.func108 (by kernel_rfl) rfl)
    (top_stop Fence.wide (3 - 1) trivial hro (by omega) (w.heap.size + 1 + 1 + 1 + 1) (len - P) (cap - P) (KeepP (w.heap.size + 1 + 1 + 1 + 1) (some ⟨ba, oa + P, none⟩) (len - P)) (some ⟨ba, oa + P, none⟩) zs W0 (by omega) (.inl rfl) c4 hR0 keepP_at) (fun h k => Same.trans h k) (same_b (n := w.heap.size + 5) (keepP_lt (by omega) (fun h q e => by have := hfar h q e; omega)) (by omega)) (Below.refl _ _) (fun _ => rfl)
    (fun pre W => (W.cell? ⟨w.heap.size, 0, none⟩ = some (.int .i64 (p : Int)) ∧ W.cell? ⟨w.heap.size + 1 + 1, 0, none⟩ = some (.slice (some ⟨w.heap.size + 1, 0, none⟩) (len - P) (len - P)) ∧ W.cell? ⟨w.heap.size + 1 + 1 + 1, 0, none⟩ = some (.int .i64 (dnF zs p pre).2) ∧ W.frozen? ⟨w.heap.size + 1 + 1 + 1, 0, none⟩ = false ∧ IRow W (w.heap.size + 1) (dnF zs p pre).1) ∧ w.heap.size + 5 ≤ W.heap.size ∧ Below w.heap.size w W)
    (fun c pre W => False)
    (OwnFrom.and (Own.from (fun s A B row hs hg hr => ⟨cell_kept hs.1 hg hr, cell_kept hs.2.1 hg hr, cell_kept hs.2.2.1 hg hr, (frozen_kept hs.2.2.1 hg hr).trans hs.2.2.2.1, irow_kept hs.2.2.2.2 hg hr⟩) _) (OwnFrom.and (fun s A B row hs hg hr => Nat.le_trans hs hg.size) (ownFrom_below (Nat.le_refl _) (by omega))))
    (fun c s A B row hs hg hr => hs.elim)
    ⟨⟨c0, c2, c3, f3, hrow⟩, by omega, hB0⟩
    (fun x => { tmps := #[.slice (some ⟨ba, oa, none⟩) len cap, .int .i64 (16 * (P : Int) + (p : Int)), undef, undef, .slice none 0 0, .int .i64 (P : Int), .pointer (some ⟨w.heap.size, 0, none⟩), .pointer (some ⟨w.heap.size + 1 + 1, 0, none⟩), .pointer (some ⟨w.heap.size + 1 + 1 + 1, 0, none⟩), .int .i64 (x.val : Int), .int .i64 (zs.getD x.val 0), .int .i64 (16 * (P : Int) + (p : Int)), .int .i64 (P : Int), .int .i64 (16 * (P : Int) + (p : Int)), .int .i64 (p : Int), .int .i64 (P : Int), .slice (some ⟨ba, oa, none⟩) len cap, .int .i64 (len : Int), .bool false, .slice (some ⟨ba, oa, none⟩) len cap, .int .i64 (len : Int), .int .i64 (P : Int), .int .i64 ((len : Int) - (P : Int)), .slice (some ⟨w.heap.size + 1, 0, none⟩) (len - P) (len - P), .slice (some ⟨ba, oa, none⟩) len cap, .int .i64 (P : Int), .slice (some ⟨ba, oa + P, none⟩) (len - P) (cap - P), .func (.func 108) #[] #[.pointer (some ⟨w.heap.size + 1 + 1 + 1 + 1, 0, none⟩)], .int .i64 (x.val : Int), .int .i64 (zs.getD x.val 0), undef, undef, undef, undef, undef, undef, undef, undef, undef, undef, undef, undef, undef], defers := [] }) ?assign ?body ?done ?stop
  case assign =>
    intro l x W K hK
    generalize zs.getD x.val 0 = y at *
    gi_wp2
    exact hK
  case body =>
    rintro l pre x W ⟨⟨e0, e2, e3, g3, hrw⟩, hsW, hBw⟩ hpl
    have dx := digs_getD hxd x.val
    have hbd := dnF_bd (p := p) hxd pre.length pre rfl
    have hsn := hd (dnF_snoc zs p pre x)
    generalize hy : zs.getD x.val 0 = y at *
    generalize hdp : dnF zs p pre = st at *
    obtain ⟨qs, r⟩ := st
    dsimp only at *
    have hor := i64_or16 hbd.2.1 (by have := hbd.2.2; omega) dx
    have dr := hbd.2
    obtain ⟨sv, hsv⟩ : ∃ sv, sv = r * 65536 + y := ⟨_, rfl⟩
    rw [← hsv] at hor hsn
    unfold dig at dx dr
    have hs0 : 0 ≤ sv := by omega
    have hs1 : sv < 4294967296 := by omega
    have hxl2 := x.isLt
    have hwr : IntKind.i64.wrap (r * 65536) = r * 65536 := by simp [IntKind.wrap, IntKind.bits, IntKind.signed]; omega
    obtain ⟨z, -, d0, d2⟩ := hrw.at (k := x.val) (by rw [hbd.1]; exact x.isLt)
    have hbk : (x.val : Int) < ((len - P : Nat) : Int) := by omega
    have hbk0 : (0 : Int) ≤ (x.val : Int) := by omega
    have hsh : Op.shift .shr .i64 sv .i64 (p : Int) = pure (.int .i64 (sv / ((2 ^ p : Nat) : Int))) := by
      have h := shift_shr_i64 (yk := .i64) (x := sv) (y := (p : Int)) (by omega) (by omega)
      rw [Int.toNat_natCast] at h
      rw [h, Int.natCast_pow]; rfl
    have ht0 : 0 ≤ sv / ((2 ^ p : Nat) : Int) := Int.ediv_nonneg hs0 (Int.natCast_nonneg _)
    have ht1 : sv / ((2 ^ p : Nat) : Int) ≤ sv := Int.ediv_le_self _ hs0
    have hmask := i64_mask (sv / ((2 ^ p : Nat) : Int))
    generalize sv / ((2 ^ p : Nat) : Int) = tv at *
    have hq0 : 0 ≤ tv % 65536 := by omega
    have hq1 : tv % 65536 < 65536 := by omega
    generalize tv % 65536 = qv at *
    have hne : ∀ k, w.heap.size ≤ k → k < w.heap.size + 4 → ¬ KeepP (w.heap.size + 1 + 1 + 1 + 1) (some ⟨ba, oa + P, none⟩) (len - P) k := by
      rintro k h1 h2 (e | ⟨h, p, e, e2⟩)
      · omega
      · have := hfar h p e; omega
    have hne1 := hne (w.heap.size + 1) (by omega) (by omega)
    have hne3 := hne (w.heap.size + 1 + 1 + 1) (by omega) (by omega)
    have hql := hbd.1
    clear hne hend hbd hpl hdp hy
    generalize (p : Int) = pI at *
    replace hsv := hd hsv
    have ne03 : (⟨w.heap.size, 0, none⟩ : Addr) ≠ ⟨w.heap.size + 1 + 1 + 1, 0, none⟩ := by intro h; injection h with h1; omega
    have ne23 : (⟨w.heap.size + 1 + 1, 0, none⟩ : Addr) ≠ ⟨w.heap.size + 1 + 1 + 1, 0, none⟩ := by intro h; injection h with h1; omega
    have ne0x : (⟨w.heap.size, 0, none⟩ : Addr) ≠ ⟨w.heap.size + 1, x.val, none⟩ := by intro h; injection h with h1; omega
    have ne2x : (⟨w.heap.size + 1 + 1, 0, none⟩ : Addr) ≠ ⟨w.heap.size + 1, x.val, none⟩ := by intro h; injection h with h1; omega
    have ne3x : (⟨w.heap.size + 1 + 1 + 1, 0, none⟩ : Addr) ≠ ⟨w.heap.size + 1, x.val, none⟩ := by intro h; injection h with h1; omega
    have F : Hid (ownPostK (Same (KeepP (w.heap.size + 1 + 1 + 1 + 1) (some ⟨ba, oa + P, none⟩) (len - P))) (fun pre W => (W.cell? ⟨w.heap.size, 0, none⟩ = some (.int .i64 pI) ∧ W.cell? ⟨w.heap.size + 1 + 1, 0, none⟩ = some (.slice (some ⟨w.heap.size + 1, 0, none⟩) (len - P) (len - P)) ∧ W.cell? ⟨w.heap.size + 1 + 1 + 1, 0, none⟩ = some (.int .i64 (dnF zs p pre).2) ∧ W.frozen? ⟨w.heap.size + 1 + 1 + 1, 0, none⟩ = false ∧ IRow W (w.heap.size + 1) (dnF zs p pre).1) ∧ w.heap.size + 5 ≤ W.heap.size ∧ Below w.heap.size w W) (fun c pre W => False) (pre ++ [x]) W Exit.normal { tmps := #[], defers := [] } ((W.setCell ⟨w.heap.size + 1, x.val, none⟩ (.int .i64 qv)).setCell ⟨w.heap.size + 1 + 1 + 1, 0, none⟩ (.int .i64 y)).drew) := by
      have r1 := hrw.set x.val (by rw [hql]; exact hxl2) qv
      have g2 := (grown_set (World.grownBy.refl (W.setCell ⟨w.heap.size + 1, x.val, none⟩ (.int .i64 qv)) (some (w.heap.size + 1 + 1 + 1))) 0 (.int .i64 y))
      have r2 := r1.kept g2 (by intro e; injection e with e1; omega)
      have k3 : (W.setCell ⟨w.heap.size + 1, x.val, none⟩ (.int .i64 qv)).cell? ⟨w.heap.size + 1 + 1 + 1, 0, none⟩ = some (.int .i64 r) := by rw [World.cell?_setCell_other _ _ _ _ ne3x.symm]; exact e3
      refine ⟨((KeepsOthers.setCell _ _ _).trans (KeepsOthers.setCell _ _ _)).trans (KeepsOthers.drew _), (((Same.refl _ _).setCell ⟨w.heap.size + 1, x.val, none⟩ _ hne1)).setCell ⟨w.heap.size + 1 + 1 + 1, 0, none⟩ _ hne3, ⟨?_, ?_, ?_, ?_, ?_⟩, ?_, ?_⟩
      · exact (World.cell?_setCell_other _ _ _ _ ne03.symm).trans ((World.cell?_setCell_other _ _ _ _ ne0x.symm).trans e0)
      · exact (World.cell?_setCell_other _ _ _ _ ne23.symm).trans ((World.cell?_setCell_other _ _ _ _ ne2x.symm).trans e2)
      · rw [hsn.out]
        exact World.cell?_setCell_same' _ _ _ (by rw [k3]; rfl)
      · simpa using g3
      · rw [hsn.out]
        exact r2
      · simpa [World.setCell] using hsW
      · exact ((hBw.setCell (p := ⟨w.heap.size + 1, x.val, none⟩) (by simp) _).setCell (p := ⟨w.heap.size + 1 + 1 + 1, 0, none⟩) (by simp; omega) _).drew
    clear ne03 ne23 ne0x ne2x ne3x hsn hrw hne1 hne3 hT hR hcap hcm hlen hpx hxl hxd hni hq hr hPl hPl' hfar hx hba hP hl hp hsz hB0 c0 c2 c3 f3 c4 hR0 hrow hsW hBw hsv hql hxl2 dx dr hs0 ht0 ht1
    gi_wp2_with fail
    refine Code.wpIn_mono NoPanic.imp ?_
    refine wpIn_region_any (by kernel_rfl) ?_
    refine wpAnyIn_round (F := Fence.wide) rfl (by kernel_rfl) _ _ _ _ ?_
    refine wpAnyIn_take (i := 1) (v := ?_) rfl rfl (by kernel_rfl) (by kernel_rfl) (by kernel_rfl) (fun _ _ _ h => h) ⟨Or.inl ⟨by rfl, ?_⟩, fun _ => rfl⟩ ?_
    rotate_left
    · intro w; go_simp <;> with_reducible rfl
    refine wpAnyIn_take (i := 4) (v := ?_) rfl rfl (by kernel_rfl) (by kernel_rfl) (by kernel_rfl) (fun _ _ _ h => h) ⟨Or.inl ⟨by rfl, ?_⟩, fun _ => rfl⟩ ?_
    rotate_left
    · intro w; go_simp <;> with_reducible rfl
    refine wpAnyIn_ready (rs := [0, 2, 6]) (by kernel_rfl) (by simp) ?_
    refine AllReadyIn.cons rfl (fun K hK => ?_) ?_
    · go_simp
      refine hK _ _ ?_
      clear hK K
      refine wpAnyIn_ready (rs := [2, 6]) (by kernel_rfl) (by simp) ?_
      refine AllReadyIn.cons rfl (fun K hK => ?_) ?_
      · go_simp
        refine hK _ _ ?_
        clear hK K
        refine wpAnyIn_take (i := 3) (v := ?_) rfl rfl (by kernel_rfl) (by kernel_rfl) (by kernel_rfl) (fun _ _ _ h => h) ⟨Or.inl ⟨by rfl, ?_⟩, fun _ => rfl⟩ ?_
        rotate_left
        · intro w; go_simp <;> with_reducible rfl
        refine wpAnyIn_take (i := 5) (v := ?_) rfl rfl (by kernel_rfl) (by kernel_rfl) (by kernel_rfl) (fun _ _ _ h => h) ⟨Or.inl ⟨by rfl, ?_⟩, fun _ => rfl⟩ ?_
        rotate_left
        · intro w; go_simp <;> with_reducible rfl
        refine wpAnyIn_ready (rs := [6]) (by kernel_rfl) (by simp) ?_
        refine AllReadyIn.cons rfl (fun K hK => ?_) ?_
        · go_simp
          refine hK _ _ ?_
          clear hK K
          refine wpAnyIn_take (i := 7) (v := ?_) rfl rfl (by kernel_rfl) (by kernel_rfl) (by kernel_rfl) (fun _ _ _ h => h) ⟨Or.inl ⟨by rfl, ?_⟩, fun _ => rfl⟩ ?_
          rotate_left
          · intro w; go_simp <;> with_reducible rfl
          refine wpAnyIn_take (i := 8) (v := ?_) rfl rfl (by kernel_rfl) (by kernel_rfl) (by kernel_rfl) (fun _ _ _ h => h) ⟨Or.inl ⟨by rfl, ?_⟩, fun _ => rfl⟩ ?_
          rotate_left
          · intro w; go_simp <;> with_reducible rfl
          refine wpAnyIn_take (i := 9) (v := ?_) rfl rfl (by kernel_rfl) (by kernel_rfl) (by kernel_rfl) (fun _ _ _ h => h) ⟨Or.inl ⟨by rfl, ?_⟩, fun _ => rfl⟩ ?_
          rotate_left
          · intro w; go_simp <;> with_reducible rfl
          refine wpAnyIn_ready (rs := [10]) (by kernel_rfl) (by simp) ?_
          refine AllReadyIn.cons rfl (fun K hK => ?_) ?_
          · go_simp
            refine hK _ _ ?_
            clear hK K
            refine wpAnyIn_done (by kernel_rfl) ?_ _
            refine NoPanic.normal ?_
            gi_wp2
            exact F.out
          exact AllReadyIn.nil
        exact AllReadyIn.nil
      refine AllReadyIn.cons rfl (fun K hK => ?_) ?_
      · go_simp
        refine hK _ _ ?_
        clear hK K
        refine wpAnyIn_ready (rs := [2]) (by kernel_rfl) (by simp) ?_
        refine AllReadyIn.cons rfl (fun K hK => ?_) ?_
        · go_simp
          refine hK _ _ ?_
          clear hK K
          refine wpAnyIn_take (i := 3) (v := ?_) rfl rfl (by kernel_rfl) (by kernel_rfl) (by kernel_rfl) (fun _ _ _ h => h) ⟨Or.inl ⟨by rfl, ?_⟩, fun _ => rfl⟩ ?_
          rotate_left
          · intro w; go_simp <;> with_reducible rfl
          refine wpAnyIn_take (i := 5) (v := ?_) rfl rfl (by kernel_rfl) (by kernel_rfl) (by kernel_rfl) (fun _ _ _ h => h) ⟨Or.inl ⟨by rfl, ?_⟩, fun _ => rfl⟩ ?_
          rotate_left
          · intro w; go_simp <;> with_reducible rfl
          refine wpAnyIn_take (i := 7) (v := ?_) rfl rfl (by kernel_rfl) (by kernel_rfl) (by kernel_rfl) (fun _ _ _ h => h) ⟨Or.inl ⟨by rfl, ?_⟩, fun _ => rfl⟩ ?_
          rotate_left
          · intro w; go_simp <;> with_reducible rfl
          refine wpAnyIn_take (i := 8) (v := ?_) rfl rfl (by kernel_rfl) (by kernel_rfl) (by kernel_rfl) (fun _ _ _ h => h) ⟨Or.inl ⟨by rfl, ?_⟩, fun _ => rfl⟩ ?_
          rotate_left
          · intro w; go_simp <;> with_reducible rfl
          refine wpAnyIn_take (i := 9) (v := ?_) rfl rfl (by kernel_rfl) (by kernel_rfl) (by kernel_rfl) (fun _ _ _ h => h) ⟨Or.inl ⟨by rfl, ?_⟩, fun _ => rfl⟩ ?_
          rotate_left
          · intro w; go_simp <;> with_reducible rfl
          refine wpAnyIn_ready (rs := [10]) (by kernel_rfl) (by simp) ?_
          refine AllReadyIn.cons rfl (fun K hK => ?_) ?_
          · go_simp
            refine hK _ _ ?_
            clear hK K
            refine wpAnyIn_done (by kernel_rfl) ?_ _
            refine NoPanic.normal ?_
            gi_wp2
            exact F.out
          exact AllReadyIn.nil
        exact AllReadyIn.nil
      exact AllReadyIn.nil
    refine AllReadyIn.cons rfl (fun K hK => ?_) ?_
    · go_simp
      refine hK _ _ ?_
      clear hK K
      refine wpAnyIn_take (i := 3) (v := ?_) rfl rfl (by kernel_rfl) (by kernel_rfl) (by kernel_rfl) (fun _ _ _ h => h) ⟨Or.inl ⟨by rfl, ?_⟩, fun _ => rfl⟩ ?_
      rotate_left
      · intro w; go_simp <;> with_reducible rfl
      refine wpAnyIn_take (i := 5) (v := ?_) rfl rfl (by kernel_rfl) (by kernel_rfl) (by kernel_rfl) (fun _ _ _ h => h) ⟨Or.inl ⟨by rfl, ?_⟩, fun _ => rfl⟩ ?_
      rotate_left
      · intro w; go_simp <;> with_reducible rfl
      refine wpAnyIn_ready (rs := [0, 6]) (by kernel_rfl) (by simp) ?_
      refine AllReadyIn.cons rfl (fun K hK => ?_) ?_
      · go_simp
        refine hK _ _ ?_
        clear hK K
        refine wpAnyIn_ready (rs := [6]) (by kernel_rfl) (by simp) ?_
        refine AllReadyIn.cons rfl (fun K hK => ?_) ?_
        · go_simp
          refine hK _ _ ?_
          clear hK K
          refine wpAnyIn_take (i := 7) (v := ?_) rfl rfl (by kernel_rfl) (by kernel_rfl) (by kernel_rfl) (fun _ _ _ h => h) ⟨Or.inl ⟨by rfl, ?_⟩, fun _ => rfl⟩ ?_
          rotate_left
          · intro w; go_simp <;> with_reducible rfl
          refine wpAnyIn_take (i := 8) (v := ?_) rfl rfl (by kernel_rfl) (by kernel_rfl) (by kernel_rfl) (fun _ _ _ h => h) ⟨Or.inl ⟨by rfl, ?_⟩, fun _ => rfl⟩ ?_
          rotate_left
          · intro w; go_simp <;> with_reducible rfl
          refine wpAnyIn_take (i := 9) (v := ?_) rfl rfl (by kernel_rfl) (by kernel_rfl) (by kernel_rfl) (fun _ _ _ h => h) ⟨Or.inl ⟨by rfl, ?_⟩, fun _ => rfl⟩ ?_
          rotate_left
          · intro w; go_simp <;> with_reducible rfl
          refine wpAnyIn_ready (rs := [10]) (by kernel_rfl) (by simp) ?_
          refine AllReadyIn.cons rfl (fun K hK => ?_) ?_
          · go_simp
            refine hK _ _ ?_
            clear hK K
            refine wpAnyIn_done (by kernel_rfl) ?_ _
            refine NoPanic.normal ?_
            gi_wp2
            exact F.out
          exact AllReadyIn.nil
        exact AllReadyIn.nil
      refine AllReadyIn.cons rfl (fun K hK => ?_) ?_
      · go_simp
        refine hK _ _ ?_
        clear hK K
        refine wpAnyIn_take (i := 7) (v := ?_) rfl rfl (by kernel_rfl) (by kernel_rfl) (by kernel_rfl) (fun _ _ _ h => h) ⟨Or.inl ⟨by rfl, ?_⟩, fun _ => rfl⟩ ?_
        rotate_left
        · intro w; go_simp <;> with_reducible rfl
        refine wpAnyIn_take (i := 8) (v := ?_) rfl rfl (by kernel_rfl) (by kernel_rfl) (by kernel_rfl) (fun _ _ _ h => h) ⟨Or.inl ⟨by rfl, ?_⟩, fun _ => rfl⟩ ?_
        rotate_left
        · intro w; go_simp <;> with_reducible rfl
        refine wpAnyIn_ready (rs := [0]) (by kernel_rfl) (by simp) ?_
        refine AllReadyIn.cons rfl (fun K hK => ?_) ?_
        · go_simp
          refine hK _ _ ?_
          clear hK K
          refine wpAnyIn_take (i := 9) (v := ?_) rfl rfl (by kernel_rfl) (by kernel_rfl) (by kernel_rfl) (fun _ _ _ h => h) ⟨Or.inl ⟨by rfl, ?_⟩, fun _ => rfl⟩ ?_
          rotate_left
          · intro w; go_simp <;> with_reducible rfl
          refine wpAnyIn_ready (rs := [10]) (by kernel_rfl) (by simp) ?_
          refine AllReadyIn.cons rfl (fun K hK => ?_) ?_
          · go_simp
            refine hK _ _ ?_
            clear hK K
            refine wpAnyIn_done (by kernel_rfl) ?_ _
            refine NoPanic.normal ?_
            gi_wp2
            exact F.out
          exact AllReadyIn.nil
        exact AllReadyIn.nil
      exact AllReadyIn.nil
    refine AllReadyIn.cons rfl (fun K hK => ?_) ?_
    · go_simp
      refine hK _ _ ?_
      clear hK K
      refine wpAnyIn_ready (rs := [0, 2]) (by kernel_rfl) (by simp) ?_
      refine AllReadyIn.cons rfl (fun K hK => ?_) ?_
      · go_simp
        refine hK _ _ ?_
        clear hK K
        refine wpAnyIn_ready (rs := [2]) (by kernel_rfl) (by simp) ?_
        refine AllReadyIn.cons rfl (fun K hK => ?_) ?_
        · go_simp
          refine hK _ _ ?_
          clear hK K
          refine wpAnyIn_take (i := 3) (v := ?_) rfl rfl (by kernel_rfl) (by kernel_rfl) (by kernel_rfl) (fun _ _ _ h => h) ⟨Or.inl ⟨by rfl, ?_⟩, fun _ => rfl⟩ ?_
          rotate_left
          · intro w; go_simp <;> with_reducible rfl
          refine wpAnyIn_take (i := 5) (v := ?_) rfl rfl (by kernel_rfl) (by kernel_rfl) (by kernel_rfl) (fun _ _ _ h => h) ⟨Or.inl ⟨by rfl, ?_⟩, fun _ => rfl⟩ ?_
          rotate_left
          · intro w; go_simp <;> with_reducible rfl
          refine wpAnyIn_take (i := 7) (v := ?_) rfl rfl (by kernel_rfl) (by kernel_rfl) (by kernel_rfl) (fun _ _ _ h => h) ⟨Or.inl ⟨by rfl, ?_⟩, fun _ => rfl⟩ ?_
          rotate_left
          · intro w; go_simp <;> with_reducible rfl
          refine wpAnyIn_take (i := 8) (v := ?_) rfl rfl (by kernel_rfl) (by kernel_rfl) (by kernel_rfl) (fun _ _ _ h => h) ⟨Or.inl ⟨by rfl, ?_⟩, fun _ => rfl⟩ ?_
          rotate_left
          · intro w; go_simp <;> with_reducible rfl
          refine wpAnyIn_take (i := 9) (v := ?_) rfl rfl (by kernel_rfl) (by kernel_rfl) (by kernel_rfl) (fun _ _ _ h => h) ⟨Or.inl ⟨by rfl, ?_⟩, fun _ => rfl⟩ ?_
          rotate_left
          · intro w; go_simp <;> with_reducible rfl
          refine wpAnyIn_ready (rs := [10]) (by kernel_rfl) (by simp) ?_
          refine AllReadyIn.cons rfl (fun K hK => ?_) ?_
          · go_simp
            refine hK _ _ ?_
            clear hK K
            refine wpAnyIn_done (by kernel_rfl) ?_ _
            refine NoPanic.normal ?_
            gi_wp2
            exact F.out
          exact AllReadyIn.nil
        exact AllReadyIn.nil
      refine AllReadyIn.cons rfl (fun K hK => ?_) ?_
      · go_simp
        refine hK _ _ ?_
        clear hK K
        refine wpAnyIn_take (i := 3) (v := ?_) rfl rfl (by kernel_rfl) (by kernel_rfl) (by kernel_rfl) (fun _ _ _ h => h) ⟨Or.inl ⟨by rfl, ?_⟩, fun _ => rfl⟩ ?_
        rotate_left
        · intro w; go_simp <;> with_reducible rfl
        refine wpAnyIn_take (i := 5) (v := ?_) rfl rfl (by kernel_rfl) (by kernel_rfl) (by kernel_rfl) (fun _ _ _ h => h) ⟨Or.inl ⟨by rfl, ?_⟩, fun _ => rfl⟩ ?_
        rotate_left
        · intro w; go_simp <;> with_reducible rfl
        refine wpAnyIn_take (i := 7) (v := ?_) rfl rfl (by kernel_rfl) (by kernel_rfl) (by kernel_rfl) (fun _ _ _ h => h) ⟨Or.inl ⟨by rfl, ?_⟩, fun _ => rfl⟩ ?_
        rotate_left
        · intro w; go_simp <;> with_reducible rfl
        refine wpAnyIn_take (i := 8) (v := ?_) rfl rfl (by kernel_rfl) (by kernel_rfl) (by kernel_rfl) (fun _ _ _ h => h) ⟨Or.inl ⟨by rfl, ?_⟩, fun _ => rfl⟩ ?_
        rotate_left
        · intro w; go_simp <;> with_reducible rfl
        refine wpAnyIn_ready (rs := [0]) (by kernel_rfl) (by simp) ?_
        refine AllReadyIn.cons rfl (fun K hK => ?_) ?_
        · go_simp
          refine hK _ _ ?_
          clear hK K
          refine wpAnyIn_take (i := 9) (v := ?_) rfl rfl (by kernel_rfl) (by kernel_rfl) (by kernel_rfl) (fun _ _ _ h => h) ⟨Or.inl ⟨by rfl, ?_⟩, fun _ => rfl⟩ ?_
          rotate_left
          · intro w; go_simp <;> with_reducible rfl
          refine wpAnyIn_ready (rs := [10]) (by kernel_rfl) (by simp) ?_
          refine AllReadyIn.cons rfl (fun K hK => ?_) ?_
          · go_simp
            refine hK _ _ ?_
            clear hK K
            refine wpAnyIn_done (by kernel_rfl) ?_ _
            refine NoPanic.normal ?_
            gi_wp2
            exact F.out
          exact AllReadyIn.nil
        exact AllReadyIn.nil
      exact AllReadyIn.nil
    exact AllReadyIn.nil
  case done =>
    rintro D ys W hD hys ⟨⟨e0, e2, e3, g3, hrw⟩, hsW, hBw⟩ hK
    obtain ⟨hv, dg⟩ := hend.out ys hys
    have hql := (dnF_bd (p := p) hxd ys.length ys rfl).1
    generalize dnF zs p ys = st at *
    obtain ⟨qs, r⟩ := st
    dsimp only at *
    have O : OI W w.heap.size (some ⟨w.heap.size + 1, 0, none⟩) (len - P) qs := ⟨digs_fits dg, by omega, by unfold maxLen; omega, .inr ⟨_, rfl, by omega, hrw⟩⟩
    have T := hd (iTrimO _ _ _ _ W O dg)
    rw [hv, hql] at T
    have hDl : D < W.heap.size := (Array.getElem?_eq_some_iff.1 hK).1
    clear hend hv dg hrw O
    gi_wp2_with (refine ⟨trivial, ?_⟩; first | (gi_at_call 86; refine (callsIn_wide.2 T.out).mono ?_; rintro e wT ⟨⟨av, cv, rfl, hO⟩, hbT⟩))
    have hK2 := (hbT.5 D hDl).trans hK
    refine ⟨by simp, .inl ⟨_, _, rfl, run_takeDeferred hK2, ?_⟩⟩
    refine ⟨.slice av (natL Q).length cv, ?_, ⟨_, _, rfl, ?_⟩, ?_⟩
    · simp [results, Tryz.f92, go_sem]
    · exact oi_kept hO (grownBy_putObj' _ D (.deferred none)) (fun r e => by cases e; exact ⟨_, hK2, rfl⟩)
    · exact (old_trans hBw hbT).trans (belowK_b (w := w) (Nat.le_refl _) _ D _ _ (by omega) hK2 rfl rfl)
  case stop =>
    rintro D c pre W hD _ h hK
    exact h.elim
end Go.Proofs.YtgoffjpfddmhhaaGreatDoor
