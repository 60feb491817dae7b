/- Numbers shifted down, by the program. Conditions: digits. -/
import Derived.Test.YtpamnpdigoikoaaDoorV4m
import Derived.Test.YtpamnpdigoikoaaDoorVR
namespace Go.Proofs.YtpamnpdigoikoaaDoor
open Go.RowKit Go.Shelf
attribute [local go_sem] Oper.semAt_some
set_option linter.unusedVariables false
set_option maxRecDepth 100000

set_option maxRecDepth 100000 in
set_option maxHeartbeats 4000000 in
theorem iDown (a : Option Addr) (len cap : Nat) (xs : List Int) (P p : Nat) (w : World) (hR : InI w a len cap xs) (hx : digs xs) (hp : p < 16) (hP : P ≤ 1048576) (hl : len ≤ 1048576) :
    Calls Tryd.prog 82 #[.slice a len cap, .int .i64 (16 * (P : Int) + p)] w fun e w' => (∃ av cv, e = .returned (.slice av (natL (val xs / (65536 ^ P * 2 ^ p))).length cv) ∧ OI w' w.heap.size av cv (natL (val xs / (65536 ^ P * 2 ^ p)))) ∧ Below w.heap.size w w' := by
  have hlen := hR.len
  have hpx := hR.1
  have hq : (16 * (P : Int) + p) / 16 = P := by omega
  have hr : (16 * (P : Int) + p) % 16 = p := by omega
  rw [← Nat.div_div_eq_div_mul, ← val_drop_div hx]
  by_cases hPl : len ≤ P
  · rw [List.drop_of_length_le (by omega), val_nil, Nat.zero_div, natL_zero]
    go_enter Tryd.func82, Tryd.ntmps82
    go_wp2
    go_ret
    exact ⟨⟨_, _, rfl, OI.none _ _⟩, (Below.refl _ w).alloc (Nat.le_refl _) _⟩
  have hPl' : P < len := by omega
  obtain ⟨ba, oa, -, rfl, hba, -, -, -⟩ := hR.at (k := 0) (by omega)
  have hT := hR.tail hPl'
  have hxd : digs (xs.drop P) := (digs_append.1 (by rw [List.take_append_drop]; exact hx)).2
  have hxl : (xs.drop P).length = len - P := by rw [List.length_drop, hpx]
  generalize xs.drop P = zs at *
  have hend := hd (fun ys h => dnF_all (p := p) hxl hxd hp ys h)
  generalize val zs / 2 ^ p = Q at *
  have hcap := hR.2.1
  have hcm := hR.2.2.1
  unfold maxLen at hcm
  have hni : ((len - P : Nat) : Int) = (len : Int) - P := by omega
  have hmk := mkDigs (w.alloc (.cells #[.int .i64 (p : Int)] 3)) (len - P) (by omega)
  have hr0 := IRow.made (w.alloc (.cells #[.int .i64 (p : Int)] 3)) (len - P) 3
  rw [hni] at hmk
  refine (callsIn_wide (n := 3)).1 ?_
  have hro : Fence.wide.round = none := rfl
  have h1 : 1 ≤ 3 := by omega
  refine callsIn_of_wp_marks Tryd.func82 rfl trivial ?_ hro
  simp only [Tryd.ntmps82, List.size_toArray, List.length_cons, List.length_nil, Nat.reduceAdd, Nat.reduceSub, Array.replicate_succ, Array.replicate_zero, List.push_toArray, List.append_toArray, List.nil_append, List.cons_append]
  gi_wp2_with (refine ⟨trivial, ?_⟩; first | (gi_at_call 80; refine (top_in Fence.wide (3 - 1) trivial hro _ _ _ _).mono ?_; rintro e w' ⟨rfl, rfl⟩))
  have b0 := ((((Boxed.new w 3 (.int .i64 (p : Int))).alloc (.cells (madeCells #[Value.int IntKind.i64 0] (len - P)) 3)).alloc (.cells #[.slice (some ⟨w.heap.size + 1, 0, none⟩) (len - P) (len - P)] 57)).alloc (.cells #[.int .i64 0] 3)).alloc (.cells #[.slice (some ⟨ba, oa + P, none⟩) (len - P) (cap - P)] 57)
  have b2 := ((Boxed.new ((w.alloc (.cells #[.int .i64 (p : Int)] 3)).alloc (.cells (madeCells #[Value.int IntKind.i64 0] (len - P)) 3)) 57 (.slice (some ⟨w.heap.size + 1, 0, none⟩) (len - P) (len - P))).alloc (.cells #[.int .i64 0] 3)).alloc (.cells #[.slice (some ⟨ba, oa + P, none⟩) (len - P) (cap - P)] 57)
  have b3 := (Boxed.new (((w.alloc (.cells #[.int .i64 (p : Int)] 3)).alloc (.cells (madeCells #[Value.int IntKind.i64 0] (len - P)) 3)).alloc (.cells #[.slice (some ⟨w.heap.size + 1, 0, none⟩) (len - P) (len - P)] 57)) 3 (.int .i64 0)).alloc (.cells #[.slice (some ⟨ba, oa + P, none⟩) (len - P) (cap - P)] 57)
  have b4 := Boxed.new ((((w.alloc (.cells #[.int .i64 (p : Int)] 3)).alloc (.cells (madeCells #[Value.int IntKind.i64 0] (len - P)) 3)).alloc (.cells #[.slice (some ⟨w.heap.size + 1, 0, none⟩) (len - P) (len - P)] 57)).alloc (.cells #[.int .i64 0] 3)) 57 (.slice (some ⟨ba, oa + P, none⟩) (len - P) (cap - P))
  simp only [World.size_alloc] at b0 b2 b3 b4
  have c0 := b0.cell
  have c2 := b2.cell
  have c3 := b3.cell
  have f3 := b3.frozen
  have c4 := b4.cell
  rw [Nat.mul_one] at hr0
  have hR0 := ((((hT.alloc (.cells #[.int .i64 (p : Int)] 3)).alloc (.cells (madeCells #[Value.int IntKind.i64 0] (len - P)) 3)).alloc (.cells #[.slice (some ⟨w.heap.size + 1, 0, none⟩) (len - P) (len - P)] 57)).alloc (.cells #[.int .i64 0] 3)).alloc (.cells #[.slice (some ⟨ba, oa + P, none⟩) (len - P) (cap - P)] 57)
  have hB0 : Below w.heap.size w (((((w.alloc (.cells #[.int .i64 (p : Int)] 3)).alloc (.cells (madeCells #[Value.int IntKind.i64 0] (len - P)) 3)).alloc (.cells #[.slice (some ⟨w.heap.size + 1, 0, none⟩) (len - P) (len - P)] 57)).alloc (.cells #[.int .i64 0] 3)).alloc (.cells #[.slice (some ⟨ba, oa + P, none⟩) (len - P) (cap - P)] 57)) := (((((Below.refl _ w).alloc (Nat.le_refl _) _).alloc (by simp) _).alloc (by simp; omega) _).alloc (by simp; omega) _).alloc (by simp; omega) _
  have hrow := ((hr0.old ((Below.refl _ _).alloc (Nat.le_refl _) (.cells #[.slice (some ⟨w.heap.size + 1, 0, none⟩) (len - P) (len - P)] 57))).old ((Below.refl _ _).alloc (Nat.le_refl _) (.cells #[.int .i64 0] 3))).old ((Below.refl _ _).alloc (Nat.le_refl _) (.cells #[.slice (some ⟨ba, oa + P, none⟩) (len - P) (cap - P)] 57))
  simp only [World.size_alloc] at hrow
  have hsz : (((((w.alloc (.cells #[.int .i64 (p : Int)] 3)).alloc (.cells (madeCells #[Value.int IntKind.i64 0] (len - P)) 3)).alloc (.cells #[.slice (some ⟨w.heap.size + 1, 0, none⟩) (len - P) (len - P)] 57)).alloc (.cells #[.int .i64 0] 3)).alloc (.cells #[.slice (some ⟨ba, oa + P, none⟩) (len - P) (cap - P)] 57)).heap.size = w.heap.size + 5 := by simp
  clear b0 b2 b3 b4 hr0 hmk
  generalize (((((w.alloc (.cells #[.int .i64 (p : Int)] 3)).alloc (.cells (madeCells #[Value.int IntKind.i64 0] (len - P)) 3)).alloc (.cells #[.slice (some ⟨w.heap.size + 1, 0, none⟩) (len - P) (len - P)] 57)).alloc (.cells #[.int .i64 0] 3)).alloc (.cells #[.slice (some ⟨ba, oa + P, none⟩) (len - P) (cap - P)] 57)) = W0 at *
  have hfar := hT.far
  refine wpIn_rangeFunc_ownF hro h1 (gf := 105) (lb := #[.pointer (some ⟨w.heap.size + 1 + 1 + 1 + 1, 0, none⟩)]) rfl trivial (enters_of Tryd.func105 (by kernel_rfl) rfl)
    (top_stop Fence.wide (3 - 1) trivial hro (by omega) (w.heap.size + 1 + 1 + 1 + 1) (len - P) (cap - P) (KeepP (w.heap.size + 1 + 1 + 1 + 1) (some ⟨ba, oa + P, none⟩) (len - P)) (some ⟨ba, oa + P, none⟩) zs W0 (by omega) (.inl rfl) c4 hR0 keepP_at) (fun h k => Same.trans h k) (same_b (n := w.heap.size + 5) (keepP_lt (by omega) (fun h q e => by have := hfar h q e; omega)) (by omega)) (Below.refl _ _) (fun _ => rfl)
    (fun pre W => (W.cell? ⟨w.heap.size, 0, none⟩ = some (.int .i64 (p : Int)) ∧ W.cell? ⟨w.heap.size + 1 + 1, 0, none⟩ = some (.slice (some ⟨w.heap.size + 1, 0, none⟩) (len - P) (len - P)) ∧ W.cell? ⟨w.heap.size + 1 + 1 + 1, 0, none⟩ = some (.int .i64 (dnF zs p pre).2) ∧ W.frozen? ⟨w.heap.size + 1 + 1 + 1, 0, none⟩ = false ∧ IRow W (w.heap.size + 1) (dnF zs p pre).1) ∧ w.heap.size + 5 ≤ W.heap.size ∧ Below w.heap.size w W)
    (fun c pre W => False)
    (OwnFrom.and (Own.from (fun s A B row hs hg hr => ⟨cell_kept hs.1 hg hr, cell_kept hs.2.1 hg hr, cell_kept hs.2.2.1 hg hr, (frozen_kept hs.2.2.1 hg hr).trans hs.2.2.2.1, irow_kept hs.2.2.2.2 hg hr⟩) _) (OwnFrom.and (fun s A B row hs hg hr => Nat.le_trans hs hg.size) (ownFrom_below (Nat.le_refl _) (by omega))))
    (fun c s A B row hs hg hr => hs.elim)
    ⟨⟨c0, c2, c3, f3, hrow⟩, by omega, hB0⟩
    (fun x => { tmps := #[.slice (some ⟨ba, oa, none⟩) len cap, .int .i64 (16 * (P : Int) + (p : Int)), undef, undef, .slice none 0 0, .int .i64 (P : Int), .pointer (some ⟨w.heap.size, 0, none⟩), .pointer (some ⟨w.heap.size + 1 + 1, 0, none⟩), .pointer (some ⟨w.heap.size + 1 + 1 + 1, 0, none⟩), .int .i64 (x.val : Int), .int .i64 (zs.getD x.val 0), .int .i64 (16 * (P : Int) + (p : Int)), .int .i64 (P : Int), .int .i64 (16 * (P : Int) + (p : Int)), .int .i64 (p : Int), .int .i64 (P : Int), .slice (some ⟨ba, oa, none⟩) len cap, .int .i64 (len : Int), .bool false, .slice (some ⟨ba, oa, none⟩) len cap, .int .i64 (len : Int), .int .i64 (P : Int), .int .i64 ((len : Int) - (P : Int)), .slice (some ⟨w.heap.size + 1, 0, none⟩) (len - P) (len - P), .slice (some ⟨ba, oa, none⟩) len cap, .int .i64 (P : Int), .slice (some ⟨ba, oa + P, none⟩) (len - P) (cap - P), .func (.func 105) #[] #[.pointer (some ⟨w.heap.size + 1 + 1 + 1 + 1, 0, none⟩)], .int .i64 (x.val : Int), .int .i64 (zs.getD x.val 0), undef, undef, undef, undef, undef, undef, undef, undef, undef, undef, undef, undef, undef], defers := [] }) ?assign ?body ?done ?stop
  case assign =>
    intro l x W K hK
    generalize zs.getD x.val 0 = y at *
    gi_wp2
    exact hK
  case body =>
    rintro l pre x W ⟨⟨e0, e2, e3, g3, hrw⟩, hsW, hBw⟩ hpl
    have dx := digs_getD hxd x.val
    have hbd := dnF_bd (p := p) hxd pre.length pre rfl
    have hsn := hd (dnF_snoc zs p pre x)
    generalize hy : zs.getD x.val 0 = y at *
    generalize hdp : dnF zs p pre = st at *
    obtain ⟨qs, r⟩ := st
    dsimp only at *
    have hor := i64_or16 hbd.2.1 (by have := hbd.2.2; omega) dx
    have dr := hbd.2
    obtain ⟨sv, hsv⟩ : ∃ sv, sv = r * 65536 + y := ⟨_, rfl⟩
    rw [← hsv] at hor hsn
    unfold dig at dx dr
    have hs0 : 0 ≤ sv := by omega
    have hs1 : sv < 4294967296 := by omega
    have hxl2 := x.isLt
    have hwr : IntKind.i64.wrap (r * 65536) = r * 65536 := by simp [IntKind.wrap, IntKind.bits, IntKind.signed]; omega
    obtain ⟨z, -, d0, d2⟩ := hrw.at (k := x.val) (by rw [hbd.1]; exact x.isLt)
    have hbk : (x.val : Int) < ((len - P : Nat) : Int) := by omega
    have hbk0 : (0 : Int) ≤ (x.val : Int) := by omega
    have hsh : Op.shift .shr .i64 sv .i64 (p : Int) = pure (.int .i64 (sv / ((2 ^ p : Nat) : Int))) := by
      have h := shift_shr_i64 (yk := .i64) (x := sv) (y := (p : Int)) (by omega) (by omega)
      rw [Int.toNat_natCast] at h
      rw [h, Int.natCast_pow]; rfl
    have ht0 : 0 ≤ sv / ((2 ^ p : Nat) : Int) := Int.ediv_nonneg hs0 (Int.natCast_nonneg _)
    have ht1 : sv / ((2 ^ p : Nat) : Int) ≤ sv := Int.ediv_le_self _ hs0
    have hmask := i64_mask (sv / ((2 ^ p : Nat) : Int))
    generalize sv / ((2 ^ p : Nat) : Int) = tv at *
    have hq0 : 0 ≤ tv % 65536 := by omega
    have hq1 : tv % 65536 < 65536 := by omega
    generalize tv % 65536 = qv at *
    have hne : ∀ k, w.heap.size ≤ k → k < w.heap.size + 4 → ¬ KeepP (w.heap.size + 1 + 1 + 1 + 1) (some ⟨ba, oa + P, none⟩) (len - P) k := by
      rintro k h1 h2 (e | ⟨h, p, e, e2⟩)
      · omega
      · have := hfar h p e; omega
    have hne1 := hne (w.heap.size + 1) (by omega) (by omega)
    have hne3 := hne (w.heap.size + 1 + 1 + 1) (by omega) (by omega)
    have hql := hbd.1
    clear hne hend hbd hpl hdp hy
    generalize (p : Int) = pI at *
    replace hsv := hd hsv
    have ne03 : (⟨w.heap.size, 0, none⟩ : Addr) ≠ ⟨w.heap.size + 1 + 1 + 1, 0, none⟩ := by intro h; injection h with h1; omega
    have ne23 : (⟨w.heap.size + 1 + 1, 0, none⟩ : Addr) ≠ ⟨w.heap.size + 1 + 1 + 1, 0, none⟩ := by intro h; injection h with h1; omega
    have ne0x : (⟨w.heap.size, 0, none⟩ : Addr) ≠ ⟨w.heap.size + 1, x.val, none⟩ := by intro h; injection h with h1; omega
    have ne2x : (⟨w.heap.size + 1 + 1, 0, none⟩ : Addr) ≠ ⟨w.heap.size + 1, x.val, none⟩ := by intro h; injection h with h1; omega
    have ne3x : (⟨w.heap.size + 1 + 1 + 1, 0, none⟩ : Addr) ≠ ⟨w.heap.size + 1, x.val, none⟩ := by intro h; injection h with h1; omega
    have F : Hid (ownPostK (Same (KeepP (w.heap.size + 1 + 1 + 1 + 1) (some ⟨ba, oa + P, none⟩) (len - P))) (fun pre W => (W.cell? ⟨w.heap.size, 0, none⟩ = some (.int .i64 pI) ∧ W.cell? ⟨w.heap.size + 1 + 1, 0, none⟩ = some (.slice (some ⟨w.heap.size + 1, 0, none⟩) (len - P) (len - P)) ∧ W.cell? ⟨w.heap.size + 1 + 1 + 1, 0, none⟩ = some (.int .i64 (dnF zs p pre).2) ∧ W.frozen? ⟨w.heap.size + 1 + 1 + 1, 0, none⟩ = false ∧ IRow W (w.heap.size + 1) (dnF zs p pre).1) ∧ w.heap.size + 5 ≤ W.heap.size ∧ Below w.heap.size w W) (fun c pre W => False) (pre ++ [x]) W Exit.normal { tmps := #[], defers := [] } ((W.setCell ⟨w.heap.size + 1, x.val, none⟩ (.int .i64 qv)).setCell ⟨w.heap.size + 1 + 1 + 1, 0, none⟩ (.int .i64 y)).drew) := by
      have r1 := hrw.set x.val (by rw [hql]; exact hxl2) qv
      have g2 := (grown_set (World.grownBy.refl (W.setCell ⟨w.heap.size + 1, x.val, none⟩ (.int .i64 qv)) (some (w.heap.size + 1 + 1 + 1))) 0 (.int .i64 y))
      have r2 := r1.kept g2 (by intro e; injection e with e1; omega)
      have k3 : (W.setCell ⟨w.heap.size + 1, x.val, none⟩ (.int .i64 qv)).cell? ⟨w.heap.size + 1 + 1 + 1, 0, none⟩ = some (.int .i64 r) := by rw [World.cell?_setCell_other _ _ _ _ ne3x.symm]; exact e3
      refine ⟨((KeepsOthers.setCell _ _ _).trans (KeepsOthers.setCell _ _ _)).trans (KeepsOthers.drew _), (((Same.refl _ _).setCell ⟨w.heap.size + 1, x.val, none⟩ _ hne1)).setCell ⟨w.heap.size + 1 + 1 + 1, 0, none⟩ _ hne3, ⟨?_, ?_, ?_, ?_, ?_⟩, ?_, ?_⟩
      · exact (World.cell?_setCell_other _ _ _ _ ne03.symm).trans ((World.cell?_setCell_other _ _ _ _ ne0x.symm).trans e0)
      · exact (World.cell?_setCell_other _ _ _ _ ne23.symm).trans ((World.cell?_setCell_other _ _ _ _ ne2x.symm).trans e2)
      · rw [hsn.out]
        exact World.cell?_setCell_same' _ _ _ (by rw [k3]; rfl)
      · simpa using g3
      · rw [hsn.out]
        exact r2
      · simpa [World.setCell] using hsW
      · exact ((hBw.setCell (p := ⟨w.heap.size + 1, x.val, none⟩) (by simp) _).setCell (p := ⟨w.heap.size + 1 + 1 + 1, 0, none⟩) (by simp; omega) _).drew
    clear ne03 ne23 ne0x ne2x ne3x hsn hrw hne1 hne3 hT hR hcap hcm hlen hpx hxl hxd hni hq hr hPl hPl' hfar hx hba hP hl hp hsz hB0 c0 c2 c3 f3 c4 hR0 hrow hsW hBw hsv hql hxl2 dx dr hs0 ht0 ht1
    gi_wp2_with fail
    refine Code.wpIn_mono NoPanic.imp ?_
    refine wpIn_region_any (by kernel_rfl) ?_
    refine wpAnyIn_round (F := Fence.wide) rfl (by kernel_rfl) _ _ _ _ ?_
    refine wpAnyIn_take (i := 1) (v := ?_) rfl rfl (by kernel_rfl) (by kernel_rfl) (by kernel_rfl) (fun _ _ _ h => h) ⟨Or.inl ⟨by rfl, ?_⟩, fun _ => rfl⟩ ?_
    rotate_left
    · intro w; go_simp <;> with_reducible rfl
    refine wpAnyIn_take (i := 4) (v := ?_) rfl rfl (by kernel_rfl) (by kernel_rfl) (by kernel_rfl) (fun _ _ _ h => h) ⟨Or.inl ⟨by rfl, ?_⟩, fun _ => rfl⟩ ?_
    rotate_left
    · intro w; go_simp <;> with_reducible rfl
    refine wpAnyIn_ready (rs := [0, 2, 6]) (by kernel_rfl) (by simp) ?_
    refine AllReadyIn.cons rfl (fun K hK => ?_) ?_
    · go_simp
      refine hK _ _ ?_
      clear hK K
      refine wpAnyIn_ready (rs := [2, 6]) (by kernel_rfl) (by simp) ?_
      refine AllReadyIn.cons rfl (fun K hK => ?_) ?_
      · go_simp
        refine hK _ _ ?_
        clear hK K
        refine wpAnyIn_take (i := 3) (v := ?_) rfl rfl (by kernel_rfl) (by kernel_rfl) (by kernel_rfl) (fun _ _ _ h => h) ⟨Or.inl ⟨by rfl, ?_⟩, fun _ => rfl⟩ ?_
        rotate_left
        · intro w; go_simp <;> with_reducible rfl
        refine wpAnyIn_take (i := 5) (v := ?_) rfl rfl (by kernel_rfl) (by kernel_rfl) (by kernel_rfl) (fun _ _ _ h => h) ⟨Or.inl ⟨by rfl, ?_⟩, fun _ => rfl⟩ ?_
        rotate_left
        · intro w; go_simp <;> with_reducible rfl
        refine wpAnyIn_ready (rs := [6]) (by kernel_rfl) (by simp) ?_
        refine AllReadyIn.cons rfl (fun K hK => ?_) ?_
        · go_simp
          refine hK _ _ ?_
          clear hK K
          refine wpAnyIn_take (i := 7) (v := ?_) rfl rfl (by kernel_rfl) (by kernel_rfl) (by kernel_rfl) (fun _ _ _ h => h) ⟨Or.inl ⟨by rfl, ?_⟩, fun _ => rfl⟩ ?_
          rotate_left
          · intro w; go_simp <;> with_reducible rfl
          refine wpAnyIn_take (i := 8) (v := ?_) rfl rfl (by kernel_rfl) (by kernel_rfl) (by kernel_rfl) (fun _ _ _ h => h) ⟨Or.inl ⟨by rfl, ?_⟩, fun _ => rfl⟩ ?_
          rotate_left
          · intro w; go_simp <;> with_reducible rfl
          refine wpAnyIn_take (i := 9) (v := ?_) rfl rfl (by kernel_rfl) (by kernel_rfl) (by kernel_rfl) (fun _ _ _ h => h) ⟨Or.inl ⟨by rfl, ?_⟩, fun _ => rfl⟩ ?_
          rotate_left
          · intro w; go_simp <;> with_reducible rfl
          refine wpAnyIn_ready (rs := [10]) (by kernel_rfl) (by simp) ?_
          refine AllReadyIn.cons rfl (fun K hK => ?_) ?_
          · go_simp
            refine hK _ _ ?_
            clear hK K
            refine wpAnyIn_done (by kernel_rfl) ?_ _
            refine NoPanic.normal ?_
            gi_wp2
            exact F.out
          exact AllReadyIn.nil
        exact AllReadyIn.nil
      refine AllReadyIn.cons rfl (fun K hK => ?_) ?_
      · go_simp
        refine hK _ _ ?_
        clear hK K
        refine wpAnyIn_ready (rs := [2]) (by kernel_rfl) (by simp) ?_
        refine AllReadyIn.cons rfl (fun K hK => ?_) ?_
        · go_simp
          refine hK _ _ ?_
          clear hK K
          refine wpAnyIn_take (i := 3) (v := ?_) rfl rfl (by kernel_rfl) (by kernel_rfl) (by kernel_rfl) (fun _ _ _ h => h) ⟨Or.inl ⟨by rfl, ?_⟩, fun _ => rfl⟩ ?_
          rotate_left
          · intro w; go_simp <;> with_reducible rfl
          refine wpAnyIn_take (i := 5) (v := ?_) rfl rfl (by kernel_rfl) (by kernel_rfl) (by kernel_rfl) (fun _ _ _ h => h) ⟨Or.inl ⟨by rfl, ?_⟩, fun _ => rfl⟩ ?_
          rotate_left
          · intro w; go_simp <;> with_reducible rfl
          refine wpAnyIn_take (i := 7) (v := ?_) rfl rfl (by kernel_rfl) (by kernel_rfl) (by kernel_rfl) (fun _ _ _ h => h) ⟨Or.inl ⟨by rfl, ?_⟩, fun _ => rfl⟩ ?_
          rotate_left
          · intro w; go_simp <;> with_reducible rfl
          refine wpAnyIn_take (i := 8) (v := ?_) rfl rfl (by kernel_rfl) (by kernel_rfl) (by kernel_rfl) (fun _ _ _ h => h) ⟨Or.inl ⟨by rfl, ?_⟩, fun _ => rfl⟩ ?_
          rotate_left
          · intro w; go_simp <;> with_reducible rfl
          refine wpAnyIn_take (i := 9) (v := ?_) rfl rfl (by kernel_rfl) (by kernel_rfl) (by kernel_rfl) (fun _ _ _ h => h) ⟨Or.inl ⟨by rfl, ?_⟩, fun _ => rfl⟩ ?_
          rotate_left
          · intro w; go_simp <;> with_reducible rfl
          refine wpAnyIn_ready (rs := [10]) (by kernel_rfl) (by simp) ?_
          refine AllReadyIn.cons rfl (fun K hK => ?_) ?_
          · go_simp
            refine hK _ _ ?_
            clear hK K
            refine wpAnyIn_done (by kernel_rfl) ?_ _
            refine NoPanic.normal ?_
            gi_wp2
            exact F.out
          exact AllReadyIn.nil
        exact AllReadyIn.nil
      exact AllReadyIn.nil
    refine AllReadyIn.cons rfl (fun K hK => ?_) ?_
    · go_simp
      refine hK _ _ ?_
      clear hK K
      refine wpAnyIn_take (i := 3) (v := ?_) rfl rfl (by kernel_rfl) (by kernel_rfl) (by kernel_rfl) (fun _ _ _ h => h) ⟨Or.inl ⟨by rfl, ?_⟩, fun _ => rfl⟩ ?_
      rotate_left
      · intro w; go_simp <;> with_reducible rfl
      refine wpAnyIn_take (i := 5) (v := ?_) rfl rfl (by kernel_rfl) (by kernel_rfl) (by kernel_rfl) (fun _ _ _ h => h) ⟨Or.inl ⟨by rfl, ?_⟩, fun _ => rfl⟩ ?_
      rotate_left
      · intro w; go_simp <;> with_reducible rfl
      refine wpAnyIn_ready (rs := [0, 6]) (by kernel_rfl) (by simp) ?_
      refine AllReadyIn.cons rfl (fun K hK => ?_) ?_
      · go_simp
        refine hK _ _ ?_
        clear hK K
        refine wpAnyIn_ready (rs := [6]) (by kernel_rfl) (by simp) ?_
        refine AllReadyIn.cons rfl (fun K hK => ?_) ?_
        · go_simp
          refine hK _ _ ?_
          clear hK K
          refine wpAnyIn_take (i := 7) (v := ?_) rfl rfl (by kernel_rfl) (by kernel_rfl) (by kernel_rfl) (fun _ _ _ h => h) ⟨Or.inl ⟨by rfl, ?_⟩, fun _ => rfl⟩ ?_
          rotate_left
          · intro w; go_simp <;> with_reducible rfl
          refine wpAnyIn_take (i := 8) (v := ?_) rfl rfl (by kernel_rfl) (by kernel_rfl) (by kernel_rfl) (fun _ _ _ h => h) ⟨Or.inl ⟨by rfl, ?_⟩, fun _ => rfl⟩ ?_
          rotate_left
          · intro w; go_simp <;> with_reducible rfl
          refine wpAnyIn_take (i := 9) (v := ?_) rfl rfl (by kernel_rfl) (by kernel_rfl) (by kernel_rfl) (fun _ _ _ h => h) ⟨Or.inl ⟨by rfl, ?_⟩, fun _ => rfl⟩ ?_
          rotate_left
          · intro w; go_simp <;> with_reducible rfl
          refine wpAnyIn_ready (rs := [10]) (by kernel_rfl) (by simp) ?_
          refine AllReadyIn.cons rfl (fun K hK => ?_) ?_
          · go_simp
            refine hK _ _ ?_
            clear hK K
            refine wpAnyIn_done (by kernel_rfl) ?_ _
            refine NoPanic.normal ?_
            gi_wp2
            exact F.out
          exact AllReadyIn.nil
        exact AllReadyIn.nil
      refine AllReadyIn.cons rfl (fun K hK => ?_) ?_
      · go_simp
        refine hK _ _ ?_
        clear hK K
        refine wpAnyIn_take (i := 7) (v := ?_) rfl rfl (by kernel_rfl) (by kernel_rfl) (by kernel_rfl) (fun _ _ _ h => h) ⟨Or.inl ⟨by rfl, ?_⟩, fun _ => rfl⟩ ?_
        rotate_left
        · intro w; go_simp <;> with_reducible rfl
        refine wpAnyIn_take (i := 8) (v := ?_) rfl rfl (by kernel_rfl) (by kernel_rfl) (by kernel_rfl) (fun _ _ _ h => h) ⟨Or.inl ⟨by rfl, ?_⟩, fun _ => rfl⟩ ?_
        rotate_left
        · intro w; go_simp <;> with_reducible rfl
        refine wpAnyIn_ready (rs := [0]) (by kernel_rfl) (by simp) ?_
        refine AllReadyIn.cons rfl (fun K hK => ?_) ?_
        · go_simp
          refine hK _ _ ?_
          clear hK K
          refine wpAnyIn_take (i := 9) (v := ?_) rfl rfl (by kernel_rfl) (by kernel_rfl) (by kernel_rfl) (fun _ _ _ h => h) ⟨Or.inl ⟨by rfl, ?_⟩, fun _ => rfl⟩ ?_
          rotate_left
          · intro w; go_simp <;> with_reducible rfl
          refine wpAnyIn_ready (rs := [10]) (by kernel_rfl) (by simp) ?_
          refine AllReadyIn.cons rfl (fun K hK => ?_) ?_
          · go_simp
            refine hK _ _ ?_
            clear hK K
            refine wpAnyIn_done (by kernel_rfl) ?_ _
            refine NoPanic.normal ?_
            gi_wp2
            exact F.out
          exact AllReadyIn.nil
        exact AllReadyIn.nil
      exact AllReadyIn.nil
    refine AllReadyIn.cons rfl (fun K hK => ?_) ?_
    · go_simp
      refine hK _ _ ?_
      clear hK K
      refine wpAnyIn_ready (rs := [0, 2]) (by kernel_rfl) (by simp) ?_
      refine AllReadyIn.cons rfl (fun K hK => ?_) ?_
      · go_simp
        refine hK _ _ ?_
        clear hK K
        refine wpAnyIn_ready (rs := [2]) (by kernel_rfl) (by simp) ?_
        refine AllReadyIn.cons rfl (fun K hK => ?_) ?_
        · go_simp
          refine hK _ _ ?_
          clear hK K
          refine wpAnyIn_take (i := 3) (v := ?_) rfl rfl (by kernel_rfl) (by kernel_rfl) (by kernel_rfl) (fun _ _ _ h => h) ⟨Or.inl ⟨by rfl, ?_⟩, fun _ => rfl⟩ ?_
          rotate_left
          · intro w; go_simp <;> with_reducible rfl
          refine wpAnyIn_take (i := 5) (v := ?_) rfl rfl (by kernel_rfl) (by kernel_rfl) (by kernel_rfl) (fun _ _ _ h => h) ⟨Or.inl ⟨by rfl, ?_⟩, fun _ => rfl⟩ ?_
          rotate_left
          · intro w; go_simp <;> with_reducible rfl
          refine wpAnyIn_take (i := 7) (v := ?_) rfl rfl (by kernel_rfl) (by kernel_rfl) (by kernel_rfl) (fun _ _ _ h => h) ⟨Or.inl ⟨by rfl, ?_⟩, fun _ => rfl⟩ ?_
          rotate_left
          · intro w; go_simp <;> with_reducible rfl
          refine wpAnyIn_take (i := 8) (v := ?_) rfl rfl (by kernel_rfl) (by kernel_rfl) (by kernel_rfl) (fun _ _ _ h => h) ⟨Or.inl ⟨by rfl, ?_⟩, fun _ => rfl⟩ ?_
          rotate_left
          · intro w; go_simp <;> with_reducible rfl
          refine wpAnyIn_take (i := 9) (v := ?_) rfl rfl (by kernel_rfl) (by kernel_rfl) (by kernel_rfl) (fun _ _ _ h => h) ⟨Or.inl ⟨by rfl, ?_⟩, fun _ => rfl⟩ ?_
          rotate_left
          · intro w; go_simp <;> with_reducible rfl
          refine wpAnyIn_ready (rs := [10]) (by kernel_rfl) (by simp) ?_
          refine AllReadyIn.cons rfl (fun K hK => ?_) ?_
          · go_simp
            refine hK _ _ ?_
            clear hK K
            refine wpAnyIn_done (by kernel_rfl) ?_ _
            refine NoPanic.normal ?_
            gi_wp2
            exact F.out
          exact AllReadyIn.nil
        exact AllReadyIn.nil
      refine AllReadyIn.cons rfl (fun K hK => ?_) ?_
      · go_simp
        refine hK _ _ ?_
        clear hK K
        refine wpAnyIn_take (i := 3) (v := ?_) rfl rfl (by kernel_rfl) (by kernel_rfl) (by kernel_rfl) (fun _ _ _ h => h) ⟨Or.inl ⟨by rfl, ?_⟩, fun _ => rfl⟩ ?_
        rotate_left
        · intro w; go_simp <;> with_reducible rfl
        refine wpAnyIn_take (i := 5) (v := ?_) rfl rfl (by kernel_rfl) (by kernel_rfl) (by kernel_rfl) (fun _ _ _ h => h) ⟨Or.inl ⟨by rfl, ?_⟩, fun _ => rfl⟩ ?_
        rotate_left
        · intro w; go_simp <;> with_reducible rfl
        refine wpAnyIn_take (i := 7) (v := ?_) rfl rfl (by kernel_rfl) (by kernel_rfl) (by kernel_rfl) (fun _ _ _ h => h) ⟨Or.inl ⟨by rfl, ?_⟩, fun _ => rfl⟩ ?_
        rotate_left
        · intro w; go_simp <;> with_reducible rfl
        refine wpAnyIn_take (i := 8) (v := ?_) rfl rfl (by kernel_rfl) (by kernel_rfl) (by kernel_rfl) (fun _ _ _ h => h) ⟨Or.inl ⟨by rfl, ?_⟩, fun _ => rfl⟩ ?_
        rotate_left
        · intro w; go_simp <;> with_reducible rfl
        refine wpAnyIn_ready (rs := [0]) (by kernel_rfl) (by simp) ?_
        refine AllReadyIn.cons rfl (fun K hK => ?_) ?_
        · go_simp
          refine hK _ _ ?_
          clear hK K
          refine wpAnyIn_take (i := 9) (v := ?_) rfl rfl (by kernel_rfl) (by kernel_rfl) (by kernel_rfl) (fun _ _ _ h => h) ⟨Or.inl ⟨by rfl, ?_⟩, fun _ => rfl⟩ ?_
          rotate_left
          · intro w; go_simp <;> with_reducible rfl
          refine wpAnyIn_ready (rs := [10]) (by kernel_rfl) (by simp) ?_
          refine AllReadyIn.cons rfl (fun K hK => ?_) ?_
          · go_simp
            refine hK _ _ ?_
            clear hK K
            refine wpAnyIn_done (by kernel_rfl) ?_ _
            refine NoPanic.normal ?_
            gi_wp2
            exact F.out
          exact AllReadyIn.nil
        exact AllReadyIn.nil
      exact AllReadyIn.nil
    exact AllReadyIn.nil
  case done =>
    rintro D ys W hD hys ⟨⟨e0, e2, e3, g3, hrw⟩, hsW, hBw⟩ hK
    obtain ⟨hv, dg⟩ := hend.out ys hys
    have hql := (dnF_bd (p := p) hxd ys.length ys rfl).1
    generalize dnF zs p ys = st at *
    obtain ⟨qs, r⟩ := st
    dsimp only at *
    have O : OI W w.heap.size (some ⟨w.heap.size + 1, 0, none⟩) (len - P) qs := ⟨digs_fits dg, by omega, by unfold maxLen; omega, .inr ⟨_, rfl, by omega, hrw⟩⟩
    have T := hd (iTrimO _ _ _ _ W O dg)
    rw [hv, hql] at T
    have hDl : D < W.heap.size := (Array.getElem?_eq_some_iff.1 hK).1
    clear hend hv dg hrw O
    gi_wp2_with (refine ⟨trivial, ?_⟩; first | (gi_at_call 78; refine (callsIn_wide.2 T.out).mono ?_; rintro e wT ⟨⟨av, cv, rfl, hO⟩, hbT⟩))
    have hK2 := (hbT.5 D hDl).trans hK
    refine ⟨by simp, .inl ⟨_, _, rfl, run_takeDeferred hK2, ?_⟩⟩
    refine ⟨.slice av (natL Q).length cv, ?_, ⟨_, _, rfl, ?_⟩, ?_⟩
    · simp [results, Tryd.f82, go_sem]
    · exact oi_kept hO (grownBy_putObj' _ D (.deferred none)) (fun r e => by cases e; exact ⟨_, hK2, rfl⟩)
    · exact (old_trans hBw hbT).trans (belowK_b (w := w) (Nat.le_refl _) _ D _ _ (by omega) hK2 rfl rfl)
  case stop =>
    rintro D c pre W hD _ h hK
    exact h.elim
end Go.Proofs.YtpamnpdigoikoaaDoor
