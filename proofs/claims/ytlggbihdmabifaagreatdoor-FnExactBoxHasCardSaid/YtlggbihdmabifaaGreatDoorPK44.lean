/- Whether a point lies in a box, by the program and by the specification. Conditions, of the program: the library's table and its handle of errors lie as their texts lay them. Nothing that was there is written. -/
import Derived.Test.YtlggbihdmabifaaGreatDoorPK17
import Derived.Test.YtlggbihdmabifaaGreatDoorPK35
import Derived.Test.YtlggbihdmabifaaGreatDoorPK43
import Derived.Deep.DeepCutAuto
namespace Go.Proofs.YtlggbihdmabifaaGreatDoor
open Go.RowKit
set_option linter.unusedVariables false
set_option maxRecDepth 100000

def atB (wd : Int) (ps : List (Int × Int)) (fs : List Fe) (k : Nat) : Bool := phB wd (ps.getD k (0, 0)).1 (ps.getD k (0, 0)).2 (fs.getD k fe0).b (fs.getD k fe0).xs (fs.getD k fe0).ys
def bhB (wd : Int) (ps : List (Int × Int)) (fs : List Fe) : Bool := okRow wd ps && (decide (fs.length = ps.length) && (List.range ps.length).all (atB wd ps fs))
theorem bhB_no {wd : Int} {ps : List (Int × Int)} {fs : List Fe} (h : okRow wd ps = false) : bhB wd ps fs = false := by unfold bhB; rw [h]; rfl
theorem bhB_len {wd : Int} {ps : List (Int × Int)} {fs : List Fe} (h : fs.length ≠ ps.length) : bhB wd ps fs = false := by unfold bhB; simp [h]
theorem bhB_out {wd : Int} {ps : List (Int × Int)} {fs : List Fe} {k : Nat} (hk : k < ps.length) (h : atB wd ps fs k = false) : bhB wd ps fs = false := by
  unfold bhB
  have : (List.range ps.length).all (atB wd ps fs) = false := List.all_eq_false.2 ⟨k, List.mem_range.2 hk, by simp [h]⟩
  simp [this]
theorem bhB_in {wd : Int} {ps : List (Int × Int)} {fs : List Fe} (h : okRow wd ps = true) (hl : fs.length = ps.length) (ha : ∀ k, k < ps.length → atB wd ps fs k = true) : bhB wd ps fs = true := by
  unfold bhB
  rw [h, List.all_eq_true.2 (fun k hk => ha k (List.mem_range.1 hk))]
  simp [hl]
theorem bhB_same {wd : Int} {ps : List (Int × Int)} {fs gs : List Fe} (h : UpF fs.length gs fs) : bhB wd ps gs = bhB wd ps fs := by
  unfold bhB
  rw [h.1]
  by_cases hl : fs.length = ps.length
  · have : (List.range ps.length).all (atB wd ps gs) = (List.range ps.length).all (atB wd ps fs) := by
      rw [Bool.eq_iff_iff, List.all_eq_true, List.all_eq_true]
      refine forall_congr' fun k => forall_congr' fun hk => ?_
      obtain ⟨e1, e2, e3⟩ := h.2 k (by rw [hl]; exact List.mem_range.1 hk)
      unfold atB
      rw [e1, e2, e3]
    rw [this]
  · simp [hl]
set_option maxRecDepth 100000 in
set_option maxHeartbeats 4000000 in
theorem sBoxHas (wd : Int) (a : Option Addr) (len cap : Nat) (ps : List (Int × Int)) (a' : Option Addr) (len' cap' : Nat) (fs : List Fe) (w : World) (hR : InRow w a len cap ps) (hF : InF w a' len' cap' fs) :
    Calls Tryz.prog 6 #[.int .i64 wd, .agg #[.slice a len cap], .slice a' len' cap'] w fun e w' => e = .returned (.bool (bhB wd ps fs)) ∧ Below w.heap.size w w' := by
  have hB : Below w.heap.size w (w.alloc (.cells #[.slice a len cap] 31)) := (by repeat (first | exact Below.refl _ _ | refine Below.drew ?_ | refine old_alloc ?_ _ | refine old_trans ?_ (by assumption)))
  have K : Cel1 (w.alloc (.cells #[.slice a len cap] 31)) w.heap.size (.slice a len cap) := Cel1.made w _ rfl _ _
  have hl := hd hR.1
  have hl' := hd hF.1
  have hlen : len ≤ maxLen := Nat.le_trans hR.2.1 hR.2.2.1
  have hlen' : len' ≤ maxLen := Nat.le_trans hF.2.1 hF.2.2.1
  unfold maxLen at hlen hlen'
  have OK := hd (fun W (h : Below w.heap.size w W) => sBoxOk wd a len cap ps W (hR.old h))
  cases hok : okRow wd ps
  · rw [hok] at OK
    rw [bhB_no hok]
    clear hok
    go_enter Tryz.func6, Tryz.ntmps6
    go_upto_region 1 with fail
    generalize w.alloc (.cells #[.slice a len cap] 31) = W at *
    obtain ⟨k0, k1, k2⟩ := id K
    go_wp2_with fail
    refine (OK.out _ hB).mono ?_
    rintro e w1 ⟨rfl, hb1⟩
    go_wp2
    go_ret
    exact ⟨rfl, old_trans hB hb1⟩
  rw [hok] at OK
  by_cases hne : len' = len
  case neg =>
    rw [bhB_len (by rw [hl'.out, hl.out]; exact hne)]
    have hneI : ¬ (len' : Int) = (len : Int) := by omega
    have g0 : ((len' : Int) == (len : Int)) = false := beq_eq_false_iff_ne.2 hneI
    clear hok hne
    go_enter Tryz.func6, Tryz.ntmps6
    go_upto_region 1 with fail
    generalize w.alloc (.cells #[.slice a len cap] 31) = W at *
    obtain ⟨k0, k1, k2⟩ := id K
    go_wp2_with fail
    refine (OK.out _ hB).mono ?_
    rintro e w1 ⟨rfl, hb1⟩
    have k0 := (K.later hb1).1
    go_wp2
    go_ret
    exact ⟨rfl, old_trans hB hb1⟩
  subst hne
  obtain ⟨R, hRR⟩ : ∃ R, R = bhB wd ps fs := ⟨_, rfl⟩
  have yes : Hid ((∀ k, k < len' → atB wd ps fs k = true) → R = true) := fun h => by rw [hRR]; exact bhB_in hok (by rw [hl'.out, hl.out]) (fun k hk => h k (by rw [← hl.out]; exact hk))
  have no : Hid (∀ k, k < len' → atB wd ps fs k = false → R = false) := fun k hk h => by rw [hRR]; exact bhB_out (by rw [hl.out]; exact hk) h
  rw [← hRR]
  clear hok hRR hl hl'
  replace hR := hR.old hB
  replace hF := hF.old hB
  go_enter Tryz.func6, Tryz.ntmps6
  go_upto_region 1 with fail
  generalize w.alloc (.cells #[.slice a len' cap] 31) = W at *
  obtain ⟨k0, k1, k2⟩ := id K
  go_wp2_with fail
  refine (OK.out _ hB).mono ?_
  rintro e w1 ⟨rfl, hb1⟩
  replace hR := hR.old hb1
  replace hF := hF.old hb1
  replace K := K.later hb1
  replace hB := old_trans hB hb1
  clear k0 k1 k2 hb1 OK
  have k0 := K.1
  go_wp2_with fail
  clear k0
  go_loopw [7] (fun x wr => ∃ j : Nat, j ≤ len' ∧ x = .int .i64 j ∧ Hid (∀ k, k < j → atB wd ps fs k = true) ∧ Below w1.heap.size w1 wr) (fun x _ => len' - (intOf x).toNat)
  case atStart => exact ⟨0, by omega, rfl, fun q h => by omega, Below.refl _ _⟩
  case round =>
    obtain ⟨j, hj, rfl, hall, hb⟩ := hrel
    by_cases hlt : j < len'
    · obtain ⟨b, off, lo, hi, rfl, hbl, hx, -, c0, c1⟩ := (hR.old hb).at hlt
      obtain ⟨b', off', f, rfl, hbl', hx', hf, d0, d1, d2⟩ := (hF.old hb).at hlt
      have g0 := (K.later hb).1
      have hav : atB wd ps fs j = phB wd lo hi f.b f.xs f.ys := by unfold atB; rw [hx, hx']
      have yj := no.out j hlt
      rw [hav] at yj
      have sj : Hid (phB wd lo hi f.b f.xs f.ys = true → ∀ k, k < j + 1 → atB wd ps fs k = true) := fun h k hk => by
        by_cases e : k = j
        · rw [e, hav]; exact h
        · exact hall.out k (by omega)
      replace yj := hd yj
      have PH := hd (fun W' (h : Below wr.heap.size wr W') => sPairHas wd lo hi f.b f.a f.a' _ _ f.c f.c' f.xs f.ys W' (hf.1.old h) (hf.2.old h))
      have hc : Below wr.heap.size wr wr := Below.refl _ _
      have hjI : (j : Int) < (len' : Int) := by omega
      have hj0 : (0 : Int) ≤ (j : Int) := by omega
      have g1 := c0
      have g2 := c1
      have g3 := d0
      have g4 := d1
      have g5 := d2
      generalize phB wd lo hi f.b f.xs f.ys = r at *
      clear hx hx' hf hav hall c0 c1 d0 d1 d2
      go_upto_region 6 with fail
      go_region_held3 (fun w' => w'.cell? ⟨w.heap.size, 0, none⟩ = some (.slice (some ⟨b, off, none⟩) len' cap) ∧ w'.cell? ⟨b, off + j * 2, none⟩ = some (.int .i64 lo) ∧ w'.cell? ⟨b, off + j * 2 + 1, none⟩ = some (.int .i64 hi) ∧ w'.cell? ⟨b', off' + j * 3, none⟩ = some (.bool f.b) ∧ w'.cell? ⟨b', off' + j * 3 + 1, none⟩ = some (.slice f.a f.xs.length f.c) ∧ w'.cell? ⟨b', off' + j * 3 + 2, none⟩ = some (.slice f.a' f.ys.length f.c')) (go_keep) (first | (go_at_call 15; refine (PH.out _ (by with_reducible first | exact hc | exact Below.drew hc)).mono ?_; rintro e w1 ⟨rfl, hb1⟩; have p0 := (hb1.cell (World.block_lt_of_cell? _ _ g0)).trans g0; have p1 := (hb1.cell (World.block_lt_of_cell? _ _ g1)).trans g1; have p2 := (hb1.cell (World.block_lt_of_cell? _ _ g2)).trans g2; have p3 := (hb1.cell (World.block_lt_of_cell? _ _ g3)).trans g3; have p4 := (hb1.cell (World.block_lt_of_cell? _ _ g4)).trans g4; have p5 := (hb1.cell (World.block_lt_of_cell? _ _ g5)).trans g5))
      all_goals
        have hbb := old_trans (Below.drew hb) hb1
        cases r
        case false =>
          have e0 := hd (yj.out rfl)
          go_wp2
          go_ret
          exact ⟨by rw [e0.out]; rfl, old_trans hB hbb⟩
        case true =>
          have e1 := hd (sj.out rfl)
          go_wp2
          go_roundw
          case rel => exact ⟨j + 1, by omega, by go_num, e1, hbb⟩
          case measure => simp [intOf]; omega
    · obtain rfl : j = len' := by omega
      have e1 := hd (yes.out hall.out)
      go_wp2
      go_ret
      exact ⟨by rw [e1.out]; rfl, old_trans hB hb⟩
set_option maxRecDepth 100000 in
set_option maxHeartbeats 4000000 in
theorem iBoxHas1 (wd : Int) (a : Option Addr) (len cap : Nat) (ps : List (Int × Int)) (a' : Option Addr) (cap' : Nat) (fs : List Fe) (B0 B1 B2 k : Nat) (hk : k < len) (W : World) (hR : InRow W a len cap ps) (hF : InF W a' len cap' fs)
    (h0 : W.cell? ⟨B0, 0, none⟩ = some (.int .i64 wd)) (h1 : W.cell? ⟨B1, 0, none⟩ = some (.slice a len cap)) (h2 : W.cell? ⟨B2, 0, none⟩ = some (.slice a' len cap')) (hT : Tab W) (hE : ET W) :
    Calls Tryz.prog 20 #[.int .i64 (k : Int), .pointer (some ⟨B0, 0, none⟩), .pointer (some ⟨B1, 0, none⟩), .pointer (some ⟨B2, 0, none⟩)] W fun e w' => e = .returned (.bool (!atB wd ps fs k)) ∧ Below W.heap.size W w' := by
  obtain ⟨b, off, lo, hi, rfl, hbl, hx, -, c0, c1⟩ := hR.at hk
  obtain ⟨b', off', f, rfl, hbl', hx', hf, d0, d1, d2⟩ := hF.at hk
  have hav : atB wd ps fs k = phB wd lo hi f.b f.xs f.ys := by unfold atB; rw [hx, hx']
  rw [hav]
  have PH := hd (fun W' (h : Below W.heap.size W W') => iPairHas wd lo hi f.b f.a f.a' _ _ f.c f.c' f.xs f.ys W' (hf.1.old h) (hf.2.old h) (hT.old h) (hE.old h))
  have hc : Below W.heap.size W W := Below.refl _ _
  have hjI : (k : Int) < (len : Int) := by omega
  have hj0 : (0 : Int) ≤ (k : Int) := by omega
  have g0 := h0
  have g1 := h1
  have g2 := h2
  have g3 := c0
  have g4 := c1
  have g5 := d0
  have g6 := d1
  have g7 := d2
  generalize phB wd lo hi f.b f.xs f.ys = r at *
  clear hx hx' hf hav c0 c1 d0 d1 d2 hR hF h0 h1 h2 hT hE
  go_enter Tryz.func20, Tryz.ntmps20
  go_upto_region 1 with fail
  go_region_held3 (fun w' => w'.cell? ⟨B0, 0, none⟩ = some (.int .i64 wd) ∧ w'.cell? ⟨B1, 0, none⟩ = some (.slice (some ⟨b, off, none⟩) len cap) ∧ w'.cell? ⟨B2, 0, none⟩ = some (.slice (some ⟨b', off', none⟩) len cap') ∧ w'.cell? ⟨b, off + k * 2, none⟩ = some (.int .i64 lo) ∧ w'.cell? ⟨b, off + k * 2 + 1, none⟩ = some (.int .i64 hi) ∧ w'.cell? ⟨b', off' + k * 3, none⟩ = some (.bool f.b) ∧ w'.cell? ⟨b', off' + k * 3 + 1, none⟩ = some (.slice f.a f.xs.length f.c) ∧ w'.cell? ⟨b', off' + k * 3 + 2, none⟩ = some (.slice f.a' f.ys.length f.c')) (go_keep) (first | (go_at_call 21; refine (PH.out _ (by with_reducible first | exact hc | exact Below.drew hc)).mono ?_; rintro e w1 ⟨rfl, hb1⟩; have p0 := (hb1.cell (World.block_lt_of_cell? _ _ g0)).trans g0; have p1 := (hb1.cell (World.block_lt_of_cell? _ _ g1)).trans g1; have p2 := (hb1.cell (World.block_lt_of_cell? _ _ g2)).trans g2; have p3 := (hb1.cell (World.block_lt_of_cell? _ _ g3)).trans g3; have p4 := (hb1.cell (World.block_lt_of_cell? _ _ g4)).trans g4; have p5 := (hb1.cell (World.block_lt_of_cell? _ _ g5)).trans g5; have p6 := (hb1.cell (World.block_lt_of_cell? _ _ g6)).trans g6; have p7 := (hb1.cell (World.block_lt_of_cell? _ _ g7)).trans g7))
  all_goals
    have hbb := old_trans (Below.drew hc) hb1
    go_wp2
    go_ret
    exact ⟨rfl, hbb⟩
theorem has_first {wd : Int} {ps : List (Int × Int)} {fs : List Fe} (h : okRow wd ps = true) (hl : fs.length = ps.length) : decide (firstI ps.length (fun k => !atB wd ps fs k) < 0) = bhB wd ps fs := by
  rw [firstI_neg]
  cases q : (List.range ps.length).all (fun k => !(!atB wd ps fs k))
  · rw [List.all_eq_false] at q
    obtain ⟨k, hk, hn⟩ := q
    rw [List.mem_range] at hk
    rw [bhB_out hk (by simpa only [Bool.not_not, Bool.not_eq_true] using hn)]
  · rw [List.all_eq_true] at q
    rw [bhB_in h hl (fun k hk => by simpa using q k (List.mem_range.2 hk))]
set_option maxRecDepth 100000 in
set_option maxHeartbeats 4000000 in
theorem iBoxHas (wd : Int) (a : Option Addr) (len cap : Nat) (ps : List (Int × Int)) (a' : Option Addr) (len' cap' : Nat) (fs : List Fe) (w : World) (hR : InRow w a len cap ps) (hF : InF w a' len' cap' fs) (hT : Tab w) (hE : ET w) :
    Calls Tryz.prog 9 #[.int .i64 wd, .agg #[.slice a len cap], .slice a' len' cap'] w fun e w' => e = .returned (.bool (bhB wd ps fs)) ∧ Below w.heap.size w w' := by
  have hB : Below w.heap.size w (((w.alloc (.cells #[.int .i64 wd] 3)).alloc (.cells #[.slice a len cap] 31)).alloc (.cells #[.slice a' len' cap'] 33)) := (by repeat (first | exact Below.refl _ _ | refine Below.drew ?_ | refine old_alloc ?_ _ | refine old_trans ?_ (by assumption)))
  have K0 : Cel1 (((w.alloc (.cells #[.int .i64 wd] 3)).alloc (.cells #[.slice a len cap] 31)).alloc (.cells #[.slice a' len' cap'] 33)) w.heap.size (.int .i64 wd) := ((Cel1.made w _ rfl _ _).alloc _).alloc _
  have K1 : Cel1 (((w.alloc (.cells #[.int .i64 wd] 3)).alloc (.cells #[.slice a len cap] 31)).alloc (.cells #[.slice a' len' cap'] 33)) (w.heap.size + 1) (.slice a len cap) := (Cel1.made _ _ (by simp) _ _).alloc _
  have K2 : Cel1 (((w.alloc (.cells #[.int .i64 wd] 3)).alloc (.cells #[.slice a len cap] 31)).alloc (.cells #[.slice a' len' cap'] 33)) (w.heap.size + 1 + 1) (.slice a' len' cap') := Cel1.made _ _ (by simp) _ _
  have hl := hR.1
  have hl' := hd hF.1
  have hlen : len ≤ maxLen := Nat.le_trans hR.2.1 hR.2.2.1
  have hlen' : len' ≤ maxLen := Nat.le_trans hF.2.1 hF.2.2.1
  have hlenM := hlen
  unfold maxLen at hlen hlen'
  have OK := hd (fun W (h : Below w.heap.size w W) => iBoxOk wd a len cap ps W (hR.old h))
  cases hok : okRow wd ps
  · rw [hok] at OK
    rw [bhB_no hok]
    clear hok hl
    go_enter Tryz.func9, Tryz.ntmps9
    go_upto_region 1 with fail
    generalize ((w.alloc (.cells #[.int .i64 wd] 3)).alloc (.cells #[.slice a len cap] 31)).alloc (.cells #[.slice a' len' cap'] 33) = W at *
    have k0 := K0.1
    have k1 := K1.1
    go_wp2_with fail
    refine (OK.out _ hB).mono ?_
    rintro e w1 ⟨rfl, hb1⟩
    go_wp2
    go_ret
    exact ⟨rfl, old_trans hB hb1⟩
  rw [hok] at OK
  by_cases hne : len' = len
  case neg =>
    rw [bhB_len (by rw [hl'.out, hl]; exact hne)]
    have hneI : ¬ (len' : Int) = (len : Int) := by omega
    have g0 : ((len' : Int) == (len : Int)) = false := beq_eq_false_iff_ne.2 hneI
    clear hok hne hl
    go_enter Tryz.func9, Tryz.ntmps9
    go_upto_region 1 with fail
    generalize ((w.alloc (.cells #[.int .i64 wd] 3)).alloc (.cells #[.slice a len cap] 31)).alloc (.cells #[.slice a' len' cap'] 33) = W at *
    have k0 := K0.1
    have k1 := K1.1
    go_wp2_with fail
    refine (OK.out _ hB).mono ?_
    rintro e w1 ⟨rfl, hb1⟩
    have k1 := (K1.later hb1).1
    have k2 := (K2.later hb1).1
    go_wp2
    go_ret
    exact ⟨rfl, old_trans hB hb1⟩
  subst hne
  have hz := has_first (fs := fs) hok (by rw [hl'.out, hl])
  rw [hl] at hz
  replace hR := hR.old hB
  replace hF := hF.old hB
  replace hT := hT.old hB
  replace hE := hE.old hB
  have H := hd (fun (V : World) (h : Below (((w.alloc (.cells #[.int .i64 wd] 3)).alloc (.cells #[.slice a len' cap] 31)).alloc (.cells #[.slice a' len' cap'] 33)).heap.size (((w.alloc (.cells #[.int .i64 wd] 3)).alloc (.cells #[.slice a len' cap] 31)).alloc (.cells #[.slice a' len' cap'] 33)) V) => coordThat 20 #[.pointer (some ⟨w.heap.size, 0, none⟩), .pointer (some ⟨w.heap.size + 1, 0, none⟩), .pointer (some ⟨w.heap.size + 1 + 1, 0, none⟩)] a len' cap hlenM (fun k => !atB wd ps fs k) V (enters_of Tryz.func20 (by kernel_rfl) rfl)
    (fun k W hk hW => iBoxHas1 wd a len' cap ps a' cap' fs w.heap.size (w.heap.size + 1) (w.heap.size + 1 + 1) k hk W (hR.old (old_trans h hW)) (hF.old (old_trans h hW)) (K0.later (old_trans h hW)).1 (K1.later (old_trans h hW)).1 (K2.later (old_trans h hW)).1 (hT.old (old_trans h hW)) (hE.old (old_trans h hW))))
  generalize firstI len' _ = r at *
  rw [← hz]
  clear hok hz hl hR hF hT hE
  go_enter Tryz.func9, Tryz.ntmps9
  go_upto_region 1 with fail
  generalize ((w.alloc (.cells #[.int .i64 wd] 3)).alloc (.cells #[.slice a len' cap] 31)).alloc (.cells #[.slice a' len' cap'] 33) = W at *
  have k0 := K0.1
  have k1 := K1.1
  go_wp2_with fail
  refine (OK.out _ hB).mono ?_
  rintro e w1 ⟨rfl, hb1⟩
  have k1 := (K1.later hb1).1
  have k2 := (K2.later hb1).1
  have k3 := (K0.later hb1).1
  go_wp2_with fail
  refine (H.out _ hb1).mono ?_
  rintro e w2 ⟨rfl, hb2⟩
  go_wp2
  go_ret
  exact ⟨rfl, old_trans (old_trans hB hb1) hb2⟩
end Go.Proofs.YtlggbihdmabifaaGreatDoor
