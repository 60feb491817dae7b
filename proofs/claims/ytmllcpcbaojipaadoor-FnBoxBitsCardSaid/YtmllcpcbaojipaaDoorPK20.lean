/- BoxOf of the program and of the specification. Conditions, of the program: the library's handle of errors lies as its text lays it. Nothing that was there is written. -/
import Derived.Test.YtmllcpcbaojipaaDoorPK02
import Derived.Test.YtmllcpcbaojipaaDoorPK19
import Derived.Test.YtmllcpcbaojipaaDoorPK16
import Derived.Test.YtmllcpcbaojipaaDoorPK17
import Derived.Test.YtmllcpcbaojipaaDoorPK06
namespace Go.Proofs.YtmllcpcbaojipaaDoor
open Go.RowKit
set_option linter.unusedVariables false
set_option maxRecDepth 100000

def ordW (wd b : Int) : Int := if wd = 32 then ordN 2147483648 2139095040 b else ordN 9223372036854775808 9218868437227405312 b
def ordK (wd b : Int) : Bool := if wd = 32 then ordB 2147483648 2139095040 b else ordB 9223372036854775808 9218868437227405312 b
def ofX (wd : Int) (xs : List Int) (k : Nat) : Int := ordW wd (xs.getD (2 * k) 0)
def ofY (wd : Int) (xs : List Int) (k : Nat) : Int := ordW wd (xs.getD (2 * k + 1) 0)
def ofK (wd : Int) (xs : List Int) (k : Nat) : Bool := ordK wd (xs.getD (2 * k) 0) && ordK wd (xs.getD (2 * k + 1) 0)
def ofL (wd : Int) (xs : List Int) : List (Int × Int) := madeL (xs.length / 2) (ofX wd xs) (ofY wd xs)
def ofBad (wd : Int) (xs : List Int) : Prop := (wd ≠ 32 ∧ wd ≠ 64) ∨ xs.length < 2 ∨ 12 < xs.length ∨ xs.length % 2 = 1
instance (wd : Int) (xs : List Int) : Decidable (ofBad wd xs) := by unfold ofBad; infer_instance
def ofC (wd : Int) (xs : List Int) : Int := if ofBad wd xs then 1 else if anyNo (xs.length / 2) (ofK wd xs) then 2 else if okRow wd (ofL wd xs) then 0 else 3
def ofQ (wd : Int) (xs : List Int) : List (Int × Int) := if ofC wd xs = 0 then ofL wd xs else []
theorem ordW_bd (wd b : Int) : -9223372036854775808 ≤ ordW wd b ∧ ordW wd b ≤ 9223372036854775807 := by
  unfold ordW ordN
  have h1 := Int.emod_nonneg b (show (2147483648 : Int) ≠ 0 by decide)
  have h2 := Int.emod_lt_of_pos b (show (0 : Int) < 2147483648 by decide)
  have h3 := Int.emod_nonneg b (show (9223372036854775808 : Int) ≠ 0 by decide)
  have h4 := Int.emod_lt_of_pos b (show (0 : Int) < 9223372036854775808 by decide)
  repeat' split
  all_goals omega
theorem ofL_fits (wd : Int) (xs : List Int) (n : Nat) : Fits (madeL n (ofX wd xs) (ofY wd xs)) := by
  intro p hp
  unfold madeL at hp
  obtain ⟨i, -, rfl⟩ := List.mem_map.1 hp
  exact ⟨ordW_bd _ _, ordW_bd _ _⟩
theorem anyNo_yes {n : Nat} {ok : Nat → Bool} (h : ∃ k, k < n ∧ ok k = false) : anyNo n ok = true := by
  obtain ⟨k, hk, h0⟩ := h
  unfold anyNo
  rw [Bool.not_eq_true', ← Bool.not_eq_true, List.all_eq_true]
  intro h1
  have := h1 k (List.mem_range.2 hk)
  rw [h0] at this; cases this
theorem anyNo_no {n : Nat} {ok : Nat → Bool} (h : ∀ k, k < n → ok k = true) : anyNo n ok = false := by
  unfold anyNo
  rw [Bool.not_eq_false', List.all_eq_true]
  exact fun k hk => h k (List.mem_range.1 hk)
theorem ofC_bad {wd : Int} {xs : List Int} (h : ofBad wd xs) : ofC wd xs = 1 := by unfold ofC; rw [if_pos h]
theorem ofC_no {wd : Int} {xs : List Int} (h : ¬ ofBad wd xs) (k : ∃ k, k < xs.length / 2 ∧ ofK wd xs k = false) : ofC wd xs = 2 := by unfold ofC; rw [if_neg h, anyNo_yes k]; rfl
theorem ofC_or {wd : Int} {xs : List Int} (h : ¬ ofBad wd xs) (k : ∀ k, k < xs.length / 2 → ofK wd xs k = true) (o : okRow wd (ofL wd xs) = false) : ofC wd xs = 3 := by unfold ofC; rw [if_neg h, anyNo_no k, o]; rfl
theorem ofC_ok {wd : Int} {xs : List Int} (h : ¬ ofBad wd xs) (k : ∀ k, k < xs.length / 2 → ofK wd xs k = true) (o : okRow wd (ofL wd xs) = true) : ofC wd xs = 0 := by unfold ofC; rw [if_neg h, anyNo_no k, o]; rfl
theorem ofQ_no {wd : Int} {xs : List Int} (h : ofC wd xs ≠ 0) : ofQ wd xs = [] := by unfold ofQ; rw [if_neg h]
theorem ofQ_ok {wd : Int} {xs : List Int} (h : ofC wd xs = 0) : ofQ wd xs = ofL wd xs := by unfold ofQ; rw [if_pos h]
theorem as_box (c : Int) (W : World) (B : Nat) (hBW : B = W.heap.size) (hg : ET W) : Calls Tryd.prog 18 #[.iface 50 (.agg #[.int .i64 c]), .iface 52 (.pointer (some ⟨B, 0, none⟩))] (W.alloc (.cells #[.int .i64 0] 50)) fun e w' => e = .returned (.bool true) ∧ w'.cell? ⟨B, 0, none⟩ = some (.int .i64 c) ∧ Below W.heap.size W w' := by
  subst hBW
  have h0 : (W.alloc (.cells #[.int .i64 0] 50)).cell? ⟨W.heap.size, 0, none⟩ = some (.int .i64 0) := by simp
  have h1 : (W.alloc (.cells #[.int .i64 0] 50)).frozen? ⟨W.heap.size, 0, none⟩ = false := by simp
  have hw : Below W.heap.size W (W.alloc (.cells #[.int .i64 0] 50)) := old_alloc (Below.refl _ _) _
  generalize W.alloc (.cells #[.int .i64 0] 50) = V at *
  refine (as_hit c ⟨W.heap.size, 0, none⟩ (.int .i64 0) V (hg.old hw) h0 h1).mono ?_
  rintro e w' ⟨rfl, rfl⟩
  have hb : ∀ o1 o2 o3 o4 : Obj, Below V.heap.size V ((((V.alloc o1).alloc o2).alloc o3).alloc o4) := fun o1 o2 o3 o4 => old_alloc (old_alloc (old_alloc (old_alloc (Below.refl _ _) _) _) _) _
  exact ⟨rfl, World.cell?_setCell_same _ _ _ (cell_later (hb _ _ _ _) h0), (old_trans hw (hb _ _ _ _)).setCell (p := ⟨W.heap.size, 0, none⟩) (Nat.le_refl _) _⟩
theorem iOrdW (wd : Int) (hw : wd = 32 ∨ wd = 64) (b : Int) (h : 0 ≤ b ∧ b ≤ 18446744073709551615) (w : World) :
    Calls Tryd.prog 11 #[.int .i64 wd, .int .u64 b] w fun e w' => e = .returned (.tuple #[.int .i64 (ordW wd b), .bool (ordK wd b)]) ∧ Below w.heap.size w w' := by
  rcases hw with rfl | rfl
  · have e1 : ordW 32 b = ordN 2147483648 2139095040 b := by unfold ordW; rw [if_pos rfl]
    have e2 : ordK 32 b = ordB 2147483648 2139095040 b := by unfold ordK; rw [if_pos rfl]
    rw [e1, e2]
    exact iBitOrd_32 b h.1 (by omega) w
  · have e1 : ordW 64 b = ordN 9223372036854775808 9218868437227405312 b := by unfold ordW; rw [if_neg (by decide)]
    have e2 : ordK 64 b = ordB 9223372036854775808 9218868437227405312 b := by unfold ordK; rw [if_neg (by decide)]
    rw [e1, e2]
    exact iBitOrd_64 b h.1 (by omega) w
theorem sOrdW (wd : Int) (hw : wd = 32 ∨ wd = 64) (b : Int) (h : 0 ≤ b ∧ b ≤ 18446744073709551615) (w : World) :
    Calls Tryd.prog 30 #[.int .i64 wd, .int .u64 b] w fun e w' => e = .returned (.tuple #[.int .i64 (ordW wd b), .bool (ordK wd b)]) ∧ Below w.heap.size w w' := by
  rcases hw with rfl | rfl
  · have e1 : ordW 32 b = ordN 2147483648 2139095040 b := by unfold ordW; rw [if_pos rfl]
    have e2 : ordK 32 b = ordB 2147483648 2139095040 b := by unfold ordK; rw [if_pos rfl]
    rw [e1, e2]
    exact sBitOrd_32 b h.1 (by omega) w
  · have e1 : ordW 64 b = ordN 9223372036854775808 9218868437227405312 b := by unfold ordW; rw [if_neg (by decide)]
    have e2 : ordK 64 b = ordB 9223372036854775808 9218868437227405312 b := by unfold ordK; rw [if_neg (by decide)]
    rw [e1, e2]
    exact sBitOrd_64 b h.1 (by omega) w
theorem iFormOfB (wd : Int) (w : World) :
    Calls Tryd.prog 31 #[.int .i64 wd] w fun e w' => (∃ v, e = .returned (.tuple #[v, .bool (decide (wd = 32 ∨ wd = 64))])) ∧ Below w.heap.size w w' := by
  by_cases c1 : wd = 32
  · subst c1; exact (formOf_32 w).mono fun e w' h => ⟨⟨_, h.1⟩, h.2⟩
  by_cases c2 : wd = 64
  · subst c2; exact (formOf_64 w).mono fun e w' h => ⟨⟨_, h.1⟩, h.2⟩
  rw [decide_eq_false (by simp [c1, c2])]
  exact (formOf_no wd w (by simp; omega) (by simp; omega)).mono fun e w' h => ⟨⟨_, h.1⟩, h.2⟩
set_option maxHeartbeats 4000000 in
theorem iFrom1 (wd : Int) (hw : wd = 32 ∨ wd = 64) (a : Option Addr) (len cap : Nat) (xs : List Int) (B C k : Nat) (hk : 2 * k + 1 < len) (w : World) (hR : InU w a len cap xs) (hB : w.cell? ⟨B, 0, none⟩ = some (.int .i64 wd)) (hBl : B < w.heap.size) (hC : w.cell? ⟨C, 0, none⟩ = some (.slice a len cap)) (hCl : C < w.heap.size) :
    Calls Tryd.prog 38 #[.int .i64 (k : Int), .pointer (some ⟨B, 0, none⟩), .pointer (some ⟨C, 0, none⟩)] w fun e w' => e = .returned (.tuple #[.agg #[.int .i64 (ofX wd xs k), .int .i64 (ofY wd xs k)], .bool (ofK wd xs k)]) ∧ Below w.heap.size w w' := by
  have hlen := hR.len
  obtain ⟨b, off, x, rfl, hbl, hx, hxb, c0⟩ := hR.at (k := 2 * k) (by omega)
  obtain ⟨b', off', y, e', -, hy, hyb, c1⟩ := hR.at (k := 2 * k + 1) hk
  injection e' with e'; injection e' with e1 e2; subst e1 e2
  have E1 := hd (iOrdW wd hw x hxb)
  have E2 := hd (iOrdW wd hw y hyb)
  have hX : ofX wd xs k = ordW wd x := by unfold ofX; rw [hx]
  have hY : ofY wd xs k = ordW wd y := by unfold ofY; rw [hy]
  have hK : ofK wd xs k = (ordK wd x && ordK wd y) := by unfold ofK; rw [hx, hy]
  rw [hX, hY, hK]
  clear hX hY hK hx hy hxb hyb hw
  generalize ordW wd x = u at *
  generalize ordW wd y = v at *
  generalize ordK wd x = p at *
  generalize ordK wd y = q at *
  have hw1 : IntKind.i64.wrap (2 * (k : Int)) = ((2 * k : Nat) : Int) := by rw [IntKind.wrap_i64]; omega
  have hw2 : IntKind.i64.wrap (((2 * k : Nat) : Int) + 1) = ((2 * k + 1 : Nat) : Int) := by rw [IntKind.wrap_i64]; omega
  have g1 : (0 : Int) ≤ ((2 * k : Nat) : Int) := by omega
  have g2 : ((2 * k : Nat) : Int) < (len : Int) := by omega
  have g3 : (0 : Int) ≤ ((2 * k + 1 : Nat) : Int) := by omega
  have g4 : ((2 * k + 1 : Nat) : Int) < (len : Int) := by omega
  generalize hm : 2 * k = m at *
  generalize hm2 : m + 1 = m2 at *
  have N : Cel2 (w.alloc (.cells #[.int .i64 0, .int .i64 0] 40)) w.heap.size (.int .i64 0) (.int .i64 0) := Cel2.made w _ rfl _ _ _
  have hb0 : Below w.heap.size w (w.alloc (.cells #[.int .i64 0, .int .i64 0] 40)) := old_alloc (Below.refl _ _) _
  have B0 := cell_later hb0 hB
  have C0 := cell_later hb0 hC
  have d0 := cell_later hb0 c0
  have d1 := cell_later hb0 c1
  clear hB hC c0 c1 hR
  go_enter Tryd.func38, Tryd.ntmps38
  go_wp2_with fail
  generalize w.alloc (.cells #[.int .i64 0, .int .i64 0] 40) = W0 at *
  go_region_held3 (fun w' => w'.cell? ⟨B, 0, none⟩ = some (.int .i64 wd) ∧ w'.cell? ⟨C, 0, none⟩ = some (.slice (some ⟨b, off, none⟩) len cap) ∧ w'.cell? ⟨b, off + m, none⟩ = some (.int .u64 x)) (go_keep) (first | (go_at_call 11; refine (E1.out _).mono ?_; rintro e w1 ⟨rfl, hb1⟩; have hz1 : Below W0.heap.size W0 w1 := (by repeat (first | with_reducible exact Below.refl _ _ | with_reducible refine Below.drew ?_ | with_reducible refine old_alloc ?_ _ | with_reducible refine old_trans ?_ (by with_reducible assumption))); have B0 := cell_later hz1 B0; have C0 := cell_later hz1 C0; have d0 := cell_later hz1 d0))
  replace N := N.later hz1
  replace d1 := cell_later hz1 d1
  replace hb0 := old_trans hb0 hz1
  clear hz1 hb1
  go_wp2_with fail
  go_region_held3 (fun w' => w'.cell? ⟨B, 0, none⟩ = some (.int .i64 wd) ∧ w'.cell? ⟨C, 0, none⟩ = some (.slice (some ⟨b, off, none⟩) len cap) ∧ w'.cell? ⟨b, off + m2, none⟩ = some (.int .u64 y)) (go_keep) (first | (go_at_call 11; refine (E2.out _).mono ?_; rintro e w2 ⟨rfl, hb2⟩; have hz2 : Below w1.heap.size w1 w2 := (by repeat (first | with_reducible exact Below.refl _ _ | with_reducible refine Below.drew ?_ | with_reducible refine old_alloc ?_ _ | with_reducible refine old_trans ?_ (by with_reducible assumption))); have B0 := cell_later hz2 B0; have C0 := cell_later hz2 C0; have d1 := cell_later hz2 d1))
  replace N := N.later hz2
  replace hb0 := old_trans hb0 hz2
  obtain ⟨n0, n1, n2, n3, n4⟩ := id N
  have N2 := N.stored (.int .i64 u) (.int .i64 v)
  have hBf := (hb0.setCell (p := ⟨w.heap.size, 0, none⟩) (by simp) (.int .i64 u)).setCell (p := ⟨w.heap.size, 1, none⟩) (by simp) (.int .i64 v)
  cases p <;> cases q
  all_goals
    go_wp2
    first
    | (refine bodyPost_ret (v := .tuple #[.agg #[.int .i64 u, .int .i64 v], .bool true]) ?_ rfl ⟨rfl, hBf⟩; (simp [results, Tryd.results38, go_sem, N2.1, N2.2.1]; done))
    | (refine bodyPost_ret (v := .tuple #[.agg #[.int .i64 u, .int .i64 v], .bool false]) ?_ rfl ⟨rfl, hBf⟩; (simp [results, Tryd.results38, go_sem, N2.1, N2.2.1]; done))
end Go.Proofs.YtmllcpcbaojipaaDoor

/- BoxOf of the program and of the specification: the walks. -/
namespace Go.Proofs.YtmllcpcbaojipaaDoor
open Go.RowKit
set_option linter.unusedVariables false
set_option maxRecDepth 100000

theorem OB0 (w : World) (base : Nat) : OB w base none 0 [] := ⟨fun p hp => (by cases hp), Nat.le_refl _, by unfold maxLen; omega, .inl ⟨rfl, rfl⟩⟩
theorem OB.of_row {w : World} {base g cv : Nat} {ps : List (Int × Int)} (hf : Fits ps) (h1 : ps.length ≤ cv) (h2 : cv ≤ maxLen) (hb : base ≤ g) (h : Row w g ps) : OB w base (some ⟨g, 0, none⟩) cv ps := ⟨hf, h1, h2, .inr ⟨g, rfl, hb, h⟩⟩
def erV (c : Int) : Value := if c = 0 then .nilIface else .iface 50 (.agg #[.int .i64 c])
set_option maxHeartbeats 8000000 in
theorem iBoxFrom (wd : Int) (a : Option Addr) (cap : Nat) (xs : List Int) (w : World) (hR : InU w a xs.length cap xs) :
    Calls Tryd.prog 17 #[.int .i64 wd, .slice a xs.length cap] w fun e w' => (∃ av cv, e = .returned (.tuple #[.agg #[.slice av (ofQ wd xs).length cv], erV (ofC wd xs)]) ∧ OB w' w.heap.size av cv (ofQ wd xs)) ∧ Below w.heap.size w w' := by
  have hlen := hR.len
  have K : Cel1 (((w.alloc (.cells #[.int .i64 wd] 3)).alloc (.cells #[.slice a xs.length cap] 28)).alloc (.cells #[.slice none 0 0] 25)) w.heap.size (.int .i64 wd) := ((Cel1.made w _ rfl _ _).alloc _).alloc _
  have L : Cel1 (((w.alloc (.cells #[.int .i64 wd] 3)).alloc (.cells #[.slice a xs.length cap] 28)).alloc (.cells #[.slice none 0 0] 25)) (w.heap.size + 1) (.slice a xs.length cap) := (Cel1.made _ _ (by simp) _ _).alloc _
  have M : Cel1 (((w.alloc (.cells #[.int .i64 wd] 3)).alloc (.cells #[.slice a xs.length cap] 28)).alloc (.cells #[.slice none 0 0] 25)) (w.heap.size + 1 + 1) (.slice none 0 0) := Cel1.made _ _ (by simp) _ _
  have hB : Below w.heap.size w (((w.alloc (.cells #[.int .i64 wd] 3)).alloc (.cells #[.slice a xs.length cap] 28)).alloc (.cells #[.slice none 0 0] 25)) := old_alloc (old_alloc (old_alloc (Below.refl _ _) _) _) _
  have FO := hd (iFormOfB wd)
  by_cases hbad : ofBad wd xs
  · have hqC := hd (ofC_bad hbad)
    have hqQ := hd (ofQ_no (wd := wd) (xs := xs) (by rw [hqC.out]; decide))
    have hbr : (wd = 32 ∨ wd = 64) ∨ ¬ (wd = 32 ∨ wd = 64) := Classical.em _
    have key : ∀ bb : Bool, decide (wd = 32 ∨ wd = 64) = bb → (bb = false ∨ (bb = true ∧ (xs.length < 2 ∨ (¬ xs.length < 2 ∧ 12 < xs.length) ∨ (¬ xs.length < 2 ∧ ¬ 12 < xs.length ∧ xs.length % 2 = 1)))) := by
      intro bb h
      unfold ofBad at hbad
      cases bb
      · exact .inl rfl
      · have := of_decide_eq_true h
        refine .inr ⟨rfl, ?_⟩
        omega
    obtain ⟨bb, hbb⟩ : ∃ bb, decide (wd = 32 ∨ wd = 64) = bb := ⟨_, rfl⟩
    have k2 := key bb hbb
    rw [hbb] at FO
    clear key hbr hbad hbb
    go_enter Tryd.func17, Tryd.ntmps17
    obtain ⟨l0, l1, l2⟩ := id L
    obtain ⟨k0, k1, k2'⟩ := id K
    go_wp2_with fail
    generalize (((w.alloc (.cells #[.int .i64 wd] 3)).alloc (.cells #[.slice a xs.length cap] 28)).alloc (.cells #[.slice none 0 0] 25)) = W0 at *
    refine (FO.out _).mono ?_
    rintro e w1 ⟨⟨v, rfl⟩, hb1⟩
    replace hB := old_trans hB hb1
    replace M := M.later hb1
    obtain ⟨m0, m1, m2⟩ := id M
    clear k0 k1 k2' l0 l1 l2 K L FO
    replace M := M.set (.slice none 0 0)
    rcases k2 with rfl | ⟨rfl, h | ⟨h1, h⟩ | ⟨h1, h2, h⟩⟩
    · go_wp2
      refine bodyPost_ret (v := .tuple #[.agg #[.slice none 0 0], .iface 50 (.agg #[.int .i64 1])]) ?_ rfl ⟨⟨none, 0, by rw [hqQ.out, hqC.out]; rfl, by rw [hqQ.out]; exact OB0 _ _⟩, hB.setCell (p := ⟨w.heap.size + 1 + 1, 0, none⟩) (by show w.heap.size ≤ w.heap.size + 1 + 1; omega) _⟩
      simp [results, Tryd.results17, go_sem, M.1]
    · have h' : (xs.length : Int) < 2 := by omega
      go_wp2
      refine bodyPost_ret (v := .tuple #[.agg #[.slice none 0 0], .iface 50 (.agg #[.int .i64 1])]) ?_ rfl ⟨⟨none, 0, by rw [hqQ.out, hqC.out]; rfl, by rw [hqQ.out]; exact OB0 _ _⟩, hB.setCell (p := ⟨w.heap.size + 1 + 1, 0, none⟩) (by show w.heap.size ≤ w.heap.size + 1 + 1; omega) _⟩
      simp [results, Tryd.results17, go_sem, M.1]
    · have h' : (xs.length : Int) > 12 := by omega
      have h1' : ¬ (xs.length : Int) < 2 := by omega
      go_wp2
      refine bodyPost_ret (v := .tuple #[.agg #[.slice none 0 0], .iface 50 (.agg #[.int .i64 1])]) ?_ rfl ⟨⟨none, 0, by rw [hqQ.out, hqC.out]; rfl, by rw [hqQ.out]; exact OB0 _ _⟩, hB.setCell (p := ⟨w.heap.size + 1 + 1, 0, none⟩) (by show w.heap.size ≤ w.heap.size + 1 + 1; omega) _⟩
      simp [results, Tryd.results17, go_sem, M.1]
    · have h2' : ¬ (xs.length : Int) > 12 := by omega
      have h1' : ¬ (xs.length : Int) < 2 := by omega
      have h3 : (xs.length : Int).tmod 2 = 1 := by rw [Int.tmod_eq_emod_of_nonneg (by omega)]; omega
      go_wp2
      refine bodyPost_ret (v := .tuple #[.agg #[.slice none 0 0], .iface 50 (.agg #[.int .i64 1])]) ?_ rfl ⟨⟨none, 0, by rw [hqQ.out, hqC.out]; rfl, by rw [hqQ.out]; exact OB0 _ _⟩, hB.setCell (p := ⟨w.heap.size + 1 + 1, 0, none⟩) (by show w.heap.size ≤ w.heap.size + 1 + 1; omega) _⟩
      simp [results, Tryd.results17, go_sem, M.1]
  have hg : (wd = 32 ∨ wd = 64) ∧ 2 ≤ xs.length ∧ xs.length ≤ 12 ∧ xs.length % 2 = 0 := by unfold ofBad at hbad; omega
  obtain ⟨hw, g1, g2, g3⟩ := hg
  rw [decide_eq_true hw] at FO
  have C2 := hd (fun h => ofC_no (wd := wd) (xs := xs) hbad h)
  have C3 := hd (fun h o => ofC_or (wd := wd) (xs := xs) hbad h o)
  have C0 := hd (fun h o => ofC_ok (wd := wd) (xs := xs) hbad h o)
  unfold ofL at C3 C0
  have h1' : ¬ (xs.length : Int) < 2 := by omega
  have h2' : ¬ (xs.length : Int) > 12 := by omega
  have h3 : (xs.length : Int).tmod 2 = 0 := by rw [Int.tmod_eq_emod_of_nonneg (by omega)]; omega
  obtain ⟨n, hn⟩ : ∃ n, xs.length / 2 = n := ⟨_, rfl⟩
  have hq : (xs.length : Int).tdiv 2 = (n : Int) := by rw [Int.tdiv_eq_ediv_of_nonneg (by omega)]; omega
  have hwq : IntKind.i64.wrap (n : Int) = (n : Int) := by rw [IntKind.wrap_i64]; omega
  rw [hn] at C2 C3 C0
  have ofl : ofL wd xs = madeL n (ofX wd xs) (ofY wd xs) := by unfold ofL; rw [hn]
  have hfit := ofL_fits wd xs n
  clear hbad
  go_enter Tryd.func17, Tryd.ntmps17
  obtain ⟨l0, l1, l2⟩ := id L
  obtain ⟨k0, k1, k2'⟩ := id K
  have s0 : w.heap.size + 1 + 1 < (((w.alloc (.cells #[.int .i64 wd] 3)).alloc (.cells #[.slice a xs.length cap] 28)).alloc (.cells #[.slice none 0 0] 25)).heap.size := M.2.2
  have hR1 := hR.old hB
  go_wp2_with fail
  generalize (((w.alloc (.cells #[.int .i64 wd] 3)).alloc (.cells #[.slice a xs.length cap] 28)).alloc (.cells #[.slice none 0 0] 25)) = W0 at *
  refine (FO.out _).mono ?_
  rintro e w1 ⟨⟨v, rfl⟩, hb1⟩
  replace hB := old_trans hB hb1
  replace M := M.later hb1
  replace L := L.later hb1
  replace K := K.later hb1
  replace hR1 := hR1.old hb1
  have s1 := hb1.size
  clear k0 k1 k2' l0 l1 l2 FO hb1
  obtain ⟨l0, l1, l2⟩ := id L
  obtain ⟨k0, k1, k2'⟩ := id K
  go_wp2_with fail
  refine (ofEach 38 #[.pointer (some ⟨w.heap.size, 0, none⟩), .pointer (some ⟨w.heap.size + 1, 0, none⟩)] n (by omega) (ofX wd xs) (ofY wd xs) (ofK wd xs) w1 (enters_of Tryd.func38 (by kernel_rfl) rfl)
    (fun k W hk hW => iFrom1 wd hw a xs.length cap xs w.heap.size (w.heap.size + 1) k (by omega) W (hR1.old hW) (K.later hW).1 (K.later hW).2.2 (L.later hW).1 (L.later hW).2.2)).mono ?_
  rintro e w2 ⟨⟨hall, g, rfl, hgb, hrow⟩ | ⟨hno, rfl⟩, hb2⟩
  case inr =>
    have hqC := hd (C2.out hno)
    have hqQ := hd (ofQ_no (wd := wd) (xs := xs) (by rw [hqC.out]; decide))
    clear C0 C2 C3
    replace hB := old_alloc (old_trans hB hb2) (.cells #[.slice none 0 0] 25)
    replace M := (M.later hb2).alloc (.cells #[.slice none 0 0] 25)
    have m9 := (M.later (Below.refl _ _)).2.2
    obtain ⟨m0, m1, m2⟩ := id M
    replace M := M.set (.slice none 0 0)
    go_wp2
    refine bodyPost_ret (v := .tuple #[.agg #[.slice none 0 0], .iface 50 (.agg #[.int .i64 2])]) ?_ rfl ⟨⟨none, 0, by rw [hqQ.out, hqC.out]; rfl, by rw [hqQ.out]; exact OB0 _ _⟩, hB.setCell (p := ⟨w.heap.size + 1 + 1, 0, none⟩) (by show w.heap.size ≤ w.heap.size + 1 + 1; omega) _⟩
    simp [results, Tryd.results17, go_sem, M.1]
  replace hB := old_trans hB hb2
  replace M := M.later hb2
  replace K := K.later hb2
  have s2 := hb2.size
  have O : OB w2 w.heap.size (some ⟨g, 0, none⟩) n (madeL n (ofX wd xs) (ofY wd xs)) := OB.of_row hfit (by rw [madeL_length]; omega) (by unfold maxLen; omega) (Nat.le_trans (by omega) hgb) hrow
  have hgM : g ≠ w.heap.size + 1 + 1 := by omega
  clear hrow k0 k1 k2' l0 l1 l2 hR1 L
  have BK := hd (fun W (h : InRow W (some ⟨g, 0, none⟩) n n (madeL n (ofX wd xs) (ofY wd xs))) => iBoxOk wd (some ⟨g, 0, none⟩) n n (madeL n (ofX wd xs) (ofY wd xs)) W h)
  have hml := madeL_length n (ofX wd xs) (ofY wd xs)
  have X : Cel1 (w2.alloc (.cells #[.slice (some ⟨g, 0, none⟩) n n] 25)) w2.heap.size (.slice (some ⟨g, 0, none⟩) n n) := Cel1.made _ _ rfl _ _
  replace hB := old_alloc hB (.cells #[.slice (some ⟨g, 0, none⟩) n n] 25)
  replace M := M.alloc (.cells #[.slice (some ⟨g, 0, none⟩) n n] 25)
  replace K := K.alloc (.cells #[.slice (some ⟨g, 0, none⟩) n n] 25)
  replace O := O.alloc (.cells #[.slice (some ⟨g, 0, none⟩) n n] 25)
  have RI := O.inRow
  rw [hml] at RI
  obtain ⟨k0, k1, k2'⟩ := id K
  obtain ⟨x0, x1, x2⟩ := id X
  have dK := Nat.ne_of_lt (Nat.lt_of_lt_of_le (show w.heap.size < w.heap.size + 1 + 1 by omega) (Nat.le_trans (Nat.le_of_lt s0) (Nat.le_trans s1 s2)))
  have dK' := Ne.symm dK
  go_wp2_with fail
  generalize hV : w2.alloc (.cells #[.slice (some ⟨g, 0, none⟩) n n] 25) = V at *
  clear hV
  refine (BK.out _ RI).mono ?_
  rintro e w3 ⟨rfl, hb3⟩
  replace hB := old_trans hB hb3
  replace M := M.later hb3
  replace X := X.later hb3
  replace O := O.later hb3
  have d1 : w2.heap.size ≠ w.heap.size + 1 + 1 := by omega
  have d2 := Ne.symm d1
  clear k0 k1 k2' x0 x1 x2 BK K RI hb3
  obtain ⟨m0, m1, m2⟩ := id M
  obtain ⟨x0, x1, x2⟩ := id X
  cases hr : okRow wd (madeL n (ofX wd xs) (ofY wd xs))
  · have hqC := hd (C3.out hall hr)
    have hqQ := hd (ofQ_no (wd := wd) (xs := xs) (by rw [hqC.out]; decide))
    clear C0 C2 C3
    replace M := M.set (.slice none 0 0)
    go_wp2
    refine bodyPost_ret (v := .tuple #[.agg #[.slice none 0 0], .iface 50 (.agg #[.int .i64 3])]) ?_ rfl ⟨⟨none, 0, by rw [hqQ.out, hqC.out]; rfl, by rw [hqQ.out]; exact OB0 _ _⟩, hB.setCell (p := ⟨w.heap.size + 1 + 1, 0, none⟩) (by show w.heap.size ≤ w.heap.size + 1 + 1; omega) _⟩
    simp [results, Tryd.results17, go_sem, M.1]
  · have hqC := hd (C0.out hall hr)
    have hqQ := hd (ofQ_ok hqC.out)
    clear C0 C2 C3
    replace M := M.set (.slice (some ⟨g, 0, none⟩) n n)
    go_wp2
    refine bodyPost_ret (v := .tuple #[.agg #[.slice (some ⟨g, 0, none⟩) n n], .nilIface]) ?_ rfl ⟨⟨some ⟨g, 0, none⟩, n, by rw [hqQ.out, hqC.out, ofl, hml]; rfl, by rw [hqQ.out, ofl]; exact O.set _ (fun q e => by injection e with e; subst e; exact hgM) _⟩, hB.setCell (p := ⟨w.heap.size + 1 + 1, 0, none⟩) (by show w.heap.size ≤ w.heap.size + 1 + 1; omega) _⟩
    simp [results, Tryd.results17, go_sem, M.1]
set_option maxHeartbeats 4000000 in
theorem iBoxOf (wd : Int) (a : Option Addr) (cap : Nat) (xs : List Int) (w : World) (hR : InU w a xs.length cap xs) (hE : ET w) :
    Calls Tryd.prog 6 #[.int .i64 wd, .slice a xs.length cap] w fun e w' => (∃ av cv, e = .returned (.tuple #[.agg #[.slice av (ofQ wd xs).length cv], .int .i64 (ofC wd xs)]) ∧ OB w' w.heap.size av cv (ofQ wd xs)) ∧ Below w.heap.size w w' := by
  have M : Cel1 (w.alloc (.cells #[.slice none 0 0] 25)) w.heap.size (.slice none 0 0) := Cel1.made w _ rfl _ _
  have hB : Below w.heap.size w (w.alloc (.cells #[.slice none 0 0] 25)) := old_alloc (Below.refl _ _) _
  have FR := hd (fun W (h : Below w.heap.size w W) => iBoxFrom wd a cap xs W (hR.old h))
  have s0 : w.heap.size < (w.alloc (.cells #[.slice none 0 0] 25)).heap.size := by simp
  obtain ⟨c, hc⟩ : ∃ c, ofC wd xs = c := ⟨_, rfl⟩
  have hq0 : Hid (c ≠ 0 → ofQ wd xs = []) := fun h => ofQ_no (by rw [hc]; exact h)
  rw [hc] at FR ⊢
  generalize ofQ wd xs = qs at *
  clear hc
  go_enter Tryd.func6, Tryd.ntmps6
  go_wp2_with fail
  generalize (w.alloc (.cells #[.slice none 0 0] 25)) = W0 at *
  refine (FR.out _ hB).mono ?_
  rintro e w1 ⟨⟨av, cv, rfl, O⟩, hb1⟩
  have s1 := hb1.size
  have hsep : Hid (∀ q, av = some q → q.block ≠ w.heap.size) := fun q e => by have := O.ge q e; omega
  replace O := O.mono (Nat.le_of_lt s0)
  replace hB := old_trans hB hb1
  replace M := M.later hb1
  have oge := O.lt
  have X : Cel1 (w1.alloc (.cells #[.slice av qs.length cv] 25)) w1.heap.size (.slice av qs.length cv) := Cel1.made _ _ rfl _ _
  replace hB := old_alloc hB (.cells #[.slice av qs.length cv] 25)
  replace M := M.alloc (.cells #[.slice av qs.length cv] 25)
  replace O := O.alloc (.cells #[.slice av qs.length cv] 25)
  have hE1 := hE.old hB
  unfold erV
  by_cases hc0 : c = 0
  · subst hc0
    rw [if_pos rfl]
    have hal : Below (w1.alloc (.cells #[.slice av qs.length cv] 25)).heap.size (w1.alloc (.cells #[.slice av qs.length cv] 25)) ((w1.alloc (.cells #[.slice av qs.length cv] 25)).alloc (.cells #[.int .i64 0] 50)) := old_alloc (Below.refl _ _) _
    replace hB := old_trans hB hal
    replace M := M.later hal
    replace X := X.later hal
    replace O := O.later hal
    go_wp2_with fail
    refine (as_nil _ _).mono ?_
    rintro e w2 ⟨rfl, rfl⟩
    obtain ⟨m0, m1, m2⟩ := id M
    obtain ⟨x0, x1, x2⟩ := id X
    replace M := M.set (.slice av qs.length cv)
    go_wp2
    refine bodyPost_ret (v := .tuple #[.agg #[.slice av qs.length cv], .int .i64 0]) ?_ rfl ⟨⟨_, _, rfl, O.set _ hsep.out _⟩, hB.setCell (p := ⟨w.heap.size, 0, none⟩) (by simp) _⟩
    simp [results, Tryd.results6, go_sem, M.1]
  · rw [if_neg hc0]
    have hqs := hd (hq0.out hc0)
    have AS := hd (as_box c (w1.alloc (.cells #[.slice av qs.length cv] 25)) (w1.heap.size + 1) (by simp) hE1)
    go_wp2_with fail
    generalize w1.alloc (.cells #[.slice av qs.length cv] 25) = V at *
    refine AS.out.mono ?_
    rintro e w2 ⟨rfl, cc, hb2⟩
    replace hB := old_trans hB hb2
    replace M := M.later hb2
    obtain ⟨m0, m1, m2⟩ := id M
    have d1 : w1.heap.size + 1 ≠ w.heap.size := by omega
    have d2 := Ne.symm d1
    replace M := M.set (.slice none 0 0)
    have F0 : ∀ W, OB W w.heap.size none 0 qs := fun W => by rw [hqs.out]; exact OB0 _ _
    have hl0 : Hid (qs.length = 0) := by show _ = _; rw [hqs.out]; rfl
    go_wp2_with fail
    go_region
    all_goals
      go_wp2
      refine bodyPost_ret (v := .tuple #[.agg #[.slice none 0 0], .int .i64 c]) ?_ rfl ⟨⟨none, 0, by rw [hl0.out], F0 _⟩, (by first | exact hB.setCell (p := ⟨w.heap.size, 0, none⟩) (Nat.le_refl _) _ | exact (Below.drew hB).setCell (p := ⟨w.heap.size, 0, none⟩) (Nat.le_refl _) _)⟩
      simp [results, Tryd.results6, go_sem, M.1]
end Go.Proofs.YtmllcpcbaojipaaDoor

/- BoxOf of the specification. -/
namespace Go.Proofs.YtmllcpcbaojipaaDoor
open Go.RowKit
set_option linter.unusedVariables false
set_option maxRecDepth 100000

theorem sWidB (wd : Int) (w : World) : Calls Tryd.prog 29 #[.int .i64 wd] w fun e w' => e = .returned (.bool (decide (wd = 32 ∨ wd = 64))) ∧ w' = w := by
  by_cases c1 : wd = 32
  · subst c1
    go_enter Tryd.func29, Tryd.ntmps29
    go_wp2
    go_ret
    exact ⟨rfl, rfl⟩
  by_cases c2 : wd = 64
  · subst c2
    go_enter Tryd.func29, Tryd.ntmps29
    go_wp2
    go_ret
    exact ⟨rfl, rfl⟩
  rw [decide_eq_false (by simp [c1, c2])]
  have b1 : (wd == 32) = false := by simp [c1]
  have b2 : (wd == 64) = false := by simp [c2]
  go_enter Tryd.func29, Tryd.ntmps29
  go_wp2
  go_ret
  exact ⟨rfl, rfl⟩
set_option maxHeartbeats 8000000 in
theorem sBoxOf (wd : Int) (a : Option Addr) (cap : Nat) (xs : List Int) (w : World) (hR : InU w a xs.length cap xs) :
    Calls Tryd.prog 10 #[.int .i64 wd, .slice a xs.length cap] w fun e w' => (∃ av cv, e = .returned (.tuple #[.agg #[.slice av (ofQ wd xs).length cv], .int .i64 (ofC wd xs)]) ∧ OB w' w.heap.size av cv (ofQ wd xs)) ∧ Below w.heap.size w w' := by
  have hlen := hR.len
  have M : Cel1 (w.alloc (.cells #[.slice none 0 0] 25)) w.heap.size (.slice none 0 0) := Cel1.made w _ rfl _ _
  have hB : Below w.heap.size w (w.alloc (.cells #[.slice none 0 0] 25)) := old_alloc (Below.refl _ _) _
  have FO := hd (sWidB wd)
  by_cases hbad : ofBad wd xs
  · have hqC := hd (ofC_bad hbad)
    have hqQ := hd (ofQ_no (wd := wd) (xs := xs) (by rw [hqC.out]; decide))
    have key : ∀ bb : Bool, decide (wd = 32 ∨ wd = 64) = bb → (bb = false ∨ (bb = true ∧ (xs.length < 2 ∨ (¬ xs.length < 2 ∧ 12 < xs.length) ∨ (¬ xs.length < 2 ∧ ¬ 12 < xs.length ∧ xs.length % 2 = 1)))) := by
      intro bb h
      unfold ofBad at hbad
      cases bb
      · exact .inl rfl
      · have := of_decide_eq_true h
        refine .inr ⟨rfl, ?_⟩
        omega
    obtain ⟨bb, hbb⟩ : ∃ bb, decide (wd = 32 ∨ wd = 64) = bb := ⟨_, rfl⟩
    have k2 := key bb hbb
    rw [hbb] at FO
    clear key hbad hbb
    go_enter Tryd.func10, Tryd.ntmps10
    go_wp2_with fail
    generalize (w.alloc (.cells #[.slice none 0 0] 25)) = W0 at *
    refine (FO.out _).mono ?_
    rintro e w1 ⟨rfl, rfl⟩
    obtain ⟨m0, m1, m2⟩ := id M
    replace M := M.set (.slice none 0 0)
    rcases k2 with rfl | ⟨rfl, h | ⟨h1, h⟩ | ⟨h1, h2, h⟩⟩
    · go_wp2
      refine bodyPost_ret (v := .tuple #[.agg #[.slice none 0 0], .int .i64 1]) ?_ rfl ⟨⟨none, 0, by rw [hqQ.out, hqC.out]; rfl, by rw [hqQ.out]; exact OB0 _ _⟩, hB.setCell (p := ⟨w.heap.size, 0, none⟩) (Nat.le_refl _) _⟩
      simp [results, Tryd.results10, go_sem, M.1]
    · have h' : (xs.length : Int) < 2 := by omega
      go_wp2
      refine bodyPost_ret (v := .tuple #[.agg #[.slice none 0 0], .int .i64 1]) ?_ rfl ⟨⟨none, 0, by rw [hqQ.out, hqC.out]; rfl, by rw [hqQ.out]; exact OB0 _ _⟩, hB.setCell (p := ⟨w.heap.size, 0, none⟩) (Nat.le_refl _) _⟩
      simp [results, Tryd.results10, go_sem, M.1]
    · have h' : (xs.length : Int) > 12 := by omega
      have h1' : ¬ (xs.length : Int) < 2 := by omega
      go_wp2
      refine bodyPost_ret (v := .tuple #[.agg #[.slice none 0 0], .int .i64 1]) ?_ rfl ⟨⟨none, 0, by rw [hqQ.out, hqC.out]; rfl, by rw [hqQ.out]; exact OB0 _ _⟩, hB.setCell (p := ⟨w.heap.size, 0, none⟩) (Nat.le_refl _) _⟩
      simp [results, Tryd.results10, go_sem, M.1]
    · have h2' : ¬ (xs.length : Int) > 12 := by omega
      have h1' : ¬ (xs.length : Int) < 2 := by omega
      have h3 : (xs.length : Int).tmod 2 = 1 := by rw [Int.tmod_eq_emod_of_nonneg (by omega)]; omega
      go_wp2
      refine bodyPost_ret (v := .tuple #[.agg #[.slice none 0 0], .int .i64 1]) ?_ rfl ⟨⟨none, 0, by rw [hqQ.out, hqC.out]; rfl, by rw [hqQ.out]; exact OB0 _ _⟩, hB.setCell (p := ⟨w.heap.size, 0, none⟩) (Nat.le_refl _) _⟩
      simp [results, Tryd.results10, go_sem, M.1]
  have hg : (wd = 32 ∨ wd = 64) ∧ 2 ≤ xs.length ∧ xs.length ≤ 12 ∧ xs.length % 2 = 0 := by unfold ofBad at hbad; omega
  obtain ⟨hw, g1, g2, g3⟩ := hg
  rw [decide_eq_true hw] at FO
  have C2 := hd (fun h => ofC_no (wd := wd) (xs := xs) hbad h)
  have C3 := hd (fun h o => ofC_or (wd := wd) (xs := xs) hbad h o)
  have C0 := hd (fun h o => ofC_ok (wd := wd) (xs := xs) hbad h o)
  unfold ofL at C3 C0
  have h1' : ¬ (xs.length : Int) < 2 := by omega
  have h2' : ¬ (xs.length : Int) > 12 := by omega
  have h3 : (xs.length : Int).tmod 2 = 0 := by rw [Int.tmod_eq_emod_of_nonneg (by omega)]; omega
  obtain ⟨n, hn⟩ : ∃ n, xs.length / 2 = n := ⟨_, rfl⟩
  rw [hn] at C2 C3 C0
  have ofl : Hid (ofL wd xs = madeL n (ofX wd xs) (ofY wd xs)) := by show _ = _; unfold ofL; rw [hn]
  have hfit := ofL_fits wd xs n
  have SO := hd (fun x h W => sOrdW wd hw x h W)
  have BK := hd (fun av nv cv W (h : InRow W av nv cv (madeL n (ofX wd xs) (ofY wd xs))) => sBoxOk wd av nv cv (madeL n (ofX wd xs) (ofY wd xs)) W h)
  have hfar := hd hR.far
  have hRo := hd (fun W (h : Below w.heap.size w W) => hR.old h)
  clear hbad hR hw
  obtain ⟨i0, hi, hz0, hz1, hz2⟩ := info_parts infoPair
  go_enter Tryd.func10, Tryd.ntmps10
  go_wp2_with fail
  refine (FO.out _).mono ?_
  rintro e w1 ⟨rfl, rfl⟩
  go_wp2
  go_loopw [7] (fun i wr => ∃ (k m : Nat) (av : Option Addr) (nv cv : Nat), m = 2 * k ∧ k ≤ n ∧ i = .int .i64 (m : Int) ∧ Hid (∀ j, j < k → ofK wd xs j = true) ∧ Grows wr (w.heap.size + 1 + 1) (.slice av nv cv) (madeL k (ofX wd xs) (ofY wd xs)) ∧ Cel1 wr (w.heap.size + 1) (.slice av nv cv) ∧ Cel1 wr w.heap.size (.slice none 0 0) ∧ w.heap.size + 1 + 1 ≤ wr.heap.size ∧ Below w.heap.size w wr) (fun b _ => xs.length - (intOf b).toNat)
  case atStart => exact ⟨0, 0, none, 0, 0, rfl, by omega, rfl, fun j hj => absurd hj (by omega), Grows.nil _ _, Cel1.made _ _ (by simp) _ _, M.alloc _, by simp, old_alloc hB _⟩
  case round =>
    clear M hB FO
    obtain ⟨k, m, av, nv, cv, hm, hk, rfl, hall, G, O, M, hszr, hB⟩ := hrel
    by_cases hlt : k < n
    · obtain ⟨b, off, x, rfl, hbl, hx, hxb, c0⟩ := (hRo.out _ hB).at (k := m) (by omega)
      obtain ⟨b', off', y, e', -, hy, hyb, c1⟩ := (hRo.out _ hB).at (k := m + 1) (by omega)
      injection e' with e'; injection e' with e1 e2; subst e1 e2
      have hbw := hfar.out (by omega) _ rfl
      have hbw' : b < w.heap.size := hbw
      clear hbw
      have E1 := hd (SO.out x hxb)
      have E2 := hd (SO.out y hyb)
      have hX : ofX wd xs k = ordW wd x := by unfold ofX; rw [← hm, hx]
      have hY : ofY wd xs k = ordW wd y := by unfold ofY; rw [← hm, hy]
      have hK : Hid (ofK wd xs k = (ordK wd x && ordK wd y)) := by show _ = _; unfold ofK; rw [← hm, hx, hy]
      have hms := madeL_snoc k (ofX wd xs) (ofY wd xs)
      rw [hX, hY] at hms
      clear hX hY hx hy
      generalize ordW wd x = u at *
      generalize ordW wd y = v at *
      generalize ordK wd x = p at *
      generalize ordK wd y = q at *
      have gi1 : (m : Int) < (xs.length : Int) := by omega
      have gi2 : IntKind.i64.wrap ((m : Int) + 1) = ((m + 1 : Nat) : Int) := by rw [IntKind.wrap_i64]; omega
      have gi3 : ((m + 1 : Nat) : Int) < (xs.length : Int) := by omega
      have gi4 : (0 : Int) ≤ ((m + 1 : Nat) : Int) := by omega
      have gi5 : IntKind.i64.wrap ((m : Int) + 2) = ((m + 2 : Nat) : Int) := by rw [IntKind.wrap_i64]; omega
      generalize hm1 : m + 1 = m1 at *
      have hm' := hd hm
      clear hm
      go_wp2_with fail
      refine (E1.out _).mono ?_
      rintro e w1 ⟨rfl, hbx⟩
      replace c1 := cell_later hbx c1
      replace O := O.later hbx
      replace M := M.later hbx
      replace G := G.later hbx
      replace hB := old_trans hB hbx
      have hs1 := Nat.le_trans hszr hbx.size
      clear hbx c0
      go_wp2_with fail
      refine (E2.out _).mono ?_
      rintro e w2 ⟨rfl, hby⟩
      replace O := O.later hby
      replace M := M.later hby
      replace G := G.later hby
      replace hB := old_trans hB hby
      have hs2 := Nat.le_trans hs1 hby.size
      clear hby c1 hszr hs1
      obtain ⟨m0, m1', m2⟩ := id M
      have hno : (p && q) = false ∨ (p && q) = true := by cases p <;> cases q <;> simp
      rcases hno with hno | hno
      · have hqC := hd (C2.out ⟨k, by omega, by rw [hK.out, hno]⟩)
        have hqQ := hd (ofQ_no (wd := wd) (xs := xs) (by rw [hqC.out]; decide))
        replace M := M.set (.slice none 0 0)
        cases p
        · go_wp2
          refine bodyPost_ret (v := .tuple #[.agg #[.slice none 0 0], .int .i64 2]) ?_ rfl ⟨⟨none, 0, by rw [hqQ.out, hqC.out]; rfl, by rw [hqQ.out]; exact OB0 _ _⟩, hB.setCell (p := ⟨w.heap.size, 0, none⟩) (Nat.le_refl _) _⟩
          simp [results, Tryd.results10, go_sem, M.1]
        cases q
        · go_wp2
          refine bodyPost_ret (v := .tuple #[.agg #[.slice none 0 0], .int .i64 2]) ?_ rfl ⟨⟨none, 0, by rw [hqQ.out, hqC.out]; rfl, by rw [hqQ.out]; exact OB0 _ _⟩, hB.setCell (p := ⟨w.heap.size, 0, none⟩) (Nat.le_refl _) _⟩
          simp [results, Tryd.results10, go_sem, M.1]
        cases hno
      obtain ⟨rfl, rfl⟩ : p = true ∧ q = true := by cases p <;> cases q <;> simp_all
      clear hno
      have O2 := O.alloc (.cells #[.int .i64 u, .int .i64 v] 40)
      have M2 := M.alloc (.cells #[.int .i64 u, .int .i64 v] 40)
      have G2 := G.alloc (.cells #[.int .i64 u, .int .i64 v] 40)
      have B2 : Below w.heap.size w (w2.alloc (.cells #[.int .i64 u, .int .i64 v] 40)) := old_alloc hB _
      have cw := cells_two w2 w2.heap.size rfl (.int .i64 u) (.int .i64 v) 40
      obtain ⟨o0, o1, o2⟩ := id O
      have hml := madeL_length k (ofX wd xs) (ofY wd xs)
      go_wp2_with (at_builtin; refine wpList_append_own _ rfl _ _ 23 rfl (w.heap.size + 1 + 1) 40 i0 _ 2 16 Tryd.underlying23 hi hz0 hz1 hz2 rfl (by decide) _ _ _ rfl G2 ⟨w2.heap.size, 0, none⟩ 1 1 [.int .i64 u, .int .i64 v] rfl rfl cw (by simp [Value.oneCell']) (by rw [hml]; unfold maxLen; omega) (by rw [hml]; omega) (by simp; omega) ?_; intro v' w5 hown hgrow _; rw [hml] at hown; obtain ⟨g', cap', rfl⟩ := ownsRow_succ hown; have O5 := O2.kept hgrow (G2.far (by omega)); have o5 := O5.1; have f5 := O5.2.1; have l5 := O5.2.2)
      have G5 : Grows w5 (w.heap.size + 1 + 1) (.slice (some ⟨g', 0, none⟩) (k + 1) cap') (madeL (k + 1) (ofX wd xs) (ofY wd xs)) := by
        rw [hms]
        unfold Grows
        rw [flat_snoc, List.length_append, hml]
        exact hown
      have M5 := M2.kept hgrow (G2.far (by omega))
      have B5 := B2.grown hgrow B2.size (fun c e => by have := (World.ownsRow.lt G2 c e).1; omega)
      have S5 := hgrow.size
      go_roundw
      case rel => exact ⟨k + 1, m + 2, _, _, _, (by have := hm'.out; omega), by omega, by go_num, fun j hj => (Nat.lt_or_ge j k).elim (fun h => hall.out j h) (fun h => by rw [show j = k by omega]; exact hK.out), G5.set (by omega) _, O5.set _, M5.other _ (by simp <;> omega) _, by simp [World.setCell]; simp at S5; omega, B5.setCell (p := ⟨w.heap.size + 1, 0, none⟩) (by show w.heap.size ≤ w.heap.size + 1; omega) _⟩
      case measure => simp [intOf]; omega
    · obtain rfl : k = n := by omega
      have gi1 : ¬ (m : Int) < (xs.length : Int) := by omega
      clear hm
      obtain ⟨g, cap2, hv, hg1, hg2, hg3, hrow⟩ := G.row (by rw [madeL_length]; omega)
      rw [madeL_length] at hv
      injection hv with e1 e2 e3
      subst e1 e2 e3
      have OX : OB wr w.heap.size (some ⟨g, 0, none⟩) cv (madeL nv (ofX wd xs) (ofY wd xs)) := OB.of_row hfit hg2 hg3 (by omega) hrow
      have RI := OX.inRow
      rw [madeL_length] at RI
      have hgM : g ≠ w.heap.size := by omega
      obtain ⟨o0, o1, o2⟩ := id O
      go_wp2_with fail
      refine (BK.out _ _ _ _ RI).mono ?_
      rintro e w3 ⟨rfl, hb3⟩
      replace hB := old_trans hB hb3
      replace M := M.later hb3
      replace O := O.later hb3
      replace OX := OX.later hb3
      clear o0 o1 o2
      obtain ⟨m0, m1, m2⟩ := id M
      obtain ⟨o0, o1, o2⟩ := id O
      have hml := madeL_length nv (ofX wd xs) (ofY wd xs)
      cases hr : okRow wd (madeL nv (ofX wd xs) (ofY wd xs))
      · have hqC := hd (C3.out hall.out hr)
        have hqQ := hd (ofQ_no (wd := wd) (xs := xs) (by rw [hqC.out]; decide))
        replace M := M.set (.slice none 0 0)
        go_wp2
        refine bodyPost_ret (v := .tuple #[.agg #[.slice none 0 0], .int .i64 3]) ?_ rfl ⟨⟨none, 0, by rw [hqQ.out, hqC.out]; rfl, by rw [hqQ.out]; exact OB0 _ _⟩, hB.setCell (p := ⟨w.heap.size, 0, none⟩) (Nat.le_refl _) _⟩
        simp [results, Tryd.results10, go_sem, M.1]
      · have hqC := hd (C0.out hall.out hr)
        have hqQ := hd (ofQ_ok hqC.out)
        replace M := M.set (.slice (some ⟨g, 0, none⟩) nv cv)
        go_wp2
        refine bodyPost_ret (v := .tuple #[.agg #[.slice (some ⟨g, 0, none⟩) nv cv], .int .i64 0]) ?_ rfl ⟨⟨some ⟨g, 0, none⟩, cv, by rw [hqQ.out, hqC.out, ofl.out, hml], by rw [hqQ.out, ofl.out]; exact OX.set _ (fun q e => by injection e with e; subst e; exact hgM) _⟩, hB.setCell (p := ⟨w.heap.size, 0, none⟩) (Nat.le_refl _) _⟩
        simp [results, Tryd.results10, go_sem, M.1]
end Go.Proofs.YtmllcpcbaojipaaDoor

/- Patterns of a box and back: what is made of the patterns of a box is the box; what is made of a list of patterns has each of them at its place. No condition. -/
namespace Go.Proofs.YtmllcpcbaojipaaDoor
open Go.RowKit
set_option linter.unusedVariables false
set_option maxRecDepth 100000

theorem ord_bits {wd n : Int} (h : okB wd n = true) : ordK wd (bbI wd n) = true ∧ ordW wd (bbI wd n) = n := by
  obtain ⟨h1, h2, h3⟩ := okB_in h
  unfold ordK ordW bbI ordB ordN bitsI
  rcases h1 with rfl | rfl
  · rw [topI_32] at h2 h3
    simp only [if_true]
    rw [if_pos ⟨h2, h3⟩]
    by_cases c : n < 0
    · simp only [c, if_true]
      have e : (2147483648 - n) % 2147483648 = -n := by omega
      rw [e]
      constructor
      · simp; omega
      · rw [if_neg (by omega), if_neg (by omega), if_pos (by omega)]; omega
    · simp only [c, if_false]
      have e : n % 2147483648 = n := by omega
      rw [e]
      constructor
      · simp; omega
      · rw [if_neg (by omega), if_neg (by omega), if_neg (by omega)]
  · rw [topI_64] at h2 h3
    simp only [Int.reduceEq, if_false, if_true]
    rw [if_pos ⟨h2, h3⟩]
    by_cases c : n < 0
    · simp only [c, if_true]
      have e : (9223372036854775808 - n) % 9223372036854775808 = -n := by omega
      rw [e]
      constructor
      · simp; omega
      · rw [if_neg (by omega), if_neg (by omega), if_pos (by omega)]; omega
    · simp only [c, if_false]
      have e : n % 9223372036854775808 = n := by omega
      rw [e]
      constructor
      · simp; omega
      · rw [if_neg (by omega), if_neg (by omega), if_neg (by omega)]
theorem bitsL_two (wd : Int) : ∀ (ps : List (Int × Int)) (k : Nat), k < ps.length → (bitsL wd ps).getD (2 * k) 0 = bbI wd (ps.getD k (0, 0)).1 ∧ (bitsL wd ps).getD (2 * k + 1) 0 = bbI wd (ps.getD k (0, 0)).2
  | [], _, h => absurd h (by simp)
  | p :: r, 0, _ => by simp [bitsL]
  | p :: r, k + 1, h => by
    have := bitsL_two wd r k (by simpa using h)
    have e : bitsL wd (p :: r) = bbI wd p.1 :: bbI wd p.2 :: bitsL wd r := by simp [bitsL]
    rw [e, show 2 * (k + 1) = 2 * k + 1 + 1 by omega]
    simpa using this
theorem pairs_ext {ps qs : List (Int × Int)} (hl : ps.length = qs.length) (h : ∀ k, k < ps.length → ps.getD k (0, 0) = qs.getD k (0, 0)) : ps = qs := by
  apply List.ext_getElem hl
  intro i h1 h2
  have := h i h1
  simpa [List.getD_eq_getElem?_getD, h1, h2] using this
theorem of_bits {wd : Int} {ps : List (Int × Int)} (h : okRow wd ps = true) : ofC wd (bitsL wd ps) = 0 ∧ ofQ wd (bitsL wd ps) = ps := by
  have hl := okRow_len h
  have hb := bitsL_len wd ps
  have hw : wd = 32 ∨ wd = 64 := (okB_in (pokB_in (okRow_at h (k := 0) (by omega))).1).1
  have hd2 : (bitsL wd ps).length / 2 = ps.length := by omega
  have hn : ¬ ofBad wd (bitsL wd ps) := by unfold ofBad; rw [hb]; omega
  have hL : ofL wd (bitsL wd ps) = ps := by
    unfold ofL
    refine pairs_ext (by rw [madeL_length, hd2]) (fun k hk => ?_)
    rw [madeL_length, hd2] at hk
    rw [madeL_getD _ _ (by rw [hd2]; exact hk)]
    unfold ofX ofY
    have t := bitsL_two wd ps k hk
    have p := pokB_in (okRow_at h hk)
    rw [t.1, t.2, (ord_bits p.1).2, (ord_bits p.2.1).2]
  have hK : ∀ k, k < (bitsL wd ps).length / 2 → ofK wd (bitsL wd ps) k = true := by
    intro k hk
    rw [hd2] at hk
    unfold ofK
    have t := bitsL_two wd ps k hk
    have p := pokB_in (okRow_at h hk)
    rw [t.1, t.2, (ord_bits p.1).1, (ord_bits p.2.1).1]
    rfl
  have hC : ofC wd (bitsL wd ps) = 0 := ofC_ok hn hK (by rw [hL]; exact h)
  exact ⟨hC, by rw [ofQ_ok hC, hL]⟩
theorem of_none (wd : Int) : ofC wd [] = 1 ∧ ofQ wd [] = [] := by
  have h : ofC wd [] = 1 := ofC_bad (by unfold ofBad; simp)
  exact ⟨h, ofQ_no (by rw [h]; decide)⟩
theorem anyNo_at {n : Nat} {ok : Nat → Bool} (h : ¬ anyNo n ok = true) {k : Nat} (hk : k < n) : ok k = true := by
  cases e : ok k
  · exact absurd (anyNo_yes ⟨k, hk, e⟩) h
  · rfl
/-- what is made of a list of patterns, where it is made -/
theorem of_at {wd : Int} {xs : List Int} (h : ofC wd xs = 0) : xs.length = 2 * (ofQ wd xs).length ∧ ∀ i, i < xs.length → ordK wd (xs.getD i 0) = true ∧ (i % 2 = 0 → ((ofQ wd xs).getD (i / 2) (0, 0)).1 = ordW wd (xs.getD i 0)) ∧ (i % 2 = 1 → ((ofQ wd xs).getD (i / 2) (0, 0)).2 = ordW wd (xs.getD i 0)) := by
  have hn : ¬ ofBad wd xs := fun q => by rw [ofC_bad q] at h; cases h
  have hK : ∀ k, k < xs.length / 2 → ofK wd xs k = true := by
    intro k hk
    refine anyNo_at (fun q => ?_) hk
    unfold ofC at h
    rw [if_neg hn, if_pos q] at h
    cases h
  have hb : xs.length % 2 ≠ 1 := fun q => hn (.inr (.inr (.inr q)))
  rw [ofQ_ok h]
  unfold ofL
  rw [madeL_length]
  refine ⟨by omega, fun i hi => ?_⟩
  have hk : i / 2 < xs.length / 2 := by omega
  have k := hK _ hk
  unfold ofK at k
  rw [Bool.and_eq_true] at k
  rw [madeL_getD _ _ hk]
  unfold ofX ofY
  by_cases e : i % 2 = 0
  · have e2 : 2 * (i / 2) = i := by omega
    rw [e2] at k ⊢
    exact ⟨k.1, fun _ => rfl, fun q => by omega⟩
  · have e2 : 2 * (i / 2) + 1 = i := by omega
    rw [e2] at k ⊢
    exact ⟨k.2, fun q => by omega, fun _ => rfl⟩
theorem isRow_same (ps : List (Int × Int)) : isRow ps ps = true := by
  unfold isRow
  rw [allI_yes]
  · simp
  · intro k hk
    unfold isAt isB
    simp
end Go.Proofs.YtmllcpcbaojipaaDoor
