/- BoxOf of the program and of the specification. Conditions, of the program: the library's handle of errors lies as its text lays it. Nothing that was there is written. -/
import Derived.Test.YtekbhkklaogmnaaDoorFAB
import Derived.Test.YtekbhkklaogmnaaDoorEX
import Derived.Test.YtekbhkklaogmnaaDoorEY
import Derived.Test.YtekbhkklaogmnaaDoorE5
import Derived.Test.YtekbhkklaogmnaaDoorW3
namespace Go.Proofs.YtekbhkklaogmnaaDoor
open Go.RowKit
set_option linter.unusedVariables false
set_option maxRecDepth 100000

def ordW (wd b : Int) : Int := if wd = 32 then ordN 2147483648 2139095040 b else ordN 9223372036854775808 9218868437227405312 b
def ordK (wd b : Int) : Bool := if wd = 32 then ordB 2147483648 2139095040 b else ordB 9223372036854775808 9218868437227405312 b
def ofX (wd : Int) (xs : List Int) (k : Nat) : Int := ordW wd (xs.getD (2 * k) 0)
def ofY (wd : Int) (xs : List Int) (k : Nat) : Int := ordW wd (xs.getD (2 * k + 1) 0)
def ofK (wd : Int) (xs : List Int) (k : Nat) : Bool := ordK wd (xs.getD (2 * k) 0) && ordK wd (xs.getD (2 * k + 1) 0)
def ofL (wd : Int) (xs : List Int) : List (Int × Int) := madeL (xs.length / 2) (ofX wd xs) (ofY wd xs)
def ofBad (wd : Int) (xs : List Int) : Prop := (wd ≠ 32 ∧ wd ≠ 64) ∨ xs.length < 2 ∨ 12 < xs.length ∨ xs.length % 2 = 1
instance (wd : Int) (xs : List Int) : Decidable (ofBad wd xs) := by unfold ofBad; infer_instance
def ofC (wd : Int) (xs : List Int) : Int := if ofBad wd xs then 1 else if anyNo (xs.length / 2) (ofK wd xs) then 2 else if okRow wd (ofL wd xs) then 0 else 3
def ofQ (wd : Int) (xs : List Int) : List (Int × Int) := if ofC wd xs = 0 then ofL wd xs else []
theorem ordW_bd (wd b : Int) : -9223372036854775808 ≤ ordW wd b ∧ ordW wd b ≤ 9223372036854775807 := by
  unfold ordW ordN
  have h1 := Int.emod_nonneg b (show (2147483648 : Int) ≠ 0 by decide)
  have h2 := Int.emod_lt_of_pos b (show (0 : Int) < 2147483648 by decide)
  have h3 := Int.emod_nonneg b (show (9223372036854775808 : Int) ≠ 0 by decide)
  have h4 := Int.emod_lt_of_pos b (show (0 : Int) < 9223372036854775808 by decide)
  repeat' split
  all_goals omega
theorem ofL_fits (wd : Int) (xs : List Int) (n : Nat) : Fits (madeL n (ofX wd xs) (ofY wd xs)) := by
  intro p hp
  unfold madeL at hp
  obtain ⟨i, -, rfl⟩ := List.mem_map.1 hp
  exact ⟨ordW_bd _ _, ordW_bd _ _⟩
theorem anyNo_yes {n : Nat} {ok : Nat → Bool} (h : ∃ k, k < n ∧ ok k = false) : anyNo n ok = true := by
  obtain ⟨k, hk, h0⟩ := h
  unfold anyNo
  rw [Bool.not_eq_true', ← Bool.not_eq_true, List.all_eq_true]
  intro h1
  have := h1 k (List.mem_range.2 hk)
  rw [h0] at this; cases this
theorem anyNo_no {n : Nat} {ok : Nat → Bool} (h : ∀ k, k < n → ok k = true) : anyNo n ok = false := by
  unfold anyNo
  rw [Bool.not_eq_false', List.all_eq_true]
  exact fun k hk => h k (List.mem_range.1 hk)
theorem ofC_bad {wd : Int} {xs : List Int} (h : ofBad wd xs) : ofC wd xs = 1 := by unfold ofC; rw [if_pos h]
theorem ofC_no {wd : Int} {xs : List Int} (h : ¬ ofBad wd xs) (k : ∃ k, k < xs.length / 2 ∧ ofK wd xs k = false) : ofC wd xs = 2 := by unfold ofC; rw [if_neg h, anyNo_yes k]; rfl
theorem ofC_or {wd : Int} {xs : List Int} (h : ¬ ofBad wd xs) (k : ∀ k, k < xs.length / 2 → ofK wd xs k = true) (o : okRow wd (ofL wd xs) = false) : ofC wd xs = 3 := by unfold ofC; rw [if_neg h, anyNo_no k, o]; rfl
theorem ofC_ok {wd : Int} {xs : List Int} (h : ¬ ofBad wd xs) (k : ∀ k, k < xs.length / 2 → ofK wd xs k = true) (o : okRow wd (ofL wd xs) = true) : ofC wd xs = 0 := by unfold ofC; rw [if_neg h, anyNo_no k, o]; rfl
theorem ofQ_no {wd : Int} {xs : List Int} (h : ofC wd xs ≠ 0) : ofQ wd xs = [] := by unfold ofQ; rw [if_neg h]
theorem ofQ_ok {wd : Int} {xs : List Int} (h : ofC wd xs = 0) : ofQ wd xs = ofL wd xs := by unfold ofQ; rw [if_pos h]
theorem as_box (c : Int) (W : World) (B : Nat) (hBW : B = W.heap.size) (hg : ET W) : Calls Tryd.prog 16 #[.iface 46 (.agg #[.int .i64 c]), .iface 48 (.pointer (some ⟨B, 0, none⟩))] (W.alloc (.cells #[.int .i64 0] 46)) fun e w' => e = .returned (.bool true) ∧ w'.cell? ⟨B, 0, none⟩ = some (.int .i64 c) ∧ Below W.heap.size W w' := by
  subst hBW
  have h0 : (W.alloc (.cells #[.int .i64 0] 46)).cell? ⟨W.heap.size, 0, none⟩ = some (.int .i64 0) := by simp
  have h1 : (W.alloc (.cells #[.int .i64 0] 46)).frozen? ⟨W.heap.size, 0, none⟩ = false := by simp
  have hw : Below W.heap.size W (W.alloc (.cells #[.int .i64 0] 46)) := old_alloc (Below.refl _ _) _
  generalize W.alloc (.cells #[.int .i64 0] 46) = V at *
  refine (as_hit c ⟨W.heap.size, 0, none⟩ (.int .i64 0) V (hg.old hw) h0 h1).mono ?_
  rintro e w' ⟨rfl, rfl⟩
  have hb : ∀ o1 o2 o3 o4 : Obj, Below V.heap.size V ((((V.alloc o1).alloc o2).alloc o3).alloc o4) := fun o1 o2 o3 o4 => old_alloc (old_alloc (old_alloc (old_alloc (Below.refl _ _) _) _) _) _
  exact ⟨rfl, World.cell?_setCell_same _ _ _ (cell_later (hb _ _ _ _) h0), (old_trans hw (hb _ _ _ _)).setCell (p := ⟨W.heap.size, 0, none⟩) (Nat.le_refl _) _⟩
theorem iOrdW (wd : Int) (hw : wd = 32 ∨ wd = 64) (b : Int) (h : 0 ≤ b ∧ b ≤ 18446744073709551615) (w : World) :
    Calls Tryd.prog 25 #[.int .i64 wd, .int .u64 b] w fun e w' => e = .returned (.tuple #[.int .i64 (ordW wd b), .bool (ordK wd b)]) ∧ Below w.heap.size w w' := by
  rcases hw with rfl | rfl
  · have e1 : ordW 32 b = ordN 2147483648 2139095040 b := by unfold ordW; rw [if_pos rfl]
    have e2 : ordK 32 b = ordB 2147483648 2139095040 b := by unfold ordK; rw [if_pos rfl]
    rw [e1, e2]
    exact iBitOrd_32 b h.1 (by omega) w
  · have e1 : ordW 64 b = ordN 9223372036854775808 9218868437227405312 b := by unfold ordW; rw [if_neg (by decide)]
    have e2 : ordK 64 b = ordB 9223372036854775808 9218868437227405312 b := by unfold ordK; rw [if_neg (by decide)]
    rw [e1, e2]
    exact iBitOrd_64 b h.1 (by omega) w
theorem sOrdW (wd : Int) (hw : wd = 32 ∨ wd = 64) (b : Int) (h : 0 ≤ b ∧ b ≤ 18446744073709551615) (w : World) :
    Calls Tryd.prog 13 #[.int .i64 wd, .int .u64 b] w fun e w' => e = .returned (.tuple #[.int .i64 (ordW wd b), .bool (ordK wd b)]) ∧ Below w.heap.size w w' := by
  rcases hw with rfl | rfl
  · have e1 : ordW 32 b = ordN 2147483648 2139095040 b := by unfold ordW; rw [if_pos rfl]
    have e2 : ordK 32 b = ordB 2147483648 2139095040 b := by unfold ordK; rw [if_pos rfl]
    rw [e1, e2]
    exact sBitOrd_32 b h.1 (by omega) w
  · have e1 : ordW 64 b = ordN 9223372036854775808 9218868437227405312 b := by unfold ordW; rw [if_neg (by decide)]
    have e2 : ordK 64 b = ordB 9223372036854775808 9218868437227405312 b := by unfold ordK; rw [if_neg (by decide)]
    rw [e1, e2]
    exact sBitOrd_64 b h.1 (by omega) w
theorem iFormOfB (wd : Int) (w : World) :
    Calls Tryd.prog 22 #[.int .i64 wd] w fun e w' => (∃ v, e = .returned (.tuple #[v, .bool (decide (wd = 32 ∨ wd = 64))])) ∧ Below w.heap.size w w' := by
  by_cases c1 : wd = 32
  · subst c1; exact (formOf_32 w).mono fun e w' h => ⟨⟨_, h.1⟩, h.2⟩
  by_cases c2 : wd = 64
  · subst c2; exact (formOf_64 w).mono fun e w' h => ⟨⟨_, h.1⟩, h.2⟩
  rw [decide_eq_false (by simp [c1, c2])]
  exact (formOf_no wd w (by simp; omega) (by simp; omega)).mono fun e w' h => ⟨⟨_, h.1⟩, h.2⟩
set_option maxHeartbeats 4000000 in
theorem iFrom1 (wd : Int) (hw : wd = 32 ∨ wd = 64) (a : Option Addr) (len cap : Nat) (xs : List Int) (B C k : Nat) (hk : 2 * k + 1 < len) (w : World) (hR : InU w a len cap xs) (hB : w.cell? ⟨B, 0, none⟩ = some (.int .i64 wd)) (hBl : B < w.heap.size) (hC : w.cell? ⟨C, 0, none⟩ = some (.slice a len cap)) (hCl : C < w.heap.size) :
    Calls Tryd.prog 24 #[.int .i64 (k : Int), .pointer (some ⟨B, 0, none⟩), .pointer (some ⟨C, 0, none⟩)] w fun e w' => e = .returned (.tuple #[.agg #[.int .i64 (ofX wd xs k), .int .i64 (ofY wd xs k)], .bool (ofK wd xs k)]) ∧ Below w.heap.size w w' := by
  have hlen := hR.len
  obtain ⟨b, off, x, rfl, hbl, hx, hxb, c0⟩ := hR.at (k := 2 * k) (by omega)
  obtain ⟨b', off', y, e', -, hy, hyb, c1⟩ := hR.at (k := 2 * k + 1) hk
  injection e' with e'; injection e' with e1 e2; subst e1 e2
  have E1 := hd (iOrdW wd hw x hxb)
  have E2 := hd (iOrdW wd hw y hyb)
  have hX : ofX wd xs k = ordW wd x := by unfold ofX; rw [hx]
  have hY : ofY wd xs k = ordW wd y := by unfold ofY; rw [hy]
  have hK : ofK wd xs k = (ordK wd x && ordK wd y) := by unfold ofK; rw [hx, hy]
  rw [hX, hY, hK]
  clear hX hY hK hx hy hxb hyb hw
  generalize ordW wd x = u at *
  generalize ordW wd y = v at *
  generalize ordK wd x = p at *
  generalize ordK wd y = q at *
  have hw1 : IntKind.i64.wrap (2 * (k : Int)) = ((2 * k : Nat) : Int) := by rw [IntKind.wrap_i64]; omega
  have hw2 : IntKind.i64.wrap (((2 * k : Nat) : Int) + 1) = ((2 * k + 1 : Nat) : Int) := by rw [IntKind.wrap_i64]; omega
  have g1 : (0 : Int) ≤ ((2 * k : Nat) : Int) := by omega
  have g2 : ((2 * k : Nat) : Int) < (len : Int) := by omega
  have g3 : (0 : Int) ≤ ((2 * k + 1 : Nat) : Int) := by omega
  have g4 : ((2 * k + 1 : Nat) : Int) < (len : Int) := by omega
  generalize hm : 2 * k = m at *
  generalize hm2 : m + 1 = m2 at *
  have N : Cel2 (w.alloc (.cells #[.int .i64 0, .int .i64 0] 39)) w.heap.size (.int .i64 0) (.int .i64 0) := Cel2.made w _ rfl _ _ _
  have hb0 : Below w.heap.size w (w.alloc (.cells #[.int .i64 0, .int .i64 0] 39)) := old_alloc (Below.refl _ _) _
  have B0 := cell_later hb0 hB
  have C0 := cell_later hb0 hC
  have d0 := cell_later hb0 c0
  have d1 := cell_later hb0 c1
  clear hB hC c0 c1 hR
  go_enter Tryd.func24, Tryd.ntmps24
  go_wp2_with fail
  generalize w.alloc (.cells #[.int .i64 0, .int .i64 0] 39) = W0 at *
  go_region_held3 (fun w' => w'.cell? ⟨B, 0, none⟩ = some (.int .i64 wd) ∧ w'.cell? ⟨C, 0, none⟩ = some (.slice (some ⟨b, off, none⟩) len cap) ∧ w'.cell? ⟨b, off + m, none⟩ = some (.int .u64 x)) (go_keep) (first | (go_at_call 25; refine (E1.out _).mono ?_; rintro e w1 ⟨rfl, hb1⟩; have hz1 : Below W0.heap.size W0 w1 := (by repeat (first | with_reducible exact Below.refl _ _ | with_reducible refine Below.drew ?_ | with_reducible refine old_alloc ?_ _ | with_reducible refine old_trans ?_ (by with_reducible assumption))); have B0 := cell_later hz1 B0; have C0 := cell_later hz1 C0; have d0 := cell_later hz1 d0))
  replace N := N.later hz1
  replace d1 := cell_later hz1 d1
  replace hb0 := old_trans hb0 hz1
  clear hz1 hb1
  go_wp2_with fail
  go_region_held3 (fun w' => w'.cell? ⟨B, 0, none⟩ = some (.int .i64 wd) ∧ w'.cell? ⟨C, 0, none⟩ = some (.slice (some ⟨b, off, none⟩) len cap) ∧ w'.cell? ⟨b, off + m2, none⟩ = some (.int .u64 y)) (go_keep) (first | (go_at_call 25; refine (E2.out _).mono ?_; rintro e w2 ⟨rfl, hb2⟩; have hz2 : Below w1.heap.size w1 w2 := (by repeat (first | with_reducible exact Below.refl _ _ | with_reducible refine Below.drew ?_ | with_reducible refine old_alloc ?_ _ | with_reducible refine old_trans ?_ (by with_reducible assumption))); have B0 := cell_later hz2 B0; have C0 := cell_later hz2 C0; have d1 := cell_later hz2 d1))
  replace N := N.later hz2
  replace hb0 := old_trans hb0 hz2
  obtain ⟨n0, n1, n2, n3, n4⟩ := id N
  have N2 := N.stored (.int .i64 u) (.int .i64 v)
  have hBf := (hb0.setCell (p := ⟨w.heap.size, 0, none⟩) (by simp) (.int .i64 u)).setCell (p := ⟨w.heap.size, 1, none⟩) (by simp) (.int .i64 v)
  cases p <;> cases q
  all_goals
    go_wp2
    first
    | (refine bodyPost_ret (v := .tuple #[.agg #[.int .i64 u, .int .i64 v], .bool true]) ?_ rfl ⟨rfl, hBf⟩; (simp [results, Tryd.results24, go_sem, N2.1, N2.2.1]; done))
    | (refine bodyPost_ret (v := .tuple #[.agg #[.int .i64 u, .int .i64 v], .bool false]) ?_ rfl ⟨rfl, hBf⟩; (simp [results, Tryd.results24, go_sem, N2.1, N2.2.1]; done))
end Go.Proofs.YtekbhkklaogmnaaDoor
