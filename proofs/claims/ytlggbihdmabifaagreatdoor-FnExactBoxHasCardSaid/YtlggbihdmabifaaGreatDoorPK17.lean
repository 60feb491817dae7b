/- Fractions in memory: a law's own size, copy and comparison of them. Conditions: lists of 2^20 numbers at most. -/
import Derived.Test.YtlggbihdmabifaaGreatDoorPK08
import Derived.Deep.RegionHeld3
import Derived.Test.YtlggbihdmabifaaGreatDoorPK16
import Derived.Test.YtlggbihdmabifaaGreatDoorPK03
import Derived.Test.YtlggbihdmabifaaGreatDoorPK15
import Derived.Test.YtlggbihdmabifaaGreatDoorPK14
namespace Go.Proofs.YtlggbihdmabifaaGreatDoor
open Go.RowKit
set_option linter.unusedVariables false
set_option maxRecDepth 100000

/-- a block of three values -/
def Cel3 (w : World) (b : Nat) (v0 v1 v2 : Value) : Prop := b < w.heap.size ∧ (w.cell? ⟨b, 0, none⟩ = some v0 ∧ w.cell? ⟨b, 1, none⟩ = some v1 ∧ w.cell? ⟨b, 2, none⟩ = some v2) ∧ w.frozen? ⟨b, 0, none⟩ = false ∧ w.frozen? ⟨b, 1, none⟩ = false ∧ w.frozen? ⟨b, 2, none⟩ = false
theorem Cel3.old {w w' : World} {b : Nat} {v0 v1 v2 : Value} (h : Cel3 w b v0 v1 v2) (g : Below w.heap.size w w') : Cel3 w' b v0 v1 v2 := by
  obtain ⟨h1, ⟨a, b', c⟩, e, f, g'⟩ := h
  exact ⟨Nat.lt_of_lt_of_le h1 g.size, ⟨(g.cell (p := ⟨b, 0, none⟩) h1).trans a, (g.cell (p := ⟨b, 1, none⟩) h1).trans b', (g.cell (p := ⟨b, 2, none⟩) h1).trans c⟩, (g.frozen (p := ⟨b, 0, none⟩) h1).trans e, (g.frozen (p := ⟨b, 1, none⟩) h1).trans f, (g.frozen (p := ⟨b, 2, none⟩) h1).trans g'⟩
theorem Cel3.new (w : World) (v0 v1 v2 : Value) (t : TypeId) : Cel3 (w.alloc (.cells #[v0, v1, v2] t)) w.heap.size v0 v1 v2 := by
  refine ⟨by simp, ⟨?_, ?_, ?_⟩, ?_, ?_, ?_⟩ <;> simp [go_sem]
theorem Cel3.kept {w w' : World} {b : Nat} {v0 v1 v2 : Value} {row : Option Nat} (h : Cel3 w b v0 v1 v2) (g : w.grownBy w' row) (hne : some b ≠ row) : Cel3 w' b v0 v1 v2 := by
  obtain ⟨h1, ⟨a, b', c⟩, e, f, g'⟩ := h
  have k := g.block b h1 hne
  exact ⟨Nat.lt_of_lt_of_le h1 g.size, ⟨(World.cell?_of_block (a := ⟨b, 0, none⟩) k).trans a, (World.cell?_of_block (a := ⟨b, 1, none⟩) k).trans b', (World.cell?_of_block (a := ⟨b, 2, none⟩) k).trans c⟩, (World.frozen?_of_block (a := ⟨b, 0, none⟩) k).trans e, (World.frozen?_of_block (a := ⟨b, 1, none⟩) k).trans f, (World.frozen?_of_block (a := ⟨b, 2, none⟩) k).trans g'⟩
theorem Cel3.far {W : World} {b c i : Nat} {v0 v1 v2 v : Value} (h : Cel3 W b v0 v1 v2) (hn : b ≠ c) : Cel3 (W.setCell ⟨c, i, none⟩ v) b v0 v1 v2 := by
  obtain ⟨h1, ⟨a0, a1, a2⟩, f0, f1, f2⟩ := h
  have o : ∀ (j : Nat), (W.setCell ⟨c, i, none⟩ v).cell? ⟨b, j, none⟩ = W.cell? ⟨b, j, none⟩ := fun j => World.cell?_setCell_other _ _ _ _ (by intro h; injection h with h2 _; omega)
  exact ⟨by simpa [World.setCell] using h1, ⟨(o 0).trans a0, (o 1).trans a1, (o 2).trans a2⟩, by simpa using f0, by simpa using f1, by simpa using f2⟩
theorem setO (W : World) (b i j : Nat) (v : Value) (hn : i ≠ j) : (W.setCell ⟨b, j, none⟩ v).cell? ⟨b, i, none⟩ = W.cell? ⟨b, i, none⟩ := World.cell?_setCell_other _ _ _ _ (by intro h; injection h with _ h2; omega)
theorem Cel3.set1 {W : World} {b : Nat} {v0 v1 v2 : Value} (h : Cel3 W b v0 v1 v2) (v : Value) : Cel3 (W.setCell ⟨b, 1, none⟩ v) b v0 v v2 := by
  obtain ⟨h1, ⟨a0, a1, a2⟩, f0, f1, f2⟩ := h
  exact ⟨by simpa [World.setCell] using h1, ⟨(setO _ _ _ _ _ (by omega)).trans a0, World.cell?_setCell_same _ _ _ a1, (setO _ _ _ _ _ (by omega)).trans a2⟩, by simpa using f0, by simpa using f1, by simpa using f2⟩
theorem Cel3.set2 {W : World} {b : Nat} {v0 v1 v2 : Value} (h : Cel3 W b v0 v1 v2) (v : Value) : Cel3 (W.setCell ⟨b, 2, none⟩ v) b v0 v1 v := by
  obtain ⟨h1, ⟨a0, a1, a2⟩, f0, f1, f2⟩ := h
  exact ⟨by simpa [World.setCell] using h1, ⟨(setO _ _ _ _ _ (by omega)).trans a0, (setO _ _ _ _ _ (by omega)).trans a1, World.cell?_setCell_same _ _ _ a2⟩, by simpa using f0, by simpa using f1, by simpa using f2⟩
theorem Cel3.set0 {W : World} {b : Nat} {v0 v1 v2 : Value} (h : Cel3 W b v0 v1 v2) (v : Value) : Cel3 (W.setCell ⟨b, 0, none⟩ v) b v v1 v2 := by
  obtain ⟨h1, ⟨a0, a1, a2⟩, f0, f1, f2⟩ := h
  exact ⟨by simpa [World.setCell] using h1, ⟨World.cell?_setCell_same _ _ _ a0, (setO _ _ _ _ _ (by omega)).trans a1, (setO _ _ _ _ _ (by omega)).trans a2⟩, by simpa using f0, by simpa using f1, by simpa using f2⟩
theorem below_set {n : Nat} {a W : World} (h : Below n a W) {b i : Nat} (hb : n ≤ b) (v : Value) : Below n a (W.setCell ⟨b, i, none⟩ v) := h.setCell (p := ⟨b, i, none⟩) hb _

theorem grown_refl (w : World) (r : Option Nat) : w.grownBy w r := ⟨rfl, rfl, rfl, Nat.le_refl _, fun _ _ _ => rfl⟩
theorem oi_setFar {w : World} {base cv b i : Nat} {av : Option Addr} {xs : List Int} {v : Value} (h : OI w base av cv xs) (hb : b < base) : OI (w.setCell ⟨b, i, none⟩ v) base av cv xs :=
  h.kept (grown_set (grown_refl w (some b)) i v) (fun q e e2 => by have := h.ge q e; injection e2 with e2; omega)
theorem oi_set3 {w : World} {base cv b : Nat} {av : Option Addr} {xs : List Int} {v0 v1 v2 : Value} (h : OI w base av cv xs) (hb : b < base) : OI (((w.setCell ⟨b, 0, none⟩ v0).setCell ⟨b, 1, none⟩ v1).setCell ⟨b, 2, none⟩ v2) base av cv xs :=
  oi_setFar (oi_setFar (oi_setFar h hb) hb) hb
theorem setCell_size (w : World) (a : Addr) (v : Value) : (w.setCell a v).heap.size = w.heap.size := by simp [World.setCell]
theorem Cel3.setAll {W : World} {b : Nat} {u0 u1 u2 : Value} (h : Cel3 W b u0 u1 u2) (v0 v1 v2 : Value) : Cel3 (((W.setCell ⟨b, 0, none⟩ v0).setCell ⟨b, 1, none⟩ v1).setCell ⟨b, 2, none⟩ v2) b v0 v1 v2 := ((h.set0 v0).set1 v1).set2 v2
set_option maxHeartbeats 800000 in
theorem lSzInts (a : Option Addr) (len cap : Nat) (left : Int) (w : World) (hlen : len ≤ maxLen) (h0 : 0 ≤ left) (h1 : left ≤ 1048576) :
    Calls Tryz.prog 24 #[.slice a len cap, .int .i64 left] w fun e w' => e = .returned (.int .i64 (if (len : Int) ≤ left then left - len else -1)) ∧ w' = w := by
  unfold maxLen at hlen
  by_cases c : (len : Int) ≤ left
  · rw [if_pos c]
    have c' : ¬ (left - (len : Int) < 0) := by omega
    go_enter Tryz.func24, Tryz.ntmps24
    go_wp2
    go_ret
    exact ⟨rfl, rfl⟩
  · rw [if_neg c]
    have c' : left - (len : Int) < 0 := by omega
    go_enter Tryz.func24, Tryz.ntmps24
    go_wp2
    go_ret
    exact ⟨rfl, rfl⟩
def szF (l1 l2 : Nat) (left : Int) : Int := if (l1 : Int) + l2 ≤ left then left - l1 - l2 else -1
set_option maxHeartbeats 2000000 in
theorem lSzFrac (b : Bool) (a a' : Option Addr) (l l' c c' : Nat) (left : Int) (w : World) (hlen : l ≤ maxLen) (hlen' : l' ≤ maxLen) (h0 : 0 ≤ left) (h1 : left ≤ 1048576) :
    Calls Tryz.prog 13 #[.agg #[.bool b, .slice a l c, .slice a' l' c'], .int .i64 left] w fun e w' => e = .returned (.int .i64 (szF l l' left)) ∧ Below w.heap.size w w' := by
  have S1 := hd (fun w' => lSzInts a l c left w' hlen h0 h1)
  unfold szF
  by_cases k : (l : Int) ≤ left
  · have S2 := hd (fun w' => lSzInts a' l' c' (left - l) w' hlen' (by omega) (by omega))
    rw [if_pos k] at S1
    have g1 : ¬ (left - (l : Int) < 0) := by omega
    by_cases k2 : (l' : Int) ≤ left - l
    · rw [if_pos k2] at S2
      rw [if_pos (by omega)]
      have g2 : ¬ (left - (l : Int) - (l' : Int) < 0) := by omega
      go_enter Tryz.func13, Tryz.ntmps13
      go_wp2_with fail
      refine (S1.out _).mono ?_
      rintro e w1 ⟨rfl, rfl⟩
      go_wp2_with fail
      refine (S2.out _).mono ?_
      rintro e w1 ⟨rfl, rfl⟩
      go_wp2
      go_ret
      exact ⟨rfl, (by repeat (first | exact Below.refl _ _ | refine Below.drew ?_ | refine old_alloc ?_ _ | refine old_trans ?_ (by assumption)))⟩
    · rw [if_neg k2] at S2
      rw [if_neg (by omega)]
      go_enter Tryz.func13, Tryz.ntmps13
      go_wp2_with fail
      refine (S1.out _).mono ?_
      rintro e w1 ⟨rfl, rfl⟩
      go_wp2_with fail
      refine (S2.out _).mono ?_
      rintro e w1 ⟨rfl, rfl⟩
      go_wp2
      go_ret
      exact ⟨rfl, (by repeat (first | exact Below.refl _ _ | refine Below.drew ?_ | refine old_alloc ?_ _ | refine old_trans ?_ (by assumption)))⟩
  · rw [if_neg k] at S1
    rw [if_neg (by omega)]
    go_enter Tryz.func13, Tryz.ntmps13
    go_wp2_with fail
    refine (S1.out _).mono ?_
    rintro e w1 ⟨rfl, rfl⟩
    go_wp2
    go_ret
    exact ⟨rfl, (by repeat (first | exact Below.refl _ _ | refine Below.drew ?_ | refine old_alloc ?_ _ | refine old_trans ?_ (by assumption)))⟩
set_option maxHeartbeats 2000000 in
theorem toFracO (b : Bool) (a a' : Option Addr) (c c' : Nat) (xs ys : List Int) (w : World) (hA : InI w a xs.length c xs) (hB : InI w a' ys.length c' ys) (hl : xs.length ≤ 1048576) (hl' : ys.length ≤ 1048576) :
    Calls Tryz.prog 17 #[.agg #[.bool b, .slice a xs.length c, .slice a' ys.length c']] w fun e w' => (∃ av cv av' cv', e = .returned (.agg #[.bool b, .slice av xs.length cv, .slice av' ys.length cv']) ∧ OI w' w.heap.size av cv xs ∧ OI w' w.heap.size av' cv' ys ∧ Sep av av') ∧ Below w.heap.size w w' := by
  have T1 := hd (fun w' (h : Below w.heap.size w w') => toIntsO a c xs w' (hA.old h) hl)
  have T2 := hd (fun w' (h : Below w.heap.size w w') => toIntsO a' c' ys w' (hB.old h) hl')
  have e0 : Below w.heap.size w (((w.alloc (.cells #[.bool b, .slice a xs.length c, .slice a' ys.length c'] 42)).alloc (.cells #[.bool false, .slice none 0 0, .slice none 0 0] 47)).alloc (.cells #[.bool b, .slice none 0 0, .slice none 0 0] 47)) := (by repeat (first | exact Below.refl _ _ | refine Below.drew ?_ | refine old_alloc ?_ _ | refine old_trans ?_ (by assumption)))
  have K1 := ((Cel3.new w (.bool b) (.slice a xs.length c) (.slice a' ys.length c') 42).old (old_alloc (Below.refl _ _) (.cells #[.bool false, .slice none 0 0, .slice none 0 0] 47))).old (old_alloc (Below.refl _ _) (.cells #[.bool b, .slice none 0 0, .slice none 0 0] 47))
  have K2 := (Cel3.new (w.alloc (.cells #[.bool b, .slice a xs.length c, .slice a' ys.length c'] 42)) (.bool false) (.slice none 0 0) (.slice none 0 0) 47).old (old_alloc (Below.refl _ _) (.cells #[.bool b, .slice none 0 0, .slice none 0 0] 47))
  have K3 := Cel3.new ((w.alloc (.cells #[.bool b, .slice a xs.length c, .slice a' ys.length c'] 42)).alloc (.cells #[.bool false, .slice none 0 0, .slice none 0 0] 47)) (.bool b) (.slice none 0 0) (.slice none 0 0) 47
  simp only [World.size_alloc] at K2 K3
  go_enter Tryz.func17, Tryz.ntmps17
  go_wp2_with fail
  refine (T1.out _ e0).mono ?_
  rintro e w1 ⟨⟨av, cv, rfl, hO⟩, hb1⟩
  replace K1 := K1.old hb1
  replace K2 := K2.old hb1
  replace K3 := K3.old hb1
  have hB1 := old_trans e0 hb1
  have hbase : w.heap.size + 3 ≤ (((w.alloc (.cells #[.bool b, .slice a xs.length c, .slice a' ys.length c'] 42)).alloc (.cells #[.bool false, .slice none 0 0, .slice none 0 0] 47)).alloc (.cells #[.bool b, .slice none 0 0, .slice none 0 0] 47)).heap.size := by simp
  generalize ((w.alloc (.cells #[.bool b, .slice a xs.length c, .slice a' ys.length c'] 42)).alloc (.cells #[.bool false, .slice none 0 0, .slice none 0 0] 47)).alloc (.cells #[.bool b, .slice none 0 0, .slice none 0 0] 47) = W0 at *
  obtain ⟨k1, ⟨k2, k3, k4⟩, -⟩ := id K1
  obtain ⟨m1, ⟨m2, m3, m4⟩, m5, m6, m7⟩ := id K3
  clear hb1 e0
  go_wp2_with fail
  have hS : Below w.heap.size w (w1.setCell ⟨w.heap.size + 1 + 1, 1, none⟩ (.slice av xs.length cv)) := below_set hB1 (by omega) _
  refine (T2.out _ hS).mono ?_
  rintro e w2 ⟨⟨av', cv', rfl, hO'⟩, hb2⟩
  have q1 := oi_setFar hO (b := w.heap.size + 1 + 1) (i := 1) (v := .slice av xs.length cv) (by omega)
  have hsep := OI.sepOf q1 hO' (Nat.le_refl _)
  have q2 := q1.later hb2
  have hsz : w.heap.size + 3 ≤ (w1.setCell ⟨w.heap.size + 1 + 1, 1, none⟩ (.slice av xs.length cv)).heap.size := by rw [setCell_size]; omega
  have q3' := hO'.mono hsz
  replace K2 := (K2.far (c := w.heap.size + 1 + 1) (i := 1) (v := .slice av xs.length cv) (by omega)).old hb2
  replace K3 := (K3.set1 (.slice av xs.length cv)).old hb2
  replace K1 := (K1.far (c := w.heap.size + 1 + 1) (i := 1) (v := .slice av xs.length cv) (by omega)).old hb2
  have hB2 := old_trans hS hb2
  clear k1 k2 k3 k4 m1 m2 m3 m4 m5 m6 m7 hO hO' q1 hb2 hS hB1 T1 T2
  obtain ⟨k1, ⟨k2, k3, k4⟩, -⟩ := id K1
  obtain ⟨m1, ⟨m2, m3, m4⟩, m5, m6, m7⟩ := id K3
  have K3' := K3.set2 (.slice av' ys.length cv')
  have K2' := K2.far (c := w.heap.size + 1 + 1) (i := 2) (v := .slice av' ys.length cv') (by omega)
  have q4 := oi_setFar q2 (b := w.heap.size + 1 + 1) (i := 2) (v := .slice av' ys.length cv') (by omega)
  have q5 := oi_setFar q3' (b := w.heap.size + 1 + 1) (i := 2) (v := .slice av' ys.length cv') (by omega)
  have hB3 : Below w.heap.size w (w2.setCell ⟨w.heap.size + 1 + 1, 2, none⟩ (.slice av' ys.length cv')) := below_set hB2 (by omega) _
  generalize hB7 : w2.setCell ⟨w.heap.size + 1 + 1, 2, none⟩ (.slice av' ys.length cv') = W7 at *
  obtain ⟨p1, ⟨p2, p3, p4⟩, -⟩ := id K3'
  obtain ⟨r1, ⟨r2, r3, r4⟩, r5, r6, r7⟩ := id K2'
  go_wp2
  refine bodyPost_ret (v := .agg #[.bool b, .slice av xs.length cv, .slice av' ys.length cv']) ?_ rfl ⟨⟨av, cv, av', cv', rfl, (oi_set3 q4 (by omega)).mono (by omega), (oi_set3 q5 (by omega)).mono (by omega), hsep⟩, below_set (below_set (below_set hB3 (by omega) _) (by omega) _) (by omega) _⟩
  obtain ⟨-, ⟨s2, s3, s4⟩, -⟩ := K2'.setAll (.bool b) (.slice av xs.length cv) (.slice av' ys.length cv')
  clear r1 r2 r3 r4 r5 r6 r7 p1 p2 p3 p4
  generalize ((W7.setCell ⟨w.heap.size + 1, 0, none⟩ (.bool b)).setCell ⟨w.heap.size + 1, 1, none⟩ (.slice av xs.length cv)).setCell ⟨w.heap.size + 1, 2, none⟩ (.slice av' ys.length cv') = W8 at *
  simp [results, Tryz.results17, go_sem, s2, s3, s4]
end Go.Proofs.YtlggbihdmabifaaGreatDoor

/- Fractions on the way in: two numbers, whether they are a fraction; by the program. Conditions: the library's table and its handle of errors hold what their texts lay. -/
namespace Go.Proofs.YtlggbihdmabifaaGreatDoor
open Go.RowKit
set_option linter.unusedVariables false
set_option maxRecDepth 100000

theorem natL_one : natL 1 = [1] := by
  rw [natL, dif_neg (by omega)]
  simp [natL_zero]
set_option maxHeartbeats 1000000 in
theorem iOne (w : World) : Calls Tryz.prog 75 #[] w fun e w' => (∃ av cv, e = .returned (.slice av (natL 1).length cv) ∧ OI w' w.heap.size av cv (natL 1)) ∧ Below w.heap.size w w' := by
  rw [natL_one]
  have hr : IRow (w.alloc (.cells #[.int .i64 1] 3)) w.heap.size [1] := ⟨by simp, fun i hi => by
    obtain rfl : i = 0 := by simp at hi; omega
    simp⟩
  go_enter Tryz.func75, Tryz.ntmps75
  go_wp2
  go_ret
  exact ⟨⟨_, _, rfl, fun x hx => by simp at hx; subst hx; omega, Nat.le_refl _, by unfold maxLen; omega, .inr ⟨_, rfl, Nat.le_refl _, hr⟩⟩, (by repeat (first | exact Below.refl _ _ | refine Below.drew ?_ | refine old_alloc ?_ _ | refine old_trans ?_ (by assumption)))⟩
set_option maxHeartbeats 1000000 in
theorem iDivisor (a b : Option Addr) (la lb ca cb : Nat) (xs ys : List Int) (w : World) (hA : InI w a la ca xs) (hB : InI w b lb cb ys) (hx : digs xs) (hy : digs ys) (tx : topped xs) (ty : topped ys) (hla : la ≤ 1024) (hlb : lb ≤ 1024) (hT : Tab w) :
    Calls Tryz.prog 73 #[.agg #[.slice a la ca, .slice b lb cb]] w fun e w' => (∃ av cv, e = .returned (.slice av (natL (Nat.gcd (val xs) (val ys))).length cv) ∧ OI w' w.heap.size av cv (natL (Nat.gcd (val xs) (val ys)))) ∧ Below w.heap.size w w' := by
  have hb0 : Below w.heap.size w (w.alloc (.cells #[.slice a la ca, .slice b lb cb] 89)) := old_alloc (Below.refl _ _) _
  have C := hd (iCommon a b la lb ca cb xs ys _ (hA.old hb0) (hB.old hb0) hx hy tx ty hla hlb (hT.old hb0))
  have hs := hb0.size
  generalize natL (Nat.gcd (val xs) (val ys)) = gl at *
  go_enter Tryz.func73, Tryz.ntmps73
  go_wp2_with fail
  refine C.out.mono ?_
  rintro e w1 ⟨⟨av, cv, rfl, hO⟩, hb1⟩
  go_wp2
  go_ret
  exact ⟨⟨_, _, rfl, hO.mono hs⟩, old_trans hb0 hb1⟩
set_option maxHeartbeats 2000000 in
theorem iPairOf (a b : Option Addr) (la lb ca cb : Nat) (xs ys : List Int) (w : World) (hA : InI w a la ca xs) (hB : InI w b lb cb ys) :
    Calls Tryz.prog 72 #[.slice a la ca, .slice b lb cb] w fun e w' => ((natOk xs = true ∧ natOk ys = true ∧ e = .returned (.tuple #[.agg #[.slice a la ca, .slice b lb cb], .nilIface])) ∨ (¬ (natOk xs = true ∧ natOk ys = true) ∧ ∃ s, e = .returned (.tuple #[.agg #[.slice none 0 0, .slice none 0 0], .iface 132 (.agg #[.string s])]))) ∧ Below w.heap.size w w' := by
  have hb0 : Below w.heap.size w (w.alloc (.cells #[.slice none 0 0, .slice none 0 0] 89)) := old_alloc (Below.refl _ _) _
  have K1 := hd (iNatOk a la ca xs _ (hA.old hb0))
  have K2 := hd (iNatOk b lb cb ys _ (hB.old hb0))
  cases h1 : natOk xs
  · rw [h1] at K1
    go_enter Tryz.func72, Tryz.ntmps72
    go_wp2_with fail
    refine K1.out.mono ?_
    rintro e w1 ⟨rfl, hw⟩
    obtain rfl := hw
    go_wp2
    refine bodyPost_ret (by simp [results, Tryz.results72, go_sem]; rfl) rfl ?_
    exact ⟨.inr ⟨by simp, _, rfl⟩, (by repeat (first | exact Below.refl _ _ | refine Below.drew ?_ | refine Below.setCell ?_ (by first | (simp; done) | omega | (simp; omega)) _ | refine old_alloc ?_ _ | refine old_trans ?_ (by assumption)))⟩
  rw [h1] at K1
  cases h2 : natOk ys
  · rw [h2] at K2
    go_enter Tryz.func72, Tryz.ntmps72
    go_wp2_with fail
    refine K1.out.mono ?_
    rintro e w1 ⟨rfl, hw⟩
    obtain rfl := hw
    go_wp2_with fail
    refine K2.out.mono ?_
    rintro e w1 ⟨rfl, hw⟩
    obtain rfl := hw
    go_wp2
    refine bodyPost_ret (by simp [results, Tryz.results72, go_sem]; rfl) rfl ?_
    exact ⟨.inr ⟨by simp, _, rfl⟩, (by repeat (first | exact Below.refl _ _ | refine Below.drew ?_ | refine Below.setCell ?_ (by first | (simp; done) | omega | (simp; omega)) _ | refine old_alloc ?_ _ | refine old_trans ?_ (by assumption)))⟩
  rw [h2] at K2
  go_enter Tryz.func72, Tryz.ntmps72
  go_wp2_with fail
  refine K1.out.mono ?_
  rintro e w1 ⟨rfl, hw⟩
  obtain rfl := hw
  go_wp2_with fail
  refine K2.out.mono ?_
  rintro e w1 ⟨rfl, hw⟩
  obtain rfl := hw
  go_wp2
  refine bodyPost_ret (v := .tuple #[.agg #[.slice a la ca, .slice b lb cb], .nilIface]) ?_ rfl ⟨.inl ⟨by simp, by simp, rfl⟩, (by repeat (first | exact Below.refl _ _ | refine Below.drew ?_ | refine Below.setCell ?_ (by first | (simp; done) | omega | (simp; omega)) _ | refine old_alloc ?_ _ | refine old_trans ?_ (by assumption)))⟩
  simp [results, Tryz.results72, go_sem]
end Go.Proofs.YtlggbihdmabifaaGreatDoor

/- Whether two numbers and a sign are a fraction in lowest terms; by the program. Conditions: the library's table and its handle of errors hold what their texts lay. -/
namespace Go.Proofs.YtlggbihdmabifaaGreatDoor
open Go.RowKit
set_option linter.unusedVariables false
set_option maxRecDepth 100000

def fracOk (bl : Bool) (xs ys : List Int) : Bool := natOk xs && (natOk ys && (decide (ys.length ≠ 0) && (decide (Nat.gcd (val xs) (val ys) = 1) && !(bl && decide (xs.length = 0)))))
theorem fracOk_in {bl : Bool} {xs ys : List Int} (h : fracOk bl xs ys = true) : natOk xs = true ∧ natOk ys = true ∧ ys.length ≠ 0 ∧ Nat.gcd (val xs) (val ys) = 1 ∧ ¬ (bl = true ∧ xs.length = 0) := by
  unfold fracOk at h
  simp only [Bool.and_eq_true, decide_eq_true_eq, Bool.not_eq_true', Bool.and_eq_false_imp, decide_eq_false_iff_not] at h
  exact ⟨h.1, h.2.1, h.2.2.1, h.2.2.2.1, fun k => h.2.2.2.2 k.1 k.2⟩
theorem fracOk_mk {bl : Bool} {xs ys : List Int} (h1 : natOk xs = true) (h2 : natOk ys = true) (h3 : ys.length ≠ 0) (h4 : Nat.gcd (val xs) (val ys) = 1) (h5 : ¬ (bl = true ∧ xs.length = 0)) : fracOk bl xs ys = true := by
  unfold fracOk
  simp only [Bool.and_eq_true, decide_eq_true_eq, Bool.not_eq_true', Bool.and_eq_false_imp, decide_eq_false_iff_not]
  exact ⟨h1, h2, h3, h4, fun k e => h5 ⟨k, e⟩⟩
theorem fracOk_no {bl : Bool} {xs ys : List Int} (h : ¬ (natOk xs = true ∧ natOk ys = true ∧ ys.length ≠ 0 ∧ Nat.gcd (val xs) (val ys) = 1 ∧ ¬ (bl = true ∧ xs.length = 0))) : fracOk bl xs ys = false := by
  cases e : fracOk bl xs ys
  · rfl
  · exact absurd (fracOk_in e) h
theorem resRatio {W : World} {b : Nat} {v0 v1 v2 err : Value} {tmps : Array Value} (h : Cel3 W b v0 v1 v2) (ht : tmps[2]? = some (.pointer (some ⟨b, 0, none⟩))) (h3 : tmps[3]? = some err) : (results Tryz.f64 tmps).run Tryz.prog W = .ok (.tuple #[.agg #[v0, v1, v2], err]) W := by
  obtain ⟨h1, ⟨a0, a1, a2⟩, -⟩ := h
  simp [results, Tryz.results64, go_sem, a0, a1, a2, ht, h3]
set_option maxHeartbeats 4000000 in
theorem iRatioOf (bl : Bool) (a b : Option Addr) (la lb ca cb : Nat) (xs ys : List Int) (w : World) (hA : InI w a la ca xs) (hB : InI w b lb cb ys) (hT : Tab w) :
    Calls Tryz.prog 64 #[.agg #[.bool bl, .slice a la ca, .slice b lb cb]] w fun e w' => ((fracOk bl xs ys = true ∧ e = .returned (.tuple #[.agg #[.bool bl, .slice a la ca, .slice b lb cb], .nilIface])) ∨ (fracOk bl xs ys = false ∧ ∃ s, e = .returned (.tuple #[.agg #[.bool false, .slice none 0 0, .slice none 0 0], .iface 132 (.agg #[.string s])]))) ∧ Below w.heap.size w w' := by
  have e0 : Below w.heap.size w ((w.alloc (.cells #[.bool bl, .slice a la ca, .slice b lb cb] 47)).alloc (.cells #[.bool false, .slice none 0 0, .slice none 0 0] 91)) := (by repeat (first | exact Below.refl _ _ | refine Below.drew ?_ | refine old_alloc ?_ _ | refine old_trans ?_ (by assumption)))
  have K1 := (Cel3.new w (.bool bl) (.slice a la ca) (.slice b lb cb) 47).old (old_alloc (Below.refl _ _) (.cells #[.bool false, .slice none 0 0, .slice none 0 0] 91))
  have K2 := Cel3.new (w.alloc (.cells #[.bool bl, .slice a la ca, .slice b lb cb] 47)) (.bool false) (.slice none 0 0) (.slice none 0 0) 91
  simp only [World.size_alloc] at K2
  have P := hd (iPairOf a b la lb ca cb xs ys _ (hA.old e0) (hB.old e0))
  go_enter Tryz.func64, Tryz.ntmps64
  go_wp2_with fail
  refine P.out.mono ?_
  rintro e w1 ⟨he, hb1⟩
  have hB1 := old_trans e0 hb1
  replace K1 := K1.old hb1
  replace K2 := K2.old hb1
  obtain ⟨k1, ⟨k2, k3, k4⟩, -⟩ := id K1
  obtain ⟨m1, ⟨m2, m3, m4⟩, m5, m6, m7⟩ := id K2
  clear P hb1 e0
  have hlA := hA.len
  have hlB := hB.len
  have pA := hA.1
  have pB := hB.1
  rcases he with ⟨h1, h2, rfl⟩ | ⟨hn, s, rfl⟩
  rotate_left
  · have hf : Hid (fracOk bl xs ys = false) := fracOk_no (fun h => hn ⟨h.1, h.2.1⟩)
    clear hn
    have K3 := K2.old (old_alloc (Below.refl _ _) (.cells #[.slice none 0 0, .slice none 0 0] 89))
    go_wp2
    refine bodyPost_ret (resRatio ((K2.setAll (.bool false) (.slice none 0 0) (.slice none 0 0)).old (old_alloc (Below.refl _ _) _)) rfl rfl) rfl ⟨.inr ⟨hf.out, _, rfl⟩, old_alloc (below_set (below_set (below_set hB1 (by omega) _) (by omega) _) (by omega) _) _⟩
  have hB2 : Below w.heap.size w ((w1.alloc (.cells #[.slice a la ca, .slice b lb cb] 89)).alloc (.cells #[.bool bl, .slice a la ca, .slice b lb cb] 91)) := old_alloc (old_alloc hB1 _) _
  have K3 := (K2.old (old_alloc (Below.refl _ _) (.cells #[.slice a la ca, .slice b lb cb] 89))).old (old_alloc (Below.refl _ _) (.cells #[.bool bl, .slice a la ca, .slice b lb cb] 91))
  have K6 := Cel3.new (w1.alloc (.cells #[.slice a la ca, .slice b lb cb] 89)) (.bool bl) (.slice a la ca) (.slice b lb cb) 91
  simp only [World.size_alloc] at K6
  have hsz := hB1.size
  by_cases h3 : lb = 0
  · have hf : Hid (fracOk bl xs ys = false) := fracOk_no (fun h => h.2.2.1 (by omega))
    subst h3
    clear pB h1 h2
    go_wp2
    refine bodyPost_ret (resRatio (((K2.setAll (.bool false) (.slice none 0 0) (.slice none 0 0)).old (old_alloc (Below.refl _ _) _)).old (old_alloc (Below.refl _ _) _)) rfl rfl) rfl ⟨.inr ⟨hf.out, _, rfl⟩, old_alloc (old_alloc (below_set (below_set (below_set hB1 (by omega) _) (by omega) _) (by omega) _) _) _⟩
  have q1 := natOk_in h1
  have q2 := natOk_in h2
  have DV := hd (iDivisor a b la lb ca cb xs ys _ (hA.old hB2) (hB.old hB2) q1.2.1 q2.2.1 q1.2.2 q2.2.2 (by omega) (by omega) (hT.old hB2))
  have ON := hd iOne
  have AG := hd (fun av cv av2 cv2 base base2 w' (h : OI w' base av cv (natL (Nat.gcd (val xs) (val ys)))) (h' : OI w' base2 av2 cv2 (natL 1)) => iAgainst av av2 _ _ cv cv2 _ _ w' h.inI h'.inI (digs_natL _) (digs_natL _) (topped_natL _) (topped_natL _))
  simp only [val_natL] at AG
  have h3' : ((lb : Int) == 0) = false := by simp; omega
  have hG : Hid (Nat.gcd (val xs) (val ys) = 1 → ¬ (bl = true ∧ la = 0) → fracOk bl xs ys = true) := fun g hb => fracOk_mk h1 h2 (by omega) g (fun k => hb ⟨k.1, by omega⟩)
  have hN : Hid (¬ Nat.gcd (val xs) (val ys) = 1 → fracOk bl xs ys = false) := fun g => fracOk_no (fun h => g h.2.2.2.1)
  have hM : Hid ((bl = true ∧ la = 0) → fracOk bl xs ys = false) := fun g => fracOk_no (fun h => h.2.2.2.2 ⟨g.1, by omega⟩)
  clear h1 h2 q1 q2 pA pB h3 hA hB hT
  generalize Nat.gcd (val xs) (val ys) = gg at *
  go_wp2_with fail
  refine DV.out.mono ?_
  rintro e w3 ⟨⟨av, cv, rfl, hO⟩, hb3⟩
  go_wp2_with fail
  refine (ON.out _).mono ?_
  rintro e w4 ⟨⟨av2, cv2, rfl, hO2⟩, hb4⟩
  go_wp2_with fail
  refine (AG.out _ _ _ _ _ _ _ (hO.later hb4) hO2).mono ?_
  rintro e w5 ⟨rfl, hb5⟩
  have hB5 := old_trans (old_trans (old_trans hB2 hb3) hb4) hb5
  replace K3 := ((K3.old hb3).old hb4).old hb5
  replace K6 := ((K6.old hb3).old hb4).old hb5
  clear DV ON AG hO hO2 hb3 hb4 hb5 hB2 k1 k2 k3 k4 m1 m2 m3 m4 m5 m6 m7 K1 K2
  obtain ⟨k1, ⟨k2, k3, k4⟩, -⟩ := id K6
  obtain ⟨m1, ⟨m2, m3, m4⟩, m5, m6, m7⟩ := id K3
  by_cases hg : gg = 1
  rotate_left
  · have hf := hd (hN.out hg)
    have hc : (cmpI gg 1 == 0) = false := by
      unfold cmpI
      split
      · rfl
      · split
        · rfl
        · omega
    clear hN hG hM hg
    generalize cmpI gg 1 = cz at *
    go_wp2
    refine bodyPost_ret (resRatio (K3.setAll (.bool false) (.slice none 0 0) (.slice none 0 0)) rfl rfl) rfl ⟨.inr ⟨hf.out, _, rfl⟩, below_set (below_set (below_set hB5 (by omega) _) (by omega) _) (by omega) _⟩
  subst hg
  rw [cmpI_eq]
  by_cases hz : bl = true ∧ la = 0
  · obtain ⟨rfl, rfl⟩ := hz
    have hf := hd (hM.out ⟨rfl, rfl⟩)
    clear hN hG hM
    go_wp2
    refine bodyPost_ret (resRatio (K3.setAll (.bool false) (.slice none 0 0) (.slice none 0 0)) rfl rfl) rfl ⟨.inr ⟨hf.out, _, rfl⟩, below_set (below_set (below_set hB5 (by omega) _) (by omega) _) (by omega) _⟩
  have hf := hd (hG.out rfl hz)
  have hz' : bl = false ∨ (bl = true ∧ ((la : Int) == 0) = false) := by
    cases bl
    · exact .inl rfl
    · exact .inr ⟨rfl, beqF (Nat.pos_of_ne_zero (fun e => hz ⟨rfl, e⟩))⟩
  clear hN hG hM hz
  rcases hz' with rfl | ⟨rfl, hz⟩
  · go_wp2
    refine bodyPost_ret (resRatio (K3.setAll (.bool false) (.slice a la ca) (.slice b lb cb)) rfl rfl) rfl ⟨.inl ⟨hf.out, rfl⟩, below_set (below_set (below_set hB5 (by omega) _) (by omega) _) (by omega) _⟩
  · go_wp2
    refine bodyPost_ret (resRatio (K3.setAll (.bool true) (.slice a la ca) (.slice b lb cb)) rfl rfl) rfl ⟨.inl ⟨hf.out, rfl⟩, below_set (below_set (below_set hB5 (by omega) _) (by omega) _) (by omega) _⟩
end Go.Proofs.YtlggbihdmabifaaGreatDoor

/- Whether a fraction is in lowest terms, and its sign: by the program and by the specification; a law's own comparison of fractions. Conditions, of the program: the library's table and its handle of errors hold what their texts lay. -/
namespace Go.Proofs.YtlggbihdmabifaaGreatDoor
open Go.RowKit
set_option linter.unusedVariables false
set_option maxRecDepth 100000

theorem natL_single {g : Nat} (h : (natL g).length = 1) : natL g = [((g : Nat) : Int)] := by
  by_cases h0 : g = 0
  · subst h0; rw [natL_zero] at h; simp at h
  rw [natL, dif_neg h0] at h ⊢
  simp only [List.length_cons] at h
  have h1 : g / 65536 = 0 := natL_len0 (by omega)
  rw [h1, natL_zero]
  have : g % 65536 = g := by omega
  rw [this]
set_option maxHeartbeats 1000000 in
theorem sL6One (av : Option Addr) (cv g : Nat) (w : World) (h : InI w av (natL g).length cv (natL g)) :
    Calls Tryz.prog 42 #[.slice av (natL g).length cv] w fun e w' => e = .returned (.bool (decide (g = 1))) ∧ w' = w := by
  by_cases h1 : (natL g).length = 1
  · have e := natL_single h1
    obtain ⟨b, off, x, rfl, hbl, hx, -, c0⟩ := h.at (k := 0) (by omega)
    rw [Nat.add_zero] at c0
    rw [e] at hx
    obtain rfl : (g : Int) = x := by simpa using hx
    rw [h1]
    by_cases hg : g = 1
    · subst hg
      rw [decide_eq_true rfl]
      clear h e hx
      go_enter Tryz.func42, Tryz.ntmps42
      go_wp2
      go_ret
      exact ⟨rfl, rfl⟩
    · rw [decide_eq_false hg]
      have hg' : ((g : Int) == 1) = false := by simp; omega
      clear h e hx
      generalize (g : Int) = gI at *
      go_enter Tryz.func42, Tryz.ntmps42
      go_wp2
      go_ret
      exact ⟨rfl, rfl⟩
  · have hg : g ≠ 1 := by
      rintro rfl
      exact h1 (by rw [natL_one]; rfl)
    rw [decide_eq_false hg]
    have hl := h.len
    have hl' : (((natL g).length : Int) == 1) = false := by
      generalize (natL g).length = l at *
      simp; omega
    clear h
    generalize (natL g).length = l at *
    go_enter Tryz.func42, Tryz.ntmps42
    go_wp2
    go_ret
    exact ⟨rfl, rfl⟩
set_option maxHeartbeats 4000000 in
theorem sFracOk (bl : Bool) (a b : Option Addr) (la lb ca cb : Nat) (xs ys : List Int) (w : World) (hA : InI w a la ca xs) (hB : InI w b lb cb ys) :
    Calls Tryz.prog 26 #[.agg #[.bool bl, .slice a la ca, .slice b lb cb]] w fun e w' => e = .returned (.bool (fracOk bl xs ys)) ∧ Below w.heap.size w w' := by
  have e0 : Below w.heap.size w (w.alloc (.cells #[.bool bl, .slice a la ca, .slice b lb cb] 47)) := (by repeat (first | exact Below.refl _ _ | refine Below.drew ?_ | refine old_alloc ?_ _ | refine old_trans ?_ (by assumption)))
  have K1 := hd (sNatOk a la ca xs _ (hA.old e0))
  have K2 := hd (sNatOk b lb cb ys _ (hB.old e0))
  have hlA := hA.len
  have hlB := hB.len
  have pA := hA.1
  have pB := hB.1
  cases h1 : natOk xs
  · rw [h1] at K1
    rw [fracOk_no (fun h => by rw [h1] at h; exact absurd h.1 (by simp))]
    clear h1
    go_enter Tryz.func26, Tryz.ntmps26
    go_wp2_with fail
    refine K1.out.mono ?_
    rintro e w1 ⟨rfl, hw⟩
    obtain rfl := hw
    go_wp2
    go_ret
    exact ⟨rfl, e0⟩
  rw [h1] at K1
  cases h2 : natOk ys
  · rw [h2] at K2
    rw [fracOk_no (fun h => by rw [h2] at h; exact absurd h.2.1 (by simp))]
    clear h1 h2
    go_enter Tryz.func26, Tryz.ntmps26
    go_wp2_with fail
    refine K1.out.mono ?_
    rintro e w1 ⟨rfl, hw⟩
    obtain rfl := hw
    go_wp2_with fail
    refine K2.out.mono ?_
    rintro e w1 ⟨rfl, hw⟩
    obtain rfl := hw
    go_wp2
    go_ret
    exact ⟨rfl, e0⟩
  rw [h2] at K2
  by_cases h3 : lb = 0
  · rw [fracOk_no (fun h => h.2.2.1 (by omega))]
    subst h3
    clear h1 h2 pB
    go_enter Tryz.func26, Tryz.ntmps26
    go_wp2_with fail
    refine K1.out.mono ?_
    rintro e w1 ⟨rfl, hw⟩
    obtain rfl := hw
    go_wp2_with fail
    refine K2.out.mono ?_
    rintro e w1 ⟨rfl, hw⟩
    obtain rfl := hw
    go_wp2
    go_ret
    exact ⟨rfl, e0⟩
  have h3' := beqF (Nat.pos_of_ne_zero h3)
  by_cases h4 : bl = true ∧ la = 0
  · rw [fracOk_no (fun h => h.2.2.2.2 ⟨h4.1, by omega⟩)]
    obtain ⟨rfl, rfl⟩ := h4
    clear h1 h2 pA
    go_enter Tryz.func26, Tryz.ntmps26
    go_wp2_with fail
    refine K1.out.mono ?_
    rintro e w1 ⟨rfl, hw⟩
    obtain rfl := hw
    go_wp2_with fail
    refine K2.out.mono ?_
    rintro e w1 ⟨rfl, hw⟩
    obtain rfl := hw
    go_wp2
    go_ret
    exact ⟨rfl, e0⟩
  have q1 := natOk_in h1
  have q2 := natOk_in h2
  have G := hd (sGcd a b la lb ca cb xs ys _ (hA.old e0) (hB.old e0) q1.2.1 q2.2.1 (by omega) (by omega))
  have O := hd (fun av cv base w' (h : OI w' base av cv (natL (Nat.gcd (val xs) (val ys)))) => sL6One av cv _ w' h.inI)
  have hv : fracOk bl xs ys = decide (Nat.gcd (val xs) (val ys) = 1) := by
    by_cases hg : Nat.gcd (val xs) (val ys) = 1
    · rw [decide_eq_true hg]; exact fracOk_mk h1 h2 (by omega) hg (fun k => h4 ⟨k.1, by omega⟩)
    · rw [decide_eq_false hg]; exact fracOk_no (fun h => hg h.2.2.2.1)
  rw [hv]
  generalize decide (Nat.gcd (val xs) (val ys) = 1) = dd at *
  generalize Nat.gcd (val xs) (val ys) = gg at *
  have h4' : (((la : Int) == 0) = true ∧ bl = false) ∨ ((la : Int) == 0) = false := by
    by_cases hz : la = 0
    · refine .inl ⟨by simp; omega, ?_⟩
      cases bl
      · rfl
      · exact absurd ⟨rfl, hz⟩ h4
    · exact .inr (beqF (Nat.pos_of_ne_zero hz))
  clear h1 h2 q1 q2 pA pB hv h4 h3
  rcases h4' with ⟨h4, rfl⟩ | h4
  all_goals
    go_enter Tryz.func26, Tryz.ntmps26
    go_wp2_with fail
    refine K1.out.mono ?_
    rintro e w1 ⟨rfl, hw⟩
    obtain rfl := hw
    go_wp2_with fail
    refine K2.out.mono ?_
    rintro e w1 ⟨rfl, hw⟩
    obtain rfl := hw
    go_wp2_with fail
    refine G.out.mono ?_
    rintro e w2 ⟨⟨av, cv, rfl, hO⟩, hb2⟩
    go_wp2_with fail
    refine (O.out _ _ _ _ hO).mono ?_
    rintro e w3 ⟨rfl, hw⟩
    obtain rfl := hw
    go_wp2
    go_ret
    exact ⟨rfl, old_trans e0 hb2⟩
end Go.Proofs.YtlggbihdmabifaaGreatDoor

/- A fraction that comes in: its sign and its two lists. -/
namespace Go.Proofs.YtlggbihdmabifaaGreatDoor
open Go.ChangeShapes Go.WideShapes Go.ChangeAt Go.RowKit
set_option linter.unusedVariables false
set_option maxRecDepth 100000

section
variable {H : Type} {enc : TypeId × Value → H} {w : World} {base : Nat}
set_option maxRecDepth 100000 in
theorem open_intC {fuel : Nat} {c : Value} {y : DataW H × List MemPlace} (hf : DataW.trod enc Tryz.prog w base (fun _ => true) true fuel 40 [c] = some y) :
    ∃ (a : Option Addr) (len cap : Nat) (xs : List Int), c = .slice a len cap ∧ InI w a len cap xs := by
  rcases open_ints Tryz.underlying40 Tryz.underlying3 (by kernel_rfl) hf with ⟨hcs, _⟩ | ⟨x, l, c_, zs, hcs, _, hl, hm, hz, _, hcell, hwz⟩
  · simp at hcs
    subst hcs
    exact ⟨none, 0, 0, [], rfl, rfl, Nat.le_refl _, Nat.zero_le _, fun x hx => absurd hx (by simp), .inl rfl⟩
  · simp at hcs
    subst hcs
    have hzl : zs.length = c_ := by simpa using hz
    refine ⟨some x, l, c_, zs.take l, rfl, by simp; omega, hl, hm, ?_, ?_⟩
    · intro z hzz
      exact bounds_i64 (hwz z (List.mem_of_mem_take hzz))
    by_cases h0 : l = 0
    · exact .inl h0
    obtain ⟨b, off, spot⟩ := x
    have hc := hcell 0 (by omega)
    have hspot : spot = none := by simpa [Addr.add] using World.cell?_spot hc
    subst hspot
    have hb := World.block_lt_of_cell? w _ hc
    refine .inr ⟨b, off, rfl, by simpa [Addr.add] using hb, fun i hi => ?_⟩
    have hci := hcell i (by omega)
    have e : (⟨b, off, none⟩ : Addr).add i = ⟨b, off + i, none⟩ := by
      by_cases h : i = 0
      · subst h; simp [Addr.add]
      · simp [Addr.add, h]
    rw [e] at hci
    have eg : (zs.take l).getD i 0 = zs.getD i 0 := by simp [List.getD_eq_getElem?_getD, hi]
    rw [eg]
    exact hci
end
end Go.Proofs.YtlggbihdmabifaaGreatDoor

/- Lists of fractions in memory: where they lie, how a law opens them. No condition. -/
namespace Go.Proofs.YtlggbihdmabifaaGreatDoor
open Go.ChangeShapes Go.WideShapes Go.ChangeAt Go.RowKit
set_option linter.unusedVariables false
set_option maxRecDepth 100000

structure Fe where
  b : Bool
  a : Option Addr
  c : Nat
  xs : List Int
  a' : Option Addr
  c' : Nat
  ys : List Int
def fe0 : Fe := ⟨false, none, 0, [], none, 0, []⟩
/-- its numbers lie in memory -/
def FeIn (w : World) (f : Fe) : Prop := InI w f.a f.xs.length f.c f.xs ∧ InI w f.a' f.ys.length f.c' f.ys
def FeC (w : World) (b o : Nat) (f : Fe) : Prop := w.cell? ⟨b, o, none⟩ = some (.bool f.b) ∧ w.cell? ⟨b, o + 1, none⟩ = some (.slice f.a f.xs.length f.c) ∧ w.cell? ⟨b, o + 2, none⟩ = some (.slice f.a' f.ys.length f.c')
def InF (w : World) (a : Option Addr) (len cap : Nat) (fs : List Fe) : Prop :=
  fs.length = len ∧ len ≤ cap ∧ cap ≤ maxLen ∧ (∀ f ∈ fs, FeIn w f) ∧
  (len = 0 ∨ ∃ b off : Nat, a = some ⟨b, off, none⟩ ∧ b < w.heap.size ∧ ∀ i, i < len → FeC w b (off + i * 3) (fs.getD i fe0))
theorem FeIn.old {w w' : World} {f : Fe} (h : FeIn w f) (k : Below w.heap.size w w') : FeIn w' f := ⟨h.1.old k, h.2.old k⟩
theorem FeC.old {w w' : World} {b o : Nat} {f : Fe} (h : FeC w b o f) (k : Below w.heap.size w w') (hb : b < w.heap.size) : FeC w' b o f := by
  obtain ⟨h0, h1, h2⟩ := h
  exact ⟨(k.cell (p := ⟨b, o, none⟩) hb).trans h0, (k.cell (p := ⟨b, o + 1, none⟩) hb).trans h1, (k.cell (p := ⟨b, o + 2, none⟩) hb).trans h2⟩
theorem InF.old {w w' : World} {a : Option Addr} {len cap : Nat} {fs : List Fe} (h : InF w a len cap fs) (b : Below w.heap.size w w') : InF w' a len cap fs := by
  obtain ⟨h1, h2, h3, h4, h5⟩ := h
  refine ⟨h1, h2, h3, fun f hf => (h4 f hf).old b, ?_⟩
  rcases h5 with h5 | ⟨bb, off, q1, q2, q3⟩
  · exact .inl h5
  · exact .inr ⟨bb, off, q1, Nat.lt_of_lt_of_le q2 b.size, fun i hi => (q3 i hi).old b q2⟩
theorem InF.al {w : World} {a : Option Addr} {len cap : Nat} {fs : List Fe} (h : InF w a len cap fs) (o : Obj) : InF (w.alloc o) a len cap fs := h.old ((Below.refl _ _).alloc (Nat.le_refl _) o)
theorem InF.dr {w : World} {a : Option Addr} {len cap : Nat} {fs : List Fe} (h : InF w a len cap fs) : InF w.drew a len cap fs := h.old (Below.drew (Below.refl _ _))
theorem getD_memF {fs : List Fe} {k : Nat} (hk : k < fs.length) : fs.getD k fe0 ∈ fs := by
  have e2 : fs.getD k fe0 = fs[k]'hk := by rw [List.getD_eq_getElem?_getD, List.getElem?_eq_getElem hk]; rfl
  rw [e2]
  exact List.getElem_mem _
theorem InF.at {w : World} {a : Option Addr} {len cap : Nat} {fs : List Fe} (h : InF w a len cap fs) {i : Nat} (hi : i < len) : ∃ (bl off : Nat) (f : Fe), a = some ⟨bl, off, none⟩ ∧ bl < w.heap.size ∧ fs.getD i fe0 = f ∧ FeIn w f ∧ w.cell? ⟨bl, off + i * 3, none⟩ = some (.bool f.b) ∧ w.cell? ⟨bl, off + i * 3 + 1, none⟩ = some (.slice f.a f.xs.length f.c) ∧ w.cell? ⟨bl, off + i * 3 + 2, none⟩ = some (.slice f.a' f.ys.length f.c') := by
  rcases h.2.2.2.2 with h0 | ⟨b, off, e, hb, hc⟩
  · omega
  · have hl := h.1
    obtain ⟨q0, q1, q2⟩ := hc i hi
    exact ⟨b, off, _, e, hb, rfl, h.2.2.2.1 _ (getD_memF (by omega)), q0, q1, q2⟩
/-- two of them are the same numbers -/
def FeSame (f g : Fe) : Prop := f.b = g.b ∧ f.xs = g.xs ∧ f.ys = g.ys
section
variable {H : Type} {enc : TypeId × Value → H} {w : World} {base : Nat}
set_option maxRecDepth 100000 in
theorem open_lfracs {r : Reach} {b0 : Nat} {v : Value} {d : DataW H} {p : List MemPlace} (hv : Value.okWide Tryz.prog w r b0 25 v) (h : DataW.Trod enc Tryz.prog w base (fun _ => true) true 25 v d p) :
    ∃ (a : Option Addr) (len cap : Nat) (fs : List Fe), v = .slice a len cap ∧ InF w a len cap fs := by
  obtain ⟨a0, l0, c0, rfl⟩ := okWide_slice Tryz.underlying25 hv
  obtain ⟨n, h1⟩ := h
  replace h1 : DataW.trod enc Tryz.prog w base (fun _ => true) true n 25 [.slice a0 l0 c0] = some (d, p) := h1
  rcases Deep.open_slice Tryz.underlying25 h1 with ⟨hc, -⟩ | ⟨a, len, cap, m, k, D, Pl, hc, hb, hl, hm, hmm, -, hx⟩
  · simp at hc
    obtain ⟨rfl, rfl, rfl⟩ := hc
    exact ⟨none, 0, 0, [], rfl, rfl, Nat.le_refl _, Nat.zero_le _, by simp, .inl rfl⟩
  simp at hc
  obtain ⟨rfl, rfl, rfl⟩ := hc
  simp at hmm
  subst hmm
  have ce : Tryz.prog.cellsOf 42 = 3 := by kernel_rfl
  rw [ce] at hx
  have hz : ∀ i, ∃ f : Fe, i < m → FeIn w f ∧ w.cells? base (a.add (i * 3)) 3 = some [.bool f.b, .slice f.a f.xs.length f.c, .slice f.a' f.ys.length f.c'] := by
    intro i
    by_cases hi : i < m
    · obtain ⟨cs', hcs, ht⟩ := hx i hi
      obtain ⟨y0, y1, y2, n', -, hlen, t0, t1, t2⟩ := Deep.trod_struct3 Tryz.underlying42 ht
      rw [ce] at hlen
      match cs', hlen with
      | [v0, v1, v2], _ =>
        have k1 : Tryz.prog.cellsOf 4 = 1 := by kernel_rfl
        have k2 : Tryz.prog.cellsOf 40 = 1 := by kernel_rfl
        have t0' : DataW.trod enc Tryz.prog w base (fun _ => true) true n' 4 [v0] = some y0 := t0
        have t1' : DataW.trod enc Tryz.prog w base (fun _ => true) true n' 40 [v1] = some y1 := t1
        have t2' : DataW.trod enc Tryz.prog w base (fun _ => true) true n' 40 [v2] = some y2 := t2
        obtain ⟨bl, e0, -⟩ := DataW.trod_bool Tryz.underlying4 t0'
        obtain ⟨a1, l1, c1, xs, rfl, i1⟩ := open_intC t1'
        obtain ⟨a2, l2, c2, ys, rfl, i2⟩ := open_intC t2'
        obtain rfl := i1.1
        obtain rfl := i2.1
        simp at e0
        subst e0
        exact ⟨⟨bl, a1, c1, xs, a2, c2, ys⟩, fun _ => ⟨⟨i1, i2⟩, hcs⟩⟩
    · exact ⟨fe0, fun h => absurd h hi⟩
  obtain ⟨f, hff⟩ := Classical.axiomOfChoice hz
  refine ⟨some a, l0, m, (List.range l0).map f, rfl, by simp, hl, hm, ?_, ?_⟩
  · intro p hp
    obtain ⟨i, hi, rfl⟩ := List.mem_map.1 hp
    exact (hff i (by have := List.mem_range.1 hi; omega)).1
  by_cases h0 : l0 = 0
  · exact .inl h0
  obtain ⟨b, off, spot⟩ := a
  have e0 : w.cell? ((⟨b, off, spot⟩ : Addr).add (0 * 3) |>.add 0) = _ := (World.cells?_some (hff 0 (by omega)).2).2.2 0 (by omega)
  have hspot : spot = none := by simpa [Addr.add] using World.cell?_spot e0
  subst hspot
  refine .inr ⟨b, off, rfl, by simpa [Addr.add] using World.block_lt_of_cell? w _ e0, fun i hi => ?_⟩
  have ad : ∀ o j, (⟨b, o, none⟩ : Addr).add j = ⟨b, o + j, none⟩ := by
    intro o j
    by_cases h : j = 0
    · subst h; simp [Addr.add]
    · simp [Addr.add, h]
  have q := (World.cells?_some (hff i (by omega)).2).2.2
  have q0 := q 0 (by omega)
  have q1 := q 1 (by omega)
  have q2 := q 2 (by omega)
  rw [ad, ad] at q0 q1 q2
  have eg : ((List.range l0).map f).getD i fe0 = f i := by
    rw [List.getD_eq_getElem?_getD, List.getElem?_map, List.getElem?_range hi]; rfl
  rw [eg]
  exact ⟨q0, q1, q2⟩
end
end Go.Proofs.YtlggbihdmabifaaGreatDoor

/- A law's sizes, copies and comparison of lists of fractions. No condition but that the lists are there. -/
namespace Go.Proofs.YtlggbihdmabifaaGreatDoor
open Go.RowKit
set_option linter.unusedVariables false
set_option maxRecDepth 100000

theorem infoFr : (Tryz.prog.info? 47).map (fun i => (i.zero, i.size, i.bytes)) = some (some (.agg #[.bool false, .slice none 0 0, .slice none 0 0]), 3, 56) := by kernel_rfl
theorem mkFrs (w : World) (n : Nat) (hn : n ≤ 1048576) : (Instr.makeSlice 33 (.int .i64 (n : Int)) (.int .i64 (n : Int))).run Tryz.prog w = .ok (.slice (some ⟨w.heap.size, 0, none⟩) n n) (w.alloc (.cells (madeCells #[.bool false, .slice none 0 0, .slice none 0 0] (n * 3)) 47)) := by
  obtain ⟨i, h1, h2, h3, h4⟩ := info_parts infoFr
  have h := run_make (P := Tryz.prog) w 33 47 i _ Tryz.underlying33 h1 h2 .i64 .i64 n n (by omega) (by omega) (by rw [h4]; omega) (by omega)
  rw [h3] at h
  exact h
/-- owned by the list: its numbers lie beyond it, or are none -/
def FeOwn (w : World) (base : Nat) (f : Fe) : Prop := OI w base f.a f.c f.xs ∧ OI w base f.a' f.c' f.ys
theorem FeOwn.later {w w' : World} {base : Nat} {f : Fe} (h : FeOwn w base f) (k : Below w.heap.size w w') : FeOwn w' base f := ⟨h.1.later k, h.2.later k⟩
theorem FeOwn.feIn {w : World} {base : Nat} {f : Fe} (h : FeOwn w base f) : FeIn w f := ⟨h.1.inI, h.2.inI⟩
theorem grownBy_setF (w : World) (b i : Nat) (v : Value) : w.grownBy (w.setCell ⟨b, i, none⟩ v) (some b) := ⟨rfl, rfl, rfl, by simp [World.setCell], fun k _ hk => Below.heap_setCell _ _ _ _ (fun e => hk (by rw [e]))⟩
theorem FeOwn.set {w : World} {B : Nat} {f : Fe} (h : FeOwn w (B + 1) f) (i : Nat) (v : Value) : FeOwn (w.setCell ⟨B, i, none⟩ v) (B + 1) f :=
  ⟨h.1.kept (grownBy_setF w B i v) (fun q e e2 => by have := h.1.ge q e; injection e2 with e2; omega), h.2.kept (grownBy_setF w B i v) (fun q e e2 => by have := h.2.ge q e; injection e2 with e2; omega)⟩
def RowF (w : World) (b : Nat) (fs : List Fe) : Prop :=
  b < w.heap.size ∧ (∀ f ∈ fs, FeOwn w (b + 1) f) ∧ ∀ i, i < fs.length → FeC w b (i * 3) (fs.getD i fe0) ∧ ∀ j, j < 3 → w.frozen? ⟨b, i * 3 + j, none⟩ = false
theorem RowF.old {w w' : World} {b : Nat} {fs : List Fe} (h : RowF w b fs) (k : Below w.heap.size w w') : RowF w' b fs :=
  ⟨Nat.lt_of_lt_of_le h.1 k.size, fun f hf => (h.2.1 f hf).later k, fun i hi => ⟨(h.2.2 i hi).1.old k h.1, fun j hj => (k.frozen (p := ⟨b, i * 3 + j, none⟩) h.1).trans ((h.2.2 i hi).2 j hj)⟩⟩
theorem RowF.inF {w : World} {b cap : Nat} {fs : List Fe} (h : RowF w b fs) (h1 : fs.length ≤ cap) (h2 : cap ≤ maxLen) : InF w (some ⟨b, 0, none⟩) fs.length cap fs :=
  ⟨rfl, h1, h2, fun f hf => (h.2.1 f hf).feIn, .inr ⟨b, 0, rfl, h.1, fun i hi => by rw [Nat.zero_add]; exact (h.2.2 i hi).1⟩⟩
theorem cellF_other (W : World) (b b' i j : Nat) (v : Value) (hn : b ≠ b' ∨ i ≠ j) : (W.setCell ⟨b', j, none⟩ v).cell? ⟨b, i, none⟩ = W.cell? ⟨b, i, none⟩ := World.cell?_setCell_other _ _ _ _ (by intro h; injection h with h1 h2; omega)
theorem RowF.set {w : World} {b : Nat} {fs : List Fe} (h : RowF w b fs) (k : Nat) (hk : k < fs.length) (f : Fe) (hf : FeOwn w (b + 1) f) :
    RowF (((w.setCell ⟨b, k * 3, none⟩ (.bool f.b)).setCell ⟨b, k * 3 + 1, none⟩ (.slice f.a f.xs.length f.c)).setCell ⟨b, k * 3 + 2, none⟩ (.slice f.a' f.ys.length f.c')) b (fs.set k f) := by
  refine ⟨by simpa [World.setCell] using h.1, fun g hg => ?_, fun i hi => ?_⟩
  · rcases List.mem_or_eq_of_mem_set hg with h1 | rfl
    · exact (((h.2.1 g h1).set _ _).set _ _).set _ _
    · exact ((hf.set _ _).set _ _).set _ _
  rw [List.length_set] at hi
  obtain ⟨⟨h0, h1, h2⟩, f1⟩ := h.2.2 i hi
  refine ⟨?_, fun j hj => by simpa using f1 j hj⟩
  by_cases e : i = k
  · subst e
    have eg : (fs.set i f).getD i fe0 = f := by simp [List.getD_eq_getElem?_getD, hk]
    rw [eg]
    refine ⟨?_, ?_, ?_⟩
    · rw [cellF_other _ _ _ _ _ _ (by omega), cellF_other _ _ _ _ _ _ (by omega)]; exact World.cell?_setCell_same _ _ _ h0
    · rw [cellF_other _ _ _ _ _ _ (by omega)]; exact World.cell?_setCell_same _ _ _ ((cellF_other _ _ _ _ _ _ (by omega)).trans h1)
    · exact World.cell?_setCell_same _ _ _ ((cellF_other _ _ _ _ _ _ (by omega)).trans ((cellF_other _ _ _ _ _ _ (by omega)).trans h2))
  · have eg : (fs.set k f).getD i fe0 = fs.getD i fe0 := by simp [List.getD_eq_getElem?_getD, Ne.symm e]
    rw [eg]
    refine ⟨?_, ?_, ?_⟩
    · rw [cellF_other _ _ _ _ _ _ (by omega), cellF_other _ _ _ _ _ _ (by omega), cellF_other _ _ _ _ _ _ (by omega)]; exact h0
    · rw [cellF_other _ _ _ _ _ _ (by omega), cellF_other _ _ _ _ _ _ (by omega), cellF_other _ _ _ _ _ _ (by omega)]; exact h1
    · rw [cellF_other _ _ _ _ _ _ (by omega), cellF_other _ _ _ _ _ _ (by omega), cellF_other _ _ _ _ _ _ (by omega)]; exact h2
theorem RowF.made (w : World) (n : Nat) (t : TypeId) : RowF (w.alloc (.cells (madeCells #[.bool false, .slice none 0 0, .slice none 0 0] (n * 3)) t)) w.heap.size (List.replicate n fe0) := by
  refine ⟨by simp, fun f hf => ?_, fun i hi => ?_⟩
  · obtain rfl := List.eq_of_mem_replicate hf
    exact ⟨OI.none _ _, OI.none _ _⟩
  rw [List.length_replicate] at hi
  have eg : (List.replicate n fe0).getD i fe0 = fe0 := by simp [List.getD_eq_getElem?_getD, hi]
  rw [eg]
  have e0 : (madeCells #[Value.bool false, Value.slice none 0 0, Value.slice none 0 0] (n * 3))[i * 3]? = some (.bool false) := by
    simp [madeCells, show i * 3 < n * 3 by omega]
  have e1 : (madeCells #[Value.bool false, Value.slice none 0 0, Value.slice none 0 0] (n * 3))[i * 3 + 1]? = some (.slice none 0 0) := by
    simp [madeCells, show i * 3 + 1 < n * 3 by omega, show (i * 3 + 1) % 3 = 1 by omega]
  have e2 : (madeCells #[Value.bool false, Value.slice none 0 0, Value.slice none 0 0] (n * 3))[i * 3 + 2]? = some (.slice none 0 0) := by
    simp [madeCells, show i * 3 + 2 < n * 3 by omega, show (i * 3 + 2) % 3 = 2 by omega]
  exact ⟨⟨by simp [e0, fe0], by simp [e1, fe0], by simp [e2, fe0]⟩, fun j hj => by simp⟩

def UpF (k : Nat) (qs fs : List Fe) : Prop := qs.length = fs.length ∧ ∀ i, i < k → FeSame (qs.getD i fe0) (fs.getD i fe0)
theorem UpF.zero {n : Nat} {fs : List Fe} (hp : fs.length = n) : UpF 0 (List.replicate n fe0) fs := ⟨by simp [hp], fun i h => by omega⟩
theorem UpF.step {k : Nat} {qs fs : List Fe} (h : UpF k qs fs) (hk : k < fs.length) {g : Fe} (hg : FeSame g (fs.getD k fe0)) : UpF (k + 1) (qs.set k g) fs := by
  refine ⟨by rw [List.length_set]; exact h.1, fun i hi => ?_⟩
  by_cases e : i = k
  · subst e
    have eg : (qs.set i g).getD i fe0 = g := by have := h.1; simp [List.getD_eq_getElem?_getD, show i < qs.length by omega]
    rw [eg]
    exact hg
  · have eg : (qs.set k g).getD i fe0 = qs.getD i fe0 := by simp [List.getD_eq_getElem?_getD, Ne.symm e]
    rw [eg]
    exact h.2 i (by omega)
set_option maxHeartbeats 2000000 in
theorem lSzFs (a : Option Addr) (len cap : Nat) (fs : List Fe) (l : Int) (h0 : 0 ≤ l) (h1 : l ≤ 1048576) (w : World) (hR : InF w a len cap fs) :
    Calls Tryz.prog 5 #[.slice a len cap, .int .i64 l] w fun e w' => (∃ r : Int, e = .returned (.int .i64 r) ∧ (r = -1 ∨ (0 ≤ r ∧ r ≤ 1048576 ∧ len ≤ 1048576 ∧ ∀ i, i < len → (fs.getD i fe0).xs.length ≤ 1048576 ∧ (fs.getD i fe0).ys.length ≤ 1048576))) ∧ Below w.heap.size w w' := by
  have hlen : len ≤ maxLen := Nat.le_trans hR.2.1 hR.2.2.1
  unfold maxLen at hlen
  by_cases hl : (len : Int) ≤ l
  case neg =>
    go_enter Tryz.func5, Tryz.ntmps5
    go_wp2
    go_ret
    exact ⟨⟨_, rfl, .inl rfl⟩, (by repeat (first | exact Below.refl _ _ | refine Below.drew ?_ | refine old_alloc ?_ _ | refine old_trans ?_ (by assumption)))⟩
  go_enter Tryz.func5, Tryz.ntmps5
  go_wp2
  go_loopw [1, 5] (fun l i wr => ∃ (j : Nat) (r : Int), j ≤ len ∧ i = .int .i64 j ∧ l = .int .i64 r ∧ 0 ≤ r ∧ r ≤ 1048576 ∧ Hid (∀ i, i < j → (fs.getD i fe0).xs.length ≤ 1048576 ∧ (fs.getD i fe0).ys.length ≤ 1048576) ∧ Below w.heap.size w wr) (fun _ i _ => len - (intOf i).toNat)
  case atStart => exact ⟨0, l - len, by omega, rfl, rfl, by omega, by omega, fun i h => by omega, (by repeat (first | exact Below.refl _ _ | refine Below.drew ?_ | refine old_alloc ?_ _ | refine old_trans ?_ (by assumption)))⟩
  case round =>
    obtain ⟨j, r, hk, rfl, rfl, hr0, hr1, hall, hb⟩ := hrel
    by_cases hlt : j < len
    · obtain ⟨bl, off, f, rfl, hbl, hx, hf, c0, c1, c2⟩ := (hR.old hb).at hlt
      have Z := hd (lSzFrac f.b f.a f.a' f.xs.length f.ys.length f.c f.c' r wr (Nat.le_trans hf.1.2.1 hf.1.2.2.1) (Nat.le_trans hf.2.2.1 hf.2.2.2.1) hr0 hr1)
      unfold szF at Z
      have fx : (f.xs.length : Int) ≤ 9223372036854775807 := by have := hf.1.len; omega
      have fy : (f.ys.length : Int) ≤ 9223372036854775807 := by have := hf.2.len; omega
      by_cases c : (f.xs.length : Int) + f.ys.length ≤ r
      · rw [if_pos c] at Z
        have c' : 0 ≤ r - f.xs.length - f.ys.length := by omega
        have c'' : r - f.xs.length - f.ys.length ≤ 1048576 := by omega
        have step : Hid (∀ i, i < j + 1 → (fs.getD i fe0).xs.length ≤ 1048576 ∧ (fs.getD i fe0).ys.length ≤ 1048576) := fun i hi => by
          by_cases e : i = j
          · rw [e, hx]; omega
          · exact hall.out i (by omega)
        clear hf c hx hall
        generalize r - f.xs.length - f.ys.length = r2 at *
        go_wp2_with fail
        refine Z.out.mono ?_
        rintro e w1 ⟨rfl, hb1⟩
        go_wp2
        go_roundw
        case rel => exact ⟨j + 1, r2, by omega, by go_num, rfl, c', c'', step, hb.trans (hb1.mono hb.size)⟩
        case measure => simp [intOf]; omega
      · rw [if_neg c] at Z
        clear hf c
        go_wp2_with fail
        refine Z.out.mono ?_
        rintro e w1 ⟨rfl, hb1⟩
        go_wp2
        go_ret
        exact ⟨⟨_, rfl, .inl rfl⟩, hb.trans (hb1.mono hb.size)⟩
    · obtain rfl : j = len := by omega
      have hl2 : j ≤ 1048576 := by omega
      go_wp2
      go_ret
      exact ⟨⟨_, rfl, .inr ⟨hr0, hr1, hl2, hall.out⟩⟩, hb⟩
set_option maxHeartbeats 4000000 in
theorem lToFs (a : Option Addr) (len cap : Nat) (fs : List Fe) (w : World) (hR : InF w a len cap fs) (hl : len ≤ 1048576) (hd2 : ∀ i, i < len → (fs.getD i fe0).xs.length ≤ 1048576 ∧ (fs.getD i fe0).ys.length ≤ 1048576) :
    Calls Tryz.prog 8 #[.slice a len cap] w fun e w' => (∃ (bn : Nat) (gs : List Fe), e = .returned (.slice (some ⟨bn, 0, none⟩) len len) ∧ w.heap.size ≤ bn ∧ UpF len gs fs ∧ RowF w' bn gs) ∧ Below w.heap.size w w' := by
  have hmk := mkFrs w len hl
  have hr0 := RowF.made w len 47
  have hb0 : Below w.heap.size w (w.alloc (.cells (madeCells #[.bool false, .slice none 0 0, .slice none 0 0] (len * 3)) 47)) := (Below.refl _ w).alloc (Nat.le_refl _) _
  generalize w.alloc (.cells (madeCells #[.bool false, .slice none 0 0, .slice none 0 0] (len * 3)) 47) = w0 at *
  have hp := hR.1
  replace hd2 := hd hd2
  go_enter Tryz.func8, Tryz.ntmps8
  go_wp2
  go_loopw [4] (fun a wr => ∃ (i : Nat) (qs : List Fe), i ≤ len ∧ a = .int .i64 i ∧ UpF i qs fs ∧ RowF wr w.heap.size qs ∧ Below w.heap.size w wr) (fun b _ => len - (intOf b).toNat)
  case atStart => exact ⟨0, _, by omega, rfl, UpF.zero hp, hr0, hb0⟩
  case round =>
    obtain ⟨i, qs, hk, rfl, hu, hr, hb⟩ := hrel
    by_cases hlt : i < len
    · obtain ⟨bl, off, f, rfl, hbl, hx, hf, c0, c1, c2⟩ := (hR.old hb).at hlt
      have hd3 := hd2.out i hlt
      rw [hx] at hd3
      replace hx := hd hx
      have TF := hd (toFracO f.b f.a f.a' f.c f.c' f.xs f.ys wr hf.1 hf.2 hd3.1 hd3.2)
      have fx : (f.xs.length : Int) ≤ 1048576 := by omega
      have fy : (f.ys.length : Int) ≤ 1048576 := by omega
      have hlq := hr.1
      clear hf
      go_wp2_with fail
      refine TF.out.mono ?_
      rintro e w1 ⟨⟨av, cv, av', cv', rfl, O1, O2, -⟩, hb1⟩
      have hr1 := hr.old hb1
      have hlen1 : i < qs.length := by rw [hu.1]; omega
      obtain ⟨⟨d0, d1, d2⟩, ff⟩ := hr1.2.2 i hlen1
      have f0 : w1.frozen? ⟨w.heap.size, i * 3, none⟩ = false := ff 0 (by decide)
      have f1 := ff 1 (by decide)
      have f2 := ff 2 (by decide)
      replace hu := hd (hu.step (g := ⟨f.b, av, cv, f.xs, av', cv', f.ys⟩) (by omega) (by rw [hx.out]; exact ⟨rfl, rfl, rfl⟩))
      have own : FeOwn w1 (w.heap.size + 1) ⟨f.b, av, cv, f.xs, av', cv', f.ys⟩ := ⟨O1.mono (by omega), O2.mono (by omega)⟩
      replace hr1 := hd (hr1.set i hlen1 ⟨f.b, av, cv, f.xs, av', cv', f.ys⟩ own)
      clear ff O1 O2 own hlen1 hx hr
      go_wp2
      go_roundw
      case rel =>
        refine ⟨i + 1, _, by omega, by go_num, hu.out, hr1.out, ?_⟩
        exact ((((hb.trans (hb1.mono hb.size)).setCell (p := ⟨w.heap.size, i * 3, none⟩) (Nat.le_refl _) _).setCell (p := ⟨w.heap.size, i * 3 + 1, none⟩) (Nat.le_refl _) _).setCell (p := ⟨w.heap.size, i * 3 + 2, none⟩) (Nat.le_refl _) _)
      case measure => simp [intOf]; omega
    · obtain rfl : i = len := by omega
      go_wp2
      go_ret
      exact ⟨⟨_, _, rfl, Nat.le_refl _, hu, hr⟩, hb⟩
set_option maxHeartbeats 2000000 in
theorem lEqFi (bl : Bool) (a b a' b' : Option Addr) (ca cb ca' cb' : Nat) (xs ys : List Int) (w : World) (hA : InI w a xs.length ca xs) (hB : InI w b ys.length cb ys) (hA' : InI w a' xs.length ca' xs) (hB' : InI w b' ys.length cb' ys) :
    Calls Tryz.prog 23 #[.agg #[.bool bl, .slice a xs.length ca, .slice b ys.length cb], .agg #[.bool bl, .slice a' xs.length ca', .slice b' ys.length cb']] w fun e w' => e = .returned (.bool true) ∧ Below w.heap.size w w' := by
  have e0 : Below w.heap.size w ((w.alloc (.cells #[.bool bl, .slice a xs.length ca, .slice b ys.length cb] 47)).alloc (.cells #[.bool bl, .slice a' xs.length ca', .slice b' ys.length cb'] 47)) := (by repeat (first | exact Below.refl _ _ | refine Below.drew ?_ | refine old_alloc ?_ _ | refine old_trans ?_ (by assumption)))
  have E1 := hd (lEqInts a a' xs.length ca ca' xs _ (hA.old e0) (hA'.old e0))
  have E2 := hd (fun w' (h : Below w.heap.size w w') => lEqInts b b' ys.length cb cb' ys w' (hB.old h) (hB'.old h))
  have K1 := (Cel3.new w (.bool bl) (.slice a xs.length ca) (.slice b ys.length cb) 47).old (old_alloc (Below.refl _ _) (.cells #[.bool bl, .slice a' xs.length ca', .slice b' ys.length cb'] 47))
  have K2 := Cel3.new (w.alloc (.cells #[.bool bl, .slice a xs.length ca, .slice b ys.length cb] 47)) (.bool bl) (.slice a' xs.length ca') (.slice b' ys.length cb') 47
  simp only [World.size_alloc] at K2
  clear hA hB hA' hB'
  go_enter Tryz.func23, Tryz.ntmps23
  go_wp2_with fail
  refine E1.out.mono ?_
  rintro e w1 ⟨rfl, hb1⟩
  obtain ⟨k1, ⟨k2, k3, k4⟩, -⟩ := K1.old hb1
  obtain ⟨m1, ⟨m2, m3, m4⟩, -⟩ := K2.old hb1
  go_wp2_with fail
  refine (E2.out _ (old_trans e0 hb1)).mono ?_
  rintro e w2 ⟨rfl, hb2⟩
  go_wp2
  go_ret
  exact ⟨rfl, old_trans (old_trans e0 hb1) hb2⟩
set_option maxHeartbeats 4000000 in
theorem lEqFs (a a' : Option Addr) (len cap cap' : Nat) (fs gs : List Fe) (w : World) (hR : InF w a len cap fs) (hR' : InF w a' len cap' gs) (hs : ∀ i, i < len → FeSame (fs.getD i fe0) (gs.getD i fe0)) :
    Calls Tryz.prog 11 #[.slice a len cap, .slice a' len cap'] w fun e w' => e = .returned (.bool true) ∧ Below w.heap.size w w' := by
  have hlen : len ≤ maxLen := Nat.le_trans hR.2.1 hR.2.2.1
  unfold maxLen at hlen
  replace hs := hd hs
  go_enter Tryz.func11, Tryz.ntmps11
  go_wp2
  go_loopw [5] (fun a wr => ∃ i : Nat, i ≤ len ∧ a = .int .i64 i ∧ Below w.heap.size w wr) (fun b _ => len - (intOf b).toNat)
  case atStart => exact ⟨0, by omega, rfl, (by repeat (first | exact Below.refl _ _ | refine Below.drew ?_ | refine old_alloc ?_ _ | refine old_trans ?_ (by assumption)))⟩
  case round =>
    obtain ⟨i, hk, rfl, hb⟩ := hrel
    by_cases hlt : i < len
    · obtain ⟨bl, off, f, rfl, hbl, hx, hf, c0, c1, c2⟩ := (hR.old hb).at hlt
      obtain ⟨bl', off', g, rfl, hbl', hx', hg, d0, d1, d2⟩ := (hR'.old hb).at hlt
      have sm := hs.out i hlt
      rw [hx, hx'] at sm
      obtain ⟨e1, e2, e3⟩ := sm
      have E := hd (fun W (h : Below wr.heap.size wr W) => lEqFi g.b f.a f.a' g.a g.a' f.c f.c' g.c g.c' g.xs g.ys W (e2 ▸ hf.1.old h) (e3 ▸ hf.2.old h) (hg.1.old h) (hg.2.old h))
      rw [e1] at c0
      rw [e2] at c1
      rw [e3] at c2
      have hc : Below wr.heap.size wr wr := Below.refl _ _
      clear hx hx' hf hg e1 e2 e3
      go_wp2_with fail
      go_region_held3 (fun w' => w'.cell? ⟨bl, off + i * 3, none⟩ = some (.bool g.b) ∧ w'.cell? ⟨bl, off + i * 3 + 1, none⟩ = some (.slice f.a g.xs.length f.c) ∧ w'.cell? ⟨bl, off + i * 3 + 2, none⟩ = some (.slice f.a' g.ys.length f.c') ∧ w'.cell? ⟨bl', off' + i * 3, none⟩ = some (.bool g.b) ∧ w'.cell? ⟨bl', off' + i * 3 + 1, none⟩ = some (.slice g.a g.xs.length g.c) ∧ w'.cell? ⟨bl', off' + i * 3 + 2, none⟩ = some (.slice g.a' g.ys.length g.c')) (go_keep) (first | (go_at_call 23; refine (E.out _ (by with_reducible first | exact hc | exact Below.drew hc)).mono ?_; rintro e w1 ⟨rfl, hb1⟩; have p0 := (hb1.cell (World.block_lt_of_cell? _ _ c0)).trans c0; have p1 := (hb1.cell (World.block_lt_of_cell? _ _ c1)).trans c1; have p2 := (hb1.cell (World.block_lt_of_cell? _ _ c2)).trans c2; have p3 := (hb1.cell (World.block_lt_of_cell? _ _ d0)).trans d0; have p4 := (hb1.cell (World.block_lt_of_cell? _ _ d1)).trans d1; have p5 := (hb1.cell (World.block_lt_of_cell? _ _ d2)).trans d2))
      all_goals
        have hB : Below w.heap.size w w1 := hb.drew.trans (hb1.mono hb.size)
        go_wp2
        go_roundw
        case rel => exact ⟨i + 1, by omega, by go_num, hB⟩
        case measure => simp [intOf]; omega
    · obtain rfl : i = len := by omega
      go_wp2
      go_ret
      exact ⟨rfl, hb⟩
end Go.Proofs.YtlggbihdmabifaaGreatDoor

/- Fractions brought to lowest terms: by the program and by the specification; answers with and without a fault. Conditions: digits without needless noughts, 1024 at most; of the program: the library's table and its handle of errors hold what their texts lay. -/
namespace Go.Proofs.YtlggbihdmabifaaGreatDoor
open Go.RowKit
set_option linter.unusedVariables false
set_option maxRecDepth 100000

def lowT (A B : Nat) : List Int := natL (A / Nat.gcd A B)
def lowU (A B : Nat) : List Int := natL (B / Nat.gcd A B)
def lowB (A B : Nat) : Bool := decide (B ≠ 0) && (decide ((lowT A B).length ≤ 256) && decide ((lowU A B).length ≤ 256))
end Go.Proofs.YtlggbihdmabifaaGreatDoor

/- Answers with and without a fault; fractions of two numbers: by the program and by the specification; a law's own marks of fractions. Conditions, of the program: the library's table and its handle of errors hold what their texts lay. -/
namespace Go.Proofs.YtlggbihdmabifaaGreatDoor
open Go.RowKit
set_option linter.unusedVariables false
set_option maxRecDepth 100000

def fT (ok : Bool) (A B : Nat) : List Int := if ok then lowT A B else []
def fU (ok : Bool) (A B : Nat) : List Int := if ok then lowU A B else []
def fS (ok s : Bool) (A : Nat) : Bool := ok && (s && decide (A ≠ 0))
/-- a fraction that a call answers with, and whether there is one -/
def FRes (w : World) (base : Nat) (e : Ending) (ok s : Bool) (A B : Nat) : Prop := ∃ av cv av' cv', e = .returned (.tuple #[.agg #[.bool (fS ok s A), .slice av (fT ok A B).length cv, .slice av' (fU ok A B).length cv'], .bool ok]) ∧ OI w base av cv (fT ok A B) ∧ OI w base av' cv' (fU ok A B) ∧ Sep av av'
theorem FRes.no (w : World) (base : Nat) (s : Bool) (A B : Nat) : FRes w base (.returned (.tuple #[.agg #[.bool false, .slice none 0 0, .slice none 0 0], .bool false])) false s A B := ⟨none, 0, none, 0, rfl, OI.none _ _, OI.none _ _, Sep.none _⟩
theorem FRes.yes {w : World} {base : Nat} {s : Bool} {A B : Nat} {av av' : Option Addr} {cv cv' : Nat} (h1 : OI w base av cv (lowT A B)) (h2 : OI w base av' cv' (lowU A B)) (h3 : Sep av av') : FRes w base (.returned (.tuple #[.agg #[.bool (s && decide (A ≠ 0)), .slice av (lowT A B).length cv, .slice av' (lowU A B).length cv'], .bool true])) true s A B := ⟨av, cv, av', cv', by unfold fS fT fU; simp only [Bool.true_and, if_true], h1, h2, h3⟩
end Go.Proofs.YtlggbihdmabifaaGreatDoor
