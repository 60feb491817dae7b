/- Fractions in memory: a law's own size, copy and comparison of them. Conditions: lists of 2^20 numbers at most. -/
import Derived.Test.YtgoffjpfddmhhaaGreatDoorPK08
import Derived.Deep.RegionHeld3
import Derived.Test.YtgoffjpfddmhhaaGreatDoorPK16
import Derived.Test.YtgoffjpfddmhhaaGreatDoorPK03
import Derived.Test.YtgoffjpfddmhhaaGreatDoorPK15
import Derived.Test.YtgoffjpfddmhhaaGreatDoorPK14
namespace Go.Proofs.YtgoffjpfddmhhaaGreatDoor
open Go.RowKit
set_option linter.unusedVariables false
set_option maxRecDepth 100000

/-- a block of three values -/
def Cel3 (w : World) (b : Nat) (v0 v1 v2 : Value) : Prop := b < w.heap.size ∧ (w.cell? ⟨b, 0, none⟩ = some v0 ∧ w.cell? ⟨b, 1, none⟩ = some v1 ∧ w.cell? ⟨b, 2, none⟩ = some v2) ∧ w.frozen? ⟨b, 0, none⟩ = false ∧ w.frozen? ⟨b, 1, none⟩ = false ∧ w.frozen? ⟨b, 2, none⟩ = false
theorem Cel3.old {w w' : World} {b : Nat} {v0 v1 v2 : Value} (h : Cel3 w b v0 v1 v2) (g : Below w.heap.size w w') : Cel3 w' b v0 v1 v2 := by
  obtain ⟨h1, ⟨a, b', c⟩, e, f, g'⟩ := h
  exact ⟨Nat.lt_of_lt_of_le h1 g.size, ⟨(g.cell (p := ⟨b, 0, none⟩) h1).trans a, (g.cell (p := ⟨b, 1, none⟩) h1).trans b', (g.cell (p := ⟨b, 2, none⟩) h1).trans c⟩, (g.frozen (p := ⟨b, 0, none⟩) h1).trans e, (g.frozen (p := ⟨b, 1, none⟩) h1).trans f, (g.frozen (p := ⟨b, 2, none⟩) h1).trans g'⟩
theorem Cel3.new (w : World) (v0 v1 v2 : Value) (t : TypeId) : Cel3 (w.alloc (.cells #[v0, v1, v2] t)) w.heap.size v0 v1 v2 := by
  refine ⟨by simp, ⟨?_, ?_, ?_⟩, ?_, ?_, ?_⟩ <;> simp [go_sem]
theorem Cel3.kept {w w' : World} {b : Nat} {v0 v1 v2 : Value} {row : Option Nat} (h : Cel3 w b v0 v1 v2) (g : w.grownBy w' row) (hne : some b ≠ row) : Cel3 w' b v0 v1 v2 := by
  obtain ⟨h1, ⟨a, b', c⟩, e, f, g'⟩ := h
  have k := g.block b h1 hne
  exact ⟨Nat.lt_of_lt_of_le h1 g.size, ⟨(World.cell?_of_block (a := ⟨b, 0, none⟩) k).trans a, (World.cell?_of_block (a := ⟨b, 1, none⟩) k).trans b', (World.cell?_of_block (a := ⟨b, 2, none⟩) k).trans c⟩, (World.frozen?_of_block (a := ⟨b, 0, none⟩) k).trans e, (World.frozen?_of_block (a := ⟨b, 1, none⟩) k).trans f, (World.frozen?_of_block (a := ⟨b, 2, none⟩) k).trans g'⟩
theorem Cel3.far {W : World} {b c i : Nat} {v0 v1 v2 v : Value} (h : Cel3 W b v0 v1 v2) (hn : b ≠ c) : Cel3 (W.setCell ⟨c, i, none⟩ v) b v0 v1 v2 := by
  obtain ⟨h1, ⟨a0, a1, a2⟩, f0, f1, f2⟩ := h
  have o : ∀ (j : Nat), (W.setCell ⟨c, i, none⟩ v).cell? ⟨b, j, none⟩ = W.cell? ⟨b, j, none⟩ := fun j => World.cell?_setCell_other _ _ _ _ (by intro h; injection h with h2 _; omega)
  exact ⟨by simpa [World.setCell] using h1, ⟨(o 0).trans a0, (o 1).trans a1, (o 2).trans a2⟩, by simpa using f0, by simpa using f1, by simpa using f2⟩
theorem setO (W : World) (b i j : Nat) (v : Value) (hn : i ≠ j) : (W.setCell ⟨b, j, none⟩ v).cell? ⟨b, i, none⟩ = W.cell? ⟨b, i, none⟩ := World.cell?_setCell_other _ _ _ _ (by intro h; injection h with _ h2; omega)
theorem Cel3.set1 {W : World} {b : Nat} {v0 v1 v2 : Value} (h : Cel3 W b v0 v1 v2) (v : Value) : Cel3 (W.setCell ⟨b, 1, none⟩ v) b v0 v v2 := by
  obtain ⟨h1, ⟨a0, a1, a2⟩, f0, f1, f2⟩ := h
  exact ⟨by simpa [World.setCell] using h1, ⟨(setO _ _ _ _ _ (by omega)).trans a0, World.cell?_setCell_same _ _ _ a1, (setO _ _ _ _ _ (by omega)).trans a2⟩, by simpa using f0, by simpa using f1, by simpa using f2⟩
theorem Cel3.set2 {W : World} {b : Nat} {v0 v1 v2 : Value} (h : Cel3 W b v0 v1 v2) (v : Value) : Cel3 (W.setCell ⟨b, 2, none⟩ v) b v0 v1 v := by
  obtain ⟨h1, ⟨a0, a1, a2⟩, f0, f1, f2⟩ := h
  exact ⟨by simpa [World.setCell] using h1, ⟨(setO _ _ _ _ _ (by omega)).trans a0, (setO _ _ _ _ _ (by omega)).trans a1, World.cell?_setCell_same _ _ _ a2⟩, by simpa using f0, by simpa using f1, by simpa using f2⟩
theorem Cel3.set0 {W : World} {b : Nat} {v0 v1 v2 : Value} (h : Cel3 W b v0 v1 v2) (v : Value) : Cel3 (W.setCell ⟨b, 0, none⟩ v) b v v1 v2 := by
  obtain ⟨h1, ⟨a0, a1, a2⟩, f0, f1, f2⟩ := h
  exact ⟨by simpa [World.setCell] using h1, ⟨World.cell?_setCell_same _ _ _ a0, (setO _ _ _ _ _ (by omega)).trans a1, (setO _ _ _ _ _ (by omega)).trans a2⟩, by simpa using f0, by simpa using f1, by simpa using f2⟩
theorem below_set {n : Nat} {a W : World} (h : Below n a W) {b i : Nat} (hb : n ≤ b) (v : Value) : Below n a (W.setCell ⟨b, i, none⟩ v) := h.setCell (p := ⟨b, i, none⟩) hb _

theorem grown_refl (w : World) (r : Option Nat) : w.grownBy w r := ⟨rfl, rfl, rfl, Nat.le_refl _, fun _ _ _ => rfl⟩
theorem oi_setFar {w : World} {base cv b i : Nat} {av : Option Addr} {xs : List Int} {v : Value} (h : OI w base av cv xs) (hb : b < base) : OI (w.setCell ⟨b, i, none⟩ v) base av cv xs :=
  h.kept (grown_set (grown_refl w (some b)) i v) (fun q e e2 => by have := h.ge q e; injection e2 with e2; omega)
theorem oi_set3 {w : World} {base cv b : Nat} {av : Option Addr} {xs : List Int} {v0 v1 v2 : Value} (h : OI w base av cv xs) (hb : b < base) : OI (((w.setCell ⟨b, 0, none⟩ v0).setCell ⟨b, 1, none⟩ v1).setCell ⟨b, 2, none⟩ v2) base av cv xs :=
  oi_setFar (oi_setFar (oi_setFar h hb) hb) hb
theorem setCell_size (w : World) (a : Addr) (v : Value) : (w.setCell a v).heap.size = w.heap.size := by simp [World.setCell]
theorem Cel3.setAll {W : World} {b : Nat} {u0 u1 u2 : Value} (h : Cel3 W b u0 u1 u2) (v0 v1 v2 : Value) : Cel3 (((W.setCell ⟨b, 0, none⟩ v0).setCell ⟨b, 1, none⟩ v1).setCell ⟨b, 2, none⟩ v2) b v0 v1 v2 := ((h.set0 v0).set1 v1).set2 v2
end Go.Proofs.YtgoffjpfddmhhaaGreatDoor

/- Fractions on the way in: two numbers, whether they are a fraction; by the program. Conditions: the library's table and its handle of errors hold what their texts lay. -/
namespace Go.Proofs.YtgoffjpfddmhhaaGreatDoor
open Go.RowKit
set_option linter.unusedVariables false
set_option maxRecDepth 100000

theorem natL_one : natL 1 = [1] := by
  rw [natL, dif_neg (by omega)]
  simp [natL_zero]
set_option maxHeartbeats 1000000 in
theorem iOne (w : World) : Calls Tryz.prog 81 #[] w fun e w' => (∃ av cv, e = .returned (.slice av (natL 1).length cv) ∧ OI w' w.heap.size av cv (natL 1)) ∧ Below w.heap.size w w' := by
  rw [natL_one]
  have hr : IRow (w.alloc (.cells #[.int .i64 1] 3)) w.heap.size [1] := ⟨by simp, fun i hi => by
    obtain rfl : i = 0 := by simp at hi; omega
    simp⟩
  go_enter Tryz.func81, Tryz.ntmps81
  go_wp2
  go_ret
  exact ⟨⟨_, _, rfl, fun x hx => by simp at hx; subst hx; omega, Nat.le_refl _, by unfold maxLen; omega, .inr ⟨_, rfl, Nat.le_refl _, hr⟩⟩, (by repeat (first | exact Below.refl _ _ | refine Below.drew ?_ | refine old_alloc ?_ _ | refine old_trans ?_ (by assumption)))⟩
set_option maxHeartbeats 1000000 in
theorem iDivisor (a b : Option Addr) (la lb ca cb : Nat) (xs ys : List Int) (w : World) (hA : InI w a la ca xs) (hB : InI w b lb cb ys) (hx : digs xs) (hy : digs ys) (tx : topped xs) (ty : topped ys) (hla : la ≤ 1024) (hlb : lb ≤ 1024) (hT : Tab w) :
    Calls Tryz.prog 69 #[.agg #[.slice a la ca, .slice b lb cb]] w fun e w' => (∃ av cv, e = .returned (.slice av (natL (Nat.gcd (val xs) (val ys))).length cv) ∧ OI w' w.heap.size av cv (natL (Nat.gcd (val xs) (val ys)))) ∧ Below w.heap.size w w' := by
  have hb0 : Below w.heap.size w (w.alloc (.cells #[.slice a la ca, .slice b lb cb] 82)) := old_alloc (Below.refl _ _) _
  have C := hd (iCommon a b la lb ca cb xs ys _ (hA.old hb0) (hB.old hb0) hx hy tx ty hla hlb (hT.old hb0))
  have hs := hb0.size
  generalize natL (Nat.gcd (val xs) (val ys)) = gl at *
  go_enter Tryz.func69, Tryz.ntmps69
  go_wp2_with fail
  refine C.out.mono ?_
  rintro e w1 ⟨⟨av, cv, rfl, hO⟩, hb1⟩
  go_wp2
  go_ret
  exact ⟨⟨_, _, rfl, hO.mono hs⟩, old_trans hb0 hb1⟩
set_option maxHeartbeats 2000000 in
theorem iPairOf (a b : Option Addr) (la lb ca cb : Nat) (xs ys : List Int) (w : World) (hA : InI w a la ca xs) (hB : InI w b lb cb ys) :
    Calls Tryz.prog 79 #[.slice a la ca, .slice b lb cb] w fun e w' => ((natOk xs = true ∧ natOk ys = true ∧ e = .returned (.tuple #[.agg #[.slice a la ca, .slice b lb cb], .nilIface])) ∨ (¬ (natOk xs = true ∧ natOk ys = true) ∧ ∃ s, e = .returned (.tuple #[.agg #[.slice none 0 0, .slice none 0 0], .iface 129 (.agg #[.string s])]))) ∧ Below w.heap.size w w' := by
  have hb0 : Below w.heap.size w (w.alloc (.cells #[.slice none 0 0, .slice none 0 0] 82)) := old_alloc (Below.refl _ _) _
  have K1 := hd (iNatOk a la ca xs _ (hA.old hb0))
  have K2 := hd (iNatOk b lb cb ys _ (hB.old hb0))
  cases h1 : natOk xs
  · rw [h1] at K1
    go_enter Tryz.func79, Tryz.ntmps79
    go_wp2_with fail
    refine K1.out.mono ?_
    rintro e w1 ⟨rfl, hw⟩
    obtain rfl := hw
    go_wp2
    refine bodyPost_ret (by simp [results, Tryz.results79, go_sem]; rfl) rfl ?_
    exact ⟨.inr ⟨by simp, _, rfl⟩, (by repeat (first | exact Below.refl _ _ | refine Below.drew ?_ | refine Below.setCell ?_ (by first | (simp; done) | omega | (simp; omega)) _ | refine old_alloc ?_ _ | refine old_trans ?_ (by assumption)))⟩
  rw [h1] at K1
  cases h2 : natOk ys
  · rw [h2] at K2
    go_enter Tryz.func79, Tryz.ntmps79
    go_wp2_with fail
    refine K1.out.mono ?_
    rintro e w1 ⟨rfl, hw⟩
    obtain rfl := hw
    go_wp2_with fail
    refine K2.out.mono ?_
    rintro e w1 ⟨rfl, hw⟩
    obtain rfl := hw
    go_wp2
    refine bodyPost_ret (by simp [results, Tryz.results79, go_sem]; rfl) rfl ?_
    exact ⟨.inr ⟨by simp, _, rfl⟩, (by repeat (first | exact Below.refl _ _ | refine Below.drew ?_ | refine Below.setCell ?_ (by first | (simp; done) | omega | (simp; omega)) _ | refine old_alloc ?_ _ | refine old_trans ?_ (by assumption)))⟩
  rw [h2] at K2
  go_enter Tryz.func79, Tryz.ntmps79
  go_wp2_with fail
  refine K1.out.mono ?_
  rintro e w1 ⟨rfl, hw⟩
  obtain rfl := hw
  go_wp2_with fail
  refine K2.out.mono ?_
  rintro e w1 ⟨rfl, hw⟩
  obtain rfl := hw
  go_wp2
  refine bodyPost_ret (v := .tuple #[.agg #[.slice a la ca, .slice b lb cb], .nilIface]) ?_ rfl ⟨.inl ⟨by simp, by simp, rfl⟩, (by repeat (first | exact Below.refl _ _ | refine Below.drew ?_ | refine Below.setCell ?_ (by first | (simp; done) | omega | (simp; omega)) _ | refine old_alloc ?_ _ | refine old_trans ?_ (by assumption)))⟩
  simp [results, Tryz.results79, go_sem]
end Go.Proofs.YtgoffjpfddmhhaaGreatDoor

/- Whether two numbers and a sign are a fraction in lowest terms; by the program. Conditions: the library's table and its handle of errors hold what their texts lay. -/
namespace Go.Proofs.YtgoffjpfddmhhaaGreatDoor
open Go.RowKit
set_option linter.unusedVariables false
set_option maxRecDepth 100000

def fracOk (bl : Bool) (xs ys : List Int) : Bool := natOk xs && (natOk ys && (decide (ys.length ≠ 0) && (decide (Nat.gcd (val xs) (val ys) = 1) && !(bl && decide (xs.length = 0)))))
theorem fracOk_in {bl : Bool} {xs ys : List Int} (h : fracOk bl xs ys = true) : natOk xs = true ∧ natOk ys = true ∧ ys.length ≠ 0 ∧ Nat.gcd (val xs) (val ys) = 1 ∧ ¬ (bl = true ∧ xs.length = 0) := by
  unfold fracOk at h
  simp only [Bool.and_eq_true, decide_eq_true_eq, Bool.not_eq_true', Bool.and_eq_false_imp, decide_eq_false_iff_not] at h
  exact ⟨h.1, h.2.1, h.2.2.1, h.2.2.2.1, fun k => h.2.2.2.2 k.1 k.2⟩
theorem fracOk_mk {bl : Bool} {xs ys : List Int} (h1 : natOk xs = true) (h2 : natOk ys = true) (h3 : ys.length ≠ 0) (h4 : Nat.gcd (val xs) (val ys) = 1) (h5 : ¬ (bl = true ∧ xs.length = 0)) : fracOk bl xs ys = true := by
  unfold fracOk
  simp only [Bool.and_eq_true, decide_eq_true_eq, Bool.not_eq_true', Bool.and_eq_false_imp, decide_eq_false_iff_not]
  exact ⟨h1, h2, h3, h4, fun k e => h5 ⟨k, e⟩⟩
theorem fracOk_no {bl : Bool} {xs ys : List Int} (h : ¬ (natOk xs = true ∧ natOk ys = true ∧ ys.length ≠ 0 ∧ Nat.gcd (val xs) (val ys) = 1 ∧ ¬ (bl = true ∧ xs.length = 0))) : fracOk bl xs ys = false := by
  cases e : fracOk bl xs ys
  · rfl
  · exact absurd (fracOk_in e) h
theorem resRatio {W : World} {b : Nat} {v0 v1 v2 err : Value} {tmps : Array Value} (h : Cel3 W b v0 v1 v2) (ht : tmps[2]? = some (.pointer (some ⟨b, 0, none⟩))) (h3 : tmps[3]? = some err) : (results Tryz.f60 tmps).run Tryz.prog W = .ok (.tuple #[.agg #[v0, v1, v2], err]) W := by
  obtain ⟨h1, ⟨a0, a1, a2⟩, -⟩ := h
  simp [results, Tryz.results60, go_sem, a0, a1, a2, ht, h3]
set_option maxHeartbeats 4000000 in
theorem iRatioOf (bl : Bool) (a b : Option Addr) (la lb ca cb : Nat) (xs ys : List Int) (w : World) (hA : InI w a la ca xs) (hB : InI w b lb cb ys) (hT : Tab w) :
    Calls Tryz.prog 60 #[.agg #[.bool bl, .slice a la ca, .slice b lb cb]] w fun e w' => ((fracOk bl xs ys = true ∧ e = .returned (.tuple #[.agg #[.bool bl, .slice a la ca, .slice b lb cb], .nilIface])) ∨ (fracOk bl xs ys = false ∧ ∃ s, e = .returned (.tuple #[.agg #[.bool false, .slice none 0 0, .slice none 0 0], .iface 129 (.agg #[.string s])]))) ∧ Below w.heap.size w w' := by
  have e0 : Below w.heap.size w ((w.alloc (.cells #[.bool bl, .slice a la ca, .slice b lb cb] 25)).alloc (.cells #[.bool false, .slice none 0 0, .slice none 0 0] 84)) := (by repeat (first | exact Below.refl _ _ | refine Below.drew ?_ | refine old_alloc ?_ _ | refine old_trans ?_ (by assumption)))
  have K1 := (Cel3.new w (.bool bl) (.slice a la ca) (.slice b lb cb) 25).old (old_alloc (Below.refl _ _) (.cells #[.bool false, .slice none 0 0, .slice none 0 0] 84))
  have K2 := Cel3.new (w.alloc (.cells #[.bool bl, .slice a la ca, .slice b lb cb] 25)) (.bool false) (.slice none 0 0) (.slice none 0 0) 84
  simp only [World.size_alloc] at K2
  have P := hd (iPairOf a b la lb ca cb xs ys _ (hA.old e0) (hB.old e0))
  go_enter Tryz.func60, Tryz.ntmps60
  go_wp2_with fail
  refine P.out.mono ?_
  rintro e w1 ⟨he, hb1⟩
  have hB1 := old_trans e0 hb1
  replace K1 := K1.old hb1
  replace K2 := K2.old hb1
  obtain ⟨k1, ⟨k2, k3, k4⟩, -⟩ := id K1
  obtain ⟨m1, ⟨m2, m3, m4⟩, m5, m6, m7⟩ := id K2
  clear P hb1 e0
  have hlA := hA.len
  have hlB := hB.len
  have pA := hA.1
  have pB := hB.1
  rcases he with ⟨h1, h2, rfl⟩ | ⟨hn, s, rfl⟩
  rotate_left
  · have hf : Hid (fracOk bl xs ys = false) := fracOk_no (fun h => hn ⟨h.1, h.2.1⟩)
    clear hn
    have K3 := K2.old (old_alloc (Below.refl _ _) (.cells #[.slice none 0 0, .slice none 0 0] 82))
    go_wp2
    refine bodyPost_ret (resRatio ((K2.setAll (.bool false) (.slice none 0 0) (.slice none 0 0)).old (old_alloc (Below.refl _ _) _)) rfl rfl) rfl ⟨.inr ⟨hf.out, _, rfl⟩, old_alloc (below_set (below_set (below_set hB1 (by omega) _) (by omega) _) (by omega) _) _⟩
  have hB2 : Below w.heap.size w ((w1.alloc (.cells #[.slice a la ca, .slice b lb cb] 82)).alloc (.cells #[.bool bl, .slice a la ca, .slice b lb cb] 84)) := old_alloc (old_alloc hB1 _) _
  have K3 := (K2.old (old_alloc (Below.refl _ _) (.cells #[.slice a la ca, .slice b lb cb] 82))).old (old_alloc (Below.refl _ _) (.cells #[.bool bl, .slice a la ca, .slice b lb cb] 84))
  have K6 := Cel3.new (w1.alloc (.cells #[.slice a la ca, .slice b lb cb] 82)) (.bool bl) (.slice a la ca) (.slice b lb cb) 84
  simp only [World.size_alloc] at K6
  have hsz := hB1.size
  by_cases h3 : lb = 0
  · have hf : Hid (fracOk bl xs ys = false) := fracOk_no (fun h => h.2.2.1 (by omega))
    subst h3
    clear pB h1 h2
    go_wp2
    refine bodyPost_ret (resRatio (((K2.setAll (.bool false) (.slice none 0 0) (.slice none 0 0)).old (old_alloc (Below.refl _ _) _)).old (old_alloc (Below.refl _ _) _)) rfl rfl) rfl ⟨.inr ⟨hf.out, _, rfl⟩, old_alloc (old_alloc (below_set (below_set (below_set hB1 (by omega) _) (by omega) _) (by omega) _) _) _⟩
  have q1 := natOk_in h1
  have q2 := natOk_in h2
  have DV := hd (iDivisor a b la lb ca cb xs ys _ (hA.old hB2) (hB.old hB2) q1.2.1 q2.2.1 q1.2.2 q2.2.2 (by omega) (by omega) (hT.old hB2))
  have ON := hd iOne
  have AG := hd (fun av cv av2 cv2 base base2 w' (h : OI w' base av cv (natL (Nat.gcd (val xs) (val ys)))) (h' : OI w' base2 av2 cv2 (natL 1)) => iAgainst av av2 _ _ cv cv2 _ _ w' h.inI h'.inI (digs_natL _) (digs_natL _) (topped_natL _) (topped_natL _))
  simp only [val_natL] at AG
  have h3' : ((lb : Int) == 0) = false := by simp; omega
  have hG : Hid (Nat.gcd (val xs) (val ys) = 1 → ¬ (bl = true ∧ la = 0) → fracOk bl xs ys = true) := fun g hb => fracOk_mk h1 h2 (by omega) g (fun k => hb ⟨k.1, by omega⟩)
  have hN : Hid (¬ Nat.gcd (val xs) (val ys) = 1 → fracOk bl xs ys = false) := fun g => fracOk_no (fun h => g h.2.2.2.1)
  have hM : Hid ((bl = true ∧ la = 0) → fracOk bl xs ys = false) := fun g => fracOk_no (fun h => h.2.2.2.2 ⟨g.1, by omega⟩)
  clear h1 h2 q1 q2 pA pB h3 hA hB hT
  generalize Nat.gcd (val xs) (val ys) = gg at *
  go_wp2_with fail
  refine DV.out.mono ?_
  rintro e w3 ⟨⟨av, cv, rfl, hO⟩, hb3⟩
  go_wp2_with fail
  refine (ON.out _).mono ?_
  rintro e w4 ⟨⟨av2, cv2, rfl, hO2⟩, hb4⟩
  go_wp2_with fail
  refine (AG.out _ _ _ _ _ _ _ (hO.later hb4) hO2).mono ?_
  rintro e w5 ⟨rfl, hb5⟩
  have hB5 := old_trans (old_trans (old_trans hB2 hb3) hb4) hb5
  replace K3 := ((K3.old hb3).old hb4).old hb5
  replace K6 := ((K6.old hb3).old hb4).old hb5
  clear DV ON AG hO hO2 hb3 hb4 hb5 hB2 k1 k2 k3 k4 m1 m2 m3 m4 m5 m6 m7 K1 K2
  obtain ⟨k1, ⟨k2, k3, k4⟩, -⟩ := id K6
  obtain ⟨m1, ⟨m2, m3, m4⟩, m5, m6, m7⟩ := id K3
  by_cases hg : gg = 1
  rotate_left
  · have hf := hd (hN.out hg)
    have hc : (cmpI gg 1 == 0) = false := by
      unfold cmpI
      split
      · rfl
      · split
        · rfl
        · omega
    clear hN hG hM hg
    generalize cmpI gg 1 = cz at *
    go_wp2
    refine bodyPost_ret (resRatio (K3.setAll (.bool false) (.slice none 0 0) (.slice none 0 0)) rfl rfl) rfl ⟨.inr ⟨hf.out, _, rfl⟩, below_set (below_set (below_set hB5 (by omega) _) (by omega) _) (by omega) _⟩
  subst hg
  rw [cmpI_eq]
  by_cases hz : bl = true ∧ la = 0
  · obtain ⟨rfl, rfl⟩ := hz
    have hf := hd (hM.out ⟨rfl, rfl⟩)
    clear hN hG hM
    go_wp2
    refine bodyPost_ret (resRatio (K3.setAll (.bool false) (.slice none 0 0) (.slice none 0 0)) rfl rfl) rfl ⟨.inr ⟨hf.out, _, rfl⟩, below_set (below_set (below_set hB5 (by omega) _) (by omega) _) (by omega) _⟩
  have hf := hd (hG.out rfl hz)
  have hz' : bl = false ∨ (bl = true ∧ ((la : Int) == 0) = false) := by
    cases bl
    · exact .inl rfl
    · exact .inr ⟨rfl, beqF (Nat.pos_of_ne_zero (fun e => hz ⟨rfl, e⟩))⟩
  clear hN hG hM hz
  rcases hz' with rfl | ⟨rfl, hz⟩
  · go_wp2
    refine bodyPost_ret (resRatio (K3.setAll (.bool false) (.slice a la ca) (.slice b lb cb)) rfl rfl) rfl ⟨.inl ⟨hf.out, rfl⟩, below_set (below_set (below_set hB5 (by omega) _) (by omega) _) (by omega) _⟩
  · go_wp2
    refine bodyPost_ret (resRatio (K3.setAll (.bool true) (.slice a la ca) (.slice b lb cb)) rfl rfl) rfl ⟨.inl ⟨hf.out, rfl⟩, below_set (below_set (below_set hB5 (by omega) _) (by omega) _) (by omega) _⟩
end Go.Proofs.YtgoffjpfddmhhaaGreatDoor

/- Whether a fraction is in lowest terms, and its sign: by the program and by the specification; a law's own comparison of fractions. Conditions, of the program: the library's table and its handle of errors hold what their texts lay. -/
namespace Go.Proofs.YtgoffjpfddmhhaaGreatDoor
open Go.RowKit
set_option linter.unusedVariables false
set_option maxRecDepth 100000

theorem natL_single {g : Nat} (h : (natL g).length = 1) : natL g = [((g : Nat) : Int)] := by
  by_cases h0 : g = 0
  · subst h0; rw [natL_zero] at h; simp at h
  rw [natL, dif_neg h0] at h ⊢
  simp only [List.length_cons] at h
  have h1 : g / 65536 = 0 := natL_len0 (by omega)
  rw [h1, natL_zero]
  have : g % 65536 = g := by omega
  rw [this]
set_option maxHeartbeats 1000000 in
theorem sL6One (av : Option Addr) (cv g : Nat) (w : World) (h : InI w av (natL g).length cv (natL g)) :
    Calls Tryz.prog 63 #[.slice av (natL g).length cv] w fun e w' => e = .returned (.bool (decide (g = 1))) ∧ w' = w := by
  by_cases h1 : (natL g).length = 1
  · have e := natL_single h1
    obtain ⟨b, off, x, rfl, hbl, hx, -, c0⟩ := h.at (k := 0) (by omega)
    rw [Nat.add_zero] at c0
    rw [e] at hx
    obtain rfl : (g : Int) = x := by simpa using hx
    rw [h1]
    by_cases hg : g = 1
    · subst hg
      rw [decide_eq_true rfl]
      clear h e hx
      go_enter Tryz.func63, Tryz.ntmps63
      go_wp2
      go_ret
      exact ⟨rfl, rfl⟩
    · rw [decide_eq_false hg]
      have hg' : ((g : Int) == 1) = false := by simp; omega
      clear h e hx
      generalize (g : Int) = gI at *
      go_enter Tryz.func63, Tryz.ntmps63
      go_wp2
      go_ret
      exact ⟨rfl, rfl⟩
  · have hg : g ≠ 1 := by
      rintro rfl
      exact h1 (by rw [natL_one]; rfl)
    rw [decide_eq_false hg]
    have hl := h.len
    have hl' : (((natL g).length : Int) == 1) = false := by
      generalize (natL g).length = l at *
      simp; omega
    clear h
    generalize (natL g).length = l at *
    go_enter Tryz.func63, Tryz.ntmps63
    go_wp2
    go_ret
    exact ⟨rfl, rfl⟩
set_option maxHeartbeats 4000000 in
theorem sFracOk (bl : Bool) (a b : Option Addr) (la lb ca cb : Nat) (xs ys : List Int) (w : World) (hA : InI w a la ca xs) (hB : InI w b lb cb ys) :
    Calls Tryz.prog 33 #[.agg #[.bool bl, .slice a la ca, .slice b lb cb]] w fun e w' => e = .returned (.bool (fracOk bl xs ys)) ∧ Below w.heap.size w w' := by
  have e0 : Below w.heap.size w (w.alloc (.cells #[.bool bl, .slice a la ca, .slice b lb cb] 25)) := (by repeat (first | exact Below.refl _ _ | refine Below.drew ?_ | refine old_alloc ?_ _ | refine old_trans ?_ (by assumption)))
  have K1 := hd (sNatOk a la ca xs _ (hA.old e0))
  have K2 := hd (sNatOk b lb cb ys _ (hB.old e0))
  have hlA := hA.len
  have hlB := hB.len
  have pA := hA.1
  have pB := hB.1
  cases h1 : natOk xs
  · rw [h1] at K1
    rw [fracOk_no (fun h => by rw [h1] at h; exact absurd h.1 (by simp))]
    clear h1
    go_enter Tryz.func33, Tryz.ntmps33
    go_wp2_with fail
    refine K1.out.mono ?_
    rintro e w1 ⟨rfl, hw⟩
    obtain rfl := hw
    go_wp2
    go_ret
    exact ⟨rfl, e0⟩
  rw [h1] at K1
  cases h2 : natOk ys
  · rw [h2] at K2
    rw [fracOk_no (fun h => by rw [h2] at h; exact absurd h.2.1 (by simp))]
    clear h1 h2
    go_enter Tryz.func33, Tryz.ntmps33
    go_wp2_with fail
    refine K1.out.mono ?_
    rintro e w1 ⟨rfl, hw⟩
    obtain rfl := hw
    go_wp2_with fail
    refine K2.out.mono ?_
    rintro e w1 ⟨rfl, hw⟩
    obtain rfl := hw
    go_wp2
    go_ret
    exact ⟨rfl, e0⟩
  rw [h2] at K2
  by_cases h3 : lb = 0
  · rw [fracOk_no (fun h => h.2.2.1 (by omega))]
    subst h3
    clear h1 h2 pB
    go_enter Tryz.func33, Tryz.ntmps33
    go_wp2_with fail
    refine K1.out.mono ?_
    rintro e w1 ⟨rfl, hw⟩
    obtain rfl := hw
    go_wp2_with fail
    refine K2.out.mono ?_
    rintro e w1 ⟨rfl, hw⟩
    obtain rfl := hw
    go_wp2
    go_ret
    exact ⟨rfl, e0⟩
  have h3' := beqF (Nat.pos_of_ne_zero h3)
  by_cases h4 : bl = true ∧ la = 0
  · rw [fracOk_no (fun h => h.2.2.2.2 ⟨h4.1, by omega⟩)]
    obtain ⟨rfl, rfl⟩ := h4
    clear h1 h2 pA
    go_enter Tryz.func33, Tryz.ntmps33
    go_wp2_with fail
    refine K1.out.mono ?_
    rintro e w1 ⟨rfl, hw⟩
    obtain rfl := hw
    go_wp2_with fail
    refine K2.out.mono ?_
    rintro e w1 ⟨rfl, hw⟩
    obtain rfl := hw
    go_wp2
    go_ret
    exact ⟨rfl, e0⟩
  have q1 := natOk_in h1
  have q2 := natOk_in h2
  have G := hd (sGcd a b la lb ca cb xs ys _ (hA.old e0) (hB.old e0) q1.2.1 q2.2.1 (by omega) (by omega))
  have O := hd (fun av cv base w' (h : OI w' base av cv (natL (Nat.gcd (val xs) (val ys)))) => sL6One av cv _ w' h.inI)
  have hv : fracOk bl xs ys = decide (Nat.gcd (val xs) (val ys) = 1) := by
    by_cases hg : Nat.gcd (val xs) (val ys) = 1
    · rw [decide_eq_true hg]; exact fracOk_mk h1 h2 (by omega) hg (fun k => h4 ⟨k.1, by omega⟩)
    · rw [decide_eq_false hg]; exact fracOk_no (fun h => hg h.2.2.2.1)
  rw [hv]
  generalize decide (Nat.gcd (val xs) (val ys) = 1) = dd at *
  generalize Nat.gcd (val xs) (val ys) = gg at *
  have h4' : (((la : Int) == 0) = true ∧ bl = false) ∨ ((la : Int) == 0) = false := by
    by_cases hz : la = 0
    · refine .inl ⟨by simp; omega, ?_⟩
      cases bl
      · rfl
      · exact absurd ⟨rfl, hz⟩ h4
    · exact .inr (beqF (Nat.pos_of_ne_zero hz))
  clear h1 h2 q1 q2 pA pB hv h4 h3
  rcases h4' with ⟨h4, rfl⟩ | h4
  all_goals
    go_enter Tryz.func33, Tryz.ntmps33
    go_wp2_with fail
    refine K1.out.mono ?_
    rintro e w1 ⟨rfl, hw⟩
    obtain rfl := hw
    go_wp2_with fail
    refine K2.out.mono ?_
    rintro e w1 ⟨rfl, hw⟩
    obtain rfl := hw
    go_wp2_with fail
    refine G.out.mono ?_
    rintro e w2 ⟨⟨av, cv, rfl, hO⟩, hb2⟩
    go_wp2_with fail
    refine (O.out _ _ _ _ hO).mono ?_
    rintro e w3 ⟨rfl, hw⟩
    obtain rfl := hw
    go_wp2
    go_ret
    exact ⟨rfl, old_trans e0 hb2⟩
def signI (ok bl : Bool) (len : Nat) : Int := if ok = true ∧ len ≠ 0 then (if bl = true then -1 else 1) else 0
set_option maxHeartbeats 1000000 in
theorem iSign (bl : Bool) (a b : Option Addr) (la lb ca cb : Nat) (w : World) (hla : la ≤ 9223372036854775807) :
    Calls Tryz.prog 158 #[.agg #[.bool bl, .slice a la ca, .slice b lb cb]] w fun e w' => e = .returned (.int .i64 (signI true bl la)) ∧ Below w.heap.size w w' := by
  by_cases h0 : la = 0
  · subst h0
    rw [show signI true bl 0 = 0 from rfl]
    go_enter Tryz.func158, Tryz.ntmps158
    go_wp2
    go_ret
    exact ⟨rfl, (by repeat (first | exact Below.refl _ _ | refine Below.drew ?_ | refine old_alloc ?_ _ | refine old_trans ?_ (by assumption)))⟩
  · have h1 := beqF (Nat.pos_of_ne_zero h0)
    cases bl
    · rw [show signI true false la = 1 by unfold signI; rw [if_pos ⟨rfl, h0⟩]; rfl]
      go_enter Tryz.func158, Tryz.ntmps158
      go_wp2
      go_ret
      exact ⟨rfl, (by repeat (first | exact Below.refl _ _ | refine Below.drew ?_ | refine old_alloc ?_ _ | refine old_trans ?_ (by assumption)))⟩
    · rw [show signI true true la = -1 by unfold signI; rw [if_pos ⟨rfl, h0⟩]; rfl]
      go_enter Tryz.func158, Tryz.ntmps158
      go_wp2
      go_ret
      exact ⟨rfl, (by repeat (first | exact Below.refl _ _ | refine Below.drew ?_ | refine old_alloc ?_ _ | refine old_trans ?_ (by assumption)))⟩
end Go.Proofs.YtgoffjpfddmhhaaGreatDoor

/- Fractions brought to lowest terms: by the program and by the specification; answers with and without a fault. Conditions: digits without needless noughts, 1024 at most; of the program: the library's table and its handle of errors hold what their texts lay. -/
namespace Go.Proofs.YtgoffjpfddmhhaaGreatDoor
open Go.RowKit
set_option linter.unusedVariables false
set_option maxRecDepth 100000

def lowT (A B : Nat) : List Int := natL (A / Nat.gcd A B)
def lowU (A B : Nat) : List Int := natL (B / Nat.gcd A B)
def lowB (A B : Nat) : Bool := decide (B ≠ 0) && (decide ((lowT A B).length ≤ 256) && decide ((lowU A B).length ≤ 256))
theorem lowB_in {A B : Nat} (h : lowB A B = true) : B ≠ 0 ∧ (lowT A B).length ≤ 256 ∧ (lowU A B).length ≤ 256 := by
  unfold lowB at h
  simp only [Bool.and_eq_true, decide_eq_true_eq] at h
  exact h
theorem lowB_mk {A B : Nat} (h1 : B ≠ 0) (h2 : (lowT A B).length ≤ 256) (h3 : (lowU A B).length ≤ 256) : lowB A B = true := by
  unfold lowB
  simp only [Bool.and_eq_true, decide_eq_true_eq]
  exact ⟨h1, h2, h3⟩
theorem lowB_no {A B : Nat} (h : ¬ (B ≠ 0 ∧ (lowT A B).length ≤ 256 ∧ (lowU A B).length ≤ 256)) : lowB A B = false := by
  cases e : lowB A B
  · rfl
  · exact absurd (lowB_in e) h
theorem lowT_pos {A B : Nat} (h : A ≠ 0) : 0 < (lowT A B).length := by
  refine natL_length_pos ?_
  have hg : 0 < Nat.gcd A B := Nat.gcd_pos_of_pos_left _ (Nat.pos_of_ne_zero h)
  exact Nat.div_pos (Nat.le_of_dvd (Nat.pos_of_ne_zero h) (Nat.gcd_dvd_left _ _)) hg
theorem lowT_zero (B : Nat) : lowT 0 B = [] := by unfold lowT; rw [Nat.zero_div, natL_zero]
theorem lowU_zero {B : Nat} (h : B ≠ 0) : lowU 0 B = natL 1 := by unfold lowU; rw [Nat.gcd_zero_left, Nat.div_self (Nat.pos_of_ne_zero h)]
theorem retF {b c : Bool} {x y z : Value} (h : c = b) : Ending.returned (.tuple #[.agg #[.bool b, x, y], z]) = .returned (.tuple #[.agg #[.bool c, x, y], z]) := by rw [h]
theorem resLow {W : World} {b : Nat} {v0 v1 v2 err : Value} {tmps : Array Value} (h : Cel3 W b v0 v1 v2) (ht : tmps[2]? = some (.pointer (some ⟨b, 0, none⟩))) (h3 : tmps[3]? = some err) : (results Tryz.f41 tmps).run Tryz.prog W = .ok (.tuple #[.agg #[v0, v1, v2], err]) W := by
  obtain ⟨h1, ⟨a0, a1, a2⟩, -⟩ := h
  simp [results, Tryz.results41, go_sem, a0, a1, a2, ht, h3]
set_option maxHeartbeats 8000000 in
theorem iLowest (bl : Bool) (a b : Option Addr) (ca cb : Nat) (A B : Nat) (w : World) (hA : InI w a (natL A).length ca (natL A)) (hB : InI w b (natL B).length cb (natL B)) (hla : (natL A).length ≤ 1024) (hlb : (natL B).length ≤ 1024) (hT : Tab w) :
    Calls Tryz.prog 41 #[.agg #[.bool bl, .slice a (natL A).length ca, .slice b (natL B).length cb]] w fun e w' => ((lowB A B = true ∧ ∃ av cv av' cv', e = .returned (.tuple #[.agg #[.bool (bl && decide (A ≠ 0)), .slice av (lowT A B).length cv, .slice av' (lowU A B).length cv'], .nilIface]) ∧ OI w' w.heap.size av cv (lowT A B) ∧ OI w' w.heap.size av' cv' (lowU A B) ∧ Sep av av') ∨ (lowB A B = false ∧ ∃ s, e = .returned (.tuple #[.agg #[.bool false, .slice none 0 0, .slice none 0 0], .iface 129 (.agg #[.string s])]))) ∧ Below w.heap.size w w' := by
  have e0 : Below w.heap.size w ((w.alloc (.cells #[.bool bl, .slice a (natL A).length ca, .slice b (natL B).length cb] 84)).alloc (.cells #[.bool false, .slice none 0 0, .slice none 0 0] 25)) := (by repeat (first | exact Below.refl _ _ | refine Below.drew ?_ | refine old_alloc ?_ _ | refine old_trans ?_ (by assumption)))
  have K1 := (Cel3.new w (.bool bl) (.slice a (natL A).length ca) (.slice b (natL B).length cb) 84).old (old_alloc (Below.refl _ _) (.cells #[.bool false, .slice none 0 0, .slice none 0 0] 25))
  have K2 := Cel3.new (w.alloc (.cells #[.bool bl, .slice a (natL A).length ca, .slice b (natL B).length cb] 84)) (.bool false) (.slice none 0 0) (.slice none 0 0) 25
  simp only [World.size_alloc] at K2
  by_cases hB0 : B = 0
  · have hf : Hid (lowB A B = false) := lowB_no (fun h => h.1 hB0)
    subst hB0
    rw [natL_zero] at *
    have hl := hA.len
    show Calls _ _ #[.agg #[.bool bl, .slice a (natL A).length ca, .slice b 0 cb]] _ _
    clear hB hlb hA hT
    generalize (natL A).length = la at *
    go_enter Tryz.func41, Tryz.ntmps41
    go_wp2
    refine bodyPost_ret (resLow K2 rfl rfl) rfl ⟨.inr ⟨hf.out, _, rfl⟩, e0⟩
  have hbp := natL_length_pos (Nat.pos_of_ne_zero hB0)
  have hg : 0 < Nat.gcd A B := Nat.gcd_pos_of_pos_right _ (Nat.pos_of_ne_zero hB0)
  have hgl : (natL (Nat.gcd A B)).length ≤ 1024 := Nat.le_trans (natL_le (Nat.le_of_dvd (Nat.pos_of_ne_zero hB0) (Nat.gcd_dvd_right _ _))) hlb
  have DV := hd (iDivisor a b _ _ ca cb _ _ _ (hA.old e0) (hB.old e0) (digs_natL A) (digs_natL B) (topped_natL A) (topped_natL B) hla hlb (hT.old e0))
  have C1 := hd (fun av cv base w' (h : Below w.heap.size w w') (h' : OI w' base av cv (natL (Nat.gcd A B))) => iCut a av _ _ ca cv _ _ w' (hA.old h) h'.inI (digs_natL A) (digs_natL _) (topped_natL _) (by omega) (by omega) (natL_length_pos hg))
  have C2 := hd (fun av cv base w' (h : Below w.heap.size w w') (h' : OI w' base av cv (natL (Nat.gcd A B))) => iCut b av _ _ cb cv _ _ w' (hB.old h) h'.inI (digs_natL B) (digs_natL _) (topped_natL _) (by omega) (by omega) (natL_length_pos hg))
  simp only [val_natL] at DV C1 C2
  have hT1 : Hid (lowT A B = natL (A / Nat.gcd A B)) := rfl
  have hU1 : Hid (lowU A B = natL (B / Nat.gcd A B)) := rfl
  rw [← hT1.out] at C1
  rw [← hU1.out] at C2
  have hbi := beqF hbp
  have lt0 : (lowT A B).length ≤ 1024 := Nat.le_trans (natL_le (Nat.div_le_self _ _)) hla
  have lu0 : (lowU A B).length ≤ 1024 := Nat.le_trans (natL_le (Nat.div_le_self _ _)) hlb
  have hyes : Hid ((lowT A B).length ≤ 256 → (lowU A B).length ≤ 256 → lowB A B = true) := fun h1 h2 => lowB_mk hB0 h1 h2
  have hno : Hid (¬ ((lowT A B).length ≤ 256 ∧ (lowU A B).length ≤ 256) → lowB A B = false) := fun h => lowB_no (fun k => h k.2)
  have hz : Hid (A = 0 → (lowT A B).length = 0) := fun h => by subst h; rw [lowT_zero]; rfl
  have hnz : Hid (A ≠ 0 → 0 < (lowT A B).length) := fun h => lowT_pos h
  clear hA hB hT hbp hg hT1 hU1 hla hlb hB0 hgl
  generalize natL (Nat.gcd A B) = gl at *
  generalize natL (A % Nat.gcd A B) = r1 at *
  generalize natL (B % Nat.gcd A B) = r2 at *
  go_enter Tryz.func41, Tryz.ntmps41
  go_wp2_with fail
  refine DV.out.mono ?_
  rintro e w1 ⟨⟨avG, cvG, rfl, hG⟩, hb1⟩
  replace K1 := K1.old hb1
  replace K2 := K2.old hb1
  have hB1 := old_trans e0 hb1
  have hs1 := K2.1
  clear e0 hb1 DV
  obtain ⟨k1, ⟨k2, k3, k4⟩, -⟩ := id K1
  go_wp2_with fail
  refine (C1.out _ _ _ _ hB1 hG).mono ?_
  rintro e w2 ⟨⟨av, cv, av1, cv1, rfl, hO, -, -⟩, hb2⟩
  replace K1 := K1.old hb2
  replace K2 := K2.old hb2
  have hs2 := K2.1
  have hG2 := hG.later hb2
  have hB2 := old_trans hB1 hb2
  clear hb2 C1 k1 k2 k3 k4 hG hB1
  obtain ⟨k1, ⟨k2, k3, k4⟩, -⟩ := id K1
  go_wp2_with fail
  refine (C2.out _ _ _ _ hB2 hG2).mono ?_
  rintro e w3 ⟨⟨av', cv', av3, cv3, rfl, hO', -, -⟩, hb3⟩
  replace K1 := K1.old hb3
  replace K2 := K2.old hb3
  have hsep := OI.sepOf hO hO' (Nat.le_refl _)
  have hO2 := hO.later hb3
  have hB3 := old_trans hB2 hb3
  have q1 := hO2
  have q2 := hO'
  clear hb3 C2 k1 k2 k3 k4 hG2 hB2 hO hO' hO2
  obtain ⟨k1, ⟨k2, k3, k4⟩, -⟩ := id K1
  obtain ⟨m1, ⟨m2, m3, m4⟩, m5, m6, m7⟩ := id K2
  by_cases h256 : (lowT A B).length ≤ 256 ∧ (lowU A B).length ≤ 256
  rotate_left
  · have hf := hd (hno.out h256)
    have hc : 256 < ((lowT A B).length : Int) ∨ (((lowT A B).length : Int) ≤ 256 ∧ 256 < ((lowU A B).length : Int)) := by omega
    clear hno hyes h256 hz hnz q1 q2 hsep
    have qT : (0 : Int) ≤ ((lowT A B).length : Int) := by omega
    have qU : (0 : Int) ≤ ((lowU A B).length : Int) := by omega
    generalize hLT : ((lowT A B).length : Int) = LT at *
    generalize hLU : ((lowU A B).length : Int) = LU at *
    rcases hc with hc | ⟨hc0, hc⟩
    · go_wp2
      refine bodyPost_ret (resLow (K2.setAll (.bool false) (.slice none 0 0) (.slice none 0 0)) rfl rfl) rfl ⟨.inr ⟨hf.out, _, rfl⟩, below_set (below_set (below_set hB3 (by omega) _) (by omega) _) (by omega) _⟩
    · go_wp2
      refine bodyPost_ret (resLow (K2.setAll (.bool false) (.slice none 0 0) (.slice none 0 0)) rfl rfl) rfl ⟨.inr ⟨hf.out, _, rfl⟩, below_set (below_set (below_set hB3 (by omega) _) (by omega) _) (by omega) _⟩
  have hf := hd (hyes.out h256.1 h256.2)
  have c1 : ¬ (256 < ((lowT A B).length : Int)) := by omega
  have c2 : ¬ (256 < ((lowU A B).length : Int)) := by omega
  have qT : (0 : Int) ≤ ((lowT A B).length : Int) := by omega
  have qU : (0 : Int) ≤ ((lowU A B).length : Int) := by omega
  have hcase : (bl = false ∧ (bl && decide (A ≠ 0)) = false) ∨ (bl = true ∧ ((lowT A B).length : Int) = 0 ∧ (bl && decide (A ≠ 0)) = false) ∨ (bl = true ∧ 0 < ((lowT A B).length : Int) ∧ (bl && decide (A ≠ 0)) = true) := by
    cases bl
    · exact .inl ⟨rfl, rfl⟩
    · by_cases hA0 : A = 0
      · exact .inr (.inl ⟨rfl, by have := hz.out hA0; omega, by rw [decide_eq_false (by simpa using hA0)]; rfl⟩)
      · exact .inr (.inr ⟨rfl, by have := hnz.out hA0; omega, by rw [decide_eq_true hA0]; rfl⟩)
  clear hno hyes h256 hz hnz
  have w1' := oi_set3 (v0 := .bool (bl && decide (A ≠ 0))) (v1 := .slice av (lowT A B).length cv) (v2 := .slice av' (lowU A B).length cv') q1 hs1
  have w2' := oi_set3 (v0 := .bool (bl && decide (A ≠ 0))) (v1 := .slice av (lowT A B).length cv) (v2 := .slice av' (lowU A B).length cv') q2 hs2
  have hK := K2.setAll (.bool (bl && decide (A ≠ 0))) (.slice av (lowT A B).length cv) (.slice av' (lowU A B).length cv')
  have hBF : Below w.heap.size w (((w3.setCell ⟨w.heap.size + 1, 0, none⟩ (.bool (bl && decide (A ≠ 0)))).setCell ⟨w.heap.size + 1, 1, none⟩ (.slice av (lowT A B).length cv)).setCell ⟨w.heap.size + 1, 2, none⟩ (.slice av' (lowU A B).length cv')) := below_set (below_set (below_set hB3 (by omega) _) (by omega) _) (by omega) _
  replace w1' := w1'.mono (show w.heap.size ≤ w1.heap.size by omega)
  replace w2' := w2'.mono (show w.heap.size ≤ w2.heap.size by omega)
  rcases hcase with ⟨rfl, hv⟩ | ⟨rfl, hl0, hv⟩ | ⟨rfl, hl0, hv⟩
  · have hv' := hd hv
    rw [hv] at hK hBF w1' w2'
    clear hv q1 q2
    go_wp2
    refine bodyPost_ret (resLow hK rfl rfl) rfl ⟨.inl ⟨hf.out, av, cv, av', cv', ?_, w1', w2', hsep⟩, hBF⟩
    exact retF hv'.out
  · have hv' := hd hv
    rw [hv] at hK hBF w1' w2'
    clear hv q1 q2
    go_wp2
    refine bodyPost_ret (resLow hK rfl rfl) rfl ⟨.inl ⟨hf.out, av, cv, av', cv', ?_, w1', w2', hsep⟩, hBF⟩
    exact retF hv'.out
  · replace hv : (true && decide (A ≠ 0)) = decide (0 < (lowT A B).length) := by rw [hv, decide_eq_true (by omega)]
    have hv' := hd hv
    rw [hv] at hK hBF w1' w2'
    clear hv q1 q2
    go_wp2
    refine bodyPost_ret (resLow hK rfl rfl) rfl ⟨.inl ⟨hf.out, av, cv, av', cv', ?_, w1', w2', hsep⟩, hBF⟩
    exact retF hv'.out
end Go.Proofs.YtgoffjpfddmhhaaGreatDoor

/- Answers with and without a fault; fractions of two numbers: by the program and by the specification; a law's own marks of fractions. Conditions, of the program: the library's table and its handle of errors hold what their texts lay. -/
namespace Go.Proofs.YtgoffjpfddmhhaaGreatDoor
open Go.RowKit
set_option linter.unusedVariables false
set_option maxRecDepth 100000

def fT (ok : Bool) (A B : Nat) : List Int := if ok then lowT A B else []
def fU (ok : Bool) (A B : Nat) : List Int := if ok then lowU A B else []
def fS (ok s : Bool) (A : Nat) : Bool := ok && (s && decide (A ≠ 0))
/-- a fraction that a call answers with, and whether there is one -/
def FRes (w : World) (base : Nat) (e : Ending) (ok s : Bool) (A B : Nat) : Prop := ∃ av cv av' cv', e = .returned (.tuple #[.agg #[.bool (fS ok s A), .slice av (fT ok A B).length cv, .slice av' (fU ok A B).length cv'], .bool ok]) ∧ OI w base av cv (fT ok A B) ∧ OI w base av' cv' (fU ok A B) ∧ Sep av av'
theorem FRes.no (w : World) (base : Nat) (s : Bool) (A B : Nat) : FRes w base (.returned (.tuple #[.agg #[.bool false, .slice none 0 0, .slice none 0 0], .bool false])) false s A B := ⟨none, 0, none, 0, rfl, OI.none _ _, OI.none _ _, Sep.none _⟩
theorem FRes.yes {w : World} {base : Nat} {s : Bool} {A B : Nat} {av av' : Option Addr} {cv cv' : Nat} (h1 : OI w base av cv (lowT A B)) (h2 : OI w base av' cv' (lowU A B)) (h3 : Sep av av') : FRes w base (.returned (.tuple #[.agg #[.bool (s && decide (A ≠ 0)), .slice av (lowT A B).length cv, .slice av' (lowU A B).length cv'], .bool true])) true s A B := ⟨av, cv, av', cv', by unfold fS fT fU; simp only [Bool.true_and, if_true], h1, h2, h3⟩
theorem resAns {W : World} {b : Nat} {v0 v1 v2 r : Value} {tmps : Array Value} (h : Cel3 W b v0 v1 v2) (ht : tmps[4]? = some (.pointer (some ⟨b, 0, none⟩))) (h3 : tmps[5]? = some r) : (results Tryz.f39 tmps).run Tryz.prog W = .ok (.tuple #[.agg #[v0, v1, v2], r]) W := by
  obtain ⟨h1, ⟨a0, a1, a2⟩, -⟩ := h
  simp [results, Tryz.results39, go_sem, a0, a1, a2, ht, h3]
set_option maxHeartbeats 1000000 in
theorem iAnsNil (s : Bool) (v1 v2 : Value) (h1 : ∃ a l c, v1 = .slice a l c) (h2 : ∃ a l c, v2 = .slice a l c) (w : World) : Calls Tryz.prog 39 #[.agg #[.bool s, v1, v2], .nilIface] w fun e w' => e = .returned (.tuple #[.agg #[.bool s, v1, v2], .bool true]) ∧ Below w.heap.size w w' := by
  obtain ⟨a1, l1, c1, rfl⟩ := h1
  obtain ⟨a2, l2, c2, rfl⟩ := h2
  have F0 := hd iNoFault
  have e0 : Below w.heap.size w ((w.alloc (.cells #[.bool s, .slice a1 l1 c1, .slice a2 l2 c2] 25)).alloc (.cells #[.bool false, .slice none 0 0, .slice none 0 0] 25)) := (by repeat (first | exact Below.refl _ _ | refine Below.drew ?_ | refine old_alloc ?_ _ | refine old_trans ?_ (by assumption)))
  have K1 := (Cel3.new w (.bool s) (.slice a1 l1 c1) (.slice a2 l2 c2) 25).old (old_alloc (Below.refl _ _) (.cells #[.bool false, .slice none 0 0, .slice none 0 0] 25))
  have K2 := Cel3.new (w.alloc (.cells #[.bool s, .slice a1 l1 c1, .slice a2 l2 c2] 25)) (.bool false) (.slice none 0 0) (.slice none 0 0) 25
  simp only [World.size_alloc] at K2
  go_enter Tryz.func39, Tryz.ntmps39
  go_wp2_with fail
  refine (F0.out _).mono ?_
  rintro e w1 ⟨rfl, hb1⟩
  replace K1 := K1.old hb1
  replace K2 := K2.old hb1
  have hB1 := old_trans e0 hb1
  clear hb1 e0
  obtain ⟨k1, ⟨k2, k3, k4⟩, -⟩ := id K1
  obtain ⟨m1, ⟨m2, m3, m4⟩, m5, m6, m7⟩ := id K2
  go_wp2
  refine bodyPost_ret (resAns (K2.setAll (.bool s) (.slice a1 l1 c1) (.slice a2 l2 c2)) rfl rfl) rfl ⟨rfl, below_set (below_set (below_set hB1 (by omega) _) (by omega) _) (by omega) _⟩
set_option maxHeartbeats 1000000 in
theorem iAnsFault (s : Bool) (v1 v2 : Value) (h1 : ∃ a l c, v1 = .slice a l c) (h2 : ∃ a l c, v2 = .slice a l c) (f : ByteArray) (w : World) (hE : ET w) : Calls Tryz.prog 39 #[.agg #[.bool s, v1, v2], .iface 129 (.agg #[.string f])] w fun e w' => e = .returned (.tuple #[.agg #[.bool false, .slice none 0 0, .slice none 0 0], .bool false]) ∧ Below w.heap.size w w' := by
  obtain ⟨a1, l1, c1, rfl⟩ := h1
  obtain ⟨a2, l2, c2, rfl⟩ := h2
  have e0 : Below w.heap.size w ((w.alloc (.cells #[.bool s, .slice a1 l1 c1, .slice a2 l2 c2] 25)).alloc (.cells #[.bool false, .slice none 0 0, .slice none 0 0] 25)) := (by repeat (first | exact Below.refl _ _ | refine Below.drew ?_ | refine old_alloc ?_ _ | refine old_trans ?_ (by assumption)))
  have F1 := hd (iFault f _ (hE.old e0))
  have K2 := Cel3.new (w.alloc (.cells #[.bool s, .slice a1 l1 c1, .slice a2 l2 c2] 25)) (.bool false) (.slice none 0 0) (.slice none 0 0) 25
  simp only [World.size_alloc] at K2
  go_enter Tryz.func39, Tryz.ntmps39
  go_wp2_with fail
  refine F1.out.mono ?_
  rintro e w1 ⟨rfl, hb1⟩
  replace K2 := K2.old hb1
  have hB1 := old_trans e0 hb1
  clear hb1 e0
  obtain ⟨m1, ⟨m2, m3, m4⟩, m5, m6, m7⟩ := id K2
  go_wp2
  refine bodyPost_ret (resAns (K2.setAll (.bool false) (.slice none 0 0) (.slice none 0 0)) rfl rfl) rfl ⟨rfl, below_set (below_set (below_set hB1 (by omega) _) (by omega) _) (by omega) _⟩
theorem resMake {W : World} {b : Nat} {v0 v1 v2 r : Value} {tmps : Array Value} (h : Cel3 W b v0 v1 v2) (ht : tmps[6]? = some (.pointer (some ⟨b, 0, none⟩))) (h3 : tmps[7]? = some r) : (results Tryz.f46 tmps).run Tryz.prog W = .ok (.tuple #[.agg #[v0, v1, v2], r]) W := by
  obtain ⟨h1, ⟨a0, a1, a2⟩, -⟩ := h
  simp [results, Tryz.results46, go_sem, a0, a1, a2, ht, h3]
set_option maxHeartbeats 8000000 in
theorem sL6Make (s : Bool) (a b : Option Addr) (ca cb : Nat) (A B : Nat) (w : World) (hA : InI w a (natL A).length ca (natL A)) (hB : InI w b (natL B).length cb (natL B)) (hla : (natL A).length ≤ 65536) (hlb : (natL B).length ≤ 65536) (hB0 : B ≠ 0) :
    Calls Tryz.prog 46 #[.bool s, .slice a (natL A).length ca, .slice b (natL B).length cb] w fun e w' => FRes w' w.heap.size e (lowB A B) s A B ∧ Below w.heap.size w w' := by
  have e0 : Below w.heap.size w (w.alloc (.cells #[.bool false, .slice none 0 0, .slice none 0 0] 25)) := (by repeat (first | exact Below.refl _ _ | refine Below.drew ?_ | refine old_alloc ?_ _ | refine old_trans ?_ (by assumption)))
  have K2 := Cel3.new w (.bool false) (.slice none 0 0) (.slice none 0 0) 25
  by_cases hA0 : A = 0
  · subst hA0
    have hf : lowB 0 B = true := lowB_mk hB0 (by rw [lowT_zero]; simp) (by rw [lowU_zero hB0, natL_one]; simp)
    rw [natL_zero] at *
    show Calls _ _ #[.bool s, .slice a 0 ca, .slice b (natL B).length cb] _ _
    have hr : IRow ((w.alloc (.cells #[.bool false, .slice none 0 0, .slice (some ⟨w.heap.size + 1, 0, none⟩) 1 1] 25)).alloc (.cells #[.int .i64 1] 3)) (w.heap.size + 1) [1] := ⟨by simp, fun i hi => by
      obtain rfl : i = 0 := by simp at hi; omega
      simp⟩
    have K9 := (Cel3.new w (.bool false) (.slice none 0 0) (.slice (some ⟨w.heap.size + 1, 0, none⟩) 1 1) 25).old (old_alloc (Below.refl _ _) (.cells #[.int .i64 1] 3))
    have hfin : Hid (FRes ((w.alloc (.cells #[.bool false, .slice none 0 0, .slice (some ⟨w.heap.size + 1, 0, none⟩) 1 1] 25)).alloc (.cells #[.int .i64 1] 3)) w.heap.size (.returned (.tuple #[.agg #[.bool false, .slice none 0 0, .slice (some ⟨w.heap.size + 1, 0, none⟩) 1 1], .bool true])) (lowB 0 B) s 0 B) := by
      show FRes _ _ _ _ _ _ _
      rw [hf]
      have h1 : lowU 0 B = [1] := by rw [lowU_zero hB0, natL_one]
      refine ⟨none, 0, some ⟨w.heap.size + 1, 0, none⟩, 1, ?_, ?_, ?_, Sep.none _⟩
      · unfold fS fT fU
        simp only [if_true, lowT_zero, h1]
        simp
      · show OI _ _ _ _ (lowT 0 B)
        rw [lowT_zero]
        exact OI.none _ _
      · show OI _ _ _ _ (lowU 0 B)
        rw [h1]
        exact ⟨fun x hx => by simp at hx; subst hx; omega, Nat.le_refl _, by unfold maxLen; omega, .inr ⟨_, rfl, by omega, hr⟩⟩
    clear hA hB hla hlb hf
    go_enter Tryz.func46, Tryz.ntmps46
    go_wp2
    refine bodyPost_ret (resMake K9 rfl rfl) rfl ⟨hfin.out, (by repeat (first | exact Below.refl _ _ | refine Below.drew ?_ | refine old_alloc ?_ _ | refine old_trans ?_ (by assumption)))⟩
  have hap := natL_length_pos (Nat.pos_of_ne_zero hA0)
  have hg : 0 < Nat.gcd A B := Nat.gcd_pos_of_pos_right _ (Nat.pos_of_ne_zero hB0)
  have hgl : (natL (Nat.gcd A B)).length ≤ 65536 := Nat.le_trans (natL_le (Nat.le_of_dvd (Nat.pos_of_ne_zero hB0) (Nat.gcd_dvd_right _ _))) hlb
  have DV := hd (sGcd a b _ _ ca cb _ _ _ (hA.old e0) (hB.old e0) (digs_natL A) (digs_natL B) hla hlb)
  have C1 := hd (fun av cv base w' (h : Below w.heap.size w w') (h' : OI w' base av cv (natL (Nat.gcd A B))) => sDiv a av _ _ ca cv _ _ w' (hA.old h) h'.inI (digs_natL A) (digs_natL _) (topped_natL _) (topped_natL _) hla (by omega) (natL_length_pos hg))
  have C2 := hd (fun av cv base w' (h : Below w.heap.size w w') (h' : OI w' base av cv (natL (Nat.gcd A B))) => sDiv b av _ _ cb cv _ _ w' (hB.old h) h'.inI (digs_natL B) (digs_natL _) (topped_natL _) (topped_natL _) hlb (by omega) (natL_length_pos hg))
  simp only [val_natL] at DV C1 C2
  have hT1 : Hid (lowT A B = natL (A / Nat.gcd A B)) := rfl
  have hU1 : Hid (lowU A B = natL (B / Nat.gcd A B)) := rfl
  rw [← hT1.out] at C1
  rw [← hU1.out] at C2
  have hbi := beqF hap
  have lt0 : (lowT A B).length ≤ 65536 := Nat.le_trans (natL_le (Nat.div_le_self _ _)) hla
  have lu0 : (lowU A B).length ≤ 65536 := Nat.le_trans (natL_le (Nat.div_le_self _ _)) hlb
  have hyes : Hid ((lowT A B).length ≤ 256 → (lowU A B).length ≤ 256 → lowB A B = true) := fun h1 h2 => lowB_mk hB0 h1 h2
  have hno : Hid (¬ ((lowT A B).length ≤ 256 ∧ (lowU A B).length ≤ 256) → lowB A B = false) := fun h => lowB_no (fun k => h k.2)
  have hsA : Hid ((s && decide (A ≠ 0)) = s) := by show _ = _; rw [decide_eq_true hA0, Bool.and_true]
  clear hA hB hap hg hT1 hU1 hla hlb hB0 hgl hA0
  generalize natL (Nat.gcd A B) = gl at *
  generalize natL (A % Nat.gcd A B) = r1 at *
  generalize natL (B % Nat.gcd A B) = r2 at *
  go_enter Tryz.func46, Tryz.ntmps46
  go_wp2_with fail
  refine DV.out.mono ?_
  rintro e w1 ⟨⟨avG, cvG, rfl, hG⟩, hb1⟩
  replace K2 := K2.old hb1
  have hB1 := old_trans e0 hb1
  have hs1 := K2.1
  clear e0 hb1 DV
  go_wp2_with fail
  refine (C1.out _ _ _ _ hB1 hG).mono ?_
  rintro e w2 ⟨⟨av, cv, av1, cv1, rfl, hO, -, -⟩, hb2⟩
  replace K2 := K2.old hb2
  have hs2 := K2.1
  have hG2 := hG.later hb2
  have hB2 := old_trans hB1 hb2
  clear hb2 C1 hG hB1
  go_wp2_with fail
  refine (C2.out _ _ _ _ hB2 hG2).mono ?_
  rintro e w3 ⟨⟨av', cv', av3, cv3, rfl, hO', -, -⟩, hb3⟩
  replace K2 := K2.old hb3
  have hsep := OI.sepOf hO hO' (Nat.le_refl _)
  have q1 := hO.later hb3
  have hB3 := old_trans hB2 hb3
  have q2 := hO'
  clear hb3 C2 hG2 hB2 hO hO'
  obtain ⟨m1, ⟨m2, m3, m4⟩, m5, m6, m7⟩ := id K2
  have qT : (0 : Int) ≤ ((lowT A B).length : Int) := by omega
  have qU : (0 : Int) ≤ ((lowU A B).length : Int) := by omega
  by_cases h256 : (lowT A B).length ≤ 256 ∧ (lowU A B).length ≤ 256
  rotate_left
  · have hf : Hid (∀ W, FRes W w.heap.size (.returned (.tuple #[.agg #[.bool false, .slice none 0 0, .slice none 0 0], .bool false])) (lowB A B) s A B) := fun W => by rw [hno.out h256]; exact FRes.no _ _ _ _ _
    have hc : 256 < ((lowT A B).length : Int) ∨ (((lowT A B).length : Int) ≤ 256 ∧ 256 < ((lowU A B).length : Int)) := by omega
    clear hno hyes h256 q1 q2 hsep
    generalize hLT : ((lowT A B).length : Int) = LT at *
    generalize hLU : ((lowU A B).length : Int) = LU at *
    rcases hc with hc | ⟨hc0, hc⟩
    · go_wp2
      refine bodyPost_ret (resMake (K2.setAll (.bool false) (.slice none 0 0) (.slice none 0 0)) rfl rfl) rfl ⟨hf.out _, below_set (below_set (below_set hB3 (by omega) _) (by omega) _) (by omega) _⟩
    · go_wp2
      refine bodyPost_ret (resMake (K2.setAll (.bool false) (.slice none 0 0) (.slice none 0 0)) rfl rfl) rfl ⟨hf.out _, below_set (below_set (below_set hB3 (by omega) _) (by omega) _) (by omega) _⟩
  have hf := hd (hyes.out h256.1 h256.2)
  have c1 : ¬ (256 < ((lowT A B).length : Int)) := by omega
  have c2 : ¬ (256 < ((lowU A B).length : Int)) := by omega
  have w1' := (oi_set3 (v0 := .bool s) (v1 := .slice av (lowT A B).length cv) (v2 := .slice av' (lowU A B).length cv') q1 hs1).mono (show w.heap.size ≤ w1.heap.size by omega)
  have w2' := (oi_set3 (v0 := .bool s) (v1 := .slice av (lowT A B).length cv) (v2 := .slice av' (lowU A B).length cv') q2 hs2).mono (show w.heap.size ≤ w2.heap.size by omega)
  have hK := K2.setAll (.bool s) (.slice av (lowT A B).length cv) (.slice av' (lowU A B).length cv')
  have hfin : Hid (FRes (((w3.setCell ⟨w.heap.size, 0, none⟩ (.bool s)).setCell ⟨w.heap.size, 1, none⟩ (.slice av (lowT A B).length cv)).setCell ⟨w.heap.size, 2, none⟩ (.slice av' (lowU A B).length cv')) w.heap.size (.returned (.tuple #[.agg #[.bool s, .slice av (lowT A B).length cv, .slice av' (lowU A B).length cv'], .bool true])) (lowB A B) s A B) := by
    show FRes _ _ _ _ _ _ _
    rw [hf.out]
    have := FRes.yes (s := s) w1' w2' hsep
    rw [hsA.out] at this
    exact this
  clear hno hyes h256 q1 q2 hf
  go_wp2
  refine bodyPost_ret (resMake hK rfl rfl) rfl ⟨hfin.out, below_set (below_set (below_set hB3 (by omega) _) (by omega) _) (by omega) _⟩
end Go.Proofs.YtgoffjpfddmhhaaGreatDoor

/- The fraction of a sign and two numbers: by the program and by the specification; a law's own marks of fractions. Conditions, of the program: the library's table and its handle of errors hold what their texts lay. -/
namespace Go.Proofs.YtgoffjpfddmhhaaGreatDoor
open Go.RowKit
set_option linter.unusedVariables false
set_option maxRecDepth 100000

def ofB (xs ys : List Int) : Bool := natOk xs && (natOk ys && lowB (val xs) (val ys))
theorem sl (a : Option Addr) (l c : Nat) : ∃ a' l' c', Value.slice a l c = .slice a' l' c' := ⟨a, l, c, rfl⟩
/-- an answer put into a variable -/
theorem FRes.put {w w' : World} {base n b : Nat} {ok s : Bool} {A B : Nat} {av av' : Option Addr} {cv cv' : Nat} (h1 : OI w n av cv (fT ok A B)) (h2 : OI w n av' cv' (fU ok A B)) (h3 : Sep av av') (hb : base ≤ n) (hn : b < n) :
    FRes (((w.setCell ⟨b, 0, none⟩ (.bool (fS ok s A))).setCell ⟨b, 1, none⟩ (.slice av (fT ok A B).length cv)).setCell ⟨b, 2, none⟩ (.slice av' (fU ok A B).length cv')) base (.returned (.tuple #[.agg #[.bool (fS ok s A), .slice av (fT ok A B).length cv, .slice av' (fU ok A B).length cv'], .bool ok])) ok s A B :=
  ⟨av, cv, av', cv', rfl, (oi_set3 h1 hn).mono hb, (oi_set3 h2 hn).mono hb, h3⟩
theorem resOfS {W : World} {b : Nat} {v0 v1 v2 r : Value} {tmps : Array Value} (h : Cel3 W b v0 v1 v2) (ht : tmps[6]? = some (.pointer (some ⟨b, 0, none⟩))) (h3 : tmps[7]? = some r) : (results Tryz.f55 tmps).run Tryz.prog W = .ok (.tuple #[.agg #[v0, v1, v2], r]) W := by
  obtain ⟨h1, ⟨a0, a1, a2⟩, -⟩ := h
  simp [results, Tryz.results55, go_sem, a0, a1, a2, ht, h3]
set_option maxHeartbeats 8000000 in
theorem sFracOf (bl : Bool) (a b : Option Addr) (la lb ca cb : Nat) (xs ys : List Int) (w : World) (hA : InI w a la ca xs) (hB : InI w b lb cb ys) :
    Calls Tryz.prog 55 #[.bool bl, .slice a la ca, .slice b lb cb] w fun e w' => FRes w' w.heap.size e (ofB xs ys) bl (val xs) (val ys) ∧ Below w.heap.size w w' := by
  have e0 : Below w.heap.size w (w.alloc (.cells #[.bool false, .slice none 0 0, .slice none 0 0] 25)) := (by repeat (first | exact Below.refl _ _ | refine Below.drew ?_ | refine old_alloc ?_ _ | refine old_trans ?_ (by assumption)))
  have K2 := Cel3.new w (.bool false) (.slice none 0 0) (.slice none 0 0) 25
  have K1 := hd (sNatOk a la ca xs _ (hA.old e0))
  have N2 := hd (sNatOk b lb cb ys _ (hB.old e0))
  have hlB := hB.len
  cases h1 : natOk xs
  · rw [h1] at K1
    have hf : Hid (∀ W, FRes W w.heap.size (.returned (.tuple #[.agg #[.bool false, .slice none 0 0, .slice none 0 0], .bool false])) (ofB xs ys) bl (val xs) (val ys)) := fun W => by unfold ofB; rw [h1]; exact FRes.no _ _ _ _ _
    clear h1
    go_enter Tryz.func55, Tryz.ntmps55
    go_wp2_with fail
    refine K1.out.mono ?_
    rintro e w1 ⟨rfl, hw⟩
    obtain rfl := hw
    go_wp2
    exact bodyPost_ret (resOfS K2 rfl rfl) rfl ⟨hf.out _, e0⟩
  rw [h1] at K1
  cases h2 : natOk ys
  · rw [h2] at N2
    have hf : Hid (∀ W, FRes W w.heap.size (.returned (.tuple #[.agg #[.bool false, .slice none 0 0, .slice none 0 0], .bool false])) (ofB xs ys) bl (val xs) (val ys)) := fun W => by unfold ofB; rw [h1, h2]; exact FRes.no _ _ _ _ _
    clear h1 h2
    go_enter Tryz.func55, Tryz.ntmps55
    go_wp2_with fail
    refine K1.out.mono ?_
    rintro e w1 ⟨rfl, hw⟩
    obtain rfl := hw
    go_wp2_with fail
    refine N2.out.mono ?_
    rintro e w1 ⟨rfl, hw⟩
    obtain rfl := hw
    go_wp2
    exact bodyPost_ret (resOfS K2 rfl rfl) rfl ⟨hf.out _, e0⟩
  rw [h2] at N2
  have hof : Hid (ofB xs ys = lowB (val xs) (val ys)) := by show ofB xs ys = _; unfold ofB; rw [h1, h2]; rfl
  have q1 := natOk_in h1
  have q2 := natOk_in h2
  have eA := natOk_canon h1
  have eB := natOk_canon h2
  obtain rfl : xs.length = la := hA.1
  obtain rfl : ys.length = lb := hB.1
  by_cases h0 : ys.length = 0
  · have hv : val ys = 0 := by rw [List.length_eq_zero_iff.1 h0]; rfl
    have hf : Hid (∀ W, FRes W w.heap.size (.returned (.tuple #[.agg #[.bool false, .slice none 0 0, .slice none 0 0], .bool false])) (ofB xs ys) bl (val xs) (val ys)) := fun W => by rw [hof.out, lowB_no (fun h => h.1 hv)]; exact FRes.no _ _ _ _ _
    have h0' : (ys.length : Int) = 0 := by omega
    clear h1 h2 hof q1 q2 eA eB hv h0
    go_enter Tryz.func55, Tryz.ntmps55
    go_wp2_with fail
    refine K1.out.mono ?_
    rintro e w1 ⟨rfl, hw⟩
    obtain rfl := hw
    go_wp2_with fail
    refine N2.out.mono ?_
    rintro e w1 ⟨rfl, hw⟩
    obtain rfl := hw
    go_wp2
    exact bodyPost_ret (resOfS K2 rfl rfl) rfl ⟨hf.out _, e0⟩
  have hbi := beqF (Nat.pos_of_ne_zero h0)
  have hv : val ys ≠ 0 := fun e => h0 (by rw [← eB, e, natL_zero]; rfl)
  have MK := hd (sL6Make bl a b ca cb (val xs) (val ys) _ (by rw [eA]; exact hA.old e0) (by rw [eB]; exact hB.old e0) (by rw [eA]; omega) (by rw [eB]; omega) hv)
  rw [eA, eB] at MK
  rw [hof.out]
  clear h1 h2 hof q1 q2 eA eB hv h0 hA hB
  generalize val xs = A at *
  generalize val ys = B at *
  go_enter Tryz.func55, Tryz.ntmps55
  go_wp2_with fail
  refine K1.out.mono ?_
  rintro e w1 ⟨rfl, hw⟩
  obtain rfl := hw
  go_wp2_with fail
  refine N2.out.mono ?_
  rintro e w1 ⟨rfl, hw⟩
  obtain rfl := hw
  go_wp2_with fail
  refine MK.out.mono ?_
  rintro e w2 ⟨⟨av, cv, av', cv', rfl, hO, hO', hS⟩, hb2⟩
  have hs0 := K2.1
  replace K2 := K2.old hb2
  have hB2 := old_trans e0 hb2
  obtain ⟨m1, ⟨m2, m3, m4⟩, m5, m6, m7⟩ := id K2
  have hfin := hd (FRes.put (w' := w2) (s := bl) hO hO' hS (show w.heap.size ≤ (w.alloc (.cells #[.bool false, .slice none 0 0, .slice none 0 0] 25)).heap.size by simp) hs0)
  have hK := K2.setAll (.bool (fS (lowB A B) bl A)) (.slice av (fT (lowB A B) A B).length cv) (.slice av' (fU (lowB A B) A B).length cv')
  have hBF : Below w.heap.size w (((w2.setCell ⟨w.heap.size, 0, none⟩ (.bool (fS (lowB A B) bl A))).setCell ⟨w.heap.size, 1, none⟩ (.slice av (fT (lowB A B) A B).length cv)).setCell ⟨w.heap.size, 2, none⟩ (.slice av' (fU (lowB A B) A B).length cv')) := below_set (below_set (below_set hB2 (by omega) _) (by omega) _) (by omega) _
  clear hO hO' hS hb2 MK K1 N2
  go_wp2
  exact bodyPost_ret (resOfS hK rfl rfl) rfl ⟨hfin.out, hBF⟩
end Go.Proofs.YtgoffjpfddmhhaaGreatDoor

/- Fractions without their sign, and with the other one: the program. Conditions: the library's table and its handle of errors hold what their texts lay. -/
namespace Go.Proofs.YtgoffjpfddmhhaaGreatDoor
open Go.RowKit
set_option linter.unusedVariables false
set_option maxRecDepth 100000

theorem FRes.any {w : World} {base : Nat} {e : Ending} {s s' : Bool} {A B A' B' : Nat} (h : FRes w base e false s A B) : FRes w base e false s' A' B' := h
theorem fracOk_low {bl : Bool} {xs ys : List Int} (h : fracOk bl xs ys = true) : lowB (val xs) (val ys) = true ∧ lowT (val xs) (val ys) = xs ∧ lowU (val xs) (val ys) = ys := by
  have q := fracOk_in h
  have eA := natOk_canon q.1
  have eB := natOk_canon q.2.1
  have h1 : lowT (val xs) (val ys) = xs := by unfold lowT; rw [q.2.2.2.1, Nat.div_one, eA]
  have h2 : lowU (val xs) (val ys) = ys := by unfold lowU; rw [q.2.2.2.1, Nat.div_one, eB]
  refine ⟨lowB_mk ?_ ?_ ?_, h1, h2⟩
  · intro e
    rw [e, natL_zero] at eB
    exact q.2.2.1 (by rw [← eB]; rfl)
  · rw [h1]; exact (natOk_in q.1).1
  · rw [h2]; exact (natOk_in q.2.1).1
theorem resNegated {W : World} {b : Nat} {v0 v1 v2 : Value} {tmps : Array Value} (h : Cel3 W b v0 v1 v2) (ht : tmps[2]? = some (.pointer (some ⟨b, 0, none⟩))) : (results Tryz.f157 tmps).run Tryz.prog W = .ok (.agg #[v0, v1, v2]) W := by
  obtain ⟨h1, ⟨a0, a1, a2⟩, -⟩ := h
  simp [results, Tryz.results157, go_sem, a0, a1, a2, ht]
set_option maxHeartbeats 1000000 in
theorem iNegated (bl : Bool) (a b : Option Addr) (la lb ca cb : Nat) (w : World) : Calls Tryz.prog 157 #[.agg #[.bool bl, .slice a la ca, .slice b lb cb]] w fun e w' => e = .returned (.agg #[.bool (!bl), .slice a la ca, .slice b lb cb]) ∧ Below w.heap.size w w' := by
  have K := Cel3.new (w.alloc (.cells #[.bool bl, .slice a la ca, .slice b lb cb] 84)) (.bool (!bl)) (.slice a la ca) (.slice b lb cb) 84
  simp only [World.size_alloc] at K
  go_enter Tryz.func157, Tryz.ntmps157
  go_wp2
  exact bodyPost_ret (resNegated K rfl) rfl ⟨rfl, (by repeat (first | exact Below.refl _ _ | refine Below.drew ?_ | refine old_alloc ?_ _ | refine old_trans ?_ (by assumption)))⟩
end Go.Proofs.YtgoffjpfddmhhaaGreatDoor

/- Fractions without their sign: the specification. No condition. -/
namespace Go.Proofs.YtgoffjpfddmhhaaGreatDoor
open Go.RowKit
set_option linter.unusedVariables false
set_option maxRecDepth 100000

theorem Cel3.c0 {w : World} {b : Nat} {v0 v1 v2 : Value} (h : Cel3 w b v0 v1 v2) : w.cell? ⟨b, 0, none⟩ = some v0 := h.2.1.1
theorem Cel3.c1 {w : World} {b : Nat} {v0 v1 v2 : Value} (h : Cel3 w b v0 v1 v2) : w.cell? ⟨b, 1, none⟩ = some v1 := h.2.1.2.1
theorem Cel3.c2 {w : World} {b : Nat} {v0 v1 v2 : Value} (h : Cel3 w b v0 v1 v2) : w.cell? ⟨b, 2, none⟩ = some v2 := h.2.1.2.2
theorem Cel3.f0 {w : World} {b : Nat} {v0 v1 v2 : Value} (h : Cel3 w b v0 v1 v2) : w.frozen? ⟨b, 0, none⟩ = false := h.2.2.1
theorem Cel3.f1 {w : World} {b : Nat} {v0 v1 v2 : Value} (h : Cel3 w b v0 v1 v2) : w.frozen? ⟨b, 1, none⟩ = false := h.2.2.2.1
theorem Cel3.f2 {w : World} {b : Nat} {v0 v1 v2 : Value} (h : Cel3 w b v0 v1 v2) : w.frozen? ⟨b, 2, none⟩ = false := h.2.2.2.2
theorem Cel3.drew {w : World} {b : Nat} {v0 v1 v2 : Value} (h : Cel3 w b v0 v1 v2) : Cel3 w.drew b v0 v1 v2 := h
theorem three_old {w' w'' : World} {B : Nat} {v0 v1 v2 : Value} (hS : w'.cell? ⟨B, 0, none⟩ = some v0 ∧ w'.cell? ⟨B, 1, none⟩ = some v1 ∧ w'.cell? ⟨B, 2, none⟩ = some v2) (k : Below w'.heap.size w' w'') : w''.cell? ⟨B, 0, none⟩ = some v0 ∧ w''.cell? ⟨B, 1, none⟩ = some v1 ∧ w''.cell? ⟨B, 2, none⟩ = some v2 := by
  have q1 : B < w'.heap.size := cell_lt hS.1
  exact ⟨(k.cell (p := ⟨B, 0, none⟩) q1).trans hS.1, (k.cell (p := ⟨B, 1, none⟩) q1).trans hS.2.1, (k.cell (p := ⟨B, 2, none⟩) q1).trans hS.2.2⟩
end Go.Proofs.YtgoffjpfddmhhaaGreatDoor

/- A fraction that comes in: its sign and its two lists. -/
namespace Go.Proofs.YtgoffjpfddmhhaaGreatDoor
open Go.ChangeShapes Go.WideShapes Go.ChangeAt Go.RowKit
set_option linter.unusedVariables false
set_option maxRecDepth 100000

theorem six_old {w' w'' : World} {B N : Nat} {v0 v1 v2 v3 v4 v5 : Value} (hS : w'.cell? ⟨B, 0, none⟩ = some v0 ∧ w'.cell? ⟨B, 1, none⟩ = some v1 ∧ w'.cell? ⟨B, 2, none⟩ = some v2 ∧ w'.cell? ⟨N, 0, none⟩ = some v3 ∧ w'.cell? ⟨N, 1, none⟩ = some v4 ∧ w'.cell? ⟨N, 2, none⟩ = some v5) (k : Below w'.heap.size w' w'') : w''.cell? ⟨B, 0, none⟩ = some v0 ∧ w''.cell? ⟨B, 1, none⟩ = some v1 ∧ w''.cell? ⟨B, 2, none⟩ = some v2 ∧ w''.cell? ⟨N, 0, none⟩ = some v3 ∧ w''.cell? ⟨N, 1, none⟩ = some v4 ∧ w''.cell? ⟨N, 2, none⟩ = some v5 := by
  have q1 : B < w'.heap.size := cell_lt hS.1
  have q2 : N < w'.heap.size := cell_lt hS.2.2.2.1
  exact ⟨(k.cell (p := ⟨B, 0, none⟩) q1).trans hS.1, (k.cell (p := ⟨B, 1, none⟩) q1).trans hS.2.1, (k.cell (p := ⟨B, 2, none⟩) q1).trans hS.2.2.1, (k.cell (p := ⟨N, 0, none⟩) q2).trans hS.2.2.2.1, (k.cell (p := ⟨N, 1, none⟩) q2).trans hS.2.2.2.2.1, (k.cell (p := ⟨N, 2, none⟩) q2).trans hS.2.2.2.2.2⟩
section
variable {H : Type} {enc : TypeId × Value → H} {w : World} {base : Nat}
end
end Go.Proofs.YtgoffjpfddmhhaaGreatDoor
