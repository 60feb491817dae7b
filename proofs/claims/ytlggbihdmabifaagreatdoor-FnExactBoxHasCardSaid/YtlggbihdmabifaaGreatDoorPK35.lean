/- PairHas of both sides, at every argument. Conditions: the library's table and its handle of errors lie as their texts lay them. Nothing that was there is written. -/
import Derived.Test.YtlggbihdmabifaaGreatDoorPK32
import Derived.Test.YtlggbihdmabifaaGreatDoorPK33
import Derived.Test.YtlggbihdmabifaaGreatDoorPK34
namespace Go.Proofs.YtlggbihdmabifaaGreatDoor
open Go.RowKit
set_option linter.unusedVariables false
set_option maxRecDepth 100000

theorem phAll {wd T lo hi : Int} {bg : Bool} {a b : Option Addr} {ca cb nA nB : Nat} {l1 l2 l3 l4 : List Int} {c1 c2 : Int} {sl sh : Bool} {w : World} (H : PHc wd T lo hi bg a b ca cb nA nB l1 l2 l3 l4 c1 c2 sl sh w) (hT : 0 ≤ T ∧ T ≤ 9218868437227405312) (p q : Bool) (hp : p = (decide (lo = -T) || decide (c1 ≤ 0))) (hq : q = (decide (hi = T) || decide (c2 ≤ 0))) :
    Calls Tryz.prog 15 #[.int .i64 wd, .agg #[.int .i64 lo, .int .i64 hi], .agg #[.bool bg, .slice a nA ca, .slice b nB cb]] w fun e w' => e = .returned (.bool (p && q)) ∧ Below w.heap.size w w' := by
  by_cases el : lo = -T
  · rw [decide_eq_true el, Bool.true_or] at hp
    subst hp
    by_cases eh : hi = T
    · rw [decide_eq_true eh, Bool.true_or] at hq
      subst hq
      exact PHk0 H hT el eh
    · rw [decide_eq_false eh, Bool.false_or] at hq
      subst hq
      by_cases d : c2 ≤ 0
      · rw [decide_eq_true d]; exact PHk1 H hT el eh (decide_eq_true d)
      · rw [decide_eq_false d]; exact PHk2 H hT el eh (decide_eq_false d)
  · rw [decide_eq_false el, Bool.false_or] at hp
    subst hp
    by_cases d1 : c1 ≤ 0
    · rw [decide_eq_true d1]
      by_cases eh : hi = T
      · rw [decide_eq_true eh, Bool.true_or] at hq
        subst hq
        exact PHk3 H hT el (decide_eq_true d1) eh
      · rw [decide_eq_false eh, Bool.false_or] at hq
        subst hq
        by_cases d : c2 ≤ 0
        · rw [decide_eq_true d]; exact PHk4 H hT el (decide_eq_true d1) eh (decide_eq_true d)
        · rw [decide_eq_false d]; exact PHk5 H hT el (decide_eq_true d1) eh (decide_eq_false d)
    · rw [decide_eq_false d1, Bool.false_and]
      exact PHk6 H hT el (decide_eq_false d1)
theorem sOf32 (n : Int) (h1 : -2139095040 < n) (h2 : n < 2139095040) (w : World) :
    Calls Tryz.prog 29 #[.int .i64 32, .int .i64 n] w fun e w' => (∃ av cv bv dv, e = .returned (.agg #[.bool (decide (n < 0)), .slice av (natL (vA (sz 8388608 n.natAbs) (pw 8388608 (-149) n.natAbs))).length cv, .slice bv (natL (vB (pw 8388608 (-149) n.natAbs))).length dv]) ∧ InI w' av (natL (vA (sz 8388608 n.natAbs) (pw 8388608 (-149) n.natAbs))).length cv (natL (vA (sz 8388608 n.natAbs) (pw 8388608 (-149) n.natAbs))) ∧ InI w' bv (natL (vB (pw 8388608 (-149) n.natAbs))).length dv (natL (vB (pw 8388608 (-149) n.natAbs)))) ∧ Below w.heap.size w w' := by
  have hm : n.natAbs < 2139095040 := by omega
  have hs : sz 8388608 n.natAbs < 9007199254740992 := (Nat.lt_of_lt_of_le sz_bd32 (by omega))
  have hp := pw_bd32 hm
  have PT := fun w => sPart_32 n h1 h2 w
  unfold partV at PT
  rw [absI_nat, show (8388608 : Int) = ((8388608 : Nat) : Int) from rfl, pSize_nat, pPow_nat] at PT
  exact l8_cut 32 n _ _ _ hs (by omega) w (hd PT)
theorem vl32 {n : Int} (h1 : -2139095040 < n) (h2 : n < 2139095040) : (natL (vA (sz 8388608 n.natAbs) (pw 8388608 (-149) n.natAbs))).length ≤ 2000 ∧ (natL (vB (pw 8388608 (-149) n.natAbs))).length ≤ 2000 := by
  have hm : n.natAbs < 2139095040 := by omega
  have hs : sz 8388608 n.natAbs < 9007199254740992 := (Nat.lt_of_lt_of_le sz_bd32 (by omega))
  have hp := pw_bd32 hm
  exact ⟨Nat.le_trans (vA_len hs (by omega)) (by omega), Nat.le_trans (vB_len (by omega)) (by omega)⟩
theorem sPairHas32 (lo hi : Int) (bg : Bool) (a b : Option Addr) (ca cb A B : Nat) (w : World) (hA : InI w a (natL A).length ca (natL A)) (hB : InI w b (natL B).length cb (natL B)) (hp : pokB 32 lo hi = true) (hf : fracOk bg (natL A) (natL B) = true) :
    Calls Tryz.prog 15 #[.int .i64 32, .agg #[.int .i64 lo, .int .i64 hi], .agg #[.bool bg, .slice a (natL A).length ca, .slice b (natL B).length cb]] w fun e w' => e = .returned (.bool (decide (lo ≤ arL32 bg A B) && decide (arH32 bg A B ≤ hi))) ∧ Below w.heap.size w w' := by
  have q := fracOk_in hf
  have q1 := (natOk_in q.1).1
  have q2 := (natOk_in q.2.1).1
  have hy0 : B ≠ 0 := fun e => q.2.2.1 (by rw [e, natL_zero]; rfl)
  have hx0 : bg = true → A ≠ 0 := fun h e => q.2.2.2.2 ⟨h, by rw [e, natL_zero]; rfl⟩
  obtain ⟨p1, p2, p3, p4, p5⟩ := pokB_in hp
  have p1' := (okB_in p1).2
  have p2' := (okB_in p2).2
  rw [topI_32] at p1' p2' p4 p5
  have bd := blO_bd32 q1 q2 hy0
  have bL : -2139095040 ≤ arL32 bg A B := by unfold arL32; split <;> (try split) <;> omega
  have bH : arH32 bg A B ≤ 2139095040 := by unfold arH32; split <;> (try split) <;> omega
  have H : PHc 32 2139095040 lo hi bg a b ca cb (natL A).length (natL B).length (natL (vA (sz 8388608 lo.natAbs) (pw 8388608 (-149) lo.natAbs))) (natL (vB (pw 8388608 (-149) lo.natAbs))) (natL (vA (sz 8388608 hi.natAbs) (pw 8388608 (-149) hi.natAbs))) (natL (vB (pw 8388608 (-149) hi.natAbs))) (cmpS (decide (lo < 0)) (B * vA (sz 8388608 lo.natAbs) (pw 8388608 (-149) lo.natAbs)) bg (vB (pw 8388608 (-149) lo.natAbs) * A)) (cmpS bg (vB (pw 8388608 (-149) hi.natAbs) * A) (decide (hi < 0)) (B * vA (sz 8388608 hi.natAbs) (pw 8388608 (-149) hi.natAbs))) (decide (lo < 0)) (decide (hi < 0)) w := by
    refine ⟨fun w' => ?_, fun w' h => ?_, fun w' => ?_, fun w' => sFracL bg a b _ _ ca cb w', fun h w' => sOf32 lo (by omega) p4 w', fun h w' => sOf32 hi p5 (by omega) w', fun h av cv bv dv w' i1 i2 g => ?_, fun h av cv bv dv w' i1 i2 g => ?_⟩
    · have := sPairOk 32 lo hi w'; rw [hp] at this; exact this
    · have := sFracOk bg a b _ _ ca cb (natL A) (natL B) w' (hA.old h) (hB.old h); rw [hf] at this; exact this
    · have := sTopR 32 w'; rw [topI_32] at this; exact this
    · have v := vl32 (n := lo) (by omega) p4
      exact sL8Cmp (decide (lo < 0)) bg av bv a b cv dv ca cb _ _ A B w' i1 i2 (hA.old g) (hB.old g) v.1 v.2 (by omega) (by omega)
    · have v := vl32 (n := hi) p5 (by omega)
      exact sL8Cmp bg (decide (hi < 0)) a b av bv ca cb cv dv A B _ _ w' (hA.old g) (hB.old g) i1 i2 (by omega) (by omega) v.1 v.2
  refine phAll H ⟨by omega, by omega⟩ _ _ ?_ ?_
  · by_cases e : lo = -2139095040
    · rw [decide_eq_true e, Bool.true_or]; exact decide_eq_true (by omega)
    · rw [decide_eq_false e, Bool.false_or]; exact decide_eq_decide.2 (loOk32 q1 q2 hy0 hx0 lo (by omega) p4).symm
  · by_cases e : hi = 2139095040
    · rw [decide_eq_true e, Bool.true_or]; exact decide_eq_true (by omega)
    · rw [decide_eq_false e, Bool.false_or]; exact decide_eq_decide.2 (hiOk32 q1 q2 hy0 hx0 hi p5 (by omega)).symm
theorem sOf64 (n : Int) (h1 : -9218868437227405312 < n) (h2 : n < 9218868437227405312) (w : World) :
    Calls Tryz.prog 29 #[.int .i64 64, .int .i64 n] w fun e w' => (∃ av cv bv dv, e = .returned (.agg #[.bool (decide (n < 0)), .slice av (natL (vA (sz 4503599627370496 n.natAbs) (pw 4503599627370496 (-1074) n.natAbs))).length cv, .slice bv (natL (vB (pw 4503599627370496 (-1074) n.natAbs))).length dv]) ∧ InI w' av (natL (vA (sz 4503599627370496 n.natAbs) (pw 4503599627370496 (-1074) n.natAbs))).length cv (natL (vA (sz 4503599627370496 n.natAbs) (pw 4503599627370496 (-1074) n.natAbs))) ∧ InI w' bv (natL (vB (pw 4503599627370496 (-1074) n.natAbs))).length dv (natL (vB (pw 4503599627370496 (-1074) n.natAbs)))) ∧ Below w.heap.size w w' := by
  have hm : n.natAbs < 9218868437227405312 := by omega
  have hs : sz 4503599627370496 n.natAbs < 9007199254740992 := sz_bd
  have hp := pw_bd hm
  have PT := fun w => sPart_64 n h1 h2 w
  unfold partV at PT
  rw [absI_nat, show (4503599627370496 : Int) = ((4503599627370496 : Nat) : Int) from rfl, pSize_nat, pPow_nat] at PT
  exact l8_cut 64 n _ _ _ hs (by omega) w (hd PT)
theorem vl64 {n : Int} (h1 : -9218868437227405312 < n) (h2 : n < 9218868437227405312) : (natL (vA (sz 4503599627370496 n.natAbs) (pw 4503599627370496 (-1074) n.natAbs))).length ≤ 2000 ∧ (natL (vB (pw 4503599627370496 (-1074) n.natAbs))).length ≤ 2000 := by
  have hm : n.natAbs < 9218868437227405312 := by omega
  have hs : sz 4503599627370496 n.natAbs < 9007199254740992 := sz_bd
  have hp := pw_bd hm
  exact ⟨Nat.le_trans (vA_len hs (by omega)) (by omega), Nat.le_trans (vB_len (by omega)) (by omega)⟩
theorem sPairHas64 (lo hi : Int) (bg : Bool) (a b : Option Addr) (ca cb A B : Nat) (w : World) (hA : InI w a (natL A).length ca (natL A)) (hB : InI w b (natL B).length cb (natL B)) (hp : pokB 64 lo hi = true) (hf : fracOk bg (natL A) (natL B) = true) :
    Calls Tryz.prog 15 #[.int .i64 64, .agg #[.int .i64 lo, .int .i64 hi], .agg #[.bool bg, .slice a (natL A).length ca, .slice b (natL B).length cb]] w fun e w' => e = .returned (.bool (decide (lo ≤ arL64 bg A B) && decide (arH64 bg A B ≤ hi))) ∧ Below w.heap.size w w' := by
  have q := fracOk_in hf
  have q1 := (natOk_in q.1).1
  have q2 := (natOk_in q.2.1).1
  have hy0 : B ≠ 0 := fun e => q.2.2.1 (by rw [e, natL_zero]; rfl)
  have hx0 : bg = true → A ≠ 0 := fun h e => q.2.2.2.2 ⟨h, by rw [e, natL_zero]; rfl⟩
  obtain ⟨p1, p2, p3, p4, p5⟩ := pokB_in hp
  have p1' := (okB_in p1).2
  have p2' := (okB_in p2).2
  rw [topI_64] at p1' p2' p4 p5
  have bd := blO_bd64 q1 q2 hy0
  have bL : -9218868437227405312 ≤ arL64 bg A B := by unfold arL64; split <;> (try split) <;> omega
  have bH : arH64 bg A B ≤ 9218868437227405312 := by unfold arH64; split <;> (try split) <;> omega
  have H : PHc 64 9218868437227405312 lo hi bg a b ca cb (natL A).length (natL B).length (natL (vA (sz 4503599627370496 lo.natAbs) (pw 4503599627370496 (-1074) lo.natAbs))) (natL (vB (pw 4503599627370496 (-1074) lo.natAbs))) (natL (vA (sz 4503599627370496 hi.natAbs) (pw 4503599627370496 (-1074) hi.natAbs))) (natL (vB (pw 4503599627370496 (-1074) hi.natAbs))) (cmpS (decide (lo < 0)) (B * vA (sz 4503599627370496 lo.natAbs) (pw 4503599627370496 (-1074) lo.natAbs)) bg (vB (pw 4503599627370496 (-1074) lo.natAbs) * A)) (cmpS bg (vB (pw 4503599627370496 (-1074) hi.natAbs) * A) (decide (hi < 0)) (B * vA (sz 4503599627370496 hi.natAbs) (pw 4503599627370496 (-1074) hi.natAbs))) (decide (lo < 0)) (decide (hi < 0)) w := by
    refine ⟨fun w' => ?_, fun w' h => ?_, fun w' => ?_, fun w' => sFracL bg a b _ _ ca cb w', fun h w' => sOf64 lo (by omega) p4 w', fun h w' => sOf64 hi p5 (by omega) w', fun h av cv bv dv w' i1 i2 g => ?_, fun h av cv bv dv w' i1 i2 g => ?_⟩
    · have := sPairOk 64 lo hi w'; rw [hp] at this; exact this
    · have := sFracOk bg a b _ _ ca cb (natL A) (natL B) w' (hA.old h) (hB.old h); rw [hf] at this; exact this
    · have := sTopR 64 w'; rw [topI_64] at this; exact this
    · have v := vl64 (n := lo) (by omega) p4
      exact sL8Cmp (decide (lo < 0)) bg av bv a b cv dv ca cb _ _ A B w' i1 i2 (hA.old g) (hB.old g) v.1 v.2 (by omega) (by omega)
    · have v := vl64 (n := hi) p5 (by omega)
      exact sL8Cmp bg (decide (hi < 0)) a b av bv ca cb cv dv A B _ _ w' (hA.old g) (hB.old g) i1 i2 (by omega) (by omega) v.1 v.2
  refine phAll H ⟨by omega, by omega⟩ _ _ ?_ ?_
  · by_cases e : lo = -9218868437227405312
    · rw [decide_eq_true e, Bool.true_or]; exact decide_eq_true (by omega)
    · rw [decide_eq_false e, Bool.false_or]; exact decide_eq_decide.2 (loOk64 q1 q2 hy0 hx0 lo (by omega) p4).symm
  · by_cases e : hi = 9218868437227405312
    · rw [decide_eq_true e, Bool.true_or]; exact decide_eq_true (by omega)
    · rw [decide_eq_false e, Bool.false_or]; exact decide_eq_decide.2 (hiOk64 q1 q2 hy0 hx0 hi p5 (by omega)).symm
def phB (wd lo hi : Int) (bg : Bool) (xs ys : List Int) : Bool := pokB wd lo hi && (fracOk bg xs ys && (decide (lo ≤ pfL wd bg xs ys) && decide (pfH wd bg xs ys ≤ hi)))
set_option maxHeartbeats 2000000 in
theorem sPairHas (wd lo hi : Int) (bg : Bool) (a b : Option Addr) (la lb ca cb : Nat) (xs ys : List Int) (w : World) (hA : InI w a la ca xs) (hB : InI w b lb cb ys) :
    Calls Tryz.prog 15 #[.int .i64 wd, .agg #[.int .i64 lo, .int .i64 hi], .agg #[.bool bg, .slice a la ca, .slice b lb cb]] w fun e w' => e = .returned (.bool (phB wd lo hi bg xs ys)) ∧ Below w.heap.size w w' := by
  unfold phB
  have e0 : Below w.heap.size w ((w.alloc (.cells #[.int .i64 lo, .int .i64 hi] 46)).alloc (.cells #[.bool bg, .slice a la ca, .slice b lb cb] 47)) := old_alloc (old_alloc (Below.refl _ _) _) _
  have PO := hd (sPairOk wd lo hi)
  cases hp : pokB wd lo hi
  · rw [Bool.false_and]
    rw [hp] at PO
    clear hp hA hB
    go_enter Tryz.func15, Tryz.ntmps15
    go_wp2_with fail
    refine (PO.out _).mono ?_
    rintro e w1 ⟨rfl, hb1⟩
    go_wp2
    go_ret
    exact ⟨rfl, old_trans e0 hb1⟩
  rw [Bool.true_and]
  have FO := hd (fun w' (h : Below w.heap.size w w') => sFracOk bg a b la lb ca cb xs ys w' (hA.old h) (hB.old h))
  cases hf : fracOk bg xs ys
  · rw [Bool.false_and]
    rw [hp] at PO
    rw [hf] at FO
    have k0 : (((w.alloc (.cells #[.int .i64 lo, .int .i64 hi] 46)).alloc (.cells #[.bool bg, .slice a la ca, .slice b lb cb] 47))).cell? ⟨w.heap.size + 1, 0, none⟩ = some (.bool bg) ∧ (((w.alloc (.cells #[.int .i64 lo, .int .i64 hi] 46)).alloc (.cells #[.bool bg, .slice a la ca, .slice b lb cb] 47))).cell? ⟨w.heap.size + 1, 1, none⟩ = some (.slice a la ca) ∧ (((w.alloc (.cells #[.int .i64 lo, .int .i64 hi] 46)).alloc (.cells #[.bool bg, .slice a la ca, .slice b lb cb] 47))).cell? ⟨w.heap.size + 1, 2, none⟩ = some (.slice b lb cb) := by simp
    clear hp hf hA hB
    go_enter Tryz.func15, Tryz.ntmps15
    go_wp2_with fail
    refine (PO.out _).mono ?_
    rintro e w1 ⟨rfl, hb1⟩
    have B1 := old_trans e0 hb1
    have m0 := cell_later hb1 k0.1
    have m1 := cell_later hb1 k0.2.1
    have m2 := cell_later hb1 k0.2.2
    clear k0
    go_wp2_with fail
    refine (FO.out _ B1).mono ?_
    rintro e w2 ⟨rfl, hb2⟩
    go_wp2
    go_ret
    exact ⟨rfl, old_trans B1 hb2⟩
  rw [Bool.true_and]
  have hw := (okB_in (pokB_in hp).1).1
  have ok : pfOk wd bg xs ys = true := by unfold pfOk; rw [hf, decide_eq_true hw]; rfl
  have q := fracOk_in hf
  have ex := canon_list q.1
  have ey := canon_list q.2.1
  unfold pfL pfH
  rw [ok, if_pos rfl, if_pos rfl]
  clear ok PO FO e0
  generalize val xs = A at *
  generalize val ys = B at *
  subst ex ey
  obtain rfl := hA.1
  obtain rfl := hB.1
  rcases hw with rfl | rfl
  · exact sPairHas32 lo hi bg a b ca cb A B w hA hB hp hf
  · exact sPairHas64 lo hi bg a b ca cb A B w hA hB hp hf
set_option maxHeartbeats 2000000 in
theorem iPairHas (wd lo hi : Int) (bg : Bool) (a b : Option Addr) (la lb ca cb : Nat) (xs ys : List Int) (w : World) (hA : InI w a la ca xs) (hB : InI w b lb cb ys) (hT : Tab w) (hE : ET w) :
    Calls Tryz.prog 21 #[.int .i64 wd, .agg #[.int .i64 lo, .int .i64 hi], .agg #[.bool bg, .slice a la ca, .slice b lb cb]] w fun e w' => e = .returned (.bool (phB wd lo hi bg xs ys)) ∧ Below w.heap.size w w' := by
  have e0 : Below w.heap.size w ((w.alloc (.cells #[.int .i64 lo, .int .i64 hi] 46)).alloc (.cells #[.bool bg, .slice a la ca, .slice b lb cb] 47)) := old_alloc (old_alloc (Below.refl _ _) _) _
  have k0 : (((w.alloc (.cells #[.int .i64 lo, .int .i64 hi] 46)).alloc (.cells #[.bool bg, .slice a la ca, .slice b lb cb] 47))).cell? ⟨w.heap.size, 0, none⟩ = some (.int .i64 lo) ∧ (((w.alloc (.cells #[.int .i64 lo, .int .i64 hi] 46)).alloc (.cells #[.bool bg, .slice a la ca, .slice b lb cb] 47))).cell? ⟨w.heap.size, 1, none⟩ = some (.int .i64 hi) := by simp
  have z0 : w.heap.size < (((w.alloc (.cells #[.int .i64 lo, .int .i64 hi] 46)).alloc (.cells #[.bool bg, .slice a la ca, .slice b lb cb] 47))).heap.size := by simp; omega
  have PF := hd (iPairFrac wd bg a b la lb ca cb xs ys _ (hA.old e0) (hB.old e0) (hT.old e0) (hE.old e0))
  have PO := hd (iPairOk wd lo hi)
  have PI := hd (fun p q => iPairIs p q lo hi)
  obtain ⟨res, hres⟩ : ∃ r, phB wd lo hi bg xs ys = r := ⟨_, rfl⟩
  rw [hres]
  unfold phB at hres
  clear hA hB hT hE
  have hw := hd (fun (h : pokB wd lo hi = true) => (okB_in (pokB_in h).1).1)
  have eo : pfOk wd bg xs ys = (decide (wd = 32 ∨ wd = 64) && fracOk bg xs ys) := rfl
  generalize pfL wd bg xs ys = pl at *
  generalize pfH wd bg xs ys = ph at *
  generalize pfOk wd bg xs ys = ok at *
  generalize fracOk bg xs ys = fk at *
  generalize pokB wd lo hi = pk at *
  cases ok
  · have hq : Hid (res = false) := by
      rw [← hres]
      cases pk
      · rfl
      · rw [decide_eq_true (hw.out rfl), Bool.true_and] at eo
        subst eo
        rfl
    clear hres eo hw PO PI
    go_enter Tryz.func21, Tryz.ntmps21
    go_wp2_with fail
    refine PF.out.mono ?_
    rintro e w1 ⟨rfl, hb1⟩
    go_wp2
    go_ret
    exact ⟨by rw [hq.out]; rfl, old_alloc (old_trans e0 hb1) _⟩
  · have fk1 : fk = true := by
      cases fk
      · rw [Bool.and_false] at eo; cases eo
      · rfl
    subst fk1
    rw [Bool.true_and] at hres
    clear eo hw
    cases pk
    · have hq : Hid (res = false) := by rw [← hres]; rfl
      clear hres PI
      go_enter Tryz.func21, Tryz.ntmps21
      go_wp2_with fail
      refine PF.out.mono ?_
      rintro e w1 ⟨rfl, hb1⟩
      have m0 := cell_later hb1 k0.1
      have m1 := cell_later hb1 k0.2
      have z1 : w.heap.size < w1.heap.size := Nat.lt_of_lt_of_le z0 hb1.size
      have B1 := old_trans e0 hb1
      clear k0 z0 e0 hb1
      go_wp2_with fail
      refine (PO.out _).mono ?_
      rintro e w2 ⟨rfl, hb2⟩
      go_wp2
      go_ret
      exact ⟨by rw [hq.out]; rfl, old_trans (old_alloc B1 _) hb2⟩
    · have hq : Hid (res = isB pl ph lo hi) := hd (by rw [← hres]; unfold isB; rw [Bool.true_and, ← Bool.decide_and])
      clear hres
      go_enter Tryz.func21, Tryz.ntmps21
      go_wp2_with fail
      refine PF.out.mono ?_
      rintro e w1 ⟨rfl, hb1⟩
      have m0 := cell_later hb1 k0.1
      have m1 := cell_later hb1 k0.2
      have z1 : w.heap.size < w1.heap.size := Nat.lt_of_lt_of_le z0 hb1.size
      have z1' := Nat.ne_of_lt z1
      have B1 := old_trans e0 hb1
      clear k0 z0 e0 hb1
      go_wp2_with fail
      refine (PO.out _).mono ?_
      rintro e w2 ⟨rfl, hb2⟩
      have n0 := cell_later hb2 (show (w1.alloc (.cells #[.int .i64 pl, .int .i64 ph] 46)).cell? ⟨w1.heap.size, 0, none⟩ = some (.int .i64 pl) by simp)
      have n1 := cell_later hb2 (show (w1.alloc (.cells #[.int .i64 pl, .int .i64 ph] 46)).cell? ⟨w1.heap.size, 1, none⟩ = some (.int .i64 ph) by simp)
      have m0' := cell_later (old_trans (old_alloc (Below.refl _ w1) _) hb2) m0
      have m1' := cell_later (old_trans (old_alloc (Below.refl _ w1) _) hb2) m1
      have B2 := old_trans (old_alloc B1 (.cells #[.int .i64 pl, .int .i64 ph] 46)) hb2
      clear m0 m1
      go_wp2_with fail
      refine (PI.out _ _ _).mono ?_
      rintro e w3 ⟨rfl, hb3⟩
      generalize isB pl ph lo hi = r3 at *
      go_wp2
      go_ret
      exact ⟨by rw [hq.out]; rfl, old_trans B2 hb3⟩
end Go.Proofs.YtlggbihdmabifaaGreatDoor
