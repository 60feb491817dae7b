/- Two fractions off a code, of which the second may be the first one turned round: in new memory. -/
import Derived.Test.YtbcdeddbkckaeaaGreatDoorUX
import Derived.Test.YtbcdeddbkckaeaaGreatDoorFN
import Derived.Test.YtbcdeddbkckaeaaGreatDoorUY
import Derived.Test.YtbcdeddbkckaeaaGreatDoorFX
import Derived.Test.YtbcdeddbkckaeaaGreatDoorUV
import Derived.Test.YtbcdeddbkckaeaaGreatDoorFQ
import Derived.Test.YtbcdeddbkckaeaaGreatDoorUE
import Derived.Test.YtbcdeddbkckaeaaGreatDoorF4
import Derived.Test.YtbcdeddbkckaeaaGreatDoorFS
namespace Go.Proofs.YtbcdeddbkckaeaaGreatDoor
open Go.RowKit
set_option linter.unusedVariables false
set_option maxRecDepth 100000

/-- two fractions in new memory, ok or not -/
def FF2 (w : World) (base : Nat) (e : Ending) : Prop := ∃ b av cv xs av' cv' ys c au cu ps au' cu' qs, e = .returned (.tuple #[.agg #[.bool b, .slice av (List.length xs) cv, .slice av' (List.length ys) cv'], .agg #[.bool c, .slice au (List.length ps) cu, .slice au' (List.length qs) cu']]) ∧ (OI w base av cv xs ∧ OI w base av' cv' ys) ∧ (OI w base au cu ps ∧ OI w base au' cu' qs)
theorem Cel3.far3 {W : World} {b c : Nat} {v0 v1 v2 x y z : Value} (h : Cel3 W b v0 v1 v2) (hn : b ≠ c) : Cel3 (((W.setCell ⟨c, 0, none⟩ x).setCell ⟨c, 1, none⟩ y).setCell ⟨c, 2, none⟩ z) b v0 v1 v2 := ((h.far hn).far hn).far hn
theorem below_set3 {n : Nat} {a W : World} {b : Nat} {v0 v1 v2 : Value} (h : Below n a W) (hb : n ≤ b) : Below n a (((W.setCell ⟨b, 0, none⟩ v0).setCell ⟨b, 1, none⟩ v1).setCell ⟨b, 2, none⟩ v2) := below_set (below_set (below_set h hb _) hb _) hb _
end Go.Proofs.YtbcdeddbkckaeaaGreatDoor

/- Two fractions off a code, as the laws draw them. -/
namespace Go.Proofs.YtbcdeddbkckaeaaGreatDoor
open Go.RowKit
set_option linter.unusedVariables false
set_option maxRecDepth 100000

end Go.Proofs.YtbcdeddbkckaeaaGreatDoor

/- Order of fractions: what the program and the specification tell of it. Conditions, of the program: the library's table and its handle of errors hold what their texts lay. -/
namespace Go.Proofs.YtbcdeddbkckaeaaGreatDoor
open Go.RowKit
set_option linter.unusedVariables false
set_option maxRecDepth 100000

theorem oCmp {bl bm : Bool} {xs ys us vs : List Int} {m : Int} (h1 : fracOk bl xs ys = true) (h2 : fracOk bm us vs = true) (hm : c3 (pab bl xs ys bm us vs) = m) (a b : Option Addr) (la lb ca cb : Nat) (c d : Option Addr) (lc ld cc cd : Nat) (w : World) (hA : InI w a la ca xs) (hB : InI w b lb cb ys) (hC : InI w c lc cc us) (hD : InI w d ld cd vs) (hT : Tab w ∧ ET w) :
    Calls Tryz.prog 21 #[.agg #[.bool bl, .slice a la ca, .slice b lb cb], .agg #[.bool bm, .slice c lc cc, .slice d ld cd]] w fun e w' => e = .returned (.int .i64 m) ∧ Below w.heap.size w w' := by
  have h := iFracCmp bl a b la lb ca cb xs ys bm c d lc ld cc cd us vs w hA hB hC hD hT.1 hT.2
  rw [h1, h2] at h
  unfold cmpF at h
  rw [pab_c3, hm] at h
  exact h
theorem oCmpN {bl bm : Bool} {xs ys us vs : List Int} (hn : (fracOk bl xs ys && fracOk bm us vs) = false) (a b : Option Addr) (la lb ca cb : Nat) (c d : Option Addr) (lc ld cc cd : Nat) (w : World) (hA : InI w a la ca xs) (hB : InI w b lb cb ys) (hC : InI w c lc cc us) (hD : InI w d ld cd vs) (hT : Tab w ∧ ET w) :
    Calls Tryz.prog 21 #[.agg #[.bool bl, .slice a la ca, .slice b lb cb], .agg #[.bool bm, .slice c lc cc, .slice d ld cd]] w fun e w' => e = .returned (.int .i64 2) ∧ Below w.heap.size w w' := by
  have h := iFracCmp bl a b la lb ca cb xs ys bm c d lc ld cc cd us vs w hA hB hC hD hT.1 hT.2
  rw [hn] at h
  exact h
theorem oSign {sg : Bool} {tl ul : List Int} {m : Int} (hm : signI (fracOk sg tl ul) sg tl.length = m) (a b : Option Addr) (ca cb : Nat) (w : World) (hA : InI w a tl.length ca tl) (hB : InI w b ul.length cb ul) (hT : Tab w ∧ ET w) :
    Calls Tryz.prog 15 #[.agg #[.bool sg, .slice a tl.length ca, .slice b ul.length cb]] w fun e w' => e = .returned (.int .i64 m) ∧ Below w.heap.size w w' := by
  have h := iFracSign sg a b _ _ ca cb tl ul w hA hB hT.1 hT.2
  rw [hm] at h
  exact h
theorem oOk {b : Bool} {xs ys : List Int} {k : Bool} (hk : fracOk b xs ys = k) (a a' : Option Addr) (la lb ca cb : Nat) (w : World) (hA : InI w a la ca xs) (hB : InI w a' lb cb ys) :
    Calls Tryz.prog 18 #[.agg #[.bool b, .slice a la ca, .slice a' lb cb]] w fun e w' => e = .returned (.bool k) ∧ Below w.heap.size w w' := by
  have h := sFracOk b a a' la lb ca cb xs ys w hA hB
  rw [hk] at h
  exact h
end Go.Proofs.YtbcdeddbkckaeaaGreatDoor

/- A fraction off a code, a square now and then: in new memory. -/
namespace Go.Proofs.YtbcdeddbkckaeaaGreatDoor
open Go.RowKit
set_option linter.unusedVariables false
set_option maxRecDepth 100000

/-- some fraction in new memory -/
def FA4 (w : World) (base : Nat) (e : Ending) : Prop := ∃ b av cv xs av' cv' ys, e = .returned (.agg #[.bool b, .slice av (List.length xs) cv, .slice av' (List.length ys) cv']) ∧ OI w base av cv xs ∧ OI w base av' cv' ys
theorem resDFR {W : World} {b : Nat} {v0 v1 v2 : Value} {tmps : Array Value} (h : Cel3 W b v0 v1 v2) (ht : tmps[2]? = some (.pointer (some ⟨b, 0, none⟩))) : (results Tryz.f12 tmps).run Tryz.prog W = .ok (.agg #[v0, v1, v2]) W := by
  obtain ⟨h1, ⟨a0, a1, a2⟩, -⟩ := h
  simp [results, Tryz.results12, go_sem, a0, a1, a2, ht]
set_option maxHeartbeats 4000000 in
theorem dFracRoot (w : World) (a : Option Addr) (len cap : Nat) (h : IsCode w a len cap) :
    Calls Tryz.prog 12 #[.slice a len cap] w fun e w' => FA4 w' w.heap.size e ∧ Below w.heap.size w w' := by
  have e0 : Below w.heap.size w (w.alloc (.cells #[.bool false, .slice none 0 0, .slice none 0 0] 26)) := old_alloc (Below.refl _ _) _
  have K2 := Cel3.new w (.bool false) (.slice none 0 0) (.slice none 0 0) 26
  have hop := hd (open_kB _ a len cap (h.old e0))
  clear h
  have hs0 := K2.1
  go_enter Tryz.func12, Tryz.ntmps12
  go_wp2_with fail
  generalize w.alloc (.cells #[.bool false, .slice none 0 0, .slice none 0 0] 26) = wz at *
  refine hop.out.mono ?_
  rintro e w1 ⟨rfl, o, rfl, hR⟩
  have hao : Below wz.heap.size wz (wz.alloc o) := old_alloc (Below.refl _ _) _
  replace K2 := K2.old hao
  have hso : wz.heap.size < (wz.alloc o).heap.size := by simp
  clear hop hao
  go_wp2_with fail
  refine (frac_k wz.heap.size 50000 _ (hR.mono (by omega))).mono ?_
  rintro e w2 ⟨⟨b, avX, cvX, xs, avY, cvY, ys, rfl, OX, OY, -, -⟩, R2, B2⟩
  have n2 : w.heap.size ≠ wz.heap.size := by omega
  replace K2 := K2.but B2 n2
  have hs2 := B2.size
  replace OX := OX.mono (show wz.heap.size + 1 ≤ _ from hso)
  replace OY := OY.mono (show wz.heap.size + 1 ≤ _ from hso)
  have hOX : ∀ q, avX = some q → some q.block ≠ some wz.heap.size := fun q e1 e2 => by injection e2 with e2; have := OX.ge q e1; omega
  have hOY : ∀ q, avY = some q → some q.block ≠ some wz.heap.size := fun q e1 e2 => by injection e2 with e2; have := OY.ge q e1; omega
  have KF := Cel3.new w2 (.bool b) (.slice avX xs.length cvX) (.slice avY ys.length cvY) 26
  have hka := KF.1
  have hal : Below w2.heap.size w2 (w2.alloc (.cells #[.bool b, .slice avX xs.length cvX, .slice avY ys.length cvY] 26)) := old_alloc (Below.refl _ _) _
  replace OX := OX.later hal
  replace OY := OY.later hal
  replace K2 := K2.old hal
  replace R2 := R2.old hal
  replace B2 := B2.trans (But.of hal)
  clear hR
  go_wp2_with fail
  generalize w2.alloc (.cells #[.bool b, .slice avX xs.length cvX, .slice avY ys.length cvY] 26) = w2' at *
  clear hal
  refine (pick_k wz.heap.size 49999 _ _ R2 (by decide)).mono ?_
  rintro e w4 ⟨⟨t, ⟨ta, tb⟩, rfl⟩, R4, B4⟩
  have nA : w2.heap.size ≠ wz.heap.size := by omega
  replace K2 := K2.but B4 n2
  replace KF := KF.but B4 nA
  replace OX := (OX.kept B4.grown hOX).mono (show w.heap.size + 1 ≤ _ by omega)
  replace OY := (OY.kept B4.grown hOY).mono (show w.heap.size + 1 ≤ _ by omega)
  have hs4 := B4.size
  have hBB := old_trans e0 (B2.trans B4).below
  clear R2 B2 B4 R4
  have nKA : w.heap.size ≠ w2.heap.size := by omega
  have fA : w2.heap.size < w4.heap.size := by omega
  by_cases ht : 0 < t
  case neg =>
    go_upto_region 7 with fail
    obtain ⟨m1, ⟨m2, m3, m4⟩, m5, m6, m7⟩ := id K2
    obtain ⟨n1, ⟨n2, n3, n4⟩, -⟩ := id KF
    have q1 := (oi_set3 (v0 := .bool b) (v1 := .slice avX xs.length cvX) (v2 := .slice avY ys.length cvY) OX (show w.heap.size < w.heap.size + 1 by omega)).mono (show w.heap.size ≤ _ by omega)
    have q2 := (oi_set3 (v0 := .bool b) (v1 := .slice avX xs.length cvX) (v2 := .slice avY ys.length cvY) OY (show w.heap.size < w.heap.size + 1 by omega)).mono (show w.heap.size ≤ _ by omega)
    have hF := hd (show FA4 _ w.heap.size (.returned (.agg #[.bool b, .slice avX xs.length cvX, .slice avY ys.length cvY])) from ⟨_, _, _, _, _, _, _, rfl, q1, q2⟩)
    have hBF := hd (below_set3 (v0 := .bool b) (v1 := .slice avX xs.length cvX) (v2 := .slice avY ys.length cvY) (b := w.heap.size) hBB (Nat.le_refl _))
    clear q1 q2 OX OY
    go_wp2
    exact bodyPost_ret (resDFR (K2.setAll (.bool b) (.slice avX xs.length cvX) (.slice avY ys.length cvY)) rfl) rfl ⟨hF.out, hBF.out⟩
  have ML := hd (sFracMul b avX avY _ _ cvX cvY xs ys b avX avY _ _ cvX cvY xs ys w4 OX.inI OY.inI OX.inI OY.inI)
  obtain ⟨p1, ⟨p2, p3, p4⟩, -⟩ := id KF
  go_wp2_with fail
  refine ML.out.mono ?_
  rintro e w5 ⟨⟨au, cu, au', cu', rfl, O1, O2, -⟩, hb5⟩
  generalize fS (fracOk b xs ys && (fracOk b xs ys && lowB (val xs * val xs) (val ys * val ys))) (!(b == b)) (val xs * val xs) = sg at *
  generalize fT (fracOk b xs ys && (fracOk b xs ys && lowB (val xs * val xs) (val ys * val ys))) (val xs * val xs) (val ys * val ys) = tl at *
  generalize fU (fracOk b xs ys && (fracOk b xs ys && lowB (val xs * val xs) (val ys * val ys))) (val xs * val xs) (val ys * val ys) = ul at *
  generalize (fracOk b xs ys && (fracOk b xs ys && lowB (val xs * val xs) (val ys * val ys))) = okk at *
  replace OX := OX.later hb5
  replace OY := OY.later hb5
  replace K2 := K2.old hb5
  replace KF := KF.old hb5
  replace hBB := old_trans hBB hb5
  have hs5 := hb5.size
  clear p1 p2 p3 p4 ML hb5
  have KG := Cel3.new w5 (.bool sg) (.slice au tl.length cu) (.slice au' ul.length cu') 26
  have hal : Below w5.heap.size w5 (w5.alloc (.cells #[.bool sg, .slice au tl.length cu, .slice au' ul.length cu'] 26)) := old_alloc (Below.refl _ _) _
  replace OX := OX.later hal
  replace OY := OY.later hal
  replace O1 := (O1.later hal).mono (show w.heap.size + 1 ≤ _ by omega)
  replace O2 := (O2.later hal).mono (show w.heap.size + 1 ≤ _ by omega)
  replace K2 := K2.old hal
  replace KF := KF.old hal
  replace hBB := old_trans hBB hal
  have nKG : w.heap.size ≠ w5.heap.size := by omega
  cases okk
  · go_upto_region 7 with fail
    generalize w5.alloc (.cells #[.bool sg, .slice au tl.length cu, .slice au' ul.length cu'] 26) = w6 at *
    clear hal KG O1 O2
    obtain ⟨m1, ⟨m2, m3, m4⟩, m5, m6, m7⟩ := id K2
    obtain ⟨n1, ⟨n2, n3, n4⟩, -⟩ := id KF
    have q1 := (oi_set3 (v0 := .bool b) (v1 := .slice avX xs.length cvX) (v2 := .slice avY ys.length cvY) OX (show w.heap.size < w.heap.size + 1 by omega)).mono (show w.heap.size ≤ _ by omega)
    have q2 := (oi_set3 (v0 := .bool b) (v1 := .slice avX xs.length cvX) (v2 := .slice avY ys.length cvY) OY (show w.heap.size < w.heap.size + 1 by omega)).mono (show w.heap.size ≤ _ by omega)
    have hF := hd (show FA4 _ w.heap.size (.returned (.agg #[.bool b, .slice avX xs.length cvX, .slice avY ys.length cvY])) from ⟨_, _, _, _, _, _, _, rfl, q1, q2⟩)
    have hBF := hd (below_set3 (v0 := .bool b) (v1 := .slice avX xs.length cvX) (v2 := .slice avY ys.length cvY) (b := w.heap.size) hBB (Nat.le_refl _))
    clear q1 q2 OX OY
    go_wp2
    exact bodyPost_ret (resDFR (K2.setAll (.bool b) (.slice avX xs.length cvX) (.slice avY ys.length cvY)) rfl) rfl ⟨hF.out, hBF.out⟩
  · go_upto_region 6 with fail
    generalize w5.alloc (.cells #[.bool sg, .slice au tl.length cu, .slice au' ul.length cu'] 26) = w6 at *
    clear hal KF OX OY
    have KF := KG
    have OX := O1
    have OY := O2
    clear KG O1 O2
    obtain ⟨m1, ⟨m2, m3, m4⟩, m5, m6, m7⟩ := id K2
    obtain ⟨n1, ⟨n2, n3, n4⟩, -⟩ := id KF
    have q1 := (oi_set3 (v0 := .bool sg) (v1 := .slice au tl.length cu) (v2 := .slice au' ul.length cu') OX (show w.heap.size < w.heap.size + 1 by omega)).mono (show w.heap.size ≤ _ by omega)
    have q2 := (oi_set3 (v0 := .bool sg) (v1 := .slice au tl.length cu) (v2 := .slice au' ul.length cu') OY (show w.heap.size < w.heap.size + 1 by omega)).mono (show w.heap.size ≤ _ by omega)
    have hF := hd (show FA4 _ w.heap.size (.returned (.agg #[.bool sg, .slice au tl.length cu, .slice au' ul.length cu'])) from ⟨_, _, _, _, _, _, _, rfl, q1, q2⟩)
    have hBF := hd (below_set3 (v0 := .bool sg) (v1 := .slice au tl.length cu) (v2 := .slice au' ul.length cu') (b := w.heap.size) hBB (Nat.le_refl _))
    clear q1 q2 OX OY
    go_wp2
    exact bodyPost_ret (resDFR (K2.setAll (.bool sg) (.slice au tl.length cu) (.slice au' ul.length cu')) rfl) rfl ⟨hF.out, hBF.out⟩
end Go.Proofs.YtbcdeddbkckaeaaGreatDoor

/- Squares, roots and whole parts of fractions, as whole numbers. -/
namespace Go.Proofs.YtbcdeddbkckaeaaGreatDoor
open Go.RowKit
set_option linter.unusedVariables false
set_option maxRecDepth 100000

theorem FRes.calls {f : Nat} {args : Array Value} {w : World} {ok s : Bool} {A B : Nat} {tl ul : List Int} {sg : Bool} (h : Calls Tryz.prog f args w fun e w' => FRes w' w.heap.size e ok s A B ∧ Below w.heap.size w w') (hok : ok = true) (hT : lowT A B = tl) (hU : lowU A B = ul) (hS : (s && decide (A ≠ 0)) = sg) :
    Calls Tryz.prog f args w fun e w' => (∃ av cv av' cv', e = .returned (.tuple #[.agg #[.bool sg, .slice av tl.length cv, .slice av' ul.length cv'], .bool true]) ∧ OI w' w.heap.size av cv tl ∧ OI w' w.heap.size av' cv' ul) ∧ Below w.heap.size w w' := by
  subst hok
  refine h.mono ?_
  rintro e w' ⟨⟨av, cv, av', cv', h1, h2, h3, -⟩, hb⟩
  have e1 : fT true A B = tl := hT
  have e2 : fU true A B = ul := hU
  have e3 : fS true s A = sg := hS
  rw [e1] at h1 h2
  rw [e2] at h1 h3
  rw [e3] at h1
  exact ⟨⟨av, cv, av', cv', h1, h2, h3⟩, hb⟩
theorem FRes.callsN {f : Nat} {args : Array Value} {w : World} {ok s : Bool} {A B : Nat} (h : Calls Tryz.prog f args w fun e w' => FRes w' w.heap.size e ok s A B ∧ Below w.heap.size w w') (hok : ok = false) :
    Calls Tryz.prog f args w fun e w' => (∃ av cv av' cv', e = .returned (.tuple #[.agg #[.bool false, .slice av 0 cv, .slice av' 0 cv'], .bool false])) ∧ Below w.heap.size w w' := by
  subst hok
  refine h.mono ?_
  rintro e w' ⟨⟨av, cv, av', cv', h1, -⟩, hb⟩
  exact ⟨⟨av, cv, av', cv', h1⟩, hb⟩
theorem sq_cop {X Y : Nat} (h : Nat.gcd X Y = 1) : Nat.gcd (X * X) (Y * Y) = 1 := by
  have := Nat.pow_gcd_pow_of_gcd_eq_one (k := 2) (l := 2) h
  rw [Nat.pow_two, Nat.pow_two] at this
  exact this
theorem low_of_cop {A B : Nat} (h : Nat.gcd A B = 1) : lowT A B = natL A ∧ lowU A B = natL B := by
  unfold lowT lowU
  rw [h, Nat.div_one, Nat.div_one]
  exact ⟨rfl, rfl⟩
theorem isRoot_sq (X : Nat) : isRoot (X * X) X := ⟨Nat.le_refl _, by rw [Nat.add_mul, Nat.mul_add]; omega⟩
theorem sum_fv (b c : Bool) (X Y : Nat) : fv (sumS b c X Y) (sumN b c X Y) = fv b X + fv c Y := by
  unfold sumS sumN fv
  cases b <;> cases c <;> simp <;> (repeat' split) <;> (try simp) <;> omega
theorem fv_s (s : Bool) (A : Nat) : fv (s && decide (A ≠ 0)) A = fv s A := by
  unfold fv
  by_cases h : A = 0
  · subst h; cases s <;> simp
  · cases s <;> simp [h]
theorem fl_fv {bl : Bool} {X Y : Nat} (hy : Y ≠ 0) : fv bl (flN bl X Y) * Y ≤ fv bl X ∧ fv bl X < (fv bl (flN bl X Y) + 1) * Y := by
  have hd := Nat.div_add_mod X Y
  have hm := Nat.mod_lt X (Nat.pos_of_ne_zero hy)
  have e1 : (Y : Int) * ((X / Y : Nat) : Int) + ((X % Y : Nat) : Int) = (X : Int) := by exact_mod_cast hd
  have e2 : ((X % Y : Nat) : Int) < (Y : Int) := by exact_mod_cast hm
  have e3 : (0 : Int) ≤ ((X % Y : Nat) : Int) := by omega
  unfold flN fv
  generalize hq : X / Y = q at *
  generalize hr : X % Y = r at *
  cases bl
  · simp only [Bool.false_eq_true, false_and, if_false]
    constructor
    · rw [Int.mul_comm]; omega
    · rw [Int.add_mul, Int.mul_comm]; omega
  · by_cases h : r = 0
    · subst h
      simp only [ne_eq, not_true_eq_false, and_false, if_false, if_true]
      constructor
      · rw [Int.neg_mul, Int.mul_comm]; omega
      · rw [Int.add_mul, Int.neg_mul, Int.mul_comm]; omega
    · simp only [ne_eq, h, not_false_eq_true, and_self, if_true]
      have hr0 : (0 : Int) < (r : Int) := by omega
      constructor
      · rw [Int.neg_mul, Int.natCast_add, Int.add_mul, Int.mul_comm]; omega
      · rw [Int.add_mul, Int.neg_mul, Int.natCast_add, Int.add_mul, Int.mul_comm]; omega
theorem fl_len {bl : Bool} {xs ys : List Int} (hf : fracOk bl xs ys = true) : (natL (flN bl (val xs) (val ys))).length ≤ 256 := by
  have q := fracOk_in hf
  have hx := natOk_lt q.1
  have hy := frac_pos hf
  refine natL_len.2 (Nat.lt_of_le_of_lt ?_ hx)
  unfold flN
  split
  · rename_i h
    have h1 := Nat.div_add_mod (val xs) (val ys)
    have h2 : val ys ≠ 1 := by
      intro e
      rw [e] at h
      exact h.2 (Nat.mod_one _)
    have h3 : 2 * (val xs / val ys) ≤ val ys * (val xs / val ys) := Nat.mul_le_mul_right _ (by omega)
    omega
  · exact Nat.div_le_self _ _
theorem low_one (A : Nat) : lowT A 1 = natL A ∧ lowU A 1 = natL 1 := low_of_cop (Nat.gcd_one_right A)
theorem low_oneB {A : Nat} (h : (natL A).length ≤ 256) : lowB A 1 = true := lowB_mk (by omega) (by rw [(low_one A).1]; exact h) (by rw [(low_one A).2, one_len]; omega)
theorem c3_le {P : Int} (h : P ≤ 0) : c3 P ≤ 0 := by unfold c3; split <;> (try split) <;> omega
theorem c3_lt {P : Int} (h : P < 0) : c3 P = -1 := by unfold c3; rw [if_pos h]
end Go.Proofs.YtbcdeddbkckaeaaGreatDoor

/- The 1 in memory. -/
namespace Go.Proofs.YtbcdeddbkckaeaaGreatDoor
open Go.RowKit
set_option linter.unusedVariables false
set_option maxRecDepth 100000

theorem pw_one (a b : Option Addr) (ca cb : Nat) (w : World) (h1 : InI w a (natL 1).length ca (natL 1)) (h2 : InI w b 1 cb (natL 1)) :
    Calls Tryz.prog 22 #[.slice a (natL 1).length ca, .slice b 1 cb] w fun e w' => e = .returned (.bool true) ∧ Below w.heap.size w w' := by
  rw [one_len] at h1 ⊢
  exact lPwSameU a b 1 ca cb (natL 1) w h1 h2
theorem one_in (w : World) (t : TypeId) : InI (w.alloc (.cells #[.int .i64 1] t)) (some ⟨w.heap.size, 0, none⟩) 1 1 (natL 1) := by
  have h := (one_oi w t).inI
  rw [one_len] at h
  exact h
theorem iOneF (w : World) : Calls Tryz.prog 20 #[.int .i64 1] w fun e w' => (∃ av cv av' cv', e = .returned (.agg #[.bool false, .slice av (natL 1).length cv, .slice av' (natL 1).length cv']) ∧ OI w' w.heap.size av cv (natL 1) ∧ OI w' w.heap.size av' cv' (natL 1) ∧ Sep av av') ∧ Below w.heap.size w w' := iFracIntP 1 (by omega) w
theorem fracOk_one : fracOk false (natL 1) (natL 1) = true := fracOk_int (by omega) (by simp)
/-- what is added to the whole part, and how it stands -/
theorem up_cmp {bl bn : Bool} {xs ys : List Int} {fl : Nat} (hf : fracOk bl xs ys = true) (hfl : flN bl (val xs) (val ys) = fl) (hbn : (bl && decide (fl ≠ 0)) = bn) :
    c3 (pab bn (natL fl) (natL 1) bl xs ys) ≤ 0 ∧ (lowB (sumN bn false (fl * 1) (1 * 1)) (1 * 1) = true → c3 (pab bl xs ys (sumS bn false (fl * 1) (1 * 1) && decide (sumN bn false (fl * 1) (1 * 1) ≠ 0)) (lowT (sumN bn false (fl * 1) (1 * 1)) (1 * 1)) (lowU (sumN bn false (fl * 1) (1 * 1)) (1 * 1))) = -1) := by
  have hy := frac_pos hf
  have k := fl_fv (bl := bl) (X := val xs) hy
  rw [hfl] at k
  have e0 : fv bn fl = fv bl fl := by rw [← hbn]; exact fv_s bl fl
  constructor
  · apply c3_le
    unfold pab
    rw [val_natL, val_natL, e0]
    have := k.1
    omega
  · intro _
    apply c3_lt
    have l := low_one (sumN bn false (fl * 1) (1 * 1))
    rw [show 1 * 1 = 1 from rfl] at *
    rw [l.1, l.2]
    unfold pab
    rw [val_natL, val_natL, fv_s, sum_fv, Nat.mul_one, e0]
    have e1 : fv false 1 = 1 := rfl
    rw [e1]
    have := k.2
    omega
end Go.Proofs.YtbcdeddbkckaeaaGreatDoor
