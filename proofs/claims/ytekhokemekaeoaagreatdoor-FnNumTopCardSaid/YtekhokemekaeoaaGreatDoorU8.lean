/- Fractions as a field: what is reckoned of them hangs on their values alone. Conditions, of the program: the library's table and its handle of errors hold what their texts lay. -/
import Derived.Test.YtekhokemekaeoaaGreatDoorBT
import Derived.Test.YtekhokemekaeoaaGreatDoorFR
import Derived.Test.YtekhokemekaeoaaGreatDoorFW
namespace Go.Proofs.YtekhokemekaeoaaGreatDoor
open Go.RowKit
set_option linter.unusedVariables false
set_option maxRecDepth 100000

theorem fv_inj {s s' : Bool} {M N : Nat} (h : fv s M = fv s' N) : M = N ∧ (M ≠ 0 → s = s') := by
  unfold fv at h
  cases s <;> cases s' <;> simp at h
  · exact ⟨by omega, fun _ => rfl⟩
  · exact ⟨by omega, fun g => absurd (by omega) g⟩
  · exact ⟨by omega, fun g => absurd (by omega) g⟩
  · exact ⟨by omega, fun _ => rfl⟩
/-- what a fraction, not in lowest terms, is in lowest ones: whether there is one, its sign, top and bottom -/
def fres (s : Bool) (A B : Nat) : Bool × Bool × List Int × List Int := (lowB A B, fS (lowB A B) s A, fT (lowB A B) A B, fU (lowB A B) A B)
theorem canon {s s' : Bool} {A A' B B' : Nat} (hB : B ≠ 0) (hB' : B' ≠ 0) (h : fv s A * B' = fv s' A' * B) : fres s A B = fres s' A' B' := by
  rw [← fv_mul, ← fv_mul] at h
  obtain ⟨hN, hS⟩ := fv_inj h
  have p := Nat.pos_of_ne_zero hB
  have p' := Nat.pos_of_ne_zero hB'
  have g : Nat.gcd A B * B' = Nat.gcd A' B' * B := by
    rw [← Nat.gcd_mul_right, ← Nat.gcd_mul_right, hN, Nat.mul_comm B B']
  have e1 : A / Nat.gcd A B = A' / Nat.gcd A' B' := by
    rw [← Nat.mul_div_mul_right A (Nat.gcd A B) p', ← Nat.mul_div_mul_right A' (Nat.gcd A' B') p, g, hN]
  have e2 : B / Nat.gcd A B = B' / Nat.gcd A' B' := by
    rw [← Nat.mul_div_mul_right B (Nat.gcd A B) p', ← Nat.mul_div_mul_right B' (Nat.gcd A' B') p, g, Nat.mul_comm B B']
  have t1 : lowT A B = lowT A' B' := by unfold lowT; rw [e1]
  have t2 : lowU A B = lowU A' B' := by unfold lowU; rw [e2]
  have t3 : lowB A B = lowB A' B' := by unfold lowB; rw [t1, t2, decide_eq_true hB, decide_eq_true hB']
  have t4 : (s && decide (A ≠ 0)) = (s' && decide (A' ≠ 0)) := by
    by_cases z : A = 0
    · subst z
      have z' : A' = 0 := by
        rw [Nat.zero_mul] at hN
        rcases Nat.mul_eq_zero.1 hN.symm with h9 | h9
        · exact h9
        · exact absurd h9 hB
      subst z'
      simp
    · have z' : A' ≠ 0 := fun e => by
        subst e
        rw [Nat.zero_mul] at hN
        rcases Nat.mul_eq_zero.1 hN with h9 | h9
        · exact z h9
        · exact hB' h9
      rw [hS (Nat.mul_ne_zero z hB'), decide_eq_true z, decide_eq_true z']
  unfold fres fS fT fU
  rw [t1, t2, t3, t4]
theorem fres_in {s : Bool} {A B : Nat} {sg : Bool} {tl ul : List Int} (h : fres s A B = (true, sg, tl, ul)) : fracOk sg tl ul = true ∧ fv sg (val tl) * B = fv s A * val ul ∧ B ≠ 0 := by
  unfold fres at h
  simp only [Prod.mk.injEq] at h
  obtain ⟨h1, h2, h3, h4⟩ := h
  rw [h1] at h2 h3 h4
  have hb := (lowB_in h1).1
  have hf := low_frac (s := s) h1
  have e3 : lowT A B = tl := h3
  have e4 : lowU A B = ul := h4
  have e2 : (s && decide (A ≠ 0)) = sg := h2
  rw [e3, e4, e2] at hf
  refine ⟨hf, ?_, hb⟩
  subst e3 e4 e2
  unfold lowT lowU
  rw [val_natL, val_natL]
  obtain ⟨a, ha⟩ := Nat.gcd_dvd_left A B
  obtain ⟨b, hb2⟩ := Nat.gcd_dvd_right A B
  have hg : 0 < Nat.gcd A B := Nat.pos_of_ne_zero (fun e => hb (Nat.gcd_eq_zero_iff.1 e).2)
  have ea : A / Nat.gcd A B = a := Nat.div_eq_of_eq_mul_right hg ha
  have eb : B / Nat.gcd A B = b := Nat.div_eq_of_eq_mul_right hg hb2
  rw [ea, eb]
  by_cases z : A = 0
  · have za : a = 0 := by rw [← ea, z]; exact Nat.zero_div _
    subst za
    rw [z]
    unfold fv
    cases s <;> simp
  · rw [decide_eq_true z, Bool.and_true, ← fv_mul, ← fv_mul]
    congr 1
    generalize Nat.gcd A B = g at *
    subst ha hb2
    grind
theorem fres_self {b : Bool} {xs ys : List Int} (h : fracOk b xs ys = true) : fres b (val xs) (val ys) = (true, b, xs, ys) := by
  have q := fracOk_low h
  have r := fracOk_in h
  unfold fres fS fT fU
  rw [q.1, q.2.1, q.2.2]
  have hb : (b && decide (val xs ≠ 0)) = b := by
    cases hb : b
    · rfl
    · have : val xs ≠ 0 := fun e => r.2.2.2.2 ⟨hb, by have c := natOk_canon r.1; rw [e, natL_zero] at c; rw [← c]; rfl⟩
      rw [decide_eq_true this]; rfl
  simp only [Bool.true_and, hb, if_true]
theorem xor_fv (b c : Bool) (X Y : Nat) : fv (!(b == c)) (X * Y) = fv b X * fv c Y := by
  unfold fv
  cases b <;> cases c <;> simp [Int.neg_mul, Int.mul_neg]
theorem add_fv (b c : Bool) (X Y P Q : Nat) : fv (sumS b c (X * P) (Y * Q)) (sumN b c (X * P) (Y * Q)) = fv b X * P + fv c Y * Q := by rw [sum_fv, fv_mul, fv_mul]
theorem not_fv (c : Bool) (Y : Nat) : fv (!c) Y = - fv c Y := by unfold fv; cases c <;> simp
/-- an answer: whether there is one, its sign, top and bottom, owned -/
abbrev Ans (w : World) (e : Ending) (w' : World) (r sg : Bool) (tl ul : List Int) : Prop := (∃ av cv av' cv', e = .returned (.tuple #[.agg #[.bool sg, .slice av tl.length cv, .slice av' ul.length cv'], .bool r]) ∧ OI w' w.heap.size av cv tl ∧ OI w' w.heap.size av' cv' ul) ∧ Below w.heap.size w w'
abbrev CIt (f : Nat) (bl : Bool) (xs ys : List Int) (bm : Bool) (us vs : List Int) (r sg : Bool) (tl ul : List Int) : Prop :=
  ∀ (a b : Option Addr) (la lb ca cb : Nat) (c d : Option Addr) (lc ld cc cd : Nat) (w : World), InI w a la ca xs → InI w b lb cb ys → InI w c lc cc us → InI w d ld cd vs → Tab w ∧ ET w →
    Calls Tryz.prog f #[.agg #[.bool bl, .slice a la ca, .slice b lb cb], .agg #[.bool bm, .slice c lc cc, .slice d ld cd]] w fun e w' => Ans w e w' r sg tl ul
theorem FRes.ans {f : Nat} {args : Array Value} {w : World} {ok s : Bool} {A B : Nat} (h : Calls Tryz.prog f args w fun e w' => FRes w' w.heap.size e ok s A B ∧ Below w.heap.size w w') :
    Calls Tryz.prog f args w fun e w' => Ans w e w' ok (fS ok s A) (fT ok A B) (fU ok A B) := by
  refine h.mono ?_
  rintro e w' ⟨⟨av, cv, av', cv', h1, h2, h3, -⟩, hb⟩
  exact ⟨⟨av, cv, av', cv', h1, h2, h3⟩, hb⟩
theorem FRes.ansR {f : Nat} {args : Array Value} {w : World} {ok s : Bool} {A B : Nat} {r sg : Bool} {tl ul : List Int} (h : Calls Tryz.prog f args w fun e w' => FRes w' w.heap.size e ok s A B ∧ Below w.heap.size w w') (hok : ok = lowB A B) (hr : fres s A B = (r, sg, tl, ul)) :
    Calls Tryz.prog f args w fun e w' => Ans w e w' r sg tl ul := by
  have g := FRes.ans h
  unfold fres at hr
  simp only [Prod.mk.injEq] at hr
  obtain ⟨h1, h2, h3, h4⟩ := hr
  rw [hok, h2, h3, h4, h1] at g
  exact g
theorem add_res (bl : Bool) (xs ys : List Int) (bm : Bool) (us vs : List Int) : ∃ (r sg : Bool) (tl ul : List Int), (r = true → fracOk bl xs ys = true ∧ fracOk bm us vs = true ∧ fres (sumS bl bm (val xs * val vs) (val us * val ys)) (sumN bl bm (val xs * val vs) (val us * val ys)) (val ys * val vs) = (true, sg, tl, ul)) ∧ CIt 8 bl xs ys bm us vs r sg tl ul ∧ CIt 9 bl xs ys bm us vs r sg tl ul := by
  refine ⟨_, _, _, _, ?_, fun a b la lb ca cb c d lc ld cc cd w hA hB hC hD hT => FRes.ans (iFracAdd bl a b la lb ca cb xs ys bm c d lc ld cc cd us vs w hA hB hC hD hT.1 hT.2), fun a b la lb ca cb c d lc ld cc cd w hA hB hC hD hT => FRes.ans (sFracAdd bl a b la lb ca cb xs ys bm c d lc ld cc cd us vs w hA hB hC hD)⟩
  intro h
  have h' := h
  simp only [Bool.and_eq_true] at h'
  refine ⟨h'.1, h'.2.1, ?_⟩
  rw [h]
  unfold fres
  rw [h'.2.2]
theorem add_is {bl : Bool} {xs ys : List Int} {bm : Bool} {us vs : List Int} {r sg : Bool} {tl ul : List Int} (h1 : fracOk bl xs ys = true) (h2 : fracOk bm us vs = true) (hr : fres (sumS bl bm (val xs * val vs) (val us * val ys)) (sumN bl bm (val xs * val vs) (val us * val ys)) (val ys * val vs) = (r, sg, tl, ul)) : CIt 8 bl xs ys bm us vs r sg tl ul :=
  fun a b la lb ca cb c d lc ld cc cd w hA hB hC hD hT => FRes.ansR (iFracAdd bl a b la lb ca cb xs ys bm c d lc ld cc cd us vs w hA hB hC hD hT.1 hT.2) (by rw [h1, h2]; rfl) hr
theorem mul_res (bl : Bool) (xs ys : List Int) (bm : Bool) (us vs : List Int) : ∃ (r sg : Bool) (tl ul : List Int), (r = true → fracOk bl xs ys = true ∧ fracOk bm us vs = true ∧ fres (!(bl == bm)) (val xs * val us) (val ys * val vs) = (true, sg, tl, ul)) ∧ CIt 11 bl xs ys bm us vs r sg tl ul ∧ CIt 12 bl xs ys bm us vs r sg tl ul := by
  refine ⟨_, _, _, _, ?_, fun a b la lb ca cb c d lc ld cc cd w hA hB hC hD hT => FRes.ans (iFracMul bl a b la lb ca cb xs ys bm c d lc ld cc cd us vs w hA hB hC hD hT.1 hT.2), fun a b la lb ca cb c d lc ld cc cd w hA hB hC hD hT => FRes.ans (sFracMul bl a b la lb ca cb xs ys bm c d lc ld cc cd us vs w hA hB hC hD)⟩
  intro h
  have h' := h
  simp only [Bool.and_eq_true] at h'
  refine ⟨h'.1, h'.2.1, ?_⟩
  rw [h]
  unfold fres
  rw [h'.2.2]
theorem mul_is {bl : Bool} {xs ys : List Int} {bm : Bool} {us vs : List Int} {r sg : Bool} {tl ul : List Int} (h1 : fracOk bl xs ys = true) (h2 : fracOk bm us vs = true) (hr : fres (!(bl == bm)) (val xs * val us) (val ys * val vs) = (r, sg, tl, ul)) : CIt 11 bl xs ys bm us vs r sg tl ul :=
  fun a b la lb ca cb c d lc ld cc cd w hA hB hC hD hT => FRes.ansR (iFracMul bl a b la lb ca cb xs ys bm c d lc ld cc cd us vs w hA hB hC hD hT.1 hT.2) (by rw [h1, h2]; rfl) hr
theorem sub_res (bl : Bool) (xs ys : List Int) (bm : Bool) (us vs : List Int) : ∃ (r sg : Bool) (tl ul : List Int), (r = true → fracOk bl xs ys = true ∧ fracOk bm us vs = true ∧ fres (sumS bl (!bm) (val xs * val vs) (val us * val ys)) (sumN bl (!bm) (val xs * val vs) (val us * val ys)) (val ys * val vs) = (true, sg, tl, ul)) ∧ CIt 13 bl xs ys bm us vs r sg tl ul := by
  refine ⟨_, _, _, _, ?_, fun a b la lb ca cb c d lc ld cc cd w hA hB hC hD hT => FRes.ans (iFracSub bl a b la lb ca cb xs ys bm c d lc ld cc cd us vs w hA hB hC hD hT.1 hT.2)⟩
  intro h
  have h' := h
  simp only [Bool.and_eq_true] at h'
  refine ⟨h'.1, h'.2.1, ?_⟩
  rw [h]
  unfold fres
  rw [h'.2.2]
theorem sub_is {bl : Bool} {xs ys : List Int} {bm : Bool} {us vs : List Int} {r sg : Bool} {tl ul : List Int} (h1 : fracOk bl xs ys = true) (h2 : fracOk bm us vs = true) (hr : fres (sumS bl (!bm) (val xs * val vs) (val us * val ys)) (sumN bl (!bm) (val xs * val vs) (val us * val ys)) (val ys * val vs) = (r, sg, tl, ul)) : CIt 13 bl xs ys bm us vs r sg tl ul :=
  fun a b la lb ca cb c d lc ld cc cd w hA hB hC hD hT => FRes.ansR (iFracSub bl a b la lb ca cb xs ys bm c d lc ld cc cd us vs w hA hB hC hD hT.1 hT.2) (by rw [h1, h2]; rfl) hr
theorem div_res (bl : Bool) (xs ys : List Int) (bm : Bool) (us vs : List Int) : ∃ (r sg : Bool) (tl ul : List Int), (r = true → fracOk bl xs ys = true ∧ fracOk bm us vs = true ∧ fres (!(bl == bm)) (val xs * val vs) (val ys * val us) = (true, sg, tl, ul)) ∧ CIt 15 bl xs ys bm us vs r sg tl ul := by
  refine ⟨_, _, _, _, ?_, fun a b la lb ca cb c d lc ld cc cd w hA hB hC hD hT => FRes.ans (iFracDiv bl a b la lb ca cb xs ys bm c d lc ld cc cd us vs w hA hB hC hD hT.1 hT.2)⟩
  intro h
  have h' := h
  simp only [Bool.and_eq_true] at h'
  refine ⟨h'.1, h'.2.1, ?_⟩
  rw [h]
  unfold fres
  rw [h'.2.2]
theorem div_is {bl : Bool} {xs ys : List Int} {bm : Bool} {us vs : List Int} {r sg : Bool} {tl ul : List Int} (h1 : fracOk bl xs ys = true) (h2 : fracOk bm us vs = true) (hr : fres (!(bl == bm)) (val xs * val vs) (val ys * val us) = (r, sg, tl, ul)) : CIt 15 bl xs ys bm us vs r sg tl ul :=
  fun a b la lb ca cb c d lc ld cc cd w hA hB hC hD hT => FRes.ansR (iFracDiv bl a b la lb ca cb xs ys bm c d lc ld cc cd us vs w hA hB hC hD hT.1 hT.2) (by rw [h1, h2]; rfl) hr
theorem fAddComm {ba bb : Bool} {xs ys us vs : List Int} (o0 : fracOk ba xs ys = true) (o1 : fracOk bb us vs = true)  : fres (sumS bb ba (val us * val ys) (val xs * val vs)) (sumN bb ba (val us * val ys) (val xs * val vs)) (val vs * val ys) = fres (sumS ba bb (val xs * val vs) (val us * val ys)) (sumN ba bb (val xs * val vs) (val us * val ys)) (val ys * val vs) := by
  have n0 := frac_pos o0
  have n1 := frac_pos o1
  refine canon (by first | exact Nat.mul_ne_zero (by assumption) (by assumption) | assumption) (by first | exact Nat.mul_ne_zero (by assumption) (by assumption) | assumption) ?_
  try simp only [add_fv]
  try simp only [xor_fv]
  try simp only [Int.natCast_mul]
  generalize fv ba (val xs) = F0 at *
  generalize (val ys : Int) = G0 at *
  generalize fv bb (val us) = F1 at *
  generalize (val vs : Int) = G1 at *
  grind
theorem fMulComm {ba bb : Bool} {xs ys us vs : List Int} (o0 : fracOk ba xs ys = true) (o1 : fracOk bb us vs = true)  : fres (!(bb == ba)) (val us * val xs) (val vs * val ys) = fres (!(ba == bb)) (val xs * val us) (val ys * val vs) := by
  have n0 := frac_pos o0
  have n1 := frac_pos o1
  refine canon (by first | exact Nat.mul_ne_zero (by assumption) (by assumption) | assumption) (by first | exact Nat.mul_ne_zero (by assumption) (by assumption) | assumption) ?_
  try simp only [add_fv]
  try simp only [xor_fv]
  try simp only [Int.natCast_mul]
  generalize fv ba (val xs) = F0 at *
  generalize (val ys : Int) = G0 at *
  generalize fv bb (val us) = F1 at *
  generalize (val vs : Int) = G1 at *
  grind
theorem fSubBack {ba bb s1 : Bool} {xs ys us vs t1 u1 : List Int} (o0 : fracOk ba xs ys = true) (o1 : fracOk bb us vs = true) (e0 : fres (sumS ba bb (val xs * val vs) (val us * val ys)) (sumN ba bb (val xs * val vs) (val us * val ys)) (val ys * val vs) = (true, s1, t1, u1)) : fres (sumS s1 (!bb) (val t1 * val vs) (val us * val u1)) (sumN s1 (!bb) (val t1 * val vs) (val us * val u1)) (val u1 * val vs) = fres ba (val xs) (val ys) := by
  have n0 := frac_pos o0
  have n1 := frac_pos o1
  have q0 := fres_in e0
  have m0 := frac_pos q0.1
  have v0 := q0.2.1
  try simp only [add_fv] at v0
  try simp only [not_fv] at v0
  try simp only [Int.natCast_mul] at v0
  refine canon (by first | exact Nat.mul_ne_zero (by assumption) (by assumption) | assumption) (by first | exact Nat.mul_ne_zero (by assumption) (by assumption) | assumption) ?_
  try simp only [add_fv]
  try simp only [not_fv]
  try simp only [Int.natCast_mul]
  generalize fv ba (val xs) = F0 at *
  generalize (val ys : Int) = G0 at *
  generalize fv bb (val us) = F1 at *
  generalize (val vs : Int) = G1 at *
  generalize fv s1 (val t1) = F2 at *
  generalize (val u1 : Int) = G2 at *
  clear e0 q0
  grind
theorem fv_sg (b : Bool) : ∃ g : Int, g * g = 1 ∧ ∀ n : Nat, fv b n = g * n := by
  cases b
  · exact ⟨1, by omega, fun n => by unfold fv; simp⟩
  · exact ⟨-1, by omega, fun n => by unfold fv; simp⟩
theorem fDivBack {ba bb s2 : Bool} {xs ys us vs t2 u2 : List Int} (o0 : fracOk ba xs ys = true) (o1 : fracOk bb us vs = true) (e0 : fres (!(ba == bb)) (val xs * val us) (val ys * val vs) = (true, s2, t2, u2)) (hz : val us ≠ 0) : fres (!(s2 == bb)) (val t2 * val vs) (val u2 * val us) = fres ba (val xs) (val ys) := by
  have n0 := frac_pos o0
  have n1 := frac_pos o1
  have q0 := fres_in e0
  have m0 := frac_pos q0.1
  have v0 := q0.2.1
  try simp only [add_fv] at v0
  try simp only [xor_fv] at v0
  try simp only [Int.natCast_mul] at v0
  refine canon (by first | exact Nat.mul_ne_zero (by assumption) (by assumption) | assumption) (by first | exact Nat.mul_ne_zero (by assumption) (by assumption) | assumption) ?_
  try simp only [add_fv]
  try simp only [xor_fv]
  try simp only [Int.natCast_mul]
  obtain ⟨g, hg, hf⟩ := fv_sg bb
  simp only [hf] at v0 ⊢
  clear hf e0 q0
  generalize fv ba (val xs) = F0 at *
  generalize fv s2 (val t2) = F2 at *
  generalize (val ys : Int) = G0 at *
  generalize (val vs : Int) = G1 at *
  generalize (val us : Int) = U at *
  generalize (val u2 : Int) = G2 at *
  have : g * (F2 * (G0 * G1)) = g * (F0 * (g * U) * G2) := by rw [v0]
  grind
theorem fAddAss {ba bb bc s1 s3 : Bool} {xs ys us vs ps qs t1 u1 t3 u3 : List Int} (o0 : fracOk ba xs ys = true) (o1 : fracOk bb us vs = true) (o2 : fracOk bc ps qs = true) (e0 : fres (sumS ba bb (val xs * val vs) (val us * val ys)) (sumN ba bb (val xs * val vs) (val us * val ys)) (val ys * val vs) = (true, s1, t1, u1)) (e1 : fres (sumS bb bc (val us * val qs) (val ps * val vs)) (sumN bb bc (val us * val qs) (val ps * val vs)) (val vs * val qs) = (true, s3, t3, u3)) : fres (sumS s1 bc (val t1 * val qs) (val ps * val u1)) (sumN s1 bc (val t1 * val qs) (val ps * val u1)) (val u1 * val qs) = fres (sumS ba s3 (val xs * val u3) (val t3 * val ys)) (sumN ba s3 (val xs * val u3) (val t3 * val ys)) (val ys * val u3) := by
  have n0 := frac_pos o0
  have n1 := frac_pos o1
  have n2 := frac_pos o2
  have q0 := fres_in e0
  have m0 := frac_pos q0.1
  have v0 := q0.2.1
  try simp only [add_fv] at v0
  try simp only [xor_fv] at v0
  try simp only [Int.natCast_mul] at v0
  have q1 := fres_in e1
  have m1 := frac_pos q1.1
  have v1 := q1.2.1
  try simp only [add_fv] at v1
  try simp only [xor_fv] at v1
  try simp only [Int.natCast_mul] at v1
  refine canon (by first | exact Nat.mul_ne_zero (by assumption) (by assumption) | assumption) (by first | exact Nat.mul_ne_zero (by assumption) (by assumption) | assumption) ?_
  try simp only [add_fv]
  try simp only [xor_fv]
  try simp only [Int.natCast_mul]
  refine Int.eq_of_mul_eq_mul_right (a := (val vs : Int)) (by omega) ?_
  clear o0 n0 o1 n1 o2 n2 m0 m1
  generalize fv ba (val xs) = F0 at *
  generalize (val ys : Int) = G0 at *
  generalize fv bb (val us) = F1 at *
  generalize (val vs : Int) = G1 at *
  generalize fv bc (val ps) = F2 at *
  generalize (val qs : Int) = G2 at *
  generalize fv s1 (val t1) = F3 at *
  generalize (val u1 : Int) = G3 at *
  generalize fv s3 (val t3) = F4 at *
  generalize (val u3 : Int) = G4 at *
  clear e0 e1 q0 q1
  grind
theorem fMulAss {ba bb bc s2 s4 : Bool} {xs ys us vs ps qs t2 u2 t4 u4 : List Int} (o0 : fracOk ba xs ys = true) (o1 : fracOk bb us vs = true) (o2 : fracOk bc ps qs = true) (e0 : fres (!(ba == bb)) (val xs * val us) (val ys * val vs) = (true, s2, t2, u2)) (e1 : fres (!(bb == bc)) (val us * val ps) (val vs * val qs) = (true, s4, t4, u4)) : fres (!(s2 == bc)) (val t2 * val ps) (val u2 * val qs) = fres (!(ba == s4)) (val xs * val t4) (val ys * val u4) := by
  have n0 := frac_pos o0
  have n1 := frac_pos o1
  have n2 := frac_pos o2
  have q0 := fres_in e0
  have m0 := frac_pos q0.1
  have v0 := q0.2.1
  try simp only [add_fv] at v0
  try simp only [xor_fv] at v0
  try simp only [Int.natCast_mul] at v0
  have q1 := fres_in e1
  have m1 := frac_pos q1.1
  have v1 := q1.2.1
  try simp only [add_fv] at v1
  try simp only [xor_fv] at v1
  try simp only [Int.natCast_mul] at v1
  refine canon (by first | exact Nat.mul_ne_zero (by assumption) (by assumption) | assumption) (by first | exact Nat.mul_ne_zero (by assumption) (by assumption) | assumption) ?_
  try simp only [add_fv]
  try simp only [xor_fv]
  try simp only [Int.natCast_mul]
  refine Int.eq_of_mul_eq_mul_right (a := (val vs : Int)) (by omega) ?_
  clear o0 n0 o1 n1 o2 n2 m0 m1
  generalize fv ba (val xs) = F0 at *
  generalize (val ys : Int) = G0 at *
  generalize fv bb (val us) = F1 at *
  generalize (val vs : Int) = G1 at *
  generalize fv bc (val ps) = F2 at *
  generalize (val qs : Int) = G2 at *
  generalize fv s2 (val t2) = F3 at *
  generalize (val u2 : Int) = G3 at *
  generalize fv s4 (val t4) = F4 at *
  generalize (val u4 : Int) = G4 at *
  clear e0 e1 q0 q1
  grind
theorem fDist {ba bb bc s2 s3 s5 : Bool} {xs ys us vs ps qs t2 u2 t3 u3 t5 u5 : List Int} (o0 : fracOk ba xs ys = true) (o1 : fracOk bb us vs = true) (o2 : fracOk bc ps qs = true) (e0 : fres (sumS bb bc (val us * val qs) (val ps * val vs)) (sumN bb bc (val us * val qs) (val ps * val vs)) (val vs * val qs) = (true, s3, t3, u3)) (e1 : fres (!(ba == bb)) (val xs * val us) (val ys * val vs) = (true, s2, t2, u2)) (e2 : fres (!(ba == bc)) (val xs * val ps) (val ys * val qs) = (true, s5, t5, u5)) : fres (!(ba == s3)) (val xs * val t3) (val ys * val u3) = fres (sumS s2 s5 (val t2 * val u5) (val t5 * val u2)) (sumN s2 s5 (val t2 * val u5) (val t5 * val u2)) (val u2 * val u5) := by
  have n0 := frac_pos o0
  have n1 := frac_pos o1
  have n2 := frac_pos o2
  have q0 := fres_in e0
  have m0 := frac_pos q0.1
  have v0 := q0.2.1
  try simp only [add_fv] at v0
  try simp only [xor_fv] at v0
  try simp only [Int.natCast_mul] at v0
  have q1 := fres_in e1
  have m1 := frac_pos q1.1
  have v1 := q1.2.1
  try simp only [add_fv] at v1
  try simp only [xor_fv] at v1
  try simp only [Int.natCast_mul] at v1
  have q2 := fres_in e2
  have m2 := frac_pos q2.1
  have v2 := q2.2.1
  try simp only [add_fv] at v2
  try simp only [xor_fv] at v2
  try simp only [Int.natCast_mul] at v2
  refine canon (by first | exact Nat.mul_ne_zero (by assumption) (by assumption) | assumption) (by first | exact Nat.mul_ne_zero (by assumption) (by assumption) | assumption) ?_
  try simp only [add_fv]
  try simp only [xor_fv]
  try simp only [Int.natCast_mul]
  refine Int.eq_of_mul_eq_mul_right (a := (val vs : Int)) (by omega) ?_
  refine Int.eq_of_mul_eq_mul_right (a := (val qs : Int)) (by omega) ?_
  clear o0 n0 o1 n1 o2 n2 m0 m1 m2
  generalize fv ba (val xs) = F0 at *
  generalize (val ys : Int) = G0 at *
  generalize fv bb (val us) = F1 at *
  generalize (val vs : Int) = G1 at *
  generalize fv bc (val ps) = F2 at *
  generalize (val qs : Int) = G2 at *
  generalize fv s2 (val t2) = F3 at *
  generalize (val u2 : Int) = G3 at *
  generalize fv s3 (val t3) = F4 at *
  generalize (val u3 : Int) = G4 at *
  generalize fv s5 (val t5) = F5 at *
  generalize (val u5 : Int) = G5 at *
  clear e0 e1 e2 q0 q1 q2
  grind
end Go.Proofs.YtekhokemekaeoaaGreatDoor
