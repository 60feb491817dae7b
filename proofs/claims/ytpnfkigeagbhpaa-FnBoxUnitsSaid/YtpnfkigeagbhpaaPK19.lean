/- Two boxes of one, by parting one coordinate: by the program, for whatever parts a pair. Condition: 2^20 pairs at most. -/
import Derived.Test.YtpnfkigeagbhpaaPK18
import Derived.Test.YtpnfkigeagbhpaaPK07
import Derived.Deep.RegionHeld3
namespace Go.Proofs.Ytpnfkigeagbhpaa
open Go.RowKit
set_option linter.unusedVariables false
set_option maxRecDepth 100000

/-- two boxes, each in memory of its own, or nothing -/
def BR2 (n0 : Nat) (w' : World) (e : Ending) (r : Bool) (l1 l2 : List (Int × Int)) : Prop :=
  ∃ av cv av2 cv2, e = .returned (.tuple #[.agg #[.slice av (resL r l1).length cv], .agg #[.slice av2 (resL r l2).length cv2], .bool r]) ∧ OB w' n0 av cv (resL r l1) ∧ OB w' n0 av2 cv2 (resL r l2) ∧ (∀ q q', av = some q → av2 = some q' → q.block ≠ q'.block)
theorem BR2.no (n0 : Nat) (w' : World) (l1 l2 : List (Int × Int)) : BR2 n0 w' (.returned (.tuple #[.agg #[.slice none 0 0], .agg #[.slice none 0 0], .bool false])) false l1 l2 :=
  ⟨none, 0, none, 0, rfl, ⟨fits_nil, Nat.le_refl _, Nat.zero_le _, .inl ⟨rfl, rfl⟩⟩, ⟨fits_nil, Nat.le_refl _, Nat.zero_le _, .inl ⟨rfl, rfl⟩⟩, fun q q' h => by cases h⟩
theorem BR2.yes {n0 : Nat} {w' : World} {l1 l2 : List (Int × Int)} {g c g2 c2 : Nat} (h1 : OB w' n0 (some ⟨g, 0, none⟩) c l1) (h2 : OB w' n0 (some ⟨g2, 0, none⟩) c2 l2) (hn : g ≠ g2) : BR2 n0 w' (.returned (.tuple #[.agg #[.slice (some ⟨g, 0, none⟩) l1.length c], .agg #[.slice (some ⟨g2, 0, none⟩) l2.length c2], .bool true])) true l1 l2 :=
  ⟨_, _, _, _, rfl, h1, h2, fun q q' e e' => by injection e with e; injection e' with e'; subst e e'; exact hn⟩
theorem fits_set {ps : List (Int × Int)} (h : Fits ps) (k : Nat) {x y : Int} (hx : (-9223372036854775808 ≤ x ∧ x ≤ 9223372036854775807) ∧ -9223372036854775808 ≤ y ∧ y ≤ 9223372036854775807) : Fits (ps.set k (x, y)) := by
  intro p hp
  rcases List.mem_or_eq_of_mem_set hp with h1 | h1
  · exact h p h1
  · subst h1; exact hx
def inB (wd at_ : Int) (ps : List (Int × Int)) : Bool := okRow wd ps && decide (0 ≤ at_ ∧ at_ < (ps.length : Int))
def fit4 (x1 y1 x2 y2 : Int) : Prop := ((-9223372036854775808 ≤ x1 ∧ x1 ≤ 9223372036854775807) ∧ -9223372036854775808 ≤ y1 ∧ y1 ≤ 9223372036854775807) ∧ ((-9223372036854775808 ≤ x2 ∧ x2 ≤ 9223372036854775807) ∧ -9223372036854775808 ≤ y2 ∧ y2 ≤ 9223372036854775807)
set_option maxRecDepth 100000 in
set_option maxHeartbeats 4000000 in
theorem iParted (wd at_ : Int) (a : Option Addr) (cap : Nat) (ps : List (Int × Int)) (g : Nat) (caps : Array Value) (r2 : Bool) (x1 y1 x2 y2 : Int) (w : World) (hR : InRow w a ps.length cap ps) (hl : ps.length ≤ 1048576)
    (hE : ∀ args w, (callFunc g args).run Try.prog w = .ok (.enter g args) w)
    (hG : ∀ (k : Nat) (W : World), (k : Int) = at_ → k < ps.length → Below w.heap.size w W → Calls Try.prog g (#[.agg #[.int .i64 (ps.getD k (0, 0)).1, .int .i64 (ps.getD k (0, 0)).2]] ++ caps) W fun e W' => e = .returned (pair2V r2 x1 y1 x2 y2) ∧ Below W.heap.size W W')
    (hf : r2 = true → fit4 x1 y1 x2 y2) :
    Calls Try.prog 52 #[.int .i64 wd, .agg #[.slice a ps.length cap], .int .i64 at_, .func (.func g) #[] caps] w fun e w' => BR2 w.heap.size w' e (inB wd at_ ps && r2) (ps.set at_.toNat (x1, y1)) (ps.set at_.toNat (x2, y2)) ∧ Below w.heap.size w w' := by
  have hlen : ps.length ≤ maxLen := Nat.le_trans hR.2.1 hR.2.2.1
  have hfp := hR.2.2.2.1
  have hB : Below w.heap.size w (((w.alloc (.cells #[.slice a ps.length cap] 25)).alloc (.cells #[.slice none 0 0] 25)).alloc (.cells #[.slice none 0 0] 25)) := (by repeat (first | exact Below.refl _ _ | refine Below.drew ?_ | refine old_alloc ?_ _ | refine old_trans ?_ (by assumption)))
  have K : Cel1 (((w.alloc (.cells #[.slice a ps.length cap] 25)).alloc (.cells #[.slice none 0 0] 25)).alloc (.cells #[.slice none 0 0] 25)) w.heap.size (.slice a ps.length cap) := ((Cel1.made w _ rfl _ _).alloc _).alloc _
  have N1 : Cel1 (((w.alloc (.cells #[.slice a ps.length cap] 25)).alloc (.cells #[.slice none 0 0] 25)).alloc (.cells #[.slice none 0 0] 25)) (w.heap.size + 1) (.slice none 0 0) := (Cel1.made _ _ (by simp) _ _).alloc _
  have N2 : Cel1 (((w.alloc (.cells #[.slice a ps.length cap] 25)).alloc (.cells #[.slice none 0 0] 25)).alloc (.cells #[.slice none 0 0] 25)) (w.heap.size + 1 + 1) (.slice none 0 0) := Cel1.made _ _ (by simp) _ _
  have OK := hd (fun w' (h : Below w.heap.size w w') => iBoxOk wd a ps.length cap ps w' (hR.old h))
  generalize hW0 : (((w.alloc (.cells #[.slice a ps.length cap] 25)).alloc (.cells #[.slice none 0 0] 25)).alloc (.cells #[.slice none 0 0] 25)) = V0 at *
  obtain ⟨k0, k1, k2⟩ := id K
  cases hok : okRow wd ps
  · have e : inB wd at_ ps = false := by unfold inB; rw [hok]; rfl
    rw [e, Bool.false_and]
    rw [hok] at OK
    clear e hok
    go_enter Try.func52, Try.ntmps52
    go_wp2_with fail
    refine (OK.out _ hB).mono ?_
    rintro ev w1 ⟨rfl, hb1⟩
    replace K := K.later hb1
    replace N1 := N1.later hb1
    replace N2 := N2.later hb1
    replace hB := old_trans hB hb1
    clear k0 k1 k2
    obtain ⟨n10, n11, n12⟩ := id N1
    obtain ⟨n20, n21, n22⟩ := id N2
    obtain ⟨k0, k1, k2⟩ := id K
    go_wp2
    have P1 := (N1.set (.slice none 0 0)).aside (w.heap.size + 1 + 1) (by omega) (.slice none 0 0)
    have P2 := (N2.aside (w.heap.size + 1) (by omega) (.slice none 0 0)).set (.slice none 0 0)
    have hBf := Below.aside (Below.aside hB (w.heap.size + 1) (by omega) (.slice none 0 0)) (w.heap.size + 1 + 1) (by omega) (.slice none 0 0)
    refine bodyPost_ret (v := .tuple #[.agg #[.slice none 0 0], .agg #[.slice none 0 0], .bool false]) ?_ rfl ⟨BR2.no _ _ _ _, hBf⟩
    simp [results, Try.results52, go_sem, P1.1, P2.1]
  rw [hok] at OK
  by_cases hin : 0 ≤ at_ ∧ at_ < (ps.length : Int)
  case neg =>
    have e : inB wd at_ ps = false := by unfold inB; rw [hok, decide_eq_false hin]; rfl
    rw [e, Bool.false_and]
    clear e hok
    have hin' : at_ < 0 ∨ (¬ at_ < 0 ∧ at_ ≥ (ps.length : Int)) := by omega
    clear hin
    go_enter Try.func52, Try.ntmps52
    go_wp2_with fail
    refine (OK.out _ hB).mono ?_
    rintro ev w1 ⟨rfl, hb1⟩
    replace K := K.later hb1
    replace N1 := N1.later hb1
    replace N2 := N2.later hb1
    replace hB := old_trans hB hb1
    clear k0 k1 k2
    obtain ⟨n10, n11, n12⟩ := id N1
    obtain ⟨n20, n21, n22⟩ := id N2
    obtain ⟨k0, k1, k2⟩ := id K
    rcases hin' with hin' | ⟨hin1, hin2⟩
    all_goals
      go_wp2
      have P1 := (N1.set (.slice none 0 0)).aside (w.heap.size + 1 + 1) (by omega) (.slice none 0 0)
      have P2 := (N2.aside (w.heap.size + 1) (by omega) (.slice none 0 0)).set (.slice none 0 0)
      have hBf := Below.aside (Below.aside hB (w.heap.size + 1) (by omega) (.slice none 0 0)) (w.heap.size + 1 + 1) (by omega) (.slice none 0 0)
      refine bodyPost_ret (v := .tuple #[.agg #[.slice none 0 0], .agg #[.slice none 0 0], .bool false]) ?_ rfl ⟨BR2.no _ _ _ _, hBf⟩
      simp [results, Try.results52, go_sem, P1.1, P2.1]

  obtain ⟨k, rfl⟩ := Int.eq_ofNat_of_zero_le hin.1
  have hk : k < ps.length := by omega
  have e : inB wd (k : Int) ps = true := by unfold inB; rw [hok, decide_eq_true hin]; rfl
  rw [e, Bool.true_and, Int.toNat_natCast]
  clear e hok
  have hi1 : ¬ (k : Int) < 0 := by omega
  have hi2 : ¬ (k : Int) ≥ (ps.length : Int) := by omega
  have FV := hd (fun W (h : Below w.heap.size w W) => hG k W rfl hk h)
  have R0 := hR.old hB
  obtain ⟨b, off, x, y, rfl, hbl, hx, hxf, c0, c1⟩ := R0.at hk
  rw [hx] at FV
  clear c0 c1 R0 hxf
  cases hr2 : r2
  · rw [hr2] at FV
    go_enter Try.func52, Try.ntmps52
    go_wp2_with fail
    refine (OK.out _ hB).mono ?_
    rintro ev w1 ⟨rfl, hb1⟩
    replace K := K.later hb1
    replace N1 := N1.later hb1
    replace N2 := N2.later hb1
    replace hB := old_trans hB hb1
    obtain ⟨b', off', x', y', e', -, hx', -, c0, c1⟩ := (hR.old hB).at hk
    injection e' with e'; injection e' with e1 e2; subst e1 e2
    rw [hx] at hx'; injection hx' with e1 e2; subst e1 e2
    clear k0 k1 k2
    obtain ⟨k0, k1, k2⟩ := id K
    go_wp2_with fail
    refine (FV.out _ hB).mono ?_
    rintro ev w2 ⟨rfl, hb2⟩
    replace K := K.later hb2
    replace N1 := N1.later hb2
    replace N2 := N2.later hb2
    replace hB := old_trans hB hb2
    clear k0 k1 k2 c0 c1
    obtain ⟨n10, n11, n12⟩ := id N1
    obtain ⟨n20, n21, n22⟩ := id N2
    rw [show pair2V false x1 y1 x2 y2 = .tuple #[.agg #[.int .i64 0, .int .i64 0], .agg #[.int .i64 0, .int .i64 0], .bool false] from rfl]
    have PA := (N1.alloc (.cells #[.int .i64 0, .int .i64 0] 42)).alloc (.cells #[.int .i64 0, .int .i64 0] 42)
    have PB := (N2.alloc (.cells #[.int .i64 0, .int .i64 0] 42)).alloc (.cells #[.int .i64 0, .int .i64 0] 42)
    have hBa := old_alloc (old_alloc hB (.cells #[.int .i64 0, .int .i64 0] 42)) (.cells #[.int .i64 0, .int .i64 0] 42)
    have d1 : w.heap.size + 1 ≠ w2.heap.size := by omega
    have d2 : w.heap.size + 1 ≠ w2.heap.size + 1 := by omega
    have d3 : w.heap.size + 1 + 1 ≠ w2.heap.size := by omega
    have d5 : w.heap.size ≠ w2.heap.size := by omega
    have d6 : w2.heap.size ≠ w.heap.size + 1 := by omega
    have d7 : w2.heap.size ≠ w.heap.size + 1 + 1 := by omega
    have d8 : w2.heap.size ≠ w.heap.size := by omega
    clear d2
    have pc1 := PA.1
    have pf1 := PA.2.1
    have pc2 := PB.1
    have pf2 := PB.2.1
    go_wp2
    have P1 := (PA.set (.slice none 0 0)).aside (w.heap.size + 1 + 1) (by omega) (.slice none 0 0)
    have P2 := (PB.aside (w.heap.size + 1) (by omega) (.slice none 0 0)).set (.slice none 0 0)
    have hBf := Below.aside (Below.aside hBa (w.heap.size + 1) (by omega) (.slice none 0 0)) (w.heap.size + 1 + 1) (by omega) (.slice none 0 0)
    refine bodyPost_ret (v := .tuple #[.agg #[.slice none 0 0], .agg #[.slice none 0 0], .bool false]) ?_ rfl ⟨BR2.no _ _ _ _, hBf⟩
    simp [results, Try.results52, go_sem, P1.1, P2.1]
  · rw [hr2] at FV
    obtain ⟨hf1, hf2⟩ := hf hr2
    have F1 := hd (fits_set hfp k hf1)
    have F2 := hd (fits_set hfp k hf2)
    have B1 := hd (fun W (h : Below w.heap.size w W) => iBoxWith (some ⟨b, off, none⟩) cap k ps x1 y1 W (hR.old h) hk hl)
    have B2 := hd (fun W (h : Below w.heap.size w W) => iBoxWith (some ⟨b, off, none⟩) cap k ps x2 y2 W (hR.old h) hk hl)
    clear hf1 hf2
    go_enter Try.func52, Try.ntmps52
    go_wp2_with fail
    refine (OK.out _ hB).mono ?_
    rintro ev w1 ⟨rfl, hb1⟩
    replace K := K.later hb1
    replace N1 := N1.later hb1
    replace N2 := N2.later hb1
    replace hB := old_trans hB hb1
    obtain ⟨b', off', x', y', e', -, hx', -, c0, c1⟩ := (hR.old hB).at hk
    injection e' with e'; injection e' with e1 e2; subst e1 e2
    rw [hx] at hx'; injection hx' with e1 e2; subst e1 e2
    clear k0 k1 k2
    obtain ⟨k0, k1, k2⟩ := id K
    go_wp2_with fail
    refine (FV.out _ hB).mono ?_
    rintro ev w2 ⟨rfl, hb2⟩
    clear k0 k1 k2 c0 c1
    have K3 := ((K.later hb2).alloc (.cells #[.int .i64 x1, .int .i64 y1] 42)).alloc (.cells #[.int .i64 x2, .int .i64 y2] 42)
    have M1 := ((N1.later hb2).alloc (.cells #[.int .i64 x1, .int .i64 y1] 42)).alloc (.cells #[.int .i64 x2, .int .i64 y2] 42)
    have M2 := ((N2.later hb2).alloc (.cells #[.int .i64 x1, .int .i64 y1] 42)).alloc (.cells #[.int .i64 x2, .int .i64 y2] 42)
    have Q1 := (Cel2.made w2 _ rfl (.int .i64 x1) (.int .i64 y1) 42).alloc (.cells #[.int .i64 x2, .int .i64 y2] 42)
    have Q2 := Cel2.made (w2.alloc (.cells #[.int .i64 x1, .int .i64 y1] 42)) (w2.heap.size + 1) (by simp) (.int .i64 x2) (.int .i64 y2) 42
    have hB3 := old_alloc (old_alloc (old_trans hB hb2) (.cells #[.int .i64 x1, .int .i64 y1] 42)) (.cells #[.int .i64 x2, .int .i64 y2] 42)
    rw [show pair2V true x1 y1 x2 y2 = .tuple #[.agg #[.int .i64 x1, .int .i64 y1], .agg #[.int .i64 x2, .int .i64 y2], .bool true] from rfl]
    have m1 := N1.later hb2
    have m2 := N2.later hb2
    have m1l := m1.2.2
    have m2l := m2.2.2
    obtain ⟨k0, k1, k2⟩ := id (K.later hb2)
    have d1 : w.heap.size + 1 ≠ w2.heap.size := by omega
    have d3 : w.heap.size + 1 + 1 ≠ w2.heap.size := by omega
    have d5 : w.heap.size ≠ w2.heap.size := by omega
    have d6 : w2.heap.size ≠ w.heap.size + 1 := by omega
    have d7 : w2.heap.size ≠ w.heap.size + 1 + 1 := by omega
    have d8 : w2.heap.size ≠ w.heap.size := by omega
    clear K N1 N2 hB m1 m2
    go_wp2_with fail
    generalize hW3 : (w2.alloc (.cells #[.int .i64 x1, .int .i64 y1] 42)).alloc (.cells #[.int .i64 x2, .int .i64 y2] 42) = W3 at *
    have s3 : W3.heap.size = w2.heap.size + 1 + 1 := by rw [← hW3]; simp
    clear hW3 k0 k1 k2
    obtain ⟨k0, k1, k2⟩ := id K3
    obtain ⟨q0, q1, q2, q3, q4⟩ := id Q1
    obtain ⟨r0, r1, r2, r3, r4⟩ := id Q2
    obtain ⟨u0, u1, u2⟩ := id M1
    obtain ⟨v0, v1, v2⟩ := id M2
    go_region_held3 (fun w' => w'.cell? ⟨w.heap.size, 0, none⟩ = some (.slice (some ⟨b, off, none⟩) ps.length cap) ∧ w'.cell? ⟨w2.heap.size, 0, none⟩ = some (.int .i64 x1) ∧ w'.cell? ⟨w2.heap.size, 1, none⟩ = some (.int .i64 y1) ∧ w'.cell? ⟨w2.heap.size + 1, 0, none⟩ = some (.int .i64 x2) ∧ w'.cell? ⟨w2.heap.size + 1, 1, none⟩ = some (.int .i64 y2)) (go_keep) (first | (go_at_call_of 80 (Value.agg #[.int .i64 x1, .int .i64 y1]); refine (B1.out _ (Below.drew hB3)).mono ?_; rintro ev w4 ⟨⟨g1, rfl, gg1, G1⟩, hb4⟩; have K4 := K3.drew.later hb4; have Q14 := Q1.drew.later hb4; have Q24 := Q2.drew.later hb4; have M14 := M1.drew.later hb4; have M24 := M2.drew.later hb4; have hB4 := old_trans (Below.drew hB3) hb4; obtain ⟨k40, k41, k42⟩ := id K4; obtain ⟨q40, q41, q42, q43, q44⟩ := id Q14; obtain ⟨r40, r41, r42, r43, r44⟩ := id Q24) | (go_at_call_of 80 (Value.agg #[.int .i64 x2, .int .i64 y2]); refine (B2.out _ hB4).mono ?_; rintro ev w5 ⟨⟨g2, rfl, gg2, G2⟩, hb5⟩; have K5 := K4.later hb5; have Q15 := Q14.later hb5; have Q25 := Q24.later hb5; have M15 := M14.later hb5; have M25 := M24.later hb5; have hB5 := old_trans hB4 hb5; obtain ⟨k50, k51, k52⟩ := id K5; obtain ⟨q50, q51, q52, q53, q54⟩ := id Q15; obtain ⟨r50, r51, r52, r53, r54⟩ := id Q25; obtain ⟨u50, u51, u52⟩ := id M15; obtain ⟨v50, v51, v52⟩ := id M25; have kz := ((K5.aside (w.heap.size + 1) (by omega) (.slice (some ⟨g1, 0, none⟩) ps.length ps.length)).aside (w.heap.size + 1 + 1) (by omega) (.slice (some ⟨g2, 0, none⟩) ps.length ps.length)).1))
    all_goals
      have s4 := hb4.size
      have O1 : OB w5 w.heap.size (some ⟨g1, 0, none⟩) ps.length (ps.set k (x1, y1)) := ⟨F1.out, by simp, hlen, .inr ⟨g1, rfl, by simp at gg1; omega, G1.old hb5⟩⟩
      have O2 : OB w5 w.heap.size (some ⟨g2, 0, none⟩) ps.length (ps.set k (x2, y2)) := ⟨F2.out, by simp, hlen, .inr ⟨g2, rfl, by simp at gg1 gg2; omega, G2⟩⟩
      have hg1 : w.heap.size + 1 + 1 < g1 := by simp at gg1; omega
      have hg1' := G1.1
      have hg2 : g1 < g2 := by omega
      have O1' := (O1.set (w.heap.size + 1) (fun q e => by injection e with e; subst e; show g1 ≠ _; omega) (.slice (some ⟨g1, 0, none⟩) ps.length ps.length)).set (w.heap.size + 1 + 1) (fun q e => by injection e with e; subst e; show g1 ≠ _; omega) (.slice (some ⟨g2, 0, none⟩) ps.length ps.length)
      have O2' := (O2.set (w.heap.size + 1) (fun q e => by injection e with e; subst e; show g2 ≠ _; omega) (.slice (some ⟨g1, 0, none⟩) ps.length ps.length)).set (w.heap.size + 1 + 1) (fun q e => by injection e with e; subst e; show g2 ≠ _; omega) (.slice (some ⟨g2, 0, none⟩) ps.length ps.length)
      have P1 := (M15.set (.slice (some ⟨g1, 0, none⟩) ps.length ps.length)).aside (w.heap.size + 1 + 1) (by omega) (.slice (some ⟨g2, 0, none⟩) ps.length ps.length)
      have P2 := (M25.aside (w.heap.size + 1) (by omega) (.slice (some ⟨g1, 0, none⟩) ps.length ps.length)).set (.slice (some ⟨g2, 0, none⟩) ps.length ps.length)
      have hBf := Below.aside (Below.aside hB5 (w.heap.size + 1) (by omega) (.slice (some ⟨g1, 0, none⟩) ps.length ps.length)) (w.heap.size + 1 + 1) (by omega) (.slice (some ⟨g2, 0, none⟩) ps.length ps.length)
      have hY := BR2.yes O1' O2' (by omega)
      rw [List.length_set, List.length_set] at hY
      go_wp2
      refine bodyPost_ret (v := .tuple #[.agg #[.slice (some ⟨g1, 0, none⟩) ps.length ps.length], .agg #[.slice (some ⟨g2, 0, none⟩) ps.length ps.length], .bool true]) ?_ rfl ⟨hY, hBf⟩
      simp [results, Try.results52, go_sem, P1.1, P2.1]
end Go.Proofs.Ytpnfkigeagbhpaa

/- Two boxes of one, by halving one coordinate: by the specification and by the program. Condition: 2^20 pairs at most. -/
namespace Go.Proofs.Ytpnfkigeagbhpaa
open Go.RowKit
set_option linter.unusedVariables false
set_option maxRecDepth 100000

set_option maxRecDepth 100000 in
set_option maxHeartbeats 4000000 in
theorem sSplitG (wd at_ : Int) (a : Option Addr) (cap : Nat) (ps : List (Int × Int)) (r2 : Bool) (x1 y1 x2 y2 : Int) (w : World) (hR : InRow w a ps.length cap ps) (hl : ps.length ≤ 1048576)
    (hG : ∀ (k : Nat) (W : World), (k : Int) = at_ → k < ps.length → Below w.heap.size w W → Calls Try.prog 55 #[.int .i64 wd, .agg #[.int .i64 (ps.getD k (0, 0)).1, .int .i64 (ps.getD k (0, 0)).2]] W fun e W' => e = .returned (pair2V r2 x1 y1 x2 y2) ∧ Below W.heap.size W W')
    (hf : r2 = true → fit4 x1 y1 x2 y2) :
    Calls Try.prog 21 #[.int .i64 wd, .agg #[.slice a ps.length cap], .int .i64 at_] w fun e w' => BR2 w.heap.size w' e (inB wd at_ ps && r2) (ps.set at_.toNat (x1, y1)) (ps.set at_.toNat (x2, y2)) ∧ Below w.heap.size w w' := by
  have hlen : ps.length ≤ maxLen := Nat.le_trans hR.2.1 hR.2.2.1
  have hfp := hR.2.2.2.1
  have hB : Below w.heap.size w (((w.alloc (.cells #[.slice a ps.length cap] 25)).alloc (.cells #[.slice none 0 0] 25)).alloc (.cells #[.slice none 0 0] 25)) := (by repeat (first | exact Below.refl _ _ | refine Below.drew ?_ | refine old_alloc ?_ _ | refine old_trans ?_ (by assumption)))
  have K : Cel1 (((w.alloc (.cells #[.slice a ps.length cap] 25)).alloc (.cells #[.slice none 0 0] 25)).alloc (.cells #[.slice none 0 0] 25)) w.heap.size (.slice a ps.length cap) := ((Cel1.made w _ rfl _ _).alloc _).alloc _
  have N1 : Cel1 (((w.alloc (.cells #[.slice a ps.length cap] 25)).alloc (.cells #[.slice none 0 0] 25)).alloc (.cells #[.slice none 0 0] 25)) (w.heap.size + 1) (.slice none 0 0) := (Cel1.made _ _ (by simp) _ _).alloc _
  have N2 : Cel1 (((w.alloc (.cells #[.slice a ps.length cap] 25)).alloc (.cells #[.slice none 0 0] 25)).alloc (.cells #[.slice none 0 0] 25)) (w.heap.size + 1 + 1) (.slice none 0 0) := Cel1.made _ _ (by simp) _ _
  have OK := hd (fun w' (h : Below w.heap.size w w') => sBoxOk wd a ps.length cap ps w' (hR.old h))
  generalize hW0 : (((w.alloc (.cells #[.slice a ps.length cap] 25)).alloc (.cells #[.slice none 0 0] 25)).alloc (.cells #[.slice none 0 0] 25)) = V0 at *
  obtain ⟨k0, k1, k2⟩ := id K
  cases hok : okRow wd ps
  · have e : inB wd at_ ps = false := by unfold inB; rw [hok]; rfl
    rw [e, Bool.false_and]
    rw [hok] at OK
    clear e hok
    go_enter Try.func21, Try.ntmps21
    go_wp2_with fail
    refine (OK.out _ hB).mono ?_
    rintro ev w1 ⟨rfl, hb1⟩
    replace K := K.later hb1
    replace N1 := N1.later hb1
    replace N2 := N2.later hb1
    replace hB := old_trans hB hb1
    clear k0 k1 k2
    obtain ⟨n10, n11, n12⟩ := id N1
    obtain ⟨n20, n21, n22⟩ := id N2
    obtain ⟨k0, k1, k2⟩ := id K
    go_wp2
    have P1 := (N1.set (.slice none 0 0)).aside (w.heap.size + 1 + 1) (by omega) (.slice none 0 0)
    have P2 := (N2.aside (w.heap.size + 1) (by omega) (.slice none 0 0)).set (.slice none 0 0)
    have hBf := Below.aside (Below.aside hB (w.heap.size + 1) (by omega) (.slice none 0 0)) (w.heap.size + 1 + 1) (by omega) (.slice none 0 0)
    refine bodyPost_ret (v := .tuple #[.agg #[.slice none 0 0], .agg #[.slice none 0 0], .bool false]) ?_ rfl ⟨BR2.no _ _ _ _, hBf⟩
    simp [results, Try.results21, go_sem, P1.1, P2.1]
  rw [hok] at OK
  by_cases hin : 0 ≤ at_ ∧ at_ < (ps.length : Int)
  case neg =>
    have e : inB wd at_ ps = false := by unfold inB; rw [hok, decide_eq_false hin]; rfl
    rw [e, Bool.false_and]
    clear e hok
    have hin' : at_ < 0 ∨ (¬ at_ < 0 ∧ at_ ≥ (ps.length : Int)) := by omega
    clear hin
    go_enter Try.func21, Try.ntmps21
    go_wp2_with fail
    refine (OK.out _ hB).mono ?_
    rintro ev w1 ⟨rfl, hb1⟩
    replace K := K.later hb1
    replace N1 := N1.later hb1
    replace N2 := N2.later hb1
    replace hB := old_trans hB hb1
    clear k0 k1 k2
    obtain ⟨n10, n11, n12⟩ := id N1
    obtain ⟨n20, n21, n22⟩ := id N2
    obtain ⟨k0, k1, k2⟩ := id K
    rcases hin' with hin' | ⟨hin1, hin2⟩
    all_goals
      go_wp2
      have P1 := (N1.set (.slice none 0 0)).aside (w.heap.size + 1 + 1) (by omega) (.slice none 0 0)
      have P2 := (N2.aside (w.heap.size + 1) (by omega) (.slice none 0 0)).set (.slice none 0 0)
      have hBf := Below.aside (Below.aside hB (w.heap.size + 1) (by omega) (.slice none 0 0)) (w.heap.size + 1 + 1) (by omega) (.slice none 0 0)
      refine bodyPost_ret (v := .tuple #[.agg #[.slice none 0 0], .agg #[.slice none 0 0], .bool false]) ?_ rfl ⟨BR2.no _ _ _ _, hBf⟩
      simp [results, Try.results21, go_sem, P1.1, P2.1]

  obtain ⟨k, rfl⟩ := Int.eq_ofNat_of_zero_le hin.1
  have hk : k < ps.length := by omega
  have e : inB wd (k : Int) ps = true := by unfold inB; rw [hok, decide_eq_true hin]; rfl
  rw [e, Bool.true_and, Int.toNat_natCast]
  clear e hok
  have hi1 : ¬ (k : Int) < 0 := by omega
  have hi2 : ¬ (k : Int) ≥ (ps.length : Int) := by omega
  have FV := hd (fun W (h : Below w.heap.size w W) => hG k W rfl hk h)
  have R0 := hR.old hB
  obtain ⟨b, off, x, y, rfl, hbl, hx, hxf, c0, c1⟩ := R0.at hk
  rw [hx] at FV
  clear c0 c1 R0 hxf
  cases hr2 : r2
  · rw [hr2] at FV
    go_enter Try.func21, Try.ntmps21
    go_wp2_with fail
    refine (OK.out _ hB).mono ?_
    rintro ev w1 ⟨rfl, hb1⟩
    replace K := K.later hb1
    replace N1 := N1.later hb1
    replace N2 := N2.later hb1
    replace hB := old_trans hB hb1
    obtain ⟨b', off', x', y', e', -, hx', -, c0, c1⟩ := (hR.old hB).at hk
    injection e' with e'; injection e' with e1 e2; subst e1 e2
    rw [hx] at hx'; injection hx' with e1 e2; subst e1 e2
    clear k0 k1 k2
    obtain ⟨k0, k1, k2⟩ := id K
    go_wp2_with fail
    refine (FV.out _ hB).mono ?_
    rintro ev w2 ⟨rfl, hb2⟩
    replace K := K.later hb2
    replace N1 := N1.later hb2
    replace N2 := N2.later hb2
    replace hB := old_trans hB hb2
    clear k0 k1 k2 c0 c1
    obtain ⟨n10, n11, n12⟩ := id N1
    obtain ⟨n20, n21, n22⟩ := id N2
    rw [show pair2V false x1 y1 x2 y2 = .tuple #[.agg #[.int .i64 0, .int .i64 0], .agg #[.int .i64 0, .int .i64 0], .bool false] from rfl]
    have PA := (N1.alloc (.cells #[.int .i64 0, .int .i64 0] 42)).alloc (.cells #[.int .i64 0, .int .i64 0] 42)
    have PB := (N2.alloc (.cells #[.int .i64 0, .int .i64 0] 42)).alloc (.cells #[.int .i64 0, .int .i64 0] 42)
    have hBa := old_alloc (old_alloc hB (.cells #[.int .i64 0, .int .i64 0] 42)) (.cells #[.int .i64 0, .int .i64 0] 42)
    have d1 : w.heap.size + 1 ≠ w2.heap.size := by omega
    have d2 : w.heap.size + 1 ≠ w2.heap.size + 1 := by omega
    have d3 : w.heap.size + 1 + 1 ≠ w2.heap.size := by omega
    have d5 : w.heap.size ≠ w2.heap.size := by omega
    have d6 : w2.heap.size ≠ w.heap.size + 1 := by omega
    have d7 : w2.heap.size ≠ w.heap.size + 1 + 1 := by omega
    have d8 : w2.heap.size ≠ w.heap.size := by omega
    clear d2
    have pc1 := PA.1
    have pf1 := PA.2.1
    have pc2 := PB.1
    have pf2 := PB.2.1
    go_wp2
    have P1 := (PA.set (.slice none 0 0)).aside (w.heap.size + 1 + 1) (by omega) (.slice none 0 0)
    have P2 := (PB.aside (w.heap.size + 1) (by omega) (.slice none 0 0)).set (.slice none 0 0)
    have hBf := Below.aside (Below.aside hBa (w.heap.size + 1) (by omega) (.slice none 0 0)) (w.heap.size + 1 + 1) (by omega) (.slice none 0 0)
    refine bodyPost_ret (v := .tuple #[.agg #[.slice none 0 0], .agg #[.slice none 0 0], .bool false]) ?_ rfl ⟨BR2.no _ _ _ _, hBf⟩
    simp [results, Try.results21, go_sem, P1.1, P2.1]
  · rw [hr2] at FV
    obtain ⟨hf1, hf2⟩ := hf hr2
    have F1 := hd (fits_set hfp k hf1)
    have F2 := hd (fits_set hfp k hf2)
    have B1 := hd (fun W (h : Below w.heap.size w W) => sWith (some ⟨b, off, none⟩) cap k ps x1 y1 W (hR.old h) hk hl)
    have B2 := hd (fun W (h : Below w.heap.size w W) => sWith (some ⟨b, off, none⟩) cap k ps x2 y2 W (hR.old h) hk hl)
    clear hf1 hf2
    go_enter Try.func21, Try.ntmps21
    go_wp2_with fail
    refine (OK.out _ hB).mono ?_
    rintro ev w1 ⟨rfl, hb1⟩
    replace K := K.later hb1
    replace N1 := N1.later hb1
    replace N2 := N2.later hb1
    replace hB := old_trans hB hb1
    obtain ⟨b', off', x', y', e', -, hx', -, c0, c1⟩ := (hR.old hB).at hk
    injection e' with e'; injection e' with e1 e2; subst e1 e2
    rw [hx] at hx'; injection hx' with e1 e2; subst e1 e2
    clear k0 k1 k2
    obtain ⟨k0, k1, k2⟩ := id K
    go_wp2_with fail
    refine (FV.out _ hB).mono ?_
    rintro ev w2 ⟨rfl, hb2⟩
    clear k0 k1 k2 c0 c1
    have K3 := ((K.later hb2).alloc (.cells #[.int .i64 x1, .int .i64 y1] 42)).alloc (.cells #[.int .i64 x2, .int .i64 y2] 42)
    have M1 := ((N1.later hb2).alloc (.cells #[.int .i64 x1, .int .i64 y1] 42)).alloc (.cells #[.int .i64 x2, .int .i64 y2] 42)
    have M2 := ((N2.later hb2).alloc (.cells #[.int .i64 x1, .int .i64 y1] 42)).alloc (.cells #[.int .i64 x2, .int .i64 y2] 42)
    have Q1 := (Cel2.made w2 _ rfl (.int .i64 x1) (.int .i64 y1) 42).alloc (.cells #[.int .i64 x2, .int .i64 y2] 42)
    have Q2 := Cel2.made (w2.alloc (.cells #[.int .i64 x1, .int .i64 y1] 42)) (w2.heap.size + 1) (by simp) (.int .i64 x2) (.int .i64 y2) 42
    have hB3 := old_alloc (old_alloc (old_trans hB hb2) (.cells #[.int .i64 x1, .int .i64 y1] 42)) (.cells #[.int .i64 x2, .int .i64 y2] 42)
    rw [show pair2V true x1 y1 x2 y2 = .tuple #[.agg #[.int .i64 x1, .int .i64 y1], .agg #[.int .i64 x2, .int .i64 y2], .bool true] from rfl]
    have m1 := N1.later hb2
    have m2 := N2.later hb2
    have m1l := m1.2.2
    have m2l := m2.2.2
    obtain ⟨k0, k1, k2⟩ := id (K.later hb2)
    have d1 : w.heap.size + 1 ≠ w2.heap.size := by omega
    have d3 : w.heap.size + 1 + 1 ≠ w2.heap.size := by omega
    have d5 : w.heap.size ≠ w2.heap.size := by omega
    have d6 : w2.heap.size ≠ w.heap.size + 1 := by omega
    have d7 : w2.heap.size ≠ w.heap.size + 1 + 1 := by omega
    have d8 : w2.heap.size ≠ w.heap.size := by omega
    clear K N1 N2 hB m1 m2
    go_wp2_with fail
    generalize hW3 : (w2.alloc (.cells #[.int .i64 x1, .int .i64 y1] 42)).alloc (.cells #[.int .i64 x2, .int .i64 y2] 42) = W3 at *
    have s3 : W3.heap.size = w2.heap.size + 1 + 1 := by rw [← hW3]; simp
    clear hW3 k0 k1 k2
    obtain ⟨k0, k1, k2⟩ := id K3
    obtain ⟨q0, q1, q2, q3, q4⟩ := id Q1
    obtain ⟨r0, r1, r2, r3, r4⟩ := id Q2
    obtain ⟨u0, u1, u2⟩ := id M1
    obtain ⟨v0, v1, v2⟩ := id M2
    go_region_held3 (fun w' => w'.cell? ⟨w.heap.size, 0, none⟩ = some (.slice (some ⟨b, off, none⟩) ps.length cap) ∧ w'.cell? ⟨w2.heap.size, 0, none⟩ = some (.int .i64 x1) ∧ w'.cell? ⟨w2.heap.size, 1, none⟩ = some (.int .i64 y1) ∧ w'.cell? ⟨w2.heap.size + 1, 0, none⟩ = some (.int .i64 x2) ∧ w'.cell? ⟨w2.heap.size + 1, 1, none⟩ = some (.int .i64 y2)) (go_keep) (first | (go_at_call_of 56 (Value.agg #[.int .i64 x1, .int .i64 y1]); refine (B1.out _ (Below.drew hB3)).mono ?_; rintro ev w4 ⟨⟨g1, cp1, rfl, gg1, gc1, gm1, G1⟩, hb4⟩; have K4 := K3.drew.later hb4; have Q14 := Q1.drew.later hb4; have Q24 := Q2.drew.later hb4; have M14 := M1.drew.later hb4; have M24 := M2.drew.later hb4; have hB4 := old_trans (Below.drew hB3) hb4; obtain ⟨k40, k41, k42⟩ := id K4; obtain ⟨q40, q41, q42, q43, q44⟩ := id Q14; obtain ⟨r40, r41, r42, r43, r44⟩ := id Q24) | (go_at_call_of 56 (Value.agg #[.int .i64 x2, .int .i64 y2]); refine (B2.out _ hB4).mono ?_; rintro ev w5 ⟨⟨g2, cp2, rfl, gg2, gc2, gm2, G2⟩, hb5⟩; have K5 := K4.later hb5; have Q15 := Q14.later hb5; have Q25 := Q24.later hb5; have M15 := M14.later hb5; have M25 := M24.later hb5; have hB5 := old_trans hB4 hb5; obtain ⟨k50, k51, k52⟩ := id K5; obtain ⟨q50, q51, q52, q53, q54⟩ := id Q15; obtain ⟨r50, r51, r52, r53, r54⟩ := id Q25; obtain ⟨u50, u51, u52⟩ := id M15; obtain ⟨v50, v51, v52⟩ := id M25; have kz := ((K5.aside (w.heap.size + 1) (by omega) (.slice (some ⟨g1, 0, none⟩) ps.length cp1)).aside (w.heap.size + 1 + 1) (by omega) (.slice (some ⟨g2, 0, none⟩) ps.length cp2)).1))
    all_goals
      have s4 := hb4.size
      have O1 : OB w5 w.heap.size (some ⟨g1, 0, none⟩) cp1 (ps.set k (x1, y1)) := ⟨F1.out, by simpa using gc1, gm1, .inr ⟨g1, rfl, by simp at gg1; omega, G1.old hb5⟩⟩
      have O2 : OB w5 w.heap.size (some ⟨g2, 0, none⟩) cp2 (ps.set k (x2, y2)) := ⟨F2.out, by simpa using gc2, gm2, .inr ⟨g2, rfl, by simp at gg1 gg2; omega, G2⟩⟩
      have hg1 : w.heap.size + 1 + 1 < g1 := by simp at gg1; omega
      have hg1' := G1.1
      have hg2 : g1 < g2 := by omega
      have O1' := (O1.set (w.heap.size + 1) (fun q e => by injection e with e; subst e; show g1 ≠ _; omega) (.slice (some ⟨g1, 0, none⟩) ps.length cp1)).set (w.heap.size + 1 + 1) (fun q e => by injection e with e; subst e; show g1 ≠ _; omega) (.slice (some ⟨g2, 0, none⟩) ps.length cp2)
      have O2' := (O2.set (w.heap.size + 1) (fun q e => by injection e with e; subst e; show g2 ≠ _; omega) (.slice (some ⟨g1, 0, none⟩) ps.length cp1)).set (w.heap.size + 1 + 1) (fun q e => by injection e with e; subst e; show g2 ≠ _; omega) (.slice (some ⟨g2, 0, none⟩) ps.length cp2)
      have P1 := (M15.set (.slice (some ⟨g1, 0, none⟩) ps.length cp1)).aside (w.heap.size + 1 + 1) (by omega) (.slice (some ⟨g2, 0, none⟩) ps.length cp2)
      have P2 := (M25.aside (w.heap.size + 1) (by omega) (.slice (some ⟨g1, 0, none⟩) ps.length cp1)).set (.slice (some ⟨g2, 0, none⟩) ps.length cp2)
      have hBf := Below.aside (Below.aside hB5 (w.heap.size + 1) (by omega) (.slice (some ⟨g1, 0, none⟩) ps.length cp1)) (w.heap.size + 1 + 1) (by omega) (.slice (some ⟨g2, 0, none⟩) ps.length cp2)
      have hY := BR2.yes O1' O2' (by omega)
      rw [List.length_set, List.length_set] at hY
      go_wp2
      refine bodyPost_ret (v := .tuple #[.agg #[.slice (some ⟨g1, 0, none⟩) ps.length cp1], .agg #[.slice (some ⟨g2, 0, none⟩) ps.length cp2], .bool true]) ?_ rfl ⟨hY, hBf⟩
      simp [results, Try.results21, go_sem, P1.1, P2.1]
set_option maxHeartbeats 2000000 in
theorem iSplit1 (wd lo hi : Int) (l1 : -9223372036854775808 ≤ lo) (l2 : lo ≤ 9223372036854775807) (k1 : -9223372036854775808 ≤ hi) (k2 : hi ≤ 9223372036854775807) (B : Nat) (w : World) (hB : w.cell? ⟨B, 0, none⟩ = some (.int .i64 wd)) (hBl : B < w.heap.size) :
    Calls Try.prog 53 #[.agg #[.int .i64 lo, .int .i64 hi], .pointer (some ⟨B, 0, none⟩)] w fun e w' => e = .returned (pair2V (splitB wd lo hi) lo (midI lo hi) (midI lo hi) hi) ∧ Below w.heap.size w w' := by
  have E := hd (iPairSplit wd lo hi l1 l2 k1 k2)
  have hBe : Below w.heap.size w (((w.alloc (.cells #[.int .i64 lo, .int .i64 hi] 42)).alloc (.cells #[.int .i64 0, .int .i64 0] 42)).alloc (.cells #[.int .i64 0, .int .i64 0] 42)) := (by repeat (first | exact Below.refl _ _ | refine Below.drew ?_ | refine old_alloc ?_ _ | refine old_trans ?_ (by assumption)))
  have N1 : Cel2 (((w.alloc (.cells #[.int .i64 lo, .int .i64 hi] 42)).alloc (.cells #[.int .i64 0, .int .i64 0] 42)).alloc (.cells #[.int .i64 0, .int .i64 0] 42)) (w.heap.size + 1) (.int .i64 0) (.int .i64 0) := (Cel2.made _ _ (by simp) _ _ _).alloc _
  have N2 : Cel2 (((w.alloc (.cells #[.int .i64 lo, .int .i64 hi] 42)).alloc (.cells #[.int .i64 0, .int .i64 0] 42)).alloc (.cells #[.int .i64 0, .int .i64 0] 42)) (w.heap.size + 1 + 1) (.int .i64 0) (.int .i64 0) := Cel2.made _ _ (by simp) _ _ _
  have K : Cel2 (((w.alloc (.cells #[.int .i64 lo, .int .i64 hi] 42)).alloc (.cells #[.int .i64 0, .int .i64 0] 42)).alloc (.cells #[.int .i64 0, .int .i64 0] 42)) w.heap.size (.int .i64 lo) (.int .i64 hi) := ((Cel2.made _ _ rfl _ _ _).alloc _).alloc _
  have hc := (hBe.cell (p := ⟨B, 0, none⟩) hBl).trans hB
  have key : ∀ (A1 A2 A3 A4 : Int) (rr : Bool), pair2V (splitB wd lo hi) lo (midI lo hi) (midI lo hi) hi = .tuple #[.agg #[.int .i64 A1, .int .i64 A2], .agg #[.int .i64 A3, .int .i64 A4], .bool rr] → Calls Try.prog 53 #[.agg #[.int .i64 lo, .int .i64 hi], .pointer (some ⟨B, 0, none⟩)] w fun e w' => e = .returned (pair2V (splitB wd lo hi) lo (midI lo hi) (midI lo hi) hi) ∧ Below w.heap.size w w' := by
    intro A1 A2 A3 A4 rr hv
    rw [hv] at E ⊢
    clear hv
    go_enter Try.func53, Try.ntmps53
    generalize hW : (((w.alloc (.cells #[.int .i64 lo, .int .i64 hi] 42)).alloc (.cells #[.int .i64 0, .int .i64 0] 42)).alloc (.cells #[.int .i64 0, .int .i64 0] 42)) = W at *
    obtain ⟨q0, q1, q2, q3, q4⟩ := id K
    go_wp2_with fail
    refine (E.out _).mono ?_
    rintro e w1 ⟨rfl, hb1⟩
    replace N1 := N1.later hb1
    replace N2 := N2.later hb1
    have hB1 := old_trans hBe hb1
    obtain ⟨n0, n1, n2, n3, n4⟩ := id N1
    obtain ⟨m0, m1, m2, m3, m4⟩ := id N2
    go_wp2
    have P1 := (N1.stored (.int .i64 A1) (.int .i64 A2)).others (w.heap.size + 1 + 1) (by omega) (.int .i64 A3) (.int .i64 A4)
    have P2 := (N2.others (w.heap.size + 1) (by omega) (.int .i64 A1) (.int .i64 A2)).stored (.int .i64 A3) (.int .i64 A4)
    have hBf := (((hB1.setCell (p := ⟨w.heap.size + 1, 0, none⟩) (by simp) (.int .i64 A1)).setCell (p := ⟨w.heap.size + 1, 1, none⟩) (by simp) (.int .i64 A2)).setCell (p := ⟨w.heap.size + 1 + 1, 0, none⟩) (by simp; omega) (.int .i64 A3)).setCell (p := ⟨w.heap.size + 1 + 1, 1, none⟩) (by simp; omega) (.int .i64 A4)
    refine bodyPost_ret (v := .tuple #[.agg #[.int .i64 A1, .int .i64 A2], .agg #[.int .i64 A3, .int .i64 A4], .bool rr]) ?_ rfl ⟨rfl, hBf⟩
    simp [results, Try.results53, go_sem, P1.1, P1.2.1, P2.1, P2.2.1]
  rcases Bool.eq_false_or_eq_true (splitB wd lo hi) with hr | hr
  · exact key _ _ _ _ true (by rw [hr]; rfl)
  · exact key 0 0 0 0 false (by rw [hr]; rfl)
theorem BR2.stored {n0 n1 : Nat} {w' : World} {av av2 : Option Addr} {cv cv2 : Nat} {l1 l2 : List (Int × Int)} (h1 : OB w' n1 av cv l1) (h2 : OB w' n1 av2 cv2 l2) (hn : n0 ≤ n1) (b b' : Nat) (hb : b < n1) (hb' : b' < n1) (v v' : Value) : OB ((w'.setCell ⟨b, 0, none⟩ v).setCell ⟨b', 0, none⟩ v') n0 av cv l1 ∧ OB ((w'.setCell ⟨b, 0, none⟩ v).setCell ⟨b', 0, none⟩ v') n0 av2 cv2 l2 := by
  have g1 := h1.ge
  have g2 := h2.ge
  exact ⟨((h1.mono hn).set b (fun q e => by have := g1 q e; omega) v).set b' (fun q e => by have := g1 q e; omega) v', ((h2.mono hn).set b (fun q e => by have := g2 q e; omega) v).set b' (fun q e => by have := g2 q e; omega) v'⟩
set_option maxRecDepth 100000 in
set_option maxHeartbeats 4000000 in
theorem iSplitG (wd at_ : Int) (a : Option Addr) (cap : Nat) (ps : List (Int × Int)) (r2 : Bool) (x1 y1 x2 y2 : Int) (w : World) (hR : InRow w a ps.length cap ps) (hl : ps.length ≤ 1048576)
    (hG : ∀ (k : Nat) (W : World), (k : Int) = at_ → k < ps.length → W.cell? ⟨w.heap.size, 0, none⟩ = some (.int .i64 wd) → w.heap.size < W.heap.size → Calls Try.prog 53 #[.agg #[.int .i64 (ps.getD k (0, 0)).1, .int .i64 (ps.getD k (0, 0)).2], .pointer (some ⟨w.heap.size, 0, none⟩)] W fun e W' => e = .returned (pair2V r2 x1 y1 x2 y2) ∧ Below W.heap.size W W')
    (hf : r2 = true → fit4 x1 y1 x2 y2) :
    Calls Try.prog 20 #[.int .i64 wd, .agg #[.slice a ps.length cap], .int .i64 at_] w fun e w' => BR2 w.heap.size w' e (inB wd at_ ps && r2) (ps.set at_.toNat (x1, y1)) (ps.set at_.toNat (x2, y2)) ∧ Below w.heap.size w w' := by
  have hB : Below w.heap.size w ((((w.alloc (.cells #[.int .i64 wd] 3)).alloc (.cells #[.slice a ps.length cap] 25)).alloc (.cells #[.slice none 0 0] 25)).alloc (.cells #[.slice none 0 0] 25)) := (by repeat (first | exact Below.refl _ _ | refine Below.drew ?_ | refine old_alloc ?_ _ | refine old_trans ?_ (by assumption)))
  have C : Cel1 ((((w.alloc (.cells #[.int .i64 wd] 3)).alloc (.cells #[.slice a ps.length cap] 25)).alloc (.cells #[.slice none 0 0] 25)).alloc (.cells #[.slice none 0 0] 25)) w.heap.size (.int .i64 wd) := (((Cel1.made w _ rfl _ _).alloc _).alloc _).alloc _
  have K : Cel1 ((((w.alloc (.cells #[.int .i64 wd] 3)).alloc (.cells #[.slice a ps.length cap] 25)).alloc (.cells #[.slice none 0 0] 25)).alloc (.cells #[.slice none 0 0] 25)) (w.heap.size + 1) (.slice a ps.length cap) := ((Cel1.made _ _ (by simp) _ _).alloc _).alloc _
  have N1 : Cel1 ((((w.alloc (.cells #[.int .i64 wd] 3)).alloc (.cells #[.slice a ps.length cap] 25)).alloc (.cells #[.slice none 0 0] 25)).alloc (.cells #[.slice none 0 0] 25)) (w.heap.size + 1 + 1) (.slice none 0 0) := (Cel1.made _ _ (by simp) _ _).alloc _
  have N2 : Cel1 ((((w.alloc (.cells #[.int .i64 wd] 3)).alloc (.cells #[.slice a ps.length cap] 25)).alloc (.cells #[.slice none 0 0] 25)).alloc (.cells #[.slice none 0 0] 25)) (w.heap.size + 1 + 1 + 1) (.slice none 0 0) := Cel1.made _ _ (by simp) _ _
  have hs : (((((w.alloc (.cells #[.int .i64 wd] 3)).alloc (.cells #[.slice a ps.length cap] 25)).alloc (.cells #[.slice none 0 0] 25)).alloc (.cells #[.slice none 0 0] 25))).heap.size = w.heap.size + 1 + 1 + 1 + 1 := by simp
  have R := hR.old hB
  generalize hW : ((((w.alloc (.cells #[.int .i64 wd] 3)).alloc (.cells #[.slice a ps.length cap] 25)).alloc (.cells #[.slice none 0 0] 25)).alloc (.cells #[.slice none 0 0] 25)) = V0 at *
  have PT := hd (iParted wd at_ a cap ps 53 #[.pointer (some ⟨w.heap.size, 0, none⟩)] r2 x1 y1 x2 y2 V0 R hl (fun _ _ => by kernel_rfl) (fun k W h1 h2 h3 => by
    have c := C.later h3
    exact hG k W h1 h2 c.1 c.2.2) hf)
  generalize (inB wd at_ ps && r2) = rr at *
  generalize ps.set at_.toNat (x1, y1) = l1 at *
  generalize ps.set at_.toNat (x2, y2) = l2 at *
  obtain ⟨c0, c1, c2⟩ := id C
  obtain ⟨k0, k1, k2⟩ := id K
  go_enter Try.func20, Try.ntmps20
  go_wp2_with fail
  refine PT.out.mono ?_
  rintro e w1 ⟨⟨av, cv, av2, cv2, rfl, O1, O2, sep⟩, hb1⟩
  replace N1 := N1.later hb1
  replace N2 := N2.later hb1
  have hB1 := old_trans hB hb1
  obtain ⟨n0, n1, n2⟩ := id N1
  obtain ⟨m0, m1, m2⟩ := id N2
  obtain ⟨L1, hL1⟩ : ∃ L1, L1 = (resL rr l1).length := ⟨_, rfl⟩
  obtain ⟨L2, hL2⟩ : ∃ L2, L2 = (resL rr l2).length := ⟨_, rfl⟩
  rw [← hL1, ← hL2]
  have hst := BR2.stored (n0 := w.heap.size) O1 O2 (by omega) (w.heap.size + 1 + 1) (w.heap.size + 1 + 1 + 1) (by omega) (by omega) (.slice av L1 cv) (.slice av2 L2 cv2)
  have P1 := (N1.set (.slice av L1 cv)).aside (w.heap.size + 1 + 1 + 1) (by omega) (.slice av2 L2 cv2)
  have P2 := (N2.aside (w.heap.size + 1 + 1) (by omega) (.slice av L1 cv)).set (.slice av2 L2 cv2)
  have hBf := Below.aside (Below.aside hB1 (w.heap.size + 1 + 1) (by omega) (.slice av L1 cv)) (w.heap.size + 1 + 1 + 1) (by omega) (.slice av2 L2 cv2)
  have hfin : Hid (∀ W, OB W w.heap.size av cv (resL rr l1) ∧ OB W w.heap.size av2 cv2 (resL rr l2) → BR2 w.heap.size W (.returned (.tuple #[.agg #[.slice av L1 cv], .agg #[.slice av2 L2 cv2], .bool rr])) rr l1 l2) := fun W h => ⟨av, cv, av2, cv2, by rw [hL1, hL2], h.1, h.2, sep⟩
  clear hL1 hL2
  go_wp2
  refine bodyPost_ret (v := .tuple #[.agg #[.slice av L1 cv], .agg #[.slice av2 L2 cv2], .bool rr]) ?_ rfl ⟨hfin.out _ hst, hBf⟩
  simp [results, Try.results20, go_sem, P1.1, P2.1]
def splX (ps : List (Int × Int)) (at_ : Int) : Int := (ps.getD at_.toNat (0, 0)).1
def splY (ps : List (Int × Int)) (at_ : Int) : Int := (ps.getD at_.toNat (0, 0)).2
def splR (wd at_ : Int) (ps : List (Int × Int)) : Bool := inB wd at_ ps && splitB wd (splX ps at_) (splY ps at_)
def splA (at_ : Int) (ps : List (Int × Int)) : List (Int × Int) := ps.set at_.toNat (splX ps at_, midI (splX ps at_) (splY ps at_))
def splZ (at_ : Int) (ps : List (Int × Int)) : List (Int × Int) := ps.set at_.toNat (midI (splX ps at_) (splY ps at_), splY ps at_)
theorem fits_getD {ps : List (Int × Int)} (h : Fits ps) (k : Nat) : (-9223372036854775808 ≤ (ps.getD k (0, 0)).1 ∧ (ps.getD k (0, 0)).1 ≤ 9223372036854775807) ∧ -9223372036854775808 ≤ (ps.getD k (0, 0)).2 ∧ (ps.getD k (0, 0)).2 ≤ 9223372036854775807 := by
  by_cases hk : k < ps.length
  · exact fits_at h hk
  · rw [List.getD_eq_getElem?_getD, List.getElem?_eq_none (by omega)]
    exact ⟨⟨by decide, by decide⟩, by decide, by decide⟩
theorem mid_fit {x y : Int} (h : (-9223372036854775808 ≤ x ∧ x ≤ 9223372036854775807) ∧ -9223372036854775808 ≤ y ∧ y ≤ 9223372036854775807) : fit4 x (midI x y) (midI x y) y := by
  unfold fit4 midI gapI
  split <;> omega
theorem sBoxSplitO (wd at_ : Int) (a : Option Addr) (cap : Nat) (ps : List (Int × Int)) (w : World) (hR : InRow w a ps.length cap ps) (hl : ps.length ≤ 1048576) :
    Calls Try.prog 21 #[.int .i64 wd, .agg #[.slice a ps.length cap], .int .i64 at_] w fun e w' => BR2 w.heap.size w' e (splR wd at_ ps) (splA at_ ps) (splZ at_ ps) ∧ Below w.heap.size w w' := by
  have hf := fits_getD hR.2.2.2.1 at_.toNat
  refine sSplitG wd at_ a cap ps _ _ _ _ _ w hR hl (fun k W hk hlt hb => ?_) (fun _ => mid_fit hf)
  subst hk
  exact sPairSplit wd _ _ hf.1.1 hf.1.2 hf.2.1 hf.2.2 W
theorem iBoxSplitO (wd at_ : Int) (a : Option Addr) (cap : Nat) (ps : List (Int × Int)) (w : World) (hR : InRow w a ps.length cap ps) (hl : ps.length ≤ 1048576) :
    Calls Try.prog 20 #[.int .i64 wd, .agg #[.slice a ps.length cap], .int .i64 at_] w fun e w' => BR2 w.heap.size w' e (splR wd at_ ps) (splA at_ ps) (splZ at_ ps) ∧ Below w.heap.size w w' := by
  have hf := fits_getD hR.2.2.2.1 at_.toNat
  refine iSplitG wd at_ a cap ps _ _ _ _ _ w hR hl (fun k W hk hlt hc hs => ?_) (fun _ => mid_fit hf)
  subst hk
  exact iSplit1 wd _ _ hf.1.1 hf.1.2 hf.2.1 hf.2.2 w.heap.size W hc hs
end Go.Proofs.Ytpnfkigeagbhpaa
