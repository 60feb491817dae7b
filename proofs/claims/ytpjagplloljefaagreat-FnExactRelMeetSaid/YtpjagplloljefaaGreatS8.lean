/- Spans: what is reckoned of two spans that are ok and not empty, by the table's row. Nothing that was there is written, if the row writes nothing. -/
import Derived.Test.YtpjagplloljefaaGreatS7
namespace Go.Proofs.YtpjagplloljefaaGreat
open Go.RowKit
set_option linter.unusedVariables false
set_option maxRecDepth 100000

theorem pok_w {wd a b : Int} (h : pokB wd a b = true) : (wd = 32 ∨ wd = 64) ∧ (-9218868437227405312 ≤ a ∧ a ≤ 9218868437227405312) ∧ (-9218868437227405312 ≤ b ∧ b ≤ 9218868437227405312) := by
  obtain ⟨h1, h2, -, -, -⟩ := pokB_in h
  exact ⟨(okB_in h1).1, okB_bd h1, okB_bd h2⟩

/-- what is reckoned of two spans, where both have numbers -/
def bothB (wd : Int) (s1 s2 : Bool) (a b c d : Int) : Bool := (s1 && pokB wd a b) && (s2 && pokB wd c d)

set_option maxHeartbeats 4000000 in
theorem iReckOf (k : Int) (wd : Int) (s1 s2 : Bool) (a b c d n : Int) (ok : Bool) (lo hi : Int) (w : World)
    (H : bothB wd s1 s2 a b c d = true → ∀ (T : TypeId) (v : Value) (w : World), Calls Tryz.prog 58 #[.agg #[.iface T v, .int .i64 (topI wd)], .int .i64 k, .agg #[.int .i64 a, .int .i64 b, .int .i64 c, .int .i64 d, .int .i64 n]] w fun e w' => (∃ x, e = .returned x ∧ Bnd w' 0 ok lo hi x) ∧ Below w.heap.size w w') :
    Calls Tryz.prog 44 #[.int .i64 wd, .int .i64 k, .agg #[.bool s1, .int .i64 a, .int .i64 b], .agg #[.bool s2, .int .i64 c, .int .i64 d], .int .i64 n] w fun e w' => (∃ x, e = .returned x ∧ Bnd w' 0 (bothB wd s1 s2 a b c d && ok) lo hi x) ∧ Below w.heap.size w w' := by
  have B1 := hd (iBoundsOf wd s1 a b)
  have B2 := hd (iBoundsOf wd s2 c d)
  have HT := hd (iTop wd)
  have HV : Hid ((s1 && pokB wd a b) = true → ∀ w, _) := hd (fun h => iValuesOf wd (pok_w (by cases s1 <;> simp_all : pokB wd a b = true)).1)
  unfold bothB at *
  replace H := hd H
  generalize (s1 && pokB wd a b) = r1 at *
  generalize (s2 && pokB wd c d) = r2 at *
  generalize topI wd = t at *
  have C1 := hd (fun w' (hS : w'.cell? ⟨w.heap.size, 0, none⟩ = some (.bool s1) ∧ w'.cell? ⟨w.heap.size, 1, none⟩ = some (.int .i64 a) ∧ w'.cell? ⟨w.heap.size, 2, none⟩ = some (.int .i64 b) ∧ w'.cell? ⟨w.heap.size + 1, 0, none⟩ = some (.bool s2) ∧ w'.cell? ⟨w.heap.size + 1, 1, none⟩ = some (.int .i64 c) ∧ w'.cell? ⟨w.heap.size + 1, 2, none⟩ = some (.int .i64 d)) => (B1.out w').mono (fun e w'' (k : _ ∧ _) => (⟨k, six_later hS k.2⟩ : (_ ∧ _) ∧ (w''.cell? ⟨w.heap.size, 0, none⟩ = some (.bool s1) ∧ w''.cell? ⟨w.heap.size, 1, none⟩ = some (.int .i64 a) ∧ w''.cell? ⟨w.heap.size, 2, none⟩ = some (.int .i64 b) ∧ w''.cell? ⟨w.heap.size + 1, 0, none⟩ = some (.bool s2) ∧ w''.cell? ⟨w.heap.size + 1, 1, none⟩ = some (.int .i64 c) ∧ w''.cell? ⟨w.heap.size + 1, 2, none⟩ = some (.int .i64 d)))))
  have C2 := hd (fun w' (hS : w'.cell? ⟨w.heap.size, 0, none⟩ = some (.bool s1) ∧ w'.cell? ⟨w.heap.size, 1, none⟩ = some (.int .i64 a) ∧ w'.cell? ⟨w.heap.size, 2, none⟩ = some (.int .i64 b) ∧ w'.cell? ⟨w.heap.size + 1, 0, none⟩ = some (.bool s2) ∧ w'.cell? ⟨w.heap.size + 1, 1, none⟩ = some (.int .i64 c) ∧ w'.cell? ⟨w.heap.size + 1, 2, none⟩ = some (.int .i64 d)) => (B2.out w').mono (fun e w'' (k : _ ∧ _) => (⟨k, six_later hS k.2⟩ : (_ ∧ _) ∧ (w''.cell? ⟨w.heap.size, 0, none⟩ = some (.bool s1) ∧ w''.cell? ⟨w.heap.size, 1, none⟩ = some (.int .i64 a) ∧ w''.cell? ⟨w.heap.size, 2, none⟩ = some (.int .i64 b) ∧ w''.cell? ⟨w.heap.size + 1, 0, none⟩ = some (.bool s2) ∧ w''.cell? ⟨w.heap.size + 1, 1, none⟩ = some (.int .i64 c) ∧ w''.cell? ⟨w.heap.size + 1, 2, none⟩ = some (.int .i64 d)))))
  clear B1 B2
  go_enter Tryz.func44, Tryz.ntmps44
  go_upto_region 1 with fail
  go_cut [11, 12] (fun s u wx => Bnd wx 0 r1 a b s ∧ Bnd wx 0 r2 c d u ∧ Below w.heap.size w wx)
  case first =>
    go_wp2_with fail
    go_region_held3 (fun w' => w'.cell? ⟨w.heap.size, 0, none⟩ = some (.bool s1) ∧ w'.cell? ⟨w.heap.size, 1, none⟩ = some (.int .i64 a) ∧ w'.cell? ⟨w.heap.size, 2, none⟩ = some (.int .i64 b) ∧ w'.cell? ⟨w.heap.size + 1, 0, none⟩ = some (.bool s2) ∧ w'.cell? ⟨w.heap.size + 1, 1, none⟩ = some (.int .i64 c) ∧ w'.cell? ⟨w.heap.size + 1, 2, none⟩ = some (.int .i64 d)) (go_keep) (first | (go_at_call_of 55 (Value.agg #[.bool s1, .int .i64 a, .int .i64 b]); refine (C1.out _ (by assumption)).mono ?_; rintro e wx ⟨⟨⟨vx, rfl, V⟩, hbx⟩, hcx⟩; replace V := V.zero; (first | have U := (by first | exact U.later hbx | exact U.drew.later hbx : Bnd wx _ _ _ _ _) | skip)) | (go_at_call_of 55 (Value.agg #[.bool s2, .int .i64 c, .int .i64 d]); refine (C2.out _ (by assumption)).mono ?_; rintro e wx ⟨⟨⟨ux, rfl, U⟩, hbx⟩, hcx⟩; replace U := U.zero; (first | have V := (by first | exact V.later hbx | exact V.drew.later hbx : Bnd wx _ _ _ _ _) | skip)))
    all_goals
      go_wp2_with fail
      go_meet
      exact ⟨(by first | exact V | exact V.drew), (by first | exact U | exact U.drew), (by repeat (first | exact Below.refl _ _ | refine Below.drew ?_ | refine Below.setCell ?_ (by first | (simp; done) | omega | (simp; omega)) _ | refine old_alloc ?_ _ | refine old_trans ?_ (by assumption)))⟩
  case rest =>
    obtain ⟨V, U, hB⟩ := hcut
    clear C1 C2
    rcases V with ⟨rfl, rfl⟩ | ⟨rfl, p, rfl, -, K⟩
    · go_wp2
      go_ret
      exact ⟨⟨_, rfl, .inl ⟨by simp, rfl⟩⟩, hB⟩
    rcases U with ⟨rfl, rfl⟩ | ⟨rfl, q, rfl, -, M⟩
    · go_wp2
      go_ret
      exact ⟨⟨_, rfl, .inl ⟨by simp, rfl⟩⟩, hB⟩
    replace HV := hd (HV.out rfl)
    replace H := hd (H.out rfl)
    go_wp2_with fail
    refine (HV.out _).mono ?_
    rintro e w1 ⟨⟨T, v, rfl⟩, hb1⟩
    replace hB := old_trans hB hb1
    replace K := K.later hb1
    replace M := M.later hb1
    clear hb1
    have hS : w1.cell? ⟨p, 0, none⟩ = some (.int .i64 a) ∧ w1.cell? ⟨p, 1, none⟩ = some (.int .i64 b) ∧ w1.cell? ⟨q, 0, none⟩ = some (.int .i64 c) ∧ w1.cell? ⟨q, 1, none⟩ = some (.int .i64 d) := ⟨K.1, K.2.1, M.1, M.2.1⟩
    have CT := hd (fun w' (hS : w'.cell? ⟨p, 0, none⟩ = some (.int .i64 a) ∧ w'.cell? ⟨p, 1, none⟩ = some (.int .i64 b) ∧ w'.cell? ⟨q, 0, none⟩ = some (.int .i64 c) ∧ w'.cell? ⟨q, 1, none⟩ = some (.int .i64 d)) => (HT.out w').mono (fun e w'' (k : _ ∧ _) => (⟨k, four_later hS k.2⟩ : (_ ∧ _) ∧ (w''.cell? ⟨p, 0, none⟩ = some (.int .i64 a) ∧ w''.cell? ⟨p, 1, none⟩ = some (.int .i64 b) ∧ w''.cell? ⟨q, 0, none⟩ = some (.int .i64 c) ∧ w''.cell? ⟨q, 1, none⟩ = some (.int .i64 d)))))
    have CR := hd (fun w' (hS : w'.cell? ⟨p, 0, none⟩ = some (.int .i64 a) ∧ w'.cell? ⟨p, 1, none⟩ = some (.int .i64 b) ∧ w'.cell? ⟨q, 0, none⟩ = some (.int .i64 c) ∧ w'.cell? ⟨q, 1, none⟩ = some (.int .i64 d)) => (H.out T v w').mono (fun e w'' (k : _ ∧ _) => (⟨k, four_later hS k.2⟩ : (_ ∧ _) ∧ (w''.cell? ⟨p, 0, none⟩ = some (.int .i64 a) ∧ w''.cell? ⟨p, 1, none⟩ = some (.int .i64 b) ∧ w''.cell? ⟨q, 0, none⟩ = some (.int .i64 c) ∧ w''.cell? ⟨q, 1, none⟩ = some (.int .i64 d)))))
    clear HT H HV K M
    obtain ⟨h0, h1, h2, h3⟩ := id hS
    go_wp2_with fail
    go_region_held3 (fun w' => w'.cell? ⟨p, 0, none⟩ = some (.int .i64 a) ∧ w'.cell? ⟨p, 1, none⟩ = some (.int .i64 b) ∧ w'.cell? ⟨q, 0, none⟩ = some (.int .i64 c) ∧ w'.cell? ⟨q, 1, none⟩ = some (.int .i64 d)) (go_keep) (first | (go_at_call 57; refine (CT.out _ (by assumption)).mono ?_; rintro e wx ⟨⟨rfl, hbx⟩, hcx⟩) | (go_at_call 58; refine (CR.out _ (by assumption)).mono ?_; rintro e wx ⟨⟨⟨zx, rfl, Z⟩, hbx⟩, hcx⟩))
    all_goals
      go_wp2
      go_ret
      exact ⟨⟨_, rfl, (by first | exact Z | exact Z.drew)⟩, (by repeat (first | exact Below.refl _ _ | refine Below.drew ?_ | refine Below.setCell ?_ (by first | (simp; done) | omega | (simp; omega)) _ | refine old_alloc ?_ _ | refine old_trans ?_ (by assumption)))⟩
end Go.Proofs.YtpjagplloljefaaGreat
