/- Literals of fractions, by the program; powers of ten by the specification. Conditions, for the program: the library's tables and its handle of errors are there. Nothing that was there is written. -/
import Derived.Test.YtmcfdkhkagkhbaaGreatDoorKR
import Derived.Test.YtmcfdkhkagkhbaaGreatDoorZP
namespace Go.Proofs.YtmcfdkhkagkhbaaGreatDoor
open Go.RowKit Go.Lib
set_option linter.unusedVariables false
set_option maxRecDepth 100000

/-- whether a fraction has a literal without a power -/
def dtB (bl : Bool) (xs ys : List Int) : Bool := fracOk bl xs ys && (!bl && decS (bt (dcL (val xs) (val ys))))
def dtT (bl : Bool) (xs ys : List Int) : ByteArray := if dtB bl xs ys then bt (dcL (val xs) (val ys)) else ⟨#[]⟩
theorem dt_no {bl : Bool} {xs ys : List Int} (h : dtB bl xs ys = false) : dtT bl xs ys = ⟨#[]⟩ := by unfold dtT; rw [h]; rfl
theorem dt_yes {bl : Bool} {xs ys : List Int} (h : dtB bl xs ys = true) : dtT bl xs ys = bt (dcL (val xs) (val ys)) := by unfold dtT; rw [h]; rfl
theorem dtB_1 {bl : Bool} {xs ys : List Int} (h : fracOk bl xs ys = false) : dtB bl xs ys = false := by unfold dtB; rw [h]; rfl
theorem dtB_2 {bl : Bool} {xs ys : List Int} (h : bl = true) : dtB bl xs ys = false := by unfold dtB; rw [h]; simp
theorem dtB_3 {bl : Bool} {xs ys : List Int} (h : decS (bt (dcL (val xs) (val ys))) = false) : dtB bl xs ys = false := by unfold dtB; rw [h]; simp
theorem dtB_4 {xs ys : List Int} (h1 : fracOk false xs ys = true) (h : decS (bt (dcL (val xs) (val ys))) = true) : dtB false xs ys = true := by unfold dtB; rw [h, h1]; rfl
theorem retD {s t : ByteArray} {b c : Bool} (h : t = s) (h2 : c = b) : Ending.returned (.tuple #[.string s, .bool b]) = Ending.returned (.tuple #[.string t, .bool c]) := by rw [h, h2]
set_option maxRecDepth 100000 in
set_option maxHeartbeats 4000000 in
theorem iDecText (bl : Bool) (a b : Option Addr) (la lb ca cb : Nat) (xs ys : List Int) (w : World) (hA : InI w a la ca xs) (hB : InI w b lb cb ys) (hT : Tab w) (hE : ET w) (hP : P10 w) :
    Calls Tryz.prog 7 #[.agg #[.bool bl, .slice a la ca, .slice b lb cb]] w fun e w' => e = .returned (.tuple #[.string (dtT bl xs ys), .bool (dtB bl xs ys)]) ∧ Below w.heap.size w w' := by
  have e0 : Below w.heap.size w (w.alloc (.cells #[.bool bl, .slice a la ca, .slice b lb cb] 28)) := (by repeat (first | exact Below.refl _ _ | refine Below.drew ?_ | refine old_alloc ?_ _ | refine old_trans ?_ (by assumption)))
  have R := hd (iRatioOf bl a b la lb ca cb xs ys _ (hA.old e0) (hB.old e0) (hT.old e0))
  have F1 := hd (fun s w' (h : Below w.heap.size w w') => iFault s w' (hE.old h))
  have F0 := hd iNoFault
  have DC := hd (fun (hf : fracOk bl xs ys = true) w' (h : Below w.heap.size w w') => by
    have hin := fracOk_in hf
    have cx := natOk_canon hin.1
    have cy := natOk_canon hin.2.1
    have h1 := iDecimal bl a b ca cb (val xs) (val ys) w' (by rw [cx, hA.1]; exact hA.old h) (by rw [cy, hB.1]; exact hB.old h) (by rw [cx]; exact (natOk_in hin.1).1) (by rw [cy]; exact (natOk_in hin.2.1).1) (fun e => hin.2.2.1 (by rw [← cy, e, natL_zero]; rfl)) (hP.old h)
    rw [cx, cy, hA.1, hB.1] at h1
    exact h1)
  have OK := hd (fun w' => iDecOkB (bt (dcL (val xs) (val ys))) w')
  clear hA hB hT hE hP
  go_enter Tryz.func7, Tryz.ntmps7
  go_wp2_with fail
  refine R.out.mono ?_
  rintro e w1 ⟨he, hb1⟩
  have hB1 := old_trans e0 hb1
  rcases he with ⟨hf, rfl⟩ | ⟨hf, s, rfl⟩
  · have DCf := hd (DC.out hf)
    have hB2 := old_alloc hB1 (.cells #[.bool bl, .slice a la ca, .slice b lb cb] 45)
    have K := Cel3.new w1 (.bool bl) (.slice a la ca) (.slice b lb cb) 45
    cases bl
    · have h3 := hd (@dtB_3 false xs ys)
      have h4 := hd (dtB_4 hf)
      have hn := hd (@dt_no false xs ys)
      have hy := hd (@dt_yes false xs ys)
      clear hf DC
      generalize bt (dcL (val xs) (val ys)) = tx at *
      go_wp2_with fail
      refine (F0.out _).mono ?_
      rintro e w2 ⟨rfl, hb2⟩
      obtain ⟨k1, ⟨k2, k3, k4⟩, -⟩ := K.old hb2
      have hB3 := old_trans hB2 hb2
      clear hb2 K
      go_wp2_with fail
      refine (DCf.out _ hB3).mono ?_
      rintro e w3 ⟨rfl, hb3⟩
      have hB4 := old_trans hB3 hb3
      clear hb3 k1 k2 k3 k4
      cases hd9 : decS tx
      · rw [hd9] at OK
        have q := h3.out hd9
        have q2 := hd (hn.out q)
        have q' := hd q
        clear hd9 q h3 h4 hn hy
        go_wp2_with fail
        refine (OK.out _).mono ?_
        rintro e w4 ⟨rfl, hb4⟩
        go_wp2
        go_ret2
        exact ⟨retD q2.out q'.out, old_trans hB4 hb4⟩
      · rw [hd9] at OK
        have q := h4.out hd9
        have q2 := hd (hy.out q)
        have q' := hd q
        clear hd9 q h3 h4 hn hy
        go_wp2_with fail
        refine (OK.out _).mono ?_
        rintro e w4 ⟨rfl, hb4⟩
        go_wp2
        go_ret2
        exact ⟨retD q2.out q'.out, old_trans hB4 hb4⟩
    · have q := hd (@dtB_2 true xs ys rfl)
      have q2 := hd (dt_no q.out)
      clear hf DC DCf OK
      go_wp2_with fail
      refine (F0.out _).mono ?_
      rintro e w2 ⟨rfl, hb2⟩
      obtain ⟨k1, ⟨k2, k3, k4⟩, -⟩ := K.old hb2
      have hB3 := old_trans hB2 hb2
      clear hb2 K
      go_wp2
      go_ret2
      exact ⟨retD q2.out q.out, hB3⟩
  · have q := hd (dtB_1 hf)
    have q2 := hd (dt_no q.out)
    have hB2 := old_alloc hB1 (.cells #[.bool false, .slice none 0 0, .slice none 0 0] 45)
    clear hf DC OK
    go_wp2_with fail
    refine (F1.out _ _ hB2).mono ?_
    rintro e w2 ⟨rfl, hb2⟩
    go_wp2
    go_ret2
    exact ⟨retD q2.out q.out, old_trans hB2 hb2⟩
set_option maxRecDepth 100000 in
set_option maxHeartbeats 2000000 in
theorem sTens (k : Nat) (hk : k ≤ 60) (w : World) : Calls Tryz.prog 13 #[.int .i64 (k : Int)] w fun e w' => (∃ av cv, e = .returned (.slice av (natL (10 ^ k)).length cv) ∧ OI w' w.heap.size av cv (natL (10 ^ k))) ∧ Below w.heap.size w w' := by
  have e1 : natL 1 = [1] := by rw [natL_pos (by decide), show 1 / 65536 = 0 from rfl, natL_zero]; rfl
  have hal : Below w.heap.size w (w.alloc (.cells #[.int .i64 1] 3)) := old_alloc (Below.refl _ _) _
  have O0 : OI (w.alloc (.cells #[.int .i64 1] 3)) w.heap.size (some ⟨w.heap.size, 0, none⟩) 1 (natL 1) := by
    rw [e1]
    exact ⟨fun x hx => by rw [List.mem_singleton] at hx; subst hx; decide, Nat.le_refl _, by decide, .inr ⟨w.heap.size, rfl, Nat.le_refl _, by simp, fun i hi => by obtain rfl : i = 0 := (by simp at hi; omega); simp⟩⟩
  have hkI : (k : Int) ≤ 60 := by omega
  have l1 : (natL 1).length = 1 := by rw [e1]; rfl
  go_enter Tryz.func13, Tryz.ntmps13
  go_wp2_with fail
  generalize hW0 : w.alloc (.cells #[.int .i64 1] 3) = W0 at *
  clear hW0
  go_loopw [3, 4] (fun s i wr => ∃ (j : Nat) (av : Option Addr) (cv : Nat), j ≤ k ∧ s = .slice av (natL (10 ^ j)).length cv ∧ i = .int .i64 (j : Int) ∧ OI wr w.heap.size av cv (natL (10 ^ j)) ∧ Below w.heap.size w wr) (fun _ i _ => k - (Lib.intOf i).toNat)
  case atStart => exact ⟨0, some ⟨w.heap.size, 0, none⟩, 1, by omega, by rw [Nat.pow_zero, l1], rfl, by rw [Nat.pow_zero]; exact O0, hal⟩
  case round =>
    clear O0 hal
    obtain ⟨j, av, cv, hj, rfl, rfl, O, hB⟩ := hrel
    by_cases hlt : j < k
    · have T := hd (sTimes av _ cv (natL (10 ^ j)) 10 wr O.inI (digs_natL _) (show dig 10 from ⟨by decide, by decide⟩) (by have := ten_len (k := j) (by omega); omega))
      have hjI : (j : Int) < (k : Int) := by omega
      rw [val_natL, show (10 : Int).toNat = 10 from rfl, ← Nat.pow_succ] at T
      go_wp2_with fail
      refine T.out.mono ?_
      rintro e w1 ⟨⟨av2, cv2, rfl, O2⟩, hb1⟩
      have hs := hB.size
      go_wp2
      go_roundw
      case rel => exact ⟨j + 1, av2, cv2, by omega, rfl, by go_num, O2.mono hs, old_trans hB hb1⟩
      case measure => simp [Lib.intOf]; omega
    · obtain rfl : j = k := by omega
      have hjI : ¬ ((j : Int) < (j : Int)) := by omega
      go_wp2
      go_ret
      exact ⟨⟨_, _, rfl, O⟩, hB⟩
end Go.Proofs.YtmcfdkhkagkhbaaGreatDoor
