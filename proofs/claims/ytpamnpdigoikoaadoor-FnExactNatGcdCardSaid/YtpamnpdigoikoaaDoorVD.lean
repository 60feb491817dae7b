/- Quotients and rests of numbers: by the program and by the specification. No condition. -/
import Derived.Test.YtpamnpdigoikoaaDoorVC
import Derived.Test.YtpamnpdigoikoaaDoorV2
namespace Go.Proofs.YtpamnpdigoikoaaDoor
open Go.RowKit
set_option linter.unusedVariables false
set_option maxRecDepth 100000

set_option maxRecDepth 100000 in
set_option maxHeartbeats 4000000 in
theorem iCut (a b : Option Addr) (la lb ca cb : Nat) (xs ys : List Int) (w : World) (hA : InI w a la ca xs) (hB : InI w b lb cb ys) (hx : digs xs) (hy : digs ys) (ty : topped ys) (hla : la ≤ 65536) (hlb : lb ≤ 65536) (h0 : 0 < lb) :
    Calls Tryd.prog 49 #[.slice a la ca, .slice b lb cb] w fun e w' => (∃ av cv av2 cv2, e = .returned (.tuple #[.slice av (natL (val xs / val ys)).length cv, .slice av2 (natL (val xs % val ys)).length cv2]) ∧ OI w' w.heap.size av cv (natL (val xs / val ys)) ∧ OI w' w.heap.size av2 cv2 (natL (val xs % val ys)) ∧ Sep av av2) ∧ Below w.heap.size w w' := by
  have pb := hB.1
  by_cases h2 : 2 ≤ lb
  · exact iCutLong a b la lb ca cb xs ys w hA hB hx hy ty hla hlb h2
  · obtain rfl : lb = 1 := by omega
    obtain ⟨bb, ob, t, rfl, hbl, ht, -, ct⟩ := hB.at (k := 0) (by omega)
    have dt := digs_getD hy 0
    have ht0 := ty.resolve_left (by omega)
    rw [pb] at ht0
    rw [show 1 - 1 = 0 from rfl] at ht0
    rw [ht] at dt ht0
    have hv := one_digit pb ht dt
    unfold dig at dt
    obtain ⟨d, rfl⟩ := Int.eq_ofNat_of_zero_le dt.1
    rw [Int.toNat_natCast] at hv
    rw [hv]
    have C := hd (iCutSmall a la ca xs d w hA hx (by omega) (by omega) (by omega))
    have hr : val xs % d < 65536 := by have := Nat.mod_lt (val xs) (show 0 < d by omega); omega
    have hdg : dig ((val xs % d : Nat) : Int) := by
      unfold dig
      generalize val xs % d = rr at *
      omega
    have T := hd (fun (w' : World) => iTrimO w'.heap.size (some ⟨w'.heap.size, 0, none⟩) 1 [((val xs % d : Nat) : Int)] (w'.alloc (.cells #[.int .i64 ((val xs % d : Nat) : Int)] 3)) ⟨digs_fits (digs_cons.2 ⟨hdg, digs_nil⟩), by simp, by decide, .inr ⟨_, rfl, Nat.le_refl _, by
        refine ⟨by simp, fun i hi => ?_⟩
        have : i = 0 := by simp at hi; omega
        subst this
        simp⟩⟩ (digs_cons.2 ⟨hdg, digs_nil⟩))
    have ev : val [((val xs % d : Nat) : Int)] = val xs % d := by rw [val_cons, val_nil, Int.toNat_natCast]; omega
    rw [ev] at T
    simp only [List.length_singleton] at T
    rw [Nat.add_zero] at ct
    have hdi : (0 : Int) < (d : Int) := by omega
    clear ev hr hdg hv
    generalize natL (val xs % d) = rl at *
    generalize natL (val xs / d) = ql at *
    generalize ((val xs % d : Nat) : Int) = rI at *
    generalize hdI : (d : Int) = dI at *
    go_enter Tryd.func49, Tryd.ntmps49
    go_wp2_with fail
    refine C.out.mono ?_
    rintro e w1 ⟨⟨av, cv, rfl, hO⟩, hb1⟩
    have T1 := hd (T.out w1)
    clear T C
    go_wp2_with fail
    refine T1.out.mono ?_
    rintro e w2 ⟨⟨av2, cv2, rfl, hO2⟩, hb2⟩
    have hs := hb1.size
    have ha : Below w1.heap.size w1 (w1.alloc (.cells #[.int .i64 rI] 3)) := (Below.refl _ _).alloc (Nat.le_refl _) _
    go_wp2
    go_ret2
    exact ⟨⟨av, cv, av2, cv2, rfl, (hO.later ha).later hb2, hO2.mono hs, OI.sepOf hO hO2 (Nat.le_refl _)⟩, old_trans (old_trans hb1 ha) hb2⟩
theorem sepB {a b : Option Addr} (h : Sep a b) : ∀ q, a = some q → some q.block ≠ ownB b := by
  intro q e e2
  cases b with
  | none => cases e2
  | some p => simp [ownB] at e2; exact h q p e rfl e2
def divB (xs ys : List Int) : Bool := natOk xs && (natOk ys && decide (ys.length ≠ 0))
def divQ (xs ys : List Int) : List Int := if divB xs ys then natL (val xs / val ys) else []
def divR (xs ys : List Int) : List Int := if divB xs ys then natL (val xs % val ys) else []
theorem divB_in {xs ys : List Int} (h : divB xs ys = true) : natOk xs = true ∧ natOk ys = true ∧ 0 < ys.length := by
  unfold divB at h
  simp only [Bool.and_eq_true, decide_eq_true_eq] at h
  exact ⟨h.1, h.2.1, by omega⟩
theorem divQ_len {xs ys : List Int} : (divQ xs ys).length ≤ 1048576 := by
  unfold divQ
  split
  · rename_i g
    have h := natOk_lt (divB_in g).1
    have := natL_len.2 (Nat.lt_of_le_of_lt (Nat.div_le_self (val xs) (val ys)) h)
    omega
  · simp
theorem divR_len {xs ys : List Int} : (divR xs ys).length ≤ 1048576 := by
  unfold divR
  split
  · rename_i g
    have h := natOk_lt (divB_in g).1
    have := natL_len.2 (Nat.lt_of_le_of_lt (Nat.mod_le (val xs) (val ys)) h)
    omega
  · simp
set_option maxHeartbeats 2000000 in
theorem iNatDiv (a b : Option Addr) (la lb ca cb : Nat) (xs ys : List Int) (w : World) (hA : InI w a la ca xs) (hB : InI w b lb cb ys) :
    Calls Tryd.prog 16 #[.slice a la ca, .slice b lb cb] w fun e w' => (∃ av cv av2 cv2, e = .returned (.tuple #[.slice av (divQ xs ys).length cv, .slice av2 (divR xs ys).length cv2, .bool (divB xs ys)]) ∧ OI w' w.heap.size av cv (divQ xs ys) ∧ OI w' w.heap.size av2 cv2 (divR xs ys) ∧ Sep av av2) ∧ Below w.heap.size w w' := by
  have hla := hA.len
  have hlb := hB.len
  have p1 := hA.1
  have p2 := hB.1
  have K1 := hd (iNatOk a la ca xs w hA)
  have K2 := hd (iNatOk b lb cb ys w hB)
  unfold divQ divR
  cases h1 : natOk xs
  · have e : divB xs ys = false := by unfold divB; rw [h1]; rfl
    rw [e, if_neg (by simp), if_neg (by simp)]
    rw [h1] at K1
    show Calls _ _ _ _ fun e w' => (∃ av cv av2 cv2, e = .returned (.tuple #[.slice av 0 cv, .slice av2 0 cv2, .bool false]) ∧ OI w' w.heap.size av cv [] ∧ OI w' w.heap.size av2 cv2 [] ∧ Sep av av2) ∧ Below w.heap.size w w'
    clear e h1
    go_enter Tryd.func16, Tryd.ntmps16
    go_wp2_with fail
    refine K1.out.mono ?_
    rintro e w1 ⟨rfl, rfl⟩
    go_wp2
    go_ret3
    exact ⟨⟨_, _, _, _, rfl, OI.none _ _, OI.none _ _, Sep.none _⟩, Below.refl _ _⟩
  rw [h1] at K1
  cases h2 : natOk ys
  · have e : divB xs ys = false := by unfold divB; rw [h1, h2]; rfl
    rw [e, if_neg (by simp), if_neg (by simp)]
    rw [h2] at K2
    show Calls _ _ _ _ fun e w' => (∃ av cv av2 cv2, e = .returned (.tuple #[.slice av 0 cv, .slice av2 0 cv2, .bool false]) ∧ OI w' w.heap.size av cv [] ∧ OI w' w.heap.size av2 cv2 [] ∧ Sep av av2) ∧ Below w.heap.size w w'
    clear e h1 h2
    go_enter Tryd.func16, Tryd.ntmps16
    go_wp2_with fail
    refine K1.out.mono ?_
    rintro e w1 ⟨rfl, rfl⟩
    go_wp2_with fail
    refine K2.out.mono ?_
    rintro e w1 ⟨rfl, rfl⟩
    go_wp2
    go_ret3
    exact ⟨⟨_, _, _, _, rfl, OI.none _ _, OI.none _ _, Sep.none _⟩, Below.refl _ _⟩
  rw [h2] at K2
  by_cases h3 : lb = 0
  · have e : divB xs ys = false := by unfold divB; rw [h1, h2, decide_eq_false (by omega)]; rfl
    rw [e, if_neg (by simp), if_neg (by simp)]
    show Calls _ _ _ _ fun e w' => (∃ av cv av2 cv2, e = .returned (.tuple #[.slice av 0 cv, .slice av2 0 cv2, .bool false]) ∧ OI w' w.heap.size av cv [] ∧ OI w' w.heap.size av2 cv2 [] ∧ Sep av av2) ∧ Below w.heap.size w w'
    clear e h1 h2
    subst h3
    go_enter Tryd.func16, Tryd.ntmps16
    go_wp2_with fail
    refine K1.out.mono ?_
    rintro e w1 ⟨rfl, rfl⟩
    go_wp2_with fail
    refine K2.out.mono ?_
    rintro e w1 ⟨rfl, rfl⟩
    go_wp2
    go_ret3
    exact ⟨⟨_, _, _, _, rfl, OI.none _ _, OI.none _ _, Sep.none _⟩, Below.refl _ _⟩
  have e : divB xs ys = true := by unfold divB; rw [h1, h2, decide_eq_true (by omega)]; rfl
  rw [e, if_pos rfl, if_pos rfl]
  have q1 := natOk_in h1
  have q2 := natOk_in h2
  have C := hd (iCut a b la lb ca cb xs ys w hA hB q1.2.1 q2.2.1 q2.2.2 (by omega) (by omega) (by omega))
  have h3' : ((lb : Int) == 0) = false := by simp; omega
  clear e h1 h2 q1 q2
  generalize natL (val xs / val ys) = ql at *
  generalize natL (val xs % val ys) = rl at *
  go_enter Tryd.func16, Tryd.ntmps16
  go_wp2_with fail
  refine K1.out.mono ?_
  rintro e w1 ⟨rfl, rfl⟩
  go_wp2_with fail
  refine K2.out.mono ?_
  rintro e w1 ⟨rfl, rfl⟩
  go_wp2_with fail
  refine C.out.mono ?_
  rintro e w2 ⟨⟨av, cv, av2, cv2, rfl, hO, hO2, hS⟩, hb⟩
  go_wp2
  go_ret3
  exact ⟨⟨_, _, _, _, rfl, hO, hO2, hS⟩, hb⟩
end Go.Proofs.YtpamnpdigoikoaaDoor
