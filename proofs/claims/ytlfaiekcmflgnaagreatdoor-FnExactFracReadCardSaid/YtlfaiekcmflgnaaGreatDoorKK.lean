/- Fractions read, by the program and by the specification: one answer. Conditions, for the program: the library's tables and its handle of errors are there. Nothing that was there is written. -/
import Derived.Test.YtlfaiekcmflgnaaGreatDoorKJ
namespace Go.Proofs.YtlfaiekcmflgnaaGreatDoor
open Go.RowKit Go.Lib
set_option linter.unusedVariables false
set_option maxRecDepth 100000

theorem bdrew (w : World) (n : Nat) : Below w.heap.size w (w.drewN n) := (Below.refl _ w).trans ⟨rfl, rfl, rfl, Nat.le_refl _, fun _ _ => rfl⟩
theorem bt_take (l : List UInt8) (n : Nat) : (bt l).extract 0 n = bt (l.take n) := by
  apply ByteArray.ext
  rw [ByteArray.data_extract]
  apply Array.ext'
  simp [bt]
theorem bt_drop (l : List UInt8) (k : Nat) : (bt l).extract k l.length = bt (l.drop k) := by
  apply ByteArray.ext
  rw [ByteArray.data_extract]
  apply Array.ext'
  simp [bt]
  exact List.take_of_length_le (by simp)
theorem slTo (l : List UInt8) (n : Nat) (h : n ≤ l.length) (w : World) : (Instr.slice 9 (.string (bt l)) none (some (.int .i64 (n : Int))) none).run Tryz.prog w = .ok (.string (bt (l.take n))) w := by
  have e1 : ¬ (l.length < n) := by omega
  simp [go_sem, bt_size, bt_take]
  intro h9
  exact absurd h9 e1
theorem slFrom (l : List UInt8) (k : Nat) (h : k ≤ l.length) (w : World) : (Instr.slice 9 (.string (bt l)) (some (.int .i64 (k : Int))) none none).run Tryz.prog w = .ok (.string (bt (l.drop k))) w := by
  have e1 : ¬ (l.length < k) := by omega
  simp [go_sem, bt_size, bt_drop]
  intro h9
  exact absurd h9 e1
theorem slFrom1 (l : List UInt8) (k : Nat) (h : k + 1 ≤ l.length) (w : World) : (Instr.slice 9 (.string (bt l)) (some (.int .i64 ((k : Int) + 1))) none none).run Tryz.prog w = .ok (.string (bt (l.drop (k + 1)))) w := by
  have := slFrom l (k + 1) h w
  rw [show ((k + 1 : Nat) : Int) = (k : Int) + 1 by omega] at this
  exact this
theorem partsR_no {l : List UInt8} (h : stk l = -1) : partsR l = (false, l, [49]) := by unfold partsR; rw [if_pos (by omega)]
theorem partsR_at {l : List UInt8} {n : Nat} (h : stk l = (n : Int)) : partsR l = (true, l.take n, l.drop (n + 1)) := by unfold partsR; rw [if_neg (by omega), h, Int.toNat_natCast]
/-- the answer of a text whose parts are known -/
def ResR (w : World) (base : Nat) (e : Ending) (b st : Bool) (t u : List UInt8) : Prop := FRes w base e (okR b st t u) b (nv (bt t) t.length) (nv (bt u) u.length)
theorem ResR.no {w : World} {base : Nat} {b st : Bool} {t u : List UInt8} (h : okR b st t u = false) : ResR w base (.returned (.tuple #[.agg #[.bool false, .slice none 0 0, .slice none 0 0], .bool false])) b st t u := by
  unfold ResR; rw [h]; exact FRes.no _ _ _ _ _
theorem ResR.yes {w : World} {base : Nat} {b st : Bool} {t u : List UInt8} {V U : Nat} {av av' : Option Addr} {cv cv' : Nat} (hV : nv (bt t) t.length = V) (hU : nv (bt u) u.length = U) (h : okR b st t u = true) (h1 : OI w base av cv (natL V)) (h2 : OI w base av' cv' (natL U)) (h3 : Sep av av') :
    ResR w base (.returned (.tuple #[.agg #[.bool b, .slice av (natL V).length cv, .slice av' (natL U).length cv'], .bool true])) b st t u := by
  unfold ResR
  have hh := h
  unfold okR at hh
  rw [hV, hU] at hh ⊢
  simp only [Bool.and_eq_true] at hh
  have hf := hh.2.2.1
  have hl := fracOk_low hf
  rw [val_natL, val_natL] at hl
  have hin := fracOk_in hf
  have hb : (b && decide (V ≠ 0)) = b := by
    cases b
    · rfl
    · have : V ≠ 0 := fun e => hin.2.2.2.2 ⟨rfl, by rw [e, natL_zero]; rfl⟩
      simp [this]
  rw [h]
  have := FRes.yes (w := w) (base := base) (s := b) (A := V) (B := U) (av := av) (av' := av') (cv := cv) (cv' := cv') (by rw [hl.2.1]; exact h1) (by rw [hl.2.2]; exact h2) h3
  rw [hb, hl.2.1, hl.2.2] at this
  exact this
theorem ResR.all {w : World} {base : Nat} {e : Ending} {l : List UInt8} {st : Bool} {t u : List UInt8} (hp : partsR (rst l) = (st, t, u)) (h : ResR w base e (bmin l) st t u) : FRes w base e (okFR l) (bmin l) (topFR l) (botFR l) := by
  unfold okFR topFR botFR
  rw [hp]; exact h
theorem okR_no1 {b st : Bool} {t u : List UInt8} (h : rdB (bt t) = false) : okR b st t u = false := by unfold okR; rw [h]; rfl
theorem okR_no2 {b st : Bool} {t u : List UInt8} (h : rdB (bt u) = false) : okR b st t u = false := by unfold okR; rw [h]; simp
theorem okR_no3 {b st : Bool} {t u : List UInt8} (h : (fracOk b (natL (nv (bt t) t.length)) (natL (nv (bt u) u.length)) && !(st && decide (nv (bt u) u.length = 1))) = false) : okR b st t u = false := by unfold okR; rw [h]; simp
theorem okR_yes {b st : Bool} {t u : List UInt8} (h1 : rdB (bt t) = true) (h2 : rdB (bt u) = true) (h : (fracOk b (natL (nv (bt t) t.length)) (natL (nv (bt u) u.length)) && !(st && decide (nv (bt u) u.length = 1))) = true) : okR b st t u = true := by unfold okR; rw [h1, h2, h]; rfl
theorem one_one : nv (bt [49]) ([49] : List UInt8).length = 1 := nv_one 49
theorem okR_one {b : Bool} {t : List UInt8} : okR b true t [49] = false := by
  refine okR_no3 ?_
  rw [one_one]; simp
theorem nv_not1 {u : List UInt8} (h : rdB (bt u) = true) (hu : u ≠ [49]) : nv (bt u) u.length ≠ 1 := fun e => hu (by
  have := rd_list h
  rw [e, decDigits_one (by decide)] at this
  exact this.symm)
/-- a text by its parts -/
theorem l_parts {l : List UInt8} {n : Nat} (hn : n < l.length) (h47 : l.getD n 0 = 47) : l = l.take n ++ 47 :: l.drop (n + 1) := by
  have h := List.drop_eq_getElem_cons hn
  have e : l[n] = 47 := by rw [List.getD_eq_getElem?_getD, List.getElem?_eq_getElem hn] at h47; exact h47
  rw [e] at h
  rw [← h, List.take_append_drop]
theorem stk_47 : ∀ (l : List UInt8) (n : Nat), stk l = (n : Int) → n < l.length ∧ l.getD n 0 = 47 := by
  intro l
  induction l with
  | nil => intro n h; unfold stk indexByte at h; omega
  | cons b t ih =>
    intro n h
    unfold stk indexByte at h
    by_cases hb : b = 47
    · subst hb
      obtain rfl : n = 0 := by simpa using h.symm
      exact ⟨by simp, rfl⟩
    · rw [if_neg (by simpa using hb)] at h
      have hge := indexByte_ge t 47
      by_cases hm : indexByte t 47 = -1
      · rw [hm] at h
        have h' : (-1 : Int) = (n : Int) := h
        omega
      · rw [if_neg (by simpa using hm)] at h
        cases n with
        | zero => omega
        | succ n =>
          have := ih n (by unfold stk; omega)
          exact ⟨by simpa using this.1, this.2⟩
theorem rst_min {l : List UInt8} (h : bmin l = true) : l = 45 :: rst l := by
  cases l with
  | nil => rw [bmin_nil] at h; cases h
  | cons b t =>
    have hb := h
    rw [bmin_cons] at h
    have : (45 : UInt8) = b := by simpa using h
    subst this
    unfold rst; rw [hb]; rfl
theorem rst_not {l : List UInt8} (h : bmin l = false) : rst l = l := by unfold rst; rw [h]; rfl
theorem rst_len (l : List UInt8) : (rst l).length ≤ l.length := by unfold rst; split <;> simp
theorem l_all (l : List UInt8) : l = (if bmin l then [45] else []) ++ rst l := by
  cases h : bmin l
  · rw [rst_not h]; rfl
  · exact rst_min h
theorem iCutPre (l : List UInt8) (w : World) : Calls Tryz.prog 16 #[.string (bt l), .string ⟨#[45]⟩] w fun e w' => e = .returned (.tuple #[.string (bt (rst l)), .bool (bmin l)]) ∧ w' = w := by
  refine (sh_strings_CutPrefix (bt l) ⟨#[45]⟩ w).mono ?_
  rintro e w' ⟨rfl, rfl⟩
  have h1 : (bt l).data.toList = l := by simp [bt]
  rw [h1]
  exact ⟨rfl, rfl⟩
set_option maxHeartbeats 1000000 in
theorem iCutT (l : List UInt8) (hl : l.length ≤ 1048576) (w : World) : Calls Tryz.prog 40 #[.string (bt l), .string ⟨#[47]⟩] w fun e w' => (stk l = -1 ∧ e = .returned (.tuple #[.string (bt l), .string ⟨#[]⟩, .bool false]) ∨ ∃ n : Nat, stk l = (n : Int) ∧ e = .returned (.tuple #[.string (bt (l.take n)), .string (bt (l.drop (n + 1))), .bool true])) ∧ Below w.heap.size w w' := by
  have IX := hd (fun w' => sh_stringslite_Index_one (bt l) 47 w')
  rw [show (bt l).data.toList = l by simp [bt], show indexByte l 47 = stk l from rfl] at IX
  rcases stk_cases l with h | ⟨n, hn, h⟩
  · rw [h] at IX
    have h' := hd h
    clear h
    go_enter Tryz.func40, Tryz.ntmps40
    go_wp2_with fail
    refine (IX.out _).mono ?_
    rintro e w' ⟨rfl, rfl⟩
    go_wp2
    refine bodyPost_ret (v := .tuple #[.string (bt l), .string ⟨#[]⟩, .bool false]) ?_ rfl ⟨.inl ⟨h'.out, rfl⟩, (by repeat (first | exact Below.refl _ _ | refine Below.drew ?_ | refine old_alloc ?_ _ | refine old_trans ?_ (by assumption)))⟩
    simp [results, Tryz.results40, go_sem]
  · have s1 := slTo l n (by omega)
    have s2 := slFrom1 l n (by omega)
    rw [h] at IX
    have h' := hd h
    have hn' : (n : Int) < (l.length : Int) := by omega
    have hn'' : (n : Int) ≤ 1048576 := by omega
    have hn0 : (0 : Int) ≤ (n : Int) := by omega
    clear h
    go_enter Tryz.func40, Tryz.ntmps40
    go_wp2_with fail
    refine (IX.out _).mono ?_
    rintro e w' ⟨rfl, rfl⟩
    go_wp2
    go_quiet (fail)
    go_wp2
    refine bodyPost_ret (v := .tuple #[.string (bt (l.take n)), .string (bt (l.drop (n + 1))), .bool true]) ?_ rfl ⟨.inr ⟨n, h'.out, rfl⟩, bdrew _ _⟩
    simp [results, Tryz.results40, go_sem]
set_option maxHeartbeats 1000000 in
theorem iCutS (l : List UInt8) (hl : l.length ≤ 1048576) (w : World) : Calls Tryz.prog 17 #[.string (bt l), .string ⟨#[47]⟩] w fun e w' => (stk l = -1 ∧ e = .returned (.tuple #[.string (bt l), .string ⟨#[]⟩, .bool false]) ∨ ∃ n : Nat, stk l = (n : Int) ∧ e = .returned (.tuple #[.string (bt (l.take n)), .string (bt (l.drop (n + 1))), .bool true])) ∧ Below w.heap.size w w' := by
  have IX := hd (iCutT l hl w)
  go_enter Tryz.func17, Tryz.ntmps17
  go_wp2_with fail
  refine IX.out.mono ?_
  rintro e w' ⟨he, hb⟩
  rcases he with ⟨h, rfl⟩ | ⟨n, h, rfl⟩
  · have h' := hd h
    clear h
    go_wp2
    refine bodyPost_ret (v := .tuple #[.string (bt l), .string ⟨#[]⟩, .bool false]) ?_ rfl ⟨.inl ⟨h'.out, rfl⟩, hb⟩
    simp [results, Tryz.results17, go_sem]
  · have h' := hd h
    clear h
    go_wp2
    refine bodyPost_ret (v := .tuple #[.string (bt (l.take n)), .string (bt (l.drop (n + 1))), .bool true]) ?_ rfl ⟨.inr ⟨n, h'.out, rfl⟩, hb⟩
    simp [results, Tryz.results17, go_sem]
end Go.Proofs.YtlfaiekcmflgnaaGreatDoor
