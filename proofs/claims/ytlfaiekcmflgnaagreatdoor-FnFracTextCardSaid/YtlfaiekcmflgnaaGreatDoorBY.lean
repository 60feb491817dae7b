/- Fractions read: how a text is taken apart, and what it then says. Mathematics, and the program's means to take it apart. -/
import Derived.Test.YtlfaiekcmflgnaaGreatDoorBW
import Derived.Test.YtlfaiekcmflgnaaGreatDoorKT
import Derived.Test.YtlfaiekcmflgnaaGreatDoorFK
import Derived.Test.YtlfaiekcmflgnaaGreatDoorNL
namespace Go.Proofs.YtlfaiekcmflgnaaGreatDoor
open Go.RowKit Go.Lib
set_option linter.unusedVariables false
set_option maxRecDepth 100000

/-- whether a text begins with the sign -/
def bmin (l : List UInt8) : Bool := hasPrefix l [45]
def rst (l : List UInt8) : List UInt8 := if bmin l then l.drop 1 else l
theorem bmin_nil : bmin [] = false := rfl
theorem bmin_cons (b : UInt8) (t : List UInt8) : bmin (b :: t) = (45 == b) := by simp [bmin, hasPrefix, List.isPrefixOf]
/-- where the stroke stands; -1, if there is none -/
def stk (l : List UInt8) : Int := indexByte l 47
theorem stk_at : ∀ (l : List UInt8) (n : Nat), n < l.length → (∀ i, i < n → l.getD i 0 ≠ 47) → l.getD n 0 = 47 → stk l = (n : Int) := by
  intro l
  induction l with
  | nil => intro n h; simp at h
  | cons b t ih =>
    intro n hn hb hc
    unfold stk indexByte
    cases n with
    | zero =>
      have : b = 47 := hc
      subst this; rfl
    | succ n =>
      have h0 : b ≠ 47 := hb 0 (by omega)
      have h1 := ih n (by simpa using hn) (fun i hi => hb (i + 1) (by omega)) hc
      unfold stk at h1
      rw [if_neg (by simpa using h0), h1, if_neg (by simp)]
      omega
theorem stk_no : ∀ (l : List UInt8), (∀ i, i < l.length → l.getD i 0 ≠ 47) → stk l = -1 := by
  intro l
  induction l with
  | nil => intro _; rfl
  | cons b t ih =>
    intro hb
    have h0 : b ≠ 47 := hb 0 (by simp)
    have h1 := ih (fun i hi => hb (i + 1) (by simpa using hi))
    unfold stk at h1 ⊢
    unfold indexByte
    rw [if_neg (by simpa using h0), h1]; rfl
theorem stk_cases (l : List UInt8) : stk l = -1 ∨ ∃ n : Nat, n < l.length ∧ stk l = (n : Int) := by
  induction l with
  | nil => left; rfl
  | cons b t ih =>
    unfold stk indexByte
    by_cases h : b = 47
    · right; subst h; exact ⟨0, by simp, rfl⟩
    · rw [if_neg (by simpa using h)]
      rcases ih with h1 | ⟨n, hn, h1⟩
      · left; unfold stk at h1; rw [h1]; rfl
      · right
        unfold stk at h1
        refine ⟨n + 1, by simpa using hn, ?_⟩
        rw [h1, if_neg (by simp)]; omega
/-- what a sign, a top and a bottom (whether a stroke stood or not) say -/
def okR (b st : Bool) (t u : List UInt8) : Bool := rdB (bt t) && (rdB (bt u) && (fracOk b (natL (nv (bt t) t.length)) (natL (nv (bt u) u.length)) && !(st && decide (nv (bt u) u.length = 1))))
def partsR (l : List UInt8) : Bool × List UInt8 × List UInt8 := if stk l < 0 then (false, l, [49]) else (true, l.take (stk l).toNat, l.drop ((stk l).toNat + 1))
def okFR (l : List UInt8) : Bool := okR (bmin l) (partsR (rst l)).1 (partsR (rst l)).2.1 (partsR (rst l)).2.2
def topFR (l : List UInt8) : Nat := nv (bt (partsR (rst l)).2.1) (partsR (rst l)).2.1.length
def botFR (l : List UInt8) : Nat := nv (bt (partsR (rst l)).2.2) (partsR (rst l)).2.2.length
theorem rd_list {t : List UInt8} (h : rdB (bt t) = true) : decDigits (nv (bt t) t.length) = t := by
  have e := dec_back h
  rw [bt_size] at e
  have := congrArg (fun z => z.data.toList) e
  simpa [bt] using this
theorem rd_ne {t : List UInt8} (h : rdB (bt t) = true) : t ≠ [] := fun e => by
  have := rd_list h
  rw [e] at this
  exact dec_ne _ this
/-- the text of what was read is the text that was read, just where it is a fraction and 1 is not written as a bottom -/
theorem text_is {b st : Bool} {t u : List UInt8} (h1 : rdB (bt t) = true) (h2 : rdB (bt u) = true) (h3 : st = false → u = [49]) :
    (frT b (natL (nv (bt t) t.length)) (natL (nv (bt u) u.length)) = bt ((if b then [45] else []) ++ (t ++ (if st then 47 :: u else [])))) ↔ (fracOk b (natL (nv (bt t) t.length)) (natL (nv (bt u) u.length)) && !(st && decide (nv (bt u) u.length = 1))) = true := by
  have e1 := rd_list h1
  have e2 := rd_list h2
  have n1 := rd_ne h1
  generalize nv (bt t) t.length = V at *
  generalize nv (bt u) u.length = U at *
  cases hf : fracOk b (natL V) (natL U)
  · rw [frT_no hf]
    simp only [Bool.false_and, Bool.false_eq_true, iff_false]
    intro h
    have := congrArg (fun z => z.data.toList) h
    simp [bt] at this
    exact n1 this.2.1
  · rw [frT_yes hf, val_natL, val_natL]
    unfold frL
    rw [e1, e2]
    have inj : ∀ l m : List UInt8, bt l = bt m ↔ l = m := fun l m => ⟨fun h => by have := congrArg (fun z => z.data.toList) h; simpa [bt] using this, fun h => by rw [h]⟩
    rw [inj]
    cases st
    · have hu : U = 1 := by
        have hu := h3 rfl
        rw [hu] at e2
        have := nv_dec U
        rw [e2] at this
        rw [← this]
        exact nv_one 49
      rw [if_pos hu]
      simp
    · by_cases hu : U = 1
      · rw [if_pos hu]
        simp [hu]
      · rw [if_neg hu]
        simp [hu]
end Go.Proofs.YtlfaiekcmflgnaaGreatDoor

/- Fractions read, by the program and by the specification: one answer. Conditions, for the program: the library's tables and its handle of errors are there. Nothing that was there is written. -/
namespace Go.Proofs.YtlfaiekcmflgnaaGreatDoor
open Go.RowKit Go.Lib
set_option linter.unusedVariables false
set_option maxRecDepth 100000

theorem bdrew (w : World) (n : Nat) : Below w.heap.size w (w.drewN n) := (Below.refl _ w).trans ⟨rfl, rfl, rfl, Nat.le_refl _, fun _ _ => rfl⟩
theorem bt_take (l : List UInt8) (n : Nat) : (bt l).extract 0 n = bt (l.take n) := by
  apply ByteArray.ext
  rw [ByteArray.data_extract]
  apply Array.ext'
  simp [bt]
theorem bt_drop (l : List UInt8) (k : Nat) : (bt l).extract k l.length = bt (l.drop k) := by
  apply ByteArray.ext
  rw [ByteArray.data_extract]
  apply Array.ext'
  simp [bt]
  exact List.take_of_length_le (by simp)
theorem slTo (l : List UInt8) (n : Nat) (h : n ≤ l.length) (w : World) : (Instr.slice 9 (.string (bt l)) none (some (.int .i64 (n : Int))) none).run Tryz.prog w = .ok (.string (bt (l.take n))) w := by
  have e1 : ¬ (l.length < n) := by omega
  simp [go_sem, bt_size, bt_take]
  intro h9
  exact absurd h9 e1
theorem slFrom (l : List UInt8) (k : Nat) (h : k ≤ l.length) (w : World) : (Instr.slice 9 (.string (bt l)) (some (.int .i64 (k : Int))) none none).run Tryz.prog w = .ok (.string (bt (l.drop k))) w := by
  have e1 : ¬ (l.length < k) := by omega
  simp [go_sem, bt_size, bt_drop]
  intro h9
  exact absurd h9 e1
theorem slFrom1 (l : List UInt8) (k : Nat) (h : k + 1 ≤ l.length) (w : World) : (Instr.slice 9 (.string (bt l)) (some (.int .i64 ((k : Int) + 1))) none none).run Tryz.prog w = .ok (.string (bt (l.drop (k + 1)))) w := by
  have := slFrom l (k + 1) h w
  rw [show ((k + 1 : Nat) : Int) = (k : Int) + 1 by omega] at this
  exact this
theorem partsR_no {l : List UInt8} (h : stk l = -1) : partsR l = (false, l, [49]) := by unfold partsR; rw [if_pos (by omega)]
theorem partsR_at {l : List UInt8} {n : Nat} (h : stk l = (n : Int)) : partsR l = (true, l.take n, l.drop (n + 1)) := by unfold partsR; rw [if_neg (by omega), h, Int.toNat_natCast]
/-- the answer of a text whose parts are known -/
def ResR (w : World) (base : Nat) (e : Ending) (b st : Bool) (t u : List UInt8) : Prop := FRes w base e (okR b st t u) b (nv (bt t) t.length) (nv (bt u) u.length)
theorem ResR.no {w : World} {base : Nat} {b st : Bool} {t u : List UInt8} (h : okR b st t u = false) : ResR w base (.returned (.tuple #[.agg #[.bool false, .slice none 0 0, .slice none 0 0], .bool false])) b st t u := by
  unfold ResR; rw [h]; exact FRes.no _ _ _ _ _
theorem ResR.yes {w : World} {base : Nat} {b st : Bool} {t u : List UInt8} {V U : Nat} {av av' : Option Addr} {cv cv' : Nat} (hV : nv (bt t) t.length = V) (hU : nv (bt u) u.length = U) (h : okR b st t u = true) (h1 : OI w base av cv (natL V)) (h2 : OI w base av' cv' (natL U)) (h3 : Sep av av') :
    ResR w base (.returned (.tuple #[.agg #[.bool b, .slice av (natL V).length cv, .slice av' (natL U).length cv'], .bool true])) b st t u := by
  unfold ResR
  have hh := h
  unfold okR at hh
  rw [hV, hU] at hh ⊢
  simp only [Bool.and_eq_true] at hh
  have hf := hh.2.2.1
  have hl := fracOk_low hf
  rw [val_natL, val_natL] at hl
  have hin := fracOk_in hf
  have hb : (b && decide (V ≠ 0)) = b := by
    cases b
    · rfl
    · have : V ≠ 0 := fun e => hin.2.2.2.2 ⟨rfl, by rw [e, natL_zero]; rfl⟩
      simp [this]
  rw [h]
  have := FRes.yes (w := w) (base := base) (s := b) (A := V) (B := U) (av := av) (av' := av') (cv := cv) (cv' := cv') (by rw [hl.2.1]; exact h1) (by rw [hl.2.2]; exact h2) h3
  rw [hb, hl.2.1, hl.2.2] at this
  exact this
theorem ResR.all {w : World} {base : Nat} {e : Ending} {l : List UInt8} {st : Bool} {t u : List UInt8} (hp : partsR (rst l) = (st, t, u)) (h : ResR w base e (bmin l) st t u) : FRes w base e (okFR l) (bmin l) (topFR l) (botFR l) := by
  unfold okFR topFR botFR
  rw [hp]; exact h
theorem okR_no1 {b st : Bool} {t u : List UInt8} (h : rdB (bt t) = false) : okR b st t u = false := by unfold okR; rw [h]; rfl
theorem okR_no2 {b st : Bool} {t u : List UInt8} (h : rdB (bt u) = false) : okR b st t u = false := by unfold okR; rw [h]; simp
theorem okR_no3 {b st : Bool} {t u : List UInt8} (h : (fracOk b (natL (nv (bt t) t.length)) (natL (nv (bt u) u.length)) && !(st && decide (nv (bt u) u.length = 1))) = false) : okR b st t u = false := by unfold okR; rw [h]; simp
theorem okR_yes {b st : Bool} {t u : List UInt8} (h1 : rdB (bt t) = true) (h2 : rdB (bt u) = true) (h : (fracOk b (natL (nv (bt t) t.length)) (natL (nv (bt u) u.length)) && !(st && decide (nv (bt u) u.length = 1))) = true) : okR b st t u = true := by unfold okR; rw [h1, h2, h]; rfl
theorem one_one : nv (bt [49]) ([49] : List UInt8).length = 1 := nv_one 49
theorem okR_one {b : Bool} {t : List UInt8} : okR b true t [49] = false := by
  refine okR_no3 ?_
  rw [one_one]; simp
theorem nv_not1 {u : List UInt8} (h : rdB (bt u) = true) (hu : u ≠ [49]) : nv (bt u) u.length ≠ 1 := fun e => hu (by
  have := rd_list h
  rw [e, decDigits_one (by decide)] at this
  exact this.symm)
/-- a text by its parts -/
theorem l_parts {l : List UInt8} {n : Nat} (hn : n < l.length) (h47 : l.getD n 0 = 47) : l = l.take n ++ 47 :: l.drop (n + 1) := by
  have h := List.drop_eq_getElem_cons hn
  have e : l[n] = 47 := by rw [List.getD_eq_getElem?_getD, List.getElem?_eq_getElem hn] at h47; exact h47
  rw [e] at h
  rw [← h, List.take_append_drop]
theorem stk_47 : ∀ (l : List UInt8) (n : Nat), stk l = (n : Int) → n < l.length ∧ l.getD n 0 = 47 := by
  intro l
  induction l with
  | nil => intro n h; unfold stk indexByte at h; omega
  | cons b t ih =>
    intro n h
    unfold stk indexByte at h
    by_cases hb : b = 47
    · subst hb
      obtain rfl : n = 0 := by simpa using h.symm
      exact ⟨by simp, rfl⟩
    · rw [if_neg (by simpa using hb)] at h
      have hge := indexByte_ge t 47
      by_cases hm : indexByte t 47 = -1
      · rw [hm] at h
        have h' : (-1 : Int) = (n : Int) := h
        omega
      · rw [if_neg (by simpa using hm)] at h
        cases n with
        | zero => omega
        | succ n =>
          have := ih n (by unfold stk; omega)
          exact ⟨by simpa using this.1, this.2⟩
theorem rst_min {l : List UInt8} (h : bmin l = true) : l = 45 :: rst l := by
  cases l with
  | nil => rw [bmin_nil] at h; cases h
  | cons b t =>
    have hb := h
    rw [bmin_cons] at h
    have : (45 : UInt8) = b := by simpa using h
    subst this
    unfold rst; rw [hb]; rfl
theorem rst_not {l : List UInt8} (h : bmin l = false) : rst l = l := by unfold rst; rw [h]; rfl
theorem rst_len (l : List UInt8) : (rst l).length ≤ l.length := by unfold rst; split <;> simp
theorem l_all (l : List UInt8) : l = (if bmin l then [45] else []) ++ rst l := by
  cases h : bmin l
  · rw [rst_not h]; rfl
  · exact rst_min h
theorem iCutPre (l : List UInt8) (w : World) : Calls Tryz.prog 16 #[.string (bt l), .string ⟨#[45]⟩] w fun e w' => e = .returned (.tuple #[.string (bt (rst l)), .bool (bmin l)]) ∧ w' = w := by
  refine (sh_strings_CutPrefix (bt l) ⟨#[45]⟩ w).mono ?_
  rintro e w' ⟨rfl, rfl⟩
  have h1 : (bt l).data.toList = l := by simp [bt]
  rw [h1]
  exact ⟨rfl, rfl⟩
set_option maxHeartbeats 1000000 in
theorem iCutT (l : List UInt8) (hl : l.length ≤ 1048576) (w : World) : Calls Tryz.prog 40 #[.string (bt l), .string ⟨#[47]⟩] w fun e w' => (stk l = -1 ∧ e = .returned (.tuple #[.string (bt l), .string ⟨#[]⟩, .bool false]) ∨ ∃ n : Nat, stk l = (n : Int) ∧ e = .returned (.tuple #[.string (bt (l.take n)), .string (bt (l.drop (n + 1))), .bool true])) ∧ Below w.heap.size w w' := by
  have IX := hd (fun w' => sh_stringslite_Index_one (bt l) 47 w')
  rw [show (bt l).data.toList = l by simp [bt], show indexByte l 47 = stk l from rfl] at IX
  rcases stk_cases l with h | ⟨n, hn, h⟩
  · rw [h] at IX
    have h' := hd h
    clear h
    go_enter Tryz.func40, Tryz.ntmps40
    go_wp2_with fail
    refine (IX.out _).mono ?_
    rintro e w' ⟨rfl, rfl⟩
    go_wp2
    refine bodyPost_ret (v := .tuple #[.string (bt l), .string ⟨#[]⟩, .bool false]) ?_ rfl ⟨.inl ⟨h'.out, rfl⟩, (by repeat (first | exact Below.refl _ _ | refine Below.drew ?_ | refine old_alloc ?_ _ | refine old_trans ?_ (by assumption)))⟩
    simp [results, Tryz.results40, go_sem]
  · have s1 := slTo l n (by omega)
    have s2 := slFrom1 l n (by omega)
    rw [h] at IX
    have h' := hd h
    have hn' : (n : Int) < (l.length : Int) := by omega
    have hn'' : (n : Int) ≤ 1048576 := by omega
    have hn0 : (0 : Int) ≤ (n : Int) := by omega
    clear h
    go_enter Tryz.func40, Tryz.ntmps40
    go_wp2_with fail
    refine (IX.out _).mono ?_
    rintro e w' ⟨rfl, rfl⟩
    go_wp2
    go_quiet (fail)
    go_wp2
    refine bodyPost_ret (v := .tuple #[.string (bt (l.take n)), .string (bt (l.drop (n + 1))), .bool true]) ?_ rfl ⟨.inr ⟨n, h'.out, rfl⟩, bdrew _ _⟩
    simp [results, Tryz.results40, go_sem]
set_option maxHeartbeats 1000000 in
theorem iCutS (l : List UInt8) (hl : l.length ≤ 1048576) (w : World) : Calls Tryz.prog 17 #[.string (bt l), .string ⟨#[47]⟩] w fun e w' => (stk l = -1 ∧ e = .returned (.tuple #[.string (bt l), .string ⟨#[]⟩, .bool false]) ∨ ∃ n : Nat, stk l = (n : Int) ∧ e = .returned (.tuple #[.string (bt (l.take n)), .string (bt (l.drop (n + 1))), .bool true])) ∧ Below w.heap.size w w' := by
  have IX := hd (iCutT l hl w)
  go_enter Tryz.func17, Tryz.ntmps17
  go_wp2_with fail
  refine IX.out.mono ?_
  rintro e w' ⟨he, hb⟩
  rcases he with ⟨h, rfl⟩ | ⟨n, h, rfl⟩
  · have h' := hd h
    clear h
    go_wp2
    refine bodyPost_ret (v := .tuple #[.string (bt l), .string ⟨#[]⟩, .bool false]) ?_ rfl ⟨.inl ⟨h'.out, rfl⟩, hb⟩
    simp [results, Tryz.results17, go_sem]
  · have h' := hd h
    clear h
    go_wp2
    refine bodyPost_ret (v := .tuple #[.string (bt (l.take n)), .string (bt (l.drop (n + 1))), .bool true]) ?_ rfl ⟨.inr ⟨n, h'.out, rfl⟩, hb⟩
    simp [results, Tryz.results17, go_sem]
end Go.Proofs.YtlfaiekcmflgnaaGreatDoor

/- FracRead of the specification and of the program. Conditions, for the program: the library's tables and its handle of errors are there. Nothing that was there is written. -/
namespace Go.Proofs.YtlfaiekcmflgnaaGreatDoor
open Go.RowKit Go.Lib
set_option linter.unusedVariables false
set_option maxRecDepth 100000

theorem resSR {W : World} {b : Nat} {v0 v1 v2 r : Value} {tmps : Array Value} (h : Cel3 W b v0 v1 v2) (ht : tmps[2]? = some (.pointer (some ⟨b, 0, none⟩))) (h3 : tmps[3]? = some r) : (results Tryz.f5 tmps).run Tryz.prog W = .ok (.tuple #[.agg #[v0, v1, v2], r]) W := by
  obtain ⟨h1, ⟨a0, a1, a2⟩, -⟩ := h
  simp [results, Tryz.results5, go_sem, a0, a1, a2, ht, h3]
theorem resIR {W : World} {b : Nat} {v0 v1 v2 r : Value} {tmps : Array Value} (h : Cel3 W b v0 v1 v2) (ht : tmps[2]? = some (.pointer (some ⟨b, 0, none⟩))) (h3 : tmps[3]? = some r) : (results Tryz.f6 tmps).run Tryz.prog W = .ok (.tuple #[.agg #[v0, v1, v2], r]) W := by
  obtain ⟨h1, ⟨a0, a1, a2⟩, -⟩ := h
  simp [results, Tryz.results6, go_sem, a0, a1, a2, ht, h3]
theorem sp_len (t : List UInt8) (h : t.length ≤ 1048576) : (bt t).size ≤ maxLen := by rw [bt_size]; unfold maxLen; omega
set_option maxRecDepth 100000 in
set_option maxHeartbeats 8000000 in
theorem iFracRead (l : List UInt8) (hl : l.length ≤ 1048576) (w : World) (hT : Tab w) (hE : ET w) (hP : P10 w) :
    Calls Tryz.prog 6 #[.string (bt l)] w fun e w' => FRes w' w.heap.size e (okFR l) (bmin l) (topFR l) (botFR l) ∧ Below w.heap.size w w' := by
  have TT := hd (fun (w' : World) (h : Below w.heap.size w w') => (⟨hT.old h, hE.old h, hP.old h⟩ : Tab w' ∧ ET w' ∧ P10 w'))
  clear hT hE hP
  have K2 := Cel3.new w (.bool false) (.slice none 0 0) (.slice none 0 0) 24
  have hB : Below w.heap.size w (w.alloc (.cells #[.bool false, .slice none 0 0, .slice none 0 0] 24)) := (by repeat (first | exact Below.refl _ _ | refine Below.drew ?_ | refine old_alloc ?_ _ | refine old_trans ?_ (by assumption)))
  have hrl := rst_len l
  have CU := hd (fun w' => iCutS (rst l) (by omega) w')
  have CP := hd (fun w' => iCutPre l w')
  have hla := hd (l_all l)
  have FA := hd (fun (st : Bool) (t u : List UInt8) (hp : partsR (rst l) = (st, t, u)) (W : World) (e : Ending) (h : ResR W w.heap.size e (bmin l) st t u) (h2 : Below w.heap.size w W) => (⟨h.all hp, h2⟩ : FRes W w.heap.size e (okFR l) (bmin l) (topFR l) (botFR l) ∧ Below w.heap.size w W))
  generalize hb0 : bmin l = b0 at *
  generalize hr0 : rst l = r at *
  clear hb0 hr0
  go_enter Tryz.func6, Tryz.ntmps6
  generalize hW0 : w.alloc (.cells #[.bool false, .slice none 0 0, .slice none 0 0] 24) = W0 at *
  go_wp2_with fail
  clear hW0
  refine (CP.out _).mono ?_
  rintro e w' ⟨rfl, rfl⟩
  go_wp2_with fail
  refine (CU.out _).mono ?_
  rintro e wc ⟨he, hbc⟩
  replace K2 := K2.old hbc
  replace hB := old_trans hB hbc
  clear hbc CU CP
  rcases he with ⟨hq, rfl⟩ | ⟨n, hq, rfl⟩
  · obtain ⟨st, hst0⟩ : ∃ st, st = false := ⟨_, rfl⟩
    obtain ⟨t, ht0⟩ : ∃ t, t = r := ⟨_, rfl⟩
    obtain ⟨u, hu0⟩ : ∃ u, u = ([49] : List UInt8) := ⟨_, rfl⟩
    have hst : Hid (st = false → u = [49]) := fun _ => hu0
    have hlp : Hid (l = (if b0 then [45] else []) ++ (t ++ (if st then 47 :: u else []))) := by
      show _ = _
      rw [hst0, ht0]; simpa using hla.out
    have FIN := hd (FA.out st t u (by rw [hst0, ht0, hu0]; exact partsR_no hq))
    have e49 : (⟨#[49]⟩ : ByteArray) = bt u := by rw [hu0]; rfl
    have hlt : t.length ≤ 1048576 := by rw [ht0]; omega
    have hlu : u.length ≤ 1048576 := by rw [hu0]; simp
    have S1 := hd (fun w' => iNatRead (bt t) (sp_len t hlt) w')
    have S2 := hd (fun w' => iNatRead (bt u) (sp_len u hlu) w')
    rw [← ht0]
    clear hq hla FA hst0 ht0 hu0
    cases h1 : rdB (bt t)
    · have hno := hd (okR_no1 (b := b0) (st := st) (u := u) h1)
      rw [h1] at S1
      clear h1
      generalize rdB (bt u) = r2 at *
      generalize resN r2 (nv (bt u) (bt u).size) = qu at *
      go_wp2_with fail
      have y0 := K2.1
      refine (S1.out _).mono ?_
      rintro e v1 ⟨⟨avT, cvT, rfl, O1⟩, hc1⟩
      replace K2 := K2.old hc1
      replace hB := old_trans hB hc1
      have z1 := O1.lt
      have z1' := hc1.size
      have y1 := K2.1
      go_wp2_with fail
      refine (S2.out _).mono ?_
      rintro e v2 ⟨⟨avU, cvU, rfl, O2⟩, hc2⟩
      replace K2 := K2.old hc2
      replace hB := old_trans hB hc2
      replace O1 := O1.later hc2
      have z2' := hc2.size
      obtain ⟨m1, ⟨m2, m3, m4⟩, m5, m6, m7⟩ := id K2
      go_wp2
      refine bodyPost_ret (resIR ((K2.setAll (.bool false) (.slice none 0 0) (.slice none 0 0)).old (old_alloc (Below.refl _ _) (.cells #[.bool b0, .slice avT 0 cvT, .slice avU qu.length cvU] 24))) rfl rfl) rfl (FIN.out _ _ (ResR.no hno.out) (old_alloc (below_set (below_set (below_set hB (Nat.le_refl _) _) (Nat.le_refl _) _) (Nat.le_refl _) _) _))
    cases h2 : rdB (bt u)
    · have hno := hd (okR_no2 (b := b0) (st := st) (t := t) h2)
      rw [h1] at S1
      rw [h2] at S2
      clear h1 h2
      generalize resN true (nv (bt t) (bt t).size) = qt at *
      go_wp2_with fail
      have y0 := K2.1
      refine (S1.out _).mono ?_
      rintro e v1 ⟨⟨avT, cvT, rfl, O1⟩, hc1⟩
      replace K2 := K2.old hc1
      replace hB := old_trans hB hc1
      have z1 := O1.lt
      have z1' := hc1.size
      have y1 := K2.1
      go_wp2_with fail
      refine (S2.out _).mono ?_
      rintro e v2 ⟨⟨avU, cvU, rfl, O2⟩, hc2⟩
      replace K2 := K2.old hc2
      replace hB := old_trans hB hc2
      replace O1 := O1.later hc2
      have z2' := hc2.size
      obtain ⟨m1, ⟨m2, m3, m4⟩, m5, m6, m7⟩ := id K2
      go_wp2
      refine bodyPost_ret (resIR ((K2.setAll (.bool false) (.slice none 0 0) (.slice none 0 0)).old (old_alloc (Below.refl _ _) (.cells #[.bool b0, .slice avT qt.length cvT, .slice avU 0 cvU] 24))) rfl rfl) rfl (FIN.out _ _ (ResR.no hno.out) (old_alloc (below_set (below_set (below_set hB (Nat.le_refl _) _) (Nat.le_refl _) _) (Nat.le_refl _) _) _))
    have hyes := hd (okR_yes (b := b0) (st := st) h1 h2)
    have hno3 := hd (okR_no3 (b := b0) (st := st) (t := t) (u := u))
    have TI := hd (text_is (b := b0) (st := st) h1 h2 hst.out)
    rw [← hlp.out] at TI
    rw [h1] at S1
    rw [h2] at S2
    have hVV := hd (rdB_fits h1)
    have hUU := hd (rdB_fits h2)
    clear h1 h2
    obtain ⟨V, hV⟩ : ∃ V, nv (bt t) t.length = V := ⟨_, rfl⟩
    obtain ⟨U, hU⟩ : ∃ U, nv (bt u) u.length = U := ⟨_, rfl⟩
    rw [bt_size, hV, show resN true V = natL V from rfl] at S1
    rw [bt_size, hU, show resN true U = natL U from rfl] at S2
    have hV' := hd hV
    have hU' := hd hU
    rw [hV, hU] at hyes hno3 TI
    clear hV hU
    go_wp2_with fail
    have y0 := K2.1
    refine (S1.out _).mono ?_
    rintro e v1 ⟨⟨avT, cvT, rfl, O1⟩, hc1⟩
    replace K2 := K2.old hc1
    replace hB := old_trans hB hc1
    have z1 := O1.lt
    have z1' := hc1.size
    have y1 := K2.1
    go_wp2_with fail
    refine (S2.out _).mono ?_
    rintro e v2 ⟨⟨avU, cvU, rfl, O2⟩, hc2⟩
    replace K2 := K2.old hc2
    replace hB := old_trans hB hc2
    replace O1 := O1.later hc2
    have z2' := hc2.size
    have K3 := Cel3.new v2 (.bool b0) (.slice avT (natL V).length cvT) (.slice avU (natL U).length cvU) 24
    have hal : Below v2.heap.size v2 (v2.alloc (.cells #[.bool b0, .slice avT (natL V).length cvT, .slice avU (natL U).length cvU] 24)) := old_alloc (Below.refl _ _) _
    replace K2 := K2.old hal
    replace hB := old_trans hB hal
    replace O1 := O1.later hal
    replace O2 := O2.later hal
    have hs9 := hB.size
    have FO := hd (iFracText b0 avT avU _ _ cvT cvU (natL V) (natL U) _ O1.inI O2.inI (TT.out _ hB).1 (TT.out _ hB).2.1 (TT.out _ hB).2.2)
    cases hf : (fracOk b0 (natL V) (natL U) && !(st && decide (U = 1)))
    · have hno := hd (hno3.out hf)
      have hne : ¬ (frT b0 (natL V) (natL U) = bt l) := fun e => by rw [TI.out.1 e] at hf; cases hf
      generalize frT b0 (natL V) (natL U) = z at *
      have hne2 : (z.toList == (bt l).toList) = false := by
        rw [beq_eq_false_iff_ne]
        intro e
        rw [ByteArray.toList_eq, ByteArray.toList_eq] at e
        exact hne (by cases z; simp [bt] at e ⊢; exact Array.ext' (by simpa using e))
      clear hne TI hf
      obtain ⟨k1, ⟨k2, k3, k4⟩, -⟩ := id K3
      go_wp2_with fail
      refine FO.out.mono ?_
      rintro e v3 ⟨rfl, hc3⟩
      replace K2 := K2.old hc3
      replace hB := old_trans hB hc3
      obtain ⟨m1, ⟨m2, m3, m4⟩, m5, m6, m7⟩ := id K2
      go_wp2
      refine bodyPost_ret (resIR (K2.setAll (.bool false) (.slice none 0 0) (.slice none 0 0)) rfl rfl) rfl (FIN.out _ _ (ResR.no hno.out) (below_set (below_set (below_set hB (Nat.le_refl _) _) (Nat.le_refl _) _) (Nat.le_refl _) _))
    have hok := hd (hyes.out hf)
    rw [TI.out.2 hf] at FO
    clear hf TI
    obtain ⟨k1, ⟨k2, k3, k4⟩, -⟩ := id K3
    go_wp2_with fail
    refine FO.out.mono ?_
    rintro e v3 ⟨rfl, hc3⟩
    replace K2 := K2.old hc3
    replace hB := old_trans hB hc3
    replace O1 := O1.later hc3
    replace O2 := O2.later hc3
    replace K3 := K3.old hc3
    clear k1 k2 k3 k4
    obtain ⟨k1, ⟨k2, k3, k4⟩, -⟩ := id K3
    obtain ⟨m1, ⟨m2, m3, m4⟩, m5, m6, m7⟩ := id K2
    have sp : Sep avT avU := fun p q e1 e2 => by have h1 := z1 p e1; have h2 := O2.ge q e2; omega
    go_wp2
    refine bodyPost_ret (resIR (K2.setAll (.bool b0) (.slice avT (natL V).length cvT) (.slice avU (natL U).length cvU)) rfl rfl) rfl (FIN.out _ _ (ResR.yes hV'.out hU'.out hok.out ((oi_set3 O1 y0).mono (Nat.le_of_lt y0)) ((oi_set3 O2 y1).mono (Nat.le_of_lt y1)) sp) (below_set (below_set (below_set hB (Nat.le_refl _) _) (Nat.le_refl _) _) (Nat.le_refl _) _))

  · have h47 := stk_47 _ _ hq
    obtain ⟨st, hst0⟩ : ∃ st, st = true := ⟨_, rfl⟩
    obtain ⟨t, ht0⟩ : ∃ t, t = r.take n := ⟨_, rfl⟩
    obtain ⟨u, hu0⟩ : ∃ u, u = r.drop (n + 1) := ⟨_, rfl⟩
    have hst : Hid (st = false → u = [49]) := fun h => by rw [hst0] at h; cases h
    have hlp : Hid (l = (if b0 then [45] else []) ++ (t ++ (if st then 47 :: u else []))) := by
      show _ = _
      rw [hst0, ht0, hu0]
      have := l_parts h47.1 h47.2
      simp only [if_true]
      rw [← this]; exact hla.out
    have FIN := hd (FA.out st t u (by rw [hst0, ht0, hu0]; exact partsR_at hq))
    have hlt : t.length ≤ 1048576 := by rw [ht0, List.length_take]; omega
    have hlu : u.length ≤ 1048576 := by rw [hu0, List.length_drop]; omega
    have S1 := hd (fun w' => iNatRead (bt t) (sp_len t hlt) w')
    have S2 := hd (fun w' => iNatRead (bt u) (sp_len u hlu) w')
    rw [← ht0, ← hu0]
    clear hq hla FA hst0 ht0 hu0 h47
    cases h1 : rdB (bt t)
    · have hno := hd (okR_no1 (b := b0) (st := st) (u := u) h1)
      rw [h1] at S1
      clear h1
      generalize rdB (bt u) = r2 at *
      generalize resN r2 (nv (bt u) (bt u).size) = qu at *
      go_wp2_with fail
      have y0 := K2.1
      refine (S1.out _).mono ?_
      rintro e v1 ⟨⟨avT, cvT, rfl, O1⟩, hc1⟩
      replace K2 := K2.old hc1
      replace hB := old_trans hB hc1
      have z1 := O1.lt
      have z1' := hc1.size
      have y1 := K2.1
      go_wp2_with fail
      refine (S2.out _).mono ?_
      rintro e v2 ⟨⟨avU, cvU, rfl, O2⟩, hc2⟩
      replace K2 := K2.old hc2
      replace hB := old_trans hB hc2
      replace O1 := O1.later hc2
      have z2' := hc2.size
      obtain ⟨m1, ⟨m2, m3, m4⟩, m5, m6, m7⟩ := id K2
      go_wp2
      refine bodyPost_ret (resIR ((K2.setAll (.bool false) (.slice none 0 0) (.slice none 0 0)).old (old_alloc (Below.refl _ _) (.cells #[.bool b0, .slice avT 0 cvT, .slice avU qu.length cvU] 24))) rfl rfl) rfl (FIN.out _ _ (ResR.no hno.out) (old_alloc (below_set (below_set (below_set hB (Nat.le_refl _) _) (Nat.le_refl _) _) (Nat.le_refl _) _) _))
    cases h2 : rdB (bt u)
    · have hno := hd (okR_no2 (b := b0) (st := st) (t := t) h2)
      rw [h1] at S1
      rw [h2] at S2
      clear h1 h2
      generalize resN true (nv (bt t) (bt t).size) = qt at *
      go_wp2_with fail
      have y0 := K2.1
      refine (S1.out _).mono ?_
      rintro e v1 ⟨⟨avT, cvT, rfl, O1⟩, hc1⟩
      replace K2 := K2.old hc1
      replace hB := old_trans hB hc1
      have z1 := O1.lt
      have z1' := hc1.size
      have y1 := K2.1
      go_wp2_with fail
      refine (S2.out _).mono ?_
      rintro e v2 ⟨⟨avU, cvU, rfl, O2⟩, hc2⟩
      replace K2 := K2.old hc2
      replace hB := old_trans hB hc2
      replace O1 := O1.later hc2
      have z2' := hc2.size
      obtain ⟨m1, ⟨m2, m3, m4⟩, m5, m6, m7⟩ := id K2
      go_wp2
      refine bodyPost_ret (resIR ((K2.setAll (.bool false) (.slice none 0 0) (.slice none 0 0)).old (old_alloc (Below.refl _ _) (.cells #[.bool b0, .slice avT qt.length cvT, .slice avU 0 cvU] 24))) rfl rfl) rfl (FIN.out _ _ (ResR.no hno.out) (old_alloc (below_set (below_set (below_set hB (Nat.le_refl _) _) (Nat.le_refl _) _) (Nat.le_refl _) _) _))
    have hyes := hd (okR_yes (b := b0) (st := st) h1 h2)
    have hno3 := hd (okR_no3 (b := b0) (st := st) (t := t) (u := u))
    have TI := hd (text_is (b := b0) (st := st) h1 h2 hst.out)
    rw [← hlp.out] at TI
    rw [h1] at S1
    rw [h2] at S2
    have hVV := hd (rdB_fits h1)
    have hUU := hd (rdB_fits h2)
    clear h1 h2
    obtain ⟨V, hV⟩ : ∃ V, nv (bt t) t.length = V := ⟨_, rfl⟩
    obtain ⟨U, hU⟩ : ∃ U, nv (bt u) u.length = U := ⟨_, rfl⟩
    rw [bt_size, hV, show resN true V = natL V from rfl] at S1
    rw [bt_size, hU, show resN true U = natL U from rfl] at S2
    have hV' := hd hV
    have hU' := hd hU
    rw [hV, hU] at hyes hno3 TI
    clear hV hU
    go_wp2_with fail
    have y0 := K2.1
    refine (S1.out _).mono ?_
    rintro e v1 ⟨⟨avT, cvT, rfl, O1⟩, hc1⟩
    replace K2 := K2.old hc1
    replace hB := old_trans hB hc1
    have z1 := O1.lt
    have z1' := hc1.size
    have y1 := K2.1
    go_wp2_with fail
    refine (S2.out _).mono ?_
    rintro e v2 ⟨⟨avU, cvU, rfl, O2⟩, hc2⟩
    replace K2 := K2.old hc2
    replace hB := old_trans hB hc2
    replace O1 := O1.later hc2
    have z2' := hc2.size
    have K3 := Cel3.new v2 (.bool b0) (.slice avT (natL V).length cvT) (.slice avU (natL U).length cvU) 24
    have hal : Below v2.heap.size v2 (v2.alloc (.cells #[.bool b0, .slice avT (natL V).length cvT, .slice avU (natL U).length cvU] 24)) := old_alloc (Below.refl _ _) _
    replace K2 := K2.old hal
    replace hB := old_trans hB hal
    replace O1 := O1.later hal
    replace O2 := O2.later hal
    have hs9 := hB.size
    have FO := hd (iFracText b0 avT avU _ _ cvT cvU (natL V) (natL U) _ O1.inI O2.inI (TT.out _ hB).1 (TT.out _ hB).2.1 (TT.out _ hB).2.2)
    cases hf : (fracOk b0 (natL V) (natL U) && !(st && decide (U = 1)))
    · have hno := hd (hno3.out hf)
      have hne : ¬ (frT b0 (natL V) (natL U) = bt l) := fun e => by rw [TI.out.1 e] at hf; cases hf
      generalize frT b0 (natL V) (natL U) = z at *
      have hne2 : (z.toList == (bt l).toList) = false := by
        rw [beq_eq_false_iff_ne]
        intro e
        rw [ByteArray.toList_eq, ByteArray.toList_eq] at e
        exact hne (by cases z; simp [bt] at e ⊢; exact Array.ext' (by simpa using e))
      clear hne TI hf
      obtain ⟨k1, ⟨k2, k3, k4⟩, -⟩ := id K3
      go_wp2_with fail
      refine FO.out.mono ?_
      rintro e v3 ⟨rfl, hc3⟩
      replace K2 := K2.old hc3
      replace hB := old_trans hB hc3
      obtain ⟨m1, ⟨m2, m3, m4⟩, m5, m6, m7⟩ := id K2
      go_wp2
      refine bodyPost_ret (resIR (K2.setAll (.bool false) (.slice none 0 0) (.slice none 0 0)) rfl rfl) rfl (FIN.out _ _ (ResR.no hno.out) (below_set (below_set (below_set hB (Nat.le_refl _) _) (Nat.le_refl _) _) (Nat.le_refl _) _))
    have hok := hd (hyes.out hf)
    rw [TI.out.2 hf] at FO
    clear hf TI
    obtain ⟨k1, ⟨k2, k3, k4⟩, -⟩ := id K3
    go_wp2_with fail
    refine FO.out.mono ?_
    rintro e v3 ⟨rfl, hc3⟩
    replace K2 := K2.old hc3
    replace hB := old_trans hB hc3
    replace O1 := O1.later hc3
    replace O2 := O2.later hc3
    replace K3 := K3.old hc3
    clear k1 k2 k3 k4
    obtain ⟨k1, ⟨k2, k3, k4⟩, -⟩ := id K3
    obtain ⟨m1, ⟨m2, m3, m4⟩, m5, m6, m7⟩ := id K2
    have sp : Sep avT avU := fun p q e1 e2 => by have h1 := z1 p e1; have h2 := O2.ge q e2; omega
    go_wp2
    refine bodyPost_ret (resIR (K2.setAll (.bool b0) (.slice avT (natL V).length cvT) (.slice avU (natL U).length cvU)) rfl rfl) rfl (FIN.out _ _ (ResR.yes hV'.out hU'.out hok.out ((oi_set3 O1 y0).mono (Nat.le_of_lt y0)) ((oi_set3 O2 y1).mono (Nat.le_of_lt y1)) sp) (below_set (below_set (below_set hB (Nat.le_refl _) _) (Nat.le_refl _) _) (Nat.le_refl _) _))

end Go.Proofs.YtlfaiekcmflgnaaGreatDoor

/- FracRead of the specification. Nothing that was there is written. No condition but the text's length. -/
namespace Go.Proofs.YtlfaiekcmflgnaaGreatDoor
open Go.RowKit Go.Lib
set_option linter.unusedVariables false
set_option maxRecDepth 100000

set_option maxRecDepth 100000 in
set_option maxHeartbeats 16000000 in
theorem sFracRead (l : List UInt8) (hl : l.length ≤ 1048576) (w : World) :
    Calls Tryz.prog 5 #[.string (bt l)] w fun e w' => FRes w' w.heap.size e (okFR l) (bmin l) (topFR l) (botFR l) ∧ Below w.heap.size w w' := by
  have K2 := Cel3.new w (.bool false) (.slice none 0 0) (.slice none 0 0) 24
  have hB : Below w.heap.size w (w.alloc (.cells #[.bool false, .slice none 0 0, .slice none 0 0] 24)) := (by repeat (first | exact Below.refl _ _ | refine Below.drew ?_ | refine old_alloc ?_ _ | refine old_trans ?_ (by assumption)))
  have FA := hd (fun (st : Bool) (t u : List UInt8) (hp : partsR (rst l) = (st, t, u)) (W : World) (e : Ending) (h : ResR W w.heap.size e (bmin l) st t u) (h2 : Below w.heap.size w W) => (⟨h.all hp, h2⟩ : FRes W w.heap.size e (okFR l) (bmin l) (topFR l) (botFR l) ∧ Below w.heap.size w W))
  generalize okFR l = okl at *
  generalize topFR l = tpl at *
  generalize botFR l = btl at *
  obtain ⟨r, hr⟩ : ∃ r, rst l = r := ⟨_, rfl⟩
  have hrl : r.length ≤ 1048576 := by have := rst_len l; rw [hr] at this; omega
  rw [hr] at FA
  cases hb : bmin l
  · rw [hb] at FA
    obtain rfl : l = r := by rw [← hr, rst_not hb]
    cases hl0 : l with
    | nil =>
      have hl1 : l.length = 0 := by rw [hl0]; rfl
      rw [← hl0]
      have hsz0 : (bt l).size = 0 := hl1
      have hl1' := hd hl1
      clear hr hb hl0 hl1
      go_enter Tryz.func5, Tryz.ntmps5
      generalize hW0 : w.alloc (.cells #[.bool false, .slice none 0 0, .slice none 0 0] 24) = WX at *
      go_wp2_with fail
      clear hW0
      obtain ⟨r, rfl⟩ : ∃ r, r = l := ⟨_, rfl⟩
      go_loopw [5, 6, 7] (fun a5 a6 i wr => ∃ k : Nat, k ≤ r.length ∧ a5 = .string (bt r) ∧ a6 = .string ⟨#[49]⟩ ∧ i = .int .i64 (k : Int) ∧ (∀ j, j < k → r.getD j 0 ≠ 47) ∧ wr = WX) (fun _ _ i _ => r.length - (Lib.intOf i).toNat)
      case atStart => exact ⟨0, by omega, rfl, rfl, rfl, fun j hj => by omega, rfl⟩
      case round =>
        obtain ⟨k, hk, rfl, rfl, rfl, hj, rfl⟩ := hrel
        by_cases hlt : k < r.length
        · exact absurd hlt (by have := hl1'.out; omega)
        · obtain rfl : k = r.length := by omega
          have hq := stk_no r hj
          obtain ⟨st, hst0⟩ : ∃ st, st = false := ⟨_, rfl⟩
          obtain ⟨t, ht0⟩ : ∃ t, t = r := ⟨_, rfl⟩
          obtain ⟨u, hu0⟩ : ∃ u, u = ([49] : List UInt8) := ⟨_, rfl⟩
          have FIN := hd (FA.out st t u (by rw [hst0, ht0, hu0]; exact partsR_no hq))
          have e49 : (⟨#[49]⟩ : ByteArray) = bt u := by rw [hu0]; rfl
          have hlt' : t.length ≤ 1048576 := by rw [ht0]; omega
          have hlu : u.length ≤ 1048576 := by rw [hu0]; simp
          have HS : Hid (rdB (bt u) = true → (st && decide (nv (bt u) u.length = 1)) = false) := fun _ => by rw [hst0]; rfl
          have S1 := hd (fun w' => sNatRead (bt t) (sp_len t hlt') w')
          have S2 := hd (fun w' => sNatRead (bt u) (sp_len u hlu) w')
          rw [e49, ← ht0]
          rw [← ht0] at hsz0 hl1'
          clear hq hj FA hst0 hu0 e49 hlt ht0
          have hk0 : (t.length : Int) = 0 := by have := hl1'.out; omega
          cases h1 : rdB (bt t)
          · have hno := hd (okR_no1 (b := false) (st := st) (u := u) h1)
            rw [h1] at S1
            clear h1
            generalize rdB (bt u) = r2 at *
            generalize resN r2 (nv (bt u) (bt u).size) = qu at *
            go_wp2_with fail
            have y0 := K2.1
            refine (S1.out _).mono ?_
            rintro e v1 ⟨⟨avT, cvT, rfl, O1⟩, hc1⟩
            replace K2 := K2.old hc1
            replace hB := old_trans hB hc1
            have z1 := O1.lt
            have z1' := hc1.size
            have y1 := K2.1
            go_wp2_with fail
            refine (S2.out _).mono ?_
            rintro e v2 ⟨⟨avU, cvU, rfl, O2⟩, hc2⟩
            replace K2 := K2.old hc2
            replace hB := old_trans hB hc2
            replace O1 := O1.later hc2
            have z2' := hc2.size
            obtain ⟨m1, ⟨m2, m3, m4⟩, m5, m6, m7⟩ := id K2
            go_wp2
            refine bodyPost_ret (resSR ((K2.setAll (.bool false) (.slice none 0 0) (.slice none 0 0)).old (old_alloc (Below.refl _ _) (.cells #[.bool false, .slice avT 0 cvT, .slice avU qu.length cvU] 24))) rfl rfl) rfl (FIN.out _ _ (ResR.no hno.out) (old_alloc (below_set (below_set (below_set hB (Nat.le_refl _) _) (Nat.le_refl _) _) (Nat.le_refl _) _) _))
          cases h2 : rdB (bt u)
          · have hno := hd (okR_no2 (b := false) (st := st) (t := t) h2)
            rw [h1] at S1
            rw [h2] at S2
            clear h1 h2
            generalize resN true (nv (bt t) (bt t).size) = qt at *
            go_wp2_with fail
            have y0 := K2.1
            refine (S1.out _).mono ?_
            rintro e v1 ⟨⟨avT, cvT, rfl, O1⟩, hc1⟩
            replace K2 := K2.old hc1
            replace hB := old_trans hB hc1
            have z1 := O1.lt
            have z1' := hc1.size
            have y1 := K2.1
            go_wp2_with fail
            refine (S2.out _).mono ?_
            rintro e v2 ⟨⟨avU, cvU, rfl, O2⟩, hc2⟩
            replace K2 := K2.old hc2
            replace hB := old_trans hB hc2
            replace O1 := O1.later hc2
            have z2' := hc2.size
            obtain ⟨m1, ⟨m2, m3, m4⟩, m5, m6, m7⟩ := id K2
            go_wp2
            refine bodyPost_ret (resSR ((K2.setAll (.bool false) (.slice none 0 0) (.slice none 0 0)).old (old_alloc (Below.refl _ _) (.cells #[.bool false, .slice avT qt.length cvT, .slice avU 0 cvU] 24))) rfl rfl) rfl (FIN.out _ _ (ResR.no hno.out) (old_alloc (below_set (below_set (below_set hB (Nat.le_refl _) _) (Nat.le_refl _) _) (Nat.le_refl _) _) _))
          have hyes := hd (okR_yes (b := false) (st := st) h1 h2)
          have hno3 := hd (okR_no3 (b := false) (st := st) (t := t) (u := u))
          have hst1 := hd (HS.out h2)
          rw [h1] at S1
          rw [h2] at S2
          clear h1 h2
          obtain ⟨V, hV⟩ : ∃ V, nv (bt t) t.length = V := ⟨_, rfl⟩
          obtain ⟨U, hU⟩ : ∃ U, nv (bt u) u.length = U := ⟨_, rfl⟩
          rw [bt_size, hV, show resN true V = natL V from rfl] at S1
          rw [bt_size, hU, show resN true U = natL U from rfl] at S2
          have hV' := hd hV
          have hU' := hd hU
          rw [hV, hU] at hyes hno3
          rw [hU] at hst1
          clear hV hU
          go_wp2_with fail
          have y0 := K2.1
          refine (S1.out _).mono ?_
          rintro e v1 ⟨⟨avT, cvT, rfl, O1⟩, hc1⟩
          replace K2 := K2.old hc1
          replace hB := old_trans hB hc1
          have z1 := O1.lt
          have z1' := hc1.size
          have y1 := K2.1
          go_wp2_with fail
          refine (S2.out _).mono ?_
          rintro e v2 ⟨⟨avU, cvU, rfl, O2⟩, hc2⟩
          replace K2 := K2.old hc2
          replace hB := old_trans hB hc2
          replace O1 := O1.later hc2
          have z2' := hc2.size
          have K3 := Cel3.new v2 (.bool false) (.slice avT (natL V).length cvT) (.slice avU (natL U).length cvU) 24
          have hal : Below v2.heap.size v2 (v2.alloc (.cells #[.bool false, .slice avT (natL V).length cvT, .slice avU (natL U).length cvU] 24)) := old_alloc (Below.refl _ _) _
          replace K2 := K2.old hal
          replace hB := old_trans hB hal
          replace O1 := O1.later hal
          replace O2 := O2.later hal
          have FO := hd (sFracOk false avT avU _ _ cvT cvU (natL V) (natL U) _ O1.inI O2.inI)
          cases hf : fracOk false (natL V) (natL U)
          · have hno := hd (hno3.out (by rw [hf]; rfl))
            rw [hf] at FO
            clear hf
            obtain ⟨k1, ⟨k2, k3, k4⟩, -⟩ := id K3
            go_wp2_with fail
            refine FO.out.mono ?_
            rintro e v3 ⟨rfl, hc3⟩
            replace K2 := K2.old hc3
            replace hB := old_trans hB hc3
            obtain ⟨m1, ⟨m2, m3, m4⟩, m5, m6, m7⟩ := id K2
            go_wp2
            refine bodyPost_ret (resSR (K2.setAll (.bool false) (.slice none 0 0) (.slice none 0 0)) rfl rfl) rfl (FIN.out _ _ (ResR.no hno.out) (below_set (below_set (below_set hB (Nat.le_refl _) _) (Nat.le_refl _) _) (Nat.le_refl _) _))
          have hok := hd (hyes.out (by rw [hf, hst1.out]; rfl))
          rw [hf] at FO
          clear hf
          obtain ⟨k1, ⟨k2, k3, k4⟩, -⟩ := id K3
          go_wp2_with fail
          refine FO.out.mono ?_
          rintro e v3 ⟨rfl, hc3⟩
          replace K2 := K2.old hc3
          replace hB := old_trans hB hc3
          replace O1 := O1.later hc3
          replace O2 := O2.later hc3
          replace K3 := K3.old hc3
          clear k1 k2 k3 k4
          obtain ⟨k1, ⟨k2, k3, k4⟩, -⟩ := id K3
          obtain ⟨m1, ⟨m2, m3, m4⟩, m5, m6, m7⟩ := id K2
          have sp : Sep avT avU := fun p q e1 e2 => by have h1 := z1 p e1; have h2 := O2.ge q e2; omega
          go_wp2
          refine bodyPost_ret (resSR (K2.setAll (.bool false) (.slice avT (natL V).length cvT) (.slice avU (natL U).length cvU)) rfl rfl) rfl (FIN.out _ _ (ResR.yes hV'.out hU'.out hok.out ((oi_set3 O1 y0).mono (Nat.le_of_lt y0)) ((oi_set3 O2 y1).mono (Nat.le_of_lt y1)) sp) (below_set (below_set (below_set hB (Nat.le_refl _) _) (Nat.le_refl _) _) (Nat.le_refl _) _))
    | cons b t9 =>
      have hl1 : 0 < l.length := by rw [hl0]; simp
      have hb45 : ¬ (byt (bt l) 0 = 45) := by
        intro e
        rw [hl0, bmin_cons] at hb
        rw [byt_bt, hl0] at e
        have e3 : ((b.toNat : Nat) : Int) = 45 := e
        have e2 : b.toNat = 45 := by omega
        have : b = 45 := UInt8.toNat_inj.1 e2
        subst this
        simp at hb
      rw [← hl0]
      have ix0 := idxS0 Tryz.underlying9 (bt l) (by rw [bt_size]; exact hl1)
      have bd0 := byt_bd (bt l) 0
      have hI : (0 : Int) < (l.length : Int) := by omega
      generalize byt (bt l) 0 = y0_ at *
      have hyb : (y0_ == 45) = false := by simpa using hb45
      clear hr hb hl0
      go_enter Tryz.func5, Tryz.ntmps5
      generalize hW0 : w.alloc (.cells #[.bool false, .slice none 0 0, .slice none 0 0] 24) = WX at *
      go_wp2_with fail
      clear hW0 hI hl1 ix0 bd0 hyb hb45
      obtain ⟨r, rfl⟩ : ∃ r, r = l := ⟨_, rfl⟩
      go_loopw [5, 6, 7] (fun a5 a6 i wr => ∃ k : Nat, k ≤ r.length ∧ a5 = .string (bt r) ∧ a6 = .string ⟨#[49]⟩ ∧ i = .int .i64 (k : Int) ∧ (∀ j, j < k → r.getD j 0 ≠ 47) ∧ wr = WX) (fun _ _ i _ => r.length - (Lib.intOf i).toNat)
      case atStart => exact ⟨0, by omega, rfl, rfl, rfl, fun j hj => by omega, rfl⟩
      case round =>
        obtain ⟨k, hk, rfl, rfl, rfl, hj, rfl⟩ := hrel
        by_cases hlt : k < r.length
        · have ix := idxS Tryz.underlying9 (bt r) k (by rw [bt_size]; exact hlt)
          rw [byt_bt] at ix
          have hkI : (k : Int) < (r.length : Int) := by omega
          have hkI2 : (r.length : Int) ≤ 1048576 := by omega
          by_cases h47 : r.getD k 0 = 47
          · have hq := stk_at r k hlt hj h47
            rw [h47, show ((47 : UInt8).toNat : Int) = 47 from rfl] at ix
            have s1 := slTo r k (by omega)
            have s2 := slFrom1 r k (by omega)
            obtain ⟨st, hst0⟩ : ∃ st, st = true := ⟨_, rfl⟩
            obtain ⟨t, ht0⟩ : ∃ t, t = r.take k := ⟨_, rfl⟩
            obtain ⟨u, hu0⟩ : ∃ u, u = r.drop (k + 1) := ⟨_, rfl⟩
            have FIN := hd (FA.out st t u (by rw [hst0, ht0, hu0]; exact partsR_at hq))
            have hlt' : t.length ≤ 1048576 := by rw [ht0, List.length_take]; omega
            have hlu : u.length ≤ 1048576 := by rw [hu0, List.length_drop]; omega
            rw [← ht0] at s1
            rw [← hu0] at s2
            by_cases hu : u = [49]
            · have hno : Hid (okR false st t u = false) := by show _ = _; rw [hst0, hu]; exact okR_one
              have e9 : ((bt u).toList == [49]) = true := by rw [hu, ByteArray.toList_eq]; rfl
              clear hq hj h47 hst0 ht0 hu0 hu
              obtain ⟨m1, ⟨m2, m3, m4⟩, m5, m6, m7⟩ := id K2
              go_wp2
              refine bodyPost_ret (resSR (K2.setAll (.bool false) (.slice none 0 0) (.slice none 0 0)) rfl rfl) rfl (FIN.out _ _ (ResR.no hno.out) (below_set (below_set (below_set hB (Nat.le_refl _) _) (Nat.le_refl _) _) (Nat.le_refl _) _))
            · have e9 : ((bt u).toList == [49]) = false := by
                rw [beq_eq_false_iff_ne, ByteArray.toList_eq]
                simpa [bt] using hu
              have HS : Hid (rdB (bt u) = true → (st && decide (nv (bt u) u.length = 1)) = false) := fun h => by
                have := nv_not1 h hu
                simp [this]
              have S1 := hd (fun w' => sNatRead (bt t) (sp_len t hlt') w')
              have S2 := hd (fun w' => sNatRead (bt u) (sp_len u hlu) w')
              clear hq hj h47 hst0 ht0 hu0 hu FA
              cases h1 : rdB (bt t)
              · have hno := hd (okR_no1 (b := false) (st := st) (u := u) h1)
                rw [h1] at S1
                clear h1
                generalize rdB (bt u) = r2 at *
                generalize resN r2 (nv (bt u) (bt u).size) = qu at *
                go_wp2_with fail
                have y0 := K2.1
                refine (S1.out _).mono ?_
                rintro e v1 ⟨⟨avT, cvT, rfl, O1⟩, hc1⟩
                replace K2 := K2.old hc1
                replace hB := old_trans hB hc1
                have z1 := O1.lt
                have z1' := hc1.size
                have y1 := K2.1
                go_wp2_with fail
                refine (S2.out _).mono ?_
                rintro e v2 ⟨⟨avU, cvU, rfl, O2⟩, hc2⟩
                replace K2 := K2.old hc2
                replace hB := old_trans hB hc2
                replace O1 := O1.later hc2
                have z2' := hc2.size
                obtain ⟨m1, ⟨m2, m3, m4⟩, m5, m6, m7⟩ := id K2
                go_wp2
                refine bodyPost_ret (resSR ((K2.setAll (.bool false) (.slice none 0 0) (.slice none 0 0)).old (old_alloc (Below.refl _ _) (.cells #[.bool false, .slice avT 0 cvT, .slice avU qu.length cvU] 24))) rfl rfl) rfl (FIN.out _ _ (ResR.no hno.out) (old_alloc (below_set (below_set (below_set hB (Nat.le_refl _) _) (Nat.le_refl _) _) (Nat.le_refl _) _) _))
              cases h2 : rdB (bt u)
              · have hno := hd (okR_no2 (b := false) (st := st) (t := t) h2)
                rw [h1] at S1
                rw [h2] at S2
                clear h1 h2
                generalize resN true (nv (bt t) (bt t).size) = qt at *
                go_wp2_with fail
                have y0 := K2.1
                refine (S1.out _).mono ?_
                rintro e v1 ⟨⟨avT, cvT, rfl, O1⟩, hc1⟩
                replace K2 := K2.old hc1
                replace hB := old_trans hB hc1
                have z1 := O1.lt
                have z1' := hc1.size
                have y1 := K2.1
                go_wp2_with fail
                refine (S2.out _).mono ?_
                rintro e v2 ⟨⟨avU, cvU, rfl, O2⟩, hc2⟩
                replace K2 := K2.old hc2
                replace hB := old_trans hB hc2
                replace O1 := O1.later hc2
                have z2' := hc2.size
                obtain ⟨m1, ⟨m2, m3, m4⟩, m5, m6, m7⟩ := id K2
                go_wp2
                refine bodyPost_ret (resSR ((K2.setAll (.bool false) (.slice none 0 0) (.slice none 0 0)).old (old_alloc (Below.refl _ _) (.cells #[.bool false, .slice avT qt.length cvT, .slice avU 0 cvU] 24))) rfl rfl) rfl (FIN.out _ _ (ResR.no hno.out) (old_alloc (below_set (below_set (below_set hB (Nat.le_refl _) _) (Nat.le_refl _) _) (Nat.le_refl _) _) _))
              have hyes := hd (okR_yes (b := false) (st := st) h1 h2)
              have hno3 := hd (okR_no3 (b := false) (st := st) (t := t) (u := u))
              have hst1 := hd (HS.out h2)
              rw [h1] at S1
              rw [h2] at S2
              clear h1 h2
              obtain ⟨V, hV⟩ : ∃ V, nv (bt t) t.length = V := ⟨_, rfl⟩
              obtain ⟨U, hU⟩ : ∃ U, nv (bt u) u.length = U := ⟨_, rfl⟩
              rw [bt_size, hV, show resN true V = natL V from rfl] at S1
              rw [bt_size, hU, show resN true U = natL U from rfl] at S2
              have hV' := hd hV
              have hU' := hd hU
              rw [hV, hU] at hyes hno3
              rw [hU] at hst1
              clear hV hU
              go_wp2_with fail
              have y0 := K2.1
              refine (S1.out _).mono ?_
              rintro e v1 ⟨⟨avT, cvT, rfl, O1⟩, hc1⟩
              replace K2 := K2.old hc1
              replace hB := old_trans hB hc1
              have z1 := O1.lt
              have z1' := hc1.size
              have y1 := K2.1
              go_wp2_with fail
              refine (S2.out _).mono ?_
              rintro e v2 ⟨⟨avU, cvU, rfl, O2⟩, hc2⟩
              replace K2 := K2.old hc2
              replace hB := old_trans hB hc2
              replace O1 := O1.later hc2
              have z2' := hc2.size
              have K3 := Cel3.new v2 (.bool false) (.slice avT (natL V).length cvT) (.slice avU (natL U).length cvU) 24
              have hal : Below v2.heap.size v2 (v2.alloc (.cells #[.bool false, .slice avT (natL V).length cvT, .slice avU (natL U).length cvU] 24)) := old_alloc (Below.refl _ _) _
              replace K2 := K2.old hal
              replace hB := old_trans hB hal
              replace O1 := O1.later hal
              replace O2 := O2.later hal
              have FO := hd (sFracOk false avT avU _ _ cvT cvU (natL V) (natL U) _ O1.inI O2.inI)
              cases hf : fracOk false (natL V) (natL U)
              · have hno := hd (hno3.out (by rw [hf]; rfl))
                rw [hf] at FO
                clear hf
                obtain ⟨k1, ⟨k2, k3, k4⟩, -⟩ := id K3
                go_wp2_with fail
                refine FO.out.mono ?_
                rintro e v3 ⟨rfl, hc3⟩
                replace K2 := K2.old hc3
                replace hB := old_trans hB hc3
                obtain ⟨m1, ⟨m2, m3, m4⟩, m5, m6, m7⟩ := id K2
                go_wp2
                refine bodyPost_ret (resSR (K2.setAll (.bool false) (.slice none 0 0) (.slice none 0 0)) rfl rfl) rfl (FIN.out _ _ (ResR.no hno.out) (below_set (below_set (below_set hB (Nat.le_refl _) _) (Nat.le_refl _) _) (Nat.le_refl _) _))
              have hok := hd (hyes.out (by rw [hf, hst1.out]; rfl))
              rw [hf] at FO
              clear hf
              obtain ⟨k1, ⟨k2, k3, k4⟩, -⟩ := id K3
              go_wp2_with fail
              refine FO.out.mono ?_
              rintro e v3 ⟨rfl, hc3⟩
              replace K2 := K2.old hc3
              replace hB := old_trans hB hc3
              replace O1 := O1.later hc3
              replace O2 := O2.later hc3
              replace K3 := K3.old hc3
              clear k1 k2 k3 k4
              obtain ⟨k1, ⟨k2, k3, k4⟩, -⟩ := id K3
              obtain ⟨m1, ⟨m2, m3, m4⟩, m5, m6, m7⟩ := id K2
              have sp : Sep avT avU := fun p q e1 e2 => by have h1 := z1 p e1; have h2 := O2.ge q e2; omega
              go_wp2
              refine bodyPost_ret (resSR (K2.setAll (.bool false) (.slice avT (natL V).length cvT) (.slice avU (natL U).length cvU)) rfl rfl) rfl (FIN.out _ _ (ResR.yes hV'.out hU'.out hok.out ((oi_set3 O1 y0).mono (Nat.le_of_lt y0)) ((oi_set3 O2 y1).mono (Nat.le_of_lt y1)) sp) (below_set (below_set (below_set hB (Nat.le_refl _) _) (Nat.le_refl _) _) (Nat.le_refl _) _))
          · have hne : ¬ (((r.getD k 0).toNat : Int) = 47) := fun e => h47 (by
              apply UInt8.toNat_inj.1
              show (r.getD k 0).toNat = 47
              omega)
            have hj' : Hid (∀ j, j < k + 1 → r.getD j 0 ≠ 47) := fun j hj1 => by
              by_cases e : j = k
              · subst e; exact h47
              · exact hj j (by omega)
            have bd : ((r.getD k 0).toNat : Int) ≤ 255 := by have := (r.getD k 0).toNat_lt; omega
            generalize ((r.getD k 0).toNat : Int) = by_ at *
            have hneb : (by_ == 47) = false := by simpa using hne
            clear hj h47 FA K2 hB
            go_wp2
            go_roundw
            case rel => exact ⟨k + 1, by omega, rfl, rfl, by go_num, hj'.out, by first | rfl | trivial⟩
            case measure => simp [Lib.intOf]; omega
        · obtain rfl : k = r.length := by omega
          have hq := stk_no r hj
          obtain ⟨st, hst0⟩ : ∃ st, st = false := ⟨_, rfl⟩
          obtain ⟨t, ht0⟩ : ∃ t, t = r := ⟨_, rfl⟩
          obtain ⟨u, hu0⟩ : ∃ u, u = ([49] : List UInt8) := ⟨_, rfl⟩
          have FIN := hd (FA.out st t u (by rw [hst0, ht0, hu0]; exact partsR_no hq))
          have e49 : (⟨#[49]⟩ : ByteArray) = bt u := by rw [hu0]; rfl
          have hlt' : t.length ≤ 1048576 := by rw [ht0]; omega
          have hlu : u.length ≤ 1048576 := by rw [hu0]; simp
          have HS : Hid (rdB (bt u) = true → (st && decide (nv (bt u) u.length = 1)) = false) := fun _ => by rw [hst0]; rfl
          have S1 := hd (fun w' => sNatRead (bt t) (sp_len t hlt') w')
          have S2 := hd (fun w' => sNatRead (bt u) (sp_len u hlu) w')
          rw [e49, ← ht0]
          clear hq hj FA hst0 hu0 e49 hlt ht0
          have hszt := bt_size t
          have hni : ¬ ((t.length : Int) < (t.length : Int)) := by omega
          cases h1 : rdB (bt t)
          · have hno := hd (okR_no1 (b := false) (st := st) (u := u) h1)
            rw [h1] at S1
            clear h1
            generalize rdB (bt u) = r2 at *
            generalize resN r2 (nv (bt u) (bt u).size) = qu at *
            go_wp2_with fail
            have y0 := K2.1
            refine (S1.out _).mono ?_
            rintro e v1 ⟨⟨avT, cvT, rfl, O1⟩, hc1⟩
            replace K2 := K2.old hc1
            replace hB := old_trans hB hc1
            have z1 := O1.lt
            have z1' := hc1.size
            have y1 := K2.1
            go_wp2_with fail
            refine (S2.out _).mono ?_
            rintro e v2 ⟨⟨avU, cvU, rfl, O2⟩, hc2⟩
            replace K2 := K2.old hc2
            replace hB := old_trans hB hc2
            replace O1 := O1.later hc2
            have z2' := hc2.size
            obtain ⟨m1, ⟨m2, m3, m4⟩, m5, m6, m7⟩ := id K2
            go_wp2
            refine bodyPost_ret (resSR ((K2.setAll (.bool false) (.slice none 0 0) (.slice none 0 0)).old (old_alloc (Below.refl _ _) (.cells #[.bool false, .slice avT 0 cvT, .slice avU qu.length cvU] 24))) rfl rfl) rfl (FIN.out _ _ (ResR.no hno.out) (old_alloc (below_set (below_set (below_set hB (Nat.le_refl _) _) (Nat.le_refl _) _) (Nat.le_refl _) _) _))
          cases h2 : rdB (bt u)
          · have hno := hd (okR_no2 (b := false) (st := st) (t := t) h2)
            rw [h1] at S1
            rw [h2] at S2
            clear h1 h2
            generalize resN true (nv (bt t) (bt t).size) = qt at *
            go_wp2_with fail
            have y0 := K2.1
            refine (S1.out _).mono ?_
            rintro e v1 ⟨⟨avT, cvT, rfl, O1⟩, hc1⟩
            replace K2 := K2.old hc1
            replace hB := old_trans hB hc1
            have z1 := O1.lt
            have z1' := hc1.size
            have y1 := K2.1
            go_wp2_with fail
            refine (S2.out _).mono ?_
            rintro e v2 ⟨⟨avU, cvU, rfl, O2⟩, hc2⟩
            replace K2 := K2.old hc2
            replace hB := old_trans hB hc2
            replace O1 := O1.later hc2
            have z2' := hc2.size
            obtain ⟨m1, ⟨m2, m3, m4⟩, m5, m6, m7⟩ := id K2
            go_wp2
            refine bodyPost_ret (resSR ((K2.setAll (.bool false) (.slice none 0 0) (.slice none 0 0)).old (old_alloc (Below.refl _ _) (.cells #[.bool false, .slice avT qt.length cvT, .slice avU 0 cvU] 24))) rfl rfl) rfl (FIN.out _ _ (ResR.no hno.out) (old_alloc (below_set (below_set (below_set hB (Nat.le_refl _) _) (Nat.le_refl _) _) (Nat.le_refl _) _) _))
          have hyes := hd (okR_yes (b := false) (st := st) h1 h2)
          have hno3 := hd (okR_no3 (b := false) (st := st) (t := t) (u := u))
          have hst1 := hd (HS.out h2)
          rw [h1] at S1
          rw [h2] at S2
          clear h1 h2
          obtain ⟨V, hV⟩ : ∃ V, nv (bt t) t.length = V := ⟨_, rfl⟩
          obtain ⟨U, hU⟩ : ∃ U, nv (bt u) u.length = U := ⟨_, rfl⟩
          rw [bt_size, hV, show resN true V = natL V from rfl] at S1
          rw [bt_size, hU, show resN true U = natL U from rfl] at S2
          have hV' := hd hV
          have hU' := hd hU
          rw [hV, hU] at hyes hno3
          rw [hU] at hst1
          clear hV hU
          go_wp2_with fail
          have y0 := K2.1
          refine (S1.out _).mono ?_
          rintro e v1 ⟨⟨avT, cvT, rfl, O1⟩, hc1⟩
          replace K2 := K2.old hc1
          replace hB := old_trans hB hc1
          have z1 := O1.lt
          have z1' := hc1.size
          have y1 := K2.1
          go_wp2_with fail
          refine (S2.out _).mono ?_
          rintro e v2 ⟨⟨avU, cvU, rfl, O2⟩, hc2⟩
          replace K2 := K2.old hc2
          replace hB := old_trans hB hc2
          replace O1 := O1.later hc2
          have z2' := hc2.size
          have K3 := Cel3.new v2 (.bool false) (.slice avT (natL V).length cvT) (.slice avU (natL U).length cvU) 24
          have hal : Below v2.heap.size v2 (v2.alloc (.cells #[.bool false, .slice avT (natL V).length cvT, .slice avU (natL U).length cvU] 24)) := old_alloc (Below.refl _ _) _
          replace K2 := K2.old hal
          replace hB := old_trans hB hal
          replace O1 := O1.later hal
          replace O2 := O2.later hal
          have FO := hd (sFracOk false avT avU _ _ cvT cvU (natL V) (natL U) _ O1.inI O2.inI)
          cases hf : fracOk false (natL V) (natL U)
          · have hno := hd (hno3.out (by rw [hf]; rfl))
            rw [hf] at FO
            clear hf
            obtain ⟨k1, ⟨k2, k3, k4⟩, -⟩ := id K3
            go_wp2_with fail
            refine FO.out.mono ?_
            rintro e v3 ⟨rfl, hc3⟩
            replace K2 := K2.old hc3
            replace hB := old_trans hB hc3
            obtain ⟨m1, ⟨m2, m3, m4⟩, m5, m6, m7⟩ := id K2
            go_wp2
            refine bodyPost_ret (resSR (K2.setAll (.bool false) (.slice none 0 0) (.slice none 0 0)) rfl rfl) rfl (FIN.out _ _ (ResR.no hno.out) (below_set (below_set (below_set hB (Nat.le_refl _) _) (Nat.le_refl _) _) (Nat.le_refl _) _))
          have hok := hd (hyes.out (by rw [hf, hst1.out]; rfl))
          rw [hf] at FO
          clear hf
          obtain ⟨k1, ⟨k2, k3, k4⟩, -⟩ := id K3
          go_wp2_with fail
          refine FO.out.mono ?_
          rintro e v3 ⟨rfl, hc3⟩
          replace K2 := K2.old hc3
          replace hB := old_trans hB hc3
          replace O1 := O1.later hc3
          replace O2 := O2.later hc3
          replace K3 := K3.old hc3
          clear k1 k2 k3 k4
          obtain ⟨k1, ⟨k2, k3, k4⟩, -⟩ := id K3
          obtain ⟨m1, ⟨m2, m3, m4⟩, m5, m6, m7⟩ := id K2
          have sp : Sep avT avU := fun p q e1 e2 => by have h1 := z1 p e1; have h2 := O2.ge q e2; omega
          go_wp2
          refine bodyPost_ret (resSR (K2.setAll (.bool false) (.slice avT (natL V).length cvT) (.slice avU (natL U).length cvU)) rfl rfl) rfl (FIN.out _ _ (ResR.yes hV'.out hU'.out hok.out ((oi_set3 O1 y0).mono (Nat.le_of_lt y0)) ((oi_set3 O2 y1).mono (Nat.le_of_lt y1)) sp) (below_set (below_set (below_set hB (Nat.le_refl _) _) (Nat.le_refl _) _) (Nat.le_refl _) _))
  · rw [hb] at FA
    have hl0 := rst_min hb
    rw [hr] at hl0
    have hl1 : 0 < l.length := by rw [hl0]; simp
    have ix0 := idxS0 Tryz.underlying9 (bt l) (by rw [bt_size]; exact hl1)
    rw [show byt (bt l) 0 = 45 by rw [byt_bt, hl0]; rfl] at ix0
    have s0 := slFrom l 1 (by omega)
    rw [show l.drop 1 = r by rw [hl0]; rfl, show ((1 : Nat) : Int) = 1 from rfl] at s0
    have hI : (0 : Int) < (l.length : Int) := by omega
    have hI2 : (l.length : Int) ≤ 1048576 := by omega
    clear hr hb hl0
    go_enter Tryz.func5, Tryz.ntmps5
    generalize hW0 : w.alloc (.cells #[.bool false, .slice none 0 0, .slice none 0 0] 24) = WX at *
    go_wp2_with fail
    clear hW0 hI hI2 hl1 ix0 s0
    go_loopw [5, 6, 7] (fun a5 a6 i wr => ∃ k : Nat, k ≤ r.length ∧ a5 = .string (bt r) ∧ a6 = .string ⟨#[49]⟩ ∧ i = .int .i64 (k : Int) ∧ (∀ j, j < k → r.getD j 0 ≠ 47) ∧ wr = WX) (fun _ _ i _ => r.length - (Lib.intOf i).toNat)
    case atStart => exact ⟨0, by omega, rfl, rfl, rfl, fun j hj => by omega, rfl⟩
    case round =>
      obtain ⟨k, hk, rfl, rfl, rfl, hj, rfl⟩ := hrel
      by_cases hlt : k < r.length
      · have ix := idxS Tryz.underlying9 (bt r) k (by rw [bt_size]; exact hlt)
        rw [byt_bt] at ix
        have hkI : (k : Int) < (r.length : Int) := by omega
        have hkI2 : (r.length : Int) ≤ 1048576 := by omega
        by_cases h47 : r.getD k 0 = 47
        · have hq := stk_at r k hlt hj h47
          rw [h47, show ((47 : UInt8).toNat : Int) = 47 from rfl] at ix
          have s1 := slTo r k (by omega)
          have s2 := slFrom1 r k (by omega)
          obtain ⟨st, hst0⟩ : ∃ st, st = true := ⟨_, rfl⟩
          obtain ⟨t, ht0⟩ : ∃ t, t = r.take k := ⟨_, rfl⟩
          obtain ⟨u, hu0⟩ : ∃ u, u = r.drop (k + 1) := ⟨_, rfl⟩
          have FIN := hd (FA.out st t u (by rw [hst0, ht0, hu0]; exact partsR_at hq))
          have hlt' : t.length ≤ 1048576 := by rw [ht0, List.length_take]; omega
          have hlu : u.length ≤ 1048576 := by rw [hu0, List.length_drop]; omega
          rw [← ht0] at s1
          rw [← hu0] at s2
          by_cases hu : u = [49]
          · have hno : Hid (okR true st t u = false) := by show _ = _; rw [hst0, hu]; exact okR_one
            have e9 : ((bt u).toList == [49]) = true := by rw [hu, ByteArray.toList_eq]; rfl
            clear hq hj h47 hst0 ht0 hu0 hu
            obtain ⟨m1, ⟨m2, m3, m4⟩, m5, m6, m7⟩ := id K2
            go_wp2
            refine bodyPost_ret (resSR (K2.setAll (.bool false) (.slice none 0 0) (.slice none 0 0)) rfl rfl) rfl (FIN.out _ _ (ResR.no hno.out) (below_set (below_set (below_set hB (Nat.le_refl _) _) (Nat.le_refl _) _) (Nat.le_refl _) _))
          · have e9 : ((bt u).toList == [49]) = false := by
              rw [beq_eq_false_iff_ne, ByteArray.toList_eq]
              simpa [bt] using hu
            have HS : Hid (rdB (bt u) = true → (st && decide (nv (bt u) u.length = 1)) = false) := fun h => by
              have := nv_not1 h hu
              simp [this]
            have S1 := hd (fun w' => sNatRead (bt t) (sp_len t hlt') w')
            have S2 := hd (fun w' => sNatRead (bt u) (sp_len u hlu) w')
            clear hq hj h47 hst0 ht0 hu0 hu FA
            cases h1 : rdB (bt t)
            · have hno := hd (okR_no1 (b := true) (st := st) (u := u) h1)
              rw [h1] at S1
              clear h1
              generalize rdB (bt u) = r2 at *
              generalize resN r2 (nv (bt u) (bt u).size) = qu at *
              go_wp2_with fail
              have y0 := K2.1
              refine (S1.out _).mono ?_
              rintro e v1 ⟨⟨avT, cvT, rfl, O1⟩, hc1⟩
              replace K2 := K2.old hc1
              replace hB := old_trans hB hc1
              have z1 := O1.lt
              have z1' := hc1.size
              have y1 := K2.1
              go_wp2_with fail
              refine (S2.out _).mono ?_
              rintro e v2 ⟨⟨avU, cvU, rfl, O2⟩, hc2⟩
              replace K2 := K2.old hc2
              replace hB := old_trans hB hc2
              replace O1 := O1.later hc2
              have z2' := hc2.size
              obtain ⟨m1, ⟨m2, m3, m4⟩, m5, m6, m7⟩ := id K2
              go_wp2
              refine bodyPost_ret (resSR ((K2.setAll (.bool false) (.slice none 0 0) (.slice none 0 0)).old (old_alloc (Below.refl _ _) (.cells #[.bool true, .slice avT 0 cvT, .slice avU qu.length cvU] 24))) rfl rfl) rfl (FIN.out _ _ (ResR.no hno.out) (old_alloc (below_set (below_set (below_set hB (Nat.le_refl _) _) (Nat.le_refl _) _) (Nat.le_refl _) _) _))
            cases h2 : rdB (bt u)
            · have hno := hd (okR_no2 (b := true) (st := st) (t := t) h2)
              rw [h1] at S1
              rw [h2] at S2
              clear h1 h2
              generalize resN true (nv (bt t) (bt t).size) = qt at *
              go_wp2_with fail
              have y0 := K2.1
              refine (S1.out _).mono ?_
              rintro e v1 ⟨⟨avT, cvT, rfl, O1⟩, hc1⟩
              replace K2 := K2.old hc1
              replace hB := old_trans hB hc1
              have z1 := O1.lt
              have z1' := hc1.size
              have y1 := K2.1
              go_wp2_with fail
              refine (S2.out _).mono ?_
              rintro e v2 ⟨⟨avU, cvU, rfl, O2⟩, hc2⟩
              replace K2 := K2.old hc2
              replace hB := old_trans hB hc2
              replace O1 := O1.later hc2
              have z2' := hc2.size
              obtain ⟨m1, ⟨m2, m3, m4⟩, m5, m6, m7⟩ := id K2
              go_wp2
              refine bodyPost_ret (resSR ((K2.setAll (.bool false) (.slice none 0 0) (.slice none 0 0)).old (old_alloc (Below.refl _ _) (.cells #[.bool true, .slice avT qt.length cvT, .slice avU 0 cvU] 24))) rfl rfl) rfl (FIN.out _ _ (ResR.no hno.out) (old_alloc (below_set (below_set (below_set hB (Nat.le_refl _) _) (Nat.le_refl _) _) (Nat.le_refl _) _) _))
            have hyes := hd (okR_yes (b := true) (st := st) h1 h2)
            have hno3 := hd (okR_no3 (b := true) (st := st) (t := t) (u := u))
            have hst1 := hd (HS.out h2)
            rw [h1] at S1
            rw [h2] at S2
            clear h1 h2
            obtain ⟨V, hV⟩ : ∃ V, nv (bt t) t.length = V := ⟨_, rfl⟩
            obtain ⟨U, hU⟩ : ∃ U, nv (bt u) u.length = U := ⟨_, rfl⟩
            rw [bt_size, hV, show resN true V = natL V from rfl] at S1
            rw [bt_size, hU, show resN true U = natL U from rfl] at S2
            have hV' := hd hV
            have hU' := hd hU
            rw [hV, hU] at hyes hno3
            rw [hU] at hst1
            clear hV hU
            go_wp2_with fail
            have y0 := K2.1
            refine (S1.out _).mono ?_
            rintro e v1 ⟨⟨avT, cvT, rfl, O1⟩, hc1⟩
            replace K2 := K2.old hc1
            replace hB := old_trans hB hc1
            have z1 := O1.lt
            have z1' := hc1.size
            have y1 := K2.1
            go_wp2_with fail
            refine (S2.out _).mono ?_
            rintro e v2 ⟨⟨avU, cvU, rfl, O2⟩, hc2⟩
            replace K2 := K2.old hc2
            replace hB := old_trans hB hc2
            replace O1 := O1.later hc2
            have z2' := hc2.size
            have K3 := Cel3.new v2 (.bool true) (.slice avT (natL V).length cvT) (.slice avU (natL U).length cvU) 24
            have hal : Below v2.heap.size v2 (v2.alloc (.cells #[.bool true, .slice avT (natL V).length cvT, .slice avU (natL U).length cvU] 24)) := old_alloc (Below.refl _ _) _
            replace K2 := K2.old hal
            replace hB := old_trans hB hal
            replace O1 := O1.later hal
            replace O2 := O2.later hal
            have FO := hd (sFracOk true avT avU _ _ cvT cvU (natL V) (natL U) _ O1.inI O2.inI)
            cases hf : fracOk true (natL V) (natL U)
            · have hno := hd (hno3.out (by rw [hf]; rfl))
              rw [hf] at FO
              clear hf
              obtain ⟨k1, ⟨k2, k3, k4⟩, -⟩ := id K3
              go_wp2_with fail
              refine FO.out.mono ?_
              rintro e v3 ⟨rfl, hc3⟩
              replace K2 := K2.old hc3
              replace hB := old_trans hB hc3
              obtain ⟨m1, ⟨m2, m3, m4⟩, m5, m6, m7⟩ := id K2
              go_wp2
              refine bodyPost_ret (resSR (K2.setAll (.bool false) (.slice none 0 0) (.slice none 0 0)) rfl rfl) rfl (FIN.out _ _ (ResR.no hno.out) (below_set (below_set (below_set hB (Nat.le_refl _) _) (Nat.le_refl _) _) (Nat.le_refl _) _))
            have hok := hd (hyes.out (by rw [hf, hst1.out]; rfl))
            rw [hf] at FO
            clear hf
            obtain ⟨k1, ⟨k2, k3, k4⟩, -⟩ := id K3
            go_wp2_with fail
            refine FO.out.mono ?_
            rintro e v3 ⟨rfl, hc3⟩
            replace K2 := K2.old hc3
            replace hB := old_trans hB hc3
            replace O1 := O1.later hc3
            replace O2 := O2.later hc3
            replace K3 := K3.old hc3
            clear k1 k2 k3 k4
            obtain ⟨k1, ⟨k2, k3, k4⟩, -⟩ := id K3
            obtain ⟨m1, ⟨m2, m3, m4⟩, m5, m6, m7⟩ := id K2
            have sp : Sep avT avU := fun p q e1 e2 => by have h1 := z1 p e1; have h2 := O2.ge q e2; omega
            go_wp2
            refine bodyPost_ret (resSR (K2.setAll (.bool true) (.slice avT (natL V).length cvT) (.slice avU (natL U).length cvU)) rfl rfl) rfl (FIN.out _ _ (ResR.yes hV'.out hU'.out hok.out ((oi_set3 O1 y0).mono (Nat.le_of_lt y0)) ((oi_set3 O2 y1).mono (Nat.le_of_lt y1)) sp) (below_set (below_set (below_set hB (Nat.le_refl _) _) (Nat.le_refl _) _) (Nat.le_refl _) _))
        · have hne : ¬ (((r.getD k 0).toNat : Int) = 47) := fun e => h47 (by
            apply UInt8.toNat_inj.1
            show (r.getD k 0).toNat = 47
            omega)
          have hj' : Hid (∀ j, j < k + 1 → r.getD j 0 ≠ 47) := fun j hj1 => by
            by_cases e : j = k
            · subst e; exact h47
            · exact hj j (by omega)
          have bd : ((r.getD k 0).toNat : Int) ≤ 255 := by have := (r.getD k 0).toNat_lt; omega
          generalize ((r.getD k 0).toNat : Int) = by_ at *
          have hneb : (by_ == 47) = false := by simpa using hne
          clear hj h47 FA K2 hB
          go_wp2
          go_roundw
          case rel => exact ⟨k + 1, by omega, rfl, rfl, by go_num, hj'.out, by first | rfl | trivial⟩
          case measure => simp [Lib.intOf]; omega
      · obtain rfl : k = r.length := by omega
        have hq := stk_no r hj
        obtain ⟨st, hst0⟩ : ∃ st, st = false := ⟨_, rfl⟩
        obtain ⟨t, ht0⟩ : ∃ t, t = r := ⟨_, rfl⟩
        obtain ⟨u, hu0⟩ : ∃ u, u = ([49] : List UInt8) := ⟨_, rfl⟩
        have FIN := hd (FA.out st t u (by rw [hst0, ht0, hu0]; exact partsR_no hq))
        have e49 : (⟨#[49]⟩ : ByteArray) = bt u := by rw [hu0]; rfl
        have hlt' : t.length ≤ 1048576 := by rw [ht0]; omega
        have hlu : u.length ≤ 1048576 := by rw [hu0]; simp
        have HS : Hid (rdB (bt u) = true → (st && decide (nv (bt u) u.length = 1)) = false) := fun _ => by rw [hst0]; rfl
        have S1 := hd (fun w' => sNatRead (bt t) (sp_len t hlt') w')
        have S2 := hd (fun w' => sNatRead (bt u) (sp_len u hlu) w')
        rw [e49, ← ht0]
        clear hq hj FA hst0 hu0 e49 hlt ht0
        have hszt := bt_size t
        have hni : ¬ ((t.length : Int) < (t.length : Int)) := by omega
        cases h1 : rdB (bt t)
        · have hno := hd (okR_no1 (b := true) (st := st) (u := u) h1)
          rw [h1] at S1
          clear h1
          generalize rdB (bt u) = r2 at *
          generalize resN r2 (nv (bt u) (bt u).size) = qu at *
          go_wp2_with fail
          have y0 := K2.1
          refine (S1.out _).mono ?_
          rintro e v1 ⟨⟨avT, cvT, rfl, O1⟩, hc1⟩
          replace K2 := K2.old hc1
          replace hB := old_trans hB hc1
          have z1 := O1.lt
          have z1' := hc1.size
          have y1 := K2.1
          go_wp2_with fail
          refine (S2.out _).mono ?_
          rintro e v2 ⟨⟨avU, cvU, rfl, O2⟩, hc2⟩
          replace K2 := K2.old hc2
          replace hB := old_trans hB hc2
          replace O1 := O1.later hc2
          have z2' := hc2.size
          obtain ⟨m1, ⟨m2, m3, m4⟩, m5, m6, m7⟩ := id K2
          go_wp2
          refine bodyPost_ret (resSR ((K2.setAll (.bool false) (.slice none 0 0) (.slice none 0 0)).old (old_alloc (Below.refl _ _) (.cells #[.bool true, .slice avT 0 cvT, .slice avU qu.length cvU] 24))) rfl rfl) rfl (FIN.out _ _ (ResR.no hno.out) (old_alloc (below_set (below_set (below_set hB (Nat.le_refl _) _) (Nat.le_refl _) _) (Nat.le_refl _) _) _))
        cases h2 : rdB (bt u)
        · have hno := hd (okR_no2 (b := true) (st := st) (t := t) h2)
          rw [h1] at S1
          rw [h2] at S2
          clear h1 h2
          generalize resN true (nv (bt t) (bt t).size) = qt at *
          go_wp2_with fail
          have y0 := K2.1
          refine (S1.out _).mono ?_
          rintro e v1 ⟨⟨avT, cvT, rfl, O1⟩, hc1⟩
          replace K2 := K2.old hc1
          replace hB := old_trans hB hc1
          have z1 := O1.lt
          have z1' := hc1.size
          have y1 := K2.1
          go_wp2_with fail
          refine (S2.out _).mono ?_
          rintro e v2 ⟨⟨avU, cvU, rfl, O2⟩, hc2⟩
          replace K2 := K2.old hc2
          replace hB := old_trans hB hc2
          replace O1 := O1.later hc2
          have z2' := hc2.size
          obtain ⟨m1, ⟨m2, m3, m4⟩, m5, m6, m7⟩ := id K2
          go_wp2
          refine bodyPost_ret (resSR ((K2.setAll (.bool false) (.slice none 0 0) (.slice none 0 0)).old (old_alloc (Below.refl _ _) (.cells #[.bool true, .slice avT qt.length cvT, .slice avU 0 cvU] 24))) rfl rfl) rfl (FIN.out _ _ (ResR.no hno.out) (old_alloc (below_set (below_set (below_set hB (Nat.le_refl _) _) (Nat.le_refl _) _) (Nat.le_refl _) _) _))
        have hyes := hd (okR_yes (b := true) (st := st) h1 h2)
        have hno3 := hd (okR_no3 (b := true) (st := st) (t := t) (u := u))
        have hst1 := hd (HS.out h2)
        rw [h1] at S1
        rw [h2] at S2
        clear h1 h2
        obtain ⟨V, hV⟩ : ∃ V, nv (bt t) t.length = V := ⟨_, rfl⟩
        obtain ⟨U, hU⟩ : ∃ U, nv (bt u) u.length = U := ⟨_, rfl⟩
        rw [bt_size, hV, show resN true V = natL V from rfl] at S1
        rw [bt_size, hU, show resN true U = natL U from rfl] at S2
        have hV' := hd hV
        have hU' := hd hU
        rw [hV, hU] at hyes hno3
        rw [hU] at hst1
        clear hV hU
        go_wp2_with fail
        have y0 := K2.1
        refine (S1.out _).mono ?_
        rintro e v1 ⟨⟨avT, cvT, rfl, O1⟩, hc1⟩
        replace K2 := K2.old hc1
        replace hB := old_trans hB hc1
        have z1 := O1.lt
        have z1' := hc1.size
        have y1 := K2.1
        go_wp2_with fail
        refine (S2.out _).mono ?_
        rintro e v2 ⟨⟨avU, cvU, rfl, O2⟩, hc2⟩
        replace K2 := K2.old hc2
        replace hB := old_trans hB hc2
        replace O1 := O1.later hc2
        have z2' := hc2.size
        have K3 := Cel3.new v2 (.bool true) (.slice avT (natL V).length cvT) (.slice avU (natL U).length cvU) 24
        have hal : Below v2.heap.size v2 (v2.alloc (.cells #[.bool true, .slice avT (natL V).length cvT, .slice avU (natL U).length cvU] 24)) := old_alloc (Below.refl _ _) _
        replace K2 := K2.old hal
        replace hB := old_trans hB hal
        replace O1 := O1.later hal
        replace O2 := O2.later hal
        have FO := hd (sFracOk true avT avU _ _ cvT cvU (natL V) (natL U) _ O1.inI O2.inI)
        cases hf : fracOk true (natL V) (natL U)
        · have hno := hd (hno3.out (by rw [hf]; rfl))
          rw [hf] at FO
          clear hf
          obtain ⟨k1, ⟨k2, k3, k4⟩, -⟩ := id K3
          go_wp2_with fail
          refine FO.out.mono ?_
          rintro e v3 ⟨rfl, hc3⟩
          replace K2 := K2.old hc3
          replace hB := old_trans hB hc3
          obtain ⟨m1, ⟨m2, m3, m4⟩, m5, m6, m7⟩ := id K2
          go_wp2
          refine bodyPost_ret (resSR (K2.setAll (.bool false) (.slice none 0 0) (.slice none 0 0)) rfl rfl) rfl (FIN.out _ _ (ResR.no hno.out) (below_set (below_set (below_set hB (Nat.le_refl _) _) (Nat.le_refl _) _) (Nat.le_refl _) _))
        have hok := hd (hyes.out (by rw [hf, hst1.out]; rfl))
        rw [hf] at FO
        clear hf
        obtain ⟨k1, ⟨k2, k3, k4⟩, -⟩ := id K3
        go_wp2_with fail
        refine FO.out.mono ?_
        rintro e v3 ⟨rfl, hc3⟩
        replace K2 := K2.old hc3
        replace hB := old_trans hB hc3
        replace O1 := O1.later hc3
        replace O2 := O2.later hc3
        replace K3 := K3.old hc3
        clear k1 k2 k3 k4
        obtain ⟨k1, ⟨k2, k3, k4⟩, -⟩ := id K3
        obtain ⟨m1, ⟨m2, m3, m4⟩, m5, m6, m7⟩ := id K2
        have sp : Sep avT avU := fun p q e1 e2 => by have h1 := z1 p e1; have h2 := O2.ge q e2; omega
        go_wp2
        refine bodyPost_ret (resSR (K2.setAll (.bool true) (.slice avT (natL V).length cvT) (.slice avU (natL U).length cvU)) rfl rfl) rfl (FIN.out _ _ (ResR.yes hV'.out hU'.out hok.out ((oi_set3 O1 y0).mono (Nat.le_of_lt y0)) ((oi_set3 O2 y1).mono (Nat.le_of_lt y1)) sp) (below_set (below_set (below_set hB (Nat.le_refl _) _) (Nat.le_refl _) _) (Nat.le_refl _) _))
end Go.Proofs.YtlfaiekcmflgnaaGreatDoor

/- What was read as a fraction is in lowest terms. Mathematics alone. -/
namespace Go.Proofs.YtlfaiekcmflgnaaGreatDoor
open Go.RowKit Go.Lib
set_option linter.unusedVariables false
set_option maxRecDepth 100000

theorem okFR_low {l : List UInt8} (h : okFR l = true) : lowB (topFR l) (botFR l) = true := by
  unfold okFR okR at h
  simp only [Bool.and_eq_true] at h
  have hl := (fracOk_low h.2.2.1).1
  rw [val_natL, val_natL] at hl
  exact hl
end Go.Proofs.YtlfaiekcmflgnaaGreatDoor

/- A fraction's text is read as that fraction, and what was read is written as its text. Mathematics alone. -/
namespace Go.Proofs.YtlfaiekcmflgnaaGreatDoor
open Go.RowKit Go.Lib
set_option linter.unusedVariables false
set_option maxRecDepth 100000

theorem dec_at (V i : Nat) (h : i < (decDigits V).length) : 48 ≤ ((decDigits V).getD i 0).toNat ∧ ((decDigits V).getD i 0).toNat ≤ 57 := by
  refine dec_dg V _ ?_
  rw [List.getD_eq_getElem?_getD, List.getElem?_eq_getElem h]; exact List.getElem_mem h
theorem dec_47 (V i : Nat) (h : i < (decDigits V).length) : (decDigits V).getD i 0 ≠ 47 := fun e => by
  have := dec_at V i h
  rw [e] at this
  have : (47 : UInt8).toNat = 47 := rfl
  omega
theorem frL_min (bl : Bool) (V U : Nat) : bmin (frL bl V U) = bl ∧ rst (frL bl V U) = decDigits V ++ (if U = 1 then [] else 47 :: decDigits U) := by
  cases bl
  · have h0 : bmin (frL false V U) = false := by
      unfold frL
      have h1 := dec_at V 0 (List.length_pos_iff.2 (dec_ne V))
      cases hd : decDigits V with
      | nil => exact absurd hd (dec_ne V)
      | cons b t =>
        rw [hd] at h1
        have h2 : 48 ≤ b.toNat := h1.1
        show bmin (b :: (t ++ _)) = false
        rw [bmin_cons]
        have : ¬ (45 : UInt8) = b := fun e => by
          rw [← e] at h2
          have : (45 : UInt8).toNat = 45 := rfl
          omega
        simpa using this
    refine ⟨h0, ?_⟩
    rw [rst_not h0]; rfl
  · have h0 : bmin (frL true V U) = true := by
      unfold frL
      show bmin (45 :: _) = true
      rw [bmin_cons]; rfl
    refine ⟨h0, ?_⟩
    unfold rst
    rw [h0]; rfl
theorem frL_parts (V U : Nat) : partsR (decDigits V ++ (if U = 1 then [] else 47 :: decDigits U)) = (decide (U ≠ 1), decDigits V, decDigits U) := by
  by_cases h : U = 1
  · rw [if_pos h, List.append_nil, partsR_no (stk_no _ (fun i hi => dec_47 V i hi)), h, decDigits_one (show 1 < 10 by decide)]
    rfl
  · rw [if_neg h]
    have hq : stk (decDigits V ++ 47 :: decDigits U) = ((decDigits V).length : Int) := stk_at _ _ (by simp) (fun i hi => by rw [getD_left _ _ hi]; exact dec_47 V i hi) (by
      rw [List.getD_eq_getElem?_getD, List.getElem?_append_right (Nat.le_refl _), Nat.sub_self]; rfl)
    rw [partsR_at hq, decide_eq_true h, List.take_left]
    refine congrArg (fun z => (true, decDigits V, z)) ?_
    rw [List.drop_append, List.drop_of_length_le (by omega), List.nil_append, show (decDigits V).length + 1 - (decDigits V).length = 1 by omega]; rfl
theorem read_ok {bl : Bool} {V U : Nat} (hf : fracOk bl (natL V) (natL U) = true) : okFR (frL bl V U) = true ∧ bmin (frL bl V U) = bl ∧ topFR (frL bl V U) = V ∧ botFR (frL bl V U) = U := by
  have hin := fracOk_in hf
  have hV := natOk_lt hin.1
  have hU := natOk_lt hin.2.1
  rw [val_natL] at hV hU
  have hm := frL_min bl V U
  have hp := frL_parts V U
  unfold okFR topFR botFR
  rw [hm.1, hm.2, hp]
  refine ⟨?_, rfl, nv_dec V, nv_dec U⟩
  show okR bl (decide (U ≠ 1)) (decDigits V) (decDigits U) = true
  refine okR_yes (rdB_dec hV) (rdB_dec hU) ?_
  rw [nv_dec, nv_dec, hf]
  by_cases h : U = 1
  · simp [h]
  · simp [h]
theorem text_ok {l : List UInt8} (h : okFR l = true) : frT (bmin l) (natL (topFR l)) (natL (botFR l)) = bt l := by
  have hla := l_all l
  unfold okFR at h
  unfold topFR botFR
  rcases stk_cases (rst l) with hq | ⟨n, hn, hq⟩
  · rw [partsR_no hq] at h ⊢
    dsimp only at h ⊢
    have hh := h
    unfold okR at hh
    simp only [Bool.and_eq_true] at hh
    have := (text_is (b := bmin l) (st := false) hh.1 hh.2.1 (fun _ => rfl)).2 (by rw [Bool.and_eq_true]; exact hh.2.2)
    rw [this]
    refine congrArg bt ?_
    rw [show (if (false = true) then (47 :: ([49] : List UInt8)) else ([] : List UInt8)) = [] from rfl, List.append_nil]; exact hla.symm
  · have h47 := stk_47 _ _ hq
    rw [partsR_at hq] at h ⊢
    dsimp only at h ⊢
    have hh := h
    unfold okR at hh
    simp only [Bool.and_eq_true] at hh
    have := (text_is (b := bmin l) (st := true) hh.1 hh.2.1 (fun e => by cases e)).2 (by rw [Bool.and_eq_true]; exact hh.2.2)
    rw [this]
    refine congrArg bt ?_
    rw [show (if (true = true) then (47 :: (rst l).drop (n + 1)) else ([] : List UInt8)) = 47 :: (rst l).drop (n + 1) from rfl, ← l_parts h47.1 h47.2]; exact hla.symm
theorem okFR_frac {l : List UInt8} (h : okFR l = true) : fracOk (bmin l) (natL (topFR l)) (natL (botFR l)) = true := by
  unfold okFR okR at h
  simp only [Bool.and_eq_true] at h
  exact h.2.2.1
/-- what was answered, if it is a fraction -/
theorem FRes.ok {w : World} {base : Nat} {e : Ending} {bl : Bool} {V U : Nat} (h : FRes w base e true bl V U) (hf : fracOk bl (natL V) (natL U) = true) : ∃ av cv av' cv', e = .returned (.tuple #[.agg #[.bool bl, .slice av (natL V).length cv, .slice av' (natL U).length cv'], .bool true]) ∧ OI w base av cv (natL V) ∧ OI w base av' cv' (natL U) := by
  obtain ⟨av, cv, av', cv', he, h1, h2, -⟩ := h
  have hl := fracOk_low hf
  rw [val_natL, val_natL] at hl
  have hin := fracOk_in hf
  have hb : fS true bl V = bl := by
    unfold fS
    cases bl
    · simp
    · have : V ≠ 0 := fun e => hin.2.2.2.2 ⟨rfl, by rw [e, natL_zero]; rfl⟩
      simp [this]
  have ht : fT true V U = natL V := by unfold fT; simp [hl.2.1]
  have hu : fU true V U = natL U := by unfold fU; simp [hl.2.2]
  rw [hb, ht, hu] at he
  rw [ht] at h1
  rw [hu] at h2
  exact ⟨av, cv, av', cv', he, h1, h2⟩
theorem FRes.not {w : World} {base : Nat} {e : Ending} {s : Bool} {V U : Nat} (h : FRes w base e false s V U) : ∃ av cv av' cv', e = .returned (.tuple #[.agg #[.bool false, .slice av 0 cv, .slice av' 0 cv'], .bool false]) := by
  obtain ⟨av, cv, av', cv', he, h1, h2, -⟩ := h
  exact ⟨av, cv, av', cv', he⟩
end Go.Proofs.YtlfaiekcmflgnaaGreatDoor
