/- Closed facts of the translated program that every row of this seat asks for. No condition. -/
import Derived.Test.YtmpckbgelkfgpaaRows
import Derived.ProofKit
namespace Go.Proofs.Ytmpckbgelkfgpaa
open Go.ChangeShapes Go.WideShapes Go.ChangeAt Go.RowKit
theorem jf6 : ((Try.prog.stops == [])) = true := by kernel_rfl
theorem jf8 : ((Try.prog.stopKnobs == [])) = true := by kernel_rfl
theorem and2 {a b : Bool} (h : a = true) (g : b = true) : (a && b) = true := by rw [h, g]; rfl
theorem jf24 : (Try.prog.stopsHeard) = true := by kernel_rfl
theorem jf22 : ((Rows.fnBitTopRow.plainKeys == Try.prog.plainKeys)) = true := by kernel_rfl
theorem jf1 : (laidOutB Try.prog) = true := by kernel_rfl
theorem jf2 : (mapsRowed Try.prog) = true := by kernel_rfl
end Go.Proofs.Ytmpckbgelkfgpaa

/- The words at the head of the translated program, found without reading its whole text; closed facts that every row of this seat asks for. No condition. -/
namespace Go.Proofs.Ytmpckbgelkfgpaa
open Go.ChangeShapes Go.WideShapes Go.ChangeAt Go.RowKit

theorem words_app (a r : List Char) (h : a.all (fun c => c != Char.ofNat 32) = true) : wordsSigns (a ++ Char.ofNat 32 :: r) = a :: wordsSigns r := by
  induction a with
  | nil => rfl
  | cons c a ih =>
    simp only [List.all_cons, Bool.and_eq_true, bne_iff_ne] at h
    have e := ih h.2
    have hc : ∀ l, wordsSigns (c :: l) = (match wordsSigns l with | w :: ws => (c :: w) :: ws | [] => [[c]]) := by
      intro l
      rw [wordsSigns]
      all_goals first | rfl | exact fun hx => h.1 hx
    rw [List.cons_append, hc, e]

theorem headLifts_of (P : Program) (rest : List (List Char)) (h : behindMainWord (wordsSigns P.initOrder.toList) = "cut".toList :: rest) : P.headLifts = [] := by
  have e : stripLifts liftWords ("cut".toList :: rest) = ([], "cut".toList :: rest) := rfl
  unfold Program.headLifts
  rw [h, e]
  simp
theorem make_of (P : Program) (rest : List (List Char)) (h : behindMainWord (wordsSigns P.initOrder.toList) = "cut".toList :: rest) : P.make = some .cut := by
  unfold Program.make
  rw [h]
  rfl
theorem mayEnter_of (P : Program) (rest : List (List Char)) (h : behindMainWord (wordsSigns P.initOrder.toList) = "cut".toList :: rest) (h1 : P.laysLater = false) (h2 : P.bearsReflect = false) (h3 : P.doorFits [] = true) : P.mayEnter = true := by
  have e : stripLifts liftWords ("cut".toList :: rest) = ([], "cut".toList :: rest) := rfl
  unfold Program.mayEnter
  rw [h]
  simp only [e, h1, h2, h3]
  rfl
theorem lifts_of (P : Program) (rest : List (List Char)) (h : behindMainWord (wordsSigns P.initOrder.toList) = "cut".toList :: rest) : P.liftsFinal = false := by
  have e := headLifts_of P rest h
  unfold Program.liftsFinal
  rw [e, h]
  rfl

set_option maxRecDepth 100000 in
theorem head_at : ∃ l : List Char, Try.prog.initOrder = String.ofList l ∧ l.take 77 = "harness 4ad6041217cf08507248a45bb0eba4b95a8a660968bb9d5409e1cd6eeb35f110 cut ".toList := by
  refine ⟨_, rfl, ?_⟩
  kernel_rfl
theorem head_list : ∃ r : List Char, Try.prog.initOrder.toList = "harness".toList ++ Char.ofNat 32 :: ("4ad6041217cf08507248a45bb0eba4b95a8a660968bb9d5409e1cd6eeb35f110".toList ++ Char.ofNat 32 :: ("cut".toList ++ Char.ofNat 32 :: r)) := by
  obtain ⟨l, h1, h2⟩ := head_at
  refine ⟨l.drop 77, ?_⟩
  rw [h1, String.toList_ofList]
  have e := List.take_append_drop 77 l
  rw [h2] at e
  exact e.symm
theorem head_words : ∃ rest, behindMainWord (wordsSigns Try.prog.initOrder.toList) = "cut".toList :: rest := by
  obtain ⟨r, h⟩ := head_list
  refine ⟨wordsSigns r, ?_⟩
  rw [h, words_app _ _ (by kernel_rfl), words_app _ _ (by kernel_rfl), words_app _ _ (by kernel_rfl)]
  rfl
theorem jf25 : (Try.prog.mayEnter) = true := by
  obtain ⟨rest, h⟩ := head_words
  exact mayEnter_of _ rest h (by kernel_rfl) (by kernel_rfl) (by kernel_rfl)
theorem lifts_no : Try.prog.liftsFinal = false := by
  obtain ⟨rest, h⟩ := head_words
  exact lifts_of _ rest h
theorem make_cut : Try.prog.make = some .cut := by
  obtain ⟨rest, h⟩ := head_words
  exact make_of _ rest h
theorem jf26 : ((Rows.fnBitTopRow.lifted == Try.prog.liftsFinal)) = true := by rw [lifts_no]; rfl
theorem jf27 : ((Try.prog.make == some Rows.fnBitTopRow.make)) = true := by rw [make_cut]; rfl
end Go.Proofs.Ytmpckbgelkfgpaa
