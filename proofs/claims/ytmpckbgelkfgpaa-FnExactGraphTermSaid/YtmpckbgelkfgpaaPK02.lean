/- Names, of both sides; nothing is written. No condition. -/
import Derived.Test.YtmpckbgelkfgpaaPK01
import Derived.Laws.BitsAllLaws
namespace Go.Proofs.Ytmpckbgelkfgpaa
open Go.RowKit
set_option linter.unusedVariables false
set_option maxRecDepth 100000

def plainB (s : ByteArray) : Bool := decide (1 ≤ s.size ∧ s.size ≤ 8 ∧ isL (byt s 0) = true ∧ ∀ i, i < s.size → isW (byt s i) = true)
def nameB (s : ByteArray) : Bool := plainB s && !isOwn s
theorem plain_bad {s : ByteArray} {k : Nat} (hk : k < s.size) (h : isW (byt s k) = false) : plainB s = false := by
  unfold plainB
  exact decide_eq_false (fun g => by rw [g.2.2.2 k hk] at h; cases h)
theorem plain_first {s : ByteArray} (h : isL (byt s 0) = false) : plainB s = false := by
  unfold plainB
  exact decide_eq_false (fun g => by rw [g.2.2.1] at h; cases h)
theorem plain_len {s : ByteArray} (h : s.size < 1 ∨ 8 < s.size) : plainB s = false := by
  unfold plainB
  exact decide_eq_false (fun g => by omega)
theorem plain_mk {s : ByteArray} (h1 : 1 ≤ s.size) (h2 : s.size ≤ 8) (h3 : isL (byt s 0) = true) (h4 : ∀ i, i < s.size → isW (byt s i) = true) : plainB s = true := by
  unfold plainB
  exact decide_eq_true ⟨h1, h2, h3, h4⟩
theorem rB {b c : Bool} (h : c = b) : Ending.returned (.bool b) = .returned (.bool c) := by rw [h]
theorem isW_L {n : Int} (h : isL n = true) : isW n = true := by unfold isW; rw [h]; rfl
set_option maxHeartbeats 2000000 in
theorem sPlain (s : ByteArray) (w : World) : Calls Try.prog 135 #[.string s] w fun e w' => e = .returned (.bool (plainB s)) ∧ w' = w := by
  by_cases h1 : s.size < 1
  · rw [plain_len (.inl h1)]
    have h1' : (s.size : Int) < 1 := by omega
    go_enter Try.func135, Try.ntmps135
    go_wp2
    go_ret
    exact ⟨rfl, rfl⟩
  by_cases h2 : 8 < s.size
  · rw [plain_len (.inr h2)]
    have h1' : ¬ (s.size : Int) < 1 := by omega
    have h2' : 8 < (s.size : Int) := by omega
    go_enter Try.func135, Try.ntmps135
    go_wp2
    go_ret
    exact ⟨rfl, rfl⟩
  have h1' : ¬ (s.size : Int) < 1 := by omega
  have h2' : ¬ 8 < (s.size : Int) := by omega
  have i0 := idxS0 (t := 9) Try.underlying9 s (by omega)
  have L0 := hd (sLetter (byt s 0))
  by_cases l0 : isL (byt s 0) = true
  case neg =>
    have l0' : isL (byt s 0) = false := by simpa using l0
    rw [plain_first l0']
    rw [l0'] at L0
    clear l0 l0' h1 h2
    generalize byt s 0 = b0 at *
    go_enter Try.func135, Try.ntmps135
    go_wp2_with fail
    refine (L0.out _).mono ?_
    rintro e w1 ⟨rfl, rfl⟩
    go_wp2
    go_ret
    exact ⟨rfl, rfl⟩
  have Q := hd (fun (h4 : ∀ i, 1 ≤ i → i < s.size → isW (byt s i) = true) => plain_mk (s := s) (by omega) (by omega) l0 (fun i hi => by
    by_cases e : i = 0
    · subst e; exact isW_L l0
    · exact h4 i (by omega) hi))
  have B := hd (fun (k : Nat) (hk : k < s.size) h => plain_bad (s := s) hk h)
  rw [l0] at L0
  have IX := hd (fun k (hk : k < s.size) w => idxS (t := 9) Try.underlying9 s k hk w)
  clear l0
  generalize byt s 0 = b0 at *
  go_enter Try.func135, Try.ntmps135
  go_wp2_with fail
  refine (L0.out _).mono ?_
  rintro e w1 ⟨rfl, rfl⟩
  clear i0 L0
  go_wp2
  go_loopw [3] (fun a wr => ∃ k : Nat, 1 ≤ k ∧ k ≤ s.size ∧ a = .int .i64 k ∧ (∀ i, 1 ≤ i → i < k → isW (byt s i) = true) ∧ wr = w1) (fun b _ => s.size - (intOf b).toNat)
  case atStart => exact ⟨1, by omega, by omega, rfl, fun i h h' => absurd h (by omega), rfl⟩
  case round =>
    obtain ⟨k, hk1, hk, rfl, hd0, rfl⟩ := hrel
    by_cases hlt : k < s.size
    · have hlt' : (k : Int) < (s.size : Int) := by omega
      have ik := IX.out k hlt
      have Lk := hd (sLetter (byt s k))
      have Dk := hd (sDigit (byt s k))
      have Bk := hd (fun h => B.out k hlt h)
      have Gk := hd (fun (h : isW (byt s k) = true) i (h1 : 1 ≤ i) (h2 : i < k + 1) => (by
        by_cases e : i = k
        · subst e; exact h
        · exact hd0 i h1 (by omega) : isW (byt s i) = true))
      have eW : isW (byt s k) = (isL (byt s k) || isD (byt s k)) := rfl
      generalize isW (byt s k) = wk at *
      generalize isL (byt s k) = lk at *
      generalize isD (byt s k) = dk at *
      generalize byt s k = bk at *
      clear hd0
      cases lk
      · go_wp2_with fail
        refine (Lk.out _).mono ?_
        rintro e w1 ⟨rfl, rfl⟩
        go_wp2_with fail
        refine (Dk.out _).mono ?_
        rintro e w1 ⟨rfl, rfl⟩
        cases dk
        · go_wp2
          go_ret
          exact ⟨rB (Bk.out eW), rfl⟩
        · go_wp2
          go_roundw
          case rel => exact ⟨k + 1, by omega, by omega, by go_num, Gk.out eW, trivial⟩
          case measure => simp [intOf]; omega
      · go_wp2_with fail
        refine (Lk.out _).mono ?_
        rintro e w1 ⟨rfl, rfl⟩
        go_wp2
        go_roundw
        case rel => exact ⟨k + 1, by omega, by omega, by go_num, Gk.out (by simpa using eW), trivial⟩
        case measure => simp [intOf]; omega
    · have hlt' : ¬ (k : Int) < (s.size : Int) := by omega
      go_wp2
      go_ret
      exact ⟨rB (Q.out fun i h1 hi => hd0 i h1 (by omega)), rfl⟩
set_option maxHeartbeats 2000000 in
theorem sNameOk (s : ByteArray) (w : World) : Calls Try.prog 109 #[.string s] w fun e w' => e = .returned (.bool (nameB s)) ∧ w' = w := by
  have P := hd (sPlain s)
  have O := hd (sWord s)
  unfold nameB
  generalize plainB s = p at *
  generalize isOwn s = o at *
  go_enter Try.func109, Try.ntmps109
  go_wp2_with fail
  refine (P.out _).mono ?_
  rintro e w1 ⟨rfl, rfl⟩
  cases p
  · go_wp2
    go_ret
    exact ⟨rfl, rfl⟩
  · go_wp2_with fail
    refine (O.out _).mono ?_
    rintro e w1 ⟨rfl, rfl⟩
    go_wp2
    go_ret
    exact ⟨rfl, rfl⟩
theorem sNameOkB (s : ByteArray) (w : World) : Calls Try.prog 109 #[.string s] w fun e w' => e = .returned (.bool (nameB s)) ∧ Below w.heap.size w w' :=
  (sNameOk s w).mono (by rintro e w' ⟨h, rfl⟩; exact ⟨h, Below.refl _ _⟩)
end Go.Proofs.Ytmpckbgelkfgpaa

/- Names, of the program; nothing that was there is written. No condition. -/
namespace Go.Proofs.Ytmpckbgelkfgpaa
open Go.RowKit
set_option linter.unusedVariables false
set_option maxRecDepth 100000

theorem name_own {s : ByteArray} (h : isOwn s = true) : nameB s = false := by unfold nameB; rw [h]; simp
theorem name_bad {s : ByteArray} (h : plainB s = false) : nameB s = false := by unfold nameB; rw [h]; rfl
theorem name_mk {s : ByteArray} (h : plainB s = true) (g : isOwn s = false) : nameB s = true := by unfold nameB; rw [h, g]; rfl
theorem nonempty {s : ByteArray} (h : 0 < s.size) : (s.toList == ([] : List UInt8)) = false := by
  rw [ByteArray.toList_eq]
  obtain ⟨⟨l⟩⟩ := s
  cases l with
  | nil => exact absurd h (by decide)
  | cons => rfl
theorem ascii_rune {s : ByteArray} {k : Nat} (h : k < s.size) (hb : byt s k < 128) (P : Program) (w : World) (ty : TypeId) :
    (Instr.next (.pointer (some ⟨w.heap.size, 0, none⟩)) true ty).run P (w.iter s k) = .ok (.tuple #[.bool true, .int .i64 k, .int .i32 (byt s k)]) (w.iter s (k + 1)) := by
  have e := byt_at s k h
  rw [← e] at hb
  rw [run_next_ascii w s k ty h (by omega), e]
theorem high_rune {s : ByteArray} {k : Nat} (h : k < s.size) (hb : ¬ byt s k < 128) (P : Program) (w : World) :
    ∃ r n : Nat, 128 ≤ r ∧ r ≤ 2147483647 ∧ 1 ≤ n ∧ ∀ ty : TypeId, (Instr.next (.pointer (some ⟨w.heap.size, 0, none⟩)) true ty).run P (w.iter s k) = .ok (.tuple #[.bool true, .int .i64 k, .int .i32 r]) (w.iter s (k + n)) := by
  have e := byt_at s k h
  rw [← e] at hb
  have q := decode_high s k h (by omega)
  exact ⟨_, _, q.1, decode_le s k, q.2, fun ty => run_next_any w s k ty h⟩
set_option maxHeartbeats 2000000 in
theorem iNameOk (s : ByteArray) (w : World) : Calls Try.prog 113 #[.string s] w fun e w' => e = .returned (.bool (nameB s)) ∧ Below w.heap.size w w' := by
  have O := hd (iOwn s)
  unfold ownV at O
  cases ho : ownKind s with
  | some k =>
    rw [name_own (by unfold isOwn; rw [ho]; rfl)]
    rw [ho] at O
    dsimp only at O
    clear ho
    go_enter Try.func113, Try.ntmps113
    go_wp2_with fail
    refine (O.out _).mono ?_
    rintro e w1 ⟨rfl, hB⟩
    go_wp2
    go_ret
    exact ⟨rfl, (by repeat (first | with_reducible exact hB | with_reducible exact Below.refl _ _ | with_reducible refine Below.drew ?_ | ((with_reducible refine Below.setCell ?_ ?_ _); rotate_left; (focus (first | (simp; done) | omega | (simp; omega)))) | with_reducible refine old_alloc ?_ _ | with_reducible refine old_trans ?_ (by with_reducible assumption)))⟩
  | none =>
  have no : isOwn s = false := by unfold isOwn; rw [ho]; rfl
  rw [ho] at O
  dsimp only at O
  clear ho
  by_cases h1 : s.size < 1
  · rw [name_bad (plain_len (.inl h1))]
    have e : s = ⟨#[]⟩ := by
      obtain ⟨d⟩ := s
      have : d.size = 0 := by have : d.size < 1 := h1; omega
      rw [Array.size_eq_zero_iff.1 this]
    subst e
    clear h1 no
    go_enter Try.func113, Try.ntmps113
    go_wp2_with fail
    refine (O.out _).mono ?_
    rintro e w1 ⟨rfl, hB⟩
    go_wp2
    go_ret
    exact ⟨rfl, (by repeat (first | with_reducible exact hB | with_reducible exact Below.refl _ _ | with_reducible refine Below.drew ?_ | ((with_reducible refine Below.setCell ?_ ?_ _); rotate_left; (focus (first | (simp; done) | omega | (simp; omega)))) | with_reducible refine old_alloc ?_ _ | with_reducible refine old_trans ?_ (by with_reducible assumption)))⟩
  have ne := nonempty (s := s) (by omega)
  by_cases h2 : 8 < s.size
  · rw [name_bad (plain_len (.inr h2))]
    have h2' : 8 < (s.size : Int) := by omega
    go_enter Try.func113, Try.ntmps113
    go_wp2_with fail
    refine (O.out _).mono ?_
    rintro e w1 ⟨rfl, hB⟩
    go_wp2
    go_ret
    exact ⟨rfl, (by repeat (first | with_reducible exact hB | with_reducible exact Below.refl _ _ | with_reducible refine Below.drew ?_ | ((with_reducible refine Below.setCell ?_ ?_ _); rotate_left; (focus (first | (simp; done) | omega | (simp; omega)))) | with_reducible refine old_alloc ?_ _ | with_reducible refine old_trans ?_ (by with_reducible assumption)))⟩
  have h2' : ¬ 8 < (s.size : Int) := by omega
  have i0 := idxS0 (t := 9) Try.underlying9 s (by omega)
  have bd := byt_bd s 0
  have L0 := hd (iIsLetter (byt s 0))
  by_cases l0 : isL (byt s 0) = true
  case neg =>
    have l0' : isL (byt s 0) = false := by simpa using l0
    rw [name_bad (plain_first l0')]
    rw [l0'] at L0
    clear l0 l0' h1 h2
    generalize byt s 0 = b0 at *
    go_enter Try.func113, Try.ntmps113
    go_wp2_with fail
    refine (O.out _).mono ?_
    rintro e w1 ⟨rfl, hB⟩
    go_wp2_with fail
    refine (L0.out _).mono ?_
    rintro e w2 ⟨rfl, rfl⟩
    go_wp2
    go_ret
    exact ⟨rfl, (by repeat (first | with_reducible exact hB | with_reducible exact Below.refl _ _ | with_reducible refine Below.drew ?_ | ((with_reducible refine Below.setCell ?_ ?_ _); rotate_left; (focus (first | (simp; done) | omega | (simp; omega)))) | with_reducible refine old_alloc ?_ _ | with_reducible refine old_trans ?_ (by with_reducible assumption)))⟩
  have Q := hd (fun (h4 : ∀ i, i < s.size → isW (byt s i) = true) => name_mk (plain_mk (s := s) (by omega) (by omega) l0 h4) no)
  have B := hd (fun (k : Nat) (hk : k < s.size) h => name_bad (plain_bad (s := s) hk h))
  rw [l0] at L0
  clear l0 no
  generalize byt s 0 = b0 at *
  go_enter Try.func113, Try.ntmps113
  go_wp2_with fail
  refine (O.out _).mono ?_
  rintro e w1 ⟨rfl, hB⟩
  go_wp2_with fail
  refine (L0.out _).mono ?_
  rintro e w2 ⟨rfl, h⟩
  clear i0 L0 bd
  have hB2 : Below w.heap.size w w2 := by
    rw [h]
    exact (by repeat (first | with_reducible exact hB | with_reducible exact Below.refl _ _ | with_reducible refine Below.drew ?_ | ((with_reducible refine Below.setCell ?_ ?_ _); rotate_left; (focus (first | (simp; done) | omega | (simp; omega)))) | with_reducible refine old_alloc ?_ _ | with_reducible refine old_trans ?_ (by with_reducible assumption)))
  clear h hB
  go_wp2
  go_loopw [6] (fun a wr => ∃ k : Nat, k ≤ s.size ∧ (∀ i, i < k → isW (byt s i) = true) ∧ wr = w2.iter s k) (fun _ wr => s.size - wr.iterPos w2.heap.size)
  case atStart => exact ⟨0, by omega, fun i h => absurd h (by omega), rfl⟩
  case round =>
    obtain ⟨k, hk, hd0, rfl⟩ := hrel
    by_cases hlt : k < s.size
    · have Bk := hd (fun h => B.out k hlt h)
      have Gk := hd (fun (h : isW (byt s k) = true) i (h2 : i < k + 1) => (by
        by_cases e : i = k
        · subst e; exact h
        · exact hd0 i (by omega) : isW (byt s i) = true))
      clear hd0
      by_cases hb : byt s k < 128
      · have hnx := ascii_rune hlt hb Try.prog w2
        have Wk := hd (iBegins (byt s k))
        clear hb
        cases hwk : isW (byt s k)
        · have bq := hd (Bk.out hwk)
          rw [hwk] at Wk
          clear Bk Gk hwk
          generalize byt s k = bk at *
          go_wp2_with fail
          refine (Wk.out _).mono ?_
          rintro e w3 ⟨rfl, rfl⟩
          go_wp2
          go_ret
          exact ⟨rB bq.out, old_alloc hB2 _⟩
        · have gq := hd (Gk.out hwk)
          rw [hwk] at Wk
          clear Bk Gk hwk
          generalize byt s k = bk at *
          go_wp2_with fail
          refine (Wk.out _).mono ?_
          rintro e w3 ⟨rfl, rfl⟩
          go_wp2
          go_roundw
          case rel => exact ⟨k + 1, by omega, gq.out, rfl⟩
          case measure => simp; omega
      · obtain ⟨r, n, hr, hr2, hn, hnx⟩ := high_rune hlt hb Try.prog w2
        have bq := Bk.out (isW_high (by omega))
        have Wk := hd (iBegins r)
        rw [isW_high (by omega)] at Wk
        clear hb hr hr2
        generalize (r : Int) = R at *
        go_wp2_with fail
        refine (Wk.out _).mono ?_
        rintro e w3 ⟨rfl, rfl⟩
        go_wp2
        go_ret
        exact ⟨rB bq, old_alloc hB2 _⟩
    · have hnx : ∀ ty, (Instr.next (.pointer (some ⟨w2.heap.size, 0, none⟩)) true ty).run Try.prog (w2.iter s k) = _ := fun ty => run_next_end w2 s k ty hlt
      go_wp2
      go_ret
      exact ⟨rB (Q.out fun i hi => hd0 i (by omega)), old_alloc hB2 _⟩
end Go.Proofs.Ytmpckbgelkfgpaa

/- A struct of five fields, taken apart. No condition. -/
namespace Go.Proofs.Ytmpckbgelkfgpaa
open Go.RowKit
set_option linter.unusedVariables false
set_option maxRecDepth 100000

theorem trodS5 {P : Program} {H : Type} {enc : TypeId × Value → H} {w : World} {base : Nat} {spare : Nat → Bool} {held : Bool} {t : TypeId} {f0 f1 f2 f3 f4 : Field} {fuel : Nat} {cs : List Value} {x : DataW H × List MemPlace} (ht : P.underlying t = some (.struct #[f0, f1, f2, f3, f4])) (h : DataW.trod enc P w base spare held fuel t cs = some x) :
    ∃ y0 y1 y2 y3 y4 n, x = x ∧ cs.length = P.cellsOf t ∧ DataW.trod enc P w base spare held n f0.type ((cs.drop f0.offset).take (P.cellsOf f0.type)) = some y0 ∧ DataW.trod enc P w base spare held n f1.type ((cs.drop f1.offset).take (P.cellsOf f1.type)) = some y1 ∧ DataW.trod enc P w base spare held n f2.type ((cs.drop f2.offset).take (P.cellsOf f2.type)) = some y2 ∧ DataW.trod enc P w base spare held n f3.type ((cs.drop f3.offset).take (P.cellsOf f3.type)) = some y3 ∧ DataW.trod enc P w base spare held n f4.type ((cs.drop f4.offset).take (P.cellsOf f4.type)) = some y4 := by
  obtain ⟨ys, n, _, rfl, hl, hlen, hf⟩ := DataW.trod_struct ht h
  match ys, hlen with
  | [y0, y1, y2, y3, y4], _ => exact ⟨y0, y1, y2, y3, y4, n, rfl, hl, by simpa using hf 0 f0 rfl, by simpa using hf 1 f1 rfl, by simpa using hf 2 f2 rfl, by simpa using hf 3 f3 rfl, by simpa using hf 4 f4 rfl⟩
end Go.Proofs.Ytmpckbgelkfgpaa

/- What a number is, by the specification and by the program; nothing is written. No condition. -/
namespace Go.Proofs.Ytmpckbgelkfgpaa
open Go.RowKit
set_option linter.unusedVariables false
set_option maxRecDepth 100000

end Go.Proofs.Ytmpckbgelkfgpaa

/- Digits and the numbers that they are: mathematics alone. No condition. -/
namespace Go.Proofs.Ytmpckbgelkfgpaa
set_option linter.unusedVariables false
set_option maxRecDepth 100000

/-- the number that digits are -/
def val : List Int → Nat
  | [] => 0
  | x :: xs => x.toNat + 65536 * val xs
end Go.Proofs.Ytmpckbgelkfgpaa

/- Lists of whole numbers in memory of their own: those that grow by append, those that were made; what a mark leaves. No condition. -/
namespace Go.Proofs.Ytmpckbgelkfgpaa
open Go.RowKit
set_option linter.unusedVariables false
set_option maxRecDepth 100000

def ints (xs : List Int) : List Value := xs.map (fun x => .int .i64 x)
theorem ints_get {xs : List Int} {i : Nat} (h : i < xs.length) : (ints xs)[i]? = some (.int .i64 (xs.getD i 0)) := by
  simp [ints, List.getD_eq_getElem?_getD, h]
/-- a list that is being made -/
def IGrows (w : World) (base : Nat) (v : Value) (xs : List Int) : Prop := w.ownsRow base 3 1 v xs.length (ints xs)
theorem IGrows.nil (w : World) (base : Nat) : IGrows w base (.slice none 0 0) [] := World.ownsRow_nil w base _ _
theorem IGrows.kept {w w' : World} {base : Nat} {v : Value} {xs : List Int} {row : Option Nat} (h : IGrows w base v xs) (g : w.grownBy w' row) (hne : ∀ b, row = some b → b < base) : IGrows w' base v xs := by
  refine World.ownsRow.kept h g ?_
  cases hv : v.ownBlock with
  | none => exact .inl rfl
  | some k =>
    refine .inr (fun e => ?_)
    have := hne k e.symm
    have := (World.ownsRow.lt h k hv).1
    omega
theorem IGrows.later {w w' : World} {base : Nat} {v : Value} {xs : List Int} (h : IGrows w base v xs) (g : Below w.heap.size w w') : IGrows w' base v xs := h.kept (grown_below g) (by simp)
theorem IGrows.alloc {w : World} {base : Nat} {v : Value} {xs : List Int} (h : IGrows w base v xs) (o : Obj) : IGrows (w.alloc o) base v xs := h.later ((Below.refl _ _).alloc (Nat.le_refl _) o)
theorem IGrows.far {w : World} {base : Nat} {v : Value} {xs : List Int} (h : IGrows w base v xs) {c : Nat} (hc : c < base) : some c ≠ v.ownBlock := fun e => by have := (World.ownsRow.lt h c e.symm).1; omega
theorem IGrows.row {w : World} {base : Nat} {v : Value} {xs : List Int} (h : IGrows w base v xs) (hp : 0 < xs.length) : ∃ g cap, v = .slice (some ⟨g, 0, none⟩) xs.length cap ∧ base ≤ g ∧ xs.length ≤ cap ∧ cap ≤ maxLen ∧ IRow w g xs := by
  have h' := h
  rcases h.2 with ⟨_, h0⟩ | ⟨g, cap, cur, rfl, hb, hg, h1, h2, -, -⟩
  · omega
  refine ⟨g, cap, rfl, hb, h1, h2, (Array.getElem?_eq_some_iff.1 hg).1, fun i hi => ?_⟩
  exact ⟨(World.ownsRow.cellAt h' i (by omega)).trans (ints_get hi), World.ownsRow.frozenAt h' _⟩
theorem IGrows.none {w : World} {base : Nat} {v : Value} (h : IGrows w base v []) : ∃ av cv, v = .slice av 0 cv := by
  rcases h.2 with ⟨h0, _⟩ | ⟨g, cap, cur, rfl, hb, hg, h1, h2, -, -⟩
  · exact ⟨_, _, h0⟩
  · exact ⟨_, _, rfl⟩
theorem cells_one (w : World) (b : Nat) (hb : b = w.heap.size) (x : Value) (t : TypeId) : ∀ j u, [x][j]? = some u → (w.alloc (.cells #[x] t)).cell? ((⟨b, 0, none⟩ : Addr).add j) = some u := by
  subst hb
  intro j u h
  match j, h with
  | 0, h => simp at h; subst h; simp [Addr.add]
  | j + 1, h => simp at h

def ownB (av : Option Addr) : Option Nat := av.map (·.block)
/-- numbers in memory of their own, at or beyond base; or none -/
def OI (w : World) (base : Nat) (av : Option Addr) (cv : Nat) (xs : List Int) : Prop :=
  IFits xs ∧ xs.length ≤ cv ∧ cv ≤ maxLen ∧ ((av = none ∧ xs = []) ∨ ∃ g, av = some ⟨g, 0, none⟩ ∧ base ≤ g ∧ IRow w g xs)
theorem fits_nil : IFits [] := fun p hp => absurd hp (by simp)
theorem OI.none (w : World) (base : Nat) : OI w base none 0 [] := ⟨fits_nil, Nat.le_refl _, Nat.zero_le _, .inl ⟨rfl, rfl⟩⟩
section
variable {w w' : World} {base cv : Nat} {av : Option Addr} {ps : List Int}
theorem OI.mono {base' : Nat} (h : OI w base av cv ps) (hb : base' ≤ base) : OI w base' av cv ps := by
  obtain ⟨h1, h2, h3, h4 | ⟨g, h4, h5, h6⟩⟩ := h
  · exact ⟨h1, h2, h3, .inl h4⟩
  · exact ⟨h1, h2, h3, .inr ⟨g, h4, by omega, h6⟩⟩
theorem OI.later (h : OI w base av cv ps) (k : Below w.heap.size w w') : OI w' base av cv ps := by
  obtain ⟨h1, h2, h3, h4 | ⟨g, h4, h5, h6⟩⟩ := h
  · exact ⟨h1, h2, h3, .inl h4⟩
  · exact ⟨h1, h2, h3, .inr ⟨g, h4, h5, h6.old k⟩⟩
theorem OI.alloc (h : OI w base av cv ps) (o : Obj) : OI (w.alloc o) base av cv ps := h.later ((Below.refl _ _).alloc (Nat.le_refl _) o)
theorem OI.drew (h : OI w base av cv ps) : OI w.drew base av cv ps := h
theorem OI.kept {row : Option Nat} (h : OI w base av cv ps) (g : w.grownBy w' row) (hne : ∀ q, av = some q → some q.block ≠ row) : OI w' base av cv ps := by
  obtain ⟨h1, h2, h3, h4 | ⟨c, h4, h5, h6⟩⟩ := h
  · exact ⟨h1, h2, h3, .inl h4⟩
  · exact ⟨h1, h2, h3, .inr ⟨c, h4, h5, h6.kept g (hne _ h4)⟩⟩
theorem OI.lt (h : OI w base av cv ps) : ∀ q, av = some q → q.block < w.heap.size := by
  intro q e
  obtain ⟨h1, h2, h3, ⟨rfl, _⟩ | ⟨c, rfl, h5, h6⟩⟩ := h
  · cases e
  · cases e; exact h6.1
theorem OI.ge (h : OI w base av cv ps) : ∀ q, av = some q → base ≤ q.block := by
  intro q e
  obtain ⟨h1, h2, h3, ⟨rfl, _⟩ | ⟨c, rfl, h5, h6⟩⟩ := h
  · cases e
  · cases e; exact h5
end
end Go.Proofs.Ytmpckbgelkfgpaa

/- The digits of a number of 64 bits, by the specification and by the program: new lists with the same digits. No condition. -/
namespace Go.Proofs.Ytmpckbgelkfgpaa
open Go.RowKit
set_option linter.unusedVariables false
set_option maxRecDepth 100000

end Go.Proofs.Ytmpckbgelkfgpaa

/- One cell of a variable, wherever it lies. -/
namespace Go.Proofs.Ytmpckbgelkfgpaa
open Go.RowKit
set_option linter.unusedVariables false
set_option maxRecDepth 100000

def Cl1 (w : World) (b : Nat) (x : Value) : Prop := w.cell? ⟨b, 0, none⟩ = some x ∧ w.frozen? ⟨b, 0, none⟩ = false ∧ b < w.heap.size
theorem Cl1.later {w w1 : World} {b : Nat} {x : Value} (h : Cl1 w b x) (k : Below w.heap.size w w1) : Cl1 w1 b x :=
  ⟨(k.cell (p := ⟨b, 0, none⟩) h.2.2).trans h.1, (k.frozen (p := ⟨b, 0, none⟩) h.2.2).trans h.2.1, Nat.lt_of_lt_of_le h.2.2 k.size⟩
theorem Cl1.alloc {w : World} {b : Nat} {x : Value} (h : Cl1 w b x) (o : Obj) : Cl1 (w.alloc o) b x := h.later ((Below.refl _ _).alloc (Nat.le_refl _) o)
theorem Cl1.made (w : World) (b : Nat) (hb : b = w.heap.size) (x : Value) (t : TypeId) : Cl1 (w.alloc (.cells #[x] t)) b x := by subst hb; exact ⟨by simp, by simp, by simp⟩
theorem Cl1.drew {w : World} {b : Nat} {x : Value} (h : Cl1 w b x) : Cl1 w.drew b x := h
theorem Cl1.kept {w w' : World} {c : Nat} {v : Value} {row : Option Nat} (h : Cl1 w c v) (g : w.grownBy w' row) (hne : some c ≠ row) : Cl1 w' c v :=
  ⟨(World.cell?_of_block (a := ⟨c, 0, none⟩) (g.block c h.2.2 hne)).trans h.1, (World.frozen?_of_block (a := ⟨c, 0, none⟩) (g.block c h.2.2 hne)).trans h.2.1, Nat.lt_of_lt_of_le h.2.2 g.size⟩
end Go.Proofs.Ytmpckbgelkfgpaa
