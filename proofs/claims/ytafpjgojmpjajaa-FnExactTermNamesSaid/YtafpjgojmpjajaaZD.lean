/- Names, of the program; nothing that was there is written. No condition. -/
import Derived.Test.YtafpjgojmpjajaaZC
namespace Go.Proofs.Ytafpjgojmpjajaa
open Go.RowKit
set_option linter.unusedVariables false
set_option maxRecDepth 100000

theorem name_own {s : ByteArray} (h : isOwn s = true) : nameB s = false := by unfold nameB; rw [h]; simp
theorem name_bad {s : ByteArray} (h : plainB s = false) : nameB s = false := by unfold nameB; rw [h]; rfl
theorem name_mk {s : ByteArray} (h : plainB s = true) (g : isOwn s = false) : nameB s = true := by unfold nameB; rw [h, g]; rfl
theorem nonempty {s : ByteArray} (h : 0 < s.size) : (s.toList == ([] : List UInt8)) = false := by
  rw [ByteArray.toList_eq]
  obtain ⟨⟨l⟩⟩ := s
  cases l with
  | nil => exact absurd h (by decide)
  | cons => rfl
theorem ascii_rune {s : ByteArray} {k : Nat} (h : k < s.size) (hb : byt s k < 128) (P : Program) (w : World) (ty : TypeId) :
    (Instr.next (.pointer (some ⟨w.heap.size, 0, none⟩)) true ty).run P (w.iter s k) = .ok (.tuple #[.bool true, .int .i64 k, .int .i32 (byt s k)]) (w.iter s (k + 1)) := by
  have e := byt_at s k h
  rw [← e] at hb
  rw [run_next_ascii w s k ty h (by omega), e]
theorem high_rune {s : ByteArray} {k : Nat} (h : k < s.size) (hb : ¬ byt s k < 128) (P : Program) (w : World) :
    ∃ r n : Nat, 128 ≤ r ∧ r ≤ 2147483647 ∧ 1 ≤ n ∧ ∀ ty : TypeId, (Instr.next (.pointer (some ⟨w.heap.size, 0, none⟩)) true ty).run P (w.iter s k) = .ok (.tuple #[.bool true, .int .i64 k, .int .i32 r]) (w.iter s (k + n)) := by
  have e := byt_at s k h
  rw [← e] at hb
  have q := decode_high s k h (by omega)
  exact ⟨_, _, q.1, decode_le s k, q.2, fun ty => run_next_any w s k ty h⟩
set_option maxHeartbeats 2000000 in
theorem iNameOk (s : ByteArray) (w : World) : Calls Try.prog 33 #[.string s] w fun e w' => e = .returned (.bool (nameB s)) ∧ Below w.heap.size w w' := by
  have O := hd (iOwn s)
  unfold ownV at O
  cases ho : ownKind s with
  | some k =>
    rw [name_own (by unfold isOwn; rw [ho]; rfl)]
    rw [ho] at O
    dsimp only at O
    clear ho
    go_enter Try.func33, Try.ntmps33
    go_wp2_with fail
    refine (O.out _).mono ?_
    rintro e w1 ⟨rfl, hB⟩
    go_wp2
    go_ret
    exact ⟨rfl, (by repeat (first | with_reducible exact hB | with_reducible exact Below.refl _ _ | with_reducible refine Below.drew ?_ | ((with_reducible refine Below.setCell ?_ ?_ _); rotate_left; (focus (first | (simp; done) | omega | (simp; omega)))) | with_reducible refine old_alloc ?_ _ | with_reducible refine old_trans ?_ (by with_reducible assumption)))⟩
  | none =>
  have no : isOwn s = false := by unfold isOwn; rw [ho]; rfl
  rw [ho] at O
  dsimp only at O
  clear ho
  by_cases h1 : s.size < 1
  · rw [name_bad (plain_len (.inl h1))]
    have e : s = ⟨#[]⟩ := by
      obtain ⟨d⟩ := s
      have : d.size = 0 := by have : d.size < 1 := h1; omega
      rw [Array.size_eq_zero_iff.1 this]
    subst e
    clear h1 no
    go_enter Try.func33, Try.ntmps33
    go_wp2_with fail
    refine (O.out _).mono ?_
    rintro e w1 ⟨rfl, hB⟩
    go_wp2
    go_ret
    exact ⟨rfl, (by repeat (first | with_reducible exact hB | with_reducible exact Below.refl _ _ | with_reducible refine Below.drew ?_ | ((with_reducible refine Below.setCell ?_ ?_ _); rotate_left; (focus (first | (simp; done) | omega | (simp; omega)))) | with_reducible refine old_alloc ?_ _ | with_reducible refine old_trans ?_ (by with_reducible assumption)))⟩
  have ne := nonempty (s := s) (by omega)
  by_cases h2 : 8 < s.size
  · rw [name_bad (plain_len (.inr h2))]
    have h2' : 8 < (s.size : Int) := by omega
    go_enter Try.func33, Try.ntmps33
    go_wp2_with fail
    refine (O.out _).mono ?_
    rintro e w1 ⟨rfl, hB⟩
    go_wp2
    go_ret
    exact ⟨rfl, (by repeat (first | with_reducible exact hB | with_reducible exact Below.refl _ _ | with_reducible refine Below.drew ?_ | ((with_reducible refine Below.setCell ?_ ?_ _); rotate_left; (focus (first | (simp; done) | omega | (simp; omega)))) | with_reducible refine old_alloc ?_ _ | with_reducible refine old_trans ?_ (by with_reducible assumption)))⟩
  have h2' : ¬ 8 < (s.size : Int) := by omega
  have i0 := idxS0 (t := 9) Try.underlying9 s (by omega)
  have bd := byt_bd s 0
  have L0 := hd (iIsLetter (byt s 0))
  by_cases l0 : isL (byt s 0) = true
  case neg =>
    have l0' : isL (byt s 0) = false := by simpa using l0
    rw [name_bad (plain_first l0')]
    rw [l0'] at L0
    clear l0 l0' h1 h2
    generalize byt s 0 = b0 at *
    go_enter Try.func33, Try.ntmps33
    go_wp2_with fail
    refine (O.out _).mono ?_
    rintro e w1 ⟨rfl, hB⟩
    go_wp2_with fail
    refine (L0.out _).mono ?_
    rintro e w2 ⟨rfl, rfl⟩
    go_wp2
    go_ret
    exact ⟨rfl, (by repeat (first | with_reducible exact hB | with_reducible exact Below.refl _ _ | with_reducible refine Below.drew ?_ | ((with_reducible refine Below.setCell ?_ ?_ _); rotate_left; (focus (first | (simp; done) | omega | (simp; omega)))) | with_reducible refine old_alloc ?_ _ | with_reducible refine old_trans ?_ (by with_reducible assumption)))⟩
  have Q := hd (fun (h4 : ∀ i, i < s.size → isW (byt s i) = true) => name_mk (plain_mk (s := s) (by omega) (by omega) l0 h4) no)
  have B := hd (fun (k : Nat) (hk : k < s.size) h => name_bad (plain_bad (s := s) hk h))
  rw [l0] at L0
  clear l0 no
  generalize byt s 0 = b0 at *
  go_enter Try.func33, Try.ntmps33
  go_wp2_with fail
  refine (O.out _).mono ?_
  rintro e w1 ⟨rfl, hB⟩
  go_wp2_with fail
  refine (L0.out _).mono ?_
  rintro e w2 ⟨rfl, h⟩
  clear i0 L0 bd
  have hB2 : Below w.heap.size w w2 := by
    rw [h]
    exact (by repeat (first | with_reducible exact hB | with_reducible exact Below.refl _ _ | with_reducible refine Below.drew ?_ | ((with_reducible refine Below.setCell ?_ ?_ _); rotate_left; (focus (first | (simp; done) | omega | (simp; omega)))) | with_reducible refine old_alloc ?_ _ | with_reducible refine old_trans ?_ (by with_reducible assumption)))
  clear h hB
  go_wp2
  go_loopw [6] (fun a wr => ∃ k : Nat, k ≤ s.size ∧ (∀ i, i < k → isW (byt s i) = true) ∧ wr = w2.iter s k) (fun _ wr => s.size - wr.iterPos w2.heap.size)
  case atStart => exact ⟨0, by omega, fun i h => absurd h (by omega), rfl⟩
  case round =>
    obtain ⟨k, hk, hd0, rfl⟩ := hrel
    by_cases hlt : k < s.size
    · have Bk := hd (fun h => B.out k hlt h)
      have Gk := hd (fun (h : isW (byt s k) = true) i (h2 : i < k + 1) => (by
        by_cases e : i = k
        · subst e; exact h
        · exact hd0 i (by omega) : isW (byt s i) = true))
      clear hd0
      by_cases hb : byt s k < 128
      · have hnx := ascii_rune hlt hb Try.prog w2
        have Wk := hd (iBegins (byt s k))
        clear hb
        cases hwk : isW (byt s k)
        · have bq := hd (Bk.out hwk)
          rw [hwk] at Wk
          clear Bk Gk hwk
          generalize byt s k = bk at *
          go_wp2_with fail
          refine (Wk.out _).mono ?_
          rintro e w3 ⟨rfl, rfl⟩
          go_wp2
          go_ret
          exact ⟨rB bq.out, old_alloc hB2 _⟩
        · have gq := hd (Gk.out hwk)
          rw [hwk] at Wk
          clear Bk Gk hwk
          generalize byt s k = bk at *
          go_wp2_with fail
          refine (Wk.out _).mono ?_
          rintro e w3 ⟨rfl, rfl⟩
          go_wp2
          go_roundw
          case rel => exact ⟨k + 1, by omega, gq.out, rfl⟩
          case measure => simp; omega
      · obtain ⟨r, n, hr, hr2, hn, hnx⟩ := high_rune hlt hb Try.prog w2
        have bq := Bk.out (isW_high (by omega))
        have Wk := hd (iBegins r)
        rw [isW_high (by omega)] at Wk
        clear hb hr hr2
        generalize (r : Int) = R at *
        go_wp2_with fail
        refine (Wk.out _).mono ?_
        rintro e w3 ⟨rfl, rfl⟩
        go_wp2
        go_ret
        exact ⟨rB bq, old_alloc hB2 _⟩
    · have hnx : ∀ ty, (Instr.next (.pointer (some ⟨w2.heap.size, 0, none⟩)) true ty).run Try.prog (w2.iter s k) = _ := fun ty => run_next_end w2 s k ty hlt
      go_wp2
      go_ret
      exact ⟨rB (Q.out fun i hi => hd0 i (by omega)), old_alloc hB2 _⟩
end Go.Proofs.Ytafpjgojmpjajaa
