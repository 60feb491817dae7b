/- Names put into an ascending list, by the specification: what its loop makes of a list and a name; the names of a term. Conditions: 1000 texts at most. -/
import Derived.Test.YtafpjgojmpjajaaYT
import Derived.Test.YtafpjgojmpjajaaZU
namespace Go.Proofs.Ytafpjgojmpjajaa
open Go.RowKit
set_option linter.unusedVariables false
set_option maxRecDepth 100000

/-- one text goes by, a name being put in ahead of the first that is not below it -/
def intoStep (s : ByteArray) (r : List ByteArray × Bool) (x : ByteArray) : List ByteArray × Bool :=
  if r.2 then (r.1 ++ [x], true) else if Op.bytesLess x.toList s.toList then (r.1 ++ [x], false) else if x.toList == s.toList then (r.1 ++ [x], true) else (r.1 ++ [s] ++ [x], true)
def intoAt (l : List ByteArray) (s : ByteArray) (k : Nat) : List ByteArray × Bool := (l.take k).foldl (intoStep s) ([], false)
def intoL (l : List ByteArray) (s : ByteArray) : List ByteArray := if (intoAt l s l.length).2 then (intoAt l s l.length).1 else (intoAt l s l.length).1 ++ [s]
theorem intoAt_succ {l : List ByteArray} {k : Nat} (s : ByteArray) (h : k < l.length) : intoAt l s (k + 1) = intoStep s (intoAt l s k) (l.getD k ⟨#[]⟩) := by
  unfold intoAt
  rw [List.take_add_one, List.getElem?_eq_getElem h, Option.toList_some, List.foldl_append]
  simp [List.getD_eq_getElem?_getD, List.getElem?_eq_getElem h]
theorem intoStep_len (s : ByteArray) (r : List ByteArray × Bool) (x : ByteArray) : (intoStep s r x).1.length ≤ r.1.length + 2 := by
  unfold intoStep
  repeat' split
  all_goals simp
theorem intoAt_len (l : List ByteArray) (s : ByteArray) : ∀ k, k ≤ l.length → (intoAt l s k).1.length ≤ 2 * k := by
  intro k
  induction k with
  | zero => intro _; simp [intoAt]
  | succ k ih =>
    intro h
    rw [intoAt_succ s (by omega)]
    have := intoStep_len s (intoAt l s k) (l.getD k ⟨#[]⟩)
    have := ih (by omega)
    omega
theorem intoStep_fits {s : ByteArray} (hs : s.size ≤ maxLen) {r : List ByteArray × Bool} (hr : TFits r.1) {x : ByteArray} (hx : x.size ≤ maxLen) : TFits (intoStep s r x).1 := by
  have h1 : TFits (r.1 ++ [x]) := fun y hy => by rcases List.mem_append.1 hy with h | h; exact hr y h; rw [List.mem_singleton.1 h]; exact hx
  unfold intoStep
  repeat' split
  · exact h1
  · exact h1
  · exact h1
  · intro y hy
    rcases List.mem_append.1 hy with h | h
    · rcases List.mem_append.1 h with h | h
      · exact hr y h
      · rw [List.mem_singleton.1 h]; exact hs
    · rw [List.mem_singleton.1 h]; exact hx
theorem intoAt_fits {l : List ByteArray} {s : ByteArray} (hs : s.size ≤ maxLen) (hl : TFits l) : ∀ k, k ≤ l.length → TFits (intoAt l s k).1 := by
  intro k
  induction k with
  | zero => intro _; exact fun x hx => absurd hx (by simp [intoAt])
  | succ k ih =>
    intro h
    rw [intoAt_succ s (by omega)]
    exact intoStep_fits hs (ih (by omega)) (hl _ (tgetD_mem (by omega)))
theorem intoL_fits {l : List ByteArray} {s : ByteArray} (hs : s.size ≤ maxLen) (hl : TFits l) : TFits (intoL l s) := by
  have h := intoAt_fits hs hl l.length (Nat.le_refl _)
  unfold intoL
  split
  · exact h
  · intro y hy
    rcases List.mem_append.1 hy with g | g
    · exact h y g
    · rw [List.mem_singleton.1 g]; exact hs
theorem infoStr : (Try.prog.info? 9).map (fun i => (i.zero, i.size, i.bytes)) = some (some (.string ⟨#[]⟩), 1, 16) := by kernel_rfl
theorem TGrows.of_own {w : World} {base : Nat} {v : Value} {xs : List ByteArray} {X : ByteArray} (h : w.ownsRow base 9 1 v (xs.length + 1) (txts xs ++ [.string X])) : TGrows w base v (xs ++ [X]) := by
  unfold TGrows
  rw [txts_snoc, List.length_append]
  exact h
set_option maxHeartbeats 8000000 in
theorem sInto (a : Option Addr) (cap : Nat) (l : List ByteArray) (s : ByteArray) (hs : s.size ≤ maxLen) (w : World) (hR : InT w a l.length cap l) (hl : l.length ≤ 1000) :
    Calls Try.prog 15 #[.slice a l.length cap, .string s] w fun e w' => (∃ av cv, e = .returned (.slice av (intoL l s).length cv) ∧ OT w' w.heap.size av cv (intoL l s)) ∧ Below w.heap.size w w' := by
  obtain ⟨i0, hi, hz0, hz1, hz2⟩ := info_parts infoStr
  have hfit := hd (intoL_fits hs hR.2.2.2.1)
  have hRo := hd (fun W (h : Below w.heap.size w W) => hR.old h)
  clear hR
  go_enter Try.func15, Try.ntmps15
  go_wp2
  go_loopw [5, 6, 7] (fun o n i wr => ∃ (k : Nat), k ≤ l.length ∧ i = .int .i64 (k : Int) ∧ n = .bool (intoAt l s k).2 ∧ TGrows wr w.heap.size o (intoAt l s k).1 ∧ Below w.heap.size w wr) (fun _ _ i _ => l.length - (intOf i).toNat)
  case atStart => exact ⟨0, by omega, rfl, rfl, TGrows.nil _ _, Below.refl _ _⟩
  case round =>
    obtain ⟨k, hk, rfl, rfl, G, Bwr⟩ := hrel
    by_cases hlt : k < l.length
    · obtain ⟨b, off, x, rfl, hbl, hx, hxs, c0⟩ := (hRo.out _ Bwr).at hlt
      have hst := intoAt_succ s hlt
      rw [hx] at hst
      have hln := intoAt_len l s k hk
      have hki : (k : Int) < (l.length : Int) := by omega
      obtain ⟨⟨xs, bn⟩, hr⟩ : ∃ r, intoAt l s k = r := ⟨_, rfl⟩
      rw [hr] at G hst hln ⊢
      have hst' := hd hst
      have hxx := hx
      clear hst hr hx
      replace G : TGrows wr w.heap.size _ xs := G
      replace hln : xs.length ≤ 2 * k := hln
      have hsB : Op.bytesLess x.toList s.toList = true ∨ Op.bytesLess x.toList s.toList = false := by cases Op.bytesLess x.toList s.toList <;> simp
      cases bn
      · rcases hsB with hless | hless
        · have hq : Hid (intoStep s (xs, false) x = (xs ++ [x], false)) := by show _ = _; unfold intoStep; simp [hless]
          have Ga := G.alloc (.cells #[.string x] 9)
          have Bw5a : Below w.heap.size w (wr.alloc (.cells #[.string x] 9)) := old_alloc Bwr _
          have cw5 := cells_one wr wr.heap.size rfl (.string x) 9
          have zw5 := Bwr.size
          go_wp2_with (at_builtin; refine wpList_append_own _ rfl _ _ 26 rfl w.heap.size 9 i0 _ 1 16 Try.underlying26 hi hz0 hz1 hz2 rfl (by decide) _ _ _ rfl Ga ⟨wr.heap.size, 0, none⟩ 1 1 [.string x] rfl rfl cw5 (by simp [Value.oneCell']) (by unfold maxLen; omega) (by omega) (by simp; omega) ?_; intro v5 w5 hown hgrow _)
          have Bw5 : Below w.heap.size w w5 := Bw5a.grown hgrow Bw5a.size (fun c e => by have := (World.ownsRow.lt Ga c e).1; omega)
          have G5 := TGrows.of_own hown
          go_roundw
          case rel => exact ⟨k + 1, by omega, by go_num, by rw [hst'.out, hq.out], by rw [hst'.out, hq.out]; exact G5, Bw5⟩
          case measure => simp [intOf]; omega
        · by_cases heq : x.toList == s.toList
          · have hq : Hid (intoStep s (xs, false) x = (xs ++ [x], true)) := by show _ = _; unfold intoStep; simp [hless, heq]
            have Ga := G.alloc (.cells #[.string x] 9)
            have Bw5a : Below w.heap.size w (wr.alloc (.cells #[.string x] 9)) := old_alloc Bwr _
            have cw5 := cells_one wr wr.heap.size rfl (.string x) 9
            have zw5 := Bwr.size
            go_wp2_with (at_builtin; refine wpList_append_own _ rfl _ _ 26 rfl w.heap.size 9 i0 _ 1 16 Try.underlying26 hi hz0 hz1 hz2 rfl (by decide) _ _ _ rfl Ga ⟨wr.heap.size, 0, none⟩ 1 1 [.string x] rfl rfl cw5 (by simp [Value.oneCell']) (by unfold maxLen; omega) (by omega) (by simp; omega) ?_; intro v5 w5 hown hgrow _)
            have Bw5 : Below w.heap.size w w5 := Bw5a.grown hgrow Bw5a.size (fun c e => by have := (World.ownsRow.lt Ga c e).1; omega)
            have G5 := TGrows.of_own hown
            go_roundw
            case rel => exact ⟨k + 1, by omega, by go_num, by rw [hst'.out, hq.out], by rw [hst'.out, hq.out]; exact G5, Bw5⟩
            case measure => simp [intOf]; omega
          · have heq' : (x.toList == s.toList) = false := by simpa using heq
            have hq : Hid (intoStep s (xs, false) x = (xs ++ [s] ++ [x], true)) := by show _ = _; unfold intoStep; simp [hless, heq']
            clear heq
            have Ga := G.alloc (.cells #[.string s] 9)
            have Bw5a : Below w.heap.size w (wr.alloc (.cells #[.string s] 9)) := old_alloc Bwr _
            have cw5 := cells_one wr wr.heap.size rfl (.string s) 9
            have zw5 := Bwr.size
            have hl5 : (xs ++ [s]).length ≤ 2 * k + 1 := by simp; omega
            go_wp2_with (at_builtin; first | (refine wpList_append_own _ rfl _ _ 26 rfl w.heap.size 9 i0 _ 1 16 Try.underlying26 hi hz0 hz1 hz2 rfl (by decide) _ _ _ rfl Ga ⟨wr.heap.size, 0, none⟩ 1 1 [.string s] rfl rfl cw5 (by simp [Value.oneCell']) (by unfold maxLen; omega) (by omega) (by simp; omega) ?_; intro v5 w5 hown hgrow _; have Bq5 : Below w.heap.size w w5 := Bw5a.grown hgrow Bw5a.size (fun c e => by have := (World.ownsRow.lt Ga c e).1; omega); have c0 : w5.cell? ⟨b, off + k, none⟩ = some (.string x) := (by obtain ⟨b2, off2, x2, e2, -, hx2, -, c2⟩ := (hRo.out _ Bq5).at hlt; injection e2 with e2; injection e2 with e3 e4; subst e3 e4; rw [hxx] at hx2; subst hx2; exact c2); have G5 := TGrows.of_own hown; have G5a := G5.alloc (.cells #[.string x] 9); have Bw6a : Below w.heap.size w (w5.alloc (.cells #[.string x] 9)) := old_alloc Bq5 _; have cw6 := cells_one w5 w5.heap.size rfl (.string x) 9; have zw6 := Bq5.size) | (refine wpList_append_own _ rfl _ _ 26 rfl w.heap.size 9 i0 _ 1 16 Try.underlying26 hi hz0 hz1 hz2 rfl (by decide) _ _ _ rfl G5a ⟨w5.heap.size, 0, none⟩ 1 1 [.string x] rfl rfl cw6 (by simp [Value.oneCell']) (by unfold maxLen; omega) (by omega) (by simp; omega) ?_; intro v6 w6 hown6 hgrow6 _))
            have Bw6 : Below w.heap.size w w6 := Bw6a.grown hgrow6 Bw6a.size (fun c e => by have := (World.ownsRow.lt G5a c e).1; omega)
            have G6 := TGrows.of_own hown6
            go_roundw
            case rel => exact ⟨k + 1, by omega, by go_num, by rw [hst'.out, hq.out], by rw [hst'.out, hq.out]; exact G6, Bw6⟩
            case measure => simp [intOf]; omega
      · have hq : Hid (intoStep s (xs, true) x = (xs ++ [x], true)) := by show _ = _; unfold intoStep; simp
        have Ga := G.alloc (.cells #[.string x] 9)
        have Bw5a : Below w.heap.size w (wr.alloc (.cells #[.string x] 9)) := old_alloc Bwr _
        have cw5 := cells_one wr wr.heap.size rfl (.string x) 9
        have zw5 := Bwr.size
        go_wp2_with (at_builtin; refine wpList_append_own _ rfl _ _ 26 rfl w.heap.size 9 i0 _ 1 16 Try.underlying26 hi hz0 hz1 hz2 rfl (by decide) _ _ _ rfl Ga ⟨wr.heap.size, 0, none⟩ 1 1 [.string x] rfl rfl cw5 (by simp [Value.oneCell']) (by unfold maxLen; omega) (by omega) (by simp; omega) ?_; intro v5 w5 hown hgrow _)
        have Bw5 : Below w.heap.size w w5 := Bw5a.grown hgrow Bw5a.size (fun c e => by have := (World.ownsRow.lt Ga c e).1; omega)
        have G5 := TGrows.of_own hown
        go_roundw
        case rel => exact ⟨k + 1, by omega, by go_num, by rw [hst'.out, hq.out], by rw [hst'.out, hq.out]; exact G5, Bw5⟩
        case measure => simp [intOf]; omega
    · obtain rfl : k = l.length := by omega
      have hln := intoAt_len l s l.length (Nat.le_refl _)
      have hki : ¬ ((l.length : Int) < (l.length : Int)) := by omega
      have hL : Hid (intoL l s = if (intoAt l s l.length).2 then (intoAt l s l.length).1 else (intoAt l s l.length).1 ++ [s]) := rfl
      obtain ⟨⟨xs, bn⟩, hr⟩ : ∃ r, intoAt l s l.length = r := ⟨_, rfl⟩
      rw [hr] at G hln hL ⊢
      clear hr
      replace G : TGrows wr w.heap.size _ xs := G
      replace hln : xs.length ≤ 2 * l.length := hln
      cases bn
      · replace hL : Hid (intoL l s = xs ++ [s]) := hL
        rw [hL.out] at hfit
        have Ga := G.alloc (.cells #[.string s] 9)
        have Bw5a : Below w.heap.size w (wr.alloc (.cells #[.string s] 9)) := old_alloc Bwr _
        have cw5 := cells_one wr wr.heap.size rfl (.string s) 9
        have zw5 := Bwr.size
        go_wp2_with (at_builtin; refine wpList_append_own _ rfl _ _ 26 rfl w.heap.size 9 i0 _ 1 16 Try.underlying26 hi hz0 hz1 hz2 rfl (by decide) _ _ _ rfl Ga ⟨wr.heap.size, 0, none⟩ 1 1 [.string s] rfl rfl cw5 (by simp [Value.oneCell']) (by unfold maxLen; omega) (by omega) (by simp; omega) ?_; intro v5 w5 hown hgrow _)
        have Bw5 : Below w.heap.size w w5 := Bw5a.grown hgrow Bw5a.size (fun c e => by have := (World.ownsRow.lt Ga c e).1; omega)
        have G5 := TGrows.of_own hown
        obtain ⟨av, cv, rfl, ho⟩ := G5.ot hfit.out
        go_ret
        rw [hL.out]
        exact ⟨⟨_, _, rfl, ho⟩, Bw5⟩
      · replace hL : Hid (intoL l s = xs) := hL
        rw [hL.out] at hfit
        obtain ⟨av, cv, rfl, ho⟩ := G.ot hfit.out
        go_wp2
        go_ret
        rw [hL.out]
        exact ⟨⟨_, _, rfl, ho⟩, Bwr⟩
end Go.Proofs.Ytafpjgojmpjajaa
