/- Sums, by the specification and by the program. Conditions: numbers. -/
import Derived.Test.YtpamnpdigoikoaaDoorN6
import Derived.Test.YtpamnpdigoikoaaDoorN7
namespace Go.Proofs.YtpamnpdigoikoaaDoor
open Go.RowKit
set_option linter.unusedVariables false
set_option maxRecDepth 100000

/-- digits that are being made by a sum of multiples -/
def MixG (k : Nat) (xs ys o : List Int) (fa fb c : Int) : Prop :=
  o.length = k ∧ digs o ∧ ((val o : Nat) : Int) + (65536 : Int) ^ k * c = (val (xs.take k) : Nat) * fa + (val (ys.take k) : Nat) * fb
theorem MixG.zero (xs ys : List Int) (fa fb : Int) : MixG 0 xs ys [] fa fb 0 := ⟨rfl, digs_nil, by simp [val]⟩
theorem MixG.step {k : Nat} {xs ys o : List Int} {fa fb c : Int} (h : MixG k xs ys o fa fb c) (hx : digs xs) (hy : digs ys) (s d c' : Int) (hs : s = c + xs.getD k 0 * fa + ys.getD k 0 * fb) (hd : dig d) (hsd : s = d + 65536 * c') :
    MixG (k + 1) xs ys (o ++ [d]) fa fb c' := by
  obtain ⟨h1, h2, h3⟩ := h
  refine ⟨by simp [h1], digs_append.2 ⟨h2, digs_cons.2 ⟨hd, digs_nil⟩⟩, ?_⟩
  have dx := digs_getD hx k
  have dy := digs_getD hy k
  rw [val_take_succ, val_take_succ, val_append, h1, val_cons, val_nil]
  unfold dig at dx dy hd
  have e1 : (((xs.getD k 0).toNat : Nat) : Int) = xs.getD k 0 := by omega
  have e2 : (((ys.getD k 0).toNat : Nat) : Int) = ys.getD k 0 := by omega
  have e3 : (((d.toNat + 65536 * 0 : Nat)) : Int) = d := by omega
  have e := pow_cast k
  have := mix_step (P := (65536 : Int) ^ k) h3 hs hsd
  rw [Int.natCast_add, Int.natCast_add, Int.natCast_add, Int.natCast_mul, Int.natCast_mul, Int.natCast_mul, e, e1, e2, e3, Int.pow_succ, Int.add_mul, Int.add_mul]
  omega
theorem MixG.all {n : Nat} {xs ys o : List Int} {fa fb c : Int} (h : MixG n xs ys o fa fb c) (hx : xs.length ≤ n) (hy : ys.length ≤ n) : ((val o : Nat) : Int) + (65536 : Int) ^ n * c = (val xs : Nat) * fa + (val ys : Nat) * fb := by
  have := h.2.2
  rwa [List.take_of_length_le hx, List.take_of_length_le hy] at this
theorem val_ge {xs : List Int} (h : digs xs) (t : topped xs) (h0 : 0 < xs.length) : 65536 ^ (xs.length - 1) ≤ val xs := by
  have e := natL_canon h t
  rcases Nat.lt_or_ge (val xs) (65536 ^ (xs.length - 1)) with g | g
  · have := natL_len.2 g
    rw [e] at this
    omega
  · exact g
theorem canon_ge {o : List Int} (h : digs o) (g : o.length = 0 ∨ 65536 ^ (o.length - 1) ≤ val o) : natL (val o) = o := by
  refine natL_canon h ?_
  rcases g with g | g
  · exact .inl g
  · by_cases h0 : o.length = 0
    · exact .inl h0
    · refine .inr (fun e => ?_)
      have hs : o.take (o.length - 1 + 1) = o := List.take_of_length_le (by omega)
      have hv := val_take_succ o (o.length - 1)
      rw [hs, e] at hv
      have ht : digs (o.take (o.length - 1)) := (digs_append.1 (by rw [List.take_append_drop]; exact h)).1
      have hl := val_lt ht
      rw [List.length_take, Nat.min_eq_left (by omega)] at hl
      simp at hv
      omega
/-- what a sum's digits are, when the last carry stands at their head -/
theorem add_end {n : Nat} {xs ys o : List Int} {c : Int} (h : MixG n xs ys o 1 1 c) (hx : digs xs) (hy : digs ys) (tx : topped xs) (ty : topped ys) (hn : n = max xs.length ys.length) (hc : c = 0 ∨ c = 1) :
    (c = 0 → natL (val xs + val ys) = o) ∧ (c = 1 → natL (val xs + val ys) = o ++ [1]) := by
  have ha := h.all (by omega) (by omega)
  have e := pow_cast n
  constructor
  · rintro rfl
    have hv : val xs + val ys = val o := by simp at ha; omega
    rw [hv]
    refine canon_ge h.2.1 ?_
    rw [← hv, h.1]
    by_cases h0 : n = 0
    · exact .inl h0
    · refine .inr ?_
      rcases Nat.le_total xs.length ys.length with g | g
      · have := val_ge hy ty (by omega)
        rw [show ys.length = n by omega] at this
        omega
      · have := val_ge hx tx (by omega)
        rw [show xs.length = n by omega] at this
        omega
  · rintro rfl
    have hv : val xs + val ys = val (o ++ [1]) := by
      rw [val_append, h.1, val_cons, val_nil]
      simp at ha ⊢
      omega
    rw [hv]
    refine natL_canon (digs_append.2 ⟨h.2.1, digs_cons.2 ⟨by unfold dig; omega, digs_nil⟩⟩) (.inr ?_)
    simp [List.getD_eq_getElem?_getD]

set_option maxHeartbeats 2000000 in
theorem sAdd (a b : Option Addr) (la lb ca cb : Nat) (xs ys : List Int) (w : World) (hA : InI w a la ca xs) (hB : InI w b lb cb ys) (hx : digs xs) (hy : digs ys) (tx : topped xs) (ty : topped ys) (hla : la ≤ 1048576) (hlb : lb ≤ 1048576) :
    Calls Tryd.prog 87 #[.slice a la ca, .slice b lb cb] w fun e w' => (∃ av cv, e = .returned (.slice av (natL (val xs + val ys)).length cv) ∧ OI w' w.heap.size av cv (natL (val xs + val ys))) ∧ Below w.heap.size w w' := by
  obtain ⟨i0, hi, hz0, hz1, hz2⟩ := info_parts infoInt
  have pa := hA.1
  have pb := hB.1
  have hend := hd (fun o c h => add_end (n := max la lb) (o := o) (c := c) h hx hy tx ty (by omega))
  have hfit := hd (natL_fits (val xs + val ys))
  generalize natL (val xs + val ys) = ql at *
  have hnL : Hid (∃ n, n = max la lb ∧ n ≤ 1048576) := ⟨_, rfl, by omega⟩
  obtain ⟨n, hn, hnl⟩ := hnL.out
  clear hnL
  rw [← hn] at hend
  by_cases hle : la < lb
  all_goals
    first | (have hnla : (n : Int) = (la : Int) := by omega) | (have hnla : (n : Int) = (lb : Int) := by omega)
    have hxa : Hid (∀ k, n ≤ k → xs.getD k 0 = 0) := fun k hk => getD_out (by omega)
    go_enter Tryd.func87, Tryd.ntmps87
    go_wp2
    go_loopw [6, 7, 8] (fun o c i wr => ∃ (k : Nat) (qs : List Int) (cv : Int), k ≤ n ∧ c = .int .i64 cv ∧ i = .int .i64 k ∧ MixG k xs ys qs 1 1 cv ∧ (0 ≤ cv ∧ cv ≤ 1) ∧ IGrows wr w.heap.size o qs ∧ Below w.heap.size w wr) (fun _ _ i _ => n - (intOf i).toNat)
    case atStart => exact ⟨0, [], 0, by omega, rfl, rfl, MixG.zero _ _ _ _, by omega, IGrows.nil _ _, Below.refl _ _⟩
    case round =>
      obtain ⟨k, qs, c, hk, rfl, rfl, hM, hc, G, hb⟩ := hrel
      have hql := hM.1
      have hsz := hb.size
      by_cases hlt : k < n
      · have hltz : (k : Int) < (la : Int) ∨ (k : Int) < (lb : Int) := by omega
        have dx := digs_getD hx k
        have dy := digs_getD hy k
        have SA := hd (sAt a la ca xs k _ (hA.old hb))
        have SB := hd (sAt b lb cb ys k _ (hB.old hb))
        have hst := hd (fun d c' h1 h2 => hM.step hx hy (c + xs.getD k 0 * 1 + ys.getD k 0 * 1) d c' rfl h1 h2)
        generalize xs.getD k 0 = x at *
        generalize ys.getD k 0 = y at *
        unfold dig at dx dy
        obtain ⟨s, hs⟩ : ∃ s, s = x + y + c := ⟨_, rfl⟩
        have hs0 : 0 ≤ s := by omega
        have hs1 : s ≤ 131071 := by omega
        have h2 := hst.out (s % 65536) (s / 65536) (by unfold dig; omega) (by omega)
        have h2' := hd h2
        have hcb : 0 ≤ s / 65536 ∧ s / 65536 ≤ 1 := by omega
        have hcb' := hd hcb
        clear h2 hcb hst hM hnla hxa hend
        subst hs
        have G2 := G.alloc (.cells #[.int .i64 ((x + y + c) % 65536)] 3)
        have B2 : Below w.heap.size w (wr.alloc (.cells #[.int .i64 ((x + y + c) % 65536)] 3)) := old_alloc hb _
        have cw := cells_one wr wr.heap.size rfl (.int .i64 ((x + y + c) % 65536)) 3
        first | (have hkn : (k : Int) < (la : Int) := by omega) | (have hkn : (k : Int) < (lb : Int) := by omega)
        clear hltz
        go_wp2_with fail
        refine SA.out.mono ?_
        rintro e w1 ⟨rfl, rfl⟩
        go_wp2_with fail
        refine SB.out.mono ?_
        rintro e w1 ⟨rfl, rfl⟩
        go_wp2_with (at_builtin; refine wpList_append_own _ rfl _ _ 23 rfl w.heap.size 3 i0 _ 1 8 Tryd.underlying23 hi hz0 hz1 hz2 rfl (by decide) _ _ _ rfl G2 ⟨_, 0, none⟩ 1 1 [.int .i64 ((x + y + c) % 65536)] rfl rfl cw (by simp [Value.oneCell']) (by rw [hql]; unfold maxLen; omega) (by rw [hql]; omega) (by simp; omega) ?_; intro v' w5 hown hgrow _)
        go_roundw
        case rel =>
          refine ⟨k + 1, _, _, by omega, rfl, by go_num, h2'.out, hcb'.out, ?_, ?_⟩
          · unfold IGrows
            rw [ints_snoc, List.length_append]
            exact hown
          · exact B2.grown hgrow B2.size (fun c e => by have := (World.ownsRow.lt G2 c e).1; omega)
        case measure => simp [intOf]; omega
      · obtain rfl : k = n := by omega
        have he := hend.out qs c hM (by omega)
        have hk1 : ¬ ((k : Int) < (la : Int)) := by omega
        have hk2 : ¬ ((k : Int) < (lb : Int)) := by omega
        by_cases h0 : c = 0
        · subst h0
          have e := he.1 rfl
          subst e
          obtain ⟨av, cv, rfl, ho⟩ := G.oi hfit.out
          clear he hM hend hn hnla
          go_wp2
          go_ret
          exact ⟨⟨_, _, rfl, ho⟩, hb⟩
        · obtain rfl : c = 1 := by omega
          have e := he.2 rfl
          have e' := hd e
          clear he e hM hend hn hnla
          have G2 := G.alloc (.cells #[.int .i64 1] 3)
          have B2 : Below w.heap.size w (wr.alloc (.cells #[.int .i64 1] 3)) := old_alloc hb _
          have cw := cells_one wr wr.heap.size rfl (.int .i64 1) 3
          go_wp2_with (at_builtin; refine wpList_append_own _ rfl _ _ 23 rfl w.heap.size 3 i0 _ 1 8 Tryd.underlying23 hi hz0 hz1 hz2 rfl (by decide) _ _ _ rfl G2 ⟨_, 0, none⟩ 1 1 [.int .i64 1] rfl rfl cw (by simp [Value.oneCell']) (by rw [hql]; unfold maxLen; omega) (by rw [hql]; omega) (by simp; omega) ?_; intro v' w5 hown hgrow _)
          have G5 : IGrows w5 w.heap.size v' ql := by
            rw [e'.out]
            unfold IGrows
            rw [ints_snoc, List.length_append]
            exact hown
          obtain ⟨av, cv, rfl, ho⟩ := G5.oi hfit.out
          go_ret
          exact ⟨⟨_, _, rfl, ho⟩, B2.grown hgrow B2.size (fun c e => by have := (World.ownsRow.lt G2 c e).1; omega)⟩
end Go.Proofs.YtpamnpdigoikoaaDoor
