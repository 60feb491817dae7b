/- One step of a scanner of literals. Conditions: few and small numbers. Of what was there only what it gathers in and what is left to it are written. -/
import Derived.Test.YtafpjgojmpjajaaZE
namespace Go.Proofs.Ytafpjgojmpjajaa
open Go.RowKit
set_option linter.unusedVariables false
set_option maxRecDepth 100000

def takeV (g : Nat) : Value := .func (.func 65) #[] #[.pointer (some ⟨g, 0, none⟩)]
/-- where a scanner stands: what is left to it, and what it has gathered -/
structure Sc (w : World) (lb tb g rb : Nat) (rs : List Int) (l : Lt) : Prop where
  left : ∃ off cap : Nat, CS w lb [.slice (some ⟨rb, off, none⟩) rs.length cap] ∧ rs.length ≤ cap ∧ ∀ i, i < rs.length → w.cell? ⟨rb, off + i, none⟩ = some (.int .i32 (rs.getD i 0))
  take : w.cell? ⟨tb, 0, none⟩ = some (takeV g)
  tlt : tb < w.heap.size
  rlt : rb < w.heap.size
  lit : CS w g l.cells
  ne : lb ≠ g ∧ tb ≠ g ∧ tb ≠ lb ∧ rb ≠ g ∧ rb ≠ lb
set_option maxHeartbeats 1000000 in
theorem iTake (g : Nat) (part r : Int) (l : Lt) (n : Nat) (w : World) (hC : CS w g l.cells) (hn : n ≤ 1000) (hs : l.small n) (h1 : 0 ≤ r) (h2 : r ≤ 127) (hp : part = 4 → 48 ≤ r) (hk : 0 ≤ part ∧ part ≤ 4) :
    Calls Try.prog 65 #[.int .i64 part, .int .i32 r, .pointer (some ⟨g, 0, none⟩)] w fun e w' => (∃ v, e = .returned v) ∧ CS w' g (gat part r l).cells ∧ BX (· = g) w w' := by
  have G := hd (iGather g part r l n w hC hn hs h1 h2 hp hk)
  clear hC hn hs h1 h2 hp hk
  generalize (gat part r l).cells = m at *
  go_enter Try.func65, Try.ntmps65
  go_wp2_with fail
  refine G.out.mono ?_
  rintro e w1 ⟨⟨v, rfl⟩, hm, hb⟩
  go_wp2
  go_end0
  exact ⟨⟨_, rfl⟩, hm, hb⟩
set_option maxHeartbeats 2000000 in
theorem iPassNo (lo hi part : Int) (lb tb g rb : Nat) (rs : List Int) (l : Lt) (w : World) (S : Sc w lb tb g rb rs l) (h : rs = [] ∨ ∃ r t, rs = r :: t ∧ (r < lo ∨ hi < r)) :
    Calls Try.prog 67 #[.int .i32 lo, .int .i32 hi, .int .i64 part, .pointer (some ⟨lb, 0, none⟩), .pointer (some ⟨tb, 0, none⟩)] w fun e w' => e = .returned (.bool false) ∧ w' = w := by
  obtain ⟨off, cap, K, hc, hr⟩ := S.left
  have k0 := K.cell 0 _ rfl
  clear K
  rcases h with rfl | ⟨r, t, rfl, h⟩
  · clear hr S hc
    dsimp only [List.length_nil] at k0
    go_enter Try.func67, Try.ntmps67
    go_wp2
    go_ret
    exact ⟨rfl, rfl⟩
  · have r0 := hr 0 (by simp)
    simp only [Nat.add_zero, List.getD_cons_zero] at r0
    have hl : 0 < (r :: t).length := by simp
    clear hr S
    generalize (r :: t).length = n at *
    have hl' : ¬ (n : Int) = 0 := by omega
    have hl2 : (0 : Int) < (n : Int) := by omega
    rcases h with h | h
    · go_enter Try.func67, Try.ntmps67
      go_wp2
      go_ret
      exact ⟨rfl, rfl⟩
    · by_cases h' : r < lo
      · go_enter Try.func67, Try.ntmps67
        go_wp2
        go_ret
        exact ⟨rfl, rfl⟩
      · go_enter Try.func67, Try.ntmps67
        go_wp2
        go_ret
        exact ⟨rfl, rfl⟩
set_option maxHeartbeats 2000000 in
theorem iPassYes (lo hi part : Int) (lb tb g rb : Nat) (r : Int) (t : List Int) (l : Lt) (n : Nat) (w : World) (S : Sc w lb tb g rb (r :: t) l) (hn : n ≤ 1000) (hs : l.small n) (h1 : lo ≤ r) (h2 : r ≤ hi) (h0 : 0 ≤ lo) (h3 : hi ≤ 127) (hp : part = 4 → 48 ≤ lo) (hk : 0 ≤ part ∧ part ≤ 4) :
    Calls Try.prog 67 #[.int .i32 lo, .int .i32 hi, .int .i64 part, .pointer (some ⟨lb, 0, none⟩), .pointer (some ⟨tb, 0, none⟩)] w fun e w' => e = .returned (.bool true) ∧ Sc w' lb tb g rb t (gat part r l) ∧ BX (fun k => k = g ∨ k = lb) w w' := by
  obtain ⟨off, cap, K, hc, hr⟩ := S.left
  have k0 := K.cell 0 _ rfl
  have T0 := S.take
  have hlit := S.lit
  obtain ⟨n1, n2, n3, n4, n5⟩ := S.ne
  have T := hd (fun w' (h : CS w' g l.cells) => iTake g part r l n w' h hn hs (by omega) (by omega) (fun e => by have := hp e; omega) hk)
  have r0 := hr 0 (by simp)
  simp only [Nat.add_zero, List.getD_cons_zero] at r0
  have hq : ∀ i, i < t.length → w.cell? ⟨rb, off + 1 + i, none⟩ = some (.int .i32 (t.getD i 0)) := fun i hi => by
    have := hr (i + 1) (by simp; omega)
    rw [List.getD_cons_succ] at this
    rw [show off + 1 + i = off + (i + 1) by omega]
    exact this
  have tl := S.tlt
  have rl := S.rlt
  have hN : (r :: t).length = t.length + 1 := rfl
  rw [hN] at *
  clear hr hN hs hn hp hk h0 h3
  have l1 : ¬ ((t.length : Int) + 1 = 0) := by omega
  have l2 : (0 : Int) < (t.length : Int) + 1 := by omega
  have hr1 : ¬ r < lo := by omega
  have hr2 : ¬ hi < r := by omega
  unfold takeV at T0
  have U := hd (fun w' (hB : BX (· = g) w w') (hS : w'.cell? ⟨tb, 0, none⟩ = some (.func (.func 65) #[] #[.pointer (some ⟨g, 0, none⟩)]) ∧ w'.cell? ⟨lb, 0, none⟩ = some (.slice (some ⟨rb, off, none⟩) (t.length + 1) cap) ∧ w'.cell? ⟨rb, off, none⟩ = some (.int .i32 r)) (h : CS w' g l.cells) => (T.out w' h).mono (fun e w'' (k : _ ∧ _ ∧ _) => (⟨k, k.2.2.cell (Nat.lt_of_lt_of_le tl hB.size) n2 |>.trans hS.1, k.2.2.cell (Nat.lt_of_lt_of_le K.lt hB.size) n1 |>.trans hS.2.1, k.2.2.cell (Nat.lt_of_lt_of_le rl hB.size) n4 |>.trans hS.2.2⟩ : (_ ∧ _ ∧ _) ∧ (w''.cell? ⟨tb, 0, none⟩ = some (.func (.func 65) #[] #[.pointer (some ⟨g, 0, none⟩)]) ∧ w''.cell? ⟨lb, 0, none⟩ = some (.slice (some ⟨rb, off, none⟩) (t.length + 1) cap) ∧ w''.cell? ⟨rb, off, none⟩ = some (.int .i32 r)))))
  go_enter Try.func67, Try.ntmps67
  go_wp2_with fail
  go_region_held3 (fun w' => w'.cell? ⟨tb, 0, none⟩ = some (.func (.func 65) #[] #[.pointer (some ⟨g, 0, none⟩)]) ∧ w'.cell? ⟨lb, 0, none⟩ = some (.slice (some ⟨rb, off, none⟩) (t.length + 1) cap) ∧ w'.cell? ⟨rb, off, none⟩ = some (.int .i32 r)) (go_keep) (first | (go_at_call 65; with_reducible refine (U.out _ (BX.refl _ w).drew (by assumption) hlit.drew).mono ?_; rintro e w4 ⟨⟨⟨v4, rfl⟩, h4, hb4⟩, hc4⟩))
  obtain ⟨hc1, hc2, hc3⟩ := hc4
  have hbw : BX (· = g) w w4 := (BX.refl (· = g) w).drew.trans hb4
  have K4 := K.bx hbw n1
  have f4 := K4.froz 0 (by show 0 < 1; omega)
  have hc' : t.length + 1 ≤ cap := hc
  have l3 : (1 : Int) ≤ (t.length : Int) + 1 := by omega
  have l4 : (t.length : Int) + 1 ≤ cap := by omega
  have tk : w4.cell? ⟨tb, 0, none⟩ = some (takeV g) := hc1
  have q4 : ∀ i, i < t.length → w4.cell? ⟨rb, off + 1 + i, none⟩ = some (.int .i32 (t.getD i 0)) := fun i hi => (hbw.cell rl n4).trans (hq i hi)
  have fin : ∀ off' cap' : Nat, t.length ≤ cap' → cap' ≤ cap → (∀ i, i < t.length → w4.cell? ⟨rb, off' + i, none⟩ = some (.int .i32 (t.getD i 0))) → Sc (w4.setCell ⟨lb, 0, none⟩ (.slice (some ⟨rb, off', none⟩) t.length cap')) lb tb g rb t (gat part r l) ∧ BX (fun k => k = g ∨ k = lb) w (w4.setCell ⟨lb, 0, none⟩ (.slice (some ⟨rb, off', none⟩) t.length cap')) := fun off' cap' g1 g2 g3 => by
    have o : ∀ (b j : Nat), b ≠ lb → (w4.setCell ⟨lb, 0, none⟩ (.slice (some ⟨rb, off', none⟩) t.length cap')).cell? ⟨b, j, none⟩ = w4.cell? ⟨b, j, none⟩ := fun b j hb => World.cell?_setCell_other _ _ _ _ (by intro h; injection h with h2 _; omega)
    have sz : (w4.setCell ⟨lb, 0, none⟩ (.slice (some ⟨rb, off', none⟩) t.length cap')).heap.size = w4.heap.size := by simp [World.setCell]
    refine ⟨⟨⟨off', cap', K4.stored (i := 0) _ (by show 0 < 1; omega), g1, fun i hi => (o _ _ n5).trans (g3 i hi)⟩, (o _ _ n3).trans tk, ?_, ?_, h4.far (Ne.symm n1) _, n1, n2, n3, n4, n5⟩, (hbw.mono (fun k _ h => .inl h)).set ⟨lb, 0, none⟩ (.inl (.inr rfl)) _⟩
    · rw [sz]; exact Nat.lt_of_lt_of_le tl hbw.size
    · rw [sz]; exact Nat.lt_of_lt_of_le rl hbw.size
  have fin' := hd fin
  clear T U k0 T0 r0 S hc3 hb4 l1 l2 hr1 hr2 h1 h2 fin K4 K hq h4 hc
  go_wp2
  · go_ret
    exact ⟨rfl, fin'.out off 0 (by omega) (by omega) (fun i hi => absurd hi (by omega))⟩
  · go_ret
    exact ⟨rfl, fin'.out (off + 1) (cap - 1) (by omega) (by omega) q4⟩
end Go.Proofs.Ytafpjgojmpjajaa
