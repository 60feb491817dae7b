/- Whether a box is one: by the specification's loop, and by the program's search for a wrong coordinate. No condition. -/
import Derived.Test.YtmllcpcbaojipaaDoorPK14
import Derived.Test.YtmllcpcbaojipaaDoorPK15
import Derived.RangeFuncBox
import Derived.Maps.AppendAt
namespace Go.Proofs.YtmllcpcbaojipaaDoor
open Go.RowKit
set_option linter.unusedVariables false
set_option maxRecDepth 100000

def okRow (wd : Int) (ps : List (Int × Int)) : Bool := decide (1 ≤ ps.length) && (decide (ps.length ≤ 6) && ps.all (fun p => pokB wd p.1 p.2))
theorem okRow_short {wd : Int} {ps : List (Int × Int)} (h : ps.length < 1) : okRow wd ps = false := by unfold okRow; simp [show ¬ 1 ≤ ps.length by omega]
theorem okRow_long {wd : Int} {ps : List (Int × Int)} (h : 6 < ps.length) : okRow wd ps = false := by unfold okRow; simp [show ¬ ps.length ≤ 6 by omega]
theorem okRow_no {wd : Int} {ps : List (Int × Int)} {k : Nat} (hk : k < ps.length) {x y : Int} (hx : ps.getD k (0, 0) = (x, y)) (h : pokB wd x y = false) : okRow wd ps = false := by
  unfold okRow
  have : ps.all (fun p => pokB wd p.1 p.2) = false := by
    rw [List.all_eq_false]
    refine ⟨(x, y), ?_, by simp [h]⟩
    rw [← hx, List.getD_eq_getElem?_getD, List.getElem?_eq_getElem hk]
    exact List.getElem_mem _
  simp [this]
theorem okRow_yes {wd : Int} {ps : List (Int × Int)} (h1 : 1 ≤ ps.length) (h2 : ps.length ≤ 6) (h : ∀ k, k < ps.length → pokB wd (ps.getD k (0, 0)).1 (ps.getD k (0, 0)).2 = true) : okRow wd ps = true := by
  unfold okRow
  have : ps.all (fun p => pokB wd p.1 p.2) = true := by
    rw [List.all_eq_true]
    intro p hp
    obtain ⟨k, hk, rfl⟩ := List.getElem_of_mem hp
    have := h k hk
    rw [List.getD_eq_getElem?_getD, List.getElem?_eq_getElem hk] at this
    exact this
  simp [this, h1, h2]

set_option maxHeartbeats 2000000 in
theorem sBoxOk (wd : Int) (a : Option Addr) (len cap : Nat) (ps : List (Int × Int)) (w : World) (hR : InRow w a len cap ps) :
    Calls Tryd.prog 7 #[.int .i64 wd, .agg #[.slice a len cap]] w fun e w' => e = .returned (.bool (okRow wd ps)) ∧ Below w.heap.size w w' := by
  have hlen : len ≤ maxLen := Nat.le_trans hR.2.1 hR.2.2.1
  have hp := hR.1
  unfold maxLen at hlen
  by_cases c1 : len < 1
  · rw [okRow_short (by omega)]
    go_enter Tryd.func7, Tryd.ntmps7
    go_wp2
    go_ret
    exact ⟨rfl, (by repeat (first | exact Below.refl _ _ | refine Below.drew ?_ | refine old_alloc ?_ _ | refine old_trans ?_ (by assumption)))⟩
  by_cases c2 : 6 < len
  · rw [okRow_long (by omega)]
    go_enter Tryd.func7, Tryd.ntmps7
    go_wp2
    go_ret
    exact ⟨rfl, (by repeat (first | exact Below.refl _ _ | refine Below.drew ?_ | refine old_alloc ?_ _ | refine old_trans ?_ (by assumption)))⟩
  have b3 := Cel1.made w _ rfl (.slice a len cap) 25
  have hb3 : Below w.heap.size w (w.alloc (.cells #[.slice a len cap] 25)) := (Below.refl _ w).alloc (Nat.le_refl _) _
  have hR3 := hR.old hb3
  go_enter Tryd.func7, Tryd.ntmps7
  go_wp2
  go_loopw [5] (fun i wr => ∃ k : Nat, k ≤ len ∧ i = .int .i64 k ∧ Hid (∀ j, j < k → pokB wd (ps.getD j (0, 0)).1 (ps.getD j (0, 0)).2 = true) ∧ Cel1 wr w.heap.size (.slice a len cap) ∧ InRow wr a len cap ps ∧ Below w.heap.size w wr) (fun b _ => len - (intOf b).toNat)
  case atStart => exact ⟨0, by omega, rfl, fun j hj => absurd hj (by omega), b3, hR3, hb3⟩
  case round =>
    obtain ⟨k, hk, rfl, hall, K, hRr, hb⟩ := hrel
    obtain ⟨k0, k1, k2⟩ := id K
    by_cases hlt : k < len
    · obtain ⟨b, off, x, y, rfl, hbl, hx, -, c0, c1'⟩ := hRr.at hlt
      have E := hd (sPairOk wd x y)
      cases hpk : pokB wd x y
      · rw [hpk] at E
        have hno : Hid (okRow wd ps = false) := okRow_no (by omega) hx hpk
        clear hpk
        go_wp2_with (go_at_call 19; refine (E.out _).mono ?_; rintro e w1 ⟨rfl, hb1⟩)
        go_ret
        exact ⟨by rw [hno.out]; rfl, (by repeat (first | exact hb | exact Below.refl _ _ | refine Below.drew ?_ | refine old_alloc ?_ _ | refine old_trans ?_ (by assumption)))⟩
      · have hall' : Hid (∀ j, j < k + 1 → pokB wd (ps.getD j (0, 0)).1 (ps.getD j (0, 0)).2 = true) := by
          intro j hj
          by_cases e : j = k
          · subst e; rw [hx]; exact hpk
          · exact hall j (by omega)
        rw [hpk] at E
        clear hpk
        go_wp2_with (go_at_call 19; refine (E.out _).mono ?_; rintro e w1 ⟨rfl, hb1⟩)
        go_roundw
        case rel => exact ⟨k + 1, by omega, by go_num, hall', K.later hb1, hRr.old hb1, (by repeat (first | exact hb | exact Below.refl _ _ | refine Below.drew ?_ | refine old_alloc ?_ _ | refine old_trans ?_ (by assumption)))⟩
        case measure => simp [intOf]; omega
    · obtain rfl : k = len := by omega
      have hyes : Hid (okRow wd ps = true) := okRow_yes (by omega) (by omega) (hp ▸ hall)
      go_wp2
      go_ret
      exact ⟨by rw [hyes.out]; rfl, hb⟩

theorem firstI_neg {len : Nat} {p : Nat → Bool} : decide (firstI len p < 0) = (List.range len).all (fun k => !p k) := by
  unfold firstI
  split
  · rename_i k h
    have := List.find?_some h
    have hm := List.mem_of_find?_eq_some h
    rw [Bool.eq_iff_iff]
    simp only [decide_eq_true_eq, List.all_eq_true]
    constructor
    · intro h; omega
    · intro h; have := h k hm; simp_all
  · rename_i h
    rw [List.find?_eq_none] at h
    rw [Bool.eq_iff_iff]
    simp only [decide_eq_true_eq, List.all_eq_true]
    constructor
    · intro _ x hx; simpa using h x hx
    · intro _; omega

set_option maxHeartbeats 2000000 in
theorem iBoxOk1 (wd : Int) (a : Option Addr) (len cap : Nat) (ps : List (Int × Int)) (B C k : Nat) (hk : k < len) (w : World) (hR : InRow w a len cap ps) (hB : w.cell? ⟨B, 0, none⟩ = some (.int .i64 wd)) (hC : w.cell? ⟨C, 0, none⟩ = some (.slice a len cap)) :
    Calls Tryd.prog 33 #[.int .i64 (k : Int), .pointer (some ⟨B, 0, none⟩), .pointer (some ⟨C, 0, none⟩)] w fun e w' => e = .returned (.bool (!pokB wd (ps.getD k (0, 0)).1 (ps.getD k (0, 0)).2)) ∧ Below w.heap.size w w' := by
  have hlen : len ≤ maxLen := Nat.le_trans hR.2.1 hR.2.2.1
  unfold maxLen at hlen
  obtain ⟨b, off, x, y, rfl, hbl, hx, -, c0, c1⟩ := hR.at hk
  rw [hx]
  have E := hd (iPairOk wd x y)
  dsimp only
  generalize pokB wd x y = r at *
  go_enter Tryd.func33, Tryd.ntmps33
  go_wp2_with fail
  go_region_with (go_at_call 34; refine (E.out _).mono ?_; rintro e w1 ⟨rfl, hb1⟩)
  all_goals
    go_wp2
    go_ret
    exact ⟨rfl, (by repeat (first | exact Below.refl _ _ | refine Below.drew ?_ | refine old_alloc ?_ _ | refine old_trans ?_ (by assumption)))⟩

theorem okRow_first {wd : Int} {ps : List (Int × Int)} (h1 : ¬ ps.length < 1) (h2 : ¬ 6 < ps.length) : decide (firstI ps.length (fun k => !pokB wd (ps.getD k (0, 0)).1 (ps.getD k (0, 0)).2) < 0) = okRow wd ps := by
  rw [firstI_neg]
  cases h : (List.range ps.length).all (fun k => !(!pokB wd (ps.getD k (0, 0)).1 (ps.getD k (0, 0)).2))
  · rw [List.all_eq_false] at h
    obtain ⟨k, hk, hn⟩ := h
    rw [List.mem_range] at hk
    rw [okRow_no (k := k) hk (x := (ps.getD k (0, 0)).1) (y := (ps.getD k (0, 0)).2) rfl (by simpa only [Bool.not_not, Bool.not_eq_true] using hn)]
  · rw [List.all_eq_true] at h
    rw [okRow_yes (by omega) (by omega) (fun k hk => by simpa using h k (List.mem_range.2 hk))]

set_option maxHeartbeats 2000000 in
theorem iBoxOk (wd : Int) (a : Option Addr) (len cap : Nat) (ps : List (Int × Int)) (w : World) (hR : InRow w a len cap ps) :
    Calls Tryd.prog 13 #[.int .i64 wd, .agg #[.slice a len cap]] w fun e w' => e = .returned (.bool (okRow wd ps)) ∧ Below w.heap.size w w' := by
  have hlen : len ≤ maxLen := Nat.le_trans hR.2.1 hR.2.2.1
  have hlen' := hlen
  obtain rfl := hR.1
  unfold maxLen at hlen
  by_cases c1 : ps.length < 1
  · rw [okRow_short (by omega)]
    go_enter Tryd.func13, Tryd.ntmps13
    go_wp2
    go_ret
    exact ⟨rfl, (by repeat (first | exact Below.refl _ _ | refine Below.drew ?_ | refine old_alloc ?_ _ | refine old_trans ?_ (by assumption)))⟩
  by_cases c2 : 6 < ps.length
  · rw [okRow_long (by omega)]
    go_enter Tryd.func13, Tryd.ntmps13
    go_wp2
    go_ret
    exact ⟨rfl, (by repeat (first | exact Below.refl _ _ | refine Below.drew ?_ | refine old_alloc ?_ _ | refine old_trans ?_ (by assumption)))⟩
  have hz := okRow_first (wd := wd) c1 c2
  have b2 : Cel1 ((w.alloc (.cells #[.int .i64 wd] 3)).alloc (.cells #[.slice a ps.length cap] 25)) w.heap.size (.int .i64 wd) := (Cel1.made w _ rfl _ _).alloc _
  have b3 : Cel1 ((w.alloc (.cells #[.int .i64 wd] 3)).alloc (.cells #[.slice a ps.length cap] 25)) (w.heap.size + 1) (.slice a ps.length cap) := Cel1.made _ _ (by simp) _ _
  have hb3 : Below w.heap.size w ((w.alloc (.cells #[.int .i64 wd] 3)).alloc (.cells #[.slice a ps.length cap] 25)) := ((Below.refl _ w).alloc (Nat.le_refl _) _).alloc (by simp) _
  have hR3 := hR.old hb3
  have H := hd (coordThat 33 #[.pointer (some ⟨w.heap.size, 0, none⟩), .pointer (some ⟨w.heap.size + 1, 0, none⟩)] a ps.length cap hlen' (fun k => !pokB wd (ps.getD k (0, 0)).1 (ps.getD k (0, 0)).2) _ (enters_of Tryd.func33 (by kernel_rfl) rfl)
    (fun k W hk hW => iBoxOk1 wd a ps.length cap ps w.heap.size (w.heap.size + 1) k hk W (hR3.old hW) (b2.later hW).1 (b3.later hW).1))
  generalize firstI ps.length _ = r at *
  go_enter Tryd.func13, Tryd.ntmps13
  go_wp2_with (go_at_call 20; refine H.out.mono ?_; rintro e w1 ⟨rfl, hb1⟩)
  go_ret
  exact ⟨by rw [← hz]; rfl, (by repeat (first | exact Below.refl _ _ | refine Below.drew ?_ | refine old_alloc ?_ _ | refine old_trans ?_ (by assumption)))⟩
end Go.Proofs.YtmllcpcbaojipaaDoor

/- What the laws over boxes carry from call to call. No condition. -/
namespace Go.Proofs.YtmllcpcbaojipaaDoor
open Go.RowKit
set_option linter.unusedVariables false
set_option maxRecDepth 100000

theorem Cel1.drew {w : World} {b : Nat} {x : Value} (h : Cel1 w b x) : Cel1 w.drew b x := h
theorem InRow.drew {w : World} {a : Option Addr} {len cap : Nat} {ps : List (Int × Int)} (h : InRow w a len cap ps) : InRow w.drew a len cap ps := h
theorem InRow.alloc {w : World} {a : Option Addr} {len cap : Nat} {ps : List (Int × Int)} (h : InRow w a len cap ps) (o : Obj) : InRow (w.alloc o) a len cap ps := h.old ((Below.refl _ _).alloc (Nat.le_refl _) o)
theorem InRow.set {w : World} {a : Option Addr} {len cap : Nat} {ps : List (Int × Int)} (h : InRow w a len cap ps) (p : Addr) (v : Value) (hne : ∀ q, a = some q → q.block ≠ p.block) : InRow (w.setCell p v) a len cap ps := by
  obtain ⟨h1, h2, h3, h4, h5⟩ := h
  refine ⟨h1, h2, h3, h4, ?_⟩
  rcases h5 with h5 | ⟨b, off, q1, q2, q3⟩
  · exact .inl h5
  · refine .inr ⟨b, off, q1, by simpa [World.setCell] using q2, fun i hi => ?_⟩
    have hn := hne _ q1
    rw [World.cell?_setCell_other _ _ _ _ (by intro e; subst e; exact hn rfl), World.cell?_setCell_other _ _ _ _ (by intro e; subst e; exact hn rfl)]
    exact q3 i hi

end Go.Proofs.YtmllcpcbaojipaaDoor

/- The laws' marks: every number of a list is written over with the next one; the list then holds these, and nothing else is written. Conditions: lists of 2^20 pairs at most. -/
namespace Go.Proofs.YtmllcpcbaojipaaDoor
open Go.RowKit
set_option linter.unusedVariables false
set_option maxRecDepth 100000

theorem Cel1.kept {w w' : World} {c : Nat} {v : Value} {row : Option Nat} (h : Cel1 w c v) (g : w.grownBy w' row) (hne : some c ≠ row) : Cel1 w' c v :=
  ⟨(World.cell?_of_block (a := ⟨c, 0, none⟩) (g.block c h.2.2 hne)).trans h.1, (World.frozen?_of_block (a := ⟨c, 0, none⟩) (g.block c h.2.2 hne)).trans h.2.1, Nat.lt_of_lt_of_le h.2.2 g.size⟩
theorem Row.kept {w w' : World} {c : Nat} {ps : List (Int × Int)} {row : Option Nat} (h : Row w c ps) (g : w.grownBy w' row) (hne : some c ≠ row) : Row w' c ps := by
  refine ⟨Nat.lt_of_lt_of_le h.1 g.size, fun i hi => ?_⟩
  obtain ⟨⟨h1, h2⟩, h3, h4⟩ := h.2 i hi
  have e := g.block c h.1 hne
  exact ⟨⟨(World.cell?_of_block (a := ⟨c, i * 2, none⟩) e).trans h1, (World.cell?_of_block (a := ⟨c, i * 2 + 1, none⟩) e).trans h2⟩, (World.frozen?_of_block (a := ⟨c, i * 2, none⟩) e).trans h3, (World.frozen?_of_block (a := ⟨c, i * 2 + 1, none⟩) e).trans h4⟩
theorem InRow.kept {w w' : World} {a : Option Addr} {len cap : Nat} {ps : List (Int × Int)} {row : Option Nat} (h : InRow w a len cap ps) (g : w.grownBy w' row) (hne : ∀ q, a = some q → some q.block ≠ row) : InRow w' a len cap ps := by
  obtain ⟨h1, h2, h3, h4, h5⟩ := h
  refine ⟨h1, h2, h3, h4, ?_⟩
  rcases h5 with h5 | ⟨b, off, q1, q2, q3⟩
  · exact .inl h5
  · refine .inr ⟨b, off, q1, Nat.lt_of_lt_of_le q2 g.size, fun i hi => ?_⟩
    have e := g.block b q2 (hne _ q1)
    exact ⟨(World.cell?_of_block (a := ⟨b, off + i * 2, none⟩) e).trans (q3 i hi).1, (World.cell?_of_block (a := ⟨b, off + (i * 2 + 1), none⟩) e).trans (q3 i hi).2⟩

end Go.Proofs.YtmllcpcbaojipaaDoor

/- A new box of what is made at each place; nothing, if one is not made: of whatever function that answers so at each place and writes nothing that was there. Conditions: 2^20 places at most. -/
namespace Go.Proofs.YtmllcpcbaojipaaDoor
open Go.RowKit
set_option linter.unusedVariables false
set_option maxRecDepth 100000

/-- what is made at the first n places -/
def madeL (n : Nat) (x y : Nat → Int) : List (Int × Int) := (List.range n).map (fun i => (x i, y i))
theorem madeL_length (n : Nat) (x y : Nat → Int) : (madeL n x y).length = n := by simp [madeL]
theorem madeL_getD {n i : Nat} (x y : Nat → Int) (h : i < n) : (madeL n x y).getD i (0, 0) = (x i, y i) := by simp [madeL, List.getD_eq_getElem?_getD, h]
def anyNo (n : Nat) (ok : Nat → Bool) : Bool := !(List.range n).all ok

set_option maxHeartbeats 4000000 in
theorem ofEach (g : Nat) (caps : Array Value) (n : Nat) (hn : n ≤ 1048576) (x y : Nat → Int) (ok : Nat → Bool) (w : World)
    (hE : ∀ args w, (callFunc g args).run Tryd.prog w = .ok (.enter g args) w)
    (hG : ∀ (k : Nat) (W : World), k < n → Below w.heap.size w W → Calls Tryd.prog g (#[.int .i64 (k : Int)] ++ caps) W fun e W' => e = .returned (.tuple #[.agg #[.int .i64 (x k), .int .i64 (y k)], .bool (ok k)]) ∧ Below W.heap.size W W') :
    Calls Tryd.prog 37 #[.int .i64 (n : Int), .func (.func g) #[] caps] w fun e w' => ((((∀ k, k < n → ok k = true) ∧ ∃ b, e = .returned (.tuple #[.agg #[.slice (some ⟨b, 0, none⟩) n n], .bool true]) ∧ w.heap.size ≤ b ∧ Row w' b (madeL n x y)) ∨ ((∃ k, k < n ∧ ok k = false) ∧ e = .returned (.tuple #[.agg #[.slice none 0 0], .bool false])))) ∧ Below w.heap.size w w' := by
  have hmk := mkPairs (w.alloc (.cells #[.slice none 0 0] 25)) n hn
  have hr0 := Row.made (w.alloc (.cells #[.slice none 0 0] 25)) n 40
  have K : Cel1 ((w.alloc (.cells #[.slice none 0 0] 25)).alloc (.cells (madeCells #[.int .i64 0, .int .i64 0] (n * 2)) 40)) w.heap.size (.slice none 0 0) := (Cel1.made w _ rfl _ _).alloc _
  have hb0 : Below w.heap.size w ((w.alloc (.cells #[.slice none 0 0] 25)).alloc (.cells (madeCells #[.int .i64 0, .int .i64 0] (n * 2)) 40)) := ((Below.refl _ w).alloc (Nat.le_refl _) _).alloc (by simp) _
  simp only [World.size_alloc] at hmk hr0
  generalize hW0 : (w.alloc (.cells #[.slice none 0 0] 25)).alloc (.cells (madeCells #[.int .i64 0, .int .i64 0] (n * 2)) 40) = w0 at *
  clear hW0
  go_enter Tryd.func37, Tryd.ntmps37
  go_wp2
  go_loopw [13] (fun i wr => ∃ (k : Nat) (qs : List (Int × Int)), k ≤ n ∧ i = .int .i64 k ∧ Hid (∀ j, j < k → ok j = true) ∧ Upto k qs (madeL n x y) ∧ Row wr (w.heap.size + 1) qs ∧ Cel1 wr w.heap.size (.slice none 0 0) ∧ Below w.heap.size w wr) (fun b _ => n - (intOf b).toNat)
  case atStart => exact ⟨0, _, by omega, rfl, fun j hj => absurd hj (by omega), Upto.zero (madeL_length n x y), hr0, K, hb0⟩
  case round =>
    clear hr0 K hb0 hmk
    obtain ⟨k, qs, hk, rfl, hall, hu, hr, K, hb⟩ := hrel
    have hql : qs.length = n := by rw [hu.1, madeL_length]
    by_cases hlt : k < n
    · have H := hd (hG k wr hlt hb)
      have hup := hu.step (by rw [madeL_length]; omega)
      rw [madeL_getD x y hlt] at hup
      generalize x k = xk at *
      generalize y k = yk at *
      cases hok : ok k
      · rw [hok] at H
        have hno : Hid (∃ k, k < n ∧ ok k = false) := ⟨k, hlt, hok⟩
        clear hok
        go_wp2_with fail
        refine H.out.mono ?_
        rintro e w1 ⟨rfl, hb1⟩
        replace K := K.later hb1
        obtain ⟨k0, k1, k2⟩ := id K
        go_wp2
        refine bodyPost_ret (v := .tuple #[.agg #[.slice none 0 0], .bool false]) ?_ rfl ⟨.inr ⟨hno.out, rfl⟩, ?_⟩
        · have c5 := ((K.set (.slice none 0 0)).alloc (.cells #[.int .i64 xk, .int .i64 yk] 40)).1
          simp [results, Tryd.results37, go_sem, c5]
        · exact ((hb.trans (hb1.mono hb.size)).setCell (p := ⟨w.heap.size, 0, none⟩) (Nat.le_refl _) _).alloc (by have := hb.size; have := hb1.size; simp [World.setCell]; omega) _
      · rw [hok] at H
        have hall' : Hid (∀ j, j < k + 1 → ok j = true) := by
          intro j hj
          by_cases e : j = k
          · subst e; exact hok
          · exact hall j (by omega)
        clear hok
        go_wp2_with fail
        refine H.out.mono ?_
        rintro e w1 ⟨rfl, hb1⟩
        replace K := K.later hb1
        replace hr := hr.old hb1
        have hb2 : Below w.heap.size w w1 := (by repeat (first | exact hb | exact Below.refl _ _ | refine Below.drew ?_ | refine old_alloc ?_ _ | refine old_trans ?_ (by assumption)))
        obtain ⟨k0, k1, k2⟩ := id K
        have hr2 := hr.old ((Below.refl _ w1).alloc (Nat.le_refl _) (.cells #[.int .i64 xk, .int .i64 yk] 40))
        have K2 := K.alloc (.cells #[.int .i64 xk, .int .i64 yk] 40)
        have hb3 := hb2.alloc hb2.size (.cells #[.int .i64 xk, .int .i64 yk] 40)
        obtain ⟨x', y', -, d0, d1, d2, d3⟩ := hr2.at (k := k) (by omega)
        have hst := hr2.set k (by omega) xk yk
        go_wp2
        go_roundw
        case rel => exact ⟨k + 1, _, by omega, by go_num, hall', hup, hst, (K2.other ⟨w.heap.size + 1, k * 2, none⟩ (by simp) _).other ⟨w.heap.size + 1, k * 2 + 1, none⟩ (by simp) _, (hb3.setCell (p := ⟨w.heap.size + 1, k * 2, none⟩) (by simp) _).setCell (p := ⟨w.heap.size + 1, k * 2 + 1, none⟩) (by simp) _⟩
        case measure => simp [intOf]; omega
    · obtain rfl : k = n := by omega
      have hq : qs = madeL k x y := Upto.all (by rw [madeL_length]; exact hu)
      subst hq
      obtain ⟨k0, k1, k2⟩ := id K
      go_wp2
      refine bodyPost_ret (v := .tuple #[.agg #[.slice (some ⟨w.heap.size + 1, 0, none⟩) k k], .bool true]) ?_ rfl ⟨.inl ⟨hall.out, _, rfl, by omega, hr.other ⟨w.heap.size, 0, none⟩ (by simp) _⟩, hb.setCell (p := ⟨w.heap.size, 0, none⟩) (Nat.le_refl _) _⟩
      simp [results, Tryd.results37, go_sem, k0]
end Go.Proofs.YtmllcpcbaojipaaDoor

/- What the specification's loops over append leave: a list that grew by one pair a round, in memory of its own. Conditions: 2^20 pairs at most. -/
namespace Go.Proofs.YtmllcpcbaojipaaDoor
open Go.RowKit
set_option linter.unusedVariables false
set_option maxRecDepth 100000

def flat (ps : List (Int × Int)) : List Value := ps.flatMap (fun p => [.int .i64 p.1, .int .i64 p.2])
theorem flat_length (ps : List (Int × Int)) : (flat ps).length = ps.length * 2 := by
  induction ps with
  | nil => rfl
  | cons p ps ih => show (_ :: _ :: flat ps).length = _; simp [ih]; omega
theorem flat_snoc (ps : List (Int × Int)) (x y : Int) : flat (ps ++ [(x, y)]) = flat ps ++ [.int .i64 x, .int .i64 y] := by simp [flat]
theorem flat_get : ∀ (ps : List (Int × Int)) (i : Nat), i < ps.length → (flat ps)[i * 2]? = some (.int .i64 (ps.getD i (0, 0)).1) ∧ (flat ps)[i * 2 + 1]? = some (.int .i64 (ps.getD i (0, 0)).2)
  | [], _, h => absurd h (by simp)
  | p :: ps, 0, _ => ⟨rfl, rfl⟩
  | p :: ps, i + 1, h => by
    have := flat_get ps i (by simpa using h)
    show ((_ :: _ :: flat ps) : List Value)[(i + 1) * 2]? = _ ∧ ((_ :: _ :: flat ps) : List Value)[(i + 1) * 2 + 1]? = _
    rw [show (i + 1) * 2 = i * 2 + 1 + 1 by omega, show i * 2 + 1 + 1 + 1 = (i * 2 + 1) + 1 + 1 by omega]
    simpa using this
/-- a list that is being made -/
def Grows (w : World) (base : Nat) (v : Value) (ps : List (Int × Int)) : Prop := w.ownsRow base 40 2 v ps.length (flat ps)
theorem Grows.nil (w : World) (base : Nat) : Grows w base (.slice none 0 0) [] := World.ownsRow_nil w base _ _
theorem Grows.kept {w w' : World} {base : Nat} {v : Value} {ps : List (Int × Int)} {row : Option Nat} (h : Grows w base v ps) (g : w.grownBy w' row) (hne : ∀ b, row = some b → b < base) : Grows w' base v ps := by
  refine World.ownsRow.kept h g ?_
  cases hv : v.ownBlock with
  | none => exact .inl rfl
  | some k =>
    refine .inr (fun e => ?_)
    have := hne k e.symm
    have := (World.ownsRow.lt h k hv).1
    omega
theorem grown_belowE {w w' : World} (h : Below w.heap.size w w') : w.grownBy w' none := ⟨h.1, h.2, h.3, h.4, fun k hk _ => h.5 k hk⟩
theorem Grows.later {w w' : World} {base : Nat} {v : Value} {ps : List (Int × Int)} (h : Grows w base v ps) (g : Below w.heap.size w w') : Grows w' base v ps := h.kept (grown_belowE g) (by simp)
theorem Grows.alloc {w : World} {base : Nat} {v : Value} {ps : List (Int × Int)} (h : Grows w base v ps) (o : Obj) : Grows (w.alloc o) base v ps := h.later ((Below.refl _ _).alloc (Nat.le_refl _) o)
theorem Grows.set {w : World} {base b : Nat} {v : Value} {ps : List (Int × Int)} (h : Grows w base v ps) (hb : b < base) (u : Value) : Grows (w.setCell ⟨b, 0, none⟩ u) base v ps := h.kept (grownBy_setCell' w b u) (fun c e => by cases e; exact hb)
theorem Grows.far {w : World} {base : Nat} {v : Value} {ps : List (Int × Int)} (h : Grows w base v ps) {c : Nat} (hc : c < base) : some c ≠ v.ownBlock := fun e => by have := (World.ownsRow.lt h c e.symm).1; omega
theorem Grows.row {w : World} {base : Nat} {v : Value} {ps : List (Int × Int)} (h : Grows w base v ps) (hp : 0 < ps.length) : ∃ g cap, v = .slice (some ⟨g, 0, none⟩) ps.length cap ∧ base ≤ g ∧ ps.length ≤ cap ∧ cap ≤ maxLen ∧ Row w g ps := by
  have h' := h
  rcases h.2 with ⟨_, h0⟩ | ⟨g, cap, cur, rfl, hb, hg, h1, h2, -, -⟩
  · omega
  refine ⟨g, cap, rfl, hb, h1, h2, (Array.getElem?_eq_some_iff.1 hg).1, fun i hi => ?_⟩
  have f := flat_get ps i hi
  exact ⟨⟨(World.ownsRow.cellAt h' (i * 2) (by omega)).trans f.1, (World.ownsRow.cellAt h' (i * 2 + 1) (by omega)).trans f.2⟩, World.ownsRow.frozenAt h' _, World.ownsRow.frozenAt h' _⟩
theorem cells_two (w : World) (b : Nat) (hb : b = w.heap.size) (x y : Value) (t : TypeId) : ∀ j u, [x, y][j]? = some u → (w.alloc (.cells #[x, y] t)).cell? ((⟨b, 0, none⟩ : Addr).add j) = some u := by
  subst hb
  intro j u h
  match j, h with
  | 0, h => simp at h; subst h; simp [Addr.add]
  | 1, h => simp at h; subst h; simp [Addr.add]
  | j + 2, h => simp at h
theorem madeL_snoc (k : Nat) (x y : Nat → Int) : madeL (k + 1) x y = madeL k x y ++ [(x k, y k)] := by simp [madeL, List.range_succ]
/-- a box that was made, or none -/
def BoxRes (n0 : Nat) (w' : World) (e : Ending) (r : Bool) (ps : List (Int × Int)) : Prop :=
  (r = true ∧ ∃ g cap, e = .returned (.tuple #[.agg #[.slice (some ⟨g, 0, none⟩) ps.length cap], .bool true]) ∧ n0 ≤ g ∧ ps.length ≤ cap ∧ cap ≤ maxLen ∧ Row w' g ps) ∨
  (r = false ∧ e = .returned (.tuple #[.agg #[.slice none 0 0], .bool false]))
end Go.Proofs.YtmllcpcbaojipaaDoor

/- Whether a box lies within another one: by the specification's loop, and by the program's search. No condition. -/
namespace Go.Proofs.YtmllcpcbaojipaaDoor
open Go.RowKit
set_option linter.unusedVariables false
set_option maxRecDepth 100000

def allI (n : Nat) (p : Nat → Bool) : Bool := (List.range n).all p
theorem allI_yes {n : Nat} {p : Nat → Bool} (h : ∀ k, k < n → p k = true) : allI n p = true := by
  unfold allI; rw [List.all_eq_true]; intro k hk; exact h k (List.mem_range.1 hk)
theorem firstI_all {n : Nat} {p q : Nat → Bool} (h : ∀ k, k < n → p k = !q k) : decide (firstI n p < 0) = allI n q := by
  rw [firstI_neg]
  cases e : allI n q
  · unfold allI at e
    rw [List.all_eq_false] at e
    obtain ⟨k, hk, hn⟩ := e
    rw [List.all_eq_false]
    exact ⟨k, hk, by rw [h k (List.mem_range.1 hk)]; simpa using hn⟩
  · unfold allI at e
    rw [List.all_eq_true] at e
    rw [List.all_eq_true]
    intro k hk
    rw [h k (List.mem_range.1 hk), e k hk]; rfl

def isAt (ps qs : List (Int × Int)) (k : Nat) : Bool := isB (ps.getD k (0, 0)).1 (ps.getD k (0, 0)).2 (qs.getD k (0, 0)).1 (qs.getD k (0, 0)).2
def isRow (ps qs : List (Int × Int)) : Bool := decide (ps.length = qs.length) && allI ps.length (isAt ps qs)
theorem isAt_eq {ps qs : List (Int × Int)} {k : Nat} {x y u v : Int} (h1 : ps.getD k (0, 0) = (x, y)) (h2 : qs.getD k (0, 0) = (u, v)) : isAt ps qs k = isB x y u v := by unfold isAt; rw [h1, h2]

set_option maxHeartbeats 2000000 in
theorem iBoxIs1 (a a' : Option Addr) (len cap cap' : Nat) (ps qs : List (Int × Int)) (B C k : Nat) (hk : k < len) (w : World) (hR : InRow w a len cap ps) (hR' : InRow w a' len cap' qs) (hB : w.cell? ⟨B, 0, none⟩ = some (.slice a len cap)) (hC : w.cell? ⟨C, 0, none⟩ = some (.slice a' len cap')) :
    Calls Tryd.prog 21 #[.int .i64 (k : Int), .pointer (some ⟨B, 0, none⟩), .pointer (some ⟨C, 0, none⟩)] w fun e w' => e = .returned (.bool (!isAt ps qs k)) ∧ Below w.heap.size w w' := by
  have hlen : len ≤ maxLen := Nat.le_trans hR.2.1 hR.2.2.1
  unfold maxLen at hlen
  obtain ⟨b, off, x, y, rfl, hbl, hx, -, c0, c1⟩ := hR.at hk
  obtain ⟨b', off', x', y', rfl, hbl', hx', -, d0, d1⟩ := hR'.at hk
  rw [isAt_eq hx hx']
  have E := hd (iPairIs x y x' y')
  generalize isB x y x' y' = r at *
  go_enter Tryd.func21, Tryd.ntmps21
  go_wp2_with fail
  go_region_with (go_at_call 22; refine (E.out _).mono ?_; rintro e w1 ⟨rfl, hb1⟩)
  all_goals
    go_wp2
    go_ret
    exact ⟨rfl, (by repeat (first | exact Below.refl _ _ | refine Below.drew ?_ | refine old_alloc ?_ _ | refine old_trans ?_ (by assumption)))⟩

set_option maxHeartbeats 2000000 in
theorem iBoxIs (a a' : Option Addr) (len len' cap cap' : Nat) (ps qs : List (Int × Int)) (w : World) (hR : InRow w a len cap ps) (hR' : InRow w a' len' cap' qs) :
    Calls Tryd.prog 8 #[.agg #[.slice a len cap], .agg #[.slice a' len' cap']] w fun e w' => e = .returned (.bool (isRow ps qs)) ∧ Below w.heap.size w w' := by
  have hlen : len ≤ maxLen := Nat.le_trans hR.2.1 hR.2.2.1
  have hlen' := hlen
  have hp := hR.1
  have hq := hR'.1
  unfold maxLen at hlen
  by_cases c1 : len = len'
  case neg =>
    have c2 : ((len : Int) != (len' : Int)) = true := by rw [bne_iff_ne]; omega
    have hno : Hid (isRow ps qs = false) := by show _ = _; unfold isRow; simp [show ¬ ps.length = qs.length by omega]
    go_enter Tryd.func8, Tryd.ntmps8
    go_wp2
    go_ret
    exact ⟨by rw [hno.out]; rfl, (by repeat (first | exact Below.refl _ _ | refine Below.drew ?_ | refine old_alloc ?_ _ | refine old_trans ?_ (by assumption)))⟩
  subst c1
  have hr : Hid (isRow ps qs = allI len (isAt ps qs)) := by show _ = _; unfold isRow; simp [hp, hq]
  have hz : Hid (decide (firstI len (fun k => !isAt ps qs k) < 0) = isRow ps qs) := (firstI_all (fun k _ => rfl)).trans hr.out.symm
  have b2 : Cel1 ((w.alloc (.cells #[.slice a len cap] 25)).alloc (.cells #[.slice a' len cap'] 25)) w.heap.size (.slice a len cap) := (Cel1.made w _ rfl _ _).alloc _
  have b3 : Cel1 ((w.alloc (.cells #[.slice a len cap] 25)).alloc (.cells #[.slice a' len cap'] 25)) (w.heap.size + 1) (.slice a' len cap') := Cel1.made _ _ (by simp) _ _
  have hb3 : Below w.heap.size w ((w.alloc (.cells #[.slice a len cap] 25)).alloc (.cells #[.slice a' len cap'] 25)) := ((Below.refl _ w).alloc (Nat.le_refl _) _).alloc (by simp) _
  have hR3 := hR.old hb3
  have hR3' := hR'.old hb3
  have H := hd (coordThat 21 #[.pointer (some ⟨w.heap.size, 0, none⟩), .pointer (some ⟨w.heap.size + 1, 0, none⟩)] a len cap hlen' (fun k => !isAt ps qs k) _ (enters_of Tryd.func21 (by kernel_rfl) rfl)
    (fun k W hk hW => iBoxIs1 a a' len cap cap' ps qs w.heap.size (w.heap.size + 1) k hk W (hR3.old hW) (hR3'.old hW) (b2.later hW).1 (b3.later hW).1))
  generalize firstI len _ = r at *
  go_enter Tryd.func8, Tryd.ntmps8
  go_wp2_with (go_at_call 20; refine H.out.mono ?_; rintro e w1 ⟨rfl, hb1⟩)
  go_ret
  exact ⟨by rw [← hz.out]; rfl, (by repeat (first | exact Below.refl _ _ | refine Below.drew ?_ | refine old_alloc ?_ _ | refine old_trans ?_ (by assumption)))⟩
end Go.Proofs.YtmllcpcbaojipaaDoor

/- The coordinate with the most steps: the specification's loop, the program's greatest count and the first coordinate that has it. No condition. -/
namespace Go.Proofs.YtmllcpcbaojipaaDoor
open Go.RowKit
set_option linter.unusedVariables false
set_option maxRecDepth 100000

theorem okRow_len {wd : Int} {ps : List (Int × Int)} (h : okRow wd ps = true) : 1 ≤ ps.length ∧ ps.length ≤ 6 := by
  unfold okRow at h
  simp at h
  omega
end Go.Proofs.YtmllcpcbaojipaaDoor

/- The narrow box around a wide one, a narrow box among the wide ones: the specification's loop, the program's box of each place. Conditions: 2^20 pairs at most. -/
namespace Go.Proofs.YtmllcpcbaojipaaDoor
open Go.RowKit
set_option linter.unusedVariables false
set_option maxRecDepth 100000

theorem okRow_at {wd : Int} {ps : List (Int × Int)} (h : okRow wd ps = true) {k : Nat} (hk : k < ps.length) : pokB wd (ps.getD k (0, 0)).1 (ps.getD k (0, 0)).2 = true := by
  cases e : pokB wd (ps.getD k (0, 0)).1 (ps.getD k (0, 0)).2
  · rw [okRow_no (x := (ps.getD k (0, 0)).1) (y := (ps.getD k (0, 0)).2) hk rfl e] at h; cases h
  · rfl

end Go.Proofs.YtmllcpcbaojipaaDoor
