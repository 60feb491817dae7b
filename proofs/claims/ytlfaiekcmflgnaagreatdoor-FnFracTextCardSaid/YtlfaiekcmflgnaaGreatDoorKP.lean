/- Draws of fractions to be written and of texts to be read: some fraction, some text. Nothing that was there is written. -/
import Derived.Test.YtlfaiekcmflgnaaGreatDoorBY
import Derived.Test.YtlfaiekcmflgnaaGreatDoorUX
namespace Go.Proofs.YtlfaiekcmflgnaaGreatDoor
open Go.RowKit Go.Lib
set_option linter.unusedVariables false
set_option maxRecDepth 100000

theorem resDrawFT {W : World} {b : Nat} {v0 v1 v2 : Value} {tmps : Array Value} (h : Cel3 W b v0 v1 v2) (ht : tmps[2]? = some (.pointer (some ⟨b, 0, none⟩))) : (results Tryz.f10 tmps).run Tryz.prog W = .ok (.agg #[v0, v1, v2]) W := by
  obtain ⟨h1, ⟨a0, a1, a2⟩, -⟩ := h
  simp [results, Tryz.results10, go_sem, a0, a1, a2, ht]
set_option maxHeartbeats 2000000 in
theorem drawFracText (w : World) (a : Option Addr) (len cap : Nat) (h : IsCode w a len cap) :
    Calls Tryz.prog 10 #[.slice a len cap] w fun e w' => FA3 w' w.heap.size e ∧ Below w.heap.size w w' := by
  have e0 : Below w.heap.size w (w.alloc (.cells #[.bool false, .slice none 0 0, .slice none 0 0] 24)) := old_alloc (Below.refl _ _) _
  have K := Cel3.new w (.bool false) (.slice none 0 0) (.slice none 0 0) 24
  have hop := hd (open_kB _ a len cap (h.old e0))
  clear h
  have hs0 := K.1
  go_enter Tryz.func10, Tryz.ntmps10
  go_wp2_with fail
  generalize w.alloc (.cells #[.bool false, .slice none 0 0, .slice none 0 0] 24) = wz at *
  refine hop.out.mono ?_
  rintro e w1 ⟨rfl, o, rfl, hR⟩
  replace K := K.old (old_alloc (Below.refl _ _) o)
  clear hop
  go_wp2_with fail
  refine (frac_k wz.heap.size 1000 _ (hR.mono (by omega))).mono ?_
  rintro e w2 ⟨⟨b, a1, c1, ps, a2, c2, qs, rfl, O1, O2, hS, hok⟩, R2, B2⟩
  replace K := K.but B2 (by omega)
  have hB2 : Below w.heap.size w w2 := old_trans e0 B2.below
  have hsw := e0.size
  clear B2 R2 hR e0
  obtain ⟨m1, ⟨m2, m3, m4⟩, m5, m6, m7⟩ := id K
  have q1 := (oi_set3 (v0 := .bool b) (v1 := .slice a1 ps.length c1) (v2 := .slice a2 qs.length c2) O1 (show w.heap.size < _ by simp; omega)).mono (show w.heap.size ≤ _ by simp; omega)
  have q2 := (oi_set3 (v0 := .bool b) (v1 := .slice a1 ps.length c1) (v2 := .slice a2 qs.length c2) O2 (show w.heap.size < _ by simp; omega)).mono (show w.heap.size ≤ _ by simp; omega)
  have hF : FA3 _ w.heap.size (.returned (.agg #[.bool b, .slice a1 ps.length c1, .slice a2 qs.length c2])) := ⟨_, _, _, _, _, _, _, rfl, q1, q2, hS, hok⟩
  clear q1 q2 O1 O2 hS hok
  go_wp2
  exact bodyPost_ret (resDrawFT (K.setAll (.bool b) (.slice a1 ps.length c1) (.slice a2 qs.length c2)) rfl) rfl ⟨hF, below_set (below_set (below_set hB2 (by omega) _) (by omega) _) (by omega) _⟩
theorem CS.but {w w' : World} {b rb : Nat} {vs : List Value} (h : CS w b vs) (k : But rb w w') (hn : b ≠ rb) : CS w' b vs := by
  have hb := k.block b h.lt hn
  refine ⟨fun i v hi => (World.cell?_of_block (a := ⟨b, i, none⟩) hb).trans (h.cell i v hi), fun i hi => ?_, Nat.lt_of_lt_of_le h.lt k.size⟩
  have := h.froz i hi
  unfold World.frozen? at this ⊢
  rw [show w'.heap[(⟨b, i, none⟩ : Addr).block]? = w.heap[(⟨b, i, none⟩ : Addr).block]? from hb]
  exact this
theorem frT_len {bl : Bool} {xs ys : List Int} (h : fracOk bl xs ys = true) : (frT bl xs ys).size ≤ 2600 := by
  have hin := fracOk_in h
  rw [frT_yes h, bt_size]
  have h1 := big_dec (natOk_lt hin.1)
  have h2 := big_dec (natOk_lt hin.2.1)
  unfold frL
  rw [List.length_append, List.length_append]
  have h3 : (if bl = true then [45] else [] : List UInt8).length ≤ 1 := by cases bl <;> simp
  have h4 : (if val ys = 1 then [] else 47 :: decDigits (val ys)).length ≤ 1251 := by split <;> simp; omega
  omega
set_option maxRecDepth 100000 in
set_option maxHeartbeats 4000000 in
theorem drawFracRead (w : World) (a : Option Addr) (len cap : Nat) (h : IsCode w a len cap) :
    Calls Tryz.prog 14 #[.slice a len cap] w fun e w' => (∃ t : ByteArray, e = .returned (.string t) ∧ t.size ≤ 4000) ∧ Below w.heap.size w w' := by
  have hop := hd (open_kB w a len cap h)
  go_enter Tryz.func14, Tryz.ntmps14
  go_wp2_with fail
  refine hop.out.mono ?_
  rintro e w1 ⟨rfl, o, rfl, hR⟩
  have hsz0 : (w.alloc o).heap.size = w.heap.size + 1 := by simp
  generalize hrb : w.heap.size = rb at *
  clear hop h
  go_wp2_with fail
  refine (good_k rb 90000 _ (hR.mono (by omega))).mono ?_
  rintro e w2 ⟨⟨b, a1, c1, ps, a2, c2, qs, rfl, O1, O2, hS, hok⟩, R2, B2⟩
  clear hR
  go_wp2_with fail
  refine (sFracText b a1 a2 _ _ c1 c2 ps qs _ O1.inI O2.inI).mono ?_
  rintro e w3 ⟨rfl, hb3⟩
  have hts := frT_len hok
  have R3 := R2.old hb3
  have B3 := B2.trans (But.of hb3)
  generalize frT b ps qs = s0 at *
  clear O1 O2 hS hok B2 R2 hb3
  go_wp2_with fail
  refine (pick_k rb 80000 14 _ (R3.mono (by omega)) (by decide)).mono ?_
  rintro e w4 ⟨⟨p, hp, rfl⟩, R4, B4⟩
  have B4 := B3.trans B4
  have hrl := R4.lt
  have fin : ∀ (W : World) (t : ByteArray), But rb (w.alloc o) W → t.size ≤ 4000 → (∃ u : ByteArray, Ending.returned (.string t) = .returned (.string u) ∧ u.size ≤ 4000) ∧ Below w.heap.size w W := fun W t h1 h2 => ⟨⟨t, rfl, h2⟩, by subst hrb; exact h1.below⟩
  have fin := hd fin
  have hc : p = 0 ∨ p = 1 ∨ p = 2 ∨ p = 3 ∨ p = 4 ∨ (¬ p = 0 ∧ ¬ p = 1 ∧ ¬ p = 2 ∧ ¬ p = 3 ∧ ¬ p = 4) := by omega
  clear hp
  rcases hc with rfl | rfl | rfl | rfl | rfl | ⟨q0, q1, q2, q3, q4⟩
  · go_wp2
    go_ret
    rw [← hrb]
    exact fin.out _ _ B4 (by rw [ByteArray.size_append]; show _ + 2 ≤ _; omega)
  · go_wp2
    go_ret
    rw [← hrb]
    exact fin.out _ _ B4 (by rw [ByteArray.size_append]; show _ + 2 ≤ _; omega)
  · go_wp2
    go_ret
    rw [← hrb]
    exact fin.out _ _ B4 (by rw [ByteArray.size_append]; show 1 + _ ≤ _; omega)
  · go_wp2
    go_ret
    rw [← hrb]
    exact fin.out _ _ B4 (by show 2 ≤ _; omega)
  · go_wp2_with fail
    have CC := CS.made w4 _ rfl #[.string ⟨#[]⟩, .string ⟨#[45]⟩, .string ⟨#[47]⟩, .string ⟨#[49, 47]⟩, .string ⟨#[47, 51]⟩, .string ⟨#[50, 47, 52]⟩, .string ⟨#[49, 47, 48]⟩, .string ⟨#[48, 47, 53]⟩, .string ⟨#[43, 49]⟩, .string ⟨#[32, 49]⟩, .string ⟨#[49, 47, 45, 50]⟩, .string ⟨#[48, 51]⟩, .string ⟨#[49, 47, 50, 47, 51]⟩] 9
    have B5a := B4.alloc (.cells #[.string ⟨#[]⟩, .string ⟨#[45]⟩, .string ⟨#[47]⟩, .string ⟨#[49, 47]⟩, .string ⟨#[47, 51]⟩, .string ⟨#[50, 47, 52]⟩, .string ⟨#[49, 47, 48]⟩, .string ⟨#[48, 47, 53]⟩, .string ⟨#[43, 49]⟩, .string ⟨#[32, 49]⟩, .string ⟨#[49, 47, 45, 50]⟩, .string ⟨#[48, 51]⟩, .string ⟨#[49, 47, 50, 47, 51]⟩] 9)
    refine (pick_k rb 70000 13 _ ((R4.alloc _).mono (by omega)) (by decide)).mono ?_
    rintro e w5 ⟨⟨z, hz, rfl⟩, R5, B5⟩
    obtain ⟨m, rfl⟩ := Int.eq_ofNat_of_zero_le hz.1
    have C5 := CC.but B5 (by omega)
    have B6 := B5a.trans B5
    have hm13 : (m : Int) < 13 := hz.2
    obtain ⟨t, hc, ht⟩ : ∃ t : ByteArray, w5.cell? ⟨w4.heap.size, m, none⟩ = some (.string t) ∧ t.size ≤ 5 := by
      have hm : m = 0 ∨ m = 1 ∨ m = 2 ∨ m = 3 ∨ m = 4 ∨ m = 5 ∨ m = 6 ∨ m = 7 ∨ m = 8 ∨ m = 9 ∨ m = 10 ∨ m = 11 ∨ m = 12 := by omega
      rcases hm with rfl | rfl | rfl | rfl | rfl | rfl | rfl | rfl | rfl | rfl | rfl | rfl | rfl <;> exact ⟨_, C5.cell _ _ rfl, by decide⟩
    clear CC C5 B5a B5 hz
    go_wp2
    go_ret
    rw [← hrb]
    exact fin.out _ _ B6 (by omega)
  · go_wp2
    go_ret
    rw [← hrb]
    exact fin.out _ _ B4 (by omega)
end Go.Proofs.YtlfaiekcmflgnaaGreatDoor
