/- A scanner of literals, the program's: the code behind each of its labels. Conditions: 60 runes at most. Of what was there only what it gathers in is written. -/
import Derived.Test.YtmpckbgelkfgpaaPK04
namespace Go.Proofs.Ytmpckbgelkfgpaa
open Go.RowKit
set_option linter.unusedVariables false
set_option maxRecDepth 100000

theorem len_nil (rs : List Int) : ((rs.length : Int) == 0) = decide (rs = []) := by
  cases rs with
  | nil => rfl
  | cons r t => simp; omega
theorem start_bx (w : World) (C : Array Value) (g : Nat) (rs : List Int) (cap : Nat) (T1 T2 T3 : TypeId) : BX (fun k => k = g ∨ k = w.heap.size + 1 + 1) w (((w.alloc (.cells #[takeV g] T1)).drew.alloc (.cells C T2)).alloc (.cells #[.slice (some ⟨w.heap.size + 1, 0, none⟩) rs.length cap] T3)) :=
  BX.of (old_alloc (old_alloc (old_alloc (Below.refl _ _) _).drew _) _)
theorem Sc.start (w : World) (g : Nat) (l : Lt) (C : Array Value) (rs : List Int) (cap : Nat) (T1 T2 T3 : TypeId) (hC : CS w g l.cells) (hcap : rs.length ≤ cap) (hCi : ∀ i, i < rs.length → C[i]? = some (Value.int .i32 (rs.getD i 0))) :
    Sc (((w.alloc (.cells #[takeV g] T1)).drew.alloc (.cells C T2)).alloc (.cells #[.slice (some ⟨w.heap.size + 1, 0, none⟩) rs.length cap] T3)) (w.heap.size + 1 + 1) w.heap.size g (w.heap.size + 1) rs l := by
  have k1 := (CS.made w _ rfl #[takeV g] T1).drew.alloc (.cells C T2) |>.alloc (.cells #[.slice (some ⟨w.heap.size + 1, 0, none⟩) rs.length cap] T3)
  have k2 := (CS.made (w.alloc (.cells #[takeV g] T1)).drew (w.heap.size + 1) (by simp [World.drew]) C T2).alloc (.cells #[.slice (some ⟨w.heap.size + 1, 0, none⟩) rs.length cap] T3)
  have k3 := CS.made ((w.alloc (.cells #[takeV g] T1)).drew.alloc (.cells C T2)) (w.heap.size + 1 + 1) (by simp [World.drew]) #[.slice (some ⟨w.heap.size + 1, 0, none⟩) rs.length cap] T3
  have k4 := (((hC.alloc (.cells #[takeV g] T1)).drew.alloc (.cells C T2)).alloc (.cells #[.slice (some ⟨w.heap.size + 1, 0, none⟩) rs.length cap] T3))
  have gl := hC.lt
  exact ⟨⟨0, cap, k3, hcap, fun i hi => k2.cell _ _ (by simpa using hCi i hi)⟩, k1.cell 0 _ rfl, k1.lt, k2.lt, k4, by omega, by omega, by omega, by omega, by omega⟩

set_option maxRecDepth 100000 in
set_option maxHeartbeats 16000000 in
theorem iScan (s : ByteArray) (g : Nat) (res : Bool × Lt) (l : Lt) (w : World) (hC : CS w g l.cells) (hf : l.fits (runesL s s.size 0) 0) (hres : scn (runesL s s.size 0) l = res) (h46 : s.size ≤ 60) :
    Calls Try.prog 154 #[.string s, takeV g] w fun e w' => e = .returned (.bool res.1) ∧ CS w' g res.2.cells ∧ BX (fun k => k = g ∨ k = w.heap.size + 1 + 1) w w' := by
  obtain ⟨cap, C, hrn, hcap, hCi⟩ := runesLaid s h46 (w.alloc (.cells #[takeV g] 201))
  generalize runesL s s.size 0 = rs at *
  unfold takeV at *
  go_enter Try.func154, Try.ntmps154
  go_wp2
  refine wp_scope_many (Jl s w (w.heap.size + 1 + 1) w.heap.size g (w.heap.size + 1) res) ?_ ?_
  · have S0 := Sc.start w g l C rs cap 201 21 202 hC hcap hCi
    have B0 := start_bx w C g rs cap 201 21 202
    clear hC hcap hCi
    rcases pcase 48 48 rs with ⟨r1, t1, e1, a1, b1⟩ | n1
    · subst e1
      go_wp2_with fail
      refine (iPassYF 48 48 0 (w.heap.size + 1 + 1) w.heap.size g (w.heap.size + 1) r1 t1 l 0 _ S0 hf a1 b1 (by decide) (by decide) (fun h => absurd h (by decide)) (by decide)).mono ?_
      rintro e w1 ⟨rfl, S1, hb1⟩
      have B1 := B0.trans hb1
      have hs1 := fits_gat (part := 0) hf (by decide)
      clear S0 B0 hb1 hf
      have q : pnt t1 (gat 0 r1 l) = res := by rw [← hres]; simp only [scn, pss_y (part := 0) a1 b1]
      go_wp2_with fail
      go_step3
      try simp only [xJumps]
      exact ⟨_, ⟨_, _, _, _, _, _, _, _, _, _, _, _, _, _, _, _, _, _, _, _, _, _, _, _, _, _, _, _, _, _, _, _, _, _, _, _, _, rfl⟩, B1, _, _, S1, .inr (.inl ⟨rfl, rfl, hs1, q⟩)⟩
    · go_wp2_with fail
      refine (iPassNo 48 48 0 (w.heap.size + 1 + 1) w.heap.size g (w.heap.size + 1) rs l _ S0 n1).mono ?_
      rintro e w1 ⟨rfl, rfl⟩
      rcases pcase 49 57 rs with ⟨r2, t2, e2, a2, b2⟩ | n2
      · subst e2
        go_wp2_with fail
        refine (iPassYF 49 57 0 (w.heap.size + 1 + 1) w.heap.size g (w.heap.size + 1) r2 t2 l 0 _ S0 hf a2 b2 (by decide) (by decide) (fun h => absurd h (by decide)) (by decide)).mono ?_
        rintro e w2 ⟨rfl, S2, hb2⟩
        have B2 := B0.trans hb2
        have hs2 := fits_gat (part := 0) hf (by decide)
        clear S0 B0 hb2 hf
        go_wp2_with fail
        go_step3
        rcases pcase 48 57 t2 with ⟨r3, t3, e3, a3, b3⟩ | n3
        · subst e3
          go_wp2_with fail
          refine (iPassYF 48 57 0 (w.heap.size + 1 + 1) w.heap.size g (w.heap.size + 1) r3 t3 (gat 0 r2 l) 0 _ S2 hs2 a3 b3 (by decide) (by decide) (fun h => absurd h (by decide)) (by decide)).mono ?_
          rintro e w3 ⟨rfl, S3, hb3⟩
          have B3 := B2.trans hb3
          have hs3 := fits_gat (part := 0) hs2 (by decide)
          clear S2 B2 hb3 hs2
          have q : whl t3 (gat 0 r3 (gat 0 r2 l)) = res := by rw [← hres]; simp only [scn, pss_n (part := 0) n1, pss_y (part := 0) a2 b2, whl_y a3 b3]
          go_wp2_with fail
          go_step3
          try simp only [xJumps]
          exact ⟨_, ⟨_, _, _, _, _, _, _, _, _, _, _, _, _, _, _, _, _, _, _, _, _, _, _, _, _, _, _, _, _, _, _, _, _, _, _, _, _, rfl⟩, B3, _, _, S3, .inl ⟨rfl, rfl, hs3, q⟩⟩
        · go_wp2_with fail
          refine (iPassNo 48 57 0 (w.heap.size + 1 + 1) w.heap.size g (w.heap.size + 1) t2 (gat 0 r2 l) _ S2 n3).mono ?_
          rintro e w3 ⟨rfl, rfl⟩
          go_wp2_with fail
          go_step3
          rcases pcase 46 46 t2 with ⟨r4, t4, e4, a4, b4⟩ | n4
          · subst e4
            go_wp2_with fail
            refine (iPassYF 46 46 1 (w.heap.size + 1 + 1) w.heap.size g (w.heap.size + 1) r4 t4 (gat 0 r2 l) 0 _ S2 hs2 a4 b4 (by decide) (by decide) (fun h => absurd h (by decide)) (by decide)).mono ?_
            rintro e w4 ⟨rfl, S4, hb4⟩
            have B4 := B2.trans hb4
            have hs4 := fits_gat (part := 1) hs2 (by decide)
            clear S2 B2 hb4 hs2
            rcases pcase 48 57 t4 with ⟨r5, t5, e5, a5, b5⟩ | n5
            · subst e5
              go_wp2_with fail
              refine (iPassYF 48 57 2 (w.heap.size + 1 + 1) w.heap.size g (w.heap.size + 1) r5 t5 (gat 1 r4 (gat 0 r2 l)) 0 _ S4 hs4 a5 b5 (by decide) (by decide) (fun h => absurd h (by decide)) (by decide)).mono ?_
              rintro e w5 ⟨rfl, S5, hb5⟩
              have B5 := B4.trans hb5
              have hs5 := fits_gat (part := 2) hs4 (by decide)
              clear S4 B4 hb5 hs4
              go_wp2_with fail
              go_step3
              rcases pcase 48 57 t5 with ⟨r6, t6, e6, a6, b6⟩ | n6
              · subst e6
                go_wp2_with fail
                refine (iPassYF 48 57 2 (w.heap.size + 1 + 1) w.heap.size g (w.heap.size + 1) r6 t6 (gat 2 r5 (gat 1 r4 (gat 0 r2 l))) 0 _ S5 hs5 a6 b6 (by decide) (by decide) (fun h => absurd h (by decide)) (by decide)).mono ?_
                rintro e w6 ⟨rfl, S6, hb6⟩
                have B6 := B5.trans hb6
                have hs6 := fits_gat (part := 2) hs5 (by decide)
                clear S5 B5 hb6 hs5
                have q : beh t6 (gat 2 r6 (gat 2 r5 (gat 1 r4 (gat 0 r2 l)))) = res := by rw [← hres]; simp only [scn, pss_n (part := 0) n1, pss_y (part := 0) a2 b2, whl_n (pss_n n3), pnt, pss_y (part := 1) a4 b4, pss_y (part := 2) a5 b5, beh_y a6 b6]
                go_wp2_with fail
                go_step3
                try simp only [xJumps]
                exact ⟨_, ⟨_, _, _, _, _, _, _, _, _, _, _, _, _, _, _, _, _, _, _, _, _, _, _, _, _, _, _, _, _, _, _, _, _, _, _, _, _, rfl⟩, B6, _, _, S6, .inr (.inr (.inl ⟨rfl, rfl, hs6, q⟩))⟩
              · go_wp2_with fail
                refine (iPassNo 48 57 2 (w.heap.size + 1 + 1) w.heap.size g (w.heap.size + 1) t5 (gat 2 r5 (gat 1 r4 (gat 0 r2 l))) _ S5 n6).mono ?_
                rintro e w6 ⟨rfl, rfl⟩
                go_wp2_with fail
                go_step3
                rcases pcase 101 101 t5 with ⟨r7, t7, e7, a7, b7⟩ | n7
                · subst e7
                  go_wp2_with fail
                  refine (iPassYF 101 101 1 (w.heap.size + 1 + 1) w.heap.size g (w.heap.size + 1) r7 t7 (gat 2 r5 (gat 1 r4 (gat 0 r2 l))) 0 _ S5 hs5 a7 b7 (by decide) (by decide) (fun h => absurd h (by decide)) (by decide)).mono ?_
                  rintro e w7 ⟨rfl, S7, hb7⟩
                  have B7 := B5.trans hb7
                  have hs7 := fits_gat (part := 1) hs5 (by decide)
                  clear S5 B5 hb7 hs5
                  rcases pcase 48 48 t7 with ⟨r8, t8, e8, a8, b8⟩ | n8
                  · subst e8
                    go_wp2_with fail
                    refine (iPassYF 48 48 4 (w.heap.size + 1 + 1) w.heap.size g (w.heap.size + 1) r8 t8 (gat 1 r7 (gat 2 r5 (gat 1 r4 (gat 0 r2 l)))) 0 _ S7 hs7 a8 b8 (by decide) (by decide) (fun _ => by decide) (by decide)).mono ?_
                    rintro e w8 ⟨rfl, S8, hb8⟩
                    have B8 := B7.trans hb8
                    have hs8 := fits_gat4 hs7 (by omega) (by omega) (by omega)
                    clear S7 B7 hb8 hs7
                    have q : fnl t8 (gat 4 r8 (gat 1 r7 (gat 2 r5 (gat 1 r4 (gat 0 r2 l))))) = res := by rw [← hres]; simp only [scn, pss_n (part := 0) n1, pss_y (part := 0) a2 b2, whl_n (pss_n n3), pnt, pss_y (part := 1) a4 b4, pss_y (part := 2) a5 b5, beh_n (pss_n n6), pwr, pss_y (part := 1) a7 b7, pss_y (part := 4) a8 b8]
                    go_wp2_with fail
                    go_step3
                    try simp only [xJumps]
                    exact ⟨_, ⟨_, _, _, _, _, _, _, _, _, _, _, _, _, _, _, _, _, _, _, _, _, _, _, _, _, _, _, _, _, _, _, _, _, _, _, _, _, rfl⟩, B8, _, _, S8, .inr (.inr (.inr (.inr ⟨rfl, rfl, q⟩)))⟩
                  · go_wp2_with fail
                    refine (iPassNo 48 48 4 (w.heap.size + 1 + 1) w.heap.size g (w.heap.size + 1) t7 (gat 1 r7 (gat 2 r5 (gat 1 r4 (gat 0 r2 l)))) _ S7 n8).mono ?_
                    rintro e w8 ⟨rfl, rfl⟩
                    go_wp2_with fail
                    refine (iPassAny 45 45 3 (w.heap.size + 1 + 1) w.heap.size g (w.heap.size + 1) t7 (gat 1 r7 (gat 2 r5 (gat 1 r4 (gat 0 r2 l)))) 0 _ S7 hs7 (by decide) (by decide) (fun h => absurd h (by decide)) (by decide)).mono ?_
                    rintro e w9 ⟨⟨v9, rfl⟩, S9, hb9⟩
                    have B9 := B7.trans hb9
                    have hs9 := fits_any (lo := 45) (hi := 45) (part := 3) hs7 (by decide)
                    clear S7 B7 hb9 hs7
                    obtain ⟨t9, z9⟩ : ∃ x, ((pss 45 45 3 t7 (gat 1 r7 (gat 2 r5 (gat 1 r4 (gat 0 r2 l))))).getD (t7, (gat 1 r7 (gat 2 r5 (gat 1 r4 (gat 0 r2 l)))))).1 = x := ⟨_, rfl⟩
                    obtain ⟨l9, y9⟩ : ∃ x, ((pss 45 45 3 t7 (gat 1 r7 (gat 2 r5 (gat 1 r4 (gat 0 r2 l))))).getD (t7, (gat 1 r7 (gat 2 r5 (gat 1 r4 (gat 0 r2 l)))))).2 = x := ⟨_, rfl⟩
                    rw [z9, y9] at S9
                    rw [z9, y9] at hs9
                    rcases pcase 49 57 t9 with ⟨r10, t10, e10, a10, b10⟩ | n10
                    · subst e10
                      go_wp2_with fail
                      refine (iPassYF 49 57 4 (w.heap.size + 1 + 1) w.heap.size g (w.heap.size + 1) r10 t10 l9 0 _ S9 hs9 a10 b10 (by decide) (by decide) (fun _ => by decide) (by decide)).mono ?_
                      rintro e w10 ⟨rfl, S10, hb10⟩
                      have B10 := B9.trans hb10
                      have hs10 := fits_gat4 hs9 (by omega) (by omega) (by omega)
                      clear S9 B9 hb10 hs9
                      rcases pcase 48 57 t10 with ⟨r11, t11, e11, a11, b11⟩ | n11
                      · subst e11
                        go_wp2_with fail
                        refine (iPassYF 48 57 4 (w.heap.size + 1 + 1) w.heap.size g (w.heap.size + 1) r11 t11 (gat 4 r10 l9) 9 _ S10 hs10 a11 b11 (by decide) (by decide) (fun _ => by decide) (by decide)).mono ?_
                        rintro e w11 ⟨rfl, S11, hb11⟩
                        have B11 := B10.trans hb11
                        have hs11 := fits_gat4 hs10 (by omega) (by omega) (by omega)
                        clear S10 B10 hb11 hs10
                        go_wp2_with fail
                        refine (iPassAny 48 57 4 (w.heap.size + 1 + 1) w.heap.size g (w.heap.size + 1) t11 (gat 4 r11 (gat 4 r10 l9)) 99 _ S11 hs11 (by decide) (by decide) (fun _ => by decide) (by decide)).mono ?_
                        rintro e w12 ⟨⟨v12, rfl⟩, S12, hb12⟩
                        have B12 := B11.trans hb12
                        have hs12 := hs11
                        clear S11 B11 hb12 hs11
                        obtain ⟨t12, z12⟩ : ∃ x, ((pss 48 57 4 t11 (gat 4 r11 (gat 4 r10 l9))).getD (t11, (gat 4 r11 (gat 4 r10 l9)))).1 = x := ⟨_, rfl⟩
                        obtain ⟨l12, y12⟩ : ∃ x, ((pss 48 57 4 t11 (gat 4 r11 (gat 4 r10 l9))).getD (t11, (gat 4 r11 (gat 4 r10 l9)))).2 = x := ⟨_, rfl⟩
                        rw [z12, y12] at S12
                        go_wp2_with fail
                        go_step3
                        have q : fnl t12 l12 = res := by rw [← hres]; simp only [scn, pss_n (part := 0) n1, pss_y (part := 0) a2 b2, whl_n (pss_n n3), pnt, pss_y (part := 1) a4 b4, pss_y (part := 2) a5 b5, beh_n (pss_n n6), pwr, pss_y (part := 1) a7 b7, pss_n (part := 4) n8, z9, y9, pss_y (part := 4) a10 b10, pss_y (part := 4) a11 b11, z12, y12]
                        subst q
                        obtain ⟨off, cap, K, hc, -⟩ := S12.left
                        have k0 := K.cell 0 _ rfl
                        clear K
                        go_wp2
                        simp only [xJumps]
                        go_ret
                        exact ⟨by unfold fnl; simp; exact len_nil _, S12.lit, B12⟩
                      · go_wp2_with fail
                        refine (iPassNo 48 57 4 (w.heap.size + 1 + 1) w.heap.size g (w.heap.size + 1) t10 (gat 4 r10 l9) _ S10 n11).mono ?_
                        rintro e w11 ⟨rfl, rfl⟩
                        go_wp2_with fail
                        go_step3
                        have q : fnl t10 (gat 4 r10 l9) = res := by rw [← hres]; simp only [scn, pss_n (part := 0) n1, pss_y (part := 0) a2 b2, whl_n (pss_n n3), pnt, pss_y (part := 1) a4 b4, pss_y (part := 2) a5 b5, beh_n (pss_n n6), pwr, pss_y (part := 1) a7 b7, pss_n (part := 4) n8, z9, y9, pss_y (part := 4) a10 b10, pss_n (part := 4) n11]
                        subst q
                        obtain ⟨off, cap, K, hc, -⟩ := S10.left
                        have k0 := K.cell 0 _ rfl
                        clear K
                        go_wp2
                        simp only [xJumps]
                        go_ret
                        exact ⟨by unfold fnl; simp; exact len_nil _, S10.lit, B10⟩
                    · go_wp2_with fail
                      refine (iPassNo 49 57 4 (w.heap.size + 1 + 1) w.heap.size g (w.heap.size + 1) t9 l9 _ S9 n10).mono ?_
                      rintro e w10 ⟨rfl, rfl⟩
                      have q : (false, l9) = res := by rw [← hres]; simp only [scn, pss_n (part := 0) n1, pss_y (part := 0) a2 b2, whl_n (pss_n n3), pnt, pss_y (part := 1) a4 b4, pss_y (part := 2) a5 b5, beh_n (pss_n n6), pwr, pss_y (part := 1) a7 b7, pss_n (part := 4) n8, z9, y9, pss_n (part := 4) n10]
                      subst q
                      go_wp2
                      simp only [xJumps]
                      go_ret
                      exact ⟨rfl, S9.lit, B9⟩
                · go_wp2_with fail
                  refine (iPassNo 101 101 1 (w.heap.size + 1 + 1) w.heap.size g (w.heap.size + 1) t5 (gat 2 r5 (gat 1 r4 (gat 0 r2 l))) _ S5 n7).mono ?_
                  rintro e w7 ⟨rfl, rfl⟩
                  have q : fnl t5 (gat 2 r5 (gat 1 r4 (gat 0 r2 l))) = res := by rw [← hres]; simp only [scn, pss_n (part := 0) n1, pss_y (part := 0) a2 b2, whl_n (pss_n n3), pnt, pss_y (part := 1) a4 b4, pss_y (part := 2) a5 b5, beh_n (pss_n n6), pwr, pss_n (part := 1) n7]
                  go_wp2_with fail
                  go_step3
                  try simp only [xJumps]
                  exact ⟨_, ⟨_, _, _, _, _, _, _, _, _, _, _, _, _, _, _, _, _, _, _, _, _, _, _, _, _, _, _, _, _, _, _, _, _, _, _, _, _, rfl⟩, B5, _, _, S5, .inr (.inr (.inr (.inr ⟨rfl, rfl, q⟩)))⟩
            · go_wp2_with fail
              refine (iPassNo 48 57 2 (w.heap.size + 1 + 1) w.heap.size g (w.heap.size + 1) t4 (gat 1 r4 (gat 0 r2 l)) _ S4 n5).mono ?_
              rintro e w5 ⟨rfl, rfl⟩
              have q : (false, (gat 1 r4 (gat 0 r2 l))) = res := by rw [← hres]; simp only [scn, pss_n (part := 0) n1, pss_y (part := 0) a2 b2, whl_n (pss_n n3), pnt, pss_y (part := 1) a4 b4, pss_n (part := 2) n5]
              subst q
              go_wp2
              simp only [xJumps]
              go_ret
              exact ⟨rfl, S4.lit, B4⟩
          · go_wp2_with fail
            refine (iPassNo 46 46 1 (w.heap.size + 1 + 1) w.heap.size g (w.heap.size + 1) t2 (gat 0 r2 l) _ S2 n4).mono ?_
            rintro e w4 ⟨rfl, rfl⟩
            have q : pwr t2 (gat 0 r2 l) = res := by rw [← hres]; simp only [scn, pss_n (part := 0) n1, pss_y (part := 0) a2 b2, whl_n (pss_n n3), pnt, pss_n (part := 1) n4]
            go_wp2_with fail
            go_step3
            try simp only [xJumps]
            exact ⟨_, ⟨_, _, _, _, _, _, _, _, _, _, _, _, _, _, _, _, _, _, _, _, _, _, _, _, _, _, _, _, _, _, _, _, _, _, _, _, _, rfl⟩, B2, _, _, S2, .inr (.inr (.inr (.inl ⟨rfl, rfl, hs2, q⟩)))⟩
      · go_wp2_with fail
        refine (iPassNo 49 57 0 (w.heap.size + 1 + 1) w.heap.size g (w.heap.size + 1) rs l _ S0 n2).mono ?_
        rintro e w2 ⟨rfl, rfl⟩
        have q : (false, l) = res := by rw [← hres]; simp only [scn, pss_n (part := 0) n1, pss_n (part := 0) n2]
        subst q
        go_wp2
        simp only [xJumps]
        go_ret
        exact ⟨rfl, S0.lit, B0⟩
  · rintro m lab a w1 ⟨⟨u7, u8, u9, u10, u11, u12, u13, u14, u15, u16, u17, u18, u19, u20, u21, u22, u23, u24, u25, u26, u27, u28, u29, u30, u31, u32, u33, u34, u35, u36, u37, u38, u39, u40, u41, u42, u43, rfl⟩, B, rs, l, S, hj⟩
    clear hC hf hres hrn hcap hCi
    rcases hj with ⟨rfl, rfl, hs, hres⟩ | ⟨rfl, rfl, hs, hres⟩ | ⟨rfl, rfl, hs, hres⟩ | ⟨rfl, rfl, hs, hres⟩ | ⟨rfl, rfl, hres⟩
    · refine ⟨_, rfl, ?_⟩
      rcases pcase 48 57 rs with ⟨r1, t1, e1, a1, b1⟩ | n1
      · subst e1
        go_wp2_with fail
        refine (iPassYF 48 57 0 (w.heap.size + 1 + 1) w.heap.size g (w.heap.size + 1) r1 t1 l 0 _ S hs a1 b1 (by decide) (by decide) (fun h => absurd h (by decide)) (by decide)).mono ?_
        rintro e w1 ⟨rfl, S1, hb1⟩
        have B1 := B.trans hb1
        have hs1 := fits_gat (part := 0) hs (by decide)
        clear S B hb1 hs
        have q : whl t1 (gat 0 r1 l) = res := by rw [← hres]; simp only [whl_y a1 b1]
        go_wp2_with fail
        go_step3
        try simp only [xJumps]
        exact ⟨_, by (try simp only [List.length_cons]); omega, ⟨_, _, _, _, _, _, _, _, _, _, _, _, _, _, _, _, _, _, _, _, _, _, _, _, _, _, _, _, _, _, _, _, _, _, _, _, _, rfl⟩, B1, _, _, S1, .inl ⟨rfl, rfl, hs1, q⟩⟩
      · go_wp2_with fail
        refine (iPassNo 48 57 0 (w.heap.size + 1 + 1) w.heap.size g (w.heap.size + 1) rs l _ S n1).mono ?_
        rintro e w1 ⟨rfl, rfl⟩
        go_wp2_with fail
        go_step3
        rcases pcase 46 46 rs with ⟨r2, t2, e2, a2, b2⟩ | n2
        · subst e2
          go_wp2_with fail
          refine (iPassYF 46 46 1 (w.heap.size + 1 + 1) w.heap.size g (w.heap.size + 1) r2 t2 l 0 _ S hs a2 b2 (by decide) (by decide) (fun h => absurd h (by decide)) (by decide)).mono ?_
          rintro e w2 ⟨rfl, S2, hb2⟩
          have B2 := B.trans hb2
          have hs2 := fits_gat (part := 1) hs (by decide)
          clear S B hb2 hs
          rcases pcase 48 57 t2 with ⟨r3, t3, e3, a3, b3⟩ | n3
          · subst e3
            go_wp2_with fail
            refine (iPassYF 48 57 2 (w.heap.size + 1 + 1) w.heap.size g (w.heap.size + 1) r3 t3 (gat 1 r2 l) 0 _ S2 hs2 a3 b3 (by decide) (by decide) (fun h => absurd h (by decide)) (by decide)).mono ?_
            rintro e w3 ⟨rfl, S3, hb3⟩
            have B3 := B2.trans hb3
            have hs3 := fits_gat (part := 2) hs2 (by decide)
            clear S2 B2 hb3 hs2
            go_wp2_with fail
            go_step3
            rcases pcase 48 57 t3 with ⟨r4, t4, e4, a4, b4⟩ | n4
            · subst e4
              go_wp2_with fail
              refine (iPassYF 48 57 2 (w.heap.size + 1 + 1) w.heap.size g (w.heap.size + 1) r4 t4 (gat 2 r3 (gat 1 r2 l)) 0 _ S3 hs3 a4 b4 (by decide) (by decide) (fun h => absurd h (by decide)) (by decide)).mono ?_
              rintro e w4 ⟨rfl, S4, hb4⟩
              have B4 := B3.trans hb4
              have hs4 := fits_gat (part := 2) hs3 (by decide)
              clear S3 B3 hb4 hs3
              have q : beh t4 (gat 2 r4 (gat 2 r3 (gat 1 r2 l))) = res := by rw [← hres]; simp only [whl_n (pss_n n1), pnt, pss_y (part := 1) a2 b2, pss_y (part := 2) a3 b3, beh_y a4 b4]
              go_wp2_with fail
              go_step3
              try simp only [xJumps]
              exact ⟨_, by (try simp only [List.length_cons]); omega, ⟨_, _, _, _, _, _, _, _, _, _, _, _, _, _, _, _, _, _, _, _, _, _, _, _, _, _, _, _, _, _, _, _, _, _, _, _, _, rfl⟩, B4, _, _, S4, .inr (.inr (.inl ⟨rfl, rfl, hs4, q⟩))⟩
            · go_wp2_with fail
              refine (iPassNo 48 57 2 (w.heap.size + 1 + 1) w.heap.size g (w.heap.size + 1) t3 (gat 2 r3 (gat 1 r2 l)) _ S3 n4).mono ?_
              rintro e w4 ⟨rfl, rfl⟩
              go_wp2_with fail
              go_step3
              rcases pcase 101 101 t3 with ⟨r5, t5, e5, a5, b5⟩ | n5
              · subst e5
                go_wp2_with fail
                refine (iPassYF 101 101 1 (w.heap.size + 1 + 1) w.heap.size g (w.heap.size + 1) r5 t5 (gat 2 r3 (gat 1 r2 l)) 0 _ S3 hs3 a5 b5 (by decide) (by decide) (fun h => absurd h (by decide)) (by decide)).mono ?_
                rintro e w5 ⟨rfl, S5, hb5⟩
                have B5 := B3.trans hb5
                have hs5 := fits_gat (part := 1) hs3 (by decide)
                clear S3 B3 hb5 hs3
                rcases pcase 48 48 t5 with ⟨r6, t6, e6, a6, b6⟩ | n6
                · subst e6
                  go_wp2_with fail
                  refine (iPassYF 48 48 4 (w.heap.size + 1 + 1) w.heap.size g (w.heap.size + 1) r6 t6 (gat 1 r5 (gat 2 r3 (gat 1 r2 l))) 0 _ S5 hs5 a6 b6 (by decide) (by decide) (fun _ => by decide) (by decide)).mono ?_
                  rintro e w6 ⟨rfl, S6, hb6⟩
                  have B6 := B5.trans hb6
                  have hs6 := fits_gat4 hs5 (by omega) (by omega) (by omega)
                  clear S5 B5 hb6 hs5
                  have q : fnl t6 (gat 4 r6 (gat 1 r5 (gat 2 r3 (gat 1 r2 l)))) = res := by rw [← hres]; simp only [whl_n (pss_n n1), pnt, pss_y (part := 1) a2 b2, pss_y (part := 2) a3 b3, beh_n (pss_n n4), pwr, pss_y (part := 1) a5 b5, pss_y (part := 4) a6 b6]
                  go_wp2_with fail
                  go_step3
                  try simp only [xJumps]
                  exact ⟨_, by (try simp only [List.length_cons]); omega, ⟨_, _, _, _, _, _, _, _, _, _, _, _, _, _, _, _, _, _, _, _, _, _, _, _, _, _, _, _, _, _, _, _, _, _, _, _, _, rfl⟩, B6, _, _, S6, .inr (.inr (.inr (.inr ⟨rfl, rfl, q⟩)))⟩
                · go_wp2_with fail
                  refine (iPassNo 48 48 4 (w.heap.size + 1 + 1) w.heap.size g (w.heap.size + 1) t5 (gat 1 r5 (gat 2 r3 (gat 1 r2 l))) _ S5 n6).mono ?_
                  rintro e w6 ⟨rfl, rfl⟩
                  go_wp2_with fail
                  refine (iPassAny 45 45 3 (w.heap.size + 1 + 1) w.heap.size g (w.heap.size + 1) t5 (gat 1 r5 (gat 2 r3 (gat 1 r2 l))) 0 _ S5 hs5 (by decide) (by decide) (fun h => absurd h (by decide)) (by decide)).mono ?_
                  rintro e w7 ⟨⟨v7, rfl⟩, S7, hb7⟩
                  have B7 := B5.trans hb7
                  have hs7 := fits_any (lo := 45) (hi := 45) (part := 3) hs5 (by decide)
                  clear S5 B5 hb7 hs5
                  obtain ⟨t7, z7⟩ : ∃ x, ((pss 45 45 3 t5 (gat 1 r5 (gat 2 r3 (gat 1 r2 l)))).getD (t5, (gat 1 r5 (gat 2 r3 (gat 1 r2 l))))).1 = x := ⟨_, rfl⟩
                  obtain ⟨l7, y7⟩ : ∃ x, ((pss 45 45 3 t5 (gat 1 r5 (gat 2 r3 (gat 1 r2 l)))).getD (t5, (gat 1 r5 (gat 2 r3 (gat 1 r2 l))))).2 = x := ⟨_, rfl⟩
                  rw [z7, y7] at S7
                  rw [z7, y7] at hs7
                  rcases pcase 49 57 t7 with ⟨r8, t8, e8, a8, b8⟩ | n8
                  · subst e8
                    go_wp2_with fail
                    refine (iPassYF 49 57 4 (w.heap.size + 1 + 1) w.heap.size g (w.heap.size + 1) r8 t8 l7 0 _ S7 hs7 a8 b8 (by decide) (by decide) (fun _ => by decide) (by decide)).mono ?_
                    rintro e w8 ⟨rfl, S8, hb8⟩
                    have B8 := B7.trans hb8
                    have hs8 := fits_gat4 hs7 (by omega) (by omega) (by omega)
                    clear S7 B7 hb8 hs7
                    rcases pcase 48 57 t8 with ⟨r9, t9, e9, a9, b9⟩ | n9
                    · subst e9
                      go_wp2_with fail
                      refine (iPassYF 48 57 4 (w.heap.size + 1 + 1) w.heap.size g (w.heap.size + 1) r9 t9 (gat 4 r8 l7) 9 _ S8 hs8 a9 b9 (by decide) (by decide) (fun _ => by decide) (by decide)).mono ?_
                      rintro e w9 ⟨rfl, S9, hb9⟩
                      have B9 := B8.trans hb9
                      have hs9 := fits_gat4 hs8 (by omega) (by omega) (by omega)
                      clear S8 B8 hb9 hs8
                      go_wp2_with fail
                      refine (iPassAny 48 57 4 (w.heap.size + 1 + 1) w.heap.size g (w.heap.size + 1) t9 (gat 4 r9 (gat 4 r8 l7)) 99 _ S9 hs9 (by decide) (by decide) (fun _ => by decide) (by decide)).mono ?_
                      rintro e w10 ⟨⟨v10, rfl⟩, S10, hb10⟩
                      have B10 := B9.trans hb10
                      have hs10 := hs9
                      clear S9 B9 hb10 hs9
                      obtain ⟨t10, z10⟩ : ∃ x, ((pss 48 57 4 t9 (gat 4 r9 (gat 4 r8 l7))).getD (t9, (gat 4 r9 (gat 4 r8 l7)))).1 = x := ⟨_, rfl⟩
                      obtain ⟨l10, y10⟩ : ∃ x, ((pss 48 57 4 t9 (gat 4 r9 (gat 4 r8 l7))).getD (t9, (gat 4 r9 (gat 4 r8 l7)))).2 = x := ⟨_, rfl⟩
                      rw [z10, y10] at S10
                      go_wp2_with fail
                      go_step3
                      have q : fnl t10 l10 = res := by rw [← hres]; simp only [whl_n (pss_n n1), pnt, pss_y (part := 1) a2 b2, pss_y (part := 2) a3 b3, beh_n (pss_n n4), pwr, pss_y (part := 1) a5 b5, pss_n (part := 4) n6, z7, y7, pss_y (part := 4) a8 b8, pss_y (part := 4) a9 b9, z10, y10]
                      subst q
                      obtain ⟨off, cap, K, hc, -⟩ := S10.left
                      have k0 := K.cell 0 _ rfl
                      clear K
                      go_wp2
                      simp only [xJumps]
                      go_ret
                      exact ⟨by unfold fnl; simp; exact len_nil _, S10.lit, B10⟩
                    · go_wp2_with fail
                      refine (iPassNo 48 57 4 (w.heap.size + 1 + 1) w.heap.size g (w.heap.size + 1) t8 (gat 4 r8 l7) _ S8 n9).mono ?_
                      rintro e w9 ⟨rfl, rfl⟩
                      go_wp2_with fail
                      go_step3
                      have q : fnl t8 (gat 4 r8 l7) = res := by rw [← hres]; simp only [whl_n (pss_n n1), pnt, pss_y (part := 1) a2 b2, pss_y (part := 2) a3 b3, beh_n (pss_n n4), pwr, pss_y (part := 1) a5 b5, pss_n (part := 4) n6, z7, y7, pss_y (part := 4) a8 b8, pss_n (part := 4) n9]
                      subst q
                      obtain ⟨off, cap, K, hc, -⟩ := S8.left
                      have k0 := K.cell 0 _ rfl
                      clear K
                      go_wp2
                      simp only [xJumps]
                      go_ret
                      exact ⟨by unfold fnl; simp; exact len_nil _, S8.lit, B8⟩
                  · go_wp2_with fail
                    refine (iPassNo 49 57 4 (w.heap.size + 1 + 1) w.heap.size g (w.heap.size + 1) t7 l7 _ S7 n8).mono ?_
                    rintro e w8 ⟨rfl, rfl⟩
                    have q : (false, l7) = res := by rw [← hres]; simp only [whl_n (pss_n n1), pnt, pss_y (part := 1) a2 b2, pss_y (part := 2) a3 b3, beh_n (pss_n n4), pwr, pss_y (part := 1) a5 b5, pss_n (part := 4) n6, z7, y7, pss_n (part := 4) n8]
                    subst q
                    go_wp2
                    simp only [xJumps]
                    go_ret
                    exact ⟨rfl, S7.lit, B7⟩
              · go_wp2_with fail
                refine (iPassNo 101 101 1 (w.heap.size + 1 + 1) w.heap.size g (w.heap.size + 1) t3 (gat 2 r3 (gat 1 r2 l)) _ S3 n5).mono ?_
                rintro e w5 ⟨rfl, rfl⟩
                have q : fnl t3 (gat 2 r3 (gat 1 r2 l)) = res := by rw [← hres]; simp only [whl_n (pss_n n1), pnt, pss_y (part := 1) a2 b2, pss_y (part := 2) a3 b3, beh_n (pss_n n4), pwr, pss_n (part := 1) n5]
                go_wp2_with fail
                go_step3
                try simp only [xJumps]
                exact ⟨_, by (try simp only [List.length_cons]); omega, ⟨_, _, _, _, _, _, _, _, _, _, _, _, _, _, _, _, _, _, _, _, _, _, _, _, _, _, _, _, _, _, _, _, _, _, _, _, _, rfl⟩, B3, _, _, S3, .inr (.inr (.inr (.inr ⟨rfl, rfl, q⟩)))⟩
          · go_wp2_with fail
            refine (iPassNo 48 57 2 (w.heap.size + 1 + 1) w.heap.size g (w.heap.size + 1) t2 (gat 1 r2 l) _ S2 n3).mono ?_
            rintro e w3 ⟨rfl, rfl⟩
            have q : (false, (gat 1 r2 l)) = res := by rw [← hres]; simp only [whl_n (pss_n n1), pnt, pss_y (part := 1) a2 b2, pss_n (part := 2) n3]
            subst q
            go_wp2
            simp only [xJumps]
            go_ret
            exact ⟨rfl, S2.lit, B2⟩
        · go_wp2_with fail
          refine (iPassNo 46 46 1 (w.heap.size + 1 + 1) w.heap.size g (w.heap.size + 1) rs l _ S n2).mono ?_
          rintro e w2 ⟨rfl, rfl⟩
          have q : pwr rs l = res := by rw [← hres]; simp only [whl_n (pss_n n1), pnt, pss_n (part := 1) n2]
          go_wp2_with fail
          go_step3
          try simp only [xJumps]
          exact ⟨_, by (try simp only [List.length_cons]); omega, ⟨_, _, _, _, _, _, _, _, _, _, _, _, _, _, _, _, _, _, _, _, _, _, _, _, _, _, _, _, _, _, _, _, _, _, _, _, _, rfl⟩, B, _, _, S, .inr (.inr (.inr (.inl ⟨rfl, rfl, hs, q⟩)))⟩
    · refine ⟨_, rfl, ?_⟩
      rcases pcase 46 46 rs with ⟨r1, t1, e1, a1, b1⟩ | n1
      · subst e1
        go_wp2_with fail
        refine (iPassYF 46 46 1 (w.heap.size + 1 + 1) w.heap.size g (w.heap.size + 1) r1 t1 l 0 _ S hs a1 b1 (by decide) (by decide) (fun h => absurd h (by decide)) (by decide)).mono ?_
        rintro e w1 ⟨rfl, S1, hb1⟩
        have B1 := B.trans hb1
        have hs1 := fits_gat (part := 1) hs (by decide)
        clear S B hb1 hs
        rcases pcase 48 57 t1 with ⟨r2, t2, e2, a2, b2⟩ | n2
        · subst e2
          go_wp2_with fail
          refine (iPassYF 48 57 2 (w.heap.size + 1 + 1) w.heap.size g (w.heap.size + 1) r2 t2 (gat 1 r1 l) 0 _ S1 hs1 a2 b2 (by decide) (by decide) (fun h => absurd h (by decide)) (by decide)).mono ?_
          rintro e w2 ⟨rfl, S2, hb2⟩
          have B2 := B1.trans hb2
          have hs2 := fits_gat (part := 2) hs1 (by decide)
          clear S1 B1 hb2 hs1
          go_wp2_with fail
          go_step3
          rcases pcase 48 57 t2 with ⟨r3, t3, e3, a3, b3⟩ | n3
          · subst e3
            go_wp2_with fail
            refine (iPassYF 48 57 2 (w.heap.size + 1 + 1) w.heap.size g (w.heap.size + 1) r3 t3 (gat 2 r2 (gat 1 r1 l)) 0 _ S2 hs2 a3 b3 (by decide) (by decide) (fun h => absurd h (by decide)) (by decide)).mono ?_
            rintro e w3 ⟨rfl, S3, hb3⟩
            have B3 := B2.trans hb3
            have hs3 := fits_gat (part := 2) hs2 (by decide)
            clear S2 B2 hb3 hs2
            have q : beh t3 (gat 2 r3 (gat 2 r2 (gat 1 r1 l))) = res := by rw [← hres]; simp only [pnt, pss_y (part := 1) a1 b1, pss_y (part := 2) a2 b2, beh_y a3 b3]
            go_wp2_with fail
            go_step3
            try simp only [xJumps]
            exact ⟨_, by (try simp only [List.length_cons]); omega, ⟨_, _, _, _, _, _, _, _, _, _, _, _, _, _, _, _, _, _, _, _, _, _, _, _, _, _, _, _, _, _, _, _, _, _, _, _, _, rfl⟩, B3, _, _, S3, .inr (.inr (.inl ⟨rfl, rfl, hs3, q⟩))⟩
          · go_wp2_with fail
            refine (iPassNo 48 57 2 (w.heap.size + 1 + 1) w.heap.size g (w.heap.size + 1) t2 (gat 2 r2 (gat 1 r1 l)) _ S2 n3).mono ?_
            rintro e w3 ⟨rfl, rfl⟩
            go_wp2_with fail
            go_step3
            rcases pcase 101 101 t2 with ⟨r4, t4, e4, a4, b4⟩ | n4
            · subst e4
              go_wp2_with fail
              refine (iPassYF 101 101 1 (w.heap.size + 1 + 1) w.heap.size g (w.heap.size + 1) r4 t4 (gat 2 r2 (gat 1 r1 l)) 0 _ S2 hs2 a4 b4 (by decide) (by decide) (fun h => absurd h (by decide)) (by decide)).mono ?_
              rintro e w4 ⟨rfl, S4, hb4⟩
              have B4 := B2.trans hb4
              have hs4 := fits_gat (part := 1) hs2 (by decide)
              clear S2 B2 hb4 hs2
              rcases pcase 48 48 t4 with ⟨r5, t5, e5, a5, b5⟩ | n5
              · subst e5
                go_wp2_with fail
                refine (iPassYF 48 48 4 (w.heap.size + 1 + 1) w.heap.size g (w.heap.size + 1) r5 t5 (gat 1 r4 (gat 2 r2 (gat 1 r1 l))) 0 _ S4 hs4 a5 b5 (by decide) (by decide) (fun _ => by decide) (by decide)).mono ?_
                rintro e w5 ⟨rfl, S5, hb5⟩
                have B5 := B4.trans hb5
                have hs5 := fits_gat4 hs4 (by omega) (by omega) (by omega)
                clear S4 B4 hb5 hs4
                have q : fnl t5 (gat 4 r5 (gat 1 r4 (gat 2 r2 (gat 1 r1 l)))) = res := by rw [← hres]; simp only [pnt, pss_y (part := 1) a1 b1, pss_y (part := 2) a2 b2, beh_n (pss_n n3), pwr, pss_y (part := 1) a4 b4, pss_y (part := 4) a5 b5]
                go_wp2_with fail
                go_step3
                try simp only [xJumps]
                exact ⟨_, by (try simp only [List.length_cons]); omega, ⟨_, _, _, _, _, _, _, _, _, _, _, _, _, _, _, _, _, _, _, _, _, _, _, _, _, _, _, _, _, _, _, _, _, _, _, _, _, rfl⟩, B5, _, _, S5, .inr (.inr (.inr (.inr ⟨rfl, rfl, q⟩)))⟩
              · go_wp2_with fail
                refine (iPassNo 48 48 4 (w.heap.size + 1 + 1) w.heap.size g (w.heap.size + 1) t4 (gat 1 r4 (gat 2 r2 (gat 1 r1 l))) _ S4 n5).mono ?_
                rintro e w5 ⟨rfl, rfl⟩
                go_wp2_with fail
                refine (iPassAny 45 45 3 (w.heap.size + 1 + 1) w.heap.size g (w.heap.size + 1) t4 (gat 1 r4 (gat 2 r2 (gat 1 r1 l))) 0 _ S4 hs4 (by decide) (by decide) (fun h => absurd h (by decide)) (by decide)).mono ?_
                rintro e w6 ⟨⟨v6, rfl⟩, S6, hb6⟩
                have B6 := B4.trans hb6
                have hs6 := fits_any (lo := 45) (hi := 45) (part := 3) hs4 (by decide)
                clear S4 B4 hb6 hs4
                obtain ⟨t6, z6⟩ : ∃ x, ((pss 45 45 3 t4 (gat 1 r4 (gat 2 r2 (gat 1 r1 l)))).getD (t4, (gat 1 r4 (gat 2 r2 (gat 1 r1 l))))).1 = x := ⟨_, rfl⟩
                obtain ⟨l6, y6⟩ : ∃ x, ((pss 45 45 3 t4 (gat 1 r4 (gat 2 r2 (gat 1 r1 l)))).getD (t4, (gat 1 r4 (gat 2 r2 (gat 1 r1 l))))).2 = x := ⟨_, rfl⟩
                rw [z6, y6] at S6
                rw [z6, y6] at hs6
                rcases pcase 49 57 t6 with ⟨r7, t7, e7, a7, b7⟩ | n7
                · subst e7
                  go_wp2_with fail
                  refine (iPassYF 49 57 4 (w.heap.size + 1 + 1) w.heap.size g (w.heap.size + 1) r7 t7 l6 0 _ S6 hs6 a7 b7 (by decide) (by decide) (fun _ => by decide) (by decide)).mono ?_
                  rintro e w7 ⟨rfl, S7, hb7⟩
                  have B7 := B6.trans hb7
                  have hs7 := fits_gat4 hs6 (by omega) (by omega) (by omega)
                  clear S6 B6 hb7 hs6
                  rcases pcase 48 57 t7 with ⟨r8, t8, e8, a8, b8⟩ | n8
                  · subst e8
                    go_wp2_with fail
                    refine (iPassYF 48 57 4 (w.heap.size + 1 + 1) w.heap.size g (w.heap.size + 1) r8 t8 (gat 4 r7 l6) 9 _ S7 hs7 a8 b8 (by decide) (by decide) (fun _ => by decide) (by decide)).mono ?_
                    rintro e w8 ⟨rfl, S8, hb8⟩
                    have B8 := B7.trans hb8
                    have hs8 := fits_gat4 hs7 (by omega) (by omega) (by omega)
                    clear S7 B7 hb8 hs7
                    go_wp2_with fail
                    refine (iPassAny 48 57 4 (w.heap.size + 1 + 1) w.heap.size g (w.heap.size + 1) t8 (gat 4 r8 (gat 4 r7 l6)) 99 _ S8 hs8 (by decide) (by decide) (fun _ => by decide) (by decide)).mono ?_
                    rintro e w9 ⟨⟨v9, rfl⟩, S9, hb9⟩
                    have B9 := B8.trans hb9
                    have hs9 := hs8
                    clear S8 B8 hb9 hs8
                    obtain ⟨t9, z9⟩ : ∃ x, ((pss 48 57 4 t8 (gat 4 r8 (gat 4 r7 l6))).getD (t8, (gat 4 r8 (gat 4 r7 l6)))).1 = x := ⟨_, rfl⟩
                    obtain ⟨l9, y9⟩ : ∃ x, ((pss 48 57 4 t8 (gat 4 r8 (gat 4 r7 l6))).getD (t8, (gat 4 r8 (gat 4 r7 l6)))).2 = x := ⟨_, rfl⟩
                    rw [z9, y9] at S9
                    go_wp2_with fail
                    go_step3
                    have q : fnl t9 l9 = res := by rw [← hres]; simp only [pnt, pss_y (part := 1) a1 b1, pss_y (part := 2) a2 b2, beh_n (pss_n n3), pwr, pss_y (part := 1) a4 b4, pss_n (part := 4) n5, z6, y6, pss_y (part := 4) a7 b7, pss_y (part := 4) a8 b8, z9, y9]
                    subst q
                    obtain ⟨off, cap, K, hc, -⟩ := S9.left
                    have k0 := K.cell 0 _ rfl
                    clear K
                    go_wp2
                    simp only [xJumps]
                    go_ret
                    exact ⟨by unfold fnl; simp; exact len_nil _, S9.lit, B9⟩
                  · go_wp2_with fail
                    refine (iPassNo 48 57 4 (w.heap.size + 1 + 1) w.heap.size g (w.heap.size + 1) t7 (gat 4 r7 l6) _ S7 n8).mono ?_
                    rintro e w8 ⟨rfl, rfl⟩
                    go_wp2_with fail
                    go_step3
                    have q : fnl t7 (gat 4 r7 l6) = res := by rw [← hres]; simp only [pnt, pss_y (part := 1) a1 b1, pss_y (part := 2) a2 b2, beh_n (pss_n n3), pwr, pss_y (part := 1) a4 b4, pss_n (part := 4) n5, z6, y6, pss_y (part := 4) a7 b7, pss_n (part := 4) n8]
                    subst q
                    obtain ⟨off, cap, K, hc, -⟩ := S7.left
                    have k0 := K.cell 0 _ rfl
                    clear K
                    go_wp2
                    simp only [xJumps]
                    go_ret
                    exact ⟨by unfold fnl; simp; exact len_nil _, S7.lit, B7⟩
                · go_wp2_with fail
                  refine (iPassNo 49 57 4 (w.heap.size + 1 + 1) w.heap.size g (w.heap.size + 1) t6 l6 _ S6 n7).mono ?_
                  rintro e w7 ⟨rfl, rfl⟩
                  have q : (false, l6) = res := by rw [← hres]; simp only [pnt, pss_y (part := 1) a1 b1, pss_y (part := 2) a2 b2, beh_n (pss_n n3), pwr, pss_y (part := 1) a4 b4, pss_n (part := 4) n5, z6, y6, pss_n (part := 4) n7]
                  subst q
                  go_wp2
                  simp only [xJumps]
                  go_ret
                  exact ⟨rfl, S6.lit, B6⟩
            · go_wp2_with fail
              refine (iPassNo 101 101 1 (w.heap.size + 1 + 1) w.heap.size g (w.heap.size + 1) t2 (gat 2 r2 (gat 1 r1 l)) _ S2 n4).mono ?_
              rintro e w4 ⟨rfl, rfl⟩
              have q : fnl t2 (gat 2 r2 (gat 1 r1 l)) = res := by rw [← hres]; simp only [pnt, pss_y (part := 1) a1 b1, pss_y (part := 2) a2 b2, beh_n (pss_n n3), pwr, pss_n (part := 1) n4]
              go_wp2_with fail
              go_step3
              try simp only [xJumps]
              exact ⟨_, by (try simp only [List.length_cons]); omega, ⟨_, _, _, _, _, _, _, _, _, _, _, _, _, _, _, _, _, _, _, _, _, _, _, _, _, _, _, _, _, _, _, _, _, _, _, _, _, rfl⟩, B2, _, _, S2, .inr (.inr (.inr (.inr ⟨rfl, rfl, q⟩)))⟩
        · go_wp2_with fail
          refine (iPassNo 48 57 2 (w.heap.size + 1 + 1) w.heap.size g (w.heap.size + 1) t1 (gat 1 r1 l) _ S1 n2).mono ?_
          rintro e w2 ⟨rfl, rfl⟩
          have q : (false, (gat 1 r1 l)) = res := by rw [← hres]; simp only [pnt, pss_y (part := 1) a1 b1, pss_n (part := 2) n2]
          subst q
          go_wp2
          simp only [xJumps]
          go_ret
          exact ⟨rfl, S1.lit, B1⟩
      · go_wp2_with fail
        refine (iPassNo 46 46 1 (w.heap.size + 1 + 1) w.heap.size g (w.heap.size + 1) rs l _ S n1).mono ?_
        rintro e w1 ⟨rfl, rfl⟩
        have q : pwr rs l = res := by rw [← hres]; simp only [pnt, pss_n (part := 1) n1]
        go_wp2_with fail
        go_step3
        try simp only [xJumps]
        exact ⟨_, by (try simp only [List.length_cons]); omega, ⟨_, _, _, _, _, _, _, _, _, _, _, _, _, _, _, _, _, _, _, _, _, _, _, _, _, _, _, _, _, _, _, _, _, _, _, _, _, rfl⟩, B, _, _, S, .inr (.inr (.inr (.inl ⟨rfl, rfl, hs, q⟩)))⟩
    · refine ⟨_, rfl, ?_⟩
      rcases pcase 48 57 rs with ⟨r1, t1, e1, a1, b1⟩ | n1
      · subst e1
        go_wp2_with fail
        refine (iPassYF 48 57 2 (w.heap.size + 1 + 1) w.heap.size g (w.heap.size + 1) r1 t1 l 0 _ S hs a1 b1 (by decide) (by decide) (fun h => absurd h (by decide)) (by decide)).mono ?_
        rintro e w1 ⟨rfl, S1, hb1⟩
        have B1 := B.trans hb1
        have hs1 := fits_gat (part := 2) hs (by decide)
        clear S B hb1 hs
        have q : beh t1 (gat 2 r1 l) = res := by rw [← hres]; simp only [beh_y a1 b1]
        go_wp2_with fail
        go_step3
        try simp only [xJumps]
        exact ⟨_, by (try simp only [List.length_cons]); omega, ⟨_, _, _, _, _, _, _, _, _, _, _, _, _, _, _, _, _, _, _, _, _, _, _, _, _, _, _, _, _, _, _, _, _, _, _, _, _, rfl⟩, B1, _, _, S1, .inr (.inr (.inl ⟨rfl, rfl, hs1, q⟩))⟩
      · go_wp2_with fail
        refine (iPassNo 48 57 2 (w.heap.size + 1 + 1) w.heap.size g (w.heap.size + 1) rs l _ S n1).mono ?_
        rintro e w1 ⟨rfl, rfl⟩
        go_wp2_with fail
        go_step3
        rcases pcase 101 101 rs with ⟨r2, t2, e2, a2, b2⟩ | n2
        · subst e2
          go_wp2_with fail
          refine (iPassYF 101 101 1 (w.heap.size + 1 + 1) w.heap.size g (w.heap.size + 1) r2 t2 l 0 _ S hs a2 b2 (by decide) (by decide) (fun h => absurd h (by decide)) (by decide)).mono ?_
          rintro e w2 ⟨rfl, S2, hb2⟩
          have B2 := B.trans hb2
          have hs2 := fits_gat (part := 1) hs (by decide)
          clear S B hb2 hs
          rcases pcase 48 48 t2 with ⟨r3, t3, e3, a3, b3⟩ | n3
          · subst e3
            go_wp2_with fail
            refine (iPassYF 48 48 4 (w.heap.size + 1 + 1) w.heap.size g (w.heap.size + 1) r3 t3 (gat 1 r2 l) 0 _ S2 hs2 a3 b3 (by decide) (by decide) (fun _ => by decide) (by decide)).mono ?_
            rintro e w3 ⟨rfl, S3, hb3⟩
            have B3 := B2.trans hb3
            have hs3 := fits_gat4 hs2 (by omega) (by omega) (by omega)
            clear S2 B2 hb3 hs2
            have q : fnl t3 (gat 4 r3 (gat 1 r2 l)) = res := by rw [← hres]; simp only [beh_n (pss_n n1), pwr, pss_y (part := 1) a2 b2, pss_y (part := 4) a3 b3]
            go_wp2_with fail
            go_step3
            try simp only [xJumps]
            exact ⟨_, by (try simp only [List.length_cons]); omega, ⟨_, _, _, _, _, _, _, _, _, _, _, _, _, _, _, _, _, _, _, _, _, _, _, _, _, _, _, _, _, _, _, _, _, _, _, _, _, rfl⟩, B3, _, _, S3, .inr (.inr (.inr (.inr ⟨rfl, rfl, q⟩)))⟩
          · go_wp2_with fail
            refine (iPassNo 48 48 4 (w.heap.size + 1 + 1) w.heap.size g (w.heap.size + 1) t2 (gat 1 r2 l) _ S2 n3).mono ?_
            rintro e w3 ⟨rfl, rfl⟩
            go_wp2_with fail
            refine (iPassAny 45 45 3 (w.heap.size + 1 + 1) w.heap.size g (w.heap.size + 1) t2 (gat 1 r2 l) 0 _ S2 hs2 (by decide) (by decide) (fun h => absurd h (by decide)) (by decide)).mono ?_
            rintro e w4 ⟨⟨v4, rfl⟩, S4, hb4⟩
            have B4 := B2.trans hb4
            have hs4 := fits_any (lo := 45) (hi := 45) (part := 3) hs2 (by decide)
            clear S2 B2 hb4 hs2
            obtain ⟨t4, z4⟩ : ∃ x, ((pss 45 45 3 t2 (gat 1 r2 l)).getD (t2, (gat 1 r2 l))).1 = x := ⟨_, rfl⟩
            obtain ⟨l4, y4⟩ : ∃ x, ((pss 45 45 3 t2 (gat 1 r2 l)).getD (t2, (gat 1 r2 l))).2 = x := ⟨_, rfl⟩
            rw [z4, y4] at S4
            rw [z4, y4] at hs4
            rcases pcase 49 57 t4 with ⟨r5, t5, e5, a5, b5⟩ | n5
            · subst e5
              go_wp2_with fail
              refine (iPassYF 49 57 4 (w.heap.size + 1 + 1) w.heap.size g (w.heap.size + 1) r5 t5 l4 0 _ S4 hs4 a5 b5 (by decide) (by decide) (fun _ => by decide) (by decide)).mono ?_
              rintro e w5 ⟨rfl, S5, hb5⟩
              have B5 := B4.trans hb5
              have hs5 := fits_gat4 hs4 (by omega) (by omega) (by omega)
              clear S4 B4 hb5 hs4
              rcases pcase 48 57 t5 with ⟨r6, t6, e6, a6, b6⟩ | n6
              · subst e6
                go_wp2_with fail
                refine (iPassYF 48 57 4 (w.heap.size + 1 + 1) w.heap.size g (w.heap.size + 1) r6 t6 (gat 4 r5 l4) 9 _ S5 hs5 a6 b6 (by decide) (by decide) (fun _ => by decide) (by decide)).mono ?_
                rintro e w6 ⟨rfl, S6, hb6⟩
                have B6 := B5.trans hb6
                have hs6 := fits_gat4 hs5 (by omega) (by omega) (by omega)
                clear S5 B5 hb6 hs5
                go_wp2_with fail
                refine (iPassAny 48 57 4 (w.heap.size + 1 + 1) w.heap.size g (w.heap.size + 1) t6 (gat 4 r6 (gat 4 r5 l4)) 99 _ S6 hs6 (by decide) (by decide) (fun _ => by decide) (by decide)).mono ?_
                rintro e w7 ⟨⟨v7, rfl⟩, S7, hb7⟩
                have B7 := B6.trans hb7
                have hs7 := hs6
                clear S6 B6 hb7 hs6
                obtain ⟨t7, z7⟩ : ∃ x, ((pss 48 57 4 t6 (gat 4 r6 (gat 4 r5 l4))).getD (t6, (gat 4 r6 (gat 4 r5 l4)))).1 = x := ⟨_, rfl⟩
                obtain ⟨l7, y7⟩ : ∃ x, ((pss 48 57 4 t6 (gat 4 r6 (gat 4 r5 l4))).getD (t6, (gat 4 r6 (gat 4 r5 l4)))).2 = x := ⟨_, rfl⟩
                rw [z7, y7] at S7
                go_wp2_with fail
                go_step3
                have q : fnl t7 l7 = res := by rw [← hres]; simp only [beh_n (pss_n n1), pwr, pss_y (part := 1) a2 b2, pss_n (part := 4) n3, z4, y4, pss_y (part := 4) a5 b5, pss_y (part := 4) a6 b6, z7, y7]
                subst q
                obtain ⟨off, cap, K, hc, -⟩ := S7.left
                have k0 := K.cell 0 _ rfl
                clear K
                go_wp2
                simp only [xJumps]
                go_ret
                exact ⟨by unfold fnl; simp; exact len_nil _, S7.lit, B7⟩
              · go_wp2_with fail
                refine (iPassNo 48 57 4 (w.heap.size + 1 + 1) w.heap.size g (w.heap.size + 1) t5 (gat 4 r5 l4) _ S5 n6).mono ?_
                rintro e w6 ⟨rfl, rfl⟩
                go_wp2_with fail
                go_step3
                have q : fnl t5 (gat 4 r5 l4) = res := by rw [← hres]; simp only [beh_n (pss_n n1), pwr, pss_y (part := 1) a2 b2, pss_n (part := 4) n3, z4, y4, pss_y (part := 4) a5 b5, pss_n (part := 4) n6]
                subst q
                obtain ⟨off, cap, K, hc, -⟩ := S5.left
                have k0 := K.cell 0 _ rfl
                clear K
                go_wp2
                simp only [xJumps]
                go_ret
                exact ⟨by unfold fnl; simp; exact len_nil _, S5.lit, B5⟩
            · go_wp2_with fail
              refine (iPassNo 49 57 4 (w.heap.size + 1 + 1) w.heap.size g (w.heap.size + 1) t4 l4 _ S4 n5).mono ?_
              rintro e w5 ⟨rfl, rfl⟩
              have q : (false, l4) = res := by rw [← hres]; simp only [beh_n (pss_n n1), pwr, pss_y (part := 1) a2 b2, pss_n (part := 4) n3, z4, y4, pss_n (part := 4) n5]
              subst q
              go_wp2
              simp only [xJumps]
              go_ret
              exact ⟨rfl, S4.lit, B4⟩
        · go_wp2_with fail
          refine (iPassNo 101 101 1 (w.heap.size + 1 + 1) w.heap.size g (w.heap.size + 1) rs l _ S n2).mono ?_
          rintro e w2 ⟨rfl, rfl⟩
          have q : fnl rs l = res := by rw [← hres]; simp only [beh_n (pss_n n1), pwr, pss_n (part := 1) n2]
          go_wp2_with fail
          go_step3
          try simp only [xJumps]
          exact ⟨_, by (try simp only [List.length_cons]); omega, ⟨_, _, _, _, _, _, _, _, _, _, _, _, _, _, _, _, _, _, _, _, _, _, _, _, _, _, _, _, _, _, _, _, _, _, _, _, _, rfl⟩, B, _, _, S, .inr (.inr (.inr (.inr ⟨rfl, rfl, q⟩)))⟩
    · refine ⟨_, rfl, ?_⟩
      rcases pcase 101 101 rs with ⟨r1, t1, e1, a1, b1⟩ | n1
      · subst e1
        go_wp2_with fail
        refine (iPassYF 101 101 1 (w.heap.size + 1 + 1) w.heap.size g (w.heap.size + 1) r1 t1 l 0 _ S hs a1 b1 (by decide) (by decide) (fun h => absurd h (by decide)) (by decide)).mono ?_
        rintro e w1 ⟨rfl, S1, hb1⟩
        have B1 := B.trans hb1
        have hs1 := fits_gat (part := 1) hs (by decide)
        clear S B hb1 hs
        rcases pcase 48 48 t1 with ⟨r2, t2, e2, a2, b2⟩ | n2
        · subst e2
          go_wp2_with fail
          refine (iPassYF 48 48 4 (w.heap.size + 1 + 1) w.heap.size g (w.heap.size + 1) r2 t2 (gat 1 r1 l) 0 _ S1 hs1 a2 b2 (by decide) (by decide) (fun _ => by decide) (by decide)).mono ?_
          rintro e w2 ⟨rfl, S2, hb2⟩
          have B2 := B1.trans hb2
          have hs2 := fits_gat4 hs1 (by omega) (by omega) (by omega)
          clear S1 B1 hb2 hs1
          have q : fnl t2 (gat 4 r2 (gat 1 r1 l)) = res := by rw [← hres]; simp only [pwr, pss_y (part := 1) a1 b1, pss_y (part := 4) a2 b2]
          go_wp2_with fail
          go_step3
          try simp only [xJumps]
          exact ⟨_, by (try simp only [List.length_cons]); omega, ⟨_, _, _, _, _, _, _, _, _, _, _, _, _, _, _, _, _, _, _, _, _, _, _, _, _, _, _, _, _, _, _, _, _, _, _, _, _, rfl⟩, B2, _, _, S2, .inr (.inr (.inr (.inr ⟨rfl, rfl, q⟩)))⟩
        · go_wp2_with fail
          refine (iPassNo 48 48 4 (w.heap.size + 1 + 1) w.heap.size g (w.heap.size + 1) t1 (gat 1 r1 l) _ S1 n2).mono ?_
          rintro e w2 ⟨rfl, rfl⟩
          go_wp2_with fail
          refine (iPassAny 45 45 3 (w.heap.size + 1 + 1) w.heap.size g (w.heap.size + 1) t1 (gat 1 r1 l) 0 _ S1 hs1 (by decide) (by decide) (fun h => absurd h (by decide)) (by decide)).mono ?_
          rintro e w3 ⟨⟨v3, rfl⟩, S3, hb3⟩
          have B3 := B1.trans hb3
          have hs3 := fits_any (lo := 45) (hi := 45) (part := 3) hs1 (by decide)
          clear S1 B1 hb3 hs1
          obtain ⟨t3, z3⟩ : ∃ x, ((pss 45 45 3 t1 (gat 1 r1 l)).getD (t1, (gat 1 r1 l))).1 = x := ⟨_, rfl⟩
          obtain ⟨l3, y3⟩ : ∃ x, ((pss 45 45 3 t1 (gat 1 r1 l)).getD (t1, (gat 1 r1 l))).2 = x := ⟨_, rfl⟩
          rw [z3, y3] at S3
          rw [z3, y3] at hs3
          rcases pcase 49 57 t3 with ⟨r4, t4, e4, a4, b4⟩ | n4
          · subst e4
            go_wp2_with fail
            refine (iPassYF 49 57 4 (w.heap.size + 1 + 1) w.heap.size g (w.heap.size + 1) r4 t4 l3 0 _ S3 hs3 a4 b4 (by decide) (by decide) (fun _ => by decide) (by decide)).mono ?_
            rintro e w4 ⟨rfl, S4, hb4⟩
            have B4 := B3.trans hb4
            have hs4 := fits_gat4 hs3 (by omega) (by omega) (by omega)
            clear S3 B3 hb4 hs3
            rcases pcase 48 57 t4 with ⟨r5, t5, e5, a5, b5⟩ | n5
            · subst e5
              go_wp2_with fail
              refine (iPassYF 48 57 4 (w.heap.size + 1 + 1) w.heap.size g (w.heap.size + 1) r5 t5 (gat 4 r4 l3) 9 _ S4 hs4 a5 b5 (by decide) (by decide) (fun _ => by decide) (by decide)).mono ?_
              rintro e w5 ⟨rfl, S5, hb5⟩
              have B5 := B4.trans hb5
              have hs5 := fits_gat4 hs4 (by omega) (by omega) (by omega)
              clear S4 B4 hb5 hs4
              go_wp2_with fail
              refine (iPassAny 48 57 4 (w.heap.size + 1 + 1) w.heap.size g (w.heap.size + 1) t5 (gat 4 r5 (gat 4 r4 l3)) 99 _ S5 hs5 (by decide) (by decide) (fun _ => by decide) (by decide)).mono ?_
              rintro e w6 ⟨⟨v6, rfl⟩, S6, hb6⟩
              have B6 := B5.trans hb6
              have hs6 := hs5
              clear S5 B5 hb6 hs5
              obtain ⟨t6, z6⟩ : ∃ x, ((pss 48 57 4 t5 (gat 4 r5 (gat 4 r4 l3))).getD (t5, (gat 4 r5 (gat 4 r4 l3)))).1 = x := ⟨_, rfl⟩
              obtain ⟨l6, y6⟩ : ∃ x, ((pss 48 57 4 t5 (gat 4 r5 (gat 4 r4 l3))).getD (t5, (gat 4 r5 (gat 4 r4 l3)))).2 = x := ⟨_, rfl⟩
              rw [z6, y6] at S6
              go_wp2_with fail
              go_step3
              have q : fnl t6 l6 = res := by rw [← hres]; simp only [pwr, pss_y (part := 1) a1 b1, pss_n (part := 4) n2, z3, y3, pss_y (part := 4) a4 b4, pss_y (part := 4) a5 b5, z6, y6]
              subst q
              obtain ⟨off, cap, K, hc, -⟩ := S6.left
              have k0 := K.cell 0 _ rfl
              clear K
              go_wp2
              simp only [xJumps]
              go_ret
              exact ⟨by unfold fnl; simp; exact len_nil _, S6.lit, B6⟩
            · go_wp2_with fail
              refine (iPassNo 48 57 4 (w.heap.size + 1 + 1) w.heap.size g (w.heap.size + 1) t4 (gat 4 r4 l3) _ S4 n5).mono ?_
              rintro e w5 ⟨rfl, rfl⟩
              go_wp2_with fail
              go_step3
              have q : fnl t4 (gat 4 r4 l3) = res := by rw [← hres]; simp only [pwr, pss_y (part := 1) a1 b1, pss_n (part := 4) n2, z3, y3, pss_y (part := 4) a4 b4, pss_n (part := 4) n5]
              subst q
              obtain ⟨off, cap, K, hc, -⟩ := S4.left
              have k0 := K.cell 0 _ rfl
              clear K
              go_wp2
              simp only [xJumps]
              go_ret
              exact ⟨by unfold fnl; simp; exact len_nil _, S4.lit, B4⟩
          · go_wp2_with fail
            refine (iPassNo 49 57 4 (w.heap.size + 1 + 1) w.heap.size g (w.heap.size + 1) t3 l3 _ S3 n4).mono ?_
            rintro e w4 ⟨rfl, rfl⟩
            have q : (false, l3) = res := by rw [← hres]; simp only [pwr, pss_y (part := 1) a1 b1, pss_n (part := 4) n2, z3, y3, pss_n (part := 4) n4]
            subst q
            go_wp2
            simp only [xJumps]
            go_ret
            exact ⟨rfl, S3.lit, B3⟩
      · go_wp2_with fail
        refine (iPassNo 101 101 1 (w.heap.size + 1 + 1) w.heap.size g (w.heap.size + 1) rs l _ S n1).mono ?_
        rintro e w1 ⟨rfl, rfl⟩
        have q : fnl rs l = res := by rw [← hres]; simp only [pwr, pss_n (part := 1) n1]
        go_wp2_with fail
        go_step3
        try simp only [xJumps]
        exact ⟨_, by (try simp only [List.length_cons]); omega, ⟨_, _, _, _, _, _, _, _, _, _, _, _, _, _, _, _, _, _, _, _, _, _, _, _, _, _, _, _, _, _, _, _, _, _, _, _, _, rfl⟩, B, _, _, S, .inr (.inr (.inr (.inr ⟨rfl, rfl, q⟩)))⟩
    · refine ⟨_, rfl, ?_⟩
      have q : fnl rs l = res := by rw [← hres]
      subst q
      obtain ⟨off, cap, K, hc, -⟩ := S.left
      have k0 := K.cell 0 _ rfl
      clear K
      go_wp2
      simp only [xJumps]
      go_ret
      exact ⟨by unfold fnl; simp; exact len_nil _, S.lit, B⟩
end Go.Proofs.Ytmpckbgelkfgpaa
