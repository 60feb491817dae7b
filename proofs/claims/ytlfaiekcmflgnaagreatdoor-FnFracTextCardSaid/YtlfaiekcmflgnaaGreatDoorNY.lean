/- Numbers read from decimals: what is read, and the specification's reading. No condition but the text's length. -/
import Derived.Test.YtlfaiekcmflgnaaGreatDoorBC
import Derived.Test.YtlfaiekcmflgnaaGreatDoorBB
import Derived.Test.YtlfaiekcmflgnaaGreatDoorZA
import Derived.Deep.RegionHeld3
namespace Go.Proofs.YtlfaiekcmflgnaaGreatDoor
open Go.RowKit
set_option linter.unusedVariables false
set_option maxRecDepth 100000

/-- the number of the first k signs -/
def nv (s : ByteArray) : Nat → Nat
  | 0 => 0
  | k + 1 => nv s k * 10 + ((byt s k).toNat - 48)
theorem nv_lt (s : ByteArray) (k : Nat) : nv s k < 65536 ^ k := by
  induction k with
  | zero => simp [nv]
  | succ k ih =>
    have h := byt_bd s k
    rw [nv, Nat.pow_succ]
    generalize 65536 ^ k = z at *
    omega
def allDg (s : ByteArray) (k : Nat) : Bool := (List.range k).all (fun i => isD (byt s i))
theorem allDg_no {s : ByteArray} {i k : Nat} (h : i < k) (hi : isD (byt s i) = false) : allDg s k = false := by
  unfold allDg
  rw [List.all_eq_false]
  exact ⟨i, by simpa using h, by simpa using hi⟩
theorem allDg_yes {s : ByteArray} {k : Nat} (h : ∀ i, i < k → isD (byt s i) = true) : allDg s k = true := by
  unfold allDg
  rw [List.all_eq_true]
  intro i hi
  exact h i (by simpa using hi)
theorem allDg_at {s : ByteArray} {k i : Nat} (h : allDg s k = true) (hi : i < k) : isD (byt s i) = true := by
  unfold allDg at h
  rw [List.all_eq_true] at h
  exact h i (by simpa using hi)
/-- whether a text is decimals -/
def decB (s : ByteArray) : Bool := decide (s.size ≠ 0) && (decide (s.size = 1 ∨ byt s 0 ≠ 48) && allDg s s.size)
def rdB (s : ByteArray) : Bool := decide (s.size ≤ 1300) && (decB s && fitsB (nv s s.size))
theorem isD_b {n : Int} (h : isD n = true) : 48 ≤ n ∧ n ≤ 57 := by unfold isD at h; simpa using h
theorem isD_n {n : Int} (h : isD n = false) : n < 48 ∨ 57 < n := by unfold isD at h; simp at h; omega
set_option maxRecDepth 100000 in
set_option maxHeartbeats 4000000 in
theorem sNatRead (s : ByteArray) (hs : s.size ≤ maxLen) (w : World) :
    Calls Tryz.prog 15 #[.string s] w fun e w' => (∃ av cv, e = .returned (.tuple #[.slice av (resN (rdB s) (nv s s.size)).length cv, .bool (rdB s)]) ∧ OI w' w.heap.size av cv (resN (rdB s) (nv s s.size))) ∧ Below w.heap.size w w' := by
  unfold maxLen at hs
  have no : ∀ {r : Bool}, r = false → Calls Tryz.prog 15 #[.string s] w (fun e w' => (∃ av cv, e = .returned (.tuple #[.slice av 0 cv, .bool false]) ∧ OI w' w.heap.size av cv []) ∧ Below w.heap.size w w') → r = rdB s → Calls Tryz.prog 15 #[.string s] w fun e w' => (∃ av cv, e = .returned (.tuple #[.slice av (resN (rdB s) (nv s s.size)).length cv, .bool (rdB s)]) ∧ OI w' w.heap.size av cv (resN (rdB s) (nv s s.size))) ∧ Below w.heap.size w w' := by
    intro r h1 h2 h3
    rw [← h3, h1]
    exact h2
  by_cases h0 : s.size = 0
  · refine no rfl ?_ (by unfold rdB decB; simp [h0])
    have h0' : (s.size : Int) = 0 := by omega
    go_enter Tryz.func15, Tryz.ntmps15
    go_wp2
    go_ret2
    exact ⟨⟨_, _, rfl, OI.none _ _⟩, Below.refl _ _⟩
  have h0' : ¬ (s.size : Int) = 0 := by omega
  by_cases hl : 1300 < s.size
  · refine no rfl ?_ (by unfold rdB; rw [decide_eq_false (show ¬ s.size ≤ 1300 by omega)]; rfl)
    have hl' : (1300 : Int) < (s.size : Int) := by omega
    go_enter Tryz.func15, Tryz.ntmps15
    go_wp2
    go_ret2
    exact ⟨⟨_, _, rfl, OI.none _ _⟩, Below.refl _ _⟩
  have hl' : ¬ (1300 : Int) < (s.size : Int) := by omega
  have ix := idxS0 Tryz.underlying9 s (by omega)
  have b0 := byt_bd s 0
  by_cases hz : s.size ≠ 1 ∧ byt s 0 = 48
  · refine no rfl ?_ (by unfold rdB decB; simp [hz.1, hz.2])
    have h1 : (1 : Int) < (s.size : Int) := by have := hz.1; omega
    have h2 := hz.2
    go_enter Tryz.func15, Tryz.ntmps15
    go_wp2
    go_ret2
    exact ⟨⟨_, _, rfl, OI.none _ _⟩, Below.refl _ _⟩
  have hz' : ¬ (1 : Int) < (s.size : Int) ∨ ((1 : Int) < (s.size : Int) ∧ ¬ byt s 0 = 48) := by
    by_cases h1 : s.size = 1
    · left; omega
    · right; exact ⟨by omega, fun h => hz ⟨h1, h⟩⟩
  have hok : Hid (∀ r, allDg s s.size = r → rdB s = (r && fitsB (nv s s.size))) := fun r h => by
    unfold rdB decB
    have e : decide (s.size = 1 ∨ byt s 0 ≠ 48) = true := by simp; by_cases h1 : s.size = 1; exact .inl h1; exact .inr (fun h => hz ⟨h1, h⟩)
    rw [e, h, decide_eq_true (show s.size ≤ 1300 by omega), decide_eq_true h0]
    simp
  clear hz
  obtain ⟨res, hres⟩ : ∃ r, rdB s = r := ⟨_, rfl⟩
  obtain ⟨V, hV⟩ : ∃ V, nv s s.size = V := ⟨_, rfl⟩
  rw [hres, hV]
  have hno : Hid (∀ i, i < s.size → isD (byt s i) = false → res = false) := fun i h1 h2 => by rw [← hres, hok.out _ (allDg_no h1 h2)]; rfl
  have hyes : Hid ((∀ i, i < s.size → isD (byt s i) = true) → res = fitsB V) := fun h => by rw [← hres, ← hV, hok.out _ (allDg_yes h)]; simp
  have hV' := hd hV
  clear hok hres hV
  have hz'' : ¬ (1 : Int) < (s.size : Int) ∨ ((1 : Int) < (s.size : Int) ∧ (byt s 0 == 48) = false) := hz'.imp id (fun h => ⟨h.1, by simpa using h.2⟩)
  clear hz'
  generalize hb0 : byt s 0 = bz at ix b0 hz''
  clear hb0
  rcases hz'' with hz' | ⟨hz1, hz2⟩
  all_goals
    go_enter Tryz.func15, Tryz.ntmps15
    go_wp2
    go_loopw [4, 5] (fun o i wr => ∃ (k : Nat) (av : Option Addr) (cv : Nat), k ≤ s.size ∧ i = .int .i64 k ∧ o = .slice av (natL (nv s k)).length cv ∧ OI wr w.heap.size av cv (natL (nv s k)) ∧ (∀ j, j < k → isD (byt s j) = true) ∧ Below w.heap.size w wr) (fun _ i _ => s.size - (intOf i).toNat)
    case atStart => exact ⟨0, none, 0, by omega, rfl, by simp [nv, natL_zero], by simp only [nv, natL_zero]; exact OI.none _ _, fun j hj => by omega, Below.refl _ _⟩
    case round =>
      obtain ⟨k, av, cv, hk, rfl, rfl, O, hall, hb⟩ := hrel
      have hall' := hd hall
      clear hall
      by_cases hlt : k < s.size
      · have ik := idxS Tryz.underlying9 s k hlt
        have bk := byt_bd s k
        have hkI : (k : Int) < (s.size : Int) := by omega
        cases hd9 : isD (byt s k)
        · have hr := hno.out k hlt hd9
          have hc := isD_n hd9
          subst hr
          clear hd9
          generalize byt s k = bt at *
          rcases hc with hc | hc
          · go_wp2
            go_ret2
            exact ⟨⟨_, _, rfl, OI.none _ _⟩, hb⟩
          · have hc' : ¬ bt < 48 := by omega
            go_wp2
            go_ret2
            exact ⟨⟨_, _, rfl, OI.none _ _⟩, hb⟩
        · have hc := isD_b hd9
          have hl9 := natL_len.2 (nv_lt s k)
          have T := hd (fun w' (h : OI w' w.heap.size av cv (natL (nv s k))) => sTimes av _ cv (natL (nv s k)) 10 w' h.inI (digs_natL _) (by unfold dig; omega) (by omega))
          have NO := hd (fun w' => sNatOf ((byt s k).toNat - 48) (by omega) w')
          have hn2 : ((((byt s k).toNat - 48 : Nat)) : Int) = byt s k - 48 := by omega
          rw [val_natL, show (10 : Int).toNat = 10 from rfl] at T
          rw [hn2] at NO
          have hl10 : (natL (nv s k * 10)).length ≤ 1400 := Nat.le_trans (natL_len.2 (show nv s k * 10 < 65536 ^ (k + 1) by have := nv_lt s k; rw [Nat.pow_succ]; generalize 65536 ^ k = z at *; omega)) (by omega)
          have hl11 : (natL ((byt s k).toNat - 48)).length ≤ 1 := natL_len.2 (by omega)
          have AD := hd (fun a1 c1 a2 c2 b1 b2 w' (h1 : OI w' b1 a1 c1 (natL (nv s k * 10))) (h2 : OI w' b2 a2 c2 (natL ((byt s k).toNat - 48))) => sAdd a1 a2 _ _ c1 c2 _ _ w' h1.inI h2.inI (digs_natL _) (digs_natL _) (topped_natL _) (topped_natL _) (by omega) (by omega))
          rw [val_natL, val_natL] at AD
          have hl12 : (natL (nv s k * 10 + ((byt s k).toNat - 48))).length ≤ 1400 := Nat.le_trans (natL_len.2 (nv_lt s (k + 1))) (by omega)
          have TR := hd (fun a1 c1 b1 w' (h1 : OI w' b1 a1 c1 (natL (nv s k * 10 + ((byt s k).toNat - 48)))) => sTrim a1 _ c1 _ w' h1.inI (digs_natL _) (by omega))
          rw [val_natL] at TR
          have hst : Hid (nv s (k + 1) = nv s k * 10 + ((byt s k).toNat - 48)) := rfl
          have hal2 : Hid (∀ j, j < k + 1 → isD (byt s j) = true) := fun j hj => by
            by_cases e : j = k
            · subst e; exact hd9
            · exact hall'.out j (by omega)
          clear hl9 hl10 hl11 hl12 hn2 hd9
          generalize natL (nv s k * 10) = l1 at *
          generalize natL ((byt s k).toNat - 48) = l2 at *
          generalize hl3 : natL (nv s k * 10 + ((byt s k).toNat - 48)) = l3 at *
          generalize natL (nv s k) = l0 at *
          generalize hbt : byt s k = bt at *
          have hl3' := hd hl3
          clear hl3
          have q1 : ¬ bt < 48 := by omega
          have q2 : ¬ bt > 57 := by omega
          have z0 := hb.size
          obtain ⟨hc1, hc2⟩ := hc
          have hw1 : IntKind.u8.wrap (bt - 48) = bt - 48 := by rw [IntKind.wrap_u8]; omega
          have hw2 : IntKind.u64.wrap (bt - 48) = bt - 48 := by rw [IntKind.wrap_u64]; omega
          go_wp2_with fail
          go_region_held3 (fun w' => w.heap.size ≤ w'.heap.size) (go_keep) (first | (go_at_call 36; refine (T.out _ O.drew).mono ?_; rintro e w1 ⟨⟨a1, c1, rfl, O1⟩, hb1⟩; have z1 := Nat.le_trans z0 hb1.size) | (go_at_call 37; refine (NO.out _).mono ?_; rintro e w2 ⟨⟨a2, c2, rfl, O2⟩, hb2⟩; have z2 := Nat.le_trans z1 hb2.size) | (go_at_call 35; refine (AD.out _ _ _ _ _ _ _ (O1.later hb2) O2).mono ?_; rintro e w3 ⟨⟨a3, c3, rfl, O3⟩, hb3⟩; have z3 := Nat.le_trans z2 hb3.size) | (go_at_call 34; refine (TR.out _ _ _ _ O3).mono ?_; rintro e w4 ⟨⟨a4, c4, rfl, O4⟩, hb4⟩; have z4 := Nat.le_trans z3 hb4.size))
          all_goals
            have hB4 := old_trans (old_trans (old_trans (old_trans (Below.drew hb) hb1) hb2) hb3) hb4
            have s3 := (old_trans (old_trans (old_trans (Below.drew hb) hb1) hb2) hb3).size
            go_wp2
            go_roundw
            case rel => exact ⟨k + 1, a4, c4, by omega, by go_num, by rw [hst.out, hl3'.out], by rw [hst.out, hl3'.out]; exact O4.mono s3, hal2.out, hB4⟩
            case measure => simp [intOf]; omega
      · obtain rfl : k = s.size := by omega
        have hv := hV'.out
        have hr := hyes.out hall'.out
        subst hr
        rw [hv] at O ⊢
        have F := hd (fun w' (h : OI w' w.heap.size av cv (natL V)) => sFits w.heap.size av cv V w' h)
        have hni : ¬ ((s.size : Int) < (s.size : Int)) := by omega
        go_wp2_with fail
        refine (F.out _ O).mono ?_
        rintro e w1 ⟨⟨a1, c1, rfl, O1⟩, rfl⟩
        go_wp2
        go_ret2
        exact ⟨⟨_, _, rfl, O1⟩, hb⟩
end Go.Proofs.YtlfaiekcmflgnaaGreatDoor
