/- How often a number can be halved, and what is left: by the program. Conditions: digits, not 0, 2^16 at most; the library's table holds what its text lays. -/
import Derived.Test.YtgoffjpfddmhhaaGreatDoorPK02
import Derived.Test.YtgoffjpfddmhhaaGreatDoorPK15
namespace Go.Proofs.YtgoffjpfddmhhaaGreatDoor
open Go.RowKit
set_option linter.unusedVariables false
set_option maxRecDepth 100000

theorem val_zero_take {xs : List Int} {k : Nat} (hx : digs xs) (hz : ∀ i, i < k → xs.getD i 0 = 0) (hk : k ≤ xs.length) : val xs = 65536 ^ k * val (xs.drop k) := by
  induction k with
  | zero => simp
  | succ k ih =>
    have h1 := ih (fun i hi => hz i (by omega)) (by omega)
    rw [h1, val_drop (by omega), hz k (by omega)]
    simp only [Int.toNat_zero, Nat.zero_add]
    rw [Nat.pow_succ, Nat.mul_assoc]
set_option maxHeartbeats 2000000 in
theorem iTwos (a : Option Addr) (len cap : Nat) (xs : List Int) (w : World) (hR : InI w a len cap xs) (hx : digs xs) (h0 : val xs ≠ 0) (hl : len ≤ 65536) (hT : Tab w) :
    Calls Tryz.prog 103 #[.slice a len cap] w fun e w' => e = .returned (.int .i64 (twosOf (val xs) : Int)) ∧ w' = w := by
  have hp := hR.1
  have hfin : Hid (∀ k d, k < len → (∀ i, i < k → xs.getD i 0 = 0) → xs.getD k 0 = ((d : Nat) : Int) → d ≠ 0 → d < 65536 → twosOf (val xs) = 16 * k + twosOf d) := by
    intro k d hk hz hd h1 h2
    rw [val_zero_take hx hz (by omega), val_drop (by omega), hd, Int.toNat_natCast, twosOf_shift (by omega), twosOf_digit h1 h2]
  have hnone : Hid (¬ ∀ i, i < len → xs.getD i 0 = 0) := by
    intro hz
    have := val_zero_take hx (k := len) hz (by omega)
    rw [List.drop_of_length_le (by omega)] at this
    exact h0 (by rw [this]; simp [val])
  have TZc := hd (fun n h1 h2 => tz_any n w h1 h2 hT)
  generalize twosOf (val xs) = tw at *
  clear h0 hT
  go_enter Tryz.func103, Tryz.ntmps103
  go_wp2
  go_loopw [3, 8] (fun c i wr => ∃ (k : Nat), k ≤ len ∧ c = .int .i64 (16 * (k : Int)) ∧ i = .int .i64 (k : Int) ∧ (∀ j, j < k → xs.getD j 0 = 0) ∧ wr = w) (fun _ i _ => len - (intOf i).toNat)
  case atStart => exact ⟨0, by omega, rfl, rfl, fun j h => by omega, rfl⟩
  case round =>
    obtain ⟨k, hk, rfl, rfl, hz, hw⟩ := hrel
    obtain rfl : w = wr := hw.symm
    clear hw
    by_cases hlt : k < len
    · obtain ⟨b, off, x, rfl, hbl, hx2, -, c0⟩ := hR.at (k := k) hlt
      have dx := digs_getD hx k
      rw [hx2] at dx
      unfold dig at dx
      obtain ⟨d, rfl⟩ : ∃ d : Nat, x = (d : Int) := ⟨x.toNat, by omega⟩
      have hK : (k : Int) < (len : Int) := by omega
      have hK1 : (k : Int) ≤ 65536 := by omega
      have hK0 : (0 : Int) ≤ (k : Int) := by omega
      by_cases hd0 : d = 0
      · subst hd0
        have hz' : Hid (∀ j, j < k + 1 → xs.getD j 0 = 0) := fun j hj => by
          by_cases e : j = k
          · subst e; exact hx2
          · exact hz j (by omega)
        clear hz hx2 hfin hnone
        go_wp2
        go_roundw
        case rel => exact ⟨k + 1, by omega, by go_num, by go_num, hz'.out, trivial⟩
        case measure => (simp [intOf] <;> omega)
      · have h9 := hfin.out k d hlt hz hx2 hd0 (by omega)
        have hT2 := hd (TZc.out d hd0 (by omega))
        have hlz := twosOf_lt (k := 16) hd0 (by omega)
        have hdb : (d : Int) < 65536 := by omega
        have hd0' : ¬ (d : Int) = 0 := by omega
        have hdn : (0 : Int) ≤ (d : Int) := by omega
        generalize twosOf d = z at *
        generalize hdI : (d : Int) = dI at *
        have hz1 : (z : Int) < 16 := by omega
        have hz0 : (0 : Int) ≤ (z : Int) := by omega
        have h9' : Hid ((tw : Int) = 16 * (k : Int) + (z : Int)) := by show _ = _; omega
        clear h9 hz hx2 hfin hnone TZc hlz
        go_wp2_with (go_at_call 116; refine hT2.out.mono ?_; rintro e w1 ⟨rfl, rfl⟩)
        go_ret
        exact ⟨retI h9'.out, rfl⟩
    · obtain rfl : k = len := by omega
      exact absurd hz hnone.out
theorem two16 (P p : Nat) : 65536 ^ P * 2 ^ p = 2 ^ (16 * P + p) := by rw [Nat.pow_add, show (65536 : Nat) = 2 ^ 16 from rfl, ← Nat.pow_mul]
theorem split16 (k : Nat) : (k : Int) = 16 * ((k / 16 : Nat) : Int) + ((k % 16 : Nat) : Int) := by omega
theorem iDownK (a : Option Addr) (len cap : Nat) (xs : List Int) (k : Nat) (w : World) (hR : InI w a len cap xs) (hx : digs xs) (hk : k ≤ 1048576) (hl : len ≤ 1048576) :
    Calls Tryz.prog 92 #[.slice a len cap, .int .i64 (k : Int)] w fun e w' => (∃ av cv, e = .returned (.slice av (natL (val xs / 2 ^ k)).length cv) ∧ OI w' w.heap.size av cv (natL (val xs / 2 ^ k))) ∧ Below w.heap.size w w' := by
  have h := iDown a len cap xs (k / 16) (k % 16) w hR hx (Nat.mod_lt _ (by omega)) (by omega) hl
  rw [two16, ← split16, show 16 * (k / 16) + k % 16 = k by omega] at h
  exact h
theorem iUpK (a : Option Addr) (len cap : Nat) (xs : List Int) (k : Nat) (w : World) (hR : InI w a len cap xs) (hx : digs xs) (hk : k ≤ 16384) (hl : len ≤ 1048576) :
    Calls Tryz.prog 68 #[.slice a len cap, .int .i64 (k : Int)] w fun e w' => (∃ av cv, e = .returned (.slice av (natL (2 ^ k * val xs)).length cv) ∧ OI w' w.heap.size av cv (natL (2 ^ k * val xs))) ∧ Below w.heap.size w w' := by
  have h := iUp a len cap xs (k / 16) (k % 16) w hR hx (Nat.mod_lt _ (by omega)) (by omega) hl
  rw [two16, ← split16, show 16 * (k / 16) + k % 16 = k by omega] at h
  exact h
theorem twos_bd {xs : List Int} {len : Nat} (hx : digs xs) (hp : xs.length = len) (h0 : val xs ≠ 0) : twosOf (val xs) < 16 * len := by
  refine twosOf_lt h0 ?_
  have := val_lt hx
  rw [hp, show (65536 : Nat) = 2 ^ 16 from rfl, ← Nat.pow_mul] at this
  exact this
set_option maxHeartbeats 1000000 in
theorem iOdd (a : Option Addr) (len cap : Nat) (xs : List Int) (w : World) (hR : InI w a len cap xs) (hx : digs xs) (h0 : val xs ≠ 0) (hl : len ≤ 65536) (hT : Tab w) :
    Calls Tryz.prog 104 #[.slice a len cap] w fun e w' => (∃ av cv, e = .returned (.slice av (natL (oddOf (val xs))).length cv) ∧ OI w' w.heap.size av cv (natL (oddOf (val xs)))) ∧ Below w.heap.size w w' := by
  have T := hd (iTwos a len cap xs w hR hx h0 hl hT)
  have hb := twos_bd hx hR.1 h0
  have D := hd (iDownK a len cap xs (twosOf (val xs)) w hR hx (by omega) (by omega))
  unfold oddOf
  generalize natL (val xs / 2 ^ twosOf (val xs)) = ql at *
  generalize twosOf (val xs) = tw at *
  clear hb
  go_enter Tryz.func104, Tryz.ntmps104
  go_wp2_with fail
  refine T.out.mono ?_
  rintro e w1 ⟨rfl, hw⟩
  obtain rfl : w = w1 := hw.symm
  clear hw
  go_wp2_with fail
  refine D.out.mono ?_
  rintro e w1 ⟨⟨av, cv, rfl, hO⟩, hb1⟩
  go_wp2
  go_ret
  exact ⟨⟨_, _, rfl, hO⟩, hb1⟩
end Go.Proofs.YtgoffjpfddmhhaaGreatDoor

/- The greatest common divisor, by the program. Conditions: digits without needless noughts, 1024 at most; the library's table holds what its text lays. -/
namespace Go.Proofs.YtgoffjpfddmhhaaGreatDoor
open Go.RowKit
set_option linter.unusedVariables false
set_option maxRecDepth 100000

theorem beqF {n : Nat} (h : 0 < n) : ((n : Int) == 0) = false := by simp; omega
theorem min_cast (a b : Nat) : ((min a b : Nat) : Int) = min (a : Int) (b : Int) := by omega
theorem gcd_len {A B : Nat} (h : A = 0 ∨ B = 0) : A + B = Nat.gcd A B := by
  rcases h with rfl | rfl
  · simp
  · simp
theorem natL_len0 {A : Nat} (h : (natL A).length = 0) : A = 0 := by
  apply Nat.eq_zero_of_not_pos
  intro hp
  have := natL_length_pos hp
  omega
set_option maxHeartbeats 4000000 in
theorem iCommonL (a b : Option Addr) (ca cb : Nat) (A B : Nat) (w : World) (hA : InI w a (natL A).length ca (natL A)) (hB : InI w b (natL B).length cb (natL B)) (hla : (natL A).length ≤ 1024) (hlb : (natL B).length ≤ 1024) (hT : Tab w) :
    Calls Tryz.prog 87 #[.slice a (natL A).length ca, .slice b (natL B).length cb] w fun e w' => (∃ av cv, e = .returned (.slice av (natL (Nat.gcd A B)).length cv) ∧ OI w' w.heap.size av cv (natL (Nat.gcd A B))) ∧ Below w.heap.size w w' := by
  by_cases h0 : (natL A).length = 0 ∨ (natL B).length = 0
  · have P := hd (iPlus a b _ _ ca cb _ _ w hA hB (digs_natL A) (digs_natL B) (by omega) (by omega))
    rw [val_natL, val_natL, gcd_len (h0.imp natL_len0 natL_len0)] at P
    generalize natL (Nat.gcd A B) = gl at *
    clear hA hB hla hlb
    generalize (natL A).length = la at *
    generalize (natL B).length = lb at *
    by_cases h1 : la = 0
    · subst h1
      clear h0
      go_enter Tryz.func87, Tryz.ntmps87
      go_wp2_with fail
      refine P.out.mono ?_
      rintro e w1 ⟨⟨av, cv, rfl, hO⟩, hb1⟩
      go_wp2
      go_ret
      exact ⟨⟨_, _, rfl, hO⟩, hb1⟩
    · obtain rfl : lb = 0 := by omega
      have e0 : ((la : Int) == 0) = false := by simp; omega
      clear h0
      go_enter Tryz.func87, Tryz.ntmps87
      go_wp2_with fail
      refine P.out.mono ?_
      rintro e w1 ⟨⟨av, cv, rfl, hO⟩, hb1⟩
      go_wp2
      go_ret
      exact ⟨⟨_, _, rfl, hO⟩, hb1⟩
  · have a0 : A ≠ 0 := fun e => h0 (.inl (by rw [e, natL_zero]; rfl))
    have b0 : B ≠ 0 := fun e => h0 (.inr (by rw [e, natL_zero]; rfl))
    have p1 := natL_length_pos (Nat.pos_of_ne_zero a0)
    have p2 := natL_length_pos (Nat.pos_of_ne_zero b0)
    have T1 := hd (iTwos a _ ca _ w hA (digs_natL A) (by rw [val_natL]; exact a0) (by omega) hT)
    have T2 := hd (iTwos b _ cb _ w hB (digs_natL B) (by rw [val_natL]; exact b0) (by omega) hT)
    have O1 := hd (iOdd a _ ca _ w hA (digs_natL A) (by rw [val_natL]; exact a0) (by omega) hT)
    have O2 := hd (fun w' (h : Below w.heap.size w w') => iOdd b _ cb _ w' (hB.old h) (digs_natL B) (by rw [val_natL]; exact b0) (by omega) (hT.old h))
    have t1 := twos_bd (digs_natL A) rfl (by rw [val_natL]; exact a0)
    have t2 := twos_bd (digs_natL B) rfl (by rw [val_natL]; exact b0)
    rw [val_natL] at T1 T2 O1 O2 t1 t2
    have o1 := oddOf_eq a0
    have o2 := oddOf_eq b0
    have oA : oddOf A ≤ A := Nat.div_le_self _ _
    have oB : oddOf B ≤ B := Nat.div_le_self _ _
    have l1 := Nat.le_trans (natL_le oA) hla
    have l2 := Nat.le_trans (natL_le oB) hlb
    have ob0 : 0 < oddOf B := by omega
    rw [gcd_parts a0 b0]
    have hsh : min (twosOf A) (twosOf B) ≤ 16384 := by omega
    have hmc := min_cast (twosOf A) (twosOf B)
    have UP := hd (fun w' av cv u (h : InI w' av (natL u).length cv (natL u)) (hl : (natL u).length ≤ 1024) => iUpK av _ cv _ (min (twosOf A) (twosOf B)) w' h (digs_natL u) hsh (by omega))
    simp only [val_natL] at UP
    rw [hmc] at UP
    have DV := hd (fun w' av av2 cv cv2 (h : InI w' av (natL (oddOf A)).length cv (natL (oddOf A))) (h2 : InI w' av2 (natL (oddOf B)).length cv2 (natL (oddOf B))) => iDivided av av2 _ _ cv cv2 _ _ w' h h2 (digs_natL _) (digs_natL _) (topped_natL _) (by omega) (by omega) (natL_length_pos ob0))
    rw [val_natL, val_natL] at DV
    have hml := hd (Nat.mod_lt (oddOf A) ob0)
    have l2' := hd l2
    obtain ⟨G, hG⟩ : ∃ G, G = Nat.gcd (oddOf A) (oddOf B) := ⟨_, rfl⟩
    rw [← hG]
    have hG' : Hid (Nat.gcd (oddOf B) (oddOf A % oddOf B) = G) := by
      show _ = _
      rw [hG, Nat.gcd_comm (oddOf A) (oddOf B), Nat.gcd_rec (oddOf B) (oddOf A), Nat.gcd_comm (oddOf A % oddOf B) (oddOf B)]
    have q1 := beqF p1
    have q2 := beqF p2
    clear h0 a0 b0 p1 p2 t1 t2 o1 o2 oA oB l1 l2 hsh hmc hG hA hB hla hlb
    generalize hsI : min (twosOf A) (twosOf B) = sh at *
    generalize hs1 : (twosOf A : Int) = tA at *
    generalize hs2 : (twosOf B : Int) = tB at *
    generalize (natL A).length = la at *
    generalize (natL B).length = lb at *
    clear hsI hs1 hs2
    go_enter Tryz.func87, Tryz.ntmps87
    go_wp2_with fail
    refine T1.out.mono ?_
    rintro e w1 ⟨rfl, hw⟩
    obtain rfl : w = w1 := hw.symm
    clear hw
    go_wp2_with fail
    refine T2.out.mono ?_
    rintro e w1 ⟨rfl, hw⟩
    obtain rfl : w = w1 := hw.symm
    clear hw
    go_wp2_with fail
    refine O1.out.mono ?_
    rintro e w1 ⟨⟨av, cv, rfl, hO⟩, hb1⟩
    go_wp2_with fail
    refine (O2.out _ hb1).mono ?_
    rintro e w2 ⟨⟨av2, cv2, rfl, hO2⟩, hb2⟩
    go_wp2_with fail
    refine (DV.out _ _ _ _ _ (hO.later hb2).inI hO2.inI).mono ?_
    rintro e w3 ⟨⟨av3, cv3, rfl, hO3⟩, hb3⟩
    have hI2 := (hO2.later hb3).inI
    have hI3 := hO3.inI
    have hBB := old_trans (old_trans hb1 hb2) hb3
    clear T1 T2 O1 O2 DV hO hO2 hO3 hb1 hb2 hb3 hT q1 q2
    generalize oddOf A = oA at *
    generalize oddOf B = oB at *
    go_wp2_with fail
    go_loopg [0, 1] (oA % oB) (fun k s t wr => ∃ (u : Nat) (av : Option Addr) (cv : Nat) (av2 : Option Addr) (cv2 : Nat), s = .slice av (natL u).length cv ∧ t = .slice av2 (natL k).length cv2 ∧ InI wr av (natL u).length cv (natL u) ∧ InI wr av2 (natL k).length cv2 (natL k) ∧ Nat.gcd u k = G ∧ k < u ∧ (natL u).length ≤ 1024 ∧ Below w.heap.size w wr)
    case atStart => exact ⟨oB, av2, cv2, av3, cv3, rfl, rfl, hI2, hI3, hG'.out, hml.out, l2'.out, hBB⟩
    case round =>
      clear hI2 hI3 hBB hG' hml l2'
      obtain ⟨u, av4, cv4, av5, cv5, rfl, rfl, hIu, hIk, hg, hku, lu, hB9⟩ := hrel
      by_cases h0 : gk = 0
      · subst h0
        have hgu : Hid (u = G) := by show _ = _; rw [← hg, Nat.gcd_zero_right]
        have e0 : natL 0 = [] := natL_zero
        have U := hd (UP.out wr av4 cv4 u hIu lu)
        rw [e0]
        clear hg lu hku hIk UP hIu
        generalize (natL u).length = lu at *
        go_wp2_with fail
        refine U.out.mono ?_
        rintro e w4 ⟨⟨av6, cv6, rfl, hO6⟩, hb6⟩
        go_wp2
        go_ret
        have h9 : u = G := hgu.out
        subst h9
        exact ⟨⟨_, _, rfl, hO6.mono hB9.size⟩, old_trans hB9 hb6⟩
      · have hkp : 0 < (natL gk).length := natL_length_pos (by omega)
        have NE := hd (iNearer av4 av5 cv4 cv5 u gk wr hIu hIk (by omega) hku (by omega))
        have hpi : (0 : Int) < ((natL gk).length : Int) := by omega
        have hg' := hd hg
        have hlu := hd (fun v (h : v ≤ gk) => Nat.le_trans (natL_le (Nat.le_trans h (Nat.le_of_lt hku))) lu)
        clear hg hku lu h0 hkp hIu hIk UP
        generalize (natL u).length = lu at *
        generalize (natL gk).length = lk at *
        go_wp2_with fail
        refine NE.out.mono ?_
        rintro e w4 ⟨⟨u2, v2, av6, cv6, av7, cv7, rfl, hI6, hI7, hg2, hv2, hvu, hub⟩, hb6⟩
        have hl2 := hd (hlu.out u2 hub)
        have hg3 := hd (hg2.trans hg'.out)
        have hv2' := hd hv2
        have hvu' := hd hvu
        clear hg2 hv2 hvu hub hlu hg' NE
        go_wp2_with fail
        go_roundg v2
        case measure => exact hv2'.out
        case rel => exact ⟨u2, av6, cv6, av7, cv7, rfl, rfl, hI6, hI7, hg3.out, hvu'.out, hl2.out, old_trans hB9 hb6⟩
theorem iCommon (a b : Option Addr) (la lb ca cb : Nat) (xs ys : List Int) (w : World) (hA : InI w a la ca xs) (hB : InI w b lb cb ys) (hx : digs xs) (hy : digs ys) (tx : topped xs) (ty : topped ys) (hla : la ≤ 1024) (hlb : lb ≤ 1024) (hT : Tab w) :
    Calls Tryz.prog 87 #[.slice a la ca, .slice b lb cb] w fun e w' => (∃ av cv, e = .returned (.slice av (natL (Nat.gcd (val xs) (val ys))).length cv) ∧ OI w' w.heap.size av cv (natL (Nat.gcd (val xs) (val ys)))) ∧ Below w.heap.size w w' := by
  obtain ⟨A, rfl⟩ : ∃ A, xs = natL A := ⟨val xs, (natL_canon hx tx).symm⟩
  obtain ⟨B, rfl⟩ : ∃ B, ys = natL B := ⟨val ys, (natL_canon hy ty).symm⟩
  obtain rfl : (natL A).length = la := hA.1
  obtain rfl : (natL B).length = lb := hB.1
  rw [val_natL, val_natL]
  exact iCommonL a b ca cb A B w hA hB hla hlb hT
end Go.Proofs.YtgoffjpfddmhhaaGreatDoor

/- Greatest common divisors of numbers: by the program and by the specification. Condition, of the program: the library's table holds what its text lays. -/
namespace Go.Proofs.YtgoffjpfddmhhaaGreatDoor
open Go.RowKit
set_option linter.unusedVariables false
set_option maxRecDepth 100000

end Go.Proofs.YtgoffjpfddmhhaaGreatDoor
