/- Numbers read from decimals, by the program. No condition but the text's length. -/
import Derived.Test.YtbecopdoibonkaaGreatDoorPK25
import Derived.Test.YtbecopdoibonkaaGreatDoorPK23
namespace Go.Proofs.YtbecopdoibonkaaGreatDoor
open Go.RowKit
set_option linter.unusedVariables false
set_option maxRecDepth 100000

theorem nv_add {s t : ByteArray} {p m : Nat} (h : ∀ j, j < m → byt t j = byt s (p + j)) : nv s (p + m) = nv s p * 10 ^ m + nv t m := by
  induction m with
  | zero => simp [nv]
  | succ m ih =>
    have i1 := ih (fun j hj => h j (by omega))
    rw [show p + (m + 1) = (p + m) + 1 by omega, nv, i1, nv, h m (by omega), Nat.pow_succ, Nat.add_mul, Nat.mul_assoc]
    omega
def strLen : Value → Nat
  | .string u => u.size
  | _ => 0
theorem size_ext (u : ByteArray) (a b : Nat) (hb : b ≤ u.size) : (u.extract a b).size = b - a := by
  rw [ByteArray.size_extract]; omega
theorem byt_ext (u : ByteArray) (a b j : Nat) (hb : b ≤ u.size) (hj : j < b - a) : byt (u.extract a b) j = byt u (a + j) := by
  have h1 : j < (u.extract a b).size := by rw [size_ext u a b hb]; exact hj
  have h2 : a + j < u.size := by omega
  rw [← byt_at _ _ h1, ← byt_at _ _ h2, ByteArray.getElem_extract]
set_option maxRecDepth 100000 in
set_option maxHeartbeats 4000000 in
theorem iDigitsOf (s : ByteArray) (hs : s.size ≤ 1300) (hdg : ∀ i, i < s.size → isD (byt s i) = true) (w : World) :
    Calls Tryz.prog 39 #[.string s] w fun e w' => (∃ av cv, e = .returned (.slice av (natL (nv s s.size)).length cv) ∧ OI w' w.heap.size av cv (natL (nv s s.size))) ∧ Below w.heap.size w w' := by
  have hdg' := hd hdg
  clear hdg
  go_enter Tryz.func39, Tryz.ntmps39
  go_wp2_with fail
  refine (iTenPowers _).mono ?_
  rintro e w1 ⟨rfl, hb1⟩
  have T0 : CS (w1.alloc (.cells #[.int .i64 1, .int .i64 10, .int .i64 100, .int .i64 1000, .int .i64 10000, .int .i64 100000, .int .i64 1000000, .int .i64 10000000, .int .i64 100000000, .int .i64 1000000000, .int .i64 10000000000, .int .i64 100000000000, .int .i64 1000000000000] 105)) w1.heap.size (tenC 12) := by rw [tenC12]; exact CS.made w1 _ rfl #[.int .i64 1, .int .i64 10, .int .i64 100, .int .i64 1000, .int .i64 10000, .int .i64 100000, .int .i64 1000000, .int .i64 10000000, .int .i64 100000000, .int .i64 1000000000, .int .i64 10000000000, .int .i64 100000000000, .int .i64 1000000000000] 105
  have hB0 := old_alloc hb1 (.cells #[.int .i64 1, .int .i64 10, .int .i64 100, .int .i64 1000, .int .i64 10000, .int .i64 100000, .int .i64 1000000, .int .i64 10000000, .int .i64 100000000, .int .i64 1000000000, .int .i64 10000000000, .int .i64 100000000000, .int .i64 1000000000000] 105)
  unfold tenV
  go_wp2
  generalize hW2 : w1.alloc (.cells #[.int .i64 1, .int .i64 10, .int .i64 100, .int .i64 1000, .int .i64 10000, .int .i64 100000, .int .i64 1000000, .int .i64 10000000, .int .i64 100000000, .int .i64 1000000000, .int .i64 10000000000, .int .i64 100000000000, .int .i64 1000000000000] 105) = W2 at *
  go_loopw [0, 4] (fun st n wr => ∃ (p : Nat) (u : ByteArray) (av : Option Addr) (cv : Nat), p ≤ s.size ∧ st = .string u ∧ u.size = s.size - p ∧ (∀ j, j < u.size → byt u j = byt s (p + j)) ∧ n = .slice av (natL (nv s p)).length cv ∧ OI wr w.heap.size av cv (natL (nv s p)) ∧ Below W2.heap.size W2 wr) (fun st _ _ => strLen st)
  case atStart => exact ⟨0, s, none, 0, by omega, rfl, by omega, fun j hj => by rw [Nat.zero_add], by simp [nv, natL_zero], by simp only [nv, natL_zero]; exact OI.none _ _, Below.refl _ _⟩
  case round =>
    obtain ⟨p, u, av, cv, hp, rfl, hus, hub, rfl, O, hb⟩ := hrel
    have hub' := hd hub
    clear hub
    have Tr9 := T0.later hb
    have hBw := old_trans hB0 hb
    by_cases h0 : u.size = 0
    · obtain rfl := size_nilN h0
      have hpe : p = s.size := by omega
      rw [hpe] at O ⊢
      clear hpe
      go_wp2
      go_ret
      exact ⟨⟨_, _, rfl, O⟩, hBw⟩
    · have nB : (u.toList == []) = false := by
        rw [ByteArray.toList_eq]
        simp
        intro e
        apply h0
        show u.data.size = 0
        rw [e]; rfl
      obtain ⟨m, hm⟩ : ∃ m, m = min u.size 12 := ⟨_, rfl⟩
      have hm1 : 1 ≤ m := by omega
      have hm2 : m ≤ 12 := by omega
      have hm3 : m ≤ u.size := by omega
      have hmI : min (u.size : Int) 12 = (m : Int) := by omega
      have hts : (u.extract 0 m).size = m := by rw [size_ext u 0 m hm3]; omega
      have htb : ∀ j, j < m → byt (u.extract 0 m) j = byt s (p + j) := fun j hj => by rw [byt_ext u 0 m j hm3 (by omega), Nat.zero_add]; exact hub'.out j (by omega)
      have htd : ∀ j, j < m → isD (byt (u.extract 0 m) j) = true := fun j hj => by rw [htb j hj]; exact hdg'.out _ (by omega)
      have AT := hd (fun w' => iAtoi (u.extract 0 m) (by omega) (by omega) (fun i hi => htd i (by omega)) w')
      rw [hts] at AT
      have hnt : nv (u.extract 0 m) m < 10 ^ m := nv_ten htd
      have hte : 10 ^ m ≤ 10 ^ 12 := Nat.pow_le_pow_right (by omega) hm2
      have hlp := natL_len.2 (nv_lt s p)
      have TS := hd (fun w' (h : OI w' w.heap.size av cv (natL (nv s p))) => iTimesSmall av _ cv (natL (nv s p)) (10 ^ m) (nv (u.extract 0 m) m) w' h.inI (digs_natL _) (by omega) (by omega) (by omega))
      rw [val_natL, ← nv_add htb] at TS
      have cm := Tr9.cell m _ (tenC_at (by omega))
      rw [if_pos hm2] at cm
      have hrs : (u.extract m u.size).size = s.size - (p + m) := by rw [size_ext u m u.size (Nat.le_refl _)]; omega
      have hrb : Hid (∀ j, j < (u.extract m u.size).size → byt (u.extract m u.size) j = byt s (p + m + j)) := fun j hj => by
        rw [size_ext u m u.size (Nat.le_refl _)] at hj
        rw [byt_ext u m u.size j (Nat.le_refl _) hj, hub'.out _ (by omega), Nat.add_assoc]
      have hrs' := hd hrs
      have hmm : Hid ((u.extract m u.size).size < u.size) := by show _ < _; rw [size_ext u m u.size (Nat.le_refl _)]; omega
      have hpm : Hid (p + m ≤ s.size) := by show _ ≤ _; omega
      clear hlp hnt hte htd htb hrs hts hus
      generalize nv (u.extract 0 m) m = vt at *
      generalize hvI : ((vt : Nat) : Int) = vI at *
      generalize hpw : ((10 ^ m : Nat) : Int) = pw at *
      have i0 : (0 : Int) ≤ (m : Int) := by omega
      have i1 : (m : Int) ≤ (u.size : Int) := by omega
      have i2 : (m : Int) ≤ 12 := by omega
      clear hm hvI hpw
      generalize natL (nv s p) = l0 at *
      go_wp2_with fail
      refine (AT.out _).mono ?_
      rintro e w3 ⟨rfl, hb3⟩
      have cm3 := (hb3.cell (p := ⟨w1.heap.size, m, none⟩) Tr9.lt).trans cm
      go_wp2_with fail
      refine (TS.out _ (O.later hb3)).mono ?_
      rintro e w4 ⟨⟨a4, c4, rfl, O4⟩, hb4⟩
      have s3 := (old_trans hBw hb3).size
      go_wp2
      go_roundw
      case rel => exact ⟨p + m, u.extract m u.size, a4, c4, hpm.out, by simp, hrs'.out, hrb.out, rfl, O4.mono s3, old_trans (old_trans hb hb3) hb4⟩
      case measure => simp [strLen]; have := hmm.out; simp at this ⊢; omega
end Go.Proofs.YtbecopdoibonkaaGreatDoor
