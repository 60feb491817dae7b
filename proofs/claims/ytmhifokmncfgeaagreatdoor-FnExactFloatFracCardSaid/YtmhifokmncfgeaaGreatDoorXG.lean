/- The value of a float as the specification has it: above and below a line. Nothing that was there is written. -/
import Derived.Test.YtmhifokmncfgeaaGreatDoorXF
import Derived.Test.YtmhifokmncfgeaaGreatDoorV5
namespace Go.Proofs.YtmhifokmncfgeaaGreatDoor
open Go.RowKit
set_option linter.unusedVariables false
set_option maxRecDepth 100000

theorem Cel3.alloc {w : World} {b : Nat} {x y z : Value} (h : Cel3 w b x y z) (o : Obj) : Cel3 (w.alloc o) b x y z := h.old (old_alloc (Below.refl _ _) _)
theorem Cel3.later {w w' : World} {b : Nat} {x y z : Value} (h : Cel3 w b x y z) (g : Below w.heap.size w w') : Cel3 w' b x y z := h.old g
theorem one_oiG (w : World) (t : TypeId) : OI (w.alloc (.cells #[.int .i64 1] t)) w.heap.size (some ⟨w.heap.size, 0, none⟩) 1 [1] := by
  have h := one_oi w t
  rw [natL_one] at h
  exact h
theorem c7a (w : World) (o1 : Obj) (x y z : Value) (t : TypeId) : Cel3 ((w.alloc o1).alloc (.cells #[x, y, z] t)) (w.heap.size + 1) x y z := by
  have h := Cel3.new (w.alloc o1) x y z t
  rw [World.size_alloc] at h
  exact h
theorem one_b (w : World) (o1 : Obj) (t : TypeId) : OI ((w.alloc o1).alloc (.cells #[.int .i64 1] t)) (w.heap.size + 1) (some ⟨w.heap.size + 1, 0, none⟩) 1 [1] := by
  have h := one_oiG (w.alloc o1) t
  rw [World.size_alloc] at h
  exact h
theorem one_d (w : World) (b : Nat) (x y z : Value) (t : TypeId) : OI ((((w.setCell ⟨b, 0, none⟩ x).setCell ⟨b, 1, none⟩ y).setCell ⟨b, 2, none⟩ z).alloc (.cells #[.int .i64 1] t)) w.heap.size (some ⟨w.heap.size, 0, none⟩) 1 [1] := by
  have h := one_oiG (((w.setCell ⟨b, 0, none⟩ x).setCell ⟨b, 1, none⟩ y).setCell ⟨b, 2, none⟩ z) t
  rw [setCell_size, setCell_size, setCell_size] at h
  exact h
theorem three_set {w : World} {p b : Nat} {x y z v0 v1 v2 : Value} (h : w.cell? ⟨p, 0, none⟩ = some x ∧ w.cell? ⟨p, 1, none⟩ = some y ∧ w.cell? ⟨p, 2, none⟩ = some z) (hn : p ≠ b) :
    (((w.setCell ⟨b, 0, none⟩ v0).setCell ⟨b, 1, none⟩ v1).setCell ⟨b, 2, none⟩ v2).cell? ⟨p, 0, none⟩ = some x ∧ (((w.setCell ⟨b, 0, none⟩ v0).setCell ⟨b, 1, none⟩ v1).setCell ⟨b, 2, none⟩ v2).cell? ⟨p, 1, none⟩ = some y ∧ (((w.setCell ⟨b, 0, none⟩ v0).setCell ⟨b, 1, none⟩ v1).setCell ⟨b, 2, none⟩ v2).cell? ⟨p, 2, none⟩ = some z := by
  have o : ∀ (W : World) (i j : Nat) (v : Value), (W.setCell ⟨b, i, none⟩ v).cell? ⟨p, j, none⟩ = W.cell? ⟨p, j, none⟩ := fun W i j v => World.cell?_setCell_other _ _ _ _ (by intro h; injection h with h2 _; omega)
  simp only [o]
  exact h
/-- a list whose numbers lie in no cell of block b -/
def Off (av : Option Addr) (b : Nat) : Prop := ∀ q, av = some q → q.block ≠ b
theorem OI.offLo {w : World} {base cv b : Nat} {av : Option Addr} {xs : List Int} (h : OI w base av cv xs) (hb : b < base) : Off av b := fun q e => by have := h.ge q e; omega
theorem offOne {k b : Nat} (h : k ≠ b) : Off (some ⟨k, 0, none⟩) b := fun q e => by cases e; exact h
theorem OI.offHi {w : World} {base cv b : Nat} {av : Option Addr} {xs : List Int} (h : OI w base av cv xs) (hb : w.heap.size ≤ b) : Off av b := fun q e => by have := h.lt q e; omega
theorem InI.off {w : World} {a : Option Addr} {len cap b i : Nat} {xs : List Int} {v : Value} (h : InI w a len cap xs) (ho : Off a b) : InI (w.setCell ⟨b, i, none⟩ v) a len cap xs := by
  obtain ⟨h1, h2, h3, h4, h5⟩ := h
  refine ⟨h1, h2, h3, h4, ?_⟩
  rcases h5 with h5 | ⟨bb, off, q1, q2, q3⟩
  · exact .inl h5
  · have hn : bb ≠ b := ho _ q1
    refine .inr ⟨bb, off, q1, by simpa [World.setCell] using q2, fun i hi => ?_⟩
    rw [World.cell?_setCell_other _ _ _ _ (by intro h; injection h with h _; exact hn h.symm)]
    exact q3 i hi

theorem pow_lenF {j k : Nat} (h : j < 16 * k) : (natL (2 ^ j)).length ≤ k := natL_len2 (Nat.pow_lt_pow_right (by omega) h)
theorem sPow2N (k : Nat) (hk : k ≤ 1100) (w : World) :
    Calls Tryz.prog 82 #[.int .i64 (k : Int)] w fun e w' => (∃ av cv, e = .returned (.slice av (natL (2 ^ k)).length cv) ∧ OI w' w.heap.size av cv (natL (2 ^ k))) ∧ Below w.heap.size w w' := by
  have h := sPow2 (k / 16) (k % 16) w (by omega) (by omega)
  have e1 : (16 * ((k / 16 : Nat) : Int) + ((k % 16 : Nat) : Int)) = (k : Int) := by omega
  have e2 : 65536 ^ (k / 16) * 2 ^ (k % 16) = 2 ^ k := by rw [pow_16, show 16 * (k / 16) + k % 16 = k by omega]
  rw [e1, e2] at h
  exact h
theorem resL8 {W : World} {b : Nat} {v0 v1 v2 : Value} {tmps : Array Value} (h : Cel3 W b v0 v1 v2) (ht : tmps[4]? = some (.pointer (some ⟨b, 0, none⟩))) : (results Tryz.f41 tmps).run Tryz.prog W = .ok (.agg #[v0, v1, v2]) W := by
  obtain ⟨-, ⟨a0, a1, a2⟩, -⟩ := h
  simp [results, Tryz.results41, go_sem, a0, a1, a2, ht]
set_option maxHeartbeats 4000000 in
theorem l8_cut (wd n p : Int) (s : Nat) (g : Bool) (hs : s < 9007199254740992) (hp : -1100 ≤ p ∧ p ≤ 1100) (w : World)
    (PT : Hid (∀ w, Calls Tryz.prog 40 #[.int .i64 wd, .int .i64 n] w fun e w' => e = .returned (.tuple #[.agg #[.bool g, .int .u64 (s : Int), .int .i64 p], .bool true]) ∧ Below w.heap.size w w')) :
    Calls Tryz.prog 41 #[.int .i64 wd, .int .i64 n] w fun e w' => (∃ av cv bv dv, e = .returned (.agg #[.bool g, .slice av (natL (vA s p)).length cv, .slice bv (natL (vB p)).length dv]) ∧ InI w' av (natL (vA s p)).length cv (natL (vA s p)) ∧ InI w' bv (natL (vB p)).length dv (natL (vB p))) ∧ Below w.heap.size w w' := by
  have NO := hd (sNatOf s (by omega))
  have K := Cel3.new w (.bool false) (.slice none 0 0) (.slice none 0 0) 67
  have hB : Below w.heap.size w (w.alloc (.cells #[.bool false, .slice none 0 0, .slice none 0 0] 67)) := (by repeat (first | exact Below.refl _ _ | refine Below.drew ?_ | refine old_alloc ?_ _ | refine old_trans ?_ (by assumption)))
  go_enter Tryz.func41, Tryz.ntmps41
  go_wp2_with fail
  refine (PT.out _).mono ?_
  rintro e w1 ⟨rfl, hb1⟩
  replace K := K.old hb1
  replace hB := old_trans hB hb1
  clear hb1 PT
  have hlt := K.1
  have P3 := Cel3.new w1 (.bool g) (.int .u64 (s : Int)) (.int .i64 p) 63
  have hS : (w1.alloc (.cells #[.bool g, .int .u64 (s : Int), .int .i64 p] 63)).cell? ⟨w1.heap.size, 0, none⟩ = some (.bool g) ∧ (w1.alloc (.cells #[.bool g, .int .u64 (s : Int), .int .i64 p] 63)).cell? ⟨w1.heap.size, 1, none⟩ = some (.int .u64 (s : Int)) ∧ (w1.alloc (.cells #[.bool g, .int .u64 (s : Int), .int .i64 p] 63)).cell? ⟨w1.heap.size, 2, none⟩ = some (.int .i64 p) := P3.2.1
  have ha : Below w1.heap.size w1 (w1.alloc (.cells #[.bool g, .int .u64 (s : Int), .int .i64 p] 63)) := old_alloc (Below.refl _ _) _
  replace K := K.old ha
  replace hB := old_trans hB ha
  have hpl := P3.1
  clear P3 ha
  go_upto_region 2 with fail
  generalize w1.alloc (.cells #[.bool g, .int .u64 (s : Int), .int .i64 p] 63) = W at *
  generalize w1.heap.size = PB at *
  go_cut [7] (fun v wx => ∃ bk av cv bv dv, v = .pointer (some ⟨bk, 0, none⟩) ∧ Cel3 wx bk (.bool g) (.slice av (natL s).length cv) (.slice bv 1 dv) ∧ (InI wx av (natL s).length cv (natL s) ∧ InI wx bv 1 dv [1]) ∧ ((Off av bk ∧ Off bv bk) ∧ Off av w.heap.size ∧ Off bv w.heap.size) ∧ (wx.cell? ⟨PB, 0, none⟩ = some (.bool g) ∧ wx.cell? ⟨PB, 1, none⟩ = some (.int .u64 (s : Int)) ∧ wx.cell? ⟨PB, 2, none⟩ = some (.int .i64 p)) ∧ (PB ≠ bk ∧ w.heap.size ≠ bk ∧ w.heap.size ≤ bk) ∧ Cel3 wx w.heap.size (.bool false) (.slice none 0 0) (.slice none 0 0) ∧ Below w.heap.size w wx)
  case first =>
    have CN := hd (fun w' (hS : w'.cell? ⟨PB, 0, none⟩ = some (.bool g) ∧ w'.cell? ⟨PB, 1, none⟩ = some (.int .u64 (s : Int)) ∧ w'.cell? ⟨PB, 2, none⟩ = some (.int .i64 p)) => (NO.out w').mono (fun e w'' (k : _ ∧ _) => (⟨k, three_later hS k.2⟩ : (_ ∧ _) ∧ (w''.cell? ⟨PB, 0, none⟩ = some (.bool g) ∧ w''.cell? ⟨PB, 1, none⟩ = some (.int .u64 (s : Int)) ∧ w''.cell? ⟨PB, 2, none⟩ = some (.int .i64 p)))))
    clear NO
    obtain ⟨h0, h1, h2⟩ := id hS
    have z1 := Nat.ne_of_lt hpl
    have z2 := Nat.ne_of_gt hpl
    have z3 := Nat.ne_of_lt K.1
    have z4 := Nat.ne_of_gt K.1
    have wlt := K.1
    have z5 : PB ≠ W.heap.size + 1 := by omega
    have z6 := z5.symm
    have z7 : w.heap.size ≠ W.heap.size + 1 := by have := K.1; omega
    have z8 := z7.symm
    go_wp2_with fail
    go_region_held3 (fun w' => w'.cell? ⟨PB, 0, none⟩ = some (.bool g) ∧ w'.cell? ⟨PB, 1, none⟩ = some (.int .u64 (s : Int)) ∧ w'.cell? ⟨PB, 2, none⟩ = some (.int .i64 p)) (go_keep) (first | (go_at_call 80; refine (CN.out _ (by assumption)).mono ?_; rintro e wx ⟨⟨⟨av, cv, rfl, A⟩, hbx⟩, hcx⟩; have hB := (by first | exact old_trans hB hbx | exact old_trans (Below.drew hB) hbx | exact old_trans (old_alloc hB _) hbx | exact old_trans (Below.drew (old_alloc hB _)) hbx | exact old_trans (old_alloc (old_alloc hB _) _) hbx | exact old_trans (Below.drew (old_alloc (old_alloc hB _) _)) hbx : Below w.heap.size w wx); have K := (by first | exact K.later hbx | exact K.drew.later hbx | exact (K.alloc _).later hbx | exact (K.alloc _).drew.later hbx | exact ((K.alloc _).alloc _).later hbx | exact ((K.alloc _).alloc _).drew.later hbx : Cel3 wx w.heap.size _ _ _); (first | (have Q1 := (by first | exact (one_oiG _ _).later hbx | exact (one_oiG _ _).drew.later hbx | exact ((one_oiG _ _).alloc _).later hbx | exact ((one_oiG _ _).alloc _).drew.later hbx : OI wx _ (some ⟨_, 0, none⟩) 1 [1]); (try simp only [World.size_alloc] at Q1)) | skip); (first | (have Q7 := (by first | exact (Cel3.new _ _ _ _ _).later hbx | exact (Cel3.new _ _ _ _ _).drew.later hbx | exact ((Cel3.new _ _ _ _ _).alloc _).later hbx | exact ((Cel3.new _ _ _ _ _).alloc _).drew.later hbx : Cel3 wx _ (.bool false) (.slice none 0 0) (.slice none 0 0)); (try simp only [World.size_alloc] at Q7); obtain ⟨v1, ⟨v2, v3, v4⟩, v5, v6, v7⟩ := id Q7; have vz := Nat.ne_of_lt v1; have vz' := Nat.ne_of_gt v1) | skip); have wlx := K.1; have kz := Nat.ne_of_lt K.1; have kz' := Nat.ne_of_gt K.1; have pl : PB < wx.heap.size := World.block_lt_of_cell? wx _ hcx.1; have pz := Nat.ne_of_lt pl; have pz' := Nat.ne_of_gt pl; have py : PB ≠ wx.heap.size + 1 := (by omega); have py' := py.symm; have ky : w.heap.size ≠ wx.heap.size + 1 := (by have := K.1; omega); have ky' := ky.symm))
    · go_wp2_with fail
      go_meet
      exact ⟨_, av, cv, some ⟨wx.heap.size, 0, none⟩, 1, rfl, c7a _ _ _ _ _ _, ⟨((A.alloc _).alloc _).inI, ((one_oiG wx _).alloc _).inI⟩, ⟨⟨A.offHi (by omega), offOne (by omega)⟩, A.offLo (by first | exact wlt | (simp; omega)), offOne (by omega)⟩, three_later hcx (old_alloc (old_alloc (Below.refl _ _) _) _), ⟨py, ky, by omega⟩, (K.alloc _).alloc _, old_alloc (old_alloc hB _) _⟩
    · go_wp2_with fail
      go_meet
      exact ⟨_, av, cv, some ⟨wx.heap.size + 1, 0, none⟩, 1, rfl, (Cel3.new wx _ _ _ _).alloc _, ⟨((A.alloc _).alloc _).inI, (one_b wx _ _).inI⟩, ⟨⟨A.offHi (Nat.le_refl _), offOne (by omega)⟩, A.offLo (by first | exact wlt | (simp; omega)), offOne (by omega)⟩, three_later hcx (old_alloc (old_alloc (Below.refl _ _) _) _), ⟨pz, kz, by omega⟩, (K.alloc _).alloc _, old_alloc (old_alloc hB _) _⟩
    · go_wp2_with fail
      go_meet
      exact ⟨_, av, cv, some ⟨W.heap.size, 0, none⟩, 1, rfl, Cel3.new wx _ _ _ _, ⟨(A.alloc _).inI, (Q1.alloc _).inI⟩, ⟨⟨A.offHi (Nat.le_refl _), Q1.offHi (Nat.le_refl _)⟩, A.offLo (by first | exact wlt | (simp; omega)), offOne (by omega)⟩, three_later hcx (old_alloc (Below.refl _ _) _), ⟨pz, kz, by omega⟩, K.alloc _, old_alloc hB _⟩
    · go_wp2_with fail
      go_meet
      have oA : Off av (W.heap.size + 1) := A.offLo (by first | (simp; done) | (simp; omega))
      have oO : Off (some ⟨W.heap.size, 0, none⟩) (W.heap.size + 1) := offOne (by omega)
      have wl : w.heap.size ≤ W.heap.size + 1 := by omega
      exact ⟨_, av, cv, some ⟨W.heap.size, 0, none⟩, 1, rfl, Q7.setAll _ _ _, ⟨((A.inI.off oA).off oA).off oA, ((Q1.inI.off oO).off oO).off oO⟩, ⟨⟨oA, oO⟩, A.offLo (by first | exact wlt | (simp; omega)), offOne (by omega)⟩, three_set hcx z5, ⟨z5, z7, by omega⟩, ((K.far z7).far z7).far z7, below_set (below_set (below_set hB wl _) wl _) wl _⟩
    · go_wp2_with fail
      go_meet
      have oA : Off av W.heap.size := A.offLo (by first | (simp; done) | (simp; omega))
      have wl : w.heap.size ≤ W.heap.size := by omega
      exact ⟨_, av, cv, some ⟨wx.heap.size, 0, none⟩, 1, rfl, (Q7.setAll _ _ _).alloc _, ⟨(((A.inI.off oA).off oA).off oA).old (old_alloc (Below.refl _ _) _), (one_d wx _ _ _ _ _).inI⟩, ⟨⟨oA, offOne (by omega)⟩, A.offLo (by first | exact wlt | (simp; omega)), offOne (by omega)⟩, three_later (three_set hcx z1) (old_alloc (Below.refl _ _) _), ⟨z1, z3, by omega⟩, (((K.far z3).far z3).far z3).alloc _, old_alloc (below_set (below_set (below_set hB wl _) wl _) wl _) _⟩
    · go_wp2_with fail
      go_meet
      have oA : Off av W.heap.size := A.offLo (by first | (simp; done) | (simp; omega))
      have oO : Off (some ⟨W.heap.size + 1, 0, none⟩) W.heap.size := offOne (by omega)
      have wl : w.heap.size ≤ W.heap.size := by omega
      exact ⟨_, av, cv, some ⟨W.heap.size + 1, 0, none⟩, 1, rfl, Q7.setAll _ _ _, ⟨((A.inI.off oA).off oA).off oA, ((Q1.inI.off oO).off oO).off oO⟩, ⟨⟨oA, oO⟩, A.offLo (by first | exact wlt | (simp; omega)), offOne (by omega)⟩, three_set hcx z1, ⟨z1, z3, by omega⟩, ((K.far z3).far z3).far z3, below_set (below_set (below_set hB wl _) wl _) wl _⟩
  case rest =>
    obtain ⟨bk, av, cv, bv, dv, rfl, C, ⟨IA, IB⟩, ⟨⟨oA, oB⟩, oA2, oB2⟩, hS, ⟨nP, nW, hbk0⟩, K, hB⟩ := hcut
    have hcP := hS.2.2
    clear hS NO
    have nP' := nP.symm
    have nW' := nW.symm
    have kl := K.1
    have cl := C.1
    have hbk : w.heap.size ≤ bk := hbk0
    by_cases c : 0 ≤ p
    · have e1 : vA s p = s * 2 ^ p.toNat := by unfold vA; rw [if_pos c, Nat.mul_comm]
      have e2 : vB p = 1 := by unfold vB; rw [if_pos c]
      have PW := fun w => sPow2N p.toNat (by omega) w
      rw [Int.toNat_of_nonneg c] at PW
      have CP := hd (fun w' (hS : w'.cell? ⟨PB, 2, none⟩ = some (.int .i64 p)) => (PW w').mono (fun e w'' (k : _ ∧ _) => (⟨k, cell_later k.2 hS⟩ : (_ ∧ _) ∧ (w''.cell? ⟨PB, 2, none⟩ = some (.int .i64 p)))))
      have e3 : val (natL s) * val (natL (2 ^ p.toNat)) = vA s p := by rw [val_natL, val_natL, e1]
      have hpl : (natL (2 ^ p.toNat)).length ≤ 524288 := Nat.le_trans (pow_lenF (k := 1024) (by omega)) (by omega)
      have MU0 := fun b cb w' (hA : InI w' av (natL s).length cv (natL s)) (hB : InI w' b (natL (2 ^ p.toNat)).length cb (natL (2 ^ p.toNat))) => sMul av b (natL s).length (natL (2 ^ p.toNat)).length cv cb (natL s) (natL (2 ^ p.toNat)) w' hA hB (digs_natL s) (digs_natL _) (Nat.le_trans (natL_small hs) (by omega)) hpl
      rw [e3] at MU0
      have MU := hd (fun b cb w' hA hB (hS : w'.cell? ⟨PB, 2, none⟩ = some (.int .i64 p)) => (MU0 b cb w' hA hB).mono (fun e w'' (k : _ ∧ _) => (⟨k, cell_later k.2 hS⟩ : (_ ∧ _) ∧ (w''.cell? ⟨PB, 2, none⟩ = some (.int .i64 p)))))
      replace e2 := hd e2
      clear e1 e3 MU0 hpl
      clear PW
      obtain ⟨-, ⟨c1, c2, c3⟩, c5, c6, c7⟩ := id C
      go_wp2_with fail
      go_region_with (first | (go_at_call 82; refine (CP.out _ (by assumption)).mono ?_; rintro e wx ⟨⟨⟨pv, pc, rfl, Pw⟩, hbx⟩, hcx⟩; have C := (by first | exact C.old hbx | exact C.drew.old hbx : Cel3 wx bk _ _ _); have K := (by first | exact K.old hbx | exact K.drew.old hbx : Cel3 wx w.heap.size _ _ _); have IA := (by first | exact IA.old hbx | exact InI.old (w := World.drew _) IA hbx : InI wx _ _ _ _); have IB := (by first | exact IB.old hbx | exact InI.old (w := World.drew _) IB hbx : InI wx _ _ _ _); have hB := (by first | exact old_trans hB hbx | exact old_trans (Below.drew hB) hbx : Below w.heap.size w wx); have bl := C.1; have wl := K.1; obtain ⟨-, ⟨c1, c2, c3⟩, c5, c6, c7⟩ := id C) | (go_at_call 81; refine (MU.out _ _ _ (by first | exact IA | exact InI.old (w := World.drew _) IA (Below.refl _ _)) (by first | exact Pw.inI | exact Pw.drew.inI) (by assumption)).mono ?_; rintro e wy ⟨⟨⟨mv, mc, rfl, Mu⟩, hby⟩, hcy⟩; have C := (by first | exact C.old hby | exact C.drew.old hby : Cel3 wy bk _ _ _); have K := (by first | exact K.old hby | exact K.drew.old hby : Cel3 wy w.heap.size _ _ _); have IB := (by first | exact IB.old hby | exact InI.old (w := World.drew _) IB hby : InI wy _ _ _ _); have hB := (by first | exact old_trans hB hby | exact old_trans (Below.drew hB) hby : Below w.heap.size w wy); obtain ⟨-, ⟨c1, c2, c3⟩, c5, c6, c7⟩ := id C))
      all_goals
        have M := C.set1 (.slice mv (natL (vA s p)).length mc)
        have K' := (K.far (c := bk) (i := 1) (v := .slice mv (natL (vA s p)).length mc) nW).setAll (.bool g) (.slice mv (natL (vA s p)).length mc) (.slice bv 1 dv)
        have oM : Off mv bk := Mu.offLo bl
        have oM2 : Off mv w.heap.size := Mu.offLo wl
        have hBF := below_set (below_set (below_set (below_set hB (show w.heap.size ≤ bk from hbk) (i := 1) (.slice mv (natL (vA s p)).length mc)) (Nat.le_refl w.heap.size) (i := 0) (.bool g)) (Nat.le_refl w.heap.size) (i := 1) (.slice mv (natL (vA s p)).length mc)) (Nat.le_refl w.heap.size) (i := 2) (.slice bv 1 dv)
        have JM := (((Mu.inI.off oM (i := 1) (v := .slice mv (natL (vA s p)).length mc)).off oM2 (i := 0) (v := .bool g)).off oM2 (i := 1) (v := .slice mv (natL (vA s p)).length mc)).off oM2 (i := 2) (v := .slice bv 1 dv)
        have JX := (((IB.off oB (i := 1) (v := .slice mv (natL (vA s p)).length mc)).off oB2 (i := 0) (v := .bool g)).off oB2 (i := 1) (v := .slice mv (natL (vA s p)).length mc)).off oB2 (i := 2) (v := .slice bv 1 dv)
        obtain ⟨-, ⟨m1, m2, m3⟩, -⟩ := id M
        obtain ⟨k1, ⟨k2, k3, k4⟩, k5, k6, k7⟩ := id K
        clear Mu IA IB
        go_wp2
        refine bodyPost_ret (resL8 K' rfl) rfl ⟨?_, hBF⟩
        exact ⟨mv, mc, bv, dv, by rw [e2.out, natL_one]; rfl, JM, by rw [e2.out, natL_one]; exact JX⟩
    · have e1 : vA s p = s := by unfold vA; rw [if_neg c]
      have e2 : vB p = 2 ^ (-p).toNat := by unfold vB; rw [if_neg c]
      have PW := fun w => sPow2N (-p).toNat (by omega) w
      rw [Int.toNat_of_nonneg (by omega)] at PW
      replace PW := hd PW
      have c' : p < 0 := by omega
      replace e1 := hd e1
      replace e2 := hd e2
      go_wp2_with fail
      refine (PW.out _).mono ?_
      rintro e wx ⟨⟨mv, mc, rfl, Mu⟩, hbx⟩
      have bl := C.1
      have wl := K.1
      replace C := C.old hbx
      replace K := K.old hbx
      replace IA := IA.old hbx
      replace hB := old_trans hB hbx
      obtain ⟨-, ⟨c1, c2, c3⟩, c5, c6, c7⟩ := id C
      have M := C.set2 (.slice mv (natL (2 ^ (-p).toNat)).length mc)
      have K' := (K.far (c := bk) (i := 2) (v := .slice mv (natL (2 ^ (-p).toNat)).length mc) nW).setAll (.bool g) (.slice av (natL s).length cv) (.slice mv (natL (2 ^ (-p).toNat)).length mc)
      have oM : Off mv bk := Mu.offLo bl
      have oM2 : Off mv w.heap.size := Mu.offLo wl
      have hBF := below_set (below_set (below_set (below_set hB (show w.heap.size ≤ bk from hbk) (i := 2) (.slice mv (natL (2 ^ (-p).toNat)).length mc)) (Nat.le_refl w.heap.size) (i := 0) (.bool g)) (Nat.le_refl w.heap.size) (i := 1) (.slice av (natL s).length cv)) (Nat.le_refl w.heap.size) (i := 2) (.slice mv (natL (2 ^ (-p).toNat)).length mc)
      have JM := (((Mu.inI.off oM (i := 2) (v := .slice mv (natL (2 ^ (-p).toNat)).length mc)).off oM2 (i := 0) (v := .bool g)).off oM2 (i := 1) (v := .slice av (natL s).length cv)).off oM2 (i := 2) (v := .slice mv (natL (2 ^ (-p).toNat)).length mc)
      have JX := (((IA.off oA (i := 2) (v := .slice mv (natL (2 ^ (-p).toNat)).length mc)).off oA2 (i := 0) (v := .bool g)).off oA2 (i := 1) (v := .slice av (natL s).length cv)).off oA2 (i := 2) (v := .slice mv (natL (2 ^ (-p).toNat)).length mc)
      obtain ⟨-, ⟨m1, m2, m3⟩, -⟩ := id M
      obtain ⟨k1, ⟨k2, k3, k4⟩, k5, k6, k7⟩ := id K
      clear Mu IA IB
      go_wp2
      refine bodyPost_ret (resL8 K' rfl) rfl ⟨?_, hBF⟩
      exact ⟨av, cv, mv, mc, by rw [e1.out, e2.out], by rw [e1.out]; exact JX, by rw [e2.out]; exact JM⟩
end Go.Proofs.YtmhifokmncfgeaaGreatDoor
