/- What a scanner gathers of a literal: its decimals, the places behind the point, the sign and the power, by their places. Mathematics alone. -/
import Derived.Test.YtnjdcaidoffhbaaGreatDoorZK
namespace Go.Proofs.YtnjdcaidoffhbaaGreatDoor
open Go.RowKit
set_option linter.unusedVariables false
set_option maxRecDepth 100000

theorem gat1 (r : Int) (l : Lt) : gat 1 r l = l := by unfold gat; simp
theorem gat3 (r : Int) (l : Lt) : gat 3 r l = { l with dn := true } := by unfold gat; simp
theorem gat4 (r : Int) (l : Lt) : gat 4 r l = { l with pw := 10 * l.pw + (r - 48) } := by unfold gat; simp
/-- where the digits of a power begin, behind the mark at k -/
def mnE (s : ByteArray) (k : Nat) : Bool := decide (k + 1 < s.size ∧ byt s (k + 1) = 45)
def atE (s : ByteArray) (k : Nat) : Nat := k + 1 + (if mnE s k then 1 else 0)
def isE (s : ByteArray) (k : Nat) : Bool := decide (k < s.size ∧ byt s k = 101)
def pwE (s : ByteArray) (k : Nat) : Int := if isE s k then nm s (atE s k) (dn s (atE s k)) else 0
def dnE (s : ByteArray) (k : Nat) : Bool := isE s k && mnE s k
theorem pow_tail_f {s : ByteArray} {a : Nat} {l : Lt} (hl : l.pw = 0) (h : at' s a 49 57)
    (ok : okR (match pss 48 57 4 (D s (a + 1)) (gat 4 (byt s a) l) with
        | none => fnl (D s (a + 1)) (gat 4 (byt s a) l)
        | some z => fnl ((pss 48 57 4 z.1 z.2).getD z).1 ((pss 48 57 4 z.1 z.2).getD z).2)) :
    (match pss 48 57 4 (D s (a + 1)) (gat 4 (byt s a) l) with
        | none => fnl (D s (a + 1)) (gat 4 (byt s a) l)
        | some z => fnl ((pss 48 57 4 z.1 z.2).getD z).1 ((pss 48 57 4 z.1 z.2).getD z).2).2 = { l with pw := nm s a (dn s a) } := by
  have d0 : dig' s a := ⟨h.1, by have := h.2; omega, h.2.2⟩
  have p1 : gat 4 (byt s a) l = { l with pw := nm s a 1 } := by rw [gat4, hl]; unfold nm nm; simp
  rw [p1] at ok ⊢
  by_cases h2 : dig' s (a + 1)
  · rw [pss_at h2] at ok ⊢
    dsimp only at ok ⊢
    have p2 : gat 4 (byt s (a + 1)) { l with pw := nm s a 1 } = { l with pw := nm s a 2 } := by rw [gat4]; rfl
    rw [p2] at ok ⊢
    by_cases h3 : dig' s (a + 1 + 1)
    · rw [pss_at h3] at ok ⊢
      dsimp only [Option.getD_some] at ok ⊢
      have p3 : gat 4 (byt s (a + 1 + 1)) { l with pw := nm s a 2 } = { l with pw := nm s a 3 } := by rw [gat4]; rfl
      rw [p3] at ok ⊢
      have e3 : dn s a = dn s (a + 1 + 1 + 1) + 3 := by rw [dn_yes d0, dn_yes h2, dn_yes h3]
      rw [okR_fnl (by have := h3.1; omega)] at ok
      have h4 : ¬ dig' s (a + 1 + 1 + 1) := fun c => by have := c.1; omega
      rw [dn_no h4] at e3
      rw [e3]; rfl
    · rw [pss_off h3]
      dsimp only [Option.getD_none]
      have e3 : dn s a = 2 := by rw [dn_yes d0, dn_yes h2, dn_no h3]
      rw [e3]; rfl
  · rw [pss_off h2]
    dsimp only
    have e3 : dn s a = 1 := by rw [dn_yes d0, dn_no h2]
    rw [e3]; rfl
theorem pow_sign_f {s : ByteArray} {a : Nat} {l : Lt} (hl : l.pw = 0) (x : List Int × Lt) (ex : x = (D s a, l))
    (ok : okR (match pss 49 57 4 x.1 x.2 with
      | none => (false, x.2)
      | some y => match pss 48 57 4 y.1 y.2 with
        | none => fnl y.1 y.2
        | some z => fnl ((pss 48 57 4 z.1 z.2).getD z).1 ((pss 48 57 4 z.1 z.2).getD z).2)) :
    (match pss 49 57 4 x.1 x.2 with
      | none => (false, x.2)
      | some y => match pss 48 57 4 y.1 y.2 with
        | none => fnl y.1 y.2
        | some z => fnl ((pss 48 57 4 z.1 z.2).getD z).1 ((pss 48 57 4 z.1 z.2).getD z).2).2 = { l with pw := nm s a (dn s a) } := by
  subst ex
  by_cases h : at' s a 49 57
  · dsimp only at ok ⊢
    rw [pss_at h] at ok ⊢
    dsimp only at ok ⊢
    exact pow_tail_f hl h ok
  · dsimp only at ok ⊢
    rw [pss_off h] at ok
    exact absurd ok.1 (by simp)
theorem pwr_f {s : ByteArray} {k : Nat} {l : Lt} (hk : k ≤ s.size) (hl : l.pw = 0) (hd : l.dn = false) (ok : okR (pwr (D s k) l)) : (pwr (D s k) l).2 = ⟨l.ds, l.pl, dnE s k, pwE s k⟩ := by
  obtain ⟨ds, pl, dn', pw⟩ := l
  dsimp only at hl hd
  subst hl hd
  unfold pwr at ok ⊢
  by_cases he : k < s.size ∧ byt s k = 101
  case neg =>
    have hE : isE s k = false := decide_eq_false he
    rw [pss_off (fun h => he (at_101.1 h))]
    unfold dnE pwE
    rw [hE]; rfl
  have hE : isE s k = true := decide_eq_true he
  rw [pss_at (at_101.2 he)] at ok ⊢
  dsimp only at ok ⊢
  rw [gat1] at ok ⊢
  by_cases h0 : k + 1 < s.size ∧ byt s (k + 1) = 48
  · have hm : mnE s k = false := decide_eq_false (by omega)
    rw [pss_at (at_48.2 h0)] at ok ⊢
    dsimp only at ok ⊢
    have d0 : dig' s (k + 1) := ⟨h0.1, by omega, by omega⟩
    rw [gat4] at ok ⊢
    rw [okR_fnl (by omega)] at ok
    have h1 : ¬ dig' s (k + 1 + 1) := fun c => by have := c.1; omega
    have e : dn s (k + 1) = 1 := by rw [dn_yes d0, dn_no h1]
    unfold dnE pwE atE
    rw [hE, hm]
    simp only [Bool.and_false, if_true, Bool.false_eq_true, if_false, Nat.add_zero]
    rw [e]
    show (⟨ds, pl, false, 10 * 0 + (byt s (k + 1) - 48)⟩ : Lt) = ⟨ds, pl, false, nm s (k + 1) 1⟩
    rw [h0.2]
    unfold nm nm
    rw [Nat.add_zero, h0.2]
  · rw [pss_off (fun h => h0 (at_48.1 h))] at ok ⊢
    dsimp only at ok ⊢
    by_cases hm : k + 1 < s.size ∧ byt s (k + 1) = 45
    · have hM : mnE s k = true := decide_eq_true hm
      rw [pss_at (at_45.2 hm)] at ok ⊢
      rw [gat3] at ok ⊢
      have := pow_sign_f (s := s) (a := k + 1 + 1) (l := ⟨ds, pl, true, 0⟩) rfl _ rfl ok
      refine this.trans ?_
      unfold dnE pwE atE
      rw [hE, hM]; rfl
    · have hM : mnE s k = false := decide_eq_false hm
      rw [pss_off (fun h => hm (at_45.1 h))] at ok ⊢
      have := pow_sign_f (s := s) (a := k + 1) (l := ⟨ds, pl, false, 0⟩) rfl _ rfl ok
      refine this.trans ?_
      unfold dnE pwE atE
      rw [hE, hM]; rfl
/-- the text of bytes -/
def ba (l : List UInt8) : ByteArray := ⟨l.toArray⟩
theorem ba_app (l m : List UInt8) : ba l ++ ba m = ba (l ++ m) := by
  apply ByteArray.ext
  rw [ByteArray.data_append]
  simp [ba]
/-- n bytes of a text, from k on -/
def txt (s : ByteArray) (k n : Nat) : List UInt8 := (s.data.toList.drop k).take n
theorem txt_succ {s : ByteArray} {k n : Nat} (h : k < s.size) : txt s k (n + 1) = s.data.toList.getD k 0 :: txt s (k + 1) n := by
  have h' : k < s.data.toList.length := by simpa using h
  unfold txt
  rw [List.drop_eq_getElem_cons h', List.take_succ_cons, List.getD_eq_getElem?_getD, List.getElem?_eq_getElem h']; rfl
theorem enc_dig {s : ByteArray} {k : Nat} (h : dig' s k) : Utf8.encode (byt s k) = ba [s.data.toList.getD k 0] := by
  have h2 := h.2
  unfold byt at h2 ⊢
  generalize s.data.toList.getD k 0 = b at *
  have hv : Utf8.valid (b.toNat : Int) = true := by unfold Utf8.valid; simp; omega
  unfold Utf8.encode
  dsimp only
  rw [if_pos hv, Int.toNat_natCast, if_pos (by omega)]
  simp [ba]
theorem gats0 (s : ByteArray) : ∀ (n k : Nat) (l : Lt), (∀ i, i < n → dig' s (k + i)) → gats s 0 n k l = ⟨l.ds ++ ba (txt s k n), l.pl, l.dn, l.pw⟩
  | 0, k, l, _ => by
    obtain ⟨ds, pl, d, p⟩ := l
    show (⟨ds, pl, d, p⟩ : Lt) = ⟨ds ++ ba [], pl, d, p⟩
    rw [show ds ++ ba [] = ds from by apply ByteArray.ext; rw [ByteArray.data_append]; simp [ba]]
  | n + 1, k, l, h => by
    have d0 := h 0 (by omega)
    rw [Nat.add_zero] at d0
    show gats s 0 n (k + 1) (gat 0 (byt s k) l) = _
    rw [gats0 s n (k + 1) _ (fun i hi => by have := h (i + 1) (by omega); rwa [show k + (i + 1) = k + 1 + i by omega] at this)]
    have hg : gat 0 (byt s k) l = ⟨l.ds ++ ba [s.data.toList.getD k 0], l.pl, l.dn, l.pw⟩ := by unfold gat; rw [enc_dig d0]; simp
    rw [hg, txt_succ d0.1]
    dsimp only
    rw [ByteArray.append_assoc, ba_app]; rfl
theorem gats2 (s : ByteArray) : ∀ (n k : Nat) (l : Lt), (∀ i, i < n → dig' s (k + i)) → gats s 2 n k l = ⟨l.ds ++ ba (txt s k n), l.pl + (n : Int), l.dn, l.pw⟩
  | 0, k, l, _ => by
    obtain ⟨ds, pl, d, p⟩ := l
    show (⟨ds, pl, d, p⟩ : Lt) = ⟨ds ++ ba [], pl + 0, d, p⟩
    rw [show ds ++ ba [] = ds from by apply ByteArray.ext; rw [ByteArray.data_append]; simp [ba], Int.add_zero]
  | n + 1, k, l, h => by
    have d0 := h 0 (by omega)
    rw [Nat.add_zero] at d0
    show gats s 2 n (k + 1) (gat 2 (byt s k) l) = _
    rw [gats2 s n (k + 1) _ (fun i hi => by have := h (i + 1) (by omega); rwa [show k + (i + 1) = k + 1 + i by omega] at this)]
    have hg : gat 2 (byt s k) l = ⟨l.ds ++ ba [s.data.toList.getD k 0], l.pl + 1, l.dn, l.pw⟩ := by unfold gat; rw [enc_dig d0]; simp
    rw [hg, txt_succ d0.1]
    dsimp only
    rw [ByteArray.append_assoc, ba_app]
    rw [show l.pl + 1 + (n : Int) = l.pl + ((n + 1 : Nat) : Int) by omega]; rfl
/-- whether a point stands at k, how many digits stand behind it, and where the mark of a power could stand -/
def isP (s : ByteArray) (k : Nat) : Bool := decide (k < s.size ∧ byt s k = 46)
def nBe (s : ByteArray) (k : Nat) : Nat := if isP s k then dn s (k + 1) else 0
def pBe (s : ByteArray) (k : Nat) : Nat := if isP s k then k + 1 + dn s (k + 1) else k
def tBe (s : ByteArray) (k : Nat) : List UInt8 := if isP s k then txt s (k + 1) (dn s (k + 1)) else []
theorem ba_nil (d : ByteArray) : d ++ ba [] = d := by apply ByteArray.ext; rw [ByteArray.data_append]; simp [ba]
theorem pnt_f {s : ByteArray} {k : Nat} {l : Lt} (hk : k ≤ s.size) (hl : l.pw = 0) (hd : l.dn = false) (ok : okR (pnt (D s k) l)) : (pnt (D s k) l).2 = ⟨l.ds ++ ba (tBe s k), l.pl + (nBe s k : Int), dnE s (pBe s k), pwE s (pBe s k)⟩ := by
  unfold pnt at ok ⊢
  by_cases he : k < s.size ∧ byt s k = 46
  case neg =>
    have hP : isP s k = false := decide_eq_false he
    rw [pss_off (fun h => he (at_46.1 h))] at ok ⊢
    dsimp only at ok ⊢
    rw [pwr_f hk hl hd ok]
    unfold tBe nBe pBe
    rw [hP]
    simp only [Bool.false_eq_true, if_false]
    rw [ba_nil, show l.pl + ((0 : Nat) : Int) = l.pl by omega]
  have hP : isP s k = true := decide_eq_true he
  rw [pss_at (at_46.2 he)] at ok ⊢
  dsimp only at ok ⊢
  rw [gat1] at ok ⊢
  by_cases h : dig' s (k + 1)
  · rw [pss_at h] at ok ⊢
    dsimp only at ok ⊢
    rw [beh_run s _ _ _ rfl] at ok ⊢
    have e := dn_yes h
    have hall : ∀ i, i < dn s (k + 1) → dig' s (k + 1 + i) := fun i hi => dn_dig s _ (k + 1) i rfl hi
    have hg : gats s 2 (dn s (k + 1 + 1)) (k + 1 + 1) (gat 2 (byt s (k + 1)) l) = gats s 2 (dn s (k + 1)) (k + 1) l := by rw [e]; rfl
    rw [hg, gats2 s _ _ _ hall, show k + 1 + 1 + dn s (k + 1 + 1) = k + 1 + dn s (k + 1) by omega] at ok ⊢
    have hle : k + 1 + dn s (k + 1) ≤ s.size := by
      have := (hall (dn s (k + 1) - 1) (by omega)).1
      omega
    rw [pwr_f (l := ⟨l.ds ++ ba (txt s (k + 1) (dn s (k + 1))), l.pl + (dn s (k + 1) : Int), l.dn, l.pw⟩) hle hl hd ok]
    unfold tBe nBe pBe
    rw [hP]; rfl
  · rw [pss_off h] at ok
    exact absurd ok.1 (by simp)
/-- what is gathered of a literal -/
theorem scn_f {s : ByteArray} (ok : okR (scn (D s 0) lt0)) : (scn (D s 0) lt0).2 = ⟨ba (txt s 0 (dn s 0) ++ tBe s (dn s 0)), (nBe s (dn s 0) : Int), dnE s (pBe s (dn s 0)), pwE s (pBe s (dn s 0))⟩ := by
  unfold scn at ok ⊢
  have fin : ∀ (n : Nat) (l : Lt), n = dn s 0 → 0 < n → l = gats s 0 n 0 lt0 → okR (pnt (D s n) l) → (pnt (D s n) l).2 = ⟨ba (txt s 0 (dn s 0) ++ tBe s (dn s 0)), (nBe s (dn s 0) : Int), dnE s (pBe s (dn s 0)), pwE s (pBe s (dn s 0))⟩ := by
    intro n l hn h0 hl ok
    subst hn
    have hall : ∀ i, i < dn s 0 → dig' s (0 + i) := fun i hi => dn_dig s _ 0 i rfl hi
    rw [gats0 s _ _ _ hall] at hl
    subst hl
    have hle : dn s 0 ≤ s.size := by
      have := (hall (dn s 0 - 1) (by omega)).1
      omega
    rw [pnt_f hle rfl rfl ok]
    show (⟨(⟨#[]⟩ ++ ba (txt s 0 (dn s 0))) ++ ba (tBe s (dn s 0)), 0 + _, _, _⟩ : Lt) = _
    rw [show (⟨#[]⟩ : ByteArray) = ba [] from rfl, ba_app, ba_app, List.nil_append, Int.zero_add]
  by_cases h0 : at' s 0 48 48
  · rw [pss_at h0] at ok ⊢
    dsimp only at ok ⊢
    have d0 : dig' s 0 := ⟨h0.1, h0.2.1, by have := h0.2; omega⟩
    have b0 := (at_48.1 h0).2
    have e := dn_yes d0
    by_cases h1 : dig' s (0 + 1)
    · exfalso
      have q := (pnt_eq (by have := h0.1; omega) (gat_pw (by decide))).1 ok
      have h1' := h1.1
      have h1'' := h1.2
      rw [if_neg (by omega)] at q
      unfold expS at q
      rw [if_neg (by omega)] at q
      have q' := of_decide_eq_true q
      omega
    · rw [dn_no h1] at e
      exact fin 1 _ (by omega) (by omega) rfl ok
  · rw [pss_off h0] at ok ⊢
    dsimp only at ok ⊢
    by_cases h1 : at' s 0 49 57
    · rw [pss_at h1] at ok ⊢
      dsimp only at ok ⊢
      have d0 : dig' s 0 := ⟨h1.1, by have := h1.2; omega, h1.2.2⟩
      have e := dn_yes d0
      rw [whl_run s _ _ _ rfl] at ok ⊢
      rw [show 0 + 1 + dn s (0 + 1) = dn s 0 by omega] at ok ⊢
      exact fin _ _ rfl (by omega) (by rw [e]; rfl) ok
    · rw [pss_off h1] at ok
      exact absurd ok.1 (by simp)
end Go.Proofs.YtnjdcaidoffhbaaGreatDoor
