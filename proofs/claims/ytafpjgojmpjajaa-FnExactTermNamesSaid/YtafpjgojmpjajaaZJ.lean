/- Mathematics of literals: what the scanner finds, told by places of bytes. No condition. -/
import Derived.Test.YtafpjgojmpjajaaZI
namespace Go.Proofs.Ytafpjgojmpjajaa
open Go.RowKit
set_option linter.unusedVariables false
set_option maxRecDepth 100000

def bsL (s : ByteArray) : List Int := s.data.toList.map (fun b => (b.toNat : Int))
theorem bsL_len (s : ByteArray) : (bsL s).length = s.size := by unfold bsL; simp
theorem bsL_get (s : ByteArray) (k : Nat) (h : k < s.size) : (bsL s)[k]? = some (byt s k) := by
  have h' : k < s.data.toList.length := by simpa using h
  unfold bsL byt
  rw [List.getElem?_map, List.getElem?_eq_getElem h', List.getD_eq_getElem?_getD, List.getElem?_eq_getElem h']
  rfl
def D (s : ByteArray) (k : Nat) : List Int := (bsL s).drop k
theorem D_cons (s : ByteArray) (k : Nat) (h : k < s.size) : D s k = byt s k :: D s (k + 1) := by
  unfold D
  have hl : k < (bsL s).length := by rw [bsL_len]; exact h
  rw [List.drop_eq_getElem_cons hl]
  have := bsL_get s k h
  rw [List.getElem?_eq_getElem hl] at this
  rw [Option.some.inj this]
theorem D_nil (s : ByteArray) (k : Nat) (h : s.size ≤ k) : D s k = [] := by unfold D; exact List.drop_eq_nil_of_le (by rw [bsL_len]; exact h)
theorem D_zero (s : ByteArray) : D s 0 = bsL s := rfl
theorem D_len (s : ByteArray) (k : Nat) : (D s k).length = s.size - k := by unfold D; rw [List.length_drop, bsL_len]

def Rel : List Int → List Int → Prop
  | [], [] => True
  | a :: x, b :: y => (a = b ∧ Rel x y) ∨ (128 ≤ a ∧ 128 ≤ b)
  | _, _ => False
theorem rel_runes (s : ByteArray) : ∀ (b i : Nat), s.size ≤ i + b → Rel (runesL s b i) (D s i)
  | 0, i, h => by rw [D_nil s i (by omega)]; unfold runesL; exact trivial
  | b + 1, i, h => by
    unfold runesL
    by_cases hi : i < s.size
    · rw [if_pos hi, D_cons s i hi]
      have e := byt_at s i hi
      by_cases ha : (s[i]'hi).toNat < 128
      · have hd := decode_ascii s i hi ha
        rw [hd]
        exact .inl ⟨e, rel_runes s b (i + 1) (by omega)⟩
      · have hd := decode_high s i hi (by omega)
        exact .inr ⟨by omega, by rw [← e]; omega⟩
    · rw [if_neg hi, D_nil s i (by omega)]; exact trivial
theorem pss_rel {lo hi part : Int} {x y : List Int} {l : Lt} (h : Rel x y) (hh : hi < 128) :
    (pss lo hi part x l = none ∧ pss lo hi part y l = none) ∨ (∃ x' y' l', pss lo hi part x l = some (x', l') ∧ pss lo hi part y l = some (y', l') ∧ Rel x' y') := by
  cases x with
  | nil => cases y with
    | nil => exact .inl ⟨rfl, rfl⟩
    | cons => exact h.elim
  | cons a x => cases y with
    | nil => exact h.elim
    | cons b y =>
      rcases h with ⟨rfl, h⟩ | ⟨h1, h2⟩
      · by_cases c : lo ≤ a ∧ a ≤ hi
        · exact .inr ⟨x, y, _, pss_y c.1 c.2, pss_y c.1 c.2, h⟩
        · exact .inl ⟨pss_n (.inr ⟨_, _, rfl, by omega⟩), pss_n (.inr ⟨_, _, rfl, by omega⟩)⟩
      · exact .inl ⟨pss_n (.inr ⟨_, _, rfl, by omega⟩), pss_n (.inr ⟨_, _, rfl, by omega⟩)⟩
theorem fnl_rel {x y : List Int} {l : Lt} (h : Rel x y) : fnl x l = fnl y l := by
  cases x <;> cases y <;> first | rfl | exact h.elim
theorem pwr_rel {x y : List Int} {l : Lt} (h : Rel x y) : pwr x l = pwr y l := by
  unfold pwr
  rcases pss_rel (lo := 101) (hi := 101) (part := 1) (l := l) h (by decide) with ⟨e1, e2⟩ | ⟨x1, y1, l1, e1, e2, h1⟩
  · rw [e1, e2]; exact fnl_rel h
  rw [e1, e2]
  dsimp only
  rcases pss_rel (lo := 48) (hi := 48) (part := 4) (l := l1) h1 (by decide) with ⟨g1, g2⟩ | ⟨x2, y2, l2, g1, g2, h2⟩
  · rw [g1, g2]
    dsimp only
    obtain ⟨x3, y3, l3, k1, k2, h3⟩ : ∃ x3 y3 l3, (pss 45 45 3 x1 l1).getD (x1, l1) = (x3, l3) ∧ (pss 45 45 3 y1 l1).getD (y1, l1) = (y3, l3) ∧ Rel x3 y3 := by
      rcases pss_rel (lo := 45) (hi := 45) (part := 3) (l := l1) h1 (by decide) with ⟨k1, k2⟩ | ⟨x3, y3, l3, k1, k2, h3⟩
      · exact ⟨x1, y1, l1, by rw [k1]; rfl, by rw [k2]; rfl, h1⟩
      · exact ⟨x3, y3, l3, by rw [k1]; rfl, by rw [k2]; rfl, h3⟩
    rw [k1, k2]
    dsimp only
    rcases pss_rel (lo := 49) (hi := 57) (part := 4) (l := l3) h3 (by decide) with ⟨m1, m2⟩ | ⟨x4, y4, l4, m1, m2, h4⟩
    · rw [m1, m2]
    rw [m1, m2]
    dsimp only
    rcases pss_rel (lo := 48) (hi := 57) (part := 4) (l := l4) h4 (by decide) with ⟨n1, n2⟩ | ⟨x5, y5, l5, n1, n2, h5⟩
    · rw [n1, n2]; exact fnl_rel h4
    rw [n1, n2]
    dsimp only
    rcases pss_rel (lo := 48) (hi := 57) (part := 4) (l := l5) h5 (by decide) with ⟨o1, o2⟩ | ⟨x6, y6, l6, o1, o2, h6⟩
    · rw [o1, o2]; exact fnl_rel h5
    · rw [o1, o2]; exact fnl_rel h6
  · rw [g1, g2]; exact fnl_rel h2
theorem beh_rel : ∀ (x y : List Int) (l : Lt), Rel x y → beh x l = beh y l
  | [], [], l, _ => rfl
  | [], _ :: _, _, h => h.elim
  | _ :: _, [], _, h => h.elim
  | a :: x, b :: y, l, h => by
    have hr := h
    rcases h with ⟨rfl, h⟩ | ⟨h1, h2⟩
    · unfold beh
      by_cases c : 48 ≤ a ∧ a ≤ 57
      · rw [if_pos c, if_pos c]; exact beh_rel x y _ h
      · rw [if_neg c, if_neg c]; exact pwr_rel hr
    · unfold beh
      rw [if_neg (by omega), if_neg (by omega)]
      exact pwr_rel hr
theorem pnt_rel {x y : List Int} {l : Lt} (h : Rel x y) : pnt x l = pnt y l := by
  unfold pnt
  rcases pss_rel (lo := 46) (hi := 46) (part := 1) (l := l) h (by decide) with ⟨e1, e2⟩ | ⟨x1, y1, l1, e1, e2, h1⟩
  · rw [e1, e2]; exact pwr_rel h
  rw [e1, e2]
  dsimp only
  rcases pss_rel (lo := 48) (hi := 57) (part := 2) (l := l1) h1 (by decide) with ⟨g1, g2⟩ | ⟨x2, y2, l2, g1, g2, h2⟩
  · rw [g1, g2]
  · rw [g1, g2]; exact beh_rel _ _ _ h2
theorem whl_rel : ∀ (x y : List Int) (l : Lt), Rel x y → whl x l = whl y l
  | [], [], l, _ => rfl
  | [], _ :: _, _, h => h.elim
  | _ :: _, [], _, h => h.elim
  | a :: x, b :: y, l, h => by
    have hr := h
    rcases h with ⟨rfl, h⟩ | ⟨h1, h2⟩
    · unfold whl
      by_cases c : 48 ≤ a ∧ a ≤ 57
      · rw [if_pos c, if_pos c]; exact whl_rel x y _ h
      · rw [if_neg c, if_neg c]; exact pnt_rel hr
    · unfold whl
      rw [if_neg (by omega), if_neg (by omega)]
      exact pnt_rel hr
theorem scn_rel {x y : List Int} {l : Lt} (h : Rel x y) : scn x l = scn y l := by
  unfold scn
  rcases pss_rel (lo := 48) (hi := 48) (part := 0) (l := l) h (by decide) with ⟨e1, e2⟩ | ⟨x1, y1, l1, e1, e2, h1⟩
  · rw [e1, e2]
    dsimp only
    rcases pss_rel (lo := 49) (hi := 57) (part := 0) (l := l) h (by decide) with ⟨g1, g2⟩ | ⟨x2, y2, l2, g1, g2, h2⟩
    · rw [g1, g2]
    · rw [g1, g2]; exact whl_rel _ _ _ h2
  · rw [e1, e2]; exact pnt_rel h1
theorem scn_bytes (s : ByteArray) (l : Lt) : scn (runesL s s.size 0) l = scn (D s 0) l := scn_rel (rel_runes s s.size 0 (by omega))

/-! ### by places -/
def at' (s : ByteArray) (k : Nat) (lo hi : Int) : Prop := k < s.size ∧ lo ≤ byt s k ∧ byt s k ≤ hi
theorem pss_at {s : ByteArray} {k : Nat} {lo hi part : Int} {l : Lt} (h : at' s k lo hi) : pss lo hi part (D s k) l = some (D s (k + 1), gat part (byt s k) l) := by
  rw [D_cons s k h.1]; exact pss_y h.2.1 h.2.2
theorem pss_off {s : ByteArray} {k : Nat} {lo hi part : Int} {l : Lt} (h : ¬ at' s k lo hi) : pss lo hi part (D s k) l = none := by
  by_cases hk : k < s.size
  · rw [D_cons s k hk]
    exact pss_n (.inr ⟨_, _, rfl, by unfold at' at h; omega⟩)
  · rw [D_nil s k (by omega)]; rfl
def dig' (s : ByteArray) (k : Nat) : Prop := at' s k 48 57
/-- how many digits stand from a place on -/
def dn (s : ByteArray) (k : Nat) : Nat := ((D s k).takeWhile (fun n => decide (48 ≤ n ∧ n ≤ 57))).length
theorem dn_yes {s : ByteArray} {k : Nat} (h : dig' s k) : dn s k = dn s (k + 1) + 1 := by
  unfold dn
  rw [D_cons s k h.1, List.takeWhile_cons_of_pos (by simpa using h.2)]
  rfl
theorem dn_no {s : ByteArray} {k : Nat} (h : ¬ dig' s k) : dn s k = 0 := by
  unfold dn
  by_cases hk : k < s.size
  · rw [D_cons s k hk, List.takeWhile_cons_of_neg (by simp; unfold dig' at' at h; omega)]
    rfl
  · rw [D_nil s k (by omega)]; rfl
theorem dn_run (s : ByteArray) : ∀ (n k : Nat), (∀ i, i < n → dig' s (k + i)) → dn s k = dn s (k + n) + n
  | 0, k, _ => rfl
  | n + 1, k, h => by
    rw [dn_yes (k := k) (h 0 (by omega)), dn_run s n (k + 1) (fun i hi => by have := h (i + 1) (by omega); rwa [show k + (i + 1) = k + 1 + i by omega] at this)]
    rw [show k + 1 + n = k + (n + 1) by omega]
    omega
theorem dn_eq {s : ByteArray} {n k : Nat} (h : ∀ i, i < n → dig' s (k + i)) (g : ¬ dig' s (k + n)) : dn s k = n := by
  rw [dn_run s n k h, dn_no g]; omega
theorem dn_dig (s : ByteArray) : ∀ (n k i : Nat), dn s k = n → i < n → dig' s (k + i)
  | 0, _, _, _, h => absurd h (by omega)
  | n + 1, k, i, e, h => by
    by_cases c : dig' s k
    · cases i with
      | zero => exact c
      | succ i =>
        have := dn_dig s n (k + 1) i (by rw [dn_yes c] at e; omega) (by omega)
        rwa [show k + 1 + i = k + (i + 1) by omega] at this
    · rw [dn_no c] at e; omega
theorem dn_end (s : ByteArray) (k : Nat) : ¬ dig' s (k + dn s k) := fun c => by
  have h := dn_run s (dn s k + 1) k (fun i hi => by
    by_cases e : i = dn s k
    · rw [e]; exact c
    · exact dn_dig s _ k i rfl (by omega))
  omega
def gats (s : ByteArray) (part : Int) : Nat → Nat → Lt → Lt
  | 0, _, l => l
  | n + 1, k, l => gats s part n (k + 1) (gat part (byt s k) l)
theorem whl_run (s : ByteArray) : ∀ (n k : Nat) (l : Lt), dn s k = n → whl (D s k) l = pnt (D s (k + n)) (gats s 0 n k l)
  | 0, k, l, e => by
    have c : ¬ dig' s k := fun c => by rw [dn_yes c] at e; omega
    exact whl_n (pss_off c)
  | n + 1, k, l, e => by
    have c : dig' s k := by
      by_cases c : dig' s k
      · exact c
      · rw [dn_no c] at e; omega
    rw [D_cons s k c.1, whl_y c.2.1 c.2.2, whl_run s n (k + 1) _ (by rw [dn_yes c] at e; omega)]
    rw [show k + 1 + n = k + (n + 1) by omega]
    rfl
theorem beh_run (s : ByteArray) : ∀ (n k : Nat) (l : Lt), dn s k = n → beh (D s k) l = pwr (D s (k + n)) (gats s 2 n k l)
  | 0, k, l, e => by
    have c : ¬ dig' s k := fun c => by rw [dn_yes c] at e; omega
    exact beh_n (pss_off c)
  | n + 1, k, l, e => by
    have c : dig' s k := by
      by_cases c : dig' s k
      · exact c
      · rw [dn_no c] at e; omega
    rw [D_cons s k c.1, beh_y c.2.1 c.2.2, beh_run s n (k + 1) _ (by rw [dn_yes c] at e; omega)]
    rw [show k + 1 + n = k + (n + 1) by omega]
    rfl
theorem gat_pw {part r : Int} {l : Lt} (h : part ≠ 4) : (gat part r l).pw = l.pw := by
  unfold gat
  repeat' split
  all_goals first | rfl | (exfalso; omega)
theorem gats_pw (s : ByteArray) {part : Int} (h : part ≠ 4) : ∀ (n k : Nat) (l : Lt), (gats s part n k l).pw = l.pw
  | 0, _, _ => rfl
  | n + 1, k, l => (gats_pw s h n (k + 1) _).trans (gat_pw h)
theorem gat4_pw (r : Int) (l : Lt) : (gat 4 r l).pw = 10 * l.pw + (r - 48) := by unfold gat; simp
/-- the number that digits say -/
def nm (s : ByteArray) (a : Nat) : Nat → Int
  | 0 => 0
  | k + 1 => 10 * nm s a k + (byt s (a + k) - 48)
def expS (s : ByteArray) (k : Nat) : Bool :=
  if k < s.size ∧ byt s k = 101 then
    (if dn s (k + 1 + (if k + 1 < s.size ∧ byt s (k + 1) = 45 then 1 else 0)) = 0 ∨ 3 < dn s (k + 1 + (if k + 1 < s.size ∧ byt s (k + 1) = 45 then 1 else 0)) ∨
      ((1 < dn s (k + 1 + (if k + 1 < s.size ∧ byt s (k + 1) = 45 then 1 else 0)) ∨ (k + 1 < s.size ∧ byt s (k + 1) = 45)) ∧ byt s (k + 1 + (if k + 1 < s.size ∧ byt s (k + 1) = 45 then 1 else 0)) = 48)
     then false
     else decide (nm s (k + 1 + (if k + 1 < s.size ∧ byt s (k + 1) = 45 then 1 else 0)) (dn s (k + 1 + (if k + 1 < s.size ∧ byt s (k + 1) = 45 then 1 else 0))) ≤ 400) &&
       decide (k + 1 + (if k + 1 < s.size ∧ byt s (k + 1) = 45 then 1 else 0) + dn s (k + 1 + (if k + 1 < s.size ∧ byt s (k + 1) = 45 then 1 else 0)) = s.size))
  else decide (k = s.size)
def decS (s : ByteArray) : Bool :=
  if 60 < s.size ∨ dn s 0 = 0 ∨ (1 < dn s 0 ∧ byt s 0 = 48) then false
  else if dn s 0 < s.size ∧ byt s (dn s 0) = 46 then (if dn s (dn s 0 + 1) = 0 then false else expS s (dn s 0 + 1 + dn s (dn s 0 + 1)))
  else expS s (dn s 0)
theorem fnl_D (s : ByteArray) (k : Nat) (l : Lt) (h : k ≤ s.size) : fnl (D s k) l = (decide (k = s.size), l) := by
  unfold fnl
  rw [D_len]
  congr 1
  exact decide_eq_decide.2 (by omega)
end Go.Proofs.Ytafpjgojmpjajaa
