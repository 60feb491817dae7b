/- A scanner of literals goes over the runes of a text: its machine, and the program's walk. Conditions: 60 runes at most. Of what was there only what it gathers in is written. -/
import Derived.Test.YtafpjgojmpjajaaZF
import Derived.Laws.IdiomStrings
import Derived.ScopeJumps
import Derived.WalkMore
namespace Go.Proofs.Ytafpjgojmpjajaa
open Go.RowKit
set_option linter.unusedVariables false
set_option maxRecDepth 100000

/-- As Q; by a goto: J of the label. -/
def xJumps (J : Nat → Act → World → Prop) (Q : Exit → Act → World → Prop) : Exit → Act → World → Prop
  | .goto l', a, w => J l' a w
  | e, a, w => Q e a w
theorem wp_scope_many {P : Program} {a : Act} {w : World} {Q : Exit → Act → World → Prop} {c : Code} (J : Nat → Nat → Act → World → Prop)
    (first : c.wp P (xJumps (fun l a w => ∃ m, J m l a w) Q) a w)
    (pass : ∀ m l a w, J m l a w → ∃ rest, findLabel c l = some rest ∧ rest.wp P (xJumps (fun l' a' w' => ∃ m', m' < m ∧ J m' l' a' w') Q) a w) : (Code.scope c).wp P Q a w := by
  intro b k cs
  have key : ∀ n l a w, J n l a w → ∃ rest, findLabel c l = some rest ∧ ∃ e a' w', Q e a' w' ∧ Arrives P (lone (b.at a (.code rest :: .inScope c :: k)) cs w) b k cs e a' w' := by
    intro n
    induction n using Nat.strongRecOn with
    | _ n ih =>
      intro l a w hJ
      obtain ⟨rest, hf, hp⟩ := pass n l a w hJ
      refine ⟨rest, hf, ?_⟩
      obtain ⟨e, a₁, w₁, hq, harr⟩ := hp b (.inScope c :: k) cs
      cases e with
      | normal => exact ⟨.normal, a₁, w₁, hq, Steps.trans harr (.one step_inScope)⟩
      | exit id => exact ⟨.exit id, a₁, w₁, hq, fun k' hk => harr k' (by simp [exitTo, hk])⟩
      | goto l' =>
        obtain ⟨m', hlt, hJ'⟩ := hq
        obtain ⟨rest', hf', e₂, a₂, w₂, hq₂, harr₂⟩ := ih m' hlt l' a₁ w₁ hJ'
        have hg : gotoIn l' (.inScope c :: k) = some (.code rest' :: .inScope c :: k) := by simp [gotoIn, hf']
        exact ⟨e₂, a₂, w₂, hq₂, .of_steps (harr _ hg) harr₂⟩
      | ret => exact ⟨_, a₁, w₁, hq, harr⟩
      | panic ch => exact ⟨_, a₁, w₁, hq, harr⟩
      | outgrown => exact ⟨_, a₁, w₁, hq, harr⟩
  obtain ⟨e, a₁, w₁, hq, harr⟩ := first b (.inScope c :: k) cs
  cases e with
  | normal => exact ⟨.normal, a₁, w₁, hq, .head step_scope (Steps.trans harr (.one step_inScope))⟩
  | exit id => exact ⟨.exit id, a₁, w₁, hq, fun k' hk => .head step_scope (harr k' (by simp [exitTo, hk]))⟩
  | goto l' =>
    obtain ⟨m', hJ'⟩ := hq
    obtain ⟨rest', hf', e₂, a₂, w₂, hq₂, harr₂⟩ := key m' l' a₁ w₁ hJ'
    have hg : gotoIn l' (.inScope c :: k) = some (.code rest' :: .inScope c :: k) := by simp [gotoIn, hf']
    exact ⟨e₂, a₂, w₂, hq₂, .of_steps (.head step_scope (harr _ hg)) harr₂⟩
  | ret => exact ⟨_, a₁, w₁, hq, .of_steps (.one step_scope) harr⟩
  | panic ch => exact ⟨_, a₁, w₁, hq, .of_steps (.one step_scope) harr⟩
  | outgrown => exact ⟨_, a₁, w₁, hq, .of_steps (.one step_scope) harr⟩

/-- the runes of a text -/
def runesL (s : ByteArray) : Nat → Nat → List Int
  | 0, _ => []
  | b + 1, i => if i < s.size then ((Utf8.decode s i).1 : Int) :: runesL s b (i + (Utf8.decode s i).2) else []
theorem runesFrom_eq (s : ByteArray) : ∀ (b i : Nat) (acc : Array Value), Conv.runesFrom s b i acc = acc ++ ((runesL s b i).map (Value.int .i32)).toArray
  | 0, i, acc => by simp [Conv.runesFrom, runesL]
  | b + 1, i, acc => by
    unfold Conv.runesFrom runesL
    by_cases h : i < s.size
    · rw [if_pos h, if_pos h]
      show Conv.runesFrom s b (i + (Utf8.decode s i).2) (acc.push (Value.int .i32 (Int.ofNat (Utf8.decode s i).1))) = _
      rw [runesFrom_eq s b]
      simp
    · rw [if_neg h, if_neg h]
      simp
theorem runes_size (s : ByteArray) : (Conv.runesFrom s s.size 0 #[]).size = (runesL s s.size 0).length := by rw [runesFrom_eq]; simp
theorem runesL_len (s : ByteArray) : ∀ (b i : Nat), (runesL s b i).length ≤ b
  | 0, _ => by simp [runesL]
  | b + 1, i => by
    unfold runesL
    split
    · simp; exact runesL_len s b _
    · simp
theorem runesLaid (s : ByteArray) (h : s.size ≤ 60) (w : World) : ∃ (cap : Nat) (C : Array Value), (convert 9 97 (.string s)).run Try.prog w = .ok (.slice (some ⟨w.heap.size, 0, none⟩) (runesL s s.size 0).length cap) (w.drew.alloc (.cells C 21)) ∧ (runesL s s.size 0).length ≤ cap ∧ ∀ i, i < (runesL s s.size 0).length → C[i]? = some (.int .i32 ((runesL s s.size 0).getD i 0)) := by
  have hrn := run_runes_of_string (P := Try.prog) w (src := 9) (dst := 97) (e := 21) (s := s) (hs := Try.underlying9) (hd := Try.underlying97) (he := Try.underlying21) (h46 := by have := size_runesFrom s s.size 0 #[]; simp at this; omega)
  have hz := runes_size s
  rw [hz] at hrn
  refine ⟨_, _, hrn, grownCap_ge w _ 0 _, fun i hi => ?_⟩
  rw [Array.getElem?_append_left (by rw [hz]; exact hi), runesFrom_eq]
  simp [List.getD_eq_getElem?_getD, List.getElem?_eq_getElem hi]
def pss (lo hi part : Int) (rs : List Int) (l : Lt) : Option (List Int × Lt) := match rs with | r :: t => if lo ≤ r ∧ r ≤ hi then some (t, gat part r l) else none | [] => none
def fnl (rs : List Int) (l : Lt) : Bool × Lt := (decide (rs.length = 0), l)
def pwr (rs : List Int) (l : Lt) : Bool × Lt :=
  match pss 101 101 1 rs l with
  | none => fnl rs l
  | some x => match pss 48 48 4 x.1 x.2 with
    | some y => fnl y.1 y.2
    | none => match pss 49 57 4 ((pss 45 45 3 x.1 x.2).getD x).1 ((pss 45 45 3 x.1 x.2).getD x).2 with
      | none => (false, ((pss 45 45 3 x.1 x.2).getD x).2)
      | some y => match pss 48 57 4 y.1 y.2 with
        | none => fnl y.1 y.2
        | some z => fnl ((pss 48 57 4 z.1 z.2).getD z).1 ((pss 48 57 4 z.1 z.2).getD z).2
def beh : List Int → Lt → Bool × Lt
  | [], l => pwr [] l
  | r :: t, l => if 48 ≤ r ∧ r ≤ 57 then beh t (gat 2 r l) else pwr (r :: t) l
def pnt (rs : List Int) (l : Lt) : Bool × Lt :=
  match pss 46 46 1 rs l with
  | none => pwr rs l
  | some x => match pss 48 57 2 x.1 x.2 with
    | none => (false, x.2)
    | some y => beh y.1 y.2
def whl : List Int → Lt → Bool × Lt
  | [], l => pnt [] l
  | r :: t, l => if 48 ≤ r ∧ r ≤ 57 then whl t (gat 0 r l) else pnt (r :: t) l
def scn (rs : List Int) (l : Lt) : Bool × Lt :=
  match pss 48 48 0 rs l with
  | some x => pnt x.1 x.2
  | none => match pss 49 57 0 rs l with
    | none => (false, l)
    | some x => whl x.1 x.2
theorem pss_y {lo hi part r : Int} {t : List Int} {l : Lt} (h1 : lo ≤ r) (h2 : r ≤ hi) : pss lo hi part (r :: t) l = some (t, gat part r l) := by unfold pss; dsimp only; rw [if_pos ⟨h1, h2⟩]
theorem pss_n {lo hi part : Int} {rs : List Int} {l : Lt} (h : rs = [] ∨ ∃ r t, rs = r :: t ∧ (r < lo ∨ hi < r)) : pss lo hi part rs l = none := by
  rcases h with rfl | ⟨r, t, rfl, h⟩
  · rfl
  · unfold pss; dsimp only; rw [if_neg (by omega)]
theorem pcase (lo hi : Int) (rs : List Int) : (∃ r t, rs = r :: t ∧ lo ≤ r ∧ r ≤ hi) ∨ (rs = [] ∨ ∃ r t, rs = r :: t ∧ (r < lo ∨ hi < r)) := by
  cases rs with
  | nil => exact .inr (.inl rfl)
  | cons r t =>
    by_cases h : lo ≤ r ∧ r ≤ hi
    · exact .inl ⟨r, t, rfl, h.1, h.2⟩
    · exact .inr (.inr ⟨r, t, rfl, by omega⟩)
theorem beh_n {rs : List Int} {l : Lt} (h : pss 48 57 2 rs l = none) : beh rs l = pwr rs l := by
  cases rs with
  | nil => rfl
  | cons r t =>
    unfold pss at h; dsimp only at h
    by_cases g : 48 ≤ r ∧ r ≤ 57
    · rw [if_pos g] at h; cases h
    · unfold beh; rw [if_neg g]
theorem beh_y {r : Int} {t : List Int} {l : Lt} (h1 : 48 ≤ r) (h2 : r ≤ 57) : beh (r :: t) l = beh t (gat 2 r l) := by rw [beh, if_pos ⟨h1, h2⟩]
theorem whl_n {rs : List Int} {l : Lt} (h : pss 48 57 0 rs l = none) : whl rs l = pnt rs l := by
  cases rs with
  | nil => rfl
  | cons r t =>
    unfold pss at h; dsimp only at h
    by_cases g : 48 ≤ r ∧ r ≤ 57
    · rw [if_pos g] at h; cases h
    · unfold whl; rw [if_neg g]
theorem whl_y {r : Int} {t : List Int} {l : Lt} (h1 : 48 ≤ r) (h2 : r ≤ 57) : whl (r :: t) l = whl t (gat 0 r l) := by rw [whl, if_pos ⟨h1, h2⟩]
/-- small, with what may still come -/
def Lt.fits (l : Lt) (rs : List Int) (p : Int) : Prop := ∃ n, n + rs.length ≤ 60 ∧ l.small n ∧ l.pw ≤ p
theorem enc_nonneg (l : Lt) : 0 ≤ (l.ds.size : Int) := by omega
theorem fits_gat {part r p : Int} {t : List Int} {l : Lt} (h : l.fits (r :: t) p) (hp : 0 ≤ part ∧ part < 4) : (gat part r l).fits t p := by
  obtain ⟨n, h1, ⟨h2, h3, h4, h5, h6⟩, h7⟩ := h
  rw [List.length_cons] at h1
  have es := enc_size r
  have ea : (l.ds ++ Utf8.encode r).size = l.ds.size + (Utf8.encode r).size := by simp
  refine ⟨n + 1, by omega, ?_⟩
  obtain rfl | rfl | rfl | rfl : part = 0 ∨ part = 1 ∨ part = 2 ∨ part = 3 := by omega
  all_goals (unfold gat Lt.small; simp only [if_true, if_false, Int.reduceEq]; (try rw [ea]); refine ⟨⟨?_, ?_, ?_, ?_, ?_⟩, ?_⟩ <;> first | omega | (push_cast; omega))
theorem fits_gat4 {r p : Int} {t : List Int} {l : Lt} (h : l.fits (r :: t) p) (h1 : 48 ≤ r) (h2 : r ≤ 57) (hp : p ≤ 999) : (gat 4 r l).fits t (10 * p + 9) := by
  obtain ⟨n, g1, ⟨g2, g3, g4, g5, g6⟩, g7⟩ := h
  rw [List.length_cons] at g1
  refine ⟨n, by omega, ?_⟩
  unfold gat Lt.small
  simp only [if_true, if_false, Int.reduceEq]
  refine ⟨⟨?_, ?_, ?_, ?_, ?_⟩, ?_⟩ <;> omega
theorem fits_small {l : Lt} {rs : List Int} {p : Int} (h : l.fits rs p) : ∃ n, n ≤ 1000 ∧ l.small n := by
  obtain ⟨n, h1, h2, _⟩ := h
  exact ⟨n, by omega, h2⟩
theorem iPassYF (lo hi part : Int) (lb tb g rb : Nat) (r : Int) (t : List Int) (l : Lt) (p : Int) (w : World) (S : Sc w lb tb g rb (r :: t) l) (hs : l.fits (r :: t) p) (h1 : lo ≤ r) (h2 : r ≤ hi) (h0 : 0 ≤ lo) (h3 : hi ≤ 127) (hp : part = 4 → 48 ≤ lo) (hk : 0 ≤ part ∧ part ≤ 4) :
    Calls Try.prog 67 #[.int .i32 lo, .int .i32 hi, .int .i64 part, .pointer (some ⟨lb, 0, none⟩), .pointer (some ⟨tb, 0, none⟩)] w fun e w' => e = .returned (.bool true) ∧ Sc w' lb tb g rb t (gat part r l) ∧ BX (fun k => k = g ∨ k = lb) w w' := by
  obtain ⟨n, hn, hs'⟩ := fits_small hs
  exact iPassYes lo hi part lb tb g rb r t l n w S hn hs' h1 h2 h0 h3 hp hk
theorem iPassAny (lo hi part : Int) (lb tb g rb : Nat) (rs : List Int) (l : Lt) (p : Int) (w : World) (S : Sc w lb tb g rb rs l) (hs : l.fits rs p) (h0 : 0 ≤ lo) (h3 : hi ≤ 127) (hp : part = 4 → 48 ≤ lo) (hk : 0 ≤ part ∧ part ≤ 4) :
    Calls Try.prog 67 #[.int .i32 lo, .int .i32 hi, .int .i64 part, .pointer (some ⟨lb, 0, none⟩), .pointer (some ⟨tb, 0, none⟩)] w fun e w' => (∃ b, e = .returned (.bool b)) ∧ Sc w' lb tb g rb ((pss lo hi part rs l).getD (rs, l)).1 ((pss lo hi part rs l).getD (rs, l)).2 ∧ BX (fun k => k = g ∨ k = lb) w w' := by
  rcases pcase lo hi rs with ⟨r, t, rfl, a1, a2⟩ | hn
  · rw [pss_y a1 a2]
    exact (iPassYF lo hi part lb tb g rb r t l p w S hs a1 a2 h0 h3 hp hk).mono (fun e w' h => ⟨⟨_, h.1⟩, h.2⟩)
  · rw [pss_n hn]
    exact (iPassNo lo hi part lb tb g rb rs l w S hn).mono (fun e w' h => by rw [h.2]; exact ⟨⟨_, h.1⟩, S, BX.refl _ _⟩)
theorem fits_any {lo hi part p : Int} {rs : List Int} {l : Lt} (h : l.fits rs p) (hp : 0 ≤ part ∧ part < 4) : ((pss lo hi part rs l).getD (rs, l)).2.fits ((pss lo hi part rs l).getD (rs, l)).1 p := by
  rcases pcase lo hi rs with ⟨r, t, rfl, a1, a2⟩ | hn
  · rw [pss_y a1 a2]; exact fits_gat h hp
  · rw [pss_n hn]; exact h
def Fr (s : ByteArray) (lb tb g : Nat) (a : Act) : Prop := ∃ u7 u8 u9 u10 u11 u12 u13 u14 u15 u16 u17 u18 u19 u20 u21 u22 u23 u24 u25 u26 u27 u28 u29 u30 u31 u32 u33 u34 u35 u36 u37 u38 u39 u40 u41 u42 u43 : Value, a = { tmps := #[.string s, takeV g, undef, .pointer (some ⟨tb, 0, none⟩), .bool false, .pointer (some ⟨lb, 0, none⟩), .func (.func 67) #[] #[.pointer (some ⟨lb, 0, none⟩), .pointer (some ⟨tb, 0, none⟩)], u7, u8, u9, u10, u11, u12, u13, u14, u15, u16, u17, u18, u19, u20, u21, u22, u23, u24, u25, u26, u27, u28, u29, u30, u31, u32, u33, u34, u35, u36, u37, u38, u39, u40, u41, u42, u43], defers := [] }
/-- what holds at a label -/
def Jl (s : ByteArray) (w0 : World) (lb tb g rb : Nat) (res : Bool × Lt) (m lab : Nat) (a : Act) (w : World) : Prop :=
  Fr s lb tb g a ∧ BX (fun k => k = g ∨ k = lb) w0 w ∧ ∃ rs l, Sc w lb tb g rb rs l ∧
    ((lab = 1 ∧ m = 8 * rs.length + 5 ∧ l.fits rs 0 ∧ whl rs l = res) ∨ (lab = 0 ∧ m = 8 * rs.length + 4 ∧ l.fits rs 0 ∧ pnt rs l = res) ∨
     (lab = 3 ∧ m = 8 * rs.length + 3 ∧ l.fits rs 0 ∧ beh rs l = res) ∨ (lab = 2 ∧ m = 8 * rs.length + 2 ∧ l.fits rs 0 ∧ pwr rs l = res) ∨
     (lab = 4 ∧ m = 8 * rs.length + 1 ∧ fnl rs l = res))
end Go.Proofs.Ytafpjgojmpjajaa
