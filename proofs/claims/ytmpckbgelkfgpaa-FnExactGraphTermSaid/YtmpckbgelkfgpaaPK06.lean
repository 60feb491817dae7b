/- Literals of the program: what a text says, and whether it is one. No condition. Nothing that was there is written. -/
import Derived.Test.YtmpckbgelkfgpaaPK05
namespace Go.Proofs.Ytmpckbgelkfgpaa
open Go.RowKit
set_option linter.unusedVariables false
set_option maxRecDepth 100000

def lt0 : Lt := ⟨⟨#[]⟩, 0, false, 0⟩
def litR (s : ByteArray) : Option Lt := if s.size ≤ 60 then (if (scn (runesL s s.size 0) lt0).1 = true ∧ (scn (runesL s s.size 0) lt0).2.pw ≤ 400 then some (scn (runesL s s.size 0) lt0).2 else none) else none
def decI (s : ByteArray) : Bool := (litR s).isSome
theorem lt0_fits (s : ByteArray) (h : s.size ≤ 60) : lt0.fits (runesL s s.size 0) 0 := ⟨0, by have := runesL_len s s.size 0; omega, ⟨by decide, by decide, by decide, by decide, by decide⟩, by decide⟩
def litV (s : ByteArray) : Value := match litR s with | some l => .tuple #[.agg #[.string l.ds, .int .i64 l.pl, .bool l.dn, .int .i64 l.pw], .bool true] | none => .tuple #[.agg #[.string ⟨#[]⟩, .int .i64 0, .bool false, .int .i64 0], .bool false]
theorem resLit (W : World) (tmps : Array Value) (b : Nat) (x0 x1 x2 x3 u : Value) (h : CS W b [x0, x1, x2, x3]) (hp : tmps.getD 2 undef = .pointer (some ⟨b, 0, none⟩)) (hu : tmps.getD 3 undef = u) :
    (results Try.f153 tmps).run Try.prog W = .ok (.tuple #[.agg #[x0, x1, x2, x3], u]) W := by
  have c0 := h.cell 0 _ rfl
  have c1 := h.cell 1 _ rfl
  have c2 := h.cell 2 _ rfl
  have c3 := h.cell 3 _ rfl
  rw [results_cell_tmp (p := 2) (u := 3) (ty := 196) rfl, hp, hu]
  simp [asAddr, go_sem, c0, c1, c2, c3]
theorem CS.stored4 {w : World} {b : Nat} {x0 x1 x2 x3 : Value} (h : CS w b [x0, x1, x2, x3]) (y0 y1 y2 y3 : Value) :
    CS ((((w.setCell ⟨b, 0, none⟩ y0).setCell ⟨b, 1, none⟩ y1).setCell ⟨b, 2, none⟩ y2).setCell ⟨b, 3, none⟩ y3) b [y0, y1, y2, y3] :=
  (((h.stored (i := 0) y0 (by simp)).stored (i := 1) y1 (by simp)).stored (i := 2) y2 (by simp)).stored (i := 3) y3 (by simp)
set_option maxHeartbeats 4000000 in
theorem iLiteral (s : ByteArray) (w : World) : Calls Try.prog 153 #[.string s] w fun e w' => e = .returned (litV s) ∧ Below w.heap.size w w' := by
  by_cases h60 : 60 < s.size
  · have e : litR s = none := by unfold litR; rw [if_neg (by omega)]
    unfold litV
    rw [e]
    dsimp only
    have h60' : 60 < (s.size : Int) := by omega
    go_enter Try.func153, Try.ntmps153
    go_wp2
    exact bodyPost_ret (resLit _ _ _ _ _ _ _ _ (CS.made _ _ rfl #[_, _, _, _] _) rfl rfl) rfl ⟨rfl, (by repeat (first | with_reducible exact Below.refl _ _ | with_reducible refine Below.drew ?_ | ((with_reducible refine Below.setCell ?_ ?_ _); rotate_left; (focus (first | (simp; done) | omega | (simp; omega)))) | with_reducible refine old_alloc ?_ _ | with_reducible refine old_trans ?_ (by with_reducible assumption)))⟩
  have h60' : ¬ 60 < (s.size : Int) := by omega
  obtain ⟨res, hres⟩ : ∃ r, scn (runesL s s.size 0) lt0 = r := ⟨_, rfl⟩
  have eL : litR s = if res.1 = true ∧ res.2.pw ≤ 400 then some res.2 else none := by unfold litR; rw [if_pos (by omega), hres]
  have SC := hd (fun g w (hC : CS w g lt0.cells) => iScan s g res lt0 w hC (lt0_fits s (by omega)) hres (by omega))
  clear hres
  obtain ⟨ok, ds, pl, dn, pw⟩ := res
  dsimp only at eL SC
  have fin : ∀ (w1 : World) (y0 y1 y2 y3 : Value) (o : Bool), CS w1 w.heap.size [.string ⟨#[]⟩, .int .i64 0, .bool false, .int .i64 0] → True := fun _ _ _ _ _ _ _ => trivial
  clear fin
  have K1 := ((CS.made w _ rfl #[.string ⟨#[]⟩, .int .i64 0, .bool false, .int .i64 0] 196).alloc (.cells #[.string ⟨#[]⟩, .int .i64 0, .bool false, .int .i64 0] 196))
  have K2 := CS.made (w.alloc (.cells #[.string ⟨#[]⟩, .int .i64 0, .bool false, .int .i64 0] 196)) (w.heap.size + 1) (by simp) #[.string ⟨#[]⟩, .int .i64 0, .bool false, .int .i64 0] 196
  have C1 := hd (SC.out _ _ K2)
  clear SC
  unfold takeV Lt.cells at C1
  dsimp only at C1
  unfold litV
  rw [eL]
  clear eL h60
  by_cases hok : ok = true ∧ pw ≤ 400
  · rw [if_pos hok]
    obtain ⟨rfl, hpw⟩ := hok
    dsimp only
    have hpw' : ¬ 400 < pw := by omega
    go_enter Try.func153, Try.ntmps153
    go_wp2_with fail
    refine C1.out.mono ?_
    rintro e w1 ⟨rfl, L1, hb1⟩
    have R1 := K1.bx hb1 (by simp; omega)
    have c0 := L1.cell 0 _ rfl
    have c1 := L1.cell 1 _ rfl
    have c2 := L1.cell 2 _ rfl
    have c3 := L1.cell 3 _ rfl
    have d0 := R1.cell 0 _ rfl
    have d1 := R1.cell 1 _ rfl
    have d2 := R1.cell 2 _ rfl
    have d3 := R1.cell 3 _ rfl
    have f0 := R1.froz 0 (by decide)
    have f1 := R1.froz 1 (by decide)
    have f2 := R1.froz 2 (by decide)
    have f3 := R1.froz 3 (by decide)
    have hB : Below w.heap.size w w1 := (old_alloc (old_alloc (Below.refl _ _) _) _).trans (hb1.below (by intro k hk; rcases hk with rfl | rfl <;> simp <;> omega) (by simp; omega))
    have R2 := R1.stored4 (.string ds) (.int .i64 pl) (.bool dn) (.int .i64 pw)
    clear hb1 L1 R1 K1 K2 C1
    go_wp2
    exact bodyPost_ret (resLit _ _ _ _ _ _ _ _ R2 rfl rfl) rfl ⟨rfl, (by repeat (first | with_reducible exact hB | with_reducible exact Below.refl _ _ | with_reducible refine Below.drew ?_ | ((with_reducible refine Below.setCell ?_ ?_ _); rotate_left; (focus (first | (simp; done) | omega | (simp; omega)))) | with_reducible refine old_alloc ?_ _ | with_reducible refine old_trans ?_ (by with_reducible assumption)))⟩
  · rw [if_neg hok]
    dsimp only
    have hx : ok = false ∨ (ok = true ∧ 400 < pw) := by cases ok <;> simp_all
    go_enter Try.func153, Try.ntmps153
    go_wp2_with fail
    refine C1.out.mono ?_
    rintro e w1 ⟨rfl, L1, hb1⟩
    have R1 := K1.bx hb1 (by simp; omega)
    have c3 := L1.cell 3 _ rfl
    have d0 := R1.cell 0 _ rfl
    have d1 := R1.cell 1 _ rfl
    have d2 := R1.cell 2 _ rfl
    have d3 := R1.cell 3 _ rfl
    have f0 := R1.froz 0 (by decide)
    have f1 := R1.froz 1 (by decide)
    have f2 := R1.froz 2 (by decide)
    have f3 := R1.froz 3 (by decide)
    have hB : Below w.heap.size w w1 := (old_alloc (old_alloc (Below.refl _ _) _) _).trans (hb1.below (by intro k hk; rcases hk with rfl | rfl <;> simp <;> omega) (by simp; omega))
    have R2 := R1.stored4 (.string ⟨#[]⟩) (.int .i64 0) (.bool false) (.int .i64 0)
    clear hb1 L1 R1 K1 K2 C1 hok
    rcases hx with rfl | ⟨rfl, hpw⟩
    · go_wp2
      exact bodyPost_ret (resLit _ _ _ _ _ _ _ _ R2 rfl rfl) rfl ⟨rfl, (by repeat (first | with_reducible exact hB | with_reducible exact Below.refl _ _ | with_reducible refine Below.drew ?_ | ((with_reducible refine Below.setCell ?_ ?_ _); rotate_left; (focus (first | (simp; done) | omega | (simp; omega)))) | with_reducible refine old_alloc ?_ _ | with_reducible refine old_trans ?_ (by with_reducible assumption)))⟩
    · go_wp2
      exact bodyPost_ret (resLit _ _ _ _ _ _ _ _ R2 rfl rfl) rfl ⟨rfl, (by repeat (first | with_reducible exact hB | with_reducible exact Below.refl _ _ | with_reducible refine Below.drew ?_ | ((with_reducible refine Below.setCell ?_ ?_ _); rotate_left; (focus (first | (simp; done) | omega | (simp; omega)))) | with_reducible refine old_alloc ?_ _ | with_reducible refine old_trans ?_ (by with_reducible assumption)))⟩
set_option maxHeartbeats 1000000 in
theorem iDecOk (s : ByteArray) (w : World) : Calls Try.prog 148 #[.string s] w fun e w' => e = .returned (.bool (decI s)) ∧ Below w.heap.size w w' := by
  have L := hd (iLiteral s)
  unfold decI
  unfold litV at L
  cases h : litR s with
  | none =>
    rw [h] at L
    dsimp only at L
    clear h
    go_enter Try.func148, Try.ntmps148
    go_wp2_with fail
    refine (L.out _).mono ?_
    rintro e w1 ⟨rfl, hB⟩
    go_wp2
    go_ret
    exact ⟨rfl, (by repeat (first | with_reducible exact hB | with_reducible exact Below.refl _ _ | with_reducible refine Below.drew ?_ | ((with_reducible refine Below.setCell ?_ ?_ _); rotate_left; (focus (first | (simp; done) | omega | (simp; omega)))) | with_reducible refine old_alloc ?_ _ | with_reducible refine old_trans ?_ (by with_reducible assumption)))⟩
  | some l =>
    rw [h] at L
    dsimp only at L
    clear h
    obtain ⟨ds, pl, dn, pw⟩ := l
    dsimp only at L
    go_enter Try.func148, Try.ntmps148
    go_wp2_with fail
    refine (L.out _).mono ?_
    rintro e w1 ⟨rfl, hB⟩
    go_wp2
    go_ret
    exact ⟨rfl, (by repeat (first | with_reducible exact hB | with_reducible exact Below.refl _ _ | with_reducible refine Below.drew ?_ | ((with_reducible refine Below.setCell ?_ ?_ _); rotate_left; (focus (first | (simp; done) | omega | (simp; omega)))) | with_reducible refine old_alloc ?_ _ | with_reducible refine old_trans ?_ (by with_reducible assumption)))⟩
end Go.Proofs.Ytmpckbgelkfgpaa

/- Mathematics of literals: what the scanner finds, told by places of bytes. No condition. -/
namespace Go.Proofs.Ytmpckbgelkfgpaa
open Go.RowKit
set_option linter.unusedVariables false
set_option maxRecDepth 100000

def bsL (s : ByteArray) : List Int := s.data.toList.map (fun b => (b.toNat : Int))
theorem bsL_len (s : ByteArray) : (bsL s).length = s.size := by unfold bsL; simp
theorem bsL_get (s : ByteArray) (k : Nat) (h : k < s.size) : (bsL s)[k]? = some (byt s k) := by
  have h' : k < s.data.toList.length := by simpa using h
  unfold bsL byt
  rw [List.getElem?_map, List.getElem?_eq_getElem h', List.getD_eq_getElem?_getD, List.getElem?_eq_getElem h']
  rfl
def D (s : ByteArray) (k : Nat) : List Int := (bsL s).drop k
theorem D_cons (s : ByteArray) (k : Nat) (h : k < s.size) : D s k = byt s k :: D s (k + 1) := by
  unfold D
  have hl : k < (bsL s).length := by rw [bsL_len]; exact h
  rw [List.drop_eq_getElem_cons hl]
  have := bsL_get s k h
  rw [List.getElem?_eq_getElem hl] at this
  rw [Option.some.inj this]
theorem D_nil (s : ByteArray) (k : Nat) (h : s.size ≤ k) : D s k = [] := by unfold D; exact List.drop_eq_nil_of_le (by rw [bsL_len]; exact h)
theorem D_len (s : ByteArray) (k : Nat) : (D s k).length = s.size - k := by unfold D; rw [List.length_drop, bsL_len]

def Rel : List Int → List Int → Prop
  | [], [] => True
  | a :: x, b :: y => (a = b ∧ Rel x y) ∨ (128 ≤ a ∧ 128 ≤ b)
  | _, _ => False
theorem rel_runes (s : ByteArray) : ∀ (b i : Nat), s.size ≤ i + b → Rel (runesL s b i) (D s i)
  | 0, i, h => by rw [D_nil s i (by omega)]; unfold runesL; exact trivial
  | b + 1, i, h => by
    unfold runesL
    by_cases hi : i < s.size
    · rw [if_pos hi, D_cons s i hi]
      have e := byt_at s i hi
      by_cases ha : (s[i]'hi).toNat < 128
      · have hd := decode_ascii s i hi ha
        rw [hd]
        exact .inl ⟨e, rel_runes s b (i + 1) (by omega)⟩
      · have hd := decode_high s i hi (by omega)
        exact .inr ⟨by omega, by rw [← e]; omega⟩
    · rw [if_neg hi, D_nil s i (by omega)]; exact trivial
theorem pss_rel {lo hi part : Int} {x y : List Int} {l : Lt} (h : Rel x y) (hh : hi < 128) :
    (pss lo hi part x l = none ∧ pss lo hi part y l = none) ∨ (∃ x' y' l', pss lo hi part x l = some (x', l') ∧ pss lo hi part y l = some (y', l') ∧ Rel x' y') := by
  cases x with
  | nil => cases y with
    | nil => exact .inl ⟨rfl, rfl⟩
    | cons => exact h.elim
  | cons a x => cases y with
    | nil => exact h.elim
    | cons b y =>
      rcases h with ⟨rfl, h⟩ | ⟨h1, h2⟩
      · by_cases c : lo ≤ a ∧ a ≤ hi
        · exact .inr ⟨x, y, _, pss_y c.1 c.2, pss_y c.1 c.2, h⟩
        · exact .inl ⟨pss_n (.inr ⟨_, _, rfl, by omega⟩), pss_n (.inr ⟨_, _, rfl, by omega⟩)⟩
      · exact .inl ⟨pss_n (.inr ⟨_, _, rfl, by omega⟩), pss_n (.inr ⟨_, _, rfl, by omega⟩)⟩
theorem fnl_rel {x y : List Int} {l : Lt} (h : Rel x y) : fnl x l = fnl y l := by
  cases x <;> cases y <;> first | rfl | exact h.elim
theorem pwr_rel {x y : List Int} {l : Lt} (h : Rel x y) : pwr x l = pwr y l := by
  unfold pwr
  rcases pss_rel (lo := 101) (hi := 101) (part := 1) (l := l) h (by decide) with ⟨e1, e2⟩ | ⟨x1, y1, l1, e1, e2, h1⟩
  · rw [e1, e2]; exact fnl_rel h
  rw [e1, e2]
  dsimp only
  rcases pss_rel (lo := 48) (hi := 48) (part := 4) (l := l1) h1 (by decide) with ⟨g1, g2⟩ | ⟨x2, y2, l2, g1, g2, h2⟩
  · rw [g1, g2]
    dsimp only
    obtain ⟨x3, y3, l3, k1, k2, h3⟩ : ∃ x3 y3 l3, (pss 45 45 3 x1 l1).getD (x1, l1) = (x3, l3) ∧ (pss 45 45 3 y1 l1).getD (y1, l1) = (y3, l3) ∧ Rel x3 y3 := by
      rcases pss_rel (lo := 45) (hi := 45) (part := 3) (l := l1) h1 (by decide) with ⟨k1, k2⟩ | ⟨x3, y3, l3, k1, k2, h3⟩
      · exact ⟨x1, y1, l1, by rw [k1]; rfl, by rw [k2]; rfl, h1⟩
      · exact ⟨x3, y3, l3, by rw [k1]; rfl, by rw [k2]; rfl, h3⟩
    rw [k1, k2]
    dsimp only
    rcases pss_rel (lo := 49) (hi := 57) (part := 4) (l := l3) h3 (by decide) with ⟨m1, m2⟩ | ⟨x4, y4, l4, m1, m2, h4⟩
    · rw [m1, m2]
    rw [m1, m2]
    dsimp only
    rcases pss_rel (lo := 48) (hi := 57) (part := 4) (l := l4) h4 (by decide) with ⟨n1, n2⟩ | ⟨x5, y5, l5, n1, n2, h5⟩
    · rw [n1, n2]; exact fnl_rel h4
    rw [n1, n2]
    dsimp only
    rcases pss_rel (lo := 48) (hi := 57) (part := 4) (l := l5) h5 (by decide) with ⟨o1, o2⟩ | ⟨x6, y6, l6, o1, o2, h6⟩
    · rw [o1, o2]; exact fnl_rel h5
    · rw [o1, o2]; exact fnl_rel h6
  · rw [g1, g2]; exact fnl_rel h2
theorem beh_rel : ∀ (x y : List Int) (l : Lt), Rel x y → beh x l = beh y l
  | [], [], l, _ => rfl
  | [], _ :: _, _, h => h.elim
  | _ :: _, [], _, h => h.elim
  | a :: x, b :: y, l, h => by
    have hr := h
    rcases h with ⟨rfl, h⟩ | ⟨h1, h2⟩
    · unfold beh
      by_cases c : 48 ≤ a ∧ a ≤ 57
      · rw [if_pos c, if_pos c]; exact beh_rel x y _ h
      · rw [if_neg c, if_neg c]; exact pwr_rel hr
    · unfold beh
      rw [if_neg (by omega), if_neg (by omega)]
      exact pwr_rel hr
theorem pnt_rel {x y : List Int} {l : Lt} (h : Rel x y) : pnt x l = pnt y l := by
  unfold pnt
  rcases pss_rel (lo := 46) (hi := 46) (part := 1) (l := l) h (by decide) with ⟨e1, e2⟩ | ⟨x1, y1, l1, e1, e2, h1⟩
  · rw [e1, e2]; exact pwr_rel h
  rw [e1, e2]
  dsimp only
  rcases pss_rel (lo := 48) (hi := 57) (part := 2) (l := l1) h1 (by decide) with ⟨g1, g2⟩ | ⟨x2, y2, l2, g1, g2, h2⟩
  · rw [g1, g2]
  · rw [g1, g2]; exact beh_rel _ _ _ h2
theorem whl_rel : ∀ (x y : List Int) (l : Lt), Rel x y → whl x l = whl y l
  | [], [], l, _ => rfl
  | [], _ :: _, _, h => h.elim
  | _ :: _, [], _, h => h.elim
  | a :: x, b :: y, l, h => by
    have hr := h
    rcases h with ⟨rfl, h⟩ | ⟨h1, h2⟩
    · unfold whl
      by_cases c : 48 ≤ a ∧ a ≤ 57
      · rw [if_pos c, if_pos c]; exact whl_rel x y _ h
      · rw [if_neg c, if_neg c]; exact pnt_rel hr
    · unfold whl
      rw [if_neg (by omega), if_neg (by omega)]
      exact pnt_rel hr
theorem scn_rel {x y : List Int} {l : Lt} (h : Rel x y) : scn x l = scn y l := by
  unfold scn
  rcases pss_rel (lo := 48) (hi := 48) (part := 0) (l := l) h (by decide) with ⟨e1, e2⟩ | ⟨x1, y1, l1, e1, e2, h1⟩
  · rw [e1, e2]
    dsimp only
    rcases pss_rel (lo := 49) (hi := 57) (part := 0) (l := l) h (by decide) with ⟨g1, g2⟩ | ⟨x2, y2, l2, g1, g2, h2⟩
    · rw [g1, g2]
    · rw [g1, g2]; exact whl_rel _ _ _ h2
  · rw [e1, e2]; exact pnt_rel h1
theorem scn_bytes (s : ByteArray) (l : Lt) : scn (runesL s s.size 0) l = scn (D s 0) l := scn_rel (rel_runes s s.size 0 (by omega))

/-! ### by places -/
def at' (s : ByteArray) (k : Nat) (lo hi : Int) : Prop := k < s.size ∧ lo ≤ byt s k ∧ byt s k ≤ hi
theorem pss_at {s : ByteArray} {k : Nat} {lo hi part : Int} {l : Lt} (h : at' s k lo hi) : pss lo hi part (D s k) l = some (D s (k + 1), gat part (byt s k) l) := by
  rw [D_cons s k h.1]; exact pss_y h.2.1 h.2.2
theorem pss_off {s : ByteArray} {k : Nat} {lo hi part : Int} {l : Lt} (h : ¬ at' s k lo hi) : pss lo hi part (D s k) l = none := by
  by_cases hk : k < s.size
  · rw [D_cons s k hk]
    exact pss_n (.inr ⟨_, _, rfl, by unfold at' at h; omega⟩)
  · rw [D_nil s k (by omega)]; rfl
def dig' (s : ByteArray) (k : Nat) : Prop := at' s k 48 57
/-- how many digits stand from a place on -/
def dn (s : ByteArray) (k : Nat) : Nat := ((D s k).takeWhile (fun n => decide (48 ≤ n ∧ n ≤ 57))).length
theorem dn_yes {s : ByteArray} {k : Nat} (h : dig' s k) : dn s k = dn s (k + 1) + 1 := by
  unfold dn
  rw [D_cons s k h.1, List.takeWhile_cons_of_pos (by simpa using h.2)]
  rfl
theorem dn_no {s : ByteArray} {k : Nat} (h : ¬ dig' s k) : dn s k = 0 := by
  unfold dn
  by_cases hk : k < s.size
  · rw [D_cons s k hk, List.takeWhile_cons_of_neg (by simp; unfold dig' at' at h; omega)]
    rfl
  · rw [D_nil s k (by omega)]; rfl
theorem dn_run (s : ByteArray) : ∀ (n k : Nat), (∀ i, i < n → dig' s (k + i)) → dn s k = dn s (k + n) + n
  | 0, k, _ => rfl
  | n + 1, k, h => by
    rw [dn_yes (k := k) (h 0 (by omega)), dn_run s n (k + 1) (fun i hi => by have := h (i + 1) (by omega); rwa [show k + (i + 1) = k + 1 + i by omega] at this)]
    rw [show k + 1 + n = k + (n + 1) by omega]
    omega
theorem dn_eq {s : ByteArray} {n k : Nat} (h : ∀ i, i < n → dig' s (k + i)) (g : ¬ dig' s (k + n)) : dn s k = n := by
  rw [dn_run s n k h, dn_no g]; omega
theorem dn_dig (s : ByteArray) : ∀ (n k i : Nat), dn s k = n → i < n → dig' s (k + i)
  | 0, _, _, _, h => absurd h (by omega)
  | n + 1, k, i, e, h => by
    by_cases c : dig' s k
    · cases i with
      | zero => exact c
      | succ i =>
        have := dn_dig s n (k + 1) i (by rw [dn_yes c] at e; omega) (by omega)
        rwa [show k + 1 + i = k + (i + 1) by omega] at this
    · rw [dn_no c] at e; omega
def gats (s : ByteArray) (part : Int) : Nat → Nat → Lt → Lt
  | 0, _, l => l
  | n + 1, k, l => gats s part n (k + 1) (gat part (byt s k) l)
theorem whl_run (s : ByteArray) : ∀ (n k : Nat) (l : Lt), dn s k = n → whl (D s k) l = pnt (D s (k + n)) (gats s 0 n k l)
  | 0, k, l, e => by
    have c : ¬ dig' s k := fun c => by rw [dn_yes c] at e; omega
    exact whl_n (pss_off c)
  | n + 1, k, l, e => by
    have c : dig' s k := by
      by_cases c : dig' s k
      · exact c
      · rw [dn_no c] at e; omega
    rw [D_cons s k c.1, whl_y c.2.1 c.2.2, whl_run s n (k + 1) _ (by rw [dn_yes c] at e; omega)]
    rw [show k + 1 + n = k + (n + 1) by omega]
    rfl
theorem beh_run (s : ByteArray) : ∀ (n k : Nat) (l : Lt), dn s k = n → beh (D s k) l = pwr (D s (k + n)) (gats s 2 n k l)
  | 0, k, l, e => by
    have c : ¬ dig' s k := fun c => by rw [dn_yes c] at e; omega
    exact beh_n (pss_off c)
  | n + 1, k, l, e => by
    have c : dig' s k := by
      by_cases c : dig' s k
      · exact c
      · rw [dn_no c] at e; omega
    rw [D_cons s k c.1, beh_y c.2.1 c.2.2, beh_run s n (k + 1) _ (by rw [dn_yes c] at e; omega)]
    rw [show k + 1 + n = k + (n + 1) by omega]
    rfl
theorem gat_pw {part r : Int} {l : Lt} (h : part ≠ 4) : (gat part r l).pw = l.pw := by
  unfold gat
  repeat' split
  all_goals first | rfl | (exfalso; omega)
theorem gats_pw (s : ByteArray) {part : Int} (h : part ≠ 4) : ∀ (n k : Nat) (l : Lt), (gats s part n k l).pw = l.pw
  | 0, _, _ => rfl
  | n + 1, k, l => (gats_pw s h n (k + 1) _).trans (gat_pw h)
theorem gat4_pw (r : Int) (l : Lt) : (gat 4 r l).pw = 10 * l.pw + (r - 48) := by unfold gat; simp
/-- the number that digits say -/
def nm (s : ByteArray) (a : Nat) : Nat → Int
  | 0 => 0
  | k + 1 => 10 * nm s a k + (byt s (a + k) - 48)
def expS (s : ByteArray) (k : Nat) : Bool :=
  if k < s.size ∧ byt s k = 101 then
    (if dn s (k + 1 + (if k + 1 < s.size ∧ byt s (k + 1) = 45 then 1 else 0)) = 0 ∨ 3 < dn s (k + 1 + (if k + 1 < s.size ∧ byt s (k + 1) = 45 then 1 else 0)) ∨
      ((1 < dn s (k + 1 + (if k + 1 < s.size ∧ byt s (k + 1) = 45 then 1 else 0)) ∨ (k + 1 < s.size ∧ byt s (k + 1) = 45)) ∧ byt s (k + 1 + (if k + 1 < s.size ∧ byt s (k + 1) = 45 then 1 else 0)) = 48)
     then false
     else decide (nm s (k + 1 + (if k + 1 < s.size ∧ byt s (k + 1) = 45 then 1 else 0)) (dn s (k + 1 + (if k + 1 < s.size ∧ byt s (k + 1) = 45 then 1 else 0))) ≤ 400) &&
       decide (k + 1 + (if k + 1 < s.size ∧ byt s (k + 1) = 45 then 1 else 0) + dn s (k + 1 + (if k + 1 < s.size ∧ byt s (k + 1) = 45 then 1 else 0)) = s.size))
  else decide (k = s.size)
def decS (s : ByteArray) : Bool :=
  if 60 < s.size ∨ dn s 0 = 0 ∨ (1 < dn s 0 ∧ byt s 0 = 48) then false
  else if dn s 0 < s.size ∧ byt s (dn s 0) = 46 then (if dn s (dn s 0 + 1) = 0 then false else expS s (dn s 0 + 1 + dn s (dn s 0 + 1)))
  else expS s (dn s 0)
theorem fnl_D (s : ByteArray) (k : Nat) (l : Lt) (h : k ≤ s.size) : fnl (D s k) l = (decide (k = s.size), l) := by
  unfold fnl
  rw [D_len]
  congr 1
  exact decide_eq_decide.2 (by omega)
end Go.Proofs.Ytmpckbgelkfgpaa

/- Mathematics of literals: the scanner finds just those that the document tells. No condition. -/
namespace Go.Proofs.Ytmpckbgelkfgpaa
open Go.RowKit
set_option linter.unusedVariables false
set_option maxRecDepth 100000

theorem at_101 {s : ByteArray} {k : Nat} : at' s k 101 101 ↔ (k < s.size ∧ byt s k = 101) := by unfold at'; omega
theorem at_48 {s : ByteArray} {k : Nat} : at' s k 48 48 ↔ (k < s.size ∧ byt s k = 48) := by unfold at'; omega
theorem at_45 {s : ByteArray} {k : Nat} : at' s k 45 45 ↔ (k < s.size ∧ byt s k = 45) := by unfold at'; omega
theorem at_46 {s : ByteArray} {k : Nat} : at' s k 46 46 ↔ (k < s.size ∧ byt s k = 46) := by unfold at'; omega
def okR (r : Bool × Lt) : Prop := r.1 = true ∧ r.2.pw ≤ 400
theorem okR_fnl {s : ByteArray} {k : Nat} {l : Lt} (h : k ≤ s.size) : okR (fnl (D s k) l) ↔ (k = s.size ∧ l.pw ≤ 400) := by
  rw [fnl_D s k l h]; unfold okR; simp
/-- behind the sign of a power -/
theorem pow_tail {s : ByteArray} {a : Nat} {l : Lt} (hl : l.pw = 0) (h : at' s a 49 57) :
    okR (match pss 48 57 4 (D s (a + 1)) (gat 4 (byt s a) l) with
        | none => fnl (D s (a + 1)) (gat 4 (byt s a) l)
        | some z => fnl ((pss 48 57 4 z.1 z.2).getD z).1 ((pss 48 57 4 z.1 z.2).getD z).2) ↔ (dn s a ≤ 3 ∧ nm s a (dn s a) ≤ 400 ∧ a + dn s a = s.size) := by
  have d0 : dig' s a := ⟨h.1, by have := h.2; omega, h.2.2⟩
  have p1 : (gat 4 (byt s a) l).pw = nm s a 1 := by rw [gat4_pw, hl]; unfold nm nm; simp
  by_cases h2 : dig' s (a + 1)
  · rw [pss_at h2]
    dsimp only
    have p2 : (gat 4 (byt s (a + 1)) (gat 4 (byt s a) l)).pw = nm s a 2 := by rw [gat4_pw, p1]; rfl
    by_cases h3 : dig' s (a + 1 + 1)
    · rw [pss_at h3]
      dsimp only [Option.getD_some]
      have p3 : (gat 4 (byt s (a + 1 + 1)) (gat 4 (byt s (a + 1)) (gat 4 (byt s a) l))).pw = nm s a 3 := by rw [gat4_pw, p2]; rfl
      rw [okR_fnl (by have := h3.1; omega), p3]
      have e3 : dn s a = dn s (a + 1 + 1 + 1) + 3 := by rw [dn_yes d0, dn_yes h2, dn_yes h3]
      by_cases h4 : dig' s (a + 1 + 1 + 1)
      · have := dn_yes h4
        have := h4.1
        constructor <;> intro q <;> omega
      · rw [dn_no h4] at e3
        rw [e3]
        constructor
        · intro q; exact ⟨by omega, q.2, by omega⟩
        · intro q; exact ⟨by omega, q.2.1⟩
    · rw [pss_off h3]
      dsimp only [Option.getD_none]
      have e3 : dn s a = 2 := by rw [dn_yes d0, dn_yes h2, dn_no h3]
      rw [okR_fnl (by have := h2.1; omega), p2, e3]
      constructor
      · intro q; exact ⟨by omega, q.2, by omega⟩
      · intro q; exact ⟨by omega, q.2.1⟩
  · rw [pss_off h2]
    dsimp only
    have e3 : dn s a = 1 := by rw [dn_yes d0, dn_no h2]
    rw [okR_fnl (by have := h.1; omega), p1, e3]
    constructor
    · intro q; exact ⟨by omega, q.2, by omega⟩
    · intro q; exact ⟨by omega, q.2.1⟩
theorem pow_sign {s : ByteArray} {a : Nat} {l : Lt} (hl : l.pw = 0) (x : List Int × Lt) (ex : x = (D s a, l)) :
    okR (match pss 49 57 4 x.1 x.2 with
      | none => (false, x.2)
      | some y => match pss 48 57 4 y.1 y.2 with
        | none => fnl y.1 y.2
        | some z => fnl ((pss 48 57 4 z.1 z.2).getD z).1 ((pss 48 57 4 z.1 z.2).getD z).2) ↔ (at' s a 49 57 ∧ dn s a ≤ 3 ∧ nm s a (dn s a) ≤ 400 ∧ a + dn s a = s.size) := by
  subst ex
  dsimp only
  by_cases h : at' s a 49 57
  · rw [pss_at h]
    dsimp only
    rw [pow_tail hl h]
    constructor
    · intro q; exact ⟨h, q⟩
    · intro q; exact q.2
  · rw [pss_off h]
    dsimp only
    unfold okR
    constructor
    · intro q; cases q.1
    · intro q; exact (h q.1).elim
theorem pwr_eq {s : ByteArray} {k : Nat} {l : Lt} (hk : k ≤ s.size) (hl : l.pw = 0) : okR (pwr (D s k) l) ↔ expS s k = true := by
  unfold pwr expS
  by_cases he : k < s.size ∧ byt s k = 101
  case neg =>
    rw [pss_off (fun h => he (at_101.1 h)), if_neg he]
    dsimp only
    rw [okR_fnl hk]
    simp
    intro _
    omega
  rw [pss_at (at_101.2 he), if_pos he]
  dsimp only
  have g1 : (gat 1 (byt s k) l).pw = 0 := (gat_pw (by decide)).trans hl
  generalize gat 1 (byt s k) l = l1 at *
  by_cases h0 : k + 1 < s.size ∧ byt s (k + 1) = 48
  · have hm : ¬ (k + 1 < s.size ∧ byt s (k + 1) = 45) := by omega
    rw [pss_at (at_48.2 h0), if_neg hm]
    dsimp only
    have d0 : dig' s (k + 1) := ⟨h0.1, by omega, by omega⟩
    have e := dn_yes d0
    have eg : (gat 4 (byt s (k + 1)) l1).pw = 0 := by rw [gat4_pw, g1, h0.2]; decide
    rw [okR_fnl (by omega), eg]
    simp only [Nat.add_zero]
    by_cases h1 : dig' s (k + 1 + 1)
    · have e1 := dn_yes h1
      rw [if_pos (show dn s (k + 1) = 0 ∨ 3 < dn s (k + 1) ∨ ((1 < dn s (k + 1) ∨ (k + 1 < s.size ∧ byt s (k + 1) = 45)) ∧ byt s (k + 1) = 48) from .inr (.inr ⟨.inl (by omega), h0.2⟩))]
      have := h1.1
      constructor
      · intro q; omega
      · intro q; cases q
    · rw [dn_no h1] at e
      rw [e, if_neg (by omega)]
      have en : nm s (k + 1) (0 + 1) = 0 := by unfold nm nm; simp; omega
      rw [en]
      simp
  · rw [pss_off (fun h => h0 (at_48.1 h))]
    dsimp only
    by_cases hm : k + 1 < s.size ∧ byt s (k + 1) = 45
    · have ex : (pss 45 45 3 (D s (k + 1)) l1).getD (D s (k + 1), l1) = (D s (k + 1 + 1), gat 3 (byt s (k + 1)) l1) := by rw [pss_at (at_45.2 hm)]; rfl
      refine (pow_sign (a := k + 1 + 1) ((gat_pw (by decide)).trans g1) _ ex).trans ?_
      rw [if_pos hm]
      generalize k + 1 + 1 = a at *
      by_cases h : at' s a 49 57
      · have d0 : dig' s a := ⟨h.1, by have := h.2; omega, h.2.2⟩
        have := dn_yes d0
        have h' := h.2
        by_cases h3 : 3 < dn s a
        · rw [if_pos (.inr (.inl h3))]
          constructor
          · intro q; omega
          · intro q; cases q
        · rw [if_neg (by omega)]
          simp
          constructor
          · intro q; exact ⟨q.2.2.1, q.2.2.2⟩
          · intro q; exact ⟨h, by omega, q.1, q.2⟩
      · rw [if_pos (by
          by_cases c : dig' s a
          · have c' := c.2
            exact .inr (.inr ⟨.inr hm, by have : ¬ (49 ≤ byt s a ∧ byt s a ≤ 57) := fun g => h ⟨c.1, g⟩; omega⟩)
          · exact .inl (dn_no c))]
        constructor
        · intro q; exact (h q.1).elim
        · intro q; cases q
    · have ex : (pss 45 45 3 (D s (k + 1)) l1).getD (D s (k + 1), l1) = (D s (k + 1), l1) := by rw [pss_off (fun h => hm (at_45.1 h))]; rfl
      refine (pow_sign (a := k + 1) g1 _ ex).trans ?_
      rw [if_neg hm]
      simp only [Nat.add_zero]
      by_cases h : at' s (k + 1) 49 57
      · have d0 : dig' s (k + 1) := ⟨h.1, by have := h.2; omega, h.2.2⟩
        have := dn_yes d0
        have h' := h.2
        by_cases h3 : 3 < dn s (k + 1)
        · rw [if_pos (.inr (.inl h3))]
          constructor
          · intro q; omega
          · intro q; cases q
        · rw [if_neg (by omega)]
          simp
          constructor
          · intro q; exact ⟨q.2.2.1, q.2.2.2⟩
          · intro q; exact ⟨h, by omega, q.1, q.2⟩
      · rw [if_pos (by
          by_cases c : dig' s (k + 1)
          · have c' := c.2
            have c1 := c.1
            exfalso
            have : ¬ (49 ≤ byt s (k + 1) ∧ byt s (k + 1) ≤ 57) := fun g => h ⟨c.1, g⟩
            omega
          · exact .inl (dn_no c))]
        constructor
        · intro q; exact (h q.1).elim
        · intro q; cases q
theorem pnt_eq {s : ByteArray} {k : Nat} {l : Lt} (hk : k ≤ s.size) (hl : l.pw = 0) : okR (pnt (D s k) l) ↔ (if k < s.size ∧ byt s k = 46 then (if dn s (k + 1) = 0 then false else expS s (k + 1 + dn s (k + 1))) else expS s k) = true := by
  unfold pnt
  by_cases he : k < s.size ∧ byt s k = 46
  case neg =>
    rw [pss_off (fun h => he (at_46.1 h)), if_neg he]
    exact pwr_eq hk hl
  rw [pss_at (at_46.2 he), if_pos he]
  dsimp only
  have g1 : (gat 1 (byt s k) l).pw = 0 := (gat_pw (by decide)).trans hl
  generalize gat 1 (byt s k) l = l1 at *
  by_cases h : dig' s (k + 1)
  · rw [pss_at h, if_neg (by have := dn_yes h; omega)]
    dsimp only
    rw [beh_run s _ _ _ rfl]
    have e := dn_yes h
    rw [show k + 1 + 1 + dn s (k + 1 + 1) = k + 1 + dn s (k + 1) by omega]
    refine pwr_eq ?_ ((gats_pw s (by decide) _ _ _).trans ((gat_pw (by decide)).trans g1))
    have := dn_dig s _ (k + 1) (dn s (k + 1) - 1) rfl (by omega)
    have := this.1
    omega
  · rw [pss_off h, if_pos (dn_no h)]
    dsimp only
    unfold okR
    constructor
    · intro q; cases q.1
    · intro q; cases q
theorem decS_bad {s : ByteArray} (h : 60 < s.size ∨ dn s 0 = 0 ∨ (1 < dn s 0 ∧ byt s 0 = 48)) : decS s = false := by unfold decS; rw [if_pos h]
theorem decS_ok {s : ByteArray} (h : ¬ (60 < s.size ∨ dn s 0 = 0 ∨ (1 < dn s 0 ∧ byt s 0 = 48))) : decS s = if dn s 0 < s.size ∧ byt s (dn s 0) = 46 then (if dn s (dn s 0 + 1) = 0 then false else expS s (dn s 0 + 1 + dn s (dn s 0 + 1))) else expS s (dn s 0) := by unfold decS; rw [if_neg h]
theorem scn_eq {s : ByteArray} (h60 : ¬ 60 < s.size) : okR (scn (D s 0) lt0) ↔ decS s = true := by
  unfold scn
  by_cases h0 : at' s 0 48 48
  · rw [pss_at h0]
    dsimp only
    have d0 : dig' s 0 := ⟨h0.1, h0.2.1, by have := h0.2; omega⟩
    have b0 := (at_48.1 h0).2
    have e := dn_yes d0
    refine (pnt_eq (by have := h0.1; omega) (gat_pw (by decide))).trans ?_
    by_cases h1 : dig' s (0 + 1)
    · have e1 := dn_yes h1
      have h1' := h1.1
      have h1'' := h1.2
      rw [decS_bad (.inr (.inr ⟨by omega, b0⟩)), if_neg (by omega)]
      unfold expS
      rw [if_neg (by omega)]
      constructor
      · intro q
        have q' := of_decide_eq_true q
        omega
      · intro q; cases q
    · rw [dn_no h1] at e
      rw [decS_ok (by omega), e]
  · rw [pss_off h0]
    dsimp only
    by_cases h1 : at' s 0 49 57
    · rw [pss_at h1]
      dsimp only
      have d0 : dig' s 0 := ⟨h1.1, by have := h1.2; omega, h1.2.2⟩
      have e := dn_yes d0
      rw [whl_run s _ _ _ rfl, decS_ok (by have := h1.2; omega)]
      rw [show 0 + 1 + dn s (0 + 1) = dn s 0 by omega]
      refine pnt_eq ?_ ((gats_pw s (by decide) _ _ _).trans (gat_pw (by decide)))
      have := dn_dig s _ 0 (dn s 0 - 1) rfl (by omega)
      have := this.1
      omega
    · rw [pss_off h1]
      dsimp only
      have c : ¬ dig' s 0 := fun c => by
        have c' := c.2
        have g0 : ¬ (byt s 0 = 48) := fun g => h0 (at_48.2 ⟨c.1, g⟩)
        exact h1 ⟨c.1, by omega, c.2.2⟩
      rw [decS_bad (.inr (.inl (dn_no c)))]
      unfold okR
      constructor
      · intro q; cases q.1
      · intro q; cases q
theorem dec_eq (s : ByteArray) : decI s = decS s := by
  unfold decI litR
  by_cases h60 : 60 < s.size
  · rw [if_neg (by omega), decS_bad (.inl h60)]; rfl
  rw [if_pos (by omega), scn_bytes]
  have key := scn_eq h60
  by_cases c : okR (scn (D s 0) lt0)
  · rw [if_pos (show _ ∧ _ from c), key.1 c]; rfl
  · rw [if_neg (show ¬ (_ ∧ _) from c)]
    have g : ¬ decS s = true := fun g => c (key.2 g)
    rw [Bool.not_eq_true] at g
    rw [g]; rfl
end Go.Proofs.Ytmpckbgelkfgpaa

/- Literals of the specification: runs of digits. Nothing is written. No condition but that the place lies in the text. -/
namespace Go.Proofs.Ytmpckbgelkfgpaa
open Go.RowKit
set_option linter.unusedVariables false
set_option maxRecDepth 100000

theorem dig_iff {s : ByteArray} {k : Nat} (h : k < s.size) : dig' s k ↔ (48 ≤ byt s k ∧ byt s k ≤ 57) := ⟨fun g => g.2, fun g => ⟨h, g⟩⟩
theorem dn_le (s : ByteArray) (k : Nat) (h : k ≤ s.size) : k + dn s k ≤ s.size := by
  by_cases c : dn s k = 0
  · omega
  · have := dn_dig s _ k (dn s k - 1) rfl (by omega)
    have := this.1
    omega
set_option maxHeartbeats 2000000 in
theorem sRun11 (s : ByteArray) (k : Nat) (hk : k ≤ s.size) (hs : s.size ≤ maxLen) (w : World) : Calls Try.prog 147 #[.string s, .int .i64 (k : Int)] w fun e w' => e = .returned (.int .i64 (dn s k)) ∧ w' = w := by
  unfold maxLen at hs
  go_enter Try.func147, Try.ntmps147
  go_wp2
  go_loopw [5] (fun a wr => ∃ n : Nat, k + n ≤ s.size ∧ a = .int .i64 n ∧ (∀ i, i < n → dig' s (k + i)) ∧ wr = w) (fun b _ => s.size - k - (intOf b).toNat)
  case atStart => exact ⟨0, by omega, rfl, fun i h => absurd h (by omega), rfl⟩
  case round =>
    obtain ⟨n, hn, rfl, hd0, rfl⟩ := hrel
    by_cases hlt : k + n < s.size
    · have ix := idxS (t := 9) Try.underlying9 s (k + n) hlt
      have fin := hd (fun (g : ¬ dig' s (k + n)) => dn_eq hd0 g)
      have go := hd (fun (g : dig' s (k + n)) i (hi : i < n + 1) => (by
        by_cases e : i = n
        · subst e; exact g
        · exact hd0 i (by omega) : dig' s (k + i)))
      have di := hd (dig_iff hlt)
      have hlt' : (k : Int) + (n : Int) < (s.size : Int) := by omega
      have DD := hd (sDigit (byt s (k + n)))
      have ed : isD (byt s (k + n)) = (decide (48 ≤ byt s (k + n)) && decide (byt s (k + n) ≤ 57)) := rfl
      push_cast at ix
      generalize isD (byt s (k + n)) = dd at *
      generalize byt s (k + n) = b at *
      clear hd0
      cases dd
      · have no : ¬ (48 ≤ b ∧ b ≤ 57) := by
          intro q
          simp [q.1, q.2] at ed
        clear ed
        go_wp2_with fail
        refine (DD.out _).mono ?_
        rintro e w1 ⟨rfl, rfl⟩
        go_wp2
        go_ret
        refine ⟨?_, rfl⟩
        rw [fin.out (fun g => no (di.out.1 g))]
        rfl
      · have yes : 48 ≤ b ∧ b ≤ 57 := by simpa using ed.symm
        clear ed
        go_wp2_with fail
        refine (DD.out _).mono ?_
        rintro e w1 ⟨rfl, rfl⟩
        go_wp2
        go_roundw
        case rel => exact ⟨n + 1, by omega, by go_num, go.out (di.out.2 yes), trivial⟩
        case measure => simp [intOf]; omega
    · have hlt' : ¬ (k : Int) + (n : Int) < (s.size : Int) := by omega
      have fin := dn_eq hd0 (fun g => hlt g.1)
      go_wp2
      go_ret
      exact ⟨rfl, rfl⟩
end Go.Proofs.Ytmpckbgelkfgpaa
