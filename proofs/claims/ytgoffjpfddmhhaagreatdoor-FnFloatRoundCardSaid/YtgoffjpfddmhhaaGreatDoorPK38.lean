/- The draw of a width and a fraction, halves between floats among them. Nothing that was there is written. -/
import Derived.Test.YtgoffjpfddmhhaaGreatDoorPK37
import Derived.Test.YtgoffjpfddmhhaaGreatDoorPK22
import Derived.Test.YtgoffjpfddmhhaaGreatDoorPK36
import Derived.Test.YtgoffjpfddmhhaaGreatDoorPK35
import Derived.Deep.RegionHeld3
import Derived.Test.YtgoffjpfddmhhaaGreatDoorPK19
import Derived.Test.YtgoffjpfddmhhaaGreatDoorPK32
import Derived.Test.YtgoffjpfddmhhaaGreatDoorPK20
namespace Go.Proofs.YtgoffjpfddmhhaaGreatDoor
open Go.RowKit
set_option linter.unusedVariables false
set_option maxRecDepth 100000

theorem But.below2 {rb n : Nat} {a b c : World} (h : Below n a b) (k : But rb b c) (hn : n ≤ rb) (hs : n ≤ b.heap.size) : Below n a c :=
  ⟨k.os.trans h.os, k.tape.trans h.tape, k.output.trans h.output, Nat.le_trans h.size k.size, fun i hi => (k.block i (by omega) (by omega)).trans (h.block i hi)⟩
theorem resDN {W : World} {b : Nat} {v0 v1 v2 : Value} {tmps : Array Value} {wd : Int} (h : Cel3 W b v0 v1 v2) (ht : tmps[3]? = some (.pointer (some ⟨b, 0, none⟩))) (h2 : tmps[2]? = some (.int .i64 wd)) : (results Tryz.f6 tmps).run Tryz.prog W = .ok (.tuple #[.int .i64 wd, .agg #[v0, v1, v2]]) W := by
  obtain ⟨h1, ⟨a0, a1, a2⟩, -⟩ := h
  simp [results, Tryz.results6, go_sem, a0, a1, a2, ht, h2]
theorem sWidA (wd : Int) (w : World) : Calls Tryz.prog 25 #[.int .i64 wd] w fun e w' => e = .returned (.bool (decide (wd = 32 ∨ wd = 64))) ∧ w' = w := by
  by_cases h1 : wd = 32
  · subst h1
    exact sWid32 w
  by_cases h2 : wd = 64
  · subst h2
    exact sWid64 w
  rw [decide_eq_false (by omega)]
  have g1 : (wd == 32) = false := beq_eq_false_iff_ne.2 h1
  have g2 : (wd == 64) = false := beq_eq_false_iff_ne.2 h2
  go_enter Tryz.func25, Tryz.ntmps25
  go_wp2
  go_ret
  exact ⟨rfl, rfl⟩
theorem sUpAny (wd n : Int) (h1 : -9223372036854775808 ≤ n) (h2 : n ≤ 9223372036854775807) : ∃ m : Int, ∀ w, Calls Tryz.prog 27 #[.int .i64 wd, .int .i64 n] w fun e w' => e = .returned (.int .i64 m) ∧ Below w.heap.size w w' := by
  have O := fun w => sOk wd n w
  have T := fun w => sTopR wd w
  have hT := (topI_bd wd).2
  replace O := hd O
  replace T := hd T
  have hle : Hid (okB wd n = true → n ≤ topI wd) := fun h => by
    by_cases c1 : wd = 32
    · subst c1; rw [okB_32] at h; have := of_decide_eq_true h; show n ≤ topI 32; unfold topI; simp; omega
    by_cases c2 : wd = 64
    · subst c2; rw [okB_64] at h; have := of_decide_eq_true h; show n ≤ topI 64; unfold topI; simp; omega
    rw [okB_no n c1 c2] at h; cases h
  generalize topI wd = t at *
  cases hk : okB wd n
  · rw [hk] at O
    refine ⟨0, fun w => ?_⟩
    clear hk hle
    go_enter Tryz.func27, Tryz.ntmps27
    go_wp2_with fail
    refine (O.out _).mono ?_
    rintro e w1 ⟨rfl, hb1⟩
    go_wp2
    go_ret
    exact ⟨rfl, hb1⟩
  · rw [hk] at O
    have hl := hle.out hk
    clear hk hle
    by_cases he : n = t
    · subst he
      refine ⟨n, fun w => ?_⟩
      go_enter Tryz.func27, Tryz.ntmps27
      go_wp2_with fail
      refine (O.out _).mono ?_
      rintro e w1 ⟨rfl, hb1⟩
      go_wp2_with fail
      refine (T.out _).mono ?_
      rintro e w2 ⟨rfl, rfl⟩
      go_wp2
      go_ret
      exact ⟨rfl, hb1⟩
    · have ne : (n == t) = false := beq_eq_false_iff_ne.2 he
      refine ⟨n + 1, fun w => ?_⟩
      go_enter Tryz.func27, Tryz.ntmps27
      go_wp2_with fail
      refine (O.out _).mono ?_
      rintro e w1 ⟨rfl, hb1⟩
      go_wp2_with fail
      refine (T.out _).mono ?_
      rintro e w2 ⟨rfl, rfl⟩
      go_wp2
      go_ret
      exact ⟨rfl, hb1⟩
set_option maxHeartbeats 8000000 in
theorem drawFloatNear (w : World) (a : Option Addr) (len cap : Nat) (h : IsCode w a len cap) :
    Calls Tryz.prog 6 #[.slice a len cap] w fun e w' => (∃ (wd : Int) (s : Bool) (av : Option Addr) (cv : Nat) (xs : List Int) (av' : Option Addr) (cv' : Nat) (ys : List Int), (-64 ≤ wd ∧ wd ≤ 64) ∧ e = .returned (.tuple #[.int .i64 wd, .agg #[.bool s, .slice av (List.length xs) cv, .slice av' (List.length ys) cv']]) ∧ OI w' w.heap.size av cv xs ∧ OI w' w.heap.size av' cv' ys) ∧ Below w.heap.size w w' := by
  have e0 : Below w.heap.size w (w.alloc (.cells #[.bool false, .slice none 0 0, .slice none 0 0] 25)) := old_alloc (Below.refl _ _) _
  have h0 := h.old e0
  go_enter Tryz.func6, Tryz.ntmps6
  go_wp2_with fail
  refine (open_k _ a len cap h0).mono ?_
  rintro e w1 ⟨rfl, o, rfl, R⟩
  have Z := (Cel3.new w (.bool false) (.slice none 0 0) (.slice none 0 0) 25).old (old_alloc (Below.refl _ _) o)
  have hw1 := old_trans e0 (old_alloc (Below.refl _ _) o : Below (w.alloc (.cells #[.bool false, .slice none 0 0, .slice none 0 0] 25)).heap.size (w.alloc (.cells #[.bool false, .slice none 0 0, .slice none 0 0] 25)) ((w.alloc (.cells #[.bool false, .slice none 0 0, .slice none 0 0] 25)).alloc o))
  have hrb : (w.alloc (.cells #[.bool false, .slice none 0 0, .slice none 0 0] 25)).heap.size = w.heap.size + 1 := by simp
  have hs1 : ((w.alloc (.cells #[.bool false, .slice none 0 0, .slice none 0 0] 25)).alloc o).heap.size = w.heap.size + 2 := by simp
  rw [hrb] at R
  rw [hrb]
  replace hrb := hd hrb
  generalize (w.alloc (.cells #[.bool false, .slice none 0 0, .slice none 0 0] 25)).alloc o = W1 at *
  clear e0 h0 h
  obtain ⟨rb, hrb2⟩ : ∃ rb, w.heap.size + 1 = rb := ⟨_, rfl⟩
  rw [hrb2] at R ⊢
  have hrb3 : rb = w.heap.size + 1 := hrb2.symm
  replace hrb2 := hd hrb2
  have B := But.refl rb W1
  have hrw : w.heap.size ≠ rb := by omega
  replace hrb3 : w.heap.size < rb ∧ rb < w.heap.size + 2 := by omega
  obtain ⟨hr1, hr2⟩ := hrb3
  obtain ⟨Za, ⟨Zb, Zc, Zd⟩, Zx, Zy, Zz⟩ := id Z
  have Zl1 := Nat.ne_of_lt Za
  have Zl2 := Nat.ne_of_gt Za
  go_wp2_with fail
  refine (width_k rb 998 _ R).mono ?_
  rintro e w1 ⟨⟨wd, ⟨d1, d2⟩, rfl⟩, R', hB'⟩
  clear Za Zb Zc Zd Zx Zy Zz Zl1 Zl2
  replace Z := Z.but hB' (by omega)
  replace R := R'
  replace B := B.trans hB'
  clear hB' 
  obtain ⟨Za, ⟨Zb, Zc, Zd⟩, Zx, Zy, Zz⟩ := id Z
  have Zl1 := Nat.ne_of_lt Za
  have Zl2 := Nat.ne_of_gt Za
  go_wp2_with fail
  refine (pick_k rb 997 _ _ R (by decide)).mono ?_
  rintro e w2 ⟨⟨q, ⟨q1, q2⟩, rfl⟩, R', hB'⟩
  clear Za Zb Zc Zd Zx Zy Zz Zl1 Zl2
  replace Z := Z.but hB' (by omega)
  replace R := R'
  replace B := B.trans hB'
  clear hB' 
  obtain ⟨Za, ⟨Zb, Zc, Zd⟩, Zx, Zy, Zz⟩ := id Z
  have Zl1 := Nat.ne_of_lt Za
  have Zl2 := Nat.ne_of_gt Za
  by_cases hq : q = 0
  case neg =>
    have hqb : (q == 0) = false := beq_eq_false_iff_ne.2 hq
    clear Za Zb Zc Zd Zx Zy Zz Zl1 Zl2
    obtain ⟨Za, ⟨Zb, Zc, Zd⟩, Zx, Zy, Zz⟩ := id Z
    have Zl1 := Nat.ne_of_lt Za
    have Zl2 := Nat.ne_of_gt Za
    go_wp2_with fail
    refine (frac_k rb 100 _ (R.mono (by omega))).mono ?_
    rintro e w3 ⟨⟨s5, avE, cvE, es, avE', cvE', fs, rfl, E, E'⟩, R', hB'⟩
    clear Za Zb Zc Zd Zx Zy Zz Zl1 Zl2
    have sz := R.lt
    replace E := E.mono (base' := w.heap.size + 2) (by first | exact sz | omega | (simp at sz; omega) | (simp; omega))
    replace E' := E'.mono (base' := w.heap.size + 2) (by first | exact sz | omega | (simp at sz; omega) | (simp; omega))
    replace Z := Z.but hB' (by omega)
    replace B := B.trans hB'
    obtain ⟨Za, ⟨Zb, Zc, Zd⟩, Zx, Zy, Zz⟩ := id Z
    have Zl1 := Nat.ne_of_lt Za
    have Zl2 := Nat.ne_of_gt Za
    have sx : ∀ q, avE = some q → q.block ≠ w.heap.size := fun q e => by have := E.ge q e; omega
    have sy : ∀ q, avE' = some q → q.block ≠ w.heap.size := fun q e => by have := E'.ge q e; omega
    go_wp2
    exact bodyPost_ret (resDN (wd := wd) ((Z.setAll (.bool s5) (.slice avE es.length cvE) (.slice avE' fs.length cvE'))) rfl rfl) rfl ⟨⟨wd, s5, avE, cvE, es, avE', cvE', fs, ⟨d1, d2⟩, rfl, (((E.other (c := w.heap.size) sx 0 _).other (c := w.heap.size) sx 1 _).other (c := w.heap.size) sx 2 _).mono (by omega), (((E'.other (c := w.heap.size) sy 0 _).other (c := w.heap.size) sy 1 _).other (c := w.heap.size) sy 2 _).mono (by omega)⟩, (((But.below2 hw1 B (by omega) (by omega)).setCell (p := ⟨w.heap.size, 0, none⟩) (by simp) _).setCell (p := ⟨w.heap.size, 1, none⟩) (by simp) _).setCell (p := ⟨w.heap.size, 2, none⟩) (by simp) _⟩
  subst hq
  have WA := hd (sWidA wd)
  by_cases hwd : wd = 32 ∨ wd = 64
  case neg =>
    rw [decide_eq_false hwd] at WA
    go_wp2_with fail
    refine (WA.out _).mono ?_
    rintro e wv ⟨rfl, rfl⟩
    clear hwd WA
    clear Za Zb Zc Zd Zx Zy Zz Zl1 Zl2
    obtain ⟨Za, ⟨Zb, Zc, Zd⟩, Zx, Zy, Zz⟩ := id Z
    have Zl1 := Nat.ne_of_lt Za
    have Zl2 := Nat.ne_of_gt Za
    go_wp2_with fail
    refine (frac_k rb 100 _ (R.mono (by omega))).mono ?_
    rintro e w3 ⟨⟨s5, avE, cvE, es, avE', cvE', fs, rfl, E, E'⟩, R', hB'⟩
    clear Za Zb Zc Zd Zx Zy Zz Zl1 Zl2
    have sz := R.lt
    replace E := E.mono (base' := w.heap.size + 2) (by first | exact sz | omega | (simp at sz; omega) | (simp; omega))
    replace E' := E'.mono (base' := w.heap.size + 2) (by first | exact sz | omega | (simp at sz; omega) | (simp; omega))
    replace Z := Z.but hB' (by omega)
    replace B := B.trans hB'
    obtain ⟨Za, ⟨Zb, Zc, Zd⟩, Zx, Zy, Zz⟩ := id Z
    have Zl1 := Nat.ne_of_lt Za
    have Zl2 := Nat.ne_of_gt Za
    have sx : ∀ q, avE = some q → q.block ≠ w.heap.size := fun q e => by have := E.ge q e; omega
    have sy : ∀ q, avE' = some q → q.block ≠ w.heap.size := fun q e => by have := E'.ge q e; omega
    go_wp2
    exact bodyPost_ret (resDN (wd := wd) ((Z.setAll (.bool s5) (.slice avE es.length cvE) (.slice avE' fs.length cvE'))) rfl rfl) rfl ⟨⟨wd, s5, avE, cvE, es, avE', cvE', fs, ⟨d1, d2⟩, rfl, (((E.other (c := w.heap.size) sx 0 _).other (c := w.heap.size) sx 1 _).other (c := w.heap.size) sx 2 _).mono (by omega), (((E'.other (c := w.heap.size) sy 0 _).other (c := w.heap.size) sy 1 _).other (c := w.heap.size) sy 2 _).mono (by omega)⟩, (((But.below2 hw1 B (by omega) (by omega)).setCell (p := ⟨w.heap.size, 0, none⟩) (by simp) _).setCell (p := ⟨w.heap.size, 1, none⟩) (by simp) _).setCell (p := ⟨w.heap.size, 2, none⟩) (by simp) _⟩
  rw [decide_eq_true hwd] at WA
  go_wp2_with fail
  refine (WA.out _).mono ?_
  rintro e wv ⟨rfl, rfl⟩
  clear WA hwd
  go_wp2_with fail
  refine (ord_any wd rb 900 _ (R.mono (by omega))).mono ?_
  rintro e w3 ⟨⟨v, ⟨v1, v2⟩, rfl⟩, R', hB'⟩
  clear Za Zb Zc Zd Zx Zy Zz Zl1 Zl2
  replace Z := Z.but hB' (by omega)
  replace R := R'
  replace B := B.trans hB'
  clear hB' 
  obtain ⟨Za, ⟨Zb, Zc, Zd⟩, Zx, Zy, Zz⟩ := id Z
  have Zl1 := Nat.ne_of_lt Za
  have Zl2 := Nat.ne_of_gt Za
  obtain ⟨ok1, SF1⟩ := sFF_any wd v
  replace SF1 := hd SF1
  go_wp2_with fail
  refine (SF1.out _).mono ?_
  rintro e w4 ⟨⟨s1, avX, cvX, xs, avX', cvX', ys, rfl, X, X'⟩, hb4⟩
  clear Za Zb Zc Zd Zx Zy Zz Zl1 Zl2
  have sz := R.lt
  replace R := R.old hb4
  replace B := B.trans (But.of hb4)
  replace Z := Z.old hb4
  replace X := X.mono (base' := w.heap.size + 2) (by first | exact sz | omega | (simp at sz; omega) | (simp; omega))
  replace X' := X'.mono (base' := w.heap.size + 2) (by first | exact sz | omega | (simp at sz; omega) | (simp; omega))
  clear sz
  clear hb4
  obtain ⟨Za, ⟨Zb, Zc, Zd⟩, Zx, Zy, Zz⟩ := id Z
  have Zl1 := Nat.ne_of_lt Za
  have Zl2 := Nat.ne_of_gt Za
  clear SF1 v1 v2
  clear Za Zb Zc Zd Zx Zy Zz Zl1 Zl2
  have alT6 : Below w4.heap.size w4 (w4.alloc (.cells #[.bool s1, .slice avX xs.length cvX, .slice avX' ys.length cvX'] 25)) := old_alloc (Below.refl _ _) _
  have T6_ := Cel3.new w4 (.bool s1) (.slice avX xs.length cvX) (.slice avX' ys.length cvX') 25
  have T6r : w4.heap.size ≠ rb := Nat.ne_of_gt R.lt
  replace R := R.old alT6
  replace B := B.trans (But.of alT6)
  replace Z := Z.old alT6
  replace X := X.later alT6
  replace X' := X'.later alT6
  have T6 := T6_
  clear T6_ alT6
  obtain ⟨Za, ⟨Zb, Zc, Zd⟩, Zx, Zy, Zz⟩ := id Z
  have Zl1 := Nat.ne_of_lt Za
  have Zl2 := Nat.ne_of_gt Za
  obtain ⟨T6a, ⟨T6b, T6c, T6d⟩, T6x, T6y, T6z⟩ := id T6
  have T6l1 := Nat.ne_of_lt T6a
  have T6l2 := Nat.ne_of_gt T6a
  go_upto_region 5 with fail
  clear Za Zb Zc Zd Zx Zy Zz Zl1 Zl2 T6a T6b T6c T6d T6x T6y T6z T6l1 T6l2
  generalize (w4.alloc (.cells #[.bool s1, .slice avX xs.length cvX, .slice avX' ys.length cvX'] 25)) = U4 at *
  obtain ⟨Za, ⟨Zb, Zc, Zd⟩, Zx, Zy, Zz⟩ := id Z
  have Zl1 := Nat.ne_of_lt Za
  have Zl2 := Nat.ne_of_gt Za
  obtain ⟨T6a, ⟨T6b, T6c, T6d⟩, T6x, T6y, T6z⟩ := id T6
  have T6l1 := Nat.ne_of_lt T6a
  have T6l2 := Nat.ne_of_gt T6a
  go_wp2_with fail
  refine (ord_any wd rb 880 _ (R.mono (by omega))).mono ?_
  rintro e w5 ⟨⟨u, ⟨u1, u2⟩, rfl⟩, R', hB'⟩
  clear Za Zb Zc Zd Zx Zy Zz Zl1 Zl2 T6a T6b T6c T6d T6x T6y T6z T6l1 T6l2
  replace Z := Z.but hB' (by omega)
  replace T6 := T6.but hB' (by omega)
  replace X := X.but hB' (by omega)
  replace X' := X'.but hB' (by omega)
  replace R := R'
  replace B := B.trans hB'
  clear hB' 
  obtain ⟨Za, ⟨Zb, Zc, Zd⟩, Zx, Zy, Zz⟩ := id Z
  have Zl1 := Nat.ne_of_lt Za
  have Zl2 := Nat.ne_of_gt Za
  obtain ⟨T6a, ⟨T6b, T6c, T6d⟩, T6x, T6y, T6z⟩ := id T6
  have T6l1 := Nat.ne_of_lt T6a
  have T6l2 := Nat.ne_of_gt T6a
  obtain ⟨m, SU⟩ := sUpAny wd u u1 u2
  replace SU := hd SU
  go_wp2_with fail
  refine ((SU.out _).mono (fun e w' h => (h : _ ∧ _))).mono ?_
  rintro e w6 ⟨rfl, hb6⟩
  clear Za Zb Zc Zd Zx Zy Zz Zl1 Zl2 T6a T6b T6c T6d T6x T6y T6z T6l1 T6l2
  have sz := R.lt
  replace R := R.old hb6
  replace B := B.trans (But.of hb6)
  replace Z := Z.old hb6
  replace T6 := T6.old hb6
  replace X := X.later hb6
  replace X' := X'.later hb6
  clear sz
  clear hb6
  obtain ⟨Za, ⟨Zb, Zc, Zd⟩, Zx, Zy, Zz⟩ := id Z
  have Zl1 := Nat.ne_of_lt Za
  have Zl2 := Nat.ne_of_gt Za
  obtain ⟨T6a, ⟨T6b, T6c, T6d⟩, T6x, T6y, T6z⟩ := id T6
  have T6l1 := Nat.ne_of_lt T6a
  have T6l2 := Nat.ne_of_gt T6a
  clear SU u1 u2
  obtain ⟨ok2, SF2⟩ := sFF_any wd m
  replace SF2 := hd SF2
  go_wp2_with fail
  refine (SF2.out _).mono ?_
  rintro e w7 ⟨⟨s2, avG, cvG, gs, avG', cvG', hs, rfl, G, G'⟩, hb7⟩
  clear Za Zb Zc Zd Zx Zy Zz Zl1 Zl2 T6a T6b T6c T6d T6x T6y T6z T6l1 T6l2
  have sz := R.lt
  replace R := R.old hb7
  replace B := B.trans (But.of hb7)
  replace Z := Z.old hb7
  replace T6 := T6.old hb7
  replace X := X.later hb7
  replace X' := X'.later hb7
  replace G := G.mono (base' := w.heap.size + 2) (by first | exact sz | omega | (simp at sz; omega) | (simp; omega))
  replace G' := G'.mono (base' := w.heap.size + 2) (by first | exact sz | omega | (simp at sz; omega) | (simp; omega))
  clear sz
  clear hb7
  obtain ⟨Za, ⟨Zb, Zc, Zd⟩, Zx, Zy, Zz⟩ := id Z
  have Zl1 := Nat.ne_of_lt Za
  have Zl2 := Nat.ne_of_gt Za
  obtain ⟨T6a, ⟨T6b, T6c, T6d⟩, T6x, T6y, T6z⟩ := id T6
  have T6l1 := Nat.ne_of_lt T6a
  have T6l2 := Nat.ne_of_gt T6a
  clear SF2
  clear Za Zb Zc Zd Zx Zy Zz Zl1 Zl2 T6a T6b T6c T6d T6x T6y T6z T6l1 T6l2
  have alT8 : Below w7.heap.size w7 (w7.alloc (.cells #[.bool s2, .slice avG gs.length cvG, .slice avG' hs.length cvG'] 25)) := old_alloc (Below.refl _ _) _
  have T8_ := Cel3.new w7 (.bool s2) (.slice avG gs.length cvG) (.slice avG' hs.length cvG') 25
  have T8r : w7.heap.size ≠ rb := Nat.ne_of_gt R.lt
  replace R := R.old alT8
  replace B := B.trans (But.of alT8)
  replace Z := Z.old alT8
  replace T6 := T6.old alT8
  replace X := X.later alT8
  replace X' := X'.later alT8
  replace G := G.later alT8
  replace G' := G'.later alT8
  have T8 := T8_
  clear T8_ alT8
  obtain ⟨Za, ⟨Zb, Zc, Zd⟩, Zx, Zy, Zz⟩ := id Z
  have Zl1 := Nat.ne_of_lt Za
  have Zl2 := Nat.ne_of_gt Za
  obtain ⟨T6a, ⟨T6b, T6c, T6d⟩, T6x, T6y, T6z⟩ := id T6
  have T6l1 := Nat.ne_of_lt T6a
  have T6l2 := Nat.ne_of_gt T6a
  obtain ⟨T8a, ⟨T8b, T8c, T8d⟩, T8x, T8y, T8z⟩ := id T8
  have T8l1 := Nat.ne_of_lt T8a
  have T8l2 := Nat.ne_of_gt T8a
  go_upto_region 6 with fail
  clear Za Zb Zc Zd Zx Zy Zz Zl1 Zl2 T6a T6b T6c T6d T6x T6y T6z T6l1 T6l2 T8a T8b T8c T8d T8x T8y T8z T8l1 T8l2
  generalize (w7.alloc (.cells #[.bool s2, .slice avG gs.length cvG, .slice avG' hs.length cvG'] 25)) = U7 at *
  obtain ⟨Za, ⟨Zb, Zc, Zd⟩, Zx, Zy, Zz⟩ := id Z
  have Zl1 := Nat.ne_of_lt Za
  have Zl2 := Nat.ne_of_gt Za
  obtain ⟨T6a, ⟨T6b, T6c, T6d⟩, T6x, T6y, T6z⟩ := id T6
  have T6l1 := Nat.ne_of_lt T6a
  have T6l2 := Nat.ne_of_gt T6a
  obtain ⟨T8a, ⟨T8b, T8c, T8d⟩, T8x, T8y, T8z⟩ := id T8
  have T8l1 := Nat.ne_of_lt T8a
  have T8l2 := Nat.ne_of_gt T8a
  go_wp2_with fail
  refine ((sFracAdd _ _ _ _ _ _ _ _ _ _ _ _ _ _ _ _ _ _ _ X.inI X'.inI G.inI G'.inI).mono fun e w' h => (⟨h.1.fr2, h.2⟩ : _ ∧ _)).mono ?_
  rintro e w8 ⟨⟨ok3, s3, avY, cvY, us, avY', cvY', vs, rfl, Y, Y'⟩, hb8⟩
  clear Za Zb Zc Zd Zx Zy Zz Zl1 Zl2 T6a T6b T6c T6d T6x T6y T6z T6l1 T6l2 T8a T8b T8c T8d T8x T8y T8z T8l1 T8l2
  have sz := R.lt
  replace R := R.old hb8
  replace B := B.trans (But.of hb8)
  replace Z := Z.old hb8
  replace T6 := T6.old hb8
  replace T8 := T8.old hb8
  replace X := X.later hb8
  replace X' := X'.later hb8
  replace G := G.later hb8
  replace G' := G'.later hb8
  replace Y := Y.mono (base' := w.heap.size + 2) (by first | exact sz | omega | (simp at sz; omega) | (simp; omega))
  replace Y' := Y'.mono (base' := w.heap.size + 2) (by first | exact sz | omega | (simp at sz; omega) | (simp; omega))
  clear sz
  clear hb8
  obtain ⟨Za, ⟨Zb, Zc, Zd⟩, Zx, Zy, Zz⟩ := id Z
  have Zl1 := Nat.ne_of_lt Za
  have Zl2 := Nat.ne_of_gt Za
  obtain ⟨T6a, ⟨T6b, T6c, T6d⟩, T6x, T6y, T6z⟩ := id T6
  have T6l1 := Nat.ne_of_lt T6a
  have T6l2 := Nat.ne_of_gt T6a
  obtain ⟨T8a, ⟨T8b, T8c, T8d⟩, T8x, T8y, T8z⟩ := id T8
  have T8l1 := Nat.ne_of_lt T8a
  have T8l2 := Nat.ne_of_gt T8a
  clear X X' G G'
  clear Za Zb Zc Zd Zx Zy Zz Zl1 Zl2 T6a T6b T6c T6d T6x T6y T6z T6l1 T6l2 T8a T8b T8c T8d T8x T8y T8z T8l1 T8l2
  clear T6 T8 T6r T8r
  have alT10 : Below w8.heap.size w8 (w8.alloc (.cells #[.bool s3, .slice avY us.length cvY, .slice avY' vs.length cvY'] 25)) := old_alloc (Below.refl _ _) _
  have T10_ := Cel3.new w8 (.bool s3) (.slice avY us.length cvY) (.slice avY' vs.length cvY') 25
  have T10r : w8.heap.size ≠ rb := Nat.ne_of_gt R.lt
  replace R := R.old alT10
  replace B := B.trans (But.of alT10)
  replace Z := Z.old alT10
  replace Y := Y.later alT10
  replace Y' := Y'.later alT10
  have T10 := T10_
  clear T10_ alT10
  obtain ⟨Za, ⟨Zb, Zc, Zd⟩, Zx, Zy, Zz⟩ := id Z
  have Zl1 := Nat.ne_of_lt Za
  have Zl2 := Nat.ne_of_gt Za
  obtain ⟨T10a, ⟨T10b, T10c, T10d⟩, T10x, T10y, T10z⟩ := id T10
  have T10l1 := Nat.ne_of_lt T10a
  have T10l2 := Nat.ne_of_gt T10a
  go_upto_region 7 with fail
  clear Za Zb Zc Zd Zx Zy Zz Zl1 Zl2 T10a T10b T10c T10d T10x T10y T10z T10l1 T10l2
  generalize (w8.alloc (.cells #[.bool s3, .slice avY us.length cvY, .slice avY' vs.length cvY'] 25)) = U8 at *
  obtain ⟨Za, ⟨Zb, Zc, Zd⟩, Zx, Zy, Zz⟩ := id Z
  have Zl1 := Nat.ne_of_lt Za
  have Zl2 := Nat.ne_of_gt Za
  obtain ⟨T10a, ⟨T10b, T10c, T10d⟩, T10x, T10y, T10z⟩ := id T10
  have T10l1 := Nat.ne_of_lt T10a
  have T10l2 := Nat.ne_of_gt T10a
  clear Za Zb Zc Zd Zx Zy Zz Zl1 Zl2 T10a T10b T10c T10d T10x T10y T10z T10l1 T10l2
  have C1 := (oneO U8 1 3 (by omega)).alloc (.cells #[.int .i64 2] 3)
  have C2 := oneO (U8.alloc (.cells #[.int .i64 1] 3)) 2 3 (by omega)
  have szu : (U8.alloc (.cells #[.int .i64 1] 3)).heap.size = U8.heap.size + 1 := by simp
  rw [szu] at C2
  clear szu
  have T10W := T10
  have al2 : Below U8.heap.size U8 ((U8.alloc (.cells #[.int .i64 1] 3)).alloc (.cells #[.int .i64 2] 3)) := old_alloc (old_alloc (Below.refl _ _) _) _
  obtain ⟨Za, ⟨Zb, Zc, Zd⟩, Zx, Zy, Zz⟩ := id Z
  have Zl1 := Nat.ne_of_lt Za
  have Zl2 := Nat.ne_of_gt Za
  obtain ⟨T10a, ⟨T10b, T10c, T10d⟩, T10x, T10y, T10z⟩ := id T10
  have T10l1 := Nat.ne_of_lt T10a
  have T10l2 := Nat.ne_of_gt T10a
  have szR := R.lt
  clear Za Zb Zc Zd Zx Zy Zz Zl1 Zl2 T10a T10b T10c T10d T10x T10y T10z T10l1 T10l2
  replace R := R.old al2
  replace B := B.trans (But.of al2)
  replace Z := Z.old al2
  replace T10 := T10.old al2
  replace Y := Y.later al2
  replace Y' := Y'.later al2
  have q0 := T10W.2.1.1
  have q1 := T10W.2.1.2.1
  have q2 := T10W.2.1.2.2
  obtain ⟨Za, ⟨Zb, Zc, Zd⟩, Zx, Zy, Zz⟩ := id Z
  have Zl1 := Nat.ne_of_lt Za
  have Zl2 := Nat.ne_of_gt Za
  obtain ⟨T10a, ⟨T10b, T10c, T10d⟩, T10x, T10y, T10z⟩ := id T10
  have T10l1 := Nat.ne_of_lt T10a
  have T10l2 := Nat.ne_of_gt T10a
  go_wp2_with fail
  refine ((sFracMul s3 avY avY' _ _ _ _ us vs false _ _ _ _ _ _ [1] [2] _ Y.inI Y'.inI C1.inI C2.inI).mono fun e w' h => (⟨h.1.fr2, h.2⟩ : _ ∧ _)).mono ?_
  rintro e w9 ⟨⟨ok4, s4, avM, cvM, ms, avM', cvM', ns, rfl, M, M'⟩, hb9⟩
  clear Za Zb Zc Zd Zx Zy Zz Zl1 Zl2 T10a T10b T10c T10d T10x T10y T10z T10l1 T10l2
  have sz := R.lt
  replace R := R.old hb9
  replace B := B.trans (But.of hb9)
  replace Z := Z.old hb9
  replace T10 := T10.old hb9
  replace Y := Y.later hb9
  replace Y' := Y'.later hb9
  replace M := M.mono (base' := w.heap.size + 2) (by first | exact sz | omega | (simp at sz; omega) | (simp; omega))
  replace M' := M'.mono (base' := w.heap.size + 2) (by first | exact sz | omega | (simp at sz; omega) | (simp; omega))
  clear sz
  clear hb9
  obtain ⟨Za, ⟨Zb, Zc, Zd⟩, Zx, Zy, Zz⟩ := id Z
  have Zl1 := Nat.ne_of_lt Za
  have Zl2 := Nat.ne_of_gt Za
  obtain ⟨T10a, ⟨T10b, T10c, T10d⟩, T10x, T10y, T10z⟩ := id T10
  have T10l1 := Nat.ne_of_lt T10a
  have T10l2 := Nat.ne_of_gt T10a
  clear C1 C2 Y Y' al2 q0 q1 q2 T10W szR
  clear Za Zb Zc Zd Zx Zy Zz Zl1 Zl2 T10a T10b T10c T10d T10x T10y T10z T10l1 T10l2
  clear T10 T10r
  have alT12 : Below w9.heap.size w9 (w9.alloc (.cells #[.bool s4, .slice avM ms.length cvM, .slice avM' ns.length cvM'] 25)) := old_alloc (Below.refl _ _) _
  have T12_ := Cel3.new w9 (.bool s4) (.slice avM ms.length cvM) (.slice avM' ns.length cvM') 25
  have T12r : w9.heap.size ≠ rb := Nat.ne_of_gt R.lt
  replace R := R.old alT12
  replace B := B.trans (But.of alT12)
  replace Z := Z.old alT12
  replace M := M.later alT12
  replace M' := M'.later alT12
  have T12 := T12_
  clear T12_ alT12
  obtain ⟨Za, ⟨Zb, Zc, Zd⟩, Zx, Zy, Zz⟩ := id Z
  have Zl1 := Nat.ne_of_lt Za
  have Zl2 := Nat.ne_of_gt Za
  obtain ⟨T12a, ⟨T12b, T12c, T12d⟩, T12x, T12y, T12z⟩ := id T12
  have T12l1 := Nat.ne_of_lt T12a
  have T12l2 := Nat.ne_of_gt T12a
  go_upto_region 8 with fail
  clear Za Zb Zc Zd Zx Zy Zz Zl1 Zl2 T12a T12b T12c T12d T12x T12y T12z T12l1 T12l2
  generalize (w9.alloc (.cells #[.bool s4, .slice avM ms.length cvM, .slice avM' ns.length cvM'] 25)) = U9 at *
  cases ok1
  case false =>
    clear M M' T12 T12r
    obtain ⟨Za, ⟨Zb, Zc, Zd⟩, Zx, Zy, Zz⟩ := id Z
    have Zl1 := Nat.ne_of_lt Za
    have Zl2 := Nat.ne_of_gt Za
    go_wp2_with fail
    refine (frac_k rb 100 _ (R.mono (by omega))).mono ?_
    rintro e w10 ⟨⟨s5, avE, cvE, es, avE', cvE', fs, rfl, E, E'⟩, R', hB'⟩
    clear Za Zb Zc Zd Zx Zy Zz Zl1 Zl2
    have sz := R.lt
    replace E := E.mono (base' := w.heap.size + 2) (by first | exact sz | omega | (simp at sz; omega) | (simp; omega))
    replace E' := E'.mono (base' := w.heap.size + 2) (by first | exact sz | omega | (simp at sz; omega) | (simp; omega))
    replace Z := Z.but hB' (by omega)
    replace B := B.trans hB'
    obtain ⟨Za, ⟨Zb, Zc, Zd⟩, Zx, Zy, Zz⟩ := id Z
    have Zl1 := Nat.ne_of_lt Za
    have Zl2 := Nat.ne_of_gt Za
    have sx : ∀ q, avE = some q → q.block ≠ w.heap.size := fun q e => by have := E.ge q e; omega
    have sy : ∀ q, avE' = some q → q.block ≠ w.heap.size := fun q e => by have := E'.ge q e; omega
    go_wp2
    exact bodyPost_ret (resDN (wd := wd) ((Z.setAll (.bool s5) (.slice avE es.length cvE) (.slice avE' fs.length cvE'))) rfl rfl) rfl ⟨⟨wd, s5, avE, cvE, es, avE', cvE', fs, ⟨d1, d2⟩, rfl, (((E.other (c := w.heap.size) sx 0 _).other (c := w.heap.size) sx 1 _).other (c := w.heap.size) sx 2 _).mono (by omega), (((E'.other (c := w.heap.size) sy 0 _).other (c := w.heap.size) sy 1 _).other (c := w.heap.size) sy 2 _).mono (by omega)⟩, (((But.below2 hw1 B (by omega) (by omega)).setCell (p := ⟨w.heap.size, 0, none⟩) (by simp) _).setCell (p := ⟨w.heap.size, 1, none⟩) (by simp) _).setCell (p := ⟨w.heap.size, 2, none⟩) (by simp) _⟩
  cases ok2
  case false =>
    clear M M' T12 T12r
    obtain ⟨Za, ⟨Zb, Zc, Zd⟩, Zx, Zy, Zz⟩ := id Z
    have Zl1 := Nat.ne_of_lt Za
    have Zl2 := Nat.ne_of_gt Za
    go_wp2_with fail
    refine (frac_k rb 100 _ (R.mono (by omega))).mono ?_
    rintro e w10 ⟨⟨s5, avE, cvE, es, avE', cvE', fs, rfl, E, E'⟩, R', hB'⟩
    clear Za Zb Zc Zd Zx Zy Zz Zl1 Zl2
    have sz := R.lt
    replace E := E.mono (base' := w.heap.size + 2) (by first | exact sz | omega | (simp at sz; omega) | (simp; omega))
    replace E' := E'.mono (base' := w.heap.size + 2) (by first | exact sz | omega | (simp at sz; omega) | (simp; omega))
    replace Z := Z.but hB' (by omega)
    replace B := B.trans hB'
    obtain ⟨Za, ⟨Zb, Zc, Zd⟩, Zx, Zy, Zz⟩ := id Z
    have Zl1 := Nat.ne_of_lt Za
    have Zl2 := Nat.ne_of_gt Za
    have sx : ∀ q, avE = some q → q.block ≠ w.heap.size := fun q e => by have := E.ge q e; omega
    have sy : ∀ q, avE' = some q → q.block ≠ w.heap.size := fun q e => by have := E'.ge q e; omega
    go_wp2
    exact bodyPost_ret (resDN (wd := wd) ((Z.setAll (.bool s5) (.slice avE es.length cvE) (.slice avE' fs.length cvE'))) rfl rfl) rfl ⟨⟨wd, s5, avE, cvE, es, avE', cvE', fs, ⟨d1, d2⟩, rfl, (((E.other (c := w.heap.size) sx 0 _).other (c := w.heap.size) sx 1 _).other (c := w.heap.size) sx 2 _).mono (by omega), (((E'.other (c := w.heap.size) sy 0 _).other (c := w.heap.size) sy 1 _).other (c := w.heap.size) sy 2 _).mono (by omega)⟩, (((But.below2 hw1 B (by omega) (by omega)).setCell (p := ⟨w.heap.size, 0, none⟩) (by simp) _).setCell (p := ⟨w.heap.size, 1, none⟩) (by simp) _).setCell (p := ⟨w.heap.size, 2, none⟩) (by simp) _⟩
  cases ok3
  case false =>
    clear M M' T12 T12r
    obtain ⟨Za, ⟨Zb, Zc, Zd⟩, Zx, Zy, Zz⟩ := id Z
    have Zl1 := Nat.ne_of_lt Za
    have Zl2 := Nat.ne_of_gt Za
    go_wp2_with fail
    refine (frac_k rb 100 _ (R.mono (by omega))).mono ?_
    rintro e w10 ⟨⟨s5, avE, cvE, es, avE', cvE', fs, rfl, E, E'⟩, R', hB'⟩
    clear Za Zb Zc Zd Zx Zy Zz Zl1 Zl2
    have sz := R.lt
    replace E := E.mono (base' := w.heap.size + 2) (by first | exact sz | omega | (simp at sz; omega) | (simp; omega))
    replace E' := E'.mono (base' := w.heap.size + 2) (by first | exact sz | omega | (simp at sz; omega) | (simp; omega))
    replace Z := Z.but hB' (by omega)
    replace B := B.trans hB'
    obtain ⟨Za, ⟨Zb, Zc, Zd⟩, Zx, Zy, Zz⟩ := id Z
    have Zl1 := Nat.ne_of_lt Za
    have Zl2 := Nat.ne_of_gt Za
    have sx : ∀ q, avE = some q → q.block ≠ w.heap.size := fun q e => by have := E.ge q e; omega
    have sy : ∀ q, avE' = some q → q.block ≠ w.heap.size := fun q e => by have := E'.ge q e; omega
    go_wp2
    exact bodyPost_ret (resDN (wd := wd) ((Z.setAll (.bool s5) (.slice avE es.length cvE) (.slice avE' fs.length cvE'))) rfl rfl) rfl ⟨⟨wd, s5, avE, cvE, es, avE', cvE', fs, ⟨d1, d2⟩, rfl, (((E.other (c := w.heap.size) sx 0 _).other (c := w.heap.size) sx 1 _).other (c := w.heap.size) sx 2 _).mono (by omega), (((E'.other (c := w.heap.size) sy 0 _).other (c := w.heap.size) sy 1 _).other (c := w.heap.size) sy 2 _).mono (by omega)⟩, (((But.below2 hw1 B (by omega) (by omega)).setCell (p := ⟨w.heap.size, 0, none⟩) (by simp) _).setCell (p := ⟨w.heap.size, 1, none⟩) (by simp) _).setCell (p := ⟨w.heap.size, 2, none⟩) (by simp) _⟩
  cases ok4
  case false =>
    clear M M' T12 T12r
    obtain ⟨Za, ⟨Zb, Zc, Zd⟩, Zx, Zy, Zz⟩ := id Z
    have Zl1 := Nat.ne_of_lt Za
    have Zl2 := Nat.ne_of_gt Za
    go_wp2_with fail
    refine (frac_k rb 100 _ (R.mono (by omega))).mono ?_
    rintro e w10 ⟨⟨s5, avE, cvE, es, avE', cvE', fs, rfl, E, E'⟩, R', hB'⟩
    clear Za Zb Zc Zd Zx Zy Zz Zl1 Zl2
    have sz := R.lt
    replace E := E.mono (base' := w.heap.size + 2) (by first | exact sz | omega | (simp at sz; omega) | (simp; omega))
    replace E' := E'.mono (base' := w.heap.size + 2) (by first | exact sz | omega | (simp at sz; omega) | (simp; omega))
    replace Z := Z.but hB' (by omega)
    replace B := B.trans hB'
    obtain ⟨Za, ⟨Zb, Zc, Zd⟩, Zx, Zy, Zz⟩ := id Z
    have Zl1 := Nat.ne_of_lt Za
    have Zl2 := Nat.ne_of_gt Za
    have sx : ∀ q, avE = some q → q.block ≠ w.heap.size := fun q e => by have := E.ge q e; omega
    have sy : ∀ q, avE' = some q → q.block ≠ w.heap.size := fun q e => by have := E'.ge q e; omega
    go_wp2
    exact bodyPost_ret (resDN (wd := wd) ((Z.setAll (.bool s5) (.slice avE es.length cvE) (.slice avE' fs.length cvE'))) rfl rfl) rfl ⟨⟨wd, s5, avE, cvE, es, avE', cvE', fs, ⟨d1, d2⟩, rfl, (((E.other (c := w.heap.size) sx 0 _).other (c := w.heap.size) sx 1 _).other (c := w.heap.size) sx 2 _).mono (by omega), (((E'.other (c := w.heap.size) sy 0 _).other (c := w.heap.size) sy 1 _).other (c := w.heap.size) sy 2 _).mono (by omega)⟩, (((But.below2 hw1 B (by omega) (by omega)).setCell (p := ⟨w.heap.size, 0, none⟩) (by simp) _).setCell (p := ⟨w.heap.size, 1, none⟩) (by simp) _).setCell (p := ⟨w.heap.size, 2, none⟩) (by simp) _⟩
  obtain ⟨Za, ⟨Zb, Zc, Zd⟩, Zx, Zy, Zz⟩ := id Z
  have Zl1 := Nat.ne_of_lt Za
  have Zl2 := Nat.ne_of_gt Za
  obtain ⟨T12a, ⟨T12b, T12c, T12d⟩, T12x, T12y, T12z⟩ := id T12
  have T12l1 := Nat.ne_of_lt T12a
  have T12l2 := Nat.ne_of_gt T12a
  have sx : ∀ q, avM = some q → q.block ≠ w.heap.size := fun q e => by have := M.ge q e; omega
  have sy : ∀ q, avM' = some q → q.block ≠ w.heap.size := fun q e => by have := M'.ge q e; omega
  go_wp2_with fail
  go_region
  all_goals
    go_wp2
    exact bodyPost_ret (resDN (wd := wd) ((Z.setAll (.bool s4) (.slice avM ms.length cvM) (.slice avM' ns.length cvM')).drew) rfl rfl) rfl ⟨⟨wd, s4, avM, cvM, ms, avM', cvM', ns, ⟨d1, d2⟩, rfl, (((M.other (c := w.heap.size) sx 0 _).other (c := w.heap.size) sx 1 _).other (c := w.heap.size) sx 2 _).mono (by omega), (((M'.other (c := w.heap.size) sy 0 _).other (c := w.heap.size) sy 1 _).other (c := w.heap.size) sy 2 _).mono (by omega)⟩, Below.drew ((((But.below2 hw1 B (by omega) (by omega)).setCell (p := ⟨w.heap.size, 0, none⟩) (by simp) _).setCell (p := ⟨w.heap.size, 1, none⟩) (by simp) _).setCell (p := ⟨w.heap.size, 2, none⟩) (by simp) _)⟩
end Go.Proofs.YtgoffjpfddmhhaaGreatDoor

/- Rounding of fractions, held against the fraction: what the law wants. Nothing that was there is written. Conditions, of the program: the library's tables and its handle of errors hold what their texts lay. -/
namespace Go.Proofs.YtgoffjpfddmhhaaGreatDoor
open Go.RowKit
set_option linter.unusedVariables false
set_option maxRecDepth 100000

theorem sub_fv (b c : Bool) (X Y : Nat) : fv (sumS b (!c) X Y) (sumN b (!c) X Y) = fv b X - fv c Y := by
  unfold sumS sumN fv
  cases b <;> cases c <;> simp <;> (repeat' split) <;> (try simp) <;> omega
theorem oSubS {bl bm : Bool} {xs ys us vs : List Int} (h1 : fracOk bl xs ys = true) (h2 : fracOk bm us vs = true) : ∃ (r sg : Bool) (tl ul : List Int), (r = true → fracOk sg tl ul = true ∧ fv sg (val tl) * ((val ys * val vs : Nat) : Int) = (fv bl (val xs) * val vs - fv bm (val us) * val ys) * (val ul : Int)) ∧
    ∀ (a b : Option Addr) (la lb ca cb : Nat) (c d : Option Addr) (lc ld cc cd : Nat) (w : World), InI w a la ca xs → InI w b lb cb ys → InI w c lc cc us → InI w d ld cd vs →
    Calls Tryz.prog 14 #[.agg #[.bool bl, .slice a la ca, .slice b lb cb], .agg #[.bool bm, .slice c lc cc, .slice d ld cd]] w fun e w' => (∃ av cv av' cv', e = .returned (.tuple #[.agg #[.bool sg, .slice av tl.length cv, .slice av' ul.length cv'], .bool r]) ∧ OI w' w.heap.size av cv tl ∧ OI w' w.heap.size av' cv' ul) ∧ Below w.heap.size w w' := by
  have key := fun (a b : Option Addr) (la lb ca cb : Nat) (c d : Option Addr) (lc ld cc cd : Nat) (w : World) (hA : InI w a la ca xs) (hB : InI w b lb cb ys) (hC : InI w c lc cc us) (hD : InI w d ld cd vs) => sFracSub bl a b la lb ca cb xs ys bm c d lc ld cc cd us vs w hA hB hC hD
  rw [h1, h2] at key
  simp only [Bool.true_and] at key
  refine ⟨lowB (sumN bl (!bm) (val xs * val vs) (val us * val ys)) (val ys * val vs), fS (lowB (sumN bl (!bm) (val xs * val vs) (val us * val ys)) (val ys * val vs)) (sumS bl (!bm) (val xs * val vs) (val us * val ys)) (sumN bl (!bm) (val xs * val vs) (val us * val ys)), fT (lowB (sumN bl (!bm) (val xs * val vs) (val us * val ys)) (val ys * val vs)) (sumN bl (!bm) (val xs * val vs) (val us * val ys)) (val ys * val vs), fU (lowB (sumN bl (!bm) (val xs * val vs) (val us * val ys)) (val ys * val vs)) (sumN bl (!bm) (val xs * val vs) (val us * val ys)) (val ys * val vs), ?_, fun a b la lb ca cb c d lc ld cc cd w hA hB hC hD => (key a b la lb ca cb c d lc ld cc cd w hA hB hC hD).mono ?_⟩
  rotate_left
  · rintro e w' ⟨⟨av, cv, av', cv', e1, O1, O2, -⟩, hb⟩
    exact ⟨⟨av, cv, av', cv', e1, O1, O2⟩, hb⟩
  · intro hr
    have f := fres_in (s := sumS bl (!bm) (val xs * val vs) (val us * val ys)) (A := sumN bl (!bm) (val xs * val vs) (val us * val ys)) (B := val ys * val vs) (by unfold fres; rw [hr])
    rw [hr]
    refine ⟨f.1, ?_⟩
    rw [f.2.1, sub_fv, fv_mul, fv_mul]
theorem sdnOf {wd n : Int} {s : Bool} {tl ul : List Int} (h1 : pfOk wd s tl ul = true) (h2 : pfL wd s tl ul = n) (a b : Option Addr) (la lb ca cb : Nat) (w : World) (hA : InI w a la ca tl) (hB : InI w b lb cb ul) :
    Calls Tryz.prog 10 #[.int .i64 wd, .agg #[.bool s, .slice a la ca, .slice b lb cb]] w fun e w' => e = .returned (.tuple #[.int .i64 n, .bool true]) ∧ Below w.heap.size w w' := by
  have q := sFloatDownA wd s a b la lb ca cb tl ul w hA hB
  rw [h1, h2] at q
  exact q
theorem nrIs32 {s : Bool} {A B : Nat} (h1 : -2139095040 < arL32 s A B) (h2 : arH32 s A B < 2139095040) (h3 : arL32 s A B < 2139095040) (h4 : -2139095040 < arH32 s A B) : nr32 s A B = arL32 s A B ∨ nr32 s A B = arH32 s A B := by
  have n1 : loN32 s A B = arL32 s A B := by unfold loN32; omega
  have n2 : hiN32 s A B = arH32 s A B := by unfold hiN32; omega
  unfold nr32
  rw [n1, n2]
  unfold nrV
  split
  · exact .inl rfl
  · exact .inr rfl
theorem fin32 {s s1 s2 : Bool} {xs ys t1 u1 t2 u2 : List Int} (hf : fracOk s xs ys = true) (h1 : -2139095040 < arL32 s (val xs) (val ys)) (h2 : arH32 s (val xs) (val ys) < 2139095040) (g1 : FV32 (arL32 s (val xs) (val ys)) s1 t1 u1) (g2 : FV32 (arH32 s (val xs) (val ys)) s2 t2 u2)
    {sp sq : Bool} {tp up tq uq : List Int} (hp : fracOk sp tp up = true ∧ fv sp (val tp) * ((val ys * val u1 : Nat) : Int) = (fv s (val xs) * val u1 - fv s1 (val t1) * val ys) * (val up : Int)) (hq : fracOk sq tq uq = true ∧ fv sq (val tq) * ((val u2 * val ys : Nat) : Int) = (fv s2 (val t2) * val ys - fv s (val xs) * val u2) * (val uq : Int)) :
    (c3 (pab sp tp up sq tq uq) = -1 ∧ nr32 s (val xs) (val ys) = arL32 s (val xs) (val ys)) ∨ (c3 (pab sp tp up sq tq uq) = 1 ∧ nr32 s (val xs) (val ys) = arH32 s (val xs) (val ys)) ∨ (c3 (pab sp tp up sq tq uq) = 0 ∧ arL32 s (val xs) (val ys) ≠ arH32 s (val xs) (val ys) ∧ Int.tmod (nr32 s (val xs) (val ys)) 2 = 0) ∨ (c3 (pab sp tp up sq tq uq) = 0 ∧ arL32 s (val xs) (val ys) = arH32 s (val xs) (val ys) ∧ nr32 s (val xs) (val ys) = arL32 s (val xs) (val ys)) := by
  have m := mid32 hf h1 h2 g1 g2 (frac_pos hp.1) (frac_pos hq.1) hp.2 hq.2
  have e : pab sp tp up sq tq uq = fv sp (val tp) * (val uq : Int) - fv sq (val tq) * (val up : Int) := rfl
  rw [← e] at m
  generalize pab sp tp up sq tq uq = D at *
  obtain ⟨m1, m2, m3, m4⟩ := m
  unfold c3
  by_cases c : D < 0
  · exact .inl ⟨if_pos c, m1 c⟩
  by_cases c2 : 0 < D
  · exact .inr (.inl ⟨by rw [if_neg c, if_pos c2], m2 c2⟩)
  have c0 : D = 0 := by omega
  by_cases c4 : arL32 s (val xs) (val ys) = arH32 s (val xs) (val ys)
  · exact .inr (.inr (.inr ⟨by rw [if_neg c, if_neg c2], c4, m4.elim id (fun h => h.trans c4.symm)⟩))
  · exact .inr (.inr (.inl ⟨by rw [if_neg c, if_neg c2], c4, m3 c0 c4⟩))
theorem nrIs64 {s : Bool} {A B : Nat} (h1 : -9218868437227405312 < arL64 s A B) (h2 : arH64 s A B < 9218868437227405312) (h3 : arL64 s A B < 9218868437227405312) (h4 : -9218868437227405312 < arH64 s A B) : nr64 s A B = arL64 s A B ∨ nr64 s A B = arH64 s A B := by
  have n1 : loN64 s A B = arL64 s A B := by unfold loN64; omega
  have n2 : hiN64 s A B = arH64 s A B := by unfold hiN64; omega
  unfold nr64
  rw [n1, n2]
  unfold nrV
  split
  · exact .inl rfl
  · exact .inr rfl
theorem fin64 {s s1 s2 : Bool} {xs ys t1 u1 t2 u2 : List Int} (hf : fracOk s xs ys = true) (h1 : -9218868437227405312 < arL64 s (val xs) (val ys)) (h2 : arH64 s (val xs) (val ys) < 9218868437227405312) (g1 : FV64 (arL64 s (val xs) (val ys)) s1 t1 u1) (g2 : FV64 (arH64 s (val xs) (val ys)) s2 t2 u2)
    {sp sq : Bool} {tp up tq uq : List Int} (hp : fracOk sp tp up = true ∧ fv sp (val tp) * ((val ys * val u1 : Nat) : Int) = (fv s (val xs) * val u1 - fv s1 (val t1) * val ys) * (val up : Int)) (hq : fracOk sq tq uq = true ∧ fv sq (val tq) * ((val u2 * val ys : Nat) : Int) = (fv s2 (val t2) * val ys - fv s (val xs) * val u2) * (val uq : Int)) :
    (c3 (pab sp tp up sq tq uq) = -1 ∧ nr64 s (val xs) (val ys) = arL64 s (val xs) (val ys)) ∨ (c3 (pab sp tp up sq tq uq) = 1 ∧ nr64 s (val xs) (val ys) = arH64 s (val xs) (val ys)) ∨ (c3 (pab sp tp up sq tq uq) = 0 ∧ arL64 s (val xs) (val ys) ≠ arH64 s (val xs) (val ys) ∧ Int.tmod (nr64 s (val xs) (val ys)) 2 = 0) ∨ (c3 (pab sp tp up sq tq uq) = 0 ∧ arL64 s (val xs) (val ys) = arH64 s (val xs) (val ys) ∧ nr64 s (val xs) (val ys) = arL64 s (val xs) (val ys)) := by
  have m := mid64 hf h1 h2 g1 g2 (frac_pos hp.1) (frac_pos hq.1) hp.2 hq.2
  have e : pab sp tp up sq tq uq = fv sp (val tp) * (val uq : Int) - fv sq (val tq) * (val up : Int) := rfl
  rw [← e] at m
  generalize pab sp tp up sq tq uq = D at *
  obtain ⟨m1, m2, m3, m4⟩ := m
  unfold c3
  by_cases c : D < 0
  · exact .inl ⟨if_pos c, m1 c⟩
  by_cases c2 : 0 < D
  · exact .inr (.inl ⟨by rw [if_neg c, if_pos c2], m2 c2⟩)
  have c0 : D = 0 := by omega
  by_cases c4 : arL64 s (val xs) (val ys) = arH64 s (val xs) (val ys)
  · exact .inr (.inr (.inr ⟨by rw [if_neg c, if_neg c2], c4, m4.elim id (fun h => h.trans c4.symm)⟩))
  · exact .inr (.inr (.inl ⟨by rw [if_neg c, if_neg c2], c4, m3 c0 c4⟩))
end Go.Proofs.YtgoffjpfddmhhaaGreatDoor
