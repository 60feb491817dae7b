/- What two boxes have in common: the specification's loop, the program's box of each place. Conditions: 2^20 pairs at most. -/
import Derived.Test.YtmeijbiohbpgpaaE7
import Derived.Test.YtmeijbiohbpgpaaB6
import Derived.Deep.RegionHeld3
namespace Go.Proofs.Ytmeijbiohbpgpaa
open Go.RowKit
set_option linter.unusedVariables false

theorem cell_al' {w : World} {p : Addr} {v : Value} (c : w.cell? p = some v) (o : Obj) : (w.alloc o).cell? p = some v := (World.grownBy_alloc w o none).cell c (by simp)
def meetX (ps qs : List (Int × Int)) (k : Nat) : Int := max (ps.getD k (0, 0)).1 (qs.getD k (0, 0)).1
def meetY (ps qs : List (Int × Int)) (k : Nat) : Int := min (ps.getD k (0, 0)).2 (qs.getD k (0, 0)).2
def meetAt (ps qs : List (Int × Int)) (k : Nat) : Bool := decide (meetX ps qs k ≤ meetY ps qs k)
def meetL (ps qs : List (Int × Int)) : List (Int × Int) := madeL ps.length (meetX ps qs) (meetY ps qs)
def meetRow (wd : Int) (ps qs : List (Int × Int)) : Bool := okRow wd ps && (okRow wd qs && (decide (ps.length = qs.length) && allI ps.length (fun k => meetAt ps qs k)))
theorem meetRow_no1 {wd : Int} {ps qs : List (Int × Int)} (h : okRow wd ps = false) : meetRow wd ps qs = false := by unfold meetRow; rw [h]; rfl
theorem meetRow_no2 {wd : Int} {ps qs : List (Int × Int)} (h : okRow wd qs = false) : meetRow wd ps qs = false := by unfold meetRow; rw [h]; simp
theorem meetRow_no3 {wd : Int} {ps qs : List (Int × Int)} (h : ps.length ≠ qs.length) : meetRow wd ps qs = false := by unfold meetRow; simp [h]
theorem meetRow_yes {wd : Int} {ps qs : List (Int × Int)} {len : Nat} (h : okRow wd ps = true) (h' : okRow wd qs = true) (hp : ps.length = len) (hq : qs.length = len) : meetRow wd ps qs = allI len (fun k => meetAt ps qs k) := by unfold meetRow; rw [h, h', hp, hq]; simp
set_option maxHeartbeats 4000000 in
theorem sBoxMeet (wd : Int) (a a' : Option Addr) (len len' cap cap' : Nat) (ps qs : List (Int × Int)) (w : World) (hR : InRow w a len cap ps) (hR' : InRow w a' len' cap' qs) :
    Calls Try.prog 22 #[.int .i64 wd, .agg #[.slice a len cap], .agg #[.slice a' len' cap']] w fun e w' => BoxRes w.heap.size w' e (meetRow wd ps qs) (meetL ps qs) ∧ Below w.heap.size w w' := by
  have hlen : len ≤ maxLen := Nat.le_trans hR.2.1 hR.2.2.1
  have hlen' : len' ≤ maxLen := Nat.le_trans hR'.2.1 hR'.2.2.1
  have hp := hR.1
  have hq := hR'.1
  unfold maxLen at hlen hlen'
  have hB : Below w.heap.size w (((w.alloc (.cells #[.slice a len cap] 29)).alloc (.cells #[.slice a' len' cap'] 29)).alloc (.cells #[.slice none 0 0] 29)) := (by repeat (first | exact Below.refl _ _ | refine Below.drew ?_ | refine old_alloc ?_ _ | refine old_trans ?_ (by assumption)))
  have K : Cel1 (((w.alloc (.cells #[.slice a len cap] 29)).alloc (.cells #[.slice a' len' cap'] 29)).alloc (.cells #[.slice none 0 0] 29)) w.heap.size (.slice a len cap) := ((Cel1.made _ _ (by simp) _ _).alloc _).alloc _
  have M : Cel1 (((w.alloc (.cells #[.slice a len cap] 29)).alloc (.cells #[.slice a' len' cap'] 29)).alloc (.cells #[.slice none 0 0] 29)) (w.heap.size + 1) (.slice a' len' cap') := (Cel1.made _ _ (by simp) _ _).alloc _
  have O : Cel1 (((w.alloc (.cells #[.slice a len cap] 29)).alloc (.cells #[.slice a' len' cap'] 29)).alloc (.cells #[.slice none 0 0] 29)) (w.heap.size + 1 + 1) (.slice none 0 0) := Cel1.made _ _ (by simp) _ _
  have R := hR.old hB
  have R' := hR'.old hB
  have S1 := hd (sBoxOk wd a len cap ps _ R)
  have S2 := hd (fun w h => sBoxOk wd a' len' cap' qs w h)
  cases h1 : okRow wd ps
  · rw [h1] at S1
    rw [meetRow_no1 h1]
    clear h1
    go_enter Try.func22, Try.ntmps22
    go_wp2_with fail
    refine S1.out.mono ?_
    rintro e wa ⟨rfl, hba⟩
    replace K := K.later hba
    replace M := M.later hba
    replace O := O.later hba
    replace R := R.old hba
    replace R' := R'.old hba
    replace hB := old_trans hB hba
    obtain ⟨m0, m1, m2⟩ := id O
    go_wp2
    refine bodyPost_ret (v := .tuple #[.agg #[.slice none 0 0], .bool false]) ?_ rfl ⟨.inr ⟨rfl, rfl⟩, hB.setCell (p := ⟨(w.heap.size + 1 + 1), 0, none⟩) (by simp <;> omega) _⟩
    simp [results, Try.results22, go_sem, m0]
  rw [h1] at S1
  cases h2 : okRow wd qs
  · rw [h2] at S2
    rw [meetRow_no2 h2]
    clear h1 h2
    go_enter Try.func22, Try.ntmps22
    go_wp2_with fail
    refine S1.out.mono ?_
    rintro e wa ⟨rfl, hba⟩
    replace K := K.later hba
    replace M := M.later hba
    replace O := O.later hba
    replace R := R.old hba
    replace R' := R'.old hba
    replace hB := old_trans hB hba
    have k0 := K.1
    have k2 := K.2.2
    have m0 := M.1
    have m2 := M.2.2
    have o0 := O.1
    have o2 := O.2.2
    go_wp2_with fail
    refine (S2.out _ R').mono ?_
    rintro e wb ⟨rfl, hbb⟩
    clear k0 k2 m0 m2 o0 o2
    replace K := K.later hbb
    replace M := M.later hbb
    replace O := O.later hbb
    replace R := R.old hbb
    replace R' := R'.old hbb
    replace hB := old_trans hB hbb
    obtain ⟨m0, m1, m2⟩ := id O
    go_wp2
    refine bodyPost_ret (v := .tuple #[.agg #[.slice none 0 0], .bool false]) ?_ rfl ⟨.inr ⟨rfl, rfl⟩, hB.setCell (p := ⟨(w.heap.size + 1 + 1), 0, none⟩) (by simp <;> omega) _⟩
    simp [results, Try.results22, go_sem, m0]
  rw [h2] at S2
  by_cases hll : len = len'
  case neg =>
    have c2 : ((len : Int) != (len' : Int)) = true := by rw [bne_iff_ne]; omega
    rw [meetRow_no3 (by omega)]
    clear h1 h2
    go_enter Try.func22, Try.ntmps22
    go_wp2_with fail
    refine S1.out.mono ?_
    rintro e wa ⟨rfl, hba⟩
    replace K := K.later hba
    replace M := M.later hba
    replace O := O.later hba
    replace R := R.old hba
    replace R' := R'.old hba
    replace hB := old_trans hB hba
    have k0 := K.1
    have k2 := K.2.2
    have m0 := M.1
    have m2 := M.2.2
    have o0 := O.1
    have o2 := O.2.2
    go_wp2_with fail
    refine (S2.out _ R').mono ?_
    rintro e wb ⟨rfl, hbb⟩
    clear k0 k2 m0 m2 o0 o2
    replace K := K.later hbb
    replace M := M.later hbb
    replace O := O.later hbb
    replace R := R.old hbb
    replace R' := R'.old hbb
    replace hB := old_trans hB hbb
    have k0 := K.1
    have k2 := K.2.2
    have m0 := M.1
    have m2 := M.2.2
    have o0 := O.1
    have o2 := O.2.2
    obtain ⟨m0, m1, m2⟩ := id O
    go_wp2
    refine bodyPost_ret (v := .tuple #[.agg #[.slice none 0 0], .bool false]) ?_ rfl ⟨.inr ⟨rfl, rfl⟩, hB.setCell (p := ⟨(w.heap.size + 1 + 1), 0, none⟩) (by simp <;> omega) _⟩
    simp [results, Try.results22, go_sem, m0]
  subst hll
  have hol := okRow_len h1
  have hr : Hid (meetRow wd ps qs = allI len (fun k => meetAt ps qs k)) := meetRow_yes h1 h2 hp hq
  have hall : Hid (∀ k, k < len → pokB wd (ps.getD k (0, 0)).1 (ps.getD k (0, 0)).2 = true ∧ pokB wd (qs.getD k (0, 0)).1 (qs.getD k (0, 0)).2 = true) := fun k hk => ⟨okRow_at h1 (by omega), okRow_at h2 (by omega)⟩
  clear h1 h2
  generalize meetRow wd ps qs = z at *
  have hL : meetL ps qs = madeL len (meetX ps qs) (meetY ps qs) := by unfold meetL; rw [hp]
  rw [hL]
  clear hL
  go_enter Try.func22, Try.ntmps22
  go_wp2_with fail
  refine S1.out.mono ?_
  rintro e wa ⟨rfl, hba⟩
  replace K := K.later hba
  replace M := M.later hba
  replace O := O.later hba
  replace R := R.old hba
  replace R' := R'.old hba
  replace hB := old_trans hB hba
  have k0 := K.1
  have k2 := K.2.2
  have m0 := M.1
  have m2 := M.2.2
  have o0 := O.1
  have o2 := O.2.2
  go_wp2_with fail
  refine (S2.out _ R').mono ?_
  rintro e wb ⟨rfl, hbb⟩
  clear k0 k2 m0 m2 o0 o2
  replace K := K.later hbb
  replace M := M.later hbb
  replace O := O.later hbb
  replace R := R.old hbb
  replace R' := R'.old hbb
  replace hB := old_trans hB hbb
  have k0 := K.1
  have k2 := K.2.2
  have m0 := M.1
  have m2 := M.2.2
  have o0 := O.1
  have o2 := O.2.2
  have hsz : w.heap.size + 1 + 1 + 1 ≤ wb.heap.size := by have := hba.size; have := hbb.size; simp at *; omega
  obtain ⟨b, off, -, -, rfl, hbl, -, -, -, -⟩ := hR.at (k := 0) (by omega)
  obtain ⟨b', off', -, -, rfl, hbl', -, -, -, -⟩ := hR'.at (k := 0) (by omega)
  obtain ⟨i0, hi, hz0, hz1, hz2⟩ := info_parts infoPair
  go_wp2
  go_loopw [9] (fun i wr => ∃ (k : Nat) (av : Option Addr) (nv cv : Nat), k ≤ len ∧ i = .int .i64 k ∧ Hid (∀ j, j < k → meetAt ps qs j = true) ∧ Grows wr (wb.heap.size + 1) (.slice av nv cv) (madeL k (meetX ps qs) (meetY ps qs)) ∧ Cel1 wr wb.heap.size (.slice av nv cv) ∧ Cel1 wr w.heap.size (.slice (some ⟨b, off, none⟩) len cap) ∧ Cel1 wr (w.heap.size + 1) (.slice (some ⟨b', off', none⟩) len cap') ∧ Cel1 wr (w.heap.size + 1 + 1) (.slice none 0 0) ∧ InRow wr (some ⟨b, off, none⟩) len cap ps ∧ InRow wr (some ⟨b', off', none⟩) len cap' qs ∧ wb.heap.size + 1 ≤ wr.heap.size ∧ Below w.heap.size w wr) (fun b _ => len - (intOf b).toNat)
  case atStart => exact ⟨0, none, 0, 0, by omega, rfl, fun j hj => absurd hj (by omega), Grows.nil _ _, Cel1.made _ _ rfl _ _, K.alloc _, M.alloc _, O.alloc _, R.alloc _, R'.alloc _, by simp, hB.alloc hB.size _⟩
  case round =>
    clear K M O R R' hB k0 k2 m0 m2 o0 o2
    obtain ⟨k, av, nv, cv, hk, rfl, hyes, G, Q, K, M, O, hRr, hRr', hszr, hb⟩ := hrel
    obtain ⟨k0, k1, k2⟩ := id K
    obtain ⟨m0, m1, m2⟩ := id M
    by_cases hlt : k < len
    · obtain ⟨b1, off1, x, y, ha, -, hx, ⟨⟨q1, q2⟩, q3, q4⟩, c0, c1⟩ := hRr.at hlt
      obtain ⟨b2, off2, x', y', ha', -, hx', ⟨⟨r1, r2⟩, r3, r4⟩, d0, d1⟩ := hRr'.at hlt
      obtain ⟨rfl, rfl⟩ : b = b1 ∧ off = off1 := by injection ha with ha; injection ha with h1 h2; exact ⟨h1, h2⟩
      obtain ⟨rfl, rfl⟩ : b' = b2 ∧ off' = off2 := by injection ha' with ha'; injection ha' with h1 h2; exact ⟨h1, h2⟩
      clear ha ha'
      have hpk := hall.out k hlt
      rw [hx, hx'] at hpk
      have E := hd (sPairMeet wd x y x' y')
      have hX : meetX ps qs k = max x x' := by unfold meetX; rw [hx, hx']
      have hY : meetY ps qs k = min y y' := by unfold meetY; rw [hx, hx']
      have hm := madeL_snoc k (meetX ps qs) (meetY ps qs)
      have hmt : meetB wd x y x' y' = meetAt ps qs k := by
        unfold meetAt; rw [hX, hY]; unfold meetB; rw [show pokB wd x y = true from hpk.1, show pokB wd x' y' = true from hpk.2]; rfl
      rw [hX, hY] at hm
      rw [hmt] at E
      clear hX hY hpk hmt
      generalize max x x' = u at *
      generalize min y y' = v at *
      cases hok : meetAt ps qs k
      · rw [hok] at E
        have hno : Hid (z = false) := hr.out.trans (allI_no hlt hok)
        have E' : Hid (∀ w : World, Calls Try.prog 55 #[.int .i64 wd, .agg #[.int .i64 x, .int .i64 y], .agg #[.int .i64 x', .int .i64 y']] w fun e w' => e = .returned (.tuple #[.agg #[.int .i64 0, .int .i64 0], .bool false]) ∧ Below w.heap.size w w') := E
        clear E hok
        have lp : b < wr.heap.size := World.block_lt_of_cell? _ _ c0
        have lp1 := Nat.ne_of_lt lp
        have lp2 := Nat.ne_of_gt lp
        have lq : b' < wr.heap.size := World.block_lt_of_cell? _ _ d0
        have lq1 := Nat.ne_of_lt lq
        have lq2 := Nat.ne_of_gt lq
        have lr : w.heap.size < wr.heap.size := World.block_lt_of_cell? _ _ k0
        have lr1 := Nat.ne_of_lt lr
        have lr2 := Nat.ne_of_gt lr
        have ls : w.heap.size + 1 < wr.heap.size := World.block_lt_of_cell? _ _ m0
        have ls1 := Nat.ne_of_lt ls
        have ls2 := Nat.ne_of_gt ls
        go_upto_region 7 with fail
        go_cut [10, 11] (fun s t wx => ∃ pb, s = .pointer (some ⟨pb, 0, none⟩) ∧ t = .bool false ∧ Cel2 wx pb (.int .i64 0) (.int .i64 0) ∧ Below wr.heap.size wr wx)
        case first =>
          go_wp2_with fail
          go_region_held3 (fun w' => w'.cell? ⟨b, off + k * 2, none⟩ = some (.int .i64 x) ∧ w'.cell? ⟨b, off + k * 2 + 1, none⟩ = some (.int .i64 y) ∧ w'.cell? ⟨b', off' + k * 2, none⟩ = some (.int .i64 x') ∧ w'.cell? ⟨b', off' + k * 2 + 1, none⟩ = some (.int .i64 y') ∧ w'.cell? ⟨w.heap.size, 0, none⟩ = some (.slice (some ⟨b, off, none⟩) len cap) ∧ w'.cell? ⟨w.heap.size + 1, 0, none⟩ = some (.slice (some ⟨b', off', none⟩) len cap')) (go_keep) (first | (go_at_call 55; refine (E'.out _).mono ?_; rintro e wx ⟨rfl, hbx⟩; have c0 := (by first | exact cell_later hbx c0 | exact cell_later hbx (cell_al' c0 _)); have c1 := (by first | exact cell_later hbx c1 | exact cell_later hbx (cell_al' c1 _)); have d0 := (by first | exact cell_later hbx d0 | exact cell_later hbx (cell_al' d0 _)); have d1 := (by first | exact cell_later hbx d1 | exact cell_later hbx (cell_al' d1 _)); have k0 := (by first | exact cell_later hbx k0 | exact cell_later hbx (cell_al' k0 _)); have m0 := (by first | exact cell_later hbx m0 | exact cell_later hbx (cell_al' m0 _)); have lp : b < wx.heap.size := World.block_lt_of_cell? _ _ c0; have lp1 := Nat.ne_of_lt lp; have lp2 := Nat.ne_of_gt lp; have lq : b' < wx.heap.size := World.block_lt_of_cell? _ _ d0; have lq1 := Nat.ne_of_lt lq; have lq2 := Nat.ne_of_gt lq; have lr : w.heap.size < wx.heap.size := World.block_lt_of_cell? _ _ k0; have lr1 := Nat.ne_of_lt lr; have lr2 := Nat.ne_of_gt lr; have ls : w.heap.size + 1 < wx.heap.size := World.block_lt_of_cell? _ _ m0; have ls1 := Nat.ne_of_lt ls; have ls2 := Nat.ne_of_gt ls; (first | (have N := (Cel2.made _ _ rfl (.int .i64 0) (.int .i64 0) 47).later hbx; (try simp only [World.size_alloc] at N); have N0 := N.1; have N1 := N.2.1; have N2 := N.2.2.1; have N3 := N.2.2.2.1; have Nz := N.2.2.2.2; have Nn := Nat.ne_of_lt Nz; have No := Nat.ne_of_gt Nz) | (have N := (Cel2.made _ _ rfl (.int .i64 0) (.int .i64 0) 47).drew.later hbx; (try simp only [World.size_alloc] at N); have N0 := N.1; have N1 := N.2.1; have N2 := N.2.2.1; have N3 := N.2.2.2.1; have Nz := N.2.2.2.2; have Nn := Nat.ne_of_lt Nz; have No := Nat.ne_of_gt Nz) | skip)))
          all_goals
            go_wp2_with fail
            go_meet
            exact ⟨_, rfl, rfl, (by repeat (with_reducible first | exact N.stored _ _ | exact N.drew.stored _ _ | exact N | exact Cel2.made _ _ rfl _ _ _ | exact (Cel2.made _ _ rfl _ _ _).stored _ _ | exact (Cel2.made _ _ rfl _ _ _).drew.stored _ _ | refine Cel2.drew ?_)), (by repeat (first | exact Below.refl _ _ | refine Below.drew ?_ | refine Below.setCell ?_ (by first | (simp; done) | omega | (simp; omega)) _ | refine old_alloc ?_ _ | refine old_trans ?_ (by assumption)))⟩
        case rest =>
          obtain ⟨pb, rfl, rfl, N, hbx⟩ := hcut
          clear E' k0 k1 k2 m0 m1 m2 c0 c1 d0 d1 lp lp1 lp2 lq lq1 lq2 lr lr1 lr2 ls ls1 ls2
          replace K := K.later hbx
          replace M := M.later hbx
          replace O := O.later hbx
          replace Q := Q.later hbx
          replace hRr := hRr.old hbx
          replace hRr' := hRr'.old hbx
          replace G := G.later hbx
          replace hb := old_trans hb hbx
          have hs1 := Nat.le_trans hszr hbx.size
          obtain ⟨n0, n1, n2, n3, n4⟩ := id N
          obtain ⟨o0, o1, o2⟩ := id O
          go_wp2
          refine bodyPost_ret (v := .tuple #[.agg #[.slice none 0 0], .bool false]) ?_ rfl ⟨.inr ⟨hno.out, rfl⟩, hb.setCell (p := ⟨w.heap.size + 1 + 1, 0, none⟩) (by simp <;> omega) _⟩
          simp [results, Try.results22, go_sem, o0]
      · rw [hok] at E
        have hyes' : Hid (∀ j, j < k + 1 → meetAt ps qs j = true) := by
          intro j hj
          by_cases e : j = k
          · subst e; exact hok
          · exact hyes j (by omega)
        have E' : Hid (∀ w : World, Calls Try.prog 55 #[.int .i64 wd, .agg #[.int .i64 x, .int .i64 y], .agg #[.int .i64 x', .int .i64 y']] w fun e w' => e = .returned (.tuple #[.agg #[.int .i64 u, .int .i64 v], .bool true]) ∧ Below w.heap.size w w') := E
        clear E hok
        have lp : b < wr.heap.size := World.block_lt_of_cell? _ _ c0
        have lp1 := Nat.ne_of_lt lp
        have lp2 := Nat.ne_of_gt lp
        have lq : b' < wr.heap.size := World.block_lt_of_cell? _ _ d0
        have lq1 := Nat.ne_of_lt lq
        have lq2 := Nat.ne_of_gt lq
        have lr : w.heap.size < wr.heap.size := World.block_lt_of_cell? _ _ k0
        have lr1 := Nat.ne_of_lt lr
        have lr2 := Nat.ne_of_gt lr
        have ls : w.heap.size + 1 < wr.heap.size := World.block_lt_of_cell? _ _ m0
        have ls1 := Nat.ne_of_lt ls
        have ls2 := Nat.ne_of_gt ls
        go_upto_region 7 with fail
        go_cut [10, 11] (fun s t wx => ∃ pb, s = .pointer (some ⟨pb, 0, none⟩) ∧ t = .bool true ∧ Cel2 wx pb (.int .i64 u) (.int .i64 v) ∧ Below wr.heap.size wr wx)
        case first =>
          go_wp2_with fail
          go_region_held3 (fun w' => w'.cell? ⟨b, off + k * 2, none⟩ = some (.int .i64 x) ∧ w'.cell? ⟨b, off + k * 2 + 1, none⟩ = some (.int .i64 y) ∧ w'.cell? ⟨b', off' + k * 2, none⟩ = some (.int .i64 x') ∧ w'.cell? ⟨b', off' + k * 2 + 1, none⟩ = some (.int .i64 y') ∧ w'.cell? ⟨w.heap.size, 0, none⟩ = some (.slice (some ⟨b, off, none⟩) len cap) ∧ w'.cell? ⟨w.heap.size + 1, 0, none⟩ = some (.slice (some ⟨b', off', none⟩) len cap')) (go_keep) (first | (go_at_call 55; refine (E'.out _).mono ?_; rintro e wx ⟨rfl, hbx⟩; have c0 := (by first | exact cell_later hbx c0 | exact cell_later hbx (cell_al' c0 _)); have c1 := (by first | exact cell_later hbx c1 | exact cell_later hbx (cell_al' c1 _)); have d0 := (by first | exact cell_later hbx d0 | exact cell_later hbx (cell_al' d0 _)); have d1 := (by first | exact cell_later hbx d1 | exact cell_later hbx (cell_al' d1 _)); have k0 := (by first | exact cell_later hbx k0 | exact cell_later hbx (cell_al' k0 _)); have m0 := (by first | exact cell_later hbx m0 | exact cell_later hbx (cell_al' m0 _)); have lp : b < wx.heap.size := World.block_lt_of_cell? _ _ c0; have lp1 := Nat.ne_of_lt lp; have lp2 := Nat.ne_of_gt lp; have lq : b' < wx.heap.size := World.block_lt_of_cell? _ _ d0; have lq1 := Nat.ne_of_lt lq; have lq2 := Nat.ne_of_gt lq; have lr : w.heap.size < wx.heap.size := World.block_lt_of_cell? _ _ k0; have lr1 := Nat.ne_of_lt lr; have lr2 := Nat.ne_of_gt lr; have ls : w.heap.size + 1 < wx.heap.size := World.block_lt_of_cell? _ _ m0; have ls1 := Nat.ne_of_lt ls; have ls2 := Nat.ne_of_gt ls; (first | (have N := (Cel2.made _ _ rfl (.int .i64 0) (.int .i64 0) 47).later hbx; (try simp only [World.size_alloc] at N); have N0 := N.1; have N1 := N.2.1; have N2 := N.2.2.1; have N3 := N.2.2.2.1; have Nz := N.2.2.2.2; have Nn := Nat.ne_of_lt Nz; have No := Nat.ne_of_gt Nz) | (have N := (Cel2.made _ _ rfl (.int .i64 0) (.int .i64 0) 47).drew.later hbx; (try simp only [World.size_alloc] at N); have N0 := N.1; have N1 := N.2.1; have N2 := N.2.2.1; have N3 := N.2.2.2.1; have Nz := N.2.2.2.2; have Nn := Nat.ne_of_lt Nz; have No := Nat.ne_of_gt Nz) | skip)))
          all_goals
            go_wp2_with fail
            go_meet
            exact ⟨_, rfl, rfl, (by repeat (with_reducible first | exact N.stored _ _ | exact N.drew.stored _ _ | exact N | exact Cel2.made _ _ rfl _ _ _ | exact (Cel2.made _ _ rfl _ _ _).stored _ _ | exact (Cel2.made _ _ rfl _ _ _).drew.stored _ _ | refine Cel2.drew ?_)), (by repeat (first | exact Below.refl _ _ | refine Below.drew ?_ | refine Below.setCell ?_ (by first | (simp; done) | omega | (simp; omega)) _ | refine old_alloc ?_ _ | refine old_trans ?_ (by assumption)))⟩
        case rest =>
          obtain ⟨pb, rfl, rfl, N, hbx⟩ := hcut
          clear E' k0 k1 k2 m0 m1 m2 c0 c1 d0 d1 lp lp1 lp2 lq lq1 lq2 lr lr1 lr2 ls ls1 ls2
          replace K := K.later hbx
          replace M := M.later hbx
          replace O := O.later hbx
          replace Q := Q.later hbx
          replace hRr := hRr.old hbx
          replace hRr' := hRr'.old hbx
          replace G := G.later hbx
          replace hb := old_trans hb hbx
          have hs1 := Nat.le_trans hszr hbx.size
          obtain ⟨n0, n1, n2, n3, n4⟩ := id N
          have O2 := O.alloc (.cells #[.int .i64 u, .int .i64 v] 47)
          have Q2 := Q.alloc (.cells #[.int .i64 u, .int .i64 v] 47)
          have K2 := K.alloc (.cells #[.int .i64 u, .int .i64 v] 47)
          have M2 := M.alloc (.cells #[.int .i64 u, .int .i64 v] 47)
          have R2 := hRr.alloc (.cells #[.int .i64 u, .int .i64 v] 47)
          have R2' := hRr'.alloc (.cells #[.int .i64 u, .int .i64 v] 47)
          have G2 := G.alloc (.cells #[.int .i64 u, .int .i64 v] 47)
          have B2 : Below w.heap.size w (wc.alloc (.cells #[.int .i64 u, .int .i64 v] 47)) := hb.alloc hb.size _
          have cw := cells_two wc wc.heap.size rfl (.int .i64 u) (.int .i64 v) 47
          obtain ⟨o0, o1, o2⟩ := id Q
          have hml := madeL_length k (meetX ps qs) (meetY ps qs)
          clear hbx hszr
          go_wp2_with (at_builtin; refine wpList_append_own _ rfl _ _ 27 rfl (wb.heap.size + 1) 47 i0 _ 2 16 Try.underlying27 hi hz0 hz1 hz2 rfl (by decide) _ _ _ rfl G2 ⟨wc.heap.size, 0, none⟩ 1 1 [.int .i64 u, .int .i64 v] rfl rfl cw (by simp [Value.oneCell']) (by rw [hml]; unfold maxLen; omega) (by rw [hml]; omega) (by simp; omega) ?_; intro v' w5 hown hgrow _; rw [hml] at hown; obtain ⟨g', cap', rfl⟩ := ownsRow_succ hown; have Q5 := Q2.kept hgrow (G2.far (by omega)); have o5 := Q5.1; have f5 := Q5.2.1; have l5 := Q5.2.2)
          have G5 : Grows w5 (wb.heap.size + 1) (.slice (some ⟨g', 0, none⟩) (k + 1) cap') (madeL (k + 1) (meetX ps qs) (meetY ps qs)) := by
            rw [hm]
            unfold Grows
            rw [flat_snoc, List.length_append, hml]
            exact hown
          have K5 := K2.kept hgrow (G2.far (by omega))
          have M5 := M2.kept hgrow (G2.far (by omega))
          have O5 := O2.kept hgrow (G2.far (by omega))
          have R5 := R2.kept hgrow (fun q e => by cases e; exact G2.far (by show b < _; omega))
          have R5' := R2'.kept hgrow (fun q e => by cases e; exact G2.far (by show b' < _; omega))
          have B5 := B2.grown hgrow B2.size (fun c e => by have := (World.ownsRow.lt G2 c e).1; omega)
          have S5 := hgrow.size
          go_roundw
          case rel => exact ⟨k + 1, _, _, _, by omega, by go_num, hyes', G5.set (by omega) _, Q5.set _, K5.other _ (by simp <;> omega) _, M5.other _ (by simp <;> omega) _, O5.other _ (by simp <;> omega) _, R5.set _ _ (fun q e => by cases e; simp <;> omega), R5'.set _ _ (fun q e => by cases e; simp <;> omega), by simp [World.setCell]; simp at S5; omega, B5.setCell (p := ⟨wb.heap.size, 0, none⟩) (by simp <;> omega) _⟩
          case measure => simp [intOf]; omega
    · obtain rfl : k = len := by omega
      have hyz : Hid (z = true) := hr.out.trans (allI_yes hyes)
      obtain ⟨g, cap2, hv, hg1, hg2, hg3, hrow⟩ := G.row (by rw [madeL_length]; omega)
      rw [madeL_length] at hv
      injection hv with e1 e2 e3
      subst e1 e2 e3
      obtain ⟨q0, q1, q2⟩ := id Q
      obtain ⟨o0, o1, o2⟩ := id O
      go_wp2
      refine bodyPost_ret (v := .tuple #[.agg #[.slice (some ⟨g, 0, none⟩) (madeL nv (meetX ps qs) (meetY ps qs)).length cv], .bool true]) ?_ rfl ⟨.inl ⟨hyz.out, g, cv, rfl, by omega, hg2, hg3, hrow.other ⟨w.heap.size + 1 + 1, 0, none⟩ (by simp <;> omega) _⟩, hb.setCell (p := ⟨w.heap.size + 1 + 1, 0, none⟩) (by simp <;> omega) _⟩
      simp [results, Try.results22, go_sem, o0, madeL_length]
end Go.Proofs.Ytmeijbiohbpgpaa
