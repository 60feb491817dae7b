/- A number is taken from digits that have one more, as often as it goes: the program. Conditions: digits, two at least; the lists apart. -/
import Derived.Test.YtpamnpdigoikoaaDoorV8
namespace Go.Proofs.YtpamnpdigoikoaaDoor
open Go.RowKit
set_option linter.unusedVariables false
set_option maxRecDepth 100000

theorem sval_neg {n : Nat} {qs : List Int} (h : digs (qs.take n)) (hl : qs.length = n + 1) : (sval n qs < 0 → qs.getD n 0 < 0) ∧ (0 ≤ sval n qs → 0 ≤ qs.getD n 0) := by
  have hv := val_lt h
  rw [List.length_take, Nat.min_eq_left (by omega)] at hv
  have e := pow_cast n
  unfold sval
  generalize val (qs.take n) = v at *
  generalize qs.getD n 0 = t at *
  have hv' : (v : Int) < (65536 : Int) ^ n := by rw [← e]; exact Int.ofNat_lt.2 hv
  generalize (65536 : Int) ^ n = P at *
  clear hv e
  constructor
  · intro hs
    rcases Int.lt_or_le t 0 with g | g
    · exact g
    · have := Int.mul_nonneg (show 0 ≤ P by omega) g
      omega
  · intro hs
    rcases Int.lt_or_le t 0 with g | g
    · have : P * t ≤ P * (-1) := Int.mul_le_mul_of_nonneg_left (by omega) (by omega)
      omega
    · exact g
theorem sval_top {n : Nat} {qs : List Int} (h : digs (qs.take n)) (hl : qs.length = n + 1) (h1 : -(65536 * (65536 : Int) ^ n) ≤ sval n qs) (h2 : sval n qs < 65536 * (65536 : Int) ^ n) : -65537 ≤ qs.getD n 0 ∧ qs.getD n 0 ≤ 65536 := by
  have hv := val_lt h
  rw [List.length_take, Nat.min_eq_left (by omega)] at hv
  have e := pow_cast n
  unfold sval at h1 h2
  generalize val (qs.take n) = v at *
  generalize qs.getD n 0 = t at *
  have hv' : (v : Int) < (65536 : Int) ^ n := by rw [← e]; exact Int.ofNat_lt.2 hv
  generalize (65536 : Int) ^ n = P at *
  clear hv e
  constructor
  · rcases Int.lt_or_le t (-65537) with g | g
    · have : P * t ≤ P * (-65538) := Int.mul_le_mul_of_nonneg_left (by omega) (by omega)
      omega
    · exact g
  · rcases Int.lt_or_le 65536 t with g | g
    · have : P * 65537 ≤ P * t := Int.mul_le_mul_of_nonneg_left (by omega) (by omega)
      omega
    · exact g
theorem sval_small {n : Nat} {qs : List Int} (h : digs (qs.take n)) (hl : qs.length = n + 1) (S : Nat) (hs : sval n qs = (S : Int)) (hS : S < 65536 ^ n) : digs qs ∧ val qs = S := by
  have hv := val_lt h
  rw [List.length_take, Nat.min_eq_left (by omega)] at hv
  have hspl : qs = qs.take n ++ [qs.getD n 0] := by
    have := take_snoc (xs := qs) (k := n) (by omega)
    rw [List.take_of_length_le (by omega)] at this
    exact this
  have e := pow_cast n
  have ht : qs.getD n 0 = 0 := by
    unfold sval at hs
    generalize val (qs.take n) = v at *
    generalize qs.getD n 0 = t at *
    have hv' : (v : Int) < (65536 : Int) ^ n := by rw [← e]; exact Int.ofNat_lt.2 hv
    have hS' : (S : Int) < (65536 : Int) ^ n := by rw [← e]; exact Int.ofNat_lt.2 hS
    generalize (65536 : Int) ^ n = P at *
    clear hv e hS hspl
    rcases Int.lt_trichotomy t 0 with g | g | g
    · have : P * t ≤ P * (-1) := Int.mul_le_mul_of_nonneg_left (by omega) (by omega)
      omega
    · exact g
    · have : P * 1 ≤ P * t := Int.mul_le_mul_of_nonneg_left (by omega) (by omega)
      omega
  unfold sval at hs
  rw [ht, Int.mul_zero, Int.add_zero] at hs
  rw [ht] at hspl
  rw [hspl]
  refine ⟨digs_append.2 ⟨h, digs_cons.2 ⟨by unfold dig; omega, digs_nil⟩⟩, ?_⟩
  rw [val_append, val_cons, val_nil]
  simp
  omega
theorem sval_digs {n : Nat} {rs : List Int} (h : digs rs) (hl : rs.length = n + 1) : sval n rs = (val rs : Nat) := by
  have hspl := take_snoc (xs := rs) (k := n) (by omega)
  rw [List.take_of_length_le (by omega)] at hspl
  have hv : val rs = val (rs.take n) + 65536 ^ n * (rs.getD n 0).toNat := by
    have := congrArg val hspl
    rw [val_append, List.length_take, Nat.min_eq_left (by omega), val_cons, val_nil] at this
    rw [this]; simp
  have d := digs_getD h n
  unfold dig at d
  unfold sval
  rw [hv, Int.natCast_add, Int.natCast_mul, pow_cast, show (((rs.getD n 0).toNat : Nat) : Int) = rs.getD n 0 by omega]
theorem grown_after {a b c : World} {r : Option Nat} (h : Below a.heap.size a b) (k : b.grownBy c r) : a.grownBy c r :=
  ⟨k.os.trans h.1, k.tape.trans h.2, k.output.trans h.3, Nat.le_trans h.4 k.size, fun i hi hne => (k.block i (Nat.lt_of_lt_of_le hi h.4) hne).trans (h.5 i hi)⟩
theorem grown_on {a b c : World} {r : Option Nat} (h : a.grownBy b r) (k : b.grownBy c r) : a.grownBy c r :=
  ⟨k.os.trans h.os, k.tape.trans h.tape, k.output.trans h.output, Nat.le_trans h.size k.size, fun i hi hne => (k.block i (Nat.lt_of_lt_of_le hi h.size) hne).trans (h.block i hi hne)⟩
/-- what is left when it was taken t times -/
structure TakeI (n : Nat) (qs : List Int) (R A : Nat) (t : Nat) : Prop where
  sz : qs.length = n + 1
  dg : digs (qs.take n)
  eq : sval n qs = (R : Int) - (A : Int) * (t : Int)
  ge : R / A ≤ t
  le : t ≤ 65535
theorem TakeI.bounds {n : Nat} {qs : List Int} {R A t : Nat} (h : TakeI n qs R A t) (hA : A < 65536 ^ n) (hR : R < A * 65536) : -65537 ≤ qs.getD n 0 ∧ qs.getD n 0 ≤ 65536 := by
  have e := pow_cast n
  have hA' : (A : Int) < (65536 : Int) ^ n := by rw [← e]; exact Int.ofNat_lt.2 hA
  have ht : (A : Int) * (t : Int) ≤ (A : Int) * 65535 := Int.mul_le_mul_of_nonneg_left (by have := h.le; omega) (by omega)
  have ht0 : 0 ≤ (A : Int) * (t : Int) := Int.mul_nonneg (by omega) (by omega)
  have hR' : (R : Int) < (A : Int) * 65536 := by have := Int.ofNat_lt.2 hR; rw [Int.natCast_mul] at this; exact this
  refine sval_top h.dg h.sz ?_ ?_
  · rw [h.eq]
    generalize (65536 : Int) ^ n = P at *
    generalize (A : Int) * (t : Int) = At at *
    omega
  · rw [h.eq]
    generalize (65536 : Int) ^ n = P at *
    generalize (A : Int) * (t : Int) = At at *
    omega
theorem TakeI.done {n : Nat} {qs : List Int} {R A t : Nat} (h : TakeI n qs R A t) (hA : A < 65536 ^ n) (hA0 : 0 < A) (ht : 0 ≤ qs.getD n 0) : t = R / A ∧ digs qs ∧ val qs = R % A := by
  have h0 : 0 ≤ sval n qs := by
    rcases Int.lt_or_le (sval n qs) 0 with g | g
    · have := (sval_neg h.dg h.sz).1 g
      omega
    · exact g
  rw [h.eq] at h0
  have hle : A * t ≤ R := by
    have : ((A * t : Nat) : Int) ≤ (R : Int) := by rw [Int.natCast_mul]; omega
    exact Int.ofNat_le.1 this
  obtain ⟨e1, e2⟩ := guess_fits hA0 h.ge hle
  refine ⟨e1, ?_⟩
  have hs : sval n qs = ((R % A : Nat) : Int) := by
    rw [h.eq, ← e2, Int.natCast_sub hle, Int.natCast_mul]
  exact sval_small h.dg h.sz _ hs (Nat.lt_trans (Nat.mod_lt _ hA0) hA)
theorem TakeI.less {n : Nat} {qs : List Int} {R A t : Nat} (h : TakeI n qs R A t) (hA0 : 0 < A) (ht : qs.getD n 0 < 0) : 0 < t ∧ R / A ≤ t - 1 := by
  have h0 : sval n qs < 0 := by
    rcases Int.lt_or_le (sval n qs) 0 with g | g
    · exact g
    · have := (sval_neg h.dg h.sz).2 g
      omega
  rw [h.eq] at h0
  have hlt : R < A * t := by
    have : (R : Int) < ((A * t : Nat) : Int) := by rw [Int.natCast_mul]; omega
    exact Int.ofNat_lt.1 this
  have := guess_not hA0 hlt
  exact ⟨this.1, this.2.1⟩
set_option maxRecDepth 100000 in
set_option maxHeartbeats 4000000 in
theorem iTaken (a : Option Addr) (n ca g cr : Nat) (xs rs : List Int) (w : World) (hA : InI w a n ca xs) (h2 : 2 ≤ n) (hr : IRow w g rs) (hl : rs.length = n + 1) (hx : digs xs) (tx : topped xs) (hd0 : digs rs) (hR : val rs < val xs * 65536) (hm : n ≤ 1048576) (hcr : n + 1 ≤ cr) (hsep : ∀ q, a = some q → q.block ≠ g) :
    Calls Tryd.prog 81 #[.slice a n ca, .slice (some ⟨g, 0, none⟩) (n + 1) cr] w fun e w' => e = .returned (.int .i64 ((val rs / val xs : Nat) : Int)) ∧ (∃ qs, qs.length = n + 1 ∧ digs qs ∧ val qs = val rs % val xs ∧ IRow w' g qs) ∧ w.grownBy w' (some g) := by
  have pa := hA.1
  have hAv : val xs < 65536 ^ n := by rw [← pa]; exact val_lt hx
  have hA0 : 0 < val xs := Nat.lt_of_lt_of_le (Nat.pow_pos (by omega)) (val_ge hx tx (by omega))
  have G := hd (iGuessed a n ca g cr xs rs w hA h2 hr hl hx tx hd0 hR hm)
  have hI0 := hd (fun t (h1 : val rs / val xs ≤ t) (h3 : t ≤ 65535) (qs : List Int) (e1 : qs.length = n + 1) (e2 : digs (qs.take n)) (e3 : sval n qs = sval n rs + (-(t : Int)) * (val xs : Nat)) => (show TakeI n qs (val rs) (val xs) t from ⟨e1, e2, by rw [e3, sval_digs hd0 hl, Int.neg_mul, Int.mul_comm]; omega, h1, h3⟩))
  have hdt := hd (digs_take (n := n) hd0)
  have d0 := digs_getD hd0 n
  unfold dig at d0
  have hzero : Hid (val rs / val xs = 0 → val rs % val xs = val rs) := fun h => by
    have h5 : val rs < val xs := by
      rcases Nat.lt_or_ge (val rs) (val xs) with g | g
      · exact g
      · have := Nat.div_pos g hA0; omega
    exact Nat.mod_eq_of_lt h5
  have AD := hd (fun (rs : List Int) (t : Int) w' (h1 : InI w' a n ca xs) (h2 : IRow w' g rs) (h3 : rs.length = n + 1) (h4 : digs (rs.take n)) (h5 : -65535 ≤ t ∧ t ≤ 65535) (h6 : -1099511627776 ≤ rs.getD n 0 ∧ rs.getD n 0 ≤ 1099511627776) => iAddTo a n ca g cr xs rs t w' h1 h2 h3 hx h4 (fun _ => hsep) h5 h6 hm hcr)
  have hgl := hr.1
  have hfin := hd (fun (t : Nat) (qs : List Int) (h : TakeI n qs (val rs) (val xs) t) (ht : 0 ≤ qs.getD n 0) => h.done hAv hA0 ht)
  have hles := hd (fun (t : Nat) (qs : List Int) (h : TakeI n qs (val rs) (val xs) t) (ht : qs.getD n 0 < 0) => h.less hA0 ht)
  have hbds := hd (fun (t : Nat) (qs : List Int) (h : TakeI n qs (val rs) (val xs) t) => h.bounds hAv hR)
  have hstp := hd (fun (t : Nat) (qs qs' : List Int) (h : TakeI n qs (val rs) (val xs) t) (h0 : 0 < t) (h1 : val rs / val xs ≤ t - 1) (e1 : qs'.length = n + 1) (e2 : digs (qs'.take n)) (e3 : sval n qs' = sval n qs + 1 * (val xs : Nat)) => (show TakeI n qs' (val rs) (val xs) (t - 1) from ⟨e1, e2, by rw [e3, h.eq, Int.natCast_sub (by omega), Int.mul_sub]; omega, h1, by have := h.le; omega⟩))
  generalize val rs / val xs = Q at *
  generalize val rs % val xs = M at *
  have hdd := hd hd0
  clear hd0 hR tx hAv hA0
  go_enter Tryd.func81, Tryd.ntmps81
  go_wp2_with fail
  refine G.out.mono ?_
  rintro e w1 ⟨⟨t, rfl, ht1, ht2⟩, hb1⟩
  have hA1 := hA.old hb1
  have hr1 := hr.old hb1
  clear G
  by_cases ht0 : t = 0
  · obtain rfl : Q = 0 := by omega
    have hz := hzero.out rfl
    subst ht0
    go_wp2
    go_ret
    exact ⟨rfl, ⟨rs, hl, hdd.out, hz.symm, hr1⟩, grown_after hb1 (World.grownBy.refl _ _)⟩
  · have A1 := hd (AD.out rs (-(t : Int)) w1 hA1 hr1 hl hdt.out (by omega) (by omega))
    have ht1' := hd ht1
    have ht2' := hd ht2
    have p1 : (0 : Int) < (t : Int) := by omega
    have p2 : (t : Int) ≤ 65535 := by omega
    have p3 : ((t : Int) == 0) = false := by simp; omega
    clear ht0 ht1 ht2
    generalize hT : (t : Int) = T at *
    go_wp2_with fail
    refine A1.out.mono ?_
    rintro e w2 ⟨⟨v, rfl⟩, ⟨qs, e1, e2, e3, hr2⟩, hg2⟩
    have hI := hd (hI0.out t ht1'.out ht2'.out qs e1 e2 (by rw [hT]; exact e3))
    have hG := grown_after hb1 hg2
    clear A1 e1 e2 e3 hI0
    go_wp2_with fail
    go_loopw [5] (fun s wr => ∃ (t : Nat) (qs : List Int), s = .int .i64 (t : Int) ∧ TakeI n qs (val rs) (val xs) t ∧ IRow wr g qs ∧ w.grownBy wr (some g)) (fun s _ => (intOf s).toNat)
    case atStart => exact ⟨t, qs, by rw [hT], hI.out, hr2, hG⟩
    case round =>
      clear hI hG hr2 hg2 hT p1 p2 p3 ht1' ht2' hr1 hA1
      obtain ⟨t', qs', rfl, hI, hrr, hgg⟩ := hrel
      have hA2 := hA.kept hgg (fun h q e => by intro e2; injection e2 with e3; exact hsep q e e3)
      obtain ⟨z, ez, k0, k2⟩ := hrr.at (k := n) (by rw [hI.sz]; omega)
      have hbd := hbds.out _ _ hI
      rw [ez] at hbd
      by_cases hneg : z < 0
      · obtain ⟨j1, j2⟩ := hles.out _ _ hI (by rw [ez]; exact hneg)
        have A1 := hd (AD.out qs' 1 wr hA2 hrr hI.sz hI.dg (by omega) (by rw [ez]; omega))
        have hle := hI.le
        have j1' := hd j1
        have hst := hd (fun qs'' e1 e2 e3 => hstp.out _ qs' qs'' hI j1 j2 e1 e2 e3)
        have p1 : (1 : Int) ≤ (t' : Int) := by omega
        have p2 : (t' : Int) ≤ 65535 := by omega
        have hgn : Hid ((t' : Int) - 1 = ((t' - 1 : Nat) : Int)) := by show _ = _; omega
        clear hI hle j1 j2 hbd hA2
        generalize hT : (t' : Int) = T' at *
        go_wp2_with fail
        refine A1.out.mono ?_
        rintro e w3 ⟨⟨v, rfl⟩, ⟨qs3, e1, e2, e3, hr3⟩, hg3⟩
        go_wp2_with fail
        go_roundw
        case rel => exact ⟨t' - 1, qs3, by rw [hgn.out], hst.out _ e1 e2 e3, hr3, grown_on hgg hg3⟩
        case measure => (subst hT; have := j1'.out; simp [intOf] <;> omega)
      · obtain ⟨j1, j2, j3⟩ := hfin.out _ _ hI (by rw [ez]; omega)
        have hsz := hI.sz
        clear hI hbd hA2
        subst j1
        generalize hT9 : (t' : Int) = T' at *
        go_wp2
        go_ret
        exact ⟨by subst hT9; rfl, ⟨qs', hsz, j2, j3, hrr⟩, hgg⟩
end Go.Proofs.YtpamnpdigoikoaaDoor
