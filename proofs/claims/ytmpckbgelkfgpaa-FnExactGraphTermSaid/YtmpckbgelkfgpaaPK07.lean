/- A law's copy of a graph. No condition but that the graph is there. -/
import Derived.Test.YtmpckbgelkfgpaaPK03
import Derived.Deep.DeepCutAuto
namespace Go.Proofs.Ytmpckbgelkfgpaa
open Go.RowKit
set_option linter.unusedVariables false
set_option maxRecDepth 100000

theorem RowGn.later {w w' : World} {b : Nat} {xs : List Gn} (h : RowGn w b xs) (k : Below w.heap.size w w') : RowGn w' b xs := h.old k
set_option maxRecDepth 100000 in
set_option maxHeartbeats 4000000 in
theorem lToGraph (vs : Int) (a : Option Addr) (len cap : Nat) (xs : List Gn) (a' : Option Addr) (len' cap' : Nat) (ys : List Gr) (w : World) (hR : InGn w a len cap xs) (hR' : InGr w a' len' cap' ys) (hl : len ≤ 1048576) (hl' : len' ≤ 1048576) :
    Calls Try.prog 33 #[.agg #[.int .i64 vs, .slice a len cap, .slice a' len' cap']] w fun e w' => (∃ bn br, e = .returned (.agg #[.int .i64 vs, .slice (some ⟨bn, 0, none⟩) len len, .slice (some ⟨br, 0, none⟩) len' len']) ∧ w.heap.size ≤ bn ∧ w.heap.size ≤ br ∧ RowGn w' bn xs ∧ RowGr w' br ys) ∧ Below w.heap.size w w' := by
  have K0 : CS (((w.alloc (.cells #[.int .i64 vs, .slice a len cap, .slice a' len' cap'] 65)).alloc (.cells #[.int .i64 0, .slice none 0 0, .slice none 0 0] 71)).alloc (.cells #[.int .i64 vs, .slice none 0 0, .slice none 0 0] 71)) w.heap.size _ := ((CS.made w _ rfl #[.int .i64 vs, .slice a len cap, .slice a' len' cap'] 65).alloc (.cells #[.int .i64 0, .slice none 0 0, .slice none 0 0] 71)).alloc (.cells #[.int .i64 vs, .slice none 0 0, .slice none 0 0] 71)
  have K1 : CS (((w.alloc (.cells #[.int .i64 vs, .slice a len cap, .slice a' len' cap'] 65)).alloc (.cells #[.int .i64 0, .slice none 0 0, .slice none 0 0] 71)).alloc (.cells #[.int .i64 vs, .slice none 0 0, .slice none 0 0] 71)) (w.heap.size + 1) _ := (CS.made (w.alloc (.cells #[.int .i64 vs, .slice a len cap, .slice a' len' cap'] 65)) (w.heap.size + 1) (by simp) #[.int .i64 0, .slice none 0 0, .slice none 0 0] 71).alloc (.cells #[.int .i64 vs, .slice none 0 0, .slice none 0 0] 71)
  have K2 : CS (((w.alloc (.cells #[.int .i64 vs, .slice a len cap, .slice a' len' cap'] 65)).alloc (.cells #[.int .i64 0, .slice none 0 0, .slice none 0 0] 71)).alloc (.cells #[.int .i64 vs, .slice none 0 0, .slice none 0 0] 71)) (w.heap.size + 1 + 1) _ := CS.made ((w.alloc (.cells #[.int .i64 vs, .slice a len cap, .slice a' len' cap'] 65)).alloc (.cells #[.int .i64 0, .slice none 0 0, .slice none 0 0] 71)) (w.heap.size + 1 + 1) (by simp) #[.int .i64 vs, .slice none 0 0, .slice none 0 0] 71
  have hB : Below w.heap.size w (((w.alloc (.cells #[.int .i64 vs, .slice a len cap, .slice a' len' cap'] 65)).alloc (.cells #[.int .i64 0, .slice none 0 0, .slice none 0 0] 71)).alloc (.cells #[.int .i64 vs, .slice none 0 0, .slice none 0 0] 71)) := old_alloc (old_alloc (old_alloc (Below.refl _ _) _) _) _
  have TN := hd (fun W (h : Below w.heap.size w W) => lToGns a len cap xs W (hR.old h) hl)
  have TR := hd (fun W (h : Below w.heap.size w W) => lToGrs a' len' cap' ys W (hR'.old h) hl')
  clear hR hR'
  go_enter Try.func33, Try.ntmps33
  go_upto_region 3 with fail
  generalize ((w.alloc (.cells #[.int .i64 vs, .slice a len cap, .slice a' len' cap'] 65)).alloc (.cells #[.int .i64 0, .slice none 0 0, .slice none 0 0] 71)).alloc (.cells #[.int .i64 vs, .slice none 0 0, .slice none 0 0] 71) = W0 at *
  have k1 := K0.cell 1 _ rfl
  go_wp2_with fail
  refine (TN.out _ hB).mono ?_
  rintro e w1 ⟨⟨rfl, hr⟩, hb1⟩
  have ln := K2.lt
  replace hB := old_trans hB hb1
  replace K0 := K0.later hb1
  replace K1 := K1.later hb1
  replace K2 := K2.later hb1
  generalize W0.heap.size = bn at *
  clear k1 TN hb1
  have d1 := K2.cell 1 _ rfl
  have f1 := K2.froz 1 (by simp)
  have z1 := K2.lt
  go_upto_region 4 with fail
  replace K0 := K0.far (c := w.heap.size + 1 + 1) (i := 1) (by omega) (.slice (some ⟨bn, 0, none⟩) len len)
  replace K1 := K1.far (c := w.heap.size + 1 + 1) (i := 1) (by omega) (.slice (some ⟨bn, 0, none⟩) len len)
  replace K2 := K2.stored (i := 1) (.slice (some ⟨bn, 0, none⟩) len len) (by simp)
  replace hr := hr.other (w.heap.size + 1 + 1) 1 (by omega) (.slice (some ⟨bn, 0, none⟩) len len)
  replace hB := hB.setCell (p := ⟨w.heap.size + 1 + 1, 1, none⟩) (by simp; omega) (.slice (some ⟨bn, 0, none⟩) len len)
  clear d1 f1 z1
  generalize w1.setCell ⟨w.heap.size + 1 + 1, 1, none⟩ (.slice (some ⟨bn, 0, none⟩) len len) = w2 at *
  have k2 := K0.cell 2 _ rfl
  go_wp2_with fail
  refine (TR.out _ hB).mono ?_
  rintro e w3 ⟨⟨rfl, hq⟩, hb3⟩
  have lr := K2.lt
  replace hB := old_trans hB hb3
  replace K1 := K1.later hb3
  replace K2 := K2.later hb3
  replace hr := hr.old hb3
  generalize w2.heap.size = br at *
  clear k2 TR hb3 K0
  have d2 := K2.cell 2 _ rfl
  have f2 := K2.froz 2 (by simp)
  have z2 := K2.lt
  go_upto_region 5 with fail
  replace K1 := K1.far (c := w.heap.size + 1 + 1) (i := 2) (by omega) (.slice (some ⟨br, 0, none⟩) len' len')
  replace K2 := K2.stored (i := 2) (.slice (some ⟨br, 0, none⟩) len' len') (by simp)
  replace hr := hr.other (w.heap.size + 1 + 1) 2 (by omega) (.slice (some ⟨br, 0, none⟩) len' len')
  replace hq := hq.other (w.heap.size + 1 + 1) 2 (by omega) (.slice (some ⟨br, 0, none⟩) len' len')
  replace hB := hB.setCell (p := ⟨w.heap.size + 1 + 1, 2, none⟩) (by simp; omega) (.slice (some ⟨br, 0, none⟩) len' len')
  clear d2 f2 z2
  generalize w3.setCell ⟨w.heap.size + 1 + 1, 2, none⟩ (.slice (some ⟨br, 0, none⟩) len' len') = w4 at *
  have o0 := K2.cell 0 _ rfl
  have o1 := K2.cell 1 _ rfl
  have o2 := K2.cell 2 _ rfl
  have r0 := K1.cell 0 _ rfl
  have r1 := K1.cell 1 _ rfl
  have r2 := K1.cell 2 _ rfl
  have g0 := K1.froz 0 (by simp)
  have g1 := K1.froz 1 (by simp)
  have g2 := K1.froz 2 (by simp)
  have gl := K1.lt
  go_wp2
  have X := ((K1.stored (i := 0) (.int .i64 vs) (by simp)).stored (i := 1) (.slice (some ⟨bn, 0, none⟩) len len) (by simp)).stored (i := 2) (.slice (some ⟨br, 0, none⟩) len' len') (by simp)
  have x0 := X.cell 0 _ rfl
  have x1 := X.cell 1 _ rfl
  have x2 := X.cell 2 _ rfl
  refine bodyPost_ret (v := .agg #[.int .i64 vs, .slice (some ⟨bn, 0, none⟩) len len, .slice (some ⟨br, 0, none⟩) len' len']) ?_ rfl ⟨⟨bn, br, rfl, by omega, by omega, ((hr.other (w.heap.size + 1) 0 (by omega) _).other (w.heap.size + 1) 1 (by omega) _).other (w.heap.size + 1) 2 (by omega) _, ((hq.other (w.heap.size + 1) 0 (by omega) _).other (w.heap.size + 1) 1 (by omega) _).other (w.heap.size + 1) 2 (by omega) _⟩, ((hB.setCell (p := ⟨w.heap.size + 1, 0, none⟩) (by simp) _).setCell (p := ⟨w.heap.size + 1, 1, none⟩) (by simp) _).setCell (p := ⟨w.heap.size + 1, 2, none⟩) (by simp) _⟩
  simp [results, Try.results33, go_sem, x0, x1, x2]
end Go.Proofs.Ytmpckbgelkfgpaa
