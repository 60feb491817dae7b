/- Lists of texts that a function owns, sorted and compacted by the library, off the shelf. Conditions: one text at least, 1000 at most. -/
import Derived.Test.YtafpjgojmpjajaaYX
import Derived.Test.YtafpjgojmpjajaaYW
import Derived.Sort.OwnSorted
namespace Go.Proofs.Ytafpjgojmpjajaa
open Go.RowKit Go.Sort Go.Proofs
set_option linter.unusedVariables false
set_option maxRecDepth 100000

def btl (x : ByteArray) : List UInt8 := x.data.toList
def ofl (l : List UInt8) : ByteArray := ⟨l.toArray⟩
theorem ofl_btl (x : ByteArray) : ofl (btl x) = x := by
  apply ByteArray.ext
  simp [ofl, btl]
theorem btl_ofl (l : List UInt8) : btl (ofl l) = l := by simp [ofl, btl]
theorem txts_btl (xs : List ByteArray) : txts xs = (xs.map btl).map encStr := by
  unfold txts
  rw [List.map_map]
  refine List.map_congr_left (fun x _ => ?_)
  show Value.string x = Value.string (ofl (btl x))
  rw [ofl_btl]
theorem txts_ofl (ls : List (List UInt8)) : txts (ls.map ofl) = ls.map encStr := by
  unfold txts
  rw [List.map_map]
  rfl
def srtL (xs : List ByteArray) : List (List UInt8) := (xs.map btl).mergeSort fun x y => decide (x ≤ y)
def srtT (xs : List ByteArray) : List ByteArray := (srtL xs).map ofl
def cmpT (xs : List ByteArray) : List ByteArray := (Lib.compact (xs.map btl)).map ofl
theorem srtT_length (xs : List ByteArray) : (srtT xs).length = xs.length := by simp [srtT, srtL, List.length_mergeSort]
set_option maxHeartbeats 1000000 in
theorem sortT {w : World} {base g cap : Nat} {xs : List ByteArray} (h : TGrows w base (.slice (some ⟨g, 0, none⟩) xs.length cap) xs) (hl : xs.length ≤ 1000) :
    Calls Try.prog 18 #[.slice (some ⟨g, 0, none⟩) xs.length cap] w fun e w' => e = .returned (.tuple #[]) ∧ TGrows w' base (.slice (some ⟨g, 0, none⟩) xs.length cap) (srtT xs) ∧ w.grownBy w' (some g) := by
  rcases h.2 with ⟨h1, _⟩ | ⟨g', cap', cur, hv, hb, hg, h1, h2, h3, h4⟩
  · cases h1
  injection hv with e1 e2 e3
  injection e1 with e1; injection e1 with e1
  subst e1 e3
  rw [Nat.mul_one, txts_btl] at h4
  have hlm : (xs.map btl).length = xs.length := List.length_map ..
  have H := sh_slices_Sort_string g 0 cap (xs.map btl) w (holds_of_block hg (by rw [hlm]; exact h4)) (Array.getElem?_eq_some_iff.1 hg).1 (by rw [hlm]; omega)
  rw [hlm] at H
  refine H.mono ?_
  rintro e w' ⟨rfl, n, os, rfl⟩
  refine ⟨rfl, ?_, grownBy_sorted _⟩
  have := ownsRow_sorted (w := w) (base := base) (g := g) (cap := cap) (n := n) (e := 9) (os := os) (cur := cur) (ss := xs.map btl) (ts := srtL xs) (by simp [srtL, List.length_mergeSort]) hb hg (by rw [hlm]; exact h1) h2 h3
  rw [hlm] at this
  unfold TGrows
  rw [srtT_length, show srtT xs = (srtL xs).map ofl from rfl, txts_ofl]
  exact this
theorem cmpL_le (zs : List (List UInt8)) : (Lib.compact zs).length ≤ zs.length := by
  unfold Lib.compact Lib.compactUpTo
  rw [List.length_map]
  exact Nat.le_trans (List.length_filter_le _ _) (by simp)
set_option maxHeartbeats 1000000 in
theorem compactT {w : World} {base g cap : Nat} {xs : List ByteArray} (h : TGrows w base (.slice (some ⟨g, 0, none⟩) xs.length cap) xs) (hl : xs.length ≤ 1000) :
    Calls Try.prog 19 #[.slice (some ⟨g, 0, none⟩) xs.length cap] w fun e w' => e = .returned (.slice (some ⟨g, 0, none⟩) (cmpT xs).length cap) ∧ TGrows w' base (.slice (some ⟨g, 0, none⟩) (cmpT xs).length cap) (cmpT xs) ∧ w.grownBy w' (some g) := by
  rcases h.2 with ⟨h1, _⟩ | ⟨g', cap', cur, hv, hb, hg, h1, h2, h3, h4⟩
  · cases h1
  injection hv with e1 e2 e3
  injection e1 with e1; injection e1 with e1
  subst e1 e3
  rw [Nat.mul_one, txts_btl] at h4
  have hlm : (xs.map btl).length = xs.length := List.length_map ..
  have H := sh_slices_Compact_string g 0 cap (xs.map btl) w (holds_of_block hg (by rw [hlm]; exact h4)) (by rw [hlm]; omega) (by rw [hlm]; exact h1)
  have hcl := cmpL_le (xs.map btl)
  have hcm : (cmpT xs).length = (Lib.compact (xs.map btl)).length := by simp [cmpT]
  rw [hlm] at H hcl
  refine H.mono ?_
  rintro e w' ⟨rfl, q, rfl⟩
  have hw : putRow encStr (Sort.ahead w q) g 0 (Lib.compact (xs.map btl) ++ List.replicate (xs.length - (Lib.compact (xs.map btl)).length) []).toArray = grow (putRow encStr (Sort.ahead w q) g 0 (Lib.compact (xs.map btl) ++ List.replicate (xs.length - (Lib.compact (xs.map btl)).length) []).toArray) #[] := by
    simp [grow]
    rfl
  rw [hw]
  refine ⟨by rw [hcm], ?_, grownBy_sorted _⟩
  unfold TGrows
  have hsz : cur.size = cap := by rw [h3, Nat.mul_one]
  refine ⟨by simp [txts], .inr ⟨g, cap, _, rfl, hb, heap_sorted _ hg, by omega, h2, by simp [putCells, h3], ?_⟩⟩
  have ht := take_putCells cur (Lib.compact (xs.map btl) ++ List.replicate (xs.length - (Lib.compact (xs.map btl)).length) []) (by simp; omega)
  have hcut := congrArg (List.take (Lib.compact (xs.map btl)).length) ht
  rw [List.take_take, Nat.min_eq_left (by simp)] at hcut
  rw [hcm, Nat.mul_one, show cmpT xs = (Lib.compact (xs.map btl)).map ofl from rfl, txts_ofl, hcut, List.map_append, List.take_left' (by simp)]
end Go.Proofs.Ytafpjgojmpjajaa
