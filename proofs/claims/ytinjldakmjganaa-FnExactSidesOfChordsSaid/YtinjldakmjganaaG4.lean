/- Groups: the library's sort of integers, and what is told of the groups. -/
import Derived.Test.YtinjldakmjganaaG3
import Derived.Test.YtinjldakmjganaaA1
import Derived.Test.YtinjldakmjganaaSi
import Derived.Sort.OwnSortedInts
namespace Go.Proofs.Ytinjldakmjganaa
open Go.RowKit
set_option linter.unusedVariables false

theorem sort_ints (w : World) (B g n cap : Nat) (e : TypeId) (zs : List Int) (h : Ints w B e (.slice (some ⟨g, 0, none⟩) n cap) zs) (hz : zs.length ≤ 1000000) :
    Calls Try.prog 49 #[.slice (some ⟨g, 0, none⟩) n cap] w fun en w' => en = .returned (.tuple #[]) ∧ Ints w' B e (.slice (some ⟨g, 0, none⟩) n cap) (zs.mergeSort fun x y => decide (x ≤ y)) ∧ w.grownBy w' (some g) := by
  obtain ⟨hl, h1 | ⟨g', cap', cur, hv, hB, hg, hn, hm, hs, ht⟩⟩ := h
  · cases h1.1
  · cases hv
    have hml : (zs.mergeSort fun x y => decide (x ≤ y)).length = zs.length := List.length_mergeSort _
    refine (AnyM.slices_Sort_int Try.sortI g 0 cap zs w (holds_of_blockI hg (by rw [← Nat.mul_one zs.length]; exact ht)) (Array.getElem?_eq_some_iff.1 hg).1 (by omega)).mono ?_
    rintro en w' ⟨rfl, n', os, rfl⟩
    refine ⟨rfl, ?_, grownBy_sortedI _⟩
    have := ownsRow_sortedI (os := os) (n := n') hml hB hg hn hm hs
    unfold Ints
    rw [hml]
    exact this

theorem sameG {w w' : World} {row : Option Nat} {B T : Nat} (hg : w.grownBy w' row) (hT : T ≤ w.heap.size) (hr : ∀ k, row = some k → T ≤ k) : Same B T w w' :=
  fun b _ hb => hg.block b (by omega) (fun e => by have := hr b e.symm; omega)

/-- A group as it is told. -/
def rowN (l : List Nat) : List Int := natsI (sortN l)

theorem sort_natsI (l : List Nat) : (natsI l).mergeSort (fun x y => decide (x ≤ y)) = rowN l := sortN_ints l

theorem outI (cr : Nat → Nat → Bool) (n k : Nat) (h : k ≤ n) : OutI n k (outerK cr n k) := by
  induction k with
  | zero => exact OutI.start n
  | succ k ih => rw [outerK_succ]; exact (ih (by omega)).step cr (by omega)

theorem info_byte : (Try.prog.info? 5).map (fun i => (i.zero, i.size, i.bytes)) = some (some (.int .u8 0), 1, 1) := by kernel_rfl

theorem getD_mem' (q : List Nat) (j : Nat) (h : j < q.length) : q.getD j 0 ∈ q := by
  rw [List.getD, List.getElem?_eq_getElem h]
  exact List.getElem_mem h

end Go.Proofs.Ytinjldakmjganaa
