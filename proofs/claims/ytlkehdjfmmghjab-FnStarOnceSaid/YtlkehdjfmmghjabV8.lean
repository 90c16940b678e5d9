/- All strings of a star. -/
import Derived.Test.YtlkehdjfmmghjabV7
import Derived.Test.YtlkehdjfmmghjabB6
import Derived.Test.YtlkehdjfmmghjabW3
namespace Go.Proofs.Ytlkehdjfmmghjab
open Go.RowKit

theorem info_ints : (Try.prog.info? 40).map (fun i => (i.zero, i.size, i.bytes)) = some (some (.slice none 0 0), 1, 24) := by kernel_rfl

theorem giveRows {w w' : World} {v : Value} {xss : List (List Int)} (b : Bool) {B : Nat} (hI : RowsIn 40 3 w' B w'.heap.size v xss) (hB : w.heap.size = B) (hb : Below w.heap.size w w') : Gives (RowsIn 40 3) w xss b (.returned (.tuple #[v, .bool b])) w' :=
  ⟨v, rfl, by rw [hB]; exact hI, hb⟩

theorem giveNoRows {w w' : World} (hb : Below w.heap.size w w') : Gives (RowsIn 40 3) w [] false (.returned (.tuple #[.slice none 0 0, .bool false])) w' :=
  ⟨_, rfl, RowsIn.nil _ _ _ _ _, hb⟩

/-- The strings of the points 0, .., c - 1. -/
def rowOf (p s i : Nat) : List Int := strL p s i (p / Nat.gcd p s)

set_option maxHeartbeats 400000 in
theorem iStringsOf_yes (p s : Nat) (w : World) (h : 3 ≤ p ∧ p ≤ 60 ∧ 1 ≤ s ∧ s < p) :
    Calls Try.prog 31 #[.agg #[.int .i64 p, .int .i64 s]] w (Gives (RowsIn 40 3) w ((List.range (Nat.gcd p s)).map (rowOf p s)) true) := by
  have hc : Nat.gcd p s ≤ s := Nat.gcd_le_right p (by omega)
  obtain ⟨c, hcc⟩ : ∃ c, c = Nat.gcd p s := ⟨_, rfl⟩
  have HCC := Lib.hid hcc
  have hmk := make_rows (P := Try.prog) Try.underlying52 info_ints c (by omega)
  have hcs : c ≤ s := by omega
  rw [← hcc]
  clear hcc hc
  go_enter Try.func31, Try.ntmps31
  go_wp2_with (go_at_call 32; (with_reducible refine (iCountStrings_yes _ _ _ h).mono ?_); rintro e w1 ⟨rfl, hb⟩; rw [← HCC.out])
  have hz : w.heap.size < w1.heap.size := by have := hb.size; simp at this; omega
  have hB1 : Below w.heap.size w w1 := by refine Below.trans ?_ (hb.mono (by simp)); go_grown
  have p1 : w1.cell? ⟨w.heap.size, 0, none⟩ = some (.int .i64 p) := cellB hb (by go_simp)
  have q1 : w1.cell? ⟨w.heap.size, 1, none⟩ = some (.int .i64 s) := cellB hb (by go_simp)
  have HI0 := Lib.hid (RowsAt.made w1 w.heap.size 40 3 c (by omega) (by omega))
  have HB0 := Lib.hid (hB1.alloc (Nat.le_of_lt hz) (.cells (nilRows c) 40))
  have HL := Lib.hid (fillG_zero (rowOf p s) [] c)
  clear hmk hb hB1
  go_loopw [19] (fun i wr => ∃ j : Nat, j ≤ c ∧ i = .int .i64 j ∧ RowsIn 40 3 wr w.heap.size wr.heap.size (.slice (some ⟨w1.heap.size, 0, none⟩) c c) (fillG (rowOf p s) [] c j) ∧ Below w.heap.size w wr ∧ w1.heap.size < wr.heap.size ∧ wr.cell? ⟨w.heap.size, 0, none⟩ = some (.int .i64 p) ∧ wr.cell? ⟨w.heap.size, 1, none⟩ = some (.int .i64 s)) (fun i _ => c - (intOf i).toNat)
  case atStart => exact ⟨0, by omega, rfl, by rw [HL.out]; exact ⟨_, by simpa using HI0.out⟩, HB0.out, by simp, by go_simp, by go_simp⟩
  case round =>
    obtain ⟨j, hj, rfl, hR, hB, hz2, hp, hs⟩ := hrel
    clear p1 q1
    by_cases hlt : j < c
    · have HR := Lib.hid hR
      have HS := Lib.hid (fillG_set (rowOf p s) [] c j hlt)
      have HLN := Lib.hid (fillG_length (rowOf p s) [] c j hj)
      clear hR
      go_wp2_with fail
      refine (stringFrom_any p s j _ h (by omega)).mono ?_
      rintro e w2 ⟨u, rfl, hI, hb2⟩
      obtain ⟨ua, ucap, _, hu, _⟩ := hI.view
      have hn2 := hb2.size
      have hp2 := cellB hb2 hp
      have hs2 := cellB hb2 hs
      obtain ⟨vs, hR2⟩ := HR.out.keep (belowSame hb2 (Nat.le_refl _))
      have hB2 := hB.trans (hb2.mono (by omega))
      have HN := Lib.hid (hR2.put (by decide) (k := j) (by rw [HLN.out]; exact hlt) hI.inn (by omega) hn2)
      obtain ⟨_, _, g0, hv, ha, _, hcc, hff⟩ := hR2.view
      rw [HLN.out] at ha hcc hff hv
      have ha' := ha (by omega)
      rw [ha'] at hv
      simp at hv
      have cc := hcc j hlt
      have ff := hff j (by omega)
      rw [← hv.1] at cc ff
      clear hp hs hcc hff ha ha' hv hR2 hI hb2 hB
      subst hu
      go_wp2
      go_roundw
      case rel => exact ⟨j + 1, by omega, by go_num, by rw [← HS.out]; exact ⟨_, by have := HN.out; simpa [rowOf] using this⟩, hB2.setCell (by simp; omega) _, by simp; omega, by go_simp, by go_simp⟩
      case measure => simp [intOf]; omega
    · obtain rfl : j = c := by omega
      rw [fillG_all] at hR
      go_wp2
      go_ret2
      exact giveRows true hR rfl hB

set_option maxHeartbeats 400000 in
theorem iStringsOf_no (p s : Int) (w : World) (h : ¬ (3 ≤ p ∧ p ≤ 60 ∧ 1 ≤ s ∧ s < p)) :
    Calls Try.prog 31 #[.agg #[.int .i64 p, .int .i64 s]] w (Gives (RowsIn 40 3) w [] false) := by
  go_enter Try.func31, Try.ntmps31
  go_wp2_with (go_at_call 32; (with_reducible refine (iCountStrings_no _ _ _ h).mono ?_); rintro e w1 ⟨rfl, hb⟩; obtain ⟨hc, hf⟩ := bcell hb; (have hz : w.heap.size < w1.heap.size := by (have := hb.size; (try simp at this); omega)); (have hB : Below w.heap.size w w1 := by (refine Below.trans ?_ (hb.mono (by first | (simp; done) | omega | (simp; omega))); go_grown)))
  go_ret2
  exact giveNoRows hB

theorem sum_map_const (f : Nat → Nat) (n c : Nat) (h : ∀ i, f i ≤ n) : ((List.range c).map f).sum ≤ c * n := by
  induction c with
  | zero => simp
  | succ c ih =>
    rw [List.range_succ, List.map_append, List.sum_append]
    simp
    have := h c
    rw [Nat.add_mul]
    omega

end Go.Proofs.Ytlkehdjfmmghjab
