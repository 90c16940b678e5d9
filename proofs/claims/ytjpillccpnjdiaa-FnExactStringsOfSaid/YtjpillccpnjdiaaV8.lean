/- All strings of a star. -/
import Derived.Test.YtjpillccpnjdiaaV7
import Derived.Test.YtjpillccpnjdiaaB6
import Derived.Test.YtjpillccpnjdiaaW3
namespace Go.Proofs.Ytjpillccpnjdiaa
open Go.RowKit

theorem info_ints : (Try.prog.info? 34).map (fun i => (i.zero, i.size, i.bytes)) = some (some (.slice none 0 0), 1, 24) := by kernel_rfl

theorem giveRows {w w' : World} {v : Value} {xss : List (List Int)} (b : Bool) {B : Nat} (hI : RowsIn 34 3 w' B w'.heap.size v xss) (hB : w.heap.size = B) (hb : Below w.heap.size w w') : Gives (RowsIn 34 3) w xss b (.returned (.tuple #[v, .bool b])) w' :=
  ⟨v, rfl, by rw [hB]; exact hI, hb⟩

theorem giveNoRows {w w' : World} (hb : Below w.heap.size w w') : Gives (RowsIn 34 3) w [] false (.returned (.tuple #[.slice none 0 0, .bool false])) w' :=
  ⟨_, rfl, RowsIn.nil _ _ _ _ _, hb⟩

theorem eqIntSS_in (v1 v2 : Value) (xss : List (List Int)) (eo B1 T1 B2 T2 : Nat) (e : TypeId) (w : World) (h1 : RowsIn eo e w B1 T1 v1 xss) (h2 : RowsIn eo e w B2 T2 v2 xss) :
    Calls Try.prog 35 #[v1, v2] w fun e w' => e = .returned (.bool true) ∧ Below w.heap.size w w' :=
  (eqIntSS_same v1 v2 xss eo B1 T1 B2 T2 e w h1 h2).mono fun _ _ ⟨he, q, hq⟩ => ⟨he, by rw [hq]; exact bdn (Below.refl _ _) q⟩

theorem heldIntSS_in (v : Value) (xss : List (List Int)) (m : Int) (eo e : TypeId) (B T : Nat) (w : World) (h : RowsIn eo e w B T v (markedRows m xss xss.length)) (hm1 : 0 ≤ m) (hm2 : m ≤ 1000000) (hn : cellsOf xss ≤ 1000000) (hr : xss.length ≤ 1000000) :
    Calls Try.prog 37 #[v, .int .i64 m] w fun e' w' => e' = .returned (.int .i64 (m + cellsOf xss)) ∧ Below w.heap.size w w' :=
  (heldIntSS_marks v xss m eo e B T w h hm1 hm2 hn hr).mono fun _ _ ⟨he, hq⟩ => ⟨he, by rw [← hq]; exact Below.refl _ _⟩

/-- The strings of the points 0, .., c - 1. -/
def rowOf (p s i : Nat) : List Int := strL p s i (p / Nat.gcd p s)

set_option maxHeartbeats 400000 in
theorem iStringsOf_yes (p s : Nat) (w : World) (h : 3 ≤ p ∧ p ≤ 60 ∧ 1 ≤ s ∧ s < p) :
    Calls Try.prog 34 #[.agg #[.int .i64 p, .int .i64 s]] w (Gives (RowsIn 34 3) w ((List.range (Nat.gcd p s)).map (rowOf p s)) true) := by
  have hc : Nat.gcd p s ≤ s := Nat.gcd_le_right p (by omega)
  obtain ⟨c, hcc⟩ : ∃ c, c = Nat.gcd p s := ⟨_, rfl⟩
  have HCC := Lib.hid hcc
  have hmk := make_rows (P := Try.prog) Try.underlying39 info_ints c (by omega)
  have hcs : c ≤ s := by omega
  rw [← hcc]
  clear hcc hc
  go_enter Try.func34, Try.ntmps34
  go_wp2_with (go_at_call 23; (with_reducible refine (iCountStrings_yes _ _ _ h).mono ?_); rintro e w1 ⟨rfl, hb⟩; rw [← HCC.out])
  have hz : w.heap.size < w1.heap.size := by have := hb.size; simp at this; omega
  have hB1 : Below w.heap.size w w1 := by refine Below.trans ?_ (hb.mono (by simp)); go_grown
  have p1 : w1.cell? ⟨w.heap.size, 0, none⟩ = some (.int .i64 p) := cellB hb (by go_simp)
  have q1 : w1.cell? ⟨w.heap.size, 1, none⟩ = some (.int .i64 s) := cellB hb (by go_simp)
  have HI0 := Lib.hid (RowsAt.made w1 w.heap.size 34 3 c (by omega) (by omega))
  have HB0 := Lib.hid (hB1.alloc (Nat.le_of_lt hz) (.cells (nilRows c) 34))
  have HL := Lib.hid (fillG_zero (rowOf p s) [] c)
  clear hmk hb hB1
  go_loopw [19] (fun i wr => ∃ j : Nat, j ≤ c ∧ i = .int .i64 j ∧ RowsIn 34 3 wr w.heap.size wr.heap.size (.slice (some ⟨w1.heap.size, 0, none⟩) c c) (fillG (rowOf p s) [] c j) ∧ Below w.heap.size w wr ∧ w1.heap.size < wr.heap.size ∧ wr.cell? ⟨w.heap.size, 0, none⟩ = some (.int .i64 p) ∧ wr.cell? ⟨w.heap.size, 1, none⟩ = some (.int .i64 s)) (fun i _ => c - (intOf i).toNat)
  case atStart => exact ⟨0, by omega, rfl, by rw [HL.out]; exact ⟨_, by simpa using HI0.out⟩, HB0.out, by simp, by go_simp, by go_simp⟩
  case round =>
    obtain ⟨j, hj, rfl, hR, hB, hz2, hp, hs⟩ := hrel
    clear p1 q1
    by_cases hlt : j < c
    · have HR := Lib.hid hR
      have HS := Lib.hid (fillG_set (rowOf p s) [] c j hlt)
      have HLN := Lib.hid (fillG_length (rowOf p s) [] c j hj)
      clear hR
      go_wp2_with fail
      refine (stringFrom_any p s j _ h (by omega)).mono ?_
      rintro e w2 ⟨u, rfl, hI, hb2⟩
      obtain ⟨ua, ucap, _, hu, _⟩ := hI.view
      have hn2 := hb2.size
      have hp2 := cellB hb2 hp
      have hs2 := cellB hb2 hs
      obtain ⟨vs, hR2⟩ := HR.out.keep (belowSame hb2 (Nat.le_refl _))
      have hB2 := hB.trans (hb2.mono (by omega))
      have HN := Lib.hid (hR2.put (by decide) (k := j) (by rw [HLN.out]; exact hlt) hI.inn (by omega) hn2)
      obtain ⟨_, _, g0, hv, ha, _, hcc, hff⟩ := hR2.view
      rw [HLN.out] at ha hcc hff hv
      have ha' := ha (by omega)
      rw [ha'] at hv
      simp at hv
      have cc := hcc j hlt
      have ff := hff j (by omega)
      rw [← hv.1] at cc ff
      clear hp hs hcc hff ha ha' hv hR2 hI hb2 hB
      subst hu
      go_wp2
      go_roundw
      case rel => exact ⟨j + 1, by omega, by go_num, by rw [← HS.out]; exact ⟨_, by have := HN.out; simpa [rowOf] using this⟩, hB2.setCell (by simp; omega) _, by simp; omega, by go_simp, by go_simp⟩
      case measure => simp [intOf]; omega
    · obtain rfl : j = c := by omega
      rw [fillG_all] at hR
      go_wp2
      go_ret2
      exact giveRows true hR rfl hB

set_option maxHeartbeats 400000 in
theorem iStringsOf_no (p s : Int) (w : World) (h : ¬ (3 ≤ p ∧ p ≤ 60 ∧ 1 ≤ s ∧ s < p)) :
    Calls Try.prog 34 #[.agg #[.int .i64 p, .int .i64 s]] w (Gives (RowsIn 34 3) w [] false) := by
  go_enter Try.func34, Try.ntmps34
  go_wp2_with (go_at_call 23; (with_reducible refine (iCountStrings_no _ _ _ h).mono ?_); rintro e w1 ⟨rfl, hb⟩; obtain ⟨hc, hf⟩ := bcell hb; (have hz : w.heap.size < w1.heap.size := by (have := hb.size; (try simp at this); omega)); (have hB : Below w.heap.size w w1 := by (refine Below.trans ?_ (hb.mono (by first | (simp; done) | omega | (simp; omega))); go_grown)))
  go_ret2
  exact giveNoRows hB

set_option maxHeartbeats 400000 in
theorem sStringsOf_no (p s : Int) (w : World) (h : ¬ (3 ≤ p ∧ p ≤ 60 ∧ 1 ≤ s ∧ s < p)) :
    Calls Try.prog 33 #[.agg #[.int .i64 p, .int .i64 s]] w (Gives (RowsIn 34 3) w [] false) := by
  go_enter Try.func33, Try.ntmps33
  go_wp2_with (go_at_call 46; (with_reducible refine (srGood_no _ _ _ h).mono ?_); rintro e w1 ⟨rfl, hb⟩; obtain ⟨hc, hf⟩ := bcell hb; (have hz : w.heap.size < w1.heap.size := by (have := hb.size; (try simp at this); omega)); (have hB : Below w.heap.size w w1 := by (refine Below.trans ?_ (hb.mono (by first | (simp; done) | omega | (simp; omega))); go_grown)))
  go_ret2
  exact giveNoRows hB

set_option maxHeartbeats 400000 in
theorem sStringsOf_yes (p s : Nat) (w : World) (h : 3 ≤ p ∧ p ≤ 60 ∧ 1 ≤ s ∧ s < p) :
    Calls Try.prog 33 #[.agg #[.int .i64 p, .int .i64 s]] w (Gives (RowsIn 34 3) w ((List.range (Nat.gcd p s)).map (rowOf p s)) true) := by
  have g : 3 ≤ (p : Int) ∧ (p : Int) ≤ 60 ∧ 1 ≤ (s : Int) ∧ (s : Int) < p := by omega
  go_enter Try.func33, Try.ntmps33
  go_wp2_with (go_at_call 46; (with_reducible refine (srGood_yes _ _ _ g).mono ?_); rintro e w1 ⟨rfl, hb⟩; obtain ⟨hc, hf⟩ := bcell hb; (have hz : w.heap.size < w1.heap.size := by (have := hb.size; (try simp at this); omega)); (have hB : Below w.heap.size w w1 := by (refine Below.trans ?_ (hb.mono (by first | (simp; done) | omega | (simp; omega))); go_grown)))
  obtain ⟨c, hcc⟩ : ∃ c, c = Nat.gcd p s := ⟨_, rfl⟩
  have HCC := Lib.hid hcc
  have hc : c ≤ s := by rw [hcc]; exact Nat.gcd_le_right p (by omega)
  rw [← hcc]
  have hp1 : w1.cell? ⟨w.heap.size, 0, none⟩ = some (.int .i64 p) := cellB hb (by go_simp)
  have hs1 : w1.cell? ⟨w.heap.size, 1, none⟩ = some (.int .i64 s) := cellB hb (by go_simp)
  have hcs : (c : Int) ≤ s := by omega
  clear hcc hb hf hc
  go_loopw [4, 5] (fun u i wr => ∃ j : Nat, j ≤ c ∧ i = .int .i64 j ∧ RowsIn 34 3 wr (w.heap.size + 1) wr.heap.size u ((List.range j).map (rowOf p s)) ∧ Below w.heap.size w wr ∧ w.heap.size < wr.heap.size ∧ wr.cell? ⟨w.heap.size, 0, none⟩ = some (.int .i64 p) ∧ wr.cell? ⟨w.heap.size, 1, none⟩ = some (.int .i64 s)) (fun _ i _ => c - (intOf i).toNat)
  case atStart => exact ⟨0, by omega, rfl, RowsIn.nil _ _ _ _ _, hB, hz, hp1, hs1⟩
  case round =>
    obtain ⟨j, hj, rfl, hR, hB, hz, hp, hs⟩ := hrel
    have HR := Lib.hid hR
    clear hR hp1 hs1
    go_wp2_with fail
    refine (srCommon_any p s _ (by omega) (by omega)).mono ?_
    rintro e w2 ⟨rfl, hb2⟩
    rw [← HCC.out]
    have hn2 := hb2.size
    have hp2 := cellB hb2 hp
    have hs2 := cellB hb2 hs
    have hB2 := hB.trans (hb2.mono (by omega))
    obtain ⟨vs, hR2⟩ := HR.out.keep (belowSame hb2 (Nat.le_refl _))
    have HR2 := Lib.hid hR2
    clear hR2 hp hs hb2 hB
    by_cases hlt : j < c
    · go_wp2_with fail
      refine (srString_any p s j _ h (by omega)).mono ?_
      rintro e w3 ⟨u, rfl, hI, hb3⟩
      have hn3 := hb3.size
      have hp3 := cellB hb3 hp2
      have hs3 := cellB hb3 hs2
      have hB3 := hB2.trans (hb3.mono (by omega))
      have hR3 := (HR2.out.wider hn2).keep (belowSame hb3 (Nat.le_refl _))
      obtain ⟨ua, ucap, _, hu, _⟩ := hI.view
      have hII := hI.inn
      have HI := Lib.hid hII
      have HR3 := Lib.hid hR3
      have hl3 : vs.length = j := by have := hR3.len; simpa using this
      have HL3 := Lib.hid hl3
      have HRW := Lib.hid (show (List.range j).map (rowOf p s) ++ [strL p s j (p / Nat.gcd p s)] = (List.range (j + 1)).map (rowOf p s) by simp [List.range_succ, rowOf])
      clear hII hR3 hI hb3 hp2 hs2 hB2 hl3
      generalize strL p s j (p / Nat.gcd p s) = ys at *
      subst hu
      go_wp2_with (at_builtin; refine wpList_append_val rfl _ _ 39 rfl (w.heap.size + 1) 34 (.slice none 0 0) 24 Try.underlying39 info_ints (by decide) (by decide) _ vs rfl HR3.out.outer _ rfl rfl (by rw [HL3.out]; omega) (by omega) ?_; intro v' w4 ho hg; have hn4 := hg.size; have hov := HR3.out.outer.lt; have hp4 := Only.cell (Only.of_grown (B := w.heap.size + 1) (T := w3.heap.size) hg (fun k hk => ⟨(hov k hk).1, (hov k hk).2⟩)) (.inl (by omega)) hp3; have hs4 := Only.cell (Only.of_grown (B := w.heap.size + 1) (T := w3.heap.size) hg (fun k hk => ⟨(hov k hk).1, (hov k hk).2⟩)) (.inl (by omega)) hs3; have hB4 := hB3.trans (Only.below (Only.of_grown (B := w.heap.size + 1) (T := w3.heap.size) hg (fun k hk => ⟨(hov k hk).1, (hov k hk).2⟩)) (C := w.heap.size) (by omega) (by omega)); have HN := Lib.hid (HR3.out.more (by decide) HI.out (by omega) hn3 hn4 ho hg); clear hp3 hs3 hB3 ho hg hov)
      go_roundw
      case rel => exact ⟨j + 1, by omega, by go_num, by rw [← HRW.out]; exact ⟨_, HN.out⟩, hB4, by omega, hp4, hs4⟩
      case measure => simp [intOf]; omega
    · obtain rfl : j = c := by omega
      go_wp2
      go_ret2
      exact giveRows true (by rw [← HCC.out]; exact ⟨vs, (HR2.out.wider hn2).lower (Nat.le_succ _)⟩) rfl hB2

set_option maxHeartbeats 400000 in
theorem core_StringsOf (p s : Int) (x : List (List Int)) (b : Bool) (w : World) (hx : cellsOf x ≤ 1000000) (hr : x.length ≤ 1000000)
    (hs : ∀ W, Calls Try.prog 33 #[.agg #[.int .i64 p, .int .i64 s]] W (Gives (RowsIn 34 3) W x b)) (hi : ∀ W, Calls Try.prog 34 #[.agg #[.int .i64 p, .int .i64 s]] W (Gives (RowsIn 34 3) W x b)) :
    Calls Try.prog 10 #[.agg #[.int .i64 p, .int .i64 s]] w fun e w' => e = .returned (.bool true) ∧ Below w.heap.size w w' := by
  have HS := Lib.hid hs
  have HI := Lib.hid hi
  clear hs hi
  have p0_0' : (w.alloc (.cells #[.int .i64 p, .int .i64 s] 23)).cell? ⟨w.heap.size, 0, none⟩ = some (.int .i64 p) := by go_simp
  have p0_0 := Lib.hid p0_0'
  clear p0_0'
  have q0_0' : (w.alloc (.cells #[.int .i64 p, .int .i64 s] 23)).cell? ⟨w.heap.size, 1, none⟩ = some (.int .i64 s) := by go_simp
  have q0_0 := Lib.hid q0_0'
  clear q0_0'
  go_enter Try.func10, Try.ntmps10
  go_wp2_with fail
  refine (toStar_any _ _ _).mono ?_
  rintro e w1 ⟨rfl, hb1⟩
  have n1 : w.heap.size + 1 ≤ w1.heap.size := by have := hb1.size; simp at this; omega
  have B1 : Below w.heap.size w w1 := Below.trans (by go_grown) (hb1.mono (by first | (simp; done) | (simp; omega)))
  have p0_1 := cellB hb1 p0_0.out
  have q0_1 := cellB hb1 q0_0.out
  go_wp2_with fail
  refine (HS.out _).mono ?_
  rintro e w2 ⟨vw, rfl, kw_2, hb2⟩
  have n2 := hb2.size
  have B2 := B1.trans (hb2.mono (by omega))
  have p0_2 := cellB hb2 p0_1
  have q0_2 := cellB hb2 q0_1
  clear p0_1 q0_1
  go_wp2_with fail
  refine (toStar_any _ _ _).mono ?_
  rintro e w3 ⟨rfl, hb3⟩
  have n3 := hb3.size
  have B3 := B2.trans (hb3.mono (by omega))
  have p0_3 := cellB hb3 p0_2
  have q0_3 := cellB hb3 q0_2
  clear p0_2 q0_2
  have kw_3 := kw_2.keep (belowSame hb3 (by omega))
  go_wp2_with fail
  refine (HI.out _).mono ?_
  rintro e w4 ⟨vg, rfl, kg_4, hb4⟩
  have n4 := hb4.size
  have B4 := B3.trans (hb4.mono (by omega))
  have p0_4 := cellB hb4 p0_3
  have q0_4 := cellB hb4 q0_3
  clear p0_3 q0_3
  have kw_4 := kw_3.keep (belowSame hb4 (by omega))
  go_wp2_with fail
  refine (eqIntSS_in _ _ x _ _ _ _ _ _ _ kg_4 kw_4).mono ?_
  rintro e w5 ⟨rfl, hb5⟩
  have n5 := hb5.size
  have B5 := B4.trans (hb5.mono (by omega))
  have p0_5 := cellB hb5 p0_4
  have q0_5 := cellB hb5 q0_4
  clear p0_4 q0_4
  have kw_5 := kw_4.keep (belowSame hb5 (by omega))
  have kg_5 := kg_4.keep (belowSame hb5 (by omega))
  go_wp2_with fail
  refine (markIntSS_in _ x 1 _ _ _ _ _ kg_5 (by decide) (by omega) (by omega) (by omega) hr).mono ?_
  rintro e w6 ⟨rfl, mg_6, o6⟩
  have n6 := o6.size
  have B6 := B5.trans (o6.below (C := w.heap.size) (by omega) (by omega))
  have p0_6 := o6.cell (.inl (by omega)) p0_5
  have q0_6 := o6.cell (.inl (by omega)) q0_5
  clear p0_5 q0_5
  have kw_6 := kw_5.keep (o6.same_in (by omega) (.inl (by omega)))
  have kg_6 := mg_6
  go_wp2_with fail
  refine (heldIntSS_in _ x 1 _ _ _ _ _ kg_6 (by omega) (by omega) (by omega) hr).mono ?_
  rintro e w7 ⟨rfl, hb7⟩
  have n7 := hb7.size
  have B7 := B6.trans (hb7.mono (by omega))
  have p0_7 := cellB hb7 p0_6
  have q0_7 := cellB hb7 q0_6
  clear p0_6 q0_6
  have kw_7 := kw_6.keep (belowSame hb7 (by omega))
  have kg_7 := kg_6.keep (belowSame hb7 (by omega))
  go_wp2_with fail
  refine (toStar_any _ _ _).mono ?_
  rintro e w8 ⟨rfl, hb8⟩
  have n8 := hb8.size
  have B8 := B7.trans (hb8.mono (by omega))
  have p0_8 := cellB hb8 p0_7
  have q0_8 := cellB hb8 q0_7
  clear p0_7 q0_7
  have kw_8 := kw_7.keep (belowSame hb8 (by omega))
  have kg_8 := kg_7.keep (belowSame hb8 (by omega))
  go_wp2_with fail
  refine (HI.out _).mono ?_
  rintro e w9 ⟨vh, rfl, kh_9, hb9⟩
  have n9 := hb9.size
  have B9 := B8.trans (hb9.mono (by omega))
  have p0_9 := cellB hb9 p0_8
  have q0_9 := cellB hb9 q0_8
  clear p0_8 q0_8
  have kw_9 := kw_8.keep (belowSame hb9 (by omega))
  have kg_9 := kg_8.keep (belowSame hb9 (by omega))
  go_wp2_with fail
  refine (eqIntSS_in _ _ x _ _ _ _ _ _ _ kh_9 kw_9).mono ?_
  rintro e w10 ⟨rfl, hb10⟩
  have n10 := hb10.size
  have B10 := B9.trans (hb10.mono (by omega))
  have p0_10 := cellB hb10 p0_9
  have q0_10 := cellB hb10 q0_9
  clear p0_9 q0_9
  have kw_10 := kw_9.keep (belowSame hb10 (by omega))
  have kg_10 := kg_9.keep (belowSame hb10 (by omega))
  have kh_10 := kh_9.keep (belowSame hb10 (by omega))
  go_wp2_with fail
  refine (heldIntSS_in _ x 1 _ _ _ _ _ kg_10 (by omega) (by omega) (by omega) hr).mono ?_
  rintro e w11 ⟨rfl, hb11⟩
  have n11 := hb11.size
  have B11 := B10.trans (hb11.mono (by omega))
  have p0_11 := cellB hb11 p0_10
  have q0_11 := cellB hb11 q0_10
  clear p0_10 q0_10
  have kw_11 := kw_10.keep (belowSame hb11 (by omega))
  have kg_11 := kg_10.keep (belowSame hb11 (by omega))
  have kh_11 := kh_10.keep (belowSame hb11 (by omega))
  go_wp2_with fail
  go_ret
  exact ⟨rfl, B11⟩

theorem sum_map_const (f : Nat → Nat) (n c : Nat) (h : ∀ i, f i ≤ n) : ((List.range c).map f).sum ≤ c * n := by
  induction c with
  | zero => simp
  | succ c ih =>
    rw [List.range_succ, List.map_append, List.sum_append]
    simp
    have := h c
    rw [Nat.add_mul]
    omega

theorem walk_StringsOf (p s : Int) (w : World) (_ : (Lit.int .i64 p).wf = true) (_ : (Lit.int .i64 s).wf = true) :
    Calls Try.prog 10 #[.agg #[.int .i64 p, .int .i64 s]] w fun e w' => e = .returned (.bool true) ∧ Below w.heap.size w w' := by
  by_cases h : 3 ≤ p ∧ p ≤ 60 ∧ 1 ≤ s ∧ s < p
  · obtain ⟨p, rfl⟩ := Int.eq_ofNat_of_zero_le (show 0 ≤ p by omega)
    obtain ⟨s, rfl⟩ := Int.eq_ofNat_of_zero_le (show 0 ≤ s by omega)
    have h1 : 3 ≤ p ∧ p ≤ 60 ∧ 1 ≤ s ∧ s < p := by omega
    have hg : Nat.gcd p s ≤ p := Nat.gcd_le_left s (by omega)
    have hd : p / Nat.gcd p s ≤ p := Nat.div_le_self _ _
    refine core_StringsOf _ _ ((List.range (Nat.gcd p s)).map (rowOf p s)) true w ?_ (by simp; omega) (fun W => sStringsOf_yes p s W h1) (fun W => iStringsOf_yes p s W h1)
    unfold cellsOf
    rw [List.map_map]
    have := sum_map_const (List.length ∘ rowOf p s) 60 (Nat.gcd p s) fun i => by
      show (rowOf p s i).length ≤ 60
      rw [rowOf, strL_length]
      exact Nat.le_trans hd h1.2.1
    omega
  · exact core_StringsOf _ _ [] false w (by simp [cellsOf]) (by simp) (fun W => sStringsOf_no _ _ W h) (fun W => iStringsOf_no _ _ W h)

end Go.Proofs.Ytjpillccpnjdiaa
