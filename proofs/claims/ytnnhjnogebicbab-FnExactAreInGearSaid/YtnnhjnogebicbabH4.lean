/- Trains: the teeth of wheels behind steps, as arrays. -/
import Derived.Test.YtnnhjnogebicbabH3
import Derived.Test.YtnnhjnogebicbabB8
import Derived.Test.YtnnhjnogebicbabVB
import Derived.Test.YtnnhjnogebicbabES
import Derived.Deep.WholeRow
import Derived.Laws.CopyOwn
namespace Go.Proofs.Ytnnhjnogebicbab
open Go.RowKit
set_option linter.unusedVariables false

/-- The tooth of wheel i that is where its tooth 0 was. -/
def toothT (xs : List Int) (S : Nat) (i : Nat) : Int := (sgn i * (S : Int)) % (tn xs i : Int)

theorem tmod_up (m t : Int) (ht : 0 < t) : (m.tmod t + t) % t = m % t := by
  rw [Int.add_emod_right]
  have h := Int.mul_tdiv_add_tmod m t
  have : m % t = (m.tmod t + t * m.tdiv t) % t := by rw [Int.add_comm, h]
  rw [this, Int.add_mul_emod_self_left]

theorem tooth_round {xs : List Int} (h : Wheels xs) (S : Nat) (hS : S ≤ 400000000000000000) (i : Nat) (hi : i < xs.length) :
    ∃ (s m r z : Int) (t : Nat), sgn i = s ∧ s * (S : Int) = m ∧ m.tmod (t : Int) = r ∧ (r + (t : Int)) % (t : Int) = z ∧ toothT xs S i = z ∧ xs.getD i 0 = (t : Int) ∧ -400000000000000000 ≤ m ∧ m ≤ 400000000000000000 ∧ -(t : Int) < r ∧ r < (t : Int) ∧ 0 ≤ z ∧ z < (t : Int) ∧ 1 ≤ t ∧ t ≤ 300 ∧ (s = 1 ∨ s = -1) := by
  have h1 := h.tn hi
  have ht : 0 < ((tn xs i : Nat) : Int) := by omega
  obtain ⟨s, hs⟩ : ∃ s, sgn i = s := ⟨_, rfl⟩
  have hs1 := (sgn_cases i).1
  rw [hs] at hs1
  obtain ⟨m, hm⟩ : ∃ m, s * (S : Int) = m := ⟨_, rfl⟩
  have hm2 : -400000000000000000 ≤ m ∧ m ≤ 400000000000000000 := by
    rcases hs1 with rfl | rfl
    · rw [Int.one_mul] at hm; omega
    · rw [Int.neg_mul, Int.one_mul] at hm; omega
  have r1 := Int.tmod_lt_of_pos m ht
  have r2 := Int.lt_tmod_of_pos m ht
  have z1 := Int.emod_nonneg m (show ((tn xs i : Nat) : Int) ≠ 0 by omega)
  have z2 := Int.emod_lt_of_pos m ht
  exact ⟨s, m, _, m % (tn xs i : Int), tn xs i, hs, hm, rfl, tmod_up m _ ht, by unfold toothT; rw [hs, hm], h1.1.symm, hm2.1, hm2.2, r2, r1, z1, z2, h1.2.1, h1.2.2, hs1⟩

/-- The teeth of the wheels, as an array of six. -/
def teethL (xs : List Int) (S : Nat) (j : Nat) : List Int := fillTo (toothT xs S) 6 j

theorem teethL_length (xs : List Int) (S : Nat) (j : Nat) (h : j ≤ 6) : (teethL xs S j).length = 6 := fillTo_length _ _ _ h

theorem info_teeth : (Try.prog.info? 54).map (·.size) = some 6 := by kernel_rfl
theorem zero_teeth : (Try.prog.info? 54).map (·.zero) = some (some (.agg (intCells (List.replicate 6 0)))) := by kernel_rfl

theorem zero_aggI {P : Program} {t : TypeId} {cs : Array Value} (hz : (P.info? t).map (·.zero) = some (some (.agg cs))) (W : World) :
    (zeroValue t).run P W = .ok (.agg cs) W := by
  obtain ⟨i, hi, hz⟩ := Option.map_eq_some_iff.1 hz
  simp [zeroValue, typeInfo, Sem.run_bind, hi, hz]

set_option maxHeartbeats 2000000 in
theorem turned_any (v : Value) (xs : List Int) (S g1 : Nat) (w : World) (h : ArgI w v xs) (hw : Wheels xs) (h1 : w.cell? ⟨g1, 0, none⟩ = some (.int .i64 S)) (hS : S ≤ 400000000000000000) :
    Calls Try.prog 62 #[v, .pointer (some ⟨g1, 0, none⟩)] w fun e w' => e = .returned (.agg (intCells (teethL xs S xs.length))) ∧ Below w.heap.size w w' := by
  have HR := Lib.hid (fun i hi => tooth_round hw S hS i hi)
  have six := hw.1
  obtain ⟨a0, cap, a, rfl, ha, hm, hc⟩ := h
  have HC := Lib.hid hc
  have HA := Lib.hid ha
  have H1 := Lib.hid h1
  have HF : Hid (∀ j, j < 6 → ∀ z, toothT xs S j = z → (teethL xs S j).set j z = teethL xs S (j + 1)) := Lib.hid (fun j hj z hz => by rw [← hz]; exact fillTo_set _ _ _ hj)
  have HZL := Lib.hid (show teethL xs S 0 = List.replicate 6 0 from fillTo_zero _ _)
  have HLL := Lib.hid (fun j hj => teethL_length xs S j hj)
  obtain ⟨n, hn⟩ : ∃ n, xs.length = n := ⟨_, rfl⟩
  rw [hn] at HC HA HR hm six ⊢
  generalize teethL xs S = F at HF HZL HLL ⊢
  generalize toothT xs S = tt at HR HF
  clear hc ha h1 hw hS hn
  have hal := zero_aggI (P := Try.prog) zero_teeth
  go_enter Try.func62, Try.ntmps62
  go_wp2
  go_loopw [9] (fun i wr => ∃ j : Nat, j ≤ n ∧ i = .int .i64 j ∧ ArrAt 54 wr (w.heap.size + 1) (F j) ∧ ArrAt 54 wr w.heap.size (List.replicate 6 0) ∧ Below w.heap.size w wr) (fun i _ => n - (intOf i).toNat)
  case atStart => exact ⟨0, by omega, rfl, by rw [HZL.out]; exact heap_alloc2_new w _ _, heap_alloc2_old w _ _, by go_grown⟩
  case round =>
    obtain ⟨j, hj, rfl, hM, hZ, hB⟩ := hrel
    have hz := hB.size
    by_cases hlt : j < n
    · obtain rfl := HA.out (by omega)
      obtain ⟨s, m, r, z, t, e1, e2, e3, e4, e5, e6, q1, q2, q3, q4, q5, q6, q7, q8, q9⟩ := HR.out j hlt
      have cc := (hB.cell (World.block_lt_of_cell? w _ (HC.out j hlt))).trans (HC.out j hlt)
      rw [e6] at cc
      have c1 := (hB.cell (World.block_lt_of_cell? w _ H1.out)).trans H1.out
      have d0 := hM.cell j (by rw [HLL.out j (by omega)]; omega)
      have f0 := hM.frozen j
      have HS := Lib.hid e1
      have HM' := Lib.hid (show ArrAt 54 (wr.setCell ⟨w.heap.size + 1, j, none⟩ (.int .i64 z)) (w.heap.size + 1) (F (j + 1)) by rw [← HF.out j (by omega) z e5]; exact hM.stored j z)
      have HZ' := Lib.hid (hZ.other (b := w.heap.size + 1) (o := j) (.int .i64 z) (by omega))
      have HB' := Lib.hid (hB.setCell (p := ⟨w.heap.size + 1, j, none⟩) (by show w.heap.size ≤ w.heap.size + 1; omega) (.int .i64 z))
      have t1 : 1 ≤ (t : Int) := by omega
      have j6 : (j : Int) < 6 := by omega
      generalize (F j).getD j 0 = old at d0
      have t0 : ¬ t = 0 := by omega
      have gl := World.block_lt_of_cell? w _ H1.out
      have ne1 : ¬ g1 = w.heap.size + 1 := by have : g1 < w.heap.size := gl; omega
      have ne2 : ¬ w.heap.size + 1 = g1 := by omega
      obtain ⟨q, hq⟩ : ∃ q, r + (t : Int) = q := ⟨_, rfl⟩
      have q0 : 0 ≤ q := by omega
      have qw : IntKind.i64.wrap (r + (t : Int)) = q := by rw [hq]; rw [IntKind.wrap_i64]; omega
      rw [hq] at e4
      have mw : IntKind.i64.wrap m = m := by rw [IntKind.wrap_i64]; omega
      have rw1 : IntKind.i64.wrap r = r := by rw [IntKind.wrap_i64]; omega
      have zw1 : IntKind.i64.wrap z = z := by rw [IntKind.wrap_i64]; omega
      clear e1 e5 e6 hM hZ hB gl hq
      go_wp2
      go_region_held3 (fun w' => w'.cell? ⟨g1, 0, none⟩ = some (.int .i64 S)) (go_keep)
        (first | (go_at_call 38; refine (signOf_any _ _ (by omega)).mono ?_; rintro e w2 ⟨rfl, rfl⟩; rw [HS.out]))
      all_goals
        go_wp2
        go_roundw
        case rel => exact ⟨j + 1, by omega, by go_num, by rw [e4]; exact HM'.out, by rw [e4]; exact HZ'.out, by rw [e4]; exact bdn HB'.out 1⟩
        case measure => simp [intOf]; omega
    · obtain rfl : j = n := by omega
      have hl := HLL.out j six
      have HG : Hid (wr.heap[w.heap.size + 1]? = some (.cells (intCells (F j)) 54 (0, 0))) := Lib.hid hM
      have HG0 : Hid (wr.heap[w.heap.size]? = some (.cells (intCells (List.replicate 6 0)) 54 (0, 0))) := Lib.hid hZ
      have HI : Hid ((Try.prog.info? 54).map (·.size) = some (intCells (F j)).size) := Lib.hid (by rw [intCells_size, hl]; exact info_teeth)
      have HO : Hid ((intCells (List.replicate 6 0)).size = (intCells (F j)).size) := Lib.hid (by rw [intCells_size, intCells_size, hl]; simp)
      have HAo := Lib.hid (intCells_one (F j))
      have HR2 := Lib.hid (setRow_heap wr w.heap.size _ (intCells (F j)) _ _ HG0.out)
      have HB2 := Lib.hid (below_setRow (B := w.heap.size) (g := w.heap.size) (w0 := w) (w := wr) hB (Nat.le_refl _) (intCells (F j)))
      clear hal hM hZ HF HLL HZL
      generalize hC : intCells (F j) = C at HG HI HO HAo HR2 HB2 ⊢
      have HCC := Lib.hid hC
      clear hC
      generalize intCells (List.replicate 6 0) = Z at HG0 HO
      go_wp2_with (first
        | (with_reducible refine wpList_load_row rfl 54 (.tmp 4) rfl (w.heap.size + 1) rfl 54 C (0, 0) (.array 6 3) HG.out Try.underlying54 rfl HI.out ?_)
        | (with_reducible refine wpList_store_row rfl 54 (.tmp 3) (.tmp 27) rfl w.heap.size C rfl rfl 54 Z HG0.out HI.out HO.out HAo.out ?_))
      exact bodyPost_ret (results_cell_row (P := Try.prog) (fn := Try.f62) (p := 3) (ty := 54) rfl _ _ w.heap.size _ _ _ (.array 6 3) rfl HR2.out Try.underlying54 rfl HI.out) rfl ⟨by rw [HCC.out], HB2.out⟩

set_option maxHeartbeats 400000 in
theorem turnedBy_any (S : Int) (w : World) :
    Calls Try.prog 41 #[.int .i64 S] w fun e w' => e = .returned (.func (.func 62) #[] #[.pointer (some ⟨w.heap.size, 0, none⟩)]) ∧ w' = w.alloc (.cells #[.int .i64 S] 3) := by
  go_enter Try.func41, Try.ntmps41
  go_wp2
  go_ret
  exact ⟨rfl, rfl⟩

set_option maxHeartbeats 400000 in
theorem areSteps_yes (n : Int) (w : World) (h : 0 ≤ n ∧ n ≤ 1000000) :
    Calls Try.prog 40 #[.int .i64 n] w fun e w' => e = .returned (.bool true) ∧ w = w' := by
  obtain ⟨h1, h2⟩ := h
  go_enter Try.func40, Try.ntmps40
  go_wp2
  go_ret
  exact ⟨rfl, rfl⟩

set_option maxHeartbeats 400000 in
theorem areSteps_no (n : Int) (w : World) (h : ¬ (0 ≤ n ∧ n ≤ 1000000)) :
    Calls Try.prog 40 #[.int .i64 n] w fun e w' => e = .returned (.bool false) ∧ w = w' := by
  by_cases h1 : 0 ≤ n
  · have h2 : ¬ n ≤ 1000000 := by omega
    clear h
    go_enter Try.func40, Try.ntmps40
    go_wp2
    go_ret
    exact ⟨rfl, rfl⟩
  · clear h
    go_enter Try.func40, Try.ntmps40
    go_wp2
    go_ret
    exact ⟨rfl, rfl⟩

/-- The teeth of all wheels. -/
def teethX (xs : List Int) (S : Nat) : List Int := (List.range xs.length).map (toothT xs S)

set_option maxHeartbeats 1000000 in
theorem iTrainTeeth_yes (v : Value) (xs : List Int) (S : Nat) (w : World) (h : ArgI w v xs) (ht : Train xs) (hS : S ≤ 1000000) :
    Calls Try.prog 17 #[v, .int .i64 S] w (Gives (CutI 54) w (teethX xs S) true) := by
  have HT := Lib.hid (fun g1 W h h1 => turned_any v xs S g1 W h ht.wheels h1 (by omega))
  have HTR := Lib.hid ht
  have six := ht.1.2
  have two := ht.1.1
  have h' := h
  obtain ⟨a0, cap, a, rfl, ha, hm, hc⟩ := h'
  have H := Lib.hid h
  have HLL := Lib.hid (teethL_length xs S xs.length six)
  have HX : Hid (∀ i, i < xs.length → (teethL xs S xs.length).getD i 0 = (teethX xs S).getD i 0) := Lib.hid (fun i hi => by
    unfold teethL teethX fillTo
    rw [List.getD, List.getD, List.getElem?_append_left (by simp; exact hi)])
  have HXL := Lib.hid (show (teethX xs S).length = xs.length by simp [teethX])
  clear h ht ha hc
  obtain ⟨n, hn⟩ : ∃ n, xs.length = n := ⟨_, rfl⟩
  rw [hn] at H HT HLL HX HXL hm six two
  have n0 : 0 ≤ (n : Int) := by omega
  have n6 : (n : Int) ≤ 6 := by omega
  rw [hn]
  generalize teethL xs S n = F at HT HLL HX
  have hal := zero_aggI (P := Try.prog) zero_teeth
  have HI : Hid ((Try.prog.info? 54).map (·.size) = some (intCells F).size) := Lib.hid (by rw [intCells_size, HLL.out]; exact info_teeth)
  have HO : Hid ((intCells [0, 0, 0, 0, 0, 0]).size = (intCells F).size) := Lib.hid (by rw [intCells_size, intCells_size, HLL.out]; rfl)
  have HAo := Lib.hid (intCells_one F)
  go_enter Try.func17, Try.ntmps17
  go_wp2_with (first
    | (go_at_call 36; (with_reducible refine (isTrain_yes _ _ _ H.out HTR.out).mono ?_); rintro e w1 ⟨rfl, rfl⟩)
    | (go_at_call 40; (with_reducible refine (areSteps_yes _ _ ⟨by omega, by omega⟩).mono ?_); rintro e w1 ⟨rfl, rfl⟩)
    | (go_at_call 41; (refine (turnedBy_any _ _).mono ?_); rintro e w1 ⟨rfl, rfl⟩)
    | (go_at_call 62; (refine (HT.out w.heap.size _ (H.out.later (by go_grown)) (by go_simp)).mono ?_); rintro e w2 ⟨rfl, hb2⟩; have hz2 : w.heap.size < w2.heap.size := (by have := hb2.size; simp at this; omega); have B2 : Below w.heap.size w w2 := Below.trans (by go_grown) (hb2.mono (by simp)); clear hb2)
    | (with_reducible refine wpList_store_row rfl 54 (.tmp 7) (.tmp 20) rfl w2.heap.size (intCells F) rfl rfl 54 (intCells [0, 0, 0, 0, 0, 0]) (heap_alloc_new w2 _) HI.out HO.out HAo.out ?_))
  go_ret2
  have hB3 : Below w.heap.size w ((w2.alloc (.cells (intCells [0, 0, 0, 0, 0, 0]) 54)).setRow w2.heap.size (intCells F)) := below_setRow (B2.alloc (Nat.le_of_lt hz2) _) (Nat.le_of_lt hz2) _
  refine giveCut true ⟨by rw [HXL.out]; omega, some ⟨w2.heap.size, 0, none⟩, n, w2.heap.size, F, by rw [HXL.out]; rfl, fun _ => ⟨rfl, Nat.le_of_lt hz2, by simp [World.setRow], setRow_heap _ _ _ _ _ _ (heap_alloc_new w2 _)⟩, by rw [HXL.out, HLL.out]; exact six, fun i hi => HX.out i (by rw [HXL.out] at hi; exact hi)⟩ hB3

set_option maxHeartbeats 400000 in
theorem iTrainTeeth_no (v : Value) (xs : List Int) (S : Int) (w : World) (h : ArgI w v xs) (ht : ¬ (Train xs ∧ 0 ≤ S ∧ S ≤ 1000000)) :
    Calls Try.prog 17 #[v, .int .i64 S] w (Gives (CutI 54) w [] false) := by
  have H := Lib.hid h
  clear h
  by_cases h1 : Train xs
  · have h2 : ¬ (0 ≤ S ∧ S ≤ 1000000) := fun g => ht ⟨h1, g⟩
    clear ht
    go_enter Try.func17, Try.ntmps17
    go_wp2_with (first | (go_at_call 36; (with_reducible refine (isTrain_yes _ _ _ H.out h1).mono ?_); rintro e w1 ⟨rfl, rfl⟩) | (go_at_call 40; (with_reducible refine (areSteps_no _ _ h2).mono ?_); rintro e w1 ⟨rfl, rfl⟩))
    go_ret2
    exact ⟨_, rfl, CutI.nil _ _ _ _, Below.refl _ _⟩
  · clear ht
    go_enter Try.func17, Try.ntmps17
    go_wp2_with (first | (go_at_call 36; (with_reducible refine (isTrain_no _ _ _ H.out h1).mono ?_); rintro e w1 ⟨rfl, rfl⟩))
    go_ret2
    exact ⟨_, rfl, CutI.nil _ _ _ _, Below.refl _ _⟩

set_option maxHeartbeats 400000 in
theorem sTrainTeeth_no (v : Value) (xs : List Int) (S : Int) (w : World) (h : ArgI w v xs) (hm : xs.length ≤ 1048576) (ht : ¬ (Train xs ∧ 0 ≤ S ∧ S ≤ 1000000)) :
    Calls Try.prog 16 #[v, .int .i64 S] w (Gives (IntsIn 3) w [] false) := by
  have H := Lib.hid h
  clear h
  by_cases h1 : Train xs
  · have h2 : ¬ (0 ≤ S ∧ S ≤ 1000000) := fun g => ht ⟨h1, g⟩
    clear ht
    go_enter Try.func16, Try.ntmps16
    go_wp2_with (first | (go_at_call 32; (with_reducible refine (geTrain_yes _ _ _ H.out h1).mono ?_); rintro e w1 ⟨rfl, rfl⟩) | (go_at_call 33; (with_reducible refine (l1In_no _ _ _ _ h2).mono ?_); rintro e w1 ⟨rfl, rfl⟩))
    go_ret2
    exact ⟨_, rfl, IntsIn.nil _ _ _ _, Below.refl _ _⟩
  · clear ht
    go_enter Try.func16, Try.ntmps16
    go_wp2_with (first | (go_at_call 32; (with_reducible refine (geTrain_no _ _ _ H.out h1 hm).mono ?_); rintro e w1 ⟨rfl, rfl⟩))
    go_ret2
    exact ⟨_, rfl, IntsIn.nil _ _ _ _, Below.refl _ _⟩

theorem neg_mod (S t : Nat) (ht : 1 ≤ t) : ((t : Int) - (S : Int) % (t : Int)) % (t : Int) = (-1 * (S : Int)) % (t : Int) := by
  rw [Int.sub_emod, Int.emod_self, Int.emod_emod, ← Int.zero_emod (t : Int), ← Int.sub_emod, Int.zero_sub, Int.neg_mul, Int.one_mul]

set_option maxHeartbeats 1000000 in
theorem geTrained_any (v : Value) (xs : List Int) (S : Nat) (w : World) (h : ArgI w v xs) (hw : Wheels xs) (hS : S ≤ 1000000) :
    Calls Try.prog 39 #[v, .int .i64 S] w (GivesT w (teethX xs S)) := by
  obtain ⟨a0, cap, a, rfl, ha, hm, hc⟩ := h
  have HC := Lib.hid hc
  have HA := Lib.hid ha
  have HW := Lib.hid (fun i hi => hw.tn (i := i) hi)
  have six := hw.1
  have HT := Lib.hid (show (List.range xs.length).map (toothT xs S) = teethX xs S from rfl)
  have HV := Lib.hid (fun i => show toothT xs S i = (sgn i * (S : Int)) % (tn xs i : Int) from rfl)
  obtain ⟨n, hn⟩ : ∃ n, xs.length = n := ⟨_, rfl⟩
  rw [hn] at HC HA HW six hm HT ⊢
  generalize toothT xs S = f at HT HV
  clear ha hc hw hn
  go_enter Try.func39, Try.ntmps39
  go_wp2
  go_loopw [5, 11] (fun u i wr => ∃ j : Nat, j ≤ n ∧ i = .int .i64 j ∧ Ints wr w.heap.size 3 u ((List.range j).map f) ∧ Below w.heap.size w wr) (fun _ i _ => n - (intOf i).toNat)
  case atStart => exact ⟨0, by omega, rfl, World.ownsRow_nil _ _ _ _, Below.refl _ _⟩
  case round =>
    obtain ⟨j, hj, rfl, hI, hB⟩ := hrel
    have hz := hB.size
    have HI := Lib.hid hI
    clear hI
    by_cases hlt : j < n
    · obtain rfl := HA.out (by omega)
      obtain ⟨w1, w2, w3⟩ := HW.out j hlt
      obtain ⟨t, ht⟩ : ∃ t, tn xs j = t := ⟨_, rfl⟩
      have hv := HV.out j
      rw [ht] at w1 w2 w3 hv
      have cc := (hB.cell (World.block_lt_of_cell? w _ (HC.out j hlt))).trans (HC.out j hlt)
      rw [← w1] at cc
      have t1 : 1 ≤ (t : Int) := by omega
      obtain ⟨r, hr⟩ : ∃ r, (S : Int) % (t : Int) = r := ⟨_, rfl⟩
      have r1 : 0 ≤ r := by rw [← hr]; exact Int.emod_nonneg _ (by omega)
      have r2 : r < (t : Int) := by rw [← hr]; exact Int.emod_lt_of_pos _ (by omega)
      rcases Nat.mod_two_eq_zero_or_one j with hp | hp
      · have h2 : ((j : Int) % 2 == 1) = false := by rw [beq_eq_false_iff_ne]; omega
        have hs : sgn j = 1 := by simp [sgn, hp]
        rw [hs, Int.one_mul, hr] at hv
        have HF := Lib.hid (show (List.range j).map f ++ [r] = (List.range (j + 1)).map f by rw [← hv]; exact map_range_succ f j)
        clear hv hs hp w1 ht
        go_wp2_with (at_builtin; refine wpList_append_int rfl _ _ 22 rfl (w.heap.size) 3 Try.underlying22 info_int _ _ rfl HI.out r rfl (by simp; omega) hz ?_; intro v' w' hI' hg'; have hB' := HI.out.below hB hz hg'; rw [HF.out] at hI'; have HI' := Lib.hid hI'; clear hI')
        go_roundw
        case rel => exact ⟨j + 1, by omega, by go_num, HI'.out, hB'⟩
        case measure => simp [intOf]; omega
      · have h2 : ((j : Int) % 2 == 1) = true := by rw [beq_iff_eq]; omega
        have hs : sgn j = -1 := by simp [sgn, hp]
        rw [hs, ← neg_mod S t w2, hr] at hv
        obtain ⟨z, hzz⟩ : ∃ z, ((t : Int) - r) % (t : Int) = z := ⟨_, rfl⟩
        rw [hzz] at hv
        have z1 : 0 ≤ z := by rw [← hzz]; exact Int.emod_nonneg _ (by omega)
        have z2 : z < (t : Int) := by rw [← hzz]; exact Int.emod_lt_of_pos _ (by omega)
        have HF := Lib.hid (show (List.range j).map f ++ [z] = (List.range (j + 1)).map f by rw [← hv]; exact map_range_succ f j)
        clear hv hs hp w1 ht
        go_wp2_with (at_builtin; refine wpList_append_int rfl _ _ 22 rfl (w.heap.size) 3 Try.underlying22 info_int _ _ rfl HI.out z rfl (by simp; omega) hz ?_; intro v' w' hI' hg'; have hB' := HI.out.below hB hz hg'; rw [HF.out] at hI'; have HI' := Lib.hid hI'; clear hI')
        go_roundw
        case rel => exact ⟨j + 1, by omega, by go_num, HI'.out, hB'⟩
        case measure => simp [intOf]; omega
    · obtain rfl : j = n := by omega
      go_wp2
      go_ret
      exact ⟨_, rfl, by rw [← HT.out]; exact HI.out, hB⟩

set_option maxHeartbeats 400000 in
theorem sTrainTeeth_yes (v : Value) (xs : List Int) (S : Nat) (w : World) (h : ArgI w v xs) (ht : Train xs) (hS : S ≤ 1000000) :
    Calls Try.prog 16 #[v, .int .i64 S] w (Gives (IntsIn 3) w (teethX xs S) true) := by
  have HO := Lib.hid (fun W h => geTrained_any v xs S W h ht.wheels hS)
  have H := Lib.hid h
  clear h
  go_enter Try.func16, Try.ntmps16
  go_wp2_with (first | (go_at_call 32; (with_reducible refine (geTrain_yes _ _ _ H.out ht).mono ?_); rintro e w1 ⟨rfl, rfl⟩) | (go_at_call 33; (with_reducible refine (l1In_yes _ _ _ _ ⟨by omega, by omega⟩).mono ?_); rintro e w1 ⟨rfl, rfl⟩) | (go_at_call 39; (refine (HO.out _ H.out).mono ?_); rintro e w1 ⟨u, rfl, hI, hb⟩))
  go_ret2
  exact ⟨_, rfl, hI.inn, hb⟩

set_option maxHeartbeats 1000000 in
theorem core_TrainTeeth (v : Value) (xs : List Int) (k : Int) (x : List Int) (b : Bool) (w : World) (hA0 : ArgI w v xs) (hn0 : xs.length ≤ 1048576) (h_x : x.length ≤ 1000000)
    (hs : ∀ (W : World) (u0 : Value) (B0 T0 : Nat), IntsIn 3 W B0 T0 u0 xs → T0 ≤ W.heap.size → Calls Try.prog 16 #[u0, .int .i64 k] W (fun e w' => ∃ r0, e = .returned (.tuple #[r0, .bool b]) ∧ IntsIn 3 w' W.heap.size w'.heap.size r0 x ∧ Below W.heap.size W w'))
    (hi : ∀ (W : World) (u0 : Value) (B0 T0 : Nat), IntsIn 3 W B0 T0 u0 xs → T0 ≤ W.heap.size → Calls Try.prog 17 #[u0, .int .i64 k] W (fun e w' => ∃ r0, e = .returned (.tuple #[r0, .bool b]) ∧ CutI 54 w' W.heap.size w'.heap.size r0 x ∧ Below W.heap.size W w')) :
    Calls Try.prog 4 #[v, .int .i64 k] w fun e w' => e = .returned (.bool true) ∧ Below w.heap.size w w' := by
  have hA0' := hA0
  obtain ⟨a00, cap0, a0, rfl, _⟩ := hA0'
  have HA0 := Lib.hid hA0
  clear hA0
  have HS := Lib.hid hs
  have HI := Lib.hid hi
  clear hs hi
  go_enter Try.func4, Try.ntmps4
  go_wp2_with fail
  refine (toIntS_any _ _ _ (HA0.out.later (by go_grown)) hn0).mono ?_
  rintro e w1 ⟨va0, rfl, ka0_1, hb1⟩
  have n1 : w.heap.size ≤ w1.heap.size := by have := hb1.size; (try simp at this); omega
  have B1 : Below w.heap.size w w1 := Below.trans (by go_grown) (hb1.mono (by first | (simp; done) | (simp; omega)))
  go_wp2_with fail
  refine (HS.out _ _ _ _ ka0_1 (by omega)).mono ?_
  rintro e w2 ⟨vw0, rfl, kw0_2, hb2⟩
  have n2 := hb2.size
  have B2 := B1.trans (hb2.mono (by omega))
  have ka0_2 := ka0_1.keep (belowSame hb2 (by omega))
  go_wp2_with fail
  refine (toIntS_any _ _ _ (HA0.out.later B2) hn0).mono ?_
  rintro e w3 ⟨vc0, rfl, kc0_3, hb3⟩
  have n3 := hb3.size
  have B3 := B2.trans (hb3.mono (by omega))
  have ka0_3 := ka0_2.keep (belowSame hb3 (by omega))
  have kw0_3 := kw0_2.keep (belowSame hb3 (by omega))
  go_wp2_with fail
  refine (HI.out _ _ _ _ kc0_3 (by omega)).mono ?_
  rintro e w4 ⟨vg0, rfl, kg0_4, hb4⟩
  have n4 := hb4.size
  have B4 := B3.trans (hb4.mono (by omega))
  have ka0_4 := ka0_3.keep (belowSame hb4 (by omega))
  have kw0_4 := kw0_3.keep (belowSame hb4 (by omega))
  have kc0_4 := kc0_3.keep (belowSame hb4 (by omega))
  go_wp2_with fail
  refine (eqIntS_cut _ _ _ _ _ _ _ _ _ _ kg0_4 kw0_4).mono ?_
  rintro e w5 ⟨rfl, hb5⟩
  have n5 := hb5.size
  have B5 := B4.trans (hb5.mono (by omega))
  have ka0_5 := ka0_4.keep (belowSame hb5 (by omega))
  have kw0_5 := kw0_4.keep (belowSame hb5 (by omega))
  have kc0_5 := kc0_4.keep (belowSame hb5 (by omega))
  have kg0_5 := kg0_4.keep (belowSame hb5 (by omega))
  go_wp2_with fail
  refine (toIntS_any _ _ _ (HA0.out.later B5) hn0).mono ?_
  rintro e w6 ⟨vd0, rfl, kd0_6, hb6⟩
  have n6 := hb6.size
  have B6 := B5.trans (hb6.mono (by omega))
  have ka0_6 := ka0_5.keep (belowSame hb6 (by omega))
  have kw0_6 := kw0_5.keep (belowSame hb6 (by omega))
  have kc0_6 := kc0_5.keep (belowSame hb6 (by omega))
  have kg0_6 := kg0_5.keep (belowSame hb6 (by omega))
  go_wp2_with fail
  refine (eqIntS_in _ _ _ _ _ _ _ _ _ kc0_6 kd0_6).mono ?_
  rintro e w7 ⟨rfl, hb7⟩
  have n7 := hb7.size
  have B7 := B6.trans (hb7.mono (by omega))
  have ka0_7 := ka0_6.keep (belowSame hb7 (by omega))
  have kw0_7 := kw0_6.keep (belowSame hb7 (by omega))
  have kc0_7 := kc0_6.keep (belowSame hb7 (by omega))
  have kg0_7 := kg0_6.keep (belowSame hb7 (by omega))
  have kd0_7 := kd0_6.keep (belowSame hb7 (by omega))
  go_wp2_with fail
  refine (markIntS_in _ _ (1) _ _ _ _ kc0_7 (by omega) (by omega) (by omega)).mono ?_
  rintro e w8 ⟨rfl, mc0_8, o8⟩
  have n8 := o8.size
  have B8 := B7.trans (o8.below (C := w.heap.size) (by omega) (by omega))
  have ka0_8 := ka0_7.keep (o8.same_in (by omega) (by omega))
  have kw0_8 := kw0_7.keep (o8.same_in (by omega) (by omega))
  have kg0_8 := kg0_7.keep (o8.same_in (by omega) (by omega))
  have kd0_8 := kd0_7.keep (o8.same_in (by omega) (by omega))
  have kc0_8 := mc0_8
  go_wp2_with fail
  refine (eqIntS_cut _ _ _ _ _ _ _ _ _ _ kg0_8 kw0_8).mono ?_
  rintro e w9 ⟨rfl, hb9⟩
  have n9 := hb9.size
  have B9 := B8.trans (hb9.mono (by omega))
  have ka0_9 := ka0_8.keep (belowSame hb9 (by omega))
  have kw0_9 := kw0_8.keep (belowSame hb9 (by omega))
  have kc0_9 := kc0_8.keep (belowSame hb9 (by omega))
  have kg0_9 := kg0_8.keep (belowSame hb9 (by omega))
  have kd0_9 := kd0_8.keep (belowSame hb9 (by omega))
  go_wp2_with fail
  refine (markIntS_cut _ _ (1) _ _ _ _ kg0_9 (by omega) (by omega) (by omega)).mono ?_
  rintro e w10 ⟨rfl, mg0_10, o10⟩
  have n10 := o10.size
  have B10 := B9.trans (o10.below (C := w.heap.size) (by omega) (by omega))
  have ka0_10 := ka0_9.keep (o10.same_in (by omega) (by omega))
  have kw0_10 := kw0_9.keep (o10.same_in (by omega) (by omega))
  have kc0_10 := kc0_9.keep (o10.same_in (by omega) (by omega))
  have kd0_10 := kd0_9.keep (o10.same_in (by omega) (by omega))
  have kg0_10 := mg0_10
  go_wp2_with fail
  refine (heldIntS_cut _ (1) x.length _ _ _ _ kg0_10 (by omega) (by omega) (by omega)).mono ?_
  rintro e w11 ⟨rfl, hb11⟩
  have n11 := hb11.size
  have B11 := B10.trans (hb11.mono (by omega))
  have ka0_11 := ka0_10.keep (belowSame hb11 (by omega))
  have kw0_11 := kw0_10.keep (belowSame hb11 (by omega))
  have kc0_11 := kc0_10.keep (belowSame hb11 (by omega))
  have kg0_11 := kg0_10.keep (belowSame hb11 (by omega))
  have kd0_11 := kd0_10.keep (belowSame hb11 (by omega))
  go_wp2_with fail
  refine (toIntS_any _ _ _ (HA0.out.later B11) hn0).mono ?_
  rintro e w12 ⟨ve0, rfl, ke0_12, hb12⟩
  have n12 := hb12.size
  have B12 := B11.trans (hb12.mono (by omega))
  have ka0_12 := ka0_11.keep (belowSame hb12 (by omega))
  have kw0_12 := kw0_11.keep (belowSame hb12 (by omega))
  have kc0_12 := kc0_11.keep (belowSame hb12 (by omega))
  have kg0_12 := kg0_11.keep (belowSame hb12 (by omega))
  have kd0_12 := kd0_11.keep (belowSame hb12 (by omega))
  go_wp2_with fail
  refine (HI.out _ _ _ _ ke0_12 (by omega)).mono ?_
  rintro e w13 ⟨vh0, rfl, kh0_13, hb13⟩
  have n13 := hb13.size
  have B13 := B12.trans (hb13.mono (by omega))
  have ka0_13 := ka0_12.keep (belowSame hb13 (by omega))
  have kw0_13 := kw0_12.keep (belowSame hb13 (by omega))
  have kc0_13 := kc0_12.keep (belowSame hb13 (by omega))
  have kg0_13 := kg0_12.keep (belowSame hb13 (by omega))
  have kd0_13 := kd0_12.keep (belowSame hb13 (by omega))
  have ke0_13 := ke0_12.keep (belowSame hb13 (by omega))
  go_wp2_with fail
  refine (eqIntS_cut _ _ _ _ _ _ _ _ _ _ kh0_13 kw0_13).mono ?_
  rintro e w14 ⟨rfl, hb14⟩
  have n14 := hb14.size
  have B14 := B13.trans (hb14.mono (by omega))
  have ka0_14 := ka0_13.keep (belowSame hb14 (by omega))
  have kw0_14 := kw0_13.keep (belowSame hb14 (by omega))
  have kc0_14 := kc0_13.keep (belowSame hb14 (by omega))
  have kg0_14 := kg0_13.keep (belowSame hb14 (by omega))
  have kd0_14 := kd0_13.keep (belowSame hb14 (by omega))
  have ke0_14 := ke0_13.keep (belowSame hb14 (by omega))
  have kh0_14 := kh0_13.keep (belowSame hb14 (by omega))
  go_wp2_with fail
  refine (heldIntS_cut _ (1) x.length _ _ _ _ kg0_14 (by omega) (by omega) (by omega)).mono ?_
  rintro e w15 ⟨rfl, hb15⟩
  have n15 := hb15.size
  have B15 := B14.trans (hb15.mono (by omega))
  have ka0_15 := ka0_14.keep (belowSame hb15 (by omega))
  have kw0_15 := kw0_14.keep (belowSame hb15 (by omega))
  have kc0_15 := kc0_14.keep (belowSame hb15 (by omega))
  have kg0_15 := kg0_14.keep (belowSame hb15 (by omega))
  have kd0_15 := kd0_14.keep (belowSame hb15 (by omega))
  have ke0_15 := ke0_14.keep (belowSame hb15 (by omega))
  have kh0_15 := kh0_14.keep (belowSame hb15 (by omega))
  go_wp2_with fail
  go_ret
  exact ⟨rfl, B15⟩

set_option maxHeartbeats 400000 in
theorem long0_TrainTeeth (v : Value) (xs : List Int) (k : Int) (w : World) (hA0 : ArgI w v xs) (hn0 : ¬ xs.length ≤ 1048576) :
    Calls Try.prog 4 #[v, .int .i64 k] w fun e w' => e = .returned (.bool true) ∧ Below w.heap.size w w' := by
  obtain ⟨a00, cap0, a0, rfl, _, hm0, _⟩ := hA0
  unfold maxLen at *
  go_enter Try.func4, Try.ntmps4
  go_wp2
  go_ret
  exact ⟨rfl, by go_grown⟩

theorem walk_TrainTeeth (v : Value) (xs : List Int) (k : Int) (w : World) (hA : ArgI w v xs) (_ : (Lit.int .i64 k).wf = true) :
    Calls Try.prog 4 #[v, .int .i64 k] w fun e w' => e = .returned (.bool true) ∧ Below w.heap.size w w' := by
  by_cases hn : xs.length ≤ 1048576
  · by_cases ht : Train xs ∧ 0 ≤ k ∧ k ≤ 1000000
    · have six := ht.1.1.2
      obtain ⟨k, rfl⟩ := Int.eq_ofNat_of_zero_le ht.2.1
      exact core_TrainTeeth v xs k (teethX xs k) true w hA hn (by simp [teethX]; omega) (fun W u B T h _ => sTrainTeeth_yes u xs k W h.arg ht.1 (by omega)) (fun W u B T h _ => iTrainTeeth_yes u xs k W h.arg ht.1 (by omega))
    · exact core_TrainTeeth v xs k [] false w hA hn (by simp) (fun W u B T h _ => sTrainTeeth_no u xs k W h.arg hn ht) (fun W u B T h _ => iTrainTeeth_no u xs k W h.arg ht)
  · exact long0_TrainTeeth v xs k w hA hn

end Go.Proofs.Ytnnhjnogebicbab
