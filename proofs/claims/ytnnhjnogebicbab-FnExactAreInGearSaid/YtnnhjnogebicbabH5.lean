/- Trains: teeth that steps put there, by both programs. -/
import Derived.Test.YtnnhjnogebicbabH4
import Derived.Test.YtnnhjnogebicbabEN
import Derived.Test.YtnnhjnogebicbabEM
namespace Go.Proofs.Ytnnhjnogebicbab
open Go.RowKit
set_option linter.unusedVariables false

/-- One tooth of each wheel. -/
def TeethOf (xs ys : List Int) : Prop := ys.length = xs.length ∧ ∀ i, i < xs.length → 0 ≤ ys.getD i 0 ∧ ys.getD i 0 < xs.getD i 0

/-- What steps are to leave, by the teeth of wheel i. -/
def cT (ys : List Int) (i : Nat) : Int := sgn i * ys.getD i 0

/-- The teeth of each two wheels agree. -/
def Agree (xs ys : List Int) : Prop := ∀ i, i < xs.length → ∀ k, k < i → ((Nat.gcd (tn xs i) (tn xs k) : Nat) : Int) ∣ cT ys i - cT ys k

theorem tooth_iff {xs ys : List Int} (hw : Wheels xs) (S i : Nat) (hi : i < xs.length) (hy : 0 ≤ ys.getD i 0 ∧ ys.getD i 0 < xs.getD i 0) :
    toothT xs S i = ys.getD i 0 ↔ ((tn xs i : Nat) : Int) ∣ (S : Int) - cT ys i := by
  have h1 := hw.tn hi
  obtain ⟨y, hyy⟩ : ∃ y, ys.getD i 0 = y := ⟨_, rfl⟩
  obtain ⟨t, htt⟩ : ∃ t : Int, ((tn xs i : Nat) : Int) = t := ⟨_, rfl⟩
  unfold toothT cT
  rw [hyy] at hy ⊢
  rw [htt] at h1 ⊢
  have hm : y % t = y := Int.emod_eq_of_lt hy.1 (by omega)
  have key : ∀ m : Int, m % t = y ↔ t ∣ m - y := fun m => by
    rw [← Int.emod_emod_of_dvd m (Int.dvd_refl t)]
    constructor
    · intro h
      refine ⟨m / t, ?_⟩
      have := Int.mul_ediv_add_emod m t
      rw [Int.emod_emod_of_dvd m (Int.dvd_refl t)] at h
      omega
    · rintro ⟨q, hq⟩
      rw [Int.emod_emod_of_dvd m (Int.dvd_refl t), show m = y + t * q by omega, Int.add_mul_emod_self_left, hm]
  rw [key]
  rcases (sgn_cases i).1 with hs | hs
  · rw [hs, Int.one_mul, Int.one_mul]
  · rw [hs]
    constructor
    · rintro ⟨q, hq⟩
      refine ⟨-q, ?_⟩
      rw [Int.mul_neg, ← hq]
      omega
    · rintro ⟨q, hq⟩
      refine ⟨-q, ?_⟩
      rw [Int.mul_neg, ← hq]
      omega

/-- Teeth as an array of six. -/
def toldL (ys : List Int) : List Int := ys ++ List.replicate (6 - ys.length) 0

theorem toldL_length (ys : List Int) (h : ys.length ≤ 6) : (toldL ys).length = 6 := by simp [toldL]; omega

theorem getD_take {xs : List Int} {m i : Nat} (h : i < m) : (xs.take m).getD i 0 = xs.getD i 0 := by
  rw [List.getD, List.getD, List.getElem?_take_of_lt h]

theorem tn_take {xs : List Int} {m i : Nat} (h : i < m) : tn (xs.take m) i = tn xs i := by unfold tn; rw [getD_take h]

theorem wheels_take {xs : List Int} (h : Wheels xs) (m : Nat) : Wheels (xs.take m) := by
  refine ⟨by have := h.1; simp; omega, fun i hi => ?_⟩
  simp at hi
  rw [getD_take (by omega)]
  exact h.2 i (by omega)

theorem perT_take {xs : List Int} {m : Nat} : ∀ n, n ≤ m → perT (xs.take m) n = perT xs n
  | 0, _ => rfl
  | n + 1, h => by rw [perT_succ, perT_succ, perT_take n (by omega), tn_take (by omega)]

theorem reach_iff {xs ys : List Int} (hw : Wheels xs) (hy : TeethOf xs ys) (S m : Nat) (hm : m ≤ xs.length) :
    teethL (xs.take m) S m = toldL (ys.take m) ↔ ∀ k, k < m → ((tn xs k : Nat) : Int) ∣ (S : Int) - cT ys k := by
  have hl : (ys.take m).length = m := by have := hy.1; simp; omega
  have e1 : teethL (xs.take m) S m = toldL (ys.take m) ↔ (List.range m).map (toothT (xs.take m) S) = ys.take m := by
    unfold teethL fillTo toldL
    rw [hl, List.append_left_inj]
  rw [e1]
  have e2 : ∀ k, k < m → (toothT (xs.take m) S k = (ys.take m).getD k 0 ↔ ((tn xs k : Nat) : Int) ∣ (S : Int) - cT ys k) := fun k hk => by
    rw [← tooth_iff hw S k (by omega) (hy.2 k (by omega)), getD_take hk]
    unfold toothT
    rw [tn_take hk]
  constructor
  · intro h k hk
    refine (e2 k hk).1 ?_
    rw [← h, List.getD, List.getElem?_map, List.getElem?_range hk]
    rfl
  · intro h
    refine List.ext_getElem (by simp [hl]) fun k h1 h2 => ?_
    have hk : k < m := by simpa using h1
    have := (e2 k hk).2 (h k hk)
    rw [List.getD, List.getElem?_eq_getElem h2] at this
    simpa using this

theorem agree_reached {xs ys : List Int} {S : Nat} (h : ∀ k, k < xs.length → ((tn xs k : Nat) : Int) ∣ (S : Int) - cT ys k) : Agree xs ys :=
  fun i hi k hk => agree_of (t := tn xs) (c := cT ys) (h i hi) (h k (by omega))

theorem agree_next {xs ys : List Int} (hw : Wheels xs) (ha : Agree xs ys) (S i : Nat) (hi : i < xs.length) (h : ∀ k, k < i → ((tn xs k : Nat) : Int) ∣ (S : Int) - cT ys k) :
    ∃ j, j < tn xs i ∧ ∀ k, k < i + 1 → ((tn xs k : Nat) : Int) ∣ ((S + j * perT xs i : Nat) : Int) - cT ys k := by
  obtain ⟨j, hj, hd⟩ := next_solve (tn xs) (cT ys) i S (fun k hk => (hw.tn (by omega)).2.1) h (fun k hk => ha i hi k hk)
  refine ⟨j, hj, fun k hk => ?_⟩
  have e : ((S + j * perT xs i : Nat) : Int) = (S : Int) + (j : Int) * (lcmT (tn xs) i : Nat) := by simp [perT]
  rw [e]
  rcases Nat.lt_or_ge k i with h1 | h1
  · exact at_teeth_later j h k h1
  · obtain rfl : k = i := by omega
    exact hd

theorem ArgI.take {w : World} {a : Addr} {n cap : Nat} {xs : List Int} (h : ArgI w (.slice (some a) n cap) xs) (m : Nat) (h0 : 0 < m) (hm : m ≤ xs.length) : ArgI w (.slice (some a) m m) (xs.take m) := by
  obtain ⟨a0, c, b, hv, ha, hx, hc⟩ := h
  cases hv
  cases ha (by omega)
  have hl : (xs.take m).length = m := by simp; omega
  refine ⟨some a, m, a, by rw [hl], fun _ => rfl, by omega, fun i hi => ?_⟩
  rw [getD_take (by omega)]
  exact hc i (by omega)

theorem eql_teeth (L M : List Int) (hL : L.length = 6) (hM : M.length = 6) (t : Bool) (ht : decide (L = M) = t) (W : World) :
    (binOp .eql 54 (.agg (intCells L)) (.agg (intCells M))).run Try.prog W = .ok (.bool t) W := by
  obtain ⟨i, hi, _⟩ := info_parts info_int
  exact (run_eql_ints (P := Try.prog) W Try.underlying54 hi Try.underlying3 (by kernel_rfl) L M hL hM t (by rw [all_getD_eq _ _ 6 hL hM, ht])).1

theorem six_of (L : List Int) (h : L.length = 6) : ∃ l0 l1 l2 l3 l4 l5, L = [l0, l1, l2, l3, l4, l5] := by
  match L, h with
  | [a, b, c, d, e, f], _ => exact ⟨a, b, c, d, e, f, rfl⟩

theorem ArrAt.six {t : TypeId} {w : World} {g2 : Nat} {l0 l1 l2 l3 l4 l5 : Int} (h : ArrAt t w g2 [l0, l1, l2, l3, l4, l5]) :
    w.cell? ⟨g2, 0, none⟩ = some (.int .i64 l0) ∧ w.cell? ⟨g2, 1, none⟩ = some (.int .i64 l1) ∧ w.cell? ⟨g2, 2, none⟩ = some (.int .i64 l2) ∧ w.cell? ⟨g2, 3, none⟩ = some (.int .i64 l3) ∧ w.cell? ⟨g2, 4, none⟩ = some (.int .i64 l4) ∧ w.cell? ⟨g2, 5, none⟩ = some (.int .i64 l5) :=
  ⟨h.cell 0 (by simp), h.cell 1 (by simp), h.cell 2 (by simp), h.cell 3 (by simp), h.cell 4 (by simp), h.cell 5 (by simp)⟩

set_option maxHeartbeats 1000000 in
theorem reachFn_any (S g1 g2 : Nat) (v : Value) (xs L : List Int) (t : Bool) (w : World) (c1 : w.cell? ⟨g1, 0, none⟩ = some v) (c2 : ArrAt 54 w g2 L) (h : ArgI w v xs) (hw : Wheels xs) (hL : L.length = 6) (hS : S ≤ 400000000000000000) (ht : decide (teethL xs S xs.length = L) = t) :
    Calls Try.prog 64 #[.int .i64 S, .pointer (some ⟨g1, 0, none⟩), .pointer (some ⟨g2, 0, none⟩)] w fun e w' => e = .returned (.bool t) ∧ Below w.heap.size w w' := by
  have HT := Lib.hid (fun g1 W h h1 => turned_any v xs S g1 W h hw h1 hS)
  have hq := fun W => eql_teeth (teethL xs S xs.length) L (teethL_length _ _ _ hw.1) hL t ht W
  have H := Lib.hid h
  have h' := h
  obtain ⟨a0, cap, a, rfl, _⟩ := h'
  have hgd := fun (op : BinOp) (a b : Operand) (x y : Array Value) (w : World) => GuardAt.agg (P := Try.prog) (T := 54) (fun (x : Array Value) => x) (by kernel_rfl) op a b x y w
  obtain ⟨l0, l1, l2, l3, l4, l5, rfl⟩ := six_of L hL
  have e0 : intCells [l0, l1, l2, l3, l4, l5] = #[.int .i64 l0, .int .i64 l1, .int .i64 l2, .int .i64 l3, .int .i64 l4, .int .i64 l5] := rfl
  rw [e0] at hq
  have HC2 := Lib.hid c2
  have HC1 := Lib.hid c1
  clear e0 h ht hL hw c2 c1
  generalize teethL xs S xs.length = F at HT hq
  go_enter Try.func64, Try.ntmps64
  go_wp2_with (first | (go_at_call 41; (refine (turnedBy_any _ _).mono ?_); rintro e w1 ⟨rfl, rfl⟩))
  have cS : (w.alloc (.cells #[.int .i64 S] 3)).cell? ⟨w.heap.size, 0, none⟩ = some (.int .i64 S) := by go_simp
  obtain ⟨wb, hwb⟩ : ∃ wb, w.alloc (.cells #[.int .i64 S] 3) = wb := ⟨_, rfl⟩
  rw [hwb] at cS
  have hBW : Below w.heap.size w wb := by rw [← hwb]; go_grown
  have HZ : Hid (w.heap.size < wb.heap.size) := Lib.hid (by rw [← hwb]; simp)
  have HS : Hid (wb.cell? ⟨g1, 0, none⟩ = some (.slice a0 xs.length cap) ∧ ArrAt 54 wb g2 [l0, l1, l2, l3, l4, l5] ∧ ArgI wb (.slice a0 xs.length cap) xs) := Lib.hid ⟨by
      rw [← hwb]; exact (World.cell?_alloc_lt _ _ _ (World.block_lt_of_cell? w _ HC1.out)).trans HC1.out, by rw [← hwb]; exact HC2.out.alloc _, H.out.later hBW⟩
  obtain ⟨gs, hgs⟩ : ∃ gs, w.heap.size = gs := ⟨_, rfl⟩
  have HBW := Lib.hid hBW
  rw [hgs] at cS ⊢
  have HCS := Lib.hid cS
  rw [hwb]
  clear hgs hwb HC1 HC2 H cS hBW
  go_region_held3 (fun w' => w'.cell? ⟨g1, 0, none⟩ = some (.slice a0 xs.length cap) ∧ w'.cell? ⟨g2, 0, none⟩ = some (.int .i64 l0) ∧ w'.cell? ⟨g2, 1, none⟩ = some (.int .i64 l1) ∧ w'.cell? ⟨g2, 2, none⟩ = some (.int .i64 l2) ∧ w'.cell? ⟨g2, 3, none⟩ = some (.int .i64 l3) ∧ w'.cell? ⟨g2, 4, none⟩ = some (.int .i64 l4) ∧ w'.cell? ⟨g2, 5, none⟩ = some (.int .i64 l5)) (first | exact ⟨HS.out.1, HS.out.2.1.six⟩ | exact ⟨HS2.out.1, HS2.out.2.six⟩ | go_keep)
    (first
      | (go_at_call 62; (refine (HT.out gs _ (by exact HS.out.2.2) (by exact HCS.out)).mono ?_); rintro e w6 ⟨rfl, hb6⟩; have HB6 := Lib.hid (show Below wb.heap.size wb w6 from Below.trans (by go_grown) (hb6.mono (by first | (simp; done) | omega | (simp; omega)))); clear hb6; have HS2 : Hid (w6.cell? ⟨g1, 0, none⟩ = some (.slice a0 xs.length cap) ∧ ArrAt 54 w6 g2 [l0, l1, l2, l3, l4, l5]) := Lib.hid ⟨cellB HB6.out HS.out.1, HS.out.2.1.keep HB6.out⟩))
  go_wp2
  go_ret
  exact ⟨rfl, by first | exact HBW.out.trans (HB6.out.mono (Nat.le_of_lt HZ.out)) | exact bdn (HBW.out.trans (HB6.out.mono (Nat.le_of_lt HZ.out))) _⟩

set_option maxHeartbeats 1000000 in
theorem reaches_any (px : Option Addr) (nx cx : Nat) (vy : Value) (ys : List Int) (w : World) (h : ArgI w vy ys) (hy : ys.length ≤ 6) :
    Calls Try.prog 46 #[.slice px nx cx, vy] w fun e w' => e = .returned (.func (.func 64) #[] #[.pointer (some ⟨w.heap.size, 0, none⟩), .pointer (some ⟨w.heap.size + 1, 0, none⟩)]) ∧ w'.cell? ⟨w.heap.size, 0, none⟩ = some (.slice px nx cx) ∧ ArrAt 54 w' (w.heap.size + 1) (toldL ys) ∧ w.heap.size + 2 ≤ w'.heap.size ∧ Below w.heap.size w w' := by
  obtain ⟨a0, cap, a, rfl, ha, hm, hc⟩ := h
  have HC := Lib.hid hc
  have HA := Lib.hid ha
  obtain ⟨cs, hcs⟩ : ∃ cs, cs = ys.map (Value.int .i64) := ⟨_, rfl⟩
  have hl : cs.length = ys.length := by rw [hcs, List.length_map]
  have HL := Lib.hid hl
  have HCS : Hid (∀ j v, cs[j]? = some v → ∃ hj : j < ys.length, v = .int .i64 (ys.getD j 0)) := Lib.hid (fun j v hv => by
    rw [hcs, List.getElem?_map] at hv
    have hj : j < ys.length := by
      refine Classical.byContradiction fun hn => ?_
      rw [List.getElem?_eq_none (by omega)] at hv
      simp at hv
    rw [List.getElem?_eq_getElem hj] at hv
    refine ⟨hj, ?_⟩
    simp at hv
    rw [← hv, List.getD, List.getElem?_eq_getElem hj]
    rfl)
  have HSP : Hid ((splice ([0, 0, 0, 0, 0, 0].map (Value.int .i64)) 0 cs).toArray = intCells (toldL ys)) := Lib.hid (by
    have e6 : ([0, 0, 0, 0, 0, 0] : List Int) = List.replicate 6 0 := rfl
    rw [e6, splice, hcs, List.take_zero, List.nil_append, List.length_map, Nat.zero_add, toldL, intCells, List.map_append, List.map_replicate, List.map_replicate, List.drop_replicate])
  have H1 : Hid (∀ v ∈ cs, v.oneCell' = true) := Lib.hid (fun v hv => by rw [hcs] at hv; obtain ⟨x, _, rfl⟩ := List.mem_map.1 hv; rfl)
  have hal := zero_aggI (P := Try.prog) zero_teeth
  clear hc ha hcs
  have hB2 : Below w.heap.size w ((w.alloc (.cells #[.slice px nx cx] 22)).alloc (.cells (intCells [0, 0, 0, 0, 0, 0]) 54)) := by go_grown
  have HB2 := Lib.hid hB2
  have c0 : ((w.alloc (.cells #[.slice px nx cx] 22)).alloc (.cells (intCells [0, 0, 0, 0, 0, 0]) 54)).cell? ⟨w.heap.size, 0, none⟩ = some (.slice px nx cx) := by go_simp
  have HC0 := Lib.hid c0
  have HSZ : Hid ((Try.prog.info? 3).map (·.size) = some 1) := Lib.hid (by kernel_rfl)
  obtain ⟨cur, hcur⟩ : ∃ cur, cur = [0, 0, 0, 0, 0, 0].map (Value.int .i64) := ⟨_, rfl⟩
  rw [← hcur] at HSP
  have hcu : cur.toArray = intCells [0, 0, 0, 0, 0, 0] := by rw [hcur]; rfl
  have hcl : cur.length = 6 := by rw [hcur]; rfl
  have HG0 : Hid (((w.alloc (.cells #[.slice px nx cx] 22)).alloc (.cells (intCells [0, 0, 0, 0, 0, 0]) 54)).heap[w.heap.size + 1]? = some (.cells cur.toArray 54 (0, 0))) := Lib.hid (by rw [hcu]; exact heap_alloc2_new w _ _)
  have HN : Hid (cs.length = Nat.min ys.length 6) := Lib.hid (by rw [HL.out]; exact (Nat.min_eq_left hy).symm)
  have HFIT : Hid (0 + cs.length ≤ cur.length) := Lib.hid (by rw [HL.out, hcl]; omega)
  have HPOS : Hid (0 < cs.length → ∃ ad, a0 = some ad ∧ ∀ j v, cs[j]? = some v → ((w.alloc (.cells #[.slice px nx cx] 22)).alloc (.cells (intCells [0, 0, 0, 0, 0, 0]) 54)).cell? (ad.add j) = some v) :=
    Lib.hid (fun h0 => ⟨a, HA.out (by rw [HL.out] at h0; exact h0), fun j v hv => by obtain ⟨hj, rfl⟩ := HCS.out j v hv; exact (HB2.out.cell (World.block_lt_of_cell? w _ (HC.out j hj))).trans (HC.out j hj)⟩)
  clear hB2 c0 hcu hcl hcur
  go_enter Try.func46, Try.ntmps46
  go_wp2_with ((with_reducible refine wpList_copy_splice rfl (.tmp 6) (.tmp 7) 22 22 rfl 3 Try.underlying22 HSZ.out (some ⟨w.heap.size + 1, 0, none⟩) a0 6 6 ys.length cap rfl rfl (w.heap.size + 1) 0 cur 54 HG0.out cs HN.out (fun h0 => ⟨rfl, HPOS.out h0⟩) HFIT.out H1.out (w.heap.size + 1) _ (Below.refl _ _) (Nat.le_refl _) ?_); intro w3 hS3 hB3; have hA3 : ArrAt 54 w3 (w.heap.size + 1) (toldL ys) := (by have := hS3.out; rw [HSP.out] at this; exact this); have c3 := (hB3.cell (p := ⟨w.heap.size, 0, none⟩) (by simp)).trans HC0.out; have z3 := hB3.size; have B3 := HB2.out.trans (hB3.mono (by omega)); clear hS3 hB3)
  go_ret
  exact ⟨rfl, c3, hA3, by simpa using z3, B3⟩

end Go.Proofs.Ytnnhjnogebicbab
