/- The first one of all loops that are the same: both sides, and the laws of FirstLoop and SameLoops. -/
import Derived.Test.YtpcebcgmbngabaaJH
import Derived.Test.YtpcebcgmbngabaaSm
import Derived.Lib.OthersKept
import Derived.Laws.RangeAny
namespace Go.Proofs.Ytpcebcgmbngabaa
open Go.RowKit
set_option linter.unusedVariables false

/-- m is a first one of those of which S tells. -/
def LeastB (S : List UInt8 → Prop) (m : List UInt8) : Prop := S m ∧ ∀ x, S x → ¬ x < m

theorem le_both {x y : List UInt8} (h : ¬ x < y) (h2 : ¬ y < x) : x = y := List.le_antisymm (by simpa using h2) (by simpa using h)

theorem least_unique {S T : List UInt8 → Prop} {a b : List UInt8} (h : ∀ x, S x ↔ T x) (ha : LeastB S a) (hb : LeastB T b) : a = b :=
  le_both (hb.2 a ((h a).1 ha.1)) (ha.2 b ((h b).2 hb.1))

def minL (b x : List UInt8) : List UInt8 := if x < b then x else b

def minOf (l : List (List UInt8)) (b : List UInt8) : List UInt8 := l.foldl minL b

theorem minOf_snoc (l : List (List UInt8)) (x b : List UInt8) : minOf (l ++ [x]) b = minL (minOf l b) x := by simp [minOf]

theorem minOf_least : ∀ (l : List (List UInt8)) (b : List UInt8), LeastB (fun x => x = b ∨ x ∈ l) (minOf l b)
  | [], b => ⟨.inl rfl, fun x h => by rcases h with rfl | h; exact List.lt_irrefl _; simp at h⟩
  | y :: l, b => by
    have ih := minOf_least l (minL b y)
    have e : minOf (y :: l) b = minOf l (minL b y) := rfl
    rw [e]
    obtain ⟨h1, h2⟩ := ih
    have hm : minL b y = b ∨ minL b y = y := by unfold minL; split <;> simp
    refine ⟨?_, fun x hx => ?_⟩
    · rcases h1 with h | h
      · rw [h]
        rcases hm with h | h
        · exact .inl h
        · rw [h]; exact .inr (by simp)
      · exact .inr (List.mem_cons_of_mem _ h)
    · have h3 := h2 (minL b y) (.inl rfl)
      have hb : ¬ b < minL b y := by
        unfold minL
        split
        · rename_i h; exact fun h4 => List.lt_irrefl _ (List.lt_trans h h4)
        · exact List.lt_irrefl _
      have hy : ¬ y < minL b y := by
        unfold minL
        split
        · exact List.lt_irrefl _
        · assumption
      rcases hx with rfl | hx
      · intro h4
        by_cases h5 : minL x y < x
        · exact h3 (List.lt_trans h5 h4)
        · have := le_both h5 hb
          rw [this] at h3 h4
          exact h3 h4
      · rcases List.mem_cons.1 hx with rfl | hx
        · intro h4
          by_cases h5 : minL b x < x
          · exact h3 (List.lt_trans h5 h4)
          · have := le_both h5 hy
            rw [this] at h3 h4
            exact h3 h4
        · exact h2 x (.inr hx)

theorem minS_list (x y : ByteArray) : (Lib.minS x y).data.toList = minL x.data.toList y.data.toList := by
  unfold Lib.minS minL
  by_cases h : y.data.toList < x.data.toList
  · have h1 : ¬ x.data.toList < y.data.toList := fun h2 => List.lt_irrefl _ (List.lt_trans h h2)
    have h2 : ¬ x.data.toList = y.data.toList := fun e => by rw [e] at h; exact List.lt_irrefl _ h
    rw [if_pos h, if_neg (by rintro (h3 | h3); exact h1 h3; exact h2 h3)]
  · rw [if_neg h]
    by_cases h1 : x.data.toList < y.data.toList
    · rw [if_pos (.inl h1)]
    · rw [if_pos (.inr (le_both h1 h))]

theorem minFold_list : ∀ (zs : List ByteArray) (b : ByteArray), (zs.foldl Lib.minS b).data.toList = minOf (zs.map (·.data.toList)) b.data.toList
  | [], _ => rfl
  | z :: zs, b => by
    rw [List.foldl_cons, minFold_list zs, minS_list]
    rfl

/-- All turns of a loop, as texts. -/
def turnsL (L : List UInt8) : List (List UInt8) := (List.range L.length).map fun k => anewL (rotL L k)

theorem turnsL_length (L : List UInt8) : (turnsL L).length = L.length := by simp [turnsL]

theorem turnsL_take (L : List UInt8) (k : Nat) (h : k < L.length) : (turnsL L).take (k + 1) = (turnsL L).take k ++ [anewL (rotL L k)] := by
  rw [List.take_add_one, List.getElem?_eq_getElem (by rw [turnsL_length]; exact h)]
  simp [turnsL]

/-- The model's answer. -/
def firstL (L : List UInt8) : List UInt8 := minOf (turnsL (backL L)) (minOf (turnsL L) L)

/-- The program's answer. -/
def firstP (L : List UInt8) : ByteArray := Lib.minS (Lib.minOfS (turnsB L)) (Lib.minOfS (turnsB (backL L)))

theorem turnsB_list (L : List UInt8) : (turnsB L).map (·.data.toList) = (List.range (max L.length 1)).map fun k => anewL (rotL L k) := by
  unfold turnsB
  rw [List.map_map]
  rfl

theorem turnsB_head (L : List UInt8) : ((turnsB L).headD ByteArray.empty).data.toList = anewL L := by
  have : ∃ n, max L.length 1 = n + 1 := ⟨max L.length 1 - 1, by omega⟩
  obtain ⟨n, hn⟩ := this
  unfold turnsB
  rw [hn, List.range_succ_eq_map, List.map_cons]
  simp only [List.headD_cons, rotL_zero]
  rfl

theorem backL_length (L : List UInt8) : (backL L).length = L.length := by rw [backL, anewL_length, List.length_reverse]

theorem first_same (L : List UInt8) (ha : anewL L = L) : (firstP L).data.toList = firstL L := by
  unfold firstP
  rw [minS_list]
  unfold Lib.minOfS
  rw [minFold_list, minFold_list, turnsB_head, turnsB_head, turnsB_list, turnsB_list]
  have hab : anewL (backL L) = anewL (rotL (backL L) 0) := by rw [rotL_zero]
  have hal : anewL L = anewL (rotL L 0) := by rw [rotL_zero]
  have hl1 := minOf_least ((List.range (max L.length 1)).map fun k => anewL (rotL L k)) (anewL L)
  have hl2 := minOf_least ((List.range (max (backL L).length 1)).map fun k => anewL (rotL (backL L) k)) (anewL (backL L))
  obtain ⟨a, hae⟩ : ∃ a, minOf ((List.range (max L.length 1)).map fun k => anewL (rotL L k)) (anewL L) = a := ⟨_, rfl⟩
  obtain ⟨b, hbe⟩ : ∃ b, minOf ((List.range (max (backL L).length 1)).map fun k => anewL (rotL (backL L) k)) (anewL (backL L)) = b := ⟨_, rfl⟩
  rw [hae] at hl1 ⊢
  rw [hbe] at hl2 ⊢
  have hP : LeastB (fun x => (∃ k, k < max L.length 1 ∧ x = anewL (rotL L k)) ∨ (∃ k, k < max L.length 1 ∧ x = anewL (rotL (backL L) k))) (minL a b) := by
    have h := minOf_least [b] a
    have e : minOf [b] a = minL a b := rfl
    rw [e] at h
    have ma : ∃ k, k < max L.length 1 ∧ a = anewL (rotL L k) := by
      rcases hl1.1 with h | h
      · exact ⟨0, by omega, by rw [h, hal]⟩
      · simp only [List.mem_map, List.mem_range] at h
        obtain ⟨k, hk, e⟩ := h
        exact ⟨k, hk, e.symm⟩
    have mb : ∃ k, k < max L.length 1 ∧ b = anewL (rotL (backL L) k) := by
      rcases hl2.1 with h | h
      · exact ⟨0, by omega, by rw [h, hab]⟩
      · simp only [List.mem_map, List.mem_range, backL_length] at h
        obtain ⟨k, hk, e⟩ := h
        exact ⟨k, hk, e.symm⟩
    refine ⟨?_, fun x hx => ?_⟩
    · rcases h.1 with h | h
      · rw [h]; exact .inl ma
      · simp at h; rw [h]; exact .inr mb
    · rcases hx with ⟨k, hk, rfl⟩ | ⟨k, hk, rfl⟩
      · have h1 := hl1.2 (anewL (rotL L k)) (.inr (by simp only [List.mem_map, List.mem_range]; exact ⟨k, hk, rfl⟩))
        have h2 := h.2 a (.inl rfl)
        intro h3
        by_cases h4 : a < anewL (rotL L k)
        · exact h2 (List.lt_trans h4 h3)
        · have := le_both h4 h1
          rw [this] at h2 h3
          exact h2 h3
      · have h1 := hl2.2 (anewL (rotL (backL L) k)) (.inr (by simp only [List.mem_map, List.mem_range, backL_length]; exact ⟨k, hk, rfl⟩))
        have h2 := h.2 b (.inr (by simp))
        intro h3
        by_cases h4 : b < anewL (rotL (backL L) k)
        · exact h2 (List.lt_trans h4 h3)
        · have := le_both h4 h1
          rw [this] at h2 h3
          exact h2 h3
  have hS : LeastB (fun x => (x = L ∨ x ∈ turnsL L) ∨ x ∈ turnsL (backL L)) (firstL L) := by
    have h1 := minOf_least (turnsL L) L
    have h2 := minOf_least (turnsL (backL L)) (minOf (turnsL L) L)
    refine ⟨?_, fun x hx => ?_⟩
    · rcases h2.1 with h | h
      · unfold firstL; rw [h]; exact .inl h1.1
      · exact .inr h
    · rcases hx with hx | hx
      · have h3 := h1.2 x hx
        have h4 := h2.2 _ (.inl rfl)
        intro h5
        unfold firstL at h5
        by_cases h6 : minOf (turnsL L) L < x
        · exact h4 (List.lt_trans h6 h5)
        · have := le_both h6 h3
          rw [this] at h4 h5
          exact h4 h5
      · exact h2.2 x (.inr hx)
  refine least_unique (fun x => ?_) hP hS
  by_cases h0 : L.length = 0
  · have hL : L = [] := List.eq_nil_of_length_eq_zero h0
    subst hL
    constructor
    · rintro (⟨k, hk, rfl⟩ | ⟨k, hk, rfl⟩)
      · refine .inl (.inl ?_)
        simp at hk
        subst hk
        rfl
      · refine .inl (.inl ?_)
        simp at hk
        subst hk
        rfl
    · rintro ((rfl | h) | h)
      · exact .inl ⟨0, by simp, rfl⟩
      · simp [turnsL] at h
      · have : (backL ([] : List UInt8)) = [] := rfl
        rw [this] at h
        simp [turnsL] at h
  · have hmx : max L.length 1 = L.length := by omega
    rw [hmx]
    simp only [turnsL, List.mem_map, List.mem_range, backL_length]
    constructor
    · rintro (⟨k, hk, rfl⟩ | ⟨k, hk, rfl⟩)
      · exact .inl (.inr ⟨k, hk, rfl⟩)
      · exact .inr ⟨k, hk, rfl⟩
    · rintro ((rfl | ⟨k, hk, rfl⟩) | ⟨k, hk, rfl⟩)
      · exact .inl ⟨0, by omega, by rw [rotL_zero, ha]⟩
      · exact .inl ⟨k, hk, rfl⟩
      · exact .inr ⟨k, hk, rfl⟩

theorem min_any (g m : Nat) (zs : List ByteArray) (w : World) (h : StrB w g zs) (hm : m = zs.length) (h0 : 0 < m) (h1 : m ≤ 1000) :
    Calls Try.prog 78 #[.slice (some ⟨g, 0, none⟩) m m] w fun e w' => e = .returned (.string (Lib.minOfS zs)) ∧ w = w' := by
  subst hm
  refine (AnyG.slices_Min_string Try.minS g 0 zs.length zs.length zs w h0 (Nat.le_refl _) (by omega) (fun j hj => by rw [Nat.zero_add]; exact h.cell j hj)).mono ?_
  rintro e w' ⟨rfl, rfl⟩
  exact ⟨by rw [List.take_length], rfl⟩

set_option maxHeartbeats 4000000 in
set_option maxRecDepth 100000 in
theorem first_any (t : ByteArray) (a0 : Option Addr) (n cap : Nat) (w : World) (ht : t.size ≤ 16) :
    Calls Try.prog 64 #[.agg #[.slice a0 n cap, .string t]] w fun e w' => e = .returned (.string (firstP t.data.toList)) ∧ Below w.heap.size w w' := by
  have hlen := tx_len t
  have HTA := Lib.hid (fun W => turnsOf_any t W ht)
  have HBK := Lib.hid (fun W => back_any t a0 n cap W ht)
  have HTB := Lib.hid (fun W => show Calls Try.prog 79 #[.string (txL (backL t.data.toList))] W fun e w' => ∃ g m, e = .returned (.slice (some ⟨g, 0, none⟩) m m) ∧ m = max t.size 1 ∧ StrB w' g (turnsB (backL t.data.toList)) ∧ W.heap.size ≤ g ∧ Below W.heap.size W w' by
    have hz : (txL (backL t.data.toList)).size = t.size := by rw [txL_size, backL_length, hlen]
    have := turnsOf_any (txL (backL t.data.toList)) W (by rw [hz]; exact ht)
    rw [hz] at this
    exact this)
  have HLA := Lib.hid (show (turnsB t.data.toList).length = max t.size 1 by rw [turnsB_length, hlen])
  have HLB := Lib.hid (show (turnsB (backL t.data.toList)).length = max t.size 1 by rw [turnsB_length, backL_length, hlen])
  obtain ⟨m, hm⟩ : ∃ m, max t.size 1 = m := ⟨_, rfl⟩
  rw [hm] at HTA HTB HLA HLB
  have hm1 : 0 < m := by omega
  have hm17 : m ≤ 1000 := by omega
  have HFP : Hid (firstP t.data.toList = Lib.minS (Lib.minOfS (turnsB t.data.toList)) (Lib.minOfS (turnsB (backL t.data.toList)))) := Lib.hid rfl
  obtain ⟨R, hR⟩ : ∃ R, firstP t.data.toList = R := ⟨_, rfl⟩
  obtain ⟨XA, hXA⟩ : ∃ X, turnsB t.data.toList = X := ⟨_, rfl⟩
  obtain ⟨XB, hXB⟩ : ∃ X, turnsB (backL t.data.toList) = X := ⟨_, rfl⟩
  obtain ⟨Y, hY⟩ : ∃ Y, txL (backL t.data.toList) = Y := ⟨_, rfl⟩
  rw [hR, hXA, hXB] at HFP
  rw [hR]
  rw [hXA] at HTA HLA
  rw [hXB] at HTB HLB
  rw [hY] at HBK HTB
  have hmn := @Lib.run_min_strs Try.prog
  have keepS : ∀ W W' : World, (W.cell? ⟨w.heap.size, 0, none⟩ = some (.slice a0 n cap) ∧ W.cell? ⟨w.heap.size, 1, none⟩ = some (.string t) ∧ Below w.heap.size w W) → Below W.heap.size W W' → (W'.cell? ⟨w.heap.size, 0, none⟩ = some (.slice a0 n cap) ∧ W'.cell? ⟨w.heap.size, 1, none⟩ = some (.string t) ∧ Below w.heap.size w W') :=
    fun W W' h hb => ⟨cellB hb h.1, cellB hb h.2.1, h.2.2.trans (hb.mono h.2.2.size)⟩
  clear hlen hm hR hXA hXB hY
  go_enter Try.func64, Try.ntmps64
  go_wp2

  refine wp_region_held_drew (S := fun w' => w'.cell? ⟨w.heap.size, 0, none⟩ = some (.slice a0 n cap) ∧ w'.cell? ⟨w.heap.size, 1, none⟩ = some (.string t) ∧ Below w.heap.size w w') (by kernel_rfl) (by (try dsimp only); exact ⟨by go_simp, by go_simp, by first | exact bdn (by go_grown) _ | go_grown⟩) (fun hHeld => ?_)
  refine wpAnyH_take (i := 0) (v := ?v8) rfl (by kernel_rfl) (by kernel_rfl) (by kernel_rfl) (fun _ _ _ h => h) (Or.inl ⟨by rfl, ?hy8⟩) (by assumption) ?rest8
  case hy8 => (intro w hSw; (try dsimp only at hSw); go_simp; (try with_reducible rfl))
  simp only [Act.put, List.getElem_toArray, List.getElem_cons_zero, List.setIfInBounds_toArray, List.set_cons_zero, List.set_cons_succ]
  refine wpAnyH_take (i := 1) (v := ?v9) rfl (by kernel_rfl) (by kernel_rfl) (by kernel_rfl) (fun _ _ _ h => h) (Or.inl ⟨by rfl, ?hy9⟩) (by assumption) ?rest9
  case hy9 => (intro w hSw; (try dsimp only at hSw); go_simp; (try with_reducible rfl))
  simp only [Act.put, List.getElem_toArray, List.getElem_cons_zero, List.getElem_cons_succ, List.setIfInBounds_toArray, List.set_cons_zero, List.set_cons_succ]
  refine wpAnyH_take (i := 4) (v := ?v10) rfl (by kernel_rfl) (by kernel_rfl) (by kernel_rfl) (fun _ _ _ h => h) (Or.inl ⟨by rfl, ?hy10⟩) (by assumption) ?rest10
  case hy10 => (intro w hSw; (try dsimp only at hSw); go_simp; (try with_reducible rfl))
  simp only [Act.put, List.getElem_toArray, List.getElem_cons_zero, List.getElem_cons_succ, List.setIfInBounds_toArray, List.set_cons_zero, List.set_cons_succ]
  refine wpAnyH_ready (rs := [2]) (by kernel_rfl) (by simp) ?_
  refine AllReadyH.cons rfl (fun K hK => ?_) AllReadyH.nil
  simp only [List.getElem_toArray, List.getElem_cons_zero, List.getElem_cons_succ]
  go_simp
  go_at_call 79; refine (HTA.out _).mono ?_; rintro e w1 ⟨gA, mA, rfl, hmA, hSA1, hgA, hb1⟩; rw [hmA]
  dsimp only
  refine hK.out _ _ (by (try dsimp only); exact keepS _ _ hHeld hb1) (fun hHeld => ?_)
  clear hK K
  refine wpAnyH_ready (rs := [3]) (by kernel_rfl) (by simp) ?_
  refine AllReadyH.cons rfl (fun K hK => ?_) AllReadyH.nil
  simp only [List.getElem_toArray, List.getElem_cons_zero, List.getElem_cons_succ]
  go_simp
  go_at_call 78; refine (min_any gA m XA _ hSA1 HLA.out.symm hm1 hm17).mono ?_; rintro e wz ⟨rfl, rfl⟩
  dsimp only
  refine hK.out _ _ (by (try dsimp only); exact hHeld) (fun hHeld => ?_)
  clear hK K
  refine wpAnyH_ready (rs := [5]) (by kernel_rfl) (by simp) ?_
  refine AllReadyH.cons rfl (fun K hK => ?_) AllReadyH.nil
  simp only [List.getElem_toArray, List.getElem_cons_zero, List.getElem_cons_succ]
  go_simp
  go_at_call 62; refine (HBK.out _).mono ?_; rintro e w2 ⟨rfl, hb2⟩
  dsimp only
  refine hK.out _ _ (by (try dsimp only); exact keepS _ _ hHeld hb2) (fun hHeld => ?_)
  clear hK K
  refine wpAnyH_ready (rs := [6]) (by kernel_rfl) (by simp) ?_
  refine AllReadyH.cons rfl (fun K hK => ?_) AllReadyH.nil
  simp only [List.getElem_toArray, List.getElem_cons_zero, List.getElem_cons_succ]
  go_simp
  go_at_call 79; refine (HTB.out _).mono ?_; rintro e w3 ⟨gB, mB, rfl, hmB, hSB3, hgB, hb3⟩; rw [hmB]
  dsimp only
  refine hK.out _ _ (by (try dsimp only); exact keepS _ _ hHeld hb3) (fun hHeld => ?_)
  clear hK K
  refine wpAnyH_ready (rs := [7]) (by kernel_rfl) (by simp) ?_
  refine AllReadyH.cons rfl (fun K hK => ?_) AllReadyH.nil
  simp only [List.getElem_toArray, List.getElem_cons_zero, List.getElem_cons_succ]
  go_simp
  go_at_call 78; refine (min_any gB m XB _ hSB3 HLB.out.symm hm1 hm17).mono ?_; rintro e wz ⟨rfl, rfl⟩
  dsimp only
  refine hK.out _ _ (by (try dsimp only); exact hHeld) (fun hHeld => ?_)
  clear hK K
  refine wpAnyH_ready (rs := [8]) (by kernel_rfl) (by simp) ?_
  refine AllReadyH.cons rfl (fun K hK => ?_) AllReadyH.nil
  simp only [List.getElem_toArray, List.getElem_cons_zero, List.getElem_cons_succ]
  go_simp
  refine hK.out _ _ (by (try dsimp only); exact hHeld) (fun hHeld => ?_)
  clear hK K
  refine wpAnyH_take (i := 9) (v := ?v11) rfl (by kernel_rfl) (by kernel_rfl) (by kernel_rfl) (fun _ _ _ h => h) (Or.inl ⟨by rfl, ?hy11⟩) (by assumption) ?rest11
  case hy11 => (intro w hSw; (try dsimp only at hSw); go_simp; (try with_reducible rfl))
  simp only [Act.put, List.getElem_toArray, List.getElem_cons_zero, List.getElem_cons_succ, List.setIfInBounds_toArray, List.set_cons_zero, List.set_cons_succ]
  refine wpAnyH_done (by kernel_rfl) ?_ _
  go_wp2
  go_ret
  exact ⟨by rw [HFP.out]; rfl, hHeld.2.2⟩
end Go.Proofs.Ytpcebcgmbngabaa
