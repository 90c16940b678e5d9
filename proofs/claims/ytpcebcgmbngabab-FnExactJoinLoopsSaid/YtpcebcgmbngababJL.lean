/- Loops joined: both sides, and the law of JoinLoops. -/
import Derived.Test.YtpcebcgmbngababJN
import Derived.Test.YtpcebcgmbngababJ6
namespace Go.Proofs.Ytpcebcgmbngabab
open Go.RowKit
set_option linter.unusedVariables false

/-- 'append(bytes, y)'. -/
theorem run_append_one {w : World} {g n cap : Nat} {L : List UInt8} (h : ByW w g cap L) (hn : n = L.length) (hcap : cap ≤ maxLen) (y : UInt8) (hy : n < 1000000) (b : Nat) (hb : w.cell? ⟨b, 0, none⟩ = some (.int .u8 y.toNat)) (ty : TypeId) :
    ∃ g' cap' w', (Builtin.append_ #[74, 74] ty #[.slice (some ⟨g, 0, none⟩) n cap, .slice (some ⟨b, 0, none⟩) 1 1]).run Try.prog w = .ok (.slice (some ⟨g', 0, none⟩) (n + 1) cap') w' ∧ ByW w' g' cap' (L ++ [y]) ∧ w.grownBy w' (some g) ∧ cap' ≤ maxLen ∧ (g' = g ∨ g' = w.heap.size) := by
  subst hn
  obtain ⟨i, hi, hz0, hz1, hz2⟩ := info_parts info_byteJ
  have hgl := h.1
  have hl := h.2.1
  have hf := fun W : World => fun (hc : W.cell? ⟨b, 0, none⟩ = some (.int .u8 y.toNat)) => run_firstCells_some (P := Try.prog) W 1 1 ⟨b, 0, none⟩ 1 1 [.int .u8 y.toNat] rfl (fun j u hj => by
    have : j = 0 := by
      rcases Nat.lt_or_ge j 1 with e | e
      · omega
      · rw [List.getElem?_eq_none (by simpa using e)] at hj; cases hj
    subst this
    simp at hj
    subst hj
    rw [Addr.add_lit]
    exact hc)
  by_cases hr : L.length + 1 ≤ cap
  · have hst := run_storeCells_cells (P := Try.prog) g L.length [.int .u8 y.toNat] 0 w (fun j hj => by
        simp at hj; subst hj
        exact (h.2.2.2 _ (by omega)).1) (fun j hj => by
        simp at hj; subst hj
        exact (h.2.2.2 _ (by omega)).2) (fun u hu => by simp at hu; subst hu; rfl)
    simp only [Nat.add_zero, World.setCells] at hst
    have hff := hf w hb
    refine ⟨g, cap, w.setCell ⟨g, L.length, none⟩ (.int .u8 y.toNat), ?_, ⟨by simp; exact hgl, by rw [List.length_append]; exact hr, fun j hj => ?_, fun j hj => ?_⟩, grown_set w _ _, hcap, .inl rfl⟩
    · simp [Builtin.append_, run_underlying Try.underlying74, sizeOf, typeInfo, hi, hz1, Builtin.lenOf, hr, hff, Addr.add_lit, hst]
    · rw [List.length_append] at hj
      simp at hj
      rw [getD_apps]
      by_cases e : j < L.length
      · rw [if_pos e, World.cell?_setCell_other _ _ _ _ (by first | (simp; done) | (simp; omega))]
        exact h.2.2.1 j e
      · obtain rfl : j = L.length := by omega
        rw [if_neg e, World.cell?_setCell_same' _ _ _ (h.2.2.2 _ (by omega)).1]
        simp
    · rw [World.frozen?_setCell]
      refine ⟨?_, (h.2.2.2 j hj).2⟩
      by_cases e : j = L.length
      · subst e
        rw [World.cell?_setCell_same' _ _ _ (h.2.2.2 _ hj).1]; rfl
      · rw [World.cell?_setCell_other _ _ _ _ (by first | (simp; done) | (simp; omega))]
        exact (h.2.2.2 j hj).1
  · have hgr := run_append_grow (P := Try.prog) w 74 ty 5 i (.int .u8 0) Try.underlying74 hi hz0 ⟨g, 0, none⟩ L.length cap (L.map bV) (by rw [hz1]; simp) (fun j v hj => by
        have hjl : j < L.length := by
          rcases Nat.lt_or_ge j L.length with e | e
          · exact e
          · rw [List.getElem?_eq_none (by simpa using e)] at hj; cases hj
        rw [Addr.add_lit, Nat.zero_add, h.2.2.1 j hjl]
        rw [List.getElem?_map, List.getElem?_eq_getElem hjl] at hj
        simp [List.getD, List.getElem?_eq_getElem hjl, bV] at hj ⊢
        exact hj) ⟨b, 0, none⟩ 1 1 [.int .u8 y.toNat] (by rw [hz1]; rfl) (fun j u hj => by
        have : j = 0 := by
          rcases Nat.lt_or_ge j 1 with e | e
          · omega
          · rw [List.getElem?_eq_none (by simpa using e)] at hj; cases hj
        subst this
        simp at hj
        subst hj
        rw [Addr.add_lit]
        exact hb) (by omega) (by omega) (by rw [hz2]; exact growslice_fits (by omega) (by omega))
    have hge := grownCap_ge w (L.length + 1) cap 5
    have hle := grownCap_le_maxLen w (L.length + 1) cap 5 (by unfold maxLen; omega)
    refine ⟨_, _, _, hgr, ?_, ⟨rfl, rfl, rfl, by simp, fun k hk _ => heap_alloc_old w.drew _ hk⟩, hle, .inr rfl⟩
    obtain ⟨c, hc⟩ : ∃ c, grownCap w (L.length + 1) cap 5 = c := ⟨_, rfl⟩
    rw [hc] at hge ⊢
    obtain ⟨C, hC⟩ : ∃ C, (L.map bV).toArray ++ #[Value.int .u8 y.toNat] ++ Builtin.zeroCells (Value.int .u8 0).cells (c - (L.length + 1)) = C := ⟨_, rfl⟩
    rw [show [Value.int .u8 (y.toNat : Int)].toArray = #[Value.int .u8 y.toNat] from rfl, hC]
    have hnew : (w.drew.alloc (.cells C 5)).heap[w.heap.size]? = some (.cells C 5 (0, 0)) := heap_alloc_new w.drew _
    have hcs : C.size = c := by
      rw [← hC]
      simp [size_zeroCells, Value.cells]
      omega
    refine ⟨by simp, by rw [List.length_append]; exact hge, fun j hj => ?_, fun j hj => ⟨?_, ?_⟩⟩
    · rw [List.length_append] at hj
      simp at hj
      rw [cell_of_row _ _ _ _ _ (0, 0) hnew, ← hC, getD_apps]
      by_cases e : j < L.length
      · rw [if_pos e, Array.getElem?_append_left (by simp; omega), Array.getElem?_append_left (by simpa using e)]
        simp [List.getElem?_eq_getElem e, List.getD, bV]
      · obtain rfl : j = L.length := by omega
        rw [if_neg e, Array.getElem?_append_left (by simp), Array.getElem?_append_right (by simp)]
        simp
    · rw [cell_of_row _ _ _ _ _ (0, 0) hnew]
      simp [hcs, hj]
    · exact frozen_of_row _ _ _ _ _ hnew

theorem wp_append_one {w : World} {o : Oper} {a : Act} {K : Act → World → Prop} {Q : Exit → Act → World → Prop} (s x : Operand)
    (ho : o.op = .call { callee := .builtin .append, args := #[s, x], argTypes := #[74, 74] }) (g n cap : Nat) (L : List UInt8) (y : UInt8) (b : Nat)
    (hs : a.eval s = .slice (some ⟨g, 0, none⟩) n cap) (hx : a.eval x = .slice (some ⟨b, 0, none⟩) 1 1) (hb : w.cell? ⟨b, 0, none⟩ = some (.int .u8 y.toNat)) (hS : ByW w g cap L) (hn : n = L.length) (hcap : cap ≤ maxLen) (hy : n < 1000000)
    (h : ∀ g' cap' w', ByW w' g' cap' (L ++ [y]) → w.grownBy w' (some g) → cap' ≤ maxLen → (g' = g ∨ g' = w.heap.size) → K (a.put o.dst (.slice (some ⟨g', 0, none⟩) (n + 1) cap')) w') : o.wp Try.prog a w K Q := by
  obtain ⟨g', cap', w', hr, h2, h3, h4, h5⟩ := run_append_one hS hn hcap y hy b hb o.type
  unfold Oper.wp execOp
  simp only [ho, resolve, invoke, builtin, Sem.run_bind, Sem.run_pure, Result.andThen_ok, List.map_toArray, List.map_cons, List.map_nil, hs, hx, hr]
  exact h g' cap' w' h2 h3 h4 h5

/-- b's letters named on, behind a's signs. -/
def joinTo (A B : List UInt8) (n : Nat) : Nat → List UInt8
  | 0 => A
  | i + 1 => joinTo A B n i ++ [lt8 ((B.getD i 0).toNat - 97 + n)]

def joinL (A B : List UInt8) : List UInt8 := joinTo A B (A.length / 2) B.length

theorem joinTo_length (A B : List UInt8) (n : Nat) : ∀ i, (joinTo A B n i).length = A.length + i
  | 0 => rfl
  | i + 1 => by rw [joinTo, List.length_append, joinTo_length A B n i]; rfl

theorem join_sign (k n : Nat) (h : k + n < 100) : (lt8 k).toNat - 97 + n = k + n := by rw [lt8_nat k (by omega)]; omega

set_option maxHeartbeats 1000000 in
theorem core_JoinLoops (a : ByteArray) (b : ByteArray) (x : ByteArray) (y : Bool) (w : World) (ht0 : a.size ≤ 1048576) (ht1 : b.size ≤ 1048576)
    (hs : ∀ W : World, Calls Try.prog 18 #[.string a, .string b] W fun e w' => e = .returned (.tuple #[.string x, .bool y]) ∧ Below W.heap.size W w')
    (hi : ∀ W : World, Calls Try.prog 19 #[.string a, .string b] W fun e w' => e = .returned (.tuple #[.string x, .bool y]) ∧ Below W.heap.size W w') :
    Calls Try.prog 6 #[.string a, .string b] w fun e w' => e = .returned (.bool true) ∧ Below w.heap.size w w' := by
  have HS := Lib.hid hs
  have HI := Lib.hid hi
  have h0 : ¬ 1048576 < (a.size : Int) := by omega
  have h1 : ¬ 1048576 < (b.size : Int) := by omega
  clear hs hi ht0 ht1
  go_enter Try.func6, Try.ntmps6
  go_wp2_with (first | (go_at_call 18; (with_reducible refine (HS.out _).mono ?_); rintro e w1 ⟨rfl, hb1⟩) | (go_at_call 19; (with_reducible refine (HI.out _).mono ?_); rintro e w2 ⟨rfl, hb2⟩))
  go_ret
  exact ⟨rfl, hb1.trans (hb2.mono hb1.size)⟩

set_option maxHeartbeats 400000 in
theorem long0_JoinLoops (a : ByteArray) (b : ByteArray) (w : World)  (ht : 1048576 < (a.size : Int)) :
    Calls Try.prog 6 #[.string a, .string b] w fun e w' => e = .returned (.bool true) ∧ Below w.heap.size w w' := by
  go_enter Try.func6, Try.ntmps6
  go_wp2
  go_ret
  exact ⟨rfl, Below.refl _ _⟩

set_option maxHeartbeats 400000 in
theorem long1_JoinLoops (a : ByteArray) (b : ByteArray) (w : World) (h0 : ¬ 1048576 < (a.size : Int)) (ht : 1048576 < (b.size : Int)) :
    Calls Try.prog 6 #[.string a, .string b] w fun e w' => e = .returned (.bool true) ∧ Below w.heap.size w w' := by
  go_enter Try.func6, Try.ntmps6
  go_wp2
  go_ret
  exact ⟨rfl, Below.refl _ _⟩

set_option maxHeartbeats 1000000 in
theorem iJoinLoops_no1 (a b : ByteArray) (ps qs : List (Nat × Nat)) (w : World) (ha : a.size ≤ 1048576) (hla : loopL a.data.toList = none) (hb : b.size ≤ 1048576) (hlb : loopL b.data.toList = some qs) :
    Calls Try.prog 19 #[.string a, .string b] w fun e w' => e = .returned (.tuple #[.string ⟨#[]⟩, .bool false]) ∧ Below w.heap.size w w' := by
  have HLa := Lib.hid hla
  have HLb := Lib.hid hlb
  clear hla hlb
  go_enter Try.func19, Try.ntmps19
  go_wp2_with (first | (go_at_call 57; (with_reducible refine (loopOf_no a _ ha HLa.out).mono ?_); rintro e w1 ⟨rfl, hb1⟩; (have hz1 := hb1.size)) | (go_at_call 57; (with_reducible refine (loopOf_yes b qs _ hb HLb.out).mono ?_); rintro e w2 ⟨a2, c2, rfl, hP2, hb2⟩; (have hz2 := hb2.size); clear hP2))
  go_ret2
  exact ⟨rfl, Below.alloc (Below.trans (Below.trans hb1 (by go_grown)) (hb2.mono (by simp; omega))) (by have := hz2; simp at this; omega) _⟩

set_option maxHeartbeats 1000000 in
theorem iJoinLoops_no2 (a b : ByteArray) (ps qs : List (Nat × Nat)) (w : World) (ha : a.size ≤ 1048576) (hla : loopL a.data.toList = some ps) (hb : b.size ≤ 1048576) (hlb : loopL b.data.toList = none) :
    Calls Try.prog 19 #[.string a, .string b] w fun e w' => e = .returned (.tuple #[.string ⟨#[]⟩, .bool false]) ∧ Below w.heap.size w w' := by
  have HLa := Lib.hid hla
  have HLb := Lib.hid hlb
  clear hla hlb
  go_enter Try.func19, Try.ntmps19
  go_wp2_with (first | (go_at_call 57; (with_reducible refine (loopOf_yes a ps _ ha HLa.out).mono ?_); rintro e w1 ⟨a1, c1, rfl, hP1, hb1⟩; (have hz1 := hb1.size); clear hP1) | (go_at_call 57; (with_reducible refine (loopOf_no b _ hb HLb.out).mono ?_); rintro e w2 ⟨rfl, hb2⟩; (have hz2 := hb2.size)))
  go_ret2
  exact ⟨rfl, Below.alloc (Below.trans (Below.trans hb1 (by go_grown)) (hb2.mono (by simp; omega))) (by have := hz2; simp at this; omega) _⟩

set_option maxHeartbeats 1000000 in
theorem iJoinLoops_no3 (a b : ByteArray) (ps qs : List (Nat × Nat)) (w : World) (ha : a.size ≤ 1048576) (hla : loopL a.data.toList = none) (hb : b.size ≤ 1048576) (hlb : loopL b.data.toList = none) :
    Calls Try.prog 19 #[.string a, .string b] w fun e w' => e = .returned (.tuple #[.string ⟨#[]⟩, .bool false]) ∧ Below w.heap.size w w' := by
  have HLa := Lib.hid hla
  have HLb := Lib.hid hlb
  clear hla hlb
  go_enter Try.func19, Try.ntmps19
  go_wp2_with (first | (go_at_call 57; (with_reducible refine (loopOf_no a _ ha HLa.out).mono ?_); rintro e w1 ⟨rfl, hb1⟩; (have hz1 := hb1.size)) | (go_at_call 57; (with_reducible refine (loopOf_no b _ hb HLb.out).mono ?_); rintro e w2 ⟨rfl, hb2⟩; (have hz2 := hb2.size)))
  go_ret2
  exact ⟨rfl, Below.alloc (Below.trans (Below.trans hb1 (by go_grown)) (hb2.mono (by simp; omega))) (by have := hz2; simp at this; omega) _⟩

set_option maxHeartbeats 1000000 in
theorem iJoinLoops_no4 (a b : ByteArray) (ps qs : List (Nat × Nat)) (w : World) (ha : a.size ≤ 1048576) (hla : loopL a.data.toList = some ps) (hb : b.size ≤ 1048576) (hlb : loopL b.data.toList = some qs) (h8 : ps.length ≤ 8) (h9 : qs.length ≤ 8) (hmany : 8 < ps.length + qs.length) :
    Calls Try.prog 19 #[.string a, .string b] w fun e w' => e = .returned (.tuple #[.string ⟨#[]⟩, .bool false]) ∧ Below w.heap.size w w' := by
  have HLa := Lib.hid hla
  have HLb := Lib.hid hlb
  have e1 : (ps.length : Int) + (qs.length : Int) = ((ps.length + qs.length : Nat) : Int) := by omega
  have e2 : IntKind.i64.wrap ((ps.length + qs.length : Nat) : Int) = ((ps.length + qs.length : Nat) : Int) := by rw [IntKind.wrap_i64]; omega
  have e3 : (8 : Int) < ((ps.length + qs.length : Nat) : Int) := by omega
  obtain ⟨s, hs⟩ : ∃ s, ps.length + qs.length = s := ⟨_, rfl⟩
  rw [hs] at e1 e2 e3
  clear hs
  clear hla hlb
  go_enter Try.func19, Try.ntmps19
  go_wp2_with (first | (go_at_call 57; (with_reducible refine (loopOf_yes a ps _ ha HLa.out).mono ?_); rintro e w1 ⟨a1, c1, rfl, hP1, hb1⟩; (have hz1 := hb1.size); clear hP1) | (go_at_call 57; (with_reducible refine (loopOf_yes b qs _ hb HLb.out).mono ?_); rintro e w2 ⟨a2, c2, rfl, hP2, hb2⟩; (have hz2 := hb2.size); clear hP2; (have cl := cellB hb2 (b := w1.heap.size) (o := 0) (x := .slice a1 ps.length c1) (by go_simp)); (have hzz : w1.heap.size + 1 ≤ w2.heap.size := by have := hz2; simp at this; omega); (have cl3 := cellB (Below.alloc (Below.refl w2.heap.size w2) (Nat.le_refl _) (.cells #[.slice a2 qs.length c2, .string b] 71)) cl)))
  go_ret2
  exact ⟨rfl, Below.alloc (Below.trans (Below.trans hb1 (by go_grown)) (hb2.mono (by simp; omega))) (by have := hz2; simp at this; omega) _⟩

set_option maxHeartbeats 1000000 in
theorem sJoinLoops_no1 (a b : ByteArray) (w : World) (ha : a.size ≤ 1048576) (hb : b.size ≤ 1048576) (hga : goodL a.data.toList = false) :
    Calls Try.prog 18 #[.string a, .string b] w fun e w' => e = .returned (.tuple #[.string ⟨#[]⟩, .bool false]) ∧ Below w.heap.size w w' := by
  have HGa := Lib.hid hga
  clear hga
  go_enter Try.func18, Try.ntmps18
  go_wp2_with (first | (go_at_call 53; with_reducible refine (loGood_any a _ ha).mono ?_; rintro e w1 ⟨rfl, hb1⟩; (have hz1 := hb1.size); rw [HGa.out]))
  go_ret2
  exact ⟨rfl, hb1⟩

set_option maxHeartbeats 1000000 in
theorem sJoinLoops_no2 (a b : ByteArray) (w : World) (ha : a.size ≤ 1048576) (hb : b.size ≤ 1048576) (hga : goodL a.data.toList = true) (hgb : goodL b.data.toList = false) :
    Calls Try.prog 18 #[.string a, .string b] w fun e w' => e = .returned (.tuple #[.string ⟨#[]⟩, .bool false]) ∧ Below w.heap.size w w' := by
  have HGa := Lib.hid hga
  clear hga
  have HGb := Lib.hid hgb
  clear hgb
  go_enter Try.func18, Try.ntmps18
  go_wp2_with (first | (go_at_call 53; with_reducible refine (loGood_any a _ ha).mono ?_; rintro e w1 ⟨rfl, hb1⟩; (have hz1 := hb1.size); rw [HGa.out]) | (go_at_call 53; with_reducible refine (loGood_any b _ hb).mono ?_; rintro e w2 ⟨rfl, hb2⟩; (have hz2 := hb2.size); rw [HGb.out]))
  go_ret2
  exact ⟨rfl, hb1.trans (hb2.mono hz1)⟩

set_option maxHeartbeats 1000000 in
theorem sJoinLoops_no3 (a b : ByteArray) (w : World) (ha : a.size ≤ 1048576) (hb : b.size ≤ 1048576) (hga : goodL a.data.toList = true) (hgb : goodL b.data.toList = true) (hmany : 16 < a.size + b.size) :
    Calls Try.prog 18 #[.string a, .string b] w fun e w' => e = .returned (.tuple #[.string ⟨#[]⟩, .bool false]) ∧ Below w.heap.size w w' := by
  have HGa := Lib.hid hga
  clear hga
  have HGb := Lib.hid hgb
  clear hgb
  have e1 : (a.size : Int) + (b.size : Int) = ((a.size + b.size : Nat) : Int) := by omega
  have e2 : IntKind.i64.wrap ((a.size + b.size : Nat) : Int) = ((a.size + b.size : Nat) : Int) := by rw [IntKind.wrap_i64]; omega
  have e3 : (16 : Int) < ((a.size + b.size : Nat) : Int) := by omega
  obtain ⟨s, hs⟩ : ∃ s, a.size + b.size = s := ⟨_, rfl⟩
  rw [hs] at e1 e2 e3
  clear hs
  go_enter Try.func18, Try.ntmps18
  go_wp2_with (first | (go_at_call 53; with_reducible refine (loGood_any a _ ha).mono ?_; rintro e w1 ⟨rfl, hb1⟩; (have hz1 := hb1.size); rw [HGa.out]) | (go_at_call 53; with_reducible refine (loGood_any b _ hb).mono ?_; rintro e w2 ⟨rfl, hb2⟩; (have hz2 := hb2.size); rw [HGb.out]))
  go_ret2
  exact ⟨rfl, hb1.trans (hb2.mono hz1)⟩

set_option maxHeartbeats 2000000 in
set_option maxRecDepth 100000 in
theorem sJoinLoops_yes (a b : ByteArray) (ps qs : List (Nat × Nat)) (w : World) (ha : a.size ≤ 1048576) (hb : b.size ≤ 1048576) (hga : goodL a.data.toList = true) (hgb : goodL b.data.toList = true) (ga : LoopP a.data.toList ps) (gb : LoopP b.data.toList qs) (hfew : ps.length + qs.length ≤ 8) :
    Calls Try.prog 18 #[.string a, .string b] w fun e w' => e = .returned (.tuple #[.string (txL (joinL a.data.toList b.data.toList)), .bool true]) ∧ Below w.heap.size w w' := by
  have HGa := Lib.hid hga
  have HGb := Lib.hid hgb
  have hla := ga.len
  have hlb := gb.len
  have hta := tx_len a
  have htb := tx_len b
  have ga8 := ga.few
  have gb8 := gb.few
  have HSG := Lib.hid (fun k (hk : k < b.size) => show ∃ q, q < qs.length ∧ b.data.toList.getD k 0 = lt8 q from gb.sign k (by omega))
  have HJ := Lib.hid (fun i => show joinTo a.data.toList b.data.toList ps.length (i + 1) = joinTo a.data.toList b.data.toList ps.length i ++ [lt8 ((b.data.toList.getD i 0).toNat - 97 + ps.length)] from rfl)
  have HJL := Lib.hid (fun i => show (joinTo a.data.toList b.data.toList ps.length i).length = a.size + i by rw [joinTo_length, hta])
  have HJE : Hid (joinL a.data.toList b.data.toList = joinTo a.data.toList b.data.toList ps.length b.size) := Lib.hid (by unfold joinL; rw [htb, show a.data.toList.length / 2 = ps.length by omega])
  have HJ0 : Hid (txL (joinTo a.data.toList b.data.toList ps.length 0) = a) := Lib.hid rfl
  have HT := Lib.hid (fun k (h : k < b.size) => tx_get b k h)
  obtain ⟨F, hF⟩ : ∃ F, joinTo a.data.toList b.data.toList ps.length = F := ⟨_, rfl⟩
  obtain ⟨R, hR⟩ : ∃ R, joinL a.data.toList b.data.toList = R := ⟨_, rfl⟩
  rw [hR] at HJE ⊢
  rw [hF] at HJ HJL HJE HJ0
  obtain ⟨n, hn⟩ : ∃ n, ps.length = n := ⟨_, rfl⟩
  obtain ⟨z, hz⟩ : ∃ z, b.size = z := ⟨_, rfl⟩
  obtain ⟨y, hy⟩ : ∃ y, a.size = y := ⟨_, rfl⟩
  rw [hn] at HJ hla ga8 hfew
  rw [hz] at HSG HJE htb hb
  rw [hy] at HJL hta ha
  have e1 : (y : Int) + (z : Int) = ((y + z : Nat) : Int) := by omega
  have e2 : IntKind.i64.wrap ((y + z : Nat) : Int) = ((y + z : Nat) : Int) := by rw [IntKind.wrap_i64]; omega
  have e3 : ¬ (16 : Int) < ((y + z : Nat) : Int) := by omega
  obtain ⟨s, hs⟩ : ∃ s, y + z = s := ⟨_, rfl⟩
  rw [hs] at e1 e2 e3
  have hs16 : s ≤ 16 := by omega
  have htd : Int.tdiv (y : Int) 2 = (n : Int) := by rw [Int.tdiv_eq_ediv_of_nonneg (by omega)]; omega
  have hwn : IntKind.i64.wrap (n : Int) = (n : Int) := by rw [IntKind.wrap_i64]; omega
  have HB := Lib.hid (And.intro hfew (And.intro hz (And.intro hs hs16)))
  have ha2 : a.size ≤ 1048576 := by omega
  have hb2' : b.size ≤ 1048576 := by omega
  clear hga hgb ga gb hla hlb hta htb hF hR hn hs hfew
  go_enter Try.func18, Try.ntmps18
  go_wp2_with (first | (go_at_call 53; with_reducible refine (loGood_any a _ ha2).mono ?_; rintro e w1 ⟨rfl, hb1⟩; (have hz1 := hb1.size); rw [HGa.out]) | (go_at_call 53; with_reducible refine (loGood_any b _ hb2').mono ?_; rintro e w2 ⟨rfl, hb2⟩; (have hz2 := hb2.size); rw [HGb.out]))
  have HB2 := Lib.hid (hb1.trans (hb2.mono hz1))
  clear hb1 hb2
  go_loopw [6, 7] (fun o i wr => ∃ k : Nat, k ≤ z ∧ i = .int .i64 k ∧ o = .string (txL (F k)) ∧ w2 = wr) (fun _ i _ => z - (intOf i).toNat)
  case atStart => exact ⟨0, by omega, rfl, by rw [HJ0.out], rfl⟩
  case round =>
    obtain ⟨k, hk, rfl, rfl, rfl⟩ := hrel
    by_cases hlt : k < z
    · obtain ⟨q, hq, hs⟩ := HSG.out k hlt
      have hkb : k < b.size := by rw [HB.out.2.1]; exact hlt
      have hg := HT.out k hkb
      have hst := HJ.out k
      rw [hs] at hg hst
      have hfew := HB.out.1
      rw [join_sign q n (by omega)] at hst
      have htd2 : (b[k]'hkb).toNat = 97 + q := by rw [hg]; exact lt8_nat q (by omega)
      obtain ⟨d, hd⟩ : ∃ d, d = 97 + q := ⟨_, rfl⟩
      rw [← hd] at htd2
      have f1 : (d : Int) - 97 = (q : Int) := by omega
      have f2 : IntKind.u8.wrap (q : Int) = (q : Int) := IntWalk.u8_in _ (by omega)
      have f2' : IntKind.i64.wrap (q : Int) = (q : Int) := by rw [IntKind.wrap_i64]; omega
      obtain ⟨p, hp⟩ : ∃ p, q + n = p := ⟨_, rfl⟩
      have f3 : (q : Int) + (n : Int) = (p : Int) := by omega
      have f4 : IntKind.i64.wrap (p : Int) = (p : Int) := by rw [IntKind.wrap_i64]; omega
      have hab := abc_one ⟨p, by omega⟩
      simp only at hab
      rw [hp] at hst
      have hFl := HJL.out k
      have hadd := txAdd (txL (F k)) ((⟨#[97, 98, 99, 100, 101, 102, 103, 104, 105, 106, 107, 108, 109, 110, 111, 112]⟩ : ByteArray).extract p (p + 1)) (by rw [hab, txL_size, txL_size, hFl]; have := HB.out.2.2; simp; omega)
      rw [show txL (F k) ++ (⟨#[97, 98, 99, 100, 101, 102, 103, 104, 105, 106, 107, 108, 109, 110, 111, 112]⟩ : ByteArray).extract p (p + 1) = txL (F (k + 1)) by rw [hab, txL_append, hst]] at hadd
      have f5 : IntKind.i64.wrap ((p : Int) + 1) = (p : Int) + 1 := by rw [IntKind.wrap_i64]; omega
      have f6 : 0 ≤ (p : Int) := by omega
      have f7 : (p : Int) ≤ (p : Int) + 1 := by omega
      have f8 : (p : Int) + 1 ≤ 16 := by omega
      have f9 : ((p : Int) + 1).toNat = p + 1 := by omega
      have k0 : 0 ≤ (k : Int) := by omega
      have k1 : (k : Int) < (z : Int) := by omega
      have hwk : IntKind.i64.wrap ((k : Int) + 1) = (k : Int) + 1 := by rw [IntKind.wrap_i64]; omega
      clear hg hst hs hab hfew hd hp hFl
      go_wp2
      go_roundw
      case rel => exact ⟨k + 1, by omega, by go_num, rfl, by trivial⟩
      case measure => simp [intOf]; omega
    · obtain rfl : k = z := by omega
      go_wp2
      go_ret2
      exact ⟨by rw [HJE.out]; rfl, HB2.out⟩

set_option maxHeartbeats 4000000 in
set_option maxRecDepth 100000 in
theorem iJoinLoops_yes (a b : ByteArray) (ps qs : List (Nat × Nat)) (w : World) (ha : a.size ≤ 1048576) (hb : b.size ≤ 1048576) (hla : loopL a.data.toList = some ps) (hlb : loopL b.data.toList = some qs) (hfew : ps.length + qs.length ≤ 8) :
    Calls Try.prog 19 #[.string a, .string b] w fun e w' => e = .returned (.tuple #[.string (txL (joinL a.data.toList b.data.toList)), .bool true]) ∧ Below w.heap.size w w' := by
  have HLa := Lib.hid hla
  have HLb := Lib.hid hlb
  have ga := (loopL_some hla).1
  have gb := (loopL_some hlb).1
  clear hla hlb
  have hla := ga.len
  have hlb := gb.len
  have hta := tx_len a
  have htb := tx_len b
  have ga8 := ga.few
  have gb8 := gb.few
  have HSG := Lib.hid (fun k (hk : k < b.size) => show ∃ q, q < qs.length ∧ b.data.toList.getD k 0 = lt8 q from gb.sign k (by omega))
  have HJ := Lib.hid (fun i => show joinTo a.data.toList b.data.toList ps.length (i + 1) = joinTo a.data.toList b.data.toList ps.length i ++ [lt8 ((b.data.toList.getD i 0).toNat - 97 + ps.length)] from rfl)
  have HJL := Lib.hid (fun i => show (joinTo a.data.toList b.data.toList ps.length i).length = a.size + i by rw [joinTo_length, hta])
  have HJE : Hid (joinL a.data.toList b.data.toList = joinTo a.data.toList b.data.toList ps.length b.size) := Lib.hid (by unfold joinL; rw [htb, show a.data.toList.length / 2 = ps.length by omega])
  have HJ0 : Hid (txL (joinTo a.data.toList b.data.toList ps.length 0) = a) := Lib.hid rfl
  have HT := Lib.hid (fun k (h : k < b.size) => tx_get b k h)
  obtain ⟨F, hF⟩ : ∃ F, joinTo a.data.toList b.data.toList ps.length = F := ⟨_, rfl⟩
  obtain ⟨R, hR⟩ : ∃ R, joinL a.data.toList b.data.toList = R := ⟨_, rfl⟩
  rw [hR] at HJE ⊢
  rw [hF] at HJ HJL HJE HJ0
  have HF0 : Hid (F 0 = a.data.toList) := Lib.hid (by rw [← hF]; rfl)
  obtain ⟨z, hz⟩ : ∃ z, b.size = z := ⟨_, rfl⟩
  obtain ⟨y, hy⟩ : ∃ y, a.size = y := ⟨_, rfl⟩
  rw [hz] at HSG HJE htb
  rw [hy] at HJL hta
  obtain ⟨capF, WF, hcv, hWF⟩ := bytes_made a (by omega)
  rw [hy] at hcv hWF
  have HWF := Lib.hid hWF
  have e1 : (ps.length : Int) + (qs.length : Int) = ((ps.length + qs.length : Nat) : Int) := by omega
  have e2 : IntKind.i64.wrap ((ps.length + qs.length : Nat) : Int) = ((ps.length + qs.length : Nat) : Int) := by rw [IntKind.wrap_i64]; omega
  have e3 : ¬ (8 : Int) < ((ps.length + qs.length : Nat) : Int) := by omega
  obtain ⟨s, hs⟩ : ∃ s, ps.length + qs.length = s := ⟨_, rfl⟩
  rw [hs] at e1 e2 e3
  have HB := Lib.hid (show ps.length + qs.length ≤ 8 ∧ b.size = z ∧ y + z ≤ 16 by omega)
  clear ga gb hla hlb hta htb hF hR hs hfew hWF
  go_enter Try.func19, Try.ntmps19
  go_wp2_with (first | (go_at_call 57; (with_reducible refine (loopOf_yes a ps _ ha HLa.out).mono ?_); rintro e w1 ⟨a1, c1, rfl, hP1, hb1⟩; (have hz1 := hb1.size); clear hP1) | (go_at_call 57; (with_reducible refine (loopOf_yes b qs _ hb HLb.out).mono ?_); rintro e w2 ⟨a2, c2, rfl, hP2, hb2⟩; (have hz2 := hb2.size); clear hP2; (have cl := cellB hb2 (b := w1.heap.size) (o := 0) (x := .slice a1 ps.length c1) (by go_simp)); (have hzz : w1.heap.size + 1 ≤ w2.heap.size := by have := hz2; simp at this; omega); (have cl3 := cellB (Below.alloc (Below.refl w2.heap.size w2) (Nat.le_refl _) (.cells #[.slice a2 qs.length c2, .string b] 71)) cl)))
  clear hcv
  have hW0 := HWF.out (w2.alloc (.cells #[.slice a2 qs.length c2, .string b] 71))
  rw [World.size_alloc] at hW0
  obtain ⟨hS0, hB0, hz0, hcp1, hcp2⟩ := hW0
  obtain ⟨W0, hW0⟩ : ∃ W0, WF (w2.alloc (.cells #[.slice a2 qs.length c2, .string b] 71)) = W0 := ⟨_, rfl⟩
  obtain ⟨c0, hc0⟩ : ∃ c0, capF (w2.alloc (.cells #[.slice a2 qs.length c2, .string b] 71)) = c0 := ⟨_, rfl⟩
  rw [hW0] at hS0 hB0 hz0 ⊢
  rw [hc0] at hS0 hcp1 hcp2 ⊢
  have cW0 : W0.cell? ⟨w1.heap.size, 0, none⟩ = some (.slice a1 ps.length c1) := (hB0.cell (p := ⟨w1.heap.size, 0, none⟩) (by simp; omega)).trans ((cellB (Below.alloc (Below.refl _ _) (Nat.le_refl _) _) cl))
  have HB0 := Lib.hid (show Below w.heap.size w W0 from Below.trans (Below.alloc (Below.trans (Below.trans hb1 (by go_grown)) (hb2.mono (by simp; omega))) (by omega) _) (hB0.mono (by omega)))
  have HS0 := Lib.hid hS0
  have HC2 := Lib.hid hcp2
  have HCW := Lib.hid cW0
  have HZ0 := Lib.hid hz0
  have hz3 : w1.heap.size < W0.heap.size := by omega
  clear hS0 hB0 hcp1 hcp2 cW0 hb1 hb2 cl hW0 hc0
  go_loopw [10, 42] (fun v i wr => ∃ (k g c : Nat), k ≤ z ∧ i = .int .i64 k ∧ v = .slice (some ⟨g, 0, none⟩) (y + k) c ∧ ByW wr g c (F k) ∧ c ≤ maxLen ∧ w2.heap.size + 1 ≤ g ∧ Below (w2.heap.size + 1) W0 wr) (fun _ i _ => z - (intOf i).toNat)
  case atStart => exact ⟨0, _, _, by omega, rfl, rfl, by rw [HF0.out]; exact HS0.out, HC2.out, Nat.le_refl _, Below.refl _ _⟩
  case round =>
    obtain ⟨k, g, c, hk, rfl, rfl, hS, hcm, hgg, hB⟩ := hrel
    have hzr := hB.size
    by_cases hlt : k < z
    · obtain ⟨q, hq, hsg⟩ := HSG.out k hlt
      have hkb : k < b.size := by rw [HB.out.2.1]; exact hlt
      have hg := HT.out k hkb
      have hst := HJ.out k
      rw [hsg] at hg hst
      have hfew := HB.out.1
      rw [join_sign q ps.length (by omega)] at hst
      have htd2 : (b[k]'hkb).toNat = 97 + q := by rw [hg]; exact lt8_nat q (by omega)
      obtain ⟨d, hd⟩ : ∃ d, d = 97 + q := ⟨_, rfl⟩
      rw [← hd] at htd2
      obtain ⟨yb, hyb⟩ : ∃ yb, lt8 (q + ps.length) = yb := ⟨_, rfl⟩
      have f0 : yb.toNat = d + ps.length := by rw [← hyb, lt8_nat _ (by omega)]; omega
      have f2 : IntKind.u8.wrap (ps.length : Int) = (ps.length : Int) := IntWalk.u8_in _ (by omega)
      have f1 : (d : Int) + (ps.length : Int) = (yb.toNat : Int) := by omega
      have f3 : IntKind.u8.wrap (yb.toNat : Int) = (yb.toNat : Int) := IntWalk.u8_in _ (by omega)
      rw [hyb] at hst
      have hFl := HJL.out k
      have k0 : 0 ≤ (k : Int) := by omega
      have k1 : (k : Int) < (z : Int) := by omega
      have HST := Lib.hid hst
      have HFL := Lib.hid hFl
      have HSS := Lib.hid hS
      have hy17 : y + k < 1000000 := by have := HB.out.2.2; omega
      have keepS : ∀ W' : World, Below (w2.heap.size + 1) W0 W' → (W'.cell? ⟨w1.heap.size, 0, none⟩ = some (.slice a1 ps.length c1) ∧ Below (w2.heap.size + 1) W0 W') := fun W' h => ⟨(h.cell (p := ⟨w1.heap.size, 0, none⟩) (by simp; omega)).trans HCW.out, h⟩
      have HBB := Lib.hid hB
      clear hst hsg hg hyb hd hfew hS hFl f0 hB
      go_wp2

      refine wp_region_held_drew (S := fun w' => w'.cell? ⟨w1.heap.size, 0, none⟩ = some (.slice a1 ps.length c1) ∧ Below (w2.heap.size + 1) W0 w') (by kernel_rfl) (by (try dsimp only); exact keepS _ (bdn HBB.out _)) (fun hHeld => ?_)
      refine wpAnyH_take (i := 0) (v := ?v1) rfl (by kernel_rfl) (by kernel_rfl) (by kernel_rfl) (fun _ _ _ h => h) (Or.inl ⟨by rfl, ?hy1⟩) (by assumption) ?rest1
      case hy1 => (intro w hSw; (try dsimp only at hSw); go_simp; (try with_reducible rfl))
      simp only [Act.put, List.getElem_toArray, List.getElem_cons_zero, List.setIfInBounds_toArray, List.set_cons_zero, List.set_cons_succ]
      refine wpAnyH_take (i := 1) (v := ?v2) rfl (by kernel_rfl) (by kernel_rfl) (by kernel_rfl) (fun _ _ _ h => h) (Or.inl ⟨by rfl, ?hy2⟩) (by assumption) ?rest2
      case hy2 => (intro w hSw; (try dsimp only at hSw); go_simp; (try with_reducible rfl))
      simp only [Act.put, List.getElem_toArray, List.getElem_cons_zero, List.getElem_cons_succ, List.setIfInBounds_toArray, List.set_cons_zero, List.set_cons_succ]
      refine wpAnyH_take (i := 2) (v := ?v3) rfl (by kernel_rfl) (by kernel_rfl) (by kernel_rfl) (fun _ _ _ h => h) (Or.inl ⟨by rfl, ?hy3⟩) (by assumption) ?rest3
      case hy3 => (intro w hSw; (try dsimp only at hSw); go_simp; (try with_reducible rfl))
      simp only [Act.put, List.getElem_toArray, List.getElem_cons_zero, List.getElem_cons_succ, List.setIfInBounds_toArray, List.set_cons_zero, List.set_cons_succ]
      refine wpAnyH_take (i := 3) (v := ?v4) rfl (by kernel_rfl) (by kernel_rfl) (by kernel_rfl) (fun _ _ _ h => h) (Or.inl ⟨by rfl, ?hy4⟩) (by assumption) ?rest4
      case hy4 => (intro w hSw; (try dsimp only at hSw); go_simp; (try with_reducible rfl))
      simp only [Act.put, List.getElem_toArray, List.getElem_cons_zero, List.getElem_cons_succ, List.setIfInBounds_toArray, List.set_cons_zero, List.set_cons_succ]
      refine wpAnyH_take (i := 4) (v := ?v5) rfl (by kernel_rfl) (by kernel_rfl) (by kernel_rfl) (fun _ _ _ h => h) (Or.inl ⟨by rfl, ?hy5⟩) (by assumption) ?rest5
      case hy5 => (intro w hSw; (try dsimp only at hSw); go_simp; (try with_reducible rfl))
      simp only [Act.put, List.getElem_toArray, List.getElem_cons_zero, List.getElem_cons_succ, List.setIfInBounds_toArray, List.set_cons_zero, List.set_cons_succ]
      refine wpAnyH_take (i := 5) (v := ?v6) rfl (by kernel_rfl) (by kernel_rfl) (by kernel_rfl) (fun _ _ _ h => h) (Or.inl ⟨by rfl, ?hy6⟩) (by assumption) ?rest6
      case hy6 => (intro w hSw; (try dsimp only at hSw); go_simp; (try with_reducible rfl))
      simp only [Act.put, List.getElem_toArray, List.getElem_cons_zero, List.getElem_cons_succ, List.setIfInBounds_toArray, List.set_cons_zero, List.set_cons_succ]
      refine wpAnyH_take (i := 6) (v := ?v7) rfl (by kernel_rfl) (by kernel_rfl) (by kernel_rfl) (fun _ _ _ h => h) (Or.inl ⟨by rfl, ?hy7⟩) (by assumption) ?rest7
      case hy7 => (intro w hSw; (try dsimp only at hSw); go_simp; (try with_reducible rfl))
      simp only [Act.put, List.getElem_toArray, List.getElem_cons_zero, List.getElem_cons_succ, List.setIfInBounds_toArray, List.set_cons_zero, List.set_cons_succ]
      refine wpAnyH_take (i := 7) (v := ?v8) rfl (by kernel_rfl) (by kernel_rfl) (by kernel_rfl) (fun _ _ _ h => h) (Or.inl ⟨by rfl, ?hy8⟩) (by assumption) ?rest8
      case hy8 => (intro w hSw; (try dsimp only at hSw); go_simp; (try with_reducible rfl))
      simp only [Act.put, List.getElem_toArray, List.getElem_cons_zero, List.getElem_cons_succ, List.setIfInBounds_toArray, List.set_cons_zero, List.set_cons_succ]
      refine wpAnyH_take (i := 8) (v := ?v9) rfl (by kernel_rfl) (by kernel_rfl) (by kernel_rfl) (fun _ _ _ h => h) (Or.inl ⟨by rfl, ?hy9⟩) (by assumption) ?rest9
      case hy9 => (intro w hSw; (try dsimp only at hSw); go_simp; (try with_reducible rfl))
      simp only [Act.put, List.getElem_toArray, List.getElem_cons_zero, List.getElem_cons_succ, List.setIfInBounds_toArray, List.set_cons_zero, List.set_cons_succ]
      refine wpAnyH_ready (rs := [9]) (by kernel_rfl) (by simp) ?_
      refine AllReadyH.cons rfl (fun K hK => ?_) AllReadyH.nil
      simp only [List.getElem_toArray, List.getElem_cons_zero, List.getElem_cons_succ]
      go_simp
      refine hK.out _ _ (by (try dsimp only); exact keepS _ (Below.alloc hHeld.2 (by show _ ≤ wr.heap.size; omega) _)) (fun hHeld => ?_)
      clear hK K
      have hS2 := HSS.out.keep (show Below wr.heap.size wr (wr.drew.alloc (.cells #[.int .u8 yb.toNat] 5)) by go_grown)
      refine wpAnyH_ready (rs := [10]) (by kernel_rfl) (by simp) ?_
      refine AllReadyH.cons rfl (fun K hK => ?_) AllReadyH.nil
      simp only [List.getElem_toArray, List.getElem_cons_zero, List.getElem_cons_succ]
      rw [if_pos (by rfl)]; refine wp_append_one (.tmp 45) (.tmp 54) rfl g (y + k) c (F k) yb wr.heap.size rfl rfl (by go_simp) hS2 HFL.out.symm hcm hy17 ?_; intro g5 c5 w5 hS5 hg5 hc5 hl5; rw [← HST.out] at hS5
      refine hK.out _ _ (by (try dsimp only); exact keepS _ (hHeld.2.grown hg5 (by first | omega | (simp; omega)) (fun q hq => by cases hq; exact hgg))) (fun hHeld => ?_)
      clear hK K
      simp only [Act.put, List.setIfInBounds_toArray, List.set_cons_zero, List.set_cons_succ]
      refine wpAnyH_take (i := 11) (v := ?v10) rfl (by kernel_rfl) (by kernel_rfl) (by kernel_rfl) (fun _ _ _ h => h) (Or.inl ⟨by rfl, ?hy10⟩) (by assumption) ?rest10
      case hy10 => (intro w hSw; (try dsimp only at hSw); go_simp; (try with_reducible rfl))
      simp only [Act.put, List.getElem_toArray, List.getElem_cons_zero, List.getElem_cons_succ, List.setIfInBounds_toArray, List.set_cons_zero, List.set_cons_succ]
      refine wpAnyH_done (by kernel_rfl) ?_ _
      go_wp2
      go_roundw
      case rel => exact ⟨k + 1, g5, c5, by omega, by go_num, rfl, hS5, hc5, by rcases hl5 with rfl | rfl <;> (try simp) <;> omega, hHeld.2⟩
      case measure => simp [intOf]; omega
    · obtain rfl : k = z := by omega
      have hback := bytes_back hS (y + k) c (by rw [HJL.out k])
      rw [← HJE.out] at hback
      have HBB := Lib.hid hB
      clear hS hB
      go_wp2
      go_ret2
      exact ⟨rfl, HB0.out.trans (HBB.out.mono (by omega))⟩

theorem main_JoinLoops (a b : ByteArray) (w : World) (ha : a.size ≤ 1048576) (hb : b.size ≤ 1048576) : Calls Try.prog 6 #[.string a, .string b] w fun e w' => e = .returned (.bool true) ∧ Below w.heap.size w w' := by
  cases hla : loopL a.data.toList with
  | none =>
    cases hlb : loopL b.data.toList with
    | none => exact core_JoinLoops a b _ _ w ha hb (fun W => sJoinLoops_no1 a b W ha hb (loopL_none hla)) (fun W => iJoinLoops_no3 a b [] [] W ha hla hb hlb)
    | some qs => exact core_JoinLoops a b _ _ w ha hb (fun W => sJoinLoops_no1 a b W ha hb (loopL_none hla)) (fun W => iJoinLoops_no1 a b [] qs W ha hla hb hlb)
  | some ps =>
    cases hlb : loopL b.data.toList with
    | none => exact core_JoinLoops a b _ _ w ha hb (fun W => sJoinLoops_no2 a b W ha hb (loopL_some hla).2 (loopL_none hlb)) (fun W => iJoinLoops_no2 a b ps [] W ha hla hb hlb)
    | some qs =>
      obtain ⟨g1, g2⟩ := loopL_some hla
      obtain ⟨g3, g4⟩ := loopL_some hlb
      have l1 := g1.len
      have l2 := g3.len
      have t1 := tx_len a
      have t2 := tx_len b
      by_cases h8 : ps.length + qs.length ≤ 8
      · exact core_JoinLoops a b _ _ w ha hb (fun W => sJoinLoops_yes a b ps qs W ha hb g2 g4 g1 g3 h8) (fun W => iJoinLoops_yes a b ps qs W ha hb hla hlb h8)
      · exact core_JoinLoops a b _ _ w ha hb (fun W => sJoinLoops_no3 a b W ha hb g2 g4 (by omega)) (fun W => iJoinLoops_no4 a b ps qs W ha hla hb hlb g1.few g3.few (by omega))

theorem walk_JoinLoops (a : ByteArray) (b : ByteArray) (w : World) (wf0 : a.size ≤ maxLen) (wf1 : b.size ≤ maxLen) :
    Calls Try.prog 6 #[.string a, .string b] w fun e w' => e = .returned (.bool true) ∧ Below w.heap.size w w' := by
  by_cases h0 : 1048576 < (a.size : Int)
  · exact long0_JoinLoops a b w  h0
  by_cases h1 : 1048576 < (b.size : Int)
  · exact long1_JoinLoops a b w h0 h1
  exact main_JoinLoops a b w (by omega) (by omega)

end Go.Proofs.Ytpcebcgmbngabab
