/- Slices of bytes of the call's own: appended to, cut, searched. -/
import Derived.Test.YtpcebcgmbngababB3
import Derived.Test.YtpcebcgmbngababSd
import Derived.Test.YtpcebcgmbngababJ1
import Derived.Sort.OwnSorted
import Derived.Deep.AppendLies
import Derived.Laws.BytesArg
import Derived.Test.YtpcebcgmbngababW1
namespace Go.Proofs.Ytpcebcgmbngabab
open Go.RowKit
set_option linter.unusedVariables false

def bV (b : UInt8) : Value := .int .u8 b.toNat

/-- The slice v, made since the heap had B blocks, holds the bytes bs. -/
def ByO (w : World) (B : Nat) (v : Value) (bs : List UInt8) : Prop := w.ownsRow B 5 1 v bs.length (bs.map bV)

theorem info_byteJ : (Try.prog.info? 5).map (fun i => (i.zero, i.size, i.bytes)) = some (some (.int .u8 0), 1, 1) := by kernel_rfl

theorem ByO.kept {w w' : World} {B : Nat} {v : Value} {bs : List UInt8} {row : Option Nat} (h : ByO w B v bs) (hg : w.grownBy w' row) (hne : v.ownBlock = none ∨ v.ownBlock ≠ row) : ByO w' B v bs := World.ownsRow.kept h hg hne

theorem ByO.later {w w' : World} {B : Nat} {v : Value} {bs : List UInt8} (h : ByO w B v bs) (hb : Below w.heap.size w w') : ByO w' B v bs :=
  h.kept (Below.by hb) (by cases hv : v.ownBlock with | none => exact .inl rfl | some k => exact .inr (by simp))

theorem ByO.own {w : World} {B : Nat} {v : Value} {bs : List UInt8} (h : ByO w B v bs) : ∀ k, v.ownBlock = some k → B ≤ k ∧ k < w.heap.size := World.ownsRow.lt h

theorem ByO.below {w0 w w' : World} {B : Nat} {v : Value} {bs : List UInt8} (h : ByO w B v bs) (hb : Below B w0 w) (hB : B ≤ w.heap.size) (hg : w.grownBy w' v.ownBlock) : Below B w0 w' :=
  hb.grown hg hB fun k hk => (h.own k hk).1

theorem ByO.nil (w : World) (B : Nat) : ByO w B (.slice none 0 0) [] := World.ownsRow_nil _ _ _ _

theorem ByO.view {w : World} {B : Nat} {v : Value} {bs : List UInt8} (h : ByO w B v bs) :
    ∃ (a0 : Option Addr) (cap g : Nat), v = .slice a0 bs.length cap ∧ (0 < bs.length → a0 = some ⟨g, 0, none⟩) ∧ bs.length ≤ cap ∧ cap ≤ maxLen ∧ (0 < bs.length → B ≤ g ∧ g < w.heap.size) ∧
      (∀ i, i < bs.length → w.cell? ⟨g, i, none⟩ = some (.int .u8 (bs.getD i 0).toNat)) ∧ (a0 = none ∨ a0 = some ⟨g, 0, none⟩) := by
  have h0 := h
  obtain ⟨hl, h1 | ⟨g, cap, cur, hv, hB, hg, hn, hm, hs, ht⟩⟩ := h0
  · obtain ⟨hv, hn⟩ := h1
    exact ⟨none, 0, 0, by rw [hn]; exact hv, fun h => by omega, by omega, by unfold maxLen; omega, fun h => by omega, fun i hi => by omega, .inl rfl⟩
  · subst hv
    refine ⟨some ⟨g, 0, none⟩, cap, g, rfl, fun _ => rfl, hn, hm, fun _ => ⟨hB, (Array.getElem?_eq_some_iff.1 hg).1⟩, fun i hi => ?_, .inr rfl⟩
    rw [World.ownsRow.cellAt h i (by omega)]
    simp [List.getElem?_map, List.getElem?_eq_getElem hi, List.getD, bV]

/-- 'append(out, y)' onto bytes of the call's own: where they lie then. -/
theorem wpList_append_byte {wr : World} {ops : Array Oper} {rest : List Oper} {o : Oper} {a : Act} {Q : Exit → Act → World → Prop} (hgd : o.guard = none) (s x : Operand)
    (ho : o.op = .call { callee := .builtin .append, args := #[s, x], argTypes := #[74, 74] }) (base : Nat) (v : Value) (bs : List UInt8) (n : Nat) (hnn : n = bs.length) (hs : a.eval s = v) (hI : ByO wr base v bs) (y : UInt8) (z : Nat) (hz : z = wr.heap.size)
    (hx : a.eval x = .slice (some ⟨z, 0, none⟩) 1 1) (hn : n < 1000000) (hbase : base ≤ wr.heap.size)
    (h : ∀ g cap w', ByO w' base (.slice (some ⟨g, 0, none⟩) (n + 1) cap) (bs ++ [y]) → wr.grownBy w' v.ownBlock → (v.ownBlock = some g ∨ g = wr.heap.size + 1) → wpList Try.prog ops Q rest (a.put o.dst (.slice (some ⟨g, 0, none⟩) (n + 1) cap)) w') :
    wpList Try.prog ops Q (o :: rest) a (wr.alloc (.cells #[.int .u8 y.toNat] 5)) := by
  subst hz
  subst hnn
  obtain ⟨i, hi, hz0, hz1, hz2⟩ := info_parts info_byteJ
  refine wpList_append_lies _ hgd s x 74 ho base 5 i (.int .u8 0) 1 1 Try.underlying74 hi hz0 hz1 hz2 rfl (by decide) v bs.length _ hs (World.ownsRow.alloc hI _) ⟨wr.heap.size, 0, none⟩ 1 1 [.int .u8 y.toNat] hx rfl ?_ ?_ (by decide) (by unfold maxLen; omega) (by omega) (by simp; omega) _ rfl ?_
  · exact cell_one_new _ _ _
  · intro u hu
    simp at hu
    subst hu
    rfl
  · intro g cap w' h1 h2 h3 _
    refine h g cap w' ?_ (grownBy_trans (World.grownBy_alloc _ _ _) h2) (by simpa using h3)
    have e1 : (bs ++ [y]).length = bs.length + 1 := by simp
    unfold ByO
    rw [e1, List.map_append]
    exact h1

/-- What was appended to one list stays apart from another one. -/
theorem ByO.apart {w w' : World} {B g : Nat} {u v : Value} {ys : List UInt8} (hJ : ByO w B v ys) (hA : ∀ q, u.ownBlock = some q → v.ownBlock ≠ some q) (hg : w.grownBy w' u.ownBlock) (hl : u.ownBlock = some g ∨ g = w.heap.size + 1) : ByO w' B v ys ∧ v.ownBlock ≠ some g := by
  refine ⟨hJ.kept hg ?_, fun hv => ?_⟩
  · cases hv : v.ownBlock with
    | none => exact .inl rfl
    | some q => exact .inr fun e => hA q e.symm hv
  · rcases hl with hl | hl
    · exact hA g hl hv
    · have := (hJ.own g hv).2
      omega

theorem bV_one : OneCell bV := fun x => rfl

theorem holdsB {w : World} {g : Nat} {cur : Array Value} {e : TypeId} {ss : List UInt8} (hb : w.heap[g]? = some (.cells cur e (0, 0))) (ht : cur.toList.take ss.length = ss.map bV) : Sort.Holds bV w g 0 ss.toArray := by
  intro j hj
  have hj' : j < ss.length := by simpa using hj
  refine ⟨?_, by simp [World.frozen?, hb]⟩
  have h1 : (cur.toList.take ss.length)[j]? = (ss.map bV)[j]? := by rw [ht]
  rw [List.getElem?_take_of_lt hj'] at h1
  simp only [World.cell?, hb, Nat.zero_add]
  simp only [Option.isSome_none, Bool.false_eq_true, if_false]
  rw [← Array.getElem?_toList, h1]
  simp [hj']

theorem heapB {w : World} {g n : Nat} {cur : Array Value} {e : TypeId} {fr : Nat × Nat} (d : Array UInt8) (hb : w.heap[g]? = some (.cells cur e fr)) :
    (Sort.putRow bV (Sort.ahead w n) g 0 d).heap[g]? = some (.cells (Sort.putCells bV 0 d cur) e fr) := by
  simp [Sort.putRow, Sort.mapBlock, Sort.ahead, Array.getElem?_modify, hb, Sort.onCells]

theorem grownB {w : World} {g n : Nat} (d : Array UInt8) : w.grownBy (Sort.putRow bV (Sort.ahead w n) g 0 d) (some g) := by
  refine ⟨rfl, rfl, rfl, by simp [Sort.putRow, Sort.mapBlock, Sort.ahead], fun k hk hne => ?_⟩
  have : g ≠ k := fun e => hne (by rw [e])
  simp [Sort.putRow, Sort.mapBlock, Sort.ahead, Array.getElem?_modify, this]

theorem takeB (cur : Array Value) (ts : List UInt8) (h : ts.length ≤ cur.size) : (Sort.putCells bV 0 ts.toArray cur).toList.take ts.length = ts.map bV := by
  apply List.ext_getElem?
  intro j
  by_cases hj : j < ts.length
  · rw [List.getElem?_take_of_lt hj, Array.getElem?_toList]
    simp [Sort.putCells, hj, show j < cur.size by omega]
  · rw [List.getElem?_take_eq_none (by omega), List.getElem?_eq_none (by simp; omega)]

theorem delete_own (w : World) (B g n cap i : Nat) (bs : List UInt8) (h : ByO w B (.slice (some ⟨g, 0, none⟩) n cap) bs) (hi : i < bs.length) :
    Calls Try.prog 79 #[.slice (some ⟨g, 0, none⟩) n cap, .int .i64 i, .int .i64 ((i : Int) + 1)] w fun en w' => en = .returned (.slice (some ⟨g, 0, none⟩) (n - 1) cap) ∧ ByO w' B (.slice (some ⟨g, 0, none⟩) (n - 1) cap) (bs.eraseIdx i) ∧ w.grownBy w' (some g) := by
  obtain ⟨hl, h1 | ⟨g', cap', cur, hv, hB, hg, hn, hm, hs, ht⟩⟩ := h
  · cases h1.1
  · cases hv
    have hml : cap ≤ 9223372036854775807 := by unfold maxLen at hm; omega
    have hH : Sort.Holds bV w g 0 bs.toArray := holdsB hg (by rw [← Nat.mul_one bs.length]; exact ht)
    obtain ⟨ti, hti, _, hti1, _⟩ := info_parts info_byteJ
    have hc := AnyE.slices_Delete Try.delB bV bV_one 0 (fun w => Try.zeroValue5 w) ti hti hti1 g 0 cap i (i + 1) bs.toArray w hH (by simpa using hn) hml (by omega) (by simp; omega)
    refine hc.mono ?_
    rintro en w' ⟨rfl, q, rfl⟩
    have hc : cur.size = cap := by omega
    have hlen : (bs.take i ++ bs.drop (i + 1) ++ List.replicate (i + 1 - i) (0 : UInt8)).length = bs.length := by simp; omega
    have hee : bs.eraseIdx i = bs.take i ++ bs.drop (i + 1) := List.eraseIdx_eq_take_drop_succ _ _
    have hel : (bs.eraseIdx i).length = bs.length - 1 := List.length_eraseIdx_of_lt hi
    refine ⟨by simp, ⟨by simp, .inr ⟨g, cap, _, by rw [hel], hB, heapB _ hg, by rw [hel]; omega, hm, by simp [Sort.putCells, hc], ?_⟩⟩, grownB _⟩
    have h2 := takeB cur (bs.take i ++ bs.drop (i + 1) ++ List.replicate (i + 1 - i) (0 : UInt8)) (by rw [hlen]; omega)
    rw [hlen] at h2
    have h3 := congrArg (List.take (bs.length - 1)) h2
    rw [List.take_take, Nat.min_eq_left (by omega), ← List.map_take] at h3
    rw [Nat.mul_one, hel]
    refine h3.trans ?_
    rw [hee, List.take_left' (by simp; omega)]

theorem delete_ownL (w : World) (B g cap n i : Nat) (bs : List UInt8) (h : ByO w B (.slice (some ⟨g, 0, none⟩) n cap) bs) (hi : i < bs.length) (hn : n = bs.length) :
    Calls Try.prog 79 #[.slice (some ⟨g, 0, none⟩) n cap, .int .i64 i, .int .i64 ((i : Int) + 1)] w fun en w' => ∃ m, m = (bs.eraseIdx i).length ∧ en = .returned (.slice (some ⟨g, 0, none⟩) m cap) ∧ ByO w' B (.slice (some ⟨g, 0, none⟩) m cap) (bs.eraseIdx i) ∧ w.grownBy w' (some g) := by
  have hel : (bs.eraseIdx i).length = bs.length - 1 := List.length_eraseIdx_of_lt hi
  refine (delete_own w B g n cap i bs h hi).mono ?_
  rintro en w' ⟨rfl, h1, h2⟩
  exact ⟨n - 1, by omega, rfl, h1, h2⟩

set_option maxHeartbeats 1000000 in
theorem indexB_any (a0 : Option Addr) (g n cap : Nat) (bs : List UInt8) (c : UInt8) (w : World) (hl : bs.length = n) (hn : n ≤ 1000) (ha : 0 < n → a0 = some ⟨g, 0, none⟩) (hc : ∀ i, i < n → w.cell? ⟨g, i, none⟩ = some (.int .u8 (bs.getD i 0).toNat)) :
    Calls Try.prog 81 #[.slice a0 n cap, .int .u8 c.toNat] w fun e w' => e = .returned (.int .i64 (if bs.idxOf c < n then (bs.idxOf c : Int) else -1)) ∧ w = w' := by
  have HC := Lib.hid hc
  have hxl : bs.idxOf c ≤ n := by rw [← hl]; exact List.idxOf_le_length
  have HI := Lib.hid (fun k (hk : k < n) => show (bs.getD k 0 = c → ∀ _ : k ≤ bs.idxOf c, bs.idxOf c = k) ∧ (bs.idxOf c = k → bs.getD k 0 = c) from ⟨fun e hle => by
      rw [List.getD, List.getElem?_eq_getElem (by omega)] at e
      simp only [Option.getD_some] at e
      rcases Nat.lt_or_ge k (bs.idxOf c) with h | h
      · exact absurd e (by have := List.not_of_lt_findIdx (xs := bs) (p := (· == c)) h; simpa using this)
      · omega, fun e => by
      have hl2 : bs.idxOf c < bs.length := by omega
      have hl3 := List.getElem_idxOf hl2
      simp only [e] at hl3
      rw [List.getD, List.getElem?_eq_getElem (by omega)]
      exact hl3⟩)
  obtain ⟨x, hx⟩ : ∃ x, bs.idxOf c = x := ⟨_, rfl⟩
  rw [hx] at hxl ⊢
  obtain ⟨v, hv⟩ : ∃ v, (if x < n then (x : Int) else -1) = v := ⟨_, rfl⟩
  rw [hv]
  have HV := Lib.hid hv
  obtain ⟨d, hd⟩ : ∃ d, c.toNat = d := ⟨_, rfl⟩
  have HD := Lib.hid hd
  have HX := Lib.hid hx
  rw [hd]
  clear hc hd hx hl hv
  go_enter Try.func81, Try.ntmps81
  go_wp2
  go_loopw [8] (fun i wr => ∃ k : Nat, k ≤ n ∧ k ≤ x ∧ i = .int .i64 k ∧ w = wr) (fun i _ => n - (intOf i).toNat)
  case atStart => exact ⟨0, by omega, by omega, rfl, rfl⟩
  case round =>
    obtain ⟨k, hk, hkx, rfl, rfl⟩ := hrel
    by_cases hlt : k < n
    · obtain rfl := ha (by omega)
      have cc := HC.out k hlt
      obtain ⟨y, hy⟩ : ∃ y, (bs.getD k 0).toNat = y := ⟨_, rfl⟩
      rw [hy] at cc
      have HY := Lib.hid hy
      have k0 : 0 ≤ (k : Int) := by omega
      have k1 : (k : Int) < (n : Int) := by omega
      clear hy
      by_cases hyd : d = y
      · have hxk : x = k := by rw [← HX.out]; exact (HI.out k hlt).1 (UInt8.toNat_inj.1 (by rw [HY.out, HD.out, hyd])) (by rw [HX.out]; exact hkx)
        subst hyd
        subst hxk
        have HV2 := Lib.hid (show (x : Int) = v by rw [← HV.out, if_pos hlt])
        go_wp2
        go_ret
        exact ⟨by rw [← HV2.out]; rfl, rfl⟩
      · have hxk : x ≠ k := fun e => hyd (by rw [← HD.out, ← HY.out, (HI.out k hlt).2 (by rw [HX.out]; exact e)])
        have hne : ((d : Int) == (y : Int)) = false := beq_eq_false_iff_ne.2 (by omega)
        go_wp2
        go_roundw
        case rel => exact ⟨k + 1, by omega, by omega, by go_num, by trivial⟩
        case measure => simp [intOf]; omega
    · obtain rfl : k = n := by omega
      obtain rfl : x = k := by omega
      have HV2 := Lib.hid (show -1 = v by rw [← HV.out, if_neg (by omega)])
      go_wp2
      go_ret
      exact ⟨by rw [← HV2.out]; rfl, rfl⟩
end Go.Proofs.Ytpcebcgmbngabab
