/- Loops: what a loop is, by the program. -/
import Derived.Test.YtpcebcgmbngababJ2
import Derived.Test.YtpcebcgmbngababP5
namespace Go.Proofs.Ytpcebcgmbngabab
open Go.RowKit
set_option linter.unusedVariables false

def pI (ps : List (Nat × Nat)) : List (Int × Int) := ps.map fun p => ((p.1 : Int), (p.2 : Int))

theorem pI_length (ps : List (Nat × Nat)) : (pI ps).length = ps.length := by simp [pI]

theorem pI_get (ps : List (Nat × Nat)) (k : Nat) : (pI ps).getD k (0, 0) = (((ps.getD k (0, 0)).1 : Int), ((ps.getD k (0, 0)).2 : Int)) := by
  unfold pI
  rw [List.getD, List.getD, List.getElem?_map]
  cases ps[k]? with
  | none => rfl
  | some p => rfl

theorem pI_app (ps : List (Nat × Nat)) (a b : Nat) : pI ps ++ [((a : Int), (b : Int))] = pI (ps ++ [(a, b)]) := by simp [pI]

theorem pI_set (ps : List (Nat × Nat)) (k a b : Nat) : (pI ps).set k ((a : Int), (b : Int)) = pI (ps.set k (a, b)) := by simp [pI, List.map_set]

theorem info_chordJ : (Try.prog.info? 96).map (fun i => (i.zero, i.size, i.bytes)) = some (some (.agg #[.int .i64 0, .int .i64 0]), 2, 16) := by kernel_rfl

theorem readTo_none {L : List UInt8} {i : Nat} (h : readTo L i = none) : ∀ j, i ≤ j → readTo L j = none
  | 0, hj => by obtain rfl : i = 0 := by omega
                exact h
  | j + 1, hj => by
    by_cases e : i = j + 1
    · subst e; exact h
    · rw [readTo, readTo_none h j (by omega)]; rfl

theorem loopL_fail {L : List UInt8} {i : Nat} {ps : List (Nat × Nat)} (h : readTo L i = some ps) (hi : i < L.length) (hs : stepR ps i (L.getD i 0) = none) : loopL L = none := by
  have h1 : readTo L (i + 1) = none := by rw [readTo, h]; exact hs
  unfold loopL
  split
  · rfl
  · rw [readTo_none h1 _ (by omega)]; rfl

/-- What loopOf gives. -/
def GivesL (L : List UInt8) (t : ByteArray) (w : World) (e : Ending) (w' : World) : Prop :=
  (∃ ps v, loopL L = some ps ∧ e = .returned (.tuple #[.agg #[v, .string t], .bool true]) ∧ PairsIn 96 w' w.heap.size w'.heap.size v (pI ps) ∧ Below w.heap.size w w') ∨
  (loopL L = none ∧ e = .returned (.tuple #[.agg #[.slice none 0 0, .string ⟨#[]⟩], .bool false]) ∧ Below w.heap.size w w')

set_option maxHeartbeats 4000000 in
set_option maxRecDepth 100000 in
theorem loopOf_any (t : ByteArray) (w : World) (ht : t.size ≤ 1048576) :
    Calls Try.prog 57 #[.string t] w (GivesL t.data.toList t w) := by
  have hlen := tx_len t
  by_cases h16 : 16 < t.size
  · have hno : loopL t.data.toList = none := by unfold loopL; rw [if_pos (by omega)]
    have HNO := Lib.hid hno
    have hd : decide ((16 : Int) < (t.size : Int)) = true := by simp; omega
    clear hlen hno
    go_enter Try.func57, Try.ntmps57
    go_wp2
    exact bodyPost_ret (v := .tuple #[.agg #[.slice none 0 0, .string ⟨#[]⟩], .bool false]) (by simp [results, Try.results57, go_sem, *]) rfl (.inr ⟨HNO.out, rfl, by first | exact HB0.out | exact bdn HB0.out _ | exact Below.trans (bdn HB0.out nq) (by go_grown) | exact Below.trans HB0.out (by go_grown) | (go_grown; done)⟩)
  · have hd : decide ((16 : Int) < (t.size : Int)) = false := by simp; omega
    have HT := Lib.hid (fun k (h : k < t.size) => tx_get t k h)
    have HR0 : Hid (readTo t.data.toList 0 = some []) := Lib.hid rfl
    have HRS := Lib.hid (fun i ps (h : readTo t.data.toList i = some ps) => show readTo t.data.toList (i + 1) = stepR ps i (t.data.toList.getD i 0) by rw [readTo, h]; rfl)
    have HRF := Lib.hid (fun i ps (h : readTo t.data.toList i = some ps) (hi : i < t.size) (hs : stepR ps i (t.data.toList.getD i 0) = none) => loopL_fail h (by omega) hs)
    have HRE := Lib.hid (fun ps (h : readTo t.data.toList t.size = some ps) => show loopL t.data.toList = if t.size = 2 * ps.length then some ps else none by
      unfold loopL
      rw [if_neg (by omega), hlen, h]
      rfl)
    have HIN := Lib.hid (fun i (hi : i ≤ t.size) ps (h : readTo t.data.toList i = some ps) => (readTo_inv t.data.toList (by omega) i (by omega) ps h).few)
    obtain ⟨L, hL⟩ : ∃ L, t.data.toList = L := ⟨_, rfl⟩
    rw [hL] at HT HR0 HRS HRF HRE HIN hlen
    rw [hL]
    clear hL hlen
    go_enter Try.func57, Try.ntmps57
    go_wp2
    go_loopw [4, 13] (fun u i wr => ∃ (k : Nat) (ps : List (Nat × Nat)), k ≤ t.size ∧ i = .int .i64 k ∧ Hid (readTo L k = some ps) ∧ Pairs wr (w.heap.size + 1) 96 u (pI ps) ∧ Below (w.heap.size + 1) (w.alloc (.cells #[.slice none 0 0, .string ⟨#[]⟩] 71)) wr) (fun _ i _ => t.size - (intOf i).toNat)
    case atStart => exact ⟨0, [], by omega, rfl, HR0, World.ownsRow_nil _ _ _ _, Below.refl _ _⟩
    case round =>
      obtain ⟨k, ps, hk, rfl, HRD, hI, hB⟩ := hrel
      have hz := hB.size
      rw [World.size_alloc] at hz
      have hc0 : wr.cell? ⟨w.heap.size, 0, none⟩ = some (.slice none 0 0) := (hB.cell (p := ⟨w.heap.size, 0, none⟩) (by simp)).trans (by go_simp)
      have hc1 : wr.cell? ⟨w.heap.size, 1, none⟩ = some (.string ⟨#[]⟩) := (hB.cell (p := ⟨w.heap.size, 1, none⟩) (by simp)).trans (by go_simp)
      have hf : ∀ o, wr.frozen? ⟨w.heap.size, o, none⟩ = false := fun o => (hB.frozen (p := ⟨w.heap.size, o, none⟩) (by simp)).trans (by go_simp)
      have HB0 := Lib.hid (show Below w.heap.size w wr from Below.trans (by go_grown) (hB.mono (by omega)))
      have HB := Lib.hid hB
      clear hB
      by_cases hlt : k < t.size
      · obtain ⟨d, hd2⟩ : ∃ d, (t[k]'hlt).toNat = d := ⟨_, rfl⟩
        have HD2 := Lib.hid (show (L.getD k 0).toNat = d by rw [← hd2, HT.out k hlt])
        have d256 : d < 256 := by rw [← HD2.out]; exact UInt8.toNat_lt _
        have hk0 : 0 ≤ (k : Int) := by omega
        have hk1 : (k : Int) < (t.size : Int) := by omega
        have hfew := HIN.out k hk ps HRD.out
        have hst : stepR ps k (L.getD k 0) = if d < 97 ∨ 97 + ps.length < d then none
            else if d - 97 = ps.length then some (ps ++ [(k, k)])
            else if (ps.getD (d - 97) (0, 0)).2 = (ps.getD (d - 97) (0, 0)).1 then some (ps.set (d - 97) ((ps.getD (d - 97) (0, 0)).1, k)) else none := by
          unfold stepR
          rw [HD2.out]
        obtain ⟨a0, cap, g, rfl, ha0, hml, he1, he2⟩ := hI.view
        rw [pI_length] at hI ha0 he1 he2 ⊢
        have HI := Lib.hid hI
        have hw : IntKind.i64.wrap ((d : Int) - 97) = (d : Int) - 97 := by rw [IntKind.wrap_i64]; omega
        by_cases h1 : d < 97
        · rw [if_pos (.inl h1)] at hst
          have HNO := Lib.hid (HRF.out k ps HRD.out hlt hst)
          have hx : decide ((d : Int) - 97 < 0) = true := by simp; omega
          clear hst hI he1 he2
          go_wp2
          exact bodyPost_ret (v := .tuple #[.agg #[.slice none 0 0, .string ⟨#[]⟩], .bool false]) (by simp [results, Try.results57, go_sem, *]) rfl (.inr ⟨HNO.out, rfl, by first | exact HB0.out | exact bdn HB0.out _ | exact Below.trans (bdn HB0.out nq) (by go_grown) | exact Below.trans HB0.out (by go_grown) | (go_grown; done)⟩)
        · obtain ⟨q, hq⟩ : ∃ q : Nat, (d : Int) - 97 = (q : Int) := ⟨d - 97, by omega⟩
          rw [show d - 97 = q by omega] at hst
          have hx : decide ((q : Int) < 0) = false := by simp
          rw [hq] at hw
          have hl50 : ps.length ≤ 16 := by omega
          by_cases h2 : ps.length < q
          · rw [if_pos (.inr (by omega))] at hst
            have HNO := Lib.hid (HRF.out k ps HRD.out hlt hst)
            have hx2 : decide ((ps.length : Int) < (q : Int)) = true := by simp; omega
            clear hst hI he1 he2
            go_wp2
            exact bodyPost_ret (v := .tuple #[.agg #[.slice none 0 0, .string ⟨#[]⟩], .bool false]) (by simp [results, Try.results57, go_sem, *]) rfl (.inr ⟨HNO.out, rfl, by first | exact HB0.out | exact bdn HB0.out _ | exact Below.trans (bdn HB0.out nq) (by go_grown) | exact Below.trans HB0.out (by go_grown) | (go_grown; done)⟩)
          · have hx2 : decide ((ps.length : Int) < (q : Int)) = false := by simp; omega
            rw [if_neg (by omega)] at hst
            by_cases h3 : q = ps.length
            · rw [if_pos h3] at hst
              have HNX : Hid (readTo L (k + 1) = some (ps ++ [(k, k)])) := Lib.hid (by rw [HRS.out k ps HRD.out, hst])
              subst h3
              clear hst hI he1 he2 ha0 hml
              go_wp2_with (first | (at_builtin; refine wpList_append_pair rfl _ _ 69 rfl (w.heap.size + 1) 96 Try.underlying69 info_chordJ _ (pI ps) rfl HI.out (k : Int) (k : Int) rfl (by rw [pI_length]; omega) (by omega) ?_; intro v' w' hI' hg'))
              rw [pI_app] at hI'
              have hB' := HB.out.grown hg' (by omega) (fun b hb => (HI.out.own b hb).1)
              have hz' := hg'.size
              obtain ⟨a1, cap1, g1, rfl, ha1, hml1, f1, f2⟩ := hI'.view
              have hlast : (ps ++ [(k, k)]).getD ps.length (0, 0) = (k, k) := by rw [getD_app, if_neg (by omega), if_pos rfl]
              rw [pI_length, List.length_append, List.length_singleton] at hI' ha1 f1 f2 ⊢
              obtain rfl := ha1 (by omega)
              have e1 := f1 ps.length (by omega)
              have e2 := f2 ps.length (by omega)
              rw [pI_get, hlast] at e1 e2
              simp only at e1 e2
              have hs1 := hI'.stored1 ps.length (k : Int)
              rw [pI_get, hlast] at hs1
              simp only at hs1
              rw [pI_set, show (ps ++ [(k, k)]).set ps.length (k, k) = ps ++ [(k, k)] by simp] at hs1
              have HS1 := Lib.hid hs1
              have hq0 : 0 ≤ (ps.length : Int) := by omega
              have hq1 : (ps.length : Int) < ((ps.length + 1 : Nat) : Int) := by omega
              have HBS := Lib.hid (hB'.grown hs1.2 (by omega) (fun b hb => by cases hb; exact (hI'.own g1 rfl).1))
              have hfz := hI'.frozenAt (ps.length * 2 + 1)
              clear hI' f1 f2 hs1 hB' hg' ha1 hml1
              go_quiet (fail)
              go_wp2
              go_roundw
              case rel => exact ⟨k + 1, _, by omega, by go_num, HNX, HS1.out.1, bdn HBS.out _⟩
              case measure => simp [intOf]; omega
            · rw [if_neg h3] at hst
              have hql : q < ps.length := by omega
              have e1 := he1 q hql
              have e2 := he2 q hql
              rw [pI_get] at e1 e2
              simp only at e1 e2
              obtain ⟨A, hA⟩ : ∃ A, (ps.getD q (0, 0)).1 = A := ⟨_, rfl⟩
              obtain ⟨B, hBB⟩ : ∃ B, (ps.getD q (0, 0)).2 = B := ⟨_, rfl⟩
              rw [hA] at e1 hst
              rw [hBB] at e2 hst
              obtain rfl := ha0 (by omega)
              have hq0 : 0 ≤ (q : Int) := by omega
              have hq1 : (q : Int) < (ps.length : Int) := by omega
              have hne : ¬ (q : Int) = (ps.length : Int) := by omega
              have HA := Lib.hid hA
              by_cases h4 : B = A
              · rw [if_pos h4] at hst
                have HNX : Hid (readTo L (k + 1) = some (ps.set q (A, k))) := Lib.hid (by rw [HRS.out k ps HRD.out, hst])
                subst h4
                have hs1 := HI.out.stored1 q (k : Int)
                rw [pI_get, HA.out] at hs1
                simp only at hs1
                rw [pI_set] at hs1
                have HS1 := Lib.hid hs1
                have hown : ∀ b, (Value.slice (some ⟨g, 0, none⟩) ps.length cap).ownBlock = some b → w.heap.size + 1 ≤ b := fun b hb => (HI.out.own b hb).1
                have HBS := Lib.hid (HB.out.grown hs1.2 (by omega) (fun b hb => by cases hb; exact hown g rfl))
                have hfz := HI.out.frozenAt (q * 2 + 1)
                clear hst hI he1 he2 ha0 hA hBB hs1 hown
                go_wp2
                go_quiet (fail)
                go_wp2
                go_roundw
                case rel => exact ⟨k + 1, _, by omega, by go_num, HNX, HS1.out.1, bdn HBS.out _⟩
                case measure => simp [intOf]; omega
              · rw [if_neg h4] at hst
                have HNO := Lib.hid (HRF.out k ps HRD.out hlt hst)
                have hne2 : ((B : Int) != (A : Int)) = true := bne_iff_ne.2 (by omega)
                clear hst hI he1 he2 ha0 hA hBB
                go_wp2
                go_quiet (fail)
                go_wp2
                exact bodyPost_ret (v := .tuple #[.agg #[.slice none 0 0, .string ⟨#[]⟩], .bool false]) (by simp [results, Try.results57, go_sem, *]) rfl (.inr ⟨HNO.out, rfl, by first | exact HB0.out | exact bdn HB0.out _ | exact Below.trans (bdn HB0.out nq) (by go_grown) | exact Below.trans HB0.out (by go_grown) | (go_grown; done)⟩)
      · obtain rfl : k = t.size := by omega
        have hfin := HRE.out ps HRD.out
        have HRD2 := Lib.hid (HIN.out _ hk ps HRD.out)
        have hfew := HRD2.out
        obtain ⟨n, hn⟩ : ∃ n, ps.length = n := ⟨_, rfl⟩
        obtain ⟨m, hm⟩ : ∃ m, t.size = m := ⟨_, rfl⟩
        rw [hn, hm] at hfin
        rw [hn, hm] at hfew
        have hw2 : IntKind.i64.wrap (2 * (n : Int)) = 2 * (n : Int) := by rw [IntKind.wrap_i64]; omega
        have hI0 := hI.inn
        obtain ⟨a0, cap, g, rfl, ha0, hml, -, -⟩ := hI.view
        rw [pI_length, hn] at hI ⊢
        rw [pI_length, hn] at hI0
        have HI := Lib.hid hI0
        clear ha0 hml hI0
        by_cases h2 : m = 2 * n
        · rw [if_pos h2] at hfin
          have HYES := Lib.hid hfin
          have hne : ((m : Int) != 2 * (n : Int)) = false := by simp; omega
          clear hfin hI hn
          go_wp2
          exact bodyPost_ret (v := .tuple #[.agg #[.slice a0 n cap, .string t], .bool true]) (by simp [results, Try.results57, go_sem, *]) rfl (.inl ⟨ps, .slice a0 n cap, HYES.out, rfl, by (have hk := (HI.out.keep (w' := (wr.setCell ⟨w.heap.size, 0, none⟩ (.slice a0 n cap)).setCell ⟨w.heap.size, 1, none⟩ (.string t)) (fun k a b => (heap_setCell_other _ _ _ _ (by simp; omega)).trans (heap_setCell_other _ _ _ _ (by simp; omega)))).wider (B' := w.heap.size) (T' := wr.heap.size) (by omega) (Nat.le_refl _)); (first | exact hk | (simp only [World.size_setCell]; exact hk)), Below.trans HB0.out (by go_grown)⟩)
        · rw [if_neg h2] at hfin
          have HNO := Lib.hid hfin
          have hne : ((m : Int) != 2 * (n : Int)) = true := by simp; omega
          clear hfin hI hn
          go_wp2
          exact bodyPost_ret (v := .tuple #[.agg #[.slice none 0 0, .string ⟨#[]⟩], .bool false]) (by simp [results, Try.results57, go_sem, *]) rfl (.inr ⟨HNO.out, rfl, by first | exact HB0.out | exact bdn HB0.out _ | exact Below.trans (bdn HB0.out nq) (by go_grown) | exact Below.trans HB0.out (by go_grown) | (go_grown; done)⟩)

end Go.Proofs.Ytpcebcgmbngabab
