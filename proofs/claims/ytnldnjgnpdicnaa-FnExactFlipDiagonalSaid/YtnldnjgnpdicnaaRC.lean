/- Regions: the part of a region on one side of its first chord, by the program. -/
import Derived.Test.YtnldnjgnpdicnaaRB
import Derived.Test.YtnldnjgnpdicnaaBA
import Derived.Laws.ResultCell
namespace Go.Proofs.Ytnldnjgnpdicnaa
open Go.RowKit
set_option linter.unusedVariables false

theorem Pairs.capR {w : World} {B n cap : Nat} {a : Option Addr} {e : TypeId} {xs : List (Int × Int)} (h : Pairs w B e (.slice a n cap) xs) : xs.length ≤ cap ∧ cap ≤ maxLen := by
  obtain ⟨hl, ⟨hv, hn⟩ | ⟨g, c, cur, hv, hB, hg, hn, hm, hs, ht⟩⟩ := h
  · cases hv
    exact ⟨by omega, by unfold maxLen; omega⟩
  · cases hv
    exact ⟨hn, hm⟩

theorem getD_drop1 {α : Type} (xs : List α) (z : α) (k : Nat) : (xs.drop 1).getD k z = xs.getD (k + 1) z := by
  rw [List.getD_eq_getElem?_getD, List.getElem?_drop, ← List.getD_eq_getElem?_getD, Nat.add_comm]

theorem Boxes.out {w wr : World} {X U V Y : Value} (h : Boxes w wr X U V Y) (u v : Value) : ((wr.setCell ⟨w.heap.size + 1, 0, none⟩ u).setCell ⟨w.heap.size + 1, 1, none⟩ v).heap[w.heap.size + 1]? = some (.cells #[u, v] 140 (0, 0)) := by
  have h1 := (heap_setCell_same wr (w.heap.size + 1) 0 _ _ u h.o).trans (by simp : _ = some (Obj.cells #[u, .slice none 0 0] 140 (0, 0)))
  exact (heap_setCell_same _ (w.heap.size + 1) 1 _ _ v h1).trans (by simp)

theorem PairsIn.nilR (e : TypeId) (w : World) (B T : Nat) : PairsIn e w B T (.slice none 0 0) [] := ⟨World.ownsRow_nil _ _ _ _, fun k hk => by cases hk⟩
theorem Pairs.laterR {w w' : World} {B : Nat} {e : TypeId} {v : Value} {xs : List (Int × Int)} (h : Pairs w B e v xs) (hb : Below w.heap.size w w') : Pairs w' B e v xs :=
  World.ownsRow.kept h (Below.by hb) (by cases hv : v.ownBlock with | none => exact .inl rfl | some k => exact .inr (by simp))

set_option maxHeartbeats 4000000 in
set_option maxRecDepth 100000 in
theorem part_in (a0 b0 : Option Addr) (ca cb : Nat) (pts : List Int) (cs : List (Int × Int)) (x y : Int) (gc T : Nat) (w : World)
    (hI : IntsIn 3 w 0 T (.slice a0 pts.length ca) pts) (hP : PairsIn 52 w 0 T (.slice b0 cs.length cb) cs) (hT : T ≤ w.heap.size) (h0 : w.cell? ⟨gc, 0, none⟩ = some (.int .i64 x)) (h1 : w.cell? ⟨gc, 1, none⟩ = some (.int .i64 y))
    (hcs : 0 < cs.length) (hn : pts.length ≤ 60) (hm : cs.length ≤ 40) :
    Calls Try.prog 134 #[.agg #[.slice a0 pts.length ca, .slice b0 cs.length cb], .func (.func 135) #[] #[.pointer (some ⟨gc, 0, none⟩)]] w fun e w' =>
      ∃ u v, e = .returned (.agg #[u, v]) ∧ IntsIn 3 w' w.heap.size w'.heap.size u (pts.filter (inS (x, y))) ∧ PairsIn 52 w' w.heap.size w'.heap.size v ((cs.drop 1).filter fun d => inS (x, y) d.1 && inS (x, y) d.2) ∧ Below w.heap.size w w' := by
  have hgc := World.block_lt_of_cell? w _ h0
  simp only at hgc
  obtain ⟨a1, c1, g1, hv1, ha1, _, _, hB1, hc1, _⟩ := hI.1.view
  obtain ⟨rfl, _, rfl⟩ : a0 = a1 ∧ pts.length = pts.length ∧ ca = c1 := by simpa using hv1
  obtain ⟨a2, c2, g2, hv2, ha2, hmm2, hx2, hy2⟩ := hP.pairs.view
  obtain ⟨rfl, _, rfl⟩ : b0 = a2 ∧ cs.length = cs.length ∧ cb = c2 := by simpa using hv2
  obtain rfl := ha2 hcs
  obtain ⟨hcap1, hcap2⟩ := hP.1.capR
  have HC := Lib.hid hc1
  have HA1 := Lib.hid ha1
  have X2 := Lib.hid hx2
  have Y2 := Lib.hid hy2
  have HH0 := Lib.hid h0
  have HH1 := Lib.hid h1
  have hbx := heap_three w (.cells #[.slice a0 pts.length ca, .slice (some ⟨g2, 0, none⟩) cs.length cb] 140) (.cells #[.slice none 0 0, .slice none 0 0] 140) (.cells #[.slice none 0 0, .slice none 0 0] 140)
  have HBX := Lib.hid (show Boxes w _ _ _ _ _ from ⟨hbx.1, hbx.2.1, hbx.2.2⟩)
  have hZ : w.heap.size + 1 + 1 + 1 = w.heap.size + 1 + 1 + 1 := rfl
  clear hI hP h0 h1 hc1 ha1 ha2 hx2 hy2 hv1 hv2 hbx hmm2 hB1 hcap2
  go_enter Try.func134, Try.ntmps134
  go_wp2
  go_loopw [13] (fun i wr => ∃ (k un uc : Nat) (ua : Option Addr), k ≤ pts.length ∧ i = .int .i64 k ∧ Boxes w wr (.slice a0 pts.length ca) (.slice ua un uc) (.slice none 0 0) (.slice (some ⟨g2, 0, none⟩) cs.length cb) ∧ Ints wr (w.heap.size + 1 + 1 + 1) 3 (.slice ua un uc) ((pts.take k).filter (inS (x, y))) ∧ Below w.heap.size w wr) (fun i _ => pts.length - (intOf i).toNat)
  case atStart => exact ⟨0, 0, 0, none, by omega, rfl, HBX.out, World.ownsRow_nil _ _ _ _, by go_grown⟩
  case round =>
    obtain ⟨k, un, uc, ua, hk, rfl, hBo, hI, hB⟩ := hrel
    have hz := hB.size
    have hlt3 := hBo.lt
    have HBo := Lib.hid hBo
    have HI := Lib.hid hI
    by_cases hlt : k < pts.length
    · obtain rfl := HA1.out (by omega)
      obtain ⟨p, hp⟩ : ∃ p, pts.getD k 0 = p := ⟨_, rfl⟩
      have cp : wr.cell? ⟨g1, k, none⟩ = some (.int .i64 p) := (hB.cell (p := ⟨g1, k, none⟩) (World.block_lt_of_cell? w _ (HC.out k hlt))).trans ((HC.out k hlt).trans (by rw [hp]))
      have C0 := Lib.hid (cellB hB HH0.out)
      have C1 := Lib.hid (cellB hB HH1.out)
      obtain ⟨u0, u1, u2, u3, u4, u5⟩ := hBo.cells
      obtain ⟨f1, f2, f3, f4⟩ := hBo.frozen
      have hflen : ((pts.take k).filter (inS (x, y))).length ≤ 60 := Nat.le_trans (List.length_filter_le _ _) (by rw [List.length_take]; omega)
      obtain ⟨bb, hbb⟩ : ∃ b, inS (x, y) p = b := ⟨_, rfl⟩
      have HFB := Lib.hid hbb
      cases bb
      · have HST := Lib.hid (filter_take_no (inS (x, y)) pts 0 k hlt (by rw [hp]; exact hbb))
        clear hp hbb hBo hI
        go_wp2_with (first | (go_at_call 135; (with_reducible refine (side_in x y p gc _ _ C0.out C1.out HFB.out).mono ?_); rintro e w1 ⟨rfl, rfl⟩))
        go_roundw
        case rel => exact ⟨k + 1, un, uc, ua, by omega, by go_num, HBo.out, by rw [HST.out]; exact HI.out, hB⟩
        case measure => simp [intOf]; omega
      · have HST := Lib.hid ((filter_take_yes (inS (x, y)) pts 0 k hlt (by rw [hp]; exact hbb)).trans (by rw [hp]))
        clear hp hbb hBo hI
        go_wp2_with (first | (go_at_call 135; (with_reducible refine (side_in x y p gc _ _ C0.out C1.out HFB.out).mono ?_); rintro e w1 ⟨rfl, rfl⟩) | (at_builtin; refine wpList_append_int rfl _ _ 33 rfl (w.heap.size + 1 + 1 + 1) 3 Try.underlying33 info_intR _ _ rfl HI.out p rfl (by omega) (by omega) ?_; intro v' w' hI' hg'; go_loud ((have hB2 : Below w.heap.size w w' := hB.grown hg' hz (fun j hj => by have := (HI.out.own j hj).1; omega)); (have hbo := HBo.out.grown hg' (fun j hj => by have := (HI.out.own j hj).1; omega)); obtain ⟨va, vc, rfl⟩ := hI'.openedR; (obtain ⟨vn, hvn⟩ : ∃ n, n = ((pts.take k).filter (inS (x, y)) ++ [p]).length := ⟨_, rfl⟩); rw [← hvn] at hI' ⊢; (obtain ⟨t0, t1, t2, t3, t4, t5⟩ := hbo.cells); (obtain ⟨g3, g4, g5, g6⟩ := hbo.frozen); (have HI' := Lib.hid hI'); (have HBO := Lib.hid hbo); clear hI' hbo hvn)))
        go_roundw
        case rel => exact ⟨k + 1, vn, vc, va, by omega, by go_num, HBO.out.put0 _, by rw [HST.out]; exact HI'.out.put (by omega), hB2.setCell (by simp; omega) _⟩
        case measure => simp [intOf]; omega
    · obtain rfl : k = pts.length := by omega
      rw [List.take_length] at hI HI
      have hUo : ∀ q, (Value.slice ua un uc).ownBlock = some q → q < wr.heap.size := fun q hq => (hI.own q hq).2
      obtain ⟨u0, u1, u2, u3, u4, u5⟩ := hBo.cells
      obtain ⟨f1, f2, f3, f4⟩ := hBo.frozen
      have l1 : (1 : Int) ≤ (cs.length : Int) := by omega
      have l2 : (cs.length : Int) ≤ (cb : Int) := by omega
      have l3 : (1 : Int) ≤ (cb : Int) := by omega
      have hw1 : IntKind.i64.wrap ((cs.length : Int) - 1) = (cs.length : Int) - 1 := by rw [IntKind.wrap_i64]; omega
      have e1 : ((cs.length : Int) - 1).toNat = cs.length - 1 := by omega
      have e2 : ((cb : Int) - 1).toNat = cb - 1 := by omega
      have HUO := Lib.hid (show ∀ row : Option Nat, (∀ q, row = some q → wr.heap.size ≤ q) → (Value.slice ua un uc).ownBlock = none ∨ (Value.slice ua un uc).ownBlock ≠ row from fun row hr => by
        cases hv : (Value.slice ua un uc).ownBlock with
        | none => exact .inl rfl
        | some b => exact .inr fun e => by have h1 := hUo b hv; have h2 := hr b e.symm; omega)
      have HIR := Lib.hid (show (Try.prog.info? 140).map (·.size) = some (#[Value.slice ua un uc, Value.slice ua un uc] : Array Value).size from by kernel_rfl)
      clear hBo hI
      obtain ⟨wo, rfl⟩ : ∃ z, z = wr := ⟨wr, rfl⟩
      by_cases hc1 : cb = 1
      · subst hc1
        obtain ⟨d, rfl⟩ : ∃ d, cs = [d] := List.length_eq_one_iff.1 (by omega)
        go_wp2
        go_loopw [31] (fun i w2 => i = .int .i64 0 ∧ w2 = wo) (fun _ _ => 0)
        case atStart => exact ⟨rfl, rfl⟩
        case round =>
          obtain ⟨rfl, rfl⟩ := hrel
          go_wp2
          have hBF := HBo.out.out (.slice ua un uc) (.slice none 0 0)
          exact bodyPost_ret (results_cell_row (P := Try.prog) (fn := Try.f134) (p := 4) (ty := 140) rfl _ _ (w.heap.size + 1) _ _ _ _ rfl hBF Try.underlying140 rfl HIR.out) rfl ⟨_, _, rfl, ⟨((HI.out.put (by omega)).put (by omega)).mono (by omega), fun q hq => by have := hUo q hq; simp; omega⟩, PairsIn.nilR _ _ _ _, (hB.setCell (by simp) _).setCell (by simp) _⟩
      · obtain ⟨m, hm'⟩ : ∃ m, cs.length - 1 = m := ⟨_, rfl⟩
        go_wp2
        go_loopw [31] (fun i w2 => ∃ (k vn vc : Nat) (va : Option Addr), k ≤ m ∧ i = .int .i64 k ∧ Boxes w w2 (.slice a0 pts.length ca) (.slice ua un uc) (.slice va vn vc) (.slice (some ⟨g2, 0, none⟩) cs.length cb) ∧ Ints w2 (w.heap.size + 1 + 1 + 1) 3 (.slice ua un uc) (pts.filter (inS (x, y))) ∧ Pairs w2 wo.heap.size 52 (.slice va vn vc) (((cs.drop 1).take k).filter fun d => inS (x, y) d.1 && inS (x, y) d.2) ∧ Below w.heap.size w w2 ∧ wo.heap.size ≤ w2.heap.size) (fun i _ => m - (intOf i).toNat)
        case atStart => exact ⟨0, 0, 0, none, by omega, rfl, HBo.out, HI.out, World.ownsRow_nil _ _ _ _, hB, Nat.le_refl _⟩
        case round =>
          obtain ⟨w2, rfl⟩ : ∃ z, z = wr := ⟨wr, rfl⟩
          obtain ⟨k, vn, vc, va, hk2, rfl, hBo2, hI2, hP2, hB2, hz2⟩ := hrel
          have hlt4 := hBo2.lt
          obtain ⟨s0, s1, s2, s3, s4, s5⟩ := hBo2.cells
          obtain ⟨q1, q2, q3, q4⟩ := hBo2.frozen
          have HBo2 := Lib.hid hBo2
          have HI2 := Lib.hid hI2
          have HP2 := Lib.hid hP2
          clear hBo2 hI2 hP2 u0 u1 u2 u3 u4 u5 f1 f2 f3 f4
          by_cases hlt2 : k < m
          · obtain ⟨a, b, hab⟩ : ∃ a b, cs.getD (k + 1) (0, 0) = (a, b) := ⟨_, _, rfl⟩
            have ca1 := X2.out (k + 1) (by omega)
            have cb1 := Y2.out (k + 1) (by omega)
            rw [hab] at ca1 cb1
            simp only at ca1 cb1
            have da : w2.cell? ⟨g2, 2 + k * 2, none⟩ = some (.int .i64 a) := by rw [show 2 + k * 2 = (k + 1) * 2 by omega]; exact (hB2.cell (p := ⟨g2, (k + 1) * 2, none⟩) (World.block_lt_of_cell? w _ ca1)).trans ca1
            have db : w2.cell? ⟨g2, 2 + k * 2 + 1, none⟩ = some (.int .i64 b) := by rw [show 2 + k * 2 + 1 = (k + 1) * 2 + 1 by omega]; exact (hB2.cell (p := ⟨g2, (k + 1) * 2 + 1, none⟩) (World.block_lt_of_cell? w _ cb1)).trans cb1
            have hel : (cs.drop 1).getD k (0, 0) = (a, b) := by rw [getD_drop1, hab]
            have hdl : k < (cs.drop 1).length := by rw [List.length_drop]; omega
            have hplen : (((cs.drop 1).take k).filter fun d => inS (x, y) d.1 && inS (x, y) d.2).length ≤ 40 := Nat.le_trans (List.length_filter_le _ _) (by rw [List.length_take, List.length_drop]; omega)
            have D0 := Lib.hid (show (w2.alloc (.cells #[.int .i64 a, .int .i64 b] 52)).cell? ⟨gc, 0, none⟩ = _ from cellB (by go_grown) (cellB hB2 HH0.out))
            have D1 := Lib.hid (show (w2.alloc (.cells #[.int .i64 a, .int .i64 b] 52)).cell? ⟨gc, 1, none⟩ = _ from cellB (by go_grown) (cellB hB2 HH1.out))
            obtain ⟨fa, hfa⟩ : ∃ t, inS (x, y) a = t := ⟨_, rfl⟩
            obtain ⟨fb, hfb⟩ : ∃ t, inS (x, y) b = t := ⟨_, rfl⟩
            have HFA := Lib.hid hfa
            have HFB := Lib.hid hfb
            have HBa := Lib.hid (HBo2.out.later (w' := w2.alloc (.cells #[.int .i64 a, .int .i64 b] 52)) (by go_grown))
            have k0 : (k : Int) < (m : Int) := by omega
            cases fa <;> cases fb
            case true.true =>
              have HST := Lib.hid ((filter_take_yes (fun d => inS (x, y) d.1 && inS (x, y) d.2) (cs.drop 1) (0, 0) k hdl (by rw [hel]; simp [hfa, hfb])).trans (by rw [hel]))
              clear hfa hfb hel hab ca1 cb1
              go_wp2_with (first | (go_at_call 135; (first | with_reducible refine (side_in x y a gc _ _ D0.out D1.out HFA.out).mono ?_ | with_reducible refine (side_in x y b gc _ _ D0.out D1.out HFB.out).mono ?_); rintro e w1 ⟨rfl, rfl⟩) | (at_builtin; go_loud ((refine wpList_append_pair rfl _ _ 24 rfl wo.heap.size 52 Try.underlying24 info_chordR _ _ rfl (HP2.out.laterR (w' := w2.alloc (.cells #[.int .i64 a, .int .i64 b] 52)) (by go_grown)) a b (by rw [World.size_alloc]; rfl) (by omega) (by rw [World.size_alloc]; omega) ?_); intro v' w' hP' hg'; (have hBW : Below w.heap.size w w' := Below.grown (hB2.trans (show Below w.heap.size w2 (w2.alloc (.cells #[.int .i64 a, .int .i64 b] 52)) from by go_grown)) hg' (by rw [World.size_alloc]; omega) (fun j hj => by have := (HP2.out.own j hj).1; omega)); (have hbo := HBa.out.grown hg' (fun j hj => by have := (HP2.out.own j hj).1; omega)); (have hiw : Ints w' (w.heap.size + 1 + 1 + 1) 3 (.slice ua un uc) (pts.filter (inS (x, y))) := World.ownsRow.kept (HI2.out.later (w' := w2.alloc (.cells #[.int .i64 a, .int .i64 b] 52)) (by go_grown)) hg' (HUO.out _ (fun q hq => (HP2.out.own q hq).1))); (have hsw := hg'.size); rw [World.size_alloc] at hsw; obtain ⟨va', wc, rfl⟩ := hP'.opened; (obtain ⟨wn, hwn⟩ : ∃ n, n = ((((cs.drop 1).take k).filter fun d => inS (x, y) d.1 && inS (x, y) d.2) ++ [(a, b)]).length := ⟨_, rfl⟩); rw [← hwn] at hP' ⊢; (obtain ⟨t0, t1, t2, t3, t4, t5⟩ := hbo.cells); (obtain ⟨g3, g4, g5, g6⟩ := hbo.frozen); (have HP' := Lib.hid hP'); (have HBO := Lib.hid hbo); (have HIW := Lib.hid hiw); clear hP' hbo hwn hiw)))
              go_roundw
              case rel => exact ⟨k + 1, wn, wc, va', by omega, by go_num, HBO.out.put1 _, HIW.out.put (by omega), by rw [HST.out]; exact HP'.out.put (by omega), hBW.setCell (by simp; omega) _, by simp; omega⟩
              case measure => simp [intOf]; omega
            all_goals
              have HST := Lib.hid (filter_take_no (fun d => inS (x, y) d.1 && inS (x, y) d.2) (cs.drop 1) (0, 0) k hdl (by rw [hel]; simp [hfa, hfb]))
              clear hfa hfb hel hab ca1 cb1
              go_wp2_with (first | (go_at_call 135; (first | with_reducible refine (side_in x y a gc _ _ D0.out D1.out HFA.out).mono ?_ | with_reducible refine (side_in x y b gc _ _ D0.out D1.out HFB.out).mono ?_); rintro e w1 ⟨rfl, rfl⟩))
              go_roundw
              case rel => exact ⟨k + 1, vn, vc, va, by omega, by go_num, HBa.out, HI2.out.later (by go_grown), by rw [HST.out]; exact HP2.out.laterR (by go_grown), hB2.trans (by go_grown), by simp; omega⟩
              case measure => simp [intOf]; omega
          · obtain rfl : k = m := by omega
            go_wp2
            have hBF := (HBo2.out).out (.slice ua un uc) (.slice va vn vc)
            have hfull : (cs.drop 1).take k = cs.drop 1 := List.take_of_length_le (by rw [List.length_drop]; omega)
            refine bodyPost_ret (results_cell_row (P := Try.prog) (fn := Try.f134) (p := 4) (ty := 140) rfl _ _ (w.heap.size + 1) _ _ _ _ rfl hBF Try.underlying140 rfl HIR.out) rfl ⟨_, _, rfl, ⟨((HI2.out.put (by omega)).put (by omega)).mono (by omega), fun q hq => by have := hUo q hq; simp; omega⟩, ⟨?_, fun q hq => by have := (HP2.out.own q hq).2; simp; omega⟩, (hB2.setCell (by simp) _).setCell (by simp) _⟩
            rw [← hfull]
            exact ((HP2.out.put (by omega)).put (by omega)).mono (by omega)

set_option maxHeartbeats 4000000 in
set_option maxRecDepth 100000 in
theorem part_out (a0 b0 : Option Addr) (ca cb : Nat) (pts : List Int) (cs : List (Int × Int)) (x y : Int) (gc T : Nat) (w : World)
    (hI : IntsIn 3 w 0 T (.slice a0 pts.length ca) pts) (hP : PairsIn 52 w 0 T (.slice b0 cs.length cb) cs) (hT : T ≤ w.heap.size) (h0 : w.cell? ⟨gc, 0, none⟩ = some (.int .i64 x)) (h1 : w.cell? ⟨gc, 1, none⟩ = some (.int .i64 y))
    (hcs : 0 < cs.length) (hn : pts.length ≤ 60) (hm : cs.length ≤ 40) :
    Calls Try.prog 134 #[.agg #[.slice a0 pts.length ca, .slice b0 cs.length cb], .func (.func 136) #[] #[.pointer (some ⟨gc, 0, none⟩)]] w fun e w' =>
      ∃ u v, e = .returned (.agg #[u, v]) ∧ IntsIn 3 w' w.heap.size w'.heap.size u (pts.filter (outS (x, y))) ∧ PairsIn 52 w' w.heap.size w'.heap.size v ((cs.drop 1).filter fun d => outS (x, y) d.1 && outS (x, y) d.2) ∧ Below w.heap.size w w' := by
  have hgc := World.block_lt_of_cell? w _ h0
  simp only at hgc
  obtain ⟨a1, c1, g1, hv1, ha1, _, _, hB1, hc1, _⟩ := hI.1.view
  obtain ⟨rfl, _, rfl⟩ : a0 = a1 ∧ pts.length = pts.length ∧ ca = c1 := by simpa using hv1
  obtain ⟨a2, c2, g2, hv2, ha2, hmm2, hx2, hy2⟩ := hP.pairs.view
  obtain ⟨rfl, _, rfl⟩ : b0 = a2 ∧ cs.length = cs.length ∧ cb = c2 := by simpa using hv2
  obtain rfl := ha2 hcs
  obtain ⟨hcap1, hcap2⟩ := hP.1.capR
  have HC := Lib.hid hc1
  have HA1 := Lib.hid ha1
  have X2 := Lib.hid hx2
  have Y2 := Lib.hid hy2
  have HH0 := Lib.hid h0
  have HH1 := Lib.hid h1
  have hbx := heap_three w (.cells #[.slice a0 pts.length ca, .slice (some ⟨g2, 0, none⟩) cs.length cb] 140) (.cells #[.slice none 0 0, .slice none 0 0] 140) (.cells #[.slice none 0 0, .slice none 0 0] 140)
  have HBX := Lib.hid (show Boxes w _ _ _ _ _ from ⟨hbx.1, hbx.2.1, hbx.2.2⟩)
  have hZ : w.heap.size + 1 + 1 + 1 = w.heap.size + 1 + 1 + 1 := rfl
  clear hI hP h0 h1 hc1 ha1 ha2 hx2 hy2 hv1 hv2 hbx hmm2 hB1 hcap2
  go_enter Try.func134, Try.ntmps134
  go_wp2
  go_loopw [13] (fun i wr => ∃ (k un uc : Nat) (ua : Option Addr), k ≤ pts.length ∧ i = .int .i64 k ∧ Boxes w wr (.slice a0 pts.length ca) (.slice ua un uc) (.slice none 0 0) (.slice (some ⟨g2, 0, none⟩) cs.length cb) ∧ Ints wr (w.heap.size + 1 + 1 + 1) 3 (.slice ua un uc) ((pts.take k).filter (outS (x, y))) ∧ Below w.heap.size w wr) (fun i _ => pts.length - (intOf i).toNat)
  case atStart => exact ⟨0, 0, 0, none, by omega, rfl, HBX.out, World.ownsRow_nil _ _ _ _, by go_grown⟩
  case round =>
    obtain ⟨k, un, uc, ua, hk, rfl, hBo, hI, hB⟩ := hrel
    have hz := hB.size
    have hlt3 := hBo.lt
    have HBo := Lib.hid hBo
    have HI := Lib.hid hI
    by_cases hlt : k < pts.length
    · obtain rfl := HA1.out (by omega)
      obtain ⟨p, hp⟩ : ∃ p, pts.getD k 0 = p := ⟨_, rfl⟩
      have cp : wr.cell? ⟨g1, k, none⟩ = some (.int .i64 p) := (hB.cell (p := ⟨g1, k, none⟩) (World.block_lt_of_cell? w _ (HC.out k hlt))).trans ((HC.out k hlt).trans (by rw [hp]))
      have C0 := Lib.hid (cellB hB HH0.out)
      have C1 := Lib.hid (cellB hB HH1.out)
      obtain ⟨u0, u1, u2, u3, u4, u5⟩ := hBo.cells
      obtain ⟨f1, f2, f3, f4⟩ := hBo.frozen
      have hflen : ((pts.take k).filter (outS (x, y))).length ≤ 60 := Nat.le_trans (List.length_filter_le _ _) (by rw [List.length_take]; omega)
      obtain ⟨bb, hbb⟩ : ∃ b, outS (x, y) p = b := ⟨_, rfl⟩
      have HFB := Lib.hid hbb
      cases bb
      · have HST := Lib.hid (filter_take_no (outS (x, y)) pts 0 k hlt (by rw [hp]; exact hbb))
        clear hp hbb hBo hI
        go_wp2_with (first | (go_at_call 136; (with_reducible refine (side_out x y p gc _ _ C0.out C1.out HFB.out).mono ?_); rintro e w1 ⟨rfl, rfl⟩))
        go_roundw
        case rel => exact ⟨k + 1, un, uc, ua, by omega, by go_num, HBo.out, by rw [HST.out]; exact HI.out, hB⟩
        case measure => simp [intOf]; omega
      · have HST := Lib.hid ((filter_take_yes (outS (x, y)) pts 0 k hlt (by rw [hp]; exact hbb)).trans (by rw [hp]))
        clear hp hbb hBo hI
        go_wp2_with (first | (go_at_call 136; (with_reducible refine (side_out x y p gc _ _ C0.out C1.out HFB.out).mono ?_); rintro e w1 ⟨rfl, rfl⟩) | (at_builtin; refine wpList_append_int rfl _ _ 33 rfl (w.heap.size + 1 + 1 + 1) 3 Try.underlying33 info_intR _ _ rfl HI.out p rfl (by omega) (by omega) ?_; intro v' w' hI' hg'; go_loud ((have hB2 : Below w.heap.size w w' := hB.grown hg' hz (fun j hj => by have := (HI.out.own j hj).1; omega)); (have hbo := HBo.out.grown hg' (fun j hj => by have := (HI.out.own j hj).1; omega)); obtain ⟨va, vc, rfl⟩ := hI'.openedR; (obtain ⟨vn, hvn⟩ : ∃ n, n = ((pts.take k).filter (outS (x, y)) ++ [p]).length := ⟨_, rfl⟩); rw [← hvn] at hI' ⊢; (obtain ⟨t0, t1, t2, t3, t4, t5⟩ := hbo.cells); (obtain ⟨g3, g4, g5, g6⟩ := hbo.frozen); (have HI' := Lib.hid hI'); (have HBO := Lib.hid hbo); clear hI' hbo hvn)))
        go_roundw
        case rel => exact ⟨k + 1, vn, vc, va, by omega, by go_num, HBO.out.put0 _, by rw [HST.out]; exact HI'.out.put (by omega), hB2.setCell (by simp; omega) _⟩
        case measure => simp [intOf]; omega
    · obtain rfl : k = pts.length := by omega
      rw [List.take_length] at hI HI
      have hUo : ∀ q, (Value.slice ua un uc).ownBlock = some q → q < wr.heap.size := fun q hq => (hI.own q hq).2
      obtain ⟨u0, u1, u2, u3, u4, u5⟩ := hBo.cells
      obtain ⟨f1, f2, f3, f4⟩ := hBo.frozen
      have l1 : (1 : Int) ≤ (cs.length : Int) := by omega
      have l2 : (cs.length : Int) ≤ (cb : Int) := by omega
      have l3 : (1 : Int) ≤ (cb : Int) := by omega
      have hw1 : IntKind.i64.wrap ((cs.length : Int) - 1) = (cs.length : Int) - 1 := by rw [IntKind.wrap_i64]; omega
      have e1 : ((cs.length : Int) - 1).toNat = cs.length - 1 := by omega
      have e2 : ((cb : Int) - 1).toNat = cb - 1 := by omega
      have HUO := Lib.hid (show ∀ row : Option Nat, (∀ q, row = some q → wr.heap.size ≤ q) → (Value.slice ua un uc).ownBlock = none ∨ (Value.slice ua un uc).ownBlock ≠ row from fun row hr => by
        cases hv : (Value.slice ua un uc).ownBlock with
        | none => exact .inl rfl
        | some b => exact .inr fun e => by have h1 := hUo b hv; have h2 := hr b e.symm; omega)
      have HIR := Lib.hid (show (Try.prog.info? 140).map (·.size) = some (#[Value.slice ua un uc, Value.slice ua un uc] : Array Value).size from by kernel_rfl)
      clear hBo hI
      obtain ⟨wo, rfl⟩ : ∃ z, z = wr := ⟨wr, rfl⟩
      by_cases hc1 : cb = 1
      · subst hc1
        obtain ⟨d, rfl⟩ : ∃ d, cs = [d] := List.length_eq_one_iff.1 (by omega)
        go_wp2
        go_loopw [31] (fun i w2 => i = .int .i64 0 ∧ w2 = wo) (fun _ _ => 0)
        case atStart => exact ⟨rfl, rfl⟩
        case round =>
          obtain ⟨rfl, rfl⟩ := hrel
          go_wp2
          have hBF := HBo.out.out (.slice ua un uc) (.slice none 0 0)
          exact bodyPost_ret (results_cell_row (P := Try.prog) (fn := Try.f134) (p := 4) (ty := 140) rfl _ _ (w.heap.size + 1) _ _ _ _ rfl hBF Try.underlying140 rfl HIR.out) rfl ⟨_, _, rfl, ⟨((HI.out.put (by omega)).put (by omega)).mono (by omega), fun q hq => by have := hUo q hq; simp; omega⟩, PairsIn.nilR _ _ _ _, (hB.setCell (by simp) _).setCell (by simp) _⟩
      · obtain ⟨m, hm'⟩ : ∃ m, cs.length - 1 = m := ⟨_, rfl⟩
        go_wp2
        go_loopw [31] (fun i w2 => ∃ (k vn vc : Nat) (va : Option Addr), k ≤ m ∧ i = .int .i64 k ∧ Boxes w w2 (.slice a0 pts.length ca) (.slice ua un uc) (.slice va vn vc) (.slice (some ⟨g2, 0, none⟩) cs.length cb) ∧ Ints w2 (w.heap.size + 1 + 1 + 1) 3 (.slice ua un uc) (pts.filter (outS (x, y))) ∧ Pairs w2 wo.heap.size 52 (.slice va vn vc) (((cs.drop 1).take k).filter fun d => outS (x, y) d.1 && outS (x, y) d.2) ∧ Below w.heap.size w w2 ∧ wo.heap.size ≤ w2.heap.size) (fun i _ => m - (intOf i).toNat)
        case atStart => exact ⟨0, 0, 0, none, by omega, rfl, HBo.out, HI.out, World.ownsRow_nil _ _ _ _, hB, Nat.le_refl _⟩
        case round =>
          obtain ⟨w2, rfl⟩ : ∃ z, z = wr := ⟨wr, rfl⟩
          obtain ⟨k, vn, vc, va, hk2, rfl, hBo2, hI2, hP2, hB2, hz2⟩ := hrel
          have hlt4 := hBo2.lt
          obtain ⟨s0, s1, s2, s3, s4, s5⟩ := hBo2.cells
          obtain ⟨q1, q2, q3, q4⟩ := hBo2.frozen
          have HBo2 := Lib.hid hBo2
          have HI2 := Lib.hid hI2
          have HP2 := Lib.hid hP2
          clear hBo2 hI2 hP2 u0 u1 u2 u3 u4 u5 f1 f2 f3 f4
          by_cases hlt2 : k < m
          · obtain ⟨a, b, hab⟩ : ∃ a b, cs.getD (k + 1) (0, 0) = (a, b) := ⟨_, _, rfl⟩
            have ca1 := X2.out (k + 1) (by omega)
            have cb1 := Y2.out (k + 1) (by omega)
            rw [hab] at ca1 cb1
            simp only at ca1 cb1
            have da : w2.cell? ⟨g2, 2 + k * 2, none⟩ = some (.int .i64 a) := by rw [show 2 + k * 2 = (k + 1) * 2 by omega]; exact (hB2.cell (p := ⟨g2, (k + 1) * 2, none⟩) (World.block_lt_of_cell? w _ ca1)).trans ca1
            have db : w2.cell? ⟨g2, 2 + k * 2 + 1, none⟩ = some (.int .i64 b) := by rw [show 2 + k * 2 + 1 = (k + 1) * 2 + 1 by omega]; exact (hB2.cell (p := ⟨g2, (k + 1) * 2 + 1, none⟩) (World.block_lt_of_cell? w _ cb1)).trans cb1
            have hel : (cs.drop 1).getD k (0, 0) = (a, b) := by rw [getD_drop1, hab]
            have hdl : k < (cs.drop 1).length := by rw [List.length_drop]; omega
            have hplen : (((cs.drop 1).take k).filter fun d => outS (x, y) d.1 && outS (x, y) d.2).length ≤ 40 := Nat.le_trans (List.length_filter_le _ _) (by rw [List.length_take, List.length_drop]; omega)
            have D0 := Lib.hid (show (w2.alloc (.cells #[.int .i64 a, .int .i64 b] 52)).cell? ⟨gc, 0, none⟩ = _ from cellB (by go_grown) (cellB hB2 HH0.out))
            have D1 := Lib.hid (show (w2.alloc (.cells #[.int .i64 a, .int .i64 b] 52)).cell? ⟨gc, 1, none⟩ = _ from cellB (by go_grown) (cellB hB2 HH1.out))
            obtain ⟨fa, hfa⟩ : ∃ t, outS (x, y) a = t := ⟨_, rfl⟩
            obtain ⟨fb, hfb⟩ : ∃ t, outS (x, y) b = t := ⟨_, rfl⟩
            have HFA := Lib.hid hfa
            have HFB := Lib.hid hfb
            have HBa := Lib.hid (HBo2.out.later (w' := w2.alloc (.cells #[.int .i64 a, .int .i64 b] 52)) (by go_grown))
            have k0 : (k : Int) < (m : Int) := by omega
            cases fa <;> cases fb
            case true.true =>
              have HST := Lib.hid ((filter_take_yes (fun d => outS (x, y) d.1 && outS (x, y) d.2) (cs.drop 1) (0, 0) k hdl (by rw [hel]; simp [hfa, hfb])).trans (by rw [hel]))
              clear hfa hfb hel hab ca1 cb1
              go_wp2_with (first | (go_at_call 136; (first | with_reducible refine (side_out x y a gc _ _ D0.out D1.out HFA.out).mono ?_ | with_reducible refine (side_out x y b gc _ _ D0.out D1.out HFB.out).mono ?_); rintro e w1 ⟨rfl, rfl⟩) | (at_builtin; go_loud ((refine wpList_append_pair rfl _ _ 24 rfl wo.heap.size 52 Try.underlying24 info_chordR _ _ rfl (HP2.out.laterR (w' := w2.alloc (.cells #[.int .i64 a, .int .i64 b] 52)) (by go_grown)) a b (by rw [World.size_alloc]; rfl) (by omega) (by rw [World.size_alloc]; omega) ?_); intro v' w' hP' hg'; (have hBW : Below w.heap.size w w' := Below.grown (hB2.trans (show Below w.heap.size w2 (w2.alloc (.cells #[.int .i64 a, .int .i64 b] 52)) from by go_grown)) hg' (by rw [World.size_alloc]; omega) (fun j hj => by have := (HP2.out.own j hj).1; omega)); (have hbo := HBa.out.grown hg' (fun j hj => by have := (HP2.out.own j hj).1; omega)); (have hiw : Ints w' (w.heap.size + 1 + 1 + 1) 3 (.slice ua un uc) (pts.filter (outS (x, y))) := World.ownsRow.kept (HI2.out.later (w' := w2.alloc (.cells #[.int .i64 a, .int .i64 b] 52)) (by go_grown)) hg' (HUO.out _ (fun q hq => (HP2.out.own q hq).1))); (have hsw := hg'.size); rw [World.size_alloc] at hsw; obtain ⟨va', wc, rfl⟩ := hP'.opened; (obtain ⟨wn, hwn⟩ : ∃ n, n = ((((cs.drop 1).take k).filter fun d => outS (x, y) d.1 && outS (x, y) d.2) ++ [(a, b)]).length := ⟨_, rfl⟩); rw [← hwn] at hP' ⊢; (obtain ⟨t0, t1, t2, t3, t4, t5⟩ := hbo.cells); (obtain ⟨g3, g4, g5, g6⟩ := hbo.frozen); (have HP' := Lib.hid hP'); (have HBO := Lib.hid hbo); (have HIW := Lib.hid hiw); clear hP' hbo hwn hiw)))
              go_roundw
              case rel => exact ⟨k + 1, wn, wc, va', by omega, by go_num, HBO.out.put1 _, HIW.out.put (by omega), by rw [HST.out]; exact HP'.out.put (by omega), hBW.setCell (by simp; omega) _, by simp; omega⟩
              case measure => simp [intOf]; omega
            all_goals
              have HST := Lib.hid (filter_take_no (fun d => outS (x, y) d.1 && outS (x, y) d.2) (cs.drop 1) (0, 0) k hdl (by rw [hel]; simp [hfa, hfb]))
              clear hfa hfb hel hab ca1 cb1
              go_wp2_with (first | (go_at_call 136; (first | with_reducible refine (side_out x y a gc _ _ D0.out D1.out HFA.out).mono ?_ | with_reducible refine (side_out x y b gc _ _ D0.out D1.out HFB.out).mono ?_); rintro e w1 ⟨rfl, rfl⟩))
              go_roundw
              case rel => exact ⟨k + 1, vn, vc, va, by omega, by go_num, HBa.out, HI2.out.later (by go_grown), by rw [HST.out]; exact HP2.out.laterR (by go_grown), hB2.trans (by go_grown), by simp; omega⟩
              case measure => simp [intOf]; omega
          · obtain rfl : k = m := by omega
            go_wp2
            have hBF := (HBo2.out).out (.slice ua un uc) (.slice va vn vc)
            have hfull : (cs.drop 1).take k = cs.drop 1 := List.take_of_length_le (by rw [List.length_drop]; omega)
            refine bodyPost_ret (results_cell_row (P := Try.prog) (fn := Try.f134) (p := 4) (ty := 140) rfl _ _ (w.heap.size + 1) _ _ _ _ rfl hBF Try.underlying140 rfl HIR.out) rfl ⟨_, _, rfl, ⟨((HI2.out.put (by omega)).put (by omega)).mono (by omega), fun q hq => by have := hUo q hq; simp; omega⟩, ⟨?_, fun q hq => by have := (HP2.out.own q hq).2; simp; omega⟩, (hB2.setCell (by simp) _).setCell (by simp) _⟩
            rw [← hfull]
            exact ((HP2.out.put (by omega)).put (by omega)).mono (by omega)

end Go.Proofs.Ytnldnjgnpdicnaa
