/- Regions: all of them, by the program: what waits in the channel. -/
import Derived.Test.YtnldnjgnpdicnaaRC
import Derived.Test.YtnldnjgnpdicnaaCI
import Derived.Test.YtnldnjgnpdicnaaRE
import Derived.Test.YtnldnjgnpdicnaaRG
import Derived.Test.YtnldnjgnpdicnaaA4
import Derived.Test.YtnldnjgnpdicnaaET
import Derived.Test.YtnldnjgnpdicnaaBA
namespace Go.Proofs.Ytnldnjgnpdicnaa
open Go.RowKit
set_option linter.unusedVariables false

theorem ownsRow_form {w : World} {B : Nat} {e : TypeId} {v : Value} {n : Nat} {vs : List Value} (h : w.ownsRow B e 1 v n vs) : ∃ a m c, v = .slice a m c := by
  rcases h.2 with ⟨hv, _⟩ | ⟨g, cap, cur, hv, _⟩
  · exact ⟨none, 0, 0, hv⟩
  · exact ⟨_, _, _, hv⟩

theorem mkChan_any (n : Nat) (hn : n ≤ 1000) (W : World) : (Instr.makeChan 138 (.int .i64 (n : Int))).run Try.prog W = .ok (.chan (some W.heap.size)) (W.alloc (.chan n #[] false 0 0 false)) := by
  have h : (Try.prog.info? 140).map (·.bytes) = some 48 := by kernel_rfl
  obtain ⟨i, hi, hb⟩ := Option.map_eq_some_iff.1 h
  have := Conc.run_makeChan (P := Try.prog) (w := W) Try.underlying138 hi .i64 n (by omega) (by rw [hb]; omega)
  simpa using this

set_option maxHeartbeats 400000 in
theorem allFn (k : Int) (w : World) : Calls Try.prog 133 #[.int .i64 k] w fun e w' => e = .returned (.bool true) ∧ Below w.heap.size w w' := by
  go_enter Try.func133, Try.ntmps133
  go_wp2
  go_ret
  exact ⟨rfl, Below.refl _ _⟩

set_option maxHeartbeats 1000000 in
theorem where_all (p : Nat) (w : World) (h : 3 ≤ p ∧ p ≤ 60) :
    Calls Try.prog 117 #[.int .i64 p, .func (.func 133) #[] #[]] w (GivesT w (selT (fun _ => true) p)) := by
  go_enter Try.func117, Try.ntmps117
  go_wp2
  go_loopw [5, 8] (fun u i wr => ∃ k : Nat, k ≤ p ∧ i = .int .i64 k ∧ Ints wr w.heap.size 3 u (selT (fun _ => true) k) ∧ Below w.heap.size w wr) (fun _ i _ => p - (intOf i).toNat)
  case atStart => exact ⟨0, by omega, rfl, World.ownsRow_nil _ _ _ _, Below.refl _ _⟩
  case round =>
    obtain ⟨k, hk, rfl, hI, hB⟩ := hrel
    have HI := Lib.hid hI
    have hz := hB.size
    clear hI
    by_cases hlt : k < p
    · have hlen := selT_length (fun _ => true) k
      have HS := Lib.hid (selT_yes (fun _ => true) k rfl)
      go_wp2_with (first
          | (go_at_call 133; (refine (allFn k _).mono ?_); rintro e w1 ⟨rfl, hb1⟩; have HI1 := Lib.hid (HI.out.later hb1); have hB1 := hB.trans (hb1.mono hz); have hz1 := hB1.size)
          | (at_builtin; refine wpList_append_int rfl _ _ 33 rfl (w.heap.size) 3 Try.underlying33 info_int _ _ rfl HI1.out (k : Int) rfl (by omega) (by omega) ?_; intro v' w' hI' hg'; have hB' := HI1.out.below hB1 hz1 hg'; rw [HS.out] at hI'; have HI' := Lib.hid hI'; clear hI'))
      go_roundw
      case rel => exact ⟨k + 1, by omega, by go_num, HI'.out, hB'⟩
      case measure => simp [intOf]; omega
    · obtain rfl : k = p := by omega
      go_wp2
      go_ret
      exact ⟨_, rfl, HI.out, hB⟩

set_option maxHeartbeats 4000000 in
set_option maxRecDepth 100000 in
theorem regions_any (n : Nat) (a0 : Option Addr) (cap : Nat) (xs : List (Int × Int)) (B T : Nat) (w : World) (h : PairsIn 52 w B T (.slice a0 xs.length cap) xs) (hT : T ≤ w.heap.size) (hg : goodC n xs) (hpl : allP xs xs.length = []) :
    Calls Try.prog 105 #[.agg #[.int .i64 n, .slice a0 xs.length cap]] w fun e w' => ∃ v yss, e = .returned v ∧ RowsIn 33 3 w' w.heap.size w'.heap.size v yss ∧ yss.Perm (regsF [selT (fun _ => true) n] xs) ∧ SortedL yss ∧ Below w.heap.size w w' := by
  have hn : 3 ≤ n ∧ n ≤ 60 := by have := hg.1; omega
  have hl := hg.2.1
  have ho := chord_order hg
  have HPL := Lib.hid (plane_of_good hg hpl)
  have hbo : ∀ d ∈ xs, bothR d (selT (fun _ => true) n) = true := fun d hd => by
    obtain ⟨k, hk, rfl⟩ := List.mem_iff_getElem.1 hd
    have := (hg.2.2 k hk).1
    rw [List.getD_eq_getElem?_getD, List.getElem?_eq_getElem hk, Option.getD_some] at this
    rw [bothR_iff]
    have hm : ∀ z : Int, 0 ≤ z → z < n → z ∈ selT (fun _ => true) n := fun z h0 h1 => by
      unfold selT
      refine List.mem_map.2 ⟨z.toNat, List.mem_filter.2 ⟨List.mem_range.2 (by omega), rfl⟩, by omega⟩
    exact ⟨hm _ (by omega) (by omega), hm _ (by omega) (by omega)⟩
  have HBO := Lib.hid hbo
  clear hbo
  have HH := Lib.hid h
  have HO := Lib.hid ho
  have hmk := mkChan_any (1 + xs.length) (by omega)
  rw [show ((1 + xs.length : Nat) : Int) = 1 + (xs.length : Int) by omega] at hmk
  clear h ho
  go_enter Try.func105, Try.ntmps105
  rw [hideC_eq (Code.region 5 _ _), hideC_eq (Code.region 6 _ _), hideC_eq (Code.region 12 _ _), hideC_eq (Code.region 13 _ _)]
  go_wp2_with (first | (go_at_call 132; (refine (countRegionsD n _ _ xs B T _ (HH.out.keep (belowSame (by go_grown) hT)) (Nat.le_trans hT (by simp)) HO.out (by omega)).mono ?_); rw [hpl]; rintro e w1 ⟨rfl, hb1⟩))
  have hB1 : Below w.heap.size w w1 := Below.trans (by go_grown) (hb1.mono (by simp))
  have c0 : w1.cell? ⟨w.heap.size, 0, none⟩ = some (.int .i64 n) := cellB hb1 (by go_simp)
  have c1 : w1.cell? ⟨w.heap.size, 1, none⟩ = some (.slice a0 xs.length cap) := cellB hb1 (by go_simp)
  have hz1 : w.heap.size < w1.heap.size := by have := hb1.size; simp at this; omega
  have z0 : (w1.alloc (.chan (1 + xs.length) #[] false 0 0 false)).cell? ⟨w.heap.size, 0, none⟩ = some (.int .i64 n) := cellB (by go_grown) c0
  have z1 : (w1.alloc (.chan (1 + xs.length) #[] false 0 0 false)).cell? ⟨w.heap.size, 1, none⟩ = some (.slice a0 xs.length cap) := cellB (by go_grown) c1
  have hch := heap_alloc_new w1 (.chan (1 + xs.length) #[] false 0 0 false)
  clear hb1 hmk
  refine wp_region_last_list (fun w' => w'.cell? ⟨w.heap.size, 0, none⟩ = some (.int .i64 n) ∧ w'.cell? ⟨w.heap.size, 1, none⟩ = some (.slice a0 xs.length cap)) (by kernel_rfl) (by decide +kernel) (by kernel_rfl) (by (try dsimp only); go_keep) (fun hHeld => ?_)
  simp only [List.dropLast, List.length_cons, List.length_nil, Nat.reduceAdd, Nat.zero_add]
  refine wpAnyH_take (i := 0) (v := ?v29) rfl (by kernel_rfl) (by kernel_rfl) (by kernel_rfl) (fun _ _ _ h => h) (Or.inl ⟨by rfl, ?hy29⟩) (by assumption) ?rest29
  case hy29 => (intro w hSw; (try dsimp only at hSw); go_simp; (try with_reducible rfl))
  simp only [Act.put, List.getElem_toArray, List.getElem_cons_zero, List.setIfInBounds_toArray, List.set_cons_zero, List.set_cons_succ]
  refine wpAnyH_take (i := 1) (v := ?v30) rfl (by kernel_rfl) (by kernel_rfl) (by kernel_rfl) (fun _ _ _ h => h) (Or.inl ⟨by rfl, ?hy30⟩) (by assumption) ?rest30
  case hy30 => (intro w hSw; (try dsimp only at hSw); go_simp; (try with_reducible rfl))
  simp only [Act.put, List.getElem_toArray, List.getElem_cons_zero, List.getElem_cons_succ, List.setIfInBounds_toArray, List.set_cons_zero, List.set_cons_succ]
  refine wpAnyH_take (i := 2) (v := ?v31) rfl (by kernel_rfl) (by kernel_rfl) (by kernel_rfl) (fun _ _ _ h => h) (Or.inl ⟨by rfl, ?hy31⟩) (by assumption) ?rest31
  case hy31 => (intro w hSw; (try dsimp only at hSw); go_simp; (try with_reducible rfl))
  simp only [Act.put, List.getElem_toArray, List.getElem_cons_zero, List.getElem_cons_succ, List.setIfInBounds_toArray, List.set_cons_zero, List.set_cons_succ]
  refine wpAnyH_take (i := 4) (v := ?v32) rfl (by kernel_rfl) (by kernel_rfl) (by kernel_rfl) (fun _ _ _ h => h) (Or.inl ⟨by rfl, ?hy32⟩) (by assumption) ?rest32
  case hy32 => (intro w hSw; (try dsimp only at hSw); go_simp; (try with_reducible rfl))
  simp only [Act.put, List.getElem_toArray, List.getElem_cons_zero, List.getElem_cons_succ, List.setIfInBounds_toArray, List.set_cons_zero, List.set_cons_succ]
  refine wpAnyH_take (i := 5) (v := ?v33) rfl (by kernel_rfl) (by kernel_rfl) (by kernel_rfl) (fun _ _ _ h => h) (Or.inl ⟨by rfl, ?hy33⟩) (by assumption) ?rest33
  case hy33 => (intro w hSw; (try dsimp only at hSw); go_simp; (try with_reducible rfl))
  simp only [Act.put, List.getElem_toArray, List.getElem_cons_zero, List.getElem_cons_succ, List.setIfInBounds_toArray, List.set_cons_zero, List.set_cons_succ]
  refine wpAnyH_ready (rs := [3]) (by kernel_rfl) (by simp) ?_
  refine AllReadyH.cons rfl (fun K hK => ?_) AllReadyH.nil
  simp only [List.getElem_toArray, List.getElem_cons_zero, List.getElem_cons_succ]
  go_simp
  go_at_call 117; (refine (where_all n _ hn).mono ?_); rintro e w2 ⟨ul, rfl, hI2, hb2⟩; (have d0 : w2.cell? ⟨w.heap.size, 0, none⟩ = some (.int .i64 n) := cellB hb2 (by go_simp)); (have d1 : w2.cell? ⟨w.heap.size, 1, none⟩ = some (.slice a0 xs.length cap) := cellB hb2 (by go_simp)); obtain ⟨ua, uc, rfl⟩ := hI2.openedR; (have hch2 : w2.heap[w1.heap.size]? = some (.chan (1 + xs.length) #[] false 0 0 false) := (hb2.block _ (by simp)).trans hch)
  go_wp2_with fail
  refine hK.out _ _ (by (try dsimp only); go_keep) (fun hHeld => ?_)
  clear hK K
  refine wpAnyH_take (i := 6) (v := ?v34) rfl (by kernel_rfl) (by kernel_rfl) (by kernel_rfl) (fun _ _ _ h => h) (Or.inl ⟨by rfl, ?hy34⟩) (by assumption) ?rest34
  case hy34 => (intro w hSw; (try dsimp only at hSw); go_simp; (try with_reducible rfl))
  simp only [Act.put, List.getElem_toArray, List.getElem_cons_zero, List.getElem_cons_succ, List.setIfInBounds_toArray, List.set_cons_zero, List.set_cons_succ]
  refine wpAnyH_done (by kernel_rfl) ?_ _
  show AtOps _ _ _ _ _ _
  refine AtOps.sendL (c := w1.heap.size) (cap := 1 + xs.length) (vs := []) (s := 0) (r := 0) (tm := false) (z := .tuple #[]) (v := .agg #[.slice ua (selT (fun x => true) n).length uc, .slice a0 xs.length cap]) (w₁ := w2) rfl rfl (by simp [go_sem, execOp, Conc.scase, Act.eval]) hch2 (by simp; omega) ?_
  refine AtOps.nil ?_
  have hsl := selT_length (fun _ => true) n
  have hz2 : w1.heap.size + 1 ≤ w2.heap.size := by have := hb2.size; simpa using this
  have hB2 : Below w.heap.size w w2 := hB1.trans (Below.trans (by go_grown) (hb2.mono (by simp; omega)))
  have HQ0 : QInv w (w2.setChan w1.heap.size (1 + xs.length) ([] ++ [.agg #[.slice ua (selT (fun x => true) n).length uc, .slice a0 xs.length cap]] : List Value).toArray false (0 + 1) 0 false) w1.heap.size (1 + xs.length) (.slice none 0 0) [] [] [⟨ua, uc, a0, cap, selT (fun _ => true) n, xs⟩] 1 0 (regsF [selT (fun _ => true) n] xs) := by
    have hkp := Kept.of_chan hch2 (1 + xs.length) ([] ++ [.agg #[.slice ua (selT (fun x => true) n).length uc, .slice a0 xs.length cap]] : List Value).toArray false (0 + 1) 0 false
    refine ⟨Conc.heap_setChan _ _ _ _ _ _ _ _ (by omega), fun e he => ?_, ⟨rfl, World.ownsRow_nil _ _ _ _, (fun k hk => by cases hk), (fun i hi => by simp at hi), (fun i j hi => by simp at hi)⟩, by simp, by simp, by simp, ?_, by omega, by rw [Conc.size_setChan]; omega⟩
    · simp at he
      subst he
      have hI3 : IntsIn 3 w2 w.heap.size w2.heap.size (.slice ua (selT (fun x => true) n).length uc) (selT (fun x => true) n) := ⟨hI2.mono (by simp; omega), fun k hk => (hI2.own k hk).2⟩
      have hP3 : PairsIn 52 w2 0 w2.heap.size (.slice a0 xs.length cap) xs := (HH.out.keep (belowSame hB2 hT)).wider (Nat.zero_le _) (by omega)
      exact OkE.kept (w := w) ⟨hI3, hP3, ⟨by simp only; omega, hl⟩, HPL.out, HBO.out⟩ hkp
    · exact Conc.below_setChan hB2 (by omega) _ _ _ _ _ _
  obtain ⟨all, hall⟩ : ∃ a, regsF [selT (fun _ => true) n] xs = a := ⟨_, rfl⟩
  rw [hall] at HQ0
  have HALL := Lib.hid hall
  have HQ0' := Lib.hid HQ0
  clear HQ0
  go_wp2
  go_loopw [4] (fun u wr => ∃ (um : Option Addr) (un uc : Nat) (vs : List Value) (xss : List (List Int)) (q : List QE) (s r : Nat), u = .slice um un uc ∧ QInv w wr w1.heap.size (1 + xs.length) u vs xss q s r all) (fun _ wr => muQ w1.heap.size wr)
  case atStart => exact ⟨none, 0, 0, [], [], _, 1, 0, rfl, HQ0'.out⟩
  case round =>
    obtain ⟨um, un, uc', vs, xss, q, s, r, rfl, hQ⟩ := hrel
    have HQ := Lib.hid hQ
    have hch3 := hQ.chan
    have hlt3 := hQ.lt
    have hB3 := hQ.below
    have hz3 := hB3.size
    clear hQ
    go_wp2
    refine hideC_wp ?_
    refine wp_region_from 0 (by simp) ?_
    show AtOps _ _ _ [0, 1, 2] _ _
    cases q with
    | nil =>
      refine AtOps.nothing (c := w1.heap.size) (cap := 1 + xs.length) (s := s) (r := r) (tm := false) (z := .agg #[.slice none 0 0, .slice none 0 0]) rfl rfl (by simp [go_sem, execOp, Conc.rcase, Act.eval]) hch3 ?_
      refine AtOps.tail 1 rfl ?_
      simp only [List.drop]
      have hcnt := HQ.out.count
      have hlv := HQ.out.leaves
      simp at hcnt hlv
      have HLV := Lib.hid hlv
      have hx1 : 0 < xss.length := by omega
      have hx2 : xss.length ≤ 1000 := by omega
      clear hch3 hlv hcnt
      go_wp2
      refine hideC_wp ?_
      go_wp2_with (go_at_call 137; go_loud ((refine (sortRows _ vs xss w.heap.size wr.heap.size _ HQ.out.rows (Nat.le_refl _) hx1 hx2).mono ?_); rintro e w3 ⟨rfl, vs', yss, hR, hp, hs, hg⟩; (have hB9 := hB3.grown hg hz3 (fun k hk => (HQ.out.rows.outer.lt k hk).1))))
      go_ret
      exact ⟨_, yss, rfl, ⟨vs', hR⟩, hp.trans (by rw [HALL.out]; exact HLV.out), hs, hB9⟩
    | cons e q =>
      obtain ⟨ea, ec, ea2, ec2, pts, cs⟩ := e
      refine AtOps.tookL (c := w1.heap.size) (cap := 1 + xs.length) (s := s) (r := r) (tm := false) (cl := false) (v := .agg #[.slice ea pts.length ec, .slice ea2 cs.length ec2]) (vs := q.map QE.val) (z := .agg #[.slice none 0 0, .slice none 0 0]) rfl rfl (by simp [go_sem, execOp, Conc.rcase, Act.eval]) hch3 ?_
      refine AtOps.tail 1 rfl ?_
      simp only [List.drop]
      have hE := HQ.out.els _ List.mem_cons_self
      obtain ⟨hEp, hEc, ⟨hE1, hE2⟩, hEpl, hEb⟩ := hE
      have hkc := Kept.of_chan hch3 (1 + xs.length) (q.map QE.val).toArray false s (r + 1) false
      have hch4 : (wr.setChan w1.heap.size (1 + xs.length) (q.map QE.val).toArray false s (r + 1) false).heap[w1.heap.size]? = _ := Conc.heap_setChan wr _ _ _ _ _ _ _ hlt3.2
      have hB4 : Below w.heap.size w (wr.setChan w1.heap.size (1 + xs.length) (q.map QE.val).toArray false s (r + 1) false) := Conc.below_setChan hB3 hlt3.1 _ _ _ _ _ _
      have hz4 := Conc.size_setChan wr w1.heap.size (1 + xs.length) (q.map QE.val).toArray false s (r + 1) false
      obtain ⟨W2, hW2⟩ : ∃ W, wr.setChan w1.heap.size (1 + xs.length) (q.map QE.val).toArray false s (r + 1) false = W := ⟨_, rfl⟩
      rw [hW2] at hkc hch4 hB4 hz4 ⊢
      have HK := Lib.hid hkc
      have hz5 : W2.heap.size ≤ wr.heap.size := by omega
      have hz6 : wr.heap.size ≤ W2.heap.size := by omega
      clear hW2 hkc hz4
      cases cs with
      | nil =>
        have hrl := HQ.out.rows.len
        have hxl : xss.length ≤ 41 := by have := HQ.out.count; simp at this; omega
        have hk3 : Kept wr (W2.alloc (.cells #[.slice ea pts.length ec, .slice ea2 0 ec2] 140)) := HK.out.trans (Kept.of_below (by go_grown))
        have HR3 := Lib.hid (hk3.rows HQ.out.rows hk3.size)
        have hch5 : (W2.alloc (.cells #[.slice ea pts.length ec, .slice ea2 0 ec2] 140)).heap[w1.heap.size]? = _ := (heap_alloc_old W2 _ (by omega)).trans hch4
        have HK3 := Lib.hid hk3
        clear hk3 hEp hEc hEpl hEb hch3 hch4
        go_wp2_with (at_builtin; go_loud ((refine wpList_append_val rfl _ _ 69 rfl w.heap.size 33 (.slice none 0 0) 24 Try.underlying69 info_ints rfl (by omega) _ vs rfl HR3.out.outer (.slice ea pts.length ec) (by rfl) (by rw [World.size_alloc]; rfl) (by omega) (by simp; omega) ?_); intro v' w' ho' hg'))
        have hsz := hg'.size
        have hne : (Value.slice um un uc').ownBlock ≠ some w1.heap.size := fun e => by
          obtain ⟨cur, hc⟩ := ownsRow_block HR3.out.outer e
          rw [hch5] at hc
          cases hc
        have hBB : Below w.heap.size w w' := Below.grown (hB4.trans (show Below w.heap.size W2 (W2.alloc (.cells #[.slice ea pts.length ec, .slice ea2 0 ec2] 140)) from by go_grown)) hg' (by simp; omega) (fun j hj => (HR3.out.outer.lt j hj).1)
        have hQ2 := HQ.out.leaf rfl HK3.out hch5 hBB hg' hne (by simp; omega) ho'
        obtain ⟨um2, un2, uc2, rfl⟩ := ownsRow_form ho'
        go_roundw
        case rel => exact ⟨um2, un2, uc2, _, _, q, s, r + 1, rfl, hQ2⟩
        case measure =>
          rw [muQ_is hQ2.chan, muQ_is HQ.out.chan]
          simp [muL]
      | cons c cs =>
        obtain ⟨x, y⟩ := c
        obtain ⟨a2, c2, g2, hv2, ha2, _, hx2, hy2⟩ := hEc.pairs.view
        obtain ⟨rfl, _, rfl⟩ : ea2 = a2 ∧ (((x, y) :: cs).length = ((x, y) :: cs).length) ∧ ec2 = c2 := by simpa [QE.v] using hv2
        obtain rfl := ha2 (by simp)
        have cx0 : W2.cell? ⟨g2, 0, none⟩ = some (.int .i64 x) := HK.out.cell (by simpa using hx2 0 (by simp))
        have cy0 : W2.cell? ⟨g2, 1, none⟩ = some (.int .i64 y) := HK.out.cell (by simpa using hy2 0 (by simp))
        have cx1 : (W2.alloc (.cells #[.slice ea pts.length ec, .slice (some ⟨g2, 0, none⟩) (cs.length + 1) ec2] 140)).cell? ⟨g2, 0, none⟩ = some (.int .i64 x) := cellB (by go_grown) cx0
        have cy1 : (W2.alloc (.cells #[.slice ea pts.length ec, .slice (some ⟨g2, 0, none⟩) (cs.length + 1) ec2] 140)).cell? ⟨g2, 1, none⟩ = some (.int .i64 y) := cellB (by go_grown) cy0
        have hln : (((cs.length : Int) + 1) == 0) = false := beq_eq_false_iff_ne.2 (by omega)
        have hln2 : (0 : Int) < (cs.length : Int) + 1 := by omega
        have HEp := Lib.hid hEp
        have HEc := Lib.hid hEc
        have hcnt := HQ.out.count
        have hsg := sum_ge (q := q)
        simp only [List.map_cons, List.sum_cons, List.length_cons] at hcnt
        clear hEp hEc hx2 hy2 ha2 hv2 cx0 cy0 hch3
        go_wp2
        have b0 : ((W2.alloc (.cells #[.slice ea pts.length ec, .slice (some ⟨g2, 0, none⟩) (cs.length + 1) ec2] 140)).alloc (.cells #[.int .i64 x, .int .i64 y] 52)).cell? ⟨W2.heap.size, 0, none⟩ = some (.slice ea pts.length ec) := by go_simp
        have b1 : ((W2.alloc (.cells #[.slice ea pts.length ec, .slice (some ⟨g2, 0, none⟩) (cs.length + 1) ec2] 140)).alloc (.cells #[.int .i64 x, .int .i64 y] 52)).cell? ⟨W2.heap.size, 1, none⟩ = some (.slice (some ⟨g2, 0, none⟩) (cs.length + 1) ec2) := by go_simp
        have b2 : ((W2.alloc (.cells #[.slice ea pts.length ec, .slice (some ⟨g2, 0, none⟩) (cs.length + 1) ec2] 140)).alloc (.cells #[.int .i64 x, .int .i64 y] 52)).cell? ⟨W2.heap.size + 1, 0, none⟩ = some (.int .i64 x) := by go_simp
        have b3 : ((W2.alloc (.cells #[.slice ea pts.length ec, .slice (some ⟨g2, 0, none⟩) (cs.length + 1) ec2] 140)).alloc (.cells #[.int .i64 x, .int .i64 y] 52)).cell? ⟨W2.heap.size + 1, 1, none⟩ = some (.int .i64 y) := by go_simp
        have hbel : Below W2.heap.size W2 ((W2.alloc (.cells #[.slice ea pts.length ec, .slice (some ⟨g2, 0, none⟩) (cs.length + 1) ec2] 140)).alloc (.cells #[.int .i64 x, .int .i64 y] 52)) := by go_grown
        have hszW : ((W2.alloc (.cells #[.slice ea pts.length ec, .slice (some ⟨g2, 0, none⟩) (cs.length + 1) ec2] 140)).alloc (.cells #[.int .i64 x, .int .i64 y] 52)).heap.size = W2.heap.size + 1 + 1 := by simp
        obtain ⟨W4, hW4⟩ : ∃ W, ((W2.alloc (.cells #[.slice ea pts.length ec, .slice (some ⟨g2, 0, none⟩) (cs.length + 1) ec2] 140)).alloc (.cells #[.int .i64 x, .int .i64 y] 52)) = W := ⟨_, rfl⟩
        rw [hW4] at b0 b1 b2 b3 hbel hszW ⊢
        have hB5 : Below w.heap.size w W4 := hB4.trans (hbel.mono (by omega))
        have hK4 : Kept wr W4 := HK.out.trans (Kept.of_below hbel)
        have hch6 := (hbel.block w1.heap.size (by omega)).trans hch4
        have hs1 : W2.heap.size + 1 + 1 ≤ W4.heap.size := by omega
        have hs2 : wr.heap.size ≤ W4.heap.size := by omega
        have HK4 := Lib.hid hK4
        clear hW4 hbel hszW hch4 cx1 cy1 hK4
        refine hideC_wp ?_
        refine wp_region_from 4 (by simp) ?_
        simp only [List.take]
        go_wp2_with (go_at_call 134; go_loud ((refine (part_in ea (some ⟨g2, 0, none⟩) ec ec2 pts ((x, y) :: cs) x y (W2.heap.size + 1) W4.heap.size _ (HK4.out.intsIn (HEp.out.widen (Nat.zero_le _) (Nat.le_refl _)) hs2) (HK4.out.pairsIn HEc.out hs2) (Nat.le_refl _) b2 b3 (by simp) hE1 hE2).mono ?_); rintro e w5 ⟨u1, v1, rfl, hi1, hp1, hb5⟩; obtain ⟨ua1, uc1, rfl⟩ := hi1.1.openedR; obtain ⟨va1, vc1, rfl⟩ := hp1.1.opened))
        show AtOps _ _ _ [4] _ _
        have hch7 := (hb5.block w1.heap.size (by omega)).trans hch6
        have hz7 := hb5.size
        refine AtOps.sendL (c := w1.heap.size) (cap := 1 + xs.length) (vs := q.map QE.val) (s := s) (r := r + 1) (tm := false) (z := .tuple #[]) (v := .agg #[.slice ua1 (pts.filter (inS (x, y))).length uc1, .slice va1 ((List.drop 1 ((x, y) :: cs)).filter fun d => inS (x, y) d.1 && inS (x, y) d.2).length vc1]) (w₁ := w5) rfl rfl (by simp [go_sem, execOp, Conc.scase, Act.eval]) hch7 (by simp; omega) ?_
        refine AtOps.nil ?_
        have hkc2 := Kept.of_chan hch7 (1 + xs.length) (q.map QE.val ++ [Value.agg #[Value.slice ua1 (pts.filter (inS (x, y))).length uc1, Value.slice va1 ((List.drop 1 ((x, y) :: cs)).filter fun d => inS (x, y) d.1 && inS (x, y) d.2).length vc1]]).toArray false (s + 1) (r + 1) false
        have hch8 := Conc.heap_setChan w5 w1.heap.size (1 + xs.length) (q.map QE.val ++ [Value.agg #[Value.slice ua1 (pts.filter (inS (x, y))).length uc1, Value.slice va1 ((List.drop 1 ((x, y) :: cs)).filter fun d => inS (x, y) d.1 && inS (x, y) d.2).length vc1]]).toArray false (s + 1) (r + 1) false (by omega)
        have hB7 : Below w.heap.size w w5 := hB5.trans (hb5.mono (by omega))
        have hB8 := Conc.below_setChan hB7 (c := w1.heap.size) (by omega) (1 + xs.length) (q.map QE.val ++ [Value.agg #[Value.slice ua1 (pts.filter (inS (x, y))).length uc1, Value.slice va1 ((List.drop 1 ((x, y) :: cs)).filter fun d => inS (x, y) d.1 && inS (x, y) d.2).length vc1]]).toArray false (s + 1) (r + 1) false
        have hz8 := Conc.size_setChan w5 w1.heap.size (1 + xs.length) (q.map QE.val ++ [Value.agg #[Value.slice ua1 (pts.filter (inS (x, y))).length uc1, Value.slice va1 ((List.drop 1 ((x, y) :: cs)).filter fun d => inS (x, y) d.1 && inS (x, y) d.2).length vc1]]).toArray false (s + 1) (r + 1) false
        obtain ⟨W6, hW6⟩ : ∃ W, w5.setChan w1.heap.size (1 + xs.length) (q.map QE.val ++ [Value.agg #[Value.slice ua1 (pts.filter (inS (x, y))).length uc1, Value.slice va1 ((List.drop 1 ((x, y) :: cs)).filter fun d => inS (x, y) d.1 && inS (x, y) d.2).length vc1]]).toArray false (s + 1) (r + 1) false = W := ⟨_, rfl⟩
        rw [hW6] at hkc2 hch8 hB8 hz8 ⊢
        have hk46 : Kept W4 W6 := (Kept.of_below hb5).trans hkc2
        have HK6 := Lib.hid (HK4.out.trans hk46)
        have HI1 := Lib.hid (hkc2.intsIn hi1 (Nat.le_refl _))
        have HP1 := Lib.hid (hkc2.pairsIn hp1 hkc2.size)
        have d0 := hk46.cell b0
        have d1 := hk46.cell b1
        have d2 := hk46.cell b2
        have d3 := hk46.cell b3
        have hz9 : w5.heap.size ≤ W6.heap.size := by omega
        have hz10 : W6.heap.size ≤ w5.heap.size := by omega
        clear hW6 hkc2 hz8 hk46 b0 b1 b2 b3 hi1 hp1
        go_wp2
        refine hideC_wp ?_
        refine wp_region_from 4 (by simp) ?_
        simp only [List.take]
        go_wp2_with (go_at_call 134; go_loud ((refine (part_out ea (some ⟨g2, 0, none⟩) ec ec2 pts ((x, y) :: cs) x y (W2.heap.size + 1) W6.heap.size _ (HK6.out.intsIn (HEp.out.widen (Nat.zero_le _) (Nat.le_refl _)) (by omega)) (HK6.out.pairsIn HEc.out (by omega)) (Nat.le_refl _) d2 d3 (by simp) hE1 hE2).mono ?_); rintro e w7 ⟨u2, v2, rfl, hi2, hp2, hb7⟩; obtain ⟨ua2, uc2, rfl⟩ := hi2.1.openedR; obtain ⟨va2, vc2, rfl⟩ := hp2.1.opened))
        show AtOps _ _ _ [4] _ _
        have hch9 := (hb7.block w1.heap.size (by omega)).trans hch8
        have hz11 := hb7.size
        refine AtOps.sendL (c := w1.heap.size) (cap := 1 + xs.length) (vs := q.map QE.val ++ [Value.agg #[Value.slice ua1 (pts.filter (inS (x, y))).length uc1, Value.slice va1 ((List.drop 1 ((x, y) :: cs)).filter fun d => inS (x, y) d.1 && inS (x, y) d.2).length vc1]]) (s := s + 1) (r := r + 1) (tm := false) (z := .tuple #[]) (v := .agg #[.slice ua2 (pts.filter (outS (x, y))).length uc2, .slice va2 ((List.drop 1 ((x, y) :: cs)).filter fun d => outS (x, y) d.1 && outS (x, y) d.2).length vc2]) (w₁ := w7) rfl rfl (by simp [go_sem, execOp, Conc.scase, Act.eval]) hch9 (by simp; omega) ?_
        refine AtOps.nil ?_
        have hkc3 := Kept.of_chan hch9 (1 + xs.length) (q.map QE.val ++ [Value.agg #[Value.slice ua1 (pts.filter (inS (x, y))).length uc1, Value.slice va1 ((List.drop 1 ((x, y) :: cs)).filter fun d => inS (x, y) d.1 && inS (x, y) d.2).length vc1]] ++ [Value.agg #[Value.slice ua2 (pts.filter (outS (x, y))).length uc2, Value.slice va2 ((List.drop 1 ((x, y) :: cs)).filter fun d => outS (x, y) d.1 && outS (x, y) d.2).length vc2]]).toArray false (s + 1 + 1) (r + 1) false
        have hch10 := Conc.heap_setChan w7 w1.heap.size (1 + xs.length) (q.map QE.val ++ [Value.agg #[Value.slice ua1 (pts.filter (inS (x, y))).length uc1, Value.slice va1 ((List.drop 1 ((x, y) :: cs)).filter fun d => inS (x, y) d.1 && inS (x, y) d.2).length vc1]] ++ [Value.agg #[Value.slice ua2 (pts.filter (outS (x, y))).length uc2, Value.slice va2 ((List.drop 1 ((x, y) :: cs)).filter fun d => outS (x, y) d.1 && outS (x, y) d.2).length vc2]]).toArray false (s + 1 + 1) (r + 1) false (by omega)
        have hB10 := Conc.below_setChan (hB8.trans (hb7.mono (by omega))) (c := w1.heap.size) (by omega) (1 + xs.length) (q.map QE.val ++ [Value.agg #[Value.slice ua1 (pts.filter (inS (x, y))).length uc1, Value.slice va1 ((List.drop 1 ((x, y) :: cs)).filter fun d => inS (x, y) d.1 && inS (x, y) d.2).length vc1]] ++ [Value.agg #[Value.slice ua2 (pts.filter (outS (x, y))).length uc2, Value.slice va2 ((List.drop 1 ((x, y) :: cs)).filter fun d => outS (x, y) d.1 && outS (x, y) d.2).length vc2]]).toArray false (s + 1 + 1) (r + 1) false
        have hz12 := Conc.size_setChan w7 w1.heap.size (1 + xs.length) (q.map QE.val ++ [Value.agg #[Value.slice ua1 (pts.filter (inS (x, y))).length uc1, Value.slice va1 ((List.drop 1 ((x, y) :: cs)).filter fun d => inS (x, y) d.1 && inS (x, y) d.2).length vc1]] ++ [Value.agg #[Value.slice ua2 (pts.filter (outS (x, y))).length uc2, Value.slice va2 ((List.drop 1 ((x, y) :: cs)).filter fun d => outS (x, y) d.1 && outS (x, y) d.2).length vc2]]).toArray false (s + 1 + 1) (r + 1) false
        have hk68 := (Kept.of_below hb7).trans hkc3
        have hQ2 := HQ.out.split (w5 := w7.setChan w1.heap.size (1 + xs.length) (q.map QE.val ++ [Value.agg #[Value.slice ua1 (pts.filter (inS (x, y))).length uc1, Value.slice va1 ((List.drop 1 ((x, y) :: cs)).filter fun d => inS (x, y) d.1 && inS (x, y) d.2).length vc1]] ++ [Value.agg #[Value.slice ua2 (pts.filter (outS (x, y))).length uc2, Value.slice va2 ((List.drop 1 ((x, y) :: cs)).filter fun d => outS (x, y) d.1 && outS (x, y) d.2).length vc2]]).toArray false (s + 1 + 1) (r + 1) false) (B1 := W4.heap.size) (T1 := w5.heap.size) (B2 := W6.heap.size) (c := (x, y)) (cs := cs)
          (e1 := ⟨ua1, uc1, va1, vc1, pts.filter (inS (x, y)), (List.drop 1 ((x, y) :: cs)).filter fun d => inS (x, y) d.1 && inS (x, y) d.2⟩) (e2 := ⟨ua2, uc2, va2, vc2, pts.filter (outS (x, y)), (List.drop 1 ((x, y) :: cs)).filter fun d => outS (x, y) d.1 && outS (x, y) d.2⟩)
          rfl (HK6.out.trans hk68) (hch10.trans (by simp [QE.val, QE.u, QE.v])) hB10 rfl rfl rfl rfl (hk68.intsIn HI1.out (Nat.le_refl _)) hs2 (by omega) (by omega) (hkc3.intsIn hi2 (by rw [hz12]; exact Nat.le_refl _)) (by rw [hz12]; omega)
          ((hk68.pairsIn HP1.out hk68.size).wider (Nat.zero_le _) (Nat.le_refl _)) ((hkc3.pairsIn hp2 (by rw [hz12]; exact Nat.le_refl _)).wider (Nat.zero_le _) (Nat.le_refl _))
        have HQ2 := Lib.hid hQ2
        have HML := Lib.hid (parts_length hEpl)
        clear hkc3 hch10 hB10 hz12 hk68 hQ2 hcnt hch9 hch8 hch7 hch6
        (try dsimp only [Act.put])
        go_wp2
        go_roundw
        case rel => exact ⟨um, un, uc', vs, xss, _, s + 2, r + 1, rfl, HQ2.out⟩
        case measure =>
          rw [muQ_is HQ2.out.chan, muQ_is HQ.out.chan]
          simp [muL]
          have hml := HML.out
          omega
end Go.Proofs.Ytnldnjgnpdicnaa
