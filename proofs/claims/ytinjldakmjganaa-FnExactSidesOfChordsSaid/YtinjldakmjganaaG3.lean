/- Groups: what a chord reaches: the program. -/
import Derived.Test.YtinjldakmjganaaG2
import Derived.Test.YtinjldakmjganaaB9
import Derived.Test.YtinjldakmjganaaK7
import Derived.Deep.RegionHeld3
namespace Go.Proofs.Ytinjldakmjganaa
open Go.RowKit
set_option linter.unusedVariables false

/-- Do two chords of a list cross? -/
def crL (xs : List (Int × Int)) (i j : Nat) : Bool := crossP (xs.getD i (0, 0)) (xs.getD j (0, 0))

def natsI (l : List Nat) : List Int := l.map fun (x : Nat) => (x : Int)

theorem natsI_length (l : List Nat) : (natsI l).length = l.length := by simp [natsI]

theorem natsI_snoc (l : List Nat) (k : Nat) : natsI l ++ [(k : Int)] = natsI (l ++ [k]) := by simp [natsI]

theorem natsI_app (l m : List Nat) : natsI l ++ natsI m = natsI (l ++ m) := by simp [natsI]

theorem natsI_get (l : List Nat) (i : Nat) (h : i < l.length) : (natsI l).getD i 0 = ((l.getD i 0 : Nat) : Int) := by
  simp [natsI, List.getD, List.getElem?_map, List.getElem?_eq_getElem h]

theorem reachS_keep (cr : Nat → Nat → Bool) (root d f : Nat) (S : LabT × List Nat) (j i : Nat) (x : Nat × Nat) (h : labT S.1 i = some x) : labT (reachS cr root d f S j).1 i = some x := by
  unfold reachS
  split
  · next hc =>
    rw [Bool.and_eq_true, Option.isNone_iff_eq_none] at hc
    have hl : i < S.1.length := by
      rcases Nat.lt_or_ge i S.1.length with g | g
      · exact g
      · rw [labT_none g] at h; cases h
    rcases Nat.lt_or_ge j S.1.length with g | g
    · rw [labT_set _ _ _ _ g, if_neg (fun e => by rw [e, h] at hc; cases hc.1)]
      exact h
    · rw [List.set_eq_of_length_le g]
      exact h
  · exact h

theorem reachK_keep (cr : Nat → Nat → Bool) (root d f : Nat) (S : LabT × List Nat) (k i : Nat) (x : Nat × Nat) (h : labT S.1 i = some x) : labT (reachK cr root d f S k).1 i = some x := by
  induction k with
  | zero => exact h
  | succ k ih => rw [reachK_succ]; exact reachS_keep _ _ _ _ _ _ _ _ ih

theorem reachK_len (cr : Nat → Nat → Bool) (root d f : Nat) (S : LabT × List Nat) (k : Nat) : (reachK cr root d f S k).1.length = S.1.length ∧ (reachK cr root d f S k).2.length ≤ S.2.length + k := by
  induction k with
  | zero => exact ⟨rfl, Nat.le_refl _⟩
  | succ k ih =>
    rw [reachK_succ]
    unfold reachS
    split
    · simp; omega
    · omega

/-- The queue before is of no matter. -/
theorem reachK_queue (cr : Nat → Nat → Bool) (root d f : Nat) (L : LabT) (q : List Nat) (k : Nat) : reachK cr root d f (L, q) k = ((reachK cr root d f (L, []) k).1, q ++ (reachK cr root d f (L, []) k).2) := by
  induction k with
  | zero => simp [reachK_zero]
  | succ k ih =>
    rw [reachK_succ, reachK_succ, ih]
    unfold reachS
    simp only
    split <;> simp

theorem distT_keep {L M : LabT} {i : Nat} (h : ∀ x, labT L i = some x → labT M i = some x) (hn : labT L i ≠ none) : distT M i = distT L i ∧ labT M i ≠ none := by
  cases e : labT L i with
  | none => exact absurd e hn
  | some x =>
    unfold distT
    rw [e, h x e]
    exact ⟨rfl, by simp⟩

theorem BytAt.apart {t : TypeId} {w : World} {g b o : Nat} {L : List Int} {x : Int} (h : BytAt t w g L) (hc : w.cell? ⟨b, o, none⟩ = some (.int .i64 x)) : b ≠ g := by
  rintro rfl
  have hb : o < L.length := by
    rcases Nat.lt_or_ge o L.length with g | g
    · exact g
    · have := cell_of_row w b o _ _ (0, 0) h
      rw [hc] at this
      unfold byteCells at this
      rw [List.getElem?_toArray, List.getElem?_map, List.getElem?_eq_none g] at this
      cases this
  have := h.cell o hb
  rw [hc] at this
  cases this

theorem Only.setCell (w : World) (b o : Nat) (v : Value) : Only b (b + 1) w (w.setCell ⟨b, o, none⟩ v) :=
  ⟨rfl, rfl, rfl, by simp, fun k _ hn => heap_setCell_other w ⟨b, o, none⟩ k v (by simp; omega)⟩

theorem Only.grown {B T : Nat} {w w1 w2 : World} {row : Option Nat} (h : Only B T w w1) (g : w1.grownBy w2 row) (hr : ∀ k, row = some k → w.heap.size ≤ k) : Only B T w w2 :=
  ⟨g.os.trans h.os, g.tape.trans h.tape, g.output.trans h.output, Nat.le_trans h.size g.size, fun k hk hn => (g.block k (Nat.lt_of_lt_of_le hk h.size) (fun e => by have := hr k e.symm; omega)).trans (h.block k hk hn)⟩

theorem Only.more {B T : Nat} {w w1 w2 : World} (h : Only B T w w1) (g : Below w1.heap.size w1 w2) : Only B T w w2 :=
  h.trans ⟨g.os, g.tape, g.output, g.size, fun k hk _ => g.block k hk⟩

/-- The same, where the heap's size is told in another way. -/
theorem wpList_append_int_at {P : Program} {wr : World} {ops : Array Oper} {rest : List Oper} {o : Oper} {a : Act} {Q : Exit → Act → World → Prop} (hgd : o.guard = none) (s x : Operand) (t : TypeId)
    (ho : o.op = .call { callee := .builtin .append, args := #[s, x], argTypes := #[t, t] }) (base : Nat) (e : TypeId) (ht : P.underlying t = some (.slice e))
    (hi : (P.info? e).map (fun i => (i.zero, i.size, i.bytes)) = some (some (.int .i64 0), 1, 8)) (v : Value) (xs : List Int) (hs : a.eval s = v) (hI : Ints wr base e v xs) (y : Int) (z : Nat) (hz : wr.heap.size = z)
    (hx : a.eval x = .slice (some ⟨z, 0, none⟩) 1 1) (hn : xs.length < 1000000000) (hbase : base ≤ wr.heap.size)
    (h : ∀ v' w', Ints w' base e v' (xs ++ [y]) → wr.grownBy w' v.ownBlock → wpList P ops Q rest (a.put o.dst v') w') :
    wpList P ops Q (o :: rest) a (wr.alloc (.cells #[.int .i64 y] e)) := by
  subst hz
  exact wpList_append_int hgd s x t ho base e ht hi v xs hs hI y hx hn hbase h

set_option maxHeartbeats 400000 in
theorem otherSide_any (z : Int) (w : World) : Calls Try.prog 60 #[.int .u8 z] w fun e w' => e = .returned (.int .u8 (if z = 105 then 111 else 105)) ∧ w = w' := by
  by_cases h : z = 105
  · have hz : (z == 105) = true := by simp [h]
    rw [if_pos h]
    clear h
    go_enter Try.func60, Try.ntmps60
    go_wp2
    go_ret
    exact ⟨rfl, rfl⟩
  · have hz : (z == 105) = false := by simp [h]
    rw [if_neg h]
    clear h
    go_enter Try.func60, Try.ntmps60
    go_wp2
    go_ret
    exact ⟨rfl, rfl⟩

set_option maxHeartbeats 2000000 in
set_option maxRecDepth 100000 in
theorem reachNew_any (u : Value) (xs : List (Int × Int)) (B T : Nat) (w : World) (h : PairsIn 48 w B T u xs) (hn : xs.length ≤ 40) (tb : TypeId) (gs : Nat) (L : LabT) (hL : L.length = xs.length) (hS : BytAt tb w gs (sidesL xs.length L)) (root f d : Nat) (hf : f < xs.length) (hlab : labT L f ≠ none) (hd : distT L f = d) :
    Calls Try.prog 48 #[u, .slice (some ⟨gs, 0, none⟩) xs.length xs.length, .int .i64 f] w fun e w' => ∃ v, e = .returned v ∧ Ints w' w.heap.size 3 v (natsI (reachK (crL xs) root d f (L, []) xs.length).2) ∧ BytAt tb w' gs (sidesL xs.length (reachK (crL xs) root d f (L, []) xs.length).1) ∧ Only gs (gs + 1) w w' := by
  obtain ⟨a1, c1, g1, rfl, ha1, hmm, hx1, hy1⟩ := h.pairs.view
  obtain rfl := ha1 (by omega)
  have X := Lib.hid hx1
  have Y := Lib.hid hy1
  have HL := Lib.hid hL
  have HLAB := Lib.hid hlab
  have HD := Lib.hid hd
  have hne : g1 ≠ gs := hS.apart (hx1 f hf)
  have hgs := hS.lt
  have hf1 : 0 ≤ (f : Int) := by omega
  have hf2 : (f : Int) < (xs.length : Int) := by omega
  have HS := Lib.hid hS
  clear h ha1 hx1 hy1 hmm hL hlab hd hS
  go_enter Try.func48, Try.ntmps48
  go_wp2
  go_loopw [7, 12] (fun r i wr => ∃ k : Nat, k ≤ xs.length ∧ i = .int .i64 k ∧ Ints wr w.heap.size 3 r (natsI (reachK (crL xs) root d f (L, []) k).2) ∧ BytAt tb wr gs (sidesL xs.length (reachK (crL xs) root d f (L, []) k).1) ∧ Only gs (gs + 1) w wr) (fun _ i _ => xs.length - (intOf i).toNat)
  case atStart => exact ⟨0, by omega, rfl, World.ownsRow_nil _ _ _ _, HS.out, Only.refl _ _ _⟩
  case round =>
    obtain ⟨k, hk, rfl, hI, hB9, hO⟩ := hrel
    by_cases hlt : k < xs.length
    · obtain ⟨hl1, hl2⟩ := reachK_len (crL xs) root d f (L, []) k
      have hstep := reachK_succ (crL xs) root d f (L, []) k
      have hkp := distT_keep (i := f) (fun x e => reachK_keep (crL xs) root d f (L, []) k f x e) HLAB.out
      obtain ⟨S, hS⟩ : ∃ S, S = reachK (crL xs) root d f (L, []) k := ⟨_, rfl⟩
      rw [← hS] at hI hB9 hl1 hl2 hstep hkp
      obtain ⟨M, q⟩ := S
      simp only at hI hB9 hl1 hl2 hkp
      rw [HL.out] at hl1
      have hf' := sideV_some M f hkp.2
      rw [hkp.1, HD.out] at hf'
      have hz := hO.size
      have hgz := hB9.lt
      have hcz := hB9.cell k (by rw [sidesL_length]; exact hlt)
      have hcf := hB9.cell f (by rw [sidesL_length]; exact hf)
      rw [sidesL_get _ _ _ hlt] at hcz
      rw [sidesL_get _ _ _ hf, hf'] at hcf
      have hfz := hB9.frozen k
      have fx := hO.cell (by omega) (X.out f hf)
      have fy := hO.cell (by omega) (Y.out f hf)
      have kx := hO.cell (by omega) (X.out k hlt)
      have ky := hO.cell (by omega) (Y.out k hlt)
      have hcr : crL xs f k = crossB (xs.getD f (0, 0)).1 (xs.getD f (0, 0)).2 (xs.getD k (0, 0)).1 (xs.getD k (0, 0)).2 := rfl
      obtain ⟨x, hx⟩ : ∃ x, x = (xs.getD f (0, 0)).1 := ⟨_, rfl⟩
      obtain ⟨y, hy⟩ : ∃ y, y = (xs.getD f (0, 0)).2 := ⟨_, rfl⟩
      obtain ⟨x2, hx2⟩ : ∃ y, y = (xs.getD k (0, 0)).1 := ⟨_, rfl⟩
      obtain ⟨y2, hy2⟩ : ∃ y, y = (xs.getD k (0, 0)).2 := ⟨_, rfl⟩
      rw [← hx, ← hy, ← hx2, ← hy2] at hcr
      rw [← hx] at fx
      rw [← hy] at fy
      rw [← hx2] at kx
      rw [← hy2] at ky
      obtain ⟨s, hs⟩ : ∃ s : Int, s = if d % 2 = 0 then 105 else 111 := ⟨_, rfl⟩
      rw [← hs] at hcf
      have HSV := Lib.hid hs
      have HI := Lib.hid hI
      have H9 := Lib.hid hB9
      have HO := Lib.hid hO
      have HST := Lib.hid hstep
      have HM := Lib.hid hl1
      have hk1 : 0 ≤ (k : Int) := by omega
      have hk2 : (k : Int) < (xs.length : Int) := by omega
      have hw1 : IntKind.i64.wrap ((k : Int) + 1) = ((k + 1 : Nat) : Int) := by rw [IntKind.wrap_i64]; omega
      obtain ⟨z, hzv⟩ : ∃ z, z = sideV M k := ⟨_, rfl⟩
      rw [← hzv] at hcz
      have HZ := Lib.hid hzv
      have hzq : (z = 0) = (labT M k = none) := by rw [hzv]; exact propext (sideV_zero M k)
      clear hx hy hx2 hy2 hs hI hB9 hO hstep hl1 hkp hf' hS hzv
      by_cases hz0 : z = 0
      · have hnn : labT M k = none := hzq ▸ hz0
        have HNN := Lib.hid hnn
        subst hz0
        clear hzq hnn
        cases hcb : crossB x y x2 y2 with
        | true =>
          rw [hcb] at hcr
          have HCB := Lib.hid hcb
          have HST2 : Hid (reachK (crL xs) root d f (L, []) (k + 1) = (M.set k (some (root, d + 1)), q ++ [k])) := Lib.hid (by rw [HST.out, reachS, show (labT (M, q).1 k).isNone = true by rw [HNN.out]; rfl, hcr]; rfl)
          clear hcr hcb
          go_wp2
          go_region_held3 (fun w' => w'.cell? ⟨gs, k, none⟩ = some (.int .u8 0) ∧ w'.cell? ⟨gs, f, none⟩ = some (.int .u8 s) ∧ w'.cell? ⟨wr.heap.size, 0, none⟩ = some (.int .i64 x2) ∧ w'.cell? ⟨wr.heap.size, 1, none⟩ = some (.int .i64 y2) ∧ w'.cell? ⟨g1, f * 2, none⟩ = some (.int .i64 x) ∧ w'.cell? ⟨g1, f * 2 + 1, none⟩ = some (.int .i64 y)) (go_keep)
            (first | (go_at_call 59; (with_reducible refine (areInTurn_any x y x2 y2 _).mono ?_); rintro e w1 ⟨rfl, hb⟩; rw [HCB.out]; (have c0 : w1.cell? ⟨wr.heap.size, 0, none⟩ = some (.int .i64 x2) := cellB hb (by first | assumption | go_simp)); (have c1 : w1.cell? ⟨wr.heap.size, 1, none⟩ = some (.int .i64 y2) := cellB hb (by first | assumption | go_simp)); (have c2 : w1.cell? ⟨g1, f * 2, none⟩ = some (.int .i64 x) := cellB hb (by first | assumption | go_simp)); (have c3 : w1.cell? ⟨g1, f * 2 + 1, none⟩ = some (.int .i64 y) := cellB hb (by first | assumption | go_simp)); (have c4 : w1.cell? ⟨gs, k, none⟩ = some (.int .u8 0) := cellB hb (by first | assumption | go_simp)); (have c5 : w1.cell? ⟨gs, f, none⟩ = some (.int .u8 s) := cellB hb (by first | assumption | go_simp)); (have HBW : Hid (Below wr.heap.size wr w1) := Lib.hid (Below.trans (by go_grown) (hb.mono (by first | omega | (simp; done) | (simp; omega))))); (have c6 : w1.frozen? ⟨gs, k, none⟩ = false := (HBW.out.frozen (p := ⟨gs, k, none⟩) hgz).trans hfz); clear hb))
          have hz1 := HBW.out.size
          have HI1 := HI.out.later HBW.out
          have HO1 := Lib.hid (HO.out.more HBW.out)
          have H91 := H9.out.keep HBW.out
          obtain ⟨t, ht⟩ : ∃ t : Int, t = if s = 105 then 111 else 105 := ⟨_, rfl⟩
          have HT := Lib.hid ht
          have htd : t = if (d + 1) % 2 = 0 then 105 else 111 := by
            rw [ht, HSV.out]
            by_cases e : d % 2 = 0
            · rw [if_pos e, if_pos rfl, if_neg (by omega)]
            · rw [if_neg e, if_neg (by omega), if_pos (by omega)]
          have H92 := H91.stored k t
          rw [htd, sidesL_set _ _ HM.out k root (d + 1) hlt, ← htd] at H92
          have HI2 := Lib.hid (HI1.inn.keep (w' := w1.setCell ⟨gs, k, none⟩ (.int .u8 t)) (Only.same_in (Only.setCell w1 gs k (.int .u8 t)) (Nat.le_refl _) (.inr (by omega)))).1
          have H92 := Lib.hid H92
          have HO2 := Lib.hid (HO1.out.trans (Only.setCell w1 gs k (.int .u8 t)))
          have hq40 : q.length ≤ 40 := by simp at hl2; omega
          clear ht htd HI1 H91
          go_wp2_with (first | (go_at_call 60; (with_reducible refine (otherSide_any s _).mono ?_); rintro e w2 ⟨rfl, rfl⟩; rw [← HT.out]) | (at_builtin; refine wpList_append_int_at rfl _ _ 36 rfl w.heap.size 3 Try.underlying36 info_int _ _ rfl HI2.out ((k : Nat) : Int) w1.heap.size (World.size_setCell _ _ _) rfl (by rw [natsI_length]; omega) (by first | omega | (simp; done) | (simp; omega)) ?_; intro v' w' hI' hg'; rw [natsI_snoc] at hI'; have HI' := Lib.hid hI'; have H93 := Lib.hid (H92.out.kept HI2.out hg' (by omega)); have HO3 := Lib.hid (HO2.out.grown hg' (fun k hk => (HI2.out.own k hk).1)); clear hI' hg'))
          go_roundw
          case rel => exact ⟨k + 1, by omega, by go_num, by rw [HST2.out]; exact HI'.out, by rw [HST2.out]; exact H93.out, HO3.out⟩
          case measure => simp [intOf]; omega
        | false =>
          rw [hcb] at hcr
          have HCB := Lib.hid hcb
          have HST2 : Hid (reachK (crL xs) root d f (L, []) (k + 1) = (M, q)) := Lib.hid (by rw [HST.out, reachS, show (labT (M, q).1 k).isNone = true by rw [HNN.out]; rfl, hcr]; rfl)
          clear hcr hcb
          go_wp2
          go_region_held3 (fun w' => w'.cell? ⟨gs, k, none⟩ = some (.int .u8 0) ∧ w'.cell? ⟨gs, f, none⟩ = some (.int .u8 s) ∧ w'.cell? ⟨wr.heap.size, 0, none⟩ = some (.int .i64 x2) ∧ w'.cell? ⟨wr.heap.size, 1, none⟩ = some (.int .i64 y2) ∧ w'.cell? ⟨g1, f * 2, none⟩ = some (.int .i64 x) ∧ w'.cell? ⟨g1, f * 2 + 1, none⟩ = some (.int .i64 y)) (go_keep)
            (first | (go_at_call 59; (with_reducible refine (areInTurn_any x y x2 y2 _).mono ?_); rintro e w1 ⟨rfl, hb⟩; rw [HCB.out]; (have c0 : w1.cell? ⟨wr.heap.size, 0, none⟩ = some (.int .i64 x2) := cellB hb (by first | assumption | go_simp)); (have c1 : w1.cell? ⟨wr.heap.size, 1, none⟩ = some (.int .i64 y2) := cellB hb (by first | assumption | go_simp)); (have c2 : w1.cell? ⟨g1, f * 2, none⟩ = some (.int .i64 x) := cellB hb (by first | assumption | go_simp)); (have c3 : w1.cell? ⟨g1, f * 2 + 1, none⟩ = some (.int .i64 y) := cellB hb (by first | assumption | go_simp)); (have c4 : w1.cell? ⟨gs, k, none⟩ = some (.int .u8 0) := cellB hb (by first | assumption | go_simp)); (have c5 : w1.cell? ⟨gs, f, none⟩ = some (.int .u8 s) := cellB hb (by first | assumption | go_simp)); (have HBW : Hid (Below wr.heap.size wr w1) := Lib.hid (Below.trans (by go_grown) (hb.mono (by first | omega | (simp; done) | (simp; omega))))); (have c6 : w1.frozen? ⟨gs, k, none⟩ = false := (HBW.out.frozen (p := ⟨gs, k, none⟩) hgz).trans hfz); clear hb))
          have hz1 := HBW.out.size
          have HI1 := HI.out.later HBW.out
          have HO1 := Lib.hid (HO.out.more HBW.out)
          have H91 := H9.out.keep HBW.out
          have HI2 := Lib.hid HI1
          have H92 := Lib.hid H91
          clear HI1 H91
          go_wp2
          go_roundw
          case rel => exact ⟨k + 1, by omega, by go_num, by rw [HST2.out]; exact HI2.out, by rw [HST2.out]; exact H92.out, HO1.out⟩
          case measure => simp [intOf]; omega
      · have hzz : (z == 0) = false := beq_eq_false_iff_ne.2 hz0
        have hsn : labT M k ≠ none := fun e => hz0 (hzq ▸ e)
        have HST2 : Hid (reachK (crL xs) root d f (L, []) (k + 1) = (M, q)) := Lib.hid (by rw [HST.out, reachS, if_neg (by simp [hsn])])
        clear hzq hsn hz0
        go_wp2
        refine wp_region_held_drew (S := fun w' => w'.cell? ⟨gs, k, none⟩ = some (.int .u8 z)) (by kernel_rfl) (by (try dsimp only); go_keep) (fun hHeld => ?_)
        refine wpAnyH_take (i := 0) (v := ?v1) rfl (by kernel_rfl) (by kernel_rfl) (by kernel_rfl) (fun _ _ _ h => h) (Or.inl ⟨by rfl, ?hy1⟩) (by assumption) ?rest1
        case hy1 => (intro w hSw; (try dsimp only at hSw); go_simp; (try with_reducible rfl))
        simp only [Act.put, List.getElem_toArray, List.getElem_cons_zero, List.setIfInBounds_toArray, List.set_cons_zero, List.set_cons_succ]
        refine wpAnyH_take (i := 1) (v := ?v2) rfl (by kernel_rfl) (by kernel_rfl) (by kernel_rfl) (fun _ _ _ h => h) (Or.inl ⟨by rfl, ?hy2⟩) (by assumption) ?rest2
        case hy2 => (intro w hSw; (try dsimp only at hSw); go_simp; (try with_reducible rfl))
        simp only [Act.put, List.getElem_toArray, List.getElem_cons_zero, List.getElem_cons_succ, List.setIfInBounds_toArray, List.set_cons_zero, List.set_cons_succ]
        refine wpAnyH_take (i := 2) (v := ?v3) rfl (by kernel_rfl) (by kernel_rfl) (by kernel_rfl) (fun _ _ _ h => h) (Or.inl ⟨by rfl, ?hy3⟩) (by assumption) ?rest3
        case hy3 => (intro w hSw; (try dsimp only at hSw); go_simp; (try with_reducible rfl))
        simp only [Act.put, List.getElem_toArray, List.getElem_cons_zero, List.getElem_cons_succ, List.setIfInBounds_toArray, List.set_cons_zero, List.set_cons_succ]
        refine wpAnyH_take (i := 3) (v := ?v4) rfl (by kernel_rfl) (by kernel_rfl) (by kernel_rfl) (fun _ _ _ h => h) (Or.inl ⟨by rfl, ?hy4⟩) (by assumption) ?rest4
        case hy4 => (intro w hSw; (try dsimp only at hSw); go_simp; (try with_reducible rfl))
        simp only [Act.put, List.getElem_toArray, List.getElem_cons_zero, List.getElem_cons_succ, List.setIfInBounds_toArray, List.set_cons_zero, List.set_cons_succ]
        refine wpAnyH_take (i := 4) (v := ?v5) rfl (by kernel_rfl) (by kernel_rfl) (by kernel_rfl) (fun _ _ _ h => h) (Or.inl ⟨by rfl, ?hy5⟩) (by assumption) ?rest5
        case hy5 => (intro w hSw; (try dsimp only at hSw); go_simp; (try with_reducible rfl))
        simp only [Act.put, List.getElem_toArray, List.getElem_cons_zero, List.getElem_cons_succ, List.setIfInBounds_toArray, List.set_cons_zero, List.set_cons_succ]
        refine wpAnyH_take (i := 5) (v := ?v6) rfl (by kernel_rfl) (by kernel_rfl) (by kernel_rfl) (fun _ _ _ h => h) (Or.inl ⟨by rfl, ?hy6⟩) (by assumption) ?rest6
        case hy6 => (intro w hSw; (try dsimp only at hSw); go_simp; (try with_reducible rfl))
        simp only [Act.put, List.getElem_toArray, List.getElem_cons_zero, List.getElem_cons_succ, List.setIfInBounds_toArray, List.set_cons_zero, List.set_cons_succ]
        refine wpAnyH_take (i := 6) (v := undef) rfl (by kernel_rfl) (by kernel_rfl) (by kernel_rfl) (fun _ _ _ h => h) (Or.inr ⟨by rfl, rfl⟩) (by assumption) ?_
        simp only [Act.put, List.getElem_toArray, List.getElem_cons_zero, List.getElem_cons_succ, List.setIfInBounds_toArray, List.set_cons_zero, List.set_cons_succ]
        refine wpAnyH_take (i := 7) (v := undef) rfl (by kernel_rfl) (by kernel_rfl) (by kernel_rfl) (fun _ _ _ h => h) (Or.inr ⟨by rfl, rfl⟩) (by assumption) ?_
        simp only [Act.put, List.getElem_toArray, List.getElem_cons_zero, List.getElem_cons_succ, List.setIfInBounds_toArray, List.set_cons_zero, List.set_cons_succ]
        refine wpAnyH_take (i := 8) (v := undef) rfl (by kernel_rfl) (by kernel_rfl) (by kernel_rfl) (fun _ _ _ h => h) (Or.inr ⟨by rfl, rfl⟩) (by assumption) ?_
        simp only [Act.put, List.getElem_toArray, List.getElem_cons_zero, List.getElem_cons_succ, List.setIfInBounds_toArray, List.set_cons_zero, List.set_cons_succ]
        refine wpAnyH_take (i := 9) (v := undef) rfl (by kernel_rfl) (by kernel_rfl) (by kernel_rfl) (fun _ _ _ h => h) (Or.inr ⟨by rfl, rfl⟩) (by assumption) ?_
        simp only [Act.put, List.getElem_toArray, List.getElem_cons_zero, List.getElem_cons_succ, List.setIfInBounds_toArray, List.set_cons_zero, List.set_cons_succ]
        refine wpAnyH_take (i := 10) (v := undef) rfl (by kernel_rfl) (by kernel_rfl) (by kernel_rfl) (fun _ _ _ h => h) (Or.inr ⟨by rfl, rfl⟩) (by assumption) ?_
        simp only [Act.put, List.getElem_toArray, List.getElem_cons_zero, List.getElem_cons_succ, List.setIfInBounds_toArray, List.set_cons_zero, List.set_cons_succ]
        refine wpAnyH_take (i := 11) (v := undef) rfl (by kernel_rfl) (by kernel_rfl) (by kernel_rfl) (fun _ _ _ h => h) (Or.inr ⟨by rfl, rfl⟩) (by assumption) ?_
        simp only [Act.put, List.getElem_toArray, List.getElem_cons_zero, List.getElem_cons_succ, List.setIfInBounds_toArray, List.set_cons_zero, List.set_cons_succ]
        refine wpAnyH_take (i := 12) (v := ?v7) rfl (by kernel_rfl) (by kernel_rfl) (by kernel_rfl) (fun _ _ _ h => h) (Or.inl ⟨by rfl, ?hy7⟩) (by assumption) ?rest7
        case hy7 => (intro w hSw; (try dsimp only at hSw); go_simp; (try with_reducible rfl))
        simp only [Act.put, List.getElem_toArray, List.getElem_cons_zero, List.getElem_cons_succ, List.setIfInBounds_toArray, List.set_cons_zero, List.set_cons_succ]
        refine wpAnyH_done (by kernel_rfl) ?_ _
        go_wp2
        go_roundw
        case rel => exact ⟨k + 1, by omega, by go_num, by rw [HST2.out]; exact HI.out.later (by go_grown), by rw [HST2.out]; exact H9.out.keep (by go_grown), HO.out.more (by go_grown)⟩
        case measure => simp [intOf]; omega
    · obtain rfl : k = xs.length := by omega
      go_wp2
      go_ret
      exact ⟨_, rfl, hI, hB9, hO⟩

end Go.Proofs.Ytinjldakmjganaa
