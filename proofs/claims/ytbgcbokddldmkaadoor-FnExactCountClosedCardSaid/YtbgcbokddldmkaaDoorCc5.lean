/- Closed words, counted: one sign more. -/
import Derived.Test.YtbgcbokddldmkaaDoorCc4
namespace Go.Proofs.YtbgcbokddldmkaaDoor
open Go.RowKit Go.Maps
set_option linter.unusedVariables false

open Classical in
/-- Those counts whose keys are still to come. -/
noncomputable def restC (xs : Cnts) (left : Lit → Bool) : Cnts := xs.filter fun q => decide (∃ kl, IsKeyP q.1 kl ∧ left kl = true)

open Classical in
theorem restC_start {D : DataW Unit} {xs : Cnts} (h : ReadsC D xs) : restC xs (Maps.has D) = xs := by
  unfold restC
  refine List.filter_eq_self.2 fun q hq => ?_
  obtain ⟨kl, h1, h2, _⟩ := h.has q hq
  exact decide_eq_true ⟨kl, h1, h2⟩

open Classical in
theorem restC_end {xs : Cnts} {left : Lit → Bool} (h : ∀ kl, left kl = false) : restC xs left = [] := by
  unfold restC
  refine List.filter_eq_nil_iff.2 fun q hq => ?_
  simp [h]

theorem once_restC {xs : Cnts} (h : Once xs) (left : Lit → Bool) : Once (restC xs left) := (List.filter_sublist.map _).nodup h

open Classical in
theorem restC_step {D : DataW Unit} {xs : Cnts} (h : ReadsC D xs) {left : Lit → Bool} {p : Tri} {kl : Lit} {c : Int} (hk : IsKeyP p kl) (hl : left kl = true) (hat : ∀ z, D.atKey kl z = .lit (.int .i64 c)) :
    (p, c) ∈ xs ∧ ∀ U : Tri → Int, wt (restC xs left) U = c * U p + wt (restC xs fun z => left z && !z.sameKey kl) U := by
  have hhas := has_true_of_atKey hat
  obtain ⟨q, hq, hqp⟩ := h.all p kl hk hhas
  obtain ⟨k2, g1, g2, g3⟩ := h.has q hq
  obtain rfl : k2 = kl := isKeyP_one (hqp ▸ g1) hk
  have hc : q.2 = c := by
    have := (g3 .nil).symm.trans (hat .nil)
    simpa using this
  have hqe : q = (p, c) := Prod.ext hqp hc
  refine ⟨hqe ▸ hq, fun U => ?_⟩
  have hin : (p, c) ∈ restC xs left := by
    unfold restC
    exact List.mem_filter.2 ⟨hqe ▸ hq, decide_eq_true ⟨_, hk, hl⟩⟩
  have ho := once_restC h.once left
  rw [wt_without ho p U, look_mem ho hin]
  suffices e : without' (restC xs left) p = restC xs fun z => left z && !z.sameKey k2 by rw [e]
  unfold without' restC
  rw [List.filter_filter]
  refine List.filter_congr fun x hx => ?_
  obtain ⟨kx, f1, f2, _⟩ := h.has x hx
  by_cases e : x.1 = p
  · have hkx : kx = k2 := isKeyP_one (e ▸ f1) hk
    have r : ¬ ∃ kl', IsKeyP x.1 kl' ∧ (left kl' && !kl'.sameKey k2) = true := by
      rintro ⟨k3, m1, m2⟩
      rw [isKeyP_one m1 (e ▸ hk), WideAt.sameKey_self (keyPl.key hk)] at m2
      simp at m2
    rw [decide_eq_false r, show decide (x.1 ≠ p) = false from decide_eq_false fun h => h e, Bool.false_and]
  · have hne : ∀ k3, IsKeyP x.1 k3 → k3.sameKey k2 = false := fun k3 m => sameKey_ne fun e2 => e (isKeyP_inj m (e2 ▸ hk))
    rw [show decide (x.1 ≠ p) = true from decide_eq_true e, Bool.true_and]
    refine decide_eq_decide.2 ⟨fun ⟨k3, m1, m2⟩ => ⟨k3, m1, by show (left k3 && !k3.sameKey k2) = true; rw [hne k3 m1, m2]; rfl⟩, fun ⟨k3, m1, m2⟩ => ⟨k3, m1, ?_⟩⟩
    have m3 : (left k3 && !k3.sameKey k2) = true := m2
    rw [hne k3 m1] at m3
    simpa using m3

/-- The step of a loop over a map of counts. -/
theorem next_counts (w : World) {ops : Array Oper} {rest : List Oper} {o : Oper} {a : Act} {Q : Exit → Act → World → Prop} (hg : o.guard = none) (it : Operand) (hop : o.op = Op.next it false) (b r n : Nat) (D : DataW Unit) (left : Lit → Bool) (cnt : Nat)
    (hit : a.eval it = .pointer (some ⟨r, 0, none⟩)) (h : w.ranges Tryd.prog 119 elemN b r n D left cnt)
    (hDone : (∀ kl, left kl = false) → wpList Tryd.prog ops Q rest (a.put o.dst (.tuple #[.bool false])) w)
    (hMore : ∀ (x y d c : Int) (kl : Lit) (w' : World) (cnt' : Nat), IsKeyP (x, y, d) kl → left kl = true → (∀ z, D.atKey kl z = .lit (.int .i64 c)) → w'.ranges Tryd.prog 119 elemN b r n D (fun z => left z && !z.sameKey kl) cnt' → cnt' < cnt →
      w.grownBy w' (some r) → w'.heap.size = w.heap.size → (Instr.entry (.pointer (some ⟨r, 0, none⟩))).run Tryd.prog w' = .ok (.tuple #[.agg #[.int .i64 x, .int .i64 y, .int .i64 d], .int .i64 c]) w' → wpList Tryd.prog ops Q rest (a.put o.dst (.tuple #[.bool true, .agg #[.int .i64 x, .int .i64 y, .int .i64 d], .int .i64 c])) w') :
    wpList Tryd.prog ops Q (o :: rest) a w :=
  wpList_next_ranges w hg it hop 119 keyPl elemN aggP (fun c : Int => Value.int .i64 c) (fun key kl hkey => isKeyP_inv hkey) (fun v y hy => by obtain ⟨c, hc, _⟩ := elemN_inv hy; exact ⟨c, hc⟩) b r n D left cnt hit h (fun _ hl => hDone hl)
    (fun p c kl y w' cnt' hkey hlk hv hat hrg hlt hgr hsz hen => hMore p.1 p.2.1 p.2.2 c kl w' cnt' hkey hlk (fun z => by
      obtain ⟨c2, h1, h2, _⟩ := elemN_inv hv
      simp only [Value.int.injEq, true_and] at h1
      rw [hat z, h2, h1]) hrg hlt hgr hsz hen)

theorem MapC.mono {w : World} {b n n' : Nat} {xs : Cnts} (h : MapC w b n xs) (hn : n ≤ n') : MapC w b n' xs := by
  obtain ⟨D, h1, h2⟩ := h
  exact ⟨D, h1.mono hn, h2⟩

theorem wt_three (xs : Cnts) : wt xs (fun _ => 1 + 1 + 1) = 3 * wt xs (fun _ => 1) := by
  induction xs with
  | nil => rfl
  | cons q r ih => rw [wt_cons, wt_cons, ih]; omega

theorem fromT_one (g : Int) (p : Tri) (j : Nat) : 0 ≤ fromT g (fun _ => 1) p j := by
  match j with
  | 0 => show (0 : Int) ≤ 1 + 1 + 1; omega
  | 1 => show (0 : Int) ≤ 1 + 1; omega
  | 2 => show (0 : Int) ≤ 1; omega
  | _ + 3 => show (0 : Int) ≤ 0; omega

/-- What has been counted is bounded by what there was. -/
theorem wt_bound {g : Int} {m : Nat} {xs ys : Cnts} (hx : AllPos g m xs) {left : Lit → Bool} {c : Int} (hc : 0 ≤ c) {p : Tri} {j : Nat}
    (h : wt ys (fun _ => 1) + c * fromT g (fun _ => 1) p j + wt (restC xs left) (moreT g fun _ => 1) = wt xs (moreT g fun _ => 1)) (hT : wt xs (fun _ => 1) ≤ 20000) : wt ys (fun _ => 1) ≤ 60000 := by
  have h1 : wt xs (moreT g fun _ => 1) = 3 * wt xs (fun _ => 1) := wt_three xs
  have h2 : wt (restC xs left) (moreT g fun _ => 1) = 3 * wt (restC xs left) (fun _ => 1) := wt_three _
  have h3 := wt_one_nonneg (g := g) (n := m) (xs := restC xs left) fun q hq => hx.2 q (by unfold restC at hq; exact (List.mem_filter.1 hq).1)
  have h4 := Int.mul_nonneg hc (fromT_one g p j)
  omega

theorem grownOfBelow {w w' : World} (h : Below w.heap.size w w') (row : Option Nat) : w.grownBy w' row := ⟨h.os, h.tape, h.output, h.size, fun i hi _ => h.block i hi⟩

theorem grown_setBlock {w : World} {b : Nat} {o : Obj} (hb : b < w.heap.size) : w.grownBy (Go.ChangeMaps.setBlock w b o) (some b) :=
  ⟨rfl, rfl, rfl, by simp [Go.ChangeMaps.setBlock], fun i _ hi => by
    unfold Go.ChangeMaps.setBlock
    simp only
    rw [Array.getElem?_setIfInBounds_ne (fun e => hi (by rw [e]))]⟩

end Go.Proofs.YtbgcbokddldmkaaDoor
