/- Sets of chords: maps with chords for keys. -/
import Derived.Test.YtlkehdjfmmghjabZ3
import Derived.Maps.RangeWalk
import Derived.Maps.OwnSet
import Derived.DeepKeys4
namespace Go.Proofs.Ytlkehdjfmmghjab
open Go.RowKit Go.Maps
set_option linter.unusedVariables false

theorem laidOutP : laidOutB Try.prog = true := by kernel_rfl
theorem rowC : (61 : TypeId) < Try.prog.types.size := of_decide_eq_true (by kernel_rfl)
theorem keyC : Keyed Try.prog 61 := Keyed.of_law (deep_law_laid laidOutP (m := 2) (by omega) rowC (by kernel_rfl) (by rw [Try.underlying61]))

abbrev aggC (c : Int × Int) : Value := .agg #[.int .i64 c.1, .int .i64 c.2]

/-- The key of a chord. -/
def IsKey (c : Int × Int) (kl : Lit) : Prop := keyOf Try.prog 61 (aggC c) = some kl

theorem keyLits_C (a b : Value) (d : Nat) : Try.prog.keyLits (d + 2) 61 [a, b] = (Try.prog.keyLits (d + 1) 3 [a]).bind fun x => (Try.prog.keyLits (d + 1) 3 [b]).map fun y => x ++ y := by
  have hc : Try.prog.cellsOf 61 = 2 := by kernel_rfl
  have hi : Try.prog.cellsOf 3 = 1 := by kernel_rfl
  obtain ⟨x, hx⟩ : ∃ x, Try.prog.keyLits (d + 1) 3 [a] = x := ⟨_, rfl⟩
  obtain ⟨y, hy⟩ : ∃ y, Try.prog.keyLits (d + 1) 3 [b] = y := ⟨_, rfl⟩
  rw [hx, hy]
  unfold Program.keyLits
  rw [Try.underlying61]
  simp [hc, hi, List.mapM_cons, hx, hy]
  cases x <;> cases y <;> simp

theorem keyLits_int (a : Value) (d : Nat) : Try.prog.keyLits (d + 1) 3 [a] = match a with | .int .i64 n => if (Lit.int .i64 n).wf = true then some [.int .i64 n] else none | _ => none := by
  unfold Program.keyLits
  rw [Try.underlying3]
  cases a <;> try rfl
  rename_i q n
  cases q <;> simp

theorem formedC (a b : Value) : (Value.agg #[a, b]).formed Try.prog 61 = true := by
  have hc : Try.prog.cellsOf 61 = 2 := by kernel_rfl
  simp [Value.formed, Try.underlying61, hc]

theorem sizeP : ∃ d, Try.prog.types.size + 1 = d + 2 := ⟨Try.prog.types.size - 1, by have : 1 < Try.prog.types.size := Nat.lt_of_le_of_lt (by decide) rowC; omega⟩

theorem keyOf_agg (a b : Value) : keyOf Try.prog 61 (.agg #[a, b]) = (Try.prog.keyLits (Try.prog.types.size + 1) 61 [a, b]).map fun ls => .string (keyBytes ls) := by
  have hk : Try.prog.keyType 61 = true := by kernel_rfl
  unfold keyOf
  simp only [Try.underlying61, hk, formedC, Bool.and_self, if_true]
  rfl

theorem isKey_ex (c : Int × Int) (h1 : (Lit.int .i64 c.1).wf = true) (h2 : (Lit.int .i64 c.2).wf = true) : ∃ kl, IsKey c kl := by
  unfold IsKey
  rw [keyOf_agg]
  obtain ⟨d, hd⟩ := sizeP
  rw [hd, keyLits_C, keyLits_int, keyLits_int]
  simp only [h1, h2, if_true]
  exact ⟨_, rfl⟩

theorem two_of_size (cs : Array Value) (h : cs.size = 2) : ∃ a b, cs = #[a, b] := by
  match cs, h with
  | ⟨[a, b]⟩, _ => exact ⟨a, b, rfl⟩

theorem isKey_inv {v : Value} {kl : Lit} (h : keyOf Try.prog 61 v = some kl) : ∃ c : Int × Int, v = aggC c := by
  have hc : Try.prog.cellsOf 61 = 2 := by kernel_rfl
  have hk : Try.prog.keyType 61 = true := by kernel_rfl
  have hf : v.formed Try.prog 61 = true := by
    unfold keyOf at h
    simp only [Try.underlying61] at h
    cases e : v.formed Try.prog 61
    · rw [e] at h; simp at h
    · rfl
  cases v <;> simp only [Value.formed, Try.underlying61, Bool.false_eq_true] at hf
  rename_i cs
  rw [hc] at hf
  have hs : cs.size = 2 := by simpa using hf
  obtain ⟨a, b, rfl⟩ : ∃ a b, cs = #[a, b] := two_of_size cs hs
  rw [keyOf_agg] at h
  obtain ⟨d, hd⟩ := sizeP
  rw [hd, keyLits_C, keyLits_int, keyLits_int] at h
  split at h
  · split at h
    · split at h
      · exact ⟨(_, _), rfl⟩
      · simp at h
    · simp at h
  · simp at h

theorem isKey_inj {c d : Int × Int} {kl : Lit} (h1 : IsKey c kl) (h2 : IsKey d kl) : c = d := by
  have h := keyC.inj h1 h2
  simp only [aggC, Value.agg.injEq] at h
  have h' := congrArg Array.toList h
  simp at h'
  exact Prod.ext h'.1 h'.2

theorem isKey_one {c : Int × Int} {k l : Lit} (h1 : IsKey c k) (h2 : IsKey c l) : k = l := by
  unfold IsKey at h1 h2
  rw [h1] at h2
  exact Option.some.inj h2

theorem plainElem_bool_inv {P : Program} {e : TypeId} (he : P.underlying e = some .bool) {v : Value} {y : DataW Unit × List MemPlace} (h : plainElem P e v = some y) : ∃ b : Bool, v = .bool b := by
  unfold plainElem at h
  rw [he] at h
  cases v <;> simp at h
  exact ⟨_, rfl⟩

theorem elemB_inv {v : Value} {y : DataW Unit × List MemPlace} (h : plainElem Try.prog 4 v = some y) : ∃ b : Bool, v = .bool b := plainElem_bool_inv Try.underlying4 h

noncomputable abbrev elemB : Value → Option (DataW Unit × List MemPlace) := plainElem Try.prog 4

theorem elemB_mk (b : Bool) : elemB (.bool b) = some (.lit (.bool b), []) := plainElem_bool Try.underlying4 b

/-- Block b is a map of at most n entries whose keys are the chords xs. -/
def SetC (w : World) (b n : Nat) (xs : List (Int × Int)) : Prop :=
  ∃ D, w.ownsMap Try.prog 61 elemB b n D ∧ (∀ c kl, IsKey c kl → (has D kl = true ↔ c ∈ xs)) ∧ ∀ c ∈ xs, ∃ kl, IsKey c kl

theorem SetC.keep {w w' : World} {b n : Nat} {xs : List (Int × Int)} (h : SetC w b n xs) (hb : w'.heap[b]? = w.heap[b]?) : SetC w' b n xs := by
  obtain ⟨D, ⟨es, clock, hm, r⟩, h2⟩ := h
  exact ⟨D, ⟨es, clock, hb.trans hm, r⟩, h2⟩

theorem SetC.lt {w : World} {b n : Nat} {xs : List (Int × Int)} (h : SetC w b n xs) : b < w.heap.size := by
  obtain ⟨D, h1, _⟩ := h
  exact h1.lt

theorem SetC.made (w : World) : SetC (w.alloc (.map #[] 0)) w.heap.size 0 [] :=
  ⟨_, World.ownsMap_made w _ _ _, fun c kl _ => by simp [has_eq], fun c hc => by simp at hc⟩

/-- 'm[c] = true' -/
theorem SetC.put {w w' : World} {b n : Nat} {xs : List (Int × Int)} {D : DataW Unit} {c : Int × Int} {kl : Lit} {d : DataW Unit} (hD : w.ownsMap Try.prog 61 elemB b n D)
    (h1 : ∀ c kl, IsKey c kl → (has D kl = true ↔ c ∈ xs)) (h2 : ∀ c ∈ xs, ∃ kl, IsKey c kl) (hk : IsKey c kl) (h : w'.ownsMap Try.prog 61 elemB b (n + 1) (D.put kl d)) : SetC w' b (n + 1) (xs ++ [c]) := by
  refine ⟨_, h, fun x k hx => ?_, fun x hx => ?_⟩
  · by_cases e : x = c
    · subst e
      have := isKey_one hx hk
      subst this
      rw [has_put_same hD.isMap (keyC.key hk)]
      simp
    · rw [has_put_other (show k ≠ kl from fun e' => e (isKey_inj hx (by rw [e']; exact hk))), h1 x k hx]
      simp [e]
  · rw [List.mem_append, List.mem_singleton] at hx
    rcases hx with hx | rfl
    · exact h2 x hx
    · exact ⟨_, hk⟩

/-- What has been told of a set, as a function of what is still to come. -/
def ToldC (D : DataW Unit) (left : Lit → Bool) (ys : List (Int × Int)) : Prop :=
  ys.Nodup ∧ (∀ c kl, IsKey c kl → (c ∈ ys ↔ has D kl = true ∧ left kl = false)) ∧ (∀ c ∈ ys, ∃ kl, IsKey c kl) ∧ ∀ kl, left kl = true → has D kl = true

theorem toldC_start (D : DataW Unit) : ToldC D (has D) [] :=
  ⟨List.nodup_nil, fun c kl _ => by simp, fun c hc => by simp at hc, fun _ h => h⟩

theorem toldC_step {D : DataW Unit} {left : Lit → Bool} {ys : List (Int × Int)} {c : Int × Int} {kl : Lit} (h : ToldC D left ys) (hk : IsKey c kl) (hl : left kl = true) : ToldC D (fun z => left z && !z.sameKey kl) (ys ++ [c]) := by
  obtain ⟨h1, h2, h3, h4⟩ := h
  refine ⟨?_, fun x k hx => ?_, fun x hx => ?_, fun k hk' => h4 k (by simp at hk'; exact hk'.1)⟩
  · rw [List.nodup_append]
    refine ⟨h1, by simp, fun x hx y hy => ?_⟩
    rw [List.mem_singleton] at hy
    subst hy
    rintro rfl
    have := (h2 x kl hk).1 hx
    rw [hl] at this
    cases this.2
  · by_cases e : x = c
    · subst e
      have := isKey_one hx hk
      subst this
      simp [WideAt.sameKey_self (keyC.key hk), h4 k hl]
    · have hne : k ≠ kl := fun e' => e (isKey_inj hx (by rw [e']; exact hk))
      show _ ↔ has D k = true ∧ (left k && !k.sameKey kl) = false
      rw [List.mem_append, List.mem_singleton, h2 x k hx, sameKey_ne hne]
      simp [e]
  · rw [List.mem_append, List.mem_singleton] at hx
    rcases hx with hx | rfl
    · exact h3 x hx
    · exact ⟨_, hk⟩

theorem toldC_end {D : DataW Unit} {left : Lit → Bool} {xs ys : List (Int × Int)} (h : ToldC D left ys) (h1 : ∀ c kl, IsKey c kl → (has D kl = true ↔ c ∈ xs)) (h2 : ∀ c ∈ xs, ∃ kl, IsKey c kl) (hl : ∀ kl, left kl = false) : ys.Nodup ∧ ∀ c, c ∈ ys ↔ c ∈ xs := by
  refine ⟨h.1, fun c => ⟨fun hc => ?_, fun hc => ?_⟩⟩
  · obtain ⟨kl, hk⟩ := h.2.2.1 c hc
    exact (h1 c kl hk).1 ((h.2.1 c kl hk).1 hc).1
  · obtain ⟨kl, hk⟩ := h2 c hc
    exact (h.2.1 c kl hk).2 ⟨(h1 c kl hk).2 hc, hl kl⟩

end Go.Proofs.Ytlkehdjfmmghjab
