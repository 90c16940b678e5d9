/- Channels in one goroutine, where nothing waits: a send into a buffer with room, and a select of one receive with a default, as steps of a region of the ordinary walk ('Code.wp' speaks of the machine's own steps, so that they fit). -/
import Derived.Conc.LoneCalls
import Derived.Conc.LoneSelect
import Derived.ProofKit
namespace Go.Proofs.Ytnldnjgnpdicnaa
open Go.RowKit
open Go.Conc (G solo scase rcase)

/-- The machine of one inside a region, from the operations l on. -/
def AtOps (P : Program) (ops : Array Oper) (Q : Exit → Act → World → Prop) (l : List Nat) (a : Act) (w : World) : Prop :=
  ∀ (b : Frame) (k : List Item) (cs : List Frame), ∃ e a' w', Q e a' w' ∧ Arrives P (lone (b.at a (.inRegion ops l :: k)) cs w) b k cs e a' w'

section
variable {P : Program} {ops : Array Oper} {Q : Exit → Act → World → Prop} {a : Act} {w : World}

theorem AtOps.nil (h : Q .normal a w) : AtOps P ops Q [] a w := fun _ _ _ => ⟨.normal, a, w, h, .one step_region_end⟩

theorem AtOps.of_ops {l : List Nat} (h : wpOps P ops Q l a w) : AtOps P ops Q l a w := fun b k cs => wp_ops l a w h b k cs

/-- Any one operation of the ordinary walk, what follows being whatever the machine does. -/
theorem AtOps.cons {i : Nat} {rest : List Nat} (h : wpOp P ops Q i (AtOps P ops Q rest) a w) : AtOps P ops Q (i :: rest) a w := by
  intro b k cs
  simp only [wpOp] at h
  cases ho : ops[i]? with
  | none =>
    simp only [ho] at h
    obtain ⟨e, a', w', hq, harr⟩ := h b k cs
    have hs := step_op_skip (P := P) (b := b) (a := a) (k := k) (cs := cs) (w := w) (ops := ops) (i := i) (rest := rest) (by simp [ho])
    simp only [ho, Option.bind_none, Act.put] at hs
    exact ⟨e, a', w', hq, .of_steps (.one hs) harr⟩
  | some o =>
    simp only [ho] at h
    by_cases hw : Region.wanted o (yielded ops a.tmps) = true
    · simp only [hw, if_true] at h
      rcases h with h | ⟨hasks, a₀, w₀, hq⟩
      case inr =>
        by_cases hk : b.kind = .early
        · exact ⟨.outgrown, a₀, w₀, hq, .inl hk⟩
        · exact ⟨.outgrown, a₀, w₀, hq, .inr (asks_outgrown ho hw hk hasks)⟩
      simp only [Oper.wp, Oper.upon] at h
      have hg := stepG_op (P := P) (b := b) (k := k) (cs := cs) (w := w) (rest := rest) ho hw
      have hfin : ∀ v, (b.at a (.inRegion ops (i :: rest) :: k)).finish v = b.at (a.put o.dst v) (.inRegion ops rest :: k) := by
        intro v; rw [Frame.finish_at, ho]; rfl
      split at h
      · rename_i v w' hr
        obtain ⟨e, a', w'', hq, harr⟩ := h b k cs
        refine ⟨e, a', w'', hq, .of_steps (.one (step_lone_go ?_)) harr⟩
        rw [hg, ← hfin]; simp [stepG.apply, hr]
      · rename_i w' hr
        obtain ⟨e, a', w'', hq, harr⟩ := h b k cs
        refine ⟨e, a', w'', hq, .of_steps (.one (step_lone_go ?_)) harr⟩
        rw [hg, ← hfin]; simp [stepG.apply, hr]
      · rename_i d w' hr
        obtain ⟨e, a', w'', hq, harr⟩ := h b k cs
        refine ⟨e, a', w'', hq, .of_steps (.one (step_lone_go ?_)) harr⟩
        have : ({ b.at a (.inRegion ops (i :: rest) :: k) with defers := d :: a.defers } : Frame).finish undef =
            b.at ({ a with defers := d :: a.defers }.put o.dst undef) (.inRegion ops rest :: k) := by
          have := Frame.finish_at b { a with defers := d :: a.defers } ops i rest k undef
          rw [ho] at this; exact this
        rw [hg]; simp only [stepG.apply, Sem.runT_eq, hr, GStep.bare_after]
        exact congrArg (fun fr => GStep.go { frame := fr, callers := cs, status := .running, dying := none } w') this
      · rename_i f args w' hr
        obtain ⟨e, w'', fr, hR, hsteps, _, hleave⟩ := h (b.at a (.inRegion ops (i :: rest) :: k) :: cs)
        have henter : step P (lone (b.at a (.inRegion ops (i :: rest) :: k)) cs w) =
            .next (lone (Frame.enter P f args .normal) (b.at a (.inRegion ops (i :: rest) :: k) :: cs) w') :=
          step_lone_go (by rw [hg]; simp [stepG.apply, hr, Frame.at])
        cases e with
        | returned v =>
          obtain ⟨e, a', w₃, hq, harr⟩ := hR b k cs
          refine ⟨e, a', w₃, hq, .of_steps (.head henter (hsteps.trans (.one ?_))) harr⟩
          rw [← hfin]; exact step_leave_returned hleave
        | panicked chain =>
          refine ⟨.panic chain, a, w'', hR, .inRegion ops (i :: rest) :: k, .head henter (hsteps.trans (.one ?_))⟩
          rw [← Frame.raise_at]; exact step_leave_panicked hleave
        | outgrown =>
          obtain ⟨a₀, w₀, hq⟩ := hR
          exact ⟨.outgrown, a₀, w₀, hq, .inr (Outgrown.of_steps (.one henter) hsteps)⟩
      · rename_i row args w' hr
        obtain ⟨v, w'', hR, hsteps⟩ := h (b.at a (.inRegion ops (i :: rest) :: k)) cs
        have henter : step P (lone (b.at a (.inRegion ops (i :: rest) :: k)) cs w) =
            .next (lone (Frame.ofRow P row args .normal) (b.at a (.inRegion ops (i :: rest) :: k) :: cs) w') :=
          step_lone_go (by rw [hg]; simp [stepG.apply, hr, Frame.at])
        obtain ⟨e, a', w₃, hq, harr⟩ := hR b k cs
        refine ⟨e, a', w₃, hq, .of_steps (.head henter ?_) harr⟩
        rw [← hfin]; exact hsteps
      · rename_i v w' hr
        refine ⟨_, a, w', h, .inRegion ops (i :: rest) :: k, .one (step_lone_go ?_)⟩
        rw [hg, ← Frame.raise_at]; simp [stepG.apply, hr]
      · exact h.elim
    · simp only [hw, if_false, Bool.false_eq_true] at h
      obtain ⟨e, a', w', hq, harr⟩ := h b k cs
      have hs := step_op_skip (P := P) (b := b) (a := a) (k := k) (cs := cs) (w := w) (ops := ops) (i := i) (rest := rest)
        (by simp [ho]; simpa using hw)
      simp only [ho, Option.bind_some] at hs
      exact ⟨e, a', w', hq, .of_steps (.one hs) harr⟩

/-- Operations of the ordinary walk ahead of what the machine does. -/
theorem AtOps.pre : ∀ (l : List Oper) (k : Nat) (rest : List Nat) (a : Act) (w : World), (∀ j o, l[j]? = some o → ops[k + j]? = some o) →
    wpList P ops (Exit.then (AtOps P ops Q rest) Q) l a w → AtOps P ops Q (List.range' k l.length ++ rest) a w := by
  intro l
  induction l with
  | nil => intro k rest a w _ h; exact h
  | cons o l ih =>
    intro k rest a w hl h
    have h0 : ops[k]? = some o := by simpa using hl 0 o rfl
    have hl' : ∀ j o', l[j]? = some o' → ops[k + 1 + j]? = some o' := fun j o' hj => by
      have := hl (j + 1) o' (by simpa using hj)
      simpa [Nat.add_assoc, Nat.add_comm 1 j] using this
    rw [List.length_cons, List.range'_succ, List.cons_append]
    refine AtOps.cons ?_
    simp only [wpOp, h0]
    simp only [wpList] at h
    split at h
    · rename_i hw
      rw [if_pos hw]
      rcases h with h | h
      · refine .inl ?_
        have h2 : o.wp P a w (AtOps P ops Q (List.range' (k + 1) l.length ++ rest)) (Exit.then (AtOps P ops Q rest) Q) := Oper.wp_mono (fun a w hh => ih (k + 1) rest a w hl' hh) h
        unfold Oper.wp at h2 ⊢
        generalize (execOp a.eval o).run P w = r at h2 ⊢
        cases r with
        | ok n w' => cases n <;> exact h2
        | halt x w' => cases x <;> exact h2
      · exact .inr h
    · rename_i hw
      rw [if_neg hw]
      exact ih (k + 1) rest _ w hl' h

/-- A region whose last operation is the machine's. -/
theorem wp_region_at {id : Nat} {l l1 : List Oper} {rest : List Nat} (hlen : List.range l.length = List.range' 0 l1.length ++ rest) (hl : ∀ j o, l1[j]? = some o → l.toArray[0 + j]? = some o)
    (h : wpList P l.toArray (Exit.then (AtOps P l.toArray Q rest) Q) l1 a w) : (Code.region id l.toArray false).wp P Q a w := by
  intro b k cs
  obtain ⟨e, a', w', q, r⟩ := AtOps.pre (ops := l.toArray) l1 0 rest a w hl h b k cs
  refine ⟨e, a', w', q, .of_steps (.one step_region) ?_⟩
  rw [List.size_toArray, hlen]
  exact r

theorem stepG_comm_any {b : Frame} {k : List Item} {cs : List Frame} {i : Nat} {rest : List Nat} {o : Oper} {cases : Array CommCase} {blocking : Bool} {shape : CommShape} {w' : World}
    (ho : ops[i]? = some o) (hw : Region.wanted o (yielded ops a.tmps) = true) (hr : (execOp a.eval o).run P w = .ok (.comm cases blocking shape) w') :
    ∃ es, stepG P true (G (b.at a (.inRegion ops (i :: rest) :: k)) cs) w = .comm (G (b.at a (.inRegion ops (i :: rest) :: k)) cs) cases blocking shape w' es := by
  rw [Conc.stepG_oper ho hw]
  simp [stepG.apply, hr, G, Frame.at, GStep.after]

/-- A send into a buffer with room. -/
theorem AtOps.send {i : Nat} {rest : List Nat} {o : Oper} {w₁ : World} {c cap s r : Nat} {buf : Array Value} {v z : Value} {tm : Bool} (ho : ops[i]? = some o) (hw : Region.wanted o (yielded ops a.tmps) = true)
    (hr : (execOp a.eval o).run P w = .ok (.comm #[scase c v z] true .send) w₁) (hc : w₁.heap[c]? = some (.chan cap buf false s r tm)) (hroom : buf.size < cap)
    (h : AtOps P ops Q rest (a.put o.dst undef) (w₁.setChan c cap (buf.push v) false (s + 1) r tm)) : AtOps P ops Q (i :: rest) a w := by
  intro b k cs
  obtain ⟨es, he⟩ := stepG_comm_any (b := b) (k := k) (cs := cs) (rest := rest) ho hw hr
  have hst := Conc.step_lone_send_room he hc hroom
  rw [Frame.finish_at, ho] at hst
  obtain ⟨e, a', w', hq, harr⟩ := h b k cs
  exact ⟨e, a', w', hq, .of_steps (.one hst) harr⟩

/-- A select of one receive with a default: the buffer holds something. -/
theorem AtOps.took {i : Nat} {rest : List Nat} {o : Oper} {w₁ : World} {c cap s r : Nat} {buf : Array Value} {z : Value} {tm cl : Bool} (ho : ops[i]? = some o) (hw : Region.wanted o (yielded ops a.tmps) = true)
    (hr : (execOp a.eval o).run P w = .ok (.comm #[rcase c z] false .select) w₁) (hc : w₁.heap[c]? = some (.chan cap buf cl s r tm)) (hsome : 0 < buf.size)
    (h : AtOps P ops Q rest (a.put o.dst (.tuple #[goInt 0, .bool true, buf.getD 0 undef])) (w₁.setChan c cap (buf.extract 1 buf.size) cl s (r + 1) tm)) : AtOps P ops Q (i :: rest) a w := by
  intro b k cs
  obtain ⟨es, he⟩ := stepG_comm_any (b := b) (k := k) (cs := cs) (rest := rest) ho hw hr
  have hst := Conc.step_lone_select_recv_buf he hc hsome
  rw [Frame.finish_at, ho] at hst
  obtain ⟨e, a', w', hq, harr⟩ := h b k cs
  exact ⟨e, a', w', hq, .of_steps (.one hst) harr⟩

/-- .. and it holds nothing. -/
theorem AtOps.nothing {i : Nat} {rest : List Nat} {o : Oper} {w₁ : World} {c cap s r : Nat} {z : Value} {tm : Bool} (ho : ops[i]? = some o) (hw : Region.wanted o (yielded ops a.tmps) = true)
    (hr : (execOp a.eval o).run P w = .ok (.comm #[rcase c z] false .select) w₁) (hc : w₁.heap[c]? = some (.chan cap #[] false s r tm))
    (h : AtOps P ops Q rest (a.put o.dst (.tuple #[goInt (-1), .bool false, z])) w₁) : AtOps P ops Q (i :: rest) a w := by
  intro b k cs
  obtain ⟨es, he⟩ := stepG_comm_any (b := b) (k := k) (cs := cs) (rest := rest) ho hw hr
  have hst := Conc.step_lone_select_default he hc
  rw [Frame.finish_at, ho] at hst
  obtain ⟨e, a', w', hq, harr⟩ := h b k cs
  exact ⟨e, a', w', hq, .of_steps (.one hst) harr⟩
end
end Go.Proofs.Ytnldnjgnpdicnaa
