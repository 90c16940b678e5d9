/- The edge of threads: its threads, the program. -/
import Derived.Test.YtpcebcgmbngababEC
import Derived.Test.YtpcebcgmbngababUGi
import Derived.Test.YtpcebcgmbngababBL
namespace Go.Proofs.Ytpcebcgmbngabab
open Go.RowKit
set_option linter.unusedVariables false

/-- The edge from thread k on. -/
def edgeF (xs : List (Int × Int)) : Nat → Nat → List Int
  | 0, _ => []
  | f + 1, k => (k : Int) :: (match nxtE xs k xs.length with | none => [] | some j => edgeF xs f j)

def edgeT (xs : List (Int × Int)) : List Int := edgeF xs xs.length (startE xs xs.length)

/-- How far along the edge: pre lies behind. -/
def EdgeAt (xs : List (Int × Int)) (pre : List Int) (kv mv : Value) : Prop :=
  (∃ f k : Nat, k < xs.length ∧ xs.length ≤ f + k ∧ pre.length ≤ k ∧ kv = .int .i64 k ∧ mv = .bool true ∧ pre ++ edgeF xs f k = edgeT xs) ∨ (kv = .int .i64 0 ∧ mv = .bool false ∧ pre = edgeT xs)

theorem edge_next {xs : List (Int × Int)} (hg : goodT xs) {pre : List Int} {f k : Nat} (hk : k < xs.length) (hf : xs.length ≤ f + k) (hp : pre.length ≤ k) (he : pre ++ edgeF xs f k = edgeT xs) :
    EdgeAt xs (pre ++ [(k : Int)]) (.int .i64 ((nxtE xs k xs.length).getD 0 : Nat)) (.bool (nxtE xs k xs.length).isSome) := by
  obtain ⟨f, rfl⟩ : ∃ f', f = f' + 1 := ⟨f - 1, by omega⟩
  rw [edgeF] at he
  cases hn : nxtE xs k xs.length with
  | none =>
    rw [hn] at he
    exact .inr ⟨rfl, rfl, he⟩
  | some j =>
    rw [hn] at he
    have hj := nxt_some _ _ hn
    have hkj := cand_after hg hk hj.2
    exact .inl ⟨f, j, hj.1, by omega, by simp; omega, rfl, rfl, by simpa using he⟩

set_option maxHeartbeats 1000000 in
theorem iEdgeThreads_yes (u : Value) (xs : List (Int × Int)) (B T : Nat) (w : World) (h : PairsIn 82 w B T u xs) (hT : T ≤ w.heap.size) (hg : goodT xs) :
    Calls Try.prog 30 #[u] w (Gives (IntsIn 3) w (edgeT xs) true) := by
  have HU := Lib.hid h
  have HG := Lib.hid hg
  have hn : xs.length ≤ 30 := hg.1.2
  have hn1 : 0 < xs.length := hg.1.1
  obtain ⟨g1, c1, rfl⟩ := list_form h hn1
  clear h hg
  go_enter Try.func30, Try.ntmps30
  go_wp2_with (first
    | (go_at_call 64; (with_reducible refine (AreThreads_yes _ _ B T _ HU.out HG.out).mono ?_); rintro e w1 ⟨rfl, hb1⟩; have HU1 := Lib.hid (HU.out.keep (belowSame hb1 hT)); have hz1 := hb1.size)
    | (go_at_call 65; (with_reducible refine (edgeStart_any _ xs B T _ HU1.out (by omega) HG.out).mono ?_); rintro e w2 ⟨rfl, hb2⟩; have hB2 := hb1.trans (hb2.mono hz1)))
  go_loopw [4, 5, 6] (fun kv mv c wr => ∃ pre : List Int, Hid (EdgeAt xs pre kv mv) ∧ pre.length ≤ 30 ∧ Ints wr w.heap.size 3 c pre ∧ Below w.heap.size w wr) (fun kv mv _ _ => match mv with | .bool true => xs.length - (intOf kv).toNat | _ => 0)
  case atStart => exact ⟨[], Lib.hid (.inl ⟨xs.length, startE xs xs.length, startE_lt xs hn1 _ (Nat.le_refl _), by omega, by simp, rfl, rfl, rfl⟩), by simp, World.ownsRow_nil _ _ _ _, hB2⟩
  case round =>
    obtain ⟨pre, HE, hpl, hI, hB⟩ := hrel
    have hz := hB.size
    have HI := Lib.hid hI
    clear hI
    rcases HE.out with ⟨f, k, hk, hf, hp, rfl, rfl, he⟩ | ⟨rfl, rfl, he⟩
    · have HNE := Lib.hid (edge_next HG.out hk hf hp he)
      have HNS := Lib.hid (fun j => nxt_some (xs := xs) (k := k) xs.length j)
      clear he
      obtain ⟨o, ho⟩ : ∃ o, nxtE xs k xs.length = o := ⟨_, rfl⟩
      rw [ho] at HNE HNS
      have HO := Lib.hid ho
      clear ho
      go_wp2_with (first
        | (at_builtin; refine wpList_append_int rfl _ _ 39 rfl (w.heap.size) 3 Try.underlying39 info_int _ _ rfl HI.out (k : Int) rfl (by omega) (by omega) ?_; intro v' w' hI' hg'; have hB' := HI.out.below hB hz hg'; have HI' := Lib.hid hI'; clear hI'; have HU' := Lib.hid (HU.out.keep (belowSame hB' hT)); have hz' := hB'.size)
        | (go_at_call 66; (with_reducible refine (nextOnEdge_any _ xs B T _ HU'.out (by omega) k HG.out hk).mono ?_); rintro e w3 ⟨rfl, hb3⟩; rw [HO.out]))
      go_roundw
      case rel => exact ⟨pre ++ [(k : Int)], HNE, by simp; omega, HI'.out.later hb3, hB'.trans (hb3.mono hz')⟩
      case measure =>
        cases o with
        | none => simp [intOf]; omega
        | some j =>
          have h1 := HNS.out j rfl
          have h2 := cand_after HG.out hk h1.2
          simp [intOf]; omega
    · subst he
      go_wp2
      go_ret2
      exact ⟨_, rfl, ⟨HI.out, fun b hb => (HI.out.own b hb).2⟩, hB⟩

end Go.Proofs.Ytpcebcgmbngabab
