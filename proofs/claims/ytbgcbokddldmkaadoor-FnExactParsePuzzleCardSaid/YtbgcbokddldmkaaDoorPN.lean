/- Numbers that texts tell: the program's reader. -/
import Derived.Test.YtbgcbokddldmkaaDoorDN
import Derived.Test.YtbgcbokddldmkaaDoorSp
import Derived.WalkSmall
import Derived.Lib.LaidTab
import Derived.Lib.SmallJoins
import Derived.Lib.AtoiErrMem
import Derived.Lib.ItoaMem
namespace Go.Proofs.YtbgcbokddldmkaaDoor
open Go.RowKit
set_option linter.unusedVariables false

/-- What the library's readers and writers of numbers ask of the world: its own variables. -/
structure NumW (w : World) : Prop where
  tab : Lib.TabIs Tryd.prog w "internal/strconv.uint64pow10" .u64 Lib.pow10Tab
  syn : ∃ tp p, w.var? Tryd.prog "strconv.ErrSyntax" = some #[.iface tp p]
  ran : ∃ tp p, w.var? Tryd.prog "strconv.ErrRange" = some #[.iface tp p]
  most : ∃ m, w.cell? ⟨3, 0, none⟩ = some (.int .i64 m)

theorem g_tab : Tryd.prog.globalNamed "internal/strconv.uint64pow10" = some 4 := by kernel_rfl
theorem g_syn : Tryd.prog.globalNamed "strconv.ErrSyntax" = some 7 := by kernel_rfl
theorem g_ran : Tryd.prog.globalNamed "strconv.ErrRange" = some 8 := by kernel_rfl

theorem var_lt {w : World} {n : String} {g : Nat} {x : Value} (hg : Tryd.prog.globalNamed n = some g) (h : w.var? Tryd.prog n = some #[x]) : g < w.heap.size := by
  have := World.var?_cell hg h 0
  exact World.block_lt_of_cell? w ⟨g, 0, none⟩ (by rw [this]; rfl)

theorem NumW.later {w w' : World} (h : NumW w) (hb : Below w.heap.size w w') : NumW w' := by
  obtain ⟨tp, p, hs⟩ := h.syn
  obtain ⟨tp2, p2, hr⟩ := h.ran
  obtain ⟨m, hm⟩ := h.most
  exact ⟨Go.Joins.tab_stays g_tab h.tab hb (Nat.le_refl _), ⟨tp, p, var?_below hb g_syn (var_lt g_syn hs) hs⟩, ⟨tp2, p2, var?_below hb g_ran (var_lt g_ran hr) hr⟩, ⟨m, (hb.cell (World.block_lt_of_cell? w _ hm)).trans hm⟩⟩

theorem grow_below (w : World) (k : Nat) (os : Array Obj) : Below w.heap.size w (Sort.grow (w.drewN k) os) :=
  ⟨rfl, rfl, rfl, by show w.heap.size ≤ (w.heap ++ os).size; rw [Array.size_append]; omega, fun j hj => by show (w.heap ++ os)[j]? = w.heap[j]?; rw [Array.getElem?_append_left hj]⟩

theorem itoaN (n : Int) (h0 : -9223372036854775808 ≤ n) (h1 : n ≤ 9223372036854775807) (w : World) (h : NumW w) :
    Calls Tryd.prog 107 #[.int .i64 n] w fun e w' => e = .returned (.string ⟨(Lib.itoa n).toArray⟩) ∧ Below w.heap.size w w' :=
  (Any.strconv_Itoa Tryd.itoaM n h0 h1 w h.tab).mono fun _ _ ⟨he, k, os, hw⟩ => ⟨he, by rw [hw]; exact grow_below w k os⟩

theorem atoiOk (s : ByteArray) (hs : s.size ≤ 1048576) (v : Int) (h : Lib.atoiAll s.data.toList = .ok v) (w : World) :
    Calls Tryd.prog 142 #[.string s] w fun e w' => e = .returned (.tuple #[.int .i64 v, .nilIface]) ∧ Below w.heap.size w w' :=
  (Any.strconv_Atoi_ok Tryd.atoiC s (by omega) v h w).mono fun _ _ ⟨he, hw⟩ => ⟨he, by
    rcases hw with rfl | ⟨t, rfl⟩
    · exact Below.refl _ _
    · exact Lib.bytesWorld_below _ _ _⟩

theorem atoiNo (s : ByteArray) (hs : s.size ≤ 1048576) (h : ∀ v, Lib.atoiAll s.data.toList ≠ .ok v) (w : World) (hn : NumW w) :
    Calls Tryd.prog 142 #[.string s] w fun e w' => ∃ n t N, e = .returned (.tuple #[.int .i64 n, .iface t (.pointer (some ⟨N, 0, none⟩))]) ∧ Below w.heap.size w w' := by
  obtain ⟨tp, p, hS⟩ := hn.syn
  obtain ⟨tp2, p2, hR⟩ := hn.ran
  cases hc : Lib.atoiAll s.data.toList with
  | ok v => exact absurd hc (h v)
  | «syntax» => exact (Any.strconv_Atoi_syntax_var Tryd.atoiC s (by omega) hc tp p w hS).mono fun _ _ ⟨N, he, _, _, hb⟩ => ⟨0, _, N, he, hb⟩
  | range => exact (Any.strconv_Atoi_range_var Tryd.atoiC s (by omega) hc tp2 p2 w hR).mono fun _ _ ⟨N, he, _, _, hb⟩ => ⟨_, _, N, he, hb⟩

theorem l_arr (s : ByteArray) : (⟨s.data.toList.toArray⟩ : ByteArray) = s := by cases s; rfl

set_option maxHeartbeats 1000000 in
theorem plainNumber_yes (s : ByteArray) (n : Nat) (w : World) (hs : s.size ≤ 1048576) (hn : NumW w) (h : plainT s.data.toList = some n) :
    Calls Tryd.prog 111 #[.string s] w fun e w' => e = .returned (.tuple #[.int .i64 n, .bool true]) ∧ Below w.heap.size w w' := by
  unfold plainT at h
  cases hc : Lib.atoiAll s.data.toList with
  | «syntax» => rw [hc] at h; cases h
  | range => rw [hc] at h; cases h
  | ok v =>
    rw [hc] at h
    simp only at h
    split at h
    · rename_i hv
      obtain ⟨v0, hi⟩ := hv
      cases h
      obtain ⟨m, rfl⟩ := Int.eq_ofNat_of_zero_le v0
      obtain ⟨b0, b1⟩ := Lib.atoiAll_bounds hc
      rw [Int.toNat_natCast]
      have HA := Lib.hid (fun W => atoiOk s hs m hc W)
      have HI := Lib.hid (fun W h => itoaN m (by omega) (by omega) W h)
      have e0 : (⟨(Lib.itoa (m : Int)).toArray⟩ : ByteArray) = s := (congrArg (fun l : List UInt8 => (⟨l.toArray⟩ : ByteArray)) hi).trans (l_arr s)
      rw [e0] at HI
      have HN := Lib.hid hn
      clear hc hi e0 hn
      go_enter Tryd.func111, Tryd.ntmps111
      go_wp2_with (first
        | (go_at_call 142; (refine (HA.out _).mono ?_); rintro e w1 ⟨rfl, hb1⟩)
        | (go_at_call 107; (refine (HI.out _ (HN.out.later hb1)).mono ?_); rintro e w2 ⟨rfl, hb2⟩))
      go_ret2
      exact ⟨rfl, hb1.trans (hb2.mono hb1.size)⟩
    · cases h

set_option maxHeartbeats 1000000 in
theorem plainNumber_no (s : ByteArray) (w : World) (hs : s.size ≤ 1048576) (hn : NumW w) (h : plainT s.data.toList = none) :
    Calls Tryd.prog 111 #[.string s] w fun e w' => e = .returned (.tuple #[.int .i64 0, .bool false]) ∧ Below w.heap.size w w' := by
  by_cases hok : ∃ v, Lib.atoiAll s.data.toList = .ok v
  · obtain ⟨v, hc⟩ := hok
    unfold plainT at h
    rw [hc] at h
    simp only at h
    obtain ⟨b0, b1⟩ := Lib.atoiAll_bounds hc
    have HA := Lib.hid (fun W => atoiOk s hs v hc W)
    have HN := Lib.hid hn
    by_cases v0 : v < 0
    · clear h hc hn
      go_enter Tryd.func111, Tryd.ntmps111
      go_wp2_with (first | (go_at_call 142; (refine (HA.out _).mono ?_); rintro e w1 ⟨rfl, hb1⟩))
      go_ret2
      exact ⟨rfl, hb1⟩
    · have hne : (⟨(Lib.itoa v).toArray⟩ : ByteArray) ≠ s := fun e => by
        rw [if_pos ⟨by omega, by rw [← e]⟩] at h
        cases h
      have hb : ((⟨(Lib.itoa v).toArray⟩ : ByteArray).toList == s.toList) = false := beq_eq_false_iff_ne.2 fun e => hne (by
        rw [ByteArray.toList_eq, ByteArray.toList_eq] at e
        rw [← l_arr s, ← e])
      have HI := Lib.hid (fun W h => itoaN v (by omega) (by omega) W h)
      obtain ⟨u, hu⟩ : ∃ u : ByteArray, ⟨(Lib.itoa v).toArray⟩ = u := ⟨_, rfl⟩
      rw [hu] at HI hb hne
      clear h hc hn hu
      go_enter Tryd.func111, Tryd.ntmps111
      go_wp2_with (first
        | (go_at_call 142; (refine (HA.out _).mono ?_); rintro e w1 ⟨rfl, hb1⟩)
        | (go_at_call 107; (refine (HI.out _ (HN.out.later hb1)).mono ?_); rintro e w2 ⟨rfl, hb2⟩))
      go_ret2
      exact ⟨rfl, hb1.trans (hb2.mono hb1.size)⟩
  · have HA := Lib.hid (fun W h => atoiNo s hs (fun v hv => hok ⟨v, hv⟩) W h)
    have HN := Lib.hid hn
    clear h hn hok
    go_enter Tryd.func111, Tryd.ntmps111
    go_wp2_with (first | (go_at_call 142; (refine (HA.out _ HN.out).mono ?_); rintro e w1 ⟨n, t, N, rfl, hb1⟩))
    go_ret2
    exact ⟨rfl, hb1⟩

end Go.Proofs.YtbgcbokddldmkaaDoor
