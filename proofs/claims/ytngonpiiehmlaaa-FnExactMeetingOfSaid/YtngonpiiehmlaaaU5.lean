/- The meeting of two threads: the law. -/
import Derived.Test.YtngonpiiehmlaaaU3
import Derived.Test.YtngonpiiehmlaaaV3
namespace Go.Proofs.Ytngonpiiehmlaaa
open Go.RowKit
set_option linter.unusedVariables false

theorem sgMeeting_any (a b c d : Int) (w : World) (h1 : isT a b) (h2 : isT c d) (hm : meetB a b c d = true) :
    Calls Try.prog 56 #[.agg #[.int .i64 a, .int .i64 b], .agg #[.int .i64 c, .int .i64 d]] w (GivesInts w (meetL a b c d)) := by
  have h := hm
  unfold meetB at h
  rw [decide_eq_true_eq] at h
  rcases h with h | h
  · rw [meetL_comm a b c d hm]; exact sgMeeting_gt a b c d w h1 h2 h.1 h.2
  · exact sgMeeting_lt a b c d w h1 h2 h.1 h.2

theorem meetingOf_any (a b c d : Int) (w : World) (h1 : isT a b) (h2 : isT c d) (hm : meetB a b c d = true) :
    Calls Try.prog 57 #[.agg #[.int .i64 a, .int .i64 b], .agg #[.int .i64 c, .int .i64 d]] w fun e w' => (∃ ax bx ay cy : Int, meetL a b c d = [ax, bx, ay, cy] ∧ e = .returned (.agg #[.int .i64 ax, .int .i64 bx, .int .i64 ay, .int .i64 cy])) ∧ Below w.heap.size w w' := by
  have h := hm
  unfold meetB at h
  rw [decide_eq_true_eq] at h
  rcases h with h | h
  · rw [meetL_comm a b c d hm]; exact meetingOf_gt a b c d w h1 h2 h.1 h.2
  · exact meetingOf_lt a b c d w h1 h2 h.1 h.2

set_option maxHeartbeats 400000 in
theorem numbers_any (ax bx ay cy : Int) (w : World) :
    Calls Try.prog 58 #[.agg #[.int .i64 ax, .int .i64 bx, .int .i64 ay, .int .i64 cy]] w (GivesInts w [ax, bx, ay, cy]) := by
  go_enter Try.func58, Try.ntmps58
  go_wp2
  go_ret
  have hI := Ints.boxed (w.alloc (.cells #[.int .i64 ax, .int .i64 bx, .int .i64 ay, .int .i64 cy] 68)) w.heap.size 3 [ax, bx, ay, cy] (by simp) (by simp)
  rw [World.size_alloc] at hI
  exact ⟨_, rfl, hI, by go_grown⟩

set_option maxHeartbeats 400000 in
theorem iMeetingOf_yes (a b c d : Int) (w : World) (h1 : isT a b) (h2 : isT c d) (hm : meetB a b c d = true) :
    Calls Try.prog 28 #[.agg #[.int .i64 a, .int .i64 b], .agg #[.int .i64 c, .int .i64 d]] w (Gives (IntsIn 3) w (meetL a b c d) true) := by
  have HM := Lib.hid (fun W => by have := iDoThreadsMeet_yes a b c d W h1 h2; rw [hm] at this; exact this)
  have HO := Lib.hid (fun W => meetingOf_any a b c d W h1 h2 hm)
  clear hm h1 h2
  go_enter Try.func28, Try.ntmps28
  go_wp2_with (first
    | (go_at_call 26; (with_reducible refine (HM.out _).mono ?_); rintro e w1 ⟨rfl, hb⟩; (have c0 : w1.cell? ⟨w.heap.size, 0, none⟩ = some (.int .i64 a) := cellB hb (by first | assumption | go_simp)); (have c1 : w1.cell? ⟨w.heap.size, 1, none⟩ = some (.int .i64 b) := cellB hb (by first | assumption | go_simp)); (have c2 : w1.cell? ⟨w.heap.size + 1, 0, none⟩ = some (.int .i64 c) := cellB hb (by first | assumption | go_simp)); (have c3 : w1.cell? ⟨w.heap.size + 1, 1, none⟩ = some (.int .i64 d) := cellB hb (by first | assumption | go_simp)); (have hz : w.heap.size < w1.heap.size := by (have := hb.size; (try simp at this); omega)); (have hB : Below w.heap.size w w1 := by (refine Below.trans ?_ (hb.mono (by first | (simp; done) | omega | (simp; omega))); go_grown)); clear hb)
    | (go_at_call 57; (with_reducible refine (HO.out _).mono ?_); rintro e w1 ⟨⟨ax, bx, ay, cy, hL, rfl⟩, hb⟩; have HL := Lib.hid hL; clear hL; (have hz : w.heap.size < w1.heap.size := by (have := hb.size; (try simp at this); omega)); (have hB : Below w.heap.size w w1 := by (refine Below.trans ?_ (hb.mono (by first | (simp; done) | omega | (simp; omega))); go_grown)))
    | (go_at_call 58; (with_reducible refine (numbers_any _ _ _ _ _).mono ?_); rintro e w2 ⟨v, rfl, hI, hb2⟩))
  go_ret2
  exact ⟨v, rfl, by rw [HL.out]; exact ⟨hI.mono (by omega), fun k hk => (hI.own k hk).2⟩, hB.trans (hb2.mono (by omega))⟩

set_option maxHeartbeats 400000 in
theorem iMeetingOf_no (a b c d : Int) (w : World) (h : ¬ (isT a b ∧ isT c d ∧ meetB a b c d = true)) :
    Calls Try.prog 28 #[.agg #[.int .i64 a, .int .i64 b], .agg #[.int .i64 c, .int .i64 d]] w (Gives (IntsIn 3) w [] false) := by
  by_cases h1 : isT a b ∧ isT c d
  · have hm : meetB a b c d = false := by
      cases e : meetB a b c d with
      | false => rfl
      | true => exact absurd ⟨h1.1, h1.2, e⟩ h
    have HM := Lib.hid (fun W => by have := iDoThreadsMeet_yes a b c d W h1.1 h1.2; rw [hm] at this; exact this)
    clear hm h1 h
    go_enter Try.func28, Try.ntmps28
    go_wp2_with (first | (go_at_call 26; (with_reducible refine (HM.out _).mono ?_); rintro e w1 ⟨rfl, hb⟩; (have c0 : w1.cell? ⟨w.heap.size, 0, none⟩ = some (.int .i64 a) := cellB hb (by first | assumption | go_simp)); (have c1 : w1.cell? ⟨w.heap.size, 1, none⟩ = some (.int .i64 b) := cellB hb (by first | assumption | go_simp)); (have c2 : w1.cell? ⟨w.heap.size + 1, 0, none⟩ = some (.int .i64 c) := cellB hb (by first | assumption | go_simp)); (have c3 : w1.cell? ⟨w.heap.size + 1, 1, none⟩ = some (.int .i64 d) := cellB hb (by first | assumption | go_simp)); (have hz : w.heap.size < w1.heap.size := by (have := hb.size; (try simp at this); omega)); (have hB : Below w.heap.size w w1 := by (refine Below.trans ?_ (hb.mono (by first | (simp; done) | omega | (simp; omega))); go_grown)); clear hb))
    go_ret2
    exact ⟨_, rfl, IntsIn.nil _ _ _ _, hB⟩
  · have HM := Lib.hid (fun W => iDoThreadsMeet_no a b c d W h1)
    clear h1 h
    go_enter Try.func28, Try.ntmps28
    go_wp2_with (first | (go_at_call 26; (with_reducible refine (HM.out _).mono ?_); rintro e w1 ⟨rfl, hb⟩; (have c0 : w1.cell? ⟨w.heap.size, 0, none⟩ = some (.int .i64 a) := cellB hb (by first | assumption | go_simp)); (have c1 : w1.cell? ⟨w.heap.size, 1, none⟩ = some (.int .i64 b) := cellB hb (by first | assumption | go_simp)); (have c2 : w1.cell? ⟨w.heap.size + 1, 0, none⟩ = some (.int .i64 c) := cellB hb (by first | assumption | go_simp)); (have c3 : w1.cell? ⟨w.heap.size + 1, 1, none⟩ = some (.int .i64 d) := cellB hb (by first | assumption | go_simp)); (have hz : w.heap.size < w1.heap.size := by (have := hb.size; (try simp at this); omega)); (have hB : Below w.heap.size w w1 := by (refine Below.trans ?_ (hb.mono (by first | (simp; done) | omega | (simp; omega))); go_grown)); clear hb))
    go_ret2
    exact ⟨_, rfl, IntsIn.nil _ _ _ _, hB⟩

set_option maxHeartbeats 400000 in
theorem sMeetingOf_yes (a b c d : Int) (w : World) (h1 : isT a b) (h2 : isT c d) (hm : meetB a b c d = true) :
    Calls Try.prog 27 #[.agg #[.int .i64 a, .int .i64 b], .agg #[.int .i64 c, .int .i64 d]] w (Gives (IntsIn 3) w (meetL a b c d) true) := by
  have HM := Lib.hid (fun W => by have := sgMeet_any a b c d W; rw [hm] at this; exact this)
  have HO := Lib.hid (fun W => sgMeeting_any a b c d W h1 h2 hm)
  clear hm
  go_enter Try.func27, Try.ntmps27
  go_wp2_with (first
    | (go_at_call 53; (with_reducible refine (sgThread_yes a b _ h1).mono ?_); rintro e w1 ⟨rfl, hb⟩; (have c0 : w1.cell? ⟨w.heap.size, 0, none⟩ = some (.int .i64 a) := cellB hb (by first | assumption | go_simp)); (have c1 : w1.cell? ⟨w.heap.size, 1, none⟩ = some (.int .i64 b) := cellB hb (by first | assumption | go_simp)); (have c2 : w1.cell? ⟨w.heap.size + 1, 0, none⟩ = some (.int .i64 c) := cellB hb (by first | assumption | go_simp)); (have c3 : w1.cell? ⟨w.heap.size + 1, 1, none⟩ = some (.int .i64 d) := cellB hb (by first | assumption | go_simp)); (have hz : w.heap.size < w1.heap.size := by (have := hb.size; (try simp at this); omega)); (have hB : Below w.heap.size w w1 := by (refine Below.trans ?_ (hb.mono (by first | (simp; done) | omega | (simp; omega))); go_grown)); clear hb)
    | (go_at_call 53; (with_reducible refine (sgThread_yes c d _ h2).mono ?_); rintro e w1 ⟨rfl, hb⟩; (have c0 : w1.cell? ⟨w.heap.size, 0, none⟩ = some (.int .i64 a) := cellB hb (by first | assumption | go_simp)); (have c1 : w1.cell? ⟨w.heap.size, 1, none⟩ = some (.int .i64 b) := cellB hb (by first | assumption | go_simp)); (have c2 : w1.cell? ⟨w.heap.size + 1, 0, none⟩ = some (.int .i64 c) := cellB hb (by first | assumption | go_simp)); (have c3 : w1.cell? ⟨w.heap.size + 1, 1, none⟩ = some (.int .i64 d) := cellB hb (by first | assumption | go_simp)); (have hz : w.heap.size < w1.heap.size := by (have := hb.size; (try simp at this); omega)); (have hB : Below w.heap.size w w1 := by (refine Below.trans ?_ (hb.mono (by first | (simp; done) | omega | (simp; omega))); go_grown)); clear hb)
    | (go_at_call 54; (with_reducible refine (HM.out _).mono ?_); rintro e w1 ⟨rfl, hb⟩; (have c0 : w1.cell? ⟨w.heap.size, 0, none⟩ = some (.int .i64 a) := cellB hb (by first | assumption | go_simp)); (have c1 : w1.cell? ⟨w.heap.size, 1, none⟩ = some (.int .i64 b) := cellB hb (by first | assumption | go_simp)); (have c2 : w1.cell? ⟨w.heap.size + 1, 0, none⟩ = some (.int .i64 c) := cellB hb (by first | assumption | go_simp)); (have c3 : w1.cell? ⟨w.heap.size + 1, 1, none⟩ = some (.int .i64 d) := cellB hb (by first | assumption | go_simp)); (have hz : w.heap.size < w1.heap.size := by (have := hb.size; (try simp at this); omega)); (have hB : Below w.heap.size w w1 := by (refine Below.trans ?_ (hb.mono (by first | (simp; done) | omega | (simp; omega))); go_grown)); clear hb)
    | (go_at_call 56; (with_reducible refine (HO.out _).mono ?_); rintro e w2 ⟨v, rfl, hI, hb2⟩))
  go_ret2
  exact ⟨v, rfl, ⟨hI.mono (by omega), fun k hk => (hI.own k hk).2⟩, hB.trans (hb2.mono (by omega))⟩

set_option maxHeartbeats 400000 in
theorem sMeetingOf_no (a b c d : Int) (w : World) (h : ¬ (isT a b ∧ isT c d ∧ meetB a b c d = true)) :
    Calls Try.prog 27 #[.agg #[.int .i64 a, .int .i64 b], .agg #[.int .i64 c, .int .i64 d]] w (Gives (IntsIn 3) w [] false) := by
  by_cases h1 : isT a b
  · by_cases h2 : isT c d
    · have hm : meetB a b c d = false := by
        cases e : meetB a b c d with
        | false => rfl
        | true => exact absurd ⟨h1, h2, e⟩ h
      have HM := Lib.hid (fun W => by have := sgMeet_any a b c d W; rw [hm] at this; exact this)
      clear hm h
      go_enter Try.func27, Try.ntmps27
      go_wp2_with (first | (go_at_call 53; (with_reducible refine (sgThread_yes a b _ h1).mono ?_); rintro e w1 ⟨rfl, hb⟩; (have c0 : w1.cell? ⟨w.heap.size, 0, none⟩ = some (.int .i64 a) := cellB hb (by first | assumption | go_simp)); (have c1 : w1.cell? ⟨w.heap.size, 1, none⟩ = some (.int .i64 b) := cellB hb (by first | assumption | go_simp)); (have c2 : w1.cell? ⟨w.heap.size + 1, 0, none⟩ = some (.int .i64 c) := cellB hb (by first | assumption | go_simp)); (have c3 : w1.cell? ⟨w.heap.size + 1, 1, none⟩ = some (.int .i64 d) := cellB hb (by first | assumption | go_simp)); (have hz : w.heap.size < w1.heap.size := by (have := hb.size; (try simp at this); omega)); (have hB : Below w.heap.size w w1 := by (refine Below.trans ?_ (hb.mono (by first | (simp; done) | omega | (simp; omega))); go_grown)); clear hb) | (go_at_call 53; (with_reducible refine (sgThread_yes c d _ h2).mono ?_); rintro e w1 ⟨rfl, hb⟩; (have c0 : w1.cell? ⟨w.heap.size, 0, none⟩ = some (.int .i64 a) := cellB hb (by first | assumption | go_simp)); (have c1 : w1.cell? ⟨w.heap.size, 1, none⟩ = some (.int .i64 b) := cellB hb (by first | assumption | go_simp)); (have c2 : w1.cell? ⟨w.heap.size + 1, 0, none⟩ = some (.int .i64 c) := cellB hb (by first | assumption | go_simp)); (have c3 : w1.cell? ⟨w.heap.size + 1, 1, none⟩ = some (.int .i64 d) := cellB hb (by first | assumption | go_simp)); (have hz : w.heap.size < w1.heap.size := by (have := hb.size; (try simp at this); omega)); (have hB : Below w.heap.size w w1 := by (refine Below.trans ?_ (hb.mono (by first | (simp; done) | omega | (simp; omega))); go_grown)); clear hb) | (go_at_call 54; (with_reducible refine (HM.out _).mono ?_); rintro e w1 ⟨rfl, hb⟩; (have c0 : w1.cell? ⟨w.heap.size, 0, none⟩ = some (.int .i64 a) := cellB hb (by first | assumption | go_simp)); (have c1 : w1.cell? ⟨w.heap.size, 1, none⟩ = some (.int .i64 b) := cellB hb (by first | assumption | go_simp)); (have c2 : w1.cell? ⟨w.heap.size + 1, 0, none⟩ = some (.int .i64 c) := cellB hb (by first | assumption | go_simp)); (have c3 : w1.cell? ⟨w.heap.size + 1, 1, none⟩ = some (.int .i64 d) := cellB hb (by first | assumption | go_simp)); (have hz : w.heap.size < w1.heap.size := by (have := hb.size; (try simp at this); omega)); (have hB : Below w.heap.size w w1 := by (refine Below.trans ?_ (hb.mono (by first | (simp; done) | omega | (simp; omega))); go_grown)); clear hb))
      go_ret2
      exact ⟨_, rfl, IntsIn.nil _ _ _ _, hB⟩
    · clear h
      go_enter Try.func27, Try.ntmps27
      go_wp2_with (first | (go_at_call 53; (with_reducible refine (sgThread_yes a b _ h1).mono ?_); rintro e w1 ⟨rfl, hb⟩; (have c0 : w1.cell? ⟨w.heap.size, 0, none⟩ = some (.int .i64 a) := cellB hb (by first | assumption | go_simp)); (have c1 : w1.cell? ⟨w.heap.size, 1, none⟩ = some (.int .i64 b) := cellB hb (by first | assumption | go_simp)); (have c2 : w1.cell? ⟨w.heap.size + 1, 0, none⟩ = some (.int .i64 c) := cellB hb (by first | assumption | go_simp)); (have c3 : w1.cell? ⟨w.heap.size + 1, 1, none⟩ = some (.int .i64 d) := cellB hb (by first | assumption | go_simp)); (have hz : w.heap.size < w1.heap.size := by (have := hb.size; (try simp at this); omega)); (have hB : Below w.heap.size w w1 := by (refine Below.trans ?_ (hb.mono (by first | (simp; done) | omega | (simp; omega))); go_grown)); clear hb) | (go_at_call 53; (with_reducible refine (sgThread_no c d _ h2).mono ?_); rintro e w1 ⟨rfl, hb⟩; (have c0 : w1.cell? ⟨w.heap.size, 0, none⟩ = some (.int .i64 a) := cellB hb (by first | assumption | go_simp)); (have c1 : w1.cell? ⟨w.heap.size, 1, none⟩ = some (.int .i64 b) := cellB hb (by first | assumption | go_simp)); (have c2 : w1.cell? ⟨w.heap.size + 1, 0, none⟩ = some (.int .i64 c) := cellB hb (by first | assumption | go_simp)); (have c3 : w1.cell? ⟨w.heap.size + 1, 1, none⟩ = some (.int .i64 d) := cellB hb (by first | assumption | go_simp)); (have hz : w.heap.size < w1.heap.size := by (have := hb.size; (try simp at this); omega)); (have hB : Below w.heap.size w w1 := by (refine Below.trans ?_ (hb.mono (by first | (simp; done) | omega | (simp; omega))); go_grown)); clear hb))
      go_ret2
      exact ⟨_, rfl, IntsIn.nil _ _ _ _, hB⟩
  · clear h
    go_enter Try.func27, Try.ntmps27
    go_wp2_with (first | (go_at_call 53; (with_reducible refine (sgThread_no a b _ h1).mono ?_); rintro e w1 ⟨rfl, hb⟩; (have c0 : w1.cell? ⟨w.heap.size, 0, none⟩ = some (.int .i64 a) := cellB hb (by first | assumption | go_simp)); (have c1 : w1.cell? ⟨w.heap.size, 1, none⟩ = some (.int .i64 b) := cellB hb (by first | assumption | go_simp)); (have c2 : w1.cell? ⟨w.heap.size + 1, 0, none⟩ = some (.int .i64 c) := cellB hb (by first | assumption | go_simp)); (have c3 : w1.cell? ⟨w.heap.size + 1, 1, none⟩ = some (.int .i64 d) := cellB hb (by first | assumption | go_simp)); (have hz : w.heap.size < w1.heap.size := by (have := hb.size; (try simp at this); omega)); (have hB : Below w.heap.size w w1 := by (refine Below.trans ?_ (hb.mono (by first | (simp; done) | omega | (simp; omega))); go_grown)); clear hb))
    go_ret2
    exact ⟨_, rfl, IntsIn.nil _ _ _ _, hB⟩

set_option maxHeartbeats 400000 in
theorem core_MeetingOf (p s c d : Int) (x : List Int)  (b : Bool) (w : World) (hx : x.length ≤ 1000000)
    (hs : ∀ W, Calls Try.prog 27 #[.agg #[.int .i64 p, .int .i64 s], .agg #[.int .i64 c, .int .i64 d]] W (Gives (IntsIn 3) W x b)) (hi : ∀ W, Calls Try.prog 28 #[.agg #[.int .i64 p, .int .i64 s], .agg #[.int .i64 c, .int .i64 d]] W (Gives (IntsIn 3) W x b)) :
    Calls Try.prog 6 #[.agg #[.int .i64 p, .int .i64 s], .agg #[.int .i64 c, .int .i64 d]] w fun e w' => e = .returned (.bool true) ∧ Below w.heap.size w w' := by
  have HS := Lib.hid hs
  have HI := Lib.hid hi
  clear hs hi
  have p0_0' : ((w.alloc (.cells #[.int .i64 p, .int .i64 s] 34)).alloc (.cells #[.int .i64 c, .int .i64 d] 34)).cell? ⟨w.heap.size, 0, none⟩ = some (.int .i64 p) := by go_simp
  have p0_0 := Lib.hid p0_0'
  clear p0_0'
  have q0_0' : ((w.alloc (.cells #[.int .i64 p, .int .i64 s] 34)).alloc (.cells #[.int .i64 c, .int .i64 d] 34)).cell? ⟨w.heap.size, 1, none⟩ = some (.int .i64 s) := by go_simp
  have q0_0 := Lib.hid q0_0'
  clear q0_0'
  have p1_0' : ((w.alloc (.cells #[.int .i64 p, .int .i64 s] 34)).alloc (.cells #[.int .i64 c, .int .i64 d] 34)).cell? ⟨w.heap.size + 1, 0, none⟩ = some (.int .i64 c) := by go_simp
  have p1_0 := Lib.hid p1_0'
  clear p1_0'
  have q1_0' : ((w.alloc (.cells #[.int .i64 p, .int .i64 s] 34)).alloc (.cells #[.int .i64 c, .int .i64 d] 34)).cell? ⟨w.heap.size + 1, 1, none⟩ = some (.int .i64 d) := by go_simp
  have q1_0 := Lib.hid q1_0'
  clear q1_0'
  go_enter Try.func6, Try.ntmps6
  go_wp2
  go_region_held3 (fun w' => w'.cell? ⟨w.heap.size, 0, none⟩ = some (.int .i64 p) ∧ w'.cell? ⟨w.heap.size, 1, none⟩ = some (.int .i64 s) ∧ w'.cell? ⟨w.heap.size + 1, 0, none⟩ = some (.int .i64 c) ∧ w'.cell? ⟨w.heap.size + 1, 1, none⟩ = some (.int .i64 d)) (go_keep)
    (first | (go_at_call 25; refine (toThread_any _ _ _).mono ?_; rintro e w1 ⟨rfl, hbx1⟩; (have n1 : w.heap.size + 2 ≤ w1.heap.size := by have := hbx1.size; simp at this; omega); (have B1 : Below w.heap.size w w1 := Below.trans (by go_grown) (hbx1.mono (by first | (simp; done) | (simp; omega)))); (have p0_1 := cellB hbx1 (b := w.heap.size) (o := 0) (x := .int .i64 p) (by go_simp)); (have q0_1 := cellB hbx1 (b := w.heap.size) (o := 1) (x := .int .i64 s) (by go_simp)); (have p1_1 := cellB hbx1 (b := w.heap.size + 1) (o := 0) (x := .int .i64 c) (by go_simp)); (have q1_1 := cellB hbx1 (b := w.heap.size + 1) (o := 1) (x := .int .i64 d) (by go_simp))) | (go_at_call 25; refine (toThread_any _ _ _).mono ?_; rintro e w2 ⟨rfl, hbx2⟩; (have hb2 : Below w1.heap.size w1 w2 := Below.trans (by go_grown) (hbx2.mono (by first | omega | (simp; done) | (simp; omega)))); have n2 := hb2.size; have B2 := B1.trans (hb2.mono (by omega)); have p0_2 := cellB hb2 p0_1; have q0_2 := cellB hb2 q0_1; have p1_2 := cellB hb2 p1_1; have q1_2 := cellB hb2 q1_1) | (go_at_call 27; refine (HS.out _).mono ?_; rintro e w3 ⟨vw, rfl, kw_3, hbx3⟩; (have hb3 : Below w2.heap.size w2 w3 := Below.trans (by go_grown) (hbx3.mono (by first | omega | (simp; done) | (simp; omega)))); have n3 := hb3.size; have B3 := B2.trans (hb3.mono (by omega)); have p0_3 := cellB hb3 p0_2; have q0_3 := cellB hb3 q0_2; have p1_3 := cellB hb3 p1_2; have q1_3 := cellB hb3 q1_2))
  go_wp2
  go_region_held3 (fun w' => w'.cell? ⟨w.heap.size, 0, none⟩ = some (.int .i64 p) ∧ w'.cell? ⟨w.heap.size, 1, none⟩ = some (.int .i64 s) ∧ w'.cell? ⟨w.heap.size + 1, 0, none⟩ = some (.int .i64 c) ∧ w'.cell? ⟨w.heap.size + 1, 1, none⟩ = some (.int .i64 d)) (go_keep)
    (first | (go_at_call 25; refine (toThread_any _ _ _).mono ?_; rintro e w4 ⟨rfl, hbx4⟩; (have hb4 : Below w3.heap.size w3 w4 := Below.trans (by go_grown) (hbx4.mono (by first | omega | (simp; done) | (simp; omega)))); have n4 := hb4.size; have B4 := B3.trans (hb4.mono (by omega)); have p0_4 := cellB hb4 p0_3; have q0_4 := cellB hb4 q0_3; have p1_4 := cellB hb4 p1_3; have q1_4 := cellB hb4 q1_3; have kw_4 := kw_3.keep (belowSame hb4 (by omega))) | (go_at_call 28; refine (HI.out _).mono ?_; rintro e w5 ⟨vg, rfl, kg_5, hbx5⟩; (have hb5 : Below w4.heap.size w4 w5 := Below.trans (by go_grown) (hbx5.mono (by first | omega | (simp; done) | (simp; omega)))); have n5 := hb5.size; have B5 := B4.trans (hb5.mono (by omega)); have p0_5 := cellB hb5 p0_4; have q0_5 := cellB hb5 q0_4; have p1_5 := cellB hb5 p1_4; have q1_5 := cellB hb5 q1_4; have kw_5 := kw_4.keep (belowSame hb5 (by omega))))
  go_wp2_with fail
  refine (eqIntS_in _ _ x _ _ _ _ _ _ kg_5 kw_5).mono ?_
  rintro e w6 ⟨rfl, hb6⟩
  have n6 := hb6.size
  have B6 := B5.trans (hb6.mono (by omega))
  have p0_6 := cellB hb6 p0_5
  have q0_6 := cellB hb6 q0_5
  have p1_6 := cellB hb6 p1_5
  have q1_6 := cellB hb6 q1_5
  clear p0_5 q0_5 p1_5 q1_5
  have kw_6 := kw_5.keep (belowSame hb6 (by omega))
  have kg_6 := kg_5.keep (belowSame hb6 (by omega))
  go_wp2_with fail
  refine (markIntS_in _ x 1 _ _ _ _ kg_6 (by omega) (by omega) (by omega)).mono ?_
  rintro e w7 ⟨rfl, mg_7, o7⟩
  have n7 := o7.size
  have B7 := B6.trans (o7.below (C := w.heap.size) (by omega) (by omega))
  have p0_7 := o7.cell (.inl (by omega)) p0_6
  have q0_7 := o7.cell (.inl (by omega)) q0_6
  have p1_7 := o7.cell (.inl (by omega)) p1_6
  have q1_7 := o7.cell (.inl (by omega)) q1_6
  clear p0_6 q0_6 p1_6 q1_6
  have kw_7 := kw_6.keep (o7.same_in (by omega) (by omega))
  have kg_7 := mg_7
  go_wp2_with fail
  refine (heldIntS_in _ 1 x.length _ _ _ _ kg_7 (by omega) (by omega) (by omega)).mono ?_
  rintro e w8 ⟨rfl, hb8⟩
  have n8 := hb8.size
  have B8 := B7.trans (hb8.mono (by omega))
  have p0_8 := cellB hb8 p0_7
  have q0_8 := cellB hb8 q0_7
  have p1_8 := cellB hb8 p1_7
  have q1_8 := cellB hb8 q1_7
  clear p0_7 q0_7 p1_7 q1_7
  have kw_8 := kw_7.keep (belowSame hb8 (by omega))
  have kg_8 := kg_7.keep (belowSame hb8 (by omega))
  go_wp2
  go_region_held3 (fun w' => w'.cell? ⟨w.heap.size, 0, none⟩ = some (.int .i64 p) ∧ w'.cell? ⟨w.heap.size, 1, none⟩ = some (.int .i64 s) ∧ w'.cell? ⟨w.heap.size + 1, 0, none⟩ = some (.int .i64 c) ∧ w'.cell? ⟨w.heap.size + 1, 1, none⟩ = some (.int .i64 d)) (go_keep)
    (first | (go_at_call 25; refine (toThread_any _ _ _).mono ?_; rintro e w9 ⟨rfl, hbx9⟩; (have hb9 : Below w8.heap.size w8 w9 := Below.trans (by go_grown) (hbx9.mono (by first | omega | (simp; done) | (simp; omega)))); have n9 := hb9.size; have B9 := B8.trans (hb9.mono (by omega)); have p0_9 := cellB hb9 p0_8; have q0_9 := cellB hb9 q0_8; have p1_9 := cellB hb9 p1_8; have q1_9 := cellB hb9 q1_8; have kw_9 := kw_8.keep (belowSame hb9 (by omega)); have kg_9 := kg_8.keep (belowSame hb9 (by omega))) | (go_at_call 28; refine (HI.out _).mono ?_; rintro e w10 ⟨vh, rfl, kh_10, hbx10⟩; (have hb10 : Below w9.heap.size w9 w10 := Below.trans (by go_grown) (hbx10.mono (by first | omega | (simp; done) | (simp; omega)))); have n10 := hb10.size; have B10 := B9.trans (hb10.mono (by omega)); have p0_10 := cellB hb10 p0_9; have q0_10 := cellB hb10 q0_9; have p1_10 := cellB hb10 p1_9; have q1_10 := cellB hb10 q1_9; have kw_10 := kw_9.keep (belowSame hb10 (by omega)); have kg_10 := kg_9.keep (belowSame hb10 (by omega))))
  go_wp2_with fail
  refine (eqIntS_in _ _ x _ _ _ _ _ _ kh_10 kw_10).mono ?_
  rintro e w11 ⟨rfl, hb11⟩
  have n11 := hb11.size
  have B11 := B10.trans (hb11.mono (by omega))
  have p0_11 := cellB hb11 p0_10
  have q0_11 := cellB hb11 q0_10
  have p1_11 := cellB hb11 p1_10
  have q1_11 := cellB hb11 q1_10
  clear p0_10 q0_10 p1_10 q1_10
  have kw_11 := kw_10.keep (belowSame hb11 (by omega))
  have kg_11 := kg_10.keep (belowSame hb11 (by omega))
  have kh_11 := kh_10.keep (belowSame hb11 (by omega))
  go_wp2_with fail
  refine (heldIntS_in _ 1 x.length _ _ _ _ kg_11 (by omega) (by omega) (by omega)).mono ?_
  rintro e w12 ⟨rfl, hb12⟩
  have n12 := hb12.size
  have B12 := B11.trans (hb12.mono (by omega))
  have p0_12 := cellB hb12 p0_11
  have q0_12 := cellB hb12 q0_11
  have p1_12 := cellB hb12 p1_11
  have q1_12 := cellB hb12 q1_11
  clear p0_11 q0_11 p1_11 q1_11
  have kw_12 := kw_11.keep (belowSame hb12 (by omega))
  have kg_12 := kg_11.keep (belowSame hb12 (by omega))
  have kh_12 := kh_11.keep (belowSame hb12 (by omega))
  go_wp2_with fail
  go_ret
  exact ⟨rfl, B12⟩

theorem walk_MeetingOf (a b c d : Int) (w : World) (_ : (Lit.int .i64 a).wf = true) (_ : (Lit.int .i64 b).wf = true) (_ : (Lit.int .i64 c).wf = true) (_ : (Lit.int .i64 d).wf = true) :
    Calls Try.prog 6 #[.agg #[.int .i64 a, .int .i64 b], .agg #[.int .i64 c, .int .i64 d]] w fun e w' => e = .returned (.bool true) ∧ Below w.heap.size w w' := by
  by_cases h : isT a b ∧ isT c d ∧ meetB a b c d = true
  · exact core_MeetingOf _ _ _ _ _ true w (by simp [meetL]) (fun W => sMeetingOf_yes _ _ _ _ W h.1 h.2.1 h.2.2) (fun W => iMeetingOf_yes _ _ _ _ W h.1 h.2.1 h.2.2)
  · exact core_MeetingOf _ _ _ _ [] false w (by simp) (fun W => sMeetingOf_no _ _ _ _ W h) (fun W => iMeetingOf_no _ _ _ _ W h)

end Go.Proofs.Ytngonpiiehmlaaa
