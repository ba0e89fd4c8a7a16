/- Whether Serve and Dropped may be asked: the program's and the model's test. -/
import Derived.Test.YtkdlhapbbnggoaaImagesOk
namespace Go.Proofs.Ytkdlhapbbnggoaa
open Go.RowKit
set_option linter.unusedVariables false

set_option maxHeartbeats 1000000 in
theorem iServeOk_v (n : Nat) (hn : n ≤ maxLen) (z : Nat → Int) (v : Value) (t s : Int) (w : World) (h : Rd w v n (n * 2) z) :
    Calls Try.prog 60 #[v, .int .i64 t, .int .i64 s] w fun e w' => e = .returned (.bool (svOk n z t s)) ∧ Below w.heap.size w w' := by
  obtain ⟨rb, hrb⟩ : ∃ r, r = svOk n z t s := ⟨_, rfl⟩
  rw [← hrb]
  have hi := iImagesOk_v n hn z v w h
  clear h
  rcases Bool.eq_false_or_eq_true (imB n z) with i1 | i1
  rotate_left
  · have HE : Hid (rb = false) := hrb.trans (svOk_no (fun h => imB_not.1 i1 h.1))
    rw [i1] at hi
    have HI := Lib.hid hi
    clear hrb hi i1
    go_enter Try.func60, Try.ntmps60
    go_wp2_with (go_at_call 33; refine HI.out.mono ?_; rintro e w1 ⟨rfl, hb⟩)
    go_ret
    exact ⟨(congrArg (fun b => Ending.returned (Value.bool b)) HE.out).symm, hb⟩
  rw [i1] at hi
  rcases Bool.eq_false_or_eq_true (inB 0 5000 t) with b1 | b1
  rotate_left
  · have HE : Hid (rb = false) := hrb.trans (svOk_no (fun h => inB_no.1 b1 h.2.1))
    have HI := Lib.hid hi
    have B1 := Lib.hid b1
    clear hrb hi i1 b1
    go_enter Try.func60, Try.ntmps60
    go_wp2_with (first | (go_at_call 33; refine HI.out.mono ?_; rintro e w1 ⟨rfl, hb⟩) | (go_at_call 54; with_reducible refine (within_at B1.out _).mono ?_; rintro e w' ⟨rfl, rfl⟩))
    go_ret
    exact ⟨(congrArg (fun b => Ending.returned (Value.bool b)) HE.out).symm, hb⟩
  rcases Bool.eq_false_or_eq_true (inB 1 16 s) with b2 | b2
  rotate_left
  · have HE : Hid (rb = false) := hrb.trans (svOk_no (fun h => inB_no.1 b2 h.2.2))
    have HI := Lib.hid hi
    have B1 := Lib.hid b1
    have B2 := Lib.hid b2
    clear hrb hi i1 b1 b2
    go_enter Try.func60, Try.ntmps60
    go_wp2_with (first | (go_at_call 33; refine HI.out.mono ?_; rintro e w1 ⟨rfl, hb⟩) | (go_at_call 54; with_reducible refine (within_at B1.out _).mono ?_; rintro e w' ⟨rfl, rfl⟩) | (go_at_call 54; with_reducible refine (within_at B2.out _).mono ?_; rintro e w' ⟨rfl, rfl⟩))
    go_ret
    exact ⟨(congrArg (fun b => Ending.returned (Value.bool b)) HE.out).symm, hb⟩
  · have HE : Hid (rb = true) := hrb.trans (svOk_yes ⟨imB_iff.1 i1, inB_iff.1 b1, inB_iff.1 b2⟩)
    have HI := Lib.hid hi
    have B1 := Lib.hid b1
    have B2 := Lib.hid b2
    clear hrb hi i1 b1 b2
    go_enter Try.func60, Try.ntmps60
    go_wp2_with (first | (go_at_call 33; refine HI.out.mono ?_; rintro e w1 ⟨rfl, hb⟩) | (go_at_call 54; with_reducible refine (within_at B1.out _).mono ?_; rintro e w' ⟨rfl, rfl⟩) | (go_at_call 54; with_reducible refine (within_at B2.out _).mono ?_; rintro e w' ⟨rfl, rfl⟩))
    go_ret
    exact ⟨(congrArg (fun b => Ending.returned (Value.bool b)) HE.out).symm, hb⟩

set_option maxHeartbeats 1000000 in
theorem sRight_v (n : Nat) (hn : n ≤ maxLen) (z : Nat → Int) (v : Value) (t s : Int) (w : World) (h : Rd w v n (n * 2) z) :
    Calls Try.prog 59 #[v, .int .i64 t, .int .i64 s] w fun e w' => e = .returned (.bool (svOk n z t s)) ∧ Below w.heap.size w w' := by
  obtain ⟨rb, hrb⟩ : ∃ r, r = svOk n z t s := ⟨_, rfl⟩
  rw [← hrb]
  have hi := sImagesOk_v n hn z v w h
  clear h
  rcases Bool.eq_false_or_eq_true (imB n z) with i1 | i1
  rotate_left
  · have HE : Hid (rb = false) := hrb.trans (svOk_no (fun h => imB_not.1 i1 h.1))
    rw [i1] at hi
    have HI := Lib.hid hi
    clear hrb hi i1
    go_enter Try.func59, Try.ntmps59
    go_wp2_with (go_at_call 31; refine HI.out.mono ?_; rintro e w1 ⟨rfl, hb⟩)
    go_ret
    exact ⟨(congrArg (fun b => Ending.returned (Value.bool b)) HE.out).symm, hb⟩
  rw [i1] at hi
  rcases Bool.eq_false_or_eq_true (inB 0 5000 t) with b1 | b1
  rotate_left
  · have HE : Hid (rb = false) := hrb.trans (svOk_no (fun h => inB_no.1 b1 h.2.1))
    have HI := Lib.hid hi
    have B1 := Lib.hid b1
    clear hrb hi i1 b1
    go_enter Try.func59, Try.ntmps59
    go_wp2_with (first | (go_at_call 31; refine HI.out.mono ?_; rintro e w1 ⟨rfl, hb⟩) | (go_at_call 52; with_reducible refine (specIn_at B1.out _).mono ?_; rintro e w' ⟨rfl, rfl⟩))
    go_ret
    exact ⟨(congrArg (fun b => Ending.returned (Value.bool b)) HE.out).symm, hb⟩
  rcases Bool.eq_false_or_eq_true (inB 1 16 s) with b2 | b2
  rotate_left
  · have HE : Hid (rb = false) := hrb.trans (svOk_no (fun h => inB_no.1 b2 h.2.2))
    have HI := Lib.hid hi
    have B1 := Lib.hid b1
    have B2 := Lib.hid b2
    clear hrb hi i1 b1 b2
    go_enter Try.func59, Try.ntmps59
    go_wp2_with (first | (go_at_call 31; refine HI.out.mono ?_; rintro e w1 ⟨rfl, hb⟩) | (go_at_call 52; with_reducible refine (specIn_at B1.out _).mono ?_; rintro e w' ⟨rfl, rfl⟩) | (go_at_call 52; with_reducible refine (specIn_at B2.out _).mono ?_; rintro e w' ⟨rfl, rfl⟩))
    go_ret
    exact ⟨(congrArg (fun b => Ending.returned (Value.bool b)) HE.out).symm, hb⟩
  · have HE : Hid (rb = true) := hrb.trans (svOk_yes ⟨imB_iff.1 i1, inB_iff.1 b1, inB_iff.1 b2⟩)
    have HI := Lib.hid hi
    have B1 := Lib.hid b1
    have B2 := Lib.hid b2
    clear hrb hi i1 b1 b2
    go_enter Try.func59, Try.ntmps59
    go_wp2_with (first | (go_at_call 31; refine HI.out.mono ?_; rintro e w1 ⟨rfl, hb⟩) | (go_at_call 52; with_reducible refine (specIn_at B1.out _).mono ?_; rintro e w' ⟨rfl, rfl⟩) | (go_at_call 52; with_reducible refine (specIn_at B2.out _).mono ?_; rintro e w' ⟨rfl, rfl⟩))
    go_ret
    exact ⟨(congrArg (fun b => Ending.returned (Value.bool b)) HE.out).symm, hb⟩

end Go.Proofs.Ytkdlhapbbnggoaa
