/- What the model's FormatTag returns: ten digits, a sign and the check; nothing for what is no tag. -/
import Derived.Test.YtopkdkehkdhmgabDoorTagIn
import Derived.Test.YtopkdkehkdhmgabDoorTen
import Derived.Test.YtopkdkehkdhmgabDoorShelf
import Derived.Lib.AppendIntMem
import Derived.Deep.RegionHeld3
import Derived.IntWalk
namespace Go.Proofs.YtopkdkehkdhmgabDoor
open Go.RowKit

/-- The text of a tag. -/
def ftext (a b c : Int) : List UInt8 := if tokB a b c = true then digs (tnum a b c).toNat ++ [45, UInt8.ofNat (48 + (tchk a b c).toNat)] else []

theorem tnum_bd {a b c : Int} (h : tokB a b c = true) : 0 ≤ tnum a b c ∧ tnum a b c ≤ 9999999999 := by
  obtain ⟨⟨h1, h2⟩, ⟨h3, h4⟩, h5, h6⟩ := tokB_iff.1 h
  unfold tnum; rw [if_pos h]; omega
theorem tchk_bd {a b c : Int} (h : tokB a b c = true) : 0 ≤ tchk a b c ∧ tchk a b c ≤ 6 := by
  unfold tchk; rw [if_pos h]; omega

theorem text_end {a b c : Int} {N : Nat} {bb : UInt8} (h : ftext a b c = digs (tnum a b c).toNat ++ [45, UInt8.ofNat (48 + (tchk a b c).toNat)]) (hN : tnum a b c = N) (hb : bb = UInt8.ofNat (48 + (tchk a b c).toNat)) :
    Value.string ((⟨(digs N).toArray⟩ : ByteArray) ++ ⟨#[45]⟩ ++ ⟨#[bb]⟩) = .string ⟨(ftext a b c).toArray⟩ := by
  rw [h, hN, Int.toNat_natCast, ← hb]
  congr 1

set_option maxHeartbeats 4000000 in
theorem specFmt_any (a b c : Int) (w : World) :
    Calls Tryd.prog 21 #[.agg #[.int .i64 a, .int .i64 b, .int .i64 c]] w fun e w' => e = .returned (.string ⟨(ftext a b c).toArray⟩) ∧ Below w.heap.size w w' := by
  cases h : tokB a b c
  · have e : ftext a b c = [] := by unfold ftext; rw [h]; rfl
    rw [e]
    clear e
    have H := Lib.hid h
    clear h
    go_enter Tryd.func21, Tryd.ntmps21
    go_wp2_with (go_at_call 44; refine (specOk_any _ _ _ _).mono ?_; rw [H.out]; rintro e w1 ⟨rfl, hb⟩; obtain ⟨hc, hf⟩ := bcell hb)
    go_ret
    exact ⟨rfl, ((Below.refl _ _).alloc (Nat.le_refl _) _).trans (hb.mono (by simp))⟩
  · obtain ⟨n0, n1⟩ := tnum_bd h
    obtain ⟨c0, c1⟩ := tchk_bd h
    have HE : Hid (ftext a b c = digs (tnum a b c).toNat ++ [45, UInt8.ofNat (48 + (tchk a b c).toNat)]) := by unfold ftext; exact if_pos h
    have H := Lib.hid h
    clear h
    obtain ⟨bb, hbb⟩ : ∃ bb : UInt8, bb = UInt8.ofNat (48 + (tchk a b c).toNat) := ⟨_, rfl⟩
    have hcv := conv_one Tryd.underlying22 Tryd.underlying5 Tryd.underlying9 bb (IntKind.u8.wrap (IntKind.i64.wrap (48 + tchk a b c))) (by rw [hbb, IntWalk.i64_in _ (by omega), IntWalk.u8_in _ (by omega)]; simp only [UInt8.toNat_ofNat']; omega)
    have HB := Lib.hid hbb
    clear hbb
    obtain ⟨N, hN⟩ : ∃ N : Nat, tnum a b c = N := ⟨(tnum a b c).toNat, by omega⟩
    have hN10 : N < 10 ^ 10 := by omega
    have HN := Lib.hid hN
    have hdl := digs_length N
    go_enter Tryd.func21, Tryd.ntmps21
    go_wp2_with (go_at_call 44; refine (specOk_any _ _ _ _).mono ?_; rw [H.out]; rintro e w1 ⟨rfl, hb⟩; obtain ⟨hc, hf⟩ := bcell hb)
    have s1 : w.heap.size < w1.heap.size := by have := hb.size; simp at this; omega
    have p1 : w1.cell? ⟨w.heap.size, 0, none⟩ = some (.int .i64 a) := by rw [hb.cell (by simp)]; simp
    have q1 : w1.cell? ⟨w.heap.size, 1, none⟩ = some (.int .i64 b) := by rw [hb.cell (by simp)]; simp
    have r1 : w1.cell? ⟨w.heap.size, 2, none⟩ = some (.int .i64 c) := by rw [hb.cell (by simp)]; simp
    go_region_with (first | (go_at_call 24; refine (specNum_any _ _ _ _).mono ?_; rintro e w2 ⟨rfl, hb2⟩; have s2 : w.heap.size < w2.heap.size := Nat.lt_of_lt_of_le (by first | exact s1) hb2.size; have p2 : w2.cell? ⟨w.heap.size, 0, none⟩ = some (.int .i64 a) := (hb2.cell (p := ⟨w.heap.size, 0, none⟩) (by first | exact s1)).trans (by first | exact p1); have q2 : w2.cell? ⟨w.heap.size, 1, none⟩ = some (.int .i64 b) := (hb2.cell (p := ⟨w.heap.size, 1, none⟩) (by first | exact s1)).trans (by first | exact q1); have r2 : w2.cell? ⟨w.heap.size, 2, none⟩ = some (.int .i64 c) := (hb2.cell (p := ⟨w.heap.size, 2, none⟩) (by first | exact s1)).trans (by first | exact r1)) | (go_at_call 45; refine (ten_any N hN10 _).mono ?_; rintro e w3 ⟨rfl, hb3⟩; have s3 : w.heap.size < w3.heap.size := Nat.lt_of_lt_of_le (by first | exact s2 | exact s1) hb3.size; have p3 : w3.cell? ⟨w.heap.size, 0, none⟩ = some (.int .i64 a) := (hb3.cell (p := ⟨w.heap.size, 0, none⟩) (by first | exact s2 | exact s1)).trans (by first | exact p2 | exact p1); have q3 : w3.cell? ⟨w.heap.size, 1, none⟩ = some (.int .i64 b) := (hb3.cell (p := ⟨w.heap.size, 1, none⟩) (by first | exact s2 | exact s1)).trans (by first | exact q2 | exact q1); have r3 : w3.cell? ⟨w.heap.size, 2, none⟩ = some (.int .i64 c) := (hb3.cell (p := ⟨w.heap.size, 2, none⟩) (by first | exact s2 | exact s1)).trans (by first | exact r2 | exact r1)) | (go_at_call 46; refine (specChk_any _ _ _ _).mono ?_; rintro e w4 ⟨rfl, hb4⟩; have s4 : w.heap.size < w4.heap.size := Nat.lt_of_lt_of_le (by first | exact s3 | exact s2 | exact s1) hb4.size; have p4 : w4.cell? ⟨w.heap.size, 0, none⟩ = some (.int .i64 a) := (hb4.cell (p := ⟨w.heap.size, 0, none⟩) (by first | exact s3 | exact s2 | exact s1)).trans (by first | exact p3 | exact p2 | exact p1); have q4 : w4.cell? ⟨w.heap.size, 1, none⟩ = some (.int .i64 b) := (hb4.cell (p := ⟨w.heap.size, 1, none⟩) (by first | exact s3 | exact s2 | exact s1)).trans (by first | exact q3 | exact q2 | exact q1); have r4 : w4.cell? ⟨w.heap.size, 2, none⟩ = some (.int .i64 c) := (hb4.cell (p := ⟨w.heap.size, 2, none⟩) (by first | exact s3 | exact s2 | exact s1)).trans (by first | exact r3 | exact r2 | exact r1)))
    all_goals
      go_wp2
      go_ret
      refine ⟨?_, ?_⟩
      · exact congrArg Ending.returned (text_end HE.out HN.out HB.out)
      · repeat (first | exact Below.refl _ _ | refine Below.alloc ?_ (by (try simp) <;> omega) _ | refine Below.drew ?_ | refine Below.trans ?_ (hb4.mono (by (try simp) <;> omega)) | refine Below.trans ?_ (hb3.mono (by (try simp) <;> omega)) | refine Below.trans ?_ (hb2.mono (by (try simp) <;> omega)) | refine Below.trans ?_ (hb.mono (by simp)))

end Go.Proofs.YtopkdkehkdhmgabDoor
