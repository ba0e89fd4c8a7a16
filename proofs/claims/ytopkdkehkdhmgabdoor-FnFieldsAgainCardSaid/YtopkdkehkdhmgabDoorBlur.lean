/- What the draw of a blurred text leaves: some text of at most thirteen bytes. -/
import Derived.Test.YtopkdkehkdhmgabDoorDrawTag
import Derived.Test.YtopkdkehkdhmgabDoorBytes
import Derived.Test.YtopkdkehkdhmgabDoorFormatTagSpec
import Derived.Deep.RegionWith
import Derived.Lib.OthersKept
import Derived.Laws.IdiomStrings
namespace Go.Proofs.YtopkdkehkdhmgabDoor
open Go.RowKit
set_option linter.unusedVariables false

set_option maxRecDepth 100000 in
set_option maxHeartbeats 2000000 in
/-- One of a list of strings that has just been laid. -/
theorem pickStrNew {B n : Nat} {p : Option Addr} {cap gc oc : Nat} {w : World} {g : Nat} (hn : n ≤ 1048576) (h : Cu B n p cap gc oc w g) (l : List ByteArray) (m c : Nat) (hm : m = l.length) (hl0 : 0 < l.length) (hl : l.length ≤ 1000) (vs : Array Value) (hvs : vs = (l.map Value.string).toArray) (t : TypeId) :
    Calls Tryd.prog 39 #[.pointer (some ⟨g, 0, none⟩), .slice (some ⟨w.heap.size, 0, none⟩) m c] (w.alloc (.cells vs t)) fun e w' => ∃ x ∈ l, e = .returned (.string x) ∧ Cu B n p cap gc oc w' g ∧ w.grownBy w' (some g) := by
  subst hm
  have hA : Below w.heap.size w (w.alloc (.cells vs t)) := (Below.refl _ _).alloc (Nat.le_refl _) _
  have H := Lib.hid (h.below hA)
  have HL : Hid (∀ j (hj : j < l.length), (w.alloc (.cells vs t)).cell? ⟨w.heap.size, j, none⟩ = some (.string l[j])) := fun j hj => newC w vs t j _ (by rw [hvs]; simp [hj])
  have hgl : w.heap.size ≠ g := by have := h.lt; omega
  have HA := Lib.hid (World.grownBy_alloc w (.cells vs t) (some g))
  have hsz : (w.alloc (.cells vs t)).heap.size = w.heap.size + 1 := by simp
  obtain ⟨W, hW⟩ : ∃ W, W = w.alloc (.cells vs t) := ⟨_, rfl⟩
  rw [← hW] at H HL HA hsz ⊢
  clear h hA hW hvs
  obtain ⟨k, hk⟩ : ∃ k, k = w.heap.size := ⟨_, rfl⟩
  rw [← hk] at HL hgl hsz ⊢
  obtain ⟨m, hm⟩ : ∃ m, m = l.length := ⟨_, rfl⟩
  rw [← hm] at hl0 hl ⊢
  have HM := Lib.hid hm
  clear hm hk
  go_enter Tryd.func39, Tryd.ntmps39
  go_wp2_with fail
  refine (below_any hn H.out m hl0 (by omega)).mono ?_
  rintro e w1 ⟨x, hx, rfl, hc, hg⟩
  have hxl : x < l.length := by rw [← HM.out]; exact hx
  have hcx : w1.cell? ⟨k, x, none⟩ = some (.string l[x]) := (World.cell?_of_block (a := ⟨k, x, none⟩) (hg.block k (by omega) (by intro e; injection e with e; exact hgl e))).trans (HL.out x hxl)
  obtain ⟨v, hv⟩ : ∃ v, v = l[x] := ⟨_, rfl⟩
  rw [← hv] at hcx
  have HV := Lib.hid hv
  have HC := Lib.hid hc
  have HG := Lib.hid (HA.out.trans hg)
  clear hc hg hv
  have hx0 : (0 : Int) ≤ (x : Int) := by omega
  have hxm : (x : Int) < (m : Int) := by omega
  go_wp2_with fail
  go_ret
  exact ⟨v, by rw [HV.out]; exact List.getElem_mem _, rfl, HC.out, HG.out⟩

theorem grown_of_below {w w' : World} (h : Below w.heap.size w w') (row : Option Nat) : w.grownBy w' row := ⟨h.os, h.tape, h.output, h.size, fun k hk _ => h.block k hk⟩

theorem u8_of (l : List Int) (h : ∀ x ∈ l, 0 ≤ x ∧ x < 256) (x : Int) (hx : x ∈ l) : ∃ y : UInt8, (y.toNat : Int) = x := by
  obtain ⟨h0, h1⟩ := h x hx
  exact ⟨UInt8.ofNat x.toNat, by simp only [UInt8.toNat_ofNat']; omega⟩
theorem ftext_size {a b c : Int} (h : tokB a b c = true) : (⟨(ftext a b c).toArray⟩ : ByteArray).size = 12 := by
  show (ftext a b c).toArray.size = 12
  unfold ftext
  rw [if_pos h]
  simp [digs_length]

set_option maxRecDepth 100000 in
set_option maxHeartbeats 4000000 in
/-- A blurred text: some string of at most thirteen bytes. -/
theorem blur_any {B n : Nat} {p : Option Addr} {cap gc oc : Nat} {w : World} {g : Nat} (hn : n ≤ 1048576) (h : Cu B n p cap gc oc w g) :
    Calls Tryd.prog 48 #[.pointer (some ⟨g, 0, none⟩)] w fun e w' => ∃ s : ByteArray, s.size ≤ 13 ∧ e = .returned (.string s) ∧ Cu B n p cap gc oc w' g ∧ w.grownBy w' (some g) := by
  have H := Lib.hid h
  clear h
  go_enter Tryd.func48, Tryd.ntmps48
  go_wp2_with fail
  refine (tagd_any hn H.out).mono ?_
  rintro e w1 ⟨a, b, c, htok, rfl, hc1, hg1⟩
  have HC1 := Lib.hid hc1
  have HG1 := Lib.hid hg1
  have hsz := ftext_size htok
  clear hc1 hg1 htok
  go_wp2_with fail
  refine (specFmt_any a b c _).mono ?_
  rintro e w2 ⟨rfl, hb2⟩
  have HC2 := Lib.hid (HC1.out.below hb2)
  have HG2 := Lib.hid (HG1.out.trans (grown_of_below hb2 _))
  clear hb2
  obtain ⟨s, hs⟩ : ∃ s : ByteArray, s = ⟨(ftext a b c).toArray⟩ := ⟨_, rfl⟩
  rw [← hs] at hsz ⊢
  clear hs
  have hcv := Lib.run_convert_string_bytes (P := Tryd.prog) w2 9 22 5 s Tryd.underlying9 Tryd.underlying22 Tryd.underlying5
  have hBy := Lib.bytesWorld_below w2 5 s
  have hBt := Bytes.of_string w2 5 s
  rw [hsz] at hcv hBt
  obtain ⟨cap3, hcap⟩ : ∃ cap3, cap3 = grownCap w2 12 0 5 := ⟨_, rfl⟩
  obtain ⟨w3, hw3⟩ : ∃ w3, w3 = Lib.bytesWorld w2 5 s := ⟨_, rfl⟩
  rw [← hcap, ← hw3] at hcv
  rw [← hw3] at hBy hBt
  have HC3 := Lib.hid (HC2.out.below hBy)
  have HG3 := Lib.hid (HG2.out.trans (grown_of_below hBy _))
  have HB3 := Lib.hid hBt
  have hTg : w2.heap.size ≠ g := by have := HC2.out.lt; omega
  have hBT : B ≤ w2.heap.size := by have := HC2.out.base; have := HC2.out.lt; omega
  have hwT : w.heap.size ≤ w2.heap.size := HG2.out.size
  obtain ⟨T, hT⟩ : ∃ T, T = w2.heap.size := ⟨_, rfl⟩
  rw [← hT] at hcv HB3 hTg hBT hwT
  clear hcap hw3 hBy hBt hsz hT
  go_wp2_with fail
  refine (pickNew hn HC3.out [0, 0, 1, 1, 1, 2, 3, 4] 8 8 rfl (by decide) (by decide) #[.int .i64 0, .int .i64 0, .int .i64 1, .int .i64 1, .int .i64 1, .int .i64 2, .int .i64 3, .int .i64 4] rfl 3).mono ?_
  rintro e w4 ⟨x, hx, rfl, hc4, hg4⟩
  obtain ⟨k0, hk0, hk4⟩ : ∃ k : Nat, x = (k : Int) ∧ k ≤ 4 := by simp at hx; exact ⟨x.toNat, by omega, by omega⟩
  subst hk0
  have HC4 := Lib.hid hc4
  have HB4 := Lib.hid (HB3.out.grown hg4 hTg)
  have HG4 := Lib.hid (HG3.out.trans hg4)
  clear hx hc4 hg4 hcv
  go_wp2_with fail
  go_loopw [4] (fun m wr => ∃ k : Nat, k ≤ 4 ∧ m = .int .i64 (k : Int) ∧ Hid (Cu B n p cap gc oc wr g ∧ Bytes 12 wr T ∧ w.grownBy wr (some g))) (fun m _ => (intOf m).toNat)
  case atStart => exact ⟨k0, hk4, rfl, HC4.out, HB4.out, HG4.out⟩
  case round =>
    obtain ⟨k, hk, rfl, HI⟩ := hrel
    by_cases hk1 : 0 < k
    · have hk2 : decide (0 < k) = true := decide_eq_true hk1
      have hk3 : (0 : Int) < (k : Int) := by omega
      go_wp2_with fail
      refine (below_at hn HI.out.1 12 _ rfl (by omega) (by omega)).mono ?_
      rintro e w5 ⟨i, hi, rfl, hc5, hg5⟩
      have HI5 : Hid (Cu B n p cap gc oc w5 g ∧ Bytes 12 w5 T ∧ w.grownBy w5 (some g)) := ⟨hc5, HI.out.2.1.grown hg5 hTg, HI.out.2.2.trans hg5⟩
      clear hc5 hg5
      by_cases hi10 : i = 10
      · subst hi10
        go_wp2_with fail
        go_roundw
        case rel => exact ⟨k - 1, by omega, by congr 1; omega, HI5⟩
        case measure => simp only [intOf]; omega
      · have hi1 : ((i : Int) != 10) = true := by rw [bne_iff_ne]; omega
        have hi2 : decide ((i : Int) = 10) = false := decide_eq_false (by omega)
        have hi3 : ((i : Int) == 10) = false := by rw [beq_eq_false_iff_ne]; omega
        obtain ⟨⟨y, hy⟩, hf⟩ := HI5.out.2.1.2 i hi
        have hi0 : (0 : Int) ≤ (i : Int) := by omega
        have hi12 : (i : Int) < 12 := by omega
        have HI6 : Hid (Cu B n p cap gc oc (w5.setCell ⟨T, i, none⟩ (.int .u8 63)) g ∧ Bytes 12 (w5.setCell ⟨T, i, none⟩ (.int .u8 63)) T ∧ w.grownBy (w5.setCell ⟨T, i, none⟩ (.int .u8 63)) (some g)) :=
          ⟨HI5.out.1.set _ _ hTg.symm hBT, HI5.out.2.1.set i 63 hi, grown_new HI5.out.2.2 _ _ hwT⟩
        clear hi10
        go_wp2_with fail
        go_roundw
        case rel => exact ⟨k - 1, by omega, by congr 1; omega, HI6⟩
        case measure => simp only [intOf]; omega
    · obtain rfl : k = 0 := by omega
      have hk2 : decide ((0 : Int) < ((0 : Nat) : Int)) = false := by decide
      clear HC4 HB4 HG4
      go_wp2_with fail
      refine (once_at hn HI.out.1 6 _ rfl (by omega) (by omega)).mono ?_
      rintro e w5 ⟨b1, rfl, hc5, hg5⟩
      have HI5 : Hid (Cu B n p cap gc oc w5 g ∧ Bytes 12 w5 T ∧ w.grownBy w5 (some g)) := ⟨hc5, HI.out.2.1.grown hg5 hTg, HI.out.2.2.trans hg5⟩
      clear hc5 hg5 HI
      cases b1
      · go_wp2_with fail
        refine (once_at hn HI5.out.1 20 _ rfl (by omega) (by omega)).mono ?_
        rintro e w8 ⟨b2, rfl, hc8, hg8⟩
        have HI8 : Hid (Cu B n p cap gc oc w8 g ∧ Bytes 12 w8 T ∧ w.grownBy w8 (some g)) := ⟨hc8, HI5.out.2.1.grown hg8 hTg, HI5.out.2.2.trans hg8⟩
        clear hc8 hg8 HI5
        obtain ⟨s8, hs8, hcv⟩ := HI8.out.2.1.conv (P := Tryd.prog) Tryd.underlying22 Tryd.underlying5 Tryd.underlying9 cap3
        cases b2
        · have hc1 := hcv w8 rfl
          clear hcv
          go_wp2_with fail
          go_ret
          exact ⟨s8, by omega, rfl, HI8.out.1, HI8.out.2.2⟩
        · have HCV := Lib.hid hcv
          have hTl := HI8.out.2.1.1
          have hc1 := hcv w8 rfl
          have hc2 := hcv w8.drew rfl
          have hc3 := hcv (w8.alloc (.cells #[.string ⟨#[]⟩, .string ⟨#[48]⟩, .string ⟨#[63]⟩] 9)) (Below.heap_alloc _ _ _ hTl)
          have hc4 := hcv (w8.alloc (.cells #[.string ⟨#[]⟩, .string ⟨#[48]⟩, .string ⟨#[63]⟩] 9)).drew (Below.heap_alloc _ _ _ hTl)
          have HC8d : Cu B n p cap gc oc w8.drew g := HI8.out.1.kept rfl (fun _ _ => rfl)
          have hp2 : Calls Tryd.prog 39 #[.pointer (some ⟨g, 0, none⟩), .slice (some ⟨w8.heap.size, 0, none⟩) 3 3] (w8.alloc (.cells #[.string ⟨#[]⟩, .string ⟨#[48]⟩, .string ⟨#[63]⟩] 9)).drew _ := pickStrNew hn HC8d [⟨#[]⟩, ⟨#[48]⟩, ⟨#[63]⟩] 3 3 rfl (by decide) (by decide) #[.string ⟨#[]⟩, .string ⟨#[48]⟩, .string ⟨#[63]⟩] rfl 9
          have HP2 := Lib.hid hp2
          have HX9 : Hid (∀ x ∈ [(⟨#[]⟩ : ByteArray), ⟨#[48]⟩, ⟨#[63]⟩], x.size ≤ 1) := fun x hx => by
            simp at hx
            rcases hx with rfl | rfl | rfl <;> decide
          have h12 : s8.size ≤ 12 := by omega
          clear hcv HC8d hp2
          go_wp2_with fail
          go_region_with (go_at_call 39; refine HP2.out.mono ?_; rintro e w9 ⟨x9, hx9, rfl, hc9, hg9⟩; have hx1 := HX9.out x9 hx9; have hc5 := HCV.out w9 (hg9.block T hTl (by intro e; injection e with e; exact hTg e)); have hc6 := HCV.out w9.drew (hg9.block T hTl (by intro e; injection e with e; exact hTg e)))
          all_goals
            go_wp2_with fail
            go_ret
            refine ⟨_, ?_, rfl, hc9, (HI8.out.2.2.trans (⟨rfl, rfl, rfl, Nat.le_refl _, fun _ _ _ => rfl⟩ : w8.grownBy w8.drew (some g))).trans hg9⟩
            rw [ByteArray.size_append]
            omega
      · go_wp2_with fail
        refine (below_at hn HI5.out.1 12 _ rfl (by omega) (by omega)).mono ?_
        rintro e w6 ⟨i, hi, rfl, hc6, hg6⟩
        have HI6 : Hid (Cu B n p cap gc oc w6 g ∧ Bytes 12 w6 T ∧ w.grownBy w6 (some g)) := ⟨hc6, HI5.out.2.1.grown hg6 hTg, HI5.out.2.2.trans hg6⟩
        clear hc6 hg6 HI5
        go_wp2_with fail
        refine (pickNew hn HI6.out.1 [48, 49, 57, 63, 45, 65, 58] 7 7 rfl (by decide) (by decide) #[.int .i64 48, .int .i64 49, .int .i64 57, .int .i64 63, .int .i64 45, .int .i64 65, .int .i64 58] rfl 3).mono ?_
        rintro e w7 ⟨x, hx, rfl, hc7, hg7⟩
        obtain ⟨y8, hy8⟩ := u8_of [48, 49, 57, 63, 45, 65, 58] (by decide) x hx
        have hxb : 0 ≤ x ∧ x < 256 := by simp at hx; omega
        obtain ⟨hx0, hx1⟩ := hxb
        have HI7 : Hid (Cu B n p cap gc oc w7 g ∧ Bytes 12 w7 T ∧ w.grownBy w7 (some g)) := ⟨hc7, HI6.out.2.1.grown hg7 hTg, HI6.out.2.2.trans hg7⟩
        obtain ⟨⟨y, hy⟩, hf⟩ := HI7.out.2.1.2 i hi
        have hi0 : (0 : Int) ≤ (i : Int) := by omega
        have hi12 : (i : Int) < 12 := by omega
        have HI5 : Hid (Cu B n p cap gc oc (w7.setCell ⟨T, i, none⟩ (.int .u8 x)) g ∧ Bytes 12 (w7.setCell ⟨T, i, none⟩ (.int .u8 x)) T ∧ w.grownBy (w7.setCell ⟨T, i, none⟩ (.int .u8 x)) (some g)) := by
          rw [← hy8]
          exact ⟨HI7.out.1.set _ _ hTg.symm hBT, HI7.out.2.1.set i y8 hi, grown_new HI7.out.2.2 _ _ hwT⟩
        have hsw : (IntKind.u8.wrap x) = x := by rw [IntKind.wrap_u8']; omega
        clear hx hc7 hg7 hy8 HI6
        go_wp2_with fail
        refine (once_at hn HI5.out.1 20 _ rfl (by omega) (by omega)).mono ?_
        rintro e w8 ⟨b2, rfl, hc8, hg8⟩
        have HI8 : Hid (Cu B n p cap gc oc w8 g ∧ Bytes 12 w8 T ∧ w.grownBy w8 (some g)) := ⟨hc8, HI5.out.2.1.grown hg8 hTg, HI5.out.2.2.trans hg8⟩
        clear hc8 hg8 HI5
        obtain ⟨s8, hs8, hcv⟩ := HI8.out.2.1.conv (P := Tryd.prog) Tryd.underlying22 Tryd.underlying5 Tryd.underlying9 cap3
        cases b2
        · have hc1 := hcv w8 rfl
          clear hcv
          go_wp2_with fail
          go_ret
          exact ⟨s8, by omega, rfl, HI8.out.1, HI8.out.2.2⟩
        · have HCV := Lib.hid hcv
          have hTl := HI8.out.2.1.1
          have hc1 := hcv w8 rfl
          have hc2 := hcv w8.drew rfl
          have hc3 := hcv (w8.alloc (.cells #[.string ⟨#[]⟩, .string ⟨#[48]⟩, .string ⟨#[63]⟩] 9)) (Below.heap_alloc _ _ _ hTl)
          have hc4 := hcv (w8.alloc (.cells #[.string ⟨#[]⟩, .string ⟨#[48]⟩, .string ⟨#[63]⟩] 9)).drew (Below.heap_alloc _ _ _ hTl)
          have HC8d : Cu B n p cap gc oc w8.drew g := HI8.out.1.kept rfl (fun _ _ => rfl)
          have hp2 : Calls Tryd.prog 39 #[.pointer (some ⟨g, 0, none⟩), .slice (some ⟨w8.heap.size, 0, none⟩) 3 3] (w8.alloc (.cells #[.string ⟨#[]⟩, .string ⟨#[48]⟩, .string ⟨#[63]⟩] 9)).drew _ := pickStrNew hn HC8d [⟨#[]⟩, ⟨#[48]⟩, ⟨#[63]⟩] 3 3 rfl (by decide) (by decide) #[.string ⟨#[]⟩, .string ⟨#[48]⟩, .string ⟨#[63]⟩] rfl 9
          have HP2 := Lib.hid hp2
          have HX9 : Hid (∀ x ∈ [(⟨#[]⟩ : ByteArray), ⟨#[48]⟩, ⟨#[63]⟩], x.size ≤ 1) := fun x hx => by
            simp at hx
            rcases hx with rfl | rfl | rfl <;> decide
          have h12 : s8.size ≤ 12 := by omega
          clear hcv HC8d hp2
          go_wp2_with fail
          go_region_with (go_at_call 39; refine HP2.out.mono ?_; rintro e w9 ⟨x9, hx9, rfl, hc9, hg9⟩; have hx1 := HX9.out x9 hx9; have hc5 := HCV.out w9 (hg9.block T hTl (by intro e; injection e with e; exact hTg e)); have hc6 := HCV.out w9.drew (hg9.block T hTl (by intro e; injection e with e; exact hTg e)))
          all_goals
            go_wp2_with fail
            go_ret
            refine ⟨_, ?_, rfl, hc9, (HI8.out.2.2.trans (⟨rfl, rfl, rfl, Nat.le_refl _, fun _ _ _ => rfl⟩ : w8.grownBy w8.drew (some g))).trans hg9⟩
            rw [ByteArray.size_append]
            omega

end Go.Proofs.YtopkdkehkdhmgabDoor
