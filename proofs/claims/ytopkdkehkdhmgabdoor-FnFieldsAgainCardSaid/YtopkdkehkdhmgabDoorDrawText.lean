/- Drawn texts. -/
import Derived.Test.YtopkdkehkdhmgabDoorBytes
import Derived.Test.YtopkdkehkdhmgabDoorCode
import Derived.Laws.MakeOwn
import Derived.Laws.OwnMore
namespace Go.Proofs.YtopkdkehkdhmgabDoor
open Go.RowKit
set_option linter.unusedVariables false

theorem infoU8 : (Tryd.prog.info? 5).map (fun i => (i.zero, i.size, i.bytes)) = some (some (.int .u8 0), 1, 1) := by kernel_rfl

set_option maxRecDepth 100000 in
set_option maxHeartbeats 2000000 in
theorem long_any (m : Nat) (hm : m ≤ 1048576) (x : UInt8) (zx : Int) (hzx : (x.toNat : Int) = zx) (zm : Int) (hzm : (m : Int) = zm) (w : World) :
    Calls Tryd.prog 31 #[.int .i64 zm, .int .u8 zx] w fun e w' => ∃ s : ByteArray, s.size = m ∧ e = .returned (.string s) ∧ Below w.heap.size w w' := by
  subst hzx hzm
  obtain ⟨i0, hi, hz0, hz1, hz2⟩ := info_parts infoU8
  have hmk := fun W => run_make (P := Tryd.prog) W 22 5 i0 _ Tryd.underlying22 hi hz0 .i64 .i64 (m : Int) (m : Int) (by omega) (by omega) (by rw [hz2]; omega) (by omega)
  simp only [Int.toNat_natCast, hz1] at hmk
  obtain ⟨C, hC⟩ : ∃ C, C = madeCells (Value.int .u8 0).cells (m * 1) := ⟨_, rfl⟩
  rw [← hC] at hmk
  have hB0 : Bytes m (w.alloc (.cells C 5)) w.heap.size := by
    refine ⟨by simp, fun j hj => ⟨⟨0, ?_⟩, ?_⟩⟩
    · rw [cell_of_row _ _ _ _ _ _ (heap_alloc_new w _), hC]
      have hl : (madeCells #[Value.int .u8 0] (m * 1)).toList = List.replicate (m * 1) (Value.int .u8 0) := toList_madeCells_one _ _
      rw [show (Value.int .u8 0).cells = #[Value.int .u8 0] from rfl, ← Array.getElem?_toList, hl, List.getElem?_replicate]
      rw [if_pos (by omega)]
      rfl
    · exact frozen_of_row _ _ _ _ _ (heap_alloc_new w _)
  have HB0 := Lib.hid hB0
  clear hC hz0 hz1 hz2 hB0
  obtain ⟨y, hy⟩ : ∃ y : Nat, y = x.toNat := ⟨_, rfl⟩
  have hy256 : y < 256 := by rw [hy]; exact x.toNat_lt
  have HY := Lib.hid hy
  rw [← hy]
  clear hy
  go_enter Tryd.func31, Tryd.ntmps31
  go_wp2_with fail
  go_loopw [6] (fun v wr => ∃ k : Nat, k ≤ m ∧ v = .int .i64 (k : Int) ∧ Bytes m wr w.heap.size ∧ Below w.heap.size w wr) (fun v _ => m - (intOf v).toNat)
  case atStart => exact ⟨0, by omega, rfl, HB0.out, (Below.refl _ _).alloc (Nat.le_refl _) _⟩
  case round =>
    obtain ⟨k, hk, rfl, hbt, hbw⟩ := hrel
    by_cases hkn : k < m
    · obtain ⟨u, hu⟩ := (hbt.2 k hkn).1
      have fu := (hbt.2 k hkn).2
      have hs := hbt.set k x hkn
      rw [← HY.out] at hs
      have HS := Lib.hid hs
      have hk0 : (0 : Int) ≤ (k : Int) := by omega
      have hkl : (k : Int) < (m : Int) := by omega
      clear hs hbt
      go_wp2_with fail
      go_roundw
      case rel => exact ⟨k + 1, by omega, by congr 1, HS.out, hbw.setCell (Nat.le_refl _) _⟩
      case measure => simp only [intOf]; omega
    · obtain rfl : k = m := by omega
      obtain ⟨s, hs, hcv⟩ := hbt.conv (P := Tryd.prog) (T := 22) (S := 9) (E := 5) Tryd.underlying22 Tryd.underlying5 Tryd.underlying9 k
      have hcv2 := hcv wr rfl
      have HSZ := Lib.hid hs
      clear hbt hcv hs
      go_wp2_with fail
      go_ret
      exact ⟨s, HSZ.out, rfl, hbw⟩

set_option maxRecDepth 100000 in
set_option maxHeartbeats 2000000 in
theorem text_any {B n : Nat} {p : Option Addr} {cap gc oc : Nat} {w : World} {g : Nat} (hn : n ≤ 1048576) (h : Cu B n p cap gc oc w g) (m : Nat) (hm : m ≤ 5000) :
    Calls Tryd.prog 33 #[.pointer (some ⟨g, 0, none⟩), .int .i64 (m : Int)] w fun e w' => ∃ s : ByteArray, s.size = m ∧ e = .returned (.string s) ∧ Cu B n p cap gc oc w' g ∧ w.grownBy w' (some g) := by
  obtain ⟨i0, hi, hz0, hz1, hz2⟩ := info_parts infoU8
  have hgl := h.lt
  have hA : Below w.heap.size w (w.alloc (.cells #[] 5)) := (Below.refl _ _).alloc (Nat.le_refl _) _
  have HC0 := Lib.hid (h.below hA)
  have HG0 := Lib.hid (World.grownBy_alloc w (.cells #[] 5) (some g))
  have hst : (w.alloc (.cells #[] 5)).ownsRow w.heap.size 5 1 (.slice (some ⟨w.heap.size, 0, none⟩) 0 0) 0 [] := ⟨by simp, .inr ⟨w.heap.size, 0, #[], rfl, Nat.le_refl _, heap_alloc_new _ _, Nat.le_refl _, by decide, by simp, by simp⟩⟩
  have HST := Lib.hid hst
  have hd5 : decide (5000 < (m : Int)) = false := decide_eq_false (by omega)
  clear h hA hst
  go_enter Tryd.func33, Tryd.ntmps33
  go_wp2_with fail
  go_loopw [5, 6] (fun v iv wr => ∃ (k : Nat) (vv : Value) (xs : List Value), k ≤ m ∧ vv = v ∧ iv = .int .i64 (k : Int) ∧ wr.ownsRow w.heap.size 5 1 vv k xs ∧ Hid (∀ u ∈ xs, ∃ x : UInt8, u = .int .u8 (x.toNat : Int)) ∧ Cu B n p cap gc oc wr g ∧ w.grownBy wr (some g)) (fun _ iv _ => m - (intOf iv).toNat)
  case atStart => exact ⟨0, _, [], by omega, rfl, rfl, HST.out, fun u hu => by simp at hu, HC0.out, HG0.out⟩
  case round =>
    obtain ⟨k, vv, xs, hk, rfl, rfl, hown, HXS, hcu, hgr⟩ := hrel
    by_cases hkn : k < m
    · have HC := Lib.hid hcu
      have HG := Lib.hid hgr
      have HO := Lib.hid hown
      have hk0 : (0 : Int) ≤ (k : Int) := by omega
      have hkl : (k : Int) < (m : Int) := by omega
      clear hcu hgr hown
      go_wp2_with fail
      refine (byte_any hn HC.out).mono ?_
      rintro e w2 ⟨y, hy, rfl, hc2, hg2⟩
      have hown2 := HO.out.kept hg2 (.inr (fun e => by have := (HO.out.lt g e).1; omega))
      have HC2 := Lib.hid hc2
      have HG2 := Lib.hid (HG.out.trans hg2)
      have hs2 : w.heap.size ≤ w2.heap.size := HG2.out.size
      have hg2l := hc2.lt
      have hBw := hc2.base
      clear hc2 hg2
      go_wp2_with (at_builtin; refine wpList_append_own _ rfl _ _ 22 rfl w.heap.size 5 i0 (.int .u8 0) 1 1 Tryd.underlying22 hi hz0 hz1 hz2 rfl (by decide) _ k _ rfl (hown2.alloc _) ⟨w2.heap.size, 0, none⟩ 1 1 [.int .u8 (y : Int)] rfl rfl (by intro j u hj; match j, hj with | 0, hj => simp at hj; subst hj; simp [Addr.add]) (by intro u hu; simp at hu; subst hu; rfl) (by unfold maxLen; omega) (by omega) (by simp; omega) ?_; intro v4 w4 hown4 hgrow4 _)
      have hcu4 : Cu B n p cap gc oc w4 g := (HC2.out.below ((Below.refl _ _).alloc (Nat.le_refl _) _)).grown hgrow4 (by
          intro e
          have := (hown2.lt g e.symm).1
          omega) (fun j hj => by have := (hown2.lt j hj).1; omega)
      have hgr4 : w.grownBy w4 (some g) := ⟨hgrow4.os.trans (HG2.out.os), hgrow4.tape.trans (HG2.out.tape), hgrow4.output.trans (HG2.out.output), Nat.le_trans hs2 (by have := hgrow4.size; simp at this; omega), fun j hj hne => by
        refine (hgrow4.block j (by simp; omega) (fun e => ?_)).trans ((Below.heap_alloc _ _ _ (by omega)).trans (HG2.out.block j hj hne))
        have := (hown2.lt j e.symm).1
        omega⟩
      go_roundw
      case rel => exact ⟨k + 1, _, _, by omega, rfl, by congr 1, hown4, fun u hu => by
        rcases List.mem_append.1 hu with h | h
        · exact HXS.out u h
        · refine ⟨UInt8.ofNat y, ?_⟩
          rw [List.mem_singleton.1 h]
          congr 1
          simp only [UInt8.toNat_ofNat']
          omega, hcu4, hgr4⟩
      case measure => simp only [intOf]; omega
    · obtain rfl : k = m := by omega
      have hl := hown.1
      have hpull : ∃ l : List UInt8, l.length = k ∧ xs = l.map (fun c => Value.int .u8 (c.toNat : Int)) := by
        have : ∀ ys : List Value, (∀ u ∈ ys, ∃ x : UInt8, u = .int .u8 (x.toNat : Int)) → ∃ l : List UInt8, l.length = ys.length ∧ ys = l.map (fun c => Value.int .u8 (c.toNat : Int)) := by
          intro ys
          induction ys with
          | nil => intro _; exact ⟨[], rfl, rfl⟩
          | cons y ys ih =>
            intro hh
            obtain ⟨l, h1, h2⟩ := ih (fun u hu => hh u (by simp [hu]))
            obtain ⟨x, hx⟩ := hh y (by simp)
            exact ⟨x :: l, by simp [h1], by rw [List.map_cons, ← h2, hx]⟩
        obtain ⟨l, h1, h2⟩ := this xs HXS.out
        exact ⟨l, by omega, h2⟩
      obtain ⟨l, hl1, rfl⟩ := hpull
      have HL := Lib.hid hl1
      have HC := Lib.hid hcu
      have HG := Lib.hid hgr
      clear hcu hgr hl hl1
      rcases hown.2 with ⟨rfl, h0⟩ | ⟨gg, cap', cur, rfl, -⟩
      · have hcv := run_convert_bytes_nil (P := Tryd.prog) wr 22 5 Tryd.underlying22 Tryd.underlying5 0 0 9 Tryd.underlying9
        have H0 := Lib.hid h0
        clear h0 hown
        go_wp2_with fail
        go_ret
        exact ⟨_, by rw [H0.out]; rfl, rfl, HC.out, HG.out⟩
      · have hcv := run_convert_bytes_back (P := Tryd.prog) wr 22 9 5 ⟨gg, 0, none⟩ cap' l Tryd.underlying22 Tryd.underlying5 Tryd.underlying9 (fun j hj => hown.cells (g := gg) rfl j _ (by simp [hj]))
        rw [HL.out] at hcv
        clear hown
        go_wp2_with fail
        go_ret
        exact ⟨_, by show l.toArray.size = k; simpa using HL.out, rfl, HC.out, HG.out⟩

set_option maxRecDepth 100000 in
set_option maxHeartbeats 2000000 in
theorem drawHex_any {B n : Nat} {p : Option Addr} {cap gc oc : Nat} {w : World} (hn : n ≤ 1048576) (hB : B ≤ w.heap.size) (hC : Code B n w p gc oc) :
    Calls Tryd.prog 8 #[.slice p n cap] w fun e w' => ∃ s : ByteArray, s.size ≤ 20001 ∧ e = .returned (.string s) ∧ Below w.heap.size w w' := by
  have H := Lib.hid hC
  clear hC
  go_enter Tryd.func8, Tryd.ntmps8
  go_wp2_with fail
  refine (new_any (cap := cap) hn hB H.out).mono ?_
  rintro e w1 ⟨g, rfl, hc1, hb1, hg1⟩
  have HC1 := Lib.hid hc1
  have HB1 := Lib.hid hb1
  clear hb1 hc1
  go_wp2_with fail
  refine (once_at hn HC1.out 60 _ rfl (by omega) (by omega)).mono ?_
  rintro e w2 ⟨b1, rfl, hc2, hgr2⟩
  have HC2 := Lib.hid hc2
  have HG2 := Lib.hid hgr2
  clear hc2 hgr2
  have HBW := Lib.hid (fun (W : World) (hW : w1.grownBy W (some g)) => (below_grown hW HB1.out.size (fun k hk => by injection hk with hk; omega) : Below w.heap.size w1 W))
  cases b1
  · go_wp2_with fail
    refine (below_at hn HC2.out 30 _ rfl (by omega) (by omega)).mono ?_
    rintro e w3 ⟨x, hx, rfl, hc3, hgr3⟩
    have HC3 := Lib.hid hc3
    have HG3 := Lib.hid (HG2.out.trans hgr3)
    clear hc3 hgr3
    go_wp2_with fail
    refine (text_any hn HC3.out x (by omega)).mono ?_
    rintro e w4 ⟨s, hs, rfl, hc4, hgr4⟩
    have HG4 := Lib.hid (HG3.out.trans hgr4)
    have hs2 : s.size ≤ 20001 := by omega
    clear hc4 hgr4 hs
    go_wp2_with fail
    go_ret
    exact ⟨s, hs2, rfl, HB1.out.trans (HBW.out _ HG4.out)⟩
  · go_wp2_with fail
    refine (below_at hn HC2.out 2 _ rfl (by omega) (by omega)).mono ?_
    rintro e w3 ⟨x, hx, rfl, hc3, hgr3⟩
    have HG3 := Lib.hid (HG2.out.trans hgr3)
    clear hc3 hgr3
    have HLG := Lib.hid (fun W => long_any (20000 + x) (by omega) 200 200 rfl (20000 + (x : Int)) (by omega) W)
    go_wp2_with fail
    refine (HLG.out _).mono ?_
    rintro e w4 ⟨s, hs, rfl, hb4⟩
    have HB4 := Lib.hid hb4
    have hs2 : s.size ≤ 20001 := by omega
    clear hb4 hs
    go_wp2_with fail
    go_ret
    exact ⟨s, hs2, rfl, (HB1.out.trans (HBW.out _ HG3.out)).trans (HB4.out.mono (HB1.out.trans (HBW.out _ HG3.out)).size)⟩

end Go.Proofs.YtopkdkehkdhmgabDoor
