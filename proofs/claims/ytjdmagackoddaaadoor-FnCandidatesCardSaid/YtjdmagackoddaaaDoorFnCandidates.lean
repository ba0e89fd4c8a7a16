/- For every code FnCandidates returns true, and the code reads as before; the listed variables of strconv and math/bits are tied to the program's text. No other condition. -/
import Derived.Test.YtjdmagackoddaaaDoorCards
import Derived.Test.YtjdmagackoddaaaDoorTie
import Derived.Test.YtjdmagackoddaaaDoorLaidErr
import Derived.Test.YtjdmagackoddaaaDoorCandLaw
import Derived.Test.YtjdmagackoddaaaDoorCode
import Derived.Shelf.SlSortCmp.QuietGrown
import Derived.IntWalk
import Derived.OpenShut
import Derived.ChangeOld
import Derived.Lib.SmallJoins
import Derived.LaidMore
import Derived.Stop.LaidErr
import Derived.Stop.Joined
import Derived.SevenTiedAt
namespace Go.Proofs.YtjdmagackoddaaaDoor.fnCandidates
open Go.ChangeShapes Go.WideShapes Go.ChangeAt Go.RowKit
set_option linter.unusedVariables false

set_option maxRecDepth 100000 in
set_option maxHeartbeats 4000000 in
theorem walk (p : Option Addr) (n cap gc oc : Nat) (w : World) (hn : n ≤ maxLen) (hC : Code w.heap.size n w p gc oc) (htab : Lib.TabIs Tryd.prog w "internal/strconv.uint64pow10" .u64 Lib.pow10Tab) (hr : ErrIs w "strconv.ErrRange") (hs : ErrIs w "strconv.ErrSyntax") :
    Calls Tryd.prog 3 #[.slice p n cap] w fun e w' => e = .returned (.bool true) ∧ Below w.heap.size w w' := by
  have hbg := Lib.hid (big_any p n cap hn w)
  by_cases hbig : 1048576 < n
  · have hd : decide (1048576 < n) = true := decide_eq_true hbig
    rw [hd] at hbg
    clear htab hr hs hC
    go_enter Tryd.func3, Tryd.ntmps3
    go_wp2_with (go_at_call 7; refine hbg.out.mono ?_; rintro e w' ⟨rfl, rfl⟩)
    go_ret
    exact ⟨rfl, Below.refl _ _⟩
  · have hd : decide (1048576 < n) = false := decide_eq_false hbig
    rw [hd] at hbg
    have hT := Lib.hid (Lib.tabBelow_of_tabIs htab)
    have HR := Lib.hid hr
    have HS := Lib.hid hs
    have HDR := Lib.hid (drawCand_any (cap := cap) (by omega) (Nat.le_refl _) hC)
    clear htab hr hs hC hbig hd hn
    go_enter Tryd.func3, Tryd.ntmps3
    go_wp2_with (go_at_call 7; refine hbg.out.mono ?_; rintro e w' ⟨rfl, rfl⟩)
    refine HDR.out.mono ?_
    clear HDR hbg
    rintro e w1 ⟨s, hs13, rfl, hb1⟩
    obtain ⟨Ms, ok, hle, hpost, hall, hasc, hone⟩ := cand_law s.data.toList
    have HP := Lib.hid hpost
    have HALL := Lib.hid hall
    have HASC := Lib.hid hasc
    have HONE := Lib.hid hone
    have HB1 := Lib.hid hb1
    have hcon := Lib.hid (icand_any s (by omega) w1 (hT.out _ hb1) (HR.out.on gRng hb1) (HS.out.on gSyn hb1))
    clear hpost hall hasc hone hb1
    go_wp2_with fail
    refine hcon.out.mono ?_
    clear hcon
    intro e w2 hp
    obtain ⟨v1, rfl, hown1, hb2⟩ := HP.out _ _ _ _ hp
    clear hp
    obtain ⟨p1, c1, g1, rfl, hp1, hc1⟩ := row_cells hown1
    obtain ⟨m, hm⟩ : ∃ m, m = Ms.length := ⟨_, rfl⟩
    rw [← hm] at hp1 hc1 hle ⊢
    have HM := Lib.hid hm
    have P1 := Lib.hid hp1
    have C1 := Lib.hid hc1
    have HB2 := Lib.hid (HB1.out.trans (hb2.mono HB1.out.size))
    clear hown1 hp1 hc1 hb2 hm
    go_wp2_with fail
    refine (scand_any s (by omega) _).mono ?_
    intro e w3 hp
    obtain ⟨v2, rfl, hown2, hb3⟩ := HP.out _ _ _ _ hp
    clear hp
    obtain ⟨p2, c2, g2, rfl, hp2, hc2⟩ := row_cells hown2
    rw [← HM.out] at hp2 hc2 ⊢
    have b03 : Below w.heap.size w w3 := HB2.out.trans (hb3.mono HB2.out.size)
    have hcon := Lib.hid (irep_any s (by omega) w3 (hT.out _ b03) (HR.out.on gRng b03) (HS.out.on gSyn b03))
    have P2 := Lib.hid hp2
    have C2 := Lib.hid hc2
    have HB3 := Lib.hid hb3
    have HB03 := Lib.hid b03
    clear hown2 hp2 hc2 hb3 b03 HP
    obtain ⟨a, b, c, one, hv, hcase⟩ : ∃ (a b c : Int) (one : Bool), ptv (repOf s.data.toList) = .tuple #[.agg #[.int .i64 a, .int .i64 b, .int .i64 c], .bool one] ∧
        ((one = true ∧ ok = true ∧ m = 1 ∧ (Ms.flatMap tagInts).getD 0 0 = a ∧ (Ms.flatMap tagInts).getD 1 0 = b ∧ (Ms.flatMap tagInts).getD 2 0 = c) ∨
         (one = false ∧ ok = true ∧ m ≠ 1 ∧ a = 0 ∧ b = 0 ∧ c = 0) ∨ (one = false ∧ ok = false ∧ a = 0 ∧ b = 0 ∧ c = 0)) := by
      rcases HONE.out with ⟨M, h1, h2, h3⟩ | ⟨h1 | h1, h2⟩
      · rw [h3]
        refine ⟨_, _, _, _, rfl, .inl ⟨rfl, h2, by rw [HM.out, h1]; rfl, ?_⟩⟩
        rw [h1]
        exact ⟨rfl, rfl, rfl⟩
      · rw [h2]
        exact ⟨_, _, _, _, rfl, .inr (.inl ⟨rfl, h1.1, by rw [HM.out]; exact h1.2, rfl, rfl, rfl⟩)⟩
      · rw [h2]
        exact ⟨_, _, _, _, rfl, .inr (.inr ⟨rfl, h1, rfl, rfl, rfl⟩)⟩
    rw [hv] at hcon
    clear hv HONE
    go_wp2_with fail
    refine hcon.out.mono ?_
    clear hcon
    rintro e w4 ⟨rfl, hb4⟩
    obtain ⟨w5, hw5⟩ : ∃ w5, w5 = w4.alloc (.cells #[.int .i64 a, .int .i64 b, .int .i64 c] 29) := ⟨_, rfl⟩
    have b35 : Below w3.heap.size w3 w5 := by rw [hw5]; exact hb4.alloc hb4.size _
    have hx : w5.cell? ⟨w4.heap.size, 0, none⟩ = some (.int .i64 a) ∧ w5.cell? ⟨w4.heap.size, 1, none⟩ = some (.int .i64 b) ∧ w5.cell? ⟨w4.heap.size, 2, none⟩ = some (.int .i64 c) := by rw [hw5]; exact ⟨newCell _ _ _ _ _ rfl, newCell _ _ _ _ _ rfl, newCell _ _ _ _ _ rfl⟩
    have hx5 : w4.heap.size < w5.heap.size := by rw [hw5]; simp
    have b05 : Below w.heap.size w w5 := HB03.out.trans (b35.mono HB03.out.size)
    have b25 : Below w2.heap.size w2 w5 := HB3.out.trans (b35.mono HB3.out.size)
    have heq := Lib.hid (sameTags_quiet m (by omega) (Ms.flatMap tagInts) p1 p2 c1 c2 g1 g2)
    have hc15 : ∀ j, j < m * 3 → w5.cell? ⟨g1, j, none⟩ = some (.int .i64 ((Ms.flatMap tagInts).getD j 0)) := fun j hj => (b25.cell (p := ⟨g1, j, none⟩) (P1.out (by omega)).2).trans (C1.out j hj)
    have hc25 : ∀ j, j < m * 3 → w5.cell? ⟨g2, j, none⟩ = some (.int .i64 ((Ms.flatMap tagInts).getD j 0)) := fun j hj => (b35.cell (p := ⟨g2, j, none⟩) (P2.out (by omega)).2).trans (C2.out j hj)
    have HEQ : Hid (∀ n, Calls Tryd.prog 12 #[.slice p1 m c1, .slice p2 m c2] (w5.drewN n) fun e w' => e = .returned (.bool true) ∧ ∃ k, w' = (w5.drewN n).drewN k) := fun n => heq.out (w5.drewN n) (fun h => (P1.out h).1) (fun h => (P2.out h).1) hc15 hc25
    have HC25 := Lib.hid hc25
    have HB35 := Lib.hid b35
    have HB25 := Lib.hid b25
    have HB05 := Lib.hid b05
    have HW5 := Lib.hid hw5
    obtain ⟨x0, x1, x2⟩ := hx
    clear hb4 b35 b25 b05 hw5 heq hc15 hc25 HB35
    have c3 := cellsTagS
    rcases hcase with ⟨rfl, rfl, hm1, ha, hb, hc⟩ | ⟨rfl, rfl, hm1, rfl, rfl, rfl⟩ | ⟨rfl, rfl, rfl, rfl, rfl⟩
    · obtain ⟨rfl, hg2⟩ := P2.out (by omega)
      have y0 := HC25.out 0 (by omega)
      have y1 := HC25.out 1 (by omega)
      have y2 := HC25.out 2 (by omega)
      rw [ha] at y0
      rw [hb] at y1
      rw [hc] at y2
      clear ha hb hc hg2 HC25 hx5
      subst hm1
      go_wp2_with fail
      rw [← HW5.out]
      go_quiet ((go_at_call 12; exact Calls.quiet_of (HEQ.out _)))
      clear x0 x1 x2 y0 y1 y2 HEQ HW5
      go_wp2_with fail
      go_loopw [10] (fun i wr => ∃ q : Nat, q ≤ 1 ∧ i = .int .i64 (q : Int) ∧ Hid (Below w2.heap.size w2 wr ∧ Below w.heap.size w wr)) (fun i _ => 1 - (intOf i).toNat)
      case atStart => exact ⟨0, by omega, rfl, below_drewN HB25.out _, below_drewN HB05.out _⟩
      case round =>
        obtain ⟨q, hq, rfl, HW⟩ := hrel
        by_cases hqm : q < 1
        · obtain rfl : q = 0 := by omega
          obtain ⟨rfl, hg1⟩ := P1.out (by omega)
          have hql : 0 < Ms.length := by rw [← HM.out]; exact hqm
          obtain ⟨M, hM⟩ : ∃ M, M = Ms[0] := ⟨_, rfl⟩
          obtain ⟨hok, hl12, hdig⟩ := HALL.out M (by rw [hM]; exact List.getElem_mem _)
          obtain ⟨ta, tb, tc, hTM⟩ : ∃ a b c, Tr M a b c := ⟨_, _, _, Tr.mk' hok⟩
          obtain ⟨e0, e1, e2⟩ := ints_at3 Ms 0 hql
          rw [← hM] at e0 e1 e2
          have e0 : (Ms.flatMap tagInts).getD 0 0 = _ := e0
          have e1 : (Ms.flatMap tagInts).getD 1 0 = _ := e1
          have e2 : (Ms.flatMap tagInts).getD 2 0 = _ := e2
          have b0 := (HW.out.1.cell (p := ⟨g1, 0, none⟩) hg1).trans (C1.out (0) (by omega))
          have b1 := (HW.out.1.cell (p := ⟨g1, 1, none⟩) hg1).trans (C1.out (1) (by omega))
          have b2 := (HW.out.1.cell (p := ⟨g1, 2, none⟩) hg1).trans (C1.out (2) (by omega))
          rw [e0, ← hTM.2.1] at b0
          rw [e1, ← hTM.2.2.1] at b1
          rw [e2, ← hTM.2.2.2] at b2
          have hfm := implFmt_any ta tb tc wr (hT.out _ HW.out.2)
          have hft : ftext ta tb tc = txt M := by
            obtain ⟨h1, h2, h3, h4⟩ := hTM
            rw [h2, h3, h4]; exact ftext_tri h1
          rw [hft] at hfm
          have HFM := Lib.hid hfm
          have hss : s.size = 12 := by rw [Array.length_toList] at hl12; exact hl12
          have HDG := Lib.hid hdig
          have HTM := Lib.hid hTM
          have HMQ := Lib.hid hM
          have c3 := cellsTagS
          clear e0 e1 e2 hfm hft hdig hok hl12 hM hTM
          obtain ⟨wo, rfl⟩ : ∃ wo : World, wo = wr := ⟨_, rfl⟩
          go_wp2_with fail
          refine HFM.out.mono ?_
          clear HFM
          rintro e w7 ⟨rfl, hb7⟩
          have HW7 : Hid (Below w2.heap.size w2 w7 ∧ Below w.heap.size w w7) := ⟨HW.out.1.trans (hb7.mono HW.out.1.size), HW.out.2.trans (hb7.mono HW.out.2.size)⟩
          have hgw : g1 < wo.heap.size := Nat.lt_of_lt_of_le hg1 HW.out.1.size
          have hg7 : g1 < w7.heap.size := Nat.lt_of_lt_of_le hgw hb7.size
          have d0 := (hb7.cell (p := ⟨g1, 0, none⟩) hgw).trans b0
          have d1 := (hb7.cell (p := ⟨g1, 1, none⟩) hgw).trans b1
          have d2 := (hb7.cell (p := ⟨g1, 2, none⟩) hgw).trans b2
          clear hb7 HW b0 b1 b2 hgw
          obtain ⟨t, ht⟩ : ∃ t : ByteArray, t = ⟨(txt M).toArray⟩ := ⟨_, rfl⟩
          have htt : t.size = 12 := by
            have : t.data.toList.length = 12 := by rw [ht, List.toList_toArray]; exact txt_len M
            rw [Array.length_toList] at this; exact this
          rw [← ht]
          have HTL : Hid (txt M = t.data.toList) := by show _ = _; rw [ht]
          clear ht
          clear d0 d1 d2
          go_wp2_with fail
          go_quiet (fail)
          have HW8 : Hid (Below w2.heap.size w2 (w7.drewN nq) ∧ Below w.heap.size w (w7.drewN nq)) := ⟨below_drewN HW7.out.1 _, below_drewN HW7.out.2 _⟩
          go_wp2_with fail
          have htt12 := htt
          go_loopw [12] (fun k wr => ∃ kk : Nat, kk ≤ 12 ∧ k = .int .i64 (kk : Int) ∧ Hid (Below w2.heap.size w2 wr ∧ Below w.heap.size w wr)) (fun k _ => 12 - (intOf k).toNat)
          case atStart => exact ⟨0, by omega, rfl, HW8.out⟩
          case round =>
            obtain ⟨k, hk, rfl, HW⟩ := hrel
            by_cases hk12 : k < 12
            · have hks : k < s.size := by omega
              have hkt : k < t.size := by omega
              have x1 := byteAt' s k hks
              have x2 := byteAt' t k hkt
              obtain ⟨nx, hnx⟩ : ∃ nx, nx = (s.data.toList.getD k 0).toNat := ⟨_, rfl⟩
              obtain ⟨ny, hny⟩ : ∃ ny, ny = (t.data.toList.getD k 0).toNat := ⟨_, rfl⟩
              have hnx9 : nx < 256 := by rw [hnx]; exact UInt8.toNat_lt _
              have hny9 : ny < 256 := by rw [hny]; exact UInt8.toNat_lt _
              have hxy : nx ≠ 63 → ny = nx := fun h => by
                rw [hnx, hny, ← HTL.out]
                rw [HDG.out k hk12 (fun e => h (by rw [hnx, e]; rfl))]
              rw [← hnx] at x1
              rw [← hny] at x2
              clear hnx hny
              have hk0' : (0 : Int) ≤ (k : Int) := by omega
              have hkl' : (k : Int) < 12 := by omega
              by_cases h63 : nx = 63
              · have f1 : ((nx : Int) != 63) = false := by rw [bne_eq_false_iff_eq]; omega
                have f2 : decide ((nx : Int) = 63) = true := decide_eq_true (by omega)
                have f3 : ((nx : Int) == 63) = true := by rw [beq_iff_eq]; omega
                clear hxy h63
                go_wp2_with fail
                go_quiet (fail)
                go_wp2_with fail
                go_roundw
                case rel => exact ⟨k + 1, by omega, by congr 1, below_drewN HW.out.1 _, below_drewN HW.out.2 _⟩
                case measure => simp only [intOf]; omega
              · have e := hxy h63
                subst e
                have f1 : ((ny : Int) != 63) = true := by rw [bne_iff_ne]; omega
                have f2 : decide ((ny : Int) = 63) = false := decide_eq_false (by omega)
                have f3 : ((ny : Int) == 63) = false := by rw [beq_eq_false_iff_ne]; omega
                clear hxy h63
                go_wp2_with fail
                go_quiet (fail)
                go_wp2_with fail
                go_roundw
                case rel => exact ⟨k + 1, by omega, by congr 1, below_drewN HW.out.1 _, below_drewN HW.out.2 _⟩
                case measure => simp only [intOf]; omega
            · obtain rfl : k = 12 := by omega
              go_wp2_with fail
              go_roundw
              case rel => exact ⟨1, by omega, by first | rfl | congr 1, HW.out⟩
              case measure => simp only [intOf]; omega
        · obtain rfl : q = 1 := by omega
          go_wp2_with fail
          go_ret
          exact ⟨rfl, HW.out.2⟩
    · clear HC25 hx5
      have m1 : decide ((m : Int) = 1) = false := decide_eq_false (by omega)
      have m2 : ((m : Int) == 1) = false := by rw [beq_eq_false_iff_ne]; omega
      go_wp2_with fail
      rw [← HW5.out]
      go_quiet ((go_at_call 12; exact Calls.quiet_of (HEQ.out _)))
      clear x0 x1 x2 m1 m2 HEQ HW5
      go_wp2_with fail
      go_loopw [10] (fun i wr => ∃ q : Nat, q ≤ m ∧ i = .int .i64 (q : Int) ∧ Hid (Below w2.heap.size w2 wr ∧ Below w.heap.size w wr)) (fun i _ => m - (intOf i).toNat)
      case atStart => exact ⟨0, by omega, rfl, below_drewN HB25.out _, below_drewN HB05.out _⟩
      case round =>
        obtain ⟨q, hq, rfl, HW⟩ := hrel
        by_cases hqm : q < m
        · obtain ⟨rfl, hg1⟩ := P1.out (by omega)
          have hql : q < Ms.length := by rw [← HM.out]; exact hqm
          obtain ⟨M, hM⟩ : ∃ M, M = Ms[q] := ⟨_, rfl⟩
          obtain ⟨hok, hl12, hdig⟩ := HALL.out M (by rw [hM]; exact List.getElem_mem _)
          obtain ⟨ta, tb, tc, hTM⟩ : ∃ a b c, Tr M a b c := ⟨_, _, _, Tr.mk' hok⟩
          obtain ⟨e0, e1, e2⟩ := ints_at3 Ms q hql
          rw [← hM] at e0 e1 e2
          have b0 := (HW.out.1.cell (p := ⟨g1, q * 3, none⟩) hg1).trans (C1.out (q * 3) (by omega))
          have b1 := (HW.out.1.cell (p := ⟨g1, q * 3 + 1, none⟩) hg1).trans (C1.out (q * 3 + 1) (by omega))
          have b2 := (HW.out.1.cell (p := ⟨g1, q * 3 + 2, none⟩) hg1).trans (C1.out (q * 3 + 2) (by omega))
          rw [e0, ← hTM.2.1] at b0
          rw [e1, ← hTM.2.2.1] at b1
          rw [e2, ← hTM.2.2.2] at b2
          have hfm := implFmt_any ta tb tc wr (hT.out _ HW.out.2)
          have hft : ftext ta tb tc = txt M := by
            obtain ⟨h1, h2, h3, h4⟩ := hTM
            rw [h2, h3, h4]; exact ftext_tri h1
          rw [hft] at hfm
          have HFM := Lib.hid hfm
          have hss : s.size = 12 := by rw [Array.length_toList] at hl12; exact hl12
          have HDG := Lib.hid hdig
          have HTM := Lib.hid hTM
          have HMQ := Lib.hid hM
          have hk0 : (0 : Int) ≤ (q : Int) := by omega
          have hkl : (q : Int) < (m : Int) := by omega
          have c3 := cellsTagS
          clear e0 e1 e2 hfm hft hdig hok hl12 hM hTM
          obtain ⟨wo, rfl⟩ : ∃ wo : World, wo = wr := ⟨_, rfl⟩
          go_wp2_with fail
          refine HFM.out.mono ?_
          clear HFM
          rintro e w7 ⟨rfl, hb7⟩
          have HW7 : Hid (Below w2.heap.size w2 w7 ∧ Below w.heap.size w w7) := ⟨HW.out.1.trans (hb7.mono HW.out.1.size), HW.out.2.trans (hb7.mono HW.out.2.size)⟩
          have hgw : g1 < wo.heap.size := Nat.lt_of_lt_of_le hg1 HW.out.1.size
          have hg7 : g1 < w7.heap.size := Nat.lt_of_lt_of_le hgw hb7.size
          have d0 := (hb7.cell (p := ⟨g1, q * 3, none⟩) hgw).trans b0
          have d1 := (hb7.cell (p := ⟨g1, q * 3 + 1, none⟩) hgw).trans b1
          have d2 := (hb7.cell (p := ⟨g1, q * 3 + 2, none⟩) hgw).trans b2
          clear hb7 HW b0 b1 b2 hgw
          obtain ⟨t, ht⟩ : ∃ t : ByteArray, t = ⟨(txt M).toArray⟩ := ⟨_, rfl⟩
          have htt : t.size = 12 := by
            have : t.data.toList.length = 12 := by rw [ht, List.toList_toArray]; exact txt_len M
            rw [Array.length_toList] at this; exact this
          rw [← ht]
          have HTL : Hid (txt M = t.data.toList) := by show _ = _; rw [ht]
          clear ht
          by_cases hq0 : q = 0
          · have f0 : decide ((0 : Int) < (q : Int)) = false := decide_eq_false (by omega)
            have f9 : decide (0 < q) = false := decide_eq_false (by omega)
            clear d0 d1 d2 hq0
            go_wp2_with fail
            go_quiet (fail)
            have HW8 : Hid (Below w2.heap.size w2 (w7.drewN nq) ∧ Below w.heap.size w (w7.drewN nq)) := ⟨below_drewN HW7.out.1 _, below_drewN HW7.out.2 _⟩
            go_wp2_with fail
            have htt12 := htt
            go_loopw [12] (fun k wr => ∃ kk : Nat, kk ≤ 12 ∧ k = .int .i64 (kk : Int) ∧ Hid (Below w2.heap.size w2 wr ∧ Below w.heap.size w wr)) (fun k _ => 12 - (intOf k).toNat)
            case atStart => exact ⟨0, by omega, rfl, HW8.out⟩
            case round =>
              obtain ⟨k, hk, rfl, HW⟩ := hrel
              by_cases hk12 : k < 12
              · have hks : k < s.size := by omega
                have hkt : k < t.size := by omega
                have x1 := byteAt' s k hks
                have x2 := byteAt' t k hkt
                obtain ⟨nx, hnx⟩ : ∃ nx, nx = (s.data.toList.getD k 0).toNat := ⟨_, rfl⟩
                obtain ⟨ny, hny⟩ : ∃ ny, ny = (t.data.toList.getD k 0).toNat := ⟨_, rfl⟩
                have hnx9 : nx < 256 := by rw [hnx]; exact UInt8.toNat_lt _
                have hny9 : ny < 256 := by rw [hny]; exact UInt8.toNat_lt _
                have hxy : nx ≠ 63 → ny = nx := fun h => by
                  rw [hnx, hny, ← HTL.out]
                  rw [HDG.out k hk12 (fun e => h (by rw [hnx, e]; rfl))]
                rw [← hnx] at x1
                rw [← hny] at x2
                clear hnx hny
                have hk0' : (0 : Int) ≤ (k : Int) := by omega
                have hkl' : (k : Int) < 12 := by omega
                by_cases h63 : nx = 63
                · have f1 : ((nx : Int) != 63) = false := by rw [bne_eq_false_iff_eq]; omega
                  have f2 : decide ((nx : Int) = 63) = true := decide_eq_true (by omega)
                  have f3 : ((nx : Int) == 63) = true := by rw [beq_iff_eq]; omega
                  clear hxy h63
                  go_wp2_with fail
                  go_quiet (fail)
                  go_wp2_with fail
                  go_roundw
                  case rel => exact ⟨k + 1, by omega, by congr 1, below_drewN HW.out.1 _, below_drewN HW.out.2 _⟩
                  case measure => simp only [intOf]; omega
                · have e := hxy h63
                  subst e
                  have f1 : ((ny : Int) != 63) = true := by rw [bne_iff_ne]; omega
                  have f2 : decide ((ny : Int) = 63) = false := decide_eq_false (by omega)
                  have f3 : ((ny : Int) == 63) = false := by rw [beq_eq_false_iff_ne]; omega
                  clear hxy h63
                  go_wp2_with fail
                  go_quiet (fail)
                  go_wp2_with fail
                  go_roundw
                  case rel => exact ⟨k + 1, by omega, by congr 1, below_drewN HW.out.1 _, below_drewN HW.out.2 _⟩
                  case measure => simp only [intOf]; omega
              · obtain rfl : k = 12 := by omega
                go_wp2_with fail
                go_roundw
                case rel => exact ⟨q + 1, by omega, by congr 1, HW.out⟩
                case measure => simp only [intOf]; omega
          · obtain ⟨r, hr⟩ : ∃ r, q = r + 1 := ⟨q - 1, by omega⟩
            have hrl : r < Ms.length := by omega
            obtain ⟨L, hL⟩ : ∃ L, L = Ms[r] := ⟨_, rfl⟩
            have hLok := (HALL.out L (by rw [hL]; exact List.getElem_mem _)).1
            have hLM : L < M := by
              rw [hL, HMQ.out]
              exact List.pairwise_iff_getElem.1 HASC.out r q hrl hql (by omega)
            obtain ⟨la, lb, lc, hTL⟩ : ∃ a b c, Tr L a b c := ⟨_, _, _, Tr.mk' hLok⟩
            obtain ⟨e0, e1, e2⟩ := ints_at3 Ms r hrl
            rw [← hL] at e0 e1 e2
            have b0 := (HW7.out.1.cell (p := ⟨g1, r * 3, none⟩) hg1).trans (C1.out (r * 3) (by omega))
            have b1 := (HW7.out.1.cell (p := ⟨g1, r * 3 + 1, none⟩) hg1).trans (C1.out (r * 3 + 1) (by omega))
            have b2 := (HW7.out.1.cell (p := ⟨g1, r * 3 + 2, none⟩) hg1).trans (C1.out (r * 3 + 2) (by omega))
            rw [e0, ← hTL.2.1] at b0
            rw [e1, ← hTL.2.2.1] at b1
            rw [e2, ← hTL.2.2.2] at b2
            have HTR := Lib.hid hTL
            have X0 := cell_grown (a := ⟨g1, q * 3, none⟩) hg7 d0
            have X1 := cell_grown (a := ⟨g1, q * 3 + 1, none⟩) hg7 d1
            have X2 := cell_grown (a := ⟨g1, q * 3 + 2, none⟩) hg7 d2
            have Y0 := cell_grown (a := ⟨g1, r * 3, none⟩) hg7 b0
            have Y1 := cell_grown (a := ⟨g1, r * 3 + 1, none⟩) hg7 b1
            have Y2 := cell_grown (a := ⟨g1, r * 3 + 2, none⟩) hg7 b2
            have f0 : (0 : Int) < (q : Int) := by omega
            have f9 : 0 < q := by omega
            have f8 : decide (0 < q) = true := decide_eq_true f9
            have f1 : decide ((M : Int) ≤ (L : Int)) = false := decide_eq_false (by omega)
            have f7 : decide (M ≤ L) = false := decide_eq_false (by omega)
            have r0 : (0 : Int) ≤ (r : Int) := by omega
            have rm : (r : Int) < (m : Int) := by omega
            have hq1 : IntKind.i64.wrap ((q : Int) - 1) = (r : Int) := by
              rw [IntWalk.i64_in _ (by omega)]; omega
            clear e0 e1 e2 hL hLok hLM hTL b0 b1 b2 d0 d1 d2 hq0 hr
            have mixed : Tryd.prog.follows .mixedOrders = true := by kernel_rfl
            go_wp2_with fail
            go_quiet_grown ((go_at_call 14; first | (with_reducible exact Calls.grown_of (inum_grew HTM.out _)) | (with_reducible exact Calls.grown_of (inum_grew HTR.out _))))
            obtain ⟨w8, hw8⟩ : ∃ w8, w8 = Sort.grow (w7.drewN nq) osq := ⟨_, rfl⟩
            have g78 : Grew w7 w8 := ⟨nq, osq, hw8⟩
            have HW8 : Hid (Below w2.heap.size w2 w8 ∧ Below w.heap.size w w8) := ⟨HW7.out.1.trans (g78.below.mono HW7.out.1.size), HW7.out.2.trans (g78.below.mono HW7.out.2.size)⟩
            rw [← hw8]
            clear X0 X1 X2 Y0 Y1 Y2 f0 f1 f7 f8 f9 r0 rm hq1 hw8 g78
            go_wp2_with fail
            have htt12 := htt
            go_loopw [12] (fun k wr => ∃ kk : Nat, kk ≤ 12 ∧ k = .int .i64 (kk : Int) ∧ Hid (Below w2.heap.size w2 wr ∧ Below w.heap.size w wr)) (fun k _ => 12 - (intOf k).toNat)
            case atStart => exact ⟨0, by omega, rfl, HW8.out⟩
            case round =>
              obtain ⟨k, hk, rfl, HW⟩ := hrel
              by_cases hk12 : k < 12
              · have hks : k < s.size := by omega
                have hkt : k < t.size := by omega
                have x1 := byteAt' s k hks
                have x2 := byteAt' t k hkt
                obtain ⟨nx, hnx⟩ : ∃ nx, nx = (s.data.toList.getD k 0).toNat := ⟨_, rfl⟩
                obtain ⟨ny, hny⟩ : ∃ ny, ny = (t.data.toList.getD k 0).toNat := ⟨_, rfl⟩
                have hnx9 : nx < 256 := by rw [hnx]; exact UInt8.toNat_lt _
                have hny9 : ny < 256 := by rw [hny]; exact UInt8.toNat_lt _
                have hxy : nx ≠ 63 → ny = nx := fun h => by
                  rw [hnx, hny, ← HTL.out]
                  rw [HDG.out k hk12 (fun e => h (by rw [hnx, e]; rfl))]
                rw [← hnx] at x1
                rw [← hny] at x2
                clear hnx hny
                have hk0' : (0 : Int) ≤ (k : Int) := by omega
                have hkl' : (k : Int) < 12 := by omega
                by_cases h63 : nx = 63
                · have f1 : ((nx : Int) != 63) = false := by rw [bne_eq_false_iff_eq]; omega
                  have f2 : decide ((nx : Int) = 63) = true := decide_eq_true (by omega)
                  have f3 : ((nx : Int) == 63) = true := by rw [beq_iff_eq]; omega
                  clear hxy h63
                  go_wp2_with fail
                  go_quiet (fail)
                  go_wp2_with fail
                  go_roundw
                  case rel => exact ⟨k + 1, by omega, by congr 1, below_drewN HW.out.1 _, below_drewN HW.out.2 _⟩
                  case measure => simp only [intOf]; omega
                · have e := hxy h63
                  subst e
                  have f1 : ((ny : Int) != 63) = true := by rw [bne_iff_ne]; omega
                  have f2 : decide ((ny : Int) = 63) = false := decide_eq_false (by omega)
                  have f3 : ((ny : Int) == 63) = false := by rw [beq_eq_false_iff_ne]; omega
                  clear hxy h63
                  go_wp2_with fail
                  go_quiet (fail)
                  go_wp2_with fail
                  go_roundw
                  case rel => exact ⟨k + 1, by omega, by congr 1, below_drewN HW.out.1 _, below_drewN HW.out.2 _⟩
                  case measure => simp only [intOf]; omega
              · obtain rfl : k = 12 := by omega
                go_wp2_with fail
                go_roundw
                case rel => exact ⟨q + 1, by omega, by congr 1, HW.out⟩
                case measure => simp only [intOf]; omega
        · obtain rfl : q = m := by omega
          go_wp2_with fail
          go_ret
          exact ⟨rfl, HW.out.2⟩
    · clear HC25 hx5
      go_wp2_with fail
      rw [← HW5.out]
      go_quiet ((go_at_call 12; exact Calls.quiet_of (HEQ.out _)))
      clear x0 x1 x2 HEQ HW5
      go_wp2_with fail
      go_loopw [10] (fun i wr => ∃ q : Nat, q ≤ m ∧ i = .int .i64 (q : Int) ∧ Hid (Below w2.heap.size w2 wr ∧ Below w.heap.size w wr)) (fun i _ => m - (intOf i).toNat)
      case atStart => exact ⟨0, by omega, rfl, below_drewN HB25.out _, below_drewN HB05.out _⟩
      case round =>
        obtain ⟨q, hq, rfl, HW⟩ := hrel
        by_cases hqm : q < m
        · obtain ⟨rfl, hg1⟩ := P1.out (by omega)
          have hql : q < Ms.length := by rw [← HM.out]; exact hqm
          obtain ⟨M, hM⟩ : ∃ M, M = Ms[q] := ⟨_, rfl⟩
          obtain ⟨hok, hl12, hdig⟩ := HALL.out M (by rw [hM]; exact List.getElem_mem _)
          obtain ⟨ta, tb, tc, hTM⟩ : ∃ a b c, Tr M a b c := ⟨_, _, _, Tr.mk' hok⟩
          obtain ⟨e0, e1, e2⟩ := ints_at3 Ms q hql
          rw [← hM] at e0 e1 e2
          have b0 := (HW.out.1.cell (p := ⟨g1, q * 3, none⟩) hg1).trans (C1.out (q * 3) (by omega))
          have b1 := (HW.out.1.cell (p := ⟨g1, q * 3 + 1, none⟩) hg1).trans (C1.out (q * 3 + 1) (by omega))
          have b2 := (HW.out.1.cell (p := ⟨g1, q * 3 + 2, none⟩) hg1).trans (C1.out (q * 3 + 2) (by omega))
          rw [e0, ← hTM.2.1] at b0
          rw [e1, ← hTM.2.2.1] at b1
          rw [e2, ← hTM.2.2.2] at b2
          have hfm := implFmt_any ta tb tc wr (hT.out _ HW.out.2)
          have hft : ftext ta tb tc = txt M := by
            obtain ⟨h1, h2, h3, h4⟩ := hTM
            rw [h2, h3, h4]; exact ftext_tri h1
          rw [hft] at hfm
          have HFM := Lib.hid hfm
          have hss : s.size = 12 := by rw [Array.length_toList] at hl12; exact hl12
          have HDG := Lib.hid hdig
          have HTM := Lib.hid hTM
          have HMQ := Lib.hid hM
          have hk0 : (0 : Int) ≤ (q : Int) := by omega
          have hkl : (q : Int) < (m : Int) := by omega
          have c3 := cellsTagS
          clear e0 e1 e2 hfm hft hdig hok hl12 hM hTM
          obtain ⟨wo, rfl⟩ : ∃ wo : World, wo = wr := ⟨_, rfl⟩
          go_wp2_with fail
          refine HFM.out.mono ?_
          clear HFM
          rintro e w7 ⟨rfl, hb7⟩
          have HW7 : Hid (Below w2.heap.size w2 w7 ∧ Below w.heap.size w w7) := ⟨HW.out.1.trans (hb7.mono HW.out.1.size), HW.out.2.trans (hb7.mono HW.out.2.size)⟩
          have hgw : g1 < wo.heap.size := Nat.lt_of_lt_of_le hg1 HW.out.1.size
          have hg7 : g1 < w7.heap.size := Nat.lt_of_lt_of_le hgw hb7.size
          have d0 := (hb7.cell (p := ⟨g1, q * 3, none⟩) hgw).trans b0
          have d1 := (hb7.cell (p := ⟨g1, q * 3 + 1, none⟩) hgw).trans b1
          have d2 := (hb7.cell (p := ⟨g1, q * 3 + 2, none⟩) hgw).trans b2
          clear hb7 HW b0 b1 b2 hgw
          obtain ⟨t, ht⟩ : ∃ t : ByteArray, t = ⟨(txt M).toArray⟩ := ⟨_, rfl⟩
          have htt : t.size = 12 := by
            have : t.data.toList.length = 12 := by rw [ht, List.toList_toArray]; exact txt_len M
            rw [Array.length_toList] at this; exact this
          rw [← ht]
          have HTL : Hid (txt M = t.data.toList) := by show _ = _; rw [ht]
          clear ht
          by_cases hq0 : q = 0
          · have f0 : decide ((0 : Int) < (q : Int)) = false := decide_eq_false (by omega)
            have f9 : decide (0 < q) = false := decide_eq_false (by omega)
            clear d0 d1 d2 hq0
            go_wp2_with fail
            go_quiet (fail)
            have HW8 : Hid (Below w2.heap.size w2 (w7.drewN nq) ∧ Below w.heap.size w (w7.drewN nq)) := ⟨below_drewN HW7.out.1 _, below_drewN HW7.out.2 _⟩
            go_wp2_with fail
            have htt12 := htt
            go_loopw [12] (fun k wr => ∃ kk : Nat, kk ≤ 12 ∧ k = .int .i64 (kk : Int) ∧ Hid (Below w2.heap.size w2 wr ∧ Below w.heap.size w wr)) (fun k _ => 12 - (intOf k).toNat)
            case atStart => exact ⟨0, by omega, rfl, HW8.out⟩
            case round =>
              obtain ⟨k, hk, rfl, HW⟩ := hrel
              by_cases hk12 : k < 12
              · have hks : k < s.size := by omega
                have hkt : k < t.size := by omega
                have x1 := byteAt' s k hks
                have x2 := byteAt' t k hkt
                obtain ⟨nx, hnx⟩ : ∃ nx, nx = (s.data.toList.getD k 0).toNat := ⟨_, rfl⟩
                obtain ⟨ny, hny⟩ : ∃ ny, ny = (t.data.toList.getD k 0).toNat := ⟨_, rfl⟩
                have hnx9 : nx < 256 := by rw [hnx]; exact UInt8.toNat_lt _
                have hny9 : ny < 256 := by rw [hny]; exact UInt8.toNat_lt _
                have hxy : nx ≠ 63 → ny = nx := fun h => by
                  rw [hnx, hny, ← HTL.out]
                  rw [HDG.out k hk12 (fun e => h (by rw [hnx, e]; rfl))]
                rw [← hnx] at x1
                rw [← hny] at x2
                clear hnx hny
                have hk0' : (0 : Int) ≤ (k : Int) := by omega
                have hkl' : (k : Int) < 12 := by omega
                by_cases h63 : nx = 63
                · have f1 : ((nx : Int) != 63) = false := by rw [bne_eq_false_iff_eq]; omega
                  have f2 : decide ((nx : Int) = 63) = true := decide_eq_true (by omega)
                  have f3 : ((nx : Int) == 63) = true := by rw [beq_iff_eq]; omega
                  clear hxy h63
                  go_wp2_with fail
                  go_quiet (fail)
                  go_wp2_with fail
                  go_roundw
                  case rel => exact ⟨k + 1, by omega, by congr 1, below_drewN HW.out.1 _, below_drewN HW.out.2 _⟩
                  case measure => simp only [intOf]; omega
                · have e := hxy h63
                  subst e
                  have f1 : ((ny : Int) != 63) = true := by rw [bne_iff_ne]; omega
                  have f2 : decide ((ny : Int) = 63) = false := decide_eq_false (by omega)
                  have f3 : ((ny : Int) == 63) = false := by rw [beq_eq_false_iff_ne]; omega
                  clear hxy h63
                  go_wp2_with fail
                  go_quiet (fail)
                  go_wp2_with fail
                  go_roundw
                  case rel => exact ⟨k + 1, by omega, by congr 1, below_drewN HW.out.1 _, below_drewN HW.out.2 _⟩
                  case measure => simp only [intOf]; omega
              · obtain rfl : k = 12 := by omega
                go_wp2_with fail
                go_roundw
                case rel => exact ⟨q + 1, by omega, by congr 1, HW.out⟩
                case measure => simp only [intOf]; omega
          · obtain ⟨r, hr⟩ : ∃ r, q = r + 1 := ⟨q - 1, by omega⟩
            have hrl : r < Ms.length := by omega
            obtain ⟨L, hL⟩ : ∃ L, L = Ms[r] := ⟨_, rfl⟩
            have hLok := (HALL.out L (by rw [hL]; exact List.getElem_mem _)).1
            have hLM : L < M := by
              rw [hL, HMQ.out]
              exact List.pairwise_iff_getElem.1 HASC.out r q hrl hql (by omega)
            obtain ⟨la, lb, lc, hTL⟩ : ∃ a b c, Tr L a b c := ⟨_, _, _, Tr.mk' hLok⟩
            obtain ⟨e0, e1, e2⟩ := ints_at3 Ms r hrl
            rw [← hL] at e0 e1 e2
            have b0 := (HW7.out.1.cell (p := ⟨g1, r * 3, none⟩) hg1).trans (C1.out (r * 3) (by omega))
            have b1 := (HW7.out.1.cell (p := ⟨g1, r * 3 + 1, none⟩) hg1).trans (C1.out (r * 3 + 1) (by omega))
            have b2 := (HW7.out.1.cell (p := ⟨g1, r * 3 + 2, none⟩) hg1).trans (C1.out (r * 3 + 2) (by omega))
            rw [e0, ← hTL.2.1] at b0
            rw [e1, ← hTL.2.2.1] at b1
            rw [e2, ← hTL.2.2.2] at b2
            have HTR := Lib.hid hTL
            have X0 := cell_grown (a := ⟨g1, q * 3, none⟩) hg7 d0
            have X1 := cell_grown (a := ⟨g1, q * 3 + 1, none⟩) hg7 d1
            have X2 := cell_grown (a := ⟨g1, q * 3 + 2, none⟩) hg7 d2
            have Y0 := cell_grown (a := ⟨g1, r * 3, none⟩) hg7 b0
            have Y1 := cell_grown (a := ⟨g1, r * 3 + 1, none⟩) hg7 b1
            have Y2 := cell_grown (a := ⟨g1, r * 3 + 2, none⟩) hg7 b2
            have f0 : (0 : Int) < (q : Int) := by omega
            have f9 : 0 < q := by omega
            have f8 : decide (0 < q) = true := decide_eq_true f9
            have f1 : decide ((M : Int) ≤ (L : Int)) = false := decide_eq_false (by omega)
            have f7 : decide (M ≤ L) = false := decide_eq_false (by omega)
            have r0 : (0 : Int) ≤ (r : Int) := by omega
            have rm : (r : Int) < (m : Int) := by omega
            have hq1 : IntKind.i64.wrap ((q : Int) - 1) = (r : Int) := by
              rw [IntWalk.i64_in _ (by omega)]; omega
            clear e0 e1 e2 hL hLok hLM hTL b0 b1 b2 d0 d1 d2 hq0 hr
            have mixed : Tryd.prog.follows .mixedOrders = true := by kernel_rfl
            go_wp2_with fail
            go_quiet_grown ((go_at_call 14; first | (with_reducible exact Calls.grown_of (inum_grew HTM.out _)) | (with_reducible exact Calls.grown_of (inum_grew HTR.out _))))
            obtain ⟨w8, hw8⟩ : ∃ w8, w8 = Sort.grow (w7.drewN nq) osq := ⟨_, rfl⟩
            have g78 : Grew w7 w8 := ⟨nq, osq, hw8⟩
            have HW8 : Hid (Below w2.heap.size w2 w8 ∧ Below w.heap.size w w8) := ⟨HW7.out.1.trans (g78.below.mono HW7.out.1.size), HW7.out.2.trans (g78.below.mono HW7.out.2.size)⟩
            rw [← hw8]
            clear X0 X1 X2 Y0 Y1 Y2 f0 f1 f7 f8 f9 r0 rm hq1 hw8 g78
            go_wp2_with fail
            have htt12 := htt
            go_loopw [12] (fun k wr => ∃ kk : Nat, kk ≤ 12 ∧ k = .int .i64 (kk : Int) ∧ Hid (Below w2.heap.size w2 wr ∧ Below w.heap.size w wr)) (fun k _ => 12 - (intOf k).toNat)
            case atStart => exact ⟨0, by omega, rfl, HW8.out⟩
            case round =>
              obtain ⟨k, hk, rfl, HW⟩ := hrel
              by_cases hk12 : k < 12
              · have hks : k < s.size := by omega
                have hkt : k < t.size := by omega
                have x1 := byteAt' s k hks
                have x2 := byteAt' t k hkt
                obtain ⟨nx, hnx⟩ : ∃ nx, nx = (s.data.toList.getD k 0).toNat := ⟨_, rfl⟩
                obtain ⟨ny, hny⟩ : ∃ ny, ny = (t.data.toList.getD k 0).toNat := ⟨_, rfl⟩
                have hnx9 : nx < 256 := by rw [hnx]; exact UInt8.toNat_lt _
                have hny9 : ny < 256 := by rw [hny]; exact UInt8.toNat_lt _
                have hxy : nx ≠ 63 → ny = nx := fun h => by
                  rw [hnx, hny, ← HTL.out]
                  rw [HDG.out k hk12 (fun e => h (by rw [hnx, e]; rfl))]
                rw [← hnx] at x1
                rw [← hny] at x2
                clear hnx hny
                have hk0' : (0 : Int) ≤ (k : Int) := by omega
                have hkl' : (k : Int) < 12 := by omega
                by_cases h63 : nx = 63
                · have f1 : ((nx : Int) != 63) = false := by rw [bne_eq_false_iff_eq]; omega
                  have f2 : decide ((nx : Int) = 63) = true := decide_eq_true (by omega)
                  have f3 : ((nx : Int) == 63) = true := by rw [beq_iff_eq]; omega
                  clear hxy h63
                  go_wp2_with fail
                  go_quiet (fail)
                  go_wp2_with fail
                  go_roundw
                  case rel => exact ⟨k + 1, by omega, by congr 1, below_drewN HW.out.1 _, below_drewN HW.out.2 _⟩
                  case measure => simp only [intOf]; omega
                · have e := hxy h63
                  subst e
                  have f1 : ((ny : Int) != 63) = true := by rw [bne_iff_ne]; omega
                  have f2 : decide ((ny : Int) = 63) = false := decide_eq_false (by omega)
                  have f3 : ((ny : Int) == 63) = false := by rw [beq_eq_false_iff_ne]; omega
                  clear hxy h63
                  go_wp2_with fail
                  go_quiet (fail)
                  go_wp2_with fail
                  go_roundw
                  case rel => exact ⟨k + 1, by omega, by congr 1, below_drewN HW.out.1 _, below_drewN HW.out.2 _⟩
                  case measure => simp only [intOf]; omega
              · obtain rfl : k = 12 := by omega
                go_wp2_with fail
                go_roundw
                case rel => exact ⟨q + 1, by omega, by congr 1, HW.out⟩
                case measure => simp only [intOf]; omega
        · obtain rfl : q = m := by omega
          go_wp2_with fail
          go_ret
          exact ⟨rfl, HW.out.2⟩
/-! The row's step. -/
theorem own : ownKnob Tryd.prog.godebug = none := by kernel_rfl
theorem laidOut : laidOutB Tryd.prog = true := by kernel_rfl
theorem door_met (os : Os) (args : Array Value) : laidMetH Tryd.prog Rows.fnCandidatesRow.laid ((World.doorLaid Tryd.prog 400 os).forCall (fun _ _ => 0) ⟨#[], args, []⟩).memory :=
  laidMetH_of_parts3 (fuel := 8) (laidMet_of_run' 8 (by kernel_rfl) (by kernel_rfl)) (by kernel_rfl) (by kernel_rfl)
set_option maxRecDepth 100000 in
theorem lifted (os : Os) (started : os.Started) (H : Type) (enc : TypeId × Value → H) :
    ReturnsInHanded {} Tryd.checked os 3 .any (fun w args => (Rows.fnCandidatesSpec.pre enc Tryd.prog Tryd.f3 [] false w args ∧ laidMetH Tryd.prog Rows.fnCandidatesRow.laid w) ∧ sizedMet enc Tryd.prog Tryd.f3 (OpenSpec.ofChange Rows.fnCandidatesSpec) false w args) (Rows.fnCandidatesSpec.post enc Tryd.prog Tryd.f3 false true false false) := by
  refine returnsInHanded_of_change_and (C := Tryd.checked) (X := fun w _ => laidMetH Tryd.prog Rows.fnCandidatesRow.laid w) (fun _ _ _ hh h => h.of_heap hh) own started (by kernel_rfl) Tryd.func3
    (ChangeSpec.witness_shaped (enc := enc) (C := Tryd.checked) (os := os) (X := fun w _ => laidMetH Tryd.prog Rows.fnCandidatesRow.laid w) false (World.doorLaid Tryd.prog 400 os) #[.slice none 0 0] 8 rfl (World.shaped_of_RefB (by kernel_rfl) (by kernel_rfl)) (by kernel_rfl) (by kernel_rfl) (by kernel_rfl) (door_met os _)) ?_
  intro W base args ds gs before hval0 hW hcnd hsz hLH _
  have hval : ∀ (j : Nat) t v, Tryd.f3.params[j]? = some t → args[j]? = some v → Value.okWide Tryd.prog W .any base t v := hval0
  have hW' := hW
  obtain ⟨p, q, hA0, hV, rfl, hfz, hnd⟩ := hW
  have hA : DataW.TrodAll enc Tryd.prog W 0 (fun _ => true) true Tryd.f3.params.toList args.toList ds p := hA0
  rw [Tryd.params3] at hA hval
  obtain ⟨v0, vs0, d0, ds0, p0, q0, hargs, rfl, rfl, h0, r0⟩ := trodAll_cons hA
  obtain ⟨rfl, rfl, rfl⟩ := trodAll_nil r0
  obtain rfl : args = #[v0] := by cases args; simp_all
  obtain ⟨rfl, rfl⟩ := trodVars_none hV
  have k0 := h0
  have lt0 : ∀ x ∈ p0, x.block < W.heap.size := by obtain ⟨m, hm⟩ := k0; exact DataW.trod_lt m _ _ _ hm
  obtain ⟨sp0, ln0, cp0, rfl⟩ := okWide_slice Tryd.underlying22 (hval 0 22 v0 rfl rfl)
  obtain ⟨gc0, oc0, w0, cd0⟩ := code_open h0
  clear hA0 hval0
  have hL : laidMet Tryd.prog Rows.fnCandidatesRow.laid W := by rw [MakeChecks.laidMetH_plain _ _ _ (by kernel_rfl)] at hLH; exact hLH
  refine (walk sp0 ln0 cp0 gc0 oc0 W w0 cd0 (tab_of_laid (laidMet.tail (laidMet.tail hL))) (rng_of_laid (laidMet.tail (laidMet.tail (laidMet.tail hL)))) (syn_of_laid (laidMet.tail (laidMet.tail (laidMet.tail (laidMet.tail hL)))))).mono fun e W' ⟨he, bel⟩ => ?_
  subst he
  exact ⟨_, rfl, _, _, _, [], _, [], hW', trodAll_mk1 (shut_bool Tryd.underlying4 _), (trodAll_cons_mk (Below.trod laidOut (by kernel_rfl) (of_decide_eq_true (by kernel_rfl)) k0 bel lt0) trodAll_mk0), rfl, bel.frame _, fun h => by cases h⟩

theorem over : Rows.FnCandidatesSaid :=
  OpenClaim.holds_of_wide 3 Tryd.f3 rfl rfl rfl rfl rfl rfl rfl ⟨rfl, rfl, rfl, rfl, rfl⟩ rfl rfl rfl rfl rfl (by kernel_rfl) Tryd.func3 (by kernel_rfl)
    (of_decide_eq_true (by kernel_rfl)) (by unfold Func.isWrapper; first | (rw [if_pos (by decide +kernel)]; kernel_rfl) | (rw [if_neg (by decide +kernel)]; exact ⟨rfl, rfl⟩))
    (fun os started H enc _ => lifted os started H enc)

/-- The statement. -/
theorem proved : Rows.FnCandidatesCardSaid :=
  Claim7.holds_tied_plain_at .later [] [.data, .data, .data, .sentinel, .sentinel] true (true, "9a0d1a69dd0fbd9189425c16cc78e49440c5a1dfba85b9b275998d55ff14b976") true
    over (fun _ h => by cases h) (by kernel_rfl) (fun _ h => by cases h) fnCandidates_row_tie rfl ⟨rfl, rfl⟩ (by kernel_rfl) rfl
    (fun f fn hf hfn => by
      obtain rfl : f = 3 := Option.some.inj ((show Tryd.prog.funcNamed "loop.example/g03319/laws.FnCandidates" = some 3 by kernel_rfl).symm.trans hf) |>.symm
      obtain rfl : fn = Tryd.f3 := (Option.some.inj (Tryd.func3.symm.trans hfn)).symm
      exact ⟨by kernel_rfl, fun j t ht => by
        rw [Tryd.params3] at ht
        have hm : t ∈ [22] := by simpa using Array.mem_of_getElem? ht
        have hall : ([22].all fun u => !Tryd.prog.wantsStandIn u) = true := by kernel_rfl
        exact (show Tryd.prog.wantsStandIn t = false by simpa using List.all_eq_true.1 hall t hm)⟩)
    (by kernel_rfl)
#print axioms proved
end Go.Proofs.YtjdmagackoddaaaDoor.fnCandidates
