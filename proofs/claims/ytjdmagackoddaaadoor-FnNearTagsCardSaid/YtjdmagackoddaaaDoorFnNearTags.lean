/- For every code FnNearTags returns true, and the code reads as before; the listed variables of strconv and math/bits are tied to the program's text. No other condition. -/
import Derived.Test.YtjdmagackoddaaaDoorCards
import Derived.Test.YtjdmagackoddaaaDoorTie
import Derived.Test.YtjdmagackoddaaaDoorLaidErr
import Derived.Test.YtjdmagackoddaaaDoorNearImpl
import Derived.Test.YtjdmagackoddaaaDoorNearSeven
import Derived.Test.YtjdmagackoddaaaDoorSameTags
import Derived.Test.YtjdmagackoddaaaDoorDrawAny
import Derived.Test.YtjdmagackoddaaaDoorCode
import Derived.OpenShut
import Derived.ChangeOld
import Derived.Lib.SmallJoins
import Derived.LaidMore
import Derived.Stop.LaidErr
import Derived.Stop.Joined
import Derived.SevenTiedAt
namespace Go.Proofs.YtjdmagackoddaaaDoor.fnNearTags
open Go.ChangeShapes Go.WideShapes Go.ChangeAt Go.RowKit
set_option linter.unusedVariables false

def tagInts (M : Nat) : List Int := [((tri M).1 : Int), ((tri M).2.1 : Int), ((tri M).2.2 : Int)]
theorem ints_cells (l : List Nat) : cellsN l = (l.flatMap tagInts).map (Value.int .i64) := by
  induction l with
  | nil => rfl
  | cons t ts ih =>
    rw [List.flatMap_cons, List.map_append, ← ih]
    show cellsN (t :: ts) = _
    unfold cellsN
    rw [List.flatMap_cons]
    rfl
theorem row_cells {w : World} {B n : Nat} {v : Value} {xs : List Int} (h : w.ownsRow B 29 3 v n (xs.map (Value.int .i64))) :
    ∃ p cap g, v = .slice p n cap ∧ (0 < n → p = some ⟨g, 0, none⟩ ∧ g < w.heap.size) ∧ ∀ j, j < n * 3 → w.cell? ⟨g, j, none⟩ = some (.int .i64 (xs.getD j 0)) := by
  have hl := h.1
  rw [List.length_map] at hl
  by_cases hn : n = 0
  · subst hn
    rcases h.2 with ⟨rfl, _⟩ | ⟨g, cap, cur, rfl, -⟩
    · exact ⟨_, _, 0, rfl, fun h => absurd h (by omega), fun j hj => absurd hj (by omega)⟩
    · exact ⟨_, _, 0, rfl, fun h => absurd h (by omega), fun j hj => absurd hj (by omega)⟩
  · obtain ⟨g, cap, rfl⟩ : ∃ g cap, v = .slice (some ⟨g, 0, none⟩) n cap := by
      rcases h.2 with ⟨_, h0⟩ | ⟨g, cap, cur, rfl, -⟩
      · exact absurd h0 hn
      · exact ⟨_, _, rfl⟩
    refine ⟨_, _, g, rfl, fun _ => ⟨rfl, (h.lt g rfl).2⟩, fun j hj => ?_⟩
    rw [h.cellAt j hj, List.getElem?_map, List.getElem?_eq_getElem (by omega), List.getD_eq_getElem?_getD, List.getElem?_eq_getElem (by omega)]
    rfl
theorem ints_at3 (l : List Nat) (q : Nat) (hq : q < l.length) : (l.flatMap tagInts).getD (q * 3) 0 = ((tri l[q]).1 : Int) ∧ (l.flatMap tagInts).getD (q * 3 + 1) 0 = ((tri l[q]).2.1 : Int) ∧ (l.flatMap tagInts).getD (q * 3 + 2) 0 = ((tri l[q]).2.2 : Int) := by
  obtain ⟨c0, c1, c2⟩ := cellsN_at l q hq
  rw [ints_cells, List.getElem?_map] at c0 c1 c2
  have f : ∀ (o : Option Int) (x : Int), o.map (Value.int .i64) = some (.int .i64 x) → o.getD 0 = x := by
    intro o x h
    cases o with
    | none => simp at h
    | some y => simp at h; simpa using h
  rw [List.getD_eq_getElem?_getD, List.getD_eq_getElem?_getD, List.getD_eq_getElem?_getD]
  exact ⟨f _ _ c0, f _ _ c1, f _ _ c2⟩

/-- What the law asks of each tag near. -/
def Sev (own : List UInt8) (M : Nat) : Prop := okN M = true ∧ own.length = 12 ∧ ∃ i, i < 10 ∧ ∀ k, k < 12 → (k ≠ i → (txt M).getD k 0 = own.getD k 0) ∧ (k = i → ((txt M).getD k 0).toNat = (own.getD k 0).toNat + 7 ∨ (own.getD k 0).toNat = ((txt M).getD k 0).toNat + 7)
theorem near_facts (a b c : Int) : (nearOf a b c).length ≤ 10 ∧ ∀ M ∈ nearOf a b c, Sev (ftext a b c) M := by
  unfold nearOf
  by_cases h : tokB a b c = true
  · rw [if_pos h]
    obtain ⟨N, hN, hTr⟩ := tr_of h
    have hft : ftext a b c = txt N := by
      obtain ⟨h1, h2, h3, h4⟩ := hTr
      rw [h2, h3, h4]; exact ftext_tri h1
    rw [hN, Int.toNat_natCast, hft]
    refine ⟨by rw [(sortF_facts _).1.length_eq]; exact near_ten N, fun M hM => ?_⟩
    have hM' := (sortF_facts (nearTo N 100)).1.mem_iff.1 hM
    exact ⟨(nearTo_ok hM').1, txt_len N, near_text hM'⟩
  · rw [if_neg h]
    exact ⟨by simp, fun M hM => by cases hM⟩
theorem byteAt' (s : ByteArray) (i : Nat) (h : i < s.size) : s[i].toNat = (s.data.toList.getD i 0).toNat := by
  rw [List.getD_eq_getElem?_getD, List.getElem?_eq_getElem (by simpa using h)]; rfl

set_option maxRecDepth 100000 in
set_option maxHeartbeats 4000000 in
theorem walk (p : Option Addr) (n cap gc oc : Nat) (w : World) (hn : n ≤ maxLen) (hC : Code w.heap.size n w p gc oc) (htab : Lib.TabIs Tryd.prog w "internal/strconv.uint64pow10" .u64 Lib.pow10Tab) (hr : ErrIs w "strconv.ErrRange") (hs : ErrIs w "strconv.ErrSyntax") :
    Calls Tryd.prog 4 #[.slice p n cap] w fun e w' => e = .returned (.bool true) ∧ Below w.heap.size w w' := by
  have hbg := Lib.hid (big_any p n cap hn w)
  by_cases hbig : 1048576 < n
  · have hd : decide (1048576 < n) = true := decide_eq_true hbig
    rw [hd] at hbg
    clear htab hr hs hC
    go_enter Tryd.func4, Tryd.ntmps4
    go_wp2_with (go_at_call 7; refine hbg.out.mono ?_; rintro e w' ⟨rfl, rfl⟩)
    go_ret
    exact ⟨rfl, Below.refl _ _⟩
  · have hd : decide (1048576 < n) = false := decide_eq_false hbig
    rw [hd] at hbg
    have hT := Lib.hid (Lib.tabBelow_of_tabIs htab)
    have HR := Lib.hid hr
    have HS := Lib.hid hs
    have HDR := Lib.hid (drawNear_any (cap := cap) (by omega) (Nat.le_refl _) hC)
    clear htab hr hs hC hbig hd hn
    go_enter Tryd.func4, Tryd.ntmps4
    go_wp2_with (go_at_call 7; refine hbg.out.mono ?_; rintro e w' ⟨rfl, rfl⟩)
    refine HDR.out.mono ?_
    clear HDR hbg
    rintro e w1 ⟨a, b, c, rfl, hb1⟩
    obtain ⟨hl10, hsev⟩ := near_facts a b c
    have HSV := Lib.hid hsev
    clear hsev
    have HB1 := Lib.hid hb1
    have hs1 := hb1.size
    clear hb1
    go_wp2_with fail
    have hnew : (w1.alloc (.cells #[.int .i64 a, .int .i64 b, .int .i64 c] 29)).cell? ⟨w1.heap.size, 0, none⟩ = some (.int .i64 a) ∧ (w1.alloc (.cells #[.int .i64 a, .int .i64 b, .int .i64 c] 29)).cell? ⟨w1.heap.size, 1, none⟩ = some (.int .i64 b) ∧ (w1.alloc (.cells #[.int .i64 a, .int .i64 b, .int .i64 c] 29)).cell? ⟨w1.heap.size, 2, none⟩ = some (.int .i64 c) := ⟨newCell _ _ _ _ _ rfl, newCell _ _ _ _ _ rfl, newCell _ _ _ _ _ rfl⟩
    obtain ⟨w2, hw2⟩ : ∃ w2, w2 = w1.alloc (.cells #[.int .i64 a, .int .i64 b, .int .i64 c] 29) := ⟨_, rfl⟩
    have hs2 : w2.heap.size = w1.heap.size + 1 := by rw [hw2]; simp
    have B2 : Below w.heap.size w w2 := by rw [hw2]; exact HB1.out.alloc hs1 _
    rw [← hw2] at hnew
    rw [← hw2]
    have HBT : Hid (∀ X, Below w2.heap.size w2 X → X.cell? ⟨w1.heap.size, 0, none⟩ = some (.int .i64 a) ∧ X.cell? ⟨w1.heap.size, 1, none⟩ = some (.int .i64 b) ∧ X.cell? ⟨w1.heap.size, 2, none⟩ = some (.int .i64 c)) := fun X hX =>
      ⟨(hX.cell (p := ⟨w1.heap.size, 0, none⟩) (by show w1.heap.size < _; omega)).trans hnew.1, (hX.cell (p := ⟨w1.heap.size, 1, none⟩) (by show w1.heap.size < _; omega)).trans hnew.2.1, (hX.cell (p := ⟨w1.heap.size, 2, none⟩) (by show w1.heap.size < _; omega)).trans hnew.2.2⟩
    have HB2 := Lib.hid B2
    have hcon := Lib.hid (inear_any a b c w2 (hT.out _ B2) (HR.out.on gRng B2) (HS.out.on gSyn B2))
    have h02 : w.heap.size ≤ w2.heap.size := B2.size
    clear hw2 hnew B2 hs2
    obtain ⟨t0, t1, t2⟩ := HBT.out w2 (Below.refl _ _)
    go_wp2_with fail
    refine hcon.out.mono ?_
    clear hcon
    rintro e w3 ⟨v1, rfl, hown1, hb3⟩
    rw [ints_cells] at hown1
    obtain ⟨p1, c1, g1, rfl, hp1, hc1⟩ := row_cells hown1
    obtain ⟨m, hm⟩ : ∃ m, m = (nearOf a b c).length := ⟨_, rfl⟩
    rw [← hm] at hp1 hc1 hl10 hown1 ⊢
    have HM := Lib.hid hm
    have P1 := Lib.hid hp1
    have C1 := Lib.hid hc1
    have HB3 := Lib.hid hb3
    clear t0 t1 t2 hown1 hp1 hc1 hb3 hm
    obtain ⟨t0, t1, t2⟩ := HBT.out w3 HB3.out
    go_wp2_with fail
    refine (snear_any a b c _).mono ?_
    rintro e w4 ⟨v2, rfl, hown2, hb4⟩
    rw [ints_cells] at hown2
    obtain ⟨p2, c2, g2, rfl, hp2, hc2⟩ := row_cells hown2
    rw [← HM.out] at hp2 hc2 ⊢
    have heq := Lib.hid (sameTags_any m (by omega) ((nearOf a b c).flatMap tagInts) p1 p2 c1 c2 g1 g2 w4 (fun h => ⟨(P1.out h).1, Nat.lt_of_lt_of_le (P1.out h).2 hb4.size⟩) hp2 (fun j hj => (hb4.cell (p := ⟨g1, j, none⟩) (P1.out (by omega)).2).trans (C1.out j hj)) hc2)
    have HB4 := Lib.hid hb4
    clear t0 t1 t2 hown2 hp2 hc2 hb4
    go_wp2_with fail
    refine heq.out.mono ?_
    clear heq
    rintro e w5 ⟨rfl, hb5⟩
    have b35 : Below w3.heap.size w3 w5 := HB4.out.trans (hb5.mono HB4.out.size)
    have b25 : Below w2.heap.size w2 w5 := HB3.out.trans (b35.mono HB3.out.size)
    have b05 : Below w.heap.size w w5 := HB2.out.trans (b25.mono h02)
    have hfm := Lib.hid (implFmt_any a b c w5 (hT.out _ b05))
    obtain ⟨t0, t1, t2⟩ := HBT.out w5 b25
    have HB35 := Lib.hid b35
    have HB05 := Lib.hid b05
    clear hb5 b35 b25 b05 HB4
    go_wp2_with fail
    refine hfm.out.mono ?_
    clear hfm
    rintro e w6 ⟨rfl, hb6⟩
    have HB36 := Lib.hid (HB35.out.trans (hb6.mono HB35.out.size))
    have HB06 := Lib.hid (HB05.out.trans (hb6.mono HB05.out.size))
    obtain ⟨own, hown⟩ : ∃ own : ByteArray, own = ⟨(ftext a b c).toArray⟩ := ⟨_, rfl⟩
    rw [← hown]
    have HOW : Hid (ftext a b c = own.data.toList) := by show _ = _; rw [hown]
    clear hb6 hown t0 t1 t2 HB35 HB05 HBT
    go_wp2_with fail
    go_loopw [6] (fun i wr => ∃ q : Nat, q ≤ m ∧ i = .int .i64 (q : Int) ∧ Hid (Below w3.heap.size w3 wr ∧ Below w.heap.size w wr)) (fun i _ => m - (intOf i).toNat)
    case atStart => exact ⟨0, by omega, rfl, HB36.out, HB06.out⟩
    case round =>
      obtain ⟨q, hq, rfl, HW⟩ := hrel
      by_cases hqm : q < m
      · obtain ⟨rfl, hg1⟩ := P1.out (by omega)
        have hql : q < (nearOf a b c).length := by rw [← HM.out]; exact hqm
        obtain ⟨M, hM⟩ : ∃ M, M = (nearOf a b c)[q] := ⟨_, rfl⟩
        obtain ⟨hok, hol, i, hi, hdig⟩ := HSV.out M (by rw [hM]; exact List.getElem_mem _)
        obtain ⟨ta, tb, tc, hTM⟩ : ∃ a b c, Tr M a b c := ⟨_, _, _, Tr.mk' hok⟩
        obtain ⟨e0, e1, e2⟩ := ints_at3 (nearOf a b c) q hql
        rw [← hM] at e0 e1 e2
        have b0 := (HW.out.1.cell (p := ⟨g1, q * 3, none⟩) hg1).trans (C1.out (q * 3) (by omega))
        have b1 := (HW.out.1.cell (p := ⟨g1, q * 3 + 1, none⟩) hg1).trans (C1.out (q * 3 + 1) (by omega))
        have b2 := (HW.out.1.cell (p := ⟨g1, q * 3 + 2, none⟩) hg1).trans (C1.out (q * 3 + 2) (by omega))
        rw [e0, ← hTM.2.1] at b0
        rw [e1, ← hTM.2.2.1] at b1
        rw [e2, ← hTM.2.2.2] at b2
        have hfm := implFmt_any ta tb tc wr (hT.out _ HW.out.2)
        have hft : ftext ta tb tc = txt M := by
          obtain ⟨h1, h2, h3, h4⟩ := hTM
          rw [h2, h3, h4]; exact ftext_tri h1
        rw [hft] at hfm
        have HFM := Lib.hid hfm
        rw [HOW.out] at hol hdig
        have hos : own.size = 12 := by rw [Array.length_toList] at hol; exact hol
        have HDG := Lib.hid hdig
        have HOS := Lib.hid hos
        have hk0 : (0 : Int) ≤ (q : Int) := by omega
        have hkl : (q : Int) < (m : Int) := by omega
        have c3 := cellsTagS
        clear e0 e1 e2 hfm hft hdig hok hol hql hM hTM hos
        obtain ⟨wo, rfl⟩ : ∃ wo : World, wo = wr := ⟨_, rfl⟩
        go_wp2_with fail
        refine HFM.out.mono ?_
        clear HFM
        rintro e w7 ⟨rfl, hb7⟩
        have HW7 : Hid (Below w3.heap.size w3 w7 ∧ Below w.heap.size w w7) := ⟨HW.out.1.trans (hb7.mono HW.out.1.size), HW.out.2.trans (hb7.mono HW.out.2.size)⟩
        clear hb7 HW b0 b1 b2
        obtain ⟨s, hs⟩ : ∃ s : ByteArray, s = ⟨(txt M).toArray⟩ := ⟨_, rfl⟩
        have hss : s.size = 12 := by
          have : s.data.toList.length = 12 := by rw [hs, List.toList_toArray]; exact txt_len M
          rw [Array.length_toList] at this; exact this
        rw [← hs]
        have HSL : Hid (txt M = s.data.toList) := by show _ = _; rw [hs]
        have HSS := Lib.hid hss
        clear hs hss
        go_wp2_with fail
        go_loopw [8, 9] (fun ct k wr => ∃ (kk cc : Nat), kk ≤ 12 ∧ k = .int .i64 (kk : Int) ∧ ct = .int .i64 (cc : Int) ∧ cc ≤ 1 ∧ Hid (cc = if i < kk then 1 else 0) ∧ Hid (Below w3.heap.size w3 wr ∧ Below w.heap.size w wr)) (fun _ k _ => 12 - (intOf k).toNat)
        case atStart => exact ⟨0, 0, by omega, rfl, rfl, by omega, Lib.hid (by simp), HW7.out⟩
        case round =>
          obtain ⟨k, cc, hk, rfl, rfl, hcc, HCC, HW⟩ := hrel
          by_cases hk12 : k < 12
          · have hks : k < s.size := by rw [HSS.out]; exact hk12
            have hko : k < own.size := by rw [HOS.out]; exact hk12
            obtain ⟨d1, d2⟩ := HDG.out k hk12
            rw [HSL.out] at d1 d2
            have x1 := byteAt' s k hks
            have x2 := byteAt' own k hko
            obtain ⟨nx, hnx⟩ : ∃ nx, nx = (s.data.toList.getD k 0).toNat := ⟨_, rfl⟩
            obtain ⟨ny, hny⟩ : ∃ ny, ny = (own.data.toList.getD k 0).toNat := ⟨_, rfl⟩
            have hnx9 : nx < 256 := by rw [hnx]; exact UInt8.toNat_lt _
            have hny9 : ny < 256 := by rw [hny]; exact UInt8.toNat_lt _
            rw [← hnx] at x1 d2
            rw [← hny] at x2 d2
            have hk0' : (0 : Int) ≤ (k : Int) := by omega
            have hkl' : (k : Int) < 12 := by omega
            have s12 := HSS.out
            have o12 := HOS.out
            by_cases hki : k = i
            · have HC2 : Hid (cc + 1 = if i < k + 1 then 1 else 0) := by
                have := HCC.out
                rw [if_neg (by omega)] at this
                show _ = _
                rw [if_pos (by omega), this]
              have hcc0 : cc = 0 := by have := HCC.out; rw [if_neg (by omega)] at this; exact this
              subst hcc0
              rcases d2 hki with h7 | h7
              · have f1 : ((nx : Int) != (ny : Int)) = true := by rw [bne_iff_ne]; omega
                have f2 : decide (nx = ny) = false := decide_eq_false (by omega)
                have f3 : (nx == ny) = false := by rw [beq_eq_false_iff_ne]; omega
                have f4 : ((nx : Int) - (ny : Int) != 7) = false := by rw [bne_eq_false_iff_eq]; omega
                have f5 : decide ((nx : Int) - (ny : Int) = 7) = true := decide_eq_true (by omega)
                clear d1 d2 hnx hny hki h7 HCC
                go_wp2_with fail
                go_quiet (fail)
                go_wp2_with fail
                go_quiet (fail)
                go_wp2_with fail
                go_roundw
                case rel => exact ⟨k + 1, 0 + 1, by omega, by congr 1, by first | rfl | congr 1, by omega, HC2, by constructor <;> (first | exact below_drewN (below_drewN HW.out.1 _) _ | exact below_drewN (below_drewN HW.out.2 _) _ | exact below_drewN HW.out.1 _ | exact below_drewN HW.out.2 _)⟩
                case measure => simp only [intOf]; omega
              · have f1 : ((nx : Int) != (ny : Int)) = true := by rw [bne_iff_ne]; omega
                have f2 : decide (nx = ny) = false := decide_eq_false (by omega)
                have f3 : (nx == ny) = false := by rw [beq_eq_false_iff_ne]; omega
                have f4 : ((nx : Int) - (ny : Int) != 7) = true := by rw [bne_iff_ne]; omega
                have f5 : decide ((nx : Int) - (ny : Int) = 7) = false := decide_eq_false (by omega)
                have f6 : ((nx : Int) - (ny : Int) != -7) = false := by rw [bne_eq_false_iff_eq]; omega
                have f7 : decide ((nx : Int) - (ny : Int) = -7) = true := decide_eq_true (by omega)
                clear d1 d2 hnx hny hki h7 HCC
                go_wp2_with fail
                go_quiet (fail)
                go_wp2_with fail
                go_quiet (fail)
                go_wp2_with fail
                go_roundw
                case rel => exact ⟨k + 1, 0 + 1, by omega, by congr 1, by first | rfl | congr 1, by omega, HC2, by constructor <;> (first | exact below_drewN (below_drewN HW.out.1 _) _ | exact below_drewN (below_drewN HW.out.2 _) _ | exact below_drewN HW.out.1 _ | exact below_drewN HW.out.2 _)⟩
                case measure => simp only [intOf]; omega
            · have hxy : nx = ny := by rw [hnx, hny, d1 hki]
              have HC2 : Hid (cc = if i < k + 1 then 1 else 0) := by
                have := HCC.out
                show _ = _
                rw [this]
                by_cases h : i < k
                · rw [if_pos h, if_pos (by omega)]
                · rw [if_neg h, if_neg (by omega)]
              clear d1 d2 hnx hny hki HCC
              subst hxy
              go_wp2_with fail
              go_quiet (fail)
              go_wp2_with fail
              go_roundw
              case rel => exact ⟨k + 1, cc, by omega, by congr 1, rfl, hcc, HC2, below_drewN HW.out.1 _, below_drewN HW.out.2 _⟩
              case measure => simp only [intOf]; omega
          · obtain rfl : k = 12 := by omega
            have hc1 : cc = 1 := by rw [HCC.out, if_pos (by omega)]
            subst hc1
            have s12 := HSS.out
            clear HCC
            go_wp2_with fail
            go_roundw
            case rel => exact ⟨q + 1, by omega, by congr 1, HW.out⟩
            case measure => simp only [intOf]; omega
      · obtain rfl : q = m := by omega
        have h10 : (q : Int) ≤ 10 := by omega
        go_wp2_with fail
        go_ret
        exact ⟨rfl, HW.out.2⟩

/-! The row's step. -/
theorem own : ownKnob Tryd.prog.godebug = none := by kernel_rfl
theorem laidOut : laidOutB Tryd.prog = true := by kernel_rfl
theorem door_met (os : Os) (args : Array Value) : laidMetH Tryd.prog Rows.fnNearTagsRow.laid ((World.doorLaid Tryd.prog 400 os).forCall (fun _ _ => 0) ⟨#[], args, []⟩).memory :=
  laidMetH_of_parts3 (fuel := 8) (laidMet_of_run' 8 (by kernel_rfl) (by kernel_rfl)) (by kernel_rfl) (by kernel_rfl)
set_option maxRecDepth 100000 in
theorem lifted (os : Os) (started : os.Started) (H : Type) (enc : TypeId × Value → H) :
    ReturnsInHanded {} Tryd.checked os 4 .any (fun w args => (Rows.fnNearTagsSpec.pre enc Tryd.prog Tryd.f4 [] false w args ∧ laidMetH Tryd.prog Rows.fnNearTagsRow.laid w) ∧ sizedMet enc Tryd.prog Tryd.f4 (OpenSpec.ofChange Rows.fnNearTagsSpec) false w args) (Rows.fnNearTagsSpec.post enc Tryd.prog Tryd.f4 false true false false) := by
  refine returnsInHanded_of_change_and (C := Tryd.checked) (X := fun w _ => laidMetH Tryd.prog Rows.fnNearTagsRow.laid w) (fun _ _ _ hh h => h.of_heap hh) own started (by kernel_rfl) Tryd.func4
    (ChangeSpec.witness_shaped (enc := enc) (C := Tryd.checked) (os := os) (X := fun w _ => laidMetH Tryd.prog Rows.fnNearTagsRow.laid w) false (World.doorLaid Tryd.prog 400 os) #[.slice none 0 0] 8 rfl (World.shaped_of_RefB (by kernel_rfl) (by kernel_rfl)) (by kernel_rfl) (by kernel_rfl) (by kernel_rfl) (door_met os _)) ?_
  intro W base args ds gs before hval0 hW hcnd hsz hLH _
  have hval : ∀ (j : Nat) t v, Tryd.f4.params[j]? = some t → args[j]? = some v → Value.okWide Tryd.prog W .any base t v := hval0
  have hW' := hW
  obtain ⟨p, q, hA0, hV, rfl, hfz, hnd⟩ := hW
  have hA : DataW.TrodAll enc Tryd.prog W 0 (fun _ => true) true Tryd.f4.params.toList args.toList ds p := hA0
  rw [Tryd.params4] at hA hval
  obtain ⟨v0, vs0, d0, ds0, p0, q0, hargs, rfl, rfl, h0, r0⟩ := trodAll_cons hA
  obtain ⟨rfl, rfl, rfl⟩ := trodAll_nil r0
  obtain rfl : args = #[v0] := by cases args; simp_all
  obtain ⟨rfl, rfl⟩ := trodVars_none hV
  have k0 := h0
  have lt0 : ∀ x ∈ p0, x.block < W.heap.size := by obtain ⟨m, hm⟩ := k0; exact DataW.trod_lt m _ _ _ hm
  obtain ⟨sp0, ln0, cp0, rfl⟩ := okWide_slice Tryd.underlying22 (hval 0 22 v0 rfl rfl)
  obtain ⟨gc0, oc0, w0, cd0⟩ := code_open h0
  clear hA0 hval0
  have hL : laidMet Tryd.prog Rows.fnNearTagsRow.laid W := by rw [MakeChecks.laidMetH_plain _ _ _ (by kernel_rfl)] at hLH; exact hLH
  refine (walk sp0 ln0 cp0 gc0 oc0 W w0 cd0 (tab_of_laid (laidMet.tail (laidMet.tail hL))) (rng_of_laid (laidMet.tail (laidMet.tail (laidMet.tail hL)))) (syn_of_laid (laidMet.tail (laidMet.tail (laidMet.tail (laidMet.tail hL)))))).mono fun e W' ⟨he, bel⟩ => ?_
  subst he
  exact ⟨_, rfl, _, _, _, [], _, [], hW', trodAll_mk1 (shut_bool Tryd.underlying4 _), (trodAll_cons_mk (Below.trod laidOut (by kernel_rfl) (of_decide_eq_true (by kernel_rfl)) k0 bel lt0) trodAll_mk0), rfl, bel.frame _, fun h => by cases h⟩

theorem over : Rows.FnNearTagsSaid :=
  OpenClaim.holds_of_wide 4 Tryd.f4 rfl rfl rfl rfl rfl rfl rfl ⟨rfl, rfl, rfl, rfl, rfl⟩ rfl rfl rfl rfl rfl (by kernel_rfl) Tryd.func4 (by kernel_rfl)
    (of_decide_eq_true (by kernel_rfl)) (by unfold Func.isWrapper; first | (rw [if_pos (by decide +kernel)]; kernel_rfl) | (rw [if_neg (by decide +kernel)]; exact ⟨rfl, rfl⟩))
    (fun os started H enc _ => lifted os started H enc)

/-- The statement. -/
theorem proved : Rows.FnNearTagsCardSaid :=
  Claim7.holds_tied_plain_at .later [] [.data, .data, .data, .sentinel, .sentinel] true (true, "9a0d1a69dd0fbd9189425c16cc78e49440c5a1dfba85b9b275998d55ff14b976") true
    over (fun _ h => by cases h) (by kernel_rfl) (fun _ h => by cases h) fnNearTags_row_tie rfl ⟨rfl, rfl⟩ (by kernel_rfl) rfl
    (fun f fn hf hfn => by
      obtain rfl : f = 4 := Option.some.inj ((show Tryd.prog.funcNamed "loop.example/g03319/laws.FnNearTags" = some 4 by kernel_rfl).symm.trans hf) |>.symm
      obtain rfl : fn = Tryd.f4 := (Option.some.inj (Tryd.func4.symm.trans hfn)).symm
      exact ⟨by kernel_rfl, fun j t ht => by
        rw [Tryd.params4] at ht
        have hm : t ∈ [22] := by simpa using Array.mem_of_getElem? ht
        have hall : ([22].all fun u => !Tryd.prog.wantsStandIn u) = true := by kernel_rfl
        exact (show Tryd.prog.wantsStandIn t = false by simpa using List.all_eq_true.1 hall t hm)⟩)
    (by kernel_rfl)
#print axioms proved
end Go.Proofs.YtjdmagackoddaaaDoor.fnNearTags
