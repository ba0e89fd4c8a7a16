/- What the program's NearTags leaves. -/
import Derived.Test.YtjdmagackoddaaaDoorNearSort
import Derived.Test.YtjdmagackoddaaaDoorCandImpl
import Derived.Deep.AppendLies
import Derived.Lib.Strings
namespace Go.Proofs.YtjdmagackoddaaaDoor
open Go.RowKit
set_option linter.unusedVariables false

def nh (N i : Nat) : List Nat := ((List.range 10).map fun d => setD N i d).filter fun M => okN M && decide (M % 7 = N % 7)
theorem nh_len (N i : Nat) : (nh N i).length ≤ 10 := by
  unfold nh
  have := List.length_filter_le (fun M => okN M && decide (M % 7 = N % 7)) ((List.range 10).map fun d => setD N i d)
  simpa using this
theorem nh_ok {N i M : Nat} (h : M ∈ nh N i) : okN M = true := by
  have := (List.mem_filter.1 h).2
  simp only [Bool.and_eq_true] at this
  exact this.1
theorem hole_text (N i : Nat) (hi : i < 10) (text : ByteArray) (ht : text.data.toList = digs N ++ [45, UInt8.ofNat (48 + N % 7)]) : (text.extract 0 i ++ (⟨#[63]⟩ : ByteArray) ++ text.extract (i + 1) text.size).data.toList = holed N i := by
  have hs : text.size = 12 := by
    have : text.data.toList.length = text.size := by simp
    rw [← this, ht, List.length_append, digs_length]; rfl
  have h1 : (text.extract 0 i).data.toList = (digs N).take i := by
    rw [Lib.extract_data, ht, List.drop_zero, Nat.sub_zero, List.take_append_of_le_length (by rw [digs_length]; omega)]
  have h2 : (text.extract (i + 1) text.size).data.toList = (digs N).drop (i + 1) ++ [45, UInt8.ofNat (48 + N % 7)] := by
    rw [Lib.extract_data, ht, hs, List.drop_append_of_le_length (by rw [digs_length]; omega), List.take_of_length_le]
    rw [List.length_append, List.length_drop, digs_length]; simp; omega
  rw [ByteArray.data_append, ByteArray.data_append, Array.toList_append, Array.toList_append, h1, h2]
  unfold holed
  rw [List.set_eq_take_append_cons_drop, if_pos (by rw [digs_length]; exact hi)]
  simp
theorem tr_one {y N : Nat} {a b c : Int} (h : Tr y a b c) (k : Tr N a b c) : y = N := by
  obtain ⟨_, h1, h2, h3⟩ := h
  obtain ⟨_, k1, k2, k3⟩ := k
  unfold tri at h1 h2 h3 k1 k2 k3
  simp only at h1 h2 h3 k1 k2 k3
  omega
theorem cand_holed (N i : Nat) (hN : N ≤ 9999999999) (hi : i < 10) {B : Nat} {w : World} {e : Ending} {w' : World} (h : CandPost (holed N i) B w e w') : ∃ v, e = .returned (.tuple #[v, .bool true]) ∧ w'.ownsRow B 29 3 v (nh N i).length (cellsN (nh N i)) ∧ Below B w w' := by
  obtain ⟨v, n, xs, ok, rfl, hown, hb, ⟨_, rfl, rfl, rfl⟩ | ⟨h, _⟩⟩ := h
  · refine ⟨v, rfl, ?_, hb⟩
    have e := cands_holed N i hN hi
    have e1 : (cands (holed N i)).length = (nh N i).length := by rw [e, List.length_map]; rfl
    have e2 : (cands (holed N i)).flatMap tagCell = cellsN (nh N i) := by rw [e, List.flatMap_map]; rfl
    rw [← e1, ← e2]
    exact hown
  · exact absurd (holed_frm N i hi) h

set_option maxRecDepth 100000 in
set_option maxHeartbeats 4000000 in
theorem inear_any (a b c : Int) (w : World) (htab : Lib.TabIs Tryd.prog w "internal/strconv.uint64pow10" .u64 Lib.pow10Tab) (hR : ErrIs w "strconv.ErrRange") (hS : ErrIs w "strconv.ErrSyntax") :
    Calls Tryd.prog 16 #[.agg #[.int .i64 a, .int .i64 b, .int .i64 c]] w (NearPost (nearOf a b c) w.heap.size w) := by
  have c3 := cellsTagN
  obtain ⟨i0, hi, hz0, hz1, hz2⟩ := info_parts infoTag
  have hT := Lib.hid (Lib.tabBelow_of_tabIs htab)
  have HR := Lib.hid hR
  have HS := Lib.hid hS
  clear htab hR hS
  cases htok : tokB a b c
  · have HE : Hid (nearOf a b c = []) := by show _ = _; unfold nearOf; rw [htok]; rfl
    have HT := Lib.hid htok
    clear htok
    go_enter Tryd.func16, Tryd.ntmps16
    go_wp2_with (go_at_call 29; refine (implOk_any _ _ _ _).mono ?_; rw [HT.out]; rintro e w1 ⟨rfl, hb1⟩)
    go_ret
    exact ⟨_, rfl, by rw [HE.out]; exact World.ownsRow_nil _ _ _ _, ((Below.refl _ w).alloc (Nat.le_refl _) _).trans (hb1.mono (by simp))⟩
  · obtain ⟨N, hN, hTr⟩ := tr_of htok
    have hN9 : N ≤ 9999999999 := (okN_iff.1 hTr.1).1
    have HE : Hid (nearOf a b c = sortF (nearTo N 100)) := by show _ = _; unfold nearOf; rw [if_pos htok, hN]; rfl
    have hft : ftext a b c = digs N ++ [45, UInt8.ofNat (48 + N % 7)] := by
      obtain ⟨h1, h2, h3, h4⟩ := hTr
      rw [h2, h3, h4]; exact ftext_tri h1
    have HFT := Lib.hid hft
    have HT := Lib.hid htok
    have HTR := Lib.hid hTr
    clear htok hN hTr hft
    go_enter Tryd.func16, Tryd.ntmps16
    go_wp2_with fail
    have hnew : (w.alloc (.cells #[.int .i64 a, .int .i64 b, .int .i64 c] 29)).cell? ⟨w.heap.size, 0, none⟩ = some (.int .i64 a) ∧ (w.alloc (.cells #[.int .i64 a, .int .i64 b, .int .i64 c] 29)).cell? ⟨w.heap.size, 1, none⟩ = some (.int .i64 b) ∧ (w.alloc (.cells #[.int .i64 a, .int .i64 b, .int .i64 c] 29)).cell? ⟨w.heap.size, 2, none⟩ = some (.int .i64 c) := ⟨newCell _ _ _ _ _ rfl, newCell _ _ _ _ _ rfl, newCell _ _ _ _ _ rfl⟩
    obtain ⟨w0, hw0⟩ : ∃ w0, w0 = w.alloc (.cells #[.int .i64 a, .int .i64 b, .int .i64 c] 29) := ⟨_, rfl⟩
    have hs0 : w0.heap.size = w.heap.size + 1 := by rw [hw0]; simp
    have B0 : Below w.heap.size w w0 := by rw [hw0]; exact (Below.refl _ _).alloc (Nat.le_refl _) _
    rw [← hw0] at hnew ⊢
    have HBT : Hid (∀ X, Below (w.heap.size + 1) w0 X → X.cell? ⟨w.heap.size, 0, none⟩ = some (.int .i64 a) ∧ X.cell? ⟨w.heap.size, 1, none⟩ = some (.int .i64 b) ∧ X.cell? ⟨w.heap.size, 2, none⟩ = some (.int .i64 c)) := fun X hX =>
      ⟨(hX.cell (p := ⟨w.heap.size, 0, none⟩) (Nat.lt_succ_self _)).trans hnew.1, (hX.cell (p := ⟨w.heap.size, 1, none⟩) (Nat.lt_succ_self _)).trans hnew.2.1, (hX.cell (p := ⟨w.heap.size, 2, none⟩) (Nat.lt_succ_self _)).trans hnew.2.2⟩
    have HS0 := Lib.hid hs0
    clear hw0 hnew hs0
    obtain ⟨t0, t1, t2⟩ := HBT.out w0 (Below.refl _ _)
    go_wp2_with fail
    refine (implOk_any _ _ _ _).mono ?_
    rw [HT.out]
    rintro e w1 ⟨rfl, hb1⟩
    have hW1 : Below (w.heap.size + 1) w0 w1 := hb1.mono (by rw [HS0.out]; exact Nat.le_refl _)
    have h1 := hW1.size
    rw [HS0.out] at h1
    clear t0 t1 t2 hb1
    obtain ⟨t0, t1, t2⟩ := HBT.out w1 hW1
    have hlt1 : w.heap.size < w1.heap.size := by omega
    go_wp2_with fail
    have hW2a : Below (w.heap.size + 1) w0 (w1.alloc (.cells #[] 29)) := hW1.alloc h1 _
    have hown2 : (w1.alloc (.cells #[] 29)).ownsRow (w.heap.size + 1) 29 3 (.slice (some ⟨w1.heap.size, 0, none⟩) 0 0) 0 [] :=
      ⟨rfl, .inr ⟨w1.heap.size, 0, #[], rfl, h1, heap_alloc_new w1 _, Nat.le_refl _, by decide, rfl, rfl⟩⟩
    have hfm := implFmt_any a b c (w1.alloc (.cells #[] 29)) (hT.out _ (B0.trans (hW2a.mono (by omega))))
    obtain ⟨w2, hw2⟩ : ∃ w2, w2 = w1.alloc (.cells #[] 29) := ⟨_, rfl⟩
    rw [← hw2] at hW2a hown2 hfm
    have h2 := hW2a.size
    rw [HS0.out] at h2
    rw [← hw2]
    clear hw2 t0 t1 t2
    refine hfm.mono ?_
    rw [HFT.out]
    rintro e w3 ⟨rfl, hb3⟩
    have hW3 : Below (w.heap.size + 1) w0 w3 := hW2a.trans (hb3.mono h2)
    have HO3 := Lib.hid (own_below hown2 hb3)
    have h3 := hW3.size
    rw [HS0.out] at h3
    clear hfm hb3 hown2 hW2a hW1
    obtain ⟨text, htx⟩ : ∃ text : ByteArray, text = ⟨(digs N ++ [45, UInt8.ofNat (48 + N % 7)]).toArray⟩ := ⟨_, rfl⟩
    have htl : text.data.toList = digs N ++ [45, UInt8.ofNat (48 + N % 7)] := by rw [htx]
    have hts : text.size = 12 := by
      have : text.data.toList.length = text.size := by simp
      rw [← this, htl, List.length_append, digs_length]; rfl
    rw [← htx]
    have HTL := Lib.hid htl
    have HTS := Lib.hid hts
    clear htx htl hts
    go_wp2_with fail
    go_loopw [3, 16] (fun out i wr => ∃ (k n : Nat), k ≤ 10 ∧ i = .int .i64 (k : Int) ∧ n ≤ 100 ∧ wr.ownsRow (w.heap.size + 1) 29 3 out n (cellsN (nearTo N (10 * k))) ∧ Hid (n = (nearTo N (10 * k)).length) ∧ Below (w.heap.size + 1) w0 wr) (fun _ i _ => 10 - (intOf i).toNat)
    case atStart => exact ⟨0, 0, by omega, rfl, by omega, HO3.out, Lib.hid rfl, hW3⟩
    case round =>
      clear HO3 hW3
      obtain ⟨i, n, hi', rfl, hn, hown, HN, hbw⟩ := hrel
      by_cases hi10 : i < 10
      · have hi10' : (i : Int) < 10 := by omega
        have hps := hbw.size
        rw [HS0.out] at hps
        have s1 : IntKind.i64.wrap ((i : Int) + 1) = (i : Int) + 1 := IntWalk.i64_in _ (by omega)
        have s2 : ((i : Int) + 1).toNat = i + 1 := by omega
        have s3 : (0 : Int) ≤ (i : Int) + 1 := by omega
        have s4 : i ≤ text.size := by rw [HTS.out]; omega
        have s5 : i + 1 ≤ text.size := by rw [HTS.out]; omega
        have s6 : text.size ≤ 12 := by rw [HTS.out]; exact Nat.le_refl _
        have hol := hole_text N i hi10 text HTL.out
        have hos : (text.extract 0 i ++ (⟨#[63]⟩ : ByteArray) ++ text.extract (i + 1) text.size).size ≤ 1048576 := by
          have : (text.extract 0 i ++ (⟨#[63]⟩ : ByteArray) ++ text.extract (i + 1) text.size).data.toList.length = 12 := by rw [hol, holed_len]
          rw [Array.length_toList] at this
          show (text.extract 0 i ++ (⟨#[63]⟩ : ByteArray) ++ text.extract (i + 1) text.size).data.size ≤ 1048576
          omega
        have hcon : ∀ W, Below w.heap.size w W → Calls Tryd.prog 9 #[.string (text.extract 0 i ++ (⟨#[63]⟩ : ByteArray) ++ text.extract (i + 1) text.size)] W fun e w' => ∃ v, e = .returned (.tuple #[v, .bool true]) ∧ w'.ownsRow W.heap.size 29 3 v (nh N i).length (cellsN (nh N i)) ∧ Below W.heap.size W w' := fun W hW => by
          have := icand_any _ hos W (hT.out _ hW) (HR.out.on gRng hW) (HS.out.on gSyn hW)
          rw [hol] at this
          exact this.mono fun _ _ h => cand_holed N i hN9 hi10 h
        have HC := Lib.hid hcon
        have hbw' : Below w.heap.size w wr := B0.trans (hbw.mono (by omega))
        obtain ⟨m, hm⟩ : ∃ m, m = (nh N i).length := ⟨_, rfl⟩
        have hm10 : m ≤ 10 := by rw [hm]; exact nh_len N i
        rw [← hm] at HC
        have HM := Lib.hid hm
        clear hol hos hcon hm
        go_wp2_with fail
        go_region_with (go_at_call 9; refine (HC.out _ (by first | exact hbw' | exact hbw'.drew)).mono ?_; rintro e w5 ⟨v5, rfl, hown5, hb5⟩)
        all_goals as_aux_lemma =>
          have hb5' : Below wr.heap.size wr w5 := by first | exact hb5 | exact ((Below.refl _ wr).drew.trans hb5)
          obtain ⟨p5, c5, rfl⟩ := row_form3 hown5
          have hown5w := own_below hown hb5'
          have hW5 : Below (w.heap.size + 1) w0 w5 := hbw.trans (hb5'.mono hps)
          obtain ⟨gt, hgt⟩ : ∃ gt, (0 < m → p5 = some ⟨gt, 0, none⟩ ∧ wr.heap.size ≤ gt ∧ gt < w5.heap.size ∧ ∀ (j : Nat) (hj : j < m), w5.cell? ⟨gt, j * 3, none⟩ = some (.int .i64 ((tri ((nh N i).getD j 0)).1 : Int)) ∧ w5.cell? ⟨gt, j * 3 + 1, none⟩ = some (.int .i64 ((tri ((nh N i).getD j 0)).2.1 : Int)) ∧ w5.cell? ⟨gt, j * 3 + 2, none⟩ = some (.int .i64 ((tri ((nh N i).getD j 0)).2.2 : Int))) := by
            rcases hown5.2 with ⟨_, h0⟩ | ⟨g, cap, cur, hv, hg, hc, -⟩
            · exact ⟨0, fun h => absurd h (by omega)⟩
            · injection hv with e1 e2 e3
              subst e1
              refine ⟨g, fun _ => ⟨rfl, hg, (Array.getElem?_eq_some_iff.1 hc).1, fun j hj => ?_⟩⟩
              have hjl : j < (nh N i).length := by rw [← HM.out]; exact hj
              obtain ⟨d0, d1, d2⟩ := cellsN_at (nh N i) j hjl
              have hgd : (nh N i).getD j 0 = (nh N i)[j] := by rw [List.getD_eq_getElem?_getD, List.getElem?_eq_getElem hjl]; rfl
              rw [hgd]
              exact ⟨(hown5.cellAt _ (by omega)).trans d0, (hown5.cellAt _ (by omega)).trans d1, (hown5.cellAt _ (by omega)).trans d2⟩
          have HGT := Lib.hid hgt
          have hob : ∀ g, u3.ownBlock = some g → g < wr.heap.size := fun g hg => (hown.lt g hg).2
          have HOB := Lib.hid hob
          have HO5 := Lib.hid hown5w
          clear hgt hown5 hown5w hob hown hb5 hb5'
          go_wp2_with fail
          obtain ⟨wo, rfl⟩ : ∃ wo : World, wo = wr := ⟨_, rfl⟩
          go_loopw [3, 34] (fun out j wr => ∃ (q : Nat) (acc : List Nat), q ≤ m ∧ j = .int .i64 (q : Int) ∧ acc.length ≤ 100 + q ∧ wr.ownsRow (w.heap.size + 1) 29 3 out acc.length (cellsN acc) ∧ Hid (acc = nearTo N (10 * i) ++ ((nh N i).take q).filter (fun M => decide (M ≠ N))) ∧ Hid (0 < m → wr.heap[gt]? = w5.heap[gt]? ∧ gt < wr.heap.size ∧ ∀ g, out.ownBlock = some g → g ≠ gt) ∧ Below (w.heap.size + 1) w0 wr) (fun _ j _ => m - (intOf j).toNat)
          case atStart => exact ⟨0, nearTo N (10 * i), by omega, rfl, by have := HN.out; omega, by rw [← HN.out]; exact HO5.out, Lib.hid (by simp), Lib.hid (fun h => ⟨rfl, (HGT.out h).2.2.1, fun g hg => by have h1 := HOB.out g hg; have h2 := (HGT.out h).2.1; omega⟩), hW5⟩
          case round =>
            clear HO5 HOB hW5 hbw hbw' hps
            obtain ⟨q, acc, hq, rfl, hacc, hown, HA, HG, hbw⟩ := hrel
            have hps := hbw.size
            rw [HS0.out] at hps
            by_cases hqm : q < m
            · obtain ⟨rfl, _, hg5, hcl⟩ := HGT.out (by omega)
              obtain ⟨hblk, hgw, hne⟩ := HG.out (by omega)
              obtain ⟨k0, k1, k2⟩ := hcl q hqm
              obtain ⟨y, hy⟩ : ∃ y, y = (nh N i).getD q 0 := ⟨_, rfl⟩
              have hql : q < (nh N i).length := by rw [← HM.out]; exact hqm
              have hyg : y = (nh N i)[q] := by rw [hy, List.getD_eq_getElem?_getD, List.getElem?_eq_getElem hql]; rfl
              have hok := nh_ok (N := N) (i := i) (M := y) (by rw [hyg]; exact List.getElem_mem _)
              obtain ⟨ya, yb, yc, hY⟩ : ∃ a b c, Tr y a b c := ⟨_, _, _, Tr.mk' hok⟩
              rw [← hy, ← hY.2.1] at k0
              rw [← hy, ← hY.2.2.1] at k1
              rw [← hy, ← hY.2.2.2] at k2
              have b0 := (World.cell?_of_block (w := w5) (a := ⟨gt, q * 3, none⟩) hblk).trans k0
              have b1 := (World.cell?_of_block (w := w5) (a := ⟨gt, q * 3 + 1, none⟩) hblk).trans k1
              have b2 := (World.cell?_of_block (w := w5) (a := ⟨gt, q * 3 + 2, none⟩) hblk).trans k2
              have htk : (nh N i).take (q + 1) = (nh N i).take q ++ [y] := by rw [hyg, List.take_succ_eq_append_getElem hql]
              obtain ⟨t0, t1, t2⟩ := HBT.out wr hbw
              have HY := Lib.hid hY
              have HNE := Lib.hid hne
              have HBK := Lib.hid hblk
              have hlt1 : w.heap.size < wr.heap.size := by omega
              have hq0 : (0 : Int) ≤ (q : Int) := by omega
              have hql' : (q : Int) < (m : Int) := by omega
              clear k0 k1 k2 hcl hy hyg hok hY hne hblk hql
              by_cases hyN : y = N
              · as_aux_lemma =>
                have HTk : Hid (acc = nearTo N (10 * i) ++ ((nh N i).take (q + 1)).filter (fun M => decide (M ≠ N))) := by
                  show _ = _
                  rw [htk, List.filter_append, ← List.append_assoc, ← HA.out]
                  simp [hyN]
                obtain ⟨rfl, rfl, rfl⟩ : ya = a ∧ yb = b ∧ yc = c := by
                  obtain ⟨_, e1, e2, e3⟩ := HY.out
                  obtain ⟨_, f1, f2, f3⟩ := HTR.out
                  rw [hyN] at e1 e2 e3
                  exact ⟨e1.trans f1.symm, e2.trans f2.symm, e3.trans f3.symm⟩
                have hG2 : Hid (0 < m → (wr.alloc (.cells #[.int .i64 ya, .int .i64 yb, .int .i64 yc] 29)).heap[gt]? = w5.heap[gt]? ∧ gt < (wr.alloc (.cells #[.int .i64 ya, .int .i64 yb, .int .i64 yc] 29)).heap.size ∧ ∀ g, u3.ownBlock = some g → g ≠ gt) := fun _ => ⟨(Below.heap_alloc _ _ _ hgw).trans HBK.out, by simp; omega, HNE.out⟩
                have hown2 := Lib.hid (hown.alloc (.cells #[.int .i64 ya, .int .i64 yb, .int .i64 yc] 29))
                clear htk hyN hown
                go_wp2_with fail
                go_roundw
                case rel => exact ⟨q + 1, acc, by omega, by congr 1, by omega, hown2.out, HTk, hG2, hbw.alloc hps _⟩
                case measure => simp only [intOf]; omega
              · have HTk : Hid (acc ++ [y] = nearTo N (10 * i) ++ ((nh N i).take (q + 1)).filter (fun M => decide (M ≠ N))) := by
                  show _ = _
                  rw [htk, List.filter_append, ← List.append_assoc, ← HA.out]
                  simp [hyN]
                have hdif : ya ≠ a ∨ (ya = a ∧ yb ≠ b) ∨ (ya = a ∧ yb = b ∧ yc ≠ c) := by
                  by_cases e1 : ya = a
                  · by_cases e2 : yb = b
                    · by_cases e3 : yc = c
                      · subst e1 e2 e3; exact absurd (tr_one HY.out HTR.out) hyN
                      · exact .inr (.inr ⟨e1, e2, e3⟩)
                    · exact .inr (.inl ⟨e1, e2⟩)
                  · exact .inl e1
                clear htk hyN
                rcases hdif with h | ⟨rfl, h⟩ | ⟨rfl, rfl, h⟩
                all_goals as_aux_lemma =>
                  have f1 := beq_eq_false_iff_ne.2 h
                  have f2 := decide_eq_false h
                  have f3 := bne_iff_ne.2 h
                  go_wp2_with (at_builtin; refine wpList_append_lies _ rfl _ _ 25 rfl (w.heap.size + 1) 29 i0 (.agg #[.int .i64 0, .int .i64 0, .int .i64 0]) 3 24 Tryd.underlying25 hi hz0 hz1 hz2 rfl (by decide) _ acc.length _ rfl ((hown.alloc _).alloc _) ⟨wr.heap.size + 1, 0, none⟩ 1 1 [.int .i64 ya, .int .i64 yb, .int .i64 yc] rfl rfl (by intro j u hj; match j, hj with | 0, hj => simp at hj; subst hj; simp [Addr.add] | 1, hj => simp at hj; subst hj; simp [Addr.add] | 2, hj => simp at hj; subst hj; simp [Addr.add]) (by intro u hu; simp at hu; rcases hu with rfl | rfl | rfl <;> rfl) (by decide) (by unfold maxLen; omega) (by omega) (by simp; omega) (wr.heap.size + 2) (by simp) ?_; intro g6 c6 w6 hown6 hgrow6 hwh6 hlt6)
                  have hB7 : Below (w.heap.size + 1) w0 w6 := ((hbw.alloc hps _).alloc (by simp; omega) _).grown hgrow6 (by simp; omega) (fun j hj => (hown.lt j hj).1)
                  have hblk6 : w6.heap[gt]? = w5.heap[gt]? := by
                    rw [hgrow6.block gt (by simp; omega) (fun e => HNE.out gt e.symm rfl), Below.heap_alloc _ _ _ (by simp; omega), Below.heap_alloc _ _ _ hgw]
                    exact HBK.out
                  have hG2 : Hid (0 < m → w6.heap[gt]? = w5.heap[gt]? ∧ gt < w6.heap.size ∧ ∀ g, (Value.slice (some ⟨g6, 0, none⟩) (acc.length + 1) c6).ownBlock = some g → g ≠ gt) := fun _ => ⟨hblk6, by have := hgrow6.size; simp at this; omega, fun g hg => by
                    have e : g = g6 := by simpa [Value.ownBlock] using hg.symm
                    subst e
                    rcases hwh6 with h1 | h1
                    · exact HNE.out _ h1
                    · omega⟩
                  have e6 : acc.length + 1 = (acc ++ [y]).length := by simp
                  have e7 : cellsN acc ++ [Value.int .i64 ya, .int .i64 yb, .int .i64 yc] = cellsN (acc ++ [y]) := app_cells HY.out acc (acc ++ [y]) rfl
                  rw [e7] at hown6
                  have HO6 := Lib.hid hown6
                  clear hown6 e7 hblk6 hwh6 hgrow6 hlt6
                  go_wp2_with fail
                  go_roundw
                  case rel => exact ⟨q + 1, acc ++ [y], by omega, by congr 1, by simp; omega, by rw [← e6]; exact HO6.out, HTk, hG2, hB7⟩
                  case measure => simp only [intOf]; omega
            · as_aux_lemma =>
              obtain rfl : q = m := by omega
              have HF : Hid (acc = nearTo N (10 * (i + 1))) := by
                show _ = _
                rw [HA.out, HM.out, List.take_length]
                exact (nearTo_ten N i).symm
              clear HA HG
              go_wp2_with fail
              go_roundw
              case rel => exact ⟨i + 1, acc.length, by omega, by congr 1, by rw [HF.out]; exact Nat.le_trans (nearTo_len _ _) (by omega), by rw [← HF.out]; exact hown, by rw [← HF.out]; exact Lib.hid rfl, hbw⟩
              case measure => simp only [intOf]; omega
      · as_aux_lemma =>
        obtain rfl : i = 10 := by omega
        have hi10' : decide (((10 : Nat) : Int) < 10) = false := by decide
        have hps := hbw.size
        rw [HS0.out] at hps
        have e100 : nearTo N (10 * 10) = nearTo N 100 := rfl
        rw [e100] at hown
        have HN1 : Hid (n = (nearTo N 100).length) := by rw [← e100]; exact HN.out
        have hok : ∀ M ∈ nearTo N 100, okN M = true := fun M hM => (nearTo_ok hM).1
        obtain ⟨P, hP⟩ : ∃ P, P = nearTo N 100 := ⟨_, rfl⟩
        rw [← hP] at hown hok HN1
        have HE2 : Hid (nearOf a b c = sortF P) := by show _ = _; rw [hP]; exact HE.out
        clear hP HE e100 HN
        have hcs := sort_any (P.attachWith _ hok) (by rw [List.length_attachWith, ← HN1.out]; omega) u3 (w.heap.size + 1) wr (by
          have e1 : vals (P.attachWith _ hok) = P := by unfold vals; simp
          rw [e1, List.length_attachWith, ← HN1.out]; exact hown)
        have e1 : vals (P.attachWith _ hok) = P := by unfold vals; simp
        rw [e1, List.length_attachWith, ← HN1.out] at hcs
        have HCS := Lib.hid hcs
        clear hcs hown hok e1
        go_wp2_with fail
        refine HCS.out.mono ?_
        rintro e w6 ⟨rfl, hown6, hb6⟩
        clear HCS
        go_wp2_with fail
        go_ret
        refine ⟨_, rfl, ?_, B0.trans ((hbw.trans hb6).mono (by omega))⟩
        rw [HE2.out]
        have e1 : (sortF P).length = n := by rw [(sortF_facts P).1.length_eq]; exact HN1.out.symm
        rw [e1]
        exact own_base hown6 (by omega)

end Go.Proofs.YtjdmagackoddaaaDoor
