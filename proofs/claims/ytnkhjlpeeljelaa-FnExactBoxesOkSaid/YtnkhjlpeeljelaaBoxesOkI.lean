/- What the program's BoxesOk returns. -/
import Derived.Test.YtnkhjlpeeljelaaBoxOkI
import Derived.Test.YtnkhjlpeeljelaaNestBox
import Derived.RangeFuncBox
import Derived.Lib.OthersKept
namespace Go.Proofs.Ytnkhjlpeeljelaa
open Go.RowKit
set_option linter.unusedVariables false

theorem infoIntX : (Try.prog.info? 3).map (fun i => (i.zero, i.size, i.bytes)) = some (some (.int .i64 0), 1, 8) := by kernel_rfl

theorem ownBX_later {B : Nat} {e : TypeId} {k : Nat} {v : Value} {n : Nat} {xs : List Value} {w w' : World} (h : w.ownsRow B e k v n xs) (hb : Below w.heap.size w w') : w'.ownsRow B e k v n xs :=
  h.kept (grownBy.of_below hb none) (by cases hv : v.ownBlock with
    | none => exact .inl rfl
    | some g => exact .inr (by simp))

set_option maxRecDepth 100000 in
set_option maxHeartbeats 8000000 in
theorem iBoxesOk_any (W C : Int) (n : Nat) (hn : n ≤ maxLen) (z : Nat → Int) (p : Option Addr) (c g o : Nat) (pb : Option Addr) (m cb : Nat) (a : Nat → Int) (nn : Nat → Nat) (xx : Nat → Nat → Int) (w : World) (h : FlatAt w 0 w.heap.size p g o (n * 3) (fun j => .int .i64 (z j))) (hwf : ∀ j, j < n * 3 → (Lit.int .i64 (z j)).wf = true)
    (hb : NRs w (.slice pb m cb) m 2 a nn xx) (hm : m + totN nn m ≤ 1048576) (hwx : ∀ i, i < m → ∀ j, j < nn i → (Lit.int .i64 (xx i j)).wf = true) :
    Calls Try.prog 41 #[.agg #[.int .i64 W, .int .i64 C], .slice p n c, .slice pb m cb] w fun e w' => e = .returned (.bool (decide (bxsOk W C n z m a nn xx))) ∧ Below w.heap.size w w' := by
  obtain ⟨i0, hi, hz0, hz1, hz2⟩ := info_parts infoIntX
  have ck := cellsBox
  have hp := Lib.hid (fun V (hV : Below w.heap.size w V) => iCanPack_any W C n hn z p c g o V ((h.below hV (Nat.le_refl _)).wide (Nat.le_refl _) hV.size) hwf)
  have HL0 := Lib.hid h
  clear h hwf
  obtain ⟨w1, hw1⟩ : ∃ x, x = w.alloc (.cells #[.int .i64 W, .int .i64 C] 25) := ⟨_, rfl⟩
  have X1 := Lib.hid (show w1.heap[w.heap.size]? = some (.cells #[.int .i64 W, .int .i64 C] 25 (0, 0)) from by rw [hw1]; exact heap_new _ _ _ rfl)
  have B1 := Lib.hid (show Below w.heap.size w w1 from by rw [hw1]; exact (Below.refl _ _).alloc (Nat.le_refl _) _)
  have S1 : w1.heap.size = w.heap.size + 1 := by rw [hw1]; simp
  have HW1 := Lib.hid hw1
  clear hw1
  obtain ⟨l, hl0⟩ : ∃ l, l = (liB W C && decide (pcsOk n z)) := ⟨_, rfl⟩
  rw [← hl0] at hp
  cases l
  · have HN := Lib.hid (decide_eq_false (p := bxsOk W C n z m a nn xx) (fun h => by rw [h.1.1, decide_eq_true h.1.2] at hl0; cases hl0))
    clear hl0 hb hwx
    go_enter Try.func41, Try.ntmps41
    go_wp2_with (go_at_call 62; rw [← HW1.out]; refine (hp.out _ B1.out).mono ?_; rintro e w2 ⟨rfl, hb⟩)
    go_ret
    exact ⟨by rw [HN.out]; first | done | rfl, B1.out.trans (hb.mono B1.out.size)⟩
  have hboth : liB W C = true ∧ pcsOk n z := by simpa using hl0
  have hWC := liB_range hboth.1
  have HPC := Lib.hid hboth
  have hn40 := hboth.2.1
  clear hl0 hboth
  obtain ⟨pb', cb', gb, ob, s, e1, hcb, hf, hr⟩ := hb
  injection e1 with e1 e2 e3
  subst e1 e3
  have HG := Lib.hid hf
  have HR := Lib.hid hr
  have HWX := Lib.hid hwx
  have hlb := Lib.hid (fun k (hk : k ≤ m) => show (bagN nn xx k).length ≤ 1048576 from by rw [bagN_len]; have := totN_le (nn := nn) hk; omega)
  clear hf hr hwx e2
  go_enter Try.func41, Try.ntmps41
  go_wp2_with (go_at_call 62; rw [← HW1.out]; refine (hp.out _ B1.out).mono ?_; rintro e w2 ⟨rfl, hb⟩)
  have HB2 := Lib.hid hb
  have S2 := hb.size
  clear hb hp
  go_loopw [7, 17] (fun v iv wr => ∃ (k : Nat) (pq : Option Addr) (cq : Nat) (l : List Int), k ≤ m ∧ iv = .int .i64 (k : Int) ∧ v = .slice pq l.length cq ∧ Hid (wr.ownsRow w1.heap.size 3 1 (.slice pq l.length cq) l.length (l.map (.int .i64))) ∧ Hid (l = bagN nn xx k) ∧ Hid (∀ j, j < k → bxOk W C n z (a (j * 3)) (a (j * 3 + 1)) (nn j) (xx j)) ∧ Hid (Below w1.heap.size w1 wr)) (fun _ iv _ => m - (intOf iv).toNat)
  case atStart =>
    exact ⟨0, some ⟨w2.heap.size, 0, none⟩, 0, [], by omega, rfl, rfl, ⟨rfl, .inr ⟨w2.heap.size, 0, #[], rfl, S2, heap_new _ _ _ rfl, Nat.le_refl _, by decide, by simp, by simp⟩⟩, rfl, fun j hj => absurd hj (by omega), HB2.out.alloc S2 _⟩
  case round =>
    obtain ⟨k, pq, cq, l, hk, rfl, rfl, HOW, HL, HP, HB⟩ := hrel
    have HBW := Lib.hid (B1.out.trans (HB.out.mono B1.out.size))
    have hszw := HB.out.size
    obtain ⟨b0, b1⟩ := cellsL2 ((HB.out.block w.heap.size (by omega)).trans X1.out)
    by_cases hkm : k < m
    · obtain ⟨rfl, -, hg⟩ := HG.out.1 (by omega)
      obtain ⟨hrd, sa, sc, se⟩ := HR.out k hkm
      obtain ⟨u0, u1, u2⟩ := atBox HG.out hkm HBW.out (Nat.le_refl _)
      have hrd0 := Lib.hid hrd
      rw [se] at u2 hrd
      have hrdH := Lib.hid hrd
      obtain ⟨p5, c5, g5, o5, e5, hc5, hf5⟩ := hrd
      injection e5 with e51 _ e53
      subst e53
      have hsrc : ∀ (W : World), Below w.heap.size w W → ∀ (i : Nat) (u : Value), ((List.range (nn k)).map (fun j => Value.int .i64 (xx k j)))[i]? = some u → W.cell? (sa.add i) = some u := fun W hW i u hu => by
        have hi2 : i < nn k := by
          rcases Nat.lt_or_ge i (nn k) with h9 | h9
          · exact h9
          · rw [List.getElem?_eq_none (by simp; omega)] at hu; cases hu
        rw [List.getElem?_map, List.getElem?_range hi2] at hu
        simp at hu
        subst hu
        have h7 := hf5.1 (by omega)
        rw [← e51] at h7
        obtain ⟨h7, -, h8⟩ := h7
        injection h7 with h7
        subst h7
        rw [Go.WideShapes.add_plain]
        exact (hW.cell (p := ⟨g5, o5 + i, none⟩) h8).trans (hf5.2 i hi2)
      have HSRC := Lib.hid hsrc
      have HLEN := Lib.hid (show ((List.range (nn k)).map (fun j => Value.int .i64 (xx k j))).length = nn k * 1 by simp)
      have HONE : Hid (∀ u ∈ (List.range (nn k)).map (fun j => Value.int .i64 (xx k j)), u.oneCell' = true) := by
        intro u hu
        obtain ⟨j, -, rfl⟩ := List.mem_map.1 hu
        rfl
      have HXL := Lib.hid (show (l ++ brow (xx k) (nn k)).map (Value.int .i64) = l.map (.int .i64) ++ (List.range (nn k)).map (fun j => Value.int .i64 (xx k j)) by unfold brow; rw [List.map_append, List.map_map]; rfl)
      have HL2 := Lib.hid (show l ++ brow (xx k) (nn k) = bagN nn xx (k + 1) from by rw [HL.out]; rfl)
      have HLL := Lib.hid (show (l ++ brow (xx k) (nn k)).length = l.length + nn k by rw [List.length_append, brow_len])
      have hll : l.length ≤ 1048576 := by rw [HL.out]; exact hlb.out k hk
      have hm5 : nn k ≤ 1048576 := by have := totN_one (nn := nn) hkm; omega
      have hcall := Lib.hid (fun V (hV : Below w.heap.size w V) => iBoxOk_any W C hWC.1 hWC.2 n z HPC.out.2 p c g o (a (k * 3)) (a (k * 3 + 1)) (nn k) hm5 (xx k) (some sa) sc V ((HL0.out.below hV (Nat.le_refl _)).wide (Nat.le_refl _) hV.size) (hrdH.out.later hV))
      obtain ⟨news, hnews⟩ : ∃ news, news = (List.range (nn k)).map (fun j => Value.int .i64 (xx k j)) := ⟨_, rfl⟩
      obtain ⟨nl, hnl⟩ : ∃ nl, nl = l ++ brow (xx k) (nn k) := ⟨_, rfl⟩
      rw [← hnews] at HSRC HLEN HONE HXL
      rw [← hnl] at HXL HL2 HLL
      have HNO := Lib.hid (fun (hh : ¬ bxOk W C n z (a (k * 3)) (a (k * 3 + 1)) (nn k) (xx k)) => decide_eq_false (p := bxsOk W C n z m a nn xx) (fun h => hh (h.2.1 k hkm)))
      have HYE := Lib.hid (fun (hh : bxOk W C n z (a (k * 3)) (a (k * 3 + 1)) (nn k) (xx k)) (j : Nat) (hj : j < k + 1) => show bxOk W C n z (a (j * 3)) (a (j * 3 + 1)) (nn j) (xx j) from by
        by_cases e : j = k
        · subst e; exact hh
        · exact HP.out j (by omega))
      obtain ⟨t, ht⟩ : ∃ t, t = decide (bxOk W C n z (a (k * 3)) (a (k * 3 + 1)) (nn k) (xx k)) := ⟨_, rfl⟩
      rw [← ht] at hcall
      have HT := Lib.hid ht
      obtain ⟨q, hq⟩ : ∃ q, q = nn k := ⟨_, rfl⟩
      rw [← hq] at u2 HLEN HLL hm5 hcall
      obtain ⟨v0, hv0⟩ : ∃ v, v = a (k * 3) := ⟨_, rfl⟩
      obtain ⟨v1, hv1⟩ : ∃ v, v = a (k * 3 + 1) := ⟨_, rfl⟩
      rw [← hv0] at u0 hcall
      rw [← hv1] at u1 hcall
      have hk0 : (0 : Int) ≤ (k : Int) := by omega
      have hkl : (k : Int) < (m : Int) := by omega
      have hwk : IntKind.i64.wrap ((k : Int) + 1) = (k : Int) + 1 := IntWalk.i64_in _ (by omega)
      have hne : w.heap.size ≠ wr.heap.size := by omega
      have HA := Lib.hid (show Below w1.heap.size w1 (wr.alloc (.cells #[.int .i64 v0, .int .i64 v1, .slice (some sa) q sc] 74)) from HB.out.alloc hszw _)
      have HAW := Lib.hid (B1.out.trans (HA.out.mono B1.out.size))
      have HOA := Lib.hid (show (wr.alloc (.cells #[.int .i64 v0, .int .i64 v1, .slice (some sa) q sc] 74)).ownsRow w1.heap.size 3 1 (.slice pq l.length cq) l.length (l.map (.int .i64)) from HOW.out.alloc _)
      have XA := Lib.hid (show (wr.alloc (.cells #[.int .i64 v0, .int .i64 v1, .slice (some sa) q sc] 74)).heap[wr.heap.size]? = some (.cells #[.int .i64 v0, .int .i64 v1, .slice (some sa) q sc] 74) from heap_new _ _ _ rfl)
      obtain ⟨r0, r1⟩ := cellsL2 ((HA.out.block w.heap.size (by omega)).trans X1.out)
      clear hf5 hsrc hnews hnl hq hv0 hv1 e51 se HL ht HP hrdH hrd0
      cases t
      · have HN := Lib.hid (HNO.out (fun h => by rw [decide_eq_true h] at HT; cases HT.out))
        clear HNO HYE HT
        go_wp2_with (go_at_call 68; refine (hcall.out _ HAW.out).mono ?_; rintro e w4 ⟨rfl, hb4⟩)
        go_ret
        exact ⟨by rw [HN.out]; first | done | rfl, HAW.out.trans (hb4.mono HAW.out.size)⟩
      · have HP2 := Lib.hid (HYE.out (of_decide_eq_true HT.out.symm))
        clear HNO HYE HT
        go_wp2_with (first
          | (go_at_call 68; refine (hcall.out _ HAW.out).mono ?_; rintro e w4 ⟨rfl, hb4⟩; have b4 : Below w1.heap.size w1 w4 := HA.out.trans (hb4.mono HA.out.size); have b4w := B1.out.trans (b4.mono B1.out.size); have s4 := b4.size; have own4 := ownBX_later HOA.out hb4; have x4 := (hb4.block wr.heap.size (by simp)).trans XA.out; obtain ⟨x0, x1, x2, -, -, -⟩ := cells3P x4)
          | (at_builtin; refine wpList_append_own _ rfl _ _ 35 rfl w1.heap.size 3 i0 (.int .i64 0) 1 8 Try.underlying35 hi hz0 hz1 hz2 rfl (by decide) _ l.length _ rfl own4 sa q sc news rfl HLEN.out (HSRC.out _ b4w) HONE.out (by unfold maxLen; omega) (by omega) (by omega) ?_; intro v' w5 hown5 hgrow5 hnil5))
        go_roundw
        case rel =>
          obtain ⟨pz, cz, rfl⟩ : ∃ pz cz, v' = .slice pz (l.length + q) cz := by
            rcases hown5.2 with ⟨rfl, h0⟩ | ⟨gz, cz, _, rfl, -⟩
            · exact ⟨none, 0, by rw [h0]⟩
            · exact ⟨_, _, rfl⟩
          refine ⟨k + 1, pz, cz, nl, by omega, by congr 1, by rw [HLL.out], by rw [HXL.out, HLL.out]; exact hown5, HL2.out, HP2.out, ?_⟩
          exact Below.grown b4 hgrow5 (by omega) (fun j hj => (own4.lt j hj).1)
        case measure => simp only [intOf]; omega
    · obtain rfl : k = m := by omega
      obtain ⟨gq, hfq⟩ : ∃ gq, FlatAt wr w1.heap.size wr.heap.size pq gq 0 l.length (fun j => .int .i64 (l.getD j 0)) := by
        obtain ⟨gq, h1, -⟩ := FlatAt.of_own (f := fun j => .int .i64 (l.getD j 0)) HOW.out (fun j hj => by
          rw [List.getElem?_map, List.getElem?_eq_getElem (show j < l.length by omega), List.getD_eq_getElem?_getD, List.getElem?_eq_getElem (show j < l.length by omega)]; rfl)
        rw [Nat.mul_one] at h1
        exact ⟨gq, h1⟩
      have hll : l.length ≤ 1048576 := by rw [HL.out]; exact hlb.out k (by omega)
      have hdf := Lib.hid (iDiffer_any l.length (by omega) (fun j => l.getD j 0) pq cq gq 0 wr (hfq.wide (Nat.zero_le _) (Nat.le_refl _)) (fun j hj => by
        show (Lit.int .i64 (l.getD j 0)).wf = true
        rw [List.getD_eq_getElem?_getD, List.getElem?_eq_getElem hj]
        refine bagN_wf (nn := nn) (xx := xx) (n := k) HWX.out _ ?_
        rw [← HL.out]
        exact List.getElem_mem hj))
      have HE := Lib.hid (show bxsOk W C n z k a nn xx ↔ l.length = n ∧ l.Nodup from by
        unfold bxsOk
        rw [← HL.out]
        exact ⟨fun h => h.2.2, fun h => ⟨HPC.out, HP.out, h⟩⟩)
      clear hfq
      by_cases hln : l.length = n
      · have hlb : ((l.length : Int) == (n : Int)) = true := by rw [beq_iff_eq]; omega
        have hdd : decide (dif (fun j => l.getD j 0) l.length) = decide (bxsOk W C n z k a nn xx) := decide_eq_decide.2 ((dif_list l).trans ⟨fun h => HE.out.2 ⟨hln, h⟩, fun h => (HE.out.1 h).2⟩)
        rw [hdd] at hdf
        clear hdd HE hln
        go_wp2_with (go_at_call 69; refine hdf.out.mono ?_; rintro e w4 ⟨rfl, hb4⟩)
        go_ret
        exact ⟨rfl, HBW.out.trans (hb4.mono HBW.out.size)⟩
      · have hlb : ((l.length : Int) == (n : Int)) = false := by rw [beq_eq_false_iff_ne]; omega
        have HN := Lib.hid (decide_eq_false (fun h => hln (HE.out.1 h).1))
        clear HE hdf hln
        go_wp2_with fail
        go_ret
        exact ⟨by rw [HN.out]; first | done | rfl, HBW.out⟩

end Go.Proofs.Ytnkhjlpeeljelaa
