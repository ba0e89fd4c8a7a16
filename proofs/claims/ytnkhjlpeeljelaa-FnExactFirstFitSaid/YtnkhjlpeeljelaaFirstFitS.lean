/- What the model's FirstFit returns. -/
import Derived.Test.YtnkhjlpeeljelaaFirstFitI
import Derived.Test.YtnkhjlpeeljelaaWithS
import Derived.Test.YtnkhjlpeeljelaaPiecesOkS
import Derived.Test.YtnkhjlpeeljelaaLater
namespace Go.Proofs.Ytnkhjlpeeljelaa
open Go.RowKit
set_option linter.unusedVariables false

theorem own_lowerF {w : World} {B B' : Nat} {e : TypeId} {k : Nat} {v : Value} {n : Nat} {xs : List Value} (h : w.ownsRow B e k v n xs) (hB : B' ≤ B) : w.ownsRow B' e k v n xs := by
  obtain ⟨a, b⟩ := h
  refine ⟨a, ?_⟩
  rcases b with b | ⟨g, cap, cur, e1, e2, e3⟩
  · exact .inl b
  · exact .inr ⟨g, cap, cur, e1, by omega, e3⟩
theorem below_undrew {w w' : World} (h : Below w.drew.heap.size w.drew w') : Below w.heap.size w w' := ⟨h.os, h.tape, h.output, h.size, h.block⟩
/-- The first place where t holds is the only one of its kind. -/
theorem ixR_at {n : Nat} {t : Nat → Bool} {r : Nat} (h : IxR n t (if r < n then (r : Int) else -1)) {j : Nat} (hj : j < n) (ht : t j = true) (hf : ∀ q, q < j → t q = false) : r < n ∧ r = j := by
  by_cases hr : r < n
  · rw [if_pos hr] at h
    refine ⟨hr, ?_⟩
    rcases h with ⟨k, h1, e, h3, h4⟩ | ⟨e, -⟩
    · have e' : r = k := by omega
      subst e'
      rcases Nat.lt_trichotomy r j with hl | hl | hl
      · exact absurd (h3.symm.trans (hf r hl)) (by decide)
      · exact hl
      · exact absurd (ht.symm.trans (h4 j hl)) (by decide)
    · omega
  · rw [if_neg hr] at h
    rcases h with ⟨k, h1, e, -⟩ | ⟨-, h1⟩
    · omega
    · exact absurd (ht.symm.trans (h1 j hj)) (by decide)
theorem ixR_none {n : Nat} {t : Nat → Bool} {r : Nat} (h : IxR n t (if r < n then (r : Int) else -1)) (hf : ∀ q, q < n → t q = false) : ¬ r < n := by
  intro hr
  rw [if_pos hr] at h
  rcases h with ⟨k, h1, e, h3, -⟩ | ⟨e, -⟩
  · exact absurd (h3.symm.trans (hf k h1)) (by decide)
  · omega
theorem set_last (L : List Bx) (x y : Bx) : (L ++ [x]).set L.length y = L ++ [y] := by
  rw [List.set_append_right _ _ (Nat.le_refl _), Nat.sub_self]; rfl

set_option maxRecDepth 100000 in
set_option maxHeartbeats 16000000 in
theorem sFirstFit_any (W C : Int) (n : Nat) (hn : n ≤ maxLen) (z : Nat → Int) (p : Option Addr) (c g o : Nat) (w : World) (h : FlatAt w 0 w.heap.size p g o (n * 3) (fun j => .int .i64 (z j))) :
    Calls Try.prog 43 #[.agg #[.int .i64 W, .int .i64 C], .slice p n c] w fun e w' => ∃ v, e = .returned v ∧ BxO w' w.heap.size v (ffB W C n z) ∧ Below w.heap.size w w' := by
  obtain ⟨i0, hi, hz0, hz1, hz2⟩ := info_parts infoBoxF
  have ck := cellsBox
  have cp := cellsPiece
  have hp := Lib.hid (fun V (hV : Below w.heap.size w V) => sPiecesOk_any n hn z p c g o V ((h.below hV (Nat.le_refl _)).wide (Nat.le_refl _) hV.size))
  have hl := Lib.hid (fun V (hV : Below w.heap.size w V) => sLimitsOk_any W C V)
  have HF := Lib.hid h
  clear h
  obtain ⟨w1, hw1⟩ : ∃ x, x = w.alloc (.cells #[.int .i64 W, .int .i64 C] 25) := ⟨_, rfl⟩
  have X1 := Lib.hid (show w1.heap[w.heap.size]? = some (.cells #[.int .i64 W, .int .i64 C] 25 (0, 0)) from by rw [hw1]; exact heap_new _ _ _ rfl)
  have B1 := Lib.hid (show Below w.heap.size w w1 from by rw [hw1]; exact (Below.refl _ _).alloc (Nat.le_refl _) _)
  have S1 : w1.heap.size = w.heap.size + 1 := by rw [hw1]; simp
  have HS1e := Lib.hid S1
  have HS1 := Lib.hid (show w.heap.size ≤ w1.heap.size by omega)
  obtain ⟨w2, hw2⟩ : ∃ x, x = w1.alloc (.cells #[] 74) := ⟨_, rfl⟩
  have B2 := Lib.hid (show Below w1.heap.size w1 w2 from by rw [hw2]; exact (Below.refl _ _).alloc (Nat.le_refl _) _)
  have HW2 := Lib.hid (show (w.alloc (.cells #[.int .i64 W, .int .i64 C] 25)).alloc (.cells #[] 74) = w2 from by rw [hw2, hw1])
  have O2 := Lib.hid (show BxO w2 w1.heap.size (.slice (some ⟨w1.heap.size, 0, none⟩) 0 0) [] from by rw [hw2]; exact BxO.nil w1 _ (Nat.le_refl _))
  have B2w := Lib.hid (B1.out.trans (B2.out.mono B1.out.size))
  obtain ⟨q0, q1⟩ := cellsL2 ((B2.out.block w.heap.size (by omega)).trans X1.out)
  clear hw1 hw2
  by_cases h1 : liB W C = true
  rotate_left
  · have HN := Lib.hid (show ffB W C n z = [] from if_neg (fun h => h1 (by simp only [Bool.and_eq_true] at h; exact h.1)))
    have h1 : liB W C = false := by simpa using h1
    rw [h1] at hl
    clear hp h1
    go_enter Try.func43, Try.ntmps43
    go_upto_region 2 with fail
    rw [HW2.out]
    go_wp2_with (go_at_call 15; refine (hl.out _ B2w.out).mono ?_; rintro e w3 ⟨rfl, hb⟩)
    go_ret
    exact ⟨_, rfl, by rw [HN.out, ← HS1e.out]; exact ((O2.out.later hb).lower HS1.out), B2w.out.trans (hb.mono B2w.out.size)⟩
  rw [h1] at hl
  by_cases h2 : pcsOk n z
  rotate_left
  · have HN := Lib.hid (show ffB W C n z = [] from if_neg (fun h => h2 (by simp only [Bool.and_eq_true, decide_eq_true_eq] at h; exact h.2)))
    rw [decide_eq_false h2] at hp
    clear h1 h2
    go_enter Try.func43, Try.ntmps43
    go_upto_region 2 with fail
    rw [HW2.out]
    go_wp2_with (first
      | (go_at_call 15; refine (hl.out _ B2w.out).mono ?_; rintro e w3 ⟨rfl, hb⟩; have hb2 := B2w.out.trans (hb.mono B2w.out.size))
      | (go_at_call 19; refine (hp.out _ hb2).mono ?_; rintro e w4 ⟨rfl, hb4⟩))
    go_ret
    exact ⟨_, rfl, by rw [HN.out, ← HS1e.out]; exact (((O2.out.later hb).later hb4).lower HS1.out), hb2.trans (hb4.mono hb2.size)⟩
  rw [decide_eq_true h2] at hp
  have HE := Lib.hid (show ffB W C n z = ffL W C z n from if_pos (by rw [h1, decide_eq_true h2]; rfl))
  have hn40 := h2.1
  have HWC := Lib.hid h2.2.1
  clear h1 h2
  go_enter Try.func43, Try.ntmps43
  go_upto_region 2 with fail
  rw [HW2.out]
  go_wp2_with (first
      | (go_at_call 15; refine (hl.out _ B2w.out).mono ?_; rintro e w3 ⟨rfl, hb⟩; have hb2 := B2w.out.trans (hb.mono B2w.out.size))
      | (go_at_call 19; refine (hp.out _ hb2).mono ?_; rintro e w4 ⟨rfl, hb4⟩))
  have HB4 := Lib.hid (B2.out.trans ((hb.trans (hb4.mono hb.size)).mono B2.out.size))
  have O4 := Lib.hid ((O2.out.later hb).later hb4)
  clear hb hb4 hb2 hp hl O2 q0 q1
  go_loopw [5, 6] (fun bv iv wr => ∃ (k G cap m : Nat) (L : List Bx), k ≤ n ∧ iv = .int .i64 (k : Int) ∧ bv = .slice (some ⟨G, 0, none⟩) m cap ∧ Hid (m = L.length) ∧ Hid (L = ffL W C z k) ∧ Hid (BxO wr w1.heap.size (.slice (some ⟨G, 0, none⟩) m cap) L) ∧ Hid (Below w1.heap.size w1 wr)) (fun _ iv _ => n - (intOf iv).toNat)
  case atStart => exact ⟨0, w.heap.size + 1, 0, 0, [], by omega, rfl, rfl, rfl, rfl, by rw [← HS1e.out]; exact O4.out, HB4.out⟩
  case round =>
    obtain ⟨k, G, cap, m, L, hk, rfl, rfl, HM, HL, HO, HB⟩ := hrel
    have HBW := Lib.hid (B1.out.trans (HB.out.mono B1.out.size))
    have hszw := HB.out.size
    by_cases hkn : k < n
    · obtain ⟨rfl, -, hg⟩ := HF.out.1 (by omega)
      have hk0 : (0 : Int) ≤ (k : Int) := by omega
      have hkl : (k : Int) < (n : Int) := by omega
      have hwk : IntKind.i64.wrap ((k : Int) + 1) = (k : Int) + 1 := IntWalk.i64_in _ (by omega)
      have hin := ffL_in (W := W) (C := C) HWC.out k (by omega)
      rw [← HL.out] at hin
      have hpw := (HWC.out k hkn).1
      have HST := Lib.hid (show ffL W C z (k + 1) = ffStep W C L (z (k * 3)) (z (k * 3 + 1)) (z (k * 3 + 2)) from by rw [HL.out]; rfl)
      have hix := ffAt_ix W C L (z (k * 3 + 1)) (z (k * 3 + 2))
      rw [← HM.out] at hix
      have hpc3 := Lib.hid (fun V (hV : Below w.heap.size w V) => HF.out.at3 hV (Nat.le_refl _) k (by omega))
      obtain ⟨b, hb⟩ : ∃ x, x = z (k * 3) := ⟨_, rfl⟩
      obtain ⟨pw, hpw1⟩ : ∃ x, x = z (k * 3 + 1) := ⟨_, rfl⟩
      obtain ⟨pc, hpc1⟩ : ∃ x, x = z (k * 3 + 2) := ⟨_, rfl⟩
      rw [← hb, ← hpw1, ← hpc1] at hpc3 HST
      rw [← hpw1, ← hpc1] at hix
      rw [← hpw1] at hpw
      have HIN := Lib.hid hin
      have HIX := Lib.hid hix
      clear hb hpw1 hpc1 HL hin hix
      obtain ⟨wo, rfl⟩ : ∃ wo, wo = wr := ⟨_, rfl⟩
      go_wp2_with fail
      go_loopw [7] (fun jv wr => ∃ (j : Nat), j ≤ m ∧ jv = .int .i64 (j : Int) ∧ Hid (∀ q, q < j → tkX W C (L.getD q bxD) pw pc = false) ∧ Hid (Below wo.heap.size wo wr)) (fun jv _ => m - (intOf jv).toNat)
      case atStart => exact ⟨0, by omega, rfl, fun q hq => absurd hq (by omega), Below.refl _ _⟩
      case round =>
        obtain ⟨j, hj, rfl, HN, HBJ⟩ := hrel
        have HB5 := Lib.hid (HB.out.trans (HBJ.out.mono HB.out.size))
        have HB5w := Lib.hid (B1.out.trans (HB5.out.mono B1.out.size))
        have s5 := HB5.out.size
        have HPX := Lib.hid (HO.out.parts HBJ.out)
        obtain ⟨xs, s, o1, o2, o3, o4, o5⟩ := HPX.out
        have o1m := o1
        rw [← HM.out] at o1m
        obtain ⟨l0, l1⟩ := cellsL2 ((HB5.out.block w.heap.size (by omega)).trans X1.out)
        obtain ⟨a0, a1, a2⟩ := hpc3.out _ HB5w.out
        have hj0 : (0 : Int) ≤ (j : Int) := by omega
        have hm40 : m ≤ 100 := by have := HIN.out.1; rw [HM.out]; omega
        have hP := Lib.hid (And.intro o1 (And.intro o2 (And.intro o3 (And.intro o4 o5))))
        by_cases hjm : j < m
        · have hjl : (j : Int) < (m : Int) := by omega
          have hdj : decide ((j : Int) < (m : Int)) = true := decide_eq_true hjl
          have hwj : IntKind.i64.wrap ((j : Int) + 1) = (j : Int) + 1 := IntWalk.i64_in _ (by omega)
          have hjL : j < L.length := by rw [← HM.out]; exact hjm
          obtain ⟨e0, e1, e2⟩ := o2 j hjL
          have c0 := (o1m.cellAt (j * 3) (by omega)).trans e0
          have c1 := (o1m.cellAt (j * 3 + 1) (by omega)).trans e1
          have c2 := (o1m.cellAt (j * 3 + 2) (by omega)).trans e2
          have hoj := o3 j hjL
          have hxin := HIN.out.2 _ (getD_mem hjL)
          obtain ⟨x, hx⟩ : ∃ x, x = L.getD j bxD := ⟨_, rfl⟩
          rw [← hx] at c0 c1 hoj hxin
          obtain ⟨cl, wt, bg⟩ := x
          obtain ⟨ps, cs, hsj⟩ := own_sliceB hoj
          rw [hsj] at c2
          have hwt9 : 0 ≤ wt ∧ wt ≤ k * 60 := hxin.1
          have hbl : 1 ≤ bg.length ∧ bg.length ≤ k := hxin.2
          have HX := Lib.hid hx
          have HSJ := Lib.hid hsj
          have htk := Lib.hid (fun (q : Later wr) => Calls.later_of (sTakes_any W C cl wt ps bg.length cs b pw pc (by omega) (by omega) q.wd))
          have k0 := Later.cell c0
          have k1 := Later.cell c1
          have k2 := Later.cell c2
          have k3 := Later.cell l0
          have k4 := Later.cell l1
          have k5 := Later.cell a0
          have k6 := Later.cell a1
          have k7 := Later.cell a2
          clear c0 c1 c2 l0 l1 a0 a1 a2 e0 e1 e2 o1 o2 o3 o4 o5 o1m hoj hxin hx hsj
          rcases Bool.eq_false_or_eq_true (tkB W C cl wt bg.length pw pc) with ht | ht
          · -- the piece goes into box j
            have htX : tkX W C (L.getD j bxD) pw pc = true := by rw [← HX.out]; exact ht
            have hfa := ixR_at HIX.out hjm htX HN.out
            have hclpc : cl = pc := by
              unfold tkB at ht
              simp only [Bool.and_eq_true, decide_eq_true_eq] at ht
              exact ht.1
            have HST2 := Lib.hid (show ffL W C z (k + 1) = L.set j (pc, wt + pw, bg ++ [b]) from by
              refine HST.out.trans ((if_pos (by rw [← HM.out]; exact hfa.1)).trans ?_)
              rw [hfa.2, ← HX.out, ← hclpc])
            rw [ht] at htk
            have hwt : IntKind.i64.wrap (wt + pw) = wt + pw := IntWalk.i64_in _ (by omega)
            clear htX hfa ht hclpc
            go_wp2_with fail
            refine wp_region_later follows_mixed (by kernel_rfl) ?_
            repeat (first | go_big_quiet_step ((go_at_call 71; exact htk.out _)) | quiet_step ((go_at_call 71; exact htk.out _)))
            refine wpQuiet_nil ?_
            intro wq hw'
            have hq : Below wr.heap.size wr wq := by obtain ⟨p, e⟩ := hw'; rw [e]; exact p.h
            clear hw' k0 k1 k2 k3 k4 k5 k6 k7 htk
            have hjm2 : ((j : Int) == (m : Int)) = false := by rw [beq_eq_false_iff_ne]; omega
            have HQ := Lib.hid (HBJ.out.trans (hq.mono HBJ.out.size))
            have HQ1 := Lib.hid (HB.out.trans (HQ.out.mono HB.out.size))
            have HQw := Lib.hid (B1.out.trans (HQ1.out.mono B1.out.size))
            obtain ⟨xs, s, o1, o2, o3, o4, o5⟩ := HO.out.parts HQ.out
            have o1m := o1
            rw [← HM.out] at o1m
            obtain ⟨e0, e1, e2⟩ := o2 j hjL
            have c0 := (o1m.cellAt (j * 3) (by omega)).trans e0
            have c1 := (o1m.cellAt (j * 3 + 1) (by omega)).trans e1
            have c2 := (o1m.cellAt (j * 3 + 2) (by omega)).trans e2
            have hoj := o3 j hjL
            rw [← HX.out] at c0 c1 hoj
            obtain ⟨ps, cs, hsj⟩ := own_sliceB hoj
            rw [hsj] at c2 hoj
            obtain ⟨sa, rfl⟩ : ∃ sa, ps = some sa := by
              rcases hoj.2 with ⟨-, e⟩ | ⟨g', cap', cur', e, -⟩
              · exact absurd e (by show ¬ bg.length = 0; omega)
              · injection e with e; exact ⟨_, e⟩
            obtain ⟨a0, a1, a2⟩ := hpc3.out _ HQw.out
            have hsab : sa.block < wq.heap.size := (hoj.lt sa.block rfl).2
            have hsac : ∀ j u, (bg.map (Value.int .i64))[j]? = some u → wq.cell? (sa.add j) = some u := by
              rcases hoj.2 with ⟨e, -⟩ | ⟨g', cap', cur', e, -⟩
              · cases e
              · injection e with e1 e2 e3
                injection e1 with e1
                subst e1
                exact hoj.cells rfl
            have HP := Lib.hid (And.intro o1 (And.intro o2 (And.intro o3 o4)))
            have HSJ2 := Lib.hid hsj
            have hwp := Lib.hid (fun V (h1 : ∀ j u, (bg.map (Value.int .i64))[j]? = some u → V.cell? (sa.add j) = some u) (h2 : sa.block < V.heap.size) => sWith_some cl wt sa bg.length cs hbl.1 (by omega) bg rfl b pw pc hwt V h1 h2)
            have HSA := Lib.hid (And.intro hsac hsab)
            have hkeep := Lib.hid (fun V (hV : Below wq.heap.size wq V) => show V.ownsRow w1.heap.size 74 3 (.slice (some ⟨G, 0, none⟩) m cap) m xs from by
              have := own_keepB HP.out.1 (grownBy.of_below hV none) (fun q hq e => by cases e)
              rw [← HM.out] at this
              exact this)
            clear o1 o2 o3 o4 o5 e0 e1 e2 hsj hoj hsab hsac o1m hq
            go_wp2_with fail
            go_region_with (go_at_call 72; refine (hwp.out _ (by exact HSA.out.1) (by exact HSA.out.2)).mono ?_; rintro e w5 ⟨gn, cn, rfl, ho5, hb5⟩; have hb5' := below_undrew hb5; have k5 := hkeep.out w5 hb5'; have z0 := (k5.cellAt (j * 3) (by omega)).trans (HP.out.2.1 j hjL).1; have z1 := (k5.cellAt (j * 3 + 1) (by omega)).trans (HP.out.2.1 j hjL).2.1; have z2 := (k5.cellAt (j * 3 + 2) (by omega)).trans (HP.out.2.1 j hjL).2.2; have f0 := k5.frozenAt (j * 3); have f1 := k5.frozenAt (j * 3 + 1); have f2 := k5.frozenAt (j * 3 + 2))
            all_goals
              have HO5 := Lib.hid ho5
              have HG5 := Lib.hid hb5'
              clear ho5 hb5 hb5' k5 z0 z1 z2 f0 f1 f2
              go_wp2_with fail
              go_roundw
              case rel =>
                obtain ⟨p1, p2, p3, p4⟩ := HP.out
                rw [HM.out] at p1
                have hlen : (bg ++ [b]).length = bg.length + 1 := by simp
                have hput := BxO.put (x := (pc, wt + pw, bg ++ [b])) hjL p1 p2 p3 p4 (w2 := w5) (g := gn) (c := cn) (grownBy.of_below HG5.out _) (by
                  show w5.ownsRow w1.heap.size _ 1 (.slice _ (bg ++ [b]).length cn) (bg ++ [b]).length _
                  rw [hlen]
                  exact own_lowerF HO5.out (by exact HQ1.out.size)) (.inr (by exact (HO5.out.lt gn rfl).1))
                rw [show ((pc, wt + pw, bg ++ [b]) : Bx).2.2.length = bg.length + 1 from hlen] at hput
                have hGl := (p1.lt G rfl).1
                refine ⟨k + 1, G, cap, m, L.set j (pc, wt + pw, bg ++ [b]), by omega, by congr 1, rfl, by rw [List.length_set]; exact HM.out, HST2.out.symm, by rw [HM.out]; exact hput, ?_⟩
                have hb6 := HQ1.out.trans (HG5.out.mono HQ1.out.size)
                exact ((hb6.setCell (by show w1.heap.size ≤ G; exact hGl) _).setCell (by show w1.heap.size ≤ G; exact hGl) _).setCell (by show w1.heap.size ≤ G; exact hGl) _
              case measure => simp only [intOf]; omega
          · have htX : tkX W C (L.getD j bxD) pw pc = false := by rw [← HX.out]; exact ht
            have HN2 := Lib.hid (fun q (hq : q < j + 1) => show tkX W C (L.getD q bxD) pw pc = false from by
              by_cases e : q = j
              · subst e; exact htX
              · exact HN.out q (by omega))
            rw [ht] at htk
            clear htX ht
            go_wp2_with fail
            refine wp_region_later follows_mixed (by kernel_rfl) ?_
            repeat (first | go_big_quiet_step ((go_at_call 71; exact htk.out _)) | quiet_step ((go_at_call 71; exact htk.out _)))
            refine wpQuiet_nil ?_
            intro wq hw'
            have hq : Below wr.heap.size wr wq := by obtain ⟨p, e⟩ := hw'; rw [e]; exact p.h
            clear hw' k0 k1 k2 k3 k4 k5 k6 k7 htk
            have HQ := Lib.hid (HBJ.out.trans (hq.mono HBJ.out.size))
            clear hq
            go_wp2_with fail
            go_roundw
            case rel => exact ⟨j + 1, by omega, by congr 1, HN2.out, HQ.out⟩
            case measure => simp only [intOf]; omega
        · obtain rfl : j = m := by omega
          have hnf := ixR_none HIX.out HN.out
          have HST2 := Lib.hid (show ffL W C z (k + 1) = L ++ [(pc, pw, [b])] from HST.out.trans (if_neg (by rw [← HM.out]; exact hnf)))
          have hdj : decide ((j : Int) < (j : Int)) = false := decide_eq_false (by omega)
          clear hnf o1 o2 o3 o4 o5 o1m l0 l1 a0 a1 a2
          go_wp2_with fail
          refine wp_region_later follows_mixed (by kernel_rfl) ?_
          repeat (first | go_big_quiet_step (fail) | quiet_step (fail))
          refine wpQuiet_nil ?_
          intro wq hw'
          have hq : Below wr.heap.size wr wq := by obtain ⟨p, e⟩ := hw'; rw [e]; exact p.h
          clear hw'
          have HQ := Lib.hid (HBJ.out.trans (hq.mono HBJ.out.size))
          have HQ1 := Lib.hid (HB.out.trans (HQ.out.mono HB.out.size))
          have S6 := HQ1.out.size
          have HPP := Lib.hid (HO.out.parts (HQ.out.trans ((Below.refl _ _).alloc HQ.out.size (.cells #[.int .i64 0, .int .i64 0, .slice none 0 0] 74))))
          obtain ⟨xs, s, o1, o2, o3, o4, o5⟩ := HPP.out
          have o1m := o1
          rw [← HM.out] at o1m
          have HP := Lib.hid (And.intro o1 (And.intro o2 (And.intro o3 o4)))
          clear o1 o2 o3 o4 o5 hq
          go_wp2_with (at_builtin; refine wpList_append_own _ rfl _ _ 53 rfl w1.heap.size 74 i0 (.agg #[.int .i64 0, .int .i64 0, .slice none 0 0]) 3 40 Try.underlying53 hi hz0 hz1 hz2 rfl (by decide) _ j _ rfl o1m ⟨wq.heap.size, 0, none⟩ 1 1 [.int .i64 0, .int .i64 0, .slice none 0 0] rfl rfl (World.news_of_block (cs := #[.int .i64 0, .int .i64 0, .slice none 0 0]) (t := 74) (fr := (0, 0)) (heap_new _ _ _ rfl)) (by intro u hu; simp at hu; rcases hu with rfl | rfl | rfl <;> rfl) (by unfold maxLen; omega) (by omega) (by simp; omega) ?_; intro v' w7 hown7 hgrow7 _)
          obtain ⟨g4, c4, rfl⟩ := ownsRow_succ hown7
          have hpush := BxO.pushP (x := (0, 0, [])) HP.out.1 HP.out.2.1 HP.out.2.2.1 HP.out.2.2.2 (sv := .slice none 0 0) (World.ownsRow_nil _ _ _ 1) (fun i hi q hq e => by cases e) (by have h9 := hown7; rw [HM.out] at h9; exact h9) hgrow7
          have B7 := Lib.hid (Below.grown (HQ1.out.alloc S6 _) hgrow7 (by simp; omega) (fun q hq => (o1m.lt q hq).1))
          have B7w := Lib.hid (B1.out.trans (B7.out.mono B1.out.size))
          have HPU := Lib.hid hpush
          obtain ⟨L2, hL2⟩ : ∃ L2 : List Bx, L2 = L ++ [(0, 0, [])] := ⟨_, rfl⟩
          rw [← hL2] at HPU
          have HL2 := Lib.hid hL2
          have HM2 := Lib.hid (show j + 1 = L2.length by rw [hL2, List.length_append, HM.out]; rfl)
          clear hown7 hgrow7 hpush hL2 o1m HPP
          have hjL : j < L2.length := by rw [← HM2.out]; omega
          obtain ⟨s, hs9, o1, o2, o3, o4⟩ := HPU.out
          obtain ⟨xs, hxs⟩ : ∃ xs9 : List Value, xs9 = xs ++ [.int .i64 0, .int .i64 0, .slice none 0 0] := ⟨_, rfl⟩
          rw [← hxs] at o1 o2
          rw [← HM.out] at o1
          have o1m := o1
          rw [← HM2.out] at o1m
          have HX := Lib.hid (show L2.getD j bxD = (0, 0, []) by rw [HL2.out, getD_push, if_pos HM.out])
          obtain ⟨e0, e1, e2⟩ := o2 j hjL
          have c0 := (o1m.cellAt (j * 3) (by omega)).trans e0
          have c1 := (o1m.cellAt (j * 3 + 1) (by omega)).trans e1
          have c2 := (o1m.cellAt (j * 3 + 2) (by omega)).trans e2
          have hoj := o3 j hjL
          rw [HX.out] at c0 c1 hoj
          have hsj : s j = .slice none 0 0 := by rw [HM.out]; exact hs9
          rw [hsj] at c2
          obtain ⟨a0, a1, a2⟩ := hpc3.out _ B7w.out
          have HP2 := Lib.hid (And.intro o1 (And.intro o2 (And.intro o3 o4)))
          have hwp := Lib.hid (fun V => sWith_nil 0 0 b pw pc (by rw [Int.zero_add]; exact IntWalk.i64_in _ (by omega)) V)
          simp only [Int.zero_add] at hwp
          have hkeep := Lib.hid (fun V (hV : Below w7.heap.size w7 V) => show V.ownsRow w1.heap.size 74 3 (.slice (some ⟨g4, 0, none⟩) (j + 1) c4) (j + 1) xs from by
            have := own_keepB HP2.out.1 (grownBy.of_below hV none) (fun q hq e => by cases e)
            rw [← HM2.out] at this
            exact this)
          have hjl1 : (j : Int) < ((j + 1 : Nat) : Int) := by omega
          have hjl2 : (j : Int) < (j : Int) + 1 := by omega
          clear o1 o2 o3 o4 e0 e1 e2 hsj hoj o1m hs9 hxs
          go_wp2_with fail
          go_region_with (go_at_call 72; refine (hwp.out _).mono ?_; rintro e w5 ⟨gn, cn, rfl, ho5, hb5⟩; have hb5' := below_undrew hb5; have k5 := hkeep.out w5 hb5'; have z0 := (k5.cellAt (j * 3) (by omega)).trans (HP2.out.2.1 j hjL).1; have z1 := (k5.cellAt (j * 3 + 1) (by omega)).trans (HP2.out.2.1 j hjL).2.1; have z2 := (k5.cellAt (j * 3 + 2) (by omega)).trans (HP2.out.2.1 j hjL).2.2; have f0 := k5.frozenAt (j * 3); have f1 := k5.frozenAt (j * 3 + 1); have f2 := k5.frozenAt (j * 3 + 2))
          all_goals
            have HO5 := Lib.hid ho5
            have HG5 := Lib.hid hb5'
            clear ho5 hb5 hb5' k5 z0 z1 z2 f0 f1 f2
            go_wp2_with fail
            go_roundw
            case rel =>
              obtain ⟨p1, p2, p3, p4⟩ := HP2.out
              have hlm : L2.length = j + 1 := HM2.out.symm
              rw [HM2.out] at p1
              have hput := BxO.put (x := (pc, pw, [b])) (cap := c4) (G := g4) hjL p1 p2 p3 p4 (w2 := w5) (g := gn) (c := cn) (grownBy.of_below HG5.out _) (own_lowerF HO5.out (by exact B7.out.size)) (.inr (by exact (HO5.out.lt gn rfl).1))
              have hGl := (p1.lt g4 rfl).1
              rw [show L2.set j (pc, pw, [b]) = L ++ [(pc, pw, [b])] from by rw [HL2.out, HM.out]; exact set_last L _ _, hlm] at hput
              refine ⟨k + 1, g4, c4, j + 1, L ++ [(pc, pw, [b])], by omega, by congr 1, rfl, by rw [List.length_append, HM.out]; rfl, HST2.out.symm, hput, ?_⟩
              have hb6 := B7.out.trans (HG5.out.mono B7.out.size)
              exact ((hb6.setCell (by show w1.heap.size ≤ g4; exact hGl) _).setCell (by show w1.heap.size ≤ g4; exact hGl) _).setCell (by show w1.heap.size ≤ g4; exact hGl) _
            case measure => simp only [intOf]; omega
    · obtain rfl : k = n := by omega
      have HR := Lib.hid (HE.out.trans HL.out.symm)
      go_wp2_with fail
      go_ret
      exact ⟨_, rfl, by rw [HR.out]; exact HO.out.lower HS1.out, HBW.out⟩

end Go.Proofs.Ytnkhjlpeeljelaa
