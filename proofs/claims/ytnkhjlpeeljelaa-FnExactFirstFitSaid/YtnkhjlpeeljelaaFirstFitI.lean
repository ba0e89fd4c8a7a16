/- What the program's FirstFit returns. -/
import Derived.Test.YtnkhjlpeeljelaaBoxIx
import Derived.Test.YtnkhjlpeeljelaaWithPiece
import Derived.Test.YtnkhjlpeeljelaaCanPack
import Derived.BigQuiet
import Derived.Deep.QuietTactic
import Derived.Deep.RegionWith
namespace Go.Proofs.Ytnkhjlpeeljelaa
open Go.RowKit
set_option linter.unusedVariables false

theorem grown_undrew {w w' : World} {r : Option Nat} (h : w.drew.grownBy w' r) : w.grownBy w' r := ⟨h.os, h.tape, h.output, h.size, h.block⟩
theorem infoBoxF : (Try.prog.info? 74).map (fun i => (i.zero, i.size, i.bytes)) = some (some (.agg #[.int .i64 0, .int .i64 0, .slice none 0 0]), 3, 40) := by kernel_rfl
/-- The boxes that FirstFit makes of the pieces. -/
def ffB (W C : Int) (n : Nat) (z : Nat → Int) : List Bx := if (liB W C && decide (pcsOk n z)) = true then ffL W C z n else []
theorem ffB_in (W C : Int) (n : Nat) (z : Nat → Int) : (ffB W C n z).length ≤ 40 ∧ ∀ i, i < (ffB W C n z).length → ((ffB W C n z).getD i bxD).2.2.length ≤ 40 := by
  unfold ffB
  split
  · rename_i h
    have hb : liB W C = true ∧ pcsOk n z := by simpa using h
    have h1 := ffL_in (W := W) (C := C) hb.2.2.1 n (Nat.le_refl _)
    have h40 := hb.2.1
    refine ⟨by omega, fun i hi => ?_⟩
    have := h1.2 _ (getD_mem hi)
    omega
  · exact ⟨by simp, fun i hi => absurd hi (by simp)⟩
theorem BxO.empty (w : World) (B : Nat) : BxO w B (.slice none 0 0) [] :=
  ⟨[], fun _ => .slice none 0 0, World.ownsRow_nil w B _ 3, fun i hi => absurd hi (by simp), fun i hi => absurd hi (by simp), fun i j _ hj => absurd hj (by simp)⟩
theorem BxO.lower {w : World} {B B' : Nat} {v : Value} {L : List Bx} (h : BxO w B v L) (hB : B' ≤ B) : BxO w B' v L := by
  obtain ⟨xs, s, h1, h2, h3, h4⟩ := h
  have hl : ∀ {e : TypeId} {k : Nat} {v : Value} {n : Nat} {xs : List Value}, w.ownsRow B e k v n xs → w.ownsRow B' e k v n xs := fun h => by
    obtain ⟨a, b⟩ := h
    refine ⟨a, ?_⟩
    rcases b with b | ⟨g, cap, cur, e1, e2, e3⟩
    · exact .inl b
    · exact .inr ⟨g, cap, cur, e1, by omega, e3⟩
  exact ⟨xs, s, hl h1, h2, fun i hi => hl (h3 i hi), h4⟩

set_option maxRecDepth 100000 in
set_option maxHeartbeats 16000000 in
theorem iFirstFit_any (W C : Int) (n : Nat) (hn : n ≤ maxLen) (z : Nat → Int) (p : Option Addr) (c g o : Nat) (w : World) (h : FlatAt w 0 w.heap.size p g o (n * 3) (fun j => .int .i64 (z j))) (hwf : ∀ j, j < n * 3 → (Lit.int .i64 (z j)).wf = true) :
    Calls Try.prog 44 #[.agg #[.int .i64 W, .int .i64 C], .slice p n c] w fun e w' => ∃ v, e = .returned v ∧ BxO w' w.heap.size v (ffB W C n z) ∧ Below w.heap.size w w' := by
  obtain ⟨i0, hi, hz0, hz1, hz2⟩ := info_parts infoBoxF
  have ck := cellsBox
  have cp := cellsPiece
  have hp := Lib.hid (fun V (hV : Below w.heap.size w V) => iCanPack_any W C n hn z p c g o V ((h.below hV (Nat.le_refl _)).wide (Nat.le_refl _) hV.size) hwf)
  have HF := Lib.hid h
  clear h hwf
  obtain ⟨w1, hw1⟩ : ∃ x, x = w.alloc (.cells #[.int .i64 W, .int .i64 C] 25) := ⟨_, rfl⟩
  have X1 := Lib.hid (show w1.heap[w.heap.size]? = some (.cells #[.int .i64 W, .int .i64 C] 25 (0, 0)) from by rw [hw1]; exact heap_new _ _ _ rfl)
  have B1 := Lib.hid (show Below w.heap.size w w1 from by rw [hw1]; exact (Below.refl _ _).alloc (Nat.le_refl _) _)
  have S1 : w1.heap.size = w.heap.size + 1 := by rw [hw1]; simp
  have HW1 := Lib.hid hw1
  clear hw1
  obtain ⟨l, hl0⟩ : ∃ l, l = (liB W C && decide (pcsOk n z)) := ⟨_, rfl⟩
  rw [← hl0] at hp
  cases l
  · have HN := Lib.hid (show ffB W C n z = [] from if_neg (by rw [← hl0]; decide))
    clear hl0
    go_enter Try.func44, Try.ntmps44
    go_wp2_with (go_at_call 62; rw [← HW1.out]; refine (hp.out _ B1.out).mono ?_; rintro e w2 ⟨rfl, hb⟩)
    go_ret
    exact ⟨_, rfl, by rw [HN.out]; exact BxO.empty _ _, B1.out.trans (hb.mono B1.out.size)⟩
  have HE := Lib.hid (show ffB W C n z = ffL W C z n from if_pos hl0.symm)
  have hboth : liB W C = true ∧ pcsOk n z := by simpa using hl0
  have hn40 := hboth.2.1
  have HWC := Lib.hid hboth.2.2.1
  clear hl0 hboth
  go_enter Try.func44, Try.ntmps44
  go_wp2_with (go_at_call 62; rw [← HW1.out]; refine (hp.out _ B1.out).mono ?_; rintro e w2 ⟨rfl, hb⟩)
  have HB2 := Lib.hid hb
  have S2 := hb.size
  clear hb hp
  go_loopw [5, 16] (fun bv iv wr => ∃ (k G cap m : Nat) (L : List Bx), k ≤ n ∧ iv = .int .i64 (k : Int) ∧ bv = .slice (some ⟨G, 0, none⟩) m cap ∧ Hid (m = L.length) ∧ Hid (L = ffL W C z k) ∧ Hid (BxO wr w1.heap.size (.slice (some ⟨G, 0, none⟩) m cap) L) ∧ Hid (Below w1.heap.size w1 wr)) (fun _ iv _ => n - (intOf iv).toNat)
  case atStart => exact ⟨0, w2.heap.size, 0, 0, [], by omega, rfl, rfl, rfl, rfl, BxO.nil w2 w1.heap.size S2, HB2.out.alloc S2 _⟩
  case round =>
    obtain ⟨k, G, cap, m, L, hk, rfl, rfl, HM, HL, HO, HB⟩ := hrel
    have HBW := Lib.hid (B1.out.trans (HB.out.mono B1.out.size))
    have hszw := HB.out.size
    by_cases hkn : k < n
    · obtain ⟨rfl, -, hg⟩ := HF.out.1 (by omega)
      obtain ⟨a0, a1, a2⟩ := HF.out.at3 HBW.out (Nat.le_refl _) k (by omega)
      have hk0 : (0 : Int) ≤ (k : Int) := by omega
      have hkl : (k : Int) < (n : Int) := by omega
      have hwk : IntKind.i64.wrap ((k : Int) + 1) = (k : Int) + 1 := IntWalk.i64_in _ (by omega)
      have hin := ffL_in (W := W) (C := C) HWC.out k (by omega)
      rw [← HL.out] at hin
      have hpw := (HWC.out k hkn).1
      have HST := Lib.hid (show ffL W C z (k + 1) = ffStep W C L (z (k * 3)) (z (k * 3 + 1)) (z (k * 3 + 2)) from by rw [HL.out]; rfl)
      have hix := ffAt_ix W C L (z (k * 3 + 1)) (z (k * 3 + 2))
      obtain ⟨b, hb⟩ : ∃ x, x = z (k * 3) := ⟨_, rfl⟩
      obtain ⟨pw, hpw1⟩ : ∃ x, x = z (k * 3 + 1) := ⟨_, rfl⟩
      obtain ⟨pc, hpc1⟩ : ∃ x, x = z (k * 3 + 2) := ⟨_, rfl⟩
      rw [← hb] at a0 HST
      rw [← hpw1] at a1 HST hix hpw
      rw [← hpc1] at a2 HST hix
      have HIN := Lib.hid hin
      clear hb hpw1 hpc1 HL hin
      -- the world with the piece
      have HA := Lib.hid (show Below w1.heap.size w1 (wr.alloc (.cells #[.int .i64 b, .int .i64 pw, .int .i64 pc] 62)) from HB.out.alloc hszw _)
      have XP := Lib.hid (show (wr.alloc (.cells #[.int .i64 b, .int .i64 pw, .int .i64 pc] 62)).heap[wr.heap.size]? = some (.cells #[.int .i64 b, .int .i64 pw, .int .i64 pc] 62 (0, 0)) from heap_new _ _ _ rfl)
      have XL := Lib.hid ((HA.out.block w.heap.size (by omega)).trans X1.out)
      have HOA := Lib.hid (HO.out.later ((Below.refl _ _).alloc (Nat.le_refl _) (.cells #[.int .i64 b, .int .i64 pw, .int .i64 pc] 62)))
      obtain ⟨xs, s, o1, o2, o3, o4⟩ := HOA.out
      rw [← HM.out] at o1
      have hsl : ∀ i, ∃ (pp : Option Addr) (cc : Nat), i < L.length → s i = .slice pp (L.getD i bxD).2.2.length cc := fun i => by
        by_cases hi : i < L.length
        · obtain ⟨pp, cc, e⟩ := own_sliceB (o3 i hi)
          exact ⟨pp, cc, fun _ => e⟩
        · exact ⟨none, 0, fun h => absurd h hi⟩
      obtain ⟨pp, hpp⟩ := Classical.axiomOfChoice hsl
      obtain ⟨cc, hcc⟩ := Classical.axiomOfChoice hpp
      have hcell := fun i (hi : i < m) => show (wr.alloc (.cells #[.int .i64 b, .int .i64 pw, .int .i64 pc] 62)).cell? ⟨G, i * 3, none⟩ = some (.int .i64 (L.getD i bxD).1) ∧ (wr.alloc (.cells #[.int .i64 b, .int .i64 pw, .int .i64 pc] 62)).cell? ⟨G, i * 3 + 1, none⟩ = some (.int .i64 (L.getD i bxD).2.1) ∧ (wr.alloc (.cells #[.int .i64 b, .int .i64 pw, .int .i64 pc] 62)).cell? ⟨G, i * 3 + 2, none⟩ = some (.slice (pp i) (L.getD i bxD).2.2.length (cc i)) from by
        have hi2 : i < L.length := by rw [← HM.out]; exact hi
        obtain ⟨e0, e1, e2⟩ := o2 i hi2
        rw [hcc i hi2] at e2
        exact ⟨(o1.cellAt _ (by omega)).trans e0, (o1.cellAt _ (by omega)).trans e1, (o1.cellAt _ (by omega)).trans e2⟩
      have hGl := o1.lt G rfl
      rw [← HM.out] at hix
      have hcall := Lib.hid (boxIx_any m (by have := HIN.out.1; rw [HM.out]; omega) (some ⟨G, 0, none⟩) cap G (fun i => (L.getD i bxD).1) (fun i => (L.getD i bxD).2.1) pp (fun i => (L.getD i bxD).2.2.length) cc W C b pw pc (by omega) w.heap.size wr.heap.size _ (fun _ => ⟨rfl, hGl.2⟩) hcell (fun i hi => by
        have := (HIN.out.2 _ (getD_mem (show i < L.length by rw [← HM.out]; exact hi))).1
        omega) XL.out XP.out _ hix)
      have HC := Lib.hid hcell
      clear hcell hsl hpp hix o1 o2 o3 o4 hcc hGl
      by_cases hfound : ffAt W C L pw pc < m
      · rw [if_pos hfound] at hcall
        have hfL : ffAt W C L pw pc < L.length := by rw [← HM.out]; exact hfound
        have HST2 := Lib.hid (show ffL W C z (k + 1) = L.set (ffAt W C L pw pc) ((L.getD (ffAt W C L pw pc) bxD).1, (L.getD (ffAt W C L pw pc) bxD).2.1 + pw, (L.getD (ffAt W C L pw pc) bxD).2.2 ++ [b]) from HST.out.trans (if_pos hfL))
        have hxin := HIN.out.2 _ (getD_mem hfL)
        obtain ⟨i, hi0⟩ : ∃ i, i = ffAt W C L pw pc := ⟨_, rfl⟩
        rw [← hi0] at hcall hfL HST2 hxin hfound
        have hi00 : (0 : Int) ≤ (i : Int) := by omega
        have him : (i : Int) < (m : Int) := by omega
        have hi1 : ((i : Int) == -1) = false := by simp
        have hm40 : m ≤ 100 := by have := HIN.out.1; rw [HM.out]; omega
        obtain ⟨x, hx⟩ : ∃ x, x = L.getD i bxD := ⟨_, rfl⟩
        rw [← hx] at hxin HST2
        obtain ⟨cl, wt, bg⟩ := x
        have hbl : bg.length ≤ 40 := by have := hxin.2.2; show bg.length ≤ 40; have : bg.length ≤ k := this; omega
        have hwt : IntKind.i64.wrap (wt + pw) = wt + pw := IntWalk.i64_in _ (by have h9 : 0 ≤ wt ∧ wt ≤ k * 60 := hxin.1; omega)
        have HX := Lib.hid hx
        clear HST hi0 hxin hx
        go_wp2_with (go_at_call 73; refine hcall.out.mono ?_; rintro e w4 ⟨rfl, hb4⟩; have x4 := blk_later XP.out hb4; obtain ⟨q0, q1, q2⟩ := cells3X x4)
        have B4 := Lib.hid (HA.out.trans (hb4.mono HA.out.size))
        obtain ⟨xs, s, o1, o2, o3, o4, o5⟩ := HOA.out.parts hb4
        have o1m := o1
        rw [← HM.out] at o1m
        obtain ⟨e0, e1, e2⟩ := o2 i hfL
        have c0 := (o1m.cellAt (i * 3) (by omega)).trans e0
        have c1 := (o1m.cellAt (i * 3 + 1) (by omega)).trans e1
        have c2 := (o1m.cellAt (i * 3 + 2) (by omega)).trans e2
        have hoi := o3 i hfL
        obtain ⟨ps, cs, hsi⟩ := own_sliceB hoi
        rw [← HX.out] at c0 c1 hoi hsi
        rw [hsi] at c2
        have HP := Lib.hid (And.intro o1 (And.intro o2 (And.intro o3 (And.intro o4 o5))))
        have HSI := Lib.hid hsi
        have hwp := Lib.hid (fun V (hV : w1.heap.size ≤ V.heap.size) hO => iWithPiece_any cl wt (s i) bg (by omega) b pw pc hwt w1.heap.size V hV hO)
        rw [hsi] at hwp hoi
        have HOI := Lib.hid hoi
        clear o1 o2 o3 o4 o5 e0 e1 e2 hsi hb4 x4 o1m hoi
        go_wp2_with fail
        have hT : (3 : TypeId) ≠ 74 := by decide
        have hkeep := Lib.hid (fun V (hV : w4.grownBy V (Value.slice ps bg.length cs).ownBlock) => show V.ownsRow w1.heap.size 74 3 (.slice (some ⟨G, 0, none⟩) m cap) m xs from by
          have := own_keepB HP.out.1 hV (fun q hq e => own_apart HOI.out HP.out.1 hT q e hq)
          rw [← HM.out] at this
          exact this)
        go_region_with (go_at_call 77; refine (hwp.out _ (by exact B4.out.size) (by exact HOI.out)).mono ?_; rintro e w5 ⟨gn, cn, rfl, ho5, hg5, hl5⟩; have hg5' := grown_undrew hg5; have k5 := hkeep.out w5 hg5'; have z0 := (k5.cellAt (i * 3) (by omega)).trans (HP.out.2.1 i hfL).1; have z1 := (k5.cellAt (i * 3 + 1) (by omega)).trans (HP.out.2.1 i hfL).2.1; have z2 := (k5.cellAt (i * 3 + 2) (by omega)).trans (HP.out.2.1 i hfL).2.2; have f0 := k5.frozenAt (i * 3); have f1 := k5.frozenAt (i * 3 + 1); have f2 := k5.frozenAt (i * 3 + 2))
        all_goals
          have HO5 := Lib.hid ho5
          have HG5 := Lib.hid hg5'
          have HL5 := Lib.hid hl5
          clear ho5 hg5 hg5' hl5 k5 z0 z1 z2 f0 f1 f2
          go_wp2_with fail
          go_roundw
          case rel =>
            obtain ⟨p1, p2, p3, p4, p5⟩ := HP.out
            rw [HM.out] at p1
            have hput := BxO.put (x := (cl, wt + pw, bg ++ [b])) hfL p1 p2 p3 p4 (w2 := w5) (g := gn) (c := cn) (by rw [HSI.out]; exact HG5.out) (by
              show w5.ownsRow w1.heap.size _ 1 (.slice _ (bg ++ [b]).length cn) (bg ++ [b]).length _
              rw [show (bg ++ [b]).length = bg.length + 1 by simp]
              exact HO5.out) (by rw [HSI.out]; exact HL5.out)
            have hlen : (bg ++ [b]).length = bg.length + 1 := by simp
            rw [show ((cl, wt + pw, bg ++ [b]) : Bx).2.2.length = bg.length + 1 from hlen] at hput
            refine ⟨k + 1, G, cap, m, L.set i (cl, wt + pw, bg ++ [b]), by omega, by congr 1, rfl, by rw [List.length_set]; exact HM.out, HST2.out.symm, by rw [HM.out]; exact hput, ?_⟩
            have hGl := (p1.lt G rfl).1
            have hb5 := Below.grown B4.out HG5.out B4.out.size (fun q hq => by rw [← HSI.out] at hq; exact ((p3 i hfL).lt q hq).1)
            exact ((hb5.setCell (by show w1.heap.size ≤ G; exact hGl) _).setCell (by show w1.heap.size ≤ G; exact hGl) _).setCell (by show w1.heap.size ≤ G; exact hGl) _
          case measure => simp only [intOf]; omega
      · rw [if_neg hfound] at hcall
        have HST2 := Lib.hid (show ffL W C z (k + 1) = L ++ [(pc, pw, [b])] from HST.out.trans (if_neg (by rw [← HM.out]; exact hfound)))
        clear HST hfound
        go_wp2_with (go_at_call 73; refine hcall.out.mono ?_; rintro e w4 ⟨rfl, hb4⟩; have x4 := blk_later XP.out hb4; obtain ⟨q0, q1, q2⟩ := cells3X x4)
        refine (iNewBox_any b pw pc (IntWalk.i64_in _ (by omega)) w1.heap.size w4 (by have := HA.out.size; have := hb4.size; omega)).mono ?_
        rintro e w5 ⟨gn, cn, rfl, ho5, hb5, hgn⟩
        have HN4 := Lib.hid (HOA.out.later hb4)
        have B5 := Lib.hid (HA.out.trans ((hb4.trans (hb5.mono hb4.size)).mono HA.out.size))
        have S5 := B5.out.size
        have HO6 := Lib.hid (HN4.out.parts (hb5.trans ((Below.refl _ _).alloc hb5.size (.cells #[.int .i64 pc, .int .i64 pw, .slice (some ⟨gn, 0, none⟩) 1 cn] 74))))
        have hn6 := Lib.hid (ho5.alloc (.cells #[.int .i64 pc, .int .i64 pw, .slice (some ⟨gn, 0, none⟩) 1 cn] 74))
        obtain ⟨xs, s, o1, o2, o3, o4, o5⟩ := HO6.out
        have o1m := o1
        rw [← HM.out] at o1m
        have hm40 : m ≤ 100 := by have := HIN.out.1; rw [HM.out]; omega
        have HP := Lib.hid (And.intro o1 (And.intro o2 (And.intro o3 (And.intro o4 o5))))
        have HGN := Lib.hid hgn
        have HB45 := Lib.hid hb5
        clear ho5 hb5 hb4 hgn o1 o2 o3 o4 o5
        go_wp2_with (at_builtin; refine wpList_append_own _ rfl _ _ 53 rfl w1.heap.size 74 i0 (.agg #[.int .i64 0, .int .i64 0, .slice none 0 0]) 3 40 Try.underlying53 hi hz0 hz1 hz2 rfl (by decide) _ m _ rfl o1m ⟨w5.heap.size, 0, none⟩ 1 1 [.int .i64 pc, .int .i64 pw, .slice (some ⟨gn, 0, none⟩) 1 cn] rfl rfl (World.news_of_block (cs := #[.int .i64 pc, .int .i64 pw, .slice (some ⟨gn, 0, none⟩) 1 cn]) (t := 74) (fr := (0, 0)) (heap_new _ _ _ rfl)) (by intro u hu; simp at hu; rcases hu with rfl | rfl | rfl <;> rfl) (by unfold maxLen; omega) (by omega) (by simp; omega) ?_; intro v' w7 hown7 hgrow7 _)
        go_roundw
        case rel =>
          obtain ⟨p1, p2, p3, p4, p5⟩ := HP.out
          have hb7 := hown7
          rw [HM.out] at hb7
          have hpush := BxO.push (x := (pc, pw, [b])) p1 p2 p3 p4 hn6.out (fun i hi q hq e => by
            have h1 : gn = q := by injection e
            have := p5 i hi q hq
            have := HGN.out
            omega) hb7 hgrow7
          obtain ⟨g4, c4, rfl⟩ := ownsRow_succ hown7
          exact ⟨k + 1, g4, c4, m + 1, L ++ [(pc, pw, [b])], by omega, by congr 1, rfl, by rw [List.length_append, HM.out]; rfl, HST2.out.symm, hpush, Below.grown (B5.out.alloc S5 _) hgrow7 (by simp; omega) (fun j hj => (o1m.lt j hj).1)⟩
        case measure => simp only [intOf]; omega
    · obtain rfl : k = n := by omega
      have HR := Lib.hid (HE.out.trans HL.out.symm)
      go_wp2_with fail
      go_ret
      exact ⟨_, rfl, by rw [HR.out]; exact HO.out.lower (by omega), HBW.out⟩

end Go.Proofs.Ytnkhjlpeeljelaa
