/- All elements of the lanes behind one another: the library's slices.Concat and slices.Grow at kept bags. -/
import Derived.Test.YtokhkcebdbopcaaNextPlain
import Derived.Test.YtokhkcebdbopcaaLanes
import Derived.Test.YtokhkcebdbopcaaSmall
import Derived.Test.YtokhkcebdbopcaaChecked
import Derived.Deep.LoopGhost
import Derived.Lib.AppendZeros
import Derived.Laws.AppendOwn
import Derived.RangeFuncBox
import Derived.Lib.OthersKept
import Derived.IntWalk
namespace Go.Proofs.Ytokhkcebdbopcaa
open Go.RowKit
set_option linter.unusedVariables false

theorem infoKeptC : (Try.prog.info? 49).map (fun i => (i.zero, i.size, i.bytes)) = some (some (.agg #[.int .i64 0, .int .i64 0]), 2, 16) := by kernel_rfl

set_option maxRecDepth 100000 in
set_option maxHeartbeats 1000000 in
theorem iGrow_any (n : Nat) (hn : n ≤ 1048576) (w : World) :
    Calls Try.prog 99 #[.slice none 0 0, .int .i64 (n : Int)] w fun e w' => ∃ p c, e = .returned (.slice p 0 c) ∧ w'.ownsRow w.heap.size 49 2 (.slice p 0 c) 0 [] ∧ Below w.heap.size w w' := by
  obtain ⟨i0, hi, hz0, hz1, hz2⟩ := info_parts infoKeptC
  rcases Nat.eq_zero_or_pos n with h0 | h0
  · subst h0
    go_enter Try.func99, Try.ntmps99
    go_wp2_with fail
    go_ret
    exact ⟨none, 0, rfl, ⟨rfl, .inl ⟨rfl, rfl⟩⟩, Below.refl _ _⟩
  · have hd0 : decide ((n : Int) < 0) = false := decide_eq_false (by omega)
    have hd1 : decide ((0 : Int) < (n : Int)) = true := decide_eq_true (by omega)
    have hd2 : (0 : Int) < (n : Int) := by omega
    have hr := Lib.run_append_nil_zeros w 47 3 47 49 i0 _ .i64 .i64 Try.underlying47 Try.underlying3 hi hz0 n h0 (by rw [hz1]; omega) (by omega) (by rw [hz2]; omega)
    have hge := grownCap_ge w n 0 49
    have hle := grownCap_le_maxLen w n 0 49 (by unfold maxLen; omega)
    have hsz1 := size_zeroCells (Value.agg #[.int .i64 0, .int .i64 0]).cells n
    have hsz2 := size_zeroCells (Value.agg #[.int .i64 0, .int .i64 0]).cells (grownCap w n 0 49 - n)
    obtain ⟨cap, hcap⟩ : ∃ cap, cap = grownCap w n 0 49 := ⟨_, rfl⟩
    rw [← hcap] at hr hge hle hsz2
    obtain ⟨C, hC⟩ : ∃ C, C = Builtin.zeroCells (Value.agg #[.int .i64 0, .int .i64 0]).cells n ++ Builtin.zeroCells (Value.agg #[.int .i64 0, .int .i64 0]).cells (cap - n) := ⟨_, rfl⟩
    rw [← hC] at hr
    have hCs : C.size = cap * 2 := by
      rw [hC, Array.size_append, hsz1, hsz2]
      show n * 2 + (cap - n) * 2 = cap * 2
      omega
    have HCS := Lib.hid hCs
    have HR := Lib.hid hr
    have HGE := Lib.hid hge
    have HLE := Lib.hid hle
    have hcn : (0 : Int) ≤ (cap : Int) := by omega
    clear hr hcap hC hCs hsz1 hsz2 hge hle
    go_enter Try.func99, Try.ntmps99
    go_wp2_with (at_builtin; refine Lib.wpList_append_run _ rfl _ _ _ _ rfl _ _ rfl rfl _ _ HR.out ?_)
    go_ret
    exact ⟨_, _, rfl, ⟨rfl, .inr ⟨w.heap.size, cap, C, rfl, Nat.le_refl _, heap_new _ _ _ rfl, Nat.zero_le _, HLE.out, HCS.out, rfl⟩⟩, ((Below.refl _ _).drew).alloc (Nat.le_refl _) _⟩

set_option maxRecDepth 100000 in
set_option maxHeartbeats 4000000 in
theorem iConcat_any (n : Nat) (hn : n ≤ 1024) (p : Option Addr) (c : Nat) (nn : Nat → Nat) (hm : ∀ i, i < n → nn i ≤ 1024) (xx : Nat → Nat → Int) (w : World) (h : LRs w (.slice p n c) n nn xx) :
    Calls Try.prog 71 #[.slice p n c] w fun e w' => ∃ p' c', e = .returned (.slice p' (totL nn n) c') ∧ w'.ownsRow w.heap.size 49 2 (.slice p' (totL nn n) c') (totL nn n) ((allL nn xx n).map (.int .i64)) ∧ Below w.heap.size w w' := by
  obtain ⟨i0, hi, hz0, hz1, hz2⟩ := info_parts infoKeptC
  have htl : ∀ k, k ≤ n → totL nn k ≤ k * 1024 := by
    intro k
    induction k with
    | zero => intro _; exact Nat.le_refl _
    | succ k ih =>
      intro hk
      have := ih (by omega)
      have := hm k (by omega)
      show totL nn k + nn k ≤ _
      omega
  obtain ⟨p0, c0, g, o, s, he, hc, hf, hr⟩ := h
  injection he with e1 e2 e3
  subst e1 e3
  clear e2
  have H := Lib.hid hf
  have HR := Lib.hid hr
  have HM := Lib.hid hm
  have HTL := Lib.hid htl
  clear hf hr hm htl
  go_enter Try.func71, Try.ntmps71
  go_wp2_with fail
  go_loopw [3, 11] (fun tv iv wr => ∃ (k t : Nat), k ≤ n ∧ iv = .int .i64 (k : Int) ∧ tv = .int .i64 (t : Int) ∧ Hid (t = totL nn k) ∧ t ≤ 1048576 ∧ w = wr) (fun _ iv _ => n - (intOf iv).toNat)
  case atStart => exact ⟨0, 0, by omega, rfl, rfl, rfl, by omega, rfl⟩
  case round =>
    obtain ⟨k, t, hk, rfl, rfl, HT, ht, rfl⟩ := hrel
    by_cases hkn : k < n
    · obtain ⟨rfl, -, hg⟩ := H.out.1 (by omega)
      obtain ⟨-, a1, c1, e1⟩ := HR.out k hkn
      have a0 := H.out.2 k hkn
      rw [e1] at a0
      have hk0 : (0 : Int) ≤ (k : Int) := by omega
      have hkl : (k : Int) < (n : Int) := by omega
      have hwk : IntKind.i64.wrap ((k : Int) + 1) = (k : Int) + 1 := IntWalk.i64_in _ (by omega)
      have hmk := HM.out k hkn
      have HT2 := Lib.hid (show t + nn k = totL nn (k + 1) from by rw [HT.out]; rfl)
      have hle := HTL.out (k + 1) hkn
      rw [← HT2.out] at hle
      obtain ⟨m, hmm⟩ : ∃ m, m = nn k := ⟨_, rfl⟩
      rw [← hmm] at a0 hmk HT2 hle
      clear e1 hmm
      have hwt : IntKind.i64.wrap ((t : Int) + (m : Int)) = (t : Int) + (m : Int) := IntWalk.i64_in _ (by omega)
      have hd : decide ((t : Int) + (m : Int) < 0) = false := decide_eq_false (by omega)
      go_wp2_with fail
      go_roundw
      case rel => exact ⟨k + 1, t + m, by omega, by congr 1, by congr 1, HT2.out, by omega, by first | rfl | trivial⟩
      case measure => simp only [intOf]; omega
    · obtain rfl : k = n := by omega
      have HG := Lib.hid (iGrow_any t ht w)
      have HRE := Lib.hid (show Hid (t = totL nn k) from HT)
      go_wp2_with (go_at_call 99; refine HG.out.mono ?_; rintro e w1 ⟨pv, cv, rfl, how, hb1⟩; have HOW := Lib.hid how; have HB1 := Lib.hid hb1; clear how hb1)
      go_loopw [6, 27] (fun v iv wr => ∃ (j : Nat) (pq : Option Addr) (cq q : Nat) (l : List Int), j ≤ k ∧ iv = .int .i64 (j : Int) ∧ v = .slice pq q cq ∧ wr.ownsRow w.heap.size 49 2 (.slice pq q cq) q (l.map (.int .i64)) ∧ Hid (l = allL nn xx j) ∧ Hid (q = totL nn j) ∧ q ≤ 1048576 ∧ Hid (Below w.heap.size w wr)) (fun _ iv _ => k - (intOf iv).toNat)
      case atStart => exact ⟨0, pv, cv, 0, [], by omega, rfl, rfl, HOW.out, rfl, rfl, by omega, HB1.out⟩
      case round =>
        obtain ⟨j, pq, cq, q, l, hj, rfl, rfl, hown, HL, HQ, hq, HB⟩ := hrel
        by_cases hjn : j < k
        · obtain ⟨rfl, -, hg⟩ := H.out.1 (by omega)
          obtain ⟨hrd, a1, c1, e1⟩ := HR.out j hjn
          have a0 := (HB.out.cell (p := ⟨g, o + j, none⟩) hg).trans (H.out.2 j hjn)
          rw [e1] at a0 hrd
          obtain ⟨p3, c3, g3, o3, e3, hc3, hf3⟩ := hrd
          injection e3 with e31 _ e33
          subst e33
          have hmk := HM.out j hjn
          have hk0 : (0 : Int) ≤ (j : Int) := by omega
          have hkl : (j : Int) < (k : Int) := by omega
          have hwk : IntKind.i64.wrap ((j : Int) + 1) = (j : Int) + 1 := IntWalk.i64_in _ (by omega)
          have HQ2 := Lib.hid (show q + nn j = totL nn (j + 1) from by rw [HQ.out]; rfl)
          have hle := HTL.out (j + 1) hjn
          rw [← HQ2.out] at hle
          have HL2 := Lib.hid (show l ++ (List.range (nn j * 2)).map (xx j) = allL nn xx (j + 1) from by rw [HL.out]; rfl)
          have hf4 := (hf3.below HB.out (Nat.le_refl _))
          have hsrc : ∀ (i : Nat) (u : Value), (((List.range (nn j * 2)).map (xx j)).map (Value.int .i64))[i]? = some u → wr.cell? (a1.add i) = some u := by
            intro i u hu
            have hi2 : i < nn j * 2 := by
              rcases Nat.lt_or_ge i (nn j * 2) with h9 | h9
              · exact h9
              · rw [List.getElem?_eq_none (by simp; omega)] at hu; cases hu
            rw [List.getElem?_map, List.getElem?_map, List.getElem?_range hi2] at hu
            simp at hu
            subst hu
            have h7 := (hf4.1 (by omega)).1
            rw [← e31] at h7
            injection h7 with h7
            subst h7
            have := hf4.2 i hi2
            rw [Go.WideShapes.add_plain]
            exact this
          have hlen : (((List.range (nn j * 2)).map (xx j)).map (Value.int .i64)).length = nn j * 2 := by simp
          have hone : ∀ u ∈ ((List.range (nn j * 2)).map (xx j)).map (Value.int .i64), u.oneCell' = true := by
            intro u hu
            obtain ⟨x, -, rfl⟩ := List.mem_map.1 hu
            rfl
          have HXL := Lib.hid (show (l ++ (List.range (nn j * 2)).map (xx j)).map (Value.int .i64) = l.map (.int .i64) ++ ((List.range (nn j * 2)).map (xx j)).map (.int .i64) by rw [List.map_append])
          obtain ⟨news, hnews⟩ : ∃ news, news = ((List.range (nn j * 2)).map (xx j)).map (Value.int .i64) := ⟨_, rfl⟩
          obtain ⟨nl, hnl⟩ : ∃ nl, nl = (List.range (nn j * 2)).map (xx j) := ⟨_, rfl⟩
          rw [← hnews] at hsrc hlen hone HXL
          rw [← hnl] at HXL HL2
          obtain ⟨m, hmm⟩ : ∃ m, m = nn j := ⟨_, rfl⟩
          rw [← hmm] at a0 hmk HQ2 hle hlen
          have HSRC := Lib.hid hsrc
          have HONE := Lib.hid hone
          have HLEN := Lib.hid hlen
          clear hsrc hone hlen hf3 hf4 hmm hnews hnl e31 e1
          have hszw := HB.out.size
          go_wp2_with (at_builtin; refine wpList_append_own _ rfl _ _ 47 rfl w.heap.size 49 i0 _ 2 16 Try.underlying47 hi hz0 hz1 hz2 rfl (by decide) _ q _ rfl hown a1 m c1 news rfl HLEN.out HSRC.out HONE.out (by unfold maxLen; omega) (by omega) hszw ?_; intro v' w3 hown3 hgrow3 hnil3)
          go_roundw
          case rel =>
            obtain ⟨pz, cz, rfl⟩ : ∃ pz cz, v' = .slice pz (q + m) cz := by
              rcases hown3.2 with ⟨rfl, h0⟩ | ⟨gz, cz, _, rfl, -⟩
              · exact ⟨none, 0, by rw [h0]⟩
              · exact ⟨_, _, rfl⟩
            refine ⟨j + 1, pz, cz, q + m, l ++ nl, by omega, by congr 1, rfl, by rw [HXL.out]; exact hown3, HL2.out, HQ2.out, by omega, ?_⟩
            exact Below.grown HB.out hgrow3 hszw (fun j hj => (hown.lt j hj).1)
          case measure => simp only [intOf]; omega
        · obtain rfl : j = k := by omega
          have HE := Lib.hid HQ.out
          go_wp2_with fail
          go_ret
          refine ⟨pq, cq, ?_, ?_, HB.out⟩
          · rw [← HE.out]; rfl
          · rw [← HE.out, ← HL.out]; exact hown

end Go.Proofs.Ytokhkcebdbopcaa
