/- What the model's LaneFor returns. -/
import Derived.Test.YtokhkcebdbopcaaLanePlain
import Derived.Test.YtokhkcebdbopcaaStoreOkS
import Derived.Test.YtokhkcebdbopcaaLeast
namespace Go.Proofs.Ytokhkcebdbopcaa
open Go.RowKit
set_option linter.unusedVariables false

theorem cellsB6 {w : World} {k : Nat} {a b : Value} {t : TypeId} (h : w.heap[k]? = some (.cells #[a, b] t (0, 0))) :
    w.cell? ⟨k, 0, none⟩ = some a ∧ w.cell? ⟨k, 1, none⟩ = some b ∧ w.frozen? ⟨k, 0, none⟩ = false ∧ w.frozen? ⟨k, 1, none⟩ = false :=
  ⟨by simp [World.cell?, h], by simp [World.cell?, h], by simp [World.frozen?, h], by simp [World.frozen?, h]⟩
theorem fb_skip {P : Nat → Bool} {key : Nat → Int} {k : Nat} (h : P k = false) : fb P key (k + 1) = fb P key k := by
  show (if P k = true ∧ _ then (k : Int) else fb P key k) = _
  rw [if_neg (by rintro ⟨h1, -⟩; rw [h] at h1; cases h1)]
theorem fb_take {P : Nat → Bool} {key : Nat → Int} {k : Nat} (h : P k = true) (h2 : fb P key k < 0 ∨ key k < key (fb P key k).toNat) : fb P key (k + 1) = (k : Int) := by
  show (if P k = true ∧ _ then (k : Int) else fb P key k) = _
  rw [if_pos ⟨h, h2⟩]
theorem fb_stay {P : Nat → Bool} {key : Nat → Int} {k : Nat} (h2 : ¬ (fb P key k < 0 ∨ key k < key (fb P key k).toNat)) : fb P key (k + 1) = fb P key k := by
  show (if P k = true ∧ _ then (k : Int) else fb P key k) = _
  rw [if_neg (fun h => h2 h.2)]
theorem fb_range {P : Nat → Bool} {key : Nat → Int} {n : Nat} : fb P key n = -1 ∨ ∃ i : Nat, fb P key n = (i : Int) ∧ i < n := by
  have h := fb_is P key n
  rcases Int.lt_or_le (fb P key n) 0 with h1 | h1
  · exact .inl (h.none h1).1
  · exact .inr ⟨(fb P key n).toNat, by omega, (h.some (fb P key n).toNat (by omega)).1⟩

set_option maxRecDepth 100000 in
set_option maxHeartbeats 8000000 in
theorem sLaneFor_any (D : Int) (n : Nat) (hn : n ≤ maxLen) (p : Option Addr) (c : Nat) (nn : Nat → Nat) (hm : ∀ i, i < n → nn i ≤ maxLen) (xx : Nat → Nat → Int) (t but : Int) (w : World) (h : LRd w (.slice p n c) n nn xx) :
    Calls Try.prog 20 #[.agg #[.int .i64 D, .slice p n c], .int .i64 t, .int .i64 but] w fun e w' => e = .returned (.int .i64 (lfr D n nn xx t but)) ∧ Below w.heap.size w w' := by
  have ck := cellsKeptS
  have hok := Lib.hid (fun W (hW : Below w.heap.size w W) => sStoreOk_any D n hn p c nn hm xx W (h.later hW))
  obtain ⟨R, hR⟩ : ∃ R, R = lfr D n nn xx t but := ⟨_, rfl⟩
  rw [← hR]
  by_cases hst : stO D n nn xx
  rotate_left
  · simp only [decide_eq_false hst] at hok
    obtain rfl : R = -1 := by rw [hR]; exact if_neg (fun h => hst h.1)
    clear hR hst h
    go_enter Try.func20, Try.ntmps20
    go_wp2_with (go_at_call 16; refine (hok.out _ (by repeat (first | exact Below.refl _ _ | refine Below.alloc ?_ (by simp <;> omega) _ | refine Below.drew ?_))).mono ?_; rintro e w2 ⟨rfl, hb2⟩; have HB2 := Lib.hid (below_via hb2 (B := w.heap.size) (w := w) (by repeat (first | exact Below.refl _ _ | refine Below.alloc ?_ (by simp <;> omega) _ | refine Below.drew ?_)) (by simp)); have X2 := Lib.hid ((hb2.block w.heap.size (by simp)).trans (heap_new _ _ _ rfl)); have hs2 : w.heap.size < w2.heap.size := (by have := hb2.size; simp at this; omega); clear hb2)
    go_ret
    exact ⟨rfl, HB2.out⟩
  simp only [decide_eq_true hst] at hok
  by_cases ht : 0 ≤ t ∧ t ≤ 100000
  rotate_left
  · obtain rfl : R = -1 := by rw [hR]; exact if_neg (fun h => ht h.2)
    have HI := Lib.hid (inB_no.2 ht)
    clear hR hst h ht
    go_enter Try.func20, Try.ntmps20
    go_wp2_with (first | (go_at_call 16; refine (hok.out _ (by repeat (first | exact Below.refl _ _ | refine Below.alloc ?_ (by simp <;> omega) _ | refine Below.drew ?_))).mono ?_; rintro e w2 ⟨rfl, hb2⟩; have HB2 := Lib.hid (below_via hb2 (B := w.heap.size) (w := w) (by repeat (first | exact Below.refl _ _ | refine Below.alloc ?_ (by simp <;> omega) _ | refine Below.drew ?_)) (by simp)); have X2 := Lib.hid ((hb2.block w.heap.size (by simp)).trans (heap_new _ _ _ rfl)); have hs2 : w.heap.size < w2.heap.size := (by have := hb2.size; simp at this; omega); clear hb2) | (go_at_call 49; refine (specIn_at HI.out _).mono ?_; rintro e w4 ⟨rfl, rfl⟩))
    go_ret
    exact ⟨rfl, HB2.out⟩
  have HI := Lib.hid (inB_iff.2 ht)
  have hn4 : n ≤ 4 := hst.2.1.2
  have hm5 : ∀ i, i < n → nn i ≤ 5 := fun i hi => by have := (hst.2.2.1 i hi).1; have := hst.1.2; omega
  have htm : ∀ i, i < n → tmOk (xx i) (nn i) := fun i hi => (hst.2.2.1 i hi).2
  have HR0 := Lib.hid (show R = _ from (hR.trans (if_pos ⟨hst, ht⟩)).trans (lf_three htm ht.1))
  obtain ⟨p0, c0, g, o, s, he, hc, hf, hr⟩ := h
  injection he with e1 e2 e3
  subst e1 e3
  clear e2
  have hpc : ∀ i, ∃ (pp : Option Addr) (cc : Nat), i < n → s i = .slice pp (nn i) cc ∧ nn i ≤ cc ∧ ∃ gg oo, FlatAt w 0 w.heap.size pp gg oo (nn i * 2) (fun j => .int .i64 (xx i j)) := by
    intro i
    by_cases hin : i < n
    · obtain ⟨p1, c1, g1, o1, e1, hc1, hf1⟩ := hr i hin
      exact ⟨p1, c1, fun _ => ⟨e1, hc1, g1, o1, hf1⟩⟩
    · exact ⟨none, 0, fun h => absurd h hin⟩
  obtain ⟨P, hP⟩ : ∃ P : Nat → Option Addr, ∀ i, P i = Classical.choose (hpc i) := ⟨_, fun _ => rfl⟩
  obtain ⟨CC, hCC⟩ : ∃ CC : Nat → Nat, ∀ i, CC i = Classical.choose (Classical.choose_spec (hpc i)) := ⟨_, fun _ => rfl⟩
  have hpc2 : ∀ i, i < n → s i = .slice (P i) (nn i) (CC i) ∧ ∃ gg oo, FlatAt w 0 w.heap.size (P i) gg oo (nn i * 2) (fun j => .int .i64 (xx i j)) := fun i hin => by
    have := Classical.choose_spec (Classical.choose_spec (hpc i)) hin
    rw [hP, hCC]
    exact ⟨this.1, this.2.2⟩
  have hcl : ∀ W, Below w.heap.size w W → ∀ i, i < n → W.cell? ⟨g, o + i, none⟩ = some (.slice (P i) (nn i) (CC i)) := fun W hW i hin => by
    have hg := (hf.1 (by omega)).2.2
    rw [← (hpc2 i hin).1]
    exact (hW.cell (p := ⟨g, o + i, none⟩) hg).trans (hf.2 i hin)
  have hle : ∀ W, Below w.heap.size w W → ∀ i, i < n → Calls Try.prog 55 #[.slice (P i) (nn i) (CC i)] W fun e w' => e = .returned (.int .i64 (lst (xx i) (nn i))) ∧ w' = W := fun W hW i hin => by
    obtain ⟨-, gg, oo, h1⟩ := hpc2 i hin
    exact sLeast_any (nn i) (by have := hm5 i hin; unfold maxLen; omega) (xx i) (P i) (CC i) gg oo W ((h1.below hW (Nat.le_refl _)).wide (Nat.zero_le _) hW.size)
  have HCL := Lib.hid hcl
  have HLE := Lib.hid hle
  have HP0 := Lib.hid (fun (h0 : 0 < n) => (hf.1 h0).1)
  clear hpc hpc2 hP hCC hcl hle hR hst hf hr hm hm5 htm ht
  go_enter Try.func20, Try.ntmps20
  go_wp2_with (first | (go_at_call 16; refine (hok.out _ (by repeat (first | exact Below.refl _ _ | refine Below.alloc ?_ (by simp <;> omega) _ | refine Below.drew ?_))).mono ?_; rintro e w2 ⟨rfl, hb2⟩; have HB2 := Lib.hid (below_via hb2 (B := w.heap.size) (w := w) (by repeat (first | exact Below.refl _ _ | refine Below.alloc ?_ (by simp <;> omega) _ | refine Below.drew ?_)) (by simp)); have X2 := Lib.hid ((hb2.block w.heap.size (by simp)).trans (heap_new _ _ _ rfl)); have hs2 : w.heap.size < w2.heap.size := (by have := hb2.size; simp at this; omega); clear hb2) | (go_at_call 49; refine (specIn_at HI.out _).mono ?_; rintro e w4 ⟨rfl, rfl⟩))
  have hbx : ∀ W, Below w2.heap.size w2 W → W.cell? ⟨w.heap.size, 0, none⟩ = some (.int .i64 D) ∧ W.cell? ⟨w.heap.size, 1, none⟩ = some (.slice p n c) ∧ Below w.heap.size w W := fun W hW => by
    obtain ⟨b0, b1, -, -⟩ := cellsB6 ((hW.block w.heap.size hs2).trans X2.out)
    exact ⟨b0, b1, HB2.out.trans (hW.mono (by omega))⟩
  have HBX := Lib.hid hbx
  clear hbx
  go_loopw [7, 8, 9, 10] (fun ov ev gv iv wr => ∃ (k : Nat) (O E G : Int), k ≤ n ∧ iv = .int .i64 (k : Int) ∧ ov = .int .i64 O ∧ ev = .int .i64 E ∧ gv = .int .i64 G ∧ Hid (O = fb (can0 D nn xx t but) (fun i => lst (xx i) (nn i)) k) ∧ Hid (E = fb (can1 D nn but) (fun _ => 0) k) ∧ Hid (G = fb (can2 D nn but) (fun i => - lst (xx i) (nn i)) k) ∧ Hid (Below w2.heap.size w2 wr)) (fun _ _ _ iv _ => n - (intOf iv).toNat)
  case atStart => exact ⟨0, -1, -1, -1, by omega, rfl, rfl, rfl, rfl, rfl, rfl, rfl, Below.refl _ _⟩
  case round =>
    obtain ⟨k, O, E, G, hk, rfl, rfl, rfl, rfl, HO, HE, HG, HB⟩ := hrel
    obtain ⟨b0, b1, hbw⟩ := HBX.out _ HB.out
    by_cases hkn : k < n
    · obtain rfl := HP0.out (by omega)
      have a0 := HCL.out _ hbw k hkn
      have hk0 : (0 : Int) ≤ (k : Int) := by omega
      have hkl : (k : Int) < (n : Int) := by omega
      have hwk : IntKind.i64.wrap ((k : Int) + 1) = (k : Int) + 1 := IntWalk.i64_in _ (by omega)
      have HBW := Lib.hid hbw
      have HK := Lib.hid hkn
      have hcd : can D nn but k = (!((k : Int) == but) && decide ((nn k : Int) < D)) := rfl
      have h0d : can0 D nn xx t but k = (can D nn but k && decide (0 < nn k) && decide (t ≤ lst (xx k) (nn k))) := rfl
      have h1d : can1 D nn but k = (can D nn but k && decide (nn k = 0)) := rfl
      have h2d : can2 D nn but k = (can D nn but k && decide (0 < nn k)) := rfl
      by_cases hcan : can D nn but k = true
      rotate_left
      · have hcf : can D nn but k = false := by simpa using hcan
        have HO2 := Lib.hid (HO.out.trans (fb_skip (P := can0 D nn xx t but) (key := fun i => lst (xx i) (nn i)) (by rw [h0d, hcf]; rfl)).symm)
        have HE2 := Lib.hid (HE.out.trans (fb_skip (P := can1 D nn but) (key := fun _ => 0) (by rw [h1d, hcf]; rfl)).symm)
        have HG2 := Lib.hid (HG.out.trans (fb_skip (P := can2 D nn but) (key := fun i => - lst (xx i) (nn i)) (by rw [h2d, hcf]; rfl)).symm)
        by_cases hbu : (k : Int) = but
        · have hee : ((k : Int) == but) = true := by simpa using hbu
          clear hcd h0d h1d h2d hcan hcf hbu hbw
          go_wp2_with fail
          go_roundw
          case rel => exact ⟨k + 1, O, E, G, by omega, by congr 1, rfl, rfl, rfl, HO2.out, HE2.out, HG2.out, HB.out⟩
          case measure => simp only [intOf]; omega
        · have hee : ((k : Int) == but) = false := by simpa using hbu
          have hD : ¬ ((nn k : Int) < D) := by
            intro hh
            rw [hcd, hee, decide_eq_true hh] at hcf
            cases hcf
          have hdd : decide (D ≤ (nn k : Int)) = true := decide_eq_true (by omega)
          clear hcd h0d h1d h2d hcan hcf hbu hbw hD
          go_wp2_with fail
          go_roundw
          case rel => exact ⟨k + 1, O, E, G, by omega, by congr 1, rfl, rfl, rfl, HO2.out, HE2.out, HG2.out, HB.out⟩
          case measure => simp only [intOf]; omega
      have hbd : ((k : Int) == but) = false ∧ (nn k : Int) < D := by
        rw [hcd] at hcan
        simpa using hcan
      obtain ⟨hee, hDl⟩ := hbd
      have hdd : decide (D ≤ (nn k : Int)) = false := decide_eq_false (by omega)
      by_cases hm0 : nn k = 0
      · have HO2 := Lib.hid (HO.out.trans (fb_skip (P := can0 D nn xx t but) (key := fun i => lst (xx i) (nn i)) (by rw [h0d, hm0]; simp)).symm)
        have HG2 := Lib.hid (HG.out.trans (fb_skip (P := can2 D nn but) (key := fun i => - lst (xx i) (nn i)) (by rw [h2d, hm0]; simp)).symm)
        have h1t : can1 D nn but k = true := by rw [h1d, hcan, hm0]; rfl
        by_cases hE0 : E < 0
        · have HE2 := Lib.hid (fb_take (P := can1 D nn but) (key := fun _ => 0) h1t (.inl (by rw [← HE.out]; exact hE0))).symm
          have hd : decide (E < 0) = true := decide_eq_true hE0
          have hmk : ((nn k : Int) == 0) = true := by simp; omega
          clear hcd h0d h1d h2d hcan hbw hDl hm0 h1t hE0
          go_wp2_with fail
          go_roundw
          case rel => exact ⟨k + 1, O, (k : Int), G, by omega, by congr 1, rfl, rfl, rfl, HO2.out, HE2.out, HG2.out, HB.out⟩
          case measure => simp only [intOf]; omega
        · have HE2 := Lib.hid (HE.out.trans (fb_stay (P := can1 D nn but) (key := fun _ => 0) (k := k) (by rintro (h | h); rw [← HE.out] at h; exact hE0 h; exact absurd h (by simp))).symm)
          have hd : decide (E < 0) = false := decide_eq_false hE0
          have hmk : ((nn k : Int) == 0) = true := by simp; omega
          clear hcd h0d h1d h2d hcan hbw hDl hm0 h1t hE0
          go_wp2_with fail
          go_roundw
          case rel => exact ⟨k + 1, O, E, G, by omega, by congr 1, rfl, rfl, rfl, HO2.out, HE2.out, HG2.out, HB.out⟩
          case measure => simp only [intOf]; omega
      have hmk : ((nn k : Int) == 0) = false := by simp; omega
      have HE2 := Lib.hid (HE.out.trans (fb_skip (P := can1 D nn but) (key := fun _ => 0) (by rw [h1d, decide_eq_false hm0, Bool.and_false])).symm)
      have h2t : can2 D nn but k = true := by rw [h2d, hcan, decide_eq_true (show 0 < nn k by omega)]; rfl
      have h0t : can0 D nn xx t but k = decide (t ≤ lst (xx k) (nn k)) := by rw [h0d, hcan, decide_eq_true (show 0 < nn k by omega)]; rfl
      have HLK := Lib.hid (fun W (hW : Below w.heap.size w W) => HLE.out W hW k HK.out)
      have HGR := Lib.hid (show (G = -1 ∨ ∃ i : Nat, G = (i : Int) ∧ i < k) from by rw [HG.out]; exact fb_range)
      have HOR := Lib.hid (show (O = -1 ∨ ∃ i : Nat, O = (i : Int) ∧ i < k) from by rw [HO.out]; exact fb_range)
      have HGT := Lib.hid (fun (hq : G < 0 ∨ - lst (xx k) (nn k) < - lst (xx G.toNat) (nn G.toNat)) => (fb_take (P := can2 D nn but) (key := fun i => - lst (xx i) (nn i)) h2t (by rw [← HG.out]; exact hq)).symm)
      have HGS := Lib.hid (fun (hq : ¬ (G < 0 ∨ - lst (xx k) (nn k) < - lst (xx G.toNat) (nn G.toNat))) => HG.out.trans (fb_stay (P := can2 D nn but) (key := fun i => - lst (xx i) (nn i)) (k := k) (by rw [← HG.out]; exact hq)).symm)
      have HOT := Lib.hid (fun (hl : t ≤ lst (xx k) (nn k)) (hq : O < 0 ∨ lst (xx k) (nn k) < lst (xx O.toNat) (nn O.toNat)) => (fb_take (P := can0 D nn xx t but) (key := fun i => lst (xx i) (nn i)) (h0t.trans (decide_eq_true hl)) (by rw [← HO.out]; exact hq)).symm)
      have HOS := Lib.hid (fun (hq : ¬ (O < 0 ∨ lst (xx k) (nn k) < lst (xx O.toNat) (nn O.toNat))) => HO.out.trans (fb_stay (P := can0 D nn xx t but) (key := fun i => lst (xx i) (nn i)) (k := k) (by rw [← HO.out]; exact hq)).symm)
      have HON := Lib.hid (fun (hl : ¬ t ≤ lst (xx k) (nn k)) => HO.out.trans (fb_skip (P := can0 D nn xx t but) (key := fun i => lst (xx i) (nn i)) (h0t.trans (decide_eq_false hl))).symm)
      obtain ⟨L, hL⟩ : ∃ L, L = lst (xx k) (nn k) := ⟨_, rfl⟩
      rw [← hL] at HGT HGS HOT HOS HON HLK
      obtain ⟨m, hmm⟩ : ∃ m, m = nn k := ⟨_, rfl⟩
      rw [← hmm] at a0 hmk hdd HLK
      clear hcd h0d h1d h2d hcan hbw hDl hm0 h2t h0t HO HE HG hmm hL
      by_cases htl : t ≤ L
      rotate_left
      · have HO2 := Lib.hid (HON.out htl)
        have hd4 : decide (t ≤ L) = false := decide_eq_false htl
        clear HON HOT HOS HOR htl
        go_wp2_with fail
        go_quiet ((first | (go_at_call 55; with_reducible exact Calls.quiet_of_same (HLK.out _ (by first | exact HBW.out | exact below_drewN' HBW.out _)))))
        generalize hwq : wr.drewN nq = w9
        have B9 : Below wr.heap.size wr w9 := by rw [← hwq]; exact below_drewN' (Below.refl _ _) _
        have HB9 := Lib.hid (show Below w2.heap.size w2 w9 by rw [← hwq]; exact below_drewN' HB.out _)
        clear hwq B9 HBW b0 b1 a0
        obtain ⟨b0, b1, hbw⟩ := HBX.out _ HB9.out
        have a0 := HCL.out _ hbw k HK.out
        have HBW := Lib.hid hbw
        clear hbw
        go_wp2_with fail
        rcases HGR.out with hgr | ⟨gi, hgi, hgk⟩
        · have HG2 := Lib.hid (HGT.out (.inl (by omega)))
          have hd6 : decide (G < 0) = true := decide_eq_true (by omega)
          clear hgr HGT HGS HGR
          go_quiet (fail)
          go_wp2_with fail
          go_roundw
          case rel => exact ⟨k + 1, O, E, (k : Int), by omega, by congr 1, rfl, rfl, rfl, HO2.out, HE2.out, HG2.out, below_drewN' HB9.out _⟩
          case measure => simp only [intOf]; omega
        · subst hgi
          have hd6 : decide ((gi : Int) < 0) = false := decide_eq_false (by omega)
          have g0 := HCL.out _ HBW.out gi (by omega)
          have hgi0 : (0 : Int) ≤ (gi : Int) := by omega
          have hgil : (gi : Int) < (n : Int) := by omega
          have HLG := Lib.hid (fun W (hW : Below w.heap.size w W) => HLE.out W hW gi (by have := HK.out; omega))
          simp only [Int.toNat_natCast] at HGT HGS
          obtain ⟨LG, hLG⟩ : ∃ L, L = lst (xx gi) (nn gi) := ⟨_, rfl⟩
          rw [← hLG] at HGT HGS HLG
          obtain ⟨mg, hmg⟩ : ∃ m, m = nn gi := ⟨_, rfl⟩
          rw [← hmg] at g0 HLG
          clear hLG hmg HGR
          by_cases hlg : LG < L
          · have HG2 := Lib.hid (HGT.out (.inr (by omega)))
            have hd7 : decide (LG < L) = true := decide_eq_true hlg
            clear HGT HGS hlg
            go_quiet ((first | (go_at_call 55; with_reducible exact Calls.quiet_of_same (HLK.out _ (by first | exact HBW.out | exact below_drewN' HBW.out _))) | (go_at_call 55; with_reducible exact Calls.quiet_of_same (HLG.out _ (by first | exact HBW.out | exact below_drewN' HBW.out _)))))
            go_wp2_with fail
            go_roundw
            case rel => exact ⟨k + 1, O, E, (k : Int), by omega, by congr 1, rfl, rfl, rfl, HO2.out, HE2.out, HG2.out, below_drewN' HB9.out _⟩
            case measure => simp only [intOf]; omega
          · have HG2 := Lib.hid (HGS.out (by rintro (h | h) <;> omega))
            have hd7 : decide (LG < L) = false := decide_eq_false hlg
            clear HGT HGS hlg
            go_quiet ((first | (go_at_call 55; with_reducible exact Calls.quiet_of_same (HLK.out _ (by first | exact HBW.out | exact below_drewN' HBW.out _))) | (go_at_call 55; with_reducible exact Calls.quiet_of_same (HLG.out _ (by first | exact HBW.out | exact below_drewN' HBW.out _)))))
            go_wp2_with fail
            go_roundw
            case rel => exact ⟨k + 1, O, E, (gi : Int), by omega, by congr 1, rfl, rfl, rfl, HO2.out, HE2.out, HG2.out, below_drewN' HB9.out _⟩
            case measure => simp only [intOf]; omega
      have hd4 : decide (t ≤ L) = true := decide_eq_true htl
      rcases HOR.out with hor | ⟨oi, hoi, hokk⟩
      · have HO2 := Lib.hid (HOT.out htl (.inl (by omega)))
        have hd5 : decide (O < 0) = true := decide_eq_true (by omega)
        clear HON HOT HOS HOR htl hor
        go_wp2_with fail
        go_quiet ((first | (go_at_call 55; with_reducible exact Calls.quiet_of_same (HLK.out _ (by first | exact HBW.out | exact below_drewN' HBW.out _)))))
        generalize hwq : wr.drewN nq = w9
        have B9 : Below wr.heap.size wr w9 := by rw [← hwq]; exact below_drewN' (Below.refl _ _) _
        have HB9 := Lib.hid (show Below w2.heap.size w2 w9 by rw [← hwq]; exact below_drewN' HB.out _)
        clear hwq B9 HBW b0 b1 a0
        obtain ⟨b0, b1, hbw⟩ := HBX.out _ HB9.out
        have a0 := HCL.out _ hbw k HK.out
        have HBW := Lib.hid hbw
        clear hbw
        go_wp2_with fail
        rcases HGR.out with hgr | ⟨gi, hgi, hgk⟩
        · have HG2 := Lib.hid (HGT.out (.inl (by omega)))
          have hd6 : decide (G < 0) = true := decide_eq_true (by omega)
          clear hgr HGT HGS HGR
          go_quiet (fail)
          go_wp2_with fail
          go_roundw
          case rel => exact ⟨k + 1, (k : Int), E, (k : Int), by omega, by congr 1, rfl, rfl, rfl, HO2.out, HE2.out, HG2.out, below_drewN' HB9.out _⟩
          case measure => simp only [intOf]; omega
        · subst hgi
          have hd6 : decide ((gi : Int) < 0) = false := decide_eq_false (by omega)
          have g0 := HCL.out _ HBW.out gi (by omega)
          have hgi0 : (0 : Int) ≤ (gi : Int) := by omega
          have hgil : (gi : Int) < (n : Int) := by omega
          have HLG := Lib.hid (fun W (hW : Below w.heap.size w W) => HLE.out W hW gi (by have := HK.out; omega))
          simp only [Int.toNat_natCast] at HGT HGS
          obtain ⟨LG, hLG⟩ : ∃ L, L = lst (xx gi) (nn gi) := ⟨_, rfl⟩
          rw [← hLG] at HGT HGS HLG
          obtain ⟨mg, hmg⟩ : ∃ m, m = nn gi := ⟨_, rfl⟩
          rw [← hmg] at g0 HLG
          clear hLG hmg HGR
          by_cases hlg : LG < L
          · have HG2 := Lib.hid (HGT.out (.inr (by omega)))
            have hd7 : decide (LG < L) = true := decide_eq_true hlg
            clear HGT HGS hlg
            go_quiet ((first | (go_at_call 55; with_reducible exact Calls.quiet_of_same (HLK.out _ (by first | exact HBW.out | exact below_drewN' HBW.out _))) | (go_at_call 55; with_reducible exact Calls.quiet_of_same (HLG.out _ (by first | exact HBW.out | exact below_drewN' HBW.out _)))))
            go_wp2_with fail
            go_roundw
            case rel => exact ⟨k + 1, (k : Int), E, (k : Int), by omega, by congr 1, rfl, rfl, rfl, HO2.out, HE2.out, HG2.out, below_drewN' HB9.out _⟩
            case measure => simp only [intOf]; omega
          · have HG2 := Lib.hid (HGS.out (by rintro (h | h) <;> omega))
            have hd7 : decide (LG < L) = false := decide_eq_false hlg
            clear HGT HGS hlg
            go_quiet ((first | (go_at_call 55; with_reducible exact Calls.quiet_of_same (HLK.out _ (by first | exact HBW.out | exact below_drewN' HBW.out _))) | (go_at_call 55; with_reducible exact Calls.quiet_of_same (HLG.out _ (by first | exact HBW.out | exact below_drewN' HBW.out _)))))
            go_wp2_with fail
            go_roundw
            case rel => exact ⟨k + 1, (k : Int), E, (gi : Int), by omega, by congr 1, rfl, rfl, rfl, HO2.out, HE2.out, HG2.out, below_drewN' HB9.out _⟩
            case measure => simp only [intOf]; omega
      subst hoi
      have hd5 : decide ((oi : Int) < 0) = false := decide_eq_false (by omega)
      have q0 := HCL.out _ HBW.out oi (by omega)
      have hoi0 : (0 : Int) ≤ (oi : Int) := by omega
      have hoil : (oi : Int) < (n : Int) := by omega
      have HLO := Lib.hid (fun W (hW : Below w.heap.size w W) => HLE.out W hW oi (by have := HK.out; omega))
      simp only [Int.toNat_natCast] at HOT HOS
      obtain ⟨LO, hLO⟩ : ∃ L, L = lst (xx oi) (nn oi) := ⟨_, rfl⟩
      rw [← hLO] at HOT HOS HLO
      obtain ⟨mo, hmo⟩ : ∃ m, m = nn oi := ⟨_, rfl⟩
      rw [← hmo] at q0 HLO
      clear hLO hmo HOR HON
      by_cases hlo : L < LO
      · have HO2 := Lib.hid (HOT.out htl (.inr hlo))
        have hd8 : decide (L < LO) = true := decide_eq_true hlo
        clear HOT HOS htl hlo
        go_wp2_with fail
        go_quiet ((first | (go_at_call 55; with_reducible exact Calls.quiet_of_same (HLK.out _ (by first | exact HBW.out | exact below_drewN' HBW.out _))) | (go_at_call 55; with_reducible exact Calls.quiet_of_same (HLO.out _ (by first | exact HBW.out | exact below_drewN' HBW.out _)))))
        generalize hwq : wr.drewN nq = w9
        have B9 : Below wr.heap.size wr w9 := by rw [← hwq]; exact below_drewN' (Below.refl _ _) _
        have HB9 := Lib.hid (show Below w2.heap.size w2 w9 by rw [← hwq]; exact below_drewN' HB.out _)
        clear hwq B9 HBW b0 b1 a0 q0
        obtain ⟨b0, b1, hbw⟩ := HBX.out _ HB9.out
        have a0 := HCL.out _ hbw k HK.out
        have HBW := Lib.hid hbw
        clear hbw
        go_wp2_with fail
        rcases HGR.out with hgr | ⟨gi, hgi, hgk⟩
        · have HG2 := Lib.hid (HGT.out (.inl (by omega)))
          have hd6 : decide (G < 0) = true := decide_eq_true (by omega)
          clear hgr HGT HGS HGR
          go_quiet (fail)
          go_wp2_with fail
          go_roundw
          case rel => exact ⟨k + 1, (k : Int), E, (k : Int), by omega, by congr 1, rfl, rfl, rfl, HO2.out, HE2.out, HG2.out, below_drewN' HB9.out _⟩
          case measure => simp only [intOf]; omega
        · subst hgi
          have hd6 : decide ((gi : Int) < 0) = false := decide_eq_false (by omega)
          have g0 := HCL.out _ HBW.out gi (by omega)
          have hgi0 : (0 : Int) ≤ (gi : Int) := by omega
          have hgil : (gi : Int) < (n : Int) := by omega
          have HLG := Lib.hid (fun W (hW : Below w.heap.size w W) => HLE.out W hW gi (by have := HK.out; omega))
          simp only [Int.toNat_natCast] at HGT HGS
          obtain ⟨LG, hLG⟩ : ∃ L, L = lst (xx gi) (nn gi) := ⟨_, rfl⟩
          rw [← hLG] at HGT HGS HLG
          obtain ⟨mg, hmg⟩ : ∃ m, m = nn gi := ⟨_, rfl⟩
          rw [← hmg] at g0 HLG
          clear hLG hmg HGR
          by_cases hlg : LG < L
          · have HG2 := Lib.hid (HGT.out (.inr (by omega)))
            have hd7 : decide (LG < L) = true := decide_eq_true hlg
            clear HGT HGS hlg
            go_quiet ((first | (go_at_call 55; with_reducible exact Calls.quiet_of_same (HLK.out _ (by first | exact HBW.out | exact below_drewN' HBW.out _))) | (go_at_call 55; with_reducible exact Calls.quiet_of_same (HLG.out _ (by first | exact HBW.out | exact below_drewN' HBW.out _)))))
            go_wp2_with fail
            go_roundw
            case rel => exact ⟨k + 1, (k : Int), E, (k : Int), by omega, by congr 1, rfl, rfl, rfl, HO2.out, HE2.out, HG2.out, below_drewN' HB9.out _⟩
            case measure => simp only [intOf]; omega
          · have HG2 := Lib.hid (HGS.out (by rintro (h | h) <;> omega))
            have hd7 : decide (LG < L) = false := decide_eq_false hlg
            clear HGT HGS hlg
            go_quiet ((first | (go_at_call 55; with_reducible exact Calls.quiet_of_same (HLK.out _ (by first | exact HBW.out | exact below_drewN' HBW.out _))) | (go_at_call 55; with_reducible exact Calls.quiet_of_same (HLG.out _ (by first | exact HBW.out | exact below_drewN' HBW.out _)))))
            go_wp2_with fail
            go_roundw
            case rel => exact ⟨k + 1, (k : Int), E, (gi : Int), by omega, by congr 1, rfl, rfl, rfl, HO2.out, HE2.out, HG2.out, below_drewN' HB9.out _⟩
            case measure => simp only [intOf]; omega
      · have HO2 := Lib.hid (HOS.out (by rintro (h | h); omega; exact hlo h))
        have hd8 : decide (L < LO) = false := decide_eq_false hlo
        clear HOT HOS htl hlo
        go_wp2_with fail
        go_quiet ((first | (go_at_call 55; with_reducible exact Calls.quiet_of_same (HLK.out _ (by first | exact HBW.out | exact below_drewN' HBW.out _))) | (go_at_call 55; with_reducible exact Calls.quiet_of_same (HLO.out _ (by first | exact HBW.out | exact below_drewN' HBW.out _)))))
        generalize hwq : wr.drewN nq = w9
        have B9 : Below wr.heap.size wr w9 := by rw [← hwq]; exact below_drewN' (Below.refl _ _) _
        have HB9 := Lib.hid (show Below w2.heap.size w2 w9 by rw [← hwq]; exact below_drewN' HB.out _)
        clear hwq B9 HBW b0 b1 a0 q0
        obtain ⟨b0, b1, hbw⟩ := HBX.out _ HB9.out
        have a0 := HCL.out _ hbw k HK.out
        have HBW := Lib.hid hbw
        clear hbw
        go_wp2_with fail
        rcases HGR.out with hgr | ⟨gi, hgi, hgk⟩
        · have HG2 := Lib.hid (HGT.out (.inl (by omega)))
          have hd6 : decide (G < 0) = true := decide_eq_true (by omega)
          clear hgr HGT HGS HGR
          go_quiet (fail)
          go_wp2_with fail
          go_roundw
          case rel => exact ⟨k + 1, (oi : Int), E, (k : Int), by omega, by congr 1, rfl, rfl, rfl, HO2.out, HE2.out, HG2.out, below_drewN' HB9.out _⟩
          case measure => simp only [intOf]; omega
        · subst hgi
          have hd6 : decide ((gi : Int) < 0) = false := decide_eq_false (by omega)
          have g0 := HCL.out _ HBW.out gi (by omega)
          have hgi0 : (0 : Int) ≤ (gi : Int) := by omega
          have hgil : (gi : Int) < (n : Int) := by omega
          have HLG := Lib.hid (fun W (hW : Below w.heap.size w W) => HLE.out W hW gi (by have := HK.out; omega))
          simp only [Int.toNat_natCast] at HGT HGS
          obtain ⟨LG, hLG⟩ : ∃ L, L = lst (xx gi) (nn gi) := ⟨_, rfl⟩
          rw [← hLG] at HGT HGS HLG
          obtain ⟨mg, hmg⟩ : ∃ m, m = nn gi := ⟨_, rfl⟩
          rw [← hmg] at g0 HLG
          clear hLG hmg HGR
          by_cases hlg : LG < L
          · have HG2 := Lib.hid (HGT.out (.inr (by omega)))
            have hd7 : decide (LG < L) = true := decide_eq_true hlg
            clear HGT HGS hlg
            go_quiet ((first | (go_at_call 55; with_reducible exact Calls.quiet_of_same (HLK.out _ (by first | exact HBW.out | exact below_drewN' HBW.out _))) | (go_at_call 55; with_reducible exact Calls.quiet_of_same (HLG.out _ (by first | exact HBW.out | exact below_drewN' HBW.out _)))))
            go_wp2_with fail
            go_roundw
            case rel => exact ⟨k + 1, (oi : Int), E, (k : Int), by omega, by congr 1, rfl, rfl, rfl, HO2.out, HE2.out, HG2.out, below_drewN' HB9.out _⟩
            case measure => simp only [intOf]; omega
          · have HG2 := Lib.hid (HGS.out (by rintro (h | h) <;> omega))
            have hd7 : decide (LG < L) = false := decide_eq_false hlg
            clear HGT HGS hlg
            go_quiet ((first | (go_at_call 55; with_reducible exact Calls.quiet_of_same (HLK.out _ (by first | exact HBW.out | exact below_drewN' HBW.out _))) | (go_at_call 55; with_reducible exact Calls.quiet_of_same (HLG.out _ (by first | exact HBW.out | exact below_drewN' HBW.out _)))))
            go_wp2_with fail
            go_roundw
            case rel => exact ⟨k + 1, (oi : Int), E, (gi : Int), by omega, by congr 1, rfl, rfl, rfl, HO2.out, HE2.out, HG2.out, below_drewN' HB9.out _⟩
            case measure => simp only [intOf]; omega
    · obtain rfl : k = n := by omega
      have HRR := Lib.hid (show R = (if 0 ≤ O then O else if 0 ≤ E then E else G) from by rw [HR0.out, ← HO.out, ← HE.out, ← HG.out])
      clear HR0 HO HE HG
      by_cases h1 : 0 ≤ O
      · obtain rfl : R = O := by rw [HRR.out, if_pos h1]
        have hd1 : decide (0 ≤ R) = true := decide_eq_true h1
        clear HRR
        go_wp2_with fail
        go_ret
        exact ⟨rfl, hbw⟩
      · have hd1 : decide (0 ≤ O) = false := decide_eq_false h1
        by_cases h2 : 0 ≤ E
        · obtain rfl : R = E := by rw [HRR.out, if_neg h1, if_pos h2]
          have hd2 : decide (0 ≤ R) = true := decide_eq_true h2
          clear HRR
          go_wp2_with fail
          go_ret
          exact ⟨rfl, hbw⟩
        · obtain rfl : R = G := by rw [HRR.out, if_neg h1, if_neg h2]
          have hd2 : decide (0 ≤ E) = false := decide_eq_false h2
          clear HRR
          go_wp2_with fail
          go_ret
          exact ⟨rfl, hbw⟩

end Go.Proofs.Ytokhkcebdbopcaa
