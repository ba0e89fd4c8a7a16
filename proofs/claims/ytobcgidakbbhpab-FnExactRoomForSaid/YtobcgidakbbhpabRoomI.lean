/- What the program's RoomFor returns. -/
import Derived.Test.YtobcgidakbbhpabRoomPlain
import Derived.Test.YtobcgidakbbhpabBeltOkI
import Derived.Test.YtobcgidakbbhpabOwnV
namespace Go.Proofs.Ytobcgidakbbhpab
open Go.RowKit Go.Shelf
set_option linter.unusedVariables false

theorem roomC_eq {x : Int} {t : Bool} (h : inB 1 60 x = t) (W : World) : Calls Try.prog 92 #[.int .i64 x] W fun e w' => e = .returned (.bool (!t)) ∧ W = w' := by
  go_enter Try.func92, Try.ntmps92
  go_wp2_with (go_at_call 80; refine (within_any _ _ _ _).mono ?_; rw [h]; rintro e w' ⟨rfl, rfl⟩)
  go_ret
  exact ⟨rfl, rfl⟩
theorem roomC_yes {x : Int} (h : inB 1 60 x = true) (W : World) : Calls Try.prog 92 #[.int .i64 x] W fun e w' => e = .returned (.bool false) ∧ W = w' := roomC_eq h W
theorem roomC_no {x : Int} (h : inB 1 60 x = false) (W : World) : Calls Try.prog 92 #[.int .i64 x] W fun e w' => e = .returned (.bool true) ∧ W = w' := roomC_eq h W

set_option maxRecDepth 100000 in
set_option maxHeartbeats 1000000 in
theorem indexS_any (n : Nat) (hn : n ≤ maxLen) (y : Nat → Int) (p : Option Addr) (c g o : Nat) (w : World) (h : FlatAt w 0 w.heap.size p g o n (fun j => .int .i64 (y j))) :
    Calls Try.prog 124 #[.slice p n c, .func (.func 92) #[] #[]] w fun e w' => (∃ i : Int, e = .returned (.int .i64 i) ∧ (0 ≤ i ↔ ¬ szP n y)) ∧ Below w.heap.size w w' := by
  unfold maxLen at hn
  have eg : ∀ args w, (callFunc 92 args).run Try.prog w = .ok (.enter 92 args) w := enters_of Try.func92 (by kernel_rfl) rfl
  have HF := Lib.hid h
  clear h
  go_enter Try.func124, Try.ntmps124
  go_wp2_with fail
  go_loopw [8] (fun v wr => ∃ k : Nat, k ≤ n ∧ v = .int .i64 (k : Int) ∧ Below w.heap.size w wr ∧ Hid (∀ j, j < k → 1 ≤ y j ∧ y j ≤ 60)) (fun v _ => n - (intOf v).toNat)
  case atStart => exact ⟨0, by omega, rfl, Below.refl _ _, fun j hj => absurd hj (by omega)⟩
  case round =>
    obtain ⟨k, hk, rfl, hbw, HN⟩ := hrel
    by_cases hkn : k < n
    · obtain ⟨rfl, -, hg⟩ := HF.out.1 (by omega)
      have a0 := (hbw.cell (p := ⟨g, o + k, none⟩) hg).trans (HF.out.int k hkn)
      obtain ⟨x, hx⟩ : ∃ x, x = y k := ⟨_, rfl⟩
      rw [← hx] at a0
      have HXX := Lib.hid hx
      clear hx
      have hk0 : (0 : Int) ≤ (k : Int) := by omega
      have hkl : (k : Int) < (n : Int) := by omega
      cases hb : inB 1 60 x with
      | true =>
        have hc := Lib.hid (fun W => roomC_yes hb W)
        have HX := Lib.hid (inB_iff.1 hb)
        clear hb
        go_wp2_with (go_at_fn 92; refine (hc.out _).mono ?_; rintro e w2 ⟨rfl, rfl⟩)
        go_roundw
        case rel => exact ⟨k + 1, by omega, by congr 1, hbw, fun j hj => by
          by_cases e : j = k
          · subst e; rw [← HXX.out]; exact HX.out
          · exact HN.out j (by omega)⟩
        case measure => simp only [intOf]; omega
      | false =>
        have hc := Lib.hid (fun W => roomC_no hb W)
        have HX := Lib.hid hb
        clear hb
        go_wp2_with (go_at_fn 92; refine (hc.out _).mono ?_; rintro e w2 ⟨rfl, rfl⟩)
        go_ret
        exact ⟨⟨k, rfl, ⟨fun _ hs => (by have := HX.out; rw [HXX.out, inB_iff.2 (hs k hkn)] at this; cases this), fun _ => hk0⟩⟩, hbw⟩
    · obtain rfl : k = n := by omega
      go_wp2_with fail
      go_ret
      exact ⟨⟨-1, rfl, ⟨fun h => absurd h (by omega), fun h => absurd (fun i hi => HN.out i hi) h⟩⟩, hbw⟩

theorem containsS_any (n : Nat) (hn : n ≤ maxLen) (y : Nat → Int) (p : Option Addr) (c g o : Nat) (w : World) (h : FlatAt w 0 w.heap.size p g o n (fun j => .int .i64 (y j))) (t : Bool) (ht : t = true ↔ ¬ szP n y) :
    Calls Try.prog 91 #[.slice p n c, .func (.func 92) #[] #[]] w fun e w' => e = .returned (.bool t) ∧ Below w.heap.size w w' := by
  have hc := Lib.hid (indexS_any n hn y p c g o w h)
  clear h
  go_enter Try.func91, Try.ntmps91
  go_wp2_with fail
  refine hc.out.mono ?_
  rintro e w2 ⟨⟨i, rfl, hi⟩, hb2⟩
  have ht2 : t = true ↔ 0 ≤ i := ht.trans hi.symm
  clear ht hi
  cases t
  · have hi0 : ¬ (0 ≤ i) := fun h => by have := ht2.2 h; cases this
    clear ht2
    have hd : decide (0 ≤ i) = false := decide_eq_false hi0
    go_wp2
    go_ret
    exact ⟨rfl, hb2⟩
  · have hi0 : 0 ≤ i := ht2.1 rfl
    clear ht2
    go_wp2
    go_ret
    exact ⟨rfl, hb2⟩

theorem fre_lo {G f0 : Int} {y : Nat → Int} (hG : 0 ≤ G ∧ G ≤ 20) (h0 : -80 ≤ f0 ∧ f0 ≤ 400) : ∀ k, (∀ i, i < k → y i ≤ fre G f0 y i ∧ 1 ≤ y i) → -80 ≤ fre G f0 y k ∧ fre G f0 y k ≤ 400
  | 0, _ => h0
  | k + 1, h => by
    have ih := fre_lo hG h0 k (fun i hi => h i (by omega))
    have := h k (by omega)
    show -80 ≤ fre G f0 y k - y k - G ∧ fre G f0 y k - y k - G ≤ 400
    omega

set_option maxRecDepth 100000 in
set_option maxHeartbeats 4000000 in
theorem iRoom_any (n : Nat) (hn : n ≤ 1048576) (z : Nat → Int) (p : Option Addr) (c g o : Nat) (L G : Int) (H : Bool) (m : Nat) (hm : m ≤ 1048576) (y : Nat → Int) (ps : Option Addr) (cs gs os : Nat) (w : World) (h : FlatAt w 0 w.heap.size p g o (n * 3) (fun j => .int .i64 (z j))) (hc : n ≤ c) (hs : FlatAt w 0 w.heap.size ps gs os m (fun j => .int .i64 (y j))) :
    Calls Try.prog 31 #[.agg #[.int .i64 L, .int .i64 G, .bool H, .slice p n c], .slice ps m cs] w fun e w' => e = .returned (.int .i64 (rmB L G n z m y)) ∧ Below w.heap.size w w' := by
  have hbo := Lib.hid (fun W (hb : Below w.heap.size w W) => iBeltOk_any n (by unfold maxLen; omega) z p c g o L G H W ((h.below hb (Nat.le_refl _)).wide (Nat.zero_le _) hb.size) hc)
  have HF := Lib.hid h
  have HS := Lib.hid hs
  have c3 := cellsItemI
  by_cases hok : OkP L G n z
  rotate_left
  · have HR := Lib.hid (rmB_no (m := m) (y := y) (fun hh => hok hh.1))
    simp only [okB_no hok] at hbo
    clear hok h hs
    go_enter Try.func31, Try.ntmps31
    go_wp2_with (go_at_call 28; refine (hbo.out _ (by repeat (first | exact Below.refl _ _ | refine Below.alloc ?_ (by simp <;> omega) _))).mono ?_; rintro e w2 ⟨rfl, hb2⟩; have HW2 := Lib.hid (below_via hb2 (B := w.heap.size) (w := w) (by repeat (first | exact Below.refl _ _ | refine Below.alloc ?_ (by simp <;> omega) _)) (by simp <;> omega)); clear hb2)
    go_ret
    exact ⟨by rw [HR.out]; first | done | rfl, HW2.out⟩
  simp only [okB_yes hok] at hbo
  by_cases hsz : szP m y
  rotate_left
  · have HR := Lib.hid (rmB_no (L := L) (G := G) (n := n) (z := z) (fun hh => hsz hh.2))
    have hcn := Lib.hid (fun W (hb : Below w.heap.size w W) => containsS_any m (by unfold maxLen; omega) y ps cs gs os W ((hs.below hb (Nat.le_refl _)).wide (Nat.zero_le _) hb.size) true ⟨fun _ => hsz, fun _ => rfl⟩)
    clear hok h hs hsz
    go_enter Try.func31, Try.ntmps31
    go_wp2_with (first
      | (go_at_call 28; refine (hbo.out _ (by repeat (first | exact Below.refl _ _ | refine Below.alloc ?_ (by simp <;> omega) _))).mono ?_; rintro e w2 ⟨rfl, hb2⟩; have HW2 := Lib.hid (below_via hb2 (B := w.heap.size) (w := w) (by repeat (first | exact Below.refl _ _ | refine Below.alloc ?_ (by simp <;> omega) _)) (by simp <;> omega)); clear hb2)
      | (go_at_call 91; refine (hcn.out _ HW2.out).mono ?_; rintro e w3 ⟨rfl, hb3⟩))
    go_ret
    exact ⟨by rw [HR.out]; first | done | rfl, HW2.out.trans (hb3.mono HW2.out.size)⟩
  have hcn := Lib.hid (fun W (hb : Below w.heap.size w W) => containsS_any m (by unfold maxLen; omega) y ps cs gs os W ((hs.below hb (Nat.le_refl _)).wide (Nat.zero_le _) hb.size) false ⟨fun h => absurd h (by decide), fun h => absurd hsz h⟩)
  have HR := Lib.hid (fun (r : Nat) hr => rmB_at (m := m) (y := y) (r := r) hok hsz hr)
  have HOK := Lib.hid hok
  have HSZ := Lib.hid hsz
  have hn40 : n ≤ 40 := hok.2.2.1
  obtain ⟨hL0, hL1⟩ := hok.1
  obtain ⟨hG0, hG1⟩ := hok.2.1
  have HT := Lib.hid (fun k (hk : k ≤ n) => And.intro (tg_lo hok k hk) (tg_hi hok k hk))
  clear hok h hs hsz
  go_enter Try.func31, Try.ntmps31
  go_wp2_with (first
    | (go_at_call 28; refine (hbo.out _ (by repeat (first | exact Below.refl _ _ | refine Below.alloc ?_ (by simp <;> omega) _))).mono ?_; rintro e w2 ⟨rfl, hb2⟩; have HW2 := Lib.hid (below_via hb2 (B := w.heap.size) (w := w) (by repeat (first | exact Below.refl _ _ | refine Below.alloc ?_ (by simp <;> omega) _)) (by simp <;> omega)); have HX2 := Lib.hid ((hb2.block w.heap.size (by simp)).trans (heap_new _ _ _ rfl)); clear hb2)
    | (go_at_call 91; refine (hcn.out _ HW2.out).mono ?_; rintro e w3 ⟨rfl, hb3⟩; have HX3 := Lib.hid ((hb3.block w.heap.size (by have := (Array.getElem?_eq_some_iff.1 HX2.out).1; omega)).trans HX2.out); have HW3 := Lib.hid (HW2.out.trans (hb3.mono HW2.out.size)); clear hb3; obtain ⟨x0, x1, x2, x3, -, -, -, -⟩ := cells4 HX3.out))
  clear x0 x1 x2 x3 HX2 HW2 hbo hcn
  have HS3 := Lib.hid ((HS.out.below HW3.out (Nat.le_refl _)).wide (Nat.zero_le _) HW3.out.size)
  have HF3 := Lib.hid ((HF.out.below HW3.out (Nat.le_refl _)).wide (Nat.zero_le _) HW3.out.size)
  have hl3 : w.heap.size < w3.heap.size := (Array.getElem?_eq_some_iff.1 HX3.out).1
  clear HS HF
  go_loopw [5, 22] (fun fv iv wr => ∃ i : Nat, i ≤ n ∧ iv = .int .i64 (i : Int) ∧ fv = .int .i64 (tg L G z i) ∧ Below w3.heap.size w3 wr) (fun _ iv _ => n - (intOf iv).toNat)
  case atStart => exact ⟨0, by omega, rfl, rfl, Below.refl _ _⟩
  case round =>
    obtain ⟨i, hi, rfl, rfl, hbr⟩ := hrel
    by_cases hin : i < n
    · obtain ⟨rfl, -, hg⟩ := HF3.out.1 (by omega)
      obtain ⟨a0, a1, a2⟩ := HF3.out.at3 hbr (Nat.le_refl _) i (by omega)
      have hi0 : (0 : Int) ≤ (i : Int) := by omega
      have hil : (i : Int) < (n : Int) := by omega
      have hfr := HOK.out.front hin
      have ht := HT.out i (by omega)
      have HE := Lib.hid (show tg L G z (i + 1) = tg L G z i - z (i * 3 + 2) - G from rfl)
      have hxr : wr.heap[w.heap.size]? = _ := (hbr.block _ hl3).trans HX3.out
      obtain ⟨x0, x1, x2, x3, -, -, -, -⟩ := cells4 hxr
      obtain ⟨y0, hy0⟩ : ∃ y, y = z (i * 3) := ⟨_, rfl⟩
      obtain ⟨y1, hy1⟩ : ∃ y, y = z (i * 3 + 1) := ⟨_, rfl⟩
      obtain ⟨y2, hy2⟩ : ∃ y, y = z (i * 3 + 2) := ⟨_, rfl⟩
      obtain ⟨t, htt⟩ : ∃ t, t = tg L G z i := ⟨_, rfl⟩
      rw [← hy0] at a0
      rw [← hy1] at a1
      rw [← hy2] at a2 hfr HE
      rw [← htt] at ht HE ⊢
      obtain ⟨-, h2, h3, -⟩ := hfr
      obtain ⟨ht1, ht2⟩ := ht
      have hw1 : IntKind.i64.wrap (y2 + G) = y2 + G := IntWalk.i64_in _ (by omega)
      have hw2 : IntKind.i64.wrap (t - (y2 + G)) = t - (y2 + G) := IntWalk.i64_in _ (by omega)
      have hne : wr.heap.size ≠ w.heap.size := by have := hbr.size; omega
      have hlt : w.heap.size < wr.heap.size := by have := hbr.size; omega
      have hxn : wr.heap.size ≠ g := by have := hbr.size; omega
      clear hy0 hy1 hy2 htt hxr
      go_wp2_with fail
      go_roundw
      case rel => exact ⟨i + 1, by omega, by congr 1, by rw [HE.out]; congr 1; omega, hbr.alloc hbr.size _⟩
      case measure => simp only [intOf]; omega
    · obtain rfl : i = n := by omega
      have HBR := Lib.hid hbr
      have HX4 := Lib.hid ((hbr.block _ hl3).trans HX3.out)
      have HS4 := Lib.hid ((HS3.out.below hbr (Nat.le_refl _)).wide (Nat.zero_le _) hbr.size)
      have HB4 := Lib.hid (HW3.out.trans (hbr.mono HW3.out.size))
      have ht := HT.out i (Nat.le_refl _)
      obtain ⟨ht1, ht2⟩ := ht
      obtain ⟨f0, hf0⟩ : ∃ f0, f0 = tg L G z i := ⟨_, rfl⟩
      rw [← hf0] at ht1 ht2 HR ⊢
      obtain ⟨wq, rfl⟩ : ∃ wq, wq = wr := ⟨_, rfl⟩
      clear hbr hf0 HBR HT HOK HF3 HS3 HX3
      go_wp2_with fail
      go_loopw [5, 36] (fun fv kv wr => ∃ k : Nat, k ≤ m ∧ kv = .int .i64 (k : Int) ∧ fv = .int .i64 (fre G f0 y k) ∧ Hid (∀ j, j < k → i + j < 40 ∧ y j ≤ fre G f0 y j) ∧ wq = wr) (fun _ kv _ => m - (intOf kv).toNat)
      case atStart => exact ⟨0, by omega, rfl, rfl, fun j hj => absurd hj (by omega), rfl⟩
      case round =>
        obtain ⟨k, hk, rfl, rfl, HP, rfl⟩ := hrel
        by_cases hkm : k < m
        · obtain ⟨rfl, -, hg⟩ := HS4.out.1 (by omega)
          have b0 := HS4.out.int k hkm
          obtain ⟨s1, s2⟩ := HSZ.out k hkm
          have hfb := fre_lo ⟨hG0, hG1⟩ ⟨ht1, by omega⟩ k (fun j hj => ⟨(HP.out j hj).2, (HSZ.out j (by omega)).1⟩)
          have HE := Lib.hid (show fre G f0 y (k + 1) = fre G f0 y k - y k - G from rfl)
          have HRK := Lib.hid (fun (h : ¬ (i + k < 40 ∧ y k ≤ fre G f0 y k)) => HR.out k ⟨hk, HP.out, fun _ => h⟩)
          obtain ⟨x0, x1, x2, x3, -, -, -, -⟩ := cells4 HX4.out
          obtain ⟨s, hs⟩ : ∃ s, s = y k := ⟨_, rfl⟩
          obtain ⟨f, hf⟩ : ∃ f, f = fre G f0 y k := ⟨_, rfl⟩
          have HPK := Lib.hid (fun (h : i + k < 40 ∧ s ≤ f) => (fun j hj => by
            by_cases e : j = k
            · subst e; rw [← hs, ← hf]; exact h
            · exact HP.out j (by omega) : ∀ j, j < k + 1 → i + j < 40 ∧ y j ≤ fre G f0 y j))
          rw [← hs] at b0 s1 s2 HE HRK
          rw [← hf] at hfb HE HRK ⊢
          have hk0 : (0 : Int) ≤ (k : Int) := by omega
          have hkl : (k : Int) < (m : Int) := by omega
          have hw0 : IntKind.i64.wrap ((i : Int) + (k : Int)) = (i : Int) + (k : Int) := IntWalk.i64_in _ (by omega)
          have hw1 : IntKind.i64.wrap (s + G) = s + G := IntWalk.i64_in _ (by omega)
          have hw2 : IntKind.i64.wrap (f - (s + G)) = f - (s + G) := IntWalk.i64_in _ (by omega)
          clear hs hf
          by_cases h40 : i + k < 40
          · have hd : decide ((40 : Int) ≤ (i : Int) + (k : Int)) = false := decide_eq_false (by omega)
            by_cases hsf : s ≤ f
            · have hd2 : decide (f < s) = false := decide_eq_false (by omega)
              go_wp2_with fail
              go_roundw
              case rel => exact ⟨k + 1, by omega, by congr 1, by rw [HE.out]; congr 1; omega, HPK.out ⟨h40, hsf⟩, by first | rfl | trivial⟩
              case measure => simp only [intOf]; omega
            · have hd2 : decide (f < s) = true := decide_eq_true (by omega)
              have HQ := Lib.hid (HRK.out (fun h => hsf h.2))
              go_wp2_with fail
              go_ret
              exact ⟨by rw [HQ.out]; first | done | rfl, HB4.out⟩
          · have hd : decide ((40 : Int) ≤ (i : Int) + (k : Int)) = true := decide_eq_true (by omega)
            have HQ := Lib.hid (HRK.out (fun h => h40 h.1))
            go_wp2_with fail
            go_ret
            exact ⟨by rw [HQ.out]; first | done | rfl, HB4.out⟩
        · obtain rfl : k = m := by omega
          have HQ := Lib.hid (HR.out k ⟨Nat.le_refl _, HP.out, fun h => absurd h (by omega)⟩)
          go_wp2_with fail
          go_ret
          exact ⟨by rw [HQ.out]; first | done | rfl, HB4.out⟩

end Go.Proofs.Ytobcgidakbbhpab
