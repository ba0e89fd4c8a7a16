/- What the model's RoomFor returns. -/
import Derived.Test.YtobcgidakbbhpabRoomI
import Derived.Test.YtobcgidakbbhpabNewBag
import Derived.Test.YtobcgidakbbhpabMoveS
import Derived.Test.YtobcgidakbbhpabFree
import Derived.Test.YtobcgidakbbhpabLater
import Derived.Deep.RegionLaw
import Derived.Deep.RegionHeld3
import Derived.Deep.AppendLies
import Derived.Deep.CutBlock
import Derived.Deep.DeepCutAuto
import Derived.Deep.CutRange
import Derived.Deep.Light
import Derived.RangeFuncBox
namespace Go.Proofs.Ytobcgidakbbhpab
open Go.RowKit
set_option linter.unusedVariables false

theorem mvR_400 {L G : Int} {n : Nat} {z : Nat → Int} (h : OkP L G n z) : mvR L G n 400 z = mvZ L G 400 z := by
  unfold mvR
  rw [if_pos ⟨okB_yes h, by decide⟩]
  rfl
/-- The copy at a step of a region that draws its order. -/
theorem step_copy {P : Program} (w : World) {ops : Array Oper} {o : Oper} {a : Act} {K : Act → World → Prop} {Q : Exit → Act → World → Prop} {E : Prop} (hgd : o.guard = none) (s x : Operand) (t : TypeId)
    (ho : o.op = .call { callee := .builtin .append, args := #[s, x], argTypes := #[t, t] })
    (base : Nat) (e : TypeId) (i : TypeInfo) (z : Value) (size bytes : Nat) (ht : P.underlying t = some (.slice e)) (hi : P.info? e = some i) (hz : i.zero = some z)
    (hsize : i.size = size) (hby : i.bytes = bytes) (hzs : z.cells.size = size) (hsz : 0 < size)
    (gE : Nat) (hs : a.eval s = .slice (some ⟨gE, 0, none⟩) 0 0) (hE : w.heap[gE]? = some (.cells #[] e (0, 0))) (hbE : base ≤ gE) (p : Option Addr) (n c : Nat) (hx : a.eval x = .slice p n c) (lo hh g oo : Nat) (f : Nat → Value) (h : FlatAt w lo hh p g oo (n * size) f) (h1 : ∀ j, j < n * size → (f j).oneCell' = true)
    (h63 : n ≤ maxLen) (hbytes : n * bytes ≤ 140737488355328)
    (hk : ∀ p' c' w', n ≤ c' → w'.ownsRow base e size (.slice p' n c') n ((List.range (n * size)).map f) → w.grownBy w' (some gE) → K (a.put o.dst (.slice p' n c')) w') :
    if Region.wanted o (yielded ops a.tmps) = true then Oper.wp P o a w K Q else E := by
  have hw : Region.wanted o (yielded ops a.tmps) = true := by simp [Region.wanted, hgd]
  rw [if_pos hw]
  exact wp_copy w s x t ho base e i z size bytes ht hi hz hsize hby hzs hsz gE hs hE hbE p n c hx lo hh g oo f h h1 h63 hbytes hk

set_option maxRecDepth 100000 in
set_option maxHeartbeats 40000000 in
theorem sRoom_any (n : Nat) (hn : n ≤ 1048576) (z : Nat → Int) (p : Option Addr) (c g o : Nat) (L G : Int) (H : Bool) (m : Nat) (hm : m ≤ 1048576) (y : Nat → Int) (ps : Option Addr) (cs gs os : Nat) (w : World) (h : FlatAt w 0 w.heap.size p g o (n * 3) (fun j => .int .i64 (z j))) (hs : FlatAt w 0 w.heap.size ps gs os m (fun j => .int .i64 (y j))) :
    Calls Try.prog 29 #[.agg #[.int .i64 L, .int .i64 G, .bool H, .slice p n c], .slice ps m cs] w fun e w' => e = .returned (.int .i64 (rmB L G n z m y)) ∧ Below w.heap.size w w' := by
  have hbo := Lib.hid (fun W (hb : Below w.heap.size w W) => sBeltOk_any n (by unfold maxLen; omega) z p c g o L G H W ((h.below hb (Nat.le_refl _)).wide (Nat.zero_le _) hb.size))
  have HF := Lib.hid h
  have HS := Lib.hid hs
  have c3 := cellsItemS
  obtain ⟨i0, hi, hz0, hz1, hzB⟩ := info_parts infoItem
  by_cases hok : OkP L G n z
  rotate_left
  · have HR := Lib.hid (rmB_no (m := m) (y := y) (fun hh => hok hh.1))
    simp only [okB_no hok] at hbo
    clear hok h hs
    go_enter Try.func29, Try.ntmps29
    go_wp2_with (go_at_call 25; refine (hbo.out _ (by repeat (first | exact Below.refl _ _ | refine Below.alloc ?_ (by simp <;> omega) _ | refine Below.setCell ?_ (by simp <;> omega) _ | refine Below.drew ?_))).mono ?_; rintro e w2 ⟨rfl, hb2⟩; have HW2 := Lib.hid (below_via hb2 (B := w.heap.size) (w := w) (by repeat (first | exact Below.refl _ _ | refine Below.alloc ?_ (by simp <;> omega) _ | refine Below.setCell ?_ (by simp <;> omega) _ | refine Below.drew ?_)) (by simp <;> omega)); clear hb2)
    go_ret
    exact ⟨by rw [HR.out]; first | done | rfl, HW2.out⟩
  simp only [okB_yes hok] at hbo
  have HOK := Lib.hid hok
  have hn40 : n ≤ 40 := hok.2.2.1
  obtain ⟨hG0, hG1⟩ := hok.2.1
  have hclo := Clo.of_ok hok
  have hmv := Lib.hid (fun W (hb : FlatAt W 0 W.heap.size p g o (n * 3) (fun j => .int .i64 (z j))) => by
    have := sMove_any n hn z p c g o L G H 400 W hb
    rwa [mvR_400 hok] at this)
  have HRN := Lib.hid (fun h => rmB_no (L := L) (G := G) (n := n) (z := z) (m := m) (y := y) h)
  have HRY := Lib.hid (fun (hsz : szP m y) (r : Nat) hr => rmB_at (r := r) hok hsz hr)
  obtain ⟨f0, hf0⟩ : ∃ f0, f0 = tg L G z n := ⟨_, rfl⟩
  rw [← hf0] at hclo HRY
  have ht0 := hclo.lo
  have HCLO := Lib.hid hclo
  clear hok h hs hclo hf0
  go_enter Try.func29, Try.ntmps29
  go_wp2_with (go_at_call 25; refine (hbo.out _ (by repeat (first | exact Below.refl _ _ | refine Below.alloc ?_ (by simp <;> omega) _ | refine Below.setCell ?_ (by simp <;> omega) _ | refine Below.drew ?_))).mono ?_; rintro e w2 ⟨rfl, hb2⟩; have HX2 := Lib.hid ((hb2.block w.heap.size (by simp)).trans (heap_new _ _ _ rfl)); have HW2 := Lib.hid (below_via hb2 (B := w.heap.size) (w := w) (by repeat (first | exact Below.refl _ _ | refine Below.alloc ?_ (by simp <;> omega) _ | refine Below.setCell ?_ (by simp <;> omega) _ | refine Below.drew ?_)) (by simp <;> omega)); clear hb2)
  have hl2 : w.heap.size < w2.heap.size := (Array.getElem?_eq_some_iff.1 HX2.out).1
  have HS2 := Lib.hid ((HS.out.below HW2.out (Nat.le_refl _)).wide (Nat.zero_le _) (by omega : w.heap.size ≤ w2.heap.size))
  have HF2 := Lib.hid ((HF.out.below HW2.out (Nat.le_refl _)).wide (Nat.zero_le _) (by omega : w.heap.size ≤ w2.heap.size))
  have HSO := HS
  clear HF hbo
  go_loopw [5] (fun iv wr => ∃ i : Nat, i ≤ m ∧ iv = .int .i64 (i : Int) ∧ Hid (∀ j, j < i → 1 ≤ y j ∧ y j ≤ 60) ∧ w2 = wr) (fun iv _ => m - (intOf iv).toNat)
  case atStart => exact ⟨0, by omega, rfl, fun j hj => absurd hj (by omega), rfl⟩
  case round =>
    obtain ⟨i, hi9, rfl, HP, rfl⟩ := hrel
    by_cases him : i < m
    · obtain ⟨rfl, -, hg⟩ := HS2.out.1 (by omega)
      have b0 := HS2.out.int i him
      have hi0 : (0 : Int) ≤ (i : Int) := by omega
      have hil : (i : Int) < (m : Int) := by omega
      have hwi : IntKind.i64.wrap ((i : Int) + 1) = (i : Int) + 1 := IntWalk.i64_in _ (by omega)
      obtain ⟨x, hx⟩ : ∃ x, x = y i := ⟨_, rfl⟩
      rw [← hx] at b0
      have HX := Lib.hid hx
      clear hx
      cases hb : inB 1 60 x with
      | true =>
        have HB := Lib.hid hb
        clear hb
        go_wp2_with (go_at_call 76; refine (specIn_at HB.out _).mono ?_; rintro e w4 ⟨rfl, rfl⟩)
        go_roundw
        case rel => exact ⟨i + 1, by omega, by congr 1, fun j hj => by
          by_cases e : j = i
          · subst e; rw [← HX.out]; exact inB_iff.1 HB.out
          · exact HP.out j (by omega), by first | rfl | trivial⟩
        case measure => simp only [intOf]; omega
      | false =>
        have HB := Lib.hid hb
        have HR := Lib.hid (HRN.out (fun hh => by have := inB_iff.2 (hh.2 i him); rw [← HX.out, hb] at this; cases this))
        clear hb
        go_wp2_with (go_at_call 76; refine (specIn_at HB.out _).mono ?_; rintro e w4 ⟨rfl, rfl⟩)
        go_ret
        exact ⟨by rw [HR.out]; first | done | rfl, HW2.out⟩
    · obtain rfl : i = m := by omega
      have HSZ : Hid (szP i y) := HP
      have hcl := Lib.hid (hmv.out w2 HF2.out)
      have HRR := Lib.hid (HRY.out HSZ.out)
      clear hmv HRY HRN HP HF2
      obtain ⟨x0, x1, x2, x3, -, -, -, -⟩ := cells4 HX2.out
      go_wp2_with (go_at_call 89; refine hcl.out.mono ?_; rintro e w3 ⟨p3, c3', rfl, hc3, hrn3, hb3⟩; have HX3 := Lib.hid ((hb3.block w.heap.size hl2).trans HX2.out); have HR3 := Lib.hid hrn3; have hs3 := hb3.size; have HB3 := Lib.hid (HW2.out.trans (hb3.mono (by omega))); have HBY := Lib.hid hb3; clear hrn3 hb3 x0 x1 x2 x3; obtain ⟨x0, x1, x2, x3, x4, x5, x6, x7⟩ := cells4 HX3.out)
      obtain ⟨wa, hwa⟩ : ∃ wa, wa = ((((w3.setCell ⟨w.heap.size, 0, none⟩ (.int .i64 L)).setCell ⟨w.heap.size, 1, none⟩ (.int .i64 G)).setCell ⟨w.heap.size, 2, none⟩ (.bool H)).setCell ⟨w.heap.size, 3, none⟩ (.slice p3 n c3')) := ⟨_, rfl⟩
      have hxa : wa.heap[w.heap.size]? = some (.cells #[.int .i64 L, .int .i64 G, .bool H, .slice p3 n c3'] 28 (0, 0)) := by rw [hwa]; exact blk_set (blk_set (blk_set (blk_set HX3.out _) _) _) _
      have hsa : wa.heap.size = w3.heap.size := by rw [hwa]; simp [World.setCell]
      have hra : RowNew wa (w.heap.size + 1) p3 (n * 3) (mvZ L G 400 z) := by rw [hwa]; exact ((((HR3.out.wide (B' := w.heap.size + 1) (by omega)).far _ (by simp)).far _ (by simp)).far _ (by simp)).far _ (by simp)
      have hba : Below w.heap.size w wa := by rw [hwa]; exact (((HB3.out.setCell (Nat.le_refl _) _).setCell (Nat.le_refl _) _).setCell (Nat.le_refl _) _).setCell (Nat.le_refl _) _
      have XA := Lib.hid hxa
      have RA := Lib.hid hra
      have BA := Lib.hid hba
      have hla : w.heap.size < wa.heap.size := by omega
      rw [← hwa]
      clear hwa hxa hra hba x0 x1 x2 x3 x4 x5 x6 x7 HX3 HR3 HB3 HBY hcl HX2 HS2 HW2 HOK
      go_loopw [6] (fun kv wr => ∃ (k : Nat) (zk : Nat → Int) (pk : Option Addr) (ck : Nat), k ≤ i ∧ kv = .int .i64 (k : Int) ∧ Hid (Clo L G (n + k) zk (fre G f0 y k)) ∧ Hid (∀ j, j < k → n + j < 40 ∧ y j ≤ fre G f0 y j) ∧ wr.heap[w.heap.size]? = some (.cells #[.int .i64 L, .int .i64 G, .bool H, .slice pk (n + k) ck] 28 (0, 0)) ∧ n + k ≤ ck ∧ RowNew wr (w.heap.size + 1) pk ((n + k) * 3) zk ∧ w.heap.size < wr.heap.size ∧ Below w.heap.size w wr) (fun kv _ => i - (intOf kv).toNat)
      case atStart => exact ⟨0, mvZ L G 400 z, p3, c3', by omega, rfl, HCLO.out, fun j hj => absurd hj (by omega), XA.out, hc3, RA.out, hla, BA.out⟩
      case round =>
        obtain ⟨k, zk, pk, ck, hk, rfl, HC, HP, h1, h2, h3, h4, h5⟩ := hrel
        by_cases hki : k < i
        · obtain ⟨s1, s2⟩ := HSZ.out k hki
          have hfb := fre_lo ⟨hG0, hG1⟩ ⟨ht0.1, by omega⟩ k (fun j hj => ⟨(HP.out j hj).2, (HSZ.out j (by omega)).1⟩)
          have HE := Lib.hid (show fre G f0 y (k + 1) = fre G f0 y k - y k - G from rfl)
          have HRK := Lib.hid (fun (h : ¬ (n + k < 40 ∧ y k ≤ fre G f0 y k)) => HRR.out k ⟨hk, HP.out, fun _ => h⟩)
          have hy0 : FlatAt wr 0 wr.heap.size ps gs os i (fun j => .int .i64 (y j)) := (HSO.out.below h5 (Nat.le_refl _)).wide (Nat.zero_le _) h5.size
          obtain ⟨rfl, -, hgs⟩ := hy0.1 (by omega)
          have b0 := hy0.int k hki
          obtain ⟨x0, x1, x2, x3, x4, x5, x6, x7⟩ := cells4 h1
          have hnk : n + k ≤ 40 := HC.out.1.2.2.1
          have hk0 : (0 : Int) ≤ (k : Int) := by omega
          have hkl : (k : Int) < (i : Int) := by omega
          have hwk : IntKind.i64.wrap ((k : Int) + 1) = (k : Int) + 1 := IntWalk.i64_in _ (by omega)
          obtain ⟨sz, hsz⟩ : ∃ s, s = y k := ⟨_, rfl⟩
          obtain ⟨fk, hfk⟩ : ∃ f, f = fre G f0 y k := ⟨_, rfl⟩
          have HPK := Lib.hid (fun (h : n + k < 40 ∧ sz ≤ fk) => (fun j hj => by
            by_cases e : j = k
            · subst e; rw [← hsz, ← hfk]; exact h
            · exact HP.out j (by omega) : ∀ j, j < k + 1 → n + j < 40 ∧ y j ≤ fre G f0 y j))
          rw [← hsz] at b0 s1 s2 HE HRK
          rw [← hfk] at hfb HE HRK HC
          have HSK := Lib.hid hsz
          clear hsz hfk
          obtain ⟨N, hN⟩ : ∃ N, N = n + k := ⟨_, rfl⟩
          rw [← hN] at HC HRK HPK h1 h2 h3 x3 hnk
          have HN := Lib.hid hN
          have H1 := Lib.hid h1
          have H3 := Lib.hid h3
          have H5 := Lib.hid h5
          have HY := Lib.hid hy0
          have hcb : n + (k + 1) = N + 1 := by omega
          have HCB := Lib.hid hcb
          clear hN h1 h3 h5 hy0 hcb
          by_cases h40 : N < 40
          rotate_left
          · have hd : decide ((40 : Int) ≤ (N : Int)) = true := decide_eq_true (by omega)
            have HQ := Lib.hid (HRK.out (fun h => h40 h.1))
            go_wp2_with fail
            go_quiet (fail)
            go_wp2_with fail
            go_ret
            exact ⟨by rw [HQ.out]; first | done | rfl, below_drewN' H5.out _⟩
          have hd : decide ((40 : Int) ≤ (N : Int)) = false := decide_eq_false (by omega)
          have hfr := Lib.hid (fun (q9 : Later wr) => Calls.later_of (by
            obtain ⟨g9, o9, q1, q2⟩ := H3.out.below q9.h
            have := sFree_any N (by unfold maxLen; omega) zk pk ck g9 o9 L G H q9.wd (q1.wide (Nat.zero_le _) (Nat.le_refl _))
            have e9 : frB L G N zk = max 0 fk := by unfold frB; rw [if_pos (okB_yes HC.out.1), HC.out.lim]
            rwa [e9] at this : Calls Try.prog 44 #[.agg #[.int .i64 L, .int .i64 G, .bool H, .slice pk N ck]] q9.wd fun e w' => e = .returned (.int .i64 (max 0 fk)) ∧ Below q9.wd.heap.size q9.wd w'))
          obtain ⟨mx, hmx⟩ : ∃ mx, mx = max 0 fk := ⟨_, rfl⟩
          rw [← hmx] at hfr
          have hmx2 : mx < sz ↔ fk < sz := by omega
          have HMX := Lib.hid hmx2
          clear hmx hmx2
          by_cases hsf : sz ≤ fk
          rotate_left
          · have hd2 : decide (mx < sz) = true := decide_eq_true (HMX.out.2 (by omega))
            have HQ := Lib.hid (HRK.out (fun h => hsf h.2))
            have l0 := Later.cell x0
            have l1 := Later.cell x1
            have l2 := Later.cell x2
            have l3 := Later.cell x3
            have l4 := Later.cell b0
            go_wp2_with fail
            refine wp_region_later follows_mixed (by kernel_rfl) ?_
            repeat (first | go_big_quiet_step ((go_at_call 44; exact hfr.out _)) | quiet_step ((go_at_call 44; exact hfr.out _)))
            refine wpQuiet_nil ?_
            intro wq hw'
            have hq : Below wr.heap.size wr wq := by obtain ⟨p, e⟩ := hw'; rw [e]; exact p.h
            clear hw'
            go_wp2_with fail
            go_ret
            exact ⟨by rw [HQ.out]; first | done | rfl, H5.out.trans (hq.mono (by omega))⟩
          have hd2 : decide (mx < sz) = false := decide_eq_false (fun h => by have := HMX.out.1 h; omega)
          have l0 := Later.cell x0
          have l1 := Later.cell x1
          have l2 := Later.cell x2
          have l3 := Later.cell x3
          have l4 := Later.cell b0
          go_wp2_with fail
          refine wp_region_later follows_mixed (by kernel_rfl) ?_
          repeat (first | go_big_quiet_step ((go_at_call 44; exact hfr.out _)) | quiet_step ((go_at_call 44; exact hfr.out _)))
          refine wpQuiet_nil ?_
          intro wq hw'
          have hq : Below wr.heap.size wr wq := by obtain ⟨p, e⟩ := hw'; rw [e]; exact p.h
          clear hw' l0 l1 l2 l3 l4 x0 x1 x2 x3 x4 x5 x6 x7 b0 hfr
          have XQ := Lib.hid ((hq.block _ h4).trans H1.out)
          have RQ := Lib.hid (H3.out.below hq)
          have BQ := Lib.hid (H5.out.trans (hq.mono (by omega)))
          have YQ := Lib.hid ((HY.out.below hq (Nat.le_refl _)).wide (Nat.zero_le _) hq.size)
          have hlq : w.heap.size < wq.heap.size := by have := hq.size; omega
          clear H1 H3 H5 HY hq
          go_upto_region 14 with fail
          have hnb := Lib.hid (fun (K : World) (hK : Below wq.heap.size wq K) => (by
            obtain ⟨g9, o9, q1, q2⟩ := RQ.out.below hK
            exact newBag_any N (by omega) zk pk ck g9 o9 L G H K (q1.wide (Nat.zero_le _) (Nat.le_refl _)) : Calls Try.prog 90 #[.agg #[.int .i64 L, .int .i64 G, .bool H, .slice pk N ck]] K fun e w' => (∃ b : Int, e = .returned (.int .i64 b) ∧ 1 ≤ b ∧ b ≤ (N : Int) + 1 ∧ ∀ j, j < N → zk (j * 3) ≠ b) ∧ Below K.heap.size K w'))
          have hcp := Lib.hid (fun (K : World) (hK : Below wq.heap.size wq K) => (by
            obtain ⟨g9, o9, q1, q2⟩ := RQ.out.below hK
            exact ⟨g9, o9, q1.wide (Nat.zero_le _) (Nat.le_refl _)⟩ : ∃ g9 o9, FlatAt K 0 K.heap.size pk g9 o9 (N * 3) (fun j => .int .i64 (zk j))))
          have hxk := Lib.hid (fun (K : World) (hK : Below wq.heap.size wq K) => cells4 ((hK.block _ hlq).trans XQ.out))
          have hyk := Lib.hid (fun (K : World) (hK : Below wq.heap.size wq K) => ((hK.cell (p := ⟨gs, os + k, none⟩) (YQ.out.1 (by omega)).2.2).trans (by rw [HSK.out]; exact YQ.out.int k hki) : K.cell? ⟨gs, os + k, none⟩ = some (.int .i64 sz)))
          have D0 : Below wq.heap.size wq wq := Below.refl _ _
          obtain ⟨x0, x1, x2, x3, x4, x5, x6, x7⟩ := hxk.out _ D0
          have b0 := hyk.out _ D0
          have hgq : gs < wq.heap.size := (YQ.out.1 (by omega)).2.2
          have hgq2 : wq.heap.size ≠ gs := by omega
          have hgq3 : gs ≠ wq.heap.size := by omega
          have hlq2 : wq.heap.size ≠ w.heap.size := by omega
          have hlq3 : w.heap.size ≠ wq.heap.size := by omega
          go_cut [] from 44 to 61 (fun wx => ∃ (bg : Int) (p2 : Option Addr) (c2 : Nat), 1 ≤ bg ∧ (∀ j, j < N → zk (j * 3) ≠ bg) ∧ wx.heap[w.heap.size]? = some (.cells #[.int .i64 L, .int .i64 G, .bool H, .slice p2 (N + 1) c2] 28 (0, 0)) ∧ N + 1 ≤ c2 ∧ RowNew wx (w.heap.size + 1) p2 ((N + 1) * 3) (nwY N zk bg sz) ∧ w.heap.size < wx.heap.size ∧ Below w.heap.size w wx)
          case first =>
            have DE : Below wq.heap.size wq (wq.drew.alloc (.cells #[] 40)) := (Below.refl _ _).drew.alloc (Nat.le_refl _) _
            obtain ⟨g9, o9, hf9⟩ := hcp.out _ DE
            have hE9 : (wq.drew.alloc (.cells #[] 40)).heap[wq.heap.size]? = some (.cells #[] 40 (0, 0)) := heap_new _ _ _ rfl
            have D0d : Below wq.heap.size wq wq.drew := D0.drew
            have hgw : gs < w.heap.size := (HSO.out.1 (by omega)).2.2
            have hgw2 : gs ≠ w.heap.size := by omega
            have hgw3 : w.heap.size ≠ gs := by omega
            clear HRR HPK HRK HSZ HP HE HC HCLO HSO HCB HN HMX ht0 hfb hsf hd hd2 hwk hk0 hG0 hG1 hk HSK
            refine wp_region_noPanic ?_
            refine wp_region_held_drew (S := fun K => K.cell? ⟨gs, os + k, none⟩ = some (.int .i64 sz)) (by kernel_rfl) (hyk.out _ D0d) (fun hHeld => ?_)
            refine wpAnyH_take (i := 1) (v := ?_) rfl (by kernel_rfl) (by kernel_rfl) (by kernel_rfl) (fun _ _ _ h => h) (Or.inl ⟨by rfl, ?_⟩) hHeld ?_
            rotate_left
            · intro wv hSw
              (try dsimp only at hSw)
              (try simp only [List.getElem_toArray, List.getElem_cons_succ, List.getElem_cons_zero])
              go_simp
              first | done | with_reducible rfl
            (try simp only [List.getElem_toArray, List.getElem_cons_succ, List.getElem_cons_zero, Act.put, List.setIfInBounds_toArray, List.set_cons_zero, List.set_cons_succ])
            refine wpAnyH_take (i := 6) (v := ?_) rfl (by kernel_rfl) (by kernel_rfl) (by kernel_rfl) (fun _ _ _ h => h) (Or.inl ⟨by rfl, ?_⟩) hHeld ?_
            rotate_left
            · intro wv hSw
              (try dsimp only at hSw)
              (try simp only [List.getElem_toArray, List.getElem_cons_succ, List.getElem_cons_zero])
              go_simp
              first | done | with_reducible rfl
            (try simp only [List.getElem_toArray, List.getElem_cons_succ, List.getElem_cons_zero, Act.put, List.setIfInBounds_toArray, List.set_cons_zero, List.set_cons_succ])
            refine wpAnyH_take (i := 7) (v := ?_) rfl (by kernel_rfl) (by kernel_rfl) (by kernel_rfl) (fun _ _ _ h => h) (Or.inl ⟨by rfl, ?_⟩) hHeld ?_
            rotate_left
            · intro wv hSw
              (try dsimp only at hSw)
              (try simp only [List.getElem_toArray, List.getElem_cons_succ, List.getElem_cons_zero])
              go_simp
              first | done | with_reducible rfl
            (try simp only [List.getElem_toArray, List.getElem_cons_succ, List.getElem_cons_zero, Act.put, List.setIfInBounds_toArray, List.set_cons_zero, List.set_cons_succ])
            refine wpAnyH_take (i := 8) (v := ?_) rfl (by kernel_rfl) (by kernel_rfl) (by kernel_rfl) (fun _ _ _ h => h) (Or.inl ⟨by rfl, ?_⟩) hHeld ?_
            rotate_left
            · intro wv hSw
              (try dsimp only at hSw)
              (try simp only [List.getElem_toArray, List.getElem_cons_succ, List.getElem_cons_zero])
              go_simp
              first | done | with_reducible rfl
            (try simp only [List.getElem_toArray, List.getElem_cons_succ, List.getElem_cons_zero, Act.put, List.setIfInBounds_toArray, List.set_cons_zero, List.set_cons_succ])
            refine wpAnyH_take (i := 9) (v := ?_) rfl (by kernel_rfl) (by kernel_rfl) (by kernel_rfl) (fun _ _ _ h => h) (Or.inl ⟨by rfl, ?_⟩) hHeld ?_
            rotate_left
            · intro wv hSw
              (try dsimp only at hSw)
              (try simp only [List.getElem_toArray, List.getElem_cons_succ, List.getElem_cons_zero])
              go_simp
              first | done | with_reducible rfl
            (try simp only [List.getElem_toArray, List.getElem_cons_succ, List.getElem_cons_zero, Act.put, List.setIfInBounds_toArray, List.set_cons_zero, List.set_cons_succ])
            refine wpAnyH_take (i := 10) (v := ?_) rfl (by kernel_rfl) (by kernel_rfl) (by kernel_rfl) (fun _ _ _ h => h) (Or.inl ⟨by rfl, ?_⟩) hHeld ?_
            rotate_left
            · intro wv hSw
              (try dsimp only at hSw)
              (try simp only [List.getElem_toArray, List.getElem_cons_succ, List.getElem_cons_zero])
              go_simp
              first | done | with_reducible rfl
            (try simp only [List.getElem_toArray, List.getElem_cons_succ, List.getElem_cons_zero, Act.put, List.setIfInBounds_toArray, List.set_cons_zero, List.set_cons_succ])
            refine wpAnyH_take (i := 11) (v := ?_) rfl (by kernel_rfl) (by kernel_rfl) (by kernel_rfl) (fun _ _ _ h => h) (Or.inl ⟨by rfl, ?_⟩) hHeld ?_
            rotate_left
            · intro wv hSw
              (try dsimp only at hSw)
              (try simp only [List.getElem_toArray, List.getElem_cons_succ, List.getElem_cons_zero])
              go_simp
              first | done | with_reducible rfl
            (try simp only [List.getElem_toArray, List.getElem_cons_succ, List.getElem_cons_zero, Act.put, List.setIfInBounds_toArray, List.set_cons_zero, List.set_cons_succ])
            refine wpAnyH_take (i := 12) (v := ?_) rfl (by kernel_rfl) (by kernel_rfl) (by kernel_rfl) (fun _ _ _ h => h) (Or.inl ⟨by rfl, ?_⟩) hHeld ?_
            rotate_left
            · intro wv hSw
              (try dsimp only at hSw)
              (try simp only [List.getElem_toArray, List.getElem_cons_succ, List.getElem_cons_zero])
              go_simp
              first | done | with_reducible rfl
            (try simp only [List.getElem_toArray, List.getElem_cons_succ, List.getElem_cons_zero, Act.put, List.setIfInBounds_toArray, List.set_cons_zero, List.set_cons_succ])
            refine wpAnyH_take (i := 13) (v := ?_) rfl (by kernel_rfl) (by kernel_rfl) (by kernel_rfl) (fun _ _ _ h => h) (Or.inl ⟨by rfl, ?_⟩) hHeld ?_
            rotate_left
            · intro wv hSw
              (try dsimp only at hSw)
              (try simp only [List.getElem_toArray, List.getElem_cons_succ, List.getElem_cons_zero])
              go_simp
              first | done | with_reducible rfl
            (try simp only [List.getElem_toArray, List.getElem_cons_succ, List.getElem_cons_zero, Act.put, List.setIfInBounds_toArray, List.set_cons_zero, List.set_cons_succ])
            refine wpAnyH_ready (rs := [0, 2, 4]) (by kernel_rfl) (by simp) ?_
            refine AllReadyH.cons rfl (fun K hK => ?_) ?_
            · (try simp only [List.getElem_toArray, List.getElem_cons_succ, List.getElem_cons_zero])
              go_simp
              refine hK.out _ _ (hyk.out _ DE) (fun hHeld => ?_)
              clear hK K
              (try simp only [List.getElem_toArray, List.getElem_cons_succ, List.getElem_cons_zero, Act.put, List.setIfInBounds_toArray, List.set_cons_zero, List.set_cons_succ])
              refine wpAnyH_ready (rs := [2, 4]) (by kernel_rfl) (by simp) ?_
              refine AllReadyH.cons rfl (fun K hK => ?_) ?_
              · (try simp only [List.getElem_toArray, List.getElem_cons_succ, List.getElem_cons_zero])
                go_simp
                refine hK.out _ _ (hyk.out _ DE) (fun hHeld => ?_)
                clear hK K
                (try simp only [List.getElem_toArray, List.getElem_cons_succ, List.getElem_cons_zero, Act.put, List.setIfInBounds_toArray, List.set_cons_zero, List.set_cons_succ])
                refine wpAnyH_ready (rs := [3, 4]) (by kernel_rfl) (by simp) ?_
                refine AllReadyH.cons rfl (fun K hK => ?_) ?_
                · skip
                  refine step_copy _ (by rfl) _ _ _ (by rfl) wq.heap.size 40 i0 (.agg #[.int .i64 0, .int .i64 0, .int .i64 0]) 3 24 Try.underlying26 hi hz0 hz1 hzB rfl (by decide) wq.heap.size (by rfl) hE9 (Nat.le_refl _) pk N ck (by rfl) 0 _ g9 o9 (fun j => .int .i64 (zk j)) hf9 (fun _ _ => rfl) (by unfold maxLen; omega) (by omega) ?_
                  intro pc cc1 w5 hcc hown5 hg5
                  have D5 : Below wq.heap.size wq w5 := DE.trans (below_grown hg5 (by simp) (by intro k hk; injection hk with hk; omega))
                  obtain ⟨v0, v1, v2, v3, v4, v5, v6, v7⟩ := hxk.out _ D5
                  refine hK.out _ _ (hyk.out _ D5) (fun hHeld => ?_)
                  clear hK K
                  (try simp only [List.getElem_toArray, List.getElem_cons_succ, List.getElem_cons_zero, Act.put, List.setIfInBounds_toArray, List.set_cons_zero, List.set_cons_succ])
                  refine wpAnyH_ready (rs := [4]) (by kernel_rfl) (by simp) ?_
                  refine AllReadyH.cons rfl (fun K hK => ?_) ?_
                  · (try simp only [List.getElem_toArray, List.getElem_cons_succ, List.getElem_cons_zero])
                    go_simp
                    refine hK.out _ _ (hyk.out _ D5) (fun hHeld => ?_)
                    clear hK K
                    (try simp only [List.getElem_toArray, List.getElem_cons_succ, List.getElem_cons_zero, Act.put, List.setIfInBounds_toArray, List.set_cons_zero, List.set_cons_succ])
                    refine wpAnyH_ready (rs := [5]) (by kernel_rfl) (by simp) ?_
                    refine AllReadyH.cons rfl (fun K hK => ?_) ?_
                    · (try simp only [List.getElem_toArray, List.getElem_cons_succ, List.getElem_cons_zero])
                      go_simp
                      go_at_call 90
                      refine (hnb.out _ D5).mono ?_
                      rintro e kk ⟨⟨bg, rfl, g1, g2, g3⟩, hbk⟩
                      have Dk : Below wq.heap.size wq kk := D5.trans (hbk.mono D5.size)
                      have hsk := Dk.size
                      have hownk : kk.ownsRow wq.heap.size 40 3 (.slice pc N cc1) N ((List.range (N * 3)).map (fun j => .int .i64 (zk j))) := hown5.kept (row := none) ⟨hbk.os, hbk.tape, hbk.output, hbk.size, fun k hk _ => hbk.block k hk⟩ (by cases hv : (Value.slice pc N cc1).ownBlock <;> simp)
                      have kk0 : kk.heap.size ≠ w.heap.size := by omega
                      have kk1 : w.heap.size ≠ kk.heap.size := by omega
                      have kk2 : kk.heap.size ≠ gs := by omega
                      have kk3 : gs ≠ kk.heap.size := by omega
                      try go_wp2_with fail
                      refine hK.out _ _ (hyk.out _ Dk) (fun hHeld => ?_)
                      clear hK K
                      (try simp only [List.getElem_toArray, List.getElem_cons_succ, List.getElem_cons_zero, Act.put, List.setIfInBounds_toArray, List.set_cons_zero, List.set_cons_succ])
                      refine wpAnyH_ready (rs := [14]) (by kernel_rfl) (by simp) ?_
                      refine AllReadyH.cons rfl (fun K hK => ?_) ?_
                      · (try simp only [List.getElem_toArray, List.getElem_cons_succ, List.getElem_cons_zero])
                        go_simp
                        refine hK.out _ _ (hyk.out _ Dk) (fun hHeld => ?_)
                        clear hK K
                        (try simp only [List.getElem_toArray, List.getElem_cons_succ, List.getElem_cons_zero, Act.put, List.setIfInBounds_toArray, List.set_cons_zero, List.set_cons_succ])
                        refine wpAnyH_ready (rs := [15]) (by kernel_rfl) (by simp) ?_
                        refine AllReadyH.cons rfl (fun K hK => ?_) ?_
                        · (try simp only [List.getElem_toArray, List.getElem_cons_succ, List.getElem_cons_zero])
                          go_simp
                          refine hK.out _ _ (hyk.out _ (Dk.alloc hsk _)) (fun hHeld => ?_)
                          clear hK K
                          (try simp only [List.getElem_toArray, List.getElem_cons_succ, List.getElem_cons_zero, Act.put, List.setIfInBounds_toArray, List.set_cons_zero, List.set_cons_succ])
                          refine wpAnyH_ready (rs := [16]) (by kernel_rfl) (by simp) ?_
                          refine AllReadyH.cons rfl (fun K hK => ?_) ?_
                          · skip
                            refine step_append_lies _ (by rfl) _ _ _ (by rfl) wq.heap.size 40 i0 (.agg #[.int .i64 0, .int .i64 0, .int .i64 0]) 3 24 Try.underlying26 hi hz0 hz1 hzB rfl (by decide) _ N _ (by rfl) (hownk.alloc _) ⟨kk.heap.size, 0, none⟩ 1 1 [.int .i64 bg, .int .i64 sz, .int .i64 sz] (by rfl) (by rfl) (World.news_of_block (cs := #[.int .i64 bg, .int .i64 sz, .int .i64 sz]) (t := 40) (fr := (0, 0)) (heap_alloc_new kk _)) (by simp [Value.oneCell']) (by omega) (by unfold maxLen; omega) (by omega) (by simp; omega) (kk.heap.size + 1) (by simp) ?_
                            intro gg cap8 w8 hown8 hgrow8 hat8 hlt8
                            have D8 : Below wq.heap.size wq w8 := (Dk.alloc hsk _).grown hgrow8 (by simp; omega) (fun j hj => (hownk.lt j hj).1)
                            obtain ⟨t0, t1, t2, t3, t4, t5, t6, t7⟩ := hxk.out _ D8
                            refine hK.out _ _ (hyk.out _ D8) (fun hHeld => ?_)
                            clear hK K
                            (try simp only [List.getElem_toArray, List.getElem_cons_succ, List.getElem_cons_zero, Act.put, List.setIfInBounds_toArray, List.set_cons_zero, List.set_cons_succ])
                            refine wpAnyH_ready (rs := [17]) (by kernel_rfl) (by simp) ?_
                            refine AllReadyH.cons rfl (fun K hK => ?_) ?_
                            · (try simp only [List.getElem_toArray, List.getElem_cons_succ, List.getElem_cons_zero])
                              go_simp
                              refine hK.out _ _ (hyk.out _ D8) (fun hHeld => ?_)
                              clear hK K
                              (try simp only [List.getElem_toArray, List.getElem_cons_succ, List.getElem_cons_zero, Act.put, List.setIfInBounds_toArray, List.set_cons_zero, List.set_cons_succ])
                              refine wpAnyH_ready (rs := [18]) (by kernel_rfl) (by simp) ?_
                              refine AllReadyH.cons rfl (fun K hK => ?_) ?_
                              · (try simp only [List.getElem_toArray, List.getElem_cons_succ, List.getElem_cons_zero])
                                go_simp
                                refine hK.out _ _ (by rw [World.cell?_setCell_far _ _ _ _ (by show w.heap.size ≠ gs; omega)]; exact hyk.out _ D8) (fun hHeld => ?_)
                                clear hK K
                                (try simp only [List.getElem_toArray, List.getElem_cons_succ, List.getElem_cons_zero, Act.put, List.setIfInBounds_toArray, List.set_cons_zero, List.set_cons_succ])
                                refine wpAnyH_done (by kernel_rfl) ?_ _
                                refine NoPanic.normal ?_
                                go_wp2_with fail
                                go_meet
                                go_light
                                have hnx : N + 1 ≤ cap8 := by
                                  rcases hown8.2 with ⟨e, -⟩ | ⟨_, _, _, e, -, -, hle, -⟩
                                  · cases e
                                  · injection e with _ _ e; omega
                                have hfl : FlatAt w8 wq.heap.size w8.heap.size (some ⟨gg, 0, none⟩) gg 0 ((N + 1) * 3) (fun j => .int .i64 (nwY N zk bg sz j)) ∧ FreeAt w8 gg 0 ((N + 1) * 3) := by
                                  obtain ⟨g0, q1, q2⟩ := FlatAt.of_own (f := fun j => .int .i64 (nwY N zk bg sz j)) hown8 (fun j hj => by
                                    unfold nwY
                                    by_cases e3 : j < N * 3
                                    · rw [List.getElem?_append_left (by simpa using e3), List.getElem?_map, List.getElem?_range e3, if_pos e3]; rfl
                                    · rw [List.getElem?_append_right (by simp; omega), if_neg e3]
                                      simp only [List.length_map, List.length_range]
                                      by_cases h1 : j = N * 3
                                      · rw [if_pos h1, show j - N * 3 = 0 by omega]; rfl
                                      · rw [if_neg h1]
                                        by_cases h2 : j = N * 3 + 1
                                        · rw [show j - N * 3 = 1 by omega]; rfl
                                        · rw [show j - N * 3 = 2 by omega]; rfl)
                                  obtain ⟨e, -, -⟩ := q1.1 (by omega)
                                  injection e with e
                                  injection e with e
                                  subst e
                                  exact ⟨q1, q2⟩
                                have hxw := (D8.block _ hlq).trans XQ.out
                                refine ⟨bg, some ⟨gg, 0, none⟩, cap8, g1, g3, blk_set hxw _, hnx, RowNew.of_flat ((hfl.1.far _ (.inl (by show w.heap.size < wq.heap.size; omega)))) (hfl.2.set _ _) (by omega) (by simp [World.setCell]), by have := D8.size; simp [World.setCell]; omega, (BQ.out.trans (D8.mono (by omega))).setCell (Nat.le_refl _) _⟩
                              exact AllReadyH.nil
                            exact AllReadyH.nil
                          exact AllReadyH.nil
                        exact AllReadyH.nil
                      exact AllReadyH.nil
                    exact AllReadyH.nil
                  exact AllReadyH.nil
                refine AllReadyH.cons rfl (fun K hK => ?_) ?_
                · (try simp only [List.getElem_toArray, List.getElem_cons_succ, List.getElem_cons_zero])
                  go_simp
                  refine hK.out _ _ (hyk.out _ DE) (fun hHeld => ?_)
                  clear hK K
                  (try simp only [List.getElem_toArray, List.getElem_cons_succ, List.getElem_cons_zero, Act.put, List.setIfInBounds_toArray, List.set_cons_zero, List.set_cons_succ])
                  refine wpAnyH_ready (rs := [3]) (by kernel_rfl) (by simp) ?_
                  refine AllReadyH.cons rfl (fun K hK => ?_) ?_
                  · skip
                    refine step_copy _ (by rfl) _ _ _ (by rfl) wq.heap.size 40 i0 (.agg #[.int .i64 0, .int .i64 0, .int .i64 0]) 3 24 Try.underlying26 hi hz0 hz1 hzB rfl (by decide) wq.heap.size (by rfl) hE9 (Nat.le_refl _) pk N ck (by rfl) 0 _ g9 o9 (fun j => .int .i64 (zk j)) hf9 (fun _ _ => rfl) (by unfold maxLen; omega) (by omega) ?_
                    intro pc cc1 w5 hcc hown5 hg5
                    have D5 : Below wq.heap.size wq w5 := DE.trans (below_grown hg5 (by simp) (by intro k hk; injection hk with hk; omega))
                    obtain ⟨v0, v1, v2, v3, v4, v5, v6, v7⟩ := hxk.out _ D5
                    refine hK.out _ _ (hyk.out _ D5) (fun hHeld => ?_)
                    clear hK K
                    (try simp only [List.getElem_toArray, List.getElem_cons_succ, List.getElem_cons_zero, Act.put, List.setIfInBounds_toArray, List.set_cons_zero, List.set_cons_succ])
                    refine wpAnyH_ready (rs := [5]) (by kernel_rfl) (by simp) ?_
                    refine AllReadyH.cons rfl (fun K hK => ?_) ?_
                    · (try simp only [List.getElem_toArray, List.getElem_cons_succ, List.getElem_cons_zero])
                      go_simp
                      go_at_call 90
                      refine (hnb.out _ D5).mono ?_
                      rintro e kk ⟨⟨bg, rfl, g1, g2, g3⟩, hbk⟩
                      have Dk : Below wq.heap.size wq kk := D5.trans (hbk.mono D5.size)
                      have hsk := Dk.size
                      have hownk : kk.ownsRow wq.heap.size 40 3 (.slice pc N cc1) N ((List.range (N * 3)).map (fun j => .int .i64 (zk j))) := hown5.kept (row := none) ⟨hbk.os, hbk.tape, hbk.output, hbk.size, fun k hk _ => hbk.block k hk⟩ (by cases hv : (Value.slice pc N cc1).ownBlock <;> simp)
                      have kk0 : kk.heap.size ≠ w.heap.size := by omega
                      have kk1 : w.heap.size ≠ kk.heap.size := by omega
                      have kk2 : kk.heap.size ≠ gs := by omega
                      have kk3 : gs ≠ kk.heap.size := by omega
                      try go_wp2_with fail
                      refine hK.out _ _ (hyk.out _ Dk) (fun hHeld => ?_)
                      clear hK K
                      (try simp only [List.getElem_toArray, List.getElem_cons_succ, List.getElem_cons_zero, Act.put, List.setIfInBounds_toArray, List.set_cons_zero, List.set_cons_succ])
                      refine wpAnyH_ready (rs := [14]) (by kernel_rfl) (by simp) ?_
                      refine AllReadyH.cons rfl (fun K hK => ?_) ?_
                      · (try simp only [List.getElem_toArray, List.getElem_cons_succ, List.getElem_cons_zero])
                        go_simp
                        refine hK.out _ _ (hyk.out _ Dk) (fun hHeld => ?_)
                        clear hK K
                        (try simp only [List.getElem_toArray, List.getElem_cons_succ, List.getElem_cons_zero, Act.put, List.setIfInBounds_toArray, List.set_cons_zero, List.set_cons_succ])
                        refine wpAnyH_ready (rs := [15]) (by kernel_rfl) (by simp) ?_
                        refine AllReadyH.cons rfl (fun K hK => ?_) ?_
                        · (try simp only [List.getElem_toArray, List.getElem_cons_succ, List.getElem_cons_zero])
                          go_simp
                          refine hK.out _ _ (hyk.out _ (Dk.alloc hsk _)) (fun hHeld => ?_)
                          clear hK K
                          (try simp only [List.getElem_toArray, List.getElem_cons_succ, List.getElem_cons_zero, Act.put, List.setIfInBounds_toArray, List.set_cons_zero, List.set_cons_succ])
                          refine wpAnyH_ready (rs := [16]) (by kernel_rfl) (by simp) ?_
                          refine AllReadyH.cons rfl (fun K hK => ?_) ?_
                          · skip
                            refine step_append_lies _ (by rfl) _ _ _ (by rfl) wq.heap.size 40 i0 (.agg #[.int .i64 0, .int .i64 0, .int .i64 0]) 3 24 Try.underlying26 hi hz0 hz1 hzB rfl (by decide) _ N _ (by rfl) (hownk.alloc _) ⟨kk.heap.size, 0, none⟩ 1 1 [.int .i64 bg, .int .i64 sz, .int .i64 sz] (by rfl) (by rfl) (World.news_of_block (cs := #[.int .i64 bg, .int .i64 sz, .int .i64 sz]) (t := 40) (fr := (0, 0)) (heap_alloc_new kk _)) (by simp [Value.oneCell']) (by omega) (by unfold maxLen; omega) (by omega) (by simp; omega) (kk.heap.size + 1) (by simp) ?_
                            intro gg cap8 w8 hown8 hgrow8 hat8 hlt8
                            have D8 : Below wq.heap.size wq w8 := (Dk.alloc hsk _).grown hgrow8 (by simp; omega) (fun j hj => (hownk.lt j hj).1)
                            obtain ⟨t0, t1, t2, t3, t4, t5, t6, t7⟩ := hxk.out _ D8
                            refine hK.out _ _ (hyk.out _ D8) (fun hHeld => ?_)
                            clear hK K
                            (try simp only [List.getElem_toArray, List.getElem_cons_succ, List.getElem_cons_zero, Act.put, List.setIfInBounds_toArray, List.set_cons_zero, List.set_cons_succ])
                            refine wpAnyH_ready (rs := [17]) (by kernel_rfl) (by simp) ?_
                            refine AllReadyH.cons rfl (fun K hK => ?_) ?_
                            · (try simp only [List.getElem_toArray, List.getElem_cons_succ, List.getElem_cons_zero])
                              go_simp
                              refine hK.out _ _ (hyk.out _ D8) (fun hHeld => ?_)
                              clear hK K
                              (try simp only [List.getElem_toArray, List.getElem_cons_succ, List.getElem_cons_zero, Act.put, List.setIfInBounds_toArray, List.set_cons_zero, List.set_cons_succ])
                              refine wpAnyH_ready (rs := [18]) (by kernel_rfl) (by simp) ?_
                              refine AllReadyH.cons rfl (fun K hK => ?_) ?_
                              · (try simp only [List.getElem_toArray, List.getElem_cons_succ, List.getElem_cons_zero])
                                go_simp
                                refine hK.out _ _ (by rw [World.cell?_setCell_far _ _ _ _ (by show w.heap.size ≠ gs; omega)]; exact hyk.out _ D8) (fun hHeld => ?_)
                                clear hK K
                                (try simp only [List.getElem_toArray, List.getElem_cons_succ, List.getElem_cons_zero, Act.put, List.setIfInBounds_toArray, List.set_cons_zero, List.set_cons_succ])
                                refine wpAnyH_done (by kernel_rfl) ?_ _
                                refine NoPanic.normal ?_
                                go_wp2_with fail
                                go_meet
                                go_light
                                have hnx : N + 1 ≤ cap8 := by
                                  rcases hown8.2 with ⟨e, -⟩ | ⟨_, _, _, e, -, -, hle, -⟩
                                  · cases e
                                  · injection e with _ _ e; omega
                                have hfl : FlatAt w8 wq.heap.size w8.heap.size (some ⟨gg, 0, none⟩) gg 0 ((N + 1) * 3) (fun j => .int .i64 (nwY N zk bg sz j)) ∧ FreeAt w8 gg 0 ((N + 1) * 3) := by
                                  obtain ⟨g0, q1, q2⟩ := FlatAt.of_own (f := fun j => .int .i64 (nwY N zk bg sz j)) hown8 (fun j hj => by
                                    unfold nwY
                                    by_cases e3 : j < N * 3
                                    · rw [List.getElem?_append_left (by simpa using e3), List.getElem?_map, List.getElem?_range e3, if_pos e3]; rfl
                                    · rw [List.getElem?_append_right (by simp; omega), if_neg e3]
                                      simp only [List.length_map, List.length_range]
                                      by_cases h1 : j = N * 3
                                      · rw [if_pos h1, show j - N * 3 = 0 by omega]; rfl
                                      · rw [if_neg h1]
                                        by_cases h2 : j = N * 3 + 1
                                        · rw [show j - N * 3 = 1 by omega]; rfl
                                        · rw [show j - N * 3 = 2 by omega]; rfl)
                                  obtain ⟨e, -, -⟩ := q1.1 (by omega)
                                  injection e with e
                                  injection e with e
                                  subst e
                                  exact ⟨q1, q2⟩
                                have hxw := (D8.block _ hlq).trans XQ.out
                                refine ⟨bg, some ⟨gg, 0, none⟩, cap8, g1, g3, blk_set hxw _, hnx, RowNew.of_flat ((hfl.1.far _ (.inl (by show w.heap.size < wq.heap.size; omega)))) (hfl.2.set _ _) (by omega) (by simp [World.setCell]), by have := D8.size; simp [World.setCell]; omega, (BQ.out.trans (D8.mono (by omega))).setCell (Nat.le_refl _) _⟩
                              exact AllReadyH.nil
                            exact AllReadyH.nil
                          exact AllReadyH.nil
                        exact AllReadyH.nil
                      exact AllReadyH.nil
                    exact AllReadyH.nil
                  exact AllReadyH.nil
                exact AllReadyH.nil
              refine AllReadyH.cons rfl (fun K hK => ?_) ?_
              · (try simp only [List.getElem_toArray, List.getElem_cons_succ, List.getElem_cons_zero])
                go_simp
                refine hK.out _ _ (hyk.out _ DE) (fun hHeld => ?_)
                clear hK K
                (try simp only [List.getElem_toArray, List.getElem_cons_succ, List.getElem_cons_zero, Act.put, List.setIfInBounds_toArray, List.set_cons_zero, List.set_cons_succ])
                refine wpAnyH_ready (rs := [2]) (by kernel_rfl) (by simp) ?_
                refine AllReadyH.cons rfl (fun K hK => ?_) ?_
                · (try simp only [List.getElem_toArray, List.getElem_cons_succ, List.getElem_cons_zero])
                  go_simp
                  refine hK.out _ _ (hyk.out _ DE) (fun hHeld => ?_)
                  clear hK K
                  (try simp only [List.getElem_toArray, List.getElem_cons_succ, List.getElem_cons_zero, Act.put, List.setIfInBounds_toArray, List.set_cons_zero, List.set_cons_succ])
                  refine wpAnyH_ready (rs := [3]) (by kernel_rfl) (by simp) ?_
                  refine AllReadyH.cons rfl (fun K hK => ?_) ?_
                  · skip
                    refine step_copy _ (by rfl) _ _ _ (by rfl) wq.heap.size 40 i0 (.agg #[.int .i64 0, .int .i64 0, .int .i64 0]) 3 24 Try.underlying26 hi hz0 hz1 hzB rfl (by decide) wq.heap.size (by rfl) hE9 (Nat.le_refl _) pk N ck (by rfl) 0 _ g9 o9 (fun j => .int .i64 (zk j)) hf9 (fun _ _ => rfl) (by unfold maxLen; omega) (by omega) ?_
                    intro pc cc1 w5 hcc hown5 hg5
                    have D5 : Below wq.heap.size wq w5 := DE.trans (below_grown hg5 (by simp) (by intro k hk; injection hk with hk; omega))
                    obtain ⟨v0, v1, v2, v3, v4, v5, v6, v7⟩ := hxk.out _ D5
                    refine hK.out _ _ (hyk.out _ D5) (fun hHeld => ?_)
                    clear hK K
                    (try simp only [List.getElem_toArray, List.getElem_cons_succ, List.getElem_cons_zero, Act.put, List.setIfInBounds_toArray, List.set_cons_zero, List.set_cons_succ])
                    refine wpAnyH_ready (rs := [5]) (by kernel_rfl) (by simp) ?_
                    refine AllReadyH.cons rfl (fun K hK => ?_) ?_
                    · (try simp only [List.getElem_toArray, List.getElem_cons_succ, List.getElem_cons_zero])
                      go_simp
                      go_at_call 90
                      refine (hnb.out _ D5).mono ?_
                      rintro e kk ⟨⟨bg, rfl, g1, g2, g3⟩, hbk⟩
                      have Dk : Below wq.heap.size wq kk := D5.trans (hbk.mono D5.size)
                      have hsk := Dk.size
                      have hownk : kk.ownsRow wq.heap.size 40 3 (.slice pc N cc1) N ((List.range (N * 3)).map (fun j => .int .i64 (zk j))) := hown5.kept (row := none) ⟨hbk.os, hbk.tape, hbk.output, hbk.size, fun k hk _ => hbk.block k hk⟩ (by cases hv : (Value.slice pc N cc1).ownBlock <;> simp)
                      have kk0 : kk.heap.size ≠ w.heap.size := by omega
                      have kk1 : w.heap.size ≠ kk.heap.size := by omega
                      have kk2 : kk.heap.size ≠ gs := by omega
                      have kk3 : gs ≠ kk.heap.size := by omega
                      try go_wp2_with fail
                      refine hK.out _ _ (hyk.out _ Dk) (fun hHeld => ?_)
                      clear hK K
                      (try simp only [List.getElem_toArray, List.getElem_cons_succ, List.getElem_cons_zero, Act.put, List.setIfInBounds_toArray, List.set_cons_zero, List.set_cons_succ])
                      refine wpAnyH_ready (rs := [14]) (by kernel_rfl) (by simp) ?_
                      refine AllReadyH.cons rfl (fun K hK => ?_) ?_
                      · (try simp only [List.getElem_toArray, List.getElem_cons_succ, List.getElem_cons_zero])
                        go_simp
                        refine hK.out _ _ (hyk.out _ Dk) (fun hHeld => ?_)
                        clear hK K
                        (try simp only [List.getElem_toArray, List.getElem_cons_succ, List.getElem_cons_zero, Act.put, List.setIfInBounds_toArray, List.set_cons_zero, List.set_cons_succ])
                        refine wpAnyH_ready (rs := [15]) (by kernel_rfl) (by simp) ?_
                        refine AllReadyH.cons rfl (fun K hK => ?_) ?_
                        · (try simp only [List.getElem_toArray, List.getElem_cons_succ, List.getElem_cons_zero])
                          go_simp
                          refine hK.out _ _ (hyk.out _ (Dk.alloc hsk _)) (fun hHeld => ?_)
                          clear hK K
                          (try simp only [List.getElem_toArray, List.getElem_cons_succ, List.getElem_cons_zero, Act.put, List.setIfInBounds_toArray, List.set_cons_zero, List.set_cons_succ])
                          refine wpAnyH_ready (rs := [16]) (by kernel_rfl) (by simp) ?_
                          refine AllReadyH.cons rfl (fun K hK => ?_) ?_
                          · skip
                            refine step_append_lies _ (by rfl) _ _ _ (by rfl) wq.heap.size 40 i0 (.agg #[.int .i64 0, .int .i64 0, .int .i64 0]) 3 24 Try.underlying26 hi hz0 hz1 hzB rfl (by decide) _ N _ (by rfl) (hownk.alloc _) ⟨kk.heap.size, 0, none⟩ 1 1 [.int .i64 bg, .int .i64 sz, .int .i64 sz] (by rfl) (by rfl) (World.news_of_block (cs := #[.int .i64 bg, .int .i64 sz, .int .i64 sz]) (t := 40) (fr := (0, 0)) (heap_alloc_new kk _)) (by simp [Value.oneCell']) (by omega) (by unfold maxLen; omega) (by omega) (by simp; omega) (kk.heap.size + 1) (by simp) ?_
                            intro gg cap8 w8 hown8 hgrow8 hat8 hlt8
                            have D8 : Below wq.heap.size wq w8 := (Dk.alloc hsk _).grown hgrow8 (by simp; omega) (fun j hj => (hownk.lt j hj).1)
                            obtain ⟨t0, t1, t2, t3, t4, t5, t6, t7⟩ := hxk.out _ D8
                            refine hK.out _ _ (hyk.out _ D8) (fun hHeld => ?_)
                            clear hK K
                            (try simp only [List.getElem_toArray, List.getElem_cons_succ, List.getElem_cons_zero, Act.put, List.setIfInBounds_toArray, List.set_cons_zero, List.set_cons_succ])
                            refine wpAnyH_ready (rs := [17]) (by kernel_rfl) (by simp) ?_
                            refine AllReadyH.cons rfl (fun K hK => ?_) ?_
                            · (try simp only [List.getElem_toArray, List.getElem_cons_succ, List.getElem_cons_zero])
                              go_simp
                              refine hK.out _ _ (hyk.out _ D8) (fun hHeld => ?_)
                              clear hK K
                              (try simp only [List.getElem_toArray, List.getElem_cons_succ, List.getElem_cons_zero, Act.put, List.setIfInBounds_toArray, List.set_cons_zero, List.set_cons_succ])
                              refine wpAnyH_ready (rs := [18]) (by kernel_rfl) (by simp) ?_
                              refine AllReadyH.cons rfl (fun K hK => ?_) ?_
                              · (try simp only [List.getElem_toArray, List.getElem_cons_succ, List.getElem_cons_zero])
                                go_simp
                                refine hK.out _ _ (by rw [World.cell?_setCell_far _ _ _ _ (by show w.heap.size ≠ gs; omega)]; exact hyk.out _ D8) (fun hHeld => ?_)
                                clear hK K
                                (try simp only [List.getElem_toArray, List.getElem_cons_succ, List.getElem_cons_zero, Act.put, List.setIfInBounds_toArray, List.set_cons_zero, List.set_cons_succ])
                                refine wpAnyH_done (by kernel_rfl) ?_ _
                                refine NoPanic.normal ?_
                                go_wp2_with fail
                                go_meet
                                go_light
                                have hnx : N + 1 ≤ cap8 := by
                                  rcases hown8.2 with ⟨e, -⟩ | ⟨_, _, _, e, -, -, hle, -⟩
                                  · cases e
                                  · injection e with _ _ e; omega
                                have hfl : FlatAt w8 wq.heap.size w8.heap.size (some ⟨gg, 0, none⟩) gg 0 ((N + 1) * 3) (fun j => .int .i64 (nwY N zk bg sz j)) ∧ FreeAt w8 gg 0 ((N + 1) * 3) := by
                                  obtain ⟨g0, q1, q2⟩ := FlatAt.of_own (f := fun j => .int .i64 (nwY N zk bg sz j)) hown8 (fun j hj => by
                                    unfold nwY
                                    by_cases e3 : j < N * 3
                                    · rw [List.getElem?_append_left (by simpa using e3), List.getElem?_map, List.getElem?_range e3, if_pos e3]; rfl
                                    · rw [List.getElem?_append_right (by simp; omega), if_neg e3]
                                      simp only [List.length_map, List.length_range]
                                      by_cases h1 : j = N * 3
                                      · rw [if_pos h1, show j - N * 3 = 0 by omega]; rfl
                                      · rw [if_neg h1]
                                        by_cases h2 : j = N * 3 + 1
                                        · rw [show j - N * 3 = 1 by omega]; rfl
                                        · rw [show j - N * 3 = 2 by omega]; rfl)
                                  obtain ⟨e, -, -⟩ := q1.1 (by omega)
                                  injection e with e
                                  injection e with e
                                  subst e
                                  exact ⟨q1, q2⟩
                                have hxw := (D8.block _ hlq).trans XQ.out
                                refine ⟨bg, some ⟨gg, 0, none⟩, cap8, g1, g3, blk_set hxw _, hnx, RowNew.of_flat ((hfl.1.far _ (.inl (by show w.heap.size < wq.heap.size; omega)))) (hfl.2.set _ _) (by omega) (by simp [World.setCell]), by have := D8.size; simp [World.setCell]; omega, (BQ.out.trans (D8.mono (by omega))).setCell (Nat.le_refl _) _⟩
                              exact AllReadyH.nil
                            exact AllReadyH.nil
                          exact AllReadyH.nil
                        exact AllReadyH.nil
                      exact AllReadyH.nil
                    exact AllReadyH.nil
                  exact AllReadyH.nil
                exact AllReadyH.nil
              exact AllReadyH.nil
            refine AllReadyH.cons rfl (fun K hK => ?_) ?_
            · (try simp only [List.getElem_toArray, List.getElem_cons_succ, List.getElem_cons_zero])
              go_simp
              refine hK.out _ _ (hyk.out _ D0d) (fun hHeld => ?_)
              clear hK K
              (try simp only [List.getElem_toArray, List.getElem_cons_succ, List.getElem_cons_zero, Act.put, List.setIfInBounds_toArray, List.set_cons_zero, List.set_cons_succ])
              refine wpAnyH_ready (rs := [0, 4]) (by kernel_rfl) (by simp) ?_
              refine AllReadyH.cons rfl (fun K hK => ?_) ?_
              · (try simp only [List.getElem_toArray, List.getElem_cons_succ, List.getElem_cons_zero])
                go_simp
                refine hK.out _ _ (hyk.out _ DE) (fun hHeld => ?_)
                clear hK K
                (try simp only [List.getElem_toArray, List.getElem_cons_succ, List.getElem_cons_zero, Act.put, List.setIfInBounds_toArray, List.set_cons_zero, List.set_cons_succ])
                refine wpAnyH_ready (rs := [3, 4]) (by kernel_rfl) (by simp) ?_
                refine AllReadyH.cons rfl (fun K hK => ?_) ?_
                · skip
                  refine step_copy _ (by rfl) _ _ _ (by rfl) wq.heap.size 40 i0 (.agg #[.int .i64 0, .int .i64 0, .int .i64 0]) 3 24 Try.underlying26 hi hz0 hz1 hzB rfl (by decide) wq.heap.size (by rfl) hE9 (Nat.le_refl _) pk N ck (by rfl) 0 _ g9 o9 (fun j => .int .i64 (zk j)) hf9 (fun _ _ => rfl) (by unfold maxLen; omega) (by omega) ?_
                  intro pc cc1 w5 hcc hown5 hg5
                  have D5 : Below wq.heap.size wq w5 := DE.trans (below_grown hg5 (by simp) (by intro k hk; injection hk with hk; omega))
                  obtain ⟨v0, v1, v2, v3, v4, v5, v6, v7⟩ := hxk.out _ D5
                  refine hK.out _ _ (hyk.out _ D5) (fun hHeld => ?_)
                  clear hK K
                  (try simp only [List.getElem_toArray, List.getElem_cons_succ, List.getElem_cons_zero, Act.put, List.setIfInBounds_toArray, List.set_cons_zero, List.set_cons_succ])
                  refine wpAnyH_ready (rs := [4]) (by kernel_rfl) (by simp) ?_
                  refine AllReadyH.cons rfl (fun K hK => ?_) ?_
                  · (try simp only [List.getElem_toArray, List.getElem_cons_succ, List.getElem_cons_zero])
                    go_simp
                    refine hK.out _ _ (hyk.out _ D5) (fun hHeld => ?_)
                    clear hK K
                    (try simp only [List.getElem_toArray, List.getElem_cons_succ, List.getElem_cons_zero, Act.put, List.setIfInBounds_toArray, List.set_cons_zero, List.set_cons_succ])
                    refine wpAnyH_ready (rs := [5]) (by kernel_rfl) (by simp) ?_
                    refine AllReadyH.cons rfl (fun K hK => ?_) ?_
                    · (try simp only [List.getElem_toArray, List.getElem_cons_succ, List.getElem_cons_zero])
                      go_simp
                      go_at_call 90
                      refine (hnb.out _ D5).mono ?_
                      rintro e kk ⟨⟨bg, rfl, g1, g2, g3⟩, hbk⟩
                      have Dk : Below wq.heap.size wq kk := D5.trans (hbk.mono D5.size)
                      have hsk := Dk.size
                      have hownk : kk.ownsRow wq.heap.size 40 3 (.slice pc N cc1) N ((List.range (N * 3)).map (fun j => .int .i64 (zk j))) := hown5.kept (row := none) ⟨hbk.os, hbk.tape, hbk.output, hbk.size, fun k hk _ => hbk.block k hk⟩ (by cases hv : (Value.slice pc N cc1).ownBlock <;> simp)
                      have kk0 : kk.heap.size ≠ w.heap.size := by omega
                      have kk1 : w.heap.size ≠ kk.heap.size := by omega
                      have kk2 : kk.heap.size ≠ gs := by omega
                      have kk3 : gs ≠ kk.heap.size := by omega
                      try go_wp2_with fail
                      refine hK.out _ _ (hyk.out _ Dk) (fun hHeld => ?_)
                      clear hK K
                      (try simp only [List.getElem_toArray, List.getElem_cons_succ, List.getElem_cons_zero, Act.put, List.setIfInBounds_toArray, List.set_cons_zero, List.set_cons_succ])
                      refine wpAnyH_ready (rs := [14]) (by kernel_rfl) (by simp) ?_
                      refine AllReadyH.cons rfl (fun K hK => ?_) ?_
                      · (try simp only [List.getElem_toArray, List.getElem_cons_succ, List.getElem_cons_zero])
                        go_simp
                        refine hK.out _ _ (hyk.out _ Dk) (fun hHeld => ?_)
                        clear hK K
                        (try simp only [List.getElem_toArray, List.getElem_cons_succ, List.getElem_cons_zero, Act.put, List.setIfInBounds_toArray, List.set_cons_zero, List.set_cons_succ])
                        refine wpAnyH_ready (rs := [15]) (by kernel_rfl) (by simp) ?_
                        refine AllReadyH.cons rfl (fun K hK => ?_) ?_
                        · (try simp only [List.getElem_toArray, List.getElem_cons_succ, List.getElem_cons_zero])
                          go_simp
                          refine hK.out _ _ (hyk.out _ (Dk.alloc hsk _)) (fun hHeld => ?_)
                          clear hK K
                          (try simp only [List.getElem_toArray, List.getElem_cons_succ, List.getElem_cons_zero, Act.put, List.setIfInBounds_toArray, List.set_cons_zero, List.set_cons_succ])
                          refine wpAnyH_ready (rs := [16]) (by kernel_rfl) (by simp) ?_
                          refine AllReadyH.cons rfl (fun K hK => ?_) ?_
                          · skip
                            refine step_append_lies _ (by rfl) _ _ _ (by rfl) wq.heap.size 40 i0 (.agg #[.int .i64 0, .int .i64 0, .int .i64 0]) 3 24 Try.underlying26 hi hz0 hz1 hzB rfl (by decide) _ N _ (by rfl) (hownk.alloc _) ⟨kk.heap.size, 0, none⟩ 1 1 [.int .i64 bg, .int .i64 sz, .int .i64 sz] (by rfl) (by rfl) (World.news_of_block (cs := #[.int .i64 bg, .int .i64 sz, .int .i64 sz]) (t := 40) (fr := (0, 0)) (heap_alloc_new kk _)) (by simp [Value.oneCell']) (by omega) (by unfold maxLen; omega) (by omega) (by simp; omega) (kk.heap.size + 1) (by simp) ?_
                            intro gg cap8 w8 hown8 hgrow8 hat8 hlt8
                            have D8 : Below wq.heap.size wq w8 := (Dk.alloc hsk _).grown hgrow8 (by simp; omega) (fun j hj => (hownk.lt j hj).1)
                            obtain ⟨t0, t1, t2, t3, t4, t5, t6, t7⟩ := hxk.out _ D8
                            refine hK.out _ _ (hyk.out _ D8) (fun hHeld => ?_)
                            clear hK K
                            (try simp only [List.getElem_toArray, List.getElem_cons_succ, List.getElem_cons_zero, Act.put, List.setIfInBounds_toArray, List.set_cons_zero, List.set_cons_succ])
                            refine wpAnyH_ready (rs := [17]) (by kernel_rfl) (by simp) ?_
                            refine AllReadyH.cons rfl (fun K hK => ?_) ?_
                            · (try simp only [List.getElem_toArray, List.getElem_cons_succ, List.getElem_cons_zero])
                              go_simp
                              refine hK.out _ _ (hyk.out _ D8) (fun hHeld => ?_)
                              clear hK K
                              (try simp only [List.getElem_toArray, List.getElem_cons_succ, List.getElem_cons_zero, Act.put, List.setIfInBounds_toArray, List.set_cons_zero, List.set_cons_succ])
                              refine wpAnyH_ready (rs := [18]) (by kernel_rfl) (by simp) ?_
                              refine AllReadyH.cons rfl (fun K hK => ?_) ?_
                              · (try simp only [List.getElem_toArray, List.getElem_cons_succ, List.getElem_cons_zero])
                                go_simp
                                refine hK.out _ _ (by rw [World.cell?_setCell_far _ _ _ _ (by show w.heap.size ≠ gs; omega)]; exact hyk.out _ D8) (fun hHeld => ?_)
                                clear hK K
                                (try simp only [List.getElem_toArray, List.getElem_cons_succ, List.getElem_cons_zero, Act.put, List.setIfInBounds_toArray, List.set_cons_zero, List.set_cons_succ])
                                refine wpAnyH_done (by kernel_rfl) ?_ _
                                refine NoPanic.normal ?_
                                go_wp2_with fail
                                go_meet
                                go_light
                                have hnx : N + 1 ≤ cap8 := by
                                  rcases hown8.2 with ⟨e, -⟩ | ⟨_, _, _, e, -, -, hle, -⟩
                                  · cases e
                                  · injection e with _ _ e; omega
                                have hfl : FlatAt w8 wq.heap.size w8.heap.size (some ⟨gg, 0, none⟩) gg 0 ((N + 1) * 3) (fun j => .int .i64 (nwY N zk bg sz j)) ∧ FreeAt w8 gg 0 ((N + 1) * 3) := by
                                  obtain ⟨g0, q1, q2⟩ := FlatAt.of_own (f := fun j => .int .i64 (nwY N zk bg sz j)) hown8 (fun j hj => by
                                    unfold nwY
                                    by_cases e3 : j < N * 3
                                    · rw [List.getElem?_append_left (by simpa using e3), List.getElem?_map, List.getElem?_range e3, if_pos e3]; rfl
                                    · rw [List.getElem?_append_right (by simp; omega), if_neg e3]
                                      simp only [List.length_map, List.length_range]
                                      by_cases h1 : j = N * 3
                                      · rw [if_pos h1, show j - N * 3 = 0 by omega]; rfl
                                      · rw [if_neg h1]
                                        by_cases h2 : j = N * 3 + 1
                                        · rw [show j - N * 3 = 1 by omega]; rfl
                                        · rw [show j - N * 3 = 2 by omega]; rfl)
                                  obtain ⟨e, -, -⟩ := q1.1 (by omega)
                                  injection e with e
                                  injection e with e
                                  subst e
                                  exact ⟨q1, q2⟩
                                have hxw := (D8.block _ hlq).trans XQ.out
                                refine ⟨bg, some ⟨gg, 0, none⟩, cap8, g1, g3, blk_set hxw _, hnx, RowNew.of_flat ((hfl.1.far _ (.inl (by show w.heap.size < wq.heap.size; omega)))) (hfl.2.set _ _) (by omega) (by simp [World.setCell]), by have := D8.size; simp [World.setCell]; omega, (BQ.out.trans (D8.mono (by omega))).setCell (Nat.le_refl _) _⟩
                              exact AllReadyH.nil
                            exact AllReadyH.nil
                          exact AllReadyH.nil
                        exact AllReadyH.nil
                      exact AllReadyH.nil
                    exact AllReadyH.nil
                  exact AllReadyH.nil
                refine AllReadyH.cons rfl (fun K hK => ?_) ?_
                · (try simp only [List.getElem_toArray, List.getElem_cons_succ, List.getElem_cons_zero])
                  go_simp
                  refine hK.out _ _ (hyk.out _ DE) (fun hHeld => ?_)
                  clear hK K
                  (try simp only [List.getElem_toArray, List.getElem_cons_succ, List.getElem_cons_zero, Act.put, List.setIfInBounds_toArray, List.set_cons_zero, List.set_cons_succ])
                  refine wpAnyH_ready (rs := [3]) (by kernel_rfl) (by simp) ?_
                  refine AllReadyH.cons rfl (fun K hK => ?_) ?_
                  · skip
                    refine step_copy _ (by rfl) _ _ _ (by rfl) wq.heap.size 40 i0 (.agg #[.int .i64 0, .int .i64 0, .int .i64 0]) 3 24 Try.underlying26 hi hz0 hz1 hzB rfl (by decide) wq.heap.size (by rfl) hE9 (Nat.le_refl _) pk N ck (by rfl) 0 _ g9 o9 (fun j => .int .i64 (zk j)) hf9 (fun _ _ => rfl) (by unfold maxLen; omega) (by omega) ?_
                    intro pc cc1 w5 hcc hown5 hg5
                    have D5 : Below wq.heap.size wq w5 := DE.trans (below_grown hg5 (by simp) (by intro k hk; injection hk with hk; omega))
                    obtain ⟨v0, v1, v2, v3, v4, v5, v6, v7⟩ := hxk.out _ D5
                    refine hK.out _ _ (hyk.out _ D5) (fun hHeld => ?_)
                    clear hK K
                    (try simp only [List.getElem_toArray, List.getElem_cons_succ, List.getElem_cons_zero, Act.put, List.setIfInBounds_toArray, List.set_cons_zero, List.set_cons_succ])
                    refine wpAnyH_ready (rs := [5]) (by kernel_rfl) (by simp) ?_
                    refine AllReadyH.cons rfl (fun K hK => ?_) ?_
                    · (try simp only [List.getElem_toArray, List.getElem_cons_succ, List.getElem_cons_zero])
                      go_simp
                      go_at_call 90
                      refine (hnb.out _ D5).mono ?_
                      rintro e kk ⟨⟨bg, rfl, g1, g2, g3⟩, hbk⟩
                      have Dk : Below wq.heap.size wq kk := D5.trans (hbk.mono D5.size)
                      have hsk := Dk.size
                      have hownk : kk.ownsRow wq.heap.size 40 3 (.slice pc N cc1) N ((List.range (N * 3)).map (fun j => .int .i64 (zk j))) := hown5.kept (row := none) ⟨hbk.os, hbk.tape, hbk.output, hbk.size, fun k hk _ => hbk.block k hk⟩ (by cases hv : (Value.slice pc N cc1).ownBlock <;> simp)
                      have kk0 : kk.heap.size ≠ w.heap.size := by omega
                      have kk1 : w.heap.size ≠ kk.heap.size := by omega
                      have kk2 : kk.heap.size ≠ gs := by omega
                      have kk3 : gs ≠ kk.heap.size := by omega
                      try go_wp2_with fail
                      refine hK.out _ _ (hyk.out _ Dk) (fun hHeld => ?_)
                      clear hK K
                      (try simp only [List.getElem_toArray, List.getElem_cons_succ, List.getElem_cons_zero, Act.put, List.setIfInBounds_toArray, List.set_cons_zero, List.set_cons_succ])
                      refine wpAnyH_ready (rs := [14]) (by kernel_rfl) (by simp) ?_
                      refine AllReadyH.cons rfl (fun K hK => ?_) ?_
                      · (try simp only [List.getElem_toArray, List.getElem_cons_succ, List.getElem_cons_zero])
                        go_simp
                        refine hK.out _ _ (hyk.out _ Dk) (fun hHeld => ?_)
                        clear hK K
                        (try simp only [List.getElem_toArray, List.getElem_cons_succ, List.getElem_cons_zero, Act.put, List.setIfInBounds_toArray, List.set_cons_zero, List.set_cons_succ])
                        refine wpAnyH_ready (rs := [15]) (by kernel_rfl) (by simp) ?_
                        refine AllReadyH.cons rfl (fun K hK => ?_) ?_
                        · (try simp only [List.getElem_toArray, List.getElem_cons_succ, List.getElem_cons_zero])
                          go_simp
                          refine hK.out _ _ (hyk.out _ (Dk.alloc hsk _)) (fun hHeld => ?_)
                          clear hK K
                          (try simp only [List.getElem_toArray, List.getElem_cons_succ, List.getElem_cons_zero, Act.put, List.setIfInBounds_toArray, List.set_cons_zero, List.set_cons_succ])
                          refine wpAnyH_ready (rs := [16]) (by kernel_rfl) (by simp) ?_
                          refine AllReadyH.cons rfl (fun K hK => ?_) ?_
                          · skip
                            refine step_append_lies _ (by rfl) _ _ _ (by rfl) wq.heap.size 40 i0 (.agg #[.int .i64 0, .int .i64 0, .int .i64 0]) 3 24 Try.underlying26 hi hz0 hz1 hzB rfl (by decide) _ N _ (by rfl) (hownk.alloc _) ⟨kk.heap.size, 0, none⟩ 1 1 [.int .i64 bg, .int .i64 sz, .int .i64 sz] (by rfl) (by rfl) (World.news_of_block (cs := #[.int .i64 bg, .int .i64 sz, .int .i64 sz]) (t := 40) (fr := (0, 0)) (heap_alloc_new kk _)) (by simp [Value.oneCell']) (by omega) (by unfold maxLen; omega) (by omega) (by simp; omega) (kk.heap.size + 1) (by simp) ?_
                            intro gg cap8 w8 hown8 hgrow8 hat8 hlt8
                            have D8 : Below wq.heap.size wq w8 := (Dk.alloc hsk _).grown hgrow8 (by simp; omega) (fun j hj => (hownk.lt j hj).1)
                            obtain ⟨t0, t1, t2, t3, t4, t5, t6, t7⟩ := hxk.out _ D8
                            refine hK.out _ _ (hyk.out _ D8) (fun hHeld => ?_)
                            clear hK K
                            (try simp only [List.getElem_toArray, List.getElem_cons_succ, List.getElem_cons_zero, Act.put, List.setIfInBounds_toArray, List.set_cons_zero, List.set_cons_succ])
                            refine wpAnyH_ready (rs := [17]) (by kernel_rfl) (by simp) ?_
                            refine AllReadyH.cons rfl (fun K hK => ?_) ?_
                            · (try simp only [List.getElem_toArray, List.getElem_cons_succ, List.getElem_cons_zero])
                              go_simp
                              refine hK.out _ _ (hyk.out _ D8) (fun hHeld => ?_)
                              clear hK K
                              (try simp only [List.getElem_toArray, List.getElem_cons_succ, List.getElem_cons_zero, Act.put, List.setIfInBounds_toArray, List.set_cons_zero, List.set_cons_succ])
                              refine wpAnyH_ready (rs := [18]) (by kernel_rfl) (by simp) ?_
                              refine AllReadyH.cons rfl (fun K hK => ?_) ?_
                              · (try simp only [List.getElem_toArray, List.getElem_cons_succ, List.getElem_cons_zero])
                                go_simp
                                refine hK.out _ _ (by rw [World.cell?_setCell_far _ _ _ _ (by show w.heap.size ≠ gs; omega)]; exact hyk.out _ D8) (fun hHeld => ?_)
                                clear hK K
                                (try simp only [List.getElem_toArray, List.getElem_cons_succ, List.getElem_cons_zero, Act.put, List.setIfInBounds_toArray, List.set_cons_zero, List.set_cons_succ])
                                refine wpAnyH_done (by kernel_rfl) ?_ _
                                refine NoPanic.normal ?_
                                go_wp2_with fail
                                go_meet
                                go_light
                                have hnx : N + 1 ≤ cap8 := by
                                  rcases hown8.2 with ⟨e, -⟩ | ⟨_, _, _, e, -, -, hle, -⟩
                                  · cases e
                                  · injection e with _ _ e; omega
                                have hfl : FlatAt w8 wq.heap.size w8.heap.size (some ⟨gg, 0, none⟩) gg 0 ((N + 1) * 3) (fun j => .int .i64 (nwY N zk bg sz j)) ∧ FreeAt w8 gg 0 ((N + 1) * 3) := by
                                  obtain ⟨g0, q1, q2⟩ := FlatAt.of_own (f := fun j => .int .i64 (nwY N zk bg sz j)) hown8 (fun j hj => by
                                    unfold nwY
                                    by_cases e3 : j < N * 3
                                    · rw [List.getElem?_append_left (by simpa using e3), List.getElem?_map, List.getElem?_range e3, if_pos e3]; rfl
                                    · rw [List.getElem?_append_right (by simp; omega), if_neg e3]
                                      simp only [List.length_map, List.length_range]
                                      by_cases h1 : j = N * 3
                                      · rw [if_pos h1, show j - N * 3 = 0 by omega]; rfl
                                      · rw [if_neg h1]
                                        by_cases h2 : j = N * 3 + 1
                                        · rw [show j - N * 3 = 1 by omega]; rfl
                                        · rw [show j - N * 3 = 2 by omega]; rfl)
                                  obtain ⟨e, -, -⟩ := q1.1 (by omega)
                                  injection e with e
                                  injection e with e
                                  subst e
                                  exact ⟨q1, q2⟩
                                have hxw := (D8.block _ hlq).trans XQ.out
                                refine ⟨bg, some ⟨gg, 0, none⟩, cap8, g1, g3, blk_set hxw _, hnx, RowNew.of_flat ((hfl.1.far _ (.inl (by show w.heap.size < wq.heap.size; omega)))) (hfl.2.set _ _) (by omega) (by simp [World.setCell]), by have := D8.size; simp [World.setCell]; omega, (BQ.out.trans (D8.mono (by omega))).setCell (Nat.le_refl _) _⟩
                              exact AllReadyH.nil
                            exact AllReadyH.nil
                          exact AllReadyH.nil
                        exact AllReadyH.nil
                      exact AllReadyH.nil
                    exact AllReadyH.nil
                  exact AllReadyH.nil
                exact AllReadyH.nil
              refine AllReadyH.cons rfl (fun K hK => ?_) ?_
              · (try simp only [List.getElem_toArray, List.getElem_cons_succ, List.getElem_cons_zero])
                go_simp
                refine hK.out _ _ (hyk.out _ D0d) (fun hHeld => ?_)
                clear hK K
                (try simp only [List.getElem_toArray, List.getElem_cons_succ, List.getElem_cons_zero, Act.put, List.setIfInBounds_toArray, List.set_cons_zero, List.set_cons_succ])
                refine wpAnyH_ready (rs := [0]) (by kernel_rfl) (by simp) ?_
                refine AllReadyH.cons rfl (fun K hK => ?_) ?_
                · (try simp only [List.getElem_toArray, List.getElem_cons_succ, List.getElem_cons_zero])
                  go_simp
                  refine hK.out _ _ (hyk.out _ DE) (fun hHeld => ?_)
                  clear hK K
                  (try simp only [List.getElem_toArray, List.getElem_cons_succ, List.getElem_cons_zero, Act.put, List.setIfInBounds_toArray, List.set_cons_zero, List.set_cons_succ])
                  refine wpAnyH_ready (rs := [3]) (by kernel_rfl) (by simp) ?_
                  refine AllReadyH.cons rfl (fun K hK => ?_) ?_
                  · skip
                    refine step_copy _ (by rfl) _ _ _ (by rfl) wq.heap.size 40 i0 (.agg #[.int .i64 0, .int .i64 0, .int .i64 0]) 3 24 Try.underlying26 hi hz0 hz1 hzB rfl (by decide) wq.heap.size (by rfl) hE9 (Nat.le_refl _) pk N ck (by rfl) 0 _ g9 o9 (fun j => .int .i64 (zk j)) hf9 (fun _ _ => rfl) (by unfold maxLen; omega) (by omega) ?_
                    intro pc cc1 w5 hcc hown5 hg5
                    have D5 : Below wq.heap.size wq w5 := DE.trans (below_grown hg5 (by simp) (by intro k hk; injection hk with hk; omega))
                    obtain ⟨v0, v1, v2, v3, v4, v5, v6, v7⟩ := hxk.out _ D5
                    refine hK.out _ _ (hyk.out _ D5) (fun hHeld => ?_)
                    clear hK K
                    (try simp only [List.getElem_toArray, List.getElem_cons_succ, List.getElem_cons_zero, Act.put, List.setIfInBounds_toArray, List.set_cons_zero, List.set_cons_succ])
                    refine wpAnyH_ready (rs := [5]) (by kernel_rfl) (by simp) ?_
                    refine AllReadyH.cons rfl (fun K hK => ?_) ?_
                    · (try simp only [List.getElem_toArray, List.getElem_cons_succ, List.getElem_cons_zero])
                      go_simp
                      go_at_call 90
                      refine (hnb.out _ D5).mono ?_
                      rintro e kk ⟨⟨bg, rfl, g1, g2, g3⟩, hbk⟩
                      have Dk : Below wq.heap.size wq kk := D5.trans (hbk.mono D5.size)
                      have hsk := Dk.size
                      have hownk : kk.ownsRow wq.heap.size 40 3 (.slice pc N cc1) N ((List.range (N * 3)).map (fun j => .int .i64 (zk j))) := hown5.kept (row := none) ⟨hbk.os, hbk.tape, hbk.output, hbk.size, fun k hk _ => hbk.block k hk⟩ (by cases hv : (Value.slice pc N cc1).ownBlock <;> simp)
                      have kk0 : kk.heap.size ≠ w.heap.size := by omega
                      have kk1 : w.heap.size ≠ kk.heap.size := by omega
                      have kk2 : kk.heap.size ≠ gs := by omega
                      have kk3 : gs ≠ kk.heap.size := by omega
                      try go_wp2_with fail
                      refine hK.out _ _ (hyk.out _ Dk) (fun hHeld => ?_)
                      clear hK K
                      (try simp only [List.getElem_toArray, List.getElem_cons_succ, List.getElem_cons_zero, Act.put, List.setIfInBounds_toArray, List.set_cons_zero, List.set_cons_succ])
                      refine wpAnyH_ready (rs := [14]) (by kernel_rfl) (by simp) ?_
                      refine AllReadyH.cons rfl (fun K hK => ?_) ?_
                      · (try simp only [List.getElem_toArray, List.getElem_cons_succ, List.getElem_cons_zero])
                        go_simp
                        refine hK.out _ _ (hyk.out _ Dk) (fun hHeld => ?_)
                        clear hK K
                        (try simp only [List.getElem_toArray, List.getElem_cons_succ, List.getElem_cons_zero, Act.put, List.setIfInBounds_toArray, List.set_cons_zero, List.set_cons_succ])
                        refine wpAnyH_ready (rs := [15]) (by kernel_rfl) (by simp) ?_
                        refine AllReadyH.cons rfl (fun K hK => ?_) ?_
                        · (try simp only [List.getElem_toArray, List.getElem_cons_succ, List.getElem_cons_zero])
                          go_simp
                          refine hK.out _ _ (hyk.out _ (Dk.alloc hsk _)) (fun hHeld => ?_)
                          clear hK K
                          (try simp only [List.getElem_toArray, List.getElem_cons_succ, List.getElem_cons_zero, Act.put, List.setIfInBounds_toArray, List.set_cons_zero, List.set_cons_succ])
                          refine wpAnyH_ready (rs := [16]) (by kernel_rfl) (by simp) ?_
                          refine AllReadyH.cons rfl (fun K hK => ?_) ?_
                          · skip
                            refine step_append_lies _ (by rfl) _ _ _ (by rfl) wq.heap.size 40 i0 (.agg #[.int .i64 0, .int .i64 0, .int .i64 0]) 3 24 Try.underlying26 hi hz0 hz1 hzB rfl (by decide) _ N _ (by rfl) (hownk.alloc _) ⟨kk.heap.size, 0, none⟩ 1 1 [.int .i64 bg, .int .i64 sz, .int .i64 sz] (by rfl) (by rfl) (World.news_of_block (cs := #[.int .i64 bg, .int .i64 sz, .int .i64 sz]) (t := 40) (fr := (0, 0)) (heap_alloc_new kk _)) (by simp [Value.oneCell']) (by omega) (by unfold maxLen; omega) (by omega) (by simp; omega) (kk.heap.size + 1) (by simp) ?_
                            intro gg cap8 w8 hown8 hgrow8 hat8 hlt8
                            have D8 : Below wq.heap.size wq w8 := (Dk.alloc hsk _).grown hgrow8 (by simp; omega) (fun j hj => (hownk.lt j hj).1)
                            obtain ⟨t0, t1, t2, t3, t4, t5, t6, t7⟩ := hxk.out _ D8
                            refine hK.out _ _ (hyk.out _ D8) (fun hHeld => ?_)
                            clear hK K
                            (try simp only [List.getElem_toArray, List.getElem_cons_succ, List.getElem_cons_zero, Act.put, List.setIfInBounds_toArray, List.set_cons_zero, List.set_cons_succ])
                            refine wpAnyH_ready (rs := [17]) (by kernel_rfl) (by simp) ?_
                            refine AllReadyH.cons rfl (fun K hK => ?_) ?_
                            · (try simp only [List.getElem_toArray, List.getElem_cons_succ, List.getElem_cons_zero])
                              go_simp
                              refine hK.out _ _ (hyk.out _ D8) (fun hHeld => ?_)
                              clear hK K
                              (try simp only [List.getElem_toArray, List.getElem_cons_succ, List.getElem_cons_zero, Act.put, List.setIfInBounds_toArray, List.set_cons_zero, List.set_cons_succ])
                              refine wpAnyH_ready (rs := [18]) (by kernel_rfl) (by simp) ?_
                              refine AllReadyH.cons rfl (fun K hK => ?_) ?_
                              · (try simp only [List.getElem_toArray, List.getElem_cons_succ, List.getElem_cons_zero])
                                go_simp
                                refine hK.out _ _ (by rw [World.cell?_setCell_far _ _ _ _ (by show w.heap.size ≠ gs; omega)]; exact hyk.out _ D8) (fun hHeld => ?_)
                                clear hK K
                                (try simp only [List.getElem_toArray, List.getElem_cons_succ, List.getElem_cons_zero, Act.put, List.setIfInBounds_toArray, List.set_cons_zero, List.set_cons_succ])
                                refine wpAnyH_done (by kernel_rfl) ?_ _
                                refine NoPanic.normal ?_
                                go_wp2_with fail
                                go_meet
                                go_light
                                have hnx : N + 1 ≤ cap8 := by
                                  rcases hown8.2 with ⟨e, -⟩ | ⟨_, _, _, e, -, -, hle, -⟩
                                  · cases e
                                  · injection e with _ _ e; omega
                                have hfl : FlatAt w8 wq.heap.size w8.heap.size (some ⟨gg, 0, none⟩) gg 0 ((N + 1) * 3) (fun j => .int .i64 (nwY N zk bg sz j)) ∧ FreeAt w8 gg 0 ((N + 1) * 3) := by
                                  obtain ⟨g0, q1, q2⟩ := FlatAt.of_own (f := fun j => .int .i64 (nwY N zk bg sz j)) hown8 (fun j hj => by
                                    unfold nwY
                                    by_cases e3 : j < N * 3
                                    · rw [List.getElem?_append_left (by simpa using e3), List.getElem?_map, List.getElem?_range e3, if_pos e3]; rfl
                                    · rw [List.getElem?_append_right (by simp; omega), if_neg e3]
                                      simp only [List.length_map, List.length_range]
                                      by_cases h1 : j = N * 3
                                      · rw [if_pos h1, show j - N * 3 = 0 by omega]; rfl
                                      · rw [if_neg h1]
                                        by_cases h2 : j = N * 3 + 1
                                        · rw [show j - N * 3 = 1 by omega]; rfl
                                        · rw [show j - N * 3 = 2 by omega]; rfl)
                                  obtain ⟨e, -, -⟩ := q1.1 (by omega)
                                  injection e with e
                                  injection e with e
                                  subst e
                                  exact ⟨q1, q2⟩
                                have hxw := (D8.block _ hlq).trans XQ.out
                                refine ⟨bg, some ⟨gg, 0, none⟩, cap8, g1, g3, blk_set hxw _, hnx, RowNew.of_flat ((hfl.1.far _ (.inl (by show w.heap.size < wq.heap.size; omega)))) (hfl.2.set _ _) (by omega) (by simp [World.setCell]), by have := D8.size; simp [World.setCell]; omega, (BQ.out.trans (D8.mono (by omega))).setCell (Nat.le_refl _) _⟩
                              exact AllReadyH.nil
                            exact AllReadyH.nil
                          exact AllReadyH.nil
                        exact AllReadyH.nil
                      exact AllReadyH.nil
                    exact AllReadyH.nil
                  exact AllReadyH.nil
                exact AllReadyH.nil
              exact AllReadyH.nil
            refine AllReadyH.cons rfl (fun K hK => ?_) ?_
            · (try simp only [List.getElem_toArray, List.getElem_cons_succ, List.getElem_cons_zero])
              go_simp
              refine hK.out _ _ (hyk.out _ D0d) (fun hHeld => ?_)
              clear hK K
              (try simp only [List.getElem_toArray, List.getElem_cons_succ, List.getElem_cons_zero, Act.put, List.setIfInBounds_toArray, List.set_cons_zero, List.set_cons_succ])
              refine wpAnyH_ready (rs := [0, 2]) (by kernel_rfl) (by simp) ?_
              refine AllReadyH.cons rfl (fun K hK => ?_) ?_
              · (try simp only [List.getElem_toArray, List.getElem_cons_succ, List.getElem_cons_zero])
                go_simp
                refine hK.out _ _ (hyk.out _ DE) (fun hHeld => ?_)
                clear hK K
                (try simp only [List.getElem_toArray, List.getElem_cons_succ, List.getElem_cons_zero, Act.put, List.setIfInBounds_toArray, List.set_cons_zero, List.set_cons_succ])
                refine wpAnyH_ready (rs := [2]) (by kernel_rfl) (by simp) ?_
                refine AllReadyH.cons rfl (fun K hK => ?_) ?_
                · (try simp only [List.getElem_toArray, List.getElem_cons_succ, List.getElem_cons_zero])
                  go_simp
                  refine hK.out _ _ (hyk.out _ DE) (fun hHeld => ?_)
                  clear hK K
                  (try simp only [List.getElem_toArray, List.getElem_cons_succ, List.getElem_cons_zero, Act.put, List.setIfInBounds_toArray, List.set_cons_zero, List.set_cons_succ])
                  refine wpAnyH_ready (rs := [3]) (by kernel_rfl) (by simp) ?_
                  refine AllReadyH.cons rfl (fun K hK => ?_) ?_
                  · skip
                    refine step_copy _ (by rfl) _ _ _ (by rfl) wq.heap.size 40 i0 (.agg #[.int .i64 0, .int .i64 0, .int .i64 0]) 3 24 Try.underlying26 hi hz0 hz1 hzB rfl (by decide) wq.heap.size (by rfl) hE9 (Nat.le_refl _) pk N ck (by rfl) 0 _ g9 o9 (fun j => .int .i64 (zk j)) hf9 (fun _ _ => rfl) (by unfold maxLen; omega) (by omega) ?_
                    intro pc cc1 w5 hcc hown5 hg5
                    have D5 : Below wq.heap.size wq w5 := DE.trans (below_grown hg5 (by simp) (by intro k hk; injection hk with hk; omega))
                    obtain ⟨v0, v1, v2, v3, v4, v5, v6, v7⟩ := hxk.out _ D5
                    refine hK.out _ _ (hyk.out _ D5) (fun hHeld => ?_)
                    clear hK K
                    (try simp only [List.getElem_toArray, List.getElem_cons_succ, List.getElem_cons_zero, Act.put, List.setIfInBounds_toArray, List.set_cons_zero, List.set_cons_succ])
                    refine wpAnyH_ready (rs := [5]) (by kernel_rfl) (by simp) ?_
                    refine AllReadyH.cons rfl (fun K hK => ?_) ?_
                    · (try simp only [List.getElem_toArray, List.getElem_cons_succ, List.getElem_cons_zero])
                      go_simp
                      go_at_call 90
                      refine (hnb.out _ D5).mono ?_
                      rintro e kk ⟨⟨bg, rfl, g1, g2, g3⟩, hbk⟩
                      have Dk : Below wq.heap.size wq kk := D5.trans (hbk.mono D5.size)
                      have hsk := Dk.size
                      have hownk : kk.ownsRow wq.heap.size 40 3 (.slice pc N cc1) N ((List.range (N * 3)).map (fun j => .int .i64 (zk j))) := hown5.kept (row := none) ⟨hbk.os, hbk.tape, hbk.output, hbk.size, fun k hk _ => hbk.block k hk⟩ (by cases hv : (Value.slice pc N cc1).ownBlock <;> simp)
                      have kk0 : kk.heap.size ≠ w.heap.size := by omega
                      have kk1 : w.heap.size ≠ kk.heap.size := by omega
                      have kk2 : kk.heap.size ≠ gs := by omega
                      have kk3 : gs ≠ kk.heap.size := by omega
                      try go_wp2_with fail
                      refine hK.out _ _ (hyk.out _ Dk) (fun hHeld => ?_)
                      clear hK K
                      (try simp only [List.getElem_toArray, List.getElem_cons_succ, List.getElem_cons_zero, Act.put, List.setIfInBounds_toArray, List.set_cons_zero, List.set_cons_succ])
                      refine wpAnyH_ready (rs := [14]) (by kernel_rfl) (by simp) ?_
                      refine AllReadyH.cons rfl (fun K hK => ?_) ?_
                      · (try simp only [List.getElem_toArray, List.getElem_cons_succ, List.getElem_cons_zero])
                        go_simp
                        refine hK.out _ _ (hyk.out _ Dk) (fun hHeld => ?_)
                        clear hK K
                        (try simp only [List.getElem_toArray, List.getElem_cons_succ, List.getElem_cons_zero, Act.put, List.setIfInBounds_toArray, List.set_cons_zero, List.set_cons_succ])
                        refine wpAnyH_ready (rs := [15]) (by kernel_rfl) (by simp) ?_
                        refine AllReadyH.cons rfl (fun K hK => ?_) ?_
                        · (try simp only [List.getElem_toArray, List.getElem_cons_succ, List.getElem_cons_zero])
                          go_simp
                          refine hK.out _ _ (hyk.out _ (Dk.alloc hsk _)) (fun hHeld => ?_)
                          clear hK K
                          (try simp only [List.getElem_toArray, List.getElem_cons_succ, List.getElem_cons_zero, Act.put, List.setIfInBounds_toArray, List.set_cons_zero, List.set_cons_succ])
                          refine wpAnyH_ready (rs := [16]) (by kernel_rfl) (by simp) ?_
                          refine AllReadyH.cons rfl (fun K hK => ?_) ?_
                          · skip
                            refine step_append_lies _ (by rfl) _ _ _ (by rfl) wq.heap.size 40 i0 (.agg #[.int .i64 0, .int .i64 0, .int .i64 0]) 3 24 Try.underlying26 hi hz0 hz1 hzB rfl (by decide) _ N _ (by rfl) (hownk.alloc _) ⟨kk.heap.size, 0, none⟩ 1 1 [.int .i64 bg, .int .i64 sz, .int .i64 sz] (by rfl) (by rfl) (World.news_of_block (cs := #[.int .i64 bg, .int .i64 sz, .int .i64 sz]) (t := 40) (fr := (0, 0)) (heap_alloc_new kk _)) (by simp [Value.oneCell']) (by omega) (by unfold maxLen; omega) (by omega) (by simp; omega) (kk.heap.size + 1) (by simp) ?_
                            intro gg cap8 w8 hown8 hgrow8 hat8 hlt8
                            have D8 : Below wq.heap.size wq w8 := (Dk.alloc hsk _).grown hgrow8 (by simp; omega) (fun j hj => (hownk.lt j hj).1)
                            obtain ⟨t0, t1, t2, t3, t4, t5, t6, t7⟩ := hxk.out _ D8
                            refine hK.out _ _ (hyk.out _ D8) (fun hHeld => ?_)
                            clear hK K
                            (try simp only [List.getElem_toArray, List.getElem_cons_succ, List.getElem_cons_zero, Act.put, List.setIfInBounds_toArray, List.set_cons_zero, List.set_cons_succ])
                            refine wpAnyH_ready (rs := [17]) (by kernel_rfl) (by simp) ?_
                            refine AllReadyH.cons rfl (fun K hK => ?_) ?_
                            · (try simp only [List.getElem_toArray, List.getElem_cons_succ, List.getElem_cons_zero])
                              go_simp
                              refine hK.out _ _ (hyk.out _ D8) (fun hHeld => ?_)
                              clear hK K
                              (try simp only [List.getElem_toArray, List.getElem_cons_succ, List.getElem_cons_zero, Act.put, List.setIfInBounds_toArray, List.set_cons_zero, List.set_cons_succ])
                              refine wpAnyH_ready (rs := [18]) (by kernel_rfl) (by simp) ?_
                              refine AllReadyH.cons rfl (fun K hK => ?_) ?_
                              · (try simp only [List.getElem_toArray, List.getElem_cons_succ, List.getElem_cons_zero])
                                go_simp
                                refine hK.out _ _ (by rw [World.cell?_setCell_far _ _ _ _ (by show w.heap.size ≠ gs; omega)]; exact hyk.out _ D8) (fun hHeld => ?_)
                                clear hK K
                                (try simp only [List.getElem_toArray, List.getElem_cons_succ, List.getElem_cons_zero, Act.put, List.setIfInBounds_toArray, List.set_cons_zero, List.set_cons_succ])
                                refine wpAnyH_done (by kernel_rfl) ?_ _
                                refine NoPanic.normal ?_
                                go_wp2_with fail
                                go_meet
                                go_light
                                have hnx : N + 1 ≤ cap8 := by
                                  rcases hown8.2 with ⟨e, -⟩ | ⟨_, _, _, e, -, -, hle, -⟩
                                  · cases e
                                  · injection e with _ _ e; omega
                                have hfl : FlatAt w8 wq.heap.size w8.heap.size (some ⟨gg, 0, none⟩) gg 0 ((N + 1) * 3) (fun j => .int .i64 (nwY N zk bg sz j)) ∧ FreeAt w8 gg 0 ((N + 1) * 3) := by
                                  obtain ⟨g0, q1, q2⟩ := FlatAt.of_own (f := fun j => .int .i64 (nwY N zk bg sz j)) hown8 (fun j hj => by
                                    unfold nwY
                                    by_cases e3 : j < N * 3
                                    · rw [List.getElem?_append_left (by simpa using e3), List.getElem?_map, List.getElem?_range e3, if_pos e3]; rfl
                                    · rw [List.getElem?_append_right (by simp; omega), if_neg e3]
                                      simp only [List.length_map, List.length_range]
                                      by_cases h1 : j = N * 3
                                      · rw [if_pos h1, show j - N * 3 = 0 by omega]; rfl
                                      · rw [if_neg h1]
                                        by_cases h2 : j = N * 3 + 1
                                        · rw [show j - N * 3 = 1 by omega]; rfl
                                        · rw [show j - N * 3 = 2 by omega]; rfl)
                                  obtain ⟨e, -, -⟩ := q1.1 (by omega)
                                  injection e with e
                                  injection e with e
                                  subst e
                                  exact ⟨q1, q2⟩
                                have hxw := (D8.block _ hlq).trans XQ.out
                                refine ⟨bg, some ⟨gg, 0, none⟩, cap8, g1, g3, blk_set hxw _, hnx, RowNew.of_flat ((hfl.1.far _ (.inl (by show w.heap.size < wq.heap.size; omega)))) (hfl.2.set _ _) (by omega) (by simp [World.setCell]), by have := D8.size; simp [World.setCell]; omega, (BQ.out.trans (D8.mono (by omega))).setCell (Nat.le_refl _) _⟩
                              exact AllReadyH.nil
                            exact AllReadyH.nil
                          exact AllReadyH.nil
                        exact AllReadyH.nil
                      exact AllReadyH.nil
                    exact AllReadyH.nil
                  exact AllReadyH.nil
                exact AllReadyH.nil
              refine AllReadyH.cons rfl (fun K hK => ?_) ?_
              · (try simp only [List.getElem_toArray, List.getElem_cons_succ, List.getElem_cons_zero])
                go_simp
                refine hK.out _ _ (hyk.out _ D0d) (fun hHeld => ?_)
                clear hK K
                (try simp only [List.getElem_toArray, List.getElem_cons_succ, List.getElem_cons_zero, Act.put, List.setIfInBounds_toArray, List.set_cons_zero, List.set_cons_succ])
                refine wpAnyH_ready (rs := [0]) (by kernel_rfl) (by simp) ?_
                refine AllReadyH.cons rfl (fun K hK => ?_) ?_
                · (try simp only [List.getElem_toArray, List.getElem_cons_succ, List.getElem_cons_zero])
                  go_simp
                  refine hK.out _ _ (hyk.out _ DE) (fun hHeld => ?_)
                  clear hK K
                  (try simp only [List.getElem_toArray, List.getElem_cons_succ, List.getElem_cons_zero, Act.put, List.setIfInBounds_toArray, List.set_cons_zero, List.set_cons_succ])
                  refine wpAnyH_ready (rs := [3]) (by kernel_rfl) (by simp) ?_
                  refine AllReadyH.cons rfl (fun K hK => ?_) ?_
                  · skip
                    refine step_copy _ (by rfl) _ _ _ (by rfl) wq.heap.size 40 i0 (.agg #[.int .i64 0, .int .i64 0, .int .i64 0]) 3 24 Try.underlying26 hi hz0 hz1 hzB rfl (by decide) wq.heap.size (by rfl) hE9 (Nat.le_refl _) pk N ck (by rfl) 0 _ g9 o9 (fun j => .int .i64 (zk j)) hf9 (fun _ _ => rfl) (by unfold maxLen; omega) (by omega) ?_
                    intro pc cc1 w5 hcc hown5 hg5
                    have D5 : Below wq.heap.size wq w5 := DE.trans (below_grown hg5 (by simp) (by intro k hk; injection hk with hk; omega))
                    obtain ⟨v0, v1, v2, v3, v4, v5, v6, v7⟩ := hxk.out _ D5
                    refine hK.out _ _ (hyk.out _ D5) (fun hHeld => ?_)
                    clear hK K
                    (try simp only [List.getElem_toArray, List.getElem_cons_succ, List.getElem_cons_zero, Act.put, List.setIfInBounds_toArray, List.set_cons_zero, List.set_cons_succ])
                    refine wpAnyH_ready (rs := [5]) (by kernel_rfl) (by simp) ?_
                    refine AllReadyH.cons rfl (fun K hK => ?_) ?_
                    · (try simp only [List.getElem_toArray, List.getElem_cons_succ, List.getElem_cons_zero])
                      go_simp
                      go_at_call 90
                      refine (hnb.out _ D5).mono ?_
                      rintro e kk ⟨⟨bg, rfl, g1, g2, g3⟩, hbk⟩
                      have Dk : Below wq.heap.size wq kk := D5.trans (hbk.mono D5.size)
                      have hsk := Dk.size
                      have hownk : kk.ownsRow wq.heap.size 40 3 (.slice pc N cc1) N ((List.range (N * 3)).map (fun j => .int .i64 (zk j))) := hown5.kept (row := none) ⟨hbk.os, hbk.tape, hbk.output, hbk.size, fun k hk _ => hbk.block k hk⟩ (by cases hv : (Value.slice pc N cc1).ownBlock <;> simp)
                      have kk0 : kk.heap.size ≠ w.heap.size := by omega
                      have kk1 : w.heap.size ≠ kk.heap.size := by omega
                      have kk2 : kk.heap.size ≠ gs := by omega
                      have kk3 : gs ≠ kk.heap.size := by omega
                      try go_wp2_with fail
                      refine hK.out _ _ (hyk.out _ Dk) (fun hHeld => ?_)
                      clear hK K
                      (try simp only [List.getElem_toArray, List.getElem_cons_succ, List.getElem_cons_zero, Act.put, List.setIfInBounds_toArray, List.set_cons_zero, List.set_cons_succ])
                      refine wpAnyH_ready (rs := [14]) (by kernel_rfl) (by simp) ?_
                      refine AllReadyH.cons rfl (fun K hK => ?_) ?_
                      · (try simp only [List.getElem_toArray, List.getElem_cons_succ, List.getElem_cons_zero])
                        go_simp
                        refine hK.out _ _ (hyk.out _ Dk) (fun hHeld => ?_)
                        clear hK K
                        (try simp only [List.getElem_toArray, List.getElem_cons_succ, List.getElem_cons_zero, Act.put, List.setIfInBounds_toArray, List.set_cons_zero, List.set_cons_succ])
                        refine wpAnyH_ready (rs := [15]) (by kernel_rfl) (by simp) ?_
                        refine AllReadyH.cons rfl (fun K hK => ?_) ?_
                        · (try simp only [List.getElem_toArray, List.getElem_cons_succ, List.getElem_cons_zero])
                          go_simp
                          refine hK.out _ _ (hyk.out _ (Dk.alloc hsk _)) (fun hHeld => ?_)
                          clear hK K
                          (try simp only [List.getElem_toArray, List.getElem_cons_succ, List.getElem_cons_zero, Act.put, List.setIfInBounds_toArray, List.set_cons_zero, List.set_cons_succ])
                          refine wpAnyH_ready (rs := [16]) (by kernel_rfl) (by simp) ?_
                          refine AllReadyH.cons rfl (fun K hK => ?_) ?_
                          · skip
                            refine step_append_lies _ (by rfl) _ _ _ (by rfl) wq.heap.size 40 i0 (.agg #[.int .i64 0, .int .i64 0, .int .i64 0]) 3 24 Try.underlying26 hi hz0 hz1 hzB rfl (by decide) _ N _ (by rfl) (hownk.alloc _) ⟨kk.heap.size, 0, none⟩ 1 1 [.int .i64 bg, .int .i64 sz, .int .i64 sz] (by rfl) (by rfl) (World.news_of_block (cs := #[.int .i64 bg, .int .i64 sz, .int .i64 sz]) (t := 40) (fr := (0, 0)) (heap_alloc_new kk _)) (by simp [Value.oneCell']) (by omega) (by unfold maxLen; omega) (by omega) (by simp; omega) (kk.heap.size + 1) (by simp) ?_
                            intro gg cap8 w8 hown8 hgrow8 hat8 hlt8
                            have D8 : Below wq.heap.size wq w8 := (Dk.alloc hsk _).grown hgrow8 (by simp; omega) (fun j hj => (hownk.lt j hj).1)
                            obtain ⟨t0, t1, t2, t3, t4, t5, t6, t7⟩ := hxk.out _ D8
                            refine hK.out _ _ (hyk.out _ D8) (fun hHeld => ?_)
                            clear hK K
                            (try simp only [List.getElem_toArray, List.getElem_cons_succ, List.getElem_cons_zero, Act.put, List.setIfInBounds_toArray, List.set_cons_zero, List.set_cons_succ])
                            refine wpAnyH_ready (rs := [17]) (by kernel_rfl) (by simp) ?_
                            refine AllReadyH.cons rfl (fun K hK => ?_) ?_
                            · (try simp only [List.getElem_toArray, List.getElem_cons_succ, List.getElem_cons_zero])
                              go_simp
                              refine hK.out _ _ (hyk.out _ D8) (fun hHeld => ?_)
                              clear hK K
                              (try simp only [List.getElem_toArray, List.getElem_cons_succ, List.getElem_cons_zero, Act.put, List.setIfInBounds_toArray, List.set_cons_zero, List.set_cons_succ])
                              refine wpAnyH_ready (rs := [18]) (by kernel_rfl) (by simp) ?_
                              refine AllReadyH.cons rfl (fun K hK => ?_) ?_
                              · (try simp only [List.getElem_toArray, List.getElem_cons_succ, List.getElem_cons_zero])
                                go_simp
                                refine hK.out _ _ (by rw [World.cell?_setCell_far _ _ _ _ (by show w.heap.size ≠ gs; omega)]; exact hyk.out _ D8) (fun hHeld => ?_)
                                clear hK K
                                (try simp only [List.getElem_toArray, List.getElem_cons_succ, List.getElem_cons_zero, Act.put, List.setIfInBounds_toArray, List.set_cons_zero, List.set_cons_succ])
                                refine wpAnyH_done (by kernel_rfl) ?_ _
                                refine NoPanic.normal ?_
                                go_wp2_with fail
                                go_meet
                                go_light
                                have hnx : N + 1 ≤ cap8 := by
                                  rcases hown8.2 with ⟨e, -⟩ | ⟨_, _, _, e, -, -, hle, -⟩
                                  · cases e
                                  · injection e with _ _ e; omega
                                have hfl : FlatAt w8 wq.heap.size w8.heap.size (some ⟨gg, 0, none⟩) gg 0 ((N + 1) * 3) (fun j => .int .i64 (nwY N zk bg sz j)) ∧ FreeAt w8 gg 0 ((N + 1) * 3) := by
                                  obtain ⟨g0, q1, q2⟩ := FlatAt.of_own (f := fun j => .int .i64 (nwY N zk bg sz j)) hown8 (fun j hj => by
                                    unfold nwY
                                    by_cases e3 : j < N * 3
                                    · rw [List.getElem?_append_left (by simpa using e3), List.getElem?_map, List.getElem?_range e3, if_pos e3]; rfl
                                    · rw [List.getElem?_append_right (by simp; omega), if_neg e3]
                                      simp only [List.length_map, List.length_range]
                                      by_cases h1 : j = N * 3
                                      · rw [if_pos h1, show j - N * 3 = 0 by omega]; rfl
                                      · rw [if_neg h1]
                                        by_cases h2 : j = N * 3 + 1
                                        · rw [show j - N * 3 = 1 by omega]; rfl
                                        · rw [show j - N * 3 = 2 by omega]; rfl)
                                  obtain ⟨e, -, -⟩ := q1.1 (by omega)
                                  injection e with e
                                  injection e with e
                                  subst e
                                  exact ⟨q1, q2⟩
                                have hxw := (D8.block _ hlq).trans XQ.out
                                refine ⟨bg, some ⟨gg, 0, none⟩, cap8, g1, g3, blk_set hxw _, hnx, RowNew.of_flat ((hfl.1.far _ (.inl (by show w.heap.size < wq.heap.size; omega)))) (hfl.2.set _ _) (by omega) (by simp [World.setCell]), by have := D8.size; simp [World.setCell]; omega, (BQ.out.trans (D8.mono (by omega))).setCell (Nat.le_refl _) _⟩
                              exact AllReadyH.nil
                            exact AllReadyH.nil
                          exact AllReadyH.nil
                        exact AllReadyH.nil
                      exact AllReadyH.nil
                    exact AllReadyH.nil
                  exact AllReadyH.nil
                exact AllReadyH.nil
              exact AllReadyH.nil
            exact AllReadyH.nil
          case rest =>
            obtain ⟨bg, p2, c2, g1, g3, k1, k2, k3, k4, k5⟩ := hcut
            have hcn := Lib.hid (HC.out.next h40 g1 g3 ⟨s1, s2⟩ hsf)
            have hokn := nwY_ok HC.out.1 h40 g1 g3 ⟨s1, s2⟩ (by rw [HC.out.lim]; exact hsf)
            have hmv := Lib.hid (by
              obtain ⟨g8, o8, q1, q2⟩ := k3
              have := sMove_any (N + 1) (by omega) (nwY N zk bg sz) p2 c2 g8 o8 L G H 400 wc (q1.wide (Nat.zero_le _) (Nat.le_refl _))
              rwa [mvR_400 hokn] at this : Calls Try.prog 89 #[.agg #[.int .i64 L, .int .i64 G, .bool H, .slice p2 (N + 1) c2], .int .i64 400] wc fun e w' => ∃ p' c', e = .returned (.agg #[.int .i64 L, .int .i64 G, .bool H, .slice p' (N + 1) c']) ∧ N + 1 ≤ c' ∧ RowNew w' wc.heap.size p' ((N + 1) * 3) (mvZ L G 400 (nwY N zk bg sz)) ∧ Below wc.heap.size wc w')
            have K1 := Lib.hid k1
            have K5 := Lib.hid k5
            clear k1 k3 k5 hokn hnb hcp hxk hyk x0 x1 x2 x3 x4 x5 x6 x7 b0 D0 XQ RQ BQ YQ
            obtain ⟨x0, x1, x2, x3, -, -, -, -⟩ := cells4 K1.out
            go_wp2_with (go_at_call 89; refine hmv.out.mono ?_; rintro e w9 ⟨p9, c9, rfl, hc9, hrn9, hb9⟩; have HX9 := Lib.hid ((hb9.block w.heap.size k4).trans K1.out); have HR9 := Lib.hid hrn9; have hs9 := hb9.size; have HB9 := Lib.hid (K5.out.trans (hb9.mono (by omega))); clear hrn9 hb9 x0 x1 x2 x3; obtain ⟨x0, x1, x2, x3, x4, x5, x6, x7⟩ := cells4 HX9.out)
            go_roundw
            case rel =>
              refine ⟨k + 1, mvZ L G 400 (nwY N zk bg sz), p9, c9, by omega, by congr 1, ?_, HPK.out ⟨h40, hsf⟩, ?_, by rw [HCB.out]; exact hc9, ?_, by simp [World.setCell]; omega, ?_⟩
              · rw [HE.out, HCB.out]; exact hcn
              · rw [HCB.out]; exact blk_set (blk_set (blk_set (blk_set HX9.out _) _) _) _
              · rw [HCB.out]; exact ((((HR9.out.wide (B' := w.heap.size + 1) (by omega)).far _ (by simp)).far _ (by simp)).far _ (by simp)).far _ (by simp)
              · exact (((HB9.out.setCell (Nat.le_refl _) _).setCell (Nat.le_refl _) _).setCell (Nat.le_refl _) _).setCell (Nat.le_refl _) _
            case measure => simp only [intOf]; omega
        · obtain rfl : k = i := by omega
          have HQ := Lib.hid (HRR.out k ⟨Nat.le_refl _, HP.out, fun h => absurd h (by omega)⟩)
          have H5 := Lib.hid h5
          clear h1 h3 h5
          go_wp2_with fail
          go_ret
          exact ⟨by rw [HQ.out]; first | done | rfl, H5.out⟩

end Go.Proofs.Ytobcgidakbbhpab
