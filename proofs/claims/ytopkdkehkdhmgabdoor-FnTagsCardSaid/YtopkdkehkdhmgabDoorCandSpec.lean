/- What the model's Candidates returns. -/
import Derived.Test.YtopkdkehkdhmgabDoorCandState
import Derived.Test.YtopkdkehkdhmgabDoorOfNum
import Derived.Test.YtopkdkehkdhmgabDoorTen
import Derived.OwnWalk
import Derived.BigQuiet
import Derived.Deep.QuietTactic
import Derived.Deep.RegionWith
namespace Go.Proofs.YtopkdkehkdhmgabDoor
open Go.RowKit

theorem infoTag : (Tryd.prog.info? 36).map (fun i => (i.zero, i.size, i.bytes)) = some (some (.agg #[.int .i64 0, .int .i64 0, .int .i64 0]), 3, 24) := by kernel_rfl

/-- What Candidates leaves for the bytes l. -/
def CandPost (l : List UInt8) (B : Nat) (w : World) (e : Ending) (w' : World) : Prop :=
  ∃ (v : Value) (n : Nat) (xs : List Value) (ok : Bool), e = .returned (.tuple #[v, .bool ok]) ∧ w'.ownsRow B 36 3 v n xs ∧ Below B w w' ∧
    ((frm l ∧ ok = true ∧ n = (cands l).length ∧ xs = (cands l).flatMap tagCell) ∨ (¬ frm l ∧ ok = false ∧ n = 0 ∧ xs = []))

theorem get_at (s : ByteArray) (i : Nat) (h : i < s.size) : s.data.toList.getD i 0 = s[i] := by
  rw [List.getD_eq_getElem?_getD, List.getElem?_eq_getElem (by simpa using h)]; rfl
theorem isQ_at (s : ByteArray) (i : Nat) (h : i < s.size) : isQ s.data.toList i = ((s[i].toNat : Int) == 63) := by
  unfold isQ; rw [get_at s i h, Bool.eq_iff_iff, beq_iff_eq, beq_iff_eq]
  constructor
  · intro e; rw [e]; rfl
  · intro e; apply UInt8.toNat_inj.1; have : s[i].toNat = 63 := by omega
    rw [this]; rfl
theorem no_cand (w : World) (l : List UInt8) (hf : ¬ frm l) : ∀ w', Below w.heap.size w w' → CandPost l w.heap.size w (.returned (.tuple #[.slice (some ⟨w'.heap.size, 0, none⟩) 0 0, .bool false])) (w'.alloc (.cells #[] 36)) := by
  intro w' hb
  refine ⟨_, 0, [], false, rfl, ⟨rfl, .inr ⟨w'.heap.size, 0, #[], rfl, hb.size, heap_alloc_new w' _, Nat.le_refl _, by decide, rfl, rfl⟩⟩, hb.alloc hb.size _, .inr ⟨hf, rfl, rfl, rfl⟩⟩

set_option maxRecDepth 100000 in
set_option maxHeartbeats 4000000 in
theorem scand_any (s : ByteArray) (hsz : s.size ≤ 1048576) (w : World) :
    Calls Tryd.prog 49 #[.string s] w (CandPost s.data.toList w.heap.size w) := by
  obtain ⟨i0, hi, hz0, hz1, hz2⟩ := info_parts infoTag
  have hlen : s.data.toList.length = s.size := by simp
  by_cases h12 : s.size = 12
  · have hs10 : 10 < s.size := by omega
    have hs1 : s.size ≤ 12 := by omega
    have hs2 : 12 ≤ s.size := by omega
    have hne : ((s.size : Int) != 12) = false := by rw [bne_eq_false_iff_eq]; omega
    have HLen := Lib.hid (hlen.trans h12)
    clear hlen h12
    by_cases h45 : s[10].toNat = 45
    · have h45' : ((s[10].toNat : Int) != 45) = false := by rw [bne_eq_false_iff_eq]; omega
      have H45 : Hid (s.data.toList.getD 10 0 = 45) := by
        show _ = _
        rw [get_at s 10 hs10]; exact UInt8.toNat_inj.1 h45
      clear h45
      go_enter Tryd.func49, Tryd.ntmps49
      go_wp2
      go_loop [4, 5] (fun u i => ∃ k c : Nat, k ≤ 12 ∧ i = .int .i64 k ∧ u = .int .i64 c ∧ c ≤ 12 ∧ Hid (c = (placesTo s.data.toList k).length ∧ ∀ j, j < k → j ≠ 10 → s.data.toList.getD j 0 = 63 ∨ isD (s.data.toList.getD j 0)))
        (fun _ i => 12 - (intOf i).toNat)
      case atStart => exact ⟨0, 0, by omega, rfl, rfl, by omega, Lib.hid ⟨rfl, fun j hj => absurd hj (by omega)⟩⟩
      case round =>
        obtain ⟨k, c, hk, rfl, rfl, hc, HK⟩ := hrel
        by_cases hlt : k < 12
        · have hks : k < s.size := by omega
          have hcn : c + (if isQ s.data.toList k = true then 1 else 0) = (placesTo s.data.toList (k + 1)).length := by
            rw [placesTo_succ, List.length_append, HK.out.1]
            split <;> rfl
          have hcl := placesTo_le s.data.toList (k + 1)
          have hq := isQ_at s k hks
          have hga := get_at s k hks
          by_cases h63 : s[k].toNat = 63
          · have h63' : ((s[k].toNat : Int) == 63) = true := beq_iff_eq.2 (by omega)
            rw [if_pos (hq.trans h63')] at hcn
            have hc12 : c + 1 ≤ 12 := by omega
            have HK2 : Hid (c + 1 = (placesTo s.data.toList (k + 1)).length ∧ ∀ j, j < k + 1 → j ≠ 10 → s.data.toList.getD j 0 = 63 ∨ isD (s.data.toList.getD j 0)) := by
              refine ⟨hcn, fun j hj h10 => ?_⟩
              by_cases e : j = k
              · subst e; left; rw [hga]; exact UInt8.toNat_inj.1 h63
              · exact HK.out.2 j (by omega) h10
            clear hcn hcl hq hga h63
            go_wp2
            go_round
            case rel => exact ⟨k + 1, c + 1, by omega, by go_num, by go_num, hc12, HK2⟩
            case measure => simp [intOf] <;> omega
          · have h63' : ((s[k].toNat : Int) == 63) = false := beq_eq_false_iff_ne.2 (by omega)
            rw [if_neg (by rw [hq, h63']; decide), Nat.add_zero] at hcn
            by_cases h10 : k = 10
            · subst h10
              have HK2 : Hid (c = (placesTo s.data.toList (10 + 1)).length ∧ ∀ j, j < 10 + 1 → j ≠ 10 → s.data.toList.getD j 0 = 63 ∨ isD (s.data.toList.getD j 0)) :=
                ⟨hcn, fun j hj h10 => HK.out.2 j (by omega) h10⟩
              clear hcn hcl hq hga h63
              go_wp2
              go_round
              case rel => exact ⟨10 + 1, c, by omega, by go_num, rfl, hc, HK2⟩
              case measure => simp [intOf] <;> omega
            · have h10' : ((k : Int) != 10) = true := by rw [bne_iff_ne]; omega
              by_cases hd : 48 ≤ s[k].toNat
              · by_cases hd2 : s[k].toNat ≤ 57
                · have hd' : ¬ ((s[k].toNat : Int) < 48) := by omega
                  have hd2' : ¬ ((57 : Int) < (s[k].toNat : Int)) := by omega
                  have HK2 : Hid (c = (placesTo s.data.toList (k + 1)).length ∧ ∀ j, j < k + 1 → j ≠ 10 → s.data.toList.getD j 0 = 63 ∨ isD (s.data.toList.getD j 0)) := by
                    refine ⟨hcn, fun j hj h10 => ?_⟩
                    by_cases e : j = k
                    · subst e; right; rw [hga]; exact ⟨hd, hd2⟩
                    · exact HK.out.2 j (by omega) h10
                  clear hcn hcl hq hga h63 h10
                  go_wp2
                  go_round
                  case rel => exact ⟨k + 1, c, by omega, by go_num, rfl, hc, HK2⟩
                  case measure => simp [intOf] <;> omega
                · have hf : ¬ frm s.data.toList := fun h => by
                    rcases h.2.2.1 k hlt h10 with e | e
                    · rw [hga] at e; rw [e] at h63; exact h63 rfl
                    · rw [hga] at e; exact hd2 e.2
                  have HF := Lib.hid (no_cand w s.data.toList hf w (Below.refl _ _))
                  have hd' : ¬ ((s[k].toNat : Int) < 48) := by omega
                  have hd2' : (57 : Int) < (s[k].toNat : Int) := by omega
                  clear hcn hcl hq hga h63 h10 hf
                  go_wp2
                  go_ret2
                  exact HF.out
              · have hf : ¬ frm s.data.toList := fun h => by
                  rcases h.2.2.1 k hlt h10 with e | e
                  · rw [hga] at e; rw [e] at h63; exact h63 rfl
                  · rw [hga] at e; exact hd e.1
                have HF := Lib.hid (no_cand w s.data.toList hf w (Below.refl _ _))
                have hd' : (s[k].toNat : Int) < 48 := by omega
                clear hcn hcl hq hga h63 h10 hf
                go_wp2
                go_ret2
                exact HF.out
        · obtain rfl : k = 12 := by omega
          by_cases h3 : 3 < c
          · have hf : ¬ frm s.data.toList := fun h => by have := h.2.2.2; have := HK.out.1; omega
            have HF := Lib.hid (no_cand w s.data.toList hf w (Below.refl _ _))
            clear hf
            go_wp2
            go_ret2
            exact HF.out
          · have hc3 : c ≤ 3 := by omega
            have HFm : Hid (frm s.data.toList) := ⟨HLen.out, H45.out, fun j hj h10 => HK.out.2 j hj h10, by have := HK.out.1; omega⟩
            have HC := Lib.hid HK.out.1
            have hd3 : decide ((3 : Int) < (c : Int)) = false := decide_eq_false (by omega)
            clear h3
            go_wp2
            go_loop [6, 7] (fun a i => ∃ j p : Nat, j ≤ c ∧ i = .int .i64 j ∧ a = .int .i64 p ∧ p ≤ 1000 ∧ Hid (p = 10 ^ j)) (fun _ i => c - (intOf i).toNat)
            case atStart => exact ⟨0, 1, by omega, rfl, rfl, by omega, Lib.hid rfl⟩
            case round =>
              obtain ⟨j, p, hj, rfl, rfl, hp, HP⟩ := hrel
              by_cases hjc : j < c
              · have hp100 : p ≤ 100 := by
                  have := HP.out
                  have h2 : 10 ^ j ≤ 10 ^ 2 := Nat.pow_le_pow_right (by decide) (by omega)
                  omega
                have HP2 : Hid (p * 10 = 10 ^ (j + 1)) := by show _ = _; rw [Nat.pow_succ, ← HP.out]
                go_wp2
                go_round
                case rel => exact ⟨j + 1, p * 10, by omega, by go_num, by go_num, by omega, HP2⟩
                case measure => simp [intOf] <;> omega
              · have HPc : Hid (p = 10 ^ (placesTo s.data.toList 12).length) := by
                  have := HP.out
                  have e : j = c := by omega
                  rw [← HC.out, ← e]; exact this
                go_wp2
                go_loopw [8, 9] (fun out kk wr => ∃ (k n : Nat), k ≤ p ∧ kk = .int .i64 k ∧ n ≤ k ∧ wr.ownsRow w.heap.size 36 3 out n ((candsTo s.data.toList k).flatMap tagCell) ∧ Hid (n = (candsTo s.data.toList k).length) ∧ Below w.heap.size w wr)
                  (fun _ kk _ => p - (intOf kk).toNat)
                case atStart => exact ⟨0, 0, by omega, rfl, by omega, ⟨by simp [candsTo], .inr ⟨w.heap.size, 0, #[], rfl, Nat.le_refl _, heap_alloc_new w _, Nat.le_refl _, by decide, rfl, by simp [candsTo]⟩⟩, Lib.hid rfl, (Below.refl _ _).alloc (Nat.le_refl _) _⟩
                case round =>
                  obtain ⟨k, n, hk, rfl, hn, hown, HN, hb⟩ := hrel
                  by_cases hkp : k < p
                  · obtain ⟨wo, rfl⟩ : ∃ wo : World, wo = wr := ⟨_, rfl⟩
                    have hbs : ∀ W : World, (convert 9 22 (.string s)).run Tryd.prog W = .ok (.slice (some ⟨W.heap.size, 0, none⟩) 12 (grownCap W s.size 0 5)) (Lib.bytesWorld W 5 s) := fun W => by
                      have := Lib.run_convert_string_bytes (P := Tryd.prog) W 9 22 5 s Tryd.underlying9 Tryd.underlying22 Tryd.underlying5
                      rwa [show s.size = 12 by omega] at this ⊢
                    have hs12 : s.size = 12 := by omega
                    have hX0 := TX_bytes wo 5 s hs12
                    have hB0 := Lib.bytesWorld_below wo 5 s
                    have hbsz := hb.size
                    obtain ⟨l, hl⟩ : ∃ l, l = s.data.toList := ⟨_, rfl⟩
                    have HLl := Lib.hid hl
                    rw [← hl] at hX0
                    clear hl hs12
                    have HX0 := Lib.hid hX0
                    have HB0 := Lib.hid hB0
                    clear hX0 hB0
                    have hp1000 : k < 1000 := by omega
                    go_wp2
                    go_loopw [11, 12] (fun rest i wr2 => ∃ (i' : Int) (r : Nat), -1 ≤ i' ∧ i' ≤ 11 ∧ i = .int .i64 i' ∧ rest = .int .i64 r ∧ r ≤ 1000 ∧ Hid (r = (stR l k (i' + 1).toNat).2) ∧ Hid (TX wr2 wo.heap.size (stR l k (i' + 1).toNat).1) ∧ Below wo.heap.size wo wr2)
                      (fun _ i _ => (intOf i + 1).toNat)
                    case atStart => exact ⟨11, k, by omega, by omega, rfl, rfl, by omega, by show _ = _; simp [stR_top], by show TX _ _ _; simpa [stR_top] using HX0.out, HB0.out⟩
                    case round =>
                      obtain ⟨i', r, hi0, hi1, rfl, rfl, hr, HR, HT, hB⟩ := hrel
                      by_cases hp0 : 0 ≤ i'
                      · obtain ⟨m, rfl⟩ := Int.eq_ofNat_of_zero_le hp0
                        have e1 : ((m : Int) + 1).toNat = m + 1 := by omega
                        have e2 : ((m : Int) - 1 + 1).toNat = m := by omega
                        have HR1 : Hid (r = (stR l k (m + 1)).2) := by have := HR.out; rw [e1] at this; exact this
                        have HT1 : Hid (TX wr wo.heap.size (stR l k (m + 1)).1) := by have := HT.out; rw [e1] at this; exact this
                        have E2 := Lib.hid e2
                        clear HR HT e1 e2
                        have hms : m < s.size := by omega
                        have hcell : wr.cell? ⟨wo.heap.size, m, none⟩ = some (.int .u8 (s[m].toNat : Int)) := by
                          have := (HT1.out.2.2 m (by omega)).1
                          rw [stR_at, HLl.out, get_at s m hms] at this
                          exact this
                        have hfz : wr.frozen? ⟨wo.heap.size, m, none⟩ = false := (HT1.out.2.2 m (by omega)).2
                        have hq := isQ_at s m hms
                        rw [← HLl.out] at hq
                        by_cases h63 : s[m].toNat = 63
                        · have h63' : ((s[m].toNat : Int) == 63) = true := beq_iff_eq.2 (by omega)
                          have hst := stR_yes l k m (by omega) (hq.trans h63')
                          have HR2 : Hid (r / 10 = (stR l k ((m : Int) - 1 + 1).toNat).2) := by show _ = _; rw [E2.out, hst, HR1.out]
                          have hd8 : byt (dg8 r) = .int .u8 (48 + (r : Int) % 10) := by unfold byt dg8; rw [dig_nat _ (by omega)]; congr 1
                          have HT2 : Hid (TX (wr.setCell ⟨wo.heap.size, m, none⟩ (.int .u8 (48 + (r : Int) % 10))) wo.heap.size (stR l k ((m : Int) - 1 + 1).toNat).1) := by
                            have := HT1.out.set m (dg8 r) (by omega)
                            rw [hd8] at this
                            show TX _ _ _
                            rw [E2.out, hst, ← HR1.out]
                            exact this
                          have hB2 := hB.setCell (p := ⟨wo.heap.size, m, none⟩) (Nat.le_refl _) (.int .u8 (48 + (r : Int) % 10))
                          clear hq h63 hst hd8 HT1 HR1
                          go_wp2
                          go_roundw
                          case rel => exact ⟨(m : Int) - 1, r / 10, by omega, by omega, rfl, by go_num, by omega, HR2, HT2, hB2⟩
                          case measure => simp [intOf] <;> omega
                        · have h63' : ((s[m].toNat : Int) == 63) = false := beq_eq_false_iff_ne.2 (by omega)
                          have hst := stR_no l k m (by omega) (hq.trans h63')
                          have HR2 : Hid (r = (stR l k ((m : Int) - 1 + 1).toNat).2) := by show _ = _; rw [E2.out, hst]; exact HR1.out
                          have HT2 : Hid (TX wr wo.heap.size (stR l k ((m : Int) - 1 + 1).toNat).1) := by show TX _ _ _; rw [E2.out, hst]; exact HT1.out
                          clear hq h63 hst HT1 HR1
                          go_wp2
                          go_roundw
                          case rel => exact ⟨(m : Int) - 1, r, by omega, by omega, rfl, rfl, by omega, HR2, HT2, hB⟩
                          case measure => simp [intOf] <;> omega
                      · obtain rfl : i' = -1 := by omega
                        obtain ⟨b, hbb⟩ : ∃ b, b = setsR (placesTo l 12).reverse l k := ⟨_, rfl⟩
                        have hT0 : TX wr wo.heap.size b := by
                          have := HT.out
                          rw [show ((-1 : Int) + 1).toNat = 0 by rfl, stR_zero] at this
                          rw [hbb]; exact this
                        have hdg : ∀ j, j < 10 → isD (b.getD j 0) := fun j hj => by rw [hbb, HLl.out]; exact fill_isD (HLl.out ▸ HFm.out) k j hj
                        have HBB := Lib.hid hbb
                        have HT0 := Lib.hid hT0
                        have HDG := Lib.hid hdg
                        clear hbb hT0 hdg HT HR hp0
                        go_wp2
                        go_loop [13, 14] (fun n i => ∃ j v : Nat, j ≤ 10 ∧ i = .int .i64 j ∧ n = .int .i64 v ∧ Hid (v = numOf (b.take j)) ∧ v ≤ 9999999999) (fun _ i => 10 - (intOf i).toNat)
                        case atStart => exact ⟨0, 0, by omega, rfl, rfl, Lib.hid (by simp [numOf, numFrom]), by omega⟩
                        case round =>
                          obtain ⟨j, v, hj, rfl, rfl, HV, hv10⟩ := hrel
                          have hb12 := HT0.out.2.1
                          by_cases hj10 : j < 10
                          · obtain ⟨d, hd⟩ : ∃ d : UInt8, d = b.getD j 0 := ⟨_, rfl⟩
                            have hcell : wr.cell? ⟨wo.heap.size, j, none⟩ = some (.int .u8 (d.toNat : Int)) := by rw [hd]; exact (HT0.out.2.2 j (by omega)).1
                            obtain ⟨d1, d2⟩ := HDG.out j hj10
                            rw [← hd] at d1 d2
                            have htk : b.take (j + 1) = b.take j ++ [d] := by
                              rw [List.take_succ_eq_append_getElem (by omega), hd, List.getD_eq_getElem?_getD, List.getElem?_eq_getElem (by omega)]; rfl
                            have hlt9 : v ≤ 999999999 := by
                              have h1 := numOf_lt (b.take j) (fun c hc => by
                                obtain ⟨q, hq, rfl⟩ := List.getElem_of_mem hc
                                rw [List.length_take] at hq
                                have := HDG.out q (by omega)
                                rw [List.getD_eq_getElem?_getD, List.getElem?_eq_getElem (by omega)] at this
                                rw [List.getElem_take]
                                exact this)
                              rw [List.length_take, Nat.min_eq_left (by omega)] at h1
                              have h2 : 10 ^ j ≤ 10 ^ 9 := Nat.pow_le_pow_right (by decide) (by omega)
                              have := HV.out
                              omega
                            have HV2 : Hid (10 * v + (d.toNat - 48) = numOf (b.take (j + 1))) := by show _ = _; rw [htk, numOf_snoc, ← HV.out]
                            clear htk hd hb12
                            go_wp2
                            go_round
                            case rel => exact ⟨j + 1, 10 * v + (d.toNat - 48), by omega, by go_num, by go_num, HV2, by omega⟩
                            case measure => simp [intOf] <;> omega
                          · obtain rfl : j = 10 := by omega
                            obtain ⟨ta, hta⟩ : ∃ x : Int, x = ((v / 1000000000 : Nat) : Int) := ⟨_, rfl⟩
                            obtain ⟨tb, htb⟩ : ∃ x : Int, x = ((v / 1000000 % 1000 : Nat) : Int) := ⟨_, rfl⟩
                            obtain ⟨tc, htc⟩ : ∃ x : Int, x = ((v % 1000000 : Nat) : Int) := ⟨_, rfl⟩
                            have HTA := Lib.hid hta
                            have HTB := Lib.hid htb
                            have HTC := Lib.hid htc
                            clear hta htb htc hb12
                            have hBs := hB.size
                            go_wp2_with fail
                            refine (ofNum_any v hv10 ta tb tc HTA.out HTB.out HTC.out _).mono ?_
                            rintro e w5 ⟨rfl, hb5⟩
                            have hT5 := Lib.hid (HT0.out.below hb5 HT0.out.1)
                            have hB5 : Below wo.heap.size wo w5 := hB.trans (hb5.mono hBs)
                            have hs5 := hb5.size
                            obtain ⟨f, hf⟩ : ∃ f, f = ftext ta tb tc := ⟨_, rfl⟩
                            have HF := Lib.hid hf.symm
                            have hto : tagOf b = if f = b then some (v / 1000000000, v / 1000000 % 1000, v % 1000000) else none := by
                              unfold tagOf
                              rw [← HV.out, hf, HTA.out, HTB.out, HTC.out]
                            clear hf
                            have hsucc := candsTo_succ l k
                            rw [← HBB.out, hto, HLl.out] at hsucc
                            have HSucc := Lib.hid hsucc
                            clear hto hsucc
                            have hown5 := own_below hown hB5
                            have HG : Hid (∀ W' : World, Below w5.heap.size w5 W' → (convert 22 9 (.slice (some ⟨wo.heap.size, 0, none⟩) 12 (grownCap wo s.size 0 5))).run Tryd.prog W' = .ok (.string ⟨b.toArray⟩) W') := fun W' h =>
                              (hT5.out.below h hT5.out.1).conv Tryd.underlying22 Tryd.underlying5 Tryd.underlying9 _
                            have hbA : Below w5.heap.size w5 (w5.alloc (.cells #[.int .i64 ta, .int .i64 tb, .int .i64 tc] 36)).drew := ((Below.refl _ _).alloc (Nat.le_refl _) _).drew
                            have hcvA := HG.out _ hbA
                            have hnk : n ≤ 1000 := by omega
                            have hbw5 : Below w.heap.size w w5 := hb.trans (hB5.mono hbsz)
                            have hsz5 : w.heap.size ≤ w5.heap.size := hbw5.size
                            by_cases hfb : f = b
                            · rw [if_pos hfb] at HSucc
                              subst hfb
                              go_wp2_with fail
                              go_region_with (first | (go_at_call 21; refine (specFmt_any ta tb tc _).mono ?_; rw [HF.out]; rintro e w6 ⟨rfl, hb6⟩; have hcvB := HG.out w6 ((hbA).trans (hb6.mono (by simp)))))
                              all_goals
                                have h56 : Below w5.heap.size w5 w6 := hbA.trans (hb6.mono (by simp))
                                have hB6 : Below wo.heap.size wo w6 := hB5.trans (h56.mono (Nat.le_trans hBs hs5))
                                have hown6 := own_below hown5 h56
                                have hbw6 : Below w.heap.size w w6 := hb.trans (hB6.mono hbsz)
                                have hsz6 : w.heap.size ≤ w6.heap.size := hbw6.size
                                have q0 : w6.cell? ⟨w5.heap.size, 0, none⟩ = some (.int .i64 ta) := (hb6.cell (p := ⟨w5.heap.size, 0, none⟩) (by simp)).trans (by simp)
                                have q1 : w6.cell? ⟨w5.heap.size, 1, none⟩ = some (.int .i64 tb) := (hb6.cell (p := ⟨w5.heap.size, 1, none⟩) (by simp)).trans (by simp)
                                have q2 : w6.cell? ⟨w5.heap.size, 2, none⟩ = some (.int .i64 tc) := (hb6.cell (p := ⟨w5.heap.size, 2, none⟩) (by simp)).trans (by simp)
                                clear hb6 hcvA hown hown5
                                go_wp2_with (at_builtin; refine wpList_append_own _ rfl _ _ 63 rfl w.heap.size 36 i0 (.agg #[.int .i64 0, .int .i64 0, .int .i64 0]) 3 24 Tryd.underlying63 hi hz0 hz1 hz2 rfl (by decide) _ n _ rfl (hown6.alloc _) ⟨w6.heap.size, 0, none⟩ 1 1 [.int .i64 ta, .int .i64 tb, .int .i64 tc] rfl rfl (by intro j u hj; match j, hj with | 0, hj => simp at hj; subst hj; simp [Addr.add] | 1, hj => simp at hj; subst hj; simp [Addr.add] | 2, hj => simp at hj; subst hj; simp [Addr.add]) (by intro u hu; simp at hu; rcases hu with rfl | rfl | rfl <;> rfl) (by unfold maxLen; omega) (by omega) (by simp; omega) ?_; intro v' w7 hown7 hgrow7 _)
                                have hbw7 : Below w.heap.size w w7 := (hbw6.alloc hsz6 _).grown hgrow7 (by simp; omega) (fun j hj => (hown6.lt j hj).1)
                                have hlast : (candsTo s.data.toList k).flatMap tagCell ++ [.int .i64 ta, .int .i64 tb, .int .i64 tc] = (candsTo s.data.toList (k + 1)).flatMap tagCell := by
                                  rw [HSucc.out, List.flatMap_append, HTA.out, HTB.out, HTC.out]
                                  rfl
                                go_wp2
                                go_roundw
                                case rel => exact ⟨k + 1, n + 1, by omega, by go_num, by omega, by rw [← hlast]; exact hown7, by show _ = _; rw [HSucc.out, List.length_append, ← HN.out]; rfl, hbw7⟩
                                case measure => simp [intOf] <;> omega
                            · rw [if_neg hfb] at HSucc
                              have hcmp : (f == b) = false := beq_eq_false_iff_ne.2 hfb
                              clear hfb
                              go_wp2_with fail
                              go_region_with (first | (go_at_call 21; refine (specFmt_any ta tb tc _).mono ?_; rw [HF.out]; rintro e w6 ⟨rfl, hb6⟩; have hcvB := HG.out w6 ((hbA).trans (hb6.mono (by simp)))))
                              all_goals
                                have h56 : Below w5.heap.size w5 w6 := hbA.trans (hb6.mono (by simp))
                                have hB6 : Below wo.heap.size wo w6 := hB5.trans (h56.mono (Nat.le_trans hBs hs5))
                                have hown6 := own_below hown5 h56
                                have hbw6 : Below w.heap.size w w6 := hb.trans (hB6.mono hbsz)
                                have hsz6 : w.heap.size ≤ w6.heap.size := hbw6.size
                                clear hb6 hcvA hown hown5
                                go_wp2
                                go_roundw
                                case rel => exact ⟨k + 1, n, by omega, by go_num, by omega, by rw [HSucc.out]; simp only [Option.toList_none, List.append_nil]; exact hown6, by show _ = _; rw [HSucc.out]; simp only [Option.toList_none, List.append_nil]; exact HN.out, hbw6⟩
                                case measure => simp [intOf] <;> omega
                  · have e : k = p := by omega
                    have hx : candsTo s.data.toList k = cands s.data.toList := by rw [e, HPc.out]; exact candsTo_all _
                    have HX := Lib.hid hx
                    clear hx e
                    go_wp2
                    go_ret2
                    rw [HX.out] at hown
                    exact ⟨_, _, _, _, rfl, hown, hb, .inl ⟨HFm.out, rfl, by rw [← HX.out]; exact HN.out, rfl⟩⟩
    · have h45' : ((s[10].toNat : Int) != 45) = true := by rw [bne_iff_ne]; omega
      have hf : ¬ frm s.data.toList := fun h => by
        have := h.2.1
        rw [get_at s 10 hs10] at this
        rw [this] at h45
        exact h45 rfl
      have HF := Lib.hid (no_cand w s.data.toList hf w (Below.refl _ _))
      clear h45 hf
      go_enter Tryd.func49, Tryd.ntmps49
      go_wp2
      go_ret2
      exact HF.out
  · have hf : ¬ frm s.data.toList := fun h => h12 (by rw [← hlen]; exact h.1)
    have HF := Lib.hid (no_cand w s.data.toList hf w (Below.refl _ _))
    have hne : ((s.size : Int) != 12) = true := by rw [bne_iff_ne]; omega
    clear hlen h12 hf
    go_enter Tryd.func49, Tryd.ntmps49
    go_wp2
    go_ret2
    exact HF.out

end Go.Proofs.YtopkdkehkdhmgabDoor
