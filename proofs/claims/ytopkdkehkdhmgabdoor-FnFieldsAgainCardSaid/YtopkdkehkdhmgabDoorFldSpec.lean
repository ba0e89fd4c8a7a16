/- What the model's SplitFields leaves. -/
import Derived.Test.YtopkdkehkdhmgabDoorFldPlain
import Derived.Test.YtopkdkehkdhmgabDoorChecked
import Derived.OwnWalk
namespace Go.Proofs.YtopkdkehkdhmgabDoor
open Go.RowKit

theorem infoStr : (Tryd.prog.info? 9).map (fun i => (i.zero, i.size, i.bytes)) = some (some (.string ByteArray.empty), 1, 16) := by kernel_rfl

theorem no_fld (s : ByteArray) (w : World) (hf : ¬ fgood s) : ∀ w', Below w.heap.size w w' → FldPost s 9 w.heap.size w (.returned (.tuple #[.slice (some ⟨w'.heap.size, 0, none⟩) 0 0, .bool false])) (w'.alloc (.cells #[] 9)) := by
  intro w' hb
  exact ⟨_, 0, [], false, rfl, ⟨rfl, .inr ⟨w'.heap.size, 0, #[], rfl, hb.size, heap_alloc_new w' _, Nat.le_refl _, by decide, rfl, rfl⟩⟩, hb.alloc hb.size _, .inr ⟨hf, rfl, rfl, rfl⟩⟩

set_option maxRecDepth 100000 in
set_option maxHeartbeats 4000000 in
theorem sfld_any (s : ByteArray) (hsz : s.size ≤ 1048576) (w : World) :
    Calls Tryd.prog 16 #[.string s] w (FldPost s 9 w.heap.size w) := by
  obtain ⟨i0, hi, hz0, hz1, hz2⟩ := info_parts infoStr
  by_cases h600 : s.size ≤ 600
  · obtain ⟨n, hn⟩ : ∃ n, n = s.size := ⟨_, rfl⟩
    have hn600 : n ≤ 600 := by omega
    have HN := Lib.hid hn
    have HS : Hid (s.size = n) := hn.symm
    clear h600
    rw [← hn] at hsz
    clear hn
    go_enter Tryd.func16, Tryd.ntmps16
    have hsn : s.size = n := HS.out
    go_wp2
    clear hsn
    go_loopw [4, 5, 6] (fun out bg i wr => ∃ (k b : Nat) (gs : List (Nat × Nat)), k ≤ n + 1 ∧ i = .int .i64 (k : Int) ∧ bg = .int .i64 (b : Int) ∧ b ≤ k ∧ gs.length ≤ k ∧ wr.ownsRow w.heap.size 9 1 out gs.length (strsOf s gs) ∧ Hid ((k ≤ n → fld s.data.toList k = (b, gs)) ∧ (k = n + 1 → gs = flds s.data.toList n) ∧ ∀ j, j < k → j < n → okB s.data.toList j) ∧ Below w.heap.size w wr) (fun _ _ i _ => n + 1 - (intOf i).toNat)
    case atStart => exact ⟨0, 0, [], by omega, rfl, rfl, by omega, by simp, ⟨rfl, .inr ⟨w.heap.size, 0, #[], rfl, Nat.le_refl _, heap_alloc_new w _, Nat.le_refl _, by decide, rfl, rfl⟩⟩, ⟨fun _ => rfl, fun h => absurd h (by omega), fun j hj => absurd hj (by omega)⟩, (Below.refl _ _).alloc (Nat.le_refl _) _⟩
    case round =>
      obtain ⟨k, b, gs, hk, rfl, rfl, hb, hgs, hown, HK, hbw⟩ := hrel
      have hbs := hbw.size
      by_cases hkn : k < n
      · have hks : k < s.size := by rw [HS.out]; exact hkn
        have hga := byteAt s k hks
        have hst := HK.out.1 (by omega)
        by_cases h31 : s[k].toNat < 32
        · have hf : ¬ fgood s := fun h => by have := (h.2.1 k hks).1; rw [hga] at this; omega
          have HF := Lib.hid (no_fld s w hf _ hbw)
          have h31' : (s[k].toNat : Int) < 32 := by omega
          have hkn' : (k : Int) < (n : Int) := by omega
          clear hf hga hst h31 HK hown
          have hsn : s.size = n := HS.out
          go_wp2
          go_ret2
          exact HF.out
        · by_cases h127 : 126 < s[k].toNat
          · have hf : ¬ fgood s := fun h => by have := (h.2.1 k hks).2; rw [hga] at this; omega
            have HF := Lib.hid (no_fld s w hf _ hbw)
            have h31' : ¬ ((s[k].toNat : Int) < 32) := by omega
            have h127' : (126 : Int) < (s[k].toNat : Int) := by omega
            have hkn' : (k : Int) < (n : Int) := by omega
            clear hf hga hst h31 HK hown
            have hsn : s.size = n := HS.out
            go_wp2
            go_ret2
            exact HF.out
          · have hokk : okB s.data.toList k := by unfold okB; rw [hga]; omega
            have h31' : ¬ ((s[k].toNat : Int) < 32) := by omega
            have h127' : ¬ ((126 : Int) < (s[k].toNat : Int)) := by omega
            have hkn' : (k : Int) < (n : Int) := by omega
            have hoks : ∀ j, j < k + 1 → j < n → okB s.data.toList j := fun j hj hjn => by
              by_cases e : j = k
              · rw [e]; exact hokk
              · exact HK.out.2.2 j (by omega) hjn
            by_cases h32 : s[k].toNat = 32
            · have h32' : ((s[k].toNat : Int) != 32) = false := by rw [bne_eq_false_iff_eq]; omega
              have hsp := fld_space (k := k) (hga.trans (is32 h32))
              rw [hst] at hsp
              by_cases hbk : b < k
              · rw [if_pos hbk] at hsp
                have HK2 : Hid ((k + 1 ≤ n → fld s.data.toList (k + 1) = (k + 1, gs ++ [(b, k)])) ∧ (k + 1 = n + 1 → gs ++ [(b, k)] = flds s.data.toList n) ∧ ∀ j, j < k + 1 → j < n → okB s.data.toList j) := ⟨fun _ => hsp, fun h => absurd h (by omega), hoks⟩
                clear hsp hoks hokk hst hga h31 h127 h32 HK
                have hsn : s.size = n := HS.out
                go_wp2_with (at_builtin; refine wpList_append_own _ rfl _ _ 31 rfl w.heap.size 9 i0 (.string ByteArray.empty) 1 16 Tryd.underlying31 hi hz0 hz1 hz2 rfl (by decide) _ gs.length _ rfl (hown.alloc _) ⟨wr.heap.size, 0, none⟩ 1 1 [.string (s.extract b k)] rfl rfl (by intro j u hj; match j, hj with | 0, hj => simp at hj; subst hj; simp [Addr.add]) (by intro u hu; simp at hu; rcases hu with rfl; rfl) (by unfold maxLen; omega) (by omega) (by simp; omega) ?_; intro v' w3 hown3 hgrow3 _)
                have hbw3 : Below w.heap.size w w3 := (hbw.alloc hbs _).grown hgrow3 (by simp; omega) (fun j hj => (hown.lt j hj).1)
                have hns : gs.length + 1 = (gs ++ [(b, k)]).length := by simp
                rw [strsOf_snoc, hns] at hown3
                clear hown hgrow3 hns
                go_wp2
                go_roundw
                case rel => exact ⟨k + 1, k + 1, gs ++ [(b, k)], by omega, by go_num, by go_num, by omega, by simp; omega, hown3, HK2, hbw3⟩
                case measure => simp [intOf] <;> omega
              · rw [if_neg hbk] at hsp
                have HK2 : Hid ((k + 1 ≤ n → fld s.data.toList (k + 1) = (k + 1, gs)) ∧ (k + 1 = n + 1 → gs = flds s.data.toList n) ∧ ∀ j, j < k + 1 → j < n → okB s.data.toList j) := ⟨fun _ => hsp, fun h => absurd h (by omega), hoks⟩
                clear hsp hoks hokk hst hga h31 h127 h32 HK
                have hsn : s.size = n := HS.out
                go_wp2
                go_roundw
                case rel => exact ⟨k + 1, k + 1, gs, by omega, by go_num, by go_num, by omega, by omega, hown, HK2, hbw⟩
                case measure => simp [intOf] <;> omega
            · have h32' : ((s[k].toNat : Int) != 32) = true := by rw [bne_iff_ne]; omega
              have hsp := fld_other (l := s.data.toList) (k := k) (by rw [hga]; intro e; rw [e] at h32; exact h32 rfl)
              rw [hst] at hsp
              have HK2 : Hid ((k + 1 ≤ n → fld s.data.toList (k + 1) = (b, gs)) ∧ (k + 1 = n + 1 → gs = flds s.data.toList n) ∧ ∀ j, j < k + 1 → j < n → okB s.data.toList j) := ⟨fun _ => hsp, fun h => absurd h (by omega), hoks⟩
              clear hsp hoks hokk hst hga h31 h127 h32 HK
              have hsn : s.size = n := HS.out
              go_wp2
              go_roundw
              case rel => exact ⟨k + 1, b, gs, by omega, by go_num, rfl, by omega, by omega, hown, HK2, hbw⟩
              case measure => simp [intOf] <;> omega
      · have hkn' : decide ((k : Int) < (n : Int)) = false := decide_eq_false (by omega)
        by_cases hke : k = n
        · subst hke
          have hst := HK.out.1 (by omega)
          by_cases hbk : b < k
          · have hfl : gs ++ [(b, k)] = flds s.data.toList k := by unfold flds; rw [hst, if_pos hbk]
            have HK2 : Hid ((k + 1 ≤ k → fld s.data.toList (k + 1) = (k + 1, gs ++ [(b, k)])) ∧ (k + 1 = k + 1 → gs ++ [(b, k)] = flds s.data.toList k) ∧ ∀ j, j < k + 1 → j < k → okB s.data.toList j) := ⟨fun h => absurd h (by omega), fun _ => hfl, fun j _ hj => HK.out.2.2 j hj hj⟩
            clear hst hfl HK
            have hsn : s.size = k := HS.out
            go_wp2_with (at_builtin; refine wpList_append_own _ rfl _ _ 31 rfl w.heap.size 9 i0 (.string ByteArray.empty) 1 16 Tryd.underlying31 hi hz0 hz1 hz2 rfl (by decide) _ gs.length _ rfl (hown.alloc _) ⟨wr.heap.size, 0, none⟩ 1 1 [.string (s.extract b k)] rfl rfl (by intro j u hj; match j, hj with | 0, hj => simp at hj; subst hj; simp [Addr.add]) (by intro u hu; simp at hu; rcases hu with rfl; rfl) (by unfold maxLen; omega) (by omega) (by simp; omega) ?_; intro v' w3 hown3 hgrow3 _)
            have hbw3 : Below w.heap.size w w3 := (hbw.alloc hbs _).grown hgrow3 (by simp; omega) (fun j hj => (hown.lt j hj).1)
            have hns : gs.length + 1 = (gs ++ [(b, k)]).length := by simp
            rw [strsOf_snoc, hns] at hown3
            clear hown hgrow3 hns
            go_wp2
            go_roundw
            case rel => exact ⟨k + 1, k + 1, gs ++ [(b, k)], by omega, by go_num, by go_num, by omega, by simp; omega, hown3, HK2, hbw3⟩
            case measure => simp [intOf] <;> omega
          · have hfl : gs = flds s.data.toList k := by unfold flds; rw [hst, if_neg hbk]
            have HK2 : Hid ((k + 1 ≤ k → fld s.data.toList (k + 1) = (k + 1, gs)) ∧ (k + 1 = k + 1 → gs = flds s.data.toList k) ∧ ∀ j, j < k + 1 → j < k → okB s.data.toList j) := ⟨fun h => absurd h (by omega), fun _ => hfl, fun j _ hj => HK.out.2.2 j hj hj⟩
            clear hst hfl HK
            have hsn : s.size = k := HS.out
            go_wp2
            go_roundw
            case rel => exact ⟨k + 1, k + 1, gs, by omega, by go_num, by go_num, by omega, by omega, hown, HK2, hbw⟩
            case measure => simp [intOf] <;> omega
        · have hle : decide ((k : Int) ≤ (n : Int)) = false := decide_eq_false (by omega)
          have hle2 : ¬ ((k : Int) ≤ (n : Int)) := by omega
          have hfl := HK.out.2.1 (by omega)
          have HG : Hid (gs = flds s.data.toList s.size) := by show _ = _; rw [HS.out]; exact hfl
          have hoks : ∀ j, j < s.size → okB s.data.toList j := fun j hj => HK.out.2.2 j (by have := HS.out; omega) (by have := HS.out; omega)
          have HO := Lib.hid hoks
          clear hfl hoks HK
          obtain ⟨p, cap, hv⟩ : ∃ p cap, u4 = .slice p gs.length cap := by
            rcases hown.2 with ⟨h1, h2⟩ | ⟨g, cap, cur, h1, -⟩
            · exact ⟨_, _, h1.trans (by rw [h2])⟩
            · exact ⟨_, _, h1⟩
          subst hv
          obtain ⟨m, hm⟩ : ∃ m, m = gs.length := ⟨_, rfl⟩
          have hm2 : m ≤ n + 1 := by omega
          have HM := Lib.hid hm
          have HW := Lib.hid hown
          rw [← hm]
          clear hown hm hgs
          have hsn : s.size = n := HS.out
          by_cases h24 : m ≤ 24
          · have hgood : fgood s := ⟨by omega, HO.out, by rw [← HG.out, ← HM.out]; exact h24⟩
            have HGd := Lib.hid hgood
            clear hgood
            go_wp2
            go_ret2
            exact ⟨.slice p gs.length cap, gs.length, strsOf s gs, true, by rw [← HM.out]; rfl, HW.out, hbw, .inl ⟨HGd.out, rfl, by rw [← HG.out], by rw [← HG.out]⟩⟩
          · have hf : ¬ fgood s := fun h => by have := h.2.2; rw [← HG.out, ← HM.out] at this; exact h24 this
            have HF := Lib.hid (no_fld s w hf _ hbw)
            clear hf
            go_wp2
            go_ret2
            exact HF.out
  · have hf : ¬ fgood s := fun h => h600 h.1
    have HF := Lib.hid hf
    have h6' : (600 : Int) < (s.size : Int) := by omega
    clear hf h600
    go_enter Tryd.func16, Tryd.ntmps16
    go_wp2
    go_ret2
    exact no_fld s w HF.out w (Below.refl _ _)

end Go.Proofs.YtopkdkehkdhmgabDoor
