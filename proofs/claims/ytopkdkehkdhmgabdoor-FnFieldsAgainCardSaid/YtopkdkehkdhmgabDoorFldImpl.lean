/- What the program's SplitFields leaves. -/
import Derived.Test.YtopkdkehkdhmgabDoorFldSpec
import Derived.Test.YtopkdkehkdhmgabDoorShelf
import Derived.Deep.LoopGhost
import Derived.Lib.Strings
import Derived.WalkMore
namespace Go.Proofs.YtopkdkehkdhmgabDoor
open Go.RowKit

set_option maxHeartbeats 1000000 in
theorem appField_any (s : ByteArray) (a b : Nat) (hab : a ≤ b) (hbs : b ≤ s.size) (hsz : s.size ≤ 600) (v : Value) (n : Nat) (hn : n ≤ 1000) (gs : List (Nat × Nat)) (hgs : n = gs.length) (B : Nat) (w : World) (hB : B ≤ w.heap.size) (hown : w.ownsRow B 9 1 v n (strsOf s gs)) :
    Calls Tryd.prog 40 #[v, .string (s.extract a b)] w fun e w' => ∃ v', e = .returned v' ∧ w'.ownsRow B 9 1 v' (if a < b then gs ++ [(a, b)] else gs).length (strsOf s (if a < b then gs ++ [(a, b)] else gs)) ∧ Below B w w' := by
  obtain ⟨i0, hi, hz0, hz1, hz2⟩ := info_parts infoStr
  have hxs : (s.extract a b).size = b - a := by rw [ByteArray.size_extract]; omega
  have hxl : (s.extract a b).toList = (s.data.toList.drop a).take (b - a) := Lib.extract_toList _ _ _
  obtain ⟨x, hx⟩ : ∃ x, x = s.extract a b := ⟨_, rfl⟩
  rw [← hx] at hxs hxl ⊢
  by_cases h : a < b
  · rw [if_pos h]
    have he : x.toList.isEmpty = false := by
      rw [List.isEmpty_eq_false_iff, hxl]
      intro e
      have := congrArg List.length e
      rw [List.length_take, List.length_drop] at this
      simp at this
      omega
    have he2 : (!x.toList.isEmpty) = true := by rw [he]; rfl
    have he3 : x.toList ≠ [] := by intro e; rw [e] at he; cases he
    have he4 : decide (x.toList = []) = false := decide_eq_false he3
    have HX := Lib.hid hx
    have HG := Lib.hid hgs
    clear hx hxl hgs
    go_enter Tryd.func40, Tryd.ntmps40
    go_wp2_with (first | (go_at_call 72; refine (Tryd.stringslite_Clone x _ (by omega)).mono ?_; rintro e w1 ⟨rfl, hb1⟩; have hown1 := ownsRow_below_any hown hb1; have hB1 := hb1.size) | (at_builtin; refine wpList_append_own _ rfl _ _ 31 rfl B 9 i0 (.string ByteArray.empty) 1 16 Tryd.underlying31 hi hz0 hz1 hz2 rfl (by decide) _ n _ rfl (hown1.alloc _) ⟨w1.heap.size, 0, none⟩ 1 1 [.string x] rfl rfl (by intro j u hj; match j, hj with | 0, hj => simp at hj; subst hj; simp [Addr.add]) (by intro u hu; simp at hu; rcases hu with rfl; rfl) (by unfold maxLen; omega) (by omega) (by simp; omega) ?_; intro v' w3 hown3 hgrow3 _) | go_in)
    have hb3 : Below B w w3 := ((hb1.mono hB).alloc (by omega) _).grown hgrow3 (by simp; omega) (fun j hj => (hown1.lt j hj).1)
    go_ret
    refine ⟨_, rfl, ?_, hb3⟩
    rw [HX.out, strsOf_snoc] at hown3
    rw [HG.out] at hown3
    simpa using hown3
  · rw [if_neg h]
    have he : x.toList = [] := by rw [hxl, show b - a = 0 by omega, List.take_zero]
    have he2 : x.toList.isEmpty = true := by rw [he]; rfl
    have he3 : x.size = 0 := by omega
    have HX := Lib.hid hx
    have HG := Lib.hid hgs
    clear hx hxl hgs
    go_enter Tryd.func40, Tryd.ntmps40
    go_wp2
    go_ret
    exact ⟨_, rfl, by rw [← HG.out]; exact hown, Below.refl _ _⟩

theorem fld_form {w : World} {B : Nat} {T : TypeId} {v : Value} {n : Nat} {xs : List Value} (h : w.ownsRow B T 1 v n xs) : ∃ p cap, v = .slice p n cap := by
  rcases h.2 with ⟨h1, h2⟩ | ⟨g, cap, cur, h1, -⟩
  · exact ⟨_, _, h1.trans (by rw [h2])⟩
  · exact ⟨_, _, h1⟩
theorem no_fld_impl (s : ByteArray) (w : World) (hf : ¬ fgood s) : ∀ w', Below w.heap.size w w' → FldPost s 9 w.heap.size w (.returned (.tuple #[.slice none 0 0, .bool false])) w' := by
  intro w' hb
  exact ⟨_, 0, [], false, rfl, World.ownsRow_nil _ _ _ _, hb, .inr ⟨hf, rfl, rfl, rfl⟩⟩

set_option maxRecDepth 100000 in
set_option maxHeartbeats 4000000 in
theorem ifld_any (s : ByteArray) (hsz : s.size ≤ 1048576) (w : World) :
    Calls Tryd.prog 15 #[.string s] w (FldPost s 9 w.heap.size w) := by
  by_cases h600 : s.size ≤ 600
  · have h6 : ¬ ((600 : Int) < (s.size : Int)) := by omega
    have h6' : decide ((600 : Int) < (s.size : Int)) = false := decide_eq_false h6
    go_enter Tryd.func15, Tryd.ntmps15
    go_wp2
    go_step3
    go_wp2
    go_step3
    go_wp2
    go_loopg [4, 5, 6] s.size (fun gk out bg i wr => ∃ (k b : Nat) (gs : List (Nat × Nat)), k + gk = s.size ∧ i = .int .i64 (k : Int) ∧ bg = .int .i64 (b : Int) ∧ b ≤ k ∧ gs.length ≤ k ∧ wr.ownsRow w.heap.size 9 1 out gs.length (strsOf s gs) ∧ Hid (fld s.data.toList k = (b, gs) ∧ ∀ j, j < k → okB s.data.toList j) ∧ Below w.heap.size w wr)
    case atStart => exact ⟨0, 0, [], by omega, rfl, rfl, by omega, by simp, ⟨rfl, .inr ⟨w.heap.size, 0, #[], rfl, Nat.le_refl _, heap_alloc_new w _, Nat.le_refl _, by decide, rfl, rfl⟩⟩, ⟨rfl, fun j hj => absurd hj (by omega)⟩, (Below.refl _ _).alloc (Nat.le_refl _) _⟩
    case round =>
      obtain ⟨k, b, gs, hk, rfl, rfl, hb, hgs, hown, HK, hbw⟩ := hrel
      have hbs := hbw.size
      by_cases hks : k < s.size
      · have hga := byteAt s k hks
        have hst := HK.out.1
        by_cases h31 : s[k].toNat < 32
        · have hf : ¬ fgood s := fun h => by have := (h.2.1 k hks).1; rw [hga] at this; omega
          have HF := Lib.hid (no_fld_impl s w hf _ hbw)
          have h31' : (s[k].toNat : Int) < 32 := by omega
          have hkn' : (k : Int) < (s.size : Int) := by omega
          clear hf hga hst h31 HK hown
          go_wp2
          try rw [Exit.noGoto_ret]
          go_ret2
          exact HF.out
        · by_cases h127 : 126 < s[k].toNat
          · have hf : ¬ fgood s := fun h => by have := (h.2.1 k hks).2; rw [hga] at this; omega
            have HF := Lib.hid (no_fld_impl s w hf _ hbw)
            have h31' : ¬ ((s[k].toNat : Int) < 32) := by omega
            have h127' : (126 : Int) < (s[k].toNat : Int) := by omega
            have hkn' : (k : Int) < (s.size : Int) := by omega
            clear hf hga hst h31 HK hown
            go_wp2
            try rw [Exit.noGoto_ret]
            go_ret2
            exact HF.out
          · have hokk : okB s.data.toList k := by unfold okB; rw [hga]; omega
            have h31' : ¬ ((s[k].toNat : Int) < 32) := by omega
            have h127' : ¬ ((126 : Int) < (s[k].toNat : Int)) := by omega
            have hkn' : (k : Int) < (s.size : Int) := by omega
            have hoks : ∀ j, j < k + 1 → okB s.data.toList j := fun j hj => by
              by_cases e : j = k
              · rw [e]; exact hokk
              · exact HK.out.2 j (by omega)
            by_cases h32 : s[k].toNat = 32
            · have h32' : ((s[k].toNat : Int) == 32) = true := by rw [beq_iff_eq]; omega
              have hsp := fld_space (k := k) (hga.trans (is32 h32))
              rw [hst] at hsp
              have hcon := Lib.hid (fun W hW => appField_any s b k (by omega) (by omega) (by omega) u4 gs.length (by omega) gs rfl w.heap.size W (Nat.le_trans hbs (Below.size hW)) (ownsRow_below_any hown hW))
              obtain ⟨gs', hgs'⟩ : ∃ gs', gs' = if b < k then gs ++ [(b, k)] else gs := ⟨_, rfl⟩
              have hgl : gs'.length ≤ k + 1 := by
                rw [hgs']
                split
                · simp; omega
                · omega
              have HK2 : Hid (fld s.data.toList (k + 1) = (k + 1, gs') ∧ ∀ j, j < k + 1 → okB s.data.toList j) := ⟨by rw [hgs']; exact hsp, hoks⟩
              rw [← hgs'] at hcon
              clear hsp hoks hokk hst hga h31 h127 h32 HK hgs'
              have hks2 : k ≤ s.size := by omega
              go_wp2_with (go_at_call 40; refine (hcon.out _ (Below.refl _ _)).mono ?_; rintro e w3 ⟨v', rfl, hown3, hb3⟩)
              have hbw3 : Below w.heap.size w w3 := hbw.trans hb3
              clear hcon hown
              go_roundg (gk - 1)
              case measure => omega
              case rel => exact ⟨k + 1, k + 1, gs', by omega, by go_num, by go_num, by omega, hgl, hown3, HK2, hbw3⟩
            · have h32' : ((s[k].toNat : Int) == 32) = false := by rw [beq_eq_false_iff_ne]; omega
              have hsp := fld_other (l := s.data.toList) (k := k) (by rw [hga]; intro e; rw [e] at h32; exact h32 rfl)
              rw [hst] at hsp
              have HK2 : Hid (fld s.data.toList (k + 1) = (b, gs) ∧ ∀ j, j < k + 1 → okB s.data.toList j) := ⟨hsp, hoks⟩
              clear hsp hoks hokk hst hga h31 h127 h32 HK
              go_wp2
              go_roundg (gk - 1)
              case measure => omega
              case rel => exact ⟨k + 1, b, gs, by omega, by go_num, rfl, by omega, by omega, hown, HK2, hbw⟩
      · have hkn' : decide ((k : Int) < (s.size : Int)) = false := decide_eq_false (by omega)
        have hke : k = s.size := by omega
        have hst := HK.out.1
        have hcon := Lib.hid (fun W hW => appField_any s b s.size (by omega) (by omega) (by omega) u4 gs.length (by omega) gs rfl w.heap.size W (Nat.le_trans hbs (Below.size hW)) (ownsRow_below_any hown hW))
        have HG : Hid ((if b < s.size then gs ++ [(b, s.size)] else gs) = flds s.data.toList s.size) := by
          show _ = _
          unfold flds
          rw [← hke, hst]
        have HO : Hid (∀ j, j < s.size → okB s.data.toList j) := fun j hj => HK.out.2 j (by omega)
        obtain ⟨gs', hgs'⟩ : ∃ gs', gs' = if b < s.size then gs ++ [(b, s.size)] else gs := ⟨_, rfl⟩
        have hgl : gs'.length ≤ k + 1 := by
          rw [hgs']
          split
          · simp; omega
          · omega
        rw [← hgs'] at hcon HG
        have hbs2 : b ≤ s.size := by omega
        have hss : s.size ≤ s.size := Nat.le_refl _
        clear hgs' hst HK hown hke
        obtain ⟨m, hm⟩ : ∃ m, m = gs'.length := ⟨_, rfl⟩
        have hm2 : m ≤ 601 := by omega
        have HM := Lib.hid hm
        rw [← hm] at hcon
        clear hm hgl
        by_cases h24 : m ≤ 24
        · have hgood : fgood s := ⟨by omega, HO.out, by rw [← HG.out, ← HM.out]; exact h24⟩
          have HGd := Lib.hid hgood
          have h24' : decide ((24 : Int) < (m : Int)) = false := decide_eq_false (by omega)
          clear hgood
          go_wp2_with (go_at_call 40; refine (hcon.out _ (Below.refl _ _)).mono ?_; rintro e w3 ⟨v', rfl, hown3, hb3⟩; clear hcon; obtain ⟨p, cap, hv⟩ : ∃ p cap, v' = .slice p m cap := fld_form hown3; subst hv; have HW := Lib.hid hown3; clear hown3)
          try rw [Exit.noGoto_ret]
          go_ret2
          exact ⟨.slice p m cap, m, strsOf s gs', true, rfl, HW.out, hbw.trans hb3, .inl ⟨HGd.out, rfl, by rw [← HG.out]; exact HM.out, by rw [← HG.out]⟩⟩
        · have hf : ¬ fgood s := fun h => by have := h.2.2; rw [← HG.out, ← HM.out] at this; exact h24 this
          have HF := Lib.hid (no_fld_impl s w hf)
          have h24' : decide ((24 : Int) < (m : Int)) = true := decide_eq_true (by omega)
          clear hf
          go_wp2_with (go_at_call 40; refine (hcon.out _ (Below.refl _ _)).mono ?_; rintro e w3 ⟨v', rfl, hown3, hb3⟩; clear hcon; obtain ⟨p, cap, hv⟩ : ∃ p cap, v' = .slice p m cap := fld_form hown3; subst hv; have HW := Lib.hid hown3; clear hown3)
          try rw [Exit.noGoto_ret]
          go_ret2
          exact HF.out _ (hbw.trans hb3)
  · have hf : ¬ fgood s := fun h => h600 h.1
    have HF := Lib.hid hf
    have h6' : (600 : Int) < (s.size : Int) := by omega
    clear hf h600
    go_enter Tryd.func15, Tryd.ntmps15
    go_wp2
    go_step3
    go_wp2
    try rw [Exit.noGoto_ret]
    go_ret2
    exact no_fld_impl s w HF.out w (Below.refl _ _)

end Go.Proofs.YtopkdkehkdhmgabDoor
