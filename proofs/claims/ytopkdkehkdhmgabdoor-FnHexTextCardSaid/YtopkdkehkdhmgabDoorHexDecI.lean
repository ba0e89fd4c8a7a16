/- What DecodeHex returns, the program's. -/
import Derived.Test.YtopkdkehkdhmgabDoorHexImpl
import Derived.Test.YtopkdkehkdhmgabDoorShelf
namespace Go.Proofs.YtopkdkehkdhmgabDoor
open Go.RowKit

/-- The value of a digit, -1 for what is none. -/
def hv (c : UInt8) : Int := if 48 ≤ c.toNat ∧ c.toNat ≤ 57 then (c.toNat : Int) - 48 else if 97 ≤ c.toNat ∧ c.toNat ≤ 102 then (c.toNat : Int) - 87 else -1
theorem hv_bd (c : UInt8) : -1 ≤ hv c ∧ hv c ≤ 15 := by unfold hv; split <;> (try split) <;> omega
theorem hv_index_fin : ∀ b : Fin 256, Lib.indexByte [48, 49, 50, 51, 52, 53, 54, 55, 56, 57, 97, 98, 99, 100, 101, 102] (UInt8.ofNat b.val) = hv (UInt8.ofNat b.val) := by decide +kernel
theorem hv_index (c : UInt8) : Lib.indexByte [48, 49, 50, 51, 52, 53, 54, 55, 56, 57, 97, 98, 99, 100, 101, 102] (((c.toNat : Int).toNat).toUInt8) = hv c := by
  have h := hv_index_fin ⟨c.toNat, c.toNat_lt⟩
  have e : UInt8.ofNat c.toNat = c := UInt8.ofNat_toNat
  rw [show (UInt8.ofNat (⟨c.toNat, c.toNat_lt⟩ : Fin 256).val) = c from e] at h
  rw [Int.toNat_natCast]
  rw [show c.toNat.toUInt8 = c from e]
  exact h

theorem ival_any (c : UInt8) (w : World) :
    Calls Tryd.prog 35 #[.string ⟨#[48, 49, 50, 51, 52, 53, 54, 55, 56, 57, 97, 98, 99, 100, 101, 102]⟩, .int .u8 (c.toNat : Int)] w fun e w' => e = .returned (.int .i64 (hv c)) ∧ w = w' := by
  refine (Tryd.strings_IndexByte _ _ w).mono ?_
  rintro e w' ⟨rfl, rfl⟩
  exact ⟨by rw [← hv_index], rfl⟩

/-- Both digits of the pair j are digits. -/
def okAt (s : ByteArray) (j : Nat) : Prop := 0 ≤ hv (s.data.toList.getD (2 * j) 0) ∧ 0 ≤ hv (s.data.toList.getD (2 * j + 1) 0)
def byteAt (s : ByteArray) (j : Nat) : UInt8 := UInt8.ofNat (16 * hv (s.data.toList.getD (2 * j) 0) + hv (s.data.toList.getD (2 * j + 1) 0)).toNat
def bytesTo (s : ByteArray) (k : Nat) : List UInt8 := (List.range k).map (byteAt s)
theorem bytesTo_succ (s : ByteArray) (k : Nat) : bytesTo s (k + 1) = bytesTo s k ++ [byteAt s k] := by simp [bytesTo, List.range_succ]
theorem bytesTo_length (s : ByteArray) (k : Nat) : (bytesTo s k).length = k := by simp [bytesTo]
/-- What DecodeHex returns for an even number of at most 40000 bytes. -/
def DH (s : ByteArray) (v : Value) : Prop := ((∀ j, 2 * j < s.size → okAt s j) ∧ v = .tuple #[.string ⟨(bytesTo s (s.size / 2)).toArray⟩, .bool true]) ∨ ((∃ j, 2 * j < s.size ∧ ¬ okAt s j) ∧ v = .tuple #[.string ⟨#[]⟩, .bool false])
theorem DH_some (s : ByteArray) : ∃ v, DH s v := by
  by_cases h : ∀ j, 2 * j < s.size → okAt s j
  · exact ⟨_, .inl ⟨h, rfl⟩⟩
  · refine ⟨_, .inr ⟨?_, rfl⟩⟩
    rw [Classical.not_forall] at h
    obtain ⟨j, hj⟩ := h
    exact ⟨j, by rw [Classical.not_imp] at hj; exact hj⟩
theorem get_at (s : ByteArray) (i : Nat) (h : i < s.size) : s.data.toList.getD i 0 = s[i] := by
  rw [List.getD_eq_getElem?_getD, List.getElem?_eq_getElem (by simpa using h)]; rfl
theorem or16_fin : ∀ a b : Fin 16, bits BinOp.or IntKind.i64 ((a.val : Int) * 16) (b.val : Int) = 16 * (a.val : Int) + (b.val : Int) := by decide +kernel
theorem or16 (a b : Nat) (ha : a < 16) (hb : b < 16) : bits BinOp.or IntKind.i64 ((a : Int) * 16) (b : Int) = 16 * (a : Int) + (b : Int) := or16_fin ⟨a, ha⟩ ⟨b, hb⟩

set_option maxRecDepth 100000 in
set_option maxHeartbeats 2000000 in
theorem idec_any (s : ByteArray) (hsz : s.size ≤ 40000) (hev : s.size % 2 = 0) (w : World) (v0 : Value) (hv0 : DH s v0) :
    Calls Tryd.prog 11 #[.string s] w fun e w' => e = .returned v0 ∧ Below w.heap.size w w' := by
  obtain ⟨i0, hi, hz0, hz1, hz2⟩ := info_parts infoByte
  have HV := Lib.hid hv0
  clear hv0
  have hd : decide ((40000 : Int) < (s.size : Int)) = false := decide_eq_false (by omega)
  have hr : ((s.size : Int) % 2 != 0) = false := by rw [bne_eq_false_iff_eq]; omega
  go_enter Tryd.func11, Tryd.ntmps11
  go_wp2_with (refine wpList_make_own _ rfl _ _ 22 rfl w.heap.size 5 i0 (.int .u8 0) 1 Tryd.underlying22 hi hz0 hz1 .i64 .i64 _ (s.size / 2) rfl rfl (by omega) (by rw [hz2]; omega) (by unfold maxLen; omega) (Nat.le_refl _) ?_; intro w1 hown hgrow)
  have hb1 : Below w.heap.size w w1 := (Below.refl _ _).grown hgrow (Nat.le_refl _) (fun k hk => by cases hk)
  go_loopw [4, 5, 6, 7] (fun out i _ _ wr => ∃ k i' : Nat, i' ≤ s.size ∧ Hid (i' = 2 * k) ∧ i = .int .i64 i' ∧ Hid (∀ j, j < k → okAt s j) ∧ wr.ownsRow w.heap.size 5 1 out k ((bytesTo s k).map byt) ∧ Below w.heap.size w wr)
    (fun _ i _ _ _ => s.size - (intOf i).toNat)
  case atStart => exact ⟨0, 0, Nat.zero_le _, Lib.hid rfl, rfl, Lib.hid (fun j hj => absurd hj (by omega)), hown, hb1⟩
  case round =>
    clear hown hgrow hb1
    obtain ⟨k, i', hi', HI, rfl, HK, hown, hb⟩ := hrel
    by_cases hlt : i' < s.size
    · have hlt2 : i' + 1 < s.size := by have := HI.out; omega
      have hb2 := hb.size
      have HA : Hid (s.data.toList.getD (2 * k) 0 = s[i']) := by
        have := HI.out
        subst this
        exact get_at s _ hlt
      have HB : Hid (s.data.toList.getD (2 * k + 1) 0 = s[i' + 1]) := by
        have := HI.out
        subst this
        exact get_at s _ hlt2
      obtain ⟨x, hx⟩ : ∃ x, hv s[i'] = x := ⟨_, rfl⟩
      obtain ⟨y, hy⟩ : ∃ y, hv s[i' + 1] = y := ⟨_, rfl⟩
      have bx := hv_bd s[i']
      have bY := hv_bd s[i' + 1]
      rw [hx] at bx
      rw [hy] at bY
      obtain ⟨bx0, bx1⟩ := bx
      obtain ⟨by0, by1⟩ := bY
      have HX := Lib.hid hx
      have HY := Lib.hid hy
      have hbad : (x < 0 ∨ y < 0) → v0 = .tuple #[.string ⟨#[]⟩, .bool false] := fun h => by
        rcases HV.out with ⟨a, -⟩ | ⟨-, e⟩
        · have := a k (by have := HI.out; omega)
          unfold okAt at this
          rw [HA.out, HB.out, hx, hy] at this
          omega
        · exact e
      have hklen : k ≤ 20000 := by have := HI.out; omega
      clear hx hy
      by_cases hxn : x < 0
      · have e := hbad (.inl hxn)
        subst e
        clear hbad
        go_wp2_with fail
        refine (ival_any s[i'] _).mono ?_
        rw [HX.out]
        rintro e w2 ⟨rfl, rfl⟩
        go_wp2_with fail
        refine (ival_any s[i' + 1] _).mono ?_
        rw [HY.out]
        rintro e w2 ⟨rfl, rfl⟩
        go_wp2
        go_ret2
        exact ⟨rfl, hb⟩
      · by_cases hyn : y < 0
        · have e := hbad (.inr hyn)
          subst e
          clear hbad
          go_wp2_with fail
          refine (ival_any s[i'] _).mono ?_
          rw [HX.out]
          rintro e w2 ⟨rfl, rfl⟩
          go_wp2_with fail
          refine (ival_any s[i' + 1] _).mono ?_
          rw [HY.out]
          rintro e w2 ⟨rfl, rfl⟩
          go_wp2
          go_ret2
          exact ⟨rfl, hb⟩
        · obtain ⟨p, rfl⟩ := Int.eq_ofNat_of_zero_le (show 0 ≤ x by omega)
          obtain ⟨q, rfl⟩ := Int.eq_ofNat_of_zero_le (show 0 ≤ y by omega)
          have hor := or16 p q (by omega) (by omega)
          have HN : Hid ((bytesTo s (k + 1)).map byt = (bytesTo s k).map byt ++ [.int .u8 (16 * (p : Int) + (q : Int))]) := by
            rw [bytesTo_succ, List.map_append]
            have e : byteAt s k = UInt8.ofNat (16 * p + q) := by
              unfold byteAt
              rw [HA.out, HB.out, HX.out, HY.out]
              congr 1
            rw [e]
            have e2 : ((UInt8.ofNat (16 * p + q)).toNat : Int) = 16 * (p : Int) + q := by simp only [UInt8.toNat_ofNat']; omega
            show _ = _
            simp only [List.map_cons, List.map_nil, byt, e2]
          have HK2 : Hid (∀ j, j < k + 1 → okAt s j) := fun j hj => by
            by_cases e : j = k
            · subst e
              unfold okAt
              rw [HA.out, HB.out, HX.out, HY.out]
              omega
            · exact HK.out j (by omega)
          have HI2 : Hid (i' + 2 = 2 * (k + 1)) := by have := HI.out; show _ = _; omega
          clear hbad bx0 by0
          go_wp2_with fail
          refine (ival_any s[i'] _).mono ?_
          rw [HX.out]
          rintro e w2 ⟨rfl, rfl⟩
          go_wp2_with fail
          refine (ival_any s[i' + 1] _).mono ?_
          rw [HY.out]
          rintro e w2 ⟨rfl, rfl⟩
          go_wp2_with (at_builtin; refine wpList_append_own _ rfl _ _ 22 rfl w.heap.size 5 i0 (.int .u8 0) 1 1 Tryd.underlying22 hi hz0 hz1 hz2 rfl (by decide) _ k _ rfl (hown.alloc _) ⟨wr.heap.size, 0, none⟩ 1 1 [.int .u8 (16 * (p : Int) + (q : Int))] rfl rfl ?c1 ?c2 ?c3 ?c4 ?c5 ?_)
          case c1 =>
            intro j u hj
            match j, hj with
            | 0, hj => simp at hj; subst hj; simp [Addr.add]
          case c2 => intro u hu; simp at hu; subst hu; rfl
          case c3 => unfold maxLen; omega
          case c4 => omega
          case c5 => simp; omega
          intro v' w3 hown' hgrow' _
          have hb3 : Below w.heap.size w w3 := (hb.alloc hb2 _).grown hgrow' (by simp; omega) (fun j hj => (hown.lt j hj).1)
          clear hown hgrow'
          go_wp2
          go_roundw
          case rel => exact ⟨k + 1, i' + 2, by omega, HI2, by go_num, HK2, by rw [HN.out]; exact hown', hb3⟩
          case measure => simp [intOf] <;> omega
    · have e : i' = s.size := by omega
      have hke : s.size / 2 = k := by have := HI.out; omega
      have hgood : v0 = .tuple #[.string ⟨(bytesTo s k).toArray⟩, .bool true] := by
        rcases HV.out with ⟨-, h⟩ | ⟨⟨j, hj, h⟩, -⟩
        · rw [h, hke]
        · exact absurd (HK.out j (by omega)) h
      subst hgood
      subst e
      clear HV HK HI hke
      have hb2 := hb.size
      obtain ⟨l, hl⟩ : ∃ l, l = bytesTo s k := ⟨_, rfl⟩
      rw [← hl] at hown
      have hlen : k = l.length := by rw [hl, bytesTo_length]
      have HLn := Lib.hid hl
      clear hl
      rw [hlen] at hown
      clear hlen
      rcases hown.2 with ⟨rfl, h0⟩ | ⟨g, cap, cur, rfl, -⟩
      · have e : l = [] := List.eq_nil_of_length_eq_zero h0
        have hcv := run_convert_bytes_nil (P := Tryd.prog) wr 22 5 Tryd.underlying22 Tryd.underlying5 0 0 9 Tryd.underlying9
        clear h0 hown
        have E := Lib.hid e
        clear e
        go_wp2
        go_ret2
        exact ⟨by rw [← HLn.out, E.out]; rfl, hb⟩
      · have hcv := run_convert_bytes_back (P := Tryd.prog) wr 22 9 5 ⟨g, 0, none⟩ cap l Tryd.underlying22 Tryd.underlying5 Tryd.underlying9 (fun j hj => hown.cells (g := g) rfl j _ (by simp [byt, hj]))
        clear hown
        go_wp2
        go_ret2
        exact ⟨by rw [← HLn.out]; rfl, hb⟩

end Go.Proofs.YtopkdkehkdhmgabDoor
