/- What the model's NearTags leaves. -/
import Derived.Test.YtjdmagackoddaaaDoorNearSpec
import Derived.Test.YtjdmagackoddaaaDoorTen
namespace Go.Proofs.YtjdmagackoddaaaDoor
open Go.RowKit
set_option linter.unusedVariables false

/-- Block g holds the bytes b, m of them, and they may be written. -/
def TN (m : Nat) (w : World) (g : Nat) (b : List UInt8) : Prop := g < w.heap.size ∧ b.length = m ∧ ∀ j, j < m → w.cell? ⟨g, j, none⟩ = some (byt (b.getD j 0)) ∧ w.frozen? ⟨g, j, none⟩ = false
theorem TN.below {m : Nat} {w w' : World} {g B : Nat} {b : List UInt8} (h : TN m w g b) (hb : Below B w w') (hg : g < B) : TN m w' g b :=
  ⟨Nat.lt_of_lt_of_le h.1 hb.size, h.2.1, fun j hj => ⟨(hb.cell (p := ⟨g, j, none⟩) hg).trans (h.2.2 j hj).1, (hb.frozen (p := ⟨g, j, none⟩) hg).trans (h.2.2 j hj).2⟩⟩
theorem TN.set {m : Nat} {w : World} {g : Nat} {b : List UInt8} (h : TN m w g b) (i : Nat) (x : UInt8) (hi : i < m) : TN m (w.setCell ⟨g, i, none⟩ (byt x)) g (b.set i x) := by
  refine ⟨by simpa [World.setCell] using h.1, by simpa using h.2.1, fun j hj => ?_⟩
  rw [getD_set]
  by_cases e : i = j
  · subst e
    rw [if_pos ⟨rfl, by rw [h.2.1]; exact hi⟩]
    refine ⟨?_, ?_⟩
    · exact World.cell?_setCell_same w _ _ (h.2.2 i hi).1
    · rw [World.frozen?_setCell]; exact (h.2.2 i hi).2
  · rw [if_neg (by intro q; exact e q.1)]
    refine ⟨?_, ?_⟩
    · rw [World.cell?_setCell_other w _ _ _ (by intro q; injection q with _ q2 _; exact e q2)]; exact (h.2.2 j hj).1
    · rw [World.frozen?_setCell]; exact (h.2.2 j hj).2
theorem TN_bytes (w : World) (e : TypeId) (s : ByteArray) : TN s.size (Lib.bytesWorld w e s) w.heap.size s.data.toList := by
  refine ⟨by rw [Lib.bytesWorld_size]; omega, by simp, fun j hj => ⟨?_, ?_⟩⟩
  · exact Lib.bytesWorld_cell w e s j (by omega)
  · have hbw := Lib.bytesWorld_at_new w e s
    have hsz : s.size ≤ (Lib.bytesCells w e s).size := by
      unfold Lib.bytesCells
      rw [Array.size_append, Array.size_map]
      have : s.data.size = s.size := rfl
      omega
    simp only [World.frozen?, hbw]
    simp
    omega
theorem own_base {w : World} {base base' : Nat} {e : TypeId} {size : Nat} {v : Value} {n : Nat} {xs : List Value} (h : w.ownsRow base e size v n xs) (hb : base' ≤ base) : w.ownsRow base' e size v n xs := by
  obtain ⟨h1, h2⟩ := h
  refine ⟨h1, ?_⟩
  rcases h2 with h2 | ⟨g, cap, cur, a, b, c, d⟩
  · exact .inl h2
  · exact .inr ⟨g, cap, cur, a, by omega, c, d⟩
theorem chainB {A w w' : World} (h : Below A.heap.size A w) (k : Below w.heap.size w w') : Below A.heap.size A w' := h.trans (k.mono h.size)
/-- The numbers that NearTags leaves. -/
def nearOf (a b c : Int) : List Nat := if tokB a b c = true then sortF (nearTo (tnum a b c).toNat 100) else []
def NearPost (l : List Nat) (B : Nat) (w : World) (e : Ending) (w' : World) : Prop := ∃ v, e = .returned v ∧ w'.ownsRow B 29 3 v l.length (cellsN l) ∧ Below B w w'
theorem tr_of {a b c : Int} (h : tokB a b c = true) : ∃ N : Nat, tnum a b c = (N : Int) ∧ Tr N a b c := by
  obtain ⟨⟨h1, h2⟩, ⟨h3, h4⟩, h5, h6⟩ := tokB_iff.1 h
  have e : tnum a b c = (a * 1000 + b) * 1000000 + c := by unfold tnum; rw [if_pos h]
  refine ⟨(tnum a b c).toNat, by omega, ?_⟩
  generalize hN : (tnum a b c).toNat = N
  refine ⟨okN_iff.2 (by omega), ?_, ?_, ?_⟩
  · show a = ((N / 1000000000 : Nat) : Int); omega
  · show b = ((N / 1000000 % 1000 : Nat) : Int); omega
  · show c = ((N % 1000000 : Nat) : Int); omega
theorem schk_of {M : Nat} {a b c : Int} (h : Tr M a b c) (w : World) :
    Calls Tryd.prog 39 #[.agg #[.int .i64 a, .int .i64 b, .int .i64 c]] w fun e w' => e = .returned (.int .i64 ((M % 7 : Nat) : Int)) ∧ Below w.heap.size w w' := by
  obtain ⟨h1, rfl, rfl, rfl⟩ := h
  have := specChk_any ((tri M).1 : Int) ((tri M).2.1 : Int) ((tri M).2.2 : Int) w
  rwa [tri_chk h1] at this
theorem nearTo_no {N k : Nat} (h : hit N (setD N (k / 10) (k % 10)) = false) : nearTo N (k + 1) = nearTo N k := by rw [nearTo_succ, h]; simp
theorem nearTo_yes {N k : Nat} (h : hit N (setD N (k / 10) (k % 10)) = true) : nearTo N (k + 1) = nearTo N k ++ [setD N (k / 10) (k % 10)] := by rw [nearTo_succ, h]; simp
theorem near_le (N k : Nat) (hk : k ≤ 100) : (sortF (nearTo N k)).length ≤ 100 := by
  rw [(sortF_facts (nearTo N k)).1.length_eq]
  exact Nat.le_trans (nearTo_len N k) hk

set_option maxRecDepth 100000 in
set_option maxHeartbeats 4000000 in
theorem snear_any (a b c : Int) (w : World) :
    Calls Tryd.prog 17 #[.agg #[.int .i64 a, .int .i64 b, .int .i64 c]] w (NearPost (nearOf a b c) w.heap.size w) := by
  have c3 := cellsTagN
  cases htok : tokB a b c
  · have HE : Hid (nearOf a b c = []) := by show _ = _; unfold nearOf; rw [htok]; rfl
    have HT := Lib.hid htok
    clear htok
    go_enter Tryd.func17, Tryd.ntmps17
    go_wp2_with (go_at_call 36; refine (specOk_any _ _ _ _).mono ?_; rw [HT.out]; rintro e w1 ⟨rfl, hb1⟩)
    go_ret
    refine ⟨_, rfl, ?_, ?_⟩
    · rw [HE.out]
      refine own_below ?_ hb1
      exact ⟨rfl, .inr ⟨w.heap.size + 1, 0, #[], rfl, by omega, by have := heap_alloc_new (w.alloc (.cells #[.int .i64 a, .int .i64 b, .int .i64 c] 29)) (.cells #[] 29); simpa using this, Nat.le_refl _, by decide, rfl, rfl⟩⟩
    · exact (((Below.refl _ w).alloc (Nat.le_refl _) _).alloc (by simp) _).trans (hb1.mono (by simp; omega))
  · obtain ⟨N, hN, hTr⟩ := tr_of htok
    have hN9 : N ≤ 9999999999 := (okN_iff.1 hTr.1).1
    have HE : Hid (nearOf a b c = sortF (nearTo N 100)) := by show _ = _; unfold nearOf; rw [if_pos htok, hN]; rfl
    have HT := Lib.hid htok
    have HTR := Lib.hid hTr
    clear htok hN hTr
    go_enter Tryd.func17, Tryd.ntmps17
    go_wp2_with fail
    have hnew : (w.alloc (.cells #[.int .i64 a, .int .i64 b, .int .i64 c] 29)).cell? ⟨w.heap.size, 0, none⟩ = some (.int .i64 a) ∧ (w.alloc (.cells #[.int .i64 a, .int .i64 b, .int .i64 c] 29)).cell? ⟨w.heap.size, 1, none⟩ = some (.int .i64 b) ∧ (w.alloc (.cells #[.int .i64 a, .int .i64 b, .int .i64 c] 29)).cell? ⟨w.heap.size, 2, none⟩ = some (.int .i64 c) := ⟨newCell _ _ _ _ _ rfl, newCell _ _ _ _ _ rfl, newCell _ _ _ _ _ rfl⟩
    obtain ⟨w0, hw0⟩ : ∃ w0, w0 = w.alloc (.cells #[.int .i64 a, .int .i64 b, .int .i64 c] 29) := ⟨_, rfl⟩
    have hs0 : w0.heap.size = w.heap.size + 1 := by rw [hw0]; simp
    have B0 : Below w.heap.size w w0 := by rw [hw0]; exact (Below.refl _ _).alloc (Nat.le_refl _) _
    rw [← hw0] at hnew ⊢
    have HBT : Hid (∀ X, Below (w.heap.size + 1) w0 X → X.cell? ⟨w.heap.size, 0, none⟩ = some (.int .i64 a) ∧ X.cell? ⟨w.heap.size, 1, none⟩ = some (.int .i64 b) ∧ X.cell? ⟨w.heap.size, 2, none⟩ = some (.int .i64 c)) := fun X hX =>
      ⟨(hX.cell (p := ⟨w.heap.size, 0, none⟩) (Nat.lt_succ_self _)).trans hnew.1, (hX.cell (p := ⟨w.heap.size, 1, none⟩) (Nat.lt_succ_self _)).trans hnew.2.1, (hX.cell (p := ⟨w.heap.size, 2, none⟩) (Nat.lt_succ_self _)).trans hnew.2.2⟩
    have HS0 := Lib.hid hs0
    clear hw0 hnew hs0
    obtain ⟨w1, hw1⟩ : ∃ w1, w1 = w0.alloc (.cells #[] 29) := ⟨_, rfl⟩
    have hW1 : Below (w.heap.size + 1) w0 w1 := by rw [hw1]; exact (Below.refl _ _).alloc (by rw [HS0.out]; exact Nat.le_refl _) _
    have hown1 : w1.ownsRow (w.heap.size + 1) 29 3 (.slice (some ⟨w.heap.size + 1, 0, none⟩) 0 0) 0 [] := by
      rw [hw1, ← HS0.out]
      exact ⟨rfl, .inr ⟨w0.heap.size, 0, #[], rfl, Nat.le_refl _, heap_alloc_new w0 _, Nat.le_refl _, by decide, rfl, rfl⟩⟩
    rw [← hw1]
    have HO1 := Lib.hid hown1
    clear hw1 hown1
    obtain ⟨t0, t1, t2⟩ := HBT.out w1 hW1
    go_wp2_with fail
    refine (specOk_any _ _ _ _).mono ?_
    rw [HT.out]
    rintro e w2 ⟨rfl, hb2⟩
    have hW2 : Below (w.heap.size + 1) w0 w2 := hW1.trans (hb2.mono (by have := hW1.size; rw [HS0.out] at this; exact this))
    clear t0 t1 t2
    obtain ⟨t0, t1, t2⟩ := HBT.out w2 hW2
    have HO2 := Lib.hid (own_below HO1.out hb2)
    clear hb2 hW1 HO1
    go_wp2_with fail
    refine (snum_of HTR.out _).mono ?_
    rintro e w3 ⟨rfl, hb3⟩
    have hW3 : Below (w.heap.size + 1) w0 w3 := hW2.trans (hb3.mono (by have := hW2.size; rw [HS0.out] at this; exact this))
    have HO3 := Lib.hid (own_below HO2.out hb3)
    clear hb3 hW2 HO2 t0 t1 t2
    go_wp2_with fail
    refine (ten_any N (by have h10 : (10 : Nat) ^ 10 = 10000000000 := by decide
                          omega) _).mono ?_
    rintro e w4 ⟨rfl, hb4⟩
    have hW4 : Below (w.heap.size + 1) w0 w4 := hW3.trans (hb4.mono (by have := hW3.size; rw [HS0.out] at this; exact this))
    have HO4 := Lib.hid (own_below HO3.out hb4)
    clear hb4 hW3 HO3
    obtain ⟨own, hown⟩ : ∃ own : ByteArray, own = ⟨(digs N).toArray⟩ := ⟨_, rfl⟩
    have hol : own.data.toList = digs N := by rw [hown]
    have hos : own.size = 10 := by
      have : own.data.toList.length = own.size := by simp
      rw [← this, hol, digs_length]
    rw [← hown]
    have HOL := Lib.hid hol
    have HOS := Lib.hid hos
    clear hown hol hos
    go_wp2_with fail
    go_loopw [3, 5] (fun out i wr => ∃ (k n : Nat), k ≤ 10 ∧ i = .int .i64 (k : Int) ∧ n ≤ 100 ∧ wr.ownsRow (w.heap.size + 1) 29 3 out n (cellsN (sortF (nearTo N (10 * k)))) ∧ Hid (n = (sortF (nearTo N (10 * k))).length) ∧ Below (w.heap.size + 1) w0 wr) (fun _ i _ => 10 - (intOf i).toNat)
    case atStart => exact ⟨0, 0, by omega, rfl, by omega, HO4.out, Lib.hid rfl, hW4⟩
    case round =>
      clear HO4 hW4
      obtain ⟨i, n, hi, rfl, hn, hown, HN, hbw⟩ := hrel
      by_cases hi10 : i < 10
      · have hi10' : (i : Int) < 10 := by omega
        obtain ⟨wo, rfl⟩ : ∃ wo : World, wo = wr := ⟨_, rfl⟩
        go_wp2_with fail
        go_loopw [3, 6] (fun out j wr => ∃ (d n : Nat), d ≤ 10 ∧ j = .int .i64 (d : Int) ∧ n ≤ 100 ∧ wr.ownsRow (w.heap.size + 1) 29 3 out n (cellsN (sortF (nearTo N (10 * i + d)))) ∧ Hid (n = (sortF (nearTo N (10 * i + d))).length) ∧ Below (w.heap.size + 1) w0 wr) (fun _ j _ => 10 - (intOf j).toNat)
        case atStart => exact ⟨0, n, by omega, rfl, hn, hown, HN, hbw⟩
        case round =>
          clear hown hbw HN
          obtain ⟨d, n, hd, rfl, hn, hown, HN, hbw⟩ := hrel
          by_cases hd10 : d < 10
          · have hd10' : (d : Int) < 10 := by omega
            obtain ⟨wp, rfl⟩ : ∃ wp : World, wp = wr := ⟨_, rfl⟩
            have hps := hbw.size
            rw [HS0.out] at hps
            have hbs : ∀ W : World, (convert 9 22 (.string own)).run Tryd.prog W = .ok (.slice (some ⟨W.heap.size, 0, none⟩) 10 (grownCap W own.size 0 5)) (Lib.bytesWorld W 5 own) := fun W => by
              have := Lib.run_convert_string_bytes (P := Tryd.prog) W 9 22 5 own Tryd.underlying9 Tryd.underlying22 Tryd.underlying5
              have h10 := HOS.out
              rwa [show own.size = 10 from h10] at this ⊢
            have hTN := TN_bytes wp 5 own
            rw [HOL.out, HOS.out] at hTN
            have hBy := Lib.bytesWorld_below wp 5 own
            have hcw := hbs wp
            clear hbs
            obtain ⟨cap, hcap⟩ : ∃ cap, cap = grownCap wp own.size 0 5 := ⟨_, rfl⟩
            obtain ⟨W1, hW1⟩ : ∃ W1, W1 = Lib.bytesWorld wp 5 own := ⟨_, rfl⟩
            rw [← hcap, ← hW1] at hcw
            rw [← hW1] at hTN hBy
            clear hcap hW1
            have hcell := (hTN.2.2 i hi10).1
            have hfz := (hTN.2.2 i hi10).2
            have hTN2 := hTN.set i (dg8 d) hi10
            have hd8 : byt (dg8 d) = .int .u8 (48 + (d : Int)) := by unfold byt dg8; rw [Nat.mod_eq_of_lt hd10]; simp only [UInt8.toNat_ofNat']; congr 1; omega
            rw [hd8, ← setD_digs N i d hi10 hd10] at hTN2
            have hM9 := setD_lt N i d hN9 hi10 hd10
            obtain ⟨u0, hu0⟩ : ∃ u, u = byt ((digs N).getD i 0) := ⟨_, rfl⟩
            rw [← hu0] at hcell
            have hB2 : Below wp.heap.size wp (W1.setCell ⟨wp.heap.size, i, none⟩ (.int .u8 (48 + (d : Int)))) := hBy.setCell (Nat.le_refl _) _
            have HTN2 := Lib.hid hTN2
            have HB2 := Lib.hid hB2
            obtain ⟨M, hM⟩ : ∃ M, M = setD N i d := ⟨_, rfl⟩
            rw [← hM] at hM9 HTN2
            have HM := Lib.hid hM
            have hi0 : (0 : Int) ≤ (i : Int) := by omega
            clear hTN hBy hTN2 hB2 hd8 hu0 hM
            go_wp2_with fail
            obtain ⟨W2, hW2⟩ : ∃ W2, W2 = W1.setCell ⟨wp.heap.size, i, none⟩ (.int .u8 (48 + (d : Int))) := ⟨_, rfl⟩
            rw [← hW2] at HTN2 HB2 ⊢
            clear hW2 hcell hfz hcw
            go_loop [8, 9] (fun n j => ∃ q v : Nat, q ≤ 10 ∧ j = .int .i64 (q : Int) ∧ n = .int .i64 (v : Int) ∧ Hid (v = numOf ((digs M).take q)) ∧ v ≤ 9999999999) (fun _ j => 10 - (intOf j).toNat)
            case atStart => exact ⟨0, 0, by omega, rfl, rfl, Lib.hid (by simp [numOf, numFrom]), by omega⟩
            case round =>
              obtain ⟨q, v, hq, rfl, rfl, HV, hv10⟩ := hrel
              by_cases hq10 : q < 10
              · obtain ⟨e, he⟩ : ∃ e : UInt8, e = (digs M).getD q 0 := ⟨_, rfl⟩
                have hcell : W2.cell? ⟨wp.heap.size, q, none⟩ = some (.int .u8 (e.toNat : Int)) := by rw [he]; exact (HTN2.out.2.2 q hq10).1
                have hel : (digs M).length = 10 := digs_length M
                have hed : isD e := by
                  rw [he, List.getD_eq_getElem?_getD, List.getElem?_eq_getElem (by omega)]
                  exact digs_isD M _ (List.getElem_mem _)
                obtain ⟨d1, d2⟩ := hed
                have htk : (digs M).take (q + 1) = (digs M).take q ++ [e] := by
                  rw [List.take_succ_eq_append_getElem (by omega), he, List.getD_eq_getElem?_getD, List.getElem?_eq_getElem (by omega)]; rfl
                have hlt9 : v ≤ 999999999 := by
                  have h1 := numOf_lt ((digs M).take q) (fun c hc => digs_isD M c (List.mem_of_mem_take hc))
                  rw [List.length_take, Nat.min_eq_left (by omega)] at h1
                  have h2 : 10 ^ q ≤ 10 ^ 9 := Nat.pow_le_pow_right (by decide) (by omega)
                  have := HV.out
                  omega
                have HV2 : Hid (10 * v + (e.toNat - 48) = numOf ((digs M).take (q + 1))) := by show _ = _; rw [htk, numOf_snoc, ← HV.out]
                clear htk he hel
                have hq0 : (0 : Int) ≤ (q : Int) := by omega
                go_wp2
                go_round
                case rel => exact ⟨q + 1, 10 * v + (e.toNat - 48), by omega, by go_num, by go_num, HV2, by omega⟩
                case measure => simp [intOf] <;> omega
              · obtain rfl : q = 10 := by omega
                have hvM : v = M := by
                  rw [HV.out, List.take_of_length_le (by rw [digs_length]; exact Nat.le_refl _)]
                  have h10 : (10 : Nat) ^ 10 = 10000000000 := by decide
                  exact digs_num M (by omega)
                subst hvM
                clear HV hv10
                obtain ⟨ta, hta⟩ : ∃ x : Int, x = ((v / 1000000000 : Nat) : Int) := ⟨_, rfl⟩
                obtain ⟨tb, htb⟩ : ∃ x : Int, x = ((v / 1000000 % 1000 : Nat) : Int) := ⟨_, rfl⟩
                obtain ⟨tc, htc⟩ : ∃ x : Int, x = ((v % 1000000 : Nat) : Int) := ⟨_, rfl⟩
                have hok : tokB ta tb tc = okN v := by rw [← triB_eq hM9, hta, htb, htc]; rfl
                have HTX0 : okN v = true → Tr v ta tb tc := fun h => ⟨h, hta, htb, htc⟩
                have HTA := Lib.hid hta
                have HTB := Lib.hid htb
                have HTC := Lib.hid htc
                have hW2 : Below (w.heap.size + 1) w0 W2 := hbw.trans (HB2.out.mono hps)
                have h2 := hW2.size
                rw [HS0.out] at h2
                have HO2 := Lib.hid (own_below hown HB2.out)
                clear hta htb htc hown hbw HTN2
                go_wp2_with fail
                refine (ofNum_any v hM9 ta tb tc HTA.out HTB.out HTC.out _).mono ?_
                rintro e w5 ⟨rfl, hb5⟩
                have hW5 : Below (w.heap.size + 1) w0 w5 := hW2.trans (hb5.mono h2)
                have h5 := hW5.size
                rw [HS0.out] at h5
                have HO5 := Lib.hid (own_below HO2.out hb5)
                clear hb5 HO2 HB2
                have hnew : (w5.alloc (.cells #[.int .i64 ta, .int .i64 tb, .int .i64 tc] 29)).cell? ⟨w5.heap.size, 0, none⟩ = some (.int .i64 ta) ∧ (w5.alloc (.cells #[.int .i64 ta, .int .i64 tb, .int .i64 tc] 29)).cell? ⟨w5.heap.size, 1, none⟩ = some (.int .i64 tb) ∧ (w5.alloc (.cells #[.int .i64 ta, .int .i64 tb, .int .i64 tc] 29)).cell? ⟨w5.heap.size, 2, none⟩ = some (.int .i64 tc) := ⟨newCell _ _ _ _ _ rfl, newCell _ _ _ _ _ rfl, newCell _ _ _ _ _ rfl⟩
                have hA6 : Below w5.heap.size w5 (w5.alloc (.cells #[.int .i64 ta, .int .i64 tb, .int .i64 tc] 29)) := (Below.refl _ _).alloc (Nat.le_refl _) _
                obtain ⟨w6, hw6⟩ : ∃ w6, w6 = w5.alloc (.cells #[.int .i64 ta, .int .i64 tb, .int .i64 tc] 29) := ⟨_, rfl⟩
                have HW6 := Lib.hid hw6
                have hs6 : w6.heap.size = w5.heap.size + 1 := by rw [hw6]; simp
                rw [← hw6] at hnew hA6
                have h56 : w5.heap.size < w6.heap.size := by omega
                have HBX : Hid (∀ X, Below w6.heap.size w6 X → X.cell? ⟨w5.heap.size, 0, none⟩ = some (.int .i64 ta) ∧ X.cell? ⟨w5.heap.size, 1, none⟩ = some (.int .i64 tb) ∧ X.cell? ⟨w5.heap.size, 2, none⟩ = some (.int .i64 tc)) := fun X hX =>
                  ⟨(hX.cell (p := ⟨w5.heap.size, 0, none⟩) h56).trans hnew.1, (hX.cell (p := ⟨w5.heap.size, 1, none⟩) h56).trans hnew.2.1, (hX.cell (p := ⟨w5.heap.size, 2, none⟩) h56).trans hnew.2.2⟩
                have hW6 : Below (w.heap.size + 1) w0 w6 := hW5.trans (hA6.mono h5)
                have h6 : w.heap.size + 1 ≤ w6.heap.size := by omega
                have HO6 := Lib.hid (own_below HO5.out hA6)
                clear hw6 hs6 hnew hA6 HO5 h2 hW2
                obtain ⟨t0, t1, t2⟩ := HBT.out w6 hW6
                obtain ⟨x0, x1, x2⟩ := HBX.out w6 (Below.refl _ _)
                obtain ⟨cx, hcx⟩ : ∃ cx, cx = v % 7 := ⟨_, rfl⟩
                obtain ⟨ct, hct⟩ : ∃ ct, ct = N % 7 := ⟨_, rfl⟩
                have HCX : Hid (v % 7 = cx) := hcx.symm
                have HCT : Hid (N % 7 = ct) := hct.symm
                have hmod : (10 * i + d) / 10 = i ∧ (10 * i + d) % 10 = d := by omega
                have hhit : hit N (setD N ((10 * i + d) / 10) ((10 * i + d) % 10)) = (decide (v ≠ N) && okN v && decide (cx = ct)) := by rw [hmod.1, hmod.2, ← HM.out, hcx, hct]; rfl
                have hmodH := Lib.hid hmod
                clear hcx hct hmod
                by_cases hvN : v = N
                · have HIT : Hid (hit N (setD N ((10 * i + d) / 10) ((10 * i + d) % 10)) = false) := by show _ = _; rw [hhit]; simp [hvN]
                  have g1 : ((v : Int) != (N : Int)) = false := by rw [bne_eq_false_iff_eq]; omega
                  have g2 : decide (v = N) = true := decide_eq_true hvN
                  have g3 : (v == N) = true := by simp [hvN]
                  have g4 : (v != N) = false := by simp [hvN]
                  clear hhit HTX0 hok hvN
                  go_wp2_with fail
                  rw [← HW6.out]
                  go_region_with (go_at_call 38; (with_reducible refine (snum_of HTR.out _).mono ?_); rintro e w7 ⟨rfl, hb7⟩; have B7 : Below w6.heap.size w6 w7 := (by first | exact hb7 | exact (Below.refl _ w6).drew.trans hb7); have HB7 := Lib.hid B7; obtain ⟨t70, t71, t72⟩ := HBT.out w7 (hW6.trans (B7.mono h6)); obtain ⟨x70, x71, x72⟩ := HBX.out w7 B7; clear B7)
                  all_goals
                    have BW : Below w6.heap.size w6 w7 := HB7.out
                    have HN2 : Hid (n = (sortF (nearTo N (10 * i + (d + 1)))).length) := by show _ = _; rw [show 10 * i + (d + 1) = 10 * i + d + 1 by omega, nearTo_no HIT.out]; exact HN.out
                    have hwn := own_below HO6.out BW
                    rw [show nearTo N (10 * i + d) = nearTo N (10 * i + (d + 1)) by rw [show 10 * i + (d + 1) = 10 * i + d + 1 by omega, nearTo_no HIT.out]] at hwn
                    have HWN := Lib.hid hwn
                    have HWW := Lib.hid (hW6.trans (BW.mono h6))
                    clear hwn BW
                    go_wp2_with fail
                    go_roundw
                    case rel => exact ⟨d + 1, n, by omega, by congr 1, hn, by first | exact HWN.out | exact own_below HWN.out ((Below.refl _ _).drew), HN2, by first | exact HWW.out | exact HWW.out.drew⟩
                    case measure => simp only [intOf]; omega
                · have g1 : ((v : Int) != (N : Int)) = true := by rw [bne_iff_ne]; omega
                  have g2 : decide (v = N) = false := decide_eq_false hvN
                  have g3 : (v == N) = false := by simp [hvN]
                  have g4 : (v != N) = true := by simp [hvN]
                  cases hokv : okN v
                  · have HIT : Hid (hit N (setD N ((10 * i + d) / 10) ((10 * i + d) % 10)) = false) := by show _ = _; rw [hhit, hokv]; simp
                    have HOK : Hid (tokB ta tb tc = false) := by show _ = _; rw [hok]; exact hokv
                    clear hhit HTX0 hok hokv
                    go_wp2_with fail
                    rw [← HW6.out]
                    go_region_with (first
                        | (go_at_call 38; (with_reducible refine (snum_of HTR.out _).mono ?_); rintro e w7 ⟨rfl, hb7⟩; have B7 : Below w6.heap.size w6 w7 := (by first | exact hb7 | exact (Below.refl _ w6).drew.trans hb7); have HB7 := Lib.hid B7; obtain ⟨t70, t71, t72⟩ := HBT.out w7 (hW6.trans (B7.mono h6)); obtain ⟨x70, x71, x72⟩ := HBX.out w7 B7; clear B7)
                        | (go_at_call 36; (with_reducible refine (specOk_any ta tb tc _).mono ?_); rw [HOK.out]; rintro e w8 ⟨rfl, hb8⟩; have B8 : Below w6.heap.size w6 w8 := (by first | exact chainB HB7.out hb8 | exact chainB HB7.out.drew hb8); have HB8 := Lib.hid B8; obtain ⟨t80, t81, t82⟩ := HBT.out w8 (hW6.trans (B8.mono h6)); obtain ⟨x80, x81, x82⟩ := HBX.out w8 B8; clear B8))
                    all_goals
                      have BW : Below w6.heap.size w6 w8 := HB8.out
                      have HN2 : Hid (n = (sortF (nearTo N (10 * i + (d + 1)))).length) := by show _ = _; rw [show 10 * i + (d + 1) = 10 * i + d + 1 by omega, nearTo_no HIT.out]; exact HN.out
                      have hwn := own_below HO6.out BW
                      rw [show nearTo N (10 * i + d) = nearTo N (10 * i + (d + 1)) by rw [show 10 * i + (d + 1) = 10 * i + d + 1 by omega, nearTo_no HIT.out]] at hwn
                      have HWN := Lib.hid hwn
                      have HWW := Lib.hid (hW6.trans (BW.mono h6))
                      clear hwn BW
                      go_wp2_with fail
                      go_roundw
                      case rel => exact ⟨d + 1, n, by omega, by congr 1, hn, by first | exact HWN.out | exact own_below HWN.out ((Below.refl _ _).drew), HN2, by first | exact HWW.out | exact HWW.out.drew⟩
                      case measure => simp only [intOf]; omega
                  · have HOK : Hid (tokB ta tb tc = true) := by show _ = _; rw [hok]; exact hokv
                    have HTX := Lib.hid (HTX0 hokv)
                    by_cases hcc : cx = ct
                    · have HIT : Hid (hit N (setD N ((10 * i + d) / 10) ((10 * i + d) % 10)) = true) := by show _ = _; rw [hhit, hokv]; simp [hvN, hcc]
                      have k1 : ((cx : Int) == (ct : Int)) = true := by rw [beq_iff_eq]; omega
                      have k2 : decide (cx = ct) = true := decide_eq_true hcc
                      have k3 : (cx == ct) = true := by simp [hcc]
                      clear hhit HTX0 hok hokv hcc
                      go_wp2_with fail
                      rw [← HW6.out]
                      go_region_with (first
                          | (go_at_call 38; (with_reducible refine (snum_of HTR.out _).mono ?_); rintro e w7 ⟨rfl, hb7⟩; have B7 : Below w6.heap.size w6 w7 := (by first | exact hb7 | exact (Below.refl _ w6).drew.trans hb7); have HB7 := Lib.hid B7; obtain ⟨t70, t71, t72⟩ := HBT.out w7 (hW6.trans (B7.mono h6)); obtain ⟨x70, x71, x72⟩ := HBX.out w7 B7; clear B7)
                          | (go_at_call 36; (with_reducible refine (specOk_any ta tb tc _).mono ?_); rw [HOK.out]; rintro e w8 ⟨rfl, hb8⟩; have B8 : Below w6.heap.size w6 w8 := (by first | exact chainB HB7.out hb8 | exact chainB HB7.out.drew hb8); have HB8 := Lib.hid B8; obtain ⟨t80, t81, t82⟩ := HBT.out w8 (hW6.trans (B8.mono h6)); obtain ⟨x80, x81, x82⟩ := HBX.out w8 B8; clear B8)
                          | (go_at_call 39; (with_reducible refine (schk_of HTX.out _).mono ?_); rw [HCX.out]; rintro e w9 ⟨rfl, hb9⟩; have B9 : Below w6.heap.size w6 w9 := (by first | exact chainB HB8.out hb9 | exact chainB HB8.out.drew hb9); have HB9 := Lib.hid B9; obtain ⟨t90, t91, t92⟩ := HBT.out w9 (hW6.trans (B9.mono h6)); obtain ⟨x90, x91, x92⟩ := HBX.out w9 B9; clear B9)
                          | (go_at_call 39; (with_reducible refine (schk_of HTR.out _).mono ?_); rw [HCT.out]; rintro e wA ⟨rfl, hbA⟩; have BA : Below w6.heap.size w6 wA := (by first | exact chainB HB9.out hbA | exact chainB HB9.out.drew hbA); have HBA := Lib.hid BA; obtain ⟨tA0, tA1, tA2⟩ := HBT.out wA (hW6.trans (BA.mono h6)); obtain ⟨xA0, xA1, xA2⟩ := HBX.out wA BA; clear BA))
                      all_goals
                        have BW : Below w6.heap.size w6 wA := HBA.out
                        have hwn := own_below HO6.out BW
                        rw [HN.out] at hwn
                        have hyes : insF v (sortF (nearTo N (10 * i + d))) = sortF (nearTo N (10 * i + (d + 1))) := by
                          rw [show 10 * i + (d + 1) = 10 * i + d + 1 by omega, nearTo_yes HIT.out, sortF_snoc, hmodH.out.1, hmodH.out.2, ← HM.out]
                        have hins := insert_any (sortF (nearTo N (10 * i + d))) (by have := near_le N (10 * i + d) (by omega); omega) v ta tb tc HTX.out (fun M hM => sortF_ok (fun M hM => (nearTo_ok hM).1) M hM) _ _ wA hwn
                        rw [hyes] at hins
                        have HINS := Lib.hid hins
                        have HWA := Lib.hid (hW6.trans (BW.mono h6))
                        have hA6 : w.heap.size + 1 ≤ wA.heap.size := Nat.le_trans h6 BW.size
                        clear hins hyes hwn BW
                        go_wp2_with (go_at_call 40; refine HINS.out.mono ?_; rintro e wB ⟨v', rfl, hownB, hbB⟩; clear HINS)
                        go_roundw
                        case rel => exact ⟨d + 1, (sortF (nearTo N (10 * i + (d + 1)))).length, by omega, by congr 1, near_le _ _ (by omega), own_base hownB (by omega), Lib.hid rfl, HWA.out.trans (hbB.mono hA6)⟩
                        case measure => simp only [intOf]; omega
                    · have HIT : Hid (hit N (setD N ((10 * i + d) / 10) ((10 * i + d) % 10)) = false) := by show _ = _; rw [hhit, hokv]; simp [hcc]
                      have k1 : ((cx : Int) == (ct : Int)) = false := by rw [beq_eq_false_iff_ne]; omega
                      have k2 : decide (cx = ct) = false := decide_eq_false hcc
                      have k3 : (cx == ct) = false := by simp [hcc]
                      clear hhit HTX0 hok hokv
                      go_wp2_with fail
                      rw [← HW6.out]
                      go_region_with (first
                          | (go_at_call 38; (with_reducible refine (snum_of HTR.out _).mono ?_); rintro e w7 ⟨rfl, hb7⟩; have B7 : Below w6.heap.size w6 w7 := (by first | exact hb7 | exact (Below.refl _ w6).drew.trans hb7); have HB7 := Lib.hid B7; obtain ⟨t70, t71, t72⟩ := HBT.out w7 (hW6.trans (B7.mono h6)); obtain ⟨x70, x71, x72⟩ := HBX.out w7 B7; clear B7)
                          | (go_at_call 36; (with_reducible refine (specOk_any ta tb tc _).mono ?_); rw [HOK.out]; rintro e w8 ⟨rfl, hb8⟩; have B8 : Below w6.heap.size w6 w8 := (by first | exact chainB HB7.out hb8 | exact chainB HB7.out.drew hb8); have HB8 := Lib.hid B8; obtain ⟨t80, t81, t82⟩ := HBT.out w8 (hW6.trans (B8.mono h6)); obtain ⟨x80, x81, x82⟩ := HBX.out w8 B8; clear B8)
                          | (go_at_call 39; (with_reducible refine (schk_of HTX.out _).mono ?_); rw [HCX.out]; rintro e w9 ⟨rfl, hb9⟩; have B9 : Below w6.heap.size w6 w9 := (by first | exact chainB HB8.out hb9 | exact chainB HB8.out.drew hb9); have HB9 := Lib.hid B9; obtain ⟨t90, t91, t92⟩ := HBT.out w9 (hW6.trans (B9.mono h6)); obtain ⟨x90, x91, x92⟩ := HBX.out w9 B9; clear B9)
                          | (go_at_call 39; (with_reducible refine (schk_of HTR.out _).mono ?_); rw [HCT.out]; rintro e wA ⟨rfl, hbA⟩; have BA : Below w6.heap.size w6 wA := (by first | exact chainB HB9.out hbA | exact chainB HB9.out.drew hbA); have HBA := Lib.hid BA; obtain ⟨tA0, tA1, tA2⟩ := HBT.out wA (hW6.trans (BA.mono h6)); obtain ⟨xA0, xA1, xA2⟩ := HBX.out wA BA; clear BA))
                      all_goals
                        have BW : Below w6.heap.size w6 wA := HBA.out
                        have HN2 : Hid (n = (sortF (nearTo N (10 * i + (d + 1)))).length) := by show _ = _; rw [show 10 * i + (d + 1) = 10 * i + d + 1 by omega, nearTo_no HIT.out]; exact HN.out
                        have hwn := own_below HO6.out BW
                        rw [show nearTo N (10 * i + d) = nearTo N (10 * i + (d + 1)) by rw [show 10 * i + (d + 1) = 10 * i + d + 1 by omega, nearTo_no HIT.out]] at hwn
                        have HWN := Lib.hid hwn
                        have HWW := Lib.hid (hW6.trans (BW.mono h6))
                        clear hwn BW
                        go_wp2_with fail
                        go_roundw
                        case rel => exact ⟨d + 1, n, by omega, by congr 1, hn, by first | exact HWN.out | exact own_below HWN.out ((Below.refl _ _).drew), HN2, by first | exact HWW.out | exact HWW.out.drew⟩
                        case measure => simp only [intOf]; omega
          · obtain rfl : d = 10 := by omega
            have hd10' : decide (((10 : Nat) : Int) < 10) = false := by decide
            go_wp2_with fail
            go_roundw
            case rel => exact ⟨i + 1, n, by omega, by congr 1, hn, hown, HN, hbw⟩
            case measure => simp only [intOf]; omega
      · obtain rfl : i = 10 := by omega
        have hi10' : decide (((10 : Nat) : Int) < 10) = false := by decide
        go_wp2_with fail
        go_ret
        exact ⟨_, rfl, by rw [HE.out, ← HN.out]; exact own_base hown (by omega), B0.trans (hbw.mono (by omega))⟩

end Go.Proofs.YtjdmagackoddaaaDoor
