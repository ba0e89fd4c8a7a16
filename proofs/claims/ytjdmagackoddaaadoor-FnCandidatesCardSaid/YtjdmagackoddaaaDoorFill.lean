/- What the closure that fills the places does. -/
import Derived.Test.YtjdmagackoddaaaDoorFillState
import Derived.BigRegion
namespace Go.Proofs.YtjdmagackoddaaaDoor
open Go.RowKit
set_option linter.unusedVariables false

/-- What a call of the closure for the places from k on leaves. -/
def FillPost (c : Cap) (k : Nat) (b : List UInt8) (acc : List (Nat × Nat × Nat)) (w : World) (e : Ending) (w' : World) : Prop :=
  e = .returned (.tuple #[]) ∧ w.heap.size ≤ w'.heap.size ∧ ∃ b' vL', CI c b' (acc ++ (fills (c.ps.drop k) b).filterMap tagOf) vL' w' ∧ agr (c.ps.drop k) b b'

set_option maxRecDepth 100000 in
set_option maxHeartbeats 2000000 in
/-- No place is left. -/
theorem fill_end (c : Cap) (G : c.Good) (hT : Lib.TabBelow Tryd.prog c.w0.heap.size c.w0 "internal/strconv.uint64pow10" .u64 Lib.pow10Tab) (hR : ErrIs c.w0 "strconv.ErrRange") (hS : ErrIs c.w0 "strconv.ErrSyntax")
    (b : List UInt8) (acc : List (Nat × Nat × Nat)) (vL : Value) (w : World) (h : CI c b acc vL w) (hacc : acc.length ≤ 1000) :
    Calls Tryd.prog 25 #[.int .i64 (c.ps.length : Int), .pointer (some ⟨c.bP, 0, none⟩), .pointer (some ⟨c.bT, 0, none⟩), .pointer (some ⟨c.bL, 0, none⟩), .pointer (some ⟨c.bF, 0, none⟩)] w (FillPost c c.ps.length b acc w) := by
  obtain ⟨i0, hi, hz0, hz1, hz2⟩ := info_parts infoTag
  have hHT := Lib.hid (hT _ h.bel)
  have hHR := Lib.hid (hR.on gRng h.bel)
  have hHS := Lib.hid (hS.on gSyn h.bel)
  obtain ⟨pp, cp, hvp⟩ : ∃ p cap, c.vP = .slice p c.ps.length cap := by
    rcases h.rP.2 with ⟨h1, h2⟩ | ⟨g, cap, cur, h1, -⟩
    · exact ⟨_, _, h1.trans (by rw [h2])⟩
    · exact ⟨_, _, h1⟩
  have hcP := cell_of_one h.hP
  rw [hvp] at hcP
  have hcT := cell_of_one h.hT
  have hcv := h.tx.conv (P := Tryd.prog) Tryd.underlying22 Tryd.underlying5 Tryd.underlying9 c.capT
  have hb12 := h.tx.2.1
  have HI := Lib.hid h
  have hn3 := G.pn
  have htag := Lib.hid (show fills (c.ps.drop c.ps.length) b = [b] by rw [List.drop_length]; rfl)
  clear hT hR hS hvp h
  cases ht : tagOf b
  · have hp : ptans (⟨b.toArray⟩ : ByteArray).data.toList = none := by unfold ptans; rw [List.toList_toArray, if_pos hb12, ht]
    have HP := Lib.hid hp
    have HT := Lib.hid ht
    clear hp ht
    go_enter Tryd.func25, Tryd.ntmps25
    go_wp2_with fail
    refine (ptag_any ⟨b.toArray⟩ (by show b.toArray.size ≤ 1048576; simp; omega) _ hHT.out hHR.out hHS.out).mono ?_
    rw [show ptans (⟨b.toArray⟩ : ByteArray).data.toList = none from HP.out]
    rintro e w1 ⟨rfl, hb1⟩
    rw [show ptv none = .tuple #[.agg #[.int .i64 0, .int .i64 0, .int .i64 0], .bool false] from rfl]
    go_wp2_with fail
    go_end0
    refine ⟨rfl, ?_, b, vL, ?_, agr.refl _ _⟩
    · have := hb1.size; simp; omega
    · rw [htag.out]
      simp only [List.filterMap_cons, HT.out, List.filterMap_nil, List.append_nil]
      exact (HI.out.below hb1).below ((Below.refl _ _).alloc (Nat.le_refl _) _)
  · rename_i t
    have hp : ptans (⟨b.toArray⟩ : ByteArray).data.toList = some t := by unfold ptans; rw [List.toList_toArray, if_pos hb12, ht]
    have HP := Lib.hid hp
    have HT := Lib.hid ht
    clear hp ht
    go_enter Tryd.func25, Tryd.ntmps25
    go_wp2_with fail
    refine (ptag_any ⟨b.toArray⟩ (by show b.toArray.size ≤ 1048576; simp; omega) _ hHT.out hHR.out hHS.out).mono ?_
    rw [show ptans (⟨b.toArray⟩ : ByteArray).data.toList = some t from HP.out]
    rintro e w1 ⟨rfl, hb1⟩
    rw [show ptv (some t) = .tuple #[.agg #[.int .i64 (t.1 : Int), .int .i64 (t.2.1 : Int), .int .i64 (t.2.2 : Int)], .bool true] from rfl]
    obtain ⟨ta, hta⟩ : ∃ x : Int, x = (t.1 : Int) := ⟨_, rfl⟩
    obtain ⟨tb, htb⟩ : ∃ x : Int, x = (t.2.1 : Int) := ⟨_, rfl⟩
    obtain ⟨tc, htc⟩ : ∃ x : Int, x = (t.2.2 : Int) := ⟨_, rfl⟩
    rw [← hta, ← htb, ← htc]
    have HC := Lib.hid (show tagCell t = [.int .i64 ta, .int .i64 tb, .int .i64 tc] by rw [hta, htb, htc]; rfl)
    clear hta htb htc hcv hcP hcT hHT hHR hHS
    have C1 := Lib.hid (HI.out.below hb1)
    have hL1 := cell_of_one C1.out.hL
    have fL1 := free_of_one C1.out.hL
    have lL1 := lt_of_block C1.out.hL
    have hs0 : c.w0.heap.size ≤ w1.heap.size := C1.out.bel.size
    have hs1 : w.heap.size ≤ w1.heap.size := hb1.size
    clear hb1
    go_wp2_with (first
      | (at_builtin; refine wpList_append_own _ rfl _ _ 25 rfl c.w0.heap.size 29 i0 (.agg #[.int .i64 0, .int .i64 0, .int .i64 0]) 3 24 Tryd.underlying25 hi hz0 hz1 hz2 rfl (by decide) _ acc.length _ rfl ((C1.out.rL.alloc _).alloc _) ⟨w1.heap.size + 1, 0, none⟩ 1 1 [.int .i64 ta, .int .i64 tb, .int .i64 tc] rfl rfl (by intro j u hj; match j, hj with | 0, hj => simp at hj; subst hj; simp [Addr.add] | 1, hj => simp at hj; subst hj; simp [Addr.add] | 2, hj => simp at hj; subst hj; simp [Addr.add]) (by intro u hu; simp at hu; rcases hu with rfl | rfl | rfl <;> rfl) (by unfold maxLen; omega) (by omega) (by simp; omega) ?_; intro v' w3 hown3 hgrow3 _
         obtain ⟨g', cap', rfl⟩ : ∃ g' cap', v' = .slice (some ⟨g', 0, none⟩) (acc.length + 1) cap' := by
           rcases hown3.2 with ⟨_, h0⟩ | ⟨g', cap', _, h1, -⟩
           · exact absurd h0 (by omega)
           · exact ⟨_, _, h1⟩
         have C3 := Lib.hid ((C1.out.below ((Below.refl _ _).alloc (Nat.le_refl _) _)).below ((Below.refl _ _).alloc (Nat.le_refl _) _) : CI c b acc vL ((w1.alloc (.cells #[.int .i64 ta, .int .i64 tb, .int .i64 tc] 29)).alloc (.cells #[.int .i64 ta, .int .i64 tb, .int .i64 tc] 29)))
         have hL3 := (hgrow3.block c.bL (lt_of_block C3.out.hL) (row_ne C3.out.rL C3.out.hL G.yL)).trans C3.out.hL
         have hcL3 := cell_of_one hL3
         have hfL3 := free_of_one hL3
         have HO := Lib.hid hown3
         have HG := Lib.hid hgrow3
         clear hown3 hgrow3 hL3))
    go_end0
    refine ⟨rfl, ?_, b, .slice (some ⟨g', 0, none⟩) (acc.length + 1) cap', ?_, agr.refl _ _⟩
    · have := HG.out.size; simp [World.setCell] at this ⊢; omega
    · rw [htag.out]
      have hacc2 : (acc ++ List.filterMap tagOf [b]) = acc ++ [t] := by simp only [List.filterMap_cons, HT.out, List.filterMap_nil]
      rw [hacc2]
      refine CI.setList G C3.out HG.out ?_
      have hxs : acc.flatMap tagCell ++ [.int .i64 ta, .int .i64 tb, .int .i64 tc] = (acc ++ [t]).flatMap tagCell := by rw [List.flatMap_append, List.flatMap_singleton, HC.out]
      have hln : acc.length + 1 = (acc ++ [t]).length := by simp
      rw [← hxs, ← hln]
      exact HO.out


set_option maxRecDepth 100000 in
set_option maxHeartbeats 2000000 in
/-- A place is left. -/
theorem fill_step (c : Cap) (G : c.Good) (hvF : c.vF = .func (.func 25) #[] #[.pointer (some ⟨c.bP, 0, none⟩), .pointer (some ⟨c.bT, 0, none⟩), .pointer (some ⟨c.bL, 0, none⟩), .pointer (some ⟨c.bF, 0, none⟩)])
    (k p : Nat) (rest : List Nat) (hk : k < c.ps.length) (hp : c.ps[k]? = some p) (hd : c.ps.drop k = p :: rest) (hr : c.ps.drop (k + 1) = rest) (x : Nat) (hx : 10 ^ rest.length = x) (b : List UInt8) (acc : List (Nat × Nat × Nat)) (vL : Value) (w : World) (h : CI c b acc vL w) (hacc : acc.length + 10 * x ≤ 1000)
    (ih : ∀ (b : List UInt8) (acc : List (Nat × Nat × Nat)) (vL : Value) (w : World), CI c b acc vL w → acc.length + x ≤ 1000 → Calls Tryd.prog 25 #[.int .i64 ((k : Int) + 1), .pointer (some ⟨c.bP, 0, none⟩), .pointer (some ⟨c.bT, 0, none⟩), .pointer (some ⟨c.bL, 0, none⟩), .pointer (some ⟨c.bF, 0, none⟩)] w (FillPost c (k + 1) b acc w)) :
    Calls Tryd.prog 25 #[.int .i64 (k : Int), .pointer (some ⟨c.bP, 0, none⟩), .pointer (some ⟨c.bT, 0, none⟩), .pointer (some ⟨c.bL, 0, none⟩), .pointer (some ⟨c.bF, 0, none⟩)] w (FillPost c k b acc w) := by
  obtain ⟨gp, cp, hvp⟩ : ∃ gp cap, c.vP = .slice (some ⟨gp, 0, none⟩) c.ps.length cap := by
    rcases h.rP.2 with ⟨h1, h2⟩ | ⟨g, cap, cur, h1, -⟩
    · exact absurd h2 (by omega)
    · exact ⟨_, _, h1⟩
  have hcP := cell_of_one h.hP
  rw [hvp] at hcP
  have HI := Lib.hid h
  have hn3 := G.pn
  have hne : ((k : Int) == (c.ps.length : Int)) = false := by rw [beq_eq_false_iff_ne]; omega
  have hne2 : decide ((k : Int) = (c.ps.length : Int)) = false := decide_eq_false (by omega)
  have hp12 : p < 12 := G.plt p (List.mem_of_getElem? hp)
  have HP := Lib.hid hp
  have HD := Lib.hid hd
  have HR := Lib.hid hr
  have HX := Lib.hid hx
  have HV := Lib.hid hvp
  have HF := Lib.hid hvF
  clear h hp hd hr hx hvp hvF
  go_enter Tryd.func25, Tryd.ntmps25
  go_wp2_with fail
  go_loopw [8] (fun v wr => ∃ (d : Nat) (b' : List UInt8) (vL' : Value), d ≤ 10 ∧ v = .int .u8 ((48 + d : Nat) : Int) ∧ Hid (CI c b' (acc ++ upTo p rest b d) vL' wr ∧ agr (p :: rest) b b') ∧ w.heap.size ≤ wr.heap.size) (fun v _ => 58 - (intOf v).toNat)
  case atStart => exact ⟨0, b, vL, by omega, rfl, ⟨by simpa [upTo] using HI.out, agr.refl _ _⟩, Nat.le_refl _⟩
  case round =>
    obtain ⟨d, b', vL', hd10, rfl, HC, hsz⟩ := hrel
    by_cases hdl : d < 10
    · have hcT := cell_of_one HC.out.1.hT
      have hcP2 := cell_of_one HC.out.1.hP
      rw [HV.out] at hcP2
      have rP := HC.out.1.rP
      rw [HV.out] at rP
      have hcp : wr.cell? ⟨gp, k, none⟩ = some (.int .i64 (p : Int)) := by
        rw [rP.cellAt k (by omega), List.getElem?_map, HP.out]; rfl
      have hct := (HC.out.1.tx.2.2 p hp12).1
      have hft := (HC.out.1.tx.2.2 p hp12).2
      have hkl : (k : Int) < (c.ps.length : Int) := by omega
      have hk0 : (0 : Int) ≤ (k : Int) := by omega
      have hpl : (p : Int) < 12 := by omega
      have hp0 : (0 : Int) ≤ (p : Int) := by omega
      clear rP hcP
      have hlen := upTo_len p rest b d
      have hmul : d * x ≤ 9 * x := Nat.mul_le_mul_right x (by omega)
      rw [HX.out] at hlen
      have hbd : (acc ++ upTo p rest b d).length + x ≤ 1000 := by rw [List.length_append]; omega
      clear hlen hmul
      have hk1 : (k : Int) + 1 ≤ 3 := by omega
      go_wp2_with fail
      go_region
      obtain ⟨W1, hW1⟩ : ∃ W1, W1 = (wr.setCell ⟨c.g, p, none⟩ (.int .u8 (48 + (d : Int)))).drew := ⟨_, rfl⟩
      rw [← hW1]
      have C1 := Lib.hid (show CI c (b'.set p (dg8 d)) (acc ++ upTo p rest b d) vL' W1 by
        rw [hW1, ← dg8_nat d hdl]; exact (HC.out.1.setText G p hp12 (dg8 d)).drew)
      have hW1s : W1.heap.size = wr.heap.size := by rw [hW1]; simp [World.setCell, World.drew]
      have hcF := cell_of_one C1.out.hF
      rw [HF.out] at hcF
      clear hW1 hcT hcP2 hcp hct hft
      go_wp2_with (go_at_call 25; refine (ih _ _ _ _ C1.out hbd).mono ?_; rintro e w2 ⟨rfl, hs2, b2, vL2, C2, A2⟩; have HC2 := Lib.hid C2; have HA2 := Lib.hid A2; clear C2 A2)
      go_roundw
      case rel =>
        refine ⟨d + 1, b2, vL2, by omega, by congr 1, ⟨?_, ?_⟩, by omega⟩
        · have := HC2.out
          rw [HR.out, fills_agr rest _ _ (agr_step HC.out.2 (dg8 d)), List.append_assoc, ← upTo_succ] at this
          exact this
        · have := HA2.out
          rw [HR.out] at this
          exact (HC.out.2.trans (agr_set rest p b' (dg8 d))).trans this.mono
      case measure => simp only [intOf]; omega
    · obtain rfl : d = 10 := by omega
      go_wp2_with fail
      go_end0
      refine ⟨rfl, hsz, b', vL', ?_, ?_⟩
      · rw [HD.out, fills]; exact HC.out.1
      · rw [HD.out]; exact HC.out.2

theorem drop_cons (l : List Nat) (k : Nat) (h : k < l.length) : ∃ p, l[k]? = some p ∧ l.drop k = p :: l.drop (k + 1) := ⟨l[k], List.getElem?_eq_getElem h, List.drop_eq_getElem_cons h⟩

/-- Whatever places are left. -/
theorem fill_any (c : Cap) (G : c.Good) (hvF : c.vF = .func (.func 25) #[] #[.pointer (some ⟨c.bP, 0, none⟩), .pointer (some ⟨c.bT, 0, none⟩), .pointer (some ⟨c.bL, 0, none⟩), .pointer (some ⟨c.bF, 0, none⟩)])
    (hT : Lib.TabBelow Tryd.prog c.w0.heap.size c.w0 "internal/strconv.uint64pow10" .u64 Lib.pow10Tab) (hR : ErrIs c.w0 "strconv.ErrRange") (hS : ErrIs c.w0 "strconv.ErrSyntax") :
    ∀ (m k : Nat), k + m = c.ps.length → ∀ (b : List UInt8) (acc : List (Nat × Nat × Nat)) (vL : Value) (w : World), CI c b acc vL w → acc.length + 10 ^ m ≤ 1000 →
    Calls Tryd.prog 25 #[.int .i64 (k : Int), .pointer (some ⟨c.bP, 0, none⟩), .pointer (some ⟨c.bT, 0, none⟩), .pointer (some ⟨c.bL, 0, none⟩), .pointer (some ⟨c.bF, 0, none⟩)] w (FillPost c k b acc w)
  | 0, k, hk, b, acc, vL, w, h, ha => by
    obtain rfl : k = c.ps.length := by omega
    exact fill_end c G hT hR hS b acc vL w h (by omega)
  | m + 1, k, hk, b, acc, vL, w, h, ha => by
    obtain ⟨p, hp, hd⟩ := drop_cons c.ps k (by omega)
    have hlen : (c.ps.drop (k + 1)).length = m := by rw [List.length_drop]; omega
    refine fill_step c G hvF k p _ (by omega) hp hd rfl (10 ^ m) (by rw [hlen]) b acc vL w h (by rw [Nat.pow_succ] at ha; omega) ?_
    intro b acc vL w h ha
    have := fill_any c G hvF hT hR hS m (k + 1) (by omega) b acc vL w h ha
    rwa [show (((k + 1 : Nat) : Int)) = (k : Int) + 1 by omega] at this

end Go.Proofs.YtjdmagackoddaaaDoor
