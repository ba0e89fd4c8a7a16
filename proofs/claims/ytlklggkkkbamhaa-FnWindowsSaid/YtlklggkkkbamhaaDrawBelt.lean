/- What the draw of a valid belt (l02Belt) hands out. -/
import Derived.Test.YtlklggkkkbamhaaDraw
import Derived.Test.YtlklggkkkbamhaaCode
import Derived.Test.YtlklggkkkbamhaaFlat
import Derived.Test.YtlklggkkkbamhaaBeltPlain
import Derived.RangeFuncBox
import Derived.Deep.RegionWith
import Derived.IntWalk
import Derived.Deep.RegionWith
import Derived.Deep.AppendLies
import Derived.Deep.RegionLaw
import Derived.Deep.CutBlock
import Derived.Deep.DeepCutAuto
import Derived.Deep.CutRange
namespace Go.Proofs.Ytlklggkkkbamhaa
open Go.RowKit
set_option linter.unusedVariables false

theorem infoItemD : (Try.prog.info? 32).map (fun i => (i.zero, i.size, i.bytes)) = some (some (.agg #[.int .i64 0, .int .i64 0, .int .i64 0]), 3, 24) := by kernel_rfl
theorem cellsItemD : Try.prog.cellsOf 32 = 3 := by kernel_rfl
theorem below_of {B : Nat} {w w1 w2 : World} {g : Nat} (h : Below B w w1) (hB : B ≤ w1.heap.size) (hg : w1.grownBy w2 (some g)) (hBg : B ≤ g) : Below B w w2 :=
  h.trans (⟨hg.os, hg.tape, hg.output, hg.size, fun k hk => hg.block k (by omega) (by intro e; injection e with e; omega)⟩ : Below B w1 w2)

/-- Blocks R and V hold a belt each. -/
def Bk (w : World) (k : Nat) (L G : Int) (H : Bool) (v : Value) : Prop := w.heap[k]? = some (.cells #[.int .i64 L, .int .i64 G, .bool H, v] 24 (0, 0))
theorem Bk.grown {w w' : World} {k g : Nat} {L G : Int} {H : Bool} {v : Value} (h : Bk w k L G H v) (hg : w.grownBy w' (some g)) (hne : k ≠ g) : Bk w' k L G H v :=
  (hg.block k (Array.getElem?_eq_some_iff.1 h).1 (by intro e; injection e with e; exact hne e)).trans h
theorem Bk.alloc {w : World} {k : Nat} {L G : Int} {H : Bool} {v : Value} (h : Bk w k L G H v) (o : Obj) : Bk (w.alloc o) k L G H v := (Below.heap_alloc _ _ _ (Array.getElem?_eq_some_iff.1 h).1).trans h
theorem Bk.cells {w : World} {k : Nat} {L G : Int} {H : Bool} {v : Value} (h : Bk w k L G H v) : w.cell? ⟨k, 0, none⟩ = some (.int .i64 L) ∧ w.cell? ⟨k, 1, none⟩ = some (.int .i64 G) ∧ w.cell? ⟨k, 2, none⟩ = some (.bool H) ∧ w.cell? ⟨k, 3, none⟩ = some v ∧ w.frozen? ⟨k, 0, none⟩ = false ∧ w.frozen? ⟨k, 1, none⟩ = false ∧ w.frozen? ⟨k, 2, none⟩ = false ∧ w.frozen? ⟨k, 3, none⟩ = false :=
  ⟨by simp [World.cell?, show w.heap[k]? = _ from h], by simp [World.cell?, show w.heap[k]? = _ from h], by simp [World.cell?, show w.heap[k]? = _ from h], by simp [World.cell?, show w.heap[k]? = _ from h], by simp [World.frozen?, show w.heap[k]? = _ from h], by simp [World.frozen?, show w.heap[k]? = _ from h], by simp [World.frozen?, show w.heap[k]? = _ from h], by simp [World.frozen?, show w.heap[k]? = _ from h]⟩
theorem Bk.lt {w : World} {k : Nat} {L G : Int} {H : Bool} {v : Value} (h : Bk w k L G H v) : k < w.heap.size := (Array.getElem?_eq_some_iff.1 h).1

theorem Cu.set {B n : Nat} {p : Option Addr} {cap gc oc : Nat} {w : World} {g : Nat} (h : Cu B n p cap gc oc w g) (q : Addr) (v : Value) (h1 : g ≠ q.block) (h2 : B ≤ q.block) : Cu B n p cap gc oc (w.setCell q v) g :=
  h.kept (Below.heap_setCell _ _ _ _ h1) (fun k hk => Below.heap_setCell _ _ _ _ (by omega))
theorem own_grown {w w' : World} {B' : Nat} {e : TypeId} {k : Nat} {v : Value} {n : Nat} {xs : List Value} {g : Nat} (h : w.ownsRow B' e k v n xs) (hg : w.grownBy w' (some g)) (hne : g < B') : w'.ownsRow B' e k v n xs := h.kept hg (.inr fun e => by have := (h.lt _ e).1; omega)
theorem owns_base {B B' : Nat} {e : TypeId} {k : Nat} {v : Value} {n : Nat} {xs : List Value} {w : World} (h : w.ownsRow B e k v n xs) (hB : B' ≤ B) : w.ownsRow B' e k v n xs := by
  obtain ⟨h1, h2⟩ := h
  refine ⟨h1, ?_⟩
  rcases h2 with h2 | ⟨g, cap, cur, a, b, c⟩
  · exact .inl h2
  · exact .inr ⟨g, cap, cur, a, by omega, c⟩
/-- What stands while the items are drawn. -/
def BS (B n : Nat) (p : Option Addr) (cap gc oc g R V : Nat) (L G : Int) (H : Bool) (w0 wr : World) (q : Nat) (po : Option Addr) (co : Nat) (l : List Int) : Prop :=
  Bk wr R 0 0 false (.slice none 0 0) ∧ Bk wr V L G H (.slice po q co) ∧ Cu B n p cap gc oc wr g ∧ w0.grownBy wr (some g) ∧ wr.ownsRow (V + 1) 32 3 (.slice po q co) q (l.map (.int .i64))
theorem BS.grown {B n : Nat} {p : Option Addr} {cap gc oc g R V : Nat} {L G : Int} {H : Bool} {w0 wr w' : World} {q : Nat} {po : Option Addr} {co : Nat} {l : List Int} (h : BS B n p cap gc oc g R V L G H w0 wr q po co l) (hg : wr.grownBy w' (some g)) (hc : Cu B n p cap gc oc w' g) (hR : R ≠ g) (hV : V ≠ g) (hg' : g < V + 1) : BS B n p cap gc oc g R V L G H w0 w' q po co l :=
  ⟨h.1.grown hg hR, h.2.1.grown hg hV, hc, h.2.2.2.1.trans hg, own_grown h.2.2.2.2 hg hg'⟩
theorem pickDrew {B n : Nat} {p : Option Addr} {cap gc oc : Nat} {w : World} {g : Nat} (hn : n ≤ 1048576) (h : Cu B n p cap gc oc w g) {N : Nat} (hN : w.heap.size = N) (l : List Int) (m c : Nat) (hm : m = l.length) (hl0 : 0 < l.length) (hl : l.length ≤ 1000) (vs : Array Value) (hvs : vs = (l.map (Value.int .i64)).toArray) (t : TypeId) :
    Calls Try.prog 59 #[.pointer (some ⟨g, 0, none⟩), .slice (some ⟨N, 0, none⟩) m c] (w.alloc (.cells vs t)).drew fun e w' => ∃ x : Int, e = .returned (.int .i64 x) ∧ Cu B n p cap gc oc w' g ∧ w.grownBy w' (some g) := by
  subst hN
  refine Calls.mono (pickNew hn (h.kept rfl (fun _ _ => rfl) : Cu B n p cap gc oc w.drew g) l m c hm hl0 hl vs hvs t) ?_
  rintro e w' ⟨x, -, he, hc, hg⟩
  exact ⟨x, he, hc, (⟨rfl, rfl, rfl, Nat.le_refl _, fun _ _ _ => rfl⟩ : w.grownBy w.drew (some g)).trans hg⟩

/-- The items drawn so far make a valid belt, and the next may come as far as f. -/
def DBelt (L G : Int) (q : Nat) (f : Int) (l : List Int) : Prop :=
  l.length = q * 3 ∧ (5 ≤ L ∧ L ≤ 64) ∧ (0 ≤ G ∧ G ≤ 5) ∧ (∀ k, k < q → okIt L G (fun j => l.getD j 0) k) ∧ (∀ k, k < q → 10 * (k : Int) + 1 ≤ l.getD (k * 3) 0 ∧ l.getD (k * 3) 0 ≤ 10 * (k : Int) + 9) ∧ f ≤ lim L G (fun j => l.getD j 0) q ∧ -100 ≤ f ∧ f ≤ 100
theorem DBelt.okP {L G : Int} {q : Nat} {f : Int} {l : List Int} (h : DBelt L G q f l) (hq : q ≤ 6) : OkP L G q (fun j => l.getD j 0) :=
  ⟨⟨by have := h.2.1; omega, by have := h.2.1; omega⟩, ⟨h.2.2.1.1, by have := h.2.2.1; omega⟩, by omega, h.2.2.2.1⟩
theorem getD_left {l r : List Int} {j : Nat} (h : j < l.length) : (l ++ r).getD j 0 = l.getD j 0 := by
  rw [List.getD_eq_getElem?_getD, List.getD_eq_getElem?_getD, List.getElem?_append_left h]
theorem getD_right3 {l : List Int} {a b c : Int} {j i : Nat} (hl : l.length = j) (hi : i < 3) : (l ++ [a, b, c]).getD (j + i) 0 = if i = 0 then a else if i = 1 then b else c := by
  rw [List.getD_eq_getElem?_getD, List.getElem?_append_right (by omega), show j + i - l.length = i by omega]
  match i, hi with
  | 0, _ => rfl
  | 1, _ => rfl
  | 2, _ => rfl
theorem DBelt.snoc {L G : Int} {q : Nat} {f : Int} {l : List Int} (h : DBelt L G q f l) {b s f' : Int} (hb : 10 * (q : Int) + 1 ≤ b ∧ b ≤ 10 * (q : Int) + 9) (hs : 1 ≤ s ∧ s ≤ 9) (hsf : s ≤ f) (hf : f' ≤ f - s - G) (hf0 : -100 ≤ f') : DBelt L G (q + 1) f' (l ++ [b, f, s]) := by
  obtain ⟨hl, hL, hG, hok, hbg, hfl, hlo, hhi⟩ := h
  have e0 : (l ++ [b, f, s]).getD (q * 3) 0 = b := getD_right3 (i := 0) hl (by omega)
  have e1 : (l ++ [b, f, s]).getD (q * 3 + 1) 0 = f := getD_right3 (i := 1) hl (by omega)
  have e2 : (l ++ [b, f, s]).getD (q * 3 + 2) 0 = s := getD_right3 (i := 2) hl (by omega)
  have el : ∀ j, j < q * 3 → (l ++ [b, f, s]).getD j 0 = l.getD j 0 := fun j hj => getD_left (by omega)
  have elim : ∀ k, k ≤ q → lim L G (fun j => (l ++ [b, f, s]).getD j 0) k = lim L G (fun j => l.getD j 0) k := fun k hk => by
    cases k with
    | zero => rfl
    | succ k => show (l ++ [b, f, s]).getD (k * 3 + 1) 0 - (l ++ [b, f, s]).getD (k * 3 + 2) 0 - G = l.getD (k * 3 + 1) 0 - l.getD (k * 3 + 2) 0 - G; rw [el _ (by omega), el _ (by omega)]
  have hbg' : ∀ k, k < q + 1 → 10 * (k : Int) + 1 ≤ (l ++ [b, f, s]).getD (k * 3) 0 ∧ (l ++ [b, f, s]).getD (k * 3) 0 ≤ 10 * (k : Int) + 9 := fun k hk => by
    by_cases e : k = q
    · rw [e, e0]; exact hb
    · rw [el _ (by omega)]; exact hbg k (by omega)
  refine ⟨by rw [List.length_append, hl]; simp; omega, hL, hG, fun k hk => ?_, hbg', ?_, hf0, by omega⟩
  · refine ⟨?_, ?_, ?_, ?_, ?_, ?_⟩
    · have := hbg' k hk; show 1 ≤ (l ++ [b, f, s]).getD (k * 3) 0; omega
    · intro j hj
      have a1 := hbg' k hk
      have a2 := hbg' j (by omega)
      show (l ++ [b, f, s]).getD (j * 3) 0 ≠ (l ++ [b, f, s]).getD (k * 3) 0
      omega
    all_goals
      by_cases e : k = q
      · subst e
        first
          | (show 1 ≤ (l ++ [b, f, s]).getD (k * 3 + 2) 0; rw [e2]; omega)
          | (show (l ++ [b, f, s]).getD (k * 3 + 2) 0 ≤ 60; rw [e2]; omega)
          | (show (l ++ [b, f, s]).getD (k * 3 + 2) 0 ≤ (l ++ [b, f, s]).getD (k * 3 + 1) 0; rw [e2, e1]; omega)
          | (show (l ++ [b, f, s]).getD (k * 3 + 1) 0 ≤ _; rw [e1, elim k (Nat.le_refl _)]; exact hfl)
      · obtain ⟨a1, a2, a3, a4, a5, a6⟩ := hok k (by omega)
        first
          | (show 1 ≤ (l ++ [b, f, s]).getD (k * 3 + 2) 0; rw [el _ (by omega)]; exact a3)
          | (show (l ++ [b, f, s]).getD (k * 3 + 2) 0 ≤ 60; rw [el _ (by omega)]; exact a4)
          | (show (l ++ [b, f, s]).getD (k * 3 + 2) 0 ≤ (l ++ [b, f, s]).getD (k * 3 + 1) 0; rw [el _ (by omega), el _ (by omega)]; exact a5)
          | (show (l ++ [b, f, s]).getD (k * 3 + 1) 0 ≤ _; rw [el _ (by omega), elim k (by omega)]; exact a6)
  · show f' ≤ (l ++ [b, f, s]).getD (q * 3 + 1) 0 - (l ++ [b, f, s]).getD (q * 3 + 2) 0 - G
    rw [e1, e2]; omega
theorem DBelt.zero {L G f : Int} (hL : 5 ≤ L ∧ L ≤ 64) (hG : 0 ≤ G ∧ G ≤ 5) (hf : f ≤ L) (hf0 : -100 ≤ f) : DBelt L G 0 f [] :=
  ⟨rfl, hL, hG, fun k hk => absurd hk (by omega), fun k hk => absurd hk (by omega), hf, hf0, by omega⟩
theorem pickDrewM {B n : Nat} {p : Option Addr} {cap gc oc : Nat} {w : World} {g : Nat} (hn : n ≤ 1048576) (h : Cu B n p cap gc oc w g) {N : Nat} (hN : w.heap.size = N) (l : List Int) (m c : Nat) (hm : m = l.length) (hl0 : 0 < l.length) (hl : l.length ≤ 1000) (vs : Array Value) (hvs : vs = (l.map (Value.int .i64)).toArray) (t : TypeId) :
    Calls Try.prog 59 #[.pointer (some ⟨g, 0, none⟩), .slice (some ⟨N, 0, none⟩) m c] (w.alloc (.cells vs t)).drew fun e w' => ∃ x : Int, x ∈ l ∧ e = .returned (.int .i64 x) ∧ Cu B n p cap gc oc w' g ∧ w.grownBy w' (some g) := by
  subst hN
  refine Calls.mono (pickNew hn (h.kept rfl (fun _ _ => rfl) : Cu B n p cap gc oc w.drew g) l m c hm hl0 hl vs hvs t) ?_
  rintro e w' ⟨x, hx, he, hc, hg⟩
  exact ⟨x, hx, he, hc, (⟨rfl, rfl, rfl, Nat.le_refl _, fun _ _ _ => rfl⟩ : w.grownBy w.drew (some g)).trans hg⟩

set_option maxRecDepth 100000 in
set_option maxHeartbeats 4000000 in
theorem l02Belt_any {B n : Nat} {p : Option Addr} {cap gc oc : Nat} {w : World} {g : Nat} (hn : n ≤ 1048576) (h : Cu B n p cap gc oc w g) :
    Calls Try.prog 42 #[.pointer (some ⟨g, 0, none⟩)] w fun e w' => ∃ (L G : Int) (H : Bool) (q : Nat) (po : Option Addr) (co : Nat) (l : List Int), e = .returned (.agg #[.int .i64 L, .int .i64 G, .bool H, .slice po q co]) ∧ q ≤ 6 ∧ w'.ownsRow w.heap.size 32 3 (.slice po q co) q (l.map (.int .i64)) ∧ Cu B n p cap gc oc w' g ∧ w.grownBy w' (some g) ∧ ∃ f, DBelt L G q f l := by
  obtain ⟨i0, hi, hz0, hz1, hz2⟩ := info_parts infoItemD
  have c3 := cellsItemD
  have hgl := h.lt
  have hgB := h.base
  have hgr : w.heap.size ≠ g := by omega
  have HR0 := Lib.hid (show Bk (w.alloc (.cells #[.int .i64 0, .int .i64 0, .bool false, .slice none 0 0] 24)) w.heap.size 0 0 false (.slice none 0 0) from heap_new _ _ _ rfl)
  have HC0 := Lib.hid (h.below ((Below.refl w.heap.size w).alloc (Nat.le_refl _) (.cells #[.int .i64 0, .int .i64 0, .bool false, .slice none 0 0] 24)))
  have HG0 := Lib.hid (World.grownBy_alloc w (.cells #[.int .i64 0, .int .i64 0, .bool false, .slice none 0 0] 24) (some g))
  clear h
  go_enter Try.func42, Try.ntmps42
  go_wp2_with fail
  refine (below_at hn HC0.out 60 _ rfl (by omega) (by omega)).mono ?_
  rintro e w1 ⟨x1, hx1, rfl, hc1, hg1⟩
  have HR1 := Lib.hid (HR0.out.grown hg1 hgr)
  have HG1 := Lib.hid (HG0.out.trans hg1)
  have HP1 := Lib.hid (pickNew hn hc1 [0, 0, 1, 2, 5] 5 5 rfl (by decide) (by decide) #[.int .i64 0, .int .i64 0, .int .i64 1, .int .i64 2, .int .i64 5] rfl 3)
  clear hc1 hg1 HC0 HR0 HG0
  go_wp2_with fail
  refine HP1.out.mono ?_
  rintro e w2 ⟨x2, hx2, rfl, hc2, hg2⟩
  have hG5 : 0 ≤ x2 ∧ x2 ≤ 5 := by simp at hx2; omega
  clear hx2
  have HR2 := Lib.hid (HR1.out.grown hg2 hgr)
  have HG2 := Lib.hid (HG1.out.trans hg2)
  have HC2 := Lib.hid hc2
  clear hc2 hg2 HR1 HG1 HP1
  go_wp2_with fail
  refine (once_at hn HC2.out 4 _ rfl (by omega) (by omega)).mono ?_
  rintro e w3 ⟨H, rfl, hc3, hg3⟩
  have hwr : IntKind.i64.wrap (5 + (x1 : Int)) = 5 + (x1 : Int) := IntWalk.i64_in _ (by omega)
  obtain ⟨L, hL⟩ : ∃ L : Int, L = 5 + (x1 : Int) := ⟨_, rfl⟩
  have hL5 : 5 ≤ L ∧ L ≤ 64 := by omega
  have HR3 := Lib.hid (HR2.out.grown hg3 hgr)
  have HG3 := Lib.hid (HG2.out.trans hg3)
  have hlt3 := hc3.lt
  have hr3 := HR3.out.lt
  obtain ⟨V, hV⟩ : ∃ V, V = w3.heap.size := ⟨_, rfl⟩
  obtain ⟨wo, hwo⟩ : ∃ wo, wo = w3.alloc (.cells #[.int .i64 (5 + (x1 : Int)), .int .i64 x2, .bool H, .slice none 0 0] 24) := ⟨_, rfl⟩
  have hso : wo.heap.size = V + 1 := by rw [hwo, hV]; simp
  have HVo := Lib.hid (show Bk wo V L x2 H (.slice none 0 0) by rw [hwo, hV, hL]; exact heap_new _ _ _ rfl)
  have HRo := Lib.hid (show Bk wo w.heap.size 0 0 false (.slice none 0 0) by rw [hwo]; exact HR3.out.alloc _)
  have HCo := Lib.hid (show Cu B n p cap gc oc wo g by rw [hwo]; exact hc3.below ((Below.refl _ _).alloc (Nat.le_refl _) _))
  have HGo := Lib.hid (show w.grownBy wo (some g) by rw [hwo]; exact HG3.out.trans (World.grownBy_alloc _ _ _))
  have HWO := Lib.hid hwo
  have HVV := Lib.hid hV
  have hVr : w.heap.size < V := by omega
  have hVg : V ≠ g := by omega
  clear hwo hc3 hg3 HR3 HG3 HR2 HG2 HC2
  go_wp2_with fail
  rw [← HVV.out, ← HWO.out]
  have HPk := Lib.hid (pickDrewM hn HCo.out hso [0, 0, 1, 3, 10] 5 5 rfl (by decide) (by decide) #[.int .i64 0, .int .i64 0, .int .i64 1, .int .i64 3, .int .i64 10] rfl 3)
  clear hL HVV hwr hV hlt3 hr3 HWO
  go_cut [4] from 16 to 21 (fun fv wx => ∃ f : Int, .int .i64 f = fv ∧ (f ≤ L ∧ -100 ≤ f) ∧ Bk wx w.heap.size 0 0 false (.slice none 0 0) ∧ Bk wx V L x2 H (.slice none 0 0) ∧ Cu B n p cap gc oc wx g ∧ w.grownBy wx (some g) ∧ V < wx.heap.size)
  case first =>
    obtain ⟨a0, -⟩ := HVo.out.cells
    go_region_with (go_at_call 59; (with_reducible refine HPk.out.mono ?_); rintro e w4 ⟨x4, hx4, rfl, hc4, hg4⟩; have hx4 : 0 ≤ x4 ∧ x4 ≤ 10 := (by simp at hx4; omega); have hV4 : Bk w4 V L x2 H (.slice none 0 0) := HVo.out.grown hg4 hVg; obtain ⟨b0, -⟩ := hV4.cells)
    all_goals
      go_wp2_with fail
      go_meet
      exact ⟨_, rfl, ⟨by rw [IntWalk.i64_in _ (by omega)]; omega, by rw [IntWalk.i64_in _ (by omega)]; omega⟩, HRo.out.grown hg4 hgr, hV4, hc4, HGo.out.trans hg4, hV4.lt⟩
  case rest =>
    obtain ⟨f, rfl, hfL, hR, hV4, hc4, hg4, hVl⟩ := hcut
    have HD0 := Lib.hid (DBelt.zero hL5 hG5 hfL.1 hfL.2)
    have H4 := Lib.hid (show BS B n p cap gc oc g w.heap.size V L x2 H w wc 0 none 0 [] from ⟨hR, hV4, hc4, hg4, ⟨rfl, .inl ⟨rfl, rfl⟩⟩⟩)
    clear hR hV4 hc4 hg4 HVo HRo HCo HGo HPk hso
    go_wp2_with fail
    refine (below_at hn H4.out.2.2.1 7 _ rfl (by omega) (by omega)).mono ?_
    rintro e w5 ⟨k0, hk0, rfl, hc5, hg5⟩
    have H5 := Lib.hid (H4.out.grown hg5 hc5 hgr hVg (by omega))
    have hs5 : V < w5.heap.size := by have := hg5.size; omega
    clear hc5 hg5 H4
    go_wp2_with fail
    go_loopw [4, 5] (fun fv nv wr => ∃ (f : Int) (k q : Nat) (po : Option Addr) (co : Nat) (l : List Int), .int .i64 f = fv ∧ nv = .int .i64 (k : Int) ∧ k + q ≤ 6 ∧ Hid (BS B n p cap gc oc g w.heap.size V L x2 H w wr q po co l) ∧ V < wr.heap.size ∧ Hid (DBelt L x2 q f l)) (fun _ nv _ => (intOf nv).toNat)
    case atStart => exact ⟨f, k0, 0, none, 0, [], rfl, rfl, by omega, H5, hs5, HD0⟩
    case round =>
      clear H5 hs5 HD0 hfL
      obtain ⟨f, k, q, po, co, l, rfl, rfl, hkq, HI, hsr, HDB⟩ := hrel
      by_cases hkp : 0 < k
      · have hk0 : (0 : Int) < (k : Int) := by omega
        go_wp2_with fail
        refine (below_at hn HI.out.2.2.1 9 _ rfl (by omega) (by omega)).mono ?_
        rintro e w6 ⟨y, hy, rfl, hc6, hg6⟩
        have H6 := Lib.hid (HI.out.grown hg6 hc6 hgr hVg (by omega))
        have hs6 : V < w6.heap.size := by have := hg6.size; omega
        have hwy : IntKind.i64.wrap (1 + (y : Int)) = 1 + (y : Int) := IntWalk.i64_in _ (by omega)
        clear hc6 hg6 HI
        by_cases hfl : f < 1 + (y : Int)
        · have hd := decide_eq_true hfl
          obtain ⟨r0, r1, r2, r3, f0, f1, f2, f3⟩ := H6.out.1.cells
          obtain ⟨v0, v1, v2, v3, -⟩ := H6.out.2.1.cells
          go_wp2_with fail
          refine bodyPost_ret (v := .agg #[.int .i64 L, .int .i64 x2, .bool H, .slice po q co]) (by simp [results, Try.results42, go_sem, r0, r1, r2, r3]) rfl ⟨L, x2, H, q, po, co, l, rfl, by omega, ?_, ?_, ?_, f, HDB.out⟩
          · have ne : (Value.slice po q co).ownBlock ≠ some w.heap.size := fun e => by have := (H6.out.2.2.2.2.lt _ e).1; omega
            exact owns_base ((((H6.out.2.2.2.2.kept (grown_set1 _ _ _ _) (.inr ne)).kept (grown_set1 _ _ _ _) (.inr ne)).kept (grown_set1 _ _ _ _) (.inr ne)).kept (grown_set1 _ _ _ _) (.inr ne)) (by omega)
          · exact ((((H6.out.2.2.1.set _ _ hgr.symm (by show B ≤ w.heap.size; omega)).set _ _ hgr.symm (by show B ≤ w.heap.size; omega)).set _ _ hgr.symm (by show B ≤ w.heap.size; omega)).set _ _ hgr.symm (by show B ≤ w.heap.size; omega))
          · exact grown_setCell (grown_setCell (grown_setCell (grown_setCell H6.out.2.2.2.1 (.inr (Nat.le_refl _)) _) (.inr (Nat.le_refl _)) _) (.inr (Nat.le_refl _)) _) (.inr (Nat.le_refl _)) _
        · have hd := decide_eq_false hfl
          go_wp2_with fail
          obtain ⟨wo2, hwo2⟩ : ∃ wo2, wo2 = w6 := ⟨_, rfl⟩
          go_cut [] from 24 to 59 (fun wx => ∃ (po2 : Option Addr) (co2 : Nat) (l2 : List Int), BS B n p cap gc oc g w.heap.size V L x2 H w wx (q + 1) po2 co2 l2 ∧ V < wx.heap.size ∧ (∀ f', f' ≤ f - (1 + (y : Int)) - x2 → -100 ≤ f' → DBelt L x2 (q + 1) f' l2))
          case first =>
            have H6d : BS B n p cap gc oc g w.heap.size V L x2 H w w6.drew q po co l := H6.out.grown (⟨rfl, rfl, rfl, Nat.le_refl _, fun _ _ _ => rfl⟩ : w6.grownBy w6.drew (some g)) (H6.out.2.2.1.kept rfl (fun _ _ => rfl)) hgr hVg (by omega)
            have HB9 := Lib.hid (below_at hn H6d.2.2.1 9 9 rfl (by omega) (by omega))
            have HD := Lib.hid H6d
            obtain ⟨-, -, -, v3, -⟩ := H6.out.2.1.cells
            clear H6d
            have hm1 : IntKind.i64.wrap (10 * (q : Int)) = 10 * (q : Int) := IntWalk.i64_in _ (by omega)
            have hm2 : IntKind.i64.wrap (10 * (q : Int) + 1) = 10 * (q : Int) + 1 := IntWalk.i64_in _ (by omega)
            clear hwo2 wo2
            go_region_law (first
              | (go_simp; go_at_call 44; (with_reducible refine HB9.out.mono ?_); rintro e w7 ⟨y2, hy2, rfl, hc7, hg7⟩; have H7 : BS B n p cap gc oc g w.heap.size V L x2 H w w7 q po co l := HD.out.grown hg7 hc7 hgr hVg (by omega); have hown7 := H7.2.2.2.2; have hs7 : V < w7.heap.size := H7.2.1.lt; obtain ⟨-, -, -, u3, -, -, -, u7⟩ := H7.2.1.cells; have H7h := Lib.hid H7; have hm3 : IntKind.i64.wrap (10 * (q : Int) + 1 + (y2 : Int)) = 10 * (q : Int) + 1 + (y2 : Int) := IntWalk.i64_in _ (by omega); clear H7 hg7 hc7)
              | (refine step_append_lies _ (by rfl) _ _ _ (by rfl) (V + 1) 32 i0 (.agg #[.int .i64 0, .int .i64 0, .int .i64 0]) 3 24 Try.underlying22 hi hz0 hz1 hz2 rfl (by omega) _ q _ (by rfl) (hown7.alloc _) ⟨w7.heap.size, 0, none⟩ 1 1 [.int .i64 (10 * (q : Int) + 1 + (y2 : Int)), .int .i64 f, .int .i64 (1 + (y : Int))] (by rfl) (by rfl) (World.news_of_block (cs := #[.int .i64 (10 * (q : Int) + 1 + (y2 : Int)), .int .i64 f, .int .i64 (1 + (y : Int))]) (t := 32) (fr := (0, 0)) (heap_alloc_new w7 _)) (by simp [Value.oneCell']) (by omega) (by unfold maxLen; omega) (by omega) (by simp; omega) (w7.heap.size + 1) (by simp) ?_; intro gg cap8 w8 hown8 hgrow8 hat8 hlt8; have hV8 : Bk w8 V L x2 H (.slice po q co) := (hgrow8.block V (by simp; omega) (by intro e; have := (hown7.lt _ e.symm).1; omega)).trans (H7h.out.2.1.alloc _); obtain ⟨-, -, -, t3, -, -, -, t7⟩ := hV8.cells; have HV8 := Lib.hid hV8; clear hV8))
            all_goals
              have nR : some w.heap.size ≠ (Value.slice po q co).ownBlock := by intro e; have := (hown7.lt _ e.symm).1; omega
              have hb8 : ∀ k, k ≤ V → w8.heap[k]? = w7.heap[k]? := fun k hk => (hgrow8.block k (by simp; omega) (by intro e; have := (hown7.lt _ e.symm).1; omega)).trans (Below.heap_alloc _ _ _ (by omega))
              have h7 := H7h.out
              have hGr : w.grownBy w8 (some g) := ⟨hgrow8.os.trans h7.2.2.2.1.os, hgrow8.tape.trans h7.2.2.2.1.tape, hgrow8.output.trans h7.2.2.2.1.output, Nat.le_trans h7.2.2.2.1.size (Nat.le_trans (by simp) hgrow8.size), fun k hk hne => (hb8 k (by omega)).trans (h7.2.2.2.1.block k hk hne)⟩
              go_wp2_with fail
              go_meet
              refine ⟨some ⟨gg, 0, none⟩, cap8, l ++ [10 * (q : Int) + 1 + (y2 : Int), f, 1 + (y : Int)], ⟨?_, blk_set HV8.out _, ?_, grown_setCell hGr (.inr (by show w.heap.size ≤ V; omega)) _, ?_⟩, by simp [World.setCell]; have := hgrow8.size; simp at this; omega, fun f' h1 h2 => HDB.out.snoc ⟨by omega, by omega⟩ ⟨by omega, by omega⟩ (by omega) h1 h2⟩
              · exact (Below.heap_setCell _ _ _ _ (by show w.heap.size ≠ V; omega)).trans ((hb8 _ (by omega)).trans h7.1)
              · exact (h7.2.2.1.kept (hb8 g (by omega)) (fun k hk => hb8 k (by omega))).set _ _ (by show g ≠ V; omega) (by show B ≤ V; omega)
              · rw [List.map_append]
                exact hown8.kept (grown_set1 _ _ _ _) (.inr (fun e => by have := (hown8.lt _ e).1; omega))
          case rest =>
            obtain ⟨po2, co2, l2, H8, hs8, hdb8⟩ := hcut
            have HDB8 := Lib.hid hdb8
            clear hdb8
            have hfb : f ≤ 100 := HDB.out.2.2.2.2.2.2.2
            have H8h := Lib.hid H8
            have HPc := Lib.hid (pickDrewM hn H8.2.2.1 (rfl : wc.heap.size = wc.heap.size) [0, 0, 1, 2, 6] 5 5 rfl (by decide) (by decide) #[.int .i64 0, .int .i64 0, .int .i64 1, .int .i64 2, .int .i64 6] rfl 3)
            obtain ⟨-, v1, -⟩ := H8.2.1.cells
            clear H8
            go_wp2_with fail
            have hwk : IntKind.i64.wrap ((k : Int) - 1) = ((k - 1 : Nat) : Int) := by rw [IntWalk.i64_in _ (by omega)]; omega
            go_region_with (go_at_call 59; (with_reducible refine HPc.out.mono ?_); rintro e w9 ⟨x9, hx9, rfl, hc9, hg9⟩; have hx9 : 0 ≤ x9 ∧ x9 ≤ 6 := (by simp at hx9; omega); have H9 : BS B n p cap gc oc g w.heap.size V L x2 H w w9 (q + 1) po2 co2 l2 := H8h.out.grown hg9 hc9 hgr hVg (by omega); obtain ⟨-, u1, -⟩ := H9.2.1.cells; have H9h := Lib.hid H9; have hs9 : V < w9.heap.size := H9.2.1.lt; clear H9 hc9 hg9)
            all_goals
              go_wp2_with fail
              go_roundw
              case rel => exact ⟨_, k - 1, q + 1, po2, co2, l2, rfl, by first | rfl | (congr 1; omega), by omega, H9h, hs9, HDB8.out _ (by (repeat rw [IntWalk.i64_in _ (by omega)]); omega) (by (repeat rw [IntWalk.i64_in _ (by omega)]); omega)⟩
              case measure => simp [intOf]; omega
      · obtain rfl : k = 0 := by omega
        obtain ⟨r0, r1, r2, r3, f0, f1, f2, f3⟩ := HI.out.1.cells
        obtain ⟨v0, v1, v2, v3, -⟩ := HI.out.2.1.cells
        go_wp2_with fail
        refine bodyPost_ret (v := .agg #[.int .i64 L, .int .i64 x2, .bool H, .slice po q co]) (by simp [results, Try.results42, go_sem, r0, r1, r2, r3]) rfl ⟨L, x2, H, q, po, co, l, rfl, by omega, ?_, ?_, ?_, f, HDB.out⟩
        · have ne : (Value.slice po q co).ownBlock ≠ some w.heap.size := fun e => by have := (HI.out.2.2.2.2.lt _ e).1; omega
          exact owns_base ((((HI.out.2.2.2.2.kept (grown_set1 _ _ _ _) (.inr ne)).kept (grown_set1 _ _ _ _) (.inr ne)).kept (grown_set1 _ _ _ _) (.inr ne)).kept (grown_set1 _ _ _ _) (.inr ne)) (by omega)
        · exact ((((HI.out.2.2.1.set _ _ hgr.symm (by show B ≤ w.heap.size; omega)).set _ _ hgr.symm (by show B ≤ w.heap.size; omega)).set _ _ hgr.symm (by show B ≤ w.heap.size; omega)).set _ _ hgr.symm (by show B ≤ w.heap.size; omega))
        · exact grown_setCell (grown_setCell (grown_setCell (grown_setCell HI.out.2.2.2.1 (.inr (Nat.le_refl _)) _) (.inr (Nat.le_refl _)) _) (.inr (Nat.le_refl _)) _) (.inr (Nat.le_refl _)) _
end Go.Proofs.Ytlklggkkkbamhaa
