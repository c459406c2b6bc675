/-
  THE WALKS OF MayHave (spec and impl), eqHas.
-/
import Derived.Test.YtfbikieolepldabSilent
namespace Go.Proofs.Ytfbikieolepldab
open Go.RowKit

/-- Three blocks that a call laid first: two boxes, of three and of five, and the result's three cells: they read on. -/
theorem three353 {w W : World} {x0 x1 x2 y0 y1 y2 y3 y4 z0 z1 z2 : Value} {T U V : TypeId} (hb : Below (w.heap.size + 1 + 1 + 1) (((w.alloc (.cells #[x0, x1, x2] T)).alloc (.cells #[y0, y1, y2, y3, y4] U)).alloc (.cells #[z0, z1, z2] V)) W) :
    W.cell? ⟨w.heap.size, 0, none⟩ = some x0 ∧ W.cell? ⟨w.heap.size, 1, none⟩ = some x1 ∧ W.cell? ⟨w.heap.size, 2, none⟩ = some x2 ∧ W.cell? ⟨w.heap.size + 1, 0, none⟩ = some y0 ∧ W.cell? ⟨w.heap.size + 1, 1, none⟩ = some y1 ∧ W.cell? ⟨w.heap.size + 1, 2, none⟩ = some y2 ∧ W.cell? ⟨w.heap.size + 1, 3, none⟩ = some y3 ∧ W.cell? ⟨w.heap.size + 1, 4, none⟩ = some y4 ∧ W.cell? ⟨w.heap.size + 1 + 1, 0, none⟩ = some z0 ∧ W.frozen? ⟨w.heap.size + 1 + 1, 0, none⟩ = false ∧ W.cell? ⟨w.heap.size + 1 + 1, 1, none⟩ = some z1 ∧ W.frozen? ⟨w.heap.size + 1 + 1, 1, none⟩ = false ∧ W.cell? ⟨w.heap.size + 1 + 1, 2, none⟩ = some z2 ∧ W.frozen? ⟨w.heap.size + 1 + 1, 2, none⟩ = false := by
  refine ⟨?_, ?_, ?_, ?_, ?_, ?_, ?_, ?_, ?_, ?_, ?_, ?_, ?_, ?_⟩
  all_goals (first | rw [hb.cell (by simp <;> omega)] | rw [hb.frozen (by simp <;> omega)])
  all_goals simp [go_sem]
theorem three_below {w W : World} {X Y Z : Obj} (hb : Below (w.heap.size + 1 + 1 + 1) (((w.alloc X).alloc Y).alloc Z) W) : Below w.heap.size w W :=
  ((((Below.refl _ _).alloc (Nat.le_refl _) _).alloc (by simp) _).alloc (by simp; omega) _).trans (hb.mono (by omega))
theorem below_set3 {B p : Nat} {a w : World} (h : Below B a w) (hp : B ≤ p) (x0 x1 x2 : Value) : Below B a (((w.setCell ⟨p, 0, none⟩ x0).setCell ⟨p, 1, none⟩ x1).setCell ⟨p, 2, none⟩ x2) :=
  ((h.setCell (p := ⟨p, 0, none⟩) hp x0).setCell (p := ⟨p, 1, none⟩) hp x1).setCell (p := ⟨p, 2, none⟩) hp x2

/-- What chapter 2 says that a train can have. -/
def hasV (e l g v a s h : Int) : Value := if rulesOk e l g && boxOk 1000000000 v a s h then .agg #[.int .i64 a, .int .i64 v, .int .i64 (wrap64 (s + l))] else .agg #[.int .i64 0, .int .i64 0, .int .i64 0]

set_option maxHeartbeats 800000 in
theorem eqHas_same (a b c : Int) (w : World) :
    Calls Try.prog 41 #[.agg #[.int .i64 a, .int .i64 b, .int .i64 c], .agg #[.int .i64 a, .int .i64 b, .int .i64 c]] w fun r w' => r = .returned (.bool true) ∧ Below w.heap.size w w' := by
  have h1 : (a != a) = false := by simp
  have h2 : (b != b) = false := by simp
  have h3 : (c != c) = false := by simp
  go_enter Try.func41, Try.ntmps41
  go_wp2
  go_ret
  exact ⟨rfl, ((Below.refl _ _).alloc (Nat.le_refl _) _).alloc (by simp) _⟩

set_option maxHeartbeats 800000 in
theorem specMay_any (e l g v x a s h : Int) (w : World) :
    Calls Try.prog 39 #[.agg #[.int .i64 e, .int .i64 l, .int .i64 g], .agg #[.int .i64 v, .int .i64 x, .int .i64 a, .int .i64 s, .int .i64 h]] w fun r w' => r = .returned (hasV e l g v a s h) ∧ Below w.heap.size w w' := by
  rcases Bool.eq_false_or_eq_true (rulesOk e l g) with hr | hr
  rotate_left
  · have HX : Hid (hasV e l g v a s h = .agg #[.int .i64 0, .int .i64 0, .int .i64 0]) := by simp [Hid, hasV, hr]
    go_enter Try.func39, Try.ntmps39
    go_wp2_with fail
    refine (specRules_any _ _ _ _).mono ?_
    rintro _ w1 ⟨rfl, hb1⟩
    rw [World.size_alloc, World.size_alloc, World.size_alloc] at hb1
    obtain ⟨c0, c1, c2, c3, c4, c5, c6, c7, k0, f0, k1, f1, k2, f2⟩ := three353 hb1
    go_wp2
    refine bodyPost_ret (v := .agg #[.int .i64 0, .int .i64 0, .int .i64 0]) (by simp [results, Try.results39, go_sem, *]) rfl ⟨by rw [HX.out], ?_⟩
    exact below_set3 (three_below hb1) (by omega) _ _ _
  rcases Bool.eq_false_or_eq_true (boxOk 1000000000 v a s h) with ho | ho
  rotate_left
  · have HX : Hid (hasV e l g v a s h = .agg #[.int .i64 0, .int .i64 0, .int .i64 0]) := by simp [Hid, hasV, ho]
    go_enter Try.func39, Try.ntmps39
    go_wp2_with fail
    refine (specRules_any _ _ _ _).mono ?_
    rintro _ w1 ⟨rfl, hb1⟩
    rw [World.size_alloc, World.size_alloc, World.size_alloc] at hb1
    obtain ⟨c0, c1, c2, c3, c4, c5, c6, c7, k0, f0, k1, f1, k2, f2⟩ := three353 hb1
    go_wp2_with fail
    refine (specBox_any _ _ _ _ _ _ _).mono ?_
    rintro _ w2 ⟨rfl, hb2⟩
    have hc2 := hb1.trans (hb2.mono (by have := hb1.size; simp at this; omega))
    clear hb1 hb2 c0 c1 c2 c3 c4 c5 c6 c7 k0 f0 k1 f1 k2 f2
    obtain ⟨c0, c1, c2, c3, c4, c5, c6, c7, k0, f0, k1, f1, k2, f2⟩ := three353 hc2
    go_wp2
    refine bodyPost_ret (v := .agg #[.int .i64 0, .int .i64 0, .int .i64 0]) (by simp [results, Try.results39, go_sem, *]) rfl ⟨by rw [HX.out], ?_⟩
    exact below_set3 (three_below hc2) (by omega) _ _ _
  have HX : Hid (hasV e l g v a s h = .agg #[.int .i64 a, .int .i64 v, .int .i64 (wrap64 (s + l))]) := by simp [Hid, hasV, hr, ho]
  go_enter Try.func39, Try.ntmps39
  go_wp2_with fail
  refine (specRules_any _ _ _ _).mono ?_
  rintro _ w1 ⟨rfl, hb1⟩
  rw [World.size_alloc, World.size_alloc, World.size_alloc] at hb1
  obtain ⟨c0, c1, c2, c3, c4, c5, c6, c7, k0, f0, k1, f1, k2, f2⟩ := three353 hb1
  go_wp2_with fail
  refine (specBox_any _ _ _ _ _ _ _).mono ?_
  rintro _ w2 ⟨rfl, hb2⟩
  have hc2 := hb1.trans (hb2.mono (by have := hb1.size; simp at this; omega))
  clear hb1 hb2 c0 c1 c2 c3 c4 c5 c6 c7 k0 f0 k1 f1 k2 f2
  obtain ⟨c0, c1, c2, c3, c4, c5, c6, c7, k0, f0, k1, f1, k2, f2⟩ := three353 hc2
  go_wp2
  refine bodyPost_ret (v := .agg #[.int .i64 a, .int .i64 v, .int .i64 (wrap64 (s + l))]) (by simp [results, Try.results39, go_sem, *]) rfl ⟨by rw [HX.out], ?_⟩
  exact below_set3 (three_below hc2) (by omega) _ _ _

set_option maxHeartbeats 800000 in
theorem implMay_any (e l g v x a s h : Int) (w : World) :
    Calls Try.prog 40 #[.agg #[.int .i64 e, .int .i64 l, .int .i64 g], .agg #[.int .i64 v, .int .i64 x, .int .i64 a, .int .i64 s, .int .i64 h]] w fun r w' => r = .returned (hasV e l g v a s h) ∧ Below w.heap.size w w' := by
  rcases Bool.eq_false_or_eq_true (rulesOk e l g) with hr | hr
  rotate_left
  · have HX : Hid (hasV e l g v a s h = .agg #[.int .i64 0, .int .i64 0, .int .i64 0]) := by simp [Hid, hasV, hr]
    go_enter Try.func40, Try.ntmps40
    go_wp2_with fail
    refine (implRules_any _ _ _ _).mono ?_
    rintro _ w1 ⟨rfl, hb1⟩
    rw [World.size_alloc, World.size_alloc, World.size_alloc] at hb1
    obtain ⟨c0, c1, c2, c3, c4, c5, c6, c7, k0, f0, k1, f1, k2, f2⟩ := three353 hb1
    go_wp2
    refine bodyPost_ret (v := .agg #[.int .i64 0, .int .i64 0, .int .i64 0]) (by simp [results, Try.results40, go_sem, *]) rfl ⟨by rw [HX.out], ?_⟩
    exact below_set3 (three_below hb1) (by omega) _ _ _
  rcases Bool.eq_false_or_eq_true (boxOk 1000000000 v a s h) with ho | ho
  rotate_left
  · have HX : Hid (hasV e l g v a s h = .agg #[.int .i64 0, .int .i64 0, .int .i64 0]) := by simp [Hid, hasV, ho]
    go_enter Try.func40, Try.ntmps40
    go_wp2_with fail
    refine (implRules_any _ _ _ _).mono ?_
    rintro _ w1 ⟨rfl, hb1⟩
    rw [World.size_alloc, World.size_alloc, World.size_alloc] at hb1
    obtain ⟨c0, c1, c2, c3, c4, c5, c6, c7, k0, f0, k1, f1, k2, f2⟩ := three353 hb1
    go_wp2_with fail
    refine (implBox_any _ _ _ _ _ _ _).mono ?_
    rintro _ w2 ⟨rfl, hb2⟩
    have hc2 := hb1.trans (hb2.mono (by have := hb1.size; simp at this; omega))
    clear hb1 hb2 c0 c1 c2 c3 c4 c5 c6 c7 k0 f0 k1 f1 k2 f2
    obtain ⟨c0, c1, c2, c3, c4, c5, c6, c7, k0, f0, k1, f1, k2, f2⟩ := three353 hc2
    go_wp2
    refine bodyPost_ret (v := .agg #[.int .i64 0, .int .i64 0, .int .i64 0]) (by simp [results, Try.results40, go_sem, *]) rfl ⟨by rw [HX.out], ?_⟩
    exact below_set3 (three_below hc2) (by omega) _ _ _
  have HX : Hid (hasV e l g v a s h = .agg #[.int .i64 a, .int .i64 v, .int .i64 (wrap64 (s + l))]) := by simp [Hid, hasV, hr, ho]
  go_enter Try.func40, Try.ntmps40
  go_wp2_with fail
  refine (implRules_any _ _ _ _).mono ?_
  rintro _ w1 ⟨rfl, hb1⟩
  rw [World.size_alloc, World.size_alloc, World.size_alloc] at hb1
  obtain ⟨c0, c1, c2, c3, c4, c5, c6, c7, k0, f0, k1, f1, k2, f2⟩ := three353 hb1
  go_wp2_with fail
  refine (implBox_any _ _ _ _ _ _ _).mono ?_
  rintro _ w2 ⟨rfl, hb2⟩
  have hc2 := hb1.trans (hb2.mono (by have := hb1.size; simp at this; omega))
  clear hb1 hb2 c0 c1 c2 c3 c4 c5 c6 c7 k0 f0 k1 f1 k2 f2
  obtain ⟨c0, c1, c2, c3, c4, c5, c6, c7, k0, f0, k1, f1, k2, f2⟩ := three353 hc2
  go_wp2
  refine bodyPost_ret (v := .agg #[.int .i64 a, .int .i64 v, .int .i64 (wrap64 (s + l))]) (by simp [results, Try.results40, go_sem, *]) rfl ⟨by rw [HX.out], ?_⟩
  exact below_set3 (three_below hc2) (by omega) _ _ _

end Go.Proofs.Ytfbikieolepldab
