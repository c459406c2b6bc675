/-
  THE WALKS OF BoxSilent, TrainSilent, MayHave (spec and impl), eqHas.
-/
import Derived.Test.YtfbikieolepldabEnds
import Derived.Test.YtfbikieolepldabBoxes
namespace Go.Proofs.Ytfbikieolepldab
open Go.RowKit

/-- What chapter 2 says of a silent box. -/
def boxSil (e l g n v a s h : Int) : Bool := rulesOk e l g && (boxOk n v a s h && decide (l < n - h))
/-- What chapter 2 says of a silent train. -/
def trainSil (e l g n v t : Int) : Bool := rulesOk e l g && (trainOk n v t && decide (l < n - t))

theorem rules_bounds {e l g : Int} (h : rulesOk e l g = true) : 1 ≤ l ∧ l ≤ 10000 := by
  unfold rulesOk inB at h
  simp at h
  omega
theorem box_bounds {n v a s h : Int} (H : boxOk n v a s h = true) : 0 ≤ n ∧ n ≤ 1000000000 ∧ 0 ≤ v ∧ v ≤ 1000000000 ∧ 0 ≤ a ∧ a ≤ v ∧ 0 ≤ s ∧ s ≤ n ∧ 0 ≤ h ∧ h ≤ n := by
  unfold boxOk inB at H
  simp at H
  omega
theorem train_bounds {n v t : Int} (H : trainOk n v t = true) : 0 ≤ n ∧ n ≤ 1000000000 ∧ 0 ≤ v ∧ v ≤ 1000000000 ∧ 0 ≤ t ∧ t ≤ n := by
  unfold trainOk inB at H
  simp at H
  omega

theorem wrap_sub {n h : Int} (h0 : 0 ≤ h) (h1 : h ≤ n) (h2 : n ≤ 1000000000) : IntKind.wrap .i64 (n - h) = n - h := by
  rw [wrap_small _ (by omega) (by omega)]

/-- Two boxes that a call laid first, of 3 and of 5: they read on behind whatever turns nothing below them. -/
theorem two35 {w W : World} {x0 x1 x2 y0 y1 y2 y3 y4 : Value} {T U : TypeId} (hb : Below (w.heap.size + 1 + 1) ((w.alloc (.cells #[x0, x1, x2] T)).alloc (.cells #[y0, y1, y2, y3, y4] U)) W) :
    W.cell? ⟨w.heap.size, 0, none⟩ = some x0 ∧ W.cell? ⟨w.heap.size, 1, none⟩ = some x1 ∧ W.cell? ⟨w.heap.size, 2, none⟩ = some x2 ∧ W.cell? ⟨w.heap.size + 1, 0, none⟩ = some y0 ∧ W.cell? ⟨w.heap.size + 1, 1, none⟩ = some y1 ∧ W.cell? ⟨w.heap.size + 1, 2, none⟩ = some y2 ∧ W.cell? ⟨w.heap.size + 1, 3, none⟩ = some y3 ∧ W.cell? ⟨w.heap.size + 1, 4, none⟩ = some y4 := by
  refine ⟨?_, ?_, ?_, ?_, ?_, ?_, ?_, ?_⟩
  all_goals (rw [hb.cell (by simp <;> omega)]; simp)
/-- Two boxes that a call laid first, of 3 and of 3: they read on behind whatever turns nothing below them. -/
theorem two33 {w W : World} {x0 x1 x2 y0 y1 y2 : Value} {T U : TypeId} (hb : Below (w.heap.size + 1 + 1) ((w.alloc (.cells #[x0, x1, x2] T)).alloc (.cells #[y0, y1, y2] U)) W) :
    W.cell? ⟨w.heap.size, 0, none⟩ = some x0 ∧ W.cell? ⟨w.heap.size, 1, none⟩ = some x1 ∧ W.cell? ⟨w.heap.size, 2, none⟩ = some x2 ∧ W.cell? ⟨w.heap.size + 1, 0, none⟩ = some y0 ∧ W.cell? ⟨w.heap.size + 1, 1, none⟩ = some y1 ∧ W.cell? ⟨w.heap.size + 1, 2, none⟩ = some y2 := by
  refine ⟨?_, ?_, ?_, ?_, ?_, ?_⟩
  all_goals (rw [hb.cell (by simp <;> omega)]; simp)
theorem two_below {w W : World} {X Y : Obj} (hb : Below (w.heap.size + 1 + 1) ((w.alloc X).alloc Y) W) : Below w.heap.size w W :=
  (((Below.refl _ _).alloc (Nat.le_refl _) _).alloc (by simp) _).trans (hb.mono (by omega))

set_option maxHeartbeats 800000 in
theorem specBoxSil_any (e l g n v x a s h : Int) (w : World) :
    Calls Try.prog 35 #[.agg #[.int .i64 e, .int .i64 l, .int .i64 g], .int .i64 n, .agg #[.int .i64 v, .int .i64 x, .int .i64 a, .int .i64 s, .int .i64 h]] w fun r w' => r = .returned (.bool (boxSil e l g n v a s h)) ∧ Below w.heap.size w w' := by
  rcases Bool.eq_false_or_eq_true (rulesOk e l g) with hr | hr
  rotate_left
  · skip
    go_enter Try.func35, Try.ntmps35
    go_wp2_with fail
    refine (specRules_any _ _ _ _).mono ?_
    rintro _ w1 ⟨rfl, hb1⟩
    rw [World.size_alloc, World.size_alloc] at hb1
    go_wp2
    go_ret
    exact ⟨ret_bool (by simp [boxSil, hr]), two_below hb1⟩
  rcases Bool.eq_false_or_eq_true (boxOk n v a s h) with ho | ho
  rotate_left
  · skip
    go_enter Try.func35, Try.ntmps35
    go_wp2_with fail
    refine (specRules_any _ _ _ _).mono ?_
    rintro _ w1 ⟨rfl, hb1⟩
    rw [World.size_alloc, World.size_alloc] at hb1
    obtain ⟨c0, c1, c2, c3, c4, c5, c6, c7⟩ := two35 hb1
    go_wp2_with fail
    refine (specBox_any _ _ _ _ _ _ _).mono ?_
    rintro _ w2 ⟨rfl, hb2⟩
    have hc2 := hb1.trans (hb2.mono (by have := hb1.size; simp at this; omega))
    clear hb1 hb2 c0 c1 c2 c3 c4 c5 c6 c7
    go_wp2
    go_ret
    exact ⟨ret_bool (by simp [boxSil, hr, ho]), two_below hc2⟩
  obtain ⟨q0, q1⟩ := rules_bounds hr
  have HB : Hid (IntKind.wrap .i64 (n - h) = n - h) := by have := box_bounds ho; exact wrap_sub (by omega) (by omega) (by omega)
  have HX : Hid (boxSil e l g n v a s h = decide (l < n - h)) := by simp [Hid, boxSil, hr, ho]
  go_enter Try.func35, Try.ntmps35
  go_wp2_with fail
  refine (specRules_any _ _ _ _).mono ?_
  rintro _ w1 ⟨rfl, hb1⟩
  rw [World.size_alloc, World.size_alloc] at hb1
  obtain ⟨c0, c1, c2, c3, c4, c5, c6, c7⟩ := two35 hb1
  go_wp2_with fail
  refine (specBox_any _ _ _ _ _ _ _).mono ?_
  rintro _ w2 ⟨rfl, hb2⟩
  have hc2 := hb1.trans (hb2.mono (by have := hb1.size; simp at this; omega))
  clear hb1 hb2 c0 c1 c2 c3 c4 c5 c6 c7
  obtain ⟨d0, d1, d2, d3, d4, d5, d6, d7⟩ := two35 hc2
  have hw := HB.out
  go_wp2
  all_goals go_ret
  all_goals refine ⟨ret_bool ?_, two_below hc2⟩
  all_goals rw [HX.out]

set_option maxHeartbeats 800000 in
theorem implBoxSil_any (e l g n v x a s h : Int) (w : World) :
    Calls Try.prog 36 #[.agg #[.int .i64 e, .int .i64 l, .int .i64 g], .int .i64 n, .agg #[.int .i64 v, .int .i64 x, .int .i64 a, .int .i64 s, .int .i64 h]] w fun r w' => r = .returned (.bool (boxSil e l g n v a s h)) ∧ Below w.heap.size w w' := by
  rcases Bool.eq_false_or_eq_true (rulesOk e l g) with hr | hr
  rotate_left
  · skip
    go_enter Try.func36, Try.ntmps36
    go_wp2_with fail
    refine (implRules_any _ _ _ _).mono ?_
    rintro _ w1 ⟨rfl, hb1⟩
    rw [World.size_alloc, World.size_alloc] at hb1
    go_wp2
    go_ret
    exact ⟨ret_bool (by simp [boxSil, hr]), two_below hb1⟩
  rcases Bool.eq_false_or_eq_true (boxOk n v a s h) with ho | ho
  rotate_left
  · skip
    go_enter Try.func36, Try.ntmps36
    go_wp2_with fail
    refine (implRules_any _ _ _ _).mono ?_
    rintro _ w1 ⟨rfl, hb1⟩
    rw [World.size_alloc, World.size_alloc] at hb1
    obtain ⟨c0, c1, c2, c3, c4, c5, c6, c7⟩ := two35 hb1
    go_wp2_with fail
    refine (implBox_any _ _ _ _ _ _ _).mono ?_
    rintro _ w2 ⟨rfl, hb2⟩
    have hc2 := hb1.trans (hb2.mono (by have := hb1.size; simp at this; omega))
    clear hb1 hb2 c0 c1 c2 c3 c4 c5 c6 c7
    go_wp2
    go_ret
    exact ⟨ret_bool (by simp [boxSil, hr, ho]), two_below hc2⟩
  obtain ⟨q0, q1⟩ := rules_bounds hr
  have HB : Hid (IntKind.wrap .i64 (n - h) = n - h) := by have := box_bounds ho; exact wrap_sub (by omega) (by omega) (by omega)
  have HX : Hid (boxSil e l g n v a s h = decide (l < n - h)) := by simp [Hid, boxSil, hr, ho]
  go_enter Try.func36, Try.ntmps36
  go_wp2_with fail
  refine (implRules_any _ _ _ _).mono ?_
  rintro _ w1 ⟨rfl, hb1⟩
  rw [World.size_alloc, World.size_alloc] at hb1
  obtain ⟨c0, c1, c2, c3, c4, c5, c6, c7⟩ := two35 hb1
  go_wp2_with fail
  refine (implBox_any _ _ _ _ _ _ _).mono ?_
  rintro _ w2 ⟨rfl, hb2⟩
  have hc2 := hb1.trans (hb2.mono (by have := hb1.size; simp at this; omega))
  clear hb1 hb2 c0 c1 c2 c3 c4 c5 c6 c7
  obtain ⟨d0, d1, d2, d3, d4, d5, d6, d7⟩ := two35 hc2
  have hw := HB.out
  go_wp2
  all_goals go_ret
  all_goals refine ⟨ret_bool ?_, two_below hc2⟩
  all_goals rw [HX.out]

set_option maxHeartbeats 800000 in
theorem specTrainSil_any (e l g n v x s : Int) (w : World) :
    Calls Try.prog 37 #[.agg #[.int .i64 e, .int .i64 l, .int .i64 g], .int .i64 n, .agg #[.int .i64 v, .int .i64 x, .int .i64 s]] w fun r w' => r = .returned (.bool (trainSil e l g n v s)) ∧ Below w.heap.size w w' := by
  rcases Bool.eq_false_or_eq_true (rulesOk e l g) with hr | hr
  rotate_left
  · skip
    go_enter Try.func37, Try.ntmps37
    go_wp2_with fail
    refine (specRules_any _ _ _ _).mono ?_
    rintro _ w1 ⟨rfl, hb1⟩
    rw [World.size_alloc, World.size_alloc] at hb1
    go_wp2
    go_ret
    exact ⟨ret_bool (by simp [trainSil, hr]), two_below hb1⟩
  rcases Bool.eq_false_or_eq_true (trainOk n v s) with ho | ho
  rotate_left
  · skip
    go_enter Try.func37, Try.ntmps37
    go_wp2_with fail
    refine (specRules_any _ _ _ _).mono ?_
    rintro _ w1 ⟨rfl, hb1⟩
    rw [World.size_alloc, World.size_alloc] at hb1
    obtain ⟨c0, c1, c2, c3, c4, c5⟩ := two33 hb1
    go_wp2_with fail
    refine (specTrain_any _ _ _ _ _).mono ?_
    rintro _ w2 ⟨rfl, hb2⟩
    have hc2 := hb1.trans (hb2.mono (by have := hb1.size; simp at this; omega))
    clear hb1 hb2 c0 c1 c2 c3 c4 c5
    go_wp2
    go_ret
    exact ⟨ret_bool (by simp [trainSil, hr, ho]), two_below hc2⟩
  obtain ⟨q0, q1⟩ := rules_bounds hr
  have HB : Hid (IntKind.wrap .i64 (n - s) = n - s) := by have := train_bounds ho; exact wrap_sub (by omega) (by omega) (by omega)
  have HX : Hid (trainSil e l g n v s = decide (l < n - s)) := by simp [Hid, trainSil, hr, ho]
  go_enter Try.func37, Try.ntmps37
  go_wp2_with fail
  refine (specRules_any _ _ _ _).mono ?_
  rintro _ w1 ⟨rfl, hb1⟩
  rw [World.size_alloc, World.size_alloc] at hb1
  obtain ⟨c0, c1, c2, c3, c4, c5⟩ := two33 hb1
  go_wp2_with fail
  refine (specTrain_any _ _ _ _ _).mono ?_
  rintro _ w2 ⟨rfl, hb2⟩
  have hc2 := hb1.trans (hb2.mono (by have := hb1.size; simp at this; omega))
  clear hb1 hb2 c0 c1 c2 c3 c4 c5
  obtain ⟨d0, d1, d2, d3, d4, d5⟩ := two33 hc2
  have hw := HB.out
  go_wp2
  all_goals go_ret
  all_goals refine ⟨ret_bool ?_, two_below hc2⟩
  all_goals rw [HX.out]

set_option maxHeartbeats 800000 in
theorem implTrainSil_any (e l g n v x s : Int) (w : World) :
    Calls Try.prog 38 #[.agg #[.int .i64 e, .int .i64 l, .int .i64 g], .int .i64 n, .agg #[.int .i64 v, .int .i64 x, .int .i64 s]] w fun r w' => r = .returned (.bool (trainSil e l g n v s)) ∧ Below w.heap.size w w' := by
  rcases Bool.eq_false_or_eq_true (rulesOk e l g) with hr | hr
  rotate_left
  · skip
    go_enter Try.func38, Try.ntmps38
    go_wp2_with fail
    refine (implRules_any _ _ _ _).mono ?_
    rintro _ w1 ⟨rfl, hb1⟩
    rw [World.size_alloc, World.size_alloc] at hb1
    go_wp2
    go_ret
    exact ⟨ret_bool (by simp [trainSil, hr]), two_below hb1⟩
  rcases Bool.eq_false_or_eq_true (trainOk n v s) with ho | ho
  rotate_left
  · skip
    go_enter Try.func38, Try.ntmps38
    go_wp2_with fail
    refine (implRules_any _ _ _ _).mono ?_
    rintro _ w1 ⟨rfl, hb1⟩
    rw [World.size_alloc, World.size_alloc] at hb1
    obtain ⟨c0, c1, c2, c3, c4, c5⟩ := two33 hb1
    go_wp2_with fail
    refine (implTrain_any _ _ _ _ _).mono ?_
    rintro _ w2 ⟨rfl, hb2⟩
    have hc2 := hb1.trans (hb2.mono (by have := hb1.size; simp at this; omega))
    clear hb1 hb2 c0 c1 c2 c3 c4 c5
    go_wp2
    go_ret
    exact ⟨ret_bool (by simp [trainSil, hr, ho]), two_below hc2⟩
  obtain ⟨q0, q1⟩ := rules_bounds hr
  have HB : Hid (IntKind.wrap .i64 (n - s) = n - s) := by have := train_bounds ho; exact wrap_sub (by omega) (by omega) (by omega)
  have HX : Hid (trainSil e l g n v s = decide (l < n - s)) := by simp [Hid, trainSil, hr, ho]
  go_enter Try.func38, Try.ntmps38
  go_wp2_with fail
  refine (implRules_any _ _ _ _).mono ?_
  rintro _ w1 ⟨rfl, hb1⟩
  rw [World.size_alloc, World.size_alloc] at hb1
  obtain ⟨c0, c1, c2, c3, c4, c5⟩ := two33 hb1
  go_wp2_with fail
  refine (implTrain_any _ _ _ _ _).mono ?_
  rintro _ w2 ⟨rfl, hb2⟩
  have hc2 := hb1.trans (hb2.mono (by have := hb1.size; simp at this; omega))
  clear hb1 hb2 c0 c1 c2 c3 c4 c5
  obtain ⟨d0, d1, d2, d3, d4, d5⟩ := two33 hc2
  have hw := HB.out
  go_wp2
  all_goals go_ret
  all_goals refine ⟨ret_bool ?_, two_below hc2⟩
  all_goals rw [HX.out]

end Go.Proofs.Ytfbikieolepldab
