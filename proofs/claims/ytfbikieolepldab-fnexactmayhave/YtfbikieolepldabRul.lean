/-
  THE WALKS OF toRules, spec.RulesOk, impl.within, impl.RulesOk: all over one Bool function 'rulesOk'.
-/
import Derived.Test.YtfbikieolepldabOk
namespace Go.Proofs.Ytfbikieolepldab
open Go.RowKit

/-- What chapter 2 says of rules. -/
def rulesOk (e s a : Int) : Bool := inB e 1 1000 && (inB s 1 10000 && inB a 0 s)

set_option maxHeartbeats 400000 in
theorem within_any (x a b : Int) (w : World) :
    Calls Try.prog 48 #[.int .i64 x, .int .i64 a, .int .i64 b] w fun e w' => e = .returned (.bool (inB x a b)) ∧ w' = w := by
  have H : Hid (inB x a b = decide (a ≤ x ∧ x ≤ b)) := rfl
  go_enter Try.func48, Try.ntmps48
  go_wp2
  all_goals go_ret
  all_goals refine ⟨ret_bool ?_, rfl⟩
  all_goals rw [H.out]
  all_goals simp_all
  all_goals omega

set_option maxHeartbeats 400000 in
theorem toRules_any (a b c : Int) (w : World) :
    Calls Try.prog 19 #[.agg #[.int .i64 a, .int .i64 b, .int .i64 c]] w fun e w' => e = .returned (.agg #[.int .i64 a, .int .i64 b, .int .i64 c]) ∧ Below w.heap.size w w' := by
  go_enter Try.func19, Try.ntmps19
  go_wp2
  refine bodyPost_ret (v := .agg #[.int .i64 a, .int .i64 b, .int .i64 c]) (by simp [results, Try.results19, go_sem]) rfl ⟨rfl, ?_⟩
  exact (((Below.refl _ _).alloc (Nat.le_refl _) _).alloc (by simp) _).alloc (by simp; omega) _

set_option maxHeartbeats 800000 in
theorem specRules_any (r s a : Int) (w : World) :
    Calls Try.prog 49 #[.agg #[.int .i64 r, .int .i64 s, .int .i64 a]] w fun e w' => e = .returned (.bool (rulesOk r s a)) ∧ Below w.heap.size w w' := by
  rcases Bool.eq_false_or_eq_true (inB r 1 1000) with h1 | h1
  rotate_left
  · skip
    go_enter Try.func49, Try.ntmps49
    go_wp2_with (go_at_call 47; refine (l1in_any _ _ _ _).mono ?_; rintro e w' ⟨rfl, rfl⟩)
    go_ret
    exact ⟨ret_bool (by simp [rulesOk, h1]), (Below.refl _ _).alloc (Nat.le_refl _) _⟩
  rcases Bool.eq_false_or_eq_true (inB s 1 10000) with h2 | h2
  rotate_left
  · skip
    go_enter Try.func49, Try.ntmps49
    go_wp2_with (go_at_call 47; refine (l1in_any _ _ _ _).mono ?_; rintro e w' ⟨rfl, rfl⟩)
    go_ret
    exact ⟨ret_bool (by simp [rulesOk, h1, h2]), (Below.refl _ _).alloc (Nat.le_refl _) _⟩
  rcases Bool.eq_false_or_eq_true (inB a 0 s) with h3 | h3
  rotate_left
  · skip
    go_enter Try.func49, Try.ntmps49
    go_wp2_with (go_at_call 47; refine (l1in_any _ _ _ _).mono ?_; rintro e w' ⟨rfl, rfl⟩)
    go_ret
    exact ⟨ret_bool (by simp [rulesOk, h1, h2, h3]), (Below.refl _ _).alloc (Nat.le_refl _) _⟩
  go_enter Try.func49, Try.ntmps49
  go_wp2_with (go_at_call 47; refine (l1in_any _ _ _ _).mono ?_; rintro e w' ⟨rfl, rfl⟩)
  go_ret
  exact ⟨ret_bool (by simp [rulesOk, h1, h2, h3]), (Below.refl _ _).alloc (Nat.le_refl _) _⟩

set_option maxHeartbeats 800000 in
theorem implRules_any (r s a : Int) (w : World) :
    Calls Try.prog 64 #[.agg #[.int .i64 r, .int .i64 s, .int .i64 a]] w fun e w' => e = .returned (.bool (rulesOk r s a)) ∧ Below w.heap.size w w' := by
  rcases Bool.eq_false_or_eq_true (inB r 1 1000) with h1 | h1
  rotate_left
  · skip
    go_enter Try.func64, Try.ntmps64
    go_wp2_with (go_at_call 48; refine (within_any _ _ _ _).mono ?_; rintro e w' ⟨rfl, rfl⟩)
    go_ret
    exact ⟨ret_bool (by simp [rulesOk, h1]), (Below.refl _ _).alloc (Nat.le_refl _) _⟩
  rcases Bool.eq_false_or_eq_true (inB s 1 10000) with h2 | h2
  rotate_left
  · skip
    go_enter Try.func64, Try.ntmps64
    go_wp2_with (go_at_call 48; refine (within_any _ _ _ _).mono ?_; rintro e w' ⟨rfl, rfl⟩)
    go_ret
    exact ⟨ret_bool (by simp [rulesOk, h1, h2]), (Below.refl _ _).alloc (Nat.le_refl _) _⟩
  rcases Bool.eq_false_or_eq_true (inB a 0 s) with h3 | h3
  rotate_left
  · skip
    go_enter Try.func64, Try.ntmps64
    go_wp2_with (go_at_call 48; refine (within_any _ _ _ _).mono ?_; rintro e w' ⟨rfl, rfl⟩)
    go_ret
    exact ⟨ret_bool (by simp [rulesOk, h1, h2, h3]), (Below.refl _ _).alloc (Nat.le_refl _) _⟩
  go_enter Try.func64, Try.ntmps64
  go_wp2_with (go_at_call 48; refine (within_any _ _ _ _).mono ?_; rintro e w' ⟨rfl, rfl⟩)
  go_ret
  exact ⟨ret_bool (by simp [rulesOk, h1, h2, h3]), (Below.refl _ _).alloc (Nat.le_refl _) _⟩

end Go.Proofs.Ytfbikieolepldab
