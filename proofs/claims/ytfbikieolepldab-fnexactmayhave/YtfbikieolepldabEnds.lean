/-
  THE WALKS OF toBox, toTrain, BoxOk, TrainOk (spec and impl): all over two Bool functions 'boxOk', 'trainOk'.
-/
import Derived.Test.YtfbikieolepldabRul
namespace Go.Proofs.Ytfbikieolepldab
open Go.RowKit

/-- What chapter 2 says of a box at a tick. -/
def boxOk (n v a s h : Int) : Bool := inB n 0 1000000000 && (inB v 0 1000000000 && (inB a 0 v && (inB s 0 n && inB h 0 n)))
/-- What chapter 2 says of a train at a tick. -/
def trainOk (n v t : Int) : Bool := inB n 0 1000000000 && (inB v 0 1000000000 && inB t 0 n)

set_option maxHeartbeats 400000 in
theorem toBox_any (a b c d f : Int) (w : World) :
    Calls Try.prog 12 #[.agg #[.int .i64 a, .int .i64 b, .int .i64 c, .int .i64 d, .int .i64 f]] w fun e w' => e = .returned (.agg #[.int .i64 a, .int .i64 b, .int .i64 c, .int .i64 d, .int .i64 f]) ∧ Below w.heap.size w w' := by
  go_enter Try.func12, Try.ntmps12
  go_wp2
  refine bodyPost_ret (v := .agg #[.int .i64 a, .int .i64 b, .int .i64 c, .int .i64 d, .int .i64 f]) (by simp [results, Try.results12, go_sem]) rfl ⟨rfl, ?_⟩
  exact (((Below.refl _ _).alloc (Nat.le_refl _) _).alloc (by simp) _).alloc (by simp; omega) _

set_option maxHeartbeats 400000 in
theorem toTrain_any (a b c : Int) (w : World) :
    Calls Try.prog 15 #[.agg #[.int .i64 a, .int .i64 b, .int .i64 c]] w fun e w' => e = .returned (.agg #[.int .i64 a, .int .i64 b, .int .i64 c]) ∧ Below w.heap.size w w' := by
  go_enter Try.func15, Try.ntmps15
  go_wp2
  refine bodyPost_ret (v := .agg #[.int .i64 a, .int .i64 b, .int .i64 c]) (by simp [results, Try.results15, go_sem]) rfl ⟨rfl, ?_⟩
  exact (((Below.refl _ _).alloc (Nat.le_refl _) _).alloc (by simp) _).alloc (by simp; omega) _

set_option maxHeartbeats 800000 in
theorem specBox_any (n v x a s h : Int) (w : World) :
    Calls Try.prog 11 #[.int .i64 n, .agg #[.int .i64 v, .int .i64 x, .int .i64 a, .int .i64 s, .int .i64 h]] w fun e w' => e = .returned (.bool (boxOk n v a s h)) ∧ Below w.heap.size w w' := by
  rcases Bool.eq_false_or_eq_true (inB n 0 1000000000) with h1 | h1
  rotate_left
  · skip
    go_enter Try.func11, Try.ntmps11
    go_wp2_with (go_at_call 47; refine (l1in_any _ _ _ _).mono ?_; rintro e w' ⟨rfl, rfl⟩)
    go_ret
    exact ⟨ret_bool (by simp [boxOk, h1]), (Below.refl _ _).alloc (Nat.le_refl _) _⟩
  rcases Bool.eq_false_or_eq_true (inB v 0 1000000000) with h2 | h2
  rotate_left
  · skip
    go_enter Try.func11, Try.ntmps11
    go_wp2_with (go_at_call 47; refine (l1in_any _ _ _ _).mono ?_; rintro e w' ⟨rfl, rfl⟩)
    go_ret
    exact ⟨ret_bool (by simp [boxOk, h1, h2]), (Below.refl _ _).alloc (Nat.le_refl _) _⟩
  rcases Bool.eq_false_or_eq_true (inB a 0 v) with h3 | h3
  rotate_left
  · skip
    go_enter Try.func11, Try.ntmps11
    go_wp2_with (go_at_call 47; refine (l1in_any _ _ _ _).mono ?_; rintro e w' ⟨rfl, rfl⟩)
    go_ret
    exact ⟨ret_bool (by simp [boxOk, h1, h2, h3]), (Below.refl _ _).alloc (Nat.le_refl _) _⟩
  rcases Bool.eq_false_or_eq_true (inB s 0 n) with h4 | h4
  rotate_left
  · skip
    go_enter Try.func11, Try.ntmps11
    go_wp2_with (go_at_call 47; refine (l1in_any _ _ _ _).mono ?_; rintro e w' ⟨rfl, rfl⟩)
    go_ret
    exact ⟨ret_bool (by simp [boxOk, h1, h2, h3, h4]), (Below.refl _ _).alloc (Nat.le_refl _) _⟩
  rcases Bool.eq_false_or_eq_true (inB h 0 n) with h5 | h5
  rotate_left
  · skip
    go_enter Try.func11, Try.ntmps11
    go_wp2_with (go_at_call 47; refine (l1in_any _ _ _ _).mono ?_; rintro e w' ⟨rfl, rfl⟩)
    go_ret
    exact ⟨ret_bool (by simp [boxOk, h1, h2, h3, h4, h5]), (Below.refl _ _).alloc (Nat.le_refl _) _⟩
  go_enter Try.func11, Try.ntmps11
  go_wp2_with (go_at_call 47; refine (l1in_any _ _ _ _).mono ?_; rintro e w' ⟨rfl, rfl⟩)
  go_ret
  exact ⟨ret_bool (by simp [boxOk, h1, h2, h3, h4, h5]), (Below.refl _ _).alloc (Nat.le_refl _) _⟩

set_option maxHeartbeats 800000 in
theorem implBox_any (n v x a s h : Int) (w : World) :
    Calls Try.prog 13 #[.int .i64 n, .agg #[.int .i64 v, .int .i64 x, .int .i64 a, .int .i64 s, .int .i64 h]] w fun e w' => e = .returned (.bool (boxOk n v a s h)) ∧ Below w.heap.size w w' := by
  rcases Bool.eq_false_or_eq_true (inB n 0 1000000000) with h1 | h1
  rotate_left
  · skip
    go_enter Try.func13, Try.ntmps13
    go_wp2_with (go_at_call 48; refine (within_any _ _ _ _).mono ?_; rintro e w' ⟨rfl, rfl⟩)
    go_ret
    exact ⟨ret_bool (by simp [boxOk, h1]), (Below.refl _ _).alloc (Nat.le_refl _) _⟩
  rcases Bool.eq_false_or_eq_true (inB v 0 1000000000) with h2 | h2
  rotate_left
  · skip
    go_enter Try.func13, Try.ntmps13
    go_wp2_with (go_at_call 48; refine (within_any _ _ _ _).mono ?_; rintro e w' ⟨rfl, rfl⟩)
    go_ret
    exact ⟨ret_bool (by simp [boxOk, h1, h2]), (Below.refl _ _).alloc (Nat.le_refl _) _⟩
  rcases Bool.eq_false_or_eq_true (inB a 0 v) with h3 | h3
  rotate_left
  · skip
    go_enter Try.func13, Try.ntmps13
    go_wp2_with (go_at_call 48; refine (within_any _ _ _ _).mono ?_; rintro e w' ⟨rfl, rfl⟩)
    go_ret
    exact ⟨ret_bool (by simp [boxOk, h1, h2, h3]), (Below.refl _ _).alloc (Nat.le_refl _) _⟩
  rcases Bool.eq_false_or_eq_true (inB s 0 n) with h4 | h4
  rotate_left
  · skip
    go_enter Try.func13, Try.ntmps13
    go_wp2_with (go_at_call 48; refine (within_any _ _ _ _).mono ?_; rintro e w' ⟨rfl, rfl⟩)
    go_ret
    exact ⟨ret_bool (by simp [boxOk, h1, h2, h3, h4]), (Below.refl _ _).alloc (Nat.le_refl _) _⟩
  rcases Bool.eq_false_or_eq_true (inB h 0 n) with h5 | h5
  rotate_left
  · skip
    go_enter Try.func13, Try.ntmps13
    go_wp2_with (go_at_call 48; refine (within_any _ _ _ _).mono ?_; rintro e w' ⟨rfl, rfl⟩)
    go_ret
    exact ⟨ret_bool (by simp [boxOk, h1, h2, h3, h4, h5]), (Below.refl _ _).alloc (Nat.le_refl _) _⟩
  go_enter Try.func13, Try.ntmps13
  go_wp2_with (go_at_call 48; refine (within_any _ _ _ _).mono ?_; rintro e w' ⟨rfl, rfl⟩)
  go_ret
  exact ⟨ret_bool (by simp [boxOk, h1, h2, h3, h4, h5]), (Below.refl _ _).alloc (Nat.le_refl _) _⟩

set_option maxHeartbeats 800000 in
theorem specTrain_any (n v x s : Int) (w : World) :
    Calls Try.prog 14 #[.int .i64 n, .agg #[.int .i64 v, .int .i64 x, .int .i64 s]] w fun e w' => e = .returned (.bool (trainOk n v s)) ∧ Below w.heap.size w w' := by
  rcases Bool.eq_false_or_eq_true (inB n 0 1000000000) with h1 | h1
  rotate_left
  · skip
    go_enter Try.func14, Try.ntmps14
    go_wp2_with (go_at_call 47; refine (l1in_any _ _ _ _).mono ?_; rintro e w' ⟨rfl, rfl⟩)
    go_ret
    exact ⟨ret_bool (by simp [trainOk, h1]), (Below.refl _ _).alloc (Nat.le_refl _) _⟩
  rcases Bool.eq_false_or_eq_true (inB v 0 1000000000) with h2 | h2
  rotate_left
  · skip
    go_enter Try.func14, Try.ntmps14
    go_wp2_with (go_at_call 47; refine (l1in_any _ _ _ _).mono ?_; rintro e w' ⟨rfl, rfl⟩)
    go_ret
    exact ⟨ret_bool (by simp [trainOk, h1, h2]), (Below.refl _ _).alloc (Nat.le_refl _) _⟩
  rcases Bool.eq_false_or_eq_true (inB s 0 n) with h3 | h3
  rotate_left
  · skip
    go_enter Try.func14, Try.ntmps14
    go_wp2_with (go_at_call 47; refine (l1in_any _ _ _ _).mono ?_; rintro e w' ⟨rfl, rfl⟩)
    go_ret
    exact ⟨ret_bool (by simp [trainOk, h1, h2, h3]), (Below.refl _ _).alloc (Nat.le_refl _) _⟩
  go_enter Try.func14, Try.ntmps14
  go_wp2_with (go_at_call 47; refine (l1in_any _ _ _ _).mono ?_; rintro e w' ⟨rfl, rfl⟩)
  go_ret
  exact ⟨ret_bool (by simp [trainOk, h1, h2, h3]), (Below.refl _ _).alloc (Nat.le_refl _) _⟩

set_option maxHeartbeats 800000 in
theorem implTrain_any (n v x s : Int) (w : World) :
    Calls Try.prog 16 #[.int .i64 n, .agg #[.int .i64 v, .int .i64 x, .int .i64 s]] w fun e w' => e = .returned (.bool (trainOk n v s)) ∧ Below w.heap.size w w' := by
  rcases Bool.eq_false_or_eq_true (inB n 0 1000000000) with h1 | h1
  rotate_left
  · skip
    go_enter Try.func16, Try.ntmps16
    go_wp2_with (go_at_call 48; refine (within_any _ _ _ _).mono ?_; rintro e w' ⟨rfl, rfl⟩)
    go_ret
    exact ⟨ret_bool (by simp [trainOk, h1]), (Below.refl _ _).alloc (Nat.le_refl _) _⟩
  rcases Bool.eq_false_or_eq_true (inB v 0 1000000000) with h2 | h2
  rotate_left
  · skip
    go_enter Try.func16, Try.ntmps16
    go_wp2_with (go_at_call 48; refine (within_any _ _ _ _).mono ?_; rintro e w' ⟨rfl, rfl⟩)
    go_ret
    exact ⟨ret_bool (by simp [trainOk, h1, h2]), (Below.refl _ _).alloc (Nat.le_refl _) _⟩
  rcases Bool.eq_false_or_eq_true (inB s 0 n) with h3 | h3
  rotate_left
  · skip
    go_enter Try.func16, Try.ntmps16
    go_wp2_with (go_at_call 48; refine (within_any _ _ _ _).mono ?_; rintro e w' ⟨rfl, rfl⟩)
    go_ret
    exact ⟨ret_bool (by simp [trainOk, h1, h2, h3]), (Below.refl _ _).alloc (Nat.le_refl _) _⟩
  go_enter Try.func16, Try.ntmps16
  go_wp2_with (go_at_call 48; refine (within_any _ _ _ _).mono ?_; rintro e w' ⟨rfl, rfl⟩)
  go_ret
  exact ⟨ret_bool (by simp [trainOk, h1, h2, h3]), (Below.refl _ _).alloc (Nat.le_refl _) _⟩

end Go.Proofs.Ytfbikieolepldab
