/-
  THE WALKS OF toPacket, of impl.PacketOk, spec.l1in, spec.PacketOk: all over one Bool function 'pkOk'.
-/
import Derived.Test.YtfbikieolepldaaRows
import Derived.WalkKit
import Derived.WalkSpells
import Derived.WalkLawsBesides
namespace Go.Proofs.Ytfbikieolepldaa
open Go.RowKit

/-- What chapter 1 says of a packet. -/
def pkOk (k v x s : Int) : Bool := decide ((0 ≤ v ∧ v ≤ 1000000000) ∧ (0 ≤ s ∧ s ≤ 1000000000)) && (decide (k = 1) || (decide (k = 2) && decide (x = 0)))
/-- Within two bounds. -/
def inB (x a b : Int) : Bool := decide (a ≤ x ∧ x ≤ b)

theorem ret_bool {a b : Bool} (h : a = b) : Ending.returned (.bool a) = .returned (.bool b) := by rw [h]

theorem ok_bad {k v x s : Int} (h : ¬ ((0 ≤ v ∧ v ≤ 1000000000) ∧ (0 ≤ s ∧ s ≤ 1000000000))) : pkOk k v x s = false := by
  unfold pkOk; rw [decide_eq_false h]; rfl
theorem ok_in {k v x s : Int} (h : ((0 ≤ v ∧ v ≤ 1000000000) ∧ (0 ≤ s ∧ s ≤ 1000000000))) : pkOk k v x s = (decide (k = 1) || (decide (k = 2) && decide (x = 0))) := by
  unfold pkOk; rw [decide_eq_true h]; rfl
theorem ok_two {k v x s : Int} (h : ((0 ≤ v ∧ v ≤ 1000000000) ∧ (0 ≤ s ∧ s ≤ 1000000000))) (h1 : ¬ k = 1) (h2 : k = 2) : (x == 0) = pkOk k v x s := by
  subst h2; rw [ok_in h]; rw [Bool.eq_iff_iff]; simp
theorem ok_one {k v x s : Int} (h : ((0 ≤ v ∧ v ≤ 1000000000) ∧ (0 ≤ s ∧ s ≤ 1000000000))) (h1 : k = 1) : true = pkOk k v x s := by
  subst h1; rw [ok_in h]; rfl
theorem ok_else {k v x s : Int} (h : ((0 ≤ v ∧ v ≤ 1000000000) ∧ (0 ≤ s ∧ s ≤ 1000000000))) (h1 : ¬ k = 1) (h2 : ¬ k = 2) : false = pkOk k v x s := by
  rw [ok_in h, decide_eq_false h1, decide_eq_false h2]; rfl
theorem inB_yes {x a b : Int} (h : a ≤ x ∧ x ≤ b) : inB x a b = true := by unfold inB; exact decide_eq_true h
theorem inB_no {x a b : Int} (h : ¬ (a ≤ x ∧ x ≤ b)) : inB x a b = false := by unfold inB; exact decide_eq_false h

set_option maxHeartbeats 400000 in
theorem toPacket_any (k v x s : Int) (w : World) :
    Calls Try.prog 22 #[.agg #[.int .i64 k, .int .i64 v, .int .i64 x, .int .i64 s]] w fun e w' => e = .returned (.agg #[.int .i64 k, .int .i64 v, .int .i64 x, .int .i64 s]) ∧ Below w.heap.size w w' := by
  go_enter Try.func22, Try.ntmps22
  go_wp2
  refine bodyPost_ret (v := .agg #[.int .i64 k, .int .i64 v, .int .i64 x, .int .i64 s]) (by simp [results, Try.results22, go_sem]) rfl ⟨rfl, ?_⟩
  exact (((Below.refl _ _).alloc (Nat.le_refl _) _).alloc (by simp) _).alloc (by simp; omega) _

set_option maxHeartbeats 400000 in
theorem implOk_any (k v x s : Int) (w : World) :
    Calls Try.prog 23 #[.agg #[.int .i64 k, .int .i64 v, .int .i64 x, .int .i64 s]] w fun e w' => e = .returned (.bool (pkOk k v x s)) ∧ Below w.heap.size w w' := by
  go_enter Try.func23, Try.ntmps23
  go_wp2
  all_goals go_ret
  all_goals refine ⟨ret_bool ?_, (Below.refl _ _).alloc (Nat.le_refl _) _⟩
  all_goals first | (rw [ok_bad (by omega)]; done) | (rw [ok_in (by omega)]; simp [*]; done) | (rw [ok_in (by omega), Bool.eq_iff_iff]; simp [*]; done)

set_option maxHeartbeats 400000 in
theorem l1in_any (x a b : Int) (w : World) :
    Calls Try.prog 59 #[.int .i64 x, .int .i64 a, .int .i64 b] w fun e w' => e = .returned (.bool (inB x a b)) ∧ w' = w := by
  have H : Hid (inB x a b = decide (a ≤ x ∧ x ≤ b)) := rfl
  go_enter Try.func59, Try.ntmps59
  go_wp2
  all_goals go_ret
  all_goals refine ⟨ret_bool ?_, rfl⟩
  all_goals rw [H.out]
  all_goals simp_all
  all_goals omega

set_option maxHeartbeats 800000 in
theorem specOk_any (k v x s : Int) (w : World) :
    Calls Try.prog 21 #[.agg #[.int .i64 k, .int .i64 v, .int .i64 x, .int .i64 s]] w fun e w' => e = .returned (.bool (pkOk k v x s)) ∧ Below w.heap.size w w' := by
  by_cases hv : 0 ≤ v ∧ v ≤ 1000000000
  · have iv : inB v 0 1000000000 = true := inB_yes hv
    by_cases hs : 0 ≤ s ∧ s ≤ 1000000000
    · have is : inB s 0 1000000000 = true := inB_yes hs
      go_enter Try.func21, Try.ntmps21
      go_wp2_with (go_at_call 59; refine (l1in_any _ _ _ _).mono ?_; rintro e w' ⟨rfl, rfl⟩)
      all_goals go_ret
      all_goals refine ⟨ret_bool ?_, (Below.refl _ _).alloc (Nat.le_refl _) _⟩
      all_goals first | (rw [ok_bad (by omega)]; done) | (rw [ok_in (by omega)]; simp [*]; done) | (rw [ok_in (by omega), Bool.eq_iff_iff]; simp [*]; done)
    · have is : inB s 0 1000000000 = false := inB_no hs
      go_enter Try.func21, Try.ntmps21
      go_wp2_with (go_at_call 59; refine (l1in_any _ _ _ _).mono ?_; rintro e w' ⟨rfl, rfl⟩)
      go_ret
      exact ⟨ret_bool (ok_bad (by omega)).symm, (Below.refl _ _).alloc (Nat.le_refl _) _⟩
  · have iv : inB v 0 1000000000 = false := inB_no hv
    go_enter Try.func21, Try.ntmps21
    go_wp2_with (go_at_call 59; refine (l1in_any _ _ _ _).mono ?_; rintro e w' ⟨rfl, rfl⟩)
    go_ret
    exact ⟨ret_bool (ok_bad (by omega)).symm, (Below.refl _ _).alloc (Nat.le_refl _) _⟩
end Go.Proofs.Ytfbikieolepldaa
