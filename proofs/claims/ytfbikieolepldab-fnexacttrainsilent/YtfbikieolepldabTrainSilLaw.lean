/-
  THE LAW FnExactTrainSilent: its walk out of the contracts, and its row.
-/
import Derived.Test.YtfbikieolepldabSilent
import Derived.Test.YtfbikieolepldabAgg
import Derived.Deep.RegionHeld3
import Derived.ShutString
namespace Go.Proofs.Ytfbikieolepldab
open Go.ChangeShapes Go.WideShapes Go.ChangeAt Go.RowKit Go.Joins

set_option maxHeartbeats 1600000 in
theorem exactTrainSil_any (e l g n v x s : Int) (w : World) :
    Calls Try.prog 8 #[.agg #[.int .i64 e, .int .i64 l, .int .i64 g], .int .i64 n, .agg #[.int .i64 v, .int .i64 x, .int .i64 s]] w fun r w' => r = .returned (.bool true) ∧ Below w.heap.size w w' := by
  have HS : Hid (∀ W, Below ((w.alloc (.cells #[.int .i64 e, .int .i64 l, .int .i64 g] 35)).alloc (.cells #[.int .i64 v, .int .i64 x, .int .i64 s] 29)).heap.size ((w.alloc (.cells #[.int .i64 e, .int .i64 l, .int .i64 g] 35)).alloc (.cells #[.int .i64 v, .int .i64 x, .int .i64 s] 29)) W → W.cell? ⟨w.heap.size, 0, none⟩ = some (.int .i64 e) ∧ W.cell? ⟨w.heap.size, 1, none⟩ = some (.int .i64 l) ∧ W.cell? ⟨w.heap.size, 2, none⟩ = some (.int .i64 g) ∧ W.cell? ⟨w.heap.size + 1, 0, none⟩ = some (.int .i64 v) ∧ W.cell? ⟨w.heap.size + 1, 1, none⟩ = some (.int .i64 x) ∧ W.cell? ⟨w.heap.size + 1, 2, none⟩ = some (.int .i64 s)) := fun W hW => two33 (by simpa only [World.size_alloc] using hW)
  have hne : (trainSil e l g n v s != trainSil e l g n v s) = false := by simp
  go_enter Try.func8, Try.ntmps8
  go_wp2_with fail
  go_region_held3 (fun W => W.cell? ⟨w.heap.size, 0, none⟩ = some (.int .i64 e) ∧ W.cell? ⟨w.heap.size, 1, none⟩ = some (.int .i64 l) ∧ W.cell? ⟨w.heap.size, 2, none⟩ = some (.int .i64 g) ∧ W.cell? ⟨w.heap.size + 1, 0, none⟩ = some (.int .i64 v) ∧ W.cell? ⟨w.heap.size + 1, 1, none⟩ = some (.int .i64 x) ∧ W.cell? ⟨w.heap.size + 1, 2, none⟩ = some (.int .i64 s)) (first | exact HS.out _ hbl3 | exact HS.out _ hbl2 | exact HS.out _ hbl1 | exact HS.out _ ((Below.refl ((w.alloc (.cells #[.int .i64 e, .int .i64 l, .int .i64 g] 35)).alloc (.cells #[.int .i64 v, .int .i64 x, .int .i64 s] 29)).heap.size ((w.alloc (.cells #[.int .i64 e, .int .i64 l, .int .i64 g] 35)).alloc (.cells #[.int .i64 v, .int .i64 x, .int .i64 s] 29))).drew)) (first | (go_at_call 37; refine (specTrainSil_any _ _ _ _ _ _ _ _).mono ?_; rintro _ w3 ⟨rfl, hb3⟩; have hbl3 : Below ((w.alloc (.cells #[.int .i64 e, .int .i64 l, .int .i64 g] 35)).alloc (.cells #[.int .i64 v, .int .i64 x, .int .i64 s] 29)).heap.size ((w.alloc (.cells #[.int .i64 e, .int .i64 l, .int .i64 g] 35)).alloc (.cells #[.int .i64 v, .int .i64 x, .int .i64 s] 29)) w3 := (hbl2).trans (hb3.mono (hbl2).size)) | (go_at_call 19; refine (toRules_any _ _ _ _).mono ?_; rintro _ w2 ⟨rfl, hb2⟩; have hbl2 : Below ((w.alloc (.cells #[.int .i64 e, .int .i64 l, .int .i64 g] 35)).alloc (.cells #[.int .i64 v, .int .i64 x, .int .i64 s] 29)).heap.size ((w.alloc (.cells #[.int .i64 e, .int .i64 l, .int .i64 g] 35)).alloc (.cells #[.int .i64 v, .int .i64 x, .int .i64 s] 29)) w2 := (hbl1).trans (hb2.mono (hbl1).size)) | (go_at_call 19; refine (toRules_any _ _ _ _).mono ?_; rintro _ w1 ⟨rfl, hb1⟩; have hbl1 : Below ((w.alloc (.cells #[.int .i64 e, .int .i64 l, .int .i64 g] 35)).alloc (.cells #[.int .i64 v, .int .i64 x, .int .i64 s] 29)).heap.size ((w.alloc (.cells #[.int .i64 e, .int .i64 l, .int .i64 g] 35)).alloc (.cells #[.int .i64 v, .int .i64 x, .int .i64 s] 29)) w1 := ((Below.refl ((w.alloc (.cells #[.int .i64 e, .int .i64 l, .int .i64 g] 35)).alloc (.cells #[.int .i64 v, .int .i64 x, .int .i64 s] 29)).heap.size ((w.alloc (.cells #[.int .i64 e, .int .i64 l, .int .i64 g] 35)).alloc (.cells #[.int .i64 v, .int .i64 x, .int .i64 s] 29))).drew).trans (hb1.mono ((Below.refl ((w.alloc (.cells #[.int .i64 e, .int .i64 l, .int .i64 g] 35)).alloc (.cells #[.int .i64 v, .int .i64 x, .int .i64 s] 29)).heap.size ((w.alloc (.cells #[.int .i64 e, .int .i64 l, .int .i64 g] 35)).alloc (.cells #[.int .i64 v, .int .i64 x, .int .i64 s] 29))).drew).size)) | (go_at_call 15; refine (toTrain_any _ _ _ _).mono ?_; rintro _ w2 ⟨rfl, hb2⟩; have hbl2 : Below ((w.alloc (.cells #[.int .i64 e, .int .i64 l, .int .i64 g] 35)).alloc (.cells #[.int .i64 v, .int .i64 x, .int .i64 s] 29)).heap.size ((w.alloc (.cells #[.int .i64 e, .int .i64 l, .int .i64 g] 35)).alloc (.cells #[.int .i64 v, .int .i64 x, .int .i64 s] 29)) w2 := (hbl1).trans (hb2.mono (hbl1).size)) | (go_at_call 15; refine (toTrain_any _ _ _ _).mono ?_; rintro _ w1 ⟨rfl, hb1⟩; have hbl1 : Below ((w.alloc (.cells #[.int .i64 e, .int .i64 l, .int .i64 g] 35)).alloc (.cells #[.int .i64 v, .int .i64 x, .int .i64 s] 29)).heap.size ((w.alloc (.cells #[.int .i64 e, .int .i64 l, .int .i64 g] 35)).alloc (.cells #[.int .i64 v, .int .i64 x, .int .i64 s] 29)) w1 := ((Below.refl ((w.alloc (.cells #[.int .i64 e, .int .i64 l, .int .i64 g] 35)).alloc (.cells #[.int .i64 v, .int .i64 x, .int .i64 s] 29)).heap.size ((w.alloc (.cells #[.int .i64 e, .int .i64 l, .int .i64 g] 35)).alloc (.cells #[.int .i64 v, .int .i64 x, .int .i64 s] 29))).drew).trans (hb1.mono ((Below.refl ((w.alloc (.cells #[.int .i64 e, .int .i64 l, .int .i64 g] 35)).alloc (.cells #[.int .i64 v, .int .i64 x, .int .i64 s] 29)).heap.size ((w.alloc (.cells #[.int .i64 e, .int .i64 l, .int .i64 g] 35)).alloc (.cells #[.int .i64 v, .int .i64 x, .int .i64 s] 29))).drew).size)))
  all_goals (clear hb1 hb2 hb3 hbl1 hbl2; go_wp2_with fail)
  all_goals go_region_held3 (fun W => W.cell? ⟨w.heap.size, 0, none⟩ = some (.int .i64 e) ∧ W.cell? ⟨w.heap.size, 1, none⟩ = some (.int .i64 l) ∧ W.cell? ⟨w.heap.size, 2, none⟩ = some (.int .i64 g) ∧ W.cell? ⟨w.heap.size + 1, 0, none⟩ = some (.int .i64 v) ∧ W.cell? ⟨w.heap.size + 1, 1, none⟩ = some (.int .i64 x) ∧ W.cell? ⟨w.heap.size + 1, 2, none⟩ = some (.int .i64 s)) (first | exact HS.out _ hbl6 | exact HS.out _ hbl5 | exact HS.out _ hbl4 | exact HS.out _ (hbl3.drew)) (first | (go_at_call 38; refine (implTrainSil_any _ _ _ _ _ _ _ _).mono ?_; rintro _ w6 ⟨rfl, hb6⟩; have hbl6 : Below ((w.alloc (.cells #[.int .i64 e, .int .i64 l, .int .i64 g] 35)).alloc (.cells #[.int .i64 v, .int .i64 x, .int .i64 s] 29)).heap.size ((w.alloc (.cells #[.int .i64 e, .int .i64 l, .int .i64 g] 35)).alloc (.cells #[.int .i64 v, .int .i64 x, .int .i64 s] 29)) w6 := (hbl5).trans (hb6.mono (hbl5).size)) | (go_at_call 19; refine (toRules_any _ _ _ _).mono ?_; rintro _ w5 ⟨rfl, hb5⟩; have hbl5 : Below ((w.alloc (.cells #[.int .i64 e, .int .i64 l, .int .i64 g] 35)).alloc (.cells #[.int .i64 v, .int .i64 x, .int .i64 s] 29)).heap.size ((w.alloc (.cells #[.int .i64 e, .int .i64 l, .int .i64 g] 35)).alloc (.cells #[.int .i64 v, .int .i64 x, .int .i64 s] 29)) w5 := (hbl4).trans (hb5.mono (hbl4).size)) | (go_at_call 19; refine (toRules_any _ _ _ _).mono ?_; rintro _ w4 ⟨rfl, hb4⟩; have hbl4 : Below ((w.alloc (.cells #[.int .i64 e, .int .i64 l, .int .i64 g] 35)).alloc (.cells #[.int .i64 v, .int .i64 x, .int .i64 s] 29)).heap.size ((w.alloc (.cells #[.int .i64 e, .int .i64 l, .int .i64 g] 35)).alloc (.cells #[.int .i64 v, .int .i64 x, .int .i64 s] 29)) w4 := (hbl3.drew).trans (hb4.mono (hbl3.drew).size)) | (go_at_call 15; refine (toTrain_any _ _ _ _).mono ?_; rintro _ w5 ⟨rfl, hb5⟩; have hbl5 : Below ((w.alloc (.cells #[.int .i64 e, .int .i64 l, .int .i64 g] 35)).alloc (.cells #[.int .i64 v, .int .i64 x, .int .i64 s] 29)).heap.size ((w.alloc (.cells #[.int .i64 e, .int .i64 l, .int .i64 g] 35)).alloc (.cells #[.int .i64 v, .int .i64 x, .int .i64 s] 29)) w5 := (hbl4).trans (hb5.mono (hbl4).size)) | (go_at_call 15; refine (toTrain_any _ _ _ _).mono ?_; rintro _ w4 ⟨rfl, hb4⟩; have hbl4 : Below ((w.alloc (.cells #[.int .i64 e, .int .i64 l, .int .i64 g] 35)).alloc (.cells #[.int .i64 v, .int .i64 x, .int .i64 s] 29)).heap.size ((w.alloc (.cells #[.int .i64 e, .int .i64 l, .int .i64 g] 35)).alloc (.cells #[.int .i64 v, .int .i64 x, .int .i64 s] 29)) w4 := (hbl3.drew).trans (hb4.mono (hbl3.drew).size)))
  all_goals (clear hb4 hb5 hb6 hbl4 hbl5; go_wp2; go_ret)
  all_goals exact ⟨rfl, two_below (by simpa only [World.size_alloc] using hbl6)⟩

namespace trainSilRow
theorem own : ownKnob Try.prog.godebug = none := by kernel_rfl

set_option maxRecDepth 100000 in
theorem lifted (os : Os) (started : os.Started) (H : Type) (enc : TypeId × Value → H) :
    ReturnsInHanded {} Try.checked os 8 .any (Rows.fnExactTrainSilentSpec.pre6 enc Try.prog Try.f8 Rows.fnExactTrainSilentRow.domain false) (Rows.fnExactTrainSilentSpec.post enc Try.prog Try.f8 false true false false) := by
  refine returnsInHanded_of_change (C := Try.checked) own started (by kernel_rfl) Try.func8
    (ChangeSpec.witness6 (enc := enc) (C := Try.checked) false ⟨#[], #[.agg #[.int .i64 0, .int .i64 0, .int .i64 0], .int .i64 0, .agg #[.int .i64 0, .int .i64 0, .int .i64 0]], []⟩ 8 (by kernel_rfl) (by kernel_rfl) (by kernel_rfl) (by kernel_rfl)) ?_
  intro W base args ds gs before hval0 hW hcnd _
  have hval : ∀ (j : Nat) t v, Try.f8.params[j]? = some t → args[j]? = some v → Value.okWide Try.prog W .any base t v := hval0
  have hW' := hW
  obtain ⟨p, q, hA0, hV, rfl, hfz, hnd⟩ := hW
  have hA : DataW.TrodAll enc Try.prog W 0 (fun _ => true) true Try.f8.params.toList args.toList ds p := hA0
  rw [Try.params8] at hA hval
  obtain ⟨v0, v1, v2, d0, d1, d2, p0, p1, p2, rfl, rfl, rfl, h0, h1, h2⟩ := trodAll_three hA
  obtain ⟨rfl, rfl⟩ := trodVars_none hV
  obtain ⟨a, b, c, rfl, rfl, r0⟩ := open_ints3 Try.underlying35 (by kernel_rfl) (by kernel_rfl) Try.underlying3 Try.underlying3 Try.underlying3 (hval 0 35 v0 rfl rfl) h0
  obtain ⟨n, rfl, rfl, rfl, w1⟩ := open_int Try.underlying3 (hval 1 3 v1 rfl rfl) h1
  obtain ⟨v, x, s, rfl, rfl, r2⟩ := open_ints3 Try.underlying29 (by kernel_rfl) (by kernel_rfl) Try.underlying3 Try.underlying2 Try.underlying3 (hval 2 29 v2 rfl rfl) h2
  clear hA0 hval0
  simp only [List.append_nil] at hW'
  refine (exactTrainSil_any a b c n v x s W).mono fun e W' ⟨he, bel⟩ => ?_
  subst he
  exact ⟨_, rfl, _, _, _, [], [], [], hW', trodAll_mk1 (shut_bool Try.underlying4 _), trodAll_mk3 (r0 _ _ _ _) (shut_int Try.underlying3 w1) (r2 _ _ _ _), rfl, bel.frame _, fun h => by cases h⟩
end trainSilRow

theorem exactTrainSilent_holds : Rows.FnExactTrainSilentSaid :=
  OpenClaim.holds_of_wide 8 Try.f8 rfl rfl rfl rfl rfl rfl rfl ⟨rfl, rfl, rfl, rfl, rfl⟩ rfl rfl rfl rfl rfl (by kernel_rfl) Try.func8 (by kernel_rfl)
    (of_decide_eq_true (by kernel_rfl)) (by unfold Func.isWrapper; first | (rw [if_pos (by decide +kernel)]; kernel_rfl) | (rw [if_neg (by decide +kernel)]; exact ⟨rfl, rfl⟩))
    (fun os started H enc _ => trainSilRow.lifted os started H enc)
#print axioms exactTrainSilent_holds
end Go.Proofs.Ytfbikieolepldab
