/-
  THE LAW FnExactStood: its walk out of the contracts, and its row.
-/
import Derived.Test.YtfbikieolepldabSets
import Derived.ProofKit
import Derived.OpenShut
import Derived.ShutString
import Derived.ChangeOld
import Derived.Deep.SlicePairs
namespace Go.Proofs.Ytfbikieolepldab
open Go.ChangeShapes Go.WideShapes Go.ChangeAt Go.RowKit

set_option maxHeartbeats 400000 in
theorem exactStood_any (a : Option Addr) (cap : Nat) (zs : List (Int × Int)) (v : Int) (w : World) (hm : zs.length ≤ 9223372036854775807) (hP : Pairs w a zs) :
    Calls Try.prog 10 #[.slice a zs.length cap, .int .i64 v] w fun e w' => e = .returned (.bool true) ∧ Below w.heap.size w w' := by
  by_cases hn : zs.length ≤ 1048576
  · have H0 : Hid ((if zs.length ≤ 1048576 then (1048576 : Int) - zs.length else -1) = 1048576 - zs.length) := if_pos hn
    go_enter Try.func10, Try.ntmps10
    go_wp2_with fail
    refine (szSetS_any a _ cap w hm).mono ?_
    rintro e w0 ⟨rfl, hw0⟩
    rw [hw0, H0.out]
    clear hw0
    go_wp2_with fail
    refine (toSetS_any a cap zs w hn hP).mono ?_
    rintro e w1 ⟨rfl, hb1, ho1⟩
    go_wp2_with fail
    refine (specStood_any _ _ zs v _ hn ho1.pairs).mono ?_
    rintro e w2 ⟨rfl, hw2⟩
    rw [hw2]
    clear hw2
    go_wp2_with fail
    refine (toSetS_any a cap zs w1 hn (hP.below hb1)).mono ?_
    rintro e w3 ⟨rfl, hb3, ho3⟩
    go_wp2_with fail
    refine (implStood_any _ _ zs v _ hn ho3.pairs).mono ?_
    rintro e w4 ⟨rfl, hw4⟩
    rw [hw4]
    clear hw4
    have hne : (stoodOf zs v != stoodOf zs v) = false := by simp
    have hb13 := hb1.trans (hb3.mono hb1.size)
    go_wp2_with fail
    refine (toSetS_any a cap zs w3 hn (hP.below hb13)).mono ?_
    rintro e w5 ⟨rfl, hb5, ho5⟩
    have hb15 := hb13.trans (hb5.mono hb13.size)
    go_wp2_with fail
    refine (eqSetS_any _ _ _ _ zs w5 hn (ho3.pairs.below hb5) ho5.pairs).mono ?_
    rintro e w6 ⟨rfl, hb6⟩
    go_wp2
    go_ret
    exact ⟨rfl, hb15.trans (hb6.mono hb15.size)⟩
  · have H0 : Hid ((if zs.length ≤ 1048576 then (1048576 : Int) - zs.length else -1) = -1) := if_neg hn
    go_enter Try.func10, Try.ntmps10
    go_wp2_with fail
    refine (szSetS_any a _ cap w hm).mono ?_
    rintro e w0 ⟨rfl, hw0⟩
    rw [hw0, H0.out]
    clear hw0
    go_wp2
    go_ret
    exact ⟨rfl, Below.refl _ _⟩

/-- The pairs of a slice that came in. -/
theorem pairs_open {H : Type} {enc : TypeId × Value → H} {W : World} {a : Option Addr} {len cap : Nat} {d : DataW H} {ps : List MemPlace}
    (h0 : DataW.Trod enc Try.prog W 0 (fun _ => true) true 69 (.slice a len cap) d ps) : ∃ zs : List (Int × Int), zs.length = len ∧ len ≤ 9223372036854775807 ∧ Pairs W a zs := by
  obtain ⟨fuel, hf⟩ := h0
  rcases Go.Deep.open_slice_pairs Try.underlying69 Try.underlying105 (by kernel_rfl) rfl rfl (by kernel_rfl) (by kernel_rfl) hf with ⟨hcs, _⟩ | ⟨x, l, c, m, n, V0, V1, D0, D1, P0, P1, hcs, _, hl, hm, hmm, _, hx⟩
  · simp [Value.cells] at hcs
    obtain ⟨rfl, rfl, rfl⟩ := hcs
    exact ⟨[], rfl, by omega, .inl rfl⟩
  · simp [Value.cells] at hcs
    obtain ⟨rfl, rfl, rfl⟩ := hcs
    unfold maxLen at hm
    have hmc : m = cap := by simpa using hmm
    have each : ∀ i, i < len → ∃ z : Int × Int, W.cell? (x.add (i * 2)) = some (.int .i64 z.1) ∧ W.cell? (x.add (i * 2 + 1)) = some (.int .i64 z.2) := by
      intro i hi
      obtain ⟨c0, c1, r0, r1⟩ := hx i (by omega)
      obtain ⟨z0, g0, _⟩ := DataW.trod_int Try.underlying3 r0
      obtain ⟨z1, g1, _⟩ := DataW.trod_int Try.underlying2 r1
      simp at g0 g1
      rw [g0] at c0
      rw [g1] at c1
      exact ⟨(z0, z1), c0, c1⟩
    obtain ⟨z, hz⟩ := Go.Deep.choose_lt each
    refine ⟨(List.range len).map z, by simp, by omega, ?_⟩
    by_cases hl0 : len = 0
    · left; rw [hl0]; rfl
    · right
      obtain ⟨b, off, spot⟩ := x
      have hc0 := (hz 0 (by omega)).1
      have hspot : spot = none := by simpa [Addr.add] using World.cell?_spot hc0
      subst hspot
      refine ⟨b, off, rfl, World.block_lt_of_cell? W _ hc0, fun i hi => ?_⟩
      simp at hi
      have e : ((List.range len).map z).getD i (0, 0) = z i := by simp [List.getD_eq_getElem?_getD, hi]
      rw [e]
      have h1 := (hz i hi).1
      have h2 := (hz i hi).2
      rw [add_plain] at h1 h2
      exact ⟨h1, h2⟩

namespace FnExactStoodRow
theorem own : ownKnob Try.prog.godebug = none := by kernel_rfl
theorem laidOut : laidOutB Try.prog = true := by kernel_rfl

set_option maxRecDepth 100000 in
theorem lifted (os : Os) (started : os.Started) (H : Type) (enc : TypeId × Value → H) :
    ReturnsInHanded {} Try.checked os 10 .any (Rows.fnExactStoodSpec.pre6 enc Try.prog Try.f10 Rows.fnExactStoodRow.domain false) (Rows.fnExactStoodSpec.post enc Try.prog Try.f10 false true false false) := by
  refine returnsInHanded_of_change (C := Try.checked) own started (by kernel_rfl) Try.func10
    (ChangeSpec.witness6 (enc := enc) (C := Try.checked) false ⟨#[], #[.slice none 0 0, .int .i64 0], []⟩ 8 (by kernel_rfl) (by kernel_rfl) (by kernel_rfl) (by kernel_rfl)) ?_
  intro W base args ds gs before hval0 hW hcnd _
  have hval : ∀ (j : Nat) t v, Try.f10.params[j]? = some t → args[j]? = some v → Value.okWide Try.prog W .any base t v := hval0
  have hW' := hW
  obtain ⟨p, q, hA0, hV, rfl, hfz, hnd⟩ := hW
  have hA : DataW.TrodAll enc Try.prog W 0 (fun _ => true) true Try.f10.params.toList args.toList ds p := hA0
  rw [Try.params10] at hA hval
  obtain ⟨v0, v1, d0, d1, p0, p1, rfl, rfl, rfl, h0, h1⟩ := trodAll_two hA
  obtain ⟨rfl, rfl⟩ := trodVars_none hV
  obtain ⟨a0, len0, cap0, rfl⟩ := okWide_slice Try.underlying69 (hval 0 69 v0 rfl rfl)
  obtain ⟨n, rfl, rfl, rfl, w0⟩ := open_int Try.underlying3 (hval 1 3 v1 rfl rfl) h1
  have lt0 : ∀ x ∈ p0, x.block < W.heap.size := by obtain ⟨m, hm⟩ := h0; exact DataW.trod_lt m _ _ _ hm
  obtain ⟨zs, rfl, hm, hB⟩ := pairs_open h0
  clear hA0 hval0
  refine (exactStood_any a0 cap0 zs n W hm hB).mono fun e W' ⟨he, bel⟩ => ?_
  subst he
  exact ⟨_, rfl, _, _, _, [], p0 ++ [], [], hW', trodAll_mk1 (shut_bool Try.underlying4 _), trodAll_mk2 (Below.trod laidOut (by kernel_rfl) (of_decide_eq_true (by kernel_rfl)) h0 bel lt0) (shut_int Try.underlying3 w0), rfl, bel.frame _, fun h => by cases h⟩
end FnExactStoodRow

theorem exactStood_holds : Rows.FnExactStoodSaid :=
  OpenClaim.holds_of_wide 10 Try.f10 rfl rfl rfl rfl rfl rfl rfl ⟨rfl, rfl, rfl, rfl, rfl⟩ rfl rfl rfl rfl rfl (by kernel_rfl) Try.func10 (by kernel_rfl)
    (of_decide_eq_true (by kernel_rfl)) (by unfold Func.isWrapper; first | (rw [if_pos (by decide +kernel)]; kernel_rfl) | (rw [if_neg (by decide +kernel)]; exact ⟨rfl, rfl⟩))
    (fun os started H enc _ => FnExactStoodRow.lifted os started H enc)
#print axioms exactStood_holds
end Go.Proofs.Ytfbikieolepldab
