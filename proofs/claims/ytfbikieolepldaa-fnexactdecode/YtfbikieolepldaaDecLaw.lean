/-
  THE LAW FnExactDecode: its walk out of the contracts, and its row.
-/
import Derived.Test.YtfbikieolepldaaDec
import Derived.Test.YtfbikieolepldaaRowB
namespace Go.Proofs.Ytfbikieolepldaa
open Go.ChangeShapes Go.WideShapes Go.ChangeAt Go.RowKit

/-- What Decode says of bytes, however many. -/
def decS (zs : List Int) : Value := if zs.length = 24 then decV zs else (.agg #[.int .i64 0, .int .i64 0, .int .i64 0, .int .i64 0])
theorem decS_form (zs : List Int) : ∃ k v x s : Int, decS zs = .agg #[.int .i64 k, .int .i64 v, .int .i64 x, .int .i64 s] := by
  unfold decS
  split
  · unfold decV
    split
    · exact ⟨_, _, _, _, rfl⟩
    · exact ⟨0, 0, 0, 0, rfl⟩
  · exact ⟨0, 0, 0, 0, rfl⟩
theorem implDec_own (g : Nat) (zs : List Int) (w : World) (hm : zs.length ≤ 1048576) (hO : Own w g 0 zs) :
    Calls Try.prog 12 #[.slice (some ⟨g, 0, none⟩) zs.length zs.length] w fun e w' => e = .returned (decS zs) ∧ Below w.heap.size w w' := by
  by_cases h : zs.length = 24
  · have := implDec_any g 0 24 zs w h hO.1 hO.lt (fun i hi => hO.cell i (by omega))
    unfold decS
    rw [if_pos h, h]
    exact this
  · unfold decS
    rw [if_neg h]
    exact implDec_len _ _ _ w h (by omega)
theorem specDec_own (g : Nat) (zs : List Int) (w : World) (hm : zs.length ≤ 1048576) (hO : Own w g 0 zs) :
    Calls Try.prog 30 #[.slice (some ⟨g, 0, none⟩) zs.length zs.length] w fun e w' => e = .returned (decS zs) ∧ Below w.heap.size w w' := by
  by_cases h : zs.length = 24
  · have := specDec_any g 0 zs w h hO.1 hO.lt (fun i hi => hO.cell i (by omega))
    unfold decS
    rw [if_pos h, h]
    exact this
  · unfold decS
    rw [if_neg h]
    exact specDec_len _ _ _ w h (by omega)

set_option maxHeartbeats 800000 in
theorem exactDec_any (a : Option Addr) (cap : Nat) (zs : List Int) (w : World) (hm : zs.length ≤ 9223372036854775807) (hB : Bytes w a zs) :
    Calls Try.prog 8 #[.slice a zs.length cap] w fun e w' => e = .returned (.bool true) ∧ Below w.heap.size w w' := by
  by_cases hn : zs.length ≤ 1048576
  · obtain ⟨k, v, x, s, hd⟩ := decS_form zs
    have HI : Hid (∀ g W, Own W g 0 zs → Calls Try.prog 12 #[.slice (some ⟨g, 0, none⟩) zs.length zs.length] W fun e w' => e = .returned (.agg #[.int .i64 k, .int .i64 v, .int .i64 x, .int .i64 s]) ∧ Below W.heap.size W w') := fun g W hO => by
      have := implDec_own g zs W hn hO; rw [hd] at this; exact this
    have HS : Hid (∀ g W, Own W g 0 zs → Calls Try.prog 30 #[.slice (some ⟨g, 0, none⟩) zs.length zs.length] W fun e w' => e = .returned (.agg #[.int .i64 k, .int .i64 v, .int .i64 x, .int .i64 s]) ∧ Below W.heap.size W w') := fun g W hO => by
      have := specDec_own g zs W hn hO; rw [hd] at this; exact this
    clear hd
    go_enter Try.func8, Try.ntmps8
    go_wp2_with fail
    refine (toByteS_any a cap zs w hn hB).mono ?_
    rintro e w1 ⟨rfl, hb1, ho1⟩
    go_wp2_with fail
    refine (HS.out _ _ ho1).mono ?_
    rintro e w2 ⟨rfl, hb2⟩
    have hb12 := hb1.trans (hb2.mono hb1.size)
    clear hb1 hb2 ho1
    have hz2 := hb12.size
    have hP3 : Blk (w2.alloc (.cells #[.int .i64 k, .int .i64 v, .int .i64 x, .int .i64 s] 24)) w2.heap.size #[.int .i64 k, .int .i64 v, .int .i64 x, .int .i64 s] 24 := heap_alloc_new w2 _
    have hb3 := hb12.alloc (by omega) (.cells #[.int .i64 k, .int .i64 v, .int .i64 x, .int .i64 s] 24)
    clear hb12
    go_wp2_with fail
    refine (toByteS_any a cap zs _ hn (hB.below hb3)).mono ?_
    rintro e w4 ⟨rfl, hb4, ho4⟩
    rw [World.size_alloc] at hb4 ho4
    have hz4 := hb4.size
    rw [World.size_alloc] at hz4
    have hb4' := hb3.trans (hb4.mono (by omega))
    have hP4 := hP3.below hb4 (by omega)
    clear hb3 hb4 hP3
    go_wp2_with fail
    refine (HI.out _ _ ho4).mono ?_
    rintro e w5 ⟨rfl, hb5⟩
    have hz5 := hb5.size
    have hb5' := hb4'.trans (hb5.mono (by omega))
    have hP5 := hP4.below hb5 (by omega)
    have ho5 := ho4.below hb5 ho4.lt
    clear hb4' hb5 hP4 ho4
    have hlt : w2.heap.size < w5.heap.size := by omega
    obtain ⟨c0, c1, c2, c3⟩ := hP5.four
    go_wp2_with fail
    clear c0 c1 c2 c3
    have hb6 := hb5'.alloc (by omega) (.cells #[.int .i64 k, .int .i64 v, .int .i64 x, .int .i64 s] 24)
    have ho6 := ho5.below ((Below.refl w5.heap.size w5).alloc (Nat.le_refl _) (.cells #[.int .i64 k, .int .i64 v, .int .i64 x, .int .i64 s] 24)) ho5.lt
    clear hb5' hP5 ho5
    refine (eqPacket_any k v x s _).mono ?_
    rintro e w7 ⟨rfl, hb7⟩
    have hz7 := hb7.size
    rw [World.size_alloc] at hz7
    have hb7' := hb6.trans (hb7.mono (by simp; omega))
    have ho7 := ho6.below hb7 ho6.lt
    clear hb6 hb7 ho6
    go_wp2_with fail
    refine (toByteS_any a cap zs w7 hn (hB.below hb7')).mono ?_
    rintro e w8 ⟨rfl, hb8, ho8⟩
    have hb8' := hb7'.trans (hb8.mono (by omega))
    have ho8' := ho7.below hb8 ho7.lt
    clear hb7' hb8 ho7
    have hz8 := hb8'.size
    go_wp2_with fail
    refine (eqByteS_any _ _ _ _ zs zs w8 hn ho8'.bytes ho8.bytes rfl).mono ?_
    rintro e w9 ⟨rfl, hb9⟩
    go_wp2
    go_ret
    exact ⟨rfl, hb8'.trans (hb9.mono (by omega))⟩
  · go_enter Try.func8, Try.ntmps8
    go_wp2
    go_ret
    exact ⟨rfl, Below.refl _ _⟩

namespace FnExactDecodeRow
set_option maxRecDepth 100000 in
theorem lifted (os : Os) (started : os.Started) (H : Type) (enc : TypeId × Value → H) :
    ReturnsInHanded {} Try.checked os 8 .any (Rows.fnExactDecodeSpec.pre6 enc Try.prog Try.f8 Rows.fnExactDecodeRow.domain false) (Rows.fnExactDecodeSpec.post enc Try.prog Try.f8 false true false false) := by
  refine returnsInHanded_of_change (C := Try.checked) Try.own started (by kernel_rfl) Try.func8
    (ChangeSpec.witness6 (enc := enc) (C := Try.checked) false ⟨#[], #[.slice none 0 0], []⟩ 8 (by kernel_rfl) (by kernel_rfl) (by kernel_rfl) (by kernel_rfl)) ?_
  intro W base args ds gs before hval0 hW hcnd _
  have hval : ∀ (j : Nat) t v, Try.f8.params[j]? = some t → args[j]? = some v → Value.okWide Try.prog W .any base t v := hval0
  have hW' := hW
  obtain ⟨p, q, hA0, hV, rfl, hfz, hnd⟩ := hW
  have hA : DataW.TrodAll enc Try.prog W 0 (fun _ => true) true Try.f8.params.toList args.toList ds p := hA0
  rw [Try.params8] at hA hval
  obtain ⟨v0, d0, rfl, rfl, h0⟩ := trodAll_one hA
  obtain ⟨rfl, rfl⟩ := trodVars_none hV
  obtain ⟨a0, len0, cap0, rfl⟩ := okWide_slice Try.underlying22 (hval 0 22 v0 rfl rfl)
  have lt0 : ∀ x ∈ p, x.block < W.heap.size := by obtain ⟨m, hm⟩ := h0; exact DataW.trod_lt m _ _ _ hm
  obtain ⟨zs, rfl, hm, hB⟩ := bytes_open h0
  clear hA0 hval0
  refine (exactDec_any a0 cap0 zs W hm hB).mono fun e W' ⟨he, bel⟩ => ?_
  subst he
  exact ⟨_, rfl, _, _, _, [], _, [], hW', trodAll_mk1 (shut_bool Try.underlying4 _), trodAll_mk1 (Below.trod Try.laidOut (by kernel_rfl) (of_decide_eq_true (by kernel_rfl)) h0 bel lt0), rfl, bel.frame _, fun h => by cases h⟩
end FnExactDecodeRow

theorem exactDecode_holds : Rows.FnExactDecodeSaid :=
  OpenClaim.holds_of_wide 8 Try.f8 rfl rfl rfl rfl rfl rfl rfl ⟨rfl, rfl, rfl, rfl, rfl⟩ rfl rfl rfl rfl rfl (by kernel_rfl) Try.func8 (by kernel_rfl)
    (of_decide_eq_true (by kernel_rfl)) (by unfold Func.isWrapper; first | (rw [if_pos (by decide +kernel)]; kernel_rfl) | (rw [if_neg (by decide +kernel)]; exact ⟨rfl, rfl⟩))
    (fun os started H enc _ => FnExactDecodeRow.lifted os started H enc)
#print axioms exactDecode_holds
end Go.Proofs.Ytfbikieolepldaa
