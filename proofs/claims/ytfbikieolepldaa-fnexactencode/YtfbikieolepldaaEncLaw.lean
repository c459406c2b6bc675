/-
  THE WALKS OF markByteS, heldByteS; THE LAW FnExactEncode and its row.
-/
import Derived.Test.YtfbikieolepldaaLeb
import Derived.Test.YtfbikieolepldaaRowB
import Derived.Lib.SmallJoins
namespace Go.Proofs.Ytfbikieolepldaa
open Go.ChangeShapes Go.WideShapes Go.ChangeAt Go.RowKit Go.Joins

/-- The marks that the law writes. -/
def marks (k : Int) (n : Nat) : List Int := (List.range n).map fun i : Nat => (k + (i : Int)) % 256
theorem marks_succ (k : Int) (n : Nat) : marks k (n + 1) = marks k n ++ [(k + (n : Int)) % 256] := by unfold marks; rw [List.range_succ, List.map_append]; rfl
theorem marks_length (k : Int) (n : Nat) : (marks k n).length = n := by simp [marks]
theorem marks_getD (k : Int) (n j : Nat) (h : j < n) : (marks k n).getD j 0 = (k + (j : Int)) % 256 := by simp [marks, List.getD_eq_getElem?_getD, h]
theorem mark_step (k z : Int) (zs : List Int) (j : Nat) (h : j < zs.length) (hz : z = (k + (j : Int)) % 256) : (marks k j ++ zs.drop j).set j z = marks k (j + 1) ++ zs.drop (j + 1) := by
  rw [List.set_append, if_neg (by rw [marks_length]; omega), marks_length, Nat.sub_self, List.drop_eq_getElem_cons h, List.set_cons_zero, marks_succ, hz, List.append_assoc]
  rfl

set_option maxHeartbeats 400000 in
theorem mark_any (g n cap : Nat) (k : Int) (zs : List Int) (w : World) (hn : zs.length = n) (hm : n ≤ 1000) (hk : 1 ≤ k ∧ k ≤ 1000) (hO : Own w g 0 zs) :
    Calls Try.prog 28 #[.slice (some ⟨g, 0, none⟩) n cap, .int .i64 k] w fun e w' => e = .returned (.int .i64 (k + (n : Int))) ∧ Own w' g 0 (marks k n) ∧ Only g w w' := by
  have HN : Hid (zs.length = n) := hn
  clear hn
  go_enter Try.func28, Try.ntmps28
  go_wp2
  go_loopw [1, 5] (fun q i wr => ∃ j : Nat, j ≤ n ∧ i = .int .i64 j ∧ q = .int .i64 (k + (j : Int)) ∧ Hid (Own wr g 0 (marks k j ++ zs.drop j)) ∧ Hid (Only g w wr)) (fun _ i _ => n - (intOf i).toNat)
  case atStart => exact ⟨0, Nat.zero_le _, rfl, by simp, hO, Only.refl _ _⟩
  case round =>
    clear hO
    obtain ⟨j, hj, rfl, rfl, HO, HW⟩ := hrel
    by_cases hlt : j < n
    · have hl : (marks k j ++ zs.drop j).length = n := by rw [List.length_append, marks_length, List.length_drop, HN.out]; omega
      have hcl := HO.out.cell j (by omega)
      have hfr := HO.out.free j
      have hp := HO.out.put j (by omega) ((k + (j : Int)) % 256) (by omega)
      rw [mark_step k _ zs j (by rw [HN.out]; exact hlt) rfl] at hp
      rw [Nat.zero_add] at hcl hp
      have HP : Hid (Own (wr.setCell ⟨g, j, none⟩ (.int .u8 ((k + (j : Int)) % 256))) g 0 (marks k (j + 1) ++ zs.drop (j + 1))) := hp
      clear hp hl HO
      generalize (marks k j ++ zs.drop j).getD j 0 = z at *
      go_wp2
      go_roundw
      case rel => exact ⟨j + 1, by omega, by go_num, by go_num, HP, HW.out.set _ _⟩
      case measure => simp [intOf]; omega
    · have hkn : j = n := by omega
      subst hkn
      have h1 : Own wr g 0 (marks k j) := by have := HO.out; rw [List.drop_of_length_le (by rw [HN.out]; omega), List.append_nil] at this; exact this
      have h2 := HW.out
      clear HO HW
      go_wp2
      go_ret
      exact ⟨rfl, h1, h2⟩

set_option maxHeartbeats 400000 in
theorem held_any (g n cap : Nat) (k : Int) (w : World) (hm : n ≤ 1000) (hk : 1 ≤ k ∧ k ≤ 1000) (hO : Own w g 0 (marks k n)) :
    Calls Try.prog 29 #[.slice (some ⟨g, 0, none⟩) n cap, .int .i64 k] w fun e w' => e = .returned (.int .i64 (k + (n : Int))) ∧ w' = w := by
  have HO : Hid (Own w g 0 (marks k n)) := hO
  clear hO
  go_enter Try.func29, Try.ntmps29
  go_wp2
  go_loop [1, 5] (fun q i => ∃ j : Nat, j ≤ n ∧ i = .int .i64 j ∧ q = .int .i64 (k + (j : Int))) (fun _ i => n - (intOf i).toNat)
  case atStart => exact ⟨0, Nat.zero_le _, rfl, by simp⟩
  case round =>
    obtain ⟨j, hj, rfl, rfl⟩ := hrel
    by_cases hlt : j < n
    · have hcl := HO.out.cell j (by rw [marks_length]; exact hlt)
      rw [Nat.zero_add, marks_getD k n j hlt] at hcl
      have hne : ((k + (j : Int)) % 256 != (k + (j : Int)) % 256) = false := by simp
      go_wp2
      go_round
      case rel => exact ⟨j + 1, by omega, by go_num, by go_num⟩
      case measure => simp [intOf]; omega
    · have hkn : j = n := by omega
      subst hkn
      go_wp2
      go_ret
      exact ⟨rfl, rfl⟩

theorem eqB_at (a b : Option Addr) (n ca cb : Nat) (xs ys : List Int) (w : World) (hn : xs.length = n) (hm : n ≤ 1048576) (hx : Bytes w a xs) (hy : Bytes w b ys) (he : xs = ys) :
    Calls Try.prog 27 #[.slice a n ca, .slice b n cb] w fun e w' => e = .returned (.bool true) ∧ Below w.heap.size w w' := by
  have h := eqByteS_any a b ca cb xs ys w (by omega) hx hy he
  rw [← he, hn] at h
  exact h

set_option maxHeartbeats 800000 in
theorem exactEnc_no (k v x s : Int) (w : World) (hok : pkOk k v x s = false) :
    Calls Try.prog 7 #[.agg #[.int .i64 k, .int .i64 v, .int .i64 x, .int .i64 s]] w fun e w' => e = .returned (.bool true) ∧ Below w.heap.size w w' := by
  have hnil : ∀ W, Bytes W none [] := fun W => ⟨fun j => by simp, .inl rfl⟩
  have HE : Hid (∀ W, Calls Try.prog 27 #[.slice none 0 0, .slice none 0 0] W fun e w' => e = .returned (.bool true) ∧ Below W.heap.size W w') := fun W => eqB_at none none 0 0 0 [] [] W rfl (by omega) (hnil W) (hnil W) rfl
  have HM : Hid (∀ W, Calls Try.prog 28 #[.slice none 0 0, .int .i64 1] W fun e w' => e = .returned (.int .i64 1) ∧ w' = W) := by
    intro W
    go_enter Try.func28, Try.ntmps28
    go_wp2
    refine wp_loop_rounds 1 ?_
    rw [rounds_succ]
    go_wp2
    go_ret
    exact ⟨rfl, rfl⟩
  have HH : Hid (∀ W, Calls Try.prog 29 #[.slice none 0 0, .int .i64 1] W fun e w' => e = .returned (.int .i64 1) ∧ w' = W) := by
    intro W
    go_enter Try.func29, Try.ntmps29
    go_wp2
    refine wp_loop_rounds 1 ?_
    rw [rounds_succ]
    go_wp2
    go_ret
    exact ⟨rfl, rfl⟩
  clear hnil
  have HOK : Hid (pkOk k v x s = false) := hok
  clear hok
  go_enter Try.func7, Try.ntmps7
  go_wp2_with fail
  refine (toPacket_any _ _ _ _ _).mono ?_
  rintro e w1 ⟨rfl, hb1⟩
  rw [World.size_alloc] at hb1
  go_wp2_with fail
  refine (specEnc_no _ _ _ _ _ HOK.out).mono ?_
  rintro e w2 ⟨rfl, hb2⟩
  have hc2 := hb1.trans (hb2.mono (by have := hb1.size; simp at this; omega))
  clear hb1 hb2
  obtain ⟨c0, c1, c2, c3⟩ := box4 hc2
  go_wp2_with fail
  clear c0 c1 c2 c3
  refine (toPacket_any _ _ _ _ _).mono ?_
  rintro e w3 ⟨rfl, hb3⟩
  have hc3 := hc2.trans (hb3.mono (by have := hc2.size; simp at this; omega))
  clear hc2 hb3
  go_wp2_with fail
  refine (implEnc_no _ _ _ _ _ HOK.out).mono ?_
  rintro e w4 ⟨rfl, hb4⟩
  have hc4 := hc3.trans (hb4.mono (by have := hc3.size; simp at this; omega))
  clear hc3 hb4
  go_wp2_with fail
  refine (HE.out _).mono ?_
  rintro e w5 ⟨rfl, hb5⟩
  have hc5 := hc4.trans (hb5.mono (by have := hc4.size; simp at this; omega))
  clear hc4 hb5
  go_wp2_with fail
  refine (HM.out _).mono ?_
  rintro e w6 ⟨rfl, hw⟩
  rw [hw]
  clear hw
  go_wp2_with fail
  refine (HH.out _).mono ?_
  rintro e w7 ⟨rfl, hw⟩
  rw [hw]
  clear hw
  obtain ⟨c0, c1, c2, c3⟩ := box4 hc5
  go_wp2_with fail
  clear c0 c1 c2 c3
  refine (toPacket_any _ _ _ _ _).mono ?_
  rintro e w8 ⟨rfl, hb8⟩
  have hc8 := hc5.trans (hb8.mono (by have := hc5.size; simp at this; omega))
  clear hc5 hb8
  go_wp2_with fail
  refine (implEnc_no _ _ _ _ _ HOK.out).mono ?_
  rintro e w9 ⟨rfl, hb9⟩
  have hc9 := hc8.trans (hb9.mono (by have := hc8.size; simp at this; omega))
  clear hc8 hb9
  go_wp2_with fail
  refine (HE.out _).mono ?_
  rintro e w10 ⟨rfl, hb10⟩
  have hc10 := hc9.trans (hb10.mono (by have := hc9.size; simp at this; omega))
  clear hc9 hb10
  go_wp2_with fail
  refine (HH.out _).mono ?_
  rintro e w11 ⟨rfl, hw⟩
  rw [hw]
  clear hw
  go_wp2
  go_ret
  exact ⟨rfl, ((Below.refl _ _).alloc (Nat.le_refl _) _).trans (hc10.mono (by omega))⟩

set_option maxHeartbeats 800000 in
theorem exactEnc_yes (k v x s : Int) (w : World) (hok : pkOk k v x s = true) (hv : 0 ≤ v ∧ v ≤ 1000000000) (hs : 0 ≤ s ∧ s ≤ 1000000000) (hk : 1 ≤ k ∧ k ≤ 2) :
    Calls Try.prog 7 #[.agg #[.int .i64 k, .int .i64 v, .int .i64 x, .int .i64 s]] w fun e w' => e = .returned (.bool true) ∧ Below w.heap.size w w' := by
  have HOK : Hid (pkOk k v x s = true) := hok
  have HL : Hid ((encB k v x s).length = 24) := encB_length k v x s
  clear hok
  go_enter Try.func7, Try.ntmps7
  go_wp2_with fail
  refine (toPacket_any _ _ _ _ _).mono ?_
  rintro e w1 ⟨rfl, hb1⟩
  rw [World.size_alloc] at hb1
  go_wp2_with fail
  refine (specEnc_yes _ _ _ _ _ HOK.out hv hs hk).mono ?_
  rintro e w2 ⟨gs, cs, rfl, os2, hgs, hb2⟩
  have hz1 := hb1.size
  rw [World.size_alloc] at hz1
  have hc2 := hb1.trans (hb2.mono (by omega))
  have hz2 := hb2.size
  have hgs2 := os2.lt
  clear hb1 hb2
  obtain ⟨c0, c1, c2, c3⟩ := box4 hc2
  go_wp2_with fail
  clear c0 c1 c2 c3
  refine (toPacket_any _ _ _ _ _).mono ?_
  rintro e w3 ⟨rfl, hb3⟩
  have hz3 := hb3.size
  have hc3 := hc2.trans (hb3.mono (by omega))
  have os3 := os2.below hb3 hgs2
  clear hc2 hb3 os2
  go_wp2_with fail
  refine (implEnc_yes _ _ _ _ _ HOK.out hv hs hk).mono ?_
  rintro e w4 ⟨g, rfl, oc4, hg, hb4⟩
  have hz4 := hb4.size
  have hc4 := hc3.trans (hb4.mono (by omega))
  have os4 := os3.below hb4 (by omega)
  have og4 := oc4.own HL.out
  have hgl := og4.lt
  clear hc3 hb4 os3 oc4
  go_wp2_with fail
  refine (eqB_at _ _ 24 _ _ _ _ _ HL.out (by omega) og4.bytes os4.bytes rfl).mono ?_
  rintro e w5 ⟨rfl, hb5⟩
  have hz5 := hb5.size
  have hc5 := hc4.trans (hb5.mono (by omega))
  have os5 := os4.below hb5 (by omega)
  have og5 := og4.below hb5 hgl
  clear hc4 hb5 os4 og4
  go_wp2_with fail
  refine (mark_any g 24 24 1 _ _ HL.out (by omega) (by omega) og5).mono ?_
  rintro e w6 ⟨rfl, og6, hO6⟩
  have hz6 := hO6.size
  have hc6 := hc5.trans (hO6.below (by omega))
  have os6 := os5.only hO6 (by omega)
  clear hc5 hO6 os5 og5
  go_wp2_with fail
  refine (held_any g 24 24 1 _ (by omega) (by omega) og6).mono ?_
  rintro e w7 ⟨rfl, hw⟩
  rw [hw]
  clear hw
  obtain ⟨c0, c1, c2, c3⟩ := box4 hc6
  go_wp2_with fail
  clear c0 c1 c2 c3
  refine (toPacket_any _ _ _ _ _).mono ?_
  rintro e w8 ⟨rfl, hb8⟩
  have hz8 := hb8.size
  have hc8 := hc6.trans (hb8.mono (by omega))
  have os8 := os6.below hb8 (by omega)
  have og8 := og6.below hb8 (by omega)
  clear hc6 hb8 os6 og6
  go_wp2_with fail
  refine (implEnc_yes _ _ _ _ _ HOK.out hv hs hk).mono ?_
  rintro e w9 ⟨h, rfl, oc9, hh, hb9⟩
  have hz9 := hb9.size
  have hc9 := hc8.trans (hb9.mono (by omega))
  have os9 := os8.below hb9 (by omega)
  have og9 := og8.below hb9 (by omega)
  have oh9 := oc9.own HL.out
  clear hc8 hb9 os8 og8 oc9
  go_wp2_with fail
  refine (eqB_at _ _ 24 _ _ _ _ _ HL.out (by omega) oh9.bytes os9.bytes rfl).mono ?_
  rintro e w10 ⟨rfl, hb10⟩
  have hc10 := hc9.trans (hb10.mono (by omega))
  have og10 := og9.below hb10 (by omega)
  clear hc9 hb10 os9 og9 oh9
  go_wp2_with fail
  refine (held_any g 24 24 1 _ (by omega) (by omega) og10).mono ?_
  rintro e w11 ⟨rfl, hw⟩
  rw [hw]
  clear hw
  go_wp2
  go_ret
  exact ⟨rfl, ((Below.refl _ _).alloc (Nat.le_refl _) _).trans (hc10.mono (by omega))⟩

theorem exactEnc_any (k v x s : Int) (w : World) :
    Calls Try.prog 7 #[.agg #[.int .i64 k, .int .i64 v, .int .i64 x, .int .i64 s]] w fun e w' => e = .returned (.bool true) ∧ Below w.heap.size w w' := by
  cases h : pkOk k v x s with
  | false => exact exactEnc_no k v x s w h
  | true =>
    obtain ⟨h1, h2, h3, _⟩ := pkOk_parts h
    exact exactEnc_yes k v x s w h h1 h2 h3

namespace encRow
theorem own : ownKnob Try.prog.godebug = none := by kernel_rfl
theorem cells : Try.prog.cellsOf 48 = 4 := by kernel_rfl

set_option maxRecDepth 100000 in
theorem lifted (os : Os) (started : os.Started) (H : Type) (enc : TypeId × Value → H) :
    ReturnsInHanded {} Try.checked os 7 .any (Rows.fnExactEncodeSpec.pre6 enc Try.prog Try.f7 Rows.fnExactEncodeRow.domain false) (Rows.fnExactEncodeSpec.post enc Try.prog Try.f7 false true false false) := by
  refine returnsInHanded_of_change (C := Try.checked) own started (by kernel_rfl) Try.func7
    (ChangeSpec.witness6 (enc := enc) (C := Try.checked) false ⟨#[], #[.agg #[.int .i64 0, .int .i64 0, .int .i64 0, .int .i64 0]], []⟩ 8 (by kernel_rfl) (by kernel_rfl) (by kernel_rfl) (by kernel_rfl)) ?_
  intro W base args ds gs before hval0 hW hcnd _
  have hval : ∀ (j : Nat) t v, Try.f7.params[j]? = some t → args[j]? = some v → Value.okWide Try.prog W .any base t v := hval0
  have hW' := hW
  obtain ⟨p, q, hA0, hV, rfl, hfz, hnd⟩ := hW
  have hA : DataW.TrodAll enc Try.prog W 0 (fun _ => true) true Try.f7.params.toList args.toList ds p := hA0
  rw [Try.params7] at hA hval
  obtain ⟨v0, d0, rfl, rfl, h0⟩ := trodAll_one hA
  obtain ⟨rfl, rfl⟩ := trodVars_none hV
  obtain ⟨c0, c1, c2, c3, y0, y1, y2, y3, m, rfl, rfl, rfl, hy0, hy1, hy2, hy3⟩ := open_agg4 Try.underlying48 (by kernel_rfl) cells (hval 0 48 v0 rfl rfl) h0
  obtain ⟨a, e0, rfl, wa⟩ := DataW.trod_int Try.underlying3 hy0
  obtain ⟨b, e1, rfl, wb⟩ := DataW.trod_int Try.underlying3 hy1
  obtain ⟨c, e2, rfl, wc⟩ := DataW.trod_int Try.underlying2 hy2
  obtain ⟨d, e3, rfl, wd⟩ := DataW.trod_int Try.underlying3 hy3
  simp at e0 e1 e2 e3
  subst e0 e1 e2 e3
  clear hA0 hval0
  simp only [List.append_nil] at hW'
  have structReads : ∀ (W' : World) (sp : Nat → Bool), DataW.Trod enc Try.prog W' 0 sp true 48 (.agg #[.int .i64 a, .int .i64 b, .int .i64 c, .int .i64 d]) (.agg [.lit (.int .i64 a), .lit (.int .i64 b), .lit (.int .i64 c), .lit (.int .i64 d)]) [] := fun W' sp =>
    shut_agg4 (y0 := (.lit (.int .i64 a), [])) (y1 := (.lit (.int .i64 b), [])) (y2 := (.lit (.int .i64 c), [])) (y3 := (.lit (.int .i64 d), [])) Try.underlying48 (by kernel_rfl) cells ⟨1, by simp [DataW.trod, Try.underlying3, wa]⟩ ⟨1, by simp [DataW.trod, Try.underlying3, wb]⟩ ⟨1, by simp [DataW.trod, Try.underlying2, wc]⟩ ⟨1, by simp [DataW.trod, Try.underlying3, wd]⟩
  refine (exactEnc_any a b c d W).mono fun e W' ⟨he, bel⟩ => ?_
  subst he
  exact ⟨_, rfl, _, _, _, [], [], [], hW', trodAll_mk1 (shut_bool Try.underlying4 _), trodAll_mk1 (structReads _ _), rfl, bel.frame _, fun h => by cases h⟩
end encRow

theorem exactEncode_holds : Rows.FnExactEncodeSaid :=
  OpenClaim.holds_of_wide 7 Try.f7 rfl rfl rfl rfl rfl rfl rfl ⟨rfl, rfl, rfl, rfl, rfl⟩ rfl rfl rfl rfl rfl (by kernel_rfl) Try.func7 (by kernel_rfl)
    (of_decide_eq_true (by kernel_rfl)) (by unfold Func.isWrapper; first | (rw [if_pos (by decide +kernel)]; kernel_rfl) | (rw [if_neg (by decide +kernel)]; exact ⟨rfl, rfl⟩))
    (fun os started H enc _ => encRow.lifted os started H enc)
#print axioms exactEncode_holds
end Go.Proofs.Ytfbikieolepldaa
