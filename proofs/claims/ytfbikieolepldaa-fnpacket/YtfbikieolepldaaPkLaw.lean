/-
  THE LAW FnPacket: its walk out of the contracts, and its row.
-/
import Derived.Test.YtfbikieolepldaaDraw
import Derived.Test.YtfbikieolepldaaPk
import Derived.Test.YtfbikieolepldaaRowB
import Derived.Laws.BytesArg
import Derived.Deep.DeepCutAuto
namespace Go.Proofs.Ytfbikieolepldaa
open Go.ChangeShapes Go.WideShapes Go.ChangeAt Go.RowKit
attribute [local go_sem ↓] Go.wp_at_zero Go.wp_at_succ

/-- impl.Decode over bytes of a packet of our own. -/
theorem implDec_at (g : Nat) (E : List Int) (w : World) (k v x s : Int) (hl : E.length = 24) (hO : Own w g 0 E) (hd : decV E = .agg #[.int .i64 k, .int .i64 v, .int .i64 x, .int .i64 s]) :
    Calls Try.prog 12 #[.slice (some ⟨g, 0, none⟩) 24 24] w fun e w' => e = .returned (.agg #[.int .i64 k, .int .i64 v, .int .i64 x, .int .i64 s]) ∧ Below w.heap.size w w' := by
  have h := implDec_any g 0 24 E w hl hO.1 hO.lt (fun i hi => hO.cell i (by omega))
  rw [hd] at h
  exact h

set_option maxHeartbeats 1600000 in
theorem packet_any (a m : Option Addr) (n1 n2 c1 c2 : Nat) (zs ms : List Int) (w : World) (hn1 : zs.length = n1) (hn2 : ms.length = n2) (hm1 : n1 ≤ 1048576) (hm2 : n2 ≤ 1048576) (hB : Bytes w a zs) (hM : Bytes w m ms) :
    Calls Try.prog 3 #[.slice a n1 c1, .slice m n2 c2] w fun e w' => e = .returned (.bool true) ∧ Below w.heap.size w w' := by
  go_enter Try.func3, Try.ntmps3
  go_wp2_with fail
  refine (packets_any a n1 c1 zs w hn1 hm1 hB).mono ?_
  rintro e w1 ⟨k, v, x, s, rfl, hok, hx, hb1⟩
  obtain ⟨p1, p2, p3, p4⟩ := pkOk_parts hok
  have HP4 : Hid (k = 2 → x = 0) := p4
  have HOK : Hid (pkOk k v x s = true) := hok
  have hz1 := hb1.size
  have hP2 : Blk (w1.alloc (.cells #[.int .i64 k, .int .i64 v, .int .i64 x, .int .i64 s] 24)) w1.heap.size #[.int .i64 k, .int .i64 v, .int .i64 x, .int .i64 s] 24 := heap_alloc_new w1 _
  have hb2 := hb1.alloc (by omega) (.cells #[.int .i64 k, .int .i64 v, .int .i64 x, .int .i64 s] 24)
  have HB : Hid (Bytes w m ms) := hM
  clear hok p4 hB hb1 hM
  go_wp2_with fail
  refine (implEnc_yes k v x s _ HOK.out p1 p2 p3).mono ?_
  rintro e w3 ⟨g, rfl, hC3, hg3, hb3⟩
  rw [World.size_alloc] at hg3 hb3
  have hb3' := hb2.trans (hb3.mono (by omega))
  have hP3 := hP2.below hb3 (by omega)
  have hE3 := hC3.own (encB_length k v x s)
  clear hb2 hP2 hb3 hC3
  have hl3 := hP3.lt
  have hlg := hE3.lt
  have hz3 := hb3'.size
  have HDE : Hid (decV (encB k v x s) = .agg #[.int .i64 k, .int .i64 v, .int .i64 x, .int .i64 s]) := dec_enc k v x s HOK.out hx
  have HEL : Hid ((encB k v x s).length = 24) := encB_length k v x s
  have HDC : Hid (∀ (i : Nat) (z : Int), i < 24 → 0 ≤ z ∧ z ≤ 255 → (encB k v x s).getD i 0 ≠ z → good ((encB k v x s).set i z) = false) := fun i z => dec_changed k v x s z i
  have HSE : Hid (∀ W, Calls Try.prog 13 #[.agg #[.int .i64 k, .int .i64 v, .int .i64 x, .int .i64 s]] W fun e w' => ∃ g cap, e = .returned (.slice (some ⟨g, 0, none⟩) 24 cap) ∧ Own w' g 0 (encB k v x s) ∧ W.heap.size ≤ g ∧ Below W.heap.size W w') := fun W => specEnc_yes k v x s W HOK.out p1 p2 p3
  generalize encB k v x s = E at *
  go_wp2_with fail
  have HS : Hid (∀ W, Below w3.heap.size w3 W → W.cell? ⟨w1.heap.size, 0, none⟩ = some (.int .i64 k) ∧ W.cell? ⟨w1.heap.size, 1, none⟩ = some (.int .i64 v) ∧ W.cell? ⟨w1.heap.size, 2, none⟩ = some (.int .i64 x) ∧ W.cell? ⟨w1.heap.size, 3, none⟩ = some (.int .i64 s) ∧
      (convert 22 9 (.slice (some ⟨g, 0, none⟩) 24 24)).run Try.prog W = .ok (.string (strOfNums E)) W) := fun W hW => by
    obtain ⟨q0, q1, q2, q3⟩ := (hP3.below hW hl3).four
    have hO := hE3.below hW hlg
    exact ⟨q0, q1, q2, q3, run_convert_bytes_arg W 22 5 Try.underlying22 Try.underlying5 g 0 24 24 E HEL.out (fun i hi => hO.cell i (by rw [HEL.out]; exact hi)) 9 Try.underlying9⟩
  obtain ⟨q0, q1, q2, q3, qc⟩ := HS.out w3 (Below.refl _ _)
  go_cut [38] (fun c W => c = .bool false ∧ Hid (Below w3.heap.size w3 W))
  case first =>
    go_region_with (first | (go_at_call 12; refine (implDec_at g E _ k v x s HEL.out ?_ HDE.out).mono ?_; exact hE3.below (Below.refl w3.heap.size w3).drew hlg; rintro e w4 ⟨rfl, hb4⟩; have hbl1 : Below w3.heap.size w3 w4 := (Below.refl w3.heap.size w3).drew.trans hb4; obtain ⟨r0, r1, r2, r3, rc⟩ := HS.out w4 hbl1) | (go_at_call 13; refine (HSE.out _).mono ?_; rintro e w5 ⟨g5, cap5, rfl, hO5, hg5, hb5⟩; have hbl2 : Below w3.heap.size w3 w5 := hbl1.trans (hb5.mono hbl1.size); obtain ⟨s0, s1, s2, s3, sc⟩ := HS.out w5 hbl2; have hcv := run_convert_bytes_arg w5 22 5 Try.underlying22 Try.underlying5 g5 0 24 cap5 E HEL.out (fun i hi => hO5.cell i (by rw [HEL.out]; exact hi)) 9 Try.underlying9))
    all_goals (go_wp2_with fail; go_meet)
    all_goals exact ⟨rfl, (by assumption : Below w3.heap.size w3 _)⟩
  case rest =>
    obtain ⟨rfl, HW⟩ := hcut
    have hbc := hb3'.trans (HW.out.mono (by omega))
    have hPc := hP3.below HW.out hl3
    have hEc := hE3.below HW.out hlg
    clear q0 q1 q2 q3 qc HS hb3' hP3 hE3 HW HSE
    go_wp2_with fail
    refine (wByte_any m n2 c2 0 0 ms wc rfl hn2 hm2 (by omega) (HB.out.below hbc)).mono ?_
    rintro e w6 ⟨r, rfl, hr, hw6⟩
    rw [hw6]
    clear hw6 w6
    have hr24 : 0 ≤ r % 24 ∧ r % 24 < 24 := by omega
    go_wp2_with fail
    refine (wByte_any m n2 c2 1 1 ms wc rfl hn2 hm2 (by omega) (HB.out.below hbc)).mono ?_
    rintro e w6 ⟨z, rfl, hz, hw6⟩
    rw [hw6]
    clear hw6 w6
    obtain ⟨i, hi⟩ := Int.eq_ofNat_of_zero_le hr24.1
    have hi24 : i < 24 := by omega
    rw [hi]
    clear hi hr hr24 HB
    have hcl := hEc.cell i (by rw [HEL.out]; exact hi24)
    have hfr := hEc.free i
    have hput := hEc.put i (by rw [HEL.out]; exact hi24) z hz
    rw [Nat.zero_add] at hcl hput
    have hii : (i : Int) < 24 := by omega
    by_cases hsame : E.getD i 0 = z
    · have HSET : Hid (E.set i z = E) := by
        apply List.ext_getElem?
        intro j
        rw [List.getElem?_set]
        split
        · rename_i hij
          subst hij
          rw [← hsame, List.getD_eq_getElem?_getD, List.getElem?_eq_getElem (by rw [HEL.out]; exact hi24)]
          simp [HEL.out, hi24]
        · rfl
      rw [HSET.out] at hput
      rw [hsame] at hcl
      clear hsame
      have hzz : (z == z) = true := by simp
      go_wp2_with fail
      have hbd := hbc.setCell (p := ⟨g, i, none⟩) (by show w.heap.size ≤ g; omega) (.int .u8 z)
      have hPd := hPc.other (g := g) (i := i) (v := .int .u8 z) (by omega)
      generalize wc.setCell ⟨g, i, none⟩ (.int .u8 z) = wd at *
      clear hcl hfr hbc hPc hEc hzz HDC HSET
      obtain ⟨d0, d1, d2, d3⟩ := hPd.four
      have hlPd := hPd.lt
      have HS2 : Hid (∀ W, Below wd.heap.size wd W → W.cell? ⟨w1.heap.size, 0, none⟩ = some (.int .i64 k) ∧ W.cell? ⟨w1.heap.size, 1, none⟩ = some (.int .i64 v) ∧ W.cell? ⟨w1.heap.size, 2, none⟩ = some (.int .i64 x) ∧ W.cell? ⟨w1.heap.size, 3, none⟩ = some (.int .i64 s)) := fun W hW => (hPd.below hW hlPd).four
      refine wp_region_noPanic ?_
      refine wp_region_held_drew (S := (fun W => W.cell? ⟨w1.heap.size, 0, none⟩ = some (.int .i64 k) ∧ W.cell? ⟨w1.heap.size, 1, none⟩ = some (.int .i64 v) ∧ W.cell? ⟨w1.heap.size, 2, none⟩ = some (.int .i64 x) ∧ W.cell? ⟨w1.heap.size, 3, none⟩ = some (.int .i64 s))) (by kernel_rfl) (HS2.out _ (Below.refl _ _).drew) (fun hHeld => ?_)
      refine wpAnyH_take (i := 0) (v := .slice (some ⟨g, 0, none⟩) 24 24) rfl (by kernel_rfl) (by kernel_rfl) (by kernel_rfl) (fun _ _ _ h => h) (Or.inl ⟨by kernel_rfl, ?_⟩) hHeld ?_
      · intro W hW; go_simp
      change wpAnyH _ _ _ _ _ _ _ (Act.put _ (some 57) _) _
      simp only [Act.put, List.setIfInBounds_toArray, List.set_cons_zero, List.set_cons_succ]
      refine wpAnyH_take (i := 2) (v := .agg #[.int .i64 k, .int .i64 v, .int .i64 x, .int .i64 s]) rfl (by kernel_rfl) (by kernel_rfl) (by kernel_rfl) (fun _ _ _ h => h) (Or.inl ⟨by kernel_rfl, ?_⟩) hHeld ?_
      · intro W hW; go_simp
      change wpAnyH _ _ _ _ _ _ _ (Act.put _ (some 59) _) _
      simp only [Act.put, List.setIfInBounds_toArray, List.set_cons_zero, List.set_cons_succ]
      refine wpAnyH_take (i := 4) (v := .bool true) rfl (by kernel_rfl) (by kernel_rfl) (by kernel_rfl) (fun _ _ _ h => h) (Or.inl ⟨by kernel_rfl, ?_⟩) hHeld ?_
      · intro W hW; go_simp
      change wpAnyH _ _ _ _ _ _ _ (Act.put _ (some 61) _) _
      simp only [Act.put, List.setIfInBounds_toArray, List.set_cons_zero, List.set_cons_succ]
      refine wpAnyH_ready (rs := [1]) (by kernel_rfl) (by simp) ?_
      refine AllReadyH.cons rfl (fun K hK => ?_) AllReadyH.nil
      go_simp
      refine (implDec_at g E _ k v x s HEL.out ?_ HDE.out).mono ?_
      · exact hput.below (Below.refl wd.heap.size wd).drew hput.lt
      rintro e w7 ⟨rfl, hb7⟩
      have hbl7 : Below wd.heap.size wd w7 := (Below.refl wd.heap.size wd).drew.trans hb7
      clear hHeld
      refine hK.out _ _ (HS2.out _ hbl7) (fun hHeld => ?_)
      clear hK K
      refine wpAnyH_take (i := 3) (v := .bool true) rfl (by kernel_rfl) (by kernel_rfl) (by kernel_rfl) (fun _ _ _ h => h) (Or.inl ⟨by kernel_rfl, ?_⟩) hHeld ?_
      · intro W hW; go_simp
      change wpAnyH _ _ _ _ _ _ _ (Act.put _ (some 60) _) _
      simp only [Act.put, List.setIfInBounds_toArray, List.set_cons_zero, List.set_cons_succ]
      refine wpAnyH_take (i := 5) (v := .bool true) rfl (by kernel_rfl) (by kernel_rfl) (by kernel_rfl) (fun _ _ _ h => h) (Or.inl ⟨by kernel_rfl, ?_⟩) hHeld ?_
      · intro W hW; go_simp
      change wpAnyH _ _ _ _ _ _ _ (Act.put _ (some 62) _) _
      simp only [Act.put, List.setIfInBounds_toArray, List.set_cons_zero, List.set_cons_succ]
      refine wpAnyH_take (i := 6) (v := .bool true) rfl (by kernel_rfl) (by kernel_rfl) (by kernel_rfl) (fun _ _ _ h => h) (Or.inl ⟨by kernel_rfl, ?_⟩) hHeld ?_
      · intro W hW; go_simp
      change wpAnyH _ _ _ _ _ _ _ (Act.put _ (some 63) _) _
      simp only [Act.put, List.setIfInBounds_toArray, List.set_cons_zero, List.set_cons_succ]
      refine wpAnyH_take (i := 7) (v := .bool true) rfl (by kernel_rfl) (by kernel_rfl) (by kernel_rfl) (fun _ _ _ h => h) (Or.inl ⟨by kernel_rfl, ?_⟩) hHeld ?_
      · intro W hW; go_simp
      change wpAnyH _ _ _ _ _ _ _ (Act.put _ (some 64) _) _
      simp only [Act.put, List.setIfInBounds_toArray, List.set_cons_zero, List.set_cons_succ]
      refine wpAnyH_take (i := 8) (v := .bool true) rfl (by kernel_rfl) (by kernel_rfl) (by kernel_rfl) (fun _ _ _ h => h) (Or.inl ⟨by kernel_rfl, ?_⟩) hHeld ?_
      · intro W hW; go_simp
      change wpAnyH _ _ _ _ _ _ _ (Act.put _ (some 65) _) _
      simp only [Act.put, List.setIfInBounds_toArray, List.set_cons_zero, List.set_cons_succ]
      refine wpAnyH_take (i := 9) (v := undef) rfl (by kernel_rfl) (by kernel_rfl) (by kernel_rfl) (fun _ _ _ h => h) (Or.inr ⟨by kernel_rfl, rfl⟩) hHeld ?_
      change wpAnyH _ _ _ _ _ _ _ (Act.put _ (some 66) _) _
      simp only [Act.put, List.setIfInBounds_toArray, List.set_cons_zero, List.set_cons_succ]
      refine wpAnyH_take (i := 10) (v := undef) rfl (by kernel_rfl) (by kernel_rfl) (by kernel_rfl) (fun _ _ _ h => h) (Or.inr ⟨by kernel_rfl, rfl⟩) hHeld ?_
      change wpAnyH _ _ _ _ _ _ _ (Act.put _ (some 67) _) _
      simp only [Act.put, List.setIfInBounds_toArray, List.set_cons_zero, List.set_cons_succ]
      refine wpAnyH_take (i := 11) (v := undef) rfl (by kernel_rfl) (by kernel_rfl) (by kernel_rfl) (fun _ _ _ h => h) (Or.inr ⟨by kernel_rfl, rfl⟩) hHeld ?_
      change wpAnyH _ _ _ _ _ _ _ (Act.put _ (some 68) _) _
      simp only [Act.put, List.setIfInBounds_toArray, List.set_cons_zero, List.set_cons_succ]
      refine wpAnyH_take (i := 12) (v := undef) rfl (by kernel_rfl) (by kernel_rfl) (by kernel_rfl) (fun _ _ _ h => h) (Or.inr ⟨by kernel_rfl, rfl⟩) hHeld ?_
      change wpAnyH _ _ _ _ _ _ _ (Act.put _ (some 69) _) _
      simp only [Act.put, List.setIfInBounds_toArray, List.set_cons_zero, List.set_cons_succ]
      refine wpAnyH_take (i := 13) (v := .bool true) rfl (by kernel_rfl) (by kernel_rfl) (by kernel_rfl) (fun _ _ _ h => h) (Or.inl ⟨by kernel_rfl, ?_⟩) hHeld ?_
      · intro W hW; go_simp
      change wpAnyH _ _ _ _ _ _ _ (Act.put _ (some 70) _) _
      simp only [Act.put, List.setIfInBounds_toArray, List.set_cons_zero, List.set_cons_succ]
      refine wpAnyH_take (i := 14) (v := .bool true) rfl (by kernel_rfl) (by kernel_rfl) (by kernel_rfl) (fun _ _ _ h => h) (Or.inl ⟨by kernel_rfl, ?_⟩) hHeld ?_
      · intro W hW; go_simp
      change wpAnyH _ _ _ _ _ _ _ (Act.put _ (some 71) _) _
      simp only [Act.put, List.setIfInBounds_toArray, List.set_cons_zero, List.set_cons_succ]
      refine wpAnyH_take (i := 15) (v := .bool true) rfl (by kernel_rfl) (by kernel_rfl) (by kernel_rfl) (fun _ _ _ h => h) (Or.inl ⟨by kernel_rfl, ?_⟩) hHeld ?_
      · intro W hW; go_simp
      change wpAnyH _ _ _ _ _ _ _ (Act.put _ (some 4) _) _
      simp only [Act.put, List.setIfInBounds_toArray, List.set_cons_zero, List.set_cons_succ]
      refine wpAnyH_done (by kernel_rfl) ?_ _
      refine NoPanic.normal ?_
      go_wp2
      go_ret
      exact ⟨rfl, hbd.trans (hbl7.mono hbd.size)⟩
    · have HDE2 : Hid (decV (E.set i z) = .agg #[.int .i64 0, .int .i64 0, .int .i64 0, .int .i64 0]) := by unfold decV; rw [HDC.out i z hi24 hz hsame]; rfl
      have HEL2 : Hid ((E.set i z).length = 24) := by rw [List.length_set]; exact HEL.out
      generalize E.getD i 0 = y at *
      have hyz : (y == z) = false := beq_eq_false_iff_ne.2 hsame
      clear hsame
      go_wp2_with fail
      have hbd := hbc.setCell (p := ⟨g, i, none⟩) (by show w.heap.size ≤ g; omega) (.int .u8 z)
      have hPd := hPc.other (g := g) (i := i) (v := .int .u8 z) (by omega)
      generalize wc.setCell ⟨g, i, none⟩ (.int .u8 z) = wd at *
      clear hcl hfr hbc hPc hEc hyz HDC HDE
      obtain ⟨d0, d1, d2, d3⟩ := hPd.four
      have hlPd := hPd.lt
      have hk0 : ((0 : Int) == k) = false := beq_eq_false_iff_ne.2 (by omega)
      have HS2 : Hid (∀ W, Below wd.heap.size wd W → W.cell? ⟨w1.heap.size, 0, none⟩ = some (.int .i64 k) ∧ W.cell? ⟨w1.heap.size, 1, none⟩ = some (.int .i64 v) ∧ W.cell? ⟨w1.heap.size, 2, none⟩ = some (.int .i64 x) ∧ W.cell? ⟨w1.heap.size, 3, none⟩ = some (.int .i64 s)) := fun W hW => (hPd.below hW hlPd).four
      go_region_held3 (fun W => W.cell? ⟨w1.heap.size, 0, none⟩ = some (.int .i64 k) ∧ W.cell? ⟨w1.heap.size, 1, none⟩ = some (.int .i64 v) ∧ W.cell? ⟨w1.heap.size, 2, none⟩ = some (.int .i64 x) ∧ W.cell? ⟨w1.heap.size, 3, none⟩ = some (.int .i64 s)) (first | exact HS2.out _ (Below.refl _ _).drew | exact HS2.out _ hbl8 | exact HS2.out _ hbl7) (first | (go_at_call 12; refine (implDec_at g (E.set i z) _ 0 0 0 0 HEL2.out ?_ HDE2.out).mono ?_; exact hput.below hbl7 hput.lt; rintro e w8 ⟨rfl, hb8⟩; have hbl8 : Below wd.heap.size wd w8 := hbl7.trans (hb8.mono hbl7.size)) | (go_at_call 12; refine (implDec_at g (E.set i z) _ 0 0 0 0 HEL2.out ?_ HDE2.out).mono ?_; exact hput.below (Below.refl wd.heap.size wd).drew hput.lt; rintro e w7 ⟨rfl, hb7⟩; have hbl7 : Below wd.heap.size wd w7 := (Below.refl wd.heap.size wd).drew.trans hb7))
      go_wp2
      go_ret
      exact ⟨rfl, hbd.trans (hbl8.mono hbd.size)⟩

theorem packet_all (a m : Option Addr) (c1 c2 : Nat) (zs ms : List Int) (w : World) (_h1 : zs.length ≤ 9223372036854775807) (_h2 : ms.length ≤ 9223372036854775807) (hB : Bytes w a zs) (hM : Bytes w m ms) :
    Calls Try.prog 3 #[.slice a zs.length c1, .slice m ms.length c2] w fun e w' => e = .returned (.bool true) ∧ Below w.heap.size w w' := by
  by_cases hn1 : zs.length ≤ 1048576
  · by_cases hn2 : ms.length ≤ 1048576
    · exact packet_any a m _ _ c1 c2 zs ms w rfl rfl hn1 hn2 hB hM
    · go_enter Try.func3, Try.ntmps3
      go_wp2
      go_ret
      exact ⟨rfl, Below.refl _ _⟩
  · go_enter Try.func3, Try.ntmps3
    go_wp2
    go_ret
    exact ⟨rfl, Below.refl _ _⟩

namespace FnPacketRow
set_option maxRecDepth 100000 in
theorem lifted (os : Os) (started : os.Started) (H : Type) (enc : TypeId × Value → H) :
    ReturnsInHanded {} Try.checked os 3 .any (Rows.fnPacketSpec.pre6 enc Try.prog Try.f3 Rows.fnPacketRow.domain false) (Rows.fnPacketSpec.post enc Try.prog Try.f3 false true false false) := by
  refine returnsInHanded_of_change (C := Try.checked) Try.own started (by kernel_rfl) Try.func3
    (ChangeSpec.witness6 (enc := enc) (C := Try.checked) false ⟨#[], #[.slice none 0 0, .slice none 0 0], []⟩ 8 (by kernel_rfl) (by kernel_rfl) (by kernel_rfl) (by kernel_rfl)) ?_
  intro W base args ds gs before hval0 hW hcnd _
  have hval : ∀ (j : Nat) t v, Try.f3.params[j]? = some t → args[j]? = some v → Value.okWide Try.prog W .any base t v := hval0
  have hW' := hW
  obtain ⟨p, q, hA0, hV, rfl, hfz, hnd⟩ := hW
  have hA : DataW.TrodAll enc Try.prog W 0 (fun _ => true) true Try.f3.params.toList args.toList ds p := hA0
  rw [Try.params3] at hA hval
  obtain ⟨v0, v1, d0, d1, p0, p1, rfl, rfl, rfl, h0, h1⟩ := trodAll_two hA
  obtain ⟨rfl, rfl⟩ := trodVars_none hV
  obtain ⟨a0, len0, cap0, rfl⟩ := okWide_slice Try.underlying22 (hval 0 22 v0 rfl rfl)
  obtain ⟨a1, len1, cap1, rfl⟩ := okWide_slice Try.underlying22 (hval 1 22 v1 rfl rfl)
  have lt0 : ∀ x ∈ p0, x.block < W.heap.size := by obtain ⟨m, hm⟩ := h0; exact DataW.trod_lt m _ _ _ hm
  have lt1 : ∀ x ∈ p1, x.block < W.heap.size := by obtain ⟨m, hm⟩ := h1; exact DataW.trod_lt m _ _ _ hm
  obtain ⟨zs, rfl, hm0, hB0⟩ := bytes_open h0
  obtain ⟨ms, rfl, hm1, hB1⟩ := bytes_open h1
  clear hA0 hval0
  refine (packet_all a0 a1 cap0 cap1 zs ms W hm0 hm1 hB0 hB1).mono fun e W' ⟨he, bel⟩ => ?_
  subst he
  exact ⟨_, rfl, _, _, _, [], p0 ++ p1, [], hW', trodAll_mk1 (shut_bool Try.underlying4 _), trodAll_mk2 (Below.trod Try.laidOut (by kernel_rfl) (of_decide_eq_true (by kernel_rfl)) h0 bel lt0) (Below.trod Try.laidOut (by kernel_rfl) (of_decide_eq_true (by kernel_rfl)) h1 bel lt1), rfl, bel.frame _, fun h => by cases h⟩
end FnPacketRow

theorem packet_holds : Rows.FnPacketSaid :=
  OpenClaim.holds_of_wide 3 Try.f3 rfl rfl rfl rfl rfl rfl rfl ⟨rfl, rfl, rfl, rfl, rfl⟩ rfl rfl rfl rfl rfl (by kernel_rfl) Try.func3 (by kernel_rfl)
    (of_decide_eq_true (by kernel_rfl)) (by unfold Func.isWrapper; first | (rw [if_pos (by decide +kernel)]; kernel_rfl) | (rw [if_neg (by decide +kernel)]; exact ⟨rfl, rfl⟩))
    (fun os started H enc _ => FnPacketRow.lifted os started H enc)
#print axioms packet_holds
end Go.Proofs.Ytfbikieolepldaa
