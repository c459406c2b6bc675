/-
  THE DRAWING CURSOR: THE WALKS OF next, pick, whole, Packets, wByte.
-/
import Derived.Test.YtfbikieolepldaaDec
namespace Go.Proofs.Ytfbikieolepldaa
open Go.RowKit
attribute [local go_sem ↓] Go.wp_at_zero Go.wp_at_succ

/-- The drawing cursor: its bytes, its place, its seed. -/
def Dw (w : World) (c : Nat) (a : Option Addr) (n cap : Nat) (p s : Int) : Prop :=
  Blk w c #[.slice a n cap, .int .i64 p, .int .u64 s] 62 ∧ (0 ≤ p ∧ p ≤ 1000000) ∧ (0 ≤ s ∧ s ≤ 18446744073709551615)
theorem wrap_bd (n : Int) : 0 ≤ IntKind.u64.wrap n ∧ IntKind.u64.wrap n ≤ 18446744073709551615 := by rw [IntKind.wrap_u64]; omega
theorem and255 (n : Int) (h : 0 ≤ n ∧ n ≤ 18446744073709551615) : 0 ≤ bits .and .u64 n 255 ∧ bits .and .u64 n 255 ≤ 255 := by
  obtain ⟨m, rfl⟩ := Int.eq_ofNat_of_zero_le h.1
  have e := bits_and_u64_nat m 255 (by omega) (by omega)
  have : m &&& 255 ≤ 255 := Nat.and_le_right
  have e' : bits .and .u64 (m : Int) 255 = ((m &&& 255 : Nat) : Int) := e
  rw [e']
  omega

theorem wrap_small {b : Int} (h : 0 ≤ b ∧ b ≤ 255) : 0 ≤ wrap64 b ∧ wrap64 b ≤ 255 := by unfold wrap64; omega
theorem div40 {b : Int} (h : 0 ≤ b ∧ b ≤ 18446744073709551615) : 0 ≤ b / 1099511627776 ∧ b / 1099511627776 ≤ 18446744073709551615 := by omega
theorem Blk.drewN {w : World} {p : Nat} {cs : Array Value} {T : TypeId} (h : Blk w p cs T) (q : Nat) : Blk (w.drewN q) p cs T := h
theorem Blk.set2 {w : World} {c : Nat} {x y z : Value} {T : TypeId} (h : Blk w c #[x, y, z] T) (y' z' : Value) : Blk ((w.setCell ⟨c, 1, none⟩ y').setCell ⟨c, 2, none⟩ z') c #[x, y', z'] T := (h.set 1 y').set 2 z'
theorem Blk.set2' {w : World} {c : Nat} {x y z : Value} {T : TypeId} (h : Blk w c #[x, y, z] T) (y' z' : Value) : Blk ((w.setCell ⟨c, 2, none⟩ z').setCell ⟨c, 1, none⟩ y') c #[x, y', z'] T := (h.set 2 z').set 1 y'

set_option maxHeartbeats 800000 in
theorem next_any (c n cap : Nat) (a : Option Addr) (p s : Int) (zs : List Int) (w : World) (hn : zs.length = n) (_hm : n ≤ 1048576) (hp : p ≤ 1000) (hD : Dw w c a n cap p s) (hB : Bytes w a zs) :
    Calls Try.prog 36 #[.pointer (some ⟨c, 0, none⟩)] w fun e w' => ∃ r s' : Int, e = .returned (.int .i64 r) ∧ (0 ≤ r ∧ r ≤ 255) ∧ Dw w' c a n cap (p + 1) s' ∧ Only c w w' := by
  obtain ⟨hblk, hp0, hs0⟩ := hD
  have k0 := hblk.cell 0
  have k1 := hblk.cell 1
  have k2 := hblk.cell 2
  have f1 := hblk.free 1
  have f2 := hblk.free 2
  rw [show (#[.slice a n cap, .int .i64 p, .int .u64 s] : Array Value)[0]? = some (.slice a n cap) from rfl] at k0
  rw [show (#[.slice a n cap, .int .i64 p, .int .u64 s] : Array Value)[1]? = some (.int .i64 p) from rfl] at k1
  rw [show (#[.slice a n cap, .int .i64 p, .int .u64 s] : Array Value)[2]? = some (.int .u64 s) from rfl] at k2
  by_cases hlt : p < (n : Int)
  · obtain ⟨j, rfl⟩ := Int.eq_ofNat_of_zero_le hp0.1
    have hj : j < n := by omega
    obtain ⟨hz, hB⟩ := hB
    rcases hB with rfl | ⟨b, off, rfl, _, hc⟩
    · simp at hn; omega
    have hcl := hc j (by omega)
    have hzj := hz j
    have HBLK : Hid (Blk w c #[.slice (some ⟨b, off, none⟩) n cap, .int .i64 (j : Int), .int .u64 s] 62) := hblk
    clear hc hz hn hblk
    generalize zs.getD j 0 = z at *
    go_enter Try.func36, Try.ntmps36
    go_wp2
    go_quiet (fail)
    go_wp2
    go_quiet (fail)
    go_wp2
    go_ret
    exact ⟨_, _, rfl, hzj, ⟨(HBLK.out.drewN _).set2 _ _, by omega, wrap_bd _⟩, (((Only.refl c w).drewN _).set 1 _).set 2 _⟩
  · have HBLK : Hid (Blk w c #[.slice a n cap, .int .i64 p, .int .u64 s] 62) := hblk
    clear hn hblk hB
    have hlt' : (n : Int) ≤ p := by omega
    go_enter Try.func36, Try.ntmps36
    go_wp2
    go_quiet (fail)
    go_wp2
    go_ret
    exact ⟨_, _, rfl, wrap_small (and255 _ (div40 (wrap_bd _))), ⟨(HBLK.out.drewN _).set2' _ _, by omega, wrap_bd _⟩, (((Only.refl c w).drewN _).set 2 _).set 1 _⟩

/-- The bytes lie in another block (or there are none). -/
def Apart (a : Option Addr) (zs : List Int) (c : Nat) : Prop := zs = [] ∨ ∀ x, a = some x → x.block ≠ c
theorem Bytes.apart {w : World} {a : Option Addr} {zs : List Int} (h : Bytes w a zs) (c : Nat) (hc : w.heap.size ≤ c) : Apart a zs c := by
  rcases h.2 with h2 | ⟨b, off, ha, hlt, _⟩
  · exact .inl h2
  · refine .inr fun x hx => ?_
    rw [ha] at hx
    cases hx
    show b ≠ c
    omega
theorem Bytes.only {w w' : World} {a : Option Addr} {zs : List Int} {c : Nat} (h : Bytes w a zs) (ho : Only c w w') (hc : Apart a zs c) : Bytes w' a zs := by
  obtain ⟨h1, h2⟩ := h
  refine ⟨h1, ?_⟩
  rcases hc with hc | hc
  · exact .inl hc
  rcases h2 with h2 | ⟨b, off, ha, hlt, hcl⟩
  · exact .inl h2
  · refine .inr ⟨b, off, ha, by rw [ho.size]; exact hlt, fun i hi => ?_⟩
    have hbc : b ≠ c := hc _ ha
    rw [ho.cell (p := ⟨b, off + i, none⟩) hbc]
    exact hcl i hi

set_option maxHeartbeats 800000 in
theorem pick_small (c n cap : Nat) (a : Option Addr) (p s m : Int) (zs : List Int) (w : World) (hn : zs.length = n) (hm : n ≤ 1048576) (hp : p ≤ 900) (hD : Dw w c a n cap p s) (hB : Bytes w a zs) (h2 : 2 ≤ m) (h200 : m ≤ 200) :
    Calls Try.prog 35 #[.pointer (some ⟨c, 0, none⟩), .int .i64 m] w fun e w' => ∃ r s' p' : Int, e = .returned (.int .i64 r) ∧ (0 ≤ r ∧ r < m) ∧ p' ≤ p + 2 ∧ Dw w' c a n cap p' s' ∧ Only c w w' := by
  go_enter Try.func35, Try.ntmps35
  go_wp2_with fail
  refine (next_any c n cap a p s zs w hn hm (by omega) hD hB).mono ?_
  rintro e w1 ⟨r, s1, rfl, hr, hD1, hO1⟩
  clear hD hB
  go_wp2
  go_ret
  exact ⟨_, _, _, rfl, ⟨Int.emod_nonneg _ (by omega), Int.emod_lt_of_pos _ (by omega)⟩, by omega, hD1, hO1⟩

set_option maxHeartbeats 800000 in
theorem pick_great (c n cap : Nat) (a : Option Addr) (p s m : Int) (zs : List Int) (w : World) (hn : zs.length = n) (hm : n ≤ 1048576) (hp : p ≤ 900) (hD : Dw w c a n cap p s) (hB : Bytes w a zs) (hc : Apart a zs c) (h2 : 201 ≤ m) (h200 : m ≤ 1000000) :
    Calls Try.prog 35 #[.pointer (some ⟨c, 0, none⟩), .int .i64 m] w fun e w' => ∃ r s' p' : Int, e = .returned (.int .i64 r) ∧ (0 ≤ r ∧ r < m) ∧ p' ≤ p + 2 ∧ Dw w' c a n cap p' s' ∧ Only c w w' := by
  have HC : Hid (Apart a zs c) := hc
  clear hc
  go_enter Try.func35, Try.ntmps35
  go_wp2_with fail
  refine (next_any c n cap a p s zs w hn hm (by omega) hD hB).mono ?_
  rintro e w1 ⟨r, s1, rfl, hr, hD1, hO1⟩
  have hB1 := hB.only hO1 HC.out
  clear hD hB
  go_wp2_with fail
  refine (next_any c n cap a (p + 1) s1 zs w1 hn hm (by omega) hD1 hB1).mono ?_
  rintro e w2 ⟨r2, s2, rfl, hr2, hD2, hO2⟩
  clear hD1 hB1
  go_wp2
  go_ret
  exact ⟨_, _, _, rfl, ⟨Int.emod_nonneg _ (by omega), Int.emod_lt_of_pos _ (by omega)⟩, by omega, hD2, hO1.trans hO2⟩

set_option maxHeartbeats 800000 in
theorem whole_any (c n cap : Nat) (a : Option Addr) (p s : Int) (zs : List Int) (w : World) (hn : zs.length = n) (hm : n ≤ 1048576) (hp : p ≤ 100) (hD : Dw w c a n cap p s) (hB : Bytes w a zs) (hc : Apart a zs c) :
    Calls Try.prog 37 #[.pointer (some ⟨c, 0, none⟩)] w fun e w' => ∃ r : Int, e = .returned (.int .i64 r) ∧ (-9223372036854775808 ≤ r ∧ r ≤ 9223372036854775807) ∧ Only c w w' := by
  have HC : Hid (Apart a zs c) := hc
  clear hc
  go_enter Try.func37, Try.ntmps37
  go_wp2_with fail
  refine (pick_small c n cap a p s 6 zs w hn hm (by omega) hD hB (by omega) (by omega)).mono ?_
  rintro e w1 ⟨r, s1, p1, rfl, hr, hp1, hD1, hO1⟩
  have hB1 := hB.only hO1 HC.out
  clear hD hB
  by_cases h0 : r = 0
  · subst h0
    go_wp2_with fail
    refine (pick_small c n cap a p1 s1 3 zs w1 hn hm (by omega) hD1 hB1 (by omega) (by omega)).mono ?_
    rintro e w2 ⟨r2, s2, p2, rfl, hr2, hp2, hD2, hO2⟩
    clear hD1 hB1 hD2
    go_wp2
    go_ret
    exact ⟨_, rfl, by omega, hO1.trans hO2⟩
  · have e0 : (r == 0) = false := beq_eq_false_iff_ne.2 h0
    by_cases h1 : r = 1
    · subst h1
      go_wp2_with fail
      refine (pick_small c n cap a p1 s1 3 zs w1 hn hm (by omega) hD1 hB1 (by omega) (by omega)).mono ?_
      rintro e w2 ⟨r2, s2, p2, rfl, hr2, hp2, hD2, hO2⟩
      clear hD1 hB1 hD2
      go_wp2
      go_ret
      exact ⟨_, rfl, by omega, hO1.trans hO2⟩
    · have e1 : (r == 1) = false := beq_eq_false_iff_ne.2 h1
      by_cases h2 : r = 2
      · subst h2
        go_wp2_with fail
        refine (pick_great c n cap a p1 s1 70000 zs w1 hn hm (by omega) hD1 hB1 HC.out (by omega) (by omega)).mono ?_
        rintro e w2 ⟨r2, s2, p2, rfl, hr2, hp2, hD2, hO2⟩
        clear hD1 hB1 hD2
        go_wp2
        go_ret
        exact ⟨_, rfl, by omega, hO1.trans hO2⟩
      · have e2 : (r == 2) = false := beq_eq_false_iff_ne.2 h2
        go_wp2_with fail
        refine (pick_small c n cap a p1 s1 12 zs w1 hn hm (by omega) hD1 hB1 (by omega) (by omega)).mono ?_
        rintro e w2 ⟨r2, s2, p2, rfl, hr2, hp2, hD2, hO2⟩
        clear hD1 hB1 hD2
        go_wp2
        go_ret
        exact ⟨_, rfl, by omega, hO1.trans hO2⟩

set_option maxHeartbeats 800000 in
theorem wByte_any (a : Option Addr) (n cap j : Nat) (ji : Int) (zs : List Int) (w : World) (hji : ji = (j : Int)) (hn : zs.length = n) (hm : n ≤ 1048576) (hj : j ≤ 100) (hB : Bytes w a zs) :
    Calls Try.prog 14 #[.slice a n cap, .int .i64 ji] w fun e w' => ∃ r : Int, e = .returned (.int .i64 r) ∧ (0 ≤ r ∧ r ≤ 255) ∧ w' = w := by
  obtain ⟨hz, hB⟩ := hB
  rcases hB with rfl | ⟨b, off, rfl, _, hc⟩
  · have hn0 : n = 0 := by simpa using hn.symm
    subst hn0
    go_enter Try.func14, Try.ntmps14
    go_wp2
    go_ret
    exact ⟨_, rfl, by omega, rfl⟩
  · subst hji
    by_cases h0 : n = 0
    · subst h0
      go_enter Try.func14, Try.ntmps14
      go_wp2
      go_ret
      exact ⟨_, rfl, by omega, rfl⟩
    · have hcl := hc (j % n) (by rw [hn]; exact Nat.mod_lt _ (by omega))
      have hzj := hz (j % n)
      have hlt : j % n < n := Nat.mod_lt _ (by omega)
      generalize zs.getD (j % n) 0 = z at *
      clear hc hz
      have hpos : 0 < n := by omega
      have hne : ((n : Int) == 0) = false := beq_eq_false_iff_ne.2 (by omega)
      have hem : ((j : Int) % (n : Int)) = ((j % n : Nat) : Int) := by simp
      generalize j % n = q at *
      go_enter Try.func14, Try.ntmps14
      go_wp2
      go_ret
      exact ⟨_, rfl, hzj, rfl⟩

set_option maxHeartbeats 1600000 in
theorem packets_any (a : Option Addr) (n cap : Nat) (zs : List Int) (w : World) (hn : zs.length = n) (hm : n ≤ 1048576) (hB : Bytes w a zs) :
    Calls Try.prog 10 #[.slice a n cap] w fun e w' => ∃ k v x s : Int, e = .returned (.agg #[.int .i64 k, .int .i64 v, .int .i64 x, .int .i64 s]) ∧ pkOk k v x s = true ∧ (-9223372036854775808 ≤ x ∧ x ≤ 9223372036854775807) ∧ Below w.heap.size w w' := by
  have HAP : Hid (Apart a zs (w.heap.size + 1)) := hB.apart _ (by omega)
  have hbA : Below w.heap.size w ((w.alloc (.cells #[.int .i64 0, .int .i64 0, .int .i64 0, .int .i64 0] 24)).alloc (.cells #[.slice a n cap, .int .i64 0, .int .u64 0] 62)) := ((Below.refl _ _).alloc (Nat.le_refl _) _).alloc (by simp) _
  have hRA : Blk ((w.alloc (.cells #[.int .i64 0, .int .i64 0, .int .i64 0, .int .i64 0] 24)).alloc (.cells #[.slice a n cap, .int .i64 0, .int .u64 0] 62)) w.heap.size #[.int .i64 0, .int .i64 0, .int .i64 0, .int .i64 0] 24 :=
    (show Blk (w.alloc (.cells #[.int .i64 0, .int .i64 0, .int .i64 0, .int .i64 0] 24)) w.heap.size #[.int .i64 0, .int .i64 0, .int .i64 0, .int .i64 0] 24 from heap_alloc_new w _).below ((Below.refl _ _).alloc (Nat.le_refl _) _) (by simp)
  have hDA : Dw ((w.alloc (.cells #[.int .i64 0, .int .i64 0, .int .i64 0, .int .i64 0] 24)).alloc (.cells #[.slice a n cap, .int .i64 0, .int .u64 0] 62)) (w.heap.size + 1) a n cap 0 0 := by
    refine ⟨?_, by omega, by omega⟩
    have := heap_alloc_new (w.alloc (.cells #[.int .i64 0, .int .i64 0, .int .i64 0, .int .i64 0] 24)) (.cells #[.slice a n cap, .int .i64 0, .int .u64 0] 62)
    rw [World.size_alloc] at this
    exact this
  have hBA := hB.below hbA
  clear hB
  go_enter Try.func10, Try.ntmps10
  go_wp2_with fail
  refine (pick_small (w.heap.size + 1) n cap a 0 0 2 zs _ hn hm (by omega) hDA hBA (by omega) (by omega)).mono ?_
  rintro e w1 ⟨r, s1, p1, rfl, hr, hp1, hD1, hO1⟩
  have hB1 := hBA.only hO1 HAP.out
  have hb1 := hbA.trans (hO1.below (by omega))
  have hR1 := hRA.only hO1 (by omega)
  clear hDA hBA hbA hRA hO1
  go_wp2_with fail
  refine (next_any (w.heap.size + 1) n cap a p1 s1 zs w1 hn hm (by omega) hD1 hB1).mono ?_
  rintro e w2 ⟨r2, s2, rfl, hr2, hD2, hO2⟩
  have hB2 := hB1.only hO2 HAP.out
  have hb2 := hb1.trans (hO2.below (by omega))
  have hR2 := hR1.only hO2 (by omega)
  clear hD1 hB1 hb1 hR1 hO2
  go_wp2_with fail
  refine (next_any (w.heap.size + 1) n cap a (p1 + 1) s2 zs w2 hn hm (by omega) hD2 hB2).mono ?_
  rintro e w3 ⟨r3, s3, rfl, hr3, hD3, hO3⟩
  have hB3 := hB2.only hO3 HAP.out
  have hb3 := hb2.trans (hO3.below (by omega))
  have hR3 := hR2.only hO3 (by omega)
  clear hD2 hB2 hb2 hR2 hO3
  have hz3 := hD3.1.lt
  have hz30 := hR3.lt
  by_cases hr0 : r = 0
  · subst hr0
    have hP4 : Blk (w3.alloc (.cells #[.int .i64 1, .int .i64 (r2 * 31), .int .i64 0, .int .i64 (r3 * 77)] 24)) w3.heap.size #[.int .i64 1, .int .i64 (r2 * 31), .int .i64 0, .int .i64 (r3 * 77)] 24 := heap_alloc_new w3 _
    have al : Below w3.heap.size w3 (w3.alloc (.cells #[.int .i64 1, .int .i64 (r2 * 31), .int .i64 0, .int .i64 (r3 * 77)] 24)) := (Below.refl _ _).alloc (Nat.le_refl _) _
    have hb4 := hb3.trans (al.mono (by omega))
    have hR4 := hR3.below al hz30
    have hD4 : Dw _ (w.heap.size + 1) a n cap (p1 + 1 + 1) s3 := ⟨hD3.1.below al hz3, hD3.2⟩
    have hB4 := hB3.below al
    clear hb3 hR3 hD3 hB3 al
    go_wp2_with fail
    refine (whole_any (w.heap.size + 1) n cap a (p1 + 1 + 1) s3 zs _ hn hm (by omega) hD4 hB4 HAP.out).mono ?_
    rintro e w5 ⟨x, rfl, hx, hO5⟩
    have hb5 := hb4.trans (hO5.below (by omega))
    have hR5 := hR4.only hO5 (by omega)
    have hP5 := hP4.only hO5 (by omega)
    clear hb4 hR4 hD4 hB4 hP4 hO5
    have hne : w.heap.size ≠ w3.heap.size := by omega
    obtain ⟨c0, c1, c2, c3⟩ := hP5.four
    obtain ⟨r0, r1, r2', r3'⟩ := hR5.four
    have f2 := hP5.free 2
    have g0 := hR5.free 0
    have g1 := hR5.free 1
    have g2 := hR5.free 2
    have g3 := hR5.free 3
    go_wp2
    refine bodyPost_ret (v := .agg #[.int .i64 1, .int .i64 (r2 * 31), .int .i64 x, .int .i64 (r3 * 77)]) (by simp [results, Try.results10, go_sem, r0, r1, r2', r3']) rfl ⟨1, r2 * 31, x, r3 * 77, rfl, ?_, hx, ?_⟩
    · rw [ok_in (by omega)]; rfl
    · exact below_set4 (hb5.setCell (p := ⟨w3.heap.size, 2, none⟩) (by show w.heap.size ≤ w3.heap.size; omega) _) (Nat.le_refl _) _ _ _ _
  · have hr1 : r = 1 := by omega
    subst hr1
    clear hr0
    have hlt : w.heap.size < w3.heap.size := by omega
    obtain ⟨r0, r1, r2', r3'⟩ := hR3.four
    have g0 := hR3.free 0
    have g1 := hR3.free 1
    have g2 := hR3.free 2
    have g3 := hR3.free 3
    go_wp2
    refine bodyPost_ret (v := .agg #[.int .i64 2, .int .i64 (r2 * 31), .int .i64 0, .int .i64 (r3 * 77)]) (by simp [results, Try.results10, go_sem, r0, r1, r2', r3', hlt]) rfl ⟨2, r2 * 31, 0, r3 * 77, rfl, ?_, by omega, ?_⟩
    · rw [ok_in (by omega)]; rfl
    · exact (below_set4 hb3 (Nat.le_refl _) _ _ _ _).alloc (by simp; omega) _
end Go.Proofs.Ytfbikieolepldaa
