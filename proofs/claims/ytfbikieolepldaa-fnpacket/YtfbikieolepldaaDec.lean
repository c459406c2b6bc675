/-
  THE WALKS OF impl.Decode AND spec.Decode.
-/
import Derived.Test.YtfbikieolepldaaLev
import Derived.Laws.CopyOwn
namespace Go.Proofs.Ytfbikieolepldaa
open Go.RowKit
attribute [local go_sem ↓] Go.wp_at_zero Go.wp_at_succ

/-! ### A block known whole -/
def Blk (w : World) (p : Nat) (cs : Array Value) (T : TypeId) : Prop := w.heap[p]? = some (.cells cs T (0, 0))
theorem Blk.cell {w : World} {p : Nat} {cs : Array Value} {T : TypeId} (h : Blk w p cs T) (i : Nat) : w.cell? ⟨p, i, none⟩ = cs[i]? := by
  unfold Blk at h; simp [World.cell?, h]
theorem Blk.free {w : World} {p : Nat} {cs : Array Value} {T : TypeId} (h : Blk w p cs T) (i : Nat) : w.frozen? ⟨p, i, none⟩ = false := by
  unfold Blk at h; simp [World.frozen?, h]
theorem Blk.set {w : World} {p : Nat} {cs : Array Value} {T : TypeId} (h : Blk w p cs T) (i : Nat) (v : Value) : Blk (w.setCell ⟨p, i, none⟩ v) p (cs.setIfInBounds i v) T := heap_setCell_same w p i cs T v h
theorem Blk.only {w w' : World} {p g : Nat} {cs : Array Value} {T : TypeId} (h : Blk w p cs T) (ho : Only g w w') (hne : p ≠ g) : Blk w' p cs T := by unfold Blk at h ⊢; rw [ho.block p hne]; exact h
theorem Blk.below {w w' : World} {p B : Nat} {cs : Array Value} {T : TypeId} (h : Blk w p cs T) (hb : Below B w w') (hp : p < B) : Blk w' p cs T := by unfold Blk at h ⊢; rw [hb.block p hp]; exact h
theorem Blk.other {w : World} {p g i : Nat} {cs : Array Value} {T : TypeId} {v : Value} (h : Blk w p cs T) (hne : p ≠ g) : Blk (w.setCell ⟨g, i, none⟩ v) p cs T := by unfold Blk at h ⊢; rw [Below.heap_setCell _ _ _ _ hne]; exact h
theorem Blk.four {w : World} {p : Nat} {a b c d : Value} {T : TypeId} (h : Blk w p #[a, b, c, d] T) : w.cell? ⟨p, 0, none⟩ = some a ∧ w.cell? ⟨p, 1, none⟩ = some b ∧ w.cell? ⟨p, 2, none⟩ = some c ∧ w.cell? ⟨p, 3, none⟩ = some d :=
  ⟨h.cell 0, h.cell 1, h.cell 2, h.cell 3⟩
theorem below_set4 {B p : Nat} {a w : World} (h : Below B a w) (hp : B ≤ p) (x0 x1 x2 x3 : Value) : Below B a ((((w.setCell ⟨p, 0, none⟩ x0).setCell ⟨p, 1, none⟩ x1).setCell ⟨p, 2, none⟩ x2).setCell ⟨p, 3, none⟩ x3) :=
  (((h.setCell (p := ⟨p, 0, none⟩) hp x0).setCell (p := ⟨p, 1, none⟩) hp x1).setCell (p := ⟨p, 2, none⟩) hp x2).setCell (p := ⟨p, 3, none⟩) hp x3
theorem Blk.lt {w : World} {p : Nat} {cs : Array Value} {T : TypeId} (h : Blk w p cs T) : p < w.heap.size := heap_lt h
theorem Rdr.blk {w : World} {g p : Nat} {T : TypeId} {bs : List Int} (h : Rdr w g T bs p) : Blk w g (bs.map (Value.int .u8) ++ [Value.int .i64 (p : Int)]).toArray T := h.2.2
theorem Rdr.other {w : World} {g p q i : Nat} {T : TypeId} {bs : List Int} {v : Value} (h : Rdr w g T bs p) (hne : g ≠ q) : Rdr (w.setCell ⟨q, i, none⟩ v) g T bs p := ⟨h.1, h.2.1, h.blk.other hne⟩

/-! ### What the bytes say -/
def dM (bs : List Int) : Int := lev ((bs.drop 0).take 1)
def dK (bs : List Int) : Int := lev ((bs.drop 1).take 1)
def dV (bs : List Int) : Int := lev ((bs.drop 2).take 4)
def dL (bs : List Int) : Int := lev ((bs.drop 6).take 8)
def dX (bs : List Int) : Int := wrap64 (dL bs)
def dS (bs : List Int) : Int := lev ((bs.drop 14).take 4)
def dC (bs : List Int) : Int := lev ((bs.drop 18).take 6)
def good (bs : List Int) : Bool := decide (dM bs = 72) && decide (dC bs = fnv (bs.take 18) % 281474976710656) && pkOk (dK bs) (dV bs) (dX bs) (dS bs)
/-- The packet that the bytes say, or the zero value. -/
def decV (bs : List Int) : Value := if good bs then .agg #[.int .i64 (dK bs), .int .i64 (dV bs), .int .i64 (dX bs), .int .i64 (dS bs)] else .agg #[.int .i64 0, .int .i64 0, .int .i64 0, .int .i64 0]

theorem dBd (bs : List Int) (p k : Nat) (h : ByteL bs) : 0 ≤ lev ((bs.drop p).take k) ∧ lev ((bs.drop p).take k) < 256 ^ k :=
  ⟨lev_nonneg _ ((h.drop p).take k), lev_lt8 _ k ((h.drop p).take k) (by rw [List.length_take]; omega)⟩
theorem good_m {bs : List Int} (h : ¬ dM bs = 72) : good bs = false := by unfold good; rw [decide_eq_false h]; rfl
theorem good_c {bs : List Int} (h : ¬ dC bs = fnv (bs.take 18) % 281474976710656) : good bs = false := by unfold good; rw [decide_eq_false h, Bool.and_false]; rfl
theorem good_k {bs : List Int} (h : pkOk (dK bs) (dV bs) (dX bs) (dS bs) = false) : good bs = false := by unfold good; rw [h, Bool.and_false]
theorem good_y {bs : List Int} (h : dM bs = 72) (hc : dC bs = fnv (bs.take 18) % 281474976710656) (hk : pkOk (dK bs) (dV bs) (dX bs) (dS bs) = true) : good bs = true := by unfold good; rw [decide_eq_true h, decide_eq_true hc, hk]; rfl
theorem take_as (g k p : Nat) (kk r : Int) (bs : List Int) (w : World) (hkk : kk = (k : Int)) (hr : lev ((bs.drop p).take k) = r) (hR : Rdr w g 73 bs p) (hm : p + k ≤ 24) (hk8 : k ≤ 8) :
    Calls Try.prog 40 #[.pointer (some ⟨g, 0, none⟩), .int .i64 kk] w fun e w' => e = .returned (.int .u64 r) ∧ Rdr w' g 73 bs (p + k) ∧ Only g w w' := by
  subst hr; exact take_at g k p kk bs w hkk hR hm hk8

theorem rdr_new {w : World} {g : Nat} {bs : List Int} {T : TypeId} (hb : ByteL bs) (hl : bs.length = 24) (h : w.heap[g]? = some (.cells (splice (curCells []) 0 (bs.map (Value.int .u8))).toArray T (0, 0))) : Rdr w g T bs 0 := by
  refine ⟨hb, hl, ?_⟩
  rw [h]
  have e : splice (curCells []) 0 (bs.map (Value.int .u8)) = bs.map (Value.int .u8) ++ [Value.int .i64 ((0 : Nat) : Int)] := by
    unfold splice
    rw [List.length_map, hl]
    rfl
  rw [e]

theorem Try.size5 : (Try.prog.info? 5).map (·.size) = some 1 := by kernel_rfl

set_option maxHeartbeats 400000 in
theorem implDec_len (a : Option Addr) (n cap : Nat) (w : World) (hn : n ≠ 24) (_hm : n ≤ 9223372036854775807) :
    Calls Try.prog 12 #[.slice a n cap] w fun e w' => e = .returned (.agg #[.int .i64 0, .int .i64 0, .int .i64 0, .int .i64 0]) ∧ Below w.heap.size w w' := by
  have hne : ((n : Int) != 24) = true := by rw [bne_iff_ne]; omega
  go_enter Try.func12, Try.ntmps12
  go_wp2
  refine bodyPost_ret (v := .agg #[.int .i64 0, .int .i64 0, .int .i64 0, .int .i64 0]) (by simp [results, Try.results12, go_sem]) rfl ⟨rfl, ?_⟩
  exact (Below.refl _ _).alloc (Nat.le_refl _) _

/-- What 'copy' does into the reader's array. -/
theorem copy24 (b off cap g : Nat) (bs : List Int) (W : World) (hg : Blk W g #[Value.int .u8 0, Value.int .u8 0, Value.int .u8 0, Value.int .u8 0, Value.int .u8 0, Value.int .u8 0, Value.int .u8 0, Value.int .u8 0, Value.int .u8 0, Value.int .u8 0, Value.int .u8 0, Value.int .u8 0, Value.int .u8 0, Value.int .u8 0, Value.int .u8 0, Value.int .u8 0, Value.int .u8 0, Value.int .u8 0, Value.int .u8 0, Value.int .u8 0, Value.int .u8 0, Value.int .u8 0, Value.int .u8 0, Value.int .u8 0, Value.int .i64 0] 73) (hl : bs.length = 24) (hB : ByteL bs) (hc : ∀ i, i < 24 → W.cell? ⟨b, off + i, none⟩ = some (.int .u8 (bs.getD i 0))) :
    ∃ w1, Sem.run Try.prog (Builtin.copy_ #[22, 22] 3 #[.slice (some ⟨g, 0, none⟩) 24 24, .slice (some ⟨b, off, none⟩) 24 cap]) W = .ok (.int .i64 24) w1 ∧ Rdr w1 g 73 bs 0 ∧ Only g W w1 := by
  have h := run_copy_row Try.prog W 22 22 3 5 g 0 24 24 ⟨b, off, none⟩ 24 cap _ 73 (bs.map (Value.int .u8)) Try.underlying22 Try.size5 hg (by rw [List.length_map, hl]; rfl) ?h1 (by rw [List.length_map, hl]; decide) ?h2
  case h1 =>
    intro j v hv
    rw [List.getElem?_map] at hv
    by_cases hj : j < 24
    · rw [List.getElem?_eq_getElem (by omega)] at hv
      have := hc j hj
      rw [List.getD_eq_getElem?_getD, List.getElem?_eq_getElem (by omega)] at this
      simp only [Option.map_some, Option.some.injEq] at hv
      simp only [Option.getD_some] at this
      rw [← hv]
      by_cases hj0 : j = 0
      · subst hj0; simpa [Addr.add] using this
      · simpa [Addr.add, hj0] using this
    · rw [List.getElem?_eq_none (by omega)] at hv; simp at hv
  case h2 =>
    intro v hv
    obtain ⟨x, _, rfl⟩ := List.mem_map.1 hv
    rfl
  rw [List.length_map, hl] at h
  refine ⟨_, h, ⟨hB, hl, ?_⟩, ?_⟩
  · rw [setRow_heap W g _ _ 73 (0, 0) hg]
    rfl
  · exact ⟨rfl, rfl, rfl, by simp [World.setRow], fun k hk => setRow_other W g k _ hk⟩

set_option maxRecDepth 4000 in
set_option maxHeartbeats 1600000 in
theorem implDec_any (b off cap : Nat) (bs : List Int) (w : World) (hl : bs.length = 24) (hB : ByteL bs) (hb : b < w.heap.size) (hc : ∀ i, i < 24 → w.cell? ⟨b, off + i, none⟩ = some (.int .u8 (bs.getD i 0))) :
    Calls Try.prog 12 #[.slice (some ⟨b, off, none⟩) 24 cap] w fun e w' => e = .returned (decV bs) ∧ Below w.heap.size w w' := by
  have HL : Hid (bs.length = 24) := hl
  have HB : Hid (ByteL bs) := hB
  have hR0 : Blk (w.alloc (.cells #[.int .i64 0, .int .i64 0, .int .i64 0, .int .i64 0] 24)) w.heap.size #[.int .i64 0, .int .i64 0, .int .i64 0, .int .i64 0] 24 := heap_alloc_new w _
  have hg0 : Blk ((w.alloc (.cells #[.int .i64 0, .int .i64 0, .int .i64 0, .int .i64 0] 24)).alloc (.cells #[Value.int .u8 0, Value.int .u8 0, Value.int .u8 0, Value.int .u8 0, Value.int .u8 0, Value.int .u8 0, Value.int .u8 0, Value.int .u8 0, Value.int .u8 0, Value.int .u8 0, Value.int .u8 0, Value.int .u8 0, Value.int .u8 0, Value.int .u8 0, Value.int .u8 0, Value.int .u8 0, Value.int .u8 0, Value.int .u8 0, Value.int .u8 0, Value.int .u8 0, Value.int .u8 0, Value.int .u8 0, Value.int .u8 0, Value.int .u8 0, Value.int .i64 0] 73)) (w.heap.size + 1) #[Value.int .u8 0, Value.int .u8 0, Value.int .u8 0, Value.int .u8 0, Value.int .u8 0, Value.int .u8 0, Value.int .u8 0, Value.int .u8 0, Value.int .u8 0, Value.int .u8 0, Value.int .u8 0, Value.int .u8 0, Value.int .u8 0, Value.int .u8 0, Value.int .u8 0, Value.int .u8 0, Value.int .u8 0, Value.int .u8 0, Value.int .u8 0, Value.int .u8 0, Value.int .u8 0, Value.int .u8 0, Value.int .u8 0, Value.int .u8 0, Value.int .i64 0] 73 := by
    have := heap_alloc_new (w.alloc (.cells #[.int .i64 0, .int .i64 0, .int .i64 0, .int .i64 0] 24)) (.cells #[Value.int .u8 0, Value.int .u8 0, Value.int .u8 0, Value.int .u8 0, Value.int .u8 0, Value.int .u8 0, Value.int .u8 0, Value.int .u8 0, Value.int .u8 0, Value.int .u8 0, Value.int .u8 0, Value.int .u8 0, Value.int .u8 0, Value.int .u8 0, Value.int .u8 0, Value.int .u8 0, Value.int .u8 0, Value.int .u8 0, Value.int .u8 0, Value.int .u8 0, Value.int .u8 0, Value.int .u8 0, Value.int .u8 0, Value.int .u8 0, Value.int .i64 0] 73)
    rw [World.size_alloc] at this
    exact this
  have hbA : Below w.heap.size w ((w.alloc (.cells #[.int .i64 0, .int .i64 0, .int .i64 0, .int .i64 0] 24)).alloc (.cells #[Value.int .u8 0, Value.int .u8 0, Value.int .u8 0, Value.int .u8 0, Value.int .u8 0, Value.int .u8 0, Value.int .u8 0, Value.int .u8 0, Value.int .u8 0, Value.int .u8 0, Value.int .u8 0, Value.int .u8 0, Value.int .u8 0, Value.int .u8 0, Value.int .u8 0, Value.int .u8 0, Value.int .u8 0, Value.int .u8 0, Value.int .u8 0, Value.int .u8 0, Value.int .u8 0, Value.int .u8 0, Value.int .u8 0, Value.int .u8 0, Value.int .i64 0] 73)) := ((Below.refl _ _).alloc (Nat.le_refl _) _).alloc (by simp) _
  have hRA := hR0.below (w' := (w.alloc (.cells #[.int .i64 0, .int .i64 0, .int .i64 0, .int .i64 0] 24)).alloc (.cells #[Value.int .u8 0, Value.int .u8 0, Value.int .u8 0, Value.int .u8 0, Value.int .u8 0, Value.int .u8 0, Value.int .u8 0, Value.int .u8 0, Value.int .u8 0, Value.int .u8 0, Value.int .u8 0, Value.int .u8 0, Value.int .u8 0, Value.int .u8 0, Value.int .u8 0, Value.int .u8 0, Value.int .u8 0, Value.int .u8 0, Value.int .u8 0, Value.int .u8 0, Value.int .u8 0, Value.int .u8 0, Value.int .u8 0, Value.int .u8 0, Value.int .i64 0] 73)) ((Below.refl _ _).alloc (Nat.le_refl _) _) (by simp)
  obtain ⟨w1, hrun, hR1, hO1⟩ := copy24 b off cap (w.heap.size + 1) bs _ hg0 hl hB (fun i hi => by rw [hbA.cell hb]; exact hc i hi)
  have hb1 := hbA.trans (hO1.below (by omega))
  have hO1s := hO1.size
  have hRes1 := hRA.only hO1 (by omega)
  have HRun : Hid _ := hrun
  clear hl hB hc hR0 hg0 hbA hRA hO1 hrun
  go_enter Try.func12, Try.ntmps12
  go_wp2_with fail
  rw [HRun.out]
  clear HRun
  have bM := dBd bs 0 1 HB.out
  have bK := dBd bs 1 1 HB.out
  have bV := dBd bs 2 4 HB.out
  have bL := dBd bs 6 8 HB.out
  have bS := dBd bs 14 4 HB.out
  have bC := dBd bs 18 6 HB.out
  have hM : 0 ≤ dM bs ∧ dM bs ≤ 255 := by unfold dM; omega
  have hK : 0 ≤ dK bs ∧ dK bs ≤ 255 := by unfold dK; omega
  have hV : 0 ≤ dV bs ∧ dV bs ≤ 4294967295 := by unfold dV; omega
  have hLL : 0 ≤ dL bs ∧ dL bs ≤ 18446744073709551615 := by unfold dL; omega
  have hS : 0 ≤ dS bs ∧ dS bs ≤ 4294967295 := by unfold dS; omega
  have hCC : 0 ≤ dC bs ∧ dC bs ≤ 18446744073709551615 := by unfold dC; omega
  clear bM bK bV bL bS bC
  have hz1 : w1.heap.size = w.heap.size + 2 := by have := hO1s; simp at this; omega
  go_wp2_with fail
  refine (take_as (w.heap.size + 1) 1 0 1 (dM bs) bs _ rfl rfl hR1 (by omega) (by omega)).mono ?_
  rintro e w2 ⟨rfl, hR2, hO2⟩
  have hb2 := hb1.trans (hO2.below (by omega))
  have hRes2 := hRes1.only hO2 (by omega)
  have hz2 := hO2.size
  rw [hz1] at hz2
  clear hR1 hb1 hRes1 hO2 hz1
  have al : Below w2.heap.size w2 (w2.alloc (.cells #[.int .i64 0, .int .i64 0, .int .i64 0, .int .i64 0] 24)) := (Below.refl _ _).alloc (Nat.le_refl _) _
  have hR3 := hR2.below al (by omega)
  have hRes3 := hRes2.below al (by omega)
  have hb3 := hb2.trans (al.mono (by omega))
  have hP3 : Blk (w2.alloc (.cells #[.int .i64 0, .int .i64 0, .int .i64 0, .int .i64 0] 24)) (w.heap.size + 2) #[.int .i64 0, .int .i64 0, .int .i64 0, .int .i64 0] 24 := by
    have := heap_alloc_new w2 (.cells #[.int .i64 0, .int .i64 0, .int .i64 0, .int .i64 0] 24); rw [hz2] at this; exact this
  clear hR2 hb2 hRes2 al
  go_wp2_with fail
  clear hz2
  refine (take_as (w.heap.size + 1) 1 1 1 (dK bs) bs _ rfl rfl hR3 (by omega) (by omega)).mono ?_
  rintro e w4 ⟨rfl, hR4, hO4⟩
  have hb4 := hb3.trans (hO4.below (by omega))
  have hRes4 := hRes3.only hO4 (by omega)
  have hP4 := hP3.only hO4 (by omega)
  clear hR3 hb3 hRes3 hP3 hO4
  have pc := hP4.cell 0
  have pf := hP4.free 0
  rw [show (#[.int .i64 0, .int .i64 0, .int .i64 0, .int .i64 0] : Array Value)[0]? = some (.int .i64 0) from rfl] at pc
  go_wp2_with fail
  clear pc pf
  have hR5 := hR4.other (q := w.heap.size + 2) (i := 0) (v := .int .i64 (dK bs)) (by omega)
  have hb5 := hb4.setCell (p := ⟨w.heap.size + 2, 0, none⟩) (by simp) (.int .i64 (dK bs))
  have hRes5 := hRes4.other (g := w.heap.size + 2) (i := 0) (v := .int .i64 (dK bs)) (by omega)
  have hP5 : Blk (w4.setCell ⟨w.heap.size + 2, 0, none⟩ (.int .i64 (dK bs))) (w.heap.size + 2) #[.int .i64 (dK bs), .int .i64 0, .int .i64 0, .int .i64 0] 24 := hP4.set 0 _
  clear hR4 hb4 hRes4 hP4
  refine (take_as (w.heap.size + 1) 4 2 4 (dV bs) bs _ rfl rfl hR5 (by omega) (by omega)).mono ?_
  rintro e w6 ⟨rfl, hR6, hO6⟩
  have hb6 := hb5.trans (hO6.below (by omega))
  have hRes6 := hRes5.only hO6 (by omega)
  have hP6 := hP5.only hO6 (by omega)
  clear hR5 hb5 hRes5 hP5 hO6
  have pc := hP6.cell 1
  have pf := hP6.free 1
  rw [show (#[.int .i64 (dK bs), .int .i64 0, .int .i64 0, .int .i64 0] : Array Value)[1]? = some (.int .i64 0) from rfl] at pc
  go_wp2_with fail
  clear pc pf
  have hR7 := hR6.other (q := w.heap.size + 2) (i := 1) (v := .int .i64 (dV bs)) (by omega)
  have hb7 := hb6.setCell (p := ⟨w.heap.size + 2, 1, none⟩) (by simp) (.int .i64 (dV bs))
  have hRes7 := hRes6.other (g := w.heap.size + 2) (i := 1) (v := .int .i64 (dV bs)) (by omega)
  have hP7 : Blk (w6.setCell ⟨w.heap.size + 2, 1, none⟩ (.int .i64 (dV bs))) (w.heap.size + 2) #[.int .i64 (dK bs), .int .i64 (dV bs), .int .i64 0, .int .i64 0] 24 := hP6.set 1 _
  clear hR6 hb6 hRes6 hP6
  refine (take_as (w.heap.size + 1) 8 6 8 (dL bs) bs _ rfl rfl hR7 (by omega) (by omega)).mono ?_
  rintro e w8 ⟨rfl, hR8, hO8⟩
  have hb8 := hb7.trans (hO8.below (by omega))
  have hRes8 := hRes7.only hO8 (by omega)
  have hP8 := hP7.only hO8 (by omega)
  clear hR7 hb7 hRes7 hP7 hO8
  have pc := hP8.cell 2
  have pf := hP8.free 2
  rw [show (#[.int .i64 (dK bs), .int .i64 (dV bs), .int .i64 0, .int .i64 0] : Array Value)[2]? = some (.int .i64 0) from rfl] at pc
  go_wp2_with fail
  clear pc pf
  have hR9 := hR8.other (q := w.heap.size + 2) (i := 2) (v := .int .i64 (wrap64 (dL bs))) (by omega)
  have hb9 := hb8.setCell (p := ⟨w.heap.size + 2, 2, none⟩) (by simp) (.int .i64 (wrap64 (dL bs)))
  have hRes9 := hRes8.other (g := w.heap.size + 2) (i := 2) (v := .int .i64 (wrap64 (dL bs))) (by omega)
  have hP9 : Blk (w8.setCell ⟨w.heap.size + 2, 2, none⟩ (.int .i64 (wrap64 (dL bs)))) (w.heap.size + 2) #[.int .i64 (dK bs), .int .i64 (dV bs), .int .i64 (wrap64 (dL bs)), .int .i64 0] 24 := hP8.set 2 _
  clear hR8 hb8 hRes8 hP8
  refine (take_as (w.heap.size + 1) 4 14 4 (dS bs) bs _ rfl rfl hR9 (by omega) (by omega)).mono ?_
  rintro e w10 ⟨rfl, hR10, hO10⟩
  have hb10 := hb9.trans (hO10.below (by omega))
  have hRes10 := hRes9.only hO10 (by omega)
  have hP10 := hP9.only hO10 (by omega)
  clear hR9 hb9 hRes9 hP9 hO10
  have pc := hP10.cell 3
  have pf := hP10.free 3
  rw [show (#[.int .i64 (dK bs), .int .i64 (dV bs), .int .i64 (wrap64 (dL bs)), .int .i64 0] : Array Value)[3]? = some (.int .i64 0) from rfl] at pc
  go_wp2_with fail
  clear pc pf
  have hR11 := hR10.other (q := w.heap.size + 2) (i := 3) (v := .int .i64 (dS bs)) (by omega)
  have hb11 := hb10.setCell (p := ⟨w.heap.size + 2, 3, none⟩) (by simp) (.int .i64 (dS bs))
  have hRes11 := hRes10.other (g := w.heap.size + 2) (i := 3) (v := .int .i64 (dS bs)) (by omega)
  have hP11 : Blk (w10.setCell ⟨w.heap.size + 2, 3, none⟩ (.int .i64 (dS bs))) (w.heap.size + 2) #[.int .i64 (dK bs), .int .i64 (dV bs), .int .i64 (wrap64 (dL bs)), .int .i64 (dS bs)] 24 := hP10.set 3 _
  clear hR10 hb10 hRes10 hP10
  refine (sum_any (w.heap.size + 1) 18 73 bs _ hR11 (by omega)).mono ?_
  rintro e w12 ⟨rfl, q, hq⟩
  have hR12 : Rdr w12 (w.heap.size + 1) 73 bs 18 := by rw [hq]; exact hR11
  have hb12 : Below w.heap.size w w12 := by rw [hq]; exact hb11.trans ⟨rfl, rfl, rfl, Nat.le_refl _, fun _ _ => rfl⟩
  have hRes12 : Blk w12 w.heap.size #[.int .i64 0, .int .i64 0, .int .i64 0, .int .i64 0] 24 := by rw [hq]; exact hRes11
  have hP12 : Blk w12 (w.heap.size + 2) #[.int .i64 (dK bs), .int .i64 (dV bs), .int .i64 (wrap64 (dL bs)), .int .i64 (dS bs)] 24 := by rw [hq]; exact hP11
  clear hR11 hb11 hRes11 hP11 hq
  have hF := fnv_bd (bs.take 18)
  by_cases h72 : dM bs = 72
  · have hbm : (dM bs != 72) = false := by simp [h72]
    have HG1 : Hid (dM bs = 72) := h72
    clear h72
    go_wp2_with fail
    refine (take_as (w.heap.size + 1) 6 18 6 (dC bs) bs _ rfl rfl hR12 (by omega) (by omega)).mono ?_
    rintro e w13 ⟨rfl, hR13, hO13⟩
    have hb13 := hb12.trans (hO13.below (by omega))
    have hRes13 := hRes12.only hO13 (by omega)
    have hP13 := hP12.only hO13 (by omega)
    clear hR12 hb12 hRes12 hP12 hO13 hR13
    by_cases hc : dC bs = fnv (bs.take 18) % 281474976710656
    · have hbc : (dC bs != fnv (bs.take 18) % 281474976710656) = false := by simp [hc]
      have HG2 : Hid (dC bs = fnv (bs.take 18) % 281474976710656) := hc
      clear hc
      obtain ⟨c0, c1, c2, c3⟩ := hP13.four
      go_wp2_with fail
      clear c0 c1 c2 c3
      refine (implOk_any _ _ _ _ _).mono ?_
      rintro e w14 ⟨rfl, hB14⟩
      have hlp := hP13.lt
      have hlr := hRes13.lt
      have hb14 := hb13.trans (hB14.mono (by omega))
      have hRes14 := hRes13.below hB14 hlr
      have hP14 := hP13.below hB14 hlp
      clear hb13 hRes13 hP13 hB14 hlp hlr
      cases hok : pkOk (dK bs) (dV bs) (wrap64 (dL bs)) (dS bs) with
      | false =>
        have HG : Hid (decV bs = (.agg #[.int .i64 0, .int .i64 0, .int .i64 0, .int .i64 0])) := by unfold decV; rw [good_k hok]; rfl
        clear hok
        obtain ⟨r0, r1, r2, r3⟩ := hRes14.four
        have f0 := hRes14.free 0
        have f1 := hRes14.free 1
        have f2 := hRes14.free 2
        have f3 := hRes14.free 3
        go_wp2
        refine bodyPost_ret (v := (.agg #[.int .i64 0, .int .i64 0, .int .i64 0, .int .i64 0])) (by simp [results, Try.results12, go_sem, r0, r1, r2, r3]) rfl ⟨by rw [HG.out], ?_⟩
        exact below_set4 hb14 (Nat.le_refl _) _ _ _ _
      | true =>
        have HG : Hid (decV bs = .agg #[.int .i64 (dK bs), .int .i64 (dV bs), .int .i64 (wrap64 (dL bs)), .int .i64 (dS bs)]) := by unfold decV; rw [good_y HG1.out HG2.out hok]; rfl
        clear hok
        obtain ⟨c0, c1, c2, c3⟩ := hP14.four
        obtain ⟨r0, r1, r2, r3⟩ := hRes14.four
        have f0 := hRes14.free 0
        have f1 := hRes14.free 1
        have f2 := hRes14.free 2
        have f3 := hRes14.free 3
        go_wp2
        refine bodyPost_ret (v := .agg #[.int .i64 (dK bs), .int .i64 (dV bs), .int .i64 (wrap64 (dL bs)), .int .i64 (dS bs)]) (by simp [results, Try.results12, go_sem, r0, r1, r2, r3]) rfl ⟨by rw [HG.out], ?_⟩
        exact below_set4 hb14 (Nat.le_refl _) _ _ _ _
    · have hbc : (dC bs != fnv (bs.take 18) % 281474976710656) = true := by simpa using hc
      have HG : Hid (decV bs = (.agg #[.int .i64 0, .int .i64 0, .int .i64 0, .int .i64 0])) := by unfold decV; rw [good_c hc]; rfl
      clear hc
      obtain ⟨r0, r1, r2, r3⟩ := hRes13.four
      have f0 := hRes13.free 0
      have f1 := hRes13.free 1
      have f2 := hRes13.free 2
      have f3 := hRes13.free 3
      go_wp2
      refine bodyPost_ret (v := (.agg #[.int .i64 0, .int .i64 0, .int .i64 0, .int .i64 0])) (by simp [results, Try.results12, go_sem, r0, r1, r2, r3]) rfl ⟨by rw [HG.out], ?_⟩
      exact below_set4 hb13 (Nat.le_refl _) _ _ _ _
  · have hbm : (dM bs != 72) = true := by simpa using h72
    have HG : Hid (decV bs = (.agg #[.int .i64 0, .int .i64 0, .int .i64 0, .int .i64 0])) := by unfold decV; rw [good_m h72]; rfl
    clear h72
    obtain ⟨r0, r1, r2, r3⟩ := hRes12.four
    have f0 := hRes12.free 0
    have f1 := hRes12.free 1
    have f2 := hRes12.free 2
    have f3 := hRes12.free 3
    go_wp2
    refine bodyPost_ret (v := (.agg #[.int .i64 0, .int .i64 0, .int .i64 0, .int .i64 0])) (by simp [results, Try.results12, go_sem, r0, r1, r2, r3]) rfl ⟨by rw [HG.out], ?_⟩
    exact below_set4 hb12 (Nat.le_refl _) _ _ _ _

/-! ### The two ways of reading agree -/
theorem list24 {bs : List Int} (hl : bs.length = 24) : bs = (bs.drop 0).take 1 ++ ((bs.drop 1).take 1 ++ ((bs.drop 2).take 4 ++ ((bs.drop 6).take 8 ++ ((bs.drop 14).take 4 ++ (bs.drop 18).take 6)))) := by
  have e6 : (bs.drop 18).take 6 = bs.drop 18 := List.take_of_length_le (by rw [List.length_drop]; omega)
  have s : ∀ p k, bs.drop p = (bs.drop p).take k ++ bs.drop (p + k) := fun p k => by
    rw [← List.drop_drop, List.take_append_drop]
  rw [e6, ← s 14 4, ← s 6 8, ← s 2 4, ← s 1 1, ← s 0 1]
  simp
theorem take18 {bs : List Int} (hl : bs.length = 24) : bs.take 18 = (bs.drop 0).take 1 ++ ((bs.drop 1).take 1 ++ ((bs.drop 2).take 4 ++ ((bs.drop 6).take 8 ++ (bs.drop 14).take 4))) := by
  have h := list24 hl
  have h2 : bs = ((bs.drop 0).take 1 ++ ((bs.drop 1).take 1 ++ ((bs.drop 2).take 4 ++ ((bs.drop 6).take 8 ++ (bs.drop 14).take 4)))) ++ (bs.drop 18).take 6 := by
    simpa using h
  have h3 : (((bs.drop 0).take 1 ++ ((bs.drop 1).take 1 ++ ((bs.drop 2).take 4 ++ ((bs.drop 6).take 8 ++ (bs.drop 14).take 4)))) ++ (bs.drop 18).take 6).take 18 = ((bs.drop 0).take 1 ++ ((bs.drop 1).take 1 ++ ((bs.drop 2).take 4 ++ ((bs.drop 6).take 8 ++ (bs.drop 14).take 4)))) := by
    apply List.take_left'
    simp; omega
  rw [← h2] at h3
  exact h3
theorem len_dt {bs : List Int} (hl : bs.length = 24) (p k : Nat) (h : p + k ≤ 24) : ((bs.drop p).take k).length = k := by
  rw [List.length_take, List.length_drop, hl]; omega
theorem enc18_of {bs : List Int} (hl : bs.length = 24) (hB : ByteL bs) : enc18 (dK bs) (dV bs) (dX bs) (dS bs) = [72] ++ ((bs.drop 1).take 1 ++ ((bs.drop 2).take 4 ++ ((bs.drop 6).take 8 ++ (bs.drop 14).take 4))) := by
  have bL := dBd bs 6 8 hB
  have e8 : IntKind.u64.wrap (dX bs) = lev ((bs.drop 6).take 8) := u64_back (lev ((bs.drop 6).take 8)) (by omega)
  unfold enc18
  rw [e8]
  unfold dK dV dS
  rw [leb_lev_at _ 1 ((hB.drop 1).take 1) (len_dt hl 1 1 (by omega)), leb_lev_at _ 4 ((hB.drop 2).take 4) (len_dt hl 2 4 (by omega)), leb_lev_at _ 8 ((hB.drop 6).take 8) (len_dt hl 6 8 (by omega)), leb_lev_at _ 4 ((hB.drop 14).take 4) (len_dt hl 14 4 (by omega))]
  simp
theorem mark_of {bs : List Int} (hl : bs.length = 24) (hB : ByteL bs) : (bs.drop 0).take 1 = [72] ↔ dM bs = 72 := by
  have h1 : leb (dM bs) 1 = (bs.drop 0).take 1 := leb_lev_at _ 1 ((hB.drop 0).take 1) (len_dt hl 0 1 (by omega))
  have bM := dBd bs 0 1 hB
  constructor
  · intro h; unfold dM; rw [h]; rfl
  · intro h; rw [← h1, h]; rfl
theorem enc_same {bs : List Int} (hl : bs.length = 24) (hB : ByteL bs) : encB (dK bs) (dV bs) (dX bs) (dS bs) = bs ↔ (dM bs = 72 ∧ dC bs = fnv (bs.take 18) % 281474976710656) := by
  have h18 := enc18_of hl hB
  have h6 := leb_lev_at ((bs.drop 18).take 6) 6 ((hB.drop 18).take 6) (len_dt hl 18 6 (by omega))
  have ht := take18 hl
  have hw := list24 hl
  have hw2 : bs = bs.take 18 ++ (bs.drop 18).take 6 := by rw [ht]; simpa using hw
  constructor
  · intro h
    have hT : enc18 (dK bs) (dV bs) (dX bs) (dS bs) = bs.take 18 := by
      have : (encB (dK bs) (dV bs) (dX bs) (dS bs)).take 18 = bs.take 18 := by rw [h]
      rw [← this]
      unfold encB
      rw [List.take_left']
      simp [enc18, leb_length]
    have hM : dM bs = 72 := by
      rw [← mark_of hl hB]
      rw [h18, ht] at hT
      exact (List.append_inj_left hT (by rw [len_dt hl 0 1 (by omega)]; rfl)).symm
    refine ⟨hM, ?_⟩
    have hC : leb (fnv (bs.take 18)) 6 = (bs.drop 18).take 6 := by
      have h2 : bs.take 18 ++ leb (fnv (bs.take 18)) 6 = bs.take 18 ++ (bs.drop 18).take 6 := by
        rw [← hw2, ← hT]; exact h
      exact List.append_cancel_left h2
    unfold dC
    rw [← hC, lev_leb6]
  · rintro ⟨hM, hC⟩
    have hT : enc18 (dK bs) (dV bs) (dX bs) (dS bs) = bs.take 18 := by
      rw [h18, ht, (mark_of hl hB).2 hM]
    unfold encB
    rw [hT]
    have h7 : leb (fnv (bs.take 18)) 6 = (bs.drop 18).take 6 := by
      rw [← leb_48, ← hC]; exact h6
    rw [h7]
    exact hw2.symm
theorem dK_get {bs : List Int} (hl : bs.length = 24) : dK bs = bs.getD 1 0 := by
  unfold dK
  have : (bs.drop 1).take 1 = [bs.getD 1 0] := by
    rw [List.drop_eq_getElem_cons (show 1 < bs.length by omega), List.take_succ_cons, List.take_zero, List.getD_eq_getElem?_getD, List.getElem?_eq_getElem (show 1 < bs.length by omega)]
    rfl
  rw [this]
  show _ + 256 * 0 = _
  omega

/-! ### spec.Decode -/
theorem getD_drop_take (bs : List Int) (p k i : Nat) (hi : i < k) : ((bs.drop p).take k).getD i 0 = bs.getD (p + i) 0 := by
  rw [List.getD_eq_getElem?_getD, List.getElem?_take, if_pos hi, List.getElem?_drop, ← List.getD_eq_getElem?_getD]
theorem get_as (b off n cap p : Nat) (r : Int) (bs : List Int) (w : World) (hl : bs.length = 24) (hm : n ≤ 8) (hp : p + n ≤ 24) (hB : ByteL bs) (hr : lev ((bs.drop p).take n) = r)
    (hc : ∀ i, i < 24 → w.cell? ⟨b, off + i, none⟩ = some (.int .u8 (bs.getD i 0))) :
    Calls Try.prog 60 #[.slice (some ⟨b, off + p, none⟩) n cap] w fun e w' => e = .returned (.int .u64 r) ∧ w' = w := by
  subst hr
  refine l1get_any b (off + p) n cap _ w (by rw [List.length_take, List.length_drop, hl]; omega) hm ((hB.drop p).take n) fun i hi => ?_
  rw [getD_drop_take bs p n i hi, Nat.add_assoc]
  exact hc (p + i) (by omega)

set_option maxHeartbeats 400000 in
theorem specDec_len (a : Option Addr) (n cap : Nat) (w : World) (hn : n ≠ 24) (_hm : n ≤ 9223372036854775807) :
    Calls Try.prog 30 #[.slice a n cap] w fun e w' => e = .returned (.agg #[.int .i64 0, .int .i64 0, .int .i64 0, .int .i64 0]) ∧ Below w.heap.size w w' := by
  have hne : ((n : Int) != 24) = true := by rw [bne_iff_ne]; omega
  go_enter Try.func30, Try.ntmps30
  go_wp2
  refine bodyPost_ret (v := (.agg #[.int .i64 0, .int .i64 0, .int .i64 0, .int .i64 0])) (by simp [results, Try.results30, go_sem]) rfl ⟨rfl, ?_⟩
  exact (Below.refl _ _).alloc (Nat.le_refl _) _

set_option maxHeartbeats 600000 in
theorem specDec_any (b off : Nat) (bs : List Int) (w : World) (hl : bs.length = 24) (hB : ByteL bs) (hb : b < w.heap.size) (hc : ∀ i, i < 24 → w.cell? ⟨b, off + i, none⟩ = some (.int .u8 (bs.getD i 0))) :
    Calls Try.prog 30 #[.slice (some ⟨b, off, none⟩) 24 24] w fun e w' => e = .returned (decV bs) ∧ Below w.heap.size w w' := by
  have HL : Hid (bs.length = 24) := hl
  have HB : Hid (ByteL bs) := hB
  have HC : Hid (∀ W, Below w.heap.size w W → ∀ i, i < 24 → W.cell? ⟨b, off + i, none⟩ = some (.int .u8 (bs.getD i 0))) := fun W hW i hi => by rw [hW.cell hb]; exact hc i hi
  have b1 := hB 1
  have bV := dBd bs 2 4 hB
  have bL := dBd bs 6 8 hB
  have bS := dBd bs 14 4 hB
  have hV : 0 ≤ lev ((bs.drop 2).take 4) ∧ lev ((bs.drop 2).take 4) ≤ 4294967295 := by omega
  have hLL : 0 ≤ lev ((bs.drop 6).take 8) ∧ lev ((bs.drop 6).take 8) ≤ 18446744073709551615 := by omega
  have hSS : 0 ≤ lev ((bs.drop 14).take 4) ∧ lev ((bs.drop 14).take 4) ≤ 4294967295 := by omega
  clear bV bL bS hl hB hc
  go_enter Try.func30, Try.ntmps30
  have hS : ∀ W, Below w.heap.size w W → W.cell? ⟨b, off + 1, none⟩ = some (.int .u8 (bs.getD 1 0)) := fun W hW => HC.out W hW 1 (by omega)
  have HS : Hid (∀ W, Below w.heap.size w W → W.cell? ⟨b, off + 1, none⟩ = some (.int .u8 (bs.getD 1 0))) := hS
  clear hS
  generalize hb1 : bs.getD 1 0 = k at *
  have Hb1 : Hid (bs.getD 1 0 = k) := hb1
  clear hb1
  go_wp2_with fail
  go_region_held3 (fun w' => w'.cell? ⟨b, off + 1, none⟩ = some (.int .u8 k)) ((refine HS.out _ ?_; repeat (first | exact Below.refl _ _ | refine Below.drew ?_ | refine Below.alloc ?_ (by simp) _))) (first | (go_at_call 60; refine (get_as b off _ _ _ _ bs _ HL.out ?_ ?_ HB.out rfl ?_).mono ?_; omega; omega; (refine HC.out _ ?_; repeat (first | exact Below.refl _ _ | refine Below.drew ?_ | refine Below.alloc ?_ (by simp) _)); rintro e w' ⟨rfl, rfl⟩))
  all_goals
    go_wp2_with fail
    rw [show k = dK bs from by rw [dK_get HL.out, Hb1.out], show lev (List.take 4 (List.drop 2 bs)) = dV bs from rfl, show lev (List.take 8 (List.drop 6 bs)) = dL bs from rfl, show lev (List.take 4 (List.drop 14 bs)) = dS bs from rfl]
    clear b1 HS Hb1 hV hLL hSS
    have hbW : Below w.heap.size w (((w.alloc (.cells #[.int .i64 0, .int .i64 0, .int .i64 0, .int .i64 0] 24)).alloc (.cells #[.int .i64 (dK bs), .int .i64 (dV bs), .int .i64 (wrap64 (dL bs)), .int .i64 (dS bs)] 24)).drew) := (((Below.refl _ _).alloc (Nat.le_refl _) _).alloc (by simp) _).drew
    have hRW : Blk (((w.alloc (.cells #[.int .i64 0, .int .i64 0, .int .i64 0, .int .i64 0] 24)).alloc (.cells #[.int .i64 (dK bs), .int .i64 (dV bs), .int .i64 (wrap64 (dL bs)), .int .i64 (dS bs)] 24)).drew) w.heap.size #[.int .i64 0, .int .i64 0, .int .i64 0, .int .i64 0] 24 :=
      (show Blk (w.alloc (.cells #[.int .i64 0, .int .i64 0, .int .i64 0, .int .i64 0] 24)) w.heap.size #[.int .i64 0, .int .i64 0, .int .i64 0, .int .i64 0] 24 from heap_alloc_new w _).below (((Below.refl _ _).alloc (Nat.le_refl _) _).drew) (by simp)
    have hPW : Blk (((w.alloc (.cells #[.int .i64 0, .int .i64 0, .int .i64 0, .int .i64 0] 24)).alloc (.cells #[.int .i64 (dK bs), .int .i64 (dV bs), .int .i64 (wrap64 (dL bs)), .int .i64 (dS bs)] 24)).drew) (w.heap.size + 1) #[.int .i64 (dK bs), .int .i64 (dV bs), .int .i64 (wrap64 (dL bs)), .int .i64 (dS bs)] 24 := by
      have := heap_alloc_new (w.alloc (.cells #[.int .i64 0, .int .i64 0, .int .i64 0, .int .i64 0] 24)) (.cells #[.int .i64 (dK bs), .int .i64 (dV bs), .int .i64 (wrap64 (dL bs)), .int .i64 (dS bs)] 24)
      rw [World.size_alloc] at this
      exact this
    have hlr := hRW.lt
    have hlp := hPW.lt
    have hzW := hbW.size
    cases hok : pkOk (dK bs) (dV bs) (wrap64 (dL bs)) (dS bs) with
    | false =>
        have HG : Hid (decV bs = (.agg #[.int .i64 0, .int .i64 0, .int .i64 0, .int .i64 0])) := by unfold decV; rw [good_k hok]; rfl
        refine (specEnc_no _ _ _ _ _ hok).mono ?_
        clear hok
        rintro e w3 ⟨rfl, hb3⟩
        have hb4 := hbW.trans (hb3.mono (by omega))
        have hR4 := hRW.below hb3 hlr
        clear hbW hRW hPW hb3 hlr hlp hzW
        go_wp2_with fail
        refine (l1same_nil b off 24 w3).mono ?_
        rintro e w4 ⟨rfl, hw⟩
        rw [hw]
        clear hw
        obtain ⟨r0, r1, r2, r3⟩ := hR4.four
        have f0 := hR4.free 0
        have f1 := hR4.free 1
        have f2 := hR4.free 2
        have f3 := hR4.free 3
        go_wp2
        refine bodyPost_ret (v := (.agg #[.int .i64 0, .int .i64 0, .int .i64 0, .int .i64 0])) (by simp [results, Try.results30, go_sem, r0, r1, r2, r3]) rfl ⟨by rw [HG.out], ?_⟩
        exact below_set4 hb4 (Nat.le_refl _) _ _ _ _
    | true =>
        obtain ⟨p1, p2, p3, _⟩ := pkOk_parts hok
        refine (specEnc_yes _ _ _ _ _ hok p1 p2 p3).mono ?_
        clear p1 p2 p3
        rintro e w3 ⟨g, cg, rfl, hog, hgg, hb3⟩
        have hb4 := hbW.trans (hb3.mono (by omega))
        have hR4 := hRW.below hb3 hlr
        have hP4 := hPW.below hb3 hlp
        have hcb : ∀ i, i < 24 → w3.cell? ⟨b, off + i, none⟩ = some (.int .u8 (bs.getD i 0)) := HC.out w3 hb4
        have HOK : Hid (pkOk (dK bs) (dV bs) (dX bs) (dS bs) = true) := hok
        have HSM : Hid (encB (dK bs) (dV bs) (wrap64 (dL bs)) (dS bs) = bs ↔ (dM bs = 72 ∧ dC bs = fnv (bs.take 18) % 281474976710656)) := enc_same HL.out HB.out
        have HEL : Hid ((encB (dK bs) (dV bs) (wrap64 (dL bs)) (dS bs)).length = 24) := encB_length _ _ _ _
        have HCB : Hid (∀ i, i < 24 → w3.cell? ⟨b, off + i, none⟩ = some (.int .u8 (bs.getD i 0))) := hcb
        clear hbW hRW hPW hb3 hlr hlp hzW hok hcb
        generalize encB (dK bs) (dV bs) (wrap64 (dL bs)) (dS bs) = E at *
        go_wp2_with fail
        refine (l1same_any g 0 b off 24 cg 24 E bs w3 (by omega) HEL.out HL.out (fun i hi => hog.cell i (by rw [HEL.out]; exact hi)) HCB.out).mono ?_
        rintro e w4 ⟨rfl, hb5⟩
        have hlr := hR4.lt
        have hlp := hP4.lt
        have hz4 := hb4.size
        have hb6 := hb4.trans (hb5.mono (by omega))
        have hR6 := hR4.below hb5 hlr
        have hP6 := hP4.below hb5 hlp
        clear hb4 hR4 hP4 hog hb5 hlr hlp hz4
        by_cases hE : E = bs
        · have HG : Hid (decV bs = .agg #[.int .i64 (dK bs), .int .i64 (dV bs), .int .i64 (wrap64 (dL bs)), .int .i64 (dS bs)]) := by unfold decV; rw [good_y (HSM.out.1 hE).1 (HSM.out.1 hE).2 HOK.out]; rfl
          rw [decide_eq_true hE]
          clear hE
          obtain ⟨c0, c1, c2, c3⟩ := hP6.four
          obtain ⟨r0, r1, r2, r3⟩ := hR6.four
          have f0 := hR6.free 0
          have f1 := hR6.free 1
          have f2 := hR6.free 2
          have f3 := hR6.free 3
          go_wp2
          refine bodyPost_ret (v := .agg #[.int .i64 (dK bs), .int .i64 (dV bs), .int .i64 (wrap64 (dL bs)), .int .i64 (dS bs)]) (by simp [results, Try.results30, go_sem, r0, r1, r2, r3]) rfl ⟨by rw [HG.out], ?_⟩
          exact below_set4 hb6 (Nat.le_refl _) _ _ _ _
        · have HG : Hid (decV bs = (.agg #[.int .i64 0, .int .i64 0, .int .i64 0, .int .i64 0])) := by
            have hng : good bs = false := by
              by_cases hm : dM bs = 72
              · exact good_c (fun hc => hE (HSM.out.2 ⟨hm, hc⟩))
              · exact good_m hm
            unfold decV; rw [hng]; rfl
          rw [decide_eq_false hE]
          clear hE
          obtain ⟨r0, r1, r2, r3⟩ := hR6.four
          have f0 := hR6.free 0
          have f1 := hR6.free 1
          have f2 := hR6.free 2
          have f3 := hR6.free 3
          go_wp2
          refine bodyPost_ret (v := (.agg #[.int .i64 0, .int .i64 0, .int .i64 0, .int .i64 0])) (by simp [results, Try.results30, go_sem, r0, r1, r2, r3]) rfl ⟨by rw [HG.out], ?_⟩
          exact below_set4 hb6 (Nat.le_refl _) _ _ _ _
end Go.Proofs.Ytfbikieolepldaa
