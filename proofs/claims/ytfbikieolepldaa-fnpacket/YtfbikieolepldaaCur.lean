/-
  THE CURSOR's BLOCK (24 bytes and a place), AND THE WALKS OF step, put, sum, take.
-/
import Derived.Test.YtfbikieolepldaaBytes
import Derived.Deep.RegionHeld3
import Derived.Deep.DrawnRows
import Derived.Laws.Bits64b
namespace Go.Proofs.Ytfbikieolepldaa
open Go.RowKit
attribute [local go_sem ↓] Go.wp_at_zero Go.wp_at_succ

/-! ### One block has turned, and no other -/
structure Only (g : Nat) (w w' : World) : Prop where
  os : w'.os = w.os
  tape : w'.tape = w.tape
  output : w'.output = w.output
  size : w'.heap.size = w.heap.size
  block : ∀ k, k ≠ g → w'.heap[k]? = w.heap[k]?
theorem Only.refl (g : Nat) (w : World) : Only g w w := ⟨rfl, rfl, rfl, rfl, fun _ _ => rfl⟩
theorem Only.trans {g : Nat} {a b c : World} (h : Only g a b) (k : Only g b c) : Only g a c :=
  ⟨k.os.trans h.os, k.tape.trans h.tape, k.output.trans h.output, k.size.trans h.size, fun i hi => (k.block i hi).trans (h.block i hi)⟩
theorem Only.set {g : Nat} {a w : World} (h : Only g a w) (i : Nat) (u : Value) : Only g a (w.setCell ⟨g, i, none⟩ u) :=
  h.trans ⟨rfl, rfl, rfl, by simp [World.setCell], fun k hk => Below.heap_setCell _ _ _ _ hk⟩
theorem Only.drewN {g : Nat} {a w : World} (h : Only g a w) (n : Nat) : Only g a (w.drewN n) :=
  h.trans ⟨rfl, rfl, rfl, rfl, fun _ _ => rfl⟩
theorem Only.drew {g : Nat} {a w : World} (h : Only g a w) : Only g a w.drew :=
  h.trans ⟨rfl, rfl, rfl, rfl, fun _ _ => rfl⟩
theorem Only.below {g B : Nat} {w w' : World} (h : Only g w w') (hB : B ≤ g) : Below B w w' :=
  ⟨h.os, h.tape, h.output, Nat.le_of_eq h.size.symm, fun k hk => h.block k (by omega)⟩
theorem Only.cell {g : Nat} {w w' : World} (h : Only g w w') {p : Addr} (hp : p.block ≠ g) : w'.cell? p = w.cell? p := World.cell?_of_block (w := w) (h.block p.block hp)

/-! ### The cursor -/
/-- Its cells: what was put, noughts, the place. -/
def curCells (pre : List Int) : List Value := (pre ++ List.replicate (24 - pre.length) 0).map (Value.int .u8) ++ [.int .i64 (pre.length : Int)]
def Cur (w : World) (g : Nat) (T : TypeId) (pre : List Int) : Prop :=
  (∀ j : Nat, 0 ≤ pre.getD j 0 ∧ pre.getD j 0 ≤ 255) ∧ pre.length ≤ 24 ∧ w.heap[g]? = some (.cells (curCells pre).toArray T (0, 0))

theorem cur_len (pre : List Int) (h : pre.length ≤ 24) : (pre ++ List.replicate (24 - pre.length) 0).length = 24 := by simp; omega
theorem Cur.lt {w : World} {g : Nat} {T : TypeId} {pre : List Int} (h : Cur w g T pre) : g < w.heap.size := heap_lt h.2.2
theorem Cur.place {w : World} {g : Nat} {T : TypeId} {pre : List Int} (h : Cur w g T pre) : w.cell? ⟨g, 24, none⟩ = some (.int .i64 (pre.length : Int)) := by
  obtain ⟨_, h1, hh⟩ := h
  have hl := cur_len pre h1
  simp only [World.cell?, hh]
  show (curCells pre).toArray[24]? = _
  rw [List.getElem?_toArray]
  unfold curCells
  rw [List.getElem?_append_right (by rw [List.length_map, hl]; exact Nat.le_refl _), List.length_map, hl]
  rfl
theorem Cur.free {w : World} {g : Nat} {T : TypeId} {pre : List Int} (h : Cur w g T pre) (i : Nat) : w.frozen? ⟨g, i, none⟩ = false := by
  obtain ⟨_, _, hh⟩ := h
  simp [World.frozen?, hh]
theorem Cur.cell {w : World} {g : Nat} {T : TypeId} {pre : List Int} (h : Cur w g T pre) (i : Nat) (hi : i < 24) : w.cell? ⟨g, i, none⟩ = some (.int .u8 ((pre ++ List.replicate (24 - pre.length) 0).getD i 0)) := by
  obtain ⟨_, h1, hh⟩ := h
  have hl := cur_len pre h1
  simp only [World.cell?, hh]
  show (curCells pre).toArray[i]? = _
  rw [List.getElem?_toArray]
  unfold curCells
  rw [List.getElem?_append_left (by rw [List.length_map, hl]; exact hi), List.getElem?_map, List.getD_eq_getElem?_getD]
  rw [List.getElem?_eq_getElem (by omega)]
  rfl
theorem Cur.only {w w' : World} {g g' : Nat} {T : TypeId} {pre : List Int} (h : Cur w g T pre) (ho : Only g' w w') (hne : g ≠ g') : Cur w' g T pre :=
  ⟨h.1, h.2.1, by rw [ho.block g hne]; exact h.2.2⟩
theorem Cur.below {w w' : World} {g B : Nat} {T : TypeId} {pre : List Int} (h : Cur w g T pre) (hb : Below B w w') (hg : g < B) : Cur w' g T pre :=
  ⟨h.1, h.2.1, by rw [hb.block g hg]; exact h.2.2⟩
theorem curCells_put (pre : List Int) (z : Int) (h : pre.length < 24) : ((curCells pre).set 24 (.int .i64 ((pre.length : Int) + 1))).set pre.length (.int .u8 z) = curCells (pre ++ [z]) := by
  have hl := cur_len pre (by omega)
  have e : 24 - pre.length = (24 - (pre.length + 1)) + 1 := by omega
  unfold curCells
  rw [List.set_append, if_neg (by rw [List.length_map, hl]; omega), List.length_map, hl, List.set_append, if_pos (by rw [List.length_map, hl]; exact h)]
  rw [e, List.replicate_succ, List.map_append, List.set_append, if_neg (by simp)]
  simp
theorem Cur.put {w : World} {g : Nat} {T : TypeId} {pre : List Int} (h : Cur w g T pre) (hlt : pre.length < 24) (z : Int) (hz : 0 ≤ z ∧ z ≤ 255) :
    Cur ((w.setCell ⟨g, 24, none⟩ (.int .i64 ((pre.length : Int) + 1))).setCell ⟨g, pre.length, none⟩ (.int .u8 z)) g T (pre ++ [z]) := by
  obtain ⟨h0, h1, hh⟩ := h
  refine ⟨?_, by simp; omega, ?_⟩
  · intro j
    have := h0 j
    simp only [List.getD_eq_getElem?_getD, List.getElem?_append] at this ⊢
    split
    · exact this
    · by_cases hj : j - pre.length = 0
      · rw [hj]; simpa using hz
      · rw [List.getElem?_eq_none (by simp; omega)]; simp
  · have s1 := heap_setCell_same w g 24 _ T (.int .i64 ((pre.length : Int) + 1)) hh
    have s2 := heap_setCell_same _ g pre.length _ T (.int .u8 z) s1
    rw [s2, ← curCells_put pre z hlt]
    simp

/-! ### Numbers, lowest byte first -/
/-- What is left of a number behind k bytes. -/
def sh (n : Int) : Nat → Int
  | 0 => n
  | k + 1 => sh n k / 256
/-- Its k lowest bytes. -/
def leb (n : Int) (k : Nat) : List Int := (List.range k).map fun i => sh n i % 256
theorem leb_zero (n : Int) : leb n 0 = [] := rfl
theorem leb_succ (n : Int) (k : Nat) : leb n (k + 1) = leb n k ++ [sh n k % 256] := by unfold leb; rw [List.range_succ, List.map_append]; rfl
theorem leb_length (n : Int) (k : Nat) : (leb n k).length = k := by simp [leb]
theorem sh_bd (n : Int) (k : Nat) (h : 0 ≤ n ∧ n ≤ 18446744073709551615) : 0 ≤ sh n k ∧ sh n k ≤ 18446744073709551615 := by
  induction k with
  | zero => exact h
  | succ k ih => show 0 ≤ sh n k / 256 ∧ sh n k / 256 ≤ _; omega

/-! ### The walks -/
set_option maxHeartbeats 400000 in
theorem step_any (g : Nat) (p : Int) (w : World) (hc : w.cell? ⟨g, 24, none⟩ = some (.int .i64 p)) (hf : w.frozen? ⟨g, 24, none⟩ = false) (h0 : 0 ≤ p) (hm : p ≤ 1000) :
    Calls Try.prog 63 #[.pointer (some ⟨g, 0, none⟩)] w fun e w' => e = .returned (.int .i64 p) ∧ w' = w.setCell ⟨g, 24, none⟩ (.int .i64 (p + 1)) := by
  go_enter Try.func63, Try.ntmps63
  go_wp2
  go_ret
  exact ⟨rfl, rfl⟩

set_option maxHeartbeats 800000 in
theorem put_any (g size : Nat) (n : Int) (pre : List Int) (w : World) (hC : Cur w g 70 pre) (hm : pre.length + size ≤ 24) (hn : 0 ≤ n ∧ n ≤ 18446744073709551615) :
    Calls Try.prog 38 #[.pointer (some ⟨g, 0, none⟩), .int .u64 n, .int .i64 size] w fun e w' => e = .returned (.tuple #[]) ∧ Cur w' g 70 (pre ++ leb n size) ∧ Only g w w' := by
  have HC : Hid (Cur w g 70 pre) := hC
  have HN : Hid (0 ≤ n ∧ n ≤ 18446744073709551615) := hn
  clear hC
  go_enter Try.func38, Try.ntmps38
  go_wp2
  go_loopw [1, 7] (fun v i wr => ∃ k : Nat, k ≤ size ∧ i = .int .i64 k ∧ v = .int .u64 (sh n k) ∧ Hid (Cur wr g 70 (pre ++ leb n k)) ∧ Hid (Only g w wr)) (fun _ i _ => size - (intOf i).toNat)
  case atStart => exact ⟨0, Nat.zero_le _, rfl, rfl, by rw [leb_zero, List.append_nil]; exact HC.out, Only.refl _ _⟩
  case round =>
    clear HC
    obtain ⟨k, hk, rfl, rfl, HC, HO⟩ := hrel
    by_cases hlt : k < size
    · have hlen : (pre ++ leb n k).length = pre.length + k := by rw [List.length_append, leb_length]
      have hsn := sh_bd n k HN.out
      have HS : Hid (pre ++ leb n (k + 1) = (pre ++ leb n k) ++ [sh n k % 256] ∧ sh n (k + 1) = sh n k / 256) := ⟨by rw [leb_succ, List.append_assoc], rfl⟩
      have cp := HC.out.place
      have fp := HC.out.free 24
      have cz := HC.out.cell (pre.length + k) (by omega)
      have fz := HC.out.free (pre.length + k)
      have hput := HC.out.put (by omega) (sh n k % 256) (by omega)
      rw [hlen] at cp hput
      rw [← HS.out.1] at hput
      have HP : Hid (Cur ((wr.setCell ⟨g, 24, none⟩ (.int .i64 (((pre.length + k : Nat) : Int) + 1))).setCell ⟨g, pre.length + k, none⟩ (.int .u8 (sh n k % 256))) g 70 (pre ++ leb n (k + 1))) := hput
      clear hput hlen HC
      generalize sh n k = m at *
      generalize (pre ++ leb n k ++ List.replicate (24 - (pre ++ leb n k).length) 0).getD (pre.length + k) 0 = z at *
      obtain ⟨q, hq⟩ : ∃ q, q = pre.length + k := ⟨_, rfl⟩
      have hq24 : q < 24 := by omega
      rw [← hq] at cp cz fz HP
      clear hq
      have hqi : (q : Int) < 24 := by omega
      have hkk : (k : Int) < (size : Int) := by omega
      go_wp2_with fail
      go_region_held3 (fun _ => True) (trivial) (first | (go_at_call 63; refine (step_any g q _ ?_ ?_ ?_ ?_).mono ?_; (simp [*]); (simp [*]); omega; omega; rintro e w' ⟨rfl, rfl⟩))
      go_wp2
      exact ⟨⟨k + 1, by omega, by go_num, by rw [HS.out.2], HP, ((HO.out.set 24 _).set q _).drew⟩, by simp [intOf]; omega⟩
    · have hkn : k = size := by omega
      subst hkn
      have hc2 := HC.out
      have ho2 := HO.out
      clear HC HO
      go_wp2
      go_end0
      exact ⟨rfl, hc2, ho2⟩

/-- A cursor over 24 bytes, at a place. -/
def Rdr (w : World) (g : Nat) (T : TypeId) (bs : List Int) (p : Nat) : Prop :=
  (∀ j : Nat, 0 ≤ bs.getD j 0 ∧ bs.getD j 0 ≤ 255) ∧ bs.length = 24 ∧ w.heap[g]? = some (.cells (bs.map (Value.int .u8) ++ [Value.int .i64 (p : Int)]).toArray T (0, 0))
theorem Rdr.lt {w : World} {g p : Nat} {T : TypeId} {bs : List Int} (h : Rdr w g T bs p) : g < w.heap.size := heap_lt h.2.2
theorem Rdr.place {w : World} {g p : Nat} {T : TypeId} {bs : List Int} (h : Rdr w g T bs p) : w.cell? ⟨g, 24, none⟩ = some (.int .i64 (p : Int)) := by
  obtain ⟨_, hl, hh⟩ := h
  simp only [World.cell?, hh]
  show (bs.map (Value.int .u8) ++ [Value.int .i64 (p : Int)]).toArray[24]? = _
  rw [List.getElem?_toArray, List.getElem?_append_right (by rw [List.length_map, hl]; exact Nat.le_refl _), List.length_map, hl]
  rfl
theorem Rdr.free {w : World} {g p : Nat} {T : TypeId} {bs : List Int} (h : Rdr w g T bs p) (i : Nat) : w.frozen? ⟨g, i, none⟩ = false := by
  obtain ⟨_, _, hh⟩ := h
  simp [World.frozen?, hh]
theorem Rdr.cell {w : World} {g p : Nat} {T : TypeId} {bs : List Int} (h : Rdr w g T bs p) (i : Nat) (hi : i < 24) : w.cell? ⟨g, i, none⟩ = some (.int .u8 (bs.getD i 0)) := by
  obtain ⟨_, hl, hh⟩ := h
  simp only [World.cell?, hh]
  show (bs.map (Value.int .u8) ++ [Value.int .i64 (p : Int)]).toArray[i]? = _
  rw [List.getElem?_toArray, List.getElem?_append_left (by rw [List.length_map, hl]; exact hi), List.getElem?_map, List.getD_eq_getElem?_getD]
  rw [List.getElem?_eq_getElem (by omega)]
  rfl
theorem Rdr.bytes {w : World} {g p : Nat} {T : TypeId} {bs : List Int} (h : Rdr w g T bs p) (k : Nat) : Bytes w (some ⟨g, 0, none⟩) (bs.take k) := by
  refine ⟨fun j => ?_, .inr ⟨g, 0, rfl, h.lt, fun i hi => ?_⟩⟩
  · rw [List.getD_eq_getElem?_getD, List.getElem?_take]
    split
    · exact h.1 j
    · simp
  · have hl := h.2.1
    rw [List.length_take] at hi
    rw [List.getD_eq_getElem?_getD, List.getElem?_take, if_pos (by omega), Nat.zero_add, ← List.getD_eq_getElem?_getD]
    exact h.cell i (by omega)
theorem Rdr.own {w : World} {g p : Nat} {T : TypeId} {bs : List Int} (h : Rdr w g T bs p) : Own w g 0 bs := by
  obtain ⟨h0, hl, hh⟩ := h
  refine ⟨h0, _, T, hh, fun i hi => ?_⟩
  rw [Nat.zero_add, List.getElem?_toArray, List.getElem?_append_left (by rw [List.length_map]; exact hi), List.getElem?_map, List.getD_eq_getElem?_getD]
  rw [List.getElem?_eq_getElem hi]
  rfl
theorem Rdr.below {w w' : World} {g B p : Nat} {T : TypeId} {bs : List Int} (h : Rdr w g T bs p) (hb : Below B w w') (hg : g < B) : Rdr w' g T bs p :=
  ⟨h.1, h.2.1, by rw [hb.block g hg]; exact h.2.2⟩
theorem Cur.rdr {w : World} {g : Nat} {T : TypeId} {pre : List Int} (h : Cur w g T pre) : Rdr w g T (pre ++ List.replicate (24 - pre.length) 0) pre.length := by
  obtain ⟨h0, h1, hh⟩ := h
  refine ⟨fun j => ?_, cur_len pre h1, hh⟩
  have := h0 j
  simp only [List.getD_eq_getElem?_getD, List.getElem?_append, List.getElem?_replicate] at this ⊢
  split
  · exact this
  · split <;> simp
theorem Rdr.step {w : World} {g p : Nat} {T : TypeId} {bs : List Int} (h : Rdr w g T bs p) : Rdr (w.setCell ⟨g, 24, none⟩ (.int .i64 ((p : Int) + 1))) g T bs (p + 1) := by
  obtain ⟨h0, hl, hh⟩ := h
  refine ⟨h0, hl, ?_⟩
  rw [heap_setCell_same w g 24 _ T (.int .i64 ((p : Int) + 1)) hh]
  have e : ((bs.map (Value.int .u8) ++ [Value.int .i64 (p : Int)]).toArray.setIfInBounds 24 (Value.int .i64 ((p : Int) + 1))) = (bs.map (Value.int .u8) ++ [Value.int .i64 (((p + 1 : Nat) : Int))]).toArray := by
    rw [List.setIfInBounds_toArray, List.set_append, if_neg (by rw [List.length_map]; omega), List.length_map, hl]
    simp
  rw [e]

theorem u64_back (f : Int) (h : 0 ≤ f ∧ f ≤ 18446744073709551615) : IntKind.u64.wrap (wrap64 f) = f := by
  unfold wrap64; rw [IntKind.wrap_u64]; omega
theorem and48 (f : Int) (h : 0 ≤ f ∧ f ≤ 18446744073709551615) : bits .and .u64 (IntKind.u64.wrap (wrap64 f)) 281474976710655 = f % 281474976710656 := by
  rw [u64_back f h]
  obtain ⟨n, rfl⟩ := Int.eq_ofNat_of_zero_le h.1
  have e := bits_and_u64_nat n 281474976710655 (by omega) (by omega)
  have e2 : n &&& 281474976710655 = n % 281474976710656 := Nat.and_two_pow_sub_one_eq_mod n 48
  rw [e2] at e
  exact e

set_option maxHeartbeats 400000 in
theorem sum_any (g p : Nat) (T : TypeId) (bs : List Int) (w : World) (hR : Rdr w g T bs p) (hp : p ≤ 24) :
    Calls Try.prog 39 #[.pointer (some ⟨g, 0, none⟩)] w fun e w' => e = .returned (.int .u64 (fnv (bs.take p) % 281474976710656)) ∧ ∃ q, w' = w.drewN q := by
  have cp := hR.place
  have HB : Hid (∀ q, Bytes (w.drewN q) (some ⟨g, 0, none⟩) (bs.take p)) := fun q => (hR.bytes p).below ⟨rfl, rfl, rfl, Nat.le_refl _, fun _ _ => rfl⟩
  have hl : (bs.take p).length = p := by rw [List.length_take, hR.2.1]; omega
  have HL : Hid ((bs.take p).length = p) := hl
  have hf := fnv_bd (bs.take p)
  have hpi : (p : Int) ≤ 24 := by omega
  have hp0 : (0 : Int) ≤ (p : Int) := by omega
  clear hl hR
  generalize bs.take p = l at *
  have HS : Hid (∀ q, Calls Try.prog 26 #[.slice (some ⟨g, 0, none⟩) p 24] (w.drewN q) fun e w' => e = .returned (.int .i64 (wrap64 (fnv l))) ∧ w' = w.drewN q) := by
    intro q
    have := implSum_any (some ⟨g, 0, none⟩) 24 l (w.drewN q) (by rw [HL.out]; omega) (HB.out q)
    rw [HL.out] at this
    exact this
  go_enter Try.func39, Try.ntmps39
  go_wp2
  go_quiet ((go_at_call 26; exact Calls.quiet_of_same (HS.out _)))
  go_wp2
  go_ret
  exact ⟨ret_int (and48 _ hf), _, rfl⟩

theorem Own.only {w w' : World} {g g' off : Nat} {zs : List Int} (h : Own w g off zs) (ho : Only g' w w') (hne : g ≠ g') : Own w' g off zs := by
  obtain ⟨h1, cs, T, hh, hc⟩ := h
  exact ⟨h1, cs, T, by rw [ho.block g hne]; exact hh, hc⟩
theorem Cur.own {w : World} {g : Nat} {T : TypeId} {l : List Int} (h : Cur w g T l) (hl : l.length = 24) : Own w g 0 l := by
  have := h.rdr.own
  rw [hl] at this
  simpa using this
end Go.Proofs.Ytfbikieolepldaa
