/-
  BYTES IN MEMORY, AND THE WALKS OF toByteS, eqByteS, impl.Sum, spec.l1sum, spec.Sum.
-/
import Derived.Test.YtfbikieolepldaaRows
import Derived.WalkKit
import Derived.WalkSpells
import Derived.WalkLawsBesides
import Derived.Deep.QuietTactic
import Derived.BigQuiet
namespace Go.Proofs.Ytfbikieolepldaa
open Go.RowKit

/-! ### The sum, as numbers -/
/-- One step of the sum. -/
def stp (h z : Int) : Int := IntKind.u64.wrap (bits .xor .u64 h z * 1099511628211)
/-- The sum of a list of bytes. -/
def fnv (zs : List Int) : Int := zs.foldl stp 14695981039346656037

theorem stp_bd (h z : Int) : 0 ≤ stp h z ∧ stp h z ≤ 18446744073709551615 := by
  unfold stp; rw [IntKind.wrap_u64]; omega
theorem fnv_snoc (l : List Int) (z : Int) : fnv (l ++ [z]) = stp (fnv l) z := by unfold fnv; rw [List.foldl_append]; rfl
theorem fnv_bd (l : List Int) : 0 ≤ fnv l ∧ fnv l ≤ 18446744073709551615 := by
  rcases List.eq_nil_or_concat l with rfl | ⟨l', z, rfl⟩
  · decide
  · rw [List.concat_eq_append, fnv_snoc]; exact stp_bd _ _
theorem take_snoc {α : Type} (l : List α) (k : Nat) (d : α) (h : k < l.length) : l.take (k + 1) = l.take k ++ [l.getD k d] := by
  rw [List.take_succ_eq_append_getElem h]; simp [h]
theorem fnv_take (l : List Int) (k : Nat) (h : k < l.length) : fnv (l.take (k + 1)) = stp (fnv (l.take k)) (l.getD k 0) := by
  rw [take_snoc l k 0 h, fnv_snoc]

/-! ### Bytes in memory -/
/-- A slice's address leads to these bytes. -/
def Bytes (w : World) (a : Option Addr) (zs : List Int) : Prop :=
  (∀ j : Nat, 0 ≤ zs.getD j 0 ∧ zs.getD j 0 ≤ 255) ∧
  (zs = [] ∨ ∃ b off, a = some ⟨b, off, none⟩ ∧ b < w.heap.size ∧ ∀ i, i < zs.length → w.cell? ⟨b, off + i, none⟩ = some (.int .u8 (zs.getD i 0)))
/-- A block holds these bytes from 'off' on, and may be written. -/
def Own (w : World) (g off : Nat) (zs : List Int) : Prop :=
  (∀ j : Nat, 0 ≤ zs.getD j 0 ∧ zs.getD j 0 ≤ 255) ∧
  ∃ cs T, w.heap[g]? = some (.cells cs T (0, 0)) ∧ ∀ i, i < zs.length → cs[off + i]? = some (.int .u8 (zs.getD i 0))

theorem heap_lt {w : World} {g : Nat} {o : Obj} (h : w.heap[g]? = some o) : g < w.heap.size := by
  rcases Nat.lt_or_ge g w.heap.size with h' | h'
  · exact h'
  · rw [Array.getElem?_eq_none h'] at h; cases h
theorem Own.lt {w : World} {g off : Nat} {zs : List Int} (h : Own w g off zs) : g < w.heap.size := by
  obtain ⟨_, cs, T, hh, _⟩ := h; exact heap_lt hh
theorem Own.cell {w : World} {g off : Nat} {zs : List Int} (h : Own w g off zs) (i : Nat) (hi : i < zs.length) : w.cell? ⟨g, off + i, none⟩ = some (.int .u8 (zs.getD i 0)) := by
  obtain ⟨_, cs, T, hh, hc⟩ := h
  have := hc i hi
  simp [World.cell?, hh, this]
theorem Own.free {w : World} {g off : Nat} {zs : List Int} (h : Own w g off zs) (i : Nat) : w.frozen? ⟨g, i, none⟩ = false := by
  obtain ⟨_, cs, T, hh, _⟩ := h
  simp [World.frozen?, hh]
theorem Own.bytes {w : World} {g off : Nat} {zs : List Int} (h : Own w g off zs) : Bytes w (some ⟨g, off, none⟩) zs :=
  ⟨h.1, .inr ⟨g, off, rfl, h.lt, fun i hi => h.cell i hi⟩⟩
theorem Own.below {w w' : World} {g off B : Nat} {zs : List Int} (h : Own w g off zs) (hb : Below B w w') (hg : g < B) : Own w' g off zs := by
  obtain ⟨h1, cs, T, hh, hc⟩ := h
  exact ⟨h1, cs, T, by rw [hb.block g hg]; exact hh, hc⟩
theorem Bytes.below {w w' : World} {a : Option Addr} {zs : List Int} (h : Bytes w a zs) (hb : Below w.heap.size w w') : Bytes w' a zs := by
  obtain ⟨h1, h2⟩ := h
  refine ⟨h1, ?_⟩
  rcases h2 with h2 | ⟨b, off, ha, hlt, hc⟩
  · exact .inl h2
  · exact .inr ⟨b, off, ha, Nat.lt_of_lt_of_le hlt hb.size, fun i hi => by rw [hb.cell hlt]; exact hc i hi⟩
theorem Own.put {w : World} {g off : Nat} {zs : List Int} (h : Own w g off zs) (i : Nat) (hi : i < zs.length) (z : Int) (hz : 0 ≤ z ∧ z ≤ 255) : Own (w.setCell ⟨g, off + i, none⟩ (.int .u8 z)) g off (zs.set i z) := by
  obtain ⟨h1, cs, T, hh, hc⟩ := h
  refine ⟨?_, cs.setIfInBounds (off + i) (.int .u8 z), T, heap_setCell_same w g (off + i) cs T _ hh, ?_⟩
  · intro j
    have := h1 j
    simp only [List.getD_eq_getElem?_getD, List.getElem?_set] at this ⊢
    by_cases hij : i = j
    · subst hij; simp [hi, hz]
    · simp [hij]; exact this
  · intro j hj
    rw [List.length_set] at hj
    have hsz : off + i < cs.size := by
      rcases Nat.lt_or_ge (off + i) cs.size with h' | h'
      · exact h'
      · have := hc i hi; rw [Array.getElem?_eq_none h'] at this; cases this
    rw [Array.getElem?_setIfInBounds]
    by_cases hij : i = j
    · subst hij; simp [hi, hsz]
    · rw [if_neg (by omega), hc j hj]; simp [hij]

/-! ### impl.Sum, spec.l1sum, spec.Sum -/
theorem ret_int {k : IntKind} {a b : Int} (h : a = b) : Ending.returned (.int k a) = .returned (.int k b) := by rw [h]

set_option maxHeartbeats 400000 in
theorem implSum_any (a : Option Addr) (cap : Nat) (zs : List Int) (w : World) (hm : zs.length ≤ 1048576) (hB : Bytes w a zs) :
    Calls Try.prog 26 #[.slice a zs.length cap] w fun e w' => e = .returned (.int .i64 (wrap64 (fnv zs))) ∧ w' = w := by
  obtain ⟨hz, hB⟩ := hB
  rcases hB with rfl | ⟨b, off, rfl, _, hc⟩
  · have H : Hid (fnv [] = 14695981039346656037) := rfl
    go_enter Try.func26, Try.ntmps26
    go_wp2
    refine wp_loop_rounds 1 ?_
    rw [rounds_succ]
    go_wp2
    go_ret
    exact ⟨ret_int (by rw [H.out]), rfl⟩
  obtain ⟨n, hn⟩ : ∃ n, n = zs.length := ⟨_, rfl⟩
  have HF : Hid (zs.take n = zs) := by rw [hn]; exact List.take_length
  have HS : Hid (∀ k, k < n → fnv (zs.take (k + 1)) = stp (fnv (zs.take k)) (zs.getD k 0)) := fun k hk => fnv_take zs k (by omega)
  have HZ : Hid (∀ j : Nat, 0 ≤ zs.getD j 0 ∧ zs.getD j 0 ≤ 255) := hz
  have HC : Hid (∀ i, i < n → w.cell? ⟨b, off + i, none⟩ = some (.int .u8 (zs.getD i 0))) := fun i hi => hc i (by omega)
  clear hz hc
  rw [← hn] at hm ⊢
  clear hn
  go_enter Try.func26, Try.ntmps26
  go_wp2
  go_loop [3, 8] (fun h i => ∃ k : Nat, k ≤ n ∧ i = .int .i64 k ∧ h = .int .u64 (fnv (zs.take k))) (fun _ i => n - (intOf i).toNat)
  case atStart => exact ⟨0, Nat.zero_le _, rfl, rfl⟩
  case round =>
    obtain ⟨k, hk, rfl, rfl⟩ := hrel
    have hf := fnv_bd (zs.take k)
    have HF2 : Hid (k < n → fnv (zs.take (k + 1)) = stp (fnv (zs.take k)) (zs.getD k 0)) := fun h => HS.out k h
    by_cases hlt : k < n
    · have hzk := HZ.out k
      have hcell := HC.out k hlt
      generalize zs.getD k 0 = z at *
      generalize fnv (zs.take k) = f at *
      go_wp2
      go_round
      case rel => exact ⟨k + 1, by omega, by go_num, by rw [HF2.out hlt]; rfl⟩
      case measure => simp [intOf]; omega
    · have hkn : k = n := by omega
      subst hkn
      clear hlt hk
      rw [HF.out] at hf ⊢
      obtain ⟨f, hE⟩ : ∃ f, f = fnv zs := ⟨_, rfl⟩
      rw [← hE] at hf ⊢
      have HE : Hid (f = fnv zs) := hE
      clear hE
      go_wp2
      go_ret
      exact ⟨ret_int (by rw [HE.out]), rfl⟩
set_option maxHeartbeats 400000 in
theorem l1sum_any (a : Option Addr) (cap : Nat) (zs : List Int) (w : World) (hm : zs.length ≤ 1048576) (hB : Bytes w a zs) :
    Calls Try.prog 42 #[.slice a zs.length cap] w fun e w' => e = .returned (.int .u64 (fnv zs)) ∧ w' = w := by
  obtain ⟨hz, hB⟩ := hB
  rcases hB with rfl | ⟨b, off, rfl, _, hc⟩
  · have H : Hid (fnv [] = 14695981039346656037) := rfl
    go_enter Try.func42, Try.ntmps42
    go_wp2
    refine wp_loop_rounds 1 ?_
    rw [rounds_succ]
    go_wp2
    go_ret
    exact ⟨ret_int (by rw [H.out]), rfl⟩
  obtain ⟨n, hn⟩ : ∃ n, n = zs.length := ⟨_, rfl⟩
  have HF : Hid (zs.take n = zs) := by rw [hn]; exact List.take_length
  have HS : Hid (∀ k, k < n → fnv (zs.take (k + 1)) = stp (fnv (zs.take k)) (zs.getD k 0)) := fun k hk => fnv_take zs k (by omega)
  have HZ : Hid (∀ j : Nat, 0 ≤ zs.getD j 0 ∧ zs.getD j 0 ≤ 255) := hz
  have HC : Hid (∀ i, i < n → w.cell? ⟨b, off + i, none⟩ = some (.int .u8 (zs.getD i 0))) := fun i hi => hc i (by omega)
  clear hz hc
  rw [← hn] at hm ⊢
  clear hn
  go_enter Try.func42, Try.ntmps42
  go_wp2
  go_loop [3, 8] (fun h i => ∃ k : Nat, k ≤ n ∧ i = .int .i64 k ∧ h = .int .u64 (fnv (zs.take k))) (fun _ i => n - (intOf i).toNat)
  case atStart => exact ⟨0, Nat.zero_le _, rfl, rfl⟩
  case round =>
    obtain ⟨k, hk, rfl, rfl⟩ := hrel
    have hf := fnv_bd (zs.take k)
    have HF2 : Hid (k < n → fnv (zs.take (k + 1)) = stp (fnv (zs.take k)) (zs.getD k 0)) := fun h => HS.out k h
    by_cases hlt : k < n
    · have hzk := HZ.out k
      have hcell := HC.out k hlt
      generalize zs.getD k 0 = z at *
      generalize fnv (zs.take k) = f at *
      go_wp2
      go_round
      case rel => exact ⟨k + 1, by omega, by go_num, by rw [HF2.out hlt]; rfl⟩
      case measure => simp [intOf]; omega
    · have hkn : k = n := by omega
      subst hkn
      clear hlt hk
      rw [HF.out] at hf ⊢
      obtain ⟨f, hE⟩ : ∃ f, f = fnv zs := ⟨_, rfl⟩
      rw [← hE] at hf ⊢
      have HE : Hid (f = fnv zs) := hE
      clear hE
      go_wp2
      go_ret
      exact ⟨ret_int (by rw [HE.out]), rfl⟩

set_option maxHeartbeats 400000 in
theorem specSum_any (a : Option Addr) (cap : Nat) (zs : List Int) (w : World) (hm : zs.length ≤ 1048576) (hB : Bytes w a zs) :
    Calls Try.prog 24 #[.slice a zs.length cap] w fun e w' => e = .returned (.int .i64 (wrap64 (fnv zs))) ∧ w' = w := by
  have hf := fnv_bd zs
  go_enter Try.func24, Try.ntmps24
  go_wp2_with fail
  refine (l1sum_any a cap zs w hm hB).mono ?_
  rintro e w1 ⟨rfl, hw⟩
  rw [hw]
  go_wp2
  go_ret
  exact ⟨rfl, rfl⟩

/-! ### toByteS, eqByteS -/
theorem Try.info5 : (Try.prog.info? 5).map (fun i => (i.zero, i.size, i.bytes)) = some (some (.int .u8 0), 1, 1) := by kernel_rfl

/-- What is made of so many bytes are so many noughts. -/
theorem own_made {w : World} {base g n : Nat} (h : w.ownsRow base 5 1 (.slice (some ⟨g, 0, none⟩) n n) n (madeCells #[Value.int .u8 0] n).toList) : Own w g 0 (List.replicate n 0) := by
  refine ⟨fun j => ?_, ?_⟩
  · simp only [List.getD_eq_getElem?_getD, List.getElem?_replicate]; split <;> simp
  rcases h.2 with ⟨h', _⟩ | ⟨g', cap', cur, h', _, hg, _, _, _, htake⟩
  · simp at h'
  · simp only [Value.slice.injEq, Option.some.injEq, Addr.mk.injEq, and_true, true_and] at h'
    obtain ⟨rfl, rfl⟩ := h'
    refine ⟨cur, _, hg, fun i hi => ?_⟩
    rw [List.length_replicate] at hi
    have h2 : (cur.toList.take (n * 1))[i]? = some (.int .u8 0) := by
      rw [htake, toList_madeCells_one]; simp [hi]
    rw [List.getElem?_take, if_pos (by omega)] at h2
    simpa [hi] using h2
theorem copy_step (zs : List Int) (k : Nat) (h : k < zs.length) : (zs.take k ++ List.replicate (zs.length - k) 0).set k (zs.getD k 0) = zs.take (k + 1) ++ List.replicate (zs.length - (k + 1)) 0 := by
  rw [take_snoc zs k 0 h, List.set_append, if_neg (by simp; omega)]
  have e : zs.length - k = (zs.length - (k + 1)) + 1 := by omega
  rw [e, List.replicate_succ]
  have e2 : k - (zs.take k).length = 0 := by simp; omega
  rw [e2]; simp
theorem own_copy {w : World} {g : Nat} {zs : List Int} {k : Nat} (hk : k < zs.length) (hz : 0 ≤ zs.getD k 0 ∧ zs.getD k 0 ≤ 255) (h : Own w g 0 (zs.take k ++ List.replicate (zs.length - k) 0)) :
    Own (w.setCell ⟨g, k, none⟩ (.int .u8 (zs.getD k 0))) g 0 (zs.take (k + 1) ++ List.replicate (zs.length - (k + 1)) 0) := by
  have := h.put k (by simp; omega) (zs.getD k 0) hz
  rw [copy_step zs k hk, Nat.zero_add] at this
  exact this

set_option maxHeartbeats 400000 in
theorem toByteS_any (a : Option Addr) (cap : Nat) (zs : List Int) (w : World) (hm : zs.length ≤ 1048576) (hB : Bytes w a zs) :
    Calls Try.prog 25 #[.slice a zs.length cap] w fun e w' => e = .returned (.slice (some ⟨w.heap.size, 0, none⟩) zs.length zs.length) ∧ Below w.heap.size w w' ∧ Own w' w.heap.size 0 zs := by
  obtain ⟨hz, hB⟩ := hB
  obtain ⟨i0, hi, hz0, hz1, hz2⟩ := info_parts Try.info5
  rcases hB with rfl | ⟨b, off, rfl, hlt, hc⟩
  · go_enter Try.func25, Try.ntmps25
    go_wp2_with (at_make; refine wpList_make_full _ rfl _ _ 22 rfl w.heap.size 5 i0 (.int .u8 0) 1 Try.underlying22 hi hz0 hz1 _ _ _ _ 0 rfl rfl rfl rfl ?c1 ?c2 ?c3 ?_)
    case c1 => rw [hz2]; omega
    case c2 => unfold maxLen; omega
    case c3 => omega
    intro w1 hown hgr
    have ho := own_made hown
    have hb : Below w.heap.size w w1 := (Below.refl _ _).grown hgr (Nat.le_refl _) (fun k h => by cases h)
    clear hown hgr
    go_wp2
    refine wp_loop_rounds 1 ?_
    rw [rounds_succ]
    go_wp2
    go_ret
    exact ⟨rfl, hb, ho⟩
  obtain ⟨n, hn⟩ : ∃ n, n = zs.length := ⟨_, rfl⟩
  have HN : Hid (n = zs.length) := hn
  have HZ : Hid (∀ j : Nat, 0 ≤ zs.getD j 0 ∧ zs.getD j 0 ≤ 255) := hz
  have HC : Hid (∀ i, i < n → w.cell? ⟨b, off + i, none⟩ = some (.int .u8 (zs.getD i 0))) := fun i hi => hc i (by omega)
  clear hz hc
  rw [← hn] at hm ⊢
  clear hn
  go_enter Try.func25, Try.ntmps25
  go_wp2_with (at_make; refine wpList_make_full _ rfl _ _ 22 rfl w.heap.size 5 i0 (.int .u8 0) 1 Try.underlying22 hi hz0 hz1 _ _ _ _ n rfl rfl rfl rfl ?c1 ?c2 ?c3 ?_)
  case c1 => rw [hz2]; omega
  case c2 => unfold maxLen; omega
  case c3 => omega
  intro w1 hown hgr
  have ho := own_made hown
  have hb : Below w.heap.size w w1 := (Below.refl _ _).grown hgr (Nat.le_refl _) (fun k h => by cases h)
  clear hown hgr hi hz0 hz1 hz2
  go_wp2
  go_loopw [4] (fun i wr => ∃ k : Nat, k ≤ n ∧ i = .int .i64 k ∧ Hid (Own wr w.heap.size 0 (zs.take k ++ List.replicate (zs.length - k) 0)) ∧ Hid (Below w.heap.size w wr)) (fun i _ => n - (intOf i).toNat)
  case atStart => exact ⟨0, Nat.zero_le _, rfl, by rw [← HN.out]; simpa [Hid] using ho, hb⟩
  case round =>
    clear ho hb
    obtain ⟨k, hk, rfl, ho, hb⟩ := hrel
    by_cases hlt : k < n
    · have hzk := HZ.out k
      have hcell : wr.cell? ⟨b, off + k, none⟩ = some (.int .u8 (zs.getD k 0)) := by rw [hb.out.cell (by assumption)]; exact HC.out k hlt
      have ho2 := own_copy (by rw [← HN.out]; exact hlt) hzk ho.out
      have hfree := ho.out.free k
      have hcl := ho.out.cell k (by rw [List.length_append, List.length_take, List.length_replicate]; have := HN.out; omega)
      rw [Nat.zero_add] at hcl
      have HO : Hid (Own (wr.setCell ⟨w.heap.size, k, none⟩ (.int .u8 (zs.getD k 0))) w.heap.size 0 (zs.take (k + 1) ++ List.replicate (zs.length - (k + 1)) 0)) := ho2
      clear ho2 ho
      generalize zs.getD k 0 = z at *
      generalize (zs.take k ++ List.replicate (zs.length - k) 0).getD k 0 = z2 at *
      go_wp2
      go_roundw
      case rel => exact ⟨k + 1, by omega, by go_num, HO, hb.out.setCell (Nat.le_refl _) _⟩
      case measure => simp [intOf]; omega
    · have hkn : k = n := by omega
      subst hkn
      have ho2 : Own wr w.heap.size 0 zs := by have := ho.out; rw [HN.out] at this; simpa using this
      have hb2 := hb.out
      clear ho hb hlt hk
      go_wp2
      go_ret
      exact ⟨rfl, hb2, ho2⟩

set_option maxHeartbeats 400000 in
theorem eqByteS_any (a b : Option Addr) (ca cb : Nat) (xs ys : List Int) (w : World) (hm : xs.length ≤ 1048576) (hx : Bytes w a xs) (hy : Bytes w b ys) (he : xs = ys) :
    Calls Try.prog 27 #[.slice a xs.length ca, .slice b ys.length cb] w fun e w' => e = .returned (.bool true) ∧ Below w.heap.size w w' := by
  subst he
  obtain ⟨hz, hx⟩ := hx
  obtain ⟨_, hy⟩ := hy
  rcases hx with rfl | ⟨b1, o1, rfl, _, h1⟩
  · go_enter Try.func27, Try.ntmps27
    go_wp2
    refine wp_loop_rounds 1 ?_
    rw [rounds_succ]
    go_wp2
    go_ret
    exact ⟨rfl, Below.refl _ _⟩
  rcases hy with rfl | ⟨b2, o2, rfl, _, h2⟩
  · go_enter Try.func27, Try.ntmps27
    go_wp2
    refine wp_loop_rounds 1 ?_
    rw [rounds_succ]
    go_wp2
    go_ret
    exact ⟨rfl, Below.refl _ _⟩
  obtain ⟨n, hn⟩ : ∃ n, n = xs.length := ⟨_, rfl⟩
  have H1 : Hid (∀ i, i < n → w.cell? ⟨b1, o1 + i, none⟩ = some (.int .u8 (xs.getD i 0))) := fun i hi => h1 i (by omega)
  have H2 : Hid (∀ i, i < n → w.cell? ⟨b2, o2 + i, none⟩ = some (.int .u8 (xs.getD i 0))) := fun i hi => h2 i (by omega)
  clear h1 h2 hz
  rw [← hn] at hm ⊢
  clear hn
  have hne : ((n : Int) != (n : Int)) = false := by simp
  go_enter Try.func27, Try.ntmps27
  go_wp2
  go_loopw [5] (fun i wr => ∃ k : Nat, k ≤ n ∧ i = .int .i64 k ∧ ∃ q, wr = w.drewN q) (fun i _ => n - (intOf i).toNat)
  case atStart => exact ⟨0, Nat.zero_le _, rfl, 0, rfl⟩
  case round =>
    obtain ⟨k, hk, rfl, q, rfl⟩ := hrel
    by_cases hlt : k < n
    · have c1 := H1.out k hlt
      have c2 := H2.out k hlt
      generalize xs.getD k 0 = z at *
      have hkk : (k : Int) < (n : Int) := by omega
      have hzz : (z != z) = false := by simp
      go_wp2
      go_quiet (fail)
      go_wp2
      exact ⟨⟨k + 1, by omega, by go_num, _, rfl⟩, by simp [intOf]; omega⟩
    · have hkn : k = n := by omega
      subst hkn
      go_wp2
      go_ret
      exact ⟨rfl, ⟨rfl, rfl, rfl, Nat.le_refl _, fun _ _ => rfl⟩⟩

end Go.Proofs.Ytfbikieolepldaa
