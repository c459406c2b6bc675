/-
  SETS IN MEMORY (a slice of pairs of integers), AND THE WALKS OF szSetS, toSet, toSetS, eqSet, eqSetS, impl.Stood, spec.Stood.
-/
import Derived.Test.YtfbikieolepldabRul
import Derived.Deep.QuietTactic
import Derived.BigQuiet
import Derived.Deep.RegionHeld3
namespace Go.Proofs.Ytfbikieolepldab
open Go.RowKit

/-- A slice's address leads to these pairs. -/
def Pairs (w : World) (a : Option Addr) (zs : List (Int × Int)) : Prop :=
  zs = [] ∨ ∃ b off, a = some ⟨b, off, none⟩ ∧ b < w.heap.size ∧
    ∀ i, i < zs.length → w.cell? ⟨b, off + i * 2, none⟩ = some (.int .i64 (zs.getD i (0, 0)).1) ∧ w.cell? ⟨b, off + i * 2 + 1, none⟩ = some (.int .i64 (zs.getD i (0, 0)).2)
/-- A block holds these pairs, and may be written. -/
def OwnP (w : World) (g : Nat) (zs : List (Int × Int)) : Prop :=
  ∃ cs T, w.heap[g]? = some (.cells cs T (0, 0)) ∧
    ∀ i, i < zs.length → cs[i * 2]? = some (.int .i64 (zs.getD i (0, 0)).1) ∧ cs[i * 2 + 1]? = some (.int .i64 (zs.getD i (0, 0)).2)

theorem heapLt {w : World} {g : Nat} {o : Obj} (h : w.heap[g]? = some o) : g < w.heap.size := by
  rcases Nat.lt_or_ge g w.heap.size with h' | h'
  · exact h'
  · rw [Array.getElem?_eq_none h'] at h; cases h
theorem OwnP.lt {w : World} {g : Nat} {zs : List (Int × Int)} (h : OwnP w g zs) : g < w.heap.size := by
  obtain ⟨cs, T, hh, _⟩ := h; exact heapLt hh
theorem OwnP.cell {w : World} {g : Nat} {zs : List (Int × Int)} (h : OwnP w g zs) (i : Nat) (hi : i < zs.length) :
    w.cell? ⟨g, i * 2, none⟩ = some (.int .i64 (zs.getD i (0, 0)).1) ∧ w.cell? ⟨g, i * 2 + 1, none⟩ = some (.int .i64 (zs.getD i (0, 0)).2) := by
  obtain ⟨cs, T, hh, hc⟩ := h
  have := hc i hi
  simp [World.cell?, hh, this]
theorem OwnP.free {w : World} {g : Nat} {zs : List (Int × Int)} (h : OwnP w g zs) (i : Nat) : w.frozen? ⟨g, i, none⟩ = false := by
  obtain ⟨cs, T, hh, _⟩ := h
  simp [World.frozen?, hh]
theorem OwnP.pairs {w : World} {g : Nat} {zs : List (Int × Int)} (h : OwnP w g zs) : Pairs w (some ⟨g, 0, none⟩) zs :=
  .inr ⟨g, 0, rfl, h.lt, fun i hi => by rw [Nat.zero_add]; exact h.cell i hi⟩
theorem OwnP.below {w w' : World} {g B : Nat} {zs : List (Int × Int)} (h : OwnP w g zs) (hb : Below B w w') (hg : g < B) : OwnP w' g zs := by
  obtain ⟨cs, T, hh, hc⟩ := h
  exact ⟨cs, T, by rw [hb.block g hg]; exact hh, hc⟩
theorem Pairs.below {w w' : World} {a : Option Addr} {zs : List (Int × Int)} (h : Pairs w a zs) (hb : Below w.heap.size w w') : Pairs w' a zs := by
  rcases h with h2 | ⟨b, off, ha, hlt, hc⟩
  · exact .inl h2
  · exact .inr ⟨b, off, ha, Nat.lt_of_lt_of_le hlt hb.size, fun i hi => by rw [hb.cell hlt, hb.cell hlt]; exact hc i hi⟩

/-! ### The small ones -/
set_option maxHeartbeats 400000 in
theorem toSet_any (t v : Int) (w : World) :
    Calls Try.prog 65 #[.agg #[.int .i64 t, .int .i64 v]] w fun e w' => e = .returned (.agg #[.int .i64 t, .int .i64 v]) ∧ Below w.heap.size w w' := by
  go_enter Try.func65, Try.ntmps65
  go_wp2
  refine bodyPost_ret (v := .agg #[.int .i64 t, .int .i64 v]) (by simp [results, Try.results65, go_sem]) rfl ⟨rfl, ?_⟩
  exact (((Below.refl _ _).alloc (Nat.le_refl _) _).alloc (by simp) _).alloc (by simp; omega) _

set_option maxHeartbeats 400000 in
theorem eqSet_any (t v : Int) (w : World) :
    Calls Try.prog 66 #[.agg #[.int .i64 t, .int .i64 v], .agg #[.int .i64 t, .int .i64 v]] w fun e w' => e = .returned (.bool true) ∧ Below w.heap.size w w' := by
  have h1 : (t != t) = false := by simp
  have h2 : (v != v) = false := by simp
  go_enter Try.func66, Try.ntmps66
  go_wp2
  go_ret
  exact ⟨rfl, ((Below.refl _ _).alloc (Nat.le_refl _) _).alloc (by simp) _⟩

set_option maxHeartbeats 400000 in
theorem szSetS_any (a : Option Addr) (n cap : Nat) (w : World) (hn : n ≤ 9223372036854775807) :
    Calls Try.prog 42 #[.slice a n cap, .int .i64 1048576] w fun e w' => e = .returned (.int .i64 (if n ≤ 1048576 then 1048576 - n else -1)) ∧ w' = w := by
  by_cases h : n ≤ 1048576
  · rw [if_pos h]
    go_enter Try.func42, Try.ntmps42
    go_wp2
    go_ret
    exact ⟨rfl, rfl⟩
  · rw [if_neg h]
    go_enter Try.func42, Try.ntmps42
    go_wp2
    go_ret
    exact ⟨rfl, rfl⟩

/-! ### Stood -/
/-- The value of the set with this number; 0 when there is none. -/
def stoodOf (zs : List (Int × Int)) (v : Int) : Int := if 1 ≤ v ∧ v ≤ zs.length then (zs.getD (v - 1).toNat (0, 0)).2 else 0

set_option maxHeartbeats 400000 in
theorem implStood_any (a : Option Addr) (cap : Nat) (zs : List (Int × Int)) (v : Int) (w : World) (hm : zs.length ≤ 1048576) (hP : Pairs w a zs) :
    Calls Try.prog 45 #[.slice a zs.length cap, .int .i64 v] w fun e w' => e = .returned (.int .i64 (stoodOf zs v)) ∧ w' = w := by
  by_cases h : 1 ≤ v ∧ v ≤ zs.length
  · rcases hP with rfl | ⟨b, off, rfl, _, hc⟩
    · simp at h; omega
    obtain ⟨k, rfl⟩ : ∃ k : Nat, v = (k : Int) + 1 := ⟨(v - 1).toNat, by omega⟩
    have hk : k < zs.length := by omega
    have e1 : stoodOf zs ((k : Int) + 1) = (zs.getD k (0, 0)).2 := by
      unfold stoodOf; rw [if_pos h]; congr 2; omega
    have hcell := (hc k hk).2
    have iv : inB ((k : Int) + 1) 1 (zs.length : Int) = true := inB_yes h
    rw [e1]
    clear e1 hc
    generalize (zs.getD k (0, 0)).2 = z at *
    generalize zs.length = n at *
    go_enter Try.func45, Try.ntmps45
    go_wp2_with fail
    refine (within_any _ _ _ _).mono ?_
    rintro e w' ⟨rfl, rfl⟩
    go_wp2
    go_ret
    exact ⟨rfl, rfl⟩
  · have e1 : stoodOf zs v = 0 := by unfold stoodOf; rw [if_neg h]
    have iv : inB v 1 (zs.length : Int) = false := inB_no h
    rw [e1]
    clear e1
    generalize zs.length = n at *
    go_enter Try.func45, Try.ntmps45
    go_wp2_with fail
    refine (within_any _ _ _ _).mono ?_
    rintro e w' ⟨rfl, rfl⟩
    go_wp2
    go_ret
    exact ⟨rfl, rfl⟩

set_option maxHeartbeats 400000 in
theorem specStood_any (a : Option Addr) (cap : Nat) (zs : List (Int × Int)) (v : Int) (w : World) (hm : zs.length ≤ 1048576) (hP : Pairs w a zs) :
    Calls Try.prog 43 #[.slice a zs.length cap, .int .i64 v] w fun e w' => e = .returned (.int .i64 (stoodOf zs v)) ∧ w' = w := by
  by_cases h : 1 ≤ v ∧ v ≤ zs.length
  · rcases hP with rfl | ⟨b, off, rfl, _, hc⟩
    · simp at h; omega
    obtain ⟨k, rfl⟩ : ∃ k : Nat, v = (k : Int) + 1 := ⟨(v - 1).toNat, by omega⟩
    have hk : k < zs.length := by omega
    have e1 : stoodOf zs ((k : Int) + 1) = (zs.getD k (0, 0)).2 := by
      unfold stoodOf; rw [if_pos h]; congr 2; omega
    have hcell := (hc k hk).2
    have iv : inB ((k : Int) + 1) 1 (zs.length : Int) = true := inB_yes h
    rw [e1]
    clear e1 hc
    generalize (zs.getD k (0, 0)).2 = z at *
    generalize zs.length = n at *
    go_enter Try.func43, Try.ntmps43
    go_wp2_with fail
    refine (l1in_any _ _ _ _).mono ?_
    rintro e w' ⟨rfl, rfl⟩
    go_wp2
    go_ret
    exact ⟨rfl, rfl⟩
  · have e1 : stoodOf zs v = 0 := by unfold stoodOf; rw [if_neg h]
    have iv : inB v 1 (zs.length : Int) = false := inB_no h
    rw [e1]
    clear e1
    generalize zs.length = n at *
    go_enter Try.func43, Try.ntmps43
    go_wp2_with fail
    refine (l1in_any _ _ _ _).mono ?_
    rintro e w' ⟨rfl, rfl⟩
    go_wp2
    go_ret
    exact ⟨rfl, rfl⟩

/-! ### toSetS, eqSetS -/
theorem Try.infoSet : (Try.prog.info? 103).map (fun i => (i.zero, i.size, i.bytes)) = some (some (.agg #[.int .i64 0, .int .i64 0]), 2, 16) := by kernel_rfl

/-- What is made of so many sets are so many noughts. -/
theorem ownP_made {w : World} {base g n : Nat} (h : w.ownsRow base 103 2 (.slice (some ⟨g, 0, none⟩) n n) n (madeCells #[Value.int .i64 0, Value.int .i64 0] (n * 2)).toList) : OwnP w g (List.replicate n (0, 0)) := by
  rcases h.2 with ⟨h', _⟩ | ⟨g', cap', cur, h', _, hg, _, _, _, htake⟩
  · simp at h'
  · simp only [Value.slice.injEq, Option.some.injEq, Addr.mk.injEq, and_true, true_and] at h'
    obtain ⟨rfl, rfl⟩ := h'
    refine ⟨cur, _, hg, fun i hi => ?_⟩
    rw [List.length_replicate] at hi
    have key : ∀ j, j < n * 2 → cur[j]? = some (.int .i64 0) := fun j hj => by
      have h2 : (cur.toList.take (n * 2))[j]? = some (.int .i64 0) := by
        rw [htake]
        have e : j % 2 = 0 ∨ j % 2 = 1 := by omega
        rcases e with e | e <;> simp [madeCells, hj, e]
      rw [List.getElem?_take, if_pos hj] at h2
      simpa using h2
    have hz : ((List.replicate n ((0 : Int), (0 : Int))).getD i (0, 0)) = (0, 0) := by
      rw [List.getD_eq_getElem?_getD, List.getElem?_replicate, if_pos hi]; rfl
    rw [hz]
    exact ⟨key _ (by omega), key _ (by omega)⟩
theorem takeSnoc {α : Type} (l : List α) (k : Nat) (d : α) (h : k < l.length) : l.take (k + 1) = l.take k ++ [l.getD k d] := by
  rw [List.take_succ_eq_append_getElem h]; simp [h]
theorem copyStep (zs : List (Int × Int)) (k : Nat) (h : k < zs.length) : (zs.take k ++ List.replicate (zs.length - k) (0, 0)).set k (zs.getD k (0, 0)) = zs.take (k + 1) ++ List.replicate (zs.length - (k + 1)) (0, 0) := by
  rw [takeSnoc zs k (0, 0) h, List.set_append, if_neg (by simp; omega)]
  have e : zs.length - k = (zs.length - (k + 1)) + 1 := by omega
  rw [e, List.replicate_succ]
  have e2 : k - (zs.take k).length = 0 := by simp; omega
  rw [e2]; simp

theorem OwnP.put2 {w : World} {g : Nat} {zs : List (Int × Int)} (h : OwnP w g zs) (i : Nat) (hi : i < zs.length) (x y : Int) :
    OwnP ((w.setCell ⟨g, i * 2, none⟩ (.int .i64 x)).setCell ⟨g, i * 2 + 1, none⟩ (.int .i64 y)) g (zs.set i (x, y)) := by
  obtain ⟨cs, T, hh, hc⟩ := h
  have h1 := heap_setCell_same w g (i * 2) cs T (.int .i64 x) hh
  have h2 := heap_setCell_same _ g (i * 2 + 1) _ T (.int .i64 y) h1
  refine ⟨_, T, h2, fun j hj => ?_⟩
  rw [List.length_set] at hj
  have hs1 : i * 2 + 1 < cs.size := by
    rcases Nat.lt_or_ge (i * 2 + 1) cs.size with h' | h'
    · exact h'
    · have := (hc i hi).2; rw [Array.getElem?_eq_none h'] at this; cases this
  rw [List.getD_eq_getElem?_getD, List.getElem?_set]
  simp only [Array.getElem?_setIfInBounds, Array.size_setIfInBounds]
  by_cases hij : i = j
  · subst hij
    have e2 : i * 2 < cs.size := by omega
    simp [e2, hs1, hi]
  · have e1 : ¬ (i * 2 + 1 = j * 2) := by omega
    have e2 : ¬ (i * 2 = j * 2) := by omega
    have e3 : ¬ (i * 2 + 1 = j * 2 + 1) := by omega
    have e4 : ¬ (i * 2 = j * 2 + 1) := by omega
    rw [if_neg e1, if_neg e2, if_neg e3, if_neg e4, if_neg hij, ← List.getD_eq_getElem?_getD]
    exact hc j hj

set_option maxHeartbeats 400000 in
theorem toSetS_any (a : Option Addr) (cap : Nat) (zs : List (Int × Int)) (w : World) (hm : zs.length ≤ 1048576) (hP : Pairs w a zs) :
    Calls Try.prog 44 #[.slice a zs.length cap] w fun e w' => e = .returned (.slice (some ⟨w.heap.size, 0, none⟩) zs.length zs.length) ∧ Below w.heap.size w w' ∧ OwnP w' w.heap.size zs := by
  obtain ⟨i0, hi, hz0, hz1, hz2⟩ := info_parts Try.infoSet
  rcases hP with rfl | ⟨b, off, rfl, hlt, hc⟩
  · go_enter Try.func44, Try.ntmps44
    go_wp2_with (at_make; refine wpList_make_full _ rfl _ _ 72 rfl w.heap.size 103 i0 (.agg #[.int .i64 0, .int .i64 0]) 2 Try.underlying72 hi hz0 hz1 _ _ _ _ 0 rfl rfl rfl rfl ?c1 ?c2 ?c3 ?_)
    case c1 => rw [hz2]; omega
    case c2 => unfold maxLen; omega
    case c3 => omega
    intro w1 hown hgr
    have ho := ownP_made hown
    have hb : Below w.heap.size w w1 := (Below.refl _ _).grown hgr (Nat.le_refl _) (fun k h => by cases h)
    clear hown hgr
    go_wp2
    refine wp_loop_rounds 1 ?_
    rw [rounds_succ]
    go_wp2
    go_ret
    exact ⟨rfl, hb, ho⟩
  obtain ⟨n, hn⟩ : ∃ n, n = zs.length := ⟨_, rfl⟩
  have HN : Hid (n = zs.length) := hn
  have HC : Hid (∀ i, i < n → w.cell? ⟨b, off + i * 2, none⟩ = some (.int .i64 (zs.getD i (0, 0)).1) ∧ w.cell? ⟨b, off + i * 2 + 1, none⟩ = some (.int .i64 (zs.getD i (0, 0)).2)) := fun i hi => hc i (by omega)
  clear hc
  rw [← hn] at hm ⊢
  clear hn
  go_enter Try.func44, Try.ntmps44
  go_wp2_with (at_make; refine wpList_make_full _ rfl _ _ 72 rfl w.heap.size 103 i0 (.agg #[.int .i64 0, .int .i64 0]) 2 Try.underlying72 hi hz0 hz1 _ _ _ _ n rfl rfl rfl rfl ?c1 ?c2 ?c3 ?_)
  case c1 => rw [hz2]; omega
  case c2 => unfold maxLen; omega
  case c3 => omega
  intro w1 hown hgr
  have ho := ownP_made hown
  have hb : Below w.heap.size w w1 := (Below.refl _ _).grown hgr (Nat.le_refl _) (fun k h => by cases h)
  clear hown hgr hi hz0 hz1 hz2
  go_wp2
  go_loopw [4] (fun i wr => ∃ k : Nat, k ≤ n ∧ i = .int .i64 k ∧ Hid (OwnP wr w.heap.size (zs.take k ++ List.replicate (zs.length - k) (0, 0))) ∧ Hid (Below w.heap.size w wr)) (fun i _ => n - (intOf i).toNat)
  case atStart => exact ⟨0, Nat.zero_le _, rfl, by rw [← HN.out]; simpa [Hid] using ho, hb⟩
  case round =>
    clear ho hb
    obtain ⟨k, hk, rfl, ho, hb⟩ := hrel
    by_cases hlt : k < n
    · have hcell : wr.cell? ⟨b, off + k * 2, none⟩ = some (.int .i64 (zs.getD k (0, 0)).1) := by rw [hb.out.cell (by assumption)]; exact (HC.out k hlt).1
      have hcell2 : wr.cell? ⟨b, off + k * 2 + 1, none⟩ = some (.int .i64 (zs.getD k (0, 0)).2) := by rw [hb.out.cell (by assumption)]; exact (HC.out k hlt).2
      have hlen : k < (zs.take k ++ List.replicate (zs.length - k) (0, 0)).length := by rw [List.length_append, List.length_take, List.length_replicate]; have := HN.out; omega
      obtain ⟨z1, z2, hz⟩ : ∃ z1 z2, zs.getD k (0, 0) = (z1, z2) := ⟨_, _, rfl⟩
      rw [hz] at hcell hcell2
      have HZ : Hid ((z1, z2) = zs.getD k (0, 0)) := hz.symm
      clear hz
      go_wp2_with fail
      refine (toSet_any _ _ _).mono ?_
      rintro e w2 ⟨rfl, hb2⟩
      have ho2 := ho.out.below hb2 ho.out.lt
      have hf0 := ho2.free (k * 2)
      have hf1 := ho2.free (k * 2 + 1)
      obtain ⟨hcl, hcl2⟩ := ho2.cell k hlen
      have HO : Hid (OwnP ((w2.setCell ⟨w.heap.size, k * 2, none⟩ (.int .i64 z1)).setCell ⟨w.heap.size, k * 2 + 1, none⟩ (.int .i64 z2)) w.heap.size (zs.take (k + 1) ++ List.replicate (zs.length - (k + 1)) (0, 0))) := by
        have := ho2.put2 k hlen z1 z2
        rw [HZ.out, copyStep zs k (by rw [← HN.out]; exact hlt)] at this
        exact this
      have hbb := hb.out.trans (hb2.mono hb.out.size)
      clear ho2 ho hb hb2 hlen
      go_wp2
      exact ⟨⟨k + 1, by omega, by go_num, HO, (hbb.setCell (Nat.le_refl _) _).setCell (Nat.le_refl _) _⟩, by simp [intOf]; omega⟩
    · have hkn : k = n := by omega
      subst hkn
      have ho2 : OwnP wr w.heap.size zs := by have := ho.out; rw [HN.out] at this; simpa using this
      have hb2 := hb.out
      clear ho hb hlt hk
      go_wp2
      go_ret
      exact ⟨rfl, hb2, ho2⟩

set_option maxHeartbeats 400000 in
theorem eqSetS_any (a b : Option Addr) (ca cb : Nat) (zs : List (Int × Int)) (w : World) (hm : zs.length ≤ 1048576) (hx : Pairs w a zs) (hy : Pairs w b zs) :
    Calls Try.prog 46 #[.slice a zs.length ca, .slice b zs.length cb] w fun e w' => e = .returned (.bool true) ∧ Below w.heap.size w w' := by
  rcases hx with rfl | ⟨b1, o1, rfl, l1, h1⟩
  · go_enter Try.func46, Try.ntmps46
    go_wp2
    refine wp_loop_rounds 1 ?_
    rw [rounds_succ]
    go_wp2
    go_ret
    exact ⟨rfl, Below.refl _ _⟩
  rcases hy with rfl | ⟨b2, o2, rfl, l2, h2⟩
  · go_enter Try.func46, Try.ntmps46
    go_wp2
    refine wp_loop_rounds 1 ?_
    rw [rounds_succ]
    go_wp2
    go_ret
    exact ⟨rfl, Below.refl _ _⟩
  obtain ⟨n, hn⟩ : ∃ n, n = zs.length := ⟨_, rfl⟩
  have H1 : Hid (∀ i, i < n → w.cell? ⟨b1, o1 + i * 2, none⟩ = some (.int .i64 (zs.getD i (0, 0)).1) ∧ w.cell? ⟨b1, o1 + i * 2 + 1, none⟩ = some (.int .i64 (zs.getD i (0, 0)).2)) := fun i hi => h1 i (by omega)
  have H2 : Hid (∀ i, i < n → w.cell? ⟨b2, o2 + i * 2, none⟩ = some (.int .i64 (zs.getD i (0, 0)).1) ∧ w.cell? ⟨b2, o2 + i * 2 + 1, none⟩ = some (.int .i64 (zs.getD i (0, 0)).2)) := fun i hi => h2 i (by omega)
  clear h1 h2
  rw [← hn] at hm ⊢
  clear hn
  have hne : ((n : Int) != (n : Int)) = false := by simp
  go_enter Try.func46, Try.ntmps46
  go_wp2
  go_loopw [5] (fun i wr => ∃ k : Nat, k ≤ n ∧ i = .int .i64 k ∧ Hid (Below w.heap.size w wr)) (fun i _ => n - (intOf i).toNat)
  case atStart => exact ⟨0, Nat.zero_le _, rfl, Below.refl _ _⟩
  case round =>
    obtain ⟨k, hk, rfl, hb⟩ := hrel
    by_cases hlt : k < n
    · have c1 := (H1.out k hlt).1
      have c2 := (H1.out k hlt).2
      have c3 := (H2.out k hlt).1
      have c4 := (H2.out k hlt).2
      rw [← hb.out.cell (by assumption)] at c1 c2 c3 c4
      generalize (zs.getD k (0, 0)).1 = z1 at *
      generalize (zs.getD k (0, 0)).2 = z2 at *
      have HS : Hid (∀ W, Below wr.heap.size wr W → W.cell? ⟨b1, o1 + k * 2, none⟩ = some (.int .i64 z1) ∧ W.cell? ⟨b1, o1 + k * 2 + 1, none⟩ = some (.int .i64 z2) ∧ W.cell? ⟨b2, o2 + k * 2, none⟩ = some (.int .i64 z1) ∧ W.cell? ⟨b2, o2 + k * 2 + 1, none⟩ = some (.int .i64 z2)) := fun W hW => by
        have g1 := Nat.lt_of_lt_of_le l1 hb.out.size
        have g2 := Nat.lt_of_lt_of_le l2 hb.out.size
        exact ⟨by rw [hW.cell g1]; exact c1, by rw [hW.cell g1]; exact c2, by rw [hW.cell g2]; exact c3, by rw [hW.cell g2]; exact c4⟩
      have hkk : (k : Int) < (n : Int) := by omega
      go_wp2
      go_region_held3 (fun W => W.cell? ⟨b1, o1 + k * 2, none⟩ = some (.int .i64 z1) ∧ W.cell? ⟨b1, o1 + k * 2 + 1, none⟩ = some (.int .i64 z2) ∧ W.cell? ⟨b2, o2 + k * 2, none⟩ = some (.int .i64 z1) ∧ W.cell? ⟨b2, o2 + k * 2 + 1, none⟩ = some (.int .i64 z2)) (first | exact HS.out _ hbl2 | exact HS.out _ (Below.refl wr.heap.size wr).drew) (first | (go_at_call 66; refine (eqSet_any _ _ _).mono ?_; rintro e w2 ⟨rfl, hb2⟩; have hbl2 : Below wr.heap.size wr w2 := (Below.refl wr.heap.size wr).drew.trans (hb2.mono (Below.refl wr.heap.size wr).drew.size)))
      go_wp2
      exact ⟨⟨k + 1, by omega, by go_num, hb.out.trans (hbl2.mono hb.out.size)⟩, by simp [intOf]; omega⟩
    · have hkn : k = n := by omega
      subst hkn
      go_wp2
      go_ret
      exact ⟨rfl, hb.out⟩
end Go.Proofs.Ytfbikieolepldab
