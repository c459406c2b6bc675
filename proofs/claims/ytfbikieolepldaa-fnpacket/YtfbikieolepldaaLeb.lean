/-
  THE WALKS OF spec.l1put, spec.Encode, impl.Encode.
-/
import Derived.Test.YtfbikieolepldaaOk
import Derived.Test.YtfbikieolepldaaCur
import Derived.Deep.AppendLies
namespace Go.Proofs.Ytfbikieolepldaa
open Go.RowKit

set_option maxHeartbeats 800000 in
theorem l1put_any (B k : Nat) (v : Value) (n : Int) (xs : List Int) (w : World) (hB : B ≤ w.heap.size) (hO : w.ownsRow B 5 1 v xs.length (xs.map (Value.int .u8))) (hm : xs.length + k ≤ 1000) (hn : 0 ≤ n ∧ n ≤ 18446744073709551615) :
    Calls Try.prog 41 #[v, .int .u64 n, .int .i64 k] w fun e w' => ∃ v', e = .returned v' ∧ w'.ownsRow B 5 1 v' (xs ++ leb n k).length ((xs ++ leb n k).map (Value.int .u8)) ∧ Below B w w' := by
  obtain ⟨i0, hi, hz0, hz1, hz2⟩ := info_parts Try.info5
  have HN : Hid (0 ≤ n ∧ n ≤ 18446744073709551615) := hn
  clear hn
  go_enter Try.func41, Try.ntmps41
  go_wp2
  go_loopw [0, 1, 7] (fun o v i wr => ∃ j : Nat, j ≤ k ∧ i = .int .i64 j ∧ v = .int .u64 (sh n j) ∧ Hid (wr.ownsRow B 5 1 o (xs ++ leb n j).length ((xs ++ leb n j).map (Value.int .u8))) ∧ Hid (Below B w wr)) (fun _ _ i _ => k - (intOf i).toNat)
  case atStart => exact ⟨0, Nat.zero_le _, rfl, rfl, by rw [leb_zero, List.append_nil]; exact hO, Below.refl _ _⟩
  case round =>
    clear hO
    obtain ⟨j, hj, rfl, rfl, HO, HW⟩ := hrel
    by_cases hlt : j < k
    · have hsn := sh_bd n j HN.out
      have HS : Hid (xs ++ leb n (j + 1) = (xs ++ leb n j) ++ [sh n j % 256] ∧ sh n (j + 1) = sh n j / 256) := ⟨by rw [leb_succ, List.append_assoc], rfl⟩
      have hlen : (xs ++ leb n j).length = xs.length + j := by rw [List.length_append, leb_length]
      have hown := HO.out
      have hsz := HW.out.size
      generalize sh n j = m at *
      generalize xs ++ leb n j = l at *
      have hll : l.length ≤ 1000 := by omega
      have HL : Hid (l.length = xs.length + j) := hlen
      clear HO hlen
      have hjj : (j : Int) < (k : Int) := by omega
      go_wp2_with (at_builtin; refine wpList_append_own _ rfl _ _ 22 rfl B 5 i0 (.int .u8 0) 1 1 Try.underlying22 hi hz0 hz1 hz2 rfl (by decide) _ _ _ rfl (hown.alloc _) ⟨wr.heap.size, 0, none⟩ 1 1 [.int .u8 (m % 256)] rfl rfl ?c1 ?c2 ?c3 ?c4 ?c5 ?_)
      case c1 =>
        intro j u hj
        match j, hj with
        | 0, hj => simp at hj; subst hj; simp [Addr.add]
      case c2 => intro u hu; simp at hu; subst hu; rfl
      case c3 => unfold maxLen; omega
      case c4 => omega
      case c5 => simp; omega
      intro v' w1 hown' hgrow _
      have hb1 : Hid (Below B w w1) := (HW.out.alloc (by omega) _).grown hgrow (by simp; omega) (fun q hq => (hown.lt q hq).1)
      have ho1 : Hid (w1.ownsRow B 5 1 v' (l ++ [m % 256]).length ((l ++ [m % 256]).map (Value.int .u8))) := by
        rw [List.length_append, List.map_append]; exact hown'
      clear hown' hgrow hown
      go_wp2
      go_roundw
      case rel => exact ⟨j + 1, by omega, by go_num, by rw [HS.out.2], by rw [HS.out.1]; exact ho1, hb1⟩
      case measure => simp [intOf]; omega
    · have hkn : j = k := by omega
      subst hkn
      have ho2 := HO.out
      have hb2 := HW.out
      clear HO HW
      go_wp2
      go_ret
      exact ⟨_, rfl, ho2, hb2⟩

/-! ### The bytes of a packet -/
def enc18 (k v x s : Int) : List Int := [72] ++ leb k 1 ++ leb v 4 ++ leb (IntKind.u64.wrap x) 8 ++ leb s 4
def encB (k v x s : Int) : List Int := enc18 k v x s ++ leb (fnv (enc18 k v x s)) 6

theorem put_at (g k : Nat) (size n : Int) (pre : List Int) (w : World) (hs : size = (k : Int)) (hC : Cur w g 70 pre) (hm : pre.length + k ≤ 24) (hn : 0 ≤ n ∧ n ≤ 18446744073709551615) :
    Calls Try.prog 38 #[.pointer (some ⟨g, 0, none⟩), .int .u64 n, .int .i64 size] w fun e w' => e = .returned (.tuple #[]) ∧ Cur w' g 70 (pre ++ leb n k) ∧ Only g w w' := by
  subst hs; exact put_any g k n pre w hC hm hn
theorem cur_new (w : World) (b : Nat) (hb : b = w.heap.size) : Cur (w.alloc (.cells #[Value.int .u8 0, Value.int .u8 0, Value.int .u8 0, Value.int .u8 0, Value.int .u8 0, Value.int .u8 0, Value.int .u8 0, Value.int .u8 0, Value.int .u8 0, Value.int .u8 0, Value.int .u8 0, Value.int .u8 0, Value.int .u8 0, Value.int .u8 0, Value.int .u8 0, Value.int .u8 0, Value.int .u8 0, Value.int .u8 0, Value.int .u8 0, Value.int .u8 0, Value.int .u8 0, Value.int .u8 0, Value.int .u8 0, Value.int .u8 0, Value.int .i64 0] 70)) b 70 [] :=
  ⟨fun j => by simp, by simp, by subst hb; exact heap_alloc_new w _⟩
theorem sum_cur (g : Nat) (T : TypeId) (pre : List Int) (w : World) (hC : Cur w g T pre) :
    Calls Try.prog 39 #[.pointer (some ⟨g, 0, none⟩)] w fun e w' => e = .returned (.int .u64 (fnv pre % 281474976710656)) ∧ ∃ q, w' = w.drewN q := by
  have h := sum_any g pre.length T _ w hC.rdr hC.2.1
  rw [List.take_left'  rfl] at h
  exact h
theorem leb_48 (f : Int) : leb (f % 281474976710656) 6 = leb f 6 := by
  simp only [leb, List.range, List.range.loop, List.map, sh]
  have e0 : f % 281474976710656 % 256 = f % 256 := by omega
  have e1 : f % 281474976710656 / 256 % 256 = f / 256 % 256 := by omega
  have e2 : f % 281474976710656 / 256 / 256 % 256 = f / 256 / 256 % 256 := by omega
  have e3 : f % 281474976710656 / 256 / 256 / 256 % 256 = f / 256 / 256 / 256 % 256 := by omega
  have e4 : f % 281474976710656 / 256 / 256 / 256 / 256 % 256 = f / 256 / 256 / 256 / 256 % 256 := by omega
  have e5 : f % 281474976710656 / 256 / 256 / 256 / 256 / 256 % 256 = f / 256 / 256 / 256 / 256 / 256 % 256 := by omega
  rw [e0, e1, e2, e3, e4, e5]
theorem box4 {w W : World} {k v x s : Value} {T : TypeId} (hb : Below (w.heap.size + 1) (w.alloc (.cells #[k, v, x, s] T)) W) :
    W.cell? ⟨w.heap.size, 0, none⟩ = some k ∧ W.cell? ⟨w.heap.size, 1, none⟩ = some v ∧ W.cell? ⟨w.heap.size, 2, none⟩ = some x ∧ W.cell? ⟨w.heap.size, 3, none⟩ = some s := by
  refine ⟨?_, ?_, ?_, ?_⟩
  all_goals (rw [hb.cell (by simp)]; simp)

set_option maxHeartbeats 800000 in
theorem implEnc_no (k v x s : Int) (w : World) (hok : pkOk k v x s = false) :
    Calls Try.prog 11 #[.agg #[.int .i64 k, .int .i64 v, .int .i64 x, .int .i64 s]] w fun e w' => e = .returned (.slice none 0 0) ∧ Below w.heap.size w w' := by
  go_enter Try.func11, Try.ntmps11
  go_wp2_with fail
  refine (implOk_any _ _ _ _ _).mono ?_
  rintro e w1 ⟨rfl, hb1⟩
  go_wp2
  go_ret
  exact ⟨rfl, ((Below.refl _ _).alloc (Nat.le_refl _) _).trans (hb1.mono (by simp))⟩

set_option maxHeartbeats 1600000 in
theorem implEnc_yes (k v x s : Int) (w : World) (hok : pkOk k v x s = true) (hv : 0 ≤ v ∧ v ≤ 1000000000) (hs : 0 ≤ s ∧ s ≤ 1000000000) (hk : 1 ≤ k ∧ k ≤ 2) :
    Calls Try.prog 11 #[.agg #[.int .i64 k, .int .i64 v, .int .i64 x, .int .i64 s]] w fun e w' => ∃ g, e = .returned (.slice (some ⟨g, 0, none⟩) 24 24) ∧ Cur w' g 70 (encB k v x s) ∧ w.heap.size ≤ g ∧ Below w.heap.size w w' := by
  go_enter Try.func11, Try.ntmps11
  go_wp2_with fail
  refine (implOk_any _ _ _ _ _).mono ?_
  rintro e w1 ⟨rfl, hb1⟩
  rw [World.size_alloc] at hb1
  have hz := hb1.size
  rw [World.size_alloc] at hz
  have HK : Hid (encB k v x s = enc18 k v x s ++ leb (fnv (enc18 k v x s) % 281474976710656) 6) := by rw [leb_48]; rfl
  have HX := IntKind.wrap_u64 x
  have hx : 0 ≤ IntKind.u64.wrap x ∧ IntKind.u64.wrap x ≤ 18446744073709551615 := by omega
  clear HX
  go_wp2_with fail
  have hC := cur_new w1 _ rfl
  have hbA := hb1.alloc (by omega) (.cells #[Value.int .u8 0, Value.int .u8 0, Value.int .u8 0, Value.int .u8 0, Value.int .u8 0, Value.int .u8 0, Value.int .u8 0, Value.int .u8 0, Value.int .u8 0, Value.int .u8 0, Value.int .u8 0, Value.int .u8 0, Value.int .u8 0, Value.int .u8 0, Value.int .u8 0, Value.int .u8 0, Value.int .u8 0, Value.int .u8 0, Value.int .u8 0, Value.int .u8 0, Value.int .u8 0, Value.int .u8 0, Value.int .u8 0, Value.int .u8 0, Value.int .i64 0] 70)
  refine (put_at w1.heap.size 1 1 72 [] _ rfl hC (by simp) (by omega)).mono ?_
  rintro e w2 ⟨rfl, hC2, hO2⟩
  have hb2 := hbA.trans (hO2.below (by omega))
  clear hC hbA hO2 hb1
  obtain ⟨c0, c1, c2, c3⟩ := box4 hb2
  go_wp2_with fail
  refine (put_at w1.heap.size 1 1 k _ _ rfl hC2 (by simp [leb_length]) (by omega)).mono ?_
  clear c0 c1 c2 c3
  rintro e w3 ⟨rfl, hC3, hO3⟩
  have hb3 := hb2.trans (hO3.below (by omega))
  clear hC2 hb2 hO3
  obtain ⟨c0, c1, c2, c3⟩ := box4 hb3
  go_wp2_with fail
  refine (put_at w1.heap.size 4 4 v _ _ rfl hC3 (by simp [leb_length]) (by omega)).mono ?_
  clear c0 c1 c2 c3
  rintro e w4 ⟨rfl, hC4, hO4⟩
  have hb4 := hb3.trans (hO4.below (by omega))
  clear hC3 hb3 hO4
  obtain ⟨c0, c1, c2, c3⟩ := box4 hb4
  go_wp2_with fail
  refine (put_at w1.heap.size 8 8 (IntKind.u64.wrap x) _ _ rfl hC4 (by simp [leb_length]) hx).mono ?_
  clear c0 c1 c2 c3
  rintro e w5 ⟨rfl, hC5, hO5⟩
  have hb5 := hb4.trans (hO5.below (by omega))
  clear hC4 hb4 hO5
  obtain ⟨c0, c1, c2, c3⟩ := box4 hb5
  go_wp2_with fail
  refine (put_at w1.heap.size 4 4 s _ _ rfl hC5 (by simp [leb_length]) (by omega)).mono ?_
  clear c0 c1 c2 c3
  rintro e w6 ⟨rfl, hC6, hO6⟩
  have hb6 := hb5.trans (hO6.below (by omega))
  clear hC5 hb5 hO6
  have hC6 : Cur w6 w1.heap.size 70 (enc18 k v x s) := hC6
  go_wp2_with fail
  refine (sum_cur w1.heap.size _ _ _ hC6).mono ?_
  rintro e w7 ⟨rfl, q, hq⟩
  have hC7 : Cur w7 w1.heap.size 70 (enc18 k v x s) := by rw [hq]; exact hC6
  have hb7 : Below (w.heap.size + 1) (w.alloc (.cells #[.int .i64 k, .int .i64 v, .int .i64 x, .int .i64 s] 24)) w7 := by rw [hq]; exact hb6.trans ⟨rfl, rfl, rfl, Nat.le_refl _, fun _ _ => rfl⟩
  clear hC6 hb6 hq q
  have hlen : (enc18 k v x s).length = 18 := by simp [enc18, leb_length]
  generalize enc18 k v x s = l at *
  have hf := fnv_bd l
  go_wp2_with fail
  refine (put_at w1.heap.size 6 6 (fnv l % 281474976710656) _ _ rfl hC7 (by omega) (by omega)).mono ?_
  rintro e w8 ⟨rfl, hC8, hO8⟩
  have hb8 := hb7.trans (hO8.below (by omega))
  clear hC7 hb7 hO8
  rw [← HK.out] at hC8
  go_wp2
  go_ret
  exact ⟨_, rfl, hC8, by omega, ((Below.refl _ _).alloc (Nat.le_refl _) _).trans (hb8.mono (by omega))⟩

theorem encB_length (k v x s : Int) : (encB k v x s).length = 24 := by simp [encB, enc18, leb_length]
theorem pkOk_parts {k v x s : Int} (h : pkOk k v x s = true) : (0 ≤ v ∧ v ≤ 1000000000) ∧ (0 ≤ s ∧ s ≤ 1000000000) ∧ (1 ≤ k ∧ k ≤ 2) ∧ (k = 2 → x = 0) := by
  unfold pkOk at h
  simp only [Bool.and_eq_true, decide_eq_true_eq, Bool.or_eq_true] at h
  obtain ⟨⟨h1, h2⟩, h3⟩ := h
  omega

/-! ### spec.Encode -/
theorem bd_append {a b : List Int} (ha : ∀ j : Nat, 0 ≤ a.getD j 0 ∧ a.getD j 0 ≤ 255) (hb : ∀ j : Nat, 0 ≤ b.getD j 0 ∧ b.getD j 0 ≤ 255) : ∀ j : Nat, 0 ≤ (a ++ b).getD j 0 ∧ (a ++ b).getD j 0 ≤ 255 := by
  intro j
  have h1 := ha j
  have h2 := hb (j - a.length)
  simp only [List.getD_eq_getElem?_getD, List.getElem?_append] at h1 h2 ⊢
  split
  · exact h1
  · exact h2
theorem bd_one {z : Int} (h : 0 ≤ z ∧ z ≤ 255) : ∀ j : Nat, 0 ≤ [z].getD j 0 ∧ [z].getD j 0 ≤ 255 := by
  intro j
  match j with
  | 0 => exact h
  | j + 1 => simp
theorem bd_leb (n : Int) (k : Nat) : ∀ j : Nat, 0 ≤ (leb n k).getD j 0 ∧ (leb n k).getD j 0 ≤ 255 := by
  induction k with
  | zero => intro j; simp [leb]
  | succ k ih => rw [leb_succ]; exact bd_append ih (bd_one (by omega))
theorem enc18_bd (k v x s : Int) : ∀ j : Nat, 0 ≤ (enc18 k v x s).getD j 0 ∧ (enc18 k v x s).getD j 0 ≤ 255 :=
  bd_append (bd_append (bd_append (bd_append (bd_one (by omega)) (bd_leb _ _)) (bd_leb _ _)) (bd_leb _ _)) (bd_leb _ _)
theorem encB_bd (k v x s : Int) : ∀ j : Nat, 0 ≤ (encB k v x s).getD j 0 ∧ (encB k v x s).getD j 0 ≤ 255 := bd_append (enc18_bd _ _ _ _) (bd_leb _ _)
theorem own_row {w : World} {B g cap : Nat} {xs : List Int} (hbd : ∀ j : Nat, 0 ≤ xs.getD j 0 ∧ xs.getD j 0 ≤ 255)
    (h : w.ownsRow B 5 1 (.slice (some ⟨g, 0, none⟩) xs.length cap) xs.length (xs.map (Value.int .u8))) : Own w g 0 xs ∧ B ≤ g := by
  rcases h.2 with ⟨h', _⟩ | ⟨g', cap', cur, h', hB, hg, _, _, _, htake⟩
  · simp at h'
  · simp only [Value.slice.injEq, Option.some.injEq, Addr.mk.injEq, and_true, true_and] at h'
    obtain ⟨rfl, rfl⟩ := h'
    refine ⟨⟨hbd, cur, _, hg, fun i hi => ?_⟩, hB⟩
    have h2 : (cur.toList.take (xs.length * 1))[i]? = some (.int .u8 (xs.getD i 0)) := by
      rw [htake, List.getElem?_map, List.getD_eq_getElem?_getD, List.getElem?_eq_getElem hi]; rfl
    rw [List.getElem?_take, if_pos (by omega)] at h2
    simpa using h2
theorem row_form {w : World} {base size n : Nat} {e : TypeId} {v : Value} {xs : List Value} (h : w.ownsRow base e size v n xs) (hn : 0 < n) : ∃ g cap, v = .slice (some ⟨g, 0, none⟩) n cap := by
  rcases h.2 with ⟨_, h0⟩ | ⟨g, cap, _, hv, _⟩
  · omega
  · exact ⟨g, cap, hv⟩
theorem l1put_at (B k : Nat) (v : Value) (n kk : Int) (xs : List Int) (w : World) (hk : kk = (k : Int)) (hB : B ≤ w.heap.size) (hO : w.ownsRow B 5 1 v xs.length (xs.map (Value.int .u8))) (hm : xs.length + k ≤ 1000) (hp : 0 < xs.length) (hn : 0 ≤ n ∧ n ≤ 18446744073709551615) :
    Calls Try.prog 41 #[v, .int .u64 n, .int .i64 kk] w fun e w' => ∃ g cap, e = .returned (.slice (some ⟨g, 0, none⟩) (xs ++ leb n k).length cap) ∧ w'.ownsRow B 5 1 (.slice (some ⟨g, 0, none⟩) (xs ++ leb n k).length cap) (xs ++ leb n k).length ((xs ++ leb n k).map (Value.int .u8)) ∧ Below B w w' := by
  subst hk
  refine (l1put_any B k v n xs w hB hO hm hn).mono ?_
  rintro e w' ⟨v', rfl, ho, hb⟩
  obtain ⟨g, cap, rfl⟩ := row_form ho (by rw [List.length_append]; omega)
  exact ⟨g, cap, rfl, ho, hb⟩

set_option maxHeartbeats 800000 in
theorem specEnc_no (k v x s : Int) (w : World) (hok : pkOk k v x s = false) :
    Calls Try.prog 13 #[.agg #[.int .i64 k, .int .i64 v, .int .i64 x, .int .i64 s]] w fun e w' => e = .returned (.slice none 0 0) ∧ Below w.heap.size w w' := by
  go_enter Try.func13, Try.ntmps13
  go_wp2_with fail
  refine (specOk_any _ _ _ _ _).mono ?_
  rintro e w1 ⟨rfl, hb1⟩
  go_wp2
  go_ret
  exact ⟨rfl, ((Below.refl _ _).alloc (Nat.le_refl _) _).trans (hb1.mono (by simp))⟩

set_option maxHeartbeats 1600000 in
theorem specEnc_yes (k v x s : Int) (w : World) (hok : pkOk k v x s = true) (hv : 0 ≤ v ∧ v ≤ 1000000000) (hs : 0 ≤ s ∧ s ≤ 1000000000) (hk : 1 ≤ k ∧ k ≤ 2) :
    Calls Try.prog 13 #[.agg #[.int .i64 k, .int .i64 v, .int .i64 x, .int .i64 s]] w fun e w' => ∃ g cap, e = .returned (.slice (some ⟨g, 0, none⟩) 24 cap) ∧ Own w' g 0 (encB k v x s) ∧ w.heap.size ≤ g ∧ Below w.heap.size w w' := by
  go_enter Try.func13, Try.ntmps13
  go_wp2_with fail
  refine (specOk_any _ _ _ _ _).mono ?_
  rintro e w1 ⟨rfl, hb1⟩
  rw [World.size_alloc] at hb1
  have hz := hb1.size
  rw [World.size_alloc] at hz
  have HX := IntKind.wrap_u64 x
  have hx : 0 ≤ IntKind.u64.wrap x ∧ IntKind.u64.wrap x ≤ 18446744073709551615 := by omega
  clear HX
  have HK : Hid ([72] ++ leb k 1 = [72, k]) := by
    show [72] ++ [k % 256] = [72, k]
    rw [show k % 256 = k by omega]; rfl
  obtain ⟨c0, c1, c2, c3⟩ := box4 hb1
  have hlt : w.heap.size < w1.heap.size := by omega
  go_wp2_with fail
  clear c0 c1 c2 c3
  have hO : (w1.alloc (.cells #[Value.int .u8 72, Value.int .u8 k] 5)).ownsRow (w.heap.size + 1) 5 1 (.slice (some ⟨w1.heap.size, 0, none⟩) 2 2) [72, k].length ([72, k].map (Value.int .u8)) := World.ownsRow_lit (base := w.heap.size + 1) (e := 5) (size := 1) w1 #[.int .u8 72, .int .u8 k] 2 (by omega) (by unfold maxLen; omega) rfl
  have hbA := hb1.alloc (by omega) (.cells #[Value.int .u8 72, Value.int .u8 k] 5)
  refine (l1put_at (w.heap.size + 1) 4 _ v 4 [72, k] _ rfl (by simp; omega) hO (by simp) (by simp) (by omega)).mono ?_
  rintro e w2 ⟨g2, p2, rfl, hO2, hW2⟩
  have hb2 := hbA.trans hW2
  have hz2 := hb2.size
  rw [World.size_alloc] at hz2
  clear hO hbA hW2 hb1
  obtain ⟨c0, c1, c2, c3⟩ := box4 hb2
  go_wp2_with fail
  clear c0 c1 c2 c3
  refine (l1put_at (w.heap.size + 1) 8 _ (IntKind.u64.wrap x) 8 _ _ rfl (by omega) hO2 (by simp [leb_length]) (by simp) hx).mono ?_
  rintro e w3 ⟨g3, p3, rfl, hO3, hW3⟩
  have hb3 := hb2.trans hW3
  have hz3 := hb3.size
  rw [World.size_alloc] at hz3
  clear hO2 hb2 hW3
  obtain ⟨c0, c1, c2, c3⟩ := box4 hb3
  go_wp2_with fail
  clear c0 c1 c2 c3
  refine (l1put_at (w.heap.size + 1) 4 _ s 4 _ _ rfl (by omega) hO3 (by simp [leb_length]) (by simp) (by omega)).mono ?_
  rintro e w4 ⟨g4, p4, rfl, hO4, hW4⟩
  have hb4 := hb3.trans hW4
  have hz4 := hb4.size
  rw [World.size_alloc] at hz4
  clear hO3 hb3 hW4
  have h18 : ([72, k] ++ leb v 4 ++ leb (IntKind.u64.wrap x) 8 ++ leb s 4) = enc18 k v x s := by rw [← HK.out]; rfl
  rw [h18] at hO4 ⊢
  have hlen : (enc18 k v x s).length = 18 := by simp [enc18, leb_length]
  have HLn : Hid ((enc18 k v x s).length = 18) := hlen
  have hl1 : (enc18 k v x s).length ≤ 18 := by omega
  have hl2 : 18 ≤ (enc18 k v x s).length := by omega
  clear hlen
  have hbd := enc18_bd k v x s
  have HE : Hid (encB k v x s = enc18 k v x s ++ leb (fnv (enc18 k v x s)) 6) := rfl
  have HBD : Hid (∀ j : Nat, 0 ≤ (encB k v x s).getD j 0 ∧ (encB k v x s).getD j 0 ≤ 255) := encB_bd k v x s
  clear h18 HK
  generalize enc18 k v x s = l at *
  have hOw := (own_row hbd hO4).1
  have hf := fnv_bd l
  have HF : Hid (∀ j : Nat, 0 ≤ l.getD j 0 ∧ l.getD j 0 ≤ 255) := hbd
  clear hbd
  go_wp2_with fail
  refine (l1sum_any _ _ l _ (by omega) hOw.bytes).mono ?_
  rintro e w5 ⟨rfl, hw5⟩
  rw [hw5]
  clear hw5
  go_wp2_with fail
  refine (l1put_at (w.heap.size + 1) 6 _ (fnv l) 6 _ _ rfl (by omega) hO4 (by omega) (by omega) hf).mono ?_
  rintro e w6 ⟨g6, p6, rfl, hO6, hW6⟩
  have hb6 := hb4.trans hW6
  clear hO4 hb4 hW6 hOw
  rw [← HE.out] at hO6 ⊢
  have hl6 : (encB k v x s).length = 24 := by rw [HE.out, List.length_append, leb_length, HLn.out]
  have hO7 := own_row HBD.out hO6
  rw [hl6]
  go_wp2
  go_ret
  exact ⟨_, _, rfl, hO7.1, by omega, ((Below.refl _ _).alloc (Nat.le_refl _) _).trans (hb6.mono (by omega))⟩
end Go.Proofs.Ytfbikieolepldaa
