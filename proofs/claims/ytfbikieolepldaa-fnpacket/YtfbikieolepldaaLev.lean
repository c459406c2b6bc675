/-
  NUMBERS OUT OF BYTES, lowest first; THE WALKS OF take, l1get, l1same, eqPacket.
-/
import Derived.Test.YtfbikieolepldaaLeb
namespace Go.Proofs.Ytfbikieolepldaa
open Go.RowKit
attribute [local go_sem ↓] Go.wp_at_zero Go.wp_at_succ

/-! ### The numbers -/
def lev : List Int → Int
  | [] => 0
  | b :: l => b + 256 * lev l
def ByteL (l : List Int) : Prop := ∀ j : Nat, 0 ≤ l.getD j 0 ∧ l.getD j 0 ≤ 255
theorem ByteL.tail {b : Int} {l : List Int} (h : ByteL (b :: l)) : ByteL l := fun j => by simpa using h (j + 1)
theorem ByteL.head {b : Int} {l : List Int} (h : ByteL (b :: l)) : 0 ≤ b ∧ b ≤ 255 := by simpa using h 0
theorem ByteL.drop {l : List Int} (h : ByteL l) (k : Nat) : ByteL (l.drop k) := fun j => by simpa [List.getD_eq_getElem?_getD] using h (k + j)
theorem ByteL.take {l : List Int} (h : ByteL l) (k : Nat) : ByteL (l.take k) := fun j => by
  rw [List.getD_eq_getElem?_getD, List.getElem?_take]
  split
  · exact h j
  · simp
theorem lev_snoc (l : List Int) (b : Int) : lev (l ++ [b]) = lev l + 256 ^ l.length * b := by
  induction l with
  | nil => simp [lev]
  | cons a l ih =>
    show a + 256 * lev (l ++ [b]) = a + 256 * lev l + 256 ^ (l.length + 1) * b
    rw [ih, Int.pow_succ, Int.mul_add, Int.mul_comm (256 ^ l.length) 256, Int.mul_assoc]; omega
theorem lev_nonneg (l : List Int) (h : ByteL l) : 0 ≤ lev l := by
  induction l with
  | nil => exact Int.le_refl 0
  | cons a l ih => have := ih h.tail; have := h.head; show 0 ≤ a + 256 * lev l; omega
theorem lev_lt (l : List Int) (h : ByteL l) : lev l < 256 ^ l.length := by
  induction l with
  | nil => decide
  | cons a l ih => have := ih h.tail; have := h.head; show a + 256 * lev l < 256 ^ (l.length + 1); rw [Int.pow_succ]; omega
theorem lev_lt8 (l : List Int) (k : Nat) (h : ByteL l) (hl : l.length ≤ k) : lev l < 256 ^ k := by
  have h1 := lev_lt l h
  have h2 : (256 : Int) ^ l.length ≤ 256 ^ k := by
    have := Int.ofNat_le.2 (Nat.pow_le_pow_right (n := 256) (by omega) hl)
    rw [Int.natCast_pow, Int.natCast_pow] at this
    exact this
  omega
theorem sh_succ (n : Int) (k : Nat) : sh n (k + 1) = sh (n / 256) k := by
  induction k with
  | zero => rfl
  | succ k ih => show sh n (k + 1) / 256 = sh (n / 256) k / 256; rw [ih]
theorem leb_cons (n : Int) (k : Nat) : leb n (k + 1) = (n % 256) :: leb (n / 256) k := by
  unfold leb
  rw [List.range_succ_eq_map, List.map_cons, List.map_map]
  congr 1
  apply List.map_congr_left
  intro i _
  show sh n (i + 1) % 256 = _
  rw [sh_succ]
theorem leb_lev (l : List Int) (h : ByteL l) : leb (lev l) l.length = l := by
  induction l with
  | nil => rfl
  | cons a l ih =>
    have hh := h.head
    have h0 := lev_nonneg l h.tail
    show leb (a + 256 * lev l) (l.length + 1) = a :: l
    rw [leb_cons, show (a + 256 * lev l) % 256 = a by omega, show (a + 256 * lev l) / 256 = lev l by omega, ih h.tail]
theorem leb_lev_at (l : List Int) (k : Nat) (h : ByteL l) (hk : l.length = k) : leb (lev l) k = l := by subst hk; exact leb_lev l h
theorem lev_leb6 (f : Int) : lev (leb f 6) = f % 281474976710656 := by
  simp only [leb_cons, leb_zero, lev]
  omega
theorem or_shift (n b : Int) (j : Nat) (hj : j < 8) (hn : 0 ≤ n ∧ n < 256 ^ j) (hb : 0 ≤ b ∧ b ≤ 255) : bits .or .u64 n (IntKind.u64.wrap (b * 2 ^ (8 * j))) = n + 256 ^ j * b := by
  obtain ⟨m, rfl⟩ := Int.eq_ofNat_of_zero_le hn.1
  obtain ⟨c, rfl⟩ := Int.eq_ofNat_of_zero_le hb.1
  have e1 : ((256 : Int) ^ j) = ((2 ^ (8 * j) : Nat) : Int) := by rw [Nat.pow_mul]; simp
  have hp : 2 ^ (8 * j) ≤ 2 ^ 56 := Nat.pow_le_pow_right (by omega) (by omega)
  have hm : m < 2 ^ (8 * j) := by have := hn.2; rw [e1] at this; exact_mod_cast this
  have hc : c ≤ 255 := by omega
  have hcb : c * 2 ^ (8 * j) < 18446744073709551616 := Nat.lt_of_le_of_lt (Nat.mul_le_mul hc hp) (by decide)
  have e2 : IntKind.u64.wrap ((c : Int) * 2 ^ (8 * j)) = ((c * 2 ^ (8 * j) : Nat) : Int) := by
    rw [IntKind.wrap_u64]
    have : ((c : Int) * 2 ^ (8 * j)) = ((c * 2 ^ (8 * j) : Nat) : Int) := by simp
    rw [this]; omega
  rw [e2, bits_or_u64_nat _ _ (by omega) hcb, e1]
  have e3 : m ||| c * 2 ^ (8 * j) = 2 ^ (8 * j) * c + m := by
    rw [Nat.or_comm, Nat.mul_comm c, ← Nat.two_pow_add_eq_or_of_lt hm]
  rw [e3]
  simp
  omega

/-- The shift of a byte to its place, as the walk writes it. -/
theorem shift_at (z : Int) (j : Nat) (hz : 0 ≤ z ∧ z ≤ 255) (hj : j < 8) : Op.shift .shl .u64 (IntKind.u64.wrap z) .i64 (IntKind.i64.wrap (8 * (j : Int))) = pure (.int .u64 (IntKind.u64.wrap (z * 2 ^ (8 * j)))) := by
  have e1 : IntKind.i64.wrap (8 * (j : Int)) = ((8 * j : Nat) : Int) := by simp [IntKind.wrap, IntKind.bits, IntKind.signed]; omega
  rw [IntWalk.u64_in z (by omega), e1, shift_shl_u64 .i64 z ((8 * j : Nat) : Int) (by omega) (by omega), Int.toNat_natCast]

set_option maxHeartbeats 800000 in
theorem take_any (g k p : Nat) (bs : List Int) (w : World) (hR : Rdr w g 73 bs p) (hm : p + k ≤ 24) (hk8 : k ≤ 8) :
    Calls Try.prog 40 #[.pointer (some ⟨g, 0, none⟩), .int .i64 k] w fun e w' => e = .returned (.int .u64 (lev ((bs.drop p).take k))) ∧ Rdr w' g 73 bs (p + k) ∧ Only g w w' := by
  have HB : Hid (ByteL bs) := hR.1
  have HL : Hid (bs.length = 24) := hR.2.1
  go_enter Try.func40, Try.ntmps40
  go_wp2
  go_loopw [5, 8] (fun v i wr => ∃ j : Nat, j ≤ k ∧ i = .int .i64 j ∧ v = .int .u64 (lev ((bs.drop p).take j)) ∧ Hid (Rdr wr g 73 bs (p + j)) ∧ Hid (Only g w wr)) (fun _ i _ => k - (intOf i).toNat)
  case atStart => exact ⟨0, Nat.zero_le _, rfl, rfl, hR, Only.refl _ _⟩
  case round =>
    clear hR
    obtain ⟨j, hj, rfl, rfl, HR, HW⟩ := hrel
    by_cases hlt : j < k
    · have hbl : ByteL ((bs.drop p).take j) := (HB.out.drop p).take j
      have hn0 := lev_nonneg _ hbl
      have hn1 : lev ((bs.drop p).take j) < 256 ^ j := lev_lt8 _ j hbl (by rw [List.length_take]; omega)
      have hn8 : lev ((bs.drop p).take j) < 256 ^ 7 := lev_lt8 _ 7 hbl (by rw [List.length_take]; omega)
      have hb0 := HB.out (p + j)
      have HS : Hid (lev ((bs.drop p).take (j + 1)) = lev ((bs.drop p).take j) + 256 ^ j * bs.getD (p + j) 0) := by
        rw [take_snoc _ j 0 (by rw [List.length_drop, HL.out]; omega), lev_snoc, List.length_take, List.length_drop, HL.out, Nat.min_eq_left (by omega)]
        congr 2
        simp [List.getD_eq_getElem?_getD]
      have cp := HR.out.place
      have fp := HR.out.free 24
      have cz := HR.out.cell (p + j) (by omega)
      have HR2 : Hid (Rdr (wr.setCell ⟨g, 24, none⟩ (.int .i64 (((p + j : Nat) : Int) + 1))) g 73 bs (p + j + 1)) := HR.out.step
      have cz2 : (wr.setCell ⟨g, 24, none⟩ (.int .i64 (((p + j : Nat) : Int) + 1))).cell? ⟨g, p + j, none⟩ = some (.int .u8 (bs.getD (p + j) 0)) := HR2.out.cell (p + j) (by omega)
      have HOS := or_shift _ _ j (by omega) ⟨hn0, hn1⟩ hb0
      have HO : Hid _ := HOS
      have hsh := shift_at (bs.getD (p + j) 0) j hb0 (by omega)
      clear HR HOS hbl hn1
      generalize IntKind.u64.wrap (bs.getD (p + j) 0 * 2 ^ (8 * j)) = m at *
      generalize lev ((bs.drop p).take j) = n at *
      generalize bs.getD (p + j) 0 = z at *
      obtain ⟨q, hq⟩ : ∃ q, q = p + j := ⟨_, rfl⟩
      have HQ : Hid (q = p + j) := hq
      have hq24 : q < 24 := by omega
      rw [← hq] at cp cz cz2 HR2
      clear hq
      have hqi : (q : Int) < 24 := by omega
      have hkk : (j : Int) < (k : Int) := by omega
      have hn9 : n ≤ 18446744073709551615 := by omega
      clear hn8
      go_wp2_with fail
      go_region_held3 (fun w' => w'.cell? ⟨g, q, none⟩ = some (.int .u8 z)) (first | exact cz | exact cz2) (first | (go_at_call 63; refine (step_any g q _ ?_ ?_ ?_ ?_).mono ?_; (simp [*]); (simp [*]); omega; omega; rintro e w' ⟨rfl, rfl⟩))
      go_wp2
      exact ⟨⟨j + 1, by omega, by go_num, by rw [HO.out, HS.out], by rw [show p + (j + 1) = q + 1 from by have := HQ.out; omega]; exact HR2, (HW.out.set 24 _).drew⟩, by simp [intOf]; omega⟩
    · have hkn : j = k := by omega
      subst hkn
      have hc2 := HR.out
      have ho2 := HW.out
      clear HR HW
      go_wp2
      go_ret
      exact ⟨rfl, hc2, ho2⟩
theorem take_at (g k p : Nat) (kk : Int) (bs : List Int) (w : World) (hkk : kk = (k : Int)) (hR : Rdr w g 73 bs p) (hm : p + k ≤ 24) (hk8 : k ≤ 8) :
    Calls Try.prog 40 #[.pointer (some ⟨g, 0, none⟩), .int .i64 kk] w fun e w' => e = .returned (.int .u64 (lev ((bs.drop p).take k))) ∧ Rdr w' g 73 bs (p + k) ∧ Only g w w' := by
  subst hkk; exact take_any g k p bs w hR hm hk8

/-! ### l1get: from the last byte down -/
theorem or_8 (n b : Int) (hn : 0 ≤ n ∧ n < 72057594037927936) (hb : 0 ≤ b ∧ b ≤ 255) : bits .or .u64 (n * 256) b = b + 256 * n := by
  obtain ⟨m, rfl⟩ := Int.eq_ofNat_of_zero_le hn.1
  obtain ⟨c, rfl⟩ := Int.eq_ofNat_of_zero_le hb.1
  have e1 : ((m : Int) * 256) = ((m * 256 : Nat) : Int) := by simp
  rw [e1, bits_or_u64_nat _ _ (by omega) (by omega)]
  have e3 : m * 256 ||| c = 2 ^ 8 * m + c := by
    rw [Nat.mul_comm m, ← Nat.two_pow_add_eq_or_of_lt (i := 8) (by omega)]
  rw [e3]
  simp
  omega

set_option maxHeartbeats 800000 in
theorem l1get_any (b off n cap : Nat) (zs : List Int) (w : World) (hn : zs.length = n) (hm : n ≤ 8) (hz : ByteL zs) (hc : ∀ i, i < n → w.cell? ⟨b, off + i, none⟩ = some (.int .u8 (zs.getD i 0))) :
    Calls Try.prog 60 #[.slice (some ⟨b, off, none⟩) n cap] w fun e w' => e = .returned (.int .u64 (lev zs)) ∧ w' = w := by
  have HN : Hid (zs.length = n) := hn
  have HZ : Hid (ByteL zs) := hz
  have HC : Hid (∀ i, i < n → w.cell? ⟨b, off + i, none⟩ = some (.int .u8 (zs.getD i 0))) := hc
  clear hn hz hc
  go_enter Try.func60, Try.ntmps60
  go_wp2
  go_loop [3, 4] (fun v i => ∃ j : Nat, j ≤ n ∧ i = .int .i64 ((j : Int) - 1) ∧ v = .int .u64 (lev (zs.drop j))) (fun _ i => (intOf i + 1).toNat)
  case atStart => exact ⟨n, Nat.le_refl _, rfl, by rw [List.drop_of_length_le (by rw [HN.out]; exact Nat.le_refl _)]; rfl⟩
  case round =>
    obtain ⟨j, hj, rfl, rfl⟩ := hrel
    by_cases hlt : 0 < j
    · obtain ⟨i, rfl⟩ : ∃ i, j = i + 1 := ⟨j - 1, by omega⟩
      have hbl := HZ.out.drop (i + 1)
      have h0 := lev_nonneg _ hbl
      have h1 : lev (zs.drop (i + 1)) < 256 ^ 7 := lev_lt8 _ 7 hbl (by rw [List.length_drop, HN.out]; omega)
      have HS : Hid (lev (zs.drop i) = zs.getD i 0 + 256 * lev (zs.drop (i + 1))) := by
        rw [List.drop_eq_getElem_cons (by rw [HN.out]; omega)]
        show _ + 256 * _ = _
        rw [List.getD_eq_getElem?_getD, List.getElem?_eq_getElem (by rw [HN.out]; omega)]
        rfl
      have hb0 := HZ.out i
      have hcl := HC.out i (by omega)
      have HO : Hid (bits .or .u64 (lev (zs.drop (i + 1)) * 256) (zs.getD i 0) = zs.getD i 0 + 256 * lev (zs.drop (i + 1))) := or_8 _ _ ⟨h0, by omega⟩ hb0
      generalize lev (zs.drop (i + 1)) = m at *
      generalize zs.getD i 0 = z at *
      have hm2 : m < 72057594037927936 := by omega
      clear h1 hbl
      go_wp2
      exact ⟨⟨i, by omega, rfl, by rw [HO.out, HS.out]⟩, by simp only [intOf]; omega⟩
    · have hj0 : j = 0 := by omega
      subst hj0
      go_wp2
      go_ret
      exact ⟨rfl, rfl⟩

/-! ### l1same, eqPacket -/
set_option maxHeartbeats 800000 in
theorem l1same_any (b1 o1 b2 o2 n ca cb : Nat) (xs ys : List Int) (w : World) (hm : n ≤ 1000) (hx : xs.length = n) (hy : ys.length = n)
    (h1 : ∀ i, i < n → w.cell? ⟨b1, o1 + i, none⟩ = some (.int .u8 (xs.getD i 0))) (h2 : ∀ i, i < n → w.cell? ⟨b2, o2 + i, none⟩ = some (.int .u8 (ys.getD i 0))) :
    Calls Try.prog 61 #[.slice (some ⟨b1, o1, none⟩) n ca, .slice (some ⟨b2, o2, none⟩) n cb] w fun e w' => e = .returned (.bool (decide (xs = ys))) ∧ Below w.heap.size w w' := by
  have H1 : Hid (∀ i, i < n → w.cell? ⟨b1, o1 + i, none⟩ = some (.int .u8 (xs.getD i 0))) := h1
  have H2 : Hid (∀ i, i < n → w.cell? ⟨b2, o2 + i, none⟩ = some (.int .u8 (ys.getD i 0))) := h2
  have HX : Hid (xs.length = n ∧ ys.length = n) := ⟨hx, hy⟩
  clear h1 h2 hx hy
  have hne : ((n : Int) != (n : Int)) = false := by simp
  go_enter Try.func61, Try.ntmps61
  go_wp2
  go_loopw [13] (fun i wr => ∃ k : Nat, k ≤ n ∧ i = .int .i64 k ∧ Hid (∀ j, j < k → xs.getD j 0 = ys.getD j 0) ∧ ∃ q, wr = w.drewN q) (fun i _ => n - (intOf i).toNat)
  case atStart => exact ⟨0, Nat.zero_le _, rfl, fun j hj => by omega, 0, rfl⟩
  case round =>
    obtain ⟨k, hk, rfl, HE, q, rfl⟩ := hrel
    by_cases hlt : k < n
    · have c1 := H1.out k hlt
      have c2 := H2.out k hlt
      have hkk : (k : Int) < (n : Int) := by omega
      by_cases heq : xs.getD k 0 = ys.getD k 0
      · have HE2 : Hid (∀ j, j < k + 1 → xs.getD j 0 = ys.getD j 0) := by
          intro j hj
          by_cases hjk : j = k
          · subst hjk; exact heq
          · exact HE.out j (by omega)
        rw [heq] at c1
        clear heq
        generalize ys.getD k 0 = z at *
        have hzz : (z != z) = false := by simp
        go_wp2
        go_quiet (fail)
        go_wp2
        exact ⟨⟨k + 1, by omega, by go_num, HE2, _, rfl⟩, by simp [intOf]; omega⟩
      · have HD : Hid (decide (xs = ys) = false) := decide_eq_false (fun e => heq (by rw [e]))
        generalize xs.getD k 0 = z1 at *
        generalize ys.getD k 0 = z2 at *
        have hzz : (z1 != z2) = true := by simpa using heq
        clear heq
        go_wp2
        go_quiet (fail)
        go_wp2
        go_ret
        exact ⟨by rw [HD.out]; rfl, ⟨rfl, rfl, rfl, Nat.le_refl _, fun _ _ => rfl⟩⟩
    · have hkn : k = n := by omega
      subst hkn
      have HD : Hid (decide (xs = ys) = true) := by
        refine decide_eq_true (List.ext_getElem (by rw [HX.out.1, HX.out.2]) fun i h1 h2 => ?_)
        have := HE.out i (by rw [← HX.out.1]; exact h1)
        simpa [h1, h2] using this
      go_wp2
      go_ret
      exact ⟨by rw [HD.out]; rfl, ⟨rfl, rfl, rfl, Nat.le_refl _, fun _ _ => rfl⟩⟩

set_option maxHeartbeats 400000 in
theorem l1same_nil (b2 o2 cb : Nat) (w : World) :
    Calls Try.prog 61 #[.slice none 0 0, .slice (some ⟨b2, o2, none⟩) 24 cb] w fun e w' => e = .returned (.bool false) ∧ w' = w := by
  go_enter Try.func61, Try.ntmps61
  go_wp2
  go_ret
  exact ⟨rfl, rfl⟩

set_option maxHeartbeats 400000 in
theorem eqPacket_any (k v x s : Int) (w : World) :
    Calls Try.prog 31 #[.agg #[.int .i64 k, .int .i64 v, .int .i64 x, .int .i64 s], .agg #[.int .i64 k, .int .i64 v, .int .i64 x, .int .i64 s]] w fun e w' => e = .returned (.bool true) ∧ Below w.heap.size w w' := by
  have h1 : (k != k) = false := by simp
  have h2 : (v != v) = false := by simp
  have h3 : (x != x) = false := by simp
  have h4 : (s != s) = false := by simp
  go_enter Try.func31, Try.ntmps31
  go_wp2
  go_ret
  exact ⟨rfl, ((Below.refl _ _).alloc (Nat.le_refl _) _).alloc (by simp) _⟩
end Go.Proofs.Ytfbikieolepldaa
