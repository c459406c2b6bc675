/-
  PLAIN MATHEMATICS: a packet is read back from its bytes; one changed byte.
-/
import Derived.Test.YtfbikieolepldaaDec
namespace Go.Proofs.Ytfbikieolepldaa
open Go.RowKit

/-! ### A packet is read back -/
theorem seg {α : Type} (a b c : List α) (p n : Nat) (ha : a.length = p) (hb : b.length = n) : ((a ++ (b ++ c)).drop p).take n = b := by
  subst ha; subst hb
  rw [List.drop_left, List.take_left]
theorem lev_leb (n : Int) (k : Nat) (h : 0 ≤ n ∧ n < 256 ^ k) : lev (leb n k) = n := by
  induction k generalizing n with
  | zero => rw [leb_zero]; have := h.2; simp at this; show (0 : Int) = n; omega
  | succ k ih =>
    rw [leb_cons]
    have h2 := h.2
    rw [Int.pow_succ] at h2
    show n % 256 + 256 * lev (leb (n / 256) k) = n
    rw [ih (n / 256) (by omega)]
    omega
theorem encB_app (k v x s : Int) : encB k v x s = [72] ++ (leb k 1 ++ (leb v 4 ++ (leb (IntKind.u64.wrap x) 8 ++ (leb s 4 ++ leb (fnv (enc18 k v x s)) 6)))) := by
  simp [encB, enc18]
theorem enc_dM (k v x s : Int) : dM (encB k v x s) = 72 := by
  unfold dM; rw [encB_app]; rfl
theorem enc_dK (k v x s : Int) (hk : 1 ≤ k ∧ k ≤ 2) : dK (encB k v x s) = k := by
  unfold dK
  rw [encB_app, seg [72] (leb k 1) _ 1 1 rfl (leb_length _ _), lev_leb k 1 (by omega)]
theorem enc_dV (k v x s : Int) (hv : 0 ≤ v ∧ v ≤ 1000000000) : dV (encB k v x s) = v := by
  unfold dV
  rw [encB_app, ← List.append_assoc, seg ([72] ++ leb k 1) (leb v 4) _ 2 4 (by simp [leb_length]) (leb_length _ _), lev_leb v 4 (by omega)]
theorem enc_dL (k v x s : Int) : dL (encB k v x s) = IntKind.u64.wrap x := by
  have hx := IntKind.wrap_u64 x
  unfold dL
  rw [encB_app, ← List.append_assoc, ← List.append_assoc, seg ([72] ++ leb k 1 ++ leb v 4) (leb (IntKind.u64.wrap x) 8) _ 6 8 (by simp [leb_length]) (leb_length _ _), lev_leb _ 8 (by omega)]
theorem enc_dX (k v x s : Int) (hx : -9223372036854775808 ≤ x ∧ x ≤ 9223372036854775807) : dX (encB k v x s) = x := by
  unfold dX
  rw [enc_dL, IntKind.wrap_u64]
  unfold wrap64
  omega
theorem enc_dS (k v x s : Int) (hs : 0 ≤ s ∧ s ≤ 1000000000) : dS (encB k v x s) = s := by
  unfold dS
  rw [encB_app, ← List.append_assoc, ← List.append_assoc, ← List.append_assoc, seg ([72] ++ leb k 1 ++ leb v 4 ++ leb (IntKind.u64.wrap x) 8) (leb s 4) _ 14 4 (by simp [leb_length]) (leb_length _ _), lev_leb s 4 (by omega)]
theorem enc18_length (k v x s : Int) : (enc18 k v x s).length = 18 := by simp [enc18, leb_length]
theorem enc_take (k v x s : Int) : (encB k v x s).take 18 = enc18 k v x s := by
  unfold encB; rw [List.take_left']; exact enc18_length k v x s
theorem enc_drop (k v x s : Int) : ((encB k v x s).drop 18).take 6 = leb (fnv (enc18 k v x s)) 6 := by
  have h := seg (enc18 k v x s) (leb (fnv (enc18 k v x s)) 6) [] 18 6 (enc18_length k v x s) (leb_length _ _)
  rw [List.append_nil] at h
  exact h
theorem enc_dC (k v x s : Int) : dC (encB k v x s) = fnv ((encB k v x s).take 18) % 281474976710656 := by
  unfold dC
  rw [enc_drop, lev_leb6, enc_take]
theorem dec_enc (k v x s : Int) (hok : pkOk k v x s = true) (hx : -9223372036854775808 ≤ x ∧ x ≤ 9223372036854775807) : decV (encB k v x s) = .agg #[.int .i64 k, .int .i64 v, .int .i64 x, .int .i64 s] := by
  obtain ⟨h1, h2, h3, _⟩ := pkOk_parts hok
  have eK := enc_dK k v x s h3
  have eV := enc_dV k v x s h1
  have eX := enc_dX k v x s hx
  have eS := enc_dS k v x s h2
  have hg : good (encB k v x s) = true := good_y (enc_dM k v x s) (enc_dC k v x s) (by rw [eK, eV, eX, eS]; exact hok)
  unfold decV
  rw [hg, eK, eV, eX, eS]
  rfl

/-! ### One changed byte changes the lowest six bytes of the sum -/
theorem mul_inj (x y : Nat) (h : x * 1099511628211 % 281474976710656 = y * 1099511628211 % 281474976710656) : x % 281474976710656 = y % 281474976710656 := by
  have hd : ∀ z : Nat, z * 1099511628211 % 281474976710656 * 88337544549755 % 281474976710656 = z % 281474976710656 := by
    intro z
    rw [Nat.mod_mul_mod, Nat.mul_assoc]
    rw [Nat.mul_mod, show 1099511628211 * 88337544549755 % 281474976710656 = 1 from by decide]
    simp
  rw [← hd x, ← hd y, h]
theorem stp_nat (h z : Nat) (hh : h < 18446744073709551616) (hz : z < 256) : stp (h : Int) (z : Int) = (((h ^^^ z) * 1099511628211 % 18446744073709551616 : Nat) : Int) := by
  unfold stp
  rw [bits_xor_u64_nat h z hh (by omega), IntKind.wrap_u64]
  omega
theorem xor_mod48 (h z : Nat) (hz : z < 256) : (h ^^^ z) % 281474976710656 = (h % 281474976710656) ^^^ z := by
  have := Nat.xor_mod_two_pow (a := h) (b := z) (n := 48)
  rw [show (2 : Nat) ^ 48 = 281474976710656 from rfl] at this
  rw [this, Nat.mod_eq_of_lt (show z < 281474976710656 by omega)]
theorem xor_l (a b c : Nat) (h : a ^^^ b = a ^^^ c) : b = c := by
  have := congrArg (fun t => a ^^^ t) h
  simpa [← Nat.xor_assoc] using this
theorem xor_r (a b c : Nat) (h : a ^^^ c = b ^^^ c) : a = b := by
  have := congrArg (fun t => t ^^^ c) h
  simpa [Nat.xor_assoc] using this
theorem stp_inj (h1 h2 z1 z2 : Int) (b1 : 0 ≤ h1 ∧ h1 ≤ 18446744073709551615) (b2 : 0 ≤ h2 ∧ h2 ≤ 18446744073709551615) (c1 : 0 ≤ z1 ∧ z1 ≤ 255) (c2 : 0 ≤ z2 ∧ z2 ≤ 255)
    (h : stp h1 z1 % 281474976710656 = stp h2 z2 % 281474976710656) (hq : h1 = h2 ∨ z1 = z2) : h1 % 281474976710656 = h2 % 281474976710656 ∧ z1 = z2 := by
  obtain ⟨m1, rfl⟩ := Int.eq_ofNat_of_zero_le b1.1
  obtain ⟨m2, rfl⟩ := Int.eq_ofNat_of_zero_le b2.1
  obtain ⟨y1, rfl⟩ := Int.eq_ofNat_of_zero_le c1.1
  obtain ⟨y2, rfl⟩ := Int.eq_ofNat_of_zero_le c2.1
  rw [stp_nat m1 y1 (by omega) (by omega), stp_nat m2 y2 (by omega) (by omega)] at h
  have hp : ∀ A B : Nat, ((A % 18446744073709551616 : Nat) : Int) % 281474976710656 = ((B % 18446744073709551616 : Nat) : Int) % 281474976710656 → A % 281474976710656 = B % 281474976710656 := fun A B h => by omega
  have h' := hp _ _ h
  have h3 := mul_inj _ _ h'
  rw [xor_mod48 m1 y1 (by omega), xor_mod48 m2 y2 (by omega)] at h3
  rcases hq with e | e
  · have e' : m1 = m2 := by omega
    subst e'
    have : y1 = y2 := xor_l _ _ _ h3
    subst this
    exact ⟨rfl, rfl⟩
  · have e' : y1 = y2 := by omega
    subst e'
    have : m1 % 281474976710656 = m2 % 281474976710656 := xor_r _ _ _ h3
    exact ⟨by omega, rfl⟩
theorem fold_inj (q : List Int) (h1 h2 : Int) (b1 : 0 ≤ h1 ∧ h1 ≤ 18446744073709551615) (b2 : 0 ≤ h2 ∧ h2 ≤ 18446744073709551615) (hq : ByteL q)
    (h : q.foldl stp h1 % 281474976710656 = q.foldl stp h2 % 281474976710656) : h1 % 281474976710656 = h2 % 281474976710656 := by
  induction q generalizing h1 h2 with
  | nil => exact h
  | cons z q ih =>
    have := ih (stp h1 z) (stp h2 z) (stp_bd _ _) (stp_bd _ _) hq.tail h
    exact (stp_inj h1 h2 z z b1 b2 hq.head hq.head this (.inr rfl)).1
theorem fnv_one (p q : List Int) (a b : Int) (ha : 0 ≤ a ∧ a ≤ 255) (hb : 0 ≤ b ∧ b ≤ 255) (hq : ByteL q) (h : fnv (p ++ a :: q) % 281474976710656 = fnv (p ++ b :: q) % 281474976710656) : a = b := by
  unfold fnv at h
  rw [List.foldl_append, List.foldl_append, List.foldl_cons, List.foldl_cons] at h
  have h2 := fold_inj q _ _ (stp_bd _ _) (stp_bd _ _) hq h
  exact (stp_inj _ _ a b (fnv_bd p) (fnv_bd p) ha hb h2 (.inl rfl)).2

/-- With one byte changed they are no packet's. -/
theorem dec_changed (k v x s z : Int) (i : Nat) (hi : i < 24) (hz : 0 ≤ z ∧ z ≤ 255) (hne : (encB k v x s).getD i 0 ≠ z) : good ((encB k v x s).set i z) = false := by
  have hl := encB_length k v x s
  have hB : ByteL (encB k v x s) := encB_bd k v x s
  generalize hE : encB k v x s = E at *
  have htE : E.take 18 = enc18 k v x s := by rw [← hE]; exact enc_take k v x s
  have hcE : dC E = fnv (E.take 18) % 281474976710656 := by rw [← hE]; exact enc_dC k v x s
  have hB2 : ByteL (E.set i z) := by
    intro j
    have := hB j
    simp only [List.getD_eq_getElem?_getD, List.getElem?_set] at this ⊢
    by_cases hij : i = j
    · subst hij; simp [hl, hi, hz]
    · simp [hij]; exact this
  have hl2 : (E.set i z).length = 24 := by rw [List.length_set]; exact hl
  by_cases hc : dC (E.set i z) = fnv ((E.set i z).take 18) % 281474976710656
  · exfalso
    by_cases h18 : i < 18
    · have hd : (E.set i z).drop 18 = E.drop 18 := by rw [List.drop_set, if_pos h18]
      have hce : dC (E.set i z) = dC E := by unfold dC; rw [hd]
      rw [hce, hcE, List.take_set] at hc
      have hlt : (E.take 18).length = 18 := by rw [List.length_take]; omega
      have hsp : E.take 18 = (E.take 18).take i ++ E.getD i 0 :: (E.take 18).drop (i + 1) := by
        have h1 : (E.take 18).drop i = E.getD i 0 :: (E.take 18).drop (i + 1) := by
          rw [List.drop_eq_getElem_cons (by omega)]
          congr 1
          rw [List.getElem_take, List.getD_eq_getElem?_getD, List.getElem?_eq_getElem (by omega)]
          rfl
        rw [← h1, List.take_append_drop]
      have hst : (E.take 18).set i z = (E.take 18).take i ++ z :: (E.take 18).drop (i + 1) := List.set_eq_take_append_cons_drop.trans (if_pos (by omega))
      rw [hst] at hc
      have hc2 : fnv ((E.take 18).take i ++ E.getD i 0 :: (E.take 18).drop (i + 1)) % 281474976710656 = fnv ((E.take 18).take i ++ z :: (E.take 18).drop (i + 1)) % 281474976710656 := by
        rw [← hsp]; exact hc
      exact hne (fnv_one _ _ _ _ (hB i) hz ((hB.take 18).drop (i + 1)) hc2)
    · have ht : (E.set i z).take 18 = E.take 18 := List.take_set_of_le (by omega)
      rw [ht, ← hcE] at hc
      have e1 := leb_lev_at (((E.set i z).drop 18).take 6) 6 ((hB2.drop 18).take 6) (len_dt hl2 18 6 (by omega))
      have e2 := leb_lev_at ((E.drop 18).take 6) 6 ((hB.drop 18).take 6) (len_dt hl 18 6 (by omega))
      have hc' : lev (((E.set i z).drop 18).take 6) = lev ((E.drop 18).take 6) := hc
      rw [hc', e2] at e1
      have : (((E.set i z).drop 18).take 6).getD (i - 18) 0 = ((E.drop 18).take 6).getD (i - 18) 0 := by rw [e1]
      rw [getD_drop_take _ 18 6 (i - 18) (by omega), getD_drop_take _ 18 6 (i - 18) (by omega), show 18 + (i - 18) = i by omega] at this
      apply hne
      rw [← this]
      simp [List.getD_eq_getElem?_getD, hl, hi]
  · exact good_c hc
end Go.Proofs.Ytfbikieolepldaa
