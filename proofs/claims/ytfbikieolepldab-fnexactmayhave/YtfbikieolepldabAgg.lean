/-
  STRUCTS OF INTEGERS, BY VALUE: three fields and five: opened and shut by one law each.
-/
import Derived.ProofKit
import Derived.OpenShut
import Derived.ChangeOld
import Derived.Lib.SmallJoins
namespace Go.Proofs.Ytfbikieolepldab
open Go.ChangeShapes Go.WideShapes Go.ChangeAt Go.RowKit Go.Joins Go.Deep
variable {H : Type} {enc : TypeId × Value → H} {P : Program} {w : World} {base : Nat} {spare : Nat → Bool} {held : Bool}

theorem array5 {α : Type} {cs : Array α} (h : cs.size = 5) : ∃ c0 c1 c2 c3 c4, cs = #[c0, c1, c2, c3, c4] := by
  obtain ⟨l⟩ := cs
  match l, h with
  | [c0, c1, c2, c3, c4], _ => exact ⟨c0, c1, c2, c3, c4, rfl⟩

/-- A struct of 3 integers, shut. -/
theorem shut_ints3 {t : TypeId} {f0 f1 f2 : Field} (hs : P.underlying t = some (.struct #[f0, f1, f2])) (hone : oneCellFields P #[f0, f1, f2] = true) (hC : P.cellsOf t = 3)
    (k0 : P.underlying f0.type = some (.int .i64)) (k1 : P.underlying f1.type = some (.int .i64)) (k2 : P.underlying f2.type = some (.int .i64)) {a b c : Int} (h0 : (Lit.int .i64 a).wf = true) (h1 : (Lit.int .i64 b).wf = true) (h2 : (Lit.int .i64 c).wf = true) :
    DataW.Trod enc P w base spare held t (.agg #[.int .i64 a, .int .i64 b, .int .i64 c]) (.agg [.lit (.int .i64 a), .lit (.int .i64 b), .lit (.int .i64 c)]) [] := by
  obtain ⟨o0, c0⟩ := hone_of hone 0 f0 rfl
  obtain ⟨o1, c1⟩ := hone_of hone 1 f1 rfl
  obtain ⟨o2, c2⟩ := hone_of hone 2 f2 rfl
  have := trod_struct_mk (enc := enc) (w := w) (base := base) (spare := spare) (held := held) (n := 1) (cs := [.int .i64 a, .int .i64 b, .int .i64 c]) (xs := [(.lit (.int .i64 a), []), (.lit (.int .i64 b), []), (.lit (.int .i64 c), [])]) hs (by simp [hC]) (by simp [DataW.trod, o0, c0, k0, h0, o1, c1, k1, h1, o2, c2, k2, h2])
  exact ⟨2, by simpa [Value.cells] using this⟩

/-- A struct of 3 integers, opened; and it reads so in every world. -/
theorem open_ints3 {r : Reach} {b0 : Nat} {t : TypeId} {f0 f1 f2 : Field} {v : Value} {d : DataW H} {p : List MemPlace} (hs : P.underlying t = some (.struct #[f0, f1, f2])) (hone : oneCellFields P #[f0, f1, f2] = true) (hC : P.cellsOf t = 3)
    (k0 : P.underlying f0.type = some (.int .i64)) (k1 : P.underlying f1.type = some (.int .i64)) (k2 : P.underlying f2.type = some (.int .i64)) (hv : Value.okWide P w r b0 t v) (h : DataW.Trod enc P w base spare held t v d p) :
    ∃ a b c : Int, v = .agg #[.int .i64 a, .int .i64 b, .int .i64 c] ∧ p = [] ∧ ∀ (W' : World) (base' : Nat) (sp : Nat → Bool) (held' : Bool), DataW.Trod enc P W' base' sp held' t v d [] := by
  obtain ⟨cs, rfl, hsz⟩ := okWide_struct hs hv
  obtain ⟨c0, c1, c2, rfl⟩ := array3 (hsz.trans hC)
  obtain ⟨fuel, hf⟩ := h
  obtain ⟨xs, n, _, hx, hl, hlen, hff⟩ := DataW.trod_struct hs hf
  clear hl
  match xs, hlen with
  | [y0, y1, y2], _ =>
    obtain ⟨o0, q0⟩ := hone_of hone 0 f0 rfl
    obtain ⟨o1, q1⟩ := hone_of hone 1 f1 rfl
    obtain ⟨o2, q2⟩ := hone_of hone 2 f2 rfl
    obtain ⟨a, g0, hy0, w0⟩ := DataW.trod_int k0 (by simpa [Value.cells, o0, q0] using hff 0 f0 rfl)
    obtain ⟨b, g1, hy1, w1⟩ := DataW.trod_int k1 (by simpa [Value.cells, o1, q1] using hff 1 f1 rfl)
    obtain ⟨c, g2, hy2, w2⟩ := DataW.trod_int k2 (by simpa [Value.cells, o2, q2] using hff 2 f2 rfl)
    simp at g0 hy0 g1 hy1 g2 hy2
    subst g0 hy0 g1 hy1 g2 hy2
    simp only [Prod.mk.injEq] at hx
    obtain ⟨rfl, rfl⟩ := hx
    refine ⟨a, b, c, rfl, by simp, fun W' base' sp held' => ?_⟩
    simpa using shut_ints3 (enc := enc) (w := W') (base := base') (spare := sp) (held := held') hs hone hC k0 k1 k2 w0 w1 w2

/-- A struct of 5 integers, shut. -/
theorem shut_ints5 {t : TypeId} {f0 f1 f2 f3 f4 : Field} (hs : P.underlying t = some (.struct #[f0, f1, f2, f3, f4])) (hone : oneCellFields P #[f0, f1, f2, f3, f4] = true) (hC : P.cellsOf t = 5)
    (k0 : P.underlying f0.type = some (.int .i64)) (k1 : P.underlying f1.type = some (.int .i64)) (k2 : P.underlying f2.type = some (.int .i64)) (k3 : P.underlying f3.type = some (.int .i64)) (k4 : P.underlying f4.type = some (.int .i64)) {a b c e f : Int} (h0 : (Lit.int .i64 a).wf = true) (h1 : (Lit.int .i64 b).wf = true) (h2 : (Lit.int .i64 c).wf = true) (h3 : (Lit.int .i64 e).wf = true) (h4 : (Lit.int .i64 f).wf = true) :
    DataW.Trod enc P w base spare held t (.agg #[.int .i64 a, .int .i64 b, .int .i64 c, .int .i64 e, .int .i64 f]) (.agg [.lit (.int .i64 a), .lit (.int .i64 b), .lit (.int .i64 c), .lit (.int .i64 e), .lit (.int .i64 f)]) [] := by
  obtain ⟨o0, c0⟩ := hone_of hone 0 f0 rfl
  obtain ⟨o1, c1⟩ := hone_of hone 1 f1 rfl
  obtain ⟨o2, c2⟩ := hone_of hone 2 f2 rfl
  obtain ⟨o3, c3⟩ := hone_of hone 3 f3 rfl
  obtain ⟨o4, c4⟩ := hone_of hone 4 f4 rfl
  have := trod_struct_mk (enc := enc) (w := w) (base := base) (spare := spare) (held := held) (n := 1) (cs := [.int .i64 a, .int .i64 b, .int .i64 c, .int .i64 e, .int .i64 f]) (xs := [(.lit (.int .i64 a), []), (.lit (.int .i64 b), []), (.lit (.int .i64 c), []), (.lit (.int .i64 e), []), (.lit (.int .i64 f), [])]) hs (by simp [hC]) (by simp [DataW.trod, o0, c0, k0, h0, o1, c1, k1, h1, o2, c2, k2, h2, o3, c3, k3, h3, o4, c4, k4, h4])
  exact ⟨2, by simpa [Value.cells] using this⟩

/-- A struct of 5 integers, opened; and it reads so in every world. -/
theorem open_ints5 {r : Reach} {b0 : Nat} {t : TypeId} {f0 f1 f2 f3 f4 : Field} {v : Value} {d : DataW H} {p : List MemPlace} (hs : P.underlying t = some (.struct #[f0, f1, f2, f3, f4])) (hone : oneCellFields P #[f0, f1, f2, f3, f4] = true) (hC : P.cellsOf t = 5)
    (k0 : P.underlying f0.type = some (.int .i64)) (k1 : P.underlying f1.type = some (.int .i64)) (k2 : P.underlying f2.type = some (.int .i64)) (k3 : P.underlying f3.type = some (.int .i64)) (k4 : P.underlying f4.type = some (.int .i64)) (hv : Value.okWide P w r b0 t v) (h : DataW.Trod enc P w base spare held t v d p) :
    ∃ a b c e f : Int, v = .agg #[.int .i64 a, .int .i64 b, .int .i64 c, .int .i64 e, .int .i64 f] ∧ p = [] ∧ ∀ (W' : World) (base' : Nat) (sp : Nat → Bool) (held' : Bool), DataW.Trod enc P W' base' sp held' t v d [] := by
  obtain ⟨cs, rfl, hsz⟩ := okWide_struct hs hv
  obtain ⟨c0, c1, c2, c3, c4, rfl⟩ := array5 (hsz.trans hC)
  obtain ⟨fuel, hf⟩ := h
  obtain ⟨xs, n, _, hx, hl, hlen, hff⟩ := DataW.trod_struct hs hf
  clear hl
  match xs, hlen with
  | [y0, y1, y2, y3, y4], _ =>
    obtain ⟨o0, q0⟩ := hone_of hone 0 f0 rfl
    obtain ⟨o1, q1⟩ := hone_of hone 1 f1 rfl
    obtain ⟨o2, q2⟩ := hone_of hone 2 f2 rfl
    obtain ⟨o3, q3⟩ := hone_of hone 3 f3 rfl
    obtain ⟨o4, q4⟩ := hone_of hone 4 f4 rfl
    obtain ⟨a, g0, hy0, w0⟩ := DataW.trod_int k0 (by simpa [Value.cells, o0, q0] using hff 0 f0 rfl)
    obtain ⟨b, g1, hy1, w1⟩ := DataW.trod_int k1 (by simpa [Value.cells, o1, q1] using hff 1 f1 rfl)
    obtain ⟨c, g2, hy2, w2⟩ := DataW.trod_int k2 (by simpa [Value.cells, o2, q2] using hff 2 f2 rfl)
    obtain ⟨e, g3, hy3, w3⟩ := DataW.trod_int k3 (by simpa [Value.cells, o3, q3] using hff 3 f3 rfl)
    obtain ⟨f, g4, hy4, w4⟩ := DataW.trod_int k4 (by simpa [Value.cells, o4, q4] using hff 4 f4 rfl)
    simp at g0 hy0 g1 hy1 g2 hy2 g3 hy3 g4 hy4
    subst g0 hy0 g1 hy1 g2 hy2 g3 hy3 g4 hy4
    simp only [Prod.mk.injEq] at hx
    obtain ⟨rfl, rfl⟩ := hx
    refine ⟨a, b, c, e, f, rfl, by simp, fun W' base' sp held' => ?_⟩
    simpa using shut_ints5 (enc := enc) (w := W') (base := base') (spare := sp) (held := held') hs hone hC k0 k1 k2 k3 k4 w0 w1 w2 w3 w4

end Go.Proofs.Ytfbikieolepldab
