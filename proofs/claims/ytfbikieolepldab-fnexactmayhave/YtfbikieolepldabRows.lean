/-
  No cell of these rows narrows 'for every input' (looked for: loops, veiled, ifaces, maps, wideKeys, modest, calm, conditions, laid).
  DERIVED. THE GIVEN ROWS OF THIS SEAT. 8 by the template 'for every input the law returns true; each argument reads behind the call as it read before'; 0 by the template 'total and deterministic' (their statements: YtfbikieolepldabTotals.lean).
  GIVEN WITH THE SEED: the statements are not yours to turn. If you find one false, say at which input.
  Laid BY PROGRAM, IN A SANDBOX (cutbox-rows.mjs): the forced cells as the released guide's own fill.sh prints them over the translation 7c7b59f12aceaee9… (all of the seat's roots in one cut). By AI agents, Wed Nov 11 2026. No macro, syntax, notation, axiom, sorry.
-/
import Derived.Test.YtfbikieolepldabChecked
import GoSem.Claim
import GoSem.ClaimJoined
import GoSem.ClaimMapViews
import Derived.JoinedTies
import Derived.KernelRfl
namespace Go.Proofs.Ytfbikieolepldab
/- THE CELL 'sum', in the pinned program and in every row, IS THE sha256 OF THE DUMP (.gsa) THAT YtfbikieolepldabProg.lean LOADS. Nothing in Lean hashes anything: it is a label: what it is worth is what the hold of that sum in a sandbox is worth. -/
noncomputable def Try.pinned : Pinned := { name := "ytfbikieolepldab", sum := "7c7b59f12aceaee9c74909cce9243fead0b80a50ada3707877910df229af230a", checked := Try.checked }
namespace Rows
def none {H : Type} : Left H := { results := [], args := [] }

/-- 'laws.FnExactBoxOk': WHATEVER THE INPUT: true; the input reads as it did. -/
def fnExactBoxOkSpec : ChangeSpec := { name := "fnExactBoxOk", fn := fun _ => fun
  | [d1, d2] => { results := [.lit (.bool true)], args := [d1, d2] }
  | _ => none }
def fnExactBoxOkRow : OpenClaim := { program := "ytfbikieolepldab", sum := "7c7b59f12aceaee9c74909cce9243fead0b80a50ada3707877910df229af230a", func := "loop.example/heliograph/laws.FnExactBoxOk", spec := "fnExactBoxOk", apart := false }
def FnExactBoxOkSaid : Prop := fnExactBoxOkRow.holds Try.pinned (OpenSpec.ofChange fnExactBoxOkSpec)

/-- ITS FALSE NEIGHBOUR: 'it returns false'. Refute it at one input. -/
def fnExactBoxOkWrong : ChangeSpec := { name := "fnExactBoxOk", fn := fun _ => fun
  | [d1, d2] => { results := [.lit (.bool false)], args := [d1, d2] }
  | _ => none }
def FnExactBoxOkWrongFalsely : Prop := fnExactBoxOkRow.holds Try.pinned (OpenSpec.ofChange fnExactBoxOkWrong)

/-- 'laws.FnExactTrainOk': WHATEVER THE INPUT: true; the input reads as it did. -/
def fnExactTrainOkSpec : ChangeSpec := { name := "fnExactTrainOk", fn := fun _ => fun
  | [d1, d2] => { results := [.lit (.bool true)], args := [d1, d2] }
  | _ => none }
def fnExactTrainOkRow : OpenClaim := { program := "ytfbikieolepldab", sum := "7c7b59f12aceaee9c74909cce9243fead0b80a50ada3707877910df229af230a", func := "loop.example/heliograph/laws.FnExactTrainOk", spec := "fnExactTrainOk", apart := false }
def FnExactTrainOkSaid : Prop := fnExactTrainOkRow.holds Try.pinned (OpenSpec.ofChange fnExactTrainOkSpec)

/-- ITS FALSE NEIGHBOUR: 'it returns false'. Refute it at one input. -/
def fnExactTrainOkWrong : ChangeSpec := { name := "fnExactTrainOk", fn := fun _ => fun
  | [d1, d2] => { results := [.lit (.bool false)], args := [d1, d2] }
  | _ => none }
def FnExactTrainOkWrongFalsely : Prop := fnExactTrainOkRow.holds Try.pinned (OpenSpec.ofChange fnExactTrainOkWrong)

/-- 'laws.FnExactBoxTick': WHATEVER THE INPUT: true; the input reads as it did. -/
def fnExactBoxTickSpec : ChangeSpec := { name := "fnExactBoxTick", fn := fun _ => fun
  | [d1, d2, d3, d4, d5] => { results := [.lit (.bool true)], args := [d1, d2, d3, d4, d5] }
  | _ => none }
def fnExactBoxTickRow : OpenClaim := { program := "ytfbikieolepldab", sum := "7c7b59f12aceaee9c74909cce9243fead0b80a50ada3707877910df229af230a", func := "loop.example/heliograph/laws.FnExactBoxTick", spec := "fnExactBoxTick", inPlace := ["(*sync.WaitGroup).Add", "internal/race.ReleaseMerge", "internal/race.Disable", "internal/race.Enable", "internal/synctest.IsInBubble", "internal/synctest.Associate[sync.WaitGroup]", "sync.fatal", "sync/atomic.OrUint64", "sync/atomic.AddUint64", "internal/race.Read", "sync/atomic.LoadUint64", "sync/atomic.StoreUint64", "internal/synctest.Disassociate[sync.WaitGroup]", "sync.runtime_Semrelease", "(*sync.WaitGroup).Done", "(*sync.WaitGroup).Wait", "internal/race.Acquire", "internal/synctest.IsAssociated[sync.WaitGroup]", "sync/atomic.CompareAndSwapUint64", "internal/race.Write", "sync.runtime_SemacquireWaitGroup"], unfollowed := true, recurses := true, apart := false }
def FnExactBoxTickSaid : Prop := fnExactBoxTickRow.holds Try.pinned (OpenSpec.ofChange fnExactBoxTickSpec)

/-- ITS FALSE NEIGHBOUR: 'it returns false'. Refute it at one input. -/
def fnExactBoxTickWrong : ChangeSpec := { name := "fnExactBoxTick", fn := fun _ => fun
  | [d1, d2, d3, d4, d5] => { results := [.lit (.bool false)], args := [d1, d2, d3, d4, d5] }
  | _ => none }
def FnExactBoxTickWrongFalsely : Prop := fnExactBoxTickRow.holds Try.pinned (OpenSpec.ofChange fnExactBoxTickWrong)

/-- 'laws.FnExactTrainTick': WHATEVER THE INPUT: true; the input reads as it did. -/
def fnExactTrainTickSpec : ChangeSpec := { name := "fnExactTrainTick", fn := fun _ => fun
  | [d1, d2, d3, d4] => { results := [.lit (.bool true)], args := [d1, d2, d3, d4] }
  | _ => none }
def fnExactTrainTickRow : OpenClaim := { program := "ytfbikieolepldab", sum := "7c7b59f12aceaee9c74909cce9243fead0b80a50ada3707877910df229af230a", func := "loop.example/heliograph/laws.FnExactTrainTick", spec := "fnExactTrainTick", inPlace := ["(*sync.WaitGroup).Add", "internal/race.ReleaseMerge", "internal/race.Disable", "internal/race.Enable", "internal/synctest.IsInBubble", "internal/synctest.Associate[sync.WaitGroup]", "sync.fatal", "sync/atomic.OrUint64", "sync/atomic.AddUint64", "internal/race.Read", "sync/atomic.LoadUint64", "sync/atomic.StoreUint64", "internal/synctest.Disassociate[sync.WaitGroup]", "sync.runtime_Semrelease", "(*sync.WaitGroup).Done", "(*sync.WaitGroup).Wait", "internal/race.Acquire", "internal/synctest.IsAssociated[sync.WaitGroup]", "sync/atomic.CompareAndSwapUint64", "internal/race.Write", "sync.runtime_SemacquireWaitGroup"], unfollowed := true, recurses := true, apart := false }
def FnExactTrainTickSaid : Prop := fnExactTrainTickRow.holds Try.pinned (OpenSpec.ofChange fnExactTrainTickSpec)

/-- ITS FALSE NEIGHBOUR: 'it returns false'. Refute it at one input. -/
def fnExactTrainTickWrong : ChangeSpec := { name := "fnExactTrainTick", fn := fun _ => fun
  | [d1, d2, d3, d4] => { results := [.lit (.bool false)], args := [d1, d2, d3, d4] }
  | _ => none }
def FnExactTrainTickWrongFalsely : Prop := fnExactTrainTickRow.holds Try.pinned (OpenSpec.ofChange fnExactTrainTickWrong)

/-- 'laws.FnExactBoxSilent': WHATEVER THE INPUT: true; the input reads as it did. -/
def fnExactBoxSilentSpec : ChangeSpec := { name := "fnExactBoxSilent", fn := fun _ => fun
  | [d1, d2, d3] => { results := [.lit (.bool true)], args := [d1, d2, d3] }
  | _ => none }
def fnExactBoxSilentRow : OpenClaim := { program := "ytfbikieolepldab", sum := "7c7b59f12aceaee9c74909cce9243fead0b80a50ada3707877910df229af230a", func := "loop.example/heliograph/laws.FnExactBoxSilent", spec := "fnExactBoxSilent", apart := false }
def FnExactBoxSilentSaid : Prop := fnExactBoxSilentRow.holds Try.pinned (OpenSpec.ofChange fnExactBoxSilentSpec)

/-- ITS FALSE NEIGHBOUR: 'it returns false'. Refute it at one input. -/
def fnExactBoxSilentWrong : ChangeSpec := { name := "fnExactBoxSilent", fn := fun _ => fun
  | [d1, d2, d3] => { results := [.lit (.bool false)], args := [d1, d2, d3] }
  | _ => none }
def FnExactBoxSilentWrongFalsely : Prop := fnExactBoxSilentRow.holds Try.pinned (OpenSpec.ofChange fnExactBoxSilentWrong)

/-- 'laws.FnExactTrainSilent': WHATEVER THE INPUT: true; the input reads as it did. -/
def fnExactTrainSilentSpec : ChangeSpec := { name := "fnExactTrainSilent", fn := fun _ => fun
  | [d1, d2, d3] => { results := [.lit (.bool true)], args := [d1, d2, d3] }
  | _ => none }
def fnExactTrainSilentRow : OpenClaim := { program := "ytfbikieolepldab", sum := "7c7b59f12aceaee9c74909cce9243fead0b80a50ada3707877910df229af230a", func := "loop.example/heliograph/laws.FnExactTrainSilent", spec := "fnExactTrainSilent", apart := false }
def FnExactTrainSilentSaid : Prop := fnExactTrainSilentRow.holds Try.pinned (OpenSpec.ofChange fnExactTrainSilentSpec)

/-- ITS FALSE NEIGHBOUR: 'it returns false'. Refute it at one input. -/
def fnExactTrainSilentWrong : ChangeSpec := { name := "fnExactTrainSilent", fn := fun _ => fun
  | [d1, d2, d3] => { results := [.lit (.bool false)], args := [d1, d2, d3] }
  | _ => none }
def FnExactTrainSilentWrongFalsely : Prop := fnExactTrainSilentRow.holds Try.pinned (OpenSpec.ofChange fnExactTrainSilentWrong)

/-- 'laws.FnExactMayHave': WHATEVER THE INPUT: true; the input reads as it did. -/
def fnExactMayHaveSpec : ChangeSpec := { name := "fnExactMayHave", fn := fun _ => fun
  | [d1, d2] => { results := [.lit (.bool true)], args := [d1, d2] }
  | _ => none }
def fnExactMayHaveRow : OpenClaim := { program := "ytfbikieolepldab", sum := "7c7b59f12aceaee9c74909cce9243fead0b80a50ada3707877910df229af230a", func := "loop.example/heliograph/laws.FnExactMayHave", spec := "fnExactMayHave", apart := false }
def FnExactMayHaveSaid : Prop := fnExactMayHaveRow.holds Try.pinned (OpenSpec.ofChange fnExactMayHaveSpec)

/-- ITS FALSE NEIGHBOUR: 'it returns false'. Refute it at one input. -/
def fnExactMayHaveWrong : ChangeSpec := { name := "fnExactMayHave", fn := fun _ => fun
  | [d1, d2] => { results := [.lit (.bool false)], args := [d1, d2] }
  | _ => none }
def FnExactMayHaveWrongFalsely : Prop := fnExactMayHaveRow.holds Try.pinned (OpenSpec.ofChange fnExactMayHaveWrong)

/-- 'laws.FnExactStood': WHATEVER THE INPUT: true; the input reads as it did. -/
def fnExactStoodSpec : ChangeSpec := { name := "fnExactStood", fn := fun _ => fun
  | [d1, d2] => { results := [.lit (.bool true)], args := [d1, d2] }
  | _ => none }
def fnExactStoodRow : OpenClaim := { program := "ytfbikieolepldab", sum := "7c7b59f12aceaee9c74909cce9243fead0b80a50ada3707877910df229af230a", func := "loop.example/heliograph/laws.FnExactStood", spec := "fnExactStood", apart := false }
def FnExactStoodSaid : Prop := fnExactStoodRow.holds Try.pinned (OpenSpec.ofChange fnExactStoodSpec)

/-- ITS FALSE NEIGHBOUR: 'it returns false'. Refute it at one input. -/
def fnExactStoodWrong : ChangeSpec := { name := "fnExactStood", fn := fun _ => fun
  | [d1, d2] => { results := [.lit (.bool false)], args := [d1, d2] }
  | _ => none }
def FnExactStoodWrongFalsely : Prop := fnExactStoodRow.holds Try.pinned (OpenSpec.ofChange fnExactStoodWrong)

/- THE SECOND FORM. 'bulk': how many values and letters a reading holds, each counted each time it is reached (what is shared counts as often as it is met; a slice's spare places count too). A statement '..UptoSaid' is the law's where the arguments, and the package variables that the reading takes, are together of bulk at most 1048576: NARROWER than '..Said'. Prove '..Said' where nothing that the law and all that it calls make is longer than what came in: it says more and counts as full. Else prove '..UptoSaid'. A law counts once. -/
mutual
def uptoBulk {H : Type} : DataW H → Nat
  | .lit (.string bytes) => bytes.length + 1
  | .lit _ => 1
  | .nil => 1
  | .ptr d => uptoBulk d + 1
  | .slice elems spare => uptoBulkAll elems + uptoBulkAll spare + 1
  | .agg parts => uptoBulkAll parts + 1
  | .iface _ d => uptoBulk d + 1
  | .map entries => uptoBulkEntries entries + 1
  | .held _ => 1
def uptoBulkAll {H : Type} : List (DataW H) → Nat
  | [] => 0
  | d :: r => uptoBulk d + uptoBulkAll r
def uptoBulkEntries {H : Type} : List (Lit × DataW H) → Nat
  | [] => 0
  | x :: r => uptoBulkEntry x + uptoBulkEntries r
def uptoBulkEntry {H : Type} : Lit × DataW H → Nat
  | (.string bytes, d) => bytes.length + uptoBulk d + 1
  | (_, d) => uptoBulk d + 1
 end
def uptoSmall : (H : Type) → List (DataW H) → Bool := fun _ ds => decide (uptoBulkAll ds ≤ 1048576)
def OpenSpec.upto (s : _root_.Go.ChangeSpec) : _root_.Go.OpenSpec := { _root_.Go.OpenSpec.ofChange s with cond := some uptoSmall }

/-- 'laws.FnExactBoxOk', WHERE WHAT IT READS IS OF BULK AT MOST 1048576: true; the input reads as it did. -/
def fnExactBoxOkUptoRow : OpenClaim := { program := "ytfbikieolepldab", sum := "7c7b59f12aceaee9c74909cce9243fead0b80a50ada3707877910df229af230a", func := "loop.example/heliograph/laws.FnExactBoxOk", spec := "fnExactBoxOk", apart := false, narrowed := true }
def FnExactBoxOkUptoSaid : Prop := fnExactBoxOkUptoRow.holds Try.pinned (OpenSpec.upto fnExactBoxOkSpec)

/-- 'laws.FnExactTrainOk', WHERE WHAT IT READS IS OF BULK AT MOST 1048576: true; the input reads as it did. -/
def fnExactTrainOkUptoRow : OpenClaim := { program := "ytfbikieolepldab", sum := "7c7b59f12aceaee9c74909cce9243fead0b80a50ada3707877910df229af230a", func := "loop.example/heliograph/laws.FnExactTrainOk", spec := "fnExactTrainOk", apart := false, narrowed := true }
def FnExactTrainOkUptoSaid : Prop := fnExactTrainOkUptoRow.holds Try.pinned (OpenSpec.upto fnExactTrainOkSpec)

/-- 'laws.FnExactBoxTick', WHERE WHAT IT READS IS OF BULK AT MOST 1048576: true; the input reads as it did. -/
def fnExactBoxTickUptoRow : OpenClaim := { program := "ytfbikieolepldab", sum := "7c7b59f12aceaee9c74909cce9243fead0b80a50ada3707877910df229af230a", func := "loop.example/heliograph/laws.FnExactBoxTick", spec := "fnExactBoxTick", inPlace := ["(*sync.WaitGroup).Add", "internal/race.ReleaseMerge", "internal/race.Disable", "internal/race.Enable", "internal/synctest.IsInBubble", "internal/synctest.Associate[sync.WaitGroup]", "sync.fatal", "sync/atomic.OrUint64", "sync/atomic.AddUint64", "internal/race.Read", "sync/atomic.LoadUint64", "sync/atomic.StoreUint64", "internal/synctest.Disassociate[sync.WaitGroup]", "sync.runtime_Semrelease", "(*sync.WaitGroup).Done", "(*sync.WaitGroup).Wait", "internal/race.Acquire", "internal/synctest.IsAssociated[sync.WaitGroup]", "sync/atomic.CompareAndSwapUint64", "internal/race.Write", "sync.runtime_SemacquireWaitGroup"], unfollowed := true, recurses := true, apart := false, narrowed := true }
def FnExactBoxTickUptoSaid : Prop := fnExactBoxTickUptoRow.holds Try.pinned (OpenSpec.upto fnExactBoxTickSpec)

/-- 'laws.FnExactTrainTick', WHERE WHAT IT READS IS OF BULK AT MOST 1048576: true; the input reads as it did. -/
def fnExactTrainTickUptoRow : OpenClaim := { program := "ytfbikieolepldab", sum := "7c7b59f12aceaee9c74909cce9243fead0b80a50ada3707877910df229af230a", func := "loop.example/heliograph/laws.FnExactTrainTick", spec := "fnExactTrainTick", inPlace := ["(*sync.WaitGroup).Add", "internal/race.ReleaseMerge", "internal/race.Disable", "internal/race.Enable", "internal/synctest.IsInBubble", "internal/synctest.Associate[sync.WaitGroup]", "sync.fatal", "sync/atomic.OrUint64", "sync/atomic.AddUint64", "internal/race.Read", "sync/atomic.LoadUint64", "sync/atomic.StoreUint64", "internal/synctest.Disassociate[sync.WaitGroup]", "sync.runtime_Semrelease", "(*sync.WaitGroup).Done", "(*sync.WaitGroup).Wait", "internal/race.Acquire", "internal/synctest.IsAssociated[sync.WaitGroup]", "sync/atomic.CompareAndSwapUint64", "internal/race.Write", "sync.runtime_SemacquireWaitGroup"], unfollowed := true, recurses := true, apart := false, narrowed := true }
def FnExactTrainTickUptoSaid : Prop := fnExactTrainTickUptoRow.holds Try.pinned (OpenSpec.upto fnExactTrainTickSpec)

/-- 'laws.FnExactBoxSilent', WHERE WHAT IT READS IS OF BULK AT MOST 1048576: true; the input reads as it did. -/
def fnExactBoxSilentUptoRow : OpenClaim := { program := "ytfbikieolepldab", sum := "7c7b59f12aceaee9c74909cce9243fead0b80a50ada3707877910df229af230a", func := "loop.example/heliograph/laws.FnExactBoxSilent", spec := "fnExactBoxSilent", apart := false, narrowed := true }
def FnExactBoxSilentUptoSaid : Prop := fnExactBoxSilentUptoRow.holds Try.pinned (OpenSpec.upto fnExactBoxSilentSpec)

/-- 'laws.FnExactTrainSilent', WHERE WHAT IT READS IS OF BULK AT MOST 1048576: true; the input reads as it did. -/
def fnExactTrainSilentUptoRow : OpenClaim := { program := "ytfbikieolepldab", sum := "7c7b59f12aceaee9c74909cce9243fead0b80a50ada3707877910df229af230a", func := "loop.example/heliograph/laws.FnExactTrainSilent", spec := "fnExactTrainSilent", apart := false, narrowed := true }
def FnExactTrainSilentUptoSaid : Prop := fnExactTrainSilentUptoRow.holds Try.pinned (OpenSpec.upto fnExactTrainSilentSpec)

/-- 'laws.FnExactMayHave', WHERE WHAT IT READS IS OF BULK AT MOST 1048576: true; the input reads as it did. -/
def fnExactMayHaveUptoRow : OpenClaim := { program := "ytfbikieolepldab", sum := "7c7b59f12aceaee9c74909cce9243fead0b80a50ada3707877910df229af230a", func := "loop.example/heliograph/laws.FnExactMayHave", spec := "fnExactMayHave", apart := false, narrowed := true }
def FnExactMayHaveUptoSaid : Prop := fnExactMayHaveUptoRow.holds Try.pinned (OpenSpec.upto fnExactMayHaveSpec)

/-- 'laws.FnExactStood', WHERE WHAT IT READS IS OF BULK AT MOST 1048576: true; the input reads as it did. -/
def fnExactStoodUptoRow : OpenClaim := { program := "ytfbikieolepldab", sum := "7c7b59f12aceaee9c74909cce9243fead0b80a50ada3707877910df229af230a", func := "loop.example/heliograph/laws.FnExactStood", spec := "fnExactStood", apart := false, narrowed := true }
def FnExactStoodUptoSaid : Prop := fnExactStoodUptoRow.holds Try.pinned (OpenSpec.upto fnExactStoodSpec)

end Rows
end Go.Proofs.Ytfbikieolepldab
