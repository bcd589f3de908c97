/-
  No cell of these rows narrows 'for every input' (looked for: loops, veiled, ifaces, maps, wideKeys, modest, calm, conditions, laid).
  DERIVED. THE GIVEN ROWS OF THIS SEAT. 8 by the template 'for every input the law returns true; each argument reads behind the call as it read before'; 0 by the template 'total and deterministic' (their statements: YtaelhbbfddcabaaTotals.lean).
  GIVEN WITH THE SEED: the statements are not yours to turn. If you find one false, say at which input.
  Laid BY PROGRAM, IN A SANDBOX (cutbox-rows.mjs): the forced cells as the released guide's own fill.sh prints them over the translation f40de439f1b364c1… (all of the seat's roots in one cut). By AI agents, Wed Nov 11 2026. No macro, syntax, notation, axiom, sorry.
-/
import Derived.Test.YtaelhbbfddcabaaChecked
import GoSem.Claim
import GoSem.ClaimJoined
import GoSem.ClaimMapViews
import Derived.JoinedTies
import Derived.KernelRfl
namespace Go.Proofs.Ytaelhbbfddcabaa
/- THE CELL 'sum', in the pinned program and in every row, IS THE sha256 OF THE DUMP (.gsa) THAT YtaelhbbfddcabaaProg.lean LOADS. Nothing in Lean hashes anything: it is a label: what it is worth is what the hold of that sum in a sandbox is worth. -/
noncomputable def Try.pinned : Pinned := { name := "ytaelhbbfddcabaa", sum := "f40de439f1b364c1dac0ff8bb49874ec054eadbb46fd1d67d292e24013a7a829", checked := Try.checked }
namespace Rows
def none {H : Type} : Left H := { results := [], args := [] }

/-- 'laws.FnCache': WHATEVER THE INPUT: true; the input reads as it did. -/
def fnCacheSpec : ChangeSpec := { name := "fnCache", fn := fun _ => fun
  | [d] => { results := [.lit (.bool true)], args := [d] }
  | _ => none }
def fnCacheRow : OpenClaim := { program := "ytaelhbbfddcabaa", sum := "f40de439f1b364c1dac0ff8bb49874ec054eadbb46fd1d67d292e24013a7a829", func := "loop.example/g00809/laws.FnCache", spec := "fnCache", unfollowed := true, recurses := true, plainKeys := false, apart := false }
def FnCacheSaid : Prop := fnCacheRow.holds Try.pinned (OpenSpec.ofChange fnCacheSpec)

/-- ITS FALSE NEIGHBOUR: 'it returns false'. Refute it at one input. -/
def fnCacheWrong : ChangeSpec := { name := "fnCache", fn := fun _ => fun
  | [d] => { results := [.lit (.bool false)], args := [d] }
  | _ => none }
def FnCacheWrongFalsely : Prop := fnCacheRow.holds Try.pinned (OpenSpec.ofChange fnCacheWrong)

/-- 'laws.FnExactNewCache': WHATEVER THE INPUT: true; the input reads as it did. -/
def fnExactNewCacheSpec : ChangeSpec := { name := "fnExactNewCache", fn := fun _ => fun
  | [d] => { results := [.lit (.bool true)], args := [d] }
  | _ => none }
def fnExactNewCacheRow : OpenClaim := { program := "ytaelhbbfddcabaa", sum := "f40de439f1b364c1dac0ff8bb49874ec054eadbb46fd1d67d292e24013a7a829", func := "loop.example/g00809/laws.FnExactNewCache", spec := "fnExactNewCache", plainKeys := false, apart := false }
def FnExactNewCacheSaid : Prop := fnExactNewCacheRow.holds Try.pinned (OpenSpec.ofChange fnExactNewCacheSpec)

/-- ITS FALSE NEIGHBOUR: 'it returns false'. Refute it at one input. -/
def fnExactNewCacheWrong : ChangeSpec := { name := "fnExactNewCache", fn := fun _ => fun
  | [d] => { results := [.lit (.bool false)], args := [d] }
  | _ => none }
def FnExactNewCacheWrongFalsely : Prop := fnExactNewCacheRow.holds Try.pinned (OpenSpec.ofChange fnExactNewCacheWrong)

/-- 'laws.FnExactIsValidCache': WHATEVER THE INPUT: true; the input reads as it did. -/
def fnExactIsValidCacheSpec : ChangeSpec := { name := "fnExactIsValidCache", fn := fun _ => fun
  | [d] => { results := [.lit (.bool true)], args := [d] }
  | _ => none }
def fnExactIsValidCacheRow : OpenClaim := { program := "ytaelhbbfddcabaa", sum := "f40de439f1b364c1dac0ff8bb49874ec054eadbb46fd1d67d292e24013a7a829", func := "loop.example/g00809/laws.FnExactIsValidCache", spec := "fnExactIsValidCache", plainKeys := false, apart := false }
def FnExactIsValidCacheSaid : Prop := fnExactIsValidCacheRow.holds Try.pinned (OpenSpec.ofChange fnExactIsValidCacheSpec)

/-- ITS FALSE NEIGHBOUR: 'it returns false'. Refute it at one input. -/
def fnExactIsValidCacheWrong : ChangeSpec := { name := "fnExactIsValidCache", fn := fun _ => fun
  | [d] => { results := [.lit (.bool false)], args := [d] }
  | _ => none }
def FnExactIsValidCacheWrongFalsely : Prop := fnExactIsValidCacheRow.holds Try.pinned (OpenSpec.ofChange fnExactIsValidCacheWrong)

/-- 'laws.FnExactTileOf': WHATEVER THE INPUT: true; the input reads as it did. -/
def fnExactTileOfSpec : ChangeSpec := { name := "fnExactTileOf", fn := fun _ => fun
  | [d1, d2, d3, d4] => { results := [.lit (.bool true)], args := [d1, d2, d3, d4] }
  | _ => none }
def fnExactTileOfRow : OpenClaim := { program := "ytaelhbbfddcabaa", sum := "f40de439f1b364c1dac0ff8bb49874ec054eadbb46fd1d67d292e24013a7a829", func := "loop.example/g00809/laws.FnExactTileOf", spec := "fnExactTileOf", plainKeys := false, apart := false }
def FnExactTileOfSaid : Prop := fnExactTileOfRow.holds Try.pinned (OpenSpec.ofChange fnExactTileOfSpec)

/-- ITS FALSE NEIGHBOUR: 'it returns false'. Refute it at one input. -/
def fnExactTileOfWrong : ChangeSpec := { name := "fnExactTileOf", fn := fun _ => fun
  | [d1, d2, d3, d4] => { results := [.lit (.bool false)], args := [d1, d2, d3, d4] }
  | _ => none }
def FnExactTileOfWrongFalsely : Prop := fnExactTileOfRow.holds Try.pinned (OpenSpec.ofChange fnExactTileOfWrong)

/-- 'laws.FnExactTilesFor': WHATEVER THE INPUT: true; the input reads as it did. -/
def fnExactTilesForSpec : ChangeSpec := { name := "fnExactTilesFor", fn := fun _ => fun
  | [d1, d2, d3, d4] => { results := [.lit (.bool true)], args := [d1, d2, d3, d4] }
  | _ => none }
def fnExactTilesForRow : OpenClaim := { program := "ytaelhbbfddcabaa", sum := "f40de439f1b364c1dac0ff8bb49874ec054eadbb46fd1d67d292e24013a7a829", func := "loop.example/g00809/laws.FnExactTilesFor", spec := "fnExactTilesFor", unfollowed := true, recurses := true, plainKeys := false, apart := false }
def FnExactTilesForSaid : Prop := fnExactTilesForRow.holds Try.pinned (OpenSpec.ofChange fnExactTilesForSpec)

/-- ITS FALSE NEIGHBOUR: 'it returns false'. Refute it at one input. -/
def fnExactTilesForWrong : ChangeSpec := { name := "fnExactTilesFor", fn := fun _ => fun
  | [d1, d2, d3, d4] => { results := [.lit (.bool false)], args := [d1, d2, d3, d4] }
  | _ => none }
def FnExactTilesForWrongFalsely : Prop := fnExactTilesForRow.holds Try.pinned (OpenSpec.ofChange fnExactTilesForWrong)

/-- 'laws.FnExactUseTile': WHATEVER THE INPUT: true; the input reads as it did. -/
def fnExactUseTileSpec : ChangeSpec := { name := "fnExactUseTile", fn := fun _ => fun
  | [d1, d2] => { results := [.lit (.bool true)], args := [d1, d2] }
  | _ => none }
def fnExactUseTileRow : OpenClaim := { program := "ytaelhbbfddcabaa", sum := "f40de439f1b364c1dac0ff8bb49874ec054eadbb46fd1d67d292e24013a7a829", func := "loop.example/g00809/laws.FnExactUseTile", spec := "fnExactUseTile", unfollowed := true, recurses := true, plainKeys := false, apart := false }
def FnExactUseTileSaid : Prop := fnExactUseTileRow.holds Try.pinned (OpenSpec.ofChange fnExactUseTileSpec)

/-- ITS FALSE NEIGHBOUR: 'it returns false'. Refute it at one input. -/
def fnExactUseTileWrong : ChangeSpec := { name := "fnExactUseTile", fn := fun _ => fun
  | [d1, d2] => { results := [.lit (.bool false)], args := [d1, d2] }
  | _ => none }
def FnExactUseTileWrongFalsely : Prop := fnExactUseTileRow.holds Try.pinned (OpenSpec.ofChange fnExactUseTileWrong)

/-- 'laws.FnExactCachedLookup': WHATEVER THE INPUT: true; the input reads as it did. -/
def fnExactCachedLookupSpec : ChangeSpec := { name := "fnExactCachedLookup", fn := fun _ => fun
  | [d1, d2, d3, d4, d5] => { results := [.lit (.bool true)], args := [d1, d2, d3, d4, d5] }
  | _ => none }
def fnExactCachedLookupRow : OpenClaim := { program := "ytaelhbbfddcabaa", sum := "f40de439f1b364c1dac0ff8bb49874ec054eadbb46fd1d67d292e24013a7a829", func := "loop.example/g00809/laws.FnExactCachedLookup", spec := "fnExactCachedLookup", unfollowed := true, recurses := true, plainKeys := false, apart := false }
def FnExactCachedLookupSaid : Prop := fnExactCachedLookupRow.holds Try.pinned (OpenSpec.ofChange fnExactCachedLookupSpec)

/-- ITS FALSE NEIGHBOUR: 'it returns false'. Refute it at one input. -/
def fnExactCachedLookupWrong : ChangeSpec := { name := "fnExactCachedLookup", fn := fun _ => fun
  | [d1, d2, d3, d4, d5] => { results := [.lit (.bool false)], args := [d1, d2, d3, d4, d5] }
  | _ => none }
def FnExactCachedLookupWrongFalsely : Prop := fnExactCachedLookupRow.holds Try.pinned (OpenSpec.ofChange fnExactCachedLookupWrong)

/-- 'laws.FnExactSameCache': WHATEVER THE INPUT: true; the input reads as it did. -/
def fnExactSameCacheSpec : ChangeSpec := { name := "fnExactSameCache", fn := fun _ => fun
  | [d1, d2] => { results := [.lit (.bool true)], args := [d1, d2] }
  | _ => none }
def fnExactSameCacheRow : OpenClaim := { program := "ytaelhbbfddcabaa", sum := "f40de439f1b364c1dac0ff8bb49874ec054eadbb46fd1d67d292e24013a7a829", func := "loop.example/g00809/laws.FnExactSameCache", spec := "fnExactSameCache", plainKeys := false, apart := false }
def FnExactSameCacheSaid : Prop := fnExactSameCacheRow.holds Try.pinned (OpenSpec.ofChange fnExactSameCacheSpec)

/-- ITS FALSE NEIGHBOUR: 'it returns false'. Refute it at one input. -/
def fnExactSameCacheWrong : ChangeSpec := { name := "fnExactSameCache", fn := fun _ => fun
  | [d1, d2] => { results := [.lit (.bool false)], args := [d1, d2] }
  | _ => none }
def FnExactSameCacheWrongFalsely : Prop := fnExactSameCacheRow.holds Try.pinned (OpenSpec.ofChange fnExactSameCacheWrong)

/- THE SECOND FORM. 'bulk': how many values and letters a reading holds, each counted each time it is reached (what is shared counts as often as it is met; a slice's spare places count too). A statement '..UptoSaid' is the law's where the arguments, and the package variables that the reading takes, are together of bulk at most 1048576: NARROWER than '..Said'. Prove '..Said' where nothing that the law and all that it calls make is longer than what came in: it says more and counts as full. Else prove '..UptoSaid'. A law counts once. -/
mutual
def uptoBulk {H : Type} : DataW H → Nat
  | .lit (.string bytes) => bytes.length + 1
  | .lit _ => 1
  | .nil => 1
  | .ptr d => uptoBulk d + 1
  | .slice elems spare => uptoBulkAll elems + uptoBulkAll spare + 1
  | .agg parts => uptoBulkAll parts + 1
  | .iface _ d => uptoBulk d + 1
  | .map entries => uptoBulkEntries entries + 1
  | .held _ => 1
def uptoBulkAll {H : Type} : List (DataW H) → Nat
  | [] => 0
  | d :: r => uptoBulk d + uptoBulkAll r
def uptoBulkEntries {H : Type} : List (Lit × DataW H) → Nat
  | [] => 0
  | x :: r => uptoBulkEntry x + uptoBulkEntries r
def uptoBulkEntry {H : Type} : Lit × DataW H → Nat
  | (.string bytes, d) => bytes.length + uptoBulk d + 1
  | (_, d) => uptoBulk d + 1
 end
def uptoSmall : (H : Type) → List (DataW H) → Bool := fun _ ds => decide (uptoBulkAll ds ≤ 1048576)
def OpenSpec.upto (s : _root_.Go.ChangeSpec) : _root_.Go.OpenSpec := { _root_.Go.OpenSpec.ofChange s with cond := some uptoSmall }

/-- 'laws.FnCache', WHERE WHAT IT READS IS OF BULK AT MOST 1048576: true; the input reads as it did. -/
def fnCacheUptoRow : OpenClaim := { program := "ytaelhbbfddcabaa", sum := "f40de439f1b364c1dac0ff8bb49874ec054eadbb46fd1d67d292e24013a7a829", func := "loop.example/g00809/laws.FnCache", spec := "fnCache", unfollowed := true, recurses := true, plainKeys := false, apart := false, narrowed := true }
def FnCacheUptoSaid : Prop := fnCacheUptoRow.holds Try.pinned (OpenSpec.upto fnCacheSpec)

/-- 'laws.FnExactNewCache', WHERE WHAT IT READS IS OF BULK AT MOST 1048576: true; the input reads as it did. -/
def fnExactNewCacheUptoRow : OpenClaim := { program := "ytaelhbbfddcabaa", sum := "f40de439f1b364c1dac0ff8bb49874ec054eadbb46fd1d67d292e24013a7a829", func := "loop.example/g00809/laws.FnExactNewCache", spec := "fnExactNewCache", plainKeys := false, apart := false, narrowed := true }
def FnExactNewCacheUptoSaid : Prop := fnExactNewCacheUptoRow.holds Try.pinned (OpenSpec.upto fnExactNewCacheSpec)

/-- 'laws.FnExactIsValidCache', WHERE WHAT IT READS IS OF BULK AT MOST 1048576: true; the input reads as it did. -/
def fnExactIsValidCacheUptoRow : OpenClaim := { program := "ytaelhbbfddcabaa", sum := "f40de439f1b364c1dac0ff8bb49874ec054eadbb46fd1d67d292e24013a7a829", func := "loop.example/g00809/laws.FnExactIsValidCache", spec := "fnExactIsValidCache", plainKeys := false, apart := false, narrowed := true }
def FnExactIsValidCacheUptoSaid : Prop := fnExactIsValidCacheUptoRow.holds Try.pinned (OpenSpec.upto fnExactIsValidCacheSpec)

/-- 'laws.FnExactTileOf', WHERE WHAT IT READS IS OF BULK AT MOST 1048576: true; the input reads as it did. -/
def fnExactTileOfUptoRow : OpenClaim := { program := "ytaelhbbfddcabaa", sum := "f40de439f1b364c1dac0ff8bb49874ec054eadbb46fd1d67d292e24013a7a829", func := "loop.example/g00809/laws.FnExactTileOf", spec := "fnExactTileOf", plainKeys := false, apart := false, narrowed := true }
def FnExactTileOfUptoSaid : Prop := fnExactTileOfUptoRow.holds Try.pinned (OpenSpec.upto fnExactTileOfSpec)

/-- 'laws.FnExactTilesFor', WHERE WHAT IT READS IS OF BULK AT MOST 1048576: true; the input reads as it did. -/
def fnExactTilesForUptoRow : OpenClaim := { program := "ytaelhbbfddcabaa", sum := "f40de439f1b364c1dac0ff8bb49874ec054eadbb46fd1d67d292e24013a7a829", func := "loop.example/g00809/laws.FnExactTilesFor", spec := "fnExactTilesFor", unfollowed := true, recurses := true, plainKeys := false, apart := false, narrowed := true }
def FnExactTilesForUptoSaid : Prop := fnExactTilesForUptoRow.holds Try.pinned (OpenSpec.upto fnExactTilesForSpec)

/-- 'laws.FnExactUseTile', WHERE WHAT IT READS IS OF BULK AT MOST 1048576: true; the input reads as it did. -/
def fnExactUseTileUptoRow : OpenClaim := { program := "ytaelhbbfddcabaa", sum := "f40de439f1b364c1dac0ff8bb49874ec054eadbb46fd1d67d292e24013a7a829", func := "loop.example/g00809/laws.FnExactUseTile", spec := "fnExactUseTile", unfollowed := true, recurses := true, plainKeys := false, apart := false, narrowed := true }
def FnExactUseTileUptoSaid : Prop := fnExactUseTileUptoRow.holds Try.pinned (OpenSpec.upto fnExactUseTileSpec)

/-- 'laws.FnExactCachedLookup', WHERE WHAT IT READS IS OF BULK AT MOST 1048576: true; the input reads as it did. -/
def fnExactCachedLookupUptoRow : OpenClaim := { program := "ytaelhbbfddcabaa", sum := "f40de439f1b364c1dac0ff8bb49874ec054eadbb46fd1d67d292e24013a7a829", func := "loop.example/g00809/laws.FnExactCachedLookup", spec := "fnExactCachedLookup", unfollowed := true, recurses := true, plainKeys := false, apart := false, narrowed := true }
def FnExactCachedLookupUptoSaid : Prop := fnExactCachedLookupUptoRow.holds Try.pinned (OpenSpec.upto fnExactCachedLookupSpec)

/-- 'laws.FnExactSameCache', WHERE WHAT IT READS IS OF BULK AT MOST 1048576: true; the input reads as it did. -/
def fnExactSameCacheUptoRow : OpenClaim := { program := "ytaelhbbfddcabaa", sum := "f40de439f1b364c1dac0ff8bb49874ec054eadbb46fd1d67d292e24013a7a829", func := "loop.example/g00809/laws.FnExactSameCache", spec := "fnExactSameCache", plainKeys := false, apart := false, narrowed := true }
def FnExactSameCacheUptoSaid : Prop := fnExactSameCacheUptoRow.holds Try.pinned (OpenSpec.upto fnExactSameCacheSpec)

end Rows
end Go.Proofs.Ytaelhbbfddcabaa
