/-
  No cell of these rows narrows 'for every input' (looked for: loops, veiled, ifaces, maps, wideKeys, modest, calm, conditions, laid).
  DERIVED. THE GIVEN ROWS OF THIS SEAT. 10 by the template 'for every input the law returns true; each argument reads behind the call as it read before'; 0 by the template 'total and deterministic' (their statements: YtekocllllbdbgaaTotals.lean).
  GIVEN WITH THE SEED: the statements are not yours to turn. If you find one false, say at which input.
  Laid BY PROGRAM, IN A SANDBOX (cutbox-rows.mjs): the forced cells as the released guide's own fill.sh prints them over the translation 2e09746f5ff17c36… (all of the seat's roots in one cut). By AI agents, Wed Nov 11 2026. No macro, syntax, notation, axiom, sorry.
-/
import Derived.Test.YtekocllllbdbgaaChecked
import GoSem.Claim
import GoSem.ClaimJoined
import GoSem.ClaimMapViews
import Derived.JoinedTies
import Derived.KernelRfl
namespace Go.Proofs.Ytekocllllbdbgaa
/- THE CELL 'sum', in the pinned program and in every row, IS THE sha256 OF THE DUMP (.gsa) THAT YtekocllllbdbgaaProg.lean LOADS. Nothing in Lean hashes anything: it is a label: what it is worth is what the hold of that sum in a sandbox is worth. -/
noncomputable def Try.pinned : Pinned := { name := "ytekocllllbdbgaa", sum := "2e09746f5ff17c364b22e49e2bb06182ee83c5b883d39e5ce09d8c810d84640d", checked := Try.checked }
namespace Rows
def none {H : Type} : Left H := { results := [], args := [] }

/-- 'ceroplastlaw05.RoomFates': WHATEVER THE INPUT: true; the input reads as it did. -/
def roomFatesSpec : ChangeSpec := { name := "roomFates", fn := fun _ => fun
  | [d1, d2, d3] => { results := [.lit (.bool true)], args := [d1, d2, d3] }
  | _ => none }
def roomFatesRow : OpenClaim := { program := "ytekocllllbdbgaa", sum := "2e09746f5ff17c364b22e49e2bb06182ee83c5b883d39e5ce09d8c810d84640d", func := "ceroplast/ceroplastlaw05.RoomFates", spec := "roomFates", unfollowed := true, recurses := true, apart := false }
def RoomFatesSaid : Prop := roomFatesRow.holds Try.pinned (OpenSpec.ofChange roomFatesSpec)

/-- ITS FALSE NEIGHBOUR: 'it returns false'. Refute it at one input. -/
def roomFatesWrong : ChangeSpec := { name := "roomFates", fn := fun _ => fun
  | [d1, d2, d3] => { results := [.lit (.bool false)], args := [d1, d2, d3] }
  | _ => none }
def RoomFatesWrongFalsely : Prop := roomFatesRow.holds Try.pinned (OpenSpec.ofChange roomFatesWrong)

/-- 'ceroplastlaw05.RoomKnown': WHATEVER THE INPUT: true; the input reads as it did. -/
def roomKnownSpec : ChangeSpec := { name := "roomKnown", fn := fun _ => fun
  | [] => { results := [.lit (.bool true)], args := [] }
  | _ => none }
def roomKnownRow : OpenClaim := { program := "ytekocllllbdbgaa", sum := "2e09746f5ff17c364b22e49e2bb06182ee83c5b883d39e5ce09d8c810d84640d", func := "ceroplast/ceroplastlaw05.RoomKnown", spec := "roomKnown", unfollowed := true, recurses := true, apart := false }
def RoomKnownSaid : Prop := roomKnownRow.holds Try.pinned (OpenSpec.ofChange roomKnownSpec)

/-- ITS FALSE NEIGHBOUR: 'it returns false'. Refute it at one input. -/
def roomKnownWrong : ChangeSpec := { name := "roomKnown", fn := fun _ => fun
  | [] => { results := [.lit (.bool false)], args := [] }
  | _ => none }
def RoomKnownWrongFalsely : Prop := roomKnownRow.holds Try.pinned (OpenSpec.ofChange roomKnownWrong)

/-- 'ceroplastlaw05.RoomMost': WHATEVER THE INPUT: true; the input reads as it did. -/
def roomMostSpec : ChangeSpec := { name := "roomMost", fn := fun _ => fun
  | [d1, d2, d3] => { results := [.lit (.bool true)], args := [d1, d2, d3] }
  | _ => none }
def roomMostRow : OpenClaim := { program := "ytekocllllbdbgaa", sum := "2e09746f5ff17c364b22e49e2bb06182ee83c5b883d39e5ce09d8c810d84640d", func := "ceroplast/ceroplastlaw05.RoomMost", spec := "roomMost", unfollowed := true, recurses := true, apart := false }
def RoomMostSaid : Prop := roomMostRow.holds Try.pinned (OpenSpec.ofChange roomMostSpec)

/-- ITS FALSE NEIGHBOUR: 'it returns false'. Refute it at one input. -/
def roomMostWrong : ChangeSpec := { name := "roomMost", fn := fun _ => fun
  | [d1, d2, d3] => { results := [.lit (.bool false)], args := [d1, d2, d3] }
  | _ => none }
def RoomMostWrongFalsely : Prop := roomMostRow.holds Try.pinned (OpenSpec.ofChange roomMostWrong)

/-- 'ceroplastlaw05.RoomBroken': WHATEVER THE INPUT: true; the input reads as it did. -/
def roomBrokenSpec : ChangeSpec := { name := "roomBroken", fn := fun _ => fun
  | [d1, d2] => { results := [.lit (.bool true)], args := [d1, d2] }
  | _ => none }
def roomBrokenRow : OpenClaim := { program := "ytekocllllbdbgaa", sum := "2e09746f5ff17c364b22e49e2bb06182ee83c5b883d39e5ce09d8c810d84640d", func := "ceroplast/ceroplastlaw05.RoomBroken", spec := "roomBroken", unfollowed := true, recurses := true, apart := false }
def RoomBrokenSaid : Prop := roomBrokenRow.holds Try.pinned (OpenSpec.ofChange roomBrokenSpec)

/-- ITS FALSE NEIGHBOUR: 'it returns false'. Refute it at one input. -/
def roomBrokenWrong : ChangeSpec := { name := "roomBroken", fn := fun _ => fun
  | [d1, d2] => { results := [.lit (.bool false)], args := [d1, d2] }
  | _ => none }
def RoomBrokenWrongFalsely : Prop := roomBrokenRow.holds Try.pinned (OpenSpec.ofChange roomBrokenWrong)

/-- 'ceroplastlaw05.RoomMargin': WHATEVER THE INPUT: true; the input reads as it did. -/
def roomMarginSpec : ChangeSpec := { name := "roomMargin", fn := fun _ => fun
  | [d1, d2] => { results := [.lit (.bool true)], args := [d1, d2] }
  | _ => none }
def roomMarginRow : OpenClaim := { program := "ytekocllllbdbgaa", sum := "2e09746f5ff17c364b22e49e2bb06182ee83c5b883d39e5ce09d8c810d84640d", func := "ceroplast/ceroplastlaw05.RoomMargin", spec := "roomMargin", unfollowed := true, recurses := true, apart := false }
def RoomMarginSaid : Prop := roomMarginRow.holds Try.pinned (OpenSpec.ofChange roomMarginSpec)

/-- ITS FALSE NEIGHBOUR: 'it returns false'. Refute it at one input. -/
def roomMarginWrong : ChangeSpec := { name := "roomMargin", fn := fun _ => fun
  | [d1, d2] => { results := [.lit (.bool false)], args := [d1, d2] }
  | _ => none }
def RoomMarginWrongFalsely : Prop := roomMarginRow.holds Try.pinned (OpenSpec.ofChange roomMarginWrong)

/-- 'ceroplastlaw05.RoomFate': WHATEVER THE INPUT: true; the input reads as it did. -/
def roomFateSpec : ChangeSpec := { name := "roomFate", fn := fun _ => fun
  | [d1, d2, d3] => { results := [.lit (.bool true)], args := [d1, d2, d3] }
  | _ => none }
def roomFateRow : OpenClaim := { program := "ytekocllllbdbgaa", sum := "2e09746f5ff17c364b22e49e2bb06182ee83c5b883d39e5ce09d8c810d84640d", func := "ceroplast/ceroplastlaw05.RoomFate", spec := "roomFate", unfollowed := true, recurses := true, apart := false }
def RoomFateSaid : Prop := roomFateRow.holds Try.pinned (OpenSpec.ofChange roomFateSpec)

/-- ITS FALSE NEIGHBOUR: 'it returns false'. Refute it at one input. -/
def roomFateWrong : ChangeSpec := { name := "roomFate", fn := fun _ => fun
  | [d1, d2, d3] => { results := [.lit (.bool false)], args := [d1, d2, d3] }
  | _ => none }
def RoomFateWrongFalsely : Prop := roomFateRow.holds Try.pinned (OpenSpec.ofChange roomFateWrong)

/-- 'ceroplastlaw05.RoomEasier': WHATEVER THE INPUT: true; the input reads as it did. -/
def roomEasierSpec : ChangeSpec := { name := "roomEasier", fn := fun _ => fun
  | [d1, d2] => { results := [.lit (.bool true)], args := [d1, d2] }
  | _ => none }
def roomEasierRow : OpenClaim := { program := "ytekocllllbdbgaa", sum := "2e09746f5ff17c364b22e49e2bb06182ee83c5b883d39e5ce09d8c810d84640d", func := "ceroplast/ceroplastlaw05.RoomEasier", spec := "roomEasier", unfollowed := true, recurses := true, apart := false }
def RoomEasierSaid : Prop := roomEasierRow.holds Try.pinned (OpenSpec.ofChange roomEasierSpec)

/-- ITS FALSE NEIGHBOUR: 'it returns false'. Refute it at one input. -/
def roomEasierWrong : ChangeSpec := { name := "roomEasier", fn := fun _ => fun
  | [d1, d2] => { results := [.lit (.bool false)], args := [d1, d2] }
  | _ => none }
def RoomEasierWrongFalsely : Prop := roomEasierRow.holds Try.pinned (OpenSpec.ofChange roomEasierWrong)

/-- 'ceroplastlaw05.RoomOrder': WHATEVER THE INPUT: true; the input reads as it did. -/
def roomOrderSpec : ChangeSpec := { name := "roomOrder", fn := fun _ => fun
  | [d] => { results := [.lit (.bool true)], args := [d] }
  | _ => none }
def roomOrderRow : OpenClaim := { program := "ytekocllllbdbgaa", sum := "2e09746f5ff17c364b22e49e2bb06182ee83c5b883d39e5ce09d8c810d84640d", func := "ceroplast/ceroplastlaw05.RoomOrder", spec := "roomOrder", unfollowed := true, recurses := true, apart := false }
def RoomOrderSaid : Prop := roomOrderRow.holds Try.pinned (OpenSpec.ofChange roomOrderSpec)

/-- ITS FALSE NEIGHBOUR: 'it returns false'. Refute it at one input. -/
def roomOrderWrong : ChangeSpec := { name := "roomOrder", fn := fun _ => fun
  | [d] => { results := [.lit (.bool false)], args := [d] }
  | _ => none }
def RoomOrderWrongFalsely : Prop := roomOrderRow.holds Try.pinned (OpenSpec.ofChange roomOrderWrong)

/-- 'ceroplastlaw05.RoomNeeds': WHATEVER THE INPUT: true; the input reads as it did. -/
def roomNeedsSpec : ChangeSpec := { name := "roomNeeds", fn := fun _ => fun
  | [d1, d2, d3] => { results := [.lit (.bool true)], args := [d1, d2, d3] }
  | _ => none }
def roomNeedsRow : OpenClaim := { program := "ytekocllllbdbgaa", sum := "2e09746f5ff17c364b22e49e2bb06182ee83c5b883d39e5ce09d8c810d84640d", func := "ceroplast/ceroplastlaw05.RoomNeeds", spec := "roomNeeds", unfollowed := true, recurses := true, apart := false }
def RoomNeedsSaid : Prop := roomNeedsRow.holds Try.pinned (OpenSpec.ofChange roomNeedsSpec)

/-- ITS FALSE NEIGHBOUR: 'it returns false'. Refute it at one input. -/
def roomNeedsWrong : ChangeSpec := { name := "roomNeeds", fn := fun _ => fun
  | [d1, d2, d3] => { results := [.lit (.bool false)], args := [d1, d2, d3] }
  | _ => none }
def RoomNeedsWrongFalsely : Prop := roomNeedsRow.holds Try.pinned (OpenSpec.ofChange roomNeedsWrong)

/-- 'ceroplastlaw05.RoomLoads': WHATEVER THE INPUT: true; the input reads as it did. -/
def roomLoadsSpec : ChangeSpec := { name := "roomLoads", fn := fun _ => fun
  | [d1, d2] => { results := [.lit (.bool true)], args := [d1, d2] }
  | _ => none }
def roomLoadsRow : OpenClaim := { program := "ytekocllllbdbgaa", sum := "2e09746f5ff17c364b22e49e2bb06182ee83c5b883d39e5ce09d8c810d84640d", func := "ceroplast/ceroplastlaw05.RoomLoads", spec := "roomLoads", unfollowed := true, recurses := true, apart := false }
def RoomLoadsSaid : Prop := roomLoadsRow.holds Try.pinned (OpenSpec.ofChange roomLoadsSpec)

/-- ITS FALSE NEIGHBOUR: 'it returns false'. Refute it at one input. -/
def roomLoadsWrong : ChangeSpec := { name := "roomLoads", fn := fun _ => fun
  | [d1, d2] => { results := [.lit (.bool false)], args := [d1, d2] }
  | _ => none }
def RoomLoadsWrongFalsely : Prop := roomLoadsRow.holds Try.pinned (OpenSpec.ofChange roomLoadsWrong)

/- THE SECOND FORM. 'bulk': how many values and letters a reading holds, each counted each time it is reached (what is shared counts as often as it is met; a slice's spare places count too). A statement '..UptoSaid' is the law's where the arguments, and the package variables that the reading takes, are together of bulk at most 1048576: NARROWER than '..Said'. Prove '..Said' where nothing that the law and all that it calls make is longer than what came in: it says more and counts as full. Else prove '..UptoSaid'. A law counts once. -/
mutual
def uptoBulk {H : Type} : DataW H → Nat
  | .lit (.string bytes) => bytes.length + 1
  | .lit _ => 1
  | .nil => 1
  | .ptr d => uptoBulk d + 1
  | .slice elems spare => uptoBulkAll elems + uptoBulkAll spare + 1
  | .agg parts => uptoBulkAll parts + 1
  | .iface _ d => uptoBulk d + 1
  | .map entries => uptoBulkEntries entries + 1
  | .held _ => 1
def uptoBulkAll {H : Type} : List (DataW H) → Nat
  | [] => 0
  | d :: r => uptoBulk d + uptoBulkAll r
def uptoBulkEntries {H : Type} : List (Lit × DataW H) → Nat
  | [] => 0
  | x :: r => uptoBulkEntry x + uptoBulkEntries r
def uptoBulkEntry {H : Type} : Lit × DataW H → Nat
  | (.string bytes, d) => bytes.length + uptoBulk d + 1
  | (_, d) => uptoBulk d + 1
 end
def uptoSmall : (H : Type) → List (DataW H) → Bool := fun _ ds => decide (uptoBulkAll ds ≤ 1048576)
def OpenSpec.upto (s : _root_.Go.ChangeSpec) : _root_.Go.OpenSpec := { _root_.Go.OpenSpec.ofChange s with cond := some uptoSmall }

/-- 'ceroplastlaw05.RoomFates', WHERE WHAT IT READS IS OF BULK AT MOST 1048576: true; the input reads as it did. -/
def roomFatesUptoRow : OpenClaim := { program := "ytekocllllbdbgaa", sum := "2e09746f5ff17c364b22e49e2bb06182ee83c5b883d39e5ce09d8c810d84640d", func := "ceroplast/ceroplastlaw05.RoomFates", spec := "roomFates", unfollowed := true, recurses := true, apart := false, narrowed := true }
def RoomFatesUptoSaid : Prop := roomFatesUptoRow.holds Try.pinned (OpenSpec.upto roomFatesSpec)

/-- 'ceroplastlaw05.RoomKnown', WHERE WHAT IT READS IS OF BULK AT MOST 1048576: true; the input reads as it did. -/
def roomKnownUptoRow : OpenClaim := { program := "ytekocllllbdbgaa", sum := "2e09746f5ff17c364b22e49e2bb06182ee83c5b883d39e5ce09d8c810d84640d", func := "ceroplast/ceroplastlaw05.RoomKnown", spec := "roomKnown", unfollowed := true, recurses := true, apart := false, narrowed := true }
def RoomKnownUptoSaid : Prop := roomKnownUptoRow.holds Try.pinned (OpenSpec.upto roomKnownSpec)

/-- 'ceroplastlaw05.RoomMost', WHERE WHAT IT READS IS OF BULK AT MOST 1048576: true; the input reads as it did. -/
def roomMostUptoRow : OpenClaim := { program := "ytekocllllbdbgaa", sum := "2e09746f5ff17c364b22e49e2bb06182ee83c5b883d39e5ce09d8c810d84640d", func := "ceroplast/ceroplastlaw05.RoomMost", spec := "roomMost", unfollowed := true, recurses := true, apart := false, narrowed := true }
def RoomMostUptoSaid : Prop := roomMostUptoRow.holds Try.pinned (OpenSpec.upto roomMostSpec)

/-- 'ceroplastlaw05.RoomBroken', WHERE WHAT IT READS IS OF BULK AT MOST 1048576: true; the input reads as it did. -/
def roomBrokenUptoRow : OpenClaim := { program := "ytekocllllbdbgaa", sum := "2e09746f5ff17c364b22e49e2bb06182ee83c5b883d39e5ce09d8c810d84640d", func := "ceroplast/ceroplastlaw05.RoomBroken", spec := "roomBroken", unfollowed := true, recurses := true, apart := false, narrowed := true }
def RoomBrokenUptoSaid : Prop := roomBrokenUptoRow.holds Try.pinned (OpenSpec.upto roomBrokenSpec)

/-- 'ceroplastlaw05.RoomMargin', WHERE WHAT IT READS IS OF BULK AT MOST 1048576: true; the input reads as it did. -/
def roomMarginUptoRow : OpenClaim := { program := "ytekocllllbdbgaa", sum := "2e09746f5ff17c364b22e49e2bb06182ee83c5b883d39e5ce09d8c810d84640d", func := "ceroplast/ceroplastlaw05.RoomMargin", spec := "roomMargin", unfollowed := true, recurses := true, apart := false, narrowed := true }
def RoomMarginUptoSaid : Prop := roomMarginUptoRow.holds Try.pinned (OpenSpec.upto roomMarginSpec)

/-- 'ceroplastlaw05.RoomFate', WHERE WHAT IT READS IS OF BULK AT MOST 1048576: true; the input reads as it did. -/
def roomFateUptoRow : OpenClaim := { program := "ytekocllllbdbgaa", sum := "2e09746f5ff17c364b22e49e2bb06182ee83c5b883d39e5ce09d8c810d84640d", func := "ceroplast/ceroplastlaw05.RoomFate", spec := "roomFate", unfollowed := true, recurses := true, apart := false, narrowed := true }
def RoomFateUptoSaid : Prop := roomFateUptoRow.holds Try.pinned (OpenSpec.upto roomFateSpec)

/-- 'ceroplastlaw05.RoomEasier', WHERE WHAT IT READS IS OF BULK AT MOST 1048576: true; the input reads as it did. -/
def roomEasierUptoRow : OpenClaim := { program := "ytekocllllbdbgaa", sum := "2e09746f5ff17c364b22e49e2bb06182ee83c5b883d39e5ce09d8c810d84640d", func := "ceroplast/ceroplastlaw05.RoomEasier", spec := "roomEasier", unfollowed := true, recurses := true, apart := false, narrowed := true }
def RoomEasierUptoSaid : Prop := roomEasierUptoRow.holds Try.pinned (OpenSpec.upto roomEasierSpec)

/-- 'ceroplastlaw05.RoomOrder', WHERE WHAT IT READS IS OF BULK AT MOST 1048576: true; the input reads as it did. -/
def roomOrderUptoRow : OpenClaim := { program := "ytekocllllbdbgaa", sum := "2e09746f5ff17c364b22e49e2bb06182ee83c5b883d39e5ce09d8c810d84640d", func := "ceroplast/ceroplastlaw05.RoomOrder", spec := "roomOrder", unfollowed := true, recurses := true, apart := false, narrowed := true }
def RoomOrderUptoSaid : Prop := roomOrderUptoRow.holds Try.pinned (OpenSpec.upto roomOrderSpec)

/-- 'ceroplastlaw05.RoomNeeds', WHERE WHAT IT READS IS OF BULK AT MOST 1048576: true; the input reads as it did. -/
def roomNeedsUptoRow : OpenClaim := { program := "ytekocllllbdbgaa", sum := "2e09746f5ff17c364b22e49e2bb06182ee83c5b883d39e5ce09d8c810d84640d", func := "ceroplast/ceroplastlaw05.RoomNeeds", spec := "roomNeeds", unfollowed := true, recurses := true, apart := false, narrowed := true }
def RoomNeedsUptoSaid : Prop := roomNeedsUptoRow.holds Try.pinned (OpenSpec.upto roomNeedsSpec)

/-- 'ceroplastlaw05.RoomLoads', WHERE WHAT IT READS IS OF BULK AT MOST 1048576: true; the input reads as it did. -/
def roomLoadsUptoRow : OpenClaim := { program := "ytekocllllbdbgaa", sum := "2e09746f5ff17c364b22e49e2bb06182ee83c5b883d39e5ce09d8c810d84640d", func := "ceroplast/ceroplastlaw05.RoomLoads", spec := "roomLoads", unfollowed := true, recurses := true, apart := false, narrowed := true }
def RoomLoadsUptoSaid : Prop := roomLoadsUptoRow.holds Try.pinned (OpenSpec.upto roomLoadsSpec)

end Rows
end Go.Proofs.Ytekocllllbdbgaa
