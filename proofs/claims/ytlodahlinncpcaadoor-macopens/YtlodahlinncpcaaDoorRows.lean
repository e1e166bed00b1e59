/-
  NARROWER THAN 'FOR EVERY INPUT', by the rows' own cells (each row's printed sentence says how): ShaSums: laid · ShaBlocks: laid · MacSums: laid · MacOpens: laid · MacBack: laid · MacKeys: laid · MacRights: laid · MacBounds: laid · MacLong: laid.
  DERIVED. THE GIVEN ROWS OF THIS SEAT. 9 by the template 'for every input the law returns true; each argument reads behind the call as it read before'; 0 by the template 'total and deterministic' (their statements: YtlodahlinncpcaaDoorTotals.lean).
  GIVEN WITH THE SEED: the statements are not yours to turn. If you find one false, say at which input.
  Laid BY PROGRAM, IN A SANDBOX (cutbox-rows.mjs): the forced cells as the released guide's own fill.sh prints them over the translation e3ef854f1a0b068d… (all of the seat's roots in one cut). By AI agents, Wed Nov 11 2026. No macro, syntax, notation, axiom, sorry.
-/
import Derived.Test.YtlodahlinncpcaaDoorChecked
import GoSem.Claim
import GoSem.ClaimJoined
import GoSem.ClaimMapViews
import Derived.JoinedTies
import Derived.KernelRfl
namespace Go.Proofs.YtlodahlinncpcaaDoor
/- THE CELL 'sum', in the pinned program and in every row, IS THE sha256 OF THE DUMP (.gsa) THAT YtlodahlinncpcaaDoorProg.lean LOADS. Nothing in Lean hashes anything: it is a label: what it is worth is what the hold of that sum in a sandbox is worth. -/
noncomputable def Tryd.pinned : Pinned := { name := "ytlodahlinncpcaadoor", sum := "e3ef854f1a0b068d79466c69a3c442c90eff64ea0c7d3c056ae0b0a5028a95ec", checked := Tryd.checked }
namespace Rows
def none {H : Type} : Left H := { results := [], args := [] }

/- WHAT THE LISTED PACKAGE-LEVEL VARIABLES READ AS WHEN THE CALL BEGINS. Each datum BY PROGRAM (the guide's laid-datum.mjs) off the statement by which the dump's own 'gosem.cut.vars' lays the variable. In a bare row this is a premise. The card (YtlodahlinncpcaaDoorCards.lean) ties it to the program's text. -/
def laid_tenement_sha_thirdRoots {H : Type} : DataW H := .agg [.lit (.int .u32 1116352408), .lit (.int .u32 1899447441), .lit (.int .u32 3049323471), .lit (.int .u32 3921009573), .lit (.int .u32 961987163), .lit (.int .u32 1508970993), .lit (.int .u32 2453635748), .lit (.int .u32 2870763221), .lit (.int .u32 3624381080), .lit (.int .u32 310598401), .lit (.int .u32 607225278), .lit (.int .u32 1426881987), .lit (.int .u32 1925078388), .lit (.int .u32 2162078206), .lit (.int .u32 2614888103), .lit (.int .u32 3248222580), .lit (.int .u32 3835390401), .lit (.int .u32 4022224774), .lit (.int .u32 264347078), .lit (.int .u32 604807628), .lit (.int .u32 770255983), .lit (.int .u32 1249150122), .lit (.int .u32 1555081692), .lit (.int .u32 1996064986), .lit (.int .u32 2554220882), .lit (.int .u32 2821834349), .lit (.int .u32 2952996808), .lit (.int .u32 3210313671), .lit (.int .u32 3336571891), .lit (.int .u32 3584528711), .lit (.int .u32 113926993), .lit (.int .u32 338241895), .lit (.int .u32 666307205), .lit (.int .u32 773529912), .lit (.int .u32 1294757372), .lit (.int .u32 1396182291), .lit (.int .u32 1695183700), .lit (.int .u32 1986661051), .lit (.int .u32 2177026350), .lit (.int .u32 2456956037), .lit (.int .u32 2730485921), .lit (.int .u32 2820302411), .lit (.int .u32 3259730800), .lit (.int .u32 3345764771), .lit (.int .u32 3516065817), .lit (.int .u32 3600352804), .lit (.int .u32 4094571909), .lit (.int .u32 275423344), .lit (.int .u32 430227734), .lit (.int .u32 506948616), .lit (.int .u32 659060556), .lit (.int .u32 883997877), .lit (.int .u32 958139571), .lit (.int .u32 1322822218), .lit (.int .u32 1537002063), .lit (.int .u32 1747873779), .lit (.int .u32 1955562222), .lit (.int .u32 2024104815), .lit (.int .u32 2227730452), .lit (.int .u32 2361852424), .lit (.int .u32 2428436474), .lit (.int .u32 2756734187), .lit (.int .u32 3204031479), .lit (.int .u32 3329325298)]

/-- 'tenementlaw03.ShaSums': WHATEVER THE INPUT: true; the input reads as it did. -/
def shaSumsSpec : ChangeSpec := { name := "shaSums", fn := fun _ => fun
  | [d1, d2] => { results := [.lit (.bool true)], args := [d1, d2] }
  | _ => none }
def shaSumsRow : OpenClaim := { program := "ytlodahlinncpcaadoor", sum := "e3ef854f1a0b068d79466c69a3c442c90eff64ea0c7d3c056ae0b0a5028a95ec", func := "tenement/tenementlaw03.ShaSums", spec := "shaSums", named := ["tenement/sha.thirdRoots"], apart := false, laid := [("tenement/sha.thirdRoots", laid_tenement_sha_thirdRoots)] }
def ShaSumsSaid : Prop := shaSumsRow.holds Tryd.pinned (OpenSpec.ofChange shaSumsSpec)

/-- ITS FALSE NEIGHBOUR: 'it returns false'. Refute it at one input. -/
def shaSumsWrong : ChangeSpec := { name := "shaSums", fn := fun _ => fun
  | [d1, d2] => { results := [.lit (.bool false)], args := [d1, d2] }
  | _ => none }
def ShaSumsWrongFalsely : Prop := shaSumsRow.holds Tryd.pinned (OpenSpec.ofChange shaSumsWrong)

/-- 'tenementlaw03.ShaBlocks': WHATEVER THE INPUT: true; the input reads as it did. -/
def shaBlocksSpec : ChangeSpec := { name := "shaBlocks", fn := fun _ => fun
  | [d1, d2, d3, d4] => { results := [.lit (.bool true)], args := [d1, d2, d3, d4] }
  | _ => none }
def shaBlocksRow : OpenClaim := { program := "ytlodahlinncpcaadoor", sum := "e3ef854f1a0b068d79466c69a3c442c90eff64ea0c7d3c056ae0b0a5028a95ec", func := "tenement/tenementlaw03.ShaBlocks", spec := "shaBlocks", named := ["tenement/sha.thirdRoots"], apart := false, laid := [("tenement/sha.thirdRoots", laid_tenement_sha_thirdRoots)] }
def ShaBlocksSaid : Prop := shaBlocksRow.holds Tryd.pinned (OpenSpec.ofChange shaBlocksSpec)

/-- ITS FALSE NEIGHBOUR: 'it returns false'. Refute it at one input. -/
def shaBlocksWrong : ChangeSpec := { name := "shaBlocks", fn := fun _ => fun
  | [d1, d2, d3, d4] => { results := [.lit (.bool false)], args := [d1, d2, d3, d4] }
  | _ => none }
def ShaBlocksWrongFalsely : Prop := shaBlocksRow.holds Tryd.pinned (OpenSpec.ofChange shaBlocksWrong)

/-- 'tenementlaw04.MacSums': WHATEVER THE INPUT: true; the input reads as it did. -/
def macSumsSpec : ChangeSpec := { name := "macSums", fn := fun _ => fun
  | [d1, d2, d3, d4, d5, d6] => { results := [.lit (.bool true)], args := [d1, d2, d3, d4, d5, d6] }
  | _ => none }
def macSumsRow : OpenClaim := { program := "ytlodahlinncpcaadoor", sum := "e3ef854f1a0b068d79466c69a3c442c90eff64ea0c7d3c056ae0b0a5028a95ec", func := "tenement/tenementlaw04.MacSums", spec := "macSums", named := ["tenement/sha.thirdRoots"], apart := false, laid := [("tenement/sha.thirdRoots", laid_tenement_sha_thirdRoots)] }
def MacSumsSaid : Prop := macSumsRow.holds Tryd.pinned (OpenSpec.ofChange macSumsSpec)

/-- ITS FALSE NEIGHBOUR: 'it returns false'. Refute it at one input. -/
def macSumsWrong : ChangeSpec := { name := "macSums", fn := fun _ => fun
  | [d1, d2, d3, d4, d5, d6] => { results := [.lit (.bool false)], args := [d1, d2, d3, d4, d5, d6] }
  | _ => none }
def MacSumsWrongFalsely : Prop := macSumsRow.holds Tryd.pinned (OpenSpec.ofChange macSumsWrong)

/-- 'tenementlaw04.MacOpens': WHATEVER THE INPUT: true; the input reads as it did. -/
def macOpensSpec : ChangeSpec := { name := "macOpens", fn := fun _ => fun
  | [d1, d2, d3, d4, d5, d6, d7] => { results := [.lit (.bool true)], args := [d1, d2, d3, d4, d5, d6, d7] }
  | _ => none }
def macOpensRow : OpenClaim := { program := "ytlodahlinncpcaadoor", sum := "e3ef854f1a0b068d79466c69a3c442c90eff64ea0c7d3c056ae0b0a5028a95ec", func := "tenement/tenementlaw04.MacOpens", spec := "macOpens", named := ["tenement/sha.thirdRoots"], apart := false, laid := [("tenement/sha.thirdRoots", laid_tenement_sha_thirdRoots)] }
def MacOpensSaid : Prop := macOpensRow.holds Tryd.pinned (OpenSpec.ofChange macOpensSpec)

/-- ITS FALSE NEIGHBOUR: 'it returns false'. Refute it at one input. -/
def macOpensWrong : ChangeSpec := { name := "macOpens", fn := fun _ => fun
  | [d1, d2, d3, d4, d5, d6, d7] => { results := [.lit (.bool false)], args := [d1, d2, d3, d4, d5, d6, d7] }
  | _ => none }
def MacOpensWrongFalsely : Prop := macOpensRow.holds Tryd.pinned (OpenSpec.ofChange macOpensWrong)

/-- 'tenementlaw04.MacBack': WHATEVER THE INPUT: true; the input reads as it did. -/
def macBackSpec : ChangeSpec := { name := "macBack", fn := fun _ => fun
  | [d1, d2, d3, d4, d5] => { results := [.lit (.bool true)], args := [d1, d2, d3, d4, d5] }
  | _ => none }
def macBackRow : OpenClaim := { program := "ytlodahlinncpcaadoor", sum := "e3ef854f1a0b068d79466c69a3c442c90eff64ea0c7d3c056ae0b0a5028a95ec", func := "tenement/tenementlaw04.MacBack", spec := "macBack", named := ["tenement/sha.thirdRoots"], apart := false, laid := [("tenement/sha.thirdRoots", laid_tenement_sha_thirdRoots)] }
def MacBackSaid : Prop := macBackRow.holds Tryd.pinned (OpenSpec.ofChange macBackSpec)

/-- ITS FALSE NEIGHBOUR: 'it returns false'. Refute it at one input. -/
def macBackWrong : ChangeSpec := { name := "macBack", fn := fun _ => fun
  | [d1, d2, d3, d4, d5] => { results := [.lit (.bool false)], args := [d1, d2, d3, d4, d5] }
  | _ => none }
def MacBackWrongFalsely : Prop := macBackRow.holds Tryd.pinned (OpenSpec.ofChange macBackWrong)

/-- 'tenementlaw04.MacKeys': WHATEVER THE INPUT: true; the input reads as it did. -/
def macKeysSpec : ChangeSpec := { name := "macKeys", fn := fun _ => fun
  | [d1, d2, d3, d4] => { results := [.lit (.bool true)], args := [d1, d2, d3, d4] }
  | _ => none }
def macKeysRow : OpenClaim := { program := "ytlodahlinncpcaadoor", sum := "e3ef854f1a0b068d79466c69a3c442c90eff64ea0c7d3c056ae0b0a5028a95ec", func := "tenement/tenementlaw04.MacKeys", spec := "macKeys", named := ["tenement/sha.thirdRoots"], apart := false, laid := [("tenement/sha.thirdRoots", laid_tenement_sha_thirdRoots)] }
def MacKeysSaid : Prop := macKeysRow.holds Tryd.pinned (OpenSpec.ofChange macKeysSpec)

/-- ITS FALSE NEIGHBOUR: 'it returns false'. Refute it at one input. -/
def macKeysWrong : ChangeSpec := { name := "macKeys", fn := fun _ => fun
  | [d1, d2, d3, d4] => { results := [.lit (.bool false)], args := [d1, d2, d3, d4] }
  | _ => none }
def MacKeysWrongFalsely : Prop := macKeysRow.holds Tryd.pinned (OpenSpec.ofChange macKeysWrong)

/-- 'tenementlaw04.MacRights': WHATEVER THE INPUT: true; the input reads as it did. -/
def macRightsSpec : ChangeSpec := { name := "macRights", fn := fun _ => fun
  | [d1, d2, d3] => { results := [.lit (.bool true)], args := [d1, d2, d3] }
  | _ => none }
def macRightsRow : OpenClaim := { program := "ytlodahlinncpcaadoor", sum := "e3ef854f1a0b068d79466c69a3c442c90eff64ea0c7d3c056ae0b0a5028a95ec", func := "tenement/tenementlaw04.MacRights", spec := "macRights", named := ["tenement/sha.thirdRoots"], apart := false, laid := [("tenement/sha.thirdRoots", laid_tenement_sha_thirdRoots)] }
def MacRightsSaid : Prop := macRightsRow.holds Tryd.pinned (OpenSpec.ofChange macRightsSpec)

/-- ITS FALSE NEIGHBOUR: 'it returns false'. Refute it at one input. -/
def macRightsWrong : ChangeSpec := { name := "macRights", fn := fun _ => fun
  | [d1, d2, d3] => { results := [.lit (.bool false)], args := [d1, d2, d3] }
  | _ => none }
def MacRightsWrongFalsely : Prop := macRightsRow.holds Tryd.pinned (OpenSpec.ofChange macRightsWrong)

/-- 'tenementlaw04.MacBounds': WHATEVER THE INPUT: true; the input reads as it did. -/
def macBoundsSpec : ChangeSpec := { name := "macBounds", fn := fun _ => fun
  | [d1, d2, d3, d4] => { results := [.lit (.bool true)], args := [d1, d2, d3, d4] }
  | _ => none }
def macBoundsRow : OpenClaim := { program := "ytlodahlinncpcaadoor", sum := "e3ef854f1a0b068d79466c69a3c442c90eff64ea0c7d3c056ae0b0a5028a95ec", func := "tenement/tenementlaw04.MacBounds", spec := "macBounds", named := ["tenement/sha.thirdRoots"], apart := false, laid := [("tenement/sha.thirdRoots", laid_tenement_sha_thirdRoots)] }
def MacBoundsSaid : Prop := macBoundsRow.holds Tryd.pinned (OpenSpec.ofChange macBoundsSpec)

/-- ITS FALSE NEIGHBOUR: 'it returns false'. Refute it at one input. -/
def macBoundsWrong : ChangeSpec := { name := "macBounds", fn := fun _ => fun
  | [d1, d2, d3, d4] => { results := [.lit (.bool false)], args := [d1, d2, d3, d4] }
  | _ => none }
def MacBoundsWrongFalsely : Prop := macBoundsRow.holds Tryd.pinned (OpenSpec.ofChange macBoundsWrong)

/-- 'tenementlaw04.MacLong': WHATEVER THE INPUT: true; the input reads as it did. -/
def macLongSpec : ChangeSpec := { name := "macLong", fn := fun _ => fun
  | [d1, d2] => { results := [.lit (.bool true)], args := [d1, d2] }
  | _ => none }
def macLongRow : OpenClaim := { program := "ytlodahlinncpcaadoor", sum := "e3ef854f1a0b068d79466c69a3c442c90eff64ea0c7d3c056ae0b0a5028a95ec", func := "tenement/tenementlaw04.MacLong", spec := "macLong", named := ["tenement/sha.thirdRoots"], apart := false, laid := [("tenement/sha.thirdRoots", laid_tenement_sha_thirdRoots)] }
def MacLongSaid : Prop := macLongRow.holds Tryd.pinned (OpenSpec.ofChange macLongSpec)

/-- ITS FALSE NEIGHBOUR: 'it returns false'. Refute it at one input. -/
def macLongWrong : ChangeSpec := { name := "macLong", fn := fun _ => fun
  | [d1, d2] => { results := [.lit (.bool false)], args := [d1, d2] }
  | _ => none }
def MacLongWrongFalsely : Prop := macLongRow.holds Tryd.pinned (OpenSpec.ofChange macLongWrong)

/- THE SECOND FORM. 'bulk': how many values and letters a reading holds, each counted each time it is reached (what is shared counts as often as it is met; a slice's spare places count too). A statement '..UptoSaid' is the law's where the arguments, and the package variables that the reading takes, are together of bulk at most 1048576: NARROWER than '..Said'. Prove '..Said' where nothing that the law and all that it calls make is longer than what came in: it says more and counts as full. Else prove '..UptoSaid'. A law counts once. -/
mutual
def uptoBulk {H : Type} : DataW H → Nat
  | .lit (.string bytes) => bytes.length + 1
  | .lit _ => 1
  | .nil => 1
  | .ptr d => uptoBulk d + 1
  | .slice elems spare => uptoBulkAll elems + uptoBulkAll spare + 1
  | .agg parts => uptoBulkAll parts + 1
  | .iface _ d => uptoBulk d + 1
  | .map entries => uptoBulkEntries entries + 1
  | .held _ => 1
def uptoBulkAll {H : Type} : List (DataW H) → Nat
  | [] => 0
  | d :: r => uptoBulk d + uptoBulkAll r
def uptoBulkEntries {H : Type} : List (Lit × DataW H) → Nat
  | [] => 0
  | x :: r => uptoBulkEntry x + uptoBulkEntries r
def uptoBulkEntry {H : Type} : Lit × DataW H → Nat
  | (.string bytes, d) => bytes.length + uptoBulk d + 1
  | (_, d) => uptoBulk d + 1
 end
def uptoSmall : (H : Type) → List (DataW H) → Bool := fun _ ds => decide (uptoBulkAll ds ≤ 1048576)
def OpenSpec.upto (s : _root_.Go.ChangeSpec) : _root_.Go.OpenSpec := { _root_.Go.OpenSpec.ofChange s with cond := some uptoSmall }

/-- 'tenementlaw03.ShaSums', WHERE WHAT IT READS IS OF BULK AT MOST 1048576: true; the input reads as it did. -/
def shaSumsUptoRow : OpenClaim := { program := "ytlodahlinncpcaadoor", sum := "e3ef854f1a0b068d79466c69a3c442c90eff64ea0c7d3c056ae0b0a5028a95ec", func := "tenement/tenementlaw03.ShaSums", spec := "shaSums", named := ["tenement/sha.thirdRoots"], apart := false, laid := [("tenement/sha.thirdRoots", laid_tenement_sha_thirdRoots)], narrowed := true }
def ShaSumsUptoSaid : Prop := shaSumsUptoRow.holds Tryd.pinned (OpenSpec.upto shaSumsSpec)

/-- 'tenementlaw03.ShaBlocks', WHERE WHAT IT READS IS OF BULK AT MOST 1048576: true; the input reads as it did. -/
def shaBlocksUptoRow : OpenClaim := { program := "ytlodahlinncpcaadoor", sum := "e3ef854f1a0b068d79466c69a3c442c90eff64ea0c7d3c056ae0b0a5028a95ec", func := "tenement/tenementlaw03.ShaBlocks", spec := "shaBlocks", named := ["tenement/sha.thirdRoots"], apart := false, laid := [("tenement/sha.thirdRoots", laid_tenement_sha_thirdRoots)], narrowed := true }
def ShaBlocksUptoSaid : Prop := shaBlocksUptoRow.holds Tryd.pinned (OpenSpec.upto shaBlocksSpec)

/-- 'tenementlaw04.MacSums', WHERE WHAT IT READS IS OF BULK AT MOST 1048576: true; the input reads as it did. -/
def macSumsUptoRow : OpenClaim := { program := "ytlodahlinncpcaadoor", sum := "e3ef854f1a0b068d79466c69a3c442c90eff64ea0c7d3c056ae0b0a5028a95ec", func := "tenement/tenementlaw04.MacSums", spec := "macSums", named := ["tenement/sha.thirdRoots"], apart := false, laid := [("tenement/sha.thirdRoots", laid_tenement_sha_thirdRoots)], narrowed := true }
def MacSumsUptoSaid : Prop := macSumsUptoRow.holds Tryd.pinned (OpenSpec.upto macSumsSpec)

/-- 'tenementlaw04.MacOpens', WHERE WHAT IT READS IS OF BULK AT MOST 1048576: true; the input reads as it did. -/
def macOpensUptoRow : OpenClaim := { program := "ytlodahlinncpcaadoor", sum := "e3ef854f1a0b068d79466c69a3c442c90eff64ea0c7d3c056ae0b0a5028a95ec", func := "tenement/tenementlaw04.MacOpens", spec := "macOpens", named := ["tenement/sha.thirdRoots"], apart := false, laid := [("tenement/sha.thirdRoots", laid_tenement_sha_thirdRoots)], narrowed := true }
def MacOpensUptoSaid : Prop := macOpensUptoRow.holds Tryd.pinned (OpenSpec.upto macOpensSpec)

/-- 'tenementlaw04.MacBack', WHERE WHAT IT READS IS OF BULK AT MOST 1048576: true; the input reads as it did. -/
def macBackUptoRow : OpenClaim := { program := "ytlodahlinncpcaadoor", sum := "e3ef854f1a0b068d79466c69a3c442c90eff64ea0c7d3c056ae0b0a5028a95ec", func := "tenement/tenementlaw04.MacBack", spec := "macBack", named := ["tenement/sha.thirdRoots"], apart := false, laid := [("tenement/sha.thirdRoots", laid_tenement_sha_thirdRoots)], narrowed := true }
def MacBackUptoSaid : Prop := macBackUptoRow.holds Tryd.pinned (OpenSpec.upto macBackSpec)

/-- 'tenementlaw04.MacKeys', WHERE WHAT IT READS IS OF BULK AT MOST 1048576: true; the input reads as it did. -/
def macKeysUptoRow : OpenClaim := { program := "ytlodahlinncpcaadoor", sum := "e3ef854f1a0b068d79466c69a3c442c90eff64ea0c7d3c056ae0b0a5028a95ec", func := "tenement/tenementlaw04.MacKeys", spec := "macKeys", named := ["tenement/sha.thirdRoots"], apart := false, laid := [("tenement/sha.thirdRoots", laid_tenement_sha_thirdRoots)], narrowed := true }
def MacKeysUptoSaid : Prop := macKeysUptoRow.holds Tryd.pinned (OpenSpec.upto macKeysSpec)

/-- 'tenementlaw04.MacRights', WHERE WHAT IT READS IS OF BULK AT MOST 1048576: true; the input reads as it did. -/
def macRightsUptoRow : OpenClaim := { program := "ytlodahlinncpcaadoor", sum := "e3ef854f1a0b068d79466c69a3c442c90eff64ea0c7d3c056ae0b0a5028a95ec", func := "tenement/tenementlaw04.MacRights", spec := "macRights", named := ["tenement/sha.thirdRoots"], apart := false, laid := [("tenement/sha.thirdRoots", laid_tenement_sha_thirdRoots)], narrowed := true }
def MacRightsUptoSaid : Prop := macRightsUptoRow.holds Tryd.pinned (OpenSpec.upto macRightsSpec)

/-- 'tenementlaw04.MacBounds', WHERE WHAT IT READS IS OF BULK AT MOST 1048576: true; the input reads as it did. -/
def macBoundsUptoRow : OpenClaim := { program := "ytlodahlinncpcaadoor", sum := "e3ef854f1a0b068d79466c69a3c442c90eff64ea0c7d3c056ae0b0a5028a95ec", func := "tenement/tenementlaw04.MacBounds", spec := "macBounds", named := ["tenement/sha.thirdRoots"], apart := false, laid := [("tenement/sha.thirdRoots", laid_tenement_sha_thirdRoots)], narrowed := true }
def MacBoundsUptoSaid : Prop := macBoundsUptoRow.holds Tryd.pinned (OpenSpec.upto macBoundsSpec)

/-- 'tenementlaw04.MacLong', WHERE WHAT IT READS IS OF BULK AT MOST 1048576: true; the input reads as it did. -/
def macLongUptoRow : OpenClaim := { program := "ytlodahlinncpcaadoor", sum := "e3ef854f1a0b068d79466c69a3c442c90eff64ea0c7d3c056ae0b0a5028a95ec", func := "tenement/tenementlaw04.MacLong", spec := "macLong", named := ["tenement/sha.thirdRoots"], apart := false, laid := [("tenement/sha.thirdRoots", laid_tenement_sha_thirdRoots)], narrowed := true }
def MacLongUptoSaid : Prop := macLongUptoRow.holds Tryd.pinned (OpenSpec.upto macLongSpec)

end Rows
end Go.Proofs.YtlodahlinncpcaaDoor
