/- stamp: N, Right, Seen, Put. -/
import Derived.Test.YtkiaehehckmpnaaStampMem

namespace Go.Proofs.Ytkiaehehckmpnaa.T

def puts (a : List Nat) (d : Int) : ByteArray := if right a d = true then P.S (put a d) else ⟨#[]⟩
theorem vput_len {a : List Nat} (h : a.length = 4) : (V.put a).length ≤ 40 := by
  obtain ⟨x, y, z, t, rfl⟩ := V.four h
  have h1 := P.vary_le x
  have h2 := P.vary_le y
  have h3 := P.vary_le z
  have h4 := P.vary_le t
  simp only [V.put, List.map_cons, List.map_nil, List.flatten_cons, List.flatten_nil, List.length_append, List.length_nil]
  omega
end Go.Proofs.Ytkiaehehckmpnaa.T

namespace Go.Proofs.Ytkiaehehckmpnaa.Sp

open Go.RowKit Go.Proofs.Ytkiaehehckmpnaa.Vc

set_option linter.unusedVariables false

set_option linter.unusedSimpArgs false

set_option maxRecDepth 100000

end Go.Proofs.Ytkiaehehckmpnaa.Sp
