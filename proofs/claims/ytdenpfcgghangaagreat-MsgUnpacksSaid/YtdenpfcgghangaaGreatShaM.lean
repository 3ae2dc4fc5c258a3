/- Package sha: mix. -/
import Derived.Test.YtdenpfcgghangaaGreatShaS
import Derived.Test.YtdenpfcgghangaaGreatActs
import Derived.Deep.QuietTactic
import Derived.BigQuiet
set_option linter.unusedSimpArgs false
set_option linter.unusedVariables false
namespace Go.Proofs.YtdenpfcgghangaaGreat
set_option maxRecDepth 100000
open Go.RowKit
structure St.Nn (s : St) : Prop where
 a : 0 ≤ s.a
 b : 0 ≤ s.b
 c : 0 ≤ s.c
 d : 0 ≤ s.d
 e : 0 ≤ s.e
 f : 0 ≤ s.f
 g : 0 ≤ s.g
 h : 0 ≤ s.h
theorem St.len (s : St) : s.list.length = 8 := rfl
end Go.Proofs.YtdenpfcgghangaaGreat
