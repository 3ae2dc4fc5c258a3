/- BookOnce's walk, from what comes in. -/
import Derived.Test.YtdgbcdmooklciaaBOn
import Derived.Test.YtdgbcdmooklciaaEns
namespace Go.Proofs.Ytdgbcdmooklciaa
open Go.RowKit
set_option maxRecDepth 100000
theorem wf_of {z : Int} (h : -9223372036854775808 ≤ z ∧ z < 9223372036854775808) : (Lit.int .i64 z).wf = true := by
  show (decide (IntKind.i64.min ≤ _) && decide (_ ≤ IntKind.i64.max)) = true
  rw [show IntKind.i64.min = -9223372036854775808 from rfl, show IntKind.i64.max = 9223372036854775807 from rfl]
  simp only [Bool.and_eq_true, decide_eq_true_eq]
  omega
theorem nums_lst {w : World} {B : Option Addr} {m : Nat} {zs : List Int} (h : Nums w B m zs) : Lst 1 (fun z => [Value.int .i64 z]) (fun _ z => (Lit.int .i64 z).wf = true) w B m zs :=
  ⟨h.1, fun v hv => ⟨rfl, wf_of (h.2.1 v hv)⟩, fun hn => by
    obtain ⟨ad, e, hc⟩ := h.2.2 hn
    refine ⟨ad, e, fun i v hv j x hx => ?_⟩
    rcases j with _ | j
    · simp at hx
      subst hx
      rw [Nat.mul_one]
      exact hc i v hv
    · simp at hx⟩
theorem bookOnce_walk (w : World) (A : Option Addr) (n c : Nat) (l : List RowV) (hl : RowsIn w A n l) (hn : n ≤ c) (hc : c ≤ maxLen) (B : Option Addr) (m d : Nat) (zs : List Int) (hz : Nums w B m zs) (hm : m ≤ d) (hd : d ≤ maxLen)
    (wh : Int) (h1 : -9223372036854775808 ≤ wh) (h2 : wh < 9223372036854775808) (by_ : Int) (h3 : -9223372036854775808 ≤ by_) (h4 : by_ < 9223372036854775808) (mk : Int) (h5 : -9223372036854775808 ≤ mk) (h6 : mk < 9223372036854775808) :
    Calls Try.prog 3 #[.slice A n c, .slice B m d, .int .i64 wh, .int .i64 by_, .int .i64 mk] w fun e w' => e = .returned (.bool true) ∧ Fr [] w w' :=
  bookOnce_walk0 w A n c l hl hn hc B m d zs (nums_lst hz) hm hd wh by_ mk ⟨h1, h2⟩ (wf_of ⟨h3, h4⟩) ⟨h5, h6⟩
end Go.Proofs.Ytdgbcdmooklciaa
