/- Chapter 8, the program: a tick of a mix. -/
import Derived.Test.YtnppmgnfignbcaaV8N
import Derived.Test.YtnppmgnfignbcaaV8A
import Derived.Test.YtnppmgnfignbcaaV8B
import Derived.Test.YtnppmgnfignbcaaV8D
namespace Go.Proofs.Ytnppmgnfignbcaa
set_option linter.unusedVariables false
set_option maxRecDepth 1000000
set_option linter.unusedSimpArgs false
open Go.RowKit

theorem implTick_c (po so : Option Addr) (n c m d : Nat) (a b t : Int) (xs : List ByteArray) (ys : List Int) (w : World) (hx : xs.length = n) (hy : ys.length = m) (hn : n ≤ 17592186044416) (hm : m ≤ 17592186044416) (hr : RdS w po xs) (hs : Rd w so ys) (hz : ∀ s ∈ xs, s.size ≤ 9223372036854775807) (hnil : so = none → m = 0 ∧ d = 0) :
    Calls Try.prog 31 #[.agg #[.slice po n c, .int .i64 a, .int .i64 b, .int .i64 t, .slice so m d]] w fun e w' => TickOut w w' e (tickF ⟨xs, a, b, t, ys⟩).1 (tickF ⟨xs, a, b, t, ys⟩).2.1 (tickF ⟨xs, a, b, t, ys⟩).2.2 ∧ Below w.heap.size w w' := by
  cases hg : goodB ⟨xs, a, b, t, ys⟩ with
  | false => exact implTick_bad po so n c m d a b t xs ys w hx hy hn hm hr hs hz hnil hg
  | true =>
    by_cases h0 : n = 0
    · exact implTick_none po so n c m d a b t xs ys w hx hy hn hm hr hs hz hnil hg h0
    · by_cases h1 : a ≤ (n : Int)
      · exact implTick_enough po so n c m d a b t xs ys w hx hy hn hm hr hs hz hnil hg h0 h1
      · by_cases h2 : b ≤ min (t + 1) 10
        · exact implTick_old po so n c m d a b t xs ys w hx hy hn hm hr hs hz hnil hg h0 h1 h2
        · exact implTick_wait po so n c m d a b t xs ys w hx hy hn hm hr hs hz hnil hg h0 h1 h2

end Go.Proofs.Ytnppmgnfignbcaa
