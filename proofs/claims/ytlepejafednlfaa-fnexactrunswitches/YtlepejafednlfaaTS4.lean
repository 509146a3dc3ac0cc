/- Texts that are mixed and unmixed: plain functions, and the specification's contracts. -/
import Derived.Test.YtlepejafednlfaaT4
import Derived.Test.YtlepejafednlfaaM4
namespace Go.Proofs.Ytlepejafednlfaa
set_option linter.unusedVariables false
set_option maxRecDepth 1000000
set_option linter.unusedSimpArgs false
open Go.RowKit

/-- The start behind j pairs, and what is written till then. -/
def mixS (ks : List Nat) (s0 : Nat) (s : ByteArray) : Nat → Nat
  | 0 => s0
  | j + 1 => mixN ks (pairN s (2 * j) ^^^ mixS ks s0 s j)
def two (z : Nat) : List Int := [((z / 256 : Nat) : Int), ((z % 256 : Nat) : Int)]
def mixO (ks : List Nat) (s0 : Nat) (s : ByteArray) : Nat → List Int
  | 0 => []
  | j + 1 => mixO ks s0 s j ++ two (mixS ks s0 s (j + 1))
def unS (s0 : Nat) (s : ByteArray) : Nat → Nat
  | 0 => s0
  | j + 1 => pairN s (2 * j)
def unO (ks : List Nat) (s0 : Nat) (s : ByteArray) : Nat → List Int
  | 0 => []
  | j + 1 => unO ks s0 s j ++ two (unmixN ks (pairN s (2 * j)) ^^^ unS s0 s j)
theorem xor_lt {a b : Nat} (ha : a < 65536) (hb : b < 65536) : a ^^^ b < 65536 := Nat.xor_lt_two_pow (n := 16) ha hb
theorem mixS_lt {ks : List Nat} {s0 : Nat} {s : ByteArray} (h : s0 < 65536) : ∀ j, mixS ks s0 s j < 65536
  | 0 => h
  | j + 1 => mixN_lt (xor_lt (pairN_lt _ _) (mixS_lt h j))
theorem unS_lt {s0 : Nat} {s : ByteArray} (h : s0 < 65536) : ∀ j, unS s0 s j < 65536
  | 0 => h
  | j + 1 => pairN_lt _ _
theorem mixO_length (ks : List Nat) (s0 : Nat) (s : ByteArray) : ∀ j, (mixO ks s0 s j).length = 2 * j
  | 0 => rfl
  | j + 1 => by simp [mixO, mixO_length ks s0 s j, two]; omega
theorem unO_length (ks : List Nat) (s0 : Nat) (s : ByteArray) : ∀ j, (unO ks s0 s j).length = 2 * j
  | 0 => rfl
  | j + 1 => by simp [unO, unO_length ks s0 s j, two]; omega

def textG (xs : List Int) (x : Int) (s : ByteArray) : Bool := keysB xs && blockB x && pairsB s
def mixTF (xs : List Int) (x : Int) (s : ByteArray) : ByteArray × Bool := if textG xs x s = true then (strOfNums (mixO (nums xs) x.toNat s (s.size / 2)), true) else (ByteArray.empty, false)
def unmixTF (xs : List Int) (x : Int) (s : ByteArray) : ByteArray × Bool := if textG xs x s = true then (strOfNums (unO (nums xs) x.toNat s (s.size / 2)), true) else (ByteArray.empty, false)

theorem OwnU.form {w : World} {base : Nat} {v : Value} {xs : List Int} (h : OwnU w base v xs) : (v = .slice none 0 0 ∧ xs = []) ∨ ∃ g cap, v = .slice (some ⟨g, 0, none⟩) xs.length cap := by
  rcases h.2 with ⟨h1, h2⟩ | ⟨g, cap, cur, hv, _⟩
  · exact Or.inl ⟨h1, List.length_eq_zero_iff.1 h2⟩
  · exact Or.inr ⟨g, cap, hv⟩
theorem OwnU.cells {w : World} {base g cap : Nat} {xs : List Int} (h : OwnU w base (.slice (some ⟨g, 0, none⟩) xs.length cap) xs) : ∀ j, j < xs.length → w.cell? ⟨g, 0 + j, none⟩ = some (.int .u8 (xs.getD j 0)) := fun j hj => by
  rw [Nat.zero_add, World.ownsRow.cellAt h j (by omega)]
  exact getD_map_u8 xs j hj
/-- A row of bytes becomes a text. -/
theorem OwnU.text {w : World} {base : Nat} {v : Value} {xs : List Int} (h : OwnU w base v xs) : (convert 22 9 v).run Try.prog w = .ok (.string (strOfNums xs)) w := by
  rcases h.form with ⟨rfl, rfl⟩ | ⟨g, cap, rfl⟩
  · exact run_convert_bytes_nil (P := Try.prog) w 22 5 Try.underlying22 Try.underlying5 0 0 9 Try.underlying9
  · exact run_convert_bytes_arg (P := Try.prog) w 22 5 Try.underlying22 Try.underlying5 g 0 xs.length cap xs rfl h.cells 9 Try.underlying9
theorem ownsRow_later {w w' : World} {base t n k : Nat} {v : Value} {l : List Value} (h : w.ownsRow base t n v k l) (hb : Below w.heap.size w w') : w'.ownsRow base t n v k l := by
  refine ⟨h.1, ?_⟩
  rcases h.2 with h2 | ⟨g, cap, cur, hv, hg, hh, r⟩
  · exact Or.inl h2
  · exact Or.inr ⟨g, cap, cur, hv, hg, by rw [hb.block g (Array.getElem?_eq_some_iff.1 hh).1]; exact hh, r⟩
theorem textG_parts {xs : List Int} {x : Int} {s : ByteArray} (h : textG xs x s = true) : keysB xs = true ∧ blockB x = true ∧ pairsB s = true := by
  simpa [textG, and_assoc] using h

end Go.Proofs.Ytlepejafednlfaa
