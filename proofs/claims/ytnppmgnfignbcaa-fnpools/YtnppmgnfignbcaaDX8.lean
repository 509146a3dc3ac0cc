/- What chapter 8 draws: a mix, its loops. -/
import Derived.Test.YtnppmgnfignbcaaF8Q
import Derived.Test.YtnppmgnfignbcaaPU8
namespace Go.Proofs.Ytnppmgnfignbcaa
set_option linter.unusedVariables false
set_option maxRecDepth 1000000
set_option linter.unusedSimpArgs false
open Go.RowKit

/-- Where the draw of a mix stands: the mix in its box ρ, the result's box still empty, the cursor. -/
def MxS (w wr : World) (g ρ : Nat) (ao : Option Addr) (n c : Nat) (M : Int) (z : MixV) (p : Option Addr) (k : Nat) (s : Option Addr) (d : Nat) : Prop :=
  (C5 wr ρ (.slice p z.pool.length k) z.least z.wait z.old (.slice s z.seen.length d) ∧ MixOwn wr (ρ + 1) p k s d z) ∧ C5 wr w.heap.size (.slice none 0 0) 0 0 0 (.slice none 0 0) ∧ (Cur wr g ao n c M ∧ GB g w wr) ∧ (ρ + 1 ≤ wr.heap.size ∧ w.heap.size < ρ) ∧ g < w.heap.size ∧ Old ao n w.heap.size
theorem MxS.later {w wr wr' : World} {g ρ n c k d : Nat} {ao p s : Option Addr} {M : Int} {z : MixV} (h : MxS w wr g ρ ao n c M z p k s d) (hb : Below wr.heap.size wr wr') : MxS w wr' g ρ ao n c M z p k s d := by
  obtain ⟨⟨h1, h2⟩, h3, ⟨h4, h5⟩, ⟨h6, h7⟩, h8⟩ := h
  exact ⟨⟨h1.later hb, h2.later hb⟩, h3.later hb, ⟨h4.later hb, h5.trans (GB.of_below hb (Nat.le_refl _))⟩, ⟨Nat.le_trans h6 hb.size, h7⟩, h8⟩
theorem MxS.gb {w wr wr' : World} {g ρ n c k d : Nat} {ao p s : Option Addr} {M M' : Int} {z : MixV} (h : MxS w wr g ρ ao n c M z p k s d) (hg : GB g wr wr') (hc : Cur wr' g ao n c M') : MxS w wr' g ρ ao n c M' z p k s d := by
  obtain ⟨⟨h1, h2⟩, h3, ⟨h4, h5⟩, ⟨h6, h7⟩, h8, h9⟩ := h
  exact ⟨⟨h1.grown hg (by simp; omega), ⟨h2.op.kept hg (sepS h2.op (by omega)), h2.os.kept hg (sep_own h2.os (by omega))⟩⟩, h3.grown hg (by simp; omega), ⟨hc, h5.trans hg⟩, ⟨Nat.le_trans h6 hg.size, h7⟩, h8, h9⟩
theorem MxS.put {w wr : World} {g ρ n c k d k' d' : Nat} {ao p s p' s' : Option Addr} {M : Int} {z z' : MixV} (h : MxS w wr g ρ ao n c M z p k s d) (ho : MixOwn wr (ρ + 1) p' k' s' d' z') : MxS w (put5 wr ρ (.slice p' z'.pool.length k') z'.least z'.wait z'.old (.slice s' z'.seen.length d')) g ρ ao n c M z' p' k' s' d' := by
  obtain ⟨⟨h1, h2⟩, h3, ⟨h4, h5⟩, ⟨h6, h7⟩, h8, h9⟩ := h
  have hg := put5_grown wr ρ (.slice p' z'.pool.length k') z'.least z'.wait z'.old (.slice s' z'.seen.length d')
  exact ⟨⟨h1.put _ _ _ _ _, ⟨ho.op.putBox (by omega) _ _ _ _ _, ho.os.putBox (by omega) _ _ _ _ _⟩⟩, h3.grown hg (by simp; omega), ⟨h4.grown hg (fun k hk => by simp at hk; omega) h8 h9, h5.grown hg (fun k hk => by simp at hk; omega)⟩, ⟨Nat.le_trans h6 hg.size, h7⟩, h8, h9⟩

end Go.Proofs.Ytnppmgnfignbcaa
