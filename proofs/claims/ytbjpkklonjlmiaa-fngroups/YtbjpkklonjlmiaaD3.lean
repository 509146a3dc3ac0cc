/- The cursor that drawn numbers come from: next, pick, one, among. Nothing is said of a number but its bounds; nothing turns but the cursor's own block. -/
import Derived.Test.YtbjpkklonjlmiaaChecked
import Derived.WalkKit
import Derived.WalkSpells
import Derived.WalkLawsBesides
import Derived.Deep.QuietTactic
import Derived.BigQuiet
import Derived.BigRegion
import Derived.Deep.AppendLies
import Derived.Laws.Bits64b
namespace Go.Proofs.Ytbjpkklonjlmiaa
set_option linter.unusedVariables false
set_option maxRecDepth 1000000
set_option linter.unusedSimpArgs false
open Go.RowKit

/-- Nothing but block g has turned. -/
abbrev GB (g : Nat) (w w' : World) : Prop := w.grownBy w' (some g)

theorem GB.trans {g : Nat} {w w1 w2 : World} (h : GB g w w1) (h2 : GB g w1 w2) : GB g w w2 :=
  ⟨h2.os.trans h.os, h2.tape.trans h.tape, h2.output.trans h.output, Nat.le_trans h.size h2.size, fun q hq hne => (h2.block q (Nat.lt_of_lt_of_le hq h.size) hne).trans (h.block q hq hne)⟩
theorem GB.refl (g : Nat) (w : World) : GB g w w := World.grownBy.refl _ _
theorem GB.of_below {g B : Nat} {w w' : World} (h : Below B w w') (hB : w.heap.size ≤ B) : GB g w w' := ⟨h.os, h.tape, h.output, h.size, fun q hq _ => h.block q (Nat.lt_of_lt_of_le hq hB)⟩
theorem GB.below {g B : Nat} {w w' : World} (h : GB g w w') (hB : B ≤ w.heap.size) (hg : B ≤ g) : Below B w w' := ⟨h.os, h.tape, h.output, h.size, fun q hq => h.block q (by omega) (fun e => by simp at e; omega)⟩

/-- The bytes of a slice, each in its bounds, outside block g. -/
def CodeOk (w : World) (g : Nat) (ao : Option Addr) (n : Nat) : Prop := n = 0 ∨ ∃ b off, ao = some ⟨b, off, none⟩ ∧ b ≠ g ∧ ∃ f : Nat → Int, ∀ j, j < n → w.cell? ⟨b, off + j, none⟩ = some (.int .u8 (f j)) ∧ 0 ≤ f j ∧ f j ≤ 255

theorem CodeOk.kept {w w' : World} {g : Nat} {ao : Option Addr} {n : Nat} (h : CodeOk w g ao n) (hg : GB g w w') : CodeOk w' g ao n := by
  rcases h with h | ⟨b, off, rfl, hne, f, hf⟩
  · exact Or.inl h
  · exact Or.inr ⟨b, off, rfl, hne, f, fun j hj => ⟨hg.cell (a := ⟨b, off + j, none⟩) (hf j hj).1 (fun e => hne (by simpa using e)), (hf j hj).2⟩⟩

/-- A cursor in block g over a slice of bytes; at most M have been taken. -/
structure Cur (w : World) (g : Nat) (ao : Option Addr) (n c : Nat) (M : Int) : Prop where
  hn : n ≤ 9223372036854775807
  code : CodeOk w g ao n
  slice : w.cell? ⟨g, 0, none⟩ = some (.slice ao n c)
  at' : ∃ z : Int, 0 ≤ z ∧ z ≤ M ∧ w.cell? ⟨g, 1, none⟩ = some (.int .i64 z)
  seed : ∃ z : Int, w.cell? ⟨g, 2, none⟩ = some (.int .u64 z)
  free : ∀ j, w.frozen? ⟨g, j, none⟩ = false

theorem Cur.mono {w : World} {g : Nat} {ao : Option Addr} {n c : Nat} {M M' : Int} (h : Cur w g ao n c M) (hM : M ≤ M') : Cur w g ao n c M' :=
  ⟨h.hn, h.code, h.slice, by obtain ⟨z, h0, h1, h2⟩ := h.at'; exact ⟨z, h0, by omega, h2⟩, h.seed, h.free⟩

/-- A cursor stays where other blocks turn. -/
theorem Cur.later {w w' : World} {g : Nat} {ao : Option Addr} {n c : Nat} {M : Int} (h : Cur w g ao n c M) (hb : Below w.heap.size w w') : Cur w' g ao n c M := by
  have hlt := World.block_lt_of_cell? _ _ h.slice
  refine ⟨h.hn, ?_, by rw [hb.cell (p := ⟨g, 0, none⟩) hlt]; exact h.slice, ?_, ?_, fun j => by rw [hb.frozen (p := ⟨g, j, none⟩) hlt]; exact h.free j⟩
  · rcases h.code with h1 | ⟨b, off, rfl, hne, f, hf⟩
    · exact Or.inl h1
    · exact Or.inr ⟨b, off, rfl, hne, f, fun j hj => ⟨by rw [hb.cell (p := ⟨b, off + j, none⟩) (World.block_lt_of_cell? _ _ (hf j hj).1)]; exact (hf j hj).1, (hf j hj).2⟩⟩
  · obtain ⟨z, h0, h1, h2⟩ := h.at'
    exact ⟨z, h0, h1, by rw [hb.cell (p := ⟨g, 1, none⟩) hlt]; exact h2⟩
  · obtain ⟨z, h2⟩ := h.seed
    exact ⟨z, by rw [hb.cell (p := ⟨g, 2, none⟩) hlt]; exact h2⟩

theorem GB.setCell {g : Nat} {w w' : World} (h : GB g w w') (j : Nat) (v : Value) : GB g w (w'.setCell ⟨g, j, none⟩ v) :=
  GB.trans h ⟨rfl, rfl, rfl, (Below.setCell (Below.refl 0 w') (Nat.zero_le _) v).size, fun k _ hk => Below.heap_setCell _ _ _ k (fun e => hk (by rw [e]))⟩
theorem GB.drewN {g : Nat} {w w' : World} (h : GB g w w') (k : Nat) : GB g w (w'.drewN k) :=
  GB.trans h (GB.of_below (below_drewN (Below.refl _ _) k) (Nat.le_refl _))
theorem GB.drew {g : Nat} {w w' : World} (h : GB g w w') : GB g w w'.drew :=
  GB.trans h (GB.of_below (Below.refl _ _).drew (Nat.le_refl _))

/-- The cursor behind one step. -/
theorem cur_step {w : World} {g : Nat} {ao : Option Addr} {n c : Nat} {M : Int} (h : Cur w g ao n c M) (a b : Nat) (z s : Int) (h0 : 0 ≤ z) (h1 : z ≤ M + 1) :
    Cur ((((w.drewN a).setCell ⟨g, 1, none⟩ (.int .i64 z)).setCell ⟨g, 2, none⟩ (.int .u64 s)).drewN b) g ao n c (M + 1) ∧ GB g w ((((w.drewN a).setCell ⟨g, 1, none⟩ (.int .i64 z)).setCell ⟨g, 2, none⟩ (.int .u64 s)).drewN b) := by
  have hg : GB g w ((((w.drewN a).setCell ⟨g, 1, none⟩ (.int .i64 z)).setCell ⟨g, 2, none⟩ (.int .u64 s)).drewN b) := ((((GB.refl g w).drewN a).setCell 1 _).setCell 2 _).drewN b
  obtain ⟨z0, _, _, c1⟩ := h.at'
  obtain ⟨s0, c2⟩ := h.seed
  have c0 := h.slice
  have hf := h.free
  refine ⟨⟨h.hn, h.code.kept hg, ?_, ⟨z, h0, h1, ?_⟩, ⟨s, ?_⟩, fun j => ?_⟩, hg⟩
  · have h2 : (((w.drewN a).setCell ⟨g, 1, none⟩ (.int .i64 z)).setCell ⟨g, 2, none⟩ (.int .u64 s)).cell? ⟨g, 0, none⟩ = some (.slice ao n c) := by
      rw [World.cell?_setCell_other _ _ _ _ (by simp), World.cell?_setCell_other _ _ _ _ (by simp)]
      exact c0
    exact h2
  · have h2 : (((w.drewN a).setCell ⟨g, 1, none⟩ (.int .i64 z)).setCell ⟨g, 2, none⟩ (.int .u64 s)).cell? ⟨g, 1, none⟩ = some (.int .i64 z) := by
      rw [World.cell?_setCell_other _ _ _ _ (by simp)]
      exact World.cell?_setCell_same _ _ _ (u := .int .i64 z0) c1
    exact h2
  · have h2 : (((w.drewN a).setCell ⟨g, 1, none⟩ (.int .i64 z)).setCell ⟨g, 2, none⟩ (.int .u64 s)).cell? ⟨g, 2, none⟩ = some (.int .u64 s) := by
      refine World.cell?_setCell_same _ _ _ (u := .int .u64 s0) ?_
      rw [World.cell?_setCell_other _ _ _ _ (by simp)]
      exact c2
    exact h2
  · simp [hf j]

theorem and255 (x : Int) (h0 : 0 ≤ x) (h1 : x < 18446744073709551616) : 0 ≤ bits BinOp.and IntKind.u64 x 255 ∧ bits BinOp.and IntKind.u64 x 255 ≤ 255 := by
  have h := bits_and_u64_nat x.toNat 255 (by omega) (by omega)
  rw [Int.toNat_of_nonneg h0] at h
  have h2 : x.toNat &&& 255 ≤ 255 := Nat.and_le_right
  have e : ((255 : Nat) : Int) = 255 := rfl
  rw [e] at h
  rw [h]
  omega

theorem wrap_u64_range (x : Int) : 0 ≤ IntKind.u64.wrap x ∧ IntKind.u64.wrap x < 18446744073709551616 := by
  rw [IntKind.wrap_u64]; omega

set_option maxHeartbeats 1000000 in
theorem next_c (g : Nat) (ao : Option Addr) (n c : Nat) (M : Int) (w : World) (hM : M ≤ 4000000000000000000) (h : Cur w g ao n c M) :
    Calls Try.prog 58 #[.pointer (some ⟨g, 0, none⟩)] w fun e w' => ∃ z : Int, e = .returned (.int .i64 z) ∧ 0 ≤ z ∧ z ≤ 255 ∧ Cur w' g ao n c (M + 1) ∧ GB g w w' := by
  obtain ⟨at0, h0, h1, c1⟩ := h.at'
  obtain ⟨sd, c2⟩ := h.seed
  have c0 := h.slice
  have f0 := h.free 0
  have f1 := h.free 1
  have f2 := h.free 2
  have hn := h.hn
  have HC : Hid (Cur w g ao n c M) := h
  clear h
  by_cases hlt : at0 < (n : Int)
  · rcases HC.out.code with hz | ⟨b, off, rfl, hne, f, hf⟩
    · omega
    obtain ⟨k, rfl⟩ : ∃ k : Nat, at0 = k := ⟨at0.toNat, by omega⟩
    obtain ⟨g1, g2, g3⟩ := hf k (by omega)
    generalize f k = y at g1 g2 g3
    clear hf
    have k1 : (k : Int) + 1 ≤ (n : Int) := by omega
    go_enter Try.func58, Try.ntmps58
    go_wp2_with fail
    go_quiet (fail)
    go_wp2_with fail
    first | go_quiet (fail) | go_region
    go_wp2_with fail
    go_quiet (fail)
    go_wp2
    go_ret
    have q := fun a b s => cur_step HC.out a b ((k : Int) + 1) s (by omega) (by omega)
    refine ⟨y, rfl, g2, g3, ?_, ?_⟩
    · with_reducible exact (q _ _ _).1
    · with_reducible exact (q _ _ _).2
  · have hnlt : ¬ at0 < (n : Int) := hlt
    have k1 : ¬ at0 + 1 ≤ (n : Int) := by omega
    clear hlt
    go_enter Try.func58, Try.ntmps58
    go_wp2_with fail
    go_quiet (fail)
    go_wp2_with fail
    go_quiet (fail)
    go_wp2
    go_ret
    have q := fun a b s => cur_step HC.out a b (at0 + 1) s (by omega) (by omega)
    have hw := wrap_u64_range (IntKind.u64.wrap (IntKind.u64.wrap (sd * 6364136223846793005)) + 1442695040888963407)
    have ha := and255 (IntKind.u64.wrap (IntKind.u64.wrap (IntKind.u64.wrap (sd * 6364136223846793005)) + 1442695040888963407) / 1099511627776) (by omega) (by omega)
    refine ⟨_, rfl, ?_, ?_, ?_, ?_⟩
    · generalize bits BinOp.and IntKind.u64 _ 255 = v at ha ⊢
      unfold wrap64
      omega
    · generalize bits BinOp.and IntKind.u64 _ 255 = v at ha ⊢
      unfold wrap64
      omega
    · with_reducible exact (q _ _ _).1
    · with_reducible exact (q _ _ _).2

set_option maxHeartbeats 1000000 in
theorem pick_c (g : Nat) (ao : Option Addr) (n c : Nat) (M k : Int) (w : World) (hM : M ≤ 3000000000000000000) (hk : 1 ≤ k ∧ k ≤ 1000000) (h : Cur w g ao n c M) :
    Calls Try.prog 32 #[.pointer (some ⟨g, 0, none⟩), .int .i64 k] w fun e w' => ∃ z : Int, e = .returned (.int .i64 z) ∧ 0 ≤ z ∧ z < k ∧ Cur w' g ao n c (M + 2) ∧ GB g w w' := by
  have HC : Hid (Cur w g ao n c M) := h
  obtain ⟨hk1, hk2⟩ := hk
  clear h
  by_cases h1 : k ≤ 1
  · go_enter Try.func32, Try.ntmps32
    go_wp2
    go_ret
    exact ⟨0, rfl, by omega, by omega, HC.out.mono (by omega), GB.refl _ _⟩
  · by_cases h2 : k ≤ 200
    · have h3 : ¬ (200 : Int) < k := by omega
      have h4 : k ≠ 0 := by omega
      go_enter Try.func32, Try.ntmps32
      go_wp2_with (go_at_call 58; refine (next_c g ao n c M _ (by omega) HC.out).mono ?_; rintro e w1 ⟨z, rfl, hz0, hz1, hc1, hg1⟩; have HC1 : Hid (Cur w1 g ao n c (M + 1)) := hc1; have HG1 : Hid (GB g w w1) := hg1; clear hc1 hg1 HC)
      go_ret
      have e1 := Int.emod_nonneg z (show k ≠ 0 by omega)
      have e2 := Int.emod_lt_of_pos z (show 0 < k by omega)
      exact ⟨z % k, rfl, e1, e2, HC1.out.mono (by omega), HG1.out⟩
    · have h3 : (200 : Int) < k := by omega
      have h4 : k ≠ 0 := by omega
      have tok1 : True := trivial
      go_enter Try.func32, Try.ntmps32
      go_wp2_with (first | (go_at_call 58; have _t := tok1; refine (next_c g ao n c M _ (by omega) HC.out).mono ?_; rintro e w1 ⟨z, rfl, hz0, hz1, hc1, hg1⟩; have HC1 : Hid (Cur w1 g ao n c (M + 1)) := hc1; have HG1 : Hid (GB g w w1) := hg1; clear hc1 hg1 HC tok1 _t) | (go_at_call 58; refine (next_c g ao n c (M + 1) _ (by omega) HC1.out).mono ?_; rintro e w2 ⟨z2, rfl, hy0, hy1, hc2, hg2⟩; have HC2 : Hid (Cur w2 g ao n c (M + 1 + 1)) := hc2; have HG2 : Hid (GB g w w2) := HG1.out.trans hg2; clear hc2 hg2 HC1 HG1))
      go_ret
      have e1 := Int.emod_nonneg (z * 256 + z2) (show k ≠ 0 by omega)
      have e2 := Int.emod_lt_of_pos (z * 256 + z2) (show 0 < k by omega)
      exact ⟨(z * 256 + z2) % k, rfl, e1, e2, HC2.out.mono (by omega), HG2.out⟩

theorem one_c (g : Nat) (ao : Option Addr) (n c : Nat) (M k : Int) (w : World) (hM : M ≤ 3000000000000000000) (hk : 1 ≤ k ∧ k ≤ 1000000) (h : Cur w g ao n c M) :
    Calls Try.prog 56 #[.pointer (some ⟨g, 0, none⟩), .int .i64 k] w fun e w' => ∃ z : Bool, e = .returned (.bool z) ∧ Cur w' g ao n c (M + 2) ∧ GB g w w' := by
  have HC : Hid (Cur w g ao n c M) := h
  clear h
  go_enter Try.func56, Try.ntmps56
  go_wp2_with (go_at_call 32; refine (pick_c g ao n c M k _ hM hk HC.out).mono ?_; rintro e w1 ⟨z, rfl, hz0, hz1, hc1, hg1⟩; have HC1 : Hid (Cur w1 g ao n c (M + 2)) := hc1; have HG1 : Hid (GB g w w1) := hg1; clear hc1 hg1 HC)
  go_ret
  exact ⟨z == 0, rfl, HC1.out, HG1.out⟩

/-- A slice of k ints at block r, of which one is taken. -/
theorem among_c (g : Nat) (ao : Option Addr) (n c : Nat) (M : Int) (r k : Nat) (xs : List Int) (w : World) (hM : M ≤ 3000000000000000000) (hk : 1 ≤ k ∧ k ≤ 1000) (hx : xs.length = k) (hc : ∀ j, j < k → w.cell? ⟨r, j, none⟩ = some (.int .i64 (xs.getD j 0))) (hrg : r ≠ g) (h : Cur w g ao n c M) :
    Calls Try.prog 57 #[.pointer (some ⟨g, 0, none⟩), .slice (some ⟨r, 0, none⟩) k k] w fun e w' => ∃ z : Int, e = .returned (.int .i64 z) ∧ z ∈ xs ∧ Cur w' g ao n c (M + 2) ∧ GB g w w' := by
  have HC : Hid (Cur w g ao n c M) := h
  have HX : Hid (xs.length = k) := hx
  have HR : Hid (∀ j, j < k → w.cell? ⟨r, j, none⟩ = some (.int .i64 (xs.getD j 0))) := hc
  obtain ⟨hk1, hk2⟩ := hk
  have kk : (1 : Int) ≤ (k : Int) ∧ (k : Int) ≤ 1000000 := by omega
  have hne : ¬ some r = some g := by simpa using hrg
  have HNE : Hid (¬ some r = some g) := hne
  clear h hx hc hne hrg
  go_enter Try.func57, Try.ntmps57
  go_wp2_with (go_at_call 32; refine (pick_c g ao n c M k _ hM kk HC.out).mono ?_; rintro e w1 ⟨z, rfl, hz0, hz1, hc1, hg1⟩; have HC1 : Hid (Cur w1 g ao n c (M + 2)) := hc1; have HG1 : Hid (GB g w w1) := hg1; obtain ⟨j, rfl⟩ : ∃ j : Nat, z = j := ⟨z.toNat, by omega⟩; have q1 : w1.cell? ⟨r, j, none⟩ = some (.int .i64 (xs.getD j 0)) := (by have h := hg1.cell (a := ⟨r, j, none⟩) (HR.out j (by omega)) HNE.out; simpa using h); have HM : Hid (xs.getD j 0 ∈ xs) := (by show xs.getD j 0 ∈ xs; have hj : j < xs.length := (by rw [HX.out]; omega); simp only [List.getD, List.getElem?_eq_getElem hj, Option.getD_some]; exact List.getElem_mem _); generalize xs.getD j 0 = y at q1 HM; clear hc1 hg1 HC)
  go_ret
  exact ⟨y, rfl, HM.out, HC1.out, HG1.out⟩

/-- Cells of a literal of ints, each of which is P. -/
def allP (P : Int → Prop) : List Value → Prop
  | [] => True
  | .int .i64 y :: r => P y ∧ allP P r
  | _ :: _ => False

theorem allP_at {P : Int → Prop} : ∀ {l : List Value} {j : Nat}, allP P l → j < l.length → ∃ y, l[j]? = some (.int .i64 y) ∧ P y
  | .int .i64 y :: r, 0, h, _ => ⟨y, rfl, h.1⟩
  | .int .i64 y :: r, j + 1, h, hj => by
    obtain ⟨y', h1, h2⟩ := allP_at (j := j) h.2 (by simpa using hj)
    exact ⟨y', by simpa using h1, h2⟩

theorem lit_cells (P : Int → Prop) (w : World) (cs : Array Value) (t : TypeId) (k : Nat) (hk : cs.size = k) (h : allP P cs.toList) : ∀ j, j < k → ∃ y, (w.alloc (.cells cs t)).cell? ⟨w.heap.size, j, none⟩ = some (.int .i64 y) ∧ P y := fun j hj => by
  obtain ⟨y, h1, h2⟩ := allP_at (j := j) h (by simpa [← hk] using hj)
  refine ⟨y, ?_, h2⟩
  rw [World.cell?_alloc_new]
  · simpa using h1

/-- One of a literal's ints, each of which is P. -/
theorem among_p (P : Int → Prop) (g : Nat) (ao : Option Addr) (n c : Nat) (M : Int) (r k : Nat) (w : World) (hM : M ≤ 3000000000000000000) (hk : 1 ≤ k ∧ k ≤ 1000) (hc : ∀ j, j < k → ∃ y, w.cell? ⟨r, j, none⟩ = some (.int .i64 y) ∧ P y) (hrg : r ≠ g) (h : Cur w g ao n c M) :
    Calls Try.prog 57 #[.pointer (some ⟨g, 0, none⟩), .slice (some ⟨r, 0, none⟩) k k] w fun e w' => ∃ z : Int, e = .returned (.int .i64 z) ∧ P z ∧ Cur w' g ao n c (M + 2) ∧ GB g w w' := by
  refine (among_c g ao n c M r k ((List.range k).map fun j => if hj : j < k then Classical.choose (hc j hj) else 0) w hM hk (by simp) (fun j hj => ?_) hrg h).mono ?_
  · have := (Classical.choose_spec (hc j hj)).1
    rw [this]
    simp [List.getD, hj]
  · rintro e w' ⟨z, rfl, hz, h1, h2⟩
    refine ⟨z, rfl, ?_, h1, h2⟩
    obtain ⟨j, hj, rfl⟩ := List.mem_map.1 hz
    have hj := List.mem_range.1 hj
    rw [dif_pos hj]
    exact (Classical.choose_spec (hc j hj)).2

/-- A new cursor. -/
theorem cur_new {w : World} {ao : Option Addr} {n c : Nat} (t : TypeId) (hn : n ≤ 9223372036854775807) (h : CodeOk w w.heap.size ao n) : Cur (w.alloc (.cells #[.slice ao n c, .int .i64 0, .int .u64 0] t)) w.heap.size ao n c 0 := by
  refine ⟨hn, h.kept (World.grownBy_alloc _ _ _), by simp, ⟨0, by omega, by omega, by simp⟩, ⟨0, by simp⟩, fun j => ?_⟩
  rw [World.frozen?_alloc_at _ _ _ _ rfl]

theorem CodeOk.later {w w' : World} {g g' : Nat} {ao : Option Addr} {n : Nat} (h : CodeOk w g ao n) (hb : Below w.heap.size w w') (hg : w.heap.size ≤ g') : CodeOk w' g' ao n := by
  rcases h with h1 | ⟨b, off, rfl, hne, f, hf⟩
  · exact Or.inl h1
  · by_cases hn : n = 0
    · exact Or.inl hn
    · have hlt := World.block_lt_of_cell? _ _ (hf 0 (by omega)).1
      refine Or.inr ⟨b, off, rfl, by simp at hlt; omega, f, fun j hj => ⟨?_, (hf j hj).2⟩⟩
      rw [hb.cell (p := ⟨b, off + j, none⟩) (World.block_lt_of_cell? _ _ (hf j hj).1)]
      exact (hf j hj).1

theorem Cur.alloc {w : World} {g : Nat} {ao : Option Addr} {n c : Nat} {M : Int} (h : Cur w g ao n c M) (o : Obj) : Cur (w.alloc o) g ao n c M := h.later ((Below.refl _ _).alloc (Nat.le_refl _) _)
theorem Cur.lt {w : World} {g : Nat} {ao : Option Addr} {n c : Nat} {M : Int} (h : Cur w g ao n c M) : g < w.heap.size := World.block_lt_of_cell? _ _ h.slice
theorem GB.alloc {g : Nat} {w w' : World} (h : GB g w w') (o : Obj) : GB g w (w'.alloc o) := GB.trans h (World.grownBy_alloc _ _ _)

end Go.Proofs.Ytbjpkklonjlmiaa
