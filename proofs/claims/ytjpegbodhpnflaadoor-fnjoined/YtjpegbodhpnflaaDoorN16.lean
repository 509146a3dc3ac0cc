/- Chapter 16: the numbers of a window, read off the text of its bits. -/
import Derived.Test.YtjpegbodhpnflaaDoorF16
import Derived.Lib.OthersKept
import Derived.Deep.AppendLies
import Derived.Lib.SliceRun
namespace Go.Proofs.YtjpegbodhpnflaaDoor
set_option linter.unusedVariables false
set_option maxRecDepth 1000000
set_option linter.unusedSimpArgs false
open Go.RowKit

def wr64 (x : Int) : Int := IntKind.i64.wrap x
/-- The numbers told by the first p signs, the first of them saying c. -/
def SLp (c : Int) (L : Bs) : Nat → List Int
  | 0 => []
  | p + 1 => SLp c L p ++ (if L.getD p 0 = 49 then [wr64 (c + (p : Int))] else [])

theorem SLp_app (c : Int) (L M : Bs) : ∀ p, p ≤ L.length → SLp c (L ++ M) p = SLp c L p
  | 0, _ => rfl
  | p + 1, h => by
    rw [SLp, SLp, SLp_app c L M p (by omega)]
    have : (L ++ M).getD p 0 = L.getD p 0 := by rw [List.getD, List.getD, List.getElem?_append_left (by omega)]
    rw [this]
theorem dg_49 (v : Nat) : (dg v = 49) = (v % 2 = 1) := by
  unfold dg
  split <;> rename_i h
  · simp [h]
  · simp [h]
theorem SLp_bin (c : Int) : ∀ (f v : Nat), v < 2 ^ (f + 1) → SLp c (binF f v) (binF f v).length = (RL (f + 1) v (c + ((binF f v).length : Int) - 1)).map wr64
  | 0, v, h => by
    show [] ++ (if ([dg v] : Bs).getD 0 0 = 49 then [wr64 (c + ((0 : Nat) : Int))] else []) = (RL 1 v (c + ((1 : Nat) : Int) - 1)).map wr64
    rw [List.nil_append, show ([dg v] : Bs).getD 0 0 = dg v from rfl]
    simp only [RL, dg_49, List.nil_append]
    split
    · simp only [List.map_cons, List.map_nil]
      congr 2; omega
    · rfl
  | f + 1, v, h => by
    rw [binF]
    by_cases h2 : v < 2
    · rw [if_pos h2]
      show [] ++ (if ([dg v] : Bs).getD 0 0 = 49 then [wr64 (c + ((0 : Nat) : Int))] else []) = (RL (f + 1 + 1) v (c + ((1 : Nat) : Int) - 1)).map wr64
      rw [List.nil_append, show ([dg v] : Bs).getD 0 0 = dg v from rfl, RL, show v / 2 = 0 by omega, RL_zero]
      simp only [dg_49, List.nil_append]
      split
      · simp only [List.map_cons, List.map_nil]
        congr 2; omega
      · rfl
    · rw [if_neg h2, List.length_append]
      show SLp c _ ((binF f (v / 2)).length + 1) = _
      rw [SLp, SLp_app _ _ _ _ (Nat.le_refl _), SLp_bin c f (v / 2) (by rw [Nat.pow_succ] at h; omega)]
      have e1 : (binF f (v / 2) ++ [dg (v % 2)]).getD (binF f (v / 2)).length 0 = dg (v % 2) := by simp [List.getD]
      have e2 : (c + (((binF f (v / 2)).length + ([dg (v % 2)] : Bs).length : Nat) : Int) - 1) = c + ((binF f (v / 2)).length : Int) := by simp; omega
      rw [e1, e2]
      conv => rhs; rw [RL]
      rw [List.map_append]
      simp only [dg_49, Nat.mod_mod]
      congr 1
      split <;> rfl
theorem binF_len : ∀ (f v : Nat), (binF f v).length ≤ f + 1
  | 0, v => Nat.le_refl _
  | f + 1, v => by
    rw [binF]
    split
    · simp
    · have := binF_len f (v / 2)
      simp; omega
theorem binF_pos : ∀ (f v : Nat), 1 ≤ (binF f v).length
  | 0, v => Nat.le_refl _
  | f + 1, v => by
    rw [binF]
    split <;> simp
theorem dg_two (v : Nat) : dg v = 48 ∨ dg v = 49 := by unfold dg; split <;> simp
theorem binF_two : ∀ (f v : Nat), ∀ x ∈ binF f v, x = 48 ∨ x = 49
  | 0, v, x, h => by simp only [binF, List.mem_singleton] at h; rw [h]; exact dg_two v
  | f + 1, v, x, h => by
    rw [binF] at h
    split at h
    · simp only [List.mem_singleton] at h; rw [h]; exact dg_two v
    · rcases List.mem_append.1 h with h | h
      · exact binF_two f _ x h
      · simp only [List.mem_singleton] at h; rw [h]; exact dg_two _

theorem own_iter {w : World} {base : Nat} {v : Value} {xs : List Int} {k : Nat} {s : ByteArray} {p q : Nat} (h : Own w base v xs) (hk : w.heap[k]? = some (.stringIter s p)) : Own (w.iterAt k s q) base v xs := by
  refine h.kept (row := some k) ⟨rfl, rfl, rfl, by rw [Lib.iterAt_size]; exact Nat.le_refl _, fun j _ hj => Lib.iterAt_other w k j s q (fun e => hj (by rw [e]))⟩ ?_
  rcases h.2 with ⟨rfl, _⟩ | ⟨g, cap, cur, rfl, _, hg, _⟩
  · exact Or.inl (by simp [Value.ownBlock])
  · refine Or.inr fun e => ?_
    simp only [Value.ownBlock, Option.some.injEq] at e
    subst e
    rw [hg] at hk
    simp at hk

theorem own_iter_ne {w : World} {base : Nat} {v : Value} {xs : List Int} {k : Nat} {s : ByteArray} {p : Nat} (h : Own w base v xs) (hk : w.heap[k]? = some (.stringIter s p)) : v.ownBlock ≠ some k := by
  rcases h.2 with ⟨rfl, _⟩ | ⟨g, cap, cur, rfl, _, hg, _⟩
  · simp [Value.ownBlock]
  · intro e
    simp only [Value.ownBlock, Option.some.injEq] at e
    subst e
    rw [hg] at hk
    simp at hk

/-- A number is put behind a row of numbers. -/
theorem pushR_run (w : World) (base : Nat) (v : Value) (xs : List Int) (x : Int) (hown : Own w base v xs) (hl : xs.length ≤ 1000) (hb : base ≤ w.heap.size) :
    ∃ g cap w', (∀ ty, (Builtin.append_ #[64, 64] ty #[v, .slice (some ⟨w.heap.size, 0, none⟩) 1 1]).run Tryd.prog (w.alloc (.cells #[.int .i64 x] 3)) = .ok (.slice (some ⟨g, 0, none⟩) (xs.length + 1) cap) w') ∧ Own w' base (.slice (some ⟨g, 0, none⟩) (xs.length + 1) cap) (xs ++ [x]) ∧ w.grownBy w' v.ownBlock ∧ (v.ownBlock = some g ∨ g = w.heap.size + 1) ∧ g < w'.heap.size := by
  obtain ⟨i0, hi, hz0, hz1, hz2⟩ := info_parts Tryd.infoInt
  have hsz : (w.alloc (.cells #[.int .i64 x] 3)).heap.size = w.heap.size + 1 := by simp
  have ho2 : Own (w.alloc (.cells #[.int .i64 x] 3)) base v xs := hown.later (balloc w _)
  have hnew : ∀ j u, ([Value.int .i64 x] : List Value)[j]? = some u → (w.alloc (.cells #[.int .i64 x] 3)).cell? ((⟨w.heap.size, 0, none⟩ : Addr).add j) = some u := cell_new1 w _ _
  obtain ⟨g, cap, w', hrun, how, hg, hgg, hlt⟩ := run_append_lies (P := Tryd.prog) (w := w.alloc (.cells #[.int .i64 x] 3)) 64 64 base 3 i0 (.int .i64 0) 1 8 Tryd.underlying64 hi hz0 hz1 hz2 rfl (by decide) v xs.length (cellsI xs) ho2 ⟨w.heap.size, 0, none⟩ 1 1 [.int .i64 x] rfl hnew (by intro y hy; simp at hy; subst hy; rfl) (by decide) (by unfold maxLen; omega) (by omega) (by omega) (w.heap.size + 1) hsz
  refine ⟨g, cap, w', fun ty => hrun, ?_, World.grownBy.trans (World.grownBy_alloc w _ _) hg, hgg, hlt⟩
  unfold Own
  rw [List.length_append, show cellsI (xs ++ [x]) = cellsI xs ++ [Value.int .i64 x] by simp [cellsI]]
  exact how

theorem wr64_add (a b : Int) : wr64 (wr64 a + b) = wr64 (a + b) := by
  unfold wr64
  rw [IntKind.wrap_i64, IntKind.wrap_i64, IntKind.wrap_i64]
  omega

set_option maxHeartbeats 2000000 in
theorem numbersSeen_c (t : Int) (b : Nat) (w : World) (hb : b < 65536) (ht : Tb w) :
    Calls Tryd.prog 45 #[.agg #[.int .i64 t, .int .i64 b]] w fun e w' => ∃ ao c, e = .returned (.slice ao (RL 16 b t).length c) ∧ Own w' w.heap.size (.slice ao (RL 16 b t).length c) ((RL 16 b t).map wr64) ∧ Below w.heap.size w w' := by
  have q := fun wx (h : Below w.heap.size w wx) => fmt_c b hb wx (ht.later h)
  have HLen : Hid ((binT b).length ≤ 16 ∧ 1 ≤ (binT b).length) := ⟨binF_len 15 b, binF_pos 15 b⟩
  have HTwo : Hid (∀ p, p < (binT b).length → (binT b).getD p 0 = 48 ∨ (binT b).getD p 0 = 49) := fun p hp => binF_two 15 b _ (mem_getD 0 hp)
  have HX : Hid (SLp (t + 1 - ((binT b).length : Int)) (binT b) (binT b).length = (RL 16 b t).map wr64) := by
    have h := SLp_bin (t + 1 - ((binT b).length : Int)) 15 b (by omega)
    have e : t + 1 - ((binT b).length : Int) + ((binF 15 b).length : Int) - 1 = t := by
      show t + 1 - ((binT b).length : Int) + ((binT b).length : Int) - 1 = t
      omega
    rw [e] at h
    exact h
  have hl0 : (RL 16 b t).length = ((RL 16 b t).map wr64).length := by simp
  have hs0 : (tx (binT b)).size = (binT b).length := tx_size _
  rw [hl0]
  generalize (RL 16 b t).map wr64 = XS at HX ⊢
  generalize binT b = L at q HLen HTwo HX hs0
  clear hl0
  have hw1 : wr64 (wr64 (t - (L.length : Int)) + 1) = wr64 (t + 1 - (L.length : Int)) := by rw [wr64_add]; congr 1; omega
  obtain ⟨n, hn⟩ : ∃ n, L.length = n := ⟨_, rfl⟩
  rw [hn] at hs0 hw1 HX
  have HN : Hid (L.length = n) := hn
  have HTX : Hid (∃ S, tx L = S) := ⟨_, rfl⟩
  have HW1 : Hid (IntKind.i64.wrap (IntKind.i64.wrap (t - (n : Int)) + 1) = IntKind.i64.wrap (t + 1 - (n : Int))) := hw1
  clear hw1
  go_enter Tryd.func45, Tryd.ntmps45
  go_wp2_with fail
  refine (q _ (balloc w _)).mono ?_
  clear q
  rintro e w1 ⟨rfl, hb1⟩
  have HB1 : Hid (Below w.heap.size w w1) := (balloc w _).trans (hb1.mono (by simp))
  have c0 : w1.cell? ⟨w.heap.size, 0, none⟩ = some (.int .i64 t) := by rw [hb1.cell (p := ⟨w.heap.size, 0, none⟩) (by simp)]; simp
  clear hb1 hb ht
  go_wp2
  go_loopw [5, 6, 7] (fun sv pv rv wr => ∃ (p : Nat) (acc : List Int) (ao : Option Addr) (c : Nat), p ≤ n ∧ sv = .slice ao acc.length c ∧ acc.length ≤ p ∧ Hid (acc = SLp (t + 1 - (n : Int)) L p) ∧ Hid (Own wr w.heap.size (.slice ao acc.length c) acc) ∧ wr.heap[w1.heap.size]? = some (.stringIter (tx L) p) ∧ w1.heap.size < wr.heap.size ∧ Hid (Below w.heap.size w wr)) (fun _ _ _ wr => n - wr.iterPos w1.heap.size)
  case atStart =>
    refine ⟨0, [], none, 0, Nat.zero_le _, rfl, Nat.le_refl _, rfl, World.ownsRow_nil _ _ _ _, ?_, by show _ < (w1.heap.push _).size; rw [Array.size_push]; omega, HB1.out.trans ((Below.refl _ _).alloc HB1.out.size _)⟩
    exact World.iter_heap w1 (tx L) 0
  case round =>
    obtain ⟨p, acc, ao, c, hp, rfl, hal, HA, HO, hit, hsz, HB⟩ := hrel
    by_cases hpn : p < n
    · have hlt : p < (tx L).size := by rw [hs0]; exact hpn
      have hbyte : ((tx L)[p]'hlt).toNat = bN L p := by rw [byte_at (tx L) p hlt, bl_tx]
      have hasc : ((tx L)[p]'hlt).toNat < 128 := by
        rw [hbyte]; unfold bN
        rcases HTwo.out p (by omega) with e | e <;> rw [e] <;> decide
      have hnx : ∀ ty, (Instr.next (.pointer (some ⟨w1.heap.size, 0, none⟩)) true ty).run Tryd.prog wr = .ok (.tuple #[.bool true, .int .i64 (p : Int), .int .i32 ((bN L p : Nat) : Int)]) (wr.iterAt w1.heap.size (tx L) (p + 1)) := fun ty => by
        rw [Lib.run_next_ascii_at wr w1.heap.size (tx L) p ty hit hlt hasc, hbyte]
      have hit2 := Lib.iterAt_heap wr w1.heap.size (tx L) p (p + 1) hit
      have hO2 : Own (wr.iterAt w1.heap.size (tx L) (p + 1)) w.heap.size (.slice ao acc.length c) acc := own_iter HO.out hit
      have hB2 : Below w.heap.size w (wr.iterAt w1.heap.size (tx L) (p + 1)) := Lib.below_iterAt HB.out HB1.out.size _ _
      have hsz2 : w1.heap.size < (wr.iterAt w1.heap.size (tx L) (p + 1)).heap.size := by rw [Lib.iterAt_size]; exact hsz
      generalize wr.iterAt w1.heap.size (tx L) (p + 1) = V at hnx hit2 hO2 hB2 hsz2
      have hne2 := own_iter_ne hO2 hit2
      have HW0 := HB1.out.size
      by_cases h49 : L.getD p 0 = 49
      · obtain ⟨g, cap, V2, hrun, how, hgr, hgg, hglt⟩ := pushR_run V w.heap.size (.slice ao acc.length c) acc (wr64 (t + 1 - (n : Int) + (p : Int))) hO2 (by have := HLen.out.1; omega) (by omega)
        have hacc : acc ++ [wr64 (t + 1 - (n : Int) + (p : Int))] = SLp (t + 1 - (n : Int)) L (p + 1) := by rw [SLp, if_pos h49, HA.out]
        have hl2 : (acc ++ [wr64 (t + 1 - (n : Int) + (p : Int))]).length = acc.length + 1 := by simp
        have hadd : wrap64 (wrap64 (wrap64 (t - (n : Int)) + 1) + (p : Int)) = wr64 (t + 1 - (n : Int) + (p : Int)) := by
          rw [← IntWalk.i64_left, ← IntWalk.i64_left, ← IntWalk.i64_left]
          rw [HW1.out]; exact wr64_add _ _
        have hb49 : bN L p = 49 := by unfold bN; rw [h49]; rfl
        have HO3 : Hid (Own V2 w.heap.size (.slice (some ⟨g, 0, none⟩) (acc.length + 1) cap) (acc ++ [wr64 (t + 1 - (n : Int) + (p : Int))])) := how
        have hit3 : V2.heap[w1.heap.size]? = some (.stringIter (tx L) (p + 1)) := (hgr.block _ hsz2 (fun e => hne2 e.symm)).trans hit2
        have HB3 : Hid (Below w.heap.size w V2) := hB2.trans ((Below.refl _ _).grown hgr (by omega) (own_block_ge hO2))
        have hsz3 : w1.heap.size < V2.heap.size := Nat.lt_of_lt_of_le hsz2 hgr.size
        rw [hb49] at hnx
        generalize wr64 (t + 1 - (n : Int) + (p : Int)) = X at hadd hrun hacc hl2 HO3
        clear hasc hbyte hO2 hB2 hgg how hne2 HW0 hgr h49 HO HA
        go_wp2_with (at_builtin; refine Lib.wpList_append_run _ rfl _ _ _ _ rfl _ _ rfl rfl _ _ (hrun _) ?_; clear hrun)
        go_roundw
        case rel => exact ⟨p + 1, acc ++ [X], some ⟨g, 0, none⟩, cap, by omega, by rw [hl2], by omega, hacc, by rw [hl2]; exact HO3, hit3, hsz3, HB3⟩
        case measure =>
          simp only [World.iterPos, hit, hit3]
          omega
      · have hb48 : bN L p = 48 := by
          unfold bN
          rcases HTwo.out p (by omega) with e | e
          · rw [e]; rfl
          · exact absurd e h49
        have hacc : acc = SLp (t + 1 - (n : Int)) L (p + 1) := by rw [SLp, if_neg h49, List.append_nil, HA.out]
        have HO3 : Hid (Own V w.heap.size (.slice ao acc.length c) acc) := hO2
        have HB3 : Hid (Below w.heap.size w V) := hB2
        rw [hb48] at hnx
        clear hasc hbyte hO2 hB2 hne2 HW0 h49 HO HA
        go_wp2
        go_roundw
        case rel => exact ⟨p + 1, acc, ao, c, by omega, rfl, by omega, hacc, HO3, hit2, hsz2, HB3⟩
        case measure =>
          simp only [World.iterPos, hit, hit2]
          omega
    · obtain rfl : p = n := by omega
      have hnx : ∀ ty, (Instr.next (.pointer (some ⟨w1.heap.size, 0, none⟩)) true ty).run Tryd.prog wr = .ok (.tuple #[.bool false]) wr := fun ty => Lib.run_next_end_at wr w1.heap.size (tx L) p ty hit (by rw [hs0]; omega)
      have hE : acc = XS := HA.out.trans HX.out
      clear HA HX
      subst hE
      clear hit
      go_wp2
      go_ret
      exact ⟨ao, c, rfl, HO.out, HB.out⟩

end Go.Proofs.YtjpegbodhpnflaaDoor
