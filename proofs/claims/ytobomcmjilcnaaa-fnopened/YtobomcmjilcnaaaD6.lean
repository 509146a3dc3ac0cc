/- What chapter 6 draws: secrets, keys, votes, polls. -/
import Derived.Test.YtobomcmjilcnaaaD6G
import Derived.Test.YtobomcmjilcnaaaD2
import Derived.Deep.AppendLies
namespace Go.Proofs.Ytobomcmjilcnaaa
set_option linter.unusedVariables false
set_option maxRecDepth 1000000
set_option linter.unusedSimpArgs false
open Go.RowKit

/-- Two rows share no block. -/
def Sep (u v : Value) : Prop := ∀ k, u.ownBlock = some k → v.ownBlock = some k → False
theorem Sep.or {u v : Value} (h : Sep u v) : u.ownBlock = none ∨ u.ownBlock ≠ v.ownBlock := by
  rcases hb : u.ownBlock with _ | b
  · exact Or.inl rfl
  · exact Or.inr (fun e => h b hb e.symm)
theorem Sep.symm {u v : Value} (h : Sep u v) : Sep v u := fun k h1 h2 => h k h2 h1
theorem Sep.app {u v : Value} {g H n c : Nat} (h : Sep u v) (hw : v.ownBlock = some g ∨ g = H) (hu : ∀ k, u.ownBlock = some k → k < H) : Sep u (.slice (some ⟨g, 0, none⟩) n c) := fun k h1 h2 => by
  have e : g = k := Option.some.inj h2
  rcases hw with hw | hw
  · exact h k h1 (by rw [hw, e])
  · have := hu k h1; omega

def DrawnSec (g : Nat) (ao : Option Addr) (n c : Nat) (M : Int) (w : World) (e : Ending) (w' : World) : Prop := ∃ a' q c' zs, e = .returned (.slice a' q c') ∧ q ≤ 6 ∧ zs.length = q ∧ Own w' w.heap.size (.slice a' q c') zs ∧ Cur w' g ao n c (M + 100) ∧ GB g w w'

set_option maxHeartbeats 4000000 in
set_option maxRecDepth 1000000 in
theorem secrets_c (g : Nat) (ao : Option Addr) (n c : Nat) (M : Int) (w : World) (hM : M ≤ 1000000) (h : Cur w g ao n c M) :
    Calls Try.prog 33 #[.pointer (some ⟨g, 0, none⟩)] w (DrawnSec g ao n c M w) := by
  obtain ⟨i0, hi, hz0, hz1, hz2⟩ := info_parts Try.infoInt
  have HC : Hid (Cur w g ao n c M) := h
  have HOld : Hid (Old ao n w.heap.size) := h.code.old
  have hgl : g < w.heap.size := h.lt
  clear h
  go_enter Try.func33, Try.ntmps33
  go_wp2_with fail
  refine (pick_c g ao n c M 4 _ (by omega) (by omega) HC.out).mono ?_
  rintro e w1 ⟨z, rfl, hz0', hz1', hc1, hg1⟩
  have HC1 : Hid (Cur w1 g ao n c (M + 2)) := hc1
  have HG1 : Hid (GB g w w1) := hg1
  clear hc1 hg1 HC
  obtain ⟨k0, hk0⟩ : ∃ k0 : Nat, 1 + z = (k0 : Int) := ⟨(1 + z).toNat, by omega⟩
  go_wp2
  go_loopw [3, 4] (fun v i wr => ∃ (k : Nat) (zs : List Int), i = .int .i64 k ∧ zs.length + k ≤ 4 ∧ 1 ≤ zs.length + k ∧ Hid (Own wr w.heap.size v zs) ∧ Hid (Cur wr g ao n c (M + 6 + 4 * zs.length)) ∧ Hid (GB g w wr)) (fun _ i _ => (intOf i).toNat)
  case atStart => exact ⟨k0, [], by first | rfl | go_num, by simp; omega, by simp; omega, World.ownsRow_nil _ _ _ _, HC1.out.mono (by simp; try omega), HG1⟩
  case round =>
    clear HC1 HG1
    obtain ⟨k, zs, rfl, hk, hk2, hO, hC, hG⟩ := hrel
    by_cases hlt : 0 < k
    · have k1 : (0 : Int) < (k : Int) := by omega
      go_wp2_with fail
      refine (pick_c g ao n c (M + 6 + 4 * zs.length) 250 _ (by omega) (by omega) hC.out).mono ?_
      rintro e wb ⟨x, rfl, hx0, hx1, hc1, hg1⟩
      have hCx : Hid (Cur wb g ao n c (M + 6 + 4 * zs.length + 2)) := hc1
      have hGx : Hid (GB g w wb) := hG.out.trans hg1
      have hOx : Hid (Own wb w.heap.size u3 zs) := hO.out.kept hg1 (sep_own hO.out hgl)
      clear hc1 hg1 hC hG hO
      obtain ⟨p, hp⟩ : ∃ p, zs.length = p := ⟨_, rfl⟩
      have hown : wb.ownsRow w.heap.size 3 1 u3 p (cellsI zs) := by have h := hOx.out; unfold Own at h; rw [hp] at h; exact h
      have hob : ∀ k', u3.ownBlock = some k' → w.heap.size ≤ k' := own_block_ge hOx.out
      have hws : w.heap.size ≤ wb.heap.size := hGx.out.size
      have hone : ∀ u ∈ [Value.int .i64 (1 + x * 5)], u.oneCell' = true := ints_oneCell _ [1 + x * 5]
      have HP : Hid (zs.length = p) := hp
      have hp5 : p + k ≤ 4 := by omega
      have hp6 : 1 ≤ p + k := by omega
      clear hp hk hk2
      go_wp2_with (at_builtin; refine wpList_append_own _ rfl _ _ 23 rfl w.heap.size 3 i0 (.int .i64 0) 1 8 Try.underlying23 hi hz0 hz1 hz2 rfl (by decide) _ _ _ rfl (hown.alloc _) ⟨wb.heap.size, 0, none⟩ 1 1 [.int .i64 (1 + x * 5)] rfl rfl (cell_new1 _ _ _) hone (by unfold maxLen; omega) (by omega) (by simp; omega) ?_; intro v' w9 hown' hgrow _; have HO2 : Hid (Own w9 w.heap.size v' (zs ++ [1 + x * 5])) := own_push (w := wb) (v := u3) (by simpa [HP.out] using hown'); have HC2 : Hid (Cur w9 g ao n c (M + 6 + 4 * zs.length + 2)) := (hCx.out.alloc _).grown hgrow hob hgl HOld.out; have HG2 : Hid (GB g w w9) := (hGx.out.alloc _).grown hgrow hob; clear hown' hgrow hown hob)
      go_roundw
      case rel => exact ⟨k - 1, zs ++ [1 + x * 5], by go_num, by rw [List.length_append, HP.out]; simp; omega, by rw [List.length_append, HP.out]; simp; omega, HO2, HC2.out.mono (by rw [List.length_append]; simp; omega), HG2⟩
      case measure => simp [intOf]; omega
    · have k1 : (k : Int) ≤ 0 := by omega
      obtain ⟨a1, c1, hv⟩ := hO.out.shape
      obtain ⟨p, hp⟩ : ∃ p, zs.length = p := ⟨_, rfl⟩
      rw [hp] at hv
      subst hv
      have hp9 : p ≤ 4 := by omega
      have hp1 : 1 ≤ p := by omega
      have HC0 : Hid (Cur wr g ao n c (M + 30)) := hC.out.mono (by omega)
      have HP : Hid (zs.length = p) := hp
      obtain ⟨gg, hgg, hgb⟩ := own_some hO.out (by omega)
      subst hgg
      clear hp hk hk2 hC
      go_wp2_with fail
      refine (pick_c g ao n c (M + 30) 20 _ (by omega) (by omega) HC0.out).mono ?_
      rintro e wd ⟨s, rfl, hs0, hs1, hc1, hg1⟩
      have C3 : Hid (Cur wd g ao n c (M + 32)) := hc1.mono (by omega)
      have G3 : Hid (GB g w wd) := hG.out.trans hg1
      have O3 : Hid (Own wd w.heap.size (.slice (some ⟨gg, 0, none⟩) p c1) zs) := hO.out.kept hg1 (sep_own hO.out hgl)
      clear hc1 hg1 HC0 hG hO
      by_cases s0 : s = 0
      · subst s0
        have hlit := lit_cells (fun _ => True) wd #[.int .i64 0, .int .i64 1498, .int .i64 1499] 3 3 rfl ⟨trivial, trivial, trivial, trivial⟩
        have hgd : g < wd.heap.size := C3.out.lt
        go_wp2_with fail
        refine (among_p (fun _ => True) g ao n c _ wd.heap.size 3 _ (by omega) (by omega) hlit (by omega) (C3.out.alloc _)).mono ?_
        rintro e we ⟨zz, rfl, _, hc1, hg1⟩
        have C4 : Hid (Cur we g ao n c (M + 34)) := hc1.mono (by omega)
        have G4 : Hid (GB g w we) := (G3.out.alloc _).trans hg1
        have O4 : Hid (Own we w.heap.size (.slice (some ⟨gg, 0, none⟩) p c1) zs) := (O3.out.later (balloc _ _)).kept hg1 (sep_own (O3.out.later (balloc wd (.cells #[.int .i64 0, .int .i64 1498, .int .i64 1499] 3))) hgl)
        clear hc1 hg1 C3 G3 O3 hlit
        have gc : we.cell? ⟨gg, 0, none⟩ = some (.int .i64 (zs.getD 0 0)) := by
          have h := O4.out
          rw [← HP.out] at h
          exact h.cell 0 (by rw [HP.out]; omega)
        have gf : we.frozen? ⟨gg, 0, none⟩ = false := by
          have h := O4.out
          rw [← HP.out] at h
          exact h.free 0
        have O5 : Hid (Own (we.setCell ⟨gg, 0, none⟩ (.int .i64 zz)) w.heap.size (.slice (some ⟨gg, 0, none⟩) p c1) (zs.set 0 zz)) := own_set O4.out 0 zz
        have hgr : we.grownBy (we.setCell ⟨gg, 0, none⟩ (.int .i64 zz)) (some gg) := (GB.refl gg we).setCell _ _
        have C5 : Hid (Cur (we.setCell ⟨gg, 0, none⟩ (.int .i64 zz)) g ao n c (M + 34)) := C4.out.grown (B := w.heap.size) hgr (fun k hk => by simp at hk; omega) hgl HOld.out
        have G5 : Hid (GB g w (we.setCell ⟨gg, 0, none⟩ (.int .i64 zz))) := G4.out.grown hgr (fun k hk => by simp at hk; omega)
        clear hgr C4 G4 O4
        generalize zs.getD 0 0 = y0 at gc
        have hpi : (0 : Int) < (p : Int) := by omega
        go_wp2
        go_ret
        exact ⟨_, _, _, zs.set 0 zz, rfl, by omega, by rw [List.length_set]; exact HP.out, O5.out, C5.out.mono (by omega), G5.out⟩
      · have s0b : (s == 0) = false := by simpa using s0
        by_cases s1 : s = 1
        · subst s1
          have hlit := lit_cells (fun v => 0 ≤ v ∧ v ≤ 6) wd #[.int .i64 0, .int .i64 5, .int .i64 6] 3 3 rfl ⟨by omega, by omega, by omega, trivial⟩
          have hgd : g < wd.heap.size := C3.out.lt
          go_wp2_with fail
          refine (among_p (fun v => 0 ≤ v ∧ v ≤ 6) g ao n c _ wd.heap.size 3 _ (by omega) (by omega) hlit (by omega) (C3.out.alloc _)).mono ?_
          rintro e we ⟨z2, rfl, hz2', hc1, hg1⟩
          have C4 : Hid (Cur we g ao n c (M + 34)) := hc1.mono (by omega)
          have G4 : Hid (GB g w we) := (G3.out.alloc _).trans hg1
          clear hc1 hg1 C3 G3 O3 hlit HP
          obtain ⟨q, rfl⟩ : ∃ q : Nat, z2 = (q : Int) := ⟨z2.toNat, by omega⟩
          have hwe : w.heap.size ≤ we.heap.size := G4.out.size
          go_wp2_with (at_make; refine wpList_make_full _ rfl _ _ 23 rfl w.heap.size 3 i0 (.int .i64 0) 1 Try.underlying23 hi hz0 hz1 _ _ _ _ q rfl rfl rfl rfl (by rw [hz2]; omega) (by unfold maxLen; omega) hwe ?_; intro w0 hown0 hgrow0)
          have O5 : Hid (∃ ys : List Int, ys.length = q ∧ Own w0 w.heap.size (.slice (some ⟨we.heap.size, 0, none⟩) q q) ys) := ⟨List.replicate q 0, by simp, by
            have e : (madeCells (Value.int .i64 0).cells (q * 1)).toList = cellsI (List.replicate q 0) := by
              rw [Nat.mul_one]
              exact (toList_madeCells_one _ _).trans (by simp [cellsI])
            unfold Own
            rw [← e, List.length_replicate]
            exact hown0⟩
          have C5 : Hid (Cur w0 g ao n c (M + 34)) := C4.out.grown (B := w.heap.size) hgrow0 (fun k hk => by cases hk) hgl HOld.out
          have G5 : Hid (GB g w w0) := G4.out.grown hgrow0 (fun k hk => by cases hk)
          clear hown0 hgrow0 C4 G4
          go_wp2
          go_loopw [37] (fun i wr => ∃ (k : Nat), k ≤ q ∧ i = .int .i64 k ∧ Hid (∃ ys : List Int, ys.length = q ∧ Own wr w.heap.size (.slice (some ⟨we.heap.size, 0, none⟩) q q) ys) ∧ Hid (Cur wr g ao n c (M + 34)) ∧ Hid (GB g w wr)) (fun i _ => q - (intOf i).toNat)
          case atStart => exact ⟨0, Nat.zero_le _, rfl, O5, C5, G5⟩
          case round =>
            clear C5 G5 O5
            obtain ⟨k, hk, rfl, hO, hC, hG⟩ := hrel
            by_cases hlt : k < q
            · obtain ⟨ys, hyl, hyo⟩ := hO.out
              have h0k : (0 : Int) ≤ (k : Int) := by omega
              have hkq : (k : Int) < (q : Int) := by omega
              have gc : wr.cell? ⟨we.heap.size, k, none⟩ = some (.int .i64 (ys.getD k 0)) := by
                have h := hyo
                rw [← hyl] at h
                exact h.cell k (by omega)
              have gf : wr.frozen? ⟨we.heap.size, k, none⟩ = false := by
                have h := hyo
                rw [← hyl] at h
                exact h.free k
              have O6 : Hid (∃ ys : List Int, ys.length = q ∧ Own (wr.setCell ⟨we.heap.size, k, none⟩ (.int .i64 7)) w.heap.size (.slice (some ⟨we.heap.size, 0, none⟩) q q) ys) := ⟨ys.set k 7, by simpa using hyl, own_set hyo k 7⟩
              have hgr : wr.grownBy (wr.setCell ⟨we.heap.size, k, none⟩ (.int .i64 7)) (some we.heap.size) := (GB.refl we.heap.size wr).setCell _ _
              have C6 : Hid (Cur (wr.setCell ⟨we.heap.size, k, none⟩ (.int .i64 7)) g ao n c (M + 34)) := hC.out.grown (B := w.heap.size) hgr (fun k hk => by simp at hk; omega) hgl HOld.out
              have G6 : Hid (GB g w (wr.setCell ⟨we.heap.size, k, none⟩ (.int .i64 7))) := hG.out.grown hgr (fun k hk => by simp at hk; omega)
              clear hgr hyo hO hC hG
              generalize ys.getD k 0 = y0 at gc
              clear hyl
              go_wp2
              go_roundw
              case rel => exact ⟨k + 1, by omega, by go_num, O6, C6, G6⟩
              case measure => simp [intOf]; omega
            · obtain rfl : k = q := by omega
              obtain ⟨ys, hyl, hyo⟩ := hO.out
              have HY : Hid (ys.length = k ∧ Own wr w.heap.size (.slice (some ⟨we.heap.size, 0, none⟩) k k) ys) := ⟨hyl, hyo⟩
              clear hyl hyo hO
              go_wp2
              go_ret
              exact ⟨_, _, _, ys, rfl, by omega, HY.out.1, HY.out.2, hC.out.mono (by omega), hG.out⟩
        · have s1b : (s == 1) = false := by simpa using s1
          clear s0 s1
          go_wp2
          go_ret
          exact ⟨_, _, _, zs, rfl, by omega, HP.out, O3.out, C3.out.mono (by omega), G3.out⟩

end Go.Proofs.Ytobomcmjilcnaaa
