/- Taps, texts, and the Draw.. functions of chapter 3. -/
import Derived.Test.YtjdfpjeeipbghaaDS3
namespace Go.Proofs.Ytjdfpjeeipbghaa
set_option linter.unusedVariables false
set_option linter.unusedSimpArgs false
open Go.RowKit

theorem sep_own {w : World} {g B : Nat} {v : Value} {xs : List Int} (h : Own w B v xs) (hg : g < B) : v.ownBlock = none ∨ v.ownBlock ≠ some g := by
  rcases hb : v.ownBlock with _ | b
  · exact Or.inl rfl
  · exact Or.inr (fun e => by have := own_block_ge h b hb; simp at e; omega)
theorem sep_ownB {w : World} {g B : Nat} {v : Value} {xs : List Bool} (h : OwnB w B v xs) (hg : g < B) : v.ownBlock = none ∨ v.ownBlock ≠ some g := by
  rcases hb : v.ownBlock with _ | b
  · exact Or.inl rfl
  · exact Or.inr (fun e => by have := own_block_geB h b hb; simp at e; omega)

set_option maxHeartbeats 4000000 in
theorem taps_c (g : Nat) (ao : Option Addr) (n c : Nat) (M : Int) (w : World) (hM : M ≤ 1000000) (h : Cur w g ao n c M) :
    Calls Try.prog 60 #[.pointer (some ⟨g, 0, none⟩)] w fun e w' => ∃ a' n' c' ys, e = .returned (.slice a' n' c') ∧ n' ≤ 5 ∧ Own w' w.heap.size (.slice a' n' c') ys ∧ (∀ u ∈ ys, 0 ≤ u ∧ u ≤ 13) ∧ Cur w' g ao n c (M + 20) ∧ GB g w w' := by
  have HC : Hid (Cur w g ao n c M) := h
  have HG : Hid (GB g w w) := GB.refl _ _
  have hgl : g < w.heap.size := h.lt
  clear h
  go_enter Try.func60, Try.ntmps60
  go_wp2_with (go_at_call 50; refine (pick_c g ao n c _ _ _ (by omega) (by omega) HC.out).mono ?_; rintro e w1 ⟨z, rfl, hz0, hz1, hc1, hg1⟩; replace HC : Hid (Cur w1 g ao n c _) := hc1; replace HG : Hid (GB g w w1) := HG.out.trans hg1; clear hc1 hg1)
  obtain ⟨k0, rfl⟩ : ∃ k0 : Nat, z = k0 := ⟨z.toNat, by omega⟩
  go_loopw [3, 4] (fun v i wr => ∃ (k n' : Nat) (a' : Option Addr) (c' : Nat) (ys : List Int), k ≤ 3 ∧ i = .int .i64 k ∧ v = .slice a' n' c' ∧ n' + k ≤ 3 ∧ Hid (Own wr w.heap.size (.slice a' n' c') ys) ∧ Hid (Srt ys) ∧ Hid (∀ u ∈ ys, 0 ≤ u ∧ u ≤ 13) ∧ Hid (Cur wr g ao n c (M + 2 + 2 * (3 - (k : Int)))) ∧ Hid (GB g w wr)) (fun _ i _ => (intOf i).toNat)
  case atStart => exact ⟨k0, 0, none, 0, [], by omega, rfl, rfl, by omega, World.ownsRow_nil _ _ _ _, List.Pairwise.nil, fun u hu => (by cases hu), HC.out.mono (by omega), HG⟩
  case round =>
    clear HC HG
    obtain ⟨k, n', a', c', ys, hk, rfl, rfl, hnk, HO, HSr, HP, HC, HG⟩ := hrel
    by_cases hk1 : 0 < k
    · have k1 : (0 : Int) < (k : Int) := by omega
      go_wp2_with (first | (go_at_call 50; refine (pick_c g ao n c _ _ _ (by omega) (by omega) HC.out).mono ?_; rintro e w1 ⟨z, rfl, hz0, hz1, hc1, hg1⟩; replace HC : Hid (Cur w1 g ao n c _) := hc1; replace HG : Hid (GB g w w1) := HG.out.trans hg1; replace HO : Hid (Own w1 w.heap.size (.slice a' n' c') ys) := HO.out.kept hg1 (sep_own HO.out hgl); have hws : w.heap.size ≤ w1.heap.size := HG.out.size; clear hc1 hg1) | (go_at_call 72; refine (l1Put_c a' n' c' w.heap.size (1 + z) ys _ hws (by omega) HO.out HSr.out (fun u => 0 ≤ u ∧ u ≤ 13) HP.out (by omega)).mono ?_; rintro e w2 ⟨a2, n2, c2, y2, rfl, hn2, ho2, hs2, hp2, hb2⟩; have HO2 : Hid (Own w2 w.heap.size (.slice a2 n2 c2) y2) := ho2; have HS2 : Hid (Srt y2) := hs2; have HP2 : Hid (∀ u ∈ y2, 0 ≤ u ∧ u ≤ 13) := hp2; replace HC : Hid (Cur w2 g ao n c _) := HC.out.later hb2; replace HG : Hid (GB g w w2) := HG.out.trans (GB.of_below hb2 (Nat.le_refl _)); clear ho2 hs2 hp2 hb2 HO HSr HP))
      go_roundw
      case rel => exact ⟨k - 1, n2, a2, c2, y2, by omega, by first | go_num | (congr 1; omega), rfl, by omega, HO2, HS2, HP2, HC.out.mono (by omega), HG⟩
      case measure => simp [intOf]; omega
    · have k1 : ¬ (0 : Int) < (k : Int) := by omega
      go_wp2_with (first | (go_at_call 51; refine (one_c g ao n c _ _ _ (by omega) (by omega) HC.out).mono ?_; rintro e w1 ⟨zb, rfl, hc1, hg1⟩; replace HC : Hid (Cur w1 g ao n c _) := hc1; replace HG : Hid (GB g w w1) := HG.out.trans hg1; replace HO : Hid (Own w1 w.heap.size (.slice a' n' c') ys) := HO.out.kept hg1 (sep_own HO.out hgl); clear hc1 hg1) | (go_at_call 61; refine (among_p (fun u => 0 ≤ u ∧ u ≤ 13) g ao n c _ w1.heap.size 3 _ (by omega) (by omega) (lit_cells _ _ _ _ _ rfl (by simp [allP])) (by have := HC.out.lt; omega) (HC.out.alloc _)).mono ?_; rintro e w2 ⟨y, rfl, hyp, hc1, hg1⟩; replace HC : Hid (Cur w2 g ao n c _) := hc1; replace HG : Hid (GB g w w2) := (HG.out.alloc _).trans hg1; replace HO : Hid (Own w2 w.heap.size (.slice a' n' c') ys) := (HO.out.later (balloc _ _)).kept hg1 (sep_own HO.out hgl); have hws : w.heap.size ≤ w2.heap.size := HG.out.size; clear hc1 hg1) | (go_at_call 72; refine (l1Put_c a' n' c' w.heap.size y ys _ hws (by omega) HO.out HSr.out (fun u => 0 ≤ u ∧ u ≤ 13) HP.out hyp).mono ?_; rintro e w3 ⟨a2, n2, c2, y2, rfl, hn2, ho2, hs2, hp2, hb2⟩; have HO2 : Hid (Own w3 w.heap.size (.slice a2 n2 c2) y2) := ho2; have HP2 : Hid (∀ u ∈ y2, 0 ≤ u ∧ u ≤ 13) := hp2; replace HC : Hid (Cur w3 g ao n c _) := HC.out.later hb2; replace HG : Hid (GB g w w3) := HG.out.trans (GB.of_below hb2 (Nat.le_refl _)); clear ho2 hs2 hp2 hb2))
      all_goals go_ret
      all_goals first
        | exact ⟨a2, n2, c2, y2, rfl, by omega, HO2.out, HP2.out, HC.out.mono (by omega), HG.out⟩
        | exact ⟨a', n', c', ys, rfl, by omega, HO.out, HP.out, HC.out.mono (by omega), HG.out⟩


theorem top_bd {xs : List Int} (h : ∀ u ∈ xs, 0 ≤ u ∧ u ≤ 13) : 0 ≤ topT xs ∧ topT xs ≤ 13 := by
  by_cases h0 : xs = []
  · subst h0; simp [topT]
  · have hl : 0 < xs.length := List.length_pos_iff.2 h0
    exact h _ (mem_getD (show xs.length - 1 < xs.length by omega))

/-- The five texts that are drawn. -/
def fiveS (s : ByteArray) : Prop := s = ⟨#[]⟩ ∨ s = ⟨#[97]⟩ ∨ s = ⟨#[128, 1]⟩ ∨ s = ⟨#[102, 105, 118, 101, 46]⟩ ∨ s = ⟨#[115, 105, 120, 115, 105, 120]⟩

theorem of_c (P : ByteArray → Prop) (g : Nat) (ao : Option Addr) (n c : Nat) (M : Int) (r k : Nat) (w : World) (hM : M ≤ 1000000) (hk : 1 ≤ k ∧ k ≤ 1000) (hc : ∀ j, j < k → ∃ y, w.cell? ⟨r, j, none⟩ = some (.string y) ∧ P y) (hrg : r ≠ g) (h : Cur w g ao n c M) :
    Calls Try.prog 67 #[.pointer (some ⟨g, 0, none⟩), .slice (some ⟨r, 0, none⟩) k k] w fun e w' => ∃ z, e = .returned (.string z) ∧ P z ∧ Cur w' g ao n c (M + 2) ∧ GB g w w' := by
  have HC : Hid (Cur w g ao n c M) := h
  have HR : Hid (∀ j, j < k → ∃ y, w.cell? ⟨r, j, none⟩ = some (.string y) ∧ P y) := hc
  obtain ⟨hk1, hk2⟩ := hk
  have kk : (1 : Int) ≤ (k : Int) ∧ (k : Int) ≤ 1000000 := by omega
  have HNE : Hid (¬ some r = some g) := by show ¬ _; simpa using hrg
  clear h hc hrg
  go_enter Try.func67, Try.ntmps67
  go_wp2_with (go_at_call 50; refine (pick_c g ao n c M k _ (by omega) kk HC.out).mono ?_; rintro e w1 ⟨z, rfl, hz0, hz1, hc1, hg1⟩; have HC1 : Hid (Cur w1 g ao n c (M + 2)) := hc1; have HG1 : Hid (GB g w w1) := hg1; obtain ⟨j, rfl⟩ : ∃ j : Nat, z = j := ⟨z.toNat, by omega⟩; obtain ⟨y, hy1, hy2⟩ := HR.out j (by omega); have q1 : w1.cell? ⟨r, j, none⟩ = some (.string y) := hg1.cell (a := ⟨r, j, none⟩) hy1 HNE.out; have HP : Hid (P y) := hy2; clear hc1 hg1 HC hy1 hy2)
  go_ret
  exact ⟨y, rfl, HP.out, HC1.out, HG1.out⟩

set_option maxHeartbeats 4000000 in
theorem drawTextOf_c (ao : Option Addr) (n c : Nat) (w : World) (hn : n ≤ 9223372036854775807) (h : CodeOk w w.heap.size ao n) :
    Calls Try.prog 33 #[.slice ao n c] w fun e w' => (∃ a' q c' zs, e = .returned (.slice a' q c') ∧ q ≤ 60 ∧ zs.length = q ∧ OwnB w' w.heap.size (.slice a' q c') zs) ∧ Below w.heap.size w w' := by
  have HC : Hid (Cur (w.alloc (.cells #[.slice ao n c, .int .i64 0, .int .u64 0] 65)) w.heap.size ao n c 0) := cur_new _ hn h
  have HG : Hid (GB w.heap.size w (w.alloc (.cells #[.slice ao n c, .int .i64 0, .int .u64 0] 65))) := (GB.refl _ _).alloc _
  have hz : w.heap.size + 1 ≤ (w.alloc (.cells #[.slice ao n c, .int .i64 0, .int .u64 0] 65)).heap.size := by simp
  clear h
  go_enter Try.func33, Try.ntmps33
  go_wp2_with (first | (go_at_call 61; refine (among_p (fun u => 0 ≤ u ∧ u ≤ 48) w.heap.size ao n c _ (w.heap.size + 1) 6 _ (by omega) (by omega) (fun j hj => by rcases j with _ | _ | _ | _ | _ | _ | j <;> first | omega | exact ⟨_, by simp; rfl, by omega⟩) (by omega) (HC.out.alloc _)).mono ?_; rintro e w1 ⟨y, rfl, hy, hc1, hg1⟩; replace hz : w.heap.size + 1 ≤ w1.heap.size := Nat.le_trans hz (Nat.le_trans (by simp) hg1.size); replace HC : Hid (Cur w1 w.heap.size ao n c _) := hc1; replace HG : Hid (GB w.heap.size w w1) := (HG.out.alloc _).trans hg1; clear hc1 hg1) | (go_at_call 52; obtain ⟨q, hq⟩ : ∃ q : Nat, y = q := ⟨(y).toNat, by omega⟩; rw [hq]; refine (bits_c w.heap.size ao n c q _ _ (by omega) (by omega) HC.out).mono ?_; rintro e w2 ⟨a1, c1, z1, rfl, hl1, ho1, hc1, hg1⟩; have O1 : Hid (OwnB w2 (w.heap.size + 1) (.slice a1 q c1) z1) := ho1.mono hz; have HLO1 : Hid (z1.length = q) := hl1; replace hz : w.heap.size + 1 ≤ w2.heap.size := Nat.le_trans hz hg1.size; replace HC : Hid (Cur w2 w.heap.size ao n c _) := hc1; replace HG : Hid (GB w.heap.size w w2) := HG.out.trans hg1; clear hl1 ho1 hc1 hg1))
  go_ret
  exact ⟨⟨a1, q, c1, z1, rfl, by omega, HLO1.out, O1.out.mono (by omega)⟩, HG.out.below (Nat.le_refl _) (Nat.le_refl _)⟩

set_option maxHeartbeats 4000000 in
theorem drawRunsOf_c (ao : Option Addr) (n c : Nat) (w : World) (hn : n ≤ 9223372036854775807) (h : CodeOk w w.heap.size ao n) :
    Calls Try.prog 39 #[.slice ao n c] w fun e w' => (∃ a' q c' zs, e = .returned (.slice a' q c') ∧ q ≤ 60 ∧ zs.length = q ∧ OwnB w' w.heap.size (.slice a' q c') zs) ∧ Below w.heap.size w w' := by
  have HC : Hid (Cur (w.alloc (.cells #[.slice ao n c, .int .i64 0, .int .u64 0] 65)) w.heap.size ao n c 0) := cur_new _ hn h
  have HG : Hid (GB w.heap.size w (w.alloc (.cells #[.slice ao n c, .int .i64 0, .int .u64 0] 65))) := (GB.refl _ _).alloc _
  have hz : w.heap.size + 1 ≤ (w.alloc (.cells #[.slice ao n c, .int .i64 0, .int .u64 0] 65)).heap.size := by simp
  clear h
  go_enter Try.func39, Try.ntmps39
  go_wp2_with (first | (go_at_call 61; refine (among_p (fun u => 0 ≤ u ∧ u ≤ 41) w.heap.size ao n c _ (w.heap.size + 1) 6 _ (by omega) (by omega) (fun j hj => by rcases j with _ | _ | _ | _ | _ | _ | j <;> first | omega | exact ⟨_, by simp; rfl, by omega⟩) (by omega) (HC.out.alloc _)).mono ?_; rintro e w1 ⟨y, rfl, hy, hc1, hg1⟩; replace hz : w.heap.size + 1 ≤ w1.heap.size := Nat.le_trans hz (Nat.le_trans (by simp) hg1.size); replace HC : Hid (Cur w1 w.heap.size ao n c _) := hc1; replace HG : Hid (GB w.heap.size w w1) := (HG.out.alloc _).trans hg1; clear hc1 hg1) | (go_at_call 52; obtain ⟨q, hq⟩ : ∃ q : Nat, y = q := ⟨(y).toNat, by omega⟩; rw [hq]; refine (bits_c w.heap.size ao n c q _ _ (by omega) (by omega) HC.out).mono ?_; rintro e w2 ⟨a1, c1, z1, rfl, hl1, ho1, hc1, hg1⟩; have O1 : Hid (OwnB w2 (w.heap.size + 1) (.slice a1 q c1) z1) := ho1.mono hz; have HLO1 : Hid (z1.length = q) := hl1; replace hz : w.heap.size + 1 ≤ w2.heap.size := Nat.le_trans hz hg1.size; replace HC : Hid (Cur w2 w.heap.size ao n c _) := hc1; replace HG : Hid (GB w.heap.size w w2) := HG.out.trans hg1; clear hl1 ho1 hc1 hg1))
  go_ret
  exact ⟨⟨a1, q, c1, z1, rfl, by omega, HLO1.out, O1.out.mono (by omega)⟩, HG.out.below (Nat.le_refl _) (Nat.le_refl _)⟩

set_option maxHeartbeats 4000000 in
theorem drawUnlikeBits_c (ao : Option Addr) (n c : Nat) (w : World) (hn : n ≤ 9223372036854775807) (h : CodeOk w w.heap.size ao n) :
    Calls Try.prog 36 #[.slice ao n c] w fun e w' => (∃ a' q c' zs b' r d' ys, e = .returned (.tuple #[.slice a' q c', .slice b' r d']) ∧ q ≤ 60 ∧ r ≤ 60 ∧ zs.length = q ∧ ys.length = r ∧ OwnB w' w.heap.size (.slice a' q c') zs ∧ OwnB w' w.heap.size (.slice b' r d') ys) ∧ Below w.heap.size w w' := by
  have HC : Hid (Cur (w.alloc (.cells #[.slice ao n c, .int .i64 0, .int .u64 0] 65)) w.heap.size ao n c 0) := cur_new _ hn h
  have HG : Hid (GB w.heap.size w (w.alloc (.cells #[.slice ao n c, .int .i64 0, .int .u64 0] 65))) := (GB.refl _ _).alloc _
  have hz : w.heap.size + 1 ≤ (w.alloc (.cells #[.slice ao n c, .int .i64 0, .int .u64 0] 65)).heap.size := by simp
  clear h
  have tok1 : True := trivial
  have tok2 : True := trivial
  go_enter Try.func36, Try.ntmps36
  go_wp2_with (first | (go_at_call 50; have _t := tok1; refine (pick_c w.heap.size ao n c _ _ _ (by omega) (by omega) HC.out).mono ?_; rintro e w1 ⟨z, rfl, hz0, hz1, hc1, hg1⟩; replace hz : w.heap.size + 1 ≤ w1.heap.size := Nat.le_trans hz hg1.size; replace HC : Hid (Cur w1 w.heap.size ao n c _) := hc1; replace HG : Hid (GB w.heap.size w w1) := HG.out.trans hg1; clear hc1 hg1 tok1 _t) | (go_at_call 52; have _t := tok2; obtain ⟨q, hq⟩ : ∃ q : Nat, z = q := ⟨(z).toNat, by omega⟩; rw [hq]; refine (bits_c w.heap.size ao n c q _ _ (by omega) (by omega) HC.out).mono ?_; rintro e w2 ⟨a1, c1, z1, rfl, hl1, ho1, hc1, hg1⟩; have O1 : Hid (OwnB w2 (w.heap.size + 1) (.slice a1 q c1) z1) := ho1.mono hz; have HLO1 : Hid (z1.length = q) := hl1; replace hz : w.heap.size + 1 ≤ w2.heap.size := Nat.le_trans hz hg1.size; replace HC : Hid (Cur w2 w.heap.size ao n c _) := hc1; replace HG : Hid (GB w.heap.size w w2) := HG.out.trans hg1; clear hl1 ho1 hc1 hg1 tok2 _t) | (go_at_call 50; refine (pick_c w.heap.size ao n c _ _ _ (by omega) (by omega) HC.out).mono ?_; rintro e w3 ⟨x, rfl, hx0, hx1, hc1, hg1⟩; replace O1 : Hid (OwnB w3 (w.heap.size + 1) (.slice a1 q c1) z1) := O1.out.kept hg1 (sep_ownB O1.out (by omega)); replace hz : w.heap.size + 1 ≤ w3.heap.size := Nat.le_trans hz hg1.size; replace HC : Hid (Cur w3 w.heap.size ao n c _) := hc1; replace HG : Hid (GB w.heap.size w w3) := HG.out.trans hg1; clear hc1 hg1) | (go_at_call 52; obtain ⟨r, hr⟩ : ∃ r : Nat, (q : Int) + x / 8 = r := ⟨((q : Int) + x / 8).toNat, by omega⟩; rw [hr]; refine (bits_c w.heap.size ao n c r _ _ (by omega) (by omega) HC.out).mono ?_; rintro e w4 ⟨a2, c2, z2, rfl, hl1, ho1, hc1, hg1⟩; have O2 : Hid (OwnB w4 (w.heap.size + 1) (.slice a2 r c2) z2) := ho1.mono hz; have HLO2 : Hid (z2.length = r) := hl1; replace O1 : Hid (OwnB w4 (w.heap.size + 1) (.slice a1 q c1) z1) := O1.out.kept hg1 (sep_ownB O1.out (by omega)); replace hz : w.heap.size + 1 ≤ w4.heap.size := Nat.le_trans hz hg1.size; replace HC : Hid (Cur w4 w.heap.size ao n c _) := hc1; replace HG : Hid (GB w.heap.size w w4) := HG.out.trans hg1; clear hl1 ho1 hc1 hg1))
  refine bodyPost_ret (v := .tuple #[.slice a1 q c1, .slice a2 r c2]) (by simp [results, Try.results36, go_sem]) rfl ⟨⟨a1, q, c1, z1, a2, r, c2, z2, rfl, by omega, by omega, HLO1.out, HLO2.out, O1.out.mono (by omega), O2.out.mono (by omega)⟩, HG.out.below (Nat.le_refl _) (Nat.le_refl _)⟩

set_option maxHeartbeats 4000000 in
theorem drawBitsOf_c (ao : Option Addr) (n c : Nat) (w : World) (hn : n ≤ 9223372036854775807) (h : CodeOk w w.heap.size ao n) :
    Calls Try.prog 30 #[.slice ao n c] w fun e w' => (∃ s, e = .returned (.string s) ∧ fiveS s) ∧ Below w.heap.size w w' := by
  have HC : Hid (Cur (w.alloc (.cells #[.slice ao n c, .int .i64 0, .int .u64 0] 65)) w.heap.size ao n c 0) := cur_new _ hn h
  have HG : Hid (GB w.heap.size w (w.alloc (.cells #[.slice ao n c, .int .i64 0, .int .u64 0] 65))) := (GB.refl _ _).alloc _
  have hz : w.heap.size + 1 ≤ (w.alloc (.cells #[.slice ao n c, .int .i64 0, .int .u64 0] 65)).heap.size := by simp
  clear h
  go_enter Try.func30, Try.ntmps30
  go_wp2_with (first | (go_at_call 67; refine (of_c fiveS w.heap.size ao n c _ (w.heap.size + 1) 5 _ (by omega) (by omega) (fun j hj => by rcases j with _ | _ | _ | _ | _ | j <;> first | omega | exact ⟨_, by simp; rfl, by simp [fiveS]⟩) (by omega) (HC.out.alloc _)).mono ?_; rintro e w1 ⟨s, rfl, hs, hc1, hg1⟩; replace HG : Hid (GB w.heap.size w w1) := (HG.out.alloc _).trans hg1; clear hc1 hg1))
  go_ret
  exact ⟨⟨s, rfl, hs⟩, HG.out.below (Nat.le_refl _) (Nat.le_refl _)⟩

set_option maxHeartbeats 4000000 in
theorem drawStreamOf_c (ao : Option Addr) (n c : Nat) (w : World) (hn : n ≤ 9223372036854775807) (h : CodeOk w w.heap.size ao n) :
    Calls Try.prog 19 #[.slice ao n c] w fun e w' => (∃ a0 n0 c0 xs a' q c' zs many, e = .returned (.tuple #[.slice a0 n0 c0, .slice a' q c', .int .i64 many]) ∧ n0 ≤ 5 ∧ q ≤ 60 ∧ zs.length = q ∧ -1 ≤ many ∧ many ≤ 41 ∧ Own w' w.heap.size (.slice a0 n0 c0) xs ∧ OwnB w' w.heap.size (.slice a' q c') zs) ∧ Below w.heap.size w w' := by
  have HC : Hid (Cur (w.alloc (.cells #[.slice ao n c, .int .i64 0, .int .u64 0] 65)) w.heap.size ao n c 0) := cur_new _ hn h
  have HG : Hid (GB w.heap.size w (w.alloc (.cells #[.slice ao n c, .int .i64 0, .int .u64 0] 65))) := (GB.refl _ _).alloc _
  have hz : w.heap.size + 1 ≤ (w.alloc (.cells #[.slice ao n c, .int .i64 0, .int .u64 0] 65)).heap.size := by simp
  clear h
  go_enter Try.func19, Try.ntmps19
  go_wp2_with (first | (go_at_call 60; refine (taps_c w.heap.size ao n c _ _ (by omega) HC.out).mono ?_; rintro e w1 ⟨a0, n0, c0, y0, rfl, hn0, ho1, hp1, hc1, hg1⟩; have OT : Hid (Own w1 (w.heap.size + 1) (.slice a0 n0 c0) y0) := ho1.mono hz; have htb := top_bd hp1; have htc := l3Top_c a0 n0 c0 y0 w1 ho1.rd'.1 (by omega) ho1.rd'.2; generalize topT y0 = tt at htb htc; obtain ⟨ht0, ht1⟩ := htb; have HTC : Hid (Calls Try.prog 57 #[.slice a0 n0 c0] w1 fun e w' => e = .returned (.int .i64 tt) ∧ w' = w1) := htc; replace hz : w.heap.size + 1 ≤ w1.heap.size := Nat.le_trans hz hg1.size; replace HC : Hid (Cur w1 w.heap.size ao n c _) := hc1; replace HG : Hid (GB w.heap.size w w1) := HG.out.trans hg1; clear ho1 hp1 hc1 hg1 htc) | (go_at_call 57; refine HTC.out.mono ?_; rintro e w' ⟨rfl, hw⟩; subst w'; clear HTC) | (go_at_call 50; refine (pick_c w.heap.size ao n c _ _ _ (by omega) (by omega) HC.out).mono ?_; rintro e w2 ⟨x, rfl, hx0, hx1, hc1, hg1⟩; replace OT : Hid (Own w2 (w.heap.size + 1) (.slice a0 n0 c0) y0) := OT.out.kept hg1 (sep_own OT.out (by omega)); replace hz : w.heap.size + 1 ≤ w2.heap.size := Nat.le_trans hz hg1.size; replace HC : Hid (Cur w2 w.heap.size ao n c _) := hc1; replace HG : Hid (GB w.heap.size w w2) := HG.out.trans hg1; clear hc1 hg1) | (go_at_call 52; obtain ⟨q, hq⟩ : ∃ q : Nat, tt + x / 8 = q := ⟨(tt + x / 8).toNat, by omega⟩; rw [hq]; refine (bits_c w.heap.size ao n c q _ _ (by omega) (by omega) HC.out).mono ?_; rintro e w3 ⟨a1, c1, z1, rfl, hl1, ho1, hc1, hg1⟩; have O1 : Hid (OwnB w3 (w.heap.size + 1) (.slice a1 q c1) z1) := ho1.mono hz; have HLO1 : Hid (z1.length = q) := hl1; replace OT : Hid (Own w3 (w.heap.size + 1) (.slice a0 n0 c0) y0) := OT.out.kept hg1 (sep_own OT.out (by omega)); replace hz : w.heap.size + 1 ≤ w3.heap.size := Nat.le_trans hz hg1.size; replace HC : Hid (Cur w3 w.heap.size ao n c _) := hc1; replace HG : Hid (GB w.heap.size w w3) := HG.out.trans hg1; clear hl1 ho1 hc1 hg1) | (go_at_call 61; refine (among_p (fun u => -1 ≤ u ∧ u ≤ 41) w.heap.size ao n c _ w3.heap.size 6 _ (by omega) (by omega) (lit_cells _ _ _ _ _ rfl (by simp [allP])) (by have := HC.out.lt; simp at this ⊢; omega) (HC.out.alloc _)).mono ?_; rintro e w4 ⟨y, rfl, hy, hc1, hg1⟩; replace OT : Hid (Own w4 (w.heap.size + 1) (.slice a0 n0 c0) y0) := (OT.out.later (balloc _ _)).kept hg1 (sep_own OT.out (by omega)); replace O1 : Hid (OwnB w4 (w.heap.size + 1) (.slice a1 q c1) z1) := (O1.out.later (balloc _ _)).kept hg1 (sep_ownB O1.out (by omega)); replace hz : w.heap.size + 1 ≤ w4.heap.size := Nat.le_trans hz (Nat.le_trans (by simp) hg1.size); replace HC : Hid (Cur w4 w.heap.size ao n c _) := hc1; replace HG : Hid (GB w.heap.size w w4) := (HG.out.alloc _).trans hg1; clear hc1 hg1))
  refine bodyPost_ret (v := .tuple #[.slice a0 n0 c0, .slice a1 q c1, .int .i64 y]) (by simp [results, Try.results19, go_sem]) rfl ⟨⟨a0, n0, c0, y0, a1, q, c1, z1, y, rfl, hn0, by omega, HLO1.out, hy.1, hy.2, OT.out.mono (by omega), O1.out.mono (by omega)⟩, HG.out.below (Nat.le_refl _) (Nat.le_refl _)⟩

theorem drawPeriodOf_c (ao : Option Addr) (n c : Nat) (w : World) (hn : n ≤ 9223372036854775807) (h : CodeOk w w.heap.size ao n) :
    Calls Try.prog 27 #[.slice ao n c] w fun e w' => (∃ a0 n0 c0 xs a' q c' zs, e = .returned (.tuple #[.slice a0 n0 c0, .slice a' q c']) ∧ n0 ≤ 5 ∧ q ≤ 60 ∧ zs.length = q ∧ Own w' w.heap.size (.slice a0 n0 c0) xs ∧ OwnB w' w.heap.size (.slice a' q c') zs) ∧ Below w.heap.size w w' := by
  have HD : Hid (CodeOk w w.heap.size ao n) := h
  clear h
  go_enter Try.func27, Try.ntmps27
  go_wp2_with (go_at_call 19; refine (drawStreamOf_c ao n c _ hn HD.out).mono ?_; rintro e w1 ⟨⟨a0, n0, c0, xs, a1, q, c1, zs, many, rfl, hn0, hq, hl, hm0, hm1, ho, hob⟩, hb⟩; have HO : Hid (Own w1 w.heap.size (.slice a0 n0 c0) xs) := ho; have HO2 : Hid (OwnB w1 w.heap.size (.slice a1 q c1) zs) := hob; have HB : Hid (Below w.heap.size w w1) := hb; have HL : Hid (zs.length = q) := hl; clear ho hob hb hl)
  refine bodyPost_ret (v := .tuple #[.slice a0 n0 c0, .slice a1 q c1]) (by simp [results, Try.results27, go_sem]) rfl ⟨⟨a0, n0, c0, xs, a1, q, c1, zs, rfl, hn0, hq, HL.out, HO.out, HO2.out⟩, HB.out⟩

end Go.Proofs.Ytjdfpjeeipbghaa
