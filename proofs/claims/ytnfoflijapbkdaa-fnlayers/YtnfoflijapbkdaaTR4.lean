/- A block through its rounds: the program's inner function. -/
import Derived.Test.YtnfoflijapbkdaaTH4
namespace Go.Proofs.Ytnfoflijapbkdaa
set_option linter.unusedVariables false
set_option maxRecDepth 1000000
set_option linter.unusedSimpArgs false
open Go.RowKit

theorem set2 (w2 : World) (g : Nat) (a b x y : Value) (h0 : w2.cell? ⟨g, 0, none⟩ = some a) (h1 : w2.cell? ⟨g, 1, none⟩ = some b) :
    ((w2.setCell ⟨g, 0, none⟩ x).setCell ⟨g, 1, none⟩ y).cell? ⟨g, 0, none⟩ = some x ∧ ((w2.setCell ⟨g, 0, none⟩ x).setCell ⟨g, 1, none⟩ y).cell? ⟨g, 1, none⟩ = some y := by
  constructor
  · rw [World.cell?_setCell_other _ _ _ _ (by simp), World.cell?_setCell_same _ _ _ h0]
  · rw [World.cell?_setCell_same _ _ _ (u := b)]
    rw [World.cell?_setCell_other _ _ _ _ (by simp)]; exact h1

theorem thru_nil (ao : Option Addr) (c B : Nat) (w : World) (hB : B < 65536) :
    Calls Try.prog 79 #[.slice ao 0 c, .int .i64 B] w fun e w' => e = .returned (.int .i64 (joinN (cutN B) : Nat)) ∧ Below w.heap.size w w' := by
  rw [join_cut]
  obtain ⟨U, hU⟩ : ∃ U : Nat, U = B / 256 := ⟨_, rfl⟩
  obtain ⟨L, hL⟩ : ∃ L : Nat, L = B % 256 := ⟨_, rfl⟩
  have hU1 : (B : Int) / 256 = (U : Int) := by omega
  have hL1 : bits BinOp.and IntKind.i64 (B : Int) 255 = (L : Int) := by rw [i64_and255]; omega
  have q1 : U < 256 := by omega
  have q2 : L < 256 := by omega
  have HE : Hid (256 * U + L = B) := by show _ = _; omega
  clear hU hL
  go_enter Try.func79, Try.ntmps79
  go_wp2
  refine wp_loop_rounds 1 ?_
  rw [rounds_succ]
  go_wp2
  go_ret
  refine ⟨ret_int ?_, balloc w _⟩
  have := i64_or q1 q2
  rw [show ((256 * U : Nat) : Int) = (U : Int) * 256 by omega] at this
  rw [this, HE.out]

set_option maxHeartbeats 1000000 in
theorem thruF_at (b o n c B : Nat) (ks : List Nat) (w : World) (hx : ks.length = n) (hn : n ≤ 8) (hB : B < 65536) (hk : ∀ k ∈ ks, k < 65536)
    (hc : ∀ j, j < n → w.cell? ⟨b, o + j, none⟩ = some (rndV 84 (ks.getD j 0))) :
    Calls Try.prog 79 #[.slice (some ⟨b, o, none⟩) n c, .int .i64 B] w fun e w' => e = .returned (.int .i64 (joinN (fwdL ks (cutN B)) : Nat)) ∧ Below w.heap.size w w' := by
  have HX : Hid (ks.length = n) := hx
  have HC : Hid (∀ j, j < n → w.cell? ⟨b, o + j, none⟩ = some (rndV 84 (ks.getD j 0))) := hc
  have HK : Hid (∀ k ∈ ks, k < 65536) := hk
  obtain ⟨R, hR⟩ : ∃ R, R = fwdL ks (cutN B) := ⟨_, rfl⟩
  rw [← hR]
  obtain ⟨U, hU⟩ : ∃ U : Nat, U = B / 256 := ⟨_, rfl⟩
  obtain ⟨L, hL⟩ : ∃ L : Nat, L = B % 256 := ⟨_, rfl⟩
  have hU1 : (B : Int) / 256 = (U : Int) := by omega
  have hL1 : bits BinOp.and IntKind.i64 (B : Int) 255 = (L : Int) := by rw [i64_and255]; omega
  have HR : Hid (R = fwdL (ks.drop 0) (U, L)) := by show R = _; rw [hR, hU, hL]; rfl
  have q1 : U < 256 := by omega
  have q2 : L < 256 := by omega
  clear hx hc hk hR hU hL
  go_enter Try.func79, Try.ntmps79
  go_wp2
  have hs0 : Below w.heap.size w (w.alloc (.cells #[.int .i64 (U : Int), .int .i64 (L : Int)] 101)) := balloc w _
  go_loopw [15] (fun i wr => ∃ (k u l : Nat), k ≤ n ∧ i = .int .i64 k ∧ u < 256 ∧ l < 256 ∧ Hid (R = fwdL (ks.drop k) (u, l)) ∧ wr.cell? ⟨w.heap.size, 0, none⟩ = some (.int .i64 u) ∧ wr.cell? ⟨w.heap.size, 1, none⟩ = some (.int .i64 l) ∧ wr.frozen? ⟨w.heap.size, 0, none⟩ = false ∧ wr.frozen? ⟨w.heap.size, 1, none⟩ = false ∧ Hid (Below w.heap.size w wr)) (fun i _ => n - (intOf i).toNat)
  case atStart => exact ⟨0, U, L, Nat.zero_le _, rfl, q1, q2, HR, by simp, by simp, by simp, by simp, hs0⟩
  case round =>
    clear HR hs0 hU1 hL1
    obtain ⟨k, u, l, hk, rfl, hu, hl, hR, c0, c1, f0, f1, hB'⟩ := hrel
    by_cases hlt : k < n
    · have hbx := World.block_lt_of_cell? w _ (HC.out k hlt)
      have g1 : wr.cell? ⟨b, o + k, none⟩ = some (rndV 84 (ks.getD k 0)) := by rw [hB'.out.cell (p := ⟨b, o + k, none⟩) hbx]; exact HC.out k hlt
      have hy : ks.getD k 0 < 65536 := HK.out _ (by have h : k < ks.length := by rw [HX.out]; exact hlt
                                                    simp only [List.getD, List.getElem?_eq_getElem h, Option.getD_some]; exact List.getElem_mem _)
      have HN : Hid (R = fwdL (ks.drop (k + 1)) (fwd (ks.getD k 0) (u, l))) := by
        show R = _
        rw [hR.out, dropN_getD (by rw [HX.out]; exact hlt)]; rfl
      have hsm := fwd_small (k := ks.getD k 0) (b := (u, l)) ⟨hu, hl⟩
      generalize ks.getD k 0 = y at *
      unfold rndV at g1
      have ht := fun wx => forth_c y u l wx hy hu hl
      obtain ⟨p, hp⟩ : ∃ p, p = fwd y (u, l) := ⟨_, rfl⟩
      rw [← hp] at HN hsm
      have ht' : ∀ wx, Calls Try.prog 84 #[.int .i64 y, .agg #[.int .i64 u, .int .i64 l]] wx fun e w' => e = .returned (.agg #[.int .i64 p.1, .int .i64 p.2]) ∧ Below wx.heap.size wx w' := by rw [hp]; exact ht
      obtain ⟨p1, p2⟩ := p
      dsimp only at ht'
      clear ht hp hR hbx
      go_wp2_with fail
      refine (ht' _).mono ?_
      rintro e w2 ⟨rfl, hb2⟩
      have d0 : w2.cell? ⟨w.heap.size, 0, none⟩ = some (.int .i64 u) := by rw [hb2.cell (p := ⟨w.heap.size, 0, none⟩) (World.block_lt_of_cell? _ _ c0)]; exact c0
      have d1 : w2.cell? ⟨w.heap.size, 1, none⟩ = some (.int .i64 l) := by rw [hb2.cell (p := ⟨w.heap.size, 1, none⟩) (World.block_lt_of_cell? _ _ c1)]; exact c1
      have e0 : w2.frozen? ⟨w.heap.size, 0, none⟩ = false := by rw [hb2.frozen (p := ⟨w.heap.size, 0, none⟩) (World.block_lt_of_cell? _ _ c0)]; exact f0
      have e1 : w2.frozen? ⟨w.heap.size, 1, none⟩ = false := by rw [hb2.frozen (p := ⟨w.heap.size, 1, none⟩) (World.block_lt_of_cell? _ _ c1)]; exact f1
      have HB2 : Hid (Below w.heap.size w w2) := hB'.out.trans (hb2.mono hB'.out.size)
      clear c0 c1 f0 f1 hb2 ht'
      go_wp2
      go_roundw
      case rel => exact ⟨k + 1, p1, p2, by omega, by go_num, hsm.1, hsm.2, HN, (set2 w2 _ _ _ _ _ d0 d1).1, (set2 w2 _ _ _ _ _ d0 d1).2, by simp [e0], by simp [e1], (HB2.out.setCell (Nat.le_refl _) _).setCell (Nat.le_refl _) _⟩
      case measure => simp [intOf]; omega
    · have HE : Hid (R = (u, l)) := by
        show R = _
        rw [hR.out, List.drop_of_length_le (by rw [HX.out]; omega)]; rfl
      clear hR
      go_wp2
      go_ret
      refine ⟨ret_int ?_, hB'.out⟩
      rw [HE.out]
      have := i64_or hu hl
      rw [show ((256 * u : Nat) : Int) = (u : Int) * 256 by omega] at this
      rw [this]; rfl

theorem thruF_c (ao : Option Addr) (n c B : Nat) (ks : List Nat) (w : World) (hx : ks.length = n) (hn : n ≤ 8) (hB : B < 65536) (hk : ∀ k ∈ ks, k < 65536) (hr : RdR 84 w ao ks) :
    Calls Try.prog 79 #[.slice ao n c, .int .i64 B] w fun e w' => e = .returned (.int .i64 (joinN (fwdL ks (cutN B)) : Nat)) ∧ Below w.heap.size w w' := by
  rcases hr with rfl | ⟨b, o, rfl, hc⟩
  · simp at hx; subst hx
    exact thru_nil ao c B w hB
  · exact thruF_at b o n c B ks w hx hn hB hk (by rw [← hx]; exact hc)

/-- Rounds back, in the order in which they are gone through. -/
def bckL : List Nat → Nat × Nat → Nat × Nat
  | [], b => b
  | k :: r, b => bckL r (bwd k b)
theorem bckL_app (k : Nat) : ∀ (ks : List Nat) (b : Nat × Nat), bckL (ks ++ [k]) b = bwd k (bckL ks b)
  | [], _ => rfl
  | j :: r, b => by simp [bckL, bckL_app k r]
theorem bckL_reverse : ∀ (ks : List Nat) (b : Nat × Nat), bckL ks.reverse b = bwdL ks b
  | [], _ => rfl
  | k :: r, b => by rw [List.reverse_cons, bckL_app, bckL_reverse r b]; rfl

end Go.Proofs.Ytnfoflijapbkdaa
