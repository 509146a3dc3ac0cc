/- Chapter 15: pairsTo of the program. -/
import Derived.Test.YtbjpkklonjlmiaaRP15
import Derived.Test.YtbjpkklonjlmiaaP15B
namespace Go.Proofs.Ytbjpkklonjlmiaa
set_option linter.unusedVariables false
set_option maxRecDepth 1000000
set_option linter.unusedSimpArgs false
open Go.RowKit Go.Sort

set_option maxHeartbeats 8000000 in
theorem pairsTo_c (g0 n pn : Nat) (so : Option Addr) (m sc : Nat) (ys : List Stp) (w : World) (hg : g0 < n) (hn6 : n ≤ 6) (hm : ys.length = m) (hm30 : m ≤ 30) (hb : StB n pn ys) (hr : RdQ w so ys) :
    Calls Try.prog 48 #[.int .i64 g0, .int .i64 n, .slice so m sc] w fun e w' => ∃ g, e = .returned (.slice (some ⟨g, 0, none⟩) n n) ∧ Own w' w.heap.size (.slice (some ⟨g, 0, none⟩) n n) (farL ys n g0) ∧ Below w.heap.size w w' := by
  have HM : Hid (ys.length = m) := hm
  have HSB : Hid (StB n pn ys) := hb
  have HR : Hid (∀ wx, Below w.heap.size w wx → RdQ wx so ys) := fun wx h => hr.later h
  have hn1 : 1 ≤ n := by omega
  have hlit := litI w (-1)
  have hbl := balloc w (.cells #[.int .i64 (-1)] 3)
  obtain ⟨U, hU⟩ : ∃ X, w.alloc (.cells #[.int .i64 (-1)] 3) = X := ⟨_, rfl⟩
  rw [hU] at hlit hbl
  have q := repeat_c (some ⟨w.heap.size, 0, none⟩) n U hn1 hn6 hlit
  have HBU : Hid (Below w.heap.size w U) := hbl
  clear hb hr hm hlit hbl
  go_enter Try.func48, Try.ntmps48
  go_wp2_with fail
  refine q.mono ?_
  clear q
  rintro e w1 ⟨g, rfl, ho, hb⟩
  have HB1 : Hid (Below w.heap.size w w1) := HBU.out.trans (hb.mono HBU.out.size)
  have hO1 : Own w1 w.heap.size (.slice (some ⟨g, 0, none⟩) n n) (List.replicate n (-1)) := ho.mono HBU.out.size
  have hgw : w.heap.size ≤ g := own_block_ge hO1 _ rfl
  have gs := Own.cell (g := g) (cap := n) (xs := List.replicate n (-1)) (by rw [List.length_replicate]; exact hO1) g0 (by rw [List.length_replicate]; exact hg)
  have hfz := Own.free (g := g) (cap := n) (xs := List.replicate n (-1)) (by rw [List.length_replicate]; exact hO1) g0
  have hst := hO1.set g0 0
  have HB2 : Hid (Below w.heap.size w (w1.setCell ⟨g, g0, none⟩ (.int .i64 0))) := HB1.out.setCell (by show _ ≤ g; exact hgw) _
  have HO2 : Hid (Own (w1.setCell ⟨g, g0, none⟩ (.int .i64 0)) w.heap.size (.slice (some ⟨g, 0, none⟩) n n) (farN ys n g0 0)) := hst.1
  have gz : (0 : Int) ≤ (g0 : Int) := by omega
  have gn : (g0 : Int) < (n : Int) := by omega
  clear hb ho hO1 hst hU HBU
  obtain ⟨W2, hW2⟩ : ∃ X, w1.setCell ⟨g, g0, none⟩ (.int .i64 0) = X := ⟨_, rfl⟩
  rw [hW2] at HB2 HO2
  go_wp2_with fail
  clear hW2 gs hfz HB1
  go_loopw [18] (fun iv wr => ∃ r : Nat, r ≤ n ∧ iv = .int .i64 r ∧ Hid (Own wr w.heap.size (.slice (some ⟨g, 0, none⟩) n n) (farN ys n g0 r)) ∧ Hid (Below w.heap.size w wr)) (fun iv _ => n - (intOf iv).toNat)
  case atStart => exact ⟨0, Nat.zero_le _, rfl, HO2, HB2⟩
  case round =>
    clear HO2 HB2
    obtain ⟨r, hrn, rfl, HO, HB⟩ := hrel
    by_cases hlt : r < n
    case neg =>
      obtain rfl : r = n := by omega
      go_wp2
      go_ret
      exact ⟨g, rfl, HO.out, HB.out⟩
    have hrz : (r : Int) < (n : Int) := by omega
    have HF0 : Hid ((farN ys n g0 r).length = n) := farN_length _ _ _ _
    have HNX : Hid (farN ys n g0 (r + 1) = bump r (farN ys n g0 r) ys) := rfl
    have HO0 : Hid (Own wr w.heap.size (.slice (some ⟨g, 0, none⟩) n n) (bump r (farN ys n g0 r) (ys.take 0))) := by show Own _ _ _ _; rw [List.take_zero, bump_nil]; exact HO.out
    generalize farN ys n g0 r = F at HF0 HNX HO0
    clear HO
    go_wp2
    go_loopw [23] (fun jv wr2 => ∃ k : Nat, k ≤ m ∧ jv = .int .i64 k ∧ Hid (Own wr2 w.heap.size (.slice (some ⟨g, 0, none⟩) n n) (bump r F (ys.take k))) ∧ Hid (Below w.heap.size w wr2)) (fun jv _ => m - (intOf jv).toNat)
    case atStart => exact ⟨0, Nat.zero_le _, rfl, HO0, HB⟩
    case round =>
      clear HO0 HB
      obtain ⟨k, hkm, rfl, HO, HB⟩ := hrel
      by_cases hlk : k < m
      case neg =>
        obtain rfl : k = m := by omega
        have HO3 : Hid (Own wr w.heap.size (.slice (some ⟨g, 0, none⟩) n n) (farN ys n g0 (r + 1))) := by
          have := HO.out
          rw [List.take_of_length_le (by rw [HM.out]; exact Nat.le_refl _), ← HNX.out] at this
          exact this
        clear HO
        go_wp2
        go_roundw
        case rel => exact ⟨r + 1, by omega, by go_num, HO3, HB⟩
        case measure => simp [intOf]; omega
      have hkl : k < ys.length := by rw [HM.out]; exact hlk
      obtain ⟨b, o, rfl, u0, u1, u2⟩ := (HR.out wr HB.out).get hkl
      have hy := HSB.out _ (mem_getD (0, 0, 0) hkl)
      have htk : ys.take (k + 1) = ys.take k ++ [ys.getD k (0, 0, 0)] := take_snoc (0, 0, 0) hkl
      generalize ys.getD k (0, 0, 0) = y at u0 u1 u2 hy htk
      obtain ⟨y0, y1, y2⟩ := y
      obtain ⟨fr, hfr⟩ : ∃ fr : Nat, y0 = (fr : Int) := ⟨y0.toNat, by have := hy.1; dsimp only at this; omega⟩
      obtain ⟨tt, htt⟩ : ∃ tt : Nat, y1 = (tt : Int) := ⟨y1.toNat, by have := hy.2.2.1; dsimp only at this; omega⟩
      subst hfr
      subst htt
      dsimp only at hy u0 u1 u2
      have hfn : fr < n := by omega
      have htn : tt < n := by omega
      have hsn := bump_snoc (r := (r : Int)) (far := F) (l := ys.take k) (y := ((fr : Int), (tt : Int), y2)) (by omega) (by rw [HF0.out]; simpa using hfn) (by rw [HF0.out]; simpa using htn)
      rw [← htk] at hsn
      have HCL : Hid ((bump r F (ys.take k)).length = n) := by show _ = _; rw [bump_length, HF0.out]
      generalize bump r F (ys.take k) = C at HO HCL hsn
      unfold relax at hsn
      simp only [Int.toNat_natCast] at hsn
      have HSN : Hid ((if C.getD tt 0 = (r : Int) ∧ C.getD fr 0 = -1 then C.set fr ((r : Int) + 1) else C) = bump r F (ys.take (k + 1))) := hsn
      have k0 : (0 : Int) ≤ (k : Int) := by omega
      have k1 : (k : Int) < (m : Int) := by omega
      have fr0 : (0 : Int) ≤ (fr : Int) := by omega
      have fr1 : (fr : Int) < (n : Int) := by omega
      have tt0 : (0 : Int) ≤ (tt : Int) := by omega
      have tt1 : (tt : Int) < (n : Int) := by omega
      clear hkl htk hsn hy
      -- the step's box
      have hX := x3_new wr (.int .i64 0) (.int .i64 0) (.int .i64 0) 78 wr.heap.size rfl
      have hbU := balloc wr (.cells #[.int .i64 0, .int .i64 0, .int .i64 0] 78)
      obtain ⟨U, hU⟩ : ∃ X, wr.alloc (.cells #[.int .i64 0, .int .i64 0, .int .i64 0] 78) = X := ⟨_, rfl⟩
      rw [hU] at hX hbU
      have hXF := ((hX.set0 (.int .i64 fr)).set1 (.int .i64 tt)).set2 (.int .i64 y2)
      have hbV : Below wr.heap.size wr (((U.setCell ⟨wr.heap.size, 0, none⟩ (.int .i64 fr)).setCell ⟨wr.heap.size, 1, none⟩ (.int .i64 tt)).setCell ⟨wr.heap.size, 2, none⟩ (.int .i64 y2)) := ((hbU.setCell (Nat.le_refl _) _).setCell (Nat.le_refl _) _).setCell (Nat.le_refl _) _
      obtain ⟨⟨c0, c1x, c2x⟩, fz⟩ := hX
      have z0 := fz 0
      have z1 := fz 1
      have z2 := fz 2
      clear fz
      obtain ⟨W, hW⟩ : ∃ X, ((U.setCell ⟨wr.heap.size, 0, none⟩ (.int .i64 fr)).setCell ⟨wr.heap.size, 1, none⟩ (.int .i64 tt)).setCell ⟨wr.heap.size, 2, none⟩ (.int .i64 y2) = X := ⟨_, rfl⟩
      rw [hW] at hXF hbV
      have HOW : Hid (Own W w.heap.size (.slice (some ⟨g, 0, none⟩) n n) C) := HO.out.later hbV
      have HBW : Hid (Below w.heap.size w W) := HB.out.trans (hbV.mono HB.out.size)
      have ct := Own.cell (g := g) (cap := n) (xs := C) (by rw [HCL.out]; exact HOW.out) tt (by rw [HCL.out]; exact htn)
      have cf := Own.cell (g := g) (cap := n) (xs := C) (by rw [HCL.out]; exact HOW.out) fr (by rw [HCL.out]; exact hfn)
      have hfz := Own.free (g := g) (cap := n) (xs := C) (by rw [HCL.out]; exact HOW.out) fr
      obtain ⟨⟨e0, e1, e2⟩, _⟩ := hXF
      generalize hct : C.getD tt 0 = vt at ct HSN
      generalize hcf : C.getD fr 0 = vf at cf HSN
      by_cases h1 : vt = (r : Int)
      · have h1b : (vt == (r : Int)) = true := by rw [h1]; simp
        by_cases h2 : vf = -1
        · have h2b : (vf == (-1 : Int)) = true := by rw [h2]; simp
          have hst := HOW.out.set fr ((r : Int) + 1)
          have HOF : Hid (Own (W.setCell ⟨g, fr, none⟩ (.int .i64 ((r : Int) + 1))) w.heap.size (.slice (some ⟨g, 0, none⟩) n n) (bump r F (ys.take (k + 1)))) := by
            show Own _ _ _ _
            rw [← HSN.out, if_pos ⟨h1, h2⟩]
            exact hst.1
          have HBF : Hid (Below w.heap.size w (W.setCell ⟨g, fr, none⟩ (.int .i64 ((r : Int) + 1)))) := HBW.out.setCell (by show _ ≤ g; exact hgw) _
          clear hst h1 h2 hct hcf hbU hbV
          go_wp2
          go_roundw
          case rel => exact ⟨k + 1, by omega, by go_num, HOF, HBF⟩
          case measure => simp [intOf]; omega
        · have h2b : (vf == (-1 : Int)) = false := by rw [beq_eq_false_iff_ne]; exact h2
          have HOF : Hid (Own W w.heap.size (.slice (some ⟨g, 0, none⟩) n n) (bump r F (ys.take (k + 1)))) := by
            show Own _ _ _ _
            rw [← HSN.out, if_neg (fun h => h2 h.2)]
            exact HOW.out
          clear h1 h2 hct hcf hbU hbV
          go_wp2
          go_roundw
          case rel => exact ⟨k + 1, by omega, by go_num, HOF, HBW⟩
          case measure => simp [intOf]; omega
      · have h1b : (vt == (r : Int)) = false := by rw [beq_eq_false_iff_ne]; exact h1
        have HOF : Hid (Own W w.heap.size (.slice (some ⟨g, 0, none⟩) n n) (bump r F (ys.take (k + 1)))) := by
          show Own _ _ _ _
          rw [← HSN.out, if_neg (fun h => h1 h.1)]
          exact HOW.out
        clear h1 hct hcf hbU hbV
        go_wp2
        go_roundw
        case rel => exact ⟨k + 1, by omega, by go_num, HOF, HBW⟩
        case measure => simp [intOf]; omega

end Go.Proofs.Ytbjpkklonjlmiaa
