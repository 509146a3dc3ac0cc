/- Chapter 15: l15Far of the specification. -/
import Derived.Test.YtbjpkklonjlmiaaSS15B
import Derived.Test.YtbjpkklonjlmiaaP15D
namespace Go.Proofs.Ytbjpkklonjlmiaa
set_option linter.unusedVariables false
set_option maxRecDepth 1000000
set_option linter.unusedSimpArgs false
open Go.RowKit Go.Sort

set_option maxHeartbeats 16000000 in
theorem l15Far_c (sa : Option Addr) (sn sc : Nat) (la : Option Addr) (ln lc : Nat) (t : TbV) (g0 n : Nat) (w : World) (h : RdT w sa sn sc la ln lc t) (hg : GoodT t) (hn : t.s = (n : Int)) (hg0 : g0 < n) :
    Calls Try.prog 55 #[.agg #[.int .i64 t.s, .slice sa sn sc, .slice la ln lc], .int .i64 g0] w fun e w' => ∃ a' c', e = .returned (.slice a' n c') ∧ Own w' w.heap.size (.slice a' n c') (farT t g0) ∧ Below w.heap.size w w' := by
  have HX0 : Hid (X3 (w.alloc (.cells #[.int .i64 t.s, .slice sa sn sc, .slice la ln lc] 26)) w.heap.size (.int .i64 t.s) (.slice sa sn sc) (.slice la ln lc)) := x3_new w _ _ _ _ _ rfl
  have HB0 : Hid (Below w.heap.size w (w.alloc (.cells #[.int .i64 t.s, .slice sa sn sc, .slice la ln lc] 26))) := balloc w _
  have HRN : Hid (∀ wx, Below w.heap.size w wx → RdNN wx sa t.ps) := fun wx hb => h.rd.s.later hb
  have HPL : Hid (t.ps.length = sn) := h.rd.sl
  have HPP : Hid (∀ k, k < sn → ∃ p0 p1 : Nat, (t.ps.getD k []).length = 2 ∧ (t.ps.getD k []).getD 0 0 = (p0 : Int) ∧ (t.ps.getD k []).getD 1 0 = (p1 : Int) ∧ p0 < p1 ∧ p1 < n) := fun k hk => by
    have := hg.two k (by rw [h.rd.sl]; exact hk)
    rw [hn] at this
    exact ⟨((t.ps.getD k []).getD 0 0).toNat, ((t.ps.getD k []).getD 1 0).toNat, this.1, by omega, by omega, by omega, by omega⟩
  have hn6 : n ≤ 6 := by have := hg.s6; omega
  have hsn15 : sn ≤ 15 := by have := hg.pl; rw [h.rd.sl] at this; exact this
  have HSB : Hid (StB n t.ps.length (stT t.ps sn)) := by have := hg.stB (m := sn) (by rw [h.rd.sl]; exact Nat.le_refl _); rw [hn, Int.toNat_natCast] at this; exact this
  have HFE : Hid (farT t g0 = farN (stT t.ps sn) n g0 n) := by show _ = _; unfold farT farL; rw [hn, Int.toNat_natCast, h.rd.sl]
  obtain ⟨V, hV⟩ : ∃ V, w.alloc (.cells #[.int .i64 t.s, .slice sa sn sc, .slice la ln lc] 26) = V := ⟨_, rfl⟩
  rw [hV] at HX0 HB0
  rw [hn] at HX0 hV ⊢
  obtain ⟨⟨f0, f1, f2⟩, _⟩ := HX0.out
  have hVs : w.heap.size + 1 = V.heap.size := by rw [← hV]; simp
  clear h hg hn
  go_enter Try.func55, Try.ntmps55
  go_wp2_with fail
  clear hV f0 f1 f2
  go_loopw [5, 6] (fun ov iv wr => ∃ (k : Nat) (a' : Option Addr) (c' : Nat), k ≤ n ∧ iv = .int .i64 k ∧ ov = .slice a' k c' ∧ Hid (Own wr V.heap.size (.slice a' k c') (List.replicate k (-1))) ∧ Hid (X3 wr w.heap.size (.int .i64 n) (.slice sa sn sc) (.slice la ln lc)) ∧ Hid (Below w.heap.size w wr) ∧ V.heap.size ≤ wr.heap.size) (fun _ iv _ => n - (intOf iv).toNat)
  case atStart => exact ⟨0, none, 0, Nat.zero_le _, rfl, rfl, World.ownsRow_nil _ _ _ _, HX0, HB0, Nat.le_refl _⟩
  case round =>
    clear HX0 HB0
    obtain ⟨k, a1, c1, hk, rfl, rfl, HO, HX, HB, hsz⟩ := hrel
    obtain ⟨⟨f0, f1, f2⟩, _⟩ := HX.out
    by_cases hlt : k < n
    · have hlit := litI wr (-1)
      have hbl := balloc wr (.cells #[.int .i64 (-1)] 3)
      obtain ⟨U, hU⟩ : ∃ X, wr.alloc (.cells #[.int .i64 (-1)] 3) = X := ⟨_, rfl⟩
      rw [hU] at hlit hbl
      obtain ⟨v', w3, r1, o1, gg, b1⟩ := appendI_run U V.heap.size (.slice a1 k c1) (List.replicate k (-1)) [-1] (some ⟨wr.heap.size, 0, none⟩) 1 1 (HO.out.later hbl) hlit rfl (by intro h; cases h) (by rw [List.length_replicate]; simp; omega) (by have := hbl.size; omega)
      obtain ⟨a3, c3, hv3⟩ := o1.shape
      rw [List.length_append, List.length_replicate] at hv3
      simp only [List.length_cons, List.length_nil, Nat.zero_add] at hv3
      subst hv3
      have HO3 : Hid (Own w3 V.heap.size (.slice a3 (k + 1) c3) (List.replicate (k + 1) (-1))) := by show Own _ _ _ _; rw [List.replicate_succ']; exact o1
      have HB3 : Hid (Below w.heap.size w w3) := (HB.out.trans (hbl.mono HB.out.size)).trans (b1.mono (by omega))
      have HX3 : Hid (X3 w3 w.heap.size (.int .i64 n) (.slice sa sn sc) (.slice la ln lc)) := (HX.out.later hbl).grown gg (fun e => by have := own_block_ge HO.out _ e.symm; omega)
      have hsz3 : V.heap.size ≤ w3.heap.size := Nat.le_trans hsz (Nat.le_trans hbl.size b1.size)
      clear o1 gg b1 hbl hlit HO HB HX
      go_wp2_with (first | (at_builtin; refine Lib.wpList_append_run _ rfl _ _ _ _ rfl _ _ rfl rfl _ _ (r1 _) ?_; clear r1))
      go_roundw
      case rel => exact ⟨k + 1, a3, c3, by omega, by go_num, rfl, HO3, HX3, HB3, hsz3⟩
      case measure => simp [intOf]; omega
    have hkn := Nat.le_antisymm (Nat.not_lt.1 hlt) hk
    subst hkn
    clear hlt hk
    rcases HO.out.addr with ⟨_, h0, _⟩ | ⟨g, rfl, hg1, hg2⟩
    · exfalso; omega
    have hfz := Own.free (g := g) (cap := c1) (xs := List.replicate n (-1)) (by rw [List.length_replicate]; exact HO.out) g0
    have gs := Own.cell (g := g) (cap := c1) (xs := List.replicate n (-1)) (by rw [List.length_replicate]; exact HO.out) g0 (by rw [List.length_replicate]; exact hg0)
    have hst := HO.out.set g0 0
    have HO2 : Hid (Own (wr.setCell ⟨g, g0, none⟩ (.int .i64 0)) V.heap.size (.slice (some ⟨g, 0, none⟩) n c1) (farN (stT t.ps sn) n g0 0)) := hst.1
    have HB2 : Hid (Below w.heap.size w (wr.setCell ⟨g, g0, none⟩ (.int .i64 0))) := HB.out.setCell (by show _ ≤ g; omega) _
    have HX2 : Hid (X3 (wr.setCell ⟨g, g0, none⟩ (.int .i64 0)) w.heap.size (.int .i64 n) (.slice sa sn sc) (.slice la ln lc)) := HX.out.other (by omega)
    have hsz2 : V.heap.size ≤ (wr.setCell ⟨g, g0, none⟩ (.int .i64 0)).heap.size := by rw [World.size_setCell]; exact hsz
    have gz : (0 : Int) ≤ (g0 : Int) := by omega
    have gn : (g0 : Int) < (n : Int) := by omega
    clear hst HO HB HX
    obtain ⟨W2, hW2⟩ : ∃ X, wr.setCell ⟨g, g0, none⟩ (.int .i64 0) = X := ⟨_, rfl⟩
    rw [hW2] at HB2 HO2 HX2 hsz2
    go_wp2_with fail
    clear hW2 gs hfz
    clear f0 f1 f2
    go_loopw [7] (fun dv wr => ∃ r : Nat, r ≤ n ∧ dv = .int .i64 r ∧ Hid (Own wr V.heap.size (.slice (some ⟨g, 0, none⟩) n c1) (farN (stT t.ps sn) n g0 r)) ∧ Hid (X3 wr w.heap.size (.int .i64 n) (.slice sa sn sc) (.slice la ln lc)) ∧ Hid (Below w.heap.size w wr) ∧ V.heap.size ≤ wr.heap.size) (fun dv _ => n - (intOf dv).toNat)
    case atStart => exact ⟨0, Nat.zero_le _, rfl, HO2, HX2, HB2, hsz2⟩
    case round =>
      clear HO2 HX2 HB2 hsz2
      obtain ⟨r, hr, rfl, HO, HX, HB, hsz⟩ := hrel
      obtain ⟨⟨f0, f1, f2⟩, _⟩ := HX.out
      by_cases hlt : r < n
      case neg =>
        have hrn := Nat.le_antisymm (Nat.not_lt.1 hlt) hr
        subst hrn
        have HE : Hid (Own wr w.heap.size (.slice (some ⟨g, 0, none⟩) n c1) (farT t g0)) := by
          show Own _ _ _ _
          rw [HFE.out]
          exact HO.out.mono (by omega)
        clear HO
        go_wp2
        go_ret
        exact ⟨_, _, rfl, HE.out, HB.out⟩
      have HLO : Hid (∀ i, i < n → -1 ≤ (farN (stT t.ps sn) n g0 r).getD i 0) := (farN_ok HSB.out hg0 r).lo
      have HF0 : Hid ((farN (stT t.ps sn) n g0 r).length = n) := farN_length _ _ _ _
      have HNX : Hid (bump r (farN (stT t.ps sn) n g0 r) (stT t.ps sn) = farN (stT t.ps sn) n g0 (r + 1)) := rfl
      generalize farN (stT t.ps sn) n g0 r = F at HO HLO HF0 HNX
      have HO0 : Hid (Own wr V.heap.size (.slice (some ⟨g, 0, none⟩) n c1) (bump r F (stT t.ps 0))) := by
        show Own _ _ _ _
        rw [show stT t.ps 0 = [] from rfl, bump_nil]
        exact HO.out
      have r0 : (0 : Int) ≤ (r : Int) := by omega
      have r1 : (r : Int) < (n : Int) := by omega
      clear HO
      go_wp2_with fail
      clear f0 f1 f2
      go_loopw [31] (fun jv wr2 => ∃ k : Nat, k ≤ sn ∧ jv = .int .i64 k ∧ Hid (Own wr2 V.heap.size (.slice (some ⟨g, 0, none⟩) n c1) (bump r F (stT t.ps k))) ∧ Hid (X3 wr2 w.heap.size (.int .i64 n) (.slice sa sn sc) (.slice la ln lc)) ∧ Hid (Below w.heap.size w wr2) ∧ V.heap.size ≤ wr2.heap.size) (fun jv _ => sn - (intOf jv).toNat)
      case atStart => exact ⟨0, Nat.zero_le _, rfl, HO0, HX, HB, hsz⟩
      case round =>
        clear HO0 HX HB hsz
        obtain ⟨k, hk, rfl, HO, HX, HB, hsz⟩ := hrel
        by_cases hlk : k < sn
        case neg =>
          have hks := Nat.le_antisymm (Nat.not_lt.1 hlk) hk
          have HO3 : Hid (Own wr V.heap.size (.slice (some ⟨g, 0, none⟩) n c1) (farN (stT t.ps sn) n g0 (r + 1))) := by
            have := HO.out
            rw [← hks, HNX.out] at this
            exact this
          have hge : ¬ (k : Int) < (sn : Int) := by omega
          clear HO hks
          go_wp2
          go_roundw
          case rel => exact ⟨r + 1, by omega, by go_num, HO3, HX, HB, hsz⟩
          case measure => simp [intOf]; omega
        have hkl : k < t.ps.length := by rw [HPL.out]; exact hlk
        obtain ⟨pb, po, ro, rc, hsa, grow, hro, _⟩ := (HRN.out w (Below.refl _ _)).get hkl
        obtain ⟨p0, p1, h2, e0, e1, h01, h1n⟩ := HPP.out k hlk
        have hst := pair_bump (d := r) (k := k) HF0.out HLO.out (by omega : p0 < n) h1n (by omega) e0 e1
        have HCL : Hid ((bump r F (stT t.ps k)).length = n) := by show _ = _; rw [bump_length, HF0.out]
        obtain ⟨b2, o2, hro2, u0⟩ := hro.get (k := 0) (by omega)
        obtain ⟨_, _, e, u1⟩ := hro.get (k := 1) (by omega)
        rw [hro2] at e
        simp only [Option.some.injEq, Addr.mk.injEq] at e
        obtain ⟨rfl, rfl, _⟩ := e
        rw [Nat.add_zero, e0] at u0
        rw [e1] at u1
        rw [h2] at grow
        subst hro2
        subst hsa
        have hC0 := Own.cell (g := g) (cap := c1) (xs := bump r F (stT t.ps k)) (by rw [HCL.out]; exact HO.out) p0 (by rw [HCL.out]; omega)
        have hC1 := Own.cell (g := g) (cap := c1) (xs := bump r F (stT t.ps k)) (by rw [HCL.out]; exact HO.out) p1 (by rw [HCL.out]; omega)
        have z0 := Own.free (g := g) (cap := c1) (xs := bump r F (stT t.ps k)) (by rw [HCL.out]; exact HO.out) p0
        have z1 := Own.free (g := g) (cap := c1) (xs := bump r F (stT t.ps k)) (by rw [HCL.out]; exact HO.out) p1
        generalize bump r F (stT t.ps k) = C at HO hst HCL hC0 hC1
        have HST : Hid (bump r F (stT t.ps (k + 1)) = if C.getD p0 0 = (r : Int) ∧ C.getD p1 0 < 0 then C.set p1 ((r : Int) + 1) else if C.getD p1 0 = (r : Int) ∧ C.getD p0 0 < 0 then C.set p0 ((r : Int) + 1) else C) := hst
        generalize C.getD p0 0 = v0 at hC0 HST
        have HV1 : Hid (∀ x : Int, (C.set p1 x).getD p1 0 = x) := fun x => by rw [getD_set9 _ _ _ _ (by rw [HCL.out]; omega), if_pos rfl]
        generalize C.getD p1 0 = v1 at hC1 HST
        have growr := cell_keep (S := 0) HB.out grow
        have u0r := cell_keep (S := 0) HB.out u0
        have u1r := cell_keep (S := 0) HB.out u1
        have U0 : Hid (w.cell? ⟨b2, o2, none⟩ = some (.int .i64 p0)) := u0
        have U1 : Hid (w.cell? ⟨b2, o2 + 1, none⟩ = some (.int .i64 p1)) := u1
        have k0 : (0 : Int) ≤ (k : Int) := by omega
        have k1 : (k : Int) < (sn : Int) := by omega
        have p00 : (0 : Int) ≤ (p0 : Int) := by omega
        have p01 : (p0 : Int) < (n : Int) := by omega
        have p10 : (0 : Int) ≤ (p1 : Int) := by omega
        have p11 : (p1 : Int) < (n : Int) := by omega
        clear hkl hst u0 u1 grow hro e0 e1 h2 HPP HRN
        by_cases hv0 : v0 = (r : Int)
        · have b0 : (v0 == (r : Int)) = true := by rw [hv0]; simp
          by_cases hv1 : v1 < 0
          · have HO3 : Hid (Own (wr.setCell ⟨g, p1, none⟩ (.int .i64 ((r : Int) + 1))) V.heap.size (.slice (some ⟨g, 0, none⟩) n c1) (bump r F (stT t.ps (k + 1)))) := by show Own _ _ _ _; rw [HST.out, if_pos ⟨hv0, hv1⟩]; exact (HO.out.set p1 _).1
            have HX3 : Hid (X3 (wr.setCell ⟨g, p1, none⟩ (.int .i64 ((r : Int) + 1))) w.heap.size (.int .i64 n) (.slice (some ⟨pb, po, none⟩) sn sc) (.slice la ln lc)) := HX.out.other (by omega)
            have HB3 : Hid (Below w.heap.size w (wr.setCell ⟨g, p1, none⟩ (.int .i64 ((r : Int) + 1)))) := HB.out.setCell (by show _ ≤ g; omega) _
            have hsz3 : V.heap.size ≤ (wr.setCell ⟨g, p1, none⟩ (.int .i64 ((r : Int) + 1))).heap.size := by rw [World.size_setCell]; exact hsz
            have cA := Own.cell (g := g) (cap := c1) (xs := C.set p1 ((r : Int) + 1)) (by rw [List.length_set, HCL.out]; exact (HO.out.set p1 _).1) p1 (by rw [List.length_set, HCL.out]; omega)
            rw [HV1.out] at cA
            have u0A := cell_keep (S := 0) HB3.out U0.out
            have u1A := cell_keep (S := 0) HB3.out U1.out
            obtain ⟨W3, hW3⟩ : ∃ X, wr.setCell ⟨g, p1, none⟩ (.int .i64 ((r : Int) + 1)) = X := ⟨_, rfl⟩
            rw [hW3] at HO3 HX3 HB3 hsz3 cA u0A u1A
            have bq : ((r : Int) + 1 == (r : Int)) = false := by rw [beq_eq_false_iff_ne]; omega
            clear HST HO HX HB
            go_wp2
            go_roundw
            case rel => exact ⟨k + 1, by omega, by go_num, HO3, HX3, HB3, hsz3⟩
            case measure => simp [intOf]; omega
          · have c1b : ¬ v0 < 0 := by omega
            by_cases hw1 : v1 = (r : Int)
            · have HO3 : Hid (Own wr V.heap.size (.slice (some ⟨g, 0, none⟩) n c1) (bump r F (stT t.ps (k + 1)))) := by show Own _ _ _ _; rw [HST.out, if_neg (by omega), if_neg (by omega)]; exact HO.out
              have b1 : (v1 == (r : Int)) = true := by rw [hw1]; simp
              clear HST HO
              go_wp2
              go_roundw
              case rel => exact ⟨k + 1, by omega, by go_num, HO3, HX, HB, hsz⟩
              case measure => simp [intOf]; omega
            · have HO3 : Hid (Own wr V.heap.size (.slice (some ⟨g, 0, none⟩) n c1) (bump r F (stT t.ps (k + 1)))) := by show Own _ _ _ _; rw [HST.out, if_neg (by omega), if_neg (by omega)]; exact HO.out
              have b1 : (v1 == (r : Int)) = false := by rw [beq_eq_false_iff_ne]; exact hw1
              clear HST HO
              go_wp2
              go_roundw
              case rel => exact ⟨k + 1, by omega, by go_num, HO3, HX, HB, hsz⟩
              case measure => simp [intOf]; omega
        · have b0 : (v0 == (r : Int)) = false := by rw [beq_eq_false_iff_ne]; exact hv0
          by_cases hw1 : v1 = (r : Int)
          · have b1 : (v1 == (r : Int)) = true := by rw [hw1]; simp
            by_cases hw0 : v0 < 0
            · have HO3 : Hid (Own (wr.setCell ⟨g, p0, none⟩ (.int .i64 ((r : Int) + 1))) V.heap.size (.slice (some ⟨g, 0, none⟩) n c1) (bump r F (stT t.ps (k + 1)))) := by show Own _ _ _ _; rw [HST.out, if_neg (fun h => hv0 h.1), if_pos ⟨hw1, hw0⟩]; exact (HO.out.set p0 _).1
              have HX3 : Hid (X3 (wr.setCell ⟨g, p0, none⟩ (.int .i64 ((r : Int) + 1))) w.heap.size (.int .i64 n) (.slice (some ⟨pb, po, none⟩) sn sc) (.slice la ln lc)) := HX.out.other (by omega)
              have HB3 : Hid (Below w.heap.size w (wr.setCell ⟨g, p0, none⟩ (.int .i64 ((r : Int) + 1)))) := HB.out.setCell (by show _ ≤ g; omega) _
              have hsz3 : V.heap.size ≤ (wr.setCell ⟨g, p0, none⟩ (.int .i64 ((r : Int) + 1))).heap.size := by rw [World.size_setCell]; exact hsz
              clear HST HO HX HB
              go_wp2
              go_roundw
              case rel => exact ⟨k + 1, by omega, by go_num, HO3, HX3, HB3, hsz3⟩
              case measure => simp [intOf]; omega
            · have HO3 : Hid (Own wr V.heap.size (.slice (some ⟨g, 0, none⟩) n c1) (bump r F (stT t.ps (k + 1)))) := by show Own _ _ _ _; rw [HST.out, if_neg (by omega), if_neg (by omega)]; exact HO.out
              clear HST HO
              go_wp2
              go_roundw
              case rel => exact ⟨k + 1, by omega, by go_num, HO3, HX, HB, hsz⟩
              case measure => simp [intOf]; omega
          · have HO3 : Hid (Own wr V.heap.size (.slice (some ⟨g, 0, none⟩) n c1) (bump r F (stT t.ps (k + 1)))) := by show Own _ _ _ _; rw [HST.out, if_neg (by omega), if_neg (by omega)]; exact HO.out
            have b1 : (v1 == (r : Int)) = false := by rw [beq_eq_false_iff_ne]; exact hw1
            clear HST HO
            go_wp2
            go_roundw
            case rel => exact ⟨k + 1, by omega, by go_num, HO3, HX, HB, hsz⟩
            case measure => simp [intOf]; omega

end Go.Proofs.Ytbjpkklonjlmiaa
