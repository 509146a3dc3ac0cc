/- Chapter 5: the weights of places: the program's closure, and the specification's l5At. -/
import Derived.Test.YtamppekadobagaaCH5
namespace Go.Proofs.Ytamppekadobagaa
set_option linter.unusedVariables false
set_option linter.unusedSimpArgs false
open Go.RowKit

theorem takeF_succ {fs : List F} {k : Nat} (h : k < fs.length) : fs.take (k + 1) = fs.take k ++ [fs.getD k 0] := by
  rw [List.take_succ_eq_append_getElem h]
  simp [List.getD, h]
theorem upF_step {pl z u : F} {fs : List F} {k : Nat} (h : k < fs.length) : upF pl z u (fs.take (k + 1)) = if fs.getD k 0 = pl then upF pl z u (fs.take k) else upF pl z u (fs.take k) * (fs.getD k 0 - z) := by
  rw [takeF_succ h, upF, List.foldl_append]; rfl
theorem upF_all (pl z : F) (fs : List F) : upF pl z 1 fs = prF pl z fs := by rw [upF_pr]; grind -lia

set_option maxHeartbeats 1000000 in
theorem weightsAt1_at (Bp Bx b o n c : Nat) (fs : List F) (pl z : F) (w : World) (hx : fs.length = n) (hn : n ≤ 100) (hp : w.cell? ⟨Bp, 0, none⟩ = some (.slice (some ⟨b, o, none⟩) n c)) (hz : w.cell? ⟨Bx, 0, none⟩ = some (.int .i64 (vI z)))
    (hc : ∀ j, j < n → w.cell? ⟨b, o + j, none⟩ = some (.int .i64 (vI (fs.getD j 0)))) :
    Calls Try.prog 88 #[.int .i64 (vI pl), .pointer (some ⟨Bp, 0, none⟩), .pointer (some ⟨Bx, 0, none⟩)] w fun e w' => e = .returned (.int .i64 (vI (wtF fs pl z))) ∧ w' = w := by
  have HX : Hid (fs.length = n) := hx
  have HC : Hid (∀ j, j < n → w.cell? ⟨b, o + j, none⟩ = some (.int .i64 (vI (fs.getD j 0)))) := hc
  clear hx hc
  go_enter Try.func88, Try.ntmps88
  go_wp2
  go_loop [5, 6, 11] (fun x y i => ∃ (U L : F) (k : Nat), x = .int .i64 (vI U) ∧ y = .int .i64 (vI L) ∧ i = .int .i64 k ∧ k ≤ n ∧ Hid (U = upF pl z 1 (fs.take k)) ∧ Hid (L = upF pl pl 1 (fs.take k))) (fun _ _ i => n - (intOf i).toNat)
  case atStart => exact ⟨1, 1, 0, rfl, rfl, rfl, Nat.zero_le _, rfl, rfl⟩
  case round =>
    obtain ⟨U, L, k, rfl, rfl, rfl, hk, hU, hL⟩ := hrel
    by_cases hlt : k < n
    · have g1 := HC.out k hlt
      have HU : Hid (upF pl z 1 (fs.take (k + 1)) = if fs.getD k 0 = pl then U else U * (fs.getD k 0 - z)) := by show _ = _; rw [upF_step (by rw [HX.out]; exact hlt), ← hU.out]
      have HL : Hid (upF pl pl 1 (fs.take (k + 1)) = if fs.getD k 0 = pl then L else L * (fs.getD k 0 - pl)) := by show _ = _; rw [upF_step (by rw [HX.out]; exact hlt), ← hL.out]
      generalize fs.getD k 0 = q at *
      clear hU hL
      by_cases he : q = pl
      · subst he
        have hqq : (vI q != vI q) = false := by simp
        rw [if_pos rfl] at HU HL
        go_wp2
        go_round
        case rel => exact ⟨U, L, k + 1, rfl, rfl, by go_num, by omega, HU.out.symm, HL.out.symm⟩
        case measure => simp [intOf]; omega
      · have hqq : (vI q != vI pl) = true := by rw [bne_iff_ne]; exact fun e => he (vI_inj e)
        rw [if_neg he] at HU HL
        clear he
        go_wp2_with fail
        refine (lessBy_c q z _).mono ?_
        rintro e w' ⟨rfl, hw⟩
        subst w'
        go_wp2_with fail
        refine (timesSmall_c U (q - z) _).mono ?_
        rintro e w' ⟨rfl, hw⟩
        subst w'
        go_wp2_with fail
        refine (lessBy_c q pl _).mono ?_
        rintro e w' ⟨rfl, hw⟩
        subst w'
        go_wp2_with fail
        refine (timesSmall_c L (q - pl) _).mono ?_
        rintro e w' ⟨rfl, hw⟩
        subst w'
        go_wp2
        go_round
        case rel => exact ⟨U * (q - z), L * (q - pl), k + 1, rfl, rfl, by go_num, by omega, HU.out.symm, HL.out.symm⟩
        case measure => simp [intOf]; omega
    · have HE : Hid (U * finv L = wtF fs pl z) := by
        show _ = _
        have e : fs.take k = fs := List.take_of_length_le (by rw [HX.out]; omega)
        rw [hU.out, hL.out, e, upF_all, upF_all, wtF]
      clear hU hL
      go_wp2_with fail
      refine (dividedBy_c U L _).mono ?_
      rintro e w' ⟨rfl, hw⟩
      subst w'
      go_wp2
      go_ret
      exact ⟨ret_int (congrArg vI HE.out), rfl⟩

theorem weightsAt1_c (Bp Bx : Nat) (ao : Option Addr) (n c : Nat) (fs : List F) (pl z : F) (w : World) (hx : fs.length = n) (h1 : 1 ≤ n) (hn : n ≤ 100) (hp : w.cell? ⟨Bp, 0, none⟩ = some (.slice ao n c)) (hz : w.cell? ⟨Bx, 0, none⟩ = some (.int .i64 (vI z))) (hr : Rd w ao (vIs fs)) :
    Calls Try.prog 88 #[.int .i64 (vI pl), .pointer (some ⟨Bp, 0, none⟩), .pointer (some ⟨Bx, 0, none⟩)] w fun e w' => e = .returned (.int .i64 (vI (wtF fs pl z))) ∧ w' = w := by
  obtain ⟨b, o, rfl, hc⟩ := RdF hr hx (by omega)
  exact weightsAt1_at Bp Bx b o n c fs pl z w hx hn hp hz hc

theorem weightsAt_c (z : Int) (ao : Option Addr) (n c : Nat) (w : World) :
    Calls Try.prog 78 #[.int .i64 z, .slice ao n c] w fun e w' => e = .returned (.func (.func 88) #[] #[.pointer (some ⟨w.heap.size + 1, 0, none⟩), .pointer (some ⟨w.heap.size, 0, none⟩)]) ∧ w' = (w.alloc (.cells #[.int .i64 z] 3)).alloc (.cells #[.slice ao n c] 23) := by
  have hmf : ∀ (fn : Fn) (first cap : Array Value) (w : World), (Instr.makeFunc fn first cap).run Try.prog w = .ok (.func fn first cap) w := fun _ _ _ _ => rfl
  go_enter Try.func78, Try.ntmps78
  go_wp2
  go_ret
  exact ⟨rfl, rfl⟩

/-- The weights of all places for z. -/
def wts (fs : List F) (z : F) : List F := fs.map fun pl => wtF fs pl z
theorem wts_length (fs : List F) (z : F) : (wts fs z).length = fs.length := by simp [wts]
theorem wts_take {fs : List F} {z : F} {k : Nat} (h : k < fs.length) : (wts fs z).take (k + 1) = (wts fs z).take k ++ [wtF fs (fs.getD k 0) z] := by
  rw [List.take_succ_eq_append_getElem (by rw [wts_length]; exact h)]
  simp [wts, List.getD, h]
theorem vIs_take (ps : List F) (k : Nat) : vIs (ps.take k) = (vIs ps).take k := by simp [vIs]
theorem vIs_app (ps : List F) (x : F) : vIs (ps ++ [x]) = vIs ps ++ [vI x] := by simp [vIs]
/-- A weight, step by step, as the specification makes it. -/
def stF (pl z : F) (xs : List F) : F := xs.foldl (fun u o => if o = pl then u else u * (o - z) * finv (o - pl)) 1
theorem finv_one : finv 1 = 1 := by decide +kernel
theorem stF_gen (pl z : F) : ∀ (xs : List F) (u : F), xs.foldl (fun u o => if o = pl then u else u * (o - z) * finv (o - pl)) u = u * (prF pl z xs * finv (prF pl pl xs))
  | [], u => by
    show u = u * (1 * finv 1)
    rw [finv_one]; grind -lia
  | o :: xs, u => by
    rw [List.foldl_cons, stF_gen pl z xs, prF_cons, prF_cons]
    by_cases e : o = pl
    · rw [if_pos e, if_pos e, if_pos e]
    · rw [if_neg e, if_neg e, if_neg e, finv_mul]; grind -lia
theorem stF_wt (pl z : F) (xs : List F) : stF pl z xs = wtF xs pl z := by
  rw [stF, stF_gen, wtF]; grind -lia
theorem stF_step {pl z : F} {fs : List F} {k : Nat} (h : k < fs.length) : stF pl z (fs.take (k + 1)) = if fs.getD k 0 = pl then stF pl z (fs.take k) else stF pl z (fs.take k) * (fs.getD k 0 - z) * finv (fs.getD k 0 - pl) := by
  rw [takeF_succ h, stF, List.foldl_append]; rfl
theorem toF_sub (a b : F) : toF (vI a - vI b) = a - b := vI_inj (by rw [vI_toF, vI_sub'])
theorem nodup_getD {fs : List F} (hn : fs.Nodup) {i k : Nat} (hi : i < fs.length) (hk : k < fs.length) : fs.getD k 0 = fs.getD i 0 ↔ k = i := by
  simp only [List.getD, List.getElem?_eq_getElem hi, List.getElem?_eq_getElem hk, Option.getD_some]
  exact List.getElem_inj hn

set_option maxHeartbeats 4000000 in
theorem l5At_at (b o n c : Nat) (fs : List F) (z : F) (w : World) (hx : fs.length = n) (hn : n ≤ 100) (hnd : fs.Nodup)
    (hc : ∀ j, j < n → w.cell? ⟨b, o + j, none⟩ = some (.int .i64 (vI (fs.getD j 0)))) :
    Calls Try.prog 73 #[.slice (some ⟨b, o, none⟩) n c, .int .i64 (vI z)] w fun e w' => ∃ a' c', e = .returned (.slice a' n c') ∧ Own w' w.heap.size (.slice a' n c') (vIs (wts fs z)) ∧ Below w.heap.size w w' := by
  obtain ⟨i0, hi, hz0, hz1, hz2⟩ := info_parts Try.infoInt
  have HX : Hid (fs.length = n) := hx
  have HC : Hid (∀ j, j < n → w.cell? ⟨b, o + j, none⟩ = some (.int .i64 (vI (fs.getD j 0)))) := hc
  have HND : Hid fs.Nodup := hnd
  clear hx hc hnd
  go_enter Try.func73, Try.ntmps73
  go_wp2
  go_loopw [5, 13] (fun v i wr => ∃ k : Nat, k ≤ n ∧ i = .int .i64 k ∧ Hid (Own wr w.heap.size v (vIs ((wts fs z).take k))) ∧ Hid (Below w.heap.size w wr)) (fun _ i _ => n - (intOf i).toNat)
  case atStart => exact ⟨0, Nat.zero_le _, rfl, World.ownsRow_nil _ _ _ _, Below.refl _ _⟩
  case round =>
    obtain ⟨k, hk, rfl, hO, hB⟩ := hrel
    by_cases hlt : k < n
    · have hcr : ∀ j, j < n → wr.cell? ⟨b, o + j, none⟩ = some (.int .i64 (vI (fs.getD j 0))) := fun j hj => by
        have hb := World.block_lt_of_cell? w _ (HC.out j hj)
        rw [hB.out.cell (p := ⟨b, o + j, none⟩) hb]; exact HC.out j hj
      have HCR : Hid (∀ j, j < n → wr.cell? ⟨b, o + j, none⟩ = some (.int .i64 (vI (fs.getD j 0)))) := hcr
      have g1 := hcr k hlt
      have HT : Hid (vIs ((wts fs z).take (k + 1)) = vIs ((wts fs z).take k) ++ [vI (wtF fs (fs.getD k 0) z)]) := by show _ = _; rw [wts_take (by rw [HX.out]; exact hlt), vIs_app]
      have hlen : (vIs ((wts fs z).take k)).length = k := by rw [vIs_length, List.length_take, wts_length, HX.out]; omega
      have hob : ∀ k', u5.ownBlock = some k' → w.heap.size ≤ k' := own_block_ge hO.out
      have hown : wr.ownsRow w.heap.size 3 1 u5 k (cellsI (vIs ((wts fs z).take k))) := by have h := hO.out; unfold Own at h; rw [hlen] at h; exact h
      have HL : Hid ((vIs ((wts fs z).take k)).length = k) := hlen
      have HOWN : Hid (wr.ownsRow w.heap.size 3 1 u5 k (cellsI (vIs ((wts fs z).take k)))) := hown
      have HOB : Hid (∀ k', u5.ownBlock = some k' → w.heap.size ≤ k') := hob
      have HPL : Hid (∀ j, j < n → (fs.getD j 0 = fs.getD k 0 ↔ j = k)) := fun j hj => nodup_getD HND.out (by rw [HX.out]; exact hlt) (by rw [HX.out]; exact hj)
      generalize fs.getD k 0 = pl at *
      generalize vIs ((wts fs z).take k) = out at *
      clear hlen hown hob hcr hO
      go_wp2
      go_loop [8, 20] (fun x i => ∃ (U : F) (j : Nat), x = .int .i64 (vI U) ∧ i = .int .i64 j ∧ j ≤ n ∧ Hid (U = stF pl z (fs.take j))) (fun _ i => n - (intOf i).toNat)
      case atStart => exact ⟨1, 0, rfl, rfl, Nat.zero_le _, rfl⟩
      case round =>
        obtain ⟨U, j, rfl, rfl, hj, hU⟩ := hrel
        by_cases hlj : j < n
        · have g2 := HCR.out j hlj
          have HU : Hid (stF pl z (fs.take (j + 1)) = if fs.getD j 0 = pl then U else U * (fs.getD j 0 - z) * finv (fs.getD j 0 - pl)) := by show _ = _; rw [stF_step (by rw [HX.out]; exact hlj), ← hU.out]
          have hjk := HPL.out j hlj
          generalize fs.getD j 0 = q at *
          clear hU
          by_cases he : q = pl
          · have hjk' : j = k := hjk.1 he
            subst hjk'
            have hqq : ((j : Int) != (j : Int)) = false := by simp
            rw [if_pos he] at HU
            clear he hjk
            go_wp2
            go_round
            case rel => exact ⟨U, j + 1, rfl, by go_num, by omega, HU.out.symm⟩
            case measure => simp [intOf]; omega
          · have hqq : ((j : Int) != (k : Int)) = true := by rw [bne_iff_ne]; intro e; exact he (hjk.2 (by omega))
            rw [if_neg he] at HU
            have hq := vI_mem q
            have hzz := vI_mem z
            have hpl := vI_mem pl
            have c1 := l5Mod_c (vI q - vI z)
            rw [toF_sub] at c1
            have c2 := l5Mod_c (vI q - vI pl)
            rw [toF_sub] at c2
            have c3 := l5Inverse_c (q - pl)
            have m1 := vI_mul U (q - z)
            have m2 := vI_mul (U * (q - z)) (finv (q - pl))
            have b1 := pr_lt (vI_mem U) (vI_mem (q - z))
            have b2 := pr_lt (vI_mem (U * (q - z))) (vI_mem (finv (q - pl)))
            have HN : Hid (∃ U' : F, vI (U * (q - z)) * vI (finv (q - pl)) % 1499 = vI U' ∧ U' = stF pl z (fs.take (j + 1))) := ⟨_, m2, HU.out.symm⟩
            clear he hjk HU m2
            generalize vI (finv (q - pl)) = r3 at *
            generalize vI (q - pl) = r2 at *
            generalize vI (U * (q - z)) = r4 at *
            generalize vI (q - z) = r1 at *
            go_wp2_with fail
            refine (c1 _ (by omega) (by omega)).mono ?_
            clear c1
            rintro e w' ⟨rfl, hw⟩
            subst w'
            go_wp2_with fail
            refine (c2 _ (by omega) (by omega)).mono ?_
            clear c2
            rintro e w' ⟨rfl, hw⟩
            subst w'
            go_wp2_with fail
            refine (c3 _).mono ?_
            clear c3
            rintro e w' ⟨rfl, hw⟩
            subst w'
            go_wp2
            go_round
            case rel =>
              obtain ⟨U', e1, e2⟩ := HN.out
              exact ⟨U', j + 1, by rw [← e1], by go_num, by omega, e2⟩
            case measure => simp [intOf]; omega
        · have HE : Hid (U = wtF fs pl z) := by
            show _ = _
            rw [hU.out, List.take_of_length_le (by rw [HX.out]; omega), stF_wt]
          have hown := HOWN.out
          have hob := HOB.out
          clear hU
          go_wp2_with (at_builtin; refine wpList_append_own _ rfl _ _ 23 rfl w.heap.size 3 i0 (.int .i64 0) 1 8 Try.underlying23 hi hz0 hz1 hz2 rfl (by decide) _ _ _ rfl (hown.alloc _) ⟨wr.heap.size, 0, none⟩ 1 1 [.int .i64 (vI U)] rfl rfl (cell_new1 _ _ _) (ints_oneCell .i64 [vI U]) (by unfold maxLen; omega) (by omega) (by have := hB.out.size; simp; omega) ?_; intro v' w2 hown' hgrow _; have HO' : Hid (Own w2 w.heap.size v' (out ++ [vI U])) := own_push (w := wr) (v := u5) (by simpa [HL.out] using hown'); have HB' : Hid (Below w.heap.size w w2) := (hB.out.alloc hB.out.size _).grown hgrow (by have := hB.out.size; simp; omega) (fun k' e => hob k' e); clear hown' hgrow)
          go_roundw
          case rel => exact ⟨k + 1, by omega, by go_num, by show Own _ _ _ _; rw [HT.out, ← HE.out]; exact HO'.out, HB'⟩
          case measure => simp [intOf]; omega
    · have he : (wts fs z).take k = wts fs z := List.take_of_length_le (by rw [wts_length, HX.out]; omega)
      rw [he] at hO
      obtain ⟨a', c', hv⟩ := hO.out.shape
      rw [vIs_length, wts_length, HX.out] at hv
      subst hv
      clear he
      go_wp2
      go_ret
      exact ⟨a', c', rfl, hO.out, hB.out⟩

theorem l5At_c (ao : Option Addr) (n c : Nat) (fs : List F) (z : F) (w : World) (hx : fs.length = n) (h1 : 1 ≤ n) (hn : n ≤ 100) (hnd : fs.Nodup) (hr : Rd w ao (vIs fs)) :
    Calls Try.prog 73 #[.slice ao n c, .int .i64 (vI z)] w fun e w' => ∃ a' c', e = .returned (.slice a' n c') ∧ Own w' w.heap.size (.slice a' n c') (vIs (wts fs z)) ∧ Below w.heap.size w w' := by
  obtain ⟨b, o, rfl, hc⟩ := RdF hr hx (by omega)
  exact l5At_at b o n c fs z w hx hn hnd hc

end Go.Proofs.Ytamppekadobagaa
