/- Chapter 5: ThroughParts and JoinParts, both sides. -/
import Derived.Test.YtamppekadobagaaTH5
import Derived.Test.YtamppekadobagaaVA5
namespace Go.Proofs.Ytamppekadobagaa
set_option linter.unusedVariables false
set_option linter.unusedSimpArgs false
open Go.RowKit

theorem curveThrough_c (ao : Option Addr) (n c : Nat) (l : List (Int × Int)) (w : World) (hx : l.length = n) (hn : n ≤ 8796093022208) (hr : RdP w ao l) :
    Calls Try.prog 59 #[.slice ao n c] w fun e w' => ∃ Bp a1 c1, e = .returned (.func (.func 85) #[] #[.pointer (some ⟨Bp, 0, none⟩), .pointer (some ⟨w.heap.size, 0, none⟩)]) ∧ w'.cell? ⟨Bp, 0, none⟩ = some (.slice a1 n c1) ∧ w'.cell? ⟨w.heap.size, 0, none⟩ = some (.slice ao n c) ∧ Rd w' a1 (fsts l) ∧ Below w.heap.size w w' := by
  have hmf : ∀ (fn : Fn) (first cap : Array Value) (w : World), (Instr.makeFunc fn first cap).run Try.prog w = .ok (.func fn first cap) w := fun _ _ _ _ => rfl
  obtain ⟨V, hV⟩ : ∃ V, w.alloc (.cells #[.slice ao n c] 26) = V := ⟨_, rfl⟩
  have HBV : Hid (Below w.heap.size w V) := by rw [← hV]; exact balloc _ _
  have gV : V.cell? ⟨w.heap.size, 0, none⟩ = some (.slice ao n c) := by rw [← hV]; simp
  have hpl := placesIn_c ao n c l V hx hn (hr.later HBV.out)
  clear hr hx
  go_enter Try.func59, Try.ntmps59
  go_wp2_with fail
  clear hV
  refine hpl.mono ?_
  clear hpl
  rintro e w1 ⟨a1, c1, rfl, ho, hb⟩
  have g1 : w1.cell? ⟨w.heap.size, 0, none⟩ = some (.slice ao n c) := cell_keep (S := 0) hb gV
  have HR : Hid (Rd w1 a1 (fsts l)) := ho.rd'.2
  have HB1 : Hid (Below w.heap.size w w1) := HBV.out.trans (hb.mono HBV.out.size)
  clear hb ho gV
  go_wp2
  go_ret
  exact ⟨w1.heap.size, a1, c1, rfl, by simp, calloc g1, HR.out.later (balloc _ _), HB1.out.alloc HB1.out.size _⟩

theorem curveThrough1_c (Bp Bq : Nat) (ao a1 : Option Addr) (n c c1 : Nat) (fl : List (F × F)) (z : F) (w : World) (hx : fl.length = n) (h1 : 1 ≤ n) (hn : n ≤ 9)
    (hp : w.cell? ⟨Bp, 0, none⟩ = some (.slice a1 n c1)) (hr : Rd w a1 (fsts (pIs fl))) (hq : w.cell? ⟨Bq, 0, none⟩ = some (.slice ao n c)) (hs : RdP w ao (pIs fl)) :
    Calls Try.prog 85 #[.int .i64 (vI z), .pointer (some ⟨Bp, 0, none⟩), .pointer (some ⟨Bq, 0, none⟩)] w fun e w' => e = .returned (.int .i64 (vI (thF fl z))) ∧ Below w.heap.size w w' := by
  obtain ⟨b, o, rfl, hc⟩ := hs.at (n := n) (by rw [pIs_length]; exact hx) (by omega)
  rw [fsts_pIs] at hr
  refine curveThrough1_at Bp Bq b o n c a1 c1 fl z w hx h1 hn hp hr hq fun j hj => ?_
  have := hc j hj
  rw [pIs_getD fl j (by omega)] at this
  exact this

/-- What goes through the parts at z, as the program finds it. -/
def toP (p : Int × Int) : F × F := (toF p.1, toF p.2)
theorem pIs_toP (fl : List (F × F)) : (pIs fl).map toP = fl := by
  unfold pIs
  rw [List.map_map]
  conv => rhs; rw [← List.map_id fl]
  refine List.map_congr_left fun p _ => ?_
  show (toF (vI p.1), toF (vI p.2)) = p
  rw [toF_vI, toF_vI]
def throughF (l : List (Int × Int)) (x : Int) : Int × Bool := if partsB l = true ∧ smallB x = true then (vI (thF (l.map toP) (toF x)), true) else (0, false)

set_option maxHeartbeats 1000000 in
theorem l5Through_c (ao : Option Addr) (n c : Nat) (fl : List (F × F)) (z : F) (w : World) (hx : fl.length = n) (h1 : 1 ≤ n) (hn : n ≤ 9) (hnd : (fl.map Prod.fst).Nodup) (hr : RdP w ao (pIs fl)) :
    Calls Try.prog 74 #[.slice ao n c, .int .i64 (vI z)] w fun e w' => e = .returned (.int .i64 (vI (thF fl z))) ∧ Below w.heap.size w w' := by
  have hS := l5Split_c ao n c (pIs fl) w (by rw [pIs_length]; exact hx) (by omega) hr
  have HX : Hid (fl.length = n) := hx
  have HND : Hid (fl.map Prod.fst).Nodup := hnd
  clear hx hr hnd
  go_enter Try.func74, Try.ntmps74
  go_wp2_with fail
  refine hS.mono ?_
  clear hS
  rintro e w1 ⟨a1, c1, a2, c2, rfl, ho1, ho2, hb⟩
  have HB1 : Hid (Below w.heap.size w w1) := hb
  rw [fsts_pIs] at ho1
  rw [snds_pIs] at ho2
  have HO2 : Hid (Own w1 w.heap.size (.slice a2 n c2) (vIs (fl.map Prod.snd))) := ho2
  have hA := l5At_c a1 n c1 (fl.map Prod.fst) z w1 (by rw [List.length_map]; exact HX.out) h1 (by omega) HND.out ho1.rd'.2
  clear hb ho1 ho2
  go_wp2_with fail
  refine hA.mono ?_
  clear hA
  rintro e w2 ⟨a3, c3, rfl, ho3, hb2⟩
  have HB2 : Hid (Below w.heap.size w w2) := HB1.out.trans (hb2.mono HB1.out.size)
  obtain ⟨b3, o3, rfl, hc3⟩ := RdF ho3.rd'.2 (n := n) (by rw [wts_length, List.length_map]; exact HX.out) (by omega)
  obtain ⟨b2, o2, rfl, hc2⟩ := RdF (HO2.out.later hb2).rd'.2 (n := n) (by rw [List.length_map]; exact HX.out) (by omega)
  have HC3 : Hid (∀ j, j < n → w2.cell? ⟨b3, o3 + j, none⟩ = some (.int .i64 (vI (wtF (fl.map Prod.fst) (fl.getD j (0, 0)).1 z)))) := fun j hj => by
    rw [hc3 j hj]
    have hj' : j < fl.length := by rw [HX.out]; exact hj
    simp [wts, List.getD, hj']
  have HC2 : Hid (∀ j, j < n → w2.cell? ⟨b2, o2 + j, none⟩ = some (.int .i64 (vI (fl.getD j (0, 0)).2))) := fun j hj => by
    rw [hc2 j hj]
    have hj' : j < fl.length := by rw [HX.out]; exact hj
    simp [List.getD, hj']
  clear ho3 hb2 hc2 hc3 HO2 HB1
  go_wp2
  go_loop [7, 19] (fun x i => ∃ (k : Nat), k ≤ n ∧ i = .int .i64 k ∧ x = .int .i64 (vI (sgF (fl.map Prod.fst) z (fl.take k)))) (fun _ i => n - (intOf i).toNat)
  case atStart => exact ⟨0, Nat.zero_le _, rfl, rfl⟩
  case round =>
    obtain ⟨k, hk, rfl, rfl⟩ := hrel
    by_cases hlt : k < n
    · have g1 := HC3.out k hlt
      have g2 := HC2.out k hlt
      have hstep := sgF_step (xs := fl.map Prod.fst) (z := z) (fl := fl) (k := k) (by rw [HX.out]; exact hlt)
      have hfma := vI_fma (sgF (fl.map Prod.fst) z (fl.take k)) (wtF (fl.map Prod.fst) (fl.getD k (0, 0)).1 z) (fl.getD k (0, 0)).2
      rw [← hstep] at hfma
      have hpr := pr_lt (vI_mem (wtF (fl.map Prod.fst) (fl.getD k (0, 0)).1 z)) (vI_mem (fl.getD k (0, 0)).2)
      have hsm := vI_mem (sgF (fl.map Prod.fst) z (fl.take k))
      have HF : Hid ((vI (sgF (fl.map Prod.fst) z (fl.take k)) + vI (wtF (fl.map Prod.fst) (fl.getD k (0, 0)).1 z) * vI (fl.getD k (0, 0)).2) % 1499 = vI (sgF (fl.map Prod.fst) z (fl.take (k + 1)))) := hfma
      clear hstep hfma
      generalize vI (wtF (fl.map Prod.fst) (fl.getD k (0, 0)).1 z) = wt at *
      generalize vI (fl.getD k (0, 0)).2 = y at *
      generalize vI (sgF (fl.map Prod.fst) z (fl.take k)) = s at *
      go_wp2
      go_round
      case rel => exact ⟨k + 1, by omega, by go_num, by rw [← HF.out]⟩
      case measure => simp [intOf]; omega
    · have HE : Hid (sgF (fl.map Prod.fst) z (fl.take k) = thF fl z) := by
        show _ = _
        have e : fl.take k = fl := List.take_of_length_le (by rw [HX.out]; omega)
        rw [e, sgF_all]
      go_wp2
      go_ret
      exact ⟨ret_int (congrArg vI HE.out), HB2.out⟩

set_option maxHeartbeats 1000000 in
theorem specThrough_c (ao : Option Addr) (n c : Nat) (l : List (Int × Int)) (x : Int) (w : World) (hx : l.length = n) (hn : n ≤ 8796093022208) (hr : RdP w ao l) (r : Int) (fb : Bool) (hF : throughF l x = (r, fb)) :
    Calls Try.prog 34 #[.slice ao n c, .int .i64 x] w fun e w' => e = .returned (.tuple #[.int .i64 r, .bool fb]) ∧ Below w.heap.size w w' := by
  have hp := l5Parts_c ao n c l w hx hn hr
  have hf := l5Field_c x
  unfold throughF at hF
  by_cases h1 : partsB l = true
  · rw [h1] at hp
    by_cases h2 : smallB x = true
    · rw [if_pos ⟨h1, h2⟩] at hF
      simp only [Prod.mk.injEq] at hF
      obtain ⟨rfl, rfl⟩ := hF
      rw [h2] at hf
      obtain ⟨fl, rfl, hg⟩ := partsB_parts h1
      obtain ⟨a, rfl⟩ := smallB_parts h2
      rw [pIs_length] at hx
      rw [pIs_toP, toF_vI]
      have hv : ∀ wx, Below w.heap.size w wx → _ := fun wx (h : Below w.heap.size w wx) => l5Through_c ao n c fl a wx hx (by have := hg.2.2.1; omega) (by have := hg.2.2.2; omega) hg.1 (hr.later h)
      have HV := hv
      clear hv h1 h2 hr hg hx
      generalize vI (thF fl a) = r at *
      go_enter Try.func34, Try.ntmps34
      go_wp2_with fail
      refine hp.mono ?_
      clear hp
      rintro e w1 ⟨rfl, hb⟩
      have HB1 : Hid (Below w.heap.size w w1) := hb
      clear hb
      go_wp2_with fail
      refine (hf _).mono ?_
      clear hf
      rintro e w' ⟨rfl, hw⟩
      subst w'
      go_wp2_with fail
      refine (HV _ HB1.out).mono ?_
      clear HV
      rintro e w2 ⟨rfl, hb⟩
      have HB2 : Hid (Below w.heap.size w w2) := HB1.out.trans (hb.mono HB1.out.size)
      clear hb
      go_wp2
      refine bodyPost_ret (v := .tuple #[.int .i64 r, .bool true]) (by simp [results, Try.results34, go_sem]; try rfl) rfl ?_
      exact ⟨rfl, HB2.out⟩
    · rw [if_neg (fun h => h2 h.2)] at hF
      simp only [Prod.mk.injEq] at hF
      obtain ⟨rfl, rfl⟩ := hF
      have h2' : smallB x = false := by simpa using h2
      rw [h2'] at hf
      clear h1 h2 h2' hr hx
      go_enter Try.func34, Try.ntmps34
      go_wp2_with fail
      refine hp.mono ?_
      clear hp
      rintro e w1 ⟨rfl, hb⟩
      have HB1 : Hid (Below w.heap.size w w1) := hb
      clear hb
      go_wp2_with fail
      refine (hf _).mono ?_
      clear hf
      rintro e w' ⟨rfl, hw⟩
      subst w'
      go_wp2
      refine bodyPost_ret (v := .tuple #[.int .i64 0, .bool false]) (by simp [results, Try.results34, go_sem]; try rfl) rfl ?_
      exact ⟨rfl, HB1.out⟩
  · rw [if_neg (fun h => h1 h.1)] at hF
    simp only [Prod.mk.injEq] at hF
    obtain ⟨rfl, rfl⟩ := hF
    have h1' : partsB l = false := by simpa using h1
    rw [h1'] at hp
    clear h1 h1' hf hr hx
    go_enter Try.func34, Try.ntmps34
    go_wp2_with fail
    refine hp.mono ?_
    clear hp
    rintro e w1 ⟨rfl, hb⟩
    have HB1 : Hid (Below w.heap.size w w1) := hb
    clear hb
    go_wp2
    refine bodyPost_ret (v := .tuple #[.int .i64 0, .bool false]) (by simp [results, Try.results34, go_sem]; try rfl) rfl ?_
    exact ⟨rfl, HB1.out⟩

set_option maxHeartbeats 1000000 in
theorem implThrough_c (ao : Option Addr) (n c : Nat) (l : List (Int × Int)) (x : Int) (w : World) (hx : l.length = n) (hn : n ≤ 8796093022208) (hr : RdP w ao l) (r : Int) (fb : Bool) (hF : throughF l x = (r, fb)) :
    Calls Try.prog 22 #[.slice ao n c, .int .i64 x] w fun e w' => e = .returned (.tuple #[.int .i64 r, .bool fb]) ∧ Below w.heap.size w w' := by
  have hp := areParts_c ao n c l w hx hn hr
  have hf := isSmall_c x
  unfold throughF at hF
  by_cases h1 : partsB l = true
  · rw [h1] at hp
    by_cases h2 : smallB x = true
    · rw [if_pos ⟨h1, h2⟩] at hF
      simp only [Prod.mk.injEq] at hF
      obtain ⟨rfl, rfl⟩ := hF
      rw [h2] at hf
      obtain ⟨fl, rfl, hg⟩ := partsB_parts h1
      obtain ⟨a, rfl⟩ := smallB_parts h2
      have HXP : Hid ((pIs fl).length = n) := hx
      rw [pIs_length] at hx
      rw [pIs_toP, toF_vI]
      have HX : Hid (fl.length = n) := hx
      have HR : Hid (RdP w ao (pIs fl)) := hr
      have n1 : 1 ≤ n := by have := hg.2.2.1; omega
      have n8 : n ≤ 8 := by have := hg.2.2.2; omega
      clear h1 h2 hr hg hx
      go_enter Try.func22, Try.ntmps22
      go_wp2_with fail
      refine hp.mono ?_
      clear hp
      rintro e w1 ⟨rfl, hb⟩
      have HB1 : Hid (Below w.heap.size w w1) := hb
      clear hb
      go_wp2_with fail
      refine (hf _).mono ?_
      clear hf
      rintro e w' ⟨rfl, hw⟩
      subst w'
      go_wp2_with fail
      refine (curveThrough_c ao n c (pIs fl) w1 HXP.out hn (HR.out.later HB1.out)).mono ?_
      rintro e w2 ⟨Bp, a1, c1, rfl, g1, g2, hr1, hb⟩
      have HB2 : Hid (Below w.heap.size w w2) := HB1.out.trans (hb.mono HB1.out.size)
      have hv := curveThrough1_c Bp w1.heap.size ao a1 n c c1 fl a w2 HX.out n1 (by omega) g1 hr1 g2 (HR.out.later HB2.out)
      clear hb g1 g2 hr1
      go_wp2_with fail
      refine hv.mono ?_
      clear hv
      rintro e w3 ⟨rfl, hb⟩
      have HB3 : Hid (Below w.heap.size w w3) := HB2.out.trans (hb.mono HB2.out.size)
      clear hb
      go_wp2
      refine bodyPost_ret (v := .tuple #[.int .i64 (vI (thF fl a)), .bool true]) (by simp [results, Try.results22, go_sem]; try rfl) rfl ?_
      exact ⟨rfl, HB3.out⟩
    · rw [if_neg (fun h => h2 h.2)] at hF
      simp only [Prod.mk.injEq] at hF
      obtain ⟨rfl, rfl⟩ := hF
      have h2' : smallB x = false := by simpa using h2
      rw [h2'] at hf
      clear h1 h2 h2' hr hx
      go_enter Try.func22, Try.ntmps22
      go_wp2_with fail
      refine hp.mono ?_
      clear hp
      rintro e w1 ⟨rfl, hb⟩
      have HB1 : Hid (Below w.heap.size w w1) := hb
      clear hb
      go_wp2_with fail
      refine (hf _).mono ?_
      clear hf
      rintro e w' ⟨rfl, hw⟩
      subst w'
      go_wp2
      refine bodyPost_ret (v := .tuple #[.int .i64 0, .bool false]) (by simp [results, Try.results22, go_sem]; try rfl) rfl ?_
      exact ⟨rfl, HB1.out⟩
  · rw [if_neg (fun h => h1 h.1)] at hF
    simp only [Prod.mk.injEq] at hF
    obtain ⟨rfl, rfl⟩ := hF
    have h1' : partsB l = false := by simpa using h1
    rw [h1'] at hp
    clear h1 h1' hf hr hx
    go_enter Try.func22, Try.ntmps22
    go_wp2_with fail
    refine hp.mono ?_
    clear hp
    rintro e w1 ⟨rfl, hb⟩
    have HB1 : Hid (Below w.heap.size w w1) := hb
    clear hb
    go_wp2
    refine bodyPost_ret (v := .tuple #[.int .i64 0, .bool false]) (by simp [results, Try.results22, go_sem]; try rfl) rfl ?_
    exact ⟨rfl, HB1.out⟩

theorem specJoin_c (ao : Option Addr) (n c : Nat) (l : List (Int × Int)) (w : World) (hx : l.length = n) (hn : n ≤ 8796093022208) (hr : RdP w ao l) (r : Int) (fb : Bool) (hF : throughF l 0 = (r, fb)) :
    Calls Try.prog 29 #[.slice ao n c] w fun e w' => e = .returned (.tuple #[.int .i64 r, .bool fb]) ∧ Below w.heap.size w w' := by
  have h := specThrough_c ao n c l 0 w hx hn hr r fb hF
  clear hr hx hF
  go_enter Try.func29, Try.ntmps29
  go_wp2_with fail
  refine h.mono ?_
  clear h
  rintro e w1 ⟨rfl, hb⟩
  have HB1 : Hid (Below w.heap.size w w1) := hb
  clear hb
  go_wp2
  refine bodyPost_ret (v := .tuple #[.int .i64 r, .bool fb]) (by simp [results, Try.results29, go_sem]; try rfl) rfl ?_
  exact ⟨rfl, HB1.out⟩

theorem implJoin_c (ao : Option Addr) (n c : Nat) (l : List (Int × Int)) (w : World) (hx : l.length = n) (hn : n ≤ 8796093022208) (hr : RdP w ao l) (r : Int) (fb : Bool) (hF : throughF l 0 = (r, fb)) :
    Calls Try.prog 18 #[.slice ao n c] w fun e w' => e = .returned (.tuple #[.int .i64 r, .bool fb]) ∧ Below w.heap.size w w' := by
  have h := implThrough_c ao n c l 0 w hx hn hr r fb hF
  clear hr hx hF
  go_enter Try.func18, Try.ntmps18
  go_wp2_with fail
  refine h.mono ?_
  clear h
  rintro e w1 ⟨rfl, hb⟩
  have HB1 : Hid (Below w.heap.size w w1) := hb
  clear hb
  go_wp2
  refine bodyPost_ret (v := .tuple #[.int .i64 r, .bool fb]) (by simp [results, Try.results18, go_sem]; try rfl) rfl ?_
  exact ⟨rfl, HB1.out⟩

end Go.Proofs.Ytamppekadobagaa
