/- UnlikeBits: the contracts, the program's and the specification's. -/
import Derived.Test.YtjdfpjeeipbghaaB3B
import Derived.Deep.RegionHeld3
import Derived.Deep.DrawnRows
import Derived.Deep.AppendLies
namespace Go.Proofs.Ytjdfpjeeipbghaa
set_option linter.unusedVariables false
set_option linter.unusedSimpArgs false
open Go.RowKit
attribute [local go_sem ↓] Go.wp_at_zero Go.wp_at_succ

/-- Of two lists as long the unlike of each pair. -/
def unl (xs ys : List Bool) : List Bool := List.zipWith (fun a b => !(a == b)) xs ys
def unlF (xs ys : List Bool) : List Bool × Bool := if xs.length ≤ 40 ∧ xs.length = ys.length then (unl xs ys, true) else ([], false)

theorem unl_length (xs ys : List Bool) (h : xs.length = ys.length) : (unl xs ys).length = xs.length := by simp [unl, h]
theorem unl_take {xs ys : List Bool} {n k : Nat} (hx : xs.length = n) (hy : ys.length = n) (h : k < n) : (unl xs ys).take (k + 1) = (unl xs ys).take k ++ [!(xs.getD k false == ys.getD k false)] := by
  have hl : k < (unl xs ys).length := by rw [unl_length _ _ (by omega)]; omega
  rw [List.take_succ_eq_append_getElem hl]
  simp [unl, List.getD, show k < xs.length by omega, show k < ys.length by omega]

theorem unlF_short {xs ys zs : List Bool} {fb : Bool} (h : unlF xs ys = (zs, fb)) : zs.length ≤ 40 := by
  unfold unlF at h
  split at h
  · rename_i hc
    simp only [Prod.mk.injEq] at h
    rw [← h.1, unl_length _ _ hc.2]; exact hc.1
  · simp only [Prod.mk.injEq] at h
    rw [← h.1]; simp

set_option maxHeartbeats 1000000 in
theorem implUnl_at (b o b' o' n c d : Nat) (xs ys : List Bool) (w : World) (hx : xs.length = n) (hy : ys.length = n) (h40 : n ≤ 40)
    (hcx : ∀ j, j < n → w.cell? ⟨b, o + j, none⟩ = some (.bool (xs.getD j false))) (hcy : ∀ j, j < n → w.cell? ⟨b', o' + j, none⟩ = some (.bool (ys.getD j false))) :
    Calls Try.prog 37 #[.slice (some ⟨b, o, none⟩) n c, .slice (some ⟨b', o', none⟩) n d] w fun e w' => ∃ a' c', e = .returned (.tuple #[.slice a' n c', .bool true]) ∧ OwnB w' w.heap.size (.slice a' n c') (unl xs ys) ∧ Below w.heap.size w w' := by
  obtain ⟨i0, hi, hz0, hz1, hz2⟩ := info_parts Try.infoBool
  have HX : Hid (xs.length = n) := hx
  have HY : Hid (ys.length = n) := hy
  have HCX : Hid (∀ j, j < n → w.cell? ⟨b, o + j, none⟩ = some (.bool (xs.getD j false))) := hcx
  have HCY : Hid (∀ j, j < n → w.cell? ⟨b', o' + j, none⟩ = some (.bool (ys.getD j false))) := hcy
  clear hx hy hcx hcy
  have hd : decide ((n : Int) ≤ 40) = true := decide_eq_true (by omega)
  go_enter Try.func37, Try.ntmps37
  go_wp2
  go_loopw [6, 21] (fun v i wr => ∃ k : Nat, k ≤ n ∧ i = .int .i64 k ∧ Hid (OwnB wr w.heap.size v ((unl xs ys).take k)) ∧ Hid (Below w.heap.size w wr)) (fun _ i _ => n - (intOf i).toNat)
  case atStart => exact ⟨0, Nat.zero_le _, rfl, World.ownsRow_nil _ _ _ _, Below.refl _ _⟩
  case round =>
    obtain ⟨k, hk, rfl, hO, hB⟩ := hrel
    by_cases hlt : k < n
    · have hbx := World.block_lt_of_cell? w _ (HCX.out k hlt)
      have hby := World.block_lt_of_cell? w _ (HCY.out k hlt)
      have g1 : wr.cell? ⟨b, o + k, none⟩ = some (.bool (xs.getD k false)) := by rw [hB.out.cell (p := ⟨b, o + k, none⟩) hbx]; exact HCX.out k hlt
      have g2 : wr.cell? ⟨b', o' + k, none⟩ = some (.bool (ys.getD k false)) := by rw [hB.out.cell (p := ⟨b', o' + k, none⟩) hby]; exact HCY.out k hlt
      have hob : ∀ k', u6.ownBlock = some k' → w.heap.size ≤ k' := own_block_geB hO.out
      have hlen : ((unl xs ys).take k).length = k := by rw [List.length_take, unl_length _ _ (by rw [HX.out, HY.out]), HX.out]; omega
      have hown : wr.ownsRow w.heap.size 4 1 u6 k (cellsB ((unl xs ys).take k)) := by have h := hO.out; unfold OwnB at h; rw [hlen] at h; exact h
      have HT : Hid ((unl xs ys).take (k + 1) = (unl xs ys).take k ++ [!(xs.getD k false == ys.getD k false)]) := unl_take HX.out HY.out hlt
      have HL : Hid (((unl xs ys).take k).length = k) := hlen
      generalize (unl xs ys).take k = out at *
      generalize xs.getD k false = x at *
      generalize ys.getD k false = y at *
      have hk0 : (0 : Int) ≤ (k : Int) := by omega
      have hkl : (k : Int) < (n : Int) := by omega
      clear hlen hbx hby
      go_wp2_with (at_builtin; refine wpList_append_own _ rfl _ _ 23 rfl w.heap.size 4 i0 (.bool false) 1 1 Try.underlying23 hi hz0 hz1 hz2 rfl (by decide) _ _ _ rfl (hown.alloc _) ⟨wr.heap.size, 0, none⟩ 1 1 [.bool (!(x == y))] rfl rfl (cell_new1 _ _ _) (bools_oneCell [!(x == y)]) (by unfold maxLen; omega) (by omega) (by have := hB.out.size; simp; omega) ?_; intro v' w2 hown' hgrow _; have HO' : Hid (OwnB w2 w.heap.size v' (out ++ [!(x == y)])) := own_pushB (w := wr) (v := u6) (by simpa [HL.out] using hown'); have HB' : Hid (Below w.heap.size w w2) := (hB.out.alloc hB.out.size _).grown hgrow (by have := hB.out.size; simp; omega) (fun k' e => hob k' e); clear hown' hgrow)
      go_roundw
      case rel => exact ⟨k + 1, by omega, by go_num, by rw [HT.out]; exact HO', HB'⟩
      case measure => simp [intOf]; omega
    · have he : (unl xs ys).take k = unl xs ys := List.take_of_length_le (by rw [unl_length _ _ (by rw [HX.out, HY.out]), HX.out]; omega)
      have hol : (unl xs ys).length = n := by rw [unl_length _ _ (by rw [HX.out, HY.out]), HX.out]
      rw [he] at hO
      obtain ⟨a', c', hv⟩ := hO.out.shape
      rw [hol] at hv
      subst hv
      clear he hol
      go_wp2
      refine bodyPost_ret (v := .tuple #[.slice a' n c', .bool true]) (by simp [results, Try.results37, go_sem]) rfl ⟨a', c', rfl, hO.out, hB.out⟩

theorem implUnl_no (ao bo : Option Addr) (n m c d : Nat) (w : World) (h : ¬ (n ≤ 40 ∧ n = m)) (hn : n ≤ 17592186044416) (hm : m ≤ 17592186044416) :
    Calls Try.prog 37 #[.slice ao n c, .slice bo m d] w fun e w' => e = .returned (.tuple #[.slice none 0 0, .bool false]) ∧ w' = w := by
  by_cases h1 : n = m
  · have h2 : (40 : Int) < n := by omega
    have hd : decide ((n : Int) ≤ 40) = false := decide_eq_false (by omega)
    subst h1
    go_enter Try.func37, Try.ntmps37
    go_wp2
    refine bodyPost_ret (v := .tuple #[.slice none 0 0, .bool false]) (by simp [results, Try.results37, go_sem]) rfl ⟨rfl, rfl⟩
  · have h2 : ((n : Int) != (m : Int)) = true := by rw [bne_iff_ne]; omega
    by_cases h3 : (n : Int) ≤ 40
    · have hd : decide ((n : Int) ≤ 40) = true := decide_eq_true h3
      go_enter Try.func37, Try.ntmps37
      go_wp2
      refine bodyPost_ret (v := .tuple #[.slice none 0 0, .bool false]) (by simp [results, Try.results37, go_sem]) rfl ⟨rfl, rfl⟩
    · have hd : decide ((n : Int) ≤ 40) = false := decide_eq_false h3
      go_enter Try.func37, Try.ntmps37
      go_wp2
      refine bodyPost_ret (v := .tuple #[.slice none 0 0, .bool false]) (by simp [results, Try.results37, go_sem]) rfl ⟨rfl, rfl⟩

theorem implUnl_nil (ao bo : Option Addr) (c d : Nat) (w : World) :
    Calls Try.prog 37 #[.slice ao 0 c, .slice bo 0 d] w fun e w' => e = .returned (.tuple #[.slice none 0 0, .bool true]) ∧ w' = w := by
  have hd : decide (((0 : Nat) : Int) ≤ 40) = true := decide_eq_true (by omega)
  go_enter Try.func37, Try.ntmps37
  go_wp2
  refine wp_loop_rounds 1 ?_
  rw [rounds_succ]
  go_wp2
  refine bodyPost_ret (v := .tuple #[.slice none 0 0, .bool true]) (by simp [results, Try.results37, go_sem]) rfl ⟨rfl, rfl⟩

theorem implUnl_c (ao bo : Option Addr) (n m c d : Nat) (xs ys : List Bool) (w : World) (hx : xs.length = n) (hy : ys.length = m) (hn : n ≤ 17592186044416) (hm : m ≤ 17592186044416) (hr : RdB w ao xs) (hs : RdB w bo ys) (zs : List Bool) (fb : Bool) (p : Nat) (hF : unlF xs ys = (zs, fb)) (hp : zs.length = p) :
    Calls Try.prog 37 #[.slice ao n c, .slice bo m d] w fun e w' => ∃ a' c', e = .returned (.tuple #[.slice a' p c', .bool fb]) ∧ OwnB w' w.heap.size (.slice a' p c') zs ∧ Below w.heap.size w w' := by
  unfold unlF at hF
  rw [hx, hy] at hF
  by_cases h : n ≤ 40 ∧ n = m
  · rw [if_pos h] at hF
    simp only [Prod.mk.injEq] at hF
    obtain ⟨rfl, rfl⟩ := hF
    obtain ⟨h40, rfl⟩ := h
    rw [unl_length _ _ (by omega), hx] at hp
    subst hp
    by_cases h0 : n = 0
    · subst h0
      have hxe : xs = [] := List.length_eq_zero_iff.1 hx
      subst hxe
      refine (implUnl_nil ao bo c d w).mono ?_
      rintro e w' ⟨rfl, rfl⟩
      exact ⟨none, 0, rfl, World.ownsRow_nil _ _ _ _, Below.refl _ _⟩
    · obtain ⟨b, o, rfl, hcx⟩ := hr.at hx (by omega)
      obtain ⟨b', o', rfl, hcy⟩ := hs.at hy (by omega)
      exact implUnl_at b o b' o' n c d xs ys w hx hy h40 hcx hcy
  · rw [if_neg h] at hF
    simp only [Prod.mk.injEq] at hF
    obtain ⟨rfl, rfl⟩ := hF
    simp at hp
    subst hp
    refine (implUnl_no ao bo n m c d w h hn hm).mono ?_
    rintro e w' ⟨rfl, rfl⟩
    exact ⟨none, 0, rfl, World.ownsRow_nil _ _ _ _, Below.refl _ _⟩

set_option maxHeartbeats 1000000 in
theorem specUnl_at (b o b' o' n c d : Nat) (xs ys : List Bool) (w : World) (hx : xs.length = n) (hy : ys.length = n) (h40 : n ≤ 40)
    (hcx : ∀ j, j < n → w.cell? ⟨b, o + j, none⟩ = some (.bool (xs.getD j false))) (hcy : ∀ j, j < n → w.cell? ⟨b', o' + j, none⟩ = some (.bool (ys.getD j false))) :
    Calls Try.prog 38 #[.slice (some ⟨b, o, none⟩) n c, .slice (some ⟨b', o', none⟩) n d] w fun e w' => ∃ a' c', e = .returned (.tuple #[.slice a' n c', .bool true]) ∧ OwnB w' w.heap.size (.slice a' n c') (unl xs ys) ∧ Below w.heap.size w w' := by
  obtain ⟨i0, hi, hz0, hz1, hz2⟩ := info_parts Try.infoBool
  have HX : Hid (xs.length = n) := hx
  have HY : Hid (ys.length = n) := hy
  have HCX : Hid (∀ j, j < n → w.cell? ⟨b, o + j, none⟩ = some (.bool (xs.getD j false))) := hcx
  have HCY : Hid (∀ j, j < n → w.cell? ⟨b', o' + j, none⟩ = some (.bool (ys.getD j false))) := hcy
  clear hx hy hcx hcy
  have hd : decide ((n : Int) ≤ 40) = true := decide_eq_true (by omega)
  go_enter Try.func38, Try.ntmps38
  go_wp2_with (go_at_call 54; refine (l3Long_c _ _ _ _ (by omega)).mono ?_; rw [hd]; clear hd; rintro e w' ⟨rfl, hw⟩; subst w')
  go_loopw [6, 20] (fun v i wr => ∃ k : Nat, k ≤ n ∧ i = .int .i64 k ∧ Hid (OwnB wr w.heap.size v ((unl xs ys).take k)) ∧ Hid (Below w.heap.size w wr)) (fun _ i _ => n - (intOf i).toNat)
  case atStart => exact ⟨0, Nat.zero_le _, rfl, World.ownsRow_nil _ _ _ _, Below.refl _ _⟩
  case round =>
    obtain ⟨k, hk, rfl, hO, hB⟩ := hrel
    by_cases hlt : k < n
    · have hbx := World.block_lt_of_cell? w _ (HCX.out k hlt)
      have hby := World.block_lt_of_cell? w _ (HCY.out k hlt)
      have g1 : wr.cell? ⟨b, o + k, none⟩ = some (.bool (xs.getD k false)) := by rw [hB.out.cell (p := ⟨b, o + k, none⟩) hbx]; exact HCX.out k hlt
      have g2 : wr.cell? ⟨b', o' + k, none⟩ = some (.bool (ys.getD k false)) := by rw [hB.out.cell (p := ⟨b', o' + k, none⟩) hby]; exact HCY.out k hlt
      have hob : ∀ k', u6.ownBlock = some k' → w.heap.size ≤ k' := own_block_geB hO.out
      have hlen : ((unl xs ys).take k).length = k := by rw [List.length_take, unl_length _ _ (by rw [HX.out, HY.out]), HX.out]; omega
      have hown : wr.ownsRow w.heap.size 4 1 u6 k (cellsB ((unl xs ys).take k)) := by have h := hO.out; unfold OwnB at h; rw [hlen] at h; exact h
      have HT : Hid ((unl xs ys).take (k + 1) = (unl xs ys).take k ++ [!(xs.getD k false == ys.getD k false)]) := unl_take HX.out HY.out hlt
      have HL : Hid (((unl xs ys).take k).length = k) := hlen
      generalize (unl xs ys).take k = out at *
      generalize xs.getD k false = x at *
      generalize ys.getD k false = y at *
      have hk0 : (0 : Int) ≤ (k : Int) := by omega
      have hkl : (k : Int) < (n : Int) := by omega
      have G1 : Hid (w.cell? ⟨b, o + k, none⟩ = some (.bool x) ∧ w.cell? ⟨b', o' + k, none⟩ = some (.bool y)) := ⟨(hB.out.cell (p := ⟨b, o + k, none⟩) hbx).symm.trans g1, (hB.out.cell (p := ⟨b', o' + k, none⟩) hby).symm.trans g2⟩
      have HBX : Hid (b < w.heap.size ∧ b' < w.heap.size) := ⟨hbx, hby⟩
      have HOWN : Hid (wr.ownsRow w.heap.size 4 1 u6 k (cellsB out)) := hown
      have HOB : Hid (∀ k', u6.ownBlock = some k' → w.heap.size ≤ k') := hob
      clear hlen hbx hby hown hob
      go_wp2_with fail
      go_region_held3 (fun w' => w'.cell? ⟨b, o + k, none⟩ = some (.bool x) ∧ w'.cell? ⟨b', o' + k, none⟩ = some (.bool y)) (first | exact ⟨gk0, gk1⟩ | go_keep) (first
        | (refine step_append_lies _ rfl _ _ 23 rfl w.heap.size 4 i0 (.bool false) 1 1 Try.underlying23 hi hz0 hz1 hz2 rfl (by decide) _ _ _ rfl (HOWN.out.drew.alloc _) ⟨wr.heap.size, 0, none⟩ 1 1 [.bool (!(x == y))] rfl rfl (cell_new1 _ _ _) (bools_oneCell [!(x == y)]) (by omega) (by unfold maxLen; omega) (by omega) (by have := hB.out.size; simp; omega) _ rfl ?_; intro g cap w2 hown' hgrow _ _; have HO' : Hid (OwnB w2 w.heap.size (.slice (some ⟨g, 0, none⟩) (k + 1) cap) (out ++ [!(x == y)])) := own_pushB (w := wr) (v := u6) (by simpa [HL.out] using hown'); have HB' : Hid (Below w.heap.size w w2) := (hB.out.drew.alloc hB.out.size _).grown hgrow (by have := hB.out.size; simp; omega) (fun k' e => HOB.out k' e); have gk0 : w2.cell? ⟨b, o + k, none⟩ = some (.bool x) := (HB'.out.cell (p := ⟨b, o + k, none⟩) HBX.out.1).trans G1.out.1; have gk1 : w2.cell? ⟨b', o' + k, none⟩ = some (.bool y) := (HB'.out.cell (p := ⟨b', o' + k, none⟩) HBX.out.2).trans G1.out.2; clear hown' hgrow))
      go_wp2
      go_roundw
      case rel => exact ⟨k + 1, by omega, by go_num, by rw [HT.out]; exact HO', HB'⟩
      case measure => simp [intOf]; omega
    · have he : (unl xs ys).take k = unl xs ys := List.take_of_length_le (by rw [unl_length _ _ (by rw [HX.out, HY.out]), HX.out]; omega)
      have hol : (unl xs ys).length = n := by rw [unl_length _ _ (by rw [HX.out, HY.out]), HX.out]
      rw [he] at hO
      obtain ⟨a', c', hv⟩ := hO.out.shape
      rw [hol] at hv
      subst hv
      clear he hol
      go_wp2
      refine bodyPost_ret (v := .tuple #[.slice a' n c', .bool true]) (by simp [results, Try.results38, go_sem]) rfl ⟨a', c', rfl, hO.out, hB.out⟩

theorem specUnl_no (ao bo : Option Addr) (n m c d : Nat) (w : World) (h : ¬ (n ≤ 40 ∧ n = m)) (hn : n ≤ 17592186044416) (hm : m ≤ 17592186044416) :
    Calls Try.prog 38 #[.slice ao n c, .slice bo m d] w fun e w' => e = .returned (.tuple #[.slice none 0 0, .bool false]) ∧ w' = w := by
  by_cases h1 : n = m
  · have h2 : (40 : Int) < n := by omega
    have hd : decide ((n : Int) ≤ 40) = false := decide_eq_false (by omega)
    subst h1
    go_enter Try.func38, Try.ntmps38
    go_wp2_with (go_at_call 54; refine (l3Long_c _ _ _ _ (by omega)).mono ?_; rw [hd]; clear hd; rintro e w' ⟨rfl, hw⟩; subst w')
    refine bodyPost_ret (v := .tuple #[.slice none 0 0, .bool false]) (by simp [results, Try.results38, go_sem]) rfl ⟨rfl, rfl⟩
  · have h2 : ((n : Int) != (m : Int)) = true := by rw [bne_iff_ne]; omega
    by_cases h3 : (n : Int) ≤ 40
    · have hd : decide ((n : Int) ≤ 40) = true := decide_eq_true h3
      go_enter Try.func38, Try.ntmps38
      go_wp2_with (go_at_call 54; refine (l3Long_c _ _ _ _ (by omega)).mono ?_; rw [hd]; clear hd; rintro e w' ⟨rfl, hw⟩; subst w')
      refine bodyPost_ret (v := .tuple #[.slice none 0 0, .bool false]) (by simp [results, Try.results38, go_sem]) rfl ⟨rfl, rfl⟩
    · have hd : decide ((n : Int) ≤ 40) = false := decide_eq_false h3
      go_enter Try.func38, Try.ntmps38
      go_wp2_with (go_at_call 54; refine (l3Long_c _ _ _ _ (by omega)).mono ?_; rw [hd]; clear hd; rintro e w' ⟨rfl, hw⟩; subst w')
      refine bodyPost_ret (v := .tuple #[.slice none 0 0, .bool false]) (by simp [results, Try.results38, go_sem]) rfl ⟨rfl, rfl⟩

theorem specUnl_nil (ao bo : Option Addr) (c d : Nat) (w : World) :
    Calls Try.prog 38 #[.slice ao 0 c, .slice bo 0 d] w fun e w' => e = .returned (.tuple #[.slice none 0 0, .bool true]) ∧ w' = w := by
  have hd : decide (((0 : Nat) : Int) ≤ 40) = true := decide_eq_true (by omega)
  go_enter Try.func38, Try.ntmps38
  go_wp2_with (go_at_call 54; refine (l3Long_c _ _ _ _ (by omega)).mono ?_; rw [hd]; clear hd; rintro e w' ⟨rfl, hw⟩; subst w')
  refine wp_loop_rounds 1 ?_
  rw [rounds_succ]
  go_wp2
  refine bodyPost_ret (v := .tuple #[.slice none 0 0, .bool true]) (by simp [results, Try.results38, go_sem]) rfl ⟨rfl, rfl⟩

theorem specUnl_c (ao bo : Option Addr) (n m c d : Nat) (xs ys : List Bool) (w : World) (hx : xs.length = n) (hy : ys.length = m) (hn : n ≤ 17592186044416) (hm : m ≤ 17592186044416) (hr : RdB w ao xs) (hs : RdB w bo ys) (zs : List Bool) (fb : Bool) (p : Nat) (hF : unlF xs ys = (zs, fb)) (hp : zs.length = p) :
    Calls Try.prog 38 #[.slice ao n c, .slice bo m d] w fun e w' => ∃ a' c', e = .returned (.tuple #[.slice a' p c', .bool fb]) ∧ OwnB w' w.heap.size (.slice a' p c') zs ∧ Below w.heap.size w w' := by
  unfold unlF at hF
  rw [hx, hy] at hF
  by_cases h : n ≤ 40 ∧ n = m
  · rw [if_pos h] at hF
    simp only [Prod.mk.injEq] at hF
    obtain ⟨rfl, rfl⟩ := hF
    obtain ⟨h40, rfl⟩ := h
    rw [unl_length _ _ (by omega), hx] at hp
    subst hp
    by_cases h0 : n = 0
    · subst h0
      have hxe : xs = [] := List.length_eq_zero_iff.1 hx
      subst hxe
      refine (specUnl_nil ao bo c d w).mono ?_
      rintro e w' ⟨rfl, rfl⟩
      exact ⟨none, 0, rfl, World.ownsRow_nil _ _ _ _, Below.refl _ _⟩
    · obtain ⟨b, o, rfl, hcx⟩ := hr.at hx (by omega)
      obtain ⟨b', o', rfl, hcy⟩ := hs.at hy (by omega)
      exact specUnl_at b o b' o' n c d xs ys w hx hy h40 hcx hcy
  · rw [if_neg h] at hF
    simp only [Prod.mk.injEq] at hF
    obtain ⟨rfl, rfl⟩ := hF
    simp at hp
    subst hp
    refine (specUnl_no ao bo n m c d w h hn hm).mono ?_
    rintro e w' ⟨rfl, rfl⟩
    exact ⟨none, 0, rfl, World.ownsRow_nil _ _ _ _, Below.refl _ _⟩

end Go.Proofs.Ytjdfpjeeipbghaa
