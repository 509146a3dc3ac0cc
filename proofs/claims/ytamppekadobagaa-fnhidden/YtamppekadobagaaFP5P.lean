/- Plain facts of FnParts and FnHidden. -/
import Derived.Test.YtamppekadobagaaSE5
import Derived.Test.YtamppekadobagaaSH5
import Derived.Test.YtamppekadobagaaAG5
namespace Go.Proofs.Ytamppekadobagaa
set_option linter.unusedVariables false
set_option linter.unusedSimpArgs false
open Go.RowKit

theorem toF_ne0 {j : Nat} (h : j < 1400) : toF ((j : Int) + 1) ≠ 0 := fun e => by
  have := congrArg vI e
  rw [vI_toF' (by omega) (by omega), vI_zero] at this
  omega
theorem toF_inj {i j : Nat} (hi : i < 1400) (hj : j < 1400) (e : toF ((i : Int) + 1) = toF ((j : Int) + 1)) : i = j := by
  have := congrArg vI e
  rw [vI_toF' (by omega) (by omega), vI_toF' (by omega) (by omega)] at this
  omega
/-- The parts of a polynomial over the field. -/
def spF (ps : List F) (m : Nat) : List (F × F) := (List.range m).map fun j : Nat => (toF ((j : Int) + 1), evF ps (toF ((j : Int) + 1)))
theorem splitL_pIs (ps : List F) {m : Nat} (h : m ≤ 8) : splitL ps m = pIs (spF ps m) := by
  unfold splitL pIs spF
  rw [List.map_map]
  refine List.map_congr_left fun j hj => ?_
  have := List.mem_range.1 hj
  show _ = pI _
  rw [pI, vI_toF' (by omega) (by omega)]
theorem nodup_range_map {m : Nat} (h : m ≤ 8) : ((List.range m).map fun j : Nat => toF ((j : Int) + 1)).Nodup := by
  rw [List.nodup_iff_pairwise_ne] at *
  rw [List.pairwise_map]
  refine List.Pairwise.imp_of_mem ?_ List.nodup_range
  intro a b ha hb hne e
  have h1 := List.mem_range.1 ha
  have h2 := List.mem_range.1 hb
  exact hne (toF_inj (by omega) (by omega) e)
theorem spF_nodup (ps : List F) {m : Nat} (h : m ≤ 8) : ((spF ps m).map Prod.fst).Nodup := by
  have : (spF ps m).map Prod.fst = (List.range m).map fun j : Nat => toF ((j : Int) + 1) := by simp [spF, Function.comp_def]
  rw [this]; exact nodup_range_map h
theorem sub_mem {l : List (F × F)} {k q : Nat} {p : F × F} (h : p ∈ (l.drop k).take q) : p ∈ l := List.mem_of_mem_drop (List.mem_of_mem_take h)
theorem sub_nodup {l : List (F × F)} (k q : Nat) (h : (l.map Prod.fst).Nodup) : (((l.drop k).take q).map Prod.fst).Nodup := by
  rw [List.map_take, List.map_drop]
  exact List.Sublist.nodup ((List.take_sublist _ _).trans (List.drop_sublist _ _)) h
theorem throughF_good {fl : List (F × F)} (h : GoodP fl) (z : F) : throughF (pIs fl) (vI z) = (vI (thF fl z), true) := by
  unfold throughF
  have : smallB (vI z) = true := by unfold smallB; rw [decide_eq_true_iff]; have := vI_mem z; omega
  rw [if_pos ⟨partsB_good h, this⟩, pIs_toP, toF_vI]
theorem polyThF_good {fl : List (F × F)} (h : GoodP fl) : polyThF (pIs fl) = (vIs (polyF fl), true) := by
  unfold polyThF
  rw [if_pos (partsB_good h), pIs_toP]
theorem valueF_good {ps : List F} (h1 : 1 ≤ ps.length) (h8 : ps.length ≤ 8) (z : F) : valueF (vIs ps) (vI z) = (vI (evF ps z), true) := by
  unfold valueF
  have e1 : polyB (vIs ps) = true := by unfold polyB; rw [vIs_length, decide_eq_true ⟨h1, h8⟩, vIs_allIn]; rfl
  have e2 : smallB (vI z) = true := by unfold smallB; rw [decide_eq_true_iff]; have := vI_mem z; omega
  rw [if_pos ⟨e1, e2⟩, vIs_toF, toF_vI]

/-- Any so many parts tell the secret, the polynomial, and its values. -/
theorem parts_tell {poly : List Int} {many : Int} {l : List (Int × Int)} (h : splitF poly many = (l, true)) {k : Nat} (hk : k + poly.length ≤ l.length) (x : Int) (h0 : 0 ≤ x) (h1 : x < 1499) :
    throughF ((l.drop k).take poly.length) 0 = (poly.getD 0 0, true) ∧ polyThF ((l.drop k).take poly.length) = (poly, true) ∧ (∃ v, valueF poly x = (v, true) ∧ throughF ((l.drop k).take poly.length) x = (v, true)) ∧ 1 ≤ poly.length := by
  unfold splitF at h
  split at h
  · rename_i hc
    simp only [Prod.mk.injEq, and_true] at h
    obtain ⟨ps, rfl, hp1, hp8⟩ := polyB_parts hc.1
    rw [vIs_toF, splitL_pIs ps (by omega)] at h
    subst h
    rw [vIs_length, pIs_length] at hk
    rw [vIs_length]
    have hm : many.toNat ≤ 8 := by omega
    obtain ⟨sub, hsub⟩ : ∃ sub, sub = ((spF ps many.toNat).drop k).take ps.length := ⟨_, rfl⟩
    have e : ((pIs (spF ps many.toNat)).drop k).take ps.length = pIs sub := by rw [hsub]; simp [pIs, List.map_take, List.map_drop]
    rw [e]
    have hl : sub.length = ps.length := by rw [hsub, List.length_take, List.length_drop]; omega
    have hnd : (sub.map Prod.fst).Nodup := by rw [hsub]; exact sub_nodup _ _ (spF_nodup ps hm)
    have hmem : ∀ p ∈ sub, p ∈ spF ps many.toNat := fun p hp => by rw [hsub] at hp; exact sub_mem hp
    have hev : ∀ p ∈ sub, evF ps p.1 = p.2 := fun p hp => by
      obtain ⟨j, _, rfl⟩ := List.mem_map.1 (hmem p hp)
      rfl
    have hg : GoodP sub := ⟨hnd, fun p hp => by
      obtain ⟨j, hj, rfl⟩ := List.mem_map.1 (hmem p hp)
      exact toF_ne0 (by have := List.mem_range.1 hj; omega), by omega, by omega⟩
    obtain ⟨z, rfl⟩ : ∃ z : F, x = vI z := ⟨toF x, (vI_toF' h0 h1).symm⟩
    refine ⟨?_, ?_, ⟨vI (evF ps z), valueF_good hp1 hp8 z, ?_⟩, hp1⟩
    · have h00 := throughF_good hg 0
      rw [vI_zero] at h00
      rw [h00, thF_told sub hnd ps hl.symm hev 0, vIs_getD ps 0 (by omega)]
      match ps, hp1 with
      | c0 :: r, _ => rw [ev_at_zero]; rfl
    · rw [polyThF_good hg, ← polyF_told sub hnd ps hl.symm hev]
    · rw [throughF_good hg, thF_told sub hnd ps hl.symm hev z]
  · simp at h

/-- Added parts tell the sum. -/
theorem add_tell {a b c : List (Int × Int)} (h : addPF a b = (c, true)) : ∃ x y : Int, throughF a 0 = (x, true) ∧ throughF b 0 = (y, true) ∧ throughF c 0 = ((x + y) % 1499, true) ∧ (0 ≤ x ∧ x < 1499) ∧ (0 ≤ y ∧ y < 1499) := by
  unfold addPF at h
  split at h
  · rename_i hc
    simp only [Prod.mk.injEq, and_true] at h
    obtain ⟨⟨h1, h2⟩, he⟩ := hc
    obtain ⟨fl, rfl, hg⟩ := partsB_parts h1
    obtain ⟨gl, rfl, hg2⟩ := partsB_parts h2
    rw [fsts_pIs, fsts_pIs] at he
    have he' := vIs_inj he
    have hl : fl.length = gl.length := by have := congrArg List.length he'; simpa using this
    rw [zip_pIs] at h
    subst h
    have hfst : (addP fl gl).map Prod.fst = fl.map Prod.fst := zip_fst fl gl he'
    have hgs : GoodP (addP fl gl) := ⟨by rw [hfst]; exact hg.1, fun p hp => by
      have : p.1 ∈ fl.map Prod.fst := by rw [← hfst]; exact List.mem_map_of_mem hp
      obtain ⟨q, hq, e⟩ := List.mem_map.1 this
      rw [← e]; exact hg.2.1 q hq, by rw [addP_length hl]; exact hg.2.2.1, by rw [addP_length hl]; exact hg.2.2.2⟩
    have t1 := throughF_good hg 0
    have t2 := throughF_good hg2 0
    have t3 := throughF_good hgs 0
    rw [vI_zero] at t1 t2 t3
    refine ⟨_, _, t1, t2, ?_, vI_mem _, vI_mem _⟩
    rw [t3, vI_add]
    have := thF_add fl gl he' 0
    rw [← this]; rfl
  · simp at h

theorem take_drop_rd {w : World} {b o n : Nat} {l : List (Int × Int)} (hx : l.length = n) (hc : ∀ j, j < n → w.cell? ⟨b, o + j * 2, none⟩ = some (.int .i64 (l.getD j (0, 0)).1) ∧ w.cell? ⟨b, o + j * 2 + 1, none⟩ = some (.int .i64 (l.getD j (0, 0)).2)) {k q : Nat} (hk : k + q ≤ n) : RdP w (some ⟨b, o + k * 2, none⟩) ((l.drop k).take q) := by
  refine Or.inr ⟨b, o + k * 2, rfl, fun j hj => ?_⟩
  have hj' : j < q := by rw [List.length_take, List.length_drop, hx] at hj; omega
  have := hc (k + j) (by omega)
  rw [show o + (k + j) * 2 = o + k * 2 + j * 2 by omega] at this
  have e : ((l.drop k).take q).getD j (0, 0) = l.getD (k + j) (0, 0) := by simp [List.getD, List.getElem?_take, hj']
  rw [e]
  exact this

end Go.Proofs.Ytamppekadobagaa
