/- Chapter 16: PlayAll of the specification. -/
import Derived.Test.YtjpegbodhpnflaaDoorPB16
namespace Go.Proofs.YtjpegbodhpnflaaDoor
set_option linter.unusedVariables false
set_option maxRecDepth 1000000
set_option linter.unusedSimpArgs false
open Go.RowKit

theorem foldB_tk : ∀ (l : List Int) (u : (List Int × Int) × List Int), (l.foldl stepB u).1.1.length ≤ u.1.1.length + l.length ∧ (l.foldl stepB u).2.length = u.2.length + l.length
  | [], u => ⟨Nat.le_refl _, rfl⟩
  | n :: r, u => by
    rw [List.foldl_cons]
    have := foldB_tk r (stepB u n)
    have h2 : (stepB u n).1.1.length ≤ u.1.1.length + 1 ∧ (stepB u n).2.length = u.2.length + 1 := by
      unfold stepB
      split
      · simp
      · split <;> simp
    rw [List.length_cons]
    omega

set_option maxHeartbeats 4000000 in
theorem specAll_c (ao : Option Addr) (n c : Nat) (l : List Int) (w : World) (hx : l.length = n) (hn : n ≤ 17592186044416) (hr : Rd w ao l) :
    Calls Tryd.prog 15 #[.slice ao n c] w fun e w' => ∃ a' c', e = .returned (.tuple #[.slice a' (allV l).length c', .bool (playOk l)]) ∧ Own w' w.heap.size (.slice a' (allV l).length c') (allV l) ∧ Below w.heap.size w w' := by
  have q0 := l16Numbers_c ao n c l w hx hn hr
  unfold allV
  cases hok : playOk l
  · rw [if_neg (by decide)]
    rw [hok] at q0
    clear hx hr hok
    go_enter Tryd.func15, Tryd.ntmps15
    go_wp2_with fail
    refine q0.mono ?_
    clear q0
    rintro e w1 ⟨rfl, hw⟩
    subst w1
    go_wp2
    refine bodyPost_ret (v := .tuple #[.slice none 0 0, .bool false]) (by simp [results, Tryd.results15, go_sem]; try rfl) rfl ?_
    exact ⟨none, 0, rfl, World.ownsRow_nil _ _ _ _, Below.refl _ _⟩
  rw [if_pos rfl]
  rw [hok] at q0
  obtain ⟨h60, hall⟩ := playOk_all hok
  rw [← foldB_codes hall]
  have HI : Hid (∀ k, k ≤ n → 0 ≤ ((l.take k).foldl stepB (([], 0), [])).1.2 ∧ ((l.take k).foldl stepB (([], 0), [])).1.2 ≤ 100000) := fun k _ => by
    have ha : ∀ x ∈ l.take k, 1 ≤ x ∧ x ≤ 100000 := fun x hx => hall x (List.mem_of_mem_take hx)
    have h1 := sameAB_fold (l.take k) ([], []) (([], 0), []) invA_nil ⟨fun _ => Iff.rfl, rfl, rfl⟩ ha
    rw [h1.2.1]
    exact invA_top (invA_fold _ _ invA_nil ha)
  have HLn : Hid (∀ k, k ≤ n → ((l.take k).foldl stepB (([], 0), [])).1.1.length ≤ k ∧ ((l.take k).foldl stepB (([], 0), [])).2.length = k) := fun k hk => by
    have := foldB_tk (l.take k) (([], 0), [])
    have e : (l.take k).length = k := by rw [List.length_take]; omega
    rw [e] at this
    simpa using this
  have HBd : Hid (∀ k, k < n → 1 ≤ l.getD k 0 ∧ l.getD k 0 ≤ 100000) := fun k hk => hall _ (mem_getD 0 (by omega))
  have HF : Hid (∀ k, k < n → (l.take (k + 1)).foldl stepB (([], 0), []) = stepB ((l.take k).foldl stepB (([], 0), [])) (l.getD k 0)) := fun k hk => fold_take stepB _ (by omega)
  have HE : Hid ((l.take n).foldl stepB (([], 0), []) = l.foldl stepB (([], 0), [])) := by show _ = _; rw [← hx, List.take_length]
  have HX : Hid (l.length = n) := hx
  have HR : Hid (∀ wx, Below w.heap.size w wx → Rd wx ao l) := fun wx h => hr.later h
  rw [hx] at h60
  clear hx hr hok hall
  go_enter Tryd.func15, Tryd.ntmps15
  go_wp2_with fail
  refine q0.mono ?_
  clear q0
  rintro e w1 ⟨rfl, hw⟩
  subst w1
  go_wp2
  go_loopw [4, 5, 6, 14] (fun sv cv tv iv wr => ∃ (k : Nat) (tk : List Int) (ta : Option Addr) (tc : Nat) (top : Int) (os : List Int) (oa : Option Addr) (oc : Nat), k ≤ n ∧ sv = .slice ta tk.length tc ∧ cv = .slice oa os.length oc ∧ tv = .int .i64 top ∧ iv = .int .i64 k ∧ Hid (((tk, top), os) = (l.take k).foldl stepB (([], 0), [])) ∧ Hid (Own wr w.heap.size (.slice ta tk.length tc) tk) ∧ Hid (Own wr w.heap.size (.slice oa os.length oc) os) ∧ Hid (∀ j, (Value.slice ta tk.length tc).ownBlock = some j → (Value.slice oa os.length oc).ownBlock ≠ some j) ∧ Hid (Below w.heap.size w wr)) (fun _ _ _ iv _ => n - (intOf iv).toNat)
  case atStart => exact ⟨0, [], none, 0, 0, [], none, 0, Nat.zero_le _, rfl, rfl, rfl, rfl, rfl, World.ownsRow_nil _ _ _ _, World.ownsRow_nil _ _ _ _, fun j h => by simp [Value.ownBlock] at h, Below.refl _ _⟩
  case round =>
    obtain ⟨k, tk, ta, tc, top, os, oa, oc, hk, rfl, rfl, rfl, rfl, HS, HOT, HOO, HD, HB⟩ := hrel
    by_cases hlt : k < n
    · have hT : 0 ≤ top ∧ top ≤ 100000 := by have := HI.out k hk; rw [← HS.out] at this; exact this
      have hos : os.length ≤ 1000 := by have := (HLn.out k hk).2; rw [← HS.out] at this; have h3 : os.length = k := this; omega
      have htk : tk.length ≤ 1000 := by have := (HLn.out k hk).1; rw [← HS.out] at this; have h3 : tk.length ≤ k := this; omega
      have hbd := HBd.out k hlt
      have hf := HF.out k hlt
      rw [← HS.out] at hf
      obtain ⟨b, o, rfl, g1⟩ := (HR.out wr HB.out).get (k := k) (by rw [HX.out]; exact hlt)
      have hk0 : (0 : Int) ≤ (k : Int) := by omega
      have hkl : (k : Int) < (n : Int) := by omega
      have q1 := fun wx (h : wx = wr) => l1Has_c ta tk.length tc (l.getD k 0) tk wx rfl (by omega) (by rw [h]; exact HOT.out.rd'.2)
      unfold stepB at hf
      dsimp only at hf
      generalize l.getD k 0 = z at g1 q1 hbd hf
      by_cases c1 : z ∈ tk
      · rw [if_pos c1] at hf
        rw [decide_eq_true c1] at q1
        clear c1
        have hf2 := hf
        obtain ⟨g, cap, w3, hrun, how, hgr, hgg, hglt⟩ := pushC_run wr w.heap.size (.slice oa os.length oc) os 1 HOO.out hos HB.out.size
        have HT3 : Hid (Own w3 w.heap.size (.slice ta tk.length tc) tk) := HOT.out.kept hgr (by
          cases hv : (Value.slice ta tk.length tc).ownBlock with
          | none => exact Or.inl rfl
          | some j => exact Or.inr fun e => HD.out j hv e.symm)
        have HO3 : Hid (Own w3 w.heap.size (.slice (some ⟨g, 0, none⟩) (os.length + 1) cap) (os ++ [1])) := how
        have HD3 : Hid (∀ j, (Value.slice ta tk.length tc).ownBlock = some j → (Value.slice (some ⟨g, 0, none⟩) (os.length + 1) cap).ownBlock ≠ some j) := fun j hj e => by
          have h1 := (World.ownsRow.lt HOT.out j hj).2
          simp only [Value.ownBlock, Option.some.injEq] at e
          rcases hgg with h | h
          · exact HD.out j hj (by rw [h, e])
          · omega
        have HB3 : Hid (Below w.heap.size w w3) := HB.out.trans ((Below.refl _ _).grown hgr HB.out.size (own_block_ge HOO.out))
        have hl2 : (os ++ [1]).length = os.length + 1 := by simp
        have HS2 : Hid (((tk, top), os ++ [1]) = (l.take (k + 1)).foldl stepB (([], 0), [])) := hf.symm
        clear HOT HOO HB how hgr hgg HS hf hf2
        go_wp2_with fail
        refine (q1 _ rfl).mono ?_
        clear q1
        rintro e w1 ⟨rfl, hw⟩
        subst w1
        go_wp2_with (at_builtin; refine Lib.wpList_append_run _ rfl _ _ _ _ rfl _ _ rfl rfl _ _ (hrun _) ?_; clear hrun)
        go_roundw
        case rel => exact ⟨k + 1, tk, ta, tc, top, os ++ [1], some ⟨g, 0, none⟩, cap, by omega, rfl, by rw [hl2], rfl, by go_num, HS2, HT3, by rw [hl2]; exact HO3, by rw [hl2]; exact HD3, HB3⟩
        case measure => simp [intOf]; omega
      rw [if_neg c1] at hf
      rw [decide_eq_false c1] at q1
      clear c1
      by_cases c2 : 16 ≤ top - z
      · rw [if_pos c2] at hf
        have hf2 := hf
        obtain ⟨g, cap, w3, hrun, how, hgr, hgg, hglt⟩ := pushC_run wr w.heap.size (.slice oa os.length oc) os 2 HOO.out hos HB.out.size
        have HT3 : Hid (Own w3 w.heap.size (.slice ta tk.length tc) tk) := HOT.out.kept hgr (by
          cases hv : (Value.slice ta tk.length tc).ownBlock with
          | none => exact Or.inl rfl
          | some j => exact Or.inr fun e => HD.out j hv e.symm)
        have HO3 : Hid (Own w3 w.heap.size (.slice (some ⟨g, 0, none⟩) (os.length + 1) cap) (os ++ [2])) := how
        have HD3 : Hid (∀ j, (Value.slice ta tk.length tc).ownBlock = some j → (Value.slice (some ⟨g, 0, none⟩) (os.length + 1) cap).ownBlock ≠ some j) := fun j hj e => by
          have h1 := (World.ownsRow.lt HOT.out j hj).2
          simp only [Value.ownBlock, Option.some.injEq] at e
          rcases hgg with h | h
          · exact HD.out j hj (by rw [h, e])
          · omega
        have HB3 : Hid (Below w.heap.size w w3) := HB.out.trans ((Below.refl _ _).grown hgr HB.out.size (own_block_ge HOO.out))
        have hl2 : (os ++ [2]).length = os.length + 1 := by simp
        have HS2 : Hid (((tk, top), os ++ [2]) = (l.take (k + 1)).foldl stepB (([], 0), [])) := hf.symm
        clear HOT HOO HB how hgr hgg HS hf hf2
        go_wp2_with fail
        refine (q1 _ rfl).mono ?_
        clear q1
        rintro e w1 ⟨rfl, hw⟩
        subst w1
        go_wp2_with (at_builtin; refine Lib.wpList_append_run _ rfl _ _ _ _ rfl _ _ rfl rfl _ _ (hrun _) ?_; clear hrun)
        go_roundw
        case rel => exact ⟨k + 1, tk, ta, tc, top, os ++ [2], some ⟨g, 0, none⟩, cap, by omega, rfl, by rw [hl2], rfl, by go_num, HS2, HT3, by rw [hl2]; exact HO3, by rw [hl2]; exact HD3, HB3⟩
        case measure => simp [intOf]; omega
      rw [if_neg c2] at hf
      obtain ⟨g, cap, w3, hrun, how, hgr, hgg, hglt⟩ := pushC_run wr w.heap.size (.slice oa os.length oc) os 0 HOO.out hos HB.out.size
      have hT3 : Own w3 w.heap.size (.slice ta tk.length tc) tk := HOT.out.kept hgr (by
        cases hv : (Value.slice ta tk.length tc).ownBlock with
        | none => exact Or.inl rfl
        | some j => exact Or.inr fun e => HD.out j hv e.symm)
      have hB3 : Below w.heap.size w w3 := HB.out.trans ((Below.refl _ _).grown hgr HB.out.size (own_block_ge HOO.out))
      have hD3 : ∀ j, (Value.slice ta tk.length tc).ownBlock = some j → g ≠ j := fun j hj e => by
        have h1 := (World.ownsRow.lt HOT.out j hj).2
        rcases hgg with h | h
        · exact HD.out j hj (by rw [h, e])
        · omega
      obtain ⟨g2, cap2, w4, hrun2, how2, hgr2, hgg2, hglt2⟩ := pushC_run w3 w.heap.size (.slice ta tk.length tc) tk z hT3 htk hB3.size
      have HT4 : Hid (Own w4 w.heap.size (.slice (some ⟨g2, 0, none⟩) (tk.length + 1) cap2) (tk ++ [z])) := how2
      have HO4 : Hid (Own w4 w.heap.size (.slice (some ⟨g, 0, none⟩) (os.length + 1) cap) (os ++ [0])) := how.kept hgr2 (Or.inr fun e => hD3 g (by rw [← e]; rfl) rfl)
      have HD4 : Hid (∀ j, (Value.slice (some ⟨g2, 0, none⟩) (tk.length + 1) cap2).ownBlock = some j → (Value.slice (some ⟨g, 0, none⟩) (os.length + 1) cap).ownBlock ≠ some j) := fun j hj e => by
        simp only [Value.ownBlock, Option.some.injEq] at e hj
        rcases hgg2 with h | h
        · exact hD3 g2 h (by omega)
        · omega
      have HB4 : Hid (Below w.heap.size w w4) := hB3.trans ((Below.refl _ _).grown hgr2 hB3.size (own_block_ge hT3))
      have hl2 : (os ++ [(0 : Int)]).length = os.length + 1 := by simp
      have hl3 : (tk ++ [z]).length = tk.length + 1 := by simp
      have HS2 : Hid (((tk ++ [z], max top z), os ++ [0]) = (l.take (k + 1)).foldl stepB (([], 0), [])) := hf.symm
      clear HOT HOO HB how hgr hgg HS hf hT3 hB3 hD3 how2 hgr2 hgg2
      by_cases c3 : top < z
      · have hm : max top z = z := by omega
        rw [hm] at HS2
        clear hm
        go_wp2_with fail
        refine (q1 _ rfl).mono ?_
        clear q1
        rintro e w1 ⟨rfl, hw⟩
        subst w1
        go_wp2_with (at_builtin; first | (refine Lib.wpList_append_run _ rfl _ _ _ _ rfl _ _ rfl rfl _ _ (hrun _) ?_; clear hrun) | (refine Lib.wpList_append_run _ rfl _ _ _ _ rfl _ _ rfl rfl _ _ (hrun2 _) ?_; clear hrun2))
        go_roundw
        case rel => exact ⟨k + 1, tk ++ [z], some ⟨g2, 0, none⟩, cap2, z, os ++ [0], some ⟨g, 0, none⟩, cap, by omega, by rw [hl3], by rw [hl2], rfl, by go_num, HS2, by rw [hl3]; exact HT4, by rw [hl2]; exact HO4, by rw [hl2, hl3]; exact HD4, HB4⟩
        case measure => simp [intOf]; omega
      · have hm : max top z = top := by omega
        rw [hm] at HS2
        clear hm
        go_wp2_with fail
        refine (q1 _ rfl).mono ?_
        clear q1
        rintro e w1 ⟨rfl, hw⟩
        subst w1
        go_wp2_with (at_builtin; first | (refine Lib.wpList_append_run _ rfl _ _ _ _ rfl _ _ rfl rfl _ _ (hrun _) ?_; clear hrun) | (refine Lib.wpList_append_run _ rfl _ _ _ _ rfl _ _ rfl rfl _ _ (hrun2 _) ?_; clear hrun2))
        go_roundw
        case rel => exact ⟨k + 1, tk ++ [z], some ⟨g2, 0, none⟩, cap2, top, os ++ [0], some ⟨g, 0, none⟩, cap, by omega, by rw [hl3], by rw [hl2], rfl, by go_num, HS2, by rw [hl3]; exact HT4, by rw [hl2]; exact HO4, by rw [hl2, hl3]; exact HD4, HB4⟩
        case measure => simp [intOf]; omega
    · obtain rfl : k = n := by omega
      have hE2 : Hid ((l.foldl stepB (([], 0), [])).2 = os) := by show _ = _; rw [← HE.out, ← HS.out]
      go_wp2
      refine bodyPost_ret (v := .tuple #[.slice oa os.length oc, .bool true]) (by simp [results, Tryd.results15, go_sem]; try rfl) rfl ?_
      exact ⟨oa, oc, by rw [hE2.out], by rw [hE2.out]; exact HOO.out, HB.out⟩

end Go.Proofs.YtjpegbodhpnflaaDoor
