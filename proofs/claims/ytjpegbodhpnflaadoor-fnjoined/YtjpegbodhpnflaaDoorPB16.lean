/- Chapter 16: PlayAll of the program. -/
import Derived.Test.YtjpegbodhpnflaaDoorPA16
namespace Go.Proofs.YtjpegbodhpnflaaDoor
set_option linter.unusedVariables false
set_option maxRecDepth 1000000
set_option linter.unusedSimpArgs false
open Go.RowKit

set_option maxHeartbeats 4000000 in
theorem implAll_c (ao : Option Addr) (n c : Nat) (l : List Int) (w : World) (hx : l.length = n) (hn : n ≤ 17592186044416) (hr : Rd w ao l) :
    Calls Tryd.prog 14 #[.slice ao n c] w fun e w' => ∃ a' c', e = .returned (.tuple #[.slice a' (allV l).length c', .bool (playOk l)]) ∧ Own w' w.heap.size (.slice a' (allV l).length c') (allV l) ∧ Below w.heap.size w w' := by
  have q0 := fewP_c 60 (by omega) ao n c l w hx hn hr
  unfold allV
  cases hok : playOk l
  · rw [if_neg (by decide)]
    have hq : (decide (l.length ≤ 60) && l.all playB) = false := hok
    rw [hq] at q0
    clear hx hr hok hq
    go_enter Tryd.func14, Tryd.ntmps14
    go_wp2_with fail
    refine q0.mono ?_
    clear q0
    rintro e w1 ⟨rfl, hw⟩
    subst w1
    go_wp2
    refine bodyPost_ret (v := .tuple #[.slice none 0 0, .bool false]) (by simp [results, Tryd.results14, go_sem]; try rfl) rfl ?_
    exact ⟨none, 0, rfl, World.ownsRow_nil _ _ _ _, Below.refl _ _⟩
  rw [if_pos rfl]
  have hq : (decide (l.length ≤ 60) && l.all playB) = true := hok
  rw [hq] at q0
  obtain ⟨h60, hall⟩ := playOk_all hok
  have HI : Hid (∀ k, k ≤ n → InvA ((l.take k).foldl stepA ([], []))) := fun k _ => invA_fold _ _ invA_nil (fun x hx => hall x (List.mem_of_mem_take hx))
  have HLn : Hid (∀ k, k ≤ n → ((l.take k).foldl stepA ([], [])).2.length = k) := fun k hk => by
    rw [foldA_len, List.length_take]; simp; omega
  have HBd : Hid (∀ k, k < n → 1 ≤ l.getD k 0 ∧ l.getD k 0 ≤ 100000) := fun k hk => hall _ (mem_getD 0 (by omega))
  have HF : Hid (∀ k, k < n → (l.take (k + 1)).foldl stepA ([], []) = stepA ((l.take k).foldl stepA ([], [])) (l.getD k 0)) := fun k hk => fold_take stepA _ (by omega)
  have HE : Hid ((l.take n).foldl stepA ([], []) = l.foldl stepA ([], [])) := by show _ = _; rw [← hx, List.take_length]
  have HX : Hid (l.length = n) := hx
  have HR : Hid (∀ wx, Below w.heap.size w wx → Rd wx ao l) := fun wx h => hr.later h
  rw [hx] at h60
  clear hx hr hok hq hall
  go_enter Tryd.func14, Tryd.ntmps14
  go_wp2_with fail
  refine q0.mono ?_
  clear q0
  rintro e w1 ⟨rfl, hw⟩
  subst w1
  go_wp2
  go_loopw [4, 5, 14] (fun sv cv iv wr => ∃ (k : Nat) (all : List Int) (aa : Option Addr) (ac : Nat) (cs : List Int) (ca : Option Addr) (cc : Nat), k ≤ n ∧ sv = .slice aa all.length ac ∧ cv = .slice ca cs.length cc ∧ iv = .int .i64 k ∧ Hid ((all, cs) = (l.take k).foldl stepA ([], [])) ∧ Hid (Own wr w.heap.size (.slice aa all.length ac) all) ∧ Hid (Own wr w.heap.size (.slice ca cs.length cc) cs) ∧ Hid (∀ j, (Value.slice aa all.length ac).ownBlock = some j → (Value.slice ca cs.length cc).ownBlock ≠ some j) ∧ Hid (Below w.heap.size w wr)) (fun _ _ iv _ => n - (intOf iv).toNat)
  case atStart => exact ⟨0, [], none, 0, [], none, 0, Nat.zero_le _, rfl, rfl, rfl, rfl, World.ownsRow_nil _ _ _ _, World.ownsRow_nil _ _ _ _, fun j h => by simp [Value.ownBlock] at h, Below.refl _ _⟩
  case round =>
    obtain ⟨k, all, aa, ac, cs, ca, cc, hk, rfl, rfl, rfl, HS, HOA, HOC, HD, HB⟩ := hrel
    by_cases hlt : k < n
    · have hI : InvA (all, cs) := by have := HI.out k hk; rw [← HS.out] at this; exact this
      have hcl : cs.length = k := by have := HLn.out k hk; rw [← HS.out] at this; exact this
      have hal : all.length ≤ k := by have := hI.2.2; show all.length ≤ k; rw [← hcl]; exact this
      have hcs : cs.length ≤ 1000 := by omega
      clear hcl
      have htop := invA_top hI
      have hris : Ris ltI all := hI.1
      have hbd := HBd.out k hlt
      have hf := HF.out k hlt
      rw [← HS.out] at hf
      obtain ⟨b, o, rfl, g1⟩ := (HR.out wr HB.out).get (k := k) (by rw [HX.out]; exact hlt)
      have hk0 : (0 : Int) ≤ (k : Int) := by omega
      have hkl : (k : Int) < (n : Int) := by omega
      have q1 := codeFor_c aa all.length ac all (l.getD k 0) wr rfl (by omega) HOA.out.rd'.2 hris hbd htop
      have HWi : Hid (∀ wx, Own wx w.heap.size (.slice aa all.length ac) all → Calls Tryd.prog 43 #[.slice aa all.length ac, .int .i64 (l.getD k 0)] wx fun e w' => ∃ a' c', e = .returned (.slice a' (all.length + 1) c') ∧ Own w' wx.heap.size (.slice a' (all.length + 1) c') (insL ltI (l.getD k 0) all) ∧ Below wx.heap.size wx w') := fun wx ho => withI_c aa _ ac all (l.getD k 0) wx rfl (by omega) ho.rd'.2 (fun e => by
        rcases ho.form with ⟨h, h2⟩ | ⟨g, cap, h, _⟩
        · injection h with h3 h4 h5
          exact ⟨h4, h5⟩
        · rw [e] at h; cases h) hris
      have hil := insL_length (lt := ltI) (l.getD k 0) all
      unfold stepA at hf
      dsimp only at hf
      generalize insL ltI (l.getD k 0) all = ins at HWi hil hf
      generalize codeL all (l.getD k 0) = cd at q1 hf
      generalize l.getD k 0 = z at g1 q1 HWi hbd
      clear hI htop hris
      go_wp2_with fail
      refine q1.mono ?_
      clear q1
      rintro e w1 ⟨rfl, hb1⟩
      have HA1 : Hid (Own w1 w.heap.size (.slice aa all.length ac) all) := HOA.out.later hb1
      have HC1 : Hid (Own w1 w.heap.size (.slice ca cs.length cc) cs) := HOC.out.later hb1
      have HB1 : Hid (Below w.heap.size w w1) := HB.out.trans (hb1.mono HB.out.size)
      clear hb1 HOA HOC HB g1
      by_cases hcd : cd = 0
      · rw [if_pos hcd] at hf
        subst hcd
        have HS2 : Hid ((ins, cs ++ [0]) = (l.take (k + 1)).foldl stepA ([], [])) := hf.symm
        clear hf
        go_wp2_with fail
        refine (HWi.out _ HA1.out).mono ?_
        clear HWi
        rintro e w2 ⟨a2, c2, rfl, ho2, hb2⟩
        have HC2 := HC1.out.later hb2
        have hB2 : Below w.heap.size w w2 := HB1.out.trans (hb2.mono HB1.out.size)
        have hcb : ∀ j, (Value.slice ca cs.length cc).ownBlock = some j → j < w1.heap.size := fun j hj => (World.ownsRow.lt HC1.out j hj).2
        have hab : ∀ j, (Value.slice a2 (all.length + 1) c2).ownBlock = some j → w1.heap.size ≤ j ∧ j < w2.heap.size := fun j hj => ⟨own_block_ge ho2 j hj, (World.ownsRow.lt ho2 j hj).2⟩
        obtain ⟨g, cap, w3, hrun, how, hgr, hgg, hglt⟩ := pushC_run w2 w.heap.size (.slice ca cs.length cc) cs 0 HC2 (by omega) hB2.size
        have HA3 : Hid (Own w3 w.heap.size (.slice a2 (all.length + 1) c2) ins) := (ho2.mono HB1.out.size).kept hgr (by
          cases hv : (Value.slice a2 (all.length + 1) c2).ownBlock with
          | none => exact Or.inl rfl
          | some j => exact Or.inr fun e => by have := hcb j e.symm; have := (hab j hv).1; omega)
        have HC3 : Hid (Own w3 w.heap.size (.slice (some ⟨g, 0, none⟩) (cs.length + 1) cap) (cs ++ [0])) := how
        have HD3 : Hid (∀ j, (Value.slice a2 (all.length + 1) c2).ownBlock = some j → (Value.slice (some ⟨g, 0, none⟩) (cs.length + 1) cap).ownBlock ≠ some j) := fun j hj e => by
          have h1 := hab j hj
          simp only [Value.ownBlock, Option.some.injEq] at e
          rcases hgg with h | h
          · have := hcb g h; omega
          · omega
        have HB3 : Hid (Below w.heap.size w w3) := hB2.trans ((Below.refl _ _).grown hgr hB2.size (own_block_ge HC2))
        have hl2 : (cs ++ [0]).length = cs.length + 1 := by simp
        clear HA1 HC1 HB1 hB2 hb2 ho2 HC2 how hgr hgg hcb hab HS
        go_wp2_with (at_builtin; refine Lib.wpList_append_run _ rfl _ _ _ _ rfl _ _ rfl rfl _ _ (hrun _) ?_; clear hrun)
        go_roundw
        case rel => exact ⟨k + 1, ins, a2, c2, cs ++ [0], some ⟨g, 0, none⟩, cap, by omega, by rw [hil], by rw [hl2], by go_num, HS2, by rw [hil]; exact HA3, by rw [hl2]; exact HC3, by rw [hil, hl2]; exact HD3, HB3⟩
        case measure => simp [intOf]; omega
      · rw [if_neg hcd] at hf
        have HS2 : Hid ((all, cs ++ [cd]) = (l.take (k + 1)).foldl stepA ([], [])) := hf.symm
        have hcd2 : (cd == 0) = false := by rw [beq_eq_false_iff_ne]; exact hcd
        clear hf HWi
        have hab : ∀ j, (Value.slice aa all.length ac).ownBlock = some j → j < w1.heap.size := fun j hj => (World.ownsRow.lt HA1.out j hj).2
        obtain ⟨g, cap, w3, hrun, how, hgr, hgg, hglt⟩ := pushC_run w1 w.heap.size (.slice ca cs.length cc) cs cd HC1.out (by omega) HB1.out.size
        have HA3 : Hid (Own w3 w.heap.size (.slice aa all.length ac) all) := HA1.out.kept hgr (by
          cases hv : (Value.slice aa all.length ac).ownBlock with
          | none => exact Or.inl rfl
          | some j => exact Or.inr fun e => HD.out j hv e.symm)
        have HC3 : Hid (Own w3 w.heap.size (.slice (some ⟨g, 0, none⟩) (cs.length + 1) cap) (cs ++ [cd])) := how
        have HD3 : Hid (∀ j, (Value.slice aa all.length ac).ownBlock = some j → (Value.slice (some ⟨g, 0, none⟩) (cs.length + 1) cap).ownBlock ≠ some j) := fun j hj e => by
          have h1 := hab j hj
          simp only [Value.ownBlock, Option.some.injEq] at e
          rcases hgg with h | h
          · exact HD.out j hj (by rw [h, e])
          · omega
        have HB3 : Hid (Below w.heap.size w w3) := HB1.out.trans ((Below.refl _ _).grown hgr HB1.out.size (own_block_ge HC1.out))
        have hl2 : (cs ++ [cd]).length = cs.length + 1 := by simp
        clear HA1 HC1 HB1 how hgr hgg hab HS
        go_wp2_with (at_builtin; refine Lib.wpList_append_run _ rfl _ _ _ _ rfl _ _ rfl rfl _ _ (hrun _) ?_; clear hrun)
        go_roundw
        case rel => exact ⟨k + 1, all, aa, ac, cs ++ [cd], some ⟨g, 0, none⟩, cap, by omega, rfl, by rw [hl2], by go_num, HS2, HA3, by rw [hl2]; exact HC3, by rw [hl2]; exact HD3, HB3⟩
        case measure => simp [intOf]; omega
    · obtain rfl : k = n := by omega
      have hE : (l.foldl stepA ([], [])).2 = cs := by rw [← HE.out, ← HS.out]
      have hE2 : Hid ((l.foldl stepA ([], [])).2 = cs) := hE
      clear hE
      go_wp2
      refine bodyPost_ret (v := .tuple #[.slice ca cs.length cc, .bool true]) (by simp [results, Tryd.results14, go_sem]; try rfl) rfl ?_
      exact ⟨ca, cc, by rw [hE2.out], by rw [hE2.out]; exact HOC.out, HB.out⟩

end Go.Proofs.YtjpegbodhpnflaaDoor
