/- The specification's StreamOf. -/
import Derived.Test.YtjdfpjeeipbghaaST3
namespace Go.Proofs.Ytjdfpjeeipbghaa
set_option linter.unusedVariables false
set_option linter.unusedSimpArgs false
open Go.RowKit

/-- The length of a slice. -/
def lenOf : Value → Nat
  | .slice _ n _ => n
  | _ => 0

theorem own_emptyB (w : World) (base : Nat) (hb : base ≤ w.heap.size) (cs : Array Value) (hc : cs = #[]) : (w.alloc (.cells cs 4)).ownsRow base 4 1 (.slice (some ⟨w.heap.size, 0, none⟩) 0 0) 0 [] := by
  subst hc
  have := World.ownsRow_lit (base := base) (e := 4) (size := 1) w #[] 0 hb (by unfold maxLen; omega) (by simp)
  simpa using this

theorem OwnB.capLe {w : World} {base g r cap : Nat} {l : List Bool} (h : OwnB w base (.slice (some ⟨g, 0, none⟩) r cap) l) : r ≤ cap ∧ cap ≤ maxLen := by
  have hr := h.rd'.1
  rcases h.form with ⟨h, _⟩ | ⟨g', cap', h, _, _, h1, h2⟩
  · simp at h
  · simp only [Value.slice.injEq] at h
    obtain ⟨_, hq1, rfl⟩ := h
    exact ⟨by omega, h2⟩

theorem cells_own {w : World} {base g n cap m : Nat} {l : List Bool} (h : OwnB w base (.slice (some ⟨g, 0, none⟩) n cap) l) (hl : l.length = n) (hm : m ≤ n) : ∀ j u, (cellsB (l.take m))[j]? = some u → w.cell? ((⟨g, 0, none⟩ : Addr).add j) = some u := by
  intro j u hu
  have hj : j < (l.take m).length := by
    have := (List.getElem?_eq_some_iff.1 hu).1
    simpa [cellsB] using this
  rw [List.length_take] at hj
  rw [getD_map_bool _ j (by rw [List.length_take]; exact hj)] at hu
  have hc := OwnB.cell (g := g) (cap := cap) (xs := l) (by rw [hl]; exact h) j (by omega)
  rw [Go.WideShapes.add_plain, Nat.zero_add, hc, ← hu]
  simp [List.getD, List.getElem?_take, show j < m by omega]

set_option maxHeartbeats 4000000 in
theorem specStream_z0 (ao : Option Addr) (n c : Nat)  (d many : Nat) (xs : List Int) (fs : List Bool) (w : World) (hx : xs.length = n) (hy : fs.length = 0) (hn : n ≤ 17592186044416) (hr : Rd w ao xs) (hs : RdB w none fs) (hg : goodT 0 xs = true) (ht : topT xs = ((0 : Nat) : Int)) (hmany : many ≤ 40)
    (hall : ∀ k : Nat, 0 ≤ k → ∀ t ∈ xs, 1 ≤ t ∧ t ≤ (k : Int)) :
    Calls Try.prog 25 #[.slice ao n c, .slice none 0 d, .int .i64 many] w fun e w' => ∃ a' c', e = .returned (.tuple #[.slice a' many c', .bool true]) ∧ OwnB w' w.heap.size (.slice a' many c') (streamL xs fs many) ∧ Below w.heap.size w w' := by
  obtain ⟨i0, hi, hz0, hz1, hz2⟩ := info_parts Try.infoBool
  have HG : Hid (Calls Try.prog 23 #[.slice ao n c] w fun e w' => e = .returned (.bool true) ∧ w' = w) := by
    have h := specGoodT_c ao n c xs w hx hn hr
    rw [hg] at h
    exact h
  have HT : Hid (Calls Try.prog 57 #[.slice ao n c] w fun e w' => e = .returned (.int .i64 ((0 : Nat) : Int)) ∧ w' = w) := by
    have h := l3Top_c ao n c xs w hx hn hr
    rw [ht] at h
    exact h
  have HX : Hid (xs.length = n) := hx
  have HY : Hid (fs.length = 0) := hy
  have HR : Hid (Rd w ao xs) := hr
  have HA : Hid (∀ k : Nat, 0 ≤ k → ∀ t ∈ xs, 1 ≤ t ∧ t ≤ (k : Int)) := hall
  have hi2 : decide (0 ≤ (many : Int) ∧ (many : Int) ≤ 40) = true := decide_eq_true (by omega)
  have HF : Hid (streamL xs fs 0 = fs) := by show streamL xs fs 0 = fs; rw [streamL_first xs fs 0 (by omega)]; exact List.take_of_length_le (by omega)
  clear hx hy hr hs hg ht hall
  go_enter Try.func25, Try.ntmps25
  go_wp2_with (first | (go_at_call 23; refine HG.out.mono ?_; rintro e w' ⟨rfl, hw⟩; subst w') | (go_at_call 57; refine HT.out.mono ?_; rintro e w' ⟨rfl, hw⟩; subst w') | (go_at_call 62; refine (l1In_c _ _ _ _).mono ?_; rw [hi2]; clear hi2; rintro e w' ⟨rfl, hw⟩; subst w'))
  have HO0 : Hid (OwnB (w.alloc (.cells #[] 4)) w.heap.size (.slice (some ⟨w.heap.size, 0, none⟩) 0 0) (streamL xs fs 0)) := own_emptyB w w.heap.size (Nat.le_refl _) #[] rfl
  have HB0 : Hid (Below w.heap.size w (w.alloc (.cells #[] 4))) := balloc _ _
  go_loopw [8] (fun v wr => ∃ (k g cap : Nat), v = .slice (some ⟨g, 0, none⟩) k cap ∧ 0 ≤ k ∧ (k ≤ many ∨ k = 0) ∧ w.heap.size ≤ g ∧ k ≤ cap ∧ cap ≤ maxLen ∧ Hid (OwnB wr w.heap.size v (streamL xs fs k)) ∧ Hid (Below w.heap.size w wr)) (fun v _ => many - lenOf v)
  case atStart => exact ⟨0, w.heap.size, 0, rfl, Nat.le_refl _, Or.inr rfl, Nat.le_refl _, Nat.le_refl _, by unfold maxLen; omega, HO0, HB0⟩
  case round =>
    clear HO0 HB0
    obtain ⟨k, g, cap, rfl, hmk, hkm, hgb, hkc, hcm, hO, hB⟩ := hrel
    have hlen : (streamL xs fs k).length = k := streamL_length xs fs k
    by_cases hlt : k < many
    · have hob : ∀ k', (Value.slice (some ⟨g, 0, none⟩) k cap).ownBlock = some k' → w.heap.size ≤ k' := own_block_geB hO.out
      have HL : Hid ((streamL xs fs k).length = k) := hlen
      have hown : wr.ownsRow w.heap.size 4 1 (.slice (some ⟨g, 0, none⟩) k cap) k (cellsB (streamL xs fs k)) := by have h := hO.out; unfold OwnB at h; rw [hlen] at h; exact h
      have k1 : (k : Int) < (many : Int) := by omega
      have HQ : Hid (Calls Try.prog 55 #[.slice (some ⟨g, 0, none⟩) k cap, .slice ao n c, .int .i64 k] wr fun e w' => e = .returned (.bool (nextB xs (streamL xs fs k) k)) ∧ w' = wr) :=
        l3Next_c ao (some ⟨g, 0, none⟩) n c k cap k xs (streamL xs fs k) wr HX.out hlen hn (by omega) (Nat.le_refl _) (HR.out.later hB.out) hO.out.rd'.2 (HA.out k hmk)
      have HTk : Hid (streamL xs fs (k + 1) = streamL xs fs k ++ [nextB xs (streamL xs fs k) k]) := by show streamL xs fs (k + 1) = _; simp only [streamL]; rw [if_neg (by rw [HY.out]; omega)]
      generalize nextB xs (streamL xs fs k) k = x at HQ HTk
      generalize streamL xs fs k = out at hO HL hown HTk hlen
      clear hlen
      go_wp2_with (first | (go_at_call 55; refine HQ.out.mono ?_; rintro e w' ⟨rfl, hw⟩; subst w'; clear HQ) | (at_builtin; refine wpList_append_lies _ rfl _ _ 23 rfl w.heap.size 4 i0 (.bool false) 1 1 Try.underlying23 hi hz0 hz1 hz2 rfl (by decide) _ _ _ rfl (hown.alloc _) ⟨wr.heap.size, 0, none⟩ 1 1 [.bool x] rfl rfl (cell_new1 _ _ _) (bools_oneCell [x]) (by omega) (by unfold maxLen; omega) (by omega) (by have := hB.out.size; simp; omega) _ rfl ?_; intro g2 cap2 w2 hown' hgrow _ hlg; have HO2 : Hid (OwnB w2 w.heap.size (.slice (some ⟨g2, 0, none⟩) (k + 1) cap2) (out ++ [x])) := own_pushB (w := wr) (v := .slice (some ⟨g, 0, none⟩) k cap) (by simpa [HL.out] using hown'); have HB2 : Hid (Below w.heap.size w w2) := (hB.out.alloc hB.out.size _).grown hgrow (by have := hB.out.size; simp; omega) (fun k' e => hob k' e); have hgb2 : w.heap.size ≤ g2 := own_block_geB HO2.out g2 rfl; have hfm : k + 1 ≤ cap2 ∧ cap2 ≤ maxLen := HO2.out.capLe; clear hown' hgrow hlg))
      go_roundw
      case rel => exact ⟨k + 1, g2, cap2, rfl, by omega, by omega, hgb2, hfm.1, hfm.2, by show OwnB _ _ _ _; rw [HTk.out]; exact HO2.out, HB2⟩
      case measure => simp [lenOf]; omega
    · have k1 : ¬ (k : Int) < (many : Int) := by omega
      have k2 : (many : Int) ≤ (cap : Int) := by omega
      have HTK : Hid ((streamL xs fs k).take many = streamL xs fs many) := streamL_take xs fs k many (by omega)
      have hq := cells_own hO.out hlen (show many ≤ k by omega)
      have HN : Hid (∀ j u, (cellsB ((streamL xs fs k).take many))[j]? = some u → (wr.alloc (.cells #[] 4)).cell? ((⟨g, 0, none⟩ : Addr).add j) = some u) := fun j u h => calloc (hq j u h)
      have HCL : Hid ((cellsB ((streamL xs fs k).take many)).length = many * 1) := by show (cellsB _).length = _; rw [cellsB_length, List.length_take, hlen]; omega
      have HLT : Hid (((streamL xs fs k).take many).length = many) := by show List.length _ = _; rw [List.length_take, hlen]; omega
      have HBS : Hid (w.heap.size ≤ wr.heap.size) := hB.out.size
      have hbs : w.heap.size ≤ wr.heap.size := hB.out.size
      have hown := own_emptyB wr w.heap.size hB.out.size #[] rfl
      rw [HTK.out] at HN HCL HLT
      generalize hout : streamL xs fs many = out at HN HCL HLT
      have HOUT : Hid (streamL xs fs many = out) := hout
      clear hout
      unfold maxLen at hcm
      clear hq hlen HTK
      go_wp2_with (at_builtin; refine wpList_append_own _ rfl _ _ 23 rfl w.heap.size 4 i0 (.bool false) 1 1 Try.underlying23 hi hz0 hz1 hz2 rfl (by decide) _ _ _ rfl hown ⟨g, 0, none⟩ many cap (cellsB out) rfl HCL.out HN.out (cellsB_oneCell _) (by unfold maxLen; omega) (by omega) (by simp; omega) ?_; intro v' w2 hown' hgrow _; have HO2 : Hid (OwnB w2 w.heap.size v' out) := (by show World.ownsRow _ _ _ _ _ _ _; rw [HLT.out]; simpa using hown'); have hg2 : (wr.alloc (.cells #[] 4)).grownBy w2 (some wr.heap.size) := hgrow; have HB2 : Hid (Below w.heap.size w w2) := (hB.out.alloc hB.out.size _).grown hg2 (by simp; omega) (fun k' e => by simp at e; omega); obtain ⟨a', c', hv⟩ := HO2.out.shape; rw [HLT.out] at hv; subst hv; clear hown hown' hgrow hg2)
      refine bodyPost_ret (v := .tuple #[.slice a' many c', .bool true]) (by simp [results, Try.results25, go_sem]) rfl ⟨a', c', rfl, by rw [HOUT.out]; exact HO2.out, HB2.out⟩

set_option maxHeartbeats 4000000 in
theorem specStream_z1 (ao : Option Addr) (n c : Nat) (a0 : Addr) (d many : Nat) (xs : List Int) (fs : List Bool) (w : World) (hx : xs.length = n) (hy : fs.length = 0) (hn : n ≤ 17592186044416) (hr : Rd w ao xs) (hs : RdB w (some a0) fs) (hg : goodT 0 xs = true) (ht : topT xs = ((0 : Nat) : Int)) (hmany : many ≤ 40)
    (hall : ∀ k : Nat, 0 ≤ k → ∀ t ∈ xs, 1 ≤ t ∧ t ≤ (k : Int)) :
    Calls Try.prog 25 #[.slice ao n c, .slice (some a0) 0 d, .int .i64 many] w fun e w' => ∃ a' c', e = .returned (.tuple #[.slice a' many c', .bool true]) ∧ OwnB w' w.heap.size (.slice a' many c') (streamL xs fs many) ∧ Below w.heap.size w w' := by
  obtain ⟨i0, hi, hz0, hz1, hz2⟩ := info_parts Try.infoBool
  have HG : Hid (Calls Try.prog 23 #[.slice ao n c] w fun e w' => e = .returned (.bool true) ∧ w' = w) := by
    have h := specGoodT_c ao n c xs w hx hn hr
    rw [hg] at h
    exact h
  have HT : Hid (Calls Try.prog 57 #[.slice ao n c] w fun e w' => e = .returned (.int .i64 ((0 : Nat) : Int)) ∧ w' = w) := by
    have h := l3Top_c ao n c xs w hx hn hr
    rw [ht] at h
    exact h
  have HX : Hid (xs.length = n) := hx
  have HY : Hid (fs.length = 0) := hy
  have HR : Hid (Rd w ao xs) := hr
  have HA : Hid (∀ k : Nat, 0 ≤ k → ∀ t ∈ xs, 1 ≤ t ∧ t ≤ (k : Int)) := hall
  have hi2 : decide (0 ≤ (many : Int) ∧ (many : Int) ≤ 40) = true := decide_eq_true (by omega)
  have HF : Hid (streamL xs fs 0 = fs) := by show streamL xs fs 0 = fs; rw [streamL_first xs fs 0 (by omega)]; exact List.take_of_length_le (by omega)
  clear hx hy hr hs hg ht hall
  go_enter Try.func25, Try.ntmps25
  go_wp2_with (first | (go_at_call 23; refine HG.out.mono ?_; rintro e w' ⟨rfl, hw⟩; subst w') | (go_at_call 57; refine HT.out.mono ?_; rintro e w' ⟨rfl, hw⟩; subst w') | (go_at_call 62; refine (l1In_c _ _ _ _).mono ?_; rw [hi2]; clear hi2; rintro e w' ⟨rfl, hw⟩; subst w'))
  have HO0 : Hid (OwnB (w.alloc (.cells #[] 4)) w.heap.size (.slice (some ⟨w.heap.size, 0, none⟩) 0 0) (streamL xs fs 0)) := own_emptyB w w.heap.size (Nat.le_refl _) #[] rfl
  have HB0 : Hid (Below w.heap.size w (w.alloc (.cells #[] 4))) := balloc _ _
  go_loopw [8] (fun v wr => ∃ (k g cap : Nat), v = .slice (some ⟨g, 0, none⟩) k cap ∧ 0 ≤ k ∧ (k ≤ many ∨ k = 0) ∧ w.heap.size ≤ g ∧ k ≤ cap ∧ cap ≤ maxLen ∧ Hid (OwnB wr w.heap.size v (streamL xs fs k)) ∧ Hid (Below w.heap.size w wr)) (fun v _ => many - lenOf v)
  case atStart => exact ⟨0, w.heap.size, 0, rfl, Nat.le_refl _, Or.inr rfl, Nat.le_refl _, Nat.le_refl _, by unfold maxLen; omega, HO0, HB0⟩
  case round =>
    clear HO0 HB0
    obtain ⟨k, g, cap, rfl, hmk, hkm, hgb, hkc, hcm, hO, hB⟩ := hrel
    have hlen : (streamL xs fs k).length = k := streamL_length xs fs k
    by_cases hlt : k < many
    · have hob : ∀ k', (Value.slice (some ⟨g, 0, none⟩) k cap).ownBlock = some k' → w.heap.size ≤ k' := own_block_geB hO.out
      have HL : Hid ((streamL xs fs k).length = k) := hlen
      have hown : wr.ownsRow w.heap.size 4 1 (.slice (some ⟨g, 0, none⟩) k cap) k (cellsB (streamL xs fs k)) := by have h := hO.out; unfold OwnB at h; rw [hlen] at h; exact h
      have k1 : (k : Int) < (many : Int) := by omega
      have HQ : Hid (Calls Try.prog 55 #[.slice (some ⟨g, 0, none⟩) k cap, .slice ao n c, .int .i64 k] wr fun e w' => e = .returned (.bool (nextB xs (streamL xs fs k) k)) ∧ w' = wr) :=
        l3Next_c ao (some ⟨g, 0, none⟩) n c k cap k xs (streamL xs fs k) wr HX.out hlen hn (by omega) (Nat.le_refl _) (HR.out.later hB.out) hO.out.rd'.2 (HA.out k hmk)
      have HTk : Hid (streamL xs fs (k + 1) = streamL xs fs k ++ [nextB xs (streamL xs fs k) k]) := by show streamL xs fs (k + 1) = _; simp only [streamL]; rw [if_neg (by rw [HY.out]; omega)]
      generalize nextB xs (streamL xs fs k) k = x at HQ HTk
      generalize streamL xs fs k = out at hO HL hown HTk hlen
      clear hlen
      go_wp2_with (first | (go_at_call 55; refine HQ.out.mono ?_; rintro e w' ⟨rfl, hw⟩; subst w'; clear HQ) | (at_builtin; refine wpList_append_lies _ rfl _ _ 23 rfl w.heap.size 4 i0 (.bool false) 1 1 Try.underlying23 hi hz0 hz1 hz2 rfl (by decide) _ _ _ rfl (hown.alloc _) ⟨wr.heap.size, 0, none⟩ 1 1 [.bool x] rfl rfl (cell_new1 _ _ _) (bools_oneCell [x]) (by omega) (by unfold maxLen; omega) (by omega) (by have := hB.out.size; simp; omega) _ rfl ?_; intro g2 cap2 w2 hown' hgrow _ hlg; have HO2 : Hid (OwnB w2 w.heap.size (.slice (some ⟨g2, 0, none⟩) (k + 1) cap2) (out ++ [x])) := own_pushB (w := wr) (v := .slice (some ⟨g, 0, none⟩) k cap) (by simpa [HL.out] using hown'); have HB2 : Hid (Below w.heap.size w w2) := (hB.out.alloc hB.out.size _).grown hgrow (by have := hB.out.size; simp; omega) (fun k' e => hob k' e); have hgb2 : w.heap.size ≤ g2 := own_block_geB HO2.out g2 rfl; have hfm : k + 1 ≤ cap2 ∧ cap2 ≤ maxLen := HO2.out.capLe; clear hown' hgrow hlg))
      go_roundw
      case rel => exact ⟨k + 1, g2, cap2, rfl, by omega, by omega, hgb2, hfm.1, hfm.2, by show OwnB _ _ _ _; rw [HTk.out]; exact HO2.out, HB2⟩
      case measure => simp [lenOf]; omega
    · have k1 : ¬ (k : Int) < (many : Int) := by omega
      have k2 : (many : Int) ≤ (cap : Int) := by omega
      have HTK : Hid ((streamL xs fs k).take many = streamL xs fs many) := streamL_take xs fs k many (by omega)
      have hq := cells_own hO.out hlen (show many ≤ k by omega)
      have HN : Hid (∀ j u, (cellsB ((streamL xs fs k).take many))[j]? = some u → (wr.alloc (.cells #[] 4)).cell? ((⟨g, 0, none⟩ : Addr).add j) = some u) := fun j u h => calloc (hq j u h)
      have HCL : Hid ((cellsB ((streamL xs fs k).take many)).length = many * 1) := by show (cellsB _).length = _; rw [cellsB_length, List.length_take, hlen]; omega
      have HLT : Hid (((streamL xs fs k).take many).length = many) := by show List.length _ = _; rw [List.length_take, hlen]; omega
      have HBS : Hid (w.heap.size ≤ wr.heap.size) := hB.out.size
      have hbs : w.heap.size ≤ wr.heap.size := hB.out.size
      have hown := own_emptyB wr w.heap.size hB.out.size #[] rfl
      rw [HTK.out] at HN HCL HLT
      generalize hout : streamL xs fs many = out at HN HCL HLT
      have HOUT : Hid (streamL xs fs many = out) := hout
      clear hout
      unfold maxLen at hcm
      clear hq hlen HTK
      go_wp2_with (at_builtin; refine wpList_append_own _ rfl _ _ 23 rfl w.heap.size 4 i0 (.bool false) 1 1 Try.underlying23 hi hz0 hz1 hz2 rfl (by decide) _ _ _ rfl hown ⟨g, 0, none⟩ many cap (cellsB out) rfl HCL.out HN.out (cellsB_oneCell _) (by unfold maxLen; omega) (by omega) (by simp; omega) ?_; intro v' w2 hown' hgrow _; have HO2 : Hid (OwnB w2 w.heap.size v' out) := (by show World.ownsRow _ _ _ _ _ _ _; rw [HLT.out]; simpa using hown'); have hg2 : (wr.alloc (.cells #[] 4)).grownBy w2 (some wr.heap.size) := hgrow; have HB2 : Hid (Below w.heap.size w w2) := (hB.out.alloc hB.out.size _).grown hg2 (by simp; omega) (fun k' e => by simp at e; omega); obtain ⟨a', c', hv⟩ := HO2.out.shape; rw [HLT.out] at hv; subst hv; clear hown hown' hgrow hg2)
      refine bodyPost_ret (v := .tuple #[.slice a' many c', .bool true]) (by simp [results, Try.results25, go_sem]) rfl ⟨a', c', rfl, by rw [HOUT.out]; exact HO2.out, HB2.out⟩

set_option maxHeartbeats 4000000 in
theorem specStream_p (ao : Option Addr) (n c : Nat) (b' o' m : Nat) (d many : Nat) (xs : List Int) (fs : List Bool) (w : World) (hx : xs.length = n) (hy : fs.length = m) (hn : n ≤ 17592186044416) (hm : m ≤ 12) (hr : Rd w ao xs) (hs : RdB w (some ⟨b', o', none⟩) fs) (hg : goodT 0 xs = true) (ht : topT xs = (m : Int)) (hmany : many ≤ 40)
    (hall : ∀ k : Nat, m ≤ k → ∀ t ∈ xs, 1 ≤ t ∧ t ≤ (k : Int)) (hmp : 0 < m) (hcy : ∀ j, j < m → w.cell? ⟨b', o' + j, none⟩ = some (.bool (fs.getD j false))) :
    Calls Try.prog 25 #[.slice ao n c, .slice (some ⟨b', o', none⟩) m d, .int .i64 many] w fun e w' => ∃ a' c', e = .returned (.tuple #[.slice a' many c', .bool true]) ∧ OwnB w' w.heap.size (.slice a' many c') (streamL xs fs many) ∧ Below w.heap.size w w' := by
  obtain ⟨i0, hi, hz0, hz1, hz2⟩ := info_parts Try.infoBool
  have HG : Hid (Calls Try.prog 23 #[.slice ao n c] w fun e w' => e = .returned (.bool true) ∧ w' = w) := by
    have h := specGoodT_c ao n c xs w hx hn hr
    rw [hg] at h
    exact h
  have HT : Hid (Calls Try.prog 57 #[.slice ao n c] w fun e w' => e = .returned (.int .i64 m) ∧ w' = w) := by
    have h := l3Top_c ao n c xs w hx hn hr
    rw [ht] at h
    exact h
  have HX : Hid (xs.length = n) := hx
  have HY : Hid (fs.length = m) := hy
  have HR : Hid (Rd w ao xs) := hr
  have HA : Hid (∀ k : Nat, m ≤ k → ∀ t ∈ xs, 1 ≤ t ∧ t ≤ (k : Int)) := hall
  have hi2 : decide (0 ≤ (many : Int) ∧ (many : Int) ≤ 40) = true := decide_eq_true (by omega)
  have HF : Hid (streamL xs fs m = fs) := by show streamL xs fs m = fs; rw [streamL_first xs fs m (by omega)]; exact List.take_of_length_le (by omega)
  have HN0 : Hid (∀ j u, (cellsB fs)[j]? = some u → (w.alloc (.cells #[] 4)).cell? ((⟨b', o', none⟩ : Addr).add j) = some u) := fun j u hu => by
    have hj : j < fs.length := by
      have := (List.getElem?_eq_some_iff.1 hu).1
      simpa [cellsB] using this
    rw [getD_map_bool fs j hj] at hu
    rw [Go.WideShapes.add_plain, ← hu]
    exact calloc (hcy j (by omega))
  have HCL0 : Hid ((cellsB fs).length = m * 1) := by show (cellsB _).length = _; rw [cellsB_length]; omega
  have hown0 := own_emptyB w w.heap.size (Nat.le_refl _) #[] rfl
  clear hcy
  clear hx hy hr hs hg ht hall
  go_enter Try.func25, Try.ntmps25
  go_wp2_with (first | (go_at_call 23; refine HG.out.mono ?_; rintro e w' ⟨rfl, hw⟩; subst w') | (go_at_call 57; refine HT.out.mono ?_; rintro e w' ⟨rfl, hw⟩; subst w') | (go_at_call 62; refine (l1In_c _ _ _ _).mono ?_; rw [hi2]; clear hi2; rintro e w' ⟨rfl, hw⟩; subst w') | (at_builtin; refine wpList_append_lies _ rfl _ _ 23 rfl w.heap.size 4 i0 (.bool false) 1 1 Try.underlying23 hi hz0 hz1 hz2 rfl (by decide) _ _ _ rfl hown0 ⟨b', o', none⟩ m d (cellsB fs) rfl HCL0.out HN0.out (cellsB_oneCell _) (by omega) (by unfold maxLen; omega) (by omega) (by simp) _ rfl ?_; intro g0 cap0 w0 hown' hgrow _ hlg; have HO0 : Hid (OwnB w0 w.heap.size (.slice (some ⟨g0, 0, none⟩) m cap0) fs) := (by show World.ownsRow _ _ _ _ _ _ _; rw [HY.out]; simpa using hown'); have hg2 : (w.alloc (.cells #[] 4)).grownBy w0 (some w.heap.size) := hgrow; have HB0 : Hid (Below w.heap.size w w0) := (balloc w _).grown hg2 (by simp) (fun k' e => by simp at e; omega); have hgb0 : w.heap.size ≤ g0 := own_block_geB HO0.out g0 rfl; have hfm0 : m ≤ cap0 ∧ cap0 ≤ maxLen := HO0.out.capLe; simp only [Nat.zero_add]; clear hown' hgrow hlg hown0 hg2))
  go_loopw [8] (fun v wr => ∃ (k g cap : Nat), v = .slice (some ⟨g, 0, none⟩) k cap ∧ m ≤ k ∧ (k ≤ many ∨ k = m) ∧ w.heap.size ≤ g ∧ k ≤ cap ∧ cap ≤ maxLen ∧ Hid (OwnB wr w.heap.size v (streamL xs fs k)) ∧ Hid (Below w.heap.size w wr)) (fun v _ => many - lenOf v)
  case atStart => exact ⟨m, g0, cap0, rfl, Nat.le_refl _, Or.inr rfl, hgb0, hfm0.1, hfm0.2, by show OwnB _ _ _ _; rw [HF.out]; exact HO0.out, HB0⟩
  case round =>
    clear HO0 HB0
    obtain ⟨k, g, cap, rfl, hmk, hkm, hgb, hkc, hcm, hO, hB⟩ := hrel
    have hlen : (streamL xs fs k).length = k := streamL_length xs fs k
    by_cases hlt : k < many
    · have hob : ∀ k', (Value.slice (some ⟨g, 0, none⟩) k cap).ownBlock = some k' → w.heap.size ≤ k' := own_block_geB hO.out
      have HL : Hid ((streamL xs fs k).length = k) := hlen
      have hown : wr.ownsRow w.heap.size 4 1 (.slice (some ⟨g, 0, none⟩) k cap) k (cellsB (streamL xs fs k)) := by have h := hO.out; unfold OwnB at h; rw [hlen] at h; exact h
      have k1 : (k : Int) < (many : Int) := by omega
      have HQ : Hid (Calls Try.prog 55 #[.slice (some ⟨g, 0, none⟩) k cap, .slice ao n c, .int .i64 k] wr fun e w' => e = .returned (.bool (nextB xs (streamL xs fs k) k)) ∧ w' = wr) :=
        l3Next_c ao (some ⟨g, 0, none⟩) n c k cap k xs (streamL xs fs k) wr HX.out hlen hn (by omega) (Nat.le_refl _) (HR.out.later hB.out) hO.out.rd'.2 (HA.out k hmk)
      have HTk : Hid (streamL xs fs (k + 1) = streamL xs fs k ++ [nextB xs (streamL xs fs k) k]) := by show streamL xs fs (k + 1) = _; simp only [streamL]; rw [if_neg (by rw [HY.out]; omega)]
      generalize nextB xs (streamL xs fs k) k = x at HQ HTk
      generalize streamL xs fs k = out at hO HL hown HTk hlen
      clear hlen
      go_wp2_with (first | (go_at_call 55; refine HQ.out.mono ?_; rintro e w' ⟨rfl, hw⟩; subst w'; clear HQ) | (at_builtin; refine wpList_append_lies _ rfl _ _ 23 rfl w.heap.size 4 i0 (.bool false) 1 1 Try.underlying23 hi hz0 hz1 hz2 rfl (by decide) _ _ _ rfl (hown.alloc _) ⟨wr.heap.size, 0, none⟩ 1 1 [.bool x] rfl rfl (cell_new1 _ _ _) (bools_oneCell [x]) (by omega) (by unfold maxLen; omega) (by omega) (by have := hB.out.size; simp; omega) _ rfl ?_; intro g2 cap2 w2 hown' hgrow _ hlg; have HO2 : Hid (OwnB w2 w.heap.size (.slice (some ⟨g2, 0, none⟩) (k + 1) cap2) (out ++ [x])) := own_pushB (w := wr) (v := .slice (some ⟨g, 0, none⟩) k cap) (by simpa [HL.out] using hown'); have HB2 : Hid (Below w.heap.size w w2) := (hB.out.alloc hB.out.size _).grown hgrow (by have := hB.out.size; simp; omega) (fun k' e => hob k' e); have hgb2 : w.heap.size ≤ g2 := own_block_geB HO2.out g2 rfl; have hfm : k + 1 ≤ cap2 ∧ cap2 ≤ maxLen := HO2.out.capLe; clear hown' hgrow hlg))
      go_roundw
      case rel => exact ⟨k + 1, g2, cap2, rfl, by omega, by omega, hgb2, hfm.1, hfm.2, by show OwnB _ _ _ _; rw [HTk.out]; exact HO2.out, HB2⟩
      case measure => simp [lenOf]; omega
    · have k1 : ¬ (k : Int) < (many : Int) := by omega
      have k2 : (many : Int) ≤ (cap : Int) := by omega
      have HTK : Hid ((streamL xs fs k).take many = streamL xs fs many) := streamL_take xs fs k many (by omega)
      have hq := cells_own hO.out hlen (show many ≤ k by omega)
      have HN : Hid (∀ j u, (cellsB ((streamL xs fs k).take many))[j]? = some u → (wr.alloc (.cells #[] 4)).cell? ((⟨g, 0, none⟩ : Addr).add j) = some u) := fun j u h => calloc (hq j u h)
      have HCL : Hid ((cellsB ((streamL xs fs k).take many)).length = many * 1) := by show (cellsB _).length = _; rw [cellsB_length, List.length_take, hlen]; omega
      have HLT : Hid (((streamL xs fs k).take many).length = many) := by show List.length _ = _; rw [List.length_take, hlen]; omega
      have HBS : Hid (w.heap.size ≤ wr.heap.size) := hB.out.size
      have hbs : w.heap.size ≤ wr.heap.size := hB.out.size
      have hown := own_emptyB wr w.heap.size hB.out.size #[] rfl
      rw [HTK.out] at HN HCL HLT
      generalize hout : streamL xs fs many = out at HN HCL HLT
      have HOUT : Hid (streamL xs fs many = out) := hout
      clear hout
      unfold maxLen at hcm
      clear hq hlen HTK
      go_wp2_with (at_builtin; refine wpList_append_own _ rfl _ _ 23 rfl w.heap.size 4 i0 (.bool false) 1 1 Try.underlying23 hi hz0 hz1 hz2 rfl (by decide) _ _ _ rfl hown ⟨g, 0, none⟩ many cap (cellsB out) rfl HCL.out HN.out (cellsB_oneCell _) (by unfold maxLen; omega) (by omega) (by simp; omega) ?_; intro v' w2 hown' hgrow _; have HO2 : Hid (OwnB w2 w.heap.size v' out) := (by show World.ownsRow _ _ _ _ _ _ _; rw [HLT.out]; simpa using hown'); have hg2 : (wr.alloc (.cells #[] 4)).grownBy w2 (some wr.heap.size) := hgrow; have HB2 : Hid (Below w.heap.size w w2) := (hB.out.alloc hB.out.size _).grown hg2 (by simp; omega) (fun k' e => by simp at e; omega); obtain ⟨a', c', hv⟩ := HO2.out.shape; rw [HLT.out] at hv; subst hv; clear hown hown' hgrow hg2)
      refine bodyPost_ret (v := .tuple #[.slice a' many c', .bool true]) (by simp [results, Try.results25, go_sem]) rfl ⟨a', c', rfl, by rw [HOUT.out]; exact HO2.out, HB2.out⟩

theorem specStream_no (ao bo : Option Addr) (n c m d : Nat) (many : Int) (xs : List Int) (fs : List Bool) (w : World) (hx : xs.length = n) (hy : fs.length = m) (hn : n ≤ 17592186044416) (hm : m ≤ 17592186044416) (hr : Rd w ao xs) (h : ¬ (okS xs fs = true ∧ 0 ≤ many ∧ many ≤ 40)) :
    Calls Try.prog 25 #[.slice ao n c, .slice bo m d, .int .i64 many] w fun e w' => e = .returned (.tuple #[.slice none 0 0, .bool false]) ∧ w' = w := by
  have HG : Hid (Calls Try.prog 23 #[.slice ao n c] w fun e w' => e = .returned (.bool (goodT 0 xs)) ∧ w' = w) := specGoodT_c ao n c xs w hx hn hr
  have HT : Hid (Calls Try.prog 57 #[.slice ao n c] w fun e w' => e = .returned (.int .i64 (topT xs)) ∧ w' = w) := l3Top_c ao n c xs w hx hn hr
  have hk : goodT 0 xs = true → (m : Int) = topT xs → ¬ (0 ≤ many ∧ many ≤ 40) := fun h1 h2 h3 => h ⟨by simp [okS, h1, hy, h2], h3⟩
  generalize topT xs = t at HT hk
  cases hG : goodT 0 xs
  · rw [hG] at HG
    clear hG h hk hr hx hy
    go_enter Try.func25, Try.ntmps25
    go_wp2_with (first | (go_at_call 23; refine HG.out.mono ?_; rintro e w' ⟨rfl, hw⟩; subst w'))
    refine bodyPost_ret (v := .tuple #[.slice none 0 0, .bool false]) (by simp [results, Try.results25, go_sem]) rfl ⟨rfl, rfl⟩
  · have hk := hk hG
    rw [hG] at HG
    clear hG h hr hx hy
    by_cases h1 : (m : Int) = t
    · have hk := hk h1
      have hi2 : decide (0 ≤ many ∧ many ≤ 40) = false := decide_eq_false hk
      subst h1
      clear hk
      go_enter Try.func25, Try.ntmps25
      go_wp2_with (first | (go_at_call 23; refine HG.out.mono ?_; rintro e w' ⟨rfl, hw⟩; subst w') | (go_at_call 57; refine HT.out.mono ?_; rintro e w' ⟨rfl, hw⟩; subst w') | (go_at_call 62; refine (l1In_c _ _ _ _).mono ?_; rw [hi2]; clear hi2; rintro e w' ⟨rfl, hw⟩; subst w'))
      refine bodyPost_ret (v := .tuple #[.slice none 0 0, .bool false]) (by simp [results, Try.results25, go_sem]) rfl ⟨rfl, rfl⟩
    · have h2 : ((m : Int) != t) = true := by rw [bne_iff_ne]; exact h1
      clear hk h1
      go_enter Try.func25, Try.ntmps25
      go_wp2_with (first | (go_at_call 23; refine HG.out.mono ?_; rintro e w' ⟨rfl, hw⟩; subst w') | (go_at_call 57; refine HT.out.mono ?_; rintro e w' ⟨rfl, hw⟩; subst w'))
      refine bodyPost_ret (v := .tuple #[.slice none 0 0, .bool false]) (by simp [results, Try.results25, go_sem]) rfl ⟨rfl, rfl⟩

theorem specStream_c (ao : Option Addr) (n c : Nat) (bo : Option Addr) (m d : Nat) (many : Int) (xs : List Int) (fs : List Bool) (w : World) (hx : xs.length = n) (hy : fs.length = m) (hn : n ≤ 17592186044416) (hm : m ≤ 17592186044416) (hr : Rd w ao xs) (hs : RdB w bo fs) (zs : List Bool) (fb : Bool) (p : Nat) (hF : streamF xs fs many = (zs, fb)) (hp : zs.length = p) :
    Calls Try.prog 25 #[.slice ao n c, .slice bo m d, .int .i64 many] w fun e w' => ∃ a' c', e = .returned (.tuple #[.slice a' p c', .bool fb]) ∧ OwnB w' w.heap.size (.slice a' p c') zs ∧ Below w.heap.size w w' := by
  unfold streamF at hF
  by_cases h : okS xs fs = true ∧ 0 ≤ many ∧ many ≤ 40
  · rw [if_pos h] at hF
    simp only [Prod.mk.injEq] at hF
    obtain ⟨rfl, rfl⟩ := hF
    rw [streamL_length] at hp
    obtain ⟨hk, h1, h2⟩ := h
    obtain rfl : many = (p : Int) := by omega
    have e1 : ((p : Int)).toNat = p := by omega
    rw [e1]
    have hA := (okS_taps hk).2.2
    have h12 := (okS_taps hk).1
    rw [hy] at hA h12
    have hk' := hk
    simp only [okS, Bool.and_eq_true, decide_eq_true_eq] at hk'
    rw [hy] at hk'
    by_cases h0 : m = 0
    · subst h0
      cases bo with
      | none => exact specStream_z0 ao n c d p xs fs w hx hy hn hr hs hk'.1 hk'.2.symm (by omega) hA
      | some a0 => exact specStream_z1 ao n c a0 d p xs fs w hx hy hn hr hs hk'.1 hk'.2.symm (by omega) hA
    · obtain ⟨b', o', rfl, hcy⟩ := hs.at hy (by omega)
      exact specStream_p ao n c b' o' m d p xs fs w hx hy hn h12 hr hs hk'.1 hk'.2.symm (by omega) hA (by omega) hcy
  · rw [if_neg h] at hF
    simp only [Prod.mk.injEq] at hF
    obtain ⟨rfl, rfl⟩ := hF
    simp at hp
    subst hp
    refine (specStream_no ao bo n c m d many xs fs w hx hy hn hm hr h).mono ?_
    rintro e w' ⟨rfl, hw⟩
    subst w'
    exact ⟨none, 0, rfl, World.ownsRow_nil _ _ _ _, Below.refl _ _⟩

end Go.Proofs.Ytjdfpjeeipbghaa
