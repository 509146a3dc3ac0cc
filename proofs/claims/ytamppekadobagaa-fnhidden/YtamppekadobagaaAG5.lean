/- Chapter 5: AddParts, the contracts of both sides. -/
import Derived.Test.YtamppekadobagaaAF5
namespace Go.Proofs.Ytamppekadobagaa
set_option linter.unusedVariables false
set_option linter.unusedSimpArgs false
open Go.RowKit

theorem specAdd_no1 (ao bo : Option Addr) (n m c d : Nat) (l : List (Int × Int)) (w : World) (hx : l.length = n) (hn : n ≤ 8796093022208) (hr : RdP w ao l) (h : partsB l = false) :
    Calls Try.prog 25 #[.slice ao n c, .slice bo m d] w fun e w' => e = .returned (.tuple #[.slice none 0 0, .bool false]) ∧ Below w.heap.size w w' := by
  have q1 := l5Parts_c ao n c l w hx hn hr
  rw [h] at q1
  go_enter Try.func25, Try.ntmps25
  go_wp2_with fail
  refine q1.mono ?_
  clear q1
  rintro e w1 ⟨rfl, hb1⟩
  have HB1 : Hid (Below w.heap.size w w1) := hb1
  clear hb1
  go_wp2
  refine bodyPost_ret (v := .tuple #[.slice none 0 0, .bool false]) (by simp [results, Try.results25, go_sem]; try rfl) rfl ?_
  exact ⟨rfl, HB1.out⟩

theorem specAdd_no2 (ao bo : Option Addr) (n m c d : Nat) (l l2 : List (Int × Int)) (w : World) (hx : l.length = n) (hy : l2.length = m) (hn : n ≤ 8796093022208) (hm : m ≤ 8796093022208) (hr : RdP w ao l) (hs : RdP w bo l2) (h : partsB l = true) (h2 : partsB l2 = false) :
    Calls Try.prog 25 #[.slice ao n c, .slice bo m d] w fun e w' => e = .returned (.tuple #[.slice none 0 0, .bool false]) ∧ Below w.heap.size w w' := by
  have q1 := l5Parts_c ao n c l w hx hn hr
  rw [h] at q1
  have q2 : ∀ wx, Below w.heap.size w wx → _ := fun wx (hb : Below w.heap.size w wx) => l5Parts_c bo m d l2 wx hy hm (hs.later hb)
  rw [h2] at q2
  clear h h2 hr hs hx hy
  go_enter Try.func25, Try.ntmps25
  go_wp2_with fail
  refine q1.mono ?_
  clear q1
  rintro e w1 ⟨rfl, hb1⟩
  have HB1 : Hid (Below w.heap.size w w1) := hb1
  clear hb1
  go_wp2_with fail
  refine (q2 _ HB1.out).mono ?_
  clear q2
  rintro e w2 ⟨rfl, hb2⟩
  have HB2 : Hid (Below w.heap.size w w2) := HB1.out.trans (hb2.mono HB1.out.size)
  clear hb2
  go_wp2
  refine bodyPost_ret (v := .tuple #[.slice none 0 0, .bool false]) (by simp [results, Try.results25, go_sem]; try rfl) rfl ?_
  exact ⟨rfl, HB2.out⟩

theorem specAdd_no3 (ao bo : Option Addr) (n m c d : Nat) (l l2 : List (Int × Int)) (w : World) (hx : l.length = n) (hy : l2.length = m) (hn : n ≤ 8796093022208) (hm : m ≤ 8796093022208) (hr : RdP w ao l) (hs : RdP w bo l2) (h : partsB l = true) (h2 : partsB l2 = true) (hnm : n ≠ m) :
    Calls Try.prog 25 #[.slice ao n c, .slice bo m d] w fun e w' => e = .returned (.tuple #[.slice none 0 0, .bool false]) ∧ Below w.heap.size w w' := by
  have q1 := l5Parts_c ao n c l w hx hn hr
  rw [h] at q1
  have q2 : ∀ wx, Below w.heap.size w wx → _ := fun wx (hb : Below w.heap.size w wx) => l5Parts_c bo m d l2 wx hy hm (hs.later hb)
  rw [h2] at q2
  have hne : ((n : Int) != (m : Int)) = true := by rw [bne_iff_ne]; omega
  clear h h2 hr hs hx hy
  go_enter Try.func25, Try.ntmps25
  go_wp2_with fail
  refine q1.mono ?_
  clear q1
  rintro e w1 ⟨rfl, hb1⟩
  have HB1 : Hid (Below w.heap.size w w1) := hb1
  clear hb1
  go_wp2_with fail
  refine (q2 _ HB1.out).mono ?_
  clear q2
  rintro e w2 ⟨rfl, hb2⟩
  have HB2 : Hid (Below w.heap.size w w2) := HB1.out.trans (hb2.mono HB1.out.size)
  clear hb2
  go_wp2
  refine bodyPost_ret (v := .tuple #[.slice none 0 0, .bool false]) (by simp [results, Try.results25, go_sem]; try rfl) rfl ?_
  exact ⟨rfl, HB2.out⟩

theorem implAdd_no1 (ao bo : Option Addr) (n m c d : Nat) (l : List (Int × Int)) (w : World) (hx : l.length = n) (hn : n ≤ 8796093022208) (hr : RdP w ao l) (h : partsB l = false) :
    Calls Try.prog 24 #[.slice ao n c, .slice bo m d] w fun e w' => e = .returned (.tuple #[.slice none 0 0, .bool false]) ∧ Below w.heap.size w w' := by
  have q1 := areParts_c ao n c l w hx hn hr
  rw [h] at q1
  go_enter Try.func24, Try.ntmps24
  go_wp2_with fail
  refine q1.mono ?_
  clear q1
  rintro e w1 ⟨rfl, hb1⟩
  have HB1 : Hid (Below w.heap.size w w1) := hb1
  clear hb1
  go_wp2
  refine bodyPost_ret (v := .tuple #[.slice none 0 0, .bool false]) (by simp [results, Try.results24, go_sem]; try rfl) rfl ?_
  exact ⟨rfl, HB1.out⟩

theorem implAdd_no2 (ao bo : Option Addr) (n m c d : Nat) (l l2 : List (Int × Int)) (w : World) (hx : l.length = n) (hy : l2.length = m) (hn : n ≤ 8796093022208) (hm : m ≤ 8796093022208) (hr : RdP w ao l) (hs : RdP w bo l2) (h : partsB l = true) (h2 : partsB l2 = false) :
    Calls Try.prog 24 #[.slice ao n c, .slice bo m d] w fun e w' => e = .returned (.tuple #[.slice none 0 0, .bool false]) ∧ Below w.heap.size w w' := by
  have q1 := areParts_c ao n c l w hx hn hr
  rw [h] at q1
  have q2 : ∀ wx, Below w.heap.size w wx → _ := fun wx (hb : Below w.heap.size w wx) => areParts_c bo m d l2 wx hy hm (hs.later hb)
  rw [h2] at q2
  clear h h2 hr hs hx hy
  go_enter Try.func24, Try.ntmps24
  go_wp2_with fail
  refine q1.mono ?_
  clear q1
  rintro e w1 ⟨rfl, hb1⟩
  have HB1 : Hid (Below w.heap.size w w1) := hb1
  clear hb1
  go_wp2_with fail
  refine (q2 _ HB1.out).mono ?_
  clear q2
  rintro e w2 ⟨rfl, hb2⟩
  have HB2 : Hid (Below w.heap.size w w2) := HB1.out.trans (hb2.mono HB1.out.size)
  clear hb2
  go_wp2
  refine bodyPost_ret (v := .tuple #[.slice none 0 0, .bool false]) (by simp [results, Try.results24, go_sem]; try rfl) rfl ?_
  exact ⟨rfl, HB2.out⟩

set_option maxHeartbeats 1000000 in
theorem implAdd_no3 (ao bo : Option Addr) (n m c d : Nat) (l l2 : List (Int × Int)) (w : World) (hx : l.length = n) (hy : l2.length = m) (hn0 : n ≠ 0) (hn : n ≤ 8796093022208) (hm : m ≤ 8796093022208) (hr : RdP w ao l) (hs : RdP w bo l2) (h : partsB l = true) (h2 : partsB l2 = true) (he : fsts l ≠ fsts l2) :
    Calls Try.prog 24 #[.slice ao n c, .slice bo m d] w fun e w' => e = .returned (.tuple #[.slice none 0 0, .bool false]) ∧ Below w.heap.size w w' := by
  have q1 := areParts_c ao n c l w hx hn hr
  rw [h] at q1
  have q2 : ∀ wx, Below w.heap.size w wx → _ := fun wx (hb : Below w.heap.size w wx) => areParts_c bo m d l2 wx hy hm (hs.later hb)
  rw [h2] at q2
  have HR : Hid (RdP w ao l) := hr
  have HS : Hid (RdP w bo l2) := hs
  have HX : Hid (l.length = n) := hx
  have HY : Hid (l2.length = m) := hy
  have HE : Hid (fsts l ≠ fsts l2) := he
  clear h h2 hr hs hx hy he
  go_enter Try.func24, Try.ntmps24
  go_wp2_with fail
  refine q1.mono ?_
  clear q1
  rintro e w1 ⟨rfl, hb1⟩
  have HB1 : Hid (Below w.heap.size w w1) := hb1
  clear hb1
  go_wp2_with fail
  refine (q2 _ HB1.out).mono ?_
  clear q2
  rintro e w2 ⟨rfl, hb2⟩
  have HB2 : Hid (Below w.heap.size w w2) := HB1.out.trans (hb2.mono HB1.out.size)
  clear hb2
  go_wp2_with fail
  refine (placesIn_c ao n c l w2 HX.out (by omega) (HR.out.later HB2.out)).mono ?_
  rintro e w3 ⟨a3, c3, rfl, ho3, hb3⟩
  have HB3 : Hid (Below w.heap.size w w3) := HB2.out.trans (hb3.mono HB2.out.size)
  have O3 : Hid (Own w3 w2.heap.size (.slice a3 n c3) (fsts l)) := ho3
  clear hb3 ho3
  go_wp2_with fail
  refine (placesIn_c bo m d l2 w3 HY.out (by omega) (HS.out.later HB3.out)).mono ?_
  rintro e w4 ⟨a4, c4, rfl, ho4, hb4⟩
  have HB4 : Hid (Below w.heap.size w w4) := HB3.out.trans (hb4.mono HB3.out.size)
  have O4 : Hid (Own w4 w3.heap.size (.slice a4 m c4) (fsts l2)) := ho4
  have O34 : Hid (Own w4 w2.heap.size (.slice a3 n c3) (fsts l)) := O3.out.later hb4
  clear hb4 ho4 O3
  have hq := equalInt_c a3 a4 n m c3 c4 (fsts l) (fsts l2) w4 O34.out.rd'.1 O4.out.rd'.1 hn0 (by omega) (by omega) O34.out.rd'.2 O4.out.rd'.2
  rw [decide_eq_false HE.out] at hq
  go_wp2_with fail
  refine hq.mono ?_
  clear hq
  rintro e w5 ⟨rfl, hb5⟩
  have HB5 : Hid (Below w.heap.size w w5) := HB4.out.trans (hb5.mono HB4.out.size)
  clear hb5
  go_wp2
  refine bodyPost_ret (v := .tuple #[.slice none 0 0, .bool false]) (by simp [results, Try.results24, go_sem]; try rfl) rfl ?_
  exact ⟨rfl, HB5.out⟩

theorem no_parts {w w' : World} {e : Ending} {p : Nat} {zs : List (Int × Int)} (hz : zs = []) (hp : zs.length = p) (h : e = .returned (.tuple #[.slice none 0 0, .bool false]) ∧ Below w.heap.size w w') : ∃ a' c', e = .returned (.tuple #[.slice a' p c', .bool false]) ∧ OwnP w' w.heap.size (.slice a' p c') zs ∧ Below w.heap.size w w' := by
  subst hz
  simp at hp
  subst hp
  exact ⟨none, 0, h.1, World.ownsRow_nil _ _ _ _, h.2⟩

theorem specAdd_c (ao : Option Addr) (n c : Nat) (bo : Option Addr) (m d : Nat) (l l2 : List (Int × Int)) (w : World) (hx : l.length = n) (hy : l2.length = m) (hn : n ≤ 8796093022208) (hm : m ≤ 8796093022208) (hr : RdP w ao l) (hs : RdP w bo l2) (zs : List (Int × Int)) (fb : Bool) (p : Nat) (hF : addPF l l2 = (zs, fb)) (hp : zs.length = p) :
    Calls Try.prog 25 #[.slice ao n c, .slice bo m d] w fun e w' => ∃ a' c', e = .returned (.tuple #[.slice a' p c', .bool fb]) ∧ OwnP w' w.heap.size (.slice a' p c') zs ∧ Below w.heap.size w w' := by
  unfold addPF at hF
  by_cases h : (partsB l = true ∧ partsB l2 = true) ∧ fsts l = fsts l2
  · rw [if_pos h] at hF
    simp only [Prod.mk.injEq] at hF
    obtain ⟨rfl, rfl⟩ := hF
    obtain ⟨⟨h1, h2⟩, he⟩ := h
    obtain ⟨fl, rfl, hg⟩ := partsB_parts h1
    obtain ⟨gl, rfl, hg2⟩ := partsB_parts h2
    rw [fsts_pIs, fsts_pIs] at he
    have he' := vIs_inj he
    have hl : fl.length = gl.length := by have := congrArg List.length he'; simpa using this
    rw [zip_pIs] at hp ⊢
    rw [pIs_length, addP_length hl] at hp
    rw [pIs_length] at hx hy
    obtain rfl : n = m := by omega
    obtain rfl : n = p := by omega
    have h0 : n ≠ 0 := by have := hg.2.2.1; omega
    obtain ⟨b, o, rfl, _⟩ := hr.at (n := n) (by rw [pIs_length]; exact hx) h0
    obtain ⟨b', o', rfl, _⟩ := hs.at (n := n) (by rw [pIs_length]; exact hy) h0
    exact specAdd_yes b o b' o' n c d fl gl w hx hy hg hg2 he' hr hs
  · rw [if_neg h] at hF
    simp only [Prod.mk.injEq] at hF
    obtain ⟨hz, rfl⟩ := hF
    have key : Calls Try.prog 25 #[.slice ao n c, .slice bo m d] w fun e w' => e = .returned (.tuple #[.slice none 0 0, .bool false]) ∧ Below w.heap.size w w' := by
      by_cases h1 : partsB l = true
      · by_cases h2 : partsB l2 = true
        · by_cases hnm : n = m
          · subst hnm
            have he : fsts l ≠ fsts l2 := fun e => h ⟨⟨h1, h2⟩, e⟩
            obtain ⟨fl, rfl, hg⟩ := partsB_parts h1
            obtain ⟨gl, rfl, hg2⟩ := partsB_parts h2
            rw [fsts_pIs, fsts_pIs] at he
            rw [pIs_length] at hx hy
            have h0 : n ≠ 0 := by have := hg.2.2.1; omega
            obtain ⟨b, o, rfl, _⟩ := hr.at (n := n) (by rw [pIs_length]; exact hx) h0
            obtain ⟨b', o', rfl, _⟩ := hs.at (n := n) (by rw [pIs_length]; exact hy) h0
            exact specAdd_part b o b' o' n c d fl gl w hx hy hg hg2 (fun e => he (by rw [e])) hr hs
          · exact specAdd_no3 ao bo n m c d l l2 w hx hy hn hm hr hs h1 h2 hnm
        · exact specAdd_no2 ao bo n m c d l l2 w hx hy hn hm hr hs h1 (by simpa using h2)
      · exact specAdd_no1 ao bo n m c d l w hx hn hr (by simpa using h1)
    exact key.mono fun e w' h => no_parts hz.symm hp h

theorem implAdd_c (ao : Option Addr) (n c : Nat) (bo : Option Addr) (m d : Nat) (l l2 : List (Int × Int)) (w : World) (hx : l.length = n) (hy : l2.length = m) (hn : n ≤ 8796093022208) (hm : m ≤ 8796093022208) (hr : RdP w ao l) (hs : RdP w bo l2) (zs : List (Int × Int)) (fb : Bool) (p : Nat) (hF : addPF l l2 = (zs, fb)) (hp : zs.length = p) :
    Calls Try.prog 24 #[.slice ao n c, .slice bo m d] w fun e w' => ∃ a' c', e = .returned (.tuple #[.slice a' p c', .bool fb]) ∧ OwnP w' w.heap.size (.slice a' p c') zs ∧ Below w.heap.size w w' := by
  unfold addPF at hF
  by_cases h : (partsB l = true ∧ partsB l2 = true) ∧ fsts l = fsts l2
  · rw [if_pos h] at hF
    simp only [Prod.mk.injEq] at hF
    obtain ⟨rfl, rfl⟩ := hF
    obtain ⟨⟨h1, h2⟩, he⟩ := h
    obtain ⟨fl, rfl, hg⟩ := partsB_parts h1
    obtain ⟨gl, rfl, hg2⟩ := partsB_parts h2
    rw [fsts_pIs, fsts_pIs] at he
    have he' := vIs_inj he
    have hl : fl.length = gl.length := by have := congrArg List.length he'; simpa using this
    rw [zip_pIs] at hp ⊢
    rw [pIs_length, addP_length hl] at hp
    rw [pIs_length] at hx hy
    obtain rfl : n = m := by omega
    obtain rfl : n = p := by omega
    have h0 : n ≠ 0 := by have := hg.2.2.1; omega
    obtain ⟨b, o, rfl, _⟩ := hr.at (n := n) (by rw [pIs_length]; exact hx) h0
    obtain ⟨b', o', rfl, _⟩ := hs.at (n := n) (by rw [pIs_length]; exact hy) h0
    exact implAdd_yes b o b' o' n c d fl gl w hx hy hg hg2 he' hr hs
  · rw [if_neg h] at hF
    simp only [Prod.mk.injEq] at hF
    obtain ⟨hz, rfl⟩ := hF
    have key : Calls Try.prog 24 #[.slice ao n c, .slice bo m d] w fun e w' => e = .returned (.tuple #[.slice none 0 0, .bool false]) ∧ Below w.heap.size w w' := by
      by_cases h1 : partsB l = true
      · by_cases h2 : partsB l2 = true
        · have he : fsts l ≠ fsts l2 := fun e => h ⟨⟨h1, h2⟩, e⟩
          have h0 : n ≠ 0 := by
            obtain ⟨fl, rfl, hg⟩ := partsB_parts h1
            have := hg.2.2.1
            rw [pIs_length] at hx
            omega
          exact implAdd_no3 ao bo n m c d l l2 w hx hy h0 hn hm hr hs h1 h2 he
        · exact implAdd_no2 ao bo n m c d l l2 w hx hy hn hm hr hs h1 (by simpa using h2)
      · exact implAdd_no1 ao bo n m c d l w hx hn hr (by simpa using h1)
    exact key.mono fun e w' h => no_parts hz.symm hp h

end Go.Proofs.Ytamppekadobagaa
