/- StreamOf: the contracts, the program's and the specification's. -/
import Derived.Test.YtjdfpjeeipbghaaA3
import Derived.Deep.AppendLies
namespace Go.Proofs.Ytjdfpjeeipbghaa
set_option linter.unusedVariables false
set_option linter.unusedSimpArgs false
open Go.RowKit

/-- The first k bits of the stream of taps xs and first bits fs. -/
def streamL (xs : List Int) (fs : List Bool) : Nat → List Bool
  | 0 => []
  | k + 1 => streamL xs fs k ++ [if k < fs.length then fs.getD k false else nextB xs (streamL xs fs k) k]

theorem streamL_length (xs : List Int) (fs : List Bool) : ∀ k, (streamL xs fs k).length = k
  | 0 => rfl
  | k + 1 => by simp [streamL, streamL_length xs fs k]

theorem streamL_take (xs : List Int) (fs : List Bool) : ∀ k j, j ≤ k → (streamL xs fs k).take j = streamL xs fs j
  | 0, j, h => by obtain rfl : j = 0 := by omega
                  rfl
  | k + 1, j, h => by
    by_cases e : j = k + 1
    · subst e; exact List.take_of_length_le (by rw [streamL_length]; exact Nat.le_refl _)
    · simp only [streamL]
      rw [List.take_append_of_le_length (by rw [streamL_length]; omega)]
      exact streamL_take xs fs k j (by omega)

theorem streamL_first (xs : List Int) (fs : List Bool) : ∀ k, k ≤ fs.length → streamL xs fs k = fs.take k
  | 0, _ => by simp [streamL]
  | k + 1, h => by
    simp only [streamL]
    rw [streamL_first xs fs k (by omega), if_pos (by omega), List.take_succ_eq_append_getElem (by omega)]
    simp [List.getD, show k < fs.length by omega]

def okS (xs : List Int) (fs : List Bool) : Bool := goodT 0 xs && decide ((fs.length : Int) = topT xs)
def streamF (xs : List Int) (fs : List Bool) (many : Int) : List Bool × Bool := if okS xs fs = true ∧ 0 ≤ many ∧ many ≤ 40 then (streamL xs fs many.toNat, true) else ([], false)

theorem streamF_short {xs : List Int} {fs zs : List Bool} {many : Int} {fb : Bool} (h : streamF xs fs many = (zs, fb)) : zs.length ≤ 40 := by
  unfold streamF at h
  split at h
  · rename_i hc
    simp only [Prod.mk.injEq] at h
    rw [← h.1, streamL_length]; omega
  · simp only [Prod.mk.injEq] at h
    rw [← h.1]; simp

theorem okS_taps {xs : List Int} {fs : List Bool} (h : okS xs fs = true) : (fs.length ≤ 12) ∧ (xs.length ≤ 12 ∨ True) ∧ ∀ k : Nat, fs.length ≤ k → ∀ t ∈ xs, 1 ≤ t ∧ t ≤ (k : Int) := by
  simp only [okS, Bool.and_eq_true, decide_eq_true_eq] at h
  have h0 := topT_range h.1
  refine ⟨by omega, Or.inr trivial, fun k hk t ht => ?_⟩
  have h1 := goodT_all xs 0 h.1 t ht
  have h2 := goodT_top xs 0 h.1 t ht
  omega

set_option maxHeartbeats 2000000 in
theorem streamFrom_c (ao bo : Option Addr) (n c m d many : Nat) (xs : List Int) (fs : List Bool) (w : World) (hx : xs.length = n) (hy : fs.length = m) (hn : n ≤ 17592186044416) (hm : m ≤ 17592186044416) (hr : Rd w ao xs) (hs : RdB w bo fs) (hmany : many ≤ 6000)
    (hall : ∀ k : Nat, m ≤ k → ∀ t ∈ xs, 1 ≤ t ∧ t ≤ (k : Int)) :
    Calls Try.prog 65 #[.slice ao n c, .slice bo m d, .int .i64 many] w fun e w' => ∃ a' c', e = .returned (.slice a' many c') ∧ OwnB w' w.heap.size (.slice a' many c') (streamL xs fs many) ∧ Below w.heap.size w w' := by
  obtain ⟨i0, hi, hz0, hz1, hz2⟩ := info_parts Try.infoBool
  have HX : Hid (xs.length = n) := hx
  have HY : Hid (fs.length = m) := hy
  have HR : Hid (Rd w ao xs) := hr
  have HS : Hid (RdB w bo fs) := hs
  have HA : Hid (∀ k : Nat, m ≤ k → ∀ t ∈ xs, 1 ≤ t ∧ t ≤ (k : Int)) := hall
  clear hx hy hr hs hall
  go_enter Try.func65, Try.ntmps65
  go_wp2
  go_loopw [7, 10] (fun v i wr => ∃ k : Nat, k ≤ many ∧ i = .int .i64 k ∧ Hid (OwnB wr w.heap.size v (streamL xs fs k)) ∧ Hid (Below w.heap.size w wr)) (fun _ i _ => many - (intOf i).toNat)
  case atStart => exact ⟨0, Nat.zero_le _, rfl, World.ownsRow_nil _ _ _ _, Below.refl _ _⟩
  case round =>
    obtain ⟨k, hk, rfl, hO, hB⟩ := hrel
    obtain ⟨a1, c1, hv⟩ := hO.out.shape
    rw [streamL_length] at hv
    subst hv
    by_cases hlt : k < many
    · have hob : ∀ k', (Value.slice a1 k c1).ownBlock = some k' → w.heap.size ≤ k' := own_block_geB hO.out
      have hlen : (streamL xs fs k).length = k := streamL_length xs fs k
      have HL : Hid ((streamL xs fs k).length = k) := hlen
      have hown : wr.ownsRow w.heap.size 4 1 (.slice a1 k c1) k (cellsB (streamL xs fs k)) := by have h := hO.out; unfold OwnB at h; rw [hlen] at h; exact h
      have hRd : RdB wr a1 (streamL xs fs k) := hO.out.rd'.2
      have HRd : Hid (RdB wr a1 (streamL xs fs k)) := hRd
      clear hRd hlen
      have k0 : (0 : Int) ≤ (k : Int) := by omega
      by_cases hkm : k < m
      · obtain ⟨b', o', hbo, hcy⟩ := HS.out.at HY.out (by omega)
        have hby := World.block_lt_of_cell? w _ (hcy k hkm)
        have g1 : wr.cell? ⟨b', o' + k, none⟩ = some (.bool (fs.getD k false)) := by rw [hB.out.cell (p := ⟨b', o' + k, none⟩) hby]; exact hcy k hkm
        subst hbo
        have k1 : (k : Int) < (m : Int) := by omega
        have HT : Hid (streamL xs fs (k + 1) = streamL xs fs k ++ [fs.getD k false]) := by show streamL xs fs (k + 1) = _; simp only [streamL]; rw [if_pos (by rw [HY.out]; exact hkm)]
        generalize streamL xs fs k = out at *
        generalize fs.getD k false = x at *
        clear hcy hby
        go_wp2_with (at_builtin; refine wpList_append_own _ rfl _ _ 23 rfl w.heap.size 4 i0 (.bool false) 1 1 Try.underlying23 hi hz0 hz1 hz2 rfl (by decide) _ _ _ rfl (hown.alloc _) ⟨wr.heap.size, 0, none⟩ 1 1 [.bool (x)] rfl rfl (cell_new1 _ _ _) (bools_oneCell [x]) (by unfold maxLen; omega) (by omega) (by have := hB.out.size; simp; omega) ?_; intro v' w2 hown' hgrow _; have HO' : Hid (OwnB w2 w.heap.size v' (out ++ [x])) := own_pushB (w := wr) (v := (.slice a1 k c1)) (by simpa [HL.out] using hown'); have HB' : Hid (Below w.heap.size w w2) := (hB.out.alloc hB.out.size _).grown hgrow (by have := hB.out.size; simp; omega) (fun k' e => hob k' e); clear hown' hgrow)
        go_roundw
        case rel => exact ⟨k + 1, by omega, by go_num, by show OwnB _ _ _ _; rw [HT.out]; exact HO'.out, HB'⟩
        case measure => simp [intOf]; omega
      · have k1 : ¬ (k : Int) < (m : Int) := by omega
        have HQ : Hid (Calls Try.prog 59 #[.slice ao n c, .slice a1 k c1, .int .i64 k] wr fun e w' => e = .returned (.bool (nextB xs (streamL xs fs k) k)) ∧ w' = wr) :=
          unlikeAhead_c ao a1 n c k c1 k xs (streamL xs fs k) wr HX.out (streamL_length _ _ _) hn (by omega) (Nat.le_refl _) (HR.out.later hB.out) HRd.out (HA.out k (by omega))
        have HT : Hid (streamL xs fs (k + 1) = streamL xs fs k ++ [nextB xs (streamL xs fs k) k]) := by show streamL xs fs (k + 1) = _; simp only [streamL]; rw [if_neg (by rw [HY.out]; exact hkm)]
        generalize nextB xs (streamL xs fs k) k = x at HQ HT
        generalize streamL xs fs k = out at *
        go_wp2_with (first | (go_at_call 59; refine HQ.out.mono ?_; rintro e w' ⟨rfl, hw⟩; subst w'; clear HQ) | (at_builtin; refine wpList_append_own _ rfl _ _ 23 rfl w.heap.size 4 i0 (.bool false) 1 1 Try.underlying23 hi hz0 hz1 hz2 rfl (by decide) _ _ _ rfl (hown.alloc _) ⟨wr.heap.size, 0, none⟩ 1 1 [.bool (x)] rfl rfl (cell_new1 _ _ _) (bools_oneCell [x]) (by unfold maxLen; omega) (by omega) (by have := hB.out.size; simp; omega) ?_; intro v' w2 hown' hgrow _; have HO' : Hid (OwnB w2 w.heap.size v' (out ++ [x])) := own_pushB (w := wr) (v := (.slice a1 k c1)) (by simpa [HL.out] using hown'); have HB' : Hid (Below w.heap.size w w2) := (hB.out.alloc hB.out.size _).grown hgrow (by have := hB.out.size; simp; omega) (fun k' e => hob k' e); clear hown' hgrow))
        go_roundw
        case rel => exact ⟨k + 1, by omega, by go_num, by show OwnB _ _ _ _; rw [HT.out]; exact HO'.out, HB'⟩
        case measure => simp [intOf]; omega
    · obtain rfl : k = many := by omega
      go_wp2
      go_ret
      exact ⟨a1, c1, rfl, hO.out, hB.out⟩

theorem isStart_c (ao bo : Option Addr) (n c m d : Nat) (xs : List Int) (fs : List Bool) (w : World) (hx : xs.length = n) (hy : fs.length = m) (hn : n ≤ 17592186044416) (hm : m ≤ 17592186044416) (hr : Rd w ao xs) :
    Calls Try.prog 64 #[.slice ao n c, .slice bo m d] w fun e w' => e = .returned (.bool (okS xs fs)) ∧ w' = w := by
  have HG : Hid (Calls Try.prog 22 #[.slice ao n c] w fun e w' => e = .returned (.bool (goodT 0 xs)) ∧ w' = w) := implGoodT_c ao n c xs w hx hn hr
  have HT : Hid (Calls Try.prog 58 #[.slice ao n c] w fun e w' => e = .returned (.int .i64 (topT xs)) ∧ w' = w) := greatestTap_c ao n c xs w hx hn hr
  have he : okS xs fs = (goodT 0 xs && ((m : Int) == topT xs)) := by
    unfold okS
    rw [hy]
    by_cases h : (m : Int) = topT xs
    · simp [h]
    · simp [h]
  rw [he]
  generalize topT xs = t at HT
  generalize goodT 0 xs = G at HG
  clear he hx hy hr
  cases G
  · go_enter Try.func64, Try.ntmps64
    go_wp2_with (first | (go_at_call 22; refine HG.out.mono ?_; rintro e w' ⟨rfl, hw⟩; subst w') | (go_at_call 58; refine HT.out.mono ?_; rintro e w' ⟨rfl, hw⟩; subst w'))
    go_ret
    exact ⟨rfl, rfl⟩
  · go_enter Try.func64, Try.ntmps64
    go_wp2_with (first | (go_at_call 22; refine HG.out.mono ?_; rintro e w' ⟨rfl, hw⟩; subst w') | (go_at_call 58; refine HT.out.mono ?_; rintro e w' ⟨rfl, hw⟩; subst w'))
    go_ret
    exact ⟨ret_bool (by simp), rfl⟩

set_option maxHeartbeats 1000000 in
theorem implStream_c (ao : Option Addr) (n c : Nat) (bo : Option Addr) (m d : Nat) (many : Int) (xs : List Int) (fs : List Bool) (w : World) (hx : xs.length = n) (hy : fs.length = m) (hn : n ≤ 17592186044416) (hm : m ≤ 17592186044416) (hr : Rd w ao xs) (hs : RdB w bo fs) (zs : List Bool) (fb : Bool) (p : Nat) (hF : streamF xs fs many = (zs, fb)) (hp : zs.length = p) :
    Calls Try.prog 24 #[.slice ao n c, .slice bo m d, .int .i64 many] w fun e w' => ∃ a' c', e = .returned (.tuple #[.slice a' p c', .bool fb]) ∧ OwnB w' w.heap.size (.slice a' p c') zs ∧ Below w.heap.size w w' := by
  have HK : Hid (Calls Try.prog 64 #[.slice ao n c, .slice bo m d] w fun e w' => e = .returned (.bool (okS xs fs)) ∧ w' = w) := isStart_c ao bo n c m d xs fs w hx hy hn hm hr
  unfold streamF at hF
  cases hk : okS xs fs
  · rw [hk] at HK hF
    simp at hF
    obtain ⟨rfl, rfl⟩ := hF
    simp at hp
    subst hp
    clear hk hr hs hx hy
    go_enter Try.func24, Try.ntmps24
    go_wp2_with (go_at_call 64; refine HK.out.mono ?_; rintro e w' ⟨rfl, hw⟩; subst w')
    refine bodyPost_ret (v := .tuple #[.slice none 0 0, .bool false]) (by simp [results, Try.results24, go_sem]) rfl ⟨none, 0, rfl, World.ownsRow_nil _ _ _ _, Below.refl _ _⟩
  · by_cases h1 : 0 ≤ many
    · by_cases h2 : many ≤ 40
      · rw [if_pos ⟨hk, h1, h2⟩] at hF
        simp only [Prod.mk.injEq] at hF
        obtain ⟨rfl, rfl⟩ := hF
        rw [streamL_length] at hp
        obtain rfl : many = (p : Int) := by omega
        have e1 : ((p : Int)).toNat = p := by omega
        rw [e1]
        have HC : Hid (Calls Try.prog 65 #[.slice ao n c, .slice bo m d, .int .i64 p] w fun e w' => ∃ a' c', e = .returned (.slice a' p c') ∧ OwnB w' w.heap.size (.slice a' p c') (streamL xs fs p) ∧ Below w.heap.size w w') :=
          streamFrom_c ao bo n c m d p xs fs w hx hy hn hm hr hs (by omega) (by have h := (okS_taps hk).2.2; rw [hy] at h; exact h)
        generalize streamL xs fs p = out at HC
        rw [hk] at HK
        clear hk hr hs hx hy hp e1
        go_enter Try.func24, Try.ntmps24
        go_wp2_with (first | (go_at_call 64; refine HK.out.mono ?_; rintro e w' ⟨rfl, hw⟩; subst w') | (go_at_call 65; refine HC.out.mono ?_; rintro e w1 ⟨a1, c1, rfl, ho, hb⟩; clear HC HK))
        refine bodyPost_ret (v := .tuple #[.slice a1 p c1, .bool true]) (by simp [results, Try.results24, go_sem]) rfl ⟨a1, c1, rfl, ho, hb⟩
      · rw [if_neg (by omega)] at hF
        simp only [Prod.mk.injEq] at hF
        obtain ⟨rfl, rfl⟩ := hF
        simp at hp
        subst hp
        have h3 : 40 < many := by omega
        rw [hk] at HK
        clear hk hr hs hx hy
        go_enter Try.func24, Try.ntmps24
        go_wp2_with (go_at_call 64; refine HK.out.mono ?_; rintro e w' ⟨rfl, hw⟩; subst w')
        refine bodyPost_ret (v := .tuple #[.slice none 0 0, .bool false]) (by simp [results, Try.results24, go_sem]) rfl ⟨none, 0, rfl, World.ownsRow_nil _ _ _ _, Below.refl _ _⟩
    · rw [if_neg (by omega)] at hF
      simp only [Prod.mk.injEq] at hF
      obtain ⟨rfl, rfl⟩ := hF
      simp at hp
      subst hp
      have h3 : many < 0 := by omega
      rw [hk] at HK
      clear hk hr hs hx hy h1
      go_enter Try.func24, Try.ntmps24
      go_wp2_with (go_at_call 64; refine HK.out.mono ?_; rintro e w' ⟨rfl, hw⟩; subst w')
      refine bodyPost_ret (v := .tuple #[.slice none 0 0, .bool false]) (by simp [results, Try.results24, go_sem]) rfl ⟨none, 0, rfl, World.ownsRow_nil _ _ _ _, Below.refl _ _⟩

end Go.Proofs.Ytjdfpjeeipbghaa
