/- What chapter 8 draws: letters, lists of them, rounds. Nothing is said of a letter but that it is one of twelve. -/
import Derived.Test.YtnppmgnfignbcaaD3G
import Derived.Test.YtnppmgnfignbcaaMS8
namespace Go.Proofs.Ytnppmgnfignbcaa
set_option linter.unusedVariables false
set_option maxRecDepth 1000000
set_option linter.unusedSimpArgs false
open Go.RowKit

theorem of_c (P : ByteArray → Prop) (g : Nat) (ao : Option Addr) (n c : Nat) (M : Int) (r k : Nat) (w : World) (hM : M ≤ 3000000000000000000) (hk : 1 ≤ k ∧ k ≤ 1000) (hc : ∀ j, j < k → ∃ s : ByteArray, w.cell? ⟨r, j, none⟩ = some (.string s) ∧ P s) (hrg : r ≠ g) (h : Cur w g ao n c M) :
    Calls Try.prog 98 #[.pointer (some ⟨g, 0, none⟩), .slice (some ⟨r, 0, none⟩) k k] w fun e w' => ∃ s : ByteArray, e = .returned (.string s) ∧ P s ∧ Cur w' g ao n c (M + 2) ∧ GB g w w' := by
  have HC : Hid (Cur w g ao n c M) := h
  have HR : Hid (∀ j, j < k → ∃ s : ByteArray, w.cell? ⟨r, j, none⟩ = some (.string s) ∧ P s) := hc
  obtain ⟨hk1, hk2⟩ := hk
  have kk : (1 : Int) ≤ (k : Int) ∧ (k : Int) ≤ 1000000 := by omega
  have HNE : Hid (¬ some r = some g) := by show ¬ _; simpa using hrg
  clear h hc hrg
  go_enter Try.func98, Try.ntmps98
  go_wp2_with fail
  refine (pick_c g ao n c M k _ hM kk HC.out).mono ?_
  rintro e w1 ⟨z, rfl, hz0, hz1, hc1, hg1⟩
  obtain ⟨j, rfl⟩ : ∃ j : Nat, z = j := ⟨z.toNat, by omega⟩
  obtain ⟨s, hs, hs2⟩ := HR.out j (by omega)
  have q1 : w1.cell? ⟨r, j, none⟩ = some (.string s) := by have h := hg1.cell (a := ⟨r, j, none⟩) hs HNE.out; simpa using h
  have HC1 : Hid (Cur w1 g ao n c (M + 2)) := hc1
  have HG1 : Hid (GB g w w1) := hg1
  have HS2 : Hid (P s) := hs2
  clear hc1 hg1 HC hs HR hs2
  go_wp2
  go_ret
  exact ⟨s, rfl, HS2.out, HC1.out, HG1.out⟩

def allT (P : ByteArray → Prop) : List Value → Prop
  | [] => True
  | .string s :: r => P s ∧ allT P r
  | _ :: _ => False
theorem allT_at {P : ByteArray → Prop} : ∀ {l : List Value} {j : Nat}, allT P l → j < l.length → ∃ s : ByteArray, l[j]? = some (.string s) ∧ P s
  | .string s :: r, 0, h, _ => ⟨s, rfl, h.1⟩
  | .string s :: r, j + 1, h, hj => by
    obtain ⟨y', h1, h2⟩ := allT_at (j := j) h.2 (by simpa using hj)
    exact ⟨y', by simpa using h1, h2⟩
theorem litP_cells (P : ByteArray → Prop) (w : World) (cs : Array Value) (t : TypeId) (k : Nat) (hk : cs.size = k) (h : allT P cs.toList) : ∀ j, j < k → ∃ s : ByteArray, (w.alloc (.cells cs t)).cell? ⟨w.heap.size, j, none⟩ = some (.string s) ∧ P s := fun j hj => by
  obtain ⟨y, h1, h2⟩ := allT_at (j := j) h (by simpa [← hk] using hj)
  refine ⟨y, ?_, h2⟩
  rw [World.cell?_alloc_new]
  · simpa using h1

/-- The eleven letters that are short enough. -/
def lets : List ByteArray := [⟨#[97]⟩, ⟨#[98]⟩, ⟨#[99]⟩, ⟨#[100, 100]⟩, ⟨#[101]⟩, ⟨#[102]⟩, ⟨#[103, 49]⟩, ⟨#[104, 50]⟩, ⟨#[108, 101, 116, 116, 101, 114]⟩, ⟨#[]⟩, ⟨#[116, 119, 101, 110, 116, 121, 45, 102, 111, 117, 114, 32, 98, 121, 116, 101, 115, 32, 111, 102, 32, 105, 116, 46]⟩]
def long25 : ByteArray := ⟨#[116, 119, 101, 110, 116, 121, 45, 102, 105, 118, 101, 32, 98, 121, 116, 101, 115, 32, 111, 102, 32, 105, 116, 46, 46]⟩
def IsLet (s : ByteArray) : Prop := s ∈ lets ∨ s = long25
theorem IsLet.size {s : ByteArray} (h : IsLet s) : s.size ≤ 25 := by
  rcases h with h | rfl
  · simp only [lets, List.mem_cons, List.not_mem_nil, or_false] at h
    rcases h with rfl | rfl | rfl | rfl | rfl | rfl | rfl | rfl | rfl | rfl | rfl <;> decide
  · decide

set_option maxHeartbeats 1000000 in
theorem letter_c (g : Nat) (ao : Option Addr) (n c : Nat) (M : Int) (w : World) (hM : M ≤ 2000000) (h : Cur w g ao n c M) :
    Calls Try.prog 69 #[.pointer (some ⟨g, 0, none⟩)] w fun e w' => ∃ s : ByteArray, e = .returned (.string s) ∧ IsLet s ∧ Cur w' g ao n c (M + 2) ∧ GB g w w' := by
  have C4 : Hid (Cur w g ao n c M) := h
  have hlit := litP_cells IsLet w #[.string ⟨#[97]⟩, .string ⟨#[98]⟩, .string ⟨#[99]⟩, .string ⟨#[100, 100]⟩, .string ⟨#[108, 101, 116, 116, 101, 114]⟩, .string ⟨#[]⟩, .string ⟨#[116, 119, 101, 110, 116, 121, 45, 102, 111, 117, 114, 32, 98, 121, 116, 101, 115, 32, 111, 102, 32, 105, 116, 46]⟩, .string ⟨#[116, 119, 101, 110, 116, 121, 45, 102, 105, 118, 101, 32, 98, 121, 116, 101, 115, 32, 111, 102, 32, 105, 116, 46, 46]⟩] 9 8 rfl (by simp [allT, IsLet, lets, long25])
  have hgd : g < w.heap.size := h.lt
  clear h
  go_enter Try.func69, Try.ntmps69
  go_wp2_with fail
  refine (of_c IsLet g ao n c _ w.heap.size 8 _ (by omega) (by omega) hlit (by omega) (C4.out.alloc _)).mono ?_
  rintro e w5 ⟨s, rfl, hs, hc1, hg1⟩
  have HS : Hid (IsLet s) := hs
  have C5 : Hid (Cur w5 g ao n c (M + 2)) := hc1
  have G5 : Hid (GB g w w5) := ((GB.refl g w).alloc _).trans hg1
  clear hc1 hg1 hs hlit
  go_wp2
  go_ret
  exact ⟨s, rfl, HS.out, C5.out, G5.out⟩


theorem sepS {w : World} {base g : Nat} {v : Value} {xs : List ByteArray} (h : OwnS w base v xs) (hg : g < base) : v.ownBlock = none ∨ v.ownBlock ≠ some g := by
  rcases hb : v.ownBlock with _ | b
  · exact Or.inl rfl
  · exact Or.inr (fun e => by have := own_block_geS h b hb; simp at e; omega)

/-- A list that grows by one text beside a cursor: all that is known of it, ahead of the walk. -/
theorem grow_run {w wr : World} {g B n c p : Nat} {ao : Option Addr} {M : Int} {u : Value} {xs : List ByteArray} (s : ByteArray) (hgB : g < B) (hOB : Old ao n B) (hW : w.heap.size = B) (hB : B ≤ wr.heap.size) (hX : xs.length = p) (hp : p ≤ 1000) (hY : OwnS wr B u xs) (hC : Cur wr g ao n c M) (hG : GB g w wr) :
    ∃ a' c' w', (∀ ty, (Builtin.append_ #[29, 29] ty #[u, .slice (some ⟨wr.heap.size, 0, none⟩) 1 1]).run Try.prog (wr.alloc (.cells #[.string s] 9)) = .ok (.slice a' (p + 1) c') w') ∧ OwnS w' B (.slice a' (p + 1) c') (xs ++ [s]) ∧ Cur w' g ao n c M ∧ GB g w w' ∧ B ≤ w'.heap.size := by
  have bA := balloc wr (.cells #[.string s] 9)
  obtain ⟨v', w', r1, o1, g1, b1⟩ := appendS_run (wr.alloc (.cells #[.string s] 9)) B u xs [s] (some ⟨wr.heap.size, 0, none⟩) 1 1 (hY.later bA) (litS wr s) rfl (fun e => by cases e) (by omega) (Nat.le_trans hB bA.size)
  obtain ⟨a', c', hv⟩ := o1.shape
  rw [show (xs ++ [s]).length = p + 1 by rw [List.length_append, hX]; rfl] at hv
  subst hv
  have hob : ∀ k', u.ownBlock = some k' → B ≤ k' := own_block_geS hY
  exact ⟨a', c', w', r1, o1, (hC.alloc _).grown g1 hob hgB hOB, (hG.alloc _).grown g1 (fun k hk => by have := hob k hk; omega), Nat.le_trans hB (Nat.le_trans bA.size g1.size)⟩

set_option maxHeartbeats 4000000 in
theorem letters_c (g : Nat) (ao : Option Addr) (n c most : Nat) (M : Int) (w : World) (hM : M ≤ 1000000) (hmost : most ≤ 10) (h : Cur w g ao n c M) :
    Calls Try.prog 63 #[.pointer (some ⟨g, 0, none⟩), .int .i64 most] w fun e w' => ∃ (a : Option Addr) (q cc : Nat) (xs : List ByteArray), e = .returned (.slice a q cc) ∧ xs.length = q ∧ q ≤ most + 1 ∧ (∀ s ∈ xs, IsLet s) ∧ OwnS w' w.heap.size (.slice a q cc) xs ∧ Cur w' g ao n c (M + 30) ∧ GB g w w' := by
  have HC : Hid (Cur w g ao n c M) := h
  obtain ⟨B, hB⟩ : ∃ B, w.heap.size = B := ⟨_, rfl⟩
  have hOB : Hid (Old ao n B) := by rw [← hB]; exact h.code.old
  have hgB : g < B := by rw [← hB]; exact h.lt
  have HEQ : Hid (w.heap.size = B) := hB
  clear h hB
  go_enter Try.func63, Try.ntmps63
  go_wp2_with fail
  refine (pick_c g ao n c M (most + 1) _ (by omega) (by omega) HC.out).mono ?_
  rintro e w1 ⟨z, rfl, hz0', hz1', hc1, hg1⟩
  obtain ⟨n0, rfl⟩ : ∃ n0 : Nat, z = (n0 : Int) := ⟨z.toNat, by omega⟩
  have hn4 : n0 ≤ most := by omega
  have C1 : Hid (Cur w1 g ao n c (M + 2)) := hc1
  have G1 : Hid (GB g w w1) := hg1
  have hB1 : B ≤ w1.heap.size := by rw [← HEQ.out]; exact hg1.size
  clear hc1 hg1 HC
  go_wp2
  go_loopw [5, 6] (fun u i wr => ∃ (k p : Nat) (xs : List ByteArray), i = .int .i64 k ∧ p + k = n0 ∧ Hid (xs.length = p) ∧ Hid (∀ s ∈ xs, IsLet s) ∧ Hid (OwnS wr B u xs) ∧ Hid (Cur wr g ao n c (M + 2 + 2 * p)) ∧ Hid (GB g w wr) ∧ B ≤ wr.heap.size) (fun _ i _ => (intOf i).toNat)
  case atStart => exact ⟨n0, 0, [], rfl, by omega, rfl, (fun s hs => absurd hs (by simp)), World.ownsRow_nil _ _ _ _, C1.out.mono (by omega), G1, hB1⟩
  case round =>
    clear C1 G1 hB1 hz0' hz1'
    obtain ⟨k, p, xs, rfl, hkp, HP, HX, hY, hC, hG, hBr⟩ := hrel
    have hp4 : p ≤ 10 := by omega
    by_cases hlt : 0 < k
    · have k1 : (0 : Int) < (k : Int) := by omega
      have kk : (k : Int) ≤ 10 := by omega
      have HKP : Hid (p + k = n0 ∧ 0 < k) := ⟨hkp, hlt⟩
      have hgr : g < wr.heap.size := by omega
      have hlit := litP_cells IsLet wr #[.string ⟨#[97]⟩, .string ⟨#[98]⟩, .string ⟨#[99]⟩, .string ⟨#[100, 100]⟩, .string ⟨#[101]⟩, .string ⟨#[102]⟩, .string ⟨#[103, 49]⟩, .string ⟨#[104, 50]⟩, .string ⟨#[108, 101, 116, 116, 101, 114]⟩] 9 9 rfl (by simp [allT, IsLet, lets, long25])
      clear hkp
      go_wp2_with fail
      refine (of_c IsLet g ao n c (M + 2 + 2 * p) wr.heap.size 9 _ (by omega) (by omega) hlit (by omega) (hC.out.alloc _)).mono ?_
      rintro e wa ⟨s, rfl, hs, hc1, hg1⟩
      have hGa : GB g w wa := (hG.out.alloc _).trans hg1
      have hYa : OwnS wa B u5 xs := (hY.out.later (balloc wr (.cells #[.string ⟨#[97]⟩, .string ⟨#[98]⟩, .string ⟨#[99]⟩, .string ⟨#[100, 100]⟩, .string ⟨#[101]⟩, .string ⟨#[102]⟩, .string ⟨#[103, 49]⟩, .string ⟨#[104, 50]⟩, .string ⟨#[108, 101, 116, 116, 101, 114]⟩] 9))).kept hg1 (sepS hY.out (by omega))
      have hBa : B ≤ wa.heap.size := Nat.le_trans hBr (Nat.le_trans (by simp) hg1.size)
      obtain ⟨a', c', wb, r1, o1, cb, gb, bb⟩ := grow_run s hgB hOB.out HEQ.out hBa HP.out (by omega) hYa hc1 hGa
      have HO1 : Hid (OwnS wb B (.slice a' (p + 1) c') (xs ++ [s])) := o1
      have HC1 : Hid (Cur wb g ao n c (M + 2 + 2 * p + 2)) := cb
      have HG1 : Hid (GB g w wb) := gb
      have HX1 : Hid (∀ t ∈ xs ++ [s], IsLet t) := fun t ht => by
        rcases List.mem_append.1 ht with h | h
        · exact HX.out t h
        · rw [List.mem_singleton.1 h]; exact hs
      have HL1 : Hid ((xs ++ [s]).length = p + 1) := by show _ = _; rw [List.length_append, HP.out]; rfl
      clear hc1 hg1 hC hG hY hBr hlit hGa hYa hBa o1 cb gb hs HX HP
      go_wp2_with (at_builtin; refine Lib.wpList_append_run _ rfl _ _ _ _ rfl _ _ rfl rfl _ _ (r1 _) ?_; clear r1)
      go_roundw
      case rel => exact ⟨k - 1, p + 1, xs ++ [s], by have := HKP.out; go_num, by have := HKP.out; omega, HL1, HX1, HO1, HC1.out.mono (by omega), HG1, bb⟩
      case measure => have := HKP.out; simp [intOf]; omega
    · have k1 : (k : Int) ≤ 0 := by omega
      obtain rfl : k = 0 := by omega
      obtain ⟨a2, c2, hv⟩ := hY.out.shape
      rw [HP.out] at hv
      subst hv
      have hpm : p ≤ most := by omega
      clear hkp
      go_wp2_with fail
      refine (one_c g ao n c (M + 2 + 2 * p) 30 _ (by omega) (by omega) hC.out).mono ?_
      rintro e wa ⟨b, rfl, hc1, hg1⟩
      have hGa : GB g w wa := hG.out.trans hg1
      have hYa : OwnS wa B (.slice a2 p c2) xs := hY.out.kept hg1 (sepS hY.out (by omega))
      have hBa : B ≤ wa.heap.size := Nat.le_trans hBr hg1.size
      cases b with
      | false =>
        have HO : Hid (OwnS wa B (.slice a2 p c2) xs) := hYa
        have HC1 : Hid (Cur wa g ao n c (M + 30)) := hc1.mono (by omega)
        have HG1 : Hid (GB g w wa) := hGa
        clear hc1 hg1 hC hG hY hBr hGa hYa hBa
        go_wp2
        go_ret
        exact ⟨a2, p, c2, xs, rfl, HP.out, by omega, HX.out, by rw [HEQ.out]; exact HO.out, HC1.out, HG1.out⟩
      | true =>
        have HY1 : Hid (OwnS wa B (.slice a2 p c2) xs) := hYa
        have HC1 : Hid (Cur wa g ao n c (M + 2 + 2 * p + 2)) := hc1
        have HG1 : Hid (GB g w wa) := hGa
        clear hc1 hg1 hC hG hY hBr hGa hYa
        go_wp2_with fail
        refine (letter_c g ao n c (M + 2 + 2 * p + 2) wa (by omega) HC1.out).mono ?_
        rintro e wb ⟨s, rfl, hs, hc2, hg2⟩
        have hGb : GB g w wb := HG1.out.trans hg2
        have hYb : OwnS wb B (.slice a2 p c2) xs := HY1.out.kept hg2 (sepS HY1.out (by omega))
        have hBb : B ≤ wb.heap.size := Nat.le_trans hBa hg2.size
        obtain ⟨a', c', wc, r1, o1, cb, gb, bb⟩ := grow_run s hgB hOB.out HEQ.out hBb HP.out (by omega) hYb hc2 hGb
        have HO1 : Hid (OwnS wc B (.slice a' (p + 1) c') (xs ++ [s])) := o1
        have HC2 : Hid (Cur wc g ao n c (M + 30)) := cb.mono (by omega)
        have HG2 : Hid (GB g w wc) := gb
        have HX1 : Hid (∀ t ∈ xs ++ [s], IsLet t) := fun t ht => by
          rcases List.mem_append.1 ht with h | h
          · exact HX.out t h
          · rw [List.mem_singleton.1 h]; exact hs
        have HL1 : Hid ((xs ++ [s]).length = p + 1) := by show _ = _; rw [List.length_append, HP.out]; rfl
        clear hc2 hg2 hGb hYb hBb o1 cb gb hs HX HP HY1 HC1 HG1
        go_wp2_with (at_builtin; refine Lib.wpList_append_run _ rfl _ _ _ _ rfl _ _ rfl rfl _ _ (r1 _) ?_; clear r1)
        go_ret
        exact ⟨a', p + 1, c', xs ++ [s], rfl, HL1.out, by omega, HX1.out, by rw [HEQ.out]; exact HO1.out, HC2.out, HG2.out⟩


theorem OwnSS.keptG {w w' : World} {base g : Nat} {v : Value} {xss : List (List ByteArray)} (h : OwnSS w base v xss) (hg : GB g w w') (hlt : g < base) : OwnSS w' base v xss := h.kept1 hg hlt

set_option maxHeartbeats 4000000 in
theorem rounds_c (g : Nat) (ao : Option Addr) (n c : Nat) (M : Int) (w : World) (hM : M ≤ 10000) (h : Cur w g ao n c M) :
    Calls Try.prog 54 #[.pointer (some ⟨g, 0, none⟩)] w fun e w' => ∃ (a : Option Addr) (q cc : Nat) (xss : List (List ByteArray)), e = .returned (.slice a q cc) ∧ xss.length = q ∧ q ≤ 21 ∧ (∀ l ∈ xss, l.length ≤ 4 ∧ ∀ s ∈ l, IsLet s) ∧ OwnSS w' w.heap.size (.slice a q cc) xss ∧ Cur w' g ao n c (M + 1000) ∧ GB g w w' := by
  have HC : Hid (Cur w g ao n c M) := h
  obtain ⟨B, hB⟩ : ∃ B, w.heap.size = B := ⟨_, rfl⟩
  have hOB : Hid (Old ao n B) := by rw [← hB]; exact h.code.old
  have hgB : g < B := by rw [← hB]; exact h.lt
  have HEQ : Hid (w.heap.size = B) := hB
  clear h hB
  go_enter Try.func54, Try.ntmps54
  go_wp2_with fail
  refine (pick_c g ao n c M 8 _ (by omega) (by omega) HC.out).mono ?_
  rintro e w1 ⟨z, rfl, hz0', hz1', hc1, hg1⟩
  have C1 : Hid (Cur w1 g ao n c (M + 2)) := hc1
  have G1 : Hid (GB g w w1) := hg1
  clear hc1 hg1 HC
  go_wp2_with fail
  refine (one_c g ao n c (M + 2) 20 _ (by omega) (by omega) C1.out).mono ?_
  rintro e w2 ⟨b, rfl, hc1, hg1⟩
  have C2 : Hid (Cur w2 g ao n c (M + 4)) := hc1.mono (by omega)
  have G2 : Hid (GB g w w2) := G1.out.trans hg1
  clear hc1 hg1 C1 G1
  cases b with
  | false =>
    obtain ⟨n0, rfl⟩ : ∃ n0 : Nat, z = (n0 : Int) := ⟨z.toNat, by omega⟩
    have hn0 : n0 ≤ 21 := by omega
    have C3 : Hid (Cur w2 g ao n c (M + 6)) := C2.out.mono (by omega)
    have G3 : Hid (GB g w w2) := G2
    have hB3 : B ≤ w2.heap.size := by rw [← HEQ.out]; exact G2.out.size
    clear C2 G2 hz0' hz1'
    go_wp2
    go_loopw [3, 4] (fun u i wr => ∃ (k p : Nat) (xss : List (List ByteArray)), i = .int .i64 k ∧ p + k = n0 ∧ Hid (xss.length = p) ∧ Hid (∀ l ∈ xss, l.length ≤ 4 ∧ ∀ s ∈ l, IsLet s) ∧ Hid (OwnSS wr B u xss) ∧ Hid (Cur wr g ao n c (M + 10 + 30 * p)) ∧ Hid (GB g w wr) ∧ B ≤ wr.heap.size) (fun _ i _ => (intOf i).toNat)
    case atStart => exact ⟨n0, 0, [], by first | rfl | go_num, by omega, rfl, (fun l hl => absurd hl (by simp)), ⟨[], rfl, World.ownsRow_nil _ _ _ _, (fun j h => absurd h (by simp)), (fun i j _ h => absurd h (by simp))⟩, C3.out.mono (by omega), G3, hB3⟩
    case round =>
      clear C3 G3 hB3
      obtain ⟨k, p, xss, rfl, hkp, HP, HX, hY, hC, hG, hBr⟩ := hrel
      have hp4 : p ≤ 21 := by omega
      have hp5 : (p : Int) ≤ 21 := by omega
      by_cases hlt : 0 < k
      · have k1 : (0 : Int) < (k : Int) := by omega
        have kk : (k : Int) ≤ 21 := by omega
        have HKP : Hid (p + k = n0 ∧ 0 < k) := ⟨hkp, hlt⟩
        clear hkp
        go_wp2_with fail
        refine (letters_c g ao n c 3 (M + 10 + 30 * p) wr (by omega) (by omega) hC.out).mono ?_
        rintro e wa ⟨a1, q, c1, xs, rfl, hxq, hq4, hxl, hox, hc1, hg1⟩
        have hGa : GB g w wa := hG.out.trans hg1
        have hYa := hY.out.lt.kept1 hg1 hgB
        have hBa : B ≤ wa.heap.size := Nat.le_trans hBr hg1.size
        obtain ⟨v6, wb, r1, o6, g6, b6⟩ := appendSS_run wa B wr.heap.size u3 (.slice a1 q c1) xss xs hYa hox hBr hBa (by have := HP.out; omega)
        have hob : ∀ k', u3.ownBlock = some k' → B ≤ k' := hY.out.ge
        obtain ⟨a', c', hv6⟩ := o6.shape
        rw [show (xss ++ [xs]).length = p + 1 by rw [List.length_append, HP.out]; rfl] at hv6
        subst hv6
        have HO1 : Hid (OwnSS wb B (.slice a' (p + 1) c') (xss ++ [xs])) := o6
        have HC1 : Hid (Cur wb g ao n c (M + 10 + 30 * p + 30)) := (hc1.alloc _).grown g6 hob hgB hOB.out
        have HG1 : Hid (GB g w wb) := (hGa.alloc _).grown g6 (fun k hk => by have := hob k hk; have := HEQ.out; omega)
        have bb : B ≤ wb.heap.size := Nat.le_trans hBa (Nat.le_trans (by simp) g6.size)
        have HX1 : Hid (∀ l ∈ xss ++ [xs], l.length ≤ 4 ∧ ∀ s ∈ l, IsLet s) := fun t ht => by
          rcases List.mem_append.1 ht with h | h
          · exact HX.out t h
          · rw [List.mem_singleton.1 h]; exact ⟨by omega, hxl⟩
        have HL1 : Hid ((xss ++ [xs]).length = p + 1) := by show _ = _; rw [List.length_append, HP.out]; rfl
        clear hc1 hg1 hC hG hY hBr hGa hYa hBa o6 g6 b6 hob hox hxl hxq HX HP
        go_wp2_with (at_builtin; refine Lib.wpList_append_run _ rfl _ _ _ _ rfl _ _ rfl rfl _ _ (r1 _) ?_; clear r1)
        go_roundw
        case rel => exact ⟨k - 1, p + 1, xss ++ [xs], by have := HKP.out; go_num, by have := HKP.out; omega, HL1, HX1, HO1, HC1.out.mono (by omega), HG1, bb⟩
        case measure => have := HKP.out; simp [intOf]; omega
      · have k1 : (k : Int) ≤ 0 := by omega
        obtain rfl : k = 0 := by omega
        obtain ⟨a2, c2, hv⟩ := hY.out.shape
        rw [HP.out] at hv
        subst hv
        have HC1 : Hid (Cur wr g ao n c (M + 1000)) := hC.out.mono (by omega)
        clear hC
        go_wp2
        go_ret
        exact ⟨a2, p, c2, xss, rfl, HP.out, by omega, HX.out, by rw [HEQ.out]; exact hY.out, HC1.out, hG.out⟩
  | true =>
    go_wp2_with fail
    refine (pick_c g ao n c (M + 4) 2 _ (by omega) (by omega) C2.out).mono ?_
    rintro e w3 ⟨y, rfl, hy0, hy1, hc1, hg1⟩
    obtain ⟨n0, hn0'⟩ : ∃ n0 : Nat, 20 + y = (n0 : Int) := ⟨(20 + y).toNat, by omega⟩
    have hn0 : n0 ≤ 21 := by omega
    have C3 : Hid (Cur w3 g ao n c (M + 6)) := hc1.mono (by omega)
    have G3 : Hid (GB g w w3) := G2.out.trans hg1
    have hB3 : B ≤ w3.heap.size := by rw [← HEQ.out]; exact G3.out.size
    clear C2 G2 hz0' hz1' hc1 hg1
    go_wp2
    go_loopw [3, 4] (fun u i wr => ∃ (k p : Nat) (xss : List (List ByteArray)), i = .int .i64 k ∧ p + k = n0 ∧ Hid (xss.length = p) ∧ Hid (∀ l ∈ xss, l.length ≤ 4 ∧ ∀ s ∈ l, IsLet s) ∧ Hid (OwnSS wr B u xss) ∧ Hid (Cur wr g ao n c (M + 10 + 30 * p)) ∧ Hid (GB g w wr) ∧ B ≤ wr.heap.size) (fun _ i _ => (intOf i).toNat)
    case atStart => exact ⟨n0, 0, [], by first | rfl | go_num, by omega, rfl, (fun l hl => absurd hl (by simp)), ⟨[], rfl, World.ownsRow_nil _ _ _ _, (fun j h => absurd h (by simp)), (fun i j _ h => absurd h (by simp))⟩, C3.out.mono (by omega), G3, hB3⟩
    case round =>
      clear C3 G3 hB3
      obtain ⟨k, p, xss, rfl, hkp, HP, HX, hY, hC, hG, hBr⟩ := hrel
      have hp4 : p ≤ 21 := by omega
      have hp5 : (p : Int) ≤ 21 := by omega
      by_cases hlt : 0 < k
      · have k1 : (0 : Int) < (k : Int) := by omega
        have kk : (k : Int) ≤ 21 := by omega
        have HKP : Hid (p + k = n0 ∧ 0 < k) := ⟨hkp, hlt⟩
        clear hkp
        go_wp2_with fail
        refine (letters_c g ao n c 3 (M + 10 + 30 * p) wr (by omega) (by omega) hC.out).mono ?_
        rintro e wa ⟨a1, q, c1, xs, rfl, hxq, hq4, hxl, hox, hc1, hg1⟩
        have hGa : GB g w wa := hG.out.trans hg1
        have hYa := hY.out.lt.kept1 hg1 hgB
        have hBa : B ≤ wa.heap.size := Nat.le_trans hBr hg1.size
        obtain ⟨v6, wb, r1, o6, g6, b6⟩ := appendSS_run wa B wr.heap.size u3 (.slice a1 q c1) xss xs hYa hox hBr hBa (by have := HP.out; omega)
        have hob : ∀ k', u3.ownBlock = some k' → B ≤ k' := hY.out.ge
        obtain ⟨a', c', hv6⟩ := o6.shape
        rw [show (xss ++ [xs]).length = p + 1 by rw [List.length_append, HP.out]; rfl] at hv6
        subst hv6
        have HO1 : Hid (OwnSS wb B (.slice a' (p + 1) c') (xss ++ [xs])) := o6
        have HC1 : Hid (Cur wb g ao n c (M + 10 + 30 * p + 30)) := (hc1.alloc _).grown g6 hob hgB hOB.out
        have HG1 : Hid (GB g w wb) := (hGa.alloc _).grown g6 (fun k hk => by have := hob k hk; have := HEQ.out; omega)
        have bb : B ≤ wb.heap.size := Nat.le_trans hBa (Nat.le_trans (by simp) g6.size)
        have HX1 : Hid (∀ l ∈ xss ++ [xs], l.length ≤ 4 ∧ ∀ s ∈ l, IsLet s) := fun t ht => by
          rcases List.mem_append.1 ht with h | h
          · exact HX.out t h
          · rw [List.mem_singleton.1 h]; exact ⟨by omega, hxl⟩
        have HL1 : Hid ((xss ++ [xs]).length = p + 1) := by show _ = _; rw [List.length_append, HP.out]; rfl
        clear hc1 hg1 hC hG hY hBr hGa hYa hBa o6 g6 b6 hob hox hxl hxq HX HP
        go_wp2_with (at_builtin; refine Lib.wpList_append_run _ rfl _ _ _ _ rfl _ _ rfl rfl _ _ (r1 _) ?_; clear r1)
        go_roundw
        case rel => exact ⟨k - 1, p + 1, xss ++ [xs], by have := HKP.out; go_num, by have := HKP.out; omega, HL1, HX1, HO1, HC1.out.mono (by omega), HG1, bb⟩
        case measure => have := HKP.out; simp [intOf]; omega
      · have k1 : (k : Int) ≤ 0 := by omega
        obtain rfl : k = 0 := by omega
        obtain ⟨a2, c2, hv⟩ := hY.out.shape
        rw [HP.out] at hv
        subst hv
        have HC1 : Hid (Cur wr g ao n c (M + 1000)) := hC.out.mono (by omega)
        clear hC
        go_wp2
        go_ret
        exact ⟨a2, p, c2, xss, rfl, HP.out, by omega, HX.out, by rw [HEQ.out]; exact hY.out, HC1.out, hG.out⟩

end Go.Proofs.Ytnppmgnfignbcaa
