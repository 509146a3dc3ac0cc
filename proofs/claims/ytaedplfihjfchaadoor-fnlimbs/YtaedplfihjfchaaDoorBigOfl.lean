/- Contracts said relatively to a world ahead, for regions that leave their order open. -/
import Derived.Test.YtaedplfihjfchaaDoorImplAdd3l
import Derived.Test.YtaedplfihjfchaaDoorLawCmpl
namespace Go.Proofs.YtaedplfihjfchaaDoor
set_option linter.unusedVariables false
set_option maxRecDepth 1000000
set_option linter.unusedSimpArgs false
open Go.RowKit

theorem cnew (w : World) (v : Value) (t : TypeId) : (w.alloc (.cells #[v] t)).cell? ⟨w.heap.size, 0, none⟩ = some v := by
  rw [World.cell?_alloc_at _ _ _ _ rfl]; rfl

theorem balloc (w : World) (o : Obj) : Below w.heap.size w (w.alloc o) := (Below.refl _ _).alloc (Nat.le_refl _) _

theorem own_set_mono {w : World} {base base' : Nat} {v : Value} {xs : List Int} (h : Own w base v xs) {g o : Nat} (hg : g < base) (hb : base' ≤ base) {u : Value} : Own (w.setCell ⟨g, o, none⟩ u) base' v xs := (own_set_below h hg u).mono hb

theorem Rd.alloc {w : World} {ao : Option Addr} {xs : List Int} (h : Rd w ao xs) (o : Obj) : Rd (w.alloc o) ao xs := h.later ((Below.refl _ _).alloc (Nat.le_refl _) _)

theorem specAdd_d {ao bo : Option Addr} {n m c d : Nat} {xs ys : List Int} {w W : World} (hx : xs.length = n) (hy : ys.length = m) (hn : n ≤ 17592186044416) (hm : m ≤ 17592186044416) (hr : Rd W ao xs) (hs : Rd W bo ys) {zs : List Int} {fb : Bool} {p : Nat} (hF : addF xs ys = (zs, fb)) (hp : zs.length = p) (hB : Below w.heap.size w W) :
    Calls Tryd.prog 6 #[.agg #[.slice ao n c], .agg #[.slice bo m d]] W fun e w' => ∃ a' c', e = .returned (.tuple #[.agg #[.slice a' p c'], .bool fb]) ∧ Own w' W.heap.size (.slice a' p c') zs ∧ Hid (Below w.heap.size w w') ∧ Below W.heap.size W w' := by
  refine (specAdd_c ao bo n m c d xs ys W hx hy hn hm hr hs zs fb p hF hp).mono ?_
  rintro e w' ⟨a', c', rfl, ho, hb⟩
  exact ⟨a', c', rfl, ho, hB.trans (hb.mono hB.size), hb⟩

theorem implAdd_d {ao bo : Option Addr} {n m c d : Nat} {xs ys : List Int} {w W : World} (hx : xs.length = n) (hy : ys.length = m) (hn : n ≤ 17592186044416) (hm : m ≤ 17592186044416) (hr : Rd W ao xs) (hs : Rd W bo ys) {zs : List Int} {fb : Bool} {p : Nat} (hF : addF xs ys = (zs, fb)) (hp : zs.length = p) (hB : Below w.heap.size w W) :
    Calls Tryd.prog 5 #[.agg #[.slice ao n c], .agg #[.slice bo m d]] W fun e w' => ∃ a' c', e = .returned (.tuple #[.agg #[.slice a' p c'], .bool fb]) ∧ Own w' W.heap.size (.slice a' p c') zs ∧ Hid (Below w.heap.size w w') ∧ Below W.heap.size W w' := by
  refine (implAdd_c ao bo n m c d xs ys W hx hy hn hm hr hs zs fb p hF hp).mono ?_
  rintro e w' ⟨a', c', rfl, ho, hb⟩
  exact ⟨a', c', rfl, ho, hB.trans (hb.mono hB.size), hb⟩

theorem tellF_short {n : Int} {zs : List Int} {fb : Bool} (h0 : 0 ≤ n) (h : tellF n = (zs, fb)) : zs.length ≤ 6 := by
  by_cases hn : n < 79228162514264337593543950336
  · rw [tellF_good hn] at h
    simp only [Prod.mk.injEq] at h
    rw [← h.1]; exact (bigL_length h0).2 hn
  · rw [tellF_bad hn] at h
    simp only [Prod.mk.injEq] at h
    rw [← h.1]; simp

theorem addF_short {xs ys zs : List Int} {fb : Bool} (h : addF xs ys = (zs, fb)) : zs.length ≤ 6 := by
  cases hg : (goodB xs && goodB ys)
  · rw [addF, hg] at h
    simp at h
    rw [h.1]; simp
  · rw [addF, hg] at h
    simp only [if_true] at h
    simp at hg
    have v0 := val_nonneg (goodB_digs hg.1).2.1
    have v1 := val_nonneg (goodB_digs hg.2).2.1
    exact tellF_short (by omega) h

end Go.Proofs.YtaedplfihjfchaaDoor
namespace Go.Proofs.YtaedplfihjfchaaDoor
set_option linter.unusedVariables false
set_option maxRecDepth 1000000
set_option linter.unusedSimpArgs false
open Go.RowKit

def ofF (n : Int) : List Int × Bool := if n < 0 then ([], false) else tellF n

theorem digits_zero (f : Nat) : digits f 0 = [] := by cases f <;> simp [digits]

theorem digits_pos {f : Nat} {n : Int} (hn : 0 < n) (hf : n.toNat ≤ f) : ∃ f', f = f' + 1 ∧ (n / 65536).toNat ≤ f' ∧ digits f n = (n % 65536) :: digits f' (n / 65536) := by
  cases f with
  | zero => omega
  | succ f' => exact ⟨f', rfl, by omega, by simp only [digits]; rw [if_neg (by omega)]⟩

set_option maxHeartbeats 1000000 in
theorem l1Of_c (n : Int) (w : World) (h0 : 0 ≤ n) (h1 : n ≤ 9223372036854775807) (p : Nat) (hp : (bigL n).length = p) :
    Calls Tryd.prog 51 #[.int .i64 n] w fun e w' => ∃ a' c', e = .returned (.slice a' p c') ∧ Own w' w.heap.size (.slice a' p c') (bigL n) ∧ Below w.heap.size w w' := by
  obtain ⟨i0, hi, hz0, hz1, hz2⟩ := info_parts Tryd.infoInt
  have HP : Hid ((bigL n).length = p) := hp
  have hps : p ≤ 1000000000 := by rw [← hp]; exact bigL_short h0 (by omega)
  clear hp
  go_enter Tryd.func51, Tryd.ntmps51
  go_wp2
  go_loopw [0, 3] (fun nv v wr => ∃ (x : Int) (f : Nat) (out : List Int), nv = .int .i64 x ∧ 0 ≤ x ∧ x ≤ n ∧ Hid (x.toNat ≤ f ∧ bigL n = out ++ digits f x) ∧ Hid (Own wr w.heap.size v out) ∧ Hid (Below w.heap.size w wr)) (fun nv _ _ => (intOf nv).toNat)
  case atStart => exact ⟨n, n.toNat, [], rfl, h0, Int.le_refl _, ⟨Nat.le_refl _, rfl⟩, World.ownsRow_nil _ _ _ _, Below.refl _ _⟩
  case round =>
    obtain ⟨x, f, out, rfl, x0, x1, hV, hO, hB⟩ := hrel
    by_cases hx : 0 < x
    · obtain ⟨f', rfl, hf', hd⟩ := digits_pos hx hV.out.1
      have hown : wr.ownsRow w.heap.size 3 1 u3 out.length (cellsI out) := hO.out
      have hol : out.length ≤ p := by rw [← HP.out, hV.out.2]; simp
      have hob : ∀ k', u3.ownBlock = some k' → w.heap.size ≤ k' := own_block_ge hO.out
      have HV' : Hid ((x / 65536).toNat ≤ f' ∧ bigL n = (out ++ [x % 65536]) ++ digits f' (x / 65536)) := ⟨hf', by rw [hV.out.2, hd]; simp⟩
      clear hd hf'
      go_wp2_with (at_builtin; refine wpList_append_own _ rfl _ _ 23 rfl w.heap.size 3 i0 (.int .i64 0) 1 8 Tryd.underlying23 hi hz0 hz1 hz2 rfl (by decide) _ _ _ rfl (hown.alloc _) ⟨wr.heap.size, 0, none⟩ 1 1 [.int .i64 (x % 65536)] rfl rfl (cell_new1 _ _ _) (ints_oneCell .i64 [x % 65536]) (by unfold maxLen; omega) (by omega) (by have := hB.out.size; simp; omega) ?_; intro v' w2 hown' hgrow _; have HO' : Hid (Own w2 w.heap.size v' (out ++ [x % 65536])) := own_push (w := wr) (v := u3) hown'; have HB' : Hid (Below w.heap.size w w2) := (hB.out.alloc hB.out.size _).grown hgrow (by have := hB.out.size; simp; omega) (fun k' e => hob k' e); clear hown' hgrow)
      go_roundw
      case rel => exact ⟨x / 65536, f', out ++ [x % 65536], rfl, by omega, by omega, HV', HO', HB'⟩
      case measure => simp [intOf]; omega
    · obtain rfl : x = 0 := by omega
      have he : bigL n = out := by rw [hV.out.2, digits_zero]; simp
      have hol : out.length = p := by rw [← HP.out, he]
      obtain ⟨a', c', hv⟩ := hO.out.shape
      rw [hol] at hv
      subst hv
      have HE : Hid (bigL n = out) := he
      clear he hol
      go_wp2
      go_ret
      exact ⟨a', c', rfl, by rw [HE.out]; exact hO.out, hB.out⟩

theorem ofF_neg {n : Int} (h : n < 0) : ofF n = ([], false) := by simp [ofF, h]
theorem ofF_pos {n : Int} (h0 : 0 ≤ n) (h1 : n ≤ 9223372036854775807) : ofF n = (bigL n, true) := by
  rw [ofF, if_neg (by omega), tellF_good (by omega)]

theorem fz1 (w : World) (cs : Array Value) (t : TypeId) : (w.alloc (.cells cs t)).frozen? ⟨w.heap.size, 0, none⟩ = false := by
  rw [World.frozen?_alloc_at _ _ _ _ rfl]

set_option maxHeartbeats 1000000 in
theorem specOf_c (n : Int) (w : World) (hw : -9223372036854775808 ≤ n ∧ n ≤ 9223372036854775807) (zs : List Int) (fb : Bool) (p : Nat) (hF : ofF n = (zs, fb)) (hp : zs.length = p) :
    Calls Tryd.prog 26 #[.int .i64 n] w fun e w' => ∃ a' c', e = .returned (.tuple #[.agg #[.slice a' p c'], .bool fb]) ∧ Own w' w.heap.size (.slice a' p c') zs ∧ Below w.heap.size w w' := by
  by_cases h : n < 0
  · rw [ofF_neg h] at hF
    simp only [Prod.mk.injEq] at hF
    obtain ⟨rfl, rfl⟩ := hF
    simp at hp
    subst hp
    go_enter Tryd.func26, Tryd.ntmps26
    go_wp2
    refine bodyPost_ret (v := .tuple #[.agg #[.slice none 0 0], .bool false]) (by simp [results, Tryd.results26, go_sem]) rfl ⟨none, 0, rfl, World.ownsRow_nil _ _ _ _, ?_⟩
    repeat (first | exact Below.refl _ _ | refine Below.setCell ?_ (by simp) _ | refine Below.alloc ?_ (by simp) _)
  · have HF : Hid (ofF n = (zs, fb)) := hF
    have HP : Hid (zs.length = p) := hp
    have hT : tellF (val (bigL n)) = (zs, fb) := by rw [(bigL_spec (show 0 ≤ n by omega)).2.1, ← hF, ofF, if_neg h]
    have HT : Hid (tellF (val (bigL n)) = (zs, fb)) := hT
    obtain ⟨q, hq⟩ : ∃ q, (bigL n).length = q := ⟨_, rfl⟩
    have HQ : Hid ((bigL n).length = q) := hq
    have hqs : q ≤ 1000000000 := by rw [← hq]; exact bigL_short (by omega) (by omega)
    have HD : Hid (Digs (bigL n)) := (bigL_spec (show 0 ≤ n by omega)).1
    clear hF hp hT hq
    go_enter Tryd.func26, Tryd.ntmps26
    go_wp2_with fail
    refine (l1Of_c n _ (by omega) (by omega) q HQ.out).mono ?_
    rintro e w1 ⟨a1, c1, rfl, ho, hb⟩
    have HB1 : Hid (Below w.heap.size w w1) := (balloc _ _).trans (hb.mono (by simp))
    have r1 : w1.cell? ⟨w.heap.size, 0, none⟩ = some (.slice none 0 0) := cell_keep (S := 0) hb (by simp)
    have f1 : w1.frozen? ⟨w.heap.size, 0, none⟩ = false := fcell_keep hb (by simp) (fz1 _ _ _)
    have l1 : w.heap.size < w1.heap.size := World.block_lt_of_cell? _ _ r1
    have HO1 : Hid (Own w1 (w.heap.size + 1) (.slice a1 q c1) (bigL n)) := by have h := ho; simp at h; exact h
    clear hb ho
    go_wp2_with fail
    refine (l1Tell_c a1 q c1 (bigL n) _ (by omega) HO1.out.rdS HD.out zs fb p HT.out HP.out).mono ?_
    rintro e w2 ⟨a2, c2, rfl, ho, hb⟩
    have HB2 : Hid (Below w.heap.size w w2) := HB1.out.trans (hb.mono HB1.out.size)
    have r2 : w2.cell? ⟨w.heap.size, 0, none⟩ = some (.slice none 0 0) := cell_keep (S := 0) hb r1
    have f2 : w2.frozen? ⟨w.heap.size, 0, none⟩ = false := fcell_keep hb l1 f1
    have HO2 : Hid (Own w2 w1.heap.size (.slice a2 p c2) zs) := ho
    clear hb ho r1 f1
    go_wp2
    refine bodyPost_ret (v := .tuple #[.agg #[.slice a2 p c2], .bool fb]) (by simp [results, Tryd.results26, go_sem, r2]) rfl ⟨a2, c2, rfl, own_set_mono HO2.out (by omega) (by omega), HB2.out.setCell (by simp) _⟩

/-- A row that is being filled with the limbs of a number, k limbs done. -/
def OfSt (n : Int) (k : Nat) (R : List Int) (x : Int) : Prop := R.length = 6 ∧ Digs R ∧ R.drop k = List.replicate (6 - k) 0 ∧ val (R.take k ++ [x]) = n

theorem ofSt_step {n x : Int} {k : Nat} {R : List Int} (hk : k < 6) (hx : 0 ≤ x) (h : OfSt n k R x) : OfSt n (k + 1) (R.set k (x % 65536)) (x / 65536) := by
  obtain ⟨h1, h2, h3, h4⟩ := h
  refine ⟨by simpa using h1, ?_, ?_, ?_⟩
  · intro y hy
    rcases List.mem_or_eq_of_mem_set hy with hy | rfl
    · exact h2 y hy
    · omega
  · rw [drop_set_succ]
    have := congrArg (List.drop 1) h3
    rw [List.drop_drop] at this
    rw [this, List.drop_replicate]
    congr 1
  · rw [take_set_succ (by omega), List.append_assoc, List.singleton_append, val_snoc2, ← h4]
    congr 3
    omega

theorem ofSt_end {n x : Int} {R : List Int} (h0 : 0 ≤ n) (h1 : n ≤ 9223372036854775807) (hx : 0 ≤ x) (h : OfSt n 6 R x) : trim R = bigL n := by
  obtain ⟨h2, h3, _, h4⟩ := h
  rw [List.take_of_length_le (by omega), val_snoc6 h2] at h4
  have := val_nonneg h3
  rw [trim_bigL h3, show val R = n by omega]

set_option maxHeartbeats 2000000 in
theorem implOf_c (n : Int) (w : World) (hw : -9223372036854775808 ≤ n ∧ n ≤ 9223372036854775807) (zs : List Int) (fb : Bool) (p : Nat) (hF : ofF n = (zs, fb)) (hp : zs.length = p) :
    Calls Tryd.prog 25 #[.int .i64 n] w fun e w' => ∃ a' c', e = .returned (.tuple #[.agg #[.slice a' p c'], .bool fb]) ∧ Own w' w.heap.size (.slice a' p c') zs ∧ Below w.heap.size w w' := by
  by_cases h : n < 0
  · rw [ofF_neg h] at hF
    simp only [Prod.mk.injEq] at hF
    obtain ⟨rfl, rfl⟩ := hF
    simp at hp
    subst hp
    go_enter Tryd.func25, Tryd.ntmps25
    go_wp2
    refine bodyPost_ret (v := .tuple #[.agg #[.slice none 0 0], .bool false]) (by simp [results, Tryd.results25, go_sem]) rfl ⟨none, 0, rfl, World.ownsRow_nil _ _ _ _, ?_⟩
    repeat (first | exact Below.refl _ _ | refine Below.setCell ?_ (by simp) _ | refine Below.alloc ?_ (by simp) _)
  · rw [ofF_pos (by omega) (by omega)] at hF
    simp only [Prod.mk.injEq] at hF
    obtain ⟨hz, rfl⟩ := hF
    have HZ : Hid (bigL n = zs) := hz
    have HP : Hid (zs.length = p) := hp
    clear hz hp
    go_enter Tryd.func25, Tryd.ntmps25
    go_wp2
    go_loopw [0, 9] (fun nv i wr => ∃ (k : Nat) (x : Int) (R : List Int), k ≤ 6 ∧ i = .int .i64 k ∧ nv = .int .i64 x ∧ 0 ≤ x ∧ x ≤ 9223372036854775807 ∧ Hid (OfSt n k R x) ∧ Hid (OwnA 53 wr (w.heap.size + 1) R) ∧ wr.cell? ⟨w.heap.size, 0, none⟩ = some (.slice none 0 0) ∧ wr.frozen? ⟨w.heap.size, 0, none⟩ = false ∧ Hid (Below w.heap.size w wr)) (fun _ i _ => 6 - (intOf i).toNat)
    case atStart =>
      refine ⟨0, n, [0, 0, 0, 0, 0, 0], by omega, rfl, rfl, by omega, by omega, ⟨rfl, digs_replicate 6, rfl, by simp [val]⟩, ownA_at _ _ _ _ _ rfl (by simp) (by simp), by simp, by simp, below_two w _ _⟩
    case round =>
      obtain ⟨k, x, R, hk, rfl, rfl, x0, x1, hSt, hA, cR, fR, hB⟩ := hrel
      by_cases hlt : k < 6
      · have g1 := hA.out.cell k (by rw [hSt.out.1]; omega)
        have g3 := hA.out.free k
        generalize R.getD k 0 = y at g1
        have HS : Hid (OfSt n (k + 1) (R.set k (x % 65536)) (x / 65536)) := ofSt_step hlt x0 hSt.out
        have k0 : (0 : Int) ≤ (k : Int) := by omega
        have k6 : (k : Int) < 6 := by omega
        go_wp2
        go_roundw
        case rel => exact ⟨k + 1, x / 65536, R.set k (x % 65536), by omega, by go_num, rfl, by omega, by omega, HS, hA.out.stored k _, keep1 cR (by omega), by simpa using fR, hB.out.setCell (by simp) _⟩
        case measure => simp [intOf]; omega
      · obtain rfl : k = 6 := by omega
        have ht := ofSt_end (by omega) (by omega) x0 hSt.out
        obtain ⟨r0, r1, r2, r3, r4, r5, h6⟩ := list6 hSt.out.1
        rw [h6] at hA ht
        obtain ⟨q0, q1, q2, q3, q4, q5⟩ := hA.out.cells6
        have HT : Hid (trim [r0, r1, r2, r3, r4, r5] = zs) := ht.trans HZ.out
        have lR := World.block_lt_of_cell? _ _ cR
        clear hA h6 ht hSt
        go_wp2_with fail
        refine (bigFrom_c r0 r1 r2 r3 r4 r5 _ p (by rw [HT.out]; exact HP.out)).mono ?_
        rw [HT.out]
        rintro e w2 ⟨a2, c2, rfl, ho, hb⟩
        have HB2 : Hid (Below w.heap.size w w2) := hB.out.trans (hb.mono hB.out.size)
        have r2' : w2.cell? ⟨w.heap.size, 0, none⟩ = some (.slice none 0 0) := cell_keep (S := 0) hb cR
        have f2' : w2.frozen? ⟨w.heap.size, 0, none⟩ = false := fcell_keep hb lR fR
        have HO2 : Hid (Own w2 wr.heap.size (.slice a2 p c2) zs) := ho
        clear hb ho cR fR
        go_wp2
        refine bodyPost_ret (v := .tuple #[.agg #[.slice a2 p c2], .bool true]) (by simp [results, Tryd.results25, go_sem, r2']) rfl ⟨a2, c2, rfl, own_set_mono HO2.out (by omega) (by omega), HB2.out.setCell (by simp) _⟩

end Go.Proofs.YtaedplfihjfchaaDoor
