/- Chapter 12: slices.Compact at claims. -/
import Derived.Test.YtleddlfojogdiaaGreatBR14
import Derived.Test.YtleddlfojogdiaaGreatQC14
import Derived.Lib.SlicesCompact
import Derived.Lib.SliceRun
namespace Go.Proofs.YtleddlfojogdiaaGreat
set_option linter.unusedVariables false
set_option maxRecDepth 1000000
set_option linter.unusedSimpArgs false
open Go.RowKit Go.Sort Go.Lib

theorem own_short {w : World} {base e K g n cap k : Nat} {cs : List Value} (h : w.ownsRow base e K (.slice (some ⟨g, 0, none⟩) n cap) n cs) (hk : k ≤ n) : w.ownsRow base e K (.slice (some ⟨g, 0, none⟩) k cap) k (cs.take (k * K)) := by
  have hle : k * K ≤ n * K := Nat.mul_le_mul_right K hk
  rcases h.2 with ⟨e0, _⟩ | ⟨g', cap', cur, e0, hb, hg, hn, hm, hs, ht⟩
  · cases e0
  · injection e0 with e1 _ e3
    injection e1 with e1
    injection e1 with e1
    subst e1; subst e3
    refine ⟨by rw [List.length_take, h.1]; omega, .inr ⟨g, cap, cur, rfl, hb, hg, by omega, hm, hs, ?_⟩⟩
    rw [← ht, List.take_take, Nat.min_eq_left hle]

theorem cellsC_take (l : List Cl) (k : Nat) : (cellsC l).take (k * 3) = cellsC (l.take k) := by
  induction l generalizing k with
  | nil => simp [cellsC]
  | cons p l ih =>
    cases k with
    | zero => simp [cellsC]
    | succ k =>
      show List.take ((k + 1) * 3) (cellsC (p :: l)) = cellsC (p :: l.take k)
      rw [cellsC_cons, cellsC_cons, show (k + 1) * 3 = k * 3 + 1 + 1 + 1 by omega, List.take_succ_cons, List.take_succ_cons, List.take_succ_cons, ih]

theorem OwnC.short {w : World} {base g n cap k : Nat} {xs : List Cl} (h : OwnC w base (.slice (some ⟨g, 0, none⟩) n cap) xs) (hk : k ≤ n) : OwnC w base (.slice (some ⟨g, 0, none⟩) k cap) (xs.take k) := by
  have hx := h.rd'.1
  have h1 := own_short (OwnC.raw h hx) hk
  rw [cellsC_take] at h1
  exact OwnC.of h1 (by rw [List.length_take, hx]; omega)

/-- Stores behind the first k elements leave these. -/
theorem OwnC.cleared {w : World} {base g n cap k : Nat} {xs : List Cl} (h : OwnC w base (.slice (some ⟨g, 0, none⟩) n cap) xs) (hk : k ≤ n) (vs : List Value) (hv : k * 3 + vs.length ≤ n * 3) :
    OwnC (w.setCells g (0 + k * 3) vs) base (.slice (some ⟨g, 0, none⟩) k cap) (xs.take k) ∧ w.grownBy (w.setCells g (0 + k * 3) vs) (some g) := by
  have hx := h.rd'.1
  have hraw := OwnC.raw h hx
  have hH := row_holds hraw
  have hlen : (cellsC xs).length = n * 3 := by rw [cellsC_length, hx]
  have e0 : w = putRow id w g 0 (cellsC xs).toArray := (putRow_self id w g 0 _ hH).symm
  have e1 : w.setCells g (0 + k * 3) vs = putRow id w g 0 (setMany (cellsC xs).toArray (k * 3) vs) := by
    conv => lhs; rw [e0]
    exact setCells_putRow w g 0 vs (k * 3) _ (by simp only [List.size_toArray]; omega)
  have e2 : putRow id w g 0 (setMany (cellsC xs).toArray (k * 3) vs) = grow (putRow id (Sort.ahead w 0) g 0 (setMany (cellsC xs).toArray (k * 3) vs).toList.toArray) #[] := by
    rw [grow_empty]; rfl
  rw [e1, e2]
  have hp := row_put hraw (ts := (setMany (cellsC xs).toArray (k * 3) vs).toList) (by simp only [Array.length_toList, size_setMany, List.size_toArray]; exact hlen) 0 #[]
  refine ⟨?_, put_grown w g 0 _ #[]⟩
  have hs := own_short hp hk
  have e3 : (setMany (cellsC xs).toArray (k * 3) vs).toList.take (k * 3) = cellsC (xs.take k) := by
    rw [← cellsC_take]
    apply List.ext_getElem?
    intro t
    by_cases ht : t < k * 3
    · rw [List.getElem?_take_of_lt ht, List.getElem?_take_of_lt ht]
      have hsz : t < (cellsC xs).toArray.size := by simp only [List.size_toArray]; omega
      have hg := get_setMany vs (k * 3) (cellsC xs).toArray t hsz
      rw [if_neg (by omega)] at hg
      have hsz2 : t < (setMany (cellsC xs).toArray (k * 3) vs).size := by rw [size_setMany]; exact hsz
      rw [getElem!_pos _ t hsz2, getElem!_pos _ t hsz] at hg
      rw [Array.getElem?_toList, Array.getElem?_eq_getElem hsz2, hg]
      simp only [List.size_toArray] at hsz
      rw [List.getElem?_eq_getElem hsz]
      simp
    · rw [List.getElem?_eq_none (by rw [List.length_take]; omega), List.getElem?_eq_none (by rw [List.length_take]; omega)]
  rw [e3] at hs
  exact OwnC.of hs (by rw [List.length_take, hx]; omega)

/-- clear of some claims. -/
theorem run_clearC (w : World) (b o n c : Nat) (hn : 0 < n) (hc : ∀ j, j < n * 3 → (w.cell? ⟨b, o + j, none⟩).isSome = true) (hf : ∀ j, j < n * 3 → w.frozen? ⟨b, o + j, none⟩ = false) :
    ∃ vs : List Value, vs.length = n * 3 ∧ ∀ ty, (Builtin.clear_ #[23] ty #[.slice (some ⟨b, o, none⟩) n c]).run Tryz.prog w = .ok (.tuple #[]) (w.setCells b o vs) := by
  have hzs : (Builtin.zeroCells (Value.agg #[.int .i64 0, .int .i64 0, .int .i64 0]).cells n).size = n * 3 := by simp [Builtin.zeroCells, Value.cells]; try omega
  have hone : ∀ v ∈ (Builtin.zeroCells (Value.agg #[.int .i64 0, .int .i64 0, .int .i64 0]).cells n).toList, v.oneCell' = true := by
    intro v hv
    simp [Builtin.zeroCells, Value.cells] at hv
    obtain ⟨i, hi, rfl⟩ := hv
    rcases (by omega : i % 3 = 0 ∨ i % 3 = 1 ∨ i % 3 = 2) with e | e | e <;> simp [e] <;> rfl
  obtain ⟨i0, hi, hz0, hz1, hz2⟩ := info_parts Tryz.infoClaim
  have hzv : ∀ w, (zeroValue 32).run Tryz.prog w = .ok (.agg #[.int .i64 0, .int .i64 0, .int .i64 0]) w := fun w => by kernel_rfl
  have hst := run_storeCells_cells (P := Tryz.prog) b o (Builtin.zeroCells (Value.agg #[.int .i64 0, .int .i64 0, .int .i64 0]).cells n).toList 0 w (by simpa [hzs] using hc) (by simpa [hzs] using hf) hone
  simp only [Nat.add_zero] at hst
  refine ⟨(Builtin.zeroCells (Value.agg #[.int .i64 0, .int .i64 0, .int .i64 0]).cells n).toList, by simpa using hzs, fun ty => ?_⟩
  obtain ⟨m, rfl⟩ : ∃ m, n = m + 1 := ⟨n - 1, by omega⟩
  simp [Builtin.clear_, run_underlying Tryz.underlying23, hzv, hst]

/-- Some of the places are kept: those whose claim differs from the one ahead of it. -/
def keptC (l : List Cl) : List Cl := compactUpTo l.toArray l.length

theorem atC {l : List Cl} {j : Nat} (h : j < l.length) : l.toArray[j]! = l.getD j (0, 0, 0) := by simp [List.getD, h]

/-- A claim is stored into a row of the call's own. -/
theorem OwnC.store3 {w : World} {base g n c k : Nat} {L : List Cl} (h : OwnC w base (.slice (some ⟨g, 0, none⟩) n c) L) (hk : k < n) (x0 x1 x2 : Int) :
    ∃ (u0 u1 u2 : Int) (V0 V1 V2 : World), w.setCell ⟨g, k * 3, none⟩ (.int .i64 x0) = V0 ∧ V0.setCell ⟨g, k * 3 + 1, none⟩ (.int .i64 x1) = V1 ∧ V1.setCell ⟨g, k * 3 + 2, none⟩ (.int .i64 x2) = V2 ∧
      w.cell? ⟨g, k * 3, none⟩ = some (.int .i64 u0) ∧ V0.cell? ⟨g, k * 3 + 1, none⟩ = some (.int .i64 u1) ∧ V1.cell? ⟨g, k * 3 + 2, none⟩ = some (.int .i64 u2) ∧
      w.frozen? ⟨g, k * 3, none⟩ = false ∧ V0.frozen? ⟨g, k * 3 + 1, none⟩ = false ∧ V1.frozen? ⟨g, k * 3 + 2, none⟩ = false ∧
      OwnC V2 base (.slice (some ⟨g, 0, none⟩) n c) (L.set k (x0, x1, x2)) ∧ w.grownBy V2 (some g) := by
  have hl := h.rd'.1
  have h0 := OwnC.raw h hl
  have c1 := cellsC_at L k (by omega)
  have st0 := World.ownsRow.stored h0 (k * 3) (.int .i64 x0)
  have st1 := World.ownsRow.stored st0.1 (k * 3 + 1) (.int .i64 x1)
  have st2 := World.ownsRow.stored st1.1 (k * 3 + 2) (.int .i64 x2)
  refine ⟨(L.getD k (0, 0, 0)).1, (L.getD k (0, 0, 0)).2.1, (L.getD k (0, 0, 0)).2.2, (w.setCell ⟨g, k * 3, none⟩ (.int .i64 x0)), ((w.setCell ⟨g, k * 3, none⟩ (.int .i64 x0)).setCell ⟨g, k * 3 + 1, none⟩ (.int .i64 x1)), (((w.setCell ⟨g, k * 3, none⟩ (.int .i64 x0)).setCell ⟨g, k * 3 + 1, none⟩ (.int .i64 x1)).setCell ⟨g, k * 3 + 2, none⟩ (.int .i64 x2)), rfl, rfl, rfl, ?_, ?_, ?_, World.ownsRow.frozenAt h0 _, World.ownsRow.frozenAt st0.1 _, World.ownsRow.frozenAt st1.1 _, ?_, grown_trans (grown_trans st0.2 st1.2) st2.2⟩
  · rw [World.ownsRow.cellAt h0 (k * 3) (by omega)]; exact c1.1
  · rw [World.ownsRow.cellAt st0.1 (k * 3 + 1) (by omega), List.getElem?_set_ne (by omega)]; exact c1.2.1
  · rw [World.ownsRow.cellAt st1.1 (k * 3 + 2) (by omega), List.getElem?_set_ne (by omega), List.getElem?_set_ne (by omega)]; exact c1.2.2
  · have h3 := st2.1
    rw [cellsC_set] at h3
    exact OwnC.of h3 (by rw [List.length_set]; exact hl)

theorem kept_of {xs : List Cl} {m p : Nat} {dk : Array Cl} (h : CompInv xs.toArray m p dk) (hm : m = xs.length) : dk.toList.take p = keptC xs := by
  have hs := h.size
  simp only [List.size_toArray] at hs
  have hl := h.lt
  unfold keptC
  rw [← hm]
  apply List.ext_getElem?
  intro j
  by_cases hj : j < p
  · rw [List.getElem?_take_of_lt hj, h.low j hj, Array.getElem?_toList, Array.getElem?_eq_getElem (by omega), getElem!_pos dk j (by omega)]
  · rw [List.getElem?_eq_none (by rw [List.length_take]; omega), List.getElem?_eq_none (by rw [h.len]; omega)]

theorem grown_drewN (w : World) (q : Nat) (r : Option Nat) : w.grownBy (w.drewN q) r := ⟨rfl, rfl, rfl, Nat.le_refl _, fun _ _ _ => rfl⟩

set_option maxHeartbeats 8000000 in
theorem compactC_c (g n cap base : Nat) (xs : List Cl) (w : World) (hn : n ≤ 60) (hx : xs.length = n) (ho : OwnC w base (.slice (some ⟨g, 0, none⟩) n cap) xs) :
    Calls Tryz.prog 75 #[.slice (some ⟨g, 0, none⟩) n cap] w fun e w' => ∃ m, e = .returned (.slice (some ⟨g, 0, none⟩) m cap) ∧ OwnC w' base (.slice (some ⟨g, 0, none⟩) m cap) (keptC xs) ∧ w.grownBy w' (some g) := by
  have hgw : g < w.heap.size := (World.ownsRow.lt ho g rfl).2
  have hcap : n ≤ cap := ho.cap
  by_cases h2 : n < 2
  · have h2i : (n : Int) < 2 := by omega
    have e : keptC xs = xs := by
      refine compact_all xs (fun j hj => ?_)
      exact keeps_lt_one _ j (by omega)
    go_enter Tryz.func75, Tryz.ntmps75
    go_wp2
    go_ret
    exact ⟨n, rfl, by rw [e]; exact ho, World.grownBy.refl _ _⟩
  have h2i : ¬ (n : Int) < 2 := by omega
  have HX : Hid (xs.length = n) := hx
  have HO : Hid (OwnC w base (.slice (some ⟨g, 0, none⟩) n cap) xs) := ho
  clear hx ho
  go_enter Tryz.func75, Tryz.ntmps75
  go_wp2
  go_loopw [3] (fun kv wq => ∃ k : Nat, 1 ≤ k ∧ k ≤ n ∧ kv = .int .i64 k ∧ Hid (∀ j, j < k → keeps xs.toArray j = true) ∧ Hid (∃ q, wq = w.drewN q)) (fun kv _ => n - (intOf kv).toNat)
  case atStart => exact ⟨1, Nat.le_refl _, by omega, rfl, fun j h => keeps_lt_one _ j h, 0, rfl⟩
  case round =>
    obtain ⟨k, hk1, hk, rfl, HK, HW⟩ := hrel
    obtain ⟨q0, hq0⟩ := HW.out
    have HOr : Hid (OwnC wr base (.slice (some ⟨g, 0, none⟩) n cap) xs) := by show OwnC _ _ _ _; rw [hq0]; exact HO.out.later (below_drewM (Below.refl _ _) _)
    have HGr : Hid (w.grownBy wr (some g)) := by show World.grownBy _ _ _; rw [hq0]; exact ⟨rfl, rfl, rfl, Nat.le_refl _, fun _ _ _ => rfl⟩
    have HQ0 : Hid (wr = w.drewN q0) := hq0
    clear hq0
    by_cases hlt : k < n
    · have hl1 : (k : Int) < (n : Int) := by omega
      have hl0 : (0 : Int) ≤ (k : Int) := by omega
      have hm0 : (0 : Int) ≤ (k : Int) - 1 := by omega
      have hm1 : (k : Int) - 1 < (n : Int) := by omega
      obtain ⟨km, hkm⟩ : ∃ km : Nat, k = km + 1 := ⟨k - 1, by omega⟩
      have hkmI : (k : Int) - 1 = (km : Int) := by omega
      have hraw := OwnC.raw HOr.out HX.out
      have c1 := OwnC.cell (g := g) (cap := cap) (xs := xs) (by rw [HX.out]; exact HOr.out) k (by rw [HX.out]; exact hlt)
      have c0 := OwnC.cell (g := g) (cap := cap) (xs := xs) (by rw [HX.out]; exact HOr.out) km (by rw [HX.out]; omega)
      have HE : Hid (xs.getD k (0, 0, 0) = xs.getD km (0, 0, 0) → keeps xs.toArray k = false) := fun h => keeps_neg (by omega) (by rw [atC (by rw [HX.out]; omega), atC (by rw [HX.out]; omega), show k - 1 = km by omega]; exact h)
      have HN : Hid (xs.getD k (0, 0, 0) ≠ xs.getD km (0, 0, 0) → keeps xs.toArray k = true) := fun h => keeps_pos (by rw [atC (by rw [HX.out]; omega), atC (by rw [HX.out]; omega), show k - 1 = km by omega]; exact h)
      generalize xs.getD k (0, 0, 0) = y at c1 HE HN
      generalize xs.getD km (0, 0, 0) = z at c0 HE HN
      obtain ⟨y0, y1, y2⟩ := y
      obtain ⟨z0, z1, z2⟩ := z
      obtain ⟨c10, c11, c12⟩ := c1
      obtain ⟨c00, c01, c02⟩ := c0
      simp only at c10 c11 c12 c00 c01 c02
      by_cases he : (y0, y1, y2) = (z0, z1, z2)
      · have hrun : ∀ wx, (binOp .eql 32 (.agg #[.int .i64 y0, .int .i64 y1, .int .i64 y2]) (.agg #[.int .i64 z0, .int .i64 z1, .int .i64 z2])).run Tryz.prog wx = .ok (.bool true) wx := fun wx => by rw [run_eql_cl, decide_eq_true he]
        have HINV : Hid (CompInv xs.toArray (k + 1) k xs.toArray) := CompInv.start HK.out (HE.out he)
        have hck : ¬ cap = k := by omega
        have hkc : k ≤ cap := by omega
        clear hkm hraw HE HN he HK HW
        go_wp2_with fail
        go_quiet (fail)
        obtain ⟨w3, hw3⟩ : ∃ Y, wr.drewN nq = Y := ⟨_, rfl⟩
        have HO3 : Hid (OwnC w3 base (.slice (some ⟨g, 0, none⟩) n cap) xs) := by show OwnC _ _ _ _; rw [← hw3]; exact HOr.out.later (below_drewM (Below.refl _ _) _)
        have HG3 : Hid (w.grownBy w3 (some g)) := by show World.grownBy _ _ _; rw [← hw3]; exact grown_trans HGr.out (grown_drewN _ _ _)
        rw [hw3]
        clear hw3 hrun c10 c11 c12 c00 c01 c02 HOr HGr hm0 hm1 hkmI
        go_wp2
        go_loopw [3, 5] (fun kv jv wq => ∃ (p m : Nat) (dk : Array Cl), k < m ∧ m ≤ n ∧ p < m ∧ kv = .int .i64 p ∧ jv = .int .i64 ((m - k : Nat) : Int) ∧ Hid (CompInv xs.toArray m p dk) ∧ Hid (OwnC wq base (.slice (some ⟨g, 0, none⟩) n cap) dk.toList) ∧ Hid (w.grownBy wq (some g))) (fun _ jv _ => n - k - (intOf jv).toNat)
        case atStart => exact ⟨k, k + 1, xs.toArray, by omega, by omega, by omega, rfl, by rw [show k + 1 - k = 1 by omega]; rfl, HINV.out, by show OwnC _ _ _ _; simpa using HO3.out, HG3.out⟩
        case round =>
          obtain ⟨p, m, dk, hm1, hm2, hpm, rfl, rfl, HI, HOd, HGd⟩ := hrel
          have hsz : dk.size = n := by have := HI.out.size; simp only [List.size_toArray] at this; rw [this, HX.out]
          obtain ⟨e, he⟩ : ∃ e, m = k + (e + 1) := ⟨m - k - 1, by omega⟩
          have hem : m - k = e + 1 := by omega
          rw [hem]
          by_cases hmn : m < n
          · have hl2 : (e : Int) + 1 < ((n - k : Nat) : Int) := by omega
            have hl5 : (e : Int) < ((n - k : Nat) : Int) := by omega
            have hp0 : (0 : Int) ≤ (p : Int) := by omega
            have hpn : (p : Int) < (n : Int) := by omega
            have hpn2 : p < n := by omega
            have hl3 : e + 1 < n - k := by omega
            have hl4 : e < n - k := by omega
            have hdl : dk.toList.length = n := by simpa using hsz
            have d1 := OwnC.cell (g := g) (cap := cap) (xs := dk.toList) (by rw [hdl]; exact HOd.out) m (by rw [hdl]; exact hmn)
            have d0 := OwnC.cell (g := g) (cap := cap) (xs := dk.toList) (by rw [hdl]; exact HOd.out) (k + e) (by rw [hdl]; omega)
            have ev1 : dk.toList.getD m (0, 0, 0) = xs.toArray[m]! := by rw [← HI.out.high m (by omega)]; simp [List.getD, show m < dk.size by omega]
            have ev0 : dk.toList.getD (k + e) (0, 0, 0) = xs.toArray[m - 1]! := by rw [show m - 1 = k + e by omega, ← HI.out.high (k + e) (by omega)]; simp [List.getD, show k + e < dk.size by omega]
            rw [ev1] at d1
            rw [ev0] at d0
            rw [he, Nat.add_mul] at d1
            rw [Nat.add_mul] at d0
            have HKP : Hid (xs.toArray[m]! ≠ xs.toArray[m - 1]! → CompInv xs.toArray (m + 1) (p + 1) (dk.setIfInBounds p xs.toArray[m]!)) := fun h => HI.out.keep (by simp only [List.size_toArray]; rw [HX.out]; exact hmn) (keeps_pos h)
            have HSK : Hid (xs.toArray[m]! = xs.toArray[m - 1]! → CompInv xs.toArray (m + 1) p dk) := fun h => HI.out.skip (keeps_neg (by omega) h)
            rw [he] at HKP HSK ev1
            generalize xs.toArray[k + (e + 1)]! = y at d1 HKP HSK
            have hz1 : k + (e + 1) - 1 = k + e := by omega
            rw [hz1] at HKP HSK
            rw [show m - 1 = k + e by omega] at d0
            generalize xs.toArray[k + e]! = z at d0 HKP HSK
            subst he
            obtain ⟨y0, y1, y2⟩ := y
            obtain ⟨z0, z1, z2⟩ := z
            obtain ⟨d10, d11, d12⟩ := d1
            obtain ⟨d00, d01, d02⟩ := d0
            simp only at d10 d11 d12 d00 d01 d02
            have hei : (0 : Int) ≤ (e : Int) := by omega
            clear hz1 ev1 ev0 hdl HI
            have HNR : Hid (∀ wx, (binOp .neq 32 (.agg #[.int .i64 y0, .int .i64 y1, .int .i64 y2]) (.agg #[.int .i64 z0, .int .i64 z1, .int .i64 z2])).run Tryz.prog wx = .ok (.bool (!decide ((y0, y1, y2) = (z0, z1, z2)))) wx) := fun wx => run_neq_cl _ _ _ _ _ _ wx
            by_cases hyz : (y0, y1, y2) = (z0, z1, z2)
            · have hrun : ∀ wx, (binOp .neq 32 (.agg #[.int .i64 y0, .int .i64 y1, .int .i64 y2]) (.agg #[.int .i64 z0, .int .i64 z1, .int .i64 z2])).run Tryz.prog wx = .ok (.bool false) wx := fun wx => by rw [HNR.out, decide_eq_true hyz]; rfl
              have HC2 : Hid (CompInv xs.toArray (k + (e + 1) + 1) p dk) := HSK.out hyz
              clear hyz HNR HKP HSK
              go_wp2_with fail
              go_quiet (fail)
              obtain ⟨w5, hw5⟩ : ∃ Y, wr.drewN nq = Y := ⟨_, rfl⟩
              have HO5 : Hid (OwnC w5 base (.slice (some ⟨g, 0, none⟩) n cap) dk.toList) := by show OwnC _ _ _ _; rw [← hw5]; exact HOd.out.later (below_drewM (Below.refl _ _) _)
              have HG5 : Hid (w.grownBy w5 (some g)) := by show World.grownBy _ _ _; rw [← hw5]; exact grown_trans HGd.out (grown_drewN _ _ _)
              rw [hw5]
              clear hw5 hrun
              go_wp2
              go_roundw
              case rel => exact ⟨p, k + (e + 1) + 1, dk, by omega, by omega, by omega, rfl, by rw [show k + (e + 1) + 1 - k = e + 1 + 1 by omega]; go_num, HC2, HO5, HG5⟩
              case measure => simp [intOf]; omega
            · have hrun : ∀ wx, (binOp .neq 32 (.agg #[.int .i64 y0, .int .i64 y1, .int .i64 y2]) (.agg #[.int .i64 z0, .int .i64 z1, .int .i64 z2])).run Tryz.prog wx = .ok (.bool true) wx := fun wx => by rw [HNR.out, decide_eq_false hyz]; rfl
              have HC2 : Hid (CompInv xs.toArray (k + (e + 1) + 1) (p + 1) (dk.setIfInBounds p (y0, y1, y2))) := HKP.out hyz
              clear hyz HNR HKP HSK
              go_wp2_with fail
              go_quiet (fail)
              obtain ⟨w5, hw5⟩ : ∃ Y, wr.drewN nq = Y := ⟨_, rfl⟩
              have HO5 : Hid (OwnC w5 base (.slice (some ⟨g, 0, none⟩) n cap) dk.toList) := by show OwnC _ _ _ _; rw [← hw5]; exact HOd.out.later (below_drewM (Below.refl _ _) _)
              have HG5 : Hid (w.grownBy w5 (some g)) := by show World.grownBy _ _ _; rw [← hw5]; exact grown_trans HGd.out (grown_drewN _ _ _)
              have k0 : w5.cell? ⟨g, k * 3 + (e + 1) * 3, none⟩ = some (.int .i64 y0) := by rw [← hw5]; exact d10
              have k1 : w5.cell? ⟨g, k * 3 + (e + 1) * 3 + 1, none⟩ = some (.int .i64 y1) := by rw [← hw5]; exact d11
              have k2 : w5.cell? ⟨g, k * 3 + (e + 1) * 3 + 2, none⟩ = some (.int .i64 y2) := by rw [← hw5]; exact d12
              rw [hw5]
              clear hw5 hrun d10 d11 d12 d00 d01 d02
              obtain ⟨u0, u1, u2, V0, V1, V2, hV0, hV1, hV2, s0, s1, s2, f0, f1, f2, hOs, hGs⟩ := HO5.out.store3 hpn2 y0 y1 y2
              have HO6 : Hid (OwnC V2 base (.slice (some ⟨g, 0, none⟩) n cap) (dk.setIfInBounds p (y0, y1, y2)).toList) := by show OwnC _ _ _ _; rw [Array.toList_setIfInBounds]; exact hOs
              have HG6 : Hid (w.grownBy V2 (some g)) := grown_trans HG5.out hGs
              clear hOs hGs
              go_wp2
              go_roundw
              case rel => exact ⟨p + 1, k + (e + 1) + 1, dk.setIfInBounds p (y0, y1, y2), by omega, by omega, by omega, by go_num, by rw [show k + (e + 1) + 1 - k = e + 1 + 1 by omega]; go_num, HC2, HO6, HG6⟩
              case measure => simp [intOf]; omega
          · have hx1 : ¬ (e : Int) + 1 < ((n - k : Nat) : Int) := by omega
            have hx2 : ¬ e + 1 < n - k := by omega
            have hmx : m = n := by omega
            have hnp : p < n := by omega
            have hdl : dk.toList.length = n := by simpa using hsz
            have hrawd := OwnC.raw HOd.out hdl
            obtain ⟨vs, hvl, hclr⟩ := run_clearC wr g (p * 3) (n - p) (cap - p) (by omega) (fun j hj => by rw [World.ownsRow.cellAt hrawd (p * 3 + j) (by omega)]; rw [List.getElem?_eq_getElem (by rw [cellsC_length, hdl]; omega)]; rfl) (fun j hj => World.ownsRow.frozenAt hrawd _)
            obtain ⟨hcl, hcg⟩ := HOd.out.cleared (k := p) (by omega) vs (by omega)
            rw [Nat.zero_add] at hcl hcg
            obtain ⟨FW, hFW⟩ : ∃ F, wr.setCells g (p * 3) vs = F := ⟨_, rfl⟩
            rw [hFW] at hcl hcg hclr
            rw [kept_of HI.out (by rw [HX.out]; exact hmx)] at hcl
            have HOF : Hid (OwnC FW base (.slice (some ⟨g, 0, none⟩) p cap) (keptC xs)) := hcl
            have HGF : Hid (w.grownBy FW (some g)) := grown_trans HGd.out hcg
            have hcp : ¬ cap = p := by omega
            have hpc : p ≤ cap := by omega
            have hpn3 : (p : Int) ≤ (n : Int) := by omega
            clear hmx hdl hrawd hvl hFW hcl hcg he HI HOd HGd
            go_wp2
            go_ret
            exact ⟨p, rfl, HOF.out, HGF.out⟩
      · have hrun : ∀ wx, (binOp .eql 32 (.agg #[.int .i64 y0, .int .i64 y1, .int .i64 y2]) (.agg #[.int .i64 z0, .int .i64 z1, .int .i64 z2])).run Tryz.prog wx = .ok (.bool false) wx := fun wx => by rw [run_eql_cl, decide_eq_false he]
        have HKn := HN.out he
        have HK2 : Hid (∀ j, j < k + 1 → keeps xs.toArray j = true) := fun j hj => by
          by_cases e : j = k
          · rw [e]; exact HKn
          · exact HK.out j (by omega)
        clear hkm hraw HE HN he HKn HK HOr HGr HW
        go_wp2_with fail
        go_quiet (fail)
        go_wp2
        go_roundw
        case rel => exact ⟨k + 1, by omega, by omega, by go_num, HK2, q0 + nq, by rw [HQ0.out]; simp⟩
        case measure => simp [intOf]; omega
    · obtain rfl : k = n := by omega
      have hx : ¬ (k : Int) < (k : Int) := by omega
      have e : keptC xs = xs := compact_all xs (fun j hj => HK.out j (by rw [HX.out] at hj; exact hj))
      clear HW
      go_wp2
      go_ret
      exact ⟨k, rfl, HOr.out, HGr.out⟩

end Go.Proofs.YtleddlfojogdiaaGreat
