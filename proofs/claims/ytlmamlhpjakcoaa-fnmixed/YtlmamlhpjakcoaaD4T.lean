/- What the law on texts draws: keys, a start, a text. -/
import Derived.Test.YtlmamlhpjakcoaaD4B
import Derived.Test.YtlmamlhpjakcoaaD4O
import Derived.Test.YtlmamlhpjakcoaaTS4
import Derived.Deep.RegionHeld3
namespace Go.Proofs.Ytlmamlhpjakcoaa
set_option linter.unusedVariables false
set_option linter.unusedSimpArgs false
open Go.RowKit

theorem any_listed {P : Program} {md : Region.Mode} {ops : Array Oper} {Q : Exit → Act → World → Prop} {S : World → Prop} {fuel : Nat} {l l' : Array Bool} {a : Act} {w : World} (e : l = l') (h : wpAnyH P md ops Q S fuel l' a w) : wpAnyH P md ops Q S fuel l a w := by
  subst e; exact h
theorem keptU {w w' : World} {g : Nat} {v : Value} {xs : List Int} (h : OwnU w (g + 1) v xs) (hg : GB g w w') : OwnU w' (g + 1) v xs := by
  refine World.ownsRow.kept h hg ?_
  rcases hb : v.ownBlock with _ | b
  · exact Or.inl rfl
  · exact Or.inr (fun e => by have := (World.ownsRow.lt h b hb).1; simp at e; omega)
theorem hr_gb {x y : World} {g r : Nat} (h : r ≠ g ∧ r < x.heap.size ∧ ∀ j, j < 6 → ∃ s : ByteArray, x.cell? ⟨r, j, none⟩ = some (.string s) ∧ s.size ≤ 100) (hg : GB g x y) : r ≠ g ∧ r < y.heap.size ∧ ∀ j, j < 6 → ∃ s : ByteArray, y.cell? ⟨r, j, none⟩ = some (.string s) ∧ s.size ≤ 100 := by
  refine ⟨h.1, Nat.lt_of_lt_of_le h.2.1 hg.size, fun j hj => ?_⟩
  obtain ⟨s, h1, h2⟩ := h.2.2 j hj
  exact ⟨s, hg.cell (a := ⟨r, j, none⟩) h1 (by simpa using h.1), h2⟩
theorem hr_bel {x y : World} {g r : Nat} (h : r ≠ g ∧ r < x.heap.size ∧ ∀ j, j < 6 → ∃ s : ByteArray, x.cell? ⟨r, j, none⟩ = some (.string s) ∧ s.size ≤ 100) (hb : Below x.heap.size x y) : r ≠ g ∧ r < y.heap.size ∧ ∀ j, j < 6 → ∃ s : ByteArray, y.cell? ⟨r, j, none⟩ = some (.string s) ∧ s.size ≤ 100 := by
  refine ⟨h.1, Nat.lt_of_lt_of_le h.2.1 hb.size, fun j hj => ?_⟩
  obtain ⟨s, h1, h2⟩ := h.2.2 j hj
  exact ⟨s, by rw [hb.cell (p := ⟨r, j, none⟩) h.2.1]; exact h1, h2⟩
theorem below_none {x y : World} (h : x.grownBy y none) : Below x.heap.size x y := ⟨h.os, h.tape, h.output, h.size, fun k hk => h.block k hk (by simp)⟩
theorem made_bytes {w : World} {base q g : Nat} (h : w.ownsRow base 5 1 (.slice (some ⟨g, 0, none⟩) q q) q (madeCells (Value.int .u8 0).cells (q * 1)).toList) : OwnU w base (.slice (some ⟨g, 0, none⟩) q q) (List.replicate q 0) := by
  have e : (madeCells (Value.int .u8 0).cells (q * 1)).toList = cellsU (List.replicate q 0) := by
    rw [Nat.mul_one]
    exact (toList_madeCells_one _ _).trans (by simp [cellsU])
  unfold OwnU
  rw [List.length_replicate, ← e]
  exact h
theorem size40 : (strOfNums (List.replicate 40 0)).size ≤ 100 := by decide +kernel
theorem size42 : (strOfNums (List.replicate 42 0)).size ≤ 100 := by decide +kernel

/-- Keys, a start, a text. -/
def DrawnMT (B : Nat) (e : Ending) (w' : World) : Prop := ∃ a1 q c1 zs b s, e = .returned (.tuple #[.slice a1 q c1, .int .i64 b, .string s]) ∧ q ≤ 9 ∧ zs.length = q ∧ Own w' B (.slice a1 q c1) zs ∧ s.size ≤ 100

theorem takeMT {P : Program} {ops : Array Oper} {Q : Exit → Act → World → Prop} {md : Region.Mode} {S : World → Prop} {i : Nat} {oi : Oper} {v : Value} {d : Option Tmp} {fuel : Nat} {listed : Array Bool} {a : Act} {w : World} (hi : ops[i]? = some oi) (hd : oi.dst = d)
    (hs : Region.noSelect ops = true) (hf : Region.free md ops listed i = true) (hr : (Region.ready md ops listed).contains i = true)
    (hQ : ∀ c a w, Q (.panic c) (a.put d v) w → Q (.panic c) a w) (hy : YieldsIf P ops S oi v a) (hS : S w)
    (h : wpAnyH P md ops Q S fuel (listed.setIfInBounds i true) (a.put d v) w) : wpAnyH P md ops Q S (fuel + 1) listed a w := by
  subst hd
  exact wpAnyH_take hi hs hf hr hQ hy hS h

set_option maxHeartbeats 16000000 in
set_option maxRecDepth 1000000 in
theorem drawMixText_c (ao : Option Addr) (n c : Nat) (w : World) (hn : n ≤ 9223372036854775807) (h : CodeOk w w.heap.size ao n) :
    Calls Try.prog 19 #[.slice ao n c] w fun e w' => DrawnMT w.heap.size e w' ∧ Below w.heap.size w w' := by
  obtain ⟨i0, hi, ii0, ii1, ii2⟩ := info_parts Try.infoByte
  have C0 : Hid (Cur (w.alloc (.cells #[.slice ao n c, .int .i64 0, .int .u64 0] 62)) w.heap.size ao n c 0) := cur_new _ hn h
  have G0 : Hid (GB w.heap.size w (w.alloc (.cells #[.slice ao n c, .int .i64 0, .int .u64 0] 62))) := (GB.refl _ _).alloc _
  clear h
  go_enter Try.func19, Try.ntmps19
  go_wp2
  refine wp_region_held_drew (S := fun _ => True) (by kernel_rfl) trivial (fun hHeld => ?_)
  have CX : Hid (Cur (w.alloc (.cells #[.slice ao n c, .int .i64 0, .int .u64 0] 62)).drew w.heap.size ao n c 0) := C0.out.later (Below.refl _ _).drew
  have GX : Hid (GB w.heap.size w (w.alloc (.cells #[.slice ao n c, .int .i64 0, .int .u64 0] 62)).drew) := G0.out.drew
  generalize (w.alloc (.cells #[.slice ao n c, .int .i64 0, .int .u64 0] 62)).drew = x0 at CX GX ⊢
  clear C0 G0
  refine takeMT (i := 0) (oi := _) (v := ?_) (d := some 9) rfl (by kernel_rfl) (by kernel_rfl) (by kernel_rfl) (by kernel_rfl) (fun _ _ _ h => h) (Or.inl ⟨by rfl, ?_⟩) (by assumption) ?_
  rotate_left
  · (intro w hSw; (try dsimp only at hSw); go_simp <;> with_reducible rfl)
  try simp only [Act.put, List.setIfInBounds_toArray, List.set_cons_zero, List.set_cons_succ]
  refine takeMT (i := 2) (oi := _) (v := ?_) (d := some 11) rfl (by kernel_rfl) (by kernel_rfl) (by kernel_rfl) (by kernel_rfl) (fun _ _ _ h => h) (Or.inl ⟨by rfl, ?_⟩) (by assumption) ?_
  rotate_left
  · (intro w hSw; (try dsimp only at hSw); go_simp <;> with_reducible rfl)
  try simp only [Act.put, List.setIfInBounds_toArray, List.set_cons_zero, List.set_cons_succ]
  refine takeMT (i := 4) (oi := _) (v := ?_) (d := some 13) rfl (by kernel_rfl) (by kernel_rfl) (by kernel_rfl) (by kernel_rfl) (fun _ _ _ h => h) (Or.inl ⟨by rfl, ?_⟩) (by assumption) ?_
  rotate_left
  · (intro w hSw; (try dsimp only at hSw); go_simp <;> with_reducible rfl)
  try simp only [Act.put, List.setIfInBounds_toArray, List.set_cons_zero, List.set_cons_succ]
  refine any_listed (l' := #[true, false, true, false, true, false, false, false, false, false, false, false, false, false]) (by kernel_rfl) ?_
  show wpAnyH _ ?zzmd ?zzops ?zzQ ?zzS 11 _ _ _
  have H2221 : ∀ (x : World) (a1 : Option Addr) (q c1 : Nat) (zs : List Int) (b : Int) (v14 : Value) (s15 : ByteArray) (v16 : Value) (s17 : ByteArray) (r : Nat), Hid (Cur x w.heap.size ao n c 110) → Hid (GB w.heap.size w x) → Hid (zs.length = q ∧ q ≤ 9 ∧ Own x (w.heap.size + 1) (.slice a1 q c1) zs) → Hid (s15.size ≤ 100) → Hid (s17.size ≤ 100) → Hid (r ≠ w.heap.size ∧ r < x.heap.size ∧ ∀ j, j < 6 → ∃ s : ByteArray, x.cell? ⟨r, j, none⟩ = some (.string s) ∧ s.size ≤ 100) → wpAnyH Try.prog ?zzmd ?zzops ?zzQ ?zzS 4 #[true, true, true, true, true, true, true, true, true, true, false, false, false, false] { tmps := #[.slice ao n c, undef, .slice none 0 0, .int .i64 0, .string (ByteArray.mk #[]), .pointer (some ⟨w.heap.size, 0, none⟩), .slice ao n c, .agg #[.slice ao n c, .int .i64 0, .int .u64 0], .pointer (some ⟨w.heap.size, 0, none⟩), .pointer (some ⟨w.heap.size, 0, none⟩), .slice a1 q c1, .pointer (some ⟨w.heap.size, 0, none⟩), .int .i64 b, .pointer (some ⟨w.heap.size, 0, none⟩), v14, .string s15, v16, .string s17, .slice (some ⟨r, 0, none⟩) 6 6, undef], defers := [] } x := by
    intro x a1 q c1 zs b v14 s15 v16 s17 r C G KZ P2 R2 HR
    have hxl : w.heap.size < x.heap.size := C.out.lt
    refine wpAnyH_ready (rs := [10]) (by kernel_rfl) (by simp) ?_
    refine AllReadyH.cons (o := _) rfl (fun K hK => ?_) AllReadyH.nil
    · skip
      go_simp
      refine (of_c w.heap.size ao n c 110 r 6 _ (by omega) (by omega) HR.out.2.2 HR.out.1 C.out).mono ?_
      rintro e y ⟨s, rfl, hss, hc1, hg1⟩
      have KY : Hid (Own y (w.heap.size + 1) (.slice a1 q c1) zs) := KZ.out.2.2.kept hg1 (sep_own KZ.out.2.2 (by omega))
      have GY : Hid (GB w.heap.size w y) := G.out.trans hg1
      have hT : True := trivial
      refine hK.out _ _ trivial (fun _ => ?_)
      try simp only [Act.put, List.setIfInBounds_toArray, List.set_cons_zero, List.set_cons_succ]
      refine takeMT (i := 11) (oi := _) (v := ?_) (d := some 2) rfl (by kernel_rfl) (by kernel_rfl) (by kernel_rfl) (by kernel_rfl) (fun _ _ _ h => h) (Or.inl ⟨by rfl, ?_⟩) (by assumption) ?_
      rotate_left
      · (intro w hSw; (try dsimp only at hSw); go_simp <;> with_reducible rfl)
      try simp only [Act.put, List.setIfInBounds_toArray, List.set_cons_zero, List.set_cons_succ]
      refine takeMT (i := 12) (oi := _) (v := ?_) (d := some 3) rfl (by kernel_rfl) (by kernel_rfl) (by kernel_rfl) (by kernel_rfl) (fun _ _ _ h => h) (Or.inl ⟨by rfl, ?_⟩) (by assumption) ?_
      rotate_left
      · (intro w hSw; (try dsimp only at hSw); go_simp <;> with_reducible rfl)
      try simp only [Act.put, List.setIfInBounds_toArray, List.set_cons_zero, List.set_cons_succ]
      refine takeMT (i := 13) (oi := _) (v := ?_) (d := some 4) rfl (by kernel_rfl) (by kernel_rfl) (by kernel_rfl) (by kernel_rfl) (fun _ _ _ h => h) (Or.inl ⟨by rfl, ?_⟩) (by assumption) ?_
      rotate_left
      · (intro w hSw; (try dsimp only at hSw); go_simp <;> with_reducible rfl)
      try simp only [Act.put, List.setIfInBounds_toArray, List.set_cons_zero, List.set_cons_succ]
      refine wpAnyH_done (by kernel_rfl) ?_ _
      go_wp2
      refine bodyPost_ret (v := .tuple #[.slice a1 q c1, .int .i64 b, .string s]) (by simp [results, Try.results19, go_sem]) rfl ⟨⟨a1, q, c1, zs, b, s, rfl, KZ.out.2.1, KZ.out.1, KY.out.mono (by omega), hss⟩, GY.out.below (Nat.le_refl _) (Nat.le_refl _)⟩
  have H1221 : ∀ (x : World) (a1 : Option Addr) (q c1 : Nat) (zs : List Int) (v14 : Value) (s15 : ByteArray) (v16 : Value) (s17 : ByteArray) (r : Nat), Hid (Cur x w.heap.size ao n c 100) → Hid (GB w.heap.size w x) → Hid (zs.length = q ∧ q ≤ 9 ∧ Own x (w.heap.size + 1) (.slice a1 q c1) zs) → Hid (s15.size ≤ 100) → Hid (s17.size ≤ 100) → Hid (r ≠ w.heap.size ∧ r < x.heap.size ∧ ∀ j, j < 6 → ∃ s : ByteArray, x.cell? ⟨r, j, none⟩ = some (.string s) ∧ s.size ≤ 100) → wpAnyH Try.prog ?zzmd ?zzops ?zzQ ?zzS 5 #[true, true, true, false, true, true, true, true, true, true, false, false, false, false] { tmps := #[.slice ao n c, undef, .slice none 0 0, .int .i64 0, .string (ByteArray.mk #[]), .pointer (some ⟨w.heap.size, 0, none⟩), .slice ao n c, .agg #[.slice ao n c, .int .i64 0, .int .u64 0], .pointer (some ⟨w.heap.size, 0, none⟩), .pointer (some ⟨w.heap.size, 0, none⟩), .slice a1 q c1, .pointer (some ⟨w.heap.size, 0, none⟩), undef, .pointer (some ⟨w.heap.size, 0, none⟩), v14, .string s15, v16, .string s17, .slice (some ⟨r, 0, none⟩) 6 6, undef], defers := [] } x := by
    intro x a1 q c1 zs v14 s15 v16 s17 r C G KZ P2 R2 HR
    have hxl : w.heap.size < x.heap.size := C.out.lt
    refine wpAnyH_ready (rs := [3]) (by kernel_rfl) (by simp) ?_
    refine AllReadyH.cons (o := _) rfl (fun K hK => ?_) AllReadyH.nil
    · skip
      go_simp
      refine (block_c w.heap.size ao n c 100 _ (by omega) C.out).mono ?_
      rintro e y ⟨b, rfl, hc1, hg1⟩
      have G' : Hid (GB w.heap.size w y) := (G.out.trans hg1)
      have KZ' : Hid (zs.length = q ∧ q ≤ 9 ∧ Own y (w.heap.size + 1) (.slice a1 q c1) zs) := ⟨KZ.out.1, KZ.out.2.1, KZ.out.2.2.kept hg1 (sep_own KZ.out.2.2 (by omega))⟩
      have P2' : Hid (s15.size ≤ 100) := P2.out
      have R2' : Hid (s17.size ≤ 100) := R2.out
      have HR' : Hid (r ≠ w.heap.size ∧ r < y.heap.size ∧ ∀ j, j < 6 → ∃ s : ByteArray, y.cell? ⟨r, j, none⟩ = some (.string s) ∧ s.size ≤ 100) := (hr_gb HR.out hg1)
      have C' : Hid (Cur y w.heap.size ao n c 110) := hc1
      refine hK.out _ _ trivial (fun _ => ?_)
      try simp only [Act.put, List.setIfInBounds_toArray, List.set_cons_zero, List.set_cons_succ]
      refine any_listed (l' := #[true, true, true, true, true, true, true, true, true, true, false, false, false, false]) (by kernel_rfl) ?_
      exact H2221 y a1 q c1 zs b v14 s15 v16 s17 r C' G' KZ' P2' R2' HR'
  have H2220 : ∀ (x : World) (a1 : Option Addr) (q c1 : Nat) (zs : List Int) (b : Int) (v14 : Value) (s15 : ByteArray) (v16 : Value) (s17 : ByteArray), Hid (Cur x w.heap.size ao n c 110) → Hid (GB w.heap.size w x) → Hid (zs.length = q ∧ q ≤ 9 ∧ Own x (w.heap.size + 1) (.slice a1 q c1) zs) → Hid (s15.size ≤ 100) → Hid (s17.size ≤ 100) → wpAnyH Try.prog ?zzmd ?zzops ?zzQ ?zzS 5 #[true, true, true, true, true, true, true, true, true, false, false, false, false, false] { tmps := #[.slice ao n c, undef, .slice none 0 0, .int .i64 0, .string (ByteArray.mk #[]), .pointer (some ⟨w.heap.size, 0, none⟩), .slice ao n c, .agg #[.slice ao n c, .int .i64 0, .int .u64 0], .pointer (some ⟨w.heap.size, 0, none⟩), .pointer (some ⟨w.heap.size, 0, none⟩), .slice a1 q c1, .pointer (some ⟨w.heap.size, 0, none⟩), .int .i64 b, .pointer (some ⟨w.heap.size, 0, none⟩), v14, .string s15, v16, .string s17, undef, undef], defers := [] } x := by
    intro x a1 q c1 zs b v14 s15 v16 s17 C G KZ P2 R2
    have hxl : w.heap.size < x.heap.size := C.out.lt
    refine wpAnyH_ready (rs := [9]) (by kernel_rfl) (by simp) ?_
    refine AllReadyH.cons (o := _) rfl (fun K hK => ?_) AllReadyH.nil
    · skip
      have hlit := litS_cells x #[.string (ByteArray.mk #[]), .string (ByteArray.mk #[97, 98]), .string (ByteArray.mk #[97, 98, 99]), .string (ByteArray.mk #[115, 111, 109, 101, 32, 116, 101, 120, 116, 33]), .string s15, .string s17] 9 6 rfl ⟨by decide, by decide, by decide, by decide, P2.out, R2.out, trivial⟩
      have hb := balloc x (.cells #[.string (ByteArray.mk #[]), .string (ByteArray.mk #[97, 98]), .string (ByteArray.mk #[97, 98, 99]), .string (ByteArray.mk #[115, 111, 109, 101, 32, 116, 101, 120, 116, 33]), .string s15, .string s17] 9)
      have hlt : x.heap.size < (x.alloc (.cells #[.string (ByteArray.mk #[]), .string (ByteArray.mk #[97, 98]), .string (ByteArray.mk #[97, 98, 99]), .string (ByteArray.mk #[115, 111, 109, 101, 32, 116, 101, 120, 116, 33]), .string s15, .string s17] 9)).heap.size := by simp
      go_simp
      generalize (x.alloc (.cells #[.string (ByteArray.mk #[]), .string (ByteArray.mk #[97, 98]), .string (ByteArray.mk #[97, 98, 99]), .string (ByteArray.mk #[115, 111, 109, 101, 32, 116, 101, 120, 116, 33]), .string s15, .string s17] 9)) = y at hlit hb hlt ⊢
      have C' : Hid (Cur y w.heap.size ao n c 110) := (C.out.later hb)
      have G' : Hid (GB w.heap.size w y) := (G.out.trans (GB.of_below hb (Nat.le_refl _)))
      have KZ' : Hid (zs.length = q ∧ q ≤ 9 ∧ Own y (w.heap.size + 1) (.slice a1 q c1) zs) := ⟨KZ.out.1, KZ.out.2.1, KZ.out.2.2.later hb⟩
      have P2' : Hid (s15.size ≤ 100) := P2.out
      have R2' : Hid (s17.size ≤ 100) := R2.out
      obtain ⟨r, hr⟩ : ∃ r, r = x.heap.size := ⟨_, rfl⟩
      rw [← hr] at hlit ⊢
      have HR' : Hid (r ≠ w.heap.size ∧ r < y.heap.size ∧ ∀ j, j < 6 → ∃ s : ByteArray, y.cell? ⟨r, j, none⟩ = some (.string s) ∧ s.size ≤ 100) := ⟨by omega, by omega, hlit⟩
      refine hK.out _ _ trivial (fun _ => ?_)
      try simp only [Act.put, List.setIfInBounds_toArray, List.set_cons_zero, List.set_cons_succ]
      refine any_listed (l' := #[true, true, true, true, true, true, true, true, true, true, false, false, false, false]) (by kernel_rfl) ?_
      exact H2221 y a1 q c1 zs b v14 s15 v16 s17 r C' G' KZ' P2' R2' HR'
  have H0221 : ∀ (x : World) (v14 : Value) (s15 : ByteArray) (v16 : Value) (s17 : ByteArray) (r : Nat), Hid (Cur x w.heap.size ao n c 0) → Hid (GB w.heap.size w x) → Hid (s15.size ≤ 100) → Hid (s17.size ≤ 100) → Hid (r ≠ w.heap.size ∧ r < x.heap.size ∧ ∀ j, j < 6 → ∃ s : ByteArray, x.cell? ⟨r, j, none⟩ = some (.string s) ∧ s.size ≤ 100) → wpAnyH Try.prog ?zzmd ?zzops ?zzQ ?zzS 6 #[true, false, true, false, true, true, true, true, true, true, false, false, false, false] { tmps := #[.slice ao n c, undef, .slice none 0 0, .int .i64 0, .string (ByteArray.mk #[]), .pointer (some ⟨w.heap.size, 0, none⟩), .slice ao n c, .agg #[.slice ao n c, .int .i64 0, .int .u64 0], .pointer (some ⟨w.heap.size, 0, none⟩), .pointer (some ⟨w.heap.size, 0, none⟩), undef, .pointer (some ⟨w.heap.size, 0, none⟩), undef, .pointer (some ⟨w.heap.size, 0, none⟩), v14, .string s15, v16, .string s17, .slice (some ⟨r, 0, none⟩) 6 6, undef], defers := [] } x := by
    intro x v14 s15 v16 s17 r C G P2 R2 HR
    have hxl : w.heap.size < x.heap.size := C.out.lt
    refine wpAnyH_ready (rs := [1]) (by kernel_rfl) (by simp) ?_
    refine AllReadyH.cons (o := _) rfl (fun K hK => ?_) AllReadyH.nil
    · skip
      go_simp
      refine (keys_c w.heap.size ao n c 0 _ (by omega) C.out).mono ?_
      rintro e y ⟨a1, q, c1, zs, rfl, hq9, hzl, ho, hc1, hg1⟩
      have G' : Hid (GB w.heap.size w y) := (G.out.trans hg1)
      have P2' : Hid (s15.size ≤ 100) := P2.out
      have R2' : Hid (s17.size ≤ 100) := R2.out
      have HR' : Hid (r ≠ w.heap.size ∧ r < y.heap.size ∧ ∀ j, j < 6 → ∃ s : ByteArray, y.cell? ⟨r, j, none⟩ = some (.string s) ∧ s.size ≤ 100) := (hr_gb HR.out hg1)
      have C' : Hid (Cur y w.heap.size ao n c 100) := hc1
      have KZ' : Hid (zs.length = q ∧ q ≤ 9 ∧ Own y (w.heap.size + 1) (.slice a1 q c1) zs) := ⟨hzl, hq9, ho.mono (by omega)⟩
      refine hK.out _ _ trivial (fun _ => ?_)
      try simp only [Act.put, List.setIfInBounds_toArray, List.set_cons_zero, List.set_cons_succ]
      refine any_listed (l' := #[true, true, true, false, true, true, true, true, true, true, false, false, false, false]) (by kernel_rfl) ?_
      exact H1221 y a1 q c1 zs v14 s15 v16 s17 r C' G' KZ' P2' R2' HR'
  have H1220 : ∀ (x : World) (a1 : Option Addr) (q c1 : Nat) (zs : List Int) (v14 : Value) (s15 : ByteArray) (v16 : Value) (s17 : ByteArray), Hid (Cur x w.heap.size ao n c 100) → Hid (GB w.heap.size w x) → Hid (zs.length = q ∧ q ≤ 9 ∧ Own x (w.heap.size + 1) (.slice a1 q c1) zs) → Hid (s15.size ≤ 100) → Hid (s17.size ≤ 100) → wpAnyH Try.prog ?zzmd ?zzops ?zzQ ?zzS 6 #[true, true, true, false, true, true, true, true, true, false, false, false, false, false] { tmps := #[.slice ao n c, undef, .slice none 0 0, .int .i64 0, .string (ByteArray.mk #[]), .pointer (some ⟨w.heap.size, 0, none⟩), .slice ao n c, .agg #[.slice ao n c, .int .i64 0, .int .u64 0], .pointer (some ⟨w.heap.size, 0, none⟩), .pointer (some ⟨w.heap.size, 0, none⟩), .slice a1 q c1, .pointer (some ⟨w.heap.size, 0, none⟩), undef, .pointer (some ⟨w.heap.size, 0, none⟩), v14, .string s15, v16, .string s17, undef, undef], defers := [] } x := by
    intro x a1 q c1 zs v14 s15 v16 s17 C G KZ P2 R2
    have hxl : w.heap.size < x.heap.size := C.out.lt
    refine wpAnyH_ready (rs := [3, 9]) (by kernel_rfl) (by simp) ?_
    refine AllReadyH.cons (o := _) rfl (fun K hK => ?_) (AllReadyH.cons (o := _) rfl (fun K hK => ?_) AllReadyH.nil)
    · skip
      go_simp
      refine (block_c w.heap.size ao n c 100 _ (by omega) C.out).mono ?_
      rintro e y ⟨b, rfl, hc1, hg1⟩
      have G' : Hid (GB w.heap.size w y) := (G.out.trans hg1)
      have KZ' : Hid (zs.length = q ∧ q ≤ 9 ∧ Own y (w.heap.size + 1) (.slice a1 q c1) zs) := ⟨KZ.out.1, KZ.out.2.1, KZ.out.2.2.kept hg1 (sep_own KZ.out.2.2 (by omega))⟩
      have P2' : Hid (s15.size ≤ 100) := P2.out
      have R2' : Hid (s17.size ≤ 100) := R2.out
      have C' : Hid (Cur y w.heap.size ao n c 110) := hc1
      refine hK.out _ _ trivial (fun _ => ?_)
      try simp only [Act.put, List.setIfInBounds_toArray, List.set_cons_zero, List.set_cons_succ]
      refine any_listed (l' := #[true, true, true, true, true, true, true, true, true, false, false, false, false, false]) (by kernel_rfl) ?_
      exact H2220 y a1 q c1 zs b v14 s15 v16 s17 C' G' KZ' P2' R2'
    · skip
      have hlit := litS_cells x #[.string (ByteArray.mk #[]), .string (ByteArray.mk #[97, 98]), .string (ByteArray.mk #[97, 98, 99]), .string (ByteArray.mk #[115, 111, 109, 101, 32, 116, 101, 120, 116, 33]), .string s15, .string s17] 9 6 rfl ⟨by decide, by decide, by decide, by decide, P2.out, R2.out, trivial⟩
      have hb := balloc x (.cells #[.string (ByteArray.mk #[]), .string (ByteArray.mk #[97, 98]), .string (ByteArray.mk #[97, 98, 99]), .string (ByteArray.mk #[115, 111, 109, 101, 32, 116, 101, 120, 116, 33]), .string s15, .string s17] 9)
      have hlt : x.heap.size < (x.alloc (.cells #[.string (ByteArray.mk #[]), .string (ByteArray.mk #[97, 98]), .string (ByteArray.mk #[97, 98, 99]), .string (ByteArray.mk #[115, 111, 109, 101, 32, 116, 101, 120, 116, 33]), .string s15, .string s17] 9)).heap.size := by simp
      go_simp
      generalize (x.alloc (.cells #[.string (ByteArray.mk #[]), .string (ByteArray.mk #[97, 98]), .string (ByteArray.mk #[97, 98, 99]), .string (ByteArray.mk #[115, 111, 109, 101, 32, 116, 101, 120, 116, 33]), .string s15, .string s17] 9)) = y at hlit hb hlt ⊢
      have C' : Hid (Cur y w.heap.size ao n c 100) := (C.out.later hb)
      have G' : Hid (GB w.heap.size w y) := (G.out.trans (GB.of_below hb (Nat.le_refl _)))
      have KZ' : Hid (zs.length = q ∧ q ≤ 9 ∧ Own y (w.heap.size + 1) (.slice a1 q c1) zs) := ⟨KZ.out.1, KZ.out.2.1, KZ.out.2.2.later hb⟩
      have P2' : Hid (s15.size ≤ 100) := P2.out
      have R2' : Hid (s17.size ≤ 100) := R2.out
      obtain ⟨r, hr⟩ : ∃ r, r = x.heap.size := ⟨_, rfl⟩
      rw [← hr] at hlit ⊢
      have HR' : Hid (r ≠ w.heap.size ∧ r < y.heap.size ∧ ∀ j, j < 6 → ∃ s : ByteArray, y.cell? ⟨r, j, none⟩ = some (.string s) ∧ s.size ≤ 100) := ⟨by omega, by omega, hlit⟩
      refine hK.out _ _ trivial (fun _ => ?_)
      try simp only [Act.put, List.setIfInBounds_toArray, List.set_cons_zero, List.set_cons_succ]
      refine any_listed (l' := #[true, true, true, false, true, true, true, true, true, true, false, false, false, false]) (by kernel_rfl) ?_
      exact H1221 y a1 q c1 zs v14 s15 v16 s17 r C' G' KZ' P2' R2' HR'
  have H2120 : ∀ (x : World) (a1 : Option Addr) (q c1 : Nat) (zs : List Int) (b : Int) (v14 : Value) (v16 : Value) (s17 : ByteArray), Hid (Cur x w.heap.size ao n c 110) → Hid (GB w.heap.size w x) → Hid (zs.length = q ∧ q ≤ 9 ∧ Own x (w.heap.size + 1) (.slice a1 q c1) zs) → Hid (OwnU x (w.heap.size + 1) v14 (List.replicate 40 0)) → Hid (s17.size ≤ 100) → wpAnyH Try.prog ?zzmd ?zzops ?zzQ ?zzS 6 #[true, true, true, true, true, true, false, true, true, false, false, false, false, false] { tmps := #[.slice ao n c, undef, .slice none 0 0, .int .i64 0, .string (ByteArray.mk #[]), .pointer (some ⟨w.heap.size, 0, none⟩), .slice ao n c, .agg #[.slice ao n c, .int .i64 0, .int .u64 0], .pointer (some ⟨w.heap.size, 0, none⟩), .pointer (some ⟨w.heap.size, 0, none⟩), .slice a1 q c1, .pointer (some ⟨w.heap.size, 0, none⟩), .int .i64 b, .pointer (some ⟨w.heap.size, 0, none⟩), v14, undef, v16, .string s17, undef, undef], defers := [] } x := by
    intro x a1 q c1 zs b v14 v16 s17 C G KZ P1 R2
    have hxl : w.heap.size < x.heap.size := C.out.lt
    refine wpAnyH_ready (rs := [6]) (by kernel_rfl) (by simp) ?_
    refine AllReadyH.cons (o := _) rfl (fun K hK => ?_) AllReadyH.nil
    · skip
      have hcv := P1.out.text
      obtain ⟨s15, hs⟩ : ∃ s, s = strOfNums (List.replicate 40 0) := ⟨_, rfl⟩
      rw [← hs] at hcv
      have P2' : Hid (s15.size ≤ 100) := by show _ ≤ _; rw [hs]; exact size40
      clear hs
      obtain ⟨y, hy⟩ : ∃ y, y = x := ⟨_, rfl⟩
      have hb : Below x.heap.size x y := by rw [hy]; exact Below.refl _ _
      have C' : Hid (Cur y w.heap.size ao n c 110) := (C.out.later hb)
      have G' : Hid (GB w.heap.size w y) := (G.out.trans (GB.of_below hb (Nat.le_refl _)))
      have KZ' : Hid (zs.length = q ∧ q ≤ 9 ∧ Own y (w.heap.size + 1) (.slice a1 q c1) zs) := ⟨KZ.out.1, KZ.out.2.1, KZ.out.2.2.later hb⟩
      have R2' : Hid (s17.size ≤ 100) := R2.out
      go_simp
      rw [← hy]
      refine hK.out _ _ trivial (fun _ => ?_)
      try simp only [Act.put, List.setIfInBounds_toArray, List.set_cons_zero, List.set_cons_succ]
      refine any_listed (l' := #[true, true, true, true, true, true, true, true, true, false, false, false, false, false]) (by kernel_rfl) ?_
      exact H2220 y a1 q c1 zs b v14 s15 v16 s17 C' G' KZ' P2' R2'
  have H2210 : ∀ (x : World) (a1 : Option Addr) (q c1 : Nat) (zs : List Int) (b : Int) (v14 : Value) (s15 : ByteArray) (v16 : Value), Hid (Cur x w.heap.size ao n c 110) → Hid (GB w.heap.size w x) → Hid (zs.length = q ∧ q ≤ 9 ∧ Own x (w.heap.size + 1) (.slice a1 q c1) zs) → Hid (s15.size ≤ 100) → Hid (OwnU x (w.heap.size + 1) v16 (List.replicate 42 0)) → wpAnyH Try.prog ?zzmd ?zzops ?zzQ ?zzS 6 #[true, true, true, true, true, true, true, true, false, false, false, false, false, false] { tmps := #[.slice ao n c, undef, .slice none 0 0, .int .i64 0, .string (ByteArray.mk #[]), .pointer (some ⟨w.heap.size, 0, none⟩), .slice ao n c, .agg #[.slice ao n c, .int .i64 0, .int .u64 0], .pointer (some ⟨w.heap.size, 0, none⟩), .pointer (some ⟨w.heap.size, 0, none⟩), .slice a1 q c1, .pointer (some ⟨w.heap.size, 0, none⟩), .int .i64 b, .pointer (some ⟨w.heap.size, 0, none⟩), v14, .string s15, v16, undef, undef, undef], defers := [] } x := by
    intro x a1 q c1 zs b v14 s15 v16 C G KZ P2 R1
    have hxl : w.heap.size < x.heap.size := C.out.lt
    refine wpAnyH_ready (rs := [8]) (by kernel_rfl) (by simp) ?_
    refine AllReadyH.cons (o := _) rfl (fun K hK => ?_) AllReadyH.nil
    · skip
      have hcv := R1.out.text
      obtain ⟨s17, hs⟩ : ∃ s, s = strOfNums (List.replicate 42 0) := ⟨_, rfl⟩
      rw [← hs] at hcv
      have R2' : Hid (s17.size ≤ 100) := by show _ ≤ _; rw [hs]; exact size42
      clear hs
      obtain ⟨y, hy⟩ : ∃ y, y = x := ⟨_, rfl⟩
      have hb : Below x.heap.size x y := by rw [hy]; exact Below.refl _ _
      have C' : Hid (Cur y w.heap.size ao n c 110) := (C.out.later hb)
      have G' : Hid (GB w.heap.size w y) := (G.out.trans (GB.of_below hb (Nat.le_refl _)))
      have KZ' : Hid (zs.length = q ∧ q ≤ 9 ∧ Own y (w.heap.size + 1) (.slice a1 q c1) zs) := ⟨KZ.out.1, KZ.out.2.1, KZ.out.2.2.later hb⟩
      have P2' : Hid (s15.size ≤ 100) := P2.out
      go_simp
      rw [← hy]
      refine hK.out _ _ trivial (fun _ => ?_)
      try simp only [Act.put, List.setIfInBounds_toArray, List.set_cons_zero, List.set_cons_succ]
      refine any_listed (l' := #[true, true, true, true, true, true, true, true, true, false, false, false, false, false]) (by kernel_rfl) ?_
      exact H2220 y a1 q c1 zs b v14 s15 v16 s17 C' G' KZ' P2' R2'
  have H0220 : ∀ (x : World) (v14 : Value) (s15 : ByteArray) (v16 : Value) (s17 : ByteArray), Hid (Cur x w.heap.size ao n c 0) → Hid (GB w.heap.size w x) → Hid (s15.size ≤ 100) → Hid (s17.size ≤ 100) → wpAnyH Try.prog ?zzmd ?zzops ?zzQ ?zzS 7 #[true, false, true, false, true, true, true, true, true, false, false, false, false, false] { tmps := #[.slice ao n c, undef, .slice none 0 0, .int .i64 0, .string (ByteArray.mk #[]), .pointer (some ⟨w.heap.size, 0, none⟩), .slice ao n c, .agg #[.slice ao n c, .int .i64 0, .int .u64 0], .pointer (some ⟨w.heap.size, 0, none⟩), .pointer (some ⟨w.heap.size, 0, none⟩), undef, .pointer (some ⟨w.heap.size, 0, none⟩), undef, .pointer (some ⟨w.heap.size, 0, none⟩), v14, .string s15, v16, .string s17, undef, undef], defers := [] } x := by
    intro x v14 s15 v16 s17 C G P2 R2
    have hxl : w.heap.size < x.heap.size := C.out.lt
    refine wpAnyH_ready (rs := [1, 9]) (by kernel_rfl) (by simp) ?_
    refine AllReadyH.cons (o := _) rfl (fun K hK => ?_) (AllReadyH.cons (o := _) rfl (fun K hK => ?_) AllReadyH.nil)
    · skip
      go_simp
      refine (keys_c w.heap.size ao n c 0 _ (by omega) C.out).mono ?_
      rintro e y ⟨a1, q, c1, zs, rfl, hq9, hzl, ho, hc1, hg1⟩
      have G' : Hid (GB w.heap.size w y) := (G.out.trans hg1)
      have P2' : Hid (s15.size ≤ 100) := P2.out
      have R2' : Hid (s17.size ≤ 100) := R2.out
      have C' : Hid (Cur y w.heap.size ao n c 100) := hc1
      have KZ' : Hid (zs.length = q ∧ q ≤ 9 ∧ Own y (w.heap.size + 1) (.slice a1 q c1) zs) := ⟨hzl, hq9, ho.mono (by omega)⟩
      refine hK.out _ _ trivial (fun _ => ?_)
      try simp only [Act.put, List.setIfInBounds_toArray, List.set_cons_zero, List.set_cons_succ]
      refine any_listed (l' := #[true, true, true, false, true, true, true, true, true, false, false, false, false, false]) (by kernel_rfl) ?_
      exact H1220 y a1 q c1 zs v14 s15 v16 s17 C' G' KZ' P2' R2'
    · skip
      have hlit := litS_cells x #[.string (ByteArray.mk #[]), .string (ByteArray.mk #[97, 98]), .string (ByteArray.mk #[97, 98, 99]), .string (ByteArray.mk #[115, 111, 109, 101, 32, 116, 101, 120, 116, 33]), .string s15, .string s17] 9 6 rfl ⟨by decide, by decide, by decide, by decide, P2.out, R2.out, trivial⟩
      have hb := balloc x (.cells #[.string (ByteArray.mk #[]), .string (ByteArray.mk #[97, 98]), .string (ByteArray.mk #[97, 98, 99]), .string (ByteArray.mk #[115, 111, 109, 101, 32, 116, 101, 120, 116, 33]), .string s15, .string s17] 9)
      have hlt : x.heap.size < (x.alloc (.cells #[.string (ByteArray.mk #[]), .string (ByteArray.mk #[97, 98]), .string (ByteArray.mk #[97, 98, 99]), .string (ByteArray.mk #[115, 111, 109, 101, 32, 116, 101, 120, 116, 33]), .string s15, .string s17] 9)).heap.size := by simp
      go_simp
      generalize (x.alloc (.cells #[.string (ByteArray.mk #[]), .string (ByteArray.mk #[97, 98]), .string (ByteArray.mk #[97, 98, 99]), .string (ByteArray.mk #[115, 111, 109, 101, 32, 116, 101, 120, 116, 33]), .string s15, .string s17] 9)) = y at hlit hb hlt ⊢
      have C' : Hid (Cur y w.heap.size ao n c 0) := (C.out.later hb)
      have G' : Hid (GB w.heap.size w y) := (G.out.trans (GB.of_below hb (Nat.le_refl _)))
      have P2' : Hid (s15.size ≤ 100) := P2.out
      have R2' : Hid (s17.size ≤ 100) := R2.out
      obtain ⟨r, hr⟩ : ∃ r, r = x.heap.size := ⟨_, rfl⟩
      rw [← hr] at hlit ⊢
      have HR' : Hid (r ≠ w.heap.size ∧ r < y.heap.size ∧ ∀ j, j < 6 → ∃ s : ByteArray, y.cell? ⟨r, j, none⟩ = some (.string s) ∧ s.size ≤ 100) := ⟨by omega, by omega, hlit⟩
      refine hK.out _ _ trivial (fun _ => ?_)
      try simp only [Act.put, List.setIfInBounds_toArray, List.set_cons_zero, List.set_cons_succ]
      refine any_listed (l' := #[true, false, true, false, true, true, true, true, true, true, false, false, false, false]) (by kernel_rfl) ?_
      exact H0221 y v14 s15 v16 s17 r C' G' P2' R2' HR'
  have H1120 : ∀ (x : World) (a1 : Option Addr) (q c1 : Nat) (zs : List Int) (v14 : Value) (v16 : Value) (s17 : ByteArray), Hid (Cur x w.heap.size ao n c 100) → Hid (GB w.heap.size w x) → Hid (zs.length = q ∧ q ≤ 9 ∧ Own x (w.heap.size + 1) (.slice a1 q c1) zs) → Hid (OwnU x (w.heap.size + 1) v14 (List.replicate 40 0)) → Hid (s17.size ≤ 100) → wpAnyH Try.prog ?zzmd ?zzops ?zzQ ?zzS 7 #[true, true, true, false, true, true, false, true, true, false, false, false, false, false] { tmps := #[.slice ao n c, undef, .slice none 0 0, .int .i64 0, .string (ByteArray.mk #[]), .pointer (some ⟨w.heap.size, 0, none⟩), .slice ao n c, .agg #[.slice ao n c, .int .i64 0, .int .u64 0], .pointer (some ⟨w.heap.size, 0, none⟩), .pointer (some ⟨w.heap.size, 0, none⟩), .slice a1 q c1, .pointer (some ⟨w.heap.size, 0, none⟩), undef, .pointer (some ⟨w.heap.size, 0, none⟩), v14, undef, v16, .string s17, undef, undef], defers := [] } x := by
    intro x a1 q c1 zs v14 v16 s17 C G KZ P1 R2
    have hxl : w.heap.size < x.heap.size := C.out.lt
    refine wpAnyH_ready (rs := [3, 6]) (by kernel_rfl) (by simp) ?_
    refine AllReadyH.cons (o := _) rfl (fun K hK => ?_) (AllReadyH.cons (o := _) rfl (fun K hK => ?_) AllReadyH.nil)
    · skip
      go_simp
      refine (block_c w.heap.size ao n c 100 _ (by omega) C.out).mono ?_
      rintro e y ⟨b, rfl, hc1, hg1⟩
      have G' : Hid (GB w.heap.size w y) := (G.out.trans hg1)
      have KZ' : Hid (zs.length = q ∧ q ≤ 9 ∧ Own y (w.heap.size + 1) (.slice a1 q c1) zs) := ⟨KZ.out.1, KZ.out.2.1, KZ.out.2.2.kept hg1 (sep_own KZ.out.2.2 (by omega))⟩
      have P1' : Hid (OwnU y (w.heap.size + 1) v14 (List.replicate 40 0)) := (keptU P1.out hg1)
      have R2' : Hid (s17.size ≤ 100) := R2.out
      have C' : Hid (Cur y w.heap.size ao n c 110) := hc1
      refine hK.out _ _ trivial (fun _ => ?_)
      try simp only [Act.put, List.setIfInBounds_toArray, List.set_cons_zero, List.set_cons_succ]
      refine any_listed (l' := #[true, true, true, true, true, true, false, true, true, false, false, false, false, false]) (by kernel_rfl) ?_
      exact H2120 y a1 q c1 zs b v14 v16 s17 C' G' KZ' P1' R2'
    · skip
      have hcv := P1.out.text
      obtain ⟨s15, hs⟩ : ∃ s, s = strOfNums (List.replicate 40 0) := ⟨_, rfl⟩
      rw [← hs] at hcv
      have P2' : Hid (s15.size ≤ 100) := by show _ ≤ _; rw [hs]; exact size40
      clear hs
      obtain ⟨y, hy⟩ : ∃ y, y = x := ⟨_, rfl⟩
      have hb : Below x.heap.size x y := by rw [hy]; exact Below.refl _ _
      have C' : Hid (Cur y w.heap.size ao n c 100) := (C.out.later hb)
      have G' : Hid (GB w.heap.size w y) := (G.out.trans (GB.of_below hb (Nat.le_refl _)))
      have KZ' : Hid (zs.length = q ∧ q ≤ 9 ∧ Own y (w.heap.size + 1) (.slice a1 q c1) zs) := ⟨KZ.out.1, KZ.out.2.1, KZ.out.2.2.later hb⟩
      have R2' : Hid (s17.size ≤ 100) := R2.out
      go_simp
      rw [← hy]
      refine hK.out _ _ trivial (fun _ => ?_)
      try simp only [Act.put, List.setIfInBounds_toArray, List.set_cons_zero, List.set_cons_succ]
      refine any_listed (l' := #[true, true, true, false, true, true, true, true, true, false, false, false, false, false]) (by kernel_rfl) ?_
      exact H1220 y a1 q c1 zs v14 s15 v16 s17 C' G' KZ' P2' R2'
  have H1210 : ∀ (x : World) (a1 : Option Addr) (q c1 : Nat) (zs : List Int) (v14 : Value) (s15 : ByteArray) (v16 : Value), Hid (Cur x w.heap.size ao n c 100) → Hid (GB w.heap.size w x) → Hid (zs.length = q ∧ q ≤ 9 ∧ Own x (w.heap.size + 1) (.slice a1 q c1) zs) → Hid (s15.size ≤ 100) → Hid (OwnU x (w.heap.size + 1) v16 (List.replicate 42 0)) → wpAnyH Try.prog ?zzmd ?zzops ?zzQ ?zzS 7 #[true, true, true, false, true, true, true, true, false, false, false, false, false, false] { tmps := #[.slice ao n c, undef, .slice none 0 0, .int .i64 0, .string (ByteArray.mk #[]), .pointer (some ⟨w.heap.size, 0, none⟩), .slice ao n c, .agg #[.slice ao n c, .int .i64 0, .int .u64 0], .pointer (some ⟨w.heap.size, 0, none⟩), .pointer (some ⟨w.heap.size, 0, none⟩), .slice a1 q c1, .pointer (some ⟨w.heap.size, 0, none⟩), undef, .pointer (some ⟨w.heap.size, 0, none⟩), v14, .string s15, v16, undef, undef, undef], defers := [] } x := by
    intro x a1 q c1 zs v14 s15 v16 C G KZ P2 R1
    have hxl : w.heap.size < x.heap.size := C.out.lt
    refine wpAnyH_ready (rs := [3, 8]) (by kernel_rfl) (by simp) ?_
    refine AllReadyH.cons (o := _) rfl (fun K hK => ?_) (AllReadyH.cons (o := _) rfl (fun K hK => ?_) AllReadyH.nil)
    · skip
      go_simp
      refine (block_c w.heap.size ao n c 100 _ (by omega) C.out).mono ?_
      rintro e y ⟨b, rfl, hc1, hg1⟩
      have G' : Hid (GB w.heap.size w y) := (G.out.trans hg1)
      have KZ' : Hid (zs.length = q ∧ q ≤ 9 ∧ Own y (w.heap.size + 1) (.slice a1 q c1) zs) := ⟨KZ.out.1, KZ.out.2.1, KZ.out.2.2.kept hg1 (sep_own KZ.out.2.2 (by omega))⟩
      have P2' : Hid (s15.size ≤ 100) := P2.out
      have R1' : Hid (OwnU y (w.heap.size + 1) v16 (List.replicate 42 0)) := (keptU R1.out hg1)
      have C' : Hid (Cur y w.heap.size ao n c 110) := hc1
      refine hK.out _ _ trivial (fun _ => ?_)
      try simp only [Act.put, List.setIfInBounds_toArray, List.set_cons_zero, List.set_cons_succ]
      refine any_listed (l' := #[true, true, true, true, true, true, true, true, false, false, false, false, false, false]) (by kernel_rfl) ?_
      exact H2210 y a1 q c1 zs b v14 s15 v16 C' G' KZ' P2' R1'
    · skip
      have hcv := R1.out.text
      obtain ⟨s17, hs⟩ : ∃ s, s = strOfNums (List.replicate 42 0) := ⟨_, rfl⟩
      rw [← hs] at hcv
      have R2' : Hid (s17.size ≤ 100) := by show _ ≤ _; rw [hs]; exact size42
      clear hs
      obtain ⟨y, hy⟩ : ∃ y, y = x := ⟨_, rfl⟩
      have hb : Below x.heap.size x y := by rw [hy]; exact Below.refl _ _
      have C' : Hid (Cur y w.heap.size ao n c 100) := (C.out.later hb)
      have G' : Hid (GB w.heap.size w y) := (G.out.trans (GB.of_below hb (Nat.le_refl _)))
      have KZ' : Hid (zs.length = q ∧ q ≤ 9 ∧ Own y (w.heap.size + 1) (.slice a1 q c1) zs) := ⟨KZ.out.1, KZ.out.2.1, KZ.out.2.2.later hb⟩
      have P2' : Hid (s15.size ≤ 100) := P2.out
      go_simp
      rw [← hy]
      refine hK.out _ _ trivial (fun _ => ?_)
      try simp only [Act.put, List.setIfInBounds_toArray, List.set_cons_zero, List.set_cons_succ]
      refine any_listed (l' := #[true, true, true, false, true, true, true, true, true, false, false, false, false, false]) (by kernel_rfl) ?_
      exact H1220 y a1 q c1 zs v14 s15 v16 s17 C' G' KZ' P2' R2'
  have H2020 : ∀ (x : World) (a1 : Option Addr) (q c1 : Nat) (zs : List Int) (b : Int) (v16 : Value) (s17 : ByteArray), Hid (Cur x w.heap.size ao n c 110) → Hid (GB w.heap.size w x) → Hid (zs.length = q ∧ q ≤ 9 ∧ Own x (w.heap.size + 1) (.slice a1 q c1) zs) → Hid (s17.size ≤ 100) → wpAnyH Try.prog ?zzmd ?zzops ?zzQ ?zzS 7 #[true, true, true, true, true, false, false, true, true, false, false, false, false, false] { tmps := #[.slice ao n c, undef, .slice none 0 0, .int .i64 0, .string (ByteArray.mk #[]), .pointer (some ⟨w.heap.size, 0, none⟩), .slice ao n c, .agg #[.slice ao n c, .int .i64 0, .int .u64 0], .pointer (some ⟨w.heap.size, 0, none⟩), .pointer (some ⟨w.heap.size, 0, none⟩), .slice a1 q c1, .pointer (some ⟨w.heap.size, 0, none⟩), .int .i64 b, .pointer (some ⟨w.heap.size, 0, none⟩), undef, undef, v16, .string s17, undef, undef], defers := [] } x := by
    intro x a1 q c1 zs b v16 s17 C G KZ R2
    have hxl : w.heap.size < x.heap.size := C.out.lt
    refine wpAnyH_ready (rs := [5]) (by kernel_rfl) (by simp) ?_
    refine AllReadyH.cons (o := _) rfl (fun K hK => ?_) AllReadyH.nil
    · skip
      obtain ⟨y, hrun, r1, r2⟩ := run_make_full (P := Try.prog) x (w.heap.size + 1) 22 5 i0 (.int .u8 0) 1 Try.underlying22 hi ii0 ii1 .i64 .i64 40 (by rw [ii2]; omega) (by unfold maxLen; omega) (by omega)
      have hb := below_none r2
      have hrun' : (Instr.makeSlice 22 (.int .i64 40) (.int .i64 40)).run Try.prog x = .ok (.slice (some ⟨x.heap.size, 0, none⟩) 40 40) y := hrun
      clear hrun
      have P1' : Hid (OwnU y (w.heap.size + 1) (.slice (some ⟨x.heap.size, 0, none⟩) 40 40) (List.replicate 40 0)) := made_bytes r1
      clear r1 r2
      have C' : Hid (Cur y w.heap.size ao n c 110) := (C.out.later hb)
      have G' : Hid (GB w.heap.size w y) := (G.out.trans (GB.of_below hb (Nat.le_refl _)))
      have KZ' : Hid (zs.length = q ∧ q ≤ 9 ∧ Own y (w.heap.size + 1) (.slice a1 q c1) zs) := ⟨KZ.out.1, KZ.out.2.1, KZ.out.2.2.later hb⟩
      have R2' : Hid (s17.size ≤ 100) := R2.out
      generalize (Value.slice (some ⟨x.heap.size, 0, none⟩) 40 40) = v14 at hrun' P1'
      go_simp
      refine hK.out _ _ trivial (fun _ => ?_)
      try simp only [Act.put, List.setIfInBounds_toArray, List.set_cons_zero, List.set_cons_succ]
      refine any_listed (l' := #[true, true, true, true, true, true, false, true, true, false, false, false, false, false]) (by kernel_rfl) ?_
      exact H2120 y a1 q c1 zs b v14 v16 s17 C' G' KZ' P1' R2'
  have H2110 : ∀ (x : World) (a1 : Option Addr) (q c1 : Nat) (zs : List Int) (b : Int) (v14 : Value) (v16 : Value), Hid (Cur x w.heap.size ao n c 110) → Hid (GB w.heap.size w x) → Hid (zs.length = q ∧ q ≤ 9 ∧ Own x (w.heap.size + 1) (.slice a1 q c1) zs) → Hid (OwnU x (w.heap.size + 1) v14 (List.replicate 40 0)) → Hid (OwnU x (w.heap.size + 1) v16 (List.replicate 42 0)) → wpAnyH Try.prog ?zzmd ?zzops ?zzQ ?zzS 7 #[true, true, true, true, true, true, false, true, false, false, false, false, false, false] { tmps := #[.slice ao n c, undef, .slice none 0 0, .int .i64 0, .string (ByteArray.mk #[]), .pointer (some ⟨w.heap.size, 0, none⟩), .slice ao n c, .agg #[.slice ao n c, .int .i64 0, .int .u64 0], .pointer (some ⟨w.heap.size, 0, none⟩), .pointer (some ⟨w.heap.size, 0, none⟩), .slice a1 q c1, .pointer (some ⟨w.heap.size, 0, none⟩), .int .i64 b, .pointer (some ⟨w.heap.size, 0, none⟩), v14, undef, v16, undef, undef, undef], defers := [] } x := by
    intro x a1 q c1 zs b v14 v16 C G KZ P1 R1
    have hxl : w.heap.size < x.heap.size := C.out.lt
    refine wpAnyH_ready (rs := [6, 8]) (by kernel_rfl) (by simp) ?_
    refine AllReadyH.cons (o := _) rfl (fun K hK => ?_) (AllReadyH.cons (o := _) rfl (fun K hK => ?_) AllReadyH.nil)
    · skip
      have hcv := P1.out.text
      obtain ⟨s15, hs⟩ : ∃ s, s = strOfNums (List.replicate 40 0) := ⟨_, rfl⟩
      rw [← hs] at hcv
      have P2' : Hid (s15.size ≤ 100) := by show _ ≤ _; rw [hs]; exact size40
      clear hs
      obtain ⟨y, hy⟩ : ∃ y, y = x := ⟨_, rfl⟩
      have hb : Below x.heap.size x y := by rw [hy]; exact Below.refl _ _
      have C' : Hid (Cur y w.heap.size ao n c 110) := (C.out.later hb)
      have G' : Hid (GB w.heap.size w y) := (G.out.trans (GB.of_below hb (Nat.le_refl _)))
      have KZ' : Hid (zs.length = q ∧ q ≤ 9 ∧ Own y (w.heap.size + 1) (.slice a1 q c1) zs) := ⟨KZ.out.1, KZ.out.2.1, KZ.out.2.2.later hb⟩
      have R1' : Hid (OwnU y (w.heap.size + 1) v16 (List.replicate 42 0)) := (ownsRow_later R1.out hb)
      go_simp
      rw [← hy]
      refine hK.out _ _ trivial (fun _ => ?_)
      try simp only [Act.put, List.setIfInBounds_toArray, List.set_cons_zero, List.set_cons_succ]
      refine any_listed (l' := #[true, true, true, true, true, true, true, true, false, false, false, false, false, false]) (by kernel_rfl) ?_
      exact H2210 y a1 q c1 zs b v14 s15 v16 C' G' KZ' P2' R1'
    · skip
      have hcv := R1.out.text
      obtain ⟨s17, hs⟩ : ∃ s, s = strOfNums (List.replicate 42 0) := ⟨_, rfl⟩
      rw [← hs] at hcv
      have R2' : Hid (s17.size ≤ 100) := by show _ ≤ _; rw [hs]; exact size42
      clear hs
      obtain ⟨y, hy⟩ : ∃ y, y = x := ⟨_, rfl⟩
      have hb : Below x.heap.size x y := by rw [hy]; exact Below.refl _ _
      have C' : Hid (Cur y w.heap.size ao n c 110) := (C.out.later hb)
      have G' : Hid (GB w.heap.size w y) := (G.out.trans (GB.of_below hb (Nat.le_refl _)))
      have KZ' : Hid (zs.length = q ∧ q ≤ 9 ∧ Own y (w.heap.size + 1) (.slice a1 q c1) zs) := ⟨KZ.out.1, KZ.out.2.1, KZ.out.2.2.later hb⟩
      have P1' : Hid (OwnU y (w.heap.size + 1) v14 (List.replicate 40 0)) := (ownsRow_later P1.out hb)
      go_simp
      rw [← hy]
      refine hK.out _ _ trivial (fun _ => ?_)
      try simp only [Act.put, List.setIfInBounds_toArray, List.set_cons_zero, List.set_cons_succ]
      refine any_listed (l' := #[true, true, true, true, true, true, false, true, true, false, false, false, false, false]) (by kernel_rfl) ?_
      exact H2120 y a1 q c1 zs b v14 v16 s17 C' G' KZ' P1' R2'
  have H2200 : ∀ (x : World) (a1 : Option Addr) (q c1 : Nat) (zs : List Int) (b : Int) (v14 : Value) (s15 : ByteArray), Hid (Cur x w.heap.size ao n c 110) → Hid (GB w.heap.size w x) → Hid (zs.length = q ∧ q ≤ 9 ∧ Own x (w.heap.size + 1) (.slice a1 q c1) zs) → Hid (s15.size ≤ 100) → wpAnyH Try.prog ?zzmd ?zzops ?zzQ ?zzS 7 #[true, true, true, true, true, true, true, false, false, false, false, false, false, false] { tmps := #[.slice ao n c, undef, .slice none 0 0, .int .i64 0, .string (ByteArray.mk #[]), .pointer (some ⟨w.heap.size, 0, none⟩), .slice ao n c, .agg #[.slice ao n c, .int .i64 0, .int .u64 0], .pointer (some ⟨w.heap.size, 0, none⟩), .pointer (some ⟨w.heap.size, 0, none⟩), .slice a1 q c1, .pointer (some ⟨w.heap.size, 0, none⟩), .int .i64 b, .pointer (some ⟨w.heap.size, 0, none⟩), v14, .string s15, undef, undef, undef, undef], defers := [] } x := by
    intro x a1 q c1 zs b v14 s15 C G KZ P2
    have hxl : w.heap.size < x.heap.size := C.out.lt
    refine wpAnyH_ready (rs := [7]) (by kernel_rfl) (by simp) ?_
    refine AllReadyH.cons (o := _) rfl (fun K hK => ?_) AllReadyH.nil
    · skip
      obtain ⟨y, hrun, r1, r2⟩ := run_make_full (P := Try.prog) x (w.heap.size + 1) 22 5 i0 (.int .u8 0) 1 Try.underlying22 hi ii0 ii1 .i64 .i64 42 (by rw [ii2]; omega) (by unfold maxLen; omega) (by omega)
      have hb := below_none r2
      have hrun' : (Instr.makeSlice 22 (.int .i64 42) (.int .i64 42)).run Try.prog x = .ok (.slice (some ⟨x.heap.size, 0, none⟩) 42 42) y := hrun
      clear hrun
      have R1' : Hid (OwnU y (w.heap.size + 1) (.slice (some ⟨x.heap.size, 0, none⟩) 42 42) (List.replicate 42 0)) := made_bytes r1
      clear r1 r2
      have C' : Hid (Cur y w.heap.size ao n c 110) := (C.out.later hb)
      have G' : Hid (GB w.heap.size w y) := (G.out.trans (GB.of_below hb (Nat.le_refl _)))
      have KZ' : Hid (zs.length = q ∧ q ≤ 9 ∧ Own y (w.heap.size + 1) (.slice a1 q c1) zs) := ⟨KZ.out.1, KZ.out.2.1, KZ.out.2.2.later hb⟩
      have P2' : Hid (s15.size ≤ 100) := P2.out
      generalize (Value.slice (some ⟨x.heap.size, 0, none⟩) 42 42) = v16 at hrun' R1'
      go_simp
      refine hK.out _ _ trivial (fun _ => ?_)
      try simp only [Act.put, List.setIfInBounds_toArray, List.set_cons_zero, List.set_cons_succ]
      refine any_listed (l' := #[true, true, true, true, true, true, true, true, false, false, false, false, false, false]) (by kernel_rfl) ?_
      exact H2210 y a1 q c1 zs b v14 s15 v16 C' G' KZ' P2' R1'
  have H0120 : ∀ (x : World) (v14 : Value) (v16 : Value) (s17 : ByteArray), Hid (Cur x w.heap.size ao n c 0) → Hid (GB w.heap.size w x) → Hid (OwnU x (w.heap.size + 1) v14 (List.replicate 40 0)) → Hid (s17.size ≤ 100) → wpAnyH Try.prog ?zzmd ?zzops ?zzQ ?zzS 8 #[true, false, true, false, true, true, false, true, true, false, false, false, false, false] { tmps := #[.slice ao n c, undef, .slice none 0 0, .int .i64 0, .string (ByteArray.mk #[]), .pointer (some ⟨w.heap.size, 0, none⟩), .slice ao n c, .agg #[.slice ao n c, .int .i64 0, .int .u64 0], .pointer (some ⟨w.heap.size, 0, none⟩), .pointer (some ⟨w.heap.size, 0, none⟩), undef, .pointer (some ⟨w.heap.size, 0, none⟩), undef, .pointer (some ⟨w.heap.size, 0, none⟩), v14, undef, v16, .string s17, undef, undef], defers := [] } x := by
    intro x v14 v16 s17 C G P1 R2
    have hxl : w.heap.size < x.heap.size := C.out.lt
    refine wpAnyH_ready (rs := [1, 6]) (by kernel_rfl) (by simp) ?_
    refine AllReadyH.cons (o := _) rfl (fun K hK => ?_) (AllReadyH.cons (o := _) rfl (fun K hK => ?_) AllReadyH.nil)
    · skip
      go_simp
      refine (keys_c w.heap.size ao n c 0 _ (by omega) C.out).mono ?_
      rintro e y ⟨a1, q, c1, zs, rfl, hq9, hzl, ho, hc1, hg1⟩
      have G' : Hid (GB w.heap.size w y) := (G.out.trans hg1)
      have P1' : Hid (OwnU y (w.heap.size + 1) v14 (List.replicate 40 0)) := (keptU P1.out hg1)
      have R2' : Hid (s17.size ≤ 100) := R2.out
      have C' : Hid (Cur y w.heap.size ao n c 100) := hc1
      have KZ' : Hid (zs.length = q ∧ q ≤ 9 ∧ Own y (w.heap.size + 1) (.slice a1 q c1) zs) := ⟨hzl, hq9, ho.mono (by omega)⟩
      refine hK.out _ _ trivial (fun _ => ?_)
      try simp only [Act.put, List.setIfInBounds_toArray, List.set_cons_zero, List.set_cons_succ]
      refine any_listed (l' := #[true, true, true, false, true, true, false, true, true, false, false, false, false, false]) (by kernel_rfl) ?_
      exact H1120 y a1 q c1 zs v14 v16 s17 C' G' KZ' P1' R2'
    · skip
      have hcv := P1.out.text
      obtain ⟨s15, hs⟩ : ∃ s, s = strOfNums (List.replicate 40 0) := ⟨_, rfl⟩
      rw [← hs] at hcv
      have P2' : Hid (s15.size ≤ 100) := by show _ ≤ _; rw [hs]; exact size40
      clear hs
      obtain ⟨y, hy⟩ : ∃ y, y = x := ⟨_, rfl⟩
      have hb : Below x.heap.size x y := by rw [hy]; exact Below.refl _ _
      have C' : Hid (Cur y w.heap.size ao n c 0) := (C.out.later hb)
      have G' : Hid (GB w.heap.size w y) := (G.out.trans (GB.of_below hb (Nat.le_refl _)))
      have R2' : Hid (s17.size ≤ 100) := R2.out
      go_simp
      rw [← hy]
      refine hK.out _ _ trivial (fun _ => ?_)
      try simp only [Act.put, List.setIfInBounds_toArray, List.set_cons_zero, List.set_cons_succ]
      refine any_listed (l' := #[true, false, true, false, true, true, true, true, true, false, false, false, false, false]) (by kernel_rfl) ?_
      exact H0220 y v14 s15 v16 s17 C' G' P2' R2'
  have H0210 : ∀ (x : World) (v14 : Value) (s15 : ByteArray) (v16 : Value), Hid (Cur x w.heap.size ao n c 0) → Hid (GB w.heap.size w x) → Hid (s15.size ≤ 100) → Hid (OwnU x (w.heap.size + 1) v16 (List.replicate 42 0)) → wpAnyH Try.prog ?zzmd ?zzops ?zzQ ?zzS 8 #[true, false, true, false, true, true, true, true, false, false, false, false, false, false] { tmps := #[.slice ao n c, undef, .slice none 0 0, .int .i64 0, .string (ByteArray.mk #[]), .pointer (some ⟨w.heap.size, 0, none⟩), .slice ao n c, .agg #[.slice ao n c, .int .i64 0, .int .u64 0], .pointer (some ⟨w.heap.size, 0, none⟩), .pointer (some ⟨w.heap.size, 0, none⟩), undef, .pointer (some ⟨w.heap.size, 0, none⟩), undef, .pointer (some ⟨w.heap.size, 0, none⟩), v14, .string s15, v16, undef, undef, undef], defers := [] } x := by
    intro x v14 s15 v16 C G P2 R1
    have hxl : w.heap.size < x.heap.size := C.out.lt
    refine wpAnyH_ready (rs := [1, 8]) (by kernel_rfl) (by simp) ?_
    refine AllReadyH.cons (o := _) rfl (fun K hK => ?_) (AllReadyH.cons (o := _) rfl (fun K hK => ?_) AllReadyH.nil)
    · skip
      go_simp
      refine (keys_c w.heap.size ao n c 0 _ (by omega) C.out).mono ?_
      rintro e y ⟨a1, q, c1, zs, rfl, hq9, hzl, ho, hc1, hg1⟩
      have G' : Hid (GB w.heap.size w y) := (G.out.trans hg1)
      have P2' : Hid (s15.size ≤ 100) := P2.out
      have R1' : Hid (OwnU y (w.heap.size + 1) v16 (List.replicate 42 0)) := (keptU R1.out hg1)
      have C' : Hid (Cur y w.heap.size ao n c 100) := hc1
      have KZ' : Hid (zs.length = q ∧ q ≤ 9 ∧ Own y (w.heap.size + 1) (.slice a1 q c1) zs) := ⟨hzl, hq9, ho.mono (by omega)⟩
      refine hK.out _ _ trivial (fun _ => ?_)
      try simp only [Act.put, List.setIfInBounds_toArray, List.set_cons_zero, List.set_cons_succ]
      refine any_listed (l' := #[true, true, true, false, true, true, true, true, false, false, false, false, false, false]) (by kernel_rfl) ?_
      exact H1210 y a1 q c1 zs v14 s15 v16 C' G' KZ' P2' R1'
    · skip
      have hcv := R1.out.text
      obtain ⟨s17, hs⟩ : ∃ s, s = strOfNums (List.replicate 42 0) := ⟨_, rfl⟩
      rw [← hs] at hcv
      have R2' : Hid (s17.size ≤ 100) := by show _ ≤ _; rw [hs]; exact size42
      clear hs
      obtain ⟨y, hy⟩ : ∃ y, y = x := ⟨_, rfl⟩
      have hb : Below x.heap.size x y := by rw [hy]; exact Below.refl _ _
      have C' : Hid (Cur y w.heap.size ao n c 0) := (C.out.later hb)
      have G' : Hid (GB w.heap.size w y) := (G.out.trans (GB.of_below hb (Nat.le_refl _)))
      have P2' : Hid (s15.size ≤ 100) := P2.out
      go_simp
      rw [← hy]
      refine hK.out _ _ trivial (fun _ => ?_)
      try simp only [Act.put, List.setIfInBounds_toArray, List.set_cons_zero, List.set_cons_succ]
      refine any_listed (l' := #[true, false, true, false, true, true, true, true, true, false, false, false, false, false]) (by kernel_rfl) ?_
      exact H0220 y v14 s15 v16 s17 C' G' P2' R2'
  have H1020 : ∀ (x : World) (a1 : Option Addr) (q c1 : Nat) (zs : List Int) (v16 : Value) (s17 : ByteArray), Hid (Cur x w.heap.size ao n c 100) → Hid (GB w.heap.size w x) → Hid (zs.length = q ∧ q ≤ 9 ∧ Own x (w.heap.size + 1) (.slice a1 q c1) zs) → Hid (s17.size ≤ 100) → wpAnyH Try.prog ?zzmd ?zzops ?zzQ ?zzS 8 #[true, true, true, false, true, false, false, true, true, false, false, false, false, false] { tmps := #[.slice ao n c, undef, .slice none 0 0, .int .i64 0, .string (ByteArray.mk #[]), .pointer (some ⟨w.heap.size, 0, none⟩), .slice ao n c, .agg #[.slice ao n c, .int .i64 0, .int .u64 0], .pointer (some ⟨w.heap.size, 0, none⟩), .pointer (some ⟨w.heap.size, 0, none⟩), .slice a1 q c1, .pointer (some ⟨w.heap.size, 0, none⟩), undef, .pointer (some ⟨w.heap.size, 0, none⟩), undef, undef, v16, .string s17, undef, undef], defers := [] } x := by
    intro x a1 q c1 zs v16 s17 C G KZ R2
    have hxl : w.heap.size < x.heap.size := C.out.lt
    refine wpAnyH_ready (rs := [3, 5]) (by kernel_rfl) (by simp) ?_
    refine AllReadyH.cons (o := _) rfl (fun K hK => ?_) (AllReadyH.cons (o := _) rfl (fun K hK => ?_) AllReadyH.nil)
    · skip
      go_simp
      refine (block_c w.heap.size ao n c 100 _ (by omega) C.out).mono ?_
      rintro e y ⟨b, rfl, hc1, hg1⟩
      have G' : Hid (GB w.heap.size w y) := (G.out.trans hg1)
      have KZ' : Hid (zs.length = q ∧ q ≤ 9 ∧ Own y (w.heap.size + 1) (.slice a1 q c1) zs) := ⟨KZ.out.1, KZ.out.2.1, KZ.out.2.2.kept hg1 (sep_own KZ.out.2.2 (by omega))⟩
      have R2' : Hid (s17.size ≤ 100) := R2.out
      have C' : Hid (Cur y w.heap.size ao n c 110) := hc1
      refine hK.out _ _ trivial (fun _ => ?_)
      try simp only [Act.put, List.setIfInBounds_toArray, List.set_cons_zero, List.set_cons_succ]
      refine any_listed (l' := #[true, true, true, true, true, false, false, true, true, false, false, false, false, false]) (by kernel_rfl) ?_
      exact H2020 y a1 q c1 zs b v16 s17 C' G' KZ' R2'
    · skip
      obtain ⟨y, hrun, r1, r2⟩ := run_make_full (P := Try.prog) x (w.heap.size + 1) 22 5 i0 (.int .u8 0) 1 Try.underlying22 hi ii0 ii1 .i64 .i64 40 (by rw [ii2]; omega) (by unfold maxLen; omega) (by omega)
      have hb := below_none r2
      have hrun' : (Instr.makeSlice 22 (.int .i64 40) (.int .i64 40)).run Try.prog x = .ok (.slice (some ⟨x.heap.size, 0, none⟩) 40 40) y := hrun
      clear hrun
      have P1' : Hid (OwnU y (w.heap.size + 1) (.slice (some ⟨x.heap.size, 0, none⟩) 40 40) (List.replicate 40 0)) := made_bytes r1
      clear r1 r2
      have C' : Hid (Cur y w.heap.size ao n c 100) := (C.out.later hb)
      have G' : Hid (GB w.heap.size w y) := (G.out.trans (GB.of_below hb (Nat.le_refl _)))
      have KZ' : Hid (zs.length = q ∧ q ≤ 9 ∧ Own y (w.heap.size + 1) (.slice a1 q c1) zs) := ⟨KZ.out.1, KZ.out.2.1, KZ.out.2.2.later hb⟩
      have R2' : Hid (s17.size ≤ 100) := R2.out
      generalize (Value.slice (some ⟨x.heap.size, 0, none⟩) 40 40) = v14 at hrun' P1'
      go_simp
      refine hK.out _ _ trivial (fun _ => ?_)
      try simp only [Act.put, List.setIfInBounds_toArray, List.set_cons_zero, List.set_cons_succ]
      refine any_listed (l' := #[true, true, true, false, true, true, false, true, true, false, false, false, false, false]) (by kernel_rfl) ?_
      exact H1120 y a1 q c1 zs v14 v16 s17 C' G' KZ' P1' R2'
  have H1110 : ∀ (x : World) (a1 : Option Addr) (q c1 : Nat) (zs : List Int) (v14 : Value) (v16 : Value), Hid (Cur x w.heap.size ao n c 100) → Hid (GB w.heap.size w x) → Hid (zs.length = q ∧ q ≤ 9 ∧ Own x (w.heap.size + 1) (.slice a1 q c1) zs) → Hid (OwnU x (w.heap.size + 1) v14 (List.replicate 40 0)) → Hid (OwnU x (w.heap.size + 1) v16 (List.replicate 42 0)) → wpAnyH Try.prog ?zzmd ?zzops ?zzQ ?zzS 8 #[true, true, true, false, true, true, false, true, false, false, false, false, false, false] { tmps := #[.slice ao n c, undef, .slice none 0 0, .int .i64 0, .string (ByteArray.mk #[]), .pointer (some ⟨w.heap.size, 0, none⟩), .slice ao n c, .agg #[.slice ao n c, .int .i64 0, .int .u64 0], .pointer (some ⟨w.heap.size, 0, none⟩), .pointer (some ⟨w.heap.size, 0, none⟩), .slice a1 q c1, .pointer (some ⟨w.heap.size, 0, none⟩), undef, .pointer (some ⟨w.heap.size, 0, none⟩), v14, undef, v16, undef, undef, undef], defers := [] } x := by
    intro x a1 q c1 zs v14 v16 C G KZ P1 R1
    have hxl : w.heap.size < x.heap.size := C.out.lt
    refine wpAnyH_ready (rs := [3, 6, 8]) (by kernel_rfl) (by simp) ?_
    refine AllReadyH.cons (o := _) rfl (fun K hK => ?_) (AllReadyH.cons (o := _) rfl (fun K hK => ?_) (AllReadyH.cons (o := _) rfl (fun K hK => ?_) AllReadyH.nil))
    · skip
      go_simp
      refine (block_c w.heap.size ao n c 100 _ (by omega) C.out).mono ?_
      rintro e y ⟨b, rfl, hc1, hg1⟩
      have G' : Hid (GB w.heap.size w y) := (G.out.trans hg1)
      have KZ' : Hid (zs.length = q ∧ q ≤ 9 ∧ Own y (w.heap.size + 1) (.slice a1 q c1) zs) := ⟨KZ.out.1, KZ.out.2.1, KZ.out.2.2.kept hg1 (sep_own KZ.out.2.2 (by omega))⟩
      have P1' : Hid (OwnU y (w.heap.size + 1) v14 (List.replicate 40 0)) := (keptU P1.out hg1)
      have R1' : Hid (OwnU y (w.heap.size + 1) v16 (List.replicate 42 0)) := (keptU R1.out hg1)
      have C' : Hid (Cur y w.heap.size ao n c 110) := hc1
      refine hK.out _ _ trivial (fun _ => ?_)
      try simp only [Act.put, List.setIfInBounds_toArray, List.set_cons_zero, List.set_cons_succ]
      refine any_listed (l' := #[true, true, true, true, true, true, false, true, false, false, false, false, false, false]) (by kernel_rfl) ?_
      exact H2110 y a1 q c1 zs b v14 v16 C' G' KZ' P1' R1'
    · skip
      have hcv := P1.out.text
      obtain ⟨s15, hs⟩ : ∃ s, s = strOfNums (List.replicate 40 0) := ⟨_, rfl⟩
      rw [← hs] at hcv
      have P2' : Hid (s15.size ≤ 100) := by show _ ≤ _; rw [hs]; exact size40
      clear hs
      obtain ⟨y, hy⟩ : ∃ y, y = x := ⟨_, rfl⟩
      have hb : Below x.heap.size x y := by rw [hy]; exact Below.refl _ _
      have C' : Hid (Cur y w.heap.size ao n c 100) := (C.out.later hb)
      have G' : Hid (GB w.heap.size w y) := (G.out.trans (GB.of_below hb (Nat.le_refl _)))
      have KZ' : Hid (zs.length = q ∧ q ≤ 9 ∧ Own y (w.heap.size + 1) (.slice a1 q c1) zs) := ⟨KZ.out.1, KZ.out.2.1, KZ.out.2.2.later hb⟩
      have R1' : Hid (OwnU y (w.heap.size + 1) v16 (List.replicate 42 0)) := (ownsRow_later R1.out hb)
      go_simp
      rw [← hy]
      refine hK.out _ _ trivial (fun _ => ?_)
      try simp only [Act.put, List.setIfInBounds_toArray, List.set_cons_zero, List.set_cons_succ]
      refine any_listed (l' := #[true, true, true, false, true, true, true, true, false, false, false, false, false, false]) (by kernel_rfl) ?_
      exact H1210 y a1 q c1 zs v14 s15 v16 C' G' KZ' P2' R1'
    · skip
      have hcv := R1.out.text
      obtain ⟨s17, hs⟩ : ∃ s, s = strOfNums (List.replicate 42 0) := ⟨_, rfl⟩
      rw [← hs] at hcv
      have R2' : Hid (s17.size ≤ 100) := by show _ ≤ _; rw [hs]; exact size42
      clear hs
      obtain ⟨y, hy⟩ : ∃ y, y = x := ⟨_, rfl⟩
      have hb : Below x.heap.size x y := by rw [hy]; exact Below.refl _ _
      have C' : Hid (Cur y w.heap.size ao n c 100) := (C.out.later hb)
      have G' : Hid (GB w.heap.size w y) := (G.out.trans (GB.of_below hb (Nat.le_refl _)))
      have KZ' : Hid (zs.length = q ∧ q ≤ 9 ∧ Own y (w.heap.size + 1) (.slice a1 q c1) zs) := ⟨KZ.out.1, KZ.out.2.1, KZ.out.2.2.later hb⟩
      have P1' : Hid (OwnU y (w.heap.size + 1) v14 (List.replicate 40 0)) := (ownsRow_later P1.out hb)
      go_simp
      rw [← hy]
      refine hK.out _ _ trivial (fun _ => ?_)
      try simp only [Act.put, List.setIfInBounds_toArray, List.set_cons_zero, List.set_cons_succ]
      refine any_listed (l' := #[true, true, true, false, true, true, false, true, true, false, false, false, false, false]) (by kernel_rfl) ?_
      exact H1120 y a1 q c1 zs v14 v16 s17 C' G' KZ' P1' R2'
  have H1200 : ∀ (x : World) (a1 : Option Addr) (q c1 : Nat) (zs : List Int) (v14 : Value) (s15 : ByteArray), Hid (Cur x w.heap.size ao n c 100) → Hid (GB w.heap.size w x) → Hid (zs.length = q ∧ q ≤ 9 ∧ Own x (w.heap.size + 1) (.slice a1 q c1) zs) → Hid (s15.size ≤ 100) → wpAnyH Try.prog ?zzmd ?zzops ?zzQ ?zzS 8 #[true, true, true, false, true, true, true, false, false, false, false, false, false, false] { tmps := #[.slice ao n c, undef, .slice none 0 0, .int .i64 0, .string (ByteArray.mk #[]), .pointer (some ⟨w.heap.size, 0, none⟩), .slice ao n c, .agg #[.slice ao n c, .int .i64 0, .int .u64 0], .pointer (some ⟨w.heap.size, 0, none⟩), .pointer (some ⟨w.heap.size, 0, none⟩), .slice a1 q c1, .pointer (some ⟨w.heap.size, 0, none⟩), undef, .pointer (some ⟨w.heap.size, 0, none⟩), v14, .string s15, undef, undef, undef, undef], defers := [] } x := by
    intro x a1 q c1 zs v14 s15 C G KZ P2
    have hxl : w.heap.size < x.heap.size := C.out.lt
    refine wpAnyH_ready (rs := [3, 7]) (by kernel_rfl) (by simp) ?_
    refine AllReadyH.cons (o := _) rfl (fun K hK => ?_) (AllReadyH.cons (o := _) rfl (fun K hK => ?_) AllReadyH.nil)
    · skip
      go_simp
      refine (block_c w.heap.size ao n c 100 _ (by omega) C.out).mono ?_
      rintro e y ⟨b, rfl, hc1, hg1⟩
      have G' : Hid (GB w.heap.size w y) := (G.out.trans hg1)
      have KZ' : Hid (zs.length = q ∧ q ≤ 9 ∧ Own y (w.heap.size + 1) (.slice a1 q c1) zs) := ⟨KZ.out.1, KZ.out.2.1, KZ.out.2.2.kept hg1 (sep_own KZ.out.2.2 (by omega))⟩
      have P2' : Hid (s15.size ≤ 100) := P2.out
      have C' : Hid (Cur y w.heap.size ao n c 110) := hc1
      refine hK.out _ _ trivial (fun _ => ?_)
      try simp only [Act.put, List.setIfInBounds_toArray, List.set_cons_zero, List.set_cons_succ]
      refine any_listed (l' := #[true, true, true, true, true, true, true, false, false, false, false, false, false, false]) (by kernel_rfl) ?_
      exact H2200 y a1 q c1 zs b v14 s15 C' G' KZ' P2'
    · skip
      obtain ⟨y, hrun, r1, r2⟩ := run_make_full (P := Try.prog) x (w.heap.size + 1) 22 5 i0 (.int .u8 0) 1 Try.underlying22 hi ii0 ii1 .i64 .i64 42 (by rw [ii2]; omega) (by unfold maxLen; omega) (by omega)
      have hb := below_none r2
      have hrun' : (Instr.makeSlice 22 (.int .i64 42) (.int .i64 42)).run Try.prog x = .ok (.slice (some ⟨x.heap.size, 0, none⟩) 42 42) y := hrun
      clear hrun
      have R1' : Hid (OwnU y (w.heap.size + 1) (.slice (some ⟨x.heap.size, 0, none⟩) 42 42) (List.replicate 42 0)) := made_bytes r1
      clear r1 r2
      have C' : Hid (Cur y w.heap.size ao n c 100) := (C.out.later hb)
      have G' : Hid (GB w.heap.size w y) := (G.out.trans (GB.of_below hb (Nat.le_refl _)))
      have KZ' : Hid (zs.length = q ∧ q ≤ 9 ∧ Own y (w.heap.size + 1) (.slice a1 q c1) zs) := ⟨KZ.out.1, KZ.out.2.1, KZ.out.2.2.later hb⟩
      have P2' : Hid (s15.size ≤ 100) := P2.out
      generalize (Value.slice (some ⟨x.heap.size, 0, none⟩) 42 42) = v16 at hrun' R1'
      go_simp
      refine hK.out _ _ trivial (fun _ => ?_)
      try simp only [Act.put, List.setIfInBounds_toArray, List.set_cons_zero, List.set_cons_succ]
      refine any_listed (l' := #[true, true, true, false, true, true, true, true, false, false, false, false, false, false]) (by kernel_rfl) ?_
      exact H1210 y a1 q c1 zs v14 s15 v16 C' G' KZ' P2' R1'
  have H2010 : ∀ (x : World) (a1 : Option Addr) (q c1 : Nat) (zs : List Int) (b : Int) (v16 : Value), Hid (Cur x w.heap.size ao n c 110) → Hid (GB w.heap.size w x) → Hid (zs.length = q ∧ q ≤ 9 ∧ Own x (w.heap.size + 1) (.slice a1 q c1) zs) → Hid (OwnU x (w.heap.size + 1) v16 (List.replicate 42 0)) → wpAnyH Try.prog ?zzmd ?zzops ?zzQ ?zzS 8 #[true, true, true, true, true, false, false, true, false, false, false, false, false, false] { tmps := #[.slice ao n c, undef, .slice none 0 0, .int .i64 0, .string (ByteArray.mk #[]), .pointer (some ⟨w.heap.size, 0, none⟩), .slice ao n c, .agg #[.slice ao n c, .int .i64 0, .int .u64 0], .pointer (some ⟨w.heap.size, 0, none⟩), .pointer (some ⟨w.heap.size, 0, none⟩), .slice a1 q c1, .pointer (some ⟨w.heap.size, 0, none⟩), .int .i64 b, .pointer (some ⟨w.heap.size, 0, none⟩), undef, undef, v16, undef, undef, undef], defers := [] } x := by
    intro x a1 q c1 zs b v16 C G KZ R1
    have hxl : w.heap.size < x.heap.size := C.out.lt
    refine wpAnyH_ready (rs := [5, 8]) (by kernel_rfl) (by simp) ?_
    refine AllReadyH.cons (o := _) rfl (fun K hK => ?_) (AllReadyH.cons (o := _) rfl (fun K hK => ?_) AllReadyH.nil)
    · skip
      obtain ⟨y, hrun, r1, r2⟩ := run_make_full (P := Try.prog) x (w.heap.size + 1) 22 5 i0 (.int .u8 0) 1 Try.underlying22 hi ii0 ii1 .i64 .i64 40 (by rw [ii2]; omega) (by unfold maxLen; omega) (by omega)
      have hb := below_none r2
      have hrun' : (Instr.makeSlice 22 (.int .i64 40) (.int .i64 40)).run Try.prog x = .ok (.slice (some ⟨x.heap.size, 0, none⟩) 40 40) y := hrun
      clear hrun
      have P1' : Hid (OwnU y (w.heap.size + 1) (.slice (some ⟨x.heap.size, 0, none⟩) 40 40) (List.replicate 40 0)) := made_bytes r1
      clear r1 r2
      have C' : Hid (Cur y w.heap.size ao n c 110) := (C.out.later hb)
      have G' : Hid (GB w.heap.size w y) := (G.out.trans (GB.of_below hb (Nat.le_refl _)))
      have KZ' : Hid (zs.length = q ∧ q ≤ 9 ∧ Own y (w.heap.size + 1) (.slice a1 q c1) zs) := ⟨KZ.out.1, KZ.out.2.1, KZ.out.2.2.later hb⟩
      have R1' : Hid (OwnU y (w.heap.size + 1) v16 (List.replicate 42 0)) := (ownsRow_later R1.out hb)
      generalize (Value.slice (some ⟨x.heap.size, 0, none⟩) 40 40) = v14 at hrun' P1'
      go_simp
      refine hK.out _ _ trivial (fun _ => ?_)
      try simp only [Act.put, List.setIfInBounds_toArray, List.set_cons_zero, List.set_cons_succ]
      refine any_listed (l' := #[true, true, true, true, true, true, false, true, false, false, false, false, false, false]) (by kernel_rfl) ?_
      exact H2110 y a1 q c1 zs b v14 v16 C' G' KZ' P1' R1'
    · skip
      have hcv := R1.out.text
      obtain ⟨s17, hs⟩ : ∃ s, s = strOfNums (List.replicate 42 0) := ⟨_, rfl⟩
      rw [← hs] at hcv
      have R2' : Hid (s17.size ≤ 100) := by show _ ≤ _; rw [hs]; exact size42
      clear hs
      obtain ⟨y, hy⟩ : ∃ y, y = x := ⟨_, rfl⟩
      have hb : Below x.heap.size x y := by rw [hy]; exact Below.refl _ _
      have C' : Hid (Cur y w.heap.size ao n c 110) := (C.out.later hb)
      have G' : Hid (GB w.heap.size w y) := (G.out.trans (GB.of_below hb (Nat.le_refl _)))
      have KZ' : Hid (zs.length = q ∧ q ≤ 9 ∧ Own y (w.heap.size + 1) (.slice a1 q c1) zs) := ⟨KZ.out.1, KZ.out.2.1, KZ.out.2.2.later hb⟩
      go_simp
      rw [← hy]
      refine hK.out _ _ trivial (fun _ => ?_)
      try simp only [Act.put, List.setIfInBounds_toArray, List.set_cons_zero, List.set_cons_succ]
      refine any_listed (l' := #[true, true, true, true, true, false, false, true, true, false, false, false, false, false]) (by kernel_rfl) ?_
      exact H2020 y a1 q c1 zs b v16 s17 C' G' KZ' R2'
  have H2100 : ∀ (x : World) (a1 : Option Addr) (q c1 : Nat) (zs : List Int) (b : Int) (v14 : Value), Hid (Cur x w.heap.size ao n c 110) → Hid (GB w.heap.size w x) → Hid (zs.length = q ∧ q ≤ 9 ∧ Own x (w.heap.size + 1) (.slice a1 q c1) zs) → Hid (OwnU x (w.heap.size + 1) v14 (List.replicate 40 0)) → wpAnyH Try.prog ?zzmd ?zzops ?zzQ ?zzS 8 #[true, true, true, true, true, true, false, false, false, false, false, false, false, false] { tmps := #[.slice ao n c, undef, .slice none 0 0, .int .i64 0, .string (ByteArray.mk #[]), .pointer (some ⟨w.heap.size, 0, none⟩), .slice ao n c, .agg #[.slice ao n c, .int .i64 0, .int .u64 0], .pointer (some ⟨w.heap.size, 0, none⟩), .pointer (some ⟨w.heap.size, 0, none⟩), .slice a1 q c1, .pointer (some ⟨w.heap.size, 0, none⟩), .int .i64 b, .pointer (some ⟨w.heap.size, 0, none⟩), v14, undef, undef, undef, undef, undef], defers := [] } x := by
    intro x a1 q c1 zs b v14 C G KZ P1
    have hxl : w.heap.size < x.heap.size := C.out.lt
    refine wpAnyH_ready (rs := [6, 7]) (by kernel_rfl) (by simp) ?_
    refine AllReadyH.cons (o := _) rfl (fun K hK => ?_) (AllReadyH.cons (o := _) rfl (fun K hK => ?_) AllReadyH.nil)
    · skip
      have hcv := P1.out.text
      obtain ⟨s15, hs⟩ : ∃ s, s = strOfNums (List.replicate 40 0) := ⟨_, rfl⟩
      rw [← hs] at hcv
      have P2' : Hid (s15.size ≤ 100) := by show _ ≤ _; rw [hs]; exact size40
      clear hs
      obtain ⟨y, hy⟩ : ∃ y, y = x := ⟨_, rfl⟩
      have hb : Below x.heap.size x y := by rw [hy]; exact Below.refl _ _
      have C' : Hid (Cur y w.heap.size ao n c 110) := (C.out.later hb)
      have G' : Hid (GB w.heap.size w y) := (G.out.trans (GB.of_below hb (Nat.le_refl _)))
      have KZ' : Hid (zs.length = q ∧ q ≤ 9 ∧ Own y (w.heap.size + 1) (.slice a1 q c1) zs) := ⟨KZ.out.1, KZ.out.2.1, KZ.out.2.2.later hb⟩
      go_simp
      rw [← hy]
      refine hK.out _ _ trivial (fun _ => ?_)
      try simp only [Act.put, List.setIfInBounds_toArray, List.set_cons_zero, List.set_cons_succ]
      refine any_listed (l' := #[true, true, true, true, true, true, true, false, false, false, false, false, false, false]) (by kernel_rfl) ?_
      exact H2200 y a1 q c1 zs b v14 s15 C' G' KZ' P2'
    · skip
      obtain ⟨y, hrun, r1, r2⟩ := run_make_full (P := Try.prog) x (w.heap.size + 1) 22 5 i0 (.int .u8 0) 1 Try.underlying22 hi ii0 ii1 .i64 .i64 42 (by rw [ii2]; omega) (by unfold maxLen; omega) (by omega)
      have hb := below_none r2
      have hrun' : (Instr.makeSlice 22 (.int .i64 42) (.int .i64 42)).run Try.prog x = .ok (.slice (some ⟨x.heap.size, 0, none⟩) 42 42) y := hrun
      clear hrun
      have R1' : Hid (OwnU y (w.heap.size + 1) (.slice (some ⟨x.heap.size, 0, none⟩) 42 42) (List.replicate 42 0)) := made_bytes r1
      clear r1 r2
      have C' : Hid (Cur y w.heap.size ao n c 110) := (C.out.later hb)
      have G' : Hid (GB w.heap.size w y) := (G.out.trans (GB.of_below hb (Nat.le_refl _)))
      have KZ' : Hid (zs.length = q ∧ q ≤ 9 ∧ Own y (w.heap.size + 1) (.slice a1 q c1) zs) := ⟨KZ.out.1, KZ.out.2.1, KZ.out.2.2.later hb⟩
      have P1' : Hid (OwnU y (w.heap.size + 1) v14 (List.replicate 40 0)) := (ownsRow_later P1.out hb)
      generalize (Value.slice (some ⟨x.heap.size, 0, none⟩) 42 42) = v16 at hrun' R1'
      go_simp
      refine hK.out _ _ trivial (fun _ => ?_)
      try simp only [Act.put, List.setIfInBounds_toArray, List.set_cons_zero, List.set_cons_succ]
      refine any_listed (l' := #[true, true, true, true, true, true, false, true, false, false, false, false, false, false]) (by kernel_rfl) ?_
      exact H2110 y a1 q c1 zs b v14 v16 C' G' KZ' P1' R1'
  have H0020 : ∀ (x : World) (v16 : Value) (s17 : ByteArray), Hid (Cur x w.heap.size ao n c 0) → Hid (GB w.heap.size w x) → Hid (s17.size ≤ 100) → wpAnyH Try.prog ?zzmd ?zzops ?zzQ ?zzS 9 #[true, false, true, false, true, false, false, true, true, false, false, false, false, false] { tmps := #[.slice ao n c, undef, .slice none 0 0, .int .i64 0, .string (ByteArray.mk #[]), .pointer (some ⟨w.heap.size, 0, none⟩), .slice ao n c, .agg #[.slice ao n c, .int .i64 0, .int .u64 0], .pointer (some ⟨w.heap.size, 0, none⟩), .pointer (some ⟨w.heap.size, 0, none⟩), undef, .pointer (some ⟨w.heap.size, 0, none⟩), undef, .pointer (some ⟨w.heap.size, 0, none⟩), undef, undef, v16, .string s17, undef, undef], defers := [] } x := by
    intro x v16 s17 C G R2
    have hxl : w.heap.size < x.heap.size := C.out.lt
    refine wpAnyH_ready (rs := [1, 5]) (by kernel_rfl) (by simp) ?_
    refine AllReadyH.cons (o := _) rfl (fun K hK => ?_) (AllReadyH.cons (o := _) rfl (fun K hK => ?_) AllReadyH.nil)
    · skip
      go_simp
      refine (keys_c w.heap.size ao n c 0 _ (by omega) C.out).mono ?_
      rintro e y ⟨a1, q, c1, zs, rfl, hq9, hzl, ho, hc1, hg1⟩
      have G' : Hid (GB w.heap.size w y) := (G.out.trans hg1)
      have R2' : Hid (s17.size ≤ 100) := R2.out
      have C' : Hid (Cur y w.heap.size ao n c 100) := hc1
      have KZ' : Hid (zs.length = q ∧ q ≤ 9 ∧ Own y (w.heap.size + 1) (.slice a1 q c1) zs) := ⟨hzl, hq9, ho.mono (by omega)⟩
      refine hK.out _ _ trivial (fun _ => ?_)
      try simp only [Act.put, List.setIfInBounds_toArray, List.set_cons_zero, List.set_cons_succ]
      refine any_listed (l' := #[true, true, true, false, true, false, false, true, true, false, false, false, false, false]) (by kernel_rfl) ?_
      exact H1020 y a1 q c1 zs v16 s17 C' G' KZ' R2'
    · skip
      obtain ⟨y, hrun, r1, r2⟩ := run_make_full (P := Try.prog) x (w.heap.size + 1) 22 5 i0 (.int .u8 0) 1 Try.underlying22 hi ii0 ii1 .i64 .i64 40 (by rw [ii2]; omega) (by unfold maxLen; omega) (by omega)
      have hb := below_none r2
      have hrun' : (Instr.makeSlice 22 (.int .i64 40) (.int .i64 40)).run Try.prog x = .ok (.slice (some ⟨x.heap.size, 0, none⟩) 40 40) y := hrun
      clear hrun
      have P1' : Hid (OwnU y (w.heap.size + 1) (.slice (some ⟨x.heap.size, 0, none⟩) 40 40) (List.replicate 40 0)) := made_bytes r1
      clear r1 r2
      have C' : Hid (Cur y w.heap.size ao n c 0) := (C.out.later hb)
      have G' : Hid (GB w.heap.size w y) := (G.out.trans (GB.of_below hb (Nat.le_refl _)))
      have R2' : Hid (s17.size ≤ 100) := R2.out
      generalize (Value.slice (some ⟨x.heap.size, 0, none⟩) 40 40) = v14 at hrun' P1'
      go_simp
      refine hK.out _ _ trivial (fun _ => ?_)
      try simp only [Act.put, List.setIfInBounds_toArray, List.set_cons_zero, List.set_cons_succ]
      refine any_listed (l' := #[true, false, true, false, true, true, false, true, true, false, false, false, false, false]) (by kernel_rfl) ?_
      exact H0120 y v14 v16 s17 C' G' P1' R2'
  have H0110 : ∀ (x : World) (v14 : Value) (v16 : Value), Hid (Cur x w.heap.size ao n c 0) → Hid (GB w.heap.size w x) → Hid (OwnU x (w.heap.size + 1) v14 (List.replicate 40 0)) → Hid (OwnU x (w.heap.size + 1) v16 (List.replicate 42 0)) → wpAnyH Try.prog ?zzmd ?zzops ?zzQ ?zzS 9 #[true, false, true, false, true, true, false, true, false, false, false, false, false, false] { tmps := #[.slice ao n c, undef, .slice none 0 0, .int .i64 0, .string (ByteArray.mk #[]), .pointer (some ⟨w.heap.size, 0, none⟩), .slice ao n c, .agg #[.slice ao n c, .int .i64 0, .int .u64 0], .pointer (some ⟨w.heap.size, 0, none⟩), .pointer (some ⟨w.heap.size, 0, none⟩), undef, .pointer (some ⟨w.heap.size, 0, none⟩), undef, .pointer (some ⟨w.heap.size, 0, none⟩), v14, undef, v16, undef, undef, undef], defers := [] } x := by
    intro x v14 v16 C G P1 R1
    have hxl : w.heap.size < x.heap.size := C.out.lt
    refine wpAnyH_ready (rs := [1, 6, 8]) (by kernel_rfl) (by simp) ?_
    refine AllReadyH.cons (o := _) rfl (fun K hK => ?_) (AllReadyH.cons (o := _) rfl (fun K hK => ?_) (AllReadyH.cons (o := _) rfl (fun K hK => ?_) AllReadyH.nil))
    · skip
      go_simp
      refine (keys_c w.heap.size ao n c 0 _ (by omega) C.out).mono ?_
      rintro e y ⟨a1, q, c1, zs, rfl, hq9, hzl, ho, hc1, hg1⟩
      have G' : Hid (GB w.heap.size w y) := (G.out.trans hg1)
      have P1' : Hid (OwnU y (w.heap.size + 1) v14 (List.replicate 40 0)) := (keptU P1.out hg1)
      have R1' : Hid (OwnU y (w.heap.size + 1) v16 (List.replicate 42 0)) := (keptU R1.out hg1)
      have C' : Hid (Cur y w.heap.size ao n c 100) := hc1
      have KZ' : Hid (zs.length = q ∧ q ≤ 9 ∧ Own y (w.heap.size + 1) (.slice a1 q c1) zs) := ⟨hzl, hq9, ho.mono (by omega)⟩
      refine hK.out _ _ trivial (fun _ => ?_)
      try simp only [Act.put, List.setIfInBounds_toArray, List.set_cons_zero, List.set_cons_succ]
      refine any_listed (l' := #[true, true, true, false, true, true, false, true, false, false, false, false, false, false]) (by kernel_rfl) ?_
      exact H1110 y a1 q c1 zs v14 v16 C' G' KZ' P1' R1'
    · skip
      have hcv := P1.out.text
      obtain ⟨s15, hs⟩ : ∃ s, s = strOfNums (List.replicate 40 0) := ⟨_, rfl⟩
      rw [← hs] at hcv
      have P2' : Hid (s15.size ≤ 100) := by show _ ≤ _; rw [hs]; exact size40
      clear hs
      obtain ⟨y, hy⟩ : ∃ y, y = x := ⟨_, rfl⟩
      have hb : Below x.heap.size x y := by rw [hy]; exact Below.refl _ _
      have C' : Hid (Cur y w.heap.size ao n c 0) := (C.out.later hb)
      have G' : Hid (GB w.heap.size w y) := (G.out.trans (GB.of_below hb (Nat.le_refl _)))
      have R1' : Hid (OwnU y (w.heap.size + 1) v16 (List.replicate 42 0)) := (ownsRow_later R1.out hb)
      go_simp
      rw [← hy]
      refine hK.out _ _ trivial (fun _ => ?_)
      try simp only [Act.put, List.setIfInBounds_toArray, List.set_cons_zero, List.set_cons_succ]
      refine any_listed (l' := #[true, false, true, false, true, true, true, true, false, false, false, false, false, false]) (by kernel_rfl) ?_
      exact H0210 y v14 s15 v16 C' G' P2' R1'
    · skip
      have hcv := R1.out.text
      obtain ⟨s17, hs⟩ : ∃ s, s = strOfNums (List.replicate 42 0) := ⟨_, rfl⟩
      rw [← hs] at hcv
      have R2' : Hid (s17.size ≤ 100) := by show _ ≤ _; rw [hs]; exact size42
      clear hs
      obtain ⟨y, hy⟩ : ∃ y, y = x := ⟨_, rfl⟩
      have hb : Below x.heap.size x y := by rw [hy]; exact Below.refl _ _
      have C' : Hid (Cur y w.heap.size ao n c 0) := (C.out.later hb)
      have G' : Hid (GB w.heap.size w y) := (G.out.trans (GB.of_below hb (Nat.le_refl _)))
      have P1' : Hid (OwnU y (w.heap.size + 1) v14 (List.replicate 40 0)) := (ownsRow_later P1.out hb)
      go_simp
      rw [← hy]
      refine hK.out _ _ trivial (fun _ => ?_)
      try simp only [Act.put, List.setIfInBounds_toArray, List.set_cons_zero, List.set_cons_succ]
      refine any_listed (l' := #[true, false, true, false, true, true, false, true, true, false, false, false, false, false]) (by kernel_rfl) ?_
      exact H0120 y v14 v16 s17 C' G' P1' R2'
  have H0200 : ∀ (x : World) (v14 : Value) (s15 : ByteArray), Hid (Cur x w.heap.size ao n c 0) → Hid (GB w.heap.size w x) → Hid (s15.size ≤ 100) → wpAnyH Try.prog ?zzmd ?zzops ?zzQ ?zzS 9 #[true, false, true, false, true, true, true, false, false, false, false, false, false, false] { tmps := #[.slice ao n c, undef, .slice none 0 0, .int .i64 0, .string (ByteArray.mk #[]), .pointer (some ⟨w.heap.size, 0, none⟩), .slice ao n c, .agg #[.slice ao n c, .int .i64 0, .int .u64 0], .pointer (some ⟨w.heap.size, 0, none⟩), .pointer (some ⟨w.heap.size, 0, none⟩), undef, .pointer (some ⟨w.heap.size, 0, none⟩), undef, .pointer (some ⟨w.heap.size, 0, none⟩), v14, .string s15, undef, undef, undef, undef], defers := [] } x := by
    intro x v14 s15 C G P2
    have hxl : w.heap.size < x.heap.size := C.out.lt
    refine wpAnyH_ready (rs := [1, 7]) (by kernel_rfl) (by simp) ?_
    refine AllReadyH.cons (o := _) rfl (fun K hK => ?_) (AllReadyH.cons (o := _) rfl (fun K hK => ?_) AllReadyH.nil)
    · skip
      go_simp
      refine (keys_c w.heap.size ao n c 0 _ (by omega) C.out).mono ?_
      rintro e y ⟨a1, q, c1, zs, rfl, hq9, hzl, ho, hc1, hg1⟩
      have G' : Hid (GB w.heap.size w y) := (G.out.trans hg1)
      have P2' : Hid (s15.size ≤ 100) := P2.out
      have C' : Hid (Cur y w.heap.size ao n c 100) := hc1
      have KZ' : Hid (zs.length = q ∧ q ≤ 9 ∧ Own y (w.heap.size + 1) (.slice a1 q c1) zs) := ⟨hzl, hq9, ho.mono (by omega)⟩
      refine hK.out _ _ trivial (fun _ => ?_)
      try simp only [Act.put, List.setIfInBounds_toArray, List.set_cons_zero, List.set_cons_succ]
      refine any_listed (l' := #[true, true, true, false, true, true, true, false, false, false, false, false, false, false]) (by kernel_rfl) ?_
      exact H1200 y a1 q c1 zs v14 s15 C' G' KZ' P2'
    · skip
      obtain ⟨y, hrun, r1, r2⟩ := run_make_full (P := Try.prog) x (w.heap.size + 1) 22 5 i0 (.int .u8 0) 1 Try.underlying22 hi ii0 ii1 .i64 .i64 42 (by rw [ii2]; omega) (by unfold maxLen; omega) (by omega)
      have hb := below_none r2
      have hrun' : (Instr.makeSlice 22 (.int .i64 42) (.int .i64 42)).run Try.prog x = .ok (.slice (some ⟨x.heap.size, 0, none⟩) 42 42) y := hrun
      clear hrun
      have R1' : Hid (OwnU y (w.heap.size + 1) (.slice (some ⟨x.heap.size, 0, none⟩) 42 42) (List.replicate 42 0)) := made_bytes r1
      clear r1 r2
      have C' : Hid (Cur y w.heap.size ao n c 0) := (C.out.later hb)
      have G' : Hid (GB w.heap.size w y) := (G.out.trans (GB.of_below hb (Nat.le_refl _)))
      have P2' : Hid (s15.size ≤ 100) := P2.out
      generalize (Value.slice (some ⟨x.heap.size, 0, none⟩) 42 42) = v16 at hrun' R1'
      go_simp
      refine hK.out _ _ trivial (fun _ => ?_)
      try simp only [Act.put, List.setIfInBounds_toArray, List.set_cons_zero, List.set_cons_succ]
      refine any_listed (l' := #[true, false, true, false, true, true, true, true, false, false, false, false, false, false]) (by kernel_rfl) ?_
      exact H0210 y v14 s15 v16 C' G' P2' R1'
  have H1010 : ∀ (x : World) (a1 : Option Addr) (q c1 : Nat) (zs : List Int) (v16 : Value), Hid (Cur x w.heap.size ao n c 100) → Hid (GB w.heap.size w x) → Hid (zs.length = q ∧ q ≤ 9 ∧ Own x (w.heap.size + 1) (.slice a1 q c1) zs) → Hid (OwnU x (w.heap.size + 1) v16 (List.replicate 42 0)) → wpAnyH Try.prog ?zzmd ?zzops ?zzQ ?zzS 9 #[true, true, true, false, true, false, false, true, false, false, false, false, false, false] { tmps := #[.slice ao n c, undef, .slice none 0 0, .int .i64 0, .string (ByteArray.mk #[]), .pointer (some ⟨w.heap.size, 0, none⟩), .slice ao n c, .agg #[.slice ao n c, .int .i64 0, .int .u64 0], .pointer (some ⟨w.heap.size, 0, none⟩), .pointer (some ⟨w.heap.size, 0, none⟩), .slice a1 q c1, .pointer (some ⟨w.heap.size, 0, none⟩), undef, .pointer (some ⟨w.heap.size, 0, none⟩), undef, undef, v16, undef, undef, undef], defers := [] } x := by
    intro x a1 q c1 zs v16 C G KZ R1
    have hxl : w.heap.size < x.heap.size := C.out.lt
    refine wpAnyH_ready (rs := [3, 5, 8]) (by kernel_rfl) (by simp) ?_
    refine AllReadyH.cons (o := _) rfl (fun K hK => ?_) (AllReadyH.cons (o := _) rfl (fun K hK => ?_) (AllReadyH.cons (o := _) rfl (fun K hK => ?_) AllReadyH.nil))
    · skip
      go_simp
      refine (block_c w.heap.size ao n c 100 _ (by omega) C.out).mono ?_
      rintro e y ⟨b, rfl, hc1, hg1⟩
      have G' : Hid (GB w.heap.size w y) := (G.out.trans hg1)
      have KZ' : Hid (zs.length = q ∧ q ≤ 9 ∧ Own y (w.heap.size + 1) (.slice a1 q c1) zs) := ⟨KZ.out.1, KZ.out.2.1, KZ.out.2.2.kept hg1 (sep_own KZ.out.2.2 (by omega))⟩
      have R1' : Hid (OwnU y (w.heap.size + 1) v16 (List.replicate 42 0)) := (keptU R1.out hg1)
      have C' : Hid (Cur y w.heap.size ao n c 110) := hc1
      refine hK.out _ _ trivial (fun _ => ?_)
      try simp only [Act.put, List.setIfInBounds_toArray, List.set_cons_zero, List.set_cons_succ]
      refine any_listed (l' := #[true, true, true, true, true, false, false, true, false, false, false, false, false, false]) (by kernel_rfl) ?_
      exact H2010 y a1 q c1 zs b v16 C' G' KZ' R1'
    · skip
      obtain ⟨y, hrun, r1, r2⟩ := run_make_full (P := Try.prog) x (w.heap.size + 1) 22 5 i0 (.int .u8 0) 1 Try.underlying22 hi ii0 ii1 .i64 .i64 40 (by rw [ii2]; omega) (by unfold maxLen; omega) (by omega)
      have hb := below_none r2
      have hrun' : (Instr.makeSlice 22 (.int .i64 40) (.int .i64 40)).run Try.prog x = .ok (.slice (some ⟨x.heap.size, 0, none⟩) 40 40) y := hrun
      clear hrun
      have P1' : Hid (OwnU y (w.heap.size + 1) (.slice (some ⟨x.heap.size, 0, none⟩) 40 40) (List.replicate 40 0)) := made_bytes r1
      clear r1 r2
      have C' : Hid (Cur y w.heap.size ao n c 100) := (C.out.later hb)
      have G' : Hid (GB w.heap.size w y) := (G.out.trans (GB.of_below hb (Nat.le_refl _)))
      have KZ' : Hid (zs.length = q ∧ q ≤ 9 ∧ Own y (w.heap.size + 1) (.slice a1 q c1) zs) := ⟨KZ.out.1, KZ.out.2.1, KZ.out.2.2.later hb⟩
      have R1' : Hid (OwnU y (w.heap.size + 1) v16 (List.replicate 42 0)) := (ownsRow_later R1.out hb)
      generalize (Value.slice (some ⟨x.heap.size, 0, none⟩) 40 40) = v14 at hrun' P1'
      go_simp
      refine hK.out _ _ trivial (fun _ => ?_)
      try simp only [Act.put, List.setIfInBounds_toArray, List.set_cons_zero, List.set_cons_succ]
      refine any_listed (l' := #[true, true, true, false, true, true, false, true, false, false, false, false, false, false]) (by kernel_rfl) ?_
      exact H1110 y a1 q c1 zs v14 v16 C' G' KZ' P1' R1'
    · skip
      have hcv := R1.out.text
      obtain ⟨s17, hs⟩ : ∃ s, s = strOfNums (List.replicate 42 0) := ⟨_, rfl⟩
      rw [← hs] at hcv
      have R2' : Hid (s17.size ≤ 100) := by show _ ≤ _; rw [hs]; exact size42
      clear hs
      obtain ⟨y, hy⟩ : ∃ y, y = x := ⟨_, rfl⟩
      have hb : Below x.heap.size x y := by rw [hy]; exact Below.refl _ _
      have C' : Hid (Cur y w.heap.size ao n c 100) := (C.out.later hb)
      have G' : Hid (GB w.heap.size w y) := (G.out.trans (GB.of_below hb (Nat.le_refl _)))
      have KZ' : Hid (zs.length = q ∧ q ≤ 9 ∧ Own y (w.heap.size + 1) (.slice a1 q c1) zs) := ⟨KZ.out.1, KZ.out.2.1, KZ.out.2.2.later hb⟩
      go_simp
      rw [← hy]
      refine hK.out _ _ trivial (fun _ => ?_)
      try simp only [Act.put, List.setIfInBounds_toArray, List.set_cons_zero, List.set_cons_succ]
      refine any_listed (l' := #[true, true, true, false, true, false, false, true, true, false, false, false, false, false]) (by kernel_rfl) ?_
      exact H1020 y a1 q c1 zs v16 s17 C' G' KZ' R2'
  have H1100 : ∀ (x : World) (a1 : Option Addr) (q c1 : Nat) (zs : List Int) (v14 : Value), Hid (Cur x w.heap.size ao n c 100) → Hid (GB w.heap.size w x) → Hid (zs.length = q ∧ q ≤ 9 ∧ Own x (w.heap.size + 1) (.slice a1 q c1) zs) → Hid (OwnU x (w.heap.size + 1) v14 (List.replicate 40 0)) → wpAnyH Try.prog ?zzmd ?zzops ?zzQ ?zzS 9 #[true, true, true, false, true, true, false, false, false, false, false, false, false, false] { tmps := #[.slice ao n c, undef, .slice none 0 0, .int .i64 0, .string (ByteArray.mk #[]), .pointer (some ⟨w.heap.size, 0, none⟩), .slice ao n c, .agg #[.slice ao n c, .int .i64 0, .int .u64 0], .pointer (some ⟨w.heap.size, 0, none⟩), .pointer (some ⟨w.heap.size, 0, none⟩), .slice a1 q c1, .pointer (some ⟨w.heap.size, 0, none⟩), undef, .pointer (some ⟨w.heap.size, 0, none⟩), v14, undef, undef, undef, undef, undef], defers := [] } x := by
    intro x a1 q c1 zs v14 C G KZ P1
    have hxl : w.heap.size < x.heap.size := C.out.lt
    refine wpAnyH_ready (rs := [3, 6, 7]) (by kernel_rfl) (by simp) ?_
    refine AllReadyH.cons (o := _) rfl (fun K hK => ?_) (AllReadyH.cons (o := _) rfl (fun K hK => ?_) (AllReadyH.cons (o := _) rfl (fun K hK => ?_) AllReadyH.nil))
    · skip
      go_simp
      refine (block_c w.heap.size ao n c 100 _ (by omega) C.out).mono ?_
      rintro e y ⟨b, rfl, hc1, hg1⟩
      have G' : Hid (GB w.heap.size w y) := (G.out.trans hg1)
      have KZ' : Hid (zs.length = q ∧ q ≤ 9 ∧ Own y (w.heap.size + 1) (.slice a1 q c1) zs) := ⟨KZ.out.1, KZ.out.2.1, KZ.out.2.2.kept hg1 (sep_own KZ.out.2.2 (by omega))⟩
      have P1' : Hid (OwnU y (w.heap.size + 1) v14 (List.replicate 40 0)) := (keptU P1.out hg1)
      have C' : Hid (Cur y w.heap.size ao n c 110) := hc1
      refine hK.out _ _ trivial (fun _ => ?_)
      try simp only [Act.put, List.setIfInBounds_toArray, List.set_cons_zero, List.set_cons_succ]
      refine any_listed (l' := #[true, true, true, true, true, true, false, false, false, false, false, false, false, false]) (by kernel_rfl) ?_
      exact H2100 y a1 q c1 zs b v14 C' G' KZ' P1'
    · skip
      have hcv := P1.out.text
      obtain ⟨s15, hs⟩ : ∃ s, s = strOfNums (List.replicate 40 0) := ⟨_, rfl⟩
      rw [← hs] at hcv
      have P2' : Hid (s15.size ≤ 100) := by show _ ≤ _; rw [hs]; exact size40
      clear hs
      obtain ⟨y, hy⟩ : ∃ y, y = x := ⟨_, rfl⟩
      have hb : Below x.heap.size x y := by rw [hy]; exact Below.refl _ _
      have C' : Hid (Cur y w.heap.size ao n c 100) := (C.out.later hb)
      have G' : Hid (GB w.heap.size w y) := (G.out.trans (GB.of_below hb (Nat.le_refl _)))
      have KZ' : Hid (zs.length = q ∧ q ≤ 9 ∧ Own y (w.heap.size + 1) (.slice a1 q c1) zs) := ⟨KZ.out.1, KZ.out.2.1, KZ.out.2.2.later hb⟩
      go_simp
      rw [← hy]
      refine hK.out _ _ trivial (fun _ => ?_)
      try simp only [Act.put, List.setIfInBounds_toArray, List.set_cons_zero, List.set_cons_succ]
      refine any_listed (l' := #[true, true, true, false, true, true, true, false, false, false, false, false, false, false]) (by kernel_rfl) ?_
      exact H1200 y a1 q c1 zs v14 s15 C' G' KZ' P2'
    · skip
      obtain ⟨y, hrun, r1, r2⟩ := run_make_full (P := Try.prog) x (w.heap.size + 1) 22 5 i0 (.int .u8 0) 1 Try.underlying22 hi ii0 ii1 .i64 .i64 42 (by rw [ii2]; omega) (by unfold maxLen; omega) (by omega)
      have hb := below_none r2
      have hrun' : (Instr.makeSlice 22 (.int .i64 42) (.int .i64 42)).run Try.prog x = .ok (.slice (some ⟨x.heap.size, 0, none⟩) 42 42) y := hrun
      clear hrun
      have R1' : Hid (OwnU y (w.heap.size + 1) (.slice (some ⟨x.heap.size, 0, none⟩) 42 42) (List.replicate 42 0)) := made_bytes r1
      clear r1 r2
      have C' : Hid (Cur y w.heap.size ao n c 100) := (C.out.later hb)
      have G' : Hid (GB w.heap.size w y) := (G.out.trans (GB.of_below hb (Nat.le_refl _)))
      have KZ' : Hid (zs.length = q ∧ q ≤ 9 ∧ Own y (w.heap.size + 1) (.slice a1 q c1) zs) := ⟨KZ.out.1, KZ.out.2.1, KZ.out.2.2.later hb⟩
      have P1' : Hid (OwnU y (w.heap.size + 1) v14 (List.replicate 40 0)) := (ownsRow_later P1.out hb)
      generalize (Value.slice (some ⟨x.heap.size, 0, none⟩) 42 42) = v16 at hrun' R1'
      go_simp
      refine hK.out _ _ trivial (fun _ => ?_)
      try simp only [Act.put, List.setIfInBounds_toArray, List.set_cons_zero, List.set_cons_succ]
      refine any_listed (l' := #[true, true, true, false, true, true, false, true, false, false, false, false, false, false]) (by kernel_rfl) ?_
      exact H1110 y a1 q c1 zs v14 v16 C' G' KZ' P1' R1'
  have H2000 : ∀ (x : World) (a1 : Option Addr) (q c1 : Nat) (zs : List Int) (b : Int), Hid (Cur x w.heap.size ao n c 110) → Hid (GB w.heap.size w x) → Hid (zs.length = q ∧ q ≤ 9 ∧ Own x (w.heap.size + 1) (.slice a1 q c1) zs) → wpAnyH Try.prog ?zzmd ?zzops ?zzQ ?zzS 9 #[true, true, true, true, true, false, false, false, false, false, false, false, false, false] { tmps := #[.slice ao n c, undef, .slice none 0 0, .int .i64 0, .string (ByteArray.mk #[]), .pointer (some ⟨w.heap.size, 0, none⟩), .slice ao n c, .agg #[.slice ao n c, .int .i64 0, .int .u64 0], .pointer (some ⟨w.heap.size, 0, none⟩), .pointer (some ⟨w.heap.size, 0, none⟩), .slice a1 q c1, .pointer (some ⟨w.heap.size, 0, none⟩), .int .i64 b, .pointer (some ⟨w.heap.size, 0, none⟩), undef, undef, undef, undef, undef, undef], defers := [] } x := by
    intro x a1 q c1 zs b C G KZ
    have hxl : w.heap.size < x.heap.size := C.out.lt
    refine wpAnyH_ready (rs := [5, 7]) (by kernel_rfl) (by simp) ?_
    refine AllReadyH.cons (o := _) rfl (fun K hK => ?_) (AllReadyH.cons (o := _) rfl (fun K hK => ?_) AllReadyH.nil)
    · skip
      obtain ⟨y, hrun, r1, r2⟩ := run_make_full (P := Try.prog) x (w.heap.size + 1) 22 5 i0 (.int .u8 0) 1 Try.underlying22 hi ii0 ii1 .i64 .i64 40 (by rw [ii2]; omega) (by unfold maxLen; omega) (by omega)
      have hb := below_none r2
      have hrun' : (Instr.makeSlice 22 (.int .i64 40) (.int .i64 40)).run Try.prog x = .ok (.slice (some ⟨x.heap.size, 0, none⟩) 40 40) y := hrun
      clear hrun
      have P1' : Hid (OwnU y (w.heap.size + 1) (.slice (some ⟨x.heap.size, 0, none⟩) 40 40) (List.replicate 40 0)) := made_bytes r1
      clear r1 r2
      have C' : Hid (Cur y w.heap.size ao n c 110) := (C.out.later hb)
      have G' : Hid (GB w.heap.size w y) := (G.out.trans (GB.of_below hb (Nat.le_refl _)))
      have KZ' : Hid (zs.length = q ∧ q ≤ 9 ∧ Own y (w.heap.size + 1) (.slice a1 q c1) zs) := ⟨KZ.out.1, KZ.out.2.1, KZ.out.2.2.later hb⟩
      generalize (Value.slice (some ⟨x.heap.size, 0, none⟩) 40 40) = v14 at hrun' P1'
      go_simp
      refine hK.out _ _ trivial (fun _ => ?_)
      try simp only [Act.put, List.setIfInBounds_toArray, List.set_cons_zero, List.set_cons_succ]
      refine any_listed (l' := #[true, true, true, true, true, true, false, false, false, false, false, false, false, false]) (by kernel_rfl) ?_
      exact H2100 y a1 q c1 zs b v14 C' G' KZ' P1'
    · skip
      obtain ⟨y, hrun, r1, r2⟩ := run_make_full (P := Try.prog) x (w.heap.size + 1) 22 5 i0 (.int .u8 0) 1 Try.underlying22 hi ii0 ii1 .i64 .i64 42 (by rw [ii2]; omega) (by unfold maxLen; omega) (by omega)
      have hb := below_none r2
      have hrun' : (Instr.makeSlice 22 (.int .i64 42) (.int .i64 42)).run Try.prog x = .ok (.slice (some ⟨x.heap.size, 0, none⟩) 42 42) y := hrun
      clear hrun
      have R1' : Hid (OwnU y (w.heap.size + 1) (.slice (some ⟨x.heap.size, 0, none⟩) 42 42) (List.replicate 42 0)) := made_bytes r1
      clear r1 r2
      have C' : Hid (Cur y w.heap.size ao n c 110) := (C.out.later hb)
      have G' : Hid (GB w.heap.size w y) := (G.out.trans (GB.of_below hb (Nat.le_refl _)))
      have KZ' : Hid (zs.length = q ∧ q ≤ 9 ∧ Own y (w.heap.size + 1) (.slice a1 q c1) zs) := ⟨KZ.out.1, KZ.out.2.1, KZ.out.2.2.later hb⟩
      generalize (Value.slice (some ⟨x.heap.size, 0, none⟩) 42 42) = v16 at hrun' R1'
      go_simp
      refine hK.out _ _ trivial (fun _ => ?_)
      try simp only [Act.put, List.setIfInBounds_toArray, List.set_cons_zero, List.set_cons_succ]
      refine any_listed (l' := #[true, true, true, true, true, false, false, true, false, false, false, false, false, false]) (by kernel_rfl) ?_
      exact H2010 y a1 q c1 zs b v16 C' G' KZ' R1'
  have H0010 : ∀ (x : World) (v16 : Value), Hid (Cur x w.heap.size ao n c 0) → Hid (GB w.heap.size w x) → Hid (OwnU x (w.heap.size + 1) v16 (List.replicate 42 0)) → wpAnyH Try.prog ?zzmd ?zzops ?zzQ ?zzS 10 #[true, false, true, false, true, false, false, true, false, false, false, false, false, false] { tmps := #[.slice ao n c, undef, .slice none 0 0, .int .i64 0, .string (ByteArray.mk #[]), .pointer (some ⟨w.heap.size, 0, none⟩), .slice ao n c, .agg #[.slice ao n c, .int .i64 0, .int .u64 0], .pointer (some ⟨w.heap.size, 0, none⟩), .pointer (some ⟨w.heap.size, 0, none⟩), undef, .pointer (some ⟨w.heap.size, 0, none⟩), undef, .pointer (some ⟨w.heap.size, 0, none⟩), undef, undef, v16, undef, undef, undef], defers := [] } x := by
    intro x v16 C G R1
    have hxl : w.heap.size < x.heap.size := C.out.lt
    refine wpAnyH_ready (rs := [1, 5, 8]) (by kernel_rfl) (by simp) ?_
    refine AllReadyH.cons (o := _) rfl (fun K hK => ?_) (AllReadyH.cons (o := _) rfl (fun K hK => ?_) (AllReadyH.cons (o := _) rfl (fun K hK => ?_) AllReadyH.nil))
    · skip
      go_simp
      refine (keys_c w.heap.size ao n c 0 _ (by omega) C.out).mono ?_
      rintro e y ⟨a1, q, c1, zs, rfl, hq9, hzl, ho, hc1, hg1⟩
      have G' : Hid (GB w.heap.size w y) := (G.out.trans hg1)
      have R1' : Hid (OwnU y (w.heap.size + 1) v16 (List.replicate 42 0)) := (keptU R1.out hg1)
      have C' : Hid (Cur y w.heap.size ao n c 100) := hc1
      have KZ' : Hid (zs.length = q ∧ q ≤ 9 ∧ Own y (w.heap.size + 1) (.slice a1 q c1) zs) := ⟨hzl, hq9, ho.mono (by omega)⟩
      refine hK.out _ _ trivial (fun _ => ?_)
      try simp only [Act.put, List.setIfInBounds_toArray, List.set_cons_zero, List.set_cons_succ]
      refine any_listed (l' := #[true, true, true, false, true, false, false, true, false, false, false, false, false, false]) (by kernel_rfl) ?_
      exact H1010 y a1 q c1 zs v16 C' G' KZ' R1'
    · skip
      obtain ⟨y, hrun, r1, r2⟩ := run_make_full (P := Try.prog) x (w.heap.size + 1) 22 5 i0 (.int .u8 0) 1 Try.underlying22 hi ii0 ii1 .i64 .i64 40 (by rw [ii2]; omega) (by unfold maxLen; omega) (by omega)
      have hb := below_none r2
      have hrun' : (Instr.makeSlice 22 (.int .i64 40) (.int .i64 40)).run Try.prog x = .ok (.slice (some ⟨x.heap.size, 0, none⟩) 40 40) y := hrun
      clear hrun
      have P1' : Hid (OwnU y (w.heap.size + 1) (.slice (some ⟨x.heap.size, 0, none⟩) 40 40) (List.replicate 40 0)) := made_bytes r1
      clear r1 r2
      have C' : Hid (Cur y w.heap.size ao n c 0) := (C.out.later hb)
      have G' : Hid (GB w.heap.size w y) := (G.out.trans (GB.of_below hb (Nat.le_refl _)))
      have R1' : Hid (OwnU y (w.heap.size + 1) v16 (List.replicate 42 0)) := (ownsRow_later R1.out hb)
      generalize (Value.slice (some ⟨x.heap.size, 0, none⟩) 40 40) = v14 at hrun' P1'
      go_simp
      refine hK.out _ _ trivial (fun _ => ?_)
      try simp only [Act.put, List.setIfInBounds_toArray, List.set_cons_zero, List.set_cons_succ]
      refine any_listed (l' := #[true, false, true, false, true, true, false, true, false, false, false, false, false, false]) (by kernel_rfl) ?_
      exact H0110 y v14 v16 C' G' P1' R1'
    · skip
      have hcv := R1.out.text
      obtain ⟨s17, hs⟩ : ∃ s, s = strOfNums (List.replicate 42 0) := ⟨_, rfl⟩
      rw [← hs] at hcv
      have R2' : Hid (s17.size ≤ 100) := by show _ ≤ _; rw [hs]; exact size42
      clear hs
      obtain ⟨y, hy⟩ : ∃ y, y = x := ⟨_, rfl⟩
      have hb : Below x.heap.size x y := by rw [hy]; exact Below.refl _ _
      have C' : Hid (Cur y w.heap.size ao n c 0) := (C.out.later hb)
      have G' : Hid (GB w.heap.size w y) := (G.out.trans (GB.of_below hb (Nat.le_refl _)))
      go_simp
      rw [← hy]
      refine hK.out _ _ trivial (fun _ => ?_)
      try simp only [Act.put, List.setIfInBounds_toArray, List.set_cons_zero, List.set_cons_succ]
      refine any_listed (l' := #[true, false, true, false, true, false, false, true, true, false, false, false, false, false]) (by kernel_rfl) ?_
      exact H0020 y v16 s17 C' G' R2'
  have H0100 : ∀ (x : World) (v14 : Value), Hid (Cur x w.heap.size ao n c 0) → Hid (GB w.heap.size w x) → Hid (OwnU x (w.heap.size + 1) v14 (List.replicate 40 0)) → wpAnyH Try.prog ?zzmd ?zzops ?zzQ ?zzS 10 #[true, false, true, false, true, true, false, false, false, false, false, false, false, false] { tmps := #[.slice ao n c, undef, .slice none 0 0, .int .i64 0, .string (ByteArray.mk #[]), .pointer (some ⟨w.heap.size, 0, none⟩), .slice ao n c, .agg #[.slice ao n c, .int .i64 0, .int .u64 0], .pointer (some ⟨w.heap.size, 0, none⟩), .pointer (some ⟨w.heap.size, 0, none⟩), undef, .pointer (some ⟨w.heap.size, 0, none⟩), undef, .pointer (some ⟨w.heap.size, 0, none⟩), v14, undef, undef, undef, undef, undef], defers := [] } x := by
    intro x v14 C G P1
    have hxl : w.heap.size < x.heap.size := C.out.lt
    refine wpAnyH_ready (rs := [1, 6, 7]) (by kernel_rfl) (by simp) ?_
    refine AllReadyH.cons (o := _) rfl (fun K hK => ?_) (AllReadyH.cons (o := _) rfl (fun K hK => ?_) (AllReadyH.cons (o := _) rfl (fun K hK => ?_) AllReadyH.nil))
    · skip
      go_simp
      refine (keys_c w.heap.size ao n c 0 _ (by omega) C.out).mono ?_
      rintro e y ⟨a1, q, c1, zs, rfl, hq9, hzl, ho, hc1, hg1⟩
      have G' : Hid (GB w.heap.size w y) := (G.out.trans hg1)
      have P1' : Hid (OwnU y (w.heap.size + 1) v14 (List.replicate 40 0)) := (keptU P1.out hg1)
      have C' : Hid (Cur y w.heap.size ao n c 100) := hc1
      have KZ' : Hid (zs.length = q ∧ q ≤ 9 ∧ Own y (w.heap.size + 1) (.slice a1 q c1) zs) := ⟨hzl, hq9, ho.mono (by omega)⟩
      refine hK.out _ _ trivial (fun _ => ?_)
      try simp only [Act.put, List.setIfInBounds_toArray, List.set_cons_zero, List.set_cons_succ]
      refine any_listed (l' := #[true, true, true, false, true, true, false, false, false, false, false, false, false, false]) (by kernel_rfl) ?_
      exact H1100 y a1 q c1 zs v14 C' G' KZ' P1'
    · skip
      have hcv := P1.out.text
      obtain ⟨s15, hs⟩ : ∃ s, s = strOfNums (List.replicate 40 0) := ⟨_, rfl⟩
      rw [← hs] at hcv
      have P2' : Hid (s15.size ≤ 100) := by show _ ≤ _; rw [hs]; exact size40
      clear hs
      obtain ⟨y, hy⟩ : ∃ y, y = x := ⟨_, rfl⟩
      have hb : Below x.heap.size x y := by rw [hy]; exact Below.refl _ _
      have C' : Hid (Cur y w.heap.size ao n c 0) := (C.out.later hb)
      have G' : Hid (GB w.heap.size w y) := (G.out.trans (GB.of_below hb (Nat.le_refl _)))
      go_simp
      rw [← hy]
      refine hK.out _ _ trivial (fun _ => ?_)
      try simp only [Act.put, List.setIfInBounds_toArray, List.set_cons_zero, List.set_cons_succ]
      refine any_listed (l' := #[true, false, true, false, true, true, true, false, false, false, false, false, false, false]) (by kernel_rfl) ?_
      exact H0200 y v14 s15 C' G' P2'
    · skip
      obtain ⟨y, hrun, r1, r2⟩ := run_make_full (P := Try.prog) x (w.heap.size + 1) 22 5 i0 (.int .u8 0) 1 Try.underlying22 hi ii0 ii1 .i64 .i64 42 (by rw [ii2]; omega) (by unfold maxLen; omega) (by omega)
      have hb := below_none r2
      have hrun' : (Instr.makeSlice 22 (.int .i64 42) (.int .i64 42)).run Try.prog x = .ok (.slice (some ⟨x.heap.size, 0, none⟩) 42 42) y := hrun
      clear hrun
      have R1' : Hid (OwnU y (w.heap.size + 1) (.slice (some ⟨x.heap.size, 0, none⟩) 42 42) (List.replicate 42 0)) := made_bytes r1
      clear r1 r2
      have C' : Hid (Cur y w.heap.size ao n c 0) := (C.out.later hb)
      have G' : Hid (GB w.heap.size w y) := (G.out.trans (GB.of_below hb (Nat.le_refl _)))
      have P1' : Hid (OwnU y (w.heap.size + 1) v14 (List.replicate 40 0)) := (ownsRow_later P1.out hb)
      generalize (Value.slice (some ⟨x.heap.size, 0, none⟩) 42 42) = v16 at hrun' R1'
      go_simp
      refine hK.out _ _ trivial (fun _ => ?_)
      try simp only [Act.put, List.setIfInBounds_toArray, List.set_cons_zero, List.set_cons_succ]
      refine any_listed (l' := #[true, false, true, false, true, true, false, true, false, false, false, false, false, false]) (by kernel_rfl) ?_
      exact H0110 y v14 v16 C' G' P1' R1'
  have H1000 : ∀ (x : World) (a1 : Option Addr) (q c1 : Nat) (zs : List Int), Hid (Cur x w.heap.size ao n c 100) → Hid (GB w.heap.size w x) → Hid (zs.length = q ∧ q ≤ 9 ∧ Own x (w.heap.size + 1) (.slice a1 q c1) zs) → wpAnyH Try.prog ?zzmd ?zzops ?zzQ ?zzS 10 #[true, true, true, false, true, false, false, false, false, false, false, false, false, false] { tmps := #[.slice ao n c, undef, .slice none 0 0, .int .i64 0, .string (ByteArray.mk #[]), .pointer (some ⟨w.heap.size, 0, none⟩), .slice ao n c, .agg #[.slice ao n c, .int .i64 0, .int .u64 0], .pointer (some ⟨w.heap.size, 0, none⟩), .pointer (some ⟨w.heap.size, 0, none⟩), .slice a1 q c1, .pointer (some ⟨w.heap.size, 0, none⟩), undef, .pointer (some ⟨w.heap.size, 0, none⟩), undef, undef, undef, undef, undef, undef], defers := [] } x := by
    intro x a1 q c1 zs C G KZ
    have hxl : w.heap.size < x.heap.size := C.out.lt
    refine wpAnyH_ready (rs := [3, 5, 7]) (by kernel_rfl) (by simp) ?_
    refine AllReadyH.cons (o := _) rfl (fun K hK => ?_) (AllReadyH.cons (o := _) rfl (fun K hK => ?_) (AllReadyH.cons (o := _) rfl (fun K hK => ?_) AllReadyH.nil))
    · skip
      go_simp
      refine (block_c w.heap.size ao n c 100 _ (by omega) C.out).mono ?_
      rintro e y ⟨b, rfl, hc1, hg1⟩
      have G' : Hid (GB w.heap.size w y) := (G.out.trans hg1)
      have KZ' : Hid (zs.length = q ∧ q ≤ 9 ∧ Own y (w.heap.size + 1) (.slice a1 q c1) zs) := ⟨KZ.out.1, KZ.out.2.1, KZ.out.2.2.kept hg1 (sep_own KZ.out.2.2 (by omega))⟩
      have C' : Hid (Cur y w.heap.size ao n c 110) := hc1
      refine hK.out _ _ trivial (fun _ => ?_)
      try simp only [Act.put, List.setIfInBounds_toArray, List.set_cons_zero, List.set_cons_succ]
      refine any_listed (l' := #[true, true, true, true, true, false, false, false, false, false, false, false, false, false]) (by kernel_rfl) ?_
      exact H2000 y a1 q c1 zs b C' G' KZ'
    · skip
      obtain ⟨y, hrun, r1, r2⟩ := run_make_full (P := Try.prog) x (w.heap.size + 1) 22 5 i0 (.int .u8 0) 1 Try.underlying22 hi ii0 ii1 .i64 .i64 40 (by rw [ii2]; omega) (by unfold maxLen; omega) (by omega)
      have hb := below_none r2
      have hrun' : (Instr.makeSlice 22 (.int .i64 40) (.int .i64 40)).run Try.prog x = .ok (.slice (some ⟨x.heap.size, 0, none⟩) 40 40) y := hrun
      clear hrun
      have P1' : Hid (OwnU y (w.heap.size + 1) (.slice (some ⟨x.heap.size, 0, none⟩) 40 40) (List.replicate 40 0)) := made_bytes r1
      clear r1 r2
      have C' : Hid (Cur y w.heap.size ao n c 100) := (C.out.later hb)
      have G' : Hid (GB w.heap.size w y) := (G.out.trans (GB.of_below hb (Nat.le_refl _)))
      have KZ' : Hid (zs.length = q ∧ q ≤ 9 ∧ Own y (w.heap.size + 1) (.slice a1 q c1) zs) := ⟨KZ.out.1, KZ.out.2.1, KZ.out.2.2.later hb⟩
      generalize (Value.slice (some ⟨x.heap.size, 0, none⟩) 40 40) = v14 at hrun' P1'
      go_simp
      refine hK.out _ _ trivial (fun _ => ?_)
      try simp only [Act.put, List.setIfInBounds_toArray, List.set_cons_zero, List.set_cons_succ]
      refine any_listed (l' := #[true, true, true, false, true, true, false, false, false, false, false, false, false, false]) (by kernel_rfl) ?_
      exact H1100 y a1 q c1 zs v14 C' G' KZ' P1'
    · skip
      obtain ⟨y, hrun, r1, r2⟩ := run_make_full (P := Try.prog) x (w.heap.size + 1) 22 5 i0 (.int .u8 0) 1 Try.underlying22 hi ii0 ii1 .i64 .i64 42 (by rw [ii2]; omega) (by unfold maxLen; omega) (by omega)
      have hb := below_none r2
      have hrun' : (Instr.makeSlice 22 (.int .i64 42) (.int .i64 42)).run Try.prog x = .ok (.slice (some ⟨x.heap.size, 0, none⟩) 42 42) y := hrun
      clear hrun
      have R1' : Hid (OwnU y (w.heap.size + 1) (.slice (some ⟨x.heap.size, 0, none⟩) 42 42) (List.replicate 42 0)) := made_bytes r1
      clear r1 r2
      have C' : Hid (Cur y w.heap.size ao n c 100) := (C.out.later hb)
      have G' : Hid (GB w.heap.size w y) := (G.out.trans (GB.of_below hb (Nat.le_refl _)))
      have KZ' : Hid (zs.length = q ∧ q ≤ 9 ∧ Own y (w.heap.size + 1) (.slice a1 q c1) zs) := ⟨KZ.out.1, KZ.out.2.1, KZ.out.2.2.later hb⟩
      generalize (Value.slice (some ⟨x.heap.size, 0, none⟩) 42 42) = v16 at hrun' R1'
      go_simp
      refine hK.out _ _ trivial (fun _ => ?_)
      try simp only [Act.put, List.setIfInBounds_toArray, List.set_cons_zero, List.set_cons_succ]
      refine any_listed (l' := #[true, true, true, false, true, false, false, true, false, false, false, false, false, false]) (by kernel_rfl) ?_
      exact H1010 y a1 q c1 zs v16 C' G' KZ' R1'
  have H0000 : ∀ (x : World), Hid (Cur x w.heap.size ao n c 0) → Hid (GB w.heap.size w x) → wpAnyH Try.prog ?zzmd ?zzops ?zzQ ?zzS 11 #[true, false, true, false, true, false, false, false, false, false, false, false, false, false] { tmps := #[.slice ao n c, undef, .slice none 0 0, .int .i64 0, .string (ByteArray.mk #[]), .pointer (some ⟨w.heap.size, 0, none⟩), .slice ao n c, .agg #[.slice ao n c, .int .i64 0, .int .u64 0], .pointer (some ⟨w.heap.size, 0, none⟩), .pointer (some ⟨w.heap.size, 0, none⟩), undef, .pointer (some ⟨w.heap.size, 0, none⟩), undef, .pointer (some ⟨w.heap.size, 0, none⟩), undef, undef, undef, undef, undef, undef], defers := [] } x := by
    intro x  C G
    have hxl : w.heap.size < x.heap.size := C.out.lt
    refine wpAnyH_ready (rs := [1, 5, 7]) (by kernel_rfl) (by simp) ?_
    refine AllReadyH.cons (o := _) rfl (fun K hK => ?_) (AllReadyH.cons (o := _) rfl (fun K hK => ?_) (AllReadyH.cons (o := _) rfl (fun K hK => ?_) AllReadyH.nil))
    · skip
      go_simp
      refine (keys_c w.heap.size ao n c 0 _ (by omega) C.out).mono ?_
      rintro e y ⟨a1, q, c1, zs, rfl, hq9, hzl, ho, hc1, hg1⟩
      have G' : Hid (GB w.heap.size w y) := (G.out.trans hg1)
      have C' : Hid (Cur y w.heap.size ao n c 100) := hc1
      have KZ' : Hid (zs.length = q ∧ q ≤ 9 ∧ Own y (w.heap.size + 1) (.slice a1 q c1) zs) := ⟨hzl, hq9, ho.mono (by omega)⟩
      refine hK.out _ _ trivial (fun _ => ?_)
      try simp only [Act.put, List.setIfInBounds_toArray, List.set_cons_zero, List.set_cons_succ]
      refine any_listed (l' := #[true, true, true, false, true, false, false, false, false, false, false, false, false, false]) (by kernel_rfl) ?_
      exact H1000 y a1 q c1 zs C' G' KZ'
    · skip
      obtain ⟨y, hrun, r1, r2⟩ := run_make_full (P := Try.prog) x (w.heap.size + 1) 22 5 i0 (.int .u8 0) 1 Try.underlying22 hi ii0 ii1 .i64 .i64 40 (by rw [ii2]; omega) (by unfold maxLen; omega) (by omega)
      have hb := below_none r2
      have hrun' : (Instr.makeSlice 22 (.int .i64 40) (.int .i64 40)).run Try.prog x = .ok (.slice (some ⟨x.heap.size, 0, none⟩) 40 40) y := hrun
      clear hrun
      have P1' : Hid (OwnU y (w.heap.size + 1) (.slice (some ⟨x.heap.size, 0, none⟩) 40 40) (List.replicate 40 0)) := made_bytes r1
      clear r1 r2
      have C' : Hid (Cur y w.heap.size ao n c 0) := (C.out.later hb)
      have G' : Hid (GB w.heap.size w y) := (G.out.trans (GB.of_below hb (Nat.le_refl _)))
      generalize (Value.slice (some ⟨x.heap.size, 0, none⟩) 40 40) = v14 at hrun' P1'
      go_simp
      refine hK.out _ _ trivial (fun _ => ?_)
      try simp only [Act.put, List.setIfInBounds_toArray, List.set_cons_zero, List.set_cons_succ]
      refine any_listed (l' := #[true, false, true, false, true, true, false, false, false, false, false, false, false, false]) (by kernel_rfl) ?_
      exact H0100 y v14 C' G' P1'
    · skip
      obtain ⟨y, hrun, r1, r2⟩ := run_make_full (P := Try.prog) x (w.heap.size + 1) 22 5 i0 (.int .u8 0) 1 Try.underlying22 hi ii0 ii1 .i64 .i64 42 (by rw [ii2]; omega) (by unfold maxLen; omega) (by omega)
      have hb := below_none r2
      have hrun' : (Instr.makeSlice 22 (.int .i64 42) (.int .i64 42)).run Try.prog x = .ok (.slice (some ⟨x.heap.size, 0, none⟩) 42 42) y := hrun
      clear hrun
      have R1' : Hid (OwnU y (w.heap.size + 1) (.slice (some ⟨x.heap.size, 0, none⟩) 42 42) (List.replicate 42 0)) := made_bytes r1
      clear r1 r2
      have C' : Hid (Cur y w.heap.size ao n c 0) := (C.out.later hb)
      have G' : Hid (GB w.heap.size w y) := (G.out.trans (GB.of_below hb (Nat.le_refl _)))
      generalize (Value.slice (some ⟨x.heap.size, 0, none⟩) 42 42) = v16 at hrun' R1'
      go_simp
      refine hK.out _ _ trivial (fun _ => ?_)
      try simp only [Act.put, List.setIfInBounds_toArray, List.set_cons_zero, List.set_cons_succ]
      refine any_listed (l' := #[true, false, true, false, true, false, false, true, false, false, false, false, false, false]) (by kernel_rfl) ?_
      exact H0010 y v16 C' G' R1'
  exact H0000 x0 CX GX
  
  end Go.Proofs.Ytlmamlhpjakcoaa
