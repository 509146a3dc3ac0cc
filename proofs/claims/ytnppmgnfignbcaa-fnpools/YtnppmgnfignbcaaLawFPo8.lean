/- The law on FnPools, walked: it answers true at every argument and turns nothing that was there. -/
import Derived.Test.YtnppmgnfignbcaaFQ8
import Derived.Deep.RegionHeld3
namespace Go.Proofs.Ytnppmgnfignbcaa
set_option linter.unusedVariables false
set_option maxRecDepth 1000000
set_option linter.unusedSimpArgs false
open Go.RowKit

theorem takeP8 {P : Program} {ops : Array Oper} {Q : Exit → Act → World → Prop} {md : Region.Mode} {S : World → Prop} {i : Nat} {oi : Oper} {v : Value} {d : Option Tmp} {fuel : Nat} {listed : Array Bool} {a : Act} {w : World} (hi : ops[i]? = some oi) (hd : oi.dst = d)
    (hs : Region.noSelect ops = true) (hf : Region.free md ops listed i = true) (hr : (Region.ready md ops listed).contains i = true)
    (hQ : ∀ c a w, Q (.panic c) (a.put d v) w → Q (.panic c) a w) (hy : YieldsIf P ops S oi v a) (hS : S w)
    (h : wpAnyH P md ops Q S fuel (listed.setIfInBounds i true) (a.put d v) w) : wpAnyH P md ops Q S (fuel + 1) listed a w := by
  subst hd
  exact wpAnyH_take hi hs hf hr hQ hy hS h

set_option maxHeartbeats 32000000 in
set_option maxRecDepth 1000000 in
theorem lawFnPools_c (ao : Option Addr) (n c : Nat) (bo : Option Addr) (m d : Nat) (w : World) (hn : n ≤ 9223372036854775807) (hm : m ≤ 9223372036854775807) (h1 : CodeOk w w.heap.size ao n) (h2 : CodeOk w w.heap.size bo m) :
    Calls Try.prog 4 #[.slice ao n c, .slice bo m d] w fun e w' => e = .returned (.bool true) ∧ Below w.heap.size w w' := by
  by_cases hl : 1048576 < wrap64 ((n : Int) + (m : Int))
  · clear h1 h2
    go_enter Try.func4, Try.ntmps4
    go_wp2
    go_ret
    exact ⟨rfl, Below.refl _ _⟩
  have HN : Hid (CodeOk w w.heap.size ao n) := h1
  have HM : Hid (CodeOk w w.heap.size bo m) := h2
  have HB0 : Hid (Below w.heap.size w w) := Below.refl _ _
  clear h1 h2
  go_enter Try.func4, Try.ntmps4
  go_wp2_with fail
  refine (drawPut_c ao n c _ hn HN.out).mono ?_
  rintro e w1 ⟨zm, pm, km, sm, dm, tx, rfl, hmx, hlet, ⟨ho1, ho2⟩, hb⟩
  have HB1 : Hid (Below w.heap.size w w1) := HB0.out.trans (hb.mono HB0.out.size)
  clear hb HB0
  have MM1 : Hid (MB w1 pm km sm dm zm) := MB.of ho1 ho2
  clear ho1 ho2
  have HMX : Hid (MxD zm) := hmx
  have HLET : Hid (IsLet tx) := hlet
  have hts : tx.size ≤ 9223372036854775807 := by have := hlet.size; omega
  obtain ⟨zx, code, fb, hP⟩ : ∃ zx code fb, putS zm tx = (zx, code, fb) := ⟨_, _, _, rfl⟩
  have HP : Hid (putS zm tx = (zx, code, fb)) := hP
  have hfb : (fb != fb) = false := by simp
  have hcc : (code != code) = false := by simp
  have HSX : Hid (SmallV zx) := (put_told hmx hlet hP).1
  have HSM : Hid (SmallV zm) := hmx.smallV
  clear hmx hlet hP
  obtain ⟨w2, hV2⟩ : ∃ V, w1.alloc (.cells #[.slice pm zm.pool.length km, .int .i64 zm.least, .int .i64 zm.wait, .int .i64 zm.old, .slice sm zm.seen.length dm] 41) = V := ⟨_, rfl⟩
  have hb : Below w1.heap.size w1 w2 := by rw [← hV2]; exact balloc w1 _
  have HB2 : Hid (Below w.heap.size w w2) := HB1.out.trans (hb.mono HB1.out.size)
  have MM2 : Hid (MB w2 pm km sm dm zm) := MM1.out.later hb
  have CM2 : Hid (C5 w2 w1.heap.size (.slice pm zm.pool.length km) zm.least zm.wait zm.old (.slice sm zm.seen.length dm)) := by show C5 _ _ _ _ _ _ _; rw [← hV2]; exact c5_new _ _ _ _ _ _ _ _ rfl
  clear hb HB1 MM1
  obtain ⟨⟨uM0, uM1, uM2, uM3, uM4⟩, _⟩ := CM2.out
  go_wp2_with fail
  clear hV2
  refine (implPutU MM2.out HMX.out hts HP.out).mono ?_
  rintro e w3 ⟨px, kx, sx, dx, rfl, hm, hb⟩
  have HB3 : Hid (Below w.heap.size w w3) := HB2.out.trans (hb.mono HB2.out.size)
  have CM3 : Hid (C5 w3 w1.heap.size (.slice pm zm.pool.length km) zm.least zm.wait zm.old (.slice sm zm.seen.length dm)) := CM2.out.later hb
  have MM3 : Hid (MB w3 pm km sm dm zm) := MM2.out.later hb
  have MX3 : Hid (MB w3 px kx sx dx zx) := hm
  clear hb HB2 CM2 MM2 hm uM0 uM1 uM2 uM3 uM4
  obtain ⟨w4, hV4⟩ : ∃ V, w3.alloc (.cells #[.slice px zx.pool.length kx, .int .i64 zx.least, .int .i64 zx.wait, .int .i64 zx.old, .slice sx zx.seen.length dx] 41) = V := ⟨_, rfl⟩
  have hb : Below w3.heap.size w3 w4 := by rw [← hV4]; exact balloc w3 _
  have HB4 : Hid (Below w.heap.size w w4) := HB3.out.trans (hb.mono HB3.out.size)
  have CM4 : Hid (C5 w4 w1.heap.size (.slice pm zm.pool.length km) zm.least zm.wait zm.old (.slice sm zm.seen.length dm)) := CM3.out.later hb
  have MM4 : Hid (MB w4 pm km sm dm zm) := MM3.out.later hb
  have MX4 : Hid (MB w4 px kx sx dx zx) := MX3.out.later hb
  have CX4 : Hid (C5 w4 w3.heap.size (.slice px zx.pool.length kx) zx.least zx.wait zx.old (.slice sx zx.seen.length dx)) := by show C5 _ _ _ _ _ _ _; rw [← hV4]; exact c5_new _ _ _ _ _ _ _ _ rfl
  clear hb HB3 CM3 MM3 MX3
  obtain ⟨⟨uM0, uM1, uM2, uM3, uM4⟩, _⟩ := CM4.out
  go_wp2_with fail
  clear hV4
  refine (specPutU MM4.out HMX.out hts HP.out).mono ?_
  rintro e w5 ⟨pw, kw, sw, dw, rfl, hm, hb⟩
  have HB5 : Hid (Below w.heap.size w w5) := HB4.out.trans (hb.mono HB4.out.size)
  have CM5 : Hid (C5 w5 w1.heap.size (.slice pm zm.pool.length km) zm.least zm.wait zm.old (.slice sm zm.seen.length dm)) := CM4.out.later hb
  have MM5 : Hid (MB w5 pm km sm dm zm) := MM4.out.later hb
  have CX5 : Hid (C5 w5 w3.heap.size (.slice px zx.pool.length kx) zx.least zx.wait zx.old (.slice sx zx.seen.length dx)) := CX4.out.later hb
  have MX5 : Hid (MB w5 px kx sx dx zx) := MX4.out.later hb
  have MW5 : Hid (MB w5 pw kw sw dw zx) := hm
  clear hb HB4 CM4 MM4 CX4 MX4 hm uM0 uM1 uM2 uM3 uM4
  obtain ⟨w6, hV6⟩ : ∃ V, w5.alloc (.cells #[.slice pw zx.pool.length kw, .int .i64 zx.least, .int .i64 zx.wait, .int .i64 zx.old, .slice sw zx.seen.length dw] 41) = V := ⟨_, rfl⟩
  have hb : Below w5.heap.size w5 w6 := by rw [← hV6]; exact balloc w5 _
  have HB6 : Hid (Below w.heap.size w w6) := HB5.out.trans (hb.mono HB5.out.size)
  have CM6 : Hid (C5 w6 w1.heap.size (.slice pm zm.pool.length km) zm.least zm.wait zm.old (.slice sm zm.seen.length dm)) := CM5.out.later hb
  have MM6 : Hid (MB w6 pm km sm dm zm) := MM5.out.later hb
  have CX6 : Hid (C5 w6 w3.heap.size (.slice px zx.pool.length kx) zx.least zx.wait zx.old (.slice sx zx.seen.length dx)) := CX5.out.later hb
  have MX6 : Hid (MB w6 px kx sx dx zx) := MX5.out.later hb
  have MW6 : Hid (MB w6 pw kw sw dw zx) := MW5.out.later hb
  have CW6 : Hid (C5 w6 w5.heap.size (.slice pw zx.pool.length kw) zx.least zx.wait zx.old (.slice sw zx.seen.length dw)) := by show C5 _ _ _ _ _ _ _; rw [← hV6]; exact c5_new _ _ _ _ _ _ _ _ rfl
  clear hb HB5 CM5 MM5 CX5 MX5 MW5
  obtain ⟨⟨uM0, uM1, uM2, uM3, uM4⟩, _⟩ := CM6.out
  obtain ⟨⟨uX0, uX1, uX2, uX3, uX4⟩, _⟩ := CX6.out
  obtain ⟨⟨uW0, uW1, uW2, uW3, uW4⟩, _⟩ := CW6.out
  go_wp2
  clear hV6
  refine wp_region_held_drew (S := (fun V => (V.cell? ⟨w1.heap.size, 0, none⟩ = some (.slice pm zm.pool.length km) ∧ V.cell? ⟨w1.heap.size, 1, none⟩ = some (.int .i64 zm.least) ∧ V.cell? ⟨w1.heap.size, 2, none⟩ = some (.int .i64 zm.wait) ∧ V.cell? ⟨w1.heap.size, 3, none⟩ = some (.int .i64 zm.old) ∧ V.cell? ⟨w1.heap.size, 4, none⟩ = some (.slice sm zm.seen.length dm)) ∧ (V.cell? ⟨w3.heap.size, 0, none⟩ = some (.slice px zx.pool.length kx) ∧ V.cell? ⟨w3.heap.size, 1, none⟩ = some (.int .i64 zx.least) ∧ V.cell? ⟨w3.heap.size, 2, none⟩ = some (.int .i64 zx.wait) ∧ V.cell? ⟨w3.heap.size, 3, none⟩ = some (.int .i64 zx.old) ∧ V.cell? ⟨w3.heap.size, 4, none⟩ = some (.slice sx zx.seen.length dx)) ∧ (V.cell? ⟨w5.heap.size, 0, none⟩ = some (.slice pw zx.pool.length kw) ∧ V.cell? ⟨w5.heap.size, 1, none⟩ = some (.int .i64 zx.least) ∧ V.cell? ⟨w5.heap.size, 2, none⟩ = some (.int .i64 zx.wait) ∧ V.cell? ⟨w5.heap.size, 3, none⟩ = some (.int .i64 zx.old) ∧ V.cell? ⟨w5.heap.size, 4, none⟩ = some (.slice sw zx.seen.length dw)))) (by kernel_rfl) ?_ (fun hHeld => ?_)
  · exact ⟨⟨uM0, uM1, uM2, uM3, uM4⟩, ⟨uX0, uX1, uX2, uX3, uX4⟩, ⟨uW0, uW1, uW2, uW3, uW4⟩⟩
  clear uM0 uM1 uM2 uM3 uM4 uX0 uX1 uX2 uX3 uX4 uW0 uW1 uW2 uW3 uW4
  obtain ⟨w7, hD⟩ : ∃ D, w6.drew = D := ⟨_, rfl⟩
  have hb : Below w6.heap.size w6 w7 := by rw [← hD]; exact (Below.refl _ _).drew
  have HB7 : Hid (Below w.heap.size w w7) := HB6.out.trans (hb.mono HB6.out.size)
  have CM7 : Hid (C5 w7 w1.heap.size (.slice pm zm.pool.length km) zm.least zm.wait zm.old (.slice sm zm.seen.length dm)) := CM6.out.later hb
  have MM7 : Hid (MB w7 pm km sm dm zm) := MM6.out.later hb
  have CX7 : Hid (C5 w7 w3.heap.size (.slice px zx.pool.length kx) zx.least zx.wait zx.old (.slice sx zx.seen.length dx)) := CX6.out.later hb
  have MX7 : Hid (MB w7 px kx sx dx zx) := MX6.out.later hb
  have CW7 : Hid (C5 w7 w5.heap.size (.slice pw zx.pool.length kw) zx.least zx.wait zx.old (.slice sw zx.seen.length dw)) := CW6.out.later hb
  have MW7 : Hid (MB w7 pw kw sw dw zx) := MW6.out.later hb
  rw [hD] at hHeld ⊢
  clear hb hD HB6 CM6 MM6 CX6 MX6 CW6 MW6
  refine takeP8 (i := 0) (oi := _) (v := ?_) (d := some 59) rfl (by kernel_rfl) (by kernel_rfl) (by kernel_rfl) (by kernel_rfl) (fun _ _ _ h => h) (Or.inl ⟨by rfl, ?_⟩) (by assumption) ?_
  rotate_left
  · (intro w hSw; (try dsimp only at hSw); go_simp <;> with_reducible rfl)
  try simp only [Act.put, List.setIfInBounds_toArray, List.set_cons_zero, List.set_cons_succ]
  refine takeP8 (i := 1) (oi := _) (v := ?_) (d := some 60) rfl (by kernel_rfl) (by kernel_rfl) (by kernel_rfl) (by kernel_rfl) (fun _ _ _ h => h) (Or.inl ⟨by rfl, ?_⟩) (by assumption) ?_
  rotate_left
  · (intro w hSw; (try dsimp only at hSw); go_simp <;> with_reducible rfl)
  try simp only [Act.put, List.setIfInBounds_toArray, List.set_cons_zero, List.set_cons_succ]
  refine takeP8 (i := 2) (oi := _) (v := ?_) (d := some 61) rfl (by kernel_rfl) (by kernel_rfl) (by kernel_rfl) (by kernel_rfl) (fun _ _ _ h => h) (Or.inl ⟨by rfl, ?_⟩) (by assumption) ?_
  rotate_left
  · (intro w hSw; (try dsimp only at hSw); go_simp <;> with_reducible rfl)
  try simp only [Act.put, List.setIfInBounds_toArray, List.set_cons_zero, List.set_cons_succ]
  refine takeP8 (i := 3) (oi := _) (v := ?_) (d := some 62) rfl (by kernel_rfl) (by kernel_rfl) (by kernel_rfl) (by kernel_rfl) (fun _ _ _ h => h) (Or.inl ⟨by rfl, ?_⟩) (by assumption) ?_
  rotate_left
  · (intro w hSw; (try dsimp only at hSw); go_simp <;> with_reducible rfl)
  try simp only [Act.put, List.setIfInBounds_toArray, List.set_cons_zero, List.set_cons_succ]
  refine takeP8 (i := 4) (oi := _) (v := ?_) (d := some 63) rfl (by kernel_rfl) (by kernel_rfl) (by kernel_rfl) (by kernel_rfl) (fun _ _ _ h => h) (Or.inl ⟨by rfl, ?_⟩) (by assumption) ?_
  rotate_left
  · (intro w hSw; (try dsimp only at hSw); go_simp <;> with_reducible rfl)
  try simp only [Act.put, List.setIfInBounds_toArray, List.set_cons_zero, List.set_cons_succ]
  refine takeP8 (i := 5) (oi := _) (v := ?_) (d := some 64) rfl (by kernel_rfl) (by kernel_rfl) (by kernel_rfl) (by kernel_rfl) (fun _ _ _ h => h) (Or.inl ⟨by rfl, ?_⟩) (by assumption) ?_
  rotate_left
  · (intro w hSw; (try dsimp only at hSw); go_simp <;> with_reducible rfl)
  try simp only [Act.put, List.setIfInBounds_toArray, List.set_cons_zero, List.set_cons_succ]
  refine takeP8 (i := 6) (oi := _) (v := ?_) (d := some 65) rfl (by kernel_rfl) (by kernel_rfl) (by kernel_rfl) (by kernel_rfl) (fun _ _ _ h => h) (Or.inl ⟨by rfl, ?_⟩) (by assumption) ?_
  rotate_left
  · (intro w hSw; (try dsimp only at hSw); go_simp <;> with_reducible rfl)
  try simp only [Act.put, List.setIfInBounds_toArray, List.set_cons_zero, List.set_cons_succ]
  refine takeP8 (i := 7) (oi := _) (v := ?_) (d := some 66) rfl (by kernel_rfl) (by kernel_rfl) (by kernel_rfl) (by kernel_rfl) (fun _ _ _ h => h) (Or.inl ⟨by rfl, ?_⟩) (by assumption) ?_
  rotate_left
  · (intro w hSw; (try dsimp only at hSw); go_simp <;> with_reducible rfl)
  try simp only [Act.put, List.setIfInBounds_toArray, List.set_cons_zero, List.set_cons_succ]
  refine takeP8 (i := 8) (oi := _) (v := ?_) (d := some 67) rfl (by kernel_rfl) (by kernel_rfl) (by kernel_rfl) (by kernel_rfl) (fun _ _ _ h => h) (Or.inl ⟨by rfl, ?_⟩) (by assumption) ?_
  rotate_left
  · (intro w hSw; (try dsimp only at hSw); go_simp <;> with_reducible rfl)
  try simp only [Act.put, List.setIfInBounds_toArray, List.set_cons_zero, List.set_cons_succ]
  refine takeP8 (i := 9) (oi := _) (v := ?_) (d := some 68) rfl (by kernel_rfl) (by kernel_rfl) (by kernel_rfl) (by kernel_rfl) (fun _ _ _ h => h) (Or.inl ⟨by rfl, ?_⟩) (by assumption) ?_
  rotate_left
  · (intro w hSw; (try dsimp only at hSw); go_simp <;> with_reducible rfl)
  try simp only [Act.put, List.setIfInBounds_toArray, List.set_cons_zero, List.set_cons_succ]
  refine takeP8 (i := 10) (oi := _) (v := ?_) (d := some 69) rfl (by kernel_rfl) (by kernel_rfl) (by kernel_rfl) (by kernel_rfl) (fun _ _ _ h => h) (Or.inl ⟨by rfl, ?_⟩) (by assumption) ?_
  rotate_left
  · (intro w hSw; (try dsimp only at hSw); go_simp <;> with_reducible rfl)
  try simp only [Act.put, List.setIfInBounds_toArray, List.set_cons_zero, List.set_cons_succ]
  refine wpAnyH_ready (rs := [11]) (by kernel_rfl) (by simp) ?_
  refine AllReadyH.cons (o := _) rfl (fun K hK => ?_) AllReadyH.nil
  go_simp
  refine (sameMixU MX7.out MW7.out HSX.out).mono ?_
  rintro e w8 ⟨rfl, hb⟩
  have HB8 : Hid (Below w.heap.size w w8) := HB7.out.trans (hb.mono HB7.out.size)
  have CM8 : Hid (C5 w8 w1.heap.size (.slice pm zm.pool.length km) zm.least zm.wait zm.old (.slice sm zm.seen.length dm)) := CM7.out.later hb
  have MM8 : Hid (MB w8 pm km sm dm zm) := MM7.out.later hb
  have CX8 : Hid (C5 w8 w3.heap.size (.slice px zx.pool.length kx) zx.least zx.wait zx.old (.slice sx zx.seen.length dx)) := CX7.out.later hb
  have MX8 : Hid (MB w8 px kx sx dx zx) := MX7.out.later hb
  have CW8 : Hid (C5 w8 w5.heap.size (.slice pw zx.pool.length kw) zx.least zx.wait zx.old (.slice sw zx.seen.length dw)) := CW7.out.later hb
  have MW8 : Hid (MB w8 pw kw sw dw zx) := MW7.out.later hb
  clear hb HB7 CM7 MM7 CX7 MX7 CW7 MW7
  refine hK.out _ _ ?_ (fun hHeld => ?_)
  · exact ⟨CM8.out.1, CX8.out.1, CW8.out.1⟩
  clear hK K
  try simp only [Act.put, List.setIfInBounds_toArray, List.set_cons_zero, List.set_cons_succ]
  refine takeP8 (i := 12) (oi := _) (v := ?_) (d := some 71) rfl (by kernel_rfl) (by kernel_rfl) (by kernel_rfl) (by kernel_rfl) (fun _ _ _ h => h) (Or.inl ⟨by rfl, ?_⟩) (by assumption) ?_
  rotate_left
  · (intro w hSw; (try dsimp only at hSw); go_simp <;> with_reducible rfl)
  try simp only [Act.put, List.setIfInBounds_toArray, List.set_cons_zero, List.set_cons_succ]
  refine takeP8 (i := 13) (oi := _) (v := ?_) (d := some 72) rfl (by kernel_rfl) (by kernel_rfl) (by kernel_rfl) (by kernel_rfl) (fun _ _ _ h => h) (Or.inl ⟨by rfl, ?_⟩) (by assumption) ?_
  rotate_left
  · (intro w hSw; (try dsimp only at hSw); go_simp <;> with_reducible rfl)
  try simp only [Act.put, List.setIfInBounds_toArray, List.set_cons_zero, List.set_cons_succ]
  refine takeP8 (i := 14) (oi := _) (v := ?_) (d := some 73) rfl (by kernel_rfl) (by kernel_rfl) (by kernel_rfl) (by kernel_rfl) (fun _ _ _ h => h) (Or.inl ⟨by rfl, ?_⟩) (by assumption) ?_
  rotate_left
  · (intro w hSw; (try dsimp only at hSw); go_simp <;> with_reducible rfl)
  try simp only [Act.put, List.setIfInBounds_toArray, List.set_cons_zero, List.set_cons_succ]
  refine takeP8 (i := 15) (oi := _) (v := ?_) (d := some 74) rfl (by kernel_rfl) (by kernel_rfl) (by kernel_rfl) (by kernel_rfl) (fun _ _ _ h => h) (Or.inl ⟨by rfl, ?_⟩) (by assumption) ?_
  rotate_left
  · (intro w hSw; (try dsimp only at hSw); go_simp <;> with_reducible rfl)
  try simp only [Act.put, List.setIfInBounds_toArray, List.set_cons_zero, List.set_cons_succ]
  refine takeP8 (i := 17) (oi := _) (v := ?_) (d := some 76) rfl (by kernel_rfl) (by kernel_rfl) (by kernel_rfl) (by kernel_rfl) (fun _ _ _ h => h) (Or.inl ⟨by rfl, ?_⟩) (by assumption) ?_
  rotate_left
  · (intro w hSw; (try dsimp only at hSw); go_simp <;> with_reducible rfl)
  try simp only [Act.put, List.setIfInBounds_toArray, List.set_cons_zero, List.set_cons_succ]
  have HGZ : Hid (goodB zm = goodB zm) := rfl
  obtain ⟨gz, hgz⟩ : ∃ gz, goodB zm = gz := ⟨_, rfl⟩
  have hgg : (gz != gz) = false := by simp
  have HGI : Hid (∀ wx, MB wx pm km sm dm zm → Calls Try.prog 28 #[.agg #[.slice pm zm.pool.length km, .int .i64 zm.least, .int .i64 zm.wait, .int .i64 zm.old, .slice sm zm.seen.length dm]] wx fun e w' => e = .returned (.bool gz) ∧ Below wx.heap.size wx w') := fun wx h => by rw [← hgz]; exact implGoodU h HSM.out
  have HGS : Hid (∀ wx, MB wx pm km sm dm zm → Calls Try.prog 29 #[.agg #[.slice pm zm.pool.length km, .int .i64 zm.least, .int .i64 zm.wait, .int .i64 zm.old, .slice sm zm.seen.length dm]] wx fun e w' => e = .returned (.bool gz) ∧ Below wx.heap.size wx w') := fun wx h => by rw [← hgz]; exact specGoodU h HSM.out
  clear HGZ hgz
  refine wpAnyH_ready (rs := [16]) (by kernel_rfl) (by simp) ?_
  refine AllReadyH.cons (o := _) rfl (fun K hK => ?_) AllReadyH.nil
  go_simp
  refine (HGI.out _ MM8.out).mono ?_
  rintro e w9 ⟨rfl, hb⟩
  have HB9 : Hid (Below w.heap.size w w9) := HB8.out.trans (hb.mono HB8.out.size)
  have CM9 : Hid (C5 w9 w1.heap.size (.slice pm zm.pool.length km) zm.least zm.wait zm.old (.slice sm zm.seen.length dm)) := CM8.out.later hb
  have MM9 : Hid (MB w9 pm km sm dm zm) := MM8.out.later hb
  have CX9 : Hid (C5 w9 w3.heap.size (.slice px zx.pool.length kx) zx.least zx.wait zx.old (.slice sx zx.seen.length dx)) := CX8.out.later hb
  have MX9 : Hid (MB w9 px kx sx dx zx) := MX8.out.later hb
  have CW9 : Hid (C5 w9 w5.heap.size (.slice pw zx.pool.length kw) zx.least zx.wait zx.old (.slice sw zx.seen.length dw)) := CW8.out.later hb
  have MW9 : Hid (MB w9 pw kw sw dw zx) := MW8.out.later hb
  clear hb HB8 CM8 MM8 CX8 MX8 CW8 MW8
  refine hK.out _ _ ?_ (fun hHeld => ?_)
  · exact ⟨CM9.out.1, CX9.out.1, CW9.out.1⟩
  clear hK K
  try simp only [Act.put, List.setIfInBounds_toArray, List.set_cons_zero, List.set_cons_succ]
  refine wpAnyH_ready (rs := [18]) (by kernel_rfl) (by simp) ?_
  refine AllReadyH.cons (o := _) rfl (fun K hK => ?_) AllReadyH.nil
  go_simp
  refine (HGS.out _ MM9.out).mono ?_
  rintro e w10 ⟨rfl, hb⟩
  have HB10 : Hid (Below w.heap.size w w10) := HB9.out.trans (hb.mono HB9.out.size)
  have CM10 : Hid (C5 w10 w1.heap.size (.slice pm zm.pool.length km) zm.least zm.wait zm.old (.slice sm zm.seen.length dm)) := CM9.out.later hb
  have MM10 : Hid (MB w10 pm km sm dm zm) := MM9.out.later hb
  have CX10 : Hid (C5 w10 w3.heap.size (.slice px zx.pool.length kx) zx.least zx.wait zx.old (.slice sx zx.seen.length dx)) := CX9.out.later hb
  have MX10 : Hid (MB w10 px kx sx dx zx) := MX9.out.later hb
  have CW10 : Hid (C5 w10 w5.heap.size (.slice pw zx.pool.length kw) zx.least zx.wait zx.old (.slice sw zx.seen.length dw)) := CW9.out.later hb
  have MW10 : Hid (MB w10 pw kw sw dw zx) := MW9.out.later hb
  clear hb HB9 CM9 MM9 CX9 MX9 CW9 MW9
  refine hK.out _ _ ?_ (fun hHeld => ?_)
  · exact ⟨CM10.out.1, CX10.out.1, CW10.out.1⟩
  clear hK K
  try simp only [Act.put, List.setIfInBounds_toArray, List.set_cons_zero, List.set_cons_succ]
  refine takeP8 (i := 19) (oi := _) (v := ?_) (d := some 78) rfl (by kernel_rfl) (by kernel_rfl) (by kernel_rfl) (by kernel_rfl) (fun _ _ _ h => h) (Or.inl ⟨by rfl, ?_⟩) (by assumption) ?_
  rotate_left
  · (intro w hSw; (try dsimp only at hSw); go_simp <;> with_reducible rfl)
  try simp only [Act.put, List.setIfInBounds_toArray, List.set_cons_zero, List.set_cons_succ]
  refine takeP8 (i := 20) (oi := _) (v := ?_) (d := some 79) rfl (by kernel_rfl) (by kernel_rfl) (by kernel_rfl) (by kernel_rfl) (fun _ _ _ h => h) (Or.inl ⟨by rfl, ?_⟩) (by assumption) ?_
  rotate_left
  · (intro w hSw; (try dsimp only at hSw); go_simp <;> with_reducible rfl)
  try simp only [Act.put, List.setIfInBounds_toArray, List.set_cons_zero, List.set_cons_succ]
  refine wpAnyH_done (by kernel_rfl) ?_ _
  clear HGI HGS hHeld
  rcases (put_told HMX.out HLET.out HP.out).2 with ⟨hf, hcd⟩ | ⟨hf, hxx, hgx, hpx, hq⟩
  · subst hf
    clear hcd
    go_wp2_with fail
    refine (drawTick_c bo m d _ hm (codeOk9 HM.out HB10.out)).mono ?_
    rintro e w11 ⟨zt, pt, kt, st, dt, rfl, hmt, ⟨ho1, ho2⟩, hb⟩
    have HB11 : Hid (Below w.heap.size w w11) := HB10.out.trans (hb.mono HB10.out.size)
    have CM11 : Hid (C5 w11 w1.heap.size (.slice pm zm.pool.length km) zm.least zm.wait zm.old (.slice sm zm.seen.length dm)) := CM10.out.later hb
    have MM11 : Hid (MB w11 pm km sm dm zm) := MM10.out.later hb
    have CX11 : Hid (C5 w11 w3.heap.size (.slice px zx.pool.length kx) zx.least zx.wait zx.old (.slice sx zx.seen.length dx)) := CX10.out.later hb
    have MX11 : Hid (MB w11 px kx sx dx zx) := MX10.out.later hb
    have CW11 : Hid (C5 w11 w5.heap.size (.slice pw zx.pool.length kw) zx.least zx.wait zx.old (.slice sw zx.seen.length dw)) := CW10.out.later hb
    have MW11 : Hid (MB w11 pw kw sw dw zx) := MW10.out.later hb
    clear hb HB10 CM10 MM10 CX10 MX10 CW10 MW10
    have MT11 : Hid (MB w11 pt kt st dt zt) := MB.of ho1 ho2
    clear ho1 ho2
    have HMT : Hid (MxD zt) := hmt
    obtain ⟨zy, lg, ft, hT⟩ : ∃ zy lg ft, tickF zt = (zy, lg, ft) := ⟨_, _, _, rfl⟩
    have HTF : Hid (tickF zt = (zy, lg, ft)) := hT
    have HTT : Hid (fb_tick zt zy lg ft) := tick_told hmt hT
    have hft : (ft != ft) = false := by simp
    have HSY : Hid (SmallV zy) := (tick_told hmt hT).1
    obtain ⟨q9, hq9⟩ : ∃ q, lg.length = q := ⟨_, rfl⟩
    obtain ⟨y9, hy9⟩ : ∃ q, zy.pool.length = q := ⟨_, rfl⟩
    have HQ9 : Hid (lg.length = q9) := hq9
    have HY9 : Hid (zy.pool.length = y9) := hy9
    have hlg : q9 ≤ 1000 := by rw [← hq9]; exact (tick_told hmt hT).2.1
    have hly : y9 ≤ 1000 := by rw [← hy9]; exact HSY.out.pl
    clear hmt hT hq9 hy9
    obtain ⟨w12, hV12⟩ : ∃ V, w11.alloc (.cells #[.slice pt zt.pool.length kt, .int .i64 zt.least, .int .i64 zt.wait, .int .i64 zt.old, .slice st zt.seen.length dt] 41) = V := ⟨_, rfl⟩
    have hb : Below w11.heap.size w11 w12 := by rw [← hV12]; exact balloc w11 _
    have HB12 : Hid (Below w.heap.size w w12) := HB11.out.trans (hb.mono HB11.out.size)
    have CM12 : Hid (C5 w12 w1.heap.size (.slice pm zm.pool.length km) zm.least zm.wait zm.old (.slice sm zm.seen.length dm)) := CM11.out.later hb
    have MM12 : Hid (MB w12 pm km sm dm zm) := MM11.out.later hb
    have CX12 : Hid (C5 w12 w3.heap.size (.slice px zx.pool.length kx) zx.least zx.wait zx.old (.slice sx zx.seen.length dx)) := CX11.out.later hb
    have MX12 : Hid (MB w12 px kx sx dx zx) := MX11.out.later hb
    have CW12 : Hid (C5 w12 w5.heap.size (.slice pw zx.pool.length kw) zx.least zx.wait zx.old (.slice sw zx.seen.length dw)) := CW11.out.later hb
    have MW12 : Hid (MB w12 pw kw sw dw zx) := MW11.out.later hb
    have MT12 : Hid (MB w12 pt kt st dt zt) := MT11.out.later hb
    have CT12 : Hid (C5 w12 w11.heap.size (.slice pt zt.pool.length kt) zt.least zt.wait zt.old (.slice st zt.seen.length dt)) := by show C5 _ _ _ _ _ _ _; rw [← hV12]; exact c5_new _ _ _ _ _ _ _ _ rfl
    clear hb HB11 CM11 MM11 CX11 MX11 CW11 MW11 MT11
    obtain ⟨⟨uT0, uT1, uT2, uT3, uT4⟩, _⟩ := CT12.out
    go_wp2_with fail
    clear hV12
    refine (implTickQ MT12.out HMT.out.smallV HTF.out HQ9.out HY9.out).mono ?_
    rintro e w13 ⟨py, ky, sy, dy, ay, jy, rfl, hm9, ht, hb⟩
    have HB13 : Hid (Below w.heap.size w w13) := HB12.out.trans (hb.mono HB12.out.size)
    have CM13 : Hid (C5 w13 w1.heap.size (.slice pm zm.pool.length km) zm.least zm.wait zm.old (.slice sm zm.seen.length dm)) := CM12.out.later hb
    have MM13 : Hid (MB w13 pm km sm dm zm) := MM12.out.later hb
    have CX13 : Hid (C5 w13 w3.heap.size (.slice px zx.pool.length kx) zx.least zx.wait zx.old (.slice sx zx.seen.length dx)) := CX12.out.later hb
    have MX13 : Hid (MB w13 px kx sx dx zx) := MX12.out.later hb
    have CW13 : Hid (C5 w13 w5.heap.size (.slice pw zx.pool.length kw) zx.least zx.wait zx.old (.slice sw zx.seen.length dw)) := CW12.out.later hb
    have MW13 : Hid (MB w13 pw kw sw dw zx) := MW12.out.later hb
    have CT13 : Hid (C5 w13 w11.heap.size (.slice pt zt.pool.length kt) zt.least zt.wait zt.old (.slice st zt.seen.length dt)) := CT12.out.later hb
    have MT13 : Hid (MB w13 pt kt st dt zt) := MT12.out.later hb
    have TL13 : Hid (RdS w13 ay lg) := ht
    clear hb HB12 CM12 MM12 CX12 MX12 CW12 MW12 CT12 MT12 ht uT0 uT1 uT2 uT3 uT4
    have MY13 : Hid (MB w13 py ky sy dy zy) := hm9
    clear hm9
    obtain ⟨w14, hV14⟩ : ∃ V, w13.alloc (.cells #[.slice py y9 ky, .int .i64 zy.least, .int .i64 zy.wait, .int .i64 zy.old, .slice sy zy.seen.length dy] 41) = V := ⟨_, rfl⟩
    have hb : Below w13.heap.size w13 w14 := by rw [← hV14]; exact balloc w13 _
    have HB14 : Hid (Below w.heap.size w w14) := HB13.out.trans (hb.mono HB13.out.size)
    have CM14 : Hid (C5 w14 w1.heap.size (.slice pm zm.pool.length km) zm.least zm.wait zm.old (.slice sm zm.seen.length dm)) := CM13.out.later hb
    have MM14 : Hid (MB w14 pm km sm dm zm) := MM13.out.later hb
    have CX14 : Hid (C5 w14 w3.heap.size (.slice px zx.pool.length kx) zx.least zx.wait zx.old (.slice sx zx.seen.length dx)) := CX13.out.later hb
    have MX14 : Hid (MB w14 px kx sx dx zx) := MX13.out.later hb
    have CW14 : Hid (C5 w14 w5.heap.size (.slice pw zx.pool.length kw) zx.least zx.wait zx.old (.slice sw zx.seen.length dw)) := CW13.out.later hb
    have MW14 : Hid (MB w14 pw kw sw dw zx) := MW13.out.later hb
    have CT14 : Hid (C5 w14 w11.heap.size (.slice pt zt.pool.length kt) zt.least zt.wait zt.old (.slice st zt.seen.length dt)) := CT13.out.later hb
    have MT14 : Hid (MB w14 pt kt st dt zt) := MT13.out.later hb
    have MY14 : Hid (MB w14 py ky sy dy zy) := MY13.out.later hb
    have TL14 : Hid (RdS w14 ay lg) := TL13.out.later hb
    have CY14 : Hid (C5 w14 w13.heap.size (.slice py y9 ky) zy.least zy.wait zy.old (.slice sy zy.seen.length dy)) := by show C5 _ _ _ _ _ _ _; rw [← hV14]; exact c5_new _ _ _ _ _ _ _ _ rfl
    clear hb HB13 CM13 MM13 CX13 MX13 CW13 MW13 CT13 MT13 MY13 TL13
    obtain ⟨⟨uT0, uT1, uT2, uT3, uT4⟩, _⟩ := CT14.out
    go_wp2_with fail
    clear hV14
    refine (specTickQ MT14.out HMT.out.smallV HTF.out HQ9.out HY9.out).mono ?_
    rintro e w15 ⟨pk, kk, sk, dk, ak, jk, rfl, hm9, ht, hb⟩
    have HB15 : Hid (Below w.heap.size w w15) := HB14.out.trans (hb.mono HB14.out.size)
    have CM15 : Hid (C5 w15 w1.heap.size (.slice pm zm.pool.length km) zm.least zm.wait zm.old (.slice sm zm.seen.length dm)) := CM14.out.later hb
    have MM15 : Hid (MB w15 pm km sm dm zm) := MM14.out.later hb
    have CX15 : Hid (C5 w15 w3.heap.size (.slice px zx.pool.length kx) zx.least zx.wait zx.old (.slice sx zx.seen.length dx)) := CX14.out.later hb
    have MX15 : Hid (MB w15 px kx sx dx zx) := MX14.out.later hb
    have CW15 : Hid (C5 w15 w5.heap.size (.slice pw zx.pool.length kw) zx.least zx.wait zx.old (.slice sw zx.seen.length dw)) := CW14.out.later hb
    have MW15 : Hid (MB w15 pw kw sw dw zx) := MW14.out.later hb
    have CT15 : Hid (C5 w15 w11.heap.size (.slice pt zt.pool.length kt) zt.least zt.wait zt.old (.slice st zt.seen.length dt)) := CT14.out.later hb
    have MT15 : Hid (MB w15 pt kt st dt zt) := MT14.out.later hb
    have CY15 : Hid (C5 w15 w13.heap.size (.slice py y9 ky) zy.least zy.wait zy.old (.slice sy zy.seen.length dy)) := CY14.out.later hb
    have MY15 : Hid (MB w15 py ky sy dy zy) := MY14.out.later hb
    have TL15 : Hid (RdS w15 ay lg) := TL14.out.later hb
    have TG15 : Hid (RdS w15 ak lg) := ht
    clear hb HB14 CM14 MM14 CX14 MX14 CW14 MW14 CT14 MT14 CY14 MY14 TL14 ht uT0 uT1 uT2 uT3 uT4
    have MK15 : Hid (MB w15 pk kk sk dk zy) := hm9
    clear hm9
    obtain ⟨w16, hV16⟩ : ∃ V, w15.alloc (.cells #[.slice pk y9 kk, .int .i64 zy.least, .int .i64 zy.wait, .int .i64 zy.old, .slice sk zy.seen.length dk] 41) = V := ⟨_, rfl⟩
    have hb : Below w15.heap.size w15 w16 := by rw [← hV16]; exact balloc w15 _
    have HB16 : Hid (Below w.heap.size w w16) := HB15.out.trans (hb.mono HB15.out.size)
    have CM16 : Hid (C5 w16 w1.heap.size (.slice pm zm.pool.length km) zm.least zm.wait zm.old (.slice sm zm.seen.length dm)) := CM15.out.later hb
    have MM16 : Hid (MB w16 pm km sm dm zm) := MM15.out.later hb
    have CX16 : Hid (C5 w16 w3.heap.size (.slice px zx.pool.length kx) zx.least zx.wait zx.old (.slice sx zx.seen.length dx)) := CX15.out.later hb
    have MX16 : Hid (MB w16 px kx sx dx zx) := MX15.out.later hb
    have CW16 : Hid (C5 w16 w5.heap.size (.slice pw zx.pool.length kw) zx.least zx.wait zx.old (.slice sw zx.seen.length dw)) := CW15.out.later hb
    have MW16 : Hid (MB w16 pw kw sw dw zx) := MW15.out.later hb
    have CT16 : Hid (C5 w16 w11.heap.size (.slice pt zt.pool.length kt) zt.least zt.wait zt.old (.slice st zt.seen.length dt)) := CT15.out.later hb
    have MT16 : Hid (MB w16 pt kt st dt zt) := MT15.out.later hb
    have CY16 : Hid (C5 w16 w13.heap.size (.slice py y9 ky) zy.least zy.wait zy.old (.slice sy zy.seen.length dy)) := CY15.out.later hb
    have MY16 : Hid (MB w16 py ky sy dy zy) := MY15.out.later hb
    have MK16 : Hid (MB w16 pk kk sk dk zy) := MK15.out.later hb
    have TL16 : Hid (RdS w16 ay lg) := TL15.out.later hb
    have TG16 : Hid (RdS w16 ak lg) := TG15.out.later hb
    have CK16 : Hid (C5 w16 w15.heap.size (.slice pk y9 kk) zy.least zy.wait zy.old (.slice sk zy.seen.length dk)) := by show C5 _ _ _ _ _ _ _; rw [← hV16]; exact c5_new _ _ _ _ _ _ _ _ rfl
    clear hb HB15 CM15 MM15 CX15 MX15 CW15 MW15 CT15 MT15 CY15 MY15 MK15 TL15 TG15
    obtain ⟨⟨uY0, uY1, uY2, uY3, uY4⟩, _⟩ := CY16.out
    obtain ⟨⟨uK0, uK1, uK2, uK3, uK4⟩, _⟩ := CK16.out
    go_wp2_with fail
    clear hV16
    refine (sameMixQ MY16.out MK16.out HSY.out HY9.out).mono ?_
    rintro e w17 ⟨rfl, hb⟩
    have HB17 : Hid (Below w.heap.size w w17) := HB16.out.trans (hb.mono HB16.out.size)
    have CM17 : Hid (C5 w17 w1.heap.size (.slice pm zm.pool.length km) zm.least zm.wait zm.old (.slice sm zm.seen.length dm)) := CM16.out.later hb
    have MM17 : Hid (MB w17 pm km sm dm zm) := MM16.out.later hb
    have CX17 : Hid (C5 w17 w3.heap.size (.slice px zx.pool.length kx) zx.least zx.wait zx.old (.slice sx zx.seen.length dx)) := CX16.out.later hb
    have MX17 : Hid (MB w17 px kx sx dx zx) := MX16.out.later hb
    have CW17 : Hid (C5 w17 w5.heap.size (.slice pw zx.pool.length kw) zx.least zx.wait zx.old (.slice sw zx.seen.length dw)) := CW16.out.later hb
    have MW17 : Hid (MB w17 pw kw sw dw zx) := MW16.out.later hb
    have CT17 : Hid (C5 w17 w11.heap.size (.slice pt zt.pool.length kt) zt.least zt.wait zt.old (.slice st zt.seen.length dt)) := CT16.out.later hb
    have MT17 : Hid (MB w17 pt kt st dt zt) := MT16.out.later hb
    have CY17 : Hid (C5 w17 w13.heap.size (.slice py y9 ky) zy.least zy.wait zy.old (.slice sy zy.seen.length dy)) := CY16.out.later hb
    have MY17 : Hid (MB w17 py ky sy dy zy) := MY16.out.later hb
    have CK17 : Hid (C5 w17 w15.heap.size (.slice pk y9 kk) zy.least zy.wait zy.old (.slice sk zy.seen.length dk)) := CK16.out.later hb
    have MK17 : Hid (MB w17 pk kk sk dk zy) := MK16.out.later hb
    have TL17 : Hid (RdS w17 ay lg) := TL16.out.later hb
    have TG17 : Hid (RdS w17 ak lg) := TG16.out.later hb
    clear hb HB16 CM16 MM16 CX16 MX16 CW16 MW16 CT16 MT16 CY16 MY16 CK16 MK16 TL16 TG16 uY0 uY1 uY2 uY3 uY4 uK0 uK1 uK2 uK3 uK4
    go_wp2_with fail
    refine (sameTextsQ TL17.out TG17.out rfl HQ9.out HQ9.out hlg).mono ?_
    rintro e w18 ⟨rfl, hb⟩
    have HB18 : Hid (Below w.heap.size w w18) := HB17.out.trans (hb.mono HB17.out.size)
    have CM18 : Hid (C5 w18 w1.heap.size (.slice pm zm.pool.length km) zm.least zm.wait zm.old (.slice sm zm.seen.length dm)) := CM17.out.later hb
    have MM18 : Hid (MB w18 pm km sm dm zm) := MM17.out.later hb
    have CX18 : Hid (C5 w18 w3.heap.size (.slice px zx.pool.length kx) zx.least zx.wait zx.old (.slice sx zx.seen.length dx)) := CX17.out.later hb
    have MX18 : Hid (MB w18 px kx sx dx zx) := MX17.out.later hb
    have CW18 : Hid (C5 w18 w5.heap.size (.slice pw zx.pool.length kw) zx.least zx.wait zx.old (.slice sw zx.seen.length dw)) := CW17.out.later hb
    have MW18 : Hid (MB w18 pw kw sw dw zx) := MW17.out.later hb
    have CT18 : Hid (C5 w18 w11.heap.size (.slice pt zt.pool.length kt) zt.least zt.wait zt.old (.slice st zt.seen.length dt)) := CT17.out.later hb
    have MT18 : Hid (MB w18 pt kt st dt zt) := MT17.out.later hb
    have CY18 : Hid (C5 w18 w13.heap.size (.slice py y9 ky) zy.least zy.wait zy.old (.slice sy zy.seen.length dy)) := CY17.out.later hb
    have MY18 : Hid (MB w18 py ky sy dy zy) := MY17.out.later hb
    have CK18 : Hid (C5 w18 w15.heap.size (.slice pk y9 kk) zy.least zy.wait zy.old (.slice sk zy.seen.length dk)) := CK17.out.later hb
    have MK18 : Hid (MB w18 pk kk sk dk zy) := MK17.out.later hb
    have TL18 : Hid (RdS w18 ay lg) := TL17.out.later hb
    have TG18 : Hid (RdS w18 ak lg) := TG17.out.later hb
    clear hb HB17 CM17 MM17 CX17 MX17 CW17 MW17 CT17 MT17 CY17 MY17 CK17 MK17 TL17 TG17
    rcases HTT.out.2.2 with hf | ⟨hf, hgy, hq⟩
    · subst hf
      go_wp2_with fail
      refine (drawNew_c bo m d _ hm (codeOk9 HM.out HB18.out)).mono ?_
      rintro e w19 ⟨na, nb, rfl, hb⟩
      have HB19 : Hid (Below w.heap.size w w19) := HB18.out.trans (hb.mono HB18.out.size)
      have CM19 : Hid (C5 w19 w1.heap.size (.slice pm zm.pool.length km) zm.least zm.wait zm.old (.slice sm zm.seen.length dm)) := CM18.out.later hb
      have MM19 : Hid (MB w19 pm km sm dm zm) := MM18.out.later hb
      have CX19 : Hid (C5 w19 w3.heap.size (.slice px zx.pool.length kx) zx.least zx.wait zx.old (.slice sx zx.seen.length dx)) := CX18.out.later hb
      have MX19 : Hid (MB w19 px kx sx dx zx) := MX18.out.later hb
      have CW19 : Hid (C5 w19 w5.heap.size (.slice pw zx.pool.length kw) zx.least zx.wait zx.old (.slice sw zx.seen.length dw)) := CW18.out.later hb
      have MW19 : Hid (MB w19 pw kw sw dw zx) := MW18.out.later hb
      have CT19 : Hid (C5 w19 w11.heap.size (.slice pt zt.pool.length kt) zt.least zt.wait zt.old (.slice st zt.seen.length dt)) := CT18.out.later hb
      have MT19 : Hid (MB w19 pt kt st dt zt) := MT18.out.later hb
      have CY19 : Hid (C5 w19 w13.heap.size (.slice py y9 ky) zy.least zy.wait zy.old (.slice sy zy.seen.length dy)) := CY18.out.later hb
      have MY19 : Hid (MB w19 py ky sy dy zy) := MY18.out.later hb
      have CK19 : Hid (C5 w19 w15.heap.size (.slice pk y9 kk) zy.least zy.wait zy.old (.slice sk zy.seen.length dk)) := CK18.out.later hb
      have MK19 : Hid (MB w19 pk kk sk dk zy) := MK18.out.later hb
      have TL19 : Hid (RdS w19 ay lg) := TL18.out.later hb
      have TG19 : Hid (RdS w19 ak lg) := TG18.out.later hb
      clear hb HB18 CM18 MM18 CX18 MX18 CW18 MW18 CT18 MT18 CY18 MY18 CK18 MK18 TL18 TG18
      obtain ⟨la, hla⟩ : ∃ la, (newM na nb).least = la := ⟨_, rfl⟩
      obtain ⟨lw, hlw⟩ : ∃ lw, (newM na nb).wait = lw := ⟨_, rfl⟩
      obtain ⟨nf, hnf⟩ : ∃ nf, newB na nb = nf := ⟨_, rfl⟩
      have hnn : (nf == nf) = true := by simp
      have HNI : Hid (∀ wx, Calls Try.prog 34 #[.int .i64 na, .int .i64 nb] wx fun e w' => e = .returned (.tuple #[.agg #[.slice none 0 0, .int .i64 la, .int .i64 lw, .int .i64 0, .slice none 0 0], .bool nf]) ∧ Below wx.heap.size wx w') := fun wx => by rw [← hla, ← hlw, ← hnf]; exact implNew_c na nb wx
      have HNS : Hid (∀ wx, Calls Try.prog 35 #[.int .i64 na, .int .i64 nb] wx fun e w' => e = .returned (.tuple #[.agg #[.slice none 0 0, .int .i64 la, .int .i64 lw, .int .i64 0, .slice none 0 0], .bool nf]) ∧ Below wx.heap.size wx w') := fun wx => by rw [← hla, ← hlw, ← hnf]; exact specNew_c na nb wx
      clear hla hlw hnf
      go_wp2_with fail
      refine (HNI.out _).mono ?_
      rintro e w20 ⟨rfl, hb⟩
      have HB20 : Hid (Below w.heap.size w w20) := HB19.out.trans (hb.mono HB19.out.size)
      clear hb HB19
      obtain ⟨_, _, _, hS3, hS4⟩ := box_same w20 (Value.slice none 0 0) la lw 0 (Value.slice none 0 0) 41
      obtain ⟨w21, hV21⟩ : ∃ V, w20.alloc (.cells #[.slice none 0 0, .int .i64 la, .int .i64 lw, .int .i64 0, .slice none 0 0] 41) = V := ⟨_, rfl⟩
      have hb : Below w20.heap.size w20 w21 := by rw [← hV21]; exact balloc w20 _
      have HB21 : Hid (Below w.heap.size w w21) := HB20.out.trans (hb.mono HB20.out.size)
      have Na21 : Hid (C5 w21 w20.heap.size (.slice none 0 0) la lw 0 (.slice none 0 0)) := by show C5 _ _ _ _ _ _ _; rw [← hV21]; exact c5_new _ _ _ _ _ _ _ _ rfl
      clear hb HB20
      rw [hV21] at hS3 hS4
      obtain ⟨⟨_, _, _, n3, n4⟩, nf⟩ := Na21.out
      have nf3 := nf 3
      have nf4 := nf 4
      clear nf
      go_wp2_with fail
      clear hV21 hS3 hS4 n3 n4 nf3 nf4
      refine (HNS.out _).mono ?_
      rintro e w22 ⟨rfl, hb⟩
      have HB22 : Hid (Below w.heap.size w w22) := HB21.out.trans (hb.mono HB21.out.size)
      have Na22 : Hid (C5 w22 w20.heap.size (.slice none 0 0) la lw 0 (.slice none 0 0)) := Na21.out.later hb
      clear hb HB21 Na21
      obtain ⟨_, _, _, hS3, hS4⟩ := box_same w22 (Value.slice none 0 0) la lw 0 (Value.slice none 0 0) 41
      obtain ⟨w23, hV23⟩ : ∃ V, w22.alloc (.cells #[.slice none 0 0, .int .i64 la, .int .i64 lw, .int .i64 0, .slice none 0 0] 41) = V := ⟨_, rfl⟩
      have hb : Below w22.heap.size w22 w23 := by rw [← hV23]; exact balloc w22 _
      have HB23 : Hid (Below w.heap.size w w23) := HB22.out.trans (hb.mono HB22.out.size)
      have Na23 : Hid (C5 w23 w20.heap.size (.slice none 0 0) la lw 0 (.slice none 0 0)) := Na22.out.later hb
      have Nb23 : Hid (C5 w23 w22.heap.size (.slice none 0 0) la lw 0 (.slice none 0 0)) := by show C5 _ _ _ _ _ _ _; rw [← hV23]; exact c5_new _ _ _ _ _ _ _ _ rfl
      clear hb HB22 Na22
      rw [hV23] at hS3 hS4
      obtain ⟨⟨_, _, _, n3, n4⟩, nf⟩ := Nb23.out
      have nf3 := nf 3
      have nf4 := nf 4
      clear nf
      go_wp2_with fail
      clear hV23 hS3 hS4 n3 n4 nf3 nf4
      refine (drawTag_c bo m d _ hm (codeOk9 HM.out HB23.out)).mono ?_
      rintro e w24 ⟨tg, rfl, htg, hb⟩
      have HB24 : Hid (Below w.heap.size w w24) := HB23.out.trans (hb.mono HB23.out.size)
      have Na24 : Hid (C5 w24 w20.heap.size (.slice none 0 0) la lw 0 (.slice none 0 0)) := Na23.out.later hb
      have Nb24 : Hid (C5 w24 w22.heap.size (.slice none 0 0) la lw 0 (.slice none 0 0)) := Nb23.out.later hb
      clear hb HB23 Na23 Nb23
      obtain ⟨tn, tf, hTG⟩ : ∃ tn tf, tagF tg = (tn, tf) := ⟨_, _, rfl⟩
      have htt : (tf == tf) = true := by simp
      have htn : (tn == tn) = true := by simp
      have q1 := fun wx => implTag_c tg wx (by omega) tn tf hTG
      have q2 := fun wx => specTag_c tg wx (by omega) tn tf hTG
      clear hTG
      go_wp2_with fail
      refine (q1 _).mono ?_
      rintro e w' ⟨rfl, hw⟩
      subst w'
      go_wp2_with fail
      refine (q2 _).mono ?_
      rintro e w' ⟨rfl, hw⟩
      subst w'
      obtain ⟨⟨ua0, ua1, ua2, ua3, ua4⟩, _⟩ := Na24.out
      obtain ⟨⟨ub0, ub1, ub2, ub3, ub4⟩, _⟩ := Nb24.out
      clear q1 q2
      go_wp2_with fail
      refine (sameMix_c none none none none 0 0 0 0 0 0 la lw 0 [] [] _ rfl rfl (by omega) (by omega) (Or.inl rfl) (Or.inl rfl) (Or.inl rfl) (Or.inl rfl)).mono ?_
      rintro e w25 ⟨rfl, hb⟩
      have HB25 : Hid (Below w.heap.size w w25) := HB24.out.trans (hb.mono HB24.out.size)
      have Na25 : Hid (C5 w25 w20.heap.size (.slice none 0 0) la lw 0 (.slice none 0 0)) := Na24.out.later hb
      have Nb25 : Hid (C5 w25 w22.heap.size (.slice none 0 0) la lw 0 (.slice none 0 0)) := Nb24.out.later hb
      clear hb HB24 Na24 Nb24
      go_wp2
      go_ret
      exact ⟨rfl, HB25.out⟩
    · subst hf
      have HGY : Hid (goodB zy = true) := hgy
      clear hgy
      rcases hq with ⟨hq1, hq2⟩ | ⟨hq1, hq2, hq3⟩
      · have HQ2 : Hid (zy.pool = zt.pool) := hq2
        obtain rfl : q9 = 0 := by rw [← HQ9.out, hq1]; rfl
        clear hq1 hq2
        obtain ⟨⟨uY0, uY1, uY2, uY3, uY4⟩, _⟩ := CY18.out
        go_wp2_with fail
        refine (implGoodQ MY18.out HSY.out HY9.out HGY.out).mono ?_
        rintro e w19 ⟨rfl, hb⟩
        have HB19 : Hid (Below w.heap.size w w19) := HB18.out.trans (hb.mono HB18.out.size)
        have CM19 : Hid (C5 w19 w1.heap.size (.slice pm zm.pool.length km) zm.least zm.wait zm.old (.slice sm zm.seen.length dm)) := CM18.out.later hb
        have MM19 : Hid (MB w19 pm km sm dm zm) := MM18.out.later hb
        have CX19 : Hid (C5 w19 w3.heap.size (.slice px zx.pool.length kx) zx.least zx.wait zx.old (.slice sx zx.seen.length dx)) := CX18.out.later hb
        have MX19 : Hid (MB w19 px kx sx dx zx) := MX18.out.later hb
        have CW19 : Hid (C5 w19 w5.heap.size (.slice pw zx.pool.length kw) zx.least zx.wait zx.old (.slice sw zx.seen.length dw)) := CW18.out.later hb
        have MW19 : Hid (MB w19 pw kw sw dw zx) := MW18.out.later hb
        have CT19 : Hid (C5 w19 w11.heap.size (.slice pt zt.pool.length kt) zt.least zt.wait zt.old (.slice st zt.seen.length dt)) := CT18.out.later hb
        have MT19 : Hid (MB w19 pt kt st dt zt) := MT18.out.later hb
        have CY19 : Hid (C5 w19 w13.heap.size (.slice py y9 ky) zy.least zy.wait zy.old (.slice sy zy.seen.length dy)) := CY18.out.later hb
        have MY19 : Hid (MB w19 py ky sy dy zy) := MY18.out.later hb
        have CK19 : Hid (C5 w19 w15.heap.size (.slice pk y9 kk) zy.least zy.wait zy.old (.slice sk zy.seen.length dk)) := CK18.out.later hb
        have MK19 : Hid (MB w19 pk kk sk dk zy) := MK18.out.later hb
        have TL19 : Hid (RdS w19 ay lg) := TL18.out.later hb
        have TG19 : Hid (RdS w19 ak lg) := TG18.out.later hb
        clear hb HB18 CM18 MM18 CX18 MX18 CW18 MW18 CT18 MT18 CY18 MY18 CK18 MK18 TL18 TG18 uY0 uY1 uY2 uY3 uY4
        obtain ⟨⟨uY0, uY1, uY2, uY3, uY4⟩, _⟩ := CY19.out
        obtain ⟨⟨uT0, uT1, uT2, uT3, uT4⟩, _⟩ := CT19.out
        go_wp2_with fail
        refine (sameTextsQ MY19.out.rd MT19.out.rd HQ2.out HY9.out rfl hly).mono ?_
        rintro e w20 ⟨rfl, hb⟩
        have HB20 : Hid (Below w.heap.size w w20) := HB19.out.trans (hb.mono HB19.out.size)
        have CM20 : Hid (C5 w20 w1.heap.size (.slice pm zm.pool.length km) zm.least zm.wait zm.old (.slice sm zm.seen.length dm)) := CM19.out.later hb
        have MM20 : Hid (MB w20 pm km sm dm zm) := MM19.out.later hb
        have CX20 : Hid (C5 w20 w3.heap.size (.slice px zx.pool.length kx) zx.least zx.wait zx.old (.slice sx zx.seen.length dx)) := CX19.out.later hb
        have MX20 : Hid (MB w20 px kx sx dx zx) := MX19.out.later hb
        have CW20 : Hid (C5 w20 w5.heap.size (.slice pw zx.pool.length kw) zx.least zx.wait zx.old (.slice sw zx.seen.length dw)) := CW19.out.later hb
        have MW20 : Hid (MB w20 pw kw sw dw zx) := MW19.out.later hb
        have CT20 : Hid (C5 w20 w11.heap.size (.slice pt zt.pool.length kt) zt.least zt.wait zt.old (.slice st zt.seen.length dt)) := CT19.out.later hb
        have MT20 : Hid (MB w20 pt kt st dt zt) := MT19.out.later hb
        have CY20 : Hid (C5 w20 w13.heap.size (.slice py y9 ky) zy.least zy.wait zy.old (.slice sy zy.seen.length dy)) := CY19.out.later hb
        have MY20 : Hid (MB w20 py ky sy dy zy) := MY19.out.later hb
        have CK20 : Hid (C5 w20 w15.heap.size (.slice pk y9 kk) zy.least zy.wait zy.old (.slice sk zy.seen.length dk)) := CK19.out.later hb
        have MK20 : Hid (MB w20 pk kk sk dk zy) := MK19.out.later hb
        have TL20 : Hid (RdS w20 ay lg) := TL19.out.later hb
        have TG20 : Hid (RdS w20 ak lg) := TG19.out.later hb
        clear hb HB19 CM19 MM19 CX19 MX19 CW19 MW19 CT19 MT19 CY19 MY19 CK19 MK19 TL19 TG19 uY0 uY1 uY2 uY3 uY4 uT0 uT1 uT2 uT3 uT4
        go_wp2_with fail
        refine (drawNew_c bo m d _ hm (codeOk9 HM.out HB20.out)).mono ?_
        rintro e w21 ⟨na, nb, rfl, hb⟩
        have HB21 : Hid (Below w.heap.size w w21) := HB20.out.trans (hb.mono HB20.out.size)
        have CM21 : Hid (C5 w21 w1.heap.size (.slice pm zm.pool.length km) zm.least zm.wait zm.old (.slice sm zm.seen.length dm)) := CM20.out.later hb
        have MM21 : Hid (MB w21 pm km sm dm zm) := MM20.out.later hb
        have CX21 : Hid (C5 w21 w3.heap.size (.slice px zx.pool.length kx) zx.least zx.wait zx.old (.slice sx zx.seen.length dx)) := CX20.out.later hb
        have MX21 : Hid (MB w21 px kx sx dx zx) := MX20.out.later hb
        have CW21 : Hid (C5 w21 w5.heap.size (.slice pw zx.pool.length kw) zx.least zx.wait zx.old (.slice sw zx.seen.length dw)) := CW20.out.later hb
        have MW21 : Hid (MB w21 pw kw sw dw zx) := MW20.out.later hb
        have CT21 : Hid (C5 w21 w11.heap.size (.slice pt zt.pool.length kt) zt.least zt.wait zt.old (.slice st zt.seen.length dt)) := CT20.out.later hb
        have MT21 : Hid (MB w21 pt kt st dt zt) := MT20.out.later hb
        have CY21 : Hid (C5 w21 w13.heap.size (.slice py y9 ky) zy.least zy.wait zy.old (.slice sy zy.seen.length dy)) := CY20.out.later hb
        have MY21 : Hid (MB w21 py ky sy dy zy) := MY20.out.later hb
        have CK21 : Hid (C5 w21 w15.heap.size (.slice pk y9 kk) zy.least zy.wait zy.old (.slice sk zy.seen.length dk)) := CK20.out.later hb
        have MK21 : Hid (MB w21 pk kk sk dk zy) := MK20.out.later hb
        have TL21 : Hid (RdS w21 ay lg) := TL20.out.later hb
        have TG21 : Hid (RdS w21 ak lg) := TG20.out.later hb
        clear hb HB20 CM20 MM20 CX20 MX20 CW20 MW20 CT20 MT20 CY20 MY20 CK20 MK20 TL20 TG20
        obtain ⟨la, hla⟩ : ∃ la, (newM na nb).least = la := ⟨_, rfl⟩
        obtain ⟨lw, hlw⟩ : ∃ lw, (newM na nb).wait = lw := ⟨_, rfl⟩
        obtain ⟨nf, hnf⟩ : ∃ nf, newB na nb = nf := ⟨_, rfl⟩
        have hnn : (nf == nf) = true := by simp
        have HNI : Hid (∀ wx, Calls Try.prog 34 #[.int .i64 na, .int .i64 nb] wx fun e w' => e = .returned (.tuple #[.agg #[.slice none 0 0, .int .i64 la, .int .i64 lw, .int .i64 0, .slice none 0 0], .bool nf]) ∧ Below wx.heap.size wx w') := fun wx => by rw [← hla, ← hlw, ← hnf]; exact implNew_c na nb wx
        have HNS : Hid (∀ wx, Calls Try.prog 35 #[.int .i64 na, .int .i64 nb] wx fun e w' => e = .returned (.tuple #[.agg #[.slice none 0 0, .int .i64 la, .int .i64 lw, .int .i64 0, .slice none 0 0], .bool nf]) ∧ Below wx.heap.size wx w') := fun wx => by rw [← hla, ← hlw, ← hnf]; exact specNew_c na nb wx
        clear hla hlw hnf
        go_wp2_with fail
        refine (HNI.out _).mono ?_
        rintro e w22 ⟨rfl, hb⟩
        have HB22 : Hid (Below w.heap.size w w22) := HB21.out.trans (hb.mono HB21.out.size)
        clear hb HB21
        obtain ⟨_, _, _, hS3, hS4⟩ := box_same w22 (Value.slice none 0 0) la lw 0 (Value.slice none 0 0) 41
        obtain ⟨w23, hV23⟩ : ∃ V, w22.alloc (.cells #[.slice none 0 0, .int .i64 la, .int .i64 lw, .int .i64 0, .slice none 0 0] 41) = V := ⟨_, rfl⟩
        have hb : Below w22.heap.size w22 w23 := by rw [← hV23]; exact balloc w22 _
        have HB23 : Hid (Below w.heap.size w w23) := HB22.out.trans (hb.mono HB22.out.size)
        have Na23 : Hid (C5 w23 w22.heap.size (.slice none 0 0) la lw 0 (.slice none 0 0)) := by show C5 _ _ _ _ _ _ _; rw [← hV23]; exact c5_new _ _ _ _ _ _ _ _ rfl
        clear hb HB22
        rw [hV23] at hS3 hS4
        obtain ⟨⟨_, _, _, n3, n4⟩, nf⟩ := Na23.out
        have nf3 := nf 3
        have nf4 := nf 4
        clear nf
        go_wp2_with fail
        clear hV23 hS3 hS4 n3 n4 nf3 nf4
        refine (HNS.out _).mono ?_
        rintro e w24 ⟨rfl, hb⟩
        have HB24 : Hid (Below w.heap.size w w24) := HB23.out.trans (hb.mono HB23.out.size)
        have Na24 : Hid (C5 w24 w22.heap.size (.slice none 0 0) la lw 0 (.slice none 0 0)) := Na23.out.later hb
        clear hb HB23 Na23
        obtain ⟨_, _, _, hS3, hS4⟩ := box_same w24 (Value.slice none 0 0) la lw 0 (Value.slice none 0 0) 41
        obtain ⟨w25, hV25⟩ : ∃ V, w24.alloc (.cells #[.slice none 0 0, .int .i64 la, .int .i64 lw, .int .i64 0, .slice none 0 0] 41) = V := ⟨_, rfl⟩
        have hb : Below w24.heap.size w24 w25 := by rw [← hV25]; exact balloc w24 _
        have HB25 : Hid (Below w.heap.size w w25) := HB24.out.trans (hb.mono HB24.out.size)
        have Na25 : Hid (C5 w25 w22.heap.size (.slice none 0 0) la lw 0 (.slice none 0 0)) := Na24.out.later hb
        have Nb25 : Hid (C5 w25 w24.heap.size (.slice none 0 0) la lw 0 (.slice none 0 0)) := by show C5 _ _ _ _ _ _ _; rw [← hV25]; exact c5_new _ _ _ _ _ _ _ _ rfl
        clear hb HB24 Na24
        rw [hV25] at hS3 hS4
        obtain ⟨⟨_, _, _, n3, n4⟩, nf⟩ := Nb25.out
        have nf3 := nf 3
        have nf4 := nf 4
        clear nf
        go_wp2_with fail
        clear hV25 hS3 hS4 n3 n4 nf3 nf4
        refine (drawTag_c bo m d _ hm (codeOk9 HM.out HB25.out)).mono ?_
        rintro e w26 ⟨tg, rfl, htg, hb⟩
        have HB26 : Hid (Below w.heap.size w w26) := HB25.out.trans (hb.mono HB25.out.size)
        have Na26 : Hid (C5 w26 w22.heap.size (.slice none 0 0) la lw 0 (.slice none 0 0)) := Na25.out.later hb
        have Nb26 : Hid (C5 w26 w24.heap.size (.slice none 0 0) la lw 0 (.slice none 0 0)) := Nb25.out.later hb
        clear hb HB25 Na25 Nb25
        obtain ⟨tn, tf, hTG⟩ : ∃ tn tf, tagF tg = (tn, tf) := ⟨_, _, rfl⟩
        have htt : (tf == tf) = true := by simp
        have htn : (tn == tn) = true := by simp
        have q1 := fun wx => implTag_c tg wx (by omega) tn tf hTG
        have q2 := fun wx => specTag_c tg wx (by omega) tn tf hTG
        clear hTG
        go_wp2_with fail
        refine (q1 _).mono ?_
        rintro e w' ⟨rfl, hw⟩
        subst w'
        go_wp2_with fail
        refine (q2 _).mono ?_
        rintro e w' ⟨rfl, hw⟩
        subst w'
        obtain ⟨⟨ua0, ua1, ua2, ua3, ua4⟩, _⟩ := Na26.out
        obtain ⟨⟨ub0, ub1, ub2, ub3, ub4⟩, _⟩ := Nb26.out
        clear q1 q2
        go_wp2_with fail
        refine (sameMix_c none none none none 0 0 0 0 0 0 la lw 0 [] [] _ rfl rfl (by omega) (by omega) (Or.inl rfl) (Or.inl rfl) (Or.inl rfl) (Or.inl rfl)).mono ?_
        rintro e w27 ⟨rfl, hb⟩
        have HB27 : Hid (Below w.heap.size w w27) := HB26.out.trans (hb.mono HB26.out.size)
        have Na27 : Hid (C5 w27 w22.heap.size (.slice none 0 0) la lw 0 (.slice none 0 0)) := Na26.out.later hb
        have Nb27 : Hid (C5 w27 w24.heap.size (.slice none 0 0) la lw 0 (.slice none 0 0)) := Nb26.out.later hb
        clear hb HB26 Na26 Nb26
        go_wp2
        go_ret
        exact ⟨rfl, HB27.out⟩
      · have HQ3 : Hid (lg = zt.pool) := hq3
        have hl0 : 0 < q9 := by rw [← HQ9.out]; exact List.length_pos_iff.2 hq1
        obtain rfl : y9 = 0 := by rw [← HY9.out, hq2]; rfl
        have hl1 : ((q9 : Int) == 0) = false := by rw [beq_eq_false_iff_ne]; omega
        have hl2 : (0 : Int) < (q9 : Int) := by omega
        clear hq1 hq2 hq3
        obtain ⟨⟨uY0, uY1, uY2, uY3, uY4⟩, _⟩ := CY18.out
        go_wp2_with fail
        refine (implGoodQ MY18.out HSY.out HY9.out HGY.out).mono ?_
        rintro e w19 ⟨rfl, hb⟩
        have HB19 : Hid (Below w.heap.size w w19) := HB18.out.trans (hb.mono HB18.out.size)
        have CM19 : Hid (C5 w19 w1.heap.size (.slice pm zm.pool.length km) zm.least zm.wait zm.old (.slice sm zm.seen.length dm)) := CM18.out.later hb
        have MM19 : Hid (MB w19 pm km sm dm zm) := MM18.out.later hb
        have CX19 : Hid (C5 w19 w3.heap.size (.slice px zx.pool.length kx) zx.least zx.wait zx.old (.slice sx zx.seen.length dx)) := CX18.out.later hb
        have MX19 : Hid (MB w19 px kx sx dx zx) := MX18.out.later hb
        have CW19 : Hid (C5 w19 w5.heap.size (.slice pw zx.pool.length kw) zx.least zx.wait zx.old (.slice sw zx.seen.length dw)) := CW18.out.later hb
        have MW19 : Hid (MB w19 pw kw sw dw zx) := MW18.out.later hb
        have CT19 : Hid (C5 w19 w11.heap.size (.slice pt zt.pool.length kt) zt.least zt.wait zt.old (.slice st zt.seen.length dt)) := CT18.out.later hb
        have MT19 : Hid (MB w19 pt kt st dt zt) := MT18.out.later hb
        have CY19 : Hid (C5 w19 w13.heap.size (.slice py 0 ky) zy.least zy.wait zy.old (.slice sy zy.seen.length dy)) := CY18.out.later hb
        have MY19 : Hid (MB w19 py ky sy dy zy) := MY18.out.later hb
        have CK19 : Hid (C5 w19 w15.heap.size (.slice pk 0 kk) zy.least zy.wait zy.old (.slice sk zy.seen.length dk)) := CK18.out.later hb
        have MK19 : Hid (MB w19 pk kk sk dk zy) := MK18.out.later hb
        have TL19 : Hid (RdS w19 ay lg) := TL18.out.later hb
        have TG19 : Hid (RdS w19 ak lg) := TG18.out.later hb
        clear hb HB18 CM18 MM18 CX18 MX18 CW18 MW18 CT18 MT18 CY18 MY18 CK18 MK18 TL18 TG18 uY0 uY1 uY2 uY3 uY4
        obtain ⟨⟨uY0, uY1, uY2, uY3, uY4⟩, _⟩ := CY19.out
        obtain ⟨⟨uT0, uT1, uT2, uT3, uT4⟩, _⟩ := CT19.out
        go_wp2_with fail
        refine (sameTextsQ TL19.out MT19.out.rd HQ3.out HQ9.out rfl hlg).mono ?_
        rintro e w20 ⟨rfl, hb⟩
        have HB20 : Hid (Below w.heap.size w w20) := HB19.out.trans (hb.mono HB19.out.size)
        have CM20 : Hid (C5 w20 w1.heap.size (.slice pm zm.pool.length km) zm.least zm.wait zm.old (.slice sm zm.seen.length dm)) := CM19.out.later hb
        have MM20 : Hid (MB w20 pm km sm dm zm) := MM19.out.later hb
        have CX20 : Hid (C5 w20 w3.heap.size (.slice px zx.pool.length kx) zx.least zx.wait zx.old (.slice sx zx.seen.length dx)) := CX19.out.later hb
        have MX20 : Hid (MB w20 px kx sx dx zx) := MX19.out.later hb
        have CW20 : Hid (C5 w20 w5.heap.size (.slice pw zx.pool.length kw) zx.least zx.wait zx.old (.slice sw zx.seen.length dw)) := CW19.out.later hb
        have MW20 : Hid (MB w20 pw kw sw dw zx) := MW19.out.later hb
        have CT20 : Hid (C5 w20 w11.heap.size (.slice pt zt.pool.length kt) zt.least zt.wait zt.old (.slice st zt.seen.length dt)) := CT19.out.later hb
        have MT20 : Hid (MB w20 pt kt st dt zt) := MT19.out.later hb
        have CY20 : Hid (C5 w20 w13.heap.size (.slice py 0 ky) zy.least zy.wait zy.old (.slice sy zy.seen.length dy)) := CY19.out.later hb
        have MY20 : Hid (MB w20 py ky sy dy zy) := MY19.out.later hb
        have CK20 : Hid (C5 w20 w15.heap.size (.slice pk 0 kk) zy.least zy.wait zy.old (.slice sk zy.seen.length dk)) := CK19.out.later hb
        have MK20 : Hid (MB w20 pk kk sk dk zy) := MK19.out.later hb
        have TL20 : Hid (RdS w20 ay lg) := TL19.out.later hb
        have TG20 : Hid (RdS w20 ak lg) := TG19.out.later hb
        clear hb HB19 CM19 MM19 CX19 MX19 CW19 MW19 CT19 MT19 CY19 MY19 CK19 MK19 TL19 TG19 uY0 uY1 uY2 uY3 uY4 uT0 uT1 uT2 uT3 uT4
        go_wp2_with fail
        refine (drawNew_c bo m d _ hm (codeOk9 HM.out HB20.out)).mono ?_
        rintro e w21 ⟨na, nb, rfl, hb⟩
        have HB21 : Hid (Below w.heap.size w w21) := HB20.out.trans (hb.mono HB20.out.size)
        have CM21 : Hid (C5 w21 w1.heap.size (.slice pm zm.pool.length km) zm.least zm.wait zm.old (.slice sm zm.seen.length dm)) := CM20.out.later hb
        have MM21 : Hid (MB w21 pm km sm dm zm) := MM20.out.later hb
        have CX21 : Hid (C5 w21 w3.heap.size (.slice px zx.pool.length kx) zx.least zx.wait zx.old (.slice sx zx.seen.length dx)) := CX20.out.later hb
        have MX21 : Hid (MB w21 px kx sx dx zx) := MX20.out.later hb
        have CW21 : Hid (C5 w21 w5.heap.size (.slice pw zx.pool.length kw) zx.least zx.wait zx.old (.slice sw zx.seen.length dw)) := CW20.out.later hb
        have MW21 : Hid (MB w21 pw kw sw dw zx) := MW20.out.later hb
        have CT21 : Hid (C5 w21 w11.heap.size (.slice pt zt.pool.length kt) zt.least zt.wait zt.old (.slice st zt.seen.length dt)) := CT20.out.later hb
        have MT21 : Hid (MB w21 pt kt st dt zt) := MT20.out.later hb
        have CY21 : Hid (C5 w21 w13.heap.size (.slice py 0 ky) zy.least zy.wait zy.old (.slice sy zy.seen.length dy)) := CY20.out.later hb
        have MY21 : Hid (MB w21 py ky sy dy zy) := MY20.out.later hb
        have CK21 : Hid (C5 w21 w15.heap.size (.slice pk 0 kk) zy.least zy.wait zy.old (.slice sk zy.seen.length dk)) := CK20.out.later hb
        have MK21 : Hid (MB w21 pk kk sk dk zy) := MK20.out.later hb
        have TL21 : Hid (RdS w21 ay lg) := TL20.out.later hb
        have TG21 : Hid (RdS w21 ak lg) := TG20.out.later hb
        clear hb HB20 CM20 MM20 CX20 MX20 CW20 MW20 CT20 MT20 CY20 MY20 CK20 MK20 TL20 TG20
        obtain ⟨la, hla⟩ : ∃ la, (newM na nb).least = la := ⟨_, rfl⟩
        obtain ⟨lw, hlw⟩ : ∃ lw, (newM na nb).wait = lw := ⟨_, rfl⟩
        obtain ⟨nf, hnf⟩ : ∃ nf, newB na nb = nf := ⟨_, rfl⟩
        have hnn : (nf == nf) = true := by simp
        have HNI : Hid (∀ wx, Calls Try.prog 34 #[.int .i64 na, .int .i64 nb] wx fun e w' => e = .returned (.tuple #[.agg #[.slice none 0 0, .int .i64 la, .int .i64 lw, .int .i64 0, .slice none 0 0], .bool nf]) ∧ Below wx.heap.size wx w') := fun wx => by rw [← hla, ← hlw, ← hnf]; exact implNew_c na nb wx
        have HNS : Hid (∀ wx, Calls Try.prog 35 #[.int .i64 na, .int .i64 nb] wx fun e w' => e = .returned (.tuple #[.agg #[.slice none 0 0, .int .i64 la, .int .i64 lw, .int .i64 0, .slice none 0 0], .bool nf]) ∧ Below wx.heap.size wx w') := fun wx => by rw [← hla, ← hlw, ← hnf]; exact specNew_c na nb wx
        clear hla hlw hnf
        go_wp2_with fail
        refine (HNI.out _).mono ?_
        rintro e w22 ⟨rfl, hb⟩
        have HB22 : Hid (Below w.heap.size w w22) := HB21.out.trans (hb.mono HB21.out.size)
        clear hb HB21
        obtain ⟨_, _, _, hS3, hS4⟩ := box_same w22 (Value.slice none 0 0) la lw 0 (Value.slice none 0 0) 41
        obtain ⟨w23, hV23⟩ : ∃ V, w22.alloc (.cells #[.slice none 0 0, .int .i64 la, .int .i64 lw, .int .i64 0, .slice none 0 0] 41) = V := ⟨_, rfl⟩
        have hb : Below w22.heap.size w22 w23 := by rw [← hV23]; exact balloc w22 _
        have HB23 : Hid (Below w.heap.size w w23) := HB22.out.trans (hb.mono HB22.out.size)
        have Na23 : Hid (C5 w23 w22.heap.size (.slice none 0 0) la lw 0 (.slice none 0 0)) := by show C5 _ _ _ _ _ _ _; rw [← hV23]; exact c5_new _ _ _ _ _ _ _ _ rfl
        clear hb HB22
        rw [hV23] at hS3 hS4
        obtain ⟨⟨_, _, _, n3, n4⟩, nf⟩ := Na23.out
        have nf3 := nf 3
        have nf4 := nf 4
        clear nf
        go_wp2_with fail
        clear hV23 hS3 hS4 n3 n4 nf3 nf4
        refine (HNS.out _).mono ?_
        rintro e w24 ⟨rfl, hb⟩
        have HB24 : Hid (Below w.heap.size w w24) := HB23.out.trans (hb.mono HB23.out.size)
        have Na24 : Hid (C5 w24 w22.heap.size (.slice none 0 0) la lw 0 (.slice none 0 0)) := Na23.out.later hb
        clear hb HB23 Na23
        obtain ⟨_, _, _, hS3, hS4⟩ := box_same w24 (Value.slice none 0 0) la lw 0 (Value.slice none 0 0) 41
        obtain ⟨w25, hV25⟩ : ∃ V, w24.alloc (.cells #[.slice none 0 0, .int .i64 la, .int .i64 lw, .int .i64 0, .slice none 0 0] 41) = V := ⟨_, rfl⟩
        have hb : Below w24.heap.size w24 w25 := by rw [← hV25]; exact balloc w24 _
        have HB25 : Hid (Below w.heap.size w w25) := HB24.out.trans (hb.mono HB24.out.size)
        have Na25 : Hid (C5 w25 w22.heap.size (.slice none 0 0) la lw 0 (.slice none 0 0)) := Na24.out.later hb
        have Nb25 : Hid (C5 w25 w24.heap.size (.slice none 0 0) la lw 0 (.slice none 0 0)) := by show C5 _ _ _ _ _ _ _; rw [← hV25]; exact c5_new _ _ _ _ _ _ _ _ rfl
        clear hb HB24 Na24
        rw [hV25] at hS3 hS4
        obtain ⟨⟨_, _, _, n3, n4⟩, nf⟩ := Nb25.out
        have nf3 := nf 3
        have nf4 := nf 4
        clear nf
        go_wp2_with fail
        clear hV25 hS3 hS4 n3 n4 nf3 nf4
        refine (drawTag_c bo m d _ hm (codeOk9 HM.out HB25.out)).mono ?_
        rintro e w26 ⟨tg, rfl, htg, hb⟩
        have HB26 : Hid (Below w.heap.size w w26) := HB25.out.trans (hb.mono HB25.out.size)
        have Na26 : Hid (C5 w26 w22.heap.size (.slice none 0 0) la lw 0 (.slice none 0 0)) := Na25.out.later hb
        have Nb26 : Hid (C5 w26 w24.heap.size (.slice none 0 0) la lw 0 (.slice none 0 0)) := Nb25.out.later hb
        clear hb HB25 Na25 Nb25
        obtain ⟨tn, tf, hTG⟩ : ∃ tn tf, tagF tg = (tn, tf) := ⟨_, _, rfl⟩
        have htt : (tf == tf) = true := by simp
        have htn : (tn == tn) = true := by simp
        have q1 := fun wx => implTag_c tg wx (by omega) tn tf hTG
        have q2 := fun wx => specTag_c tg wx (by omega) tn tf hTG
        clear hTG
        go_wp2_with fail
        refine (q1 _).mono ?_
        rintro e w' ⟨rfl, hw⟩
        subst w'
        go_wp2_with fail
        refine (q2 _).mono ?_
        rintro e w' ⟨rfl, hw⟩
        subst w'
        obtain ⟨⟨ua0, ua1, ua2, ua3, ua4⟩, _⟩ := Na26.out
        obtain ⟨⟨ub0, ub1, ub2, ub3, ub4⟩, _⟩ := Nb26.out
        clear q1 q2
        go_wp2_with fail
        refine (sameMix_c none none none none 0 0 0 0 0 0 la lw 0 [] [] _ rfl rfl (by omega) (by omega) (Or.inl rfl) (Or.inl rfl) (Or.inl rfl) (Or.inl rfl)).mono ?_
        rintro e w27 ⟨rfl, hb⟩
        have HB27 : Hid (Below w.heap.size w w27) := HB26.out.trans (hb.mono HB26.out.size)
        have Na27 : Hid (C5 w27 w22.heap.size (.slice none 0 0) la lw 0 (.slice none 0 0)) := Na26.out.later hb
        have Nb27 : Hid (C5 w27 w24.heap.size (.slice none 0 0) la lw 0 (.slice none 0 0)) := Nb26.out.later hb
        clear hb HB26 Na26 Nb26
        go_wp2
        go_ret
        exact ⟨rfl, HB27.out⟩
  · subst hf
    have HMZ : Hid (MxD zx) := hxx
    have HGX : Hid (goodB zx = true) := hgx
    have HPX : Hid (putS zx tx = (zx, 1, true)) := hpx
    clear hxx hgx hpx
    obtain ⟨⟨uX0, uX1, uX2, uX3, uX4⟩, _⟩ := CX10.out
    go_wp2_with fail
    refine (implPutU MX10.out HMZ.out hts HPX.out).mono ?_
    rintro e w11 ⟨pz, kz, sz, dz, rfl, hm9, hb⟩
    have HB11 : Hid (Below w.heap.size w w11) := HB10.out.trans (hb.mono HB10.out.size)
    have CM11 : Hid (C5 w11 w1.heap.size (.slice pm zm.pool.length km) zm.least zm.wait zm.old (.slice sm zm.seen.length dm)) := CM10.out.later hb
    have MM11 : Hid (MB w11 pm km sm dm zm) := MM10.out.later hb
    have CX11 : Hid (C5 w11 w3.heap.size (.slice px zx.pool.length kx) zx.least zx.wait zx.old (.slice sx zx.seen.length dx)) := CX10.out.later hb
    have MX11 : Hid (MB w11 px kx sx dx zx) := MX10.out.later hb
    have CW11 : Hid (C5 w11 w5.heap.size (.slice pw zx.pool.length kw) zx.least zx.wait zx.old (.slice sw zx.seen.length dw)) := CW10.out.later hb
    have MW11 : Hid (MB w11 pw kw sw dw zx) := MW10.out.later hb
    clear hb HB10 CM10 MM10 CX10 MX10 CW10 MW10 uX0 uX1 uX2 uX3 uX4
    have MZ11 : Hid (MB w11 pz kz sz dz zx) := hm9
    clear hm9
    obtain ⟨w12, hV12⟩ : ∃ V, w11.alloc (.cells #[.slice pz zx.pool.length kz, .int .i64 zx.least, .int .i64 zx.wait, .int .i64 zx.old, .slice sz zx.seen.length dz] 41) = V := ⟨_, rfl⟩
    have hb : Below w11.heap.size w11 w12 := by rw [← hV12]; exact balloc w11 _
    have HB12 : Hid (Below w.heap.size w w12) := HB11.out.trans (hb.mono HB11.out.size)
    have CM12 : Hid (C5 w12 w1.heap.size (.slice pm zm.pool.length km) zm.least zm.wait zm.old (.slice sm zm.seen.length dm)) := CM11.out.later hb
    have MM12 : Hid (MB w12 pm km sm dm zm) := MM11.out.later hb
    have CX12 : Hid (C5 w12 w3.heap.size (.slice px zx.pool.length kx) zx.least zx.wait zx.old (.slice sx zx.seen.length dx)) := CX11.out.later hb
    have MX12 : Hid (MB w12 px kx sx dx zx) := MX11.out.later hb
    have CW12 : Hid (C5 w12 w5.heap.size (.slice pw zx.pool.length kw) zx.least zx.wait zx.old (.slice sw zx.seen.length dw)) := CW11.out.later hb
    have MW12 : Hid (MB w12 pw kw sw dw zx) := MW11.out.later hb
    have MZ12 : Hid (MB w12 pz kz sz dz zx) := MZ11.out.later hb
    have CZ12 : Hid (C5 w12 w11.heap.size (.slice pz zx.pool.length kz) zx.least zx.wait zx.old (.slice sz zx.seen.length dz)) := by show C5 _ _ _ _ _ _ _; rw [← hV12]; exact c5_new _ _ _ _ _ _ _ _ rfl
    clear hb HB11 CM11 MM11 CX11 MX11 CW11 MW11 MZ11
    rcases hq with ⟨hq1, hq2⟩ | ⟨hq1, hq2⟩
    · subst hq1
      have HZE : Hid (zx = zm) := hq2
      clear hq2
      obtain ⟨⟨uX0, uX1, uX2, uX3, uX4⟩, _⟩ := CX12.out
      go_wp2_with fail
      clear hV12
      refine (goodTrue (implGoodU MX12.out HSX.out) HGX.out).mono ?_
      rintro e w13 ⟨rfl, hb⟩
      have HB13 : Hid (Below w.heap.size w w13) := HB12.out.trans (hb.mono HB12.out.size)
      have CM13 : Hid (C5 w13 w1.heap.size (.slice pm zm.pool.length km) zm.least zm.wait zm.old (.slice sm zm.seen.length dm)) := CM12.out.later hb
      have MM13 : Hid (MB w13 pm km sm dm zm) := MM12.out.later hb
      have CX13 : Hid (C5 w13 w3.heap.size (.slice px zx.pool.length kx) zx.least zx.wait zx.old (.slice sx zx.seen.length dx)) := CX12.out.later hb
      have MX13 : Hid (MB w13 px kx sx dx zx) := MX12.out.later hb
      have CW13 : Hid (C5 w13 w5.heap.size (.slice pw zx.pool.length kw) zx.least zx.wait zx.old (.slice sw zx.seen.length dw)) := CW12.out.later hb
      have MW13 : Hid (MB w13 pw kw sw dw zx) := MW12.out.later hb
      have CZ13 : Hid (C5 w13 w11.heap.size (.slice pz zx.pool.length kz) zx.least zx.wait zx.old (.slice sz zx.seen.length dz)) := CZ12.out.later hb
      have MZ13 : Hid (MB w13 pz kz sz dz zx) := MZ12.out.later hb
      clear hb HB12 CM12 MM12 CX12 MX12 CW12 MW12 CZ12 MZ12 uX0 uX1 uX2 uX3 uX4
      obtain ⟨⟨uX0, uX1, uX2, uX3, uX4⟩, _⟩ := CX13.out
      obtain ⟨⟨uM0, uM1, uM2, uM3, uM4⟩, _⟩ := CM13.out
      go_wp2_with fail
      refine (sameMixE MX13.out MM13.out HSX.out HZE.out).mono ?_
      rintro e w14 ⟨rfl, hb⟩
      have HB14 : Hid (Below w.heap.size w w14) := HB13.out.trans (hb.mono HB13.out.size)
      have CM14 : Hid (C5 w14 w1.heap.size (.slice pm zm.pool.length km) zm.least zm.wait zm.old (.slice sm zm.seen.length dm)) := CM13.out.later hb
      have MM14 : Hid (MB w14 pm km sm dm zm) := MM13.out.later hb
      have CX14 : Hid (C5 w14 w3.heap.size (.slice px zx.pool.length kx) zx.least zx.wait zx.old (.slice sx zx.seen.length dx)) := CX13.out.later hb
      have MX14 : Hid (MB w14 px kx sx dx zx) := MX13.out.later hb
      have CW14 : Hid (C5 w14 w5.heap.size (.slice pw zx.pool.length kw) zx.least zx.wait zx.old (.slice sw zx.seen.length dw)) := CW13.out.later hb
      have MW14 : Hid (MB w14 pw kw sw dw zx) := MW13.out.later hb
      have CZ14 : Hid (C5 w14 w11.heap.size (.slice pz zx.pool.length kz) zx.least zx.wait zx.old (.slice sz zx.seen.length dz)) := CZ13.out.later hb
      have MZ14 : Hid (MB w14 pz kz sz dz zx) := MZ13.out.later hb
      clear hb HB13 CM13 MM13 CX13 MX13 CW13 MW13 CZ13 MZ13 uX0 uX1 uX2 uX3 uX4 uM0 uM1 uM2 uM3 uM4
      obtain ⟨⟨uZ0, uZ1, uZ2, uZ3, uZ4⟩, _⟩ := CZ14.out
      obtain ⟨⟨uX0, uX1, uX2, uX3, uX4⟩, _⟩ := CX14.out
      go_wp2_with fail
      refine (sameMixU MZ14.out MX14.out HSX.out).mono ?_
      rintro e w15 ⟨rfl, hb⟩
      have HB15 : Hid (Below w.heap.size w w15) := HB14.out.trans (hb.mono HB14.out.size)
      have CM15 : Hid (C5 w15 w1.heap.size (.slice pm zm.pool.length km) zm.least zm.wait zm.old (.slice sm zm.seen.length dm)) := CM14.out.later hb
      have MM15 : Hid (MB w15 pm km sm dm zm) := MM14.out.later hb
      have CX15 : Hid (C5 w15 w3.heap.size (.slice px zx.pool.length kx) zx.least zx.wait zx.old (.slice sx zx.seen.length dx)) := CX14.out.later hb
      have MX15 : Hid (MB w15 px kx sx dx zx) := MX14.out.later hb
      have CW15 : Hid (C5 w15 w5.heap.size (.slice pw zx.pool.length kw) zx.least zx.wait zx.old (.slice sw zx.seen.length dw)) := CW14.out.later hb
      have MW15 : Hid (MB w15 pw kw sw dw zx) := MW14.out.later hb
      have CZ15 : Hid (C5 w15 w11.heap.size (.slice pz zx.pool.length kz) zx.least zx.wait zx.old (.slice sz zx.seen.length dz)) := CZ14.out.later hb
      have MZ15 : Hid (MB w15 pz kz sz dz zx) := MZ14.out.later hb
      clear hb HB14 CM14 MM14 CX14 MX14 CW14 MW14 CZ14 MZ14 uZ0 uZ1 uZ2 uZ3 uZ4 uX0 uX1 uX2 uX3 uX4
      go_wp2_with fail
      refine (drawTick_c bo m d _ hm (codeOk9 HM.out HB15.out)).mono ?_
      rintro e w16 ⟨zt, pt, kt, st, dt, rfl, hmt, ⟨ho1, ho2⟩, hb⟩
      have HB16 : Hid (Below w.heap.size w w16) := HB15.out.trans (hb.mono HB15.out.size)
      have CM16 : Hid (C5 w16 w1.heap.size (.slice pm zm.pool.length km) zm.least zm.wait zm.old (.slice sm zm.seen.length dm)) := CM15.out.later hb
      have MM16 : Hid (MB w16 pm km sm dm zm) := MM15.out.later hb
      have CX16 : Hid (C5 w16 w3.heap.size (.slice px zx.pool.length kx) zx.least zx.wait zx.old (.slice sx zx.seen.length dx)) := CX15.out.later hb
      have MX16 : Hid (MB w16 px kx sx dx zx) := MX15.out.later hb
      have CW16 : Hid (C5 w16 w5.heap.size (.slice pw zx.pool.length kw) zx.least zx.wait zx.old (.slice sw zx.seen.length dw)) := CW15.out.later hb
      have MW16 : Hid (MB w16 pw kw sw dw zx) := MW15.out.later hb
      have CZ16 : Hid (C5 w16 w11.heap.size (.slice pz zx.pool.length kz) zx.least zx.wait zx.old (.slice sz zx.seen.length dz)) := CZ15.out.later hb
      have MZ16 : Hid (MB w16 pz kz sz dz zx) := MZ15.out.later hb
      clear hb HB15 CM15 MM15 CX15 MX15 CW15 MW15 CZ15 MZ15
      have MT16 : Hid (MB w16 pt kt st dt zt) := MB.of ho1 ho2
      clear ho1 ho2
      have HMT : Hid (MxD zt) := hmt
      obtain ⟨zy, lg, ft, hT⟩ : ∃ zy lg ft, tickF zt = (zy, lg, ft) := ⟨_, _, _, rfl⟩
      have HTF : Hid (tickF zt = (zy, lg, ft)) := hT
      have HTT : Hid (fb_tick zt zy lg ft) := tick_told hmt hT
      have hft : (ft != ft) = false := by simp
      have HSY : Hid (SmallV zy) := (tick_told hmt hT).1
      obtain ⟨q9, hq9⟩ : ∃ q, lg.length = q := ⟨_, rfl⟩
      obtain ⟨y9, hy9⟩ : ∃ q, zy.pool.length = q := ⟨_, rfl⟩
      have HQ9 : Hid (lg.length = q9) := hq9
      have HY9 : Hid (zy.pool.length = y9) := hy9
      have hlg : q9 ≤ 1000 := by rw [← hq9]; exact (tick_told hmt hT).2.1
      have hly : y9 ≤ 1000 := by rw [← hy9]; exact HSY.out.pl
      clear hmt hT hq9 hy9
      obtain ⟨w17, hV17⟩ : ∃ V, w16.alloc (.cells #[.slice pt zt.pool.length kt, .int .i64 zt.least, .int .i64 zt.wait, .int .i64 zt.old, .slice st zt.seen.length dt] 41) = V := ⟨_, rfl⟩
      have hb : Below w16.heap.size w16 w17 := by rw [← hV17]; exact balloc w16 _
      have HB17 : Hid (Below w.heap.size w w17) := HB16.out.trans (hb.mono HB16.out.size)
      have CM17 : Hid (C5 w17 w1.heap.size (.slice pm zm.pool.length km) zm.least zm.wait zm.old (.slice sm zm.seen.length dm)) := CM16.out.later hb
      have MM17 : Hid (MB w17 pm km sm dm zm) := MM16.out.later hb
      have CX17 : Hid (C5 w17 w3.heap.size (.slice px zx.pool.length kx) zx.least zx.wait zx.old (.slice sx zx.seen.length dx)) := CX16.out.later hb
      have MX17 : Hid (MB w17 px kx sx dx zx) := MX16.out.later hb
      have CW17 : Hid (C5 w17 w5.heap.size (.slice pw zx.pool.length kw) zx.least zx.wait zx.old (.slice sw zx.seen.length dw)) := CW16.out.later hb
      have MW17 : Hid (MB w17 pw kw sw dw zx) := MW16.out.later hb
      have CZ17 : Hid (C5 w17 w11.heap.size (.slice pz zx.pool.length kz) zx.least zx.wait zx.old (.slice sz zx.seen.length dz)) := CZ16.out.later hb
      have MZ17 : Hid (MB w17 pz kz sz dz zx) := MZ16.out.later hb
      have MT17 : Hid (MB w17 pt kt st dt zt) := MT16.out.later hb
      have CT17 : Hid (C5 w17 w16.heap.size (.slice pt zt.pool.length kt) zt.least zt.wait zt.old (.slice st zt.seen.length dt)) := by show C5 _ _ _ _ _ _ _; rw [← hV17]; exact c5_new _ _ _ _ _ _ _ _ rfl
      clear hb HB16 CM16 MM16 CX16 MX16 CW16 MW16 CZ16 MZ16 MT16
      obtain ⟨⟨uT0, uT1, uT2, uT3, uT4⟩, _⟩ := CT17.out
      go_wp2_with fail
      clear hV17
      refine (implTickQ MT17.out HMT.out.smallV HTF.out HQ9.out HY9.out).mono ?_
      rintro e w18 ⟨py, ky, sy, dy, ay, jy, rfl, hm9, ht, hb⟩
      have HB18 : Hid (Below w.heap.size w w18) := HB17.out.trans (hb.mono HB17.out.size)
      have CM18 : Hid (C5 w18 w1.heap.size (.slice pm zm.pool.length km) zm.least zm.wait zm.old (.slice sm zm.seen.length dm)) := CM17.out.later hb
      have MM18 : Hid (MB w18 pm km sm dm zm) := MM17.out.later hb
      have CX18 : Hid (C5 w18 w3.heap.size (.slice px zx.pool.length kx) zx.least zx.wait zx.old (.slice sx zx.seen.length dx)) := CX17.out.later hb
      have MX18 : Hid (MB w18 px kx sx dx zx) := MX17.out.later hb
      have CW18 : Hid (C5 w18 w5.heap.size (.slice pw zx.pool.length kw) zx.least zx.wait zx.old (.slice sw zx.seen.length dw)) := CW17.out.later hb
      have MW18 : Hid (MB w18 pw kw sw dw zx) := MW17.out.later hb
      have CZ18 : Hid (C5 w18 w11.heap.size (.slice pz zx.pool.length kz) zx.least zx.wait zx.old (.slice sz zx.seen.length dz)) := CZ17.out.later hb
      have MZ18 : Hid (MB w18 pz kz sz dz zx) := MZ17.out.later hb
      have CT18 : Hid (C5 w18 w16.heap.size (.slice pt zt.pool.length kt) zt.least zt.wait zt.old (.slice st zt.seen.length dt)) := CT17.out.later hb
      have MT18 : Hid (MB w18 pt kt st dt zt) := MT17.out.later hb
      have TL18 : Hid (RdS w18 ay lg) := ht
      clear hb HB17 CM17 MM17 CX17 MX17 CW17 MW17 CZ17 MZ17 CT17 MT17 ht uT0 uT1 uT2 uT3 uT4
      have MY18 : Hid (MB w18 py ky sy dy zy) := hm9
      clear hm9
      obtain ⟨w19, hV19⟩ : ∃ V, w18.alloc (.cells #[.slice py y9 ky, .int .i64 zy.least, .int .i64 zy.wait, .int .i64 zy.old, .slice sy zy.seen.length dy] 41) = V := ⟨_, rfl⟩
      have hb : Below w18.heap.size w18 w19 := by rw [← hV19]; exact balloc w18 _
      have HB19 : Hid (Below w.heap.size w w19) := HB18.out.trans (hb.mono HB18.out.size)
      have CM19 : Hid (C5 w19 w1.heap.size (.slice pm zm.pool.length km) zm.least zm.wait zm.old (.slice sm zm.seen.length dm)) := CM18.out.later hb
      have MM19 : Hid (MB w19 pm km sm dm zm) := MM18.out.later hb
      have CX19 : Hid (C5 w19 w3.heap.size (.slice px zx.pool.length kx) zx.least zx.wait zx.old (.slice sx zx.seen.length dx)) := CX18.out.later hb
      have MX19 : Hid (MB w19 px kx sx dx zx) := MX18.out.later hb
      have CW19 : Hid (C5 w19 w5.heap.size (.slice pw zx.pool.length kw) zx.least zx.wait zx.old (.slice sw zx.seen.length dw)) := CW18.out.later hb
      have MW19 : Hid (MB w19 pw kw sw dw zx) := MW18.out.later hb
      have CZ19 : Hid (C5 w19 w11.heap.size (.slice pz zx.pool.length kz) zx.least zx.wait zx.old (.slice sz zx.seen.length dz)) := CZ18.out.later hb
      have MZ19 : Hid (MB w19 pz kz sz dz zx) := MZ18.out.later hb
      have CT19 : Hid (C5 w19 w16.heap.size (.slice pt zt.pool.length kt) zt.least zt.wait zt.old (.slice st zt.seen.length dt)) := CT18.out.later hb
      have MT19 : Hid (MB w19 pt kt st dt zt) := MT18.out.later hb
      have MY19 : Hid (MB w19 py ky sy dy zy) := MY18.out.later hb
      have TL19 : Hid (RdS w19 ay lg) := TL18.out.later hb
      have CY19 : Hid (C5 w19 w18.heap.size (.slice py y9 ky) zy.least zy.wait zy.old (.slice sy zy.seen.length dy)) := by show C5 _ _ _ _ _ _ _; rw [← hV19]; exact c5_new _ _ _ _ _ _ _ _ rfl
      clear hb HB18 CM18 MM18 CX18 MX18 CW18 MW18 CZ18 MZ18 CT18 MT18 MY18 TL18
      obtain ⟨⟨uT0, uT1, uT2, uT3, uT4⟩, _⟩ := CT19.out
      go_wp2_with fail
      clear hV19
      refine (specTickQ MT19.out HMT.out.smallV HTF.out HQ9.out HY9.out).mono ?_
      rintro e w20 ⟨pk, kk, sk, dk, ak, jk, rfl, hm9, ht, hb⟩
      have HB20 : Hid (Below w.heap.size w w20) := HB19.out.trans (hb.mono HB19.out.size)
      have CM20 : Hid (C5 w20 w1.heap.size (.slice pm zm.pool.length km) zm.least zm.wait zm.old (.slice sm zm.seen.length dm)) := CM19.out.later hb
      have MM20 : Hid (MB w20 pm km sm dm zm) := MM19.out.later hb
      have CX20 : Hid (C5 w20 w3.heap.size (.slice px zx.pool.length kx) zx.least zx.wait zx.old (.slice sx zx.seen.length dx)) := CX19.out.later hb
      have MX20 : Hid (MB w20 px kx sx dx zx) := MX19.out.later hb
      have CW20 : Hid (C5 w20 w5.heap.size (.slice pw zx.pool.length kw) zx.least zx.wait zx.old (.slice sw zx.seen.length dw)) := CW19.out.later hb
      have MW20 : Hid (MB w20 pw kw sw dw zx) := MW19.out.later hb
      have CZ20 : Hid (C5 w20 w11.heap.size (.slice pz zx.pool.length kz) zx.least zx.wait zx.old (.slice sz zx.seen.length dz)) := CZ19.out.later hb
      have MZ20 : Hid (MB w20 pz kz sz dz zx) := MZ19.out.later hb
      have CT20 : Hid (C5 w20 w16.heap.size (.slice pt zt.pool.length kt) zt.least zt.wait zt.old (.slice st zt.seen.length dt)) := CT19.out.later hb
      have MT20 : Hid (MB w20 pt kt st dt zt) := MT19.out.later hb
      have CY20 : Hid (C5 w20 w18.heap.size (.slice py y9 ky) zy.least zy.wait zy.old (.slice sy zy.seen.length dy)) := CY19.out.later hb
      have MY20 : Hid (MB w20 py ky sy dy zy) := MY19.out.later hb
      have TL20 : Hid (RdS w20 ay lg) := TL19.out.later hb
      have TG20 : Hid (RdS w20 ak lg) := ht
      clear hb HB19 CM19 MM19 CX19 MX19 CW19 MW19 CZ19 MZ19 CT19 MT19 CY19 MY19 TL19 ht uT0 uT1 uT2 uT3 uT4
      have MK20 : Hid (MB w20 pk kk sk dk zy) := hm9
      clear hm9
      obtain ⟨w21, hV21⟩ : ∃ V, w20.alloc (.cells #[.slice pk y9 kk, .int .i64 zy.least, .int .i64 zy.wait, .int .i64 zy.old, .slice sk zy.seen.length dk] 41) = V := ⟨_, rfl⟩
      have hb : Below w20.heap.size w20 w21 := by rw [← hV21]; exact balloc w20 _
      have HB21 : Hid (Below w.heap.size w w21) := HB20.out.trans (hb.mono HB20.out.size)
      have CM21 : Hid (C5 w21 w1.heap.size (.slice pm zm.pool.length km) zm.least zm.wait zm.old (.slice sm zm.seen.length dm)) := CM20.out.later hb
      have MM21 : Hid (MB w21 pm km sm dm zm) := MM20.out.later hb
      have CX21 : Hid (C5 w21 w3.heap.size (.slice px zx.pool.length kx) zx.least zx.wait zx.old (.slice sx zx.seen.length dx)) := CX20.out.later hb
      have MX21 : Hid (MB w21 px kx sx dx zx) := MX20.out.later hb
      have CW21 : Hid (C5 w21 w5.heap.size (.slice pw zx.pool.length kw) zx.least zx.wait zx.old (.slice sw zx.seen.length dw)) := CW20.out.later hb
      have MW21 : Hid (MB w21 pw kw sw dw zx) := MW20.out.later hb
      have CZ21 : Hid (C5 w21 w11.heap.size (.slice pz zx.pool.length kz) zx.least zx.wait zx.old (.slice sz zx.seen.length dz)) := CZ20.out.later hb
      have MZ21 : Hid (MB w21 pz kz sz dz zx) := MZ20.out.later hb
      have CT21 : Hid (C5 w21 w16.heap.size (.slice pt zt.pool.length kt) zt.least zt.wait zt.old (.slice st zt.seen.length dt)) := CT20.out.later hb
      have MT21 : Hid (MB w21 pt kt st dt zt) := MT20.out.later hb
      have CY21 : Hid (C5 w21 w18.heap.size (.slice py y9 ky) zy.least zy.wait zy.old (.slice sy zy.seen.length dy)) := CY20.out.later hb
      have MY21 : Hid (MB w21 py ky sy dy zy) := MY20.out.later hb
      have MK21 : Hid (MB w21 pk kk sk dk zy) := MK20.out.later hb
      have TL21 : Hid (RdS w21 ay lg) := TL20.out.later hb
      have TG21 : Hid (RdS w21 ak lg) := TG20.out.later hb
      have CK21 : Hid (C5 w21 w20.heap.size (.slice pk y9 kk) zy.least zy.wait zy.old (.slice sk zy.seen.length dk)) := by show C5 _ _ _ _ _ _ _; rw [← hV21]; exact c5_new _ _ _ _ _ _ _ _ rfl
      clear hb HB20 CM20 MM20 CX20 MX20 CW20 MW20 CZ20 MZ20 CT20 MT20 CY20 MY20 MK20 TL20 TG20
      obtain ⟨⟨uY0, uY1, uY2, uY3, uY4⟩, _⟩ := CY21.out
      obtain ⟨⟨uK0, uK1, uK2, uK3, uK4⟩, _⟩ := CK21.out
      go_wp2_with fail
      clear hV21
      refine (sameMixQ MY21.out MK21.out HSY.out HY9.out).mono ?_
      rintro e w22 ⟨rfl, hb⟩
      have HB22 : Hid (Below w.heap.size w w22) := HB21.out.trans (hb.mono HB21.out.size)
      have CM22 : Hid (C5 w22 w1.heap.size (.slice pm zm.pool.length km) zm.least zm.wait zm.old (.slice sm zm.seen.length dm)) := CM21.out.later hb
      have MM22 : Hid (MB w22 pm km sm dm zm) := MM21.out.later hb
      have CX22 : Hid (C5 w22 w3.heap.size (.slice px zx.pool.length kx) zx.least zx.wait zx.old (.slice sx zx.seen.length dx)) := CX21.out.later hb
      have MX22 : Hid (MB w22 px kx sx dx zx) := MX21.out.later hb
      have CW22 : Hid (C5 w22 w5.heap.size (.slice pw zx.pool.length kw) zx.least zx.wait zx.old (.slice sw zx.seen.length dw)) := CW21.out.later hb
      have MW22 : Hid (MB w22 pw kw sw dw zx) := MW21.out.later hb
      have CZ22 : Hid (C5 w22 w11.heap.size (.slice pz zx.pool.length kz) zx.least zx.wait zx.old (.slice sz zx.seen.length dz)) := CZ21.out.later hb
      have MZ22 : Hid (MB w22 pz kz sz dz zx) := MZ21.out.later hb
      have CT22 : Hid (C5 w22 w16.heap.size (.slice pt zt.pool.length kt) zt.least zt.wait zt.old (.slice st zt.seen.length dt)) := CT21.out.later hb
      have MT22 : Hid (MB w22 pt kt st dt zt) := MT21.out.later hb
      have CY22 : Hid (C5 w22 w18.heap.size (.slice py y9 ky) zy.least zy.wait zy.old (.slice sy zy.seen.length dy)) := CY21.out.later hb
      have MY22 : Hid (MB w22 py ky sy dy zy) := MY21.out.later hb
      have CK22 : Hid (C5 w22 w20.heap.size (.slice pk y9 kk) zy.least zy.wait zy.old (.slice sk zy.seen.length dk)) := CK21.out.later hb
      have MK22 : Hid (MB w22 pk kk sk dk zy) := MK21.out.later hb
      have TL22 : Hid (RdS w22 ay lg) := TL21.out.later hb
      have TG22 : Hid (RdS w22 ak lg) := TG21.out.later hb
      clear hb HB21 CM21 MM21 CX21 MX21 CW21 MW21 CZ21 MZ21 CT21 MT21 CY21 MY21 CK21 MK21 TL21 TG21 uY0 uY1 uY2 uY3 uY4 uK0 uK1 uK2 uK3 uK4
      go_wp2_with fail
      refine (sameTextsQ TL22.out TG22.out rfl HQ9.out HQ9.out hlg).mono ?_
      rintro e w23 ⟨rfl, hb⟩
      have HB23 : Hid (Below w.heap.size w w23) := HB22.out.trans (hb.mono HB22.out.size)
      have CM23 : Hid (C5 w23 w1.heap.size (.slice pm zm.pool.length km) zm.least zm.wait zm.old (.slice sm zm.seen.length dm)) := CM22.out.later hb
      have MM23 : Hid (MB w23 pm km sm dm zm) := MM22.out.later hb
      have CX23 : Hid (C5 w23 w3.heap.size (.slice px zx.pool.length kx) zx.least zx.wait zx.old (.slice sx zx.seen.length dx)) := CX22.out.later hb
      have MX23 : Hid (MB w23 px kx sx dx zx) := MX22.out.later hb
      have CW23 : Hid (C5 w23 w5.heap.size (.slice pw zx.pool.length kw) zx.least zx.wait zx.old (.slice sw zx.seen.length dw)) := CW22.out.later hb
      have MW23 : Hid (MB w23 pw kw sw dw zx) := MW22.out.later hb
      have CZ23 : Hid (C5 w23 w11.heap.size (.slice pz zx.pool.length kz) zx.least zx.wait zx.old (.slice sz zx.seen.length dz)) := CZ22.out.later hb
      have MZ23 : Hid (MB w23 pz kz sz dz zx) := MZ22.out.later hb
      have CT23 : Hid (C5 w23 w16.heap.size (.slice pt zt.pool.length kt) zt.least zt.wait zt.old (.slice st zt.seen.length dt)) := CT22.out.later hb
      have MT23 : Hid (MB w23 pt kt st dt zt) := MT22.out.later hb
      have CY23 : Hid (C5 w23 w18.heap.size (.slice py y9 ky) zy.least zy.wait zy.old (.slice sy zy.seen.length dy)) := CY22.out.later hb
      have MY23 : Hid (MB w23 py ky sy dy zy) := MY22.out.later hb
      have CK23 : Hid (C5 w23 w20.heap.size (.slice pk y9 kk) zy.least zy.wait zy.old (.slice sk zy.seen.length dk)) := CK22.out.later hb
      have MK23 : Hid (MB w23 pk kk sk dk zy) := MK22.out.later hb
      have TL23 : Hid (RdS w23 ay lg) := TL22.out.later hb
      have TG23 : Hid (RdS w23 ak lg) := TG22.out.later hb
      clear hb HB22 CM22 MM22 CX22 MX22 CW22 MW22 CZ22 MZ22 CT22 MT22 CY22 MY22 CK22 MK22 TL22 TG22
      rcases HTT.out.2.2 with hf | ⟨hf, hgy, hq⟩
      · subst hf
        go_wp2_with fail
        refine (drawNew_c bo m d _ hm (codeOk9 HM.out HB23.out)).mono ?_
        rintro e w24 ⟨na, nb, rfl, hb⟩
        have HB24 : Hid (Below w.heap.size w w24) := HB23.out.trans (hb.mono HB23.out.size)
        have CM24 : Hid (C5 w24 w1.heap.size (.slice pm zm.pool.length km) zm.least zm.wait zm.old (.slice sm zm.seen.length dm)) := CM23.out.later hb
        have MM24 : Hid (MB w24 pm km sm dm zm) := MM23.out.later hb
        have CX24 : Hid (C5 w24 w3.heap.size (.slice px zx.pool.length kx) zx.least zx.wait zx.old (.slice sx zx.seen.length dx)) := CX23.out.later hb
        have MX24 : Hid (MB w24 px kx sx dx zx) := MX23.out.later hb
        have CW24 : Hid (C5 w24 w5.heap.size (.slice pw zx.pool.length kw) zx.least zx.wait zx.old (.slice sw zx.seen.length dw)) := CW23.out.later hb
        have MW24 : Hid (MB w24 pw kw sw dw zx) := MW23.out.later hb
        have CZ24 : Hid (C5 w24 w11.heap.size (.slice pz zx.pool.length kz) zx.least zx.wait zx.old (.slice sz zx.seen.length dz)) := CZ23.out.later hb
        have MZ24 : Hid (MB w24 pz kz sz dz zx) := MZ23.out.later hb
        have CT24 : Hid (C5 w24 w16.heap.size (.slice pt zt.pool.length kt) zt.least zt.wait zt.old (.slice st zt.seen.length dt)) := CT23.out.later hb
        have MT24 : Hid (MB w24 pt kt st dt zt) := MT23.out.later hb
        have CY24 : Hid (C5 w24 w18.heap.size (.slice py y9 ky) zy.least zy.wait zy.old (.slice sy zy.seen.length dy)) := CY23.out.later hb
        have MY24 : Hid (MB w24 py ky sy dy zy) := MY23.out.later hb
        have CK24 : Hid (C5 w24 w20.heap.size (.slice pk y9 kk) zy.least zy.wait zy.old (.slice sk zy.seen.length dk)) := CK23.out.later hb
        have MK24 : Hid (MB w24 pk kk sk dk zy) := MK23.out.later hb
        have TL24 : Hid (RdS w24 ay lg) := TL23.out.later hb
        have TG24 : Hid (RdS w24 ak lg) := TG23.out.later hb
        clear hb HB23 CM23 MM23 CX23 MX23 CW23 MW23 CZ23 MZ23 CT23 MT23 CY23 MY23 CK23 MK23 TL23 TG23
        obtain ⟨la, hla⟩ : ∃ la, (newM na nb).least = la := ⟨_, rfl⟩
        obtain ⟨lw, hlw⟩ : ∃ lw, (newM na nb).wait = lw := ⟨_, rfl⟩
        obtain ⟨nf, hnf⟩ : ∃ nf, newB na nb = nf := ⟨_, rfl⟩
        have hnn : (nf == nf) = true := by simp
        have HNI : Hid (∀ wx, Calls Try.prog 34 #[.int .i64 na, .int .i64 nb] wx fun e w' => e = .returned (.tuple #[.agg #[.slice none 0 0, .int .i64 la, .int .i64 lw, .int .i64 0, .slice none 0 0], .bool nf]) ∧ Below wx.heap.size wx w') := fun wx => by rw [← hla, ← hlw, ← hnf]; exact implNew_c na nb wx
        have HNS : Hid (∀ wx, Calls Try.prog 35 #[.int .i64 na, .int .i64 nb] wx fun e w' => e = .returned (.tuple #[.agg #[.slice none 0 0, .int .i64 la, .int .i64 lw, .int .i64 0, .slice none 0 0], .bool nf]) ∧ Below wx.heap.size wx w') := fun wx => by rw [← hla, ← hlw, ← hnf]; exact specNew_c na nb wx
        clear hla hlw hnf
        go_wp2_with fail
        refine (HNI.out _).mono ?_
        rintro e w25 ⟨rfl, hb⟩
        have HB25 : Hid (Below w.heap.size w w25) := HB24.out.trans (hb.mono HB24.out.size)
        clear hb HB24
        obtain ⟨_, _, _, hS3, hS4⟩ := box_same w25 (Value.slice none 0 0) la lw 0 (Value.slice none 0 0) 41
        obtain ⟨w26, hV26⟩ : ∃ V, w25.alloc (.cells #[.slice none 0 0, .int .i64 la, .int .i64 lw, .int .i64 0, .slice none 0 0] 41) = V := ⟨_, rfl⟩
        have hb : Below w25.heap.size w25 w26 := by rw [← hV26]; exact balloc w25 _
        have HB26 : Hid (Below w.heap.size w w26) := HB25.out.trans (hb.mono HB25.out.size)
        have Na26 : Hid (C5 w26 w25.heap.size (.slice none 0 0) la lw 0 (.slice none 0 0)) := by show C5 _ _ _ _ _ _ _; rw [← hV26]; exact c5_new _ _ _ _ _ _ _ _ rfl
        clear hb HB25
        rw [hV26] at hS3 hS4
        obtain ⟨⟨_, _, _, n3, n4⟩, nf⟩ := Na26.out
        have nf3 := nf 3
        have nf4 := nf 4
        clear nf
        go_wp2_with fail
        clear hV26 hS3 hS4 n3 n4 nf3 nf4
        refine (HNS.out _).mono ?_
        rintro e w27 ⟨rfl, hb⟩
        have HB27 : Hid (Below w.heap.size w w27) := HB26.out.trans (hb.mono HB26.out.size)
        have Na27 : Hid (C5 w27 w25.heap.size (.slice none 0 0) la lw 0 (.slice none 0 0)) := Na26.out.later hb
        clear hb HB26 Na26
        obtain ⟨_, _, _, hS3, hS4⟩ := box_same w27 (Value.slice none 0 0) la lw 0 (Value.slice none 0 0) 41
        obtain ⟨w28, hV28⟩ : ∃ V, w27.alloc (.cells #[.slice none 0 0, .int .i64 la, .int .i64 lw, .int .i64 0, .slice none 0 0] 41) = V := ⟨_, rfl⟩
        have hb : Below w27.heap.size w27 w28 := by rw [← hV28]; exact balloc w27 _
        have HB28 : Hid (Below w.heap.size w w28) := HB27.out.trans (hb.mono HB27.out.size)
        have Na28 : Hid (C5 w28 w25.heap.size (.slice none 0 0) la lw 0 (.slice none 0 0)) := Na27.out.later hb
        have Nb28 : Hid (C5 w28 w27.heap.size (.slice none 0 0) la lw 0 (.slice none 0 0)) := by show C5 _ _ _ _ _ _ _; rw [← hV28]; exact c5_new _ _ _ _ _ _ _ _ rfl
        clear hb HB27 Na27
        rw [hV28] at hS3 hS4
        obtain ⟨⟨_, _, _, n3, n4⟩, nf⟩ := Nb28.out
        have nf3 := nf 3
        have nf4 := nf 4
        clear nf
        go_wp2_with fail
        clear hV28 hS3 hS4 n3 n4 nf3 nf4
        refine (drawTag_c bo m d _ hm (codeOk9 HM.out HB28.out)).mono ?_
        rintro e w29 ⟨tg, rfl, htg, hb⟩
        have HB29 : Hid (Below w.heap.size w w29) := HB28.out.trans (hb.mono HB28.out.size)
        have Na29 : Hid (C5 w29 w25.heap.size (.slice none 0 0) la lw 0 (.slice none 0 0)) := Na28.out.later hb
        have Nb29 : Hid (C5 w29 w27.heap.size (.slice none 0 0) la lw 0 (.slice none 0 0)) := Nb28.out.later hb
        clear hb HB28 Na28 Nb28
        obtain ⟨tn, tf, hTG⟩ : ∃ tn tf, tagF tg = (tn, tf) := ⟨_, _, rfl⟩
        have htt : (tf == tf) = true := by simp
        have htn : (tn == tn) = true := by simp
        have q1 := fun wx => implTag_c tg wx (by omega) tn tf hTG
        have q2 := fun wx => specTag_c tg wx (by omega) tn tf hTG
        clear hTG
        go_wp2_with fail
        refine (q1 _).mono ?_
        rintro e w' ⟨rfl, hw⟩
        subst w'
        go_wp2_with fail
        refine (q2 _).mono ?_
        rintro e w' ⟨rfl, hw⟩
        subst w'
        obtain ⟨⟨ua0, ua1, ua2, ua3, ua4⟩, _⟩ := Na29.out
        obtain ⟨⟨ub0, ub1, ub2, ub3, ub4⟩, _⟩ := Nb29.out
        clear q1 q2
        go_wp2_with fail
        refine (sameMix_c none none none none 0 0 0 0 0 0 la lw 0 [] [] _ rfl rfl (by omega) (by omega) (Or.inl rfl) (Or.inl rfl) (Or.inl rfl) (Or.inl rfl)).mono ?_
        rintro e w30 ⟨rfl, hb⟩
        have HB30 : Hid (Below w.heap.size w w30) := HB29.out.trans (hb.mono HB29.out.size)
        have Na30 : Hid (C5 w30 w25.heap.size (.slice none 0 0) la lw 0 (.slice none 0 0)) := Na29.out.later hb
        have Nb30 : Hid (C5 w30 w27.heap.size (.slice none 0 0) la lw 0 (.slice none 0 0)) := Nb29.out.later hb
        clear hb HB29 Na29 Nb29
        go_wp2
        go_ret
        exact ⟨rfl, HB30.out⟩
      · subst hf
        have HGY : Hid (goodB zy = true) := hgy
        clear hgy
        rcases hq with ⟨hq1, hq2⟩ | ⟨hq1, hq2, hq3⟩
        · have HQ2 : Hid (zy.pool = zt.pool) := hq2
          obtain rfl : q9 = 0 := by rw [← HQ9.out, hq1]; rfl
          clear hq1 hq2
          obtain ⟨⟨uY0, uY1, uY2, uY3, uY4⟩, _⟩ := CY23.out
          go_wp2_with fail
          refine (implGoodQ MY23.out HSY.out HY9.out HGY.out).mono ?_
          rintro e w24 ⟨rfl, hb⟩
          have HB24 : Hid (Below w.heap.size w w24) := HB23.out.trans (hb.mono HB23.out.size)
          have CM24 : Hid (C5 w24 w1.heap.size (.slice pm zm.pool.length km) zm.least zm.wait zm.old (.slice sm zm.seen.length dm)) := CM23.out.later hb
          have MM24 : Hid (MB w24 pm km sm dm zm) := MM23.out.later hb
          have CX24 : Hid (C5 w24 w3.heap.size (.slice px zx.pool.length kx) zx.least zx.wait zx.old (.slice sx zx.seen.length dx)) := CX23.out.later hb
          have MX24 : Hid (MB w24 px kx sx dx zx) := MX23.out.later hb
          have CW24 : Hid (C5 w24 w5.heap.size (.slice pw zx.pool.length kw) zx.least zx.wait zx.old (.slice sw zx.seen.length dw)) := CW23.out.later hb
          have MW24 : Hid (MB w24 pw kw sw dw zx) := MW23.out.later hb
          have CZ24 : Hid (C5 w24 w11.heap.size (.slice pz zx.pool.length kz) zx.least zx.wait zx.old (.slice sz zx.seen.length dz)) := CZ23.out.later hb
          have MZ24 : Hid (MB w24 pz kz sz dz zx) := MZ23.out.later hb
          have CT24 : Hid (C5 w24 w16.heap.size (.slice pt zt.pool.length kt) zt.least zt.wait zt.old (.slice st zt.seen.length dt)) := CT23.out.later hb
          have MT24 : Hid (MB w24 pt kt st dt zt) := MT23.out.later hb
          have CY24 : Hid (C5 w24 w18.heap.size (.slice py y9 ky) zy.least zy.wait zy.old (.slice sy zy.seen.length dy)) := CY23.out.later hb
          have MY24 : Hid (MB w24 py ky sy dy zy) := MY23.out.later hb
          have CK24 : Hid (C5 w24 w20.heap.size (.slice pk y9 kk) zy.least zy.wait zy.old (.slice sk zy.seen.length dk)) := CK23.out.later hb
          have MK24 : Hid (MB w24 pk kk sk dk zy) := MK23.out.later hb
          have TL24 : Hid (RdS w24 ay lg) := TL23.out.later hb
          have TG24 : Hid (RdS w24 ak lg) := TG23.out.later hb
          clear hb HB23 CM23 MM23 CX23 MX23 CW23 MW23 CZ23 MZ23 CT23 MT23 CY23 MY23 CK23 MK23 TL23 TG23 uY0 uY1 uY2 uY3 uY4
          obtain ⟨⟨uY0, uY1, uY2, uY3, uY4⟩, _⟩ := CY24.out
          obtain ⟨⟨uT0, uT1, uT2, uT3, uT4⟩, _⟩ := CT24.out
          go_wp2_with fail
          refine (sameTextsQ MY24.out.rd MT24.out.rd HQ2.out HY9.out rfl hly).mono ?_
          rintro e w25 ⟨rfl, hb⟩
          have HB25 : Hid (Below w.heap.size w w25) := HB24.out.trans (hb.mono HB24.out.size)
          have CM25 : Hid (C5 w25 w1.heap.size (.slice pm zm.pool.length km) zm.least zm.wait zm.old (.slice sm zm.seen.length dm)) := CM24.out.later hb
          have MM25 : Hid (MB w25 pm km sm dm zm) := MM24.out.later hb
          have CX25 : Hid (C5 w25 w3.heap.size (.slice px zx.pool.length kx) zx.least zx.wait zx.old (.slice sx zx.seen.length dx)) := CX24.out.later hb
          have MX25 : Hid (MB w25 px kx sx dx zx) := MX24.out.later hb
          have CW25 : Hid (C5 w25 w5.heap.size (.slice pw zx.pool.length kw) zx.least zx.wait zx.old (.slice sw zx.seen.length dw)) := CW24.out.later hb
          have MW25 : Hid (MB w25 pw kw sw dw zx) := MW24.out.later hb
          have CZ25 : Hid (C5 w25 w11.heap.size (.slice pz zx.pool.length kz) zx.least zx.wait zx.old (.slice sz zx.seen.length dz)) := CZ24.out.later hb
          have MZ25 : Hid (MB w25 pz kz sz dz zx) := MZ24.out.later hb
          have CT25 : Hid (C5 w25 w16.heap.size (.slice pt zt.pool.length kt) zt.least zt.wait zt.old (.slice st zt.seen.length dt)) := CT24.out.later hb
          have MT25 : Hid (MB w25 pt kt st dt zt) := MT24.out.later hb
          have CY25 : Hid (C5 w25 w18.heap.size (.slice py y9 ky) zy.least zy.wait zy.old (.slice sy zy.seen.length dy)) := CY24.out.later hb
          have MY25 : Hid (MB w25 py ky sy dy zy) := MY24.out.later hb
          have CK25 : Hid (C5 w25 w20.heap.size (.slice pk y9 kk) zy.least zy.wait zy.old (.slice sk zy.seen.length dk)) := CK24.out.later hb
          have MK25 : Hid (MB w25 pk kk sk dk zy) := MK24.out.later hb
          have TL25 : Hid (RdS w25 ay lg) := TL24.out.later hb
          have TG25 : Hid (RdS w25 ak lg) := TG24.out.later hb
          clear hb HB24 CM24 MM24 CX24 MX24 CW24 MW24 CZ24 MZ24 CT24 MT24 CY24 MY24 CK24 MK24 TL24 TG24 uY0 uY1 uY2 uY3 uY4 uT0 uT1 uT2 uT3 uT4
          go_wp2_with fail
          refine (drawNew_c bo m d _ hm (codeOk9 HM.out HB25.out)).mono ?_
          rintro e w26 ⟨na, nb, rfl, hb⟩
          have HB26 : Hid (Below w.heap.size w w26) := HB25.out.trans (hb.mono HB25.out.size)
          have CM26 : Hid (C5 w26 w1.heap.size (.slice pm zm.pool.length km) zm.least zm.wait zm.old (.slice sm zm.seen.length dm)) := CM25.out.later hb
          have MM26 : Hid (MB w26 pm km sm dm zm) := MM25.out.later hb
          have CX26 : Hid (C5 w26 w3.heap.size (.slice px zx.pool.length kx) zx.least zx.wait zx.old (.slice sx zx.seen.length dx)) := CX25.out.later hb
          have MX26 : Hid (MB w26 px kx sx dx zx) := MX25.out.later hb
          have CW26 : Hid (C5 w26 w5.heap.size (.slice pw zx.pool.length kw) zx.least zx.wait zx.old (.slice sw zx.seen.length dw)) := CW25.out.later hb
          have MW26 : Hid (MB w26 pw kw sw dw zx) := MW25.out.later hb
          have CZ26 : Hid (C5 w26 w11.heap.size (.slice pz zx.pool.length kz) zx.least zx.wait zx.old (.slice sz zx.seen.length dz)) := CZ25.out.later hb
          have MZ26 : Hid (MB w26 pz kz sz dz zx) := MZ25.out.later hb
          have CT26 : Hid (C5 w26 w16.heap.size (.slice pt zt.pool.length kt) zt.least zt.wait zt.old (.slice st zt.seen.length dt)) := CT25.out.later hb
          have MT26 : Hid (MB w26 pt kt st dt zt) := MT25.out.later hb
          have CY26 : Hid (C5 w26 w18.heap.size (.slice py y9 ky) zy.least zy.wait zy.old (.slice sy zy.seen.length dy)) := CY25.out.later hb
          have MY26 : Hid (MB w26 py ky sy dy zy) := MY25.out.later hb
          have CK26 : Hid (C5 w26 w20.heap.size (.slice pk y9 kk) zy.least zy.wait zy.old (.slice sk zy.seen.length dk)) := CK25.out.later hb
          have MK26 : Hid (MB w26 pk kk sk dk zy) := MK25.out.later hb
          have TL26 : Hid (RdS w26 ay lg) := TL25.out.later hb
          have TG26 : Hid (RdS w26 ak lg) := TG25.out.later hb
          clear hb HB25 CM25 MM25 CX25 MX25 CW25 MW25 CZ25 MZ25 CT25 MT25 CY25 MY25 CK25 MK25 TL25 TG25
          obtain ⟨la, hla⟩ : ∃ la, (newM na nb).least = la := ⟨_, rfl⟩
          obtain ⟨lw, hlw⟩ : ∃ lw, (newM na nb).wait = lw := ⟨_, rfl⟩
          obtain ⟨nf, hnf⟩ : ∃ nf, newB na nb = nf := ⟨_, rfl⟩
          have hnn : (nf == nf) = true := by simp
          have HNI : Hid (∀ wx, Calls Try.prog 34 #[.int .i64 na, .int .i64 nb] wx fun e w' => e = .returned (.tuple #[.agg #[.slice none 0 0, .int .i64 la, .int .i64 lw, .int .i64 0, .slice none 0 0], .bool nf]) ∧ Below wx.heap.size wx w') := fun wx => by rw [← hla, ← hlw, ← hnf]; exact implNew_c na nb wx
          have HNS : Hid (∀ wx, Calls Try.prog 35 #[.int .i64 na, .int .i64 nb] wx fun e w' => e = .returned (.tuple #[.agg #[.slice none 0 0, .int .i64 la, .int .i64 lw, .int .i64 0, .slice none 0 0], .bool nf]) ∧ Below wx.heap.size wx w') := fun wx => by rw [← hla, ← hlw, ← hnf]; exact specNew_c na nb wx
          clear hla hlw hnf
          go_wp2_with fail
          refine (HNI.out _).mono ?_
          rintro e w27 ⟨rfl, hb⟩
          have HB27 : Hid (Below w.heap.size w w27) := HB26.out.trans (hb.mono HB26.out.size)
          clear hb HB26
          obtain ⟨_, _, _, hS3, hS4⟩ := box_same w27 (Value.slice none 0 0) la lw 0 (Value.slice none 0 0) 41
          obtain ⟨w28, hV28⟩ : ∃ V, w27.alloc (.cells #[.slice none 0 0, .int .i64 la, .int .i64 lw, .int .i64 0, .slice none 0 0] 41) = V := ⟨_, rfl⟩
          have hb : Below w27.heap.size w27 w28 := by rw [← hV28]; exact balloc w27 _
          have HB28 : Hid (Below w.heap.size w w28) := HB27.out.trans (hb.mono HB27.out.size)
          have Na28 : Hid (C5 w28 w27.heap.size (.slice none 0 0) la lw 0 (.slice none 0 0)) := by show C5 _ _ _ _ _ _ _; rw [← hV28]; exact c5_new _ _ _ _ _ _ _ _ rfl
          clear hb HB27
          rw [hV28] at hS3 hS4
          obtain ⟨⟨_, _, _, n3, n4⟩, nf⟩ := Na28.out
          have nf3 := nf 3
          have nf4 := nf 4
          clear nf
          go_wp2_with fail
          clear hV28 hS3 hS4 n3 n4 nf3 nf4
          refine (HNS.out _).mono ?_
          rintro e w29 ⟨rfl, hb⟩
          have HB29 : Hid (Below w.heap.size w w29) := HB28.out.trans (hb.mono HB28.out.size)
          have Na29 : Hid (C5 w29 w27.heap.size (.slice none 0 0) la lw 0 (.slice none 0 0)) := Na28.out.later hb
          clear hb HB28 Na28
          obtain ⟨_, _, _, hS3, hS4⟩ := box_same w29 (Value.slice none 0 0) la lw 0 (Value.slice none 0 0) 41
          obtain ⟨w30, hV30⟩ : ∃ V, w29.alloc (.cells #[.slice none 0 0, .int .i64 la, .int .i64 lw, .int .i64 0, .slice none 0 0] 41) = V := ⟨_, rfl⟩
          have hb : Below w29.heap.size w29 w30 := by rw [← hV30]; exact balloc w29 _
          have HB30 : Hid (Below w.heap.size w w30) := HB29.out.trans (hb.mono HB29.out.size)
          have Na30 : Hid (C5 w30 w27.heap.size (.slice none 0 0) la lw 0 (.slice none 0 0)) := Na29.out.later hb
          have Nb30 : Hid (C5 w30 w29.heap.size (.slice none 0 0) la lw 0 (.slice none 0 0)) := by show C5 _ _ _ _ _ _ _; rw [← hV30]; exact c5_new _ _ _ _ _ _ _ _ rfl
          clear hb HB29 Na29
          rw [hV30] at hS3 hS4
          obtain ⟨⟨_, _, _, n3, n4⟩, nf⟩ := Nb30.out
          have nf3 := nf 3
          have nf4 := nf 4
          clear nf
          go_wp2_with fail
          clear hV30 hS3 hS4 n3 n4 nf3 nf4
          refine (drawTag_c bo m d _ hm (codeOk9 HM.out HB30.out)).mono ?_
          rintro e w31 ⟨tg, rfl, htg, hb⟩
          have HB31 : Hid (Below w.heap.size w w31) := HB30.out.trans (hb.mono HB30.out.size)
          have Na31 : Hid (C5 w31 w27.heap.size (.slice none 0 0) la lw 0 (.slice none 0 0)) := Na30.out.later hb
          have Nb31 : Hid (C5 w31 w29.heap.size (.slice none 0 0) la lw 0 (.slice none 0 0)) := Nb30.out.later hb
          clear hb HB30 Na30 Nb30
          obtain ⟨tn, tf, hTG⟩ : ∃ tn tf, tagF tg = (tn, tf) := ⟨_, _, rfl⟩
          have htt : (tf == tf) = true := by simp
          have htn : (tn == tn) = true := by simp
          have q1 := fun wx => implTag_c tg wx (by omega) tn tf hTG
          have q2 := fun wx => specTag_c tg wx (by omega) tn tf hTG
          clear hTG
          go_wp2_with fail
          refine (q1 _).mono ?_
          rintro e w' ⟨rfl, hw⟩
          subst w'
          go_wp2_with fail
          refine (q2 _).mono ?_
          rintro e w' ⟨rfl, hw⟩
          subst w'
          obtain ⟨⟨ua0, ua1, ua2, ua3, ua4⟩, _⟩ := Na31.out
          obtain ⟨⟨ub0, ub1, ub2, ub3, ub4⟩, _⟩ := Nb31.out
          clear q1 q2
          go_wp2_with fail
          refine (sameMix_c none none none none 0 0 0 0 0 0 la lw 0 [] [] _ rfl rfl (by omega) (by omega) (Or.inl rfl) (Or.inl rfl) (Or.inl rfl) (Or.inl rfl)).mono ?_
          rintro e w32 ⟨rfl, hb⟩
          have HB32 : Hid (Below w.heap.size w w32) := HB31.out.trans (hb.mono HB31.out.size)
          have Na32 : Hid (C5 w32 w27.heap.size (.slice none 0 0) la lw 0 (.slice none 0 0)) := Na31.out.later hb
          have Nb32 : Hid (C5 w32 w29.heap.size (.slice none 0 0) la lw 0 (.slice none 0 0)) := Nb31.out.later hb
          clear hb HB31 Na31 Nb31
          go_wp2
          go_ret
          exact ⟨rfl, HB32.out⟩
        · have HQ3 : Hid (lg = zt.pool) := hq3
          have hl0 : 0 < q9 := by rw [← HQ9.out]; exact List.length_pos_iff.2 hq1
          obtain rfl : y9 = 0 := by rw [← HY9.out, hq2]; rfl
          have hl1 : ((q9 : Int) == 0) = false := by rw [beq_eq_false_iff_ne]; omega
          have hl2 : (0 : Int) < (q9 : Int) := by omega
          clear hq1 hq2 hq3
          obtain ⟨⟨uY0, uY1, uY2, uY3, uY4⟩, _⟩ := CY23.out
          go_wp2_with fail
          refine (implGoodQ MY23.out HSY.out HY9.out HGY.out).mono ?_
          rintro e w24 ⟨rfl, hb⟩
          have HB24 : Hid (Below w.heap.size w w24) := HB23.out.trans (hb.mono HB23.out.size)
          have CM24 : Hid (C5 w24 w1.heap.size (.slice pm zm.pool.length km) zm.least zm.wait zm.old (.slice sm zm.seen.length dm)) := CM23.out.later hb
          have MM24 : Hid (MB w24 pm km sm dm zm) := MM23.out.later hb
          have CX24 : Hid (C5 w24 w3.heap.size (.slice px zx.pool.length kx) zx.least zx.wait zx.old (.slice sx zx.seen.length dx)) := CX23.out.later hb
          have MX24 : Hid (MB w24 px kx sx dx zx) := MX23.out.later hb
          have CW24 : Hid (C5 w24 w5.heap.size (.slice pw zx.pool.length kw) zx.least zx.wait zx.old (.slice sw zx.seen.length dw)) := CW23.out.later hb
          have MW24 : Hid (MB w24 pw kw sw dw zx) := MW23.out.later hb
          have CZ24 : Hid (C5 w24 w11.heap.size (.slice pz zx.pool.length kz) zx.least zx.wait zx.old (.slice sz zx.seen.length dz)) := CZ23.out.later hb
          have MZ24 : Hid (MB w24 pz kz sz dz zx) := MZ23.out.later hb
          have CT24 : Hid (C5 w24 w16.heap.size (.slice pt zt.pool.length kt) zt.least zt.wait zt.old (.slice st zt.seen.length dt)) := CT23.out.later hb
          have MT24 : Hid (MB w24 pt kt st dt zt) := MT23.out.later hb
          have CY24 : Hid (C5 w24 w18.heap.size (.slice py 0 ky) zy.least zy.wait zy.old (.slice sy zy.seen.length dy)) := CY23.out.later hb
          have MY24 : Hid (MB w24 py ky sy dy zy) := MY23.out.later hb
          have CK24 : Hid (C5 w24 w20.heap.size (.slice pk 0 kk) zy.least zy.wait zy.old (.slice sk zy.seen.length dk)) := CK23.out.later hb
          have MK24 : Hid (MB w24 pk kk sk dk zy) := MK23.out.later hb
          have TL24 : Hid (RdS w24 ay lg) := TL23.out.later hb
          have TG24 : Hid (RdS w24 ak lg) := TG23.out.later hb
          clear hb HB23 CM23 MM23 CX23 MX23 CW23 MW23 CZ23 MZ23 CT23 MT23 CY23 MY23 CK23 MK23 TL23 TG23 uY0 uY1 uY2 uY3 uY4
          obtain ⟨⟨uY0, uY1, uY2, uY3, uY4⟩, _⟩ := CY24.out
          obtain ⟨⟨uT0, uT1, uT2, uT3, uT4⟩, _⟩ := CT24.out
          go_wp2_with fail
          refine (sameTextsQ TL24.out MT24.out.rd HQ3.out HQ9.out rfl hlg).mono ?_
          rintro e w25 ⟨rfl, hb⟩
          have HB25 : Hid (Below w.heap.size w w25) := HB24.out.trans (hb.mono HB24.out.size)
          have CM25 : Hid (C5 w25 w1.heap.size (.slice pm zm.pool.length km) zm.least zm.wait zm.old (.slice sm zm.seen.length dm)) := CM24.out.later hb
          have MM25 : Hid (MB w25 pm km sm dm zm) := MM24.out.later hb
          have CX25 : Hid (C5 w25 w3.heap.size (.slice px zx.pool.length kx) zx.least zx.wait zx.old (.slice sx zx.seen.length dx)) := CX24.out.later hb
          have MX25 : Hid (MB w25 px kx sx dx zx) := MX24.out.later hb
          have CW25 : Hid (C5 w25 w5.heap.size (.slice pw zx.pool.length kw) zx.least zx.wait zx.old (.slice sw zx.seen.length dw)) := CW24.out.later hb
          have MW25 : Hid (MB w25 pw kw sw dw zx) := MW24.out.later hb
          have CZ25 : Hid (C5 w25 w11.heap.size (.slice pz zx.pool.length kz) zx.least zx.wait zx.old (.slice sz zx.seen.length dz)) := CZ24.out.later hb
          have MZ25 : Hid (MB w25 pz kz sz dz zx) := MZ24.out.later hb
          have CT25 : Hid (C5 w25 w16.heap.size (.slice pt zt.pool.length kt) zt.least zt.wait zt.old (.slice st zt.seen.length dt)) := CT24.out.later hb
          have MT25 : Hid (MB w25 pt kt st dt zt) := MT24.out.later hb
          have CY25 : Hid (C5 w25 w18.heap.size (.slice py 0 ky) zy.least zy.wait zy.old (.slice sy zy.seen.length dy)) := CY24.out.later hb
          have MY25 : Hid (MB w25 py ky sy dy zy) := MY24.out.later hb
          have CK25 : Hid (C5 w25 w20.heap.size (.slice pk 0 kk) zy.least zy.wait zy.old (.slice sk zy.seen.length dk)) := CK24.out.later hb
          have MK25 : Hid (MB w25 pk kk sk dk zy) := MK24.out.later hb
          have TL25 : Hid (RdS w25 ay lg) := TL24.out.later hb
          have TG25 : Hid (RdS w25 ak lg) := TG24.out.later hb
          clear hb HB24 CM24 MM24 CX24 MX24 CW24 MW24 CZ24 MZ24 CT24 MT24 CY24 MY24 CK24 MK24 TL24 TG24 uY0 uY1 uY2 uY3 uY4 uT0 uT1 uT2 uT3 uT4
          go_wp2_with fail
          refine (drawNew_c bo m d _ hm (codeOk9 HM.out HB25.out)).mono ?_
          rintro e w26 ⟨na, nb, rfl, hb⟩
          have HB26 : Hid (Below w.heap.size w w26) := HB25.out.trans (hb.mono HB25.out.size)
          have CM26 : Hid (C5 w26 w1.heap.size (.slice pm zm.pool.length km) zm.least zm.wait zm.old (.slice sm zm.seen.length dm)) := CM25.out.later hb
          have MM26 : Hid (MB w26 pm km sm dm zm) := MM25.out.later hb
          have CX26 : Hid (C5 w26 w3.heap.size (.slice px zx.pool.length kx) zx.least zx.wait zx.old (.slice sx zx.seen.length dx)) := CX25.out.later hb
          have MX26 : Hid (MB w26 px kx sx dx zx) := MX25.out.later hb
          have CW26 : Hid (C5 w26 w5.heap.size (.slice pw zx.pool.length kw) zx.least zx.wait zx.old (.slice sw zx.seen.length dw)) := CW25.out.later hb
          have MW26 : Hid (MB w26 pw kw sw dw zx) := MW25.out.later hb
          have CZ26 : Hid (C5 w26 w11.heap.size (.slice pz zx.pool.length kz) zx.least zx.wait zx.old (.slice sz zx.seen.length dz)) := CZ25.out.later hb
          have MZ26 : Hid (MB w26 pz kz sz dz zx) := MZ25.out.later hb
          have CT26 : Hid (C5 w26 w16.heap.size (.slice pt zt.pool.length kt) zt.least zt.wait zt.old (.slice st zt.seen.length dt)) := CT25.out.later hb
          have MT26 : Hid (MB w26 pt kt st dt zt) := MT25.out.later hb
          have CY26 : Hid (C5 w26 w18.heap.size (.slice py 0 ky) zy.least zy.wait zy.old (.slice sy zy.seen.length dy)) := CY25.out.later hb
          have MY26 : Hid (MB w26 py ky sy dy zy) := MY25.out.later hb
          have CK26 : Hid (C5 w26 w20.heap.size (.slice pk 0 kk) zy.least zy.wait zy.old (.slice sk zy.seen.length dk)) := CK25.out.later hb
          have MK26 : Hid (MB w26 pk kk sk dk zy) := MK25.out.later hb
          have TL26 : Hid (RdS w26 ay lg) := TL25.out.later hb
          have TG26 : Hid (RdS w26 ak lg) := TG25.out.later hb
          clear hb HB25 CM25 MM25 CX25 MX25 CW25 MW25 CZ25 MZ25 CT25 MT25 CY25 MY25 CK25 MK25 TL25 TG25
          obtain ⟨la, hla⟩ : ∃ la, (newM na nb).least = la := ⟨_, rfl⟩
          obtain ⟨lw, hlw⟩ : ∃ lw, (newM na nb).wait = lw := ⟨_, rfl⟩
          obtain ⟨nf, hnf⟩ : ∃ nf, newB na nb = nf := ⟨_, rfl⟩
          have hnn : (nf == nf) = true := by simp
          have HNI : Hid (∀ wx, Calls Try.prog 34 #[.int .i64 na, .int .i64 nb] wx fun e w' => e = .returned (.tuple #[.agg #[.slice none 0 0, .int .i64 la, .int .i64 lw, .int .i64 0, .slice none 0 0], .bool nf]) ∧ Below wx.heap.size wx w') := fun wx => by rw [← hla, ← hlw, ← hnf]; exact implNew_c na nb wx
          have HNS : Hid (∀ wx, Calls Try.prog 35 #[.int .i64 na, .int .i64 nb] wx fun e w' => e = .returned (.tuple #[.agg #[.slice none 0 0, .int .i64 la, .int .i64 lw, .int .i64 0, .slice none 0 0], .bool nf]) ∧ Below wx.heap.size wx w') := fun wx => by rw [← hla, ← hlw, ← hnf]; exact specNew_c na nb wx
          clear hla hlw hnf
          go_wp2_with fail
          refine (HNI.out _).mono ?_
          rintro e w27 ⟨rfl, hb⟩
          have HB27 : Hid (Below w.heap.size w w27) := HB26.out.trans (hb.mono HB26.out.size)
          clear hb HB26
          obtain ⟨_, _, _, hS3, hS4⟩ := box_same w27 (Value.slice none 0 0) la lw 0 (Value.slice none 0 0) 41
          obtain ⟨w28, hV28⟩ : ∃ V, w27.alloc (.cells #[.slice none 0 0, .int .i64 la, .int .i64 lw, .int .i64 0, .slice none 0 0] 41) = V := ⟨_, rfl⟩
          have hb : Below w27.heap.size w27 w28 := by rw [← hV28]; exact balloc w27 _
          have HB28 : Hid (Below w.heap.size w w28) := HB27.out.trans (hb.mono HB27.out.size)
          have Na28 : Hid (C5 w28 w27.heap.size (.slice none 0 0) la lw 0 (.slice none 0 0)) := by show C5 _ _ _ _ _ _ _; rw [← hV28]; exact c5_new _ _ _ _ _ _ _ _ rfl
          clear hb HB27
          rw [hV28] at hS3 hS4
          obtain ⟨⟨_, _, _, n3, n4⟩, nf⟩ := Na28.out
          have nf3 := nf 3
          have nf4 := nf 4
          clear nf
          go_wp2_with fail
          clear hV28 hS3 hS4 n3 n4 nf3 nf4
          refine (HNS.out _).mono ?_
          rintro e w29 ⟨rfl, hb⟩
          have HB29 : Hid (Below w.heap.size w w29) := HB28.out.trans (hb.mono HB28.out.size)
          have Na29 : Hid (C5 w29 w27.heap.size (.slice none 0 0) la lw 0 (.slice none 0 0)) := Na28.out.later hb
          clear hb HB28 Na28
          obtain ⟨_, _, _, hS3, hS4⟩ := box_same w29 (Value.slice none 0 0) la lw 0 (Value.slice none 0 0) 41
          obtain ⟨w30, hV30⟩ : ∃ V, w29.alloc (.cells #[.slice none 0 0, .int .i64 la, .int .i64 lw, .int .i64 0, .slice none 0 0] 41) = V := ⟨_, rfl⟩
          have hb : Below w29.heap.size w29 w30 := by rw [← hV30]; exact balloc w29 _
          have HB30 : Hid (Below w.heap.size w w30) := HB29.out.trans (hb.mono HB29.out.size)
          have Na30 : Hid (C5 w30 w27.heap.size (.slice none 0 0) la lw 0 (.slice none 0 0)) := Na29.out.later hb
          have Nb30 : Hid (C5 w30 w29.heap.size (.slice none 0 0) la lw 0 (.slice none 0 0)) := by show C5 _ _ _ _ _ _ _; rw [← hV30]; exact c5_new _ _ _ _ _ _ _ _ rfl
          clear hb HB29 Na29
          rw [hV30] at hS3 hS4
          obtain ⟨⟨_, _, _, n3, n4⟩, nf⟩ := Nb30.out
          have nf3 := nf 3
          have nf4 := nf 4
          clear nf
          go_wp2_with fail
          clear hV30 hS3 hS4 n3 n4 nf3 nf4
          refine (drawTag_c bo m d _ hm (codeOk9 HM.out HB30.out)).mono ?_
          rintro e w31 ⟨tg, rfl, htg, hb⟩
          have HB31 : Hid (Below w.heap.size w w31) := HB30.out.trans (hb.mono HB30.out.size)
          have Na31 : Hid (C5 w31 w27.heap.size (.slice none 0 0) la lw 0 (.slice none 0 0)) := Na30.out.later hb
          have Nb31 : Hid (C5 w31 w29.heap.size (.slice none 0 0) la lw 0 (.slice none 0 0)) := Nb30.out.later hb
          clear hb HB30 Na30 Nb30
          obtain ⟨tn, tf, hTG⟩ : ∃ tn tf, tagF tg = (tn, tf) := ⟨_, _, rfl⟩
          have htt : (tf == tf) = true := by simp
          have htn : (tn == tn) = true := by simp
          have q1 := fun wx => implTag_c tg wx (by omega) tn tf hTG
          have q2 := fun wx => specTag_c tg wx (by omega) tn tf hTG
          clear hTG
          go_wp2_with fail
          refine (q1 _).mono ?_
          rintro e w' ⟨rfl, hw⟩
          subst w'
          go_wp2_with fail
          refine (q2 _).mono ?_
          rintro e w' ⟨rfl, hw⟩
          subst w'
          obtain ⟨⟨ua0, ua1, ua2, ua3, ua4⟩, _⟩ := Na31.out
          obtain ⟨⟨ub0, ub1, ub2, ub3, ub4⟩, _⟩ := Nb31.out
          clear q1 q2
          go_wp2_with fail
          refine (sameMix_c none none none none 0 0 0 0 0 0 la lw 0 [] [] _ rfl rfl (by omega) (by omega) (Or.inl rfl) (Or.inl rfl) (Or.inl rfl) (Or.inl rfl)).mono ?_
          rintro e w32 ⟨rfl, hb⟩
          have HB32 : Hid (Below w.heap.size w w32) := HB31.out.trans (hb.mono HB31.out.size)
          have Na32 : Hid (C5 w32 w27.heap.size (.slice none 0 0) la lw 0 (.slice none 0 0)) := Na31.out.later hb
          have Nb32 : Hid (C5 w32 w29.heap.size (.slice none 0 0) la lw 0 (.slice none 0 0)) := Nb31.out.later hb
          clear hb HB31 Na31 Nb31
          go_wp2
          go_ret
          exact ⟨rfl, HB32.out⟩
    · subst hq1
      have hln : ((zx.pool.length : Int) != (zm.pool.length : Int) + 1) = false := by rw [hq2]; simp
      have hlb : zm.pool.length ≤ 1000 := HSM.out.pl
      have hlw : wrap64 ((zm.pool.length : Int) + 1) = (zm.pool.length : Int) + 1 := by unfold wrap64; omega
      clear hq2
      obtain ⟨⟨uX0, uX1, uX2, uX3, uX4⟩, _⟩ := CX12.out
      go_wp2_with fail
      clear hV12
      refine (goodTrue (implGoodU MX12.out HSX.out) HGX.out).mono ?_
      rintro e w13 ⟨rfl, hb⟩
      have HB13 : Hid (Below w.heap.size w w13) := HB12.out.trans (hb.mono HB12.out.size)
      have CM13 : Hid (C5 w13 w1.heap.size (.slice pm zm.pool.length km) zm.least zm.wait zm.old (.slice sm zm.seen.length dm)) := CM12.out.later hb
      have MM13 : Hid (MB w13 pm km sm dm zm) := MM12.out.later hb
      have CX13 : Hid (C5 w13 w3.heap.size (.slice px zx.pool.length kx) zx.least zx.wait zx.old (.slice sx zx.seen.length dx)) := CX12.out.later hb
      have MX13 : Hid (MB w13 px kx sx dx zx) := MX12.out.later hb
      have CW13 : Hid (C5 w13 w5.heap.size (.slice pw zx.pool.length kw) zx.least zx.wait zx.old (.slice sw zx.seen.length dw)) := CW12.out.later hb
      have MW13 : Hid (MB w13 pw kw sw dw zx) := MW12.out.later hb
      have CZ13 : Hid (C5 w13 w11.heap.size (.slice pz zx.pool.length kz) zx.least zx.wait zx.old (.slice sz zx.seen.length dz)) := CZ12.out.later hb
      have MZ13 : Hid (MB w13 pz kz sz dz zx) := MZ12.out.later hb
      clear hb HB12 CM12 MM12 CX12 MX12 CW12 MW12 CZ12 MZ12 uX0 uX1 uX2 uX3 uX4
      obtain ⟨⟨uZ0, uZ1, uZ2, uZ3, uZ4⟩, _⟩ := CZ13.out
      obtain ⟨⟨uX0, uX1, uX2, uX3, uX4⟩, _⟩ := CX13.out
      obtain ⟨⟨uM0, uM1, uM2, uM3, uM4⟩, _⟩ := CM13.out
      go_wp2_with fail
      refine (sameMixU MZ13.out MX13.out HSX.out).mono ?_
      rintro e w14 ⟨rfl, hb⟩
      have HB14 : Hid (Below w.heap.size w w14) := HB13.out.trans (hb.mono HB13.out.size)
      have CM14 : Hid (C5 w14 w1.heap.size (.slice pm zm.pool.length km) zm.least zm.wait zm.old (.slice sm zm.seen.length dm)) := CM13.out.later hb
      have MM14 : Hid (MB w14 pm km sm dm zm) := MM13.out.later hb
      have CX14 : Hid (C5 w14 w3.heap.size (.slice px zx.pool.length kx) zx.least zx.wait zx.old (.slice sx zx.seen.length dx)) := CX13.out.later hb
      have MX14 : Hid (MB w14 px kx sx dx zx) := MX13.out.later hb
      have CW14 : Hid (C5 w14 w5.heap.size (.slice pw zx.pool.length kw) zx.least zx.wait zx.old (.slice sw zx.seen.length dw)) := CW13.out.later hb
      have MW14 : Hid (MB w14 pw kw sw dw zx) := MW13.out.later hb
      have CZ14 : Hid (C5 w14 w11.heap.size (.slice pz zx.pool.length kz) zx.least zx.wait zx.old (.slice sz zx.seen.length dz)) := CZ13.out.later hb
      have MZ14 : Hid (MB w14 pz kz sz dz zx) := MZ13.out.later hb
      clear hb HB13 CM13 MM13 CX13 MX13 CW13 MW13 CZ13 MZ13 uZ0 uZ1 uZ2 uZ3 uZ4 uX0 uX1 uX2 uX3 uX4 uM0 uM1 uM2 uM3 uM4
      go_wp2_with fail
      refine (drawTick_c bo m d _ hm (codeOk9 HM.out HB14.out)).mono ?_
      rintro e w15 ⟨zt, pt, kt, st, dt, rfl, hmt, ⟨ho1, ho2⟩, hb⟩
      have HB15 : Hid (Below w.heap.size w w15) := HB14.out.trans (hb.mono HB14.out.size)
      have CM15 : Hid (C5 w15 w1.heap.size (.slice pm zm.pool.length km) zm.least zm.wait zm.old (.slice sm zm.seen.length dm)) := CM14.out.later hb
      have MM15 : Hid (MB w15 pm km sm dm zm) := MM14.out.later hb
      have CX15 : Hid (C5 w15 w3.heap.size (.slice px zx.pool.length kx) zx.least zx.wait zx.old (.slice sx zx.seen.length dx)) := CX14.out.later hb
      have MX15 : Hid (MB w15 px kx sx dx zx) := MX14.out.later hb
      have CW15 : Hid (C5 w15 w5.heap.size (.slice pw zx.pool.length kw) zx.least zx.wait zx.old (.slice sw zx.seen.length dw)) := CW14.out.later hb
      have MW15 : Hid (MB w15 pw kw sw dw zx) := MW14.out.later hb
      have CZ15 : Hid (C5 w15 w11.heap.size (.slice pz zx.pool.length kz) zx.least zx.wait zx.old (.slice sz zx.seen.length dz)) := CZ14.out.later hb
      have MZ15 : Hid (MB w15 pz kz sz dz zx) := MZ14.out.later hb
      clear hb HB14 CM14 MM14 CX14 MX14 CW14 MW14 CZ14 MZ14
      have MT15 : Hid (MB w15 pt kt st dt zt) := MB.of ho1 ho2
      clear ho1 ho2
      have HMT : Hid (MxD zt) := hmt
      obtain ⟨zy, lg, ft, hT⟩ : ∃ zy lg ft, tickF zt = (zy, lg, ft) := ⟨_, _, _, rfl⟩
      have HTF : Hid (tickF zt = (zy, lg, ft)) := hT
      have HTT : Hid (fb_tick zt zy lg ft) := tick_told hmt hT
      have hft : (ft != ft) = false := by simp
      have HSY : Hid (SmallV zy) := (tick_told hmt hT).1
      obtain ⟨q9, hq9⟩ : ∃ q, lg.length = q := ⟨_, rfl⟩
      obtain ⟨y9, hy9⟩ : ∃ q, zy.pool.length = q := ⟨_, rfl⟩
      have HQ9 : Hid (lg.length = q9) := hq9
      have HY9 : Hid (zy.pool.length = y9) := hy9
      have hlg : q9 ≤ 1000 := by rw [← hq9]; exact (tick_told hmt hT).2.1
      have hly : y9 ≤ 1000 := by rw [← hy9]; exact HSY.out.pl
      clear hmt hT hq9 hy9
      obtain ⟨w16, hV16⟩ : ∃ V, w15.alloc (.cells #[.slice pt zt.pool.length kt, .int .i64 zt.least, .int .i64 zt.wait, .int .i64 zt.old, .slice st zt.seen.length dt] 41) = V := ⟨_, rfl⟩
      have hb : Below w15.heap.size w15 w16 := by rw [← hV16]; exact balloc w15 _
      have HB16 : Hid (Below w.heap.size w w16) := HB15.out.trans (hb.mono HB15.out.size)
      have CM16 : Hid (C5 w16 w1.heap.size (.slice pm zm.pool.length km) zm.least zm.wait zm.old (.slice sm zm.seen.length dm)) := CM15.out.later hb
      have MM16 : Hid (MB w16 pm km sm dm zm) := MM15.out.later hb
      have CX16 : Hid (C5 w16 w3.heap.size (.slice px zx.pool.length kx) zx.least zx.wait zx.old (.slice sx zx.seen.length dx)) := CX15.out.later hb
      have MX16 : Hid (MB w16 px kx sx dx zx) := MX15.out.later hb
      have CW16 : Hid (C5 w16 w5.heap.size (.slice pw zx.pool.length kw) zx.least zx.wait zx.old (.slice sw zx.seen.length dw)) := CW15.out.later hb
      have MW16 : Hid (MB w16 pw kw sw dw zx) := MW15.out.later hb
      have CZ16 : Hid (C5 w16 w11.heap.size (.slice pz zx.pool.length kz) zx.least zx.wait zx.old (.slice sz zx.seen.length dz)) := CZ15.out.later hb
      have MZ16 : Hid (MB w16 pz kz sz dz zx) := MZ15.out.later hb
      have MT16 : Hid (MB w16 pt kt st dt zt) := MT15.out.later hb
      have CT16 : Hid (C5 w16 w15.heap.size (.slice pt zt.pool.length kt) zt.least zt.wait zt.old (.slice st zt.seen.length dt)) := by show C5 _ _ _ _ _ _ _; rw [← hV16]; exact c5_new _ _ _ _ _ _ _ _ rfl
      clear hb HB15 CM15 MM15 CX15 MX15 CW15 MW15 CZ15 MZ15 MT15
      obtain ⟨⟨uT0, uT1, uT2, uT3, uT4⟩, _⟩ := CT16.out
      go_wp2_with fail
      clear hV16
      refine (implTickQ MT16.out HMT.out.smallV HTF.out HQ9.out HY9.out).mono ?_
      rintro e w17 ⟨py, ky, sy, dy, ay, jy, rfl, hm9, ht, hb⟩
      have HB17 : Hid (Below w.heap.size w w17) := HB16.out.trans (hb.mono HB16.out.size)
      have CM17 : Hid (C5 w17 w1.heap.size (.slice pm zm.pool.length km) zm.least zm.wait zm.old (.slice sm zm.seen.length dm)) := CM16.out.later hb
      have MM17 : Hid (MB w17 pm km sm dm zm) := MM16.out.later hb
      have CX17 : Hid (C5 w17 w3.heap.size (.slice px zx.pool.length kx) zx.least zx.wait zx.old (.slice sx zx.seen.length dx)) := CX16.out.later hb
      have MX17 : Hid (MB w17 px kx sx dx zx) := MX16.out.later hb
      have CW17 : Hid (C5 w17 w5.heap.size (.slice pw zx.pool.length kw) zx.least zx.wait zx.old (.slice sw zx.seen.length dw)) := CW16.out.later hb
      have MW17 : Hid (MB w17 pw kw sw dw zx) := MW16.out.later hb
      have CZ17 : Hid (C5 w17 w11.heap.size (.slice pz zx.pool.length kz) zx.least zx.wait zx.old (.slice sz zx.seen.length dz)) := CZ16.out.later hb
      have MZ17 : Hid (MB w17 pz kz sz dz zx) := MZ16.out.later hb
      have CT17 : Hid (C5 w17 w15.heap.size (.slice pt zt.pool.length kt) zt.least zt.wait zt.old (.slice st zt.seen.length dt)) := CT16.out.later hb
      have MT17 : Hid (MB w17 pt kt st dt zt) := MT16.out.later hb
      have TL17 : Hid (RdS w17 ay lg) := ht
      clear hb HB16 CM16 MM16 CX16 MX16 CW16 MW16 CZ16 MZ16 CT16 MT16 ht uT0 uT1 uT2 uT3 uT4
      have MY17 : Hid (MB w17 py ky sy dy zy) := hm9
      clear hm9
      obtain ⟨w18, hV18⟩ : ∃ V, w17.alloc (.cells #[.slice py y9 ky, .int .i64 zy.least, .int .i64 zy.wait, .int .i64 zy.old, .slice sy zy.seen.length dy] 41) = V := ⟨_, rfl⟩
      have hb : Below w17.heap.size w17 w18 := by rw [← hV18]; exact balloc w17 _
      have HB18 : Hid (Below w.heap.size w w18) := HB17.out.trans (hb.mono HB17.out.size)
      have CM18 : Hid (C5 w18 w1.heap.size (.slice pm zm.pool.length km) zm.least zm.wait zm.old (.slice sm zm.seen.length dm)) := CM17.out.later hb
      have MM18 : Hid (MB w18 pm km sm dm zm) := MM17.out.later hb
      have CX18 : Hid (C5 w18 w3.heap.size (.slice px zx.pool.length kx) zx.least zx.wait zx.old (.slice sx zx.seen.length dx)) := CX17.out.later hb
      have MX18 : Hid (MB w18 px kx sx dx zx) := MX17.out.later hb
      have CW18 : Hid (C5 w18 w5.heap.size (.slice pw zx.pool.length kw) zx.least zx.wait zx.old (.slice sw zx.seen.length dw)) := CW17.out.later hb
      have MW18 : Hid (MB w18 pw kw sw dw zx) := MW17.out.later hb
      have CZ18 : Hid (C5 w18 w11.heap.size (.slice pz zx.pool.length kz) zx.least zx.wait zx.old (.slice sz zx.seen.length dz)) := CZ17.out.later hb
      have MZ18 : Hid (MB w18 pz kz sz dz zx) := MZ17.out.later hb
      have CT18 : Hid (C5 w18 w15.heap.size (.slice pt zt.pool.length kt) zt.least zt.wait zt.old (.slice st zt.seen.length dt)) := CT17.out.later hb
      have MT18 : Hid (MB w18 pt kt st dt zt) := MT17.out.later hb
      have MY18 : Hid (MB w18 py ky sy dy zy) := MY17.out.later hb
      have TL18 : Hid (RdS w18 ay lg) := TL17.out.later hb
      have CY18 : Hid (C5 w18 w17.heap.size (.slice py y9 ky) zy.least zy.wait zy.old (.slice sy zy.seen.length dy)) := by show C5 _ _ _ _ _ _ _; rw [← hV18]; exact c5_new _ _ _ _ _ _ _ _ rfl
      clear hb HB17 CM17 MM17 CX17 MX17 CW17 MW17 CZ17 MZ17 CT17 MT17 MY17 TL17
      obtain ⟨⟨uT0, uT1, uT2, uT3, uT4⟩, _⟩ := CT18.out
      go_wp2_with fail
      clear hV18
      refine (specTickQ MT18.out HMT.out.smallV HTF.out HQ9.out HY9.out).mono ?_
      rintro e w19 ⟨pk, kk, sk, dk, ak, jk, rfl, hm9, ht, hb⟩
      have HB19 : Hid (Below w.heap.size w w19) := HB18.out.trans (hb.mono HB18.out.size)
      have CM19 : Hid (C5 w19 w1.heap.size (.slice pm zm.pool.length km) zm.least zm.wait zm.old (.slice sm zm.seen.length dm)) := CM18.out.later hb
      have MM19 : Hid (MB w19 pm km sm dm zm) := MM18.out.later hb
      have CX19 : Hid (C5 w19 w3.heap.size (.slice px zx.pool.length kx) zx.least zx.wait zx.old (.slice sx zx.seen.length dx)) := CX18.out.later hb
      have MX19 : Hid (MB w19 px kx sx dx zx) := MX18.out.later hb
      have CW19 : Hid (C5 w19 w5.heap.size (.slice pw zx.pool.length kw) zx.least zx.wait zx.old (.slice sw zx.seen.length dw)) := CW18.out.later hb
      have MW19 : Hid (MB w19 pw kw sw dw zx) := MW18.out.later hb
      have CZ19 : Hid (C5 w19 w11.heap.size (.slice pz zx.pool.length kz) zx.least zx.wait zx.old (.slice sz zx.seen.length dz)) := CZ18.out.later hb
      have MZ19 : Hid (MB w19 pz kz sz dz zx) := MZ18.out.later hb
      have CT19 : Hid (C5 w19 w15.heap.size (.slice pt zt.pool.length kt) zt.least zt.wait zt.old (.slice st zt.seen.length dt)) := CT18.out.later hb
      have MT19 : Hid (MB w19 pt kt st dt zt) := MT18.out.later hb
      have CY19 : Hid (C5 w19 w17.heap.size (.slice py y9 ky) zy.least zy.wait zy.old (.slice sy zy.seen.length dy)) := CY18.out.later hb
      have MY19 : Hid (MB w19 py ky sy dy zy) := MY18.out.later hb
      have TL19 : Hid (RdS w19 ay lg) := TL18.out.later hb
      have TG19 : Hid (RdS w19 ak lg) := ht
      clear hb HB18 CM18 MM18 CX18 MX18 CW18 MW18 CZ18 MZ18 CT18 MT18 CY18 MY18 TL18 ht uT0 uT1 uT2 uT3 uT4
      have MK19 : Hid (MB w19 pk kk sk dk zy) := hm9
      clear hm9
      obtain ⟨w20, hV20⟩ : ∃ V, w19.alloc (.cells #[.slice pk y9 kk, .int .i64 zy.least, .int .i64 zy.wait, .int .i64 zy.old, .slice sk zy.seen.length dk] 41) = V := ⟨_, rfl⟩
      have hb : Below w19.heap.size w19 w20 := by rw [← hV20]; exact balloc w19 _
      have HB20 : Hid (Below w.heap.size w w20) := HB19.out.trans (hb.mono HB19.out.size)
      have CM20 : Hid (C5 w20 w1.heap.size (.slice pm zm.pool.length km) zm.least zm.wait zm.old (.slice sm zm.seen.length dm)) := CM19.out.later hb
      have MM20 : Hid (MB w20 pm km sm dm zm) := MM19.out.later hb
      have CX20 : Hid (C5 w20 w3.heap.size (.slice px zx.pool.length kx) zx.least zx.wait zx.old (.slice sx zx.seen.length dx)) := CX19.out.later hb
      have MX20 : Hid (MB w20 px kx sx dx zx) := MX19.out.later hb
      have CW20 : Hid (C5 w20 w5.heap.size (.slice pw zx.pool.length kw) zx.least zx.wait zx.old (.slice sw zx.seen.length dw)) := CW19.out.later hb
      have MW20 : Hid (MB w20 pw kw sw dw zx) := MW19.out.later hb
      have CZ20 : Hid (C5 w20 w11.heap.size (.slice pz zx.pool.length kz) zx.least zx.wait zx.old (.slice sz zx.seen.length dz)) := CZ19.out.later hb
      have MZ20 : Hid (MB w20 pz kz sz dz zx) := MZ19.out.later hb
      have CT20 : Hid (C5 w20 w15.heap.size (.slice pt zt.pool.length kt) zt.least zt.wait zt.old (.slice st zt.seen.length dt)) := CT19.out.later hb
      have MT20 : Hid (MB w20 pt kt st dt zt) := MT19.out.later hb
      have CY20 : Hid (C5 w20 w17.heap.size (.slice py y9 ky) zy.least zy.wait zy.old (.slice sy zy.seen.length dy)) := CY19.out.later hb
      have MY20 : Hid (MB w20 py ky sy dy zy) := MY19.out.later hb
      have MK20 : Hid (MB w20 pk kk sk dk zy) := MK19.out.later hb
      have TL20 : Hid (RdS w20 ay lg) := TL19.out.later hb
      have TG20 : Hid (RdS w20 ak lg) := TG19.out.later hb
      have CK20 : Hid (C5 w20 w19.heap.size (.slice pk y9 kk) zy.least zy.wait zy.old (.slice sk zy.seen.length dk)) := by show C5 _ _ _ _ _ _ _; rw [← hV20]; exact c5_new _ _ _ _ _ _ _ _ rfl
      clear hb HB19 CM19 MM19 CX19 MX19 CW19 MW19 CZ19 MZ19 CT19 MT19 CY19 MY19 MK19 TL19 TG19
      obtain ⟨⟨uY0, uY1, uY2, uY3, uY4⟩, _⟩ := CY20.out
      obtain ⟨⟨uK0, uK1, uK2, uK3, uK4⟩, _⟩ := CK20.out
      go_wp2_with fail
      clear hV20
      refine (sameMixQ MY20.out MK20.out HSY.out HY9.out).mono ?_
      rintro e w21 ⟨rfl, hb⟩
      have HB21 : Hid (Below w.heap.size w w21) := HB20.out.trans (hb.mono HB20.out.size)
      have CM21 : Hid (C5 w21 w1.heap.size (.slice pm zm.pool.length km) zm.least zm.wait zm.old (.slice sm zm.seen.length dm)) := CM20.out.later hb
      have MM21 : Hid (MB w21 pm km sm dm zm) := MM20.out.later hb
      have CX21 : Hid (C5 w21 w3.heap.size (.slice px zx.pool.length kx) zx.least zx.wait zx.old (.slice sx zx.seen.length dx)) := CX20.out.later hb
      have MX21 : Hid (MB w21 px kx sx dx zx) := MX20.out.later hb
      have CW21 : Hid (C5 w21 w5.heap.size (.slice pw zx.pool.length kw) zx.least zx.wait zx.old (.slice sw zx.seen.length dw)) := CW20.out.later hb
      have MW21 : Hid (MB w21 pw kw sw dw zx) := MW20.out.later hb
      have CZ21 : Hid (C5 w21 w11.heap.size (.slice pz zx.pool.length kz) zx.least zx.wait zx.old (.slice sz zx.seen.length dz)) := CZ20.out.later hb
      have MZ21 : Hid (MB w21 pz kz sz dz zx) := MZ20.out.later hb
      have CT21 : Hid (C5 w21 w15.heap.size (.slice pt zt.pool.length kt) zt.least zt.wait zt.old (.slice st zt.seen.length dt)) := CT20.out.later hb
      have MT21 : Hid (MB w21 pt kt st dt zt) := MT20.out.later hb
      have CY21 : Hid (C5 w21 w17.heap.size (.slice py y9 ky) zy.least zy.wait zy.old (.slice sy zy.seen.length dy)) := CY20.out.later hb
      have MY21 : Hid (MB w21 py ky sy dy zy) := MY20.out.later hb
      have CK21 : Hid (C5 w21 w19.heap.size (.slice pk y9 kk) zy.least zy.wait zy.old (.slice sk zy.seen.length dk)) := CK20.out.later hb
      have MK21 : Hid (MB w21 pk kk sk dk zy) := MK20.out.later hb
      have TL21 : Hid (RdS w21 ay lg) := TL20.out.later hb
      have TG21 : Hid (RdS w21 ak lg) := TG20.out.later hb
      clear hb HB20 CM20 MM20 CX20 MX20 CW20 MW20 CZ20 MZ20 CT20 MT20 CY20 MY20 CK20 MK20 TL20 TG20 uY0 uY1 uY2 uY3 uY4 uK0 uK1 uK2 uK3 uK4
      go_wp2_with fail
      refine (sameTextsQ TL21.out TG21.out rfl HQ9.out HQ9.out hlg).mono ?_
      rintro e w22 ⟨rfl, hb⟩
      have HB22 : Hid (Below w.heap.size w w22) := HB21.out.trans (hb.mono HB21.out.size)
      have CM22 : Hid (C5 w22 w1.heap.size (.slice pm zm.pool.length km) zm.least zm.wait zm.old (.slice sm zm.seen.length dm)) := CM21.out.later hb
      have MM22 : Hid (MB w22 pm km sm dm zm) := MM21.out.later hb
      have CX22 : Hid (C5 w22 w3.heap.size (.slice px zx.pool.length kx) zx.least zx.wait zx.old (.slice sx zx.seen.length dx)) := CX21.out.later hb
      have MX22 : Hid (MB w22 px kx sx dx zx) := MX21.out.later hb
      have CW22 : Hid (C5 w22 w5.heap.size (.slice pw zx.pool.length kw) zx.least zx.wait zx.old (.slice sw zx.seen.length dw)) := CW21.out.later hb
      have MW22 : Hid (MB w22 pw kw sw dw zx) := MW21.out.later hb
      have CZ22 : Hid (C5 w22 w11.heap.size (.slice pz zx.pool.length kz) zx.least zx.wait zx.old (.slice sz zx.seen.length dz)) := CZ21.out.later hb
      have MZ22 : Hid (MB w22 pz kz sz dz zx) := MZ21.out.later hb
      have CT22 : Hid (C5 w22 w15.heap.size (.slice pt zt.pool.length kt) zt.least zt.wait zt.old (.slice st zt.seen.length dt)) := CT21.out.later hb
      have MT22 : Hid (MB w22 pt kt st dt zt) := MT21.out.later hb
      have CY22 : Hid (C5 w22 w17.heap.size (.slice py y9 ky) zy.least zy.wait zy.old (.slice sy zy.seen.length dy)) := CY21.out.later hb
      have MY22 : Hid (MB w22 py ky sy dy zy) := MY21.out.later hb
      have CK22 : Hid (C5 w22 w19.heap.size (.slice pk y9 kk) zy.least zy.wait zy.old (.slice sk zy.seen.length dk)) := CK21.out.later hb
      have MK22 : Hid (MB w22 pk kk sk dk zy) := MK21.out.later hb
      have TL22 : Hid (RdS w22 ay lg) := TL21.out.later hb
      have TG22 : Hid (RdS w22 ak lg) := TG21.out.later hb
      clear hb HB21 CM21 MM21 CX21 MX21 CW21 MW21 CZ21 MZ21 CT21 MT21 CY21 MY21 CK21 MK21 TL21 TG21
      rcases HTT.out.2.2 with hf | ⟨hf, hgy, hq⟩
      · subst hf
        go_wp2_with fail
        refine (drawNew_c bo m d _ hm (codeOk9 HM.out HB22.out)).mono ?_
        rintro e w23 ⟨na, nb, rfl, hb⟩
        have HB23 : Hid (Below w.heap.size w w23) := HB22.out.trans (hb.mono HB22.out.size)
        have CM23 : Hid (C5 w23 w1.heap.size (.slice pm zm.pool.length km) zm.least zm.wait zm.old (.slice sm zm.seen.length dm)) := CM22.out.later hb
        have MM23 : Hid (MB w23 pm km sm dm zm) := MM22.out.later hb
        have CX23 : Hid (C5 w23 w3.heap.size (.slice px zx.pool.length kx) zx.least zx.wait zx.old (.slice sx zx.seen.length dx)) := CX22.out.later hb
        have MX23 : Hid (MB w23 px kx sx dx zx) := MX22.out.later hb
        have CW23 : Hid (C5 w23 w5.heap.size (.slice pw zx.pool.length kw) zx.least zx.wait zx.old (.slice sw zx.seen.length dw)) := CW22.out.later hb
        have MW23 : Hid (MB w23 pw kw sw dw zx) := MW22.out.later hb
        have CZ23 : Hid (C5 w23 w11.heap.size (.slice pz zx.pool.length kz) zx.least zx.wait zx.old (.slice sz zx.seen.length dz)) := CZ22.out.later hb
        have MZ23 : Hid (MB w23 pz kz sz dz zx) := MZ22.out.later hb
        have CT23 : Hid (C5 w23 w15.heap.size (.slice pt zt.pool.length kt) zt.least zt.wait zt.old (.slice st zt.seen.length dt)) := CT22.out.later hb
        have MT23 : Hid (MB w23 pt kt st dt zt) := MT22.out.later hb
        have CY23 : Hid (C5 w23 w17.heap.size (.slice py y9 ky) zy.least zy.wait zy.old (.slice sy zy.seen.length dy)) := CY22.out.later hb
        have MY23 : Hid (MB w23 py ky sy dy zy) := MY22.out.later hb
        have CK23 : Hid (C5 w23 w19.heap.size (.slice pk y9 kk) zy.least zy.wait zy.old (.slice sk zy.seen.length dk)) := CK22.out.later hb
        have MK23 : Hid (MB w23 pk kk sk dk zy) := MK22.out.later hb
        have TL23 : Hid (RdS w23 ay lg) := TL22.out.later hb
        have TG23 : Hid (RdS w23 ak lg) := TG22.out.later hb
        clear hb HB22 CM22 MM22 CX22 MX22 CW22 MW22 CZ22 MZ22 CT22 MT22 CY22 MY22 CK22 MK22 TL22 TG22
        obtain ⟨la, hla⟩ : ∃ la, (newM na nb).least = la := ⟨_, rfl⟩
        obtain ⟨lw, hlw⟩ : ∃ lw, (newM na nb).wait = lw := ⟨_, rfl⟩
        obtain ⟨nf, hnf⟩ : ∃ nf, newB na nb = nf := ⟨_, rfl⟩
        have hnn : (nf == nf) = true := by simp
        have HNI : Hid (∀ wx, Calls Try.prog 34 #[.int .i64 na, .int .i64 nb] wx fun e w' => e = .returned (.tuple #[.agg #[.slice none 0 0, .int .i64 la, .int .i64 lw, .int .i64 0, .slice none 0 0], .bool nf]) ∧ Below wx.heap.size wx w') := fun wx => by rw [← hla, ← hlw, ← hnf]; exact implNew_c na nb wx
        have HNS : Hid (∀ wx, Calls Try.prog 35 #[.int .i64 na, .int .i64 nb] wx fun e w' => e = .returned (.tuple #[.agg #[.slice none 0 0, .int .i64 la, .int .i64 lw, .int .i64 0, .slice none 0 0], .bool nf]) ∧ Below wx.heap.size wx w') := fun wx => by rw [← hla, ← hlw, ← hnf]; exact specNew_c na nb wx
        clear hla hlw hnf
        go_wp2_with fail
        refine (HNI.out _).mono ?_
        rintro e w24 ⟨rfl, hb⟩
        have HB24 : Hid (Below w.heap.size w w24) := HB23.out.trans (hb.mono HB23.out.size)
        clear hb HB23
        obtain ⟨_, _, _, hS3, hS4⟩ := box_same w24 (Value.slice none 0 0) la lw 0 (Value.slice none 0 0) 41
        obtain ⟨w25, hV25⟩ : ∃ V, w24.alloc (.cells #[.slice none 0 0, .int .i64 la, .int .i64 lw, .int .i64 0, .slice none 0 0] 41) = V := ⟨_, rfl⟩
        have hb : Below w24.heap.size w24 w25 := by rw [← hV25]; exact balloc w24 _
        have HB25 : Hid (Below w.heap.size w w25) := HB24.out.trans (hb.mono HB24.out.size)
        have Na25 : Hid (C5 w25 w24.heap.size (.slice none 0 0) la lw 0 (.slice none 0 0)) := by show C5 _ _ _ _ _ _ _; rw [← hV25]; exact c5_new _ _ _ _ _ _ _ _ rfl
        clear hb HB24
        rw [hV25] at hS3 hS4
        obtain ⟨⟨_, _, _, n3, n4⟩, nf⟩ := Na25.out
        have nf3 := nf 3
        have nf4 := nf 4
        clear nf
        go_wp2_with fail
        clear hV25 hS3 hS4 n3 n4 nf3 nf4
        refine (HNS.out _).mono ?_
        rintro e w26 ⟨rfl, hb⟩
        have HB26 : Hid (Below w.heap.size w w26) := HB25.out.trans (hb.mono HB25.out.size)
        have Na26 : Hid (C5 w26 w24.heap.size (.slice none 0 0) la lw 0 (.slice none 0 0)) := Na25.out.later hb
        clear hb HB25 Na25
        obtain ⟨_, _, _, hS3, hS4⟩ := box_same w26 (Value.slice none 0 0) la lw 0 (Value.slice none 0 0) 41
        obtain ⟨w27, hV27⟩ : ∃ V, w26.alloc (.cells #[.slice none 0 0, .int .i64 la, .int .i64 lw, .int .i64 0, .slice none 0 0] 41) = V := ⟨_, rfl⟩
        have hb : Below w26.heap.size w26 w27 := by rw [← hV27]; exact balloc w26 _
        have HB27 : Hid (Below w.heap.size w w27) := HB26.out.trans (hb.mono HB26.out.size)
        have Na27 : Hid (C5 w27 w24.heap.size (.slice none 0 0) la lw 0 (.slice none 0 0)) := Na26.out.later hb
        have Nb27 : Hid (C5 w27 w26.heap.size (.slice none 0 0) la lw 0 (.slice none 0 0)) := by show C5 _ _ _ _ _ _ _; rw [← hV27]; exact c5_new _ _ _ _ _ _ _ _ rfl
        clear hb HB26 Na26
        rw [hV27] at hS3 hS4
        obtain ⟨⟨_, _, _, n3, n4⟩, nf⟩ := Nb27.out
        have nf3 := nf 3
        have nf4 := nf 4
        clear nf
        go_wp2_with fail
        clear hV27 hS3 hS4 n3 n4 nf3 nf4
        refine (drawTag_c bo m d _ hm (codeOk9 HM.out HB27.out)).mono ?_
        rintro e w28 ⟨tg, rfl, htg, hb⟩
        have HB28 : Hid (Below w.heap.size w w28) := HB27.out.trans (hb.mono HB27.out.size)
        have Na28 : Hid (C5 w28 w24.heap.size (.slice none 0 0) la lw 0 (.slice none 0 0)) := Na27.out.later hb
        have Nb28 : Hid (C5 w28 w26.heap.size (.slice none 0 0) la lw 0 (.slice none 0 0)) := Nb27.out.later hb
        clear hb HB27 Na27 Nb27
        obtain ⟨tn, tf, hTG⟩ : ∃ tn tf, tagF tg = (tn, tf) := ⟨_, _, rfl⟩
        have htt : (tf == tf) = true := by simp
        have htn : (tn == tn) = true := by simp
        have q1 := fun wx => implTag_c tg wx (by omega) tn tf hTG
        have q2 := fun wx => specTag_c tg wx (by omega) tn tf hTG
        clear hTG
        go_wp2_with fail
        refine (q1 _).mono ?_
        rintro e w' ⟨rfl, hw⟩
        subst w'
        go_wp2_with fail
        refine (q2 _).mono ?_
        rintro e w' ⟨rfl, hw⟩
        subst w'
        obtain ⟨⟨ua0, ua1, ua2, ua3, ua4⟩, _⟩ := Na28.out
        obtain ⟨⟨ub0, ub1, ub2, ub3, ub4⟩, _⟩ := Nb28.out
        clear q1 q2
        go_wp2_with fail
        refine (sameMix_c none none none none 0 0 0 0 0 0 la lw 0 [] [] _ rfl rfl (by omega) (by omega) (Or.inl rfl) (Or.inl rfl) (Or.inl rfl) (Or.inl rfl)).mono ?_
        rintro e w29 ⟨rfl, hb⟩
        have HB29 : Hid (Below w.heap.size w w29) := HB28.out.trans (hb.mono HB28.out.size)
        have Na29 : Hid (C5 w29 w24.heap.size (.slice none 0 0) la lw 0 (.slice none 0 0)) := Na28.out.later hb
        have Nb29 : Hid (C5 w29 w26.heap.size (.slice none 0 0) la lw 0 (.slice none 0 0)) := Nb28.out.later hb
        clear hb HB28 Na28 Nb28
        go_wp2
        go_ret
        exact ⟨rfl, HB29.out⟩
      · subst hf
        have HGY : Hid (goodB zy = true) := hgy
        clear hgy
        rcases hq with ⟨hq1, hq2⟩ | ⟨hq1, hq2, hq3⟩
        · have HQ2 : Hid (zy.pool = zt.pool) := hq2
          obtain rfl : q9 = 0 := by rw [← HQ9.out, hq1]; rfl
          clear hq1 hq2
          obtain ⟨⟨uY0, uY1, uY2, uY3, uY4⟩, _⟩ := CY22.out
          go_wp2_with fail
          refine (implGoodQ MY22.out HSY.out HY9.out HGY.out).mono ?_
          rintro e w23 ⟨rfl, hb⟩
          have HB23 : Hid (Below w.heap.size w w23) := HB22.out.trans (hb.mono HB22.out.size)
          have CM23 : Hid (C5 w23 w1.heap.size (.slice pm zm.pool.length km) zm.least zm.wait zm.old (.slice sm zm.seen.length dm)) := CM22.out.later hb
          have MM23 : Hid (MB w23 pm km sm dm zm) := MM22.out.later hb
          have CX23 : Hid (C5 w23 w3.heap.size (.slice px zx.pool.length kx) zx.least zx.wait zx.old (.slice sx zx.seen.length dx)) := CX22.out.later hb
          have MX23 : Hid (MB w23 px kx sx dx zx) := MX22.out.later hb
          have CW23 : Hid (C5 w23 w5.heap.size (.slice pw zx.pool.length kw) zx.least zx.wait zx.old (.slice sw zx.seen.length dw)) := CW22.out.later hb
          have MW23 : Hid (MB w23 pw kw sw dw zx) := MW22.out.later hb
          have CZ23 : Hid (C5 w23 w11.heap.size (.slice pz zx.pool.length kz) zx.least zx.wait zx.old (.slice sz zx.seen.length dz)) := CZ22.out.later hb
          have MZ23 : Hid (MB w23 pz kz sz dz zx) := MZ22.out.later hb
          have CT23 : Hid (C5 w23 w15.heap.size (.slice pt zt.pool.length kt) zt.least zt.wait zt.old (.slice st zt.seen.length dt)) := CT22.out.later hb
          have MT23 : Hid (MB w23 pt kt st dt zt) := MT22.out.later hb
          have CY23 : Hid (C5 w23 w17.heap.size (.slice py y9 ky) zy.least zy.wait zy.old (.slice sy zy.seen.length dy)) := CY22.out.later hb
          have MY23 : Hid (MB w23 py ky sy dy zy) := MY22.out.later hb
          have CK23 : Hid (C5 w23 w19.heap.size (.slice pk y9 kk) zy.least zy.wait zy.old (.slice sk zy.seen.length dk)) := CK22.out.later hb
          have MK23 : Hid (MB w23 pk kk sk dk zy) := MK22.out.later hb
          have TL23 : Hid (RdS w23 ay lg) := TL22.out.later hb
          have TG23 : Hid (RdS w23 ak lg) := TG22.out.later hb
          clear hb HB22 CM22 MM22 CX22 MX22 CW22 MW22 CZ22 MZ22 CT22 MT22 CY22 MY22 CK22 MK22 TL22 TG22 uY0 uY1 uY2 uY3 uY4
          obtain ⟨⟨uY0, uY1, uY2, uY3, uY4⟩, _⟩ := CY23.out
          obtain ⟨⟨uT0, uT1, uT2, uT3, uT4⟩, _⟩ := CT23.out
          go_wp2_with fail
          refine (sameTextsQ MY23.out.rd MT23.out.rd HQ2.out HY9.out rfl hly).mono ?_
          rintro e w24 ⟨rfl, hb⟩
          have HB24 : Hid (Below w.heap.size w w24) := HB23.out.trans (hb.mono HB23.out.size)
          have CM24 : Hid (C5 w24 w1.heap.size (.slice pm zm.pool.length km) zm.least zm.wait zm.old (.slice sm zm.seen.length dm)) := CM23.out.later hb
          have MM24 : Hid (MB w24 pm km sm dm zm) := MM23.out.later hb
          have CX24 : Hid (C5 w24 w3.heap.size (.slice px zx.pool.length kx) zx.least zx.wait zx.old (.slice sx zx.seen.length dx)) := CX23.out.later hb
          have MX24 : Hid (MB w24 px kx sx dx zx) := MX23.out.later hb
          have CW24 : Hid (C5 w24 w5.heap.size (.slice pw zx.pool.length kw) zx.least zx.wait zx.old (.slice sw zx.seen.length dw)) := CW23.out.later hb
          have MW24 : Hid (MB w24 pw kw sw dw zx) := MW23.out.later hb
          have CZ24 : Hid (C5 w24 w11.heap.size (.slice pz zx.pool.length kz) zx.least zx.wait zx.old (.slice sz zx.seen.length dz)) := CZ23.out.later hb
          have MZ24 : Hid (MB w24 pz kz sz dz zx) := MZ23.out.later hb
          have CT24 : Hid (C5 w24 w15.heap.size (.slice pt zt.pool.length kt) zt.least zt.wait zt.old (.slice st zt.seen.length dt)) := CT23.out.later hb
          have MT24 : Hid (MB w24 pt kt st dt zt) := MT23.out.later hb
          have CY24 : Hid (C5 w24 w17.heap.size (.slice py y9 ky) zy.least zy.wait zy.old (.slice sy zy.seen.length dy)) := CY23.out.later hb
          have MY24 : Hid (MB w24 py ky sy dy zy) := MY23.out.later hb
          have CK24 : Hid (C5 w24 w19.heap.size (.slice pk y9 kk) zy.least zy.wait zy.old (.slice sk zy.seen.length dk)) := CK23.out.later hb
          have MK24 : Hid (MB w24 pk kk sk dk zy) := MK23.out.later hb
          have TL24 : Hid (RdS w24 ay lg) := TL23.out.later hb
          have TG24 : Hid (RdS w24 ak lg) := TG23.out.later hb
          clear hb HB23 CM23 MM23 CX23 MX23 CW23 MW23 CZ23 MZ23 CT23 MT23 CY23 MY23 CK23 MK23 TL23 TG23 uY0 uY1 uY2 uY3 uY4 uT0 uT1 uT2 uT3 uT4
          go_wp2_with fail
          refine (drawNew_c bo m d _ hm (codeOk9 HM.out HB24.out)).mono ?_
          rintro e w25 ⟨na, nb, rfl, hb⟩
          have HB25 : Hid (Below w.heap.size w w25) := HB24.out.trans (hb.mono HB24.out.size)
          have CM25 : Hid (C5 w25 w1.heap.size (.slice pm zm.pool.length km) zm.least zm.wait zm.old (.slice sm zm.seen.length dm)) := CM24.out.later hb
          have MM25 : Hid (MB w25 pm km sm dm zm) := MM24.out.later hb
          have CX25 : Hid (C5 w25 w3.heap.size (.slice px zx.pool.length kx) zx.least zx.wait zx.old (.slice sx zx.seen.length dx)) := CX24.out.later hb
          have MX25 : Hid (MB w25 px kx sx dx zx) := MX24.out.later hb
          have CW25 : Hid (C5 w25 w5.heap.size (.slice pw zx.pool.length kw) zx.least zx.wait zx.old (.slice sw zx.seen.length dw)) := CW24.out.later hb
          have MW25 : Hid (MB w25 pw kw sw dw zx) := MW24.out.later hb
          have CZ25 : Hid (C5 w25 w11.heap.size (.slice pz zx.pool.length kz) zx.least zx.wait zx.old (.slice sz zx.seen.length dz)) := CZ24.out.later hb
          have MZ25 : Hid (MB w25 pz kz sz dz zx) := MZ24.out.later hb
          have CT25 : Hid (C5 w25 w15.heap.size (.slice pt zt.pool.length kt) zt.least zt.wait zt.old (.slice st zt.seen.length dt)) := CT24.out.later hb
          have MT25 : Hid (MB w25 pt kt st dt zt) := MT24.out.later hb
          have CY25 : Hid (C5 w25 w17.heap.size (.slice py y9 ky) zy.least zy.wait zy.old (.slice sy zy.seen.length dy)) := CY24.out.later hb
          have MY25 : Hid (MB w25 py ky sy dy zy) := MY24.out.later hb
          have CK25 : Hid (C5 w25 w19.heap.size (.slice pk y9 kk) zy.least zy.wait zy.old (.slice sk zy.seen.length dk)) := CK24.out.later hb
          have MK25 : Hid (MB w25 pk kk sk dk zy) := MK24.out.later hb
          have TL25 : Hid (RdS w25 ay lg) := TL24.out.later hb
          have TG25 : Hid (RdS w25 ak lg) := TG24.out.later hb
          clear hb HB24 CM24 MM24 CX24 MX24 CW24 MW24 CZ24 MZ24 CT24 MT24 CY24 MY24 CK24 MK24 TL24 TG24
          obtain ⟨la, hla⟩ : ∃ la, (newM na nb).least = la := ⟨_, rfl⟩
          obtain ⟨lw, hlw⟩ : ∃ lw, (newM na nb).wait = lw := ⟨_, rfl⟩
          obtain ⟨nf, hnf⟩ : ∃ nf, newB na nb = nf := ⟨_, rfl⟩
          have hnn : (nf == nf) = true := by simp
          have HNI : Hid (∀ wx, Calls Try.prog 34 #[.int .i64 na, .int .i64 nb] wx fun e w' => e = .returned (.tuple #[.agg #[.slice none 0 0, .int .i64 la, .int .i64 lw, .int .i64 0, .slice none 0 0], .bool nf]) ∧ Below wx.heap.size wx w') := fun wx => by rw [← hla, ← hlw, ← hnf]; exact implNew_c na nb wx
          have HNS : Hid (∀ wx, Calls Try.prog 35 #[.int .i64 na, .int .i64 nb] wx fun e w' => e = .returned (.tuple #[.agg #[.slice none 0 0, .int .i64 la, .int .i64 lw, .int .i64 0, .slice none 0 0], .bool nf]) ∧ Below wx.heap.size wx w') := fun wx => by rw [← hla, ← hlw, ← hnf]; exact specNew_c na nb wx
          clear hla hlw hnf
          go_wp2_with fail
          refine (HNI.out _).mono ?_
          rintro e w26 ⟨rfl, hb⟩
          have HB26 : Hid (Below w.heap.size w w26) := HB25.out.trans (hb.mono HB25.out.size)
          clear hb HB25
          obtain ⟨_, _, _, hS3, hS4⟩ := box_same w26 (Value.slice none 0 0) la lw 0 (Value.slice none 0 0) 41
          obtain ⟨w27, hV27⟩ : ∃ V, w26.alloc (.cells #[.slice none 0 0, .int .i64 la, .int .i64 lw, .int .i64 0, .slice none 0 0] 41) = V := ⟨_, rfl⟩
          have hb : Below w26.heap.size w26 w27 := by rw [← hV27]; exact balloc w26 _
          have HB27 : Hid (Below w.heap.size w w27) := HB26.out.trans (hb.mono HB26.out.size)
          have Na27 : Hid (C5 w27 w26.heap.size (.slice none 0 0) la lw 0 (.slice none 0 0)) := by show C5 _ _ _ _ _ _ _; rw [← hV27]; exact c5_new _ _ _ _ _ _ _ _ rfl
          clear hb HB26
          rw [hV27] at hS3 hS4
          obtain ⟨⟨_, _, _, n3, n4⟩, nf⟩ := Na27.out
          have nf3 := nf 3
          have nf4 := nf 4
          clear nf
          go_wp2_with fail
          clear hV27 hS3 hS4 n3 n4 nf3 nf4
          refine (HNS.out _).mono ?_
          rintro e w28 ⟨rfl, hb⟩
          have HB28 : Hid (Below w.heap.size w w28) := HB27.out.trans (hb.mono HB27.out.size)
          have Na28 : Hid (C5 w28 w26.heap.size (.slice none 0 0) la lw 0 (.slice none 0 0)) := Na27.out.later hb
          clear hb HB27 Na27
          obtain ⟨_, _, _, hS3, hS4⟩ := box_same w28 (Value.slice none 0 0) la lw 0 (Value.slice none 0 0) 41
          obtain ⟨w29, hV29⟩ : ∃ V, w28.alloc (.cells #[.slice none 0 0, .int .i64 la, .int .i64 lw, .int .i64 0, .slice none 0 0] 41) = V := ⟨_, rfl⟩
          have hb : Below w28.heap.size w28 w29 := by rw [← hV29]; exact balloc w28 _
          have HB29 : Hid (Below w.heap.size w w29) := HB28.out.trans (hb.mono HB28.out.size)
          have Na29 : Hid (C5 w29 w26.heap.size (.slice none 0 0) la lw 0 (.slice none 0 0)) := Na28.out.later hb
          have Nb29 : Hid (C5 w29 w28.heap.size (.slice none 0 0) la lw 0 (.slice none 0 0)) := by show C5 _ _ _ _ _ _ _; rw [← hV29]; exact c5_new _ _ _ _ _ _ _ _ rfl
          clear hb HB28 Na28
          rw [hV29] at hS3 hS4
          obtain ⟨⟨_, _, _, n3, n4⟩, nf⟩ := Nb29.out
          have nf3 := nf 3
          have nf4 := nf 4
          clear nf
          go_wp2_with fail
          clear hV29 hS3 hS4 n3 n4 nf3 nf4
          refine (drawTag_c bo m d _ hm (codeOk9 HM.out HB29.out)).mono ?_
          rintro e w30 ⟨tg, rfl, htg, hb⟩
          have HB30 : Hid (Below w.heap.size w w30) := HB29.out.trans (hb.mono HB29.out.size)
          have Na30 : Hid (C5 w30 w26.heap.size (.slice none 0 0) la lw 0 (.slice none 0 0)) := Na29.out.later hb
          have Nb30 : Hid (C5 w30 w28.heap.size (.slice none 0 0) la lw 0 (.slice none 0 0)) := Nb29.out.later hb
          clear hb HB29 Na29 Nb29
          obtain ⟨tn, tf, hTG⟩ : ∃ tn tf, tagF tg = (tn, tf) := ⟨_, _, rfl⟩
          have htt : (tf == tf) = true := by simp
          have htn : (tn == tn) = true := by simp
          have q1 := fun wx => implTag_c tg wx (by omega) tn tf hTG
          have q2 := fun wx => specTag_c tg wx (by omega) tn tf hTG
          clear hTG
          go_wp2_with fail
          refine (q1 _).mono ?_
          rintro e w' ⟨rfl, hw⟩
          subst w'
          go_wp2_with fail
          refine (q2 _).mono ?_
          rintro e w' ⟨rfl, hw⟩
          subst w'
          obtain ⟨⟨ua0, ua1, ua2, ua3, ua4⟩, _⟩ := Na30.out
          obtain ⟨⟨ub0, ub1, ub2, ub3, ub4⟩, _⟩ := Nb30.out
          clear q1 q2
          go_wp2_with fail
          refine (sameMix_c none none none none 0 0 0 0 0 0 la lw 0 [] [] _ rfl rfl (by omega) (by omega) (Or.inl rfl) (Or.inl rfl) (Or.inl rfl) (Or.inl rfl)).mono ?_
          rintro e w31 ⟨rfl, hb⟩
          have HB31 : Hid (Below w.heap.size w w31) := HB30.out.trans (hb.mono HB30.out.size)
          have Na31 : Hid (C5 w31 w26.heap.size (.slice none 0 0) la lw 0 (.slice none 0 0)) := Na30.out.later hb
          have Nb31 : Hid (C5 w31 w28.heap.size (.slice none 0 0) la lw 0 (.slice none 0 0)) := Nb30.out.later hb
          clear hb HB30 Na30 Nb30
          go_wp2
          go_ret
          exact ⟨rfl, HB31.out⟩
        · have HQ3 : Hid (lg = zt.pool) := hq3
          have hl0 : 0 < q9 := by rw [← HQ9.out]; exact List.length_pos_iff.2 hq1
          obtain rfl : y9 = 0 := by rw [← HY9.out, hq2]; rfl
          have hl1 : ((q9 : Int) == 0) = false := by rw [beq_eq_false_iff_ne]; omega
          have hl2 : (0 : Int) < (q9 : Int) := by omega
          clear hq1 hq2 hq3
          obtain ⟨⟨uY0, uY1, uY2, uY3, uY4⟩, _⟩ := CY22.out
          go_wp2_with fail
          refine (implGoodQ MY22.out HSY.out HY9.out HGY.out).mono ?_
          rintro e w23 ⟨rfl, hb⟩
          have HB23 : Hid (Below w.heap.size w w23) := HB22.out.trans (hb.mono HB22.out.size)
          have CM23 : Hid (C5 w23 w1.heap.size (.slice pm zm.pool.length km) zm.least zm.wait zm.old (.slice sm zm.seen.length dm)) := CM22.out.later hb
          have MM23 : Hid (MB w23 pm km sm dm zm) := MM22.out.later hb
          have CX23 : Hid (C5 w23 w3.heap.size (.slice px zx.pool.length kx) zx.least zx.wait zx.old (.slice sx zx.seen.length dx)) := CX22.out.later hb
          have MX23 : Hid (MB w23 px kx sx dx zx) := MX22.out.later hb
          have CW23 : Hid (C5 w23 w5.heap.size (.slice pw zx.pool.length kw) zx.least zx.wait zx.old (.slice sw zx.seen.length dw)) := CW22.out.later hb
          have MW23 : Hid (MB w23 pw kw sw dw zx) := MW22.out.later hb
          have CZ23 : Hid (C5 w23 w11.heap.size (.slice pz zx.pool.length kz) zx.least zx.wait zx.old (.slice sz zx.seen.length dz)) := CZ22.out.later hb
          have MZ23 : Hid (MB w23 pz kz sz dz zx) := MZ22.out.later hb
          have CT23 : Hid (C5 w23 w15.heap.size (.slice pt zt.pool.length kt) zt.least zt.wait zt.old (.slice st zt.seen.length dt)) := CT22.out.later hb
          have MT23 : Hid (MB w23 pt kt st dt zt) := MT22.out.later hb
          have CY23 : Hid (C5 w23 w17.heap.size (.slice py 0 ky) zy.least zy.wait zy.old (.slice sy zy.seen.length dy)) := CY22.out.later hb
          have MY23 : Hid (MB w23 py ky sy dy zy) := MY22.out.later hb
          have CK23 : Hid (C5 w23 w19.heap.size (.slice pk 0 kk) zy.least zy.wait zy.old (.slice sk zy.seen.length dk)) := CK22.out.later hb
          have MK23 : Hid (MB w23 pk kk sk dk zy) := MK22.out.later hb
          have TL23 : Hid (RdS w23 ay lg) := TL22.out.later hb
          have TG23 : Hid (RdS w23 ak lg) := TG22.out.later hb
          clear hb HB22 CM22 MM22 CX22 MX22 CW22 MW22 CZ22 MZ22 CT22 MT22 CY22 MY22 CK22 MK22 TL22 TG22 uY0 uY1 uY2 uY3 uY4
          obtain ⟨⟨uY0, uY1, uY2, uY3, uY4⟩, _⟩ := CY23.out
          obtain ⟨⟨uT0, uT1, uT2, uT3, uT4⟩, _⟩ := CT23.out
          go_wp2_with fail
          refine (sameTextsQ TL23.out MT23.out.rd HQ3.out HQ9.out rfl hlg).mono ?_
          rintro e w24 ⟨rfl, hb⟩
          have HB24 : Hid (Below w.heap.size w w24) := HB23.out.trans (hb.mono HB23.out.size)
          have CM24 : Hid (C5 w24 w1.heap.size (.slice pm zm.pool.length km) zm.least zm.wait zm.old (.slice sm zm.seen.length dm)) := CM23.out.later hb
          have MM24 : Hid (MB w24 pm km sm dm zm) := MM23.out.later hb
          have CX24 : Hid (C5 w24 w3.heap.size (.slice px zx.pool.length kx) zx.least zx.wait zx.old (.slice sx zx.seen.length dx)) := CX23.out.later hb
          have MX24 : Hid (MB w24 px kx sx dx zx) := MX23.out.later hb
          have CW24 : Hid (C5 w24 w5.heap.size (.slice pw zx.pool.length kw) zx.least zx.wait zx.old (.slice sw zx.seen.length dw)) := CW23.out.later hb
          have MW24 : Hid (MB w24 pw kw sw dw zx) := MW23.out.later hb
          have CZ24 : Hid (C5 w24 w11.heap.size (.slice pz zx.pool.length kz) zx.least zx.wait zx.old (.slice sz zx.seen.length dz)) := CZ23.out.later hb
          have MZ24 : Hid (MB w24 pz kz sz dz zx) := MZ23.out.later hb
          have CT24 : Hid (C5 w24 w15.heap.size (.slice pt zt.pool.length kt) zt.least zt.wait zt.old (.slice st zt.seen.length dt)) := CT23.out.later hb
          have MT24 : Hid (MB w24 pt kt st dt zt) := MT23.out.later hb
          have CY24 : Hid (C5 w24 w17.heap.size (.slice py 0 ky) zy.least zy.wait zy.old (.slice sy zy.seen.length dy)) := CY23.out.later hb
          have MY24 : Hid (MB w24 py ky sy dy zy) := MY23.out.later hb
          have CK24 : Hid (C5 w24 w19.heap.size (.slice pk 0 kk) zy.least zy.wait zy.old (.slice sk zy.seen.length dk)) := CK23.out.later hb
          have MK24 : Hid (MB w24 pk kk sk dk zy) := MK23.out.later hb
          have TL24 : Hid (RdS w24 ay lg) := TL23.out.later hb
          have TG24 : Hid (RdS w24 ak lg) := TG23.out.later hb
          clear hb HB23 CM23 MM23 CX23 MX23 CW23 MW23 CZ23 MZ23 CT23 MT23 CY23 MY23 CK23 MK23 TL23 TG23 uY0 uY1 uY2 uY3 uY4 uT0 uT1 uT2 uT3 uT4
          go_wp2_with fail
          refine (drawNew_c bo m d _ hm (codeOk9 HM.out HB24.out)).mono ?_
          rintro e w25 ⟨na, nb, rfl, hb⟩
          have HB25 : Hid (Below w.heap.size w w25) := HB24.out.trans (hb.mono HB24.out.size)
          have CM25 : Hid (C5 w25 w1.heap.size (.slice pm zm.pool.length km) zm.least zm.wait zm.old (.slice sm zm.seen.length dm)) := CM24.out.later hb
          have MM25 : Hid (MB w25 pm km sm dm zm) := MM24.out.later hb
          have CX25 : Hid (C5 w25 w3.heap.size (.slice px zx.pool.length kx) zx.least zx.wait zx.old (.slice sx zx.seen.length dx)) := CX24.out.later hb
          have MX25 : Hid (MB w25 px kx sx dx zx) := MX24.out.later hb
          have CW25 : Hid (C5 w25 w5.heap.size (.slice pw zx.pool.length kw) zx.least zx.wait zx.old (.slice sw zx.seen.length dw)) := CW24.out.later hb
          have MW25 : Hid (MB w25 pw kw sw dw zx) := MW24.out.later hb
          have CZ25 : Hid (C5 w25 w11.heap.size (.slice pz zx.pool.length kz) zx.least zx.wait zx.old (.slice sz zx.seen.length dz)) := CZ24.out.later hb
          have MZ25 : Hid (MB w25 pz kz sz dz zx) := MZ24.out.later hb
          have CT25 : Hid (C5 w25 w15.heap.size (.slice pt zt.pool.length kt) zt.least zt.wait zt.old (.slice st zt.seen.length dt)) := CT24.out.later hb
          have MT25 : Hid (MB w25 pt kt st dt zt) := MT24.out.later hb
          have CY25 : Hid (C5 w25 w17.heap.size (.slice py 0 ky) zy.least zy.wait zy.old (.slice sy zy.seen.length dy)) := CY24.out.later hb
          have MY25 : Hid (MB w25 py ky sy dy zy) := MY24.out.later hb
          have CK25 : Hid (C5 w25 w19.heap.size (.slice pk 0 kk) zy.least zy.wait zy.old (.slice sk zy.seen.length dk)) := CK24.out.later hb
          have MK25 : Hid (MB w25 pk kk sk dk zy) := MK24.out.later hb
          have TL25 : Hid (RdS w25 ay lg) := TL24.out.later hb
          have TG25 : Hid (RdS w25 ak lg) := TG24.out.later hb
          clear hb HB24 CM24 MM24 CX24 MX24 CW24 MW24 CZ24 MZ24 CT24 MT24 CY24 MY24 CK24 MK24 TL24 TG24
          obtain ⟨la, hla⟩ : ∃ la, (newM na nb).least = la := ⟨_, rfl⟩
          obtain ⟨lw, hlw⟩ : ∃ lw, (newM na nb).wait = lw := ⟨_, rfl⟩
          obtain ⟨nf, hnf⟩ : ∃ nf, newB na nb = nf := ⟨_, rfl⟩
          have hnn : (nf == nf) = true := by simp
          have HNI : Hid (∀ wx, Calls Try.prog 34 #[.int .i64 na, .int .i64 nb] wx fun e w' => e = .returned (.tuple #[.agg #[.slice none 0 0, .int .i64 la, .int .i64 lw, .int .i64 0, .slice none 0 0], .bool nf]) ∧ Below wx.heap.size wx w') := fun wx => by rw [← hla, ← hlw, ← hnf]; exact implNew_c na nb wx
          have HNS : Hid (∀ wx, Calls Try.prog 35 #[.int .i64 na, .int .i64 nb] wx fun e w' => e = .returned (.tuple #[.agg #[.slice none 0 0, .int .i64 la, .int .i64 lw, .int .i64 0, .slice none 0 0], .bool nf]) ∧ Below wx.heap.size wx w') := fun wx => by rw [← hla, ← hlw, ← hnf]; exact specNew_c na nb wx
          clear hla hlw hnf
          go_wp2_with fail
          refine (HNI.out _).mono ?_
          rintro e w26 ⟨rfl, hb⟩
          have HB26 : Hid (Below w.heap.size w w26) := HB25.out.trans (hb.mono HB25.out.size)
          clear hb HB25
          obtain ⟨_, _, _, hS3, hS4⟩ := box_same w26 (Value.slice none 0 0) la lw 0 (Value.slice none 0 0) 41
          obtain ⟨w27, hV27⟩ : ∃ V, w26.alloc (.cells #[.slice none 0 0, .int .i64 la, .int .i64 lw, .int .i64 0, .slice none 0 0] 41) = V := ⟨_, rfl⟩
          have hb : Below w26.heap.size w26 w27 := by rw [← hV27]; exact balloc w26 _
          have HB27 : Hid (Below w.heap.size w w27) := HB26.out.trans (hb.mono HB26.out.size)
          have Na27 : Hid (C5 w27 w26.heap.size (.slice none 0 0) la lw 0 (.slice none 0 0)) := by show C5 _ _ _ _ _ _ _; rw [← hV27]; exact c5_new _ _ _ _ _ _ _ _ rfl
          clear hb HB26
          rw [hV27] at hS3 hS4
          obtain ⟨⟨_, _, _, n3, n4⟩, nf⟩ := Na27.out
          have nf3 := nf 3
          have nf4 := nf 4
          clear nf
          go_wp2_with fail
          clear hV27 hS3 hS4 n3 n4 nf3 nf4
          refine (HNS.out _).mono ?_
          rintro e w28 ⟨rfl, hb⟩
          have HB28 : Hid (Below w.heap.size w w28) := HB27.out.trans (hb.mono HB27.out.size)
          have Na28 : Hid (C5 w28 w26.heap.size (.slice none 0 0) la lw 0 (.slice none 0 0)) := Na27.out.later hb
          clear hb HB27 Na27
          obtain ⟨_, _, _, hS3, hS4⟩ := box_same w28 (Value.slice none 0 0) la lw 0 (Value.slice none 0 0) 41
          obtain ⟨w29, hV29⟩ : ∃ V, w28.alloc (.cells #[.slice none 0 0, .int .i64 la, .int .i64 lw, .int .i64 0, .slice none 0 0] 41) = V := ⟨_, rfl⟩
          have hb : Below w28.heap.size w28 w29 := by rw [← hV29]; exact balloc w28 _
          have HB29 : Hid (Below w.heap.size w w29) := HB28.out.trans (hb.mono HB28.out.size)
          have Na29 : Hid (C5 w29 w26.heap.size (.slice none 0 0) la lw 0 (.slice none 0 0)) := Na28.out.later hb
          have Nb29 : Hid (C5 w29 w28.heap.size (.slice none 0 0) la lw 0 (.slice none 0 0)) := by show C5 _ _ _ _ _ _ _; rw [← hV29]; exact c5_new _ _ _ _ _ _ _ _ rfl
          clear hb HB28 Na28
          rw [hV29] at hS3 hS4
          obtain ⟨⟨_, _, _, n3, n4⟩, nf⟩ := Nb29.out
          have nf3 := nf 3
          have nf4 := nf 4
          clear nf
          go_wp2_with fail
          clear hV29 hS3 hS4 n3 n4 nf3 nf4
          refine (drawTag_c bo m d _ hm (codeOk9 HM.out HB29.out)).mono ?_
          rintro e w30 ⟨tg, rfl, htg, hb⟩
          have HB30 : Hid (Below w.heap.size w w30) := HB29.out.trans (hb.mono HB29.out.size)
          have Na30 : Hid (C5 w30 w26.heap.size (.slice none 0 0) la lw 0 (.slice none 0 0)) := Na29.out.later hb
          have Nb30 : Hid (C5 w30 w28.heap.size (.slice none 0 0) la lw 0 (.slice none 0 0)) := Nb29.out.later hb
          clear hb HB29 Na29 Nb29
          obtain ⟨tn, tf, hTG⟩ : ∃ tn tf, tagF tg = (tn, tf) := ⟨_, _, rfl⟩
          have htt : (tf == tf) = true := by simp
          have htn : (tn == tn) = true := by simp
          have q1 := fun wx => implTag_c tg wx (by omega) tn tf hTG
          have q2 := fun wx => specTag_c tg wx (by omega) tn tf hTG
          clear hTG
          go_wp2_with fail
          refine (q1 _).mono ?_
          rintro e w' ⟨rfl, hw⟩
          subst w'
          go_wp2_with fail
          refine (q2 _).mono ?_
          rintro e w' ⟨rfl, hw⟩
          subst w'
          obtain ⟨⟨ua0, ua1, ua2, ua3, ua4⟩, _⟩ := Na30.out
          obtain ⟨⟨ub0, ub1, ub2, ub3, ub4⟩, _⟩ := Nb30.out
          clear q1 q2
          go_wp2_with fail
          refine (sameMix_c none none none none 0 0 0 0 0 0 la lw 0 [] [] _ rfl rfl (by omega) (by omega) (Or.inl rfl) (Or.inl rfl) (Or.inl rfl) (Or.inl rfl)).mono ?_
          rintro e w31 ⟨rfl, hb⟩
          have HB31 : Hid (Below w.heap.size w w31) := HB30.out.trans (hb.mono HB30.out.size)
          have Na31 : Hid (C5 w31 w26.heap.size (.slice none 0 0) la lw 0 (.slice none 0 0)) := Na30.out.later hb
          have Nb31 : Hid (C5 w31 w28.heap.size (.slice none 0 0) la lw 0 (.slice none 0 0)) := Nb30.out.later hb
          clear hb HB30 Na30 Nb30
          go_wp2
          go_ret
          exact ⟨rfl, HB31.out⟩

end Go.Proofs.Ytnppmgnfignbcaa
