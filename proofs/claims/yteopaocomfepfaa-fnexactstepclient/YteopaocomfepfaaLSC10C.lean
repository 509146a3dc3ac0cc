/- The law on StepClient: region 27. -/
import Derived.Test.YteopaocomfepfaaLSB10
namespace Go.Proofs.Yteopaocomfepfaa
set_option linter.unusedVariables false
set_option maxRecDepth 1000000
set_option linter.unusedSimpArgs false
open Go.RowKit

noncomputable def stepReg27 : Code := fstSeq2 (sndSeq2 (sndSeq2 (sndSeq2 (sndSeq2 (sndSeq2 (sndSeq2 (sndSeq2 (sndSeq2 (sndSeq2 (sndSeq2 (sndSeq2 (sndSeq2 (sndSeq2 (sndSeq2 (sndSeq2 (sndSeq2 (sndSeq2 (sndSeq2 (sndSeq2 (sndSeq2 ((Try.f7.body.getD .skip))))))))))))))))))))))

set_option maxRecDepth 1000000 in
set_option maxHeartbeats 32000000 in
theorem stepReg27_w (f0 f1 f4 f5 f6 f7 f8 f9 f10 f11 f12 f13 f14 f15 f16 f17 f18 f19 f20 f21 f22 f23 f24 f25 f26 f27 f28 f29 f30 f31 f32 f33 f34 f35 f36 f37 f38 f39 f40 f41 f42 f43 f44 f45 f46 f47 f48 f49 f50 f51 f52 f53 f54 f55 f56 f57 f58 f59 f60 f61 f62 f63 f64 f65 f66 f67 f68 f69 f70 f71 f72 f73 f74 f75 f76 f77 f78 f79 f80 f81 f82 f83 f84 f85 f86 f87 f88 f89 f90 f91 f92 f93 f94 f95 f96 f97 f98 f99 f100 f101 f102 f103 f104 f105 f106 f107 f108 f109 f110 f111 f112 f113 f114 f115 f116 f117 f118 f119 f120 f121 f122 f123 f124 f125 f126 f127 f128 f129 f130 f131 f132 f133 f134 f135 f136 f137 f138 f139 f140 f141 f142 f143 f144 f145 f146 f147 f148 f149 f150 f151 f152 f153 : Value) (gA gT : Nat) (ao : Option Addr) (n c : Nat) (t y : Int) (xs : List ByteArray) (kk : Int) (s : ByteArray) (m : Nat) (Q : List ByteArray) (T Y e0r e1r e2r : Int) (tx : ByteArray) (ok : Bool) (K : Act → World → Prop) (w : World) (cA0 : X3 w gA (.slice ao n c) (.int .i64 t) (.int .i64 y)) (cT0 : X2 w gT (.int .i64 kk) (.string s)) (hx : xs.length = n) (hn : n ≤ 1048576) (hrp : RdS w ao xs) (qs : ∀ p' k' wx, n ≤ 1048576 → QOk wx p' n k' xs → Calls Try.prog 29 #[.agg #[.slice p' n k', .int .i64 t, .int .i64 y], .agg #[.int .i64 kk, .string s]] wx fun e w' => ∃ a' c', e = .returned (.tuple #[.agg #[.slice a' m c', .int .i64 T, .int .i64 Y], .agg #[.int .i64 e0r, .int .i64 e1r, .int .i64 e2r], .string tx, .bool ok]) ∧ OwnS w' wx.heap.size (.slice a' m c') Q ∧ Below wx.heap.size wx w')
    (hKK : ∀ (pA : Option Addr) (kA : Nat) (a3 : Option Addr) (d3 : Nat) (g8 g9 : Nat) (wx : World), X3 wx g8 (.slice a3 m d3) (.int .i64 T) (.int .i64 Y) → X3 wx g9 (.int .i64 e0r) (.int .i64 e1r) (.int .i64 e2r) → OwnS wx w.heap.size (.slice a3 m d3) Q → (∀ k, (Value.slice a3 m d3).ownBlock = some k → k ≠ g8 ∧ k ≠ g9) → w.heap.size ≤ g8 → w.heap.size ≤ g9 → g8 ≠ g9 → Below w.heap.size w wx → K ⟨#[f0, f1, .pointer (some ⟨gA, 0, none⟩), .pointer (some ⟨gT, 0, none⟩), f4, f5, f6, f7, f8, f9, f10, f11, f12, f13, f14, f15, f16, f17, .pointer (some ⟨g8, 0, none⟩), .pointer (some ⟨g9, 0, none⟩), .string tx, .bool ok, f22, f23, f24, f25, f26, f27, f28, f29, f30, f31, f32, f33, f34, f35, f36, f37, f38, f39, f40, f41, f42, f43, f44, f45, f46, f47, f48, f49, f50, f51, f52, f53, f54, f55, f56, f57, f58, f59, f60, f61, f62, f63, f64, f65, f66, f67, f68, f69, f70, f71, f72, f73, f74, f75, f76, f77, f78, f79, f80, f81, f82, f83, f84, f85, f86, f87, f88, f89, f90, f91, f92, f93, f94, f95, f96, f97, f98, f99, f100, f101, f102, f103, f104, f105, f106, f107, f108, f109, f110, f111, f112, f113, f114, f115, .tuple #[.agg #[.slice a3 m d3, .int .i64 T, .int .i64 Y], .agg #[.int .i64 e0r, .int .i64 e1r, .int .i64 e2r], .string tx, .bool ok], .agg #[.slice ao n c, .int .i64 t, .int .i64 y], .agg #[.slice pA n kA, .int .i64 t, .int .i64 y], .agg #[.int .i64 kk, .string s], .agg #[.int .i64 kk, .string s], .tuple #[.agg #[.slice a3 m d3, .int .i64 T, .int .i64 Y], .agg #[.int .i64 e0r, .int .i64 e1r, .int .i64 e2r], .string tx, .bool ok], .agg #[.slice a3 m d3, .int .i64 T, .int .i64 Y], .agg #[.int .i64 e0r, .int .i64 e1r, .int .i64 e2r], .string tx, .bool ok, f126, f127, f128, f129, f130, f131, f132, f133, f134, f135, f136, f137, f138, f139, f140, f141, f142, f143, f144, f145, f146, f147, f148, f149, f150, f151, f152, f153], []⟩ wx) :
    stepReg27.wp Try.prog (Exit.then K (fun _ _ _ => False)) ⟨#[f0, f1, .pointer (some ⟨gA, 0, none⟩), .pointer (some ⟨gT, 0, none⟩), f4, f5, f6, f7, f8, f9, f10, f11, f12, f13, f14, f15, f16, f17, f18, f19, f20, f21, f22, f23, f24, f25, f26, f27, f28, f29, f30, f31, f32, f33, f34, f35, f36, f37, f38, f39, f40, f41, f42, f43, f44, f45, f46, f47, f48, f49, f50, f51, f52, f53, f54, f55, f56, f57, f58, f59, f60, f61, f62, f63, f64, f65, f66, f67, f68, f69, f70, f71, f72, f73, f74, f75, f76, f77, f78, f79, f80, f81, f82, f83, f84, f85, f86, f87, f88, f89, f90, f91, f92, f93, f94, f95, f96, f97, f98, f99, f100, f101, f102, f103, f104, f105, f106, f107, f108, f109, f110, f111, f112, f113, f114, f115, f116, f117, f118, f119, f120, f121, f122, f123, f124, f125, f126, f127, f128, f129, f130, f131, f132, f133, f134, f135, f136, f137, f138, f139, f140, f141, f142, f143, f144, f145, f146, f147, f148, f149, f150, f151, f152, f153], []⟩ w := by
  have cA : Hid (X3 w gA (.slice ao n c) (.int .i64 t) (.int .i64 y)) := cA0
  have cT : Hid (X2 w gT (.int .i64 kk) (.string s)) := cT0
  simp only [stepReg27, Try.f7, Option.getD_some, sndSeq2, fstSeq2, unBlock2]
  have HB_0 : Hid (Below w.heap.size w w.drew) := (Below.refl _ _).drew
  refine wp_region_held_drew (S := (fun w' => w'.cell? ⟨gA, 0, none⟩ = some (.slice ao n c) ∧ w'.cell? ⟨gA, 1, none⟩ = some (.int .i64 t) ∧ w'.cell? ⟨gA, 2, none⟩ = some (.int .i64 y) ∧ w'.cell? ⟨gT, 0, none⟩ = some (.int .i64 kk) ∧ w'.cell? ⟨gT, 1, none⟩ = some (.string s))) (by kernel_rfl) ?_ (fun hHeld => ?_)
  · exact ⟨(cA.out.later (HB_0.out)).1.1, (cA.out.later (HB_0.out)).1.2.1, (cA.out.later (HB_0.out)).1.2.2, (cT.out.later (HB_0.out)).1.1, (cT.out.later (HB_0.out)).1.2⟩
  generalize w.drew = v0 at HB_0 hHeld ⊢
  refine take10 (i := 0) (oi := _) (v := ?_) (d := some 117) rfl (by kernel_rfl) (by kernel_rfl) (by kernel_rfl) (by kernel_rfl) (fun _ _ _ h => h) (Or.inl ⟨by rfl, ?_⟩) (by assumption) ?_
  rotate_left
  · (intro w hSw; (try dsimp only at hSw); go_simp <;> with_reducible rfl)
  try simp only [Act.put, List.setIfInBounds_toArray, List.set_cons_zero, List.set_cons_succ]
  refine take10 (i := 2) (oi := _) (v := ?_) (d := some 119) rfl (by kernel_rfl) (by kernel_rfl) (by kernel_rfl) (by kernel_rfl) (fun _ _ _ h => h) (Or.inl ⟨by rfl, ?_⟩) (by assumption) ?_
  rotate_left
  · (intro w hSw; (try dsimp only at hSw); go_simp <;> with_reducible rfl)
  try simp only [Act.put, List.setIfInBounds_toArray, List.set_cons_zero, List.set_cons_succ]
  refine wpAnyH_ready (rs := [1, 10, 11]) (by kernel_rfl) (by simp) ?_
  refine AllReadyH.cons (o := _) rfl (fun K hK => ?cw64) (AllReadyH.cons (o := _) rfl (fun K hK => ?cw65) (AllReadyH.cons (o := _) rfl (fun K hK => ?cw66) AllReadyH.nil))
  case' cw64 =>
    go_simp
    refine (toClient_c ao n c t y xs v0 hx (by omega) (hrp.later HB_0.out)).mono ?_
    rintro e v1 ⟨pA, kA, rfl, ho, hb⟩
    have HB_1 : Hid (Below w.heap.size w v1) := HB_0.out.trans (hb.mono HB_0.out.size)
    have PA_1 : Hid (OwnS v1 v0.heap.size (.slice pA n kA) xs) := ho
    have hz0 : v0.heap.size ≤ v1.heap.size := hb.size
    have hl0 : w.heap.size ≤ v0.heap.size := HB_0.out.size
    refine hK.out _ _ ?_ (fun hHeld => ?_)
    · exact ⟨(cA.out.later (HB_1.out)).1.1, (cA.out.later (HB_1.out)).1.2.1, (cA.out.later (HB_1.out)).1.2.2, (cT.out.later (HB_1.out)).1.1, (cT.out.later (HB_1.out)).1.2⟩
    clear hK K hb HB_0 
    try simp only [Act.put, List.setIfInBounds_toArray, List.set_cons_zero, List.set_cons_succ]
    refine wpAnyH_ready (rs := [3, 10, 11]) (by kernel_rfl) (by simp) ?_
    refine AllReadyH.cons (o := _) rfl (fun K hK => ?cw67) (AllReadyH.cons (o := _) rfl (fun K hK => ?cw68) (AllReadyH.cons (o := _) rfl (fun K hK => ?cw69) AllReadyH.nil))
    case' cw67 =>
      go_simp
      refine (toCoverStep_c kk s v1).mono ?_
      rintro e v2 ⟨rfl, hb⟩
      have HB_2 : Hid (Below w.heap.size w v2) := HB_1.out.trans (hb.mono HB_1.out.size)
      have PA_2 : Hid (OwnS v2 v0.heap.size (.slice pA n kA) xs) := PA_1.out.later hb
      have hz1 : v1.heap.size ≤ v2.heap.size := hb.size
      have hl1 : w.heap.size ≤ v1.heap.size := HB_1.out.size
      refine hK.out _ _ ?_ (fun hHeld => ?_)
      · exact ⟨(cA.out.later (HB_2.out)).1.1, (cA.out.later (HB_2.out)).1.2.1, (cA.out.later (HB_2.out)).1.2.2, (cT.out.later (HB_2.out)).1.1, (cT.out.later (HB_2.out)).1.2⟩
      clear hK K hb HB_1 PA_1
      try simp only [Act.put, List.setIfInBounds_toArray, List.set_cons_zero, List.set_cons_succ]
      refine wpAnyH_ready (rs := [4, 10, 11]) (by kernel_rfl) (by simp) ?_
      refine AllReadyH.cons (o := _) rfl (fun K hK => ?cw70) (AllReadyH.cons (o := _) rfl (fun K hK => ?cw71) (AllReadyH.cons (o := _) rfl (fun K hK => ?cw72) AllReadyH.nil))
      case' cw70 =>
        go_simp
        refine (qs pA kA v2 hn PA_2.out.ok).mono ?_
        rintro e v3 ⟨a3, d3, rfl, ho, hb⟩
        have HB_3 : Hid (Below w.heap.size w v3) := HB_2.out.trans (hb.mono HB_2.out.size)
        have PA_3 : Hid (OwnS v3 v0.heap.size (.slice pA n kA) xs) := PA_2.out.later hb
        have OO_3 : Hid (OwnS v3 v2.heap.size (Value.slice a3 m d3) Q) := ho
        have RW : Hid (∀ k, (Value.slice a3 m d3).ownBlock = some k → v2.heap.size ≤ k ∧ k < v3.heap.size) := World.ownsRow.lt ho
        have hz2 : v2.heap.size ≤ v3.heap.size := hb.size
        have hl2 : w.heap.size ≤ v2.heap.size := HB_2.out.size
        refine hK.out _ _ ?_ (fun hHeld => ?_)
        · exact ⟨(cA.out.later (HB_3.out)).1.1, (cA.out.later (HB_3.out)).1.2.1, (cA.out.later (HB_3.out)).1.2.2, (cT.out.later (HB_3.out)).1.1, (cT.out.later (HB_3.out)).1.2⟩
        clear hK K hb HB_2 PA_2
        try simp only [Act.put, List.setIfInBounds_toArray, List.set_cons_zero, List.set_cons_succ]
        refine take10 (i := 5) (oi := _) (v := ?_) (d := some 116) rfl (by kernel_rfl) (by kernel_rfl) (by kernel_rfl) (by kernel_rfl) (fun _ _ _ h => h) (Or.inl ⟨by rfl, ?_⟩) (by assumption) ?_
        rotate_left
        · (intro w hSw; (try dsimp only at hSw); go_simp <;> with_reducible rfl)
        try simp only [Act.put, List.setIfInBounds_toArray, List.set_cons_zero, List.set_cons_succ]
        refine take10 (i := 6) (oi := _) (v := ?_) (d := some 122) rfl (by kernel_rfl) (by kernel_rfl) (by kernel_rfl) (by kernel_rfl) (fun _ _ _ h => h) (Or.inl ⟨by rfl, ?_⟩) (by assumption) ?_
        rotate_left
        · (intro w hSw; (try dsimp only at hSw); go_simp <;> with_reducible rfl)
        try simp only [Act.put, List.setIfInBounds_toArray, List.set_cons_zero, List.set_cons_succ]
        refine take10 (i := 7) (oi := _) (v := ?_) (d := some 123) rfl (by kernel_rfl) (by kernel_rfl) (by kernel_rfl) (by kernel_rfl) (fun _ _ _ h => h) (Or.inl ⟨by rfl, ?_⟩) (by assumption) ?_
        rotate_left
        · (intro w hSw; (try dsimp only at hSw); go_simp <;> with_reducible rfl)
        try simp only [Act.put, List.setIfInBounds_toArray, List.set_cons_zero, List.set_cons_succ]
        refine take10 (i := 8) (oi := _) (v := ?_) (d := some 124) rfl (by kernel_rfl) (by kernel_rfl) (by kernel_rfl) (by kernel_rfl) (fun _ _ _ h => h) (Or.inl ⟨by rfl, ?_⟩) (by assumption) ?_
        rotate_left
        · (intro w hSw; (try dsimp only at hSw); go_simp <;> with_reducible rfl)
        try simp only [Act.put, List.setIfInBounds_toArray, List.set_cons_zero, List.set_cons_succ]
        refine take10 (i := 9) (oi := _) (v := ?_) (d := some 125) rfl (by kernel_rfl) (by kernel_rfl) (by kernel_rfl) (by kernel_rfl) (fun _ _ _ h => h) (Or.inl ⟨by rfl, ?_⟩) (by assumption) ?_
        rotate_left
        · (intro w hSw; (try dsimp only at hSw); go_simp <;> with_reducible rfl)
        try simp only [Act.put, List.setIfInBounds_toArray, List.set_cons_zero, List.set_cons_succ]
        refine wpAnyH_ready (rs := [10, 11]) (by kernel_rfl) (by simp) ?_
        refine AllReadyH.cons (o := _) rfl (fun K hK => ?cw73) (AllReadyH.cons (o := _) rfl (fun K hK => ?cw74) AllReadyH.nil)
        case' cw73 =>
          go_simp
          have hb : Below v3.heap.size v3 (v3.alloc (.cells #[.slice none 0 0, .int .i64 0, .int .i64 0] 45)) := balloc _ _
          have hN := x3_new v3 (.slice none 0 0) (.int .i64 0) (.int .i64 0) 45 v3.heap.size rfl
          have h_HB := HB_3.out.trans (hb.mono HB_3.out.size)
          have h_PA := PA_3.out.later hb
          have h_OO := OO_3.out.later hb
          refine hK.out _ _ ?_ (fun hHeld => ?_)
          · exact ⟨(cA.out.later (h_HB)).1.1, (cA.out.later (h_HB)).1.2.1, (cA.out.later (h_HB)).1.2.2, (cT.out.later (h_HB)).1.1, (cT.out.later (h_HB)).1.2⟩
          clear hK K
          try simp only [Act.put, List.setIfInBounds_toArray, List.set_cons_zero, List.set_cons_succ]
          generalize (v3.alloc (.cells #[.slice none 0 0, .int .i64 0, .int .i64 0] 45)) = v4 at hb hN hHeld h_HB h_PA h_OO ⊢
          have HB_4 : Hid (Below w.heap.size w v4) := h_HB
          have PA_4 : Hid (OwnS v4 v0.heap.size (.slice pA n kA) xs) := h_PA
          have OO_4 : Hid (OwnS v4 v2.heap.size (Value.slice a3 m d3) Q) := h_OO
          have G8_4 : Hid (X3 v4 v3.heap.size (.slice none 0 0) (.int .i64 0) (.int .i64 0)) := hN
          have hl3 : w.heap.size ≤ v3.heap.size := HB_3.out.size
          have hz3 : v3.heap.size < v4.heap.size := hN.lt
          clear hb hN h_HB HB_3 h_PA h_OO PA_3 OO_3
          refine wpAnyH_ready (rs := [11]) (by kernel_rfl) (by simp) ?_
          refine AllReadyH.cons (o := _) rfl (fun K hK => ?cw75) AllReadyH.nil
          case' cw75 =>
            go_simp
            have hb : Below v4.heap.size v4 (v4.alloc (.cells #[.int .i64 0, .int .i64 0, .int .i64 0] 52)) := balloc _ _
            have hN := x3_new v4 (.int .i64 0) (.int .i64 0) (.int .i64 0) 52 v4.heap.size rfl
            have h_HB := HB_4.out.trans (hb.mono HB_4.out.size)
            have h_PA := PA_4.out.later hb
            have h_OO := OO_4.out.later hb
            have h_G8 := G8_4.out.later hb
            refine hK.out _ _ ?_ (fun hHeld => ?_)
            · exact ⟨(cA.out.later (h_HB)).1.1, (cA.out.later (h_HB)).1.2.1, (cA.out.later (h_HB)).1.2.2, (cT.out.later (h_HB)).1.1, (cT.out.later (h_HB)).1.2⟩
            clear hK K
            try simp only [Act.put, List.setIfInBounds_toArray, List.set_cons_zero, List.set_cons_succ]
            generalize (v4.alloc (.cells #[.int .i64 0, .int .i64 0, .int .i64 0] 52)) = v5 at hb hN hHeld h_HB h_PA h_OO h_G8 ⊢
            have HB_5 : Hid (Below w.heap.size w v5) := h_HB
            have PA_5 : Hid (OwnS v5 v0.heap.size (.slice pA n kA) xs) := h_PA
            have OO_5 : Hid (OwnS v5 v2.heap.size (Value.slice a3 m d3) Q) := h_OO
            have G8_5 : Hid (X3 v5 v3.heap.size (.slice none 0 0) (.int .i64 0) (.int .i64 0)) := h_G8
            have G9_5 : Hid (X3 v5 v4.heap.size (.int .i64 0) (.int .i64 0) (.int .i64 0)) := hN
            have hl4 : w.heap.size ≤ v4.heap.size := HB_4.out.size
            have hz4 : v4.heap.size < v5.heap.size := hN.lt
            clear hb hN h_HB HB_4 h_PA h_OO h_G8 PA_4 OO_4 G8_4
            have XB := HB_5
            have X8 := G8_5
            have X9 := G9_5
            have XQ : Hid (OwnS v5 w.heap.size (Value.slice a3 m d3) Q) := OO_5.out.mono (by omega)
            have XR : Hid (∀ k, (Value.slice a3 m d3).ownBlock = some k → k ≠ v3.heap.size ∧ k ≠ v4.heap.size) := fun k hk => by have := RW.out k hk; omega
            have XN : v3.heap.size ≠ v4.heap.size := by omega
            have XL8 : w.heap.size ≤ v3.heap.size := by omega
            have XL9 : w.heap.size ≤ v4.heap.size := by omega
            clear RW HB_5 G8_5 G9_5 PA_5 OO_5
            clear hl0 hz0 hl1 hz1 hl2 hz2 hl3 hz3 hl4 hz4
            generalize v3.heap.size = g8 at X8 XR XN XL8 ⊢
            generalize v4.heap.size = g9 at X9 XR XN XL9 ⊢
            obtain ⟨V, rfl⟩ : ∃ V : World, V = v5 := ⟨_, rfl⟩
        case' cw74 =>
          go_simp
          have hb : Below v3.heap.size v3 (v3.alloc (.cells #[.int .i64 0, .int .i64 0, .int .i64 0] 52)) := balloc _ _
          have hN := x3_new v3 (.int .i64 0) (.int .i64 0) (.int .i64 0) 52 v3.heap.size rfl
          have h_HB := HB_3.out.trans (hb.mono HB_3.out.size)
          have h_PA := PA_3.out.later hb
          have h_OO := OO_3.out.later hb
          refine hK.out _ _ ?_ (fun hHeld => ?_)
          · exact ⟨(cA.out.later (h_HB)).1.1, (cA.out.later (h_HB)).1.2.1, (cA.out.later (h_HB)).1.2.2, (cT.out.later (h_HB)).1.1, (cT.out.later (h_HB)).1.2⟩
          clear hK K
          try simp only [Act.put, List.setIfInBounds_toArray, List.set_cons_zero, List.set_cons_succ]
          generalize (v3.alloc (.cells #[.int .i64 0, .int .i64 0, .int .i64 0] 52)) = v4 at hb hN hHeld h_HB h_PA h_OO ⊢
          have HB_4 : Hid (Below w.heap.size w v4) := h_HB
          have PA_4 : Hid (OwnS v4 v0.heap.size (.slice pA n kA) xs) := h_PA
          have OO_4 : Hid (OwnS v4 v2.heap.size (Value.slice a3 m d3) Q) := h_OO
          have G9_4 : Hid (X3 v4 v3.heap.size (.int .i64 0) (.int .i64 0) (.int .i64 0)) := hN
          have hl3 : w.heap.size ≤ v3.heap.size := HB_3.out.size
          have hz3 : v3.heap.size < v4.heap.size := hN.lt
          clear hb hN h_HB HB_3 h_PA h_OO PA_3 OO_3
          refine wpAnyH_ready (rs := [10]) (by kernel_rfl) (by simp) ?_
          refine AllReadyH.cons (o := _) rfl (fun K hK => ?cw76) AllReadyH.nil
          case' cw76 =>
            go_simp
            have hb : Below v4.heap.size v4 (v4.alloc (.cells #[.slice none 0 0, .int .i64 0, .int .i64 0] 45)) := balloc _ _
            have hN := x3_new v4 (.slice none 0 0) (.int .i64 0) (.int .i64 0) 45 v4.heap.size rfl
            have h_HB := HB_4.out.trans (hb.mono HB_4.out.size)
            have h_PA := PA_4.out.later hb
            have h_OO := OO_4.out.later hb
            have h_G9 := G9_4.out.later hb
            refine hK.out _ _ ?_ (fun hHeld => ?_)
            · exact ⟨(cA.out.later (h_HB)).1.1, (cA.out.later (h_HB)).1.2.1, (cA.out.later (h_HB)).1.2.2, (cT.out.later (h_HB)).1.1, (cT.out.later (h_HB)).1.2⟩
            clear hK K
            try simp only [Act.put, List.setIfInBounds_toArray, List.set_cons_zero, List.set_cons_succ]
            generalize (v4.alloc (.cells #[.slice none 0 0, .int .i64 0, .int .i64 0] 45)) = v5 at hb hN hHeld h_HB h_PA h_OO h_G9 ⊢
            have HB_5 : Hid (Below w.heap.size w v5) := h_HB
            have PA_5 : Hid (OwnS v5 v0.heap.size (.slice pA n kA) xs) := h_PA
            have OO_5 : Hid (OwnS v5 v2.heap.size (Value.slice a3 m d3) Q) := h_OO
            have G9_5 : Hid (X3 v5 v3.heap.size (.int .i64 0) (.int .i64 0) (.int .i64 0)) := h_G9
            have G8_5 : Hid (X3 v5 v4.heap.size (.slice none 0 0) (.int .i64 0) (.int .i64 0)) := hN
            have hl4 : w.heap.size ≤ v4.heap.size := HB_4.out.size
            have hz4 : v4.heap.size < v5.heap.size := hN.lt
            clear hb hN h_HB HB_4 h_PA h_OO h_G9 PA_4 OO_4 G9_4
            have XB := HB_5
            have X8 := G8_5
            have X9 := G9_5
            have XQ : Hid (OwnS v5 w.heap.size (Value.slice a3 m d3) Q) := OO_5.out.mono (by omega)
            have XR : Hid (∀ k, (Value.slice a3 m d3).ownBlock = some k → k ≠ v4.heap.size ∧ k ≠ v3.heap.size) := fun k hk => by have := RW.out k hk; omega
            have XN : v4.heap.size ≠ v3.heap.size := by omega
            have XL8 : w.heap.size ≤ v4.heap.size := by omega
            have XL9 : w.heap.size ≤ v3.heap.size := by omega
            clear RW HB_5 G8_5 G9_5 PA_5 OO_5
            clear hl0 hz0 hl1 hz1 hl2 hz2 hl3 hz3 hl4 hz4
            generalize v4.heap.size = g8 at X8 XR XN XL8 ⊢
            generalize v3.heap.size = g9 at X9 XR XN XL9 ⊢
            obtain ⟨V, rfl⟩ : ∃ V : World, V = v5 := ⟨_, rfl⟩
      case' cw71 =>
        go_simp
        have hb : Below v2.heap.size v2 (v2.alloc (.cells #[.slice none 0 0, .int .i64 0, .int .i64 0] 45)) := balloc _ _
        have hN := x3_new v2 (.slice none 0 0) (.int .i64 0) (.int .i64 0) 45 v2.heap.size rfl
        have h_HB := HB_2.out.trans (hb.mono HB_2.out.size)
        have h_PA := PA_2.out.later hb
        refine hK.out _ _ ?_ (fun hHeld => ?_)
        · exact ⟨(cA.out.later (h_HB)).1.1, (cA.out.later (h_HB)).1.2.1, (cA.out.later (h_HB)).1.2.2, (cT.out.later (h_HB)).1.1, (cT.out.later (h_HB)).1.2⟩
        clear hK K
        try simp only [Act.put, List.setIfInBounds_toArray, List.set_cons_zero, List.set_cons_succ]
        generalize (v2.alloc (.cells #[.slice none 0 0, .int .i64 0, .int .i64 0] 45)) = v3 at hb hN hHeld h_HB h_PA ⊢
        have HB_3 : Hid (Below w.heap.size w v3) := h_HB
        have PA_3 : Hid (OwnS v3 v0.heap.size (.slice pA n kA) xs) := h_PA
        have G8_3 : Hid (X3 v3 v2.heap.size (.slice none 0 0) (.int .i64 0) (.int .i64 0)) := hN
        have hl2 : w.heap.size ≤ v2.heap.size := HB_2.out.size
        have hz2 : v2.heap.size < v3.heap.size := hN.lt
        clear hb hN h_HB HB_2 h_PA PA_2
        refine wpAnyH_ready (rs := [4, 11]) (by kernel_rfl) (by simp) ?_
        refine AllReadyH.cons (o := _) rfl (fun K hK => ?cw77) (AllReadyH.cons (o := _) rfl (fun K hK => ?cw78) AllReadyH.nil)
        case' cw77 =>
          go_simp
          refine (qs pA kA v3 hn PA_3.out.ok).mono ?_
          rintro e v4 ⟨a3, d3, rfl, ho, hb⟩
          have HB_4 : Hid (Below w.heap.size w v4) := HB_3.out.trans (hb.mono HB_3.out.size)
          have PA_4 : Hid (OwnS v4 v0.heap.size (.slice pA n kA) xs) := PA_3.out.later hb
          have G8_4 : Hid (X3 v4 v2.heap.size (.slice none 0 0) (.int .i64 0) (.int .i64 0)) := G8_3.out.later hb
          have OO_4 : Hid (OwnS v4 v3.heap.size (Value.slice a3 m d3) Q) := ho
          have RW : Hid (∀ k, (Value.slice a3 m d3).ownBlock = some k → v3.heap.size ≤ k ∧ k < v4.heap.size) := World.ownsRow.lt ho
          have hz3 : v3.heap.size ≤ v4.heap.size := hb.size
          have hl3 : w.heap.size ≤ v3.heap.size := HB_3.out.size
          refine hK.out _ _ ?_ (fun hHeld => ?_)
          · exact ⟨(cA.out.later (HB_4.out)).1.1, (cA.out.later (HB_4.out)).1.2.1, (cA.out.later (HB_4.out)).1.2.2, (cT.out.later (HB_4.out)).1.1, (cT.out.later (HB_4.out)).1.2⟩
          clear hK K hb HB_3 PA_3 G8_3
          try simp only [Act.put, List.setIfInBounds_toArray, List.set_cons_zero, List.set_cons_succ]
          refine take10 (i := 5) (oi := _) (v := ?_) (d := some 116) rfl (by kernel_rfl) (by kernel_rfl) (by kernel_rfl) (by kernel_rfl) (fun _ _ _ h => h) (Or.inl ⟨by rfl, ?_⟩) (by assumption) ?_
          rotate_left
          · (intro w hSw; (try dsimp only at hSw); go_simp <;> with_reducible rfl)
          try simp only [Act.put, List.setIfInBounds_toArray, List.set_cons_zero, List.set_cons_succ]
          refine take10 (i := 6) (oi := _) (v := ?_) (d := some 122) rfl (by kernel_rfl) (by kernel_rfl) (by kernel_rfl) (by kernel_rfl) (fun _ _ _ h => h) (Or.inl ⟨by rfl, ?_⟩) (by assumption) ?_
          rotate_left
          · (intro w hSw; (try dsimp only at hSw); go_simp <;> with_reducible rfl)
          try simp only [Act.put, List.setIfInBounds_toArray, List.set_cons_zero, List.set_cons_succ]
          refine take10 (i := 7) (oi := _) (v := ?_) (d := some 123) rfl (by kernel_rfl) (by kernel_rfl) (by kernel_rfl) (by kernel_rfl) (fun _ _ _ h => h) (Or.inl ⟨by rfl, ?_⟩) (by assumption) ?_
          rotate_left
          · (intro w hSw; (try dsimp only at hSw); go_simp <;> with_reducible rfl)
          try simp only [Act.put, List.setIfInBounds_toArray, List.set_cons_zero, List.set_cons_succ]
          refine take10 (i := 8) (oi := _) (v := ?_) (d := some 124) rfl (by kernel_rfl) (by kernel_rfl) (by kernel_rfl) (by kernel_rfl) (fun _ _ _ h => h) (Or.inl ⟨by rfl, ?_⟩) (by assumption) ?_
          rotate_left
          · (intro w hSw; (try dsimp only at hSw); go_simp <;> with_reducible rfl)
          try simp only [Act.put, List.setIfInBounds_toArray, List.set_cons_zero, List.set_cons_succ]
          refine take10 (i := 9) (oi := _) (v := ?_) (d := some 125) rfl (by kernel_rfl) (by kernel_rfl) (by kernel_rfl) (by kernel_rfl) (fun _ _ _ h => h) (Or.inl ⟨by rfl, ?_⟩) (by assumption) ?_
          rotate_left
          · (intro w hSw; (try dsimp only at hSw); go_simp <;> with_reducible rfl)
          try simp only [Act.put, List.setIfInBounds_toArray, List.set_cons_zero, List.set_cons_succ]
          refine wpAnyH_ready (rs := [11]) (by kernel_rfl) (by simp) ?_
          refine AllReadyH.cons (o := _) rfl (fun K hK => ?cw79) AllReadyH.nil
          case' cw79 =>
            go_simp
            have hb : Below v4.heap.size v4 (v4.alloc (.cells #[.int .i64 0, .int .i64 0, .int .i64 0] 52)) := balloc _ _
            have hN := x3_new v4 (.int .i64 0) (.int .i64 0) (.int .i64 0) 52 v4.heap.size rfl
            have h_HB := HB_4.out.trans (hb.mono HB_4.out.size)
            have h_PA := PA_4.out.later hb
            have h_G8 := G8_4.out.later hb
            have h_OO := OO_4.out.later hb
            refine hK.out _ _ ?_ (fun hHeld => ?_)
            · exact ⟨(cA.out.later (h_HB)).1.1, (cA.out.later (h_HB)).1.2.1, (cA.out.later (h_HB)).1.2.2, (cT.out.later (h_HB)).1.1, (cT.out.later (h_HB)).1.2⟩
            clear hK K
            try simp only [Act.put, List.setIfInBounds_toArray, List.set_cons_zero, List.set_cons_succ]
            generalize (v4.alloc (.cells #[.int .i64 0, .int .i64 0, .int .i64 0] 52)) = v5 at hb hN hHeld h_HB h_PA h_G8 h_OO ⊢
            have HB_5 : Hid (Below w.heap.size w v5) := h_HB
            have PA_5 : Hid (OwnS v5 v0.heap.size (.slice pA n kA) xs) := h_PA
            have G8_5 : Hid (X3 v5 v2.heap.size (.slice none 0 0) (.int .i64 0) (.int .i64 0)) := h_G8
            have OO_5 : Hid (OwnS v5 v3.heap.size (Value.slice a3 m d3) Q) := h_OO
            have G9_5 : Hid (X3 v5 v4.heap.size (.int .i64 0) (.int .i64 0) (.int .i64 0)) := hN
            have hl4 : w.heap.size ≤ v4.heap.size := HB_4.out.size
            have hz4 : v4.heap.size < v5.heap.size := hN.lt
            clear hb hN h_HB HB_4 h_PA h_G8 h_OO PA_4 G8_4 OO_4
            have XB := HB_5
            have X8 := G8_5
            have X9 := G9_5
            have XQ : Hid (OwnS v5 w.heap.size (Value.slice a3 m d3) Q) := OO_5.out.mono (by omega)
            have XR : Hid (∀ k, (Value.slice a3 m d3).ownBlock = some k → k ≠ v2.heap.size ∧ k ≠ v4.heap.size) := fun k hk => by have := RW.out k hk; omega
            have XN : v2.heap.size ≠ v4.heap.size := by omega
            have XL8 : w.heap.size ≤ v2.heap.size := by omega
            have XL9 : w.heap.size ≤ v4.heap.size := by omega
            clear RW HB_5 G8_5 G9_5 PA_5 OO_5
            clear hl0 hz0 hl1 hz1 hl2 hz2 hl3 hz3 hl4 hz4
            generalize v2.heap.size = g8 at X8 XR XN XL8 ⊢
            generalize v4.heap.size = g9 at X9 XR XN XL9 ⊢
            obtain ⟨V, rfl⟩ : ∃ V : World, V = v5 := ⟨_, rfl⟩
        case' cw78 =>
          go_simp
          have hb : Below v3.heap.size v3 (v3.alloc (.cells #[.int .i64 0, .int .i64 0, .int .i64 0] 52)) := balloc _ _
          have hN := x3_new v3 (.int .i64 0) (.int .i64 0) (.int .i64 0) 52 v3.heap.size rfl
          have h_HB := HB_3.out.trans (hb.mono HB_3.out.size)
          have h_PA := PA_3.out.later hb
          have h_G8 := G8_3.out.later hb
          refine hK.out _ _ ?_ (fun hHeld => ?_)
          · exact ⟨(cA.out.later (h_HB)).1.1, (cA.out.later (h_HB)).1.2.1, (cA.out.later (h_HB)).1.2.2, (cT.out.later (h_HB)).1.1, (cT.out.later (h_HB)).1.2⟩
          clear hK K
          try simp only [Act.put, List.setIfInBounds_toArray, List.set_cons_zero, List.set_cons_succ]
          generalize (v3.alloc (.cells #[.int .i64 0, .int .i64 0, .int .i64 0] 52)) = v4 at hb hN hHeld h_HB h_PA h_G8 ⊢
          have HB_4 : Hid (Below w.heap.size w v4) := h_HB
          have PA_4 : Hid (OwnS v4 v0.heap.size (.slice pA n kA) xs) := h_PA
          have G8_4 : Hid (X3 v4 v2.heap.size (.slice none 0 0) (.int .i64 0) (.int .i64 0)) := h_G8
          have G9_4 : Hid (X3 v4 v3.heap.size (.int .i64 0) (.int .i64 0) (.int .i64 0)) := hN
          have hl3 : w.heap.size ≤ v3.heap.size := HB_3.out.size
          have hz3 : v3.heap.size < v4.heap.size := hN.lt
          clear hb hN h_HB HB_3 h_PA h_G8 PA_3 G8_3
          refine wpAnyH_ready (rs := [4]) (by kernel_rfl) (by simp) ?_
          refine AllReadyH.cons (o := _) rfl (fun K hK => ?cw80) AllReadyH.nil
          case' cw80 =>
            go_simp
            refine (qs pA kA v4 hn PA_4.out.ok).mono ?_
            rintro e v5 ⟨a3, d3, rfl, ho, hb⟩
            have HB_5 : Hid (Below w.heap.size w v5) := HB_4.out.trans (hb.mono HB_4.out.size)
            have PA_5 : Hid (OwnS v5 v0.heap.size (.slice pA n kA) xs) := PA_4.out.later hb
            have G8_5 : Hid (X3 v5 v2.heap.size (.slice none 0 0) (.int .i64 0) (.int .i64 0)) := G8_4.out.later hb
            have G9_5 : Hid (X3 v5 v3.heap.size (.int .i64 0) (.int .i64 0) (.int .i64 0)) := G9_4.out.later hb
            have OO_5 : Hid (OwnS v5 v4.heap.size (Value.slice a3 m d3) Q) := ho
            have RW : Hid (∀ k, (Value.slice a3 m d3).ownBlock = some k → v4.heap.size ≤ k ∧ k < v5.heap.size) := World.ownsRow.lt ho
            have hz4 : v4.heap.size ≤ v5.heap.size := hb.size
            have hl4 : w.heap.size ≤ v4.heap.size := HB_4.out.size
            refine hK.out _ _ ?_ (fun hHeld => ?_)
            · exact ⟨(cA.out.later (HB_5.out)).1.1, (cA.out.later (HB_5.out)).1.2.1, (cA.out.later (HB_5.out)).1.2.2, (cT.out.later (HB_5.out)).1.1, (cT.out.later (HB_5.out)).1.2⟩
            clear hK K hb HB_4 PA_4 G8_4 G9_4
            try simp only [Act.put, List.setIfInBounds_toArray, List.set_cons_zero, List.set_cons_succ]
            refine take10 (i := 5) (oi := _) (v := ?_) (d := some 116) rfl (by kernel_rfl) (by kernel_rfl) (by kernel_rfl) (by kernel_rfl) (fun _ _ _ h => h) (Or.inl ⟨by rfl, ?_⟩) (by assumption) ?_
            rotate_left
            · (intro w hSw; (try dsimp only at hSw); go_simp <;> with_reducible rfl)
            try simp only [Act.put, List.setIfInBounds_toArray, List.set_cons_zero, List.set_cons_succ]
            refine take10 (i := 6) (oi := _) (v := ?_) (d := some 122) rfl (by kernel_rfl) (by kernel_rfl) (by kernel_rfl) (by kernel_rfl) (fun _ _ _ h => h) (Or.inl ⟨by rfl, ?_⟩) (by assumption) ?_
            rotate_left
            · (intro w hSw; (try dsimp only at hSw); go_simp <;> with_reducible rfl)
            try simp only [Act.put, List.setIfInBounds_toArray, List.set_cons_zero, List.set_cons_succ]
            refine take10 (i := 7) (oi := _) (v := ?_) (d := some 123) rfl (by kernel_rfl) (by kernel_rfl) (by kernel_rfl) (by kernel_rfl) (fun _ _ _ h => h) (Or.inl ⟨by rfl, ?_⟩) (by assumption) ?_
            rotate_left
            · (intro w hSw; (try dsimp only at hSw); go_simp <;> with_reducible rfl)
            try simp only [Act.put, List.setIfInBounds_toArray, List.set_cons_zero, List.set_cons_succ]
            refine take10 (i := 8) (oi := _) (v := ?_) (d := some 124) rfl (by kernel_rfl) (by kernel_rfl) (by kernel_rfl) (by kernel_rfl) (fun _ _ _ h => h) (Or.inl ⟨by rfl, ?_⟩) (by assumption) ?_
            rotate_left
            · (intro w hSw; (try dsimp only at hSw); go_simp <;> with_reducible rfl)
            try simp only [Act.put, List.setIfInBounds_toArray, List.set_cons_zero, List.set_cons_succ]
            refine take10 (i := 9) (oi := _) (v := ?_) (d := some 125) rfl (by kernel_rfl) (by kernel_rfl) (by kernel_rfl) (by kernel_rfl) (fun _ _ _ h => h) (Or.inl ⟨by rfl, ?_⟩) (by assumption) ?_
            rotate_left
            · (intro w hSw; (try dsimp only at hSw); go_simp <;> with_reducible rfl)
            try simp only [Act.put, List.setIfInBounds_toArray, List.set_cons_zero, List.set_cons_succ]
            have XB := HB_5
            have X8 := G8_5
            have X9 := G9_5
            have XQ : Hid (OwnS v5 w.heap.size (Value.slice a3 m d3) Q) := OO_5.out.mono (by omega)
            have XR : Hid (∀ k, (Value.slice a3 m d3).ownBlock = some k → k ≠ v2.heap.size ∧ k ≠ v3.heap.size) := fun k hk => by have := RW.out k hk; omega
            have XN : v2.heap.size ≠ v3.heap.size := by omega
            have XL8 : w.heap.size ≤ v2.heap.size := by omega
            have XL9 : w.heap.size ≤ v3.heap.size := by omega
            clear RW HB_5 G8_5 G9_5 PA_5 OO_5
            clear hl0 hz0 hl1 hz1 hl2 hz2 hl3 hz3 hl4 hz4
            generalize v2.heap.size = g8 at X8 XR XN XL8 ⊢
            generalize v3.heap.size = g9 at X9 XR XN XL9 ⊢
            obtain ⟨V, rfl⟩ : ∃ V : World, V = v5 := ⟨_, rfl⟩
      case' cw72 =>
        go_simp
        have hb : Below v2.heap.size v2 (v2.alloc (.cells #[.int .i64 0, .int .i64 0, .int .i64 0] 52)) := balloc _ _
        have hN := x3_new v2 (.int .i64 0) (.int .i64 0) (.int .i64 0) 52 v2.heap.size rfl
        have h_HB := HB_2.out.trans (hb.mono HB_2.out.size)
        have h_PA := PA_2.out.later hb
        refine hK.out _ _ ?_ (fun hHeld => ?_)
        · exact ⟨(cA.out.later (h_HB)).1.1, (cA.out.later (h_HB)).1.2.1, (cA.out.later (h_HB)).1.2.2, (cT.out.later (h_HB)).1.1, (cT.out.later (h_HB)).1.2⟩
        clear hK K
        try simp only [Act.put, List.setIfInBounds_toArray, List.set_cons_zero, List.set_cons_succ]
        generalize (v2.alloc (.cells #[.int .i64 0, .int .i64 0, .int .i64 0] 52)) = v3 at hb hN hHeld h_HB h_PA ⊢
        have HB_3 : Hid (Below w.heap.size w v3) := h_HB
        have PA_3 : Hid (OwnS v3 v0.heap.size (.slice pA n kA) xs) := h_PA
        have G9_3 : Hid (X3 v3 v2.heap.size (.int .i64 0) (.int .i64 0) (.int .i64 0)) := hN
        have hl2 : w.heap.size ≤ v2.heap.size := HB_2.out.size
        have hz2 : v2.heap.size < v3.heap.size := hN.lt
        clear hb hN h_HB HB_2 h_PA PA_2
        refine wpAnyH_ready (rs := [4, 10]) (by kernel_rfl) (by simp) ?_
        refine AllReadyH.cons (o := _) rfl (fun K hK => ?cw81) (AllReadyH.cons (o := _) rfl (fun K hK => ?cw82) AllReadyH.nil)
        case' cw81 =>
          go_simp
          refine (qs pA kA v3 hn PA_3.out.ok).mono ?_
          rintro e v4 ⟨a3, d3, rfl, ho, hb⟩
          have HB_4 : Hid (Below w.heap.size w v4) := HB_3.out.trans (hb.mono HB_3.out.size)
          have PA_4 : Hid (OwnS v4 v0.heap.size (.slice pA n kA) xs) := PA_3.out.later hb
          have G9_4 : Hid (X3 v4 v2.heap.size (.int .i64 0) (.int .i64 0) (.int .i64 0)) := G9_3.out.later hb
          have OO_4 : Hid (OwnS v4 v3.heap.size (Value.slice a3 m d3) Q) := ho
          have RW : Hid (∀ k, (Value.slice a3 m d3).ownBlock = some k → v3.heap.size ≤ k ∧ k < v4.heap.size) := World.ownsRow.lt ho
          have hz3 : v3.heap.size ≤ v4.heap.size := hb.size
          have hl3 : w.heap.size ≤ v3.heap.size := HB_3.out.size
          refine hK.out _ _ ?_ (fun hHeld => ?_)
          · exact ⟨(cA.out.later (HB_4.out)).1.1, (cA.out.later (HB_4.out)).1.2.1, (cA.out.later (HB_4.out)).1.2.2, (cT.out.later (HB_4.out)).1.1, (cT.out.later (HB_4.out)).1.2⟩
          clear hK K hb HB_3 PA_3 G9_3
          try simp only [Act.put, List.setIfInBounds_toArray, List.set_cons_zero, List.set_cons_succ]
          refine take10 (i := 5) (oi := _) (v := ?_) (d := some 116) rfl (by kernel_rfl) (by kernel_rfl) (by kernel_rfl) (by kernel_rfl) (fun _ _ _ h => h) (Or.inl ⟨by rfl, ?_⟩) (by assumption) ?_
          rotate_left
          · (intro w hSw; (try dsimp only at hSw); go_simp <;> with_reducible rfl)
          try simp only [Act.put, List.setIfInBounds_toArray, List.set_cons_zero, List.set_cons_succ]
          refine take10 (i := 6) (oi := _) (v := ?_) (d := some 122) rfl (by kernel_rfl) (by kernel_rfl) (by kernel_rfl) (by kernel_rfl) (fun _ _ _ h => h) (Or.inl ⟨by rfl, ?_⟩) (by assumption) ?_
          rotate_left
          · (intro w hSw; (try dsimp only at hSw); go_simp <;> with_reducible rfl)
          try simp only [Act.put, List.setIfInBounds_toArray, List.set_cons_zero, List.set_cons_succ]
          refine take10 (i := 7) (oi := _) (v := ?_) (d := some 123) rfl (by kernel_rfl) (by kernel_rfl) (by kernel_rfl) (by kernel_rfl) (fun _ _ _ h => h) (Or.inl ⟨by rfl, ?_⟩) (by assumption) ?_
          rotate_left
          · (intro w hSw; (try dsimp only at hSw); go_simp <;> with_reducible rfl)
          try simp only [Act.put, List.setIfInBounds_toArray, List.set_cons_zero, List.set_cons_succ]
          refine take10 (i := 8) (oi := _) (v := ?_) (d := some 124) rfl (by kernel_rfl) (by kernel_rfl) (by kernel_rfl) (by kernel_rfl) (fun _ _ _ h => h) (Or.inl ⟨by rfl, ?_⟩) (by assumption) ?_
          rotate_left
          · (intro w hSw; (try dsimp only at hSw); go_simp <;> with_reducible rfl)
          try simp only [Act.put, List.setIfInBounds_toArray, List.set_cons_zero, List.set_cons_succ]
          refine take10 (i := 9) (oi := _) (v := ?_) (d := some 125) rfl (by kernel_rfl) (by kernel_rfl) (by kernel_rfl) (by kernel_rfl) (fun _ _ _ h => h) (Or.inl ⟨by rfl, ?_⟩) (by assumption) ?_
          rotate_left
          · (intro w hSw; (try dsimp only at hSw); go_simp <;> with_reducible rfl)
          try simp only [Act.put, List.setIfInBounds_toArray, List.set_cons_zero, List.set_cons_succ]
          refine wpAnyH_ready (rs := [10]) (by kernel_rfl) (by simp) ?_
          refine AllReadyH.cons (o := _) rfl (fun K hK => ?cw83) AllReadyH.nil
          case' cw83 =>
            go_simp
            have hb : Below v4.heap.size v4 (v4.alloc (.cells #[.slice none 0 0, .int .i64 0, .int .i64 0] 45)) := balloc _ _
            have hN := x3_new v4 (.slice none 0 0) (.int .i64 0) (.int .i64 0) 45 v4.heap.size rfl
            have h_HB := HB_4.out.trans (hb.mono HB_4.out.size)
            have h_PA := PA_4.out.later hb
            have h_G9 := G9_4.out.later hb
            have h_OO := OO_4.out.later hb
            refine hK.out _ _ ?_ (fun hHeld => ?_)
            · exact ⟨(cA.out.later (h_HB)).1.1, (cA.out.later (h_HB)).1.2.1, (cA.out.later (h_HB)).1.2.2, (cT.out.later (h_HB)).1.1, (cT.out.later (h_HB)).1.2⟩
            clear hK K
            try simp only [Act.put, List.setIfInBounds_toArray, List.set_cons_zero, List.set_cons_succ]
            generalize (v4.alloc (.cells #[.slice none 0 0, .int .i64 0, .int .i64 0] 45)) = v5 at hb hN hHeld h_HB h_PA h_G9 h_OO ⊢
            have HB_5 : Hid (Below w.heap.size w v5) := h_HB
            have PA_5 : Hid (OwnS v5 v0.heap.size (.slice pA n kA) xs) := h_PA
            have G9_5 : Hid (X3 v5 v2.heap.size (.int .i64 0) (.int .i64 0) (.int .i64 0)) := h_G9
            have OO_5 : Hid (OwnS v5 v3.heap.size (Value.slice a3 m d3) Q) := h_OO
            have G8_5 : Hid (X3 v5 v4.heap.size (.slice none 0 0) (.int .i64 0) (.int .i64 0)) := hN
            have hl4 : w.heap.size ≤ v4.heap.size := HB_4.out.size
            have hz4 : v4.heap.size < v5.heap.size := hN.lt
            clear hb hN h_HB HB_4 h_PA h_G9 h_OO PA_4 G9_4 OO_4
            have XB := HB_5
            have X8 := G8_5
            have X9 := G9_5
            have XQ : Hid (OwnS v5 w.heap.size (Value.slice a3 m d3) Q) := OO_5.out.mono (by omega)
            have XR : Hid (∀ k, (Value.slice a3 m d3).ownBlock = some k → k ≠ v4.heap.size ∧ k ≠ v2.heap.size) := fun k hk => by have := RW.out k hk; omega
            have XN : v4.heap.size ≠ v2.heap.size := by omega
            have XL8 : w.heap.size ≤ v4.heap.size := by omega
            have XL9 : w.heap.size ≤ v2.heap.size := by omega
            clear RW HB_5 G8_5 G9_5 PA_5 OO_5
            clear hl0 hz0 hl1 hz1 hl2 hz2 hl3 hz3 hl4 hz4
            generalize v4.heap.size = g8 at X8 XR XN XL8 ⊢
            generalize v2.heap.size = g9 at X9 XR XN XL9 ⊢
            obtain ⟨V, rfl⟩ : ∃ V : World, V = v5 := ⟨_, rfl⟩
        case' cw82 =>
          go_simp
          have hb : Below v3.heap.size v3 (v3.alloc (.cells #[.slice none 0 0, .int .i64 0, .int .i64 0] 45)) := balloc _ _
          have hN := x3_new v3 (.slice none 0 0) (.int .i64 0) (.int .i64 0) 45 v3.heap.size rfl
          have h_HB := HB_3.out.trans (hb.mono HB_3.out.size)
          have h_PA := PA_3.out.later hb
          have h_G9 := G9_3.out.later hb
          refine hK.out _ _ ?_ (fun hHeld => ?_)
          · exact ⟨(cA.out.later (h_HB)).1.1, (cA.out.later (h_HB)).1.2.1, (cA.out.later (h_HB)).1.2.2, (cT.out.later (h_HB)).1.1, (cT.out.later (h_HB)).1.2⟩
          clear hK K
          try simp only [Act.put, List.setIfInBounds_toArray, List.set_cons_zero, List.set_cons_succ]
          generalize (v3.alloc (.cells #[.slice none 0 0, .int .i64 0, .int .i64 0] 45)) = v4 at hb hN hHeld h_HB h_PA h_G9 ⊢
          have HB_4 : Hid (Below w.heap.size w v4) := h_HB
          have PA_4 : Hid (OwnS v4 v0.heap.size (.slice pA n kA) xs) := h_PA
          have G9_4 : Hid (X3 v4 v2.heap.size (.int .i64 0) (.int .i64 0) (.int .i64 0)) := h_G9
          have G8_4 : Hid (X3 v4 v3.heap.size (.slice none 0 0) (.int .i64 0) (.int .i64 0)) := hN
          have hl3 : w.heap.size ≤ v3.heap.size := HB_3.out.size
          have hz3 : v3.heap.size < v4.heap.size := hN.lt
          clear hb hN h_HB HB_3 h_PA h_G9 PA_3 G9_3
          refine wpAnyH_ready (rs := [4]) (by kernel_rfl) (by simp) ?_
          refine AllReadyH.cons (o := _) rfl (fun K hK => ?cw84) AllReadyH.nil
          case' cw84 =>
            go_simp
            refine (qs pA kA v4 hn PA_4.out.ok).mono ?_
            rintro e v5 ⟨a3, d3, rfl, ho, hb⟩
            have HB_5 : Hid (Below w.heap.size w v5) := HB_4.out.trans (hb.mono HB_4.out.size)
            have PA_5 : Hid (OwnS v5 v0.heap.size (.slice pA n kA) xs) := PA_4.out.later hb
            have G9_5 : Hid (X3 v5 v2.heap.size (.int .i64 0) (.int .i64 0) (.int .i64 0)) := G9_4.out.later hb
            have G8_5 : Hid (X3 v5 v3.heap.size (.slice none 0 0) (.int .i64 0) (.int .i64 0)) := G8_4.out.later hb
            have OO_5 : Hid (OwnS v5 v4.heap.size (Value.slice a3 m d3) Q) := ho
            have RW : Hid (∀ k, (Value.slice a3 m d3).ownBlock = some k → v4.heap.size ≤ k ∧ k < v5.heap.size) := World.ownsRow.lt ho
            have hz4 : v4.heap.size ≤ v5.heap.size := hb.size
            have hl4 : w.heap.size ≤ v4.heap.size := HB_4.out.size
            refine hK.out _ _ ?_ (fun hHeld => ?_)
            · exact ⟨(cA.out.later (HB_5.out)).1.1, (cA.out.later (HB_5.out)).1.2.1, (cA.out.later (HB_5.out)).1.2.2, (cT.out.later (HB_5.out)).1.1, (cT.out.later (HB_5.out)).1.2⟩
            clear hK K hb HB_4 PA_4 G9_4 G8_4
            try simp only [Act.put, List.setIfInBounds_toArray, List.set_cons_zero, List.set_cons_succ]
            refine take10 (i := 5) (oi := _) (v := ?_) (d := some 116) rfl (by kernel_rfl) (by kernel_rfl) (by kernel_rfl) (by kernel_rfl) (fun _ _ _ h => h) (Or.inl ⟨by rfl, ?_⟩) (by assumption) ?_
            rotate_left
            · (intro w hSw; (try dsimp only at hSw); go_simp <;> with_reducible rfl)
            try simp only [Act.put, List.setIfInBounds_toArray, List.set_cons_zero, List.set_cons_succ]
            refine take10 (i := 6) (oi := _) (v := ?_) (d := some 122) rfl (by kernel_rfl) (by kernel_rfl) (by kernel_rfl) (by kernel_rfl) (fun _ _ _ h => h) (Or.inl ⟨by rfl, ?_⟩) (by assumption) ?_
            rotate_left
            · (intro w hSw; (try dsimp only at hSw); go_simp <;> with_reducible rfl)
            try simp only [Act.put, List.setIfInBounds_toArray, List.set_cons_zero, List.set_cons_succ]
            refine take10 (i := 7) (oi := _) (v := ?_) (d := some 123) rfl (by kernel_rfl) (by kernel_rfl) (by kernel_rfl) (by kernel_rfl) (fun _ _ _ h => h) (Or.inl ⟨by rfl, ?_⟩) (by assumption) ?_
            rotate_left
            · (intro w hSw; (try dsimp only at hSw); go_simp <;> with_reducible rfl)
            try simp only [Act.put, List.setIfInBounds_toArray, List.set_cons_zero, List.set_cons_succ]
            refine take10 (i := 8) (oi := _) (v := ?_) (d := some 124) rfl (by kernel_rfl) (by kernel_rfl) (by kernel_rfl) (by kernel_rfl) (fun _ _ _ h => h) (Or.inl ⟨by rfl, ?_⟩) (by assumption) ?_
            rotate_left
            · (intro w hSw; (try dsimp only at hSw); go_simp <;> with_reducible rfl)
            try simp only [Act.put, List.setIfInBounds_toArray, List.set_cons_zero, List.set_cons_succ]
            refine take10 (i := 9) (oi := _) (v := ?_) (d := some 125) rfl (by kernel_rfl) (by kernel_rfl) (by kernel_rfl) (by kernel_rfl) (fun _ _ _ h => h) (Or.inl ⟨by rfl, ?_⟩) (by assumption) ?_
            rotate_left
            · (intro w hSw; (try dsimp only at hSw); go_simp <;> with_reducible rfl)
            try simp only [Act.put, List.setIfInBounds_toArray, List.set_cons_zero, List.set_cons_succ]
            have XB := HB_5
            have X8 := G8_5
            have X9 := G9_5
            have XQ : Hid (OwnS v5 w.heap.size (Value.slice a3 m d3) Q) := OO_5.out.mono (by omega)
            have XR : Hid (∀ k, (Value.slice a3 m d3).ownBlock = some k → k ≠ v3.heap.size ∧ k ≠ v2.heap.size) := fun k hk => by have := RW.out k hk; omega
            have XN : v3.heap.size ≠ v2.heap.size := by omega
            have XL8 : w.heap.size ≤ v3.heap.size := by omega
            have XL9 : w.heap.size ≤ v2.heap.size := by omega
            clear RW HB_5 G8_5 G9_5 PA_5 OO_5
            clear hl0 hz0 hl1 hz1 hl2 hz2 hl3 hz3 hl4 hz4
            generalize v3.heap.size = g8 at X8 XR XN XL8 ⊢
            generalize v2.heap.size = g9 at X9 XR XN XL9 ⊢
            obtain ⟨V, rfl⟩ : ∃ V : World, V = v5 := ⟨_, rfl⟩
    case' cw68 =>
      go_simp
      have hb : Below v1.heap.size v1 (v1.alloc (.cells #[.slice none 0 0, .int .i64 0, .int .i64 0] 45)) := balloc _ _
      have hN := x3_new v1 (.slice none 0 0) (.int .i64 0) (.int .i64 0) 45 v1.heap.size rfl
      have h_HB := HB_1.out.trans (hb.mono HB_1.out.size)
      have h_PA := PA_1.out.later hb
      refine hK.out _ _ ?_ (fun hHeld => ?_)
      · exact ⟨(cA.out.later (h_HB)).1.1, (cA.out.later (h_HB)).1.2.1, (cA.out.later (h_HB)).1.2.2, (cT.out.later (h_HB)).1.1, (cT.out.later (h_HB)).1.2⟩
      clear hK K
      try simp only [Act.put, List.setIfInBounds_toArray, List.set_cons_zero, List.set_cons_succ]
      generalize (v1.alloc (.cells #[.slice none 0 0, .int .i64 0, .int .i64 0] 45)) = v2 at hb hN hHeld h_HB h_PA ⊢
      have HB_2 : Hid (Below w.heap.size w v2) := h_HB
      have PA_2 : Hid (OwnS v2 v0.heap.size (.slice pA n kA) xs) := h_PA
      have G8_2 : Hid (X3 v2 v1.heap.size (.slice none 0 0) (.int .i64 0) (.int .i64 0)) := hN
      have hl1 : w.heap.size ≤ v1.heap.size := HB_1.out.size
      have hz1 : v1.heap.size < v2.heap.size := hN.lt
      clear hb hN h_HB HB_1 h_PA PA_1
      refine wpAnyH_ready (rs := [3, 11]) (by kernel_rfl) (by simp) ?_
      refine AllReadyH.cons (o := _) rfl (fun K hK => ?cw85) (AllReadyH.cons (o := _) rfl (fun K hK => ?cw86) AllReadyH.nil)
      case' cw85 =>
        go_simp
        refine (toCoverStep_c kk s v2).mono ?_
        rintro e v3 ⟨rfl, hb⟩
        have HB_3 : Hid (Below w.heap.size w v3) := HB_2.out.trans (hb.mono HB_2.out.size)
        have PA_3 : Hid (OwnS v3 v0.heap.size (.slice pA n kA) xs) := PA_2.out.later hb
        have G8_3 : Hid (X3 v3 v1.heap.size (.slice none 0 0) (.int .i64 0) (.int .i64 0)) := G8_2.out.later hb
        have hz2 : v2.heap.size ≤ v3.heap.size := hb.size
        have hl2 : w.heap.size ≤ v2.heap.size := HB_2.out.size
        refine hK.out _ _ ?_ (fun hHeld => ?_)
        · exact ⟨(cA.out.later (HB_3.out)).1.1, (cA.out.later (HB_3.out)).1.2.1, (cA.out.later (HB_3.out)).1.2.2, (cT.out.later (HB_3.out)).1.1, (cT.out.later (HB_3.out)).1.2⟩
        clear hK K hb HB_2 PA_2 G8_2
        try simp only [Act.put, List.setIfInBounds_toArray, List.set_cons_zero, List.set_cons_succ]
        refine wpAnyH_ready (rs := [4, 11]) (by kernel_rfl) (by simp) ?_
        refine AllReadyH.cons (o := _) rfl (fun K hK => ?cw87) (AllReadyH.cons (o := _) rfl (fun K hK => ?cw88) AllReadyH.nil)
        case' cw87 =>
          go_simp
          refine (qs pA kA v3 hn PA_3.out.ok).mono ?_
          rintro e v4 ⟨a3, d3, rfl, ho, hb⟩
          have HB_4 : Hid (Below w.heap.size w v4) := HB_3.out.trans (hb.mono HB_3.out.size)
          have PA_4 : Hid (OwnS v4 v0.heap.size (.slice pA n kA) xs) := PA_3.out.later hb
          have G8_4 : Hid (X3 v4 v1.heap.size (.slice none 0 0) (.int .i64 0) (.int .i64 0)) := G8_3.out.later hb
          have OO_4 : Hid (OwnS v4 v3.heap.size (Value.slice a3 m d3) Q) := ho
          have RW : Hid (∀ k, (Value.slice a3 m d3).ownBlock = some k → v3.heap.size ≤ k ∧ k < v4.heap.size) := World.ownsRow.lt ho
          have hz3 : v3.heap.size ≤ v4.heap.size := hb.size
          have hl3 : w.heap.size ≤ v3.heap.size := HB_3.out.size
          refine hK.out _ _ ?_ (fun hHeld => ?_)
          · exact ⟨(cA.out.later (HB_4.out)).1.1, (cA.out.later (HB_4.out)).1.2.1, (cA.out.later (HB_4.out)).1.2.2, (cT.out.later (HB_4.out)).1.1, (cT.out.later (HB_4.out)).1.2⟩
          clear hK K hb HB_3 PA_3 G8_3
          try simp only [Act.put, List.setIfInBounds_toArray, List.set_cons_zero, List.set_cons_succ]
          refine take10 (i := 5) (oi := _) (v := ?_) (d := some 116) rfl (by kernel_rfl) (by kernel_rfl) (by kernel_rfl) (by kernel_rfl) (fun _ _ _ h => h) (Or.inl ⟨by rfl, ?_⟩) (by assumption) ?_
          rotate_left
          · (intro w hSw; (try dsimp only at hSw); go_simp <;> with_reducible rfl)
          try simp only [Act.put, List.setIfInBounds_toArray, List.set_cons_zero, List.set_cons_succ]
          refine take10 (i := 6) (oi := _) (v := ?_) (d := some 122) rfl (by kernel_rfl) (by kernel_rfl) (by kernel_rfl) (by kernel_rfl) (fun _ _ _ h => h) (Or.inl ⟨by rfl, ?_⟩) (by assumption) ?_
          rotate_left
          · (intro w hSw; (try dsimp only at hSw); go_simp <;> with_reducible rfl)
          try simp only [Act.put, List.setIfInBounds_toArray, List.set_cons_zero, List.set_cons_succ]
          refine take10 (i := 7) (oi := _) (v := ?_) (d := some 123) rfl (by kernel_rfl) (by kernel_rfl) (by kernel_rfl) (by kernel_rfl) (fun _ _ _ h => h) (Or.inl ⟨by rfl, ?_⟩) (by assumption) ?_
          rotate_left
          · (intro w hSw; (try dsimp only at hSw); go_simp <;> with_reducible rfl)
          try simp only [Act.put, List.setIfInBounds_toArray, List.set_cons_zero, List.set_cons_succ]
          refine take10 (i := 8) (oi := _) (v := ?_) (d := some 124) rfl (by kernel_rfl) (by kernel_rfl) (by kernel_rfl) (by kernel_rfl) (fun _ _ _ h => h) (Or.inl ⟨by rfl, ?_⟩) (by assumption) ?_
          rotate_left
          · (intro w hSw; (try dsimp only at hSw); go_simp <;> with_reducible rfl)
          try simp only [Act.put, List.setIfInBounds_toArray, List.set_cons_zero, List.set_cons_succ]
          refine take10 (i := 9) (oi := _) (v := ?_) (d := some 125) rfl (by kernel_rfl) (by kernel_rfl) (by kernel_rfl) (by kernel_rfl) (fun _ _ _ h => h) (Or.inl ⟨by rfl, ?_⟩) (by assumption) ?_
          rotate_left
          · (intro w hSw; (try dsimp only at hSw); go_simp <;> with_reducible rfl)
          try simp only [Act.put, List.setIfInBounds_toArray, List.set_cons_zero, List.set_cons_succ]
          refine wpAnyH_ready (rs := [11]) (by kernel_rfl) (by simp) ?_
          refine AllReadyH.cons (o := _) rfl (fun K hK => ?cw89) AllReadyH.nil
          case' cw89 =>
            go_simp
            have hb : Below v4.heap.size v4 (v4.alloc (.cells #[.int .i64 0, .int .i64 0, .int .i64 0] 52)) := balloc _ _
            have hN := x3_new v4 (.int .i64 0) (.int .i64 0) (.int .i64 0) 52 v4.heap.size rfl
            have h_HB := HB_4.out.trans (hb.mono HB_4.out.size)
            have h_PA := PA_4.out.later hb
            have h_G8 := G8_4.out.later hb
            have h_OO := OO_4.out.later hb
            refine hK.out _ _ ?_ (fun hHeld => ?_)
            · exact ⟨(cA.out.later (h_HB)).1.1, (cA.out.later (h_HB)).1.2.1, (cA.out.later (h_HB)).1.2.2, (cT.out.later (h_HB)).1.1, (cT.out.later (h_HB)).1.2⟩
            clear hK K
            try simp only [Act.put, List.setIfInBounds_toArray, List.set_cons_zero, List.set_cons_succ]
            generalize (v4.alloc (.cells #[.int .i64 0, .int .i64 0, .int .i64 0] 52)) = v5 at hb hN hHeld h_HB h_PA h_G8 h_OO ⊢
            have HB_5 : Hid (Below w.heap.size w v5) := h_HB
            have PA_5 : Hid (OwnS v5 v0.heap.size (.slice pA n kA) xs) := h_PA
            have G8_5 : Hid (X3 v5 v1.heap.size (.slice none 0 0) (.int .i64 0) (.int .i64 0)) := h_G8
            have OO_5 : Hid (OwnS v5 v3.heap.size (Value.slice a3 m d3) Q) := h_OO
            have G9_5 : Hid (X3 v5 v4.heap.size (.int .i64 0) (.int .i64 0) (.int .i64 0)) := hN
            have hl4 : w.heap.size ≤ v4.heap.size := HB_4.out.size
            have hz4 : v4.heap.size < v5.heap.size := hN.lt
            clear hb hN h_HB HB_4 h_PA h_G8 h_OO PA_4 G8_4 OO_4
            have XB := HB_5
            have X8 := G8_5
            have X9 := G9_5
            have XQ : Hid (OwnS v5 w.heap.size (Value.slice a3 m d3) Q) := OO_5.out.mono (by omega)
            have XR : Hid (∀ k, (Value.slice a3 m d3).ownBlock = some k → k ≠ v1.heap.size ∧ k ≠ v4.heap.size) := fun k hk => by have := RW.out k hk; omega
            have XN : v1.heap.size ≠ v4.heap.size := by omega
            have XL8 : w.heap.size ≤ v1.heap.size := by omega
            have XL9 : w.heap.size ≤ v4.heap.size := by omega
            clear RW HB_5 G8_5 G9_5 PA_5 OO_5
            clear hl0 hz0 hl1 hz1 hl2 hz2 hl3 hz3 hl4 hz4
            generalize v1.heap.size = g8 at X8 XR XN XL8 ⊢
            generalize v4.heap.size = g9 at X9 XR XN XL9 ⊢
            obtain ⟨V, rfl⟩ : ∃ V : World, V = v5 := ⟨_, rfl⟩
        case' cw88 =>
          go_simp
          have hb : Below v3.heap.size v3 (v3.alloc (.cells #[.int .i64 0, .int .i64 0, .int .i64 0] 52)) := balloc _ _
          have hN := x3_new v3 (.int .i64 0) (.int .i64 0) (.int .i64 0) 52 v3.heap.size rfl
          have h_HB := HB_3.out.trans (hb.mono HB_3.out.size)
          have h_PA := PA_3.out.later hb
          have h_G8 := G8_3.out.later hb
          refine hK.out _ _ ?_ (fun hHeld => ?_)
          · exact ⟨(cA.out.later (h_HB)).1.1, (cA.out.later (h_HB)).1.2.1, (cA.out.later (h_HB)).1.2.2, (cT.out.later (h_HB)).1.1, (cT.out.later (h_HB)).1.2⟩
          clear hK K
          try simp only [Act.put, List.setIfInBounds_toArray, List.set_cons_zero, List.set_cons_succ]
          generalize (v3.alloc (.cells #[.int .i64 0, .int .i64 0, .int .i64 0] 52)) = v4 at hb hN hHeld h_HB h_PA h_G8 ⊢
          have HB_4 : Hid (Below w.heap.size w v4) := h_HB
          have PA_4 : Hid (OwnS v4 v0.heap.size (.slice pA n kA) xs) := h_PA
          have G8_4 : Hid (X3 v4 v1.heap.size (.slice none 0 0) (.int .i64 0) (.int .i64 0)) := h_G8
          have G9_4 : Hid (X3 v4 v3.heap.size (.int .i64 0) (.int .i64 0) (.int .i64 0)) := hN
          have hl3 : w.heap.size ≤ v3.heap.size := HB_3.out.size
          have hz3 : v3.heap.size < v4.heap.size := hN.lt
          clear hb hN h_HB HB_3 h_PA h_G8 PA_3 G8_3
          refine wpAnyH_ready (rs := [4]) (by kernel_rfl) (by simp) ?_
          refine AllReadyH.cons (o := _) rfl (fun K hK => ?cw90) AllReadyH.nil
          case' cw90 =>
            go_simp
            refine (qs pA kA v4 hn PA_4.out.ok).mono ?_
            rintro e v5 ⟨a3, d3, rfl, ho, hb⟩
            have HB_5 : Hid (Below w.heap.size w v5) := HB_4.out.trans (hb.mono HB_4.out.size)
            have PA_5 : Hid (OwnS v5 v0.heap.size (.slice pA n kA) xs) := PA_4.out.later hb
            have G8_5 : Hid (X3 v5 v1.heap.size (.slice none 0 0) (.int .i64 0) (.int .i64 0)) := G8_4.out.later hb
            have G9_5 : Hid (X3 v5 v3.heap.size (.int .i64 0) (.int .i64 0) (.int .i64 0)) := G9_4.out.later hb
            have OO_5 : Hid (OwnS v5 v4.heap.size (Value.slice a3 m d3) Q) := ho
            have RW : Hid (∀ k, (Value.slice a3 m d3).ownBlock = some k → v4.heap.size ≤ k ∧ k < v5.heap.size) := World.ownsRow.lt ho
            have hz4 : v4.heap.size ≤ v5.heap.size := hb.size
            have hl4 : w.heap.size ≤ v4.heap.size := HB_4.out.size
            refine hK.out _ _ ?_ (fun hHeld => ?_)
            · exact ⟨(cA.out.later (HB_5.out)).1.1, (cA.out.later (HB_5.out)).1.2.1, (cA.out.later (HB_5.out)).1.2.2, (cT.out.later (HB_5.out)).1.1, (cT.out.later (HB_5.out)).1.2⟩
            clear hK K hb HB_4 PA_4 G8_4 G9_4
            try simp only [Act.put, List.setIfInBounds_toArray, List.set_cons_zero, List.set_cons_succ]
            refine take10 (i := 5) (oi := _) (v := ?_) (d := some 116) rfl (by kernel_rfl) (by kernel_rfl) (by kernel_rfl) (by kernel_rfl) (fun _ _ _ h => h) (Or.inl ⟨by rfl, ?_⟩) (by assumption) ?_
            rotate_left
            · (intro w hSw; (try dsimp only at hSw); go_simp <;> with_reducible rfl)
            try simp only [Act.put, List.setIfInBounds_toArray, List.set_cons_zero, List.set_cons_succ]
            refine take10 (i := 6) (oi := _) (v := ?_) (d := some 122) rfl (by kernel_rfl) (by kernel_rfl) (by kernel_rfl) (by kernel_rfl) (fun _ _ _ h => h) (Or.inl ⟨by rfl, ?_⟩) (by assumption) ?_
            rotate_left
            · (intro w hSw; (try dsimp only at hSw); go_simp <;> with_reducible rfl)
            try simp only [Act.put, List.setIfInBounds_toArray, List.set_cons_zero, List.set_cons_succ]
            refine take10 (i := 7) (oi := _) (v := ?_) (d := some 123) rfl (by kernel_rfl) (by kernel_rfl) (by kernel_rfl) (by kernel_rfl) (fun _ _ _ h => h) (Or.inl ⟨by rfl, ?_⟩) (by assumption) ?_
            rotate_left
            · (intro w hSw; (try dsimp only at hSw); go_simp <;> with_reducible rfl)
            try simp only [Act.put, List.setIfInBounds_toArray, List.set_cons_zero, List.set_cons_succ]
            refine take10 (i := 8) (oi := _) (v := ?_) (d := some 124) rfl (by kernel_rfl) (by kernel_rfl) (by kernel_rfl) (by kernel_rfl) (fun _ _ _ h => h) (Or.inl ⟨by rfl, ?_⟩) (by assumption) ?_
            rotate_left
            · (intro w hSw; (try dsimp only at hSw); go_simp <;> with_reducible rfl)
            try simp only [Act.put, List.setIfInBounds_toArray, List.set_cons_zero, List.set_cons_succ]
            refine take10 (i := 9) (oi := _) (v := ?_) (d := some 125) rfl (by kernel_rfl) (by kernel_rfl) (by kernel_rfl) (by kernel_rfl) (fun _ _ _ h => h) (Or.inl ⟨by rfl, ?_⟩) (by assumption) ?_
            rotate_left
            · (intro w hSw; (try dsimp only at hSw); go_simp <;> with_reducible rfl)
            try simp only [Act.put, List.setIfInBounds_toArray, List.set_cons_zero, List.set_cons_succ]
            have XB := HB_5
            have X8 := G8_5
            have X9 := G9_5
            have XQ : Hid (OwnS v5 w.heap.size (Value.slice a3 m d3) Q) := OO_5.out.mono (by omega)
            have XR : Hid (∀ k, (Value.slice a3 m d3).ownBlock = some k → k ≠ v1.heap.size ∧ k ≠ v3.heap.size) := fun k hk => by have := RW.out k hk; omega
            have XN : v1.heap.size ≠ v3.heap.size := by omega
            have XL8 : w.heap.size ≤ v1.heap.size := by omega
            have XL9 : w.heap.size ≤ v3.heap.size := by omega
            clear RW HB_5 G8_5 G9_5 PA_5 OO_5
            clear hl0 hz0 hl1 hz1 hl2 hz2 hl3 hz3 hl4 hz4
            generalize v1.heap.size = g8 at X8 XR XN XL8 ⊢
            generalize v3.heap.size = g9 at X9 XR XN XL9 ⊢
            obtain ⟨V, rfl⟩ : ∃ V : World, V = v5 := ⟨_, rfl⟩
      case' cw86 =>
        go_simp
        have hb : Below v2.heap.size v2 (v2.alloc (.cells #[.int .i64 0, .int .i64 0, .int .i64 0] 52)) := balloc _ _
        have hN := x3_new v2 (.int .i64 0) (.int .i64 0) (.int .i64 0) 52 v2.heap.size rfl
        have h_HB := HB_2.out.trans (hb.mono HB_2.out.size)
        have h_PA := PA_2.out.later hb
        have h_G8 := G8_2.out.later hb
        refine hK.out _ _ ?_ (fun hHeld => ?_)
        · exact ⟨(cA.out.later (h_HB)).1.1, (cA.out.later (h_HB)).1.2.1, (cA.out.later (h_HB)).1.2.2, (cT.out.later (h_HB)).1.1, (cT.out.later (h_HB)).1.2⟩
        clear hK K
        try simp only [Act.put, List.setIfInBounds_toArray, List.set_cons_zero, List.set_cons_succ]
        generalize (v2.alloc (.cells #[.int .i64 0, .int .i64 0, .int .i64 0] 52)) = v3 at hb hN hHeld h_HB h_PA h_G8 ⊢
        have HB_3 : Hid (Below w.heap.size w v3) := h_HB
        have PA_3 : Hid (OwnS v3 v0.heap.size (.slice pA n kA) xs) := h_PA
        have G8_3 : Hid (X3 v3 v1.heap.size (.slice none 0 0) (.int .i64 0) (.int .i64 0)) := h_G8
        have G9_3 : Hid (X3 v3 v2.heap.size (.int .i64 0) (.int .i64 0) (.int .i64 0)) := hN
        have hl2 : w.heap.size ≤ v2.heap.size := HB_2.out.size
        have hz2 : v2.heap.size < v3.heap.size := hN.lt
        clear hb hN h_HB HB_2 h_PA h_G8 PA_2 G8_2
        refine wpAnyH_ready (rs := [3]) (by kernel_rfl) (by simp) ?_
        refine AllReadyH.cons (o := _) rfl (fun K hK => ?cw91) AllReadyH.nil
        case' cw91 =>
          go_simp
          refine (toCoverStep_c kk s v3).mono ?_
          rintro e v4 ⟨rfl, hb⟩
          have HB_4 : Hid (Below w.heap.size w v4) := HB_3.out.trans (hb.mono HB_3.out.size)
          have PA_4 : Hid (OwnS v4 v0.heap.size (.slice pA n kA) xs) := PA_3.out.later hb
          have G8_4 : Hid (X3 v4 v1.heap.size (.slice none 0 0) (.int .i64 0) (.int .i64 0)) := G8_3.out.later hb
          have G9_4 : Hid (X3 v4 v2.heap.size (.int .i64 0) (.int .i64 0) (.int .i64 0)) := G9_3.out.later hb
          have hz3 : v3.heap.size ≤ v4.heap.size := hb.size
          have hl3 : w.heap.size ≤ v3.heap.size := HB_3.out.size
          refine hK.out _ _ ?_ (fun hHeld => ?_)
          · exact ⟨(cA.out.later (HB_4.out)).1.1, (cA.out.later (HB_4.out)).1.2.1, (cA.out.later (HB_4.out)).1.2.2, (cT.out.later (HB_4.out)).1.1, (cT.out.later (HB_4.out)).1.2⟩
          clear hK K hb HB_3 PA_3 G8_3 G9_3
          try simp only [Act.put, List.setIfInBounds_toArray, List.set_cons_zero, List.set_cons_succ]
          refine wpAnyH_ready (rs := [4]) (by kernel_rfl) (by simp) ?_
          refine AllReadyH.cons (o := _) rfl (fun K hK => ?cw92) AllReadyH.nil
          case' cw92 =>
            go_simp
            refine (qs pA kA v4 hn PA_4.out.ok).mono ?_
            rintro e v5 ⟨a3, d3, rfl, ho, hb⟩
            have HB_5 : Hid (Below w.heap.size w v5) := HB_4.out.trans (hb.mono HB_4.out.size)
            have PA_5 : Hid (OwnS v5 v0.heap.size (.slice pA n kA) xs) := PA_4.out.later hb
            have G8_5 : Hid (X3 v5 v1.heap.size (.slice none 0 0) (.int .i64 0) (.int .i64 0)) := G8_4.out.later hb
            have G9_5 : Hid (X3 v5 v2.heap.size (.int .i64 0) (.int .i64 0) (.int .i64 0)) := G9_4.out.later hb
            have OO_5 : Hid (OwnS v5 v4.heap.size (Value.slice a3 m d3) Q) := ho
            have RW : Hid (∀ k, (Value.slice a3 m d3).ownBlock = some k → v4.heap.size ≤ k ∧ k < v5.heap.size) := World.ownsRow.lt ho
            have hz4 : v4.heap.size ≤ v5.heap.size := hb.size
            have hl4 : w.heap.size ≤ v4.heap.size := HB_4.out.size
            refine hK.out _ _ ?_ (fun hHeld => ?_)
            · exact ⟨(cA.out.later (HB_5.out)).1.1, (cA.out.later (HB_5.out)).1.2.1, (cA.out.later (HB_5.out)).1.2.2, (cT.out.later (HB_5.out)).1.1, (cT.out.later (HB_5.out)).1.2⟩
            clear hK K hb HB_4 PA_4 G8_4 G9_4
            try simp only [Act.put, List.setIfInBounds_toArray, List.set_cons_zero, List.set_cons_succ]
            refine take10 (i := 5) (oi := _) (v := ?_) (d := some 116) rfl (by kernel_rfl) (by kernel_rfl) (by kernel_rfl) (by kernel_rfl) (fun _ _ _ h => h) (Or.inl ⟨by rfl, ?_⟩) (by assumption) ?_
            rotate_left
            · (intro w hSw; (try dsimp only at hSw); go_simp <;> with_reducible rfl)
            try simp only [Act.put, List.setIfInBounds_toArray, List.set_cons_zero, List.set_cons_succ]
            refine take10 (i := 6) (oi := _) (v := ?_) (d := some 122) rfl (by kernel_rfl) (by kernel_rfl) (by kernel_rfl) (by kernel_rfl) (fun _ _ _ h => h) (Or.inl ⟨by rfl, ?_⟩) (by assumption) ?_
            rotate_left
            · (intro w hSw; (try dsimp only at hSw); go_simp <;> with_reducible rfl)
            try simp only [Act.put, List.setIfInBounds_toArray, List.set_cons_zero, List.set_cons_succ]
            refine take10 (i := 7) (oi := _) (v := ?_) (d := some 123) rfl (by kernel_rfl) (by kernel_rfl) (by kernel_rfl) (by kernel_rfl) (fun _ _ _ h => h) (Or.inl ⟨by rfl, ?_⟩) (by assumption) ?_
            rotate_left
            · (intro w hSw; (try dsimp only at hSw); go_simp <;> with_reducible rfl)
            try simp only [Act.put, List.setIfInBounds_toArray, List.set_cons_zero, List.set_cons_succ]
            refine take10 (i := 8) (oi := _) (v := ?_) (d := some 124) rfl (by kernel_rfl) (by kernel_rfl) (by kernel_rfl) (by kernel_rfl) (fun _ _ _ h => h) (Or.inl ⟨by rfl, ?_⟩) (by assumption) ?_
            rotate_left
            · (intro w hSw; (try dsimp only at hSw); go_simp <;> with_reducible rfl)
            try simp only [Act.put, List.setIfInBounds_toArray, List.set_cons_zero, List.set_cons_succ]
            refine take10 (i := 9) (oi := _) (v := ?_) (d := some 125) rfl (by kernel_rfl) (by kernel_rfl) (by kernel_rfl) (by kernel_rfl) (fun _ _ _ h => h) (Or.inl ⟨by rfl, ?_⟩) (by assumption) ?_
            rotate_left
            · (intro w hSw; (try dsimp only at hSw); go_simp <;> with_reducible rfl)
            try simp only [Act.put, List.setIfInBounds_toArray, List.set_cons_zero, List.set_cons_succ]
            have XB := HB_5
            have X8 := G8_5
            have X9 := G9_5
            have XQ : Hid (OwnS v5 w.heap.size (Value.slice a3 m d3) Q) := OO_5.out.mono (by omega)
            have XR : Hid (∀ k, (Value.slice a3 m d3).ownBlock = some k → k ≠ v1.heap.size ∧ k ≠ v2.heap.size) := fun k hk => by have := RW.out k hk; omega
            have XN : v1.heap.size ≠ v2.heap.size := by omega
            have XL8 : w.heap.size ≤ v1.heap.size := by omega
            have XL9 : w.heap.size ≤ v2.heap.size := by omega
            clear RW HB_5 G8_5 G9_5 PA_5 OO_5
            clear hl0 hz0 hl1 hz1 hl2 hz2 hl3 hz3 hl4 hz4
            generalize v1.heap.size = g8 at X8 XR XN XL8 ⊢
            generalize v2.heap.size = g9 at X9 XR XN XL9 ⊢
            obtain ⟨V, rfl⟩ : ∃ V : World, V = v5 := ⟨_, rfl⟩
    case' cw69 =>
      go_simp
      have hb : Below v1.heap.size v1 (v1.alloc (.cells #[.int .i64 0, .int .i64 0, .int .i64 0] 52)) := balloc _ _
      have hN := x3_new v1 (.int .i64 0) (.int .i64 0) (.int .i64 0) 52 v1.heap.size rfl
      have h_HB := HB_1.out.trans (hb.mono HB_1.out.size)
      have h_PA := PA_1.out.later hb
      refine hK.out _ _ ?_ (fun hHeld => ?_)
      · exact ⟨(cA.out.later (h_HB)).1.1, (cA.out.later (h_HB)).1.2.1, (cA.out.later (h_HB)).1.2.2, (cT.out.later (h_HB)).1.1, (cT.out.later (h_HB)).1.2⟩
      clear hK K
      try simp only [Act.put, List.setIfInBounds_toArray, List.set_cons_zero, List.set_cons_succ]
      generalize (v1.alloc (.cells #[.int .i64 0, .int .i64 0, .int .i64 0] 52)) = v2 at hb hN hHeld h_HB h_PA ⊢
      have HB_2 : Hid (Below w.heap.size w v2) := h_HB
      have PA_2 : Hid (OwnS v2 v0.heap.size (.slice pA n kA) xs) := h_PA
      have G9_2 : Hid (X3 v2 v1.heap.size (.int .i64 0) (.int .i64 0) (.int .i64 0)) := hN
      have hl1 : w.heap.size ≤ v1.heap.size := HB_1.out.size
      have hz1 : v1.heap.size < v2.heap.size := hN.lt
      clear hb hN h_HB HB_1 h_PA PA_1
      refine wpAnyH_ready (rs := [3, 10]) (by kernel_rfl) (by simp) ?_
      refine AllReadyH.cons (o := _) rfl (fun K hK => ?cw93) (AllReadyH.cons (o := _) rfl (fun K hK => ?cw94) AllReadyH.nil)
      case' cw93 =>
        go_simp
        refine (toCoverStep_c kk s v2).mono ?_
        rintro e v3 ⟨rfl, hb⟩
        have HB_3 : Hid (Below w.heap.size w v3) := HB_2.out.trans (hb.mono HB_2.out.size)
        have PA_3 : Hid (OwnS v3 v0.heap.size (.slice pA n kA) xs) := PA_2.out.later hb
        have G9_3 : Hid (X3 v3 v1.heap.size (.int .i64 0) (.int .i64 0) (.int .i64 0)) := G9_2.out.later hb
        have hz2 : v2.heap.size ≤ v3.heap.size := hb.size
        have hl2 : w.heap.size ≤ v2.heap.size := HB_2.out.size
        refine hK.out _ _ ?_ (fun hHeld => ?_)
        · exact ⟨(cA.out.later (HB_3.out)).1.1, (cA.out.later (HB_3.out)).1.2.1, (cA.out.later (HB_3.out)).1.2.2, (cT.out.later (HB_3.out)).1.1, (cT.out.later (HB_3.out)).1.2⟩
        clear hK K hb HB_2 PA_2 G9_2
        try simp only [Act.put, List.setIfInBounds_toArray, List.set_cons_zero, List.set_cons_succ]
        refine wpAnyH_ready (rs := [4, 10]) (by kernel_rfl) (by simp) ?_
        refine AllReadyH.cons (o := _) rfl (fun K hK => ?cw95) (AllReadyH.cons (o := _) rfl (fun K hK => ?cw96) AllReadyH.nil)
        case' cw95 =>
          go_simp
          refine (qs pA kA v3 hn PA_3.out.ok).mono ?_
          rintro e v4 ⟨a3, d3, rfl, ho, hb⟩
          have HB_4 : Hid (Below w.heap.size w v4) := HB_3.out.trans (hb.mono HB_3.out.size)
          have PA_4 : Hid (OwnS v4 v0.heap.size (.slice pA n kA) xs) := PA_3.out.later hb
          have G9_4 : Hid (X3 v4 v1.heap.size (.int .i64 0) (.int .i64 0) (.int .i64 0)) := G9_3.out.later hb
          have OO_4 : Hid (OwnS v4 v3.heap.size (Value.slice a3 m d3) Q) := ho
          have RW : Hid (∀ k, (Value.slice a3 m d3).ownBlock = some k → v3.heap.size ≤ k ∧ k < v4.heap.size) := World.ownsRow.lt ho
          have hz3 : v3.heap.size ≤ v4.heap.size := hb.size
          have hl3 : w.heap.size ≤ v3.heap.size := HB_3.out.size
          refine hK.out _ _ ?_ (fun hHeld => ?_)
          · exact ⟨(cA.out.later (HB_4.out)).1.1, (cA.out.later (HB_4.out)).1.2.1, (cA.out.later (HB_4.out)).1.2.2, (cT.out.later (HB_4.out)).1.1, (cT.out.later (HB_4.out)).1.2⟩
          clear hK K hb HB_3 PA_3 G9_3
          try simp only [Act.put, List.setIfInBounds_toArray, List.set_cons_zero, List.set_cons_succ]
          refine take10 (i := 5) (oi := _) (v := ?_) (d := some 116) rfl (by kernel_rfl) (by kernel_rfl) (by kernel_rfl) (by kernel_rfl) (fun _ _ _ h => h) (Or.inl ⟨by rfl, ?_⟩) (by assumption) ?_
          rotate_left
          · (intro w hSw; (try dsimp only at hSw); go_simp <;> with_reducible rfl)
          try simp only [Act.put, List.setIfInBounds_toArray, List.set_cons_zero, List.set_cons_succ]
          refine take10 (i := 6) (oi := _) (v := ?_) (d := some 122) rfl (by kernel_rfl) (by kernel_rfl) (by kernel_rfl) (by kernel_rfl) (fun _ _ _ h => h) (Or.inl ⟨by rfl, ?_⟩) (by assumption) ?_
          rotate_left
          · (intro w hSw; (try dsimp only at hSw); go_simp <;> with_reducible rfl)
          try simp only [Act.put, List.setIfInBounds_toArray, List.set_cons_zero, List.set_cons_succ]
          refine take10 (i := 7) (oi := _) (v := ?_) (d := some 123) rfl (by kernel_rfl) (by kernel_rfl) (by kernel_rfl) (by kernel_rfl) (fun _ _ _ h => h) (Or.inl ⟨by rfl, ?_⟩) (by assumption) ?_
          rotate_left
          · (intro w hSw; (try dsimp only at hSw); go_simp <;> with_reducible rfl)
          try simp only [Act.put, List.setIfInBounds_toArray, List.set_cons_zero, List.set_cons_succ]
          refine take10 (i := 8) (oi := _) (v := ?_) (d := some 124) rfl (by kernel_rfl) (by kernel_rfl) (by kernel_rfl) (by kernel_rfl) (fun _ _ _ h => h) (Or.inl ⟨by rfl, ?_⟩) (by assumption) ?_
          rotate_left
          · (intro w hSw; (try dsimp only at hSw); go_simp <;> with_reducible rfl)
          try simp only [Act.put, List.setIfInBounds_toArray, List.set_cons_zero, List.set_cons_succ]
          refine take10 (i := 9) (oi := _) (v := ?_) (d := some 125) rfl (by kernel_rfl) (by kernel_rfl) (by kernel_rfl) (by kernel_rfl) (fun _ _ _ h => h) (Or.inl ⟨by rfl, ?_⟩) (by assumption) ?_
          rotate_left
          · (intro w hSw; (try dsimp only at hSw); go_simp <;> with_reducible rfl)
          try simp only [Act.put, List.setIfInBounds_toArray, List.set_cons_zero, List.set_cons_succ]
          refine wpAnyH_ready (rs := [10]) (by kernel_rfl) (by simp) ?_
          refine AllReadyH.cons (o := _) rfl (fun K hK => ?cw97) AllReadyH.nil
          case' cw97 =>
            go_simp
            have hb : Below v4.heap.size v4 (v4.alloc (.cells #[.slice none 0 0, .int .i64 0, .int .i64 0] 45)) := balloc _ _
            have hN := x3_new v4 (.slice none 0 0) (.int .i64 0) (.int .i64 0) 45 v4.heap.size rfl
            have h_HB := HB_4.out.trans (hb.mono HB_4.out.size)
            have h_PA := PA_4.out.later hb
            have h_G9 := G9_4.out.later hb
            have h_OO := OO_4.out.later hb
            refine hK.out _ _ ?_ (fun hHeld => ?_)
            · exact ⟨(cA.out.later (h_HB)).1.1, (cA.out.later (h_HB)).1.2.1, (cA.out.later (h_HB)).1.2.2, (cT.out.later (h_HB)).1.1, (cT.out.later (h_HB)).1.2⟩
            clear hK K
            try simp only [Act.put, List.setIfInBounds_toArray, List.set_cons_zero, List.set_cons_succ]
            generalize (v4.alloc (.cells #[.slice none 0 0, .int .i64 0, .int .i64 0] 45)) = v5 at hb hN hHeld h_HB h_PA h_G9 h_OO ⊢
            have HB_5 : Hid (Below w.heap.size w v5) := h_HB
            have PA_5 : Hid (OwnS v5 v0.heap.size (.slice pA n kA) xs) := h_PA
            have G9_5 : Hid (X3 v5 v1.heap.size (.int .i64 0) (.int .i64 0) (.int .i64 0)) := h_G9
            have OO_5 : Hid (OwnS v5 v3.heap.size (Value.slice a3 m d3) Q) := h_OO
            have G8_5 : Hid (X3 v5 v4.heap.size (.slice none 0 0) (.int .i64 0) (.int .i64 0)) := hN
            have hl4 : w.heap.size ≤ v4.heap.size := HB_4.out.size
            have hz4 : v4.heap.size < v5.heap.size := hN.lt
            clear hb hN h_HB HB_4 h_PA h_G9 h_OO PA_4 G9_4 OO_4
            have XB := HB_5
            have X8 := G8_5
            have X9 := G9_5
            have XQ : Hid (OwnS v5 w.heap.size (Value.slice a3 m d3) Q) := OO_5.out.mono (by omega)
            have XR : Hid (∀ k, (Value.slice a3 m d3).ownBlock = some k → k ≠ v4.heap.size ∧ k ≠ v1.heap.size) := fun k hk => by have := RW.out k hk; omega
            have XN : v4.heap.size ≠ v1.heap.size := by omega
            have XL8 : w.heap.size ≤ v4.heap.size := by omega
            have XL9 : w.heap.size ≤ v1.heap.size := by omega
            clear RW HB_5 G8_5 G9_5 PA_5 OO_5
            clear hl0 hz0 hl1 hz1 hl2 hz2 hl3 hz3 hl4 hz4
            generalize v4.heap.size = g8 at X8 XR XN XL8 ⊢
            generalize v1.heap.size = g9 at X9 XR XN XL9 ⊢
            obtain ⟨V, rfl⟩ : ∃ V : World, V = v5 := ⟨_, rfl⟩
        case' cw96 =>
          go_simp
          have hb : Below v3.heap.size v3 (v3.alloc (.cells #[.slice none 0 0, .int .i64 0, .int .i64 0] 45)) := balloc _ _
          have hN := x3_new v3 (.slice none 0 0) (.int .i64 0) (.int .i64 0) 45 v3.heap.size rfl
          have h_HB := HB_3.out.trans (hb.mono HB_3.out.size)
          have h_PA := PA_3.out.later hb
          have h_G9 := G9_3.out.later hb
          refine hK.out _ _ ?_ (fun hHeld => ?_)
          · exact ⟨(cA.out.later (h_HB)).1.1, (cA.out.later (h_HB)).1.2.1, (cA.out.later (h_HB)).1.2.2, (cT.out.later (h_HB)).1.1, (cT.out.later (h_HB)).1.2⟩
          clear hK K
          try simp only [Act.put, List.setIfInBounds_toArray, List.set_cons_zero, List.set_cons_succ]
          generalize (v3.alloc (.cells #[.slice none 0 0, .int .i64 0, .int .i64 0] 45)) = v4 at hb hN hHeld h_HB h_PA h_G9 ⊢
          have HB_4 : Hid (Below w.heap.size w v4) := h_HB
          have PA_4 : Hid (OwnS v4 v0.heap.size (.slice pA n kA) xs) := h_PA
          have G9_4 : Hid (X3 v4 v1.heap.size (.int .i64 0) (.int .i64 0) (.int .i64 0)) := h_G9
          have G8_4 : Hid (X3 v4 v3.heap.size (.slice none 0 0) (.int .i64 0) (.int .i64 0)) := hN
          have hl3 : w.heap.size ≤ v3.heap.size := HB_3.out.size
          have hz3 : v3.heap.size < v4.heap.size := hN.lt
          clear hb hN h_HB HB_3 h_PA h_G9 PA_3 G9_3
          refine wpAnyH_ready (rs := [4]) (by kernel_rfl) (by simp) ?_
          refine AllReadyH.cons (o := _) rfl (fun K hK => ?cw98) AllReadyH.nil
          case' cw98 =>
            go_simp
            refine (qs pA kA v4 hn PA_4.out.ok).mono ?_
            rintro e v5 ⟨a3, d3, rfl, ho, hb⟩
            have HB_5 : Hid (Below w.heap.size w v5) := HB_4.out.trans (hb.mono HB_4.out.size)
            have PA_5 : Hid (OwnS v5 v0.heap.size (.slice pA n kA) xs) := PA_4.out.later hb
            have G9_5 : Hid (X3 v5 v1.heap.size (.int .i64 0) (.int .i64 0) (.int .i64 0)) := G9_4.out.later hb
            have G8_5 : Hid (X3 v5 v3.heap.size (.slice none 0 0) (.int .i64 0) (.int .i64 0)) := G8_4.out.later hb
            have OO_5 : Hid (OwnS v5 v4.heap.size (Value.slice a3 m d3) Q) := ho
            have RW : Hid (∀ k, (Value.slice a3 m d3).ownBlock = some k → v4.heap.size ≤ k ∧ k < v5.heap.size) := World.ownsRow.lt ho
            have hz4 : v4.heap.size ≤ v5.heap.size := hb.size
            have hl4 : w.heap.size ≤ v4.heap.size := HB_4.out.size
            refine hK.out _ _ ?_ (fun hHeld => ?_)
            · exact ⟨(cA.out.later (HB_5.out)).1.1, (cA.out.later (HB_5.out)).1.2.1, (cA.out.later (HB_5.out)).1.2.2, (cT.out.later (HB_5.out)).1.1, (cT.out.later (HB_5.out)).1.2⟩
            clear hK K hb HB_4 PA_4 G9_4 G8_4
            try simp only [Act.put, List.setIfInBounds_toArray, List.set_cons_zero, List.set_cons_succ]
            refine take10 (i := 5) (oi := _) (v := ?_) (d := some 116) rfl (by kernel_rfl) (by kernel_rfl) (by kernel_rfl) (by kernel_rfl) (fun _ _ _ h => h) (Or.inl ⟨by rfl, ?_⟩) (by assumption) ?_
            rotate_left
            · (intro w hSw; (try dsimp only at hSw); go_simp <;> with_reducible rfl)
            try simp only [Act.put, List.setIfInBounds_toArray, List.set_cons_zero, List.set_cons_succ]
            refine take10 (i := 6) (oi := _) (v := ?_) (d := some 122) rfl (by kernel_rfl) (by kernel_rfl) (by kernel_rfl) (by kernel_rfl) (fun _ _ _ h => h) (Or.inl ⟨by rfl, ?_⟩) (by assumption) ?_
            rotate_left
            · (intro w hSw; (try dsimp only at hSw); go_simp <;> with_reducible rfl)
            try simp only [Act.put, List.setIfInBounds_toArray, List.set_cons_zero, List.set_cons_succ]
            refine take10 (i := 7) (oi := _) (v := ?_) (d := some 123) rfl (by kernel_rfl) (by kernel_rfl) (by kernel_rfl) (by kernel_rfl) (fun _ _ _ h => h) (Or.inl ⟨by rfl, ?_⟩) (by assumption) ?_
            rotate_left
            · (intro w hSw; (try dsimp only at hSw); go_simp <;> with_reducible rfl)
            try simp only [Act.put, List.setIfInBounds_toArray, List.set_cons_zero, List.set_cons_succ]
            refine take10 (i := 8) (oi := _) (v := ?_) (d := some 124) rfl (by kernel_rfl) (by kernel_rfl) (by kernel_rfl) (by kernel_rfl) (fun _ _ _ h => h) (Or.inl ⟨by rfl, ?_⟩) (by assumption) ?_
            rotate_left
            · (intro w hSw; (try dsimp only at hSw); go_simp <;> with_reducible rfl)
            try simp only [Act.put, List.setIfInBounds_toArray, List.set_cons_zero, List.set_cons_succ]
            refine take10 (i := 9) (oi := _) (v := ?_) (d := some 125) rfl (by kernel_rfl) (by kernel_rfl) (by kernel_rfl) (by kernel_rfl) (fun _ _ _ h => h) (Or.inl ⟨by rfl, ?_⟩) (by assumption) ?_
            rotate_left
            · (intro w hSw; (try dsimp only at hSw); go_simp <;> with_reducible rfl)
            try simp only [Act.put, List.setIfInBounds_toArray, List.set_cons_zero, List.set_cons_succ]
            have XB := HB_5
            have X8 := G8_5
            have X9 := G9_5
            have XQ : Hid (OwnS v5 w.heap.size (Value.slice a3 m d3) Q) := OO_5.out.mono (by omega)
            have XR : Hid (∀ k, (Value.slice a3 m d3).ownBlock = some k → k ≠ v3.heap.size ∧ k ≠ v1.heap.size) := fun k hk => by have := RW.out k hk; omega
            have XN : v3.heap.size ≠ v1.heap.size := by omega
            have XL8 : w.heap.size ≤ v3.heap.size := by omega
            have XL9 : w.heap.size ≤ v1.heap.size := by omega
            clear RW HB_5 G8_5 G9_5 PA_5 OO_5
            clear hl0 hz0 hl1 hz1 hl2 hz2 hl3 hz3 hl4 hz4
            generalize v3.heap.size = g8 at X8 XR XN XL8 ⊢
            generalize v1.heap.size = g9 at X9 XR XN XL9 ⊢
            obtain ⟨V, rfl⟩ : ∃ V : World, V = v5 := ⟨_, rfl⟩
      case' cw94 =>
        go_simp
        have hb : Below v2.heap.size v2 (v2.alloc (.cells #[.slice none 0 0, .int .i64 0, .int .i64 0] 45)) := balloc _ _
        have hN := x3_new v2 (.slice none 0 0) (.int .i64 0) (.int .i64 0) 45 v2.heap.size rfl
        have h_HB := HB_2.out.trans (hb.mono HB_2.out.size)
        have h_PA := PA_2.out.later hb
        have h_G9 := G9_2.out.later hb
        refine hK.out _ _ ?_ (fun hHeld => ?_)
        · exact ⟨(cA.out.later (h_HB)).1.1, (cA.out.later (h_HB)).1.2.1, (cA.out.later (h_HB)).1.2.2, (cT.out.later (h_HB)).1.1, (cT.out.later (h_HB)).1.2⟩
        clear hK K
        try simp only [Act.put, List.setIfInBounds_toArray, List.set_cons_zero, List.set_cons_succ]
        generalize (v2.alloc (.cells #[.slice none 0 0, .int .i64 0, .int .i64 0] 45)) = v3 at hb hN hHeld h_HB h_PA h_G9 ⊢
        have HB_3 : Hid (Below w.heap.size w v3) := h_HB
        have PA_3 : Hid (OwnS v3 v0.heap.size (.slice pA n kA) xs) := h_PA
        have G9_3 : Hid (X3 v3 v1.heap.size (.int .i64 0) (.int .i64 0) (.int .i64 0)) := h_G9
        have G8_3 : Hid (X3 v3 v2.heap.size (.slice none 0 0) (.int .i64 0) (.int .i64 0)) := hN
        have hl2 : w.heap.size ≤ v2.heap.size := HB_2.out.size
        have hz2 : v2.heap.size < v3.heap.size := hN.lt
        clear hb hN h_HB HB_2 h_PA h_G9 PA_2 G9_2
        refine wpAnyH_ready (rs := [3]) (by kernel_rfl) (by simp) ?_
        refine AllReadyH.cons (o := _) rfl (fun K hK => ?cw99) AllReadyH.nil
        case' cw99 =>
          go_simp
          refine (toCoverStep_c kk s v3).mono ?_
          rintro e v4 ⟨rfl, hb⟩
          have HB_4 : Hid (Below w.heap.size w v4) := HB_3.out.trans (hb.mono HB_3.out.size)
          have PA_4 : Hid (OwnS v4 v0.heap.size (.slice pA n kA) xs) := PA_3.out.later hb
          have G9_4 : Hid (X3 v4 v1.heap.size (.int .i64 0) (.int .i64 0) (.int .i64 0)) := G9_3.out.later hb
          have G8_4 : Hid (X3 v4 v2.heap.size (.slice none 0 0) (.int .i64 0) (.int .i64 0)) := G8_3.out.later hb
          have hz3 : v3.heap.size ≤ v4.heap.size := hb.size
          have hl3 : w.heap.size ≤ v3.heap.size := HB_3.out.size
          refine hK.out _ _ ?_ (fun hHeld => ?_)
          · exact ⟨(cA.out.later (HB_4.out)).1.1, (cA.out.later (HB_4.out)).1.2.1, (cA.out.later (HB_4.out)).1.2.2, (cT.out.later (HB_4.out)).1.1, (cT.out.later (HB_4.out)).1.2⟩
          clear hK K hb HB_3 PA_3 G9_3 G8_3
          try simp only [Act.put, List.setIfInBounds_toArray, List.set_cons_zero, List.set_cons_succ]
          refine wpAnyH_ready (rs := [4]) (by kernel_rfl) (by simp) ?_
          refine AllReadyH.cons (o := _) rfl (fun K hK => ?cw100) AllReadyH.nil
          case' cw100 =>
            go_simp
            refine (qs pA kA v4 hn PA_4.out.ok).mono ?_
            rintro e v5 ⟨a3, d3, rfl, ho, hb⟩
            have HB_5 : Hid (Below w.heap.size w v5) := HB_4.out.trans (hb.mono HB_4.out.size)
            have PA_5 : Hid (OwnS v5 v0.heap.size (.slice pA n kA) xs) := PA_4.out.later hb
            have G9_5 : Hid (X3 v5 v1.heap.size (.int .i64 0) (.int .i64 0) (.int .i64 0)) := G9_4.out.later hb
            have G8_5 : Hid (X3 v5 v2.heap.size (.slice none 0 0) (.int .i64 0) (.int .i64 0)) := G8_4.out.later hb
            have OO_5 : Hid (OwnS v5 v4.heap.size (Value.slice a3 m d3) Q) := ho
            have RW : Hid (∀ k, (Value.slice a3 m d3).ownBlock = some k → v4.heap.size ≤ k ∧ k < v5.heap.size) := World.ownsRow.lt ho
            have hz4 : v4.heap.size ≤ v5.heap.size := hb.size
            have hl4 : w.heap.size ≤ v4.heap.size := HB_4.out.size
            refine hK.out _ _ ?_ (fun hHeld => ?_)
            · exact ⟨(cA.out.later (HB_5.out)).1.1, (cA.out.later (HB_5.out)).1.2.1, (cA.out.later (HB_5.out)).1.2.2, (cT.out.later (HB_5.out)).1.1, (cT.out.later (HB_5.out)).1.2⟩
            clear hK K hb HB_4 PA_4 G9_4 G8_4
            try simp only [Act.put, List.setIfInBounds_toArray, List.set_cons_zero, List.set_cons_succ]
            refine take10 (i := 5) (oi := _) (v := ?_) (d := some 116) rfl (by kernel_rfl) (by kernel_rfl) (by kernel_rfl) (by kernel_rfl) (fun _ _ _ h => h) (Or.inl ⟨by rfl, ?_⟩) (by assumption) ?_
            rotate_left
            · (intro w hSw; (try dsimp only at hSw); go_simp <;> with_reducible rfl)
            try simp only [Act.put, List.setIfInBounds_toArray, List.set_cons_zero, List.set_cons_succ]
            refine take10 (i := 6) (oi := _) (v := ?_) (d := some 122) rfl (by kernel_rfl) (by kernel_rfl) (by kernel_rfl) (by kernel_rfl) (fun _ _ _ h => h) (Or.inl ⟨by rfl, ?_⟩) (by assumption) ?_
            rotate_left
            · (intro w hSw; (try dsimp only at hSw); go_simp <;> with_reducible rfl)
            try simp only [Act.put, List.setIfInBounds_toArray, List.set_cons_zero, List.set_cons_succ]
            refine take10 (i := 7) (oi := _) (v := ?_) (d := some 123) rfl (by kernel_rfl) (by kernel_rfl) (by kernel_rfl) (by kernel_rfl) (fun _ _ _ h => h) (Or.inl ⟨by rfl, ?_⟩) (by assumption) ?_
            rotate_left
            · (intro w hSw; (try dsimp only at hSw); go_simp <;> with_reducible rfl)
            try simp only [Act.put, List.setIfInBounds_toArray, List.set_cons_zero, List.set_cons_succ]
            refine take10 (i := 8) (oi := _) (v := ?_) (d := some 124) rfl (by kernel_rfl) (by kernel_rfl) (by kernel_rfl) (by kernel_rfl) (fun _ _ _ h => h) (Or.inl ⟨by rfl, ?_⟩) (by assumption) ?_
            rotate_left
            · (intro w hSw; (try dsimp only at hSw); go_simp <;> with_reducible rfl)
            try simp only [Act.put, List.setIfInBounds_toArray, List.set_cons_zero, List.set_cons_succ]
            refine take10 (i := 9) (oi := _) (v := ?_) (d := some 125) rfl (by kernel_rfl) (by kernel_rfl) (by kernel_rfl) (by kernel_rfl) (fun _ _ _ h => h) (Or.inl ⟨by rfl, ?_⟩) (by assumption) ?_
            rotate_left
            · (intro w hSw; (try dsimp only at hSw); go_simp <;> with_reducible rfl)
            try simp only [Act.put, List.setIfInBounds_toArray, List.set_cons_zero, List.set_cons_succ]
            have XB := HB_5
            have X8 := G8_5
            have X9 := G9_5
            have XQ : Hid (OwnS v5 w.heap.size (Value.slice a3 m d3) Q) := OO_5.out.mono (by omega)
            have XR : Hid (∀ k, (Value.slice a3 m d3).ownBlock = some k → k ≠ v2.heap.size ∧ k ≠ v1.heap.size) := fun k hk => by have := RW.out k hk; omega
            have XN : v2.heap.size ≠ v1.heap.size := by omega
            have XL8 : w.heap.size ≤ v2.heap.size := by omega
            have XL9 : w.heap.size ≤ v1.heap.size := by omega
            clear RW HB_5 G8_5 G9_5 PA_5 OO_5
            clear hl0 hz0 hl1 hz1 hl2 hz2 hl3 hz3 hl4 hz4
            generalize v2.heap.size = g8 at X8 XR XN XL8 ⊢
            generalize v1.heap.size = g9 at X9 XR XN XL9 ⊢
            obtain ⟨V, rfl⟩ : ∃ V : World, V = v5 := ⟨_, rfl⟩
  case' cw65 =>
    go_simp
    have hb : Below v0.heap.size v0 (v0.alloc (.cells #[.slice none 0 0, .int .i64 0, .int .i64 0] 45)) := balloc _ _
    have hN := x3_new v0 (.slice none 0 0) (.int .i64 0) (.int .i64 0) 45 v0.heap.size rfl
    have h_HB := HB_0.out.trans (hb.mono HB_0.out.size)
    refine hK.out _ _ ?_ (fun hHeld => ?_)
    · exact ⟨(cA.out.later (h_HB)).1.1, (cA.out.later (h_HB)).1.2.1, (cA.out.later (h_HB)).1.2.2, (cT.out.later (h_HB)).1.1, (cT.out.later (h_HB)).1.2⟩
    clear hK K
    try simp only [Act.put, List.setIfInBounds_toArray, List.set_cons_zero, List.set_cons_succ]
    generalize (v0.alloc (.cells #[.slice none 0 0, .int .i64 0, .int .i64 0] 45)) = v1 at hb hN hHeld h_HB  ⊢
    have HB_1 : Hid (Below w.heap.size w v1) := h_HB
    have G8_1 : Hid (X3 v1 v0.heap.size (.slice none 0 0) (.int .i64 0) (.int .i64 0)) := hN
    have hl0 : w.heap.size ≤ v0.heap.size := HB_0.out.size
    have hz0 : v0.heap.size < v1.heap.size := hN.lt
    clear hb hN h_HB HB_0  
    refine wpAnyH_ready (rs := [1, 11]) (by kernel_rfl) (by simp) ?_
    refine AllReadyH.cons (o := _) rfl (fun K hK => ?cw101) (AllReadyH.cons (o := _) rfl (fun K hK => ?cw102) AllReadyH.nil)
    case' cw101 =>
      go_simp
      refine (toClient_c ao n c t y xs v1 hx (by omega) (hrp.later HB_1.out)).mono ?_
      rintro e v2 ⟨pA, kA, rfl, ho, hb⟩
      have HB_2 : Hid (Below w.heap.size w v2) := HB_1.out.trans (hb.mono HB_1.out.size)
      have G8_2 : Hid (X3 v2 v0.heap.size (.slice none 0 0) (.int .i64 0) (.int .i64 0)) := G8_1.out.later hb
      have PA_2 : Hid (OwnS v2 v1.heap.size (.slice pA n kA) xs) := ho
      have hz1 : v1.heap.size ≤ v2.heap.size := hb.size
      have hl1 : w.heap.size ≤ v1.heap.size := HB_1.out.size
      refine hK.out _ _ ?_ (fun hHeld => ?_)
      · exact ⟨(cA.out.later (HB_2.out)).1.1, (cA.out.later (HB_2.out)).1.2.1, (cA.out.later (HB_2.out)).1.2.2, (cT.out.later (HB_2.out)).1.1, (cT.out.later (HB_2.out)).1.2⟩
      clear hK K hb HB_1 G8_1
      try simp only [Act.put, List.setIfInBounds_toArray, List.set_cons_zero, List.set_cons_succ]
      refine wpAnyH_ready (rs := [3, 11]) (by kernel_rfl) (by simp) ?_
      refine AllReadyH.cons (o := _) rfl (fun K hK => ?cw103) (AllReadyH.cons (o := _) rfl (fun K hK => ?cw104) AllReadyH.nil)
      case' cw103 =>
        go_simp
        refine (toCoverStep_c kk s v2).mono ?_
        rintro e v3 ⟨rfl, hb⟩
        have HB_3 : Hid (Below w.heap.size w v3) := HB_2.out.trans (hb.mono HB_2.out.size)
        have G8_3 : Hid (X3 v3 v0.heap.size (.slice none 0 0) (.int .i64 0) (.int .i64 0)) := G8_2.out.later hb
        have PA_3 : Hid (OwnS v3 v1.heap.size (.slice pA n kA) xs) := PA_2.out.later hb
        have hz2 : v2.heap.size ≤ v3.heap.size := hb.size
        have hl2 : w.heap.size ≤ v2.heap.size := HB_2.out.size
        refine hK.out _ _ ?_ (fun hHeld => ?_)
        · exact ⟨(cA.out.later (HB_3.out)).1.1, (cA.out.later (HB_3.out)).1.2.1, (cA.out.later (HB_3.out)).1.2.2, (cT.out.later (HB_3.out)).1.1, (cT.out.later (HB_3.out)).1.2⟩
        clear hK K hb HB_2 G8_2 PA_2
        try simp only [Act.put, List.setIfInBounds_toArray, List.set_cons_zero, List.set_cons_succ]
        refine wpAnyH_ready (rs := [4, 11]) (by kernel_rfl) (by simp) ?_
        refine AllReadyH.cons (o := _) rfl (fun K hK => ?cw105) (AllReadyH.cons (o := _) rfl (fun K hK => ?cw106) AllReadyH.nil)
        case' cw105 =>
          go_simp
          refine (qs pA kA v3 hn PA_3.out.ok).mono ?_
          rintro e v4 ⟨a3, d3, rfl, ho, hb⟩
          have HB_4 : Hid (Below w.heap.size w v4) := HB_3.out.trans (hb.mono HB_3.out.size)
          have G8_4 : Hid (X3 v4 v0.heap.size (.slice none 0 0) (.int .i64 0) (.int .i64 0)) := G8_3.out.later hb
          have PA_4 : Hid (OwnS v4 v1.heap.size (.slice pA n kA) xs) := PA_3.out.later hb
          have OO_4 : Hid (OwnS v4 v3.heap.size (Value.slice a3 m d3) Q) := ho
          have RW : Hid (∀ k, (Value.slice a3 m d3).ownBlock = some k → v3.heap.size ≤ k ∧ k < v4.heap.size) := World.ownsRow.lt ho
          have hz3 : v3.heap.size ≤ v4.heap.size := hb.size
          have hl3 : w.heap.size ≤ v3.heap.size := HB_3.out.size
          refine hK.out _ _ ?_ (fun hHeld => ?_)
          · exact ⟨(cA.out.later (HB_4.out)).1.1, (cA.out.later (HB_4.out)).1.2.1, (cA.out.later (HB_4.out)).1.2.2, (cT.out.later (HB_4.out)).1.1, (cT.out.later (HB_4.out)).1.2⟩
          clear hK K hb HB_3 G8_3 PA_3
          try simp only [Act.put, List.setIfInBounds_toArray, List.set_cons_zero, List.set_cons_succ]
          refine take10 (i := 5) (oi := _) (v := ?_) (d := some 116) rfl (by kernel_rfl) (by kernel_rfl) (by kernel_rfl) (by kernel_rfl) (fun _ _ _ h => h) (Or.inl ⟨by rfl, ?_⟩) (by assumption) ?_
          rotate_left
          · (intro w hSw; (try dsimp only at hSw); go_simp <;> with_reducible rfl)
          try simp only [Act.put, List.setIfInBounds_toArray, List.set_cons_zero, List.set_cons_succ]
          refine take10 (i := 6) (oi := _) (v := ?_) (d := some 122) rfl (by kernel_rfl) (by kernel_rfl) (by kernel_rfl) (by kernel_rfl) (fun _ _ _ h => h) (Or.inl ⟨by rfl, ?_⟩) (by assumption) ?_
          rotate_left
          · (intro w hSw; (try dsimp only at hSw); go_simp <;> with_reducible rfl)
          try simp only [Act.put, List.setIfInBounds_toArray, List.set_cons_zero, List.set_cons_succ]
          refine take10 (i := 7) (oi := _) (v := ?_) (d := some 123) rfl (by kernel_rfl) (by kernel_rfl) (by kernel_rfl) (by kernel_rfl) (fun _ _ _ h => h) (Or.inl ⟨by rfl, ?_⟩) (by assumption) ?_
          rotate_left
          · (intro w hSw; (try dsimp only at hSw); go_simp <;> with_reducible rfl)
          try simp only [Act.put, List.setIfInBounds_toArray, List.set_cons_zero, List.set_cons_succ]
          refine take10 (i := 8) (oi := _) (v := ?_) (d := some 124) rfl (by kernel_rfl) (by kernel_rfl) (by kernel_rfl) (by kernel_rfl) (fun _ _ _ h => h) (Or.inl ⟨by rfl, ?_⟩) (by assumption) ?_
          rotate_left
          · (intro w hSw; (try dsimp only at hSw); go_simp <;> with_reducible rfl)
          try simp only [Act.put, List.setIfInBounds_toArray, List.set_cons_zero, List.set_cons_succ]
          refine take10 (i := 9) (oi := _) (v := ?_) (d := some 125) rfl (by kernel_rfl) (by kernel_rfl) (by kernel_rfl) (by kernel_rfl) (fun _ _ _ h => h) (Or.inl ⟨by rfl, ?_⟩) (by assumption) ?_
          rotate_left
          · (intro w hSw; (try dsimp only at hSw); go_simp <;> with_reducible rfl)
          try simp only [Act.put, List.setIfInBounds_toArray, List.set_cons_zero, List.set_cons_succ]
          refine wpAnyH_ready (rs := [11]) (by kernel_rfl) (by simp) ?_
          refine AllReadyH.cons (o := _) rfl (fun K hK => ?cw107) AllReadyH.nil
          case' cw107 =>
            go_simp
            have hb : Below v4.heap.size v4 (v4.alloc (.cells #[.int .i64 0, .int .i64 0, .int .i64 0] 52)) := balloc _ _
            have hN := x3_new v4 (.int .i64 0) (.int .i64 0) (.int .i64 0) 52 v4.heap.size rfl
            have h_HB := HB_4.out.trans (hb.mono HB_4.out.size)
            have h_G8 := G8_4.out.later hb
            have h_PA := PA_4.out.later hb
            have h_OO := OO_4.out.later hb
            refine hK.out _ _ ?_ (fun hHeld => ?_)
            · exact ⟨(cA.out.later (h_HB)).1.1, (cA.out.later (h_HB)).1.2.1, (cA.out.later (h_HB)).1.2.2, (cT.out.later (h_HB)).1.1, (cT.out.later (h_HB)).1.2⟩
            clear hK K
            try simp only [Act.put, List.setIfInBounds_toArray, List.set_cons_zero, List.set_cons_succ]
            generalize (v4.alloc (.cells #[.int .i64 0, .int .i64 0, .int .i64 0] 52)) = v5 at hb hN hHeld h_HB h_G8 h_PA h_OO ⊢
            have HB_5 : Hid (Below w.heap.size w v5) := h_HB
            have G8_5 : Hid (X3 v5 v0.heap.size (.slice none 0 0) (.int .i64 0) (.int .i64 0)) := h_G8
            have PA_5 : Hid (OwnS v5 v1.heap.size (.slice pA n kA) xs) := h_PA
            have OO_5 : Hid (OwnS v5 v3.heap.size (Value.slice a3 m d3) Q) := h_OO
            have G9_5 : Hid (X3 v5 v4.heap.size (.int .i64 0) (.int .i64 0) (.int .i64 0)) := hN
            have hl4 : w.heap.size ≤ v4.heap.size := HB_4.out.size
            have hz4 : v4.heap.size < v5.heap.size := hN.lt
            clear hb hN h_HB HB_4 h_G8 h_PA h_OO G8_4 PA_4 OO_4
            have XB := HB_5
            have X8 := G8_5
            have X9 := G9_5
            have XQ : Hid (OwnS v5 w.heap.size (Value.slice a3 m d3) Q) := OO_5.out.mono (by omega)
            have XR : Hid (∀ k, (Value.slice a3 m d3).ownBlock = some k → k ≠ v0.heap.size ∧ k ≠ v4.heap.size) := fun k hk => by have := RW.out k hk; omega
            have XN : v0.heap.size ≠ v4.heap.size := by omega
            have XL8 : w.heap.size ≤ v0.heap.size := by omega
            have XL9 : w.heap.size ≤ v4.heap.size := by omega
            clear RW HB_5 G8_5 G9_5 PA_5 OO_5
            clear hl0 hz0 hl1 hz1 hl2 hz2 hl3 hz3 hl4 hz4
            generalize v0.heap.size = g8 at X8 XR XN XL8 ⊢
            generalize v4.heap.size = g9 at X9 XR XN XL9 ⊢
            obtain ⟨V, rfl⟩ : ∃ V : World, V = v5 := ⟨_, rfl⟩
        case' cw106 =>
          go_simp
          have hb : Below v3.heap.size v3 (v3.alloc (.cells #[.int .i64 0, .int .i64 0, .int .i64 0] 52)) := balloc _ _
          have hN := x3_new v3 (.int .i64 0) (.int .i64 0) (.int .i64 0) 52 v3.heap.size rfl
          have h_HB := HB_3.out.trans (hb.mono HB_3.out.size)
          have h_G8 := G8_3.out.later hb
          have h_PA := PA_3.out.later hb
          refine hK.out _ _ ?_ (fun hHeld => ?_)
          · exact ⟨(cA.out.later (h_HB)).1.1, (cA.out.later (h_HB)).1.2.1, (cA.out.later (h_HB)).1.2.2, (cT.out.later (h_HB)).1.1, (cT.out.later (h_HB)).1.2⟩
          clear hK K
          try simp only [Act.put, List.setIfInBounds_toArray, List.set_cons_zero, List.set_cons_succ]
          generalize (v3.alloc (.cells #[.int .i64 0, .int .i64 0, .int .i64 0] 52)) = v4 at hb hN hHeld h_HB h_G8 h_PA ⊢
          have HB_4 : Hid (Below w.heap.size w v4) := h_HB
          have G8_4 : Hid (X3 v4 v0.heap.size (.slice none 0 0) (.int .i64 0) (.int .i64 0)) := h_G8
          have PA_4 : Hid (OwnS v4 v1.heap.size (.slice pA n kA) xs) := h_PA
          have G9_4 : Hid (X3 v4 v3.heap.size (.int .i64 0) (.int .i64 0) (.int .i64 0)) := hN
          have hl3 : w.heap.size ≤ v3.heap.size := HB_3.out.size
          have hz3 : v3.heap.size < v4.heap.size := hN.lt
          clear hb hN h_HB HB_3 h_G8 h_PA G8_3 PA_3
          refine wpAnyH_ready (rs := [4]) (by kernel_rfl) (by simp) ?_
          refine AllReadyH.cons (o := _) rfl (fun K hK => ?cw108) AllReadyH.nil
          case' cw108 =>
            go_simp
            refine (qs pA kA v4 hn PA_4.out.ok).mono ?_
            rintro e v5 ⟨a3, d3, rfl, ho, hb⟩
            have HB_5 : Hid (Below w.heap.size w v5) := HB_4.out.trans (hb.mono HB_4.out.size)
            have G8_5 : Hid (X3 v5 v0.heap.size (.slice none 0 0) (.int .i64 0) (.int .i64 0)) := G8_4.out.later hb
            have PA_5 : Hid (OwnS v5 v1.heap.size (.slice pA n kA) xs) := PA_4.out.later hb
            have G9_5 : Hid (X3 v5 v3.heap.size (.int .i64 0) (.int .i64 0) (.int .i64 0)) := G9_4.out.later hb
            have OO_5 : Hid (OwnS v5 v4.heap.size (Value.slice a3 m d3) Q) := ho
            have RW : Hid (∀ k, (Value.slice a3 m d3).ownBlock = some k → v4.heap.size ≤ k ∧ k < v5.heap.size) := World.ownsRow.lt ho
            have hz4 : v4.heap.size ≤ v5.heap.size := hb.size
            have hl4 : w.heap.size ≤ v4.heap.size := HB_4.out.size
            refine hK.out _ _ ?_ (fun hHeld => ?_)
            · exact ⟨(cA.out.later (HB_5.out)).1.1, (cA.out.later (HB_5.out)).1.2.1, (cA.out.later (HB_5.out)).1.2.2, (cT.out.later (HB_5.out)).1.1, (cT.out.later (HB_5.out)).1.2⟩
            clear hK K hb HB_4 G8_4 PA_4 G9_4
            try simp only [Act.put, List.setIfInBounds_toArray, List.set_cons_zero, List.set_cons_succ]
            refine take10 (i := 5) (oi := _) (v := ?_) (d := some 116) rfl (by kernel_rfl) (by kernel_rfl) (by kernel_rfl) (by kernel_rfl) (fun _ _ _ h => h) (Or.inl ⟨by rfl, ?_⟩) (by assumption) ?_
            rotate_left
            · (intro w hSw; (try dsimp only at hSw); go_simp <;> with_reducible rfl)
            try simp only [Act.put, List.setIfInBounds_toArray, List.set_cons_zero, List.set_cons_succ]
            refine take10 (i := 6) (oi := _) (v := ?_) (d := some 122) rfl (by kernel_rfl) (by kernel_rfl) (by kernel_rfl) (by kernel_rfl) (fun _ _ _ h => h) (Or.inl ⟨by rfl, ?_⟩) (by assumption) ?_
            rotate_left
            · (intro w hSw; (try dsimp only at hSw); go_simp <;> with_reducible rfl)
            try simp only [Act.put, List.setIfInBounds_toArray, List.set_cons_zero, List.set_cons_succ]
            refine take10 (i := 7) (oi := _) (v := ?_) (d := some 123) rfl (by kernel_rfl) (by kernel_rfl) (by kernel_rfl) (by kernel_rfl) (fun _ _ _ h => h) (Or.inl ⟨by rfl, ?_⟩) (by assumption) ?_
            rotate_left
            · (intro w hSw; (try dsimp only at hSw); go_simp <;> with_reducible rfl)
            try simp only [Act.put, List.setIfInBounds_toArray, List.set_cons_zero, List.set_cons_succ]
            refine take10 (i := 8) (oi := _) (v := ?_) (d := some 124) rfl (by kernel_rfl) (by kernel_rfl) (by kernel_rfl) (by kernel_rfl) (fun _ _ _ h => h) (Or.inl ⟨by rfl, ?_⟩) (by assumption) ?_
            rotate_left
            · (intro w hSw; (try dsimp only at hSw); go_simp <;> with_reducible rfl)
            try simp only [Act.put, List.setIfInBounds_toArray, List.set_cons_zero, List.set_cons_succ]
            refine take10 (i := 9) (oi := _) (v := ?_) (d := some 125) rfl (by kernel_rfl) (by kernel_rfl) (by kernel_rfl) (by kernel_rfl) (fun _ _ _ h => h) (Or.inl ⟨by rfl, ?_⟩) (by assumption) ?_
            rotate_left
            · (intro w hSw; (try dsimp only at hSw); go_simp <;> with_reducible rfl)
            try simp only [Act.put, List.setIfInBounds_toArray, List.set_cons_zero, List.set_cons_succ]
            have XB := HB_5
            have X8 := G8_5
            have X9 := G9_5
            have XQ : Hid (OwnS v5 w.heap.size (Value.slice a3 m d3) Q) := OO_5.out.mono (by omega)
            have XR : Hid (∀ k, (Value.slice a3 m d3).ownBlock = some k → k ≠ v0.heap.size ∧ k ≠ v3.heap.size) := fun k hk => by have := RW.out k hk; omega
            have XN : v0.heap.size ≠ v3.heap.size := by omega
            have XL8 : w.heap.size ≤ v0.heap.size := by omega
            have XL9 : w.heap.size ≤ v3.heap.size := by omega
            clear RW HB_5 G8_5 G9_5 PA_5 OO_5
            clear hl0 hz0 hl1 hz1 hl2 hz2 hl3 hz3 hl4 hz4
            generalize v0.heap.size = g8 at X8 XR XN XL8 ⊢
            generalize v3.heap.size = g9 at X9 XR XN XL9 ⊢
            obtain ⟨V, rfl⟩ : ∃ V : World, V = v5 := ⟨_, rfl⟩
      case' cw104 =>
        go_simp
        have hb : Below v2.heap.size v2 (v2.alloc (.cells #[.int .i64 0, .int .i64 0, .int .i64 0] 52)) := balloc _ _
        have hN := x3_new v2 (.int .i64 0) (.int .i64 0) (.int .i64 0) 52 v2.heap.size rfl
        have h_HB := HB_2.out.trans (hb.mono HB_2.out.size)
        have h_G8 := G8_2.out.later hb
        have h_PA := PA_2.out.later hb
        refine hK.out _ _ ?_ (fun hHeld => ?_)
        · exact ⟨(cA.out.later (h_HB)).1.1, (cA.out.later (h_HB)).1.2.1, (cA.out.later (h_HB)).1.2.2, (cT.out.later (h_HB)).1.1, (cT.out.later (h_HB)).1.2⟩
        clear hK K
        try simp only [Act.put, List.setIfInBounds_toArray, List.set_cons_zero, List.set_cons_succ]
        generalize (v2.alloc (.cells #[.int .i64 0, .int .i64 0, .int .i64 0] 52)) = v3 at hb hN hHeld h_HB h_G8 h_PA ⊢
        have HB_3 : Hid (Below w.heap.size w v3) := h_HB
        have G8_3 : Hid (X3 v3 v0.heap.size (.slice none 0 0) (.int .i64 0) (.int .i64 0)) := h_G8
        have PA_3 : Hid (OwnS v3 v1.heap.size (.slice pA n kA) xs) := h_PA
        have G9_3 : Hid (X3 v3 v2.heap.size (.int .i64 0) (.int .i64 0) (.int .i64 0)) := hN
        have hl2 : w.heap.size ≤ v2.heap.size := HB_2.out.size
        have hz2 : v2.heap.size < v3.heap.size := hN.lt
        clear hb hN h_HB HB_2 h_G8 h_PA G8_2 PA_2
        refine wpAnyH_ready (rs := [3]) (by kernel_rfl) (by simp) ?_
        refine AllReadyH.cons (o := _) rfl (fun K hK => ?cw109) AllReadyH.nil
        case' cw109 =>
          go_simp
          refine (toCoverStep_c kk s v3).mono ?_
          rintro e v4 ⟨rfl, hb⟩
          have HB_4 : Hid (Below w.heap.size w v4) := HB_3.out.trans (hb.mono HB_3.out.size)
          have G8_4 : Hid (X3 v4 v0.heap.size (.slice none 0 0) (.int .i64 0) (.int .i64 0)) := G8_3.out.later hb
          have PA_4 : Hid (OwnS v4 v1.heap.size (.slice pA n kA) xs) := PA_3.out.later hb
          have G9_4 : Hid (X3 v4 v2.heap.size (.int .i64 0) (.int .i64 0) (.int .i64 0)) := G9_3.out.later hb
          have hz3 : v3.heap.size ≤ v4.heap.size := hb.size
          have hl3 : w.heap.size ≤ v3.heap.size := HB_3.out.size
          refine hK.out _ _ ?_ (fun hHeld => ?_)
          · exact ⟨(cA.out.later (HB_4.out)).1.1, (cA.out.later (HB_4.out)).1.2.1, (cA.out.later (HB_4.out)).1.2.2, (cT.out.later (HB_4.out)).1.1, (cT.out.later (HB_4.out)).1.2⟩
          clear hK K hb HB_3 G8_3 PA_3 G9_3
          try simp only [Act.put, List.setIfInBounds_toArray, List.set_cons_zero, List.set_cons_succ]
          refine wpAnyH_ready (rs := [4]) (by kernel_rfl) (by simp) ?_
          refine AllReadyH.cons (o := _) rfl (fun K hK => ?cw110) AllReadyH.nil
          case' cw110 =>
            go_simp
            refine (qs pA kA v4 hn PA_4.out.ok).mono ?_
            rintro e v5 ⟨a3, d3, rfl, ho, hb⟩
            have HB_5 : Hid (Below w.heap.size w v5) := HB_4.out.trans (hb.mono HB_4.out.size)
            have G8_5 : Hid (X3 v5 v0.heap.size (.slice none 0 0) (.int .i64 0) (.int .i64 0)) := G8_4.out.later hb
            have PA_5 : Hid (OwnS v5 v1.heap.size (.slice pA n kA) xs) := PA_4.out.later hb
            have G9_5 : Hid (X3 v5 v2.heap.size (.int .i64 0) (.int .i64 0) (.int .i64 0)) := G9_4.out.later hb
            have OO_5 : Hid (OwnS v5 v4.heap.size (Value.slice a3 m d3) Q) := ho
            have RW : Hid (∀ k, (Value.slice a3 m d3).ownBlock = some k → v4.heap.size ≤ k ∧ k < v5.heap.size) := World.ownsRow.lt ho
            have hz4 : v4.heap.size ≤ v5.heap.size := hb.size
            have hl4 : w.heap.size ≤ v4.heap.size := HB_4.out.size
            refine hK.out _ _ ?_ (fun hHeld => ?_)
            · exact ⟨(cA.out.later (HB_5.out)).1.1, (cA.out.later (HB_5.out)).1.2.1, (cA.out.later (HB_5.out)).1.2.2, (cT.out.later (HB_5.out)).1.1, (cT.out.later (HB_5.out)).1.2⟩
            clear hK K hb HB_4 G8_4 PA_4 G9_4
            try simp only [Act.put, List.setIfInBounds_toArray, List.set_cons_zero, List.set_cons_succ]
            refine take10 (i := 5) (oi := _) (v := ?_) (d := some 116) rfl (by kernel_rfl) (by kernel_rfl) (by kernel_rfl) (by kernel_rfl) (fun _ _ _ h => h) (Or.inl ⟨by rfl, ?_⟩) (by assumption) ?_
            rotate_left
            · (intro w hSw; (try dsimp only at hSw); go_simp <;> with_reducible rfl)
            try simp only [Act.put, List.setIfInBounds_toArray, List.set_cons_zero, List.set_cons_succ]
            refine take10 (i := 6) (oi := _) (v := ?_) (d := some 122) rfl (by kernel_rfl) (by kernel_rfl) (by kernel_rfl) (by kernel_rfl) (fun _ _ _ h => h) (Or.inl ⟨by rfl, ?_⟩) (by assumption) ?_
            rotate_left
            · (intro w hSw; (try dsimp only at hSw); go_simp <;> with_reducible rfl)
            try simp only [Act.put, List.setIfInBounds_toArray, List.set_cons_zero, List.set_cons_succ]
            refine take10 (i := 7) (oi := _) (v := ?_) (d := some 123) rfl (by kernel_rfl) (by kernel_rfl) (by kernel_rfl) (by kernel_rfl) (fun _ _ _ h => h) (Or.inl ⟨by rfl, ?_⟩) (by assumption) ?_
            rotate_left
            · (intro w hSw; (try dsimp only at hSw); go_simp <;> with_reducible rfl)
            try simp only [Act.put, List.setIfInBounds_toArray, List.set_cons_zero, List.set_cons_succ]
            refine take10 (i := 8) (oi := _) (v := ?_) (d := some 124) rfl (by kernel_rfl) (by kernel_rfl) (by kernel_rfl) (by kernel_rfl) (fun _ _ _ h => h) (Or.inl ⟨by rfl, ?_⟩) (by assumption) ?_
            rotate_left
            · (intro w hSw; (try dsimp only at hSw); go_simp <;> with_reducible rfl)
            try simp only [Act.put, List.setIfInBounds_toArray, List.set_cons_zero, List.set_cons_succ]
            refine take10 (i := 9) (oi := _) (v := ?_) (d := some 125) rfl (by kernel_rfl) (by kernel_rfl) (by kernel_rfl) (by kernel_rfl) (fun _ _ _ h => h) (Or.inl ⟨by rfl, ?_⟩) (by assumption) ?_
            rotate_left
            · (intro w hSw; (try dsimp only at hSw); go_simp <;> with_reducible rfl)
            try simp only [Act.put, List.setIfInBounds_toArray, List.set_cons_zero, List.set_cons_succ]
            have XB := HB_5
            have X8 := G8_5
            have X9 := G9_5
            have XQ : Hid (OwnS v5 w.heap.size (Value.slice a3 m d3) Q) := OO_5.out.mono (by omega)
            have XR : Hid (∀ k, (Value.slice a3 m d3).ownBlock = some k → k ≠ v0.heap.size ∧ k ≠ v2.heap.size) := fun k hk => by have := RW.out k hk; omega
            have XN : v0.heap.size ≠ v2.heap.size := by omega
            have XL8 : w.heap.size ≤ v0.heap.size := by omega
            have XL9 : w.heap.size ≤ v2.heap.size := by omega
            clear RW HB_5 G8_5 G9_5 PA_5 OO_5
            clear hl0 hz0 hl1 hz1 hl2 hz2 hl3 hz3 hl4 hz4
            generalize v0.heap.size = g8 at X8 XR XN XL8 ⊢
            generalize v2.heap.size = g9 at X9 XR XN XL9 ⊢
            obtain ⟨V, rfl⟩ : ∃ V : World, V = v5 := ⟨_, rfl⟩
    case' cw102 =>
      go_simp
      have hb : Below v1.heap.size v1 (v1.alloc (.cells #[.int .i64 0, .int .i64 0, .int .i64 0] 52)) := balloc _ _
      have hN := x3_new v1 (.int .i64 0) (.int .i64 0) (.int .i64 0) 52 v1.heap.size rfl
      have h_HB := HB_1.out.trans (hb.mono HB_1.out.size)
      have h_G8 := G8_1.out.later hb
      refine hK.out _ _ ?_ (fun hHeld => ?_)
      · exact ⟨(cA.out.later (h_HB)).1.1, (cA.out.later (h_HB)).1.2.1, (cA.out.later (h_HB)).1.2.2, (cT.out.later (h_HB)).1.1, (cT.out.later (h_HB)).1.2⟩
      clear hK K
      try simp only [Act.put, List.setIfInBounds_toArray, List.set_cons_zero, List.set_cons_succ]
      generalize (v1.alloc (.cells #[.int .i64 0, .int .i64 0, .int .i64 0] 52)) = v2 at hb hN hHeld h_HB h_G8 ⊢
      have HB_2 : Hid (Below w.heap.size w v2) := h_HB
      have G8_2 : Hid (X3 v2 v0.heap.size (.slice none 0 0) (.int .i64 0) (.int .i64 0)) := h_G8
      have G9_2 : Hid (X3 v2 v1.heap.size (.int .i64 0) (.int .i64 0) (.int .i64 0)) := hN
      have hl1 : w.heap.size ≤ v1.heap.size := HB_1.out.size
      have hz1 : v1.heap.size < v2.heap.size := hN.lt
      clear hb hN h_HB HB_1 h_G8 G8_1
      refine wpAnyH_ready (rs := [1]) (by kernel_rfl) (by simp) ?_
      refine AllReadyH.cons (o := _) rfl (fun K hK => ?cw111) AllReadyH.nil
      case' cw111 =>
        go_simp
        refine (toClient_c ao n c t y xs v2 hx (by omega) (hrp.later HB_2.out)).mono ?_
        rintro e v3 ⟨pA, kA, rfl, ho, hb⟩
        have HB_3 : Hid (Below w.heap.size w v3) := HB_2.out.trans (hb.mono HB_2.out.size)
        have G8_3 : Hid (X3 v3 v0.heap.size (.slice none 0 0) (.int .i64 0) (.int .i64 0)) := G8_2.out.later hb
        have G9_3 : Hid (X3 v3 v1.heap.size (.int .i64 0) (.int .i64 0) (.int .i64 0)) := G9_2.out.later hb
        have PA_3 : Hid (OwnS v3 v2.heap.size (.slice pA n kA) xs) := ho
        have hz2 : v2.heap.size ≤ v3.heap.size := hb.size
        have hl2 : w.heap.size ≤ v2.heap.size := HB_2.out.size
        refine hK.out _ _ ?_ (fun hHeld => ?_)
        · exact ⟨(cA.out.later (HB_3.out)).1.1, (cA.out.later (HB_3.out)).1.2.1, (cA.out.later (HB_3.out)).1.2.2, (cT.out.later (HB_3.out)).1.1, (cT.out.later (HB_3.out)).1.2⟩
        clear hK K hb HB_2 G8_2 G9_2
        try simp only [Act.put, List.setIfInBounds_toArray, List.set_cons_zero, List.set_cons_succ]
        refine wpAnyH_ready (rs := [3]) (by kernel_rfl) (by simp) ?_
        refine AllReadyH.cons (o := _) rfl (fun K hK => ?cw112) AllReadyH.nil
        case' cw112 =>
          go_simp
          refine (toCoverStep_c kk s v3).mono ?_
          rintro e v4 ⟨rfl, hb⟩
          have HB_4 : Hid (Below w.heap.size w v4) := HB_3.out.trans (hb.mono HB_3.out.size)
          have G8_4 : Hid (X3 v4 v0.heap.size (.slice none 0 0) (.int .i64 0) (.int .i64 0)) := G8_3.out.later hb
          have G9_4 : Hid (X3 v4 v1.heap.size (.int .i64 0) (.int .i64 0) (.int .i64 0)) := G9_3.out.later hb
          have PA_4 : Hid (OwnS v4 v2.heap.size (.slice pA n kA) xs) := PA_3.out.later hb
          have hz3 : v3.heap.size ≤ v4.heap.size := hb.size
          have hl3 : w.heap.size ≤ v3.heap.size := HB_3.out.size
          refine hK.out _ _ ?_ (fun hHeld => ?_)
          · exact ⟨(cA.out.later (HB_4.out)).1.1, (cA.out.later (HB_4.out)).1.2.1, (cA.out.later (HB_4.out)).1.2.2, (cT.out.later (HB_4.out)).1.1, (cT.out.later (HB_4.out)).1.2⟩
          clear hK K hb HB_3 G8_3 G9_3 PA_3
          try simp only [Act.put, List.setIfInBounds_toArray, List.set_cons_zero, List.set_cons_succ]
          refine wpAnyH_ready (rs := [4]) (by kernel_rfl) (by simp) ?_
          refine AllReadyH.cons (o := _) rfl (fun K hK => ?cw113) AllReadyH.nil
          case' cw113 =>
            go_simp
            refine (qs pA kA v4 hn PA_4.out.ok).mono ?_
            rintro e v5 ⟨a3, d3, rfl, ho, hb⟩
            have HB_5 : Hid (Below w.heap.size w v5) := HB_4.out.trans (hb.mono HB_4.out.size)
            have G8_5 : Hid (X3 v5 v0.heap.size (.slice none 0 0) (.int .i64 0) (.int .i64 0)) := G8_4.out.later hb
            have G9_5 : Hid (X3 v5 v1.heap.size (.int .i64 0) (.int .i64 0) (.int .i64 0)) := G9_4.out.later hb
            have PA_5 : Hid (OwnS v5 v2.heap.size (.slice pA n kA) xs) := PA_4.out.later hb
            have OO_5 : Hid (OwnS v5 v4.heap.size (Value.slice a3 m d3) Q) := ho
            have RW : Hid (∀ k, (Value.slice a3 m d3).ownBlock = some k → v4.heap.size ≤ k ∧ k < v5.heap.size) := World.ownsRow.lt ho
            have hz4 : v4.heap.size ≤ v5.heap.size := hb.size
            have hl4 : w.heap.size ≤ v4.heap.size := HB_4.out.size
            refine hK.out _ _ ?_ (fun hHeld => ?_)
            · exact ⟨(cA.out.later (HB_5.out)).1.1, (cA.out.later (HB_5.out)).1.2.1, (cA.out.later (HB_5.out)).1.2.2, (cT.out.later (HB_5.out)).1.1, (cT.out.later (HB_5.out)).1.2⟩
            clear hK K hb HB_4 G8_4 G9_4 PA_4
            try simp only [Act.put, List.setIfInBounds_toArray, List.set_cons_zero, List.set_cons_succ]
            refine take10 (i := 5) (oi := _) (v := ?_) (d := some 116) rfl (by kernel_rfl) (by kernel_rfl) (by kernel_rfl) (by kernel_rfl) (fun _ _ _ h => h) (Or.inl ⟨by rfl, ?_⟩) (by assumption) ?_
            rotate_left
            · (intro w hSw; (try dsimp only at hSw); go_simp <;> with_reducible rfl)
            try simp only [Act.put, List.setIfInBounds_toArray, List.set_cons_zero, List.set_cons_succ]
            refine take10 (i := 6) (oi := _) (v := ?_) (d := some 122) rfl (by kernel_rfl) (by kernel_rfl) (by kernel_rfl) (by kernel_rfl) (fun _ _ _ h => h) (Or.inl ⟨by rfl, ?_⟩) (by assumption) ?_
            rotate_left
            · (intro w hSw; (try dsimp only at hSw); go_simp <;> with_reducible rfl)
            try simp only [Act.put, List.setIfInBounds_toArray, List.set_cons_zero, List.set_cons_succ]
            refine take10 (i := 7) (oi := _) (v := ?_) (d := some 123) rfl (by kernel_rfl) (by kernel_rfl) (by kernel_rfl) (by kernel_rfl) (fun _ _ _ h => h) (Or.inl ⟨by rfl, ?_⟩) (by assumption) ?_
            rotate_left
            · (intro w hSw; (try dsimp only at hSw); go_simp <;> with_reducible rfl)
            try simp only [Act.put, List.setIfInBounds_toArray, List.set_cons_zero, List.set_cons_succ]
            refine take10 (i := 8) (oi := _) (v := ?_) (d := some 124) rfl (by kernel_rfl) (by kernel_rfl) (by kernel_rfl) (by kernel_rfl) (fun _ _ _ h => h) (Or.inl ⟨by rfl, ?_⟩) (by assumption) ?_
            rotate_left
            · (intro w hSw; (try dsimp only at hSw); go_simp <;> with_reducible rfl)
            try simp only [Act.put, List.setIfInBounds_toArray, List.set_cons_zero, List.set_cons_succ]
            refine take10 (i := 9) (oi := _) (v := ?_) (d := some 125) rfl (by kernel_rfl) (by kernel_rfl) (by kernel_rfl) (by kernel_rfl) (fun _ _ _ h => h) (Or.inl ⟨by rfl, ?_⟩) (by assumption) ?_
            rotate_left
            · (intro w hSw; (try dsimp only at hSw); go_simp <;> with_reducible rfl)
            try simp only [Act.put, List.setIfInBounds_toArray, List.set_cons_zero, List.set_cons_succ]
            have XB := HB_5
            have X8 := G8_5
            have X9 := G9_5
            have XQ : Hid (OwnS v5 w.heap.size (Value.slice a3 m d3) Q) := OO_5.out.mono (by omega)
            have XR : Hid (∀ k, (Value.slice a3 m d3).ownBlock = some k → k ≠ v0.heap.size ∧ k ≠ v1.heap.size) := fun k hk => by have := RW.out k hk; omega
            have XN : v0.heap.size ≠ v1.heap.size := by omega
            have XL8 : w.heap.size ≤ v0.heap.size := by omega
            have XL9 : w.heap.size ≤ v1.heap.size := by omega
            clear RW HB_5 G8_5 G9_5 PA_5 OO_5
            clear hl0 hz0 hl1 hz1 hl2 hz2 hl3 hz3 hl4 hz4
            generalize v0.heap.size = g8 at X8 XR XN XL8 ⊢
            generalize v1.heap.size = g9 at X9 XR XN XL9 ⊢
            obtain ⟨V, rfl⟩ : ∃ V : World, V = v5 := ⟨_, rfl⟩
  case' cw66 =>
    go_simp
    have hb : Below v0.heap.size v0 (v0.alloc (.cells #[.int .i64 0, .int .i64 0, .int .i64 0] 52)) := balloc _ _
    have hN := x3_new v0 (.int .i64 0) (.int .i64 0) (.int .i64 0) 52 v0.heap.size rfl
    have h_HB := HB_0.out.trans (hb.mono HB_0.out.size)
    refine hK.out _ _ ?_ (fun hHeld => ?_)
    · exact ⟨(cA.out.later (h_HB)).1.1, (cA.out.later (h_HB)).1.2.1, (cA.out.later (h_HB)).1.2.2, (cT.out.later (h_HB)).1.1, (cT.out.later (h_HB)).1.2⟩
    clear hK K
    try simp only [Act.put, List.setIfInBounds_toArray, List.set_cons_zero, List.set_cons_succ]
    generalize (v0.alloc (.cells #[.int .i64 0, .int .i64 0, .int .i64 0] 52)) = v1 at hb hN hHeld h_HB  ⊢
    have HB_1 : Hid (Below w.heap.size w v1) := h_HB
    have G9_1 : Hid (X3 v1 v0.heap.size (.int .i64 0) (.int .i64 0) (.int .i64 0)) := hN
    have hl0 : w.heap.size ≤ v0.heap.size := HB_0.out.size
    have hz0 : v0.heap.size < v1.heap.size := hN.lt
    clear hb hN h_HB HB_0  
    refine wpAnyH_ready (rs := [1, 10]) (by kernel_rfl) (by simp) ?_
    refine AllReadyH.cons (o := _) rfl (fun K hK => ?cw114) (AllReadyH.cons (o := _) rfl (fun K hK => ?cw115) AllReadyH.nil)
    case' cw114 =>
      go_simp
      refine (toClient_c ao n c t y xs v1 hx (by omega) (hrp.later HB_1.out)).mono ?_
      rintro e v2 ⟨pA, kA, rfl, ho, hb⟩
      have HB_2 : Hid (Below w.heap.size w v2) := HB_1.out.trans (hb.mono HB_1.out.size)
      have G9_2 : Hid (X3 v2 v0.heap.size (.int .i64 0) (.int .i64 0) (.int .i64 0)) := G9_1.out.later hb
      have PA_2 : Hid (OwnS v2 v1.heap.size (.slice pA n kA) xs) := ho
      have hz1 : v1.heap.size ≤ v2.heap.size := hb.size
      have hl1 : w.heap.size ≤ v1.heap.size := HB_1.out.size
      refine hK.out _ _ ?_ (fun hHeld => ?_)
      · exact ⟨(cA.out.later (HB_2.out)).1.1, (cA.out.later (HB_2.out)).1.2.1, (cA.out.later (HB_2.out)).1.2.2, (cT.out.later (HB_2.out)).1.1, (cT.out.later (HB_2.out)).1.2⟩
      clear hK K hb HB_1 G9_1
      try simp only [Act.put, List.setIfInBounds_toArray, List.set_cons_zero, List.set_cons_succ]
      refine wpAnyH_ready (rs := [3, 10]) (by kernel_rfl) (by simp) ?_
      refine AllReadyH.cons (o := _) rfl (fun K hK => ?cw116) (AllReadyH.cons (o := _) rfl (fun K hK => ?cw117) AllReadyH.nil)
      case' cw116 =>
        go_simp
        refine (toCoverStep_c kk s v2).mono ?_
        rintro e v3 ⟨rfl, hb⟩
        have HB_3 : Hid (Below w.heap.size w v3) := HB_2.out.trans (hb.mono HB_2.out.size)
        have G9_3 : Hid (X3 v3 v0.heap.size (.int .i64 0) (.int .i64 0) (.int .i64 0)) := G9_2.out.later hb
        have PA_3 : Hid (OwnS v3 v1.heap.size (.slice pA n kA) xs) := PA_2.out.later hb
        have hz2 : v2.heap.size ≤ v3.heap.size := hb.size
        have hl2 : w.heap.size ≤ v2.heap.size := HB_2.out.size
        refine hK.out _ _ ?_ (fun hHeld => ?_)
        · exact ⟨(cA.out.later (HB_3.out)).1.1, (cA.out.later (HB_3.out)).1.2.1, (cA.out.later (HB_3.out)).1.2.2, (cT.out.later (HB_3.out)).1.1, (cT.out.later (HB_3.out)).1.2⟩
        clear hK K hb HB_2 G9_2 PA_2
        try simp only [Act.put, List.setIfInBounds_toArray, List.set_cons_zero, List.set_cons_succ]
        refine wpAnyH_ready (rs := [4, 10]) (by kernel_rfl) (by simp) ?_
        refine AllReadyH.cons (o := _) rfl (fun K hK => ?cw118) (AllReadyH.cons (o := _) rfl (fun K hK => ?cw119) AllReadyH.nil)
        case' cw118 =>
          go_simp
          refine (qs pA kA v3 hn PA_3.out.ok).mono ?_
          rintro e v4 ⟨a3, d3, rfl, ho, hb⟩
          have HB_4 : Hid (Below w.heap.size w v4) := HB_3.out.trans (hb.mono HB_3.out.size)
          have G9_4 : Hid (X3 v4 v0.heap.size (.int .i64 0) (.int .i64 0) (.int .i64 0)) := G9_3.out.later hb
          have PA_4 : Hid (OwnS v4 v1.heap.size (.slice pA n kA) xs) := PA_3.out.later hb
          have OO_4 : Hid (OwnS v4 v3.heap.size (Value.slice a3 m d3) Q) := ho
          have RW : Hid (∀ k, (Value.slice a3 m d3).ownBlock = some k → v3.heap.size ≤ k ∧ k < v4.heap.size) := World.ownsRow.lt ho
          have hz3 : v3.heap.size ≤ v4.heap.size := hb.size
          have hl3 : w.heap.size ≤ v3.heap.size := HB_3.out.size
          refine hK.out _ _ ?_ (fun hHeld => ?_)
          · exact ⟨(cA.out.later (HB_4.out)).1.1, (cA.out.later (HB_4.out)).1.2.1, (cA.out.later (HB_4.out)).1.2.2, (cT.out.later (HB_4.out)).1.1, (cT.out.later (HB_4.out)).1.2⟩
          clear hK K hb HB_3 G9_3 PA_3
          try simp only [Act.put, List.setIfInBounds_toArray, List.set_cons_zero, List.set_cons_succ]
          refine take10 (i := 5) (oi := _) (v := ?_) (d := some 116) rfl (by kernel_rfl) (by kernel_rfl) (by kernel_rfl) (by kernel_rfl) (fun _ _ _ h => h) (Or.inl ⟨by rfl, ?_⟩) (by assumption) ?_
          rotate_left
          · (intro w hSw; (try dsimp only at hSw); go_simp <;> with_reducible rfl)
          try simp only [Act.put, List.setIfInBounds_toArray, List.set_cons_zero, List.set_cons_succ]
          refine take10 (i := 6) (oi := _) (v := ?_) (d := some 122) rfl (by kernel_rfl) (by kernel_rfl) (by kernel_rfl) (by kernel_rfl) (fun _ _ _ h => h) (Or.inl ⟨by rfl, ?_⟩) (by assumption) ?_
          rotate_left
          · (intro w hSw; (try dsimp only at hSw); go_simp <;> with_reducible rfl)
          try simp only [Act.put, List.setIfInBounds_toArray, List.set_cons_zero, List.set_cons_succ]
          refine take10 (i := 7) (oi := _) (v := ?_) (d := some 123) rfl (by kernel_rfl) (by kernel_rfl) (by kernel_rfl) (by kernel_rfl) (fun _ _ _ h => h) (Or.inl ⟨by rfl, ?_⟩) (by assumption) ?_
          rotate_left
          · (intro w hSw; (try dsimp only at hSw); go_simp <;> with_reducible rfl)
          try simp only [Act.put, List.setIfInBounds_toArray, List.set_cons_zero, List.set_cons_succ]
          refine take10 (i := 8) (oi := _) (v := ?_) (d := some 124) rfl (by kernel_rfl) (by kernel_rfl) (by kernel_rfl) (by kernel_rfl) (fun _ _ _ h => h) (Or.inl ⟨by rfl, ?_⟩) (by assumption) ?_
          rotate_left
          · (intro w hSw; (try dsimp only at hSw); go_simp <;> with_reducible rfl)
          try simp only [Act.put, List.setIfInBounds_toArray, List.set_cons_zero, List.set_cons_succ]
          refine take10 (i := 9) (oi := _) (v := ?_) (d := some 125) rfl (by kernel_rfl) (by kernel_rfl) (by kernel_rfl) (by kernel_rfl) (fun _ _ _ h => h) (Or.inl ⟨by rfl, ?_⟩) (by assumption) ?_
          rotate_left
          · (intro w hSw; (try dsimp only at hSw); go_simp <;> with_reducible rfl)
          try simp only [Act.put, List.setIfInBounds_toArray, List.set_cons_zero, List.set_cons_succ]
          refine wpAnyH_ready (rs := [10]) (by kernel_rfl) (by simp) ?_
          refine AllReadyH.cons (o := _) rfl (fun K hK => ?cw120) AllReadyH.nil
          case' cw120 =>
            go_simp
            have hb : Below v4.heap.size v4 (v4.alloc (.cells #[.slice none 0 0, .int .i64 0, .int .i64 0] 45)) := balloc _ _
            have hN := x3_new v4 (.slice none 0 0) (.int .i64 0) (.int .i64 0) 45 v4.heap.size rfl
            have h_HB := HB_4.out.trans (hb.mono HB_4.out.size)
            have h_G9 := G9_4.out.later hb
            have h_PA := PA_4.out.later hb
            have h_OO := OO_4.out.later hb
            refine hK.out _ _ ?_ (fun hHeld => ?_)
            · exact ⟨(cA.out.later (h_HB)).1.1, (cA.out.later (h_HB)).1.2.1, (cA.out.later (h_HB)).1.2.2, (cT.out.later (h_HB)).1.1, (cT.out.later (h_HB)).1.2⟩
            clear hK K
            try simp only [Act.put, List.setIfInBounds_toArray, List.set_cons_zero, List.set_cons_succ]
            generalize (v4.alloc (.cells #[.slice none 0 0, .int .i64 0, .int .i64 0] 45)) = v5 at hb hN hHeld h_HB h_G9 h_PA h_OO ⊢
            have HB_5 : Hid (Below w.heap.size w v5) := h_HB
            have G9_5 : Hid (X3 v5 v0.heap.size (.int .i64 0) (.int .i64 0) (.int .i64 0)) := h_G9
            have PA_5 : Hid (OwnS v5 v1.heap.size (.slice pA n kA) xs) := h_PA
            have OO_5 : Hid (OwnS v5 v3.heap.size (Value.slice a3 m d3) Q) := h_OO
            have G8_5 : Hid (X3 v5 v4.heap.size (.slice none 0 0) (.int .i64 0) (.int .i64 0)) := hN
            have hl4 : w.heap.size ≤ v4.heap.size := HB_4.out.size
            have hz4 : v4.heap.size < v5.heap.size := hN.lt
            clear hb hN h_HB HB_4 h_G9 h_PA h_OO G9_4 PA_4 OO_4
            have XB := HB_5
            have X8 := G8_5
            have X9 := G9_5
            have XQ : Hid (OwnS v5 w.heap.size (Value.slice a3 m d3) Q) := OO_5.out.mono (by omega)
            have XR : Hid (∀ k, (Value.slice a3 m d3).ownBlock = some k → k ≠ v4.heap.size ∧ k ≠ v0.heap.size) := fun k hk => by have := RW.out k hk; omega
            have XN : v4.heap.size ≠ v0.heap.size := by omega
            have XL8 : w.heap.size ≤ v4.heap.size := by omega
            have XL9 : w.heap.size ≤ v0.heap.size := by omega
            clear RW HB_5 G8_5 G9_5 PA_5 OO_5
            clear hl0 hz0 hl1 hz1 hl2 hz2 hl3 hz3 hl4 hz4
            generalize v4.heap.size = g8 at X8 XR XN XL8 ⊢
            generalize v0.heap.size = g9 at X9 XR XN XL9 ⊢
            obtain ⟨V, rfl⟩ : ∃ V : World, V = v5 := ⟨_, rfl⟩
        case' cw119 =>
          go_simp
          have hb : Below v3.heap.size v3 (v3.alloc (.cells #[.slice none 0 0, .int .i64 0, .int .i64 0] 45)) := balloc _ _
          have hN := x3_new v3 (.slice none 0 0) (.int .i64 0) (.int .i64 0) 45 v3.heap.size rfl
          have h_HB := HB_3.out.trans (hb.mono HB_3.out.size)
          have h_G9 := G9_3.out.later hb
          have h_PA := PA_3.out.later hb
          refine hK.out _ _ ?_ (fun hHeld => ?_)
          · exact ⟨(cA.out.later (h_HB)).1.1, (cA.out.later (h_HB)).1.2.1, (cA.out.later (h_HB)).1.2.2, (cT.out.later (h_HB)).1.1, (cT.out.later (h_HB)).1.2⟩
          clear hK K
          try simp only [Act.put, List.setIfInBounds_toArray, List.set_cons_zero, List.set_cons_succ]
          generalize (v3.alloc (.cells #[.slice none 0 0, .int .i64 0, .int .i64 0] 45)) = v4 at hb hN hHeld h_HB h_G9 h_PA ⊢
          have HB_4 : Hid (Below w.heap.size w v4) := h_HB
          have G9_4 : Hid (X3 v4 v0.heap.size (.int .i64 0) (.int .i64 0) (.int .i64 0)) := h_G9
          have PA_4 : Hid (OwnS v4 v1.heap.size (.slice pA n kA) xs) := h_PA
          have G8_4 : Hid (X3 v4 v3.heap.size (.slice none 0 0) (.int .i64 0) (.int .i64 0)) := hN
          have hl3 : w.heap.size ≤ v3.heap.size := HB_3.out.size
          have hz3 : v3.heap.size < v4.heap.size := hN.lt
          clear hb hN h_HB HB_3 h_G9 h_PA G9_3 PA_3
          refine wpAnyH_ready (rs := [4]) (by kernel_rfl) (by simp) ?_
          refine AllReadyH.cons (o := _) rfl (fun K hK => ?cw121) AllReadyH.nil
          case' cw121 =>
            go_simp
            refine (qs pA kA v4 hn PA_4.out.ok).mono ?_
            rintro e v5 ⟨a3, d3, rfl, ho, hb⟩
            have HB_5 : Hid (Below w.heap.size w v5) := HB_4.out.trans (hb.mono HB_4.out.size)
            have G9_5 : Hid (X3 v5 v0.heap.size (.int .i64 0) (.int .i64 0) (.int .i64 0)) := G9_4.out.later hb
            have PA_5 : Hid (OwnS v5 v1.heap.size (.slice pA n kA) xs) := PA_4.out.later hb
            have G8_5 : Hid (X3 v5 v3.heap.size (.slice none 0 0) (.int .i64 0) (.int .i64 0)) := G8_4.out.later hb
            have OO_5 : Hid (OwnS v5 v4.heap.size (Value.slice a3 m d3) Q) := ho
            have RW : Hid (∀ k, (Value.slice a3 m d3).ownBlock = some k → v4.heap.size ≤ k ∧ k < v5.heap.size) := World.ownsRow.lt ho
            have hz4 : v4.heap.size ≤ v5.heap.size := hb.size
            have hl4 : w.heap.size ≤ v4.heap.size := HB_4.out.size
            refine hK.out _ _ ?_ (fun hHeld => ?_)
            · exact ⟨(cA.out.later (HB_5.out)).1.1, (cA.out.later (HB_5.out)).1.2.1, (cA.out.later (HB_5.out)).1.2.2, (cT.out.later (HB_5.out)).1.1, (cT.out.later (HB_5.out)).1.2⟩
            clear hK K hb HB_4 G9_4 PA_4 G8_4
            try simp only [Act.put, List.setIfInBounds_toArray, List.set_cons_zero, List.set_cons_succ]
            refine take10 (i := 5) (oi := _) (v := ?_) (d := some 116) rfl (by kernel_rfl) (by kernel_rfl) (by kernel_rfl) (by kernel_rfl) (fun _ _ _ h => h) (Or.inl ⟨by rfl, ?_⟩) (by assumption) ?_
            rotate_left
            · (intro w hSw; (try dsimp only at hSw); go_simp <;> with_reducible rfl)
            try simp only [Act.put, List.setIfInBounds_toArray, List.set_cons_zero, List.set_cons_succ]
            refine take10 (i := 6) (oi := _) (v := ?_) (d := some 122) rfl (by kernel_rfl) (by kernel_rfl) (by kernel_rfl) (by kernel_rfl) (fun _ _ _ h => h) (Or.inl ⟨by rfl, ?_⟩) (by assumption) ?_
            rotate_left
            · (intro w hSw; (try dsimp only at hSw); go_simp <;> with_reducible rfl)
            try simp only [Act.put, List.setIfInBounds_toArray, List.set_cons_zero, List.set_cons_succ]
            refine take10 (i := 7) (oi := _) (v := ?_) (d := some 123) rfl (by kernel_rfl) (by kernel_rfl) (by kernel_rfl) (by kernel_rfl) (fun _ _ _ h => h) (Or.inl ⟨by rfl, ?_⟩) (by assumption) ?_
            rotate_left
            · (intro w hSw; (try dsimp only at hSw); go_simp <;> with_reducible rfl)
            try simp only [Act.put, List.setIfInBounds_toArray, List.set_cons_zero, List.set_cons_succ]
            refine take10 (i := 8) (oi := _) (v := ?_) (d := some 124) rfl (by kernel_rfl) (by kernel_rfl) (by kernel_rfl) (by kernel_rfl) (fun _ _ _ h => h) (Or.inl ⟨by rfl, ?_⟩) (by assumption) ?_
            rotate_left
            · (intro w hSw; (try dsimp only at hSw); go_simp <;> with_reducible rfl)
            try simp only [Act.put, List.setIfInBounds_toArray, List.set_cons_zero, List.set_cons_succ]
            refine take10 (i := 9) (oi := _) (v := ?_) (d := some 125) rfl (by kernel_rfl) (by kernel_rfl) (by kernel_rfl) (by kernel_rfl) (fun _ _ _ h => h) (Or.inl ⟨by rfl, ?_⟩) (by assumption) ?_
            rotate_left
            · (intro w hSw; (try dsimp only at hSw); go_simp <;> with_reducible rfl)
            try simp only [Act.put, List.setIfInBounds_toArray, List.set_cons_zero, List.set_cons_succ]
            have XB := HB_5
            have X8 := G8_5
            have X9 := G9_5
            have XQ : Hid (OwnS v5 w.heap.size (Value.slice a3 m d3) Q) := OO_5.out.mono (by omega)
            have XR : Hid (∀ k, (Value.slice a3 m d3).ownBlock = some k → k ≠ v3.heap.size ∧ k ≠ v0.heap.size) := fun k hk => by have := RW.out k hk; omega
            have XN : v3.heap.size ≠ v0.heap.size := by omega
            have XL8 : w.heap.size ≤ v3.heap.size := by omega
            have XL9 : w.heap.size ≤ v0.heap.size := by omega
            clear RW HB_5 G8_5 G9_5 PA_5 OO_5
            clear hl0 hz0 hl1 hz1 hl2 hz2 hl3 hz3 hl4 hz4
            generalize v3.heap.size = g8 at X8 XR XN XL8 ⊢
            generalize v0.heap.size = g9 at X9 XR XN XL9 ⊢
            obtain ⟨V, rfl⟩ : ∃ V : World, V = v5 := ⟨_, rfl⟩
      case' cw117 =>
        go_simp
        have hb : Below v2.heap.size v2 (v2.alloc (.cells #[.slice none 0 0, .int .i64 0, .int .i64 0] 45)) := balloc _ _
        have hN := x3_new v2 (.slice none 0 0) (.int .i64 0) (.int .i64 0) 45 v2.heap.size rfl
        have h_HB := HB_2.out.trans (hb.mono HB_2.out.size)
        have h_G9 := G9_2.out.later hb
        have h_PA := PA_2.out.later hb
        refine hK.out _ _ ?_ (fun hHeld => ?_)
        · exact ⟨(cA.out.later (h_HB)).1.1, (cA.out.later (h_HB)).1.2.1, (cA.out.later (h_HB)).1.2.2, (cT.out.later (h_HB)).1.1, (cT.out.later (h_HB)).1.2⟩
        clear hK K
        try simp only [Act.put, List.setIfInBounds_toArray, List.set_cons_zero, List.set_cons_succ]
        generalize (v2.alloc (.cells #[.slice none 0 0, .int .i64 0, .int .i64 0] 45)) = v3 at hb hN hHeld h_HB h_G9 h_PA ⊢
        have HB_3 : Hid (Below w.heap.size w v3) := h_HB
        have G9_3 : Hid (X3 v3 v0.heap.size (.int .i64 0) (.int .i64 0) (.int .i64 0)) := h_G9
        have PA_3 : Hid (OwnS v3 v1.heap.size (.slice pA n kA) xs) := h_PA
        have G8_3 : Hid (X3 v3 v2.heap.size (.slice none 0 0) (.int .i64 0) (.int .i64 0)) := hN
        have hl2 : w.heap.size ≤ v2.heap.size := HB_2.out.size
        have hz2 : v2.heap.size < v3.heap.size := hN.lt
        clear hb hN h_HB HB_2 h_G9 h_PA G9_2 PA_2
        refine wpAnyH_ready (rs := [3]) (by kernel_rfl) (by simp) ?_
        refine AllReadyH.cons (o := _) rfl (fun K hK => ?cw122) AllReadyH.nil
        case' cw122 =>
          go_simp
          refine (toCoverStep_c kk s v3).mono ?_
          rintro e v4 ⟨rfl, hb⟩
          have HB_4 : Hid (Below w.heap.size w v4) := HB_3.out.trans (hb.mono HB_3.out.size)
          have G9_4 : Hid (X3 v4 v0.heap.size (.int .i64 0) (.int .i64 0) (.int .i64 0)) := G9_3.out.later hb
          have PA_4 : Hid (OwnS v4 v1.heap.size (.slice pA n kA) xs) := PA_3.out.later hb
          have G8_4 : Hid (X3 v4 v2.heap.size (.slice none 0 0) (.int .i64 0) (.int .i64 0)) := G8_3.out.later hb
          have hz3 : v3.heap.size ≤ v4.heap.size := hb.size
          have hl3 : w.heap.size ≤ v3.heap.size := HB_3.out.size
          refine hK.out _ _ ?_ (fun hHeld => ?_)
          · exact ⟨(cA.out.later (HB_4.out)).1.1, (cA.out.later (HB_4.out)).1.2.1, (cA.out.later (HB_4.out)).1.2.2, (cT.out.later (HB_4.out)).1.1, (cT.out.later (HB_4.out)).1.2⟩
          clear hK K hb HB_3 G9_3 PA_3 G8_3
          try simp only [Act.put, List.setIfInBounds_toArray, List.set_cons_zero, List.set_cons_succ]
          refine wpAnyH_ready (rs := [4]) (by kernel_rfl) (by simp) ?_
          refine AllReadyH.cons (o := _) rfl (fun K hK => ?cw123) AllReadyH.nil
          case' cw123 =>
            go_simp
            refine (qs pA kA v4 hn PA_4.out.ok).mono ?_
            rintro e v5 ⟨a3, d3, rfl, ho, hb⟩
            have HB_5 : Hid (Below w.heap.size w v5) := HB_4.out.trans (hb.mono HB_4.out.size)
            have G9_5 : Hid (X3 v5 v0.heap.size (.int .i64 0) (.int .i64 0) (.int .i64 0)) := G9_4.out.later hb
            have PA_5 : Hid (OwnS v5 v1.heap.size (.slice pA n kA) xs) := PA_4.out.later hb
            have G8_5 : Hid (X3 v5 v2.heap.size (.slice none 0 0) (.int .i64 0) (.int .i64 0)) := G8_4.out.later hb
            have OO_5 : Hid (OwnS v5 v4.heap.size (Value.slice a3 m d3) Q) := ho
            have RW : Hid (∀ k, (Value.slice a3 m d3).ownBlock = some k → v4.heap.size ≤ k ∧ k < v5.heap.size) := World.ownsRow.lt ho
            have hz4 : v4.heap.size ≤ v5.heap.size := hb.size
            have hl4 : w.heap.size ≤ v4.heap.size := HB_4.out.size
            refine hK.out _ _ ?_ (fun hHeld => ?_)
            · exact ⟨(cA.out.later (HB_5.out)).1.1, (cA.out.later (HB_5.out)).1.2.1, (cA.out.later (HB_5.out)).1.2.2, (cT.out.later (HB_5.out)).1.1, (cT.out.later (HB_5.out)).1.2⟩
            clear hK K hb HB_4 G9_4 PA_4 G8_4
            try simp only [Act.put, List.setIfInBounds_toArray, List.set_cons_zero, List.set_cons_succ]
            refine take10 (i := 5) (oi := _) (v := ?_) (d := some 116) rfl (by kernel_rfl) (by kernel_rfl) (by kernel_rfl) (by kernel_rfl) (fun _ _ _ h => h) (Or.inl ⟨by rfl, ?_⟩) (by assumption) ?_
            rotate_left
            · (intro w hSw; (try dsimp only at hSw); go_simp <;> with_reducible rfl)
            try simp only [Act.put, List.setIfInBounds_toArray, List.set_cons_zero, List.set_cons_succ]
            refine take10 (i := 6) (oi := _) (v := ?_) (d := some 122) rfl (by kernel_rfl) (by kernel_rfl) (by kernel_rfl) (by kernel_rfl) (fun _ _ _ h => h) (Or.inl ⟨by rfl, ?_⟩) (by assumption) ?_
            rotate_left
            · (intro w hSw; (try dsimp only at hSw); go_simp <;> with_reducible rfl)
            try simp only [Act.put, List.setIfInBounds_toArray, List.set_cons_zero, List.set_cons_succ]
            refine take10 (i := 7) (oi := _) (v := ?_) (d := some 123) rfl (by kernel_rfl) (by kernel_rfl) (by kernel_rfl) (by kernel_rfl) (fun _ _ _ h => h) (Or.inl ⟨by rfl, ?_⟩) (by assumption) ?_
            rotate_left
            · (intro w hSw; (try dsimp only at hSw); go_simp <;> with_reducible rfl)
            try simp only [Act.put, List.setIfInBounds_toArray, List.set_cons_zero, List.set_cons_succ]
            refine take10 (i := 8) (oi := _) (v := ?_) (d := some 124) rfl (by kernel_rfl) (by kernel_rfl) (by kernel_rfl) (by kernel_rfl) (fun _ _ _ h => h) (Or.inl ⟨by rfl, ?_⟩) (by assumption) ?_
            rotate_left
            · (intro w hSw; (try dsimp only at hSw); go_simp <;> with_reducible rfl)
            try simp only [Act.put, List.setIfInBounds_toArray, List.set_cons_zero, List.set_cons_succ]
            refine take10 (i := 9) (oi := _) (v := ?_) (d := some 125) rfl (by kernel_rfl) (by kernel_rfl) (by kernel_rfl) (by kernel_rfl) (fun _ _ _ h => h) (Or.inl ⟨by rfl, ?_⟩) (by assumption) ?_
            rotate_left
            · (intro w hSw; (try dsimp only at hSw); go_simp <;> with_reducible rfl)
            try simp only [Act.put, List.setIfInBounds_toArray, List.set_cons_zero, List.set_cons_succ]
            have XB := HB_5
            have X8 := G8_5
            have X9 := G9_5
            have XQ : Hid (OwnS v5 w.heap.size (Value.slice a3 m d3) Q) := OO_5.out.mono (by omega)
            have XR : Hid (∀ k, (Value.slice a3 m d3).ownBlock = some k → k ≠ v2.heap.size ∧ k ≠ v0.heap.size) := fun k hk => by have := RW.out k hk; omega
            have XN : v2.heap.size ≠ v0.heap.size := by omega
            have XL8 : w.heap.size ≤ v2.heap.size := by omega
            have XL9 : w.heap.size ≤ v0.heap.size := by omega
            clear RW HB_5 G8_5 G9_5 PA_5 OO_5
            clear hl0 hz0 hl1 hz1 hl2 hz2 hl3 hz3 hl4 hz4
            generalize v2.heap.size = g8 at X8 XR XN XL8 ⊢
            generalize v0.heap.size = g9 at X9 XR XN XL9 ⊢
            obtain ⟨V, rfl⟩ : ∃ V : World, V = v5 := ⟨_, rfl⟩
    case' cw115 =>
      go_simp
      have hb : Below v1.heap.size v1 (v1.alloc (.cells #[.slice none 0 0, .int .i64 0, .int .i64 0] 45)) := balloc _ _
      have hN := x3_new v1 (.slice none 0 0) (.int .i64 0) (.int .i64 0) 45 v1.heap.size rfl
      have h_HB := HB_1.out.trans (hb.mono HB_1.out.size)
      have h_G9 := G9_1.out.later hb
      refine hK.out _ _ ?_ (fun hHeld => ?_)
      · exact ⟨(cA.out.later (h_HB)).1.1, (cA.out.later (h_HB)).1.2.1, (cA.out.later (h_HB)).1.2.2, (cT.out.later (h_HB)).1.1, (cT.out.later (h_HB)).1.2⟩
      clear hK K
      try simp only [Act.put, List.setIfInBounds_toArray, List.set_cons_zero, List.set_cons_succ]
      generalize (v1.alloc (.cells #[.slice none 0 0, .int .i64 0, .int .i64 0] 45)) = v2 at hb hN hHeld h_HB h_G9 ⊢
      have HB_2 : Hid (Below w.heap.size w v2) := h_HB
      have G9_2 : Hid (X3 v2 v0.heap.size (.int .i64 0) (.int .i64 0) (.int .i64 0)) := h_G9
      have G8_2 : Hid (X3 v2 v1.heap.size (.slice none 0 0) (.int .i64 0) (.int .i64 0)) := hN
      have hl1 : w.heap.size ≤ v1.heap.size := HB_1.out.size
      have hz1 : v1.heap.size < v2.heap.size := hN.lt
      clear hb hN h_HB HB_1 h_G9 G9_1
      refine wpAnyH_ready (rs := [1]) (by kernel_rfl) (by simp) ?_
      refine AllReadyH.cons (o := _) rfl (fun K hK => ?cw124) AllReadyH.nil
      case' cw124 =>
        go_simp
        refine (toClient_c ao n c t y xs v2 hx (by omega) (hrp.later HB_2.out)).mono ?_
        rintro e v3 ⟨pA, kA, rfl, ho, hb⟩
        have HB_3 : Hid (Below w.heap.size w v3) := HB_2.out.trans (hb.mono HB_2.out.size)
        have G9_3 : Hid (X3 v3 v0.heap.size (.int .i64 0) (.int .i64 0) (.int .i64 0)) := G9_2.out.later hb
        have G8_3 : Hid (X3 v3 v1.heap.size (.slice none 0 0) (.int .i64 0) (.int .i64 0)) := G8_2.out.later hb
        have PA_3 : Hid (OwnS v3 v2.heap.size (.slice pA n kA) xs) := ho
        have hz2 : v2.heap.size ≤ v3.heap.size := hb.size
        have hl2 : w.heap.size ≤ v2.heap.size := HB_2.out.size
        refine hK.out _ _ ?_ (fun hHeld => ?_)
        · exact ⟨(cA.out.later (HB_3.out)).1.1, (cA.out.later (HB_3.out)).1.2.1, (cA.out.later (HB_3.out)).1.2.2, (cT.out.later (HB_3.out)).1.1, (cT.out.later (HB_3.out)).1.2⟩
        clear hK K hb HB_2 G9_2 G8_2
        try simp only [Act.put, List.setIfInBounds_toArray, List.set_cons_zero, List.set_cons_succ]
        refine wpAnyH_ready (rs := [3]) (by kernel_rfl) (by simp) ?_
        refine AllReadyH.cons (o := _) rfl (fun K hK => ?cw125) AllReadyH.nil
        case' cw125 =>
          go_simp
          refine (toCoverStep_c kk s v3).mono ?_
          rintro e v4 ⟨rfl, hb⟩
          have HB_4 : Hid (Below w.heap.size w v4) := HB_3.out.trans (hb.mono HB_3.out.size)
          have G9_4 : Hid (X3 v4 v0.heap.size (.int .i64 0) (.int .i64 0) (.int .i64 0)) := G9_3.out.later hb
          have G8_4 : Hid (X3 v4 v1.heap.size (.slice none 0 0) (.int .i64 0) (.int .i64 0)) := G8_3.out.later hb
          have PA_4 : Hid (OwnS v4 v2.heap.size (.slice pA n kA) xs) := PA_3.out.later hb
          have hz3 : v3.heap.size ≤ v4.heap.size := hb.size
          have hl3 : w.heap.size ≤ v3.heap.size := HB_3.out.size
          refine hK.out _ _ ?_ (fun hHeld => ?_)
          · exact ⟨(cA.out.later (HB_4.out)).1.1, (cA.out.later (HB_4.out)).1.2.1, (cA.out.later (HB_4.out)).1.2.2, (cT.out.later (HB_4.out)).1.1, (cT.out.later (HB_4.out)).1.2⟩
          clear hK K hb HB_3 G9_3 G8_3 PA_3
          try simp only [Act.put, List.setIfInBounds_toArray, List.set_cons_zero, List.set_cons_succ]
          refine wpAnyH_ready (rs := [4]) (by kernel_rfl) (by simp) ?_
          refine AllReadyH.cons (o := _) rfl (fun K hK => ?cw126) AllReadyH.nil
          case' cw126 =>
            go_simp
            refine (qs pA kA v4 hn PA_4.out.ok).mono ?_
            rintro e v5 ⟨a3, d3, rfl, ho, hb⟩
            have HB_5 : Hid (Below w.heap.size w v5) := HB_4.out.trans (hb.mono HB_4.out.size)
            have G9_5 : Hid (X3 v5 v0.heap.size (.int .i64 0) (.int .i64 0) (.int .i64 0)) := G9_4.out.later hb
            have G8_5 : Hid (X3 v5 v1.heap.size (.slice none 0 0) (.int .i64 0) (.int .i64 0)) := G8_4.out.later hb
            have PA_5 : Hid (OwnS v5 v2.heap.size (.slice pA n kA) xs) := PA_4.out.later hb
            have OO_5 : Hid (OwnS v5 v4.heap.size (Value.slice a3 m d3) Q) := ho
            have RW : Hid (∀ k, (Value.slice a3 m d3).ownBlock = some k → v4.heap.size ≤ k ∧ k < v5.heap.size) := World.ownsRow.lt ho
            have hz4 : v4.heap.size ≤ v5.heap.size := hb.size
            have hl4 : w.heap.size ≤ v4.heap.size := HB_4.out.size
            refine hK.out _ _ ?_ (fun hHeld => ?_)
            · exact ⟨(cA.out.later (HB_5.out)).1.1, (cA.out.later (HB_5.out)).1.2.1, (cA.out.later (HB_5.out)).1.2.2, (cT.out.later (HB_5.out)).1.1, (cT.out.later (HB_5.out)).1.2⟩
            clear hK K hb HB_4 G9_4 G8_4 PA_4
            try simp only [Act.put, List.setIfInBounds_toArray, List.set_cons_zero, List.set_cons_succ]
            refine take10 (i := 5) (oi := _) (v := ?_) (d := some 116) rfl (by kernel_rfl) (by kernel_rfl) (by kernel_rfl) (by kernel_rfl) (fun _ _ _ h => h) (Or.inl ⟨by rfl, ?_⟩) (by assumption) ?_
            rotate_left
            · (intro w hSw; (try dsimp only at hSw); go_simp <;> with_reducible rfl)
            try simp only [Act.put, List.setIfInBounds_toArray, List.set_cons_zero, List.set_cons_succ]
            refine take10 (i := 6) (oi := _) (v := ?_) (d := some 122) rfl (by kernel_rfl) (by kernel_rfl) (by kernel_rfl) (by kernel_rfl) (fun _ _ _ h => h) (Or.inl ⟨by rfl, ?_⟩) (by assumption) ?_
            rotate_left
            · (intro w hSw; (try dsimp only at hSw); go_simp <;> with_reducible rfl)
            try simp only [Act.put, List.setIfInBounds_toArray, List.set_cons_zero, List.set_cons_succ]
            refine take10 (i := 7) (oi := _) (v := ?_) (d := some 123) rfl (by kernel_rfl) (by kernel_rfl) (by kernel_rfl) (by kernel_rfl) (fun _ _ _ h => h) (Or.inl ⟨by rfl, ?_⟩) (by assumption) ?_
            rotate_left
            · (intro w hSw; (try dsimp only at hSw); go_simp <;> with_reducible rfl)
            try simp only [Act.put, List.setIfInBounds_toArray, List.set_cons_zero, List.set_cons_succ]
            refine take10 (i := 8) (oi := _) (v := ?_) (d := some 124) rfl (by kernel_rfl) (by kernel_rfl) (by kernel_rfl) (by kernel_rfl) (fun _ _ _ h => h) (Or.inl ⟨by rfl, ?_⟩) (by assumption) ?_
            rotate_left
            · (intro w hSw; (try dsimp only at hSw); go_simp <;> with_reducible rfl)
            try simp only [Act.put, List.setIfInBounds_toArray, List.set_cons_zero, List.set_cons_succ]
            refine take10 (i := 9) (oi := _) (v := ?_) (d := some 125) rfl (by kernel_rfl) (by kernel_rfl) (by kernel_rfl) (by kernel_rfl) (fun _ _ _ h => h) (Or.inl ⟨by rfl, ?_⟩) (by assumption) ?_
            rotate_left
            · (intro w hSw; (try dsimp only at hSw); go_simp <;> with_reducible rfl)
            try simp only [Act.put, List.setIfInBounds_toArray, List.set_cons_zero, List.set_cons_succ]
            have XB := HB_5
            have X8 := G8_5
            have X9 := G9_5
            have XQ : Hid (OwnS v5 w.heap.size (Value.slice a3 m d3) Q) := OO_5.out.mono (by omega)
            have XR : Hid (∀ k, (Value.slice a3 m d3).ownBlock = some k → k ≠ v1.heap.size ∧ k ≠ v0.heap.size) := fun k hk => by have := RW.out k hk; omega
            have XN : v1.heap.size ≠ v0.heap.size := by omega
            have XL8 : w.heap.size ≤ v1.heap.size := by omega
            have XL9 : w.heap.size ≤ v0.heap.size := by omega
            clear RW HB_5 G8_5 G9_5 PA_5 OO_5
            clear hl0 hz0 hl1 hz1 hl2 hz2 hl3 hz3 hl4 hz4
            generalize v1.heap.size = g8 at X8 XR XN XL8 ⊢
            generalize v0.heap.size = g9 at X9 XR XN XL9 ⊢
            obtain ⟨V, rfl⟩ : ∃ V : World, V = v5 := ⟨_, rfl⟩
  all_goals (
    obtain ⟨⟨e0, e1, e2⟩, ef⟩ := id X8.out
    have q0 := ef 0
    have q1 := ef 1
    have q2 := ef 2
    have h_B : Below w.heap.size w (((V.setCell ⟨g8, 0, none⟩ (.slice a3 m d3)).setCell ⟨g8, 1, none⟩ (.int .i64 T)).setCell ⟨g8, 2, none⟩ (.int .i64 Y)) := ((XB.out.setCell (by dsimp only; omega) _).setCell (by dsimp only; omega) _).setCell (by dsimp only; omega) _
    have h_m : X3 (((V.setCell ⟨g8, 0, none⟩ (.slice a3 m d3)).setCell ⟨g8, 1, none⟩ (.int .i64 T)).setCell ⟨g8, 2, none⟩ (.int .i64 Y)) g8 (.slice a3 m d3) (.int .i64 T) (.int .i64 Y) := ((X8.out.set0 _).set1 _).set2 _
    have h_o := ((X9.out.other (r' := g8) (j' := 0) (u := .slice a3 m d3) (by omega)).other (r' := g8) (j' := 1) (u := .int .i64 T) (by omega)).other (r' := g8) (j' := 2) (u := .int .i64 Y) (by omega)
    have h_Q : OwnS (((V.setCell ⟨g8, 0, none⟩ (.slice a3 m d3)).setCell ⟨g8, 1, none⟩ (.int .i64 T)).setCell ⟨g8, 2, none⟩ (.int .i64 Y)) w.heap.size (Value.slice a3 m d3) Q := ownS_put3 XQ.out (fun k hk => (XR.out k hk).1)
    refine wpAnyH_ready (rs := [12]) (by kernel_rfl) (by simp) ?_
    refine AllReadyH.cons (o := _) rfl (fun K hK => ?_) AllReadyH.nil
    go_simp
    refine hK.out _ _ ?_ (fun hHeld => ?_)
    · exact ⟨(cA.out.later (h_B)).1.1, (cA.out.later (h_B)).1.2.1, (cA.out.later (h_B)).1.2.2, (cT.out.later (h_B)).1.1, (cT.out.later (h_B)).1.2⟩
    clear hK K
    try simp only [Act.put, List.setIfInBounds_toArray, List.set_cons_zero, List.set_cons_succ]
    generalize (((V.setCell ⟨g8, 0, none⟩ (.slice a3 m d3)).setCell ⟨g8, 1, none⟩ (.int .i64 T)).setCell ⟨g8, 2, none⟩ (.int .i64 Y)) = V1 at h_B h_m h_o h_Q hHeld ⊢
    clear XB XQ X8 X9 ef e0 e1 e2 q0 q1 q2
    have XB : Hid (Below w.heap.size w V1) := h_B
    have XQ : Hid (OwnS V1 w.heap.size (Value.slice a3 m d3) Q) := h_Q
    have X8 : Hid (X3 V1 g8 (.slice a3 m d3) (.int .i64 T) (.int .i64 Y)) := h_m
    have X9 : Hid (X3 V1 g9 (.int .i64 0) (.int .i64 0) (.int .i64 0)) := h_o
    clear h_B h_m h_o h_Q
    obtain ⟨⟨e0, e1, e2⟩, ef⟩ := id X9.out
    have q0 := ef 0
    have q1 := ef 1
    have q2 := ef 2
    have h_B : Below w.heap.size w (((V1.setCell ⟨g9, 0, none⟩ (.int .i64 e0r)).setCell ⟨g9, 1, none⟩ (.int .i64 e1r)).setCell ⟨g9, 2, none⟩ (.int .i64 e2r)) := ((XB.out.setCell (by dsimp only; omega) _).setCell (by dsimp only; omega) _).setCell (by dsimp only; omega) _
    have h_m : X3 (((V1.setCell ⟨g9, 0, none⟩ (.int .i64 e0r)).setCell ⟨g9, 1, none⟩ (.int .i64 e1r)).setCell ⟨g9, 2, none⟩ (.int .i64 e2r)) g9 (.int .i64 e0r) (.int .i64 e1r) (.int .i64 e2r) := ((X9.out.set0 _).set1 _).set2 _
    have h_o := ((X8.out.other (r' := g9) (j' := 0) (u := .int .i64 e0r) (by omega)).other (r' := g9) (j' := 1) (u := .int .i64 e1r) (by omega)).other (r' := g9) (j' := 2) (u := .int .i64 e2r) (by omega)
    have h_Q : OwnS (((V1.setCell ⟨g9, 0, none⟩ (.int .i64 e0r)).setCell ⟨g9, 1, none⟩ (.int .i64 e1r)).setCell ⟨g9, 2, none⟩ (.int .i64 e2r)) w.heap.size (Value.slice a3 m d3) Q := ownS_put3 XQ.out (fun k hk => (XR.out k hk).2)
    refine wpAnyH_ready (rs := [13]) (by kernel_rfl) (by simp) ?_
    refine AllReadyH.cons (o := _) rfl (fun K hK => ?_) AllReadyH.nil
    go_simp
    refine hK.out _ _ ?_ (fun hHeld => ?_)
    · exact ⟨(cA.out.later (h_B)).1.1, (cA.out.later (h_B)).1.2.1, (cA.out.later (h_B)).1.2.2, (cT.out.later (h_B)).1.1, (cT.out.later (h_B)).1.2⟩
    clear hK K
    try simp only [Act.put, List.setIfInBounds_toArray, List.set_cons_zero, List.set_cons_succ]
    generalize (((V1.setCell ⟨g9, 0, none⟩ (.int .i64 e0r)).setCell ⟨g9, 1, none⟩ (.int .i64 e1r)).setCell ⟨g9, 2, none⟩ (.int .i64 e2r)) = V2 at h_B h_m h_o h_Q hHeld ⊢
    clear XB XQ X9 X8 ef e0 e1 e2 q0 q1 q2
    have XB : Hid (Below w.heap.size w V2) := h_B
    have XQ : Hid (OwnS V2 w.heap.size (Value.slice a3 m d3) Q) := h_Q
    have X9 : Hid (X3 V2 g9 (.int .i64 e0r) (.int .i64 e1r) (.int .i64 e2r)) := h_m
    have X8 : Hid (X3 V2 g8 (.slice a3 m d3) (.int .i64 T) (.int .i64 Y)) := h_o
    clear h_B h_m h_o h_Q
    refine take10 (i := 14) (oi := _) (v := ?_) (d := some 20) rfl (by kernel_rfl) (by kernel_rfl) (by kernel_rfl) (by kernel_rfl) (fun _ _ _ h => h) (Or.inl ⟨by rfl, ?_⟩) (by assumption) ?_
    rotate_left
    · (intro w hSw; (try dsimp only at hSw); go_simp <;> with_reducible rfl)
    try simp only [Act.put, List.setIfInBounds_toArray, List.set_cons_zero, List.set_cons_succ]
    refine take10 (i := 15) (oi := _) (v := ?_) (d := some 21) rfl (by kernel_rfl) (by kernel_rfl) (by kernel_rfl) (by kernel_rfl) (fun _ _ _ h => h) (Or.inl ⟨by rfl, ?_⟩) (by assumption) ?_
    rotate_left
    · (intro w hSw; (try dsimp only at hSw); go_simp <;> with_reducible rfl)
    try simp only [Act.put, List.setIfInBounds_toArray, List.set_cons_zero, List.set_cons_succ]
    refine wpAnyH_done (by kernel_rfl) ?_ _
    exact hKK pA kA a3 d3 g8 g9 _ X8.out X9.out XQ.out XR.out XL8 XL9 XN XB.out)

end Go.Proofs.Yteopaocomfepfaa
