/- Chapter 10, the specification: StepClient of a step that is not done. -/
import Derived.Test.YteopaocomfepfaaSC10
namespace Go.Proofs.Yteopaocomfepfaa
set_option linter.unusedVariables false
set_option maxRecDepth 1000000
set_option linter.unusedSimpArgs false
open Go.RowKit

set_option maxHeartbeats 16000000 in
theorem specStep_no (ao : Option Addr) (n c : Nat) (t y k : Int) (s : ByteArray) (xs : List ByteArray) (w : World) (hn : n ≤ 17592186044416) (hq : QOk w ao n c xs) (hz : ∀ s ∈ xs, s.size ≤ 9223372036854775807) (hs : s.size ≤ 9223372036854775807) (hg : goodC xs t y = true) (hok : (stepV xs t y k s).ok = false) :
    Calls Try.prog 31 #[.agg #[.slice ao n c, .int .i64 t, .int .i64 y], .agg #[.int .i64 k, .string s]] w fun e w' => e = .returned (.tuple #[.agg #[.slice none 0 0, .int .i64 0, .int .i64 0], .agg #[.int .i64 0, .int .i64 0, .int .i64 0], .string ByteArray.empty, .bool false]) ∧ Below w.heap.size w w' := by
  have hqn : n ≤ 5 := by rw [← hq.len]; exact (queueB_iff.1 (goodC_iff.1 hg).1).1
  have qO : ∀ wx, QOk wx ao n c xs → _ := fun wx h => l10Own_c ao n c t y xs wx (by omega) h
  have qL : ∀ a1 d1 wx, QOk wx a1 n d1 xs → _ := fun a1 d1 wx h => specL_c a1 n d1 t y k s xs wx hg h hs _ rfl _ rfl
  have hQ5 : (lstepV xs t y k s).q.length ≤ 1000 := by rw [lstep_rest hok]; show xs.length ≤ 1000; rw [hq.len]; omega
  generalize (lstepV xs t y k s).q.length = m at qL hQ5
  generalize (lstepV xs t y k s).q = Q at qL 
  generalize (lstepV xs t y k s).t = T at qL 
  generalize (lstepV xs t y k s).y = Y at qL 
  generalize (lstepV xs t y k s).e0 = e0r at qL 
  generalize (lstepV xs t y k s).e1 = e1r at qL 
  generalize (lstepV xs t y k s).e2 = e2r at qL 
  generalize (lstepV xs t y k s).s = tx at qL 
  rw [lstep_ok.1, hok] at qL
  have hC0 := (((x3_new w (.slice ao n c) (.int .i64 t) (.int .i64 y) 45 (w.heap.size) (by simp)).later (balloc (w.alloc (.cells #[.slice ao n c, .int .i64 t, .int .i64 y] 45)) (.cells #[.int .i64 k, .string s] 39))).later (balloc ((w.alloc (.cells #[.slice ao n c, .int .i64 t, .int .i64 y] 45)).alloc (.cells #[.int .i64 k, .string s] 39)) (.cells #[.slice none 0 0, .int .i64 0, .int .i64 0] 45))).later (balloc (((w.alloc (.cells #[.slice ao n c, .int .i64 t, .int .i64 y] 45)).alloc (.cells #[.int .i64 k, .string s] 39)).alloc (.cells #[.slice none 0 0, .int .i64 0, .int .i64 0] 45)) (.cells #[.int .i64 0, .int .i64 0, .int .i64 0] 52))
  have hS0 := ((x2_new (w.alloc (.cells #[.slice ao n c, .int .i64 t, .int .i64 y] 45)) (.int .i64 k) (.string s) 39 (w.heap.size + 1) (by simp)).later (balloc ((w.alloc (.cells #[.slice ao n c, .int .i64 t, .int .i64 y] 45)).alloc (.cells #[.int .i64 k, .string s] 39)) (.cells #[.slice none 0 0, .int .i64 0, .int .i64 0] 45))).later (balloc (((w.alloc (.cells #[.slice ao n c, .int .i64 t, .int .i64 y] 45)).alloc (.cells #[.int .i64 k, .string s] 39)).alloc (.cells #[.slice none 0 0, .int .i64 0, .int .i64 0] 45)) (.cells #[.int .i64 0, .int .i64 0, .int .i64 0] 52))
  have hR0 := (x3_new ((w.alloc (.cells #[.slice ao n c, .int .i64 t, .int .i64 y] 45)).alloc (.cells #[.int .i64 k, .string s] 39)) (.slice none 0 0) (.int .i64 0) (.int .i64 0) 45 (w.heap.size + 2) (by simp)).later (balloc (((w.alloc (.cells #[.slice ao n c, .int .i64 t, .int .i64 y] 45)).alloc (.cells #[.int .i64 k, .string s] 39)).alloc (.cells #[.slice none 0 0, .int .i64 0, .int .i64 0] 45)) (.cells #[.int .i64 0, .int .i64 0, .int .i64 0] 52))
  have hE0 := x3_new (((w.alloc (.cells #[.slice ao n c, .int .i64 t, .int .i64 y] 45)).alloc (.cells #[.int .i64 k, .string s] 39)).alloc (.cells #[.slice none 0 0, .int .i64 0, .int .i64 0] 45)) (.int .i64 0) (.int .i64 0) (.int .i64 0) 52 (w.heap.size + 3) (by simp)
  have hB_W0 : Below w.heap.size w ((((w.alloc (.cells #[.slice ao n c, .int .i64 t, .int .i64 y] 45)).alloc (.cells #[.int .i64 k, .string s] 39)).alloc (.cells #[.slice none 0 0, .int .i64 0, .int .i64 0] 45)).alloc (.cells #[.int .i64 0, .int .i64 0, .int .i64 0] 52)) := (((balloc w (.cells #[.slice ao n c, .int .i64 t, .int .i64 y] 45)).alloc (by simp) (.cells #[.int .i64 k, .string s] 39)).alloc (by simp; omega) (.cells #[.slice none 0 0, .int .i64 0, .int .i64 0] 45)).alloc (by simp; omega) (.cells #[.int .i64 0, .int .i64 0, .int .i64 0] 52)
  have hS_W0 : (((((w.alloc (.cells #[.slice ao n c, .int .i64 t, .int .i64 y] 45)).alloc (.cells #[.int .i64 k, .string s] 39)).alloc (.cells #[.slice none 0 0, .int .i64 0, .int .i64 0] 45)).alloc (.cells #[.int .i64 0, .int .i64 0, .int .i64 0] 52))).heap.size = w.heap.size + 4 := by simp
  obtain ⟨W0, hW0⟩ : ∃ V, ((((w.alloc (.cells #[.slice ao n c, .int .i64 t, .int .i64 y] 45)).alloc (.cells #[.int .i64 k, .string s] 39)).alloc (.cells #[.slice none 0 0, .int .i64 0, .int .i64 0] 45)).alloc (.cells #[.int .i64 0, .int .i64 0, .int .i64 0] 52)) = V := ⟨_, rfl⟩
  rw [hW0] at hC0 hS0 hR0 hE0 hB_W0 hS_W0
  have HC0 : Hid (X3 W0 (w.heap.size) (.slice ao n c) (.int .i64 t) (.int .i64 y)) := hC0
  have HS0 : Hid (X2 W0 (w.heap.size + 1) (.int .i64 k) (.string s)) := hS0
  have HR0 : Hid (X3 W0 (w.heap.size + 2) (.slice none 0 0) (.int .i64 0) (.int .i64 0)) := hR0
  have HE0 : Hid (X3 W0 (w.heap.size + 3) (.int .i64 0) (.int .i64 0) (.int .i64 0)) := hE0
  have HB_W0 : Hid (Below w.heap.size w W0) := hB_W0
  have HS_W0 : Hid (W0.heap.size = w.heap.size + 4) := hS_W0
  clear hB_W0 hS_W0 hC0 hS0 hR0 hE0
  have q0w := hq.later HB_W0.out
  have q0 := specGood_c ao n c t y xs W0 hq.len hn q0w.rd hz
  rw [hg] at q0
  obtain ⟨⟨c0, c1, c2⟩, cf⟩ := id (HC0.out)
  clear cf
  clear hq
  go_enter Try.func31, Try.ntmps31
  go_wp2_with fail
  refine q0.mono ?_
  clear q0 c0 c1 c2
  rintro e w1 ⟨rfl, hb⟩
  have HC1 : Hid (X3 w1 w.heap.size (.slice ao n c) (.int .i64 t) (.int .i64 y)) := HC0.out.later hb
  have HS1 : Hid (X2 w1 (w.heap.size + 1) (.int .i64 k) (.string s)) := HS0.out.later hb
  have HR1 : Hid (X3 w1 (w.heap.size + 2) (.slice none 0 0) (.int .i64 0) (.int .i64 0)) := HR0.out.later hb
  have HE1 : Hid (X3 w1 (w.heap.size + 3) (.int .i64 0) (.int .i64 0) (.int .i64 0)) := HE0.out.later hb
  have HB1 : Hid (Below w.heap.size w w1) := HB_W0.out.trans (hb.mono HB_W0.out.size)
  have HL1 : Hid (w.heap.size + 4 ≤ w1.heap.size) := (by have h1 := HS_W0.out; have h2 : W0.heap.size ≤ w1.heap.size := hb.size; show _ ≤ _; omega)
  have HQ1 : Hid (QOk w1 ao n c xs) := q0w.later hb
  clear hb q0w hW0
  obtain ⟨⟨c0, c1, c2⟩, cf⟩ := id (HC1.out)
  clear cf
  obtain ⟨⟨z0, z1⟩, zf⟩ := id (HS1.out)
  clear zf
  go_upto_region 3 with fail
  clear c0 c1 c2 z0 z1
  go_cut [8, 9, 10, 11] (fun u8 u9 u10 u11 wx => ∃ (a2 : Option Addr) (d2 : Nat) (g8 g9 : Nat), u8 = .pointer (some ⟨g8, 0, none⟩) ∧ u9 = .pointer (some ⟨g9, 0, none⟩) ∧ u10 = .string tx ∧ u11 = .bool false ∧ X3 wx g8 (.slice a2 m d2) (.int .i64 T) (.int .i64 Y) ∧ X3 wx g9 (.int .i64 e0r) (.int .i64 e1r) (.int .i64 e2r) ∧ X3 wx (w.heap.size + 2) (.slice none 0 0) (.int .i64 0) (.int .i64 0) ∧ X3 wx (w.heap.size + 3) (.int .i64 0) (.int .i64 0) (.int .i64 0) ∧ QOk wx a2 m d2 Q ∧ Below w1.heap.size w1 wx ∧ w1.heap.size ≤ g8 ∧ w1.heap.size ≤ g9)
  case first =>
    have hL := HL1.out
    have HC_0 : Hid (X3 w1.drew w.heap.size (.slice ao n c) (.int .i64 t) (.int .i64 y)) := (HC1.out).later (Below.refl _ _).drew
    have HS_0 : Hid (X2 w1.drew (w.heap.size + 1) (.int .i64 k) (.string s)) := (HS1.out).later (Below.refl _ _).drew
    have HR_0 : Hid (X3 w1.drew (w.heap.size + 2) (.slice none 0 0) (.int .i64 0) (.int .i64 0)) := (HR1.out).later (Below.refl _ _).drew
    have HE_0 : Hid (X3 w1.drew (w.heap.size + 3) (.int .i64 0) (.int .i64 0) (.int .i64 0)) := (HE1.out).later (Below.refl _ _).drew
    have HQ_0 : Hid (QOk w1.drew ao n c xs) := (HQ1.out).later (Below.refl _ _).drew
    have HB_0 : Hid (Below w1.heap.size w1 w1.drew) := (Below.refl _ _).drew
    refine wp_region_held_drew (S := (fun w' => w'.cell? ⟨w.heap.size, 0, none⟩ = some (.slice ao n c) ∧ w'.cell? ⟨w.heap.size, 1, none⟩ = some (.int .i64 t) ∧ w'.cell? ⟨w.heap.size, 2, none⟩ = some (.int .i64 y) ∧ w'.cell? ⟨w.heap.size + 1, 0, none⟩ = some (.int .i64 k) ∧ w'.cell? ⟨w.heap.size + 1, 1, none⟩ = some (.string s))) (by kernel_rfl) ?_ (fun hHeld => ?_)
    · exact ⟨HC_0.out.1.1, HC_0.out.1.2.1, HC_0.out.1.2.2, HS_0.out.1.1, HS_0.out.1.2⟩
    generalize w1.drew = v0 at HC_0 HS_0 HR_0 HE_0 HQ_0 HB_0 hHeld ⊢
    refine take10 (i := 0) (oi := _) (v := ?_) (d := some 18) rfl (by kernel_rfl) (by kernel_rfl) (by kernel_rfl) (by kernel_rfl) (fun _ _ _ h => h) (Or.inl ⟨by rfl, ?_⟩) (by assumption) ?_
    rotate_left
    · (intro w hSw; (try dsimp only at hSw); go_simp <;> with_reducible rfl)
    try simp only [Act.put, List.setIfInBounds_toArray, List.set_cons_zero, List.set_cons_succ]
    refine take10 (i := 2) (oi := _) (v := ?_) (d := some 20) rfl (by kernel_rfl) (by kernel_rfl) (by kernel_rfl) (by kernel_rfl) (fun _ _ _ h => h) (Or.inl ⟨by rfl, ?_⟩) (by assumption) ?_
    rotate_left
    · (intro w hSw; (try dsimp only at hSw); go_simp <;> with_reducible rfl)
    try simp only [Act.put, List.setIfInBounds_toArray, List.set_cons_zero, List.set_cons_succ]
    refine wpAnyH_ready (rs := [1, 9, 10]) (by kernel_rfl) (by simp) ?_
    refine AllReadyH.cons (o := _) rfl (fun K hK => ?_) (AllReadyH.cons (o := _) rfl (fun K hK => ?_) (AllReadyH.cons (o := _) rfl (fun K hK => ?_) AllReadyH.nil))
    · skip
      go_simp
      refine (qO v0 HQ_0.out).mono ?_
      rintro e v1 ⟨a1, d1, rfl, ho, hb⟩
      have HC_1 : Hid (X3 v1 w.heap.size (.slice ao n c) (.int .i64 t) (.int .i64 y)) := HC_0.out.later hb
      have HS_1 : Hid (X2 v1 (w.heap.size + 1) (.int .i64 k) (.string s)) := HS_0.out.later hb
      have HR_1 : Hid (X3 v1 (w.heap.size + 2) (.slice none 0 0) (.int .i64 0) (.int .i64 0)) := HR_0.out.later hb
      have HE_1 : Hid (X3 v1 (w.heap.size + 3) (.int .i64 0) (.int .i64 0) (.int .i64 0)) := HE_0.out.later hb
      have HQ_1 : Hid (QOk v1 ao n c xs) := HQ_0.out.later hb
      have HB_1 : Hid (Below w1.heap.size w1 v1) := HB_0.out.trans (hb.mono HB_0.out.size)
      have OO_1 : Hid (OwnS v1 v0.heap.size (.slice a1 n d1) xs) := ho
      have hz0 : v0.heap.size ≤ v1.heap.size := hb.size
      have hl0 : w1.heap.size ≤ v0.heap.size := HB_0.out.size
      refine hK.out _ _ ?_ (fun hHeld => ?_)
      · exact ⟨HC_1.out.1.1, HC_1.out.1.2.1, HC_1.out.1.2.2, HS_1.out.1.1, HS_1.out.1.2⟩
      clear hK K hb HC_0 HS_0 HR_0 HE_0 HQ_0 HB_0
      try simp only [Act.put, List.setIfInBounds_toArray, List.set_cons_zero, List.set_cons_succ]
      refine wpAnyH_ready (rs := [3, 9, 10]) (by kernel_rfl) (by simp) ?_
      refine AllReadyH.cons (o := _) rfl (fun K hK => ?_) (AllReadyH.cons (o := _) rfl (fun K hK => ?_) (AllReadyH.cons (o := _) rfl (fun K hK => ?_) AllReadyH.nil))
      · skip
        go_simp
        refine (qL a1 d1 v1 OO_1.out.ok).mono ?_
        rintro e v2 ⟨a2, d2, rfl, hq2, hb⟩
        have HC_2 : Hid (X3 v2 w.heap.size (.slice ao n c) (.int .i64 t) (.int .i64 y)) := HC_1.out.later hb
        have HS_2 : Hid (X2 v2 (w.heap.size + 1) (.int .i64 k) (.string s)) := HS_1.out.later hb
        have HR_2 : Hid (X3 v2 (w.heap.size + 2) (.slice none 0 0) (.int .i64 0) (.int .i64 0)) := HR_1.out.later hb
        have HE_2 : Hid (X3 v2 (w.heap.size + 3) (.int .i64 0) (.int .i64 0) (.int .i64 0)) := HE_1.out.later hb
        have HQ_2 : Hid (QOk v2 ao n c xs) := HQ_1.out.later hb
        have HB_2 : Hid (Below w1.heap.size w1 v2) := HB_1.out.trans (hb.mono HB_1.out.size)
        have OO_2 : Hid (OwnS v2 v0.heap.size (.slice a1 n d1) xs) := OO_1.out.later hb
        have QQ_2 : Hid (QOk v2 a2 m d2 Q) := hq2
        have hz1 : v1.heap.size ≤ v2.heap.size := hb.size
        have hl1 : w1.heap.size ≤ v1.heap.size := HB_1.out.size
        refine hK.out _ _ ?_ (fun hHeld => ?_)
        · exact ⟨HC_2.out.1.1, HC_2.out.1.2.1, HC_2.out.1.2.2, HS_2.out.1.1, HS_2.out.1.2⟩
        clear hK K hb HC_1 HS_1 HR_1 HE_1 HQ_1 HB_1 OO_1
        try simp only [Act.put, List.setIfInBounds_toArray, List.set_cons_zero, List.set_cons_succ]
        refine take10 (i := 4) (oi := _) (v := ?_) (d := some 17) rfl (by kernel_rfl) (by kernel_rfl) (by kernel_rfl) (by kernel_rfl) (fun _ _ _ h => h) (Or.inl ⟨by rfl, ?_⟩) (by assumption) ?_
        rotate_left
        · (intro w hSw; (try dsimp only at hSw); go_simp <;> with_reducible rfl)
        try simp only [Act.put, List.setIfInBounds_toArray, List.set_cons_zero, List.set_cons_succ]
        refine take10 (i := 5) (oi := _) (v := ?_) (d := some 22) rfl (by kernel_rfl) (by kernel_rfl) (by kernel_rfl) (by kernel_rfl) (fun _ _ _ h => h) (Or.inl ⟨by rfl, ?_⟩) (by assumption) ?_
        rotate_left
        · (intro w hSw; (try dsimp only at hSw); go_simp <;> with_reducible rfl)
        try simp only [Act.put, List.setIfInBounds_toArray, List.set_cons_zero, List.set_cons_succ]
        refine take10 (i := 6) (oi := _) (v := ?_) (d := some 23) rfl (by kernel_rfl) (by kernel_rfl) (by kernel_rfl) (by kernel_rfl) (fun _ _ _ h => h) (Or.inl ⟨by rfl, ?_⟩) (by assumption) ?_
        rotate_left
        · (intro w hSw; (try dsimp only at hSw); go_simp <;> with_reducible rfl)
        try simp only [Act.put, List.setIfInBounds_toArray, List.set_cons_zero, List.set_cons_succ]
        refine take10 (i := 7) (oi := _) (v := ?_) (d := some 24) rfl (by kernel_rfl) (by kernel_rfl) (by kernel_rfl) (by kernel_rfl) (fun _ _ _ h => h) (Or.inl ⟨by rfl, ?_⟩) (by assumption) ?_
        rotate_left
        · (intro w hSw; (try dsimp only at hSw); go_simp <;> with_reducible rfl)
        try simp only [Act.put, List.setIfInBounds_toArray, List.set_cons_zero, List.set_cons_succ]
        refine take10 (i := 8) (oi := _) (v := ?_) (d := some 25) rfl (by kernel_rfl) (by kernel_rfl) (by kernel_rfl) (by kernel_rfl) (fun _ _ _ h => h) (Or.inl ⟨by rfl, ?_⟩) (by assumption) ?_
        rotate_left
        · (intro w hSw; (try dsimp only at hSw); go_simp <;> with_reducible rfl)
        try simp only [Act.put, List.setIfInBounds_toArray, List.set_cons_zero, List.set_cons_succ]
        refine wpAnyH_ready (rs := [9, 10]) (by kernel_rfl) (by simp) ?_
        refine AllReadyH.cons (o := _) rfl (fun K hK => ?_) (AllReadyH.cons (o := _) rfl (fun K hK => ?_) AllReadyH.nil)
        · skip
          go_simp
          have hb : Below v2.heap.size v2 (v2.alloc (.cells #[.slice none 0 0, .int .i64 0, .int .i64 0] 45)) := balloc _ _
          have hN := x3_new v2 (.slice none 0 0) (.int .i64 0) (.int .i64 0) 45 v2.heap.size rfl
          have h_HC := HC_2.out.later hb
          have h_HS := HS_2.out.later hb
          have h_HR := HR_2.out.later hb
          have h_HE := HE_2.out.later hb
          have h_HQ := HQ_2.out.later hb
          have h_HB := HB_2.out.trans (hb.mono HB_2.out.size)
          have h_OO := OO_2.out.later hb
          have h_QQ := QQ_2.out.later hb
          refine hK.out _ _ ?_ (fun hHeld => ?_)
          · exact ⟨h_HC.1.1, h_HC.1.2.1, h_HC.1.2.2, h_HS.1.1, h_HS.1.2⟩
          clear hK K
          try simp only [Act.put, List.setIfInBounds_toArray, List.set_cons_zero, List.set_cons_succ]
          generalize (v2.alloc (.cells #[.slice none 0 0, .int .i64 0, .int .i64 0] 45)) = v3 at hb hN hHeld h_HC h_HS h_HR h_HE h_HQ h_HB h_OO h_QQ ⊢
          have HC_3 : Hid (X3 v3 w.heap.size (.slice ao n c) (.int .i64 t) (.int .i64 y)) := h_HC
          have HS_3 : Hid (X2 v3 (w.heap.size + 1) (.int .i64 k) (.string s)) := h_HS
          have HR_3 : Hid (X3 v3 (w.heap.size + 2) (.slice none 0 0) (.int .i64 0) (.int .i64 0)) := h_HR
          have HE_3 : Hid (X3 v3 (w.heap.size + 3) (.int .i64 0) (.int .i64 0) (.int .i64 0)) := h_HE
          have HQ_3 : Hid (QOk v3 ao n c xs) := h_HQ
          have HB_3 : Hid (Below w1.heap.size w1 v3) := h_HB
          have OO_3 : Hid (OwnS v3 v0.heap.size (.slice a1 n d1) xs) := h_OO
          have QQ_3 : Hid (QOk v3 a2 m d2 Q) := h_QQ
          have G8_3 : Hid (X3 v3 v2.heap.size (.slice none 0 0) (.int .i64 0) (.int .i64 0)) := hN
          have hl2 : w1.heap.size ≤ v2.heap.size := HB_2.out.size
          have hz2 : v2.heap.size < v3.heap.size := G8_3.out.lt
          clear hb hN h_HC h_HS h_HR h_HE h_HQ h_HB h_OO h_QQ HC_2 HS_2 HR_2 HE_2 HQ_2 HB_2 OO_2 QQ_2
          refine wpAnyH_ready (rs := [10]) (by kernel_rfl) (by simp) ?_
          refine AllReadyH.cons (o := _) rfl (fun K hK => ?_) AllReadyH.nil
          · skip
            go_simp
            have hb : Below v3.heap.size v3 (v3.alloc (.cells #[.int .i64 0, .int .i64 0, .int .i64 0] 52)) := balloc _ _
            have hN := x3_new v3 (.int .i64 0) (.int .i64 0) (.int .i64 0) 52 v3.heap.size rfl
            have h_HC := HC_3.out.later hb
            have h_HS := HS_3.out.later hb
            have h_HR := HR_3.out.later hb
            have h_HE := HE_3.out.later hb
            have h_HQ := HQ_3.out.later hb
            have h_HB := HB_3.out.trans (hb.mono HB_3.out.size)
            have h_OO := OO_3.out.later hb
            have h_QQ := QQ_3.out.later hb
            have h_G8 := G8_3.out.later hb
            refine hK.out _ _ ?_ (fun hHeld => ?_)
            · exact ⟨h_HC.1.1, h_HC.1.2.1, h_HC.1.2.2, h_HS.1.1, h_HS.1.2⟩
            clear hK K
            try simp only [Act.put, List.setIfInBounds_toArray, List.set_cons_zero, List.set_cons_succ]
            generalize (v3.alloc (.cells #[.int .i64 0, .int .i64 0, .int .i64 0] 52)) = v4 at hb hN hHeld h_HC h_HS h_HR h_HE h_HQ h_HB h_OO h_QQ h_G8 ⊢
            have HC_4 : Hid (X3 v4 w.heap.size (.slice ao n c) (.int .i64 t) (.int .i64 y)) := h_HC
            have HS_4 : Hid (X2 v4 (w.heap.size + 1) (.int .i64 k) (.string s)) := h_HS
            have HR_4 : Hid (X3 v4 (w.heap.size + 2) (.slice none 0 0) (.int .i64 0) (.int .i64 0)) := h_HR
            have HE_4 : Hid (X3 v4 (w.heap.size + 3) (.int .i64 0) (.int .i64 0) (.int .i64 0)) := h_HE
            have HQ_4 : Hid (QOk v4 ao n c xs) := h_HQ
            have HB_4 : Hid (Below w1.heap.size w1 v4) := h_HB
            have OO_4 : Hid (OwnS v4 v0.heap.size (.slice a1 n d1) xs) := h_OO
            have QQ_4 : Hid (QOk v4 a2 m d2 Q) := h_QQ
            have G8_4 : Hid (X3 v4 v2.heap.size (.slice none 0 0) (.int .i64 0) (.int .i64 0)) := h_G8
            have G9_4 : Hid (X3 v4 v3.heap.size (.int .i64 0) (.int .i64 0) (.int .i64 0)) := hN
            have hl3 : w1.heap.size ≤ v3.heap.size := HB_3.out.size
            have hz3 : v3.heap.size < v4.heap.size := G9_4.out.lt
            clear hb hN h_HC h_HS h_HR h_HE h_HQ h_HB h_OO h_QQ h_G8 HC_3 HS_3 HR_3 HE_3 HQ_3 HB_3 OO_3 QQ_3 G8_3
            obtain ⟨⟨e0, e1, e2⟩, ef⟩ := id G8_4.out
            have q0 := ef 0
            have q1 := ef 1
            have q2 := ef 2
            have h_HC : X3 (((v4.setCell ⟨v2.heap.size, 0, none⟩ (.slice a2 m d2)).setCell ⟨v2.heap.size, 1, none⟩ (.int .i64 T)).setCell ⟨v2.heap.size, 2, none⟩ (.int .i64 Y)) w.heap.size (.slice ao n c) (.int .i64 t) (.int .i64 y) := (((HC_4.out.other (by omega)).other (by omega)).other (by omega))
            have h_HS : X2 (((v4.setCell ⟨v2.heap.size, 0, none⟩ (.slice a2 m d2)).setCell ⟨v2.heap.size, 1, none⟩ (.int .i64 T)).setCell ⟨v2.heap.size, 2, none⟩ (.int .i64 Y)) (w.heap.size + 1) (.int .i64 k) (.string s) := (((HS_4.out.other (by omega)).other (by omega)).other (by omega))
            have h_HR : X3 (((v4.setCell ⟨v2.heap.size, 0, none⟩ (.slice a2 m d2)).setCell ⟨v2.heap.size, 1, none⟩ (.int .i64 T)).setCell ⟨v2.heap.size, 2, none⟩ (.int .i64 Y)) (w.heap.size + 2) (.slice none 0 0) (.int .i64 0) (.int .i64 0) := (((HR_4.out.other (by omega)).other (by omega)).other (by omega))
            have h_HE : X3 (((v4.setCell ⟨v2.heap.size, 0, none⟩ (.slice a2 m d2)).setCell ⟨v2.heap.size, 1, none⟩ (.int .i64 T)).setCell ⟨v2.heap.size, 2, none⟩ (.int .i64 Y)) (w.heap.size + 3) (.int .i64 0) (.int .i64 0) (.int .i64 0) := (((HE_4.out.other (by omega)).other (by omega)).other (by omega))
            have h_HQ : QOk (((v4.setCell ⟨v2.heap.size, 0, none⟩ (.slice a2 m d2)).setCell ⟨v2.heap.size, 1, none⟩ (.int .i64 T)).setCell ⟨v2.heap.size, 2, none⟩ (.int .i64 Y)) ao n c xs := qok_put3 HQ_4.out G8_4.out (by simp) (by simp) (by simp)
            have h_HB : Below w1.heap.size w1 (((v4.setCell ⟨v2.heap.size, 0, none⟩ (.slice a2 m d2)).setCell ⟨v2.heap.size, 1, none⟩ (.int .i64 T)).setCell ⟨v2.heap.size, 2, none⟩ (.int .i64 Y)) := (((HB_4.out.setCell (by dsimp only; omega) _).setCell (by dsimp only; omega) _).setCell (by dsimp only; omega) _)
            have h_QQ : QOk (((v4.setCell ⟨v2.heap.size, 0, none⟩ (.slice a2 m d2)).setCell ⟨v2.heap.size, 1, none⟩ (.int .i64 T)).setCell ⟨v2.heap.size, 2, none⟩ (.int .i64 Y)) a2 m d2 Q := qok_put3 QQ_4.out G8_4.out (by simp) (by simp) (by simp)
            have h_G8 : X3 (((v4.setCell ⟨v2.heap.size, 0, none⟩ (.slice a2 m d2)).setCell ⟨v2.heap.size, 1, none⟩ (.int .i64 T)).setCell ⟨v2.heap.size, 2, none⟩ (.int .i64 Y)) v2.heap.size (.slice a2 m d2) (.int .i64 T) (.int .i64 Y) := (((G8_4.out.set0 _).set1 _).set2 _)
            have h_G9 : X3 (((v4.setCell ⟨v2.heap.size, 0, none⟩ (.slice a2 m d2)).setCell ⟨v2.heap.size, 1, none⟩ (.int .i64 T)).setCell ⟨v2.heap.size, 2, none⟩ (.int .i64 Y)) v3.heap.size (.int .i64 0) (.int .i64 0) (.int .i64 0) := (((G9_4.out.other (by omega)).other (by omega)).other (by omega))
            refine wpAnyH_ready (rs := [11]) (by kernel_rfl) (by simp) ?_
            refine AllReadyH.cons (o := _) rfl (fun K hK => ?_) AllReadyH.nil
            go_simp
            refine hK.out _ _ ?_ (fun hHeld => ?_)
            · exact ⟨h_HC.1.1, h_HC.1.2.1, h_HC.1.2.2, h_HS.1.1, h_HS.1.2⟩
            clear hK K
            try simp only [Act.put, List.setIfInBounds_toArray, List.set_cons_zero, List.set_cons_succ]
            generalize (((v4.setCell ⟨v2.heap.size, 0, none⟩ (.slice a2 m d2)).setCell ⟨v2.heap.size, 1, none⟩ (.int .i64 T)).setCell ⟨v2.heap.size, 2, none⟩ (.int .i64 Y)) = v5 at hHeld h_HC h_HS h_HR h_HE h_HQ h_HB h_QQ h_G8 h_G9 ⊢
            have HC_5 : Hid (X3 v5 w.heap.size (.slice ao n c) (.int .i64 t) (.int .i64 y)) := h_HC
            have HS_5 : Hid (X2 v5 (w.heap.size + 1) (.int .i64 k) (.string s)) := h_HS
            have HR_5 : Hid (X3 v5 (w.heap.size + 2) (.slice none 0 0) (.int .i64 0) (.int .i64 0)) := h_HR
            have HE_5 : Hid (X3 v5 (w.heap.size + 3) (.int .i64 0) (.int .i64 0) (.int .i64 0)) := h_HE
            have HQ_5 : Hid (QOk v5 ao n c xs) := h_HQ
            have HB_5 : Hid (Below w1.heap.size w1 v5) := h_HB
            have QQ_5 : Hid (QOk v5 a2 m d2 Q) := h_QQ
            have G8_5 : Hid (X3 v5 v2.heap.size (.slice a2 m d2) (.int .i64 T) (.int .i64 Y)) := h_G8
            have G9_5 : Hid (X3 v5 v3.heap.size (.int .i64 0) (.int .i64 0) (.int .i64 0)) := h_G9
            clear ef e0 q0 e1 q1 e2 q2 h_HC h_HS h_HR h_HE h_HQ h_HB h_QQ h_G8 h_G9 HC_4 HS_4 HR_4 HE_4 HQ_4 HB_4 OO_4 QQ_4 G8_4 G9_4
            obtain ⟨⟨e0, e1, e2⟩, ef⟩ := id G9_5.out
            have q0 := ef 0
            have q1 := ef 1
            have q2 := ef 2
            have h_HC : X3 (((v5.setCell ⟨v3.heap.size, 0, none⟩ (.int .i64 e0r)).setCell ⟨v3.heap.size, 1, none⟩ (.int .i64 e1r)).setCell ⟨v3.heap.size, 2, none⟩ (.int .i64 e2r)) w.heap.size (.slice ao n c) (.int .i64 t) (.int .i64 y) := (((HC_5.out.other (by omega)).other (by omega)).other (by omega))
            have h_HS : X2 (((v5.setCell ⟨v3.heap.size, 0, none⟩ (.int .i64 e0r)).setCell ⟨v3.heap.size, 1, none⟩ (.int .i64 e1r)).setCell ⟨v3.heap.size, 2, none⟩ (.int .i64 e2r)) (w.heap.size + 1) (.int .i64 k) (.string s) := (((HS_5.out.other (by omega)).other (by omega)).other (by omega))
            have h_HR : X3 (((v5.setCell ⟨v3.heap.size, 0, none⟩ (.int .i64 e0r)).setCell ⟨v3.heap.size, 1, none⟩ (.int .i64 e1r)).setCell ⟨v3.heap.size, 2, none⟩ (.int .i64 e2r)) (w.heap.size + 2) (.slice none 0 0) (.int .i64 0) (.int .i64 0) := (((HR_5.out.other (by omega)).other (by omega)).other (by omega))
            have h_HE : X3 (((v5.setCell ⟨v3.heap.size, 0, none⟩ (.int .i64 e0r)).setCell ⟨v3.heap.size, 1, none⟩ (.int .i64 e1r)).setCell ⟨v3.heap.size, 2, none⟩ (.int .i64 e2r)) (w.heap.size + 3) (.int .i64 0) (.int .i64 0) (.int .i64 0) := (((HE_5.out.other (by omega)).other (by omega)).other (by omega))
            have h_HQ : QOk (((v5.setCell ⟨v3.heap.size, 0, none⟩ (.int .i64 e0r)).setCell ⟨v3.heap.size, 1, none⟩ (.int .i64 e1r)).setCell ⟨v3.heap.size, 2, none⟩ (.int .i64 e2r)) ao n c xs := qok_put3 HQ_5.out G9_5.out (by simp) (by simp) (by simp)
            have h_HB : Below w1.heap.size w1 (((v5.setCell ⟨v3.heap.size, 0, none⟩ (.int .i64 e0r)).setCell ⟨v3.heap.size, 1, none⟩ (.int .i64 e1r)).setCell ⟨v3.heap.size, 2, none⟩ (.int .i64 e2r)) := (((HB_5.out.setCell (by dsimp only; omega) _).setCell (by dsimp only; omega) _).setCell (by dsimp only; omega) _)
            have h_QQ : QOk (((v5.setCell ⟨v3.heap.size, 0, none⟩ (.int .i64 e0r)).setCell ⟨v3.heap.size, 1, none⟩ (.int .i64 e1r)).setCell ⟨v3.heap.size, 2, none⟩ (.int .i64 e2r)) a2 m d2 Q := qok_put3 QQ_5.out G9_5.out (by simp) (by simp) (by simp)
            have h_G8 : X3 (((v5.setCell ⟨v3.heap.size, 0, none⟩ (.int .i64 e0r)).setCell ⟨v3.heap.size, 1, none⟩ (.int .i64 e1r)).setCell ⟨v3.heap.size, 2, none⟩ (.int .i64 e2r)) v2.heap.size (.slice a2 m d2) (.int .i64 T) (.int .i64 Y) := (((G8_5.out.other (by omega)).other (by omega)).other (by omega))
            have h_G9 : X3 (((v5.setCell ⟨v3.heap.size, 0, none⟩ (.int .i64 e0r)).setCell ⟨v3.heap.size, 1, none⟩ (.int .i64 e1r)).setCell ⟨v3.heap.size, 2, none⟩ (.int .i64 e2r)) v3.heap.size (.int .i64 e0r) (.int .i64 e1r) (.int .i64 e2r) := (((G9_5.out.set0 _).set1 _).set2 _)
            refine wpAnyH_ready (rs := [12]) (by kernel_rfl) (by simp) ?_
            refine AllReadyH.cons (o := _) rfl (fun K hK => ?_) AllReadyH.nil
            go_simp
            refine hK.out _ _ ?_ (fun hHeld => ?_)
            · exact ⟨h_HC.1.1, h_HC.1.2.1, h_HC.1.2.2, h_HS.1.1, h_HS.1.2⟩
            clear hK K
            try simp only [Act.put, List.setIfInBounds_toArray, List.set_cons_zero, List.set_cons_succ]
            generalize (((v5.setCell ⟨v3.heap.size, 0, none⟩ (.int .i64 e0r)).setCell ⟨v3.heap.size, 1, none⟩ (.int .i64 e1r)).setCell ⟨v3.heap.size, 2, none⟩ (.int .i64 e2r)) = v6 at hHeld h_HC h_HS h_HR h_HE h_HQ h_HB h_QQ h_G8 h_G9 ⊢
            have HC_6 : Hid (X3 v6 w.heap.size (.slice ao n c) (.int .i64 t) (.int .i64 y)) := h_HC
            have HS_6 : Hid (X2 v6 (w.heap.size + 1) (.int .i64 k) (.string s)) := h_HS
            have HR_6 : Hid (X3 v6 (w.heap.size + 2) (.slice none 0 0) (.int .i64 0) (.int .i64 0)) := h_HR
            have HE_6 : Hid (X3 v6 (w.heap.size + 3) (.int .i64 0) (.int .i64 0) (.int .i64 0)) := h_HE
            have HQ_6 : Hid (QOk v6 ao n c xs) := h_HQ
            have HB_6 : Hid (Below w1.heap.size w1 v6) := h_HB
            have QQ_6 : Hid (QOk v6 a2 m d2 Q) := h_QQ
            have G8_6 : Hid (X3 v6 v2.heap.size (.slice a2 m d2) (.int .i64 T) (.int .i64 Y)) := h_G8
            have G9_6 : Hid (X3 v6 v3.heap.size (.int .i64 e0r) (.int .i64 e1r) (.int .i64 e2r)) := h_G9
            clear ef e0 q0 e1 q1 e2 q2 h_HC h_HS h_HR h_HE h_HQ h_HB h_QQ h_G8 h_G9 HC_5 HS_5 HR_5 HE_5 HQ_5 HB_5 QQ_5 G8_5 G9_5
            refine take10 (i := 13) (oi := _) (v := ?_) (d := some 10) rfl (by kernel_rfl) (by kernel_rfl) (by kernel_rfl) (by kernel_rfl) (fun _ _ _ h => h) (Or.inl ⟨by rfl, ?_⟩) (by assumption) ?_
            rotate_left
            · (intro w hSw; (try dsimp only at hSw); go_simp <;> with_reducible rfl)
            try simp only [Act.put, List.setIfInBounds_toArray, List.set_cons_zero, List.set_cons_succ]
            refine take10 (i := 14) (oi := _) (v := ?_) (d := some 11) rfl (by kernel_rfl) (by kernel_rfl) (by kernel_rfl) (by kernel_rfl) (fun _ _ _ h => h) (Or.inl ⟨by rfl, ?_⟩) (by assumption) ?_
            rotate_left
            · (intro w hSw; (try dsimp only at hSw); go_simp <;> with_reducible rfl)
            try simp only [Act.put, List.setIfInBounds_toArray, List.set_cons_zero, List.set_cons_succ]
            refine wpAnyH_done (by kernel_rfl) ?_ _
            go_wp2_with fail
            go_meet
            exact ⟨a2, d2, v2.heap.size, v3.heap.size, rfl, rfl, rfl, rfl, G8_6.out, G9_6.out, HR_6.out, HE_6.out, QQ_6.out, HB_6.out, by omega, by omega⟩
        · skip
          go_simp
          have hb : Below v2.heap.size v2 (v2.alloc (.cells #[.int .i64 0, .int .i64 0, .int .i64 0] 52)) := balloc _ _
          have hN := x3_new v2 (.int .i64 0) (.int .i64 0) (.int .i64 0) 52 v2.heap.size rfl
          have h_HC := HC_2.out.later hb
          have h_HS := HS_2.out.later hb
          have h_HR := HR_2.out.later hb
          have h_HE := HE_2.out.later hb
          have h_HQ := HQ_2.out.later hb
          have h_HB := HB_2.out.trans (hb.mono HB_2.out.size)
          have h_OO := OO_2.out.later hb
          have h_QQ := QQ_2.out.later hb
          refine hK.out _ _ ?_ (fun hHeld => ?_)
          · exact ⟨h_HC.1.1, h_HC.1.2.1, h_HC.1.2.2, h_HS.1.1, h_HS.1.2⟩
          clear hK K
          try simp only [Act.put, List.setIfInBounds_toArray, List.set_cons_zero, List.set_cons_succ]
          generalize (v2.alloc (.cells #[.int .i64 0, .int .i64 0, .int .i64 0] 52)) = v3 at hb hN hHeld h_HC h_HS h_HR h_HE h_HQ h_HB h_OO h_QQ ⊢
          have HC_3 : Hid (X3 v3 w.heap.size (.slice ao n c) (.int .i64 t) (.int .i64 y)) := h_HC
          have HS_3 : Hid (X2 v3 (w.heap.size + 1) (.int .i64 k) (.string s)) := h_HS
          have HR_3 : Hid (X3 v3 (w.heap.size + 2) (.slice none 0 0) (.int .i64 0) (.int .i64 0)) := h_HR
          have HE_3 : Hid (X3 v3 (w.heap.size + 3) (.int .i64 0) (.int .i64 0) (.int .i64 0)) := h_HE
          have HQ_3 : Hid (QOk v3 ao n c xs) := h_HQ
          have HB_3 : Hid (Below w1.heap.size w1 v3) := h_HB
          have OO_3 : Hid (OwnS v3 v0.heap.size (.slice a1 n d1) xs) := h_OO
          have QQ_3 : Hid (QOk v3 a2 m d2 Q) := h_QQ
          have G9_3 : Hid (X3 v3 v2.heap.size (.int .i64 0) (.int .i64 0) (.int .i64 0)) := hN
          have hl2 : w1.heap.size ≤ v2.heap.size := HB_2.out.size
          have hz2 : v2.heap.size < v3.heap.size := G9_3.out.lt
          clear hb hN h_HC h_HS h_HR h_HE h_HQ h_HB h_OO h_QQ HC_2 HS_2 HR_2 HE_2 HQ_2 HB_2 OO_2 QQ_2
          refine wpAnyH_ready (rs := [9]) (by kernel_rfl) (by simp) ?_
          refine AllReadyH.cons (o := _) rfl (fun K hK => ?_) AllReadyH.nil
          · skip
            go_simp
            have hb : Below v3.heap.size v3 (v3.alloc (.cells #[.slice none 0 0, .int .i64 0, .int .i64 0] 45)) := balloc _ _
            have hN := x3_new v3 (.slice none 0 0) (.int .i64 0) (.int .i64 0) 45 v3.heap.size rfl
            have h_HC := HC_3.out.later hb
            have h_HS := HS_3.out.later hb
            have h_HR := HR_3.out.later hb
            have h_HE := HE_3.out.later hb
            have h_HQ := HQ_3.out.later hb
            have h_HB := HB_3.out.trans (hb.mono HB_3.out.size)
            have h_OO := OO_3.out.later hb
            have h_QQ := QQ_3.out.later hb
            have h_G9 := G9_3.out.later hb
            refine hK.out _ _ ?_ (fun hHeld => ?_)
            · exact ⟨h_HC.1.1, h_HC.1.2.1, h_HC.1.2.2, h_HS.1.1, h_HS.1.2⟩
            clear hK K
            try simp only [Act.put, List.setIfInBounds_toArray, List.set_cons_zero, List.set_cons_succ]
            generalize (v3.alloc (.cells #[.slice none 0 0, .int .i64 0, .int .i64 0] 45)) = v4 at hb hN hHeld h_HC h_HS h_HR h_HE h_HQ h_HB h_OO h_QQ h_G9 ⊢
            have HC_4 : Hid (X3 v4 w.heap.size (.slice ao n c) (.int .i64 t) (.int .i64 y)) := h_HC
            have HS_4 : Hid (X2 v4 (w.heap.size + 1) (.int .i64 k) (.string s)) := h_HS
            have HR_4 : Hid (X3 v4 (w.heap.size + 2) (.slice none 0 0) (.int .i64 0) (.int .i64 0)) := h_HR
            have HE_4 : Hid (X3 v4 (w.heap.size + 3) (.int .i64 0) (.int .i64 0) (.int .i64 0)) := h_HE
            have HQ_4 : Hid (QOk v4 ao n c xs) := h_HQ
            have HB_4 : Hid (Below w1.heap.size w1 v4) := h_HB
            have OO_4 : Hid (OwnS v4 v0.heap.size (.slice a1 n d1) xs) := h_OO
            have QQ_4 : Hid (QOk v4 a2 m d2 Q) := h_QQ
            have G9_4 : Hid (X3 v4 v2.heap.size (.int .i64 0) (.int .i64 0) (.int .i64 0)) := h_G9
            have G8_4 : Hid (X3 v4 v3.heap.size (.slice none 0 0) (.int .i64 0) (.int .i64 0)) := hN
            have hl3 : w1.heap.size ≤ v3.heap.size := HB_3.out.size
            have hz3 : v3.heap.size < v4.heap.size := G8_4.out.lt
            clear hb hN h_HC h_HS h_HR h_HE h_HQ h_HB h_OO h_QQ h_G9 HC_3 HS_3 HR_3 HE_3 HQ_3 HB_3 OO_3 QQ_3 G9_3
            obtain ⟨⟨e0, e1, e2⟩, ef⟩ := id G8_4.out
            have q0 := ef 0
            have q1 := ef 1
            have q2 := ef 2
            have h_HC : X3 (((v4.setCell ⟨v3.heap.size, 0, none⟩ (.slice a2 m d2)).setCell ⟨v3.heap.size, 1, none⟩ (.int .i64 T)).setCell ⟨v3.heap.size, 2, none⟩ (.int .i64 Y)) w.heap.size (.slice ao n c) (.int .i64 t) (.int .i64 y) := (((HC_4.out.other (by omega)).other (by omega)).other (by omega))
            have h_HS : X2 (((v4.setCell ⟨v3.heap.size, 0, none⟩ (.slice a2 m d2)).setCell ⟨v3.heap.size, 1, none⟩ (.int .i64 T)).setCell ⟨v3.heap.size, 2, none⟩ (.int .i64 Y)) (w.heap.size + 1) (.int .i64 k) (.string s) := (((HS_4.out.other (by omega)).other (by omega)).other (by omega))
            have h_HR : X3 (((v4.setCell ⟨v3.heap.size, 0, none⟩ (.slice a2 m d2)).setCell ⟨v3.heap.size, 1, none⟩ (.int .i64 T)).setCell ⟨v3.heap.size, 2, none⟩ (.int .i64 Y)) (w.heap.size + 2) (.slice none 0 0) (.int .i64 0) (.int .i64 0) := (((HR_4.out.other (by omega)).other (by omega)).other (by omega))
            have h_HE : X3 (((v4.setCell ⟨v3.heap.size, 0, none⟩ (.slice a2 m d2)).setCell ⟨v3.heap.size, 1, none⟩ (.int .i64 T)).setCell ⟨v3.heap.size, 2, none⟩ (.int .i64 Y)) (w.heap.size + 3) (.int .i64 0) (.int .i64 0) (.int .i64 0) := (((HE_4.out.other (by omega)).other (by omega)).other (by omega))
            have h_HQ : QOk (((v4.setCell ⟨v3.heap.size, 0, none⟩ (.slice a2 m d2)).setCell ⟨v3.heap.size, 1, none⟩ (.int .i64 T)).setCell ⟨v3.heap.size, 2, none⟩ (.int .i64 Y)) ao n c xs := qok_put3 HQ_4.out G8_4.out (by simp) (by simp) (by simp)
            have h_HB : Below w1.heap.size w1 (((v4.setCell ⟨v3.heap.size, 0, none⟩ (.slice a2 m d2)).setCell ⟨v3.heap.size, 1, none⟩ (.int .i64 T)).setCell ⟨v3.heap.size, 2, none⟩ (.int .i64 Y)) := (((HB_4.out.setCell (by dsimp only; omega) _).setCell (by dsimp only; omega) _).setCell (by dsimp only; omega) _)
            have h_QQ : QOk (((v4.setCell ⟨v3.heap.size, 0, none⟩ (.slice a2 m d2)).setCell ⟨v3.heap.size, 1, none⟩ (.int .i64 T)).setCell ⟨v3.heap.size, 2, none⟩ (.int .i64 Y)) a2 m d2 Q := qok_put3 QQ_4.out G8_4.out (by simp) (by simp) (by simp)
            have h_G9 : X3 (((v4.setCell ⟨v3.heap.size, 0, none⟩ (.slice a2 m d2)).setCell ⟨v3.heap.size, 1, none⟩ (.int .i64 T)).setCell ⟨v3.heap.size, 2, none⟩ (.int .i64 Y)) v2.heap.size (.int .i64 0) (.int .i64 0) (.int .i64 0) := (((G9_4.out.other (by omega)).other (by omega)).other (by omega))
            have h_G8 : X3 (((v4.setCell ⟨v3.heap.size, 0, none⟩ (.slice a2 m d2)).setCell ⟨v3.heap.size, 1, none⟩ (.int .i64 T)).setCell ⟨v3.heap.size, 2, none⟩ (.int .i64 Y)) v3.heap.size (.slice a2 m d2) (.int .i64 T) (.int .i64 Y) := (((G8_4.out.set0 _).set1 _).set2 _)
            refine wpAnyH_ready (rs := [11]) (by kernel_rfl) (by simp) ?_
            refine AllReadyH.cons (o := _) rfl (fun K hK => ?_) AllReadyH.nil
            go_simp
            refine hK.out _ _ ?_ (fun hHeld => ?_)
            · exact ⟨h_HC.1.1, h_HC.1.2.1, h_HC.1.2.2, h_HS.1.1, h_HS.1.2⟩
            clear hK K
            try simp only [Act.put, List.setIfInBounds_toArray, List.set_cons_zero, List.set_cons_succ]
            generalize (((v4.setCell ⟨v3.heap.size, 0, none⟩ (.slice a2 m d2)).setCell ⟨v3.heap.size, 1, none⟩ (.int .i64 T)).setCell ⟨v3.heap.size, 2, none⟩ (.int .i64 Y)) = v5 at hHeld h_HC h_HS h_HR h_HE h_HQ h_HB h_QQ h_G9 h_G8 ⊢
            have HC_5 : Hid (X3 v5 w.heap.size (.slice ao n c) (.int .i64 t) (.int .i64 y)) := h_HC
            have HS_5 : Hid (X2 v5 (w.heap.size + 1) (.int .i64 k) (.string s)) := h_HS
            have HR_5 : Hid (X3 v5 (w.heap.size + 2) (.slice none 0 0) (.int .i64 0) (.int .i64 0)) := h_HR
            have HE_5 : Hid (X3 v5 (w.heap.size + 3) (.int .i64 0) (.int .i64 0) (.int .i64 0)) := h_HE
            have HQ_5 : Hid (QOk v5 ao n c xs) := h_HQ
            have HB_5 : Hid (Below w1.heap.size w1 v5) := h_HB
            have QQ_5 : Hid (QOk v5 a2 m d2 Q) := h_QQ
            have G9_5 : Hid (X3 v5 v2.heap.size (.int .i64 0) (.int .i64 0) (.int .i64 0)) := h_G9
            have G8_5 : Hid (X3 v5 v3.heap.size (.slice a2 m d2) (.int .i64 T) (.int .i64 Y)) := h_G8
            clear ef e0 q0 e1 q1 e2 q2 h_HC h_HS h_HR h_HE h_HQ h_HB h_QQ h_G9 h_G8 HC_4 HS_4 HR_4 HE_4 HQ_4 HB_4 OO_4 QQ_4 G9_4 G8_4
            obtain ⟨⟨e0, e1, e2⟩, ef⟩ := id G9_5.out
            have q0 := ef 0
            have q1 := ef 1
            have q2 := ef 2
            have h_HC : X3 (((v5.setCell ⟨v2.heap.size, 0, none⟩ (.int .i64 e0r)).setCell ⟨v2.heap.size, 1, none⟩ (.int .i64 e1r)).setCell ⟨v2.heap.size, 2, none⟩ (.int .i64 e2r)) w.heap.size (.slice ao n c) (.int .i64 t) (.int .i64 y) := (((HC_5.out.other (by omega)).other (by omega)).other (by omega))
            have h_HS : X2 (((v5.setCell ⟨v2.heap.size, 0, none⟩ (.int .i64 e0r)).setCell ⟨v2.heap.size, 1, none⟩ (.int .i64 e1r)).setCell ⟨v2.heap.size, 2, none⟩ (.int .i64 e2r)) (w.heap.size + 1) (.int .i64 k) (.string s) := (((HS_5.out.other (by omega)).other (by omega)).other (by omega))
            have h_HR : X3 (((v5.setCell ⟨v2.heap.size, 0, none⟩ (.int .i64 e0r)).setCell ⟨v2.heap.size, 1, none⟩ (.int .i64 e1r)).setCell ⟨v2.heap.size, 2, none⟩ (.int .i64 e2r)) (w.heap.size + 2) (.slice none 0 0) (.int .i64 0) (.int .i64 0) := (((HR_5.out.other (by omega)).other (by omega)).other (by omega))
            have h_HE : X3 (((v5.setCell ⟨v2.heap.size, 0, none⟩ (.int .i64 e0r)).setCell ⟨v2.heap.size, 1, none⟩ (.int .i64 e1r)).setCell ⟨v2.heap.size, 2, none⟩ (.int .i64 e2r)) (w.heap.size + 3) (.int .i64 0) (.int .i64 0) (.int .i64 0) := (((HE_5.out.other (by omega)).other (by omega)).other (by omega))
            have h_HQ : QOk (((v5.setCell ⟨v2.heap.size, 0, none⟩ (.int .i64 e0r)).setCell ⟨v2.heap.size, 1, none⟩ (.int .i64 e1r)).setCell ⟨v2.heap.size, 2, none⟩ (.int .i64 e2r)) ao n c xs := qok_put3 HQ_5.out G9_5.out (by simp) (by simp) (by simp)
            have h_HB : Below w1.heap.size w1 (((v5.setCell ⟨v2.heap.size, 0, none⟩ (.int .i64 e0r)).setCell ⟨v2.heap.size, 1, none⟩ (.int .i64 e1r)).setCell ⟨v2.heap.size, 2, none⟩ (.int .i64 e2r)) := (((HB_5.out.setCell (by dsimp only; omega) _).setCell (by dsimp only; omega) _).setCell (by dsimp only; omega) _)
            have h_QQ : QOk (((v5.setCell ⟨v2.heap.size, 0, none⟩ (.int .i64 e0r)).setCell ⟨v2.heap.size, 1, none⟩ (.int .i64 e1r)).setCell ⟨v2.heap.size, 2, none⟩ (.int .i64 e2r)) a2 m d2 Q := qok_put3 QQ_5.out G9_5.out (by simp) (by simp) (by simp)
            have h_G9 : X3 (((v5.setCell ⟨v2.heap.size, 0, none⟩ (.int .i64 e0r)).setCell ⟨v2.heap.size, 1, none⟩ (.int .i64 e1r)).setCell ⟨v2.heap.size, 2, none⟩ (.int .i64 e2r)) v2.heap.size (.int .i64 e0r) (.int .i64 e1r) (.int .i64 e2r) := (((G9_5.out.set0 _).set1 _).set2 _)
            have h_G8 : X3 (((v5.setCell ⟨v2.heap.size, 0, none⟩ (.int .i64 e0r)).setCell ⟨v2.heap.size, 1, none⟩ (.int .i64 e1r)).setCell ⟨v2.heap.size, 2, none⟩ (.int .i64 e2r)) v3.heap.size (.slice a2 m d2) (.int .i64 T) (.int .i64 Y) := (((G8_5.out.other (by omega)).other (by omega)).other (by omega))
            refine wpAnyH_ready (rs := [12]) (by kernel_rfl) (by simp) ?_
            refine AllReadyH.cons (o := _) rfl (fun K hK => ?_) AllReadyH.nil
            go_simp
            refine hK.out _ _ ?_ (fun hHeld => ?_)
            · exact ⟨h_HC.1.1, h_HC.1.2.1, h_HC.1.2.2, h_HS.1.1, h_HS.1.2⟩
            clear hK K
            try simp only [Act.put, List.setIfInBounds_toArray, List.set_cons_zero, List.set_cons_succ]
            generalize (((v5.setCell ⟨v2.heap.size, 0, none⟩ (.int .i64 e0r)).setCell ⟨v2.heap.size, 1, none⟩ (.int .i64 e1r)).setCell ⟨v2.heap.size, 2, none⟩ (.int .i64 e2r)) = v6 at hHeld h_HC h_HS h_HR h_HE h_HQ h_HB h_QQ h_G9 h_G8 ⊢
            have HC_6 : Hid (X3 v6 w.heap.size (.slice ao n c) (.int .i64 t) (.int .i64 y)) := h_HC
            have HS_6 : Hid (X2 v6 (w.heap.size + 1) (.int .i64 k) (.string s)) := h_HS
            have HR_6 : Hid (X3 v6 (w.heap.size + 2) (.slice none 0 0) (.int .i64 0) (.int .i64 0)) := h_HR
            have HE_6 : Hid (X3 v6 (w.heap.size + 3) (.int .i64 0) (.int .i64 0) (.int .i64 0)) := h_HE
            have HQ_6 : Hid (QOk v6 ao n c xs) := h_HQ
            have HB_6 : Hid (Below w1.heap.size w1 v6) := h_HB
            have QQ_6 : Hid (QOk v6 a2 m d2 Q) := h_QQ
            have G9_6 : Hid (X3 v6 v2.heap.size (.int .i64 e0r) (.int .i64 e1r) (.int .i64 e2r)) := h_G9
            have G8_6 : Hid (X3 v6 v3.heap.size (.slice a2 m d2) (.int .i64 T) (.int .i64 Y)) := h_G8
            clear ef e0 q0 e1 q1 e2 q2 h_HC h_HS h_HR h_HE h_HQ h_HB h_QQ h_G9 h_G8 HC_5 HS_5 HR_5 HE_5 HQ_5 HB_5 QQ_5 G9_5 G8_5
            refine take10 (i := 13) (oi := _) (v := ?_) (d := some 10) rfl (by kernel_rfl) (by kernel_rfl) (by kernel_rfl) (by kernel_rfl) (fun _ _ _ h => h) (Or.inl ⟨by rfl, ?_⟩) (by assumption) ?_
            rotate_left
            · (intro w hSw; (try dsimp only at hSw); go_simp <;> with_reducible rfl)
            try simp only [Act.put, List.setIfInBounds_toArray, List.set_cons_zero, List.set_cons_succ]
            refine take10 (i := 14) (oi := _) (v := ?_) (d := some 11) rfl (by kernel_rfl) (by kernel_rfl) (by kernel_rfl) (by kernel_rfl) (fun _ _ _ h => h) (Or.inl ⟨by rfl, ?_⟩) (by assumption) ?_
            rotate_left
            · (intro w hSw; (try dsimp only at hSw); go_simp <;> with_reducible rfl)
            try simp only [Act.put, List.setIfInBounds_toArray, List.set_cons_zero, List.set_cons_succ]
            refine wpAnyH_done (by kernel_rfl) ?_ _
            go_wp2_with fail
            go_meet
            exact ⟨a2, d2, v3.heap.size, v2.heap.size, rfl, rfl, rfl, rfl, G8_6.out, G9_6.out, HR_6.out, HE_6.out, QQ_6.out, HB_6.out, by omega, by omega⟩
      · skip
        go_simp
        have hb : Below v1.heap.size v1 (v1.alloc (.cells #[.slice none 0 0, .int .i64 0, .int .i64 0] 45)) := balloc _ _
        have hN := x3_new v1 (.slice none 0 0) (.int .i64 0) (.int .i64 0) 45 v1.heap.size rfl
        have h_HC := HC_1.out.later hb
        have h_HS := HS_1.out.later hb
        have h_HR := HR_1.out.later hb
        have h_HE := HE_1.out.later hb
        have h_HQ := HQ_1.out.later hb
        have h_HB := HB_1.out.trans (hb.mono HB_1.out.size)
        have h_OO := OO_1.out.later hb
        refine hK.out _ _ ?_ (fun hHeld => ?_)
        · exact ⟨h_HC.1.1, h_HC.1.2.1, h_HC.1.2.2, h_HS.1.1, h_HS.1.2⟩
        clear hK K
        try simp only [Act.put, List.setIfInBounds_toArray, List.set_cons_zero, List.set_cons_succ]
        generalize (v1.alloc (.cells #[.slice none 0 0, .int .i64 0, .int .i64 0] 45)) = v2 at hb hN hHeld h_HC h_HS h_HR h_HE h_HQ h_HB h_OO ⊢
        have HC_2 : Hid (X3 v2 w.heap.size (.slice ao n c) (.int .i64 t) (.int .i64 y)) := h_HC
        have HS_2 : Hid (X2 v2 (w.heap.size + 1) (.int .i64 k) (.string s)) := h_HS
        have HR_2 : Hid (X3 v2 (w.heap.size + 2) (.slice none 0 0) (.int .i64 0) (.int .i64 0)) := h_HR
        have HE_2 : Hid (X3 v2 (w.heap.size + 3) (.int .i64 0) (.int .i64 0) (.int .i64 0)) := h_HE
        have HQ_2 : Hid (QOk v2 ao n c xs) := h_HQ
        have HB_2 : Hid (Below w1.heap.size w1 v2) := h_HB
        have OO_2 : Hid (OwnS v2 v0.heap.size (.slice a1 n d1) xs) := h_OO
        have G8_2 : Hid (X3 v2 v1.heap.size (.slice none 0 0) (.int .i64 0) (.int .i64 0)) := hN
        have hl1 : w1.heap.size ≤ v1.heap.size := HB_1.out.size
        have hz1 : v1.heap.size < v2.heap.size := G8_2.out.lt
        clear hb hN h_HC h_HS h_HR h_HE h_HQ h_HB h_OO HC_1 HS_1 HR_1 HE_1 HQ_1 HB_1 OO_1
        refine wpAnyH_ready (rs := [3, 10]) (by kernel_rfl) (by simp) ?_
        refine AllReadyH.cons (o := _) rfl (fun K hK => ?_) (AllReadyH.cons (o := _) rfl (fun K hK => ?_) AllReadyH.nil)
        · skip
          go_simp
          refine (qL a1 d1 v2 OO_2.out.ok).mono ?_
          rintro e v3 ⟨a2, d2, rfl, hq2, hb⟩
          have HC_3 : Hid (X3 v3 w.heap.size (.slice ao n c) (.int .i64 t) (.int .i64 y)) := HC_2.out.later hb
          have HS_3 : Hid (X2 v3 (w.heap.size + 1) (.int .i64 k) (.string s)) := HS_2.out.later hb
          have HR_3 : Hid (X3 v3 (w.heap.size + 2) (.slice none 0 0) (.int .i64 0) (.int .i64 0)) := HR_2.out.later hb
          have HE_3 : Hid (X3 v3 (w.heap.size + 3) (.int .i64 0) (.int .i64 0) (.int .i64 0)) := HE_2.out.later hb
          have HQ_3 : Hid (QOk v3 ao n c xs) := HQ_2.out.later hb
          have HB_3 : Hid (Below w1.heap.size w1 v3) := HB_2.out.trans (hb.mono HB_2.out.size)
          have OO_3 : Hid (OwnS v3 v0.heap.size (.slice a1 n d1) xs) := OO_2.out.later hb
          have G8_3 : Hid (X3 v3 v1.heap.size (.slice none 0 0) (.int .i64 0) (.int .i64 0)) := G8_2.out.later hb
          have QQ_3 : Hid (QOk v3 a2 m d2 Q) := hq2
          have hz2 : v2.heap.size ≤ v3.heap.size := hb.size
          have hl2 : w1.heap.size ≤ v2.heap.size := HB_2.out.size
          refine hK.out _ _ ?_ (fun hHeld => ?_)
          · exact ⟨HC_3.out.1.1, HC_3.out.1.2.1, HC_3.out.1.2.2, HS_3.out.1.1, HS_3.out.1.2⟩
          clear hK K hb HC_2 HS_2 HR_2 HE_2 HQ_2 HB_2 OO_2 G8_2
          try simp only [Act.put, List.setIfInBounds_toArray, List.set_cons_zero, List.set_cons_succ]
          refine take10 (i := 4) (oi := _) (v := ?_) (d := some 17) rfl (by kernel_rfl) (by kernel_rfl) (by kernel_rfl) (by kernel_rfl) (fun _ _ _ h => h) (Or.inl ⟨by rfl, ?_⟩) (by assumption) ?_
          rotate_left
          · (intro w hSw; (try dsimp only at hSw); go_simp <;> with_reducible rfl)
          try simp only [Act.put, List.setIfInBounds_toArray, List.set_cons_zero, List.set_cons_succ]
          refine take10 (i := 5) (oi := _) (v := ?_) (d := some 22) rfl (by kernel_rfl) (by kernel_rfl) (by kernel_rfl) (by kernel_rfl) (fun _ _ _ h => h) (Or.inl ⟨by rfl, ?_⟩) (by assumption) ?_
          rotate_left
          · (intro w hSw; (try dsimp only at hSw); go_simp <;> with_reducible rfl)
          try simp only [Act.put, List.setIfInBounds_toArray, List.set_cons_zero, List.set_cons_succ]
          refine take10 (i := 6) (oi := _) (v := ?_) (d := some 23) rfl (by kernel_rfl) (by kernel_rfl) (by kernel_rfl) (by kernel_rfl) (fun _ _ _ h => h) (Or.inl ⟨by rfl, ?_⟩) (by assumption) ?_
          rotate_left
          · (intro w hSw; (try dsimp only at hSw); go_simp <;> with_reducible rfl)
          try simp only [Act.put, List.setIfInBounds_toArray, List.set_cons_zero, List.set_cons_succ]
          refine take10 (i := 7) (oi := _) (v := ?_) (d := some 24) rfl (by kernel_rfl) (by kernel_rfl) (by kernel_rfl) (by kernel_rfl) (fun _ _ _ h => h) (Or.inl ⟨by rfl, ?_⟩) (by assumption) ?_
          rotate_left
          · (intro w hSw; (try dsimp only at hSw); go_simp <;> with_reducible rfl)
          try simp only [Act.put, List.setIfInBounds_toArray, List.set_cons_zero, List.set_cons_succ]
          refine take10 (i := 8) (oi := _) (v := ?_) (d := some 25) rfl (by kernel_rfl) (by kernel_rfl) (by kernel_rfl) (by kernel_rfl) (fun _ _ _ h => h) (Or.inl ⟨by rfl, ?_⟩) (by assumption) ?_
          rotate_left
          · (intro w hSw; (try dsimp only at hSw); go_simp <;> with_reducible rfl)
          try simp only [Act.put, List.setIfInBounds_toArray, List.set_cons_zero, List.set_cons_succ]
          refine wpAnyH_ready (rs := [10]) (by kernel_rfl) (by simp) ?_
          refine AllReadyH.cons (o := _) rfl (fun K hK => ?_) AllReadyH.nil
          · skip
            go_simp
            have hb : Below v3.heap.size v3 (v3.alloc (.cells #[.int .i64 0, .int .i64 0, .int .i64 0] 52)) := balloc _ _
            have hN := x3_new v3 (.int .i64 0) (.int .i64 0) (.int .i64 0) 52 v3.heap.size rfl
            have h_HC := HC_3.out.later hb
            have h_HS := HS_3.out.later hb
            have h_HR := HR_3.out.later hb
            have h_HE := HE_3.out.later hb
            have h_HQ := HQ_3.out.later hb
            have h_HB := HB_3.out.trans (hb.mono HB_3.out.size)
            have h_OO := OO_3.out.later hb
            have h_G8 := G8_3.out.later hb
            have h_QQ := QQ_3.out.later hb
            refine hK.out _ _ ?_ (fun hHeld => ?_)
            · exact ⟨h_HC.1.1, h_HC.1.2.1, h_HC.1.2.2, h_HS.1.1, h_HS.1.2⟩
            clear hK K
            try simp only [Act.put, List.setIfInBounds_toArray, List.set_cons_zero, List.set_cons_succ]
            generalize (v3.alloc (.cells #[.int .i64 0, .int .i64 0, .int .i64 0] 52)) = v4 at hb hN hHeld h_HC h_HS h_HR h_HE h_HQ h_HB h_OO h_G8 h_QQ ⊢
            have HC_4 : Hid (X3 v4 w.heap.size (.slice ao n c) (.int .i64 t) (.int .i64 y)) := h_HC
            have HS_4 : Hid (X2 v4 (w.heap.size + 1) (.int .i64 k) (.string s)) := h_HS
            have HR_4 : Hid (X3 v4 (w.heap.size + 2) (.slice none 0 0) (.int .i64 0) (.int .i64 0)) := h_HR
            have HE_4 : Hid (X3 v4 (w.heap.size + 3) (.int .i64 0) (.int .i64 0) (.int .i64 0)) := h_HE
            have HQ_4 : Hid (QOk v4 ao n c xs) := h_HQ
            have HB_4 : Hid (Below w1.heap.size w1 v4) := h_HB
            have OO_4 : Hid (OwnS v4 v0.heap.size (.slice a1 n d1) xs) := h_OO
            have G8_4 : Hid (X3 v4 v1.heap.size (.slice none 0 0) (.int .i64 0) (.int .i64 0)) := h_G8
            have QQ_4 : Hid (QOk v4 a2 m d2 Q) := h_QQ
            have G9_4 : Hid (X3 v4 v3.heap.size (.int .i64 0) (.int .i64 0) (.int .i64 0)) := hN
            have hl3 : w1.heap.size ≤ v3.heap.size := HB_3.out.size
            have hz3 : v3.heap.size < v4.heap.size := G9_4.out.lt
            clear hb hN h_HC h_HS h_HR h_HE h_HQ h_HB h_OO h_G8 h_QQ HC_3 HS_3 HR_3 HE_3 HQ_3 HB_3 OO_3 G8_3 QQ_3
            obtain ⟨⟨e0, e1, e2⟩, ef⟩ := id G8_4.out
            have q0 := ef 0
            have q1 := ef 1
            have q2 := ef 2
            have h_HC : X3 (((v4.setCell ⟨v1.heap.size, 0, none⟩ (.slice a2 m d2)).setCell ⟨v1.heap.size, 1, none⟩ (.int .i64 T)).setCell ⟨v1.heap.size, 2, none⟩ (.int .i64 Y)) w.heap.size (.slice ao n c) (.int .i64 t) (.int .i64 y) := (((HC_4.out.other (by omega)).other (by omega)).other (by omega))
            have h_HS : X2 (((v4.setCell ⟨v1.heap.size, 0, none⟩ (.slice a2 m d2)).setCell ⟨v1.heap.size, 1, none⟩ (.int .i64 T)).setCell ⟨v1.heap.size, 2, none⟩ (.int .i64 Y)) (w.heap.size + 1) (.int .i64 k) (.string s) := (((HS_4.out.other (by omega)).other (by omega)).other (by omega))
            have h_HR : X3 (((v4.setCell ⟨v1.heap.size, 0, none⟩ (.slice a2 m d2)).setCell ⟨v1.heap.size, 1, none⟩ (.int .i64 T)).setCell ⟨v1.heap.size, 2, none⟩ (.int .i64 Y)) (w.heap.size + 2) (.slice none 0 0) (.int .i64 0) (.int .i64 0) := (((HR_4.out.other (by omega)).other (by omega)).other (by omega))
            have h_HE : X3 (((v4.setCell ⟨v1.heap.size, 0, none⟩ (.slice a2 m d2)).setCell ⟨v1.heap.size, 1, none⟩ (.int .i64 T)).setCell ⟨v1.heap.size, 2, none⟩ (.int .i64 Y)) (w.heap.size + 3) (.int .i64 0) (.int .i64 0) (.int .i64 0) := (((HE_4.out.other (by omega)).other (by omega)).other (by omega))
            have h_HQ : QOk (((v4.setCell ⟨v1.heap.size, 0, none⟩ (.slice a2 m d2)).setCell ⟨v1.heap.size, 1, none⟩ (.int .i64 T)).setCell ⟨v1.heap.size, 2, none⟩ (.int .i64 Y)) ao n c xs := qok_put3 HQ_4.out G8_4.out (by simp) (by simp) (by simp)
            have h_HB : Below w1.heap.size w1 (((v4.setCell ⟨v1.heap.size, 0, none⟩ (.slice a2 m d2)).setCell ⟨v1.heap.size, 1, none⟩ (.int .i64 T)).setCell ⟨v1.heap.size, 2, none⟩ (.int .i64 Y)) := (((HB_4.out.setCell (by dsimp only; omega) _).setCell (by dsimp only; omega) _).setCell (by dsimp only; omega) _)
            have h_G8 : X3 (((v4.setCell ⟨v1.heap.size, 0, none⟩ (.slice a2 m d2)).setCell ⟨v1.heap.size, 1, none⟩ (.int .i64 T)).setCell ⟨v1.heap.size, 2, none⟩ (.int .i64 Y)) v1.heap.size (.slice a2 m d2) (.int .i64 T) (.int .i64 Y) := (((G8_4.out.set0 _).set1 _).set2 _)
            have h_QQ : QOk (((v4.setCell ⟨v1.heap.size, 0, none⟩ (.slice a2 m d2)).setCell ⟨v1.heap.size, 1, none⟩ (.int .i64 T)).setCell ⟨v1.heap.size, 2, none⟩ (.int .i64 Y)) a2 m d2 Q := qok_put3 QQ_4.out G8_4.out (by simp) (by simp) (by simp)
            have h_G9 : X3 (((v4.setCell ⟨v1.heap.size, 0, none⟩ (.slice a2 m d2)).setCell ⟨v1.heap.size, 1, none⟩ (.int .i64 T)).setCell ⟨v1.heap.size, 2, none⟩ (.int .i64 Y)) v3.heap.size (.int .i64 0) (.int .i64 0) (.int .i64 0) := (((G9_4.out.other (by omega)).other (by omega)).other (by omega))
            refine wpAnyH_ready (rs := [11]) (by kernel_rfl) (by simp) ?_
            refine AllReadyH.cons (o := _) rfl (fun K hK => ?_) AllReadyH.nil
            go_simp
            refine hK.out _ _ ?_ (fun hHeld => ?_)
            · exact ⟨h_HC.1.1, h_HC.1.2.1, h_HC.1.2.2, h_HS.1.1, h_HS.1.2⟩
            clear hK K
            try simp only [Act.put, List.setIfInBounds_toArray, List.set_cons_zero, List.set_cons_succ]
            generalize (((v4.setCell ⟨v1.heap.size, 0, none⟩ (.slice a2 m d2)).setCell ⟨v1.heap.size, 1, none⟩ (.int .i64 T)).setCell ⟨v1.heap.size, 2, none⟩ (.int .i64 Y)) = v5 at hHeld h_HC h_HS h_HR h_HE h_HQ h_HB h_G8 h_QQ h_G9 ⊢
            have HC_5 : Hid (X3 v5 w.heap.size (.slice ao n c) (.int .i64 t) (.int .i64 y)) := h_HC
            have HS_5 : Hid (X2 v5 (w.heap.size + 1) (.int .i64 k) (.string s)) := h_HS
            have HR_5 : Hid (X3 v5 (w.heap.size + 2) (.slice none 0 0) (.int .i64 0) (.int .i64 0)) := h_HR
            have HE_5 : Hid (X3 v5 (w.heap.size + 3) (.int .i64 0) (.int .i64 0) (.int .i64 0)) := h_HE
            have HQ_5 : Hid (QOk v5 ao n c xs) := h_HQ
            have HB_5 : Hid (Below w1.heap.size w1 v5) := h_HB
            have G8_5 : Hid (X3 v5 v1.heap.size (.slice a2 m d2) (.int .i64 T) (.int .i64 Y)) := h_G8
            have QQ_5 : Hid (QOk v5 a2 m d2 Q) := h_QQ
            have G9_5 : Hid (X3 v5 v3.heap.size (.int .i64 0) (.int .i64 0) (.int .i64 0)) := h_G9
            clear ef e0 q0 e1 q1 e2 q2 h_HC h_HS h_HR h_HE h_HQ h_HB h_G8 h_QQ h_G9 HC_4 HS_4 HR_4 HE_4 HQ_4 HB_4 OO_4 G8_4 QQ_4 G9_4
            obtain ⟨⟨e0, e1, e2⟩, ef⟩ := id G9_5.out
            have q0 := ef 0
            have q1 := ef 1
            have q2 := ef 2
            have h_HC : X3 (((v5.setCell ⟨v3.heap.size, 0, none⟩ (.int .i64 e0r)).setCell ⟨v3.heap.size, 1, none⟩ (.int .i64 e1r)).setCell ⟨v3.heap.size, 2, none⟩ (.int .i64 e2r)) w.heap.size (.slice ao n c) (.int .i64 t) (.int .i64 y) := (((HC_5.out.other (by omega)).other (by omega)).other (by omega))
            have h_HS : X2 (((v5.setCell ⟨v3.heap.size, 0, none⟩ (.int .i64 e0r)).setCell ⟨v3.heap.size, 1, none⟩ (.int .i64 e1r)).setCell ⟨v3.heap.size, 2, none⟩ (.int .i64 e2r)) (w.heap.size + 1) (.int .i64 k) (.string s) := (((HS_5.out.other (by omega)).other (by omega)).other (by omega))
            have h_HR : X3 (((v5.setCell ⟨v3.heap.size, 0, none⟩ (.int .i64 e0r)).setCell ⟨v3.heap.size, 1, none⟩ (.int .i64 e1r)).setCell ⟨v3.heap.size, 2, none⟩ (.int .i64 e2r)) (w.heap.size + 2) (.slice none 0 0) (.int .i64 0) (.int .i64 0) := (((HR_5.out.other (by omega)).other (by omega)).other (by omega))
            have h_HE : X3 (((v5.setCell ⟨v3.heap.size, 0, none⟩ (.int .i64 e0r)).setCell ⟨v3.heap.size, 1, none⟩ (.int .i64 e1r)).setCell ⟨v3.heap.size, 2, none⟩ (.int .i64 e2r)) (w.heap.size + 3) (.int .i64 0) (.int .i64 0) (.int .i64 0) := (((HE_5.out.other (by omega)).other (by omega)).other (by omega))
            have h_HQ : QOk (((v5.setCell ⟨v3.heap.size, 0, none⟩ (.int .i64 e0r)).setCell ⟨v3.heap.size, 1, none⟩ (.int .i64 e1r)).setCell ⟨v3.heap.size, 2, none⟩ (.int .i64 e2r)) ao n c xs := qok_put3 HQ_5.out G9_5.out (by simp) (by simp) (by simp)
            have h_HB : Below w1.heap.size w1 (((v5.setCell ⟨v3.heap.size, 0, none⟩ (.int .i64 e0r)).setCell ⟨v3.heap.size, 1, none⟩ (.int .i64 e1r)).setCell ⟨v3.heap.size, 2, none⟩ (.int .i64 e2r)) := (((HB_5.out.setCell (by dsimp only; omega) _).setCell (by dsimp only; omega) _).setCell (by dsimp only; omega) _)
            have h_G8 : X3 (((v5.setCell ⟨v3.heap.size, 0, none⟩ (.int .i64 e0r)).setCell ⟨v3.heap.size, 1, none⟩ (.int .i64 e1r)).setCell ⟨v3.heap.size, 2, none⟩ (.int .i64 e2r)) v1.heap.size (.slice a2 m d2) (.int .i64 T) (.int .i64 Y) := (((G8_5.out.other (by omega)).other (by omega)).other (by omega))
            have h_QQ : QOk (((v5.setCell ⟨v3.heap.size, 0, none⟩ (.int .i64 e0r)).setCell ⟨v3.heap.size, 1, none⟩ (.int .i64 e1r)).setCell ⟨v3.heap.size, 2, none⟩ (.int .i64 e2r)) a2 m d2 Q := qok_put3 QQ_5.out G9_5.out (by simp) (by simp) (by simp)
            have h_G9 : X3 (((v5.setCell ⟨v3.heap.size, 0, none⟩ (.int .i64 e0r)).setCell ⟨v3.heap.size, 1, none⟩ (.int .i64 e1r)).setCell ⟨v3.heap.size, 2, none⟩ (.int .i64 e2r)) v3.heap.size (.int .i64 e0r) (.int .i64 e1r) (.int .i64 e2r) := (((G9_5.out.set0 _).set1 _).set2 _)
            refine wpAnyH_ready (rs := [12]) (by kernel_rfl) (by simp) ?_
            refine AllReadyH.cons (o := _) rfl (fun K hK => ?_) AllReadyH.nil
            go_simp
            refine hK.out _ _ ?_ (fun hHeld => ?_)
            · exact ⟨h_HC.1.1, h_HC.1.2.1, h_HC.1.2.2, h_HS.1.1, h_HS.1.2⟩
            clear hK K
            try simp only [Act.put, List.setIfInBounds_toArray, List.set_cons_zero, List.set_cons_succ]
            generalize (((v5.setCell ⟨v3.heap.size, 0, none⟩ (.int .i64 e0r)).setCell ⟨v3.heap.size, 1, none⟩ (.int .i64 e1r)).setCell ⟨v3.heap.size, 2, none⟩ (.int .i64 e2r)) = v6 at hHeld h_HC h_HS h_HR h_HE h_HQ h_HB h_G8 h_QQ h_G9 ⊢
            have HC_6 : Hid (X3 v6 w.heap.size (.slice ao n c) (.int .i64 t) (.int .i64 y)) := h_HC
            have HS_6 : Hid (X2 v6 (w.heap.size + 1) (.int .i64 k) (.string s)) := h_HS
            have HR_6 : Hid (X3 v6 (w.heap.size + 2) (.slice none 0 0) (.int .i64 0) (.int .i64 0)) := h_HR
            have HE_6 : Hid (X3 v6 (w.heap.size + 3) (.int .i64 0) (.int .i64 0) (.int .i64 0)) := h_HE
            have HQ_6 : Hid (QOk v6 ao n c xs) := h_HQ
            have HB_6 : Hid (Below w1.heap.size w1 v6) := h_HB
            have G8_6 : Hid (X3 v6 v1.heap.size (.slice a2 m d2) (.int .i64 T) (.int .i64 Y)) := h_G8
            have QQ_6 : Hid (QOk v6 a2 m d2 Q) := h_QQ
            have G9_6 : Hid (X3 v6 v3.heap.size (.int .i64 e0r) (.int .i64 e1r) (.int .i64 e2r)) := h_G9
            clear ef e0 q0 e1 q1 e2 q2 h_HC h_HS h_HR h_HE h_HQ h_HB h_G8 h_QQ h_G9 HC_5 HS_5 HR_5 HE_5 HQ_5 HB_5 G8_5 QQ_5 G9_5
            refine take10 (i := 13) (oi := _) (v := ?_) (d := some 10) rfl (by kernel_rfl) (by kernel_rfl) (by kernel_rfl) (by kernel_rfl) (fun _ _ _ h => h) (Or.inl ⟨by rfl, ?_⟩) (by assumption) ?_
            rotate_left
            · (intro w hSw; (try dsimp only at hSw); go_simp <;> with_reducible rfl)
            try simp only [Act.put, List.setIfInBounds_toArray, List.set_cons_zero, List.set_cons_succ]
            refine take10 (i := 14) (oi := _) (v := ?_) (d := some 11) rfl (by kernel_rfl) (by kernel_rfl) (by kernel_rfl) (by kernel_rfl) (fun _ _ _ h => h) (Or.inl ⟨by rfl, ?_⟩) (by assumption) ?_
            rotate_left
            · (intro w hSw; (try dsimp only at hSw); go_simp <;> with_reducible rfl)
            try simp only [Act.put, List.setIfInBounds_toArray, List.set_cons_zero, List.set_cons_succ]
            refine wpAnyH_done (by kernel_rfl) ?_ _
            go_wp2_with fail
            go_meet
            exact ⟨a2, d2, v1.heap.size, v3.heap.size, rfl, rfl, rfl, rfl, G8_6.out, G9_6.out, HR_6.out, HE_6.out, QQ_6.out, HB_6.out, by omega, by omega⟩
        · skip
          go_simp
          have hb : Below v2.heap.size v2 (v2.alloc (.cells #[.int .i64 0, .int .i64 0, .int .i64 0] 52)) := balloc _ _
          have hN := x3_new v2 (.int .i64 0) (.int .i64 0) (.int .i64 0) 52 v2.heap.size rfl
          have h_HC := HC_2.out.later hb
          have h_HS := HS_2.out.later hb
          have h_HR := HR_2.out.later hb
          have h_HE := HE_2.out.later hb
          have h_HQ := HQ_2.out.later hb
          have h_HB := HB_2.out.trans (hb.mono HB_2.out.size)
          have h_OO := OO_2.out.later hb
          have h_G8 := G8_2.out.later hb
          refine hK.out _ _ ?_ (fun hHeld => ?_)
          · exact ⟨h_HC.1.1, h_HC.1.2.1, h_HC.1.2.2, h_HS.1.1, h_HS.1.2⟩
          clear hK K
          try simp only [Act.put, List.setIfInBounds_toArray, List.set_cons_zero, List.set_cons_succ]
          generalize (v2.alloc (.cells #[.int .i64 0, .int .i64 0, .int .i64 0] 52)) = v3 at hb hN hHeld h_HC h_HS h_HR h_HE h_HQ h_HB h_OO h_G8 ⊢
          have HC_3 : Hid (X3 v3 w.heap.size (.slice ao n c) (.int .i64 t) (.int .i64 y)) := h_HC
          have HS_3 : Hid (X2 v3 (w.heap.size + 1) (.int .i64 k) (.string s)) := h_HS
          have HR_3 : Hid (X3 v3 (w.heap.size + 2) (.slice none 0 0) (.int .i64 0) (.int .i64 0)) := h_HR
          have HE_3 : Hid (X3 v3 (w.heap.size + 3) (.int .i64 0) (.int .i64 0) (.int .i64 0)) := h_HE
          have HQ_3 : Hid (QOk v3 ao n c xs) := h_HQ
          have HB_3 : Hid (Below w1.heap.size w1 v3) := h_HB
          have OO_3 : Hid (OwnS v3 v0.heap.size (.slice a1 n d1) xs) := h_OO
          have G8_3 : Hid (X3 v3 v1.heap.size (.slice none 0 0) (.int .i64 0) (.int .i64 0)) := h_G8
          have G9_3 : Hid (X3 v3 v2.heap.size (.int .i64 0) (.int .i64 0) (.int .i64 0)) := hN
          have hl2 : w1.heap.size ≤ v2.heap.size := HB_2.out.size
          have hz2 : v2.heap.size < v3.heap.size := G9_3.out.lt
          clear hb hN h_HC h_HS h_HR h_HE h_HQ h_HB h_OO h_G8 HC_2 HS_2 HR_2 HE_2 HQ_2 HB_2 OO_2 G8_2
          refine wpAnyH_ready (rs := [3]) (by kernel_rfl) (by simp) ?_
          refine AllReadyH.cons (o := _) rfl (fun K hK => ?_) AllReadyH.nil
          · skip
            go_simp
            refine (qL a1 d1 v3 OO_3.out.ok).mono ?_
            rintro e v4 ⟨a2, d2, rfl, hq2, hb⟩
            have HC_4 : Hid (X3 v4 w.heap.size (.slice ao n c) (.int .i64 t) (.int .i64 y)) := HC_3.out.later hb
            have HS_4 : Hid (X2 v4 (w.heap.size + 1) (.int .i64 k) (.string s)) := HS_3.out.later hb
            have HR_4 : Hid (X3 v4 (w.heap.size + 2) (.slice none 0 0) (.int .i64 0) (.int .i64 0)) := HR_3.out.later hb
            have HE_4 : Hid (X3 v4 (w.heap.size + 3) (.int .i64 0) (.int .i64 0) (.int .i64 0)) := HE_3.out.later hb
            have HQ_4 : Hid (QOk v4 ao n c xs) := HQ_3.out.later hb
            have HB_4 : Hid (Below w1.heap.size w1 v4) := HB_3.out.trans (hb.mono HB_3.out.size)
            have OO_4 : Hid (OwnS v4 v0.heap.size (.slice a1 n d1) xs) := OO_3.out.later hb
            have G8_4 : Hid (X3 v4 v1.heap.size (.slice none 0 0) (.int .i64 0) (.int .i64 0)) := G8_3.out.later hb
            have G9_4 : Hid (X3 v4 v2.heap.size (.int .i64 0) (.int .i64 0) (.int .i64 0)) := G9_3.out.later hb
            have QQ_4 : Hid (QOk v4 a2 m d2 Q) := hq2
            have hz3 : v3.heap.size ≤ v4.heap.size := hb.size
            have hl3 : w1.heap.size ≤ v3.heap.size := HB_3.out.size
            refine hK.out _ _ ?_ (fun hHeld => ?_)
            · exact ⟨HC_4.out.1.1, HC_4.out.1.2.1, HC_4.out.1.2.2, HS_4.out.1.1, HS_4.out.1.2⟩
            clear hK K hb HC_3 HS_3 HR_3 HE_3 HQ_3 HB_3 OO_3 G8_3 G9_3
            try simp only [Act.put, List.setIfInBounds_toArray, List.set_cons_zero, List.set_cons_succ]
            refine take10 (i := 4) (oi := _) (v := ?_) (d := some 17) rfl (by kernel_rfl) (by kernel_rfl) (by kernel_rfl) (by kernel_rfl) (fun _ _ _ h => h) (Or.inl ⟨by rfl, ?_⟩) (by assumption) ?_
            rotate_left
            · (intro w hSw; (try dsimp only at hSw); go_simp <;> with_reducible rfl)
            try simp only [Act.put, List.setIfInBounds_toArray, List.set_cons_zero, List.set_cons_succ]
            refine take10 (i := 5) (oi := _) (v := ?_) (d := some 22) rfl (by kernel_rfl) (by kernel_rfl) (by kernel_rfl) (by kernel_rfl) (fun _ _ _ h => h) (Or.inl ⟨by rfl, ?_⟩) (by assumption) ?_
            rotate_left
            · (intro w hSw; (try dsimp only at hSw); go_simp <;> with_reducible rfl)
            try simp only [Act.put, List.setIfInBounds_toArray, List.set_cons_zero, List.set_cons_succ]
            refine take10 (i := 6) (oi := _) (v := ?_) (d := some 23) rfl (by kernel_rfl) (by kernel_rfl) (by kernel_rfl) (by kernel_rfl) (fun _ _ _ h => h) (Or.inl ⟨by rfl, ?_⟩) (by assumption) ?_
            rotate_left
            · (intro w hSw; (try dsimp only at hSw); go_simp <;> with_reducible rfl)
            try simp only [Act.put, List.setIfInBounds_toArray, List.set_cons_zero, List.set_cons_succ]
            refine take10 (i := 7) (oi := _) (v := ?_) (d := some 24) rfl (by kernel_rfl) (by kernel_rfl) (by kernel_rfl) (by kernel_rfl) (fun _ _ _ h => h) (Or.inl ⟨by rfl, ?_⟩) (by assumption) ?_
            rotate_left
            · (intro w hSw; (try dsimp only at hSw); go_simp <;> with_reducible rfl)
            try simp only [Act.put, List.setIfInBounds_toArray, List.set_cons_zero, List.set_cons_succ]
            refine take10 (i := 8) (oi := _) (v := ?_) (d := some 25) rfl (by kernel_rfl) (by kernel_rfl) (by kernel_rfl) (by kernel_rfl) (fun _ _ _ h => h) (Or.inl ⟨by rfl, ?_⟩) (by assumption) ?_
            rotate_left
            · (intro w hSw; (try dsimp only at hSw); go_simp <;> with_reducible rfl)
            try simp only [Act.put, List.setIfInBounds_toArray, List.set_cons_zero, List.set_cons_succ]
            obtain ⟨⟨e0, e1, e2⟩, ef⟩ := id G8_4.out
            have q0 := ef 0
            have q1 := ef 1
            have q2 := ef 2
            have h_HC : X3 (((v4.setCell ⟨v1.heap.size, 0, none⟩ (.slice a2 m d2)).setCell ⟨v1.heap.size, 1, none⟩ (.int .i64 T)).setCell ⟨v1.heap.size, 2, none⟩ (.int .i64 Y)) w.heap.size (.slice ao n c) (.int .i64 t) (.int .i64 y) := (((HC_4.out.other (by omega)).other (by omega)).other (by omega))
            have h_HS : X2 (((v4.setCell ⟨v1.heap.size, 0, none⟩ (.slice a2 m d2)).setCell ⟨v1.heap.size, 1, none⟩ (.int .i64 T)).setCell ⟨v1.heap.size, 2, none⟩ (.int .i64 Y)) (w.heap.size + 1) (.int .i64 k) (.string s) := (((HS_4.out.other (by omega)).other (by omega)).other (by omega))
            have h_HR : X3 (((v4.setCell ⟨v1.heap.size, 0, none⟩ (.slice a2 m d2)).setCell ⟨v1.heap.size, 1, none⟩ (.int .i64 T)).setCell ⟨v1.heap.size, 2, none⟩ (.int .i64 Y)) (w.heap.size + 2) (.slice none 0 0) (.int .i64 0) (.int .i64 0) := (((HR_4.out.other (by omega)).other (by omega)).other (by omega))
            have h_HE : X3 (((v4.setCell ⟨v1.heap.size, 0, none⟩ (.slice a2 m d2)).setCell ⟨v1.heap.size, 1, none⟩ (.int .i64 T)).setCell ⟨v1.heap.size, 2, none⟩ (.int .i64 Y)) (w.heap.size + 3) (.int .i64 0) (.int .i64 0) (.int .i64 0) := (((HE_4.out.other (by omega)).other (by omega)).other (by omega))
            have h_HQ : QOk (((v4.setCell ⟨v1.heap.size, 0, none⟩ (.slice a2 m d2)).setCell ⟨v1.heap.size, 1, none⟩ (.int .i64 T)).setCell ⟨v1.heap.size, 2, none⟩ (.int .i64 Y)) ao n c xs := qok_put3 HQ_4.out G8_4.out (by simp) (by simp) (by simp)
            have h_HB : Below w1.heap.size w1 (((v4.setCell ⟨v1.heap.size, 0, none⟩ (.slice a2 m d2)).setCell ⟨v1.heap.size, 1, none⟩ (.int .i64 T)).setCell ⟨v1.heap.size, 2, none⟩ (.int .i64 Y)) := (((HB_4.out.setCell (by dsimp only; omega) _).setCell (by dsimp only; omega) _).setCell (by dsimp only; omega) _)
            have h_G8 : X3 (((v4.setCell ⟨v1.heap.size, 0, none⟩ (.slice a2 m d2)).setCell ⟨v1.heap.size, 1, none⟩ (.int .i64 T)).setCell ⟨v1.heap.size, 2, none⟩ (.int .i64 Y)) v1.heap.size (.slice a2 m d2) (.int .i64 T) (.int .i64 Y) := (((G8_4.out.set0 _).set1 _).set2 _)
            have h_G9 : X3 (((v4.setCell ⟨v1.heap.size, 0, none⟩ (.slice a2 m d2)).setCell ⟨v1.heap.size, 1, none⟩ (.int .i64 T)).setCell ⟨v1.heap.size, 2, none⟩ (.int .i64 Y)) v2.heap.size (.int .i64 0) (.int .i64 0) (.int .i64 0) := (((G9_4.out.other (by omega)).other (by omega)).other (by omega))
            have h_QQ : QOk (((v4.setCell ⟨v1.heap.size, 0, none⟩ (.slice a2 m d2)).setCell ⟨v1.heap.size, 1, none⟩ (.int .i64 T)).setCell ⟨v1.heap.size, 2, none⟩ (.int .i64 Y)) a2 m d2 Q := qok_put3 QQ_4.out G8_4.out (by simp) (by simp) (by simp)
            refine wpAnyH_ready (rs := [11]) (by kernel_rfl) (by simp) ?_
            refine AllReadyH.cons (o := _) rfl (fun K hK => ?_) AllReadyH.nil
            go_simp
            refine hK.out _ _ ?_ (fun hHeld => ?_)
            · exact ⟨h_HC.1.1, h_HC.1.2.1, h_HC.1.2.2, h_HS.1.1, h_HS.1.2⟩
            clear hK K
            try simp only [Act.put, List.setIfInBounds_toArray, List.set_cons_zero, List.set_cons_succ]
            generalize (((v4.setCell ⟨v1.heap.size, 0, none⟩ (.slice a2 m d2)).setCell ⟨v1.heap.size, 1, none⟩ (.int .i64 T)).setCell ⟨v1.heap.size, 2, none⟩ (.int .i64 Y)) = v5 at hHeld h_HC h_HS h_HR h_HE h_HQ h_HB h_G8 h_G9 h_QQ ⊢
            have HC_5 : Hid (X3 v5 w.heap.size (.slice ao n c) (.int .i64 t) (.int .i64 y)) := h_HC
            have HS_5 : Hid (X2 v5 (w.heap.size + 1) (.int .i64 k) (.string s)) := h_HS
            have HR_5 : Hid (X3 v5 (w.heap.size + 2) (.slice none 0 0) (.int .i64 0) (.int .i64 0)) := h_HR
            have HE_5 : Hid (X3 v5 (w.heap.size + 3) (.int .i64 0) (.int .i64 0) (.int .i64 0)) := h_HE
            have HQ_5 : Hid (QOk v5 ao n c xs) := h_HQ
            have HB_5 : Hid (Below w1.heap.size w1 v5) := h_HB
            have G8_5 : Hid (X3 v5 v1.heap.size (.slice a2 m d2) (.int .i64 T) (.int .i64 Y)) := h_G8
            have G9_5 : Hid (X3 v5 v2.heap.size (.int .i64 0) (.int .i64 0) (.int .i64 0)) := h_G9
            have QQ_5 : Hid (QOk v5 a2 m d2 Q) := h_QQ
            clear ef e0 q0 e1 q1 e2 q2 h_HC h_HS h_HR h_HE h_HQ h_HB h_G8 h_G9 h_QQ HC_4 HS_4 HR_4 HE_4 HQ_4 HB_4 OO_4 G8_4 G9_4 QQ_4
            obtain ⟨⟨e0, e1, e2⟩, ef⟩ := id G9_5.out
            have q0 := ef 0
            have q1 := ef 1
            have q2 := ef 2
            have h_HC : X3 (((v5.setCell ⟨v2.heap.size, 0, none⟩ (.int .i64 e0r)).setCell ⟨v2.heap.size, 1, none⟩ (.int .i64 e1r)).setCell ⟨v2.heap.size, 2, none⟩ (.int .i64 e2r)) w.heap.size (.slice ao n c) (.int .i64 t) (.int .i64 y) := (((HC_5.out.other (by omega)).other (by omega)).other (by omega))
            have h_HS : X2 (((v5.setCell ⟨v2.heap.size, 0, none⟩ (.int .i64 e0r)).setCell ⟨v2.heap.size, 1, none⟩ (.int .i64 e1r)).setCell ⟨v2.heap.size, 2, none⟩ (.int .i64 e2r)) (w.heap.size + 1) (.int .i64 k) (.string s) := (((HS_5.out.other (by omega)).other (by omega)).other (by omega))
            have h_HR : X3 (((v5.setCell ⟨v2.heap.size, 0, none⟩ (.int .i64 e0r)).setCell ⟨v2.heap.size, 1, none⟩ (.int .i64 e1r)).setCell ⟨v2.heap.size, 2, none⟩ (.int .i64 e2r)) (w.heap.size + 2) (.slice none 0 0) (.int .i64 0) (.int .i64 0) := (((HR_5.out.other (by omega)).other (by omega)).other (by omega))
            have h_HE : X3 (((v5.setCell ⟨v2.heap.size, 0, none⟩ (.int .i64 e0r)).setCell ⟨v2.heap.size, 1, none⟩ (.int .i64 e1r)).setCell ⟨v2.heap.size, 2, none⟩ (.int .i64 e2r)) (w.heap.size + 3) (.int .i64 0) (.int .i64 0) (.int .i64 0) := (((HE_5.out.other (by omega)).other (by omega)).other (by omega))
            have h_HQ : QOk (((v5.setCell ⟨v2.heap.size, 0, none⟩ (.int .i64 e0r)).setCell ⟨v2.heap.size, 1, none⟩ (.int .i64 e1r)).setCell ⟨v2.heap.size, 2, none⟩ (.int .i64 e2r)) ao n c xs := qok_put3 HQ_5.out G9_5.out (by simp) (by simp) (by simp)
            have h_HB : Below w1.heap.size w1 (((v5.setCell ⟨v2.heap.size, 0, none⟩ (.int .i64 e0r)).setCell ⟨v2.heap.size, 1, none⟩ (.int .i64 e1r)).setCell ⟨v2.heap.size, 2, none⟩ (.int .i64 e2r)) := (((HB_5.out.setCell (by dsimp only; omega) _).setCell (by dsimp only; omega) _).setCell (by dsimp only; omega) _)
            have h_G8 : X3 (((v5.setCell ⟨v2.heap.size, 0, none⟩ (.int .i64 e0r)).setCell ⟨v2.heap.size, 1, none⟩ (.int .i64 e1r)).setCell ⟨v2.heap.size, 2, none⟩ (.int .i64 e2r)) v1.heap.size (.slice a2 m d2) (.int .i64 T) (.int .i64 Y) := (((G8_5.out.other (by omega)).other (by omega)).other (by omega))
            have h_G9 : X3 (((v5.setCell ⟨v2.heap.size, 0, none⟩ (.int .i64 e0r)).setCell ⟨v2.heap.size, 1, none⟩ (.int .i64 e1r)).setCell ⟨v2.heap.size, 2, none⟩ (.int .i64 e2r)) v2.heap.size (.int .i64 e0r) (.int .i64 e1r) (.int .i64 e2r) := (((G9_5.out.set0 _).set1 _).set2 _)
            have h_QQ : QOk (((v5.setCell ⟨v2.heap.size, 0, none⟩ (.int .i64 e0r)).setCell ⟨v2.heap.size, 1, none⟩ (.int .i64 e1r)).setCell ⟨v2.heap.size, 2, none⟩ (.int .i64 e2r)) a2 m d2 Q := qok_put3 QQ_5.out G9_5.out (by simp) (by simp) (by simp)
            refine wpAnyH_ready (rs := [12]) (by kernel_rfl) (by simp) ?_
            refine AllReadyH.cons (o := _) rfl (fun K hK => ?_) AllReadyH.nil
            go_simp
            refine hK.out _ _ ?_ (fun hHeld => ?_)
            · exact ⟨h_HC.1.1, h_HC.1.2.1, h_HC.1.2.2, h_HS.1.1, h_HS.1.2⟩
            clear hK K
            try simp only [Act.put, List.setIfInBounds_toArray, List.set_cons_zero, List.set_cons_succ]
            generalize (((v5.setCell ⟨v2.heap.size, 0, none⟩ (.int .i64 e0r)).setCell ⟨v2.heap.size, 1, none⟩ (.int .i64 e1r)).setCell ⟨v2.heap.size, 2, none⟩ (.int .i64 e2r)) = v6 at hHeld h_HC h_HS h_HR h_HE h_HQ h_HB h_G8 h_G9 h_QQ ⊢
            have HC_6 : Hid (X3 v6 w.heap.size (.slice ao n c) (.int .i64 t) (.int .i64 y)) := h_HC
            have HS_6 : Hid (X2 v6 (w.heap.size + 1) (.int .i64 k) (.string s)) := h_HS
            have HR_6 : Hid (X3 v6 (w.heap.size + 2) (.slice none 0 0) (.int .i64 0) (.int .i64 0)) := h_HR
            have HE_6 : Hid (X3 v6 (w.heap.size + 3) (.int .i64 0) (.int .i64 0) (.int .i64 0)) := h_HE
            have HQ_6 : Hid (QOk v6 ao n c xs) := h_HQ
            have HB_6 : Hid (Below w1.heap.size w1 v6) := h_HB
            have G8_6 : Hid (X3 v6 v1.heap.size (.slice a2 m d2) (.int .i64 T) (.int .i64 Y)) := h_G8
            have G9_6 : Hid (X3 v6 v2.heap.size (.int .i64 e0r) (.int .i64 e1r) (.int .i64 e2r)) := h_G9
            have QQ_6 : Hid (QOk v6 a2 m d2 Q) := h_QQ
            clear ef e0 q0 e1 q1 e2 q2 h_HC h_HS h_HR h_HE h_HQ h_HB h_G8 h_G9 h_QQ HC_5 HS_5 HR_5 HE_5 HQ_5 HB_5 G8_5 G9_5 QQ_5
            refine take10 (i := 13) (oi := _) (v := ?_) (d := some 10) rfl (by kernel_rfl) (by kernel_rfl) (by kernel_rfl) (by kernel_rfl) (fun _ _ _ h => h) (Or.inl ⟨by rfl, ?_⟩) (by assumption) ?_
            rotate_left
            · (intro w hSw; (try dsimp only at hSw); go_simp <;> with_reducible rfl)
            try simp only [Act.put, List.setIfInBounds_toArray, List.set_cons_zero, List.set_cons_succ]
            refine take10 (i := 14) (oi := _) (v := ?_) (d := some 11) rfl (by kernel_rfl) (by kernel_rfl) (by kernel_rfl) (by kernel_rfl) (fun _ _ _ h => h) (Or.inl ⟨by rfl, ?_⟩) (by assumption) ?_
            rotate_left
            · (intro w hSw; (try dsimp only at hSw); go_simp <;> with_reducible rfl)
            try simp only [Act.put, List.setIfInBounds_toArray, List.set_cons_zero, List.set_cons_succ]
            refine wpAnyH_done (by kernel_rfl) ?_ _
            go_wp2_with fail
            go_meet
            exact ⟨a2, d2, v1.heap.size, v2.heap.size, rfl, rfl, rfl, rfl, G8_6.out, G9_6.out, HR_6.out, HE_6.out, QQ_6.out, HB_6.out, by omega, by omega⟩
      · skip
        go_simp
        have hb : Below v1.heap.size v1 (v1.alloc (.cells #[.int .i64 0, .int .i64 0, .int .i64 0] 52)) := balloc _ _
        have hN := x3_new v1 (.int .i64 0) (.int .i64 0) (.int .i64 0) 52 v1.heap.size rfl
        have h_HC := HC_1.out.later hb
        have h_HS := HS_1.out.later hb
        have h_HR := HR_1.out.later hb
        have h_HE := HE_1.out.later hb
        have h_HQ := HQ_1.out.later hb
        have h_HB := HB_1.out.trans (hb.mono HB_1.out.size)
        have h_OO := OO_1.out.later hb
        refine hK.out _ _ ?_ (fun hHeld => ?_)
        · exact ⟨h_HC.1.1, h_HC.1.2.1, h_HC.1.2.2, h_HS.1.1, h_HS.1.2⟩
        clear hK K
        try simp only [Act.put, List.setIfInBounds_toArray, List.set_cons_zero, List.set_cons_succ]
        generalize (v1.alloc (.cells #[.int .i64 0, .int .i64 0, .int .i64 0] 52)) = v2 at hb hN hHeld h_HC h_HS h_HR h_HE h_HQ h_HB h_OO ⊢
        have HC_2 : Hid (X3 v2 w.heap.size (.slice ao n c) (.int .i64 t) (.int .i64 y)) := h_HC
        have HS_2 : Hid (X2 v2 (w.heap.size + 1) (.int .i64 k) (.string s)) := h_HS
        have HR_2 : Hid (X3 v2 (w.heap.size + 2) (.slice none 0 0) (.int .i64 0) (.int .i64 0)) := h_HR
        have HE_2 : Hid (X3 v2 (w.heap.size + 3) (.int .i64 0) (.int .i64 0) (.int .i64 0)) := h_HE
        have HQ_2 : Hid (QOk v2 ao n c xs) := h_HQ
        have HB_2 : Hid (Below w1.heap.size w1 v2) := h_HB
        have OO_2 : Hid (OwnS v2 v0.heap.size (.slice a1 n d1) xs) := h_OO
        have G9_2 : Hid (X3 v2 v1.heap.size (.int .i64 0) (.int .i64 0) (.int .i64 0)) := hN
        have hl1 : w1.heap.size ≤ v1.heap.size := HB_1.out.size
        have hz1 : v1.heap.size < v2.heap.size := G9_2.out.lt
        clear hb hN h_HC h_HS h_HR h_HE h_HQ h_HB h_OO HC_1 HS_1 HR_1 HE_1 HQ_1 HB_1 OO_1
        refine wpAnyH_ready (rs := [3, 9]) (by kernel_rfl) (by simp) ?_
        refine AllReadyH.cons (o := _) rfl (fun K hK => ?_) (AllReadyH.cons (o := _) rfl (fun K hK => ?_) AllReadyH.nil)
        · skip
          go_simp
          refine (qL a1 d1 v2 OO_2.out.ok).mono ?_
          rintro e v3 ⟨a2, d2, rfl, hq2, hb⟩
          have HC_3 : Hid (X3 v3 w.heap.size (.slice ao n c) (.int .i64 t) (.int .i64 y)) := HC_2.out.later hb
          have HS_3 : Hid (X2 v3 (w.heap.size + 1) (.int .i64 k) (.string s)) := HS_2.out.later hb
          have HR_3 : Hid (X3 v3 (w.heap.size + 2) (.slice none 0 0) (.int .i64 0) (.int .i64 0)) := HR_2.out.later hb
          have HE_3 : Hid (X3 v3 (w.heap.size + 3) (.int .i64 0) (.int .i64 0) (.int .i64 0)) := HE_2.out.later hb
          have HQ_3 : Hid (QOk v3 ao n c xs) := HQ_2.out.later hb
          have HB_3 : Hid (Below w1.heap.size w1 v3) := HB_2.out.trans (hb.mono HB_2.out.size)
          have OO_3 : Hid (OwnS v3 v0.heap.size (.slice a1 n d1) xs) := OO_2.out.later hb
          have G9_3 : Hid (X3 v3 v1.heap.size (.int .i64 0) (.int .i64 0) (.int .i64 0)) := G9_2.out.later hb
          have QQ_3 : Hid (QOk v3 a2 m d2 Q) := hq2
          have hz2 : v2.heap.size ≤ v3.heap.size := hb.size
          have hl2 : w1.heap.size ≤ v2.heap.size := HB_2.out.size
          refine hK.out _ _ ?_ (fun hHeld => ?_)
          · exact ⟨HC_3.out.1.1, HC_3.out.1.2.1, HC_3.out.1.2.2, HS_3.out.1.1, HS_3.out.1.2⟩
          clear hK K hb HC_2 HS_2 HR_2 HE_2 HQ_2 HB_2 OO_2 G9_2
          try simp only [Act.put, List.setIfInBounds_toArray, List.set_cons_zero, List.set_cons_succ]
          refine take10 (i := 4) (oi := _) (v := ?_) (d := some 17) rfl (by kernel_rfl) (by kernel_rfl) (by kernel_rfl) (by kernel_rfl) (fun _ _ _ h => h) (Or.inl ⟨by rfl, ?_⟩) (by assumption) ?_
          rotate_left
          · (intro w hSw; (try dsimp only at hSw); go_simp <;> with_reducible rfl)
          try simp only [Act.put, List.setIfInBounds_toArray, List.set_cons_zero, List.set_cons_succ]
          refine take10 (i := 5) (oi := _) (v := ?_) (d := some 22) rfl (by kernel_rfl) (by kernel_rfl) (by kernel_rfl) (by kernel_rfl) (fun _ _ _ h => h) (Or.inl ⟨by rfl, ?_⟩) (by assumption) ?_
          rotate_left
          · (intro w hSw; (try dsimp only at hSw); go_simp <;> with_reducible rfl)
          try simp only [Act.put, List.setIfInBounds_toArray, List.set_cons_zero, List.set_cons_succ]
          refine take10 (i := 6) (oi := _) (v := ?_) (d := some 23) rfl (by kernel_rfl) (by kernel_rfl) (by kernel_rfl) (by kernel_rfl) (fun _ _ _ h => h) (Or.inl ⟨by rfl, ?_⟩) (by assumption) ?_
          rotate_left
          · (intro w hSw; (try dsimp only at hSw); go_simp <;> with_reducible rfl)
          try simp only [Act.put, List.setIfInBounds_toArray, List.set_cons_zero, List.set_cons_succ]
          refine take10 (i := 7) (oi := _) (v := ?_) (d := some 24) rfl (by kernel_rfl) (by kernel_rfl) (by kernel_rfl) (by kernel_rfl) (fun _ _ _ h => h) (Or.inl ⟨by rfl, ?_⟩) (by assumption) ?_
          rotate_left
          · (intro w hSw; (try dsimp only at hSw); go_simp <;> with_reducible rfl)
          try simp only [Act.put, List.setIfInBounds_toArray, List.set_cons_zero, List.set_cons_succ]
          refine take10 (i := 8) (oi := _) (v := ?_) (d := some 25) rfl (by kernel_rfl) (by kernel_rfl) (by kernel_rfl) (by kernel_rfl) (fun _ _ _ h => h) (Or.inl ⟨by rfl, ?_⟩) (by assumption) ?_
          rotate_left
          · (intro w hSw; (try dsimp only at hSw); go_simp <;> with_reducible rfl)
          try simp only [Act.put, List.setIfInBounds_toArray, List.set_cons_zero, List.set_cons_succ]
          refine wpAnyH_ready (rs := [9]) (by kernel_rfl) (by simp) ?_
          refine AllReadyH.cons (o := _) rfl (fun K hK => ?_) AllReadyH.nil
          · skip
            go_simp
            have hb : Below v3.heap.size v3 (v3.alloc (.cells #[.slice none 0 0, .int .i64 0, .int .i64 0] 45)) := balloc _ _
            have hN := x3_new v3 (.slice none 0 0) (.int .i64 0) (.int .i64 0) 45 v3.heap.size rfl
            have h_HC := HC_3.out.later hb
            have h_HS := HS_3.out.later hb
            have h_HR := HR_3.out.later hb
            have h_HE := HE_3.out.later hb
            have h_HQ := HQ_3.out.later hb
            have h_HB := HB_3.out.trans (hb.mono HB_3.out.size)
            have h_OO := OO_3.out.later hb
            have h_G9 := G9_3.out.later hb
            have h_QQ := QQ_3.out.later hb
            refine hK.out _ _ ?_ (fun hHeld => ?_)
            · exact ⟨h_HC.1.1, h_HC.1.2.1, h_HC.1.2.2, h_HS.1.1, h_HS.1.2⟩
            clear hK K
            try simp only [Act.put, List.setIfInBounds_toArray, List.set_cons_zero, List.set_cons_succ]
            generalize (v3.alloc (.cells #[.slice none 0 0, .int .i64 0, .int .i64 0] 45)) = v4 at hb hN hHeld h_HC h_HS h_HR h_HE h_HQ h_HB h_OO h_G9 h_QQ ⊢
            have HC_4 : Hid (X3 v4 w.heap.size (.slice ao n c) (.int .i64 t) (.int .i64 y)) := h_HC
            have HS_4 : Hid (X2 v4 (w.heap.size + 1) (.int .i64 k) (.string s)) := h_HS
            have HR_4 : Hid (X3 v4 (w.heap.size + 2) (.slice none 0 0) (.int .i64 0) (.int .i64 0)) := h_HR
            have HE_4 : Hid (X3 v4 (w.heap.size + 3) (.int .i64 0) (.int .i64 0) (.int .i64 0)) := h_HE
            have HQ_4 : Hid (QOk v4 ao n c xs) := h_HQ
            have HB_4 : Hid (Below w1.heap.size w1 v4) := h_HB
            have OO_4 : Hid (OwnS v4 v0.heap.size (.slice a1 n d1) xs) := h_OO
            have G9_4 : Hid (X3 v4 v1.heap.size (.int .i64 0) (.int .i64 0) (.int .i64 0)) := h_G9
            have QQ_4 : Hid (QOk v4 a2 m d2 Q) := h_QQ
            have G8_4 : Hid (X3 v4 v3.heap.size (.slice none 0 0) (.int .i64 0) (.int .i64 0)) := hN
            have hl3 : w1.heap.size ≤ v3.heap.size := HB_3.out.size
            have hz3 : v3.heap.size < v4.heap.size := G8_4.out.lt
            clear hb hN h_HC h_HS h_HR h_HE h_HQ h_HB h_OO h_G9 h_QQ HC_3 HS_3 HR_3 HE_3 HQ_3 HB_3 OO_3 G9_3 QQ_3
            obtain ⟨⟨e0, e1, e2⟩, ef⟩ := id G8_4.out
            have q0 := ef 0
            have q1 := ef 1
            have q2 := ef 2
            have h_HC : X3 (((v4.setCell ⟨v3.heap.size, 0, none⟩ (.slice a2 m d2)).setCell ⟨v3.heap.size, 1, none⟩ (.int .i64 T)).setCell ⟨v3.heap.size, 2, none⟩ (.int .i64 Y)) w.heap.size (.slice ao n c) (.int .i64 t) (.int .i64 y) := (((HC_4.out.other (by omega)).other (by omega)).other (by omega))
            have h_HS : X2 (((v4.setCell ⟨v3.heap.size, 0, none⟩ (.slice a2 m d2)).setCell ⟨v3.heap.size, 1, none⟩ (.int .i64 T)).setCell ⟨v3.heap.size, 2, none⟩ (.int .i64 Y)) (w.heap.size + 1) (.int .i64 k) (.string s) := (((HS_4.out.other (by omega)).other (by omega)).other (by omega))
            have h_HR : X3 (((v4.setCell ⟨v3.heap.size, 0, none⟩ (.slice a2 m d2)).setCell ⟨v3.heap.size, 1, none⟩ (.int .i64 T)).setCell ⟨v3.heap.size, 2, none⟩ (.int .i64 Y)) (w.heap.size + 2) (.slice none 0 0) (.int .i64 0) (.int .i64 0) := (((HR_4.out.other (by omega)).other (by omega)).other (by omega))
            have h_HE : X3 (((v4.setCell ⟨v3.heap.size, 0, none⟩ (.slice a2 m d2)).setCell ⟨v3.heap.size, 1, none⟩ (.int .i64 T)).setCell ⟨v3.heap.size, 2, none⟩ (.int .i64 Y)) (w.heap.size + 3) (.int .i64 0) (.int .i64 0) (.int .i64 0) := (((HE_4.out.other (by omega)).other (by omega)).other (by omega))
            have h_HQ : QOk (((v4.setCell ⟨v3.heap.size, 0, none⟩ (.slice a2 m d2)).setCell ⟨v3.heap.size, 1, none⟩ (.int .i64 T)).setCell ⟨v3.heap.size, 2, none⟩ (.int .i64 Y)) ao n c xs := qok_put3 HQ_4.out G8_4.out (by simp) (by simp) (by simp)
            have h_HB : Below w1.heap.size w1 (((v4.setCell ⟨v3.heap.size, 0, none⟩ (.slice a2 m d2)).setCell ⟨v3.heap.size, 1, none⟩ (.int .i64 T)).setCell ⟨v3.heap.size, 2, none⟩ (.int .i64 Y)) := (((HB_4.out.setCell (by dsimp only; omega) _).setCell (by dsimp only; omega) _).setCell (by dsimp only; omega) _)
            have h_G9 : X3 (((v4.setCell ⟨v3.heap.size, 0, none⟩ (.slice a2 m d2)).setCell ⟨v3.heap.size, 1, none⟩ (.int .i64 T)).setCell ⟨v3.heap.size, 2, none⟩ (.int .i64 Y)) v1.heap.size (.int .i64 0) (.int .i64 0) (.int .i64 0) := (((G9_4.out.other (by omega)).other (by omega)).other (by omega))
            have h_QQ : QOk (((v4.setCell ⟨v3.heap.size, 0, none⟩ (.slice a2 m d2)).setCell ⟨v3.heap.size, 1, none⟩ (.int .i64 T)).setCell ⟨v3.heap.size, 2, none⟩ (.int .i64 Y)) a2 m d2 Q := qok_put3 QQ_4.out G8_4.out (by simp) (by simp) (by simp)
            have h_G8 : X3 (((v4.setCell ⟨v3.heap.size, 0, none⟩ (.slice a2 m d2)).setCell ⟨v3.heap.size, 1, none⟩ (.int .i64 T)).setCell ⟨v3.heap.size, 2, none⟩ (.int .i64 Y)) v3.heap.size (.slice a2 m d2) (.int .i64 T) (.int .i64 Y) := (((G8_4.out.set0 _).set1 _).set2 _)
            refine wpAnyH_ready (rs := [11]) (by kernel_rfl) (by simp) ?_
            refine AllReadyH.cons (o := _) rfl (fun K hK => ?_) AllReadyH.nil
            go_simp
            refine hK.out _ _ ?_ (fun hHeld => ?_)
            · exact ⟨h_HC.1.1, h_HC.1.2.1, h_HC.1.2.2, h_HS.1.1, h_HS.1.2⟩
            clear hK K
            try simp only [Act.put, List.setIfInBounds_toArray, List.set_cons_zero, List.set_cons_succ]
            generalize (((v4.setCell ⟨v3.heap.size, 0, none⟩ (.slice a2 m d2)).setCell ⟨v3.heap.size, 1, none⟩ (.int .i64 T)).setCell ⟨v3.heap.size, 2, none⟩ (.int .i64 Y)) = v5 at hHeld h_HC h_HS h_HR h_HE h_HQ h_HB h_G9 h_QQ h_G8 ⊢
            have HC_5 : Hid (X3 v5 w.heap.size (.slice ao n c) (.int .i64 t) (.int .i64 y)) := h_HC
            have HS_5 : Hid (X2 v5 (w.heap.size + 1) (.int .i64 k) (.string s)) := h_HS
            have HR_5 : Hid (X3 v5 (w.heap.size + 2) (.slice none 0 0) (.int .i64 0) (.int .i64 0)) := h_HR
            have HE_5 : Hid (X3 v5 (w.heap.size + 3) (.int .i64 0) (.int .i64 0) (.int .i64 0)) := h_HE
            have HQ_5 : Hid (QOk v5 ao n c xs) := h_HQ
            have HB_5 : Hid (Below w1.heap.size w1 v5) := h_HB
            have G9_5 : Hid (X3 v5 v1.heap.size (.int .i64 0) (.int .i64 0) (.int .i64 0)) := h_G9
            have QQ_5 : Hid (QOk v5 a2 m d2 Q) := h_QQ
            have G8_5 : Hid (X3 v5 v3.heap.size (.slice a2 m d2) (.int .i64 T) (.int .i64 Y)) := h_G8
            clear ef e0 q0 e1 q1 e2 q2 h_HC h_HS h_HR h_HE h_HQ h_HB h_G9 h_QQ h_G8 HC_4 HS_4 HR_4 HE_4 HQ_4 HB_4 OO_4 G9_4 QQ_4 G8_4
            obtain ⟨⟨e0, e1, e2⟩, ef⟩ := id G9_5.out
            have q0 := ef 0
            have q1 := ef 1
            have q2 := ef 2
            have h_HC : X3 (((v5.setCell ⟨v1.heap.size, 0, none⟩ (.int .i64 e0r)).setCell ⟨v1.heap.size, 1, none⟩ (.int .i64 e1r)).setCell ⟨v1.heap.size, 2, none⟩ (.int .i64 e2r)) w.heap.size (.slice ao n c) (.int .i64 t) (.int .i64 y) := (((HC_5.out.other (by omega)).other (by omega)).other (by omega))
            have h_HS : X2 (((v5.setCell ⟨v1.heap.size, 0, none⟩ (.int .i64 e0r)).setCell ⟨v1.heap.size, 1, none⟩ (.int .i64 e1r)).setCell ⟨v1.heap.size, 2, none⟩ (.int .i64 e2r)) (w.heap.size + 1) (.int .i64 k) (.string s) := (((HS_5.out.other (by omega)).other (by omega)).other (by omega))
            have h_HR : X3 (((v5.setCell ⟨v1.heap.size, 0, none⟩ (.int .i64 e0r)).setCell ⟨v1.heap.size, 1, none⟩ (.int .i64 e1r)).setCell ⟨v1.heap.size, 2, none⟩ (.int .i64 e2r)) (w.heap.size + 2) (.slice none 0 0) (.int .i64 0) (.int .i64 0) := (((HR_5.out.other (by omega)).other (by omega)).other (by omega))
            have h_HE : X3 (((v5.setCell ⟨v1.heap.size, 0, none⟩ (.int .i64 e0r)).setCell ⟨v1.heap.size, 1, none⟩ (.int .i64 e1r)).setCell ⟨v1.heap.size, 2, none⟩ (.int .i64 e2r)) (w.heap.size + 3) (.int .i64 0) (.int .i64 0) (.int .i64 0) := (((HE_5.out.other (by omega)).other (by omega)).other (by omega))
            have h_HQ : QOk (((v5.setCell ⟨v1.heap.size, 0, none⟩ (.int .i64 e0r)).setCell ⟨v1.heap.size, 1, none⟩ (.int .i64 e1r)).setCell ⟨v1.heap.size, 2, none⟩ (.int .i64 e2r)) ao n c xs := qok_put3 HQ_5.out G9_5.out (by simp) (by simp) (by simp)
            have h_HB : Below w1.heap.size w1 (((v5.setCell ⟨v1.heap.size, 0, none⟩ (.int .i64 e0r)).setCell ⟨v1.heap.size, 1, none⟩ (.int .i64 e1r)).setCell ⟨v1.heap.size, 2, none⟩ (.int .i64 e2r)) := (((HB_5.out.setCell (by dsimp only; omega) _).setCell (by dsimp only; omega) _).setCell (by dsimp only; omega) _)
            have h_G9 : X3 (((v5.setCell ⟨v1.heap.size, 0, none⟩ (.int .i64 e0r)).setCell ⟨v1.heap.size, 1, none⟩ (.int .i64 e1r)).setCell ⟨v1.heap.size, 2, none⟩ (.int .i64 e2r)) v1.heap.size (.int .i64 e0r) (.int .i64 e1r) (.int .i64 e2r) := (((G9_5.out.set0 _).set1 _).set2 _)
            have h_QQ : QOk (((v5.setCell ⟨v1.heap.size, 0, none⟩ (.int .i64 e0r)).setCell ⟨v1.heap.size, 1, none⟩ (.int .i64 e1r)).setCell ⟨v1.heap.size, 2, none⟩ (.int .i64 e2r)) a2 m d2 Q := qok_put3 QQ_5.out G9_5.out (by simp) (by simp) (by simp)
            have h_G8 : X3 (((v5.setCell ⟨v1.heap.size, 0, none⟩ (.int .i64 e0r)).setCell ⟨v1.heap.size, 1, none⟩ (.int .i64 e1r)).setCell ⟨v1.heap.size, 2, none⟩ (.int .i64 e2r)) v3.heap.size (.slice a2 m d2) (.int .i64 T) (.int .i64 Y) := (((G8_5.out.other (by omega)).other (by omega)).other (by omega))
            refine wpAnyH_ready (rs := [12]) (by kernel_rfl) (by simp) ?_
            refine AllReadyH.cons (o := _) rfl (fun K hK => ?_) AllReadyH.nil
            go_simp
            refine hK.out _ _ ?_ (fun hHeld => ?_)
            · exact ⟨h_HC.1.1, h_HC.1.2.1, h_HC.1.2.2, h_HS.1.1, h_HS.1.2⟩
            clear hK K
            try simp only [Act.put, List.setIfInBounds_toArray, List.set_cons_zero, List.set_cons_succ]
            generalize (((v5.setCell ⟨v1.heap.size, 0, none⟩ (.int .i64 e0r)).setCell ⟨v1.heap.size, 1, none⟩ (.int .i64 e1r)).setCell ⟨v1.heap.size, 2, none⟩ (.int .i64 e2r)) = v6 at hHeld h_HC h_HS h_HR h_HE h_HQ h_HB h_G9 h_QQ h_G8 ⊢
            have HC_6 : Hid (X3 v6 w.heap.size (.slice ao n c) (.int .i64 t) (.int .i64 y)) := h_HC
            have HS_6 : Hid (X2 v6 (w.heap.size + 1) (.int .i64 k) (.string s)) := h_HS
            have HR_6 : Hid (X3 v6 (w.heap.size + 2) (.slice none 0 0) (.int .i64 0) (.int .i64 0)) := h_HR
            have HE_6 : Hid (X3 v6 (w.heap.size + 3) (.int .i64 0) (.int .i64 0) (.int .i64 0)) := h_HE
            have HQ_6 : Hid (QOk v6 ao n c xs) := h_HQ
            have HB_6 : Hid (Below w1.heap.size w1 v6) := h_HB
            have G9_6 : Hid (X3 v6 v1.heap.size (.int .i64 e0r) (.int .i64 e1r) (.int .i64 e2r)) := h_G9
            have QQ_6 : Hid (QOk v6 a2 m d2 Q) := h_QQ
            have G8_6 : Hid (X3 v6 v3.heap.size (.slice a2 m d2) (.int .i64 T) (.int .i64 Y)) := h_G8
            clear ef e0 q0 e1 q1 e2 q2 h_HC h_HS h_HR h_HE h_HQ h_HB h_G9 h_QQ h_G8 HC_5 HS_5 HR_5 HE_5 HQ_5 HB_5 G9_5 QQ_5 G8_5
            refine take10 (i := 13) (oi := _) (v := ?_) (d := some 10) rfl (by kernel_rfl) (by kernel_rfl) (by kernel_rfl) (by kernel_rfl) (fun _ _ _ h => h) (Or.inl ⟨by rfl, ?_⟩) (by assumption) ?_
            rotate_left
            · (intro w hSw; (try dsimp only at hSw); go_simp <;> with_reducible rfl)
            try simp only [Act.put, List.setIfInBounds_toArray, List.set_cons_zero, List.set_cons_succ]
            refine take10 (i := 14) (oi := _) (v := ?_) (d := some 11) rfl (by kernel_rfl) (by kernel_rfl) (by kernel_rfl) (by kernel_rfl) (fun _ _ _ h => h) (Or.inl ⟨by rfl, ?_⟩) (by assumption) ?_
            rotate_left
            · (intro w hSw; (try dsimp only at hSw); go_simp <;> with_reducible rfl)
            try simp only [Act.put, List.setIfInBounds_toArray, List.set_cons_zero, List.set_cons_succ]
            refine wpAnyH_done (by kernel_rfl) ?_ _
            go_wp2_with fail
            go_meet
            exact ⟨a2, d2, v3.heap.size, v1.heap.size, rfl, rfl, rfl, rfl, G8_6.out, G9_6.out, HR_6.out, HE_6.out, QQ_6.out, HB_6.out, by omega, by omega⟩
        · skip
          go_simp
          have hb : Below v2.heap.size v2 (v2.alloc (.cells #[.slice none 0 0, .int .i64 0, .int .i64 0] 45)) := balloc _ _
          have hN := x3_new v2 (.slice none 0 0) (.int .i64 0) (.int .i64 0) 45 v2.heap.size rfl
          have h_HC := HC_2.out.later hb
          have h_HS := HS_2.out.later hb
          have h_HR := HR_2.out.later hb
          have h_HE := HE_2.out.later hb
          have h_HQ := HQ_2.out.later hb
          have h_HB := HB_2.out.trans (hb.mono HB_2.out.size)
          have h_OO := OO_2.out.later hb
          have h_G9 := G9_2.out.later hb
          refine hK.out _ _ ?_ (fun hHeld => ?_)
          · exact ⟨h_HC.1.1, h_HC.1.2.1, h_HC.1.2.2, h_HS.1.1, h_HS.1.2⟩
          clear hK K
          try simp only [Act.put, List.setIfInBounds_toArray, List.set_cons_zero, List.set_cons_succ]
          generalize (v2.alloc (.cells #[.slice none 0 0, .int .i64 0, .int .i64 0] 45)) = v3 at hb hN hHeld h_HC h_HS h_HR h_HE h_HQ h_HB h_OO h_G9 ⊢
          have HC_3 : Hid (X3 v3 w.heap.size (.slice ao n c) (.int .i64 t) (.int .i64 y)) := h_HC
          have HS_3 : Hid (X2 v3 (w.heap.size + 1) (.int .i64 k) (.string s)) := h_HS
          have HR_3 : Hid (X3 v3 (w.heap.size + 2) (.slice none 0 0) (.int .i64 0) (.int .i64 0)) := h_HR
          have HE_3 : Hid (X3 v3 (w.heap.size + 3) (.int .i64 0) (.int .i64 0) (.int .i64 0)) := h_HE
          have HQ_3 : Hid (QOk v3 ao n c xs) := h_HQ
          have HB_3 : Hid (Below w1.heap.size w1 v3) := h_HB
          have OO_3 : Hid (OwnS v3 v0.heap.size (.slice a1 n d1) xs) := h_OO
          have G9_3 : Hid (X3 v3 v1.heap.size (.int .i64 0) (.int .i64 0) (.int .i64 0)) := h_G9
          have G8_3 : Hid (X3 v3 v2.heap.size (.slice none 0 0) (.int .i64 0) (.int .i64 0)) := hN
          have hl2 : w1.heap.size ≤ v2.heap.size := HB_2.out.size
          have hz2 : v2.heap.size < v3.heap.size := G8_3.out.lt
          clear hb hN h_HC h_HS h_HR h_HE h_HQ h_HB h_OO h_G9 HC_2 HS_2 HR_2 HE_2 HQ_2 HB_2 OO_2 G9_2
          refine wpAnyH_ready (rs := [3]) (by kernel_rfl) (by simp) ?_
          refine AllReadyH.cons (o := _) rfl (fun K hK => ?_) AllReadyH.nil
          · skip
            go_simp
            refine (qL a1 d1 v3 OO_3.out.ok).mono ?_
            rintro e v4 ⟨a2, d2, rfl, hq2, hb⟩
            have HC_4 : Hid (X3 v4 w.heap.size (.slice ao n c) (.int .i64 t) (.int .i64 y)) := HC_3.out.later hb
            have HS_4 : Hid (X2 v4 (w.heap.size + 1) (.int .i64 k) (.string s)) := HS_3.out.later hb
            have HR_4 : Hid (X3 v4 (w.heap.size + 2) (.slice none 0 0) (.int .i64 0) (.int .i64 0)) := HR_3.out.later hb
            have HE_4 : Hid (X3 v4 (w.heap.size + 3) (.int .i64 0) (.int .i64 0) (.int .i64 0)) := HE_3.out.later hb
            have HQ_4 : Hid (QOk v4 ao n c xs) := HQ_3.out.later hb
            have HB_4 : Hid (Below w1.heap.size w1 v4) := HB_3.out.trans (hb.mono HB_3.out.size)
            have OO_4 : Hid (OwnS v4 v0.heap.size (.slice a1 n d1) xs) := OO_3.out.later hb
            have G9_4 : Hid (X3 v4 v1.heap.size (.int .i64 0) (.int .i64 0) (.int .i64 0)) := G9_3.out.later hb
            have G8_4 : Hid (X3 v4 v2.heap.size (.slice none 0 0) (.int .i64 0) (.int .i64 0)) := G8_3.out.later hb
            have QQ_4 : Hid (QOk v4 a2 m d2 Q) := hq2
            have hz3 : v3.heap.size ≤ v4.heap.size := hb.size
            have hl3 : w1.heap.size ≤ v3.heap.size := HB_3.out.size
            refine hK.out _ _ ?_ (fun hHeld => ?_)
            · exact ⟨HC_4.out.1.1, HC_4.out.1.2.1, HC_4.out.1.2.2, HS_4.out.1.1, HS_4.out.1.2⟩
            clear hK K hb HC_3 HS_3 HR_3 HE_3 HQ_3 HB_3 OO_3 G9_3 G8_3
            try simp only [Act.put, List.setIfInBounds_toArray, List.set_cons_zero, List.set_cons_succ]
            refine take10 (i := 4) (oi := _) (v := ?_) (d := some 17) rfl (by kernel_rfl) (by kernel_rfl) (by kernel_rfl) (by kernel_rfl) (fun _ _ _ h => h) (Or.inl ⟨by rfl, ?_⟩) (by assumption) ?_
            rotate_left
            · (intro w hSw; (try dsimp only at hSw); go_simp <;> with_reducible rfl)
            try simp only [Act.put, List.setIfInBounds_toArray, List.set_cons_zero, List.set_cons_succ]
            refine take10 (i := 5) (oi := _) (v := ?_) (d := some 22) rfl (by kernel_rfl) (by kernel_rfl) (by kernel_rfl) (by kernel_rfl) (fun _ _ _ h => h) (Or.inl ⟨by rfl, ?_⟩) (by assumption) ?_
            rotate_left
            · (intro w hSw; (try dsimp only at hSw); go_simp <;> with_reducible rfl)
            try simp only [Act.put, List.setIfInBounds_toArray, List.set_cons_zero, List.set_cons_succ]
            refine take10 (i := 6) (oi := _) (v := ?_) (d := some 23) rfl (by kernel_rfl) (by kernel_rfl) (by kernel_rfl) (by kernel_rfl) (fun _ _ _ h => h) (Or.inl ⟨by rfl, ?_⟩) (by assumption) ?_
            rotate_left
            · (intro w hSw; (try dsimp only at hSw); go_simp <;> with_reducible rfl)
            try simp only [Act.put, List.setIfInBounds_toArray, List.set_cons_zero, List.set_cons_succ]
            refine take10 (i := 7) (oi := _) (v := ?_) (d := some 24) rfl (by kernel_rfl) (by kernel_rfl) (by kernel_rfl) (by kernel_rfl) (fun _ _ _ h => h) (Or.inl ⟨by rfl, ?_⟩) (by assumption) ?_
            rotate_left
            · (intro w hSw; (try dsimp only at hSw); go_simp <;> with_reducible rfl)
            try simp only [Act.put, List.setIfInBounds_toArray, List.set_cons_zero, List.set_cons_succ]
            refine take10 (i := 8) (oi := _) (v := ?_) (d := some 25) rfl (by kernel_rfl) (by kernel_rfl) (by kernel_rfl) (by kernel_rfl) (fun _ _ _ h => h) (Or.inl ⟨by rfl, ?_⟩) (by assumption) ?_
            rotate_left
            · (intro w hSw; (try dsimp only at hSw); go_simp <;> with_reducible rfl)
            try simp only [Act.put, List.setIfInBounds_toArray, List.set_cons_zero, List.set_cons_succ]
            obtain ⟨⟨e0, e1, e2⟩, ef⟩ := id G8_4.out
            have q0 := ef 0
            have q1 := ef 1
            have q2 := ef 2
            have h_HC : X3 (((v4.setCell ⟨v2.heap.size, 0, none⟩ (.slice a2 m d2)).setCell ⟨v2.heap.size, 1, none⟩ (.int .i64 T)).setCell ⟨v2.heap.size, 2, none⟩ (.int .i64 Y)) w.heap.size (.slice ao n c) (.int .i64 t) (.int .i64 y) := (((HC_4.out.other (by omega)).other (by omega)).other (by omega))
            have h_HS : X2 (((v4.setCell ⟨v2.heap.size, 0, none⟩ (.slice a2 m d2)).setCell ⟨v2.heap.size, 1, none⟩ (.int .i64 T)).setCell ⟨v2.heap.size, 2, none⟩ (.int .i64 Y)) (w.heap.size + 1) (.int .i64 k) (.string s) := (((HS_4.out.other (by omega)).other (by omega)).other (by omega))
            have h_HR : X3 (((v4.setCell ⟨v2.heap.size, 0, none⟩ (.slice a2 m d2)).setCell ⟨v2.heap.size, 1, none⟩ (.int .i64 T)).setCell ⟨v2.heap.size, 2, none⟩ (.int .i64 Y)) (w.heap.size + 2) (.slice none 0 0) (.int .i64 0) (.int .i64 0) := (((HR_4.out.other (by omega)).other (by omega)).other (by omega))
            have h_HE : X3 (((v4.setCell ⟨v2.heap.size, 0, none⟩ (.slice a2 m d2)).setCell ⟨v2.heap.size, 1, none⟩ (.int .i64 T)).setCell ⟨v2.heap.size, 2, none⟩ (.int .i64 Y)) (w.heap.size + 3) (.int .i64 0) (.int .i64 0) (.int .i64 0) := (((HE_4.out.other (by omega)).other (by omega)).other (by omega))
            have h_HQ : QOk (((v4.setCell ⟨v2.heap.size, 0, none⟩ (.slice a2 m d2)).setCell ⟨v2.heap.size, 1, none⟩ (.int .i64 T)).setCell ⟨v2.heap.size, 2, none⟩ (.int .i64 Y)) ao n c xs := qok_put3 HQ_4.out G8_4.out (by simp) (by simp) (by simp)
            have h_HB : Below w1.heap.size w1 (((v4.setCell ⟨v2.heap.size, 0, none⟩ (.slice a2 m d2)).setCell ⟨v2.heap.size, 1, none⟩ (.int .i64 T)).setCell ⟨v2.heap.size, 2, none⟩ (.int .i64 Y)) := (((HB_4.out.setCell (by dsimp only; omega) _).setCell (by dsimp only; omega) _).setCell (by dsimp only; omega) _)
            have h_G9 : X3 (((v4.setCell ⟨v2.heap.size, 0, none⟩ (.slice a2 m d2)).setCell ⟨v2.heap.size, 1, none⟩ (.int .i64 T)).setCell ⟨v2.heap.size, 2, none⟩ (.int .i64 Y)) v1.heap.size (.int .i64 0) (.int .i64 0) (.int .i64 0) := (((G9_4.out.other (by omega)).other (by omega)).other (by omega))
            have h_G8 : X3 (((v4.setCell ⟨v2.heap.size, 0, none⟩ (.slice a2 m d2)).setCell ⟨v2.heap.size, 1, none⟩ (.int .i64 T)).setCell ⟨v2.heap.size, 2, none⟩ (.int .i64 Y)) v2.heap.size (.slice a2 m d2) (.int .i64 T) (.int .i64 Y) := (((G8_4.out.set0 _).set1 _).set2 _)
            have h_QQ : QOk (((v4.setCell ⟨v2.heap.size, 0, none⟩ (.slice a2 m d2)).setCell ⟨v2.heap.size, 1, none⟩ (.int .i64 T)).setCell ⟨v2.heap.size, 2, none⟩ (.int .i64 Y)) a2 m d2 Q := qok_put3 QQ_4.out G8_4.out (by simp) (by simp) (by simp)
            refine wpAnyH_ready (rs := [11]) (by kernel_rfl) (by simp) ?_
            refine AllReadyH.cons (o := _) rfl (fun K hK => ?_) AllReadyH.nil
            go_simp
            refine hK.out _ _ ?_ (fun hHeld => ?_)
            · exact ⟨h_HC.1.1, h_HC.1.2.1, h_HC.1.2.2, h_HS.1.1, h_HS.1.2⟩
            clear hK K
            try simp only [Act.put, List.setIfInBounds_toArray, List.set_cons_zero, List.set_cons_succ]
            generalize (((v4.setCell ⟨v2.heap.size, 0, none⟩ (.slice a2 m d2)).setCell ⟨v2.heap.size, 1, none⟩ (.int .i64 T)).setCell ⟨v2.heap.size, 2, none⟩ (.int .i64 Y)) = v5 at hHeld h_HC h_HS h_HR h_HE h_HQ h_HB h_G9 h_G8 h_QQ ⊢
            have HC_5 : Hid (X3 v5 w.heap.size (.slice ao n c) (.int .i64 t) (.int .i64 y)) := h_HC
            have HS_5 : Hid (X2 v5 (w.heap.size + 1) (.int .i64 k) (.string s)) := h_HS
            have HR_5 : Hid (X3 v5 (w.heap.size + 2) (.slice none 0 0) (.int .i64 0) (.int .i64 0)) := h_HR
            have HE_5 : Hid (X3 v5 (w.heap.size + 3) (.int .i64 0) (.int .i64 0) (.int .i64 0)) := h_HE
            have HQ_5 : Hid (QOk v5 ao n c xs) := h_HQ
            have HB_5 : Hid (Below w1.heap.size w1 v5) := h_HB
            have G9_5 : Hid (X3 v5 v1.heap.size (.int .i64 0) (.int .i64 0) (.int .i64 0)) := h_G9
            have G8_5 : Hid (X3 v5 v2.heap.size (.slice a2 m d2) (.int .i64 T) (.int .i64 Y)) := h_G8
            have QQ_5 : Hid (QOk v5 a2 m d2 Q) := h_QQ
            clear ef e0 q0 e1 q1 e2 q2 h_HC h_HS h_HR h_HE h_HQ h_HB h_G9 h_G8 h_QQ HC_4 HS_4 HR_4 HE_4 HQ_4 HB_4 OO_4 G9_4 G8_4 QQ_4
            obtain ⟨⟨e0, e1, e2⟩, ef⟩ := id G9_5.out
            have q0 := ef 0
            have q1 := ef 1
            have q2 := ef 2
            have h_HC : X3 (((v5.setCell ⟨v1.heap.size, 0, none⟩ (.int .i64 e0r)).setCell ⟨v1.heap.size, 1, none⟩ (.int .i64 e1r)).setCell ⟨v1.heap.size, 2, none⟩ (.int .i64 e2r)) w.heap.size (.slice ao n c) (.int .i64 t) (.int .i64 y) := (((HC_5.out.other (by omega)).other (by omega)).other (by omega))
            have h_HS : X2 (((v5.setCell ⟨v1.heap.size, 0, none⟩ (.int .i64 e0r)).setCell ⟨v1.heap.size, 1, none⟩ (.int .i64 e1r)).setCell ⟨v1.heap.size, 2, none⟩ (.int .i64 e2r)) (w.heap.size + 1) (.int .i64 k) (.string s) := (((HS_5.out.other (by omega)).other (by omega)).other (by omega))
            have h_HR : X3 (((v5.setCell ⟨v1.heap.size, 0, none⟩ (.int .i64 e0r)).setCell ⟨v1.heap.size, 1, none⟩ (.int .i64 e1r)).setCell ⟨v1.heap.size, 2, none⟩ (.int .i64 e2r)) (w.heap.size + 2) (.slice none 0 0) (.int .i64 0) (.int .i64 0) := (((HR_5.out.other (by omega)).other (by omega)).other (by omega))
            have h_HE : X3 (((v5.setCell ⟨v1.heap.size, 0, none⟩ (.int .i64 e0r)).setCell ⟨v1.heap.size, 1, none⟩ (.int .i64 e1r)).setCell ⟨v1.heap.size, 2, none⟩ (.int .i64 e2r)) (w.heap.size + 3) (.int .i64 0) (.int .i64 0) (.int .i64 0) := (((HE_5.out.other (by omega)).other (by omega)).other (by omega))
            have h_HQ : QOk (((v5.setCell ⟨v1.heap.size, 0, none⟩ (.int .i64 e0r)).setCell ⟨v1.heap.size, 1, none⟩ (.int .i64 e1r)).setCell ⟨v1.heap.size, 2, none⟩ (.int .i64 e2r)) ao n c xs := qok_put3 HQ_5.out G9_5.out (by simp) (by simp) (by simp)
            have h_HB : Below w1.heap.size w1 (((v5.setCell ⟨v1.heap.size, 0, none⟩ (.int .i64 e0r)).setCell ⟨v1.heap.size, 1, none⟩ (.int .i64 e1r)).setCell ⟨v1.heap.size, 2, none⟩ (.int .i64 e2r)) := (((HB_5.out.setCell (by dsimp only; omega) _).setCell (by dsimp only; omega) _).setCell (by dsimp only; omega) _)
            have h_G9 : X3 (((v5.setCell ⟨v1.heap.size, 0, none⟩ (.int .i64 e0r)).setCell ⟨v1.heap.size, 1, none⟩ (.int .i64 e1r)).setCell ⟨v1.heap.size, 2, none⟩ (.int .i64 e2r)) v1.heap.size (.int .i64 e0r) (.int .i64 e1r) (.int .i64 e2r) := (((G9_5.out.set0 _).set1 _).set2 _)
            have h_G8 : X3 (((v5.setCell ⟨v1.heap.size, 0, none⟩ (.int .i64 e0r)).setCell ⟨v1.heap.size, 1, none⟩ (.int .i64 e1r)).setCell ⟨v1.heap.size, 2, none⟩ (.int .i64 e2r)) v2.heap.size (.slice a2 m d2) (.int .i64 T) (.int .i64 Y) := (((G8_5.out.other (by omega)).other (by omega)).other (by omega))
            have h_QQ : QOk (((v5.setCell ⟨v1.heap.size, 0, none⟩ (.int .i64 e0r)).setCell ⟨v1.heap.size, 1, none⟩ (.int .i64 e1r)).setCell ⟨v1.heap.size, 2, none⟩ (.int .i64 e2r)) a2 m d2 Q := qok_put3 QQ_5.out G9_5.out (by simp) (by simp) (by simp)
            refine wpAnyH_ready (rs := [12]) (by kernel_rfl) (by simp) ?_
            refine AllReadyH.cons (o := _) rfl (fun K hK => ?_) AllReadyH.nil
            go_simp
            refine hK.out _ _ ?_ (fun hHeld => ?_)
            · exact ⟨h_HC.1.1, h_HC.1.2.1, h_HC.1.2.2, h_HS.1.1, h_HS.1.2⟩
            clear hK K
            try simp only [Act.put, List.setIfInBounds_toArray, List.set_cons_zero, List.set_cons_succ]
            generalize (((v5.setCell ⟨v1.heap.size, 0, none⟩ (.int .i64 e0r)).setCell ⟨v1.heap.size, 1, none⟩ (.int .i64 e1r)).setCell ⟨v1.heap.size, 2, none⟩ (.int .i64 e2r)) = v6 at hHeld h_HC h_HS h_HR h_HE h_HQ h_HB h_G9 h_G8 h_QQ ⊢
            have HC_6 : Hid (X3 v6 w.heap.size (.slice ao n c) (.int .i64 t) (.int .i64 y)) := h_HC
            have HS_6 : Hid (X2 v6 (w.heap.size + 1) (.int .i64 k) (.string s)) := h_HS
            have HR_6 : Hid (X3 v6 (w.heap.size + 2) (.slice none 0 0) (.int .i64 0) (.int .i64 0)) := h_HR
            have HE_6 : Hid (X3 v6 (w.heap.size + 3) (.int .i64 0) (.int .i64 0) (.int .i64 0)) := h_HE
            have HQ_6 : Hid (QOk v6 ao n c xs) := h_HQ
            have HB_6 : Hid (Below w1.heap.size w1 v6) := h_HB
            have G9_6 : Hid (X3 v6 v1.heap.size (.int .i64 e0r) (.int .i64 e1r) (.int .i64 e2r)) := h_G9
            have G8_6 : Hid (X3 v6 v2.heap.size (.slice a2 m d2) (.int .i64 T) (.int .i64 Y)) := h_G8
            have QQ_6 : Hid (QOk v6 a2 m d2 Q) := h_QQ
            clear ef e0 q0 e1 q1 e2 q2 h_HC h_HS h_HR h_HE h_HQ h_HB h_G9 h_G8 h_QQ HC_5 HS_5 HR_5 HE_5 HQ_5 HB_5 G9_5 G8_5 QQ_5
            refine take10 (i := 13) (oi := _) (v := ?_) (d := some 10) rfl (by kernel_rfl) (by kernel_rfl) (by kernel_rfl) (by kernel_rfl) (fun _ _ _ h => h) (Or.inl ⟨by rfl, ?_⟩) (by assumption) ?_
            rotate_left
            · (intro w hSw; (try dsimp only at hSw); go_simp <;> with_reducible rfl)
            try simp only [Act.put, List.setIfInBounds_toArray, List.set_cons_zero, List.set_cons_succ]
            refine take10 (i := 14) (oi := _) (v := ?_) (d := some 11) rfl (by kernel_rfl) (by kernel_rfl) (by kernel_rfl) (by kernel_rfl) (fun _ _ _ h => h) (Or.inl ⟨by rfl, ?_⟩) (by assumption) ?_
            rotate_left
            · (intro w hSw; (try dsimp only at hSw); go_simp <;> with_reducible rfl)
            try simp only [Act.put, List.setIfInBounds_toArray, List.set_cons_zero, List.set_cons_succ]
            refine wpAnyH_done (by kernel_rfl) ?_ _
            go_wp2_with fail
            go_meet
            exact ⟨a2, d2, v2.heap.size, v1.heap.size, rfl, rfl, rfl, rfl, G8_6.out, G9_6.out, HR_6.out, HE_6.out, QQ_6.out, HB_6.out, by omega, by omega⟩
    · skip
      go_simp
      have hb : Below v0.heap.size v0 (v0.alloc (.cells #[.slice none 0 0, .int .i64 0, .int .i64 0] 45)) := balloc _ _
      have hN := x3_new v0 (.slice none 0 0) (.int .i64 0) (.int .i64 0) 45 v0.heap.size rfl
      have h_HC := HC_0.out.later hb
      have h_HS := HS_0.out.later hb
      have h_HR := HR_0.out.later hb
      have h_HE := HE_0.out.later hb
      have h_HQ := HQ_0.out.later hb
      have h_HB := HB_0.out.trans (hb.mono HB_0.out.size)
      refine hK.out _ _ ?_ (fun hHeld => ?_)
      · exact ⟨h_HC.1.1, h_HC.1.2.1, h_HC.1.2.2, h_HS.1.1, h_HS.1.2⟩
      clear hK K
      try simp only [Act.put, List.setIfInBounds_toArray, List.set_cons_zero, List.set_cons_succ]
      generalize (v0.alloc (.cells #[.slice none 0 0, .int .i64 0, .int .i64 0] 45)) = v1 at hb hN hHeld h_HC h_HS h_HR h_HE h_HQ h_HB ⊢
      have HC_1 : Hid (X3 v1 w.heap.size (.slice ao n c) (.int .i64 t) (.int .i64 y)) := h_HC
      have HS_1 : Hid (X2 v1 (w.heap.size + 1) (.int .i64 k) (.string s)) := h_HS
      have HR_1 : Hid (X3 v1 (w.heap.size + 2) (.slice none 0 0) (.int .i64 0) (.int .i64 0)) := h_HR
      have HE_1 : Hid (X3 v1 (w.heap.size + 3) (.int .i64 0) (.int .i64 0) (.int .i64 0)) := h_HE
      have HQ_1 : Hid (QOk v1 ao n c xs) := h_HQ
      have HB_1 : Hid (Below w1.heap.size w1 v1) := h_HB
      have G8_1 : Hid (X3 v1 v0.heap.size (.slice none 0 0) (.int .i64 0) (.int .i64 0)) := hN
      have hl0 : w1.heap.size ≤ v0.heap.size := HB_0.out.size
      have hz0 : v0.heap.size < v1.heap.size := G8_1.out.lt
      clear hb hN h_HC h_HS h_HR h_HE h_HQ h_HB HC_0 HS_0 HR_0 HE_0 HQ_0 HB_0
      refine wpAnyH_ready (rs := [1, 10]) (by kernel_rfl) (by simp) ?_
      refine AllReadyH.cons (o := _) rfl (fun K hK => ?_) (AllReadyH.cons (o := _) rfl (fun K hK => ?_) AllReadyH.nil)
      · skip
        go_simp
        refine (qO v1 HQ_1.out).mono ?_
        rintro e v2 ⟨a1, d1, rfl, ho, hb⟩
        have HC_2 : Hid (X3 v2 w.heap.size (.slice ao n c) (.int .i64 t) (.int .i64 y)) := HC_1.out.later hb
        have HS_2 : Hid (X2 v2 (w.heap.size + 1) (.int .i64 k) (.string s)) := HS_1.out.later hb
        have HR_2 : Hid (X3 v2 (w.heap.size + 2) (.slice none 0 0) (.int .i64 0) (.int .i64 0)) := HR_1.out.later hb
        have HE_2 : Hid (X3 v2 (w.heap.size + 3) (.int .i64 0) (.int .i64 0) (.int .i64 0)) := HE_1.out.later hb
        have HQ_2 : Hid (QOk v2 ao n c xs) := HQ_1.out.later hb
        have HB_2 : Hid (Below w1.heap.size w1 v2) := HB_1.out.trans (hb.mono HB_1.out.size)
        have G8_2 : Hid (X3 v2 v0.heap.size (.slice none 0 0) (.int .i64 0) (.int .i64 0)) := G8_1.out.later hb
        have OO_2 : Hid (OwnS v2 v1.heap.size (.slice a1 n d1) xs) := ho
        have hz1 : v1.heap.size ≤ v2.heap.size := hb.size
        have hl1 : w1.heap.size ≤ v1.heap.size := HB_1.out.size
        refine hK.out _ _ ?_ (fun hHeld => ?_)
        · exact ⟨HC_2.out.1.1, HC_2.out.1.2.1, HC_2.out.1.2.2, HS_2.out.1.1, HS_2.out.1.2⟩
        clear hK K hb HC_1 HS_1 HR_1 HE_1 HQ_1 HB_1 G8_1
        try simp only [Act.put, List.setIfInBounds_toArray, List.set_cons_zero, List.set_cons_succ]
        refine wpAnyH_ready (rs := [3, 10]) (by kernel_rfl) (by simp) ?_
        refine AllReadyH.cons (o := _) rfl (fun K hK => ?_) (AllReadyH.cons (o := _) rfl (fun K hK => ?_) AllReadyH.nil)
        · skip
          go_simp
          refine (qL a1 d1 v2 OO_2.out.ok).mono ?_
          rintro e v3 ⟨a2, d2, rfl, hq2, hb⟩
          have HC_3 : Hid (X3 v3 w.heap.size (.slice ao n c) (.int .i64 t) (.int .i64 y)) := HC_2.out.later hb
          have HS_3 : Hid (X2 v3 (w.heap.size + 1) (.int .i64 k) (.string s)) := HS_2.out.later hb
          have HR_3 : Hid (X3 v3 (w.heap.size + 2) (.slice none 0 0) (.int .i64 0) (.int .i64 0)) := HR_2.out.later hb
          have HE_3 : Hid (X3 v3 (w.heap.size + 3) (.int .i64 0) (.int .i64 0) (.int .i64 0)) := HE_2.out.later hb
          have HQ_3 : Hid (QOk v3 ao n c xs) := HQ_2.out.later hb
          have HB_3 : Hid (Below w1.heap.size w1 v3) := HB_2.out.trans (hb.mono HB_2.out.size)
          have G8_3 : Hid (X3 v3 v0.heap.size (.slice none 0 0) (.int .i64 0) (.int .i64 0)) := G8_2.out.later hb
          have OO_3 : Hid (OwnS v3 v1.heap.size (.slice a1 n d1) xs) := OO_2.out.later hb
          have QQ_3 : Hid (QOk v3 a2 m d2 Q) := hq2
          have hz2 : v2.heap.size ≤ v3.heap.size := hb.size
          have hl2 : w1.heap.size ≤ v2.heap.size := HB_2.out.size
          refine hK.out _ _ ?_ (fun hHeld => ?_)
          · exact ⟨HC_3.out.1.1, HC_3.out.1.2.1, HC_3.out.1.2.2, HS_3.out.1.1, HS_3.out.1.2⟩
          clear hK K hb HC_2 HS_2 HR_2 HE_2 HQ_2 HB_2 G8_2 OO_2
          try simp only [Act.put, List.setIfInBounds_toArray, List.set_cons_zero, List.set_cons_succ]
          refine take10 (i := 4) (oi := _) (v := ?_) (d := some 17) rfl (by kernel_rfl) (by kernel_rfl) (by kernel_rfl) (by kernel_rfl) (fun _ _ _ h => h) (Or.inl ⟨by rfl, ?_⟩) (by assumption) ?_
          rotate_left
          · (intro w hSw; (try dsimp only at hSw); go_simp <;> with_reducible rfl)
          try simp only [Act.put, List.setIfInBounds_toArray, List.set_cons_zero, List.set_cons_succ]
          refine take10 (i := 5) (oi := _) (v := ?_) (d := some 22) rfl (by kernel_rfl) (by kernel_rfl) (by kernel_rfl) (by kernel_rfl) (fun _ _ _ h => h) (Or.inl ⟨by rfl, ?_⟩) (by assumption) ?_
          rotate_left
          · (intro w hSw; (try dsimp only at hSw); go_simp <;> with_reducible rfl)
          try simp only [Act.put, List.setIfInBounds_toArray, List.set_cons_zero, List.set_cons_succ]
          refine take10 (i := 6) (oi := _) (v := ?_) (d := some 23) rfl (by kernel_rfl) (by kernel_rfl) (by kernel_rfl) (by kernel_rfl) (fun _ _ _ h => h) (Or.inl ⟨by rfl, ?_⟩) (by assumption) ?_
          rotate_left
          · (intro w hSw; (try dsimp only at hSw); go_simp <;> with_reducible rfl)
          try simp only [Act.put, List.setIfInBounds_toArray, List.set_cons_zero, List.set_cons_succ]
          refine take10 (i := 7) (oi := _) (v := ?_) (d := some 24) rfl (by kernel_rfl) (by kernel_rfl) (by kernel_rfl) (by kernel_rfl) (fun _ _ _ h => h) (Or.inl ⟨by rfl, ?_⟩) (by assumption) ?_
          rotate_left
          · (intro w hSw; (try dsimp only at hSw); go_simp <;> with_reducible rfl)
          try simp only [Act.put, List.setIfInBounds_toArray, List.set_cons_zero, List.set_cons_succ]
          refine take10 (i := 8) (oi := _) (v := ?_) (d := some 25) rfl (by kernel_rfl) (by kernel_rfl) (by kernel_rfl) (by kernel_rfl) (fun _ _ _ h => h) (Or.inl ⟨by rfl, ?_⟩) (by assumption) ?_
          rotate_left
          · (intro w hSw; (try dsimp only at hSw); go_simp <;> with_reducible rfl)
          try simp only [Act.put, List.setIfInBounds_toArray, List.set_cons_zero, List.set_cons_succ]
          refine wpAnyH_ready (rs := [10]) (by kernel_rfl) (by simp) ?_
          refine AllReadyH.cons (o := _) rfl (fun K hK => ?_) AllReadyH.nil
          · skip
            go_simp
            have hb : Below v3.heap.size v3 (v3.alloc (.cells #[.int .i64 0, .int .i64 0, .int .i64 0] 52)) := balloc _ _
            have hN := x3_new v3 (.int .i64 0) (.int .i64 0) (.int .i64 0) 52 v3.heap.size rfl
            have h_HC := HC_3.out.later hb
            have h_HS := HS_3.out.later hb
            have h_HR := HR_3.out.later hb
            have h_HE := HE_3.out.later hb
            have h_HQ := HQ_3.out.later hb
            have h_HB := HB_3.out.trans (hb.mono HB_3.out.size)
            have h_G8 := G8_3.out.later hb
            have h_OO := OO_3.out.later hb
            have h_QQ := QQ_3.out.later hb
            refine hK.out _ _ ?_ (fun hHeld => ?_)
            · exact ⟨h_HC.1.1, h_HC.1.2.1, h_HC.1.2.2, h_HS.1.1, h_HS.1.2⟩
            clear hK K
            try simp only [Act.put, List.setIfInBounds_toArray, List.set_cons_zero, List.set_cons_succ]
            generalize (v3.alloc (.cells #[.int .i64 0, .int .i64 0, .int .i64 0] 52)) = v4 at hb hN hHeld h_HC h_HS h_HR h_HE h_HQ h_HB h_G8 h_OO h_QQ ⊢
            have HC_4 : Hid (X3 v4 w.heap.size (.slice ao n c) (.int .i64 t) (.int .i64 y)) := h_HC
            have HS_4 : Hid (X2 v4 (w.heap.size + 1) (.int .i64 k) (.string s)) := h_HS
            have HR_4 : Hid (X3 v4 (w.heap.size + 2) (.slice none 0 0) (.int .i64 0) (.int .i64 0)) := h_HR
            have HE_4 : Hid (X3 v4 (w.heap.size + 3) (.int .i64 0) (.int .i64 0) (.int .i64 0)) := h_HE
            have HQ_4 : Hid (QOk v4 ao n c xs) := h_HQ
            have HB_4 : Hid (Below w1.heap.size w1 v4) := h_HB
            have G8_4 : Hid (X3 v4 v0.heap.size (.slice none 0 0) (.int .i64 0) (.int .i64 0)) := h_G8
            have OO_4 : Hid (OwnS v4 v1.heap.size (.slice a1 n d1) xs) := h_OO
            have QQ_4 : Hid (QOk v4 a2 m d2 Q) := h_QQ
            have G9_4 : Hid (X3 v4 v3.heap.size (.int .i64 0) (.int .i64 0) (.int .i64 0)) := hN
            have hl3 : w1.heap.size ≤ v3.heap.size := HB_3.out.size
            have hz3 : v3.heap.size < v4.heap.size := G9_4.out.lt
            clear hb hN h_HC h_HS h_HR h_HE h_HQ h_HB h_G8 h_OO h_QQ HC_3 HS_3 HR_3 HE_3 HQ_3 HB_3 G8_3 OO_3 QQ_3
            obtain ⟨⟨e0, e1, e2⟩, ef⟩ := id G8_4.out
            have q0 := ef 0
            have q1 := ef 1
            have q2 := ef 2
            have h_HC : X3 (((v4.setCell ⟨v0.heap.size, 0, none⟩ (.slice a2 m d2)).setCell ⟨v0.heap.size, 1, none⟩ (.int .i64 T)).setCell ⟨v0.heap.size, 2, none⟩ (.int .i64 Y)) w.heap.size (.slice ao n c) (.int .i64 t) (.int .i64 y) := (((HC_4.out.other (by omega)).other (by omega)).other (by omega))
            have h_HS : X2 (((v4.setCell ⟨v0.heap.size, 0, none⟩ (.slice a2 m d2)).setCell ⟨v0.heap.size, 1, none⟩ (.int .i64 T)).setCell ⟨v0.heap.size, 2, none⟩ (.int .i64 Y)) (w.heap.size + 1) (.int .i64 k) (.string s) := (((HS_4.out.other (by omega)).other (by omega)).other (by omega))
            have h_HR : X3 (((v4.setCell ⟨v0.heap.size, 0, none⟩ (.slice a2 m d2)).setCell ⟨v0.heap.size, 1, none⟩ (.int .i64 T)).setCell ⟨v0.heap.size, 2, none⟩ (.int .i64 Y)) (w.heap.size + 2) (.slice none 0 0) (.int .i64 0) (.int .i64 0) := (((HR_4.out.other (by omega)).other (by omega)).other (by omega))
            have h_HE : X3 (((v4.setCell ⟨v0.heap.size, 0, none⟩ (.slice a2 m d2)).setCell ⟨v0.heap.size, 1, none⟩ (.int .i64 T)).setCell ⟨v0.heap.size, 2, none⟩ (.int .i64 Y)) (w.heap.size + 3) (.int .i64 0) (.int .i64 0) (.int .i64 0) := (((HE_4.out.other (by omega)).other (by omega)).other (by omega))
            have h_HQ : QOk (((v4.setCell ⟨v0.heap.size, 0, none⟩ (.slice a2 m d2)).setCell ⟨v0.heap.size, 1, none⟩ (.int .i64 T)).setCell ⟨v0.heap.size, 2, none⟩ (.int .i64 Y)) ao n c xs := qok_put3 HQ_4.out G8_4.out (by simp) (by simp) (by simp)
            have h_HB : Below w1.heap.size w1 (((v4.setCell ⟨v0.heap.size, 0, none⟩ (.slice a2 m d2)).setCell ⟨v0.heap.size, 1, none⟩ (.int .i64 T)).setCell ⟨v0.heap.size, 2, none⟩ (.int .i64 Y)) := (((HB_4.out.setCell (by dsimp only; omega) _).setCell (by dsimp only; omega) _).setCell (by dsimp only; omega) _)
            have h_G8 : X3 (((v4.setCell ⟨v0.heap.size, 0, none⟩ (.slice a2 m d2)).setCell ⟨v0.heap.size, 1, none⟩ (.int .i64 T)).setCell ⟨v0.heap.size, 2, none⟩ (.int .i64 Y)) v0.heap.size (.slice a2 m d2) (.int .i64 T) (.int .i64 Y) := (((G8_4.out.set0 _).set1 _).set2 _)
            have h_QQ : QOk (((v4.setCell ⟨v0.heap.size, 0, none⟩ (.slice a2 m d2)).setCell ⟨v0.heap.size, 1, none⟩ (.int .i64 T)).setCell ⟨v0.heap.size, 2, none⟩ (.int .i64 Y)) a2 m d2 Q := qok_put3 QQ_4.out G8_4.out (by simp) (by simp) (by simp)
            have h_G9 : X3 (((v4.setCell ⟨v0.heap.size, 0, none⟩ (.slice a2 m d2)).setCell ⟨v0.heap.size, 1, none⟩ (.int .i64 T)).setCell ⟨v0.heap.size, 2, none⟩ (.int .i64 Y)) v3.heap.size (.int .i64 0) (.int .i64 0) (.int .i64 0) := (((G9_4.out.other (by omega)).other (by omega)).other (by omega))
            refine wpAnyH_ready (rs := [11]) (by kernel_rfl) (by simp) ?_
            refine AllReadyH.cons (o := _) rfl (fun K hK => ?_) AllReadyH.nil
            go_simp
            refine hK.out _ _ ?_ (fun hHeld => ?_)
            · exact ⟨h_HC.1.1, h_HC.1.2.1, h_HC.1.2.2, h_HS.1.1, h_HS.1.2⟩
            clear hK K
            try simp only [Act.put, List.setIfInBounds_toArray, List.set_cons_zero, List.set_cons_succ]
            generalize (((v4.setCell ⟨v0.heap.size, 0, none⟩ (.slice a2 m d2)).setCell ⟨v0.heap.size, 1, none⟩ (.int .i64 T)).setCell ⟨v0.heap.size, 2, none⟩ (.int .i64 Y)) = v5 at hHeld h_HC h_HS h_HR h_HE h_HQ h_HB h_G8 h_QQ h_G9 ⊢
            have HC_5 : Hid (X3 v5 w.heap.size (.slice ao n c) (.int .i64 t) (.int .i64 y)) := h_HC
            have HS_5 : Hid (X2 v5 (w.heap.size + 1) (.int .i64 k) (.string s)) := h_HS
            have HR_5 : Hid (X3 v5 (w.heap.size + 2) (.slice none 0 0) (.int .i64 0) (.int .i64 0)) := h_HR
            have HE_5 : Hid (X3 v5 (w.heap.size + 3) (.int .i64 0) (.int .i64 0) (.int .i64 0)) := h_HE
            have HQ_5 : Hid (QOk v5 ao n c xs) := h_HQ
            have HB_5 : Hid (Below w1.heap.size w1 v5) := h_HB
            have G8_5 : Hid (X3 v5 v0.heap.size (.slice a2 m d2) (.int .i64 T) (.int .i64 Y)) := h_G8
            have QQ_5 : Hid (QOk v5 a2 m d2 Q) := h_QQ
            have G9_5 : Hid (X3 v5 v3.heap.size (.int .i64 0) (.int .i64 0) (.int .i64 0)) := h_G9
            clear ef e0 q0 e1 q1 e2 q2 h_HC h_HS h_HR h_HE h_HQ h_HB h_G8 h_QQ h_G9 HC_4 HS_4 HR_4 HE_4 HQ_4 HB_4 G8_4 OO_4 QQ_4 G9_4
            obtain ⟨⟨e0, e1, e2⟩, ef⟩ := id G9_5.out
            have q0 := ef 0
            have q1 := ef 1
            have q2 := ef 2
            have h_HC : X3 (((v5.setCell ⟨v3.heap.size, 0, none⟩ (.int .i64 e0r)).setCell ⟨v3.heap.size, 1, none⟩ (.int .i64 e1r)).setCell ⟨v3.heap.size, 2, none⟩ (.int .i64 e2r)) w.heap.size (.slice ao n c) (.int .i64 t) (.int .i64 y) := (((HC_5.out.other (by omega)).other (by omega)).other (by omega))
            have h_HS : X2 (((v5.setCell ⟨v3.heap.size, 0, none⟩ (.int .i64 e0r)).setCell ⟨v3.heap.size, 1, none⟩ (.int .i64 e1r)).setCell ⟨v3.heap.size, 2, none⟩ (.int .i64 e2r)) (w.heap.size + 1) (.int .i64 k) (.string s) := (((HS_5.out.other (by omega)).other (by omega)).other (by omega))
            have h_HR : X3 (((v5.setCell ⟨v3.heap.size, 0, none⟩ (.int .i64 e0r)).setCell ⟨v3.heap.size, 1, none⟩ (.int .i64 e1r)).setCell ⟨v3.heap.size, 2, none⟩ (.int .i64 e2r)) (w.heap.size + 2) (.slice none 0 0) (.int .i64 0) (.int .i64 0) := (((HR_5.out.other (by omega)).other (by omega)).other (by omega))
            have h_HE : X3 (((v5.setCell ⟨v3.heap.size, 0, none⟩ (.int .i64 e0r)).setCell ⟨v3.heap.size, 1, none⟩ (.int .i64 e1r)).setCell ⟨v3.heap.size, 2, none⟩ (.int .i64 e2r)) (w.heap.size + 3) (.int .i64 0) (.int .i64 0) (.int .i64 0) := (((HE_5.out.other (by omega)).other (by omega)).other (by omega))
            have h_HQ : QOk (((v5.setCell ⟨v3.heap.size, 0, none⟩ (.int .i64 e0r)).setCell ⟨v3.heap.size, 1, none⟩ (.int .i64 e1r)).setCell ⟨v3.heap.size, 2, none⟩ (.int .i64 e2r)) ao n c xs := qok_put3 HQ_5.out G9_5.out (by simp) (by simp) (by simp)
            have h_HB : Below w1.heap.size w1 (((v5.setCell ⟨v3.heap.size, 0, none⟩ (.int .i64 e0r)).setCell ⟨v3.heap.size, 1, none⟩ (.int .i64 e1r)).setCell ⟨v3.heap.size, 2, none⟩ (.int .i64 e2r)) := (((HB_5.out.setCell (by dsimp only; omega) _).setCell (by dsimp only; omega) _).setCell (by dsimp only; omega) _)
            have h_G8 : X3 (((v5.setCell ⟨v3.heap.size, 0, none⟩ (.int .i64 e0r)).setCell ⟨v3.heap.size, 1, none⟩ (.int .i64 e1r)).setCell ⟨v3.heap.size, 2, none⟩ (.int .i64 e2r)) v0.heap.size (.slice a2 m d2) (.int .i64 T) (.int .i64 Y) := (((G8_5.out.other (by omega)).other (by omega)).other (by omega))
            have h_QQ : QOk (((v5.setCell ⟨v3.heap.size, 0, none⟩ (.int .i64 e0r)).setCell ⟨v3.heap.size, 1, none⟩ (.int .i64 e1r)).setCell ⟨v3.heap.size, 2, none⟩ (.int .i64 e2r)) a2 m d2 Q := qok_put3 QQ_5.out G9_5.out (by simp) (by simp) (by simp)
            have h_G9 : X3 (((v5.setCell ⟨v3.heap.size, 0, none⟩ (.int .i64 e0r)).setCell ⟨v3.heap.size, 1, none⟩ (.int .i64 e1r)).setCell ⟨v3.heap.size, 2, none⟩ (.int .i64 e2r)) v3.heap.size (.int .i64 e0r) (.int .i64 e1r) (.int .i64 e2r) := (((G9_5.out.set0 _).set1 _).set2 _)
            refine wpAnyH_ready (rs := [12]) (by kernel_rfl) (by simp) ?_
            refine AllReadyH.cons (o := _) rfl (fun K hK => ?_) AllReadyH.nil
            go_simp
            refine hK.out _ _ ?_ (fun hHeld => ?_)
            · exact ⟨h_HC.1.1, h_HC.1.2.1, h_HC.1.2.2, h_HS.1.1, h_HS.1.2⟩
            clear hK K
            try simp only [Act.put, List.setIfInBounds_toArray, List.set_cons_zero, List.set_cons_succ]
            generalize (((v5.setCell ⟨v3.heap.size, 0, none⟩ (.int .i64 e0r)).setCell ⟨v3.heap.size, 1, none⟩ (.int .i64 e1r)).setCell ⟨v3.heap.size, 2, none⟩ (.int .i64 e2r)) = v6 at hHeld h_HC h_HS h_HR h_HE h_HQ h_HB h_G8 h_QQ h_G9 ⊢
            have HC_6 : Hid (X3 v6 w.heap.size (.slice ao n c) (.int .i64 t) (.int .i64 y)) := h_HC
            have HS_6 : Hid (X2 v6 (w.heap.size + 1) (.int .i64 k) (.string s)) := h_HS
            have HR_6 : Hid (X3 v6 (w.heap.size + 2) (.slice none 0 0) (.int .i64 0) (.int .i64 0)) := h_HR
            have HE_6 : Hid (X3 v6 (w.heap.size + 3) (.int .i64 0) (.int .i64 0) (.int .i64 0)) := h_HE
            have HQ_6 : Hid (QOk v6 ao n c xs) := h_HQ
            have HB_6 : Hid (Below w1.heap.size w1 v6) := h_HB
            have G8_6 : Hid (X3 v6 v0.heap.size (.slice a2 m d2) (.int .i64 T) (.int .i64 Y)) := h_G8
            have QQ_6 : Hid (QOk v6 a2 m d2 Q) := h_QQ
            have G9_6 : Hid (X3 v6 v3.heap.size (.int .i64 e0r) (.int .i64 e1r) (.int .i64 e2r)) := h_G9
            clear ef e0 q0 e1 q1 e2 q2 h_HC h_HS h_HR h_HE h_HQ h_HB h_G8 h_QQ h_G9 HC_5 HS_5 HR_5 HE_5 HQ_5 HB_5 G8_5 QQ_5 G9_5
            refine take10 (i := 13) (oi := _) (v := ?_) (d := some 10) rfl (by kernel_rfl) (by kernel_rfl) (by kernel_rfl) (by kernel_rfl) (fun _ _ _ h => h) (Or.inl ⟨by rfl, ?_⟩) (by assumption) ?_
            rotate_left
            · (intro w hSw; (try dsimp only at hSw); go_simp <;> with_reducible rfl)
            try simp only [Act.put, List.setIfInBounds_toArray, List.set_cons_zero, List.set_cons_succ]
            refine take10 (i := 14) (oi := _) (v := ?_) (d := some 11) rfl (by kernel_rfl) (by kernel_rfl) (by kernel_rfl) (by kernel_rfl) (fun _ _ _ h => h) (Or.inl ⟨by rfl, ?_⟩) (by assumption) ?_
            rotate_left
            · (intro w hSw; (try dsimp only at hSw); go_simp <;> with_reducible rfl)
            try simp only [Act.put, List.setIfInBounds_toArray, List.set_cons_zero, List.set_cons_succ]
            refine wpAnyH_done (by kernel_rfl) ?_ _
            go_wp2_with fail
            go_meet
            exact ⟨a2, d2, v0.heap.size, v3.heap.size, rfl, rfl, rfl, rfl, G8_6.out, G9_6.out, HR_6.out, HE_6.out, QQ_6.out, HB_6.out, by omega, by omega⟩
        · skip
          go_simp
          have hb : Below v2.heap.size v2 (v2.alloc (.cells #[.int .i64 0, .int .i64 0, .int .i64 0] 52)) := balloc _ _
          have hN := x3_new v2 (.int .i64 0) (.int .i64 0) (.int .i64 0) 52 v2.heap.size rfl
          have h_HC := HC_2.out.later hb
          have h_HS := HS_2.out.later hb
          have h_HR := HR_2.out.later hb
          have h_HE := HE_2.out.later hb
          have h_HQ := HQ_2.out.later hb
          have h_HB := HB_2.out.trans (hb.mono HB_2.out.size)
          have h_G8 := G8_2.out.later hb
          have h_OO := OO_2.out.later hb
          refine hK.out _ _ ?_ (fun hHeld => ?_)
          · exact ⟨h_HC.1.1, h_HC.1.2.1, h_HC.1.2.2, h_HS.1.1, h_HS.1.2⟩
          clear hK K
          try simp only [Act.put, List.setIfInBounds_toArray, List.set_cons_zero, List.set_cons_succ]
          generalize (v2.alloc (.cells #[.int .i64 0, .int .i64 0, .int .i64 0] 52)) = v3 at hb hN hHeld h_HC h_HS h_HR h_HE h_HQ h_HB h_G8 h_OO ⊢
          have HC_3 : Hid (X3 v3 w.heap.size (.slice ao n c) (.int .i64 t) (.int .i64 y)) := h_HC
          have HS_3 : Hid (X2 v3 (w.heap.size + 1) (.int .i64 k) (.string s)) := h_HS
          have HR_3 : Hid (X3 v3 (w.heap.size + 2) (.slice none 0 0) (.int .i64 0) (.int .i64 0)) := h_HR
          have HE_3 : Hid (X3 v3 (w.heap.size + 3) (.int .i64 0) (.int .i64 0) (.int .i64 0)) := h_HE
          have HQ_3 : Hid (QOk v3 ao n c xs) := h_HQ
          have HB_3 : Hid (Below w1.heap.size w1 v3) := h_HB
          have G8_3 : Hid (X3 v3 v0.heap.size (.slice none 0 0) (.int .i64 0) (.int .i64 0)) := h_G8
          have OO_3 : Hid (OwnS v3 v1.heap.size (.slice a1 n d1) xs) := h_OO
          have G9_3 : Hid (X3 v3 v2.heap.size (.int .i64 0) (.int .i64 0) (.int .i64 0)) := hN
          have hl2 : w1.heap.size ≤ v2.heap.size := HB_2.out.size
          have hz2 : v2.heap.size < v3.heap.size := G9_3.out.lt
          clear hb hN h_HC h_HS h_HR h_HE h_HQ h_HB h_G8 h_OO HC_2 HS_2 HR_2 HE_2 HQ_2 HB_2 G8_2 OO_2
          refine wpAnyH_ready (rs := [3]) (by kernel_rfl) (by simp) ?_
          refine AllReadyH.cons (o := _) rfl (fun K hK => ?_) AllReadyH.nil
          · skip
            go_simp
            refine (qL a1 d1 v3 OO_3.out.ok).mono ?_
            rintro e v4 ⟨a2, d2, rfl, hq2, hb⟩
            have HC_4 : Hid (X3 v4 w.heap.size (.slice ao n c) (.int .i64 t) (.int .i64 y)) := HC_3.out.later hb
            have HS_4 : Hid (X2 v4 (w.heap.size + 1) (.int .i64 k) (.string s)) := HS_3.out.later hb
            have HR_4 : Hid (X3 v4 (w.heap.size + 2) (.slice none 0 0) (.int .i64 0) (.int .i64 0)) := HR_3.out.later hb
            have HE_4 : Hid (X3 v4 (w.heap.size + 3) (.int .i64 0) (.int .i64 0) (.int .i64 0)) := HE_3.out.later hb
            have HQ_4 : Hid (QOk v4 ao n c xs) := HQ_3.out.later hb
            have HB_4 : Hid (Below w1.heap.size w1 v4) := HB_3.out.trans (hb.mono HB_3.out.size)
            have G8_4 : Hid (X3 v4 v0.heap.size (.slice none 0 0) (.int .i64 0) (.int .i64 0)) := G8_3.out.later hb
            have OO_4 : Hid (OwnS v4 v1.heap.size (.slice a1 n d1) xs) := OO_3.out.later hb
            have G9_4 : Hid (X3 v4 v2.heap.size (.int .i64 0) (.int .i64 0) (.int .i64 0)) := G9_3.out.later hb
            have QQ_4 : Hid (QOk v4 a2 m d2 Q) := hq2
            have hz3 : v3.heap.size ≤ v4.heap.size := hb.size
            have hl3 : w1.heap.size ≤ v3.heap.size := HB_3.out.size
            refine hK.out _ _ ?_ (fun hHeld => ?_)
            · exact ⟨HC_4.out.1.1, HC_4.out.1.2.1, HC_4.out.1.2.2, HS_4.out.1.1, HS_4.out.1.2⟩
            clear hK K hb HC_3 HS_3 HR_3 HE_3 HQ_3 HB_3 G8_3 OO_3 G9_3
            try simp only [Act.put, List.setIfInBounds_toArray, List.set_cons_zero, List.set_cons_succ]
            refine take10 (i := 4) (oi := _) (v := ?_) (d := some 17) rfl (by kernel_rfl) (by kernel_rfl) (by kernel_rfl) (by kernel_rfl) (fun _ _ _ h => h) (Or.inl ⟨by rfl, ?_⟩) (by assumption) ?_
            rotate_left
            · (intro w hSw; (try dsimp only at hSw); go_simp <;> with_reducible rfl)
            try simp only [Act.put, List.setIfInBounds_toArray, List.set_cons_zero, List.set_cons_succ]
            refine take10 (i := 5) (oi := _) (v := ?_) (d := some 22) rfl (by kernel_rfl) (by kernel_rfl) (by kernel_rfl) (by kernel_rfl) (fun _ _ _ h => h) (Or.inl ⟨by rfl, ?_⟩) (by assumption) ?_
            rotate_left
            · (intro w hSw; (try dsimp only at hSw); go_simp <;> with_reducible rfl)
            try simp only [Act.put, List.setIfInBounds_toArray, List.set_cons_zero, List.set_cons_succ]
            refine take10 (i := 6) (oi := _) (v := ?_) (d := some 23) rfl (by kernel_rfl) (by kernel_rfl) (by kernel_rfl) (by kernel_rfl) (fun _ _ _ h => h) (Or.inl ⟨by rfl, ?_⟩) (by assumption) ?_
            rotate_left
            · (intro w hSw; (try dsimp only at hSw); go_simp <;> with_reducible rfl)
            try simp only [Act.put, List.setIfInBounds_toArray, List.set_cons_zero, List.set_cons_succ]
            refine take10 (i := 7) (oi := _) (v := ?_) (d := some 24) rfl (by kernel_rfl) (by kernel_rfl) (by kernel_rfl) (by kernel_rfl) (fun _ _ _ h => h) (Or.inl ⟨by rfl, ?_⟩) (by assumption) ?_
            rotate_left
            · (intro w hSw; (try dsimp only at hSw); go_simp <;> with_reducible rfl)
            try simp only [Act.put, List.setIfInBounds_toArray, List.set_cons_zero, List.set_cons_succ]
            refine take10 (i := 8) (oi := _) (v := ?_) (d := some 25) rfl (by kernel_rfl) (by kernel_rfl) (by kernel_rfl) (by kernel_rfl) (fun _ _ _ h => h) (Or.inl ⟨by rfl, ?_⟩) (by assumption) ?_
            rotate_left
            · (intro w hSw; (try dsimp only at hSw); go_simp <;> with_reducible rfl)
            try simp only [Act.put, List.setIfInBounds_toArray, List.set_cons_zero, List.set_cons_succ]
            obtain ⟨⟨e0, e1, e2⟩, ef⟩ := id G8_4.out
            have q0 := ef 0
            have q1 := ef 1
            have q2 := ef 2
            have h_HC : X3 (((v4.setCell ⟨v0.heap.size, 0, none⟩ (.slice a2 m d2)).setCell ⟨v0.heap.size, 1, none⟩ (.int .i64 T)).setCell ⟨v0.heap.size, 2, none⟩ (.int .i64 Y)) w.heap.size (.slice ao n c) (.int .i64 t) (.int .i64 y) := (((HC_4.out.other (by omega)).other (by omega)).other (by omega))
            have h_HS : X2 (((v4.setCell ⟨v0.heap.size, 0, none⟩ (.slice a2 m d2)).setCell ⟨v0.heap.size, 1, none⟩ (.int .i64 T)).setCell ⟨v0.heap.size, 2, none⟩ (.int .i64 Y)) (w.heap.size + 1) (.int .i64 k) (.string s) := (((HS_4.out.other (by omega)).other (by omega)).other (by omega))
            have h_HR : X3 (((v4.setCell ⟨v0.heap.size, 0, none⟩ (.slice a2 m d2)).setCell ⟨v0.heap.size, 1, none⟩ (.int .i64 T)).setCell ⟨v0.heap.size, 2, none⟩ (.int .i64 Y)) (w.heap.size + 2) (.slice none 0 0) (.int .i64 0) (.int .i64 0) := (((HR_4.out.other (by omega)).other (by omega)).other (by omega))
            have h_HE : X3 (((v4.setCell ⟨v0.heap.size, 0, none⟩ (.slice a2 m d2)).setCell ⟨v0.heap.size, 1, none⟩ (.int .i64 T)).setCell ⟨v0.heap.size, 2, none⟩ (.int .i64 Y)) (w.heap.size + 3) (.int .i64 0) (.int .i64 0) (.int .i64 0) := (((HE_4.out.other (by omega)).other (by omega)).other (by omega))
            have h_HQ : QOk (((v4.setCell ⟨v0.heap.size, 0, none⟩ (.slice a2 m d2)).setCell ⟨v0.heap.size, 1, none⟩ (.int .i64 T)).setCell ⟨v0.heap.size, 2, none⟩ (.int .i64 Y)) ao n c xs := qok_put3 HQ_4.out G8_4.out (by simp) (by simp) (by simp)
            have h_HB : Below w1.heap.size w1 (((v4.setCell ⟨v0.heap.size, 0, none⟩ (.slice a2 m d2)).setCell ⟨v0.heap.size, 1, none⟩ (.int .i64 T)).setCell ⟨v0.heap.size, 2, none⟩ (.int .i64 Y)) := (((HB_4.out.setCell (by dsimp only; omega) _).setCell (by dsimp only; omega) _).setCell (by dsimp only; omega) _)
            have h_G8 : X3 (((v4.setCell ⟨v0.heap.size, 0, none⟩ (.slice a2 m d2)).setCell ⟨v0.heap.size, 1, none⟩ (.int .i64 T)).setCell ⟨v0.heap.size, 2, none⟩ (.int .i64 Y)) v0.heap.size (.slice a2 m d2) (.int .i64 T) (.int .i64 Y) := (((G8_4.out.set0 _).set1 _).set2 _)
            have h_G9 : X3 (((v4.setCell ⟨v0.heap.size, 0, none⟩ (.slice a2 m d2)).setCell ⟨v0.heap.size, 1, none⟩ (.int .i64 T)).setCell ⟨v0.heap.size, 2, none⟩ (.int .i64 Y)) v2.heap.size (.int .i64 0) (.int .i64 0) (.int .i64 0) := (((G9_4.out.other (by omega)).other (by omega)).other (by omega))
            have h_QQ : QOk (((v4.setCell ⟨v0.heap.size, 0, none⟩ (.slice a2 m d2)).setCell ⟨v0.heap.size, 1, none⟩ (.int .i64 T)).setCell ⟨v0.heap.size, 2, none⟩ (.int .i64 Y)) a2 m d2 Q := qok_put3 QQ_4.out G8_4.out (by simp) (by simp) (by simp)
            refine wpAnyH_ready (rs := [11]) (by kernel_rfl) (by simp) ?_
            refine AllReadyH.cons (o := _) rfl (fun K hK => ?_) AllReadyH.nil
            go_simp
            refine hK.out _ _ ?_ (fun hHeld => ?_)
            · exact ⟨h_HC.1.1, h_HC.1.2.1, h_HC.1.2.2, h_HS.1.1, h_HS.1.2⟩
            clear hK K
            try simp only [Act.put, List.setIfInBounds_toArray, List.set_cons_zero, List.set_cons_succ]
            generalize (((v4.setCell ⟨v0.heap.size, 0, none⟩ (.slice a2 m d2)).setCell ⟨v0.heap.size, 1, none⟩ (.int .i64 T)).setCell ⟨v0.heap.size, 2, none⟩ (.int .i64 Y)) = v5 at hHeld h_HC h_HS h_HR h_HE h_HQ h_HB h_G8 h_G9 h_QQ ⊢
            have HC_5 : Hid (X3 v5 w.heap.size (.slice ao n c) (.int .i64 t) (.int .i64 y)) := h_HC
            have HS_5 : Hid (X2 v5 (w.heap.size + 1) (.int .i64 k) (.string s)) := h_HS
            have HR_5 : Hid (X3 v5 (w.heap.size + 2) (.slice none 0 0) (.int .i64 0) (.int .i64 0)) := h_HR
            have HE_5 : Hid (X3 v5 (w.heap.size + 3) (.int .i64 0) (.int .i64 0) (.int .i64 0)) := h_HE
            have HQ_5 : Hid (QOk v5 ao n c xs) := h_HQ
            have HB_5 : Hid (Below w1.heap.size w1 v5) := h_HB
            have G8_5 : Hid (X3 v5 v0.heap.size (.slice a2 m d2) (.int .i64 T) (.int .i64 Y)) := h_G8
            have G9_5 : Hid (X3 v5 v2.heap.size (.int .i64 0) (.int .i64 0) (.int .i64 0)) := h_G9
            have QQ_5 : Hid (QOk v5 a2 m d2 Q) := h_QQ
            clear ef e0 q0 e1 q1 e2 q2 h_HC h_HS h_HR h_HE h_HQ h_HB h_G8 h_G9 h_QQ HC_4 HS_4 HR_4 HE_4 HQ_4 HB_4 G8_4 OO_4 G9_4 QQ_4
            obtain ⟨⟨e0, e1, e2⟩, ef⟩ := id G9_5.out
            have q0 := ef 0
            have q1 := ef 1
            have q2 := ef 2
            have h_HC : X3 (((v5.setCell ⟨v2.heap.size, 0, none⟩ (.int .i64 e0r)).setCell ⟨v2.heap.size, 1, none⟩ (.int .i64 e1r)).setCell ⟨v2.heap.size, 2, none⟩ (.int .i64 e2r)) w.heap.size (.slice ao n c) (.int .i64 t) (.int .i64 y) := (((HC_5.out.other (by omega)).other (by omega)).other (by omega))
            have h_HS : X2 (((v5.setCell ⟨v2.heap.size, 0, none⟩ (.int .i64 e0r)).setCell ⟨v2.heap.size, 1, none⟩ (.int .i64 e1r)).setCell ⟨v2.heap.size, 2, none⟩ (.int .i64 e2r)) (w.heap.size + 1) (.int .i64 k) (.string s) := (((HS_5.out.other (by omega)).other (by omega)).other (by omega))
            have h_HR : X3 (((v5.setCell ⟨v2.heap.size, 0, none⟩ (.int .i64 e0r)).setCell ⟨v2.heap.size, 1, none⟩ (.int .i64 e1r)).setCell ⟨v2.heap.size, 2, none⟩ (.int .i64 e2r)) (w.heap.size + 2) (.slice none 0 0) (.int .i64 0) (.int .i64 0) := (((HR_5.out.other (by omega)).other (by omega)).other (by omega))
            have h_HE : X3 (((v5.setCell ⟨v2.heap.size, 0, none⟩ (.int .i64 e0r)).setCell ⟨v2.heap.size, 1, none⟩ (.int .i64 e1r)).setCell ⟨v2.heap.size, 2, none⟩ (.int .i64 e2r)) (w.heap.size + 3) (.int .i64 0) (.int .i64 0) (.int .i64 0) := (((HE_5.out.other (by omega)).other (by omega)).other (by omega))
            have h_HQ : QOk (((v5.setCell ⟨v2.heap.size, 0, none⟩ (.int .i64 e0r)).setCell ⟨v2.heap.size, 1, none⟩ (.int .i64 e1r)).setCell ⟨v2.heap.size, 2, none⟩ (.int .i64 e2r)) ao n c xs := qok_put3 HQ_5.out G9_5.out (by simp) (by simp) (by simp)
            have h_HB : Below w1.heap.size w1 (((v5.setCell ⟨v2.heap.size, 0, none⟩ (.int .i64 e0r)).setCell ⟨v2.heap.size, 1, none⟩ (.int .i64 e1r)).setCell ⟨v2.heap.size, 2, none⟩ (.int .i64 e2r)) := (((HB_5.out.setCell (by dsimp only; omega) _).setCell (by dsimp only; omega) _).setCell (by dsimp only; omega) _)
            have h_G8 : X3 (((v5.setCell ⟨v2.heap.size, 0, none⟩ (.int .i64 e0r)).setCell ⟨v2.heap.size, 1, none⟩ (.int .i64 e1r)).setCell ⟨v2.heap.size, 2, none⟩ (.int .i64 e2r)) v0.heap.size (.slice a2 m d2) (.int .i64 T) (.int .i64 Y) := (((G8_5.out.other (by omega)).other (by omega)).other (by omega))
            have h_G9 : X3 (((v5.setCell ⟨v2.heap.size, 0, none⟩ (.int .i64 e0r)).setCell ⟨v2.heap.size, 1, none⟩ (.int .i64 e1r)).setCell ⟨v2.heap.size, 2, none⟩ (.int .i64 e2r)) v2.heap.size (.int .i64 e0r) (.int .i64 e1r) (.int .i64 e2r) := (((G9_5.out.set0 _).set1 _).set2 _)
            have h_QQ : QOk (((v5.setCell ⟨v2.heap.size, 0, none⟩ (.int .i64 e0r)).setCell ⟨v2.heap.size, 1, none⟩ (.int .i64 e1r)).setCell ⟨v2.heap.size, 2, none⟩ (.int .i64 e2r)) a2 m d2 Q := qok_put3 QQ_5.out G9_5.out (by simp) (by simp) (by simp)
            refine wpAnyH_ready (rs := [12]) (by kernel_rfl) (by simp) ?_
            refine AllReadyH.cons (o := _) rfl (fun K hK => ?_) AllReadyH.nil
            go_simp
            refine hK.out _ _ ?_ (fun hHeld => ?_)
            · exact ⟨h_HC.1.1, h_HC.1.2.1, h_HC.1.2.2, h_HS.1.1, h_HS.1.2⟩
            clear hK K
            try simp only [Act.put, List.setIfInBounds_toArray, List.set_cons_zero, List.set_cons_succ]
            generalize (((v5.setCell ⟨v2.heap.size, 0, none⟩ (.int .i64 e0r)).setCell ⟨v2.heap.size, 1, none⟩ (.int .i64 e1r)).setCell ⟨v2.heap.size, 2, none⟩ (.int .i64 e2r)) = v6 at hHeld h_HC h_HS h_HR h_HE h_HQ h_HB h_G8 h_G9 h_QQ ⊢
            have HC_6 : Hid (X3 v6 w.heap.size (.slice ao n c) (.int .i64 t) (.int .i64 y)) := h_HC
            have HS_6 : Hid (X2 v6 (w.heap.size + 1) (.int .i64 k) (.string s)) := h_HS
            have HR_6 : Hid (X3 v6 (w.heap.size + 2) (.slice none 0 0) (.int .i64 0) (.int .i64 0)) := h_HR
            have HE_6 : Hid (X3 v6 (w.heap.size + 3) (.int .i64 0) (.int .i64 0) (.int .i64 0)) := h_HE
            have HQ_6 : Hid (QOk v6 ao n c xs) := h_HQ
            have HB_6 : Hid (Below w1.heap.size w1 v6) := h_HB
            have G8_6 : Hid (X3 v6 v0.heap.size (.slice a2 m d2) (.int .i64 T) (.int .i64 Y)) := h_G8
            have G9_6 : Hid (X3 v6 v2.heap.size (.int .i64 e0r) (.int .i64 e1r) (.int .i64 e2r)) := h_G9
            have QQ_6 : Hid (QOk v6 a2 m d2 Q) := h_QQ
            clear ef e0 q0 e1 q1 e2 q2 h_HC h_HS h_HR h_HE h_HQ h_HB h_G8 h_G9 h_QQ HC_5 HS_5 HR_5 HE_5 HQ_5 HB_5 G8_5 G9_5 QQ_5
            refine take10 (i := 13) (oi := _) (v := ?_) (d := some 10) rfl (by kernel_rfl) (by kernel_rfl) (by kernel_rfl) (by kernel_rfl) (fun _ _ _ h => h) (Or.inl ⟨by rfl, ?_⟩) (by assumption) ?_
            rotate_left
            · (intro w hSw; (try dsimp only at hSw); go_simp <;> with_reducible rfl)
            try simp only [Act.put, List.setIfInBounds_toArray, List.set_cons_zero, List.set_cons_succ]
            refine take10 (i := 14) (oi := _) (v := ?_) (d := some 11) rfl (by kernel_rfl) (by kernel_rfl) (by kernel_rfl) (by kernel_rfl) (fun _ _ _ h => h) (Or.inl ⟨by rfl, ?_⟩) (by assumption) ?_
            rotate_left
            · (intro w hSw; (try dsimp only at hSw); go_simp <;> with_reducible rfl)
            try simp only [Act.put, List.setIfInBounds_toArray, List.set_cons_zero, List.set_cons_succ]
            refine wpAnyH_done (by kernel_rfl) ?_ _
            go_wp2_with fail
            go_meet
            exact ⟨a2, d2, v0.heap.size, v2.heap.size, rfl, rfl, rfl, rfl, G8_6.out, G9_6.out, HR_6.out, HE_6.out, QQ_6.out, HB_6.out, by omega, by omega⟩
      · skip
        go_simp
        have hb : Below v1.heap.size v1 (v1.alloc (.cells #[.int .i64 0, .int .i64 0, .int .i64 0] 52)) := balloc _ _
        have hN := x3_new v1 (.int .i64 0) (.int .i64 0) (.int .i64 0) 52 v1.heap.size rfl
        have h_HC := HC_1.out.later hb
        have h_HS := HS_1.out.later hb
        have h_HR := HR_1.out.later hb
        have h_HE := HE_1.out.later hb
        have h_HQ := HQ_1.out.later hb
        have h_HB := HB_1.out.trans (hb.mono HB_1.out.size)
        have h_G8 := G8_1.out.later hb
        refine hK.out _ _ ?_ (fun hHeld => ?_)
        · exact ⟨h_HC.1.1, h_HC.1.2.1, h_HC.1.2.2, h_HS.1.1, h_HS.1.2⟩
        clear hK K
        try simp only [Act.put, List.setIfInBounds_toArray, List.set_cons_zero, List.set_cons_succ]
        generalize (v1.alloc (.cells #[.int .i64 0, .int .i64 0, .int .i64 0] 52)) = v2 at hb hN hHeld h_HC h_HS h_HR h_HE h_HQ h_HB h_G8 ⊢
        have HC_2 : Hid (X3 v2 w.heap.size (.slice ao n c) (.int .i64 t) (.int .i64 y)) := h_HC
        have HS_2 : Hid (X2 v2 (w.heap.size + 1) (.int .i64 k) (.string s)) := h_HS
        have HR_2 : Hid (X3 v2 (w.heap.size + 2) (.slice none 0 0) (.int .i64 0) (.int .i64 0)) := h_HR
        have HE_2 : Hid (X3 v2 (w.heap.size + 3) (.int .i64 0) (.int .i64 0) (.int .i64 0)) := h_HE
        have HQ_2 : Hid (QOk v2 ao n c xs) := h_HQ
        have HB_2 : Hid (Below w1.heap.size w1 v2) := h_HB
        have G8_2 : Hid (X3 v2 v0.heap.size (.slice none 0 0) (.int .i64 0) (.int .i64 0)) := h_G8
        have G9_2 : Hid (X3 v2 v1.heap.size (.int .i64 0) (.int .i64 0) (.int .i64 0)) := hN
        have hl1 : w1.heap.size ≤ v1.heap.size := HB_1.out.size
        have hz1 : v1.heap.size < v2.heap.size := G9_2.out.lt
        clear hb hN h_HC h_HS h_HR h_HE h_HQ h_HB h_G8 HC_1 HS_1 HR_1 HE_1 HQ_1 HB_1 G8_1
        refine wpAnyH_ready (rs := [1]) (by kernel_rfl) (by simp) ?_
        refine AllReadyH.cons (o := _) rfl (fun K hK => ?_) AllReadyH.nil
        · skip
          go_simp
          refine (qO v2 HQ_2.out).mono ?_
          rintro e v3 ⟨a1, d1, rfl, ho, hb⟩
          have HC_3 : Hid (X3 v3 w.heap.size (.slice ao n c) (.int .i64 t) (.int .i64 y)) := HC_2.out.later hb
          have HS_3 : Hid (X2 v3 (w.heap.size + 1) (.int .i64 k) (.string s)) := HS_2.out.later hb
          have HR_3 : Hid (X3 v3 (w.heap.size + 2) (.slice none 0 0) (.int .i64 0) (.int .i64 0)) := HR_2.out.later hb
          have HE_3 : Hid (X3 v3 (w.heap.size + 3) (.int .i64 0) (.int .i64 0) (.int .i64 0)) := HE_2.out.later hb
          have HQ_3 : Hid (QOk v3 ao n c xs) := HQ_2.out.later hb
          have HB_3 : Hid (Below w1.heap.size w1 v3) := HB_2.out.trans (hb.mono HB_2.out.size)
          have G8_3 : Hid (X3 v3 v0.heap.size (.slice none 0 0) (.int .i64 0) (.int .i64 0)) := G8_2.out.later hb
          have G9_3 : Hid (X3 v3 v1.heap.size (.int .i64 0) (.int .i64 0) (.int .i64 0)) := G9_2.out.later hb
          have OO_3 : Hid (OwnS v3 v2.heap.size (.slice a1 n d1) xs) := ho
          have hz2 : v2.heap.size ≤ v3.heap.size := hb.size
          have hl2 : w1.heap.size ≤ v2.heap.size := HB_2.out.size
          refine hK.out _ _ ?_ (fun hHeld => ?_)
          · exact ⟨HC_3.out.1.1, HC_3.out.1.2.1, HC_3.out.1.2.2, HS_3.out.1.1, HS_3.out.1.2⟩
          clear hK K hb HC_2 HS_2 HR_2 HE_2 HQ_2 HB_2 G8_2 G9_2
          try simp only [Act.put, List.setIfInBounds_toArray, List.set_cons_zero, List.set_cons_succ]
          refine wpAnyH_ready (rs := [3]) (by kernel_rfl) (by simp) ?_
          refine AllReadyH.cons (o := _) rfl (fun K hK => ?_) AllReadyH.nil
          · skip
            go_simp
            refine (qL a1 d1 v3 OO_3.out.ok).mono ?_
            rintro e v4 ⟨a2, d2, rfl, hq2, hb⟩
            have HC_4 : Hid (X3 v4 w.heap.size (.slice ao n c) (.int .i64 t) (.int .i64 y)) := HC_3.out.later hb
            have HS_4 : Hid (X2 v4 (w.heap.size + 1) (.int .i64 k) (.string s)) := HS_3.out.later hb
            have HR_4 : Hid (X3 v4 (w.heap.size + 2) (.slice none 0 0) (.int .i64 0) (.int .i64 0)) := HR_3.out.later hb
            have HE_4 : Hid (X3 v4 (w.heap.size + 3) (.int .i64 0) (.int .i64 0) (.int .i64 0)) := HE_3.out.later hb
            have HQ_4 : Hid (QOk v4 ao n c xs) := HQ_3.out.later hb
            have HB_4 : Hid (Below w1.heap.size w1 v4) := HB_3.out.trans (hb.mono HB_3.out.size)
            have G8_4 : Hid (X3 v4 v0.heap.size (.slice none 0 0) (.int .i64 0) (.int .i64 0)) := G8_3.out.later hb
            have G9_4 : Hid (X3 v4 v1.heap.size (.int .i64 0) (.int .i64 0) (.int .i64 0)) := G9_3.out.later hb
            have OO_4 : Hid (OwnS v4 v2.heap.size (.slice a1 n d1) xs) := OO_3.out.later hb
            have QQ_4 : Hid (QOk v4 a2 m d2 Q) := hq2
            have hz3 : v3.heap.size ≤ v4.heap.size := hb.size
            have hl3 : w1.heap.size ≤ v3.heap.size := HB_3.out.size
            refine hK.out _ _ ?_ (fun hHeld => ?_)
            · exact ⟨HC_4.out.1.1, HC_4.out.1.2.1, HC_4.out.1.2.2, HS_4.out.1.1, HS_4.out.1.2⟩
            clear hK K hb HC_3 HS_3 HR_3 HE_3 HQ_3 HB_3 G8_3 G9_3 OO_3
            try simp only [Act.put, List.setIfInBounds_toArray, List.set_cons_zero, List.set_cons_succ]
            refine take10 (i := 4) (oi := _) (v := ?_) (d := some 17) rfl (by kernel_rfl) (by kernel_rfl) (by kernel_rfl) (by kernel_rfl) (fun _ _ _ h => h) (Or.inl ⟨by rfl, ?_⟩) (by assumption) ?_
            rotate_left
            · (intro w hSw; (try dsimp only at hSw); go_simp <;> with_reducible rfl)
            try simp only [Act.put, List.setIfInBounds_toArray, List.set_cons_zero, List.set_cons_succ]
            refine take10 (i := 5) (oi := _) (v := ?_) (d := some 22) rfl (by kernel_rfl) (by kernel_rfl) (by kernel_rfl) (by kernel_rfl) (fun _ _ _ h => h) (Or.inl ⟨by rfl, ?_⟩) (by assumption) ?_
            rotate_left
            · (intro w hSw; (try dsimp only at hSw); go_simp <;> with_reducible rfl)
            try simp only [Act.put, List.setIfInBounds_toArray, List.set_cons_zero, List.set_cons_succ]
            refine take10 (i := 6) (oi := _) (v := ?_) (d := some 23) rfl (by kernel_rfl) (by kernel_rfl) (by kernel_rfl) (by kernel_rfl) (fun _ _ _ h => h) (Or.inl ⟨by rfl, ?_⟩) (by assumption) ?_
            rotate_left
            · (intro w hSw; (try dsimp only at hSw); go_simp <;> with_reducible rfl)
            try simp only [Act.put, List.setIfInBounds_toArray, List.set_cons_zero, List.set_cons_succ]
            refine take10 (i := 7) (oi := _) (v := ?_) (d := some 24) rfl (by kernel_rfl) (by kernel_rfl) (by kernel_rfl) (by kernel_rfl) (fun _ _ _ h => h) (Or.inl ⟨by rfl, ?_⟩) (by assumption) ?_
            rotate_left
            · (intro w hSw; (try dsimp only at hSw); go_simp <;> with_reducible rfl)
            try simp only [Act.put, List.setIfInBounds_toArray, List.set_cons_zero, List.set_cons_succ]
            refine take10 (i := 8) (oi := _) (v := ?_) (d := some 25) rfl (by kernel_rfl) (by kernel_rfl) (by kernel_rfl) (by kernel_rfl) (fun _ _ _ h => h) (Or.inl ⟨by rfl, ?_⟩) (by assumption) ?_
            rotate_left
            · (intro w hSw; (try dsimp only at hSw); go_simp <;> with_reducible rfl)
            try simp only [Act.put, List.setIfInBounds_toArray, List.set_cons_zero, List.set_cons_succ]
            obtain ⟨⟨e0, e1, e2⟩, ef⟩ := id G8_4.out
            have q0 := ef 0
            have q1 := ef 1
            have q2 := ef 2
            have h_HC : X3 (((v4.setCell ⟨v0.heap.size, 0, none⟩ (.slice a2 m d2)).setCell ⟨v0.heap.size, 1, none⟩ (.int .i64 T)).setCell ⟨v0.heap.size, 2, none⟩ (.int .i64 Y)) w.heap.size (.slice ao n c) (.int .i64 t) (.int .i64 y) := (((HC_4.out.other (by omega)).other (by omega)).other (by omega))
            have h_HS : X2 (((v4.setCell ⟨v0.heap.size, 0, none⟩ (.slice a2 m d2)).setCell ⟨v0.heap.size, 1, none⟩ (.int .i64 T)).setCell ⟨v0.heap.size, 2, none⟩ (.int .i64 Y)) (w.heap.size + 1) (.int .i64 k) (.string s) := (((HS_4.out.other (by omega)).other (by omega)).other (by omega))
            have h_HR : X3 (((v4.setCell ⟨v0.heap.size, 0, none⟩ (.slice a2 m d2)).setCell ⟨v0.heap.size, 1, none⟩ (.int .i64 T)).setCell ⟨v0.heap.size, 2, none⟩ (.int .i64 Y)) (w.heap.size + 2) (.slice none 0 0) (.int .i64 0) (.int .i64 0) := (((HR_4.out.other (by omega)).other (by omega)).other (by omega))
            have h_HE : X3 (((v4.setCell ⟨v0.heap.size, 0, none⟩ (.slice a2 m d2)).setCell ⟨v0.heap.size, 1, none⟩ (.int .i64 T)).setCell ⟨v0.heap.size, 2, none⟩ (.int .i64 Y)) (w.heap.size + 3) (.int .i64 0) (.int .i64 0) (.int .i64 0) := (((HE_4.out.other (by omega)).other (by omega)).other (by omega))
            have h_HQ : QOk (((v4.setCell ⟨v0.heap.size, 0, none⟩ (.slice a2 m d2)).setCell ⟨v0.heap.size, 1, none⟩ (.int .i64 T)).setCell ⟨v0.heap.size, 2, none⟩ (.int .i64 Y)) ao n c xs := qok_put3 HQ_4.out G8_4.out (by simp) (by simp) (by simp)
            have h_HB : Below w1.heap.size w1 (((v4.setCell ⟨v0.heap.size, 0, none⟩ (.slice a2 m d2)).setCell ⟨v0.heap.size, 1, none⟩ (.int .i64 T)).setCell ⟨v0.heap.size, 2, none⟩ (.int .i64 Y)) := (((HB_4.out.setCell (by dsimp only; omega) _).setCell (by dsimp only; omega) _).setCell (by dsimp only; omega) _)
            have h_G8 : X3 (((v4.setCell ⟨v0.heap.size, 0, none⟩ (.slice a2 m d2)).setCell ⟨v0.heap.size, 1, none⟩ (.int .i64 T)).setCell ⟨v0.heap.size, 2, none⟩ (.int .i64 Y)) v0.heap.size (.slice a2 m d2) (.int .i64 T) (.int .i64 Y) := (((G8_4.out.set0 _).set1 _).set2 _)
            have h_G9 : X3 (((v4.setCell ⟨v0.heap.size, 0, none⟩ (.slice a2 m d2)).setCell ⟨v0.heap.size, 1, none⟩ (.int .i64 T)).setCell ⟨v0.heap.size, 2, none⟩ (.int .i64 Y)) v1.heap.size (.int .i64 0) (.int .i64 0) (.int .i64 0) := (((G9_4.out.other (by omega)).other (by omega)).other (by omega))
            have h_QQ : QOk (((v4.setCell ⟨v0.heap.size, 0, none⟩ (.slice a2 m d2)).setCell ⟨v0.heap.size, 1, none⟩ (.int .i64 T)).setCell ⟨v0.heap.size, 2, none⟩ (.int .i64 Y)) a2 m d2 Q := qok_put3 QQ_4.out G8_4.out (by simp) (by simp) (by simp)
            refine wpAnyH_ready (rs := [11]) (by kernel_rfl) (by simp) ?_
            refine AllReadyH.cons (o := _) rfl (fun K hK => ?_) AllReadyH.nil
            go_simp
            refine hK.out _ _ ?_ (fun hHeld => ?_)
            · exact ⟨h_HC.1.1, h_HC.1.2.1, h_HC.1.2.2, h_HS.1.1, h_HS.1.2⟩
            clear hK K
            try simp only [Act.put, List.setIfInBounds_toArray, List.set_cons_zero, List.set_cons_succ]
            generalize (((v4.setCell ⟨v0.heap.size, 0, none⟩ (.slice a2 m d2)).setCell ⟨v0.heap.size, 1, none⟩ (.int .i64 T)).setCell ⟨v0.heap.size, 2, none⟩ (.int .i64 Y)) = v5 at hHeld h_HC h_HS h_HR h_HE h_HQ h_HB h_G8 h_G9 h_QQ ⊢
            have HC_5 : Hid (X3 v5 w.heap.size (.slice ao n c) (.int .i64 t) (.int .i64 y)) := h_HC
            have HS_5 : Hid (X2 v5 (w.heap.size + 1) (.int .i64 k) (.string s)) := h_HS
            have HR_5 : Hid (X3 v5 (w.heap.size + 2) (.slice none 0 0) (.int .i64 0) (.int .i64 0)) := h_HR
            have HE_5 : Hid (X3 v5 (w.heap.size + 3) (.int .i64 0) (.int .i64 0) (.int .i64 0)) := h_HE
            have HQ_5 : Hid (QOk v5 ao n c xs) := h_HQ
            have HB_5 : Hid (Below w1.heap.size w1 v5) := h_HB
            have G8_5 : Hid (X3 v5 v0.heap.size (.slice a2 m d2) (.int .i64 T) (.int .i64 Y)) := h_G8
            have G9_5 : Hid (X3 v5 v1.heap.size (.int .i64 0) (.int .i64 0) (.int .i64 0)) := h_G9
            have QQ_5 : Hid (QOk v5 a2 m d2 Q) := h_QQ
            clear ef e0 q0 e1 q1 e2 q2 h_HC h_HS h_HR h_HE h_HQ h_HB h_G8 h_G9 h_QQ HC_4 HS_4 HR_4 HE_4 HQ_4 HB_4 G8_4 G9_4 OO_4 QQ_4
            obtain ⟨⟨e0, e1, e2⟩, ef⟩ := id G9_5.out
            have q0 := ef 0
            have q1 := ef 1
            have q2 := ef 2
            have h_HC : X3 (((v5.setCell ⟨v1.heap.size, 0, none⟩ (.int .i64 e0r)).setCell ⟨v1.heap.size, 1, none⟩ (.int .i64 e1r)).setCell ⟨v1.heap.size, 2, none⟩ (.int .i64 e2r)) w.heap.size (.slice ao n c) (.int .i64 t) (.int .i64 y) := (((HC_5.out.other (by omega)).other (by omega)).other (by omega))
            have h_HS : X2 (((v5.setCell ⟨v1.heap.size, 0, none⟩ (.int .i64 e0r)).setCell ⟨v1.heap.size, 1, none⟩ (.int .i64 e1r)).setCell ⟨v1.heap.size, 2, none⟩ (.int .i64 e2r)) (w.heap.size + 1) (.int .i64 k) (.string s) := (((HS_5.out.other (by omega)).other (by omega)).other (by omega))
            have h_HR : X3 (((v5.setCell ⟨v1.heap.size, 0, none⟩ (.int .i64 e0r)).setCell ⟨v1.heap.size, 1, none⟩ (.int .i64 e1r)).setCell ⟨v1.heap.size, 2, none⟩ (.int .i64 e2r)) (w.heap.size + 2) (.slice none 0 0) (.int .i64 0) (.int .i64 0) := (((HR_5.out.other (by omega)).other (by omega)).other (by omega))
            have h_HE : X3 (((v5.setCell ⟨v1.heap.size, 0, none⟩ (.int .i64 e0r)).setCell ⟨v1.heap.size, 1, none⟩ (.int .i64 e1r)).setCell ⟨v1.heap.size, 2, none⟩ (.int .i64 e2r)) (w.heap.size + 3) (.int .i64 0) (.int .i64 0) (.int .i64 0) := (((HE_5.out.other (by omega)).other (by omega)).other (by omega))
            have h_HQ : QOk (((v5.setCell ⟨v1.heap.size, 0, none⟩ (.int .i64 e0r)).setCell ⟨v1.heap.size, 1, none⟩ (.int .i64 e1r)).setCell ⟨v1.heap.size, 2, none⟩ (.int .i64 e2r)) ao n c xs := qok_put3 HQ_5.out G9_5.out (by simp) (by simp) (by simp)
            have h_HB : Below w1.heap.size w1 (((v5.setCell ⟨v1.heap.size, 0, none⟩ (.int .i64 e0r)).setCell ⟨v1.heap.size, 1, none⟩ (.int .i64 e1r)).setCell ⟨v1.heap.size, 2, none⟩ (.int .i64 e2r)) := (((HB_5.out.setCell (by dsimp only; omega) _).setCell (by dsimp only; omega) _).setCell (by dsimp only; omega) _)
            have h_G8 : X3 (((v5.setCell ⟨v1.heap.size, 0, none⟩ (.int .i64 e0r)).setCell ⟨v1.heap.size, 1, none⟩ (.int .i64 e1r)).setCell ⟨v1.heap.size, 2, none⟩ (.int .i64 e2r)) v0.heap.size (.slice a2 m d2) (.int .i64 T) (.int .i64 Y) := (((G8_5.out.other (by omega)).other (by omega)).other (by omega))
            have h_G9 : X3 (((v5.setCell ⟨v1.heap.size, 0, none⟩ (.int .i64 e0r)).setCell ⟨v1.heap.size, 1, none⟩ (.int .i64 e1r)).setCell ⟨v1.heap.size, 2, none⟩ (.int .i64 e2r)) v1.heap.size (.int .i64 e0r) (.int .i64 e1r) (.int .i64 e2r) := (((G9_5.out.set0 _).set1 _).set2 _)
            have h_QQ : QOk (((v5.setCell ⟨v1.heap.size, 0, none⟩ (.int .i64 e0r)).setCell ⟨v1.heap.size, 1, none⟩ (.int .i64 e1r)).setCell ⟨v1.heap.size, 2, none⟩ (.int .i64 e2r)) a2 m d2 Q := qok_put3 QQ_5.out G9_5.out (by simp) (by simp) (by simp)
            refine wpAnyH_ready (rs := [12]) (by kernel_rfl) (by simp) ?_
            refine AllReadyH.cons (o := _) rfl (fun K hK => ?_) AllReadyH.nil
            go_simp
            refine hK.out _ _ ?_ (fun hHeld => ?_)
            · exact ⟨h_HC.1.1, h_HC.1.2.1, h_HC.1.2.2, h_HS.1.1, h_HS.1.2⟩
            clear hK K
            try simp only [Act.put, List.setIfInBounds_toArray, List.set_cons_zero, List.set_cons_succ]
            generalize (((v5.setCell ⟨v1.heap.size, 0, none⟩ (.int .i64 e0r)).setCell ⟨v1.heap.size, 1, none⟩ (.int .i64 e1r)).setCell ⟨v1.heap.size, 2, none⟩ (.int .i64 e2r)) = v6 at hHeld h_HC h_HS h_HR h_HE h_HQ h_HB h_G8 h_G9 h_QQ ⊢
            have HC_6 : Hid (X3 v6 w.heap.size (.slice ao n c) (.int .i64 t) (.int .i64 y)) := h_HC
            have HS_6 : Hid (X2 v6 (w.heap.size + 1) (.int .i64 k) (.string s)) := h_HS
            have HR_6 : Hid (X3 v6 (w.heap.size + 2) (.slice none 0 0) (.int .i64 0) (.int .i64 0)) := h_HR
            have HE_6 : Hid (X3 v6 (w.heap.size + 3) (.int .i64 0) (.int .i64 0) (.int .i64 0)) := h_HE
            have HQ_6 : Hid (QOk v6 ao n c xs) := h_HQ
            have HB_6 : Hid (Below w1.heap.size w1 v6) := h_HB
            have G8_6 : Hid (X3 v6 v0.heap.size (.slice a2 m d2) (.int .i64 T) (.int .i64 Y)) := h_G8
            have G9_6 : Hid (X3 v6 v1.heap.size (.int .i64 e0r) (.int .i64 e1r) (.int .i64 e2r)) := h_G9
            have QQ_6 : Hid (QOk v6 a2 m d2 Q) := h_QQ
            clear ef e0 q0 e1 q1 e2 q2 h_HC h_HS h_HR h_HE h_HQ h_HB h_G8 h_G9 h_QQ HC_5 HS_5 HR_5 HE_5 HQ_5 HB_5 G8_5 G9_5 QQ_5
            refine take10 (i := 13) (oi := _) (v := ?_) (d := some 10) rfl (by kernel_rfl) (by kernel_rfl) (by kernel_rfl) (by kernel_rfl) (fun _ _ _ h => h) (Or.inl ⟨by rfl, ?_⟩) (by assumption) ?_
            rotate_left
            · (intro w hSw; (try dsimp only at hSw); go_simp <;> with_reducible rfl)
            try simp only [Act.put, List.setIfInBounds_toArray, List.set_cons_zero, List.set_cons_succ]
            refine take10 (i := 14) (oi := _) (v := ?_) (d := some 11) rfl (by kernel_rfl) (by kernel_rfl) (by kernel_rfl) (by kernel_rfl) (fun _ _ _ h => h) (Or.inl ⟨by rfl, ?_⟩) (by assumption) ?_
            rotate_left
            · (intro w hSw; (try dsimp only at hSw); go_simp <;> with_reducible rfl)
            try simp only [Act.put, List.setIfInBounds_toArray, List.set_cons_zero, List.set_cons_succ]
            refine wpAnyH_done (by kernel_rfl) ?_ _
            go_wp2_with fail
            go_meet
            exact ⟨a2, d2, v0.heap.size, v1.heap.size, rfl, rfl, rfl, rfl, G8_6.out, G9_6.out, HR_6.out, HE_6.out, QQ_6.out, HB_6.out, by omega, by omega⟩
    · skip
      go_simp
      have hb : Below v0.heap.size v0 (v0.alloc (.cells #[.int .i64 0, .int .i64 0, .int .i64 0] 52)) := balloc _ _
      have hN := x3_new v0 (.int .i64 0) (.int .i64 0) (.int .i64 0) 52 v0.heap.size rfl
      have h_HC := HC_0.out.later hb
      have h_HS := HS_0.out.later hb
      have h_HR := HR_0.out.later hb
      have h_HE := HE_0.out.later hb
      have h_HQ := HQ_0.out.later hb
      have h_HB := HB_0.out.trans (hb.mono HB_0.out.size)
      refine hK.out _ _ ?_ (fun hHeld => ?_)
      · exact ⟨h_HC.1.1, h_HC.1.2.1, h_HC.1.2.2, h_HS.1.1, h_HS.1.2⟩
      clear hK K
      try simp only [Act.put, List.setIfInBounds_toArray, List.set_cons_zero, List.set_cons_succ]
      generalize (v0.alloc (.cells #[.int .i64 0, .int .i64 0, .int .i64 0] 52)) = v1 at hb hN hHeld h_HC h_HS h_HR h_HE h_HQ h_HB ⊢
      have HC_1 : Hid (X3 v1 w.heap.size (.slice ao n c) (.int .i64 t) (.int .i64 y)) := h_HC
      have HS_1 : Hid (X2 v1 (w.heap.size + 1) (.int .i64 k) (.string s)) := h_HS
      have HR_1 : Hid (X3 v1 (w.heap.size + 2) (.slice none 0 0) (.int .i64 0) (.int .i64 0)) := h_HR
      have HE_1 : Hid (X3 v1 (w.heap.size + 3) (.int .i64 0) (.int .i64 0) (.int .i64 0)) := h_HE
      have HQ_1 : Hid (QOk v1 ao n c xs) := h_HQ
      have HB_1 : Hid (Below w1.heap.size w1 v1) := h_HB
      have G9_1 : Hid (X3 v1 v0.heap.size (.int .i64 0) (.int .i64 0) (.int .i64 0)) := hN
      have hl0 : w1.heap.size ≤ v0.heap.size := HB_0.out.size
      have hz0 : v0.heap.size < v1.heap.size := G9_1.out.lt
      clear hb hN h_HC h_HS h_HR h_HE h_HQ h_HB HC_0 HS_0 HR_0 HE_0 HQ_0 HB_0
      refine wpAnyH_ready (rs := [1, 9]) (by kernel_rfl) (by simp) ?_
      refine AllReadyH.cons (o := _) rfl (fun K hK => ?_) (AllReadyH.cons (o := _) rfl (fun K hK => ?_) AllReadyH.nil)
      · skip
        go_simp
        refine (qO v1 HQ_1.out).mono ?_
        rintro e v2 ⟨a1, d1, rfl, ho, hb⟩
        have HC_2 : Hid (X3 v2 w.heap.size (.slice ao n c) (.int .i64 t) (.int .i64 y)) := HC_1.out.later hb
        have HS_2 : Hid (X2 v2 (w.heap.size + 1) (.int .i64 k) (.string s)) := HS_1.out.later hb
        have HR_2 : Hid (X3 v2 (w.heap.size + 2) (.slice none 0 0) (.int .i64 0) (.int .i64 0)) := HR_1.out.later hb
        have HE_2 : Hid (X3 v2 (w.heap.size + 3) (.int .i64 0) (.int .i64 0) (.int .i64 0)) := HE_1.out.later hb
        have HQ_2 : Hid (QOk v2 ao n c xs) := HQ_1.out.later hb
        have HB_2 : Hid (Below w1.heap.size w1 v2) := HB_1.out.trans (hb.mono HB_1.out.size)
        have G9_2 : Hid (X3 v2 v0.heap.size (.int .i64 0) (.int .i64 0) (.int .i64 0)) := G9_1.out.later hb
        have OO_2 : Hid (OwnS v2 v1.heap.size (.slice a1 n d1) xs) := ho
        have hz1 : v1.heap.size ≤ v2.heap.size := hb.size
        have hl1 : w1.heap.size ≤ v1.heap.size := HB_1.out.size
        refine hK.out _ _ ?_ (fun hHeld => ?_)
        · exact ⟨HC_2.out.1.1, HC_2.out.1.2.1, HC_2.out.1.2.2, HS_2.out.1.1, HS_2.out.1.2⟩
        clear hK K hb HC_1 HS_1 HR_1 HE_1 HQ_1 HB_1 G9_1
        try simp only [Act.put, List.setIfInBounds_toArray, List.set_cons_zero, List.set_cons_succ]
        refine wpAnyH_ready (rs := [3, 9]) (by kernel_rfl) (by simp) ?_
        refine AllReadyH.cons (o := _) rfl (fun K hK => ?_) (AllReadyH.cons (o := _) rfl (fun K hK => ?_) AllReadyH.nil)
        · skip
          go_simp
          refine (qL a1 d1 v2 OO_2.out.ok).mono ?_
          rintro e v3 ⟨a2, d2, rfl, hq2, hb⟩
          have HC_3 : Hid (X3 v3 w.heap.size (.slice ao n c) (.int .i64 t) (.int .i64 y)) := HC_2.out.later hb
          have HS_3 : Hid (X2 v3 (w.heap.size + 1) (.int .i64 k) (.string s)) := HS_2.out.later hb
          have HR_3 : Hid (X3 v3 (w.heap.size + 2) (.slice none 0 0) (.int .i64 0) (.int .i64 0)) := HR_2.out.later hb
          have HE_3 : Hid (X3 v3 (w.heap.size + 3) (.int .i64 0) (.int .i64 0) (.int .i64 0)) := HE_2.out.later hb
          have HQ_3 : Hid (QOk v3 ao n c xs) := HQ_2.out.later hb
          have HB_3 : Hid (Below w1.heap.size w1 v3) := HB_2.out.trans (hb.mono HB_2.out.size)
          have G9_3 : Hid (X3 v3 v0.heap.size (.int .i64 0) (.int .i64 0) (.int .i64 0)) := G9_2.out.later hb
          have OO_3 : Hid (OwnS v3 v1.heap.size (.slice a1 n d1) xs) := OO_2.out.later hb
          have QQ_3 : Hid (QOk v3 a2 m d2 Q) := hq2
          have hz2 : v2.heap.size ≤ v3.heap.size := hb.size
          have hl2 : w1.heap.size ≤ v2.heap.size := HB_2.out.size
          refine hK.out _ _ ?_ (fun hHeld => ?_)
          · exact ⟨HC_3.out.1.1, HC_3.out.1.2.1, HC_3.out.1.2.2, HS_3.out.1.1, HS_3.out.1.2⟩
          clear hK K hb HC_2 HS_2 HR_2 HE_2 HQ_2 HB_2 G9_2 OO_2
          try simp only [Act.put, List.setIfInBounds_toArray, List.set_cons_zero, List.set_cons_succ]
          refine take10 (i := 4) (oi := _) (v := ?_) (d := some 17) rfl (by kernel_rfl) (by kernel_rfl) (by kernel_rfl) (by kernel_rfl) (fun _ _ _ h => h) (Or.inl ⟨by rfl, ?_⟩) (by assumption) ?_
          rotate_left
          · (intro w hSw; (try dsimp only at hSw); go_simp <;> with_reducible rfl)
          try simp only [Act.put, List.setIfInBounds_toArray, List.set_cons_zero, List.set_cons_succ]
          refine take10 (i := 5) (oi := _) (v := ?_) (d := some 22) rfl (by kernel_rfl) (by kernel_rfl) (by kernel_rfl) (by kernel_rfl) (fun _ _ _ h => h) (Or.inl ⟨by rfl, ?_⟩) (by assumption) ?_
          rotate_left
          · (intro w hSw; (try dsimp only at hSw); go_simp <;> with_reducible rfl)
          try simp only [Act.put, List.setIfInBounds_toArray, List.set_cons_zero, List.set_cons_succ]
          refine take10 (i := 6) (oi := _) (v := ?_) (d := some 23) rfl (by kernel_rfl) (by kernel_rfl) (by kernel_rfl) (by kernel_rfl) (fun _ _ _ h => h) (Or.inl ⟨by rfl, ?_⟩) (by assumption) ?_
          rotate_left
          · (intro w hSw; (try dsimp only at hSw); go_simp <;> with_reducible rfl)
          try simp only [Act.put, List.setIfInBounds_toArray, List.set_cons_zero, List.set_cons_succ]
          refine take10 (i := 7) (oi := _) (v := ?_) (d := some 24) rfl (by kernel_rfl) (by kernel_rfl) (by kernel_rfl) (by kernel_rfl) (fun _ _ _ h => h) (Or.inl ⟨by rfl, ?_⟩) (by assumption) ?_
          rotate_left
          · (intro w hSw; (try dsimp only at hSw); go_simp <;> with_reducible rfl)
          try simp only [Act.put, List.setIfInBounds_toArray, List.set_cons_zero, List.set_cons_succ]
          refine take10 (i := 8) (oi := _) (v := ?_) (d := some 25) rfl (by kernel_rfl) (by kernel_rfl) (by kernel_rfl) (by kernel_rfl) (fun _ _ _ h => h) (Or.inl ⟨by rfl, ?_⟩) (by assumption) ?_
          rotate_left
          · (intro w hSw; (try dsimp only at hSw); go_simp <;> with_reducible rfl)
          try simp only [Act.put, List.setIfInBounds_toArray, List.set_cons_zero, List.set_cons_succ]
          refine wpAnyH_ready (rs := [9]) (by kernel_rfl) (by simp) ?_
          refine AllReadyH.cons (o := _) rfl (fun K hK => ?_) AllReadyH.nil
          · skip
            go_simp
            have hb : Below v3.heap.size v3 (v3.alloc (.cells #[.slice none 0 0, .int .i64 0, .int .i64 0] 45)) := balloc _ _
            have hN := x3_new v3 (.slice none 0 0) (.int .i64 0) (.int .i64 0) 45 v3.heap.size rfl
            have h_HC := HC_3.out.later hb
            have h_HS := HS_3.out.later hb
            have h_HR := HR_3.out.later hb
            have h_HE := HE_3.out.later hb
            have h_HQ := HQ_3.out.later hb
            have h_HB := HB_3.out.trans (hb.mono HB_3.out.size)
            have h_G9 := G9_3.out.later hb
            have h_OO := OO_3.out.later hb
            have h_QQ := QQ_3.out.later hb
            refine hK.out _ _ ?_ (fun hHeld => ?_)
            · exact ⟨h_HC.1.1, h_HC.1.2.1, h_HC.1.2.2, h_HS.1.1, h_HS.1.2⟩
            clear hK K
            try simp only [Act.put, List.setIfInBounds_toArray, List.set_cons_zero, List.set_cons_succ]
            generalize (v3.alloc (.cells #[.slice none 0 0, .int .i64 0, .int .i64 0] 45)) = v4 at hb hN hHeld h_HC h_HS h_HR h_HE h_HQ h_HB h_G9 h_OO h_QQ ⊢
            have HC_4 : Hid (X3 v4 w.heap.size (.slice ao n c) (.int .i64 t) (.int .i64 y)) := h_HC
            have HS_4 : Hid (X2 v4 (w.heap.size + 1) (.int .i64 k) (.string s)) := h_HS
            have HR_4 : Hid (X3 v4 (w.heap.size + 2) (.slice none 0 0) (.int .i64 0) (.int .i64 0)) := h_HR
            have HE_4 : Hid (X3 v4 (w.heap.size + 3) (.int .i64 0) (.int .i64 0) (.int .i64 0)) := h_HE
            have HQ_4 : Hid (QOk v4 ao n c xs) := h_HQ
            have HB_4 : Hid (Below w1.heap.size w1 v4) := h_HB
            have G9_4 : Hid (X3 v4 v0.heap.size (.int .i64 0) (.int .i64 0) (.int .i64 0)) := h_G9
            have OO_4 : Hid (OwnS v4 v1.heap.size (.slice a1 n d1) xs) := h_OO
            have QQ_4 : Hid (QOk v4 a2 m d2 Q) := h_QQ
            have G8_4 : Hid (X3 v4 v3.heap.size (.slice none 0 0) (.int .i64 0) (.int .i64 0)) := hN
            have hl3 : w1.heap.size ≤ v3.heap.size := HB_3.out.size
            have hz3 : v3.heap.size < v4.heap.size := G8_4.out.lt
            clear hb hN h_HC h_HS h_HR h_HE h_HQ h_HB h_G9 h_OO h_QQ HC_3 HS_3 HR_3 HE_3 HQ_3 HB_3 G9_3 OO_3 QQ_3
            obtain ⟨⟨e0, e1, e2⟩, ef⟩ := id G8_4.out
            have q0 := ef 0
            have q1 := ef 1
            have q2 := ef 2
            have h_HC : X3 (((v4.setCell ⟨v3.heap.size, 0, none⟩ (.slice a2 m d2)).setCell ⟨v3.heap.size, 1, none⟩ (.int .i64 T)).setCell ⟨v3.heap.size, 2, none⟩ (.int .i64 Y)) w.heap.size (.slice ao n c) (.int .i64 t) (.int .i64 y) := (((HC_4.out.other (by omega)).other (by omega)).other (by omega))
            have h_HS : X2 (((v4.setCell ⟨v3.heap.size, 0, none⟩ (.slice a2 m d2)).setCell ⟨v3.heap.size, 1, none⟩ (.int .i64 T)).setCell ⟨v3.heap.size, 2, none⟩ (.int .i64 Y)) (w.heap.size + 1) (.int .i64 k) (.string s) := (((HS_4.out.other (by omega)).other (by omega)).other (by omega))
            have h_HR : X3 (((v4.setCell ⟨v3.heap.size, 0, none⟩ (.slice a2 m d2)).setCell ⟨v3.heap.size, 1, none⟩ (.int .i64 T)).setCell ⟨v3.heap.size, 2, none⟩ (.int .i64 Y)) (w.heap.size + 2) (.slice none 0 0) (.int .i64 0) (.int .i64 0) := (((HR_4.out.other (by omega)).other (by omega)).other (by omega))
            have h_HE : X3 (((v4.setCell ⟨v3.heap.size, 0, none⟩ (.slice a2 m d2)).setCell ⟨v3.heap.size, 1, none⟩ (.int .i64 T)).setCell ⟨v3.heap.size, 2, none⟩ (.int .i64 Y)) (w.heap.size + 3) (.int .i64 0) (.int .i64 0) (.int .i64 0) := (((HE_4.out.other (by omega)).other (by omega)).other (by omega))
            have h_HQ : QOk (((v4.setCell ⟨v3.heap.size, 0, none⟩ (.slice a2 m d2)).setCell ⟨v3.heap.size, 1, none⟩ (.int .i64 T)).setCell ⟨v3.heap.size, 2, none⟩ (.int .i64 Y)) ao n c xs := qok_put3 HQ_4.out G8_4.out (by simp) (by simp) (by simp)
            have h_HB : Below w1.heap.size w1 (((v4.setCell ⟨v3.heap.size, 0, none⟩ (.slice a2 m d2)).setCell ⟨v3.heap.size, 1, none⟩ (.int .i64 T)).setCell ⟨v3.heap.size, 2, none⟩ (.int .i64 Y)) := (((HB_4.out.setCell (by dsimp only; omega) _).setCell (by dsimp only; omega) _).setCell (by dsimp only; omega) _)
            have h_G9 : X3 (((v4.setCell ⟨v3.heap.size, 0, none⟩ (.slice a2 m d2)).setCell ⟨v3.heap.size, 1, none⟩ (.int .i64 T)).setCell ⟨v3.heap.size, 2, none⟩ (.int .i64 Y)) v0.heap.size (.int .i64 0) (.int .i64 0) (.int .i64 0) := (((G9_4.out.other (by omega)).other (by omega)).other (by omega))
            have h_QQ : QOk (((v4.setCell ⟨v3.heap.size, 0, none⟩ (.slice a2 m d2)).setCell ⟨v3.heap.size, 1, none⟩ (.int .i64 T)).setCell ⟨v3.heap.size, 2, none⟩ (.int .i64 Y)) a2 m d2 Q := qok_put3 QQ_4.out G8_4.out (by simp) (by simp) (by simp)
            have h_G8 : X3 (((v4.setCell ⟨v3.heap.size, 0, none⟩ (.slice a2 m d2)).setCell ⟨v3.heap.size, 1, none⟩ (.int .i64 T)).setCell ⟨v3.heap.size, 2, none⟩ (.int .i64 Y)) v3.heap.size (.slice a2 m d2) (.int .i64 T) (.int .i64 Y) := (((G8_4.out.set0 _).set1 _).set2 _)
            refine wpAnyH_ready (rs := [11]) (by kernel_rfl) (by simp) ?_
            refine AllReadyH.cons (o := _) rfl (fun K hK => ?_) AllReadyH.nil
            go_simp
            refine hK.out _ _ ?_ (fun hHeld => ?_)
            · exact ⟨h_HC.1.1, h_HC.1.2.1, h_HC.1.2.2, h_HS.1.1, h_HS.1.2⟩
            clear hK K
            try simp only [Act.put, List.setIfInBounds_toArray, List.set_cons_zero, List.set_cons_succ]
            generalize (((v4.setCell ⟨v3.heap.size, 0, none⟩ (.slice a2 m d2)).setCell ⟨v3.heap.size, 1, none⟩ (.int .i64 T)).setCell ⟨v3.heap.size, 2, none⟩ (.int .i64 Y)) = v5 at hHeld h_HC h_HS h_HR h_HE h_HQ h_HB h_G9 h_QQ h_G8 ⊢
            have HC_5 : Hid (X3 v5 w.heap.size (.slice ao n c) (.int .i64 t) (.int .i64 y)) := h_HC
            have HS_5 : Hid (X2 v5 (w.heap.size + 1) (.int .i64 k) (.string s)) := h_HS
            have HR_5 : Hid (X3 v5 (w.heap.size + 2) (.slice none 0 0) (.int .i64 0) (.int .i64 0)) := h_HR
            have HE_5 : Hid (X3 v5 (w.heap.size + 3) (.int .i64 0) (.int .i64 0) (.int .i64 0)) := h_HE
            have HQ_5 : Hid (QOk v5 ao n c xs) := h_HQ
            have HB_5 : Hid (Below w1.heap.size w1 v5) := h_HB
            have G9_5 : Hid (X3 v5 v0.heap.size (.int .i64 0) (.int .i64 0) (.int .i64 0)) := h_G9
            have QQ_5 : Hid (QOk v5 a2 m d2 Q) := h_QQ
            have G8_5 : Hid (X3 v5 v3.heap.size (.slice a2 m d2) (.int .i64 T) (.int .i64 Y)) := h_G8
            clear ef e0 q0 e1 q1 e2 q2 h_HC h_HS h_HR h_HE h_HQ h_HB h_G9 h_QQ h_G8 HC_4 HS_4 HR_4 HE_4 HQ_4 HB_4 G9_4 OO_4 QQ_4 G8_4
            obtain ⟨⟨e0, e1, e2⟩, ef⟩ := id G9_5.out
            have q0 := ef 0
            have q1 := ef 1
            have q2 := ef 2
            have h_HC : X3 (((v5.setCell ⟨v0.heap.size, 0, none⟩ (.int .i64 e0r)).setCell ⟨v0.heap.size, 1, none⟩ (.int .i64 e1r)).setCell ⟨v0.heap.size, 2, none⟩ (.int .i64 e2r)) w.heap.size (.slice ao n c) (.int .i64 t) (.int .i64 y) := (((HC_5.out.other (by omega)).other (by omega)).other (by omega))
            have h_HS : X2 (((v5.setCell ⟨v0.heap.size, 0, none⟩ (.int .i64 e0r)).setCell ⟨v0.heap.size, 1, none⟩ (.int .i64 e1r)).setCell ⟨v0.heap.size, 2, none⟩ (.int .i64 e2r)) (w.heap.size + 1) (.int .i64 k) (.string s) := (((HS_5.out.other (by omega)).other (by omega)).other (by omega))
            have h_HR : X3 (((v5.setCell ⟨v0.heap.size, 0, none⟩ (.int .i64 e0r)).setCell ⟨v0.heap.size, 1, none⟩ (.int .i64 e1r)).setCell ⟨v0.heap.size, 2, none⟩ (.int .i64 e2r)) (w.heap.size + 2) (.slice none 0 0) (.int .i64 0) (.int .i64 0) := (((HR_5.out.other (by omega)).other (by omega)).other (by omega))
            have h_HE : X3 (((v5.setCell ⟨v0.heap.size, 0, none⟩ (.int .i64 e0r)).setCell ⟨v0.heap.size, 1, none⟩ (.int .i64 e1r)).setCell ⟨v0.heap.size, 2, none⟩ (.int .i64 e2r)) (w.heap.size + 3) (.int .i64 0) (.int .i64 0) (.int .i64 0) := (((HE_5.out.other (by omega)).other (by omega)).other (by omega))
            have h_HQ : QOk (((v5.setCell ⟨v0.heap.size, 0, none⟩ (.int .i64 e0r)).setCell ⟨v0.heap.size, 1, none⟩ (.int .i64 e1r)).setCell ⟨v0.heap.size, 2, none⟩ (.int .i64 e2r)) ao n c xs := qok_put3 HQ_5.out G9_5.out (by simp) (by simp) (by simp)
            have h_HB : Below w1.heap.size w1 (((v5.setCell ⟨v0.heap.size, 0, none⟩ (.int .i64 e0r)).setCell ⟨v0.heap.size, 1, none⟩ (.int .i64 e1r)).setCell ⟨v0.heap.size, 2, none⟩ (.int .i64 e2r)) := (((HB_5.out.setCell (by dsimp only; omega) _).setCell (by dsimp only; omega) _).setCell (by dsimp only; omega) _)
            have h_G9 : X3 (((v5.setCell ⟨v0.heap.size, 0, none⟩ (.int .i64 e0r)).setCell ⟨v0.heap.size, 1, none⟩ (.int .i64 e1r)).setCell ⟨v0.heap.size, 2, none⟩ (.int .i64 e2r)) v0.heap.size (.int .i64 e0r) (.int .i64 e1r) (.int .i64 e2r) := (((G9_5.out.set0 _).set1 _).set2 _)
            have h_QQ : QOk (((v5.setCell ⟨v0.heap.size, 0, none⟩ (.int .i64 e0r)).setCell ⟨v0.heap.size, 1, none⟩ (.int .i64 e1r)).setCell ⟨v0.heap.size, 2, none⟩ (.int .i64 e2r)) a2 m d2 Q := qok_put3 QQ_5.out G9_5.out (by simp) (by simp) (by simp)
            have h_G8 : X3 (((v5.setCell ⟨v0.heap.size, 0, none⟩ (.int .i64 e0r)).setCell ⟨v0.heap.size, 1, none⟩ (.int .i64 e1r)).setCell ⟨v0.heap.size, 2, none⟩ (.int .i64 e2r)) v3.heap.size (.slice a2 m d2) (.int .i64 T) (.int .i64 Y) := (((G8_5.out.other (by omega)).other (by omega)).other (by omega))
            refine wpAnyH_ready (rs := [12]) (by kernel_rfl) (by simp) ?_
            refine AllReadyH.cons (o := _) rfl (fun K hK => ?_) AllReadyH.nil
            go_simp
            refine hK.out _ _ ?_ (fun hHeld => ?_)
            · exact ⟨h_HC.1.1, h_HC.1.2.1, h_HC.1.2.2, h_HS.1.1, h_HS.1.2⟩
            clear hK K
            try simp only [Act.put, List.setIfInBounds_toArray, List.set_cons_zero, List.set_cons_succ]
            generalize (((v5.setCell ⟨v0.heap.size, 0, none⟩ (.int .i64 e0r)).setCell ⟨v0.heap.size, 1, none⟩ (.int .i64 e1r)).setCell ⟨v0.heap.size, 2, none⟩ (.int .i64 e2r)) = v6 at hHeld h_HC h_HS h_HR h_HE h_HQ h_HB h_G9 h_QQ h_G8 ⊢
            have HC_6 : Hid (X3 v6 w.heap.size (.slice ao n c) (.int .i64 t) (.int .i64 y)) := h_HC
            have HS_6 : Hid (X2 v6 (w.heap.size + 1) (.int .i64 k) (.string s)) := h_HS
            have HR_6 : Hid (X3 v6 (w.heap.size + 2) (.slice none 0 0) (.int .i64 0) (.int .i64 0)) := h_HR
            have HE_6 : Hid (X3 v6 (w.heap.size + 3) (.int .i64 0) (.int .i64 0) (.int .i64 0)) := h_HE
            have HQ_6 : Hid (QOk v6 ao n c xs) := h_HQ
            have HB_6 : Hid (Below w1.heap.size w1 v6) := h_HB
            have G9_6 : Hid (X3 v6 v0.heap.size (.int .i64 e0r) (.int .i64 e1r) (.int .i64 e2r)) := h_G9
            have QQ_6 : Hid (QOk v6 a2 m d2 Q) := h_QQ
            have G8_6 : Hid (X3 v6 v3.heap.size (.slice a2 m d2) (.int .i64 T) (.int .i64 Y)) := h_G8
            clear ef e0 q0 e1 q1 e2 q2 h_HC h_HS h_HR h_HE h_HQ h_HB h_G9 h_QQ h_G8 HC_5 HS_5 HR_5 HE_5 HQ_5 HB_5 G9_5 QQ_5 G8_5
            refine take10 (i := 13) (oi := _) (v := ?_) (d := some 10) rfl (by kernel_rfl) (by kernel_rfl) (by kernel_rfl) (by kernel_rfl) (fun _ _ _ h => h) (Or.inl ⟨by rfl, ?_⟩) (by assumption) ?_
            rotate_left
            · (intro w hSw; (try dsimp only at hSw); go_simp <;> with_reducible rfl)
            try simp only [Act.put, List.setIfInBounds_toArray, List.set_cons_zero, List.set_cons_succ]
            refine take10 (i := 14) (oi := _) (v := ?_) (d := some 11) rfl (by kernel_rfl) (by kernel_rfl) (by kernel_rfl) (by kernel_rfl) (fun _ _ _ h => h) (Or.inl ⟨by rfl, ?_⟩) (by assumption) ?_
            rotate_left
            · (intro w hSw; (try dsimp only at hSw); go_simp <;> with_reducible rfl)
            try simp only [Act.put, List.setIfInBounds_toArray, List.set_cons_zero, List.set_cons_succ]
            refine wpAnyH_done (by kernel_rfl) ?_ _
            go_wp2_with fail
            go_meet
            exact ⟨a2, d2, v3.heap.size, v0.heap.size, rfl, rfl, rfl, rfl, G8_6.out, G9_6.out, HR_6.out, HE_6.out, QQ_6.out, HB_6.out, by omega, by omega⟩
        · skip
          go_simp
          have hb : Below v2.heap.size v2 (v2.alloc (.cells #[.slice none 0 0, .int .i64 0, .int .i64 0] 45)) := balloc _ _
          have hN := x3_new v2 (.slice none 0 0) (.int .i64 0) (.int .i64 0) 45 v2.heap.size rfl
          have h_HC := HC_2.out.later hb
          have h_HS := HS_2.out.later hb
          have h_HR := HR_2.out.later hb
          have h_HE := HE_2.out.later hb
          have h_HQ := HQ_2.out.later hb
          have h_HB := HB_2.out.trans (hb.mono HB_2.out.size)
          have h_G9 := G9_2.out.later hb
          have h_OO := OO_2.out.later hb
          refine hK.out _ _ ?_ (fun hHeld => ?_)
          · exact ⟨h_HC.1.1, h_HC.1.2.1, h_HC.1.2.2, h_HS.1.1, h_HS.1.2⟩
          clear hK K
          try simp only [Act.put, List.setIfInBounds_toArray, List.set_cons_zero, List.set_cons_succ]
          generalize (v2.alloc (.cells #[.slice none 0 0, .int .i64 0, .int .i64 0] 45)) = v3 at hb hN hHeld h_HC h_HS h_HR h_HE h_HQ h_HB h_G9 h_OO ⊢
          have HC_3 : Hid (X3 v3 w.heap.size (.slice ao n c) (.int .i64 t) (.int .i64 y)) := h_HC
          have HS_3 : Hid (X2 v3 (w.heap.size + 1) (.int .i64 k) (.string s)) := h_HS
          have HR_3 : Hid (X3 v3 (w.heap.size + 2) (.slice none 0 0) (.int .i64 0) (.int .i64 0)) := h_HR
          have HE_3 : Hid (X3 v3 (w.heap.size + 3) (.int .i64 0) (.int .i64 0) (.int .i64 0)) := h_HE
          have HQ_3 : Hid (QOk v3 ao n c xs) := h_HQ
          have HB_3 : Hid (Below w1.heap.size w1 v3) := h_HB
          have G9_3 : Hid (X3 v3 v0.heap.size (.int .i64 0) (.int .i64 0) (.int .i64 0)) := h_G9
          have OO_3 : Hid (OwnS v3 v1.heap.size (.slice a1 n d1) xs) := h_OO
          have G8_3 : Hid (X3 v3 v2.heap.size (.slice none 0 0) (.int .i64 0) (.int .i64 0)) := hN
          have hl2 : w1.heap.size ≤ v2.heap.size := HB_2.out.size
          have hz2 : v2.heap.size < v3.heap.size := G8_3.out.lt
          clear hb hN h_HC h_HS h_HR h_HE h_HQ h_HB h_G9 h_OO HC_2 HS_2 HR_2 HE_2 HQ_2 HB_2 G9_2 OO_2
          refine wpAnyH_ready (rs := [3]) (by kernel_rfl) (by simp) ?_
          refine AllReadyH.cons (o := _) rfl (fun K hK => ?_) AllReadyH.nil
          · skip
            go_simp
            refine (qL a1 d1 v3 OO_3.out.ok).mono ?_
            rintro e v4 ⟨a2, d2, rfl, hq2, hb⟩
            have HC_4 : Hid (X3 v4 w.heap.size (.slice ao n c) (.int .i64 t) (.int .i64 y)) := HC_3.out.later hb
            have HS_4 : Hid (X2 v4 (w.heap.size + 1) (.int .i64 k) (.string s)) := HS_3.out.later hb
            have HR_4 : Hid (X3 v4 (w.heap.size + 2) (.slice none 0 0) (.int .i64 0) (.int .i64 0)) := HR_3.out.later hb
            have HE_4 : Hid (X3 v4 (w.heap.size + 3) (.int .i64 0) (.int .i64 0) (.int .i64 0)) := HE_3.out.later hb
            have HQ_4 : Hid (QOk v4 ao n c xs) := HQ_3.out.later hb
            have HB_4 : Hid (Below w1.heap.size w1 v4) := HB_3.out.trans (hb.mono HB_3.out.size)
            have G9_4 : Hid (X3 v4 v0.heap.size (.int .i64 0) (.int .i64 0) (.int .i64 0)) := G9_3.out.later hb
            have OO_4 : Hid (OwnS v4 v1.heap.size (.slice a1 n d1) xs) := OO_3.out.later hb
            have G8_4 : Hid (X3 v4 v2.heap.size (.slice none 0 0) (.int .i64 0) (.int .i64 0)) := G8_3.out.later hb
            have QQ_4 : Hid (QOk v4 a2 m d2 Q) := hq2
            have hz3 : v3.heap.size ≤ v4.heap.size := hb.size
            have hl3 : w1.heap.size ≤ v3.heap.size := HB_3.out.size
            refine hK.out _ _ ?_ (fun hHeld => ?_)
            · exact ⟨HC_4.out.1.1, HC_4.out.1.2.1, HC_4.out.1.2.2, HS_4.out.1.1, HS_4.out.1.2⟩
            clear hK K hb HC_3 HS_3 HR_3 HE_3 HQ_3 HB_3 G9_3 OO_3 G8_3
            try simp only [Act.put, List.setIfInBounds_toArray, List.set_cons_zero, List.set_cons_succ]
            refine take10 (i := 4) (oi := _) (v := ?_) (d := some 17) rfl (by kernel_rfl) (by kernel_rfl) (by kernel_rfl) (by kernel_rfl) (fun _ _ _ h => h) (Or.inl ⟨by rfl, ?_⟩) (by assumption) ?_
            rotate_left
            · (intro w hSw; (try dsimp only at hSw); go_simp <;> with_reducible rfl)
            try simp only [Act.put, List.setIfInBounds_toArray, List.set_cons_zero, List.set_cons_succ]
            refine take10 (i := 5) (oi := _) (v := ?_) (d := some 22) rfl (by kernel_rfl) (by kernel_rfl) (by kernel_rfl) (by kernel_rfl) (fun _ _ _ h => h) (Or.inl ⟨by rfl, ?_⟩) (by assumption) ?_
            rotate_left
            · (intro w hSw; (try dsimp only at hSw); go_simp <;> with_reducible rfl)
            try simp only [Act.put, List.setIfInBounds_toArray, List.set_cons_zero, List.set_cons_succ]
            refine take10 (i := 6) (oi := _) (v := ?_) (d := some 23) rfl (by kernel_rfl) (by kernel_rfl) (by kernel_rfl) (by kernel_rfl) (fun _ _ _ h => h) (Or.inl ⟨by rfl, ?_⟩) (by assumption) ?_
            rotate_left
            · (intro w hSw; (try dsimp only at hSw); go_simp <;> with_reducible rfl)
            try simp only [Act.put, List.setIfInBounds_toArray, List.set_cons_zero, List.set_cons_succ]
            refine take10 (i := 7) (oi := _) (v := ?_) (d := some 24) rfl (by kernel_rfl) (by kernel_rfl) (by kernel_rfl) (by kernel_rfl) (fun _ _ _ h => h) (Or.inl ⟨by rfl, ?_⟩) (by assumption) ?_
            rotate_left
            · (intro w hSw; (try dsimp only at hSw); go_simp <;> with_reducible rfl)
            try simp only [Act.put, List.setIfInBounds_toArray, List.set_cons_zero, List.set_cons_succ]
            refine take10 (i := 8) (oi := _) (v := ?_) (d := some 25) rfl (by kernel_rfl) (by kernel_rfl) (by kernel_rfl) (by kernel_rfl) (fun _ _ _ h => h) (Or.inl ⟨by rfl, ?_⟩) (by assumption) ?_
            rotate_left
            · (intro w hSw; (try dsimp only at hSw); go_simp <;> with_reducible rfl)
            try simp only [Act.put, List.setIfInBounds_toArray, List.set_cons_zero, List.set_cons_succ]
            obtain ⟨⟨e0, e1, e2⟩, ef⟩ := id G8_4.out
            have q0 := ef 0
            have q1 := ef 1
            have q2 := ef 2
            have h_HC : X3 (((v4.setCell ⟨v2.heap.size, 0, none⟩ (.slice a2 m d2)).setCell ⟨v2.heap.size, 1, none⟩ (.int .i64 T)).setCell ⟨v2.heap.size, 2, none⟩ (.int .i64 Y)) w.heap.size (.slice ao n c) (.int .i64 t) (.int .i64 y) := (((HC_4.out.other (by omega)).other (by omega)).other (by omega))
            have h_HS : X2 (((v4.setCell ⟨v2.heap.size, 0, none⟩ (.slice a2 m d2)).setCell ⟨v2.heap.size, 1, none⟩ (.int .i64 T)).setCell ⟨v2.heap.size, 2, none⟩ (.int .i64 Y)) (w.heap.size + 1) (.int .i64 k) (.string s) := (((HS_4.out.other (by omega)).other (by omega)).other (by omega))
            have h_HR : X3 (((v4.setCell ⟨v2.heap.size, 0, none⟩ (.slice a2 m d2)).setCell ⟨v2.heap.size, 1, none⟩ (.int .i64 T)).setCell ⟨v2.heap.size, 2, none⟩ (.int .i64 Y)) (w.heap.size + 2) (.slice none 0 0) (.int .i64 0) (.int .i64 0) := (((HR_4.out.other (by omega)).other (by omega)).other (by omega))
            have h_HE : X3 (((v4.setCell ⟨v2.heap.size, 0, none⟩ (.slice a2 m d2)).setCell ⟨v2.heap.size, 1, none⟩ (.int .i64 T)).setCell ⟨v2.heap.size, 2, none⟩ (.int .i64 Y)) (w.heap.size + 3) (.int .i64 0) (.int .i64 0) (.int .i64 0) := (((HE_4.out.other (by omega)).other (by omega)).other (by omega))
            have h_HQ : QOk (((v4.setCell ⟨v2.heap.size, 0, none⟩ (.slice a2 m d2)).setCell ⟨v2.heap.size, 1, none⟩ (.int .i64 T)).setCell ⟨v2.heap.size, 2, none⟩ (.int .i64 Y)) ao n c xs := qok_put3 HQ_4.out G8_4.out (by simp) (by simp) (by simp)
            have h_HB : Below w1.heap.size w1 (((v4.setCell ⟨v2.heap.size, 0, none⟩ (.slice a2 m d2)).setCell ⟨v2.heap.size, 1, none⟩ (.int .i64 T)).setCell ⟨v2.heap.size, 2, none⟩ (.int .i64 Y)) := (((HB_4.out.setCell (by dsimp only; omega) _).setCell (by dsimp only; omega) _).setCell (by dsimp only; omega) _)
            have h_G9 : X3 (((v4.setCell ⟨v2.heap.size, 0, none⟩ (.slice a2 m d2)).setCell ⟨v2.heap.size, 1, none⟩ (.int .i64 T)).setCell ⟨v2.heap.size, 2, none⟩ (.int .i64 Y)) v0.heap.size (.int .i64 0) (.int .i64 0) (.int .i64 0) := (((G9_4.out.other (by omega)).other (by omega)).other (by omega))
            have h_G8 : X3 (((v4.setCell ⟨v2.heap.size, 0, none⟩ (.slice a2 m d2)).setCell ⟨v2.heap.size, 1, none⟩ (.int .i64 T)).setCell ⟨v2.heap.size, 2, none⟩ (.int .i64 Y)) v2.heap.size (.slice a2 m d2) (.int .i64 T) (.int .i64 Y) := (((G8_4.out.set0 _).set1 _).set2 _)
            have h_QQ : QOk (((v4.setCell ⟨v2.heap.size, 0, none⟩ (.slice a2 m d2)).setCell ⟨v2.heap.size, 1, none⟩ (.int .i64 T)).setCell ⟨v2.heap.size, 2, none⟩ (.int .i64 Y)) a2 m d2 Q := qok_put3 QQ_4.out G8_4.out (by simp) (by simp) (by simp)
            refine wpAnyH_ready (rs := [11]) (by kernel_rfl) (by simp) ?_
            refine AllReadyH.cons (o := _) rfl (fun K hK => ?_) AllReadyH.nil
            go_simp
            refine hK.out _ _ ?_ (fun hHeld => ?_)
            · exact ⟨h_HC.1.1, h_HC.1.2.1, h_HC.1.2.2, h_HS.1.1, h_HS.1.2⟩
            clear hK K
            try simp only [Act.put, List.setIfInBounds_toArray, List.set_cons_zero, List.set_cons_succ]
            generalize (((v4.setCell ⟨v2.heap.size, 0, none⟩ (.slice a2 m d2)).setCell ⟨v2.heap.size, 1, none⟩ (.int .i64 T)).setCell ⟨v2.heap.size, 2, none⟩ (.int .i64 Y)) = v5 at hHeld h_HC h_HS h_HR h_HE h_HQ h_HB h_G9 h_G8 h_QQ ⊢
            have HC_5 : Hid (X3 v5 w.heap.size (.slice ao n c) (.int .i64 t) (.int .i64 y)) := h_HC
            have HS_5 : Hid (X2 v5 (w.heap.size + 1) (.int .i64 k) (.string s)) := h_HS
            have HR_5 : Hid (X3 v5 (w.heap.size + 2) (.slice none 0 0) (.int .i64 0) (.int .i64 0)) := h_HR
            have HE_5 : Hid (X3 v5 (w.heap.size + 3) (.int .i64 0) (.int .i64 0) (.int .i64 0)) := h_HE
            have HQ_5 : Hid (QOk v5 ao n c xs) := h_HQ
            have HB_5 : Hid (Below w1.heap.size w1 v5) := h_HB
            have G9_5 : Hid (X3 v5 v0.heap.size (.int .i64 0) (.int .i64 0) (.int .i64 0)) := h_G9
            have G8_5 : Hid (X3 v5 v2.heap.size (.slice a2 m d2) (.int .i64 T) (.int .i64 Y)) := h_G8
            have QQ_5 : Hid (QOk v5 a2 m d2 Q) := h_QQ
            clear ef e0 q0 e1 q1 e2 q2 h_HC h_HS h_HR h_HE h_HQ h_HB h_G9 h_G8 h_QQ HC_4 HS_4 HR_4 HE_4 HQ_4 HB_4 G9_4 OO_4 G8_4 QQ_4
            obtain ⟨⟨e0, e1, e2⟩, ef⟩ := id G9_5.out
            have q0 := ef 0
            have q1 := ef 1
            have q2 := ef 2
            have h_HC : X3 (((v5.setCell ⟨v0.heap.size, 0, none⟩ (.int .i64 e0r)).setCell ⟨v0.heap.size, 1, none⟩ (.int .i64 e1r)).setCell ⟨v0.heap.size, 2, none⟩ (.int .i64 e2r)) w.heap.size (.slice ao n c) (.int .i64 t) (.int .i64 y) := (((HC_5.out.other (by omega)).other (by omega)).other (by omega))
            have h_HS : X2 (((v5.setCell ⟨v0.heap.size, 0, none⟩ (.int .i64 e0r)).setCell ⟨v0.heap.size, 1, none⟩ (.int .i64 e1r)).setCell ⟨v0.heap.size, 2, none⟩ (.int .i64 e2r)) (w.heap.size + 1) (.int .i64 k) (.string s) := (((HS_5.out.other (by omega)).other (by omega)).other (by omega))
            have h_HR : X3 (((v5.setCell ⟨v0.heap.size, 0, none⟩ (.int .i64 e0r)).setCell ⟨v0.heap.size, 1, none⟩ (.int .i64 e1r)).setCell ⟨v0.heap.size, 2, none⟩ (.int .i64 e2r)) (w.heap.size + 2) (.slice none 0 0) (.int .i64 0) (.int .i64 0) := (((HR_5.out.other (by omega)).other (by omega)).other (by omega))
            have h_HE : X3 (((v5.setCell ⟨v0.heap.size, 0, none⟩ (.int .i64 e0r)).setCell ⟨v0.heap.size, 1, none⟩ (.int .i64 e1r)).setCell ⟨v0.heap.size, 2, none⟩ (.int .i64 e2r)) (w.heap.size + 3) (.int .i64 0) (.int .i64 0) (.int .i64 0) := (((HE_5.out.other (by omega)).other (by omega)).other (by omega))
            have h_HQ : QOk (((v5.setCell ⟨v0.heap.size, 0, none⟩ (.int .i64 e0r)).setCell ⟨v0.heap.size, 1, none⟩ (.int .i64 e1r)).setCell ⟨v0.heap.size, 2, none⟩ (.int .i64 e2r)) ao n c xs := qok_put3 HQ_5.out G9_5.out (by simp) (by simp) (by simp)
            have h_HB : Below w1.heap.size w1 (((v5.setCell ⟨v0.heap.size, 0, none⟩ (.int .i64 e0r)).setCell ⟨v0.heap.size, 1, none⟩ (.int .i64 e1r)).setCell ⟨v0.heap.size, 2, none⟩ (.int .i64 e2r)) := (((HB_5.out.setCell (by dsimp only; omega) _).setCell (by dsimp only; omega) _).setCell (by dsimp only; omega) _)
            have h_G9 : X3 (((v5.setCell ⟨v0.heap.size, 0, none⟩ (.int .i64 e0r)).setCell ⟨v0.heap.size, 1, none⟩ (.int .i64 e1r)).setCell ⟨v0.heap.size, 2, none⟩ (.int .i64 e2r)) v0.heap.size (.int .i64 e0r) (.int .i64 e1r) (.int .i64 e2r) := (((G9_5.out.set0 _).set1 _).set2 _)
            have h_G8 : X3 (((v5.setCell ⟨v0.heap.size, 0, none⟩ (.int .i64 e0r)).setCell ⟨v0.heap.size, 1, none⟩ (.int .i64 e1r)).setCell ⟨v0.heap.size, 2, none⟩ (.int .i64 e2r)) v2.heap.size (.slice a2 m d2) (.int .i64 T) (.int .i64 Y) := (((G8_5.out.other (by omega)).other (by omega)).other (by omega))
            have h_QQ : QOk (((v5.setCell ⟨v0.heap.size, 0, none⟩ (.int .i64 e0r)).setCell ⟨v0.heap.size, 1, none⟩ (.int .i64 e1r)).setCell ⟨v0.heap.size, 2, none⟩ (.int .i64 e2r)) a2 m d2 Q := qok_put3 QQ_5.out G9_5.out (by simp) (by simp) (by simp)
            refine wpAnyH_ready (rs := [12]) (by kernel_rfl) (by simp) ?_
            refine AllReadyH.cons (o := _) rfl (fun K hK => ?_) AllReadyH.nil
            go_simp
            refine hK.out _ _ ?_ (fun hHeld => ?_)
            · exact ⟨h_HC.1.1, h_HC.1.2.1, h_HC.1.2.2, h_HS.1.1, h_HS.1.2⟩
            clear hK K
            try simp only [Act.put, List.setIfInBounds_toArray, List.set_cons_zero, List.set_cons_succ]
            generalize (((v5.setCell ⟨v0.heap.size, 0, none⟩ (.int .i64 e0r)).setCell ⟨v0.heap.size, 1, none⟩ (.int .i64 e1r)).setCell ⟨v0.heap.size, 2, none⟩ (.int .i64 e2r)) = v6 at hHeld h_HC h_HS h_HR h_HE h_HQ h_HB h_G9 h_G8 h_QQ ⊢
            have HC_6 : Hid (X3 v6 w.heap.size (.slice ao n c) (.int .i64 t) (.int .i64 y)) := h_HC
            have HS_6 : Hid (X2 v6 (w.heap.size + 1) (.int .i64 k) (.string s)) := h_HS
            have HR_6 : Hid (X3 v6 (w.heap.size + 2) (.slice none 0 0) (.int .i64 0) (.int .i64 0)) := h_HR
            have HE_6 : Hid (X3 v6 (w.heap.size + 3) (.int .i64 0) (.int .i64 0) (.int .i64 0)) := h_HE
            have HQ_6 : Hid (QOk v6 ao n c xs) := h_HQ
            have HB_6 : Hid (Below w1.heap.size w1 v6) := h_HB
            have G9_6 : Hid (X3 v6 v0.heap.size (.int .i64 e0r) (.int .i64 e1r) (.int .i64 e2r)) := h_G9
            have G8_6 : Hid (X3 v6 v2.heap.size (.slice a2 m d2) (.int .i64 T) (.int .i64 Y)) := h_G8
            have QQ_6 : Hid (QOk v6 a2 m d2 Q) := h_QQ
            clear ef e0 q0 e1 q1 e2 q2 h_HC h_HS h_HR h_HE h_HQ h_HB h_G9 h_G8 h_QQ HC_5 HS_5 HR_5 HE_5 HQ_5 HB_5 G9_5 G8_5 QQ_5
            refine take10 (i := 13) (oi := _) (v := ?_) (d := some 10) rfl (by kernel_rfl) (by kernel_rfl) (by kernel_rfl) (by kernel_rfl) (fun _ _ _ h => h) (Or.inl ⟨by rfl, ?_⟩) (by assumption) ?_
            rotate_left
            · (intro w hSw; (try dsimp only at hSw); go_simp <;> with_reducible rfl)
            try simp only [Act.put, List.setIfInBounds_toArray, List.set_cons_zero, List.set_cons_succ]
            refine take10 (i := 14) (oi := _) (v := ?_) (d := some 11) rfl (by kernel_rfl) (by kernel_rfl) (by kernel_rfl) (by kernel_rfl) (fun _ _ _ h => h) (Or.inl ⟨by rfl, ?_⟩) (by assumption) ?_
            rotate_left
            · (intro w hSw; (try dsimp only at hSw); go_simp <;> with_reducible rfl)
            try simp only [Act.put, List.setIfInBounds_toArray, List.set_cons_zero, List.set_cons_succ]
            refine wpAnyH_done (by kernel_rfl) ?_ _
            go_wp2_with fail
            go_meet
            exact ⟨a2, d2, v2.heap.size, v0.heap.size, rfl, rfl, rfl, rfl, G8_6.out, G9_6.out, HR_6.out, HE_6.out, QQ_6.out, HB_6.out, by omega, by omega⟩
      · skip
        go_simp
        have hb : Below v1.heap.size v1 (v1.alloc (.cells #[.slice none 0 0, .int .i64 0, .int .i64 0] 45)) := balloc _ _
        have hN := x3_new v1 (.slice none 0 0) (.int .i64 0) (.int .i64 0) 45 v1.heap.size rfl
        have h_HC := HC_1.out.later hb
        have h_HS := HS_1.out.later hb
        have h_HR := HR_1.out.later hb
        have h_HE := HE_1.out.later hb
        have h_HQ := HQ_1.out.later hb
        have h_HB := HB_1.out.trans (hb.mono HB_1.out.size)
        have h_G9 := G9_1.out.later hb
        refine hK.out _ _ ?_ (fun hHeld => ?_)
        · exact ⟨h_HC.1.1, h_HC.1.2.1, h_HC.1.2.2, h_HS.1.1, h_HS.1.2⟩
        clear hK K
        try simp only [Act.put, List.setIfInBounds_toArray, List.set_cons_zero, List.set_cons_succ]
        generalize (v1.alloc (.cells #[.slice none 0 0, .int .i64 0, .int .i64 0] 45)) = v2 at hb hN hHeld h_HC h_HS h_HR h_HE h_HQ h_HB h_G9 ⊢
        have HC_2 : Hid (X3 v2 w.heap.size (.slice ao n c) (.int .i64 t) (.int .i64 y)) := h_HC
        have HS_2 : Hid (X2 v2 (w.heap.size + 1) (.int .i64 k) (.string s)) := h_HS
        have HR_2 : Hid (X3 v2 (w.heap.size + 2) (.slice none 0 0) (.int .i64 0) (.int .i64 0)) := h_HR
        have HE_2 : Hid (X3 v2 (w.heap.size + 3) (.int .i64 0) (.int .i64 0) (.int .i64 0)) := h_HE
        have HQ_2 : Hid (QOk v2 ao n c xs) := h_HQ
        have HB_2 : Hid (Below w1.heap.size w1 v2) := h_HB
        have G9_2 : Hid (X3 v2 v0.heap.size (.int .i64 0) (.int .i64 0) (.int .i64 0)) := h_G9
        have G8_2 : Hid (X3 v2 v1.heap.size (.slice none 0 0) (.int .i64 0) (.int .i64 0)) := hN
        have hl1 : w1.heap.size ≤ v1.heap.size := HB_1.out.size
        have hz1 : v1.heap.size < v2.heap.size := G8_2.out.lt
        clear hb hN h_HC h_HS h_HR h_HE h_HQ h_HB h_G9 HC_1 HS_1 HR_1 HE_1 HQ_1 HB_1 G9_1
        refine wpAnyH_ready (rs := [1]) (by kernel_rfl) (by simp) ?_
        refine AllReadyH.cons (o := _) rfl (fun K hK => ?_) AllReadyH.nil
        · skip
          go_simp
          refine (qO v2 HQ_2.out).mono ?_
          rintro e v3 ⟨a1, d1, rfl, ho, hb⟩
          have HC_3 : Hid (X3 v3 w.heap.size (.slice ao n c) (.int .i64 t) (.int .i64 y)) := HC_2.out.later hb
          have HS_3 : Hid (X2 v3 (w.heap.size + 1) (.int .i64 k) (.string s)) := HS_2.out.later hb
          have HR_3 : Hid (X3 v3 (w.heap.size + 2) (.slice none 0 0) (.int .i64 0) (.int .i64 0)) := HR_2.out.later hb
          have HE_3 : Hid (X3 v3 (w.heap.size + 3) (.int .i64 0) (.int .i64 0) (.int .i64 0)) := HE_2.out.later hb
          have HQ_3 : Hid (QOk v3 ao n c xs) := HQ_2.out.later hb
          have HB_3 : Hid (Below w1.heap.size w1 v3) := HB_2.out.trans (hb.mono HB_2.out.size)
          have G9_3 : Hid (X3 v3 v0.heap.size (.int .i64 0) (.int .i64 0) (.int .i64 0)) := G9_2.out.later hb
          have G8_3 : Hid (X3 v3 v1.heap.size (.slice none 0 0) (.int .i64 0) (.int .i64 0)) := G8_2.out.later hb
          have OO_3 : Hid (OwnS v3 v2.heap.size (.slice a1 n d1) xs) := ho
          have hz2 : v2.heap.size ≤ v3.heap.size := hb.size
          have hl2 : w1.heap.size ≤ v2.heap.size := HB_2.out.size
          refine hK.out _ _ ?_ (fun hHeld => ?_)
          · exact ⟨HC_3.out.1.1, HC_3.out.1.2.1, HC_3.out.1.2.2, HS_3.out.1.1, HS_3.out.1.2⟩
          clear hK K hb HC_2 HS_2 HR_2 HE_2 HQ_2 HB_2 G9_2 G8_2
          try simp only [Act.put, List.setIfInBounds_toArray, List.set_cons_zero, List.set_cons_succ]
          refine wpAnyH_ready (rs := [3]) (by kernel_rfl) (by simp) ?_
          refine AllReadyH.cons (o := _) rfl (fun K hK => ?_) AllReadyH.nil
          · skip
            go_simp
            refine (qL a1 d1 v3 OO_3.out.ok).mono ?_
            rintro e v4 ⟨a2, d2, rfl, hq2, hb⟩
            have HC_4 : Hid (X3 v4 w.heap.size (.slice ao n c) (.int .i64 t) (.int .i64 y)) := HC_3.out.later hb
            have HS_4 : Hid (X2 v4 (w.heap.size + 1) (.int .i64 k) (.string s)) := HS_3.out.later hb
            have HR_4 : Hid (X3 v4 (w.heap.size + 2) (.slice none 0 0) (.int .i64 0) (.int .i64 0)) := HR_3.out.later hb
            have HE_4 : Hid (X3 v4 (w.heap.size + 3) (.int .i64 0) (.int .i64 0) (.int .i64 0)) := HE_3.out.later hb
            have HQ_4 : Hid (QOk v4 ao n c xs) := HQ_3.out.later hb
            have HB_4 : Hid (Below w1.heap.size w1 v4) := HB_3.out.trans (hb.mono HB_3.out.size)
            have G9_4 : Hid (X3 v4 v0.heap.size (.int .i64 0) (.int .i64 0) (.int .i64 0)) := G9_3.out.later hb
            have G8_4 : Hid (X3 v4 v1.heap.size (.slice none 0 0) (.int .i64 0) (.int .i64 0)) := G8_3.out.later hb
            have OO_4 : Hid (OwnS v4 v2.heap.size (.slice a1 n d1) xs) := OO_3.out.later hb
            have QQ_4 : Hid (QOk v4 a2 m d2 Q) := hq2
            have hz3 : v3.heap.size ≤ v4.heap.size := hb.size
            have hl3 : w1.heap.size ≤ v3.heap.size := HB_3.out.size
            refine hK.out _ _ ?_ (fun hHeld => ?_)
            · exact ⟨HC_4.out.1.1, HC_4.out.1.2.1, HC_4.out.1.2.2, HS_4.out.1.1, HS_4.out.1.2⟩
            clear hK K hb HC_3 HS_3 HR_3 HE_3 HQ_3 HB_3 G9_3 G8_3 OO_3
            try simp only [Act.put, List.setIfInBounds_toArray, List.set_cons_zero, List.set_cons_succ]
            refine take10 (i := 4) (oi := _) (v := ?_) (d := some 17) rfl (by kernel_rfl) (by kernel_rfl) (by kernel_rfl) (by kernel_rfl) (fun _ _ _ h => h) (Or.inl ⟨by rfl, ?_⟩) (by assumption) ?_
            rotate_left
            · (intro w hSw; (try dsimp only at hSw); go_simp <;> with_reducible rfl)
            try simp only [Act.put, List.setIfInBounds_toArray, List.set_cons_zero, List.set_cons_succ]
            refine take10 (i := 5) (oi := _) (v := ?_) (d := some 22) rfl (by kernel_rfl) (by kernel_rfl) (by kernel_rfl) (by kernel_rfl) (fun _ _ _ h => h) (Or.inl ⟨by rfl, ?_⟩) (by assumption) ?_
            rotate_left
            · (intro w hSw; (try dsimp only at hSw); go_simp <;> with_reducible rfl)
            try simp only [Act.put, List.setIfInBounds_toArray, List.set_cons_zero, List.set_cons_succ]
            refine take10 (i := 6) (oi := _) (v := ?_) (d := some 23) rfl (by kernel_rfl) (by kernel_rfl) (by kernel_rfl) (by kernel_rfl) (fun _ _ _ h => h) (Or.inl ⟨by rfl, ?_⟩) (by assumption) ?_
            rotate_left
            · (intro w hSw; (try dsimp only at hSw); go_simp <;> with_reducible rfl)
            try simp only [Act.put, List.setIfInBounds_toArray, List.set_cons_zero, List.set_cons_succ]
            refine take10 (i := 7) (oi := _) (v := ?_) (d := some 24) rfl (by kernel_rfl) (by kernel_rfl) (by kernel_rfl) (by kernel_rfl) (fun _ _ _ h => h) (Or.inl ⟨by rfl, ?_⟩) (by assumption) ?_
            rotate_left
            · (intro w hSw; (try dsimp only at hSw); go_simp <;> with_reducible rfl)
            try simp only [Act.put, List.setIfInBounds_toArray, List.set_cons_zero, List.set_cons_succ]
            refine take10 (i := 8) (oi := _) (v := ?_) (d := some 25) rfl (by kernel_rfl) (by kernel_rfl) (by kernel_rfl) (by kernel_rfl) (fun _ _ _ h => h) (Or.inl ⟨by rfl, ?_⟩) (by assumption) ?_
            rotate_left
            · (intro w hSw; (try dsimp only at hSw); go_simp <;> with_reducible rfl)
            try simp only [Act.put, List.setIfInBounds_toArray, List.set_cons_zero, List.set_cons_succ]
            obtain ⟨⟨e0, e1, e2⟩, ef⟩ := id G8_4.out
            have q0 := ef 0
            have q1 := ef 1
            have q2 := ef 2
            have h_HC : X3 (((v4.setCell ⟨v1.heap.size, 0, none⟩ (.slice a2 m d2)).setCell ⟨v1.heap.size, 1, none⟩ (.int .i64 T)).setCell ⟨v1.heap.size, 2, none⟩ (.int .i64 Y)) w.heap.size (.slice ao n c) (.int .i64 t) (.int .i64 y) := (((HC_4.out.other (by omega)).other (by omega)).other (by omega))
            have h_HS : X2 (((v4.setCell ⟨v1.heap.size, 0, none⟩ (.slice a2 m d2)).setCell ⟨v1.heap.size, 1, none⟩ (.int .i64 T)).setCell ⟨v1.heap.size, 2, none⟩ (.int .i64 Y)) (w.heap.size + 1) (.int .i64 k) (.string s) := (((HS_4.out.other (by omega)).other (by omega)).other (by omega))
            have h_HR : X3 (((v4.setCell ⟨v1.heap.size, 0, none⟩ (.slice a2 m d2)).setCell ⟨v1.heap.size, 1, none⟩ (.int .i64 T)).setCell ⟨v1.heap.size, 2, none⟩ (.int .i64 Y)) (w.heap.size + 2) (.slice none 0 0) (.int .i64 0) (.int .i64 0) := (((HR_4.out.other (by omega)).other (by omega)).other (by omega))
            have h_HE : X3 (((v4.setCell ⟨v1.heap.size, 0, none⟩ (.slice a2 m d2)).setCell ⟨v1.heap.size, 1, none⟩ (.int .i64 T)).setCell ⟨v1.heap.size, 2, none⟩ (.int .i64 Y)) (w.heap.size + 3) (.int .i64 0) (.int .i64 0) (.int .i64 0) := (((HE_4.out.other (by omega)).other (by omega)).other (by omega))
            have h_HQ : QOk (((v4.setCell ⟨v1.heap.size, 0, none⟩ (.slice a2 m d2)).setCell ⟨v1.heap.size, 1, none⟩ (.int .i64 T)).setCell ⟨v1.heap.size, 2, none⟩ (.int .i64 Y)) ao n c xs := qok_put3 HQ_4.out G8_4.out (by simp) (by simp) (by simp)
            have h_HB : Below w1.heap.size w1 (((v4.setCell ⟨v1.heap.size, 0, none⟩ (.slice a2 m d2)).setCell ⟨v1.heap.size, 1, none⟩ (.int .i64 T)).setCell ⟨v1.heap.size, 2, none⟩ (.int .i64 Y)) := (((HB_4.out.setCell (by dsimp only; omega) _).setCell (by dsimp only; omega) _).setCell (by dsimp only; omega) _)
            have h_G9 : X3 (((v4.setCell ⟨v1.heap.size, 0, none⟩ (.slice a2 m d2)).setCell ⟨v1.heap.size, 1, none⟩ (.int .i64 T)).setCell ⟨v1.heap.size, 2, none⟩ (.int .i64 Y)) v0.heap.size (.int .i64 0) (.int .i64 0) (.int .i64 0) := (((G9_4.out.other (by omega)).other (by omega)).other (by omega))
            have h_G8 : X3 (((v4.setCell ⟨v1.heap.size, 0, none⟩ (.slice a2 m d2)).setCell ⟨v1.heap.size, 1, none⟩ (.int .i64 T)).setCell ⟨v1.heap.size, 2, none⟩ (.int .i64 Y)) v1.heap.size (.slice a2 m d2) (.int .i64 T) (.int .i64 Y) := (((G8_4.out.set0 _).set1 _).set2 _)
            have h_QQ : QOk (((v4.setCell ⟨v1.heap.size, 0, none⟩ (.slice a2 m d2)).setCell ⟨v1.heap.size, 1, none⟩ (.int .i64 T)).setCell ⟨v1.heap.size, 2, none⟩ (.int .i64 Y)) a2 m d2 Q := qok_put3 QQ_4.out G8_4.out (by simp) (by simp) (by simp)
            refine wpAnyH_ready (rs := [11]) (by kernel_rfl) (by simp) ?_
            refine AllReadyH.cons (o := _) rfl (fun K hK => ?_) AllReadyH.nil
            go_simp
            refine hK.out _ _ ?_ (fun hHeld => ?_)
            · exact ⟨h_HC.1.1, h_HC.1.2.1, h_HC.1.2.2, h_HS.1.1, h_HS.1.2⟩
            clear hK K
            try simp only [Act.put, List.setIfInBounds_toArray, List.set_cons_zero, List.set_cons_succ]
            generalize (((v4.setCell ⟨v1.heap.size, 0, none⟩ (.slice a2 m d2)).setCell ⟨v1.heap.size, 1, none⟩ (.int .i64 T)).setCell ⟨v1.heap.size, 2, none⟩ (.int .i64 Y)) = v5 at hHeld h_HC h_HS h_HR h_HE h_HQ h_HB h_G9 h_G8 h_QQ ⊢
            have HC_5 : Hid (X3 v5 w.heap.size (.slice ao n c) (.int .i64 t) (.int .i64 y)) := h_HC
            have HS_5 : Hid (X2 v5 (w.heap.size + 1) (.int .i64 k) (.string s)) := h_HS
            have HR_5 : Hid (X3 v5 (w.heap.size + 2) (.slice none 0 0) (.int .i64 0) (.int .i64 0)) := h_HR
            have HE_5 : Hid (X3 v5 (w.heap.size + 3) (.int .i64 0) (.int .i64 0) (.int .i64 0)) := h_HE
            have HQ_5 : Hid (QOk v5 ao n c xs) := h_HQ
            have HB_5 : Hid (Below w1.heap.size w1 v5) := h_HB
            have G9_5 : Hid (X3 v5 v0.heap.size (.int .i64 0) (.int .i64 0) (.int .i64 0)) := h_G9
            have G8_5 : Hid (X3 v5 v1.heap.size (.slice a2 m d2) (.int .i64 T) (.int .i64 Y)) := h_G8
            have QQ_5 : Hid (QOk v5 a2 m d2 Q) := h_QQ
            clear ef e0 q0 e1 q1 e2 q2 h_HC h_HS h_HR h_HE h_HQ h_HB h_G9 h_G8 h_QQ HC_4 HS_4 HR_4 HE_4 HQ_4 HB_4 G9_4 G8_4 OO_4 QQ_4
            obtain ⟨⟨e0, e1, e2⟩, ef⟩ := id G9_5.out
            have q0 := ef 0
            have q1 := ef 1
            have q2 := ef 2
            have h_HC : X3 (((v5.setCell ⟨v0.heap.size, 0, none⟩ (.int .i64 e0r)).setCell ⟨v0.heap.size, 1, none⟩ (.int .i64 e1r)).setCell ⟨v0.heap.size, 2, none⟩ (.int .i64 e2r)) w.heap.size (.slice ao n c) (.int .i64 t) (.int .i64 y) := (((HC_5.out.other (by omega)).other (by omega)).other (by omega))
            have h_HS : X2 (((v5.setCell ⟨v0.heap.size, 0, none⟩ (.int .i64 e0r)).setCell ⟨v0.heap.size, 1, none⟩ (.int .i64 e1r)).setCell ⟨v0.heap.size, 2, none⟩ (.int .i64 e2r)) (w.heap.size + 1) (.int .i64 k) (.string s) := (((HS_5.out.other (by omega)).other (by omega)).other (by omega))
            have h_HR : X3 (((v5.setCell ⟨v0.heap.size, 0, none⟩ (.int .i64 e0r)).setCell ⟨v0.heap.size, 1, none⟩ (.int .i64 e1r)).setCell ⟨v0.heap.size, 2, none⟩ (.int .i64 e2r)) (w.heap.size + 2) (.slice none 0 0) (.int .i64 0) (.int .i64 0) := (((HR_5.out.other (by omega)).other (by omega)).other (by omega))
            have h_HE : X3 (((v5.setCell ⟨v0.heap.size, 0, none⟩ (.int .i64 e0r)).setCell ⟨v0.heap.size, 1, none⟩ (.int .i64 e1r)).setCell ⟨v0.heap.size, 2, none⟩ (.int .i64 e2r)) (w.heap.size + 3) (.int .i64 0) (.int .i64 0) (.int .i64 0) := (((HE_5.out.other (by omega)).other (by omega)).other (by omega))
            have h_HQ : QOk (((v5.setCell ⟨v0.heap.size, 0, none⟩ (.int .i64 e0r)).setCell ⟨v0.heap.size, 1, none⟩ (.int .i64 e1r)).setCell ⟨v0.heap.size, 2, none⟩ (.int .i64 e2r)) ao n c xs := qok_put3 HQ_5.out G9_5.out (by simp) (by simp) (by simp)
            have h_HB : Below w1.heap.size w1 (((v5.setCell ⟨v0.heap.size, 0, none⟩ (.int .i64 e0r)).setCell ⟨v0.heap.size, 1, none⟩ (.int .i64 e1r)).setCell ⟨v0.heap.size, 2, none⟩ (.int .i64 e2r)) := (((HB_5.out.setCell (by dsimp only; omega) _).setCell (by dsimp only; omega) _).setCell (by dsimp only; omega) _)
            have h_G9 : X3 (((v5.setCell ⟨v0.heap.size, 0, none⟩ (.int .i64 e0r)).setCell ⟨v0.heap.size, 1, none⟩ (.int .i64 e1r)).setCell ⟨v0.heap.size, 2, none⟩ (.int .i64 e2r)) v0.heap.size (.int .i64 e0r) (.int .i64 e1r) (.int .i64 e2r) := (((G9_5.out.set0 _).set1 _).set2 _)
            have h_G8 : X3 (((v5.setCell ⟨v0.heap.size, 0, none⟩ (.int .i64 e0r)).setCell ⟨v0.heap.size, 1, none⟩ (.int .i64 e1r)).setCell ⟨v0.heap.size, 2, none⟩ (.int .i64 e2r)) v1.heap.size (.slice a2 m d2) (.int .i64 T) (.int .i64 Y) := (((G8_5.out.other (by omega)).other (by omega)).other (by omega))
            have h_QQ : QOk (((v5.setCell ⟨v0.heap.size, 0, none⟩ (.int .i64 e0r)).setCell ⟨v0.heap.size, 1, none⟩ (.int .i64 e1r)).setCell ⟨v0.heap.size, 2, none⟩ (.int .i64 e2r)) a2 m d2 Q := qok_put3 QQ_5.out G9_5.out (by simp) (by simp) (by simp)
            refine wpAnyH_ready (rs := [12]) (by kernel_rfl) (by simp) ?_
            refine AllReadyH.cons (o := _) rfl (fun K hK => ?_) AllReadyH.nil
            go_simp
            refine hK.out _ _ ?_ (fun hHeld => ?_)
            · exact ⟨h_HC.1.1, h_HC.1.2.1, h_HC.1.2.2, h_HS.1.1, h_HS.1.2⟩
            clear hK K
            try simp only [Act.put, List.setIfInBounds_toArray, List.set_cons_zero, List.set_cons_succ]
            generalize (((v5.setCell ⟨v0.heap.size, 0, none⟩ (.int .i64 e0r)).setCell ⟨v0.heap.size, 1, none⟩ (.int .i64 e1r)).setCell ⟨v0.heap.size, 2, none⟩ (.int .i64 e2r)) = v6 at hHeld h_HC h_HS h_HR h_HE h_HQ h_HB h_G9 h_G8 h_QQ ⊢
            have HC_6 : Hid (X3 v6 w.heap.size (.slice ao n c) (.int .i64 t) (.int .i64 y)) := h_HC
            have HS_6 : Hid (X2 v6 (w.heap.size + 1) (.int .i64 k) (.string s)) := h_HS
            have HR_6 : Hid (X3 v6 (w.heap.size + 2) (.slice none 0 0) (.int .i64 0) (.int .i64 0)) := h_HR
            have HE_6 : Hid (X3 v6 (w.heap.size + 3) (.int .i64 0) (.int .i64 0) (.int .i64 0)) := h_HE
            have HQ_6 : Hid (QOk v6 ao n c xs) := h_HQ
            have HB_6 : Hid (Below w1.heap.size w1 v6) := h_HB
            have G9_6 : Hid (X3 v6 v0.heap.size (.int .i64 e0r) (.int .i64 e1r) (.int .i64 e2r)) := h_G9
            have G8_6 : Hid (X3 v6 v1.heap.size (.slice a2 m d2) (.int .i64 T) (.int .i64 Y)) := h_G8
            have QQ_6 : Hid (QOk v6 a2 m d2 Q) := h_QQ
            clear ef e0 q0 e1 q1 e2 q2 h_HC h_HS h_HR h_HE h_HQ h_HB h_G9 h_G8 h_QQ HC_5 HS_5 HR_5 HE_5 HQ_5 HB_5 G9_5 G8_5 QQ_5
            refine take10 (i := 13) (oi := _) (v := ?_) (d := some 10) rfl (by kernel_rfl) (by kernel_rfl) (by kernel_rfl) (by kernel_rfl) (fun _ _ _ h => h) (Or.inl ⟨by rfl, ?_⟩) (by assumption) ?_
            rotate_left
            · (intro w hSw; (try dsimp only at hSw); go_simp <;> with_reducible rfl)
            try simp only [Act.put, List.setIfInBounds_toArray, List.set_cons_zero, List.set_cons_succ]
            refine take10 (i := 14) (oi := _) (v := ?_) (d := some 11) rfl (by kernel_rfl) (by kernel_rfl) (by kernel_rfl) (by kernel_rfl) (fun _ _ _ h => h) (Or.inl ⟨by rfl, ?_⟩) (by assumption) ?_
            rotate_left
            · (intro w hSw; (try dsimp only at hSw); go_simp <;> with_reducible rfl)
            try simp only [Act.put, List.setIfInBounds_toArray, List.set_cons_zero, List.set_cons_succ]
            refine wpAnyH_done (by kernel_rfl) ?_ _
            go_wp2_with fail
            go_meet
            exact ⟨a2, d2, v1.heap.size, v0.heap.size, rfl, rfl, rfl, rfl, G8_6.out, G9_6.out, HR_6.out, HE_6.out, QQ_6.out, HB_6.out, by omega, by omega⟩
  case rest =>
    obtain ⟨a2, d2, g8, g9, rfl, rfl, rfl, rfl, h8, h9, hr, he, hqq, hbb, hz8, hz9⟩ := hcut
    obtain ⟨V, rfl⟩ : ∃ V : World, V = wc := ⟨_, rfl⟩
    have HB9 : Hid (Below w.heap.size w V) := HB1.out.trans (hbb.mono HB1.out.size)
    obtain ⟨⟨r0, r1, r2⟩, rf⟩ := id (hr)
    have rf0 := rf 0
    have rf1 := rf 1
    have rf2 := rf 2
    clear rf
    obtain ⟨⟨m0, m1, m2⟩, mf⟩ := id (he)
    have mf0 := mf 0
    have mf1 := mf 1
    have mf2 := mf 2
    clear mf
    clear h8 h9 hr he hqq hbb qO qL
    go_wp2
    refine bodyPost_ret (v := .tuple #[.agg #[.slice none 0 0, .int .i64 0, .int .i64 0], .agg #[.int .i64 0, .int .i64 0, .int .i64 0], .string ByteArray.empty, .bool false]) (by simp [results, Try.results31, go_sem, r0, r1, r2, m0, m1, m2]; try rfl) rfl ?_
    exact ⟨rfl, by
      repeat (refine Below.setCell ?_ (by dsimp only; omega) _)
      exact HB9.out⟩

theorem specStep_c (ao : Option Addr) (n c : Nat) (t y k : Int) (s : ByteArray) (xs : List ByteArray) (w : World) (hn : n ≤ 17592186044416) (hq : QOk w ao n c xs) (hz : ∀ s ∈ xs, s.size ≤ 9223372036854775807) (hs : s.size ≤ 9223372036854775807) (r : StV) (hr : stepF xs t y k s = r) (m : Nat) (hm : r.q.length = m) :
    Calls Try.prog 31 #[.agg #[.slice ao n c, .int .i64 t, .int .i64 y], .agg #[.int .i64 k, .string s]] w fun e w' => ∃ a' c', e = .returned (.tuple #[.agg #[.slice a' m c', .int .i64 r.t, .int .i64 r.y], .agg #[.int .i64 r.e0, .int .i64 r.e1, .int .i64 r.e2], .string r.s, .bool r.ok]) ∧ OwnS w' w.heap.size (.slice a' m c') r.q ∧ Below w.heap.size w w' := by
  unfold stepF at hr
  have hend : zeroSt = r → ∀ e w', e = Ending.returned (.tuple #[.agg #[.slice none 0 0, .int .i64 0, .int .i64 0], .agg #[.int .i64 0, .int .i64 0, .int .i64 0], .string ByteArray.empty, .bool false]) ∧ Below w.heap.size w w' → ∃ a' c', e = Ending.returned (.tuple #[.agg #[.slice a' m c', .int .i64 r.t, .int .i64 r.y], .agg #[.int .i64 r.e0, .int .i64 r.e1, .int .i64 r.e2], .string r.s, .bool r.ok]) ∧ OwnS w' w.heap.size (.slice a' m c') r.q ∧ Below w.heap.size w w' := fun hr e w' h => by
    subst hr
    have hm' : m = 0 := by rw [← hm]; rfl
    subst hm'
    exact ⟨none, 0, h.1, OwnS.nilq _ _, h.2⟩
  cases hg : goodC xs t y with
  | false =>
    rw [if_neg (by rw [hg]; simp)] at hr
    exact (specStep_bad ao n c t y k s xs w hn hq hz hs hg).mono (hend hr)
  | true =>
    rw [if_pos hg] at hr
    cases hok : (stepV xs t y k s).ok with
    | true =>
      have h := specStep_ok ao n c t y k s xs w hn hq hz hs hg hok
      rw [lstep_ok.2 hok, hr, hm] at h
      rw [hr] at hok
      rw [hok]
      exact h
    | false =>
      have e0 : stepV xs t y k s = zeroSt := by
        by_cases h1 : sayOk xs k s = true
        · rw [stepV_say h1] at hok; cases hok
        · by_cases h2 : tickOk t k s = true
          · rw [stepV_tick h1 h2] at hok; cases hok
          · exact stepV_no h1 h2
      exact (specStep_no ao n c t y k s xs w hn hq hz hs hg hok).mono (hend (e0.symm.trans hr))

end Go.Proofs.Yteopaocomfepfaa
