/- Chapter 9: RunSwitches of both sides, with all that is refused. -/
import Derived.Test.YtlepejafednlfaaWR9
namespace Go.Proofs.Ytlepejafednlfaa
set_option linter.unusedVariables false
set_option maxRecDepth 1000000
set_option linter.unusedSimpArgs false
open Go.RowKit

theorem OwnS_len : ∀ (m : Int) (s : List Bool) (l : List ByteArray) (q : Nat), portsB m = true → l.length = q → (q : Int) = m → (runL (if m = 8 then 3 else if m = 4 then 2 else if m = 2 then 1 else 0) s l).length = q := by
  intro m s l q hp hl hq
  have hm : m = 1 ∨ m = 2 ∨ m = 4 ∨ m = 8 := by simpa [portsB] using hp
  rcases hm with rfl | rfl | rfl | rfl
  · rw [show (if (1 : Int) = 8 then 3 else if (1 : Int) = 4 then 2 else if (1 : Int) = 2 then 1 else 0) = 0 by decide, runL_length 0 s l (by simp; omega)]; omega
  · rw [show (if (2 : Int) = 8 then 3 else if (2 : Int) = 4 then 2 else if (2 : Int) = 2 then 1 else 0) = 1 by decide, runL_length 1 s l (by simp; omega)]; omega
  · rw [show (if (4 : Int) = 8 then 3 else if (4 : Int) = 4 then 2 else if (4 : Int) = 2 then 1 else 0) = 2 by decide, runL_length 2 s l (by simp; omega)]; omega
  · rw [show (if (8 : Int) = 8 then 3 else if (8 : Int) = 4 then 2 else if (8 : Int) = 2 then 1 else 0) = 3 by decide, runL_length 3 s l (by simp; omega)]; omega
theorem OwnB.cap9 {w : World} {base n c : Nat} {ao : Option Addr} {xs : List Bool} (h : OwnB w base (.slice ao n c) xs) : n ≤ c ∧ c ≤ maxLen := by
  have hl := h.rd'.1
  rcases h.form with ⟨e, _⟩ | ⟨g, cap, e, _, _, h1, h2⟩
  · simp only [Value.slice.injEq] at e
    obtain ⟨_, rfl, rfl⟩ := e
    exact ⟨Nat.le_refl _, Nat.zero_le _⟩
  · simp only [Value.slice.injEq] at e
    obtain ⟨_, h3, h4⟩ := e
    exact ⟨by omega, by omega⟩

set_option maxHeartbeats 4000000 in
theorem specRunS_c (m : Int) (ao : Option Addr) (n c : Nat) (bo : Option Addr) (q e : Nat) (s : List Bool) (l : List ByteArray) (w : World) (hs : s.length = n) (hl : l.length = q) (hn : n ≤ 17592186044416) (hq : q ≤ 17592186044416) (hc : n ≤ c ∧ c ≤ maxLen) (hr : RdB w ao s) (ht : RdS w bo l) (hz : ∀ x ∈ l, x.size ≤ 1048576) (zs : List ByteArray) (fb : Bool) (p : Nat) (hF : runF m s l = (zs, fb)) (hp : zs.length = p) :
    Calls Try.prog 24 #[.int .i64 m, .slice ao n c, .slice bo q e] w fun en w' => ∃ a' c', en = .returned (.tuple #[.slice a' p c', .bool fb]) ∧ OwnS w' w.heap.size (.slice a' p c') zs ∧ Below w.heap.size w w' := by
  have hnil : ∀ w' : World, OwnS w' w.heap.size (.slice none 0 0) [] := fun w' => World.ownsRow_nil _ _ _ _
  unfold runF at hF
  rw [hs, hl] at hF
  have qP := l9Ports_c m w
  by_cases hp1 : portsB m = true
  · rw [hp1] at qP
    have qC := l9Count_c m hp1 w
    by_cases hq1 : (q : Int) = m
    · have k2 : ((q : Int) != m) = false := by rw [hq1]; simp
      by_cases hn1 : (n : Int) = cntI m
      · have k3 : ((n : Int) != cntI m) = false := by rw [hn1]; simp
        rw [if_pos ⟨hp1, hn1, hq1⟩] at hF
        simp only [Prod.mk.injEq] at hF
        obtain ⟨rfl, rfl⟩ := hF
        have qR := specRun_go m ao n c bo q e s l w hp1 hs hl hn1 hq1 hc hr ht
        have hpq : p = q := by rw [← hp]; have := OwnS_len; exact this m s l q hp1 hl hq1
        subst hpq
        generalize cntI m = cm at qC k3
        change Calls _ _ _ _ (fun en w' => ∃ a' c', en = .returned (.tuple #[.slice a' p c', .bool true]) ∧ OwnS w' w.heap.size (.slice a' p c') (runL (depthI m) s l) ∧ Below w.heap.size w w')
        generalize runL (depthI m) s l = R at qR ⊢
        clear hr ht hz hs hl hp hp1 hn1 hq1 hnil
        go_enter Try.func24, Try.ntmps24
        go_wp2_with fail
        refine qP.mono ?_
        clear qP
        rintro e w' ⟨rfl, hw⟩
        subst w'
        go_wp2_with fail
        refine qC.mono ?_
        clear qC
        rintro e w' ⟨rfl, hw⟩
        subst w'
        go_wp2_with fail
        refine qR.mono ?_
        clear qR
        rintro en w1 ⟨a', c', rfl, ho, hb⟩
        have HO : Hid (OwnS w1 w.heap.size (.slice a' p c') R) := ho
        have HB : Hid (Below w.heap.size w w1) := hb
        clear ho hb
        go_wp2
        refine bodyPost_ret (v := .tuple #[.slice a' p c', .bool true]) (by simp [results, Try.results24, go_sem]; try rfl) rfl ?_
        exact ⟨a', c', rfl, HO.out, HB.out⟩
      · have k3 : ((n : Int) != cntI m) = true := by rw [bne_iff_ne]; exact hn1
        rw [if_neg (fun h => hn1 h.2.1)] at hF
        simp only [Prod.mk.injEq] at hF
        obtain ⟨rfl, rfl⟩ := hF
        simp at hp
        subst hp
        have HN : Hid (∀ w' : World, OwnS w' w.heap.size (.slice none 0 0) []) := hnil
        generalize cntI m = cm at qC k3
        clear hr ht hz hs hl hp1 hn1 hq1 hnil
        go_enter Try.func24, Try.ntmps24
        go_wp2_with fail
        refine qP.mono ?_
        clear qP
        rintro e w' ⟨rfl, hw⟩
        subst w'
        go_wp2_with fail
        refine qC.mono ?_
        clear qC
        rintro e w' ⟨rfl, hw⟩
        subst w'
        go_wp2
        refine bodyPost_ret (v := .tuple #[.slice none 0 0, .bool false]) (by simp [results, Try.results24, go_sem]; try rfl) rfl ?_
        exact ⟨none, 0, rfl, HN.out _, Below.refl _ _⟩
    · have k2 : ((q : Int) != m) = true := by rw [bne_iff_ne]; exact hq1
      rw [if_neg (fun h => hq1 h.2.2)] at hF
      simp only [Prod.mk.injEq] at hF
      obtain ⟨rfl, rfl⟩ := hF
      simp at hp
      subst hp
      have HN : Hid (∀ w' : World, OwnS w' w.heap.size (.slice none 0 0) []) := hnil
      clear hr ht hz hs hl hp1 hq1 hnil qC
      go_enter Try.func24, Try.ntmps24
      go_wp2_with fail
      refine qP.mono ?_
      clear qP
      rintro e w' ⟨rfl, hw⟩
      subst w'
      go_wp2
      refine bodyPost_ret (v := .tuple #[.slice none 0 0, .bool false]) (by simp [results, Try.results24, go_sem]; try rfl) rfl ?_
      exact ⟨none, 0, rfl, HN.out _, Below.refl _ _⟩
  · rw [if_neg (fun h => hp1 h.1)] at hF
    rw [Bool.eq_false_iff.2 hp1] at qP
    simp only [Prod.mk.injEq] at hF
    obtain ⟨rfl, rfl⟩ := hF
    simp at hp
    subst hp
    have HN : Hid (∀ w' : World, OwnS w' w.heap.size (.slice none 0 0) []) := hnil
    clear hr ht hz hs hl hp1 hnil
    go_enter Try.func24, Try.ntmps24
    go_wp2_with fail
    refine qP.mono ?_
    clear qP
    rintro e w' ⟨rfl, hw⟩
    subst w'
    go_wp2
    refine bodyPost_ret (v := .tuple #[.slice none 0 0, .bool false]) (by simp [results, Try.results24, go_sem]; try rfl) rfl ?_
    exact ⟨none, 0, rfl, HN.out _, Below.refl _ _⟩

set_option maxHeartbeats 4000000 in
theorem implRunS_c (m : Int) (ao : Option Addr) (n c : Nat) (bo : Option Addr) (q e : Nat) (s : List Bool) (l : List ByteArray) (w : World) (hs : s.length = n) (hl : l.length = q) (hn : n ≤ 17592186044416) (hq : q ≤ 17592186044416) (hc : n ≤ c ∧ c ≤ maxLen) (hr : RdB w ao s) (ht : RdS w bo l) (hz : ∀ x ∈ l, x.size ≤ 1048576) (zs : List ByteArray) (fb : Bool) (p : Nat) (hF : runF m s l = (zs, fb)) (hp : zs.length = p) :
    Calls Try.prog 20 #[.int .i64 m, .slice ao n c, .slice bo q e] w fun en w' => ∃ a' c', en = .returned (.tuple #[.slice a' p c', .bool fb]) ∧ OwnS w' w.heap.size (.slice a' p c') zs ∧ Below w.heap.size w w' := by
  have hnil : ∀ w' : World, OwnS w' w.heap.size (.slice none 0 0) [] := fun w' => World.ownsRow_nil _ _ _ _
  unfold runF at hF
  rw [hs, hl] at hF
  by_cases hp1 : portsB m = true
  · have qC := implCount_c m w (cntI m) true (by unfold countF; rw [if_pos hp1])
    by_cases hn1 : (n : Int) = cntI m
    · have k3 : ((n : Int) != cntI m) = false := by rw [hn1]; simp
      by_cases hq1 : (q : Int) = m
      · have k2 : ((q : Int) != m) = false := by rw [hq1]; simp
        rw [if_pos ⟨hp1, hn1, hq1⟩] at hF
        simp only [Prod.mk.injEq] at hF
        obtain ⟨rfl, rfl⟩ := hF
        obtain ⟨v, qS, qT⟩ := implRun_go m ao n c q s l w hp1 hs hl hn1 hq1 hc hr
        have hq8 : q ≤ 1048576 := by
          have hm : m = 1 ∨ m = 2 ∨ m = 4 ∨ m = 8 := by simpa [portsB] using hp1
          omega
        have HQE : Hid (∀ wx, Below w.heap.size w wx → Calls Try.prog 71 #[.slice bo q e, .func (.func 68) #[] #[]] wx fun en w' => ∃ a' c', en = .returned (.slice a' q c') ∧ OwnS w' wx.heap.size (.slice a' q c') l ∧ Below wx.heap.size wx w') := fun wx hb => each9_c bo q e l wx hl hq8 (ht.later hb) hz
        have HQT : Hid (∀ (wx : World) (B : Nat) (bo : Option Addr) (e : Nat), Below w.heap.size w wx → B ≤ wx.heap.size → OwnS wx B (.slice bo q e) l → Calls Try.prog 69 #[v, .slice bo q e] wx fun en w' => ∃ a' c', en = .returned (.slice a' q c') ∧ OwnS w' B (.slice a' q c') (runL (depthI m) s l) ∧ Below wx.heap.size wx w') := qT
        have hpq : p = q := by rw [← hp]; have := OwnS_len; exact this m s l q hp1 hl hq1
        subst hpq
        change Calls _ _ _ _ (fun en w' => ∃ a' c', en = .returned (.tuple #[.slice a' p c', .bool true]) ∧ OwnS w' w.heap.size (.slice a' p c') (runL (depthI m) s l) ∧ Below w.heap.size w w')
        generalize runL (depthI m) s l = R at HQT ⊢
        generalize cntI m = cm at qC k3
        clear hr ht hz hs hl hp hp1 hn1 hq1 hnil qT hq8
        go_enter Try.func20, Try.ntmps20
        go_wp2_with fail
        refine qC.mono ?_
        clear qC
        rintro e w' ⟨rfl, hw⟩
        subst w'
        go_wp2_with fail
        refine qS.mono ?_
        clear qS
        rintro e1 w1 ⟨rfl, k, hw⟩
        have HB1 : Hid (Below w.heap.size w w1) := by show Below _ _ _; rw [hw]; exact below_drewN (Below.refl _ _) _
        clear hw
        go_wp2_with fail
        refine (HQE.out _ HB1.out).mono ?_
        rintro e2 w2 ⟨a2, c2, rfl, ho2, hb2⟩
        have HB2 : Hid (Below w.heap.size w w2) := HB1.out.trans (hb2.mono HB1.out.size)
        have HO2 : Hid (OwnS w2 w1.heap.size (.slice a2 p c2) l) := ho2
        have hz2 : w1.heap.size ≤ w2.heap.size := hb2.size
        have hz1 : w.heap.size ≤ w1.heap.size := HB1.out.size
        clear ho2 hb2 HQE HB1
        go_wp2_with fail
        refine (HQT.out w2 w1.heap.size a2 c2 HB2.out hz2 HO2.out).mono ?_
        rintro e3 w3 ⟨a', c', rfl, ho, hb⟩
        have HO : Hid (OwnS w3 w.heap.size (.slice a' p c') R) := ho.mono hz1
        have HB : Hid (Below w.heap.size w w3) := HB2.out.trans (hb.mono HB2.out.size)
        clear ho hb HQT HO2 HB2
        go_wp2
        refine bodyPost_ret (v := .tuple #[.slice a' p c', .bool true]) (by simp [results, Try.results20, go_sem]; try rfl) rfl ?_
        exact ⟨a', c', rfl, HO.out, HB.out⟩
      · have k2 : ((q : Int) != m) = true := by rw [bne_iff_ne]; exact hq1
        rw [if_neg (fun h => hq1 h.2.2)] at hF
        simp only [Prod.mk.injEq] at hF
        obtain ⟨rfl, rfl⟩ := hF
        simp at hp
        subst hp
        have HN : Hid (∀ w' : World, OwnS w' w.heap.size (.slice none 0 0) []) := hnil
        generalize cntI m = cm at qC k3
        clear hr ht hz hs hl hnil hp1 hn1 hq1
        go_enter Try.func20, Try.ntmps20
        go_wp2_with fail
        refine qC.mono ?_
        clear qC
        rintro e w' ⟨rfl, hw⟩
        subst w'
        go_wp2
        refine bodyPost_ret (v := .tuple #[.slice none 0 0, .bool false]) (by simp [results, Try.results20, go_sem]; try rfl) rfl ?_
        exact ⟨none, 0, rfl, HN.out _, Below.refl _ _⟩
    · have k3 : ((n : Int) != cntI m) = true := by rw [bne_iff_ne]; exact hn1
      rw [if_neg (fun h => hn1 h.2.1)] at hF
      simp only [Prod.mk.injEq] at hF
      obtain ⟨rfl, rfl⟩ := hF
      simp at hp
      subst hp
      have HN : Hid (∀ w' : World, OwnS w' w.heap.size (.slice none 0 0) []) := hnil
      generalize cntI m = cm at qC k3
      clear hr ht hz hs hl hnil hp1 hn1
      go_enter Try.func20, Try.ntmps20
      go_wp2_with fail
      refine qC.mono ?_
      clear qC
      rintro e w' ⟨rfl, hw⟩
      subst w'
      go_wp2
      refine bodyPost_ret (v := .tuple #[.slice none 0 0, .bool false]) (by simp [results, Try.results20, go_sem]; try rfl) rfl ?_
      exact ⟨none, 0, rfl, HN.out _, Below.refl _ _⟩
  · have qC := implCount_c m w 0 false (by unfold countF; rw [if_neg hp1])
    rw [if_neg (fun h => hp1 h.1)] at hF
    simp only [Prod.mk.injEq] at hF
    obtain ⟨rfl, rfl⟩ := hF
    simp at hp
    subst hp
    have HN : Hid (∀ w' : World, OwnS w' w.heap.size (.slice none 0 0) []) := hnil
    skip
    clear hr ht hz hs hl hnil hp1
    go_enter Try.func20, Try.ntmps20
    go_wp2_with fail
    refine qC.mono ?_
    clear qC
    rintro e w' ⟨rfl, hw⟩
    subst w'
    go_wp2
    refine bodyPost_ret (v := .tuple #[.slice none 0 0, .bool false]) (by simp [results, Try.results20, go_sem]; try rfl) rfl ?_
    exact ⟨none, 0, rfl, HN.out _, Below.refl _ _⟩

end Go.Proofs.Ytlepejafednlfaa
