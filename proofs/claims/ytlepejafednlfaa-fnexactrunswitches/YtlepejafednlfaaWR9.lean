/- Chapter 9: RunSwitches of both sides, whole. -/
import Derived.Test.YtlepejafednlfaaTS9
import Derived.Test.YtlepejafednlfaaLS9
import Derived.Test.YtlepejafednlfaaCL9
namespace Go.Proofs.Ytlepejafednlfaa
set_option linter.unusedVariables false
set_option maxRecDepth 1000000
set_option linter.unusedSimpArgs false
open Go.RowKit

set_option maxHeartbeats 2000000 in
theorem each9_c (ao : Option Addr) (n c : Nat) (xs : List ByteArray) (w : World) (hx : xs.length = n) (hn : n ≤ 1048576) (hr : RdS w ao xs) (hs : ∀ s ∈ xs, s.size ≤ 1048576) :
    Calls Try.prog 71 #[.slice ao n c, .func (.func 68) #[] #[]] w fun e w' => ∃ a' c', e = .returned (.slice a' n c') ∧ OwnS w' w.heap.size (.slice a' n c') xs ∧ Below w.heap.size w w' := by
  obtain ⟨i0, hi, hz0, hz1, hz2⟩ := info_parts Try.infoStr
  have HX : Hid (xs.length = n) := hx
  have HR : Hid (RdS w ao xs) := hr
  have HZ : Hid (∀ s ∈ xs, s.size ≤ 1048576) := hs
  clear hx hr hs
  go_enter Try.func71, Try.ntmps71
  go_wp2
  go_loopw [5, 10] (fun v i wr => ∃ k : Nat, k ≤ n ∧ i = .int .i64 k ∧ Hid (OwnS wr w.heap.size v (xs.take k)) ∧ Hid (Below w.heap.size w wr)) (fun _ i _ => n - (intOf i).toNat)
  case atStart => exact ⟨0, Nat.zero_le _, rfl, World.ownsRow_nil _ _ _ _, Below.refl _ _⟩
  case round =>
    obtain ⟨k, hk, rfl, hO, hB⟩ := hrel
    by_cases hlt : k < n
    · have hkl : k < xs.length := by rw [HX.out]; exact hlt
      obtain ⟨b, o, rfl, g1⟩ := (HR.out.later hB.out).get9 hkl
      have hzk := HZ.out _ (getD_mem9 ByteArray.empty hkl)
      have HT : Hid (xs.take (k + 1) = xs.take k ++ [xs.getD k ByteArray.empty]) := take_snoc9 ByteArray.empty hkl
      have hlen : (xs.take k).length = k := by rw [List.length_take]; omega
      generalize xs.getD k ByteArray.empty = x0 at g1 hzk HT
      have HL : Hid ((xs.take k).length = k) := hlen
      have qw := strClone9_c x0 wr hzk
      generalize xs.take k = out at hO HL HT
      clear hlen hkl hzk
      go_wp2_with fail
      refine qw.mono ?_
      clear qw
      rintro e w1 ⟨rfl, hb⟩
      have HO1 : Hid (OwnS w1 w.heap.size u5 out) := hO.out.later hb
      have HB1 : Hid (Below w.heap.size w w1) := hB.out.trans (hb.mono hB.out.size)
      clear hb hO hB
      have hob : ∀ k', u5.ownBlock = some k' → w.heap.size ≤ k' := own_block_geS HO1.out
      have hown : w1.ownsRow w.heap.size 9 1 u5 k (cellsS out) := by have h := HO1.out; unfold OwnS at h; rw [HL.out] at h; exact h
      go_wp2_with (at_builtin; refine wpList_append_own _ rfl _ _ 29 rfl w.heap.size 9 i0 (.string ByteArray.empty) 1 16 Try.underlying29 hi hz0 hz1 hz2 rfl (by decide) _ _ _ rfl (hown.alloc _) ⟨w1.heap.size, 0, none⟩ 1 1 [.string x0] rfl rfl (cell_new1 _ _ _) (strs_oneCell [x0]) (by unfold maxLen; omega) (by omega) (by have := HB1.out.size; simp; omega) ?_; intro v' w2 hown' hgrow _; have HO' : Hid (OwnS w2 w.heap.size v' (out ++ [x0])) := own_pushS (w := w1) (v := u5) (by simpa [HL.out] using hown'); have HB' : Hid (Below w.heap.size w w2) := (HB1.out.alloc HB1.out.size _).grown hgrow (by have := HB1.out.size; simp; omega) (fun k' e => hob k' e); clear hown' hgrow)
      go_roundw
      case rel => exact ⟨k + 1, by omega, by go_num, by show OwnS _ _ _ _; rw [HT.out]; exact HO'.out, HB'⟩
      case measure => simp [intOf]; omega
    · obtain rfl : k = n := by omega
      rw [List.take_of_length_le (by rw [HX.out]; exact Nat.le_refl _)] at hO
      obtain ⟨a', c', hv⟩ := hO.out.shape
      rw [HX.out] at hv
      subst hv
      go_wp2
      go_ret
      exact ⟨a', c', rfl, hO.out, hB.out⟩


def depthI (m : Int) : Nat := if m = 8 then 3 else if m = 4 then 2 else if m = 2 then 1 else 0

set_option maxHeartbeats 2000000 in
theorem through_step (d H N : Nat) (hH : 2 ^ (d + 1) = H) (hN : cntD (d + 1) = N) (hHN : HN H N) (ih : ThOk H N (d + 1)) : ThOk (2 * H) (2 * H + 2 * N) (d + 2) := by
  intro b o c s bo e l w hb hl hr
  have h1 := as96_94
  have h2 := as96_96
  obtain ⟨t1, x1, hv1⟩ := swV_iface (d + 1) b (o + H) (c - H) ((s.drop H).take N)
  obtain ⟨t2, x2, hv2⟩ := swV_iface (d + 1) b (o + (H + N)) (c - (H + N)) ((s.drop (H + N)).take N)
  have HQ : Hid (∀ wz, Below w.heap.size w wz → Calls Try.prog 100 #[.agg #[.slice (some ⟨b, o, none⟩) H c, .iface t1 x1, .iface t2 x2, .slice (some ⟨b, o + (H + 2 * N), none⟩) H (c - (H + 2 * N))], .slice bo (2 * H) e] wz fun en w' => ∃ a' c', en = .returned (.slice a' (2 * H) c') ∧ OwnS w' wz.heap.size (.slice a' (2 * H) c') (runL (d + 2) s l) ∧ Below wz.heap.size wz w') := fun wz hz => rows_through d H N hH hN hHN ih b o c s bo e l wz t1 t2 x1 x2 hv1 hv2 (hb.later hz) hl (hr.later hz)
  rw [swV, hH, hN, hv1, hv2]
  generalize o + (H + 2 * N) = ox at HQ ⊢
  generalize c - (H + 2 * N) = cx at HQ ⊢
  generalize runL (d + 2) s l = R at HQ ⊢
  generalize 2 * H = M at HQ ⊢
  obtain ⟨W1, hW1⟩ : ∃ W1, w.alloc (.cells #[.slice (some ⟨b, o, none⟩) H c, .iface t1 x1, .iface t2 x2, .slice (some ⟨b, ox, none⟩) H cx] 96) = W1 := ⟨_, rfl⟩
  have HB1 : Hid (Below w.heap.size w W1) := by show Below _ _ _; rw [← hW1]; exact balloc w _
  have c0 : W1.cell? ⟨w.heap.size, 0, none⟩ = some (.slice (some ⟨b, o, none⟩) H c) := by rw [← hW1]; simp
  have c1 : W1.cell? ⟨w.heap.size, 1, none⟩ = some (.iface t1 x1) := by rw [← hW1]; simp
  have c2 : W1.cell? ⟨w.heap.size, 2, none⟩ = some (.iface t2 x2) := by rw [← hW1]; simp
  have c3 : W1.cell? ⟨w.heap.size, 3, none⟩ = some (.slice (some ⟨b, ox, none⟩) H cx) := by rw [← hW1]; simp
  clear hb hl hr ih hH hN hHN hv1 hv2
  go_enter Try.func69, Try.ntmps69
  go_wp2_with fail
  refine (HQ.out _ HB1.out).mono ?_
  rintro en w2 ⟨a', c', rfl, ho, hb2⟩
  have HO : Hid (OwnS w2 w.heap.size (.slice a' M c') R) := ho.mono HB1.out.size
  have HB2 : Hid (Below w.heap.size w w2) := HB1.out.trans (hb2.mono HB1.out.size)
  clear ho hb2 HQ HB1 hW1 c0 c1 c2 c3
  go_wp2
  go_ret
  exact ⟨a', c', rfl, HO.out, HB2.out⟩

theorem run4 : RunOk 4 6 2 := l9Run_step 0 2 1 rfl rfl (Or.inl ⟨rfl, rfl⟩) l9Run_2
theorem run8 : RunOk 8 20 3 := l9Run_step 1 4 6 rfl rfl (Or.inr ⟨rfl, rfl⟩) run4
theorem sw4 : SwOk 4 6 2 := switchesOf_step 0 2 1 rfl rfl (Or.inl ⟨rfl, rfl⟩) switchesOf_2
theorem sw8 : SwOk 8 20 3 := switchesOf_step 1 4 6 rfl rfl (Or.inr ⟨rfl, rfl⟩) sw4
theorem th4 : ThOk 4 6 2 := through_step 0 2 1 rfl rfl (Or.inl ⟨rfl, rfl⟩) through_2
theorem th8 : ThOk 8 20 3 := through_step 1 4 6 rfl rfl (Or.inr ⟨rfl, rfl⟩) th4

theorem specRun_go (m : Int) (ao : Option Addr) (n c : Nat) (bo : Option Addr) (q e : Nat) (s : List Bool) (l : List ByteArray) (w : World) (hp : portsB m = true) (hs : s.length = n) (hl : l.length = q) (hn : (n : Int) = cntI m) (hq : (q : Int) = m) (hc : n ≤ c ∧ c ≤ maxLen) (hr : RdB w ao s) (ht : RdS w bo l) :
    Calls Try.prog 77 #[.slice ao n c, .slice bo q e] w fun en w' => ∃ a' c', en = .returned (.slice a' q c') ∧ OwnS w' w.heap.size (.slice a' q c') (runL (depthI m) s l) ∧ Below w.heap.size w w' := by
  have hm : m = 1 ∨ m = 2 ∨ m = 4 ∨ m = 8 := by simpa [portsB] using hp
  rcases hm with rfl | rfl | rfl | rfl
  · obtain rfl : q = 1 := by omega
    obtain rfl : n = 0 := by have : cntI 1 = 0 := rfl; omega
    exact l9Run_1 ao c bo e l w hl ht
  · obtain rfl : q = 2 := by omega
    obtain rfl : n = 1 := by have : cntI 2 = 1 := rfl; omega
    obtain ⟨b, o, rfl, hb⟩ := hr.bits hs (by omega)
    exact l9Run_2 b o c bo e s l w hb hc.1 hc.2 hl ht
  · obtain rfl : q = 4 := by omega
    obtain rfl : n = 6 := by have : cntI 4 = 6 := rfl; omega
    obtain ⟨b, o, rfl, hb⟩ := hr.bits hs (by omega)
    exact run4 b o c bo e s l w hb hc.1 hc.2 hl ht
  · obtain rfl : q = 8 := by omega
    obtain rfl : n = 20 := by have : cntI 8 = 20 := rfl; omega
    obtain ⟨b, o, rfl, hb⟩ := hr.bits hs (by omega)
    exact run8 b o c bo e s l w hb hc.1 hc.2 hl ht

/-- The switches made, and texts through them. -/
theorem implRun_go (m : Int) (ao : Option Addr) (n c : Nat) (q : Nat) (s : List Bool) (l : List ByteArray) (w : World) (hp : portsB m = true) (hs : s.length = n) (hl : l.length = q) (hn : (n : Int) = cntI m) (hq : (q : Int) = m) (hc : n ≤ c ∧ c ≤ maxLen) (hr : RdB w ao s) :
    ∃ v, Calls Try.prog 70 #[.int .i64 m, .slice ao n c] w (fun en w' => en = .returned v ∧ ∃ k, w' = w.drewN k) ∧ ∀ (wx : World) (B : Nat) (bo : Option Addr) (e : Nat), Below w.heap.size w wx → B ≤ wx.heap.size → OwnS wx B (.slice bo q e) l →
      Calls Try.prog 69 #[v, .slice bo q e] wx fun en w' => ∃ a' c', en = .returned (.slice a' q c') ∧ OwnS w' B (.slice a' q c') (runL (depthI m) s l) ∧ Below wx.heap.size wx w' := by
  have hm : m = 1 ∨ m = 2 ∨ m = 4 ∨ m = 8 := by simpa [portsB] using hp
  rcases hm with rfl | rfl | rfl | rfl
  · obtain rfl : q = 1 := by omega
    obtain rfl : n = 0 := by have : cntI 1 = 0 := rfl; omega
    refine ⟨swV 0 0 0 0 s, (switchesOf_1 ao c s w).mono fun en w' ⟨h1, h2⟩ => ⟨h1, 0, h2⟩, fun wx B bo e hb hB ho => ?_⟩
    refine (through_1 s bo 1 e wx).mono ?_
    rintro en w' ⟨rfl, hw⟩
    subst w'
    exact ⟨bo, e, rfl, ho, Below.refl _ _⟩
  · obtain rfl : q = 2 := by omega
    obtain rfl : n = 1 := by have : cntI 2 = 1 := rfl; omega
    obtain ⟨b, o, rfl, hbt⟩ := hr.bits hs (by omega)
    refine ⟨_, switchesOf_2 b o c s w hbt hc.1 hc.2, fun wx B bo e hb hB ho => ?_⟩
    refine (through_2 b o c s bo e l wx (hbt.later hb) hl ho.rd'.2).mono ?_
    rintro en w' ⟨a', c', rfl, h1, h2⟩
    exact ⟨a', c', rfl, h1.mono hB, h2⟩
  · obtain rfl : q = 4 := by omega
    obtain rfl : n = 6 := by have : cntI 4 = 6 := rfl; omega
    obtain ⟨b, o, rfl, hbt⟩ := hr.bits hs (by omega)
    refine ⟨_, sw4 b o c s w hbt hc.1 hc.2, fun wx B bo e hb hB ho => ?_⟩
    refine (th4 b o c s bo e l wx (hbt.later hb) hl ho.rd'.2).mono ?_
    rintro en w' ⟨a', c', rfl, h1, h2⟩
    exact ⟨a', c', rfl, h1.mono hB, h2⟩
  · obtain rfl : q = 8 := by omega
    obtain rfl : n = 20 := by have : cntI 8 = 20 := rfl; omega
    obtain ⟨b, o, rfl, hbt⟩ := hr.bits hs (by omega)
    refine ⟨_, sw8 b o c s w hbt hc.1 hc.2, fun wx B bo e hb hB ho => ?_⟩
    refine (th8 b o c s bo e l wx (hbt.later hb) hl ho.rd'.2).mono ?_
    rintro en w' ⟨a', c', rfl, h1, h2⟩
    exact ⟨a', c', rfl, h1.mono hB, h2⟩

end Go.Proofs.Ytlepejafednlfaa
