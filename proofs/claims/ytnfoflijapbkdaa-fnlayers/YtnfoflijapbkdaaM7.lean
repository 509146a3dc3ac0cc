/- Chapter 7, the program: a layer put on and taken off. -/
import Derived.Test.YtnfoflijapbkdaaL7
namespace Go.Proofs.Ytnfoflijapbkdaa
set_option linter.unusedVariables false
set_option maxRecDepth 1000000
set_option linter.unusedSimpArgs false
open Go.RowKit

theorem padF_24 {k : Int} (hk : blockB k = true) : padF k 24 = (padK k 24, true) := by
  unfold padF padG
  rw [hk]
  rfl

set_option maxHeartbeats 1000000 in
theorem turnByPad_c (g c : Nat) (k : Int) (l : Bs) (w : World) (hl : l.length = 24) (hk : blockB k = true) (hr : RowB w g l) :
    Calls Try.prog 72 #[.slice (some ⟨g, 0, none⟩) 24 c, .int .i64 k] w fun e w' => e = .returned (.tuple #[]) ∧ RowB w' g (xorB l (padU k)) ∧ w.grownBy w' (some g) := by
  have HP : Hid (∀ wx, Calls Try.prog 33 #[.int .i64 k, .int .i64 24] wx fun e w' => e = .returned (.tuple #[.string (padK k 24), .bool true]) ∧ Below wx.heap.size wx w') := fun wx => implPadFor_c k 24 wx _ _ (padF_24 hk)
  have HT : Hid (∀ wx, RowB wx g l → Calls Try.prog 67 #[.slice (some ⟨g, 0, none⟩) 24 c, .string (padK k 24)] wx fun e w' => e = .returned (.tuple #[]) ∧ RowB w' g (xorB l (padU k)) ∧ wx.grownBy w' (some g)) := fun wx h => turnBy_c g 24 c (padK k 24) l wx hl (padK_size hk (by omega) (by omega)) (by omega) h
  have HR : Hid (RowB w g l) := hr
  generalize xorB l (padU k) = z at HT ⊢
  generalize padK k 24 = t at HT HP
  clear hr hl hk
  go_enter Try.func72, Try.ntmps72
  go_wp2_with fail
  refine (HP.out _).mono ?_
  rintro e w1 ⟨rfl, hb⟩
  have HR1 : Hid (RowB w1 g l) := HR.out.later hb
  have HG1 : Hid (w.grownBy w1 (some g)) := grown_below hb
  clear hb HP HR
  go_wp2_with fail
  refine (HT.out _ HR1.out).mono ?_
  rintro e w2 ⟨rfl, hr, hg⟩
  have HR2 : Hid (RowB w2 g z) := hr
  have HG2 : Hid (w.grownBy w2 (some g)) := grown_trans HG1.out hg
  clear hr hg HT HR1 HG1
  go_wp2
  go_end0
  exact ⟨rfl, HR2.out, HG2.out⟩

theorem RowB.src {w : World} {g o n : Nat} {l m : Bs} (h : RowB w g l) (hm : (l.drop o).take n = m) (hn : o + n ≤ l.length) : ∀ j v, (cellsB m)[j]? = some v → w.cell? ((⟨g, o, none⟩ : Addr).add j) = some v := by
  intro j v hj
  have hl : m.length = n := by rw [← hm, List.length_take, List.length_drop]; omega
  have hjl : j < m.length := by have := (List.getElem?_eq_some_iff.1 hj).1; rwa [cellsB_length] at this
  rw [Go.WideShapes.add_plain, h.cellsAt hm hn j (by omega)]
  rw [cellsB_get m j hjl] at hj
  exact hj
/-- A copy within a row: all is read before anything is written. -/
theorem RowB.copied {w : World} {g : Nat} {l m : Bs} (h : RowB w g l) (o p n dn dc sn sc : Nat) (hm : (l.drop p).take n = m) (hp : p + n ≤ l.length) (ho : o + n ≤ l.length) (hmin : n = Nat.min sn dn) :
    ∀ ty, (Builtin.copy_ #[22, 22] ty #[.slice (some ⟨g, o, none⟩) dn dc, .slice (some ⟨g, p, none⟩) sn sc]).run Try.prog w = .ok (goInt n) (w.setCells g o (cellsB m)) := by
  intro ty
  have hl : m.length = n := by rw [← hm, List.length_take, List.length_drop]; omega
  have hinfo : (Try.prog.info? 5).map (·.size) = some 1 := by kernel_rfl
  have := run_copy_cells (P := Try.prog) w 22 22 ty 5 g o dn dc ⟨g, p, none⟩ sn sc (cellsB m) Try.underlying22 hinfo (by rw [cellsB_length, hl]; exact hmin) (h.src hm hp)
    (fun j hj => by rw [cellsB_length, hl] at hj; rw [h.1 _ (by omega)]; rfl) (fun j hj => by rw [cellsB_length, hl] at hj; exact h.2 _ (by omega)) (cellsB_oneCell m)
  rw [this, cellsB_length, hl]
theorem byte_of {n : Nat} (h : n < 256) : (UInt8.ofNat n).toNat = n := by rw [UInt8.toNat_ofNat']; omega

theorem put_rows (l : Bs) (hl : l.length = 24) (a b : UInt8) : ((overB l 2 (l.take 22)).set 0 a).set 1 b = a :: b :: l.take 22 := by
  match l, hl with
  | x :: y :: r, hl =>
    have hr : r.length = 22 := by simpa using hl
    unfold overB
    simp only [List.take_succ_cons, List.take_zero, List.length_cons, List.length_take, List.drop_succ_cons]
    rw [List.drop_of_length_le (by omega)]
    simp
theorem put_check (l : Bs) (hl : l.length = 24) (a : UInt8) : (((overB l 2 (l.take 22)).set 0 a).drop 2).take 16 = l.take 16 := by
  have h := congrArg (List.drop 2) (put_rows l hl a 0)
  rw [List.drop_set_of_lt (by omega)] at h
  rw [h]
  show ((l.take 22)).take 16 = _
  rw [List.take_take]
  rfl

set_option maxHeartbeats 2000000 in
theorem putLayer_c (g c H : Nat) (k : Int) (l : Bs) (w : World) (hl : l.length = 24) (hc : 24 ≤ c) (hk : blockB k = true) (hH : H ≤ 250) (hr : RowB w g l) :
    Calls Try.prog 49 #[.slice (some ⟨g, 0, none⟩) 24 c, .int .i64 k, .int .i64 H] w fun e w' => e = .returned (.tuple #[]) ∧ RowB w' g (putB (padU k) (UInt8.ofNat H) l) ∧ w.grownBy w' (some g) := by
  have hcp := hr.copied (m := l.take 22) 2 0 22 22 (c - 2) 24 c (by rw [List.drop_zero]) (by omega) (by omega) (by rfl)
  have h22 : (l.take 22).length = 22 := by rw [List.length_take]; omega
  have hr1 := hr.sets (o := 2) (m := l.take 22) (by omega)
  have hl1 : (overB l 2 (l.take 22)).length = 24 := by rw [overB_length (by omega), hl]
  have hg1 := grown_setCells g (cellsB (l.take 22)) 2 w
  generalize w.setCells g 2 (cellsB (l.take 22)) = W1 at hcp hr1 hg1
  have a1 := hr1.1 0 (by omega)
  have a2 := hr1.2 0 (by omega)
  have hr2 := hr1.set (k := 0) (by omega) (UInt8.ofNat H)
  have hl2 : ((overB l 2 (l.take 22)).set 0 (UInt8.ofNat H)).length = 24 := by rw [List.length_set, hl1]
  rw [byte_of (by omega)] at hr2
  have hg2 := grown_trans hg1 (grown_setCell W1 g 0 (.int .u8 (H : Int)))
  have hH1 : (H : Int) % 256 = (H : Int) := by omega
  have HCK : Hid (∀ wx, wx = W1.setCell ⟨g, 0, none⟩ (.int .u8 (H : Int)) → Calls Try.prog 59 #[.slice (some ⟨g, 2, none⟩) 16 16] wx fun e w' => e = .returned (.int .i64 (chk (l.take 16) : Nat)) ∧ w' = wx) := fun wx e => by
    subst e
    exact checkSum_c g 2 16 16 (l.take 16) _ (by rw [List.length_take]; omega) (by omega) (hr2.cellsAt (put_check l hl _) (by omega))
  have b1 := hr2.1 1 (by omega)
  have b2 := hr2.2 1 (by omega)
  have hC := chk_lt (l.take 16)
  have hC1 : ((chk (l.take 16) : Nat) : Int) % 256 = (chk (l.take 16) : Nat) := by omega
  have hr3 := hr2.set (k := 1) (by omega) (UInt8.ofNat (chk (l.take 16)))
  rw [byte_of (by omega), put_rows l hl] at hr3
  have hg3 := grown_trans hg2 (grown_setCell _ g 1 (.int .u8 ((chk (l.take 16) : Nat) : Int)))
  have hl3 : (UInt8.ofNat H :: UInt8.ofNat (chk (l.take 16)) :: l.take 22).length = 24 := by simp [hl]
  have HTP := turnByPad_c g c k _ _ hl3 hk hr3
  rw [show xorB (UInt8.ofNat H :: UInt8.ofNat (chk (l.take 16)) :: l.take 22) (padU k) = putB (padU k) (UInt8.ofNat H) l from rfl] at HTP
  generalize putB (padU k) (UInt8.ofNat H) l = z at HTP ⊢
  generalize chk (l.take 16) = C at HCK hC hC1 HTP hg3
  have HT : Hid (∀ wx, wx = (W1.setCell ⟨g, 0, none⟩ (.int .u8 (H : Int))).setCell ⟨g, 1, none⟩ (.int .u8 (C : Int)) → Calls Try.prog 72 #[.slice (some ⟨g, 0, none⟩) 24 c, .int .i64 k] wx fun e w' => e = .returned (.tuple #[]) ∧ RowB w' g z ∧ wx.grownBy w' (some g)) := fun wx e => by subst e; exact HTP
  have HG : Hid (w.grownBy ((W1.setCell ⟨g, 0, none⟩ (.int .u8 (H : Int))).setCell ⟨g, 1, none⟩ (.int .u8 (C : Int))) (some g)) := hg3
  generalize bN (overB l 2 (l.take 22)) 0 = q0 at a1
  generalize bN ((overB l 2 (l.take 22)).set 0 (UInt8.ofNat H)) 1 = q1 at b1
  have HPB : Hid (∀ wx, Calls Try.prog 58 #[.slice (some ⟨g, 2, none⟩) 22 (c - 2)] wx fun e w' => e = .returned (.slice (some ⟨g, 2, none⟩) 16 16) ∧ w' = wx) := fun wx => placeOfBody_c g 2 22 (c - 2) wx (by omega) (by omega)
  have n2 : ¬ c = 2 := by omega
  have n3 : ¬ c - 2 = 0 := by omega
  have n4 : (24 : Int) ≤ (c : Int) := by omega
  clear hr hr1 hr2 hr3 hg1 hg2 hg3 HTP hl hl1 hl2 hl3 h22 hk
  go_enter Try.func49, Try.ntmps49
  go_wp2_with fail
  refine (HPB.out _).mono ?_
  rintro e w1 ⟨rfl, hw⟩
  subst w1
  clear HPB
  go_wp2_with fail
  refine (HCK.out _ rfl).mono ?_
  rintro e w1 ⟨rfl, hw⟩
  subst w1
  clear HCK
  go_wp2_with fail
  refine (HT.out _ rfl).mono ?_
  rintro e w2 ⟨rfl, hr, hg⟩
  have HR2 : Hid (RowB w2 g z) := hr
  have HG2 : Hid (w.grownBy w2 (some g)) := grown_trans HG.out hg
  clear hr hg HT HG
  go_wp2
  go_end0
  exact ⟨rfl, HR2.out, HG2.out⟩

theorem take_rows (t : Bs) (ht : t.length = 24) : overB (overB t 0 (t.drop 2)) 22 [0, 0] = t.drop 2 ++ [0, 0] := by
  match t, ht with
  | x :: y :: r, ht =>
    have hr : r.length = 22 := by simpa using ht
    unfold overB
    simp only [List.drop_succ_cons, List.drop_zero, List.take_zero, List.nil_append, Nat.zero_add, List.length_cons, List.length_nil]
    rw [List.take_append_of_le_length (by omega), List.take_of_length_le (by omega), hr]
    rw [List.drop_of_length_le (by simp [hr])]
    simp

set_option maxHeartbeats 2000000 in
theorem takeLayer_c (g c : Nat) (k : Int) (l : Bs) (w : World) (hl : l.length = 24) (hc : 24 ≤ c) (hk : blockB k = true) (hr : RowB w g l) :
    Calls Try.prog 57 #[.slice (some ⟨g, 0, none⟩) 24 c, .int .i64 k] w fun e w' => e = .returned (.tuple #[.int .i64 (bN (xorB l (padU k)) 0 : Nat), .int .i64 (bN (xorB l (padU k)) 1 : Nat)]) ∧ RowB w' g ((xorB l (padU k)).drop 2 ++ [0, 0]) ∧ w.grownBy w' (some g) := by
  have HTP : Hid (∀ wx, wx = w → Calls Try.prog 72 #[.slice (some ⟨g, 0, none⟩) 24 c, .int .i64 k] wx fun e w' => e = .returned (.tuple #[]) ∧ RowB w' g (xorB l (padU k)) ∧ wx.grownBy w' (some g)) := fun wx e => by subst e; exact turnByPad_c g c k l wx hl hk hr
  have ht : (xorB l (padU k)).length = 24 := by rw [xorB_length (by rw [hl, padU_length hk]), hl]
  have HTL : Hid ((xorB l (padU k)).length = 24) := ht
  generalize xorB l (padU k) = t at HTP HTL ⊢
  have n2 : ¬ c = 2 := by omega
  have n22 : ¬ c = 22 := by omega
  have n3 : ¬ c - 2 = 0 := by omega
  have n4 : (24 : Int) ≤ (c : Int) := by omega
  have n5 : (22 : Int) ≤ (c : Int) := by omega
  clear hl hk hr ht
  go_enter Try.func57, Try.ntmps57
  go_wp2_with fail
  refine (HTP.out _ rfl).mono ?_
  rintro e V ⟨rfl, hr, hg⟩
  have ht := HTL.out
  have hq0 := bN_lt t 0
  have hq1 := bN_lt t 1
  have a1 := hr.1 0 (by omega)
  have b1 := hr.1 1 (by omega)
  have HR : Hid (RowB V g t) := hr
  have HG : Hid (w.grownBy V (some g)) := hg
  obtain ⟨q0, hq⟩ : ∃ q, bN t 0 = q := ⟨_, rfl⟩
  obtain ⟨q1, hq'⟩ : ∃ q, bN t 1 = q := ⟨_, rfl⟩
  rw [hq] at a1 hq0
  rw [hq'] at b1 hq1
  have HQ0 : Hid (bN t 0 = q0) := hq
  have HQ1 : Hid (bN t 1 = q1) := hq'
  clear hr hg HTP ht hq hq'
  go_wp2
  go_quiet (fail)
  have hru : RowB (V.drewN nq) g t := HR.out.later (below_drewN (Below.refl _ _) nq)
  have hgu : w.grownBy (V.drewN nq) (some g) := grown_trans HG.out (grown_below (below_drewN (Below.refl _ _) nq))
  generalize V.drewN nq = U at hru hgu ⊢
  have ht := HTL.out
  have hcp := hru.copied (m := t.drop 2) 0 2 22 24 c 22 (c - 2) (List.take_of_length_le (by rw [List.length_drop]; omega)) (by omega) (by omega) (by rfl)
  have h22 : (t.drop 2).length = 22 := by rw [List.length_drop]; omega
  have hr1 := hru.sets (o := 0) (m := t.drop 2) (by omega)
  have hl1 : (overB t 0 (t.drop 2)).length = 24 := by rw [overB_length (by omega), ht]
  have hg1 := grown_trans hgu (grown_setCells g (cellsB (t.drop 2)) 0 U)
  generalize U.setCells g 0 (cellsB (t.drop 2)) = U1 at hcp hr1 hg1
  have hcl : ∀ ty cc, (Builtin.clear_ #[22] ty #[.slice (some ⟨g, 22, none⟩) 2 cc]).run Try.prog U1 = .ok (.tuple #[]) (U1.setCells g 22 (cellsB [0, 0])) := fun ty cc =>
    Lib.run_clear_slice (P := Try.prog) U1 22 5 ty (.int .u8 0) Try.underlying22 (fun w => by kernel_rfl) rfl rfl g 22 2 cc (by omega) (fun j hj => by rw [hr1.1 _ (by omega)]; rfl) (fun j hj => hr1.2 _ (by omega))
  have hr2 := hr1.sets (o := 22) (m := [0, 0]) (by rw [hl1]; decide)
  rw [take_rows t ht] at hr2
  have hg2 := grown_trans hg1 (grown_setCells g (cellsB [0, 0]) 22 U1)
  generalize U1.setCells g 22 (cellsB [0, 0]) = U2 at hcl hr2 hg2
  have HR2 : Hid (RowB U2 g (t.drop 2 ++ [0, 0])) := hr2
  have HG2 : Hid (w.grownBy U2 (some g)) := hg2
  clear HR HG hru hgu ht h22 hr1 hl1 hg1 hr2 hg2 a1 b1
  go_wp2
  refine bodyPost_ret (v := .tuple #[.int .i64 (q0 : Int), .int .i64 (q1 : Int)]) (by simp [results, Try.results57, go_sem]; try rfl) rfl ?_
  exact ⟨by rw [HQ0.out, HQ1.out], HR2.out, HG2.out⟩

end Go.Proofs.Ytnfoflijapbkdaa
