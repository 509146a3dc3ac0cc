/- The law FnHalves, walked: true at every two texts. -/
import Derived.Test.YtaedplfihjfchaaD1Ch
import Derived.Test.YtaedplfihjfchaaFH1Ph
import Derived.Test.YtaedplfihjfchaaSM1h
import Derived.Test.YtaedplfihjfchaaRelHalfh
import Derived.Test.YtaedplfihjfchaaRelTimesh
import Derived.Test.YtaedplfihjfchaaRelDivh
import Derived.Test.YtaedplfihjfchaaImplShifth
namespace Go.Proofs.Ytaedplfihjfchaa
set_option linter.unusedVariables false
set_option maxRecDepth 1000000
set_option linter.unusedSimpArgs false
open Go.RowKit

theorem sameBig_t {ao bo : Option Addr} {n c d : Nat} {xs : List Int} (w : World) (hx : xs.length = n) (hn : n ≤ 100) (hr : Rd w ao xs) (hs : Rd w bo xs) :
    Calls Try.prog 9 #[.agg #[.slice ao n c], .agg #[.slice bo n d]] w fun e w' => e = .returned (.bool true) ∧ Below w.heap.size w w' := by
  have h := sameBig_c ao bo n n c d xs xs w hx hx (by omega) (by omega) hr hs
  simpa using h

theorem shiftF_less {xs zs : List Int} {b : Int} {fb : Bool} (h : shiftF xs b = (zs, fb)) : zs.length ≤ 6 := by
  unfold shiftF at h
  split at h
  · rename_i hg
    have hx : goodB xs = true := by simp at hg; exact hg.1
    have v0 := val_nonneg (goodB_digs hx).2.1
    refine tellF_short ?_ h
    unfold shV
    split
    · exact Int.mul_nonneg v0 (Int.le_of_lt (Int.pow_pos (by omega)))
    · exact Int.ediv_nonneg v0 (Int.le_of_lt (Int.pow_pos (by omega)))
  · simp only [Prod.mk.injEq] at h; rw [← h.1]; simp

theorem keepC {w w' : World} {a : Addr} {v : Value} (hb : Below w.heap.size w w') (h : w.cell? a = some v) : w'.cell? a = some v := by
  rw [hb.cell (p := a) (World.block_lt_of_cell? _ _ h)]; exact h

set_option maxHeartbeats 16000000 in
set_option maxRecDepth 1000000 in
theorem lawFnHalves_c (ao : Option Addr) (n c : Nat) (bo : Option Addr) (m d : Nat) (w : World) (hn : n ≤ 9223372036854775807) (hm : m ≤ 9223372036854775807) (h1 : CodeOk w w.heap.size ao n) (h2 : CodeOk w w.heap.size bo m) :
    Calls Try.prog 3 #[.slice ao n c, .slice bo m d] w fun e w' => e = .returned (.bool true) ∧ Below w.heap.size w w' := by
  by_cases hl : 1048576 < wrap64 ((n : Int) + (m : Int))
  · clear h1 h2
    go_enter Try.func3, Try.ntmps3
    go_wp2
    go_ret
    exact ⟨rfl, Below.refl _ _⟩
  have HN : Hid (CodeOk w w.heap.size ao n) := h1
  have HM : Hid (CodeOk w w.heap.size bo m) := h2
  have HB : Hid (Below w.heap.size w w) := Below.refl _ _
  clear h1 h2
  go_enter Try.func3, Try.ntmps3
  go_wp2_with fail
  refine (drawHalves_c ao n c _ hn (HN.out.later HB.out HB.out.size)).mono ?_
  rintro e y1 ⟨⟨aA, qA, cA, xa, aB, qB, cB, xb, rfl, hqA, hqB, hlA, hlB, ho1, ho2⟩, hbb⟩
  have LNA : Hid (xa.length = qA) := hlA
  have LNB : Hid (xb.length = qB) := hlB
  obtain ⟨z2, hz2⟩ : ∃ x, ((y1.alloc (Obj.cells #[Value.slice aA qA cA] 25)).alloc (Obj.cells #[Value.slice aB qB cB] 25)) = x := ⟨_, rfl⟩
  have hnz2 : Below y1.heap.size y1 z2 := by rw [← hz2]; exact below_two _ _ _
  have hbz2 : Below w.heap.size w z2 := hbb.trans (hnz2.mono hbb.size)
  have hszz2 : w.heap.size ≤ y1.heap.size := Nat.le_trans HB.out.size hbb.size
  have hsO : w.heap.size ≤ w.heap.size := HB.out.size
  replace HB : Hid (Below w.heap.size w z2) := HB.out.trans (hbz2.mono HB.out.size)
  have kA : z2.cell? ⟨y1.heap.size, 0, none⟩ = some (.slice aA qA cA) := by rw [← hz2]; exact calloc (cnew _ _ _)
  have OA : Hid (Own z2 w.heap.size (.slice aA qA cA) xa) := (ho1.mono hsO).later hnz2
  have kB : z2.cell? ⟨y1.heap.size + 1, 0, none⟩ = some (.slice aB qB cB) := by rw [← hz2]; simp
  have OB : Hid (Own z2 w.heap.size (.slice aB qB cB) xb) := (ho2.mono hsO).later hnz2
  clear hnz2 hbz2 hsO
  clear ho1 ho2 hbb hlA hlB
  clear hl
  obtain ⟨zh, fh, hF⟩ : ∃ z b, halfF xa xb = (z, b) := ⟨_, _, rfl⟩
  have HFh : Hid (halfF xa xb = (zh, fh)) := hF
  obtain ⟨ph, hp⟩ : ∃ p, zh.length = p := ⟨_, rfl⟩
  have HPph : Hid (zh.length = ph) := hp
  have hp6ph : ph ≤ 6 := by rw [← hp]; exact halfF_short hF
  clear hF hp
  obtain ⟨zt, ft, hF⟩ : ∃ z b, timesF xa xb = (z, b) := ⟨_, _, rfl⟩
  have HFt : Hid (timesF xa xb = (zt, ft)) := hF
  obtain ⟨pt, hp⟩ : ∃ p, zt.length = p := ⟨_, rfl⟩
  have HPpt : Hid (zt.length = pt) := hp
  have hp6pt : pt ≤ 6 := by rw [← hp]; exact timesF_short hF
  clear hF hp
  have e1 : (fh != fh) = false := by simp
  have e2 : (ft != ft) = false := by simp
  go_wp2_with fail
  clear hz2
  refine (implHalf_c aA aB qA qB cA cB xa xb _ LNA.out LNB.out (by omega) (by omega) OA.out.rd'.2 OB.out.rd'.2 zh fh ph HFh.out HPph.out).mono ?_
  rintro e y3 ⟨aH, cH, rfl, ho, hbb⟩
  obtain ⟨z4, hz4⟩ : ∃ x, (y3.alloc (Obj.cells #[Value.slice aH ph cH] 25)) = x := ⟨_, rfl⟩
  have hnz4 : Below y3.heap.size y3 z4 := by rw [← hz4]; exact balloc _ _
  have hbz4 : Below z2.heap.size z2 z4 := hbb.trans (hnz4.mono hbb.size)
  have hszz4 : w.heap.size ≤ y3.heap.size := Nat.le_trans HB.out.size hbb.size
  have hsO : w.heap.size ≤ z2.heap.size := HB.out.size
  replace kA : z4.cell? ⟨y1.heap.size, 0, none⟩ = some (.slice aA qA cA) := keepC hbz4 kA
  replace OA : Hid (Own z4 w.heap.size (.slice aA qA cA) xa) := OA.out.later hbz4
  replace kB : z4.cell? ⟨y1.heap.size + 1, 0, none⟩ = some (.slice aB qB cB) := keepC hbz4 kB
  replace OB : Hid (Own z4 w.heap.size (.slice aB qB cB) xb) := OB.out.later hbz4
  replace HB : Hid (Below w.heap.size w z4) := HB.out.trans (hbz4.mono HB.out.size)
  have kH : z4.cell? ⟨y3.heap.size, 0, none⟩ = some (.slice aH ph cH) := by rw [← hz4]; exact cnew _ _ _
  have OH : Hid (Own z4 w.heap.size (.slice aH ph cH) zh) := (ho.mono hsO).later hnz4
  clear hnz4 hbz4 hsO
  clear ho hbb
  go_wp2_with fail
  clear hz4
  refine (specHalf_c aA aB qA qB cA cB xa xb _ LNA.out LNB.out (by omega) (by omega) OA.out.rd'.2 OB.out.rd'.2 zh fh ph HFh.out HPph.out).mono ?_
  rintro e y5 ⟨aWA, cWA, rfl, ho, hbb⟩
  obtain ⟨z6, hz6⟩ : ∃ x, (y5.alloc (Obj.cells #[Value.slice aWA ph cWA] 25)) = x := ⟨_, rfl⟩
  have hnz6 : Below y5.heap.size y5 z6 := by rw [← hz6]; exact balloc _ _
  have hbz6 : Below z4.heap.size z4 z6 := hbb.trans (hnz6.mono hbb.size)
  have hszz6 : w.heap.size ≤ y5.heap.size := Nat.le_trans HB.out.size hbb.size
  have hsO : w.heap.size ≤ z4.heap.size := HB.out.size
  replace kA : z6.cell? ⟨y1.heap.size, 0, none⟩ = some (.slice aA qA cA) := keepC hbz6 kA
  replace OA : Hid (Own z6 w.heap.size (.slice aA qA cA) xa) := OA.out.later hbz6
  replace kB : z6.cell? ⟨y1.heap.size + 1, 0, none⟩ = some (.slice aB qB cB) := keepC hbz6 kB
  replace OB : Hid (Own z6 w.heap.size (.slice aB qB cB) xb) := OB.out.later hbz6
  replace kH : z6.cell? ⟨y3.heap.size, 0, none⟩ = some (.slice aH ph cH) := keepC hbz6 kH
  replace OH : Hid (Own z6 w.heap.size (.slice aH ph cH) zh) := OH.out.later hbz6
  replace HB : Hid (Below w.heap.size w z6) := HB.out.trans (hbz6.mono HB.out.size)
  have kWA : z6.cell? ⟨y5.heap.size, 0, none⟩ = some (.slice aWA ph cWA) := by rw [← hz6]; exact cnew _ _ _
  have OWA : Hid (Own z6 w.heap.size (.slice aWA ph cWA) zh) := (ho.mono hsO).later hnz6
  clear hnz6 hbz6 hsO
  clear ho hbb
  go_wp2_with fail
  clear hz6
  refine (implTimes_c aA aB qA qB cA cB xa xb _ LNA.out LNB.out (by omega) (by omega) OA.out.rd'.2 OB.out.rd'.2 zt ft pt HFt.out HPpt.out).mono ?_
  rintro e y7 ⟨aP, cP, rfl, ho, hbb⟩
  obtain ⟨z8, hz8⟩ : ∃ x, (y7.alloc (Obj.cells #[Value.slice aP pt cP] 25)) = x := ⟨_, rfl⟩
  have hnz8 : Below y7.heap.size y7 z8 := by rw [← hz8]; exact balloc _ _
  have hbz8 : Below z6.heap.size z6 z8 := hbb.trans (hnz8.mono hbb.size)
  have hszz8 : w.heap.size ≤ y7.heap.size := Nat.le_trans HB.out.size hbb.size
  have hsO : w.heap.size ≤ z6.heap.size := HB.out.size
  replace kA : z8.cell? ⟨y1.heap.size, 0, none⟩ = some (.slice aA qA cA) := keepC hbz8 kA
  replace OA : Hid (Own z8 w.heap.size (.slice aA qA cA) xa) := OA.out.later hbz8
  replace kB : z8.cell? ⟨y1.heap.size + 1, 0, none⟩ = some (.slice aB qB cB) := keepC hbz8 kB
  replace OB : Hid (Own z8 w.heap.size (.slice aB qB cB) xb) := OB.out.later hbz8
  replace kH : z8.cell? ⟨y3.heap.size, 0, none⟩ = some (.slice aH ph cH) := keepC hbz8 kH
  replace OH : Hid (Own z8 w.heap.size (.slice aH ph cH) zh) := OH.out.later hbz8
  replace kWA : z8.cell? ⟨y5.heap.size, 0, none⟩ = some (.slice aWA ph cWA) := keepC hbz8 kWA
  replace OWA : Hid (Own z8 w.heap.size (.slice aWA ph cWA) zh) := OWA.out.later hbz8
  replace HB : Hid (Below w.heap.size w z8) := HB.out.trans (hbz8.mono HB.out.size)
  have kP : z8.cell? ⟨y7.heap.size, 0, none⟩ = some (.slice aP pt cP) := by rw [← hz8]; exact cnew _ _ _
  have OP : Hid (Own z8 w.heap.size (.slice aP pt cP) zt) := (ho.mono hsO).later hnz8
  clear hnz8 hbz8 hsO
  clear ho hbb
  go_wp2_with fail
  clear hz8
  refine (specTimes_c aA aB qA qB cA cB xa xb _ LNA.out LNB.out (by omega) (by omega) OA.out.rd'.2 OB.out.rd'.2 zt ft pt HFt.out HPpt.out).mono ?_
  rintro e y9 ⟨aPR, cPR, rfl, ho, hbb⟩
  obtain ⟨z10, hz10⟩ : ∃ x, (y9.alloc (Obj.cells #[Value.slice aPR pt cPR] 25)) = x := ⟨_, rfl⟩
  have hnz10 : Below y9.heap.size y9 z10 := by rw [← hz10]; exact balloc _ _
  have hbz10 : Below z8.heap.size z8 z10 := hbb.trans (hnz10.mono hbb.size)
  have hszz10 : w.heap.size ≤ y9.heap.size := Nat.le_trans HB.out.size hbb.size
  have hsO : w.heap.size ≤ z8.heap.size := HB.out.size
  replace kA : z10.cell? ⟨y1.heap.size, 0, none⟩ = some (.slice aA qA cA) := keepC hbz10 kA
  replace OA : Hid (Own z10 w.heap.size (.slice aA qA cA) xa) := OA.out.later hbz10
  replace kB : z10.cell? ⟨y1.heap.size + 1, 0, none⟩ = some (.slice aB qB cB) := keepC hbz10 kB
  replace OB : Hid (Own z10 w.heap.size (.slice aB qB cB) xb) := OB.out.later hbz10
  replace kH : z10.cell? ⟨y3.heap.size, 0, none⟩ = some (.slice aH ph cH) := keepC hbz10 kH
  replace OH : Hid (Own z10 w.heap.size (.slice aH ph cH) zh) := OH.out.later hbz10
  replace kWA : z10.cell? ⟨y5.heap.size, 0, none⟩ = some (.slice aWA ph cWA) := keepC hbz10 kWA
  replace OWA : Hid (Own z10 w.heap.size (.slice aWA ph cWA) zh) := OWA.out.later hbz10
  replace kP : z10.cell? ⟨y7.heap.size, 0, none⟩ = some (.slice aP pt cP) := keepC hbz10 kP
  replace OP : Hid (Own z10 w.heap.size (.slice aP pt cP) zt) := OP.out.later hbz10
  replace HB : Hid (Below w.heap.size w z10) := HB.out.trans (hbz10.mono HB.out.size)
  have kPR : z10.cell? ⟨y9.heap.size, 0, none⟩ = some (.slice aPR pt cPR) := by rw [← hz10]; exact cnew _ _ _
  have OPR : Hid (Own z10 w.heap.size (.slice aPR pt cPR) zt) := (ho.mono hsO).later hnz10
  clear hnz10 hbz10 hsO
  clear ho hbb
  go_wp2_with fail
  clear hz10
  refine (sameBig_t _ HPph.out (by omega) OH.out.rd'.2 OWA.out.rd'.2).mono ?_
  rintro e y11 ⟨rfl, hbb⟩
  replace kA : y11.cell? ⟨y1.heap.size, 0, none⟩ = some (.slice aA qA cA) := keepC hbb kA
  replace OA : Hid (Own y11 w.heap.size (.slice aA qA cA) xa) := OA.out.later hbb
  replace kB : y11.cell? ⟨y1.heap.size + 1, 0, none⟩ = some (.slice aB qB cB) := keepC hbb kB
  replace OB : Hid (Own y11 w.heap.size (.slice aB qB cB) xb) := OB.out.later hbb
  replace kH : y11.cell? ⟨y3.heap.size, 0, none⟩ = some (.slice aH ph cH) := keepC hbb kH
  replace OH : Hid (Own y11 w.heap.size (.slice aH ph cH) zh) := OH.out.later hbb
  replace kWA : y11.cell? ⟨y5.heap.size, 0, none⟩ = some (.slice aWA ph cWA) := keepC hbb kWA
  replace OWA : Hid (Own y11 w.heap.size (.slice aWA ph cWA) zh) := OWA.out.later hbb
  replace kP : y11.cell? ⟨y7.heap.size, 0, none⟩ = some (.slice aP pt cP) := keepC hbb kP
  replace OP : Hid (Own y11 w.heap.size (.slice aP pt cP) zt) := OP.out.later hbb
  replace kPR : y11.cell? ⟨y9.heap.size, 0, none⟩ = some (.slice aPR pt cPR) := keepC hbb kPR
  replace OPR : Hid (Own y11 w.heap.size (.slice aPR pt cPR) zt) := OPR.out.later hbb
  replace HB : Hid (Below w.heap.size w y11) := HB.out.trans (hbb.mono HB.out.size)
  clear hbb
  go_wp2_with fail
  refine (sameBig_t _ HPpt.out (by omega) OP.out.rd'.2 OPR.out.rd'.2).mono ?_
  rintro e y12 ⟨rfl, hbb⟩
  replace kA : y12.cell? ⟨y1.heap.size, 0, none⟩ = some (.slice aA qA cA) := keepC hbb kA
  replace OA : Hid (Own y12 w.heap.size (.slice aA qA cA) xa) := OA.out.later hbb
  replace kB : y12.cell? ⟨y1.heap.size + 1, 0, none⟩ = some (.slice aB qB cB) := keepC hbb kB
  replace OB : Hid (Own y12 w.heap.size (.slice aB qB cB) xb) := OB.out.later hbb
  replace kH : y12.cell? ⟨y3.heap.size, 0, none⟩ = some (.slice aH ph cH) := keepC hbb kH
  replace OH : Hid (Own y12 w.heap.size (.slice aH ph cH) zh) := OH.out.later hbb
  replace kWA : y12.cell? ⟨y5.heap.size, 0, none⟩ = some (.slice aWA ph cWA) := keepC hbb kWA
  replace OWA : Hid (Own y12 w.heap.size (.slice aWA ph cWA) zh) := OWA.out.later hbb
  replace kP : y12.cell? ⟨y7.heap.size, 0, none⟩ = some (.slice aP pt cP) := keepC hbb kP
  replace OP : Hid (Own y12 w.heap.size (.slice aP pt cP) zt) := OP.out.later hbb
  replace kPR : y12.cell? ⟨y9.heap.size, 0, none⟩ = some (.slice aPR pt cPR) := keepC hbb kPR
  replace OPR : Hid (Own y12 w.heap.size (.slice aPR pt cPR) zt) := OPR.out.later hbb
  replace HB : Hid (Below w.heap.size w y12) := HB.out.trans (hbb.mono HB.out.size)
  clear hbb
  cases ft
  · cases fh
    · clear HFh HFt e1 e2
      clear kA OA
      clear kB OB
      clear kH OH
      clear kWA OWA
      clear kP OP
      clear kPR OPR
      go_wp2_with fail
      refine (drawReduce_c bo m d _ hm (HM.out.later HB.out HB.out.size)).mono ?_
      rintro e y13 ⟨⟨aX, qX, cX, xx, aM, qM, cM, xm, rfl, hqX, hqM, hlX, hlM, ho1, ho2⟩, hbb⟩
      have LNX : Hid (xx.length = qX) := hlX
      have LNM : Hid (xm.length = qM) := hlM
      obtain ⟨z14, hz14⟩ : ∃ x, ((y13.alloc (Obj.cells #[Value.slice aX qX cX] 25)).alloc (Obj.cells #[Value.slice aM qM cM] 25)) = x := ⟨_, rfl⟩
      have hnz14 : Below y13.heap.size y13 z14 := by rw [← hz14]; exact below_two _ _ _
      have hbz14 : Below y12.heap.size y12 z14 := hbb.trans (hnz14.mono hbb.size)
      have hszz14 : w.heap.size ≤ y13.heap.size := Nat.le_trans HB.out.size hbb.size
      have hsO : w.heap.size ≤ y12.heap.size := HB.out.size
      replace HB : Hid (Below w.heap.size w z14) := HB.out.trans (hbz14.mono HB.out.size)
      have kX : z14.cell? ⟨y13.heap.size, 0, none⟩ = some (.slice aX qX cX) := by rw [← hz14]; exact calloc (cnew _ _ _)
      have OX : Hid (Own z14 w.heap.size (.slice aX qX cX) xx) := (ho1.mono hsO).later hnz14
      have kM : z14.cell? ⟨y13.heap.size + 1, 0, none⟩ = some (.slice aM qM cM) := by rw [← hz14]; simp
      have OM : Hid (Own z14 w.heap.size (.slice aM qM cM) xm) := (ho2.mono hsO).later hnz14
      clear hnz14 hbz14 hsO
      clear ho1 ho2 hbb hlX hlM
      obtain ⟨zr, fr, hF⟩ : ∃ z b, redF xx xm = (z, b) := ⟨_, _, rfl⟩
      have HFr : Hid (redF xx xm = (zr, fr)) := hF
      obtain ⟨pr, hp⟩ : ∃ p, zr.length = p := ⟨_, rfl⟩
      have HPpr : Hid (zr.length = pr) := hp
      have hp6pr : pr ≤ 6 := by rw [← hp]; exact redF_short hF
      clear hF hp
      have e1 : (fr != fr) = false := by simp
      go_wp2_with fail
      clear hz14
      refine (implRed_c aX aM qX qM cX cM xx xm _ LNX.out LNM.out (by omega) (by omega) OX.out.rd'.2 OM.out.rd'.2 zr fr pr HFr.out HPpr.out).mono ?_
      rintro e y15 ⟨aR, cR, rfl, ho, hbb⟩
      obtain ⟨z16, hz16⟩ : ∃ x, (y15.alloc (Obj.cells #[Value.slice aR pr cR] 25)) = x := ⟨_, rfl⟩
      have hnz16 : Below y15.heap.size y15 z16 := by rw [← hz16]; exact balloc _ _
      have hbz16 : Below z14.heap.size z14 z16 := hbb.trans (hnz16.mono hbb.size)
      have hszz16 : w.heap.size ≤ y15.heap.size := Nat.le_trans HB.out.size hbb.size
      have hsO : w.heap.size ≤ z14.heap.size := HB.out.size
      replace kX : z16.cell? ⟨y13.heap.size, 0, none⟩ = some (.slice aX qX cX) := keepC hbz16 kX
      replace OX : Hid (Own z16 w.heap.size (.slice aX qX cX) xx) := OX.out.later hbz16
      replace kM : z16.cell? ⟨y13.heap.size + 1, 0, none⟩ = some (.slice aM qM cM) := keepC hbz16 kM
      replace OM : Hid (Own z16 w.heap.size (.slice aM qM cM) xm) := OM.out.later hbz16
      replace HB : Hid (Below w.heap.size w z16) := HB.out.trans (hbz16.mono HB.out.size)
      have kR : z16.cell? ⟨y15.heap.size, 0, none⟩ = some (.slice aR pr cR) := by rw [← hz16]; exact cnew _ _ _
      have OR : Hid (Own z16 w.heap.size (.slice aR pr cR) zr) := (ho.mono hsO).later hnz16
      clear hnz16 hbz16 hsO
      clear ho hbb
      go_wp2_with fail
      clear hz16
      refine (specRed_c aX aM qX qM cX cM xx xm _ LNX.out LNM.out (by omega) (by omega) OX.out.rd'.2 OM.out.rd'.2 zr fr pr HFr.out HPpr.out).mono ?_
      rintro e y17 ⟨aRD, cRD, rfl, ho, hbb⟩
      obtain ⟨z18, hz18⟩ : ∃ x, (y17.alloc (Obj.cells #[Value.slice aRD pr cRD] 25)) = x := ⟨_, rfl⟩
      have hnz18 : Below y17.heap.size y17 z18 := by rw [← hz18]; exact balloc _ _
      have hbz18 : Below z16.heap.size z16 z18 := hbb.trans (hnz18.mono hbb.size)
      have hszz18 : w.heap.size ≤ y17.heap.size := Nat.le_trans HB.out.size hbb.size
      have hsO : w.heap.size ≤ z16.heap.size := HB.out.size
      replace kX : z18.cell? ⟨y13.heap.size, 0, none⟩ = some (.slice aX qX cX) := keepC hbz18 kX
      replace OX : Hid (Own z18 w.heap.size (.slice aX qX cX) xx) := OX.out.later hbz18
      replace kM : z18.cell? ⟨y13.heap.size + 1, 0, none⟩ = some (.slice aM qM cM) := keepC hbz18 kM
      replace OM : Hid (Own z18 w.heap.size (.slice aM qM cM) xm) := OM.out.later hbz18
      replace kR : z18.cell? ⟨y15.heap.size, 0, none⟩ = some (.slice aR pr cR) := keepC hbz18 kR
      replace OR : Hid (Own z18 w.heap.size (.slice aR pr cR) zr) := OR.out.later hbz18
      replace HB : Hid (Below w.heap.size w z18) := HB.out.trans (hbz18.mono HB.out.size)
      have kRD : z18.cell? ⟨y17.heap.size, 0, none⟩ = some (.slice aRD pr cRD) := by rw [← hz18]; exact cnew _ _ _
      have ORD : Hid (Own z18 w.heap.size (.slice aRD pr cRD) zr) := (ho.mono hsO).later hnz18
      clear hnz18 hbz18 hsO
      clear ho hbb
      go_wp2_with fail
      clear hz18
      refine (sameBig_t _ HPpr.out (by omega) OR.out.rd'.2 ORD.out.rd'.2).mono ?_
      rintro e y19 ⟨rfl, hbb⟩
      replace kX : y19.cell? ⟨y13.heap.size, 0, none⟩ = some (.slice aX qX cX) := keepC hbb kX
      replace OX : Hid (Own y19 w.heap.size (.slice aX qX cX) xx) := OX.out.later hbb
      replace kM : y19.cell? ⟨y13.heap.size + 1, 0, none⟩ = some (.slice aM qM cM) := keepC hbb kM
      replace OM : Hid (Own y19 w.heap.size (.slice aM qM cM) xm) := OM.out.later hbb
      replace kR : y19.cell? ⟨y15.heap.size, 0, none⟩ = some (.slice aR pr cR) := keepC hbb kR
      replace OR : Hid (Own y19 w.heap.size (.slice aR pr cR) zr) := OR.out.later hbb
      replace kRD : y19.cell? ⟨y17.heap.size, 0, none⟩ = some (.slice aRD pr cRD) := keepC hbb kRD
      replace ORD : Hid (Own y19 w.heap.size (.slice aRD pr cRD) zr) := ORD.out.later hbb
      replace HB : Hid (Below w.heap.size w y19) := HB.out.trans (hbb.mono HB.out.size)
      clear hbb
      clear kRD ORD
      cases fr
      · clear HFr HPpr
        clear kX OX
        clear kM OM
        clear kR OR
        go_wp2_with fail
        refine (drawLess_c bo m d _ hm (HM.out.later HB.out HB.out.size)).mono ?_
        rintro e y20 ⟨⟨aY, qY, cY, xy, aZ, qZ, cZ, xz, rfl, hqY, hqZ, hlY, hlZ, ho1, ho2⟩, hbb⟩
        have LNY : Hid (xy.length = qY) := hlY
        have LNZ : Hid (xz.length = qZ) := hlZ
        obtain ⟨z21, hz21⟩ : ∃ x, ((y20.alloc (Obj.cells #[Value.slice aY qY cY] 25)).alloc (Obj.cells #[Value.slice aZ qZ cZ] 25)) = x := ⟨_, rfl⟩
        have hnz21 : Below y20.heap.size y20 z21 := by rw [← hz21]; exact below_two _ _ _
        have hbz21 : Below y19.heap.size y19 z21 := hbb.trans (hnz21.mono hbb.size)
        have hszz21 : w.heap.size ≤ y20.heap.size := Nat.le_trans HB.out.size hbb.size
        have hsO : w.heap.size ≤ y19.heap.size := HB.out.size
        replace HB : Hid (Below w.heap.size w z21) := HB.out.trans (hbz21.mono HB.out.size)
        have kY : z21.cell? ⟨y20.heap.size, 0, none⟩ = some (.slice aY qY cY) := by rw [← hz21]; exact calloc (cnew _ _ _)
        have OY : Hid (Own z21 w.heap.size (.slice aY qY cY) xy) := (ho1.mono hsO).later hnz21
        have kZ : z21.cell? ⟨y20.heap.size + 1, 0, none⟩ = some (.slice aZ qZ cZ) := by rw [← hz21]; simp
        have OZ : Hid (Own z21 w.heap.size (.slice aZ qZ cZ) xz) := (ho2.mono hsO).later hnz21
        clear hnz21 hbz21 hsO
        clear ho1 ho2 hbb hlY hlZ
        obtain ⟨zd, fd, hF⟩ : ∃ z b, lessF xy xz = (z, b) := ⟨_, _, rfl⟩
        have HFd : Hid (lessF xy xz = (zd, fd)) := hF
        obtain ⟨pd, hp⟩ : ∃ p, zd.length = p := ⟨_, rfl⟩
        have HPpd : Hid (zd.length = pd) := hp
        have hp6pd : pd ≤ 6 := by rw [← hp]; exact lessF_short hF
        clear hF hp
        go_wp2_with fail
        clear hz21
        refine (implLess_c aY aZ qY qZ cY cZ xy xz _ LNY.out LNZ.out (by omega) (by omega) OY.out.rd'.2 OZ.out.rd'.2 zd fd pd HFd.out HPpd.out).mono ?_
        rintro e y22 ⟨aD, cD, rfl, ho, hbb⟩
        obtain ⟨z23, hz23⟩ : ∃ x, (y22.alloc (Obj.cells #[Value.slice aD pd cD] 25)) = x := ⟨_, rfl⟩
        have hnz23 : Below y22.heap.size y22 z23 := by rw [← hz23]; exact balloc _ _
        have hbz23 : Below z21.heap.size z21 z23 := hbb.trans (hnz23.mono hbb.size)
        have hszz23 : w.heap.size ≤ y22.heap.size := Nat.le_trans HB.out.size hbb.size
        have hsO : w.heap.size ≤ z21.heap.size := HB.out.size
        replace kY : z23.cell? ⟨y20.heap.size, 0, none⟩ = some (.slice aY qY cY) := keepC hbz23 kY
        replace OY : Hid (Own z23 w.heap.size (.slice aY qY cY) xy) := OY.out.later hbz23
        replace kZ : z23.cell? ⟨y20.heap.size + 1, 0, none⟩ = some (.slice aZ qZ cZ) := keepC hbz23 kZ
        replace OZ : Hid (Own z23 w.heap.size (.slice aZ qZ cZ) xz) := OZ.out.later hbz23
        replace HB : Hid (Below w.heap.size w z23) := HB.out.trans (hbz23.mono HB.out.size)
        have kD : z23.cell? ⟨y22.heap.size, 0, none⟩ = some (.slice aD pd cD) := by rw [← hz23]; exact cnew _ _ _
        have OD : Hid (Own z23 w.heap.size (.slice aD pd cD) zd) := (ho.mono hsO).later hnz23
        clear hnz23 hbz23 hsO
        clear ho hbb
        go_wp2_with fail
        clear hz23
        refine (specLess_c aY aZ qY qZ cY cZ xy xz _ LNY.out LNZ.out (by omega) (by omega) OY.out.rd'.2 OZ.out.rd'.2 zd fd pd HFd.out HPpd.out).mono ?_
        rintro e y24 ⟨aLE, cLE, rfl, ho, hbb⟩
        obtain ⟨z25, hz25⟩ : ∃ x, (y24.alloc (Obj.cells #[Value.slice aLE pd cLE] 25)) = x := ⟨_, rfl⟩
        have hnz25 : Below y24.heap.size y24 z25 := by rw [← hz25]; exact balloc _ _
        have hbz25 : Below z23.heap.size z23 z25 := hbb.trans (hnz25.mono hbb.size)
        have hszz25 : w.heap.size ≤ y24.heap.size := Nat.le_trans HB.out.size hbb.size
        have hsO : w.heap.size ≤ z23.heap.size := HB.out.size
        replace kY : z25.cell? ⟨y20.heap.size, 0, none⟩ = some (.slice aY qY cY) := keepC hbz25 kY
        replace OY : Hid (Own z25 w.heap.size (.slice aY qY cY) xy) := OY.out.later hbz25
        replace kZ : z25.cell? ⟨y20.heap.size + 1, 0, none⟩ = some (.slice aZ qZ cZ) := keepC hbz25 kZ
        replace OZ : Hid (Own z25 w.heap.size (.slice aZ qZ cZ) xz) := OZ.out.later hbz25
        replace kD : z25.cell? ⟨y22.heap.size, 0, none⟩ = some (.slice aD pd cD) := keepC hbz25 kD
        replace OD : Hid (Own z25 w.heap.size (.slice aD pd cD) zd) := OD.out.later hbz25
        replace HB : Hid (Below w.heap.size w z25) := HB.out.trans (hbz25.mono HB.out.size)
        have kLE : z25.cell? ⟨y24.heap.size, 0, none⟩ = some (.slice aLE pd cLE) := by rw [← hz25]; exact cnew _ _ _
        have OLE : Hid (Own z25 w.heap.size (.slice aLE pd cLE) zd) := (ho.mono hsO).later hnz25
        clear hnz25 hbz25 hsO
        clear ho hbb
        clear kY OY
        clear kZ OZ
        go_wp2_with fail
        clear hz25
        refine (drawCompare_c bo m d _ hm (HM.out.later HB.out HB.out.size)).mono ?_
        rintro e y26 ⟨⟨aE, qE, cE, xe, aF, qF, cF, xf, rfl, hqE, hqF, hlE, hlF, ho1, ho2⟩, hbb⟩
        have LNE : Hid (xe.length = qE) := hlE
        have LNF : Hid (xf.length = qF) := hlF
        obtain ⟨z27, hz27⟩ : ∃ x, ((y26.alloc (Obj.cells #[Value.slice aE qE cE] 25)).alloc (Obj.cells #[Value.slice aF qF cF] 25)) = x := ⟨_, rfl⟩
        have hnz27 : Below y26.heap.size y26 z27 := by rw [← hz27]; exact below_two _ _ _
        have hbz27 : Below z25.heap.size z25 z27 := hbb.trans (hnz27.mono hbb.size)
        have hszz27 : w.heap.size ≤ y26.heap.size := Nat.le_trans HB.out.size hbb.size
        have hsO : w.heap.size ≤ z25.heap.size := HB.out.size
        replace kD : z27.cell? ⟨y22.heap.size, 0, none⟩ = some (.slice aD pd cD) := keepC hbz27 kD
        replace OD : Hid (Own z27 w.heap.size (.slice aD pd cD) zd) := OD.out.later hbz27
        replace kLE : z27.cell? ⟨y24.heap.size, 0, none⟩ = some (.slice aLE pd cLE) := keepC hbz27 kLE
        replace OLE : Hid (Own z27 w.heap.size (.slice aLE pd cLE) zd) := OLE.out.later hbz27
        replace HB : Hid (Below w.heap.size w z27) := HB.out.trans (hbz27.mono HB.out.size)
        have kE : z27.cell? ⟨y26.heap.size, 0, none⟩ = some (.slice aE qE cE) := by rw [← hz27]; exact calloc (cnew _ _ _)
        have OE : Hid (Own z27 w.heap.size (.slice aE qE cE) xe) := (ho1.mono hsO).later hnz27
        have kF : z27.cell? ⟨y26.heap.size + 1, 0, none⟩ = some (.slice aF qF cF) := by rw [← hz27]; simp
        have OF : Hid (Own z27 w.heap.size (.slice aF qF cF) xf) := (ho2.mono hsO).later hnz27
        clear hnz27 hbz27 hsO
        clear ho1 ho2 hbb hlE hlF
        obtain ⟨cv, hcv⟩ : ∃ x, (cmpF xe xf).1 = x := ⟨_, rfl⟩
        obtain ⟨cb, hcb⟩ : ∃ x, (cmpF xe xf).2 = x := ⟨_, rfl⟩
        have e3 : (fd == fd) = true := by simp
        have e4 : (cb == cb) = true := by simp
        have e5 : (cv == cv) = true := by simp
        go_wp2_with fail
        clear hz27
        refine (implCompare_c aE aF qE qF cE cF xe xf _ LNE.out LNF.out (by omega) (by omega) OE.out.rd'.2 OF.out.rd'.2).mono ?_
        rw [hcv, hcb]
        rintro e y28 ⟨rfl, hbb⟩
        replace kD : y28.cell? ⟨y22.heap.size, 0, none⟩ = some (.slice aD pd cD) := keepC hbb kD
        replace OD : Hid (Own y28 w.heap.size (.slice aD pd cD) zd) := OD.out.later hbb
        replace kLE : y28.cell? ⟨y24.heap.size, 0, none⟩ = some (.slice aLE pd cLE) := keepC hbb kLE
        replace OLE : Hid (Own y28 w.heap.size (.slice aLE pd cLE) zd) := OLE.out.later hbb
        replace kE : y28.cell? ⟨y26.heap.size, 0, none⟩ = some (.slice aE qE cE) := keepC hbb kE
        replace OE : Hid (Own y28 w.heap.size (.slice aE qE cE) xe) := OE.out.later hbb
        replace kF : y28.cell? ⟨y26.heap.size + 1, 0, none⟩ = some (.slice aF qF cF) := keepC hbb kF
        replace OF : Hid (Own y28 w.heap.size (.slice aF qF cF) xf) := OF.out.later hbb
        replace HB : Hid (Below w.heap.size w y28) := HB.out.trans (hbb.mono HB.out.size)
        clear hbb
        go_wp2_with fail
        refine (specCompare_c aE aF qE qF cE cF xe xf _ LNE.out LNF.out (by omega) (by omega) OE.out.rd'.2 OF.out.rd'.2).mono ?_
        rw [hcv, hcb]
        rintro e y29 ⟨rfl, hbb⟩
        replace kD : y29.cell? ⟨y22.heap.size, 0, none⟩ = some (.slice aD pd cD) := keepC hbb kD
        replace OD : Hid (Own y29 w.heap.size (.slice aD pd cD) zd) := OD.out.later hbb
        replace kLE : y29.cell? ⟨y24.heap.size, 0, none⟩ = some (.slice aLE pd cLE) := keepC hbb kLE
        replace OLE : Hid (Own y29 w.heap.size (.slice aLE pd cLE) zd) := OLE.out.later hbb
        replace kE : y29.cell? ⟨y26.heap.size, 0, none⟩ = some (.slice aE qE cE) := keepC hbb kE
        replace OE : Hid (Own y29 w.heap.size (.slice aE qE cE) xe) := OE.out.later hbb
        replace kF : y29.cell? ⟨y26.heap.size + 1, 0, none⟩ = some (.slice aF qF cF) := keepC hbb kF
        replace OF : Hid (Own y29 w.heap.size (.slice aF qF cF) xf) := OF.out.later hbb
        replace HB : Hid (Below w.heap.size w y29) := HB.out.trans (hbb.mono HB.out.size)
        clear hbb
        clear hcv hcb
        go_wp2_with fail
        refine (sameBig_t _ HPpd.out (by omega) OD.out.rd'.2 OLE.out.rd'.2).mono ?_
        rintro e y30 ⟨rfl, hbb⟩
        replace kD : y30.cell? ⟨y22.heap.size, 0, none⟩ = some (.slice aD pd cD) := keepC hbb kD
        replace OD : Hid (Own y30 w.heap.size (.slice aD pd cD) zd) := OD.out.later hbb
        replace kLE : y30.cell? ⟨y24.heap.size, 0, none⟩ = some (.slice aLE pd cLE) := keepC hbb kLE
        replace OLE : Hid (Own y30 w.heap.size (.slice aLE pd cLE) zd) := OLE.out.later hbb
        replace kE : y30.cell? ⟨y26.heap.size, 0, none⟩ = some (.slice aE qE cE) := keepC hbb kE
        replace OE : Hid (Own y30 w.heap.size (.slice aE qE cE) xe) := OE.out.later hbb
        replace kF : y30.cell? ⟨y26.heap.size + 1, 0, none⟩ = some (.slice aF qF cF) := keepC hbb kF
        replace OF : Hid (Own y30 w.heap.size (.slice aF qF cF) xf) := OF.out.later hbb
        replace HB : Hid (Below w.heap.size w y30) := HB.out.trans (hbb.mono HB.out.size)
        clear hbb
        go_wp2
        go_ret
        exact ⟨by simp, HB.out⟩
      · obtain ⟨ts, z1, us, z2, r1, r2, r3, r4⟩ := red_back HFr.out
        have R1 : Hid (shiftF zr 16 = (ts, true)) := r1
        have R2 : Hid (divF ts xm = (z1, us, true)) := r2
        have R3 : Hid (divF xx xm = (z2, us, true)) := r3
        have R4 : Hid (cmpF zr xm = (-1, true)) := r4
        have s1 := shiftF_less r1
        have s2 := divF_short r2
        have s3 := divF_short r3
        clear r1 r2 r3 r4 HFr
        obtain ⟨pts, hp⟩ : ∃ p, ts.length = p := ⟨_, rfl⟩
        have HPpts : Hid (ts.length = pts) := hp
        rw [hp] at s1
        clear hp
        obtain ⟨pz1, hp⟩ : ∃ p, z1.length = p := ⟨_, rfl⟩
        have HPpz1 : Hid (z1.length = pz1) := hp
        rw [hp] at s2
        clear hp
        obtain ⟨pus, hp⟩ : ∃ p, us.length = p := ⟨_, rfl⟩
        have HPpus : Hid (us.length = pus) := hp
        rw [hp] at s2 s3
        clear hp
        obtain ⟨pz2, hp⟩ : ∃ p, z2.length = p := ⟨_, rfl⟩
        have HPpz2 : Hid (z2.length = pz2) := hp
        rw [hp] at s3
        clear hp
        go_wp2_with fail
        refine (implShift_c aR pr cR zr 16 _ HPpr.out (by omega) OR.out.rd'.2 (by omega) ts true pts R1.out HPpts.out).mono ?_
        rintro e y31 ⟨aT, cT, rfl, ho, hbb⟩
        obtain ⟨z32, hz32⟩ : ∃ x, (y31.alloc (Obj.cells #[Value.slice aT pts cT] 25)) = x := ⟨_, rfl⟩
        have hnz32 : Below y31.heap.size y31 z32 := by rw [← hz32]; exact balloc _ _
        have hbz32 : Below y19.heap.size y19 z32 := hbb.trans (hnz32.mono hbb.size)
        have hszz32 : w.heap.size ≤ y31.heap.size := Nat.le_trans HB.out.size hbb.size
        have hsO : w.heap.size ≤ y19.heap.size := HB.out.size
        replace kX : z32.cell? ⟨y13.heap.size, 0, none⟩ = some (.slice aX qX cX) := keepC hbz32 kX
        replace OX : Hid (Own z32 w.heap.size (.slice aX qX cX) xx) := OX.out.later hbz32
        replace kM : z32.cell? ⟨y13.heap.size + 1, 0, none⟩ = some (.slice aM qM cM) := keepC hbz32 kM
        replace OM : Hid (Own z32 w.heap.size (.slice aM qM cM) xm) := OM.out.later hbz32
        replace kR : z32.cell? ⟨y15.heap.size, 0, none⟩ = some (.slice aR pr cR) := keepC hbz32 kR
        replace OR : Hid (Own z32 w.heap.size (.slice aR pr cR) zr) := OR.out.later hbz32
        replace HB : Hid (Below w.heap.size w z32) := HB.out.trans (hbz32.mono HB.out.size)
        have kT : z32.cell? ⟨y31.heap.size, 0, none⟩ = some (.slice aT pts cT) := by rw [← hz32]; exact cnew _ _ _
        have OT : Hid (Own z32 w.heap.size (.slice aT pts cT) ts) := (ho.mono hsO).later hnz32
        clear hnz32 hbz32 hsO
        clear ho hbb
        go_wp2_with fail
        clear hz32
        refine (implDiv_c aT aM pts qM cT cM ts xm _ HPpts.out LNM.out (by omega) (by omega) OT.out.rd'.2 OM.out.rd'.2 z1 us true pz1 pus R2.out HPpz1.out HPpus.out).mono ?_
        rintro e y33 ⟨aZU, cZU, aU, cU, MM, rfl, hoz, ho, hMM, hbb⟩
        obtain ⟨z34, hz34⟩ : ∃ x, ((y33.alloc (Obj.cells #[Value.slice aZU pz1 cZU] 25)).alloc (Obj.cells #[Value.slice aU pus cU] 25)) = x := ⟨_, rfl⟩
        have hnz34 : Below y33.heap.size y33 z34 := by rw [← hz34]; exact below_two _ _ _
        have hbz34 : Below z32.heap.size z32 z34 := hbb.trans (hnz34.mono hbb.size)
        have hszz34 : w.heap.size ≤ y33.heap.size := Nat.le_trans HB.out.size hbb.size
        have hsO : w.heap.size ≤ z32.heap.size := HB.out.size
        replace kX : z34.cell? ⟨y13.heap.size, 0, none⟩ = some (.slice aX qX cX) := keepC hbz34 kX
        replace OX : Hid (Own z34 w.heap.size (.slice aX qX cX) xx) := OX.out.later hbz34
        replace kM : z34.cell? ⟨y13.heap.size + 1, 0, none⟩ = some (.slice aM qM cM) := keepC hbz34 kM
        replace OM : Hid (Own z34 w.heap.size (.slice aM qM cM) xm) := OM.out.later hbz34
        replace kR : z34.cell? ⟨y15.heap.size, 0, none⟩ = some (.slice aR pr cR) := keepC hbz34 kR
        replace OR : Hid (Own z34 w.heap.size (.slice aR pr cR) zr) := OR.out.later hbz34
        replace kT : z34.cell? ⟨y31.heap.size, 0, none⟩ = some (.slice aT pts cT) := keepC hbz34 kT
        replace OT : Hid (Own z34 w.heap.size (.slice aT pts cT) ts) := OT.out.later hbz34
        replace HB : Hid (Below w.heap.size w z34) := HB.out.trans (hbz34.mono HB.out.size)
        have kZU : z34.cell? ⟨y33.heap.size, 0, none⟩ = some (.slice aZU pz1 cZU) := by rw [← hz34]; exact calloc (cnew _ _ _)
        have OZU : Hid (Own z34 w.heap.size (.slice aZU pz1 cZU) z1) := (hoz.mono hsO).later hnz34
        have kU : z34.cell? ⟨y33.heap.size + 1, 0, none⟩ = some (.slice aU pus cU) := by rw [← hz34]; simp
        have OU : Hid (Own z34 w.heap.size (.slice aU pus cU) us) := (ho.mono (Nat.le_trans hsO hMM.1)).later hnz34
        clear hnz34 hbz34 hsO
        clear ho hoz hbb hMM
        clear kZU OZU
        go_wp2_with fail
        clear hz34
        refine (implDiv_c aX aM qX qM cX cM xx xm _ LNX.out LNM.out (by omega) (by omega) OX.out.rd'.2 OM.out.rd'.2 z2 us true pz2 pus R3.out HPpz2.out HPpus.out).mono ?_
        rintro e y35 ⟨aZVV, cZVV, aVV, cVV, MM, rfl, hoz, ho, hMM, hbb⟩
        obtain ⟨z36, hz36⟩ : ∃ x, ((y35.alloc (Obj.cells #[Value.slice aZVV pz2 cZVV] 25)).alloc (Obj.cells #[Value.slice aVV pus cVV] 25)) = x := ⟨_, rfl⟩
        have hnz36 : Below y35.heap.size y35 z36 := by rw [← hz36]; exact below_two _ _ _
        have hbz36 : Below z34.heap.size z34 z36 := hbb.trans (hnz36.mono hbb.size)
        have hszz36 : w.heap.size ≤ y35.heap.size := Nat.le_trans HB.out.size hbb.size
        have hsO : w.heap.size ≤ z34.heap.size := HB.out.size
        replace kX : z36.cell? ⟨y13.heap.size, 0, none⟩ = some (.slice aX qX cX) := keepC hbz36 kX
        replace OX : Hid (Own z36 w.heap.size (.slice aX qX cX) xx) := OX.out.later hbz36
        replace kM : z36.cell? ⟨y13.heap.size + 1, 0, none⟩ = some (.slice aM qM cM) := keepC hbz36 kM
        replace OM : Hid (Own z36 w.heap.size (.slice aM qM cM) xm) := OM.out.later hbz36
        replace kR : z36.cell? ⟨y15.heap.size, 0, none⟩ = some (.slice aR pr cR) := keepC hbz36 kR
        replace OR : Hid (Own z36 w.heap.size (.slice aR pr cR) zr) := OR.out.later hbz36
        replace kT : z36.cell? ⟨y31.heap.size, 0, none⟩ = some (.slice aT pts cT) := keepC hbz36 kT
        replace OT : Hid (Own z36 w.heap.size (.slice aT pts cT) ts) := OT.out.later hbz36
        replace kU : z36.cell? ⟨y33.heap.size + 1, 0, none⟩ = some (.slice aU pus cU) := keepC hbz36 kU
        replace OU : Hid (Own z36 w.heap.size (.slice aU pus cU) us) := OU.out.later hbz36
        replace HB : Hid (Below w.heap.size w z36) := HB.out.trans (hbz36.mono HB.out.size)
        have kZVV : z36.cell? ⟨y35.heap.size, 0, none⟩ = some (.slice aZVV pz2 cZVV) := by rw [← hz36]; exact calloc (cnew _ _ _)
        have OZVV : Hid (Own z36 w.heap.size (.slice aZVV pz2 cZVV) z2) := (hoz.mono hsO).later hnz36
        have kVV : z36.cell? ⟨y35.heap.size + 1, 0, none⟩ = some (.slice aVV pus cVV) := by rw [← hz36]; simp
        have OVV : Hid (Own z36 w.heap.size (.slice aVV pus cVV) us) := (ho.mono (Nat.le_trans hsO hMM.1)).later hnz36
        clear hnz36 hbz36 hsO
        clear ho hoz hbb hMM
        clear kZVV OZVV
        go_wp2_with fail
        clear hz36
        refine (implCompare_c aR aM pr qM cR cM zr xm _ HPpr.out LNM.out (by omega) (by omega) OR.out.rd'.2 OM.out.rd'.2).mono ?_
        rw [R4.out]
        rintro e y37 ⟨rfl, hbb⟩
        replace kX : y37.cell? ⟨y13.heap.size, 0, none⟩ = some (.slice aX qX cX) := keepC hbb kX
        replace OX : Hid (Own y37 w.heap.size (.slice aX qX cX) xx) := OX.out.later hbb
        replace kM : y37.cell? ⟨y13.heap.size + 1, 0, none⟩ = some (.slice aM qM cM) := keepC hbb kM
        replace OM : Hid (Own y37 w.heap.size (.slice aM qM cM) xm) := OM.out.later hbb
        replace kR : y37.cell? ⟨y15.heap.size, 0, none⟩ = some (.slice aR pr cR) := keepC hbb kR
        replace OR : Hid (Own y37 w.heap.size (.slice aR pr cR) zr) := OR.out.later hbb
        replace kT : y37.cell? ⟨y31.heap.size, 0, none⟩ = some (.slice aT pts cT) := keepC hbb kT
        replace OT : Hid (Own y37 w.heap.size (.slice aT pts cT) ts) := OT.out.later hbb
        replace kU : y37.cell? ⟨y33.heap.size + 1, 0, none⟩ = some (.slice aU pus cU) := keepC hbb kU
        replace OU : Hid (Own y37 w.heap.size (.slice aU pus cU) us) := OU.out.later hbb
        replace kVV : y37.cell? ⟨y35.heap.size + 1, 0, none⟩ = some (.slice aVV pus cVV) := keepC hbb kVV
        replace OVV : Hid (Own y37 w.heap.size (.slice aVV pus cVV) us) := OVV.out.later hbb
        replace HB : Hid (Below w.heap.size w y37) := HB.out.trans (hbb.mono HB.out.size)
        clear hbb
        go_wp2_with fail
        refine (sameBig_t _ HPpus.out (by omega) OU.out.rd'.2 OVV.out.rd'.2).mono ?_
        rintro e y38 ⟨rfl, hbb⟩
        replace kX : y38.cell? ⟨y13.heap.size, 0, none⟩ = some (.slice aX qX cX) := keepC hbb kX
        replace OX : Hid (Own y38 w.heap.size (.slice aX qX cX) xx) := OX.out.later hbb
        replace kM : y38.cell? ⟨y13.heap.size + 1, 0, none⟩ = some (.slice aM qM cM) := keepC hbb kM
        replace OM : Hid (Own y38 w.heap.size (.slice aM qM cM) xm) := OM.out.later hbb
        replace kR : y38.cell? ⟨y15.heap.size, 0, none⟩ = some (.slice aR pr cR) := keepC hbb kR
        replace OR : Hid (Own y38 w.heap.size (.slice aR pr cR) zr) := OR.out.later hbb
        replace kT : y38.cell? ⟨y31.heap.size, 0, none⟩ = some (.slice aT pts cT) := keepC hbb kT
        replace OT : Hid (Own y38 w.heap.size (.slice aT pts cT) ts) := OT.out.later hbb
        replace kU : y38.cell? ⟨y33.heap.size + 1, 0, none⟩ = some (.slice aU pus cU) := keepC hbb kU
        replace OU : Hid (Own y38 w.heap.size (.slice aU pus cU) us) := OU.out.later hbb
        replace kVV : y38.cell? ⟨y35.heap.size + 1, 0, none⟩ = some (.slice aVV pus cVV) := keepC hbb kVV
        replace OVV : Hid (Own y38 w.heap.size (.slice aVV pus cVV) us) := OVV.out.later hbb
        replace HB : Hid (Below w.heap.size w y38) := HB.out.trans (hbb.mono HB.out.size)
        clear hbb
        clear kX OX
        clear kM OM
        clear kR OR
        clear kT OT
        clear kU OU
        clear kVV OVV
        go_wp2_with fail
        refine (drawLess_c bo m d _ hm (HM.out.later HB.out HB.out.size)).mono ?_
        rintro e y39 ⟨⟨aY, qY, cY, xy, aZ, qZ, cZ, xz, rfl, hqY, hqZ, hlY, hlZ, ho1, ho2⟩, hbb⟩
        have LNY : Hid (xy.length = qY) := hlY
        have LNZ : Hid (xz.length = qZ) := hlZ
        obtain ⟨z40, hz40⟩ : ∃ x, ((y39.alloc (Obj.cells #[Value.slice aY qY cY] 25)).alloc (Obj.cells #[Value.slice aZ qZ cZ] 25)) = x := ⟨_, rfl⟩
        have hnz40 : Below y39.heap.size y39 z40 := by rw [← hz40]; exact below_two _ _ _
        have hbz40 : Below y38.heap.size y38 z40 := hbb.trans (hnz40.mono hbb.size)
        have hszz40 : w.heap.size ≤ y39.heap.size := Nat.le_trans HB.out.size hbb.size
        have hsO : w.heap.size ≤ y38.heap.size := HB.out.size
        replace HB : Hid (Below w.heap.size w z40) := HB.out.trans (hbz40.mono HB.out.size)
        have kY : z40.cell? ⟨y39.heap.size, 0, none⟩ = some (.slice aY qY cY) := by rw [← hz40]; exact calloc (cnew _ _ _)
        have OY : Hid (Own z40 w.heap.size (.slice aY qY cY) xy) := (ho1.mono hsO).later hnz40
        have kZ : z40.cell? ⟨y39.heap.size + 1, 0, none⟩ = some (.slice aZ qZ cZ) := by rw [← hz40]; simp
        have OZ : Hid (Own z40 w.heap.size (.slice aZ qZ cZ) xz) := (ho2.mono hsO).later hnz40
        clear hnz40 hbz40 hsO
        clear ho1 ho2 hbb hlY hlZ
        obtain ⟨zd, fd, hF⟩ : ∃ z b, lessF xy xz = (z, b) := ⟨_, _, rfl⟩
        have HFd : Hid (lessF xy xz = (zd, fd)) := hF
        obtain ⟨pd, hp⟩ : ∃ p, zd.length = p := ⟨_, rfl⟩
        have HPpd : Hid (zd.length = pd) := hp
        have hp6pd : pd ≤ 6 := by rw [← hp]; exact lessF_short hF
        clear hF hp
        go_wp2_with fail
        clear hz40
        refine (implLess_c aY aZ qY qZ cY cZ xy xz _ LNY.out LNZ.out (by omega) (by omega) OY.out.rd'.2 OZ.out.rd'.2 zd fd pd HFd.out HPpd.out).mono ?_
        rintro e y41 ⟨aD, cD, rfl, ho, hbb⟩
        obtain ⟨z42, hz42⟩ : ∃ x, (y41.alloc (Obj.cells #[Value.slice aD pd cD] 25)) = x := ⟨_, rfl⟩
        have hnz42 : Below y41.heap.size y41 z42 := by rw [← hz42]; exact balloc _ _
        have hbz42 : Below z40.heap.size z40 z42 := hbb.trans (hnz42.mono hbb.size)
        have hszz42 : w.heap.size ≤ y41.heap.size := Nat.le_trans HB.out.size hbb.size
        have hsO : w.heap.size ≤ z40.heap.size := HB.out.size
        replace kY : z42.cell? ⟨y39.heap.size, 0, none⟩ = some (.slice aY qY cY) := keepC hbz42 kY
        replace OY : Hid (Own z42 w.heap.size (.slice aY qY cY) xy) := OY.out.later hbz42
        replace kZ : z42.cell? ⟨y39.heap.size + 1, 0, none⟩ = some (.slice aZ qZ cZ) := keepC hbz42 kZ
        replace OZ : Hid (Own z42 w.heap.size (.slice aZ qZ cZ) xz) := OZ.out.later hbz42
        replace HB : Hid (Below w.heap.size w z42) := HB.out.trans (hbz42.mono HB.out.size)
        have kD : z42.cell? ⟨y41.heap.size, 0, none⟩ = some (.slice aD pd cD) := by rw [← hz42]; exact cnew _ _ _
        have OD : Hid (Own z42 w.heap.size (.slice aD pd cD) zd) := (ho.mono hsO).later hnz42
        clear hnz42 hbz42 hsO
        clear ho hbb
        go_wp2_with fail
        clear hz42
        refine (specLess_c aY aZ qY qZ cY cZ xy xz _ LNY.out LNZ.out (by omega) (by omega) OY.out.rd'.2 OZ.out.rd'.2 zd fd pd HFd.out HPpd.out).mono ?_
        rintro e y43 ⟨aLE, cLE, rfl, ho, hbb⟩
        obtain ⟨z44, hz44⟩ : ∃ x, (y43.alloc (Obj.cells #[Value.slice aLE pd cLE] 25)) = x := ⟨_, rfl⟩
        have hnz44 : Below y43.heap.size y43 z44 := by rw [← hz44]; exact balloc _ _
        have hbz44 : Below z42.heap.size z42 z44 := hbb.trans (hnz44.mono hbb.size)
        have hszz44 : w.heap.size ≤ y43.heap.size := Nat.le_trans HB.out.size hbb.size
        have hsO : w.heap.size ≤ z42.heap.size := HB.out.size
        replace kY : z44.cell? ⟨y39.heap.size, 0, none⟩ = some (.slice aY qY cY) := keepC hbz44 kY
        replace OY : Hid (Own z44 w.heap.size (.slice aY qY cY) xy) := OY.out.later hbz44
        replace kZ : z44.cell? ⟨y39.heap.size + 1, 0, none⟩ = some (.slice aZ qZ cZ) := keepC hbz44 kZ
        replace OZ : Hid (Own z44 w.heap.size (.slice aZ qZ cZ) xz) := OZ.out.later hbz44
        replace kD : z44.cell? ⟨y41.heap.size, 0, none⟩ = some (.slice aD pd cD) := keepC hbz44 kD
        replace OD : Hid (Own z44 w.heap.size (.slice aD pd cD) zd) := OD.out.later hbz44
        replace HB : Hid (Below w.heap.size w z44) := HB.out.trans (hbz44.mono HB.out.size)
        have kLE : z44.cell? ⟨y43.heap.size, 0, none⟩ = some (.slice aLE pd cLE) := by rw [← hz44]; exact cnew _ _ _
        have OLE : Hid (Own z44 w.heap.size (.slice aLE pd cLE) zd) := (ho.mono hsO).later hnz44
        clear hnz44 hbz44 hsO
        clear ho hbb
        clear kY OY
        clear kZ OZ
        go_wp2_with fail
        clear hz44
        refine (drawCompare_c bo m d _ hm (HM.out.later HB.out HB.out.size)).mono ?_
        rintro e y45 ⟨⟨aE, qE, cE, xe, aF, qF, cF, xf, rfl, hqE, hqF, hlE, hlF, ho1, ho2⟩, hbb⟩
        have LNE : Hid (xe.length = qE) := hlE
        have LNF : Hid (xf.length = qF) := hlF
        obtain ⟨z46, hz46⟩ : ∃ x, ((y45.alloc (Obj.cells #[Value.slice aE qE cE] 25)).alloc (Obj.cells #[Value.slice aF qF cF] 25)) = x := ⟨_, rfl⟩
        have hnz46 : Below y45.heap.size y45 z46 := by rw [← hz46]; exact below_two _ _ _
        have hbz46 : Below z44.heap.size z44 z46 := hbb.trans (hnz46.mono hbb.size)
        have hszz46 : w.heap.size ≤ y45.heap.size := Nat.le_trans HB.out.size hbb.size
        have hsO : w.heap.size ≤ z44.heap.size := HB.out.size
        replace kD : z46.cell? ⟨y41.heap.size, 0, none⟩ = some (.slice aD pd cD) := keepC hbz46 kD
        replace OD : Hid (Own z46 w.heap.size (.slice aD pd cD) zd) := OD.out.later hbz46
        replace kLE : z46.cell? ⟨y43.heap.size, 0, none⟩ = some (.slice aLE pd cLE) := keepC hbz46 kLE
        replace OLE : Hid (Own z46 w.heap.size (.slice aLE pd cLE) zd) := OLE.out.later hbz46
        replace HB : Hid (Below w.heap.size w z46) := HB.out.trans (hbz46.mono HB.out.size)
        have kE : z46.cell? ⟨y45.heap.size, 0, none⟩ = some (.slice aE qE cE) := by rw [← hz46]; exact calloc (cnew _ _ _)
        have OE : Hid (Own z46 w.heap.size (.slice aE qE cE) xe) := (ho1.mono hsO).later hnz46
        have kF : z46.cell? ⟨y45.heap.size + 1, 0, none⟩ = some (.slice aF qF cF) := by rw [← hz46]; simp
        have OF : Hid (Own z46 w.heap.size (.slice aF qF cF) xf) := (ho2.mono hsO).later hnz46
        clear hnz46 hbz46 hsO
        clear ho1 ho2 hbb hlE hlF
        obtain ⟨cv, hcv⟩ : ∃ x, (cmpF xe xf).1 = x := ⟨_, rfl⟩
        obtain ⟨cb, hcb⟩ : ∃ x, (cmpF xe xf).2 = x := ⟨_, rfl⟩
        have e3 : (fd == fd) = true := by simp
        have e4 : (cb == cb) = true := by simp
        have e5 : (cv == cv) = true := by simp
        go_wp2_with fail
        clear hz46
        refine (implCompare_c aE aF qE qF cE cF xe xf _ LNE.out LNF.out (by omega) (by omega) OE.out.rd'.2 OF.out.rd'.2).mono ?_
        rw [hcv, hcb]
        rintro e y47 ⟨rfl, hbb⟩
        replace kD : y47.cell? ⟨y41.heap.size, 0, none⟩ = some (.slice aD pd cD) := keepC hbb kD
        replace OD : Hid (Own y47 w.heap.size (.slice aD pd cD) zd) := OD.out.later hbb
        replace kLE : y47.cell? ⟨y43.heap.size, 0, none⟩ = some (.slice aLE pd cLE) := keepC hbb kLE
        replace OLE : Hid (Own y47 w.heap.size (.slice aLE pd cLE) zd) := OLE.out.later hbb
        replace kE : y47.cell? ⟨y45.heap.size, 0, none⟩ = some (.slice aE qE cE) := keepC hbb kE
        replace OE : Hid (Own y47 w.heap.size (.slice aE qE cE) xe) := OE.out.later hbb
        replace kF : y47.cell? ⟨y45.heap.size + 1, 0, none⟩ = some (.slice aF qF cF) := keepC hbb kF
        replace OF : Hid (Own y47 w.heap.size (.slice aF qF cF) xf) := OF.out.later hbb
        replace HB : Hid (Below w.heap.size w y47) := HB.out.trans (hbb.mono HB.out.size)
        clear hbb
        go_wp2_with fail
        refine (specCompare_c aE aF qE qF cE cF xe xf _ LNE.out LNF.out (by omega) (by omega) OE.out.rd'.2 OF.out.rd'.2).mono ?_
        rw [hcv, hcb]
        rintro e y48 ⟨rfl, hbb⟩
        replace kD : y48.cell? ⟨y41.heap.size, 0, none⟩ = some (.slice aD pd cD) := keepC hbb kD
        replace OD : Hid (Own y48 w.heap.size (.slice aD pd cD) zd) := OD.out.later hbb
        replace kLE : y48.cell? ⟨y43.heap.size, 0, none⟩ = some (.slice aLE pd cLE) := keepC hbb kLE
        replace OLE : Hid (Own y48 w.heap.size (.slice aLE pd cLE) zd) := OLE.out.later hbb
        replace kE : y48.cell? ⟨y45.heap.size, 0, none⟩ = some (.slice aE qE cE) := keepC hbb kE
        replace OE : Hid (Own y48 w.heap.size (.slice aE qE cE) xe) := OE.out.later hbb
        replace kF : y48.cell? ⟨y45.heap.size + 1, 0, none⟩ = some (.slice aF qF cF) := keepC hbb kF
        replace OF : Hid (Own y48 w.heap.size (.slice aF qF cF) xf) := OF.out.later hbb
        replace HB : Hid (Below w.heap.size w y48) := HB.out.trans (hbb.mono HB.out.size)
        clear hbb
        clear hcv hcb
        go_wp2_with fail
        refine (sameBig_t _ HPpd.out (by omega) OD.out.rd'.2 OLE.out.rd'.2).mono ?_
        rintro e y49 ⟨rfl, hbb⟩
        replace kD : y49.cell? ⟨y41.heap.size, 0, none⟩ = some (.slice aD pd cD) := keepC hbb kD
        replace OD : Hid (Own y49 w.heap.size (.slice aD pd cD) zd) := OD.out.later hbb
        replace kLE : y49.cell? ⟨y43.heap.size, 0, none⟩ = some (.slice aLE pd cLE) := keepC hbb kLE
        replace OLE : Hid (Own y49 w.heap.size (.slice aLE pd cLE) zd) := OLE.out.later hbb
        replace kE : y49.cell? ⟨y45.heap.size, 0, none⟩ = some (.slice aE qE cE) := keepC hbb kE
        replace OE : Hid (Own y49 w.heap.size (.slice aE qE cE) xe) := OE.out.later hbb
        replace kF : y49.cell? ⟨y45.heap.size + 1, 0, none⟩ = some (.slice aF qF cF) := keepC hbb kF
        replace OF : Hid (Own y49 w.heap.size (.slice aF qF cF) xf) := OF.out.later hbb
        replace HB : Hid (Below w.heap.size w y49) := HB.out.trans (hbb.mono HB.out.size)
        clear hbb
        go_wp2
        go_ret
        exact ⟨by simp, HB.out⟩
    · exact absurd (half_times HFh.out) (by rw [HFt.out]; simp)
  · have HTT : Hid (timesF xb xa = (zt, true)) := by show _ = _; rw [times_turn]; exact HFt.out
    cases fh
    · skip
      clear kH OH
      clear kWA OWA
      clear kPR OPR
      go_wp2_with fail
      refine (implTimes_c aB aA qB qA cB cA xb xa _ LNB.out LNA.out (by omega) (by omega) OB.out.rd'.2 OA.out.rd'.2 zt true pt HTT.out HPpt.out).mono ?_
      rintro e y50 ⟨aQ, cQ, rfl, ho, hbb⟩
      obtain ⟨z51, hz51⟩ : ∃ x, (y50.alloc (Obj.cells #[Value.slice aQ pt cQ] 25)) = x := ⟨_, rfl⟩
      have hnz51 : Below y50.heap.size y50 z51 := by rw [← hz51]; exact balloc _ _
      have hbz51 : Below y12.heap.size y12 z51 := hbb.trans (hnz51.mono hbb.size)
      have hszz51 : w.heap.size ≤ y50.heap.size := Nat.le_trans HB.out.size hbb.size
      have hsO : w.heap.size ≤ y12.heap.size := HB.out.size
      replace kA : z51.cell? ⟨y1.heap.size, 0, none⟩ = some (.slice aA qA cA) := keepC hbz51 kA
      replace OA : Hid (Own z51 w.heap.size (.slice aA qA cA) xa) := OA.out.later hbz51
      replace kB : z51.cell? ⟨y1.heap.size + 1, 0, none⟩ = some (.slice aB qB cB) := keepC hbz51 kB
      replace OB : Hid (Own z51 w.heap.size (.slice aB qB cB) xb) := OB.out.later hbz51
      replace kP : z51.cell? ⟨y7.heap.size, 0, none⟩ = some (.slice aP pt cP) := keepC hbz51 kP
      replace OP : Hid (Own z51 w.heap.size (.slice aP pt cP) zt) := OP.out.later hbz51
      replace HB : Hid (Below w.heap.size w z51) := HB.out.trans (hbz51.mono HB.out.size)
      have kQ : z51.cell? ⟨y50.heap.size, 0, none⟩ = some (.slice aQ pt cQ) := by rw [← hz51]; exact cnew _ _ _
      have OQ : Hid (Own z51 w.heap.size (.slice aQ pt cQ) zt) := (ho.mono hsO).later hnz51
      clear hnz51 hbz51 hsO
      clear ho hbb
      go_wp2_with fail
      clear hz51
      refine (sameBig_t _ HPpt.out (by omega) OQ.out.rd'.2 OP.out.rd'.2).mono ?_
      rintro e y52 ⟨rfl, hbb⟩
      replace kA : y52.cell? ⟨y1.heap.size, 0, none⟩ = some (.slice aA qA cA) := keepC hbb kA
      replace OA : Hid (Own y52 w.heap.size (.slice aA qA cA) xa) := OA.out.later hbb
      replace kB : y52.cell? ⟨y1.heap.size + 1, 0, none⟩ = some (.slice aB qB cB) := keepC hbb kB
      replace OB : Hid (Own y52 w.heap.size (.slice aB qB cB) xb) := OB.out.later hbb
      replace kP : y52.cell? ⟨y7.heap.size, 0, none⟩ = some (.slice aP pt cP) := keepC hbb kP
      replace OP : Hid (Own y52 w.heap.size (.slice aP pt cP) zt) := OP.out.later hbb
      replace kQ : y52.cell? ⟨y50.heap.size, 0, none⟩ = some (.slice aQ pt cQ) := keepC hbb kQ
      replace OQ : Hid (Own y52 w.heap.size (.slice aQ pt cQ) zt) := OQ.out.later hbb
      replace HB : Hid (Below w.heap.size w y52) := HB.out.trans (hbb.mono HB.out.size)
      clear hbb
      clear HTT HFt HFh e1 e2
      clear kA OA
      clear kB OB
      clear kP OP
      clear kQ OQ
      go_wp2_with fail
      refine (drawReduce_c bo m d _ hm (HM.out.later HB.out HB.out.size)).mono ?_
      rintro e y53 ⟨⟨aX, qX, cX, xx, aM, qM, cM, xm, rfl, hqX, hqM, hlX, hlM, ho1, ho2⟩, hbb⟩
      have LNX : Hid (xx.length = qX) := hlX
      have LNM : Hid (xm.length = qM) := hlM
      obtain ⟨z54, hz54⟩ : ∃ x, ((y53.alloc (Obj.cells #[Value.slice aX qX cX] 25)).alloc (Obj.cells #[Value.slice aM qM cM] 25)) = x := ⟨_, rfl⟩
      have hnz54 : Below y53.heap.size y53 z54 := by rw [← hz54]; exact below_two _ _ _
      have hbz54 : Below y52.heap.size y52 z54 := hbb.trans (hnz54.mono hbb.size)
      have hszz54 : w.heap.size ≤ y53.heap.size := Nat.le_trans HB.out.size hbb.size
      have hsO : w.heap.size ≤ y52.heap.size := HB.out.size
      replace HB : Hid (Below w.heap.size w z54) := HB.out.trans (hbz54.mono HB.out.size)
      have kX : z54.cell? ⟨y53.heap.size, 0, none⟩ = some (.slice aX qX cX) := by rw [← hz54]; exact calloc (cnew _ _ _)
      have OX : Hid (Own z54 w.heap.size (.slice aX qX cX) xx) := (ho1.mono hsO).later hnz54
      have kM : z54.cell? ⟨y53.heap.size + 1, 0, none⟩ = some (.slice aM qM cM) := by rw [← hz54]; simp
      have OM : Hid (Own z54 w.heap.size (.slice aM qM cM) xm) := (ho2.mono hsO).later hnz54
      clear hnz54 hbz54 hsO
      clear ho1 ho2 hbb hlX hlM
      obtain ⟨zr, fr, hF⟩ : ∃ z b, redF xx xm = (z, b) := ⟨_, _, rfl⟩
      have HFr : Hid (redF xx xm = (zr, fr)) := hF
      obtain ⟨pr, hp⟩ : ∃ p, zr.length = p := ⟨_, rfl⟩
      have HPpr : Hid (zr.length = pr) := hp
      have hp6pr : pr ≤ 6 := by rw [← hp]; exact redF_short hF
      clear hF hp
      have e1 : (fr != fr) = false := by simp
      go_wp2_with fail
      clear hz54
      refine (implRed_c aX aM qX qM cX cM xx xm _ LNX.out LNM.out (by omega) (by omega) OX.out.rd'.2 OM.out.rd'.2 zr fr pr HFr.out HPpr.out).mono ?_
      rintro e y55 ⟨aR, cR, rfl, ho, hbb⟩
      obtain ⟨z56, hz56⟩ : ∃ x, (y55.alloc (Obj.cells #[Value.slice aR pr cR] 25)) = x := ⟨_, rfl⟩
      have hnz56 : Below y55.heap.size y55 z56 := by rw [← hz56]; exact balloc _ _
      have hbz56 : Below z54.heap.size z54 z56 := hbb.trans (hnz56.mono hbb.size)
      have hszz56 : w.heap.size ≤ y55.heap.size := Nat.le_trans HB.out.size hbb.size
      have hsO : w.heap.size ≤ z54.heap.size := HB.out.size
      replace kX : z56.cell? ⟨y53.heap.size, 0, none⟩ = some (.slice aX qX cX) := keepC hbz56 kX
      replace OX : Hid (Own z56 w.heap.size (.slice aX qX cX) xx) := OX.out.later hbz56
      replace kM : z56.cell? ⟨y53.heap.size + 1, 0, none⟩ = some (.slice aM qM cM) := keepC hbz56 kM
      replace OM : Hid (Own z56 w.heap.size (.slice aM qM cM) xm) := OM.out.later hbz56
      replace HB : Hid (Below w.heap.size w z56) := HB.out.trans (hbz56.mono HB.out.size)
      have kR : z56.cell? ⟨y55.heap.size, 0, none⟩ = some (.slice aR pr cR) := by rw [← hz56]; exact cnew _ _ _
      have OR : Hid (Own z56 w.heap.size (.slice aR pr cR) zr) := (ho.mono hsO).later hnz56
      clear hnz56 hbz56 hsO
      clear ho hbb
      go_wp2_with fail
      clear hz56
      refine (specRed_c aX aM qX qM cX cM xx xm _ LNX.out LNM.out (by omega) (by omega) OX.out.rd'.2 OM.out.rd'.2 zr fr pr HFr.out HPpr.out).mono ?_
      rintro e y57 ⟨aRD, cRD, rfl, ho, hbb⟩
      obtain ⟨z58, hz58⟩ : ∃ x, (y57.alloc (Obj.cells #[Value.slice aRD pr cRD] 25)) = x := ⟨_, rfl⟩
      have hnz58 : Below y57.heap.size y57 z58 := by rw [← hz58]; exact balloc _ _
      have hbz58 : Below z56.heap.size z56 z58 := hbb.trans (hnz58.mono hbb.size)
      have hszz58 : w.heap.size ≤ y57.heap.size := Nat.le_trans HB.out.size hbb.size
      have hsO : w.heap.size ≤ z56.heap.size := HB.out.size
      replace kX : z58.cell? ⟨y53.heap.size, 0, none⟩ = some (.slice aX qX cX) := keepC hbz58 kX
      replace OX : Hid (Own z58 w.heap.size (.slice aX qX cX) xx) := OX.out.later hbz58
      replace kM : z58.cell? ⟨y53.heap.size + 1, 0, none⟩ = some (.slice aM qM cM) := keepC hbz58 kM
      replace OM : Hid (Own z58 w.heap.size (.slice aM qM cM) xm) := OM.out.later hbz58
      replace kR : z58.cell? ⟨y55.heap.size, 0, none⟩ = some (.slice aR pr cR) := keepC hbz58 kR
      replace OR : Hid (Own z58 w.heap.size (.slice aR pr cR) zr) := OR.out.later hbz58
      replace HB : Hid (Below w.heap.size w z58) := HB.out.trans (hbz58.mono HB.out.size)
      have kRD : z58.cell? ⟨y57.heap.size, 0, none⟩ = some (.slice aRD pr cRD) := by rw [← hz58]; exact cnew _ _ _
      have ORD : Hid (Own z58 w.heap.size (.slice aRD pr cRD) zr) := (ho.mono hsO).later hnz58
      clear hnz58 hbz58 hsO
      clear ho hbb
      go_wp2_with fail
      clear hz58
      refine (sameBig_t _ HPpr.out (by omega) OR.out.rd'.2 ORD.out.rd'.2).mono ?_
      rintro e y59 ⟨rfl, hbb⟩
      replace kX : y59.cell? ⟨y53.heap.size, 0, none⟩ = some (.slice aX qX cX) := keepC hbb kX
      replace OX : Hid (Own y59 w.heap.size (.slice aX qX cX) xx) := OX.out.later hbb
      replace kM : y59.cell? ⟨y53.heap.size + 1, 0, none⟩ = some (.slice aM qM cM) := keepC hbb kM
      replace OM : Hid (Own y59 w.heap.size (.slice aM qM cM) xm) := OM.out.later hbb
      replace kR : y59.cell? ⟨y55.heap.size, 0, none⟩ = some (.slice aR pr cR) := keepC hbb kR
      replace OR : Hid (Own y59 w.heap.size (.slice aR pr cR) zr) := OR.out.later hbb
      replace kRD : y59.cell? ⟨y57.heap.size, 0, none⟩ = some (.slice aRD pr cRD) := keepC hbb kRD
      replace ORD : Hid (Own y59 w.heap.size (.slice aRD pr cRD) zr) := ORD.out.later hbb
      replace HB : Hid (Below w.heap.size w y59) := HB.out.trans (hbb.mono HB.out.size)
      clear hbb
      clear kRD ORD
      cases fr
      · clear HFr HPpr
        clear kX OX
        clear kM OM
        clear kR OR
        go_wp2_with fail
        refine (drawLess_c bo m d _ hm (HM.out.later HB.out HB.out.size)).mono ?_
        rintro e y60 ⟨⟨aY, qY, cY, xy, aZ, qZ, cZ, xz, rfl, hqY, hqZ, hlY, hlZ, ho1, ho2⟩, hbb⟩
        have LNY : Hid (xy.length = qY) := hlY
        have LNZ : Hid (xz.length = qZ) := hlZ
        obtain ⟨z61, hz61⟩ : ∃ x, ((y60.alloc (Obj.cells #[Value.slice aY qY cY] 25)).alloc (Obj.cells #[Value.slice aZ qZ cZ] 25)) = x := ⟨_, rfl⟩
        have hnz61 : Below y60.heap.size y60 z61 := by rw [← hz61]; exact below_two _ _ _
        have hbz61 : Below y59.heap.size y59 z61 := hbb.trans (hnz61.mono hbb.size)
        have hszz61 : w.heap.size ≤ y60.heap.size := Nat.le_trans HB.out.size hbb.size
        have hsO : w.heap.size ≤ y59.heap.size := HB.out.size
        replace HB : Hid (Below w.heap.size w z61) := HB.out.trans (hbz61.mono HB.out.size)
        have kY : z61.cell? ⟨y60.heap.size, 0, none⟩ = some (.slice aY qY cY) := by rw [← hz61]; exact calloc (cnew _ _ _)
        have OY : Hid (Own z61 w.heap.size (.slice aY qY cY) xy) := (ho1.mono hsO).later hnz61
        have kZ : z61.cell? ⟨y60.heap.size + 1, 0, none⟩ = some (.slice aZ qZ cZ) := by rw [← hz61]; simp
        have OZ : Hid (Own z61 w.heap.size (.slice aZ qZ cZ) xz) := (ho2.mono hsO).later hnz61
        clear hnz61 hbz61 hsO
        clear ho1 ho2 hbb hlY hlZ
        obtain ⟨zd, fd, hF⟩ : ∃ z b, lessF xy xz = (z, b) := ⟨_, _, rfl⟩
        have HFd : Hid (lessF xy xz = (zd, fd)) := hF
        obtain ⟨pd, hp⟩ : ∃ p, zd.length = p := ⟨_, rfl⟩
        have HPpd : Hid (zd.length = pd) := hp
        have hp6pd : pd ≤ 6 := by rw [← hp]; exact lessF_short hF
        clear hF hp
        go_wp2_with fail
        clear hz61
        refine (implLess_c aY aZ qY qZ cY cZ xy xz _ LNY.out LNZ.out (by omega) (by omega) OY.out.rd'.2 OZ.out.rd'.2 zd fd pd HFd.out HPpd.out).mono ?_
        rintro e y62 ⟨aD, cD, rfl, ho, hbb⟩
        obtain ⟨z63, hz63⟩ : ∃ x, (y62.alloc (Obj.cells #[Value.slice aD pd cD] 25)) = x := ⟨_, rfl⟩
        have hnz63 : Below y62.heap.size y62 z63 := by rw [← hz63]; exact balloc _ _
        have hbz63 : Below z61.heap.size z61 z63 := hbb.trans (hnz63.mono hbb.size)
        have hszz63 : w.heap.size ≤ y62.heap.size := Nat.le_trans HB.out.size hbb.size
        have hsO : w.heap.size ≤ z61.heap.size := HB.out.size
        replace kY : z63.cell? ⟨y60.heap.size, 0, none⟩ = some (.slice aY qY cY) := keepC hbz63 kY
        replace OY : Hid (Own z63 w.heap.size (.slice aY qY cY) xy) := OY.out.later hbz63
        replace kZ : z63.cell? ⟨y60.heap.size + 1, 0, none⟩ = some (.slice aZ qZ cZ) := keepC hbz63 kZ
        replace OZ : Hid (Own z63 w.heap.size (.slice aZ qZ cZ) xz) := OZ.out.later hbz63
        replace HB : Hid (Below w.heap.size w z63) := HB.out.trans (hbz63.mono HB.out.size)
        have kD : z63.cell? ⟨y62.heap.size, 0, none⟩ = some (.slice aD pd cD) := by rw [← hz63]; exact cnew _ _ _
        have OD : Hid (Own z63 w.heap.size (.slice aD pd cD) zd) := (ho.mono hsO).later hnz63
        clear hnz63 hbz63 hsO
        clear ho hbb
        go_wp2_with fail
        clear hz63
        refine (specLess_c aY aZ qY qZ cY cZ xy xz _ LNY.out LNZ.out (by omega) (by omega) OY.out.rd'.2 OZ.out.rd'.2 zd fd pd HFd.out HPpd.out).mono ?_
        rintro e y64 ⟨aLE, cLE, rfl, ho, hbb⟩
        obtain ⟨z65, hz65⟩ : ∃ x, (y64.alloc (Obj.cells #[Value.slice aLE pd cLE] 25)) = x := ⟨_, rfl⟩
        have hnz65 : Below y64.heap.size y64 z65 := by rw [← hz65]; exact balloc _ _
        have hbz65 : Below z63.heap.size z63 z65 := hbb.trans (hnz65.mono hbb.size)
        have hszz65 : w.heap.size ≤ y64.heap.size := Nat.le_trans HB.out.size hbb.size
        have hsO : w.heap.size ≤ z63.heap.size := HB.out.size
        replace kY : z65.cell? ⟨y60.heap.size, 0, none⟩ = some (.slice aY qY cY) := keepC hbz65 kY
        replace OY : Hid (Own z65 w.heap.size (.slice aY qY cY) xy) := OY.out.later hbz65
        replace kZ : z65.cell? ⟨y60.heap.size + 1, 0, none⟩ = some (.slice aZ qZ cZ) := keepC hbz65 kZ
        replace OZ : Hid (Own z65 w.heap.size (.slice aZ qZ cZ) xz) := OZ.out.later hbz65
        replace kD : z65.cell? ⟨y62.heap.size, 0, none⟩ = some (.slice aD pd cD) := keepC hbz65 kD
        replace OD : Hid (Own z65 w.heap.size (.slice aD pd cD) zd) := OD.out.later hbz65
        replace HB : Hid (Below w.heap.size w z65) := HB.out.trans (hbz65.mono HB.out.size)
        have kLE : z65.cell? ⟨y64.heap.size, 0, none⟩ = some (.slice aLE pd cLE) := by rw [← hz65]; exact cnew _ _ _
        have OLE : Hid (Own z65 w.heap.size (.slice aLE pd cLE) zd) := (ho.mono hsO).later hnz65
        clear hnz65 hbz65 hsO
        clear ho hbb
        clear kY OY
        clear kZ OZ
        go_wp2_with fail
        clear hz65
        refine (drawCompare_c bo m d _ hm (HM.out.later HB.out HB.out.size)).mono ?_
        rintro e y66 ⟨⟨aE, qE, cE, xe, aF, qF, cF, xf, rfl, hqE, hqF, hlE, hlF, ho1, ho2⟩, hbb⟩
        have LNE : Hid (xe.length = qE) := hlE
        have LNF : Hid (xf.length = qF) := hlF
        obtain ⟨z67, hz67⟩ : ∃ x, ((y66.alloc (Obj.cells #[Value.slice aE qE cE] 25)).alloc (Obj.cells #[Value.slice aF qF cF] 25)) = x := ⟨_, rfl⟩
        have hnz67 : Below y66.heap.size y66 z67 := by rw [← hz67]; exact below_two _ _ _
        have hbz67 : Below z65.heap.size z65 z67 := hbb.trans (hnz67.mono hbb.size)
        have hszz67 : w.heap.size ≤ y66.heap.size := Nat.le_trans HB.out.size hbb.size
        have hsO : w.heap.size ≤ z65.heap.size := HB.out.size
        replace kD : z67.cell? ⟨y62.heap.size, 0, none⟩ = some (.slice aD pd cD) := keepC hbz67 kD
        replace OD : Hid (Own z67 w.heap.size (.slice aD pd cD) zd) := OD.out.later hbz67
        replace kLE : z67.cell? ⟨y64.heap.size, 0, none⟩ = some (.slice aLE pd cLE) := keepC hbz67 kLE
        replace OLE : Hid (Own z67 w.heap.size (.slice aLE pd cLE) zd) := OLE.out.later hbz67
        replace HB : Hid (Below w.heap.size w z67) := HB.out.trans (hbz67.mono HB.out.size)
        have kE : z67.cell? ⟨y66.heap.size, 0, none⟩ = some (.slice aE qE cE) := by rw [← hz67]; exact calloc (cnew _ _ _)
        have OE : Hid (Own z67 w.heap.size (.slice aE qE cE) xe) := (ho1.mono hsO).later hnz67
        have kF : z67.cell? ⟨y66.heap.size + 1, 0, none⟩ = some (.slice aF qF cF) := by rw [← hz67]; simp
        have OF : Hid (Own z67 w.heap.size (.slice aF qF cF) xf) := (ho2.mono hsO).later hnz67
        clear hnz67 hbz67 hsO
        clear ho1 ho2 hbb hlE hlF
        obtain ⟨cv, hcv⟩ : ∃ x, (cmpF xe xf).1 = x := ⟨_, rfl⟩
        obtain ⟨cb, hcb⟩ : ∃ x, (cmpF xe xf).2 = x := ⟨_, rfl⟩
        have e3 : (fd == fd) = true := by simp
        have e4 : (cb == cb) = true := by simp
        have e5 : (cv == cv) = true := by simp
        go_wp2_with fail
        clear hz67
        refine (implCompare_c aE aF qE qF cE cF xe xf _ LNE.out LNF.out (by omega) (by omega) OE.out.rd'.2 OF.out.rd'.2).mono ?_
        rw [hcv, hcb]
        rintro e y68 ⟨rfl, hbb⟩
        replace kD : y68.cell? ⟨y62.heap.size, 0, none⟩ = some (.slice aD pd cD) := keepC hbb kD
        replace OD : Hid (Own y68 w.heap.size (.slice aD pd cD) zd) := OD.out.later hbb
        replace kLE : y68.cell? ⟨y64.heap.size, 0, none⟩ = some (.slice aLE pd cLE) := keepC hbb kLE
        replace OLE : Hid (Own y68 w.heap.size (.slice aLE pd cLE) zd) := OLE.out.later hbb
        replace kE : y68.cell? ⟨y66.heap.size, 0, none⟩ = some (.slice aE qE cE) := keepC hbb kE
        replace OE : Hid (Own y68 w.heap.size (.slice aE qE cE) xe) := OE.out.later hbb
        replace kF : y68.cell? ⟨y66.heap.size + 1, 0, none⟩ = some (.slice aF qF cF) := keepC hbb kF
        replace OF : Hid (Own y68 w.heap.size (.slice aF qF cF) xf) := OF.out.later hbb
        replace HB : Hid (Below w.heap.size w y68) := HB.out.trans (hbb.mono HB.out.size)
        clear hbb
        go_wp2_with fail
        refine (specCompare_c aE aF qE qF cE cF xe xf _ LNE.out LNF.out (by omega) (by omega) OE.out.rd'.2 OF.out.rd'.2).mono ?_
        rw [hcv, hcb]
        rintro e y69 ⟨rfl, hbb⟩
        replace kD : y69.cell? ⟨y62.heap.size, 0, none⟩ = some (.slice aD pd cD) := keepC hbb kD
        replace OD : Hid (Own y69 w.heap.size (.slice aD pd cD) zd) := OD.out.later hbb
        replace kLE : y69.cell? ⟨y64.heap.size, 0, none⟩ = some (.slice aLE pd cLE) := keepC hbb kLE
        replace OLE : Hid (Own y69 w.heap.size (.slice aLE pd cLE) zd) := OLE.out.later hbb
        replace kE : y69.cell? ⟨y66.heap.size, 0, none⟩ = some (.slice aE qE cE) := keepC hbb kE
        replace OE : Hid (Own y69 w.heap.size (.slice aE qE cE) xe) := OE.out.later hbb
        replace kF : y69.cell? ⟨y66.heap.size + 1, 0, none⟩ = some (.slice aF qF cF) := keepC hbb kF
        replace OF : Hid (Own y69 w.heap.size (.slice aF qF cF) xf) := OF.out.later hbb
        replace HB : Hid (Below w.heap.size w y69) := HB.out.trans (hbb.mono HB.out.size)
        clear hbb
        clear hcv hcb
        go_wp2_with fail
        refine (sameBig_t _ HPpd.out (by omega) OD.out.rd'.2 OLE.out.rd'.2).mono ?_
        rintro e y70 ⟨rfl, hbb⟩
        replace kD : y70.cell? ⟨y62.heap.size, 0, none⟩ = some (.slice aD pd cD) := keepC hbb kD
        replace OD : Hid (Own y70 w.heap.size (.slice aD pd cD) zd) := OD.out.later hbb
        replace kLE : y70.cell? ⟨y64.heap.size, 0, none⟩ = some (.slice aLE pd cLE) := keepC hbb kLE
        replace OLE : Hid (Own y70 w.heap.size (.slice aLE pd cLE) zd) := OLE.out.later hbb
        replace kE : y70.cell? ⟨y66.heap.size, 0, none⟩ = some (.slice aE qE cE) := keepC hbb kE
        replace OE : Hid (Own y70 w.heap.size (.slice aE qE cE) xe) := OE.out.later hbb
        replace kF : y70.cell? ⟨y66.heap.size + 1, 0, none⟩ = some (.slice aF qF cF) := keepC hbb kF
        replace OF : Hid (Own y70 w.heap.size (.slice aF qF cF) xf) := OF.out.later hbb
        replace HB : Hid (Below w.heap.size w y70) := HB.out.trans (hbb.mono HB.out.size)
        clear hbb
        go_wp2
        go_ret
        exact ⟨by simp, HB.out⟩
      · obtain ⟨ts, z1, us, z2, r1, r2, r3, r4⟩ := red_back HFr.out
        have R1 : Hid (shiftF zr 16 = (ts, true)) := r1
        have R2 : Hid (divF ts xm = (z1, us, true)) := r2
        have R3 : Hid (divF xx xm = (z2, us, true)) := r3
        have R4 : Hid (cmpF zr xm = (-1, true)) := r4
        have s1 := shiftF_less r1
        have s2 := divF_short r2
        have s3 := divF_short r3
        clear r1 r2 r3 r4 HFr
        obtain ⟨pts, hp⟩ : ∃ p, ts.length = p := ⟨_, rfl⟩
        have HPpts : Hid (ts.length = pts) := hp
        rw [hp] at s1
        clear hp
        obtain ⟨pz1, hp⟩ : ∃ p, z1.length = p := ⟨_, rfl⟩
        have HPpz1 : Hid (z1.length = pz1) := hp
        rw [hp] at s2
        clear hp
        obtain ⟨pus, hp⟩ : ∃ p, us.length = p := ⟨_, rfl⟩
        have HPpus : Hid (us.length = pus) := hp
        rw [hp] at s2 s3
        clear hp
        obtain ⟨pz2, hp⟩ : ∃ p, z2.length = p := ⟨_, rfl⟩
        have HPpz2 : Hid (z2.length = pz2) := hp
        rw [hp] at s3
        clear hp
        go_wp2_with fail
        refine (implShift_c aR pr cR zr 16 _ HPpr.out (by omega) OR.out.rd'.2 (by omega) ts true pts R1.out HPpts.out).mono ?_
        rintro e y71 ⟨aT, cT, rfl, ho, hbb⟩
        obtain ⟨z72, hz72⟩ : ∃ x, (y71.alloc (Obj.cells #[Value.slice aT pts cT] 25)) = x := ⟨_, rfl⟩
        have hnz72 : Below y71.heap.size y71 z72 := by rw [← hz72]; exact balloc _ _
        have hbz72 : Below y59.heap.size y59 z72 := hbb.trans (hnz72.mono hbb.size)
        have hszz72 : w.heap.size ≤ y71.heap.size := Nat.le_trans HB.out.size hbb.size
        have hsO : w.heap.size ≤ y59.heap.size := HB.out.size
        replace kX : z72.cell? ⟨y53.heap.size, 0, none⟩ = some (.slice aX qX cX) := keepC hbz72 kX
        replace OX : Hid (Own z72 w.heap.size (.slice aX qX cX) xx) := OX.out.later hbz72
        replace kM : z72.cell? ⟨y53.heap.size + 1, 0, none⟩ = some (.slice aM qM cM) := keepC hbz72 kM
        replace OM : Hid (Own z72 w.heap.size (.slice aM qM cM) xm) := OM.out.later hbz72
        replace kR : z72.cell? ⟨y55.heap.size, 0, none⟩ = some (.slice aR pr cR) := keepC hbz72 kR
        replace OR : Hid (Own z72 w.heap.size (.slice aR pr cR) zr) := OR.out.later hbz72
        replace HB : Hid (Below w.heap.size w z72) := HB.out.trans (hbz72.mono HB.out.size)
        have kT : z72.cell? ⟨y71.heap.size, 0, none⟩ = some (.slice aT pts cT) := by rw [← hz72]; exact cnew _ _ _
        have OT : Hid (Own z72 w.heap.size (.slice aT pts cT) ts) := (ho.mono hsO).later hnz72
        clear hnz72 hbz72 hsO
        clear ho hbb
        go_wp2_with fail
        clear hz72
        refine (implDiv_c aT aM pts qM cT cM ts xm _ HPpts.out LNM.out (by omega) (by omega) OT.out.rd'.2 OM.out.rd'.2 z1 us true pz1 pus R2.out HPpz1.out HPpus.out).mono ?_
        rintro e y73 ⟨aZU, cZU, aU, cU, MM, rfl, hoz, ho, hMM, hbb⟩
        obtain ⟨z74, hz74⟩ : ∃ x, ((y73.alloc (Obj.cells #[Value.slice aZU pz1 cZU] 25)).alloc (Obj.cells #[Value.slice aU pus cU] 25)) = x := ⟨_, rfl⟩
        have hnz74 : Below y73.heap.size y73 z74 := by rw [← hz74]; exact below_two _ _ _
        have hbz74 : Below z72.heap.size z72 z74 := hbb.trans (hnz74.mono hbb.size)
        have hszz74 : w.heap.size ≤ y73.heap.size := Nat.le_trans HB.out.size hbb.size
        have hsO : w.heap.size ≤ z72.heap.size := HB.out.size
        replace kX : z74.cell? ⟨y53.heap.size, 0, none⟩ = some (.slice aX qX cX) := keepC hbz74 kX
        replace OX : Hid (Own z74 w.heap.size (.slice aX qX cX) xx) := OX.out.later hbz74
        replace kM : z74.cell? ⟨y53.heap.size + 1, 0, none⟩ = some (.slice aM qM cM) := keepC hbz74 kM
        replace OM : Hid (Own z74 w.heap.size (.slice aM qM cM) xm) := OM.out.later hbz74
        replace kR : z74.cell? ⟨y55.heap.size, 0, none⟩ = some (.slice aR pr cR) := keepC hbz74 kR
        replace OR : Hid (Own z74 w.heap.size (.slice aR pr cR) zr) := OR.out.later hbz74
        replace kT : z74.cell? ⟨y71.heap.size, 0, none⟩ = some (.slice aT pts cT) := keepC hbz74 kT
        replace OT : Hid (Own z74 w.heap.size (.slice aT pts cT) ts) := OT.out.later hbz74
        replace HB : Hid (Below w.heap.size w z74) := HB.out.trans (hbz74.mono HB.out.size)
        have kZU : z74.cell? ⟨y73.heap.size, 0, none⟩ = some (.slice aZU pz1 cZU) := by rw [← hz74]; exact calloc (cnew _ _ _)
        have OZU : Hid (Own z74 w.heap.size (.slice aZU pz1 cZU) z1) := (hoz.mono hsO).later hnz74
        have kU : z74.cell? ⟨y73.heap.size + 1, 0, none⟩ = some (.slice aU pus cU) := by rw [← hz74]; simp
        have OU : Hid (Own z74 w.heap.size (.slice aU pus cU) us) := (ho.mono (Nat.le_trans hsO hMM.1)).later hnz74
        clear hnz74 hbz74 hsO
        clear ho hoz hbb hMM
        clear kZU OZU
        go_wp2_with fail
        clear hz74
        refine (implDiv_c aX aM qX qM cX cM xx xm _ LNX.out LNM.out (by omega) (by omega) OX.out.rd'.2 OM.out.rd'.2 z2 us true pz2 pus R3.out HPpz2.out HPpus.out).mono ?_
        rintro e y75 ⟨aZVV, cZVV, aVV, cVV, MM, rfl, hoz, ho, hMM, hbb⟩
        obtain ⟨z76, hz76⟩ : ∃ x, ((y75.alloc (Obj.cells #[Value.slice aZVV pz2 cZVV] 25)).alloc (Obj.cells #[Value.slice aVV pus cVV] 25)) = x := ⟨_, rfl⟩
        have hnz76 : Below y75.heap.size y75 z76 := by rw [← hz76]; exact below_two _ _ _
        have hbz76 : Below z74.heap.size z74 z76 := hbb.trans (hnz76.mono hbb.size)
        have hszz76 : w.heap.size ≤ y75.heap.size := Nat.le_trans HB.out.size hbb.size
        have hsO : w.heap.size ≤ z74.heap.size := HB.out.size
        replace kX : z76.cell? ⟨y53.heap.size, 0, none⟩ = some (.slice aX qX cX) := keepC hbz76 kX
        replace OX : Hid (Own z76 w.heap.size (.slice aX qX cX) xx) := OX.out.later hbz76
        replace kM : z76.cell? ⟨y53.heap.size + 1, 0, none⟩ = some (.slice aM qM cM) := keepC hbz76 kM
        replace OM : Hid (Own z76 w.heap.size (.slice aM qM cM) xm) := OM.out.later hbz76
        replace kR : z76.cell? ⟨y55.heap.size, 0, none⟩ = some (.slice aR pr cR) := keepC hbz76 kR
        replace OR : Hid (Own z76 w.heap.size (.slice aR pr cR) zr) := OR.out.later hbz76
        replace kT : z76.cell? ⟨y71.heap.size, 0, none⟩ = some (.slice aT pts cT) := keepC hbz76 kT
        replace OT : Hid (Own z76 w.heap.size (.slice aT pts cT) ts) := OT.out.later hbz76
        replace kU : z76.cell? ⟨y73.heap.size + 1, 0, none⟩ = some (.slice aU pus cU) := keepC hbz76 kU
        replace OU : Hid (Own z76 w.heap.size (.slice aU pus cU) us) := OU.out.later hbz76
        replace HB : Hid (Below w.heap.size w z76) := HB.out.trans (hbz76.mono HB.out.size)
        have kZVV : z76.cell? ⟨y75.heap.size, 0, none⟩ = some (.slice aZVV pz2 cZVV) := by rw [← hz76]; exact calloc (cnew _ _ _)
        have OZVV : Hid (Own z76 w.heap.size (.slice aZVV pz2 cZVV) z2) := (hoz.mono hsO).later hnz76
        have kVV : z76.cell? ⟨y75.heap.size + 1, 0, none⟩ = some (.slice aVV pus cVV) := by rw [← hz76]; simp
        have OVV : Hid (Own z76 w.heap.size (.slice aVV pus cVV) us) := (ho.mono (Nat.le_trans hsO hMM.1)).later hnz76
        clear hnz76 hbz76 hsO
        clear ho hoz hbb hMM
        clear kZVV OZVV
        go_wp2_with fail
        clear hz76
        refine (implCompare_c aR aM pr qM cR cM zr xm _ HPpr.out LNM.out (by omega) (by omega) OR.out.rd'.2 OM.out.rd'.2).mono ?_
        rw [R4.out]
        rintro e y77 ⟨rfl, hbb⟩
        replace kX : y77.cell? ⟨y53.heap.size, 0, none⟩ = some (.slice aX qX cX) := keepC hbb kX
        replace OX : Hid (Own y77 w.heap.size (.slice aX qX cX) xx) := OX.out.later hbb
        replace kM : y77.cell? ⟨y53.heap.size + 1, 0, none⟩ = some (.slice aM qM cM) := keepC hbb kM
        replace OM : Hid (Own y77 w.heap.size (.slice aM qM cM) xm) := OM.out.later hbb
        replace kR : y77.cell? ⟨y55.heap.size, 0, none⟩ = some (.slice aR pr cR) := keepC hbb kR
        replace OR : Hid (Own y77 w.heap.size (.slice aR pr cR) zr) := OR.out.later hbb
        replace kT : y77.cell? ⟨y71.heap.size, 0, none⟩ = some (.slice aT pts cT) := keepC hbb kT
        replace OT : Hid (Own y77 w.heap.size (.slice aT pts cT) ts) := OT.out.later hbb
        replace kU : y77.cell? ⟨y73.heap.size + 1, 0, none⟩ = some (.slice aU pus cU) := keepC hbb kU
        replace OU : Hid (Own y77 w.heap.size (.slice aU pus cU) us) := OU.out.later hbb
        replace kVV : y77.cell? ⟨y75.heap.size + 1, 0, none⟩ = some (.slice aVV pus cVV) := keepC hbb kVV
        replace OVV : Hid (Own y77 w.heap.size (.slice aVV pus cVV) us) := OVV.out.later hbb
        replace HB : Hid (Below w.heap.size w y77) := HB.out.trans (hbb.mono HB.out.size)
        clear hbb
        go_wp2_with fail
        refine (sameBig_t _ HPpus.out (by omega) OU.out.rd'.2 OVV.out.rd'.2).mono ?_
        rintro e y78 ⟨rfl, hbb⟩
        replace kX : y78.cell? ⟨y53.heap.size, 0, none⟩ = some (.slice aX qX cX) := keepC hbb kX
        replace OX : Hid (Own y78 w.heap.size (.slice aX qX cX) xx) := OX.out.later hbb
        replace kM : y78.cell? ⟨y53.heap.size + 1, 0, none⟩ = some (.slice aM qM cM) := keepC hbb kM
        replace OM : Hid (Own y78 w.heap.size (.slice aM qM cM) xm) := OM.out.later hbb
        replace kR : y78.cell? ⟨y55.heap.size, 0, none⟩ = some (.slice aR pr cR) := keepC hbb kR
        replace OR : Hid (Own y78 w.heap.size (.slice aR pr cR) zr) := OR.out.later hbb
        replace kT : y78.cell? ⟨y71.heap.size, 0, none⟩ = some (.slice aT pts cT) := keepC hbb kT
        replace OT : Hid (Own y78 w.heap.size (.slice aT pts cT) ts) := OT.out.later hbb
        replace kU : y78.cell? ⟨y73.heap.size + 1, 0, none⟩ = some (.slice aU pus cU) := keepC hbb kU
        replace OU : Hid (Own y78 w.heap.size (.slice aU pus cU) us) := OU.out.later hbb
        replace kVV : y78.cell? ⟨y75.heap.size + 1, 0, none⟩ = some (.slice aVV pus cVV) := keepC hbb kVV
        replace OVV : Hid (Own y78 w.heap.size (.slice aVV pus cVV) us) := OVV.out.later hbb
        replace HB : Hid (Below w.heap.size w y78) := HB.out.trans (hbb.mono HB.out.size)
        clear hbb
        clear kX OX
        clear kM OM
        clear kR OR
        clear kT OT
        clear kU OU
        clear kVV OVV
        go_wp2_with fail
        refine (drawLess_c bo m d _ hm (HM.out.later HB.out HB.out.size)).mono ?_
        rintro e y79 ⟨⟨aY, qY, cY, xy, aZ, qZ, cZ, xz, rfl, hqY, hqZ, hlY, hlZ, ho1, ho2⟩, hbb⟩
        have LNY : Hid (xy.length = qY) := hlY
        have LNZ : Hid (xz.length = qZ) := hlZ
        obtain ⟨z80, hz80⟩ : ∃ x, ((y79.alloc (Obj.cells #[Value.slice aY qY cY] 25)).alloc (Obj.cells #[Value.slice aZ qZ cZ] 25)) = x := ⟨_, rfl⟩
        have hnz80 : Below y79.heap.size y79 z80 := by rw [← hz80]; exact below_two _ _ _
        have hbz80 : Below y78.heap.size y78 z80 := hbb.trans (hnz80.mono hbb.size)
        have hszz80 : w.heap.size ≤ y79.heap.size := Nat.le_trans HB.out.size hbb.size
        have hsO : w.heap.size ≤ y78.heap.size := HB.out.size
        replace HB : Hid (Below w.heap.size w z80) := HB.out.trans (hbz80.mono HB.out.size)
        have kY : z80.cell? ⟨y79.heap.size, 0, none⟩ = some (.slice aY qY cY) := by rw [← hz80]; exact calloc (cnew _ _ _)
        have OY : Hid (Own z80 w.heap.size (.slice aY qY cY) xy) := (ho1.mono hsO).later hnz80
        have kZ : z80.cell? ⟨y79.heap.size + 1, 0, none⟩ = some (.slice aZ qZ cZ) := by rw [← hz80]; simp
        have OZ : Hid (Own z80 w.heap.size (.slice aZ qZ cZ) xz) := (ho2.mono hsO).later hnz80
        clear hnz80 hbz80 hsO
        clear ho1 ho2 hbb hlY hlZ
        obtain ⟨zd, fd, hF⟩ : ∃ z b, lessF xy xz = (z, b) := ⟨_, _, rfl⟩
        have HFd : Hid (lessF xy xz = (zd, fd)) := hF
        obtain ⟨pd, hp⟩ : ∃ p, zd.length = p := ⟨_, rfl⟩
        have HPpd : Hid (zd.length = pd) := hp
        have hp6pd : pd ≤ 6 := by rw [← hp]; exact lessF_short hF
        clear hF hp
        go_wp2_with fail
        clear hz80
        refine (implLess_c aY aZ qY qZ cY cZ xy xz _ LNY.out LNZ.out (by omega) (by omega) OY.out.rd'.2 OZ.out.rd'.2 zd fd pd HFd.out HPpd.out).mono ?_
        rintro e y81 ⟨aD, cD, rfl, ho, hbb⟩
        obtain ⟨z82, hz82⟩ : ∃ x, (y81.alloc (Obj.cells #[Value.slice aD pd cD] 25)) = x := ⟨_, rfl⟩
        have hnz82 : Below y81.heap.size y81 z82 := by rw [← hz82]; exact balloc _ _
        have hbz82 : Below z80.heap.size z80 z82 := hbb.trans (hnz82.mono hbb.size)
        have hszz82 : w.heap.size ≤ y81.heap.size := Nat.le_trans HB.out.size hbb.size
        have hsO : w.heap.size ≤ z80.heap.size := HB.out.size
        replace kY : z82.cell? ⟨y79.heap.size, 0, none⟩ = some (.slice aY qY cY) := keepC hbz82 kY
        replace OY : Hid (Own z82 w.heap.size (.slice aY qY cY) xy) := OY.out.later hbz82
        replace kZ : z82.cell? ⟨y79.heap.size + 1, 0, none⟩ = some (.slice aZ qZ cZ) := keepC hbz82 kZ
        replace OZ : Hid (Own z82 w.heap.size (.slice aZ qZ cZ) xz) := OZ.out.later hbz82
        replace HB : Hid (Below w.heap.size w z82) := HB.out.trans (hbz82.mono HB.out.size)
        have kD : z82.cell? ⟨y81.heap.size, 0, none⟩ = some (.slice aD pd cD) := by rw [← hz82]; exact cnew _ _ _
        have OD : Hid (Own z82 w.heap.size (.slice aD pd cD) zd) := (ho.mono hsO).later hnz82
        clear hnz82 hbz82 hsO
        clear ho hbb
        go_wp2_with fail
        clear hz82
        refine (specLess_c aY aZ qY qZ cY cZ xy xz _ LNY.out LNZ.out (by omega) (by omega) OY.out.rd'.2 OZ.out.rd'.2 zd fd pd HFd.out HPpd.out).mono ?_
        rintro e y83 ⟨aLE, cLE, rfl, ho, hbb⟩
        obtain ⟨z84, hz84⟩ : ∃ x, (y83.alloc (Obj.cells #[Value.slice aLE pd cLE] 25)) = x := ⟨_, rfl⟩
        have hnz84 : Below y83.heap.size y83 z84 := by rw [← hz84]; exact balloc _ _
        have hbz84 : Below z82.heap.size z82 z84 := hbb.trans (hnz84.mono hbb.size)
        have hszz84 : w.heap.size ≤ y83.heap.size := Nat.le_trans HB.out.size hbb.size
        have hsO : w.heap.size ≤ z82.heap.size := HB.out.size
        replace kY : z84.cell? ⟨y79.heap.size, 0, none⟩ = some (.slice aY qY cY) := keepC hbz84 kY
        replace OY : Hid (Own z84 w.heap.size (.slice aY qY cY) xy) := OY.out.later hbz84
        replace kZ : z84.cell? ⟨y79.heap.size + 1, 0, none⟩ = some (.slice aZ qZ cZ) := keepC hbz84 kZ
        replace OZ : Hid (Own z84 w.heap.size (.slice aZ qZ cZ) xz) := OZ.out.later hbz84
        replace kD : z84.cell? ⟨y81.heap.size, 0, none⟩ = some (.slice aD pd cD) := keepC hbz84 kD
        replace OD : Hid (Own z84 w.heap.size (.slice aD pd cD) zd) := OD.out.later hbz84
        replace HB : Hid (Below w.heap.size w z84) := HB.out.trans (hbz84.mono HB.out.size)
        have kLE : z84.cell? ⟨y83.heap.size, 0, none⟩ = some (.slice aLE pd cLE) := by rw [← hz84]; exact cnew _ _ _
        have OLE : Hid (Own z84 w.heap.size (.slice aLE pd cLE) zd) := (ho.mono hsO).later hnz84
        clear hnz84 hbz84 hsO
        clear ho hbb
        clear kY OY
        clear kZ OZ
        go_wp2_with fail
        clear hz84
        refine (drawCompare_c bo m d _ hm (HM.out.later HB.out HB.out.size)).mono ?_
        rintro e y85 ⟨⟨aE, qE, cE, xe, aF, qF, cF, xf, rfl, hqE, hqF, hlE, hlF, ho1, ho2⟩, hbb⟩
        have LNE : Hid (xe.length = qE) := hlE
        have LNF : Hid (xf.length = qF) := hlF
        obtain ⟨z86, hz86⟩ : ∃ x, ((y85.alloc (Obj.cells #[Value.slice aE qE cE] 25)).alloc (Obj.cells #[Value.slice aF qF cF] 25)) = x := ⟨_, rfl⟩
        have hnz86 : Below y85.heap.size y85 z86 := by rw [← hz86]; exact below_two _ _ _
        have hbz86 : Below z84.heap.size z84 z86 := hbb.trans (hnz86.mono hbb.size)
        have hszz86 : w.heap.size ≤ y85.heap.size := Nat.le_trans HB.out.size hbb.size
        have hsO : w.heap.size ≤ z84.heap.size := HB.out.size
        replace kD : z86.cell? ⟨y81.heap.size, 0, none⟩ = some (.slice aD pd cD) := keepC hbz86 kD
        replace OD : Hid (Own z86 w.heap.size (.slice aD pd cD) zd) := OD.out.later hbz86
        replace kLE : z86.cell? ⟨y83.heap.size, 0, none⟩ = some (.slice aLE pd cLE) := keepC hbz86 kLE
        replace OLE : Hid (Own z86 w.heap.size (.slice aLE pd cLE) zd) := OLE.out.later hbz86
        replace HB : Hid (Below w.heap.size w z86) := HB.out.trans (hbz86.mono HB.out.size)
        have kE : z86.cell? ⟨y85.heap.size, 0, none⟩ = some (.slice aE qE cE) := by rw [← hz86]; exact calloc (cnew _ _ _)
        have OE : Hid (Own z86 w.heap.size (.slice aE qE cE) xe) := (ho1.mono hsO).later hnz86
        have kF : z86.cell? ⟨y85.heap.size + 1, 0, none⟩ = some (.slice aF qF cF) := by rw [← hz86]; simp
        have OF : Hid (Own z86 w.heap.size (.slice aF qF cF) xf) := (ho2.mono hsO).later hnz86
        clear hnz86 hbz86 hsO
        clear ho1 ho2 hbb hlE hlF
        obtain ⟨cv, hcv⟩ : ∃ x, (cmpF xe xf).1 = x := ⟨_, rfl⟩
        obtain ⟨cb, hcb⟩ : ∃ x, (cmpF xe xf).2 = x := ⟨_, rfl⟩
        have e3 : (fd == fd) = true := by simp
        have e4 : (cb == cb) = true := by simp
        have e5 : (cv == cv) = true := by simp
        go_wp2_with fail
        clear hz86
        refine (implCompare_c aE aF qE qF cE cF xe xf _ LNE.out LNF.out (by omega) (by omega) OE.out.rd'.2 OF.out.rd'.2).mono ?_
        rw [hcv, hcb]
        rintro e y87 ⟨rfl, hbb⟩
        replace kD : y87.cell? ⟨y81.heap.size, 0, none⟩ = some (.slice aD pd cD) := keepC hbb kD
        replace OD : Hid (Own y87 w.heap.size (.slice aD pd cD) zd) := OD.out.later hbb
        replace kLE : y87.cell? ⟨y83.heap.size, 0, none⟩ = some (.slice aLE pd cLE) := keepC hbb kLE
        replace OLE : Hid (Own y87 w.heap.size (.slice aLE pd cLE) zd) := OLE.out.later hbb
        replace kE : y87.cell? ⟨y85.heap.size, 0, none⟩ = some (.slice aE qE cE) := keepC hbb kE
        replace OE : Hid (Own y87 w.heap.size (.slice aE qE cE) xe) := OE.out.later hbb
        replace kF : y87.cell? ⟨y85.heap.size + 1, 0, none⟩ = some (.slice aF qF cF) := keepC hbb kF
        replace OF : Hid (Own y87 w.heap.size (.slice aF qF cF) xf) := OF.out.later hbb
        replace HB : Hid (Below w.heap.size w y87) := HB.out.trans (hbb.mono HB.out.size)
        clear hbb
        go_wp2_with fail
        refine (specCompare_c aE aF qE qF cE cF xe xf _ LNE.out LNF.out (by omega) (by omega) OE.out.rd'.2 OF.out.rd'.2).mono ?_
        rw [hcv, hcb]
        rintro e y88 ⟨rfl, hbb⟩
        replace kD : y88.cell? ⟨y81.heap.size, 0, none⟩ = some (.slice aD pd cD) := keepC hbb kD
        replace OD : Hid (Own y88 w.heap.size (.slice aD pd cD) zd) := OD.out.later hbb
        replace kLE : y88.cell? ⟨y83.heap.size, 0, none⟩ = some (.slice aLE pd cLE) := keepC hbb kLE
        replace OLE : Hid (Own y88 w.heap.size (.slice aLE pd cLE) zd) := OLE.out.later hbb
        replace kE : y88.cell? ⟨y85.heap.size, 0, none⟩ = some (.slice aE qE cE) := keepC hbb kE
        replace OE : Hid (Own y88 w.heap.size (.slice aE qE cE) xe) := OE.out.later hbb
        replace kF : y88.cell? ⟨y85.heap.size + 1, 0, none⟩ = some (.slice aF qF cF) := keepC hbb kF
        replace OF : Hid (Own y88 w.heap.size (.slice aF qF cF) xf) := OF.out.later hbb
        replace HB : Hid (Below w.heap.size w y88) := HB.out.trans (hbb.mono HB.out.size)
        clear hbb
        clear hcv hcb
        go_wp2_with fail
        refine (sameBig_t _ HPpd.out (by omega) OD.out.rd'.2 OLE.out.rd'.2).mono ?_
        rintro e y89 ⟨rfl, hbb⟩
        replace kD : y89.cell? ⟨y81.heap.size, 0, none⟩ = some (.slice aD pd cD) := keepC hbb kD
        replace OD : Hid (Own y89 w.heap.size (.slice aD pd cD) zd) := OD.out.later hbb
        replace kLE : y89.cell? ⟨y83.heap.size, 0, none⟩ = some (.slice aLE pd cLE) := keepC hbb kLE
        replace OLE : Hid (Own y89 w.heap.size (.slice aLE pd cLE) zd) := OLE.out.later hbb
        replace kE : y89.cell? ⟨y85.heap.size, 0, none⟩ = some (.slice aE qE cE) := keepC hbb kE
        replace OE : Hid (Own y89 w.heap.size (.slice aE qE cE) xe) := OE.out.later hbb
        replace kF : y89.cell? ⟨y85.heap.size + 1, 0, none⟩ = some (.slice aF qF cF) := keepC hbb kF
        replace OF : Hid (Own y89 w.heap.size (.slice aF qF cF) xf) := OF.out.later hbb
        replace HB : Hid (Below w.heap.size w y89) := HB.out.trans (hbb.mono HB.out.size)
        clear hbb
        go_wp2
        go_ret
        exact ⟨by simp, HB.out⟩
    · have hzz : zh = zt := by have h := half_times HFh.out; rw [HFt.out] at h; simpa using h.symm
      subst hzz
      have hpp : ph = pt := HPph.out.symm.trans HPpt.out
      subst hpp
      go_wp2_with fail
      refine (sameBig_t _ HPph.out (by omega) OH.out.rd'.2 OP.out.rd'.2).mono ?_
      rintro e y90 ⟨rfl, hbb⟩
      replace kA : y90.cell? ⟨y1.heap.size, 0, none⟩ = some (.slice aA qA cA) := keepC hbb kA
      replace OA : Hid (Own y90 w.heap.size (.slice aA qA cA) xa) := OA.out.later hbb
      replace kB : y90.cell? ⟨y1.heap.size + 1, 0, none⟩ = some (.slice aB qB cB) := keepC hbb kB
      replace OB : Hid (Own y90 w.heap.size (.slice aB qB cB) xb) := OB.out.later hbb
      replace kH : y90.cell? ⟨y3.heap.size, 0, none⟩ = some (.slice aH ph cH) := keepC hbb kH
      replace OH : Hid (Own y90 w.heap.size (.slice aH ph cH) zh) := OH.out.later hbb
      replace kWA : y90.cell? ⟨y5.heap.size, 0, none⟩ = some (.slice aWA ph cWA) := keepC hbb kWA
      replace OWA : Hid (Own y90 w.heap.size (.slice aWA ph cWA) zh) := OWA.out.later hbb
      replace kP : y90.cell? ⟨y7.heap.size, 0, none⟩ = some (.slice aP ph cP) := keepC hbb kP
      replace OP : Hid (Own y90 w.heap.size (.slice aP ph cP) zh) := OP.out.later hbb
      replace kPR : y90.cell? ⟨y9.heap.size, 0, none⟩ = some (.slice aPR ph cPR) := keepC hbb kPR
      replace OPR : Hid (Own y90 w.heap.size (.slice aPR ph cPR) zh) := OPR.out.later hbb
      replace HB : Hid (Below w.heap.size w y90) := HB.out.trans (hbb.mono HB.out.size)
      clear hbb
      clear kH OH
      clear kWA OWA
      clear kPR OPR
      go_wp2_with fail
      refine (implTimes_c aB aA qB qA cB cA xb xa _ LNB.out LNA.out (by omega) (by omega) OB.out.rd'.2 OA.out.rd'.2 zh true ph HTT.out HPph.out).mono ?_
      rintro e y91 ⟨aQ, cQ, rfl, ho, hbb⟩
      obtain ⟨z92, hz92⟩ : ∃ x, (y91.alloc (Obj.cells #[Value.slice aQ ph cQ] 25)) = x := ⟨_, rfl⟩
      have hnz92 : Below y91.heap.size y91 z92 := by rw [← hz92]; exact balloc _ _
      have hbz92 : Below y90.heap.size y90 z92 := hbb.trans (hnz92.mono hbb.size)
      have hszz92 : w.heap.size ≤ y91.heap.size := Nat.le_trans HB.out.size hbb.size
      have hsO : w.heap.size ≤ y90.heap.size := HB.out.size
      replace kA : z92.cell? ⟨y1.heap.size, 0, none⟩ = some (.slice aA qA cA) := keepC hbz92 kA
      replace OA : Hid (Own z92 w.heap.size (.slice aA qA cA) xa) := OA.out.later hbz92
      replace kB : z92.cell? ⟨y1.heap.size + 1, 0, none⟩ = some (.slice aB qB cB) := keepC hbz92 kB
      replace OB : Hid (Own z92 w.heap.size (.slice aB qB cB) xb) := OB.out.later hbz92
      replace kP : z92.cell? ⟨y7.heap.size, 0, none⟩ = some (.slice aP ph cP) := keepC hbz92 kP
      replace OP : Hid (Own z92 w.heap.size (.slice aP ph cP) zh) := OP.out.later hbz92
      replace HB : Hid (Below w.heap.size w z92) := HB.out.trans (hbz92.mono HB.out.size)
      have kQ : z92.cell? ⟨y91.heap.size, 0, none⟩ = some (.slice aQ ph cQ) := by rw [← hz92]; exact cnew _ _ _
      have OQ : Hid (Own z92 w.heap.size (.slice aQ ph cQ) zh) := (ho.mono hsO).later hnz92
      clear hnz92 hbz92 hsO
      clear ho hbb
      go_wp2_with fail
      clear hz92
      refine (sameBig_t _ HPph.out (by omega) OQ.out.rd'.2 OP.out.rd'.2).mono ?_
      rintro e y93 ⟨rfl, hbb⟩
      replace kA : y93.cell? ⟨y1.heap.size, 0, none⟩ = some (.slice aA qA cA) := keepC hbb kA
      replace OA : Hid (Own y93 w.heap.size (.slice aA qA cA) xa) := OA.out.later hbb
      replace kB : y93.cell? ⟨y1.heap.size + 1, 0, none⟩ = some (.slice aB qB cB) := keepC hbb kB
      replace OB : Hid (Own y93 w.heap.size (.slice aB qB cB) xb) := OB.out.later hbb
      replace kP : y93.cell? ⟨y7.heap.size, 0, none⟩ = some (.slice aP ph cP) := keepC hbb kP
      replace OP : Hid (Own y93 w.heap.size (.slice aP ph cP) zh) := OP.out.later hbb
      replace kQ : y93.cell? ⟨y91.heap.size, 0, none⟩ = some (.slice aQ ph cQ) := keepC hbb kQ
      replace OQ : Hid (Own y93 w.heap.size (.slice aQ ph cQ) zh) := OQ.out.later hbb
      replace HB : Hid (Below w.heap.size w y93) := HB.out.trans (hbb.mono HB.out.size)
      clear hbb
      clear HTT HFt HFh e1 e2
      clear kA OA
      clear kB OB
      clear kP OP
      clear kQ OQ
      go_wp2_with fail
      refine (drawReduce_c bo m d _ hm (HM.out.later HB.out HB.out.size)).mono ?_
      rintro e y94 ⟨⟨aX, qX, cX, xx, aM, qM, cM, xm, rfl, hqX, hqM, hlX, hlM, ho1, ho2⟩, hbb⟩
      have LNX : Hid (xx.length = qX) := hlX
      have LNM : Hid (xm.length = qM) := hlM
      obtain ⟨z95, hz95⟩ : ∃ x, ((y94.alloc (Obj.cells #[Value.slice aX qX cX] 25)).alloc (Obj.cells #[Value.slice aM qM cM] 25)) = x := ⟨_, rfl⟩
      have hnz95 : Below y94.heap.size y94 z95 := by rw [← hz95]; exact below_two _ _ _
      have hbz95 : Below y93.heap.size y93 z95 := hbb.trans (hnz95.mono hbb.size)
      have hszz95 : w.heap.size ≤ y94.heap.size := Nat.le_trans HB.out.size hbb.size
      have hsO : w.heap.size ≤ y93.heap.size := HB.out.size
      replace HB : Hid (Below w.heap.size w z95) := HB.out.trans (hbz95.mono HB.out.size)
      have kX : z95.cell? ⟨y94.heap.size, 0, none⟩ = some (.slice aX qX cX) := by rw [← hz95]; exact calloc (cnew _ _ _)
      have OX : Hid (Own z95 w.heap.size (.slice aX qX cX) xx) := (ho1.mono hsO).later hnz95
      have kM : z95.cell? ⟨y94.heap.size + 1, 0, none⟩ = some (.slice aM qM cM) := by rw [← hz95]; simp
      have OM : Hid (Own z95 w.heap.size (.slice aM qM cM) xm) := (ho2.mono hsO).later hnz95
      clear hnz95 hbz95 hsO
      clear ho1 ho2 hbb hlX hlM
      obtain ⟨zr, fr, hF⟩ : ∃ z b, redF xx xm = (z, b) := ⟨_, _, rfl⟩
      have HFr : Hid (redF xx xm = (zr, fr)) := hF
      obtain ⟨pr, hp⟩ : ∃ p, zr.length = p := ⟨_, rfl⟩
      have HPpr : Hid (zr.length = pr) := hp
      have hp6pr : pr ≤ 6 := by rw [← hp]; exact redF_short hF
      clear hF hp
      have e1 : (fr != fr) = false := by simp
      go_wp2_with fail
      clear hz95
      refine (implRed_c aX aM qX qM cX cM xx xm _ LNX.out LNM.out (by omega) (by omega) OX.out.rd'.2 OM.out.rd'.2 zr fr pr HFr.out HPpr.out).mono ?_
      rintro e y96 ⟨aR, cR, rfl, ho, hbb⟩
      obtain ⟨z97, hz97⟩ : ∃ x, (y96.alloc (Obj.cells #[Value.slice aR pr cR] 25)) = x := ⟨_, rfl⟩
      have hnz97 : Below y96.heap.size y96 z97 := by rw [← hz97]; exact balloc _ _
      have hbz97 : Below z95.heap.size z95 z97 := hbb.trans (hnz97.mono hbb.size)
      have hszz97 : w.heap.size ≤ y96.heap.size := Nat.le_trans HB.out.size hbb.size
      have hsO : w.heap.size ≤ z95.heap.size := HB.out.size
      replace kX : z97.cell? ⟨y94.heap.size, 0, none⟩ = some (.slice aX qX cX) := keepC hbz97 kX
      replace OX : Hid (Own z97 w.heap.size (.slice aX qX cX) xx) := OX.out.later hbz97
      replace kM : z97.cell? ⟨y94.heap.size + 1, 0, none⟩ = some (.slice aM qM cM) := keepC hbz97 kM
      replace OM : Hid (Own z97 w.heap.size (.slice aM qM cM) xm) := OM.out.later hbz97
      replace HB : Hid (Below w.heap.size w z97) := HB.out.trans (hbz97.mono HB.out.size)
      have kR : z97.cell? ⟨y96.heap.size, 0, none⟩ = some (.slice aR pr cR) := by rw [← hz97]; exact cnew _ _ _
      have OR : Hid (Own z97 w.heap.size (.slice aR pr cR) zr) := (ho.mono hsO).later hnz97
      clear hnz97 hbz97 hsO
      clear ho hbb
      go_wp2_with fail
      clear hz97
      refine (specRed_c aX aM qX qM cX cM xx xm _ LNX.out LNM.out (by omega) (by omega) OX.out.rd'.2 OM.out.rd'.2 zr fr pr HFr.out HPpr.out).mono ?_
      rintro e y98 ⟨aRD, cRD, rfl, ho, hbb⟩
      obtain ⟨z99, hz99⟩ : ∃ x, (y98.alloc (Obj.cells #[Value.slice aRD pr cRD] 25)) = x := ⟨_, rfl⟩
      have hnz99 : Below y98.heap.size y98 z99 := by rw [← hz99]; exact balloc _ _
      have hbz99 : Below z97.heap.size z97 z99 := hbb.trans (hnz99.mono hbb.size)
      have hszz99 : w.heap.size ≤ y98.heap.size := Nat.le_trans HB.out.size hbb.size
      have hsO : w.heap.size ≤ z97.heap.size := HB.out.size
      replace kX : z99.cell? ⟨y94.heap.size, 0, none⟩ = some (.slice aX qX cX) := keepC hbz99 kX
      replace OX : Hid (Own z99 w.heap.size (.slice aX qX cX) xx) := OX.out.later hbz99
      replace kM : z99.cell? ⟨y94.heap.size + 1, 0, none⟩ = some (.slice aM qM cM) := keepC hbz99 kM
      replace OM : Hid (Own z99 w.heap.size (.slice aM qM cM) xm) := OM.out.later hbz99
      replace kR : z99.cell? ⟨y96.heap.size, 0, none⟩ = some (.slice aR pr cR) := keepC hbz99 kR
      replace OR : Hid (Own z99 w.heap.size (.slice aR pr cR) zr) := OR.out.later hbz99
      replace HB : Hid (Below w.heap.size w z99) := HB.out.trans (hbz99.mono HB.out.size)
      have kRD : z99.cell? ⟨y98.heap.size, 0, none⟩ = some (.slice aRD pr cRD) := by rw [← hz99]; exact cnew _ _ _
      have ORD : Hid (Own z99 w.heap.size (.slice aRD pr cRD) zr) := (ho.mono hsO).later hnz99
      clear hnz99 hbz99 hsO
      clear ho hbb
      go_wp2_with fail
      clear hz99
      refine (sameBig_t _ HPpr.out (by omega) OR.out.rd'.2 ORD.out.rd'.2).mono ?_
      rintro e y100 ⟨rfl, hbb⟩
      replace kX : y100.cell? ⟨y94.heap.size, 0, none⟩ = some (.slice aX qX cX) := keepC hbb kX
      replace OX : Hid (Own y100 w.heap.size (.slice aX qX cX) xx) := OX.out.later hbb
      replace kM : y100.cell? ⟨y94.heap.size + 1, 0, none⟩ = some (.slice aM qM cM) := keepC hbb kM
      replace OM : Hid (Own y100 w.heap.size (.slice aM qM cM) xm) := OM.out.later hbb
      replace kR : y100.cell? ⟨y96.heap.size, 0, none⟩ = some (.slice aR pr cR) := keepC hbb kR
      replace OR : Hid (Own y100 w.heap.size (.slice aR pr cR) zr) := OR.out.later hbb
      replace kRD : y100.cell? ⟨y98.heap.size, 0, none⟩ = some (.slice aRD pr cRD) := keepC hbb kRD
      replace ORD : Hid (Own y100 w.heap.size (.slice aRD pr cRD) zr) := ORD.out.later hbb
      replace HB : Hid (Below w.heap.size w y100) := HB.out.trans (hbb.mono HB.out.size)
      clear hbb
      clear kRD ORD
      cases fr
      · clear HFr HPpr
        clear kX OX
        clear kM OM
        clear kR OR
        go_wp2_with fail
        refine (drawLess_c bo m d _ hm (HM.out.later HB.out HB.out.size)).mono ?_
        rintro e y101 ⟨⟨aY, qY, cY, xy, aZ, qZ, cZ, xz, rfl, hqY, hqZ, hlY, hlZ, ho1, ho2⟩, hbb⟩
        have LNY : Hid (xy.length = qY) := hlY
        have LNZ : Hid (xz.length = qZ) := hlZ
        obtain ⟨z102, hz102⟩ : ∃ x, ((y101.alloc (Obj.cells #[Value.slice aY qY cY] 25)).alloc (Obj.cells #[Value.slice aZ qZ cZ] 25)) = x := ⟨_, rfl⟩
        have hnz102 : Below y101.heap.size y101 z102 := by rw [← hz102]; exact below_two _ _ _
        have hbz102 : Below y100.heap.size y100 z102 := hbb.trans (hnz102.mono hbb.size)
        have hszz102 : w.heap.size ≤ y101.heap.size := Nat.le_trans HB.out.size hbb.size
        have hsO : w.heap.size ≤ y100.heap.size := HB.out.size
        replace HB : Hid (Below w.heap.size w z102) := HB.out.trans (hbz102.mono HB.out.size)
        have kY : z102.cell? ⟨y101.heap.size, 0, none⟩ = some (.slice aY qY cY) := by rw [← hz102]; exact calloc (cnew _ _ _)
        have OY : Hid (Own z102 w.heap.size (.slice aY qY cY) xy) := (ho1.mono hsO).later hnz102
        have kZ : z102.cell? ⟨y101.heap.size + 1, 0, none⟩ = some (.slice aZ qZ cZ) := by rw [← hz102]; simp
        have OZ : Hid (Own z102 w.heap.size (.slice aZ qZ cZ) xz) := (ho2.mono hsO).later hnz102
        clear hnz102 hbz102 hsO
        clear ho1 ho2 hbb hlY hlZ
        obtain ⟨zd, fd, hF⟩ : ∃ z b, lessF xy xz = (z, b) := ⟨_, _, rfl⟩
        have HFd : Hid (lessF xy xz = (zd, fd)) := hF
        obtain ⟨pd, hp⟩ : ∃ p, zd.length = p := ⟨_, rfl⟩
        have HPpd : Hid (zd.length = pd) := hp
        have hp6pd : pd ≤ 6 := by rw [← hp]; exact lessF_short hF
        clear hF hp
        go_wp2_with fail
        clear hz102
        refine (implLess_c aY aZ qY qZ cY cZ xy xz _ LNY.out LNZ.out (by omega) (by omega) OY.out.rd'.2 OZ.out.rd'.2 zd fd pd HFd.out HPpd.out).mono ?_
        rintro e y103 ⟨aD, cD, rfl, ho, hbb⟩
        obtain ⟨z104, hz104⟩ : ∃ x, (y103.alloc (Obj.cells #[Value.slice aD pd cD] 25)) = x := ⟨_, rfl⟩
        have hnz104 : Below y103.heap.size y103 z104 := by rw [← hz104]; exact balloc _ _
        have hbz104 : Below z102.heap.size z102 z104 := hbb.trans (hnz104.mono hbb.size)
        have hszz104 : w.heap.size ≤ y103.heap.size := Nat.le_trans HB.out.size hbb.size
        have hsO : w.heap.size ≤ z102.heap.size := HB.out.size
        replace kY : z104.cell? ⟨y101.heap.size, 0, none⟩ = some (.slice aY qY cY) := keepC hbz104 kY
        replace OY : Hid (Own z104 w.heap.size (.slice aY qY cY) xy) := OY.out.later hbz104
        replace kZ : z104.cell? ⟨y101.heap.size + 1, 0, none⟩ = some (.slice aZ qZ cZ) := keepC hbz104 kZ
        replace OZ : Hid (Own z104 w.heap.size (.slice aZ qZ cZ) xz) := OZ.out.later hbz104
        replace HB : Hid (Below w.heap.size w z104) := HB.out.trans (hbz104.mono HB.out.size)
        have kD : z104.cell? ⟨y103.heap.size, 0, none⟩ = some (.slice aD pd cD) := by rw [← hz104]; exact cnew _ _ _
        have OD : Hid (Own z104 w.heap.size (.slice aD pd cD) zd) := (ho.mono hsO).later hnz104
        clear hnz104 hbz104 hsO
        clear ho hbb
        go_wp2_with fail
        clear hz104
        refine (specLess_c aY aZ qY qZ cY cZ xy xz _ LNY.out LNZ.out (by omega) (by omega) OY.out.rd'.2 OZ.out.rd'.2 zd fd pd HFd.out HPpd.out).mono ?_
        rintro e y105 ⟨aLE, cLE, rfl, ho, hbb⟩
        obtain ⟨z106, hz106⟩ : ∃ x, (y105.alloc (Obj.cells #[Value.slice aLE pd cLE] 25)) = x := ⟨_, rfl⟩
        have hnz106 : Below y105.heap.size y105 z106 := by rw [← hz106]; exact balloc _ _
        have hbz106 : Below z104.heap.size z104 z106 := hbb.trans (hnz106.mono hbb.size)
        have hszz106 : w.heap.size ≤ y105.heap.size := Nat.le_trans HB.out.size hbb.size
        have hsO : w.heap.size ≤ z104.heap.size := HB.out.size
        replace kY : z106.cell? ⟨y101.heap.size, 0, none⟩ = some (.slice aY qY cY) := keepC hbz106 kY
        replace OY : Hid (Own z106 w.heap.size (.slice aY qY cY) xy) := OY.out.later hbz106
        replace kZ : z106.cell? ⟨y101.heap.size + 1, 0, none⟩ = some (.slice aZ qZ cZ) := keepC hbz106 kZ
        replace OZ : Hid (Own z106 w.heap.size (.slice aZ qZ cZ) xz) := OZ.out.later hbz106
        replace kD : z106.cell? ⟨y103.heap.size, 0, none⟩ = some (.slice aD pd cD) := keepC hbz106 kD
        replace OD : Hid (Own z106 w.heap.size (.slice aD pd cD) zd) := OD.out.later hbz106
        replace HB : Hid (Below w.heap.size w z106) := HB.out.trans (hbz106.mono HB.out.size)
        have kLE : z106.cell? ⟨y105.heap.size, 0, none⟩ = some (.slice aLE pd cLE) := by rw [← hz106]; exact cnew _ _ _
        have OLE : Hid (Own z106 w.heap.size (.slice aLE pd cLE) zd) := (ho.mono hsO).later hnz106
        clear hnz106 hbz106 hsO
        clear ho hbb
        clear kY OY
        clear kZ OZ
        go_wp2_with fail
        clear hz106
        refine (drawCompare_c bo m d _ hm (HM.out.later HB.out HB.out.size)).mono ?_
        rintro e y107 ⟨⟨aE, qE, cE, xe, aF, qF, cF, xf, rfl, hqE, hqF, hlE, hlF, ho1, ho2⟩, hbb⟩
        have LNE : Hid (xe.length = qE) := hlE
        have LNF : Hid (xf.length = qF) := hlF
        obtain ⟨z108, hz108⟩ : ∃ x, ((y107.alloc (Obj.cells #[Value.slice aE qE cE] 25)).alloc (Obj.cells #[Value.slice aF qF cF] 25)) = x := ⟨_, rfl⟩
        have hnz108 : Below y107.heap.size y107 z108 := by rw [← hz108]; exact below_two _ _ _
        have hbz108 : Below z106.heap.size z106 z108 := hbb.trans (hnz108.mono hbb.size)
        have hszz108 : w.heap.size ≤ y107.heap.size := Nat.le_trans HB.out.size hbb.size
        have hsO : w.heap.size ≤ z106.heap.size := HB.out.size
        replace kD : z108.cell? ⟨y103.heap.size, 0, none⟩ = some (.slice aD pd cD) := keepC hbz108 kD
        replace OD : Hid (Own z108 w.heap.size (.slice aD pd cD) zd) := OD.out.later hbz108
        replace kLE : z108.cell? ⟨y105.heap.size, 0, none⟩ = some (.slice aLE pd cLE) := keepC hbz108 kLE
        replace OLE : Hid (Own z108 w.heap.size (.slice aLE pd cLE) zd) := OLE.out.later hbz108
        replace HB : Hid (Below w.heap.size w z108) := HB.out.trans (hbz108.mono HB.out.size)
        have kE : z108.cell? ⟨y107.heap.size, 0, none⟩ = some (.slice aE qE cE) := by rw [← hz108]; exact calloc (cnew _ _ _)
        have OE : Hid (Own z108 w.heap.size (.slice aE qE cE) xe) := (ho1.mono hsO).later hnz108
        have kF : z108.cell? ⟨y107.heap.size + 1, 0, none⟩ = some (.slice aF qF cF) := by rw [← hz108]; simp
        have OF : Hid (Own z108 w.heap.size (.slice aF qF cF) xf) := (ho2.mono hsO).later hnz108
        clear hnz108 hbz108 hsO
        clear ho1 ho2 hbb hlE hlF
        obtain ⟨cv, hcv⟩ : ∃ x, (cmpF xe xf).1 = x := ⟨_, rfl⟩
        obtain ⟨cb, hcb⟩ : ∃ x, (cmpF xe xf).2 = x := ⟨_, rfl⟩
        have e3 : (fd == fd) = true := by simp
        have e4 : (cb == cb) = true := by simp
        have e5 : (cv == cv) = true := by simp
        go_wp2_with fail
        clear hz108
        refine (implCompare_c aE aF qE qF cE cF xe xf _ LNE.out LNF.out (by omega) (by omega) OE.out.rd'.2 OF.out.rd'.2).mono ?_
        rw [hcv, hcb]
        rintro e y109 ⟨rfl, hbb⟩
        replace kD : y109.cell? ⟨y103.heap.size, 0, none⟩ = some (.slice aD pd cD) := keepC hbb kD
        replace OD : Hid (Own y109 w.heap.size (.slice aD pd cD) zd) := OD.out.later hbb
        replace kLE : y109.cell? ⟨y105.heap.size, 0, none⟩ = some (.slice aLE pd cLE) := keepC hbb kLE
        replace OLE : Hid (Own y109 w.heap.size (.slice aLE pd cLE) zd) := OLE.out.later hbb
        replace kE : y109.cell? ⟨y107.heap.size, 0, none⟩ = some (.slice aE qE cE) := keepC hbb kE
        replace OE : Hid (Own y109 w.heap.size (.slice aE qE cE) xe) := OE.out.later hbb
        replace kF : y109.cell? ⟨y107.heap.size + 1, 0, none⟩ = some (.slice aF qF cF) := keepC hbb kF
        replace OF : Hid (Own y109 w.heap.size (.slice aF qF cF) xf) := OF.out.later hbb
        replace HB : Hid (Below w.heap.size w y109) := HB.out.trans (hbb.mono HB.out.size)
        clear hbb
        go_wp2_with fail
        refine (specCompare_c aE aF qE qF cE cF xe xf _ LNE.out LNF.out (by omega) (by omega) OE.out.rd'.2 OF.out.rd'.2).mono ?_
        rw [hcv, hcb]
        rintro e y110 ⟨rfl, hbb⟩
        replace kD : y110.cell? ⟨y103.heap.size, 0, none⟩ = some (.slice aD pd cD) := keepC hbb kD
        replace OD : Hid (Own y110 w.heap.size (.slice aD pd cD) zd) := OD.out.later hbb
        replace kLE : y110.cell? ⟨y105.heap.size, 0, none⟩ = some (.slice aLE pd cLE) := keepC hbb kLE
        replace OLE : Hid (Own y110 w.heap.size (.slice aLE pd cLE) zd) := OLE.out.later hbb
        replace kE : y110.cell? ⟨y107.heap.size, 0, none⟩ = some (.slice aE qE cE) := keepC hbb kE
        replace OE : Hid (Own y110 w.heap.size (.slice aE qE cE) xe) := OE.out.later hbb
        replace kF : y110.cell? ⟨y107.heap.size + 1, 0, none⟩ = some (.slice aF qF cF) := keepC hbb kF
        replace OF : Hid (Own y110 w.heap.size (.slice aF qF cF) xf) := OF.out.later hbb
        replace HB : Hid (Below w.heap.size w y110) := HB.out.trans (hbb.mono HB.out.size)
        clear hbb
        clear hcv hcb
        go_wp2_with fail
        refine (sameBig_t _ HPpd.out (by omega) OD.out.rd'.2 OLE.out.rd'.2).mono ?_
        rintro e y111 ⟨rfl, hbb⟩
        replace kD : y111.cell? ⟨y103.heap.size, 0, none⟩ = some (.slice aD pd cD) := keepC hbb kD
        replace OD : Hid (Own y111 w.heap.size (.slice aD pd cD) zd) := OD.out.later hbb
        replace kLE : y111.cell? ⟨y105.heap.size, 0, none⟩ = some (.slice aLE pd cLE) := keepC hbb kLE
        replace OLE : Hid (Own y111 w.heap.size (.slice aLE pd cLE) zd) := OLE.out.later hbb
        replace kE : y111.cell? ⟨y107.heap.size, 0, none⟩ = some (.slice aE qE cE) := keepC hbb kE
        replace OE : Hid (Own y111 w.heap.size (.slice aE qE cE) xe) := OE.out.later hbb
        replace kF : y111.cell? ⟨y107.heap.size + 1, 0, none⟩ = some (.slice aF qF cF) := keepC hbb kF
        replace OF : Hid (Own y111 w.heap.size (.slice aF qF cF) xf) := OF.out.later hbb
        replace HB : Hid (Below w.heap.size w y111) := HB.out.trans (hbb.mono HB.out.size)
        clear hbb
        go_wp2
        go_ret
        exact ⟨by simp, HB.out⟩
      · obtain ⟨ts, z1, us, z2, r1, r2, r3, r4⟩ := red_back HFr.out
        have R1 : Hid (shiftF zr 16 = (ts, true)) := r1
        have R2 : Hid (divF ts xm = (z1, us, true)) := r2
        have R3 : Hid (divF xx xm = (z2, us, true)) := r3
        have R4 : Hid (cmpF zr xm = (-1, true)) := r4
        have s1 := shiftF_less r1
        have s2 := divF_short r2
        have s3 := divF_short r3
        clear r1 r2 r3 r4 HFr
        obtain ⟨pts, hp⟩ : ∃ p, ts.length = p := ⟨_, rfl⟩
        have HPphs : Hid (ts.length = pts) := hp
        rw [hp] at s1
        clear hp
        obtain ⟨pz1, hp⟩ : ∃ p, z1.length = p := ⟨_, rfl⟩
        have HPpz1 : Hid (z1.length = pz1) := hp
        rw [hp] at s2
        clear hp
        obtain ⟨pus, hp⟩ : ∃ p, us.length = p := ⟨_, rfl⟩
        have HPpus : Hid (us.length = pus) := hp
        rw [hp] at s2 s3
        clear hp
        obtain ⟨pz2, hp⟩ : ∃ p, z2.length = p := ⟨_, rfl⟩
        have HPpz2 : Hid (z2.length = pz2) := hp
        rw [hp] at s3
        clear hp
        go_wp2_with fail
        refine (implShift_c aR pr cR zr 16 _ HPpr.out (by omega) OR.out.rd'.2 (by omega) ts true pts R1.out HPphs.out).mono ?_
        rintro e y112 ⟨aT, cT, rfl, ho, hbb⟩
        obtain ⟨z113, hz113⟩ : ∃ x, (y112.alloc (Obj.cells #[Value.slice aT pts cT] 25)) = x := ⟨_, rfl⟩
        have hnz113 : Below y112.heap.size y112 z113 := by rw [← hz113]; exact balloc _ _
        have hbz113 : Below y100.heap.size y100 z113 := hbb.trans (hnz113.mono hbb.size)
        have hszz113 : w.heap.size ≤ y112.heap.size := Nat.le_trans HB.out.size hbb.size
        have hsO : w.heap.size ≤ y100.heap.size := HB.out.size
        replace kX : z113.cell? ⟨y94.heap.size, 0, none⟩ = some (.slice aX qX cX) := keepC hbz113 kX
        replace OX : Hid (Own z113 w.heap.size (.slice aX qX cX) xx) := OX.out.later hbz113
        replace kM : z113.cell? ⟨y94.heap.size + 1, 0, none⟩ = some (.slice aM qM cM) := keepC hbz113 kM
        replace OM : Hid (Own z113 w.heap.size (.slice aM qM cM) xm) := OM.out.later hbz113
        replace kR : z113.cell? ⟨y96.heap.size, 0, none⟩ = some (.slice aR pr cR) := keepC hbz113 kR
        replace OR : Hid (Own z113 w.heap.size (.slice aR pr cR) zr) := OR.out.later hbz113
        replace HB : Hid (Below w.heap.size w z113) := HB.out.trans (hbz113.mono HB.out.size)
        have kT : z113.cell? ⟨y112.heap.size, 0, none⟩ = some (.slice aT pts cT) := by rw [← hz113]; exact cnew _ _ _
        have OT : Hid (Own z113 w.heap.size (.slice aT pts cT) ts) := (ho.mono hsO).later hnz113
        clear hnz113 hbz113 hsO
        clear ho hbb
        go_wp2_with fail
        clear hz113
        refine (implDiv_c aT aM pts qM cT cM ts xm _ HPphs.out LNM.out (by omega) (by omega) OT.out.rd'.2 OM.out.rd'.2 z1 us true pz1 pus R2.out HPpz1.out HPpus.out).mono ?_
        rintro e y114 ⟨aZU, cZU, aU, cU, MM, rfl, hoz, ho, hMM, hbb⟩
        obtain ⟨z115, hz115⟩ : ∃ x, ((y114.alloc (Obj.cells #[Value.slice aZU pz1 cZU] 25)).alloc (Obj.cells #[Value.slice aU pus cU] 25)) = x := ⟨_, rfl⟩
        have hnz115 : Below y114.heap.size y114 z115 := by rw [← hz115]; exact below_two _ _ _
        have hbz115 : Below z113.heap.size z113 z115 := hbb.trans (hnz115.mono hbb.size)
        have hszz115 : w.heap.size ≤ y114.heap.size := Nat.le_trans HB.out.size hbb.size
        have hsO : w.heap.size ≤ z113.heap.size := HB.out.size
        replace kX : z115.cell? ⟨y94.heap.size, 0, none⟩ = some (.slice aX qX cX) := keepC hbz115 kX
        replace OX : Hid (Own z115 w.heap.size (.slice aX qX cX) xx) := OX.out.later hbz115
        replace kM : z115.cell? ⟨y94.heap.size + 1, 0, none⟩ = some (.slice aM qM cM) := keepC hbz115 kM
        replace OM : Hid (Own z115 w.heap.size (.slice aM qM cM) xm) := OM.out.later hbz115
        replace kR : z115.cell? ⟨y96.heap.size, 0, none⟩ = some (.slice aR pr cR) := keepC hbz115 kR
        replace OR : Hid (Own z115 w.heap.size (.slice aR pr cR) zr) := OR.out.later hbz115
        replace kT : z115.cell? ⟨y112.heap.size, 0, none⟩ = some (.slice aT pts cT) := keepC hbz115 kT
        replace OT : Hid (Own z115 w.heap.size (.slice aT pts cT) ts) := OT.out.later hbz115
        replace HB : Hid (Below w.heap.size w z115) := HB.out.trans (hbz115.mono HB.out.size)
        have kZU : z115.cell? ⟨y114.heap.size, 0, none⟩ = some (.slice aZU pz1 cZU) := by rw [← hz115]; exact calloc (cnew _ _ _)
        have OZU : Hid (Own z115 w.heap.size (.slice aZU pz1 cZU) z1) := (hoz.mono hsO).later hnz115
        have kU : z115.cell? ⟨y114.heap.size + 1, 0, none⟩ = some (.slice aU pus cU) := by rw [← hz115]; simp
        have OU : Hid (Own z115 w.heap.size (.slice aU pus cU) us) := (ho.mono (Nat.le_trans hsO hMM.1)).later hnz115
        clear hnz115 hbz115 hsO
        clear ho hoz hbb hMM
        clear kZU OZU
        go_wp2_with fail
        clear hz115
        refine (implDiv_c aX aM qX qM cX cM xx xm _ LNX.out LNM.out (by omega) (by omega) OX.out.rd'.2 OM.out.rd'.2 z2 us true pz2 pus R3.out HPpz2.out HPpus.out).mono ?_
        rintro e y116 ⟨aZVV, cZVV, aVV, cVV, MM, rfl, hoz, ho, hMM, hbb⟩
        obtain ⟨z117, hz117⟩ : ∃ x, ((y116.alloc (Obj.cells #[Value.slice aZVV pz2 cZVV] 25)).alloc (Obj.cells #[Value.slice aVV pus cVV] 25)) = x := ⟨_, rfl⟩
        have hnz117 : Below y116.heap.size y116 z117 := by rw [← hz117]; exact below_two _ _ _
        have hbz117 : Below z115.heap.size z115 z117 := hbb.trans (hnz117.mono hbb.size)
        have hszz117 : w.heap.size ≤ y116.heap.size := Nat.le_trans HB.out.size hbb.size
        have hsO : w.heap.size ≤ z115.heap.size := HB.out.size
        replace kX : z117.cell? ⟨y94.heap.size, 0, none⟩ = some (.slice aX qX cX) := keepC hbz117 kX
        replace OX : Hid (Own z117 w.heap.size (.slice aX qX cX) xx) := OX.out.later hbz117
        replace kM : z117.cell? ⟨y94.heap.size + 1, 0, none⟩ = some (.slice aM qM cM) := keepC hbz117 kM
        replace OM : Hid (Own z117 w.heap.size (.slice aM qM cM) xm) := OM.out.later hbz117
        replace kR : z117.cell? ⟨y96.heap.size, 0, none⟩ = some (.slice aR pr cR) := keepC hbz117 kR
        replace OR : Hid (Own z117 w.heap.size (.slice aR pr cR) zr) := OR.out.later hbz117
        replace kT : z117.cell? ⟨y112.heap.size, 0, none⟩ = some (.slice aT pts cT) := keepC hbz117 kT
        replace OT : Hid (Own z117 w.heap.size (.slice aT pts cT) ts) := OT.out.later hbz117
        replace kU : z117.cell? ⟨y114.heap.size + 1, 0, none⟩ = some (.slice aU pus cU) := keepC hbz117 kU
        replace OU : Hid (Own z117 w.heap.size (.slice aU pus cU) us) := OU.out.later hbz117
        replace HB : Hid (Below w.heap.size w z117) := HB.out.trans (hbz117.mono HB.out.size)
        have kZVV : z117.cell? ⟨y116.heap.size, 0, none⟩ = some (.slice aZVV pz2 cZVV) := by rw [← hz117]; exact calloc (cnew _ _ _)
        have OZVV : Hid (Own z117 w.heap.size (.slice aZVV pz2 cZVV) z2) := (hoz.mono hsO).later hnz117
        have kVV : z117.cell? ⟨y116.heap.size + 1, 0, none⟩ = some (.slice aVV pus cVV) := by rw [← hz117]; simp
        have OVV : Hid (Own z117 w.heap.size (.slice aVV pus cVV) us) := (ho.mono (Nat.le_trans hsO hMM.1)).later hnz117
        clear hnz117 hbz117 hsO
        clear ho hoz hbb hMM
        clear kZVV OZVV
        go_wp2_with fail
        clear hz117
        refine (implCompare_c aR aM pr qM cR cM zr xm _ HPpr.out LNM.out (by omega) (by omega) OR.out.rd'.2 OM.out.rd'.2).mono ?_
        rw [R4.out]
        rintro e y118 ⟨rfl, hbb⟩
        replace kX : y118.cell? ⟨y94.heap.size, 0, none⟩ = some (.slice aX qX cX) := keepC hbb kX
        replace OX : Hid (Own y118 w.heap.size (.slice aX qX cX) xx) := OX.out.later hbb
        replace kM : y118.cell? ⟨y94.heap.size + 1, 0, none⟩ = some (.slice aM qM cM) := keepC hbb kM
        replace OM : Hid (Own y118 w.heap.size (.slice aM qM cM) xm) := OM.out.later hbb
        replace kR : y118.cell? ⟨y96.heap.size, 0, none⟩ = some (.slice aR pr cR) := keepC hbb kR
        replace OR : Hid (Own y118 w.heap.size (.slice aR pr cR) zr) := OR.out.later hbb
        replace kT : y118.cell? ⟨y112.heap.size, 0, none⟩ = some (.slice aT pts cT) := keepC hbb kT
        replace OT : Hid (Own y118 w.heap.size (.slice aT pts cT) ts) := OT.out.later hbb
        replace kU : y118.cell? ⟨y114.heap.size + 1, 0, none⟩ = some (.slice aU pus cU) := keepC hbb kU
        replace OU : Hid (Own y118 w.heap.size (.slice aU pus cU) us) := OU.out.later hbb
        replace kVV : y118.cell? ⟨y116.heap.size + 1, 0, none⟩ = some (.slice aVV pus cVV) := keepC hbb kVV
        replace OVV : Hid (Own y118 w.heap.size (.slice aVV pus cVV) us) := OVV.out.later hbb
        replace HB : Hid (Below w.heap.size w y118) := HB.out.trans (hbb.mono HB.out.size)
        clear hbb
        go_wp2_with fail
        refine (sameBig_t _ HPpus.out (by omega) OU.out.rd'.2 OVV.out.rd'.2).mono ?_
        rintro e y119 ⟨rfl, hbb⟩
        replace kX : y119.cell? ⟨y94.heap.size, 0, none⟩ = some (.slice aX qX cX) := keepC hbb kX
        replace OX : Hid (Own y119 w.heap.size (.slice aX qX cX) xx) := OX.out.later hbb
        replace kM : y119.cell? ⟨y94.heap.size + 1, 0, none⟩ = some (.slice aM qM cM) := keepC hbb kM
        replace OM : Hid (Own y119 w.heap.size (.slice aM qM cM) xm) := OM.out.later hbb
        replace kR : y119.cell? ⟨y96.heap.size, 0, none⟩ = some (.slice aR pr cR) := keepC hbb kR
        replace OR : Hid (Own y119 w.heap.size (.slice aR pr cR) zr) := OR.out.later hbb
        replace kT : y119.cell? ⟨y112.heap.size, 0, none⟩ = some (.slice aT pts cT) := keepC hbb kT
        replace OT : Hid (Own y119 w.heap.size (.slice aT pts cT) ts) := OT.out.later hbb
        replace kU : y119.cell? ⟨y114.heap.size + 1, 0, none⟩ = some (.slice aU pus cU) := keepC hbb kU
        replace OU : Hid (Own y119 w.heap.size (.slice aU pus cU) us) := OU.out.later hbb
        replace kVV : y119.cell? ⟨y116.heap.size + 1, 0, none⟩ = some (.slice aVV pus cVV) := keepC hbb kVV
        replace OVV : Hid (Own y119 w.heap.size (.slice aVV pus cVV) us) := OVV.out.later hbb
        replace HB : Hid (Below w.heap.size w y119) := HB.out.trans (hbb.mono HB.out.size)
        clear hbb
        clear kX OX
        clear kM OM
        clear kR OR
        clear kT OT
        clear kU OU
        clear kVV OVV
        go_wp2_with fail
        refine (drawLess_c bo m d _ hm (HM.out.later HB.out HB.out.size)).mono ?_
        rintro e y120 ⟨⟨aY, qY, cY, xy, aZ, qZ, cZ, xz, rfl, hqY, hqZ, hlY, hlZ, ho1, ho2⟩, hbb⟩
        have LNY : Hid (xy.length = qY) := hlY
        have LNZ : Hid (xz.length = qZ) := hlZ
        obtain ⟨z121, hz121⟩ : ∃ x, ((y120.alloc (Obj.cells #[Value.slice aY qY cY] 25)).alloc (Obj.cells #[Value.slice aZ qZ cZ] 25)) = x := ⟨_, rfl⟩
        have hnz121 : Below y120.heap.size y120 z121 := by rw [← hz121]; exact below_two _ _ _
        have hbz121 : Below y119.heap.size y119 z121 := hbb.trans (hnz121.mono hbb.size)
        have hszz121 : w.heap.size ≤ y120.heap.size := Nat.le_trans HB.out.size hbb.size
        have hsO : w.heap.size ≤ y119.heap.size := HB.out.size
        replace HB : Hid (Below w.heap.size w z121) := HB.out.trans (hbz121.mono HB.out.size)
        have kY : z121.cell? ⟨y120.heap.size, 0, none⟩ = some (.slice aY qY cY) := by rw [← hz121]; exact calloc (cnew _ _ _)
        have OY : Hid (Own z121 w.heap.size (.slice aY qY cY) xy) := (ho1.mono hsO).later hnz121
        have kZ : z121.cell? ⟨y120.heap.size + 1, 0, none⟩ = some (.slice aZ qZ cZ) := by rw [← hz121]; simp
        have OZ : Hid (Own z121 w.heap.size (.slice aZ qZ cZ) xz) := (ho2.mono hsO).later hnz121
        clear hnz121 hbz121 hsO
        clear ho1 ho2 hbb hlY hlZ
        obtain ⟨zd, fd, hF⟩ : ∃ z b, lessF xy xz = (z, b) := ⟨_, _, rfl⟩
        have HFd : Hid (lessF xy xz = (zd, fd)) := hF
        obtain ⟨pd, hp⟩ : ∃ p, zd.length = p := ⟨_, rfl⟩
        have HPpd : Hid (zd.length = pd) := hp
        have hp6pd : pd ≤ 6 := by rw [← hp]; exact lessF_short hF
        clear hF hp
        go_wp2_with fail
        clear hz121
        refine (implLess_c aY aZ qY qZ cY cZ xy xz _ LNY.out LNZ.out (by omega) (by omega) OY.out.rd'.2 OZ.out.rd'.2 zd fd pd HFd.out HPpd.out).mono ?_
        rintro e y122 ⟨aD, cD, rfl, ho, hbb⟩
        obtain ⟨z123, hz123⟩ : ∃ x, (y122.alloc (Obj.cells #[Value.slice aD pd cD] 25)) = x := ⟨_, rfl⟩
        have hnz123 : Below y122.heap.size y122 z123 := by rw [← hz123]; exact balloc _ _
        have hbz123 : Below z121.heap.size z121 z123 := hbb.trans (hnz123.mono hbb.size)
        have hszz123 : w.heap.size ≤ y122.heap.size := Nat.le_trans HB.out.size hbb.size
        have hsO : w.heap.size ≤ z121.heap.size := HB.out.size
        replace kY : z123.cell? ⟨y120.heap.size, 0, none⟩ = some (.slice aY qY cY) := keepC hbz123 kY
        replace OY : Hid (Own z123 w.heap.size (.slice aY qY cY) xy) := OY.out.later hbz123
        replace kZ : z123.cell? ⟨y120.heap.size + 1, 0, none⟩ = some (.slice aZ qZ cZ) := keepC hbz123 kZ
        replace OZ : Hid (Own z123 w.heap.size (.slice aZ qZ cZ) xz) := OZ.out.later hbz123
        replace HB : Hid (Below w.heap.size w z123) := HB.out.trans (hbz123.mono HB.out.size)
        have kD : z123.cell? ⟨y122.heap.size, 0, none⟩ = some (.slice aD pd cD) := by rw [← hz123]; exact cnew _ _ _
        have OD : Hid (Own z123 w.heap.size (.slice aD pd cD) zd) := (ho.mono hsO).later hnz123
        clear hnz123 hbz123 hsO
        clear ho hbb
        go_wp2_with fail
        clear hz123
        refine (specLess_c aY aZ qY qZ cY cZ xy xz _ LNY.out LNZ.out (by omega) (by omega) OY.out.rd'.2 OZ.out.rd'.2 zd fd pd HFd.out HPpd.out).mono ?_
        rintro e y124 ⟨aLE, cLE, rfl, ho, hbb⟩
        obtain ⟨z125, hz125⟩ : ∃ x, (y124.alloc (Obj.cells #[Value.slice aLE pd cLE] 25)) = x := ⟨_, rfl⟩
        have hnz125 : Below y124.heap.size y124 z125 := by rw [← hz125]; exact balloc _ _
        have hbz125 : Below z123.heap.size z123 z125 := hbb.trans (hnz125.mono hbb.size)
        have hszz125 : w.heap.size ≤ y124.heap.size := Nat.le_trans HB.out.size hbb.size
        have hsO : w.heap.size ≤ z123.heap.size := HB.out.size
        replace kY : z125.cell? ⟨y120.heap.size, 0, none⟩ = some (.slice aY qY cY) := keepC hbz125 kY
        replace OY : Hid (Own z125 w.heap.size (.slice aY qY cY) xy) := OY.out.later hbz125
        replace kZ : z125.cell? ⟨y120.heap.size + 1, 0, none⟩ = some (.slice aZ qZ cZ) := keepC hbz125 kZ
        replace OZ : Hid (Own z125 w.heap.size (.slice aZ qZ cZ) xz) := OZ.out.later hbz125
        replace kD : z125.cell? ⟨y122.heap.size, 0, none⟩ = some (.slice aD pd cD) := keepC hbz125 kD
        replace OD : Hid (Own z125 w.heap.size (.slice aD pd cD) zd) := OD.out.later hbz125
        replace HB : Hid (Below w.heap.size w z125) := HB.out.trans (hbz125.mono HB.out.size)
        have kLE : z125.cell? ⟨y124.heap.size, 0, none⟩ = some (.slice aLE pd cLE) := by rw [← hz125]; exact cnew _ _ _
        have OLE : Hid (Own z125 w.heap.size (.slice aLE pd cLE) zd) := (ho.mono hsO).later hnz125
        clear hnz125 hbz125 hsO
        clear ho hbb
        clear kY OY
        clear kZ OZ
        go_wp2_with fail
        clear hz125
        refine (drawCompare_c bo m d _ hm (HM.out.later HB.out HB.out.size)).mono ?_
        rintro e y126 ⟨⟨aE, qE, cE, xe, aF, qF, cF, xf, rfl, hqE, hqF, hlE, hlF, ho1, ho2⟩, hbb⟩
        have LNE : Hid (xe.length = qE) := hlE
        have LNF : Hid (xf.length = qF) := hlF
        obtain ⟨z127, hz127⟩ : ∃ x, ((y126.alloc (Obj.cells #[Value.slice aE qE cE] 25)).alloc (Obj.cells #[Value.slice aF qF cF] 25)) = x := ⟨_, rfl⟩
        have hnz127 : Below y126.heap.size y126 z127 := by rw [← hz127]; exact below_two _ _ _
        have hbz127 : Below z125.heap.size z125 z127 := hbb.trans (hnz127.mono hbb.size)
        have hszz127 : w.heap.size ≤ y126.heap.size := Nat.le_trans HB.out.size hbb.size
        have hsO : w.heap.size ≤ z125.heap.size := HB.out.size
        replace kD : z127.cell? ⟨y122.heap.size, 0, none⟩ = some (.slice aD pd cD) := keepC hbz127 kD
        replace OD : Hid (Own z127 w.heap.size (.slice aD pd cD) zd) := OD.out.later hbz127
        replace kLE : z127.cell? ⟨y124.heap.size, 0, none⟩ = some (.slice aLE pd cLE) := keepC hbz127 kLE
        replace OLE : Hid (Own z127 w.heap.size (.slice aLE pd cLE) zd) := OLE.out.later hbz127
        replace HB : Hid (Below w.heap.size w z127) := HB.out.trans (hbz127.mono HB.out.size)
        have kE : z127.cell? ⟨y126.heap.size, 0, none⟩ = some (.slice aE qE cE) := by rw [← hz127]; exact calloc (cnew _ _ _)
        have OE : Hid (Own z127 w.heap.size (.slice aE qE cE) xe) := (ho1.mono hsO).later hnz127
        have kF : z127.cell? ⟨y126.heap.size + 1, 0, none⟩ = some (.slice aF qF cF) := by rw [← hz127]; simp
        have OF : Hid (Own z127 w.heap.size (.slice aF qF cF) xf) := (ho2.mono hsO).later hnz127
        clear hnz127 hbz127 hsO
        clear ho1 ho2 hbb hlE hlF
        obtain ⟨cv, hcv⟩ : ∃ x, (cmpF xe xf).1 = x := ⟨_, rfl⟩
        obtain ⟨cb, hcb⟩ : ∃ x, (cmpF xe xf).2 = x := ⟨_, rfl⟩
        have e3 : (fd == fd) = true := by simp
        have e4 : (cb == cb) = true := by simp
        have e5 : (cv == cv) = true := by simp
        go_wp2_with fail
        clear hz127
        refine (implCompare_c aE aF qE qF cE cF xe xf _ LNE.out LNF.out (by omega) (by omega) OE.out.rd'.2 OF.out.rd'.2).mono ?_
        rw [hcv, hcb]
        rintro e y128 ⟨rfl, hbb⟩
        replace kD : y128.cell? ⟨y122.heap.size, 0, none⟩ = some (.slice aD pd cD) := keepC hbb kD
        replace OD : Hid (Own y128 w.heap.size (.slice aD pd cD) zd) := OD.out.later hbb
        replace kLE : y128.cell? ⟨y124.heap.size, 0, none⟩ = some (.slice aLE pd cLE) := keepC hbb kLE
        replace OLE : Hid (Own y128 w.heap.size (.slice aLE pd cLE) zd) := OLE.out.later hbb
        replace kE : y128.cell? ⟨y126.heap.size, 0, none⟩ = some (.slice aE qE cE) := keepC hbb kE
        replace OE : Hid (Own y128 w.heap.size (.slice aE qE cE) xe) := OE.out.later hbb
        replace kF : y128.cell? ⟨y126.heap.size + 1, 0, none⟩ = some (.slice aF qF cF) := keepC hbb kF
        replace OF : Hid (Own y128 w.heap.size (.slice aF qF cF) xf) := OF.out.later hbb
        replace HB : Hid (Below w.heap.size w y128) := HB.out.trans (hbb.mono HB.out.size)
        clear hbb
        go_wp2_with fail
        refine (specCompare_c aE aF qE qF cE cF xe xf _ LNE.out LNF.out (by omega) (by omega) OE.out.rd'.2 OF.out.rd'.2).mono ?_
        rw [hcv, hcb]
        rintro e y129 ⟨rfl, hbb⟩
        replace kD : y129.cell? ⟨y122.heap.size, 0, none⟩ = some (.slice aD pd cD) := keepC hbb kD
        replace OD : Hid (Own y129 w.heap.size (.slice aD pd cD) zd) := OD.out.later hbb
        replace kLE : y129.cell? ⟨y124.heap.size, 0, none⟩ = some (.slice aLE pd cLE) := keepC hbb kLE
        replace OLE : Hid (Own y129 w.heap.size (.slice aLE pd cLE) zd) := OLE.out.later hbb
        replace kE : y129.cell? ⟨y126.heap.size, 0, none⟩ = some (.slice aE qE cE) := keepC hbb kE
        replace OE : Hid (Own y129 w.heap.size (.slice aE qE cE) xe) := OE.out.later hbb
        replace kF : y129.cell? ⟨y126.heap.size + 1, 0, none⟩ = some (.slice aF qF cF) := keepC hbb kF
        replace OF : Hid (Own y129 w.heap.size (.slice aF qF cF) xf) := OF.out.later hbb
        replace HB : Hid (Below w.heap.size w y129) := HB.out.trans (hbb.mono HB.out.size)
        clear hbb
        clear hcv hcb
        go_wp2_with fail
        refine (sameBig_t _ HPpd.out (by omega) OD.out.rd'.2 OLE.out.rd'.2).mono ?_
        rintro e y130 ⟨rfl, hbb⟩
        replace kD : y130.cell? ⟨y122.heap.size, 0, none⟩ = some (.slice aD pd cD) := keepC hbb kD
        replace OD : Hid (Own y130 w.heap.size (.slice aD pd cD) zd) := OD.out.later hbb
        replace kLE : y130.cell? ⟨y124.heap.size, 0, none⟩ = some (.slice aLE pd cLE) := keepC hbb kLE
        replace OLE : Hid (Own y130 w.heap.size (.slice aLE pd cLE) zd) := OLE.out.later hbb
        replace kE : y130.cell? ⟨y126.heap.size, 0, none⟩ = some (.slice aE qE cE) := keepC hbb kE
        replace OE : Hid (Own y130 w.heap.size (.slice aE qE cE) xe) := OE.out.later hbb
        replace kF : y130.cell? ⟨y126.heap.size + 1, 0, none⟩ = some (.slice aF qF cF) := keepC hbb kF
        replace OF : Hid (Own y130 w.heap.size (.slice aF qF cF) xf) := OF.out.later hbb
        replace HB : Hid (Below w.heap.size w y130) := HB.out.trans (hbb.mono HB.out.size)
        clear hbb
        go_wp2
        go_ret
        exact ⟨by simp, HB.out⟩

end Go.Proofs.Ytaedplfihjfchaa
