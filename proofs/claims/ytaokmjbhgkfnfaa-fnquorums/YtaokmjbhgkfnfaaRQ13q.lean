/- FnQuorums: its drawn region. -/
import Derived.Test.YtaokmjbhgkfnfaaLSX13q
namespace Go.Proofs.Ytaokmjbhgkfnfaa
set_option linter.unusedVariables false
set_option maxRecDepth 1000000
set_option linter.unusedSimpArgs false
open Go.RowKit

noncomputable def fqReg6 : Code := fstSeq4 (fstSeq4 (sndSeq4 (sndSeq4 (sndSeq4 (sndSeq4 (sndSeq4 ((Try.f4.body.getD .skip))))))))

set_option maxRecDepth 1000000 in
set_option maxHeartbeats 32000000 in
theorem fqReg6_w (j0 j1 j2 j3 j4 j6 j11 j12 j13 j14 j15 j16 j17 j18 j19 j20 j21 j22 j23 j24 j25 j26 j27 j28 j29 j30 j31 j32 j33 j34 j35 j36 j37 j38 j39 j40 j41 j42 j43 j44 j45 j46 j47 j48 j49 j50 j51 j52 j53 j54 j55 j56 j57 j58 j59 j60 j61 j62 j63 j64 j65 j66 j67 j68 j69 j70 j71 j72 j73 j74 j75 j76 j77 j78 j79 j80 j81 j82 j83 j84 j85 j86 j87 j88 j89 j90 j91 j92 j93 j94 j95 j96 j97 j98 j99 j100 j101 j102 j103 j104 j105 j106 j107 j108 j109 j110 j111 j112 j113 j114 j115 j116 j117 j118 j119 j120 j121 j122 j123 j124 j125 j126 j127 j128 j129 j130 j131 j132 j133 j134 j135 j136 j137 j138 j139 j140 j141 j142 j143 j144 j145 j146 j147 j148 j149 j150 j151 j152 j153 j154 j155 j156 j157 j158 j159 j160 j161 j162 j163 j164 j165 j166 j167 j168 j169 j170 j171 j172 j173 j174 j175 j176 j177 j178 j179 j180 j181 j182 j183 j184 j185 j186 j187 j188 j189 j190 j191 j192 j193 j194 j195 j196 j197 j198 j199 j200 j201 j202 j203 j204 j205 j206 j207 j208 j209 j210 j211 j212 j213 j214 j215 j216 j217 j218 j219 j220 j221 j222 j223 j224 j225 j226 j227 j228 j229 j230 j231 j232 j233 j234 j235 j236 : Value) (gB gX gY : Nat) (bf be : Int) (sa1 : Option Addr) (bs sc1 : Nat) (la1 : Option Addr) (bl lc1 : Nat) (ta1 : Option Addr) (bt tc1 : Nat) (nf ne : Int) (sa2 : Option Addr) (ns sc2 : Nat) (la2 : Option Addr) (nl lc2 : Nat) (ta2 : Option Addr) (nt tc2 : Nat) (sa3 : Option Addr) (sc3 : Nat) (la3 : Option Addr) (lc3 : Nat) (ta3 : Option Addr) (tc3 : Nat) (gb fb : Bool) (K : Act → World → Prop) (w : World) (cB : X5 w gB (.int .i64 bf) (.int .i64 be) (.slice sa1 bs sc1) (.slice la1 bl lc1) (.slice ta1 bt tc1)) (cX : X5 w gX (.int .i64 nf) (.int .i64 ne) (.slice sa2 ns sc2) (.slice la2 nl lc2) (.slice ta2 nt tc2)) (cY : X5 w gY (.int .i64 nf) (.int .i64 ne) (.slice sa3 ns sc3) (.slice la3 nl lc3) (.slice ta3 nt tc3))
  (qE : ∀ wx, Below w.heap.size w wx → Calls Try.prog 16 #[.agg #[.int .i64 nf, .int .i64 ne, .slice sa2 ns sc2, .slice la2 nl lc2, .slice ta2 nt tc2], .agg #[.int .i64 nf, .int .i64 ne, .slice sa3 ns sc3, .slice la3 nl lc3, .slice ta3 nt tc3]] wx fun r w' => r = .returned (.bool true) ∧ Below wx.heap.size wx w') (qI : ∀ wx, Below w.heap.size w wx → Calls Try.prog 17 #[.agg #[.int .i64 bf, .int .i64 be, .slice sa1 bs sc1, .slice la1 bl lc1, .slice ta1 bt tc1]] wx fun r w' => r = .returned (.bool gb) ∧ Below wx.heap.size wx w') (qS : ∀ wx, Below w.heap.size w wx → Calls Try.prog 22 #[.agg #[.int .i64 bf, .int .i64 be, .slice sa1 bs sc1, .slice la1 bl lc1, .slice ta1 bt tc1]] wx fun r w' => r = .returned (.bool gb) ∧ Below wx.heap.size wx w') (qX : fb = true → ∀ wx, Below w.heap.size w wx → Calls Try.prog 17 #[.agg #[.int .i64 nf, .int .i64 ne, .slice sa2 ns sc2, .slice la2 nl lc2, .slice ta2 nt tc2]] wx fun r w' => r = .returned (.bool true) ∧ Below wx.heap.size wx w')
  (hKK : ∀ (v63 v64 v65 v66 v67 v68 v69 v70 v71 v72 v73 v74 v75 v76 v77 v78 v79 v80 v81 v82 v83 v84 v85 : Value) (wx : World), Below w.heap.size w wx → K ⟨#[j0, j1, j2, j3, j4, .pointer (some ⟨gB, 0, none⟩), j6, .pointer (some ⟨gX, 0, none⟩), .bool fb, .pointer (some ⟨gY, 0, none⟩), .bool fb, j11, j12, j13, j14, j15, j16, j17, j18, j19, j20, j21, j22, j23, j24, j25, j26, j27, j28, j29, j30, j31, j32, j33, j34, j35, j36, j37, j38, j39, j40, j41, j42, j43, j44, j45, j46, j47, j48, j49, j50, j51, j52, j53, j54, j55, j56, j57, j58, j59, j60, j61, j62, v63, v64, v65, v66, v67, v68, v69, v70, v71, v72, v73, v74, v75, v76, v77, v78, v79, v80, v81, v82, v83, v84, v85, .bool false, j87, j88, j89, j90, j91, j92, j93, j94, j95, j96, j97, j98, j99, j100, j101, j102, j103, j104, j105, j106, j107, j108, j109, j110, j111, j112, j113, j114, j115, j116, j117, j118, j119, j120, j121, j122, j123, j124, j125, j126, j127, j128, j129, j130, j131, j132, j133, j134, j135, j136, j137, j138, j139, j140, j141, j142, j143, j144, j145, j146, j147, j148, j149, j150, j151, j152, j153, j154, j155, j156, j157, j158, j159, j160, j161, j162, j163, j164, j165, j166, j167, j168, j169, j170, j171, j172, j173, j174, j175, j176, j177, j178, j179, j180, j181, j182, j183, j184, j185, j186, j187, j188, j189, j190, j191, j192, j193, j194, j195, j196, j197, j198, j199, j200, j201, j202, j203, j204, j205, j206, j207, j208, j209, j210, j211, j212, j213, j214, j215, j216, j217, j218, j219, j220, j221, j222, j223, j224, j225, j226, j227, j228, j229, j230, j231, j232, j233, j234, j235, j236], []⟩ wx) :
  fqReg6.wp Try.prog (Exit.then K (fun _ _ _ => False)) ⟨#[j0, j1, j2, j3, j4, .pointer (some ⟨gB, 0, none⟩), j6, .pointer (some ⟨gX, 0, none⟩), .bool fb, .pointer (some ⟨gY, 0, none⟩), .bool fb, j11, j12, j13, j14, j15, j16, j17, j18, j19, j20, j21, j22, j23, j24, j25, j26, j27, j28, j29, j30, j31, j32, j33, j34, j35, j36, j37, j38, j39, j40, j41, j42, j43, j44, j45, j46, j47, j48, j49, j50, j51, j52, j53, j54, j55, j56, j57, j58, j59, j60, j61, j62, j63, j64, j65, j66, j67, j68, j69, j70, j71, j72, j73, j74, j75, j76, j77, j78, j79, j80, j81, j82, j83, j84, j85, j86, j87, j88, j89, j90, j91, j92, j93, j94, j95, j96, j97, j98, j99, j100, j101, j102, j103, j104, j105, j106, j107, j108, j109, j110, j111, j112, j113, j114, j115, j116, j117, j118, j119, j120, j121, j122, j123, j124, j125, j126, j127, j128, j129, j130, j131, j132, j133, j134, j135, j136, j137, j138, j139, j140, j141, j142, j143, j144, j145, j146, j147, j148, j149, j150, j151, j152, j153, j154, j155, j156, j157, j158, j159, j160, j161, j162, j163, j164, j165, j166, j167, j168, j169, j170, j171, j172, j173, j174, j175, j176, j177, j178, j179, j180, j181, j182, j183, j184, j185, j186, j187, j188, j189, j190, j191, j192, j193, j194, j195, j196, j197, j198, j199, j200, j201, j202, j203, j204, j205, j206, j207, j208, j209, j210, j211, j212, j213, j214, j215, j216, j217, j218, j219, j220, j221, j222, j223, j224, j225, j226, j227, j228, j229, j230, j231, j232, j233, j234, j235, j236], []⟩ w := by
 have hgg : (gb != gb) = false := by simp
 simp only [fqReg6, Try.f4, Option.getD_some, sndSeq4, fstSeq4]
 cases fb
 case false =>
  refine wp_region_held_drew (S := (fun w' => w'.cell? ⟨gB, 0, none⟩ = some (.int .i64 bf) ∧ w'.cell? ⟨gB, 1, none⟩ = some (.int .i64 be) ∧ w'.cell? ⟨gB, 2, none⟩ = some (.slice sa1 bs sc1) ∧ w'.cell? ⟨gB, 3, none⟩ = some (.slice la1 bl lc1) ∧ w'.cell? ⟨gB, 4, none⟩ = some (.slice ta1 bt tc1) ∧ w'.cell? ⟨gX, 0, none⟩ = some (.int .i64 nf) ∧ w'.cell? ⟨gX, 1, none⟩ = some (.int .i64 ne) ∧ w'.cell? ⟨gX, 2, none⟩ = some (.slice sa2 ns sc2) ∧ w'.cell? ⟨gX, 3, none⟩ = some (.slice la2 nl lc2) ∧ w'.cell? ⟨gX, 4, none⟩ = some (.slice ta2 nt tc2) ∧ w'.cell? ⟨gY, 0, none⟩ = some (.int .i64 nf) ∧ w'.cell? ⟨gY, 1, none⟩ = some (.int .i64 ne) ∧ w'.cell? ⟨gY, 2, none⟩ = some (.slice sa3 ns sc3) ∧ w'.cell? ⟨gY, 3, none⟩ = some (.slice la3 nl lc3) ∧ w'.cell? ⟨gY, 4, none⟩ = some (.slice ta3 nt tc3))) (by kernel_rfl) ?_ (fun hHeld => ?_)
  ·exact ⟨(cB.later ((Below.refl _ _).drew)).1.1, (cB.later ((Below.refl _ _).drew)).1.2.1, (cB.later ((Below.refl _ _).drew)).1.2.2.1, (cB.later ((Below.refl _ _).drew)).1.2.2.2.1, (cB.later ((Below.refl _ _).drew)).1.2.2.2.2, (cX.later ((Below.refl _ _).drew)).1.1, (cX.later ((Below.refl _ _).drew)).1.2.1, (cX.later ((Below.refl _ _).drew)).1.2.2.1, (cX.later ((Below.refl _ _).drew)).1.2.2.2.1, (cX.later ((Below.refl _ _).drew)).1.2.2.2.2, (cY.later ((Below.refl _ _).drew)).1.1, (cY.later ((Below.refl _ _).drew)).1.2.1, (cY.later ((Below.refl _ _).drew)).1.2.2.1, (cY.later ((Below.refl _ _).drew)).1.2.2.2.1, (cY.later ((Below.refl _ _).drew)).1.2.2.2.2⟩
  obtain ⟨D0, hD0⟩ : ∃ D, w.drew = D := ⟨_, rfl⟩
  have hb0 : Below w.heap.size w D0 := by rw [← hD0]; exact (Below.refl _ _).drew
  rw [hD0] at hHeld ⊢
  have HD0 : Hid (Below w.heap.size w D0) := hb0
  clear hb0 hD0
  refine takeV13 (i := 0) (oi := _) (v := ?_) (d := some 63) rfl (by kernel_rfl) (by kernel_rfl) (by kernel_rfl) (by kernel_rfl) (fun _ _ _ h => h) (Or.inl ⟨by rfl, ?_⟩) (by assumption) ?_
  rotate_left
  ·(intro w hSw; (try dsimp only at hSw); go_simp <;> with_reducible rfl)
  try simp only [Act.put, zsA, zsB, zsC]
  refine takeV13 (i := 1) (oi := _) (v := ?_) (d := some 64) rfl (by kernel_rfl) (by kernel_rfl) (by kernel_rfl) (by kernel_rfl) (fun _ _ _ h => h) (Or.inl ⟨by rfl, ?_⟩) (by assumption) ?_
  rotate_left
  ·(intro w hSw; (try dsimp only at hSw); go_simp <;> with_reducible rfl)
  try simp only [Act.put, zsA, zsB, zsC]
  refine takeV13 (i := 2) (oi := _) (v := ?_) (d := some 65) rfl (by kernel_rfl) (by kernel_rfl) (by kernel_rfl) (by kernel_rfl) (fun _ _ _ h => h) (Or.inl ⟨by rfl, ?_⟩) (by assumption) ?_
  rotate_left
  ·(intro w hSw; (try dsimp only at hSw); go_simp <;> with_reducible rfl)
  try simp only [Act.put, zsA, zsB, zsC]
  refine takeV13 (i := 3) (oi := _) (v := ?_) (d := some 66) rfl (by kernel_rfl) (by kernel_rfl) (by kernel_rfl) (by kernel_rfl) (fun _ _ _ h => h) (Or.inl ⟨by rfl, ?_⟩) (by assumption) ?_
  rotate_left
  ·(intro w hSw; (try dsimp only at hSw); go_simp <;> with_reducible rfl)
  try simp only [Act.put, zsA, zsB, zsC]
  refine takeV13 (i := 4) (oi := _) (v := ?_) (d := some 67) rfl (by kernel_rfl) (by kernel_rfl) (by kernel_rfl) (by kernel_rfl) (fun _ _ _ h => h) (Or.inl ⟨by rfl, ?_⟩) (by assumption) ?_
  rotate_left
  ·(intro w hSw; (try dsimp only at hSw); go_simp <;> with_reducible rfl)
  try simp only [Act.put, zsA, zsB, zsC]
  refine takeV13 (i := 5) (oi := _) (v := ?_) (d := some 68) rfl (by kernel_rfl) (by kernel_rfl) (by kernel_rfl) (by kernel_rfl) (fun _ _ _ h => h) (Or.inl ⟨by rfl, ?_⟩) (by assumption) ?_
  rotate_left
  ·(intro w hSw; (try dsimp only at hSw); go_simp <;> with_reducible rfl)
  try simp only [Act.put, zsA, zsB, zsC]
  refine wpAnyH_ready (rs := [6]) (by kernel_rfl) (by simp) ?_
  refine AllReadyH.cons (o := _) rfl (fun K hK => ?_) AllReadyH.nil
  go_simp
  refine (qE _ (HD0.out)).mono ?_
  rintro x D1 ⟨rfl, hb⟩
  have HD1 : Hid (Below w.heap.size w D1) := HD0.out.trans (hb.mono HD0.out.size)
  clear hb HD0
  refine hK.out _ _ ?_ (fun hHeld => ?_)
  ·exact ⟨(cB.later (HD1.out)).1.1, (cB.later (HD1.out)).1.2.1, (cB.later (HD1.out)).1.2.2.1, (cB.later (HD1.out)).1.2.2.2.1, (cB.later (HD1.out)).1.2.2.2.2, (cX.later (HD1.out)).1.1, (cX.later (HD1.out)).1.2.1, (cX.later (HD1.out)).1.2.2.1, (cX.later (HD1.out)).1.2.2.2.1, (cX.later (HD1.out)).1.2.2.2.2, (cY.later (HD1.out)).1.1, (cY.later (HD1.out)).1.2.1, (cY.later (HD1.out)).1.2.2.1, (cY.later (HD1.out)).1.2.2.2.1, (cY.later (HD1.out)).1.2.2.2.2⟩
  clear hK K
  try simp only [Act.put, zsA, zsB, zsC]
  refine takeV13 (i := 7) (oi := _) (v := ?_) (d := some 70) rfl (by kernel_rfl) (by kernel_rfl) (by kernel_rfl) (by kernel_rfl) (fun _ _ _ h => h) (Or.inl ⟨by rfl, ?_⟩) (by assumption) ?_
  rotate_left
  ·(intro w hSw; (try dsimp only at hSw); go_simp <;> with_reducible rfl)
  try simp only [Act.put, zsA, zsB, zsC]
  refine takeV13 (i := 8) (oi := _) (v := ?_) (d := some 71) rfl (by kernel_rfl) (by kernel_rfl) (by kernel_rfl) (by kernel_rfl) (fun _ _ _ h => h) (Or.inl ⟨by rfl, ?_⟩) (by assumption) ?_
  rotate_left
  ·(intro w hSw; (try dsimp only at hSw); go_simp <;> with_reducible rfl)
  try simp only [Act.put, zsA, zsB, zsC]
  refine takeV13 (i := 9) (oi := _) (v := ?_) (d := some 72) rfl (by kernel_rfl) (by kernel_rfl) (by kernel_rfl) (by kernel_rfl) (fun _ _ _ h => h) (Or.inl ⟨by rfl, ?_⟩) (by assumption) ?_
  rotate_left
  ·(intro w hSw; (try dsimp only at hSw); go_simp <;> with_reducible rfl)
  try simp only [Act.put, zsA, zsB, zsC]
  refine takeV13 (i := 10) (oi := _) (v := ?_) (d := some 73) rfl (by kernel_rfl) (by kernel_rfl) (by kernel_rfl) (by kernel_rfl) (fun _ _ _ h => h) (Or.inl ⟨by rfl, ?_⟩) (by assumption) ?_
  rotate_left
  ·(intro w hSw; (try dsimp only at hSw); go_simp <;> with_reducible rfl)
  try simp only [Act.put, zsA, zsB, zsC]
  refine takeV13 (i := 12) (oi := _) (v := ?_) (d := some 75) rfl (by kernel_rfl) (by kernel_rfl) (by kernel_rfl) (by kernel_rfl) (fun _ _ _ h => h) (Or.inl ⟨by rfl, ?_⟩) (by assumption) ?_
  rotate_left
  ·(intro w hSw; (try dsimp only at hSw); go_simp <;> with_reducible rfl)
  try simp only [Act.put, zsA, zsB, zsC]
  refine wpAnyH_ready (rs := [11]) (by kernel_rfl) (by simp) ?_
  refine AllReadyH.cons (o := _) rfl (fun K hK => ?_) AllReadyH.nil
  go_simp
  refine (qI _ (HD1.out)).mono ?_
  rintro x D2 ⟨rfl, hb⟩
  have HD2 : Hid (Below w.heap.size w D2) := HD1.out.trans (hb.mono HD1.out.size)
  clear hb HD1
  refine hK.out _ _ ?_ (fun hHeld => ?_)
  ·exact ⟨(cB.later (HD2.out)).1.1, (cB.later (HD2.out)).1.2.1, (cB.later (HD2.out)).1.2.2.1, (cB.later (HD2.out)).1.2.2.2.1, (cB.later (HD2.out)).1.2.2.2.2, (cX.later (HD2.out)).1.1, (cX.later (HD2.out)).1.2.1, (cX.later (HD2.out)).1.2.2.1, (cX.later (HD2.out)).1.2.2.2.1, (cX.later (HD2.out)).1.2.2.2.2, (cY.later (HD2.out)).1.1, (cY.later (HD2.out)).1.2.1, (cY.later (HD2.out)).1.2.2.1, (cY.later (HD2.out)).1.2.2.2.1, (cY.later (HD2.out)).1.2.2.2.2⟩
  clear hK K
  try simp only [Act.put, zsA, zsB, zsC]
  refine wpAnyH_ready (rs := [13]) (by kernel_rfl) (by simp) ?_
  refine AllReadyH.cons (o := _) rfl (fun K hK => ?_) AllReadyH.nil
  go_simp
  refine (qS _ (HD2.out)).mono ?_
  rintro x D3 ⟨rfl, hb⟩
  have HD3 : Hid (Below w.heap.size w D3) := HD2.out.trans (hb.mono HD2.out.size)
  clear hb HD2
  refine hK.out _ _ ?_ (fun hHeld => ?_)
  ·exact ⟨(cB.later (HD3.out)).1.1, (cB.later (HD3.out)).1.2.1, (cB.later (HD3.out)).1.2.2.1, (cB.later (HD3.out)).1.2.2.2.1, (cB.later (HD3.out)).1.2.2.2.2, (cX.later (HD3.out)).1.1, (cX.later (HD3.out)).1.2.1, (cX.later (HD3.out)).1.2.2.1, (cX.later (HD3.out)).1.2.2.2.1, (cX.later (HD3.out)).1.2.2.2.2, (cY.later (HD3.out)).1.1, (cY.later (HD3.out)).1.2.1, (cY.later (HD3.out)).1.2.2.1, (cY.later (HD3.out)).1.2.2.2.1, (cY.later (HD3.out)).1.2.2.2.2⟩
  clear hK K
  try simp only [Act.put, zsA, zsB, zsC]
  refine takeV13 (i := 14) (oi := _) (v := ?_) (d := some 77) rfl (by kernel_rfl) (by kernel_rfl) (by kernel_rfl) (by kernel_rfl) (fun _ _ _ h => h) (Or.inl ⟨by rfl, ?_⟩) (by assumption) ?_
  rotate_left
  ·(intro w hSw; (try dsimp only at hSw); go_simp <;> with_reducible rfl)
  try simp only [Act.put, zsA, zsB, zsC]
  refine takeV13 (i := 15) (oi := _) (v := ?_) (d := some 78) rfl (by kernel_rfl) (by kernel_rfl) (by kernel_rfl) (by kernel_rfl) (fun _ _ _ h => h) (Or.inl ⟨by rfl, ?_⟩) (by assumption) ?_
  rotate_left
  ·(intro w hSw; (try dsimp only at hSw); go_simp <;> with_reducible rfl)
  try simp only [Act.put, zsA, zsB, zsC]
  refine takeV13 (i := 16) (oi := _) (v := ?_) (d := some 79) rfl (by kernel_rfl) (by kernel_rfl) (by kernel_rfl) (by kernel_rfl) (fun _ _ _ h => h) (Or.inl ⟨by rfl, ?_⟩) (by assumption) ?_
  rotate_left
  ·(intro w hSw; (try dsimp only at hSw); go_simp <;> with_reducible rfl)
  try simp only [Act.put, zsA, zsB, zsC]
  refine takeV13 (i := 17) (oi := _) (v := ?_) (d := some 80) rfl (by kernel_rfl) (by kernel_rfl) (by kernel_rfl) (by kernel_rfl) (fun _ _ _ h => h) (Or.inl ⟨by rfl, ?_⟩) (by assumption) ?_
  rotate_left
  ·(intro w hSw; (try dsimp only at hSw); go_simp <;> with_reducible rfl)
  try simp only [Act.put, zsA, zsB, zsC]
  refine takeV13 (i := 18) (oi := _) (v := ?_) (d := some 81) rfl (by kernel_rfl) (by kernel_rfl) (by kernel_rfl) (by kernel_rfl) (fun _ _ _ h => h) (Or.inl ⟨by rfl, ?_⟩) (by assumption) ?_
  rotate_left
  ·(intro w hSw; (try dsimp only at hSw); go_simp <;> with_reducible rfl)
  try simp only [Act.put, zsA, zsB, zsC]
  refine takeV13 (i := 19) (oi := _) (v := undef) (d := some 82) rfl (by kernel_rfl) (by kernel_rfl) (by kernel_rfl) (by kernel_rfl) (fun _ _ _ h => h) (Or.inr ⟨by rfl, rfl⟩) (by assumption) ?_
  try simp only [Act.put, zsA, zsB, zsC]
  refine takeV13 (i := 20) (oi := _) (v := undef) (d := some 83) rfl (by kernel_rfl) (by kernel_rfl) (by kernel_rfl) (by kernel_rfl) (fun _ _ _ h => h) (Or.inr ⟨by rfl, rfl⟩) (by assumption) ?_
  try simp only [Act.put, zsA, zsB, zsC]
  refine takeV13 (i := 21) (oi := _) (v := undef) (d := some 84) rfl (by kernel_rfl) (by kernel_rfl) (by kernel_rfl) (by kernel_rfl) (fun _ _ _ h => h) (Or.inr ⟨by rfl, rfl⟩) (by assumption) ?_
  try simp only [Act.put, zsA, zsB, zsC]
  refine takeV13 (i := 22) (oi := _) (v := ?_) (d := some 85) rfl (by kernel_rfl) (by kernel_rfl) (by kernel_rfl) (by kernel_rfl) (fun _ _ _ h => h) (Or.inl ⟨by rfl, ?_⟩) (by assumption) ?_
  rotate_left
  ·(intro w hSw; (try dsimp only at hSw); go_simp <;> with_reducible rfl)
  try simp only [Act.put, zsA, zsB, zsC]
  refine takeV13 (i := 23) (oi := _) (v := ?_) (d := some 86) rfl (by kernel_rfl) (by kernel_rfl) (by kernel_rfl) (by kernel_rfl) (fun _ _ _ h => h) (Or.inl ⟨by rfl, ?_⟩) (by assumption) ?_
  rotate_left
  ·(intro w hSw; (try dsimp only at hSw); go_simp <;> with_reducible rfl)
  try simp only [Act.put, zsA, zsB, zsC]
  refine wpAnyH_done (by kernel_rfl) ?_ _
  exact hKK _ _ _ _ _ _ _ _ _ _ _ _ _ _ _ _ _ _ _ _ _ _ _ _ HD3.out
 case true =>
  refine wp_region_held_drew (S := (fun w' => w'.cell? ⟨gB, 0, none⟩ = some (.int .i64 bf) ∧ w'.cell? ⟨gB, 1, none⟩ = some (.int .i64 be) ∧ w'.cell? ⟨gB, 2, none⟩ = some (.slice sa1 bs sc1) ∧ w'.cell? ⟨gB, 3, none⟩ = some (.slice la1 bl lc1) ∧ w'.cell? ⟨gB, 4, none⟩ = some (.slice ta1 bt tc1) ∧ w'.cell? ⟨gX, 0, none⟩ = some (.int .i64 nf) ∧ w'.cell? ⟨gX, 1, none⟩ = some (.int .i64 ne) ∧ w'.cell? ⟨gX, 2, none⟩ = some (.slice sa2 ns sc2) ∧ w'.cell? ⟨gX, 3, none⟩ = some (.slice la2 nl lc2) ∧ w'.cell? ⟨gX, 4, none⟩ = some (.slice ta2 nt tc2) ∧ w'.cell? ⟨gY, 0, none⟩ = some (.int .i64 nf) ∧ w'.cell? ⟨gY, 1, none⟩ = some (.int .i64 ne) ∧ w'.cell? ⟨gY, 2, none⟩ = some (.slice sa3 ns sc3) ∧ w'.cell? ⟨gY, 3, none⟩ = some (.slice la3 nl lc3) ∧ w'.cell? ⟨gY, 4, none⟩ = some (.slice ta3 nt tc3))) (by kernel_rfl) ?_ (fun hHeld => ?_)
  ·exact ⟨(cB.later ((Below.refl _ _).drew)).1.1, (cB.later ((Below.refl _ _).drew)).1.2.1, (cB.later ((Below.refl _ _).drew)).1.2.2.1, (cB.later ((Below.refl _ _).drew)).1.2.2.2.1, (cB.later ((Below.refl _ _).drew)).1.2.2.2.2, (cX.later ((Below.refl _ _).drew)).1.1, (cX.later ((Below.refl _ _).drew)).1.2.1, (cX.later ((Below.refl _ _).drew)).1.2.2.1, (cX.later ((Below.refl _ _).drew)).1.2.2.2.1, (cX.later ((Below.refl _ _).drew)).1.2.2.2.2, (cY.later ((Below.refl _ _).drew)).1.1, (cY.later ((Below.refl _ _).drew)).1.2.1, (cY.later ((Below.refl _ _).drew)).1.2.2.1, (cY.later ((Below.refl _ _).drew)).1.2.2.2.1, (cY.later ((Below.refl _ _).drew)).1.2.2.2.2⟩
  obtain ⟨D0, hD0⟩ : ∃ D, w.drew = D := ⟨_, rfl⟩
  have hb0 : Below w.heap.size w D0 := by rw [← hD0]; exact (Below.refl _ _).drew
  rw [hD0] at hHeld ⊢
  have HD0 : Hid (Below w.heap.size w D0) := hb0
  clear hb0 hD0
  refine takeV13 (i := 0) (oi := _) (v := ?_) (d := some 63) rfl (by kernel_rfl) (by kernel_rfl) (by kernel_rfl) (by kernel_rfl) (fun _ _ _ h => h) (Or.inl ⟨by rfl, ?_⟩) (by assumption) ?_
  rotate_left
  ·(intro w hSw; (try dsimp only at hSw); go_simp <;> with_reducible rfl)
  try simp only [Act.put, zsA, zsB, zsC]
  refine takeV13 (i := 1) (oi := _) (v := ?_) (d := some 64) rfl (by kernel_rfl) (by kernel_rfl) (by kernel_rfl) (by kernel_rfl) (fun _ _ _ h => h) (Or.inl ⟨by rfl, ?_⟩) (by assumption) ?_
  rotate_left
  ·(intro w hSw; (try dsimp only at hSw); go_simp <;> with_reducible rfl)
  try simp only [Act.put, zsA, zsB, zsC]
  refine takeV13 (i := 2) (oi := _) (v := ?_) (d := some 65) rfl (by kernel_rfl) (by kernel_rfl) (by kernel_rfl) (by kernel_rfl) (fun _ _ _ h => h) (Or.inl ⟨by rfl, ?_⟩) (by assumption) ?_
  rotate_left
  ·(intro w hSw; (try dsimp only at hSw); go_simp <;> with_reducible rfl)
  try simp only [Act.put, zsA, zsB, zsC]
  refine takeV13 (i := 3) (oi := _) (v := ?_) (d := some 66) rfl (by kernel_rfl) (by kernel_rfl) (by kernel_rfl) (by kernel_rfl) (fun _ _ _ h => h) (Or.inl ⟨by rfl, ?_⟩) (by assumption) ?_
  rotate_left
  ·(intro w hSw; (try dsimp only at hSw); go_simp <;> with_reducible rfl)
  try simp only [Act.put, zsA, zsB, zsC]
  refine takeV13 (i := 4) (oi := _) (v := ?_) (d := some 67) rfl (by kernel_rfl) (by kernel_rfl) (by kernel_rfl) (by kernel_rfl) (fun _ _ _ h => h) (Or.inl ⟨by rfl, ?_⟩) (by assumption) ?_
  rotate_left
  ·(intro w hSw; (try dsimp only at hSw); go_simp <;> with_reducible rfl)
  try simp only [Act.put, zsA, zsB, zsC]
  refine takeV13 (i := 5) (oi := _) (v := ?_) (d := some 68) rfl (by kernel_rfl) (by kernel_rfl) (by kernel_rfl) (by kernel_rfl) (fun _ _ _ h => h) (Or.inl ⟨by rfl, ?_⟩) (by assumption) ?_
  rotate_left
  ·(intro w hSw; (try dsimp only at hSw); go_simp <;> with_reducible rfl)
  try simp only [Act.put, zsA, zsB, zsC]
  refine wpAnyH_ready (rs := [6]) (by kernel_rfl) (by simp) ?_
  refine AllReadyH.cons (o := _) rfl (fun K hK => ?_) AllReadyH.nil
  go_simp
  refine (qE _ (HD0.out)).mono ?_
  rintro x D1 ⟨rfl, hb⟩
  have HD1 : Hid (Below w.heap.size w D1) := HD0.out.trans (hb.mono HD0.out.size)
  clear hb HD0
  refine hK.out _ _ ?_ (fun hHeld => ?_)
  ·exact ⟨(cB.later (HD1.out)).1.1, (cB.later (HD1.out)).1.2.1, (cB.later (HD1.out)).1.2.2.1, (cB.later (HD1.out)).1.2.2.2.1, (cB.later (HD1.out)).1.2.2.2.2, (cX.later (HD1.out)).1.1, (cX.later (HD1.out)).1.2.1, (cX.later (HD1.out)).1.2.2.1, (cX.later (HD1.out)).1.2.2.2.1, (cX.later (HD1.out)).1.2.2.2.2, (cY.later (HD1.out)).1.1, (cY.later (HD1.out)).1.2.1, (cY.later (HD1.out)).1.2.2.1, (cY.later (HD1.out)).1.2.2.2.1, (cY.later (HD1.out)).1.2.2.2.2⟩
  clear hK K
  try simp only [Act.put, zsA, zsB, zsC]
  refine takeV13 (i := 7) (oi := _) (v := ?_) (d := some 70) rfl (by kernel_rfl) (by kernel_rfl) (by kernel_rfl) (by kernel_rfl) (fun _ _ _ h => h) (Or.inl ⟨by rfl, ?_⟩) (by assumption) ?_
  rotate_left
  ·(intro w hSw; (try dsimp only at hSw); go_simp <;> with_reducible rfl)
  try simp only [Act.put, zsA, zsB, zsC]
  refine takeV13 (i := 8) (oi := _) (v := ?_) (d := some 71) rfl (by kernel_rfl) (by kernel_rfl) (by kernel_rfl) (by kernel_rfl) (fun _ _ _ h => h) (Or.inl ⟨by rfl, ?_⟩) (by assumption) ?_
  rotate_left
  ·(intro w hSw; (try dsimp only at hSw); go_simp <;> with_reducible rfl)
  try simp only [Act.put, zsA, zsB, zsC]
  refine takeV13 (i := 9) (oi := _) (v := ?_) (d := some 72) rfl (by kernel_rfl) (by kernel_rfl) (by kernel_rfl) (by kernel_rfl) (fun _ _ _ h => h) (Or.inl ⟨by rfl, ?_⟩) (by assumption) ?_
  rotate_left
  ·(intro w hSw; (try dsimp only at hSw); go_simp <;> with_reducible rfl)
  try simp only [Act.put, zsA, zsB, zsC]
  refine takeV13 (i := 10) (oi := _) (v := ?_) (d := some 73) rfl (by kernel_rfl) (by kernel_rfl) (by kernel_rfl) (by kernel_rfl) (fun _ _ _ h => h) (Or.inl ⟨by rfl, ?_⟩) (by assumption) ?_
  rotate_left
  ·(intro w hSw; (try dsimp only at hSw); go_simp <;> with_reducible rfl)
  try simp only [Act.put, zsA, zsB, zsC]
  refine takeV13 (i := 12) (oi := _) (v := ?_) (d := some 75) rfl (by kernel_rfl) (by kernel_rfl) (by kernel_rfl) (by kernel_rfl) (fun _ _ _ h => h) (Or.inl ⟨by rfl, ?_⟩) (by assumption) ?_
  rotate_left
  ·(intro w hSw; (try dsimp only at hSw); go_simp <;> with_reducible rfl)
  try simp only [Act.put, zsA, zsB, zsC]
  refine wpAnyH_ready (rs := [11]) (by kernel_rfl) (by simp) ?_
  refine AllReadyH.cons (o := _) rfl (fun K hK => ?_) AllReadyH.nil
  go_simp
  refine (qI _ (HD1.out)).mono ?_
  rintro x D2 ⟨rfl, hb⟩
  have HD2 : Hid (Below w.heap.size w D2) := HD1.out.trans (hb.mono HD1.out.size)
  clear hb HD1
  refine hK.out _ _ ?_ (fun hHeld => ?_)
  ·exact ⟨(cB.later (HD2.out)).1.1, (cB.later (HD2.out)).1.2.1, (cB.later (HD2.out)).1.2.2.1, (cB.later (HD2.out)).1.2.2.2.1, (cB.later (HD2.out)).1.2.2.2.2, (cX.later (HD2.out)).1.1, (cX.later (HD2.out)).1.2.1, (cX.later (HD2.out)).1.2.2.1, (cX.later (HD2.out)).1.2.2.2.1, (cX.later (HD2.out)).1.2.2.2.2, (cY.later (HD2.out)).1.1, (cY.later (HD2.out)).1.2.1, (cY.later (HD2.out)).1.2.2.1, (cY.later (HD2.out)).1.2.2.2.1, (cY.later (HD2.out)).1.2.2.2.2⟩
  clear hK K
  try simp only [Act.put, zsA, zsB, zsC]
  refine wpAnyH_ready (rs := [13]) (by kernel_rfl) (by simp) ?_
  refine AllReadyH.cons (o := _) rfl (fun K hK => ?_) AllReadyH.nil
  go_simp
  refine (qS _ (HD2.out)).mono ?_
  rintro x D3 ⟨rfl, hb⟩
  have HD3 : Hid (Below w.heap.size w D3) := HD2.out.trans (hb.mono HD2.out.size)
  clear hb HD2
  refine hK.out _ _ ?_ (fun hHeld => ?_)
  ·exact ⟨(cB.later (HD3.out)).1.1, (cB.later (HD3.out)).1.2.1, (cB.later (HD3.out)).1.2.2.1, (cB.later (HD3.out)).1.2.2.2.1, (cB.later (HD3.out)).1.2.2.2.2, (cX.later (HD3.out)).1.1, (cX.later (HD3.out)).1.2.1, (cX.later (HD3.out)).1.2.2.1, (cX.later (HD3.out)).1.2.2.2.1, (cX.later (HD3.out)).1.2.2.2.2, (cY.later (HD3.out)).1.1, (cY.later (HD3.out)).1.2.1, (cY.later (HD3.out)).1.2.2.1, (cY.later (HD3.out)).1.2.2.2.1, (cY.later (HD3.out)).1.2.2.2.2⟩
  clear hK K
  try simp only [Act.put, zsA, zsB, zsC]
  refine takeV13 (i := 14) (oi := _) (v := ?_) (d := some 77) rfl (by kernel_rfl) (by kernel_rfl) (by kernel_rfl) (by kernel_rfl) (fun _ _ _ h => h) (Or.inl ⟨by rfl, ?_⟩) (by assumption) ?_
  rotate_left
  ·(intro w hSw; (try dsimp only at hSw); go_simp <;> with_reducible rfl)
  try simp only [Act.put, zsA, zsB, zsC]
  refine takeV13 (i := 15) (oi := _) (v := ?_) (d := some 78) rfl (by kernel_rfl) (by kernel_rfl) (by kernel_rfl) (by kernel_rfl) (fun _ _ _ h => h) (Or.inl ⟨by rfl, ?_⟩) (by assumption) ?_
  rotate_left
  ·(intro w hSw; (try dsimp only at hSw); go_simp <;> with_reducible rfl)
  try simp only [Act.put, zsA, zsB, zsC]
  refine takeV13 (i := 16) (oi := _) (v := ?_) (d := some 79) rfl (by kernel_rfl) (by kernel_rfl) (by kernel_rfl) (by kernel_rfl) (fun _ _ _ h => h) (Or.inl ⟨by rfl, ?_⟩) (by assumption) ?_
  rotate_left
  ·(intro w hSw; (try dsimp only at hSw); go_simp <;> with_reducible rfl)
  try simp only [Act.put, zsA, zsB, zsC]
  refine takeV13 (i := 17) (oi := _) (v := ?_) (d := some 80) rfl (by kernel_rfl) (by kernel_rfl) (by kernel_rfl) (by kernel_rfl) (fun _ _ _ h => h) (Or.inl ⟨by rfl, ?_⟩) (by assumption) ?_
  rotate_left
  ·(intro w hSw; (try dsimp only at hSw); go_simp <;> with_reducible rfl)
  try simp only [Act.put, zsA, zsB, zsC]
  refine takeV13 (i := 18) (oi := _) (v := ?_) (d := some 81) rfl (by kernel_rfl) (by kernel_rfl) (by kernel_rfl) (by kernel_rfl) (fun _ _ _ h => h) (Or.inl ⟨by rfl, ?_⟩) (by assumption) ?_
  rotate_left
  ·(intro w hSw; (try dsimp only at hSw); go_simp <;> with_reducible rfl)
  try simp only [Act.put, zsA, zsB, zsC]
  refine takeV13 (i := 19) (oi := _) (v := ?_) (d := some 82) rfl (by kernel_rfl) (by kernel_rfl) (by kernel_rfl) (by kernel_rfl) (fun _ _ _ h => h) (Or.inl ⟨by rfl, ?_⟩) (by assumption) ?_
  rotate_left
  ·(intro w hSw; (try dsimp only at hSw); go_simp <;> with_reducible rfl)
  try simp only [Act.put, zsA, zsB, zsC]
  refine wpAnyH_ready (rs := [20]) (by kernel_rfl) (by simp) ?_
  refine AllReadyH.cons (o := _) rfl (fun K hK => ?_) AllReadyH.nil
  go_simp
  refine (qX rfl _ (HD3.out)).mono ?_
  rintro x D4 ⟨rfl, hb⟩
  have HD4 : Hid (Below w.heap.size w D4) := HD3.out.trans (hb.mono HD3.out.size)
  clear hb HD3
  refine hK.out _ _ ?_ (fun hHeld => ?_)
  ·exact ⟨(cB.later (HD4.out)).1.1, (cB.later (HD4.out)).1.2.1, (cB.later (HD4.out)).1.2.2.1, (cB.later (HD4.out)).1.2.2.2.1, (cB.later (HD4.out)).1.2.2.2.2, (cX.later (HD4.out)).1.1, (cX.later (HD4.out)).1.2.1, (cX.later (HD4.out)).1.2.2.1, (cX.later (HD4.out)).1.2.2.2.1, (cX.later (HD4.out)).1.2.2.2.2, (cY.later (HD4.out)).1.1, (cY.later (HD4.out)).1.2.1, (cY.later (HD4.out)).1.2.2.1, (cY.later (HD4.out)).1.2.2.2.1, (cY.later (HD4.out)).1.2.2.2.2⟩
  clear hK K
  try simp only [Act.put, zsA, zsB, zsC]
  refine takeV13 (i := 21) (oi := _) (v := ?_) (d := some 84) rfl (by kernel_rfl) (by kernel_rfl) (by kernel_rfl) (by kernel_rfl) (fun _ _ _ h => h) (Or.inl ⟨by rfl, ?_⟩) (by assumption) ?_
  rotate_left
  ·(intro w hSw; (try dsimp only at hSw); go_simp <;> with_reducible rfl)
  try simp only [Act.put, zsA, zsB, zsC]
  refine takeV13 (i := 22) (oi := _) (v := ?_) (d := some 85) rfl (by kernel_rfl) (by kernel_rfl) (by kernel_rfl) (by kernel_rfl) (fun _ _ _ h => h) (Or.inl ⟨by rfl, ?_⟩) (by assumption) ?_
  rotate_left
  ·(intro w hSw; (try dsimp only at hSw); go_simp <;> with_reducible rfl)
  try simp only [Act.put, zsA, zsB, zsC]
  refine takeV13 (i := 23) (oi := _) (v := ?_) (d := some 86) rfl (by kernel_rfl) (by kernel_rfl) (by kernel_rfl) (by kernel_rfl) (fun _ _ _ h => h) (Or.inl ⟨by rfl, ?_⟩) (by assumption) ?_
  rotate_left
  ·(intro w hSw; (try dsimp only at hSw); go_simp <;> with_reducible rfl)
  try simp only [Act.put, zsA, zsB, zsC]
  refine wpAnyH_done (by kernel_rfl) ?_ _
  exact hKK _ _ _ _ _ _ _ _ _ _ _ _ _ _ _ _ _ _ _ _ _ _ _ _ HD4.out

end Go.Proofs.Ytaokmjbhgkfnfaa
