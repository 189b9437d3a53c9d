/- Register: the law's works; no condition. -/
import Derived.Test.YtjbimeahcldaoaaRgP
namespace Go.Proofs.Ytjbimeahcldaoaa
open Go.RowKit
set_option linter.unusedVariables false
def lR : List Rg := [(⟨#[114]⟩, 4, 3)]
theorem q1 : newL lR = [[0, 0, 0]] := by decide +kernel
theorem q2 : writeL lR [[0, 0, 0]] 0 1 31 = [[0, 15, 0]] := by decide +kernel
theorem q3 : writeL lR [[0, 15, 0]] 0 3 1 = [[0, 15, 0]] := by decide +kernel
theorem q4 : readL lR [[0, 15, 0]] 0 1 = 15 := by decide +kernel
theorem q5 : chkG (⟨#[114]⟩, 4, 3) = 0 := by decide +kernel
theorem q6 : contZ lR [] = 2 := by decide +kernel
theorem sg_one (w : World) (g : Nat) (s : ByteArray) (n m : Int) (h : IsB w g 23 #[.string s, .int .i64 n, .int .i64 m]) (hn : -9223372036854775808 ≤ n ∧ n ≤ 9223372036854775807) (hm : -9223372036854775808 ≤ m ∧ m ≤ 9223372036854775807) : SG w (some ⟨g, 0, none⟩) 1 1 [(s, n, m)] := by
  refine ⟨rfl, (fun e => by cases e), Nat.le_refl _, fun ad e j hj => ?_, fun x hx => ?_⟩
  · injection e with e
    subst e
    obtain rfl : j = 0 := by omega
    exact ⟨h.cell 0, h.cell 1, h.cell 2⟩
  · simp only [List.mem_singleton] at hx
    subst hx
    exact ⟨hn, hm⟩
theorem sr_lit (w : World) (g f : Nat) (x y z : Int) (h : IsB w g 53 #[.slice (some ⟨f, 0, none⟩) 3 3]) (k : IsB w f 44 #[.int .u32 x, .int .u32 y, .int .u32 z]) (hr : ∀ v ∈ [x, y, z], 0 ≤ v ∧ v < 4294967296) : SR w (some ⟨g, 0, none⟩) 1 1 [[x, y, z]] := by
  refine ⟨rfl, (fun e => by cases e), Nat.le_refl _, fun ad e j hj => ?_⟩
  injection e with e
  subst e
  obtain rfl : j = 0 := by omega
  refine ⟨_, _, _, h.cell 0, rfl, (fun e => by cases e), Nat.le_refl _, fun ad e j hj => ?_, hr⟩
  injection e with e
  subst e
  have e2 : ((⟨f, 0, none⟩ : Addr).add j) = ⟨f, j, none⟩ := by unfold Addr.add; split <;> simp_all
  rw [e2]
  rcases (show j = 0 ∨ j = 1 ∨ j = 2 by omega) with rfl | rfl | rfl
  · exact k.cell 0
  · exact k.cell 1
  · exact k.cell 2
set_option maxRecDepth 100000 in
set_option maxHeartbeats 4000000 in
theorem works_any (w : World) : Calls Try.prog 8 #[] w (RetV (.bool true) w) := by
  obtain ⟨P, hP⟩ : ∃ P, P = w.heap.size := ⟨_, rfl⟩
  obtain ⟨A, hA⟩ : ∃ A, A = P + 1 := ⟨_, rfl⟩
  obtain ⟨w2, hw2⟩ : ∃ w2, w2 = (w.alloc (.cells #[.string ⟨#[114]⟩, .int .i64 4, .int .i64 3] 23)).alloc (.cells #[.string ⟨#[]⟩, .slice none 0 0, .slice none 0 0, .slice (some ⟨P, 0, none⟩) 1 1, .slice none 0 0, .slice none 0 0, .slice none 0 0, .slice none 0 0, .slice none 0 0] 37) := ⟨_, rfl⟩
  have GZ := Lib.hid (show w.grownBy w2 none from by rw [hw2]; exact gb_al (gb_al (gb_refl _ _)))
  have z1 : (w.alloc (.cells #[.string ⟨#[114]⟩, .int .i64 4, .int .i64 3] 23)).heap.size = P + 1 := by rw [sz_al, hP]
  have i0 := IsB.new w 23 #[.string ⟨#[114]⟩, .int .i64 4, .int .i64 3]
  rw [← hP] at i0
  have i1 := IsB.new (w.alloc (.cells #[.string ⟨#[114]⟩, .int .i64 4, .int .i64 3] 23)) 37 #[.string ⟨#[]⟩, .slice none 0 0, .slice none 0 0, .slice (some ⟨P, 0, none⟩) 1 1, .slice none 0 0, .slice none 0 0, .slice none 0 0, .slice none 0 0, .slice none 0 0]
  rw [z1, ← hA] at i1
  have BA := Lib.hid (show IsB w2 A 37 #[.string ⟨#[]⟩, .slice none 0 0, .slice none 0 0, .slice (some ⟨P, 0, none⟩) 1 1, .slice none 0 0, .slice none 0 0, .slice none 0 0, .slice none 0 0, .slice none 0 0] from by rw [hw2]; exact i1)
  have BR := Lib.hid (show IsB w2 P 23 #[.string ⟨#[114]⟩, .int .i64 4, .int .i64 3] from by rw [hw2]; exact i0.alloc _)
  clear z1 i0 i1
  have SL := Lib.hid (fun (W : World) (k : w2.grownBy W none) => sg_one W P ⟨#[114]⟩ 4 3 (BR.out.keep0 k) ⟨by decide, by decide⟩ ⟨by decide, by decide⟩)
  have rb : ∀ (x y z : Int) (j : Nat), (([[x, y, z]] : List (List Int)).getD j []).length ≤ 1000000 := by
    intro x y z j
    match j with
    | 0 => exact (by decide : 3 ≤ 1000000)
    | j + 1 => simp
  have NW := Lib.hid (fun (W : World) (k : w2.grownBy W none) => (show Calls Try.prog 13 #[.agg #[.string ⟨#[]⟩, .slice none 0 0, .slice none 0 0, .slice (some ⟨P, 0, none⟩) 1 1, .slice none 0 0, .slice none 0 0, .slice none 0 0, .slice none 0 0, .slice none 0 0]] W (RetR [[0, 0, 0]] W) from by have := new_any W (⟨⟨#[]⟩, none, 0, 0, none, 0, 0, some ⟨P, 0, none⟩, 1, 1, none, 0, 0, none, 0, 0, none, 0, 0, none, 0, 0, none, 0, 0⟩ : PX) lR (SL.out W k) (show 1 ≤ 1000000 by decide); rw [q1] at this; exact this))
  have WR := Lib.hid (fun (W : World) (k : w2.grownBy W none) (a : Option Addr) (c : Nat) (s : SR W a 1 c [[0, 0, 0]]) => (show Calls Try.prog 20 #[.agg #[.string ⟨#[]⟩, .slice none 0 0, .slice none 0 0, .slice (some ⟨P, 0, none⟩) 1 1, .slice none 0 0, .slice none 0 0, .slice none 0 0, .slice none 0 0, .slice none 0 0], .slice a 1 c, .int .i64 0, .int .u32 1, .int .u32 31] W (RetR [[0, 15, 0]] W) from by have := pwrite_any W (⟨⟨#[]⟩, none, 0, 0, none, 0, 0, some ⟨P, 0, none⟩, 1, 1, none, 0, 0, none, 0, 0, none, 0, 0, none, 0, 0, none, 0, 0⟩ : PX) lR a 1 c [[0, 0, 0]] 0 1 31 (SL.out W k) s (show 1 ≤ 100000 by decide) (show 1 ≤ 100000 by decide) ⟨by decide, by decide⟩ (by decide) (by decide) (by decide) (by decide) (rb _ _ _); rw [q2] at this; exact this))
  have WS := Lib.hid (fun (W : World) (k : w2.grownBy W none) (a : Option Addr) (c : Nat) (s : SR W a 1 c [[0, 15, 0]]) => (show Calls Try.prog 20 #[.agg #[.string ⟨#[]⟩, .slice none 0 0, .slice none 0 0, .slice (some ⟨P, 0, none⟩) 1 1, .slice none 0 0, .slice none 0 0, .slice none 0 0, .slice none 0 0, .slice none 0 0], .slice a 1 c, .int .i64 0, .int .u32 3, .int .u32 1] W (RetR [[0, 15, 0]] W) from by have := pwrite_any W (⟨⟨#[]⟩, none, 0, 0, none, 0, 0, some ⟨P, 0, none⟩, 1, 1, none, 0, 0, none, 0, 0, none, 0, 0, none, 0, 0, none, 0, 0⟩ : PX) lR a 1 c [[0, 15, 0]] 0 3 1 (SL.out W k) s (show 1 ≤ 100000 by decide) (show 1 ≤ 100000 by decide) ⟨by decide, by decide⟩ (by decide) (by decide) (by decide) (by decide) (rb _ _ _); rw [q3] at this; exact this))
  have RD := Lib.hid (fun (W : World) (k : w2.grownBy W none) (a : Option Addr) (c : Nat) (s : SR W a 1 c [[0, 15, 0]]) => (show Calls Try.prog 18 #[.agg #[.string ⟨#[]⟩, .slice none 0 0, .slice none 0 0, .slice (some ⟨P, 0, none⟩) 1 1, .slice none 0 0, .slice none 0 0, .slice none 0 0, .slice none 0 0, .slice none 0 0], .slice a 1 c, .int .i64 0, .int .u32 1] W (RetV (.int .u32 15) W) from by have := pread_any W (⟨⟨#[]⟩, none, 0, 0, none, 0, 0, some ⟨P, 0, none⟩, 1, 1, none, 0, 0, none, 0, 0, none, 0, 0, none, 0, 0, none, 0, 0⟩ : PX) lR a 1 c [[0, 15, 0]] 0 1 (SL.out W k) s (show 1 ≤ 100000 by decide) (show 1 ≤ 100000 by decide) ⟨by decide, by decide⟩ (by decide) (by decide) (rb _ _ _); rw [q4] at this; exact this))
  have CH := Lib.hid (fun (W : World) => check_b W ⟨#[114]⟩ 4 3 (by decide) 0 q5)
  have CT := Lib.hid (fun (W : World) (k : w2.grownBy W none) => (show Calls Try.prog 15 #[.agg #[.string ⟨#[]⟩, .slice none 0 0, .slice none 0 0, .slice (some ⟨P, 0, none⟩) 1 1, .slice none 0 0, .slice none 0 0, .slice none 0 0, .slice none 0 0, .slice none 0 0], .slice none 0 0] W (RetV (.int .i64 2) W) from cont_b W (⟨⟨#[]⟩, none, 0, 0, none, 0, 0, some ⟨P, 0, none⟩, 1, 1, none, 0, 0, none, 0, 0, none, 0, 0, none, 0, 0, none, 0, 0⟩ : PX) lR none 0 0 [] (SL.out W k) (sr_nil W) (show 1 ≤ 1000000 by decide) (by decide) (fun j => by simp) 2 q6))
  have EQ := Lib.hid (fun (W : World) (a b : Option Addr) (c d : Nat) (x y z x2 y2 z2 : Int) (s : SR W a 1 c [[x, y, z]]) (u : SR W b 1 d [[x2, y2, z2]]) => gequr_any W a b 1 c 1 d [[x, y, z]] [[x2, y2, z2]] s u (by decide) (by decide) (rb _ _ _) (rb _ _ _))
  unfold RetR at NW WR WS
  unfold RetV at RD CH CT
  unfold RetD at EQ
  clear rb
  go_enter Try.func8, Try.ntmps8
  go_upto_region 2 with fail
  rw [← hP, ← hA, ← hw2]
  clear hP hA hw2
  have s0 : w2.cell? ⟨A, 0, none⟩ = some (.string ⟨#[]⟩) := BA.out.cell 0
  have s1 : w2.cell? ⟨A, 1, none⟩ = some (.slice none 0 0) := BA.out.cell 1
  have s2 : w2.cell? ⟨A, 2, none⟩ = some (.slice none 0 0) := BA.out.cell 2
  have s3 : w2.cell? ⟨A, 3, none⟩ = some (.slice (some ⟨P, 0, none⟩) 1 1) := BA.out.cell 3
  have s4 : w2.cell? ⟨A, 4, none⟩ = some (.slice none 0 0) := BA.out.cell 4
  have s5 : w2.cell? ⟨A, 5, none⟩ = some (.slice none 0 0) := BA.out.cell 5
  have s6 : w2.cell? ⟨A, 6, none⟩ = some (.slice none 0 0) := BA.out.cell 6
  have s7 : w2.cell? ⟨A, 7, none⟩ = some (.slice none 0 0) := BA.out.cell 7
  have s8 : w2.cell? ⟨A, 8, none⟩ = some (.slice none 0 0) := BA.out.cell 8
  go_wp2_with fail
  refine (NW.out w2 (gb_refl _ _)).mono ?_
  rintro e w3 ⟨V1, Vs1, rfl, o1, g⟩
  obtain ⟨a1, c1, hV⟩ := o1.shape
  have hV : V1 = .slice a1 1 c1 := hV
  subst hV
  have S1 := Lib.hid (o1.sr (n := 1) rfl)
  have G3 := Lib.hid g
  clear o1 g s0 s1 s2 s3 s4 s5 s6 s7 s8
  have s0 : w3.cell? ⟨A, 0, none⟩ = some (.string ⟨#[]⟩) := (BA.out.keep0 G3.out).cell 0
  have s1 : w3.cell? ⟨A, 1, none⟩ = some (.slice none 0 0) := (BA.out.keep0 G3.out).cell 1
  have s2 : w3.cell? ⟨A, 2, none⟩ = some (.slice none 0 0) := (BA.out.keep0 G3.out).cell 2
  have s3 : w3.cell? ⟨A, 3, none⟩ = some (.slice (some ⟨P, 0, none⟩) 1 1) := (BA.out.keep0 G3.out).cell 3
  have s4 : w3.cell? ⟨A, 4, none⟩ = some (.slice none 0 0) := (BA.out.keep0 G3.out).cell 4
  have s5 : w3.cell? ⟨A, 5, none⟩ = some (.slice none 0 0) := (BA.out.keep0 G3.out).cell 5
  have s6 : w3.cell? ⟨A, 6, none⟩ = some (.slice none 0 0) := (BA.out.keep0 G3.out).cell 6
  have s7 : w3.cell? ⟨A, 7, none⟩ = some (.slice none 0 0) := (BA.out.keep0 G3.out).cell 7
  have s8 : w3.cell? ⟨A, 8, none⟩ = some (.slice none 0 0) := (BA.out.keep0 G3.out).cell 8
  go_wp2_with fail
  refine (WR.out w3 G3.out a1 c1 S1.out).mono ?_
  rintro e w4 ⟨V2, Vs2, rfl, o2, g⟩
  obtain ⟨a2, c2, hV⟩ := o2.shape
  have hV : V2 = .slice a2 1 c2 := hV
  subst hV
  have S2 := Lib.hid (o2.sr (n := 1) rfl)
  replace S1 := Lib.hid (S1.out.keep0 g)
  have G4 := Lib.hid (gb_trans G3.out g)
  clear o2 g
  clear s0 s1 s2 s3 s4 s5 s6 s7 s8
  obtain ⟨w5, hw5⟩ : ∃ w5, w5 = (w4.alloc (.cells #[.int .u32 0, .int .u32 0, .int .u32 0] 44)).alloc (.cells #[.slice (some ⟨w4.heap.size, 0, none⟩) 3 3] 53) := ⟨_, rfl⟩
  have g : w4.grownBy w5 none := by rw [hw5]; exact gb_al (gb_al (gb_refl _ _))
  have T1 := Lib.hid (show SR w5 (some ⟨w4.heap.size + 1, 0, none⟩) 1 1 [[0, 0, 0]] from by
    rw [hw5]
    refine sr_lit _ (w4.heap.size + 1) w4.heap.size 0 0 0 ?_ ((IsB.new w4 44 _).alloc _) (by decide)
    rw [← sz_al w4 (.cells #[.int .u32 0, .int .u32 0, .int .u32 0] 44)]
    exact IsB.new _ _ _)
  have E1 := EQ.out w5 a1 (some ⟨w4.heap.size + 1, 0, none⟩) c1 1 0 0 0 0 0 0 (S1.out.keep0 g) T1.out
  rw [decide_eq_true rfl] at E1
  rw [hw5] at E1
  replace G4 := Lib.hid (gb_trans G4.out g)
  replace S1 := Lib.hid (S1.out.keep0 g)
  replace S2 := Lib.hid (S2.out.keep0 g)
  clear g T1
  go_wp2_with fail
  refine E1.mono ?_
  rw [← hw5]
  clear hw5 E1
  rintro e w6 ⟨rfl, m⟩
  have g := dn_gb m none
  replace G4 := Lib.hid (gb_trans G4.out g)
  replace S1 := Lib.hid (S1.out.keep0 g)
  replace S2 := Lib.hid (S2.out.keep0 g)
  clear g m
  obtain ⟨w7, hw7⟩ : ∃ w7, w7 = (w6.alloc (.cells #[.int .u32 0, .int .u32 15, .int .u32 0] 44)).alloc (.cells #[.slice (some ⟨w6.heap.size, 0, none⟩) 3 3] 53) := ⟨_, rfl⟩
  have g : w6.grownBy w7 none := by rw [hw7]; exact gb_al (gb_al (gb_refl _ _))
  have T1 := Lib.hid (show SR w7 (some ⟨w6.heap.size + 1, 0, none⟩) 1 1 [[0, 15, 0]] from by
    rw [hw7]
    refine sr_lit _ (w6.heap.size + 1) w6.heap.size 0 15 0 ?_ ((IsB.new w6 44 _).alloc _) (by decide)
    rw [← sz_al w6 (.cells #[.int .u32 0, .int .u32 15, .int .u32 0] 44)]
    exact IsB.new _ _ _)
  have E1 := EQ.out w7 a2 (some ⟨w6.heap.size + 1, 0, none⟩) c2 1 0 15 0 0 15 0 (S2.out.keep0 g) T1.out
  rw [decide_eq_true rfl] at E1
  rw [hw7] at E1
  replace G4 := Lib.hid (gb_trans G4.out g)
  replace S1 := Lib.hid (S1.out.keep0 g)
  replace S2 := Lib.hid (S2.out.keep0 g)
  clear g T1
  go_wp2_with fail
  refine E1.mono ?_
  rw [← hw7]
  clear hw7 E1
  rintro e w8 ⟨rfl, m⟩
  have g := dn_gb m none
  replace G4 := Lib.hid (gb_trans G4.out g)
  replace S1 := Lib.hid (S1.out.keep0 g)
  replace S2 := Lib.hid (S2.out.keep0 g)
  clear g m
  have E1 := EQ.out w8 a1 a2 c1 c2 0 0 0 0 15 0 S1.out S2.out
  rw [decide_eq_false (by decide)] at E1
  go_wp2_with fail
  refine E1.mono ?_
  clear E1
  rintro e w9 ⟨rfl, m⟩
  have g := dn_gb m none
  replace G4 := Lib.hid (gb_trans G4.out g)
  replace S2 := Lib.hid (S2.out.keep0 g)
  clear g m
  have s0 : w9.cell? ⟨A, 0, none⟩ = some (.string ⟨#[]⟩) := (BA.out.keep0 G4.out).cell 0
  have s1 : w9.cell? ⟨A, 1, none⟩ = some (.slice none 0 0) := (BA.out.keep0 G4.out).cell 1
  have s2 : w9.cell? ⟨A, 2, none⟩ = some (.slice none 0 0) := (BA.out.keep0 G4.out).cell 2
  have s3 : w9.cell? ⟨A, 3, none⟩ = some (.slice (some ⟨P, 0, none⟩) 1 1) := (BA.out.keep0 G4.out).cell 3
  have s4 : w9.cell? ⟨A, 4, none⟩ = some (.slice none 0 0) := (BA.out.keep0 G4.out).cell 4
  have s5 : w9.cell? ⟨A, 5, none⟩ = some (.slice none 0 0) := (BA.out.keep0 G4.out).cell 5
  have s6 : w9.cell? ⟨A, 6, none⟩ = some (.slice none 0 0) := (BA.out.keep0 G4.out).cell 6
  have s7 : w9.cell? ⟨A, 7, none⟩ = some (.slice none 0 0) := (BA.out.keep0 G4.out).cell 7
  have s8 : w9.cell? ⟨A, 8, none⟩ = some (.slice none 0 0) := (BA.out.keep0 G4.out).cell 8
  go_wp2_with fail
  refine (RD.out w9 G4.out a2 c2 S2.out).mono ?_
  rintro e w10 ⟨rfl, g⟩
  replace G4 := Lib.hid (gb_trans G4.out g)
  replace S2 := Lib.hid (S2.out.keep0 g)
  clear g
  clear s0 s1 s2 s3 s4 s5 s6 s7 s8
  have s0 : w10.cell? ⟨A, 0, none⟩ = some (.string ⟨#[]⟩) := (BA.out.keep0 G4.out).cell 0
  have s1 : w10.cell? ⟨A, 1, none⟩ = some (.slice none 0 0) := (BA.out.keep0 G4.out).cell 1
  have s2 : w10.cell? ⟨A, 2, none⟩ = some (.slice none 0 0) := (BA.out.keep0 G4.out).cell 2
  have s3 : w10.cell? ⟨A, 3, none⟩ = some (.slice (some ⟨P, 0, none⟩) 1 1) := (BA.out.keep0 G4.out).cell 3
  have s4 : w10.cell? ⟨A, 4, none⟩ = some (.slice none 0 0) := (BA.out.keep0 G4.out).cell 4
  have s5 : w10.cell? ⟨A, 5, none⟩ = some (.slice none 0 0) := (BA.out.keep0 G4.out).cell 5
  have s6 : w10.cell? ⟨A, 6, none⟩ = some (.slice none 0 0) := (BA.out.keep0 G4.out).cell 6
  have s7 : w10.cell? ⟨A, 7, none⟩ = some (.slice none 0 0) := (BA.out.keep0 G4.out).cell 7
  have s8 : w10.cell? ⟨A, 8, none⟩ = some (.slice none 0 0) := (BA.out.keep0 G4.out).cell 8
  go_wp2_with fail
  refine (WS.out w10 G4.out a2 c2 S2.out).mono ?_
  rintro e w11 ⟨V3, Vs3, rfl, o3, g⟩
  obtain ⟨a3, c3, hV⟩ := o3.shape
  have hV : V3 = .slice a3 1 c3 := hV
  subst hV
  have S3 := Lib.hid (o3.sr (n := 1) rfl)
  replace G4 := Lib.hid (gb_trans G4.out g)
  replace S2 := Lib.hid (S2.out.keep0 g)
  clear g o3
  clear s0 s1 s2 s3 s4 s5 s6 s7 s8
  have E1 := EQ.out w11 a3 a2 c3 c2 0 15 0 0 15 0 S3.out S2.out
  rw [decide_eq_true rfl] at E1
  go_wp2_with fail
  refine E1.mono ?_
  clear E1
  rintro e w12 ⟨rfl, m⟩
  have g := dn_gb m none
  replace G4 := Lib.hid (gb_trans G4.out g)
  clear g m
  have s0 : w12.cell? ⟨A, 0, none⟩ = some (.string ⟨#[]⟩) := (BA.out.keep0 G4.out).cell 0
  have s1 : w12.cell? ⟨A, 1, none⟩ = some (.slice none 0 0) := (BA.out.keep0 G4.out).cell 1
  have s2 : w12.cell? ⟨A, 2, none⟩ = some (.slice none 0 0) := (BA.out.keep0 G4.out).cell 2
  have s3 : w12.cell? ⟨A, 3, none⟩ = some (.slice (some ⟨P, 0, none⟩) 1 1) := (BA.out.keep0 G4.out).cell 3
  have s4 : w12.cell? ⟨A, 4, none⟩ = some (.slice none 0 0) := (BA.out.keep0 G4.out).cell 4
  have s5 : w12.cell? ⟨A, 5, none⟩ = some (.slice none 0 0) := (BA.out.keep0 G4.out).cell 5
  have s6 : w12.cell? ⟨A, 6, none⟩ = some (.slice none 0 0) := (BA.out.keep0 G4.out).cell 6
  have s7 : w12.cell? ⟨A, 7, none⟩ = some (.slice none 0 0) := (BA.out.keep0 G4.out).cell 7
  have s8 : w12.cell? ⟨A, 8, none⟩ = some (.slice none 0 0) := (BA.out.keep0 G4.out).cell 8
  have r0 : w12.cell? ⟨P, 0, none⟩ = some (.string ⟨#[114]⟩) := (BR.out.keep0 G4.out).cell 0
  have r1 : w12.cell? ⟨P, 1, none⟩ = some (.int .i64 4) := (BR.out.keep0 G4.out).cell 1
  have r2 : w12.cell? ⟨P, 2, none⟩ = some (.int .i64 3) := (BR.out.keep0 G4.out).cell 2
  go_wp2_with fail
  refine (CH.out w12).mono ?_
  rintro e w13 ⟨rfl, g⟩
  replace G4 := Lib.hid (gb_trans G4.out g)
  clear g r0 r1 r2
  clear s0 s1 s2 s3 s4 s5 s6 s7 s8
  have s0 : w13.cell? ⟨A, 0, none⟩ = some (.string ⟨#[]⟩) := (BA.out.keep0 G4.out).cell 0
  have s1 : w13.cell? ⟨A, 1, none⟩ = some (.slice none 0 0) := (BA.out.keep0 G4.out).cell 1
  have s2 : w13.cell? ⟨A, 2, none⟩ = some (.slice none 0 0) := (BA.out.keep0 G4.out).cell 2
  have s3 : w13.cell? ⟨A, 3, none⟩ = some (.slice (some ⟨P, 0, none⟩) 1 1) := (BA.out.keep0 G4.out).cell 3
  have s4 : w13.cell? ⟨A, 4, none⟩ = some (.slice none 0 0) := (BA.out.keep0 G4.out).cell 4
  have s5 : w13.cell? ⟨A, 5, none⟩ = some (.slice none 0 0) := (BA.out.keep0 G4.out).cell 5
  have s6 : w13.cell? ⟨A, 6, none⟩ = some (.slice none 0 0) := (BA.out.keep0 G4.out).cell 6
  have s7 : w13.cell? ⟨A, 7, none⟩ = some (.slice none 0 0) := (BA.out.keep0 G4.out).cell 7
  have s8 : w13.cell? ⟨A, 8, none⟩ = some (.slice none 0 0) := (BA.out.keep0 G4.out).cell 8
  go_wp2_with fail
  refine (CT.out w13 G4.out).mono ?_
  rintro e w14 ⟨rfl, g⟩
  replace G4 := Lib.hid (gb_trans G4.out g)
  clear g
  clear s0 s1 s2 s3 s4 s5 s6 s7 s8
  go_wp2
  go_ret
  exact ⟨rfl, gb_trans GZ.out G4.out⟩
end Go.Proofs.Ytjbimeahcldaoaa
