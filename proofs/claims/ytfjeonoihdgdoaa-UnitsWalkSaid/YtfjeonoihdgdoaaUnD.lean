/- Units: Exclusive of both sides; the walks; no condition but the lists' sizes. -/
import Derived.Test.YtfjeonoihdgdoaaUnC
import Derived.Test.YtfjeonoihdgdoaaMga
namespace Go.Proofs.Ytfjeonoihdgdoaa
open Go.RowKit
set_option linter.unusedVariables false
set_option maxRecDepth 100000 in
theorem oppo_any (w : World) (bx mb n : Nat) (P : Gd → Bool) (hb : w.cell? ⟨bx, 0, none⟩ = some (.map (some mb))) (hm : MG w mb P n) (u : Int) (x : Bool) (hu : In64 u) :
    Calls Try.prog 63 #[.agg #[.int .i64 u, .bool x], .pointer (some ⟨bx, 0, none⟩)] w (RetV (.bool (P (u, x))) w) := by
  have c1 : ∀ o, (w.alloc o).cell? ⟨bx, 0, none⟩ = some (.map (some mb)) := fun o => (gb_alloc w o none).cell hb (by simp)
  have lk : ∀ o, (Instr.lookup 130 (.map (some mb)) (.agg #[.int .i64 u, .bool x]) false).run Try.prog (w.alloc o) = .ok (.bool (P (u, x))) (w.alloc o) := fun o => (hm.keep0 (gb_alloc w o none)).look u x hu
  have GA := Lib.hid (gb_alloc w (.cells #[.int .i64 u, .bool x] 80) none)
  clear hb hm
  generalize P (u, x) = r at *
  go_enter Try.func63, Try.ntmps63
  go_wp2
  go_ret
  exact ⟨rfl, GA.out⟩
/-- What the map of the opposites answers. -/
def oppP (G : List Gd) (h : Gd) : Bool := G.any fun a => decide (h = (a.1, !a.2))
theorem opp_eq (G H : List Gd) : H.any (oppP G) = opp G H := by
  unfold opp oppP
  congr 1
  funext h
  congr 1
  funext a
  obtain ⟨u, x⟩ := h
  obtain ⟨v, y⟩ := a
  by_cases e : v = u
  · subst e
    cases x <;> cases y <;> simp
  · have e2 : ¬ u = v := fun k => e k.symm
    simp [e, e2]
theorem oppP_step {G : List Gd} {j : Nat} (hj : j < G.length) : oppP (G.take (j + 1)) = fun h => oppP (G.take j) h || decide (h = ((G.getD j (0, false)).1, !(G.getD j (0, false)).2)) := by
  funext h
  unfold oppP
  rw [take_g G j hj, List.any_append]
  simp
set_option maxRecDepth 100000 in
set_option maxHeartbeats 8000000 in
theorem uxc_any (w : World) (ls : Sl) (L : List Un) (hL : SUn w ls L) (i j : Int) (hg : ∀ k, k < ls.n → (L.getD k uz).g.n ≤ 10000) :
    Calls Try.prog 31 #[.slice ls.a ls.n ls.c, .int .i64 i, .int .i64 j] w (RetV (.bool (xcU L i j)) w) := by
  have hl := hL.len
  have IX := Lib.hid (fun w i => isidx_any w i (ls.n : Int))
  by_cases hin : 0 ≤ i ∧ i < (ls.n : Int)
  · by_cases hjn : 0 ≤ j ∧ j < (ls.n : Int)
    · obtain ⟨k, rfl⟩ : ∃ k : Nat, i = (k : Int) := ⟨i.toNat, by omega⟩
      obtain ⟨m, rfl⟩ : ∃ k : Nat, j = (k : Int) := ⟨j.toNat, by omega⟩
      have hk : k < ls.n := by omega
      have hm : m < ls.n := by omega
      have D1 := Lib.hid (decide_eq_true hin)
      have D2 := Lib.hid (decide_eq_true hjn)
      have HL := Lib.hid hL
      have hg1 := hg k hk
      have hg2 := hg m hm
      obtain ⟨ad, hsa⟩ := HL.out.some (by omega)
      have E := Lib.hid (show xcU L (k : Int) (m : Int) = (L.getD m uz).G.any (oppP (L.getD k uz).G) by
        unfold xcU
        rw [decide_eq_true (by omega), decide_eq_true (by omega), Int.toNat_natCast, Int.toNat_natCast, Bool.true_and, Bool.true_and, opp_eq])
      have CK1 := Lib.hid (fun wz (gz : w.grownBy wz none) => ((HL.out.keep0 gz).cells ad hsa k hk).2.2)
      have CM1 := Lib.hid (fun wz (gz : w.grownBy wz none) => ((HL.out.keep0 gz).cells ad hsa m hm).2.2)
      have MK := Lib.hid (fun wz (gz : w.grownBy wz none) => ((HL.out.keep0 gz).mem k hk).2)
      have MM := Lib.hid (fun wz (gz : w.grownBy wz none) => ((HL.out.keep0 gz).mem m hm).2)
      generalize L.getD k uz = U at *
      generalize L.getD m uz = V at *
      obtain ⟨ut, uc, uN, ⟨ga, gn, gc⟩, uG⟩ := U
      obtain ⟨vt, vc, vN, vg, vG⟩ := V
      dsimp only [Sl.v] at CK1 CM1 MK MM E hg1 hg2
      have i1 : (k : Int) < (ls.n : Int) := by omega
      have i2 : (m : Int) < (ls.n : Int) := by omega
      have c2 := CK1.out w (gb_refl _ _)
      rw [hsa]
      clear hin hjn hk hm hl hL hsa hg
      have hmm := @run_makeMap Try.prog
      go_enter Try.func31, Try.ntmps31
      go_wp2_with fail
      refine (IX.out _ _).mono ?_
      rintro e w3 ⟨rfl, rfl⟩
      rw [D1.out]
      go_wp2_with fail
      refine (IX.out _ _).mono ?_
      rintro e w4 ⟨rfl, rfl⟩
      rw [D2.out]
      go_upto_region 4 with fail
      obtain ⟨mb, hmb⟩ : ∃ q, q = w4.heap.size := ⟨_, rfl⟩
      obtain ⟨w5, hw5⟩ : ∃ q, q = w4.alloc (.map #[] 0) := ⟨_, rfl⟩
      obtain ⟨w6, hw6⟩ : ∃ q, q = w5.alloc (.cells #[.map (some mb)] 130) := ⟨_, rfl⟩
      have S5 : w5.heap.size = mb + 1 := by rw [hw5, sz_al, hmb]
      have M5 := MG.new w4
      have B6 := IsB.new w5 130 #[.map (some mb)]
      have G5 := gb_alloc w4 (.map #[] 0) none
      have G6 := gb_alloc w5 (.cells #[.map (some mb)] 130) none
      rw [← hw5] at G5 M5
      rw [S5, ← hw6] at B6
      rw [← hw6] at G6
      rw [← hmb] at M5 ⊢
      rw [← hw5, ← hw6]
      have M6 := Lib.hid (M5.keep0 G6)
      have G6 := Lib.hid (gb_trans G5 G6)
      have B6 := Lib.hid B6
      have LM := Lib.hid (show w4.heap.size ≤ mb by omega)
      clear hw5 hw6 S5 M5 G5 hmb
      have c2 := CK1.out w6 G6.out
      go_wp2
      go_loopw [29] (fun q wr => ∃ p : Nat, p ≤ gn ∧ q = .int .i64 p ∧ MG wr mb (oppP (uG.take p)) p ∧ IsB wr (mb + 1) 130 #[.map (some mb)] ∧ w4.grownBy wr none) (fun q _ => gn - (intOf q).toNat)
      case atStart => exact ⟨0, Nat.zero_le _, rfl, M6.out, B6.out, G6.out⟩
      case round =>
        obtain ⟨p, hp, rfl, q1, q2, q3⟩ := hrel
        clear M6 B6 G6 c2
        have M6 := Lib.hid q1
        have B6 := Lib.hid q2
        have G6 := Lib.hid q3
        clear q1 q2 q3
        by_cases hlt : p < gn
        · have i3 : (p : Int) < gn := by omega
          have SM := MK.out wr G6.out
          obtain ⟨ad2, hga⟩ := SM.some (by dsimp only; omega)
          dsimp only at hga
          subst hga
          obtain ⟨d0, d1⟩ := SM.cells ad2 rfl p hlt
          have hin := SM.in_ p hlt
          have hlG : p < uG.length := by rw [SM.len]; exact hlt
          have ST := Lib.hid (oppP_step (G := uG) (j := p) hlG)
          generalize uG.getD p (0, false) = y at *
          obtain ⟨u, x⟩ := y
          dsimp only at d0 d1 ST hin
          have GA := gb_alloc wr (.cells #[.int .i64 u, .bool x] 80) none
          have BA := Lib.hid (B6.out.keep0 GA)
          have f0 : (wr.alloc (.cells #[.int .i64 u, .bool x] 80)).cell? ⟨mb + 1, 0, none⟩ = some (.map (some mb)) := BA.out.cell 0
          obtain ⟨w8, hr, m8, g8⟩ := (M6.out.keep0 GA).put u (!x) hin (by omega)
          have M8 := Lib.hid m8
          have B8 := Lib.hid (BA.out.keep g8 (by intro e; injection e with e; omega))
          have G8 := Lib.hid (show w4.grownBy w8 none from gb_new (gb_trans (gb_any (gb_trans G6.out GA)) g8) LM.out)
          clear SM hlG m8 g8 GA hin
          go_wp2
          go_roundw
          case rel => exact ⟨p + 1, by omega, by go_num, by rw [ST.out]; exact M8.out, B8.out, G8.out⟩
          case measure => simp [intOf]; omega
        · have hpe : p = gn := by omega
          have TE := Lib.hid (show oppP (uG.take p) = oppP uG by rw [List.take_of_length_le (by have := (MK.out wr G6.out).len; dsimp only at this; omega)])
          rw [TE.out] at M6
          have i3 : ¬ (p : Int) < gn := by omega
          have c3 := CM1.out wr G6.out
          have CF := Lib.hid (gcf_any wr vg vG (MM.out wr G6.out) (by omega) 63 #[.pointer (some ⟨mb + 1, 0, none⟩)] (oppP uG) (fun args w => by kernel_rfl)
            (fun u b W hu gW => oppo_any W (mb + 1) mb p (oppP uG) ((B6.out.keep0 gW).cell 0) (M6.out.keep0 gW) u b hu))
          obtain ⟨r, hr⟩ : ∃ r, r = vG.any (oppP uG) := ⟨_, rfl⟩
          rw [← hr] at CF E
          unfold RetV at CF
          clear hr
          go_wp2_with fail
          refine CF.out.mono ?_
          rintro e w9 ⟨rfl, g9⟩
          have G9 := Lib.hid (gb_trans G6.out g9)
          clear g9
          go_wp2
          go_ret
          exact ⟨ret_b E.out.symm, G9.out⟩
    · have E := Lib.hid (show xcU L i j = false by unfold xcU; rw [decide_eq_false (show ¬ (0 ≤ j ∧ j < (L.length : Int)) by rw [hl]; exact hjn)]; simp)
      have D1 := Lib.hid (decide_eq_true hin)
      have D2 := Lib.hid (decide_eq_false hjn)
      clear hin hjn hl hL hg
      go_enter Try.func31, Try.ntmps31
      go_wp2_with fail
      refine (IX.out _ _).mono ?_
      rintro e w3 ⟨rfl, rfl⟩
      rw [D1.out]
      go_wp2_with fail
      refine (IX.out _ _).mono ?_
      rintro e w4 ⟨rfl, rfl⟩
      rw [D2.out]
      go_wp2
      go_ret
      exact ⟨ret_b E.out.symm, gb_refl _ _⟩
  · have E := Lib.hid (show xcU L i j = false by unfold xcU; rw [decide_eq_false (show ¬ (0 ≤ i ∧ i < (L.length : Int)) by rw [hl]; exact hin)]; simp)
    have D1 := Lib.hid (decide_eq_false hin)
    clear hin hl hL hg
    go_enter Try.func31, Try.ntmps31
    go_wp2_with fail
    refine (IX.out _ _).mono ?_
    rintro e w3 ⟨rfl, rfl⟩
    rw [D1.out]
    go_wp2
    go_ret
    exact ⟨ret_b E.out.symm, gb_refl _ _⟩
end Go.Proofs.Ytfjeonoihdgdoaa
