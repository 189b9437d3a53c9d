/- Env: the law Runs; no condition. -/
import Derived.Test.YtolifmpnhflegaaFrW
import Derived.Test.YtolifmpnhflegaaOrS
import Derived.Test.YtolifmpnhflegaaEvP
import Derived.Test.YtolifmpnhflegaaEvS
import Derived.Test.YtolifmpnhflegaaEvU
namespace Go.Proofs.Ytolifmpnhflegaa
open Go.RowKit
set_option linter.unusedVariables false
/-- The state of the law Runs: the program's box, both environments' boxes, both environments the same. -/
structure RN (w : World) (bx b5 b6 : Nat) (p9 : Array Value) (X Y : EX) (L : EL) (wr : World) : Prop where
  bp : IsB wr bx 31 p9
  i5 : IsB wr b5 37 #[.slice X.va X.vn X.vc, .slice X.fa X.fn X.fc, .slice X.ta X.tn X.tc, .slice X.pa X.pn X.pc]
  i6 : IsB wr b6 37 #[.slice Y.va Y.vn Y.vc, .slice Y.fa Y.fn Y.fc, .slice Y.ta Y.tn Y.tc, .slice Y.pa Y.pn Y.pc]
  e : ∃ Vs, OE wr w.heap.size X L Vs
  f : ∃ Vs, OE wr w.heap.size Y L Vs
  g : w.grownBy wr none
  l5 : w.heap.size ≤ b5
  l6 : w.heap.size ≤ b6
  ne : b5 ≠ b6
theorem RN.keep0 {w : World} {bx b5 b6 : Nat} {p9 : Array Value} {X Y : EX} {L : EL} {wr w2 : World} (h : RN w bx b5 b6 p9 X Y L wr) (k : wr.grownBy w2 none) : RN w bx b5 b6 p9 X Y L w2 := by
  obtain ⟨Va, oa⟩ := h.e
  obtain ⟨Vb, ob⟩ := h.f
  exact ⟨h.bp.keep0 k, h.i5.keep0 k, h.i6.keep0 k, ⟨Va, oa.keep0 k⟩, ⟨Vb, ob.keep0 k⟩, gb_trans h.g k, h.l5, h.l6, h.ne⟩
theorem RN.er {w : World} {bx b5 b6 : Nat} {p9 : Array Value} {X Y : EX} {L : EL} {wr : World} (h : RN w bx b5 b6 p9 X Y L wr) : ER wr X L ∧ ER wr Y L := by
  obtain ⟨Va, oa⟩ := h.e
  obtain ⟨Vb, ob⟩ := h.f
  exact ⟨oa.er, ob.er⟩
theorem oe_et {w : World} {base b : Nat} {X : EX} {L : EL} {Vs : List Value} {cs : Array Value} (h : OE w base X L Vs) (hb : IsB w b 37 cs) (k : Nat) (v : Value) : OE (w.setCell ⟨b, k, none⟩ v) base X L Vs := by
  have kp : ∀ {e : TypeId} {base : Nat} {v2 : Value} {n : Nat} {xs : List Value}, w.ownsRow base e 1 v2 n xs → e ≠ 37 → World.ownsRow (w.setCell ⟨b, k, none⟩ v) base e 1 v2 n xs := fun h hn => own_keepS h (gb_set _ _ _ _) hb hn
  exact ⟨kp h.v (by decide), ⟨kp h.f.out (by decide), fun x hx => kp (h.f.own x hx) (by decide), h.f.dis, h.f.rng⟩, kp h.t (by decide), kp h.p (by decide), h.vl, h.fl, h.tl, h.pl, h.trng, h.prng, h.dis⟩
theorem rn_put {w w2 : World} {bx b5 b6 : Nat} {p9 : Array Value} {X Y : EX} {L : EL} {Va Vb : List Value} {x0 x1 x2 x3 y0 y1 y2 y3 : Value} (bp : IsB w2 bx 31 p9) (i5 : IsB w2 b5 37 #[x0, x1, x2, x3]) (i6 : IsB w2 b6 37 #[y0, y1, y2, y3])
    (oa : OE w2 w.heap.size X L Va) (ob : OE w2 w.heap.size Y L Vb) (g : w.grownBy w2 none) (l5 : w.heap.size ≤ b5) (l6 : w.heap.size ≤ b6) (ne : b5 ≠ b6) :
    RN w bx b5 b6 p9 X Y L ((((((((w2.setCell ⟨b5, 0, none⟩ (.slice X.va X.vn X.vc)).setCell ⟨b5, 1, none⟩ (.slice X.fa X.fn X.fc)).setCell ⟨b5, 2, none⟩ (.slice X.ta X.tn X.tc)).setCell ⟨b5, 3, none⟩ (.slice X.pa X.pn X.pc)).setCell ⟨b6, 0, none⟩ (.slice Y.va Y.vn Y.vc)).setCell ⟨b6, 1, none⟩ (.slice Y.fa Y.fn Y.fc)).setCell ⟨b6, 2, none⟩ (.slice Y.ta Y.tn Y.tc)).setCell ⟨b6, 3, none⟩ (.slice Y.pa Y.pn Y.pc)) := by
  have a0 := oe_et (oe_et (oe_et (oe_et oa i5 0 (.slice X.va X.vn X.vc)) (i5.set 0 _) 1 (.slice X.fa X.fn X.fc)) ((i5.set 0 _).set 1 _) 2 (.slice X.ta X.tn X.tc)) (((i5.set 0 _).set 1 _).set 2 _) 3 (.slice X.pa X.pn X.pc)
  have b0 := oe_et (oe_et (oe_et (oe_et ob i5 0 (.slice X.va X.vn X.vc)) (i5.set 0 _) 1 (.slice X.fa X.fn X.fc)) ((i5.set 0 _).set 1 _) 2 (.slice X.ta X.tn X.tc)) (((i5.set 0 _).set 1 _).set 2 _) 3 (.slice X.pa X.pn X.pc)
  have j5 := (((i5.set 0 (.slice X.va X.vn X.vc)).set 1 (.slice X.fa X.fn X.fc)).set 2 (.slice X.ta X.tn X.tc)).set 3 (.slice X.pa X.pn X.pc)
  have j6 := (((i6.set_far ne.symm 0 (.slice X.va X.vn X.vc)).set_far ne.symm 1 (.slice X.fa X.fn X.fc)).set_far ne.symm 2 (.slice X.ta X.tn X.tc)).set_far ne.symm 3 (.slice X.pa X.pn X.pc)
  have np5 : bx ≠ b5 := bp.ne i5 (by decide)
  have np6 : bx ≠ b6 := bp.ne i6 (by decide)
  have jp := (((bp.set_far np5 0 (.slice X.va X.vn X.vc)).set_far np5 1 (.slice X.fa X.fn X.fc)).set_far np5 2 (.slice X.ta X.tn X.tc)).set_far np5 3 (.slice X.pa X.pn X.pc)
  have gg := gb_put (gb_put (gb_put (gb_put g l5 (i := 0) (u := .slice X.va X.vn X.vc)) l5 (i := 1) (u := .slice X.fa X.fn X.fc)) l5 (i := 2) (u := .slice X.ta X.tn X.tc)) l5 (i := 3) (u := .slice X.pa X.pn X.pc)
  generalize ((((w2.setCell ⟨b5, 0, none⟩ (.slice X.va X.vn X.vc)).setCell ⟨b5, 1, none⟩ (.slice X.fa X.fn X.fc)).setCell ⟨b5, 2, none⟩ (.slice X.ta X.tn X.tc)).setCell ⟨b5, 3, none⟩ (.slice X.pa X.pn X.pc)) = w3 at *
  refine ⟨(((jp.set_far np6 0 _).set_far np6 1 _).set_far np6 2 _).set_far np6 3 _, ?_, (((j6.set 0 _).set 1 _).set 2 _).set 3 _, ⟨Va, ?_⟩, ⟨Vb, ?_⟩, gb_put (gb_put (gb_put (gb_put gg l6) l6) l6) l6, l5, l6, ne⟩
  · exact (((j5.set_far ne 0 _).set_far ne 1 _).set_far ne 2 _).set_far ne 3 _
  · exact oe_et (oe_et (oe_et (oe_et a0 j6 0 _) (j6.set 0 _) 1 _) ((j6.set 0 _).set 1 _) 2 _) (((j6.set 0 _).set 1 _).set 2 _) 3 _
  · exact oe_et (oe_et (oe_et (oe_et b0 j6 0 _) (j6.set 0 _) 1 _) ((j6.set 0 _).set 1 _) 2 _) (((j6.set 0 _).set 1 _).set 2 _) 3 _
theorem SpB.p4 {w2 : World} {bx b5 : Nat} {p9 : Array Value} {X : EX} {x0 x1 x2 x3 : Value} (bp : IsB w2 bx 31 p9) (i5 : IsB w2 b5 37 #[x0, x1, x2, x3]) : IsB ((((w2.setCell ⟨b5, 0, none⟩ (.slice X.va X.vn X.vc)).setCell ⟨b5, 1, none⟩ (.slice X.fa X.fn X.fc)).setCell ⟨b5, 2, none⟩ (.slice X.ta X.tn X.tc)).setCell ⟨b5, 3, none⟩ (.slice X.pa X.pn X.pc)) bx 31 p9 := by
  have np5 : bx ≠ b5 := bp.ne i5 (by decide)
  exact (((bp.set_far np5 0 _).set_far np5 1 _).set_far np5 2 _).set_far np5 3 _
theorem set_P (H : List (ByteArray × List Fld)) (M : List Fld) (L : EL) (rh rf v : Int) : (setE H M L rh rf v).P = L.P := by
  unfold setE
  split <;> rfl
set_option maxRecDepth 100000 in
set_option maxHeartbeats 40000000 in
theorem runs_walk (w : World) (nm v3 v4 v5 v6 v7 v8 : Value) (ha ma : Option Addr) (hn hc mn mc : Nat) (H : List (ByteArray × List Fld)) (M : List Fld) (hH : SH w ha hn hc H) (hM : SF w ma mn mc M) (a1 : Option Addr) (an ac : Nat) (K1 : List At) (hA : SAt w a1 an ac K1) : Calls Try.prog 5 #[.agg #[nm, .slice ha hn hc, .slice ma mn mc, v3, v4, v5, v6, v7, v8], .slice a1 an ac] w (RetV (.bool true) w) := by
  have GZ := Lib.hid (gb_alloc w (.cells #[nm, .slice ha hn hc, .slice ma mn mc, v3, v4, v5, v6, v7, v8] 31) none)
  have BP := IsB.new w 31 #[nm, .slice ha hn hc, .slice ma mn mc, v3, v4, v5, v6, v7, v8]
  replace BP := Lib.hid BP
  have HD := Lib.hid (fun (W : World) (k : w.grownBy W none) => (⟨hH.keep0 k, hM.keep0 k⟩ : SH W ha hn hc H ∧ SF W ma mn mc M))
  have HA := Lib.hid (fun (W : World) (k : w.grownBy W none) => hA.keep0 k)
  have HN := Lib.hid hH.len
  have MN := Lib.hid hM.len
  have RG := Lib.hid (fun j hj => hA.at_ j hj)
  clear hH hM hA
  go_enter Try.func5, Try.ntmps5
  go_upto_region 1 with fail
  generalize w.alloc (.cells #[nm, .slice ha hn hc, .slice ma mn mc, v3, v4, v5, v6, v7, v8] 31) = w1 at *
  obtain ⟨bx, hbx⟩ : ∃ b, b = w.heap.size := ⟨_, rfl⟩
  have Lbx := Lib.hid (show w.heap.size ≤ bx by rw [hbx]; exact Nat.le_refl _)
  rw [← hbx] at BP ⊢
  clear hbx
  have c0 := BP.out.cell 0
  have c1 := BP.out.cell 1
  have c2 := BP.out.cell 2
  have c3 := BP.out.cell 3
  have c4 := BP.out.cell 4
  have c5 := BP.out.cell 5
  have c6 := BP.out.cell 6
  have c7 := BP.out.cell 7
  have c8 := BP.out.cell 8
  dsimp at c0 c1 c2 c3 c4 c5 c6 c7 c8
  by_cases sP : sizeP H M
  · have LP := Lib.hid (large_any w1 nm v3 v4 v5 v6 v7 v8 ha ma hn hc mn mc H M (HD.out _ GZ.out).1 (HD.out _ GZ.out).2 false ⟨fun _ => sP, fun _ => rfl⟩)
    have SP := Lib.hid sP
    by_cases h6 : 60 < an
    · have n6 : (60 : Int) < (an : Int) := by omega
      go_wp2_with fail
      refine LP.out.mono ?_
      rintro e w2 ⟨rfl, g⟩
      replace GZ := Lib.hid (gb_trans GZ.out g)
      clear g LP
      go_wp2_with fail
      refine (works_any _).mono ?_
      rintro e w3 ⟨rfl, g⟩
      have G3 := Lib.hid (gb_trans GZ.out g)
      clear g
      go_wp2
      go_ret
      exact ⟨rfl, G3.out⟩
    · have n6 : ¬ (60 : Int) < (an : Int) := by omega
      have A6 := Lib.hid (show an ≤ 60 by omega)
      clear h6 sP
      go_wp2_with fail
      refine LP.out.mono ?_
      rintro e w2 ⟨rfl, g⟩
      replace BP := Lib.hid (BP.out.keep0 g)
      replace GZ := Lib.hid (gb_trans GZ.out g)
      clear g LP
      clear c0 c1 c2 c3 c4 c5 c6 c7 c8
      have HB := Lib.hid (show hn ≤ 100000 by have := SP.out.1; have := HN.out; omega)
      have MB := Lib.hid (show mn ≤ 100000 by have := SP.out.2.1; have := MN.out; omega)
      have DB := Lib.hid (fun j => Nat.le_trans (dcl_bd SP.out j) (by decide : 16 ≤ 100000))
      have FB := Lib.hid (hf_bd SP.out)
      go_upto_region 3 with fail
      have KT := Lib.hid (fun (w' : World) (q : w2.grownBy w' none) => (⟨(BP.out.keep0 q).cell 0, (BP.out.keep0 q).cell 1, (BP.out.keep0 q).cell 2, (BP.out.keep0 q).cell 3, (BP.out.keep0 q).cell 4, (BP.out.keep0 q).cell 5, (BP.out.keep0 q).cell 6, (BP.out.keep0 q).cell 7, (BP.out.keep0 q).cell 8, trivial⟩ : (fun w' : World => w'.cell? ⟨bx, 0, none⟩ = some (nm) ∧ w'.cell? ⟨bx, 1, none⟩ = some (.slice ha hn hc) ∧ w'.cell? ⟨bx, 2, none⟩ = some (.slice ma mn mc) ∧ w'.cell? ⟨bx, 3, none⟩ = some (v3) ∧ w'.cell? ⟨bx, 4, none⟩ = some (v4) ∧ w'.cell? ⟨bx, 5, none⟩ = some (v5) ∧ w'.cell? ⟨bx, 6, none⟩ = some (v6) ∧ w'.cell? ⟨bx, 7, none⟩ = some (v7) ∧ w'.cell? ⟨bx, 8, none⟩ = some (v8) ∧ True) w'))
      go_cut [5, 6] from 17 to 20 (fun s5 s6 wx => ∃ (b5 b6 : Nat) (X Y : EX), s5 = .pointer (some ⟨b5, 0, none⟩) ∧ s6 = .pointer (some ⟨b6, 0, none⟩) ∧ RN w bx b5 b6 #[nm, .slice ha hn hc, .slice ma mn mc, v3, v4, v5, v6, v7, v8] X Y (newE H M) wx)
      case first =>
        have G := Lib.hid (gb_drew w2 none)
        refine wp_region_held_drew (S := (fun w' : World => w'.cell? ⟨bx, 0, none⟩ = some (nm) ∧ w'.cell? ⟨bx, 1, none⟩ = some (.slice ha hn hc) ∧ w'.cell? ⟨bx, 2, none⟩ = some (.slice ma mn mc) ∧ w'.cell? ⟨bx, 3, none⟩ = some (v3) ∧ w'.cell? ⟨bx, 4, none⟩ = some (v4) ∧ w'.cell? ⟨bx, 5, none⟩ = some (v5) ∧ w'.cell? ⟨bx, 6, none⟩ = some (v6) ∧ w'.cell? ⟨bx, 7, none⟩ = some (v7) ∧ w'.cell? ⟨bx, 8, none⟩ = some (v8) ∧ True)) (by kernel_rfl) (KT.out _ G.out) (fun hH0 => ?_)
        generalize w2.drew = z0 at *
        have KS := Lib.hid (fun (w' : World) (b : IsB w' bx 31 #[nm, .slice ha hn hc, .slice ma mn mc, v3, v4, v5, v6, v7, v8]) => (⟨b.cell 0, b.cell 1, b.cell 2, b.cell 3, b.cell 4, b.cell 5, b.cell 6, b.cell 7, b.cell 8, trivial⟩ : (fun w' : World => w'.cell? ⟨bx, 0, none⟩ = some (nm) ∧ w'.cell? ⟨bx, 1, none⟩ = some (.slice ha hn hc) ∧ w'.cell? ⟨bx, 2, none⟩ = some (.slice ma mn mc) ∧ w'.cell? ⟨bx, 3, none⟩ = some (v3) ∧ w'.cell? ⟨bx, 4, none⟩ = some (v4) ∧ w'.cell? ⟨bx, 5, none⟩ = some (v5) ∧ w'.cell? ⟨bx, 6, none⟩ = some (v6) ∧ w'.cell? ⟨bx, 7, none⟩ = some (v7) ∧ w'.cell? ⟨bx, 8, none⟩ = some (v8) ∧ True) w'))
        refine wpAnyH_take (i := 0) (v := ?v1) rfl (by kernel_rfl) (by kernel_rfl) (by kernel_rfl) (fun _ _ _ h => h) (Or.inl ⟨by rfl, ?hy1⟩) (by assumption) ?rest1
        case hy1 => (intro wz hSw; (try dsimp only at hSw); first | (go_simp; done) | (go_simp; with_reducible rfl))
        try simp only [Act.put, List.getElem_toArray, List.getElem_cons_zero, List.setIfInBounds_toArray, List.set_cons_zero, List.set_cons_succ]
        refine wpAnyH_take (i := 2) (v := ?v2) rfl (by kernel_rfl) (by kernel_rfl) (by kernel_rfl) (fun _ _ _ h => h) (Or.inl ⟨by rfl, ?hy2⟩) (by assumption) ?rest2
        case hy2 => (intro wz hSw; (try dsimp only at hSw); first | (go_simp; done) | (go_simp; with_reducible rfl))
        try simp only [Act.put, List.getElem_toArray, List.getElem_cons_succ, List.getElem_cons_zero, List.setIfInBounds_toArray, List.set_cons_zero, List.set_cons_succ]
        refine wpAnyH_ready (rs := [1, 4, 5]) (by kernel_rfl) (by simp) ?_
        refine AllReadyH.cons (o := _) rfl (fun K hK => ?_) ?_
        · go_simp
          refine (enew_any z0 nm v3 v4 v5 v6 v7 v8 ha ma hn hc mn mc H M (HD.out _ (gb_trans GZ.out G.out)).1 (HD.out _ (gb_trans GZ.out G.out)).2 HB.out MB.out FB.out).mono ?_
          rintro e z1 ⟨XA, VA, rfl, o, g⟩
          refine hK.out _ _ (KT.out _ (gb_trans G.out g)) (fun hH1 => ?_)
          clear hK K
          have OA := Lib.hid (o.low (Nat.le_trans GZ.out.size G.out.size))
          replace G := Lib.hid (gb_trans G.out g)
          clear o g
          try simp only [Act.put, List.getElem_toArray, List.getElem_cons_succ, List.getElem_cons_zero, List.setIfInBounds_toArray, List.set_cons_zero, List.set_cons_succ]
          refine wpAnyH_ready (rs := [3, 4, 5]) (by kernel_rfl) (by simp) ?_
          refine AllReadyH.cons (o := _) rfl (fun K hK => ?_) ?_
          · go_simp
            refine (rnew_any z1 nm v3 v4 v5 v6 v7 v8 ha ma hn hc mn mc H M (HD.out _ (gb_trans GZ.out G.out)).1 (HD.out _ (gb_trans GZ.out G.out)).2 HB.out MB.out FB.out).mono ?_
            rintro e z2 ⟨XB, VB, rfl, o, g⟩
            refine hK.out _ _ (KT.out _ (gb_trans G.out g)) (fun hH2 => ?_)
            clear hK K
            have OB := Lib.hid (o.low (Nat.le_trans GZ.out.size G.out.size))
            replace OA := Lib.hid (OA.out.keep0 g)
            replace G := Lib.hid (gb_trans G.out g)
            clear o g
            try simp only [Act.put, List.getElem_toArray, List.getElem_cons_succ, List.getElem_cons_zero, List.setIfInBounds_toArray, List.set_cons_zero, List.set_cons_succ]
            refine wpAnyH_ready (rs := [4, 5]) (by kernel_rfl) (by simp) ?_
            refine AllReadyH.cons (o := _) rfl (fun K hK => ?_) ?_
            · go_simp
              have g := gb_alloc z2 (.cells #[.slice none 0 0, .slice none 0 0, .slice none 0 0, .slice none 0 0] 37) none
              have nb := IsB.new z2 37 #[.slice none 0 0, .slice none 0 0, .slice none 0 0, .slice none 0 0]
              refine hK.out _ _ (KT.out _ (gb_trans G.out g)) (fun hH3 => ?_)
              clear hK K
              replace OA := Lib.hid (OA.out.keep0 g)
              replace OB := Lib.hid (OB.out.keep0 g)
              have Lx : w.heap.size ≤ z2.heap.size := Nat.le_trans GZ.out.size G.out.size
              replace G := Lib.hid (gb_trans G.out g)
              have I5 := Lib.hid nb
              have L5 := Lib.hid Lx
              obtain ⟨b5, hb⟩ : ∃ b, b = z2.heap.size := ⟨_, rfl⟩
              rw [← hb] at I5 L5 ⊢
              clear g nb hb Lx
              generalize z2.alloc (.cells #[.slice none 0 0, .slice none 0 0, .slice none 0 0, .slice none 0 0] 37) = z3 at *
              try simp only [Act.put, List.getElem_toArray, List.getElem_cons_succ, List.getElem_cons_zero, List.setIfInBounds_toArray, List.set_cons_zero, List.set_cons_succ]
              refine wpAnyH_ready (rs := [5]) (by kernel_rfl) (by simp) ?_
              refine AllReadyH.cons (o := _) rfl (fun K hK => ?_) ?_
              · go_simp
                have g := gb_alloc z3 (.cells #[.slice none 0 0, .slice none 0 0, .slice none 0 0, .slice none 0 0] 37) none
                have nb := IsB.new z3 37 #[.slice none 0 0, .slice none 0 0, .slice none 0 0, .slice none 0 0]
                refine hK.out _ _ (KT.out _ (gb_trans G.out g)) (fun hH4 => ?_)
                clear hK K
                have NE := Lib.hid (show b5 ≠ z3.heap.size from Nat.ne_of_lt I5.out.lt)
                replace OA := Lib.hid (OA.out.keep0 g)
                replace OB := Lib.hid (OB.out.keep0 g)
                replace I5 := Lib.hid (I5.out.keep0 g)
                have Lx : w.heap.size ≤ z3.heap.size := Nat.le_trans GZ.out.size G.out.size
                replace G := Lib.hid (gb_trans G.out g)
                have I6 := Lib.hid nb
                have L6 := Lib.hid Lx
                obtain ⟨b6, hb⟩ : ∃ b, b = z3.heap.size := ⟨_, rfl⟩
                rw [← hb] at I6 L6 NE ⊢
                clear g nb hb Lx
                generalize z3.alloc (.cells #[.slice none 0 0, .slice none 0 0, .slice none 0 0, .slice none 0 0] 37) = z4 at *
                try simp only [Act.put, List.getElem_toArray, List.getElem_cons_succ, List.getElem_cons_zero, List.setIfInBounds_toArray, List.set_cons_zero, List.set_cons_succ]
                have q0 := I5.out.cell 0
                have q1 := I5.out.cell 1
                have q2 := I5.out.cell 2
                have q3 := I5.out.cell 3
                have r0 := I6.out.cell 0
                have r1 := I6.out.cell 1
                have r2 := I6.out.cell 2
                have r3 := I6.out.cell 3
                dsimp at q0 q1 q2 q3 r0 r1 r2 r3
                have f0 := I5.out.free 0
                have f1 := I5.out.free 1
                have f2 := I5.out.free 2
                have f3 := I5.out.free 3
                have e0 := I6.out.free 0
                have e1 := I6.out.free 1
                have e2 := I6.out.free 2
                have e3 := I6.out.free 3
                have N5 : b5 ≠ b6 := NE.out
                have N6 : b6 ≠ b5 := N5.symm
                have RX := Lib.hid (rn_put (BP.out.keep0 G.out) I5.out I6.out OA.out OB.out (gb_trans GZ.out G.out) L5.out L6.out N5)
                refine wpAnyH_ready (rs := [6]) (by kernel_rfl) (by simp) ?_
                refine AllReadyH.cons (o := _) rfl (fun K hK => ?_) AllReadyH.nil
                go_simp
                refine hK.out _ _ (KS.out _ (SpB.p4 (BP.out.keep0 G.out) I5.out)) (fun hH98 => ?_)
                clear hK K hH98
                try simp only [Act.put, List.getElem_toArray, List.getElem_cons_succ, List.getElem_cons_zero, List.setIfInBounds_toArray, List.set_cons_zero, List.set_cons_succ]
                refine wpAnyH_ready (rs := [7]) (by kernel_rfl) (by simp) ?_
                refine AllReadyH.cons (o := _) rfl (fun K hK => ?_) AllReadyH.nil
                go_simp
                refine hK.out _ _ (KS.out _ (RX.out.bp)) (fun hH99 => ?_)
                clear hK K hH99
                try simp only [Act.put, List.getElem_toArray, List.getElem_cons_succ, List.getElem_cons_zero, List.setIfInBounds_toArray, List.set_cons_zero, List.set_cons_succ]
                refine wpAnyH_done (by kernel_rfl) ?_ _
                go_wp2_with fail
                go_meet
                exact ⟨b5, b6, XA, XB, rfl, rfl, RX.out⟩
              exact AllReadyH.nil
            refine AllReadyH.cons (o := _) rfl (fun K hK => ?_) ?_
            · go_simp
              have g := gb_alloc z2 (.cells #[.slice none 0 0, .slice none 0 0, .slice none 0 0, .slice none 0 0] 37) none
              have nb := IsB.new z2 37 #[.slice none 0 0, .slice none 0 0, .slice none 0 0, .slice none 0 0]
              refine hK.out _ _ (KT.out _ (gb_trans G.out g)) (fun hH5 => ?_)
              clear hK K
              replace OA := Lib.hid (OA.out.keep0 g)
              replace OB := Lib.hid (OB.out.keep0 g)
              have Lx : w.heap.size ≤ z2.heap.size := Nat.le_trans GZ.out.size G.out.size
              replace G := Lib.hid (gb_trans G.out g)
              have I6 := Lib.hid nb
              have L6 := Lib.hid Lx
              obtain ⟨b6, hb⟩ : ∃ b, b = z2.heap.size := ⟨_, rfl⟩
              rw [← hb] at I6 L6 ⊢
              clear g nb hb Lx
              generalize z2.alloc (.cells #[.slice none 0 0, .slice none 0 0, .slice none 0 0, .slice none 0 0] 37) = z5 at *
              try simp only [Act.put, List.getElem_toArray, List.getElem_cons_succ, List.getElem_cons_zero, List.setIfInBounds_toArray, List.set_cons_zero, List.set_cons_succ]
              refine wpAnyH_ready (rs := [4]) (by kernel_rfl) (by simp) ?_
              refine AllReadyH.cons (o := _) rfl (fun K hK => ?_) ?_
              · go_simp
                have g := gb_alloc z5 (.cells #[.slice none 0 0, .slice none 0 0, .slice none 0 0, .slice none 0 0] 37) none
                have nb := IsB.new z5 37 #[.slice none 0 0, .slice none 0 0, .slice none 0 0, .slice none 0 0]
                refine hK.out _ _ (KT.out _ (gb_trans G.out g)) (fun hH6 => ?_)
                clear hK K
                have NE := Lib.hid (show b6 ≠ z5.heap.size from Nat.ne_of_lt I6.out.lt)
                replace OA := Lib.hid (OA.out.keep0 g)
                replace OB := Lib.hid (OB.out.keep0 g)
                replace I6 := Lib.hid (I6.out.keep0 g)
                have Lx : w.heap.size ≤ z5.heap.size := Nat.le_trans GZ.out.size G.out.size
                replace G := Lib.hid (gb_trans G.out g)
                have I5 := Lib.hid nb
                have L5 := Lib.hid Lx
                obtain ⟨b5, hb⟩ : ∃ b, b = z5.heap.size := ⟨_, rfl⟩
                rw [← hb] at I5 L5 NE ⊢
                clear g nb hb Lx
                generalize z5.alloc (.cells #[.slice none 0 0, .slice none 0 0, .slice none 0 0, .slice none 0 0] 37) = z6 at *
                try simp only [Act.put, List.getElem_toArray, List.getElem_cons_succ, List.getElem_cons_zero, List.setIfInBounds_toArray, List.set_cons_zero, List.set_cons_succ]
                have q0 := I5.out.cell 0
                have q1 := I5.out.cell 1
                have q2 := I5.out.cell 2
                have q3 := I5.out.cell 3
                have r0 := I6.out.cell 0
                have r1 := I6.out.cell 1
                have r2 := I6.out.cell 2
                have r3 := I6.out.cell 3
                dsimp at q0 q1 q2 q3 r0 r1 r2 r3
                have f0 := I5.out.free 0
                have f1 := I5.out.free 1
                have f2 := I5.out.free 2
                have f3 := I5.out.free 3
                have e0 := I6.out.free 0
                have e1 := I6.out.free 1
                have e2 := I6.out.free 2
                have e3 := I6.out.free 3
                have N5 : b5 ≠ b6 := NE.out.symm
                have N6 : b6 ≠ b5 := N5.symm
                have RX := Lib.hid (rn_put (BP.out.keep0 G.out) I5.out I6.out OA.out OB.out (gb_trans GZ.out G.out) L5.out L6.out N5)
                refine wpAnyH_ready (rs := [6]) (by kernel_rfl) (by simp) ?_
                refine AllReadyH.cons (o := _) rfl (fun K hK => ?_) AllReadyH.nil
                go_simp
                refine hK.out _ _ (KS.out _ (SpB.p4 (BP.out.keep0 G.out) I5.out)) (fun hH98 => ?_)
                clear hK K hH98
                try simp only [Act.put, List.getElem_toArray, List.getElem_cons_succ, List.getElem_cons_zero, List.setIfInBounds_toArray, List.set_cons_zero, List.set_cons_succ]
                refine wpAnyH_ready (rs := [7]) (by kernel_rfl) (by simp) ?_
                refine AllReadyH.cons (o := _) rfl (fun K hK => ?_) AllReadyH.nil
                go_simp
                refine hK.out _ _ (KS.out _ (RX.out.bp)) (fun hH99 => ?_)
                clear hK K hH99
                try simp only [Act.put, List.getElem_toArray, List.getElem_cons_succ, List.getElem_cons_zero, List.setIfInBounds_toArray, List.set_cons_zero, List.set_cons_succ]
                refine wpAnyH_done (by kernel_rfl) ?_ _
                go_wp2_with fail
                go_meet
                exact ⟨b5, b6, XA, XB, rfl, rfl, RX.out⟩
              exact AllReadyH.nil
            exact AllReadyH.nil
          refine AllReadyH.cons (o := _) rfl (fun K hK => ?_) ?_
          · go_simp
            have g := gb_alloc z1 (.cells #[.slice none 0 0, .slice none 0 0, .slice none 0 0, .slice none 0 0] 37) none
            have nb := IsB.new z1 37 #[.slice none 0 0, .slice none 0 0, .slice none 0 0, .slice none 0 0]
            refine hK.out _ _ (KT.out _ (gb_trans G.out g)) (fun hH7 => ?_)
            clear hK K
            replace OA := Lib.hid (OA.out.keep0 g)
            have Lx : w.heap.size ≤ z1.heap.size := Nat.le_trans GZ.out.size G.out.size
            replace G := Lib.hid (gb_trans G.out g)
            have I5 := Lib.hid nb
            have L5 := Lib.hid Lx
            obtain ⟨b5, hb⟩ : ∃ b, b = z1.heap.size := ⟨_, rfl⟩
            rw [← hb] at I5 L5 ⊢
            clear g nb hb Lx
            generalize z1.alloc (.cells #[.slice none 0 0, .slice none 0 0, .slice none 0 0, .slice none 0 0] 37) = z7 at *
            try simp only [Act.put, List.getElem_toArray, List.getElem_cons_succ, List.getElem_cons_zero, List.setIfInBounds_toArray, List.set_cons_zero, List.set_cons_succ]
            refine wpAnyH_ready (rs := [3, 5]) (by kernel_rfl) (by simp) ?_
            refine AllReadyH.cons (o := _) rfl (fun K hK => ?_) ?_
            · go_simp
              refine (rnew_any z7 nm v3 v4 v5 v6 v7 v8 ha ma hn hc mn mc H M (HD.out _ (gb_trans GZ.out G.out)).1 (HD.out _ (gb_trans GZ.out G.out)).2 HB.out MB.out FB.out).mono ?_
              rintro e z8 ⟨XB, VB, rfl, o, g⟩
              refine hK.out _ _ (KT.out _ (gb_trans G.out g)) (fun hH8 => ?_)
              clear hK K
              have OB := Lib.hid (o.low (Nat.le_trans GZ.out.size G.out.size))
              replace OA := Lib.hid (OA.out.keep0 g)
              replace I5 := Lib.hid (I5.out.keep0 g)
              replace G := Lib.hid (gb_trans G.out g)
              clear o g
              try simp only [Act.put, List.getElem_toArray, List.getElem_cons_succ, List.getElem_cons_zero, List.setIfInBounds_toArray, List.set_cons_zero, List.set_cons_succ]
              refine wpAnyH_ready (rs := [5]) (by kernel_rfl) (by simp) ?_
              refine AllReadyH.cons (o := _) rfl (fun K hK => ?_) ?_
              · go_simp
                have g := gb_alloc z8 (.cells #[.slice none 0 0, .slice none 0 0, .slice none 0 0, .slice none 0 0] 37) none
                have nb := IsB.new z8 37 #[.slice none 0 0, .slice none 0 0, .slice none 0 0, .slice none 0 0]
                refine hK.out _ _ (KT.out _ (gb_trans G.out g)) (fun hH9 => ?_)
                clear hK K
                have NE := Lib.hid (show b5 ≠ z8.heap.size from Nat.ne_of_lt I5.out.lt)
                replace OA := Lib.hid (OA.out.keep0 g)
                replace I5 := Lib.hid (I5.out.keep0 g)
                replace OB := Lib.hid (OB.out.keep0 g)
                have Lx : w.heap.size ≤ z8.heap.size := Nat.le_trans GZ.out.size G.out.size
                replace G := Lib.hid (gb_trans G.out g)
                have I6 := Lib.hid nb
                have L6 := Lib.hid Lx
                obtain ⟨b6, hb⟩ : ∃ b, b = z8.heap.size := ⟨_, rfl⟩
                rw [← hb] at I6 L6 NE ⊢
                clear g nb hb Lx
                generalize z8.alloc (.cells #[.slice none 0 0, .slice none 0 0, .slice none 0 0, .slice none 0 0] 37) = z9 at *
                try simp only [Act.put, List.getElem_toArray, List.getElem_cons_succ, List.getElem_cons_zero, List.setIfInBounds_toArray, List.set_cons_zero, List.set_cons_succ]
                have q0 := I5.out.cell 0
                have q1 := I5.out.cell 1
                have q2 := I5.out.cell 2
                have q3 := I5.out.cell 3
                have r0 := I6.out.cell 0
                have r1 := I6.out.cell 1
                have r2 := I6.out.cell 2
                have r3 := I6.out.cell 3
                dsimp at q0 q1 q2 q3 r0 r1 r2 r3
                have f0 := I5.out.free 0
                have f1 := I5.out.free 1
                have f2 := I5.out.free 2
                have f3 := I5.out.free 3
                have e0 := I6.out.free 0
                have e1 := I6.out.free 1
                have e2 := I6.out.free 2
                have e3 := I6.out.free 3
                have N5 : b5 ≠ b6 := NE.out
                have N6 : b6 ≠ b5 := N5.symm
                have RX := Lib.hid (rn_put (BP.out.keep0 G.out) I5.out I6.out OA.out OB.out (gb_trans GZ.out G.out) L5.out L6.out N5)
                refine wpAnyH_ready (rs := [6]) (by kernel_rfl) (by simp) ?_
                refine AllReadyH.cons (o := _) rfl (fun K hK => ?_) AllReadyH.nil
                go_simp
                refine hK.out _ _ (KS.out _ (SpB.p4 (BP.out.keep0 G.out) I5.out)) (fun hH98 => ?_)
                clear hK K hH98
                try simp only [Act.put, List.getElem_toArray, List.getElem_cons_succ, List.getElem_cons_zero, List.setIfInBounds_toArray, List.set_cons_zero, List.set_cons_succ]
                refine wpAnyH_ready (rs := [7]) (by kernel_rfl) (by simp) ?_
                refine AllReadyH.cons (o := _) rfl (fun K hK => ?_) AllReadyH.nil
                go_simp
                refine hK.out _ _ (KS.out _ (RX.out.bp)) (fun hH99 => ?_)
                clear hK K hH99
                try simp only [Act.put, List.getElem_toArray, List.getElem_cons_succ, List.getElem_cons_zero, List.setIfInBounds_toArray, List.set_cons_zero, List.set_cons_succ]
                refine wpAnyH_done (by kernel_rfl) ?_ _
                go_wp2_with fail
                go_meet
                exact ⟨b5, b6, XA, XB, rfl, rfl, RX.out⟩
              exact AllReadyH.nil
            refine AllReadyH.cons (o := _) rfl (fun K hK => ?_) ?_
            · go_simp
              have g := gb_alloc z7 (.cells #[.slice none 0 0, .slice none 0 0, .slice none 0 0, .slice none 0 0] 37) none
              have nb := IsB.new z7 37 #[.slice none 0 0, .slice none 0 0, .slice none 0 0, .slice none 0 0]
              refine hK.out _ _ (KT.out _ (gb_trans G.out g)) (fun hH10 => ?_)
              clear hK K
              have NE := Lib.hid (show b5 ≠ z7.heap.size from Nat.ne_of_lt I5.out.lt)
              replace OA := Lib.hid (OA.out.keep0 g)
              replace I5 := Lib.hid (I5.out.keep0 g)
              have Lx : w.heap.size ≤ z7.heap.size := Nat.le_trans GZ.out.size G.out.size
              replace G := Lib.hid (gb_trans G.out g)
              have I6 := Lib.hid nb
              have L6 := Lib.hid Lx
              obtain ⟨b6, hb⟩ : ∃ b, b = z7.heap.size := ⟨_, rfl⟩
              rw [← hb] at I6 L6 NE ⊢
              clear g nb hb Lx
              generalize z7.alloc (.cells #[.slice none 0 0, .slice none 0 0, .slice none 0 0, .slice none 0 0] 37) = z10 at *
              try simp only [Act.put, List.getElem_toArray, List.getElem_cons_succ, List.getElem_cons_zero, List.setIfInBounds_toArray, List.set_cons_zero, List.set_cons_succ]
              refine wpAnyH_ready (rs := [3]) (by kernel_rfl) (by simp) ?_
              refine AllReadyH.cons (o := _) rfl (fun K hK => ?_) ?_
              · go_simp
                refine (rnew_any z10 nm v3 v4 v5 v6 v7 v8 ha ma hn hc mn mc H M (HD.out _ (gb_trans GZ.out G.out)).1 (HD.out _ (gb_trans GZ.out G.out)).2 HB.out MB.out FB.out).mono ?_
                rintro e z11 ⟨XB, VB, rfl, o, g⟩
                refine hK.out _ _ (KT.out _ (gb_trans G.out g)) (fun hH11 => ?_)
                clear hK K
                have OB := Lib.hid (o.low (Nat.le_trans GZ.out.size G.out.size))
                replace OA := Lib.hid (OA.out.keep0 g)
                replace I5 := Lib.hid (I5.out.keep0 g)
                replace I6 := Lib.hid (I6.out.keep0 g)
                replace G := Lib.hid (gb_trans G.out g)
                clear o g
                try simp only [Act.put, List.getElem_toArray, List.getElem_cons_succ, List.getElem_cons_zero, List.setIfInBounds_toArray, List.set_cons_zero, List.set_cons_succ]
                have q0 := I5.out.cell 0
                have q1 := I5.out.cell 1
                have q2 := I5.out.cell 2
                have q3 := I5.out.cell 3
                have r0 := I6.out.cell 0
                have r1 := I6.out.cell 1
                have r2 := I6.out.cell 2
                have r3 := I6.out.cell 3
                dsimp at q0 q1 q2 q3 r0 r1 r2 r3
                have f0 := I5.out.free 0
                have f1 := I5.out.free 1
                have f2 := I5.out.free 2
                have f3 := I5.out.free 3
                have e0 := I6.out.free 0
                have e1 := I6.out.free 1
                have e2 := I6.out.free 2
                have e3 := I6.out.free 3
                have N5 : b5 ≠ b6 := NE.out
                have N6 : b6 ≠ b5 := N5.symm
                have RX := Lib.hid (rn_put (BP.out.keep0 G.out) I5.out I6.out OA.out OB.out (gb_trans GZ.out G.out) L5.out L6.out N5)
                refine wpAnyH_ready (rs := [6]) (by kernel_rfl) (by simp) ?_
                refine AllReadyH.cons (o := _) rfl (fun K hK => ?_) AllReadyH.nil
                go_simp
                refine hK.out _ _ (KS.out _ (SpB.p4 (BP.out.keep0 G.out) I5.out)) (fun hH98 => ?_)
                clear hK K hH98
                try simp only [Act.put, List.getElem_toArray, List.getElem_cons_succ, List.getElem_cons_zero, List.setIfInBounds_toArray, List.set_cons_zero, List.set_cons_succ]
                refine wpAnyH_ready (rs := [7]) (by kernel_rfl) (by simp) ?_
                refine AllReadyH.cons (o := _) rfl (fun K hK => ?_) AllReadyH.nil
                go_simp
                refine hK.out _ _ (KS.out _ (RX.out.bp)) (fun hH99 => ?_)
                clear hK K hH99
                try simp only [Act.put, List.getElem_toArray, List.getElem_cons_succ, List.getElem_cons_zero, List.setIfInBounds_toArray, List.set_cons_zero, List.set_cons_succ]
                refine wpAnyH_done (by kernel_rfl) ?_ _
                go_wp2_with fail
                go_meet
                exact ⟨b5, b6, XA, XB, rfl, rfl, RX.out⟩
              exact AllReadyH.nil
            exact AllReadyH.nil
          refine AllReadyH.cons (o := _) rfl (fun K hK => ?_) ?_
          · go_simp
            have g := gb_alloc z1 (.cells #[.slice none 0 0, .slice none 0 0, .slice none 0 0, .slice none 0 0] 37) none
            have nb := IsB.new z1 37 #[.slice none 0 0, .slice none 0 0, .slice none 0 0, .slice none 0 0]
            refine hK.out _ _ (KT.out _ (gb_trans G.out g)) (fun hH12 => ?_)
            clear hK K
            replace OA := Lib.hid (OA.out.keep0 g)
            have Lx : w.heap.size ≤ z1.heap.size := Nat.le_trans GZ.out.size G.out.size
            replace G := Lib.hid (gb_trans G.out g)
            have I6 := Lib.hid nb
            have L6 := Lib.hid Lx
            obtain ⟨b6, hb⟩ : ∃ b, b = z1.heap.size := ⟨_, rfl⟩
            rw [← hb] at I6 L6 ⊢
            clear g nb hb Lx
            generalize z1.alloc (.cells #[.slice none 0 0, .slice none 0 0, .slice none 0 0, .slice none 0 0] 37) = z12 at *
            try simp only [Act.put, List.getElem_toArray, List.getElem_cons_succ, List.getElem_cons_zero, List.setIfInBounds_toArray, List.set_cons_zero, List.set_cons_succ]
            refine wpAnyH_ready (rs := [3, 4]) (by kernel_rfl) (by simp) ?_
            refine AllReadyH.cons (o := _) rfl (fun K hK => ?_) ?_
            · go_simp
              refine (rnew_any z12 nm v3 v4 v5 v6 v7 v8 ha ma hn hc mn mc H M (HD.out _ (gb_trans GZ.out G.out)).1 (HD.out _ (gb_trans GZ.out G.out)).2 HB.out MB.out FB.out).mono ?_
              rintro e z13 ⟨XB, VB, rfl, o, g⟩
              refine hK.out _ _ (KT.out _ (gb_trans G.out g)) (fun hH13 => ?_)
              clear hK K
              have OB := Lib.hid (o.low (Nat.le_trans GZ.out.size G.out.size))
              replace OA := Lib.hid (OA.out.keep0 g)
              replace I6 := Lib.hid (I6.out.keep0 g)
              replace G := Lib.hid (gb_trans G.out g)
              clear o g
              try simp only [Act.put, List.getElem_toArray, List.getElem_cons_succ, List.getElem_cons_zero, List.setIfInBounds_toArray, List.set_cons_zero, List.set_cons_succ]
              refine wpAnyH_ready (rs := [4]) (by kernel_rfl) (by simp) ?_
              refine AllReadyH.cons (o := _) rfl (fun K hK => ?_) ?_
              · go_simp
                have g := gb_alloc z13 (.cells #[.slice none 0 0, .slice none 0 0, .slice none 0 0, .slice none 0 0] 37) none
                have nb := IsB.new z13 37 #[.slice none 0 0, .slice none 0 0, .slice none 0 0, .slice none 0 0]
                refine hK.out _ _ (KT.out _ (gb_trans G.out g)) (fun hH14 => ?_)
                clear hK K
                have NE := Lib.hid (show b6 ≠ z13.heap.size from Nat.ne_of_lt I6.out.lt)
                replace OA := Lib.hid (OA.out.keep0 g)
                replace I6 := Lib.hid (I6.out.keep0 g)
                replace OB := Lib.hid (OB.out.keep0 g)
                have Lx : w.heap.size ≤ z13.heap.size := Nat.le_trans GZ.out.size G.out.size
                replace G := Lib.hid (gb_trans G.out g)
                have I5 := Lib.hid nb
                have L5 := Lib.hid Lx
                obtain ⟨b5, hb⟩ : ∃ b, b = z13.heap.size := ⟨_, rfl⟩
                rw [← hb] at I5 L5 NE ⊢
                clear g nb hb Lx
                generalize z13.alloc (.cells #[.slice none 0 0, .slice none 0 0, .slice none 0 0, .slice none 0 0] 37) = z14 at *
                try simp only [Act.put, List.getElem_toArray, List.getElem_cons_succ, List.getElem_cons_zero, List.setIfInBounds_toArray, List.set_cons_zero, List.set_cons_succ]
                have q0 := I5.out.cell 0
                have q1 := I5.out.cell 1
                have q2 := I5.out.cell 2
                have q3 := I5.out.cell 3
                have r0 := I6.out.cell 0
                have r1 := I6.out.cell 1
                have r2 := I6.out.cell 2
                have r3 := I6.out.cell 3
                dsimp at q0 q1 q2 q3 r0 r1 r2 r3
                have f0 := I5.out.free 0
                have f1 := I5.out.free 1
                have f2 := I5.out.free 2
                have f3 := I5.out.free 3
                have e0 := I6.out.free 0
                have e1 := I6.out.free 1
                have e2 := I6.out.free 2
                have e3 := I6.out.free 3
                have N5 : b5 ≠ b6 := NE.out.symm
                have N6 : b6 ≠ b5 := N5.symm
                have RX := Lib.hid (rn_put (BP.out.keep0 G.out) I5.out I6.out OA.out OB.out (gb_trans GZ.out G.out) L5.out L6.out N5)
                refine wpAnyH_ready (rs := [6]) (by kernel_rfl) (by simp) ?_
                refine AllReadyH.cons (o := _) rfl (fun K hK => ?_) AllReadyH.nil
                go_simp
                refine hK.out _ _ (KS.out _ (SpB.p4 (BP.out.keep0 G.out) I5.out)) (fun hH98 => ?_)
                clear hK K hH98
                try simp only [Act.put, List.getElem_toArray, List.getElem_cons_succ, List.getElem_cons_zero, List.setIfInBounds_toArray, List.set_cons_zero, List.set_cons_succ]
                refine wpAnyH_ready (rs := [7]) (by kernel_rfl) (by simp) ?_
                refine AllReadyH.cons (o := _) rfl (fun K hK => ?_) AllReadyH.nil
                go_simp
                refine hK.out _ _ (KS.out _ (RX.out.bp)) (fun hH99 => ?_)
                clear hK K hH99
                try simp only [Act.put, List.getElem_toArray, List.getElem_cons_succ, List.getElem_cons_zero, List.setIfInBounds_toArray, List.set_cons_zero, List.set_cons_succ]
                refine wpAnyH_done (by kernel_rfl) ?_ _
                go_wp2_with fail
                go_meet
                exact ⟨b5, b6, XA, XB, rfl, rfl, RX.out⟩
              exact AllReadyH.nil
            refine AllReadyH.cons (o := _) rfl (fun K hK => ?_) ?_
            · go_simp
              have g := gb_alloc z12 (.cells #[.slice none 0 0, .slice none 0 0, .slice none 0 0, .slice none 0 0] 37) none
              have nb := IsB.new z12 37 #[.slice none 0 0, .slice none 0 0, .slice none 0 0, .slice none 0 0]
              refine hK.out _ _ (KT.out _ (gb_trans G.out g)) (fun hH15 => ?_)
              clear hK K
              have NE := Lib.hid (show b6 ≠ z12.heap.size from Nat.ne_of_lt I6.out.lt)
              replace OA := Lib.hid (OA.out.keep0 g)
              replace I6 := Lib.hid (I6.out.keep0 g)
              have Lx : w.heap.size ≤ z12.heap.size := Nat.le_trans GZ.out.size G.out.size
              replace G := Lib.hid (gb_trans G.out g)
              have I5 := Lib.hid nb
              have L5 := Lib.hid Lx
              obtain ⟨b5, hb⟩ : ∃ b, b = z12.heap.size := ⟨_, rfl⟩
              rw [← hb] at I5 L5 NE ⊢
              clear g nb hb Lx
              generalize z12.alloc (.cells #[.slice none 0 0, .slice none 0 0, .slice none 0 0, .slice none 0 0] 37) = z15 at *
              try simp only [Act.put, List.getElem_toArray, List.getElem_cons_succ, List.getElem_cons_zero, List.setIfInBounds_toArray, List.set_cons_zero, List.set_cons_succ]
              refine wpAnyH_ready (rs := [3]) (by kernel_rfl) (by simp) ?_
              refine AllReadyH.cons (o := _) rfl (fun K hK => ?_) ?_
              · go_simp
                refine (rnew_any z15 nm v3 v4 v5 v6 v7 v8 ha ma hn hc mn mc H M (HD.out _ (gb_trans GZ.out G.out)).1 (HD.out _ (gb_trans GZ.out G.out)).2 HB.out MB.out FB.out).mono ?_
                rintro e z16 ⟨XB, VB, rfl, o, g⟩
                refine hK.out _ _ (KT.out _ (gb_trans G.out g)) (fun hH16 => ?_)
                clear hK K
                have OB := Lib.hid (o.low (Nat.le_trans GZ.out.size G.out.size))
                replace OA := Lib.hid (OA.out.keep0 g)
                replace I6 := Lib.hid (I6.out.keep0 g)
                replace I5 := Lib.hid (I5.out.keep0 g)
                replace G := Lib.hid (gb_trans G.out g)
                clear o g
                try simp only [Act.put, List.getElem_toArray, List.getElem_cons_succ, List.getElem_cons_zero, List.setIfInBounds_toArray, List.set_cons_zero, List.set_cons_succ]
                have q0 := I5.out.cell 0
                have q1 := I5.out.cell 1
                have q2 := I5.out.cell 2
                have q3 := I5.out.cell 3
                have r0 := I6.out.cell 0
                have r1 := I6.out.cell 1
                have r2 := I6.out.cell 2
                have r3 := I6.out.cell 3
                dsimp at q0 q1 q2 q3 r0 r1 r2 r3
                have f0 := I5.out.free 0
                have f1 := I5.out.free 1
                have f2 := I5.out.free 2
                have f3 := I5.out.free 3
                have e0 := I6.out.free 0
                have e1 := I6.out.free 1
                have e2 := I6.out.free 2
                have e3 := I6.out.free 3
                have N5 : b5 ≠ b6 := NE.out.symm
                have N6 : b6 ≠ b5 := N5.symm
                have RX := Lib.hid (rn_put (BP.out.keep0 G.out) I5.out I6.out OA.out OB.out (gb_trans GZ.out G.out) L5.out L6.out N5)
                refine wpAnyH_ready (rs := [6]) (by kernel_rfl) (by simp) ?_
                refine AllReadyH.cons (o := _) rfl (fun K hK => ?_) AllReadyH.nil
                go_simp
                refine hK.out _ _ (KS.out _ (SpB.p4 (BP.out.keep0 G.out) I5.out)) (fun hH98 => ?_)
                clear hK K hH98
                try simp only [Act.put, List.getElem_toArray, List.getElem_cons_succ, List.getElem_cons_zero, List.setIfInBounds_toArray, List.set_cons_zero, List.set_cons_succ]
                refine wpAnyH_ready (rs := [7]) (by kernel_rfl) (by simp) ?_
                refine AllReadyH.cons (o := _) rfl (fun K hK => ?_) AllReadyH.nil
                go_simp
                refine hK.out _ _ (KS.out _ (RX.out.bp)) (fun hH99 => ?_)
                clear hK K hH99
                try simp only [Act.put, List.getElem_toArray, List.getElem_cons_succ, List.getElem_cons_zero, List.setIfInBounds_toArray, List.set_cons_zero, List.set_cons_succ]
                refine wpAnyH_done (by kernel_rfl) ?_ _
                go_wp2_with fail
                go_meet
                exact ⟨b5, b6, XA, XB, rfl, rfl, RX.out⟩
              exact AllReadyH.nil
            exact AllReadyH.nil
          exact AllReadyH.nil
        refine AllReadyH.cons (o := _) rfl (fun K hK => ?_) ?_
        · go_simp
          have g := gb_alloc z0 (.cells #[.slice none 0 0, .slice none 0 0, .slice none 0 0, .slice none 0 0] 37) none
          have nb := IsB.new z0 37 #[.slice none 0 0, .slice none 0 0, .slice none 0 0, .slice none 0 0]
          refine hK.out _ _ (KT.out _ (gb_trans G.out g)) (fun hH17 => ?_)
          clear hK K
          have Lx : w.heap.size ≤ z0.heap.size := Nat.le_trans GZ.out.size G.out.size
          replace G := Lib.hid (gb_trans G.out g)
          have I5 := Lib.hid nb
          have L5 := Lib.hid Lx
          obtain ⟨b5, hb⟩ : ∃ b, b = z0.heap.size := ⟨_, rfl⟩
          rw [← hb] at I5 L5 ⊢
          clear g nb hb Lx
          generalize z0.alloc (.cells #[.slice none 0 0, .slice none 0 0, .slice none 0 0, .slice none 0 0] 37) = z17 at *
          try simp only [Act.put, List.getElem_toArray, List.getElem_cons_succ, List.getElem_cons_zero, List.setIfInBounds_toArray, List.set_cons_zero, List.set_cons_succ]
          refine wpAnyH_ready (rs := [1, 5]) (by kernel_rfl) (by simp) ?_
          refine AllReadyH.cons (o := _) rfl (fun K hK => ?_) ?_
          · go_simp
            refine (enew_any z17 nm v3 v4 v5 v6 v7 v8 ha ma hn hc mn mc H M (HD.out _ (gb_trans GZ.out G.out)).1 (HD.out _ (gb_trans GZ.out G.out)).2 HB.out MB.out FB.out).mono ?_
            rintro e z18 ⟨XA, VA, rfl, o, g⟩
            refine hK.out _ _ (KT.out _ (gb_trans G.out g)) (fun hH18 => ?_)
            clear hK K
            have OA := Lib.hid (o.low (Nat.le_trans GZ.out.size G.out.size))
            replace I5 := Lib.hid (I5.out.keep0 g)
            replace G := Lib.hid (gb_trans G.out g)
            clear o g
            try simp only [Act.put, List.getElem_toArray, List.getElem_cons_succ, List.getElem_cons_zero, List.setIfInBounds_toArray, List.set_cons_zero, List.set_cons_succ]
            refine wpAnyH_ready (rs := [3, 5]) (by kernel_rfl) (by simp) ?_
            refine AllReadyH.cons (o := _) rfl (fun K hK => ?_) ?_
            · go_simp
              refine (rnew_any z18 nm v3 v4 v5 v6 v7 v8 ha ma hn hc mn mc H M (HD.out _ (gb_trans GZ.out G.out)).1 (HD.out _ (gb_trans GZ.out G.out)).2 HB.out MB.out FB.out).mono ?_
              rintro e z19 ⟨XB, VB, rfl, o, g⟩
              refine hK.out _ _ (KT.out _ (gb_trans G.out g)) (fun hH19 => ?_)
              clear hK K
              have OB := Lib.hid (o.low (Nat.le_trans GZ.out.size G.out.size))
              replace I5 := Lib.hid (I5.out.keep0 g)
              replace OA := Lib.hid (OA.out.keep0 g)
              replace G := Lib.hid (gb_trans G.out g)
              clear o g
              try simp only [Act.put, List.getElem_toArray, List.getElem_cons_succ, List.getElem_cons_zero, List.setIfInBounds_toArray, List.set_cons_zero, List.set_cons_succ]
              refine wpAnyH_ready (rs := [5]) (by kernel_rfl) (by simp) ?_
              refine AllReadyH.cons (o := _) rfl (fun K hK => ?_) ?_
              · go_simp
                have g := gb_alloc z19 (.cells #[.slice none 0 0, .slice none 0 0, .slice none 0 0, .slice none 0 0] 37) none
                have nb := IsB.new z19 37 #[.slice none 0 0, .slice none 0 0, .slice none 0 0, .slice none 0 0]
                refine hK.out _ _ (KT.out _ (gb_trans G.out g)) (fun hH20 => ?_)
                clear hK K
                have NE := Lib.hid (show b5 ≠ z19.heap.size from Nat.ne_of_lt I5.out.lt)
                replace I5 := Lib.hid (I5.out.keep0 g)
                replace OA := Lib.hid (OA.out.keep0 g)
                replace OB := Lib.hid (OB.out.keep0 g)
                have Lx : w.heap.size ≤ z19.heap.size := Nat.le_trans GZ.out.size G.out.size
                replace G := Lib.hid (gb_trans G.out g)
                have I6 := Lib.hid nb
                have L6 := Lib.hid Lx
                obtain ⟨b6, hb⟩ : ∃ b, b = z19.heap.size := ⟨_, rfl⟩
                rw [← hb] at I6 L6 NE ⊢
                clear g nb hb Lx
                generalize z19.alloc (.cells #[.slice none 0 0, .slice none 0 0, .slice none 0 0, .slice none 0 0] 37) = z20 at *
                try simp only [Act.put, List.getElem_toArray, List.getElem_cons_succ, List.getElem_cons_zero, List.setIfInBounds_toArray, List.set_cons_zero, List.set_cons_succ]
                have q0 := I5.out.cell 0
                have q1 := I5.out.cell 1
                have q2 := I5.out.cell 2
                have q3 := I5.out.cell 3
                have r0 := I6.out.cell 0
                have r1 := I6.out.cell 1
                have r2 := I6.out.cell 2
                have r3 := I6.out.cell 3
                dsimp at q0 q1 q2 q3 r0 r1 r2 r3
                have f0 := I5.out.free 0
                have f1 := I5.out.free 1
                have f2 := I5.out.free 2
                have f3 := I5.out.free 3
                have e0 := I6.out.free 0
                have e1 := I6.out.free 1
                have e2 := I6.out.free 2
                have e3 := I6.out.free 3
                have N5 : b5 ≠ b6 := NE.out
                have N6 : b6 ≠ b5 := N5.symm
                have RX := Lib.hid (rn_put (BP.out.keep0 G.out) I5.out I6.out OA.out OB.out (gb_trans GZ.out G.out) L5.out L6.out N5)
                refine wpAnyH_ready (rs := [6]) (by kernel_rfl) (by simp) ?_
                refine AllReadyH.cons (o := _) rfl (fun K hK => ?_) AllReadyH.nil
                go_simp
                refine hK.out _ _ (KS.out _ (SpB.p4 (BP.out.keep0 G.out) I5.out)) (fun hH98 => ?_)
                clear hK K hH98
                try simp only [Act.put, List.getElem_toArray, List.getElem_cons_succ, List.getElem_cons_zero, List.setIfInBounds_toArray, List.set_cons_zero, List.set_cons_succ]
                refine wpAnyH_ready (rs := [7]) (by kernel_rfl) (by simp) ?_
                refine AllReadyH.cons (o := _) rfl (fun K hK => ?_) AllReadyH.nil
                go_simp
                refine hK.out _ _ (KS.out _ (RX.out.bp)) (fun hH99 => ?_)
                clear hK K hH99
                try simp only [Act.put, List.getElem_toArray, List.getElem_cons_succ, List.getElem_cons_zero, List.setIfInBounds_toArray, List.set_cons_zero, List.set_cons_succ]
                refine wpAnyH_done (by kernel_rfl) ?_ _
                go_wp2_with fail
                go_meet
                exact ⟨b5, b6, XA, XB, rfl, rfl, RX.out⟩
              exact AllReadyH.nil
            refine AllReadyH.cons (o := _) rfl (fun K hK => ?_) ?_
            · go_simp
              have g := gb_alloc z18 (.cells #[.slice none 0 0, .slice none 0 0, .slice none 0 0, .slice none 0 0] 37) none
              have nb := IsB.new z18 37 #[.slice none 0 0, .slice none 0 0, .slice none 0 0, .slice none 0 0]
              refine hK.out _ _ (KT.out _ (gb_trans G.out g)) (fun hH21 => ?_)
              clear hK K
              have NE := Lib.hid (show b5 ≠ z18.heap.size from Nat.ne_of_lt I5.out.lt)
              replace I5 := Lib.hid (I5.out.keep0 g)
              replace OA := Lib.hid (OA.out.keep0 g)
              have Lx : w.heap.size ≤ z18.heap.size := Nat.le_trans GZ.out.size G.out.size
              replace G := Lib.hid (gb_trans G.out g)
              have I6 := Lib.hid nb
              have L6 := Lib.hid Lx
              obtain ⟨b6, hb⟩ : ∃ b, b = z18.heap.size := ⟨_, rfl⟩
              rw [← hb] at I6 L6 NE ⊢
              clear g nb hb Lx
              generalize z18.alloc (.cells #[.slice none 0 0, .slice none 0 0, .slice none 0 0, .slice none 0 0] 37) = z21 at *
              try simp only [Act.put, List.getElem_toArray, List.getElem_cons_succ, List.getElem_cons_zero, List.setIfInBounds_toArray, List.set_cons_zero, List.set_cons_succ]
              refine wpAnyH_ready (rs := [3]) (by kernel_rfl) (by simp) ?_
              refine AllReadyH.cons (o := _) rfl (fun K hK => ?_) ?_
              · go_simp
                refine (rnew_any z21 nm v3 v4 v5 v6 v7 v8 ha ma hn hc mn mc H M (HD.out _ (gb_trans GZ.out G.out)).1 (HD.out _ (gb_trans GZ.out G.out)).2 HB.out MB.out FB.out).mono ?_
                rintro e z22 ⟨XB, VB, rfl, o, g⟩
                refine hK.out _ _ (KT.out _ (gb_trans G.out g)) (fun hH22 => ?_)
                clear hK K
                have OB := Lib.hid (o.low (Nat.le_trans GZ.out.size G.out.size))
                replace I5 := Lib.hid (I5.out.keep0 g)
                replace OA := Lib.hid (OA.out.keep0 g)
                replace I6 := Lib.hid (I6.out.keep0 g)
                replace G := Lib.hid (gb_trans G.out g)
                clear o g
                try simp only [Act.put, List.getElem_toArray, List.getElem_cons_succ, List.getElem_cons_zero, List.setIfInBounds_toArray, List.set_cons_zero, List.set_cons_succ]
                have q0 := I5.out.cell 0
                have q1 := I5.out.cell 1
                have q2 := I5.out.cell 2
                have q3 := I5.out.cell 3
                have r0 := I6.out.cell 0
                have r1 := I6.out.cell 1
                have r2 := I6.out.cell 2
                have r3 := I6.out.cell 3
                dsimp at q0 q1 q2 q3 r0 r1 r2 r3
                have f0 := I5.out.free 0
                have f1 := I5.out.free 1
                have f2 := I5.out.free 2
                have f3 := I5.out.free 3
                have e0 := I6.out.free 0
                have e1 := I6.out.free 1
                have e2 := I6.out.free 2
                have e3 := I6.out.free 3
                have N5 : b5 ≠ b6 := NE.out
                have N6 : b6 ≠ b5 := N5.symm
                have RX := Lib.hid (rn_put (BP.out.keep0 G.out) I5.out I6.out OA.out OB.out (gb_trans GZ.out G.out) L5.out L6.out N5)
                refine wpAnyH_ready (rs := [6]) (by kernel_rfl) (by simp) ?_
                refine AllReadyH.cons (o := _) rfl (fun K hK => ?_) AllReadyH.nil
                go_simp
                refine hK.out _ _ (KS.out _ (SpB.p4 (BP.out.keep0 G.out) I5.out)) (fun hH98 => ?_)
                clear hK K hH98
                try simp only [Act.put, List.getElem_toArray, List.getElem_cons_succ, List.getElem_cons_zero, List.setIfInBounds_toArray, List.set_cons_zero, List.set_cons_succ]
                refine wpAnyH_ready (rs := [7]) (by kernel_rfl) (by simp) ?_
                refine AllReadyH.cons (o := _) rfl (fun K hK => ?_) AllReadyH.nil
                go_simp
                refine hK.out _ _ (KS.out _ (RX.out.bp)) (fun hH99 => ?_)
                clear hK K hH99
                try simp only [Act.put, List.getElem_toArray, List.getElem_cons_succ, List.getElem_cons_zero, List.setIfInBounds_toArray, List.set_cons_zero, List.set_cons_succ]
                refine wpAnyH_done (by kernel_rfl) ?_ _
                go_wp2_with fail
                go_meet
                exact ⟨b5, b6, XA, XB, rfl, rfl, RX.out⟩
              exact AllReadyH.nil
            exact AllReadyH.nil
          refine AllReadyH.cons (o := _) rfl (fun K hK => ?_) ?_
          · go_simp
            have g := gb_alloc z17 (.cells #[.slice none 0 0, .slice none 0 0, .slice none 0 0, .slice none 0 0] 37) none
            have nb := IsB.new z17 37 #[.slice none 0 0, .slice none 0 0, .slice none 0 0, .slice none 0 0]
            refine hK.out _ _ (KT.out _ (gb_trans G.out g)) (fun hH23 => ?_)
            clear hK K
            have NE := Lib.hid (show b5 ≠ z17.heap.size from Nat.ne_of_lt I5.out.lt)
            replace I5 := Lib.hid (I5.out.keep0 g)
            have Lx : w.heap.size ≤ z17.heap.size := Nat.le_trans GZ.out.size G.out.size
            replace G := Lib.hid (gb_trans G.out g)
            have I6 := Lib.hid nb
            have L6 := Lib.hid Lx
            obtain ⟨b6, hb⟩ : ∃ b, b = z17.heap.size := ⟨_, rfl⟩
            rw [← hb] at I6 L6 NE ⊢
            clear g nb hb Lx
            generalize z17.alloc (.cells #[.slice none 0 0, .slice none 0 0, .slice none 0 0, .slice none 0 0] 37) = z23 at *
            try simp only [Act.put, List.getElem_toArray, List.getElem_cons_succ, List.getElem_cons_zero, List.setIfInBounds_toArray, List.set_cons_zero, List.set_cons_succ]
            refine wpAnyH_ready (rs := [1]) (by kernel_rfl) (by simp) ?_
            refine AllReadyH.cons (o := _) rfl (fun K hK => ?_) ?_
            · go_simp
              refine (enew_any z23 nm v3 v4 v5 v6 v7 v8 ha ma hn hc mn mc H M (HD.out _ (gb_trans GZ.out G.out)).1 (HD.out _ (gb_trans GZ.out G.out)).2 HB.out MB.out FB.out).mono ?_
              rintro e z24 ⟨XA, VA, rfl, o, g⟩
              refine hK.out _ _ (KT.out _ (gb_trans G.out g)) (fun hH24 => ?_)
              clear hK K
              have OA := Lib.hid (o.low (Nat.le_trans GZ.out.size G.out.size))
              replace I5 := Lib.hid (I5.out.keep0 g)
              replace I6 := Lib.hid (I6.out.keep0 g)
              replace G := Lib.hid (gb_trans G.out g)
              clear o g
              try simp only [Act.put, List.getElem_toArray, List.getElem_cons_succ, List.getElem_cons_zero, List.setIfInBounds_toArray, List.set_cons_zero, List.set_cons_succ]
              refine wpAnyH_ready (rs := [3]) (by kernel_rfl) (by simp) ?_
              refine AllReadyH.cons (o := _) rfl (fun K hK => ?_) ?_
              · go_simp
                refine (rnew_any z24 nm v3 v4 v5 v6 v7 v8 ha ma hn hc mn mc H M (HD.out _ (gb_trans GZ.out G.out)).1 (HD.out _ (gb_trans GZ.out G.out)).2 HB.out MB.out FB.out).mono ?_
                rintro e z25 ⟨XB, VB, rfl, o, g⟩
                refine hK.out _ _ (KT.out _ (gb_trans G.out g)) (fun hH25 => ?_)
                clear hK K
                have OB := Lib.hid (o.low (Nat.le_trans GZ.out.size G.out.size))
                replace I5 := Lib.hid (I5.out.keep0 g)
                replace I6 := Lib.hid (I6.out.keep0 g)
                replace OA := Lib.hid (OA.out.keep0 g)
                replace G := Lib.hid (gb_trans G.out g)
                clear o g
                try simp only [Act.put, List.getElem_toArray, List.getElem_cons_succ, List.getElem_cons_zero, List.setIfInBounds_toArray, List.set_cons_zero, List.set_cons_succ]
                have q0 := I5.out.cell 0
                have q1 := I5.out.cell 1
                have q2 := I5.out.cell 2
                have q3 := I5.out.cell 3
                have r0 := I6.out.cell 0
                have r1 := I6.out.cell 1
                have r2 := I6.out.cell 2
                have r3 := I6.out.cell 3
                dsimp at q0 q1 q2 q3 r0 r1 r2 r3
                have f0 := I5.out.free 0
                have f1 := I5.out.free 1
                have f2 := I5.out.free 2
                have f3 := I5.out.free 3
                have e0 := I6.out.free 0
                have e1 := I6.out.free 1
                have e2 := I6.out.free 2
                have e3 := I6.out.free 3
                have N5 : b5 ≠ b6 := NE.out
                have N6 : b6 ≠ b5 := N5.symm
                have RX := Lib.hid (rn_put (BP.out.keep0 G.out) I5.out I6.out OA.out OB.out (gb_trans GZ.out G.out) L5.out L6.out N5)
                refine wpAnyH_ready (rs := [6]) (by kernel_rfl) (by simp) ?_
                refine AllReadyH.cons (o := _) rfl (fun K hK => ?_) AllReadyH.nil
                go_simp
                refine hK.out _ _ (KS.out _ (SpB.p4 (BP.out.keep0 G.out) I5.out)) (fun hH98 => ?_)
                clear hK K hH98
                try simp only [Act.put, List.getElem_toArray, List.getElem_cons_succ, List.getElem_cons_zero, List.setIfInBounds_toArray, List.set_cons_zero, List.set_cons_succ]
                refine wpAnyH_ready (rs := [7]) (by kernel_rfl) (by simp) ?_
                refine AllReadyH.cons (o := _) rfl (fun K hK => ?_) AllReadyH.nil
                go_simp
                refine hK.out _ _ (KS.out _ (RX.out.bp)) (fun hH99 => ?_)
                clear hK K hH99
                try simp only [Act.put, List.getElem_toArray, List.getElem_cons_succ, List.getElem_cons_zero, List.setIfInBounds_toArray, List.set_cons_zero, List.set_cons_succ]
                refine wpAnyH_done (by kernel_rfl) ?_ _
                go_wp2_with fail
                go_meet
                exact ⟨b5, b6, XA, XB, rfl, rfl, RX.out⟩
              exact AllReadyH.nil
            exact AllReadyH.nil
          exact AllReadyH.nil
        refine AllReadyH.cons (o := _) rfl (fun K hK => ?_) ?_
        · go_simp
          have g := gb_alloc z0 (.cells #[.slice none 0 0, .slice none 0 0, .slice none 0 0, .slice none 0 0] 37) none
          have nb := IsB.new z0 37 #[.slice none 0 0, .slice none 0 0, .slice none 0 0, .slice none 0 0]
          refine hK.out _ _ (KT.out _ (gb_trans G.out g)) (fun hH26 => ?_)
          clear hK K
          have Lx : w.heap.size ≤ z0.heap.size := Nat.le_trans GZ.out.size G.out.size
          replace G := Lib.hid (gb_trans G.out g)
          have I6 := Lib.hid nb
          have L6 := Lib.hid Lx
          obtain ⟨b6, hb⟩ : ∃ b, b = z0.heap.size := ⟨_, rfl⟩
          rw [← hb] at I6 L6 ⊢
          clear g nb hb Lx
          generalize z0.alloc (.cells #[.slice none 0 0, .slice none 0 0, .slice none 0 0, .slice none 0 0] 37) = z26 at *
          try simp only [Act.put, List.getElem_toArray, List.getElem_cons_succ, List.getElem_cons_zero, List.setIfInBounds_toArray, List.set_cons_zero, List.set_cons_succ]
          refine wpAnyH_ready (rs := [1, 4]) (by kernel_rfl) (by simp) ?_
          refine AllReadyH.cons (o := _) rfl (fun K hK => ?_) ?_
          · go_simp
            refine (enew_any z26 nm v3 v4 v5 v6 v7 v8 ha ma hn hc mn mc H M (HD.out _ (gb_trans GZ.out G.out)).1 (HD.out _ (gb_trans GZ.out G.out)).2 HB.out MB.out FB.out).mono ?_
            rintro e z27 ⟨XA, VA, rfl, o, g⟩
            refine hK.out _ _ (KT.out _ (gb_trans G.out g)) (fun hH27 => ?_)
            clear hK K
            have OA := Lib.hid (o.low (Nat.le_trans GZ.out.size G.out.size))
            replace I6 := Lib.hid (I6.out.keep0 g)
            replace G := Lib.hid (gb_trans G.out g)
            clear o g
            try simp only [Act.put, List.getElem_toArray, List.getElem_cons_succ, List.getElem_cons_zero, List.setIfInBounds_toArray, List.set_cons_zero, List.set_cons_succ]
            refine wpAnyH_ready (rs := [3, 4]) (by kernel_rfl) (by simp) ?_
            refine AllReadyH.cons (o := _) rfl (fun K hK => ?_) ?_
            · go_simp
              refine (rnew_any z27 nm v3 v4 v5 v6 v7 v8 ha ma hn hc mn mc H M (HD.out _ (gb_trans GZ.out G.out)).1 (HD.out _ (gb_trans GZ.out G.out)).2 HB.out MB.out FB.out).mono ?_
              rintro e z28 ⟨XB, VB, rfl, o, g⟩
              refine hK.out _ _ (KT.out _ (gb_trans G.out g)) (fun hH28 => ?_)
              clear hK K
              have OB := Lib.hid (o.low (Nat.le_trans GZ.out.size G.out.size))
              replace I6 := Lib.hid (I6.out.keep0 g)
              replace OA := Lib.hid (OA.out.keep0 g)
              replace G := Lib.hid (gb_trans G.out g)
              clear o g
              try simp only [Act.put, List.getElem_toArray, List.getElem_cons_succ, List.getElem_cons_zero, List.setIfInBounds_toArray, List.set_cons_zero, List.set_cons_succ]
              refine wpAnyH_ready (rs := [4]) (by kernel_rfl) (by simp) ?_
              refine AllReadyH.cons (o := _) rfl (fun K hK => ?_) ?_
              · go_simp
                have g := gb_alloc z28 (.cells #[.slice none 0 0, .slice none 0 0, .slice none 0 0, .slice none 0 0] 37) none
                have nb := IsB.new z28 37 #[.slice none 0 0, .slice none 0 0, .slice none 0 0, .slice none 0 0]
                refine hK.out _ _ (KT.out _ (gb_trans G.out g)) (fun hH29 => ?_)
                clear hK K
                have NE := Lib.hid (show b6 ≠ z28.heap.size from Nat.ne_of_lt I6.out.lt)
                replace I6 := Lib.hid (I6.out.keep0 g)
                replace OA := Lib.hid (OA.out.keep0 g)
                replace OB := Lib.hid (OB.out.keep0 g)
                have Lx : w.heap.size ≤ z28.heap.size := Nat.le_trans GZ.out.size G.out.size
                replace G := Lib.hid (gb_trans G.out g)
                have I5 := Lib.hid nb
                have L5 := Lib.hid Lx
                obtain ⟨b5, hb⟩ : ∃ b, b = z28.heap.size := ⟨_, rfl⟩
                rw [← hb] at I5 L5 NE ⊢
                clear g nb hb Lx
                generalize z28.alloc (.cells #[.slice none 0 0, .slice none 0 0, .slice none 0 0, .slice none 0 0] 37) = z29 at *
                try simp only [Act.put, List.getElem_toArray, List.getElem_cons_succ, List.getElem_cons_zero, List.setIfInBounds_toArray, List.set_cons_zero, List.set_cons_succ]
                have q0 := I5.out.cell 0
                have q1 := I5.out.cell 1
                have q2 := I5.out.cell 2
                have q3 := I5.out.cell 3
                have r0 := I6.out.cell 0
                have r1 := I6.out.cell 1
                have r2 := I6.out.cell 2
                have r3 := I6.out.cell 3
                dsimp at q0 q1 q2 q3 r0 r1 r2 r3
                have f0 := I5.out.free 0
                have f1 := I5.out.free 1
                have f2 := I5.out.free 2
                have f3 := I5.out.free 3
                have e0 := I6.out.free 0
                have e1 := I6.out.free 1
                have e2 := I6.out.free 2
                have e3 := I6.out.free 3
                have N5 : b5 ≠ b6 := NE.out.symm
                have N6 : b6 ≠ b5 := N5.symm
                have RX := Lib.hid (rn_put (BP.out.keep0 G.out) I5.out I6.out OA.out OB.out (gb_trans GZ.out G.out) L5.out L6.out N5)
                refine wpAnyH_ready (rs := [6]) (by kernel_rfl) (by simp) ?_
                refine AllReadyH.cons (o := _) rfl (fun K hK => ?_) AllReadyH.nil
                go_simp
                refine hK.out _ _ (KS.out _ (SpB.p4 (BP.out.keep0 G.out) I5.out)) (fun hH98 => ?_)
                clear hK K hH98
                try simp only [Act.put, List.getElem_toArray, List.getElem_cons_succ, List.getElem_cons_zero, List.setIfInBounds_toArray, List.set_cons_zero, List.set_cons_succ]
                refine wpAnyH_ready (rs := [7]) (by kernel_rfl) (by simp) ?_
                refine AllReadyH.cons (o := _) rfl (fun K hK => ?_) AllReadyH.nil
                go_simp
                refine hK.out _ _ (KS.out _ (RX.out.bp)) (fun hH99 => ?_)
                clear hK K hH99
                try simp only [Act.put, List.getElem_toArray, List.getElem_cons_succ, List.getElem_cons_zero, List.setIfInBounds_toArray, List.set_cons_zero, List.set_cons_succ]
                refine wpAnyH_done (by kernel_rfl) ?_ _
                go_wp2_with fail
                go_meet
                exact ⟨b5, b6, XA, XB, rfl, rfl, RX.out⟩
              exact AllReadyH.nil
            refine AllReadyH.cons (o := _) rfl (fun K hK => ?_) ?_
            · go_simp
              have g := gb_alloc z27 (.cells #[.slice none 0 0, .slice none 0 0, .slice none 0 0, .slice none 0 0] 37) none
              have nb := IsB.new z27 37 #[.slice none 0 0, .slice none 0 0, .slice none 0 0, .slice none 0 0]
              refine hK.out _ _ (KT.out _ (gb_trans G.out g)) (fun hH30 => ?_)
              clear hK K
              have NE := Lib.hid (show b6 ≠ z27.heap.size from Nat.ne_of_lt I6.out.lt)
              replace I6 := Lib.hid (I6.out.keep0 g)
              replace OA := Lib.hid (OA.out.keep0 g)
              have Lx : w.heap.size ≤ z27.heap.size := Nat.le_trans GZ.out.size G.out.size
              replace G := Lib.hid (gb_trans G.out g)
              have I5 := Lib.hid nb
              have L5 := Lib.hid Lx
              obtain ⟨b5, hb⟩ : ∃ b, b = z27.heap.size := ⟨_, rfl⟩
              rw [← hb] at I5 L5 NE ⊢
              clear g nb hb Lx
              generalize z27.alloc (.cells #[.slice none 0 0, .slice none 0 0, .slice none 0 0, .slice none 0 0] 37) = z30 at *
              try simp only [Act.put, List.getElem_toArray, List.getElem_cons_succ, List.getElem_cons_zero, List.setIfInBounds_toArray, List.set_cons_zero, List.set_cons_succ]
              refine wpAnyH_ready (rs := [3]) (by kernel_rfl) (by simp) ?_
              refine AllReadyH.cons (o := _) rfl (fun K hK => ?_) ?_
              · go_simp
                refine (rnew_any z30 nm v3 v4 v5 v6 v7 v8 ha ma hn hc mn mc H M (HD.out _ (gb_trans GZ.out G.out)).1 (HD.out _ (gb_trans GZ.out G.out)).2 HB.out MB.out FB.out).mono ?_
                rintro e z31 ⟨XB, VB, rfl, o, g⟩
                refine hK.out _ _ (KT.out _ (gb_trans G.out g)) (fun hH31 => ?_)
                clear hK K
                have OB := Lib.hid (o.low (Nat.le_trans GZ.out.size G.out.size))
                replace I6 := Lib.hid (I6.out.keep0 g)
                replace OA := Lib.hid (OA.out.keep0 g)
                replace I5 := Lib.hid (I5.out.keep0 g)
                replace G := Lib.hid (gb_trans G.out g)
                clear o g
                try simp only [Act.put, List.getElem_toArray, List.getElem_cons_succ, List.getElem_cons_zero, List.setIfInBounds_toArray, List.set_cons_zero, List.set_cons_succ]
                have q0 := I5.out.cell 0
                have q1 := I5.out.cell 1
                have q2 := I5.out.cell 2
                have q3 := I5.out.cell 3
                have r0 := I6.out.cell 0
                have r1 := I6.out.cell 1
                have r2 := I6.out.cell 2
                have r3 := I6.out.cell 3
                dsimp at q0 q1 q2 q3 r0 r1 r2 r3
                have f0 := I5.out.free 0
                have f1 := I5.out.free 1
                have f2 := I5.out.free 2
                have f3 := I5.out.free 3
                have e0 := I6.out.free 0
                have e1 := I6.out.free 1
                have e2 := I6.out.free 2
                have e3 := I6.out.free 3
                have N5 : b5 ≠ b6 := NE.out.symm
                have N6 : b6 ≠ b5 := N5.symm
                have RX := Lib.hid (rn_put (BP.out.keep0 G.out) I5.out I6.out OA.out OB.out (gb_trans GZ.out G.out) L5.out L6.out N5)
                refine wpAnyH_ready (rs := [6]) (by kernel_rfl) (by simp) ?_
                refine AllReadyH.cons (o := _) rfl (fun K hK => ?_) AllReadyH.nil
                go_simp
                refine hK.out _ _ (KS.out _ (SpB.p4 (BP.out.keep0 G.out) I5.out)) (fun hH98 => ?_)
                clear hK K hH98
                try simp only [Act.put, List.getElem_toArray, List.getElem_cons_succ, List.getElem_cons_zero, List.setIfInBounds_toArray, List.set_cons_zero, List.set_cons_succ]
                refine wpAnyH_ready (rs := [7]) (by kernel_rfl) (by simp) ?_
                refine AllReadyH.cons (o := _) rfl (fun K hK => ?_) AllReadyH.nil
                go_simp
                refine hK.out _ _ (KS.out _ (RX.out.bp)) (fun hH99 => ?_)
                clear hK K hH99
                try simp only [Act.put, List.getElem_toArray, List.getElem_cons_succ, List.getElem_cons_zero, List.setIfInBounds_toArray, List.set_cons_zero, List.set_cons_succ]
                refine wpAnyH_done (by kernel_rfl) ?_ _
                go_wp2_with fail
                go_meet
                exact ⟨b5, b6, XA, XB, rfl, rfl, RX.out⟩
              exact AllReadyH.nil
            exact AllReadyH.nil
          refine AllReadyH.cons (o := _) rfl (fun K hK => ?_) ?_
          · go_simp
            have g := gb_alloc z26 (.cells #[.slice none 0 0, .slice none 0 0, .slice none 0 0, .slice none 0 0] 37) none
            have nb := IsB.new z26 37 #[.slice none 0 0, .slice none 0 0, .slice none 0 0, .slice none 0 0]
            refine hK.out _ _ (KT.out _ (gb_trans G.out g)) (fun hH32 => ?_)
            clear hK K
            have NE := Lib.hid (show b6 ≠ z26.heap.size from Nat.ne_of_lt I6.out.lt)
            replace I6 := Lib.hid (I6.out.keep0 g)
            have Lx : w.heap.size ≤ z26.heap.size := Nat.le_trans GZ.out.size G.out.size
            replace G := Lib.hid (gb_trans G.out g)
            have I5 := Lib.hid nb
            have L5 := Lib.hid Lx
            obtain ⟨b5, hb⟩ : ∃ b, b = z26.heap.size := ⟨_, rfl⟩
            rw [← hb] at I5 L5 NE ⊢
            clear g nb hb Lx
            generalize z26.alloc (.cells #[.slice none 0 0, .slice none 0 0, .slice none 0 0, .slice none 0 0] 37) = z32 at *
            try simp only [Act.put, List.getElem_toArray, List.getElem_cons_succ, List.getElem_cons_zero, List.setIfInBounds_toArray, List.set_cons_zero, List.set_cons_succ]
            refine wpAnyH_ready (rs := [1]) (by kernel_rfl) (by simp) ?_
            refine AllReadyH.cons (o := _) rfl (fun K hK => ?_) ?_
            · go_simp
              refine (enew_any z32 nm v3 v4 v5 v6 v7 v8 ha ma hn hc mn mc H M (HD.out _ (gb_trans GZ.out G.out)).1 (HD.out _ (gb_trans GZ.out G.out)).2 HB.out MB.out FB.out).mono ?_
              rintro e z33 ⟨XA, VA, rfl, o, g⟩
              refine hK.out _ _ (KT.out _ (gb_trans G.out g)) (fun hH33 => ?_)
              clear hK K
              have OA := Lib.hid (o.low (Nat.le_trans GZ.out.size G.out.size))
              replace I6 := Lib.hid (I6.out.keep0 g)
              replace I5 := Lib.hid (I5.out.keep0 g)
              replace G := Lib.hid (gb_trans G.out g)
              clear o g
              try simp only [Act.put, List.getElem_toArray, List.getElem_cons_succ, List.getElem_cons_zero, List.setIfInBounds_toArray, List.set_cons_zero, List.set_cons_succ]
              refine wpAnyH_ready (rs := [3]) (by kernel_rfl) (by simp) ?_
              refine AllReadyH.cons (o := _) rfl (fun K hK => ?_) ?_
              · go_simp
                refine (rnew_any z33 nm v3 v4 v5 v6 v7 v8 ha ma hn hc mn mc H M (HD.out _ (gb_trans GZ.out G.out)).1 (HD.out _ (gb_trans GZ.out G.out)).2 HB.out MB.out FB.out).mono ?_
                rintro e z34 ⟨XB, VB, rfl, o, g⟩
                refine hK.out _ _ (KT.out _ (gb_trans G.out g)) (fun hH34 => ?_)
                clear hK K
                have OB := Lib.hid (o.low (Nat.le_trans GZ.out.size G.out.size))
                replace I6 := Lib.hid (I6.out.keep0 g)
                replace I5 := Lib.hid (I5.out.keep0 g)
                replace OA := Lib.hid (OA.out.keep0 g)
                replace G := Lib.hid (gb_trans G.out g)
                clear o g
                try simp only [Act.put, List.getElem_toArray, List.getElem_cons_succ, List.getElem_cons_zero, List.setIfInBounds_toArray, List.set_cons_zero, List.set_cons_succ]
                have q0 := I5.out.cell 0
                have q1 := I5.out.cell 1
                have q2 := I5.out.cell 2
                have q3 := I5.out.cell 3
                have r0 := I6.out.cell 0
                have r1 := I6.out.cell 1
                have r2 := I6.out.cell 2
                have r3 := I6.out.cell 3
                dsimp at q0 q1 q2 q3 r0 r1 r2 r3
                have f0 := I5.out.free 0
                have f1 := I5.out.free 1
                have f2 := I5.out.free 2
                have f3 := I5.out.free 3
                have e0 := I6.out.free 0
                have e1 := I6.out.free 1
                have e2 := I6.out.free 2
                have e3 := I6.out.free 3
                have N5 : b5 ≠ b6 := NE.out.symm
                have N6 : b6 ≠ b5 := N5.symm
                have RX := Lib.hid (rn_put (BP.out.keep0 G.out) I5.out I6.out OA.out OB.out (gb_trans GZ.out G.out) L5.out L6.out N5)
                refine wpAnyH_ready (rs := [6]) (by kernel_rfl) (by simp) ?_
                refine AllReadyH.cons (o := _) rfl (fun K hK => ?_) AllReadyH.nil
                go_simp
                refine hK.out _ _ (KS.out _ (SpB.p4 (BP.out.keep0 G.out) I5.out)) (fun hH98 => ?_)
                clear hK K hH98
                try simp only [Act.put, List.getElem_toArray, List.getElem_cons_succ, List.getElem_cons_zero, List.setIfInBounds_toArray, List.set_cons_zero, List.set_cons_succ]
                refine wpAnyH_ready (rs := [7]) (by kernel_rfl) (by simp) ?_
                refine AllReadyH.cons (o := _) rfl (fun K hK => ?_) AllReadyH.nil
                go_simp
                refine hK.out _ _ (KS.out _ (RX.out.bp)) (fun hH99 => ?_)
                clear hK K hH99
                try simp only [Act.put, List.getElem_toArray, List.getElem_cons_succ, List.getElem_cons_zero, List.setIfInBounds_toArray, List.set_cons_zero, List.set_cons_succ]
                refine wpAnyH_done (by kernel_rfl) ?_ _
                go_wp2_with fail
                go_meet
                exact ⟨b5, b6, XA, XB, rfl, rfl, RX.out⟩
              exact AllReadyH.nil
            exact AllReadyH.nil
          exact AllReadyH.nil
        exact AllReadyH.nil
      case rest =>
        obtain ⟨b5, b6, X, Y, rfl, rfl, rn⟩ := hcut
        have RN0 := Lib.hid rn
        have OK0 := Lib.hid (newE_ok H M)
        clear rn KT BP GZ
        go_wp2
        go_loopw [7] (fun i wr => ∃ (k : Nat) (X Y : EX) (L : EL), k ≤ an ∧ i = .int .i64 k ∧ RN w bx b5 b6 #[nm, .slice ha hn hc, .slice ma mn mc, v3, v4, v5, v6, v7, v8] X Y L wr ∧ okE H M L ∧ L.P = []) (fun i _ => an - (intOf i).toNat)
        case atStart => exact ⟨0, X, Y, _, Nat.zero_le _, rfl, RN0.out, OK0.out, rfl⟩
        case round =>
          obtain ⟨k, X2, Y2, L, hk, rfl, rn, ok, lp⟩ := hrel
          have RN1 := Lib.hid rn
          have OK := Lib.hid ok
          have SE := Lib.hid (size_of SP.out ok.1 (by rw [lp]; exact Nat.zero_le _))
          have LP0 := Lib.hid lp
          clear rn ok lp RN0 OK0
          by_cases hlt : k < an
          · have i1 : (k : Int) < an := by omega
            have i0 : (0 : Int) ≤ (k : Int) := by omega
            have hw : IntKind.i64.wrap ((k : Int) + 1) = ((k + 1 : Nat) : Int) := by have := A6.out; rw [IntKind.wrap_i64]; omega
            obtain ⟨ad, rfl⟩ := (HA.out _ (gb_refl w none)).some (by omega)
            have KC := Lib.hid (fun (W : World) (g : w.grownBy W none) => (HA.out W g).cells ad rfl k hlt)
            have V0 := Lib.hid (RG.out k hlt)
            obtain ⟨dd, hdd⟩ : ∃ d, d = (K1.getD k atz).1 := ⟨_, rfl⟩
            obtain ⟨rh, hrh⟩ : ∃ d, d = (K1.getD k atz).2.1 := ⟨_, rfl⟩
            obtain ⟨rf, hrf⟩ : ∃ d, d = (K1.getD k atz).2.2.1 := ⟨_, rfl⟩
            obtain ⟨v, hv⟩ : ∃ d, d = (K1.getD k atz).2.2.2.1 := ⟨_, rfl⟩
            obtain ⟨hd, hhd⟩ : ∃ d, d = (K1.getD k atz).2.2.2.2 := ⟨_, rfl⟩
            rw [← hdd, ← hrh, ← hrf, ← hv, ← hhd] at KC
            rw [← hv] at V0
            clear hdd hrh hrf hv hhd
            obtain ⟨k0, k1, k2, k3, k4⟩ := KC.out wr RN1.out.g
            have k12 : wr.cell? ⟨(ad.add (k * 5)).block, (ad.add (k * 5)).off + 1 + 1, none⟩ = some (.int .i64 rf) := k2
            have k13 : wr.cell? ⟨(ad.add (k * 5)).block, (ad.add (k * 5)).off + 1 + 2, none⟩ = some (.int .u32 v) := k3
            have k14 : wr.cell? ⟨(ad.add (k * 5)).block, (ad.add (k * 5)).off + 1 + 3, none⟩ = some (.int .i64 hd) := k4
            have G8 := Lib.hid (gb_alloc wr (.cells #[.int .i64 rh, .int .i64 rf, .int .u32 v, .int .i64 hd] 51) none)
            have BX := IsB.new wr 51 #[.int .i64 rh, .int .i64 rf, .int .u32 v, .int .i64 hd]
            replace BX := Lib.hid BX
            go_upto_region 8 with fail
            generalize wr.alloc (.cells #[.int .i64 rh, .int .i64 rf, .int .u32 v, .int .i64 hd] 51) = w8 at *
            obtain ⟨b8, hb8⟩ : ∃ b, b = wr.heap.size := ⟨_, rfl⟩
            have Lb8 := Lib.hid (show wr.heap.size ≤ b8 by rw [hb8]; exact Nat.le_refl _)
            rw [← hb8] at BX ⊢
            clear hb8
            have RN2 := Lib.hid (RN1.out.keep0 G8.out)
            clear k0 k1 k2 k3 k4 k12 k13 k14 hlt Lb8 RN1 G8
            obtain ⟨k0, _, _, _, _⟩ := KC.out w8 RN2.out.g
            have VN := Lib.hid (show Y2.vn = X2.vn by rw [← RN2.out.er.1.v.len, ← RN2.out.er.2.v.len])
            by_cases d0 : dd = 0
            · subst d0
              obtain ⟨L2, h2⟩ : ∃ L2, L2 = setE H M L rh rf v := ⟨_, rfl⟩
              have OK2 := Lib.hid (show okE H M L2 by rw [h2]; exact set_ok OK.out rh rf v)
              have PE2 := Lib.hid (show L2.P = [] by rw [h2]; rw [set_P]; exact LP0.out)
              have SE2 := Lib.hid (size_of SP.out OK2.out.1 (by rw [PE2.out]; exact Nat.zero_le _))
              have H2 := Lib.hid h2
              clear h2
              go_upto_region 11 with fail
              clear k0
              have KT := Lib.hid (fun (w' : World) (q : w8.grownBy w' none) => (⟨(RN2.out.bp.keep0 q).cell 0, (RN2.out.bp.keep0 q).cell 1, (RN2.out.bp.keep0 q).cell 2, (RN2.out.bp.keep0 q).cell 3, (RN2.out.bp.keep0 q).cell 4, (RN2.out.bp.keep0 q).cell 5, (RN2.out.bp.keep0 q).cell 6, (RN2.out.bp.keep0 q).cell 7, (RN2.out.bp.keep0 q).cell 8, (RN2.out.i5.keep0 q).cell 0, (RN2.out.i5.keep0 q).cell 1, (RN2.out.i5.keep0 q).cell 2, (RN2.out.i5.keep0 q).cell 3, (RN2.out.i6.keep0 q).cell 0, (RN2.out.i6.keep0 q).cell 1, (RN2.out.i6.keep0 q).cell 2, (RN2.out.i6.keep0 q).cell 3, (BX.out.keep0 q).cell 0, (BX.out.keep0 q).cell 1, (BX.out.keep0 q).cell 2, (BX.out.keep0 q).cell 3, trivial⟩ : (fun w' : World => w'.cell? ⟨bx, 0, none⟩ = some (nm) ∧ w'.cell? ⟨bx, 1, none⟩ = some (.slice ha hn hc) ∧ w'.cell? ⟨bx, 2, none⟩ = some (.slice ma mn mc) ∧ w'.cell? ⟨bx, 3, none⟩ = some (v3) ∧ w'.cell? ⟨bx, 4, none⟩ = some (v4) ∧ w'.cell? ⟨bx, 5, none⟩ = some (v5) ∧ w'.cell? ⟨bx, 6, none⟩ = some (v6) ∧ w'.cell? ⟨bx, 7, none⟩ = some (v7) ∧ w'.cell? ⟨bx, 8, none⟩ = some (v8) ∧ w'.cell? ⟨b5, 0, none⟩ = some (.slice X2.va X2.vn X2.vc) ∧ w'.cell? ⟨b5, 1, none⟩ = some (.slice X2.fa X2.fn X2.fc) ∧ w'.cell? ⟨b5, 2, none⟩ = some (.slice X2.ta X2.tn X2.tc) ∧ w'.cell? ⟨b5, 3, none⟩ = some (.slice X2.pa X2.pn X2.pc) ∧ w'.cell? ⟨b6, 0, none⟩ = some (.slice Y2.va Y2.vn Y2.vc) ∧ w'.cell? ⟨b6, 1, none⟩ = some (.slice Y2.fa Y2.fn Y2.fc) ∧ w'.cell? ⟨b6, 2, none⟩ = some (.slice Y2.ta Y2.tn Y2.tc) ∧ w'.cell? ⟨b6, 3, none⟩ = some (.slice Y2.pa Y2.pn Y2.pc) ∧ w'.cell? ⟨b8, 0, none⟩ = some (.int .i64 rh) ∧ w'.cell? ⟨b8, 1, none⟩ = some (.int .i64 rf) ∧ w'.cell? ⟨b8, 2, none⟩ = some (.int .u32 v) ∧ w'.cell? ⟨b8, 3, none⟩ = some (.int .i64 hd) ∧ True) w'))
              have G0 := Lib.hid (gb_drew w8 none)
              have hF0 := KT.out _ G0.out
              refine wp_region_S (fun w' : World => w'.cell? ⟨bx, 0, none⟩ = some (nm) ∧ w'.cell? ⟨bx, 1, none⟩ = some (.slice ha hn hc) ∧ w'.cell? ⟨bx, 2, none⟩ = some (.slice ma mn mc) ∧ w'.cell? ⟨bx, 3, none⟩ = some (v3) ∧ w'.cell? ⟨bx, 4, none⟩ = some (v4) ∧ w'.cell? ⟨bx, 5, none⟩ = some (v5) ∧ w'.cell? ⟨bx, 6, none⟩ = some (v6) ∧ w'.cell? ⟨bx, 7, none⟩ = some (v7) ∧ w'.cell? ⟨bx, 8, none⟩ = some (v8) ∧ w'.cell? ⟨b5, 0, none⟩ = some (.slice X2.va X2.vn X2.vc) ∧ w'.cell? ⟨b5, 1, none⟩ = some (.slice X2.fa X2.fn X2.fc) ∧ w'.cell? ⟨b5, 2, none⟩ = some (.slice X2.ta X2.tn X2.tc) ∧ w'.cell? ⟨b5, 3, none⟩ = some (.slice X2.pa X2.pn X2.pc) ∧ w'.cell? ⟨b6, 0, none⟩ = some (.slice Y2.va Y2.vn Y2.vc) ∧ w'.cell? ⟨b6, 1, none⟩ = some (.slice Y2.fa Y2.fn Y2.fc) ∧ w'.cell? ⟨b6, 2, none⟩ = some (.slice Y2.ta Y2.tn Y2.tc) ∧ w'.cell? ⟨b6, 3, none⟩ = some (.slice Y2.pa Y2.pn Y2.pc) ∧ w'.cell? ⟨b8, 0, none⟩ = some (.int .i64 rh) ∧ w'.cell? ⟨b8, 1, none⟩ = some (.int .i64 rf) ∧ w'.cell? ⟨b8, 2, none⟩ = some (.int .u32 v) ∧ w'.cell? ⟨b8, 3, none⟩ = some (.int .i64 hd) ∧ True) 14 (by kernel_rfl) ?_
              refine wpAnyS_pure (i := 2) (v := ?v5001) rfl (by kernel_rfl) (by kernel_rfl) (by kernel_rfl) (by decide) (fun _ _ _ h => h) (Or.inl ⟨by rfl, ?hy5001⟩) (Or.inr (by assumption)) ?rest5001
              case hy5001 => (intro wz hSw; (try dsimp only at hSw); first | (go_simp; done) | (go_simp; with_reducible rfl))
              try simp only [Act.put, List.getElem_toArray, List.getElem_cons_succ, List.getElem_cons_zero, List.setIfInBounds_toArray, List.set_cons_zero, List.set_cons_succ]
              refine wpAnyS_pure (i := 4) (v := ?v5002) rfl (by kernel_rfl) (by kernel_rfl) (by kernel_rfl) (by decide) (fun _ _ _ h => h) (Or.inl ⟨by rfl, ?hy5002⟩) (Or.inr (by assumption)) ?rest5002
              case hy5002 => (intro wz hSw; (try dsimp only at hSw); first | (go_simp; done) | (go_simp; with_reducible rfl))
              try simp only [Act.put, List.getElem_toArray, List.getElem_cons_succ, List.getElem_cons_zero, List.setIfInBounds_toArray, List.set_cons_zero, List.set_cons_succ]
              refine wpAnyS_pure (i := 9) (v := ?v5003) rfl (by kernel_rfl) (by kernel_rfl) (by kernel_rfl) (by decide) (fun _ _ _ h => h) (Or.inl ⟨by rfl, ?hy5003⟩) (Or.inr (by assumption)) ?rest5003
              case hy5003 => (intro wz hSw; (try dsimp only at hSw); first | (go_simp; done) | (go_simp; with_reducible rfl))
              try simp only [Act.put, List.getElem_toArray, List.getElem_cons_succ, List.getElem_cons_zero, List.setIfInBounds_toArray, List.set_cons_zero, List.set_cons_succ]
              refine wpAnyS_pure (i := 11) (v := ?v5004) rfl (by kernel_rfl) (by kernel_rfl) (by kernel_rfl) (by decide) (fun _ _ _ h => h) (Or.inl ⟨by rfl, ?hy5004⟩) (Or.inr (by assumption)) ?rest5004
              case hy5004 => (intro wz hSw; (try dsimp only at hSw); first | (go_simp; done) | (go_simp; with_reducible rfl))
              try simp only [Act.put, List.getElem_toArray, List.getElem_cons_succ, List.getElem_cons_zero, List.setIfInBounds_toArray, List.set_cons_zero, List.set_cons_succ]
              refine wpAnyS_load 6 (i := 0) (v := ?v5005) rfl (by kernel_rfl) (by kernel_rfl) (by kernel_rfl) (by kernel_rfl) (fun _ _ _ h => h) (Or.inl ⟨by rfl, ?hy5005⟩) (by assumption) ?rest5005
              case hy5005 => (intro wz hSw; (try dsimp only at hSw); first | (go_simp; done) | (go_simp; with_reducible rfl))
              try simp only [Act.put, List.getElem_toArray, List.getElem_cons_zero, List.setIfInBounds_toArray, List.set_cons_zero, List.set_cons_succ]
              refine wpAnyS_load 6 (i := 1) (v := ?v5006) rfl (by kernel_rfl) (by kernel_rfl) (by kernel_rfl) (by kernel_rfl) (fun _ _ _ h => h) (Or.inl ⟨by rfl, ?hy5006⟩) (by assumption) ?rest5006
              case hy5006 => (intro wz hSw; (try dsimp only at hSw); first | (go_simp; done) | (go_simp; with_reducible rfl))
              try simp only [Act.put, List.getElem_toArray, List.getElem_cons_succ, List.getElem_cons_zero, List.setIfInBounds_toArray, List.set_cons_zero, List.set_cons_succ]
              refine wpAnyS_load 6 (i := 3) (v := ?v5007) rfl (by kernel_rfl) (by kernel_rfl) (by kernel_rfl) (by kernel_rfl) (fun _ _ _ h => h) (Or.inl ⟨by rfl, ?hy5007⟩) (by assumption) ?rest5007
              case hy5007 => (intro wz hSw; (try dsimp only at hSw); first | (go_simp; done) | (go_simp; with_reducible rfl))
              try simp only [Act.put, List.getElem_toArray, List.getElem_cons_succ, List.getElem_cons_zero, List.setIfInBounds_toArray, List.set_cons_zero, List.set_cons_succ]
              refine wpAnyS_load 6 (i := 5) (v := ?v5008) rfl (by kernel_rfl) (by kernel_rfl) (by kernel_rfl) (by kernel_rfl) (fun _ _ _ h => h) (Or.inl ⟨by rfl, ?hy5008⟩) (by assumption) ?rest5008
              case hy5008 => (intro wz hSw; (try dsimp only at hSw); first | (go_simp; done) | (go_simp; with_reducible rfl))
              try simp only [Act.put, List.getElem_toArray, List.getElem_cons_succ, List.getElem_cons_zero, List.setIfInBounds_toArray, List.set_cons_zero, List.set_cons_succ]
              refine wpAnyS_load 13 (i := 7) (v := ?v5009) rfl (by kernel_rfl) (by kernel_rfl) (by kernel_rfl) (by kernel_rfl) (fun _ _ _ h => h) (Or.inl ⟨by rfl, ?hy5009⟩) (by assumption) ?rest5009
              case hy5009 => (intro wz hSw; (try dsimp only at hSw); first | (go_simp; done) | (go_simp; with_reducible rfl))
              try simp only [Act.put, List.getElem_toArray, List.getElem_cons_succ, List.getElem_cons_zero, List.setIfInBounds_toArray, List.set_cons_zero, List.set_cons_succ]
              refine wpAnyS_load 13 (i := 8) (v := ?v5010) rfl (by kernel_rfl) (by kernel_rfl) (by kernel_rfl) (by kernel_rfl) (fun _ _ _ h => h) (Or.inl ⟨by rfl, ?hy5010⟩) (by assumption) ?rest5010
              case hy5010 => (intro wz hSw; (try dsimp only at hSw); first | (go_simp; done) | (go_simp; with_reducible rfl))
              try simp only [Act.put, List.getElem_toArray, List.getElem_cons_succ, List.getElem_cons_zero, List.setIfInBounds_toArray, List.set_cons_zero, List.set_cons_succ]
              refine wpAnyS_load 13 (i := 10) (v := ?v5011) rfl (by kernel_rfl) (by kernel_rfl) (by kernel_rfl) (by kernel_rfl) (fun _ _ _ h => h) (Or.inl ⟨by rfl, ?hy5011⟩) (by assumption) ?rest5011
              case hy5011 => (intro wz hSw; (try dsimp only at hSw); first | (go_simp; done) | (go_simp; with_reducible rfl))
              try simp only [Act.put, List.getElem_toArray, List.getElem_cons_succ, List.getElem_cons_zero, List.setIfInBounds_toArray, List.set_cons_zero, List.set_cons_succ]
              refine wpAnyS_load 13 (i := 12) (v := ?v5012) rfl (by kernel_rfl) (by kernel_rfl) (by kernel_rfl) (by kernel_rfl) (fun _ _ _ h => h) (Or.inl ⟨by rfl, ?hy5012⟩) (by assumption) ?rest5012
              case hy5012 => (intro wz hSw; (try dsimp only at hSw); first | (go_simp; done) | (go_simp; with_reducible rfl))
              try simp only [Act.put, List.getElem_toArray, List.getElem_cons_succ, List.getElem_cons_zero, List.setIfInBounds_toArray, List.set_cons_zero, List.set_cons_succ]
              refine wpAnyS_one (i := 6) (o := _) (by kernel_rfl) rfl (fun K hK => ?_)
              go_simp
              refine (eset_any _ nm v3 v4 v5 v6 v7 v8 ha ma hn hc mn mc H M (HD.out _ (gb_trans RN2.out.g G0.out)).1 (HD.out _ (gb_trans RN2.out.g G0.out)).2 X2 L (RN2.out.keep0 G0.out).er.1 (ez_of (RN2.out.keep0 G0.out).er.1 SE.out) rh rf v V0.out.1 V0.out.2).mono ?_
              rintro e wh1 ⟨XA, VA, rfl, o, g⟩
              rw [← H2.out] at o
              have OA := Lib.hid (o.low (gb_trans RN2.out.g G0.out).size)
              clear o
              have G1 := Lib.hid (gb_trans G0.out g)
              clear g hF0
              have hF1 := KT.out _ G1.out
              try dsimp only
              refine hK.out _ _ (Or.inr hF1) (fun _ => ?_)
              clear hK K
              try simp only [Act.put, List.getElem_toArray, List.getElem_cons_succ, List.getElem_cons_zero, List.setIfInBounds_toArray, List.set_cons_zero, List.set_cons_succ]
              refine wpAnyS_one (i := 13) (o := _) (by kernel_rfl) rfl (fun K hK => ?_)
              go_simp
              refine (rset_any _ nm v3 v4 v5 v6 v7 v8 ha ma hn hc mn mc H M (HD.out _ (gb_trans RN2.out.g G1.out)).1 (HD.out _ (gb_trans RN2.out.g G1.out)).2 Y2 L (RN2.out.keep0 G1.out).er.2 (ez_of (RN2.out.keep0 G1.out).er.2 SE.out) rh rf v V0.out.1 V0.out.2).mono ?_
              rintro e wh2 ⟨XB, VB, rfl, o, g⟩
              rw [← H2.out] at o
              replace OA := Lib.hid (OA.out.keep0 g)
              have OB := Lib.hid (o.low (gb_trans RN2.out.g G1.out).size)
              clear o
              have G2 := Lib.hid (gb_trans G1.out g)
              clear g hF1
              have hF2 := KT.out _ G2.out
              try dsimp only
              refine hK.out _ _ (Or.inr hF2) (fun _ => ?_)
              clear hK K
              try simp only [Act.put, List.getElem_toArray, List.getElem_cons_succ, List.getElem_cons_zero, List.setIfInBounds_toArray, List.set_cons_zero, List.set_cons_succ]
              have I5 := Lib.hid (RN2.out.i5.keep0 G2.out)
              have I6 := Lib.hid (RN2.out.i6.keep0 G2.out)
              have q0 := I5.out.cell 0
              have q1 := I5.out.cell 1
              have q2 := I5.out.cell 2
              have q3 := I5.out.cell 3
              have r0 := I6.out.cell 0
              have r1 := I6.out.cell 1
              have r2 := I6.out.cell 2
              have r3 := I6.out.cell 3
              dsimp at q0 q1 q2 q3 r0 r1 r2 r3
              have f0 := I5.out.free 0
              have f1 := I5.out.free 1
              have f2 := I5.out.free 2
              have f3 := I5.out.free 3
              have e0 := I6.out.free 0
              have e1 := I6.out.free 1
              have e2 := I6.out.free 2
              have e3 := I6.out.free 3
              have N5 : b5 ≠ b6 := RN2.out.ne
              have N6 : b6 ≠ b5 := N5.symm
              have RX := Lib.hid (rn_put (RN2.out.bp.keep0 G2.out) I5.out I6.out OA.out OB.out (gb_trans RN2.out.g G2.out) RN2.out.l5 RN2.out.l6 N5)
              clear hF2
              refine wpAnyS_one (i := 14) (o := _) (by kernel_rfl) rfl (fun K hK => ?_)
              go_simp
              refine hK.out _ _ (Or.inl (by kernel_rfl)) (fun _ => ?_)
              clear hK K
              try simp only [Act.put, List.getElem_toArray, List.getElem_cons_succ, List.getElem_cons_zero, List.setIfInBounds_toArray, List.set_cons_zero, List.set_cons_succ]
              refine wpAnyS_one (i := 15) (o := _) (by kernel_rfl) rfl (fun K hK => ?_)
              go_simp
              refine hK.out _ _ (Or.inl (by kernel_rfl)) (fun _ => ?_)
              clear hK K
              try simp only [Act.put, List.getElem_toArray, List.getElem_cons_succ, List.getElem_cons_zero, List.setIfInBounds_toArray, List.set_cons_zero, List.set_cons_succ]
              refine wpAnyS_done (by kernel_rfl) ?_ _
              generalize ((((((((wh2.setCell ⟨b5, 0, none⟩ (.slice XA.va XA.vn XA.vc)).setCell ⟨b5, 1, none⟩ (.slice XA.fa XA.fn XA.fc)).setCell ⟨b5, 2, none⟩ (.slice XA.ta XA.tn XA.tc)).setCell ⟨b5, 3, none⟩ (.slice XA.pa XA.pn XA.pc)).setCell ⟨b6, 0, none⟩ (.slice XB.va XB.vn XB.vc)).setCell ⟨b6, 1, none⟩ (.slice XB.fa XB.fn XB.fc)).setCell ⟨b6, 2, none⟩ (.slice XB.ta XB.tn XB.tc)).setCell ⟨b6, 3, none⟩ (.slice XB.pa XB.pn XB.pc)) = wz at RX ⊢
              clear q0 q1 q2 q3 r0 r1 r2 r3 f0 f1 f2 f3 e0 e1 e2 e3 I5 I6 OA OB N5 N6 KT
              have q0 := RX.out.i5.cell 0
              have q1 := RX.out.i5.cell 1
              have q2 := RX.out.i5.cell 2
              have q3 := RX.out.i5.cell 3
              dsimp at q0 q1 q2 q3
              have r0 := RX.out.i6.cell 0
              have r1 := RX.out.i6.cell 1
              have r2 := RX.out.i6.cell 2
              have r3 := RX.out.i6.cell 3
              dsimp at r0 r1 r2 r3
              go_wp2_with fail
              refine (requal_any wz XA XB L2 L2 RX.out.er.1 RX.out.er.2 (ez_of RX.out.er.1 SE2.out) (ez_of RX.out.er.2 SE2.out) true (by simp [sameE])).mono ?_
              rintro e wy ⟨rfl, g⟩
              replace RX := Lib.hid (RX.out.keep0 g)
              clear g q0 q1 q2 q3 r0 r1 r2 r3
              have c0 := RX.out.bp.cell 0
              have c1 := RX.out.bp.cell 1
              have c2 := RX.out.bp.cell 2
              have c3 := RX.out.bp.cell 3
              have c4 := RX.out.bp.cell 4
              have c5 := RX.out.bp.cell 5
              have c6 := RX.out.bp.cell 6
              have c7 := RX.out.bp.cell 7
              have c8 := RX.out.bp.cell 8
              dsimp at c0 c1 c2 c3 c4 c5 c6 c7 c8
              have q0 := RX.out.i5.cell 0
              have q1 := RX.out.i5.cell 1
              have q2 := RX.out.i5.cell 2
              have q3 := RX.out.i5.cell 3
              dsimp at q0 q1 q2 q3
              go_wp2_with fail
              refine (echeck_any wy nm v3 v4 v5 v6 v7 v8 ha ma hn hc mn mc H M (HD.out _ RX.out.g).1 (HD.out _ RX.out.g).2 XA L2 RX.out.er.1 (ez_of RX.out.er.1 SE2.out) HB.out DB.out 0 (chk_ok OK2.out)).mono ?_
              rintro e wx ⟨rfl, g⟩
              replace RX := Lib.hid (RX.out.keep0 g)
              clear g q0 q1 q2 q3 c0 c1 c2 c3 c4 c5 c6 c7 c8
              go_wp2
              go_roundw
              case rel => exact ⟨k + 1, XA, XB, L2, by omega, by first | rfl | (congr 1), RX.out, OK2.out, PE2.out⟩
              case measure => simp [intOf]; omega
            · by_cases d1 : dd = 1
              · subst d1
                obtain ⟨L2, h2⟩ : ∃ L2, L2 = (if (isX hd hn && isX hd X2.vn && !(validB L.V hd)) = true then withE L hd.toNat true else L) := ⟨_, rfl⟩
                have OK2 := Lib.hid (show okE H M L2 by rw [h2]; split; exact with_ok OK.out _ _; exact OK.out)
                have PE2 := Lib.hid (show L2.P = [] by rw [h2]; split <;> exact LP0.out)
                have SE2 := Lib.hid (size_of SP.out OK2.out.1 (by rw [PE2.out]; exact Nat.zero_le _))
                have H2 := Lib.hid h2
                clear h2
                go_upto_region 13 with fail
                clear k0
                have KT := Lib.hid (fun (w' : World) (q : w8.grownBy w' none) => (⟨(RN2.out.bp.keep0 q).cell 0, (RN2.out.bp.keep0 q).cell 1, (RN2.out.bp.keep0 q).cell 2, (RN2.out.bp.keep0 q).cell 3, (RN2.out.bp.keep0 q).cell 4, (RN2.out.bp.keep0 q).cell 5, (RN2.out.bp.keep0 q).cell 6, (RN2.out.bp.keep0 q).cell 7, (RN2.out.bp.keep0 q).cell 8, (RN2.out.i5.keep0 q).cell 0, (RN2.out.i5.keep0 q).cell 1, (RN2.out.i5.keep0 q).cell 2, (RN2.out.i5.keep0 q).cell 3, (RN2.out.i6.keep0 q).cell 0, (RN2.out.i6.keep0 q).cell 1, (RN2.out.i6.keep0 q).cell 2, (RN2.out.i6.keep0 q).cell 3, (BX.out.keep0 q).cell 0, (BX.out.keep0 q).cell 1, (BX.out.keep0 q).cell 2, (BX.out.keep0 q).cell 3, trivial⟩ : (fun w' : World => w'.cell? ⟨bx, 0, none⟩ = some (nm) ∧ w'.cell? ⟨bx, 1, none⟩ = some (.slice ha hn hc) ∧ w'.cell? ⟨bx, 2, none⟩ = some (.slice ma mn mc) ∧ w'.cell? ⟨bx, 3, none⟩ = some (v3) ∧ w'.cell? ⟨bx, 4, none⟩ = some (v4) ∧ w'.cell? ⟨bx, 5, none⟩ = some (v5) ∧ w'.cell? ⟨bx, 6, none⟩ = some (v6) ∧ w'.cell? ⟨bx, 7, none⟩ = some (v7) ∧ w'.cell? ⟨bx, 8, none⟩ = some (v8) ∧ w'.cell? ⟨b5, 0, none⟩ = some (.slice X2.va X2.vn X2.vc) ∧ w'.cell? ⟨b5, 1, none⟩ = some (.slice X2.fa X2.fn X2.fc) ∧ w'.cell? ⟨b5, 2, none⟩ = some (.slice X2.ta X2.tn X2.tc) ∧ w'.cell? ⟨b5, 3, none⟩ = some (.slice X2.pa X2.pn X2.pc) ∧ w'.cell? ⟨b6, 0, none⟩ = some (.slice Y2.va Y2.vn Y2.vc) ∧ w'.cell? ⟨b6, 1, none⟩ = some (.slice Y2.fa Y2.fn Y2.fc) ∧ w'.cell? ⟨b6, 2, none⟩ = some (.slice Y2.ta Y2.tn Y2.tc) ∧ w'.cell? ⟨b6, 3, none⟩ = some (.slice Y2.pa Y2.pn Y2.pc) ∧ w'.cell? ⟨b8, 0, none⟩ = some (.int .i64 rh) ∧ w'.cell? ⟨b8, 1, none⟩ = some (.int .i64 rf) ∧ w'.cell? ⟨b8, 2, none⟩ = some (.int .u32 v) ∧ w'.cell? ⟨b8, 3, none⟩ = some (.int .i64 hd) ∧ True) w'))
                have G0 := Lib.hid (gb_drew w8 none)
                have hF0 := KT.out _ G0.out
                refine wp_region_S (fun w' : World => w'.cell? ⟨bx, 0, none⟩ = some (nm) ∧ w'.cell? ⟨bx, 1, none⟩ = some (.slice ha hn hc) ∧ w'.cell? ⟨bx, 2, none⟩ = some (.slice ma mn mc) ∧ w'.cell? ⟨bx, 3, none⟩ = some (v3) ∧ w'.cell? ⟨bx, 4, none⟩ = some (v4) ∧ w'.cell? ⟨bx, 5, none⟩ = some (v5) ∧ w'.cell? ⟨bx, 6, none⟩ = some (v6) ∧ w'.cell? ⟨bx, 7, none⟩ = some (v7) ∧ w'.cell? ⟨bx, 8, none⟩ = some (v8) ∧ w'.cell? ⟨b5, 0, none⟩ = some (.slice X2.va X2.vn X2.vc) ∧ w'.cell? ⟨b5, 1, none⟩ = some (.slice X2.fa X2.fn X2.fc) ∧ w'.cell? ⟨b5, 2, none⟩ = some (.slice X2.ta X2.tn X2.tc) ∧ w'.cell? ⟨b5, 3, none⟩ = some (.slice X2.pa X2.pn X2.pc) ∧ w'.cell? ⟨b6, 0, none⟩ = some (.slice Y2.va Y2.vn Y2.vc) ∧ w'.cell? ⟨b6, 1, none⟩ = some (.slice Y2.fa Y2.fn Y2.fc) ∧ w'.cell? ⟨b6, 2, none⟩ = some (.slice Y2.ta Y2.tn Y2.tc) ∧ w'.cell? ⟨b6, 3, none⟩ = some (.slice Y2.pa Y2.pn Y2.pc) ∧ w'.cell? ⟨b8, 0, none⟩ = some (.int .i64 rh) ∧ w'.cell? ⟨b8, 1, none⟩ = some (.int .i64 rf) ∧ w'.cell? ⟨b8, 2, none⟩ = some (.int .u32 v) ∧ w'.cell? ⟨b8, 3, none⟩ = some (.int .i64 hd) ∧ True) 10 (by kernel_rfl) ?_
                refine wpAnyS_pure (i := 2) (v := ?v5013) rfl (by kernel_rfl) (by kernel_rfl) (by kernel_rfl) (by decide) (fun _ _ _ h => h) (Or.inl ⟨by rfl, ?hy5013⟩) (Or.inr (by assumption)) ?rest5013
                case hy5013 => (intro wz hSw; (try dsimp only at hSw); first | (go_simp; done) | (go_simp; with_reducible rfl))
                try simp only [Act.put, List.getElem_toArray, List.getElem_cons_succ, List.getElem_cons_zero, List.setIfInBounds_toArray, List.set_cons_zero, List.set_cons_succ]
                refine wpAnyS_pure (i := 7) (v := ?v5014) rfl (by kernel_rfl) (by kernel_rfl) (by kernel_rfl) (by decide) (fun _ _ _ h => h) (Or.inl ⟨by rfl, ?hy5014⟩) (Or.inr (by assumption)) ?rest5014
                case hy5014 => (intro wz hSw; (try dsimp only at hSw); first | (go_simp; done) | (go_simp; with_reducible rfl))
                try simp only [Act.put, List.getElem_toArray, List.getElem_cons_succ, List.getElem_cons_zero, List.setIfInBounds_toArray, List.set_cons_zero, List.set_cons_succ]
                refine wpAnyS_load 4 (i := 0) (v := ?v5015) rfl (by kernel_rfl) (by kernel_rfl) (by kernel_rfl) (by kernel_rfl) (fun _ _ _ h => h) (Or.inl ⟨by rfl, ?hy5015⟩) (by assumption) ?rest5015
                case hy5015 => (intro wz hSw; (try dsimp only at hSw); first | (go_simp; done) | (go_simp; with_reducible rfl))
                try simp only [Act.put, List.getElem_toArray, List.getElem_cons_zero, List.setIfInBounds_toArray, List.set_cons_zero, List.set_cons_succ]
                refine wpAnyS_load 4 (i := 1) (v := ?v5016) rfl (by kernel_rfl) (by kernel_rfl) (by kernel_rfl) (by kernel_rfl) (fun _ _ _ h => h) (Or.inl ⟨by rfl, ?hy5016⟩) (by assumption) ?rest5016
                case hy5016 => (intro wz hSw; (try dsimp only at hSw); first | (go_simp; done) | (go_simp; with_reducible rfl))
                try simp only [Act.put, List.getElem_toArray, List.getElem_cons_succ, List.getElem_cons_zero, List.setIfInBounds_toArray, List.set_cons_zero, List.set_cons_succ]
                refine wpAnyS_load 4 (i := 3) (v := ?v5017) rfl (by kernel_rfl) (by kernel_rfl) (by kernel_rfl) (by kernel_rfl) (fun _ _ _ h => h) (Or.inl ⟨by rfl, ?hy5017⟩) (by assumption) ?rest5017
                case hy5017 => (intro wz hSw; (try dsimp only at hSw); first | (go_simp; done) | (go_simp; with_reducible rfl))
                try simp only [Act.put, List.getElem_toArray, List.getElem_cons_succ, List.getElem_cons_zero, List.setIfInBounds_toArray, List.set_cons_zero, List.set_cons_succ]
                refine wpAnyS_load 9 (i := 5) (v := ?v5018) rfl (by kernel_rfl) (by kernel_rfl) (by kernel_rfl) (by kernel_rfl) (fun _ _ _ h => h) (Or.inl ⟨by rfl, ?hy5018⟩) (by assumption) ?rest5018
                case hy5018 => (intro wz hSw; (try dsimp only at hSw); first | (go_simp; done) | (go_simp; with_reducible rfl))
                try simp only [Act.put, List.getElem_toArray, List.getElem_cons_succ, List.getElem_cons_zero, List.setIfInBounds_toArray, List.set_cons_zero, List.set_cons_succ]
                refine wpAnyS_load 9 (i := 6) (v := ?v5019) rfl (by kernel_rfl) (by kernel_rfl) (by kernel_rfl) (by kernel_rfl) (fun _ _ _ h => h) (Or.inl ⟨by rfl, ?hy5019⟩) (by assumption) ?rest5019
                case hy5019 => (intro wz hSw; (try dsimp only at hSw); first | (go_simp; done) | (go_simp; with_reducible rfl))
                try simp only [Act.put, List.getElem_toArray, List.getElem_cons_succ, List.getElem_cons_zero, List.setIfInBounds_toArray, List.set_cons_zero, List.set_cons_succ]
                refine wpAnyS_load 9 (i := 8) (v := ?v5020) rfl (by kernel_rfl) (by kernel_rfl) (by kernel_rfl) (by kernel_rfl) (fun _ _ _ h => h) (Or.inl ⟨by rfl, ?hy5020⟩) (by assumption) ?rest5020
                case hy5020 => (intro wz hSw; (try dsimp only at hSw); first | (go_simp; done) | (go_simp; with_reducible rfl))
                try simp only [Act.put, List.getElem_toArray, List.getElem_cons_succ, List.getElem_cons_zero, List.setIfInBounds_toArray, List.set_cons_zero, List.set_cons_succ]
                refine wpAnyS_one (i := 4) (o := _) (by kernel_rfl) rfl (fun K hK => ?_)
                go_simp
                refine (eadd_any _ nm (.slice ma mn mc) v3 v4 v5 v6 v7 v8 ha hn hc X2 L (RN2.out.keep0 G0.out).er.1 (ez_of (RN2.out.keep0 G0.out).er.1 SE.out) hd).mono ?_
                rintro e wh1 ⟨XA, VA, rfl, o, g⟩
                rw [← H2.out] at o
                have OA := Lib.hid (o.low (gb_trans RN2.out.g G0.out).size)
                clear o
                have G1 := Lib.hid (gb_trans G0.out g)
                clear g hF0
                have hF1 := KT.out _ G1.out
                try dsimp only
                refine hK.out _ _ (Or.inr hF1) (fun _ => ?_)
                clear hK K
                try simp only [Act.put, List.getElem_toArray, List.getElem_cons_succ, List.getElem_cons_zero, List.setIfInBounds_toArray, List.set_cons_zero, List.set_cons_succ]
                refine wpAnyS_one (i := 9) (o := _) (by kernel_rfl) rfl (fun K hK => ?_)
                go_simp
                refine (radd_any _ nm (.slice ma mn mc) v3 v4 v5 v6 v7 v8 ha hn hc Y2 L (RN2.out.keep0 G1.out).er.2 (ez_of (RN2.out.keep0 G1.out).er.2 SE.out) hd).mono ?_
                rintro e wh2 ⟨XB, VB, rfl, o, g⟩
                rw [VN.out, ← H2.out] at o
                replace OA := Lib.hid (OA.out.keep0 g)
                have OB := Lib.hid (o.low (gb_trans RN2.out.g G1.out).size)
                clear o
                have G2 := Lib.hid (gb_trans G1.out g)
                clear g hF1
                have hF2 := KT.out _ G2.out
                try dsimp only
                refine hK.out _ _ (Or.inr hF2) (fun _ => ?_)
                clear hK K
                try simp only [Act.put, List.getElem_toArray, List.getElem_cons_succ, List.getElem_cons_zero, List.setIfInBounds_toArray, List.set_cons_zero, List.set_cons_succ]
                have I5 := Lib.hid (RN2.out.i5.keep0 G2.out)
                have I6 := Lib.hid (RN2.out.i6.keep0 G2.out)
                have q0 := I5.out.cell 0
                have q1 := I5.out.cell 1
                have q2 := I5.out.cell 2
                have q3 := I5.out.cell 3
                have r0 := I6.out.cell 0
                have r1 := I6.out.cell 1
                have r2 := I6.out.cell 2
                have r3 := I6.out.cell 3
                dsimp at q0 q1 q2 q3 r0 r1 r2 r3
                have f0 := I5.out.free 0
                have f1 := I5.out.free 1
                have f2 := I5.out.free 2
                have f3 := I5.out.free 3
                have e0 := I6.out.free 0
                have e1 := I6.out.free 1
                have e2 := I6.out.free 2
                have e3 := I6.out.free 3
                have N5 : b5 ≠ b6 := RN2.out.ne
                have N6 : b6 ≠ b5 := N5.symm
                have RX := Lib.hid (rn_put (RN2.out.bp.keep0 G2.out) I5.out I6.out OA.out OB.out (gb_trans RN2.out.g G2.out) RN2.out.l5 RN2.out.l6 N5)
                clear hF2
                refine wpAnyS_one (i := 10) (o := _) (by kernel_rfl) rfl (fun K hK => ?_)
                go_simp
                refine hK.out _ _ (Or.inl (by kernel_rfl)) (fun _ => ?_)
                clear hK K
                try simp only [Act.put, List.getElem_toArray, List.getElem_cons_succ, List.getElem_cons_zero, List.setIfInBounds_toArray, List.set_cons_zero, List.set_cons_succ]
                refine wpAnyS_one (i := 11) (o := _) (by kernel_rfl) rfl (fun K hK => ?_)
                go_simp
                refine hK.out _ _ (Or.inl (by kernel_rfl)) (fun _ => ?_)
                clear hK K
                try simp only [Act.put, List.getElem_toArray, List.getElem_cons_succ, List.getElem_cons_zero, List.setIfInBounds_toArray, List.set_cons_zero, List.set_cons_succ]
                refine wpAnyS_done (by kernel_rfl) ?_ _
                generalize ((((((((wh2.setCell ⟨b5, 0, none⟩ (.slice XA.va XA.vn XA.vc)).setCell ⟨b5, 1, none⟩ (.slice XA.fa XA.fn XA.fc)).setCell ⟨b5, 2, none⟩ (.slice XA.ta XA.tn XA.tc)).setCell ⟨b5, 3, none⟩ (.slice XA.pa XA.pn XA.pc)).setCell ⟨b6, 0, none⟩ (.slice XB.va XB.vn XB.vc)).setCell ⟨b6, 1, none⟩ (.slice XB.fa XB.fn XB.fc)).setCell ⟨b6, 2, none⟩ (.slice XB.ta XB.tn XB.tc)).setCell ⟨b6, 3, none⟩ (.slice XB.pa XB.pn XB.pc)) = wz at RX ⊢
                clear q0 q1 q2 q3 r0 r1 r2 r3 f0 f1 f2 f3 e0 e1 e2 e3 I5 I6 OA OB N5 N6 KT
                have q0 := RX.out.i5.cell 0
                have q1 := RX.out.i5.cell 1
                have q2 := RX.out.i5.cell 2
                have q3 := RX.out.i5.cell 3
                dsimp at q0 q1 q2 q3
                have r0 := RX.out.i6.cell 0
                have r1 := RX.out.i6.cell 1
                have r2 := RX.out.i6.cell 2
                have r3 := RX.out.i6.cell 3
                dsimp at r0 r1 r2 r3
                go_wp2_with fail
                refine (requal_any wz XA XB L2 L2 RX.out.er.1 RX.out.er.2 (ez_of RX.out.er.1 SE2.out) (ez_of RX.out.er.2 SE2.out) true (by simp [sameE])).mono ?_
                rintro e wy ⟨rfl, g⟩
                replace RX := Lib.hid (RX.out.keep0 g)
                clear g q0 q1 q2 q3 r0 r1 r2 r3
                have c0 := RX.out.bp.cell 0
                have c1 := RX.out.bp.cell 1
                have c2 := RX.out.bp.cell 2
                have c3 := RX.out.bp.cell 3
                have c4 := RX.out.bp.cell 4
                have c5 := RX.out.bp.cell 5
                have c6 := RX.out.bp.cell 6
                have c7 := RX.out.bp.cell 7
                have c8 := RX.out.bp.cell 8
                dsimp at c0 c1 c2 c3 c4 c5 c6 c7 c8
                have q0 := RX.out.i5.cell 0
                have q1 := RX.out.i5.cell 1
                have q2 := RX.out.i5.cell 2
                have q3 := RX.out.i5.cell 3
                dsimp at q0 q1 q2 q3
                go_wp2_with fail
                refine (echeck_any wy nm v3 v4 v5 v6 v7 v8 ha ma hn hc mn mc H M (HD.out _ RX.out.g).1 (HD.out _ RX.out.g).2 XA L2 RX.out.er.1 (ez_of RX.out.er.1 SE2.out) HB.out DB.out 0 (chk_ok OK2.out)).mono ?_
                rintro e wx ⟨rfl, g⟩
                replace RX := Lib.hid (RX.out.keep0 g)
                clear g q0 q1 q2 q3 c0 c1 c2 c3 c4 c5 c6 c7 c8
                go_wp2
                go_roundw
                case rel => exact ⟨k + 1, XA, XB, L2, by omega, by first | rfl | (congr 1), RX.out, OK2.out, PE2.out⟩
                case measure => simp [intOf]; omega
              · have d2 : (dd == 0) = false := by simp [d0]
                have d3 : (dd == 1) = false := by simp [d1]
                obtain ⟨L2, h2⟩ : ∃ L2, L2 = (if (isX hd hn && isX hd X2.vn) = true then withE L hd.toNat false else L) := ⟨_, rfl⟩
                have OK2 := Lib.hid (show okE H M L2 by rw [h2]; split; exact with_ok OK.out _ _; exact OK.out)
                have PE2 := Lib.hid (show L2.P = [] by rw [h2]; split <;> exact LP0.out)
                have SE2 := Lib.hid (size_of SP.out OK2.out.1 (by rw [PE2.out]; exact Nat.zero_le _))
                have H2 := Lib.hid h2
                clear h2
                go_upto_region 9 with fail
                clear k0
                have KT := Lib.hid (fun (w' : World) (q : w8.grownBy w' none) => (⟨(RN2.out.bp.keep0 q).cell 0, (RN2.out.bp.keep0 q).cell 1, (RN2.out.bp.keep0 q).cell 2, (RN2.out.bp.keep0 q).cell 3, (RN2.out.bp.keep0 q).cell 4, (RN2.out.bp.keep0 q).cell 5, (RN2.out.bp.keep0 q).cell 6, (RN2.out.bp.keep0 q).cell 7, (RN2.out.bp.keep0 q).cell 8, (RN2.out.i5.keep0 q).cell 0, (RN2.out.i5.keep0 q).cell 1, (RN2.out.i5.keep0 q).cell 2, (RN2.out.i5.keep0 q).cell 3, (RN2.out.i6.keep0 q).cell 0, (RN2.out.i6.keep0 q).cell 1, (RN2.out.i6.keep0 q).cell 2, (RN2.out.i6.keep0 q).cell 3, (BX.out.keep0 q).cell 0, (BX.out.keep0 q).cell 1, (BX.out.keep0 q).cell 2, (BX.out.keep0 q).cell 3, trivial⟩ : (fun w' : World => w'.cell? ⟨bx, 0, none⟩ = some (nm) ∧ w'.cell? ⟨bx, 1, none⟩ = some (.slice ha hn hc) ∧ w'.cell? ⟨bx, 2, none⟩ = some (.slice ma mn mc) ∧ w'.cell? ⟨bx, 3, none⟩ = some (v3) ∧ w'.cell? ⟨bx, 4, none⟩ = some (v4) ∧ w'.cell? ⟨bx, 5, none⟩ = some (v5) ∧ w'.cell? ⟨bx, 6, none⟩ = some (v6) ∧ w'.cell? ⟨bx, 7, none⟩ = some (v7) ∧ w'.cell? ⟨bx, 8, none⟩ = some (v8) ∧ w'.cell? ⟨b5, 0, none⟩ = some (.slice X2.va X2.vn X2.vc) ∧ w'.cell? ⟨b5, 1, none⟩ = some (.slice X2.fa X2.fn X2.fc) ∧ w'.cell? ⟨b5, 2, none⟩ = some (.slice X2.ta X2.tn X2.tc) ∧ w'.cell? ⟨b5, 3, none⟩ = some (.slice X2.pa X2.pn X2.pc) ∧ w'.cell? ⟨b6, 0, none⟩ = some (.slice Y2.va Y2.vn Y2.vc) ∧ w'.cell? ⟨b6, 1, none⟩ = some (.slice Y2.fa Y2.fn Y2.fc) ∧ w'.cell? ⟨b6, 2, none⟩ = some (.slice Y2.ta Y2.tn Y2.tc) ∧ w'.cell? ⟨b6, 3, none⟩ = some (.slice Y2.pa Y2.pn Y2.pc) ∧ w'.cell? ⟨b8, 0, none⟩ = some (.int .i64 rh) ∧ w'.cell? ⟨b8, 1, none⟩ = some (.int .i64 rf) ∧ w'.cell? ⟨b8, 2, none⟩ = some (.int .u32 v) ∧ w'.cell? ⟨b8, 3, none⟩ = some (.int .i64 hd) ∧ True) w'))
                have G0 := Lib.hid (gb_drew w8 none)
                have hF0 := KT.out _ G0.out
                refine wp_region_S (fun w' : World => w'.cell? ⟨bx, 0, none⟩ = some (nm) ∧ w'.cell? ⟨bx, 1, none⟩ = some (.slice ha hn hc) ∧ w'.cell? ⟨bx, 2, none⟩ = some (.slice ma mn mc) ∧ w'.cell? ⟨bx, 3, none⟩ = some (v3) ∧ w'.cell? ⟨bx, 4, none⟩ = some (v4) ∧ w'.cell? ⟨bx, 5, none⟩ = some (v5) ∧ w'.cell? ⟨bx, 6, none⟩ = some (v6) ∧ w'.cell? ⟨bx, 7, none⟩ = some (v7) ∧ w'.cell? ⟨bx, 8, none⟩ = some (v8) ∧ w'.cell? ⟨b5, 0, none⟩ = some (.slice X2.va X2.vn X2.vc) ∧ w'.cell? ⟨b5, 1, none⟩ = some (.slice X2.fa X2.fn X2.fc) ∧ w'.cell? ⟨b5, 2, none⟩ = some (.slice X2.ta X2.tn X2.tc) ∧ w'.cell? ⟨b5, 3, none⟩ = some (.slice X2.pa X2.pn X2.pc) ∧ w'.cell? ⟨b6, 0, none⟩ = some (.slice Y2.va Y2.vn Y2.vc) ∧ w'.cell? ⟨b6, 1, none⟩ = some (.slice Y2.fa Y2.fn Y2.fc) ∧ w'.cell? ⟨b6, 2, none⟩ = some (.slice Y2.ta Y2.tn Y2.tc) ∧ w'.cell? ⟨b6, 3, none⟩ = some (.slice Y2.pa Y2.pn Y2.pc) ∧ w'.cell? ⟨b8, 0, none⟩ = some (.int .i64 rh) ∧ w'.cell? ⟨b8, 1, none⟩ = some (.int .i64 rf) ∧ w'.cell? ⟨b8, 2, none⟩ = some (.int .u32 v) ∧ w'.cell? ⟨b8, 3, none⟩ = some (.int .i64 hd) ∧ True) 10 (by kernel_rfl) ?_
                refine wpAnyS_pure (i := 2) (v := ?v5021) rfl (by kernel_rfl) (by kernel_rfl) (by kernel_rfl) (by decide) (fun _ _ _ h => h) (Or.inl ⟨by rfl, ?hy5021⟩) (Or.inr (by assumption)) ?rest5021
                case hy5021 => (intro wz hSw; (try dsimp only at hSw); first | (go_simp; done) | (go_simp; with_reducible rfl))
                try simp only [Act.put, List.getElem_toArray, List.getElem_cons_succ, List.getElem_cons_zero, List.setIfInBounds_toArray, List.set_cons_zero, List.set_cons_succ]
                refine wpAnyS_pure (i := 7) (v := ?v5022) rfl (by kernel_rfl) (by kernel_rfl) (by kernel_rfl) (by decide) (fun _ _ _ h => h) (Or.inl ⟨by rfl, ?hy5022⟩) (Or.inr (by assumption)) ?rest5022
                case hy5022 => (intro wz hSw; (try dsimp only at hSw); first | (go_simp; done) | (go_simp; with_reducible rfl))
                try simp only [Act.put, List.getElem_toArray, List.getElem_cons_succ, List.getElem_cons_zero, List.setIfInBounds_toArray, List.set_cons_zero, List.set_cons_succ]
                refine wpAnyS_load 4 (i := 0) (v := ?v5023) rfl (by kernel_rfl) (by kernel_rfl) (by kernel_rfl) (by kernel_rfl) (fun _ _ _ h => h) (Or.inl ⟨by rfl, ?hy5023⟩) (by assumption) ?rest5023
                case hy5023 => (intro wz hSw; (try dsimp only at hSw); first | (go_simp; done) | (go_simp; with_reducible rfl))
                try simp only [Act.put, List.getElem_toArray, List.getElem_cons_zero, List.setIfInBounds_toArray, List.set_cons_zero, List.set_cons_succ]
                refine wpAnyS_load 4 (i := 1) (v := ?v5024) rfl (by kernel_rfl) (by kernel_rfl) (by kernel_rfl) (by kernel_rfl) (fun _ _ _ h => h) (Or.inl ⟨by rfl, ?hy5024⟩) (by assumption) ?rest5024
                case hy5024 => (intro wz hSw; (try dsimp only at hSw); first | (go_simp; done) | (go_simp; with_reducible rfl))
                try simp only [Act.put, List.getElem_toArray, List.getElem_cons_succ, List.getElem_cons_zero, List.setIfInBounds_toArray, List.set_cons_zero, List.set_cons_succ]
                refine wpAnyS_load 4 (i := 3) (v := ?v5025) rfl (by kernel_rfl) (by kernel_rfl) (by kernel_rfl) (by kernel_rfl) (fun _ _ _ h => h) (Or.inl ⟨by rfl, ?hy5025⟩) (by assumption) ?rest5025
                case hy5025 => (intro wz hSw; (try dsimp only at hSw); first | (go_simp; done) | (go_simp; with_reducible rfl))
                try simp only [Act.put, List.getElem_toArray, List.getElem_cons_succ, List.getElem_cons_zero, List.setIfInBounds_toArray, List.set_cons_zero, List.set_cons_succ]
                refine wpAnyS_load 9 (i := 5) (v := ?v5026) rfl (by kernel_rfl) (by kernel_rfl) (by kernel_rfl) (by kernel_rfl) (fun _ _ _ h => h) (Or.inl ⟨by rfl, ?hy5026⟩) (by assumption) ?rest5026
                case hy5026 => (intro wz hSw; (try dsimp only at hSw); first | (go_simp; done) | (go_simp; with_reducible rfl))
                try simp only [Act.put, List.getElem_toArray, List.getElem_cons_succ, List.getElem_cons_zero, List.setIfInBounds_toArray, List.set_cons_zero, List.set_cons_succ]
                refine wpAnyS_load 9 (i := 6) (v := ?v5027) rfl (by kernel_rfl) (by kernel_rfl) (by kernel_rfl) (by kernel_rfl) (fun _ _ _ h => h) (Or.inl ⟨by rfl, ?hy5027⟩) (by assumption) ?rest5027
                case hy5027 => (intro wz hSw; (try dsimp only at hSw); first | (go_simp; done) | (go_simp; with_reducible rfl))
                try simp only [Act.put, List.getElem_toArray, List.getElem_cons_succ, List.getElem_cons_zero, List.setIfInBounds_toArray, List.set_cons_zero, List.set_cons_succ]
                refine wpAnyS_load 9 (i := 8) (v := ?v5028) rfl (by kernel_rfl) (by kernel_rfl) (by kernel_rfl) (by kernel_rfl) (fun _ _ _ h => h) (Or.inl ⟨by rfl, ?hy5028⟩) (by assumption) ?rest5028
                case hy5028 => (intro wz hSw; (try dsimp only at hSw); first | (go_simp; done) | (go_simp; with_reducible rfl))
                try simp only [Act.put, List.getElem_toArray, List.getElem_cons_succ, List.getElem_cons_zero, List.setIfInBounds_toArray, List.set_cons_zero, List.set_cons_succ]
                refine wpAnyS_one (i := 4) (o := _) (by kernel_rfl) rfl (fun K hK => ?_)
                go_simp
                refine (erem_any _ nm (.slice ma mn mc) v3 v4 v5 v6 v7 v8 ha hn hc X2 L (RN2.out.keep0 G0.out).er.1 (ez_of (RN2.out.keep0 G0.out).er.1 SE.out) hd).mono ?_
                rintro e wh1 ⟨XA, VA, rfl, o, g⟩
                rw [← H2.out] at o
                have OA := Lib.hid (o.low (gb_trans RN2.out.g G0.out).size)
                clear o
                have G1 := Lib.hid (gb_trans G0.out g)
                clear g hF0
                have hF1 := KT.out _ G1.out
                try dsimp only
                refine hK.out _ _ (Or.inr hF1) (fun _ => ?_)
                clear hK K
                try simp only [Act.put, List.getElem_toArray, List.getElem_cons_succ, List.getElem_cons_zero, List.setIfInBounds_toArray, List.set_cons_zero, List.set_cons_succ]
                refine wpAnyS_one (i := 9) (o := _) (by kernel_rfl) rfl (fun K hK => ?_)
                go_simp
                refine (rrem_any _ nm (.slice ma mn mc) v3 v4 v5 v6 v7 v8 ha hn hc Y2 L (RN2.out.keep0 G1.out).er.2 (ez_of (RN2.out.keep0 G1.out).er.2 SE.out) hd).mono ?_
                rintro e wh2 ⟨XB, VB, rfl, o, g⟩
                rw [VN.out, ← H2.out] at o
                replace OA := Lib.hid (OA.out.keep0 g)
                have OB := Lib.hid (o.low (gb_trans RN2.out.g G1.out).size)
                clear o
                have G2 := Lib.hid (gb_trans G1.out g)
                clear g hF1
                have hF2 := KT.out _ G2.out
                try dsimp only
                refine hK.out _ _ (Or.inr hF2) (fun _ => ?_)
                clear hK K
                try simp only [Act.put, List.getElem_toArray, List.getElem_cons_succ, List.getElem_cons_zero, List.setIfInBounds_toArray, List.set_cons_zero, List.set_cons_succ]
                have I5 := Lib.hid (RN2.out.i5.keep0 G2.out)
                have I6 := Lib.hid (RN2.out.i6.keep0 G2.out)
                have q0 := I5.out.cell 0
                have q1 := I5.out.cell 1
                have q2 := I5.out.cell 2
                have q3 := I5.out.cell 3
                have r0 := I6.out.cell 0
                have r1 := I6.out.cell 1
                have r2 := I6.out.cell 2
                have r3 := I6.out.cell 3
                dsimp at q0 q1 q2 q3 r0 r1 r2 r3
                have f0 := I5.out.free 0
                have f1 := I5.out.free 1
                have f2 := I5.out.free 2
                have f3 := I5.out.free 3
                have e0 := I6.out.free 0
                have e1 := I6.out.free 1
                have e2 := I6.out.free 2
                have e3 := I6.out.free 3
                have N5 : b5 ≠ b6 := RN2.out.ne
                have N6 : b6 ≠ b5 := N5.symm
                have RX := Lib.hid (rn_put (RN2.out.bp.keep0 G2.out) I5.out I6.out OA.out OB.out (gb_trans RN2.out.g G2.out) RN2.out.l5 RN2.out.l6 N5)
                clear hF2
                refine wpAnyS_one (i := 10) (o := _) (by kernel_rfl) rfl (fun K hK => ?_)
                go_simp
                refine hK.out _ _ (Or.inl (by kernel_rfl)) (fun _ => ?_)
                clear hK K
                try simp only [Act.put, List.getElem_toArray, List.getElem_cons_succ, List.getElem_cons_zero, List.setIfInBounds_toArray, List.set_cons_zero, List.set_cons_succ]
                refine wpAnyS_one (i := 11) (o := _) (by kernel_rfl) rfl (fun K hK => ?_)
                go_simp
                refine hK.out _ _ (Or.inl (by kernel_rfl)) (fun _ => ?_)
                clear hK K
                try simp only [Act.put, List.getElem_toArray, List.getElem_cons_succ, List.getElem_cons_zero, List.setIfInBounds_toArray, List.set_cons_zero, List.set_cons_succ]
                refine wpAnyS_done (by kernel_rfl) ?_ _
                generalize ((((((((wh2.setCell ⟨b5, 0, none⟩ (.slice XA.va XA.vn XA.vc)).setCell ⟨b5, 1, none⟩ (.slice XA.fa XA.fn XA.fc)).setCell ⟨b5, 2, none⟩ (.slice XA.ta XA.tn XA.tc)).setCell ⟨b5, 3, none⟩ (.slice XA.pa XA.pn XA.pc)).setCell ⟨b6, 0, none⟩ (.slice XB.va XB.vn XB.vc)).setCell ⟨b6, 1, none⟩ (.slice XB.fa XB.fn XB.fc)).setCell ⟨b6, 2, none⟩ (.slice XB.ta XB.tn XB.tc)).setCell ⟨b6, 3, none⟩ (.slice XB.pa XB.pn XB.pc)) = wz at RX ⊢
                clear q0 q1 q2 q3 r0 r1 r2 r3 f0 f1 f2 f3 e0 e1 e2 e3 I5 I6 OA OB N5 N6 KT
                have q0 := RX.out.i5.cell 0
                have q1 := RX.out.i5.cell 1
                have q2 := RX.out.i5.cell 2
                have q3 := RX.out.i5.cell 3
                dsimp at q0 q1 q2 q3
                have r0 := RX.out.i6.cell 0
                have r1 := RX.out.i6.cell 1
                have r2 := RX.out.i6.cell 2
                have r3 := RX.out.i6.cell 3
                dsimp at r0 r1 r2 r3
                go_wp2_with fail
                refine (requal_any wz XA XB L2 L2 RX.out.er.1 RX.out.er.2 (ez_of RX.out.er.1 SE2.out) (ez_of RX.out.er.2 SE2.out) true (by simp [sameE])).mono ?_
                rintro e wy ⟨rfl, g⟩
                replace RX := Lib.hid (RX.out.keep0 g)
                clear g q0 q1 q2 q3 r0 r1 r2 r3
                have c0 := RX.out.bp.cell 0
                have c1 := RX.out.bp.cell 1
                have c2 := RX.out.bp.cell 2
                have c3 := RX.out.bp.cell 3
                have c4 := RX.out.bp.cell 4
                have c5 := RX.out.bp.cell 5
                have c6 := RX.out.bp.cell 6
                have c7 := RX.out.bp.cell 7
                have c8 := RX.out.bp.cell 8
                dsimp at c0 c1 c2 c3 c4 c5 c6 c7 c8
                have q0 := RX.out.i5.cell 0
                have q1 := RX.out.i5.cell 1
                have q2 := RX.out.i5.cell 2
                have q3 := RX.out.i5.cell 3
                dsimp at q0 q1 q2 q3
                go_wp2_with fail
                refine (echeck_any wy nm v3 v4 v5 v6 v7 v8 ha ma hn hc mn mc H M (HD.out _ RX.out.g).1 (HD.out _ RX.out.g).2 XA L2 RX.out.er.1 (ez_of RX.out.er.1 SE2.out) HB.out DB.out 0 (chk_ok OK2.out)).mono ?_
                rintro e wx ⟨rfl, g⟩
                replace RX := Lib.hid (RX.out.keep0 g)
                clear g q0 q1 q2 q3 c0 c1 c2 c3 c4 c5 c6 c7 c8
                go_wp2
                go_roundw
                case rel => exact ⟨k + 1, XA, XB, L2, by omega, by first | rfl | (congr 1), RX.out, OK2.out, PE2.out⟩
                case measure => simp [intOf]; omega
          · have i1 : ¬ (k : Int) < an := by omega
            have GZ := Lib.hid RN1.out.g
            go_wp2_with fail
            refine (works_any _).mono ?_
            rintro e w3 ⟨rfl, g⟩
            have G3 := Lib.hid (gb_trans GZ.out g)
            clear g
            go_wp2
            go_ret
            exact ⟨rfl, G3.out⟩
  · have LP := Lib.hid (large_any w1 nm v3 v4 v5 v6 v7 v8 ha ma hn hc mn mc H M (HD.out _ GZ.out).1 (HD.out _ GZ.out).2 true ⟨fun e => (by cases e), fun q => absurd q sP⟩)
    clear sP
    go_wp2_with fail
    refine LP.out.mono ?_
    rintro e w2 ⟨rfl, g⟩
    replace GZ := Lib.hid (gb_trans GZ.out g)
    clear g
    go_wp2_with fail
    refine (works_any _).mono ?_
    rintro e w3 ⟨rfl, g⟩
    have G3 := Lib.hid (gb_trans GZ.out g)
    clear g
    go_wp2
    go_ret
    exact ⟨rfl, G3.out⟩
end Go.Proofs.Ytolifmpnhflegaa
