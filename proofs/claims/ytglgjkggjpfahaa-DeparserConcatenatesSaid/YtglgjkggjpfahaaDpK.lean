/- Deparser: three boxes made and filled in whatever order; a list that is cut in two; no condition. -/
import Derived.Test.YtglgjkggjpfahaaDpI
import Derived.Test.YtglgjkggjpfahaaOrT
namespace Go.Proofs.Ytglgjkggjpfahaa
open Go.RowKit
set_option linter.unusedVariables false
def INV3b (s1 s2 s3 : Nat) (t1 t2 t3 : TypeId) (r1 r2 r3 z1 z2 z3 : Array Value) (w0 : World) (a0 : Act) (l : Array Bool) (a : Act) (w : World) : Prop :=
  ∃ (f1 f2 f3 g1 g2 g3 : Bool) (v1 v2 v3 : Value), l = #[true, true, true, f1, f2, f3, g1, g2, g3] ∧
    a = ((a0.put (some s1) v1).put (some s2) v2).put (some s3) v3 ∧ w0.grownBy w none ∧ CH3 w0 w t1 f1 g1 v1 r1 z1 ∧ CH3 w0 w t2 f2 g2 v2 r2 z2 ∧ CH3 w0 w t3 f3 g3 v3 r3 z3 ∧
    (f1 = true → f2 = true → v1 ≠ v2) ∧ (f1 = true → f3 = true → v1 ≠ v3) ∧ (f2 = true → f3 = true → v2 ≠ v3) ∧ (f1 = false → g1 = false) ∧ (f2 = false → g2 = false) ∧ (f3 = false → g3 = false)
theorem wp_three2 {P : Program} {ops : Array Oper} {Q : Exit → Act → World → Prop} {md : Region.Mode} {S : World → Prop} {r1 r2 r3 z1 z2 z3 : Array Value} {s1 s2 s3 : Nat} {t1 t2 t3 : TypeId} (w0 : World) (a0 : Act) (w : World)
    (step : ∀ l a w, INV3b s1 s2 s3 t1 t2 t3 r1 r2 r3 z1 z2 z3 w0 a0 l a w → ∀ i, i ∈ Region.ready md ops l → wpOp P ops Q i (fun a' w' => S w' ∧ INV3b s1 s2 s3 t1 t2 t3 r1 r2 r3 z1 z2 z3 w0 a0 (l.setIfInBounds i true) a' w') a w)
    (fin : ∀ l a w, INV3b s1 s2 s3 t1 t2 t3 r1 r2 r3 z1 z2 z3 w0 a0 l a w → Region.ready md ops l = [] → Q .normal a w)
    (g0 : w0.grownBy w none) (h0 : a0 = ((a0.put (some s1) (a0.tmps.getD s1 undef)).put (some s2) (a0.tmps.getD s2 undef)).put (some s3) (a0.tmps.getD s3 undef)) :
    wpAnyH P md ops Q S 6 #[true, true, true, false, false, false, false, false, false] a0 w :=
  wpAnyH_inv _ step fin 6 _ _ _ ⟨false, false, false, false, false, false, _, _, _, rfl, h0, g0, (fun e => by cases e), (fun e => by cases e), (fun e => by cases e), (fun e => by cases e), (fun e => by cases e), (fun e => by cases e), fun _ => rfl, fun _ => rfl, fun _ => rfl⟩ (by decide)
theorem cut_dv {H : List (ByteArray × List Fld)} {M : List Fld} {D : List Int} {L : EL} (h : DV H M D L) (a : Nat) : DV H M (D.take a) ⟨L.V, L.F, L.T, []⟩ ∧ DV H M (D.drop a) L := by
  obtain ⟨d1, d2, d3⟩ := (dcOk_iff _ _).1 h.d
  refine ⟨⟨⟨h.e.1, h.e.2.1, h.e.2.2⟩, h.h, (dcOk_iff _ _).2 ⟨by rw [List.length_take]; omega, fun d hd => d2 d (List.mem_of_mem_take hd), List.Nodup.sublist (List.take_sublist _ _) d3⟩, h.r⟩,
    ⟨h.e, h.h, (dcOk_iff _ _).2 ⟨by rw [List.length_drop]; omega, fun d hd => d2 d (List.mem_of_mem_drop hd), List.Nodup.sublist (List.drop_sublist _ _) d3⟩, h.r⟩⟩
theorem cut_same {H : List (ByteArray × List Fld)} {M : List Fld} {D : List Int} {L : EL} (h : DV H M D L) (a : Nat) : emit H M (D.take a) ⟨L.V, L.F, L.T, []⟩ ++ emit H M (D.drop a) L = emit H M D L := by
  have hd := dv_isx h
  have m1 := flat_mod h.e h.h h.r (D.take a) (fun d q => hd d (List.mem_of_mem_take q))
  rw [emit_eq h, emit_eq (cut_dv h a).1, emit_eq (cut_dv h a).2]
  conv => rhs; rw [← List.take_append_drop a D]
  rw [List.flatMap_append, packB_app _ _ m1]
  simp
theorem si_drop {w : World} {ad : Addr} {n c : Nat} {L : List Int} (h : SI w (some ad) n c L) (m : Nat) (hm : m ≤ n) : SI w (some (if c = m then ad else ad.add m)) (n - m) (c - m) (L.drop m) := by
  have hl := h.len
  have hc := h.cap
  refine ⟨by rw [List.length_drop]; omega, (fun e => by cases e), by omega, fun a2 e j hj => ?_, fun x hx => h.rng x (List.mem_of_mem_drop hx)⟩
  injection e with e
  rw [if_neg (by omega)] at e
  subst e
  have q := h.cells ad rfl (m + j) (by omega)
  have e2 : (L.drop m).getD j 0 = L.getD (m + j) 0 := by rw [List.getD_eq_getElem?_getD, List.getElem?_drop, ← List.getD_eq_getElem?_getD]
  rw [e2, Addr.add_add]
  exact q
theorem strOf_app' (A B : List Int) : strOf A ++ strOf B = strOf (A ++ B) := by
  apply Lx.str_ext
  have e : (strOf A ++ strOf B).data.toList = (strOf A).data.toList ++ (strOf B).data.toList := by simp [ByteArray.data_append]
  rw [e, Lx.strOf_data, Lx.strOf_data, Lx.strOf_data, List.map_append]
theorem fill9x {W : World} {bq : Nat} {t : TypeId} {z0 z1 z2 z3 z4 z5 z6 z7 z8 : Value} (h : IsB W bq t #[z0, z1, z2, z3, z4, z5, z6, z7, z8]) (v0 v1 v2 v3 v4 v5 v6 v7 v8 : Value) : IsB (((((((((World.setCell W ⟨bq, 0, none⟩ v0).setCell ⟨bq, 1, none⟩ v1).setCell ⟨bq, 2, none⟩ v2).setCell ⟨bq, 3, none⟩ v3).setCell ⟨bq, 4, none⟩ v4).setCell ⟨bq, 5, none⟩ v5).setCell ⟨bq, 6, none⟩ v6).setCell ⟨bq, 7, none⟩ v7).setCell ⟨bq, 8, none⟩ v8) bq t #[v0, v1, v2, v3, v4, v5, v6, v7, v8] :=
  by
  have h1 : IsB (World.setCell W ⟨bq, 0, none⟩ v0) bq t #[v0, z1, z2, z3, z4, z5, z6, z7, z8] := h.set 0 v0
  have h2 : IsB ((World.setCell W ⟨bq, 0, none⟩ v0).setCell ⟨bq, 1, none⟩ v1) bq t #[v0, v1, z2, z3, z4, z5, z6, z7, z8] := h1.set 1 v1
  have h3 : IsB (((World.setCell W ⟨bq, 0, none⟩ v0).setCell ⟨bq, 1, none⟩ v1).setCell ⟨bq, 2, none⟩ v2) bq t #[v0, v1, v2, z3, z4, z5, z6, z7, z8] := h2.set 2 v2
  have h4 : IsB ((((World.setCell W ⟨bq, 0, none⟩ v0).setCell ⟨bq, 1, none⟩ v1).setCell ⟨bq, 2, none⟩ v2).setCell ⟨bq, 3, none⟩ v3) bq t #[v0, v1, v2, v3, z4, z5, z6, z7, z8] := h3.set 3 v3
  have h5 : IsB (((((World.setCell W ⟨bq, 0, none⟩ v0).setCell ⟨bq, 1, none⟩ v1).setCell ⟨bq, 2, none⟩ v2).setCell ⟨bq, 3, none⟩ v3).setCell ⟨bq, 4, none⟩ v4) bq t #[v0, v1, v2, v3, v4, z5, z6, z7, z8] := h4.set 4 v4
  have h6 : IsB ((((((World.setCell W ⟨bq, 0, none⟩ v0).setCell ⟨bq, 1, none⟩ v1).setCell ⟨bq, 2, none⟩ v2).setCell ⟨bq, 3, none⟩ v3).setCell ⟨bq, 4, none⟩ v4).setCell ⟨bq, 5, none⟩ v5) bq t #[v0, v1, v2, v3, v4, v5, z6, z7, z8] := h5.set 5 v5
  have h7 : IsB (((((((World.setCell W ⟨bq, 0, none⟩ v0).setCell ⟨bq, 1, none⟩ v1).setCell ⟨bq, 2, none⟩ v2).setCell ⟨bq, 3, none⟩ v3).setCell ⟨bq, 4, none⟩ v4).setCell ⟨bq, 5, none⟩ v5).setCell ⟨bq, 6, none⟩ v6) bq t #[v0, v1, v2, v3, v4, v5, v6, z7, z8] := h6.set 6 v6
  have h8 : IsB ((((((((World.setCell W ⟨bq, 0, none⟩ v0).setCell ⟨bq, 1, none⟩ v1).setCell ⟨bq, 2, none⟩ v2).setCell ⟨bq, 3, none⟩ v3).setCell ⟨bq, 4, none⟩ v4).setCell ⟨bq, 5, none⟩ v5).setCell ⟨bq, 6, none⟩ v6).setCell ⟨bq, 7, none⟩ v7) bq t #[v0, v1, v2, v3, v4, v5, v6, v7, z8] := h7.set 7 v7
  have h9 : IsB (((((((((World.setCell W ⟨bq, 0, none⟩ v0).setCell ⟨bq, 1, none⟩ v1).setCell ⟨bq, 2, none⟩ v2).setCell ⟨bq, 3, none⟩ v3).setCell ⟨bq, 4, none⟩ v4).setCell ⟨bq, 5, none⟩ v5).setCell ⟨bq, 6, none⟩ v6).setCell ⟨bq, 7, none⟩ v7).setCell ⟨bq, 8, none⟩ v8) bq t #[v0, v1, v2, v3, v4, v5, v6, v7, v8] := h8.set 8 v8
  exact h9
theorem far9x {W : World} {bq b : Nat} {t : TypeId} {cs : Array Value} (h : IsB W b t cs) (hn : b ≠ bq) (v0 v1 v2 v3 v4 v5 v6 v7 v8 : Value) : IsB (((((((((World.setCell W ⟨bq, 0, none⟩ v0).setCell ⟨bq, 1, none⟩ v1).setCell ⟨bq, 2, none⟩ v2).setCell ⟨bq, 3, none⟩ v3).setCell ⟨bq, 4, none⟩ v4).setCell ⟨bq, 5, none⟩ v5).setCell ⟨bq, 6, none⟩ v6).setCell ⟨bq, 7, none⟩ v7).setCell ⟨bq, 8, none⟩ v8) b t cs :=
  (((((((((h).set_far hn 0 v0).set_far hn 1 v1).set_far hn 2 v2).set_far hn 3 v3).set_far hn 4 v4).set_far hn 5 v5).set_far hn 6 v6).set_far hn 7 v7).set_far hn 8 v8
theorem grow9x {W0 W : World} {bq : Nat} (h : W0.grownBy W none) (hb : W0.heap.size ≤ bq) (v0 v1 v2 v3 v4 v5 v6 v7 v8 : Value) : W0.grownBy (((((((((World.setCell W ⟨bq, 0, none⟩ v0).setCell ⟨bq, 1, none⟩ v1).setCell ⟨bq, 2, none⟩ v2).setCell ⟨bq, 3, none⟩ v3).setCell ⟨bq, 4, none⟩ v4).setCell ⟨bq, 5, none⟩ v5).setCell ⟨bq, 6, none⟩ v6).setCell ⟨bq, 7, none⟩ v7).setCell ⟨bq, 8, none⟩ v8) none :=
  gb_put (gb_put (gb_put (gb_put (gb_put (gb_put (gb_put (gb_put (gb_put (h) hb) hb) hb) hb) hb) hb) hb) hb) hb
theorem fill4x {W : World} {bq : Nat} {t : TypeId} {z0 z1 z2 z3 : Value} (h : IsB W bq t #[z0, z1, z2, z3]) (v0 v1 v2 v3 : Value) : IsB ((((World.setCell W ⟨bq, 0, none⟩ v0).setCell ⟨bq, 1, none⟩ v1).setCell ⟨bq, 2, none⟩ v2).setCell ⟨bq, 3, none⟩ v3) bq t #[v0, v1, v2, v3] :=
  by
  have h1 : IsB (World.setCell W ⟨bq, 0, none⟩ v0) bq t #[v0, z1, z2, z3] := h.set 0 v0
  have h2 : IsB ((World.setCell W ⟨bq, 0, none⟩ v0).setCell ⟨bq, 1, none⟩ v1) bq t #[v0, v1, z2, z3] := h1.set 1 v1
  have h3 : IsB (((World.setCell W ⟨bq, 0, none⟩ v0).setCell ⟨bq, 1, none⟩ v1).setCell ⟨bq, 2, none⟩ v2) bq t #[v0, v1, v2, z3] := h2.set 2 v2
  have h4 : IsB ((((World.setCell W ⟨bq, 0, none⟩ v0).setCell ⟨bq, 1, none⟩ v1).setCell ⟨bq, 2, none⟩ v2).setCell ⟨bq, 3, none⟩ v3) bq t #[v0, v1, v2, v3] := h3.set 3 v3
  exact h4
theorem far4x {W : World} {bq b : Nat} {t : TypeId} {cs : Array Value} (h : IsB W b t cs) (hn : b ≠ bq) (v0 v1 v2 v3 : Value) : IsB ((((World.setCell W ⟨bq, 0, none⟩ v0).setCell ⟨bq, 1, none⟩ v1).setCell ⟨bq, 2, none⟩ v2).setCell ⟨bq, 3, none⟩ v3) b t cs :=
  ((((h).set_far hn 0 v0).set_far hn 1 v1).set_far hn 2 v2).set_far hn 3 v3
theorem grow4x {W0 W : World} {bq : Nat} (h : W0.grownBy W none) (hb : W0.heap.size ≤ bq) (v0 v1 v2 v3 : Value) : W0.grownBy ((((World.setCell W ⟨bq, 0, none⟩ v0).setCell ⟨bq, 1, none⟩ v1).setCell ⟨bq, 2, none⟩ v2).setCell ⟨bq, 3, none⟩ v3) none :=
  gb_put (gb_put (gb_put (gb_put (h) hb) hb) hb) hb
end Go.Proofs.Ytglgjkggjpfahaa
