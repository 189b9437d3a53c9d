/- Deparser: the law Omits; no condition. -/
import Derived.Test.YtglgjkggjpfahaaDpH
import Derived.Test.YtglgjkggjpfahaaOrS
import Derived.BigQuiet
import Derived.Deep.RegionHeld
namespace Go.Proofs.Ytglgjkggjpfahaa
open Go.RowKit
set_option linter.unusedVariables false
theorem dcOk_iff (nh : Nat) (D : List Int) : dcOk nh D ↔ D.length ≤ 8 ∧ (∀ d ∈ D, isX d nh = true) ∧ D.Nodup := by
  have key : ∀ i, i < D.length → (dpX nh D i = 0 ↔ isX (D.getD i 0) nh = true ∧ D.getD i 0 ∉ D.take i) := fun i hi => by
    unfold dpX
    split
    · rename_i h
      split
      · rename_i q; exact ⟨fun e => by omega, fun e => absurd q e.2⟩
      · rename_i q; exact ⟨fun _ => ⟨h, q⟩, fun _ => rfl⟩
    · rename_i h; exact ⟨fun e => by omega, fun e => absurd e.1 h⟩
  have gd : ∀ i (h : i < D.length), D.getD i 0 = D[i] := fun i h => by simp [h]
  unfold dcOk
  constructor
  · intro ⟨h1, h2⟩
    refine ⟨h1, fun d hd => ?_, ?_⟩
    · obtain ⟨i, hi, rfl⟩ := List.mem_iff_getElem.1 hd
      have := ((key i hi).1 (h2 i hi)).1
      rwa [gd i hi] at this
    · refine List.pairwise_iff_getElem.2 fun i j hi hj hij e => ?_
      have := ((key j hj).1 (h2 j hj)).2
      rw [gd j hj] at this
      refine this ?_
      rw [List.mem_take_iff_getElem]
      exact ⟨i, by omega, e⟩
  · intro ⟨h1, h2, h3⟩
    refine ⟨h1, fun i hi => (key i hi).2 ⟨?_, fun hm => ?_⟩⟩
    · rw [gd i hi]; exact h2 _ (List.getElem_mem hi)
    · rw [gd i hi, List.mem_take_iff_getElem] at hm
      obtain ⟨j, hj, e⟩ := hm
      exact List.pairwise_iff_getElem.1 h3 j i (by omega) hi (by omega) e
/-- What the law has gathered ahead of element k: all but element a. -/
def skL (D : List Int) (a k : Nat) : List Int := if k ≤ a then D.take k else D.take a ++ (D.drop (a + 1)).take (k - (a + 1))
theorem skL_zero (D : List Int) (a : Nat) : skL D a 0 = [] := by simp [skL]
theorem skL_same (D : List Int) (a : Nat) : skL D a (a + 1) = skL D a a := by
  unfold skL
  rw [if_neg (by omega), if_pos (Nat.le_refl _)]
  simp
theorem skL_next (D : List Int) (a k : Nat) (hk : k < D.length) (hn : k ≠ a) : skL D a (k + 1) = skL D a k ++ [D.getD k 0] := by
  unfold skL
  by_cases h : k < a
  · rw [if_pos (by omega), if_pos (by omega), take_one D 0 k hk]
  · rw [if_neg (by omega), if_neg (by omega), show k + 1 - (a + 1) = (k - (a + 1)) + 1 by omega, take_one (D.drop (a + 1)) 0 (k - (a + 1)) (by rw [List.length_drop]; omega), List.append_assoc]
    congr 2
    rw [List.getD_eq_getElem?_getD, List.getElem?_drop, show a + 1 + (k - (a + 1)) = k by omega, ← List.getD_eq_getElem?_getD]
theorem skL_len (D : List Int) (a k : Nat) : (skL D a k).length ≤ k := by
  unfold skL
  split
  · rw [List.length_take]; omega
  · rw [List.length_append, List.length_take, List.length_take]; omega
theorem skL_all (D : List Int) (a : Nat) (ha : a < D.length) : skL D a D.length = D.take a ++ D.drop (a + 1) := by
  unfold skL
  rw [if_neg (by omega)]
  congr 1
  exact List.take_of_length_le (by rw [List.length_drop]; omega)
theorem skL_sub (D : List Int) (a k : Nat) : ∀ x ∈ skL D a k, x ∈ D := by
  intro x hx
  unfold skL at hx
  split at hx
  · exact List.mem_of_mem_take hx
  · rcases List.mem_append.1 hx with q | q
    · exact List.mem_of_mem_take q
    · exact List.mem_of_mem_drop (List.mem_of_mem_take q)
theorem cut_list (D : List Int) (a : Nat) (ha : a < D.length) : D = D.take a ++ (D.getD a 0 :: D.drop (a + 1)) := by
  have : D.getD a 0 = D[a] := by simp [ha]
  rw [this]; simp
theorem omit_dv {H : List (ByteArray × List Fld)} {M : List Fld} {D : List Int} {L : EL} (h : DV H M D L) (a : Nat) (ha : a < D.length) : DV H M (skL D a D.length) L := by
  obtain ⟨d1, d2, d3⟩ := (dcOk_iff _ _).1 h.d
  refine ⟨h.e, h.h, (dcOk_iff _ _).2 ⟨?_, fun d hd => d2 d (skL_sub D a _ d hd), ?_⟩, h.r⟩
  · have := skL_len D a D.length; omega
  · rw [skL_all D a ha]
    have e := cut_list D a ha
    rw [e] at d3
    refine List.Nodup.sublist ?_ d3
    exact List.Sublist.append (List.Sublist.refl _) (List.sublist_cons_self _ _)
theorem omit_same {H : List (ByteArray × List Fld)} {M : List Fld} {D : List Int} {L : EL} (h : DV H M D L) (a n : Nat) (ha : a < D.length) (hn : D.getD a 0 = (n : Int)) (hv : L.V.getD n false = false) : emit H M (skL D a D.length) L = emit H M D L := by
  rw [emit_eq h, emit_eq (omit_dv h a ha)]
  congr 2
  have eb : btD H L.V L.F (n : Int) = [] := by rw [bt_eq, if_neg (by rw [hv]; simp)]
  conv => rhs; rw [cut_list D a ha]
  rw [skL_all D a ha, List.flatMap_append, List.flatMap_append, List.flatMap_cons, hn, eb, List.nil_append]
/-- The state of the law's loop. -/
structure OmS (W : World) (PC EC QC : Array Value) (bx b7 base : Nat) (Vq : Value) (X : List Int) (w : World) : Prop where
  p : IsB w bx 31 PC
  e : IsB w (bx + 1) 42 EC
  q : IsB w b7 31 QC
  o : w.ownsRow base 3 1 Vq X.length (X.map (Value.int .i64))
  g : W.grownBy w none
  n : b7 ≠ bx
  lo : W.heap.size ≤ b7
  lb : W.heap.size ≤ base
  hi : base ≤ w.heap.size
theorem wpAnyH_more {P : Program} {md : Region.Mode} {ops : Array Oper} {Q : Exit → Act → World → Prop} {S S2 : World → Prop} (hS : ∀ w, S2 w → S w) : ∀ (fuel : Nat) (listed : Array Bool) (a : Act) (w : World), wpAnyH P md ops Q S2 fuel listed a w → wpAnyH P md ops Q S fuel listed a w
  | 0, _, _, _, h => h
  | fuel + 1, _, _, _, h => ⟨h.1, fun i hi => wpOp_mono (fun a' w' h' => ⟨hS w' h'.1, wpAnyH_more hS fuel _ a' w' h'.2⟩) (h.2 i hi)⟩
theorem si_own {w : World} {base : Nat} {a : Option Addr} {n c : Nat} {X : List Int} (h : w.ownsRow base 3 1 (.slice a n c) X.length (X.map (Value.int .i64))) (r : ∀ x ∈ X, -9223372036854775808 ≤ x ∧ x ≤ 9223372036854775807) : SI w a n c X := by
  obtain ⟨a2, c2, e⟩ := own_shape h
  injection e with e1 e2 e3
  subst e1; subst e2; subst e3
  obtain ⟨s1, s2, s3⟩ := own_slr h
  exact ⟨rfl, s2, own_cap h, fun ad e j hj => s3 ad e j _ (by rw [List.getElem?_map, List.getElem?_eq_getElem hj]; simp [hj]), r⟩
theorem OmS.keep0 {W : World} {PC EC QC : Array Value} {bx b7 base : Nat} {Vq : Value} {X : List Int} {w w2 : World} (h : OmS W PC EC QC bx b7 base Vq X w) (k : w.grownBy w2 none) : OmS W PC EC QC bx b7 base Vq X w2 :=
  ⟨h.p.keep0 k, h.e.keep0 k, h.q.keep0 k, own_keep0 h.o k, gb_trans h.g k, h.n, h.lo, h.lb, Nat.le_trans h.hi k.size⟩
theorem OmS.push {W : World} {PC EC QC : Array Value} {bx b7 base : Nat} {Vq V2 : Value} {X Y : List Int} {w w2 : World} (h : OmS W PC EC QC bx b7 base Vq X w) (k : w.grownBy w2 Vq.ownBlock) (o : w2.ownsRow base 3 1 V2 Y.length (Y.map (Value.int .i64))) : OmS W PC EC QC bx b7 base V2 Y w2 :=
  ⟨isb_past h.p h.o (by decide) k, isb_past h.e h.o (by decide) k, isb_past h.q h.o (by decide) k, o, gb_own2 h.g h.o h.lb k, h.n, h.lo, h.lb, Nat.le_trans h.hi k.size⟩
theorem OmS.store {W : World} {PC EC QC : Array Value} {bx b7 base : Nat} {Vq : Value} (V2 : Value) {X : List Int} {w : World} (h : OmS W PC EC QC bx b7 base Vq X w) : OmS W PC EC (QC.setIfInBounds 8 V2) bx b7 base Vq X (w.setCell ⟨b7, 8, none⟩ V2) := by
  have ne2 : bx + 1 ≠ b7 := h.e.ne h.q (by decide)
  refine ⟨h.p.keep (gb_set _ _ _ _) (by intro e; injection e with e; exact h.n e.symm), h.e.keep (gb_set _ _ _ _) (by intro e; injection e with e; exact ne2 e), h.q.set 8 V2, own_keepS h.o (gb_set _ _ _ _) h.q (by decide), gb_put h.g h.lo, h.n, h.lo, h.lb, by rw [sz_set]; exact h.hi⟩
/-- A number appended to numbers of the call's own, in a region that draws its order. -/
theorem istep_any {ops : Array Oper} {o : Oper} {a : Act} {w : World} {K : Act → World → Prop} {Q : Exit → Act → World → Prop} {Z : Prop} (hgd : o.guard = none) (s x : Operand)
    (ho : o.op = .call { callee := .builtin .append, args := #[s, x], argTypes := #[29, 29] }) (base : Nat) (V : Value) (L : List Int) (hs : a.eval s = V) (hown : w.ownsRow base 3 1 V L.length (L.map (Value.int .i64)))
    (ad : Addr) (v : Int) (hx : a.eval x = .slice (some ad) 1 1) (hM : w.cell? ad = some (.int .i64 v)) (hlen : L.length ≤ 100000) (hbase : base ≤ w.heap.size)
    (h : ∀ V' w', w'.ownsRow base 3 1 V' (L ++ [v]).length ((L ++ [v]).map (Value.int .i64)) → w.grownBy w' V.ownBlock → K (a.put o.dst V') w') : if Region.wanted o (yielded ops a.tmps) = true then Oper.wp Try.prog o a w K Q else Z := by
  have hw : Region.wanted o (yielded ops a.tmps) = true := by simp [Region.wanted, hgd]
  rw [if_pos hw]
  obtain ⟨i0, hi, hz0, hz1, hz2⟩ := info_parts infoI64'
  refine wp_append_own w s x 29 ho base 3 i0 (.int .i64 0) 1 8 Try.underlying29 hi hz0 hz1 hz2 rfl (by decide) V _ _ hs hown ad 1 1 [.int .i64 v] hx rfl (by
    intro j u hu
    cases j with
    | zero => simp at hu; subst hu; have e : ad.add 0 = ad := by simp [Addr.add]
              rw [e]; exact hM
    | succ i => simp at hu) (by intro u hu; simp at hu; subst hu; rfl) (by unfold maxLen; omega) (by omega) hbase ?_
  intro V' w' h1 h2 h3
  exact h V' w' (by simpa using h1) h2
set_option maxRecDepth 100000 in
set_option maxHeartbeats 20000000 in
theorem omits_on (w : World) (nm : ByteArray) (r1 a1 t1 s1 k1 : Option Addr) (r2 r3 a2 a3 t2 t3 s2 s3 k2 k3 : Nat) (ha ma da : Option Addr) (hn hc mn mc dn dc : Nat) (va fa ta pa : Option Addr) (vn vc fn fc tn tc pn pc : Nat) (H : List (ByteArray × List Fld)) (M : List Fld) (D : List Int) (L : EL) (hH : SH w ha hn hc H) (hM : SF w ma mn mc M) (hD : SI w da dn dc D) (he : ER w ⟨va, fa, ta, pa, vn, vc, fn, fc, tn, tc, pn, pc⟩ L) (hnm : ∀ x ∈ H, x.1.size ≤ 9223372036854775807 ∧ ∀ p ∈ x.2, p.1.size ≤ 9223372036854775807) (at_ : Int) : Calls Try.prog 10 #[.agg #[.string nm, .slice ha hn hc, .slice ma mn mc, .slice r1 r2 r3, .slice a1 a2 a3, .slice t1 t2 t3, .slice s1 s2 s3, .slice k1 k2 k3, .slice da dn dc], .agg #[.slice va vn vc, .slice fa fn fc, .slice ta tn tc, .slice pa pn pc], .int .i64 at_] w (RetV (.bool true) w) := by
  have S0 := Lib.hid (⟨hH, hM, hD, he⟩ : SH w ha hn hc H ∧ SF w ma mn mc M ∧ SI w da dn dc D ∧ ER w ⟨va, fa, ta, pa, vn, vc, fn, fc, tn, tc, pn, pc⟩ L)
  have NM := Lib.hid hnm
  have K1 := Lib.hid (fun (W : World) (q : w.grownBy W none) => dright_any W (.string nm) (.slice r1 r2 r3) (.slice a1 a2 a3) (.slice t1 t2 t3) (.slice s1 s2 s3) (.slice k1 k2 k3) ha ma da hn hc mn mc dn dc va fa ta pa vn vc fn fc tn tc pn pc H M D L (hH.keep0 q) (hM.keep0 q) (hD.keep0 q) (he.keep0 q) hnm)
  have G1 := Lib.hid (gb_trans (gb_alloc w (.cells #[.string nm, .slice ha hn hc, .slice ma mn mc, .slice r1 r2 r3, .slice a1 a2 a3, .slice t1 t2 t3, .slice s1 s2 s3, .slice k1 k2 k3, .slice da dn dc] 31) none) (gb_alloc _ (.cells #[.slice va vn vc, .slice fa fn fc, .slice ta tn tc, .slice pa pn pc] 42) none))
  have B1 := (IsB.new w 31 #[.string nm, .slice ha hn hc, .slice ma mn mc, .slice r1 r2 r3, .slice a1 a2 a3, .slice t1 t2 t3, .slice s1 s2 s3, .slice k1 k2 k3, .slice da dn dc]).alloc (.cells #[.slice va vn vc, .slice fa fn fc, .slice ta tn tc, .slice pa pn pc] 42)
  have B2 := IsB.new (w.alloc (.cells #[.string nm, .slice ha hn hc, .slice ma mn mc, .slice r1 r2 r3, .slice a1 a2 a3, .slice t1 t2 t3, .slice s1 s2 s3, .slice k1 k2 k3, .slice da dn dc] 31)) 42 #[.slice va vn vc, .slice fa fn fc, .slice ta tn tc, .slice pa pn pc]
  simp only [sz_al] at B2
  replace B1 := Lib.hid B1
  replace B2 := Lib.hid B2
  clear hH hM hD he hnm
  go_enter Try.func10, Try.ntmps10
  go_upto_region 1 with fail
  generalize (w.alloc (.cells #[.string nm, .slice ha hn hc, .slice ma mn mc, .slice r1 r2 r3, .slice a1 a2 a3, .slice t1 t2 t3, .slice s1 s2 s3, .slice k1 k2 k3, .slice da dn dc] 31)).alloc (.cells #[.slice va vn vc, .slice fa fn fc, .slice ta tn tc, .slice pa pn pc] 42) = w1 at *
  obtain ⟨bx, hbx⟩ : ∃ b, b = w.heap.size := ⟨_, rfl⟩
  have Lbx := Lib.hid (show w.heap.size ≤ bx by rw [hbx]; exact Nat.le_refl _)
  rw [← hbx] at B1 B2 ⊢
  clear hbx
  have KQ := Lib.hid (fun (w' : World) (q0 : w1.grownBy w' none) => (⟨(B1.out.keep0 q0).cell 0, (B1.out.keep0 q0).cell 1, (B1.out.keep0 q0).cell 2, (B1.out.keep0 q0).cell 3, (B1.out.keep0 q0).cell 4, (B1.out.keep0 q0).cell 5, (B1.out.keep0 q0).cell 6, (B1.out.keep0 q0).cell 7, (B1.out.keep0 q0).cell 8, (B2.out.keep0 q0).cell 0, (B2.out.keep0 q0).cell 1, (B2.out.keep0 q0).cell 2, (B2.out.keep0 q0).cell 3, q0⟩ : (fun w' : World => w'.cell? ⟨bx, 0, none⟩ = some (.string nm) ∧ w'.cell? ⟨bx, 1, none⟩ = some (.slice ha hn hc) ∧ w'.cell? ⟨bx, 2, none⟩ = some (.slice ma mn mc) ∧ w'.cell? ⟨bx, 3, none⟩ = some (.slice r1 r2 r3) ∧ w'.cell? ⟨bx, 4, none⟩ = some (.slice a1 a2 a3) ∧ w'.cell? ⟨bx, 5, none⟩ = some (.slice t1 t2 t3) ∧ w'.cell? ⟨bx, 6, none⟩ = some (.slice s1 s2 s3) ∧ w'.cell? ⟨bx, 7, none⟩ = some (.slice k1 k2 k3) ∧ w'.cell? ⟨bx, 8, none⟩ = some (.slice da dn dc) ∧ w'.cell? ⟨bx + 1, 0, none⟩ = some (.slice va vn vc) ∧ w'.cell? ⟨bx + 1, 1, none⟩ = some (.slice fa fn fc) ∧ w'.cell? ⟨bx + 1, 2, none⟩ = some (.slice ta tn tc) ∧ w'.cell? ⟨bx + 1, 3, none⟩ = some (.slice pa pn pc) ∧ w1.grownBy w' none) w'))
  have Q0 := Lib.hid (gb_drew w1 none)
  refine wp_region_held_drew (S := (fun w' : World => w'.cell? ⟨bx, 0, none⟩ = some (.string nm) ∧ w'.cell? ⟨bx, 1, none⟩ = some (.slice ha hn hc) ∧ w'.cell? ⟨bx, 2, none⟩ = some (.slice ma mn mc) ∧ w'.cell? ⟨bx, 3, none⟩ = some (.slice r1 r2 r3) ∧ w'.cell? ⟨bx, 4, none⟩ = some (.slice a1 a2 a3) ∧ w'.cell? ⟨bx, 5, none⟩ = some (.slice t1 t2 t3) ∧ w'.cell? ⟨bx, 6, none⟩ = some (.slice s1 s2 s3) ∧ w'.cell? ⟨bx, 7, none⟩ = some (.slice k1 k2 k3) ∧ w'.cell? ⟨bx, 8, none⟩ = some (.slice da dn dc) ∧ w'.cell? ⟨bx + 1, 0, none⟩ = some (.slice va vn vc) ∧ w'.cell? ⟨bx + 1, 1, none⟩ = some (.slice fa fn fc) ∧ w'.cell? ⟨bx + 1, 2, none⟩ = some (.slice ta tn tc) ∧ w'.cell? ⟨bx + 1, 3, none⟩ = some (.slice pa pn pc) ∧ w1.grownBy w' none)) (by kernel_rfl) (KQ.out _ Q0.out) (fun hH0 => ?_)
  refine wpAnyH_take (i := 0) (v := ?v1) rfl (by kernel_rfl) (by kernel_rfl) (by kernel_rfl) (fun _ _ _ h => h) (Or.inl ⟨by rfl, ?hy1⟩) (by assumption) ?rest1
  case hy1 => (intro wz hSw; (try dsimp only at hSw); first | (go_simp; done) | (go_simp; with_reducible rfl))
  try simp only [Act.put, List.getElem_toArray, List.getElem_cons_zero, List.setIfInBounds_toArray, List.set_cons_zero, List.set_cons_succ]
  refine wpAnyH_take (i := 1) (v := ?v2) rfl (by kernel_rfl) (by kernel_rfl) (by kernel_rfl) (fun _ _ _ h => h) (Or.inl ⟨by rfl, ?hy2⟩) (by assumption) ?rest2
  case hy2 => (intro wz hSw; (try dsimp only at hSw); first | (go_simp; done) | (go_simp; with_reducible rfl))
  try simp only [Act.put, List.getElem_toArray, List.getElem_cons_succ, List.getElem_cons_zero, List.setIfInBounds_toArray, List.set_cons_zero, List.set_cons_succ]
  refine wpAnyH_ready (rs := [2]) (by kernel_rfl) (by simp) ?_
  refine AllReadyH.cons (o := _) rfl (fun K hK => ?_) AllReadyH.nil
  go_simp
  (with_reducible refine (K1.out _ (gb_trans G1.out Q0.out)).mono ?_)
  rintro e qw1 ⟨b, rfl, g, hb⟩
  have HB := Lib.hid hb
  clear hb
  have Q1 := Lib.hid (gb_trans Q0.out g)
  clear g
  try dsimp only
  refine hK.out _ _ (KQ.out _ Q1.out) (fun hH1 => ?_)
  clear hK K hH0
  try simp only [Act.put, List.getElem_toArray, List.getElem_cons_succ, List.getElem_cons_zero, List.setIfInBounds_toArray, List.set_cons_zero, List.set_cons_succ]
  have GX := Lib.hid (gb_trans G1.out Q1.out)
  cases b
  · refine wpAnyH_take (i := 3) (v := ?v3) rfl (by kernel_rfl) (by kernel_rfl) (by kernel_rfl) (fun _ _ _ h => h) (Or.inl ⟨by rfl, ?hy3⟩) (by assumption) ?rest3
    case hy3 => (intro wz hSw; (try dsimp only at hSw); first | (go_simp; done) | (go_simp; with_reducible rfl))
    try simp only [Act.put, List.getElem_toArray, List.getElem_cons_succ, List.getElem_cons_zero, List.setIfInBounds_toArray, List.set_cons_zero, List.set_cons_succ]
    refine wpAnyH_take (i := 4) (v := ?v4) rfl (by kernel_rfl) (by kernel_rfl) (by kernel_rfl) (fun _ _ _ h => h) (Or.inl ⟨by rfl, ?hy4⟩) (by assumption) ?rest4
    case hy4 => (intro wz hSw; (try dsimp only at hSw); first | (go_simp; done) | (go_simp; with_reducible rfl))
    try simp only [Act.put, List.getElem_toArray, List.getElem_cons_succ, List.getElem_cons_zero, List.setIfInBounds_toArray, List.set_cons_zero, List.set_cons_succ]
    refine wpAnyH_take (i := 5) (v := undef) rfl (by kernel_rfl) (by kernel_rfl) (by kernel_rfl) (fun _ _ _ h => h) (Or.inr ⟨by rfl, rfl⟩) (by assumption) ?_
    try simp only [Act.put, List.getElem_toArray, List.getElem_cons_succ, List.getElem_cons_zero, List.setIfInBounds_toArray, List.set_cons_zero, List.set_cons_succ]
    refine wpAnyH_take (i := 6) (v := undef) rfl (by kernel_rfl) (by kernel_rfl) (by kernel_rfl) (fun _ _ _ h => h) (Or.inr ⟨by rfl, rfl⟩) (by assumption) ?_
    try simp only [Act.put, List.getElem_toArray, List.getElem_cons_succ, List.getElem_cons_zero, List.setIfInBounds_toArray, List.set_cons_zero, List.set_cons_succ]
    refine wpAnyH_take (i := 7) (v := ?v5) rfl (by kernel_rfl) (by kernel_rfl) (by kernel_rfl) (fun _ _ _ h => h) (Or.inl ⟨by rfl, ?hy5⟩) (by assumption) ?rest5
    case hy5 => (intro wz hSw; (try dsimp only at hSw); first | (go_simp; done) | (go_simp; with_reducible rfl))
    try simp only [Act.put, List.getElem_toArray, List.getElem_cons_succ, List.getElem_cons_zero, List.setIfInBounds_toArray, List.set_cons_zero, List.set_cons_succ]
    refine wpAnyH_take (i := 8) (v := ?v6) rfl (by kernel_rfl) (by kernel_rfl) (by kernel_rfl) (fun _ _ _ h => h) (Or.inl ⟨by rfl, ?hy6⟩) (by assumption) ?rest6
    case hy6 => (intro wz hSw; (try dsimp only at hSw); first | (go_simp; done) | (go_simp; with_reducible rfl))
    try simp only [Act.put, List.getElem_toArray, List.getElem_cons_succ, List.getElem_cons_zero, List.setIfInBounds_toArray, List.set_cons_zero, List.set_cons_succ]
    refine wpAnyH_take (i := 9) (v := undef) rfl (by kernel_rfl) (by kernel_rfl) (by kernel_rfl) (fun _ _ _ h => h) (Or.inr ⟨by rfl, rfl⟩) (by assumption) ?_
    try simp only [Act.put, List.getElem_toArray, List.getElem_cons_succ, List.getElem_cons_zero, List.setIfInBounds_toArray, List.set_cons_zero, List.set_cons_succ]
    refine wpAnyH_take (i := 10) (v := undef) rfl (by kernel_rfl) (by kernel_rfl) (by kernel_rfl) (fun _ _ _ h => h) (Or.inr ⟨by rfl, rfl⟩) (by assumption) ?_
    try simp only [Act.put, List.getElem_toArray, List.getElem_cons_succ, List.getElem_cons_zero, List.setIfInBounds_toArray, List.set_cons_zero, List.set_cons_succ]
    refine wpAnyH_take (i := 11) (v := undef) rfl (by kernel_rfl) (by kernel_rfl) (by kernel_rfl) (fun _ _ _ h => h) (Or.inr ⟨by rfl, rfl⟩) (by assumption) ?_
    try simp only [Act.put, List.getElem_toArray, List.getElem_cons_succ, List.getElem_cons_zero, List.setIfInBounds_toArray, List.set_cons_zero, List.set_cons_succ]
    refine wpAnyH_take (i := 12) (v := undef) rfl (by kernel_rfl) (by kernel_rfl) (by kernel_rfl) (fun _ _ _ h => h) (Or.inr ⟨by rfl, rfl⟩) (by assumption) ?_
    try simp only [Act.put, List.getElem_toArray, List.getElem_cons_succ, List.getElem_cons_zero, List.setIfInBounds_toArray, List.set_cons_zero, List.set_cons_succ]
    refine wpAnyH_take (i := 13) (v := undef) rfl (by kernel_rfl) (by kernel_rfl) (by kernel_rfl) (fun _ _ _ h => h) (Or.inr ⟨by rfl, rfl⟩) (by assumption) ?_
    try simp only [Act.put, List.getElem_toArray, List.getElem_cons_succ, List.getElem_cons_zero, List.setIfInBounds_toArray, List.set_cons_zero, List.set_cons_succ]
    refine wpAnyH_take (i := 14) (v := ?v7) rfl (by kernel_rfl) (by kernel_rfl) (by kernel_rfl) (fun _ _ _ h => h) (Or.inl ⟨by rfl, ?hy7⟩) (by assumption) ?rest7
    case hy7 => (intro wz hSw; (try dsimp only at hSw); first | (go_simp; done) | (go_simp; with_reducible rfl))
    try simp only [Act.put, List.getElem_toArray, List.getElem_cons_succ, List.getElem_cons_zero, List.setIfInBounds_toArray, List.set_cons_zero, List.set_cons_succ]
    refine wpAnyH_take (i := 15) (v := ?v8) rfl (by kernel_rfl) (by kernel_rfl) (by kernel_rfl) (fun _ _ _ h => h) (Or.inl ⟨by rfl, ?hy8⟩) (by assumption) ?rest8
    case hy8 => (intro wz hSw; (try dsimp only at hSw); first | (go_simp; done) | (go_simp; with_reducible rfl))
    try simp only [Act.put, List.getElem_toArray, List.getElem_cons_succ, List.getElem_cons_zero, List.setIfInBounds_toArray, List.set_cons_zero, List.set_cons_succ]
    refine wpAnyH_take (i := 16) (v := undef) rfl (by kernel_rfl) (by kernel_rfl) (by kernel_rfl) (fun _ _ _ h => h) (Or.inr ⟨by rfl, rfl⟩) (by assumption) ?_
    try simp only [Act.put, List.getElem_toArray, List.getElem_cons_succ, List.getElem_cons_zero, List.setIfInBounds_toArray, List.set_cons_zero, List.set_cons_succ]
    refine wpAnyH_take (i := 17) (v := undef) rfl (by kernel_rfl) (by kernel_rfl) (by kernel_rfl) (fun _ _ _ h => h) (Or.inr ⟨by rfl, rfl⟩) (by assumption) ?_
    try simp only [Act.put, List.getElem_toArray, List.getElem_cons_succ, List.getElem_cons_zero, List.setIfInBounds_toArray, List.set_cons_zero, List.set_cons_succ]
    refine wpAnyH_take (i := 18) (v := undef) rfl (by kernel_rfl) (by kernel_rfl) (by kernel_rfl) (fun _ _ _ h => h) (Or.inr ⟨by rfl, rfl⟩) (by assumption) ?_
    try simp only [Act.put, List.getElem_toArray, List.getElem_cons_succ, List.getElem_cons_zero, List.setIfInBounds_toArray, List.set_cons_zero, List.set_cons_succ]
    refine wpAnyH_take (i := 19) (v := undef) rfl (by kernel_rfl) (by kernel_rfl) (by kernel_rfl) (fun _ _ _ h => h) (Or.inr ⟨by rfl, rfl⟩) (by assumption) ?_
    try simp only [Act.put, List.getElem_toArray, List.getElem_cons_succ, List.getElem_cons_zero, List.setIfInBounds_toArray, List.set_cons_zero, List.set_cons_succ]
    refine wpAnyH_take (i := 20) (v := undef) rfl (by kernel_rfl) (by kernel_rfl) (by kernel_rfl) (fun _ _ _ h => h) (Or.inr ⟨by rfl, rfl⟩) (by assumption) ?_
    try simp only [Act.put, List.getElem_toArray, List.getElem_cons_succ, List.getElem_cons_zero, List.setIfInBounds_toArray, List.set_cons_zero, List.set_cons_succ]
    refine wpAnyH_take (i := 21) (v := undef) rfl (by kernel_rfl) (by kernel_rfl) (by kernel_rfl) (fun _ _ _ h => h) (Or.inr ⟨by rfl, rfl⟩) (by assumption) ?_
    try simp only [Act.put, List.getElem_toArray, List.getElem_cons_succ, List.getElem_cons_zero, List.setIfInBounds_toArray, List.set_cons_zero, List.set_cons_succ]
    refine wpAnyH_take (i := 22) (v := undef) rfl (by kernel_rfl) (by kernel_rfl) (by kernel_rfl) (fun _ _ _ h => h) (Or.inr ⟨by rfl, rfl⟩) (by assumption) ?_
    try simp only [Act.put, List.getElem_toArray, List.getElem_cons_succ, List.getElem_cons_zero, List.setIfInBounds_toArray, List.set_cons_zero, List.set_cons_succ]
    refine wpAnyH_take (i := 23) (v := undef) rfl (by kernel_rfl) (by kernel_rfl) (by kernel_rfl) (fun _ _ _ h => h) (Or.inr ⟨by rfl, rfl⟩) (by assumption) ?_
    try simp only [Act.put, List.getElem_toArray, List.getElem_cons_succ, List.getElem_cons_zero, List.setIfInBounds_toArray, List.set_cons_zero, List.set_cons_succ]
    refine wpAnyH_take (i := 24) (v := undef) rfl (by kernel_rfl) (by kernel_rfl) (by kernel_rfl) (fun _ _ _ h => h) (Or.inr ⟨by rfl, rfl⟩) (by assumption) ?_
    try simp only [Act.put, List.getElem_toArray, List.getElem_cons_succ, List.getElem_cons_zero, List.setIfInBounds_toArray, List.set_cons_zero, List.set_cons_succ]
    refine wpAnyH_take (i := 25) (v := ?v9) rfl (by kernel_rfl) (by kernel_rfl) (by kernel_rfl) (fun _ _ _ h => h) (Or.inl ⟨by rfl, ?hy9⟩) (by assumption) ?rest9
    case hy9 => (intro wz hSw; (try dsimp only at hSw); first | (go_simp; done) | (go_simp; with_reducible rfl))
    try simp only [Act.put, List.getElem_toArray, List.getElem_cons_succ, List.getElem_cons_zero, List.setIfInBounds_toArray, List.set_cons_zero, List.set_cons_succ]
    refine wpAnyH_done (by kernel_rfl) ?_ _
    clear hH1
    go_wp2_with fail
    refine (awake_any _).mono ?_
    rintro e wa ⟨rfl, g⟩
    have GA := Lib.hid (gb_trans GX.out g)
    clear g
    go_wp2
    go_ret
    exact ⟨rfl, GA.out⟩
  have R := Lib.hid (HB.out rfl)
  clear HB K1
  by_cases h1 : at_ < 0
  · have dl : decide (at_ < 0) = true := decide_eq_true h1
    refine wpAnyH_take (i := 3) (v := ?v10) rfl (by kernel_rfl) (by kernel_rfl) (by kernel_rfl) (fun _ _ _ h => h) (Or.inl ⟨by rfl, ?hy10⟩) (by assumption) ?rest10
    case hy10 => (intro wz hSw; (try dsimp only at hSw); first | (go_simp; done) | (go_simp; with_reducible rfl))
    try simp only [Act.put, List.getElem_toArray, List.getElem_cons_succ, List.getElem_cons_zero, List.setIfInBounds_toArray, List.set_cons_zero, List.set_cons_succ]
    refine wpAnyH_take (i := 4) (v := ?v11) rfl (by kernel_rfl) (by kernel_rfl) (by kernel_rfl) (fun _ _ _ h => h) (Or.inl ⟨by rfl, ?hy11⟩) (by assumption) ?rest11
    case hy11 => (intro wz hSw; (try dsimp only at hSw); first | (go_simp; done) | (go_simp; with_reducible rfl))
    try simp only [Act.put, List.getElem_toArray, List.getElem_cons_succ, List.getElem_cons_zero, List.setIfInBounds_toArray, List.set_cons_zero, List.set_cons_succ]
    refine wpAnyH_take (i := 5) (v := ?v12) rfl (by kernel_rfl) (by kernel_rfl) (by kernel_rfl) (fun _ _ _ h => h) (Or.inl ⟨by rfl, ?hy12⟩) (by assumption) ?rest12
    case hy12 => (intro wz hSw; (try dsimp only at hSw); first | (go_simp; done) | (go_simp; with_reducible rfl))
    try simp only [Act.put, List.getElem_toArray, List.getElem_cons_succ, List.getElem_cons_zero, List.setIfInBounds_toArray, List.set_cons_zero, List.set_cons_succ]
    refine wpAnyH_take (i := 6) (v := ?v13) rfl (by kernel_rfl) (by kernel_rfl) (by kernel_rfl) (fun _ _ _ h => h) (Or.inl ⟨by rfl, ?hy13⟩) (by assumption) ?rest13
    case hy13 => (intro wz hSw; (try dsimp only at hSw); first | (go_simp; done) | (go_simp; with_reducible rfl))
    try simp only [Act.put, List.getElem_toArray, List.getElem_cons_succ, List.getElem_cons_zero, List.setIfInBounds_toArray, List.set_cons_zero, List.set_cons_succ]
    refine wpAnyH_take (i := 7) (v := ?v14) rfl (by kernel_rfl) (by kernel_rfl) (by kernel_rfl) (fun _ _ _ h => h) (Or.inl ⟨by rfl, ?hy14⟩) (by assumption) ?rest14
    case hy14 => (intro wz hSw; (try dsimp only at hSw); first | (go_simp; done) | (go_simp; with_reducible rfl))
    try simp only [Act.put, List.getElem_toArray, List.getElem_cons_succ, List.getElem_cons_zero, List.setIfInBounds_toArray, List.set_cons_zero, List.set_cons_succ]
    refine wpAnyH_take (i := 8) (v := ?v15) rfl (by kernel_rfl) (by kernel_rfl) (by kernel_rfl) (fun _ _ _ h => h) (Or.inl ⟨by rfl, ?hy15⟩) (by assumption) ?rest15
    case hy15 => (intro wz hSw; (try dsimp only at hSw); first | (go_simp; done) | (go_simp; with_reducible rfl))
    try simp only [Act.put, List.getElem_toArray, List.getElem_cons_succ, List.getElem_cons_zero, List.setIfInBounds_toArray, List.set_cons_zero, List.set_cons_succ]
    refine wpAnyH_take (i := 9) (v := undef) rfl (by kernel_rfl) (by kernel_rfl) (by kernel_rfl) (fun _ _ _ h => h) (Or.inr ⟨by rfl, rfl⟩) (by assumption) ?_
    try simp only [Act.put, List.getElem_toArray, List.getElem_cons_succ, List.getElem_cons_zero, List.setIfInBounds_toArray, List.set_cons_zero, List.set_cons_succ]
    refine wpAnyH_take (i := 10) (v := undef) rfl (by kernel_rfl) (by kernel_rfl) (by kernel_rfl) (fun _ _ _ h => h) (Or.inr ⟨by rfl, rfl⟩) (by assumption) ?_
    try simp only [Act.put, List.getElem_toArray, List.getElem_cons_succ, List.getElem_cons_zero, List.setIfInBounds_toArray, List.set_cons_zero, List.set_cons_succ]
    refine wpAnyH_take (i := 11) (v := undef) rfl (by kernel_rfl) (by kernel_rfl) (by kernel_rfl) (fun _ _ _ h => h) (Or.inr ⟨by rfl, rfl⟩) (by assumption) ?_
    try simp only [Act.put, List.getElem_toArray, List.getElem_cons_succ, List.getElem_cons_zero, List.setIfInBounds_toArray, List.set_cons_zero, List.set_cons_succ]
    refine wpAnyH_take (i := 12) (v := undef) rfl (by kernel_rfl) (by kernel_rfl) (by kernel_rfl) (fun _ _ _ h => h) (Or.inr ⟨by rfl, rfl⟩) (by assumption) ?_
    try simp only [Act.put, List.getElem_toArray, List.getElem_cons_succ, List.getElem_cons_zero, List.setIfInBounds_toArray, List.set_cons_zero, List.set_cons_succ]
    refine wpAnyH_take (i := 13) (v := undef) rfl (by kernel_rfl) (by kernel_rfl) (by kernel_rfl) (fun _ _ _ h => h) (Or.inr ⟨by rfl, rfl⟩) (by assumption) ?_
    try simp only [Act.put, List.getElem_toArray, List.getElem_cons_succ, List.getElem_cons_zero, List.setIfInBounds_toArray, List.set_cons_zero, List.set_cons_succ]
    refine wpAnyH_take (i := 14) (v := ?v16) rfl (by kernel_rfl) (by kernel_rfl) (by kernel_rfl) (fun _ _ _ h => h) (Or.inl ⟨by rfl, ?hy16⟩) (by assumption) ?rest16
    case hy16 => (intro wz hSw; (try dsimp only at hSw); first | (go_simp; done) | (go_simp; with_reducible rfl))
    try simp only [Act.put, List.getElem_toArray, List.getElem_cons_succ, List.getElem_cons_zero, List.setIfInBounds_toArray, List.set_cons_zero, List.set_cons_succ]
    refine wpAnyH_take (i := 15) (v := ?v17) rfl (by kernel_rfl) (by kernel_rfl) (by kernel_rfl) (fun _ _ _ h => h) (Or.inl ⟨by rfl, ?hy17⟩) (by assumption) ?rest17
    case hy17 => (intro wz hSw; (try dsimp only at hSw); first | (go_simp; done) | (go_simp; with_reducible rfl))
    try simp only [Act.put, List.getElem_toArray, List.getElem_cons_succ, List.getElem_cons_zero, List.setIfInBounds_toArray, List.set_cons_zero, List.set_cons_succ]
    refine wpAnyH_take (i := 16) (v := undef) rfl (by kernel_rfl) (by kernel_rfl) (by kernel_rfl) (fun _ _ _ h => h) (Or.inr ⟨by rfl, rfl⟩) (by assumption) ?_
    try simp only [Act.put, List.getElem_toArray, List.getElem_cons_succ, List.getElem_cons_zero, List.setIfInBounds_toArray, List.set_cons_zero, List.set_cons_succ]
    refine wpAnyH_take (i := 17) (v := undef) rfl (by kernel_rfl) (by kernel_rfl) (by kernel_rfl) (fun _ _ _ h => h) (Or.inr ⟨by rfl, rfl⟩) (by assumption) ?_
    try simp only [Act.put, List.getElem_toArray, List.getElem_cons_succ, List.getElem_cons_zero, List.setIfInBounds_toArray, List.set_cons_zero, List.set_cons_succ]
    refine wpAnyH_take (i := 18) (v := undef) rfl (by kernel_rfl) (by kernel_rfl) (by kernel_rfl) (fun _ _ _ h => h) (Or.inr ⟨by rfl, rfl⟩) (by assumption) ?_
    try simp only [Act.put, List.getElem_toArray, List.getElem_cons_succ, List.getElem_cons_zero, List.setIfInBounds_toArray, List.set_cons_zero, List.set_cons_succ]
    refine wpAnyH_take (i := 19) (v := undef) rfl (by kernel_rfl) (by kernel_rfl) (by kernel_rfl) (fun _ _ _ h => h) (Or.inr ⟨by rfl, rfl⟩) (by assumption) ?_
    try simp only [Act.put, List.getElem_toArray, List.getElem_cons_succ, List.getElem_cons_zero, List.setIfInBounds_toArray, List.set_cons_zero, List.set_cons_succ]
    refine wpAnyH_take (i := 20) (v := undef) rfl (by kernel_rfl) (by kernel_rfl) (by kernel_rfl) (fun _ _ _ h => h) (Or.inr ⟨by rfl, rfl⟩) (by assumption) ?_
    try simp only [Act.put, List.getElem_toArray, List.getElem_cons_succ, List.getElem_cons_zero, List.setIfInBounds_toArray, List.set_cons_zero, List.set_cons_succ]
    refine wpAnyH_take (i := 21) (v := undef) rfl (by kernel_rfl) (by kernel_rfl) (by kernel_rfl) (fun _ _ _ h => h) (Or.inr ⟨by rfl, rfl⟩) (by assumption) ?_
    try simp only [Act.put, List.getElem_toArray, List.getElem_cons_succ, List.getElem_cons_zero, List.setIfInBounds_toArray, List.set_cons_zero, List.set_cons_succ]
    refine wpAnyH_take (i := 22) (v := undef) rfl (by kernel_rfl) (by kernel_rfl) (by kernel_rfl) (fun _ _ _ h => h) (Or.inr ⟨by rfl, rfl⟩) (by assumption) ?_
    try simp only [Act.put, List.getElem_toArray, List.getElem_cons_succ, List.getElem_cons_zero, List.setIfInBounds_toArray, List.set_cons_zero, List.set_cons_succ]
    refine wpAnyH_take (i := 23) (v := undef) rfl (by kernel_rfl) (by kernel_rfl) (by kernel_rfl) (fun _ _ _ h => h) (Or.inr ⟨by rfl, rfl⟩) (by assumption) ?_
    try simp only [Act.put, List.getElem_toArray, List.getElem_cons_succ, List.getElem_cons_zero, List.setIfInBounds_toArray, List.set_cons_zero, List.set_cons_succ]
    refine wpAnyH_take (i := 24) (v := undef) rfl (by kernel_rfl) (by kernel_rfl) (by kernel_rfl) (fun _ _ _ h => h) (Or.inr ⟨by rfl, rfl⟩) (by assumption) ?_
    try simp only [Act.put, List.getElem_toArray, List.getElem_cons_succ, List.getElem_cons_zero, List.setIfInBounds_toArray, List.set_cons_zero, List.set_cons_succ]
    refine wpAnyH_take (i := 25) (v := ?v18) rfl (by kernel_rfl) (by kernel_rfl) (by kernel_rfl) (fun _ _ _ h => h) (Or.inl ⟨by rfl, ?hy18⟩) (by assumption) ?rest18
    case hy18 => (intro wz hSw; (try dsimp only at hSw); first | (go_simp; done) | (go_simp; with_reducible rfl))
    try simp only [Act.put, List.getElem_toArray, List.getElem_cons_succ, List.getElem_cons_zero, List.setIfInBounds_toArray, List.set_cons_zero, List.set_cons_succ]
    refine wpAnyH_done (by kernel_rfl) ?_ _
    clear hH1
    go_wp2_with fail
    refine (awake_any _).mono ?_
    rintro e wa ⟨rfl, g⟩
    have GA := Lib.hid (gb_trans GX.out g)
    clear g
    go_wp2
    go_ret
    exact ⟨rfl, GA.out⟩
  have dl : decide (at_ < 0) = false := decide_eq_false h1
  obtain ⟨a9, rfl⟩ : ∃ a9 : Nat, at_ = (a9 : Int) := ⟨at_.toNat, by omega⟩
  by_cases h2 : dn ≤ a9
  · have dh : decide ((dn : Int) ≤ (a9 : Int)) = true := decide_eq_true (by omega)
    refine wpAnyH_take (i := 3) (v := ?v19) rfl (by kernel_rfl) (by kernel_rfl) (by kernel_rfl) (fun _ _ _ h => h) (Or.inl ⟨by rfl, ?hy19⟩) (by assumption) ?rest19
    case hy19 => (intro wz hSw; (try dsimp only at hSw); first | (go_simp; done) | (go_simp; with_reducible rfl))
    try simp only [Act.put, List.getElem_toArray, List.getElem_cons_succ, List.getElem_cons_zero, List.setIfInBounds_toArray, List.set_cons_zero, List.set_cons_succ]
    refine wpAnyH_take (i := 4) (v := ?v20) rfl (by kernel_rfl) (by kernel_rfl) (by kernel_rfl) (fun _ _ _ h => h) (Or.inl ⟨by rfl, ?hy20⟩) (by assumption) ?rest20
    case hy20 => (intro wz hSw; (try dsimp only at hSw); first | (go_simp; done) | (go_simp; with_reducible rfl))
    try simp only [Act.put, List.getElem_toArray, List.getElem_cons_succ, List.getElem_cons_zero, List.setIfInBounds_toArray, List.set_cons_zero, List.set_cons_succ]
    refine wpAnyH_take (i := 5) (v := ?v21) rfl (by kernel_rfl) (by kernel_rfl) (by kernel_rfl) (fun _ _ _ h => h) (Or.inl ⟨by rfl, ?hy21⟩) (by assumption) ?rest21
    case hy21 => (intro wz hSw; (try dsimp only at hSw); first | (go_simp; done) | (go_simp; with_reducible rfl))
    try simp only [Act.put, List.getElem_toArray, List.getElem_cons_succ, List.getElem_cons_zero, List.setIfInBounds_toArray, List.set_cons_zero, List.set_cons_succ]
    refine wpAnyH_take (i := 6) (v := ?v22) rfl (by kernel_rfl) (by kernel_rfl) (by kernel_rfl) (fun _ _ _ h => h) (Or.inl ⟨by rfl, ?hy22⟩) (by assumption) ?rest22
    case hy22 => (intro wz hSw; (try dsimp only at hSw); first | (go_simp; done) | (go_simp; with_reducible rfl))
    try simp only [Act.put, List.getElem_toArray, List.getElem_cons_succ, List.getElem_cons_zero, List.setIfInBounds_toArray, List.set_cons_zero, List.set_cons_succ]
    refine wpAnyH_take (i := 7) (v := ?v23) rfl (by kernel_rfl) (by kernel_rfl) (by kernel_rfl) (fun _ _ _ h => h) (Or.inl ⟨by rfl, ?hy23⟩) (by assumption) ?rest23
    case hy23 => (intro wz hSw; (try dsimp only at hSw); first | (go_simp; done) | (go_simp; with_reducible rfl))
    try simp only [Act.put, List.getElem_toArray, List.getElem_cons_succ, List.getElem_cons_zero, List.setIfInBounds_toArray, List.set_cons_zero, List.set_cons_succ]
    refine wpAnyH_take (i := 8) (v := ?v24) rfl (by kernel_rfl) (by kernel_rfl) (by kernel_rfl) (fun _ _ _ h => h) (Or.inl ⟨by rfl, ?hy24⟩) (by assumption) ?rest24
    case hy24 => (intro wz hSw; (try dsimp only at hSw); first | (go_simp; done) | (go_simp; with_reducible rfl))
    try simp only [Act.put, List.getElem_toArray, List.getElem_cons_succ, List.getElem_cons_zero, List.setIfInBounds_toArray, List.set_cons_zero, List.set_cons_succ]
    refine wpAnyH_take (i := 9) (v := ?v25) rfl (by kernel_rfl) (by kernel_rfl) (by kernel_rfl) (fun _ _ _ h => h) (Or.inl ⟨by rfl, ?hy25⟩) (by assumption) ?rest25
    case hy25 => (intro wz hSw; (try dsimp only at hSw); first | (go_simp; done) | (go_simp; with_reducible rfl))
    try simp only [Act.put, List.getElem_toArray, List.getElem_cons_succ, List.getElem_cons_zero, List.setIfInBounds_toArray, List.set_cons_zero, List.set_cons_succ]
    refine wpAnyH_take (i := 10) (v := ?v26) rfl (by kernel_rfl) (by kernel_rfl) (by kernel_rfl) (fun _ _ _ h => h) (Or.inl ⟨by rfl, ?hy26⟩) (by assumption) ?rest26
    case hy26 => (intro wz hSw; (try dsimp only at hSw); first | (go_simp; done) | (go_simp; with_reducible rfl))
    try simp only [Act.put, List.getElem_toArray, List.getElem_cons_succ, List.getElem_cons_zero, List.setIfInBounds_toArray, List.set_cons_zero, List.set_cons_succ]
    refine wpAnyH_take (i := 11) (v := ?v27) rfl (by kernel_rfl) (by kernel_rfl) (by kernel_rfl) (fun _ _ _ h => h) (Or.inl ⟨by rfl, ?hy27⟩) (by assumption) ?rest27
    case hy27 => (intro wz hSw; (try dsimp only at hSw); first | (go_simp; done) | (go_simp; with_reducible rfl))
    try simp only [Act.put, List.getElem_toArray, List.getElem_cons_succ, List.getElem_cons_zero, List.setIfInBounds_toArray, List.set_cons_zero, List.set_cons_succ]
    refine wpAnyH_take (i := 12) (v := ?v28) rfl (by kernel_rfl) (by kernel_rfl) (by kernel_rfl) (fun _ _ _ h => h) (Or.inl ⟨by rfl, ?hy28⟩) (by assumption) ?rest28
    case hy28 => (intro wz hSw; (try dsimp only at hSw); first | (go_simp; done) | (go_simp; with_reducible rfl))
    try simp only [Act.put, List.getElem_toArray, List.getElem_cons_succ, List.getElem_cons_zero, List.setIfInBounds_toArray, List.set_cons_zero, List.set_cons_succ]
    refine wpAnyH_take (i := 13) (v := ?v29) rfl (by kernel_rfl) (by kernel_rfl) (by kernel_rfl) (fun _ _ _ h => h) (Or.inl ⟨by rfl, ?hy29⟩) (by assumption) ?rest29
    case hy29 => (intro wz hSw; (try dsimp only at hSw); first | (go_simp; done) | (go_simp; with_reducible rfl))
    try simp only [Act.put, List.getElem_toArray, List.getElem_cons_succ, List.getElem_cons_zero, List.setIfInBounds_toArray, List.set_cons_zero, List.set_cons_succ]
    refine wpAnyH_take (i := 14) (v := ?v30) rfl (by kernel_rfl) (by kernel_rfl) (by kernel_rfl) (fun _ _ _ h => h) (Or.inl ⟨by rfl, ?hy30⟩) (by assumption) ?rest30
    case hy30 => (intro wz hSw; (try dsimp only at hSw); first | (go_simp; done) | (go_simp; with_reducible rfl))
    try simp only [Act.put, List.getElem_toArray, List.getElem_cons_succ, List.getElem_cons_zero, List.setIfInBounds_toArray, List.set_cons_zero, List.set_cons_succ]
    refine wpAnyH_take (i := 15) (v := ?v31) rfl (by kernel_rfl) (by kernel_rfl) (by kernel_rfl) (fun _ _ _ h => h) (Or.inl ⟨by rfl, ?hy31⟩) (by assumption) ?rest31
    case hy31 => (intro wz hSw; (try dsimp only at hSw); first | (go_simp; done) | (go_simp; with_reducible rfl))
    try simp only [Act.put, List.getElem_toArray, List.getElem_cons_succ, List.getElem_cons_zero, List.setIfInBounds_toArray, List.set_cons_zero, List.set_cons_succ]
    refine wpAnyH_take (i := 16) (v := undef) rfl (by kernel_rfl) (by kernel_rfl) (by kernel_rfl) (fun _ _ _ h => h) (Or.inr ⟨by rfl, rfl⟩) (by assumption) ?_
    try simp only [Act.put, List.getElem_toArray, List.getElem_cons_succ, List.getElem_cons_zero, List.setIfInBounds_toArray, List.set_cons_zero, List.set_cons_succ]
    refine wpAnyH_take (i := 17) (v := undef) rfl (by kernel_rfl) (by kernel_rfl) (by kernel_rfl) (fun _ _ _ h => h) (Or.inr ⟨by rfl, rfl⟩) (by assumption) ?_
    try simp only [Act.put, List.getElem_toArray, List.getElem_cons_succ, List.getElem_cons_zero, List.setIfInBounds_toArray, List.set_cons_zero, List.set_cons_succ]
    refine wpAnyH_take (i := 18) (v := undef) rfl (by kernel_rfl) (by kernel_rfl) (by kernel_rfl) (fun _ _ _ h => h) (Or.inr ⟨by rfl, rfl⟩) (by assumption) ?_
    try simp only [Act.put, List.getElem_toArray, List.getElem_cons_succ, List.getElem_cons_zero, List.setIfInBounds_toArray, List.set_cons_zero, List.set_cons_succ]
    refine wpAnyH_take (i := 19) (v := undef) rfl (by kernel_rfl) (by kernel_rfl) (by kernel_rfl) (fun _ _ _ h => h) (Or.inr ⟨by rfl, rfl⟩) (by assumption) ?_
    try simp only [Act.put, List.getElem_toArray, List.getElem_cons_succ, List.getElem_cons_zero, List.setIfInBounds_toArray, List.set_cons_zero, List.set_cons_succ]
    refine wpAnyH_take (i := 20) (v := undef) rfl (by kernel_rfl) (by kernel_rfl) (by kernel_rfl) (fun _ _ _ h => h) (Or.inr ⟨by rfl, rfl⟩) (by assumption) ?_
    try simp only [Act.put, List.getElem_toArray, List.getElem_cons_succ, List.getElem_cons_zero, List.setIfInBounds_toArray, List.set_cons_zero, List.set_cons_succ]
    refine wpAnyH_take (i := 21) (v := undef) rfl (by kernel_rfl) (by kernel_rfl) (by kernel_rfl) (fun _ _ _ h => h) (Or.inr ⟨by rfl, rfl⟩) (by assumption) ?_
    try simp only [Act.put, List.getElem_toArray, List.getElem_cons_succ, List.getElem_cons_zero, List.setIfInBounds_toArray, List.set_cons_zero, List.set_cons_succ]
    refine wpAnyH_take (i := 22) (v := undef) rfl (by kernel_rfl) (by kernel_rfl) (by kernel_rfl) (fun _ _ _ h => h) (Or.inr ⟨by rfl, rfl⟩) (by assumption) ?_
    try simp only [Act.put, List.getElem_toArray, List.getElem_cons_succ, List.getElem_cons_zero, List.setIfInBounds_toArray, List.set_cons_zero, List.set_cons_succ]
    refine wpAnyH_take (i := 23) (v := undef) rfl (by kernel_rfl) (by kernel_rfl) (by kernel_rfl) (fun _ _ _ h => h) (Or.inr ⟨by rfl, rfl⟩) (by assumption) ?_
    try simp only [Act.put, List.getElem_toArray, List.getElem_cons_succ, List.getElem_cons_zero, List.setIfInBounds_toArray, List.set_cons_zero, List.set_cons_succ]
    refine wpAnyH_take (i := 24) (v := undef) rfl (by kernel_rfl) (by kernel_rfl) (by kernel_rfl) (fun _ _ _ h => h) (Or.inr ⟨by rfl, rfl⟩) (by assumption) ?_
    try simp only [Act.put, List.getElem_toArray, List.getElem_cons_succ, List.getElem_cons_zero, List.setIfInBounds_toArray, List.set_cons_zero, List.set_cons_succ]
    refine wpAnyH_take (i := 25) (v := ?v32) rfl (by kernel_rfl) (by kernel_rfl) (by kernel_rfl) (fun _ _ _ h => h) (Or.inl ⟨by rfl, ?hy32⟩) (by assumption) ?rest32
    case hy32 => (intro wz hSw; (try dsimp only at hSw); first | (go_simp; done) | (go_simp; with_reducible rfl))
    try simp only [Act.put, List.getElem_toArray, List.getElem_cons_succ, List.getElem_cons_zero, List.setIfInBounds_toArray, List.set_cons_zero, List.set_cons_succ]
    refine wpAnyH_done (by kernel_rfl) ?_ _
    clear hH1
    go_wp2_with fail
    refine (awake_any _).mono ?_
    rintro e wa ⟨rfl, g⟩
    have GA := Lib.hid (gb_trans GX.out g)
    clear g
    go_wp2
    go_ret
    exact ⟨rfl, GA.out⟩
  have dh : decide ((dn : Int) ≤ (a9 : Int)) = false := decide_eq_false (by omega)
  have hl : a9 < D.length := by rw [S0.out.2.2.1.len]; omega
  have AL := Lib.hid (show a9 < dn by omega)
  have DVh := Lib.hid (show DV H M D L from ⟨R.out.e, R.out.h, by rw [S0.out.1.len]; exact R.out.d, sr_rng S0.out.2.2.2.f⟩)
  obtain ⟨ad, had⟩ := S0.out.2.2.1.some (by omega)
  subst had
  obtain ⟨n9, hn9, N1⟩ := isX_nat (R.out.d.isx hl)
  have HN := Lib.hid hn9
  have SHP := Lib.hid ((shP_iff H M L).1 R.out.e.1)
  have LHn := Lib.hid S0.out.1.len
  have N2 := Lib.hid (show n9 < vn by have q := S0.out.2.2.2.v.len; have := SHP.out.1; have := LHn.out; dsimp only at q; omega)
  obtain ⟨vd, hvd⟩ := S0.out.2.2.2.v.some (by have := N2.out; show 0 < vn; omega)
  dsimp only at hvd
  subst hvd
  have OM := Lib.hid (omit_same DVh.out a9 n9 hl HN.out)
  have ODV := Lib.hid (omit_dv DVh.out a9 hl)
  clear hn9 hl
  have j1 : (a9 : Int) < dn := by omega
  have j0 : (0 : Int) ≤ (a9 : Int) := by omega
  have n1 : (n9 : Int) < vn := by have := N2.out; omega
  have n0 : (0 : Int) ≤ (n9 : Int) := by omega
  obtain ⟨bv, hbv⟩ : ∃ b, L.V.getD n9 false = b := ⟨_, rfl⟩
  have HBV := Lib.hid hbv
  rw [hbv] at OM
  clear hbv
  cases bv
  case true =>
    refine wpAnyH_take (i := 3) (v := ?v33) rfl (by kernel_rfl) (by kernel_rfl) (by kernel_rfl) (fun _ _ _ h => h) (Or.inl ⟨by rfl, ?hy33⟩) (by assumption) ?rest33
    case hy33 => (intro wz hSw; (try dsimp only at hSw); first | (go_simp; done) | (go_simp; with_reducible rfl))
    try simp only [Act.put, List.getElem_toArray, List.getElem_cons_succ, List.getElem_cons_zero, List.setIfInBounds_toArray, List.set_cons_zero, List.set_cons_succ]
    refine wpAnyH_take (i := 4) (v := ?v34) rfl (by kernel_rfl) (by kernel_rfl) (by kernel_rfl) (fun _ _ _ h => h) (Or.inl ⟨by rfl, ?hy34⟩) (by assumption) ?rest34
    case hy34 => (intro wz hSw; (try dsimp only at hSw); first | (go_simp; done) | (go_simp; with_reducible rfl))
    try simp only [Act.put, List.getElem_toArray, List.getElem_cons_succ, List.getElem_cons_zero, List.setIfInBounds_toArray, List.set_cons_zero, List.set_cons_succ]
    refine wpAnyH_take (i := 5) (v := ?v35) rfl (by kernel_rfl) (by kernel_rfl) (by kernel_rfl) (fun _ _ _ h => h) (Or.inl ⟨by rfl, ?hy35⟩) (by assumption) ?rest35
    case hy35 => (intro wz hSw; (try dsimp only at hSw); first | (go_simp; done) | (go_simp; with_reducible rfl))
    try simp only [Act.put, List.getElem_toArray, List.getElem_cons_succ, List.getElem_cons_zero, List.setIfInBounds_toArray, List.set_cons_zero, List.set_cons_succ]
    refine wpAnyH_take (i := 6) (v := ?v36) rfl (by kernel_rfl) (by kernel_rfl) (by kernel_rfl) (fun _ _ _ h => h) (Or.inl ⟨by rfl, ?hy36⟩) (by assumption) ?rest36
    case hy36 => (intro wz hSw; (try dsimp only at hSw); first | (go_simp; done) | (go_simp; with_reducible rfl))
    try simp only [Act.put, List.getElem_toArray, List.getElem_cons_succ, List.getElem_cons_zero, List.setIfInBounds_toArray, List.set_cons_zero, List.set_cons_succ]
    refine wpAnyH_take (i := 7) (v := ?v37) rfl (by kernel_rfl) (by kernel_rfl) (by kernel_rfl) (fun _ _ _ h => h) (Or.inl ⟨by rfl, ?hy37⟩) (by assumption) ?rest37
    case hy37 => (intro wz hSw; (try dsimp only at hSw); first | (go_simp; done) | (go_simp; with_reducible rfl))
    try simp only [Act.put, List.getElem_toArray, List.getElem_cons_succ, List.getElem_cons_zero, List.setIfInBounds_toArray, List.set_cons_zero, List.set_cons_succ]
    refine wpAnyH_take (i := 8) (v := ?v38) rfl (by kernel_rfl) (by kernel_rfl) (by kernel_rfl) (fun _ _ _ h => h) (Or.inl ⟨by rfl, ?hy38⟩) (by assumption) ?rest38
    case hy38 => (intro wz hSw; (try dsimp only at hSw); first | (go_simp; done) | (go_simp; with_reducible rfl))
    try simp only [Act.put, List.getElem_toArray, List.getElem_cons_succ, List.getElem_cons_zero, List.setIfInBounds_toArray, List.set_cons_zero, List.set_cons_succ]
    refine wpAnyH_take (i := 9) (v := ?v39) rfl (by kernel_rfl) (by kernel_rfl) (by kernel_rfl) (fun _ _ _ h => h) (Or.inl ⟨by rfl, ?hy39⟩) (by assumption) ?rest39
    case hy39 => (intro wz hSw; (try dsimp only at hSw); first | (go_simp; done) | (go_simp; with_reducible rfl))
    try simp only [Act.put, List.getElem_toArray, List.getElem_cons_succ, List.getElem_cons_zero, List.setIfInBounds_toArray, List.set_cons_zero, List.set_cons_succ]
    refine wpAnyH_take (i := 10) (v := ?v40) rfl (by kernel_rfl) (by kernel_rfl) (by kernel_rfl) (fun _ _ _ h => h) (Or.inl ⟨by rfl, ?hy40⟩) (by assumption) ?rest40
    case hy40 => (intro wz hSw; (try dsimp only at hSw); first | (go_simp; done) | (go_simp; with_reducible rfl))
    try simp only [Act.put, List.getElem_toArray, List.getElem_cons_succ, List.getElem_cons_zero, List.setIfInBounds_toArray, List.set_cons_zero, List.set_cons_succ]
    refine wpAnyH_take (i := 11) (v := ?v41) rfl (by kernel_rfl) (by kernel_rfl) (by kernel_rfl) (fun _ _ _ h => h) (Or.inl ⟨by rfl, ?hy41⟩) (by assumption) ?rest41
    case hy41 => (intro wz hSw; (try dsimp only at hSw); first | (go_simp; done) | (go_simp; with_reducible rfl))
    try simp only [Act.put, List.getElem_toArray, List.getElem_cons_succ, List.getElem_cons_zero, List.setIfInBounds_toArray, List.set_cons_zero, List.set_cons_succ]
    refine wpAnyH_take (i := 12) (v := ?v42) rfl (by kernel_rfl) (by kernel_rfl) (by kernel_rfl) (fun _ _ _ h => h) (Or.inl ⟨by rfl, ?hy42⟩) (by assumption) ?rest42
    case hy42 => (intro wz hSw; (try dsimp only at hSw); first | (go_simp; done) | (go_simp; with_reducible rfl))
    try simp only [Act.put, List.getElem_toArray, List.getElem_cons_succ, List.getElem_cons_zero, List.setIfInBounds_toArray, List.set_cons_zero, List.set_cons_succ]
    refine wpAnyH_take (i := 13) (v := ?v43) rfl (by kernel_rfl) (by kernel_rfl) (by kernel_rfl) (fun _ _ _ h => h) (Or.inl ⟨by rfl, ?hy43⟩) (by assumption) ?rest43
    case hy43 => (intro wz hSw; (try dsimp only at hSw); first | (go_simp; done) | (go_simp; with_reducible rfl))
    try simp only [Act.put, List.getElem_toArray, List.getElem_cons_succ, List.getElem_cons_zero, List.setIfInBounds_toArray, List.set_cons_zero, List.set_cons_succ]
    refine wpAnyH_take (i := 14) (v := ?v44) rfl (by kernel_rfl) (by kernel_rfl) (by kernel_rfl) (fun _ _ _ h => h) (Or.inl ⟨by rfl, ?hy44⟩) (by assumption) ?rest44
    case hy44 => (intro wz hSw; (try dsimp only at hSw); first | (go_simp; done) | (go_simp; with_reducible rfl))
    try simp only [Act.put, List.getElem_toArray, List.getElem_cons_succ, List.getElem_cons_zero, List.setIfInBounds_toArray, List.set_cons_zero, List.set_cons_succ]
    refine wpAnyH_take (i := 15) (v := ?v45) rfl (by kernel_rfl) (by kernel_rfl) (by kernel_rfl) (fun _ _ _ h => h) (Or.inl ⟨by rfl, ?hy45⟩) (by assumption) ?rest45
    case hy45 => (intro wz hSw; (try dsimp only at hSw); first | (go_simp; done) | (go_simp; with_reducible rfl))
    try simp only [Act.put, List.getElem_toArray, List.getElem_cons_succ, List.getElem_cons_zero, List.setIfInBounds_toArray, List.set_cons_zero, List.set_cons_succ]
    refine wpAnyH_take (i := 16) (v := ?v46) rfl (by kernel_rfl) (by kernel_rfl) (by kernel_rfl) (fun _ _ _ h => h) (Or.inl ⟨by rfl, ?hy46⟩) (by assumption) ?rest46
    case hy46 => (intro wz hSw; (try dsimp only at hSw); first | (go_simp; done) | (go_simp; with_reducible rfl))
    try simp only [Act.put, List.getElem_toArray, List.getElem_cons_succ, List.getElem_cons_zero, List.setIfInBounds_toArray, List.set_cons_zero, List.set_cons_succ]
    refine wpAnyH_take (i := 17) (v := ?v47) rfl (by kernel_rfl) (by kernel_rfl) (by kernel_rfl) (fun _ _ _ h => h) (Or.inl ⟨by rfl, ?hy47⟩) (by assumption) ?rest47
    case hy47 => (intro wz hSw; (try dsimp only at hSw); first | (go_simp; done) | (go_simp; with_reducible rfl))
    try simp only [Act.put, List.getElem_toArray, List.getElem_cons_succ, List.getElem_cons_zero, List.setIfInBounds_toArray, List.set_cons_zero, List.set_cons_succ]
    refine wpAnyH_take (i := 18) (v := ?v48) rfl (by kernel_rfl) (by kernel_rfl) (by kernel_rfl) (fun _ _ _ h => h) (Or.inl ⟨by rfl, ?hy48⟩) (by assumption) ?rest48
    case hy48 => (intro wz hSw; (try dsimp only at hSw); first | (go_simp; done) | (go_simp; with_reducible rfl))
    try simp only [Act.put, List.getElem_toArray, List.getElem_cons_succ, List.getElem_cons_zero, List.setIfInBounds_toArray, List.set_cons_zero, List.set_cons_succ]
    refine wpAnyH_take (i := 19) (v := ?v49) rfl (by kernel_rfl) (by kernel_rfl) (by kernel_rfl) (fun _ _ _ h => h) (Or.inl ⟨by rfl, ?hy49⟩) (by assumption) ?rest49
    case hy49 => (intro wz hSw; (try dsimp only at hSw); first | (go_simp; done) | (go_simp; with_reducible rfl))
    try simp only [Act.put, List.getElem_toArray, List.getElem_cons_succ, List.getElem_cons_zero, List.setIfInBounds_toArray, List.set_cons_zero, List.set_cons_succ]
    refine wpAnyH_take (i := 20) (v := ?v50) rfl (by kernel_rfl) (by kernel_rfl) (by kernel_rfl) (fun _ _ _ h => h) (Or.inl ⟨by rfl, ?hy50⟩) (by assumption) ?rest50
    case hy50 => (intro wz hSw; (try dsimp only at hSw); first | (go_simp; done) | (go_simp; with_reducible rfl))
    try simp only [Act.put, List.getElem_toArray, List.getElem_cons_succ, List.getElem_cons_zero, List.setIfInBounds_toArray, List.set_cons_zero, List.set_cons_succ]
    refine wpAnyH_take (i := 21) (v := ?v51) rfl (by kernel_rfl) (by kernel_rfl) (by kernel_rfl) (fun _ _ _ h => h) (Or.inl ⟨by rfl, ?hy51⟩) (by assumption) ?rest51
    case hy51 => (intro wz hSw; (try dsimp only at hSw); first | (go_simp; done) | (go_simp; with_reducible rfl))
    try simp only [Act.put, List.getElem_toArray, List.getElem_cons_succ, List.getElem_cons_zero, List.setIfInBounds_toArray, List.set_cons_zero, List.set_cons_succ]
    refine wpAnyH_take (i := 22) (v := ?v52) rfl (by kernel_rfl) (by kernel_rfl) (by kernel_rfl) (fun _ _ _ h => h) (Or.inl ⟨by rfl, ?hy52⟩) (by assumption) ?rest52
    case hy52 => (intro wz hSw; (try dsimp only at hSw); have gz : w1.grownBy wz none := hSw.2.2.2.2.2.2.2.2.2.2.2.2.2; have dz := (S0.out.2.2.1.keep0 (gb_trans G1.out gz)).cells ad rfl a9 AL.out; rw [HN.out] at dz; first | (go_simp; done) | (go_simp; with_reducible rfl))
    try simp only [Act.put, List.getElem_toArray, List.getElem_cons_succ, List.getElem_cons_zero, List.setIfInBounds_toArray, List.set_cons_zero, List.set_cons_succ]
    refine wpAnyH_take (i := 23) (v := ?v53) rfl (by kernel_rfl) (by kernel_rfl) (by kernel_rfl) (fun _ _ _ h => h) (Or.inl ⟨by rfl, ?hy53⟩) (by assumption) ?rest53
    case hy53 => (intro wz hSw; (try dsimp only at hSw); first | (go_simp; done) | (go_simp; with_reducible rfl))
    try simp only [Act.put, List.getElem_toArray, List.getElem_cons_succ, List.getElem_cons_zero, List.setIfInBounds_toArray, List.set_cons_zero, List.set_cons_succ]
    refine wpAnyH_take (i := 24) (v := ?v54) rfl (by kernel_rfl) (by kernel_rfl) (by kernel_rfl) (fun _ _ _ h => h) (Or.inl ⟨by rfl, ?hy54⟩) (by assumption) ?rest54
    case hy54 => (intro wz hSw; (try dsimp only at hSw); have gz : w1.grownBy wz none := hSw.2.2.2.2.2.2.2.2.2.2.2.2.2; have vz := (S0.out.2.2.2.v.keep0 (gb_trans G1.out gz)).cells vd rfl n9 N2.out; rw [HBV.out] at vz; first | (go_simp; done) | (go_simp; with_reducible rfl))
    try simp only [Act.put, List.getElem_toArray, List.getElem_cons_succ, List.getElem_cons_zero, List.setIfInBounds_toArray, List.set_cons_zero, List.set_cons_succ]
    refine wpAnyH_take (i := 25) (v := ?v55) rfl (by kernel_rfl) (by kernel_rfl) (by kernel_rfl) (fun _ _ _ h => h) (Or.inl ⟨by rfl, ?hy55⟩) (by assumption) ?rest55
    case hy55 => (intro wz hSw; (try dsimp only at hSw); first | (go_simp; done) | (go_simp; with_reducible rfl))
    try simp only [Act.put, List.getElem_toArray, List.getElem_cons_succ, List.getElem_cons_zero, List.setIfInBounds_toArray, List.set_cons_zero, List.set_cons_succ]
    refine wpAnyH_done (by kernel_rfl) ?_ _
    clear hH1
    go_wp2_with fail
    refine (awake_any _).mono ?_
    rintro e wa ⟨rfl, g⟩
    have GA := Lib.hid (gb_trans GX.out g)
    clear g
    go_wp2
    go_ret
    exact ⟨rfl, GA.out⟩
  case false =>
    refine wpAnyH_take (i := 3) (v := ?v56) rfl (by kernel_rfl) (by kernel_rfl) (by kernel_rfl) (fun _ _ _ h => h) (Or.inl ⟨by rfl, ?hy56⟩) (by assumption) ?rest56
    case hy56 => (intro wz hSw; (try dsimp only at hSw); first | (go_simp; done) | (go_simp; with_reducible rfl))
    try simp only [Act.put, List.getElem_toArray, List.getElem_cons_succ, List.getElem_cons_zero, List.setIfInBounds_toArray, List.set_cons_zero, List.set_cons_succ]
    refine wpAnyH_take (i := 4) (v := ?v57) rfl (by kernel_rfl) (by kernel_rfl) (by kernel_rfl) (fun _ _ _ h => h) (Or.inl ⟨by rfl, ?hy57⟩) (by assumption) ?rest57
    case hy57 => (intro wz hSw; (try dsimp only at hSw); first | (go_simp; done) | (go_simp; with_reducible rfl))
    try simp only [Act.put, List.getElem_toArray, List.getElem_cons_succ, List.getElem_cons_zero, List.setIfInBounds_toArray, List.set_cons_zero, List.set_cons_succ]
    refine wpAnyH_take (i := 5) (v := ?v58) rfl (by kernel_rfl) (by kernel_rfl) (by kernel_rfl) (fun _ _ _ h => h) (Or.inl ⟨by rfl, ?hy58⟩) (by assumption) ?rest58
    case hy58 => (intro wz hSw; (try dsimp only at hSw); first | (go_simp; done) | (go_simp; with_reducible rfl))
    try simp only [Act.put, List.getElem_toArray, List.getElem_cons_succ, List.getElem_cons_zero, List.setIfInBounds_toArray, List.set_cons_zero, List.set_cons_succ]
    refine wpAnyH_take (i := 6) (v := ?v59) rfl (by kernel_rfl) (by kernel_rfl) (by kernel_rfl) (fun _ _ _ h => h) (Or.inl ⟨by rfl, ?hy59⟩) (by assumption) ?rest59
    case hy59 => (intro wz hSw; (try dsimp only at hSw); first | (go_simp; done) | (go_simp; with_reducible rfl))
    try simp only [Act.put, List.getElem_toArray, List.getElem_cons_succ, List.getElem_cons_zero, List.setIfInBounds_toArray, List.set_cons_zero, List.set_cons_succ]
    refine wpAnyH_take (i := 7) (v := ?v60) rfl (by kernel_rfl) (by kernel_rfl) (by kernel_rfl) (fun _ _ _ h => h) (Or.inl ⟨by rfl, ?hy60⟩) (by assumption) ?rest60
    case hy60 => (intro wz hSw; (try dsimp only at hSw); first | (go_simp; done) | (go_simp; with_reducible rfl))
    try simp only [Act.put, List.getElem_toArray, List.getElem_cons_succ, List.getElem_cons_zero, List.setIfInBounds_toArray, List.set_cons_zero, List.set_cons_succ]
    refine wpAnyH_take (i := 8) (v := ?v61) rfl (by kernel_rfl) (by kernel_rfl) (by kernel_rfl) (fun _ _ _ h => h) (Or.inl ⟨by rfl, ?hy61⟩) (by assumption) ?rest61
    case hy61 => (intro wz hSw; (try dsimp only at hSw); first | (go_simp; done) | (go_simp; with_reducible rfl))
    try simp only [Act.put, List.getElem_toArray, List.getElem_cons_succ, List.getElem_cons_zero, List.setIfInBounds_toArray, List.set_cons_zero, List.set_cons_succ]
    refine wpAnyH_take (i := 9) (v := ?v62) rfl (by kernel_rfl) (by kernel_rfl) (by kernel_rfl) (fun _ _ _ h => h) (Or.inl ⟨by rfl, ?hy62⟩) (by assumption) ?rest62
    case hy62 => (intro wz hSw; (try dsimp only at hSw); first | (go_simp; done) | (go_simp; with_reducible rfl))
    try simp only [Act.put, List.getElem_toArray, List.getElem_cons_succ, List.getElem_cons_zero, List.setIfInBounds_toArray, List.set_cons_zero, List.set_cons_succ]
    refine wpAnyH_take (i := 10) (v := ?v63) rfl (by kernel_rfl) (by kernel_rfl) (by kernel_rfl) (fun _ _ _ h => h) (Or.inl ⟨by rfl, ?hy63⟩) (by assumption) ?rest63
    case hy63 => (intro wz hSw; (try dsimp only at hSw); first | (go_simp; done) | (go_simp; with_reducible rfl))
    try simp only [Act.put, List.getElem_toArray, List.getElem_cons_succ, List.getElem_cons_zero, List.setIfInBounds_toArray, List.set_cons_zero, List.set_cons_succ]
    refine wpAnyH_take (i := 11) (v := ?v64) rfl (by kernel_rfl) (by kernel_rfl) (by kernel_rfl) (fun _ _ _ h => h) (Or.inl ⟨by rfl, ?hy64⟩) (by assumption) ?rest64
    case hy64 => (intro wz hSw; (try dsimp only at hSw); first | (go_simp; done) | (go_simp; with_reducible rfl))
    try simp only [Act.put, List.getElem_toArray, List.getElem_cons_succ, List.getElem_cons_zero, List.setIfInBounds_toArray, List.set_cons_zero, List.set_cons_succ]
    refine wpAnyH_take (i := 12) (v := ?v65) rfl (by kernel_rfl) (by kernel_rfl) (by kernel_rfl) (fun _ _ _ h => h) (Or.inl ⟨by rfl, ?hy65⟩) (by assumption) ?rest65
    case hy65 => (intro wz hSw; (try dsimp only at hSw); first | (go_simp; done) | (go_simp; with_reducible rfl))
    try simp only [Act.put, List.getElem_toArray, List.getElem_cons_succ, List.getElem_cons_zero, List.setIfInBounds_toArray, List.set_cons_zero, List.set_cons_succ]
    refine wpAnyH_take (i := 13) (v := ?v66) rfl (by kernel_rfl) (by kernel_rfl) (by kernel_rfl) (fun _ _ _ h => h) (Or.inl ⟨by rfl, ?hy66⟩) (by assumption) ?rest66
    case hy66 => (intro wz hSw; (try dsimp only at hSw); first | (go_simp; done) | (go_simp; with_reducible rfl))
    try simp only [Act.put, List.getElem_toArray, List.getElem_cons_succ, List.getElem_cons_zero, List.setIfInBounds_toArray, List.set_cons_zero, List.set_cons_succ]
    refine wpAnyH_take (i := 14) (v := ?v67) rfl (by kernel_rfl) (by kernel_rfl) (by kernel_rfl) (fun _ _ _ h => h) (Or.inl ⟨by rfl, ?hy67⟩) (by assumption) ?rest67
    case hy67 => (intro wz hSw; (try dsimp only at hSw); first | (go_simp; done) | (go_simp; with_reducible rfl))
    try simp only [Act.put, List.getElem_toArray, List.getElem_cons_succ, List.getElem_cons_zero, List.setIfInBounds_toArray, List.set_cons_zero, List.set_cons_succ]
    refine wpAnyH_take (i := 15) (v := ?v68) rfl (by kernel_rfl) (by kernel_rfl) (by kernel_rfl) (fun _ _ _ h => h) (Or.inl ⟨by rfl, ?hy68⟩) (by assumption) ?rest68
    case hy68 => (intro wz hSw; (try dsimp only at hSw); first | (go_simp; done) | (go_simp; with_reducible rfl))
    try simp only [Act.put, List.getElem_toArray, List.getElem_cons_succ, List.getElem_cons_zero, List.setIfInBounds_toArray, List.set_cons_zero, List.set_cons_succ]
    refine wpAnyH_take (i := 16) (v := ?v69) rfl (by kernel_rfl) (by kernel_rfl) (by kernel_rfl) (fun _ _ _ h => h) (Or.inl ⟨by rfl, ?hy69⟩) (by assumption) ?rest69
    case hy69 => (intro wz hSw; (try dsimp only at hSw); first | (go_simp; done) | (go_simp; with_reducible rfl))
    try simp only [Act.put, List.getElem_toArray, List.getElem_cons_succ, List.getElem_cons_zero, List.setIfInBounds_toArray, List.set_cons_zero, List.set_cons_succ]
    refine wpAnyH_take (i := 17) (v := ?v70) rfl (by kernel_rfl) (by kernel_rfl) (by kernel_rfl) (fun _ _ _ h => h) (Or.inl ⟨by rfl, ?hy70⟩) (by assumption) ?rest70
    case hy70 => (intro wz hSw; (try dsimp only at hSw); first | (go_simp; done) | (go_simp; with_reducible rfl))
    try simp only [Act.put, List.getElem_toArray, List.getElem_cons_succ, List.getElem_cons_zero, List.setIfInBounds_toArray, List.set_cons_zero, List.set_cons_succ]
    refine wpAnyH_take (i := 18) (v := ?v71) rfl (by kernel_rfl) (by kernel_rfl) (by kernel_rfl) (fun _ _ _ h => h) (Or.inl ⟨by rfl, ?hy71⟩) (by assumption) ?rest71
    case hy71 => (intro wz hSw; (try dsimp only at hSw); first | (go_simp; done) | (go_simp; with_reducible rfl))
    try simp only [Act.put, List.getElem_toArray, List.getElem_cons_succ, List.getElem_cons_zero, List.setIfInBounds_toArray, List.set_cons_zero, List.set_cons_succ]
    refine wpAnyH_take (i := 19) (v := ?v72) rfl (by kernel_rfl) (by kernel_rfl) (by kernel_rfl) (fun _ _ _ h => h) (Or.inl ⟨by rfl, ?hy72⟩) (by assumption) ?rest72
    case hy72 => (intro wz hSw; (try dsimp only at hSw); first | (go_simp; done) | (go_simp; with_reducible rfl))
    try simp only [Act.put, List.getElem_toArray, List.getElem_cons_succ, List.getElem_cons_zero, List.setIfInBounds_toArray, List.set_cons_zero, List.set_cons_succ]
    refine wpAnyH_take (i := 20) (v := ?v73) rfl (by kernel_rfl) (by kernel_rfl) (by kernel_rfl) (fun _ _ _ h => h) (Or.inl ⟨by rfl, ?hy73⟩) (by assumption) ?rest73
    case hy73 => (intro wz hSw; (try dsimp only at hSw); first | (go_simp; done) | (go_simp; with_reducible rfl))
    try simp only [Act.put, List.getElem_toArray, List.getElem_cons_succ, List.getElem_cons_zero, List.setIfInBounds_toArray, List.set_cons_zero, List.set_cons_succ]
    refine wpAnyH_take (i := 21) (v := ?v74) rfl (by kernel_rfl) (by kernel_rfl) (by kernel_rfl) (fun _ _ _ h => h) (Or.inl ⟨by rfl, ?hy74⟩) (by assumption) ?rest74
    case hy74 => (intro wz hSw; (try dsimp only at hSw); first | (go_simp; done) | (go_simp; with_reducible rfl))
    try simp only [Act.put, List.getElem_toArray, List.getElem_cons_succ, List.getElem_cons_zero, List.setIfInBounds_toArray, List.set_cons_zero, List.set_cons_succ]
    refine wpAnyH_take (i := 22) (v := ?v75) rfl (by kernel_rfl) (by kernel_rfl) (by kernel_rfl) (fun _ _ _ h => h) (Or.inl ⟨by rfl, ?hy75⟩) (by assumption) ?rest75
    case hy75 => (intro wz hSw; (try dsimp only at hSw); have gz : w1.grownBy wz none := hSw.2.2.2.2.2.2.2.2.2.2.2.2.2; have dz := (S0.out.2.2.1.keep0 (gb_trans G1.out gz)).cells ad rfl a9 AL.out; rw [HN.out] at dz; first | (go_simp; done) | (go_simp; with_reducible rfl))
    try simp only [Act.put, List.getElem_toArray, List.getElem_cons_succ, List.getElem_cons_zero, List.setIfInBounds_toArray, List.set_cons_zero, List.set_cons_succ]
    refine wpAnyH_take (i := 23) (v := ?v76) rfl (by kernel_rfl) (by kernel_rfl) (by kernel_rfl) (fun _ _ _ h => h) (Or.inl ⟨by rfl, ?hy76⟩) (by assumption) ?rest76
    case hy76 => (intro wz hSw; (try dsimp only at hSw); first | (go_simp; done) | (go_simp; with_reducible rfl))
    try simp only [Act.put, List.getElem_toArray, List.getElem_cons_succ, List.getElem_cons_zero, List.setIfInBounds_toArray, List.set_cons_zero, List.set_cons_succ]
    refine wpAnyH_take (i := 24) (v := ?v77) rfl (by kernel_rfl) (by kernel_rfl) (by kernel_rfl) (fun _ _ _ h => h) (Or.inl ⟨by rfl, ?hy77⟩) (by assumption) ?rest77
    case hy77 => (intro wz hSw; (try dsimp only at hSw); have gz : w1.grownBy wz none := hSw.2.2.2.2.2.2.2.2.2.2.2.2.2; have vz := (S0.out.2.2.2.v.keep0 (gb_trans G1.out gz)).cells vd rfl n9 N2.out; rw [HBV.out] at vz; first | (go_simp; done) | (go_simp; with_reducible rfl))
    try simp only [Act.put, List.getElem_toArray, List.getElem_cons_succ, List.getElem_cons_zero, List.setIfInBounds_toArray, List.set_cons_zero, List.set_cons_succ]
    refine wpAnyH_take (i := 25) (v := ?v78) rfl (by kernel_rfl) (by kernel_rfl) (by kernel_rfl) (fun _ _ _ h => h) (Or.inl ⟨by rfl, ?hy78⟩) (by assumption) ?rest78
    case hy78 => (intro wz hSw; (try dsimp only at hSw); first | (go_simp; done) | (go_simp; with_reducible rfl))
    try simp only [Act.put, List.getElem_toArray, List.getElem_cons_succ, List.getElem_cons_zero, List.setIfInBounds_toArray, List.set_cons_zero, List.set_cons_succ]
    refine wpAnyH_done (by kernel_rfl) ?_ _
    clear hH1
    have OM2 := Lib.hid (OM.out rfl)
    clear dl dh OM
    have QG := Lib.hid Q1.out
    have c0 := (B1.out.keep0 QG.out).cell 0
    have c1 := (B1.out.keep0 QG.out).cell 1
    have c2 := (B1.out.keep0 QG.out).cell 2
    have c3 := (B1.out.keep0 QG.out).cell 3
    have c4 := (B1.out.keep0 QG.out).cell 4
    have c5 := (B1.out.keep0 QG.out).cell 5
    have c6 := (B1.out.keep0 QG.out).cell 6
    have c7 := (B1.out.keep0 QG.out).cell 7
    have c8 := (B1.out.keep0 QG.out).cell 8
    dsimp at c0 c1 c2 c3 c4 c5 c6 c7 c8
    have GB := Lib.hid (gb_alloc qw1 (.cells #[.string nm, .slice ha hn hc, .slice ma mn mc, .slice r1 r2 r3, .slice a1 a2 a3, .slice t1 t2 t3, .slice s1 s2 s3, .slice k1 k2 k3, .slice none 0 0] 31) none)
    have B7 := Lib.hid (IsB.new qw1 31 #[.string nm, .slice ha hn hc, .slice ma mn mc, .slice r1 r2 r3, .slice a1 a2 a3, .slice t1 t2 t3, .slice s1 s2 s3, .slice k1 k2 k3, .slice none 0 0])
    go_upto_region 5 with fail
    have LS7 := Lib.hid (show bx < qw1.heap.size by have := B1.out.lt; have := QG.out.size; omega)
    have LW7 := Lib.hid GX.out.size
    generalize qw1.alloc (.cells #[.string nm, .slice ha hn hc, .slice ma mn mc, .slice r1 r2 r3, .slice a1 a2 a3, .slice t1 t2 t3, .slice s1 s2 s3, .slice k1 k2 k3, .slice none 0 0] 31) = w5 at *
    generalize qw1.heap.size = b7 at *
    have OS0 := Lib.hid (show ∃ qa qn qc, OmS w #[.string nm, .slice ha hn hc, .slice ma mn mc, .slice r1 r2 r3, .slice a1 a2 a3, .slice t1 t2 t3, .slice s1 s2 s3, .slice k1 k2 k3, .slice (some ad) dn dc] #[.slice (some vd) vn vc, .slice fa fn fc, .slice ta tn tc, .slice pa pn pc] #[.string nm, .slice ha hn hc, .slice ma mn mc, .slice r1 r2 r3, .slice a1 a2 a3, .slice t1 t2 t3, .slice s1 s2 s3, .slice k1 k2 k3, .slice qa qn qc] bx b7 w5.heap.size (.slice qa qn qc) (skL D a9 0) w5 from ⟨none, 0, 0, (B1.out.keep0 QG.out).keep0 GB.out, (B2.out.keep0 QG.out).keep0 GB.out, B7.out, by rw [skL_zero]; exact World.ownsRow_nil _ _ _ _, gb_trans GX.out GB.out, by have := LS7.out; omega, LW7.out, Nat.le_trans GX.out.size GB.out.size, Nat.le_refl _⟩)
    generalize w5.heap.size = base at *
    clear c0 c1 c2 c3 c4 c5 c6 c7 c8
    clear B1 B2 B7 GB GX QG LS7 LW7
    go_wp2
    go_loopw [8] (fun i wr => ∃ k : Nat, k ≤ dn ∧ i = .int .i64 k ∧ ∃ qa qn qc, OmS w #[.string nm, .slice ha hn hc, .slice ma mn mc, .slice r1 r2 r3, .slice a1 a2 a3, .slice t1 t2 t3, .slice s1 s2 s3, .slice k1 k2 k3, .slice (some ad) dn dc] #[.slice (some vd) vn vc, .slice fa fn fc, .slice ta tn tc, .slice pa pn pc] #[.string nm, .slice ha hn hc, .slice ma mn mc, .slice r1 r2 r3, .slice a1 a2 a3, .slice t1 t2 t3, .slice s1 s2 s3, .slice k1 k2 k3, .slice qa qn qc] bx b7 base (.slice qa qn qc) (skL D a9 k) wr) (fun i _ => dn - (intOf i).toNat)
    case atStart => exact ⟨0, Nat.zero_le _, rfl, OS0.out⟩
    case round =>
      clear OS0
      obtain ⟨k, hk, rfl, qa, qn, qc, hos⟩ := hrel
      have OS := Lib.hid hos
      clear hos
      have hw1 : IntKind.i64.wrap ((k : Int) + 1) = ((k + 1 : Nat) : Int) := by have := R.out.z.d; rw [IntKind.wrap_i64]; omega
      have c8 := OS.out.p.cell 8
      dsimp at c8
      by_cases hlt : k < dn
      · have hl : k < D.length := by rw [S0.out.2.2.1.len]; exact hlt
        have kk1 : (k : Int) < dn := by omega
        have kk0 : (0 : Int) ≤ (k : Int) := by omega
        by_cases hka : k = a9
        · subst hka
          have e1 : ((k : Int) != (k : Int)) = false := by simp
          have Z := Lib.hid (show OmS w #[.string nm, .slice ha hn hc, .slice ma mn mc, .slice r1 r2 r3, .slice a1 a2 a3, .slice t1 t2 t3, .slice s1 s2 s3, .slice k1 k2 k3, .slice (some ad) dn dc] #[.slice (some vd) vn vc, .slice fa fn fc, .slice ta tn tc, .slice pa pn pc] #[.string nm, .slice ha hn hc, .slice ma mn mc, .slice r1 r2 r3, .slice a1 a2 a3, .slice t1 t2 t3, .slice s1 s2 s3, .slice k1 k2 k3, .slice qa qn qc] bx b7 base (.slice qa qn qc) (skL D k (k + 1)) wr by rw [skL_same]; exact OS.out)
          go_wp2
          go_roundw
          case rel => exact ⟨k + 1, by omega, by go_num, qa, qn, qc, Z.out⟩
          case measure => simp [intOf]; omega
        · have e1 : ((k : Int) != (a9 : Int)) = true := by rw [bne_iff_ne]; omega
          have d1 := (S0.out.2.2.1.keep0 OS.out.g).cells ad rfl k hlt
          have SN := Lib.hid (skL_next D a9 k hl hka)
          have q8 := OS.out.q.cell 8
          dsimp at q8
          obtain ⟨x, hx⟩ : ∃ x, x = D.getD k 0 := ⟨_, rfl⟩
          have HX := Lib.hid hx
          rw [← hx] at SN d1
          clear hx
          go_upto_region 9 with fail
          have hF0 : (fun w' : World => w'.cell? ⟨b7, 8, none⟩ = some (.slice qa qn qc) ∧ w'.cell? ⟨bx, 8, none⟩ = some (.slice (some ad) dn dc) ∧ w'.cell? (ad.add k) = some (.int .i64 x)) wr.drew := ⟨(gb_drew wr none).cell q8 (by simp), (gb_drew wr none).cell c8 (by simp), (gb_drew wr none).cell d1 (by simp)⟩
          refine wp_region_S (fun w' : World => w'.cell? ⟨b7, 8, none⟩ = some (.slice qa qn qc) ∧ w'.cell? ⟨bx, 8, none⟩ = some (.slice (some ad) dn dc) ∧ w'.cell? (ad.add k) = some (.int .i64 x)) 10 (by kernel_rfl) ?_
          refine wpAnyS_pure (i := 0) (v := ?v79) rfl (by kernel_rfl) (by kernel_rfl) (by kernel_rfl) (by decide) (fun _ _ _ h => h) (Or.inl ⟨by rfl, ?hy79⟩) (Or.inr (by assumption)) ?rest79
          case hy79 => (intro wz hSw; (try dsimp only at hSw); first | (go_simp; done) | (go_simp; with_reducible rfl))
          try simp only [Act.put, List.getElem_toArray, List.getElem_cons_zero, List.setIfInBounds_toArray, List.set_cons_zero, List.set_cons_succ]
          refine wpAnyS_load 9 (i := 1) (v := ?v80) rfl (by kernel_rfl) (by kernel_rfl) (by kernel_rfl) (by kernel_rfl) (fun _ _ _ h => h) (Or.inl ⟨by rfl, ?hy80⟩) (by assumption) ?rest80
          case hy80 => (intro wz hSw; (try dsimp only at hSw); first | (go_simp; done) | (go_simp; with_reducible rfl))
          try simp only [Act.put, List.getElem_toArray, List.getElem_cons_succ, List.getElem_cons_zero, List.setIfInBounds_toArray, List.set_cons_zero, List.set_cons_succ]
          refine wpAnyS_pure (i := 2) (v := ?v81) rfl (by kernel_rfl) (by kernel_rfl) (by kernel_rfl) (by decide) (fun _ _ _ h => h) (Or.inl ⟨by rfl, ?hy81⟩) (Or.inr (by assumption)) ?rest81
          case hy81 => (intro wz hSw; (try dsimp only at hSw); first | (go_simp; done) | (go_simp; with_reducible rfl))
          try simp only [Act.put, List.getElem_toArray, List.getElem_cons_succ, List.getElem_cons_zero, List.setIfInBounds_toArray, List.set_cons_zero, List.set_cons_succ]
          refine wpAnyS_load 9 (i := 3) (v := ?v82) rfl (by kernel_rfl) (by kernel_rfl) (by kernel_rfl) (by kernel_rfl) (fun _ _ _ h => h) (Or.inl ⟨by rfl, ?hy82⟩) (by assumption) ?rest82
          case hy82 => (intro wz hSw; (try dsimp only at hSw); first | (go_simp; done) | (go_simp; with_reducible rfl))
          try simp only [Act.put, List.getElem_toArray, List.getElem_cons_succ, List.getElem_cons_zero, List.setIfInBounds_toArray, List.set_cons_zero, List.set_cons_succ]
          refine wpAnyS_pure (i := 4) (v := ?v83) rfl (by kernel_rfl) (by kernel_rfl) (by kernel_rfl) (by decide) (fun _ _ _ h => h) (Or.inl ⟨by rfl, ?hy83⟩) (Or.inr (by assumption)) ?rest83
          case hy83 => (intro wz hSw; (try dsimp only at hSw); first | (go_simp; done) | (go_simp; with_reducible rfl))
          try simp only [Act.put, List.getElem_toArray, List.getElem_cons_succ, List.getElem_cons_zero, List.setIfInBounds_toArray, List.set_cons_zero, List.set_cons_succ]
          refine wpAnyS_pure (i := 5) (v := ?v84) rfl (by kernel_rfl) (by kernel_rfl) (by kernel_rfl) (by decide) (fun _ _ _ h => h) (Or.inl ⟨by rfl, ?hy84⟩) (Or.inr (by assumption)) ?rest84
          case hy84 => (intro wz hSw; (try dsimp only at hSw); first | (go_simp; done) | (go_simp; with_reducible rfl))
          try simp only [Act.put, List.getElem_toArray, List.getElem_cons_succ, List.getElem_cons_zero, List.setIfInBounds_toArray, List.set_cons_zero, List.set_cons_succ]
          refine wpAnyS_load 9 (i := 6) (v := ?v85) rfl (by kernel_rfl) (by kernel_rfl) (by kernel_rfl) (by kernel_rfl) (fun _ _ _ h => h) (Or.inl ⟨by rfl, ?hy85⟩) (by assumption) ?rest85
          case hy85 => (intro wz hSw; (try dsimp only at hSw); first | (go_simp; done) | (go_simp; with_reducible rfl))
          try simp only [Act.put, List.getElem_toArray, List.getElem_cons_succ, List.getElem_cons_zero, List.setIfInBounds_toArray, List.set_cons_zero, List.set_cons_succ]
          refine wpAnyS_one (i := 7) (o := _) (by kernel_rfl) rfl (fun K hK => ?_)
          go_simp
          have GA1 := Lib.hid (gb_trans (gb_alloc wr (.cells #[.int .i64 x] 3) none) (gb_drew _ none))
          have OS1 := Lib.hid (OS.out.keep0 GA1.out)
          have hF1 : (fun w' : World => w'.cell? ⟨b7, 8, none⟩ = some (.slice qa qn qc) ∧ w'.cell? ⟨bx, 8, none⟩ = some (.slice (some ad) dn dc) ∧ w'.cell? (ad.add k) = some (.int .i64 x)) (wr.alloc (.cells #[.int .i64 x] 3)).drew := ⟨GA1.out.cell q8 (by simp), GA1.out.cell c8 (by simp), GA1.out.cell d1 (by simp)⟩
          have b1 : (wr.alloc (.cells #[.int .i64 x] 3)).drew.cell? ⟨wr.heap.size, 0, none⟩ = some (.int .i64 x) := (gb_drew _ none).cell ((IsB.new wr 3 #[.int .i64 x]).cell 0) (by simp)
          refine hK.out _ _ (Or.inr hF1) (fun _ => ?_)
          clear hK K hF0
          try simp only [Act.put, List.getElem_toArray, List.getElem_cons_succ, List.getElem_cons_zero, List.setIfInBounds_toArray, List.set_cons_zero, List.set_cons_succ]
          have LX := Lib.hid (skL_len D a9 k)
          clear GA1
          generalize (wr.alloc (.cells #[.int .i64 x] 3)).drew = wA at *
          refine wpAnyS_one (i := 8) (o := _) (by kernel_rfl) rfl (fun K hK => ?_)
          refine istep_any rfl _ _ rfl base _ (skL D a9 k) rfl OS1.out.o _ x rfl b1 (by have := LX.out; have := R.out.z.d; omega) OS1.out.hi ?_
          intro V9 w9 o9 g9
          have OS2 := Lib.hid (OS1.out.push g9 o9)
          obtain ⟨na, nc, rfl⟩ := own_shape o9
          clear o9 g9
          generalize (skL D a9 k ++ [x]).length = m9 at *
          have dz := (S0.out.2.2.1.keep0 OS2.out.g).cells ad rfl k hlt
          rw [← HX.out] at dz
          have hF2 : (fun w' : World => w'.cell? ⟨b7, 8, none⟩ = some (.slice qa qn qc) ∧ w'.cell? ⟨bx, 8, none⟩ = some (.slice (some ad) dn dc) ∧ w'.cell? (ad.add k) = some (.int .i64 x)) w9 := ⟨OS2.out.q.cell 8, OS2.out.p.cell 8, dz⟩
          clear hF1 b1 dz
          refine hK.out _ _ (Or.inr hF2) (fun _ => ?_)
          clear hK K
          try simp only [Act.put, List.getElem_toArray, List.getElem_cons_succ, List.getElem_cons_zero, List.setIfInBounds_toArray, List.set_cons_zero, List.set_cons_succ]
          refine wpAnyS_pure (i := 9) (v := ?v86) rfl (by kernel_rfl) (by kernel_rfl) (by kernel_rfl) (by decide) (fun _ _ _ h => h) (Or.inl ⟨by rfl, ?hy86⟩) (Or.inr (by assumption)) ?rest86
          case hy86 => (intro wz hSw; (try dsimp only at hSw); first | (go_simp; done) | (go_simp; with_reducible rfl))
          try simp only [Act.put, List.getElem_toArray, List.getElem_cons_succ, List.getElem_cons_zero, List.setIfInBounds_toArray, List.set_cons_zero, List.set_cons_succ]
          have q9 := hF2.1
          have f9 := OS2.out.q.free 8
          refine wpAnyS_one (i := 10) (o := _) (by kernel_rfl) rfl (fun K hK => ?_)
          go_simp
          refine hK.out _ _ (Or.inl (by kernel_rfl)) (fun _ => ?_)
          clear hK K
          try simp only [Act.put, List.getElem_toArray, List.getElem_cons_succ, List.getElem_cons_zero, List.setIfInBounds_toArray, List.set_cons_zero, List.set_cons_succ]
          refine wpAnyS_done (by kernel_rfl) ?_ _
          clear q9 f9 hF2
          have OS3 := Lib.hid (OS2.out.store (.slice na m9 nc))
          rw [← SN.out] at OS3
          go_wp2
          go_roundw
          case rel => exact ⟨k + 1, by omega, by go_num, na, m9, nc, OS3.out⟩
          case measure => simp [intOf]; omega
      · have hke : k = dn := by omega
        have kk1 : ¬ (k : Int) < dn := by omega
        have LD := Lib.hid S0.out.2.2.1.len
        obtain ⟨X, hX⟩ : ∃ X, X = skL D a9 k := ⟨_, rfl⟩
        have HXX := Lib.hid (show X = skL D a9 D.length by rw [LD.out, ← hke]; exact hX)
        rw [← hX] at OS
        clear hX
        have RX := Lib.hid (show ∀ x ∈ X, -9223372036854775808 ≤ x ∧ x ≤ 9223372036854775807 from fun x hx => S0.out.2.2.1.rng x (skL_sub D a9 _ x (by rw [← HXX.out]; exact hx)))
        obtain ⟨bs, hbs⟩ : ∃ bs, bs = emit H M D L := ⟨_, rfl⟩
        have HBS := Lib.hid hbs
        have HBQ := Lib.hid (show bs = emit H M X L by rw [hbs, HXX.out]; exact OM2.out.symm)
        clear hbs
        have PZh := Lib.hid (R.out.pz S0.out.1 S0.out.2.1 S0.out.2.2.2 NM.out)
        have EQ := Lib.hid (fun (W : World) (q : wr.grownBy W none) => demit_any W (.string nm) (.slice r1 r2 r3) (.slice a1 a2 a3) (.slice t1 t2 t3) (.slice s1 s2 s3) (.slice k1 k2 k3) ha ma qa hn hc mn mc qn qc (some vd) fa ta pa vn vc fn fc tn tc pn pc H M X L (S0.out.1.keep0 (gb_trans OS.out.g q)) (S0.out.2.1.keep0 (gb_trans OS.out.g q)) (si_own (OS.out.keep0 q).o RX.out) (S0.out.2.2.2.keep0 (gb_trans OS.out.g q)) PZh.out bs HBQ.out)
        have EP := Lib.hid (fun (W : World) (q : wr.grownBy W none) => demit_any W (.string nm) (.slice r1 r2 r3) (.slice a1 a2 a3) (.slice t1 t2 t3) (.slice s1 s2 s3) (.slice k1 k2 k3) ha ma (some ad) hn hc mn mc dn dc (some vd) fa ta pa vn vc fn fc tn tc pn pc H M D L (S0.out.1.keep0 (gb_trans OS.out.g q)) (S0.out.2.1.keep0 (gb_trans OS.out.g q)) (S0.out.2.2.1.keep0 (gb_trans OS.out.g q)) (S0.out.2.2.2.keep0 (gb_trans OS.out.g q)) PZh.out bs HBS.out)
        have ZQ := Lib.hid (fun (W : World) (q : wr.grownBy W none) => dsize_any W (.string nm) (.slice r1 r2 r3) (.slice a1 a2 a3) (.slice t1 t2 t3) (.slice s1 s2 s3) (.slice k1 k2 k3) ha ma qa hn hc mn mc qn qc (some vd) fa ta pa vn vc fn fc tn tc pn pc H M X L (S0.out.1.keep0 (gb_trans OS.out.g q)) (S0.out.2.1.keep0 (gb_trans OS.out.g q)) (si_own (OS.out.keep0 q).o RX.out) (S0.out.2.2.2.keep0 (gb_trans OS.out.g q)) PZh.out bs HBQ.out)
        have ZP := Lib.hid (fun (W : World) (q : wr.grownBy W none) => dsize_any W (.string nm) (.slice r1 r2 r3) (.slice a1 a2 a3) (.slice t1 t2 t3) (.slice s1 s2 s3) (.slice k1 k2 k3) ha ma (some ad) hn hc mn mc dn dc (some vd) fa ta pa vn vc fn fc tn tc pn pc H M D L (S0.out.1.keep0 (gb_trans OS.out.g q)) (S0.out.2.1.keep0 (gb_trans OS.out.g q)) (S0.out.2.2.1.keep0 (gb_trans OS.out.g q)) (S0.out.2.2.2.keep0 (gb_trans OS.out.g q)) PZh.out bs HBS.out)
        have sq : ((strOf bs).toList == (strOf bs).toList) = true := by simp
        have zq : ((bs.length : Int) == (bs.length : Int)) = true := by simp
        go_upto_region 10 with fail
        clear c8 kk1 hw1
        have KR := Lib.hid (fun (w' : World) (q0 : wr.grownBy w' none) => (⟨(OS.out.keep0 q0).p.cell 0, (OS.out.keep0 q0).p.cell 1, (OS.out.keep0 q0).p.cell 2, (OS.out.keep0 q0).p.cell 3, (OS.out.keep0 q0).p.cell 4, (OS.out.keep0 q0).p.cell 5, (OS.out.keep0 q0).p.cell 6, (OS.out.keep0 q0).p.cell 7, (OS.out.keep0 q0).p.cell 8, (OS.out.keep0 q0).e.cell 0, (OS.out.keep0 q0).e.cell 1, (OS.out.keep0 q0).e.cell 2, (OS.out.keep0 q0).e.cell 3, (OS.out.keep0 q0).q.cell 0, (OS.out.keep0 q0).q.cell 1, (OS.out.keep0 q0).q.cell 2, (OS.out.keep0 q0).q.cell 3, (OS.out.keep0 q0).q.cell 4, (OS.out.keep0 q0).q.cell 5, (OS.out.keep0 q0).q.cell 6, (OS.out.keep0 q0).q.cell 7, (OS.out.keep0 q0).q.cell 8, q0⟩ : (fun w' : World => w'.cell? ⟨bx, 0, none⟩ = some (.string nm) ∧ w'.cell? ⟨bx, 1, none⟩ = some (.slice ha hn hc) ∧ w'.cell? ⟨bx, 2, none⟩ = some (.slice ma mn mc) ∧ w'.cell? ⟨bx, 3, none⟩ = some (.slice r1 r2 r3) ∧ w'.cell? ⟨bx, 4, none⟩ = some (.slice a1 a2 a3) ∧ w'.cell? ⟨bx, 5, none⟩ = some (.slice t1 t2 t3) ∧ w'.cell? ⟨bx, 6, none⟩ = some (.slice s1 s2 s3) ∧ w'.cell? ⟨bx, 7, none⟩ = some (.slice k1 k2 k3) ∧ w'.cell? ⟨bx, 8, none⟩ = some (.slice (some ad) dn dc) ∧ w'.cell? ⟨bx + 1, 0, none⟩ = some (.slice (some vd) vn vc) ∧ w'.cell? ⟨bx + 1, 1, none⟩ = some (.slice fa fn fc) ∧ w'.cell? ⟨bx + 1, 2, none⟩ = some (.slice ta tn tc) ∧ w'.cell? ⟨bx + 1, 3, none⟩ = some (.slice pa pn pc) ∧ w'.cell? ⟨b7, 0, none⟩ = some (.string nm) ∧ w'.cell? ⟨b7, 1, none⟩ = some (.slice ha hn hc) ∧ w'.cell? ⟨b7, 2, none⟩ = some (.slice ma mn mc) ∧ w'.cell? ⟨b7, 3, none⟩ = some (.slice r1 r2 r3) ∧ w'.cell? ⟨b7, 4, none⟩ = some (.slice a1 a2 a3) ∧ w'.cell? ⟨b7, 5, none⟩ = some (.slice t1 t2 t3) ∧ w'.cell? ⟨b7, 6, none⟩ = some (.slice s1 s2 s3) ∧ w'.cell? ⟨b7, 7, none⟩ = some (.slice k1 k2 k3) ∧ w'.cell? ⟨b7, 8, none⟩ = some (.slice qa qn qc) ∧ wr.grownBy w' none) w'))
        have R0 := Lib.hid (gb_drew wr none)
        refine wp_region_held_drew (S := (fun w' : World => w'.cell? ⟨bx, 0, none⟩ = some (.string nm) ∧ w'.cell? ⟨bx, 1, none⟩ = some (.slice ha hn hc) ∧ w'.cell? ⟨bx, 2, none⟩ = some (.slice ma mn mc) ∧ w'.cell? ⟨bx, 3, none⟩ = some (.slice r1 r2 r3) ∧ w'.cell? ⟨bx, 4, none⟩ = some (.slice a1 a2 a3) ∧ w'.cell? ⟨bx, 5, none⟩ = some (.slice t1 t2 t3) ∧ w'.cell? ⟨bx, 6, none⟩ = some (.slice s1 s2 s3) ∧ w'.cell? ⟨bx, 7, none⟩ = some (.slice k1 k2 k3) ∧ w'.cell? ⟨bx, 8, none⟩ = some (.slice (some ad) dn dc) ∧ w'.cell? ⟨bx + 1, 0, none⟩ = some (.slice (some vd) vn vc) ∧ w'.cell? ⟨bx + 1, 1, none⟩ = some (.slice fa fn fc) ∧ w'.cell? ⟨bx + 1, 2, none⟩ = some (.slice ta tn tc) ∧ w'.cell? ⟨bx + 1, 3, none⟩ = some (.slice pa pn pc) ∧ w'.cell? ⟨b7, 0, none⟩ = some (.string nm) ∧ w'.cell? ⟨b7, 1, none⟩ = some (.slice ha hn hc) ∧ w'.cell? ⟨b7, 2, none⟩ = some (.slice ma mn mc) ∧ w'.cell? ⟨b7, 3, none⟩ = some (.slice r1 r2 r3) ∧ w'.cell? ⟨b7, 4, none⟩ = some (.slice a1 a2 a3) ∧ w'.cell? ⟨b7, 5, none⟩ = some (.slice t1 t2 t3) ∧ w'.cell? ⟨b7, 6, none⟩ = some (.slice s1 s2 s3) ∧ w'.cell? ⟨b7, 7, none⟩ = some (.slice k1 k2 k3) ∧ w'.cell? ⟨b7, 8, none⟩ = some (.slice qa qn qc) ∧ wr.grownBy w' none)) (by kernel_rfl) (KR.out _ R0.out) (fun hH0 => ?_)
        refine wpAnyH_take (i := 0) (v := ?v87) rfl (by kernel_rfl) (by kernel_rfl) (by kernel_rfl) (fun _ _ _ h => h) (Or.inl ⟨by rfl, ?hy87⟩) (by assumption) ?rest87
        case hy87 => (intro wz hSw; (try dsimp only at hSw); first | (go_simp; done) | (go_simp; with_reducible rfl))
        try simp only [Act.put, List.getElem_toArray, List.getElem_cons_zero, List.setIfInBounds_toArray, List.set_cons_zero, List.set_cons_succ]
        refine wpAnyH_take (i := 1) (v := ?v88) rfl (by kernel_rfl) (by kernel_rfl) (by kernel_rfl) (fun _ _ _ h => h) (Or.inl ⟨by rfl, ?hy88⟩) (by assumption) ?rest88
        case hy88 => (intro wz hSw; (try dsimp only at hSw); first | (go_simp; done) | (go_simp; with_reducible rfl))
        try simp only [Act.put, List.getElem_toArray, List.getElem_cons_succ, List.getElem_cons_zero, List.setIfInBounds_toArray, List.set_cons_zero, List.set_cons_succ]
        refine wpAnyH_take (i := 4) (v := ?v89) rfl (by kernel_rfl) (by kernel_rfl) (by kernel_rfl) (fun _ _ _ h => h) (Or.inl ⟨by rfl, ?hy89⟩) (by assumption) ?rest89
        case hy89 => (intro wz hSw; (try dsimp only at hSw); first | (go_simp; done) | (go_simp; with_reducible rfl))
        try simp only [Act.put, List.getElem_toArray, List.getElem_cons_succ, List.getElem_cons_zero, List.setIfInBounds_toArray, List.set_cons_zero, List.set_cons_succ]
        refine wpAnyH_take (i := 5) (v := ?v90) rfl (by kernel_rfl) (by kernel_rfl) (by kernel_rfl) (fun _ _ _ h => h) (Or.inl ⟨by rfl, ?hy90⟩) (by assumption) ?rest90
        case hy90 => (intro wz hSw; (try dsimp only at hSw); first | (go_simp; done) | (go_simp; with_reducible rfl))
        try simp only [Act.put, List.getElem_toArray, List.getElem_cons_succ, List.getElem_cons_zero, List.setIfInBounds_toArray, List.set_cons_zero, List.set_cons_succ]
        refine wpAnyH_ready (rs := [2]) (by kernel_rfl) (by simp) ?_
        refine AllReadyH.cons (o := _) rfl (fun K hK => ?_) AllReadyH.nil
        go_simp
        (with_reducible refine (EQ.out _ R0.out).mono ?_)
        rintro e rw1 ⟨V7, rfl, o, g⟩
        have O7 := Lib.hid o
        clear o
        obtain ⟨a7, c7, rfl⟩ := own_shape O7.out
        have R1 := Lib.hid (gb_trans R0.out g)
        clear g
        try dsimp only
        refine hK.out _ _ (KR.out _ R1.out) (fun hH1 => ?_)
        clear hK K hH0
        try simp only [Act.put, List.getElem_toArray, List.getElem_cons_succ, List.getElem_cons_zero, List.setIfInBounds_toArray, List.set_cons_zero, List.set_cons_succ]
        have KU := Lib.hid (fun (w' : World) (q0 : rw1.grownBy w' none) => (⟨(OS.out.keep0 (gb_trans R1.out q0)).p.cell 0, (OS.out.keep0 (gb_trans R1.out q0)).p.cell 1, (OS.out.keep0 (gb_trans R1.out q0)).p.cell 2, (OS.out.keep0 (gb_trans R1.out q0)).p.cell 3, (OS.out.keep0 (gb_trans R1.out q0)).p.cell 4, (OS.out.keep0 (gb_trans R1.out q0)).p.cell 5, (OS.out.keep0 (gb_trans R1.out q0)).p.cell 6, (OS.out.keep0 (gb_trans R1.out q0)).p.cell 7, (OS.out.keep0 (gb_trans R1.out q0)).p.cell 8, (OS.out.keep0 (gb_trans R1.out q0)).e.cell 0, (OS.out.keep0 (gb_trans R1.out q0)).e.cell 1, (OS.out.keep0 (gb_trans R1.out q0)).e.cell 2, (OS.out.keep0 (gb_trans R1.out q0)).e.cell 3, (OS.out.keep0 (gb_trans R1.out q0)).q.cell 0, (OS.out.keep0 (gb_trans R1.out q0)).q.cell 1, (OS.out.keep0 (gb_trans R1.out q0)).q.cell 2, (OS.out.keep0 (gb_trans R1.out q0)).q.cell 3, (OS.out.keep0 (gb_trans R1.out q0)).q.cell 4, (OS.out.keep0 (gb_trans R1.out q0)).q.cell 5, (OS.out.keep0 (gb_trans R1.out q0)).q.cell 6, (OS.out.keep0 (gb_trans R1.out q0)).q.cell 7, (OS.out.keep0 (gb_trans R1.out q0)).q.cell 8, q0⟩ : (fun w' : World => w'.cell? ⟨bx, 0, none⟩ = some (.string nm) ∧ w'.cell? ⟨bx, 1, none⟩ = some (.slice ha hn hc) ∧ w'.cell? ⟨bx, 2, none⟩ = some (.slice ma mn mc) ∧ w'.cell? ⟨bx, 3, none⟩ = some (.slice r1 r2 r3) ∧ w'.cell? ⟨bx, 4, none⟩ = some (.slice a1 a2 a3) ∧ w'.cell? ⟨bx, 5, none⟩ = some (.slice t1 t2 t3) ∧ w'.cell? ⟨bx, 6, none⟩ = some (.slice s1 s2 s3) ∧ w'.cell? ⟨bx, 7, none⟩ = some (.slice k1 k2 k3) ∧ w'.cell? ⟨bx, 8, none⟩ = some (.slice (some ad) dn dc) ∧ w'.cell? ⟨bx + 1, 0, none⟩ = some (.slice (some vd) vn vc) ∧ w'.cell? ⟨bx + 1, 1, none⟩ = some (.slice fa fn fc) ∧ w'.cell? ⟨bx + 1, 2, none⟩ = some (.slice ta tn tc) ∧ w'.cell? ⟨bx + 1, 3, none⟩ = some (.slice pa pn pc) ∧ w'.cell? ⟨b7, 0, none⟩ = some (.string nm) ∧ w'.cell? ⟨b7, 1, none⟩ = some (.slice ha hn hc) ∧ w'.cell? ⟨b7, 2, none⟩ = some (.slice ma mn mc) ∧ w'.cell? ⟨b7, 3, none⟩ = some (.slice r1 r2 r3) ∧ w'.cell? ⟨b7, 4, none⟩ = some (.slice a1 a2 a3) ∧ w'.cell? ⟨b7, 5, none⟩ = some (.slice t1 t2 t3) ∧ w'.cell? ⟨b7, 6, none⟩ = some (.slice s1 s2 s3) ∧ w'.cell? ⟨b7, 7, none⟩ = some (.slice k1 k2 k3) ∧ w'.cell? ⟨b7, 8, none⟩ = some (.slice qa qn qc) ∧ rw1.grownBy w' none) w'))
        refine wpAnyH_more (S2 := (fun w' : World => w'.cell? ⟨bx, 0, none⟩ = some (.string nm) ∧ w'.cell? ⟨bx, 1, none⟩ = some (.slice ha hn hc) ∧ w'.cell? ⟨bx, 2, none⟩ = some (.slice ma mn mc) ∧ w'.cell? ⟨bx, 3, none⟩ = some (.slice r1 r2 r3) ∧ w'.cell? ⟨bx, 4, none⟩ = some (.slice a1 a2 a3) ∧ w'.cell? ⟨bx, 5, none⟩ = some (.slice t1 t2 t3) ∧ w'.cell? ⟨bx, 6, none⟩ = some (.slice s1 s2 s3) ∧ w'.cell? ⟨bx, 7, none⟩ = some (.slice k1 k2 k3) ∧ w'.cell? ⟨bx, 8, none⟩ = some (.slice (some ad) dn dc) ∧ w'.cell? ⟨bx + 1, 0, none⟩ = some (.slice (some vd) vn vc) ∧ w'.cell? ⟨bx + 1, 1, none⟩ = some (.slice fa fn fc) ∧ w'.cell? ⟨bx + 1, 2, none⟩ = some (.slice ta tn tc) ∧ w'.cell? ⟨bx + 1, 3, none⟩ = some (.slice pa pn pc) ∧ w'.cell? ⟨b7, 0, none⟩ = some (.string nm) ∧ w'.cell? ⟨b7, 1, none⟩ = some (.slice ha hn hc) ∧ w'.cell? ⟨b7, 2, none⟩ = some (.slice ma mn mc) ∧ w'.cell? ⟨b7, 3, none⟩ = some (.slice r1 r2 r3) ∧ w'.cell? ⟨b7, 4, none⟩ = some (.slice a1 a2 a3) ∧ w'.cell? ⟨b7, 5, none⟩ = some (.slice t1 t2 t3) ∧ w'.cell? ⟨b7, 6, none⟩ = some (.slice s1 s2 s3) ∧ w'.cell? ⟨b7, 7, none⟩ = some (.slice k1 k2 k3) ∧ w'.cell? ⟨b7, 8, none⟩ = some (.slice qa qn qc) ∧ rw1.grownBy w' none)) (fun _ h => ⟨h.1, h.2.1, h.2.2.1, h.2.2.2.1, h.2.2.2.2.1, h.2.2.2.2.2.1, h.2.2.2.2.2.2.1, h.2.2.2.2.2.2.2.1, h.2.2.2.2.2.2.2.2.1, h.2.2.2.2.2.2.2.2.2.1, h.2.2.2.2.2.2.2.2.2.2.1, h.2.2.2.2.2.2.2.2.2.2.2.1, h.2.2.2.2.2.2.2.2.2.2.2.2.1, h.2.2.2.2.2.2.2.2.2.2.2.2.2.1, h.2.2.2.2.2.2.2.2.2.2.2.2.2.2.1, h.2.2.2.2.2.2.2.2.2.2.2.2.2.2.2.1, h.2.2.2.2.2.2.2.2.2.2.2.2.2.2.2.2.1, h.2.2.2.2.2.2.2.2.2.2.2.2.2.2.2.2.2.1, h.2.2.2.2.2.2.2.2.2.2.2.2.2.2.2.2.2.2.1, h.2.2.2.2.2.2.2.2.2.2.2.2.2.2.2.2.2.2.2.1, h.2.2.2.2.2.2.2.2.2.2.2.2.2.2.2.2.2.2.2.2.1, h.2.2.2.2.2.2.2.2.2.2.2.2.2.2.2.2.2.2.2.2.2.1, gb_trans R1.out (h.2.2.2.2.2.2.2.2.2.2.2.2.2.2.2.2.2.2.2.2.2.2)⟩) _ _ _ _ ?_
        have U0 := Lib.hid (gb_refl rw1 none)
        have hX0 : (fun w' : World => w'.cell? ⟨bx, 0, none⟩ = some (.string nm) ∧ w'.cell? ⟨bx, 1, none⟩ = some (.slice ha hn hc) ∧ w'.cell? ⟨bx, 2, none⟩ = some (.slice ma mn mc) ∧ w'.cell? ⟨bx, 3, none⟩ = some (.slice r1 r2 r3) ∧ w'.cell? ⟨bx, 4, none⟩ = some (.slice a1 a2 a3) ∧ w'.cell? ⟨bx, 5, none⟩ = some (.slice t1 t2 t3) ∧ w'.cell? ⟨bx, 6, none⟩ = some (.slice s1 s2 s3) ∧ w'.cell? ⟨bx, 7, none⟩ = some (.slice k1 k2 k3) ∧ w'.cell? ⟨bx, 8, none⟩ = some (.slice (some ad) dn dc) ∧ w'.cell? ⟨bx + 1, 0, none⟩ = some (.slice (some vd) vn vc) ∧ w'.cell? ⟨bx + 1, 1, none⟩ = some (.slice fa fn fc) ∧ w'.cell? ⟨bx + 1, 2, none⟩ = some (.slice ta tn tc) ∧ w'.cell? ⟨bx + 1, 3, none⟩ = some (.slice pa pn pc) ∧ w'.cell? ⟨b7, 0, none⟩ = some (.string nm) ∧ w'.cell? ⟨b7, 1, none⟩ = some (.slice ha hn hc) ∧ w'.cell? ⟨b7, 2, none⟩ = some (.slice ma mn mc) ∧ w'.cell? ⟨b7, 3, none⟩ = some (.slice r1 r2 r3) ∧ w'.cell? ⟨b7, 4, none⟩ = some (.slice a1 a2 a3) ∧ w'.cell? ⟨b7, 5, none⟩ = some (.slice t1 t2 t3) ∧ w'.cell? ⟨b7, 6, none⟩ = some (.slice s1 s2 s3) ∧ w'.cell? ⟨b7, 7, none⟩ = some (.slice k1 k2 k3) ∧ w'.cell? ⟨b7, 8, none⟩ = some (.slice qa qn qc) ∧ rw1.grownBy w' none) rw1 := KU.out _ (gb_refl _ _)
        clear hH1
        have hH0 := hX0
        clear hX0
        refine wpAnyH_take (i := 3) (v := ?v91) rfl (by kernel_rfl) (by kernel_rfl) (by kernel_rfl) (fun _ _ _ h => h) (Or.inl ⟨by rfl, ?hy91⟩) (by assumption) ?rest91
        case hy91 => (intro wz hSw; (try dsimp only at hSw); have gz : rw1.grownBy wz none := hSw.2.2.2.2.2.2.2.2.2.2.2.2.2.2.2.2.2.2.2.2.2.2; have cz := conv_str wz a7 bs.length c7 bs ((own_slr O7.out).keep0 gz); first | (go_simp; done) | (go_simp; with_reducible rfl))
        try simp only [Act.put, List.getElem_toArray, List.getElem_cons_succ, List.getElem_cons_zero, List.setIfInBounds_toArray, List.set_cons_zero, List.set_cons_succ]
        refine wpAnyH_ready (rs := [6]) (by kernel_rfl) (by simp) ?_
        refine AllReadyH.cons (o := _) rfl (fun K hK => ?_) AllReadyH.nil
        go_simp
        (with_reducible refine (EP.out _ (gb_trans R1.out U0.out)).mono ?_)
        rintro e uw1 ⟨V8, rfl, o, g⟩
        have O8 := Lib.hid o
        clear o
        obtain ⟨a8, c8, rfl⟩ := own_shape O8.out
        have U1 := Lib.hid (gb_trans U0.out g)
        clear g
        try dsimp only
        refine hK.out _ _ (KU.out _ U1.out) (fun hH1 => ?_)
        clear hK K hH0
        try simp only [Act.put, List.getElem_toArray, List.getElem_cons_succ, List.getElem_cons_zero, List.setIfInBounds_toArray, List.set_cons_zero, List.set_cons_succ]
        have KY := Lib.hid (fun (w' : World) (q0 : uw1.grownBy w' none) => (⟨(OS.out.keep0 (gb_trans R1.out (gb_trans U1.out q0))).p.cell 0, (OS.out.keep0 (gb_trans R1.out (gb_trans U1.out q0))).p.cell 1, (OS.out.keep0 (gb_trans R1.out (gb_trans U1.out q0))).p.cell 2, (OS.out.keep0 (gb_trans R1.out (gb_trans U1.out q0))).p.cell 3, (OS.out.keep0 (gb_trans R1.out (gb_trans U1.out q0))).p.cell 4, (OS.out.keep0 (gb_trans R1.out (gb_trans U1.out q0))).p.cell 5, (OS.out.keep0 (gb_trans R1.out (gb_trans U1.out q0))).p.cell 6, (OS.out.keep0 (gb_trans R1.out (gb_trans U1.out q0))).p.cell 7, (OS.out.keep0 (gb_trans R1.out (gb_trans U1.out q0))).p.cell 8, (OS.out.keep0 (gb_trans R1.out (gb_trans U1.out q0))).e.cell 0, (OS.out.keep0 (gb_trans R1.out (gb_trans U1.out q0))).e.cell 1, (OS.out.keep0 (gb_trans R1.out (gb_trans U1.out q0))).e.cell 2, (OS.out.keep0 (gb_trans R1.out (gb_trans U1.out q0))).e.cell 3, (OS.out.keep0 (gb_trans R1.out (gb_trans U1.out q0))).q.cell 0, (OS.out.keep0 (gb_trans R1.out (gb_trans U1.out q0))).q.cell 1, (OS.out.keep0 (gb_trans R1.out (gb_trans U1.out q0))).q.cell 2, (OS.out.keep0 (gb_trans R1.out (gb_trans U1.out q0))).q.cell 3, (OS.out.keep0 (gb_trans R1.out (gb_trans U1.out q0))).q.cell 4, (OS.out.keep0 (gb_trans R1.out (gb_trans U1.out q0))).q.cell 5, (OS.out.keep0 (gb_trans R1.out (gb_trans U1.out q0))).q.cell 6, (OS.out.keep0 (gb_trans R1.out (gb_trans U1.out q0))).q.cell 7, (OS.out.keep0 (gb_trans R1.out (gb_trans U1.out q0))).q.cell 8, q0⟩ : (fun w' : World => w'.cell? ⟨bx, 0, none⟩ = some (.string nm) ∧ w'.cell? ⟨bx, 1, none⟩ = some (.slice ha hn hc) ∧ w'.cell? ⟨bx, 2, none⟩ = some (.slice ma mn mc) ∧ w'.cell? ⟨bx, 3, none⟩ = some (.slice r1 r2 r3) ∧ w'.cell? ⟨bx, 4, none⟩ = some (.slice a1 a2 a3) ∧ w'.cell? ⟨bx, 5, none⟩ = some (.slice t1 t2 t3) ∧ w'.cell? ⟨bx, 6, none⟩ = some (.slice s1 s2 s3) ∧ w'.cell? ⟨bx, 7, none⟩ = some (.slice k1 k2 k3) ∧ w'.cell? ⟨bx, 8, none⟩ = some (.slice (some ad) dn dc) ∧ w'.cell? ⟨bx + 1, 0, none⟩ = some (.slice (some vd) vn vc) ∧ w'.cell? ⟨bx + 1, 1, none⟩ = some (.slice fa fn fc) ∧ w'.cell? ⟨bx + 1, 2, none⟩ = some (.slice ta tn tc) ∧ w'.cell? ⟨bx + 1, 3, none⟩ = some (.slice pa pn pc) ∧ w'.cell? ⟨b7, 0, none⟩ = some (.string nm) ∧ w'.cell? ⟨b7, 1, none⟩ = some (.slice ha hn hc) ∧ w'.cell? ⟨b7, 2, none⟩ = some (.slice ma mn mc) ∧ w'.cell? ⟨b7, 3, none⟩ = some (.slice r1 r2 r3) ∧ w'.cell? ⟨b7, 4, none⟩ = some (.slice a1 a2 a3) ∧ w'.cell? ⟨b7, 5, none⟩ = some (.slice t1 t2 t3) ∧ w'.cell? ⟨b7, 6, none⟩ = some (.slice s1 s2 s3) ∧ w'.cell? ⟨b7, 7, none⟩ = some (.slice k1 k2 k3) ∧ w'.cell? ⟨b7, 8, none⟩ = some (.slice qa qn qc) ∧ uw1.grownBy w' none) w'))
        refine wpAnyH_more (S2 := (fun w' : World => w'.cell? ⟨bx, 0, none⟩ = some (.string nm) ∧ w'.cell? ⟨bx, 1, none⟩ = some (.slice ha hn hc) ∧ w'.cell? ⟨bx, 2, none⟩ = some (.slice ma mn mc) ∧ w'.cell? ⟨bx, 3, none⟩ = some (.slice r1 r2 r3) ∧ w'.cell? ⟨bx, 4, none⟩ = some (.slice a1 a2 a3) ∧ w'.cell? ⟨bx, 5, none⟩ = some (.slice t1 t2 t3) ∧ w'.cell? ⟨bx, 6, none⟩ = some (.slice s1 s2 s3) ∧ w'.cell? ⟨bx, 7, none⟩ = some (.slice k1 k2 k3) ∧ w'.cell? ⟨bx, 8, none⟩ = some (.slice (some ad) dn dc) ∧ w'.cell? ⟨bx + 1, 0, none⟩ = some (.slice (some vd) vn vc) ∧ w'.cell? ⟨bx + 1, 1, none⟩ = some (.slice fa fn fc) ∧ w'.cell? ⟨bx + 1, 2, none⟩ = some (.slice ta tn tc) ∧ w'.cell? ⟨bx + 1, 3, none⟩ = some (.slice pa pn pc) ∧ w'.cell? ⟨b7, 0, none⟩ = some (.string nm) ∧ w'.cell? ⟨b7, 1, none⟩ = some (.slice ha hn hc) ∧ w'.cell? ⟨b7, 2, none⟩ = some (.slice ma mn mc) ∧ w'.cell? ⟨b7, 3, none⟩ = some (.slice r1 r2 r3) ∧ w'.cell? ⟨b7, 4, none⟩ = some (.slice a1 a2 a3) ∧ w'.cell? ⟨b7, 5, none⟩ = some (.slice t1 t2 t3) ∧ w'.cell? ⟨b7, 6, none⟩ = some (.slice s1 s2 s3) ∧ w'.cell? ⟨b7, 7, none⟩ = some (.slice k1 k2 k3) ∧ w'.cell? ⟨b7, 8, none⟩ = some (.slice qa qn qc) ∧ uw1.grownBy w' none)) (fun _ h => ⟨h.1, h.2.1, h.2.2.1, h.2.2.2.1, h.2.2.2.2.1, h.2.2.2.2.2.1, h.2.2.2.2.2.2.1, h.2.2.2.2.2.2.2.1, h.2.2.2.2.2.2.2.2.1, h.2.2.2.2.2.2.2.2.2.1, h.2.2.2.2.2.2.2.2.2.2.1, h.2.2.2.2.2.2.2.2.2.2.2.1, h.2.2.2.2.2.2.2.2.2.2.2.2.1, h.2.2.2.2.2.2.2.2.2.2.2.2.2.1, h.2.2.2.2.2.2.2.2.2.2.2.2.2.2.1, h.2.2.2.2.2.2.2.2.2.2.2.2.2.2.2.1, h.2.2.2.2.2.2.2.2.2.2.2.2.2.2.2.2.1, h.2.2.2.2.2.2.2.2.2.2.2.2.2.2.2.2.2.1, h.2.2.2.2.2.2.2.2.2.2.2.2.2.2.2.2.2.2.1, h.2.2.2.2.2.2.2.2.2.2.2.2.2.2.2.2.2.2.2.1, h.2.2.2.2.2.2.2.2.2.2.2.2.2.2.2.2.2.2.2.2.1, h.2.2.2.2.2.2.2.2.2.2.2.2.2.2.2.2.2.2.2.2.2.1, gb_trans U1.out (h.2.2.2.2.2.2.2.2.2.2.2.2.2.2.2.2.2.2.2.2.2.2)⟩) _ _ _ _ ?_
        have Y0 := Lib.hid (gb_refl uw1 none)
        have hX0 : (fun w' : World => w'.cell? ⟨bx, 0, none⟩ = some (.string nm) ∧ w'.cell? ⟨bx, 1, none⟩ = some (.slice ha hn hc) ∧ w'.cell? ⟨bx, 2, none⟩ = some (.slice ma mn mc) ∧ w'.cell? ⟨bx, 3, none⟩ = some (.slice r1 r2 r3) ∧ w'.cell? ⟨bx, 4, none⟩ = some (.slice a1 a2 a3) ∧ w'.cell? ⟨bx, 5, none⟩ = some (.slice t1 t2 t3) ∧ w'.cell? ⟨bx, 6, none⟩ = some (.slice s1 s2 s3) ∧ w'.cell? ⟨bx, 7, none⟩ = some (.slice k1 k2 k3) ∧ w'.cell? ⟨bx, 8, none⟩ = some (.slice (some ad) dn dc) ∧ w'.cell? ⟨bx + 1, 0, none⟩ = some (.slice (some vd) vn vc) ∧ w'.cell? ⟨bx + 1, 1, none⟩ = some (.slice fa fn fc) ∧ w'.cell? ⟨bx + 1, 2, none⟩ = some (.slice ta tn tc) ∧ w'.cell? ⟨bx + 1, 3, none⟩ = some (.slice pa pn pc) ∧ w'.cell? ⟨b7, 0, none⟩ = some (.string nm) ∧ w'.cell? ⟨b7, 1, none⟩ = some (.slice ha hn hc) ∧ w'.cell? ⟨b7, 2, none⟩ = some (.slice ma mn mc) ∧ w'.cell? ⟨b7, 3, none⟩ = some (.slice r1 r2 r3) ∧ w'.cell? ⟨b7, 4, none⟩ = some (.slice a1 a2 a3) ∧ w'.cell? ⟨b7, 5, none⟩ = some (.slice t1 t2 t3) ∧ w'.cell? ⟨b7, 6, none⟩ = some (.slice s1 s2 s3) ∧ w'.cell? ⟨b7, 7, none⟩ = some (.slice k1 k2 k3) ∧ w'.cell? ⟨b7, 8, none⟩ = some (.slice qa qn qc) ∧ uw1.grownBy w' none) uw1 := KY.out _ (gb_refl _ _)
        clear hH1
        have hH0 := hX0
        clear hX0
        refine wpAnyH_take (i := 7) (v := ?v92) rfl (by kernel_rfl) (by kernel_rfl) (by kernel_rfl) (fun _ _ _ h => h) (Or.inl ⟨by rfl, ?hy92⟩) (by assumption) ?rest92
        case hy92 => (intro wz hSw; (try dsimp only at hSw); have gz : uw1.grownBy wz none := hSw.2.2.2.2.2.2.2.2.2.2.2.2.2.2.2.2.2.2.2.2.2.2; have cz := conv_str wz a8 bs.length c8 bs ((own_slr O8.out).keep0 gz); first | (go_simp; done) | (go_simp; with_reducible rfl))
        try simp only [Act.put, List.getElem_toArray, List.getElem_cons_succ, List.getElem_cons_zero, List.setIfInBounds_toArray, List.set_cons_zero, List.set_cons_succ]
        refine wpAnyH_take (i := 8) (v := ?v93) rfl (by kernel_rfl) (by kernel_rfl) (by kernel_rfl) (fun _ _ _ h => h) (Or.inl ⟨by rfl, ?hy93⟩) (by assumption) ?rest93
        case hy93 => (intro wz hSw; (try dsimp only at hSw); first | (go_simp; done) | (go_simp; with_reducible rfl))
        try simp only [Act.put, List.getElem_toArray, List.getElem_cons_succ, List.getElem_cons_zero, List.setIfInBounds_toArray, List.set_cons_zero, List.set_cons_succ]
        refine wpAnyH_take (i := 9) (v := ?v94) rfl (by kernel_rfl) (by kernel_rfl) (by kernel_rfl) (fun _ _ _ h => h) (Or.inl ⟨by rfl, ?hy94⟩) (by assumption) ?rest94
        case hy94 => (intro wz hSw; (try dsimp only at hSw); first | (go_simp; done) | (go_simp; with_reducible rfl))
        try simp only [Act.put, List.getElem_toArray, List.getElem_cons_succ, List.getElem_cons_zero, List.setIfInBounds_toArray, List.set_cons_zero, List.set_cons_succ]
        refine wpAnyH_take (i := 10) (v := ?v95) rfl (by kernel_rfl) (by kernel_rfl) (by kernel_rfl) (fun _ _ _ h => h) (Or.inl ⟨by rfl, ?hy95⟩) (by assumption) ?rest95
        case hy95 => (intro wz hSw; (try dsimp only at hSw); first | (go_simp; done) | (go_simp; with_reducible rfl))
        try simp only [Act.put, List.getElem_toArray, List.getElem_cons_succ, List.getElem_cons_zero, List.setIfInBounds_toArray, List.set_cons_zero, List.set_cons_succ]
        refine wpAnyH_take (i := 11) (v := ?v96) rfl (by kernel_rfl) (by kernel_rfl) (by kernel_rfl) (fun _ _ _ h => h) (Or.inl ⟨by rfl, ?hy96⟩) (by assumption) ?rest96
        case hy96 => (intro wz hSw; (try dsimp only at hSw); first | (go_simp; done) | (go_simp; with_reducible rfl))
        try simp only [Act.put, List.getElem_toArray, List.getElem_cons_succ, List.getElem_cons_zero, List.setIfInBounds_toArray, List.set_cons_zero, List.set_cons_succ]
        refine wpAnyH_take (i := 13) (v := ?v97) rfl (by kernel_rfl) (by kernel_rfl) (by kernel_rfl) (fun _ _ _ h => h) (Or.inl ⟨by rfl, ?hy97⟩) (by assumption) ?rest97
        case hy97 => (intro wz hSw; (try dsimp only at hSw); first | (go_simp; done) | (go_simp; with_reducible rfl))
        try simp only [Act.put, List.getElem_toArray, List.getElem_cons_succ, List.getElem_cons_zero, List.setIfInBounds_toArray, List.set_cons_zero, List.set_cons_succ]
        refine wpAnyH_take (i := 14) (v := ?v98) rfl (by kernel_rfl) (by kernel_rfl) (by kernel_rfl) (fun _ _ _ h => h) (Or.inl ⟨by rfl, ?hy98⟩) (by assumption) ?rest98
        case hy98 => (intro wz hSw; (try dsimp only at hSw); first | (go_simp; done) | (go_simp; with_reducible rfl))
        try simp only [Act.put, List.getElem_toArray, List.getElem_cons_succ, List.getElem_cons_zero, List.setIfInBounds_toArray, List.set_cons_zero, List.set_cons_succ]
        refine wpAnyH_ready (rs := [12]) (by kernel_rfl) (by simp) ?_
        refine AllReadyH.cons (o := _) rfl (fun K hK => ?_) AllReadyH.nil
        go_simp
        (with_reducible refine (ZQ.out _ (gb_trans R1.out (gb_trans U1.out Y0.out))).mono ?_)
        rintro e yw1 ⟨rfl, g⟩
        have Y1 := Lib.hid (gb_trans Y0.out g)
        clear g
        try dsimp only
        refine hK.out _ _ (KY.out _ Y1.out) (fun hH1 => ?_)
        clear hK K hH0
        try simp only [Act.put, List.getElem_toArray, List.getElem_cons_succ, List.getElem_cons_zero, List.setIfInBounds_toArray, List.set_cons_zero, List.set_cons_succ]
        refine wpAnyH_ready (rs := [15]) (by kernel_rfl) (by simp) ?_
        refine AllReadyH.cons (o := _) rfl (fun K hK => ?_) AllReadyH.nil
        go_simp
        (with_reducible refine (ZP.out _ (gb_trans R1.out (gb_trans U1.out Y1.out))).mono ?_)
        rintro e yw2 ⟨rfl, g⟩
        have Y2 := Lib.hid (gb_trans Y1.out g)
        clear g
        try dsimp only
        refine hK.out _ _ (KY.out _ Y2.out) (fun hH2 => ?_)
        clear hK K hH1
        try simp only [Act.put, List.getElem_toArray, List.getElem_cons_succ, List.getElem_cons_zero, List.setIfInBounds_toArray, List.set_cons_zero, List.set_cons_succ]
        refine wpAnyH_take (i := 16) (v := ?v99) rfl (by kernel_rfl) (by kernel_rfl) (by kernel_rfl) (fun _ _ _ h => h) (Or.inl ⟨by rfl, ?hy99⟩) (by assumption) ?rest99
        case hy99 => (intro wz hSw; (try dsimp only at hSw); first | (go_simp; done) | (go_simp; with_reducible rfl))
        try simp only [Act.put, List.getElem_toArray, List.getElem_cons_succ, List.getElem_cons_zero, List.setIfInBounds_toArray, List.set_cons_zero, List.set_cons_succ]
        refine wpAnyH_take (i := 17) (v := ?v100) rfl (by kernel_rfl) (by kernel_rfl) (by kernel_rfl) (fun _ _ _ h => h) (Or.inl ⟨by rfl, ?hy100⟩) (by assumption) ?rest100
        case hy100 => (intro wz hSw; (try dsimp only at hSw); first | (go_simp; done) | (go_simp; with_reducible rfl))
        try simp only [Act.put, List.getElem_toArray, List.getElem_cons_succ, List.getElem_cons_zero, List.setIfInBounds_toArray, List.set_cons_zero, List.set_cons_succ]
        refine wpAnyH_take (i := 18) (v := ?v101) rfl (by kernel_rfl) (by kernel_rfl) (by kernel_rfl) (fun _ _ _ h => h) (Or.inl ⟨by rfl, ?hy101⟩) (by assumption) ?rest101
        case hy101 => (intro wz hSw; (try dsimp only at hSw); first | (go_simp; done) | (go_simp; with_reducible rfl))
        try simp only [Act.put, List.getElem_toArray, List.getElem_cons_succ, List.getElem_cons_zero, List.setIfInBounds_toArray, List.set_cons_zero, List.set_cons_succ]
        refine wpAnyH_ready (rs := [19]) (by kernel_rfl) (by simp) ?_
        refine AllReadyH.cons (o := _) rfl (fun K hK => ?_) AllReadyH.nil
        go_simp
        (with_reducible refine (awake_any _).mono ?_)
        rintro e yw3 ⟨rfl, g⟩
        have Y3 := Lib.hid (gb_trans Y2.out g)
        clear g
        try dsimp only
        refine hK.out _ _ (KY.out _ Y3.out) (fun hH3 => ?_)
        clear hK K hH2
        try simp only [Act.put, List.getElem_toArray, List.getElem_cons_succ, List.getElem_cons_zero, List.setIfInBounds_toArray, List.set_cons_zero, List.set_cons_succ]
        refine wpAnyH_take (i := 20) (v := ?v102) rfl (by kernel_rfl) (by kernel_rfl) (by kernel_rfl) (fun _ _ _ h => h) (Or.inl ⟨by rfl, ?hy102⟩) (by assumption) ?rest102
        case hy102 => (intro wz hSw; (try dsimp only at hSw); first | (go_simp; done) | (go_simp; with_reducible rfl))
        try simp only [Act.put, List.getElem_toArray, List.getElem_cons_succ, List.getElem_cons_zero, List.setIfInBounds_toArray, List.set_cons_zero, List.set_cons_succ]
        refine wpAnyH_take (i := 21) (v := ?v103) rfl (by kernel_rfl) (by kernel_rfl) (by kernel_rfl) (fun _ _ _ h => h) (Or.inl ⟨by rfl, ?hy103⟩) (by assumption) ?rest103
        case hy103 => (intro wz hSw; (try dsimp only at hSw); first | (go_simp; done) | (go_simp; with_reducible rfl))
        try simp only [Act.put, List.getElem_toArray, List.getElem_cons_succ, List.getElem_cons_zero, List.setIfInBounds_toArray, List.set_cons_zero, List.set_cons_succ]
        refine wpAnyH_done (by kernel_rfl) ?_ _
        clear hH3
        go_wp2
        go_ret
        exact ⟨rfl, gb_trans OS.out.g (gb_trans R1.out (gb_trans U1.out Y3.out))⟩
end Go.Proofs.Ytglgjkggjpfahaa
