/- Control: a flow is copied into memory of its own; the program's Node; no condition but that the tree lies in memory, is not large and its conditions are short. -/
import Derived.Test.YtfjeonoihdgdoaaCnL
import Derived.Test.YtfjeonoihdgdoaaCnJ
import Derived.Test.YtfjeonoihdgdoaaExK
namespace Go.Proofs.Ytfjeonoihdgdoaa
open Go.RowKit
set_option linter.unusedVariables false
theorem ctm_ofL {w : World} {ad : Addr} : ∀ (M : List CV) (i0 : Nat), (∀ i, i < M.length → (w.cell? (ad.add ((i0 + i) * 5)) = some (.int .i64 (M.getD i cz).k) ∧ w.cell? ⟨(ad.add ((i0 + i) * 5)).block, (ad.add ((i0 + i) * 5)).off + 1, none⟩ = some (.int .i64 (M.getD i cz).t) ∧ w.cell? ⟨(ad.add ((i0 + i) * 5)).block, (ad.add ((i0 + i) * 5)).off + 2, none⟩ = some (M.getD i cz).c.v ∧
      w.cell? ⟨(ad.add ((i0 + i) * 5)).block, (ad.add ((i0 + i) * 5)).off + 3, none⟩ = some (M.getD i cz).s.v ∧ w.cell? ⟨(ad.add ((i0 + i) * 5)).block, (ad.add ((i0 + i) * 5)).off + 4, none⟩ = some (M.getD i cz).u.v) ∧ VM w (M.getD i cz)) → CTm w (CT.ofL M) ad i0 := by
  intro M
  induction M with
  | nil => intro i0 h; trivial
  | cons x M ih =>
    intro i0 h
    have q := h 0 (by simp)
    refine ctm_mk q.1 q.2 (ih (i0 + 1) (fun i hi => ?_))
    have q2 := h (i + 1) (by simpa using hi)
    rw [show i0 + (i + 1) = i0 + 1 + i by omega] at q2
    simpa using q2
/-- The cells of a row in the making: those of the nodes that are there. -/
def Rw5 (xs : List Value) (M : List CV) : Prop := ∀ i, i < M.length → ∀ r, r < 5 → xs[i * 5 + r]? = (cel (M.getD i cz))[r]?
theorem rw5_put {xs : List Value} {M : List CV} (h : Rw5 xs M) (y : CV) (hl : M.length * 5 + 5 ≤ xs.length) :
    Rw5 (((((xs.set (M.length * 5) (.int .i64 y.k)).set (M.length * 5 + 1) (.int .i64 y.t)).set (M.length * 5 + 2) (.slice y.c.a y.c.n y.c.c)).set (M.length * 5 + 3) (.slice y.s.a y.s.n y.s.c)).set (M.length * 5 + 4) (.slice y.u.a y.u.n y.u.c)) (M ++ [y]) := by
  intro i hi r hr
  rw [List.length_append, List.length_singleton] at hi
  by_cases e : i = M.length
  · subst e
    have g : (M ++ [y]).getD M.length cz = y := by simp
    rw [g]
    rcases (show r = 0 ∨ r = 1 ∨ r = 2 ∨ r = 3 ∨ r = 4 by omega) with rfl | rfl | rfl | rfl | rfl <;>
      · simp only [List.getElem?_set, List.length_set, cel]
        (repeat' split) <;> first | omega | rfl | simp_all
  · have g : (M ++ [y]).getD i cz = M.getD i cz := by
      rw [List.getD_eq_getElem?_getD, List.getD_eq_getElem?_getD, List.getElem?_append_left (by omega)]
    rw [g, ← h i (by omega) r hr]
    simp only [List.getElem?_set]
    repeat rw [if_neg (by omega)]
set_option maxRecDepth 100000 in
set_option maxHeartbeats 16000000 in
theorem clone_rec : ∀ (m : Nat) (T : CT) (s : Sl) (w : World), T.cnt < m → T.cnt ≤ 1000000 → Cnd T → ST w s T → Calls Try.prog 78 #[.slice s.a s.n s.c] w (RetCT T w) := by
  intro m
  induction m with
  | zero => intro T s w h; omega
  | succ m ih =>
    intro T s w hm hc hcd hS
    obtain ⟨sa, sn, sc⟩ := s
    have NO := Lib.hid (fun (w : World) (x : CV) h1 h2 h3 h4 => cnode_of m ih w x h1 h2 h3 h4)
    have HM := Lib.hid hm
    have HC := Lib.hid hc
    have HCD := Lib.hid hcd
    have HS := Lib.hid hS
    have SL := Lib.hid hS.len
    have scap : sn ≤ sc := hS.cap
    have sb : sn ≤ 1000000 := by have := hS.len; have := CT.len_cnt T; dsimp only at *; omega
    obtain ⟨i0, hi, hz0, hz1, hz2⟩ := info_parts infoCN
    have HI := Lib.hid hi
    clear ih hm hc hcd hS hi
    dsimp only at *
    go_enter Try.func78, Try.ntmps78
    go_upto_region 2 with (at_make; refine wpList_make_full _ rfl _ _ 28 rfl w.heap.size 63 i0 _ 5 Try.underlying28 HI.out hz0 hz1 .i64 .i64 _ _ sn rfl rfl (by first | rfl | omega) (by first | rfl | omega) (by rw [hz2]; omega) (by unfold maxLen; omega) (Nat.le_refl _) ?_; intro w2 hown hg2; have OW := Lib.hid hown; have G2 := Lib.hid hg2; clear hown hg2)
    obtain ⟨g, hgz⟩ : ∃ g, g = w.heap.size := ⟨_, rfl⟩
    have HG := Lib.hid hgz
    rw [← hgz] at OW ⊢
    generalize (madeCells _ _).toList = xs0 at OW
    clear hgz
    go_wp2
    go_loopw [11] (fun s11 wr => ∃ (j : Nat) (xs : List Value) (M : List CV), s11 = .int .i64 (j : Int) ∧ j ≤ sn ∧ M.length = j ∧ wr.ownsRow g 63 5 (.slice (some ⟨g, 0, none⟩) sn sn) sn xs ∧ Rw5 xs M ∧ (∀ i x, i < j → T.drop i = x.ct (T.drop (i + 1)) → EqN x (M.getD i cz)) ∧ (∀ y ∈ M, ∀ w9 : World, (∀ k, g + 1 ≤ k → k < wr.heap.size → w9.heap[k]? = wr.heap[k]?) → VM w9 y) ∧ w.grownBy wr none) (fun s11 _ => sn - (intOf s11).toNat)
    case atStart => exact ⟨0, xs0, [], rfl, Nat.zero_le _, rfl, OW.out, (fun i h => by cases h), (fun i x h => by omega), (fun y hy => by cases hy), G2.out⟩
    case round =>
      obtain ⟨j, xs, M, rfl, hj, hml, how, hrw, heq, hvm, hgr⟩ := hrel
      have OX := Lib.hid how
      have RW := Lib.hid hrw
      have EQ := Lib.hid heq
      have VMs := Lib.hid hvm
      have GR := Lib.hid hgr
      have ML := Lib.hid hml
      clear how hrw heq hvm hgr hml OW G2
      by_cases hlt : j < sn
      · have i1 : (j : Int) < sn := by omega
        have i0' : (0 : Int) ≤ (j : Int) := by omega
        obtain ⟨x, ad, hsa, hd, ⟨c0, c1, c2, c3, c4⟩, vm⟩ := HS.out.at_ j hlt
        dsimp only at hsa
        subst hsa
        have HD := Lib.hid hd
        have hcn := cnt_th hd
        have hcd := cnd_at HCD.out hd
        have XL := Lib.hid (OX.out.1)
        have NX := Lib.hid (fun (w2 : World) (g : w.grownBy w2 none) => NO.out w2 x ⟨by have := HM.out; omega, by have := HC.out; omega, hcd.2.1⟩ ⟨by have := HM.out; omega, by have := HC.out; omega, hcd.2.2⟩ hcd.1 (vm.keep0 g))
        unfold RetCV at NX
        replace c0 := GR.out.cell c0 (by simp)
        replace c1 := GR.out.cell c1 (by simp)
        replace c2 := GR.out.cell c2 (by simp)
        replace c3 := GR.out.cell c3 (by simp)
        replace c4 := GR.out.cell c4 (by simp)
        have GA := Lib.hid (gb_al (o := .cells #[.int .i64 x.k, .int .i64 x.t, .slice x.c.a x.c.n x.c.c, .slice x.s.a x.s.n x.s.c, .slice x.u.a x.u.n x.u.c] 63) GR.out)
        have OA := Lib.hid (own_keep0 OX.out (gb_alloc wr (.cells #[.int .i64 x.k, .int .i64 x.t, .slice x.c.a x.c.n x.c.c, .slice x.s.a x.s.n x.s.c, .slice x.u.a x.u.n x.u.c] 63) none))
        clear hcn hd vm hcd
        go_wp2_with fail
        refine (NX.out _ GA.out).mono ?_
        rintro e w7 ⟨y, rfl, eq7, rob7, g7⟩
        have EQ7 := Lib.hid eq7
        have RO7 := Lib.hid rob7
        have G7 := Lib.hid g7
        have GY := Lib.hid (gb_trans GA.out g7)
        have O7 := Lib.hid (own_keep0 OA.out g7)
        clear eq7 rob7 g7 c0 c1 c2 c3 c4 NX
        have xl : xs.length = sn * 5 := XL.out
        have gc : ∀ r, r < 5 → ∃ v, w7.cell? ⟨g, j * 5 + r, none⟩ = some v := fun r hr => by
          rw [O7.out.cellAt (j * 5 + r) (by omega)]
          exact ⟨_, List.getElem?_eq_getElem (show j * 5 + r < xs.length by omega)⟩
        obtain ⟨v0, d0⟩ := gc 0 (by decide)
        obtain ⟨v1, d1⟩ := gc 1 (by decide)
        obtain ⟨v2, d2⟩ := gc 2 (by decide)
        obtain ⟨v3, d3⟩ := gc 3 (by decide)
        obtain ⟨v4, d4⟩ := gc 4 (by decide)
        rw [Nat.add_zero] at d0
        have f0 : w7.frozen? ⟨g, j * 5, none⟩ = false := O7.out.frozenAt _
        have f1 : w7.frozen? ⟨g, j * 5 + 1, none⟩ = false := O7.out.frozenAt _
        have f2 : w7.frozen? ⟨g, j * 5 + 2, none⟩ = false := O7.out.frozenAt _
        have f3 : w7.frozen? ⟨g, j * 5 + 3, none⟩ = false := O7.out.frozenAt _
        have f4 : w7.frozen? ⟨g, j * 5 + 4, none⟩ = false := O7.out.frozenAt _
        have XL2 := Lib.hid xl
        clear gc xl
        go_wp2
        go_roundw
        case rel =>
          have ml := ML.out
          have s0 := (World.ownsRow.stored O7.out (j * 5) (.int .i64 y.k)).1
          have s1 := (World.ownsRow.stored s0 (j * 5 + 1) (.int .i64 y.t)).1
          have s2 := (World.ownsRow.stored s1 (j * 5 + 2) (.slice y.c.a y.c.n y.c.c)).1
          have s3 := (World.ownsRow.stored s2 (j * 5 + 3) (.slice y.s.a y.s.n y.s.c)).1
          have s4 := (World.ownsRow.stored s3 (j * 5 + 4) (.slice y.u.a y.u.n y.u.c)).1
          have far : ∀ k, g + 1 ≤ k → (((((w7.setCell ⟨g, j * 5, none⟩ (.int .i64 y.k)).setCell ⟨g, j * 5 + 1, none⟩ (.int .i64 y.t)).setCell ⟨g, j * 5 + 2, none⟩ (.slice y.c.a y.c.n y.c.c)).setCell ⟨g, j * 5 + 3, none⟩ (.slice y.s.a y.s.n y.s.c)).setCell ⟨g, j * 5 + 4, none⟩ (.slice y.u.a y.u.n y.u.c)).heap[k]? = w7.heap[k]? := by
            intro k hk
            iterate 5 rw [Below.heap_setCell _ _ _ _ (by dsimp only; omega)]
          have hsz : (((((w7.setCell ⟨g, j * 5, none⟩ (.int .i64 y.k)).setCell ⟨g, j * 5 + 1, none⟩ (.int .i64 y.t)).setCell ⟨g, j * 5 + 2, none⟩ (.slice y.c.a y.c.n y.c.c)).setCell ⟨g, j * 5 + 3, none⟩ (.slice y.s.a y.s.n y.s.c)).setCell ⟨g, j * 5 + 4, none⟩ (.slice y.u.a y.u.n y.u.c)).heap.size = w7.heap.size := by simp [World.setCell]
          have rw7 := rw5_put RW.out y (by have := XL2.out; omega)
          rw [ml] at rw7
          have hgl : w.heap.size ≤ g := by rw [HG.out]; exact Nat.le_refl _
          refine ⟨j + 1, _, M ++ [y], by go_num, by omega, by simp [ml], s4, rw7, fun i x' hi hd' => ?_, fun y' hy w9 k => ?_, gb_put (gb_put (gb_put (gb_put (gb_put GY.out hgl) hgl) hgl) hgl) hgl⟩
          · by_cases e : i = j
            · subst e
              have g9 : (M ++ [y]).getD i cz = y := by rw [← ml]; simp
              rw [g9]
              have q : x' = x := by
                have h := hd'.symm.trans HD.out
                unfold CV.ct at h
                obtain ⟨xk, xt, ⟨ca, cn, cc⟩, N, ⟨ta, tn, tc⟩, th, ⟨ea, en, ec⟩, el⟩ := x
                obtain ⟨xk', xt', ⟨ca', cn', cc'⟩, N', ⟨ta', tn', tc'⟩, th', ⟨ea', en', ec'⟩, el'⟩ := x'
                simp only [CT.cons.injEq] at h
                simp_all
              rw [q]
              exact EQ7.out
            · have g9 : (M ++ [y]).getD i cz = M.getD i cz := by
                rw [List.getD_eq_getElem?_getD, List.getD_eq_getElem?_getD, List.getElem?_append_left (by omega)]
              rw [g9]
              exact EQ.out i x' (by omega) hd'
          · have kk : ∀ i, g + 1 ≤ i → i < w7.heap.size → w9.heap[i]? = w7.heap[i]? := fun i h1 h2 => (k i h1 (by rw [hsz]; exact h2)).trans (far i h1)
            have lt := (World.ownsRow.lt OX.out g rfl).2
            rcases List.mem_append.1 hy with h | h
            · refine VMs.out y' h w9 (fun i h1 h2 => ?_)
              have ga := gb_trans (gb_alloc wr (.cells #[.int .i64 x.k, .int .i64 x.t, .slice x.c.a x.c.n x.c.c, .slice x.s.a x.s.n x.s.c, .slice x.u.a x.u.n x.u.c] 63) none) G7.out
              rw [kk i h1 (Nat.lt_of_lt_of_le h2 ga.size), ga.block i h2 (by simp)]
            · rw [List.mem_singleton.1 h]
              refine RO7.out w9 (fun i h1 h2 => kk i ?_ h2)
              rw [sz_al] at h1
              omega
        case measure => simp [intOf]; omega
      · have hje : j = sn := by omega
        have i1 : ¬ (j : Int) < sn := by omega
        subst hje
        have CTw := Lib.hid (show ∀ w9 : World, (∀ k, w.heap.size ≤ k → k < wr.heap.size → w9.heap[k]? = wr.heap[k]?) → ST w9 ⟨some ⟨g, 0, none⟩, j, j⟩ (CT.ofL M) by
          intro w9 k
          have hgl : w.heap.size = g := HG.out.symm
          have o9 := own_rob OX.out (w2 := w9) (fun i h1 h2 => k i (by omega) h2)
          have ml := ML.out
          refine ⟨by rw [CT.ofL_len, ml], (fun e => by cases e), Nat.le_refl _, fun ad e => ?_⟩
          cases e
          refine ctm_ofL M 0 (fun i hi => ?_)
          rw [Nat.zero_add, addr0c]
          have z : ∀ r, r < 5 → w9.cell? ⟨g, i * 5 + r, none⟩ = (cel (M.getD i cz))[r]? := fun r hr => (o9.cellAt (i * 5 + r) (by omega)).trans (RW.out i hi r hr)
          refine ⟨⟨(z 0 (by decide)).trans rfl, (z 1 (by decide)).trans rfl, (z 2 (by decide)).trans rfl, (z 3 (by decide)).trans rfl, (z 4 (by decide)).trans rfl⟩, VMs.out _ ?_ w9 (fun i h1 h2 => k i (by omega) h2)⟩
          rw [List.getD_eq_getElem?_getD, List.getElem?_eq_getElem hi]
          exact List.getElem_mem _)
        have EQV := Lib.hid (show T.eqv (CT.ofL M) from eqv_ofL T M (by rw [ML.out, SL.out]) (fun i x h1 h2 => EQ.out i x (by rw [SL.out] at h1; exact h1) h2))
        go_wp2
        go_ret
        exact ⟨⟨some ⟨g, 0, none⟩, j, j⟩, CT.ofL M, rfl, EQV.out, CTw.out, GR.out⟩
end Go.Proofs.Ytfjeonoihdgdoaa
