/- The queue's iterator All, which ranges over the heap's. -/
import Derived.Test.YtmldoeigemippaaPqH
namespace Go.Proofs.Ytmldoeigemippaa
open Go.RowKit Go.Shelf
set_option linter.unusedVariables false
attribute [local go_sem] Oper.semAt_some

/-- How the codes of a queue are handed to a round. -/
def enA (E : Int → Int) (x : Int) : Array Value := #[.int .i64 (kC x), .int .i64 (E (tC x))]
set_option maxRecDepth 100000 in
set_option maxHeartbeats 4000000 in
/-- The queue's iterator. -/
theorem all_seq (n : Nat) (hn1 : 1 ≤ n) (TC : TypeId → Prop) (hT1 : ¬ TC 60) (hT2 : ¬ TC 65) (hT3 : ¬ TC 57) (W0 W : World) (q s B : Nat) (cap p : Int) (V : Value) (E : Int → Int) (H : List Int) (hB : IsB W B 24 #[.pointer (some ⟨q, 0, none⟩)]) (hP : QS W0 q s cap p V E H W) (hc : ∀ x, H.count x ≤ 1) (hn : H.length ≤ 100000) :
    SeqX Fence.wide n Try.prog 28 #[.pointer (some ⟨B, 0, none⟩)] (enA E) TC TQ (drH H.length H) W := by
  intro l J Jx hJ hJx hY h0
  have HJ := Lib.hid hJ
  have HJx := Lib.hid hJx
  have HY := Lib.hid hY
  have H0 := Lib.hid h0
  have HB := Lib.hid hB
  have HP := Lib.hid hP
  have HC := Lib.hid hc
  have HN := Lib.hid hn
  have HT1 := Lib.hid hT1
  have HT2 := Lib.hid hT2
  have HT3 := Lib.hid hT3
  obtain ⟨Z, hZ⟩ : ∃ Z, Z = drH H.length H := ⟨_, rfl⟩
  rw [← hZ] at HY ⊢
  have HZ := Lib.hid hZ
  obtain ⟨a0, d0, rfl⟩ := hP.hq.row.shape
  have G1 := Lib.hid (gb_alloc W (.cells #[.func (.yield l) #[] #[]] 57) none)
  have Y1 := Lib.hid (IsB.new W 57 #[.func (.yield l) #[] #[]])
  have Q1 := Lib.hid (HP.out.keep0 G1.out)
  have b1 : (W.alloc (.cells #[.func (.yield l) #[] #[]] 57)).cell? ⟨B, 0, none⟩ = some (.pointer (some ⟨q, 0, none⟩)) := (HB.out.keep0 G1.out).cell 0
  have q1 : (W.alloc (.cells #[.func (.yield l) #[] #[]] 57)).cell? ⟨q, 0, none⟩ = some (.pointer (some ⟨s, 0, none⟩)) := Q1.out.qv.cell 0
  have s1 : (W.alloc (.cells #[.func (.yield l) #[] #[]] 57)).cell? ⟨s, 2, none⟩ = some (.slice a0 H.length d0) := Q1.out.hq.var.cell 2
  have MD := Lib.hid (made_yes _ q s Q1.out.qv)
  clear hJ hJx hY h0 hB hP hc hn hT1 hT2 hT3 hZ
  show CallsIn _ _ _ _ #[.func (.yield l) #[] #[], .pointer (some ⟨B, 0, none⟩)] _ _
  refine callsIn_of_wp_marks Try.func28 rfl trivial ?_ rfl
  simp only [Try.ntmps28, List.size_toArray, List.length_cons, List.length_nil, Nat.reduceAdd, Nat.reduceSub, Array.replicate_succ, Array.replicate_zero, List.push_toArray, List.append_toArray, List.nil_append, List.cons_append]
  gi_wp2_with (first
    | ((first | refine ⟨trivial, wd _, ?_⟩ | refine ⟨trivial, ?_⟩); gi_at_call 20; refine (callsIn_wide.2 MD.out).mono ?_; clear MD; rintro e w4 ⟨rfl, rfl⟩)
    | ((first | refine ⟨trivial, wd _, ?_⟩ | refine ⟨trivial, ?_⟩); gi_at_call 29; refine (callsIn_wide.2 (order_any _ _ _ _)).mono ?_; rintro e w4 ⟨rfl, rfl⟩))
  obtain ⟨w, hw⟩ : ∃ w, w = (W.alloc (.cells #[.func (.yield l) #[] #[]] 57)).alloc (.cells #[.slice a0 H.length d0] 60) := ⟨_, rfl⟩
  have g2 : (W.alloc (.cells #[.func (.yield l) #[] #[]] 57)).grownBy w none := by rw [hw]; exact gb_alloc _ _ none
  have G2 := Lib.hid g2
  have B2 := Lib.hid (show IsB w (W.heap.size + 1) 60 #[.slice a0 H.length d0] by
    rw [hw]
    have k := IsB.new (W.alloc (.cells #[.func (.yield l) #[] #[]] 57)) 60 #[.slice a0 H.length d0]
    rwa [alloc_sz] at k)
  have Y2 := Lib.hid (Y1.out.keep0 g2)
  have R2 := Lib.hid (Q1.out.hq.row.keep0 g2)
  have SZ := Lib.hid (show W.heap.size ≤ w.heap.size from (gb_trans G1.out g2).size)
  have J2 := Lib.hid (HJ.out _ _ _ H0.out (Kt.of_gb (gb_trans G1.out g2)))
  obtain ⟨z, hz⟩ : ∃ z, z = W.heap.size := ⟨_, rfl⟩
  rw [← hz] at HJ HJx HY B2 Y2 SZ
  have mI := Lib.hid (fun (A C : World) (k : Kt (KI TQ w.heap.size) A C) => (k.mono (KI.mono SZ.out fun _ => id) : Kt (KI TQ z) A C))
  have nY := Lib.hid (fun (m : Nat) (b : Nat) (h : KI TQ b m (.cells #[.func (.yield l) #[] #[]] 57 (0, 0))) => (show False by rcases h.2 with e | e <;> exact absurd e (by decide)))
  clear G1 Y1 Q1 b1 q1 s1 H0 HB HP g2 G2
  rw [← hw, ← hz]
  clear hw hz
  refine wpIn_rangeX rfl hn1 (gf := 30) (lb := #[.pointer (some ⟨z + 1, 0, none⟩)]) rfl trivial (enters_of Try.func30 (by kernel_rfl) rfl) (encs := enI E) (TC := TC) (TI := TQ) (xs := Z)
    (fun W2 gW hsz => by rw [HZ.out]; exact ord_seq (n - 1) TC HT1.out HT2.out W2 (z + 1) _ _ E H (B2.out.keep0 gW) (R2.out.keep0 gW) HC.out HN.out) (fun _ => rfl)
    (fun pre w5 => J pre w5 ∧ IsB w5 z 57 #[.func (.yield l) #[] #[]])
    (fun c pre w5 => c = .ret ∧ Jx pre w5)
    (fun t A C h k => ⟨HJ.out _ _ _ h.1 (mI.out _ _ k), k.isb h.2 (nY.out _ _)⟩)
    (fun c t A C h k => ⟨h.1, HJx.out _ _ _ h.2 (mI.out _ _ k)⟩) ⟨J2.out, Y2.out⟩ ?round ?done ?stop
  case round =>
    rintro l2 pre x W5 hp ⟨j5, y5⟩
    have HPX := Lib.hid hp
    have J5 := Lib.hid j5
    have Y5 := Lib.hid y5
    clear hp j5 y5
    dsimp only [enI]
    gi_wp2
    refine ⟨gb_alloc _ _ none, fun W6 k6 kk6 => ?_⟩
    have X6 : IsB W6 W5.heap.size 65 #[.int .i64 (kC x), .int .u64 (tC x), .int .i64 (E (tC x))] := k6.isb (IsB.new _ _ _) id
    have J6 := HJ.out _ _ _ J5.out (mI.out _ _ kk6)
    have Y6 := Lib.hid (kk6.isb Y5.out (nY.out _ _))
    have x0 := X6.cell 0
    have x2 := X6.cell 2
    have y0 := Y6.out.cell 0
    dsimp at x0 x2 y0
    obtain ⟨fn, tmps, assign, body, hy, hR⟩ := yield_any (n - 1 - 1 - 1) (HY.out pre x W6 HPX.out J6)
    dsimp only [enA] at hy
    clear k6 kk6 X6 J6
    gi_wp2_with ((first | refine ⟨trivial, wd _, ?_⟩ | refine ⟨wd _, ?_⟩ | refine ⟨trivial, ?_⟩ | skip); refine (round_in l2 hR).mono ?_; clear hR; rintro e w7 (⟨rfl, j7, k7⟩ | ⟨rfl, j7, k7⟩))
    · exact ⟨k7.mono (KB.mono SZ.out), j7, k7.isb Y6.out HT3.out⟩
    · exact ⟨k7.mono (KB.mono SZ.out), rfl, j7⟩
  case done =>
    rintro D w5 hD ⟨j5, y5⟩ hK
    gi_wp2
    refine ⟨by simp, .inl ⟨_, _, rfl, run_takeDeferred hK, ?_⟩⟩
    refine ⟨_, results_none rfl _ _ _, ⟨_, rfl⟩, .inl (HJ.out _ _ _ j5 (Kt.put _ fun o h => by rw [hK] at h; cases h; exact ⟨Nat.le_trans SZ.out hD, trivial⟩))⟩
  case stop =>
    rintro D c pre w5 hD hp ⟨rfl, j5⟩ hK
    gi_wp2
    refine ⟨by simp, .inl ⟨_, _, rfl, run_takeDeferred hK, ?_⟩⟩
    refine ⟨_, results_none rfl _ _ _, ⟨_, rfl⟩, .inr ⟨pre, hp, HJx.out _ _ _ j5 (Kt.put _ fun o h => by rw [hK] at h; cases h; exact ⟨Nat.le_trans SZ.out hD, trivial⟩)⟩⟩
end Go.Proofs.Ytmldoeigemippaa
