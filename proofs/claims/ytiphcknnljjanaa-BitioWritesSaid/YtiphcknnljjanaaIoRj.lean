/- The law on writers: its walk; no condition but that the argument is a slice of pairs of numbers. -/
import Derived.Test.YtiphcknnljjanaaIoRi
import Derived.Test.YtiphcknnljjanaaFrameB
namespace Go.Proofs.Ytiphcknnljjanaa
open Go.RowKit
set_option linter.unusedVariables false

theorem bytes_any (w : World) (base r s : Nat) (V : Value) (L : List Bool) (h : Wtr w base r s V L) (hn : L.length ≤ 60000) :
    Calls Try.prog 54 #[.pointer (some ⟨r, 0, none⟩)] w (RetE (bytesR L).1 (bytesR L).2 w) := by
  unfold bytesR
  by_cases hm : L.length % 8 = 0
  · rw [if_pos hm]
    refine (bytes_even w base r s V L h hn hm).mono ?_
    rintro e w' ⟨v', he, g, o, _⟩
    exact ⟨v', he, g, o⟩
  · rw [if_neg hm]
    refine (bytes_odd w base r s V L h hm).mono ?_
    rintro e w' ⟨rfl, g, _⟩
    exact ⟨_, rfl, g, World.ownsRow_nil _ _ _ _⟩
theorem writes_off (a : Option Addr) (len cap : Nat) (W : World) (h : ¬ len ≤ 60) :
    Calls Try.prog 9 #[.slice a len cap] W fun e w' => e = .returned (.bool true) ∧ Below W.heap.size W w' := by
  have k1 : (60 : Int) < len := by omega
  clear h
  go_enter Try.func9, Try.ntmps9
  go_wp2_with (go_at_call 41; refine (works_any _).mono ?_; rintro e w' ⟨rfl, g⟩)
  go_ret
  exact ⟨rfl, by assumption⟩

/-- What a round holds: the writer under test with its bits, the reference's writer with its own, all else below. -/
def QIn (W : World) (xb : Nat) (V : Value) (M2 : List Bool) (am : Option Addr) (cm : Nat) (M : List Bool) (w : World) : Prop :=
  Wtr w W.heap.size (W.heap.size + 1) W.heap.size V M2 ∧ IsB w xb 66 #[.slice am M.length cm] ∧ BRow w W.heap.size (.slice am M.length cm) M ∧ Below W.heap.size W w
theorem QIn.step {W w w2 : World} {xb : Nat} {V : Value} {M2 : List Bool} {am : Option Addr} {cm : Nat} {M : List Bool} (h : QIn W xb V M2 am cm M w) (k : w.grownBy w2 none) : QIn W xb V M2 am cm M w2 :=
  ⟨h.1.keep0 k, h.2.1.keep0 k, own_keep0 h.2.2.1 k, h.2.2.2.grown k h.2.2.2.size (by intro k hk; cases hk)⟩
theorem qs_step {W w w2 : World} {xb : Nat} {V : Value} {M2 : List Bool} {am : Option Addr} {cm : Nat} {M : List Bool} {p q : Addr} {x y z : Value}
    (h : w.cell? ⟨xb, 0, none⟩ = some x ∧ w.cell? p = some y ∧ w.cell? q = some z ∧ QIn W xb V M2 am cm M w) (k : w.grownBy w2 none) :
    w2.cell? ⟨xb, 0, none⟩ = some x ∧ w2.cell? p = some y ∧ w2.cell? q = some z ∧ QIn W xb V M2 am cm M w2 :=
  ⟨cell_grown h.1 k, cell_grown h.2.1 k, cell_grown h.2.2.1 k, h.2.2.2.step k⟩
theorem qs_row {W w : World} {xb : Nat} {V : Value} {M2 : List Bool} {am : Option Addr} {cm : Nat} {M : List Bool} {p1 p2 p3 : Prop} (h : p1 ∧ p2 ∧ p3 ∧ QIn W xb V M2 am cm M w) : BRow w W.heap.size (.slice am M.length cm) M := h.2.2.2.2.2.1
theorem qs_size {W w : World} {xb : Nat} {V : Value} {M2 : List Bool} {am : Option Addr} {cm : Nat} {M : List Bool} {p1 p2 p3 : Prop} (h : p1 ∧ p2 ∧ p3 ∧ QIn W xb V M2 am cm M w) : W.heap.size ≤ w.heap.size := h.2.2.2.2.2.2.size
theorem cell_below {W w : World} {a : Addr} {v : Value} (h : W.cell? a = some v) (k : Below W.heap.size W w) : w.cell? a = some v := by
  have hl := World.block_lt_of_cell? W _ h
  have e := k.block a.block hl
  unfold World.cell? at h ⊢
  rw [e]; exact h

def Bigw (W : World) (xb : Nat) (V : Value) (L : List Bool) (am : Option Addr) (cm : Nat) (v8 v9 : Value) (rb : List Int) (w : World) : Prop :=
  QIn W xb V L am cm L w ∧ w.ownsRow W.heap.size 5 1 v8 rb.length (rb.map (Value.int .u8)) ∧ w.ownsRow W.heap.size 5 1 v9 rb.length (rb.map (Value.int .u8))
theorem Bigw.step {W w w2 : World} {xb : Nat} {V : Value} {L : List Bool} {am : Option Addr} {cm : Nat} {v8 v9 : Value} {rb : List Int} (h : Bigw W xb V L am cm v8 v9 rb w) (k : w.grownBy w2 none) : Bigw W xb V L am cm v8 v9 rb w2 :=
  ⟨h.1.step k, own_keep0 h.2.1 k, own_keep0 h.2.2 k⟩
theorem wz_of {W w : World} {xb : Nat} {V : Value} {L : List Bool} {am : Option Addr} {cm : Nat} {a8 a9 : Option Addr} {c8 c9 : Nat} {rb : List Int} (h : Bigw W xb V L am cm (.slice a8 rb.length c8) (.slice a9 rb.length c9) rb w) :
    w.cell? ⟨xb, 0, none⟩ = some (.slice am L.length cm) ∧ (convert 43 9 (.slice a8 rb.length c8)).run Try.prog w = .ok (.string (strOf rb)) w ∧ (convert 43 9 (.slice a9 rb.length c9)).run Try.prog w = .ok (.string (strOf rb)) w ∧ Bigw W xb V L am cm (.slice a8 rb.length c8) (.slice a9 rb.length c9) rb w :=
  ⟨h.1.2.1.cell 0, conv_str w _ _ _ rb (own_slr h.2.1), conv_str w _ _ _ rb (own_slr h.2.2), h⟩
theorem wz_step {W w w2 : World} {xb : Nat} {V : Value} {L : List Bool} {am : Option Addr} {cm : Nat} {a8 a9 : Option Addr} {c8 c9 : Nat} {rb : List Int} {p1 p3 p4 : Prop} (h : p1 ∧ p3 ∧ p4 ∧ Bigw W xb V L am cm (.slice a8 rb.length c8) (.slice a9 rb.length c9) rb w) (k : w.grownBy w2 none) :
    w2.cell? ⟨xb, 0, none⟩ = some (.slice am L.length cm) ∧ (convert 43 9 (.slice a8 rb.length c8)).run Try.prog w2 = .ok (.string (strOf rb)) w2 ∧ (convert 43 9 (.slice a9 rb.length c9)).run Try.prog w2 = .ok (.string (strOf rb)) w2 ∧ Bigw W xb V L am cm (.slice a8 rb.length c8) (.slice a9 rb.length c9) rb w2 :=
  wz_of (h.2.2.2.step k)
theorem wz_wt {W w : World} {xb : Nat} {V : Value} {L : List Bool} {am : Option Addr} {cm : Nat} {v8 v9 : Value} {rb : List Int} {p1 p3 p4 : Prop} (h : p1 ∧ p3 ∧ p4 ∧ Bigw W xb V L am cm v8 v9 rb w) : Wtr w W.heap.size (W.heap.size + 1) W.heap.size V L := h.2.2.2.1.1

set_option maxRecDepth 100000 in
set_option maxHeartbeats 3000000 in
theorem writes_on (a : Option Addr) (m cap : Nat) (vs ns : Nat → Int) (W : World) (h : IsPairs W a m vs ns) (h1 : m ≤ 60) :
    Calls Try.prog 9 #[.slice a m cap] W fun e w' => e = .returned (.bool true) ∧ Below W.heap.size W w' := by
  have k1 : ¬ (60 : Int) < m := by omega
  have HS := Lib.hid h
  clear h
  go_enter Try.func9, Try.ntmps9
  go_wp2_with fail
  refine (newWriter_any _).mono ?_
  rintro e w1 ⟨rfl, g1, wt1⟩
  have B1 := Lib.hid (show Below W.heap.size W w1 from (Below.refl _ _).grown g1 (Nat.le_refl _) (by intro k hk; cases hk))
  have WT1 := Lib.hid wt1
  clear g1 wt1
  go_wp2_with fail
  refine (rnwr_any _).mono ?_
  rintro e w2 ⟨rfl, g2, _⟩
  have QI := Lib.hid (show QIn W w2.heap.size (.slice none 0 0) [] none 0 [] (w2.alloc (.cells #[.slice none 0 0] 66)) from
    ⟨WT1.out.keep0 (gb_trans g2 (gb_alloc _ _ _)), IsB.new w2 _ _, World.ownsRow_nil _ _ _ _, B1.out.grown (gb_trans g2 (gb_alloc _ _ _)) B1.out.size (by intro k hk; cases hk)⟩)
  have XB := Lib.hid (show W.heap.size ≤ w2.heap.size from Nat.le_trans B1.out.size g2.size)
  clear g2 WT1 B1
  go_wp2_with fail
  generalize w2.heap.size = xb at *
  generalize w2.alloc (.cells #[.slice none 0 0] 66) = wz at *
  go_loopw [5] (fun i wr => ∃ (k : Nat) (V : Value) (am : Option Addr) (cm : Nat) (M : List Bool), k ≤ m ∧ i = .int .i64 k ∧ QIn W xb V M am cm M wr ∧ M.length ≤ 32 * k) (fun i _ => m - (intOf i).toNat)
  case atStart => exact ⟨0, _, none, 0, [], Nat.zero_le _, rfl, QI.out, by simp⟩
  case round =>
    obtain ⟨k, V, am, cm, M, hk, rfl, hq, hl⟩ := hrel
    clear QI
    have Q := Lib.hid hq
    have HL := Lib.hid hl
    have ML := Lib.hid (show M.length ≤ 50000 by omega)
    clear hq hl
    by_cases hlt : k < m
    · have hkk : (k : Int) < m := by omega
      rcases HS.out with ⟨_, h0⟩ | ⟨ad, rfl, hc⟩
      · exact absurd h0 (by omega)
      · obtain ⟨pb, po, spot⟩ := ad
        have hsp : spot = none := by simpa [Addr.add] using World.cell?_spot (hc 0 (by omega)).1
        subst hsp
        obtain ⟨hc1, hc2, hv⟩ := hc k hlt
        rw [Addr.add_lit] at hc1 hc2
        have hc1 : W.cell? ⟨pb, po + k * 2, none⟩ = some (.int .u32 (vs k)) := hc1
        have hc2 : W.cell? ⟨pb, po + k * 2 + 1, none⟩ = some (.int .i64 (ns k)) := hc2
        have HC1 := Lib.hid hc1
        have HC2 := Lib.hid hc2
        have HV := Lib.hid hv
        have d1 := cell_below hc1 Q.out.2.2.2
        have d2 := cell_below hc2 Q.out.2.2.2
        clear hc hc1 hc2 hv
        generalize vs k = x at *
        generalize ns k = n at *
        obtain ⟨e1, L1, hs⟩ : ∃ e1 L1, wrStep M x n = (e1, L1) := ⟨_, _, rfl⟩
        have hlen1 := pkRun_len M x n
        rw [hs] at hlen1
        have HS1 := Lib.hid hs
        have LE1 := Lib.hid hlen1
        clear hs hlen1
        go_wp2_with fail
        go_still_tail 11, (by kernel_rfl)
        change wpList _ _ _ _ _ wr.drew
        have HM := Lib.hid (wr_any wr.drew W.heap.size _ _ V M x n (Q.out.1.keep0 (gb_drew wr none)) Q.out.2.2.2.size ML.out HV.out.1 HV.out.2 e1 L1 HS1.out)
        clear d1 d2
        go_wp2_with fail
        refine HM.out.mono ?_
        rintro e w3 ⟨rfl, q3, V3, wt3⟩
        have q4 := (GT.of0 (base := W.heap.size) (gb_drew wr none)).trans q3
        have B3 := Lib.hid (Q.out.2.2.2.trans (q4.below Q.out.2.2.2.size))
        have Q3 := Lib.hid (show QIn W xb V3 L1 am cm M w3 from ⟨wt3, q4.kind _ _ _ Q.out.2.1 (by decide) (by decide), own_gt Q.out.2.2.1 q4 (by decide) (by decide), B3.out⟩)
        have HB := Lib.hid (show w3.cell? ⟨xb, 0, none⟩ = some (.slice am M.length cm) ∧ w3.cell? ⟨pb, po + k * 2, none⟩ = some (.int .u32 x) ∧ w3.cell? ⟨pb, po + k * 2 + 1, none⟩ = some (.int .i64 n) ∧ QIn W xb V3 L1 am cm M w3 from ⟨Q3.out.2.1.cell 0, cell_below HC1.out B3.out, cell_below HC2.out B3.out, Q3.out⟩)
        clear q3 q4 wt3 HM Q Q3 B3
        go_wp2_with fail
        have hb0 := HB.out
        go_region_held3 (fun w' => w'.cell? ⟨xb, 0, none⟩ = some (.slice am M.length cm) ∧ w'.cell? ⟨pb, po + k * 2, none⟩ = some (.int .u32 x) ∧ w'.cell? ⟨pb, po + k * 2 + 1, none⟩ = some (.int .i64 n) ∧ QIn W xb V3 L1 am cm M w') (first | exact qs_step (by assumption) (by assumption) | exact qs_step (by assumption) (gb_alloc _ _ _) | exact qs_step hb0 (gb_drew _ _) | exact qs_step hb0 (gb_trans (gb_drew _ _) (gb_trans (by assumption) (gb_alloc _ _ _))) | exact qs_step hb0 (gb_trans (gb_drew _ _) (gb_set1 (gb_trans (gb_alloc _ _ _) (by assumption)) (Nat.le_refl _))) | exact hb0 | assumption)
          (first | (go_at_call 53; refine (rwrite_any _ W.heap.size am cm M x n (qs_row (by assumption)) (qs_size (by assumption)) ML.out HV.out.1 HV.out.2 e1 L1 HS1.out).mono ?_; rintro e w' ⟨v', rfl, g, o⟩; obtain ⟨a1, c1, rfl⟩ := own_shape o; (first | (have yb := alloc_one g; obtain ⟨y0, z0, yb⟩ := yb) | skip)))
        · rename_i hs
          have YB := Lib.hid (IsB.new w' 66 #[.slice a1 L1.length c1])
          have OF := Lib.hid (show BRow (w'.alloc (.cells #[.slice a1 L1.length c1] 66)) W.heap.size (.slice a1 L1.length c1) L1 from own_keep0 o (gb_alloc _ _ _))
          clear g o
          generalize w'.alloc (.cells #[.slice a1 L1.length c1] 66) = w6 at *
          generalize w'.heap.size = yb at *
          have PF := Lib.hid hs.2.2.2
          have c0 := hs.1
          have f0 := PF.out.2.1.free 0
          have y0 : w6.cell? ⟨yb, 0, none⟩ = some (.slice a1 L1.length c1) := YB.out.cell 0
          have gs := gb_set w6 xb 0 (.slice a1 L1.length c1)
          have R6 := Lib.hid (show QIn W xb V3 L1 a1 c1 L1 (w6.setCell ⟨xb, 0, none⟩ (.slice a1 L1.length c1)) from
            ⟨⟨PF.out.1.wb.keepS gs PF.out.2.1 (by decide), ⟨PF.out.1.st.sb.keepS gs PF.out.2.1 (by decide), own_keepS PF.out.1.st.own gs PF.out.2.1 (by decide), PF.out.1.st.low⟩⟩, PF.out.2.1.set 0 _, own_keepS OF.out gs PF.out.2.1 (by decide), PF.out.2.2.2.setCell (p := ⟨xb, 0, none⟩) XB.out _⟩)
          clear hs hb0 HB gs OF YB PF
          have LL := Lib.hid (show L1.length ≤ 60000 by have := LE1.out; have := HL.out; omega)
          obtain ⟨be, bb, hbe⟩ : ∃ be bb, bytesR L1 = (be, bb) := ⟨_, _, rfl⟩
          have HBE := Lib.hid hbe
          clear hbe
          go_wp2_with fail
          generalize w6.setCell ⟨xb, 0, none⟩ (.slice a1 L1.length c1) = w7 at *
          clear c0 f0 y0
          have hby := bytes_any w7 _ _ _ _ _ R6.out.1 LL.out
          rw [HBE.out] at hby
          refine hby.mono ?_
          rintro e w8 ⟨v8, rfl, g8, o8⟩
          obtain ⟨a8, c8, rfl⟩ := own_shape o8
          have R8 := Lib.hid (R6.out.step g8)
          have O8 := Lib.hid (own_low o8 R6.out.2.2.2.size)
          have c0 : w8.cell? ⟨xb, 0, none⟩ = some (.slice a1 L1.length c1) := R8.out.2.1.cell 0
          have hby := rbytes_any w8 W.heap.size a1 c1 L1 R8.out.2.2.1 LL.out
          rw [HBE.out] at hby
          have HBY := Lib.hid hby
          clear hby g8 o8 R6
          go_wp2_with fail
          refine HBY.out.mono ?_
          rintro e w9 ⟨v9, rfl, g9, o9⟩
          obtain ⟨a9, c9, rfl⟩ := own_shape o9
          have BG := Lib.hid (show Bigw W xb V3 L1 a1 c1 (.slice a8 bb.length c8) (.slice a9 bb.length c9) bb w9 from ⟨R8.out.step g9, own_keep0 O8.out g9, own_low o9 R8.out.2.2.2.size⟩)
          clear g9 o9 R8 O8 c0 HBY
          go_wp2_with fail
          have hb0 := wz_of BG.out
          go_region_held3 (fun w' => w'.cell? ⟨xb, 0, none⟩ = some (.slice a1 L1.length c1) ∧ (convert 43 9 (.slice a8 bb.length c8)).run Try.prog w' = .ok (.string (strOf bb)) w' ∧ (convert 43 9 (.slice a9 bb.length c9)).run Try.prog w' = .ok (.string (strOf bb)) w' ∧ Bigw W xb V3 L1 a1 c1 (.slice a8 bb.length c8) (.slice a9 bb.length c9) bb w') (first | exact wz_step (by assumption) (by assumption) | exact wz_step hb0 (gb_drew _ _) | exact hb0 | assumption)
            (first | (go_at_call 56; refine (len_any _ _ _ _ _ _ (wz_wt (by assumption))).mono ?_; rintro e w' ⟨rfl, rfl⟩) | (go_at_call 57; refine (rlen_any _ _ _ _).mono ?_; rintro e w' ⟨rfl, g, _⟩))
          all_goals
            rename_i hs
            have FB := Lib.hid hs.2.2.2
            clear hs hb0 BG
            go_wp2
            go_roundw
            case rel => exact ⟨k + 1, V3, a1, c1, L1, by omega, by go_num, FB.out.1, by have := LE1.out; have := HL.out; omega⟩
            case measure => simp [intOf]; omega
        · rename_i hs
          have YB := Lib.hid (show IsB (w'.setCell ⟨w3.heap.size, 0, none⟩ (.slice a1 L1.length c1)) w3.heap.size 66 #[.slice a1 L1.length c1] from yb.set 0 (.slice a1 L1.length c1))
          have OF := Lib.hid (show BRow (w'.setCell ⟨w3.heap.size, 0, none⟩ (.slice a1 L1.length c1)) W.heap.size (.slice a1 L1.length c1) L1 from own_keepS o (gb_set _ _ _ _) yb (by decide))
          clear g o y0 z0 yb
          generalize w'.setCell ⟨w3.heap.size, 0, none⟩ (.slice a1 L1.length c1) = w6 at *
          generalize w3.heap.size = yb at *
          have PF := Lib.hid hs.2.2.2
          have c0 := hs.1
          have f0 := PF.out.2.1.free 0
          have y0 : w6.cell? ⟨yb, 0, none⟩ = some (.slice a1 L1.length c1) := YB.out.cell 0
          have gs := gb_set w6 xb 0 (.slice a1 L1.length c1)
          have R6 := Lib.hid (show QIn W xb V3 L1 a1 c1 L1 (w6.setCell ⟨xb, 0, none⟩ (.slice a1 L1.length c1)) from
            ⟨⟨PF.out.1.wb.keepS gs PF.out.2.1 (by decide), ⟨PF.out.1.st.sb.keepS gs PF.out.2.1 (by decide), own_keepS PF.out.1.st.own gs PF.out.2.1 (by decide), PF.out.1.st.low⟩⟩, PF.out.2.1.set 0 _, own_keepS OF.out gs PF.out.2.1 (by decide), PF.out.2.2.2.setCell (p := ⟨xb, 0, none⟩) XB.out _⟩)
          clear hs hb0 HB gs OF YB PF
          have LL := Lib.hid (show L1.length ≤ 60000 by have := LE1.out; have := HL.out; omega)
          obtain ⟨be, bb, hbe⟩ : ∃ be bb, bytesR L1 = (be, bb) := ⟨_, _, rfl⟩
          have HBE := Lib.hid hbe
          clear hbe
          go_wp2_with fail
          generalize w6.setCell ⟨xb, 0, none⟩ (.slice a1 L1.length c1) = w7 at *
          clear c0 f0 y0
          have hby := bytes_any w7 _ _ _ _ _ R6.out.1 LL.out
          rw [HBE.out] at hby
          refine hby.mono ?_
          rintro e w8 ⟨v8, rfl, g8, o8⟩
          obtain ⟨a8, c8, rfl⟩ := own_shape o8
          have R8 := Lib.hid (R6.out.step g8)
          have O8 := Lib.hid (own_low o8 R6.out.2.2.2.size)
          have c0 : w8.cell? ⟨xb, 0, none⟩ = some (.slice a1 L1.length c1) := R8.out.2.1.cell 0
          have hby := rbytes_any w8 W.heap.size a1 c1 L1 R8.out.2.2.1 LL.out
          rw [HBE.out] at hby
          have HBY := Lib.hid hby
          clear hby g8 o8 R6
          go_wp2_with fail
          refine HBY.out.mono ?_
          rintro e w9 ⟨v9, rfl, g9, o9⟩
          obtain ⟨a9, c9, rfl⟩ := own_shape o9
          have BG := Lib.hid (show Bigw W xb V3 L1 a1 c1 (.slice a8 bb.length c8) (.slice a9 bb.length c9) bb w9 from ⟨R8.out.step g9, own_keep0 O8.out g9, own_low o9 R8.out.2.2.2.size⟩)
          clear g9 o9 R8 O8 c0 HBY
          go_wp2_with fail
          have hb0 := wz_of BG.out
          go_region_held3 (fun w' => w'.cell? ⟨xb, 0, none⟩ = some (.slice a1 L1.length c1) ∧ (convert 43 9 (.slice a8 bb.length c8)).run Try.prog w' = .ok (.string (strOf bb)) w' ∧ (convert 43 9 (.slice a9 bb.length c9)).run Try.prog w' = .ok (.string (strOf bb)) w' ∧ Bigw W xb V3 L1 a1 c1 (.slice a8 bb.length c8) (.slice a9 bb.length c9) bb w') (first | exact wz_step (by assumption) (by assumption) | exact wz_step hb0 (gb_drew _ _) | exact hb0 | assumption)
            (first | (go_at_call 56; refine (len_any _ _ _ _ _ _ (wz_wt (by assumption))).mono ?_; rintro e w' ⟨rfl, rfl⟩) | (go_at_call 57; refine (rlen_any _ _ _ _).mono ?_; rintro e w' ⟨rfl, g, _⟩))
          all_goals
            rename_i hs
            have FB := Lib.hid hs.2.2.2
            clear hs hb0 BG
            go_wp2
            go_roundw
            case rel => exact ⟨k + 1, V3, a1, c1, L1, by omega, by go_num, FB.out.1, by have := LE1.out; have := HL.out; omega⟩
            case measure => simp [intOf]; omega
    · have hkk : ¬ (k : Int) < m := by omega
      go_wp2_with fail
      refine (works_any _).mono ?_
      rintro e w10 ⟨rfl, b10⟩
      have BZ := Lib.hid (below_step Q.out.2.2.2 Q.out.2.2.2.size b10)
      clear b10
      go_wp2
      go_ret
      exact ⟨rfl, BZ.out⟩
theorem writes_walk (a : Option Addr) (len cap : Nat) (vs ns : Nat → Int) (W : World) (h : IsPairs W a len vs ns) :
    Calls Try.prog 9 #[.slice a len cap] W fun e w' => e = .returned (.bool true) ∧ Below W.heap.size W w' := by
  by_cases hs : len ≤ 60
  · exact writes_on a len cap vs ns W h hs
  · exact writes_off a len cap W hs
end Go.Proofs.Ytiphcknnljjanaa
