/- The walk of patchbayref02's Pack; no condition but sizes. -/
import Derived.Test.YtiphcknnljjanaaIoRe
namespace Go.Proofs.Ytiphcknnljjanaa
open Go.RowKit
set_option linter.unusedVariables false

def bytesR (L : List Bool) : Int × List Int := if L.length % 8 = 0 then (0, packB L) else (10, [])
theorem rbytes_any (w : World) (base : Nat) (a : Option Addr) (c : Nat) (L : List Bool) (h : BRow w base (.slice a L.length c) L) (hn : L.length ≤ 60000) :
    Calls Try.prog 55 #[.agg #[.slice a L.length c]] w (RetE (bytesR L).1 (bytesR L).2 w) := by
  unfold bytesR
  by_cases hm : L.length % 8 = 0
  · rw [if_pos hm]; exact rbytes_even w base a c L h hn hm
  · rw [if_neg hm]; exact rbytes_odd w a c L hm

/-- What the round holds: the writer w in its block, its bits. -/
def PIn (w : World) (wb : Nat) (am : Option Addr) (cm : Nat) (M : List Bool) (w' : World) : Prop :=
  IsB w' wb 66 #[.slice am M.length cm] ∧ BRow w' w.heap.size (.slice am M.length cm) M ∧ w.grownBy w' none
theorem ps_step {w w1 w2 : World} {wb : Nat} {am : Option Addr} {cm : Nat} {M : List Bool} {p q : Addr} {x y z : Value}
    (h : w1.cell? ⟨wb, 0, none⟩ = some x ∧ w1.cell? p = some y ∧ w1.cell? q = some z ∧ PIn w wb am cm M w1) (k : w1.grownBy w2 none) :
    w2.cell? ⟨wb, 0, none⟩ = some x ∧ w2.cell? p = some y ∧ w2.cell? q = some z ∧ PIn w wb am cm M w2 :=
  ⟨cell_grown h.1 k, cell_grown h.2.1 k, cell_grown h.2.2.1 k, h.2.2.2.1.keep0 k, own_keep0 h.2.2.2.2.1 k, gb_trans h.2.2.2.2.2 k⟩
theorem ps_row {w w1 : World} {wb : Nat} {am : Option Addr} {cm : Nat} {M : List Bool} {p1 p2 p3 : Prop} (h : p1 ∧ p2 ∧ p3 ∧ PIn w wb am cm M w1) : BRow w1 w.heap.size (.slice am M.length cm) M := h.2.2.2.2.1
theorem ps_size {w w1 : World} {wb : Nat} {am : Option Addr} {cm : Nat} {M : List Bool} {p1 p2 p3 : Prop} (h : p1 ∧ p2 ∧ p3 ∧ PIn w wb am cm M w1) : w.heap.size ≤ w1.heap.size := h.2.2.2.2.2.size
theorem alloc_one {w w2 : World} {x : Value} {t : TypeId} (g : (w.drew.alloc (.cells #[x] t)).grownBy w2 none) : w2.cell? ⟨w.heap.size, 0, none⟩ = some x ∧ w2.frozen? ⟨w.heap.size, 0, none⟩ = false ∧ IsB w2 w.heap.size t #[x] := by
  have h : IsB w2 w.heap.size t #[x] := (IsB.new w.drew t #[x]).keep0 g
  exact ⟨h.cell 0, h.free 0, h⟩
theorem ps_fin1 {w w1 : World} {wb : Nat} {am : Option Addr} {cm : Nat} {M L1 : List Bool} {v : Value} {o : Obj} {p1 p2 p3 : Prop} (b : BRow w1 w.heap.size v L1) (h : p1 ∧ p2 ∧ p3 ∧ PIn w wb am cm M (w1.alloc o)) : BRow (w1.alloc o) w.heap.size v L1 := own_keep0 b (gb_alloc _ _ _)
theorem ps_fin2 {w w1 : World} {wb g : Nat} {am : Option Addr} {cm : Nat} {M L1 : List Bool} {v u : Value} {cs : Array Value} {p1 p2 p3 : Prop} (b : BRow w1 w.heap.size v L1) (yb : IsB w1 g 66 cs) (h : p1 ∧ p2 ∧ p3 ∧ PIn w wb am cm M (w1.setCell ⟨g, 0, none⟩ u)) : BRow (w1.setCell ⟨g, 0, none⟩ u) w.heap.size v L1 := own_keepS b (gb_set _ _ _ _) yb (by decide)

theorem rpack_args (w : World) (a : Option Addr) (len cap : Nat) (a2 : Option Addr) (len2 cap2 : Nat) (hl : ¬ len = len2) :
    Calls Try.prog 59 #[.slice a len cap, .slice a2 len2 cap2] w (RetE 2 [] w) := by
  have hq : ((len : Int) != len2) = true := by rw [bne_iff_ne]; omega
  go_enter Try.func59, Try.ntmps59
  go_wp2
  go_ret2
  exact ⟨_, rfl, gb_refl _ _, World.ownsRow_nil _ _ _ _⟩
set_option maxRecDepth 100000 in
set_option maxHeartbeats 3000000 in
theorem rpack_run (w : World) (a : Option Addr) (cap : Nat) (vals ns : List Int) (h : SlR w a vals.length cap (vals.map (Value.int .u32))) (a2 : Option Addr) (cap2 : Nat) (h2 : SlR w a2 ns.length cap2 (ns.map (Value.int .i64)))
    (hlen : vals.length = ns.length) (hn : ns.length ≤ 1000) (hr : ∀ x ∈ vals, 0 ≤ x ∧ x < 4294967296) (er : Int) (L : List Bool) (hq : pkRun [] (vals.zip ns) = (er, L)) :
    Calls Try.prog 59 #[.slice a vals.length cap, .slice a2 ns.length cap2] w (RetE (packR vals ns).1 (packR vals ns).2 w) := by
  have hq0 : ((vals.length : Int) != ns.length) = false := by rw [bne_eq_false_iff_eq]; omega
  have HL := Lib.hid hlen
  have HQ := Lib.hid hq
  have PR := Lib.hid (show packR vals ns = if er = 0 then if L.length % 8 = 0 then (0, packB L) else (10, []) else (er, []) by unfold packR; rw [if_pos hlen, hq])
  clear hlen hq
  go_enter Try.func59, Try.ntmps59
  go_wp2_with fail
  refine (rnwr_any _).mono ?_
  rintro e w1 ⟨rfl, g1, _⟩
  have N1 := Lib.hid (IsB.new w1 66 #[.slice none 0 0])
  have G1 := Lib.hid (show w.grownBy (w1.alloc (.cells #[.slice none 0 0] 66)) none from gb_trans g1 (gb_alloc _ _ _))
  have WB := Lib.hid (show w.heap.size ≤ w1.heap.size from g1.size)
  clear g1 hq0
  go_wp2_with fail
  generalize w1.heap.size = wb at *

  go_loopw [7] (fun i wr => ∃ (k : Nat) (M : List Bool) (am : Option Addr) (cm : Nat), k ≤ ns.length ∧ i = .int .i64 k ∧ PIn w wb am cm M wr ∧ pkRun M ((vals.zip ns).drop k) = (er, L) ∧ M.length ≤ 32 * k) (fun i _ => ns.length - (intOf i).toNat)
  case atStart => exact ⟨0, [], none, 0, Nat.zero_le _, rfl, ⟨N1.out, World.ownsRow_nil _ _ _ _, G1.out⟩, HQ.out, by simp⟩
  case round =>
    obtain ⟨k, M, am, cm, hk, rfl, hp, hq1, hl1⟩ := hrel
    clear N1 G1
    have P := Lib.hid hp
    have HQ1 := Lib.hid hq1
    have HLEN := Lib.hid (show M.length ≤ 50000 by omega)
    have HL1 := Lib.hid hl1
    clear hp hq1 hl1
    by_cases hlt : k < ns.length
    · cases a2 with
      | none => exact absurd (h2.2.1 rfl).1 (by omega)
      | some ad2 =>
      cases a with
      | none => exact absurd (h.2.1 rfl).1 (by rw [HL.out]; omega)
      | some ad =>
        have hkk : (k : Int) < ns.length := by omega
        have hkv : (k : Int) < vals.length := by rw [HL.out]; omega
        have hc2 := (h2.keep0 P.out.2.2).cellAt k (by omega)
        have hc1 := (h.keep0 P.out.2.2).cellAt k (by rw [HL.out]; omega)
        have hx := hr (vals.getD k 0) (by rw [List.getD_eq_getElem?_getD, List.getElem?_eq_getElem (by rw [HL.out]; omega)]; exact List.getElem_mem _)
        have hz := HQ1.out
        rw [zip_drop vals ns k (by rw [HL.out]; omega) hlt] at hz
        generalize ns.getD k 0 = nk at *
        generalize vals.getD k 0 = x at *
        obtain ⟨e1, L1, hs⟩ : ∃ e1 L1, wrStep M x nk = (e1, L1) := ⟨_, _, rfl⟩
        have HS := Lib.hid hs
        have HX := Lib.hid hx
        have hlen1 := pkRun_len M x nk
        rw [hs] at hlen1
        rw [pkRun, hs] at hz
        have HZ := Lib.hid hz
        have LE1 := Lib.hid hlen1
        have HB := Lib.hid (show wr.cell? ⟨wb, 0, none⟩ = some (.slice am M.length cm) ∧ wr.cell? (ad.add k) = some (.int .u32 x) ∧ wr.cell? (ad2.add k) = some (.int .i64 nk) ∧ PIn w wb am cm M wr from ⟨P.out.1.cell 0, hc1, hc2, P.out⟩)
        clear hz hs hx hlen1 hc1 hc2 P HQ1
        go_wp2_with fail
        have hb0 := HB.out
        go_region_held3 (fun w' => w'.cell? ⟨wb, 0, none⟩ = some (.slice am M.length cm) ∧ w'.cell? (ad.add k) = some (.int .u32 x) ∧ w'.cell? (ad2.add k) = some (.int .i64 nk) ∧ PIn w wb am cm M w') (first | exact ps_step (by assumption) (by assumption) | exact ps_step (by assumption) (gb_alloc _ _ _) | exact ps_step hb0 (gb_drew _ _) | exact ps_step hb0 (gb_trans (gb_drew _ _) (gb_trans (by assumption) (gb_alloc _ _ _))) | exact ps_step hb0 (gb_trans (gb_drew _ _) (gb_set1 (gb_trans (gb_alloc _ _ _) (by assumption)) (Nat.le_refl _))) | exact hb0 | assumption)
          (first | (go_at_call 53; refine (rwrite_any _ w.heap.size am cm M x nk (ps_row (by assumption)) (ps_size (by assumption)) HLEN.out HX.out.1 HX.out.2 e1 L1 HS.out).mono ?_; rintro e w' ⟨v', rfl, g, o⟩; obtain ⟨a1, c1, rfl⟩ := own_shape o; (first | (have yb := alloc_one g; obtain ⟨y0, z0, yb⟩ := yb) | skip)))
        all_goals
          rename_i hs
          first | (have OF := ps_fin1 o hs) | (have OF := ps_fin2 o yb hs)
          have PF := Lib.hid hs.2.2.2
          have OG := Lib.hid OF
          have c0 := hs.1
          have f0 := PF.out.1.free 0
          clear hs OF hb0 HB o g
          by_cases he : e1 = 0
          · subst he
            have HZ3 := Lib.hid (show pkRun L1 ((vals.zip ns).drop (k + 1)) = (er, L) by have := HZ.out; rwa [if_pos rfl] at this)
            go_wp2
            go_roundw
            case rel => exact ⟨k + 1, L1, a1, c1, by omega, by go_num, ⟨PF.out.1.set 0 _, own_keepS OG.out (gb_set _ _ _ _) PF.out.1 (by decide), gb_set1 PF.out.2.2 WB.out⟩, HZ3.out, by have := LE1.out; have := HL1.out; omega⟩
            case measure => simp [intOf]; omega
          · have HZ3 := Lib.hid (show e1 = er ∧ L1 = L by have := HZ.out; rw [if_neg he] at this; simpa using this)
            have hne : (e1 != 0) = true := by simpa using he
            have PR2 := Lib.hid (show packR vals ns = (e1, []) by have := PR.out; rw [← HZ3.out.1, if_neg he] at this; exact this)
            clear he
            go_wp2
            go_ret2
            rw [PR2.out]
            exact ⟨_, rfl, PF.out.2.2, World.ownsRow_nil _ _ _ _⟩
    · have hkk : ¬ (k : Int) < vals.length := by rw [HL.out]; omega
      have HZ3 := Lib.hid (show 0 = er ∧ M = L by have := HQ1.out; rw [zip_end vals ns k (by omega)] at this; simpa [pkRun] using this)
      have PR2 := Lib.hid (show packR vals ns = bytesR M by have := PR.out; rw [← HZ3.out.1, if_pos rfl, ← HZ3.out.2] at this; exact this)
      have c0 : wr.cell? ⟨wb, 0, none⟩ = some (.slice am M.length cm) := P.out.1.cell 0
      have HBY := Lib.hid (rbytes_any wr w.heap.size am cm M P.out.2.1 (by have := HLEN.out; omega))
      go_wp2_with fail
      refine HBY.out.mono ?_
      rintro e w5 ⟨v5, rfl, g5, o5⟩
      have O5 := Lib.hid (own_low o5 P.out.2.2.size)
      have G5 := Lib.hid (gb_trans P.out.2.2 g5)
      clear o5 g5 HBY c0
      go_wp2
      go_ret2
      rw [PR2.out]
      exact ⟨v5, rfl, G5.out, O5.out⟩
theorem rpack_any (w : World) (a : Option Addr) (len cap : Nat) (vals ns : List Int) (h : SlR w a len cap (vals.map (Value.int .u32))) (a2 : Option Addr) (len2 cap2 : Nat) (h2 : SlR w a2 len2 cap2 (ns.map (Value.int .i64)))
    (hn : ns.length ≤ 1000) (hr : ∀ x ∈ vals, 0 ≤ x ∧ x < 4294967296) :
    Calls Try.prog 59 #[.slice a len cap, .slice a2 len2 cap2] w (RetE (packR vals ns).1 (packR vals ns).2 w) := by
  have e1 : vals.length = len := by simpa using h.1
  have e2 : ns.length = len2 := by simpa using h2.1
  subst e1; subst e2
  by_cases hl : vals.length = ns.length
  · exact rpack_run w a cap vals ns h a2 cap2 h2 hl hn hr _ _ rfl
  · have k := rpack_args w a vals.length cap a2 ns.length cap2 hl
    unfold packR
    rw [if_neg hl]
    exact k
end Go.Proofs.Ytiphcknnljjanaa
