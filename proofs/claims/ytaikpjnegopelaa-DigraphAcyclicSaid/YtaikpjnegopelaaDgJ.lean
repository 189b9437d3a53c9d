/- The program's countInto and the heap's swap: the walks. -/
import Derived.Test.YtaikpjnegopelaaDgI
namespace Go.Proofs.Ytaikpjnegopelaa
open Go.RowKit
set_option linter.unusedVariables false

/-- How often x is told by the first v nodes. -/
def inN (g : List (List Int)) : Nat → Int → Nat
  | 0, _ => 0
  | v + 1, x => inN g v x + (g.getD v []).count x
theorem inN_le (g : List (List Int)) (m : Nat) (x : Int) (hb : ∀ v, v < g.length → (g.getD v []).length ≤ m) : ∀ v, v ≤ g.length → inN g v x ≤ v * m := by
  intro v
  induction v with
  | zero => intro _; simp [inN]
  | succ v ih =>
    intro h
    have k := ih (by omega)
    have c : (g.getD v []).count x ≤ (g.getD v []).length := List.count_le_length
    have l := hb v (by omega)
    show inN g v x + _ ≤ _
    rw [Nat.succ_mul]
    omega
def cntT (g : List (List Int)) (v : Nat) (pre : List Int) : List Int := tab g.length fun x => ((inN g v x + pre.count (x : Int) : Nat) : Int)
set_option maxRecDepth 100000 in
set_option maxHeartbeats 2000000 in
theorem count_any (w : World) (a : Option Addr) (c : Nat) (g : List (List Int)) (h : SlG w a g.length c g) (hn : g.length ≤ 1000) (hb : ∀ v, v < g.length → (g.getD v []).length ≤ 1000) :
    Calls Try.prog 38 #[.slice a g.length c] w (RetN w.heap.size (tab g.length fun x => (inN g g.length x : Int)) w) := by
  obtain ⟨i0, hi, hz0, hz1, hz2⟩ := info_parts infoI64
  have HI := Lib.hid hi
  have HH := Lib.hid h
  have HB := Lib.hid hb
  clear h hi hb
  go_enter Try.func38, Try.ntmps38
  go_wp2_with (at_make; refine wpList_make_full _ rfl _ _ 31 rfl w.heap.size 3 i0 (.int .i64 0) 1 Try.underlying31 HI.out hz0 hz1 .i64 .i64 _ _ g.length rfl rfl ?c1 ?c2 ?c3 ?c4 ?c5 ?_)
  case c1 => first | rfl | omega
  case c2 => first | rfl | omega
  case c3 => rw [hz2]; omega
  case c4 => unfold maxLen; omega
  case c5 => simp
  intro w2 hown hg
  have N1 := Lib.hid (show NW w w.heap.size w.heap.size g.length (cntT g 0 []) w2 by
    refine ⟨?_, tab_len _ _, hg⟩
    unfold NL cntT
    rw [tab_len, show (tab g.length fun x => ((inN g 0 x + ([] : List Int).count (x : Int) : Nat) : Int)) = tab g.length (fun _ => 0) from tab_congr fun j _ => by simp [inN], tab_const, List.map_replicate, ← made_zero]
    first | exact hown | simpa using hown)
  clear hown hg
  go_wp2_with fail
  go_loopw [13] (fun i wr => ∃ v : Nat, v ≤ g.length ∧ i = .int .i64 v ∧ NW w w.heap.size w.heap.size g.length (cntT g v []) wr) (fun i _ => g.length - (intOf i).toNat)
  case atStart => exact ⟨0, Nat.zero_le _, rfl, N1.out⟩
  case round =>
    obtain ⟨v, hv, rfl, q1⟩ := hrel
    clear N1
    have N1 := Lib.hid q1
    clear q1
    by_cases hvt : v < g.length
    · have i1 : (v : Int) < g.length := by omega
      cases a with
      | none => exact absurd (HH.out.2.1 rfl).1 (by omega)
      | some ad =>
        obtain ⟨A, C, c0, r0, l1⟩ := HH.out.row v hvt
        have c1 := N1.out.2.2.cell c0 (by simp)
        have hbv := HB.out v hvt
        have NX := Lib.hid (show cntT g v (g.getD v []) = cntT g (v + 1) [] from tab_congr fun j _ => by simp [inN])
        have IL := Lib.hid (fun x => inN_le g 1000 x HB.out v hv)
        obtain ⟨zs, hz⟩ : ∃ zs, zs = g.getD v [] := ⟨_, rfl⟩
        rw [← hz] at c1 r0 l1 NX hbv
        have R0 := Lib.hid r0
        clear r0 hz c0
        go_wp2
        go_loopw [19] (fun i wr => ∃ j : Nat, j ≤ zs.length ∧ i = .int .i64 j ∧ NW w w.heap.size w.heap.size g.length (cntT g v (zs.take j)) wr) (fun i _ => zs.length - (intOf i).toNat)
        case atStart => exact ⟨0, Nat.zero_le _, rfl, N1.out⟩
        case round =>
          obtain ⟨j, hj, rfl, q1⟩ := hrel
          clear N1
          have N1 := Lib.hid q1
          clear q1
          by_cases hjt : j < zs.length
          · have i2 : (j : Int) < zs.length := by omega
            cases A with
            | none => exact absurd (R0.out.2.1 rfl).1 (by omega)
            | some ar =>
              have c2 := (R0.out.keep0 N1.out.2.2).cellAt j hjt
              have TS := Lib.hid (show zs.take (j + 1) = zs.take j ++ [zs.getD j 0] by rw [List.take_add_one, List.getElem?_eq_getElem hjt]; simp [hjt])
              obtain ⟨x, hx⟩ : ∃ x, x = zs.getD j 0 := ⟨_, rfl⟩
              rw [← hx] at c2 TS
              clear hx
              have HN := Lib.hid (fun w => isNode_any w (some ad) g.length c x)
              by_cases hnode : 0 ≤ x ∧ x < (g.length : Int)
              · simp only [decide_eq_true hnode] at HN
                obtain ⟨xn, rfl⟩ : ∃ xn : Nat, x = (xn : Int) := ⟨x.toNat, by omega⟩
                have hxn : xn < g.length := by omega
                have ix : (xn : Int) < g.length := by omega
                have cx := N1.out.at_ xn hxn
                have fx := N1.out.free xn
                have eC : (cntT g v (zs.take j)).getD xn 0 = ((inN g v xn + (zs.take j).count (xn : Int) : Nat) : Int) := tab_at _ _ _ hxn
                have il := IL.out (xn : Int)
                have cl : (zs.take j).count (xn : Int) ≤ 1000 := by
                  have := List.count_le_length (a := (xn : Int)) (l := zs.take j)
                  rw [List.length_take] at this
                  omega
                have hvm : v * 1000 ≤ 1000000 := by omega
                rw [eC] at cx
                have PUT := Lib.hid (show NW w w.heap.size w.heap.size g.length (cntT g v (zs.take (j + 1))) (_root_.Go.World.setCell _ ⟨w.heap.size, xn, none⟩ (.int .i64 (((inN g v xn + (zs.take j).count (xn : Int) : Nat) : Int) + 1))) by
                  have q := N1.out.put (Nat.le_refl _) xn (((inN g v xn + (zs.take j).count (xn : Int) : Nat) : Int) + 1)
                  unfold cntT at q
                  rw [tab_set] at q
                  have e : (tab g.length fun u => if u = xn then ((inN g v xn + (zs.take j).count (xn : Int) : Nat) : Int) + 1 else ((inN g v u + (zs.take j).count (u : Int) : Nat) : Int)) = cntT g v (zs.take (j + 1)) := by
                    rw [TS.out]
                    refine tab_congr fun u _ => ?_
                    rw [List.count_append]
                    by_cases eu : u = xn
                    · subst eu
                      rw [if_pos rfl, List.count_singleton_self]
                      omega
                    · rw [if_neg eu, List.count_singleton, if_neg (by simp; omega)]
                      omega
                  rw [e] at q
                  exact q)
                obtain ⟨m, hm⟩ : ∃ m : Nat, m = inN g v xn + (zs.take j).count (xn : Int) := ⟨_, rfl⟩
                rw [← hm] at cx PUT
                have hmb : m ≤ 2000000 := by omega
                clear hnode eC il cl hm
                go_wp2_with fail
                refine (HN.out _).mono ?_
                rintro e w3 ⟨rfl, rfl⟩
                go_wp2
                go_roundw
                case rel => exact ⟨j + 1, by omega, by go_num, PUT.out⟩
                case measure => simp [intOf]; omega
              · simp only [decide_eq_false hnode] at HN
                have ROW := Lib.hid (show cntT g v (zs.take (j + 1)) = cntT g v (zs.take j) by
                  rw [TS.out]
                  refine tab_congr fun u hu => ?_
                  rw [List.count_append, List.count_singleton, if_neg (by simp; omega)]
                  simp)
                clear hnode
                go_wp2_with fail
                refine (HN.out _).mono ?_
                rintro e w3 ⟨rfl, rfl⟩
                go_wp2
                go_roundw
                case rel => exact ⟨j + 1, by omega, by go_num, by rw [ROW.out]; exact N1.out⟩
                case measure => simp [intOf]; omega
          · have hje : j = zs.length := by omega
            have ROW := Lib.hid (show cntT g v (zs.take j) = cntT g (v + 1) [] by rw [hje, List.take_length]; exact NX.out)
            rw [ROW.out] at N1
            subst hje
            go_wp2
            go_roundw
            case rel => exact ⟨v + 1, by omega, by go_num, N1.out⟩
            case measure => simp [intOf]; omega
    · have hve : v = g.length := by omega
      have ROW := Lib.hid (show cntT g v [] = tab g.length fun x => (inN g g.length x : Int) by rw [hve]; exact tab_congr fun u _ => by simp)
      subst hve
      go_wp2
      go_ret
      exact N1.out.ret ROW.out

/-- Two numbers exchanged. -/
def swapL (H : List Int) (i j : Nat) : List Int := (H.set i (H.getD j 0)).set j (H.getD i 0)
set_option maxRecDepth 100000 in
set_option maxHeartbeats 1000000 in
theorem swap_any (w : World) (base b n c : Nat) (H : List Int) (i j : Nat) (h : NL w base (.slice (some ⟨b, 0, none⟩) n c) H) (hl : n = H.length) (hi : i < n) (hj : j < n) (hij : i ≠ j) :
    Calls Try.prog 46 #[.slice (some ⟨b, 0, none⟩) n c, .int .i64 i, .int .i64 j] w fun e w' => e = .returned (.tuple #[]) ∧ NL w' base (.slice (some ⟨b, 0, none⟩) n c) (swapL H i j) ∧ w.grownBy w' (some b) := by
  have ci := h.at_ hl i (by omega)
  have cj := h.at_ hl j (by omega)
  have fi := h.free hl i
  have fj := h.free hl j
  have HN := Lib.hid h
  have ii : (i : Int) < n := by omega
  have ij : (j : Int) < n := by omega
  have ne1 : ¬ (i = j) := hij
  have ne2 : ¬ (j = i) := fun e => hij e.symm
  have P := Lib.hid (show NL ((w.setCell ⟨b, i, none⟩ (.int .i64 (H.getD j 0))).setCell ⟨b, j, none⟩ (.int .i64 (H.getD i 0))) base (.slice (some ⟨b, 0, none⟩) n c) (swapL H i j) from
    (h.put hl i (H.getD j 0)).put (by simp [hl]) j (H.getD i 0))
  obtain ⟨x, hx⟩ : ∃ x, x = H.getD i 0 := ⟨_, rfl⟩
  obtain ⟨y, hy⟩ : ∃ y, y = H.getD j 0 := ⟨_, rfl⟩
  rw [← hx] at ci P
  rw [← hy] at cj P
  clear h hx hy
  go_enter Try.func46, Try.ntmps46
  go_region
  all_goals (try go_wp2)
  all_goals go_end0
  all_goals first
    | exact ⟨rfl, P.out.keep0 (gb_drew _ none), gb_trans (gb_trans (gb_set _ _ _ _) (gb_set _ _ _ _)) (gb_drew _ _)⟩
    | exact ⟨rfl, P.out, gb_trans (gb_set _ _ _ _) (gb_set _ _ _ _)⟩
end Go.Proofs.Ytaikpjnegopelaa
