/- The walk of the reference's TopologicalOrder. -/
import Derived.Test.YtaikpjnegopelaaGrH
namespace Go.Proofs.Ytaikpjnegopelaa
open Go.RowKit
set_option linter.unusedVariables false

def allT (g : List (List Int)) (p : List Bool) (x : Nat) : Nat → Nat → Bool
  | 0, v => true
  | f + 1, v => (p.getD v false || !gEdge g v x) && allT g p x f (v + 1)
def rdy (g : List (List Int)) (p : List Bool) (x : Nat) : Bool := !p.getD x false && allT g p x g.length 0
def nxt (g : List (List Int)) (p : List Bool) : Nat → Nat → Option Nat
  | 0, x => none
  | f + 1, x => if rdy g p x then some x else nxt g p f (x + 1)
def topF (g : List (List Int)) : Nat → List Bool → Option (List Int)
  | 0, p => some []
  | f + 1, p => match nxt g p g.length 0 with
    | none => none
    | some x => (topF g f (p.set x true)).map ((x : Int) :: ·)
/-- The order as the reference gives it, if there is one. -/
def topG (g : List (List Int)) : Option (List Int) := topF g g.length (tabB g.length fun _ => false)
theorem nxt_lt (g : List (List Int)) (p : List Bool) (f : Nat) : ∀ x r, nxt g p f x = some r → r < x + f := by
  induction f with
  | zero => intro x r h; simp [nxt] at h
  | succ f ih =>
    intro x r h
    unfold nxt at h
    split at h
    · injection h with h; omega
    · have := ih (x + 1) r h; omega

/-- A row of marks at block b and a row of numbers behind it, both the call's own. -/
def TW (W : World) (n : Nat) (p : List Bool) (V : Value) (L : List Int) (w : World) : Prop := OW W W.heap.size W.heap.size n p w ∧ NL w (W.heap.size + 1) V L
theorem TW.keep {W w w2 : World} {n : Nat} {p : List Bool} {V : Value} {L : List Int} (h : TW W n p V L w) (k : w.grownBy w2 none) : TW W n p V L w2 :=
  ⟨⟨h.1.1.keep0 k, h.1.2.1, gb_trans h.1.2.2 k⟩, h.2.keep0 k⟩
theorem TW.push {W w w2 : World} {n : Nat} {p : List Bool} {V V2 : Value} {L L2 : List Int} (h : TW W n p V L w) (o : NL w2 (W.heap.size + 1) V2 L2) (k : w.grownBy w2 V.ownBlock) : TW W n p V2 L2 w2 := by
  refine ⟨⟨?_, h.1.2.1, gb_own h.1.2.2 h.2 (by omega) k⟩, o⟩
  refine World.ownsRow.kept h.1.1 k (blk_ne fun q hq e => ?_)
  have h1 := (World.ownsRow.lt h.2 q e).1
  simp [Value.ownBlock] at hq
  omega
theorem TW.mark {W w : World} {n : Nat} {p : List Bool} {V : Value} {L : List Int} (h : TW W n p V L w) (x : Nat) (v : Bool) : TW W n (p.set x v) V L (w.setCell ⟨W.heap.size, x, none⟩ (.bool v)) := by
  refine ⟨h.1.put (Nat.le_refl _) x v, ?_⟩
  refine World.ownsRow.kept h.2 (gb_set w W.heap.size x (.bool v)) (blk_ne fun q hq e => ?_)
  have h1 := (World.ownsRow.lt h.2 q hq).1
  injection e with e
  omega

set_option maxRecDepth 100000 in
set_option maxHeartbeats 2000000 in
theorem rtop_any (w : World) (a : Option Addr) (n c : Nat) (g : List (List Int)) (h : SlG w a n c g) (hn : n ≤ 100000) :
    Calls Try.prog 21 #[.slice a n c] w (RetNB w.heap.size ((topG g).getD []) (topG g).isSome w) := by
  obtain ⟨i0, hi, hz0, hz1, hz2⟩ := info_parts infoBool
  have HI := Lib.hid hi
  have HH := Lib.hid h
  have hl := h.1
  subst hl
  obtain ⟨D, hD⟩ : ∃ D, D = topG g := ⟨_, rfl⟩
  rw [← hD]
  have HDD := Lib.hid hD.symm
  clear h hi hD
  go_enter Try.func21, Try.ntmps21
  go_wp2_with (at_make; refine wpList_make_full _ rfl _ _ 28 rfl w.heap.size 4 i0 (.bool false) 1 Try.underlying28 HI.out hz0 hz1 .i64 .i64 _ _ g.length rfl rfl ?c1 ?c2 ?c3 ?c4 ?c5 ?_)
  case c1 => first | rfl | omega
  case c2 => first | rfl | omega
  case c3 => rw [hz2]; omega
  case c4 => unfold maxLen; omega
  case c5 => simp
  intro w3 hown hg
  have T1 := Lib.hid (show TW w g.length (tabB g.length fun _ => false) (.slice none 0 0) [] w3 by
    refine ⟨⟨?_, tabB_len _ _, hg⟩, NL.nil _ _⟩
    unfold OB
    rw [tabB_len, tabB_const, List.map_replicate, ← made_zero]
    first | exact hown | simpa using hown)
  have TG := Lib.hid (show topG g = (topF g g.length (tabB g.length fun _ => false)).map (([] : List Int) ++ ·) by unfold topG; simp)
  rw [HDD.out] at TG
  clear hown hg hz0 hz1 hz2 HI HDD
  go_wp2_with fail
  go_loopw [5] (fun V wr => ∃ (f : Nat) (L : List Int) (p : List Bool), L.length + f = g.length ∧ TW w g.length p V L wr ∧ D = (topF g f p).map (L ++ ·)) (fun V _ => g.length - (match V with | .slice _ l _ => l | _ => 0))
  case atStart => exact ⟨g.length, [], _, Nat.zero_add _, T1.out, TG.out⟩
  case round =>
    obtain ⟨f, L, p, hf, q1, q2⟩ := hrel
    clear T1 TG
    obtain ⟨A, C, hsh⟩ := q1.2.shape
    subst hsh
    have T1 := Lib.hid q1
    have TG := Lib.hid q2
    clear q1 q2
    by_cases hlt : L.length < g.length
    · obtain ⟨f, rfl⟩ : ∃ f2, f = f2 + 1 := ⟨f - 1, by omega⟩
      have i1 : (L.length : Int) < g.length := by omega
      obtain ⟨R, hR⟩ : ∃ R, R = nxt g p g.length 0 := ⟨_, rfl⟩
      have HR := Lib.hid hR.symm
      have HH3 := Lib.hid (HH.out.keep0 T1.out.1.2.2)
      clear hR
      go_wp2
      go_loopw [6, 7] (fun nx i wr2 => ∃ (x : Nat) (z : Int), x ≤ g.length ∧ i = .int .i64 x ∧ nx = .int .i64 z ∧ ((z = -1 ∧ nxt g p (g.length - x) x = R) ∨ (∃ r : Nat, z = (r : Int) ∧ R = some r)) ∧ wr2 = wr) (fun _ i _ => g.length - (intOf i).toNat)
      case atStart => exact ⟨0, -1, Nat.zero_le _, rfl, rfl, .inl ⟨rfl, HR.out⟩, rfl⟩
      case round =>
        obtain ⟨x, z, hx, rfl, rfl, hz, rfl⟩ := hrel
        by_cases hneg : z < 0
        · obtain ⟨rfl, hx2⟩ : z = -1 ∧ nxt g p (g.length - x) x = R := by
            rcases hz with q | ⟨r, q, _⟩
            · exact q
            · omega
          clear hz hneg
          have HX := Lib.hid hx2
          clear hx2
          by_cases hxt : x < g.length
          · have i2 : (x : Int) < g.length := by omega
            have c1 := T1.out.1.at_ x hxt
            obtain ⟨Rd, hRd⟩ : ∃ Rd, Rd = rdy g p x := ⟨_, rfl⟩
            have HRd := Lib.hid hRd.symm
            obtain ⟨px, hpx⟩ : ∃ px, px = p.getD x false := ⟨_, rfl⟩
            have HPX := Lib.hid (show (!px && allT g p x g.length 0) = Rd by rw [hpx, hRd]; rfl)
            rw [← hpx] at c1
            clear hRd hpx
            go_wp2
            go_loopw [8, 9] (fun rr i wr2 => ∃ (v : Nat) (r : Bool), v ≤ g.length ∧ i = .int .i64 v ∧ rr = .bool r ∧ ((r = true ∧ allT g p x (g.length - v) v = Rd) ∨ (r = false ∧ Rd = false)) ∧ wr2 = wr) (fun _ i _ => g.length - (intOf i).toNat)
            case atStart =>
              refine ⟨0, !px, Nat.zero_le _, rfl, rfl, ?_, rfl⟩
              cases px with
              | false => exact .inl ⟨rfl, by have := HPX.out; simpa using this⟩
              | true => exact .inr ⟨rfl, by have := HPX.out; simpa using this.symm⟩
            case round =>
              obtain ⟨v, r, hv, rfl, rfl, hr, rfl⟩ := hrel
              by_cases hgo : v < g.length ∧ r = true
              · obtain ⟨hvt, rfl⟩ := hgo
                have i3 : (v : Int) < g.length := by omega
                have hA : allT g p x (g.length - v) v = Rd := by
                  rcases hr with q | q
                  · exact q.2
                  · exact absurd q.1 (by simp)
                rw [show g.length - v = (g.length - (v + 1)) + 1 by omega, allT] at hA
                have c3 := T1.out.1.at_ v hvt
                obtain ⟨pv, hpv⟩ : ∃ pv, pv = p.getD v false := ⟨_, rfl⟩
                rw [← hpv] at c3 hA
                clear hpv hr
                cases pv with
                | true =>
                  have HA := Lib.hid (show allT g p x (g.length - (v + 1)) (v + 1) = Rd by simpa using hA)
                  clear hA
                  go_wp2
                  go_roundw
                  case rel => exact ⟨v + 1, true, by omega, by go_num, rfl, .inl ⟨rfl, HA.out⟩, trivial⟩
                  case measure => simp [intOf]; omega
                | false =>
                  have HA := Lib.hid hA
                  clear hA
                  go_wp2_with fail
                  refine (redge_any _ _ _ _ g v x HH3.out (by omega) (by omega)).mono ?_
                  rintro e w1 ⟨rfl, rfl⟩
                  obtain ⟨ed, hed⟩ : ∃ ed, ed = gEdge g v x := ⟨_, rfl⟩
                  have HA2 := HA.out
                  rw [← hed] at HA2 ⊢
                  clear hed HA
                  cases ed with
                  | true =>
                    have HA3 := Lib.hid (show Rd = false by simpa using HA2.symm)
                    clear HA2
                    go_wp2
                    go_roundw
                    case rel => exact ⟨v + 1, false, by omega, by go_num, rfl, .inr ⟨rfl, HA3.out⟩, trivial⟩
                    case measure => simp [intOf]; omega
                  | false =>
                    have HA3 := Lib.hid (show allT g p x (g.length - (v + 1)) (v + 1) = Rd by simpa using HA2)
                    clear HA2
                    go_wp2
                    go_roundw
                    case rel => exact ⟨v + 1, true, by omega, by go_num, rfl, .inl ⟨rfl, HA3.out⟩, trivial⟩
                    case measure => simp [intOf]; omega
              · have hrd : r = Rd := by
                  rcases hr with q | q
                  · have hve : v = g.length := by
                      have : ¬ v < g.length := fun k => hgo ⟨k, q.1⟩
                      omega
                    rw [hve, Nat.sub_self] at q
                    rw [q.1, ← q.2]; rfl
                  · rw [q.1, q.2]
                subst hrd
                have HXX := HX.out
                rw [show g.length - x = (g.length - (x + 1)) + 1 by omega, nxt, HRd.out] at HXX
                clear hr
                cases r with
                | true =>
                  have i3 : ¬ (v : Int) < g.length := by
                    have : ¬ v < g.length := fun k => hgo ⟨k, rfl⟩
                    omega
                  have HXY := Lib.hid (show R = some x by rw [← HXX]; rfl)
                  clear HXX hgo
                  go_wp2
                  go_roundw
                  case rel => exact ⟨x + 1, (x : Int), by omega, by go_num, rfl, .inr ⟨x, rfl, HXY.out⟩, trivial⟩
                  case measure => simp [intOf]; omega
                | false =>
                  have HXY := Lib.hid (show nxt g p (g.length - (x + 1)) (x + 1) = R by rw [← HXX]; rfl)
                  clear HXX hgo
                  by_cases hvt : v < g.length
                  · have i3 : (v : Int) < g.length := by omega
                    go_wp2
                    go_roundw
                    case rel => exact ⟨x + 1, -1, by omega, by go_num, rfl, .inl ⟨rfl, HXY.out⟩, trivial⟩
                    case measure => simp [intOf]; omega
                  · have i3 : ¬ (v : Int) < g.length := by omega
                    go_wp2
                    go_roundw
                    case rel => exact ⟨x + 1, -1, by omega, by go_num, rfl, .inl ⟨rfl, HXY.out⟩, trivial⟩
                    case measure => simp [intOf]; omega
          · have hxe : x = g.length := by omega
            subst hxe
            have HN := Lib.hid (show R = none by rw [← HX.out, Nat.sub_self]; rfl)
            have HE := Lib.hid (show D = none by rw [TG.out]; simp [topF, HR.out, HN.out])
            go_wp2
            go_ret2
            exact ⟨_, ret_vb (by rw [HE.out]; rfl), by rw [HE.out]; exact NL.nil _ _, T1.out.1.2.2⟩
        · obtain ⟨r, rfl, hRr⟩ : ∃ r : Nat, z = (r : Int) ∧ R = some r := by
            rcases hz with q | q
            · omega
            · exact q
          clear hz hneg
          have hrl : r < g.length := by
            have := nxt_lt g p g.length 0 r (by rw [HR.out, hRr])
            omega
          have HT := Lib.hid (show D = (topF g f (p.set r true)).map ((L ++ [(r : Int)]) ++ ·) by
            rw [TG.out]
            simp [topF, HR.out, hRr, Function.comp_def])
          have i2 : (r : Int) < g.length := by omega
          have c1 := T1.out.1.at_ r hrl
          have f1 := T1.out.1.free r
          have TM := Lib.hid (T1.out.mark r true)
          clear hRr
          generalize p.getD r false = pr at *
          have d1 : decide ((r : Int) < 0) = false := decide_eq_false (by omega)
          have LN := Lib.hid (show L.length + [(r : Int)].length ≤ 1000000 by simp; omega)
          have SZ2 := Lib.hid (World.ownsRow.lt TM.out.1.1 _ rfl).2
          by_cases hxt : x < g.length
          · have i3 : (x : Int) < g.length := by omega
            go_wp2_with (at_builtin; refine npush_any rfl _ _ rfl (w.heap.size + 1) _ L rfl (TM.out.2.keep0 (gb_alloc _ _ _)) _ _ _ [_] rfl (slr_one _ _ _ _ _ (by simp [World.setCell])) (LN.out) (Nat.le_trans SZ2.out (gb_alloc _ _ none).size) ?_)
            intro V2 w2 o2 g2
            have TX := Lib.hid (TW.push (TW.keep TM.out (gb_alloc _ _ _)) o2 g2)
            obtain ⟨A2, C2, hv2⟩ := o2.shape
            subst hv2
            clear o2 g2
            go_wp2
            go_roundw
            case rel => exact ⟨f, _, _, by simp; omega, TX.out, HT.out⟩
            case measure => simp; omega
          · have i3 : ¬ (x : Int) < g.length := by omega
            go_wp2_with (at_builtin; refine npush_any rfl _ _ rfl (w.heap.size + 1) _ L rfl (TM.out.2.keep0 (gb_alloc _ _ _)) _ _ _ [_] rfl (slr_one _ _ _ _ _ (by simp [World.setCell])) (LN.out) (Nat.le_trans SZ2.out (gb_alloc _ _ none).size) ?_)
            intro V2 w2 o2 g2
            have TX := Lib.hid (TW.push (TW.keep TM.out (gb_alloc _ _ _)) o2 g2)
            obtain ⟨A2, C2, hv2⟩ := o2.shape
            subst hv2
            clear o2 g2
            go_wp2
            go_roundw
            case rel => exact ⟨f, _, _, by simp; omega, TX.out, HT.out⟩
            case measure => simp; omega
    · have hf0 : f = 0 := by omega
      subst hf0
      have i1 : ¬ (L.length : Int) < g.length := by omega
      have HE := Lib.hid (show D = some L by rw [TG.out]; simp [topF])
      go_wp2
      go_ret2
      exact ⟨_, ret_vb (by rw [HE.out]; rfl), by rw [HE.out]; exact own_low T1.out.2 (by omega), T1.out.1.2.2⟩
end Go.Proofs.Ytaikpjnegopelaa
