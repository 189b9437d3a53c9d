/- The reference's critical path: the walk; no condition but the matrix's size. -/
import Derived.Test.YtcbomfcioenliaaDsK
namespace Go.Proofs.Ytcbomfcioenliaa
open Go.RowKit
set_option linter.unusedVariables false

theorem tlI_len {f : Nat → List Int} {P : Nat → Bool} {i n : Nat} (h : ∀ j, i < j → j < n → (f j).length ≤ n - j) (m : Nat) (hm : m ≤ n) : (tlI f P i m).length ≤ n - i - 1 := by
  induction m with
  | zero => exact Nat.zero_le _
  | succ m ih =>
    rw [tlI]
    split
    · rename_i q; have := h m q.1 (by omega); omega
    · exact ih (by omega)
theorem bl_len (g : List (List Int)) (d : Nat) : ∀ u, u < g.length → (bl g d u).length ≤ g.length - u := by
  induction d with
  | zero => intro u _; exact Nat.zero_le _
  | succ d ih =>
    intro u hu
    rw [bl]
    split
    · have := tlI_len (f := bl g d) (P := later g u) (i := u) (n := g.length) (fun j _ hj => ih j hj) g.length (Nat.le_refl _)
      rw [List.length_cons]; omega
    · exact ih u hu
theorem bo2_len (g : List (List Int)) (d : Nat) (h0 : 0 < g.length) : (bo2 g d).length ≤ g.length := by
  induction d with
  | zero => exact Nat.zero_le _
  | succ d ih =>
    rw [bo2]
    split
    · have := blF_len g _ (g.length - 1 - d) (Nat.le_refl _) (by omega); omega
    · exact ih

/-- A row of rows of the call's own at block b; the rows are younger. -/
def BR (W : World) (b n : Nat) (F : Nat → List Int) (w : World) : Prop :=
  (∃ cs : Array Value, IsB w b 23 cs ∧ ∀ u, u < n → ∃ A C, cs[u]? = some (.slice A (F u).length C) ∧ SlR w A (F u).length C ((F u).map (Value.int .i64)) ∧ ∀ ad, A = some ad → ad.block ≠ b) ∧ W.heap.size ≤ b ∧ W.grownBy w none
theorem BR.keep0 {W w w2 : World} {b n : Nat} {F : Nat → List Int} (h : BR W b n F w) (k : w.grownBy w2 none) : BR W b n F w2 := by
  obtain ⟨⟨cs, h1, h2⟩, h3, h4⟩ := h
  refine ⟨⟨cs, h1.keep0 k, fun u hu => ?_⟩, h3, gb_trans h4 k⟩
  obtain ⟨A, C, a1, a2, a3⟩ := h2 u hu
  exact ⟨A, C, a1, a2.keep0 k, a3⟩
theorem BR.lt {W w : World} {b n : Nat} {F : Nat → List Int} (h : BR W b n F w) : b < w.heap.size := by
  obtain ⟨⟨cs, h1, h2⟩, h3, h4⟩ := h
  exact h1.lt
theorem BR.free {W w : World} {b n : Nat} {F : Nat → List Int} (h : BR W b n F w) (i : Nat) : w.frozen? ⟨b, i, none⟩ = false := by
  obtain ⟨⟨cs, h1, h2⟩, h3, h4⟩ := h
  exact h1.free i
theorem BR.is {W w : World} {b n : Nat} {F F2 : Nat → List Int} (h : BR W b n F w) (e : ∀ u, u < n → F u = F2 u) : BR W b n F2 w := by
  obtain ⟨⟨cs, h1, h2⟩, h3, h4⟩ := h
  exact ⟨⟨cs, h1, fun u hu => by rw [← e u hu]; exact h2 u hu⟩, h3, h4⟩
theorem BR.at_ {W w : World} {b n : Nat} {F : Nat → List Int} (h : BR W b n F w) (u : Nat) (hu : u < n) : ∃ A C, w.cell? ⟨b, u, none⟩ = some (.slice A (F u).length C) ∧ SlR w A (F u).length C ((F u).map (Value.int .i64)) ∧ ∀ ad, A = some ad → ad.block ≠ b := by
  obtain ⟨⟨cs, h1, h2⟩, h3, h4⟩ := h
  obtain ⟨A, C, a1, a2, a3⟩ := h2 u hu
  exact ⟨A, C, by rw [h1.cell]; exact a1, a2, a3⟩
/-- A list that is read is not in block b: a store there leaves it. -/
theorem SlR.past {w : World} {A : Option Addr} {n c b : Nat} {L : List Value} (h : SlR w A n c L) (hb : ∀ ad, A = some ad → ad.block ≠ b) (i : Nat) (v : Value) : SlR (w.setCell ⟨b, i, none⟩ v) A n c L :=
  ⟨h.1, h.2.1, fun ad e j u hu => (gb_set w b i v).cell (h.2.2 ad e j u hu) (by
    have hab : (ad.add j).block = ad.block := by unfold Addr.add; split <;> rfl
    rw [hab]
    intro q
    injection q with q
    exact hb ad e q)⟩
theorem BR.put {W w : World} {b n : Nat} {F : Nat → List Int} (h : BR W b n F w) (u : Nat) (A : Option Addr) (C : Nat) (L : List Int) (hA : SlR w A L.length C (L.map (Value.int .i64))) (hb : ∀ ad, A = some ad → ad.block ≠ b) :
    BR W b n (fun v => if v = u then L else F v) (w.setCell ⟨b, u, none⟩ (.slice A L.length C)) := by
  obtain ⟨⟨cs, h1, h2⟩, h3, h4⟩ := h
  refine ⟨⟨_, h1.set u _, fun v hv => ?_⟩, h3, gb_new (gb_trans (gb_any h4) (gb_set w b _ _)) h3⟩
  obtain ⟨A2, C2, a1, a2, a3⟩ := h2 v hv
  have l := (Array.getElem?_eq_some_iff.1 a1).1
  rw [Array.getElem?_setIfInBounds]
  by_cases e : v = u
  · subst e
    rw [if_pos rfl, if_pos l]
    simp only [if_true]
    exact ⟨A, C, rfl, hA.past hb _ _, hb⟩
  · rw [if_neg (by omega)]
    simp only [if_neg e]
    exact ⟨A2, C2, a1, a2.past a3 _ _, a3⟩
theorem BR.cellput {W w : World} {b n : Nat} {F : Nat → List Int} (h : BR W b n F w) (u : Nat) (hu : u < n) (v : Value) : (w.setCell ⟨b, u, none⟩ v).cell? ⟨b, u, none⟩ = some v := by
  obtain ⟨⟨cs, h1, h2⟩, h3, h4⟩ := h
  obtain ⟨A2, C2, a1, a2, a3⟩ := h2 u hu
  have l := (Array.getElem?_eq_some_iff.1 a1).1
  rw [(h1.set u v).cell, Array.getElem?_setIfInBounds, if_pos rfl, if_pos l]
/-- The call returns a list that can be read; beside it the world only grew. -/
def RetS (L : List Int) (w : World) (e : Ending) (w' : World) : Prop := ∃ A C, e = .returned (.slice A L.length C) ∧ SlR w' A L.length C (L.map (Value.int .i64)) ∧ w.grownBy w' none
theorem slr_nil (w : World) : SlR w none 0 0 (([] : List Int).map (Value.int .i64)) := ⟨rfl, fun _ => ⟨rfl, rfl⟩, fun ad h => by cases h⟩
theorem made_rows {w w2 : World} {n cap : Nat} (h : w2.ownsRow w.heap.size 23 1 (.slice (some ⟨cap, 0, none⟩) n n) n (madeCells #[Value.slice none 0 0] n).toList) (g : w.grownBy w2 none) : BR w cap n (fun _ => []) w2 := by
  obtain ⟨o1, o2⟩ := own_full h
  refine ⟨⟨_, o1, fun u hu => ⟨none, 0, ?_, slr_nil _, fun ad h => by cases h⟩⟩, o2, g⟩
  simp [madeCells, hu, Nat.mod_one]
theorem bl_put {g : List (List Int)} {d i : Nat} (h : i + d + 1 = g.length) (u : Nat) : (if u = i then ((i : Int) :: tlI (bl g d) (later g i) i g.length) else bl g d u) = bl g (d + 1) u := by
  by_cases e : u = i
  · subst e; rw [if_pos rfl, bl_make h]
  · rw [if_neg e, bl_keep (by omega)]
theorem bo2_yes {g : List (List Int)} {d i : Nat} (h : i + d + 1 = g.length) (hl : (bo2 g d).length ≤ ((i : Int) :: tlI (bl g d) (later g i) i g.length).length) : bo2 g (d + 1) = (i : Int) :: tlI (bl g d) (later g i) i g.length := by
  have e : blF g (g.length - 1 - d) = (i : Int) :: tlI (bl g d) (later g i) i g.length := by
    rw [show g.length - 1 - d = i by omega, ← bl_make h]
    exact (blF_at (by omega) (by omega)).symm
  rw [bo2, e, if_pos hl]
theorem bo2_no {g : List (List Int)} {d i : Nat} (h : i + d + 1 = g.length) (hl : ¬ (bo2 g d).length ≤ ((i : Int) :: tlI (bl g d) (later g i) i g.length).length) : bo2 g (d + 1) = bo2 g d := by
  have e : blF g (g.length - 1 - d) = (i : Int) :: tlI (bl g d) (later g i) i g.length := by
    rw [show g.length - 1 - d = i by omega, ← bl_make h]
    exact (blF_at (by omega) (by omega)).symm
  rw [bo2, e, if_neg hl]
theorem nl_one (w : World) (x : Int) : NL (w.alloc (.cells #[.int .i64 x] 3)) w.heap.size (.slice (some ⟨w.heap.size, 0, none⟩) 1 1) [x] :=
  ⟨rfl, Or.inr ⟨w.heap.size, 1, #[.int .i64 x], rfl, Nat.le_refl _, IsB.new w _ _, Nat.le_refl _, by decide, rfl, rfl⟩⟩

set_option maxRecDepth 100000 in
set_option maxHeartbeats 4000000 in
theorem rpath_any (w : World) (a : Option Addr) (n c : Nat) (g : List (List Int)) (h : SlG w a n c g) (hn : n ≤ 1000) :
    Calls Try.prog 14 #[.slice a n c] w (RetS (pathG g) w) := by
  obtain ⟨i0, hi0, hz0, hz1, hz2⟩ := info_parts infoInts
  have HI := Lib.hid hi0
  have HH := Lib.hid h
  have hl := h.1
  clear hi0 h
  subst hl
  go_enter Try.func14, Try.ntmps14
  go_wp2_with (at_make; refine wpList_make_full _ rfl _ _ 22 rfl w.heap.size 23 i0 (.slice none 0 0) 1 Try.underlying22 HI.out hz0 hz1 .i64 .i64 _ _ g.length rfl rfl ?c1 ?c2 ?c3 ?c4 ?c5 ?_)
  case c1 => first | rfl | omega
  case c2 => first | rfl | omega
  case c3 => rw [hz2]; omega
  case c4 => unfold maxLen; omega
  case c5 => simp
  intro w2 hown hg
  obtain ⟨b, hb⟩ : ∃ b, b = w.heap.size := ⟨_, rfl⟩
  have B2 := Lib.hid (show BR w b g.length (bl g 0) w2 by subst hb; exact made_rows hown hg)
  have HB := Lib.hid (show w.heap.size ≤ b by omega)
  rw [← hb]
  clear hown hg hb
  go_wp2
  go_loopw [4, 5] (fun O s wr => ∃ (d : Nat) (A : Option Addr) (C : Nat), d ≤ g.length ∧ s = .int .i64 ((g.length : Int) - 1 - d) ∧ O = .slice A (bo2 g d).length C ∧ BR w b g.length (bl g d) wr ∧ SlR wr A (bo2 g d).length C ((bo2 g d).map (Value.int .i64)) ∧ ∀ ad, A = some ad → ad.block ≠ b) (fun _ s _ => (intOf s + 1).toNat)
  case atStart => exact ⟨0, none, 0, Nat.zero_le _, by simp, rfl, B2.out, slr_nil _, fun ad h => by cases h⟩
  case round =>
    obtain ⟨d, A, C, hd, rfl, rfl, q1, q2, q3⟩ := hrel
    clear B2
    have B2 := Lib.hid q1
    have O2 := Lib.hid q2
    have HA := Lib.hid q3
    clear q1 q2 q3
    by_cases hlt : d < g.length
    · obtain ⟨i, hid⟩ : ∃ i, i + d + 1 = g.length := ⟨g.length - 1 - d, by omega⟩
      have e5 : (g.length : Int) - 1 - (d : Int) = (i : Int) := by omega
      have hin : i < g.length := by omega
      have i1 : (i : Int) < g.length := by omega
      have HID := Lib.hid hid
      have LO := Lib.hid (bo2_len g d (by omega))
      have YES := Lib.hid (fun h => bo2_yes hid h)
      have NO := Lib.hid (fun h => bo2_no hid h)
      have FO := Lib.hid (follows_any wr a g.length c g i (HH.out.keep0 B2.out.2.2) hn hin)
      rw [e5]
      clear hid e5
      generalize bo2 g d = out at *
      go_wp2_with fail
      refine FO.out.mono ?_
      rintro e w3 ⟨fb, rfl, q4⟩
      have F3 := Lib.hid q4
      have B3 := Lib.hid (B2.out.keep0 q4.2.2)
      have O3 := Lib.hid (O2.out.keep0 q4.2.2)
      clear q4 FO B2 O2
      have FL := Lib.hid (fun u hu wz gz => (F3.out.keep0 (w2 := wz) gz).at_ u hu)
      go_wp2
      go_loopw [7, 8] (fun T s wq => ∃ (j : Nat) (A2 : Option Addr) (C2 : Nat), i + 1 ≤ j ∧ j ≤ g.length ∧ s = .int .i64 j ∧ T = .slice A2 (tlI (bl g d) (later g i) i j).length C2 ∧ w3.grownBy wq none ∧ SlR wq A2 (tlI (bl g d) (later g i) i j).length C2 ((tlI (bl g d) (later g i) i j).map (Value.int .i64)) ∧ ∀ ad, A2 = some ad → ad.block ≠ b) (fun _ s _ => g.length - (intOf s).toNat)
      case atStart => exact ⟨i + 1, none, 0, Nat.le_refl _, by omega, by go_num, by rw [tlI_low _ _ _ _ (Nat.le_refl _)]; rfl, gb_refl _ _, by rw [tlI_low _ _ _ _ (Nat.le_refl _)]; exact slr_nil _, fun ad h => by cases h⟩
      case round =>
        obtain ⟨j, A2, C2, hij, hj, rfl, rfl, q1, q2, q3⟩ := hrel
        have G3 := Lib.hid q1
        have T3 := Lib.hid q2
        have HA2 := Lib.hid q3
        have B4 := Lib.hid (B3.out.keep0 q1)
        clear q1 q2 q3
        have TL := Lib.hid (tlI_len (f := bl g d) (P := later g i) (i := i) (n := g.length) (fun j _ hj => bl_len g d j hj) j hj)
        by_cases hjt : j < g.length
        · have i2 : (j : Int) < g.length := by omega
          have l1 := (F3.out.keep0 G3.out).at_ j hjt
          obtain ⟨A3, C3, l2, S3, HA3⟩ := B4.out.at_ j hjt
          have S3 := Lib.hid S3
          have HA3 := Lib.hid HA3
          have BL := Lib.hid (bl_len g d j hjt)
          have TN := Lib.hid (fun h => tlI_no (f := bl g d) (P := later g i) (i := i) (j := j) h)
          have TY := Lib.hid (fun hp ha => tlI_yes (f := bl g d) (P := later g i) (i := i) (j := j) (by omega) hp ha)
          generalize later g i j = p at *
          generalize tlI (bl g d) (later g i) i j = t at *
          generalize bl g d j = x at *
          cases p
          · have EN := Lib.hid (TN.out (.inl rfl))
            go_wp2
            go_roundw
            case rel => exact ⟨j + 1, A2, C2, by omega, by omega, by go_num, by rw [EN.out], G3.out, by rw [EN.out]; exact T3.out, HA2.out⟩
            case measure => simp [intOf]; omega
          · by_cases hlen : t.length < x.length
            · have EN := Lib.hid (TY.out (by simp) (show ahead x t = true by unfold ahead; rw [decide_eq_true hlen]; rfl))
              have hl2 : (t.length : Int) < (x.length : Int) := by omega
              go_wp2
              go_roundw
              case rel => exact ⟨j + 1, A3, C3, by omega, by omega, by go_num, by rw [EN.out], G3.out, by rw [EN.out]; exact S3.out, HA3.out⟩
              case measure => simp [intOf]; omega
            · have hl2 : ¬ (t.length : Int) < (x.length : Int) := by omega
              by_cases heq : x.length = t.length
              · have hl3 : ((x.length : Int) == (t.length : Int)) = true := by simp; omega
                have AH := Lib.hid (show ahead x t = smB x t by unfold ahead; rw [decide_eq_false hlen, decide_eq_true heq]; rfl)
                have HQ := Lib.hid heq
                clear heq
                go_wp2_with fail
                refine (smaller_any _ A3 A2 x.length C3 t.length C2 x t S3.out T3.out (by have := BL.out; omega) (by have := TL.out; omega)).mono ?_
                rintro e w6 ⟨rfl, q6⟩
                have G3 := Lib.hid (gb_trans G3.out (dn_gb q6 none))
                have l2 := (dn_gb q6 none).cell l2 (by simp)
                have S3 := Lib.hid (S3.out.keep0 (dn_gb q6 none))
                have T3 := Lib.hid (T3.out.keep0 (dn_gb q6 none))
                clear q6
                cases hsm : smB x t
                · have EN := Lib.hid (TN.out (.inr (by rw [AH.out, hsm])))
                  clear hsm
                  go_wp2
                  go_roundw
                  case rel => exact ⟨j + 1, A2, C2, by omega, by omega, by go_num, by rw [EN.out], G3.out, by rw [EN.out]; exact T3.out, HA2.out⟩
                  case measure => simp [intOf]; omega
                · have EN := Lib.hid (TY.out (by simp) (by rw [AH.out, hsm]))
                  clear hsm
                  go_wp2
                  go_roundw
                  case rel => exact ⟨j + 1, A3, C3, by omega, by omega, by go_num, by rw [EN.out], G3.out, by rw [EN.out]; exact S3.out, HA3.out⟩
                  case measure => simp [intOf]; omega
              · have hl3 : ((x.length : Int) == (t.length : Int)) = false := by simp; omega
                have EN := Lib.hid (TN.out (.inr (show ahead x t = false by unfold ahead; rw [decide_eq_false hlen, decide_eq_false heq]; rfl)))
                go_wp2
                go_roundw
                case rel => exact ⟨j + 1, A2, C2, by omega, by omega, by go_num, by rw [EN.out], G3.out, by rw [EN.out]; exact T3.out, HA2.out⟩
                case measure => simp [intOf]; omega
        · have hje : j = g.length := by omega
          subst hje
          have i2 : ¬ ((g.length : Nat) : Int) < g.length := by omega
          have BLP := Lib.hid (fun u => bl_put HID.out u)
          generalize tlI (bl g d) (later g i) i g.length = t at *
          go_wp2_with (at_builtin; refine npush_any rfl _ _ rfl wr.heap.size _ [(i : Int)] rfl (nl_one wr (i : Int)) A2 t.length C2 t rfl (T3.out.keep0 (gb_alloc _ _ none)) (by have := TL.out; simp; omega) (by simp) ?_)
          intro V2 w7 o2 g2
          have G7 := Lib.hid (gb_own (gb_alloc wr (.cells #[.int .i64 (i : Int)] 3) none) (nl_one wr (i : Int)) (Nat.le_refl _) g2)
          obtain ⟨A5, C5, rfl⟩ := o2.shape
          have R5 := Lib.hid (show SlR w7 A5 ((i : Int) :: t).length C5 (((i : Int) :: t).map (Value.int .i64)) from o2.slr rfl)
          have NB := Lib.hid (show ∀ ad, A5 = some ad → ad.block ≠ b from fun ad h => by
            have h1 := (World.ownsRow.lt o2 ad.block (by rw [h]; rfl)).1
            have h2 := B4.out.lt
            omega)
          have B7 := Lib.hid (B4.out.keep0 G7.out)
          have O7 := Lib.hid ((O3.out.keep0 G3.out).keep0 G7.out)
          have f1 := B7.out.free i
          obtain ⟨x1a, x1c, x1, -, -⟩ := B7.out.at_ i hin
          have k1 := B7.out.cellput i hin (.slice A5 ((i : Int) :: t).length C5)
          have B8 := Lib.hid ((B7.out.put i A5 C5 ((i : Int) :: t) R5.out NB.out).is (fun u _ => BLP.out u))
          have R8 := Lib.hid (R5.out.past NB.out i (.slice A5 ((i : Int) :: t).length C5))
          have O8 := Lib.hid (O7.out.past HA.out i (.slice A5 ((i : Int) :: t).length C5))
          clear B7 O7 R5 o2 g2
          by_cases hlo : out.length ≤ ((i : Int) :: t).length
          · have EN := Lib.hid (YES.out hlo)
            have hl2 : (out.length : Int) ≤ (t.length : Int) + 1 := by simp at hlo; omega
            clear hlo
            go_wp2
            go_roundw
            case rel => exact ⟨d + 1, A5, C5, by omega, by rw [show ((g.length : Int) - 1 - ((d + 1 : Nat) : Int)) = (i : Int) - 1 by have := HID.out; omega], by rw [EN.out]; rfl, B8.out, by rw [EN.out]; exact R8.out, NB.out⟩
            case measure => simp [intOf] <;> omega
          · have EN := Lib.hid (NO.out hlo)
            have hl2 : ¬ (out.length : Int) ≤ (t.length : Int) + 1 := by simp at hlo; omega
            clear hlo
            go_wp2
            go_roundw
            case rel => exact ⟨d + 1, A, C, by omega, by rw [show ((g.length : Int) - 1 - ((d + 1 : Nat) : Int)) = (i : Int) - 1 by have := HID.out; omega], by rw [EN.out], B8.out, by rw [EN.out]; exact O8.out, HA.out⟩
            case measure => simp [intOf] <;> omega
    · have hde : d = g.length := by omega
      subst hde
      have e5 : (g.length : Int) - 1 - (g.length : Int) = -1 := by omega
      rw [e5]
      have EP := path_same g
      rw [EP] at O2 ⊢
      clear EP
      go_wp2
      go_ret
      exact ⟨A, C, rfl, O2.out, B2.out.2.2⟩
end Go.Proofs.Ytcbomfcioenliaa
