/- Expr: env.Width and env.Get; whether a field exists; no condition. -/
import Derived.Test.YtfjeonoihdgdoaaExA
namespace Go.Proofs.Ytfjeonoihdgdoaa
open Go.RowKit
set_option linter.unusedVariables false
theorem isx_nat {i : Int} {n : Nat} (h : isX i n = true) : ∃ j : Nat, i = (j : Int) ∧ j < n := by
  have := (isX_iff i n).1 h
  exact ⟨i.toNat, by omega, by omega⟩
/-- A slice of fields comes back, and memory is made at most. -/
def RetFs (w : World) (L : List Fld) (e : Ending) (w' : World) : Prop := ∃ fa fn fc, e = .returned (.slice fa fn fc) ∧ SF w' fa fn fc L ∧ w.grownBy w' none
def RetUs (w : World) (L : List Int) (e : Ending) (w' : World) : Prop := ∃ fa fn fc, e = .returned (.slice fa fn fc) ∧ SU w' fa fn fc L ∧ w.grownBy w' none
theorem sf_nil (w : World) : SF w none 0 0 [] := ⟨rfl, fun _ => ⟨rfl, rfl⟩, Nat.le_refl _, (fun ad e => by cases e)⟩
theorem su_nil (w : World) : SU w none 0 0 [] := ⟨rfl, fun _ => ⟨rfl, rfl⟩, Nat.le_refl _, (fun ad e => by cases e), (fun x hx => by cases hx)⟩
set_option maxRecDepth 100000 in
set_option maxHeartbeats 2000000 in
theorem decl_any (w : World) (nm v3 v4 v5 v6 v7 v8 : Value) (ha ma : Option Addr) (hn hc mn mc : Nat) (H : List (ByteArray × List Fld)) (M : List Fld) (hH : SH w ha hn hc H) (hM : SF w ma mn mc M) (h : Int) :
    Calls Try.prog 152 #[.agg #[nm, .slice ha hn hc, .slice ma mn mc, v3, v4, v5, v6, v7, v8], .int .i64 h] w (RetFs w (dfs H M h)) := by
  have HH := Lib.hid hH
  have HM := Lib.hid hM
  have HL := Lib.hid hH.len
  have hcap := hH.cap
  clear hH hM
  by_cases h1 : h = -1
  · subst h1
    rw [show dfs H M (-1) = M from by unfold dfs; rw [if_pos rfl]]
    go_enter Try.func152, Try.ntmps152
    go_wp2
    go_ret
    exact ⟨_, _, _, rfl, HM.out.keep0 (gb_al (gb_refl _ _)), gb_al (gb_refl _ _)⟩
  · have n1 : (h == -1) = false := by rw [beq_eq_false_iff_ne]; exact h1
    have n2 : decide (h = -1) = false := decide_eq_false h1
    have IX := Lib.hid (fun w => eisx_any w h hn)
    have HD := Lib.hid (show dfs H M h = if isX h hn = true then (H.getD h.toNat hz).2 else [] by unfold dfs; rw [if_neg h1, HL.out])
    unfold RetS at IX
    cases hx : isX h hn with
    | false =>
      rw [hx] at IX HD
      rw [if_neg (by decide)] at HD
      clear hx
      go_enter Try.func152, Try.ntmps152
      go_wp2_with fail
      refine (IX.out _).mono ?_
      rintro e w1 ⟨rfl, rfl⟩
      go_wp2
      go_ret
      exact ⟨_, _, _, rfl, by rw [HD.out]; exact sf_nil _, gb_al (gb_refl _ _)⟩
    | true =>
      rw [hx] at IX HD
      rw [if_pos rfl] at HD
      obtain ⟨j, rfl, hj⟩ := isx_nat hx
      obtain ⟨ad, rfl⟩ := HH.out.some (by omega)
      obtain ⟨c0, fa, fn, fc, c1, sf⟩ := HH.out.cells ad rfl j hj
      rw [Int.toNat_natCast] at HD
      have SF1 := Lib.hid sf
      have c9 := fun o => (gb_alloc w o none).cell c1 (by simp)
      have i1 : (j : Int) < hn := by omega
      have i0 : (0 : Int) ≤ (j : Int) := by omega
      clear hx c0 sf h1
      go_enter Try.func152, Try.ntmps152
      go_wp2_with fail
      refine (IX.out _).mono ?_
      rintro e w1 ⟨rfl, rfl⟩
      go_wp2
      go_ret
      exact ⟨_, _, _, rfl, by rw [HD.out]; exact SF1.out.keep0 (gb_al (gb_refl _ _)), gb_al (gb_refl _ _)⟩
set_option maxRecDepth 100000 in
set_option maxHeartbeats 2000000 in
theorem elem_any (w : World) (pl : Value) (va fa ta : Option Addr) (vn vc fn fc tn tc : Nat) (F : List (List Int)) (T : List Int) (hF : SR w fa fn fc F) (hT : SU w ta tn tc T) (h : Int) :
    Calls Try.prog 154 #[.agg #[.slice va vn vc, .slice fa fn fc, .slice ta tn tc, pl], .int .i64 h] w (RetUs w (vls F T h)) := by
  have HH := Lib.hid hF
  have HM := Lib.hid hT
  have HL := Lib.hid hF.len
  have hcap := hF.cap
  clear hF hT
  by_cases h1 : h = -1
  · subst h1
    rw [show vls F T (-1) = T from by unfold vls; rw [if_pos rfl]]
    go_enter Try.func154, Try.ntmps154
    go_wp2
    go_ret
    exact ⟨_, _, _, rfl, HM.out.keep0 (gb_al (gb_refl _ _)), gb_al (gb_refl _ _)⟩
  · have n1 : (h == -1) = false := by rw [beq_eq_false_iff_ne]; exact h1
    have n2 : decide (h = -1) = false := decide_eq_false h1
    have IX := Lib.hid (fun w => eisx_any w h fn)
    have HD := Lib.hid (show vls F T h = if isX h fn = true then F.getD h.toNat [] else [] by unfold vls; rw [if_neg h1, HL.out])
    unfold RetS at IX
    cases hx : isX h fn with
    | false =>
      rw [hx] at IX HD
      rw [if_neg (by decide)] at HD
      clear hx
      go_enter Try.func154, Try.ntmps154
      go_wp2_with fail
      refine (IX.out _).mono ?_
      rintro e w1 ⟨rfl, rfl⟩
      go_wp2
      go_ret
      exact ⟨_, _, _, rfl, by rw [HD.out]; exact su_nil _, gb_al (gb_refl _ _)⟩
    | true =>
      rw [hx] at IX HD
      rw [if_pos rfl] at HD
      obtain ⟨j, rfl, hj⟩ := isx_nat hx
      obtain ⟨ad, rfl⟩ := HH.out.some (by omega)
      obtain ⟨ga, gn, gc, c1, sf⟩ := HH.out.cells ad rfl j hj
      rw [Int.toNat_natCast] at HD
      have SF1 := Lib.hid sf
      have c9 := fun o => (gb_alloc w o none).cell c1 (by simp)
      have i1 : (j : Int) < fn := by omega
      have i0 : (0 : Int) ≤ (j : Int) := by omega
      clear hx sf h1
      go_enter Try.func154, Try.ntmps154
      go_wp2_with fail
      refine (IX.out _).mono ?_
      rintro e w1 ⟨rfl, rfl⟩
      go_wp2
      go_ret
      exact ⟨_, _, _, rfl, by rw [HD.out]; exact SF1.out.keep0 (gb_al (gb_refl _ _)), gb_al (gb_refl _ _)⟩
set_option maxRecDepth 100000 in
set_option maxHeartbeats 2000000 in
theorem evalid_any (w : World) (f1 f2 f3 : Value) (va : Option Addr) (vn vc : Nat) (V : List Bool) (hV : SB w va vn vc V) (h : Int) :
    Calls Try.prog 161 #[.agg #[.slice va vn vc, f1, f2, f3], .int .i64 h] w (RetV (.bool (validB V h)) w) := by
  have HH := Lib.hid hV
  have HL := Lib.hid hV.len
  have hcap := hV.cap
  have IX := Lib.hid (fun w => eisx_any w h vn)
  have HD := Lib.hid (show validB V h = (isX h vn && V.getD h.toNat false) by unfold validB; rw [HL.out])
  unfold RetS at IX
  clear hV
  cases hx : isX h vn with
  | false =>
    rw [hx] at IX HD
    rw [Bool.false_and] at HD
    clear hx
    go_enter Try.func161, Try.ntmps161
    go_wp2_with fail
    refine (IX.out _).mono ?_
    rintro e w1 ⟨rfl, rfl⟩
    go_wp2
    go_ret
    exact ⟨by rw [HD.out] <;> rfl, gb_al (gb_refl _ _)⟩
  | true =>
    rw [hx] at IX HD
    rw [Bool.true_and] at HD
    obtain ⟨j, rfl, hj⟩ := isx_nat hx
    obtain ⟨ad, rfl⟩ := HH.out.some (by omega)
    have c1 := HH.out.cells ad rfl j hj
    rw [Int.toNat_natCast] at HD
    generalize V.getD j false = b at *
    have c9 := fun o => (gb_alloc w o none).cell c1 (by simp)
    have i1 : (j : Int) < vn := by omega
    have i0 : (0 : Int) ≤ (j : Int) := by omega
    clear hx
    go_enter Try.func161, Try.ntmps161
    go_wp2_with fail
    refine (IX.out _).mono ?_
    rintro e w1 ⟨rfl, rfl⟩
    go_wp2
    go_ret
    exact ⟨by rw [HD.out] <;> rfl, gb_al (gb_refl _ _)⟩
set_option maxRecDepth 100000 in
set_option maxHeartbeats 2000000 in
theorem eopen_any (w : World) (f1 f2 f3 : Value) (va : Option Addr) (vn vc : Nat) (V : List Bool) (hV : SB w va vn vc V) (h : Int) :
    Calls Try.prog 155 #[.agg #[.slice va vn vc, f1, f2, f3], .int .i64 h] w (RetV (.bool (openB V h)) w) := by
  have EV := Lib.hid (fun (w2 : World) (k : w.grownBy w2 none) => evalid_any w2 f1 f2 f3 va vn vc V (hV.keep0 k) h)
  unfold RetV at EV
  by_cases h1 : h = -1
  · subst h1
    have HD := Lib.hid (show openB V (-1) = true from rfl)
    clear hV
    go_enter Try.func155, Try.ntmps155
    go_wp2
    go_ret
    exact ⟨by rw [HD.out] <;> rfl, gb_al (gb_refl _ _)⟩
  · have n1 : (h == -1) = false := by rw [beq_eq_false_iff_ne]; exact h1
    have n2 : decide (h = -1) = false := decide_eq_false h1
    have HD := Lib.hid (show openB V h = validB V h by unfold openB; rw [n2, Bool.false_or])
    generalize validB V h = b at *
    clear hV
    go_enter Try.func155, Try.ntmps155
    go_wp2_with fail
    refine (EV.out _ (gb_al (gb_refl _ _))).mono ?_
    rintro e w1 ⟨rfl, g1⟩
    have G1 := Lib.hid (gb_trans (gb_al (gb_refl _ _)) g1)
    clear g1
    go_wp2
    go_ret
    exact ⟨by rw [HD.out] <;> rfl, G1.out⟩
set_option maxRecDepth 100000 in
set_option maxHeartbeats 4000000 in
theorem ewid_any (w : World) (nm v3 v4 v5 v6 v7 v8 : Value) (ha ma : Option Addr) (hn hc mn mc : Nat) (H : List (ByteArray × List Fld)) (M : List Fld) (hH : SH w ha hn hc H) (hM : SF w ma mn mc M) (h f : Int) :
    Calls Try.prog 132 #[.agg #[nm, .slice ha hn hc, .slice ma mn mc, v3, v4, v5, v6, v7, v8], .agg #[.int .i64 h, .int .i64 f]] w (RetV (.int .i64 (widE H M h f)) w) := by
  have DC := Lib.hid (fun (w2 : World) (k : w.grownBy w2 none) => decl_any w2 nm v3 v4 v5 v6 v7 v8 ha ma hn hc mn mc H M (hH.keep0 k) (hM.keep0 k) h)
  have HD := Lib.hid (show widE H M h f = if isX f (dfs H M h).length = true then (if okW ((dfs H M h).getD f.toNat fz).2 = true then ((dfs H M h).getD f.toNat fz).2 else 0) else 0 from rfl)
  unfold RetFs at DC
  generalize widE H M h f = r at *
  generalize dfs H M h = D at *
  clear hH hM
  have G2 := Lib.hid (show w.grownBy ((w.alloc (.cells #[nm, .slice ha hn hc, .slice ma mn mc, v3, v4, v5, v6, v7, v8] 31)).alloc (.cells #[.int .i64 h, .int .i64 f] 102)) none from gb_al (gb_al (gb_refl _ _)))
  obtain ⟨W2, hW2⟩ : ∃ W2, W2 = (w.alloc (.cells #[nm, .slice ha hn hc, .slice ma mn mc, v3, v4, v5, v6, v7, v8] 31)).alloc (.cells #[.int .i64 h, .int .i64 f] 102) := ⟨_, rfl⟩
  have B2 : IsB W2 (w.heap.size + 1) 102 #[.int .i64 h, .int .i64 f] := by
    rw [hW2]
    have := IsB.new (w.alloc (.cells #[nm, .slice ha hn hc, .slice ma mn mc, v3, v4, v5, v6, v7, v8] 31)) 102 #[.int .i64 h, .int .i64 f]
    rwa [sz_al] at this
  rw [← hW2] at G2
  have BB := Lib.hid B2
  clear B2
  go_enter Try.func132, Try.ntmps132
  go_wp2_with fail
  rw [← hW2]
  clear hW2
  refine (DC.out _ G2.out).mono ?_
  rintro e w1 ⟨fa, fn, fc, rfl, sf, g1⟩
  have SD := Lib.hid sf
  have hcap := sf.cap
  have HL := Lib.hid sf.len
  have G1 := Lib.hid (gb_trans G2.out g1)
  have B1 := BB.out.keep0 g1
  have k0 := B1.cell 0
  have k1 := B1.cell 1
  simp at k0 k1
  have IX := Lib.hid (fun w => eisx_any w f fn)
  unfold RetS at IX
  rw [HL.out] at HD
  clear sf g1 DC G2 BB B1
  cases hx : isX f fn with
  | false =>
    rw [hx] at IX HD
    rw [if_neg (by decide)] at HD
    clear hx
    go_wp2_with fail
    refine (IX.out _).mono ?_
    rintro e w2 ⟨rfl, rfl⟩
    go_wp2
    go_ret
    exact ⟨by rw [HD.out] <;> rfl, G1.out⟩
  | true =>
    rw [hx] at IX HD
    rw [if_pos rfl] at HD
    obtain ⟨j, rfl, hj⟩ := isx_nat hx
    obtain ⟨ad, rfl⟩ := SD.out.some (by omega)
    obtain ⟨c0, c1⟩ := SD.out.cells ad rfl j hj
    rw [Int.toNat_natCast] at HD
    generalize (D.getD j fz).2 = wd at *
    have i1 : (j : Int) < fn := by omega
    have i0 : (0 : Int) ≤ (j : Int) := by omega
    have FT := Lib.hid (fun W => fits_any 0 wd W)
    rw [fits0] at FT
    unfold Ret at FT
    clear hx c0
    cases ho : okW wd with
    | false =>
      rw [ho] at FT HD
      rw [if_neg (by decide)] at HD
      clear ho
      go_wp2_with fail
      refine (IX.out _).mono ?_
      rintro e w2 ⟨rfl, rfl⟩
      go_wp2_with fail
      refine (FT.out _).mono ?_
      rintro e w3 ⟨rfl, g3⟩
      have G3 := Lib.hid (gb_trans G1.out (gb_gr g3 none))
      clear g3
      go_wp2
      go_ret
      exact ⟨by rw [HD.out] <;> rfl, G3.out⟩
    | true =>
      rw [ho] at FT HD
      rw [if_pos rfl] at HD
      clear ho
      go_wp2_with fail
      refine (IX.out _).mono ?_
      rintro e w2 ⟨rfl, rfl⟩
      go_wp2_with fail
      refine (FT.out _).mono ?_
      rintro e w3 ⟨rfl, g3⟩
      have G3 := Lib.hid (gb_trans G1.out (gb_gr g3 none))
      clear g3
      go_wp2
      go_ret
      exact ⟨by rw [HD.out] <;> rfl, G3.out⟩
end Go.Proofs.Ytfjeonoihdgdoaa
