/- Parser: the law Appends; for every input. -/
import Derived.Test.YtngobkghcogahaaGxN
import Derived.Test.YtngobkghcogahaaGxG
import Derived.Deep.QuietTactic
import Derived.BigQuiet
import Derived.Deep.RegionWith
namespace Go.Proofs.Ytngobkghcogahaa
open Go.RowKit
set_option linter.unusedVariables false
theorem bitAt_app (bs m : List Int) (p : Nat) (h : p < 8 * bs.length) : bitAt (bs ++ m) p = bitAt bs p := by
  unfold bitAt
  rw [List.getD_eq_getElem?_getD, List.getElem?_append_left (by omega), ← List.getD_eq_getElem?_getD]
theorem accB_app (bs m : List Int) (pos : Nat) : ∀ n, pos + n ≤ 8 * bs.length → accB (bs ++ m) pos n = accB bs pos n := by
  intro n
  induction n with
  | zero => intro _; rfl
  | succ n ih =>
    intro h
    show 2 * accB (bs ++ m) pos n + bitAt (bs ++ m) (pos + n) = 2 * accB bs pos n + bitAt bs (pos + n)
    rw [ih (by omega), bitAt_app bs m _ (by omega)]
theorem numsB_app (bs m : List Int) : ∀ (l : List Int) (pos : Nat), pos + sumL l ≤ 8 * bs.length → numsB (bs ++ m) pos l = numsB bs pos l := by
  intro l
  induction l with
  | nil => intro pos _; rfl
  | cons n t ih =>
    intro pos h
    have h : pos + (n.toNat + sumL t) ≤ 8 * bs.length := h
    show accB (bs ++ m) pos n.toNat :: numsB (bs ++ m) (pos + n.toNat) t = accB bs pos n.toNat :: numsB bs (pos + n.toNat) t
    rw [accB_app bs m pos _ (by omega), ih _ (by omega)]
theorem rdH_app {hs : ByteArray} {l : List Fld} {bs : List Int} (m : List Int) {pos : Nat} (h : (rdH hs l bs pos).1 = 0) : rdH hs l (bs ++ m) pos = rdH hs l bs pos := by
  unfold rdH at h ⊢
  by_cases c : chkH hs l = 0
  · have c2 : ¬ ¬ chkH hs l = 0 := fun x => x c
    rw [if_neg c2] at h
    rw [if_neg c2, if_neg c2]
    by_cases q : (bs.length : Int) * 8 - pos < isum (wsL l)
    · rw [if_pos q] at h; cases h
    · obtain ⟨_, _, _, _, g⟩ := chk_ok hs l c
      obtain ⟨f1, _, _⟩ := isum_good _ g
      have e : ((bs ++ m).length : Int) = bs.length + m.length := by rw [List.length_append]; omega
      have q2 : ¬ ((bs ++ m).length : Int) * 8 - pos < isum (wsL l) := by rw [e]; omega
      rw [if_neg q, if_neg q2, numsB_app bs m _ _ (by omega)]
  · rw [if_pos c] at h; exact absurd h c
theorem pEx_more {H : List (ByteArray × List Fld)} {bs : List Int} (m : List Int) {L : EL} {pos h : Nat} (q : (pEx H bs L pos h).1 = 0) : pEx H (bs ++ m) L pos h = pEx H bs L pos h := by
  have r : (rdH (H.getD h hz).1 (H.getD h hz).2 bs pos).1 = 0 := by
    unfold pEx at q
    split at q
    · assumption
    · exact q
  unfold pEx
  rw [rdH_app m r]
theorem pExs_more {H : List (ByteArray × List Fld)} {bs : List Int} (m : List Int) : ∀ (ex : List Int) (L : EL) (pos : Nat), (pExs H bs ex L pos).1 = 0 → pExs H (bs ++ m) ex L pos = pExs H bs ex L pos := by
  intro ex
  induction ex with
  | nil => intro L pos _; rfl
  | cons h t ih =>
    intro L pos q
    unfold pExs at q
    show (if (pEx H (bs ++ m) L pos h.toNat).1 = 0 then pExs H (bs ++ m) t (pEx H (bs ++ m) L pos h.toNat).2.1 (pEx H (bs ++ m) L pos h.toNat).2.2 else pEx H (bs ++ m) L pos h.toNat) = (if (pEx H bs L pos h.toNat).1 = 0 then pExs H bs t (pEx H bs L pos h.toNat).2.1 (pEx H bs L pos h.toNat).2.2 else pEx H bs L pos h.toNat)
    split at q
    · rename_i q0
      rw [pEx_more m q0, if_pos q0, if_pos q0, ih _ _ q]
    · rename_i q0; exact absurd q q0
theorem pGo_more {H : List (ByteArray × List Fld)} {bs : List Int} {S : List Pst} (m : List Int) : ∀ (f i : Nat) (st : List Int) (L : EL) (p : Nat), (pGo H bs S f i st L p).1 = 0 → pGo H (bs ++ m) S f i st L p = pGo H bs S f i st L p := by
  intro f
  induction f with
  | zero => intro i st L p _; rfl
  | succ f ih =>
    intro i st L p q
    rw [pGo_step _ rfl _ rfl] at q
    by_cases h : (pExs H bs (S.getD i psz).ex L p).1 = 0
    · rw [if_pos h] at q
      rw [pGo_step (pExs H bs (S.getD i psz).ex L p) (pExs_more m _ _ _ h) _ rfl, pGo_step (pExs H bs (S.getD i psz).ex L p) rfl _ rfl, if_pos h, if_pos h]
      split
      · rfl
      · split
        · rfl
        · rename_i h2 h1
          rw [if_neg h2, if_neg h1] at q
          exact ih _ _ _ _ q
    · rw [if_neg h] at q; exact absurd q h
/-- Bytes that follow an accepted packet are appended to its payload. -/
theorem pRun_more {H : List (ByteArray × List Fld)} {M : List Fld} {S : List Pst} {bs : List Int} (m : List Int) (hz9 : HZ H) (q : (pRun H M S bs 0).2.2 = 0) :
    pRun H M S (bs ++ m) 0 = (⟨(pRun H M S bs 0).1.V, (pRun H M S bs 0).1.F, (pRun H M S bs 0).1.T, (pRun H M S bs 0).1.P ++ m⟩, (pRun H M S bs 0).2.1, 0) := by
  have z : ¬ ((0 : Int) ≠ 0) := by simp
  unfold pRun at q ⊢
  rw [if_neg z] at q
  rw [if_neg z, if_neg z]
  by_cases h : (pGo H bs S 12 0 [0] (newE H M) 0).1 = 0
  · obtain ⟨_, _, _, _, _, g, h8⟩ := pGo_keeps (bs := bs) (S := S) hz9 12 0 [0] (newE H M) 0 (Nat.zero_le _) rfl (newE_rows hz9)
    have h2 : ¬ (pGo H bs S 12 0 [0] (newE H M) 0).1 ≠ 0 := fun x => x h
    rw [pGo_more m _ _ _ _ _ h, if_neg h2, if_neg h2]
    have e : (restR (bs ++ m) (pGo H bs S 12 0 [0] (newE H M) 0).2.2.2).2 = (restR bs (pGo H bs S 12 0 [0] (newE H M) 0).2.2.2).2 ++ m := by
      unfold restR
      rw [if_pos h8, if_pos h8]
      exact List.drop_append_of_le_length (by omega)
    rw [e]
  · rw [if_pos h] at q; exact absurd q h
theorem pRun_bad {H : List (ByteArray × List Fld)} {M : List Fld} {S : List Pst} {bs : List Int} {e0 : Int} (h : e0 ≠ 0) : (pRun H M S bs e0).2.2 = e0 := by unfold pRun; rw [if_pos h]
theorem own_apart {w w2 : World} {base : Nat} {e : TypeId} {size n : Nat} {v V : Value} {xs : List Value} (h : w.ownsRow base e size v n xs) (k : w.grownBy w2 V.ownBlock) (hp : ∀ q, V.ownBlock = some q → v.ownBlock ≠ some q) : w2.ownsRow base e size v n xs := by
  refine h.kept k ?_
  cases hV : V.ownBlock with
  | none =>
    cases hv : v.ownBlock with
    | none => exact .inl rfl
    | some q => exact .inr (by simp)
  | some g => exact .inr (hp g hV)
/-- An append to bytes of the call's own that are not the packet's. -/
theorem OE.pastY {w w2 : World} {base b2 n : Nat} {X : EX} {L : EL} {Vs : List Value} {V : Value} {ys : List Value} (h : OE w base X L Vs) (o : w.ownsRow b2 5 1 V n ys) (k : w.grownBy w2 V.ownBlock) (hp : ∀ q, V.ownBlock = some q → (Value.slice X.pa X.pn X.pc).ownBlock ≠ some q) : OE w2 base X L Vs :=
  ⟨own_past h.v o (by decide) k, ⟨own_past h.f.out o (by decide) k, fun x hx => own_past (h.f.own x hx) o (by decide) k, h.f.dis, h.f.rng⟩, own_past h.t o (by decide) k, own_apart h.p k hp, h.vl, h.fl, h.tl, h.pl, h.trng, h.prng, h.dis⟩
theorem own_zero (w : World) (t : TypeId) {base : Nat} (hb : base ≤ w.heap.size) : (w.alloc (.cells #[] t)).ownsRow base t 1 (.slice (some ⟨w.heap.size, 0, none⟩) 0 0) 0 [] :=
  ⟨rfl, .inr ⟨_, 0, #[], rfl, hb, IsB.new w t #[], Nat.le_refl _, Nat.zero_le _, rfl, rfl⟩⟩
theorem ny_sy {w : World} {base : Nat} {a : Option Addr} {n c : Nat} {L : List Int} (h : w.ownsRow base 5 1 (.slice a n c) n (L.map (Value.int .u8))) (hr : ∀ x ∈ L, 0 ≤ x ∧ x < 256) : SY w a n c L := ⟨own_slr h, own_cap h, hr⟩
set_option maxRecDepth 100000 in
set_option maxHeartbeats 8000000 in
theorem appends_on (w : World) (nm : ByteArray) (rA xA tA kA dA ha ma sa : Option Addr) (rN rC xN xC tN tC kN kC dN dC hn hc mn mc sn sc : Nat) (H : List (ByteArray × List Fld)) (M : List Fld) (S : List Pst) (hH : SH w ha hn hc H) (hM : SF w ma mn mc M) (hS : SPs w sa sn sc S) (hnm : ∀ x ∈ H, x.1.size ≤ 9223372036854775807 ∧ ∀ p ∈ x.2, p.1.size ≤ 9223372036854775807) (da : Option Addr) (dn dc : Nat) (bs : List Int) (hD : SY w da dn dc bs) (ga : Option Addr) (gn gc : Nat) (b2 : List Int) (hD2 : SY w ga gn gc b2) : Calls Try.prog 5 #[.agg #[.string nm, .slice ha hn hc, .slice ma mn mc, .slice rA rN rC, .slice xA xN xC, .slice tA tN tC, .slice sa sn sc, .slice kA kN kC, .slice dA dN dC], .slice da dn dc, .slice ga gn gc] w (RetV (.bool true) w) := by
  classical
  have KL := Lib.hid (fun (W : World) (q : w.grownBy W none) => large18_any W (.string nm) (.slice rA rN rC) (.slice xA xN xC) (.slice tA tN tC) (.slice kA kN kC) (.slice dA dN dC) ha ma sa hn hc mn mc sn sc H S (hH.keep0 q) (hS.keep0SPs q) hnm)
  obtain ⟨a1, a2, e, hp⟩ := pkC_ex H M S
  obtain ⟨b0, hb0⟩ : ∃ b0 : Bool, b0 = true ↔ hdsOk H := ⟨decide (hdsOk H), decide_eq_true_iff⟩
  have LD := Lib.hid hD.len
  have LD2 := Lib.hid hD2.len
  have LH := Lib.hid hH.len
  have LM := Lib.hid hM.len
  have LS := Lib.hid hS.len
  obtain ⟨res, hres⟩ : ∃ res, res = pRun H M S bs (inE e b0 dn) := ⟨_, rfl⟩
  obtain ⟨res2, hres2⟩ : ∃ res, res = pRun H M S (bs ++ b2) (inE e b0 (dn + gn)) := ⟨_, rfl⟩
  have K1 := Lib.hid (fun (W : World) (q : w.grownBy W none) (tz : TLz hn mn sn H S) (hdl : dn ≤ 600) => pparse_any W nm rA xA tA kA dA ha ma sa rN rC xN xC tN tC kN kC dN dC hn hc mn mc sn sc H M S (hH.keep0 q) (hM.keep0 q) (hS.keep0SPs q) (tlz_nz tz) (tlz_hz tz) (by have := tz.h; omega) (by have := tz.m; omega) da dn dc bs (hD.keep0 q) (by omega) a1 a2 e hp b0 hb0 res hres)
  have K2 := Lib.hid (fun (W : World) (q : w.grownBy W none) (xa9 : Option Addr) (xc9 : Nat) (hx : SY W xa9 (dn + gn) xc9 (bs ++ b2)) (tz : TLz hn mn sn H S) (hdl : dn + gn ≤ 512) => pparse_any W nm rA xA tA kA dA ha ma sa rN rC xN xC tN tC kN kC dN dC hn hc mn mc sn sc H M S (hH.keep0 q) (hM.keep0 q) (hS.keep0SPs q) (tlz_nz tz) (tlz_hz tz) (by have := tz.h; omega) (by have := tz.m; omega) xa9 (dn + gn) xc9 (bs ++ b2) hx (by omega) a1 a2 e hp b0 hb0 res2 hres2)
  have K3 := Lib.hid (fun (W : World) (q : w.grownBy W none) (tz : TLz hn mn sn H S) (hdl : dn ≤ 600) => pstates_any W nm rA xA tA kA dA ha ma sa rN rC xN xC tN tC kN kC dN dC hn hc mn mc sn sc H M S (hH.keep0 q) (hM.keep0 q) (hS.keep0SPs q) (tlz_nz tz) (tlz_hz tz) (by have := tz.h; omega) (by have := tz.m; omega) da dn dc bs (hD.keep0 q) (by omega) a1 a2 e hp b0 hb0 res hres)
  have K4 := Lib.hid (fun (W : World) (q : w.grownBy W none) (xa9 : Option Addr) (xc9 : Nat) (hx : SY W xa9 (dn + gn) xc9 (bs ++ b2)) (tz : TLz hn mn sn H S) (hdl : dn + gn ≤ 512) => pstates_any W nm rA xA tA kA dA ha ma sa rN rC xN xC tN tC kN kC dN dC hn hc mn mc sn sc H M S (hH.keep0 q) (hM.keep0 q) (hS.keep0SPs q) (tlz_nz tz) (tlz_hz tz) (by have := tz.h; omega) (by have := tz.m; omega) xa9 (dn + gn) xc9 (bs ++ b2) hx (by omega) a1 a2 e hp b0 hb0 res2 hres2)
  have HOK := Lib.hid (show inE e b0 dn = 0 → statesOk H M S from fun h => hp.ok.1 (inE_zero h).1)
  have HRES := Lib.hid hres
  have HRES2 := Lib.hid hres2
  have HD := Lib.hid hD
  have HD2 := Lib.hid hD2
  have G1 := Lib.hid (gb_alloc w (.cells #[.string nm, .slice ha hn hc, .slice ma mn mc, .slice rA rN rC, .slice xA xN xC, .slice tA tN tC, .slice sa sn sc, .slice kA kN kC, .slice dA dN dC] 31) none)
  have B1 := IsB.new w 31 #[.string nm, .slice ha hn hc, .slice ma mn mc, .slice rA rN rC, .slice xA xN xC, .slice tA tN tC, .slice sa sn sc, .slice kA kN kC, .slice dA dN dC]
  replace B1 := Lib.hid B1
  clear hH hM hS hnm hp hD hD2 hb0 hres hres2
  go_enter Try.func5, Try.ntmps5
  go_upto_region 1 with fail
  generalize w.alloc (.cells #[.string nm, .slice ha hn hc, .slice ma mn mc, .slice rA rN rC, .slice xA xN xC, .slice tA tN tC, .slice sa sn sc, .slice kA kN kC, .slice dA dN dC] 31) = w1 at *
  obtain ⟨bx, hbx⟩ : ∃ b, b = w.heap.size := ⟨_, rfl⟩
  have Lbx := Lib.hid (show w.heap.size ≤ bx by rw [hbx]; exact Nat.le_refl _)
  rw [← hbx] at B1 ⊢
  clear hbx
  have c0 := (B1.out.keep0 (gb_refl _ _)).cell 0
  have c1 := (B1.out.keep0 (gb_refl _ _)).cell 1
  have c2 := (B1.out.keep0 (gb_refl _ _)).cell 2
  have c3 := (B1.out.keep0 (gb_refl _ _)).cell 3
  have c4 := (B1.out.keep0 (gb_refl _ _)).cell 4
  have c5 := (B1.out.keep0 (gb_refl _ _)).cell 5
  have c6 := (B1.out.keep0 (gb_refl _ _)).cell 6
  have c7 := (B1.out.keep0 (gb_refl _ _)).cell 7
  have c8 := (B1.out.keep0 (gb_refl _ _)).cell 8
  dsimp at c0 c1 c2 c3 c4 c5 c6 c7 c8
  go_wp2_with fail
  refine (KL.out _ G1.out).mono ?_
  rintro e9 w2 ⟨bl, rfl, g, hb⟩
  have G2 := Lib.hid (gb_trans G1.out g)
  replace B1 := Lib.hid (B1.out.keep0 g)
  have HB := Lib.hid hb
  clear g hb c0 c1 c2 c3 c4 c5 c6 c7 c8
  cases bl
  case true =>
    go_wp2_with fail
    refine (works18_any w2).mono ?_
    rintro e9 wz9 ⟨rfl, g⟩
    have GZ9 := Lib.hid (gb_trans G2.out g)
    clear g
    go_wp2
    go_ret
    exact ⟨rfl, GZ9.out⟩
  by_cases hd6 : 600 < dn
  · have i6 : (600 : Int) < dn := by omega
    go_wp2_with fail
    refine (works18_any w2).mono ?_
    rintro e9 wz9 ⟨rfl, g⟩
    have GZ9 := Lib.hid (gb_trans G2.out g)
    clear g
    go_wp2
    go_ret
    exact ⟨rfl, GZ9.out⟩
  have i6 : ¬ (600 : Int) < dn := by omega
  by_cases hd7 : 600 < gn
  · have i7 : (600 : Int) < gn := by omega
    go_wp2_with fail
    refine (works18_any w2).mono ?_
    rintro e9 wz9 ⟨rfl, g⟩
    have GZ9 := Lib.hid (gb_trans G2.out g)
    clear g
    go_wp2
    go_ret
    exact ⟨rfl, GZ9.out⟩
  have i7 : ¬ (600 : Int) < gn := by omega
  have hw1 : IntKind.i64.wrap ((dn : Int) + gn) = ((dn + gn : Nat) : Int) := by rw [IntKind.wrap_i64]; omega
  by_cases hd8 : 512 < dn + gn
  · have i8 : (512 : Int) < ((dn + gn : Nat) : Int) := by omega
    go_wp2_with fail
    refine (works18_any w2).mono ?_
    rintro e9 wz9 ⟨rfl, g⟩
    have GZ9 := Lib.hid (gb_trans G2.out g)
    clear g
    go_wp2
    go_ret
    exact ⟨rfl, GZ9.out⟩
  have i8 : ¬ (512 : Int) < ((dn + gn : Nat) : Int) := by omega
  have TZ := Lib.hid (HB.out rfl)
  have HDL := Lib.hid (show dn ≤ 600 by omega)
  have HDG := Lib.hid (show dn + gn ≤ 512 by omega)
  clear HB hd6 hd7 hd8
  have c0 := (B1.out.keep0 (gb_refl _ _)).cell 0
  have c1 := (B1.out.keep0 (gb_refl _ _)).cell 1
  have c2 := (B1.out.keep0 (gb_refl _ _)).cell 2
  have c3 := (B1.out.keep0 (gb_refl _ _)).cell 3
  have c4 := (B1.out.keep0 (gb_refl _ _)).cell 4
  have c5 := (B1.out.keep0 (gb_refl _ _)).cell 5
  have c6 := (B1.out.keep0 (gb_refl _ _)).cell 6
  have c7 := (B1.out.keep0 (gb_refl _ _)).cell 7
  have c8 := (B1.out.keep0 (gb_refl _ _)).cell 8
  dsimp at c0 c1 c2 c3 c4 c5 c6 c7 c8
  go_upto_region 4 with (go_at_call 16; refine (K1.out _ G2.out TZ.out HDL.out).mono ?_; rintro e9 w3 ⟨X1, Vs1, rfl, oe, g⟩; have O1 := Lib.hid oe; have G3 := Lib.hid g; clear oe g)
  have E1 := Lib.hid (IsB.new w3 42 #[.slice X1.va X1.vn X1.vc, .slice X1.fa X1.fn X1.fc, .slice X1.ta X1.tn X1.tc, .slice X1.pa X1.pn X1.pc])
  have g9 := gb_alloc w3 (.cells #[.slice X1.va X1.vn X1.vc, .slice X1.fa X1.fn X1.fc, .slice X1.ta X1.tn X1.tc, .slice X1.pa X1.pn X1.pc] 42) none
  replace O1 := Lib.hid (O1.out.keep0 g9)
  replace B1 := Lib.hid (B1.out.keep0 (gb_trans G3.out g9))
  have G4 := Lib.hid (gb_trans G2.out (gb_trans G3.out g9))
  have LB7 := Lib.hid (show w.heap.size ≤ w3.heap.size from (gb_trans G2.out G3.out).size)
  clear g9 G3 K1 i6 i7 i8 hw1 c0 c1 c2 c3 c4 c5 c6 c7 c8
  generalize w3.alloc (.cells #[.slice X1.va X1.vn X1.vc, .slice X1.fa X1.fn X1.fc, .slice X1.ta X1.tn X1.tc, .slice X1.pa X1.pn X1.pc] 42) = w4 at *
  generalize w3.heap.size = b7 at *
  have Z0 := Lib.hid (own_zero w4 5 (base := w4.heap.size) (Nat.le_refl _))
  have GZ := Lib.hid (gb_alloc w4 (.cells #[] 5) none)
  go_upto_region 5 with (first | (at_builtin; refine xpushY rfl _ _ rfl w4.heap.size (.slice xa dn xc) (bs.map (Value.int .u8)) rfl (by rw [List.length_map, LD.out]; exact O5.out) ga gn gc (b2.map (Value.int .u8)) rfl (HD2.out.keep0 (gb_trans G4.out G5.out)).slr (by intro u hu; obtain ⟨y, _, rfl⟩ := List.mem_map.1 hu; rfl) (by have := LD.out; have := LD2.out; have := HDG.out; simp; omega) G5.out.size ?_; intro V6 w6 o6 g6; have O6 := Lib.hid (show w6.ownsRow w4.heap.size 5 1 V6 (dn + gn) ((bs ++ b2).map (Value.int .u8)) by (have z := o6; simp only [← List.map_append, List.length_map, List.length_append, LD.out, LD2.out] at z; exact z)); have G6 := Lib.hid (gb_own2 G5.out O5.out (Nat.le_refl _) g6); clear o6 g6) | (at_builtin; refine xpushY rfl _ _ rfl w4.heap.size (.slice (some ⟨w4.heap.size, 0, none⟩) 0 0) [] rfl Z0.out da dn dc (bs.map (Value.int .u8)) rfl (HD.out.keep0 (gb_trans G4.out GZ.out)).slr (by intro u hu; obtain ⟨y, _, rfl⟩ := List.mem_map.1 hu; rfl) (by have := LD.out; have := HDL.out; simp; omega) (by simp) ?_; intro V5 w5 o5 g5; have O5 := Lib.hid (show w5.ownsRow w4.heap.size 5 1 V5 dn (bs.map (Value.int .u8)) by (have z := o5; simp only [List.nil_append, List.length_map, LD.out] at z; exact z)); have G5 := Lib.hid (gb_own2 GZ.out Z0.out (Nat.le_refl _) g5); clear o5 g5; obtain ⟨xa, xc, rfl⟩ := own_shape O5.out))
  obtain ⟨ya, yc, rfl⟩ := own_shape O6.out
  have RB := Lib.hid (show ∀ x ∈ bs ++ b2, 0 ≤ x ∧ x < 256 from fun x hx => (List.mem_append.1 hx).elim (HD.out.rng x) (HD2.out.rng x))
  have ALL := Lib.hid (ny_sy O6.out RB.out)
  have G26 := Lib.hid (gb_trans G4.out G6.out)
  replace O1 := Lib.hid (O1.out.keep0 G6.out)
  replace E1 := Lib.hid (E1.out.keep0 G6.out)
  replace B1 := Lib.hid (B1.out.keep0 G6.out)
  clear Z0 GZ O5 G5 G6 G4
  obtain ⟨n6, hn6⟩ : ∃ n, n = dn + gn := ⟨_, rfl⟩
  rw [← hn6] at K2 K4 HRES2 ALL HDG O6 ⊢
  have N6 := Lib.hid hn6
  clear hn6
  have c0 := (B1.out.keep0 (gb_refl _ _)).cell 0
  have c1 := (B1.out.keep0 (gb_refl _ _)).cell 1
  have c2 := (B1.out.keep0 (gb_refl _ _)).cell 2
  have c3 := (B1.out.keep0 (gb_refl _ _)).cell 3
  have c4 := (B1.out.keep0 (gb_refl _ _)).cell 4
  have c5 := (B1.out.keep0 (gb_refl _ _)).cell 5
  have c6 := (B1.out.keep0 (gb_refl _ _)).cell 6
  have c7 := (B1.out.keep0 (gb_refl _ _)).cell 7
  have c8 := (B1.out.keep0 (gb_refl _ _)).cell 8
  dsimp at c0 c1 c2 c3 c4 c5 c6 c7 c8
  go_upto_region 6 with (go_at_call 16; refine (K2.out _ G26.out ya yc ALL.out TZ.out HDG.out).mono ?_; rintro e9 w7 ⟨X2, Vs2, rfl, oe, g⟩; have O2 := Lib.hid oe; have G7 := Lib.hid g; clear oe g)
  have E2 := Lib.hid (IsB.new w7 42 #[.slice X2.va X2.vn X2.vc, .slice X2.fa X2.fn X2.fc, .slice X2.ta X2.tn X2.tc, .slice X2.pa X2.pn X2.pc])
  have g9 := gb_alloc w7 (.cells #[.slice X2.va X2.vn X2.vc, .slice X2.fa X2.fn X2.fc, .slice X2.ta X2.tn X2.tc, .slice X2.pa X2.pn X2.pc] 42) none
  have g67 := gb_trans G7.out g9
  have NEQ := Lib.hid (show w7.heap.size ≠ b7 by have := E1.out.lt; have := G7.out.size; omega)
  have OAL := Lib.hid (own_keep0 O6.out g67)
  replace O2 := Lib.hid (O2.out.keep0 g9)
  replace O1 := Lib.hid (O1.out.keep0 g67)
  replace E1 := Lib.hid (E1.out.keep0 g67)
  replace B1 := Lib.hid (B1.out.keep0 g67)
  replace ALL := Lib.hid (ALL.out.keep0 g67)
  have G8 := Lib.hid (gb_trans G26.out g67)
  clear g9 g67 G7 K2 G26 O6 c0 c1 c2 c3 c4 c5 c6 c7 c8
  generalize w7.alloc (.cells #[.slice X2.va X2.vn X2.vc, .slice X2.fa X2.fn X2.fc, .slice X2.ta X2.tn X2.tc, .slice X2.pa X2.pn X2.pc] 42) = w8 at *
  generalize w7.heap.size = bA at *
  by_cases hr1 : res.2.2 = 0
  case neg =>
    have q1 : (res.2.2 != 0) = true := by simp [hr1]
    go_wp2_with fail
    refine (works18_any w8).mono ?_
    rintro e9 wz9 ⟨rfl, g⟩
    have GZ9 := Lib.hid (gb_trans G8.out g)
    clear g
    go_wp2
    go_ret
    exact ⟨rfl, GZ9.out⟩
  have q1 : (res.2.2 != 0) = false := by simp [hr1]
  have INZ := Lib.hid (show inE e b0 dn = 0 by
    rcases Int.decEq (inE e b0 dn) 0 with x | x
    · rw [HRES.out, pRun_bad x] at hr1; exact absurd hr1 x
    · exact x)
  have INZ2 := Lib.hid (show inE e b0 n6 = 0 by
    obtain ⟨x1, x2, _⟩ := inE_zero INZ.out
    unfold inE
    rw [if_neg (by simp [x1, x2]), if_neg (by have := HDG.out; omega)])
  have OKS := Lib.hid (HOK.out INZ.out)
  have MORE := Lib.hid (show res2 = (⟨res.1.V, res.1.F, res.1.T, res.1.P ++ b2⟩, res.2.1, 0) by
    rw [HRES2.out, INZ2.out]
    have z := pRun_more (bs := bs) (M := M) (S := S) b2 (tlz_hz TZ.out) (by have y := hr1; rw [HRES.out, INZ.out] at y; exact y)
    rw [z, HRES.out, INZ.out])
  have EZ1 := Lib.hid (show EZ X1 res.1 by have z := O1.out; rw [HRES.out] at z ⊢; exact run_ez z (tlz_hz TZ.out) (by rw [LH.out]; have := TZ.out.h; omega) (by rw [LM.out]; have := TZ.out.m; omega) (by rw [LD.out]; have := HDL.out; omega))
  have EZ2 := Lib.hid (show EZ X2 res2.1 by have z := O2.out; rw [HRES2.out] at z ⊢; exact run_ez z (tlz_hz TZ.out) (by rw [LH.out]; have := TZ.out.h; omega) (by rw [LM.out]; have := TZ.out.m; omega) (by rw [List.length_append, LD.out, LD2.out]; have := HDG.out; have := N6.out; omega))
  have RNG := Lib.hid (show ∀ x ∈ res.2.1, -9223372036854775808 ≤ x ∧ x ≤ 9223372036854775807 by rw [HRES.out]; exact pRun_rng HOK.out (by rw [LS.out]; have := TZ.out.s; omega))
  have LN9 := Lib.hid (show res.2.1.length ≤ 100000 by rw [HRES.out]; exact pRun_len HOK.out (by rw [LS.out]; have := TZ.out.s; omega))
  have PSZ := Lib.hid (show res.1.P.length ≤ 600 by rw [HRES.out]; have z := (pRun_size (M := M) (S := S) (bs := bs) (tlz_hz TZ.out) (inE e b0 dn)).2.2.2.2; have := LD.out; have := HDL.out; omega)
  have KS1 := Lib.hid (fun (W : World) (q : w.grownBy W none) => K3.out W q TZ.out HDL.out)
  have x0 := E1.out.cell 0
  have x1 := E1.out.cell 1
  have x2 := E1.out.cell 2
  have x3 := E1.out.cell 3
  dsimp at x0 x1 x2 x3
  go_upto_region 9 with (go_at_call 22; refine (rclone_any w8 X1 res.1 O1.out.er EZ1.out).mono ?_; rintro e9 wA ⟨⟨va, fa, ta, pa, vn, vc, fn, fc, tn, tc, pn, pc⟩, Vs3, rfl, oe, g⟩; have OX := Lib.hid oe; have GA := Lib.hid g; have EA := Lib.hid (E1.out.keep0 g); have f0 := EA.out.free 0; have f1 := EA.out.free 1; have f2 := EA.out.free 2; have f3 := EA.out.free 3; have y0 := EA.out.cell 0; have y1 := EA.out.cell 1; have y2 := EA.out.cell 2; have y3 := EA.out.cell 3; dsimp at y0 y1 y2 y3; clear oe g)
  clear x0 x1 x2 x3
  have P4 := Lib.hid (put4 EA.out (.slice va vn vc) (.slice fa fn fc) (.slice ta tn tc) (.slice pa pn pc))
  have OXb := Lib.hid (OX.out.kB P4.out.2 EA.out (by decide) (by decide) (by decide) (by decide))
  have O2b := Lib.hid ((O2.out.keep0 GA.out).kB P4.out.2 EA.out (by decide) (by decide) (by decide) (by decide))
  have E2b := Lib.hid ((E2.out.keep0 GA.out).keep P4.out.2 (by intro e; injection e with e; exact NEQ.out e))
  have B1b := Lib.hid ((B1.out.keep0 GA.out).keepS P4.out.2 EA.out (by decide))
  have GB := Lib.hid (gb_new (gb_trans (gb_any (gb_trans G8.out GA.out)) P4.out.2) LB7.out)
  have EB := Lib.hid P4.out.1
  have OALb := Lib.hid (own_keepS (own_keep0 OAL.out GA.out) P4.out.2 EA.out (by decide))
  have LB8 := Lib.hid (Nat.le_trans GA.out.size P4.out.2.size)
  have OQ1 := Lib.hid (fun q (h : (Value.slice ya n6 yc).ownBlock = some q) => (World.ownsRow.lt OAL.out q h).2)
  have OQ2 := Lib.hid (fun q (h : (Value.slice X2.pa X2.pn X2.pc).ownBlock = some q) => (World.ownsRow.lt (show World.ownsRow w8 _ 5 1 _ _ _ from O2.out.p) q h).2)
  clear O2 E2 B1 E1 EA OX GA OAL ALL
  generalize ((((wA.setCell ⟨b7, 0, none⟩ (.slice va vn vc)).setCell ⟨b7, 1, none⟩ (.slice fa fn fc)).setCell ⟨b7, 2, none⟩ (.slice ta tn tc)).setCell ⟨b7, 3, none⟩ (.slice pa pn pc)) = wB at *
  clear y0 y1 y2 y3 f0 f1 f2 f3 P4
  have z3 := EB.out.cell 3
  dsimp at z3
  go_upto_region 10 with (at_builtin; refine xpushY rfl _ _ rfl w8.heap.size (.slice pa pn pc) (res.1.P.map (Value.int .u8)) rfl (by have z := OXb.out.p; unfold NY at z; rw [List.length_map]; exact z) ga gn gc (b2.map (Value.int .u8)) rfl (HD2.out.keep0 GB.out).slr (by intro u hu; obtain ⟨y, _, rfl⟩ := List.mem_map.1 hu; rfl) (by have := PSZ.out; have := LD2.out; have := HDG.out; have := N6.out; simp; omega) LB8.out ?_; intro VC wC oC gC; have OC := Lib.hid (show wC.ownsRow w8.heap.size 5 1 VC (res.1.P ++ b2).length ((res.1.P ++ b2).map (Value.int .u8)) by (have z := oC; simp only [← List.map_append, List.length_map] at z; exact z)); have GC := Lib.hid gC; have EC := Lib.hid (isb_past EB.out OXb.out.p (by decide) gC); have f3 := EC.out.free 3; have y3 := EC.out.cell 3; dsimp at y3; clear oC gC; obtain ⟨qn, hqn⟩ : ∃ n, n = (res.1.P ++ b2).length := ⟨_, rfl⟩; obtain ⟨qa, qc, hVC⟩ := own_shape OC.out; rw [← hqn] at hVC OC; subst hVC; have QN := Lib.hid hqn; clear hqn)
  have PB := Lib.hid (fun q (h : (Value.slice pa pn pc).ownBlock = some q) => (World.ownsRow.lt (show World.ownsRow wB w8.heap.size 5 1 (.slice pa pn pc) _ _ from OXb.out.p) q h).1)
  have s1 := gb_set wC b7 3 (.slice qa qn qc)
  have m1 : IsB (wC.setCell ⟨b7, 3, none⟩ (.slice qa qn qc)) b7 42 #[.slice va vn vc, .slice fa fn fc, .slice ta tn tc, .slice qa qn qc] := EC.out.set 3 (.slice qa qn qc)
  have E1 := Lib.hid m1
  have E2 := Lib.hid ((isb_past E2b.out OXb.out.p (by decide) GC.out).keep s1 (by intro e; injection e with e; exact NEQ.out e))
  have B1 := Lib.hid ((isb_past B1b.out OXb.out.p (by decide) GC.out).keepS s1 EC.out (by decide))
  have O2 := Lib.hid ((OE.pastY O2b.out OXb.out.p GC.out (fun q h h2 => by have := PB.out q h; have := OQ2.out q h2; omega)).kB s1 EC.out (by decide) (by decide) (by decide) (by decide))
  have OAf := Lib.hid (own_keepS (own_apart OALb.out GC.out (fun q h h2 => by have := PB.out q h; have := OQ1.out q h2; omega)) s1 EC.out (by decide))
  have PR2 := Lib.hid (show ∀ x ∈ res.1.P ++ b2, 0 ≤ x ∧ x < 256 from fun x hx => (List.mem_append.1 hx).elim (OXb.out.prng x) (HD2.out.rng x))
  have OF := Lib.hid (show OE (wC.setCell ⟨b7, 3, none⟩ (.slice qa qn qc)) w8.heap.size ⟨va, fa, ta, qa, vn, vc, fn, fc, tn, tc, qn, qc⟩ ⟨res.1.V, res.1.F, res.1.T, res.1.P ++ b2⟩ Vs3 from OE.kB (w := wC) ⟨own_past OXb.out.v OXb.out.p (by decide) GC.out, ⟨own_past OXb.out.f.out OXb.out.p (by decide) GC.out, fun x hx => own_past (OXb.out.f.own x hx) OXb.out.p (by decide) GC.out, OXb.out.f.dis, OXb.out.f.rng⟩, own_past OXb.out.t OXb.out.p (by decide) GC.out, by have z := OC.out; unfold NY; rw [← QN.out]; exact z, OXb.out.vl, OXb.out.fl, OXb.out.tl, QN.out.symm, OXb.out.trng, PR2.out, OXb.out.dis⟩ s1 EC.out (by decide) (by decide) (by decide) (by decide))
  have G9 := Lib.hid (gb_new (gb_trans (gb_any (gb_own2 GB.out OXb.out.p (by have := G8.out.size; omega) GC.out)) s1) LB7.out)
  have RBx := RB
  clear s1 m1 EC EB E2b B1b O2b OALb OXb OC GC GB OQ1 OQ2 PB LB8 z3
  generalize wC.setCell ⟨b7, 3, none⟩ (.slice qa qn qc) = w9 at *
  clear y3 f3
  have EZ4 := Lib.hid (show EZ ⟨va, fa, ta, qa, vn, vc, fn, fc, tn, tc, qn, qc⟩ ⟨res.1.V, res.1.F, res.1.T, res.1.P ++ b2⟩ from ⟨by rw [← OF.out.vl]; show res.1.V.length ≤ 100000; have z := EZ1.out.v; have y := O1.out.vl; omega, by rw [← OF.out.fl]; show res.1.F.length ≤ 100000; have z := EZ1.out.f; have y := O1.out.fl; omega, by rw [← OF.out.tl]; show res.1.T.length ≤ 100000; have z := EZ1.out.t; have y := O1.out.tl; omega, by rw [← OF.out.pl]; have := PSZ.out; have := LD2.out; have := HDG.out; have := N6.out; simp only [List.length_append]; omega, EZ1.out.r⟩)
  have KQ := Lib.hid (fun (W : World) (q : w9.grownBy W none) => by have z := requal_any W ⟨va, fa, ta, qa, vn, vc, fn, fc, tn, tc, qn, qc⟩ X2 ⟨res.1.V, res.1.F, res.1.T, res.1.P ++ b2⟩ res2.1 (OF.out.er.keep0 q) (O2.out.er.keep0 q) EZ4.out EZ2.out true (by rw [MORE.out]; simp [sameE]); unfold RetV at z; dsimp only at z; exact z)
  have KS2 := Lib.hid (fun (W : World) (q : w9.grownBy W none) => by have z := K4.out W (gb_trans G9.out q) ya yc (ny_sy (own_keep0 OAf.out q) RB.out) TZ.out HDG.out; rw [MORE.out] at z; exact z)
  have R20 := Lib.hid (show res2.2.2 = 0 by rw [MORE.out])
  have q2 : (res2.2.2 == 0) = true := by rw [R20.out]; rfl
  clear K3 K4 HRES HRES2 HOK MORE O1 O2 OF OAf
  have KS := Lib.hid (fun (w' : World) (q0 : w9.grownBy w' none) => (⟨(E1.out.keep0 q0).cell 0, (E1.out.keep0 q0).cell 1, (E1.out.keep0 q0).cell 2, (E1.out.keep0 q0).cell 3, (E2.out.keep0 q0).cell 0, (E2.out.keep0 q0).cell 1, (E2.out.keep0 q0).cell 2, (E2.out.keep0 q0).cell 3, (B1.out.keep0 q0).cell 0, (B1.out.keep0 q0).cell 1, (B1.out.keep0 q0).cell 2, (B1.out.keep0 q0).cell 3, (B1.out.keep0 q0).cell 4, (B1.out.keep0 q0).cell 5, (B1.out.keep0 q0).cell 6, (B1.out.keep0 q0).cell 7, (B1.out.keep0 q0).cell 8, q0⟩ : (fun w' : World => w'.cell? ⟨b7, 0, none⟩ = some (.slice va vn vc) ∧ w'.cell? ⟨b7, 1, none⟩ = some (.slice fa fn fc) ∧ w'.cell? ⟨b7, 2, none⟩ = some (.slice ta tn tc) ∧ w'.cell? ⟨b7, 3, none⟩ = some (.slice qa qn qc) ∧ w'.cell? ⟨bA, 0, none⟩ = some (.slice X2.va X2.vn X2.vc) ∧ w'.cell? ⟨bA, 1, none⟩ = some (.slice X2.fa X2.fn X2.fc) ∧ w'.cell? ⟨bA, 2, none⟩ = some (.slice X2.ta X2.tn X2.tc) ∧ w'.cell? ⟨bA, 3, none⟩ = some (.slice X2.pa X2.pn X2.pc) ∧ w'.cell? ⟨bx, 0, none⟩ = some (.string nm) ∧ w'.cell? ⟨bx, 1, none⟩ = some (.slice ha hn hc) ∧ w'.cell? ⟨bx, 2, none⟩ = some (.slice ma mn mc) ∧ w'.cell? ⟨bx, 3, none⟩ = some (.slice rA rN rC) ∧ w'.cell? ⟨bx, 4, none⟩ = some (.slice xA xN xC) ∧ w'.cell? ⟨bx, 5, none⟩ = some (.slice tA tN tC) ∧ w'.cell? ⟨bx, 6, none⟩ = some (.slice sa sn sc) ∧ w'.cell? ⟨bx, 7, none⟩ = some (.slice kA kN kC) ∧ w'.cell? ⟨bx, 8, none⟩ = some (.slice dA dN dC) ∧ w9.grownBy w' none) w'))
  have R0 := Lib.hid (gb_drew w9 none)
  refine wp_region_held_drew (S := (fun w' : World => w'.cell? ⟨b7, 0, none⟩ = some (.slice va vn vc) ∧ w'.cell? ⟨b7, 1, none⟩ = some (.slice fa fn fc) ∧ w'.cell? ⟨b7, 2, none⟩ = some (.slice ta tn tc) ∧ w'.cell? ⟨b7, 3, none⟩ = some (.slice qa qn qc) ∧ w'.cell? ⟨bA, 0, none⟩ = some (.slice X2.va X2.vn X2.vc) ∧ w'.cell? ⟨bA, 1, none⟩ = some (.slice X2.fa X2.fn X2.fc) ∧ w'.cell? ⟨bA, 2, none⟩ = some (.slice X2.ta X2.tn X2.tc) ∧ w'.cell? ⟨bA, 3, none⟩ = some (.slice X2.pa X2.pn X2.pc) ∧ w'.cell? ⟨bx, 0, none⟩ = some (.string nm) ∧ w'.cell? ⟨bx, 1, none⟩ = some (.slice ha hn hc) ∧ w'.cell? ⟨bx, 2, none⟩ = some (.slice ma mn mc) ∧ w'.cell? ⟨bx, 3, none⟩ = some (.slice rA rN rC) ∧ w'.cell? ⟨bx, 4, none⟩ = some (.slice xA xN xC) ∧ w'.cell? ⟨bx, 5, none⟩ = some (.slice tA tN tC) ∧ w'.cell? ⟨bx, 6, none⟩ = some (.slice sa sn sc) ∧ w'.cell? ⟨bx, 7, none⟩ = some (.slice kA kN kC) ∧ w'.cell? ⟨bx, 8, none⟩ = some (.slice dA dN dC) ∧ w9.grownBy w' none)) (by kernel_rfl) (KS.out _ R0.out) (fun hH0 => ?_)
  refine wpAnyH_take (i := 0) (v := ?v8) rfl (by kernel_rfl) (by kernel_rfl) (by kernel_rfl) (fun _ _ _ h => h) (Or.inl ⟨by rfl, ?hy8⟩) (by assumption) ?rest8
  case hy8 => (intro wz hSw; (try dsimp only at hSw); first | (go_simp; done) | (go_simp; with_reducible rfl))
  try simp only [Act.put, List.getElem_toArray, List.getElem_cons_zero, List.setIfInBounds_toArray, List.set_cons_zero, List.set_cons_succ]
  refine wpAnyH_take (i := 1) (v := ?v9) rfl (by kernel_rfl) (by kernel_rfl) (by kernel_rfl) (fun _ _ _ h => h) (Or.inl ⟨by rfl, ?hy9⟩) (by assumption) ?rest9
  case hy9 => (intro wz hSw; (try dsimp only at hSw); first | (go_simp; done) | (go_simp; with_reducible rfl))
  try simp only [Act.put, List.getElem_toArray, List.getElem_cons_succ, List.getElem_cons_zero, List.setIfInBounds_toArray, List.set_cons_zero, List.set_cons_succ]
  refine wpAnyH_take (i := 2) (v := ?v10) rfl (by kernel_rfl) (by kernel_rfl) (by kernel_rfl) (fun _ _ _ h => h) (Or.inl ⟨by rfl, ?hy10⟩) (by assumption) ?rest10
  case hy10 => (intro wz hSw; (try dsimp only at hSw); first | (go_simp; done) | (go_simp; with_reducible rfl))
  try simp only [Act.put, List.getElem_toArray, List.getElem_cons_succ, List.getElem_cons_zero, List.setIfInBounds_toArray, List.set_cons_zero, List.set_cons_succ]
  refine wpAnyH_take (i := 3) (v := ?v11) rfl (by kernel_rfl) (by kernel_rfl) (by kernel_rfl) (fun _ _ _ h => h) (Or.inl ⟨by rfl, ?hy11⟩) (by assumption) ?rest11
  case hy11 => (intro wz hSw; (try dsimp only at hSw); first | (go_simp; done) | (go_simp; with_reducible rfl))
  try simp only [Act.put, List.getElem_toArray, List.getElem_cons_succ, List.getElem_cons_zero, List.setIfInBounds_toArray, List.set_cons_zero, List.set_cons_succ]
  refine wpAnyH_take (i := 4) (v := ?v12) rfl (by kernel_rfl) (by kernel_rfl) (by kernel_rfl) (fun _ _ _ h => h) (Or.inl ⟨by rfl, ?hy12⟩) (by assumption) ?rest12
  case hy12 => (intro wz hSw; (try dsimp only at hSw); first | (go_simp; done) | (go_simp; with_reducible rfl))
  try simp only [Act.put, List.getElem_toArray, List.getElem_cons_succ, List.getElem_cons_zero, List.setIfInBounds_toArray, List.set_cons_zero, List.set_cons_succ]
  refine wpAnyH_ready (rs := [5]) (by kernel_rfl) (by simp) ?_
  refine AllReadyH.cons (o := _) rfl (fun K hK => ?_) AllReadyH.nil
  go_simp
  (with_reducible refine (KQ.out _ R0.out).mono ?_)
  rintro e rw1 ⟨rfl, g⟩
  have R1 := Lib.hid (gb_trans R0.out g)
  clear g
  try dsimp only
  refine hK.out _ _ (KS.out _ R1.out) (fun hH1 => ?_)
  clear hK K hH0
  try simp only [Act.put, List.getElem_toArray, List.getElem_cons_succ, List.getElem_cons_zero, List.setIfInBounds_toArray, List.set_cons_zero, List.set_cons_succ]
  refine wpAnyH_take (i := 6) (v := ?v13) rfl (by kernel_rfl) (by kernel_rfl) (by kernel_rfl) (fun _ _ _ h => h) (Or.inl ⟨by rfl, ?hy13⟩) (by assumption) ?rest13
  case hy13 => (intro wz hSw; (try dsimp only at hSw); first | (go_simp; done) | (go_simp; with_reducible rfl))
  try simp only [Act.put, List.getElem_toArray, List.getElem_cons_succ, List.getElem_cons_zero, List.setIfInBounds_toArray, List.set_cons_zero, List.set_cons_succ]
  refine wpAnyH_take (i := 7) (v := ?v14) rfl (by kernel_rfl) (by kernel_rfl) (by kernel_rfl) (fun _ _ _ h => h) (Or.inl ⟨by rfl, ?hy14⟩) (by assumption) ?rest14
  case hy14 => (intro wz hSw; (try dsimp only at hSw); first | (go_simp; done) | (go_simp; with_reducible rfl))
  try simp only [Act.put, List.getElem_toArray, List.getElem_cons_succ, List.getElem_cons_zero, List.setIfInBounds_toArray, List.set_cons_zero, List.set_cons_succ]
  refine wpAnyH_take (i := 8) (v := ?v15) rfl (by kernel_rfl) (by kernel_rfl) (by kernel_rfl) (fun _ _ _ h => h) (Or.inl ⟨by rfl, ?hy15⟩) (by assumption) ?rest15
  case hy15 => (intro wz hSw; (try dsimp only at hSw); first | (go_simp; done) | (go_simp; with_reducible rfl))
  try simp only [Act.put, List.getElem_toArray, List.getElem_cons_succ, List.getElem_cons_zero, List.setIfInBounds_toArray, List.set_cons_zero, List.set_cons_succ]
  refine wpAnyH_take (i := 9) (v := ?v16) rfl (by kernel_rfl) (by kernel_rfl) (by kernel_rfl) (fun _ _ _ h => h) (Or.inl ⟨by rfl, ?hy16⟩) (by assumption) ?rest16
  case hy16 => (intro wz hSw; (try dsimp only at hSw); first | (go_simp; done) | (go_simp; with_reducible rfl))
  try simp only [Act.put, List.getElem_toArray, List.getElem_cons_succ, List.getElem_cons_zero, List.setIfInBounds_toArray, List.set_cons_zero, List.set_cons_succ]
  refine wpAnyH_take (i := 11) (v := ?v17) rfl (by kernel_rfl) (by kernel_rfl) (by kernel_rfl) (fun _ _ _ h => h) (Or.inl ⟨by rfl, ?hy17⟩) (by assumption) ?rest17
  case hy17 => (intro wz hSw; (try dsimp only at hSw); first | (go_simp; done) | (go_simp; with_reducible rfl))
  try simp only [Act.put, List.getElem_toArray, List.getElem_cons_succ, List.getElem_cons_zero, List.setIfInBounds_toArray, List.set_cons_zero, List.set_cons_succ]
  refine wpAnyH_take (i := 12) (v := ?v18) rfl (by kernel_rfl) (by kernel_rfl) (by kernel_rfl) (fun _ _ _ h => h) (Or.inl ⟨by rfl, ?hy18⟩) (by assumption) ?rest18
  case hy18 => (intro wz hSw; (try dsimp only at hSw); first | (go_simp; done) | (go_simp; with_reducible rfl))
  try simp only [Act.put, List.getElem_toArray, List.getElem_cons_succ, List.getElem_cons_zero, List.setIfInBounds_toArray, List.set_cons_zero, List.set_cons_succ]
  refine wpAnyH_ready (rs := [10]) (by kernel_rfl) (by simp) ?_
  refine AllReadyH.cons (o := _) rfl (fun K hK => ?_) AllReadyH.nil
  go_simp
  (with_reducible refine (KS1.out _ (gb_trans G9.out R1.out)).mono ?_)
  rintro e rw2 ⟨E3, rfl, nl, g⟩
  obtain ⟨ea, ec, rfl⟩ := own_shape nl
  have N3 := Lib.hid (nl_si nl rfl RNG.out)
  clear nl
  have R2 := Lib.hid (gb_trans R1.out g)
  clear g
  try dsimp only
  refine hK.out _ _ (KS.out _ R2.out) (fun hH2 => ?_)
  clear hK K hH1
  try simp only [Act.put, List.getElem_toArray, List.getElem_cons_succ, List.getElem_cons_zero, List.setIfInBounds_toArray, List.set_cons_zero, List.set_cons_succ]
  refine wpAnyH_ready (rs := [13]) (by kernel_rfl) (by simp) ?_
  refine AllReadyH.cons (o := _) rfl (fun K hK => ?_) AllReadyH.nil
  go_simp
  (with_reducible refine (KS2.out _ R2.out).mono ?_)
  rintro e rw3 ⟨E4, rfl, nl, g⟩
  obtain ⟨eb, ed, rfl⟩ := own_shape nl
  have N4 := Lib.hid (nl_si nl rfl RNG.out)
  replace N3 := Lib.hid (N3.out.keep0 g)
  clear nl
  have R3 := Lib.hid (gb_trans R2.out g)
  clear g
  try dsimp only
  refine hK.out _ _ (KS.out _ R3.out) (fun hH3 => ?_)
  clear hK K hH2
  try simp only [Act.put, List.getElem_toArray, List.getElem_cons_succ, List.getElem_cons_zero, List.setIfInBounds_toArray, List.set_cons_zero, List.set_cons_succ]
  refine wpAnyH_ready (rs := [14]) (by kernel_rfl) (by simp) ?_
  refine AllReadyH.cons (o := _) rfl (fun K hK => ?_) AllReadyH.nil
  go_simp
  (with_reducible refine (eqints_any _ _ _ _ _ _ _ _ _ N3.out N4.out LN9.out true (by simp)).mono ?_)
  rintro e rw4 ⟨rfl, g⟩
  have R4 := Lib.hid (gb_trans R3.out g)
  clear g
  try dsimp only
  refine hK.out _ _ (KS.out _ R4.out) (fun hH4 => ?_)
  clear hK K hH3
  try simp only [Act.put, List.getElem_toArray, List.getElem_cons_succ, List.getElem_cons_zero, List.setIfInBounds_toArray, List.set_cons_zero, List.set_cons_succ]
  refine wpAnyH_take (i := 15) (v := ?v19) rfl (by kernel_rfl) (by kernel_rfl) (by kernel_rfl) (fun _ _ _ h => h) (Or.inl ⟨by rfl, ?hy19⟩) (by assumption) ?rest19
  case hy19 => (intro wz hSw; (try dsimp only at hSw); first | (go_simp; done) | (go_simp; with_reducible rfl))
  try simp only [Act.put, List.getElem_toArray, List.getElem_cons_succ, List.getElem_cons_zero, List.setIfInBounds_toArray, List.set_cons_zero, List.set_cons_succ]
  refine wpAnyH_take (i := 16) (v := ?v20) rfl (by kernel_rfl) (by kernel_rfl) (by kernel_rfl) (fun _ _ _ h => h) (Or.inl ⟨by rfl, ?hy20⟩) (by assumption) ?rest20
  case hy20 => (intro wz hSw; (try dsimp only at hSw); first | (go_simp; done) | (go_simp; with_reducible rfl))
  try simp only [Act.put, List.getElem_toArray, List.getElem_cons_succ, List.getElem_cons_zero, List.setIfInBounds_toArray, List.set_cons_zero, List.set_cons_succ]
  refine wpAnyH_ready (rs := [17]) (by kernel_rfl) (by simp) ?_
  refine AllReadyH.cons (o := _) rfl (fun K hK => ?_) AllReadyH.nil
  go_simp
  (with_reducible refine (works18_any _).mono ?_)
  rintro e rw5 ⟨rfl, g⟩
  have R5 := Lib.hid (gb_trans R4.out g)
  clear g
  try dsimp only
  refine hK.out _ _ (KS.out _ R5.out) (fun hH5 => ?_)
  clear hK K hH4
  try simp only [Act.put, List.getElem_toArray, List.getElem_cons_succ, List.getElem_cons_zero, List.setIfInBounds_toArray, List.set_cons_zero, List.set_cons_succ]
  refine wpAnyH_take (i := 18) (v := ?v21) rfl (by kernel_rfl) (by kernel_rfl) (by kernel_rfl) (fun _ _ _ h => h) (Or.inl ⟨by rfl, ?hy21⟩) (by assumption) ?rest21
  case hy21 => (intro wz hSw; (try dsimp only at hSw); first | (go_simp; done) | (go_simp; with_reducible rfl))
  try simp only [Act.put, List.getElem_toArray, List.getElem_cons_succ, List.getElem_cons_zero, List.setIfInBounds_toArray, List.set_cons_zero, List.set_cons_succ]
  refine wpAnyH_take (i := 19) (v := ?v22) rfl (by kernel_rfl) (by kernel_rfl) (by kernel_rfl) (fun _ _ _ h => h) (Or.inl ⟨by rfl, ?hy22⟩) (by assumption) ?rest22
  case hy22 => (intro wz hSw; (try dsimp only at hSw); first | (go_simp; done) | (go_simp; with_reducible rfl))
  try simp only [Act.put, List.getElem_toArray, List.getElem_cons_succ, List.getElem_cons_zero, List.setIfInBounds_toArray, List.set_cons_zero, List.set_cons_succ]
  refine wpAnyH_done (by kernel_rfl) ?_ _
  clear hH5
  have GF := Lib.hid (gb_trans G9.out R5.out)
  go_wp2
  go_ret
  exact ⟨rfl, GF.out⟩
end Go.Proofs.Ytngobkghcogahaa
