/- Parser: the law Reads; no condition but sizes. -/
import Derived.Test.YtjhknmklejkknaaPtI
import Derived.Test.YtjhknmklejkknaaPtC
import Derived.Test.YtjhknmklejkknaaGxO
import Derived.Test.YtjhknmklejkknaaDpL
import Derived.Test.YtjhknmklejkknaaGxG
import Derived.Deep.QuietTactic
import Derived.BigQuiet
import Derived.Deep.RegionWith
import Derived.StillTailTactics
namespace Go.Proofs.Ytjhknmklejkknaa
open Go.RowKit
set_option linter.unusedVariables false
theorem spsp_1 {w : World} {g : Nat} {t : TypeId} {s : ByteArray} {a : Option Addr} {an ac : Nat} {b : Bool} {h1 f1 d1 : Int} {X : List Int}
    (h : IsB w g t #[.string s, .slice a an ac, .bool b, .int .i64 h1, .int .i64 f1, .slice none 0 0, .int .i64 d1]) (hX : SI w a an ac X) : SPs w (some ⟨g, 0, none⟩) 1 1 [⟨s, X, b, h1, f1, [], d1⟩] := by
  refine ⟨rfl, (fun e => by cases e), Nat.le_refl _, fun ad e j hj => ?_⟩
  cases e
  obtain rfl : j = 0 := by omega
  exact ⟨by simpa [Addr.add] using h.cell 0, ⟨a, an, ac, by simpa [Addr.add] using h.cell 1, hX⟩, by simpa [Addr.add] using h.cell 2, by simpa [Addr.add] using h.cell 3, by simpa [Addr.add] using h.cell 4, ⟨none, 0, 0, by simpa [Addr.add] using h.cell 5, sl_nil w⟩, by simpa [Addr.add] using h.cell 6⟩
theorem sr_rngR {w : World} {a : Option Addr} {n c : Nat} {L : List (List Int)} (h : SR w a n c L) : ∀ k, ∀ x ∈ L.getD k [], 0 ≤ x ∧ x < 4294967296 := fun k x hx => by
  by_cases hk : k < n
  · obtain ⟨ad, had⟩ := h.some (by omega)
    obtain ⟨_, _, _, _, s⟩ := h.cells ad had k hk
    exact s.rng x hx
  · rw [List.getD_eq_getElem?_getD, List.getElem?_eq_none (by rw [h.len]; omega)] at hx; cases hx
/-- The state of the law's first loop. -/
structure RdS (w1 : World) (EC PC : Array Value) (bx b8 b12 b9 : Nat) (aw : Option Addr) (cw : Nat) (B : List Bool) (X : EX) (A : EL) (Vs : List Value) (w : World) : Prop where
  e : IsB w bx 42 EC
  p : IsB w (bx + 1 + 1) 31 PC
  x : IsB w b8 61 #[.slice aw B.length cw]
  f : IsB w b12 42 #[.slice X.va X.vn X.vc, .slice X.fa X.fn X.fc, .slice X.ta X.tn X.tc, .slice X.pa X.pn X.pc]
  o : BRow w b9 (.slice aw B.length cw) B
  a : OE w w1.heap.size X A Vs
  g : w1.grownBy w none
  hi : b9 ≤ w.heap.size
theorem RdS.keep0 {w1 : World} {EC PC : Array Value} {bx b8 b12 b9 cw : Nat} {aw : Option Addr} {B : List Bool} {X : EX} {A : EL} {Vs : List Value} {w w2 : World} (h : RdS w1 EC PC bx b8 b12 b9 aw cw B X A Vs w) (k : w.grownBy w2 none) : RdS w1 EC PC bx b8 b12 b9 aw cw B X A Vs w2 :=
  ⟨h.e.keep0 k, h.p.keep0 k, h.x.keep0 k, h.f.keep0 k, own_keep0 h.o k, h.a.keep0 k, gb_trans h.g k, Nat.le_trans h.hi k.size⟩
theorem bytesR_rng (L : List Bool) : ∀ x ∈ (bytesR L).2, 0 ≤ x ∧ x < 256 := by
  unfold bytesR
  split
  · exact fun x hx => by have := packB_range L x hx; omega
  · intro x hx; cases hx
theorem ny_syR {w : World} {base : Nat} {a : Option Addr} {n c : Nat} {L : List Int} (h : w.ownsRow base 5 1 (.slice a n c) n (L.map (Value.int .u8))) (hr : ∀ x ∈ L, 0 ≤ x ∧ x < 256) : SY w a n c L := ⟨own_slr h, own_cap h, hr⟩
/-- Bytes that are read, appended to bytes of the call's own. -/
theorem ystep_any {ops : Array Oper} {o : Oper} {a : Act} {w : World} {K : Act → World → Prop} {Q : Exit → Act → World → Prop} {Z : Prop} (hgd : o.guard = none) (s x : Operand)
    (ho : o.op = .call { callee := .builtin .append, args := #[s, x], argTypes := #[37, 37] }) (base : Nat) (V : Value) (L : List Value) (hs : a.eval s = V) (hown : w.ownsRow base 5 1 V L.length L)
    (ad : Option Addr) (m c : Nat) (M : List Value) (hx : a.eval x = .slice ad m c) (hM : SlR w ad m c M) (h1 : ∀ u ∈ M, u.oneCell' = true) (hlen : L.length + M.length ≤ 1000000) (hbase : base ≤ w.heap.size)
    (h : ∀ V' w', w'.ownsRow base 5 1 V' (L ++ M).length (L ++ M) → w.grownBy w' V.ownBlock → K (a.put o.dst V') w') : if Region.wanted o (yielded ops a.tmps) = true then Oper.wp Try.prog o a w K Q else Z := by
  have hw : Region.wanted o (yielded ops a.tmps) = true := by simp [Region.wanted, hgd]
  rw [if_pos hw]
  obtain ⟨i0, hi, hz0, hz1, hz2⟩ := info_parts infoU8b
  have hl : M.length = m := hM.1
  subst hl
  cases ad with
  | none =>
    obtain ⟨h0, rfl⟩ := hM.2.1 rfl
    have hm : M = [] := List.length_eq_zero_iff.1 h0
    subst hm
    have hrun := run_append_owned_none (P := Try.prog) (w := w) base 37 o.type 5 i0 1 Try.underlying37 hi V _ _ hown
    unfold Oper.wp
    simp [execOp, ho, resolve, invoke, builtin, hs, hx, hrun, Result.andThen]
    refine h V w (by simpa using hown) ?_
    cases V.ownBlock <;> exact gb_refl _ _
  | some ad =>
    refine wp_append_own w s x 37 ho base 5 i0 (.int .u8 0) 1 1 Try.underlying37 hi hz0 hz1 hz2 rfl (by decide) V _ _ hs hown ad M.length c M hx (by simp) (hM.2.2 ad rfl) h1 (by unfold maxLen; omega) (by omega) hbase ?_
    intro V' w' h1 h2 h3
    exact h V' w' (by simpa using h1) h2
/-- What the law keeps at its end: its environment, its program, the packet that is expected. -/
structure RfS (w1 : World) (EC PC FC : Array Value) (bx b12 : Nat) (X : EX) (A : EL) (Vs : List Value) (w : World) : Prop where
  e : IsB w bx 42 EC
  p : IsB w (bx + 1 + 1) 31 PC
  f : IsB w b12 42 FC
  v : NB w w1.heap.size (.slice X.va X.vn X.vc) A.V
  r : OR w w1.heap.size (.slice X.fa X.fn X.fc) A.F Vs
  t : NU w w1.heap.size (.slice X.ta X.tn X.tc) A.T
  g : w1.grownBy w none
theorem RfS.keep0 {w1 : World} {EC PC FC : Array Value} {bx b12 : Nat} {X : EX} {A : EL} {Vs : List Value} {w w2 : World} (h : RfS w1 EC PC FC bx b12 X A Vs w) (k : w.grownBy w2 none) : RfS w1 EC PC FC bx b12 X A Vs w2 :=
  ⟨h.e.keep0 k, h.p.keep0 k, h.f.keep0 k, own_keep0 h.v k, h.r.keep0 k, own_keep0 h.t k, gb_trans h.g k⟩
theorem RfS.past {w1 : World} {EC PC FC : Array Value} {bx b12 : Nat} {X : EX} {A : EL} {Vs : List Value} {w w2 : World} (h : RfS w1 EC PC FC bx b12 X A Vs w) {n : Nat} {V : Value} {ys : List Value} (o : w.ownsRow w1.heap.size 5 1 V n ys) (k : w.grownBy w2 V.ownBlock) : RfS w1 EC PC FC bx b12 X A Vs w2 :=
  ⟨isb_past h.e o (by decide) k, isb_past h.p o (by decide) k, isb_past h.f o (by decide) k, own_past h.v o (by decide) k, ⟨own_past h.r.out o (by decide) k, fun x hx => own_past (h.r.own x hx) o (by decide) k, h.r.dis, h.r.rng⟩, own_past h.t o (by decide) k, gb_own2 h.g o (Nat.le_refl _) k⟩
theorem RfS.new {w1 : World} {EC PC FC : Array Value} {bx b12 : Nat} {X : EX} {A : EL} {Vs : List Value} {w w2 : World} (h : RfS w1 EC PC FC bx b12 X A Vs w) {y : Nat} {C : Array Value} (b : IsB w y 42 C) (k : w.grownBy w2 (some y)) (n1 : b12 ≠ y) (n2 : bx ≠ y) (l : w1.heap.size ≤ y) : RfS w1 EC PC FC bx b12 X A Vs w2 :=
  ⟨h.e.keep k (by intro e; injection e with e; exact n2 e), h.p.keepS k b (by decide), h.f.keep k (by intro e; injection e with e; exact n1 e), own_keepS h.v k b (by decide), ⟨own_keepS h.r.out k b (by decide), fun x hx => own_keepS (h.r.own x hx) k b (by decide), h.r.dis, h.r.rng⟩, own_keepS h.t k b (by decide), gb_new (gb_trans (gb_any h.g) k) l⟩
set_option maxRecDepth 100000 in
set_option maxHeartbeats 8000000 in
theorem reads_on (w : World) (ha da va fa ta pa : Option Addr) (hn hc dn dc vn vc fn fc tn tc pn pc : Nat) (H : List (ByteArray × List Fld)) (D : List Int) (L : EL) (hH : SH w ha hn hc H) (hD : SI w da dn dc D) (he : ER w ⟨va, fa, ta, pa, vn, vc, fn, fc, tn, tc, pn, pc⟩ L) (hnm : ∀ x ∈ H, x.1.size ≤ 9223372036854775807 ∧ ∀ p ∈ x.2, p.1.size ≤ 9223372036854775807) :
    Calls Try.prog 7 #[.slice ha hn hc, .slice da dn dc, .agg #[.slice va vn vc, .slice fa fn fc, .slice ta tn tc, .slice pa pn pc]] w (RetV (.bool true) w) := by
  have G1 := Lib.hid (gb_trans (gb_trans (gb_alloc w (.cells #[.slice va vn vc, .slice fa fn fc, .slice ta tn tc, .slice pa pn pc] 42) none) (gb_alloc _ (.cells #[.string ⟨#[115]⟩, .slice da dn dc, .bool false, .int .i64 0, .int .i64 0, .slice none 0 0, .int .i64 (-1)] 55) none)) (gb_alloc _ (.cells #[.string ⟨#[]⟩, .slice ha hn hc, .slice none 0 0, .slice none 0 0, .slice none 0 0, .slice none 0 0, .slice (some ⟨w.heap.size + 1, 0, none⟩) 1 1, .slice none 0 0, .slice none 0 0] 31) none))
  have B1 := ((IsB.new w 42 #[.slice va vn vc, .slice fa fn fc, .slice ta tn tc, .slice pa pn pc]).alloc (.cells #[.string ⟨#[115]⟩, .slice da dn dc, .bool false, .int .i64 0, .int .i64 0, .slice none 0 0, .int .i64 (-1)] 55)).alloc (.cells #[.string ⟨#[]⟩, .slice ha hn hc, .slice none 0 0, .slice none 0 0, .slice none 0 0, .slice none 0 0, .slice (some ⟨w.heap.size + 1, 0, none⟩) 1 1, .slice none 0 0, .slice none 0 0] 31)
  have B2 := (IsB.new (w.alloc (.cells #[.slice va vn vc, .slice fa fn fc, .slice ta tn tc, .slice pa pn pc] 42)) 55 #[.string ⟨#[115]⟩, .slice da dn dc, .bool false, .int .i64 0, .int .i64 0, .slice none 0 0, .int .i64 (-1)]).alloc (.cells #[.string ⟨#[]⟩, .slice ha hn hc, .slice none 0 0, .slice none 0 0, .slice none 0 0, .slice none 0 0, .slice (some ⟨w.heap.size + 1, 0, none⟩) 1 1, .slice none 0 0, .slice none 0 0] 31)
  have B3 := IsB.new ((w.alloc (.cells #[.slice va vn vc, .slice fa fn fc, .slice ta tn tc, .slice pa pn pc] 42)).alloc (.cells #[.string ⟨#[115]⟩, .slice da dn dc, .bool false, .int .i64 0, .int .i64 0, .slice none 0 0, .int .i64 (-1)] 55)) 31 #[.string ⟨#[]⟩, .slice ha hn hc, .slice none 0 0, .slice none 0 0, .slice none 0 0, .slice none 0 0, .slice (some ⟨w.heap.size + 1, 0, none⟩) 1 1, .slice none 0 0, .slice none 0 0]
  simp only [sz_al] at B2 B3
  replace B1 := Lib.hid B1
  replace B2 := Lib.hid B2
  replace B3 := Lib.hid B3
  have LD := Lib.hid hD.len
  have LH := Lib.hid hH.len
  go_enter Try.func7, Try.ntmps7
  go_upto_region 2 with fail
  generalize ((w.alloc (.cells #[.slice va vn vc, .slice fa fn fc, .slice ta tn tc, .slice pa pn pc] 42)).alloc (.cells #[.string ⟨#[115]⟩, .slice da dn dc, .bool false, .int .i64 0, .int .i64 0, .slice none 0 0, .int .i64 (-1)] 55)).alloc (.cells #[.string ⟨#[]⟩, .slice ha hn hc, .slice none 0 0, .slice none 0 0, .slice none 0 0, .slice none 0 0, .slice (some ⟨w.heap.size + 1, 0, none⟩) 1 1, .slice none 0 0, .slice none 0 0] 31) = w1 at *
  obtain ⟨bx, hbx⟩ : ∃ b, b = w.heap.size := ⟨_, rfl⟩
  have Lbx := Lib.hid (show w.heap.size ≤ bx by rw [hbx]; exact Nat.le_refl _)
  rw [← hbx] at B1 B2 B3 ⊢
  clear hbx
  have HS := Lib.hid (spsp_1 B2.out (hD.keep0 G1.out))
  have HH := Lib.hid (hH.keep0 G1.out)
  have HM := Lib.hid (sf_nil w1 : SF w1 none 0 0 [])
  have HE := Lib.hid (he.keep0 G1.out)
  have HD := Lib.hid (hD.keep0 G1.out)
  obtain ⟨a1, a2, e, hp⟩ := pkC_ex H [] [⟨⟨#[115]⟩, D, false, 0, 0, [], -1⟩]
  obtain ⟨r, hr⟩ := chkE_ex H [] L
  have K1 := Lib.hid (fun (W : World) (q : w1.grownBy W none) => rcheck18_any W (.string ⟨#[]⟩) (.slice none 0 0) (.slice none 0 0) (.slice none 0 0) (.slice none 0 0) (.slice none 0 0) ha none (some ⟨bx + 1, 0, none⟩) hn hc 0 0 1 1 H [] [⟨⟨#[115]⟩, D, false, 0, 0, [], -1⟩] (HH.out.keep0 q) (HM.out.keep0 q) (HS.out.keep0SPs q) (fun i => by match i with | 0 => exact show (⟨#[115]⟩ : ByteArray).size ≤ 9223372036854775807 by decide | i + 1 => exact show (psz.nm).size ≤ 9223372036854775807 by decide) a1 a2 e hp)
  have K2 := Lib.hid (fun (W : World) (q : w1.grownBy W none) => large18_any W (.string ⟨#[]⟩) (.slice none 0 0) (.slice none 0 0) (.slice none 0 0) (.slice none 0 0) (.slice none 0 0) ha none (some ⟨bx + 1, 0, none⟩) hn hc 0 0 1 1 H [⟨⟨#[115]⟩, D, false, 0, 0, [], -1⟩] (HH.out.keep0 q) (HS.out.keep0SPs q) hnm)
  have K3 := Lib.hid (fun (W : World) (q : w1.grownBy W none) (tz : TLz hn 0 1 H [⟨⟨#[115]⟩, D, false, 0, 0, [], -1⟩]) => rcheck_c W (.string ⟨#[]⟩) (.slice none 0 0) (.slice none 0 0) (.slice none 0 0) (.slice (some ⟨bx + 1, 0, none⟩) 1 1) (.slice none 0 0) (.slice none 0 0) ha none hn hc 0 0 H [] (HH.out.keep0 q) (HM.out.keep0 q) va fa ta pa vn vc fn fc tn tc pn pc L (HE.out.v.keep0 q) (HE.out.f.keep0 q) (HE.out.t.keep0 q) (by have := tz.h; omega) (fun sh => by
    obtain ⟨s1, s2, s3, s4⟩ := (shP_iff H [] L).1 sh
    refine ⟨by have q := he.f.len; dsimp only at q; have := tz.h; have := LH.out; omega, by have q := he.t.len; dsimp only at q; simp only [List.length_nil] at s3; omega, fun j => ?_⟩
    by_cases hj : j < H.length
    · rw [s4 j hj]; have := tz.f j; omega
    · rw [List.getD_eq_getElem?_getD, List.getElem?_eq_none (by omega)]; simp) r hr)
  unfold RetV at K1 K3
  have HP := Lib.hid hp
  have HR := Lib.hid (chkE_ok hr)
  clear hH hD he hp hr hnm
  have c0 := (B3.out.keep0 (gb_refl _ _)).cell 0
  have c1 := (B3.out.keep0 (gb_refl _ _)).cell 1
  have c2 := (B3.out.keep0 (gb_refl _ _)).cell 2
  have c3 := (B3.out.keep0 (gb_refl _ _)).cell 3
  have c4 := (B3.out.keep0 (gb_refl _ _)).cell 4
  have c5 := (B3.out.keep0 (gb_refl _ _)).cell 5
  have c6 := (B3.out.keep0 (gb_refl _ _)).cell 6
  have c7 := (B3.out.keep0 (gb_refl _ _)).cell 7
  have c8 := (B3.out.keep0 (gb_refl _ _)).cell 8
  dsimp at c0 c1 c2 c3 c4 c5 c6 c7 c8
  go_upto_region 3 with (go_at_call 15; refine (K1.out _ (gb_refl _ _)).mono ?_; rintro e9 w2 ⟨rfl, g⟩; have G2 := Lib.hid g; clear g)
  clear c0 c1 c2 c3 c4 c5 c6 c7 c8
  have c0 := (B3.out.keep0 G2.out).cell 0
  have c1 := (B3.out.keep0 G2.out).cell 1
  have c2 := (B3.out.keep0 G2.out).cell 2
  have c3 := (B3.out.keep0 G2.out).cell 3
  have c4 := (B3.out.keep0 G2.out).cell 4
  have c5 := (B3.out.keep0 G2.out).cell 5
  have c6 := (B3.out.keep0 G2.out).cell 6
  have c7 := (B3.out.keep0 G2.out).cell 7
  have c8 := (B3.out.keep0 G2.out).cell 8
  dsimp at c0 c1 c2 c3 c4 c5 c6 c7 c8
  go_wp2_with fail
  refine (K2.out _ G2.out).mono ?_
  rintro e9 w3 ⟨bl, rfl, g, hb⟩
  have G3 := Lib.hid (gb_trans G2.out g)
  have W3 := Lib.hid (gb_trans G1.out G3.out)
  have HB := Lib.hid hb
  clear g hb
  cases bl
  case true =>
    go_wp2_with fail
    refine (works18_any _).mono ?_
    rintro e9 wz ⟨rfl, g⟩
    have GZ := Lib.hid (gb_trans W3.out g)
    clear g
    go_wp2
    go_ret
    exact ⟨rfl, GZ.out⟩
  have TZ := Lib.hid (HB.out rfl)
  clear HB
  by_cases h0 : e = 0
  case neg =>
    have e0 : (e != 0) = true := by simp [h0]
    go_wp2_with fail
    refine (works18_any _).mono ?_
    rintro e9 wz ⟨rfl, g⟩
    have GZ := Lib.hid (gb_trans W3.out g)
    clear g
    go_wp2
    go_ret
    exact ⟨rfl, GZ.out⟩
  have e0 : (e != 0) = false := by simp [h0]
  subst h0
  clear c0 c1 c2 c3 c4 c5 c6 c7 c8
  have x0 := (B1.out.keep0 G3.out).cell 0
  have x1 := (B1.out.keep0 G3.out).cell 1
  have x2 := (B1.out.keep0 G3.out).cell 2
  have x3 := (B1.out.keep0 G3.out).cell 3
  dsimp at x0 x1 x2 x3
  have c0 := (B3.out.keep0 G3.out).cell 0
  have c1 := (B3.out.keep0 G3.out).cell 1
  have c2 := (B3.out.keep0 G3.out).cell 2
  have c3 := (B3.out.keep0 G3.out).cell 3
  have c4 := (B3.out.keep0 G3.out).cell 4
  have c5 := (B3.out.keep0 G3.out).cell 5
  have c6 := (B3.out.keep0 G3.out).cell 6
  have c7 := (B3.out.keep0 G3.out).cell 7
  have c8 := (B3.out.keep0 G3.out).cell 8
  dsimp at c0 c1 c2 c3 c4 c5 c6 c7 c8
  by_cases h1 : 100 < pn
  case pos =>
    have j1 : (100 : Int) < pn := by omega
    go_wp2_with fail
    refine (works18_any _).mono ?_
    rintro e9 wz ⟨rfl, g⟩
    have GZ := Lib.hid (gb_trans W3.out g)
    clear g
    go_wp2
    go_ret
    exact ⟨rfl, GZ.out⟩
  have j1 : ¬ (100 : Int) < pn := by omega
  have ZP := Lib.hid (show pn ≤ 100 by omega)
  clear h1
  go_wp2_with fail
  refine (K3.out _ G3.out TZ.out).mono ?_
  rintro e9 w4 ⟨rfl, g⟩
  have G4 := Lib.hid (gb_trans G3.out g)
  have W4 := Lib.hid (gb_trans G1.out G4.out)
  clear g
  by_cases h1 : r = 0
  case neg =>
    have r0 : (r != 0) = true := by simp [h1]
    go_wp2_with fail
    refine (works18_any _).mono ?_
    rintro e9 wz ⟨rfl, g⟩
    have GZ := Lib.hid (gb_trans W4.out g)
    clear g
    go_wp2
    go_ret
    exact ⟨rfl, GZ.out⟩
  have r0 : (r != 0) = false := by simp [h1]
  have EOK := Lib.hid (HR.out.1 h1)
  have POK := Lib.hid (HP.out.ok.1 rfl)
  clear h1 HR K1 K2 K3
  go_upto_region 6 with (go_at_call 26; refine (rnwr_any _).mono ?_; rintro e9 w5 ⟨rfl, g, _⟩; have G5 := Lib.hid (gb_trans G4.out g); clear g)
  have GB := Lib.hid (gb_alloc w5 (.cells #[.slice none 0 0] 61) none)
  have X0 := Lib.hid (IsB.new w5 61 #[.slice none 0 0])
  have G6 := Lib.hid (gb_trans G5.out GB.out)
  have L8 := Lib.hid (show w1.heap.size ≤ w5.heap.size from G5.out.size)
  generalize w5.alloc (.cells #[.slice none 0 0] 61) = w6 at *
  generalize w5.heap.size = b8 at *
  clear GB G5 c0 c1 c2 c3 c4 c5 c6 c7 c8
  try clear x0 x1 x2 x3
  have c0 := (B3.out.keep0 G6.out).cell 0
  have c1 := (B3.out.keep0 G6.out).cell 1
  have c2 := (B3.out.keep0 G6.out).cell 2
  have c3 := (B3.out.keep0 G6.out).cell 3
  have c4 := (B3.out.keep0 G6.out).cell 4
  have c5 := (B3.out.keep0 G6.out).cell 5
  have c6 := (B3.out.keep0 G6.out).cell 6
  have c7 := (B3.out.keep0 G6.out).cell 7
  have c8 := (B3.out.keep0 G6.out).cell 8
  dsimp at c0 c1 c2 c3 c4 c5 c6 c7 c8
  have KN := Lib.hid (rnew_any w6 (.string ⟨#[]⟩) (.slice none 0 0) (.slice none 0 0) (.slice none 0 0) (.slice (some ⟨bx + 1, 0, none⟩) 1 1) (.slice none 0 0) (.slice none 0 0) ha none hn hc 0 0 H [] (HH.out.keep0 G6.out) (HM.out.keep0 G6.out) (by have := TZ.out.h; omega) (by omega) (fun j => by have := TZ.out.f j; omega))
  unfold RetE at KN
  go_upto_region 7 with (go_at_call 23; refine KN.out.mono ?_; rintro e9 w7 ⟨⟨ya, yf, yt, yp, an, ac, bn, bc, tn2, tc2, pn2, pc2⟩, V0, rfl, oe, g⟩; have OE7 := Lib.hid oe; have G7 := Lib.hid g; clear oe g)
  have ga := gb_alloc w7 (.cells #[.slice ya an ac, .slice yf bn bc, .slice yt tn2 tc2, .slice yp pn2 pc2] 42) none
  have F0 := Lib.hid (IsB.new w7 42 #[.slice ya an ac, .slice yf bn bc, .slice yt tn2 tc2, .slice yp pn2 pc2])
  replace OE7 := Lib.hid ((OE7.out.keep0 ga).low G6.out.size)
  replace X0 := Lib.hid (X0.out.keep0 (gb_trans G7.out ga))
  have L12 := Lib.hid (show w1.heap.size ≤ w7.heap.size from Nat.le_trans G6.out.size G7.out.size)
  replace G7 := Lib.hid (gb_trans G6.out (gb_trans G7.out ga))
  clear ga G6 c0 c1 c2 c3 c4 c5 c6 c7 c8 KN
  generalize w7.alloc (.cells #[.slice ya an ac, .slice yf bn bc, .slice yt tn2 tc2, .slice yp pn2 pc2] 42) = w8 at *
  generalize w7.heap.size = b12 at *
  have DK := decl_ok (POK.out.2.2 0 Nat.zero_lt_one).1
  obtain ⟨DX, DL, _⟩ := DK
  replace DX := Lib.hid (show ∀ x ∈ D, ∃ k : Nat, x = (k : Int) ∧ k < H.length from DX)
  replace DL := Lib.hid (show D.length ≤ 4 from DL)
  have SHP := Lib.hid ((shP_iff H [] L).1 EOK.out.1)
  have OV := Lib.hid (show ∀ q, (Value.slice ya an ac).ownBlock = some q → q < w8.heap.size from fun q hq => (World.ownsRow.lt OE7.out.v q hq).2)
  have RS0 := Lib.hid (show ∃ aw cw Vs, RdS w1 #[.slice va vn vc, .slice fa fn fc, .slice ta tn tc, .slice pa pn pc] #[.string ⟨#[]⟩, .slice ha hn hc, .slice none 0 0, .slice none 0 0, .slice none 0 0, .slice none 0 0, .slice (some ⟨bx + 1, 0, none⟩) 1 1, .slice none 0 0, .slice none 0 0] bx b8 b12 w8.heap.size aw cw (emL H (allV H L).V L.F [] (D.take 0)) ⟨ya, yf, yt, yp, an, ac, bn, bc, tn2, tc2, pn2, pc2⟩ (tkR L (newE H []) (D.take 0)) Vs w8 from
    ⟨none, 0, V0, B1.out.keep0 G7.out, B3.out.keep0 G7.out, X0.out, F0.out, World.ownsRow_nil _ _ _ _, OE7.out, G7.out, Nat.le_refl _⟩)
  obtain ⟨b9, hb9⟩ : ∃ b, b = w8.heap.size := ⟨_, rfl⟩
  rw [← hb9] at RS0 OV
  clear hb9 OE7 X0 F0 G7 e0 r0 j1 B2
  go_wp2
  go_loopw [13] (fun i wr => ∃ k : Nat, k ≤ dn ∧ i = .int .i64 k ∧ (∀ j, j < k → D.getD j 0 ∉ D.take j) ∧ ∃ aw cw Vs, RdS w1 #[.slice va vn vc, .slice fa fn fc, .slice ta tn tc, .slice pa pn pc] #[.string ⟨#[]⟩, .slice ha hn hc, .slice none 0 0, .slice none 0 0, .slice none 0 0, .slice none 0 0, .slice (some ⟨bx + 1, 0, none⟩) 1 1, .slice none 0 0, .slice none 0 0] bx b8 b12 b9 aw cw (emL H (allV H L).V L.F [] (D.take k)) ⟨ya, yf, yt, yp, an, ac, bn, bc, tn2, tc2, pn2, pc2⟩ (tkR L (newE H []) (D.take k)) Vs wr) (fun i _ => dn - (intOf i).toNat)
  case atStart => exact ⟨0, Nat.zero_le _, rfl, fun j hj => absurd hj (Nat.not_lt_zero _), RS0.out⟩
  case round =>
    clear RS0
    obtain ⟨k, hk, rfl, hnew, aw, cw, Vs, hrs⟩ := hrel
    have RS := Lib.hid hrs
    have NW := Lib.hid hnew
    clear hrs hnew
    have hw2 : IntKind.i64.wrap ((k : Int) + 1) = ((k + 1 : Nat) : Int) := by have := DL.out; have := LD.out; rw [IntKind.wrap_i64]; omega
    by_cases hlt : k < dn
    case pos =>
      have hl : k < D.length := by rw [LD.out]; exact hlt
      obtain ⟨dd, hdd⟩ := HD.out.some (by omega)
      subst hdd
      have j2 : (k : Int) < dn := by omega
      have j3 : (0 : Int) ≤ (k : Int) := by omega
      have d0 := (HD.out.keep0 RS.out.g).cells dd rfl k hlt
      obtain ⟨n9, hn9, hN⟩ := DX.out _ (getD_mem' D 0 k hl)
      have N1 := Lib.hid (show n9 < hn by have := LH.out; omega)
      have SN := Lib.hid (emL_snoc H (allV H L).V L.F [] D k hl)
      have TN := Lib.hid (tkR_snoc L (newE H []) D k hl)
      have TV := Lib.hid (tkR_V L (newE H []) (D.take k) (fun x hx => by obtain ⟨q, h1, _⟩ := DX.out x (List.mem_of_mem_take hx); exact ⟨q, h1⟩) n9 (by simp [newE]; exact hN))
      have LB := Lib.hid (show (emL H (allV H L).V L.F [] (D.take k)).length ≤ 10000 by
        have q1 := emL_le H (allV H L).V L.F (D.take k) []
        have q2 := DL.out
        rw [List.length_take] at q1
        simp only [List.length_nil] at q1
        omega)
      have FR := Lib.hid (show D.getD k 0 ∉ D.take k → ∀ j, j < k + 1 → D.getD j 0 ∉ D.take j from fun q j hj => by
        rcases (show j < k ∨ j = k by omega) with h | rfl
        · exact NW.out j h
        · exact q)
      rw [hn9] at d0 SN TN FR
      clear hn9
      have N3 := Lib.hid (show n9 < fn by have := SHP.out.2.1; have q := HE.out.f.len; dsimp only at q; have := LH.out; have := N1.out; omega)
      have n0 : (0 : Int) ≤ (n9 : Int) := by omega
      have E1 := Lib.hid (show emF H (allV H L).V L.F (emL H (allV H L).V L.F [] (D.take k)) (n9 : Int) = (wrH (H.getD n9 hz).1 (H.getD n9 hz).2 (L.F.getD n9 []) (emL H (allV H L).V L.F [] (D.take k))).2 from if_pos (allV_at H L n9 hN))
      obtain ⟨fd, hfd⟩ := HE.out.f.some (by dsimp only; have := N3.out; omega)
      dsimp only at hfd
      subst hfd
      obtain ⟨hd, hhd⟩ := HH.out.some (by have := N1.out; omega)
      subst hhd
      obtain ⟨xa, xn, xc, d1, d2, ok⟩ := sh_hd HH.out (tlz_hz TZ.out).nm (tlz_hz TZ.out).fl rfl N1.out
      obtain ⟨za, zn, zc, y0, su⟩ := HE.out.f.cells fd rfl n9 N3.out
      obtain ⟨⟨er, B9⟩, hq⟩ : ∃ p, p = wrH (H.getD n9 hz).1 (H.getD n9 hz).2 (L.F.getD n9 []) (emL H (allV H L).V L.F [] (D.take k)) := ⟨_, rfl⟩
      have D1 := Lib.hid (RS.out.g.cell d1 (by simp))
      have D2 := Lib.hid (RS.out.g.cell d2 (by simp))
      have Y0 := Lib.hid (RS.out.g.cell y0 (by simp))
      have SU1 := Lib.hid su
      have YC := Lib.hid y0
      have LN := Lib.hid (show zn ≤ 100000 by rw [← su.len, SHP.out.2.2.2 n9 hN]; have := TZ.out.f n9; omega)
      have KW := Lib.hid (fun (W : World) (q : wr.grownBy W none) => rwriteH_any W _ xa xn xc _ (ok.keep0 (gb_trans RS.out.g q)) b9 aw cw (emL H (allV H L).V L.F [] (D.take k)) (Nat.le_trans RS.out.hi q.size) (own_keep0 RS.out.o q) za zn zc (L.F.getD n9 []) (su.keep0 (gb_trans RS.out.g q)).slr' su.rng LB.out er B9 hq.symm)
      have Z := Lib.hid (show emL H (allV H L).V L.F [] (D.take (k + 1)) = B9 by rw [SN.out, E1.out, ← hq])
      clear hq d1 d2 y0 su ok SN E1
      generalize (H.getD n9 hz).1 = s0 at *
      generalize (H.getD n9 hz).2 = l0 at *
      have n2 : (n9 : Int) < fn := by have := N3.out; omega
      have n3 : (n9 : Int) < hn := by have := N1.out; omega
      go_upto_region 11 with fail
      go_cut [15, 16] from 65 to 78 (fun s15 s16 wx => ∃ (y : Nat) (vb : Value), s15 = .pointer (some ⟨y, 0, none⟩) ∧ s16 = .int .i64 er ∧ IsB wx y 61 #[vb] ∧ BRow wx b9 vb B9 ∧ wr.grownBy wx none ∧ wr.heap.size ≤ y)
      case first =>
        have KT := Lib.hid (fun (w' : World) (q0 : wr.grownBy w' none) => (⟨(RS.out.keep0 q0).e.cell 0, (RS.out.keep0 q0).e.cell 1, (RS.out.keep0 q0).e.cell 2, (RS.out.keep0 q0).e.cell 3, (RS.out.keep0 q0).x.cell 0, q0⟩ : (fun w' : World => w'.cell? ⟨bx, 0, none⟩ = some (.slice va vn vc) ∧ w'.cell? ⟨bx, 1, none⟩ = some (.slice (some fd) fn fc) ∧ w'.cell? ⟨bx, 2, none⟩ = some (.slice ta tn tc) ∧ w'.cell? ⟨bx, 3, none⟩ = some (.slice pa pn pc) ∧ w'.cell? ⟨b8, 0, none⟩ = some (.slice aw (emL H (allV H L).V L.F [] (D.take k)).length cw) ∧ wr.grownBy w' none) w'))
        have T0 := Lib.hid (gb_drew wr none)
        refine wp_region_held_drew (S := (fun w' : World => w'.cell? ⟨bx, 0, none⟩ = some (.slice va vn vc) ∧ w'.cell? ⟨bx, 1, none⟩ = some (.slice (some fd) fn fc) ∧ w'.cell? ⟨bx, 2, none⟩ = some (.slice ta tn tc) ∧ w'.cell? ⟨bx, 3, none⟩ = some (.slice pa pn pc) ∧ w'.cell? ⟨b8, 0, none⟩ = some (.slice aw (emL H (allV H L).V L.F [] (D.take k)).length cw) ∧ wr.grownBy w' none)) (by kernel_rfl) (KT.out _ T0.out) (fun hH0 => ?_)
        refine wpAnyH_take (i := 0) (v := ?v1) rfl (by kernel_rfl) (by kernel_rfl) (by kernel_rfl) (fun _ _ _ h => h) (Or.inl ⟨by rfl, ?hy1⟩) (by assumption) ?rest1
        case hy1 => (intro wz hSw; (try dsimp only at hSw); first | (go_simp; done) | (go_simp; with_reducible rfl))
        try simp only [Act.put, List.getElem_toArray, List.getElem_cons_zero, List.setIfInBounds_toArray, List.set_cons_zero, List.set_cons_succ]
        refine wpAnyH_take (i := 1) (v := ?v2) rfl (by kernel_rfl) (by kernel_rfl) (by kernel_rfl) (fun _ _ _ h => h) (Or.inl ⟨by rfl, ?hy2⟩) (by assumption) ?rest2
        case hy2 => (intro wz hSw; (try dsimp only at hSw); first | (go_simp; done) | (go_simp; with_reducible rfl))
        try simp only [Act.put, List.getElem_toArray, List.getElem_cons_succ, List.getElem_cons_zero, List.setIfInBounds_toArray, List.set_cons_zero, List.set_cons_succ]
        refine wpAnyH_take (i := 2) (v := ?v3) rfl (by kernel_rfl) (by kernel_rfl) (by kernel_rfl) (fun _ _ _ h => h) (Or.inl ⟨by rfl, ?hy3⟩) (by assumption) ?rest3
        case hy3 => (intro wz hSw; (try dsimp only at hSw); first | (go_simp; done) | (go_simp; with_reducible rfl))
        try simp only [Act.put, List.getElem_toArray, List.getElem_cons_succ, List.getElem_cons_zero, List.setIfInBounds_toArray, List.set_cons_zero, List.set_cons_succ]
        refine wpAnyH_take (i := 3) (v := ?v4) rfl (by kernel_rfl) (by kernel_rfl) (by kernel_rfl) (fun _ _ _ h => h) (Or.inl ⟨by rfl, ?hy4⟩) (by assumption) ?rest4
        case hy4 => (intro wz hSw; (try dsimp only at hSw); have gz : wr.grownBy wz none := hSw.2.2.2.2.2; have h1 := gz.cell D1.out (by simp); have h2 := gz.cell D2.out (by simp); first | (go_simp; done) | (go_simp; with_reducible rfl))
        try simp only [Act.put, List.getElem_toArray, List.getElem_cons_succ, List.getElem_cons_zero, List.setIfInBounds_toArray, List.set_cons_zero, List.set_cons_succ]
        refine wpAnyH_take (i := 4) (v := ?v5) rfl (by kernel_rfl) (by kernel_rfl) (by kernel_rfl) (fun _ _ _ h => h) (Or.inl ⟨by rfl, ?hy5⟩) (by assumption) ?rest5
        case hy5 => (intro wz hSw; (try dsimp only at hSw); first | (go_simp; done) | (go_simp; with_reducible rfl))
        try simp only [Act.put, List.getElem_toArray, List.getElem_cons_succ, List.getElem_cons_zero, List.setIfInBounds_toArray, List.set_cons_zero, List.set_cons_succ]
        refine wpAnyH_take (i := 5) (v := ?v6) rfl (by kernel_rfl) (by kernel_rfl) (by kernel_rfl) (fun _ _ _ h => h) (Or.inl ⟨by rfl, ?hy6⟩) (by assumption) ?rest6
        case hy6 => (intro wz hSw; (try dsimp only at hSw); first | (go_simp; done) | (go_simp; with_reducible rfl))
        try simp only [Act.put, List.getElem_toArray, List.getElem_cons_succ, List.getElem_cons_zero, List.setIfInBounds_toArray, List.set_cons_zero, List.set_cons_succ]
        refine wpAnyH_take (i := 6) (v := ?v7) rfl (by kernel_rfl) (by kernel_rfl) (by kernel_rfl) (fun _ _ _ h => h) (Or.inl ⟨by rfl, ?hy7⟩) (by assumption) ?rest7
        case hy7 => (intro wz hSw; (try dsimp only at hSw); first | (go_simp; done) | (go_simp; with_reducible rfl))
        try simp only [Act.put, List.getElem_toArray, List.getElem_cons_succ, List.getElem_cons_zero, List.setIfInBounds_toArray, List.set_cons_zero, List.set_cons_succ]
        refine wpAnyH_take (i := 7) (v := ?v8) rfl (by kernel_rfl) (by kernel_rfl) (by kernel_rfl) (fun _ _ _ h => h) (Or.inl ⟨by rfl, ?hy8⟩) (by assumption) ?rest8
        case hy8 => (intro wz hSw; (try dsimp only at hSw); first | (go_simp; done) | (go_simp; with_reducible rfl))
        try simp only [Act.put, List.getElem_toArray, List.getElem_cons_succ, List.getElem_cons_zero, List.setIfInBounds_toArray, List.set_cons_zero, List.set_cons_succ]
        refine wpAnyH_take (i := 8) (v := ?v9) rfl (by kernel_rfl) (by kernel_rfl) (by kernel_rfl) (fun _ _ _ h => h) (Or.inl ⟨by rfl, ?hy9⟩) (by assumption) ?rest9
        case hy9 => (intro wz hSw; (try dsimp only at hSw); have gz : wr.grownBy wz none := hSw.2.2.2.2.2; have y1 := gz.cell Y0.out (by simp); first | (go_simp; done) | (go_simp; with_reducible rfl))
        try simp only [Act.put, List.getElem_toArray, List.getElem_cons_succ, List.getElem_cons_zero, List.setIfInBounds_toArray, List.set_cons_zero, List.set_cons_succ]
        refine wpAnyH_take (i := 9) (v := ?v10) rfl (by kernel_rfl) (by kernel_rfl) (by kernel_rfl) (fun _ _ _ h => h) (Or.inl ⟨by rfl, ?hy10⟩) (by assumption) ?rest10
        case hy10 => (intro wz hSw; (try dsimp only at hSw); first | (go_simp; done) | (go_simp; with_reducible rfl))
        try simp only [Act.put, List.getElem_toArray, List.getElem_cons_succ, List.getElem_cons_zero, List.setIfInBounds_toArray, List.set_cons_zero, List.set_cons_succ]
        refine wpAnyH_ready (rs := [10, 14]) (by kernel_rfl) (by simp) ?_
        refine AllReadyH.cons (o := _) rfl (fun K hK => ?_) (AllReadyH.cons (o := _) rfl (fun K hK => ?_) AllReadyH.nil)
        · go_simp
          (with_reducible refine (KW.out _ T0.out).mono ?_)
          rintro e hw1 ⟨vb, rfl, g, o⟩
          have T1 := Lib.hid (gb_trans T0.out g)
          have O1 := Lib.hid o
          clear g o
          try dsimp only
          refine hK.out _ _ (KT.out _ T1.out) (fun hH1 => ?_)
          clear hK K hH0
          try simp only [Act.put, List.getElem_toArray, List.getElem_cons_succ, List.getElem_cons_zero, List.setIfInBounds_toArray, List.set_cons_zero, List.set_cons_succ]
          refine wpAnyH_take (i := 11) (v := ?v11) rfl (by kernel_rfl) (by kernel_rfl) (by kernel_rfl) (fun _ _ _ h => h) (Or.inl ⟨by rfl, ?hy11⟩) (by assumption) ?rest11
          case hy11 => (intro wz hSw; (try dsimp only at hSw); first | (go_simp; done) | (go_simp; with_reducible rfl))
          try simp only [Act.put, List.getElem_toArray, List.getElem_cons_succ, List.getElem_cons_zero, List.setIfInBounds_toArray, List.set_cons_zero, List.set_cons_succ]
          refine wpAnyH_take (i := 12) (v := ?v12) rfl (by kernel_rfl) (by kernel_rfl) (by kernel_rfl) (fun _ _ _ h => h) (Or.inl ⟨by rfl, ?hy12⟩) (by assumption) ?rest12
          case hy12 => (intro wz hSw; (try dsimp only at hSw); first | (go_simp; done) | (go_simp; with_reducible rfl))
          try simp only [Act.put, List.getElem_toArray, List.getElem_cons_succ, List.getElem_cons_zero, List.setIfInBounds_toArray, List.set_cons_zero, List.set_cons_succ]
          refine wpAnyH_take (i := 13) (v := ?v13) rfl (by kernel_rfl) (by kernel_rfl) (by kernel_rfl) (fun _ _ _ h => h) (Or.inl ⟨by rfl, ?hy13⟩) (by assumption) ?rest13
          case hy13 => (intro wz hSw; (try dsimp only at hSw); first | (go_simp; done) | (go_simp; with_reducible rfl))
          try simp only [Act.put, List.getElem_toArray, List.getElem_cons_succ, List.getElem_cons_zero, List.setIfInBounds_toArray, List.set_cons_zero, List.set_cons_succ]
          refine wpAnyH_ready (rs := [14]) (by kernel_rfl) (by simp) ?_
          refine AllReadyH.cons (o := _) rfl (fun K hK => ?_) AllReadyH.nil
          go_simp
          try dsimp only
          refine hK.out _ _ (KT.out _ (gb_trans T1.out (gb_alloc _ _ none))) (fun hH2 => ?_)
          clear hK K hH1
          try simp only [Act.put, List.getElem_toArray, List.getElem_cons_succ, List.getElem_cons_zero, List.setIfInBounds_toArray, List.set_cons_zero, List.set_cons_succ]
          have I := Lib.hid (IsB.new hw1 61 #[.slice none 0 0])
          have T2 := Lib.hid (gb_trans T1.out (gb_alloc hw1 (.cells #[.slice none 0 0] 61) none))
          have O2 := Lib.hid (own_keep0 O1.out (gb_alloc hw1 (.cells #[.slice none 0 0] 61) none))
          have le := T1.out.size
          obtain ⟨oa, oc, rfl⟩ := own_shape O1.out
          have i0 := I.out.cell 0
          have f0 := I.out.free 0
          dsimp at i0
          refine wpAnyH_ready (rs := [15]) (by kernel_rfl) (by simp) ?_
          refine AllReadyH.cons (o := _) rfl (fun K hK => ?_) AllReadyH.nil
          go_simp
          try dsimp only
          refine hK.out _ _ (KT.out _ (gb_trans T1.out (gb_alloc _ _ none))) (fun hH3 => ?_)
          clear hK K hH2
          try simp only [Act.put, List.getElem_toArray, List.getElem_cons_succ, List.getElem_cons_zero, List.setIfInBounds_toArray, List.set_cons_zero, List.set_cons_succ]
          refine wpAnyH_take (i := 16) (v := ?v14) rfl (by kernel_rfl) (by kernel_rfl) (by kernel_rfl) (fun _ _ _ h => h) (Or.inl ⟨by rfl, ?hy14⟩) (by assumption) ?rest14
          case hy14 => (intro wz hSw; (try dsimp only at hSw); first | (go_simp; done) | (go_simp; with_reducible rfl))
          try simp only [Act.put, List.getElem_toArray, List.getElem_cons_succ, List.getElem_cons_zero, List.setIfInBounds_toArray, List.set_cons_zero, List.set_cons_succ]
          refine wpAnyH_done (by kernel_rfl) ?_ _
          clear hH3
          go_wp2_with fail
          go_meet
          exact ⟨_, _, rfl, rfl, IsB.new _ _ _, own_keep0 O1.out (gb_alloc _ _ none), gb_trans T1.out (gb_alloc _ _ none), le⟩
        · go_simp
          try dsimp only
          refine hK.out _ _ (KT.out _ (gb_trans (gb_alloc wr (.cells #[.slice none 0 0] 61) none) (gb_drew _ none))) (fun hH1 => ?_)
          clear hK K hH0
          try simp only [Act.put, List.getElem_toArray, List.getElem_cons_succ, List.getElem_cons_zero, List.setIfInBounds_toArray, List.set_cons_zero, List.set_cons_succ]
          have I0 := Lib.hid ((IsB.new wr 61 #[.slice none 0 0]).keep0 (gb_drew _ none))
          have T1 := Lib.hid (gb_trans (gb_alloc wr (.cells #[.slice none 0 0] 61) none) (gb_drew _ none))
          have le := T0.out.size
          refine wpAnyH_ready (rs := [10]) (by kernel_rfl) (by simp) ?_
          refine AllReadyH.cons (o := _) rfl (fun K hK => ?_) AllReadyH.nil
          go_simp
          (with_reducible refine (KW.out _ T1.out).mono ?_)
          rintro e hw2 ⟨vb, rfl, g, o⟩
          have T2 := Lib.hid (gb_trans T1.out g)
          have I := Lib.hid (I0.out.keep0 g)
          have O2 := Lib.hid o
          clear g o
          try dsimp only
          refine hK.out _ _ (KT.out _ T2.out) (fun hH2 => ?_)
          clear hK K hH1
          try simp only [Act.put, List.getElem_toArray, List.getElem_cons_succ, List.getElem_cons_zero, List.setIfInBounds_toArray, List.set_cons_zero, List.set_cons_succ]
          refine wpAnyH_take (i := 11) (v := ?v15) rfl (by kernel_rfl) (by kernel_rfl) (by kernel_rfl) (fun _ _ _ h => h) (Or.inl ⟨by rfl, ?hy15⟩) (by assumption) ?rest15
          case hy15 => (intro wz hSw; (try dsimp only at hSw); first | (go_simp; done) | (go_simp; with_reducible rfl))
          try simp only [Act.put, List.getElem_toArray, List.getElem_cons_succ, List.getElem_cons_zero, List.setIfInBounds_toArray, List.set_cons_zero, List.set_cons_succ]
          refine wpAnyH_take (i := 12) (v := ?v16) rfl (by kernel_rfl) (by kernel_rfl) (by kernel_rfl) (fun _ _ _ h => h) (Or.inl ⟨by rfl, ?hy16⟩) (by assumption) ?rest16
          case hy16 => (intro wz hSw; (try dsimp only at hSw); first | (go_simp; done) | (go_simp; with_reducible rfl))
          try simp only [Act.put, List.getElem_toArray, List.getElem_cons_succ, List.getElem_cons_zero, List.setIfInBounds_toArray, List.set_cons_zero, List.set_cons_succ]
          refine wpAnyH_take (i := 13) (v := ?v17) rfl (by kernel_rfl) (by kernel_rfl) (by kernel_rfl) (fun _ _ _ h => h) (Or.inl ⟨by rfl, ?hy17⟩) (by assumption) ?rest17
          case hy17 => (intro wz hSw; (try dsimp only at hSw); first | (go_simp; done) | (go_simp; with_reducible rfl))
          try simp only [Act.put, List.getElem_toArray, List.getElem_cons_succ, List.getElem_cons_zero, List.setIfInBounds_toArray, List.set_cons_zero, List.set_cons_succ]
          obtain ⟨oa, oc, rfl⟩ := own_shape O2.out
          have i0 := I.out.cell 0
          have f0 := I.out.free 0
          dsimp at i0
          refine wpAnyH_ready (rs := [15]) (by kernel_rfl) (by simp) ?_
          refine AllReadyH.cons (o := _) rfl (fun K hK => ?_) AllReadyH.nil
          go_simp
          try dsimp only
          refine hK.out _ _ (KT.out _ (gb_put T2.out le)) (fun hH3 => ?_)
          clear hK K hH2
          try simp only [Act.put, List.getElem_toArray, List.getElem_cons_succ, List.getElem_cons_zero, List.setIfInBounds_toArray, List.set_cons_zero, List.set_cons_succ]
          refine wpAnyH_take (i := 16) (v := ?v18) rfl (by kernel_rfl) (by kernel_rfl) (by kernel_rfl) (fun _ _ _ h => h) (Or.inl ⟨by rfl, ?hy18⟩) (by assumption) ?rest18
          case hy18 => (intro wz hSw; (try dsimp only at hSw); first | (go_simp; done) | (go_simp; with_reducible rfl))
          try simp only [Act.put, List.getElem_toArray, List.getElem_cons_succ, List.getElem_cons_zero, List.setIfInBounds_toArray, List.set_cons_zero, List.set_cons_succ]
          refine wpAnyH_done (by kernel_rfl) ?_ _
          clear hH3
          go_wp2_with fail
          go_meet
          exact ⟨_, _, rfl, rfl, I.out.set 0 _, own_keepS O2.out (gb_set _ _ _ _) I.out (by decide), gb_put T2.out le, le⟩
      case rest =>
        obtain ⟨y, vb, rfl, rfl, iy, oy, gy, ly⟩ := hcut
        have OY := Lib.hid oy
        have RX := Lib.hid (RS.out.keep0 gy)
        have IY := Lib.hid iy
        clear iy gy d0
        obtain ⟨oa, oc, rfl⟩ := own_shape oy
        clear oy KW
        have W9 := Lib.hid (gb_trans G1.out RX.out.g)
        by_cases her : er = 0
        case neg =>
          have q0 : (er != 0) = true := by simp [her]
          go_wp2_with fail
          refine (works18_any _).mono ?_
          rintro e9 wz ⟨rfl, g⟩
          have GZ := Lib.hid (gb_trans W9.out g)
          clear g
          go_wp2
          go_ret
          exact ⟨rfl, GZ.out⟩
        have q0 : (er != 0) = false := by simp [her]
        clear her
        have AN := Lib.hid (show n9 < an by have q := RX.out.a.vl; dsimp only at q; rw [← q, (tkR_len L (newE H []) (D.take k)).1]; simp [newE]; exact hN)
        have BN := Lib.hid (show n9 < bn by have q := RX.out.a.fl; dsimp only at q; rw [← q, (tkR_len L (newE H []) (D.take k)).2.1]; simp [newE]; exact hN)
        obtain ⟨gv, gvc, hva⟩ := own_head (show wc.ownsRow w1.heap.size 4 1 (.slice ya an ac) an ((tkR L (newE H []) (D.take k)).V.map Value.bool) by have z := RX.out.a.v; have y := RX.out.a.vl; unfold NB at z; dsimp only at y z; rw [y] at z; exact z) (by have := AN.out; omega)
        obtain ⟨gf, gfc, hfa⟩ := own_head (show wc.ownsRow w1.heap.size 40 1 (.slice yf bn bc) bn Vs by have z := RX.out.a.f.out; have y := RX.out.a.fl; dsimp only at y z; rw [y] at z; exact z) (by have := BN.out; omega)
        injection hva with hva _ hvc
        injection hfa with hfa _ hfc
        subst hva hfa hvc hfc
        have n4 : (n9 : Int) < an := by have := AN.out; omega
        have n5 : (n9 : Int) < bn := by have := BN.out; omega
        have v2 : wc.ownsRow w1.heap.size 4 1 (.slice (some ⟨gv, 0, none⟩) (tkR L (newE H []) (D.take k)).V.length ac) (tkR L (newE H []) (D.take k)).V.length ((tkR L (newE H []) (D.take k)).V.map Value.bool) := by have z := RX.out.a.v; unfold NB at z; have y := RX.out.a.vl; dsimp only at y z; rw [← y] at z; exact z
        have VL := Lib.hid (show (tkR L (newE H []) (D.take k)).V.length = an from RX.out.a.vl)
        have a0 := own_cellB v2 n9 (by rw [VL.out]; exact AN.out)
        have z0 := RX.out.f.cell 0
        dsimp at z0
        clear v2
        generalize hbv : (tkR L (newE H []) (D.take k)).V.getD n9 false = bv at *
        cases bv
        case true =>
          go_wp2_with fail
          refine (works18_any _).mono ?_
          rintro e9 wz ⟨rfl, g⟩
          have GZ := Lib.hid (gb_trans W9.out g)
          clear g
          go_wp2
          go_ret
          exact ⟨rfl, GZ.out⟩
        have NI := Lib.hid (show (n9 : Int) ∉ D.take k from fun q => absurd (TV.out.2 (.inr q)) (by decide))
        have FN := Lib.hid (FR.out NI.out)
        clear TV FR
        try clear hbv
        have y0 := IY.out.cell 0
        have b0 := RX.out.x.cell 0
        have bf := RX.out.x.free 0
        dsimp at y0 b0
        have g8 := gb_set wc b8 0 (.slice oa B9.length oc)
        have RY := Lib.hid (show RdS w1 #[.slice va vn vc, .slice (some fd) fn fc, .slice ta tn tc, .slice pa pn pc] #[.string ⟨#[]⟩, .slice (some hd) hn hc, .slice none 0 0, .slice none 0 0, .slice none 0 0, .slice none 0 0, .slice (some ⟨bx + 1, 0, none⟩) 1 1, .slice none 0 0, .slice none 0 0] bx b8 b12 b9 oa oc B9 ⟨some ⟨gv, 0, none⟩, some ⟨gf, 0, none⟩, yt, yp, an, ac, bn, bc, tn2, tc2, pn2, pc2⟩ (tkR L (newE H []) (D.take k)) Vs (wc.setCell ⟨b8, 0, none⟩ (.slice oa B9.length oc)) from
          ⟨RX.out.e.keep g8 (by intro e; injection e with e; exact (RX.out.e.ne RX.out.x (by decide)) e), RX.out.p.keep g8 (by intro e; injection e with e; exact (RX.out.p.ne RX.out.x (by decide)) e), RX.out.x.set 0 _, RX.out.f.keep g8 (by intro e; injection e with e; exact (RX.out.f.ne RX.out.x (by decide)) e), own_keepS OY.out g8 RX.out.x (by decide), RX.out.a.kB g8 RX.out.x (by decide) (by decide) (by decide) (by decide), gb_put RX.out.g L8.out, by rw [sz_set]; exact RX.out.hi⟩)
        clear g8
        go_upto_region 15 with fail
        generalize wc.setCell ⟨b8, 0, none⟩ (.slice oa B9.length oc) = w9 at *
        clear RX OY IY a0 z0 y0 b0 bf W9 ly q0
        have v9 : w9.ownsRow w1.heap.size 4 1 (.slice (some ⟨gv, 0, none⟩) (tkR L (newE H []) (D.take k)).V.length ac) (tkR L (newE H []) (D.take k)).V.length ((tkR L (newE H []) (D.take k)).V.map Value.bool) := by have z := RY.out.a.v; unfold NB at z; have y := RY.out.a.vl; dsimp only at y z; rw [← y] at z; exact z
        have a0 := own_cellB v9 n9 (by rw [VL.out]; exact AN.out)
        obtain ⟨cv, bv9⟩ := own_blk v9
        have a1 := bv9.free n9
        have z0 := RY.out.f.cell 0
        dsimp at z0
        have g9 := gb_set w9 gv n9 (.bool true)
        have RZ := Lib.hid (show RdS w1 #[.slice va vn vc, .slice (some fd) fn fc, .slice ta tn tc, .slice pa pn pc] #[.string ⟨#[]⟩, .slice (some hd) hn hc, .slice none 0 0, .slice none 0 0, .slice none 0 0, .slice none 0 0, .slice (some ⟨bx + 1, 0, none⟩) 1 1, .slice none 0 0, .slice none 0 0] bx b8 b12 b9 oa oc B9 ⟨some ⟨gv, 0, none⟩, some ⟨gf, 0, none⟩, yt, yp, an, ac, bn, bc, tn2, tc2, pn2, pc2⟩ ⟨(tkR L (newE H []) (D.take k)).V.set n9 true, (tkR L (newE H []) (D.take k)).F, (tkR L (newE H []) (D.take k)).T, (tkR L (newE H []) (D.take k)).P⟩ Vs (w9.setCell ⟨gv, n9, none⟩ (.bool true)) from
          ⟨RY.out.e.keepS g9 bv9 (by decide), RY.out.p.keepS g9 bv9 (by decide), RY.out.x.keepS g9 bv9 (by decide), RY.out.f.keepS g9 bv9 (by decide), RY.out.o.kept g9 (.inr fun q => by
            have h1 := (World.ownsRow.lt RY.out.o gv q).1
            have h2 := OV.out gv rfl
            omega), RY.out.a.setV rfl n9, gb_put RY.out.g (World.ownsRow.lt v9 gv rfl).1, by rw [sz_set]; exact RY.out.hi⟩)
        clear g9 v9 bv9
        go_wp2
        go_upto_region 16 with fail
        generalize w9.setCell ⟨gv, n9, none⟩ (.bool true) = w10 at *
        clear RY a0 a1 z0
        have KT := Lib.hid (fun (w' : World) (q0 : w10.grownBy w' none) => (⟨(RZ.out.keep0 q0).f.cell 1, (RZ.out.keep0 q0).e.cell 1, (gb_trans RZ.out.g q0).cell YC.out (by simp)⟩ : (fun w' : World => w'.cell? ⟨b12, 1, none⟩ = some (.slice (some ⟨gf, 0, none⟩) bn bc) ∧ w'.cell? ⟨bx, 1, none⟩ = some (.slice (some fd) fn fc) ∧ w'.cell? (fd.add n9) = some (.slice za zn zc)) w'))
        have T0 := Lib.hid (gb_drew w10 none)
        refine wp_region_held_drew (S := (fun w' : World => w'.cell? ⟨b12, 1, none⟩ = some (.slice (some ⟨gf, 0, none⟩) bn bc) ∧ w'.cell? ⟨bx, 1, none⟩ = some (.slice (some fd) fn fc) ∧ w'.cell? (fd.add n9) = some (.slice za zn zc))) (by kernel_rfl) (KT.out _ T0.out) (fun hH0 => ?_)
        refine wpAnyH_take (i := 0) (v := ?v19) rfl (by kernel_rfl) (by kernel_rfl) (by kernel_rfl) (fun _ _ _ h => h) (Or.inl ⟨by rfl, ?hy19⟩) (by assumption) ?rest19
        case hy19 => (intro wz hSw; (try dsimp only at hSw); first | (go_simp; done) | (go_simp; with_reducible rfl))
        try simp only [Act.put, List.getElem_toArray, List.getElem_cons_zero, List.setIfInBounds_toArray, List.set_cons_zero, List.set_cons_succ]
        refine wpAnyH_take (i := 1) (v := ?v20) rfl (by kernel_rfl) (by kernel_rfl) (by kernel_rfl) (fun _ _ _ h => h) (Or.inl ⟨by rfl, ?hy20⟩) (by assumption) ?rest20
        case hy20 => (intro wz hSw; (try dsimp only at hSw); first | (go_simp; done) | (go_simp; with_reducible rfl))
        try simp only [Act.put, List.getElem_toArray, List.getElem_cons_succ, List.getElem_cons_zero, List.setIfInBounds_toArray, List.set_cons_zero, List.set_cons_succ]
        refine wpAnyH_take (i := 2) (v := ?v21) rfl (by kernel_rfl) (by kernel_rfl) (by kernel_rfl) (fun _ _ _ h => h) (Or.inl ⟨by rfl, ?hy21⟩) (by assumption) ?rest21
        case hy21 => (intro wz hSw; (try dsimp only at hSw); first | (go_simp; done) | (go_simp; with_reducible rfl))
        try simp only [Act.put, List.getElem_toArray, List.getElem_cons_succ, List.getElem_cons_zero, List.setIfInBounds_toArray, List.set_cons_zero, List.set_cons_succ]
        refine wpAnyH_take (i := 4) (v := ?v22) rfl (by kernel_rfl) (by kernel_rfl) (by kernel_rfl) (fun _ _ _ h => h) (Or.inl ⟨by rfl, ?hy22⟩) (by assumption) ?rest22
        case hy22 => (intro wz hSw; (try dsimp only at hSw); first | (go_simp; done) | (go_simp; with_reducible rfl))
        try simp only [Act.put, List.getElem_toArray, List.getElem_cons_succ, List.getElem_cons_zero, List.setIfInBounds_toArray, List.set_cons_zero, List.set_cons_succ]
        refine wpAnyH_take (i := 5) (v := ?v23) rfl (by kernel_rfl) (by kernel_rfl) (by kernel_rfl) (fun _ _ _ h => h) (Or.inl ⟨by rfl, ?hy23⟩) (by assumption) ?rest23
        case hy23 => (intro wz hSw; (try dsimp only at hSw); first | (go_simp; done) | (go_simp; with_reducible rfl))
        try simp only [Act.put, List.getElem_toArray, List.getElem_cons_succ, List.getElem_cons_zero, List.setIfInBounds_toArray, List.set_cons_zero, List.set_cons_succ]
        refine wpAnyH_take (i := 6) (v := ?v24) rfl (by kernel_rfl) (by kernel_rfl) (by kernel_rfl) (fun _ _ _ h => h) (Or.inl ⟨by rfl, ?hy24⟩) (by assumption) ?rest24
        case hy24 => (intro wz hSw; (try dsimp only at hSw); first | (go_simp; done) | (go_simp; with_reducible rfl))
        try simp only [Act.put, List.getElem_toArray, List.getElem_cons_succ, List.getElem_cons_zero, List.setIfInBounds_toArray, List.set_cons_zero, List.set_cons_succ]
        refine wpAnyH_take (i := 7) (v := ?v25) rfl (by kernel_rfl) (by kernel_rfl) (by kernel_rfl) (fun _ _ _ h => h) (Or.inl ⟨by rfl, ?hy25⟩) (by assumption) ?rest25
        case hy25 => (intro wz hSw; (try dsimp only at hSw); first | (go_simp; done) | (go_simp; with_reducible rfl))
        try simp only [Act.put, List.getElem_toArray, List.getElem_cons_succ, List.getElem_cons_zero, List.setIfInBounds_toArray, List.set_cons_zero, List.set_cons_succ]
        refine wpAnyH_take (i := 8) (v := ?v26) rfl (by kernel_rfl) (by kernel_rfl) (by kernel_rfl) (fun _ _ _ h => h) (Or.inl ⟨by rfl, ?hy26⟩) (by assumption) ?rest26
        case hy26 => (intro wz hSw; (try dsimp only at hSw); first | (go_simp; done) | (go_simp; with_reducible rfl))
        try simp only [Act.put, List.getElem_toArray, List.getElem_cons_succ, List.getElem_cons_zero, List.setIfInBounds_toArray, List.set_cons_zero, List.set_cons_succ]
        refine wpAnyH_ready (rs := [3]) (by kernel_rfl) (by simp) ?_
        refine AllReadyH.cons (o := _) rfl (fun K hK => ?_) AllReadyH.nil
        go_simp
        have E0 := Lib.hid (own_keep0 (show NU (w10.alloc (.cells #[] 58)) w10.heap.size (.slice (some ⟨w10.heap.size, 0, none⟩) 0 0) [] from World.ownsRow_lit (base := w10.heap.size) (e := 58) (size := 1) w10 #[] 0 (Nat.le_refl _) (by unfold maxLen; omega) (by simp)) (gb_drew _ none))
        have T1 := Lib.hid (gb_trans (gb_alloc w10 (.cells #[] 58) none) (gb_drew _ none))
        refine hK.out _ _ (KT.out _ T1.out) (fun hH1 => ?_)
        clear hK K hH0 T0
        generalize (w10.alloc (.cells #[] 58)).drew = u1 at *
        try simp only [Act.put, List.getElem_toArray, List.getElem_cons_succ, List.getElem_cons_zero, List.setIfInBounds_toArray, List.set_cons_zero, List.set_cons_succ]
        refine wpAnyH_ready (rs := [9]) (by kernel_rfl) (by simp) ?_
        refine AllReadyH.cons (o := _) rfl (fun K hK => ?_) AllReadyH.nil
        refine ustep_any rfl _ _ rfl w10.heap.size _ rfl E0.out za zn zc (L.F.getD n9 []) rfl (SU1.out.keep0 (gb_trans RZ.out.g T1.out)) LN.out T1.out.size ?_
        intro V5 u2 o5 g5
        obtain ⟨a5, c5, h5⟩ := nu_shape o5
        subst h5
        have R5 := Lib.hid o5
        have T2 := Lib.hid (gb_lows T1.out g5 fun q e => (World.ownsRow.lt E0.out q e).1)
        refine hK.out _ _ (KT.out _ T2.out) (fun hH2 => ?_)
        clear hK K hH1 o5 g5 E0
        try simp only [Act.put, List.getElem_toArray, List.getElem_cons_succ, List.getElem_cons_zero, List.setIfInBounds_toArray, List.set_cons_zero, List.set_cons_succ]
        refine wpAnyH_take (i := 10) (v := ?v27) rfl (by kernel_rfl) (by kernel_rfl) (by kernel_rfl) (fun _ _ _ h => h) (Or.inl ⟨by rfl, ?hy27⟩) (by assumption) ?rest27
        case hy27 => (intro wz hSw; (try dsimp only at hSw); first | (go_simp; done) | (go_simp; with_reducible rfl))
        try simp only [Act.put, List.getElem_toArray, List.getElem_cons_succ, List.getElem_cons_zero, List.setIfInBounds_toArray, List.set_cons_zero, List.set_cons_succ]
        have RU := Lib.hid (RZ.out.keep0 T2.out)
        have fo : u2.ownsRow w1.heap.size 40 1 (.slice (some ⟨gf, 0, none⟩) bn bc) bn Vs := by have z := RU.out.a.f.out; have y := RU.out.a.fl; dsimp only at y z; rw [y] at z; exact z
        obtain ⟨cf, bf⟩ := own_blk fo
        have NV := Lib.hid (show n9 < Vs.length by rw [RU.out.a.f.nV, RU.out.a.fl]; exact BN.out)
        have b0 : u2.cell? ⟨gf, n9, none⟩ = some (Vs.getD n9 nilV) := by
          rw [fo.cellAt n9 (by rw [Nat.mul_one]; exact BN.out)]
          simp [NV.out]
        have b1 := bf.free n9
        have g11 := gb_set u2 gf n9 (.slice a5 (L.F.getD n9 []).length c5)
        have lf := (World.ownsRow.lt fo gf rfl).1
        have OF := Lib.hid (RZ.out.a.setF RU.out.a rfl n9 BN.out (.slice a5 (L.F.getD n9 []).length c5) (L.F.getD n9 []) (own_low R5.out (Nat.le_trans RZ.out.g.size (Nat.le_refl _))) (fun q hq => (World.ownsRow.lt R5.out q hq).1) SU1.out.rng)
        have RV := Lib.hid (show RdS w1 #[.slice va vn vc, .slice (some fd) fn fc, .slice ta tn tc, .slice pa pn pc] #[.string ⟨#[]⟩, .slice (some hd) hn hc, .slice none 0 0, .slice none 0 0, .slice none 0 0, .slice none 0 0, .slice (some ⟨bx + 1, 0, none⟩) 1 1, .slice none 0 0, .slice none 0 0] bx b8 b12 b9 oa oc (emL H (allV H L).V L.F [] (D.take (k + 1))) ⟨some ⟨gv, 0, none⟩, some ⟨gf, 0, none⟩, yt, yp, an, ac, bn, bc, tn2, tc2, pn2, pc2⟩ (tkR L (newE H []) (D.take (k + 1))) (Vs.set n9 (.slice a5 (L.F.getD n9 []).length c5)) (u2.setCell ⟨gf, n9, none⟩ (.slice a5 (L.F.getD n9 []).length c5)) by
          rw [Z.out, TN.out]
          exact ⟨RU.out.e.keepS g11 bf (by decide), RU.out.p.keepS g11 bf (by decide), RU.out.x.keepS g11 bf (by decide), RU.out.f.keepS g11 bf (by decide), own_keepS RU.out.o g11 bf (by decide), OF.out, gb_put RU.out.g lf, by rw [sz_set]; exact RU.out.hi⟩)
        have e1 := RV.out.f.cell 1
        have e2 := RV.out.e.cell 1
        have e3 := RV.out.g.cell YC.out (by simp)
        dsimp at e1 e2
        clear fo bf g11 lf OF
        refine wpAnyH_ready (rs := [11]) (by kernel_rfl) (by simp) ?_
        refine AllReadyH.cons (o := _) rfl (fun K hK => ?_) AllReadyH.nil
        go_simp
        refine hK.out _ _ ⟨e1, e2, e3⟩ (fun hH3 => ?_)
        clear hK K hH2 e1 e2 e3 b0 b1
        try simp only [Act.put, List.getElem_toArray, List.getElem_cons_succ, List.getElem_cons_zero, List.setIfInBounds_toArray, List.set_cons_zero, List.set_cons_succ]
        refine wpAnyH_done (by kernel_rfl) ?_ _
        clear hH3
        go_wp2
        go_roundw
        case rel => exact ⟨k + 1, by omega, by go_num, FN.out, oa, oc, _, RV.out⟩
        case measure => simp [intOf]; omega
    case neg =>
      have hke : k = dn := by omega
      have j2 : ¬ (k : Int) < dn := by omega
      have FULL := Lib.hid (show D.take k = D by rw [List.take_of_length_le (by rw [LD.out]; omega)])
      rw [FULL.out] at RS
      clear FULL
      have DCK := Lib.hid (show dcOk H.length D from dc_of (by have := DL.out; omega) (fun i hi => ⟨by
        obtain ⟨q, h1, h2⟩ := DX.out _ (getD_mem' D 0 i hi)
        rw [h1]; exact (isX_iff _ _).2 (by omega), NW.out i (by rw [LD.out] at hi; omega)⟩))
      clear NW hw2
      go_wp2
      rename World => wA
      go_loopw [17] (fun i wq => ∃ k2 : Nat, k2 ≤ hn ∧ i = .int .i64 k2 ∧ (∀ i, i < k2 → chkH (H.getD i hz).1 (H.getD i hz).2 = 0) ∧ wA.grownBy wq none) (fun i _ => hn - (intOf i).toNat)
      case atStart => exact ⟨0, Nat.zero_le _, rfl, fun i hi => absurd hi (Nat.not_lt_zero _), gb_refl _ _⟩
      case round =>
        obtain ⟨k2, hk2, rfl, ht, hg⟩ := hrel
        have HT := Lib.hid ht
        have HG := Lib.hid hg
        clear ht hg
        by_cases hlt2 : k2 < hn
        · obtain ⟨ad, had⟩ := HH.out.some (by omega)
          subst had
          have j1 : (k2 : Int) < hn := by omega
          have j0 : (0 : Int) ≤ (k2 : Int) := by omega
          have hw1 : IntKind.i64.wrap ((k2 : Int) + 1) = ((k2 + 1 : Nat) : Int) := by have := TZ.out.h; rw [IntKind.wrap_i64]; omega
          obtain ⟨xa, xn, xc, d0, d1, ok⟩ := sh_hd (HH.out.keep0 (gb_trans RS.out.g HG.out)) (tlz_hz TZ.out).nm (tlz_hz TZ.out).fl rfl hlt2
          have KC := Lib.hid (rcheck_any wr _ xa xn xc _ ok.sf ok.few ok.nm ok.hn)
          unfold RetG at KC
          clear ok
          have NX := Lib.hid (show chkH (H.getD k2 hz).1 (H.getD k2 hz).2 = 0 → ∀ i, i < k2 + 1 → chkH (H.getD i hz).1 (H.getD i hz).2 = 0 from fun q i hi => by
            rcases (show i < k2 ∨ i = k2 by omega) with r | rfl
            · exact HT.out i r
            · exact q)
          generalize (H.getD k2 hz).1 = s0 at *
          generalize (H.getD k2 hz).2 = l0 at *
          generalize chkH s0 l0 = r2 at *
          go_wp2_with fail
          refine KC.out.mono ?_
          rintro e9 w4 ⟨rfl, g⟩
          have G4 := Lib.hid (gb_trans HG.out g)
          have W9 := Lib.hid (gb_trans G1.out (gb_trans RS.out.g G4.out))
          clear g
          by_cases hr2 : r2 = 0
          · have q0 : (r2 != 0) = false := by simp [hr2]
            have Z := Lib.hid (NX.out hr2)
            clear hr2
            go_wp2
            go_roundw
            case rel => exact ⟨k2 + 1, by omega, by go_num, Z.out, G4.out⟩
            case measure => simp [intOf]; omega
          · have q0 : (r2 != 0) = true := by simp [hr2]
            go_wp2_with fail
            refine (works18_any _).mono ?_
            rintro e9 wz ⟨rfl, g⟩
            have GZ := Lib.hid (gb_trans W9.out g)
            clear g
            go_wp2
            go_ret
            exact ⟨rfl, GZ.out⟩
        · have hke2 : k2 = hn := by omega
          have j1 : ¬ (k2 : Int) < hn := by omega
          have HO := Lib.hid (show hdsOk H from fun x hx => by
            obtain ⟨i, hi, rfl⟩ := List.mem_iff_getElem.1 hx
            have q := HT.out i (by rw [hke2, ← LH.out]; exact hi)
            rw [List.getD_eq_getElem?_getD, List.getElem?_eq_getElem hi] at q
            exact q)
          have DVV := Lib.hid (allV_ok EOK.out HO.out DCK.out (sr_rngR HE.out.f))
          have RS2 := Lib.hid (RS.out.keep0 HG.out)
          have LB := Lib.hid (show (emL H (allV H L).V L.F [] D).length ≤ 60000 by
            have q1 := emL_le H (allV H L).V L.F D []
            have q2 := DL.out
            simp only [List.length_nil] at q1
            omega)
          have EMT := Lib.hid (show emit H [] D (allV H L) = (bytesR (emL H (allV H L).V L.F [] D)).2 ++ L.P from emit_yes DVV.out.d DVV.out.h DVV.out.e)
          have ERUN := Lib.hid (run_back DVV.out HE.out.p.rng [⟨⟨#[115]⟩, D, false, 0, 0, [], -1⟩] rfl rfl rfl)
          have HGS := Lib.hid (show w1.heap.size ≤ wr.heap.size from Nat.le_trans RS.out.g.size HG.out.size)
          clear RS HT HG
          generalize emL H (allV H L).V L.F [] D = BB at *
          have KB := Lib.hid (rbytes_any wr b9 aw cw BB RS2.out.o LB.out)
          have BL := Lib.hid (show (bytesR BB).2.length ≤ 60000 by
            have := LB.out
            unfold bytesR
            split
            · rw [packB_len]; omega
            · simp)
          have BRG := Lib.hid (show ∀ x ∈ (bytesR BB).2, 0 ≤ x ∧ x < 256 from bytesR_rng BB)
          generalize (bytesR BB).1 = er at *
          generalize (bytesR BB).2 = bs at *
          have b0 := RS2.out.x.cell 0
          dsimp at b0
          go_upto_region 23 with (go_at_call 29; refine KB.out.mono ?_; rintro e9 w6 ⟨vb, rfl, g, o⟩; have G6 := Lib.hid g; have O6 := Lib.hid o; clear g o)
          obtain ⟨oa, oc, rfl⟩ := own_shape O6.out
          have RS3 := Lib.hid (RS2.out.keep0 G6.out)
          have W9 := Lib.hid (gb_trans G1.out RS3.out.g)
          clear KB b0
          by_cases her : er = 0
          case neg =>
            have q0 : (er != 0) = true := by simp [her]
            go_wp2_with fail
            refine (works18_any _).mono ?_
            rintro e9 wz ⟨rfl, g⟩
            have GZ := Lib.hid (gb_trans W9.out g)
            clear g
            go_wp2
            go_ret
            exact ⟨rfl, GZ.out⟩
          have q0 : (er != 0) = false := by simp [her]
          clear her
          have x3 := RS3.out.e.cell 3
          dsimp at x3
          have hw5 : IntKind.i64.wrap ((bs.length : Int) + (pn : Int)) = ((bs.length + pn : Nat) : Int) := by have := BL.out; have := ZP.out; rw [IntKind.wrap_i64]; omega
          by_cases h5 : 512 < bs.length + pn
          case pos =>
            have j5 : (512 : Int) < ((bs.length + pn : Nat) : Int) := by omega
            go_wp2_with fail
            refine (works18_any _).mono ?_
            rintro e9 wz ⟨rfl, g⟩
            have GZ := Lib.hid (gb_trans W9.out g)
            clear g
            go_wp2
            go_ret
            exact ⟨rfl, GZ.out⟩
          have j5 : ¬ (512 : Int) < ((bs.length + pn : Nat) : Int) := by omega
          have Z5 := Lib.hid (show bs.length + pn ≤ 512 by omega)
          clear h5
          have f3 := RS3.out.f.free 3
          have b3 := RS3.out.f.cell 3
          dsimp at b3
          go_upto_region 26 with fail
          have s6 := gb_set w6 b12 3 (.slice pa pn pc)
          have RF := Lib.hid (show RfS w1 #[.slice va vn vc, .slice fa fn fc, .slice ta tn tc, .slice pa pn pc] #[.string ⟨#[]⟩, .slice ha hn hc, .slice none 0 0, .slice none 0 0, .slice none 0 0, .slice none 0 0, .slice (some ⟨bx + 1, 0, none⟩) 1 1, .slice none 0 0, .slice none 0 0] #[.slice ya an ac, .slice yf bn bc, .slice yt tn2 tc2, .slice pa pn pc] bx b12 ⟨ya, yf, yt, yp, an, ac, bn, bc, tn2, tc2, pn2, pc2⟩ (tkR L (newE H []) D) Vs (w6.setCell ⟨b12, 3, none⟩ (.slice pa pn pc)) from
            (fun (m : OE (w6.setCell ⟨b12, 3, none⟩ (.slice pa pn pc)) w1.heap.size ⟨ya, yf, yt, yp, an, ac, bn, bc, tn2, tc2, pn2, pc2⟩ (tkR L (newE H []) D) Vs) => ⟨RS3.out.e.keep s6 (by intro e; injection e with e; have h1 := B1.out.lt; have h2 := L12.out; omega), RS3.out.p.keepS s6 RS3.out.f (by decide), RS3.out.f.set 3 _, m.v, m.f, m.t, gb_put RS3.out.g L12.out⟩) (RS3.out.a.kB s6 RS3.out.f (by decide) (by decide) (by decide) (by decide)))
          have OD := Lib.hid (own_low (own_keepS O6.out s6 RS3.out.f (by decide)) (show w1.heap.size ≤ wr.heap.size from HGS.out))
          have AL := Lib.hid RS3.out.a
          have PZ := Lib.hid (pRun_size (M := []) (S := [⟨⟨#[115]⟩, D, false, 0, 0, [], -1⟩]) (bs := bs ++ L.P) (tlz_hz TZ.out) 0)
          rw [← EMT.out, ERUN.out, EMT.out] at PZ
          have LP := Lib.hid (show L.P.length = pn from HE.out.p.len)
          have EZF := Lib.hid (show EZ ⟨ya, yf, yt, pa, an, ac, bn, bc, tn2, tc2, pn, pc⟩ ⟨(tkR L (newE H []) D).V, (tkR L (newE H []) D).F, (tkR L (newE H []) D).T, L.P⟩ from by
            obtain ⟨z1, z2, z3, z4, z5⟩ := PZ.out
            dsimp only at z1 z2 z3 z4
            have h1 := AL.out.vl
            have h2 := AL.out.fl
            have h3 := AL.out.tl
            dsimp only at h1 h2 h3
            have h4 := LH.out
            have h5 := TZ.out.h
            have h6 := ZP.out
            refine ⟨?_, ?_, ?_, ?_, fun j => Nat.le_trans (z4 j) (by decide)⟩
            · dsimp only; omega
            · dsimp only; omega
            · dsimp only; rw [← h3, z3]; simp
            · dsimp only; omega)
          have KP := Lib.hid (fun (W : World) (q : w1.grownBy W none) (xa9 : Option Addr) (xc9 : Nat) (hx : SY W xa9 (bs.length + pn) xc9 (bs ++ L.P)) => pparse_any W ⟨#[]⟩ none none none none none ha none (some ⟨bx + 1, 0, none⟩) 0 0 0 0 0 0 0 0 0 0 hn hc 0 0 1 1 H [] [⟨⟨#[115]⟩, D, false, 0, 0, [], -1⟩] (HH.out.keep0 q) (HM.out.keep0 q) (HS.out.keep0SPs q) (fun i => by match i with | 0 => exact show (⟨#[115]⟩ : ByteArray).size ≤ 9223372036854775807 by decide | i + 1 => exact show (psz.nm).size ≤ 9223372036854775807 by decide) (tlz_hz TZ.out) (by have := TZ.out.h; omega) (by omega) xa9 (bs.length + pn) xc9 (bs ++ L.P) hx (by have := Z5.out; omega) a1 a2 0 HP.out true (iff_of_true rfl HO.out) (⟨(tkR L (newE H []) D).V, (tkR L (newE H []) D).F, (tkR L (newE H []) D).T, L.P⟩, [0], 0) (by rw [inX _ Z5.out, ← EMT.out]; exact ERUN.out.symm))
          have RBY := Lib.hid (show ∀ x ∈ bs ++ L.P, 0 ≤ x ∧ x < 256 from fun x hx => (List.mem_append.1 hx).elim (BRG.out x) (HE.out.p.rng x))
          generalize w6.setCell ⟨b12, 3, none⟩ (.slice pa pn pc) = wB at *
          clear s6 RS3 O6 b3 f3 x3 RS2 hw5
          go_cut [20, 21] from 138 to 146 (fun s20 s21 wx => ∃ (y : Nat) (X2 : EX) (Vs2 : List Value), s20 = .pointer (some ⟨y, 0, none⟩) ∧ s21 = .int .i64 0 ∧ IsB wx y 42 #[.slice X2.va X2.vn X2.vc, .slice X2.fa X2.fn X2.fc, .slice X2.ta X2.tn X2.tc, .slice X2.pa X2.pn X2.pc] ∧ OE wx w1.heap.size X2 ⟨(tkR L (newE H []) D).V, (tkR L (newE H []) D).F, (tkR L (newE H []) D).T, L.P⟩ Vs2 ∧ RfS w1 #[.slice va vn vc, .slice fa fn fc, .slice ta tn tc, .slice pa pn pc] #[.string ⟨#[]⟩, .slice ha hn hc, .slice none 0 0, .slice none 0 0, .slice none 0 0, .slice none 0 0, .slice (some ⟨bx + 1, 0, none⟩) 1 1, .slice none 0 0, .slice none 0 0] #[.slice ya an ac, .slice yf bn bc, .slice yt tn2 tc2, .slice pa pn pc] bx b12 ⟨ya, yf, yt, yp, an, ac, bn, bc, tn2, tc2, pn2, pc2⟩ (tkR L (newE H []) D) Vs wx)
          case first =>
            have KT := Lib.hid (fun (w' : World) (q0 : wB.grownBy w' none) => (⟨(RF.out.keep0 q0).p.cell 0, (RF.out.keep0 q0).p.cell 1, (RF.out.keep0 q0).p.cell 2, (RF.out.keep0 q0).p.cell 3, (RF.out.keep0 q0).p.cell 4, (RF.out.keep0 q0).p.cell 5, (RF.out.keep0 q0).p.cell 6, (RF.out.keep0 q0).p.cell 7, (RF.out.keep0 q0).p.cell 8, (RF.out.keep0 q0).e.cell 3⟩ : (fun w' : World => w'.cell? ⟨bx + 1 + 1, 0, none⟩ = some (.string ⟨#[]⟩) ∧ w'.cell? ⟨bx + 1 + 1, 1, none⟩ = some (.slice ha hn hc) ∧ w'.cell? ⟨bx + 1 + 1, 2, none⟩ = some (.slice none 0 0) ∧ w'.cell? ⟨bx + 1 + 1, 3, none⟩ = some (.slice none 0 0) ∧ w'.cell? ⟨bx + 1 + 1, 4, none⟩ = some (.slice none 0 0) ∧ w'.cell? ⟨bx + 1 + 1, 5, none⟩ = some (.slice none 0 0) ∧ w'.cell? ⟨bx + 1 + 1, 6, none⟩ = some (.slice (some ⟨bx + 1, 0, none⟩) 1 1) ∧ w'.cell? ⟨bx + 1 + 1, 7, none⟩ = some (.slice none 0 0) ∧ w'.cell? ⟨bx + 1 + 1, 8, none⟩ = some (.slice none 0 0) ∧ w'.cell? ⟨bx, 3, none⟩ = some (.slice pa pn pc)) w'))
            have T0 := Lib.hid (gb_drew wB none)
            refine wp_region_held_drew (S := (fun w' : World => w'.cell? ⟨bx + 1 + 1, 0, none⟩ = some (.string ⟨#[]⟩) ∧ w'.cell? ⟨bx + 1 + 1, 1, none⟩ = some (.slice ha hn hc) ∧ w'.cell? ⟨bx + 1 + 1, 2, none⟩ = some (.slice none 0 0) ∧ w'.cell? ⟨bx + 1 + 1, 3, none⟩ = some (.slice none 0 0) ∧ w'.cell? ⟨bx + 1 + 1, 4, none⟩ = some (.slice none 0 0) ∧ w'.cell? ⟨bx + 1 + 1, 5, none⟩ = some (.slice none 0 0) ∧ w'.cell? ⟨bx + 1 + 1, 6, none⟩ = some (.slice (some ⟨bx + 1, 0, none⟩) 1 1) ∧ w'.cell? ⟨bx + 1 + 1, 7, none⟩ = some (.slice none 0 0) ∧ w'.cell? ⟨bx + 1 + 1, 8, none⟩ = some (.slice none 0 0) ∧ w'.cell? ⟨bx, 3, none⟩ = some (.slice pa pn pc))) (by kernel_rfl) (KT.out _ T0.out) (fun hH0 => ?_)
            refine wpAnyH_take (i := 0) (v := ?v28) rfl (by kernel_rfl) (by kernel_rfl) (by kernel_rfl) (fun _ _ _ h => h) (Or.inl ⟨by rfl, ?hy28⟩) (by assumption) ?rest28
            case hy28 => (intro wz hSw; (try dsimp only at hSw); first | (go_simp; done) | (go_simp; with_reducible rfl))
            try simp only [Act.put, List.getElem_toArray, List.getElem_cons_zero, List.setIfInBounds_toArray, List.set_cons_zero, List.set_cons_succ]
            refine wpAnyH_take (i := 1) (v := ?v29) rfl (by kernel_rfl) (by kernel_rfl) (by kernel_rfl) (fun _ _ _ h => h) (Or.inl ⟨by rfl, ?hy29⟩) (by assumption) ?rest29
            case hy29 => (intro wz hSw; (try dsimp only at hSw); first | (go_simp; done) | (go_simp; with_reducible rfl))
            try simp only [Act.put, List.getElem_toArray, List.getElem_cons_succ, List.getElem_cons_zero, List.setIfInBounds_toArray, List.set_cons_zero, List.set_cons_succ]
            refine wpAnyH_take (i := 2) (v := ?v30) rfl (by kernel_rfl) (by kernel_rfl) (by kernel_rfl) (fun _ _ _ h => h) (Or.inl ⟨by rfl, ?hy30⟩) (by assumption) ?rest30
            case hy30 => (intro wz hSw; (try dsimp only at hSw); first | (go_simp; done) | (go_simp; with_reducible rfl))
            try simp only [Act.put, List.getElem_toArray, List.getElem_cons_succ, List.getElem_cons_zero, List.setIfInBounds_toArray, List.set_cons_zero, List.set_cons_succ]
            refine wpAnyH_take (i := 3) (v := ?v31) rfl (by kernel_rfl) (by kernel_rfl) (by kernel_rfl) (fun _ _ _ h => h) (Or.inl ⟨by rfl, ?hy31⟩) (by assumption) ?rest31
            case hy31 => (intro wz hSw; (try dsimp only at hSw); first | (go_simp; done) | (go_simp; with_reducible rfl))
            try simp only [Act.put, List.getElem_toArray, List.getElem_cons_succ, List.getElem_cons_zero, List.setIfInBounds_toArray, List.set_cons_zero, List.set_cons_succ]
            refine wpAnyH_ready (rs := [4, 9]) (by kernel_rfl) (by simp) ?_
            refine AllReadyH.cons (o := _) rfl (fun K hK => ?_) (AllReadyH.cons (o := _) rfl (fun K hK => ?_) AllReadyH.nil)
            · have RF0 := Lib.hid (RF.out.keep0 T0.out)
              have OD0 := Lib.hid (own_keep0 OD.out T0.out)
              refine ystep_any rfl _ _ rfl w1.heap.size _ (bs.map (Value.int .u8)) rfl (by rw [List.length_map]; exact OD0.out) pa pn pc (L.P.map (Value.int .u8)) rfl (HE.out.p.keep0 RF0.out.g).slr (by intro u hu; obtain ⟨y, _, rfl⟩ := List.mem_map.1 hu; rfl) (by have := Z5.out; have := LP.out; simp only [List.length_map]; omega) RF0.out.g.size ?_
              intro V4 u4 o4 g4
              have OB4 := Lib.hid (show u4.ownsRow w1.heap.size 5 1 V4 (bs.length + pn) ((bs ++ L.P).map (Value.int .u8)) by (have z := o4; simp only [← List.map_append, List.length_map, List.length_append, LP.out] at z; exact z))
              have RA4 := Lib.hid (RF0.out.past OD0.out g4)
              obtain ⟨a4, c4, rfl⟩ := own_shape OB4.out
              clear o4 g4
              refine hK.out _ _ ⟨RA4.out.p.cell 0, RA4.out.p.cell 1, RA4.out.p.cell 2, RA4.out.p.cell 3, RA4.out.p.cell 4, RA4.out.p.cell 5, RA4.out.p.cell 6, RA4.out.p.cell 7, RA4.out.p.cell 8, RA4.out.e.cell 3⟩ (fun hH4 => ?_)
              clear hK K hH0
              try simp only [Act.put, List.getElem_toArray, List.getElem_cons_succ, List.getElem_cons_zero, List.setIfInBounds_toArray, List.set_cons_zero, List.set_cons_succ]
              refine wpAnyH_ready (rs := [5, 9]) (by kernel_rfl) (by simp) ?_
              refine AllReadyH.cons (o := _) rfl (fun K hK => ?_) (AllReadyH.cons (o := _) rfl (fun K hK => ?_) AllReadyH.nil)
              · go_simp
                (with_reducible refine (KP.out _ RA4.out.g _ _ (ny_syR (own_keep0 OB4.out (gb_refl _ _)) RBY.out)).mono ?_)
                rintro e v5 ⟨X2, Vs2, rfl, oe, g⟩
                have OX5 := Lib.hid (oe.low RA4.out.g.size)
                have RC5 := Lib.hid (RA4.out.keep0 g)
                have GC5 := Lib.hid g
                clear oe g
                try dsimp only
                refine hK.out _ _ ⟨RC5.out.p.cell 0, RC5.out.p.cell 1, RC5.out.p.cell 2, RC5.out.p.cell 3, RC5.out.p.cell 4, RC5.out.p.cell 5, RC5.out.p.cell 6, RC5.out.p.cell 7, RC5.out.p.cell 8, RC5.out.e.cell 3⟩ (fun hH5 => ?_)
                clear hK K hH4
                try simp only [Act.put, List.getElem_toArray, List.getElem_cons_succ, List.getElem_cons_zero, List.setIfInBounds_toArray, List.set_cons_zero, List.set_cons_succ]
                refine wpAnyH_take (i := 6) (v := ?v32) rfl (by kernel_rfl) (by kernel_rfl) (by kernel_rfl) (fun _ _ _ h => h) (Or.inl ⟨by rfl, ?hy32⟩) (by assumption) ?rest32
                case hy32 => (intro wz hSw; (try dsimp only at hSw); first | (go_simp; done) | (go_simp; with_reducible rfl))
                try simp only [Act.put, List.getElem_toArray, List.getElem_cons_succ, List.getElem_cons_zero, List.setIfInBounds_toArray, List.set_cons_zero, List.set_cons_succ]
                refine wpAnyH_take (i := 7) (v := ?v33) rfl (by kernel_rfl) (by kernel_rfl) (by kernel_rfl) (fun _ _ _ h => h) (Or.inl ⟨by rfl, ?hy33⟩) (by assumption) ?rest33
                case hy33 => (intro wz hSw; (try dsimp only at hSw); first | (go_simp; done) | (go_simp; with_reducible rfl))
                try simp only [Act.put, List.getElem_toArray, List.getElem_cons_succ, List.getElem_cons_zero, List.setIfInBounds_toArray, List.set_cons_zero, List.set_cons_succ]
                refine wpAnyH_take (i := 8) (v := ?v34) rfl (by kernel_rfl) (by kernel_rfl) (by kernel_rfl) (fun _ _ _ h => h) (Or.inl ⟨by rfl, ?hy34⟩) (by assumption) ?rest34
                case hy34 => (intro wz hSw; (try dsimp only at hSw); first | (go_simp; done) | (go_simp; with_reducible rfl))
                try simp only [Act.put, List.getElem_toArray, List.getElem_cons_succ, List.getElem_cons_zero, List.setIfInBounds_toArray, List.set_cons_zero, List.set_cons_succ]
                refine wpAnyH_ready (rs := [9]) (by kernel_rfl) (by simp) ?_
                refine AllReadyH.cons (o := _) rfl (fun K hK => ?_) AllReadyH.nil
                go_simp
                try dsimp only
                have RD9 := Lib.hid (RC5.out.keep0 (gb_alloc v5 (.cells #[.slice none 0 0, .slice none 0 0, .slice none 0 0, .slice none 0 0] 42) none))
                refine hK.out _ _ ⟨RD9.out.p.cell 0, RD9.out.p.cell 1, RD9.out.p.cell 2, RD9.out.p.cell 3, RD9.out.p.cell 4, RD9.out.p.cell 5, RD9.out.p.cell 6, RD9.out.p.cell 7, RD9.out.p.cell 8, RD9.out.e.cell 3⟩ (fun hH9 => ?_)
                clear hK K hH5
                try simp only [Act.put, List.getElem_toArray, List.getElem_cons_succ, List.getElem_cons_zero, List.setIfInBounds_toArray, List.set_cons_zero, List.set_cons_succ]
                have I := Lib.hid (IsB.new v5 42 #[.slice none 0 0, .slice none 0 0, .slice none 0 0, .slice none 0 0])
                have i0 := I.out.cell 0
                have f0 := I.out.free 0
                have f1 := I.out.free 1
                have f2 := I.out.free 2
                have f3 := I.out.free 3
                dsimp at i0
                refine wpAnyH_ready (rs := [10]) (by kernel_rfl) (by simp) ?_
                refine AllReadyH.cons (o := _) rfl (fun K hK => ?_) AllReadyH.nil
                go_simp
                try dsimp only
                have RE9 := Lib.hid (RC5.out.keep0 (gb_alloc v5 (.cells #[.slice X2.va X2.vn X2.vc, .slice X2.fa X2.fn X2.fc, .slice X2.ta X2.tn X2.tc, .slice X2.pa X2.pn X2.pc] 42) none))
                refine hK.out _ _ ⟨RE9.out.p.cell 0, RE9.out.p.cell 1, RE9.out.p.cell 2, RE9.out.p.cell 3, RE9.out.p.cell 4, RE9.out.p.cell 5, RE9.out.p.cell 6, RE9.out.p.cell 7, RE9.out.p.cell 8, RE9.out.e.cell 3⟩ (fun hH10 => ?_)
                clear hK K hH9
                try simp only [Act.put, List.getElem_toArray, List.getElem_cons_succ, List.getElem_cons_zero, List.setIfInBounds_toArray, List.set_cons_zero, List.set_cons_succ]
                refine wpAnyH_take (i := 11) (v := ?v35) rfl (by kernel_rfl) (by kernel_rfl) (by kernel_rfl) (fun _ _ _ h => h) (Or.inl ⟨by rfl, ?hy35⟩) (by assumption) ?rest35
                case hy35 => (intro wz hSw; (try dsimp only at hSw); first | (go_simp; done) | (go_simp; with_reducible rfl))
                try simp only [Act.put, List.getElem_toArray, List.getElem_cons_succ, List.getElem_cons_zero, List.setIfInBounds_toArray, List.set_cons_zero, List.set_cons_succ]
                refine wpAnyH_done (by kernel_rfl) ?_ _
                clear hH10
                go_wp2_with fail
                go_meet
                exact ⟨_, X2, Vs2, rfl, rfl, IsB.new _ _ _, OX5.out.keep0 (gb_alloc _ _ none), RE9.out⟩
              · have LB9 := Lib.hid (show w1.heap.size ≤ u4.heap.size from RA4.out.g.size)
                have NB12 := Lib.hid (show b12 ≠ u4.heap.size from by have := RA4.out.f.lt; omega)
                have NBX := Lib.hid (show bx ≠ u4.heap.size from by have := RA4.out.e.lt; omega)
                go_simp
                try dsimp only
                have RD6 := Lib.hid (RA4.out.keep0 (gb_alloc u4 (.cells #[.slice none 0 0, .slice none 0 0, .slice none 0 0, .slice none 0 0] 42) none))
                refine hK.out _ _ ⟨RD6.out.p.cell 0, RD6.out.p.cell 1, RD6.out.p.cell 2, RD6.out.p.cell 3, RD6.out.p.cell 4, RD6.out.p.cell 5, RD6.out.p.cell 6, RD6.out.p.cell 7, RD6.out.p.cell 8, RD6.out.e.cell 3⟩ (fun hH6 => ?_)
                clear hK K hH4
                try simp only [Act.put, List.getElem_toArray, List.getElem_cons_succ, List.getElem_cons_zero, List.setIfInBounds_toArray, List.set_cons_zero, List.set_cons_succ]
                have I6 := Lib.hid (IsB.new u4 42 #[.slice none 0 0, .slice none 0 0, .slice none 0 0, .slice none 0 0])
                generalize hu6 : u4.alloc (.cells #[.slice none 0 0, .slice none 0 0, .slice none 0 0, .slice none 0 0] 42) = u6 at *
                have ga6 := Lib.hid (show u4.grownBy u6 none from by rw [← hu6]; exact gb_alloc _ _ none)
                clear hu6
                refine wpAnyH_ready (rs := [5]) (by kernel_rfl) (by simp) ?_
                refine AllReadyH.cons (o := _) rfl (fun K hK => ?_) AllReadyH.nil
                go_simp
                (with_reducible refine (KP.out _ RD6.out.g _ _ (ny_syR (own_keep0 OB4.out (ga6.out)) RBY.out)).mono ?_)
                rintro e v7 ⟨X2, Vs2, rfl, oe, g⟩
                have OX7 := Lib.hid (oe.low RD6.out.g.size)
                have RC7 := Lib.hid (RD6.out.keep0 g)
                have GC7 := Lib.hid g
                clear oe g
                try dsimp only
                refine hK.out _ _ ⟨RC7.out.p.cell 0, RC7.out.p.cell 1, RC7.out.p.cell 2, RC7.out.p.cell 3, RC7.out.p.cell 4, RC7.out.p.cell 5, RC7.out.p.cell 6, RC7.out.p.cell 7, RC7.out.p.cell 8, RC7.out.e.cell 3⟩ (fun hH7 => ?_)
                clear hK K hH6
                try simp only [Act.put, List.getElem_toArray, List.getElem_cons_succ, List.getElem_cons_zero, List.setIfInBounds_toArray, List.set_cons_zero, List.set_cons_succ]
                refine wpAnyH_take (i := 6) (v := ?v36) rfl (by kernel_rfl) (by kernel_rfl) (by kernel_rfl) (fun _ _ _ h => h) (Or.inl ⟨by rfl, ?hy36⟩) (by assumption) ?rest36
                case hy36 => (intro wz hSw; (try dsimp only at hSw); first | (go_simp; done) | (go_simp; with_reducible rfl))
                try simp only [Act.put, List.getElem_toArray, List.getElem_cons_succ, List.getElem_cons_zero, List.setIfInBounds_toArray, List.set_cons_zero, List.set_cons_succ]
                refine wpAnyH_take (i := 7) (v := ?v37) rfl (by kernel_rfl) (by kernel_rfl) (by kernel_rfl) (fun _ _ _ h => h) (Or.inl ⟨by rfl, ?hy37⟩) (by assumption) ?rest37
                case hy37 => (intro wz hSw; (try dsimp only at hSw); first | (go_simp; done) | (go_simp; with_reducible rfl))
                try simp only [Act.put, List.getElem_toArray, List.getElem_cons_succ, List.getElem_cons_zero, List.setIfInBounds_toArray, List.set_cons_zero, List.set_cons_succ]
                refine wpAnyH_take (i := 8) (v := ?v38) rfl (by kernel_rfl) (by kernel_rfl) (by kernel_rfl) (fun _ _ _ h => h) (Or.inl ⟨by rfl, ?hy38⟩) (by assumption) ?rest38
                case hy38 => (intro wz hSw; (try dsimp only at hSw); first | (go_simp; done) | (go_simp; with_reducible rfl))
                try simp only [Act.put, List.getElem_toArray, List.getElem_cons_succ, List.getElem_cons_zero, List.setIfInBounds_toArray, List.set_cons_zero, List.set_cons_succ]
                have I7 := Lib.hid (I6.out.keep0 GC7.out)
                have i0 := I7.out.cell 0
                have i1 := I7.out.cell 1
                have i2 := I7.out.cell 2
                have i3 := I7.out.cell 3
                have f0 := I7.out.free 0
                have f1 := I7.out.free 1
                have f2 := I7.out.free 2
                have f3 := I7.out.free 3
                dsimp at i0 i1 i2 i3
                have P4 := Lib.hid (put4 I7.out (.slice X2.va X2.vn X2.vc) (.slice X2.fa X2.fn X2.fc) (.slice X2.ta X2.tn X2.tc) (.slice X2.pa X2.pn X2.pc))
                have RE := Lib.hid (RC7.out.new I7.out P4.out.2 NB12.out NBX.out LB9.out)
                have OY := Lib.hid (OX7.out.kB P4.out.2 I7.out (by decide) (by decide) (by decide) (by decide))
                refine wpAnyH_ready (rs := [10]) (by kernel_rfl) (by simp) ?_
                refine AllReadyH.cons (o := _) rfl (fun K hK => ?_) AllReadyH.nil
                go_simp
                try dsimp only
                refine hK.out _ _ ⟨RE.out.p.cell 0, RE.out.p.cell 1, RE.out.p.cell 2, RE.out.p.cell 3, RE.out.p.cell 4, RE.out.p.cell 5, RE.out.p.cell 6, RE.out.p.cell 7, RE.out.p.cell 8, RE.out.e.cell 3⟩ (fun hH10 => ?_)
                clear hK K hH7
                try simp only [Act.put, List.getElem_toArray, List.getElem_cons_succ, List.getElem_cons_zero, List.setIfInBounds_toArray, List.set_cons_zero, List.set_cons_succ]
                refine wpAnyH_take (i := 11) (v := ?v39) rfl (by kernel_rfl) (by kernel_rfl) (by kernel_rfl) (fun _ _ _ h => h) (Or.inl ⟨by rfl, ?hy39⟩) (by assumption) ?rest39
                case hy39 => (intro wz hSw; (try dsimp only at hSw); first | (go_simp; done) | (go_simp; with_reducible rfl))
                try simp only [Act.put, List.getElem_toArray, List.getElem_cons_succ, List.getElem_cons_zero, List.setIfInBounds_toArray, List.set_cons_zero, List.set_cons_succ]
                refine wpAnyH_done (by kernel_rfl) ?_ _
                clear hH10
                go_wp2_with fail
                go_meet
                exact ⟨_, X2, Vs2, rfl, rfl, P4.out.1, OY.out, RE.out⟩
            · have LB9 := Lib.hid (show w1.heap.size ≤ wB.heap.size from RF.out.g.size)
              have NB12 := Lib.hid (show b12 ≠ wB.heap.size from by have := RF.out.f.lt; omega)
              have NBX := Lib.hid (show bx ≠ wB.heap.size from by have := RF.out.e.lt; omega)
              go_simp
              try dsimp only
              have GA9 := Lib.hid (gb_trans (gb_alloc wB (.cells #[.slice none 0 0, .slice none 0 0, .slice none 0 0, .slice none 0 0] 42) none) (gb_drew _ none))
              have RD8 := Lib.hid (RF.out.keep0 GA9.out)
              have I8 := Lib.hid ((IsB.new wB 42 #[.slice none 0 0, .slice none 0 0, .slice none 0 0, .slice none 0 0]).keep0 (gb_drew _ none))
              refine hK.out _ _ ⟨RD8.out.p.cell 0, RD8.out.p.cell 1, RD8.out.p.cell 2, RD8.out.p.cell 3, RD8.out.p.cell 4, RD8.out.p.cell 5, RD8.out.p.cell 6, RD8.out.p.cell 7, RD8.out.p.cell 8, RD8.out.e.cell 3⟩ (fun hH8 => ?_)
              clear hK K hH0
              try simp only [Act.put, List.getElem_toArray, List.getElem_cons_succ, List.getElem_cons_zero, List.setIfInBounds_toArray, List.set_cons_zero, List.set_cons_succ]
              have OD8 := Lib.hid (own_keep0 OD.out GA9.out)
              generalize (wB.alloc (.cells #[.slice none 0 0, .slice none 0 0, .slice none 0 0, .slice none 0 0] 42)).drew = u8 at *
              refine wpAnyH_ready (rs := [4]) (by kernel_rfl) (by simp) ?_
              refine AllReadyH.cons (o := _) rfl (fun K hK => ?_) AllReadyH.nil
              refine ystep_any rfl _ _ rfl w1.heap.size _ (bs.map (Value.int .u8)) rfl (by rw [List.length_map]; exact OD8.out) pa pn pc (L.P.map (Value.int .u8)) rfl (HE.out.p.keep0 RD8.out.g).slr (by intro u hu; obtain ⟨y, _, rfl⟩ := List.mem_map.1 hu; rfl) (by have := Z5.out; have := LP.out; simp only [List.length_map]; omega) RD8.out.g.size ?_
              intro V9 u9 o9 g9
              have OB9 := Lib.hid (show u9.ownsRow w1.heap.size 5 1 V9 (bs.length + pn) ((bs ++ L.P).map (Value.int .u8)) by (have z := o9; simp only [← List.map_append, List.length_map, List.length_append, LP.out] at z; exact z))
              have IQ := Lib.hid (isb_past I8.out OD8.out (by decide) g9)
              have RA9 := Lib.hid (RD8.out.past OD8.out g9)
              obtain ⟨a9, c9, rfl⟩ := own_shape OB9.out
              clear o9 g9
              refine hK.out _ _ ⟨RA9.out.p.cell 0, RA9.out.p.cell 1, RA9.out.p.cell 2, RA9.out.p.cell 3, RA9.out.p.cell 4, RA9.out.p.cell 5, RA9.out.p.cell 6, RA9.out.p.cell 7, RA9.out.p.cell 8, RA9.out.e.cell 3⟩ (fun hH9 => ?_)
              clear hK K hH8
              try simp only [Act.put, List.getElem_toArray, List.getElem_cons_succ, List.getElem_cons_zero, List.setIfInBounds_toArray, List.set_cons_zero, List.set_cons_succ]
              have I9 := IQ
              refine wpAnyH_ready (rs := [5]) (by kernel_rfl) (by simp) ?_
              refine AllReadyH.cons (o := _) rfl (fun K hK => ?_) AllReadyH.nil
              go_simp
              (with_reducible refine (KP.out _ RA9.out.g _ _ (ny_syR (own_keep0 OB9.out (gb_refl _ _)) RBY.out)).mono ?_)
              rintro e v10 ⟨X2, Vs2, rfl, oe, g⟩
              have OX10 := Lib.hid (oe.low RA9.out.g.size)
              have RC10 := Lib.hid (RA9.out.keep0 g)
              have GC10 := Lib.hid g
              clear oe g
              try dsimp only
              refine hK.out _ _ ⟨RC10.out.p.cell 0, RC10.out.p.cell 1, RC10.out.p.cell 2, RC10.out.p.cell 3, RC10.out.p.cell 4, RC10.out.p.cell 5, RC10.out.p.cell 6, RC10.out.p.cell 7, RC10.out.p.cell 8, RC10.out.e.cell 3⟩ (fun hH11 => ?_)
              clear hK K hH9
              try simp only [Act.put, List.getElem_toArray, List.getElem_cons_succ, List.getElem_cons_zero, List.setIfInBounds_toArray, List.set_cons_zero, List.set_cons_succ]
              refine wpAnyH_take (i := 6) (v := ?v40) rfl (by kernel_rfl) (by kernel_rfl) (by kernel_rfl) (fun _ _ _ h => h) (Or.inl ⟨by rfl, ?hy40⟩) (by assumption) ?rest40
              case hy40 => (intro wz hSw; (try dsimp only at hSw); first | (go_simp; done) | (go_simp; with_reducible rfl))
              try simp only [Act.put, List.getElem_toArray, List.getElem_cons_succ, List.getElem_cons_zero, List.setIfInBounds_toArray, List.set_cons_zero, List.set_cons_succ]
              refine wpAnyH_take (i := 7) (v := ?v41) rfl (by kernel_rfl) (by kernel_rfl) (by kernel_rfl) (fun _ _ _ h => h) (Or.inl ⟨by rfl, ?hy41⟩) (by assumption) ?rest41
              case hy41 => (intro wz hSw; (try dsimp only at hSw); first | (go_simp; done) | (go_simp; with_reducible rfl))
              try simp only [Act.put, List.getElem_toArray, List.getElem_cons_succ, List.getElem_cons_zero, List.setIfInBounds_toArray, List.set_cons_zero, List.set_cons_succ]
              refine wpAnyH_take (i := 8) (v := ?v42) rfl (by kernel_rfl) (by kernel_rfl) (by kernel_rfl) (fun _ _ _ h => h) (Or.inl ⟨by rfl, ?hy42⟩) (by assumption) ?rest42
              case hy42 => (intro wz hSw; (try dsimp only at hSw); first | (go_simp; done) | (go_simp; with_reducible rfl))
              try simp only [Act.put, List.getElem_toArray, List.getElem_cons_succ, List.getElem_cons_zero, List.setIfInBounds_toArray, List.set_cons_zero, List.set_cons_succ]
              have I10 := Lib.hid (I9.out.keep0 GC10.out)
              have i0 := I10.out.cell 0
              have i1 := I10.out.cell 1
              have i2 := I10.out.cell 2
              have i3 := I10.out.cell 3
              have f0 := I10.out.free 0
              have f1 := I10.out.free 1
              have f2 := I10.out.free 2
              have f3 := I10.out.free 3
              dsimp at i0 i1 i2 i3
              have P4 := Lib.hid (put4 I10.out (.slice X2.va X2.vn X2.vc) (.slice X2.fa X2.fn X2.fc) (.slice X2.ta X2.tn X2.tc) (.slice X2.pa X2.pn X2.pc))
              have RE := Lib.hid (RC10.out.new I10.out P4.out.2 NB12.out NBX.out LB9.out)
              have OY := Lib.hid (OX10.out.kB P4.out.2 I10.out (by decide) (by decide) (by decide) (by decide))
              refine wpAnyH_ready (rs := [10]) (by kernel_rfl) (by simp) ?_
              refine AllReadyH.cons (o := _) rfl (fun K hK => ?_) AllReadyH.nil
              go_simp
              try dsimp only
              refine hK.out _ _ ⟨RE.out.p.cell 0, RE.out.p.cell 1, RE.out.p.cell 2, RE.out.p.cell 3, RE.out.p.cell 4, RE.out.p.cell 5, RE.out.p.cell 6, RE.out.p.cell 7, RE.out.p.cell 8, RE.out.e.cell 3⟩ (fun hH10 => ?_)
              clear hK K hH11
              try simp only [Act.put, List.getElem_toArray, List.getElem_cons_succ, List.getElem_cons_zero, List.setIfInBounds_toArray, List.set_cons_zero, List.set_cons_succ]
              refine wpAnyH_take (i := 11) (v := ?v43) rfl (by kernel_rfl) (by kernel_rfl) (by kernel_rfl) (fun _ _ _ h => h) (Or.inl ⟨by rfl, ?hy43⟩) (by assumption) ?rest43
              case hy43 => (intro wz hSw; (try dsimp only at hSw); first | (go_simp; done) | (go_simp; with_reducible rfl))
              try simp only [Act.put, List.getElem_toArray, List.getElem_cons_succ, List.getElem_cons_zero, List.setIfInBounds_toArray, List.set_cons_zero, List.set_cons_succ]
              refine wpAnyH_done (by kernel_rfl) ?_ _
              clear hH10
              go_wp2_with fail
              go_meet
              exact ⟨_, X2, Vs2, rfl, rfl, P4.out.1, OY.out, RE.out⟩
          case rest =>
            obtain ⟨y, X2, Vs2, rfl, rfl, iy, oy, rf⟩ := hcut
            replace W9 := Lib.hid (gb_trans G1.out rf.g)
            have EZ2 := Lib.hid (show EZ X2 ⟨(tkR L (newE H []) D).V, (tkR L (newE H []) D).F, (tkR L (newE H []) D).T, L.P⟩ from by
              obtain ⟨z1, z2, z3, z4, z5⟩ := PZ.out
              dsimp only at z1 z2 z3 z4
              have h1 := oy.vl
              have h2 := oy.fl
              have h3 := oy.tl
              have h7 := oy.pl
              dsimp only at h1 h2 h3 h7
              have h4 := LH.out
              have h5 := TZ.out.h
              have h6 := ZP.out
              have h8 := LP.out
              refine ⟨by omega, by omega, ?_, by omega, fun j => Nat.le_trans (z4 j) (by decide)⟩
              rw [← h3, z3]; simp)
            have ERF := Lib.hid (show ER wc ⟨ya, yf, yt, pa, an, ac, bn, bc, tn2, tc2, pn, pc⟩ ⟨(tkR L (newE H []) D).V, (tkR L (newE H []) D).F, (tkR L (newE H []) D).T, L.P⟩ from ⟨nb_sb rf.v AL.out.vl, rf.r.sr AL.out.fl, nu_su rf.t AL.out.tl AL.out.trng, HE.out.p.keep0 rf.g⟩)
            have KQ := Lib.hid (fun (W : World) (q : wc.grownBy W none) => by have z := requal_any W X2 ⟨ya, yf, yt, pa, an, ac, bn, bc, tn2, tc2, pn, pc⟩ _ _ (oy.er.keep0 q) (ERF.out.keep0 q) EZ2.out EZF.out true (by simp [sameE]); unfold RetV at z; dsimp only at z; exact z)
            have i0 := iy.cell 0
            have i1 := iy.cell 1
            have i2 := iy.cell 2
            have i3 := iy.cell 3
            have k0 := rf.f.cell 0
            have k1 := rf.f.cell 1
            have k2 := rf.f.cell 2
            have k3 := rf.f.cell 3
            dsimp at i0 i1 i2 i3 k0 k1 k2 k3
            clear iy oy rf KP
            go_wp2_with (first | (go_at_call 18; refine (KQ.out _ (gb_refl _ _)).mono ?_; rintro e9 w8 ⟨rfl, g⟩; have G8 := Lib.hid g; clear g) | (go_at_call 13; refine (works18_any _).mono ?_; rintro e9 wz ⟨rfl, g⟩; have GZ := Lib.hid (gb_trans W9.out (gb_trans G8.out g)); clear g))
            go_ret
            exact ⟨rfl, GZ.out⟩
end Go.Proofs.Ytjhknmklejkknaa
