/- Expr: the law's awake; no condition. -/
import Derived.Test.YtdbjeihbfooipaaExL
namespace Go.Proofs.Ytdbjeihbfooipaa
open Go.RowKit
set_option linter.unusedVariables false
def aH : List (ByteArray × List Fld) := [(⟨#[104]⟩, [(⟨#[102]⟩, 8)])]
def aP : List Fld := [(⟨#[118]⟩, 4)]
def aC (V : List Bool) (F : List (List Int)) : Cx := ⟨aH, [], aP, V, F, [], []⟩
def nSum : List Nd := [(9, 0, 0), (1, 250, 8), (1, 10, 8)]
def nCat : List Nd := [(14, 0, 0), (1, 5, 4), (1, 9, 8)]
def nCond : List Nd := [(17, 0, 0), (4, 0, 0), (2, 0, 0), (1, 7, 8)]
def nMix : List Nd := [(9, 0, 0), (1, 1, 8), (3, 0, 0)]
def nTwo : List Nd := [(1, 1, 8), (1, 1, 8)]
theorem v1 : rW (wholeT (aC [] []) nSum) = 8 ∧ rE (wholeT (aC [] []) nSum) = 0 := by decide +kernel
theorem v2 : rW (wholeT (aC [] []) nCat) = 12 ∧ rE (wholeT (aC [] []) nCat) = 0 := by decide +kernel
theorem v3 : rW (wholeT (aC [] []) nMix) = 0 ∧ rE (wholeT (aC [] []) nMix) = 10 := by decide +kernel
theorem v4 : rW (wholeT (aC [] []) (nSum.take 2)) = 0 ∧ rE (wholeT (aC [] []) (nSum.take 2)) = 3 := by decide +kernel
theorem v5 : rW (wholeT (aC [] []) nTwo) = 0 ∧ rE (wholeT (aC [] []) nTwo) = 4 := by decide +kernel
theorem v6 : rV (wholeT (aC [true] [[33]]) nSum) = 4 := by decide +kernel
theorem v7 : rV (wholeT (aC [true] [[33]]) nCat) = 1289 := by decide +kernel
theorem v8 : rV (wholeT (aC [true] [[33]]) nCond) = 33 := by decide +kernel
theorem v9 : rV (wholeT (aC [false] [[0]]) nCond) = 7 := by decide +kernel
theorem v10 : endT nTwo 0 = 1 := by decide +kernel
theorem v11 : refsL nCond = [(0, 0)] := by decide
theorem v12 : hdsL nCond = [0] := by decide
theorem sn_new (w : World) (L : List Nd) (cs : Array Value) (g : Nat) (h : IsB w g 61 cs) (hc : ∀ j, j < L.length → cs[j * 3]? = some (.int .i64 (L.getD j nz).1) ∧ cs[j * 3 + 1]? = some (.int .i64 (L.getD j nz).2.1) ∧ cs[j * 3 + 2]? = some (.int .i64 (L.getD j nz).2.2))
    (hr : ∀ x ∈ L, -9223372036854775808 ≤ x.2.1 ∧ x.2.1 ≤ 9223372036854775807) (n : Nat) (hn : n = L.length) : SN w (some ⟨g, 0, none⟩) n n L := by
  subst hn
  refine ⟨rfl, (fun e => by cases e), Nat.le_refl _, fun ad e j hj => ?_, hr⟩
  injection e with e
  subst e
  obtain ⟨c0, c1, c2⟩ := hc j hj
  rw [addR0]
  exact ⟨by rw [h.cell]; exact c0, by rw [h.cell]; exact c1, by rw [h.cell]; exact c2⟩
theorem sn_pre {w : World} {ad : Addr} {n c : Nat} {L : List Nd} (h : SN w (some ad) n c L) (j : Nat) (hj : j ≤ n) : SN w (some ad) j c (L.take j) := by
  refine ⟨by rw [List.length_take, h.len]; omega, (fun e => by cases e), by have := h.cap; omega, fun ad2 e t ht => ?_, fun x hx => h.rng x (List.mem_of_mem_take hx)⟩
  have k := h.cells ad2 e t (by omega)
  have e2 : (L.take j).getD t nz = L.getD t nz := by
    rw [List.getD_eq_getElem?_getD, List.getD_eq_getElem?_getD, List.getElem?_take, if_pos ht]
  rw [e2]
  exact k
theorem sf_one (w : World) (g : Nat) (s : ByteArray) (n : Int) (h : IsB w g 100 #[.string s, .int .i64 n]) : SF w (some ⟨g, 0, none⟩) 1 1 [(s, n)] := by
  refine ⟨rfl, (fun e => by cases e), Nat.le_refl _, fun ad e j hj => ?_⟩
  injection e with e
  subst e
  obtain rfl : j = 0 := by omega
  rw [addR0]
  exact ⟨h.cell 0, h.cell 1⟩
theorem sh_one (w : World) (g f : Nat) (s : ByteArray) (L : List Fld) (h : IsB w g 102 #[.string s, .slice (some ⟨f, 0, none⟩) 1 1]) (hf : SF w (some ⟨f, 0, none⟩) 1 1 L) : SH w (some ⟨g, 0, none⟩) 1 1 [(s, L)] := by
  refine ⟨rfl, (fun e => by cases e), Nat.le_refl _, fun ad e j hj => ?_⟩
  injection e with e
  subst e
  obtain rfl : j = 0 := by omega
  rw [addR0]
  exact ⟨h.cell 0, _, _, _, h.cell 1, hf⟩
theorem sb_one (w : World) (g : Nat) (b : Bool) (t : TypeId) (h : IsB w g t #[.bool b]) : SB w (some ⟨g, 0, none⟩) 1 1 [b] := by
  refine ⟨rfl, (fun e => by cases e), Nat.le_refl _, fun ad e j hj => ?_⟩
  injection e with e
  subst e
  obtain rfl : j = 0 := by omega
  rw [addR0]
  exact h.cell 0
theorem su_one (w : World) (g : Nat) (x : Int) (t : TypeId) (h : IsB w g t #[.int .u32 x]) (hx : 0 ≤ x ∧ x < 4294967296) : SU w (some ⟨g, 0, none⟩) 1 1 [x] := by
  refine ⟨rfl, (fun e => by cases e), Nat.le_refl _, fun ad e j hj => ?_, fun y hy => by rw [List.mem_singleton.1 hy]; exact hx⟩
  injection e with e
  subst e
  obtain rfl : j = 0 := by omega
  rw [addR0]
  exact h.cell 0
theorem sr_one (w : World) (g f : Nat) (L : List Int) (t : TypeId) (h : IsB w g t #[.slice (some ⟨f, 0, none⟩) 1 1]) (hf : SU w (some ⟨f, 0, none⟩) 1 1 L) : SR w (some ⟨g, 0, none⟩) 1 1 [L] := by
  refine ⟨rfl, (fun e => by cases e), Nat.le_refl _, fun ad e j hj => ?_⟩
  injection e with e
  subst e
  obtain rfl : j = 0 := by omega
  rw [addR0]
  exact ⟨_, _, _, h.cell 0, hf⟩
theorem sq_one (w : World) (g : Nat) (x y : Int) (h : IsB w g 48 #[.int .i64 x, .int .i64 y]) : SQ w (some ⟨g, 0, none⟩) 1 1 [(x, y)] := by
  refine ⟨rfl, (fun e => by cases e), Nat.le_refl _, fun ad e j hj => ?_⟩
  injection e with e
  subst e
  obtain rfl : j = 0 := by omega
  rw [addR0]
  exact ⟨h.cell 0, h.cell 1⟩
theorem sz_one (w : World) (g : Nat) (x : Int) (t : TypeId) (h : IsB w g t #[.int .i64 x]) : SZ w (some ⟨g, 0, none⟩) 1 1 [x] := by
  refine ⟨rfl, (fun e => by cases e), Nat.le_refl _, fun ad e j hj => ?_⟩
  injection e with e
  subst e
  obtain rfl : j = 0 := by omega
  rw [addR0]
  exact h.cell 0
theorem sb_nil (w : World) : SB w none 0 0 [] := ⟨rfl, fun _ => ⟨rfl, rfl⟩, Nat.le_refl _, (fun ad e => by cases e)⟩
theorem sr_nil (w : World) : SR w none 0 0 [] := ⟨rfl, fun _ => ⟨rfl, rfl⟩, Nat.le_refl _, (fun ad e => by cases e)⟩
/-- The example's raw values. -/
def aX (a : Option Addr) (n c b1 b3 : Nat) (va fa : Option Addr) (k : Nat) : KX where
  na := a
  nn := n
  nc := c
  nm := ⟨#[]⟩
  ha := some ⟨b1, 0, none⟩
  hn := 1
  hc := 1
  ma := none
  mn := 0
  mc := 0
  a0 := none
  n0 := 0
  c0 := 0
  a1 := none
  n1 := 0
  c1 := 0
  a2 := none
  n2 := 0
  c2 := 0
  a3 := none
  n3 := 0
  c3 := 0
  a4 := none
  n4 := 0
  c4 := 0
  a5 := none
  n5 := 0
  c5 := 0
  pa := some ⟨b3, 0, none⟩
  pn := 1
  pc := 1
  va := va
  vn := k
  vc := k
  fa := fa
  fn := k
  fc := k
  ta := none
  tn := 0
  tc := 0
  la := none
  ln := 0
  lc := 0
  aa := none
  an := 0
  ac := 0
/-- The example's declarations in memory. -/
def Dc (w : World) (b1 b3 : Nat) : Prop := SH w (some ⟨b1, 0, none⟩) 1 1 aH ∧ SF w (some ⟨b3, 0, none⟩) 1 1 aP
theorem Dc.keep0 {w w2 : World} {b1 b3 : Nat} (h : Dc w b1 b3) (k : w.grownBy w2 none) : Dc w2 b1 b3 := ⟨h.1.keep0 k, h.2.keep0 k⟩
theorem aCheck {w : World} {b1 b3 : Nat} {a : Option Addr} {n c : Nat} {N : List Nd} (hd : Dc w b1 b3) (hN : SN w a n c N) (x e : Int) (hv : rW (wholeT (aC [] []) N) = x ∧ rE (wholeT (aC [] []) N) = e) :
    Calls Try.prog 22 #[.slice a n c, .agg #[.string ⟨#[]⟩, .slice (some ⟨b1, 0, none⟩) 1 1, .slice none 0 0, .slice none 0 0, .slice none 0 0, .slice none 0 0, .slice none 0 0, .slice none 0 0, .slice none 0 0, .slice (some ⟨b3, 0, none⟩) 1 1]] w (fun en w' => en = .returned (.tuple #[.int .i64 x, .int .i64 e]) ∧ w.grownBy w' none) := by
  have h := kcheck_any w (aX a n c b1 b3 none none 0) (aC [] []) N ⟨hN, hd.1, sf_nil _, hd.2, sb_nil _, sr_nil _, su_nil _, su_nil _⟩
  unfold RetWE at h
  rw [hv.1, hv.2] at h
  exact h
theorem aEval {w : World} {b1 b3 : Nat} {a va fa : Option Addr} {n c : Nat} {N : List Nd} {V : List Bool} {F : List (List Int)} (hd : Dc w b1 b3) (hN : SN w a n c N) (hV : SB w va 1 1 V) (hF : SR w fa 1 1 F) (x : Int) (hv : rV (wholeT (aC V F) N) = x) :
    Calls Try.prog 20 #[.slice a n c, .agg #[.string ⟨#[]⟩, .slice (some ⟨b1, 0, none⟩) 1 1, .slice none 0 0, .slice none 0 0, .slice none 0 0, .slice none 0 0, .slice none 0 0, .slice none 0 0, .slice none 0 0, .slice (some ⟨b3, 0, none⟩) 1 1], .agg #[.slice va 1 1, .slice fa 1 1, .slice none 0 0, .slice none 0 0], .slice none 0 0] w (fun en w' => en = .returned (.int .u32 x) ∧ w.grownBy w' none) := by
  have h := keval_any w (aX a n c b1 b3 va fa 1) (aC V F) N ⟨hN, hd.1, sf_nil _, hd.2, hV, hF, su_nil _, su_nil _⟩
  unfold RetV at h
  rw [hv] at h
  exact h
set_option maxRecDepth 100000 in
set_option maxHeartbeats 40000000 in
theorem awake_any (w : World) : Calls Try.prog 15 #[] w (RetV (.bool true) w) := by
  obtain ⟨P, hP⟩ : ∃ P, P = w.heap.size := ⟨_, rfl⟩
  obtain ⟨b1, hb1⟩ : ∃ b, b = P + 1 := ⟨_, rfl⟩
  obtain ⟨b3, hb3⟩ : ∃ b, b = P + 1 + 1 + 1 := ⟨_, rfl⟩
  obtain ⟨b4, hb4⟩ : ∃ b, b = P + 1 + 1 + 1 + 1 := ⟨_, rfl⟩
  obtain ⟨w5, hw5⟩ : ∃ w5, w5 = ((((w.alloc (.cells #[.string ⟨#[102]⟩, .int .i64 8] 100)).alloc (.cells #[.string ⟨#[104]⟩, .slice (some ⟨P, 0, none⟩) 1 1] 102)).alloc (.cells #[.string ⟨#[]⟩, .slice (some ⟨b1, 0, none⟩) 1 1, .slice none 0 0, .slice none 0 0, .slice none 0 0, .slice none 0 0, .slice none 0 0, .slice none 0 0, .slice none 0 0] 31)).alloc (.cells #[.string ⟨#[118]⟩, .int .i64 4] 100)).alloc (.cells #[.string ⟨#[]⟩, .slice (some ⟨b1, 0, none⟩) 1 1, .slice none 0 0, .slice none 0 0, .slice none 0 0, .slice none 0 0, .slice none 0 0, .slice none 0 0, .slice none 0 0, .slice (some ⟨b3, 0, none⟩) 1 1] 52) := ⟨_, rfl⟩
  have z1 : (w.alloc (.cells #[.string ⟨#[102]⟩, .int .i64 8] 100)).heap.size = P + 1 := by rw [sz_al, hP]
  have i0 := IsB.new w 100 #[.string ⟨#[102]⟩, .int .i64 8]
  rw [← hP] at i0
  have i1 := IsB.new (w.alloc (.cells #[.string ⟨#[102]⟩, .int .i64 8] 100)) 102 #[.string ⟨#[104]⟩, .slice (some ⟨P, 0, none⟩) 1 1]
  rw [z1, ← hb1] at i1
  have i3 := IsB.new (((w.alloc (.cells #[.string ⟨#[102]⟩, .int .i64 8] 100)).alloc (.cells #[.string ⟨#[104]⟩, .slice (some ⟨P, 0, none⟩) 1 1] 102)).alloc (.cells #[.string ⟨#[]⟩, .slice (some ⟨b1, 0, none⟩) 1 1, .slice none 0 0, .slice none 0 0, .slice none 0 0, .slice none 0 0, .slice none 0 0, .slice none 0 0, .slice none 0 0] 31)) 100 #[.string ⟨#[118]⟩, .int .i64 4]
  rw [sz_al, sz_al, z1, ← hb3] at i3
  have i4 := IsB.new ((((w.alloc (.cells #[.string ⟨#[102]⟩, .int .i64 8] 100)).alloc (.cells #[.string ⟨#[104]⟩, .slice (some ⟨P, 0, none⟩) 1 1] 102)).alloc (.cells #[.string ⟨#[]⟩, .slice (some ⟨b1, 0, none⟩) 1 1, .slice none 0 0, .slice none 0 0, .slice none 0 0, .slice none 0 0, .slice none 0 0, .slice none 0 0, .slice none 0 0] 31)).alloc (.cells #[.string ⟨#[118]⟩, .int .i64 4] 100)) 52 #[.string ⟨#[]⟩, .slice (some ⟨b1, 0, none⟩) 1 1, .slice none 0 0, .slice none 0 0, .slice none 0 0, .slice none 0 0, .slice none 0 0, .slice none 0 0, .slice none 0 0, .slice (some ⟨b3, 0, none⟩) 1 1]
  rw [sz_al, sz_al, sz_al, z1, ← hb4] at i4
  have BS := Lib.hid (show IsB w5 b4 52 #[.string ⟨#[]⟩, .slice (some ⟨b1, 0, none⟩) 1 1, .slice none 0 0, .slice none 0 0, .slice none 0 0, .slice none 0 0, .slice none 0 0, .slice none 0 0, .slice none 0 0, .slice (some ⟨b3, 0, none⟩) 1 1] from by rw [hw5]; exact i4)
  have DD := Lib.hid (show Dc w5 b1 b3 from by
    rw [hw5]
    exact ⟨sh_one _ b1 P _ _ (((i1.alloc _).alloc _).alloc _) (sf_one _ P _ _ ((((i0.alloc _).alloc _).alloc _).alloc _)), sf_one _ b3 _ _ (i3.alloc _)⟩)
  have GZ := Lib.hid (show w.grownBy w5 none from by rw [hw5]; exact gb_al (gb_al (gb_al (gb_al (gb_al (gb_refl _ _))))))
  clear z1 i0 i1 i3 i4
  have LC := Lib.hid (fun w n => lconst_any w n)
  unfold RetV at LC
  go_enter Try.func15, Try.ntmps15
  go_upto_region 3 with fail
  rw [← hP, ← hb4, ← hb3, ← hb1, ← hw5]
  clear hP hb1 hb3 hb4 hw5
  go_wp2_with fail
  refine (LC.out _ 250).mono ?_
  rintro e w6 ⟨rfl, g⟩
  replace GZ := Lib.hid (gb_trans GZ.out g)
  replace BS := Lib.hid (BS.out.keep0 g)
  replace DD := Lib.hid (DD.out.keep0 g)
  clear g
  go_wp2_with fail
  refine (LC.out _ 10).mono ?_
  rintro e w7 ⟨rfl, g⟩
  replace GZ := Lib.hid (gb_trans GZ.out g)
  replace BS := Lib.hid (BS.out.keep0 g)
  replace DD := Lib.hid (DD.out.keep0 g)
  clear g
  obtain ⟨w8, hw8⟩ : ∃ x, x = w7.alloc (.cells #[.int .i64 9, .int .i64 0, .int .i64 0, .int .i64 1, .int .i64 250, .int .i64 8, .int .i64 1, .int .i64 10, .int .i64 8] 61) := ⟨_, rfl⟩
  obtain ⟨psum, hpsum⟩ : ∃ p, p = w7.heap.size := ⟨_, rfl⟩
  have Ssum := Lib.hid (show SN w8 (some ⟨psum, 0, none⟩) 3 3 nSum from by
    rw [hw8, hpsum]
    exact sn_new _ nSum _ _ (IsB.new _ _ _) (by intro j hj; have hj : j < 3 := hj; rcases (show j = 0 ∨ j = 1 ∨ j = 2 by omega) with rfl | rfl | rfl <;> exact ⟨rfl, rfl, rfl⟩) (by intro x hx; revert x; unfold nSum; decide) _ rfl)
  have g := gb_alloc w7 (.cells #[.int .i64 9, .int .i64 0, .int .i64 0, .int .i64 1, .int .i64 250, .int .i64 8, .int .i64 1, .int .i64 10, .int .i64 8] 61) none
  rw [← hw8] at g
  replace GZ := Lib.hid (gb_trans GZ.out g)
  replace BS := Lib.hid (BS.out.keep0 g)
  replace DD := Lib.hid (DD.out.keep0 g)
  clear g
  go_upto_region 4 with fail
  rw [← hpsum, ← hw8]
  clear hw8 hpsum
  go_wp2_with fail
  refine (LC.out _ 9).mono ?_
  rintro e w9 ⟨rfl, g⟩
  replace GZ := Lib.hid (gb_trans GZ.out g)
  replace BS := Lib.hid (BS.out.keep0 g)
  replace DD := Lib.hid (DD.out.keep0 g)
  replace Ssum := Lib.hid (Ssum.out.keep0 g)
  clear g
  obtain ⟨w10, hw10⟩ : ∃ x, x = w9.alloc (.cells #[.int .i64 14, .int .i64 0, .int .i64 0, .int .i64 1, .int .i64 5, .int .i64 4, .int .i64 1, .int .i64 9, .int .i64 8] 61) := ⟨_, rfl⟩
  obtain ⟨pcat, hpcat⟩ : ∃ p, p = w9.heap.size := ⟨_, rfl⟩
  have Scat := Lib.hid (show SN w10 (some ⟨pcat, 0, none⟩) 3 3 nCat from by
    rw [hw10, hpcat]
    exact sn_new _ nCat _ _ (IsB.new _ _ _) (by intro j hj; have hj : j < 3 := hj; rcases (show j = 0 ∨ j = 1 ∨ j = 2 by omega) with rfl | rfl | rfl <;> exact ⟨rfl, rfl, rfl⟩) (by intro x hx; revert x; unfold nCat; decide) _ rfl)
  have g := gb_alloc w9 (.cells #[.int .i64 14, .int .i64 0, .int .i64 0, .int .i64 1, .int .i64 5, .int .i64 4, .int .i64 1, .int .i64 9, .int .i64 8] 61) none
  rw [← hw10] at g
  replace GZ := Lib.hid (gb_trans GZ.out g)
  replace BS := Lib.hid (BS.out.keep0 g)
  replace DD := Lib.hid (DD.out.keep0 g)
  replace Ssum := Lib.hid (Ssum.out.keep0 g)
  clear g
  go_upto_region 5 with fail
  rw [← hpcat, ← hw10]
  clear hw10 hpcat
  go_wp2_with fail
  refine (LC.out _ 7).mono ?_
  rintro e w11 ⟨rfl, g⟩
  replace GZ := Lib.hid (gb_trans GZ.out g)
  replace BS := Lib.hid (BS.out.keep0 g)
  replace DD := Lib.hid (DD.out.keep0 g)
  replace Ssum := Lib.hid (Ssum.out.keep0 g)
  replace Scat := Lib.hid (Scat.out.keep0 g)
  clear g
  obtain ⟨w12, hw12⟩ : ∃ x, x = w11.alloc (.cells #[.int .i64 17, .int .i64 0, .int .i64 0, .int .i64 4, .int .i64 0, .int .i64 0, .int .i64 2, .int .i64 0, .int .i64 0, .int .i64 1, .int .i64 7, .int .i64 8] 61) := ⟨_, rfl⟩
  obtain ⟨pcond, hpcond⟩ : ∃ p, p = w11.heap.size := ⟨_, rfl⟩
  have Scond := Lib.hid (show SN w12 (some ⟨pcond, 0, none⟩) 4 4 nCond from by
    rw [hw12, hpcond]
    exact sn_new _ nCond _ _ (IsB.new _ _ _) (by intro j hj; have hj : j < 4 := hj; rcases (show j = 0 ∨ j = 1 ∨ j = 2 ∨ j = 3 by omega) with rfl | rfl | rfl | rfl <;> exact ⟨rfl, rfl, rfl⟩) (by intro x hx; revert x; unfold nCond; decide) _ rfl)
  have g := gb_alloc w11 (.cells #[.int .i64 17, .int .i64 0, .int .i64 0, .int .i64 4, .int .i64 0, .int .i64 0, .int .i64 2, .int .i64 0, .int .i64 0, .int .i64 1, .int .i64 7, .int .i64 8] 61) none
  rw [← hw12] at g
  replace GZ := Lib.hid (gb_trans GZ.out g)
  replace BS := Lib.hid (BS.out.keep0 g)
  replace DD := Lib.hid (DD.out.keep0 g)
  replace Ssum := Lib.hid (Ssum.out.keep0 g)
  replace Scat := Lib.hid (Scat.out.keep0 g)
  clear g
  go_upto_region 6 with fail
  rw [← hpcond, ← hw12]
  clear hw12 hpcond
  have s0 : w12.cell? ⟨b4, 0, none⟩ = some (.string ⟨#[]⟩) := BS.out.cell 0
  have s1 : w12.cell? ⟨b4, 1, none⟩ = some (.slice (some ⟨b1, 0, none⟩) 1 1) := BS.out.cell 1
  have s2 : w12.cell? ⟨b4, 2, none⟩ = some (.slice none 0 0) := BS.out.cell 2
  have s3 : w12.cell? ⟨b4, 3, none⟩ = some (.slice none 0 0) := BS.out.cell 3
  have s4 : w12.cell? ⟨b4, 4, none⟩ = some (.slice none 0 0) := BS.out.cell 4
  have s5 : w12.cell? ⟨b4, 5, none⟩ = some (.slice none 0 0) := BS.out.cell 5
  have s6 : w12.cell? ⟨b4, 6, none⟩ = some (.slice none 0 0) := BS.out.cell 6
  have s7 : w12.cell? ⟨b4, 7, none⟩ = some (.slice none 0 0) := BS.out.cell 7
  have s8 : w12.cell? ⟨b4, 8, none⟩ = some (.slice none 0 0) := BS.out.cell 8
  have s9 : w12.cell? ⟨b4, 9, none⟩ = some (.slice (some ⟨b3, 0, none⟩) 1 1) := BS.out.cell 9
  go_wp2_with fail
  refine (aCheck DD.out Ssum.out 8 0 v1).mono ?_
  rintro e w13 ⟨rfl, g⟩
  replace GZ := Lib.hid (gb_trans GZ.out g)
  replace BS := Lib.hid (BS.out.keep0 g)
  replace DD := Lib.hid (DD.out.keep0 g)
  replace Ssum := Lib.hid (Ssum.out.keep0 g)
  replace Scat := Lib.hid (Scat.out.keep0 g)
  replace Scond := Lib.hid (Scond.out.keep0 g)
  clear s0 s1 s2 s3 s4 s5 s6 s7 s8 s9
  clear g
  have s0 : w13.cell? ⟨b4, 0, none⟩ = some (.string ⟨#[]⟩) := BS.out.cell 0
  have s1 : w13.cell? ⟨b4, 1, none⟩ = some (.slice (some ⟨b1, 0, none⟩) 1 1) := BS.out.cell 1
  have s2 : w13.cell? ⟨b4, 2, none⟩ = some (.slice none 0 0) := BS.out.cell 2
  have s3 : w13.cell? ⟨b4, 3, none⟩ = some (.slice none 0 0) := BS.out.cell 3
  have s4 : w13.cell? ⟨b4, 4, none⟩ = some (.slice none 0 0) := BS.out.cell 4
  have s5 : w13.cell? ⟨b4, 5, none⟩ = some (.slice none 0 0) := BS.out.cell 5
  have s6 : w13.cell? ⟨b4, 6, none⟩ = some (.slice none 0 0) := BS.out.cell 6
  have s7 : w13.cell? ⟨b4, 7, none⟩ = some (.slice none 0 0) := BS.out.cell 7
  have s8 : w13.cell? ⟨b4, 8, none⟩ = some (.slice none 0 0) := BS.out.cell 8
  have s9 : w13.cell? ⟨b4, 9, none⟩ = some (.slice (some ⟨b3, 0, none⟩) 1 1) := BS.out.cell 9
  go_wp2_with fail
  refine (aCheck DD.out Scat.out 12 0 v2).mono ?_
  rintro e w14 ⟨rfl, g⟩
  replace GZ := Lib.hid (gb_trans GZ.out g)
  replace BS := Lib.hid (BS.out.keep0 g)
  replace DD := Lib.hid (DD.out.keep0 g)
  replace Ssum := Lib.hid (Ssum.out.keep0 g)
  replace Scat := Lib.hid (Scat.out.keep0 g)
  replace Scond := Lib.hid (Scond.out.keep0 g)
  clear s0 s1 s2 s3 s4 s5 s6 s7 s8 s9
  clear g
  go_upto_region 8 with fail
  have KT := Lib.hid (fun (w' : World) (h : IsB w' b4 52 #[.string ⟨#[]⟩, .slice (some ⟨b1, 0, none⟩) 1 1, .slice none 0 0, .slice none 0 0, .slice none 0 0, .slice none 0 0, .slice none 0 0, .slice none 0 0, .slice none 0 0, .slice (some ⟨b3, 0, none⟩) 1 1]) => (⟨h.cell 0, h.cell 1, h.cell 2, h.cell 3, h.cell 4, h.cell 5, h.cell 6, h.cell 7, h.cell 8, h.cell 9, trivial⟩ : (fun w' : World => w'.cell? ⟨b4, 0, none⟩ = some (.string ⟨#[]⟩) ∧ w'.cell? ⟨b4, 1, none⟩ = some (.slice (some ⟨b1, 0, none⟩) 1 1) ∧ w'.cell? ⟨b4, 2, none⟩ = some (.slice none 0 0) ∧ w'.cell? ⟨b4, 3, none⟩ = some (.slice none 0 0) ∧ w'.cell? ⟨b4, 4, none⟩ = some (.slice none 0 0) ∧ w'.cell? ⟨b4, 5, none⟩ = some (.slice none 0 0) ∧ w'.cell? ⟨b4, 6, none⟩ = some (.slice none 0 0) ∧ w'.cell? ⟨b4, 7, none⟩ = some (.slice none 0 0) ∧ w'.cell? ⟨b4, 8, none⟩ = some (.slice none 0 0) ∧ w'.cell? ⟨b4, 9, none⟩ = some (.slice (some ⟨b3, 0, none⟩) 1 1) ∧ True) w'))
  refine wp_region_held_drew (S := (fun w' : World => w'.cell? ⟨b4, 0, none⟩ = some (.string ⟨#[]⟩) ∧ w'.cell? ⟨b4, 1, none⟩ = some (.slice (some ⟨b1, 0, none⟩) 1 1) ∧ w'.cell? ⟨b4, 2, none⟩ = some (.slice none 0 0) ∧ w'.cell? ⟨b4, 3, none⟩ = some (.slice none 0 0) ∧ w'.cell? ⟨b4, 4, none⟩ = some (.slice none 0 0) ∧ w'.cell? ⟨b4, 5, none⟩ = some (.slice none 0 0) ∧ w'.cell? ⟨b4, 6, none⟩ = some (.slice none 0 0) ∧ w'.cell? ⟨b4, 7, none⟩ = some (.slice none 0 0) ∧ w'.cell? ⟨b4, 8, none⟩ = some (.slice none 0 0) ∧ w'.cell? ⟨b4, 9, none⟩ = some (.slice (some ⟨b3, 0, none⟩) 1 1) ∧ True)) (by kernel_rfl) (KT.out _ (BS.out.keep0 (gb_drew _ none))) (fun hH0 => ?_)
  have g := gb_drew w14 none
  replace GZ := Lib.hid (gb_trans GZ.out g)
  replace BS := Lib.hid (BS.out.keep0 g)
  replace DD := Lib.hid (DD.out.keep0 g)
  replace Ssum := Lib.hid (Ssum.out.keep0 g)
  replace Scat := Lib.hid (Scat.out.keep0 g)
  replace Scond := Lib.hid (Scond.out.keep0 g)
  clear g
  refine wpAnyH_take (i := 0) (v := ?v1) rfl (by kernel_rfl) (by kernel_rfl) (by kernel_rfl) (fun _ _ _ h => h) (Or.inl ⟨by rfl, ?hy1⟩) (by assumption) ?rest1
  case hy1 => (intro wz hSw; (try dsimp only at hSw); first | (go_simp; done) | (go_simp; with_reducible rfl))
  try simp only [Act.put, List.getElem_toArray, List.getElem_cons_zero, List.setIfInBounds_toArray, List.set_cons_zero, List.set_cons_succ]
  refine wpAnyH_take (i := 2) (v := ?v2) rfl (by kernel_rfl) (by kernel_rfl) (by kernel_rfl) (fun _ _ _ h => h) (Or.inl ⟨by rfl, ?hy2⟩) (by assumption) ?rest2
  case hy2 => (intro wz hSw; (try dsimp only at hSw); first | (go_simp; done) | (go_simp; with_reducible rfl))
  try simp only [Act.put, List.getElem_toArray, List.getElem_cons_succ, List.getElem_cons_zero, List.setIfInBounds_toArray, List.set_cons_zero, List.set_cons_succ]
  refine wpAnyH_take (i := 4) (v := ?v3) rfl (by kernel_rfl) (by kernel_rfl) (by kernel_rfl) (fun _ _ _ h => h) (Or.inl ⟨by rfl, ?hy3⟩) (by assumption) ?rest3
  case hy3 => (intro wz hSw; (try dsimp only at hSw); first | (go_simp; done) | (go_simp; with_reducible rfl))
  try simp only [Act.put, List.getElem_toArray, List.getElem_cons_succ, List.getElem_cons_zero, List.setIfInBounds_toArray, List.set_cons_zero, List.set_cons_succ]
  refine wpAnyH_ready (rs := [1]) (by kernel_rfl) (by simp) ?_
  refine AllReadyH.cons (o := _) rfl (fun K hK => ?_) AllReadyH.nil
  go_simp
  refine (LC.out _ 1).mono ?_
  rintro e w15 ⟨rfl, g⟩
  try dsimp only
  replace GZ := Lib.hid (gb_trans GZ.out g)
  replace BS := Lib.hid (BS.out.keep0 g)
  replace DD := Lib.hid (DD.out.keep0 g)
  replace Ssum := Lib.hid (Ssum.out.keep0 g)
  replace Scat := Lib.hid (Scat.out.keep0 g)
  replace Scond := Lib.hid (Scond.out.keep0 g)
  clear g
  refine hK.out _ _ (KT.out _ BS.out) (fun hH1 => ?_)
  clear hK K hH0
  try simp only [Act.put, List.getElem_toArray, List.getElem_cons_succ, List.getElem_cons_zero, List.setIfInBounds_toArray, List.set_cons_zero, List.set_cons_succ]
  refine wpAnyH_ready (rs := [3]) (by kernel_rfl) (by simp) ?_
  refine AllReadyH.cons (o := _) rfl (fun K hK => ?_) AllReadyH.nil
  go_simp
  try dsimp only
  obtain ⟨w16, hw16⟩ : ∃ x, x = w15.alloc (.cells #[.int .i64 9, .int .i64 0, .int .i64 0, .int .i64 1, .int .i64 1, .int .i64 8, .int .i64 3, .int .i64 0, .int .i64 0] 61) := ⟨_, rfl⟩
  obtain ⟨pmix, hpmix⟩ : ∃ p, p = w15.heap.size := ⟨_, rfl⟩
  have Smix := Lib.hid (show SN w16 (some ⟨pmix, 0, none⟩) 3 3 nMix from by
    rw [hw16, hpmix]
    exact sn_new _ nMix _ _ (IsB.new _ _ _) (by intro j hj; have hj : j < 3 := hj; rcases (show j = 0 ∨ j = 1 ∨ j = 2 by omega) with rfl | rfl | rfl <;> exact ⟨rfl, rfl, rfl⟩) (by intro x hx; revert x; unfold nMix; decide) _ rfl)
  have g := gb_alloc w15 (.cells #[.int .i64 9, .int .i64 0, .int .i64 0, .int .i64 1, .int .i64 1, .int .i64 8, .int .i64 3, .int .i64 0, .int .i64 0] 61) none
  rw [← hw16] at g
  replace GZ := Lib.hid (gb_trans GZ.out g)
  replace BS := Lib.hid (BS.out.keep0 g)
  replace DD := Lib.hid (DD.out.keep0 g)
  replace Ssum := Lib.hid (Ssum.out.keep0 g)
  replace Scat := Lib.hid (Scat.out.keep0 g)
  replace Scond := Lib.hid (Scond.out.keep0 g)
  clear g
  rw [← hpmix, ← hw16]
  clear hw16 hpmix
  refine hK.out _ _ (KT.out _ BS.out) (fun hH2 => ?_)
  clear hK K hH1
  try simp only [Act.put, List.getElem_toArray, List.getElem_cons_succ, List.getElem_cons_zero, List.setIfInBounds_toArray, List.set_cons_zero, List.set_cons_succ]
  refine wpAnyH_ready (rs := [5]) (by kernel_rfl) (by simp) ?_
  refine AllReadyH.cons (o := _) rfl (fun K hK => ?_) AllReadyH.nil
  go_simp
  refine (aCheck DD.out Smix.out 0 10 v3).mono ?_
  rintro e w17 ⟨rfl, g⟩
  try dsimp only
  replace GZ := Lib.hid (gb_trans GZ.out g)
  replace BS := Lib.hid (BS.out.keep0 g)
  replace DD := Lib.hid (DD.out.keep0 g)
  replace Ssum := Lib.hid (Ssum.out.keep0 g)
  replace Scat := Lib.hid (Scat.out.keep0 g)
  replace Scond := Lib.hid (Scond.out.keep0 g)
  replace Smix := Lib.hid (Smix.out.keep0 g)
  clear g
  refine hK.out _ _ (KT.out _ BS.out) (fun hH3 => ?_)
  clear hK K hH2
  try simp only [Act.put, List.getElem_toArray, List.getElem_cons_succ, List.getElem_cons_zero, List.setIfInBounds_toArray, List.set_cons_zero, List.set_cons_succ]
  refine wpAnyH_take (i := 6) (v := ?v4) rfl (by kernel_rfl) (by kernel_rfl) (by kernel_rfl) (fun _ _ _ h => h) (Or.inl ⟨by rfl, ?hy4⟩) (by assumption) ?rest4
  case hy4 => (intro wz hSw; (try dsimp only at hSw); first | (go_simp; done) | (go_simp; with_reducible rfl))
  try simp only [Act.put, List.getElem_toArray, List.getElem_cons_succ, List.getElem_cons_zero, List.setIfInBounds_toArray, List.set_cons_zero, List.set_cons_succ]
  refine wpAnyH_take (i := 7) (v := ?v5) rfl (by kernel_rfl) (by kernel_rfl) (by kernel_rfl) (fun _ _ _ h => h) (Or.inl ⟨by rfl, ?hy5⟩) (by assumption) ?rest5
  case hy5 => (intro wz hSw; (try dsimp only at hSw); first | (go_simp; done) | (go_simp; with_reducible rfl))
  try simp only [Act.put, List.getElem_toArray, List.getElem_cons_succ, List.getElem_cons_zero, List.setIfInBounds_toArray, List.set_cons_zero, List.set_cons_succ]
  refine wpAnyH_take (i := 8) (v := ?v6) rfl (by kernel_rfl) (by kernel_rfl) (by kernel_rfl) (fun _ _ _ h => h) (Or.inl ⟨by rfl, ?hy6⟩) (by assumption) ?rest6
  case hy6 => (intro wz hSw; (try dsimp only at hSw); first | (go_simp; done) | (go_simp; with_reducible rfl))
  try simp only [Act.put, List.getElem_toArray, List.getElem_cons_succ, List.getElem_cons_zero, List.setIfInBounds_toArray, List.set_cons_zero, List.set_cons_succ]
  refine wpAnyH_take (i := 9) (v := ?v7) rfl (by kernel_rfl) (by kernel_rfl) (by kernel_rfl) (fun _ _ _ h => h) (Or.inl ⟨by rfl, ?hy7⟩) (by assumption) ?rest7
  case hy7 => (intro wz hSw; (try dsimp only at hSw); first | (go_simp; done) | (go_simp; with_reducible rfl))
  try simp only [Act.put, List.getElem_toArray, List.getElem_cons_succ, List.getElem_cons_zero, List.setIfInBounds_toArray, List.set_cons_zero, List.set_cons_succ]
  refine wpAnyH_take (i := 10) (v := ?v8) rfl (by kernel_rfl) (by kernel_rfl) (by kernel_rfl) (fun _ _ _ h => h) (Or.inl ⟨by rfl, ?hy8⟩) (by assumption) ?rest8
  case hy8 => (intro wz hSw; (try dsimp only at hSw); first | (go_simp; done) | (go_simp; with_reducible rfl))
  try simp only [Act.put, List.getElem_toArray, List.getElem_cons_succ, List.getElem_cons_zero, List.setIfInBounds_toArray, List.set_cons_zero, List.set_cons_succ]
  refine wpAnyH_done (by kernel_rfl) ?_ _
  clear hH3 KT
  clear Smix
  go_upto_region 9 with fail
  have KT := Lib.hid (fun (w' : World) (h : IsB w' b4 52 #[.string ⟨#[]⟩, .slice (some ⟨b1, 0, none⟩) 1 1, .slice none 0 0, .slice none 0 0, .slice none 0 0, .slice none 0 0, .slice none 0 0, .slice none 0 0, .slice none 0 0, .slice (some ⟨b3, 0, none⟩) 1 1]) => (⟨h.cell 0, h.cell 1, h.cell 2, h.cell 3, h.cell 4, h.cell 5, h.cell 6, h.cell 7, h.cell 8, h.cell 9, trivial⟩ : (fun w' : World => w'.cell? ⟨b4, 0, none⟩ = some (.string ⟨#[]⟩) ∧ w'.cell? ⟨b4, 1, none⟩ = some (.slice (some ⟨b1, 0, none⟩) 1 1) ∧ w'.cell? ⟨b4, 2, none⟩ = some (.slice none 0 0) ∧ w'.cell? ⟨b4, 3, none⟩ = some (.slice none 0 0) ∧ w'.cell? ⟨b4, 4, none⟩ = some (.slice none 0 0) ∧ w'.cell? ⟨b4, 5, none⟩ = some (.slice none 0 0) ∧ w'.cell? ⟨b4, 6, none⟩ = some (.slice none 0 0) ∧ w'.cell? ⟨b4, 7, none⟩ = some (.slice none 0 0) ∧ w'.cell? ⟨b4, 8, none⟩ = some (.slice none 0 0) ∧ w'.cell? ⟨b4, 9, none⟩ = some (.slice (some ⟨b3, 0, none⟩) 1 1) ∧ True) w'))
  refine wp_region_held_drew (S := (fun w' : World => w'.cell? ⟨b4, 0, none⟩ = some (.string ⟨#[]⟩) ∧ w'.cell? ⟨b4, 1, none⟩ = some (.slice (some ⟨b1, 0, none⟩) 1 1) ∧ w'.cell? ⟨b4, 2, none⟩ = some (.slice none 0 0) ∧ w'.cell? ⟨b4, 3, none⟩ = some (.slice none 0 0) ∧ w'.cell? ⟨b4, 4, none⟩ = some (.slice none 0 0) ∧ w'.cell? ⟨b4, 5, none⟩ = some (.slice none 0 0) ∧ w'.cell? ⟨b4, 6, none⟩ = some (.slice none 0 0) ∧ w'.cell? ⟨b4, 7, none⟩ = some (.slice none 0 0) ∧ w'.cell? ⟨b4, 8, none⟩ = some (.slice none 0 0) ∧ w'.cell? ⟨b4, 9, none⟩ = some (.slice (some ⟨b3, 0, none⟩) 1 1) ∧ True)) (by kernel_rfl) (KT.out _ (BS.out.keep0 (gb_drew _ none))) (fun hH0 => ?_)
  have g := gb_drew w17 none
  replace GZ := Lib.hid (gb_trans GZ.out g)
  replace BS := Lib.hid (BS.out.keep0 g)
  replace DD := Lib.hid (DD.out.keep0 g)
  replace Ssum := Lib.hid (Ssum.out.keep0 g)
  replace Scat := Lib.hid (Scat.out.keep0 g)
  replace Scond := Lib.hid (Scond.out.keep0 g)
  clear g
  refine wpAnyH_take (i := 0) (v := ?v9) rfl (by kernel_rfl) (by kernel_rfl) (by kernel_rfl) (fun _ _ _ h => h) (Or.inl ⟨by rfl, ?hy9⟩) (by assumption) ?rest9
  case hy9 => (intro wz hSw; (try dsimp only at hSw); first | (go_simp; done) | (go_simp; with_reducible rfl))
  try simp only [Act.put, List.getElem_toArray, List.getElem_cons_zero, List.setIfInBounds_toArray, List.set_cons_zero, List.set_cons_succ]
  refine wpAnyH_take (i := 1) (v := ?v10) rfl (by kernel_rfl) (by kernel_rfl) (by kernel_rfl) (fun _ _ _ h => h) (Or.inl ⟨by rfl, ?hy10⟩) (by assumption) ?rest10
  case hy10 => (intro wz hSw; (try dsimp only at hSw); first | (go_simp; done) | (go_simp; with_reducible rfl))
  try simp only [Act.put, List.getElem_toArray, List.getElem_cons_succ, List.getElem_cons_zero, List.setIfInBounds_toArray, List.set_cons_zero, List.set_cons_succ]
  refine wpAnyH_take (i := 2) (v := ?v11) rfl (by kernel_rfl) (by kernel_rfl) (by kernel_rfl) (fun _ _ _ h => h) (Or.inl ⟨by rfl, ?hy11⟩) (by assumption) ?rest11
  case hy11 => (intro wz hSw; (try dsimp only at hSw); first | (go_simp; done) | (go_simp; with_reducible rfl))
  try simp only [Act.put, List.getElem_toArray, List.getElem_cons_succ, List.getElem_cons_zero, List.setIfInBounds_toArray, List.set_cons_zero, List.set_cons_succ]
  refine wpAnyH_ready (rs := [3]) (by kernel_rfl) (by simp) ?_
  refine AllReadyH.cons (o := _) rfl (fun K hK => ?_) AllReadyH.nil
  go_simp
  refine (aCheck DD.out (sn_pre Ssum.out 2 (by decide)) 0 3 v4).mono ?_
  rintro e w18 ⟨rfl, g⟩
  try dsimp only
  replace GZ := Lib.hid (gb_trans GZ.out g)
  replace BS := Lib.hid (BS.out.keep0 g)
  replace DD := Lib.hid (DD.out.keep0 g)
  replace Ssum := Lib.hid (Ssum.out.keep0 g)
  replace Scat := Lib.hid (Scat.out.keep0 g)
  replace Scond := Lib.hid (Scond.out.keep0 g)
  clear g
  refine hK.out _ _ (KT.out _ BS.out) (fun hH1 => ?_)
  clear hK K hH0
  try simp only [Act.put, List.getElem_toArray, List.getElem_cons_succ, List.getElem_cons_zero, List.setIfInBounds_toArray, List.set_cons_zero, List.set_cons_succ]
  refine wpAnyH_take (i := 4) (v := ?v12) rfl (by kernel_rfl) (by kernel_rfl) (by kernel_rfl) (fun _ _ _ h => h) (Or.inl ⟨by rfl, ?hy12⟩) (by assumption) ?rest12
  case hy12 => (intro wz hSw; (try dsimp only at hSw); first | (go_simp; done) | (go_simp; with_reducible rfl))
  try simp only [Act.put, List.getElem_toArray, List.getElem_cons_succ, List.getElem_cons_zero, List.setIfInBounds_toArray, List.set_cons_zero, List.set_cons_succ]
  refine wpAnyH_take (i := 5) (v := ?v13) rfl (by kernel_rfl) (by kernel_rfl) (by kernel_rfl) (fun _ _ _ h => h) (Or.inl ⟨by rfl, ?hy13⟩) (by assumption) ?rest13
  case hy13 => (intro wz hSw; (try dsimp only at hSw); first | (go_simp; done) | (go_simp; with_reducible rfl))
  try simp only [Act.put, List.getElem_toArray, List.getElem_cons_succ, List.getElem_cons_zero, List.setIfInBounds_toArray, List.set_cons_zero, List.set_cons_succ]
  refine wpAnyH_take (i := 6) (v := ?v14) rfl (by kernel_rfl) (by kernel_rfl) (by kernel_rfl) (fun _ _ _ h => h) (Or.inl ⟨by rfl, ?hy14⟩) (by assumption) ?rest14
  case hy14 => (intro wz hSw; (try dsimp only at hSw); first | (go_simp; done) | (go_simp; with_reducible rfl))
  try simp only [Act.put, List.getElem_toArray, List.getElem_cons_succ, List.getElem_cons_zero, List.setIfInBounds_toArray, List.set_cons_zero, List.set_cons_succ]
  refine wpAnyH_take (i := 7) (v := ?v15) rfl (by kernel_rfl) (by kernel_rfl) (by kernel_rfl) (fun _ _ _ h => h) (Or.inl ⟨by rfl, ?hy15⟩) (by assumption) ?rest15
  case hy15 => (intro wz hSw; (try dsimp only at hSw); first | (go_simp; done) | (go_simp; with_reducible rfl))
  try simp only [Act.put, List.getElem_toArray, List.getElem_cons_succ, List.getElem_cons_zero, List.setIfInBounds_toArray, List.set_cons_zero, List.set_cons_succ]
  refine wpAnyH_take (i := 8) (v := ?v16) rfl (by kernel_rfl) (by kernel_rfl) (by kernel_rfl) (fun _ _ _ h => h) (Or.inl ⟨by rfl, ?hy16⟩) (by assumption) ?rest16
  case hy16 => (intro wz hSw; (try dsimp only at hSw); first | (go_simp; done) | (go_simp; with_reducible rfl))
  try simp only [Act.put, List.getElem_toArray, List.getElem_cons_succ, List.getElem_cons_zero, List.setIfInBounds_toArray, List.set_cons_zero, List.set_cons_succ]
  refine wpAnyH_done (by kernel_rfl) ?_ _
  clear hH1 KT
  go_upto_region 10 with fail
  have KT := Lib.hid (fun (w' : World) (h : IsB w' b4 52 #[.string ⟨#[]⟩, .slice (some ⟨b1, 0, none⟩) 1 1, .slice none 0 0, .slice none 0 0, .slice none 0 0, .slice none 0 0, .slice none 0 0, .slice none 0 0, .slice none 0 0, .slice (some ⟨b3, 0, none⟩) 1 1]) => (⟨h.cell 0, h.cell 1, h.cell 2, h.cell 3, h.cell 4, h.cell 5, h.cell 6, h.cell 7, h.cell 8, h.cell 9, trivial⟩ : (fun w' : World => w'.cell? ⟨b4, 0, none⟩ = some (.string ⟨#[]⟩) ∧ w'.cell? ⟨b4, 1, none⟩ = some (.slice (some ⟨b1, 0, none⟩) 1 1) ∧ w'.cell? ⟨b4, 2, none⟩ = some (.slice none 0 0) ∧ w'.cell? ⟨b4, 3, none⟩ = some (.slice none 0 0) ∧ w'.cell? ⟨b4, 4, none⟩ = some (.slice none 0 0) ∧ w'.cell? ⟨b4, 5, none⟩ = some (.slice none 0 0) ∧ w'.cell? ⟨b4, 6, none⟩ = some (.slice none 0 0) ∧ w'.cell? ⟨b4, 7, none⟩ = some (.slice none 0 0) ∧ w'.cell? ⟨b4, 8, none⟩ = some (.slice none 0 0) ∧ w'.cell? ⟨b4, 9, none⟩ = some (.slice (some ⟨b3, 0, none⟩) 1 1) ∧ True) w'))
  refine wp_region_held_drew (S := (fun w' : World => w'.cell? ⟨b4, 0, none⟩ = some (.string ⟨#[]⟩) ∧ w'.cell? ⟨b4, 1, none⟩ = some (.slice (some ⟨b1, 0, none⟩) 1 1) ∧ w'.cell? ⟨b4, 2, none⟩ = some (.slice none 0 0) ∧ w'.cell? ⟨b4, 3, none⟩ = some (.slice none 0 0) ∧ w'.cell? ⟨b4, 4, none⟩ = some (.slice none 0 0) ∧ w'.cell? ⟨b4, 5, none⟩ = some (.slice none 0 0) ∧ w'.cell? ⟨b4, 6, none⟩ = some (.slice none 0 0) ∧ w'.cell? ⟨b4, 7, none⟩ = some (.slice none 0 0) ∧ w'.cell? ⟨b4, 8, none⟩ = some (.slice none 0 0) ∧ w'.cell? ⟨b4, 9, none⟩ = some (.slice (some ⟨b3, 0, none⟩) 1 1) ∧ True)) (by kernel_rfl) (KT.out _ (BS.out.keep0 (gb_drew _ none))) (fun hH0 => ?_)
  have g := gb_drew w18 none
  replace GZ := Lib.hid (gb_trans GZ.out g)
  replace BS := Lib.hid (BS.out.keep0 g)
  replace DD := Lib.hid (DD.out.keep0 g)
  replace Ssum := Lib.hid (Ssum.out.keep0 g)
  replace Scat := Lib.hid (Scat.out.keep0 g)
  replace Scond := Lib.hid (Scond.out.keep0 g)
  clear g
  refine wpAnyH_take (i := 3) (v := ?v17) rfl (by kernel_rfl) (by kernel_rfl) (by kernel_rfl) (fun _ _ _ h => h) (Or.inl ⟨by rfl, ?hy17⟩) (by assumption) ?rest17
  case hy17 => (intro wz hSw; (try dsimp only at hSw); first | (go_simp; done) | (go_simp; with_reducible rfl))
  try simp only [Act.put, List.getElem_toArray, List.getElem_cons_succ, List.getElem_cons_zero, List.setIfInBounds_toArray, List.set_cons_zero, List.set_cons_succ]
  refine wpAnyH_ready (rs := [0]) (by kernel_rfl) (by simp) ?_
  refine AllReadyH.cons (o := _) rfl (fun K hK => ?_) AllReadyH.nil
  go_simp
  refine (LC.out _ 1).mono ?_
  rintro e w19 ⟨rfl, g⟩
  try dsimp only
  replace GZ := Lib.hid (gb_trans GZ.out g)
  replace BS := Lib.hid (BS.out.keep0 g)
  replace DD := Lib.hid (DD.out.keep0 g)
  replace Ssum := Lib.hid (Ssum.out.keep0 g)
  replace Scat := Lib.hid (Scat.out.keep0 g)
  replace Scond := Lib.hid (Scond.out.keep0 g)
  clear g
  refine hK.out _ _ (KT.out _ BS.out) (fun hH1 => ?_)
  clear hK K hH0
  try simp only [Act.put, List.getElem_toArray, List.getElem_cons_succ, List.getElem_cons_zero, List.setIfInBounds_toArray, List.set_cons_zero, List.set_cons_succ]
  refine wpAnyH_ready (rs := [1]) (by kernel_rfl) (by simp) ?_
  refine AllReadyH.cons (o := _) rfl (fun K hK => ?_) AllReadyH.nil
  go_simp
  refine (LC.out _ 1).mono ?_
  rintro e w20 ⟨rfl, g⟩
  try dsimp only
  replace GZ := Lib.hid (gb_trans GZ.out g)
  replace BS := Lib.hid (BS.out.keep0 g)
  replace DD := Lib.hid (DD.out.keep0 g)
  replace Ssum := Lib.hid (Ssum.out.keep0 g)
  replace Scat := Lib.hid (Scat.out.keep0 g)
  replace Scond := Lib.hid (Scond.out.keep0 g)
  clear g
  refine hK.out _ _ (KT.out _ BS.out) (fun hH2 => ?_)
  clear hK K hH1
  try simp only [Act.put, List.getElem_toArray, List.getElem_cons_succ, List.getElem_cons_zero, List.setIfInBounds_toArray, List.set_cons_zero, List.set_cons_succ]
  refine wpAnyH_ready (rs := [2]) (by kernel_rfl) (by simp) ?_
  refine AllReadyH.cons (o := _) rfl (fun K hK => ?_) AllReadyH.nil
  go_simp
  try dsimp only
  obtain ⟨w21, hw21⟩ : ∃ x, x = w20.alloc (.cells #[.int .i64 1, .int .i64 1, .int .i64 8, .int .i64 1, .int .i64 1, .int .i64 8] 61) := ⟨_, rfl⟩
  obtain ⟨ptwo, hptwo⟩ : ∃ p, p = w20.heap.size := ⟨_, rfl⟩
  have Stwo := Lib.hid (show SN w21 (some ⟨ptwo, 0, none⟩) 2 2 nTwo from by
    rw [hw21, hptwo]
    exact sn_new _ nTwo _ _ (IsB.new _ _ _) (by intro j hj; have hj : j < 2 := hj; rcases (show j = 0 ∨ j = 1 by omega) with rfl | rfl <;> exact ⟨rfl, rfl, rfl⟩) (by intro x hx; revert x; unfold nTwo; decide) _ rfl)
  have g := gb_alloc w20 (.cells #[.int .i64 1, .int .i64 1, .int .i64 8, .int .i64 1, .int .i64 1, .int .i64 8] 61) none
  rw [← hw21] at g
  replace GZ := Lib.hid (gb_trans GZ.out g)
  replace BS := Lib.hid (BS.out.keep0 g)
  replace DD := Lib.hid (DD.out.keep0 g)
  replace Ssum := Lib.hid (Ssum.out.keep0 g)
  replace Scat := Lib.hid (Scat.out.keep0 g)
  replace Scond := Lib.hid (Scond.out.keep0 g)
  clear g
  rw [← hptwo, ← hw21]
  clear hw21 hptwo
  refine hK.out _ _ (KT.out _ BS.out) (fun hH3 => ?_)
  clear hK K hH2
  try simp only [Act.put, List.getElem_toArray, List.getElem_cons_succ, List.getElem_cons_zero, List.setIfInBounds_toArray, List.set_cons_zero, List.set_cons_succ]
  refine wpAnyH_ready (rs := [4]) (by kernel_rfl) (by simp) ?_
  refine AllReadyH.cons (o := _) rfl (fun K hK => ?_) AllReadyH.nil
  go_simp
  refine (aCheck DD.out Stwo.out 0 4 v5).mono ?_
  rintro e w22 ⟨rfl, g⟩
  try dsimp only
  replace GZ := Lib.hid (gb_trans GZ.out g)
  replace BS := Lib.hid (BS.out.keep0 g)
  replace DD := Lib.hid (DD.out.keep0 g)
  replace Ssum := Lib.hid (Ssum.out.keep0 g)
  replace Scat := Lib.hid (Scat.out.keep0 g)
  replace Scond := Lib.hid (Scond.out.keep0 g)
  replace Stwo := Lib.hid (Stwo.out.keep0 g)
  clear g
  refine hK.out _ _ (KT.out _ BS.out) (fun hH4 => ?_)
  clear hK K hH3
  try simp only [Act.put, List.getElem_toArray, List.getElem_cons_succ, List.getElem_cons_zero, List.setIfInBounds_toArray, List.set_cons_zero, List.set_cons_succ]
  refine wpAnyH_take (i := 5) (v := ?v18) rfl (by kernel_rfl) (by kernel_rfl) (by kernel_rfl) (fun _ _ _ h => h) (Or.inl ⟨by rfl, ?hy18⟩) (by assumption) ?rest18
  case hy18 => (intro wz hSw; (try dsimp only at hSw); first | (go_simp; done) | (go_simp; with_reducible rfl))
  try simp only [Act.put, List.getElem_toArray, List.getElem_cons_succ, List.getElem_cons_zero, List.setIfInBounds_toArray, List.set_cons_zero, List.set_cons_succ]
  refine wpAnyH_take (i := 6) (v := ?v19) rfl (by kernel_rfl) (by kernel_rfl) (by kernel_rfl) (fun _ _ _ h => h) (Or.inl ⟨by rfl, ?hy19⟩) (by assumption) ?rest19
  case hy19 => (intro wz hSw; (try dsimp only at hSw); first | (go_simp; done) | (go_simp; with_reducible rfl))
  try simp only [Act.put, List.getElem_toArray, List.getElem_cons_succ, List.getElem_cons_zero, List.setIfInBounds_toArray, List.set_cons_zero, List.set_cons_succ]
  refine wpAnyH_take (i := 7) (v := ?v20) rfl (by kernel_rfl) (by kernel_rfl) (by kernel_rfl) (fun _ _ _ h => h) (Or.inl ⟨by rfl, ?hy20⟩) (by assumption) ?rest20
  case hy20 => (intro wz hSw; (try dsimp only at hSw); first | (go_simp; done) | (go_simp; with_reducible rfl))
  try simp only [Act.put, List.getElem_toArray, List.getElem_cons_succ, List.getElem_cons_zero, List.setIfInBounds_toArray, List.set_cons_zero, List.set_cons_succ]
  refine wpAnyH_take (i := 8) (v := ?v21) rfl (by kernel_rfl) (by kernel_rfl) (by kernel_rfl) (fun _ _ _ h => h) (Or.inl ⟨by rfl, ?hy21⟩) (by assumption) ?rest21
  case hy21 => (intro wz hSw; (try dsimp only at hSw); first | (go_simp; done) | (go_simp; with_reducible rfl))
  try simp only [Act.put, List.getElem_toArray, List.getElem_cons_succ, List.getElem_cons_zero, List.setIfInBounds_toArray, List.set_cons_zero, List.set_cons_succ]
  refine wpAnyH_take (i := 9) (v := ?v22) rfl (by kernel_rfl) (by kernel_rfl) (by kernel_rfl) (fun _ _ _ h => h) (Or.inl ⟨by rfl, ?hy22⟩) (by assumption) ?rest22
  case hy22 => (intro wz hSw; (try dsimp only at hSw); first | (go_simp; done) | (go_simp; with_reducible rfl))
  try simp only [Act.put, List.getElem_toArray, List.getElem_cons_succ, List.getElem_cons_zero, List.setIfInBounds_toArray, List.set_cons_zero, List.set_cons_succ]
  refine wpAnyH_done (by kernel_rfl) ?_ _
  clear hH4 KT
  clear Stwo
  obtain ⟨u0, hu0⟩ : ∃ u, u = w22.heap.size := ⟨_, rfl⟩
  obtain ⟨u1, hu1⟩ : ∃ u, u = u0 + 1 := ⟨_, rfl⟩
  obtain ⟨u2, hu2⟩ : ∃ u, u = u0 + 1 + 1 := ⟨_, rfl⟩
  obtain ⟨u3, hu3⟩ : ∃ u, u = u0 + 1 + 1 + 1 := ⟨_, rfl⟩
  obtain ⟨u4, hu4⟩ : ∃ u, u = u0 + 1 + 1 + 1 + 1 := ⟨_, rfl⟩
  obtain ⟨u5, hu5⟩ : ∃ u, u = u0 + 1 + 1 + 1 + 1 + 1 := ⟨_, rfl⟩
  obtain ⟨u6, hu6⟩ : ∃ u, u = u0 + 1 + 1 + 1 + 1 + 1 + 1 := ⟨_, rfl⟩
  obtain ⟨u7, hu7⟩ : ∃ u, u = u0 + 1 + 1 + 1 + 1 + 1 + 1 + 1 := ⟨_, rfl⟩
  obtain ⟨w23, hW⟩ : ∃ x, x = ((((((((w22.alloc (.cells #[.bool true] 4)).alloc (.cells #[.int .u32 33] 45)).alloc (.cells #[.slice (some ⟨u1, 0, none⟩) 1 1] 35)).alloc (.cells #[.slice (some ⟨u0, 0, none⟩) 1 1, .slice (some ⟨u2, 0, none⟩) 1 1, .slice none 0 0, .slice none 0 0] 38)).alloc (.cells #[.bool false] 4)).alloc (.cells #[.int .u32 0] 45)).alloc (.cells #[.slice (some ⟨u5, 0, none⟩) 1 1] 35)).alloc (.cells #[.slice (some ⟨u4, 0, none⟩) 1 1, .slice (some ⟨u6, 0, none⟩) 1 1, .slice none 0 0, .slice none 0 0] 38)) := ⟨_, rfl⟩
  have j0 := IsB.new w22 4 #[.bool true]
  rw [← hu0] at j0
  have j1 := IsB.new (w22.alloc (.cells #[.bool true] 4)) 45 #[.int .u32 33]
  rw [sz_al, ← hu0, ← hu1] at j1
  have j2 := IsB.new ((w22.alloc (.cells #[.bool true] 4)).alloc (.cells #[.int .u32 33] 45)) 35 #[.slice (some ⟨u1, 0, none⟩) 1 1]
  rw [sz_al, sz_al, ← hu0, ← hu2] at j2
  have j3 := IsB.new (((w22.alloc (.cells #[.bool true] 4)).alloc (.cells #[.int .u32 33] 45)).alloc (.cells #[.slice (some ⟨u1, 0, none⟩) 1 1] 35)) 38 #[.slice (some ⟨u0, 0, none⟩) 1 1, .slice (some ⟨u2, 0, none⟩) 1 1, .slice none 0 0, .slice none 0 0]
  rw [sz_al, sz_al, sz_al, ← hu0, ← hu3] at j3
  have j4 := IsB.new ((((w22.alloc (.cells #[.bool true] 4)).alloc (.cells #[.int .u32 33] 45)).alloc (.cells #[.slice (some ⟨u1, 0, none⟩) 1 1] 35)).alloc (.cells #[.slice (some ⟨u0, 0, none⟩) 1 1, .slice (some ⟨u2, 0, none⟩) 1 1, .slice none 0 0, .slice none 0 0] 38)) 4 #[.bool false]
  rw [sz_al, sz_al, sz_al, sz_al, ← hu0, ← hu4] at j4
  have j5 := IsB.new (((((w22.alloc (.cells #[.bool true] 4)).alloc (.cells #[.int .u32 33] 45)).alloc (.cells #[.slice (some ⟨u1, 0, none⟩) 1 1] 35)).alloc (.cells #[.slice (some ⟨u0, 0, none⟩) 1 1, .slice (some ⟨u2, 0, none⟩) 1 1, .slice none 0 0, .slice none 0 0] 38)).alloc (.cells #[.bool false] 4)) 45 #[.int .u32 0]
  rw [sz_al, sz_al, sz_al, sz_al, sz_al, ← hu0, ← hu5] at j5
  have j6 := IsB.new ((((((w22.alloc (.cells #[.bool true] 4)).alloc (.cells #[.int .u32 33] 45)).alloc (.cells #[.slice (some ⟨u1, 0, none⟩) 1 1] 35)).alloc (.cells #[.slice (some ⟨u0, 0, none⟩) 1 1, .slice (some ⟨u2, 0, none⟩) 1 1, .slice none 0 0, .slice none 0 0] 38)).alloc (.cells #[.bool false] 4)).alloc (.cells #[.int .u32 0] 45)) 35 #[.slice (some ⟨u5, 0, none⟩) 1 1]
  rw [sz_al, sz_al, sz_al, sz_al, sz_al, sz_al, ← hu0, ← hu6] at j6
  have j7 := IsB.new (((((((w22.alloc (.cells #[.bool true] 4)).alloc (.cells #[.int .u32 33] 45)).alloc (.cells #[.slice (some ⟨u1, 0, none⟩) 1 1] 35)).alloc (.cells #[.slice (some ⟨u0, 0, none⟩) 1 1, .slice (some ⟨u2, 0, none⟩) 1 1, .slice none 0 0, .slice none 0 0] 38)).alloc (.cells #[.bool false] 4)).alloc (.cells #[.int .u32 0] 45)).alloc (.cells #[.slice (some ⟨u5, 0, none⟩) 1 1] 35)) 38 #[.slice (some ⟨u4, 0, none⟩) 1 1, .slice (some ⟨u6, 0, none⟩) 1 1, .slice none 0 0, .slice none 0 0]
  rw [sz_al, sz_al, sz_al, sz_al, sz_al, sz_al, sz_al, ← hu0, ← hu7] at j7
  have g : w22.grownBy w23 none := by rw [hW]; exact gb_al (gb_al (gb_al (gb_al (gb_al (gb_al (gb_al (gb_al (gb_refl _ _))))))))
  replace GZ := Lib.hid (gb_trans GZ.out g)
  replace BS := Lib.hid (BS.out.keep0 g)
  replace DD := Lib.hid (DD.out.keep0 g)
  replace Ssum := Lib.hid (Ssum.out.keep0 g)
  replace Scat := Lib.hid (Scat.out.keep0 g)
  replace Scond := Lib.hid (Scond.out.keep0 g)
  clear g
  have BE1 := Lib.hid (show IsB w23 u3 38 #[.slice (some ⟨u0, 0, none⟩) 1 1, .slice (some ⟨u2, 0, none⟩) 1 1, .slice none 0 0, .slice none 0 0] from by rw [hW]; exact ((((j3.alloc _).alloc _).alloc _).alloc _))
  have BE2 := Lib.hid (show IsB w23 u7 38 #[.slice (some ⟨u4, 0, none⟩) 1 1, .slice (some ⟨u6, 0, none⟩) 1 1, .slice none 0 0, .slice none 0 0] from by rw [hW]; exact j7)
  have EV1 := Lib.hid (show SB w23 (some ⟨u0, 0, none⟩) 1 1 [true] from by rw [hW]; exact sb_one _ _ _ _ ((((((((j0.alloc _).alloc _).alloc _).alloc _).alloc _).alloc _).alloc _)))
  have EV2 := Lib.hid (show SB w23 (some ⟨u4, 0, none⟩) 1 1 [false] from by rw [hW]; exact sb_one _ _ _ _ ((((j4.alloc _).alloc _).alloc _)))
  have EF1 := Lib.hid (show SR w23 (some ⟨u2, 0, none⟩) 1 1 [[33]] from by rw [hW]; exact sr_one _ _ u1 _ _ ((((((j2.alloc _).alloc _).alloc _).alloc _).alloc _)) (su_one _ _ _ _ (((((((j1.alloc _).alloc _).alloc _).alloc _).alloc _).alloc _)) (by decide)))
  have EF2 := Lib.hid (show SR w23 (some ⟨u6, 0, none⟩) 1 1 [[0]] from by rw [hW]; exact sr_one _ _ u5 _ _ ((j6.alloc _)) (su_one _ _ _ _ (((j5.alloc _).alloc _)) (by decide)))
  clear j0 j1 j2 j3 j4 j5 j6 j7
  go_upto_region 13 with fail
  rw [← hu0, ← hu7, ← hu6, ← hu5, ← hu4, ← hu3, ← hu2, ← hu1, ← hW]
  clear hW hu0 hu1 hu2 hu3 hu4 hu5 hu6 hu7
  have s0 : w23.cell? ⟨b4, 0, none⟩ = some (.string ⟨#[]⟩) := BS.out.cell 0
  have s1 : w23.cell? ⟨b4, 1, none⟩ = some (.slice (some ⟨b1, 0, none⟩) 1 1) := BS.out.cell 1
  have s2 : w23.cell? ⟨b4, 2, none⟩ = some (.slice none 0 0) := BS.out.cell 2
  have s3 : w23.cell? ⟨b4, 3, none⟩ = some (.slice none 0 0) := BS.out.cell 3
  have s4 : w23.cell? ⟨b4, 4, none⟩ = some (.slice none 0 0) := BS.out.cell 4
  have s5 : w23.cell? ⟨b4, 5, none⟩ = some (.slice none 0 0) := BS.out.cell 5
  have s6 : w23.cell? ⟨b4, 6, none⟩ = some (.slice none 0 0) := BS.out.cell 6
  have s7 : w23.cell? ⟨b4, 7, none⟩ = some (.slice none 0 0) := BS.out.cell 7
  have s8 : w23.cell? ⟨b4, 8, none⟩ = some (.slice none 0 0) := BS.out.cell 8
  have s9 : w23.cell? ⟨b4, 9, none⟩ = some (.slice (some ⟨b3, 0, none⟩) 1 1) := BS.out.cell 9
  have e0 : w23.cell? ⟨u3, 0, none⟩ = some (.slice (some ⟨u0, 0, none⟩) 1 1) := BE1.out.cell 0
  have e1 : w23.cell? ⟨u3, 1, none⟩ = some (.slice (some ⟨u2, 0, none⟩) 1 1) := BE1.out.cell 1
  have e2 : w23.cell? ⟨u3, 2, none⟩ = some (.slice none 0 0) := BE1.out.cell 2
  have e3 : w23.cell? ⟨u3, 3, none⟩ = some (.slice none 0 0) := BE1.out.cell 3
  go_wp2_with fail
  refine (aEval DD.out Ssum.out EV1.out EF1.out 4 v6).mono ?_
  rintro e w24 ⟨rfl, g⟩
  replace GZ := Lib.hid (gb_trans GZ.out g)
  replace BS := Lib.hid (BS.out.keep0 g)
  replace DD := Lib.hid (DD.out.keep0 g)
  replace Ssum := Lib.hid (Ssum.out.keep0 g)
  replace Scat := Lib.hid (Scat.out.keep0 g)
  replace Scond := Lib.hid (Scond.out.keep0 g)
  replace BE1 := Lib.hid (BE1.out.keep0 g)
  replace BE2 := Lib.hid (BE2.out.keep0 g)
  replace EV1 := Lib.hid (EV1.out.keep0 g)
  replace EV2 := Lib.hid (EV2.out.keep0 g)
  replace EF1 := Lib.hid (EF1.out.keep0 g)
  replace EF2 := Lib.hid (EF2.out.keep0 g)
  clear s0 s1 s2 s3 s4 s5 s6 s7 s8 s9
  clear e0 e1 e2 e3
  clear g
  have s0 : w24.cell? ⟨b4, 0, none⟩ = some (.string ⟨#[]⟩) := BS.out.cell 0
  have s1 : w24.cell? ⟨b4, 1, none⟩ = some (.slice (some ⟨b1, 0, none⟩) 1 1) := BS.out.cell 1
  have s2 : w24.cell? ⟨b4, 2, none⟩ = some (.slice none 0 0) := BS.out.cell 2
  have s3 : w24.cell? ⟨b4, 3, none⟩ = some (.slice none 0 0) := BS.out.cell 3
  have s4 : w24.cell? ⟨b4, 4, none⟩ = some (.slice none 0 0) := BS.out.cell 4
  have s5 : w24.cell? ⟨b4, 5, none⟩ = some (.slice none 0 0) := BS.out.cell 5
  have s6 : w24.cell? ⟨b4, 6, none⟩ = some (.slice none 0 0) := BS.out.cell 6
  have s7 : w24.cell? ⟨b4, 7, none⟩ = some (.slice none 0 0) := BS.out.cell 7
  have s8 : w24.cell? ⟨b4, 8, none⟩ = some (.slice none 0 0) := BS.out.cell 8
  have s9 : w24.cell? ⟨b4, 9, none⟩ = some (.slice (some ⟨b3, 0, none⟩) 1 1) := BS.out.cell 9
  have e0 : w24.cell? ⟨u3, 0, none⟩ = some (.slice (some ⟨u0, 0, none⟩) 1 1) := BE1.out.cell 0
  have e1 : w24.cell? ⟨u3, 1, none⟩ = some (.slice (some ⟨u2, 0, none⟩) 1 1) := BE1.out.cell 1
  have e2 : w24.cell? ⟨u3, 2, none⟩ = some (.slice none 0 0) := BE1.out.cell 2
  have e3 : w24.cell? ⟨u3, 3, none⟩ = some (.slice none 0 0) := BE1.out.cell 3
  go_wp2_with fail
  refine (aEval DD.out Scat.out EV1.out EF1.out 1289 v7).mono ?_
  rintro e w25 ⟨rfl, g⟩
  replace GZ := Lib.hid (gb_trans GZ.out g)
  replace BS := Lib.hid (BS.out.keep0 g)
  replace DD := Lib.hid (DD.out.keep0 g)
  replace Ssum := Lib.hid (Ssum.out.keep0 g)
  replace Scat := Lib.hid (Scat.out.keep0 g)
  replace Scond := Lib.hid (Scond.out.keep0 g)
  replace BE1 := Lib.hid (BE1.out.keep0 g)
  replace BE2 := Lib.hid (BE2.out.keep0 g)
  replace EV1 := Lib.hid (EV1.out.keep0 g)
  replace EV2 := Lib.hid (EV2.out.keep0 g)
  replace EF1 := Lib.hid (EF1.out.keep0 g)
  replace EF2 := Lib.hid (EF2.out.keep0 g)
  clear s0 s1 s2 s3 s4 s5 s6 s7 s8 s9
  clear e0 e1 e2 e3
  clear g
  have s0 : w25.cell? ⟨b4, 0, none⟩ = some (.string ⟨#[]⟩) := BS.out.cell 0
  have s1 : w25.cell? ⟨b4, 1, none⟩ = some (.slice (some ⟨b1, 0, none⟩) 1 1) := BS.out.cell 1
  have s2 : w25.cell? ⟨b4, 2, none⟩ = some (.slice none 0 0) := BS.out.cell 2
  have s3 : w25.cell? ⟨b4, 3, none⟩ = some (.slice none 0 0) := BS.out.cell 3
  have s4 : w25.cell? ⟨b4, 4, none⟩ = some (.slice none 0 0) := BS.out.cell 4
  have s5 : w25.cell? ⟨b4, 5, none⟩ = some (.slice none 0 0) := BS.out.cell 5
  have s6 : w25.cell? ⟨b4, 6, none⟩ = some (.slice none 0 0) := BS.out.cell 6
  have s7 : w25.cell? ⟨b4, 7, none⟩ = some (.slice none 0 0) := BS.out.cell 7
  have s8 : w25.cell? ⟨b4, 8, none⟩ = some (.slice none 0 0) := BS.out.cell 8
  have s9 : w25.cell? ⟨b4, 9, none⟩ = some (.slice (some ⟨b3, 0, none⟩) 1 1) := BS.out.cell 9
  have e0 : w25.cell? ⟨u3, 0, none⟩ = some (.slice (some ⟨u0, 0, none⟩) 1 1) := BE1.out.cell 0
  have e1 : w25.cell? ⟨u3, 1, none⟩ = some (.slice (some ⟨u2, 0, none⟩) 1 1) := BE1.out.cell 1
  have e2 : w25.cell? ⟨u3, 2, none⟩ = some (.slice none 0 0) := BE1.out.cell 2
  have e3 : w25.cell? ⟨u3, 3, none⟩ = some (.slice none 0 0) := BE1.out.cell 3
  go_wp2_with fail
  refine (aEval DD.out Scond.out EV1.out EF1.out 33 v8).mono ?_
  rintro e w26 ⟨rfl, g⟩
  replace GZ := Lib.hid (gb_trans GZ.out g)
  replace BS := Lib.hid (BS.out.keep0 g)
  replace DD := Lib.hid (DD.out.keep0 g)
  replace Ssum := Lib.hid (Ssum.out.keep0 g)
  replace Scat := Lib.hid (Scat.out.keep0 g)
  replace Scond := Lib.hid (Scond.out.keep0 g)
  replace BE1 := Lib.hid (BE1.out.keep0 g)
  replace BE2 := Lib.hid (BE2.out.keep0 g)
  replace EV1 := Lib.hid (EV1.out.keep0 g)
  replace EV2 := Lib.hid (EV2.out.keep0 g)
  replace EF1 := Lib.hid (EF1.out.keep0 g)
  replace EF2 := Lib.hid (EF2.out.keep0 g)
  clear s0 s1 s2 s3 s4 s5 s6 s7 s8 s9
  clear e0 e1 e2 e3
  clear g
  have s0 : w26.cell? ⟨b4, 0, none⟩ = some (.string ⟨#[]⟩) := BS.out.cell 0
  have s1 : w26.cell? ⟨b4, 1, none⟩ = some (.slice (some ⟨b1, 0, none⟩) 1 1) := BS.out.cell 1
  have s2 : w26.cell? ⟨b4, 2, none⟩ = some (.slice none 0 0) := BS.out.cell 2
  have s3 : w26.cell? ⟨b4, 3, none⟩ = some (.slice none 0 0) := BS.out.cell 3
  have s4 : w26.cell? ⟨b4, 4, none⟩ = some (.slice none 0 0) := BS.out.cell 4
  have s5 : w26.cell? ⟨b4, 5, none⟩ = some (.slice none 0 0) := BS.out.cell 5
  have s6 : w26.cell? ⟨b4, 6, none⟩ = some (.slice none 0 0) := BS.out.cell 6
  have s7 : w26.cell? ⟨b4, 7, none⟩ = some (.slice none 0 0) := BS.out.cell 7
  have s8 : w26.cell? ⟨b4, 8, none⟩ = some (.slice none 0 0) := BS.out.cell 8
  have s9 : w26.cell? ⟨b4, 9, none⟩ = some (.slice (some ⟨b3, 0, none⟩) 1 1) := BS.out.cell 9
  have e0 : w26.cell? ⟨u7, 0, none⟩ = some (.slice (some ⟨u4, 0, none⟩) 1 1) := BE2.out.cell 0
  have e1 : w26.cell? ⟨u7, 1, none⟩ = some (.slice (some ⟨u6, 0, none⟩) 1 1) := BE2.out.cell 1
  have e2 : w26.cell? ⟨u7, 2, none⟩ = some (.slice none 0 0) := BE2.out.cell 2
  have e3 : w26.cell? ⟨u7, 3, none⟩ = some (.slice none 0 0) := BE2.out.cell 3
  go_wp2_with fail
  refine (aEval DD.out Scond.out EV2.out EF2.out 7 v9).mono ?_
  rintro e w27 ⟨rfl, g⟩
  replace GZ := Lib.hid (gb_trans GZ.out g)
  replace BS := Lib.hid (BS.out.keep0 g)
  replace DD := Lib.hid (DD.out.keep0 g)
  replace Ssum := Lib.hid (Ssum.out.keep0 g)
  replace Scat := Lib.hid (Scat.out.keep0 g)
  replace Scond := Lib.hid (Scond.out.keep0 g)
  replace BE1 := Lib.hid (BE1.out.keep0 g)
  replace BE2 := Lib.hid (BE2.out.keep0 g)
  replace EV1 := Lib.hid (EV1.out.keep0 g)
  replace EV2 := Lib.hid (EV2.out.keep0 g)
  replace EF1 := Lib.hid (EF1.out.keep0 g)
  replace EF2 := Lib.hid (EF2.out.keep0 g)
  clear s0 s1 s2 s3 s4 s5 s6 s7 s8 s9
  clear e0 e1 e2 e3
  clear g
  go_wp2_with fail
  refine (LC.out _ 1).mono ?_
  rintro e w28 ⟨rfl, g⟩
  replace GZ := Lib.hid (gb_trans GZ.out g)
  replace BS := Lib.hid (BS.out.keep0 g)
  replace DD := Lib.hid (DD.out.keep0 g)
  replace Ssum := Lib.hid (Ssum.out.keep0 g)
  replace Scat := Lib.hid (Scat.out.keep0 g)
  replace Scond := Lib.hid (Scond.out.keep0 g)
  replace BE1 := Lib.hid (BE1.out.keep0 g)
  replace BE2 := Lib.hid (BE2.out.keep0 g)
  replace EV1 := Lib.hid (EV1.out.keep0 g)
  replace EV2 := Lib.hid (EV2.out.keep0 g)
  replace EF1 := Lib.hid (EF1.out.keep0 g)
  replace EF2 := Lib.hid (EF2.out.keep0 g)
  clear g
  go_wp2_with fail
  refine (LC.out _ 1).mono ?_
  rintro e w29 ⟨rfl, g⟩
  replace GZ := Lib.hid (gb_trans GZ.out g)
  replace BS := Lib.hid (BS.out.keep0 g)
  replace DD := Lib.hid (DD.out.keep0 g)
  replace Ssum := Lib.hid (Ssum.out.keep0 g)
  replace Scat := Lib.hid (Scat.out.keep0 g)
  replace Scond := Lib.hid (Scond.out.keep0 g)
  replace BE1 := Lib.hid (BE1.out.keep0 g)
  replace BE2 := Lib.hid (BE2.out.keep0 g)
  replace EV1 := Lib.hid (EV1.out.keep0 g)
  replace EV2 := Lib.hid (EV2.out.keep0 g)
  replace EF1 := Lib.hid (EF1.out.keep0 g)
  replace EF2 := Lib.hid (EF2.out.keep0 g)
  clear g
  obtain ⟨w30, hw30⟩ : ∃ x, x = w29.alloc (.cells #[.int .i64 1, .int .i64 1, .int .i64 8, .int .i64 1, .int .i64 1, .int .i64 8] 61) := ⟨_, rfl⟩
  obtain ⟨ptwo, hptwo⟩ : ∃ p, p = w29.heap.size := ⟨_, rfl⟩
  have Stwo := Lib.hid (show SN w30 (some ⟨ptwo, 0, none⟩) 2 2 nTwo from by
    rw [hw30, hptwo]
    exact sn_new _ nTwo _ _ (IsB.new _ _ _) (by intro j hj; have hj : j < 2 := hj; rcases (show j = 0 ∨ j = 1 by omega) with rfl | rfl <;> exact ⟨rfl, rfl, rfl⟩) (by intro x hx; revert x; unfold nTwo; decide) _ rfl)
  have g := gb_alloc w29 (.cells #[.int .i64 1, .int .i64 1, .int .i64 8, .int .i64 1, .int .i64 1, .int .i64 8] 61) none
  rw [← hw30] at g
  replace GZ := Lib.hid (gb_trans GZ.out g)
  replace BS := Lib.hid (BS.out.keep0 g)
  replace DD := Lib.hid (DD.out.keep0 g)
  replace Ssum := Lib.hid (Ssum.out.keep0 g)
  replace Scat := Lib.hid (Scat.out.keep0 g)
  replace Scond := Lib.hid (Scond.out.keep0 g)
  replace BE1 := Lib.hid (BE1.out.keep0 g)
  replace BE2 := Lib.hid (BE2.out.keep0 g)
  replace EV1 := Lib.hid (EV1.out.keep0 g)
  replace EV2 := Lib.hid (EV2.out.keep0 g)
  replace EF1 := Lib.hid (EF1.out.keep0 g)
  replace EF2 := Lib.hid (EF2.out.keep0 g)
  clear g
  go_wp2_with fail
  rw [← hptwo, ← hw30]
  clear hw30 hptwo
  have EN := kend_any w30 (some ⟨ptwo, 0, none⟩) 2 2 nTwo Stwo.out (by decide) 0
  rw [v10] at EN
  unfold RetV at EN
  clear Stwo
  refine (EN).mono ?_
  rintro e w31 ⟨rfl, g⟩
  replace GZ := Lib.hid (gb_trans GZ.out g)
  replace BS := Lib.hid (BS.out.keep0 g)
  replace DD := Lib.hid (DD.out.keep0 g)
  replace Ssum := Lib.hid (Ssum.out.keep0 g)
  replace Scat := Lib.hid (Scat.out.keep0 g)
  replace Scond := Lib.hid (Scond.out.keep0 g)
  replace BE1 := Lib.hid (BE1.out.keep0 g)
  replace BE2 := Lib.hid (BE2.out.keep0 g)
  replace EV1 := Lib.hid (EV1.out.keep0 g)
  replace EV2 := Lib.hid (EV2.out.keep0 g)
  replace EF1 := Lib.hid (EF1.out.keep0 g)
  replace EF2 := Lib.hid (EF2.out.keep0 g)
  clear EN
  clear g
  have FI := fieldsS_any w31 (some ⟨pcond, 0, none⟩) 4 4 nCond Scond.out (by decide) (by rw [v11]; decide)
  rw [v11] at FI
  go_wp2_with fail
  refine FI.mono ?_
  rintro e w32 ⟨V, rfl, o, g⟩
  obtain ⟨fa, fc, hV⟩ := o.shape
  have hV : V = .slice fa 1 fc := hV
  subst hV
  replace GZ := Lib.hid (gb_trans GZ.out g)
  replace BS := Lib.hid (BS.out.keep0 g)
  replace DD := Lib.hid (DD.out.keep0 g)
  replace Ssum := Lib.hid (Ssum.out.keep0 g)
  replace Scat := Lib.hid (Scat.out.keep0 g)
  replace Scond := Lib.hid (Scond.out.keep0 g)
  replace BE1 := Lib.hid (BE1.out.keep0 g)
  replace BE2 := Lib.hid (BE2.out.keep0 g)
  replace EV1 := Lib.hid (EV1.out.keep0 g)
  replace EV2 := Lib.hid (EV2.out.keep0 g)
  replace EF1 := Lib.hid (EF1.out.keep0 g)
  replace EF2 := Lib.hid (EF2.out.keep0 g)
  have SQ1 := Lib.hid (sq_own o)
  clear g o FI
  have g := gb_alloc w32 (.cells #[.int .i64 0, .int .i64 0] 48) none
  replace GZ := Lib.hid (gb_trans GZ.out g)
  replace BS := Lib.hid (BS.out.keep0 g)
  replace DD := Lib.hid (DD.out.keep0 g)
  replace Ssum := Lib.hid (Ssum.out.keep0 g)
  replace Scat := Lib.hid (Scat.out.keep0 g)
  replace Scond := Lib.hid (Scond.out.keep0 g)
  replace BE1 := Lib.hid (BE1.out.keep0 g)
  replace BE2 := Lib.hid (BE2.out.keep0 g)
  replace EV1 := Lib.hid (EV1.out.keep0 g)
  replace EV2 := Lib.hid (EV2.out.keep0 g)
  replace EF1 := Lib.hid (EF1.out.keep0 g)
  replace EF2 := Lib.hid (EF2.out.keep0 g)
  have EQ := eqf_any _ fa (some ⟨w32.heap.size, 0, none⟩) 1 fc 1 1 [(0, 0)] [(0, 0)] (SQ1.out.keep0 g) (sq_one _ _ 0 0 (IsB.new w32 48 #[.int .i64 0, .int .i64 0])) (by decide) (by decide)
  rw [decide_eq_true rfl] at EQ
  unfold RetV at EQ
  clear g SQ1
  go_wp2_with fail
  refine (EQ).mono ?_
  rintro e w33 ⟨rfl, g⟩
  replace GZ := Lib.hid (gb_trans GZ.out g)
  replace BS := Lib.hid (BS.out.keep0 g)
  replace DD := Lib.hid (DD.out.keep0 g)
  replace Ssum := Lib.hid (Ssum.out.keep0 g)
  replace Scat := Lib.hid (Scat.out.keep0 g)
  replace Scond := Lib.hid (Scond.out.keep0 g)
  replace BE1 := Lib.hid (BE1.out.keep0 g)
  replace BE2 := Lib.hid (BE2.out.keep0 g)
  replace EV1 := Lib.hid (EV1.out.keep0 g)
  replace EV2 := Lib.hid (EV2.out.keep0 g)
  replace EF1 := Lib.hid (EF1.out.keep0 g)
  replace EF2 := Lib.hid (EF2.out.keep0 g)
  clear EQ
  clear g
  have FI := headersS_any w33 (some ⟨pcond, 0, none⟩) 4 4 nCond Scond.out (by decide) (by rw [v12]; decide)
  rw [v12] at FI
  go_wp2_with fail
  refine FI.mono ?_
  rintro e w34 ⟨V, rfl, o, g⟩
  obtain ⟨fa2, fc2, hV⟩ := o.shape
  have hV : V = .slice fa2 1 fc2 := hV
  subst hV
  replace GZ := Lib.hid (gb_trans GZ.out g)
  replace BS := Lib.hid (BS.out.keep0 g)
  replace DD := Lib.hid (DD.out.keep0 g)
  replace Ssum := Lib.hid (Ssum.out.keep0 g)
  replace Scat := Lib.hid (Scat.out.keep0 g)
  replace Scond := Lib.hid (Scond.out.keep0 g)
  replace BE1 := Lib.hid (BE1.out.keep0 g)
  replace BE2 := Lib.hid (BE2.out.keep0 g)
  replace EV1 := Lib.hid (EV1.out.keep0 g)
  replace EV2 := Lib.hid (EV2.out.keep0 g)
  replace EF1 := Lib.hid (EF1.out.keep0 g)
  replace EF2 := Lib.hid (EF2.out.keep0 g)
  have SQ1 := Lib.hid (sz_own o)
  clear g o FI
  have g := gb_alloc w34 (.cells #[.int .i64 0] 3) none
  replace GZ := Lib.hid (gb_trans GZ.out g)
  replace BS := Lib.hid (BS.out.keep0 g)
  replace DD := Lib.hid (DD.out.keep0 g)
  replace Ssum := Lib.hid (Ssum.out.keep0 g)
  replace Scat := Lib.hid (Scat.out.keep0 g)
  replace Scond := Lib.hid (Scond.out.keep0 g)
  replace BE1 := Lib.hid (BE1.out.keep0 g)
  replace BE2 := Lib.hid (BE2.out.keep0 g)
  replace EV1 := Lib.hid (EV1.out.keep0 g)
  replace EV2 := Lib.hid (EV2.out.keep0 g)
  replace EF1 := Lib.hid (EF1.out.keep0 g)
  replace EF2 := Lib.hid (EF2.out.keep0 g)
  have EQ := eqi_any _ fa2 (some ⟨w34.heap.size, 0, none⟩) 1 fc2 1 1 [0] [0] (SQ1.out.keep0 g) (sz_one _ _ 0 3 (IsB.new w34 3 #[.int .i64 0])) (by decide) (by decide)
  rw [decide_eq_true rfl] at EQ
  unfold RetV at EQ
  clear g SQ1
  go_wp2_with fail
  refine (EQ).mono ?_
  rintro e w35 ⟨rfl, g⟩
  replace GZ := Lib.hid (gb_trans GZ.out g)
  replace BS := Lib.hid (BS.out.keep0 g)
  replace DD := Lib.hid (DD.out.keep0 g)
  replace Ssum := Lib.hid (Ssum.out.keep0 g)
  replace Scat := Lib.hid (Scat.out.keep0 g)
  replace Scond := Lib.hid (Scond.out.keep0 g)
  replace BE1 := Lib.hid (BE1.out.keep0 g)
  replace BE2 := Lib.hid (BE2.out.keep0 g)
  replace EV1 := Lib.hid (EV1.out.keep0 g)
  replace EV2 := Lib.hid (EV2.out.keep0 g)
  replace EF1 := Lib.hid (EF1.out.keep0 g)
  replace EF2 := Lib.hid (EF2.out.keep0 g)
  clear EQ
  clear g
  go_wp2
  go_ret
  exact ⟨rfl, GZ.out⟩
end Go.Proofs.Ytdbjeihbfooipaa
