/- The reference's tries: Insert of a new prefix. -/
import Derived.Test.YtidjggaffioekaaLtU
import Derived.Deep.QuietTactic
import Derived.BigQuiet
namespace Go.Proofs.Ytidjggaffioekaa
open Go.RowKit
set_option linter.unusedVariables false

theorem own_g {w : World} {base n c : Nat} {ad : Addr} {e : TypeId} {xs : List Value} (h : w.ownsRow base e 3 (.slice (some ad) n c) n xs) : ∃ g, ad = ⟨g, 0, none⟩ := by
  rcases h.2 with ⟨k, _⟩ | ⟨g, cap, cur, k, _⟩
  · injection k with k; cases k
  · injection k with k; injection k with k; exact ⟨g, k⟩
set_option maxRecDepth 100000 in
set_option maxHeartbeats 4000000 in
theorem rins_ok (w : World) (v wi mm : Nat) (x : Int) (a : Option Addr) (n c : Nat) (L : List Ent) (p : List Bool) (h : RI w 0 (.slice a n c) wi L) (hn : n = L.length) (h1 : 1 ≤ wi) (h2 : wi ≤ 32) (hm : mm ≤ wi) (hb : v < 2 ^ wi) (hp : p = (bitsN wi v).take mm) (hL : n ≤ 100000)
    (hf : ∀ W, w.grownBy W none → ∃ k : Int, k < 0 ∧ Calls Try.prog 31 #[.agg #[.int .i64 wi, .slice a n c], .int .u32 v, .int .i64 mm] W (RetV (.int .i64 k) W)) :
    Calls Try.prog 16 #[.agg #[.int .i64 wi, .slice a n c], .int .u32 v, .int .i64 mm, .int .i64 x] w (RetR wi (insL wi (p, x) L) (.int .i64 0) w) := by
  have hb2 : 2 ^ wi ≤ 2 ^ 32 := Nat.pow_le_pow_right (by decide) h2
  have pl : p.length = mm := by rw [hp, List.length_take, bits_len]; omega
  have FT := Lib.hid (fun W => rfits_any W v wi h2 (by omega))
  rw [decide_eq_true hb] at FT
  have MK := Lib.hid (fun W => rmask_any W mm wi hm h2)
  have AP := and_mk v mm wi hm h2 hb
  rw [← hp] at AP
  generalize ((maskN mm wi : Nat) : Int) = mk at *
  have HF := Lib.hid hf
  have HP := Lib.hid pl
  have NB := Lib.hid hL
  have i0 : ¬ (mm : Int) < 0 := by omega
  have i1 : ¬ (wi : Int) < mm := by omega
  have SS := Lib.hid (fun (W : World) (k : w.grownBy W none) => own_s3 hn (h.keep0 k))
  have SO := Lib.hid (show ∀ ad : Addr, a = some ad → ∃ g, ad = ⟨g, 0, none⟩ from fun ad e => by subst e; subst hn; exact own_g (show w.ownsRow 0 72 3 (.slice (some ad) L.length c) L.length (L.flatMap (itI wi)) from h))
  have CP := Lib.hid (show n ≤ c from by subst hn; exact own_cap (show w.ownsRow 0 72 3 (.slice a L.length c) L.length (L.flatMap (itI wi)) from h))
  have IL := Lib.hid (insL_at wi (p, x) L)
  have IA := Lib.hid (insAt_le wi (p, x) L)
  have II := Lib.hid (fun j hj hl => insAt_iff wi (p, x) L j hj hl)
  have I3 := Lib.hid (show itI wi (p, x) = [.int .u32 (E wi p), .int .i64 mm, .int .i64 x] by simp only [itI, pl])
  generalize insL wi (p, x) L = LL at *
  generalize insAt wi (p, x) L = ia at *
  have ZP := Lib.hid (show E wi p = ((enc wi p : Nat) : Int) from rfl)
  generalize E wi p = pv at *
  have B10 := (IsB.new w 30 #[.int .i64 wi, .slice a n c]).alloc (.cells #[.int .i64 0, .slice none 0 0] 30)
  have B20 := IsB.new (w.alloc (.cells #[.int .i64 wi, .slice a n c] 30)) 30 #[.int .i64 0, .slice none 0 0]
  rw [sz_al] at B20
  have B1 := Lib.hid B10
  have B2 := Lib.hid B20
  have G2 := Lib.hid (gb_trans (gb_alloc w (.cells #[.int .i64 wi, .slice a n c] 30) none) (gb_alloc _ (.cells #[.int .i64 0, .slice none 0 0] 30) none))
  clear B10 B20
  have HH := Lib.hid (fun (W : World) (k : w.grownBy W none) => h.keep0 k)
  have HN := Lib.hid hn
  clear h hn h1 h2 hm hb hb2 hf hp pl hL
  unfold RetR
  go_enter Try.func16, Try.ntmps16
  go_upto_region 1 with fail
  generalize (w.alloc (.cells #[.int .i64 wi, .slice a n c] 30)).alloc (.cells #[.int .i64 0, .slice none 0 0] 30) = w2 at *
  obtain ⟨z1, hz1⟩ : ∃ x, x = w.heap.size := ⟨_, rfl⟩
  obtain ⟨z2, hz2⟩ : ∃ x, x = w.heap.size + 1 := ⟨_, rfl⟩
  have Z1 := Lib.hid (show w.heap.size ≤ z1 by omega)
  have Z2 := Lib.hid (show w.heap.size ≤ z2 by omega)
  have Z12 := Lib.hid (show z1 ≠ z2 by omega)
  rw [← hz2] at B2 ⊢
  rw [← hz1] at B1 ⊢
  clear hz1 hz2
  have b0 := B1.out.cell 0
  have b1 := B1.out.cell 1
  dsimp at b0 b1
  clear HH
  go_wp2_with fail
  refine (FT.out _).mono ?_
  rintro e w3 ⟨rfl, g⟩
  have G3 := Lib.hid (gb_trans G2.out g)
  have D1 := Lib.hid (B1.out.keep0 g)
  have D2 := Lib.hid (B2.out.keep0 g)
  clear g b0 b1 B1 B2 FT
  have b0 := D1.out.cell 0
  have b1 := D1.out.cell 1
  dsimp at b0 b1
  obtain ⟨k, hk0, hk⟩ := HF.out _ G3.out
  have CC := Lib.hid hk
  have kk : ¬ (0 : Int) ≤ k := by omega
  clear hk hk0
  go_wp2_with fail
  refine CC.out.mono ?_
  rintro e w4 ⟨rfl, g⟩
  have G4 := Lib.hid (gb_trans G3.out g)
  have B1 := Lib.hid (D1.out.keep0 g)
  have B2 := Lib.hid (D2.out.keep0 g)
  clear g b0 b1 D1 D2 CC
  have b0 := B1.out.cell 0
  have b1 := B1.out.cell 1
  dsimp at b0 b1
  go_wp2_with fail
  refine (MK.out _).mono ?_
  rintro e w5 ⟨rfl, g⟩
  have g6 := gb_alloc w5 (.cells #[.int .u32 pv, .int .i64 mm, .int .i64 x] 72) none
  have BY := Lib.hid (IsB.new w5 72 #[.int .u32 pv, .int .i64 mm, .int .i64 x])
  have G6 := Lib.hid (gb_trans (gb_trans G4.out g) g6)
  have D1 := Lib.hid (B1.out.keep0 (gb_trans g g6))
  have D2 := Lib.hid (B2.out.keep0 (gb_trans g g6))
  clear g g6 b0 b1 B1 B2 MK i0 i1 kk
  go_upto_region 6 with fail
  generalize w5.alloc (.cells #[.int .u32 pv, .int .i64 mm, .int .i64 x] 72) = w6 at *
  obtain ⟨zy, hzy⟩ : ∃ z, z = w5.heap.size := ⟨_, rfl⟩
  rw [← hzy] at BY ⊢
  clear hzy
  go_wp2
  go_loopw [11] (fun i wr => ∃ j : Nat, i = .int .i64 j ∧ j ≤ ia ∧ w6.grownBy wr none) (fun i _ => n - (intOf i).toNat)
  case atStart => exact ⟨0, rfl, Nat.zero_le _, gb_refl _ _⟩
  case round =>
    obtain ⟨j, rfl, hja, hg⟩ := hrel
    have G := Lib.hid hg
    have JA := Lib.hid hja
    have hjn : j ≤ n := by have := IA.out; have := HN.out; omega
    have JN := Lib.hid hjn
    have c1 := (D1.out.keep0 hg).cell 1
    have y0 := (BY.out.keep0 hg).cell 0
    dsimp at c1 y0
    clear hg hja hjn
    by_cases hlt : j < n
    · obtain ⟨ad, rfl⟩ : ∃ ad, a = some ad := by
        cases a with
        | none => exact absurd ((SS.out w (gb_refl _ _)).2.1 rfl).1 (by omega)
        | some ad => exact ⟨ad, rfl⟩
      obtain ⟨g, rfl⟩ := SO.out ad rfl
      have hjl : j < L.length := by have := HN.out; omega
      have i1 : (j : Int) < n := by omega
      have i2 : (0 : Int) ≤ (j : Int) := by omega
      have hw : IntKind.i64.wrap ((j : Int) + 1) = ((j + 1 : Nat) : Int) := by have := NB.out; rw [IntKind.wrap_i64]; omega
      have CF := II.out j JA.out hjl
      obtain ⟨⟨ep, ex⟩, he⟩ : ∃ e, e = L[j] := ⟨_, rfl⟩
      rw [← he] at CF
      dsimp only at CF
      have CC := Lib.hid (fun (W : World) (k : wr.grownBy W none) => (⟨((SS.out W (gb_trans G6.out (gb_trans G.out k))).at_ (itI_3 wi) j hjl).1.trans (by rw [← he]; rfl), ((SS.out W (gb_trans G6.out (gb_trans G.out k))).at_ (itI_3 wi) j hjl).2.1.trans (by rw [← he]; rfl)⟩ : W.cell? ⟨g, j * 3, none⟩ = some (.int .u32 (E wi ep)) ∧ W.cell? ⟨g, j * 3 + 1, none⟩ = some (.int .i64 ep.length)))
      have d0 := (CC.out _ (gb_refl _ _)).1
      have d1 := (CC.out _ (gb_refl _ _)).2
      have ZE : E wi ep = ((enc wi ep : Nat) : Int) := rfl
      have zp := ZP.out
      rw [show p.length = mm from HP.out] at CF
      obtain ⟨el, hel⟩ : ∃ e : Int, e = ep.length := ⟨_, rfl⟩
      rw [← hel] at d1
      clear he CC
      generalize E wi ep = ev at *
      by_cases a1 : ev < pv
      · have JL := Lib.hid (show j < ia from CF.1 (.inl (by omega)))
        clear CF ZE zp hel
        go_upto_region 7 with fail
        go_quiet (fail)
        have GJ := Lib.hid (gb_trans G.out (gb_drewN wr nq none))
        go_wp2
        refine ⟨⟨j + 1, by simp, JL.out, GJ.out⟩, ?_⟩
        show n - ((j : Int) + 1).toNat < n - (j : Int).toNat
        omega
      · have a1' : decide (ev < pv) = false := decide_eq_false a1
        by_cases a2 : ev = pv
        · have a2' : (ev == pv) = true := by simp [a2]
          by_cases a3 : el < mm
          · have JL := Lib.hid (show j < ia from CF.1 (.inr ⟨by omega, by omega⟩))
            clear CF ZE zp a2 hel
            go_upto_region 7 with fail
            go_quiet (fail)
            have GJ := Lib.hid (gb_trans G.out (gb_drewN wr nq none))
            go_wp2
            refine ⟨⟨j + 1, by simp, JL.out, GJ.out⟩, ?_⟩
            show n - ((j : Int) + 1).toNat < n - (j : Int).toNat
            omega
          · have a3' : decide (el < mm) = false := decide_eq_false a3
            have JE := Lib.hid (show j = ia from by
              have := JA.out
              rcases Nat.lt_or_ge j ia with k | k
              · have := CF.2 k; omega
              · omega)
            clear CF ZE zp a2 a3 hel
            go_upto_region 7 with fail
            go_quiet (fail)
            have G8 := Lib.hid (gb_trans G.out (gb_drewN wr nq none))
            clear c1 y0
            obtain ⟨w8, hw8⟩ : ∃ W, W = wr.drewN nq := ⟨_, rfl⟩
            rw [← hw8] at G8 ⊢
            clear hw8
            have JM := JN.out
            have E1 := Lib.hid (D1.out.keep0 G8.out)
            have E2 := Lib.hid (D2.out.keep0 G8.out)
            have EY := Lib.hid (BY.out.keep0 G8.out)
            have JL := Lib.hid (show LL = L.take j ++ (p, x) :: L.drop j by rw [JE.out]; exact IL.out)
            have e1 := E1.out.cell 1
            dsimp at e1
            have k0 : (0 : Int) ≤ (j : Int) := by omega
            have k2 : (j : Int) ≤ c := by have := CP.out; omega
            have k3 : (j : Int) ≤ n := by omega
            have k4 : j ≤ c := by have := CP.out; omega
            have hce : ¬ c = j := by have := CP.out; omega
            have ST := Lib.hid (fun (W : World) (k : w6.grownBy W none) => (SS.out W (gb_trans G6.out k)).pre (itI_3 wi) j JM)
            have SD := Lib.hid (show ∀ W, w6.grownBy W none → S3 (itI wi) W (some ⟨g, j * 3, none⟩) (n - j) (c - j) (L.drop j) from fun W k => by have q := (SS.out W (gb_trans G6.out k)).cut (itI_3 wi) j JM CP.out; rwa [if_neg hce] at q)
            have e1' := (E1.out.keep0 (gb_alloc w8 (.cells #[] 72) none)).cell 1
            dsimp at e1'
            have E0 := Lib.hid (show RI (w8.alloc (.cells #[] 72)) w8.heap.size (.slice (some ⟨w8.heap.size, 0, none⟩) 0 0) wi [] from World.ownsRow_lit (base := w8.heap.size) (e := 72) (size := 3) w8 #[] 0 (Nat.le_refl _) (by unfold maxLen; omega) (by simp))
            have SA := Lib.hid (ST.out _ (gb_trans G8.out (gb_alloc w8 (.cells #[] 72) none)))
            have l1 := Lib.hid (show ([] : List Ent).length + (L.take j).length ≤ 1000000 by have := HN.out; have := NB.out; first | (simp; done) | (simp; omega))
            have l2 := Lib.hid (show w8.heap.size ≤ (w8.alloc (.cells #[] 72)).heap.size by rw [sz_al]; omega)
            go_wp2_with (at_builtin; refine pushI rfl _ _ rfl w8.heap.size _ wi [] rfl E0.out (some ⟨g, 0, none⟩) j c (L.take j) rfl SA.out l1.out l2.out ?_)
            intro V9 w9 r9 g9
            have g10 : w8.grownBy w9 none := gb_new (gb_trans (gb_alloc w8 (.cells #[] 72) (some w8.heap.size)) g9) (Nat.le_refl _)
            have r9 : RI w9 w8.heap.size V9 wi (L.take j) := by simpa using r9
            obtain ⟨a9, d9, rfl⟩ := r9.shape
            obtain ⟨n9, hn9⟩ : ∃ k, k = (L.take j).length := ⟨_, rfl⟩
            rw [← hn9] at r9 ⊢
            have R9 := Lib.hid r9
            clear hn9
            have G9 := Lib.hid (gb_trans G8.out g10)
            have F1 := Lib.hid (E1.out.keep0 g10)
            have F2 := Lib.hid (E2.out.keep0 g10)
            have FY := Lib.hid (EY.out.keep0 g10)
            have Z8 := Lib.hid (show w6.heap.size ≤ w8.heap.size from G8.out.size)
            have Z9 := Lib.hid (show w8.heap.size ≤ w9.heap.size from g10.size)
            clear r9 g9 g10 e1' E0 SA l1 l2
            generalize w8.heap.size = z8 at *
            have y0 := FY.out.cell 0
            have y1 := FY.out.cell 1
            have y2 := FY.out.cell 2
            dsimp at y0 y1 y2
            have SY := Lib.hid (show S3 (itI wi) (w9.alloc (.cells #[.int .u32 pv, .int .i64 mm, .int .i64 x] 72)) (some ⟨w9.heap.size, 0, none⟩) 1 1 [(p, x)] from ⟨rfl, (by intro e; cases e), fun ad e j u hu => by injection e with e; subst e; exact new_cells _ _ _ (itI wi (p, x)) _ (IsB.new w9 72 #[.int .u32 pv, .int .i64 mm, .int .i64 x]) (by rw [I3.out]) j u (by simpa using hu)⟩)
            have RA := Lib.hid (R9.out.keep0 (gb_alloc w9 (.cells #[.int .u32 pv, .int .i64 mm, .int .i64 x] 72) none))
            have FA1 := Lib.hid (F1.out.keep0 (gb_alloc w9 (.cells #[.int .u32 pv, .int .i64 mm, .int .i64 x] 72) none))
            have FA2 := Lib.hid (F2.out.keep0 (gb_alloc w9 (.cells #[.int .u32 pv, .int .i64 mm, .int .i64 x] 72) none))
            have l3 := Lib.hid (show (L.take j).length + [(p, x)].length ≤ 1000000 by have := HN.out; have := NB.out; first | (simp; done) | (simp; omega))
            have l4 := Lib.hid (show z8 ≤ (w9.alloc (.cells #[.int .u32 pv, .int .i64 mm, .int .i64 x] 72)).heap.size by rw [sz_al]; exact Nat.le_succ_of_le Z9.out)
            have GA := Lib.hid (gb_trans G9.out (gb_alloc w9 (.cells #[.int .u32 pv, .int .i64 mm, .int .i64 x] 72) none))
            go_wp2_with (at_builtin; refine pushI rfl _ _ rfl z8 _ wi (L.take j) rfl RA.out (some ⟨w9.heap.size, 0, none⟩) 1 1 [(p, x)] rfl SY.out l3.out l4.out ?_)
            intro V10 w10 r10 g10
            have r10 : RI w10 z8 V10 wi (L.take j ++ [(p, x)]) := by first | exact r10 | simpa using r10
            obtain ⟨a10, d10, rfl⟩ := r10.shape
            obtain ⟨n10, hn10⟩ : ∃ k, k = (L.take j ++ [(p, x)]).length := ⟨_, rfl⟩
            rw [← hn10] at r10 ⊢
            have o1 := own_ne RA.out FA1.out (by decide)
            have o2 := own_ne RA.out FA2.out (by decide)
            have LW := Lib.hid (fun g (e : (Value.slice a9 n9 d9).ownBlock = some g) => (World.ownsRow.lt RA.out g e).1)
            have H1 := Lib.hid (FA1.out.keep g10 (Ne.symm o1))
            have H2 := Lib.hid (FA2.out.keep g10 (Ne.symm o2))
            have R10 := Lib.hid r10
            clear hn10
            have G10 := Lib.hid (gb_lows GA.out g10 fun g e => Nat.le_trans Z8.out (LW.out g e))
            have Z10 := Lib.hid (show z8 ≤ w10.heap.size from Nat.le_trans l4.out g10.size)
            clear r10 g10 o1 o2 LW l3 l4 SY y0 y1 y2
            have e1 := H1.out.cell 1
            dsimp at e1
            have SD2 := Lib.hid (SD.out _ G10.out)
            have l5 := Lib.hid (show (L.take j ++ [(p, x)]).length + (L.drop j).length ≤ 1000000 by have := HN.out; have := NB.out; first | (simp; done) | (simp; omega))
            go_wp2_with (at_builtin; refine pushI rfl _ _ rfl z8 _ wi (L.take j ++ [(p, x)]) rfl R10.out (some ⟨g, j * 3, none⟩) (n - j) (c - j) (L.drop j) rfl SD2.out l5.out Z10.out ?_)
            intro V11 w11 r11 g11
            have r11 : RI w11 z8 V11 wi LL := by rw [JL.out]; first | exact r11 | simpa using r11
            obtain ⟨a11, d11, rfl⟩ := r11.shape
            obtain ⟨m6, hm6⟩ : ∃ m6, m6 = LL.length := ⟨_, rfl⟩
            have M6 := Lib.hid hm6
            rw [← hm6] at r11 ⊢
            clear hm6
            have o1 := own_ne R10.out H1.out (by decide)
            have o2 := own_ne R10.out H2.out (by decide)
            have LW := Lib.hid (fun g (e : (Value.slice a10 n10 d10).ownBlock = some g) => (World.ownsRow.lt R10.out g e).1)
            have q1 := H1.out.keep g11 (Ne.symm o1)
            have q2 := H2.out.keep g11 (Ne.symm o2)
            have Q1 := Lib.hid q1
            have R6 := Lib.hid r11
            have G11 := Lib.hid (gb_trans G6.out (gb_lows G10.out g11 fun g e => Nat.le_trans Z8.out (LW.out g e)))
            have h0 := q1.cell 0
            have h1 := q1.cell 1
            have h2 := q1.free 1
            dsimp at h0 h1
            have Y1 := q1.set 1 (.slice a11 m6 d11)
            have Y2 := q2.set_far (Ne.symm Z12.out) 1 (.slice a11 m6 d11)
            have h5 : (w11.setCell ⟨z1, 1, none⟩ (.slice a11 m6 d11)).cell? ⟨z1, 0, none⟩ = some (.int .i64 wi) := Y1.cell 0
            have h6 : (w11.setCell ⟨z1, 1, none⟩ (.slice a11 m6 d11)).cell? ⟨z1, 1, none⟩ = some (.slice a11 m6 d11) := Y1.cell 1
            have h7 := Y2.free 0
            have h9 : (w11.setCell ⟨z1, 1, none⟩ (.slice a11 m6 d11)).cell? ⟨z2, 0, none⟩ = some (.int .i64 0) := Y2.cell 0
            have h10 : (w11.setCell ⟨z1, 1, none⟩ (.slice a11 m6 d11)).cell? ⟨z2, 1, none⟩ = some (.slice none 0 0) := Y2.cell 1
            have h8 := Y2.free 1
            replace Y2 := Lib.hid Y2
            clear r11 g11 q1 q2 o1 o2 e1 Y1
            go_wp2
            (try simp only [Exit.inBlock, Exit.then])
            refine bodyPost_ret (v := .tuple #[.agg #[.int .i64 wi, .slice a11 m6 d11], .int .i64 0]) (by rw [results_cell_tmp rfl]; go_simp; try rfl) rfl ⟨a11, m6, d11, rfl, M6.out, ?_, gb_put (gb_put (gb_put G11.out Z1.out) Z2.out) Z2.out⟩
            exact own_kept (own_kept (own_kept R6.out.low Q1.out (by decide)) Y2.out (by decide)) (Y2.out.set 0 _) (by decide)
        · have a2' : (ev == pv) = false := by rw [beq_eq_false_iff_ne]; exact a2
          have JE := Lib.hid (show j = ia from by
              have := JA.out
              rcases Nat.lt_or_ge j ia with k | k
              · have := CF.2 k; omega
              · omega)
          clear CF ZE zp a2 hel
          go_upto_region 7 with fail
          go_quiet (fail)
          have G8 := Lib.hid (gb_trans G.out (gb_drewN wr nq none))
          clear c1 y0
          obtain ⟨w8, hw8⟩ : ∃ W, W = wr.drewN nq := ⟨_, rfl⟩
          rw [← hw8] at G8 ⊢
          clear hw8
          have JM := JN.out
          have E1 := Lib.hid (D1.out.keep0 G8.out)
          have E2 := Lib.hid (D2.out.keep0 G8.out)
          have EY := Lib.hid (BY.out.keep0 G8.out)
          have JL := Lib.hid (show LL = L.take j ++ (p, x) :: L.drop j by rw [JE.out]; exact IL.out)
          have e1 := E1.out.cell 1
          dsimp at e1
          have k0 : (0 : Int) ≤ (j : Int) := by omega
          have k2 : (j : Int) ≤ c := by have := CP.out; omega
          have k3 : (j : Int) ≤ n := by omega
          have k4 : j ≤ c := by have := CP.out; omega
          have hce : ¬ c = j := by have := CP.out; omega
          have ST := Lib.hid (fun (W : World) (k : w6.grownBy W none) => (SS.out W (gb_trans G6.out k)).pre (itI_3 wi) j JM)
          have SD := Lib.hid (show ∀ W, w6.grownBy W none → S3 (itI wi) W (some ⟨g, j * 3, none⟩) (n - j) (c - j) (L.drop j) from fun W k => by have q := (SS.out W (gb_trans G6.out k)).cut (itI_3 wi) j JM CP.out; rwa [if_neg hce] at q)
          have e1' := (E1.out.keep0 (gb_alloc w8 (.cells #[] 72) none)).cell 1
          dsimp at e1'
          have E0 := Lib.hid (show RI (w8.alloc (.cells #[] 72)) w8.heap.size (.slice (some ⟨w8.heap.size, 0, none⟩) 0 0) wi [] from World.ownsRow_lit (base := w8.heap.size) (e := 72) (size := 3) w8 #[] 0 (Nat.le_refl _) (by unfold maxLen; omega) (by simp))
          have SA := Lib.hid (ST.out _ (gb_trans G8.out (gb_alloc w8 (.cells #[] 72) none)))
          have l1 := Lib.hid (show ([] : List Ent).length + (L.take j).length ≤ 1000000 by have := HN.out; have := NB.out; first | (simp; done) | (simp; omega))
          have l2 := Lib.hid (show w8.heap.size ≤ (w8.alloc (.cells #[] 72)).heap.size by rw [sz_al]; omega)
          go_wp2_with (at_builtin; refine pushI rfl _ _ rfl w8.heap.size _ wi [] rfl E0.out (some ⟨g, 0, none⟩) j c (L.take j) rfl SA.out l1.out l2.out ?_)
          intro V9 w9 r9 g9
          have g10 : w8.grownBy w9 none := gb_new (gb_trans (gb_alloc w8 (.cells #[] 72) (some w8.heap.size)) g9) (Nat.le_refl _)
          have r9 : RI w9 w8.heap.size V9 wi (L.take j) := by simpa using r9
          obtain ⟨a9, d9, rfl⟩ := r9.shape
          obtain ⟨n9, hn9⟩ : ∃ k, k = (L.take j).length := ⟨_, rfl⟩
          rw [← hn9] at r9 ⊢
          have R9 := Lib.hid r9
          clear hn9
          have G9 := Lib.hid (gb_trans G8.out g10)
          have F1 := Lib.hid (E1.out.keep0 g10)
          have F2 := Lib.hid (E2.out.keep0 g10)
          have FY := Lib.hid (EY.out.keep0 g10)
          have Z8 := Lib.hid (show w6.heap.size ≤ w8.heap.size from G8.out.size)
          have Z9 := Lib.hid (show w8.heap.size ≤ w9.heap.size from g10.size)
          clear r9 g9 g10 e1' E0 SA l1 l2
          generalize w8.heap.size = z8 at *
          have y0 := FY.out.cell 0
          have y1 := FY.out.cell 1
          have y2 := FY.out.cell 2
          dsimp at y0 y1 y2
          have SY := Lib.hid (show S3 (itI wi) (w9.alloc (.cells #[.int .u32 pv, .int .i64 mm, .int .i64 x] 72)) (some ⟨w9.heap.size, 0, none⟩) 1 1 [(p, x)] from ⟨rfl, (by intro e; cases e), fun ad e j u hu => by injection e with e; subst e; exact new_cells _ _ _ (itI wi (p, x)) _ (IsB.new w9 72 #[.int .u32 pv, .int .i64 mm, .int .i64 x]) (by rw [I3.out]) j u (by simpa using hu)⟩)
          have RA := Lib.hid (R9.out.keep0 (gb_alloc w9 (.cells #[.int .u32 pv, .int .i64 mm, .int .i64 x] 72) none))
          have FA1 := Lib.hid (F1.out.keep0 (gb_alloc w9 (.cells #[.int .u32 pv, .int .i64 mm, .int .i64 x] 72) none))
          have FA2 := Lib.hid (F2.out.keep0 (gb_alloc w9 (.cells #[.int .u32 pv, .int .i64 mm, .int .i64 x] 72) none))
          have l3 := Lib.hid (show (L.take j).length + [(p, x)].length ≤ 1000000 by have := HN.out; have := NB.out; first | (simp; done) | (simp; omega))
          have l4 := Lib.hid (show z8 ≤ (w9.alloc (.cells #[.int .u32 pv, .int .i64 mm, .int .i64 x] 72)).heap.size by rw [sz_al]; exact Nat.le_succ_of_le Z9.out)
          have GA := Lib.hid (gb_trans G9.out (gb_alloc w9 (.cells #[.int .u32 pv, .int .i64 mm, .int .i64 x] 72) none))
          go_wp2_with (at_builtin; refine pushI rfl _ _ rfl z8 _ wi (L.take j) rfl RA.out (some ⟨w9.heap.size, 0, none⟩) 1 1 [(p, x)] rfl SY.out l3.out l4.out ?_)
          intro V10 w10 r10 g10
          have r10 : RI w10 z8 V10 wi (L.take j ++ [(p, x)]) := by first | exact r10 | simpa using r10
          obtain ⟨a10, d10, rfl⟩ := r10.shape
          obtain ⟨n10, hn10⟩ : ∃ k, k = (L.take j ++ [(p, x)]).length := ⟨_, rfl⟩
          rw [← hn10] at r10 ⊢
          have o1 := own_ne RA.out FA1.out (by decide)
          have o2 := own_ne RA.out FA2.out (by decide)
          have LW := Lib.hid (fun g (e : (Value.slice a9 n9 d9).ownBlock = some g) => (World.ownsRow.lt RA.out g e).1)
          have H1 := Lib.hid (FA1.out.keep g10 (Ne.symm o1))
          have H2 := Lib.hid (FA2.out.keep g10 (Ne.symm o2))
          have R10 := Lib.hid r10
          clear hn10
          have G10 := Lib.hid (gb_lows GA.out g10 fun g e => Nat.le_trans Z8.out (LW.out g e))
          have Z10 := Lib.hid (show z8 ≤ w10.heap.size from Nat.le_trans l4.out g10.size)
          clear r10 g10 o1 o2 LW l3 l4 SY y0 y1 y2
          have e1 := H1.out.cell 1
          dsimp at e1
          have SD2 := Lib.hid (SD.out _ G10.out)
          have l5 := Lib.hid (show (L.take j ++ [(p, x)]).length + (L.drop j).length ≤ 1000000 by have := HN.out; have := NB.out; first | (simp; done) | (simp; omega))
          go_wp2_with (at_builtin; refine pushI rfl _ _ rfl z8 _ wi (L.take j ++ [(p, x)]) rfl R10.out (some ⟨g, j * 3, none⟩) (n - j) (c - j) (L.drop j) rfl SD2.out l5.out Z10.out ?_)
          intro V11 w11 r11 g11
          have r11 : RI w11 z8 V11 wi LL := by rw [JL.out]; first | exact r11 | simpa using r11
          obtain ⟨a11, d11, rfl⟩ := r11.shape
          obtain ⟨m6, hm6⟩ : ∃ m6, m6 = LL.length := ⟨_, rfl⟩
          have M6 := Lib.hid hm6
          rw [← hm6] at r11 ⊢
          clear hm6
          have o1 := own_ne R10.out H1.out (by decide)
          have o2 := own_ne R10.out H2.out (by decide)
          have LW := Lib.hid (fun g (e : (Value.slice a10 n10 d10).ownBlock = some g) => (World.ownsRow.lt R10.out g e).1)
          have q1 := H1.out.keep g11 (Ne.symm o1)
          have q2 := H2.out.keep g11 (Ne.symm o2)
          have Q1 := Lib.hid q1
          have R6 := Lib.hid r11
          have G11 := Lib.hid (gb_trans G6.out (gb_lows G10.out g11 fun g e => Nat.le_trans Z8.out (LW.out g e)))
          have h0 := q1.cell 0
          have h1 := q1.cell 1
          have h2 := q1.free 1
          dsimp at h0 h1
          have Y1 := q1.set 1 (.slice a11 m6 d11)
          have Y2 := q2.set_far (Ne.symm Z12.out) 1 (.slice a11 m6 d11)
          have h5 : (w11.setCell ⟨z1, 1, none⟩ (.slice a11 m6 d11)).cell? ⟨z1, 0, none⟩ = some (.int .i64 wi) := Y1.cell 0
          have h6 : (w11.setCell ⟨z1, 1, none⟩ (.slice a11 m6 d11)).cell? ⟨z1, 1, none⟩ = some (.slice a11 m6 d11) := Y1.cell 1
          have h7 := Y2.free 0
          have h9 : (w11.setCell ⟨z1, 1, none⟩ (.slice a11 m6 d11)).cell? ⟨z2, 0, none⟩ = some (.int .i64 0) := Y2.cell 0
          have h10 : (w11.setCell ⟨z1, 1, none⟩ (.slice a11 m6 d11)).cell? ⟨z2, 1, none⟩ = some (.slice none 0 0) := Y2.cell 1
          have h8 := Y2.free 1
          replace Y2 := Lib.hid Y2
          clear r11 g11 q1 q2 o1 o2 e1 Y1
          go_wp2
          (try simp only [Exit.inBlock, Exit.then])
          refine bodyPost_ret (v := .tuple #[.agg #[.int .i64 wi, .slice a11 m6 d11], .int .i64 0]) (by rw [results_cell_tmp rfl]; go_simp; try rfl) rfl ⟨a11, m6, d11, rfl, M6.out, ?_, gb_put (gb_put (gb_put G11.out Z1.out) Z2.out) Z2.out⟩
          exact own_kept (own_kept (own_kept R6.out.low Q1.out (by decide)) Y2.out (by decide)) (Y2.out.set 0 _) (by decide)
    · have i1 : decide ((j : Int) < n) = false := decide_eq_false (by omega)
      have JE := Lib.hid (show j = ia from by have := JA.out; have := IA.out; have := HN.out; have := JN.out; omega)
      go_upto_region 7 with fail
      go_quiet (fail)
      have G8 := Lib.hid (gb_trans G.out (gb_drewN wr nq none))
      clear c1 y0
      obtain ⟨w8, hw8⟩ : ∃ W, W = wr.drewN nq := ⟨_, rfl⟩
      rw [← hw8] at G8 ⊢
      clear hw8
      have JM := JN.out
      have E1 := Lib.hid (D1.out.keep0 G8.out)
      have E2 := Lib.hid (D2.out.keep0 G8.out)
      have EY := Lib.hid (BY.out.keep0 G8.out)
      have JL := Lib.hid (show LL = L.take j ++ (p, x) :: L.drop j by rw [JE.out]; exact IL.out)
      have e1 := E1.out.cell 1
      dsimp at e1
      have k0 : (0 : Int) ≤ (j : Int) := by omega
      have k2 : (j : Int) ≤ c := by have := CP.out; omega
      have k3 : (j : Int) ≤ n := by omega
      have k4 : j ≤ c := by have := CP.out; omega
      cases a with
      | none =>
        obtain ⟨hn0, hc0⟩ := (SS.out w (gb_refl _ _)).2.1 rfl
        obtain rfl : j = 0 := by omega
        subst hn0 hc0
        have ST := Lib.hid (show ∀ W, w6.grownBy W none → S3 (itI wi) W none 0 0 (L.take 0) from fun W k => (SS.out W (gb_trans G6.out k)).pre (itI_3 wi) 0 (Nat.le_refl _))
        have SD := Lib.hid (show ∀ W, w6.grownBy W none → S3 (itI wi) W none 0 0 (L.drop 0) from fun W k => SS.out W (gb_trans G6.out k))
        have e1' := (E1.out.keep0 (gb_alloc w8 (.cells #[] 72) none)).cell 1
        dsimp at e1'
        have E0 := Lib.hid (show RI (w8.alloc (.cells #[] 72)) w8.heap.size (.slice (some ⟨w8.heap.size, 0, none⟩) 0 0) wi [] from World.ownsRow_lit (base := w8.heap.size) (e := 72) (size := 3) w8 #[] 0 (Nat.le_refl _) (by unfold maxLen; omega) (by simp))
        have SA := Lib.hid (ST.out _ (gb_trans G8.out (gb_alloc w8 (.cells #[] 72) none)))
        have l1 := Lib.hid (show ([] : List Ent).length + (L.take 0).length ≤ 1000000 by have := HN.out; have := NB.out; first | (simp; done) | (simp; omega))
        have l2 := Lib.hid (show w8.heap.size ≤ (w8.alloc (.cells #[] 72)).heap.size by rw [sz_al]; omega)
        go_wp2_with (at_builtin; refine pushI rfl _ _ rfl w8.heap.size _ wi [] rfl E0.out none 0 0 (L.take 0) rfl SA.out l1.out l2.out ?_)
        intro V9 w9 r9 g9
        have g10 : w8.grownBy w9 none := gb_new (gb_trans (gb_alloc w8 (.cells #[] 72) (some w8.heap.size)) g9) (Nat.le_refl _)
        have r9 : RI w9 w8.heap.size V9 wi (L.take 0) := by simpa using r9
        obtain ⟨a9, d9, rfl⟩ := r9.shape
        obtain ⟨n9, hn9⟩ : ∃ k, k = (L.take 0).length := ⟨_, rfl⟩
        rw [← hn9] at r9 ⊢
        have R9 := Lib.hid r9
        clear hn9
        have G9 := Lib.hid (gb_trans G8.out g10)
        have F1 := Lib.hid (E1.out.keep0 g10)
        have F2 := Lib.hid (E2.out.keep0 g10)
        have FY := Lib.hid (EY.out.keep0 g10)
        have Z8 := Lib.hid (show w6.heap.size ≤ w8.heap.size from G8.out.size)
        have Z9 := Lib.hid (show w8.heap.size ≤ w9.heap.size from g10.size)
        clear r9 g9 g10 e1' E0 SA l1 l2
        generalize w8.heap.size = z8 at *
        have y0 := FY.out.cell 0
        have y1 := FY.out.cell 1
        have y2 := FY.out.cell 2
        dsimp at y0 y1 y2
        have SY := Lib.hid (show S3 (itI wi) (w9.alloc (.cells #[.int .u32 pv, .int .i64 mm, .int .i64 x] 72)) (some ⟨w9.heap.size, 0, none⟩) 1 1 [(p, x)] from ⟨rfl, (by intro e; cases e), fun ad e j u hu => by injection e with e; subst e; exact new_cells _ _ _ (itI wi (p, x)) _ (IsB.new w9 72 #[.int .u32 pv, .int .i64 mm, .int .i64 x]) (by rw [I3.out]) j u (by simpa using hu)⟩)
        have RA := Lib.hid (R9.out.keep0 (gb_alloc w9 (.cells #[.int .u32 pv, .int .i64 mm, .int .i64 x] 72) none))
        have FA1 := Lib.hid (F1.out.keep0 (gb_alloc w9 (.cells #[.int .u32 pv, .int .i64 mm, .int .i64 x] 72) none))
        have FA2 := Lib.hid (F2.out.keep0 (gb_alloc w9 (.cells #[.int .u32 pv, .int .i64 mm, .int .i64 x] 72) none))
        have l3 := Lib.hid (show (L.take 0).length + [(p, x)].length ≤ 1000000 by have := HN.out; have := NB.out; first | (simp; done) | (simp; omega))
        have l4 := Lib.hid (show z8 ≤ (w9.alloc (.cells #[.int .u32 pv, .int .i64 mm, .int .i64 x] 72)).heap.size by rw [sz_al]; exact Nat.le_succ_of_le Z9.out)
        have GA := Lib.hid (gb_trans G9.out (gb_alloc w9 (.cells #[.int .u32 pv, .int .i64 mm, .int .i64 x] 72) none))
        go_wp2_with (at_builtin; refine pushI rfl _ _ rfl z8 _ wi (L.take 0) rfl RA.out (some ⟨w9.heap.size, 0, none⟩) 1 1 [(p, x)] rfl SY.out l3.out l4.out ?_)
        intro V10 w10 r10 g10
        have r10 : RI w10 z8 V10 wi (L.take 0 ++ [(p, x)]) := by first | exact r10 | simpa using r10
        obtain ⟨a10, d10, rfl⟩ := r10.shape
        obtain ⟨n10, hn10⟩ : ∃ k, k = (L.take 0 ++ [(p, x)]).length := ⟨_, rfl⟩
        rw [← hn10] at r10 ⊢
        have o1 := own_ne RA.out FA1.out (by decide)
        have o2 := own_ne RA.out FA2.out (by decide)
        have LW := Lib.hid (fun g (e : (Value.slice a9 n9 d9).ownBlock = some g) => (World.ownsRow.lt RA.out g e).1)
        have H1 := Lib.hid (FA1.out.keep g10 (Ne.symm o1))
        have H2 := Lib.hid (FA2.out.keep g10 (Ne.symm o2))
        have R10 := Lib.hid r10
        clear hn10
        have G10 := Lib.hid (gb_lows GA.out g10 fun g e => Nat.le_trans Z8.out (LW.out g e))
        have Z10 := Lib.hid (show z8 ≤ w10.heap.size from Nat.le_trans l4.out g10.size)
        clear r10 g10 o1 o2 LW l3 l4 SY y0 y1 y2
        have e1 := H1.out.cell 1
        dsimp at e1
        have SD2 := Lib.hid (SD.out _ G10.out)
        have l5 := Lib.hid (show (L.take 0 ++ [(p, x)]).length + (L.drop 0).length ≤ 1000000 by have := HN.out; have := NB.out; first | (simp; done) | (simp; omega))
        go_wp2_with (at_builtin; refine pushI rfl _ _ rfl z8 _ wi (L.take 0 ++ [(p, x)]) rfl R10.out none 0 0 (L.drop 0) rfl SD2.out l5.out Z10.out ?_)
        intro V11 w11 r11 g11
        have r11 : RI w11 z8 V11 wi LL := by rw [JL.out]; first | exact r11 | simpa using r11
        obtain ⟨a11, d11, rfl⟩ := r11.shape
        obtain ⟨m6, hm6⟩ : ∃ m6, m6 = LL.length := ⟨_, rfl⟩
        have M6 := Lib.hid hm6
        rw [← hm6] at r11 ⊢
        clear hm6
        have o1 := own_ne R10.out H1.out (by decide)
        have o2 := own_ne R10.out H2.out (by decide)
        have LW := Lib.hid (fun g (e : (Value.slice a10 n10 d10).ownBlock = some g) => (World.ownsRow.lt R10.out g e).1)
        have q1 := H1.out.keep g11 (Ne.symm o1)
        have q2 := H2.out.keep g11 (Ne.symm o2)
        have Q1 := Lib.hid q1
        have R6 := Lib.hid r11
        have G11 := Lib.hid (gb_trans G6.out (gb_lows G10.out g11 fun g e => Nat.le_trans Z8.out (LW.out g e)))
        have h0 := q1.cell 0
        have h1 := q1.cell 1
        have h2 := q1.free 1
        dsimp at h0 h1
        have Y1 := q1.set 1 (.slice a11 m6 d11)
        have Y2 := q2.set_far (Ne.symm Z12.out) 1 (.slice a11 m6 d11)
        have h5 : (w11.setCell ⟨z1, 1, none⟩ (.slice a11 m6 d11)).cell? ⟨z1, 0, none⟩ = some (.int .i64 wi) := Y1.cell 0
        have h6 : (w11.setCell ⟨z1, 1, none⟩ (.slice a11 m6 d11)).cell? ⟨z1, 1, none⟩ = some (.slice a11 m6 d11) := Y1.cell 1
        have h7 := Y2.free 0
        have h9 : (w11.setCell ⟨z1, 1, none⟩ (.slice a11 m6 d11)).cell? ⟨z2, 0, none⟩ = some (.int .i64 0) := Y2.cell 0
        have h10 : (w11.setCell ⟨z1, 1, none⟩ (.slice a11 m6 d11)).cell? ⟨z2, 1, none⟩ = some (.slice none 0 0) := Y2.cell 1
        have h8 := Y2.free 1
        replace Y2 := Lib.hid Y2
        clear r11 g11 q1 q2 o1 o2 e1 Y1
        go_wp2
        (try simp only [Exit.inBlock, Exit.then])
        refine bodyPost_ret (v := .tuple #[.agg #[.int .i64 wi, .slice a11 m6 d11], .int .i64 0]) (by rw [results_cell_tmp rfl]; go_simp; try rfl) rfl ⟨a11, m6, d11, rfl, M6.out, ?_, gb_put (gb_put (gb_put G11.out Z1.out) Z2.out) Z2.out⟩
        exact own_kept (own_kept (own_kept R6.out.low Q1.out (by decide)) Y2.out (by decide)) (Y2.out.set 0 _) (by decide)
      | some ad =>
        obtain ⟨g, rfl⟩ := SO.out ad rfl
        by_cases hce : c = j
        · subst hce
          have hnc : c = n := by have := CP.out; omega
          subst hnc
          have ST := Lib.hid (fun (W : World) (k : w6.grownBy W none) => (SS.out W (gb_trans G6.out k)).pre (itI_3 wi) c JM)
          have SD := Lib.hid (show ∀ W, w6.grownBy W none → S3 (itI wi) W (some ⟨g, 0, none⟩) 0 0 (L.drop c) from fun W k => by have q := (SS.out W (gb_trans G6.out k)).cut (itI_3 wi) c JM CP.out; rw [if_pos rfl, Nat.sub_self] at q; exact q)
          have e1' := (E1.out.keep0 (gb_alloc w8 (.cells #[] 72) none)).cell 1
          dsimp at e1'
          have E0 := Lib.hid (show RI (w8.alloc (.cells #[] 72)) w8.heap.size (.slice (some ⟨w8.heap.size, 0, none⟩) 0 0) wi [] from World.ownsRow_lit (base := w8.heap.size) (e := 72) (size := 3) w8 #[] 0 (Nat.le_refl _) (by unfold maxLen; omega) (by simp))
          have SA := Lib.hid (ST.out _ (gb_trans G8.out (gb_alloc w8 (.cells #[] 72) none)))
          have l1 := Lib.hid (show ([] : List Ent).length + (L.take c).length ≤ 1000000 by have := HN.out; have := NB.out; first | (simp; done) | (simp; omega))
          have l2 := Lib.hid (show w8.heap.size ≤ (w8.alloc (.cells #[] 72)).heap.size by rw [sz_al]; omega)
          go_wp2_with (at_builtin; refine pushI rfl _ _ rfl w8.heap.size _ wi [] rfl E0.out (some ⟨g, 0, none⟩) c c (L.take c) rfl SA.out l1.out l2.out ?_)
          intro V9 w9 r9 g9
          have g10 : w8.grownBy w9 none := gb_new (gb_trans (gb_alloc w8 (.cells #[] 72) (some w8.heap.size)) g9) (Nat.le_refl _)
          have r9 : RI w9 w8.heap.size V9 wi (L.take c) := by simpa using r9
          obtain ⟨a9, d9, rfl⟩ := r9.shape
          obtain ⟨n9, hn9⟩ : ∃ k, k = (L.take c).length := ⟨_, rfl⟩
          rw [← hn9] at r9 ⊢
          have R9 := Lib.hid r9
          clear hn9
          have G9 := Lib.hid (gb_trans G8.out g10)
          have F1 := Lib.hid (E1.out.keep0 g10)
          have F2 := Lib.hid (E2.out.keep0 g10)
          have FY := Lib.hid (EY.out.keep0 g10)
          have Z8 := Lib.hid (show w6.heap.size ≤ w8.heap.size from G8.out.size)
          have Z9 := Lib.hid (show w8.heap.size ≤ w9.heap.size from g10.size)
          clear r9 g9 g10 e1' E0 SA l1 l2
          generalize w8.heap.size = z8 at *
          have y0 := FY.out.cell 0
          have y1 := FY.out.cell 1
          have y2 := FY.out.cell 2
          dsimp at y0 y1 y2
          have SY := Lib.hid (show S3 (itI wi) (w9.alloc (.cells #[.int .u32 pv, .int .i64 mm, .int .i64 x] 72)) (some ⟨w9.heap.size, 0, none⟩) 1 1 [(p, x)] from ⟨rfl, (by intro e; cases e), fun ad e c u hu => by injection e with e; subst e; exact new_cells _ _ _ (itI wi (p, x)) _ (IsB.new w9 72 #[.int .u32 pv, .int .i64 mm, .int .i64 x]) (by rw [I3.out]) c u (by simpa using hu)⟩)
          have RA := Lib.hid (R9.out.keep0 (gb_alloc w9 (.cells #[.int .u32 pv, .int .i64 mm, .int .i64 x] 72) none))
          have FA1 := Lib.hid (F1.out.keep0 (gb_alloc w9 (.cells #[.int .u32 pv, .int .i64 mm, .int .i64 x] 72) none))
          have FA2 := Lib.hid (F2.out.keep0 (gb_alloc w9 (.cells #[.int .u32 pv, .int .i64 mm, .int .i64 x] 72) none))
          have l3 := Lib.hid (show (L.take c).length + [(p, x)].length ≤ 1000000 by have := HN.out; have := NB.out; first | (simp; done) | (simp; omega))
          have l4 := Lib.hid (show z8 ≤ (w9.alloc (.cells #[.int .u32 pv, .int .i64 mm, .int .i64 x] 72)).heap.size by rw [sz_al]; exact Nat.le_succ_of_le Z9.out)
          have GA := Lib.hid (gb_trans G9.out (gb_alloc w9 (.cells #[.int .u32 pv, .int .i64 mm, .int .i64 x] 72) none))
          go_wp2_with (at_builtin; refine pushI rfl _ _ rfl z8 _ wi (L.take c) rfl RA.out (some ⟨w9.heap.size, 0, none⟩) 1 1 [(p, x)] rfl SY.out l3.out l4.out ?_)
          intro V10 w10 r10 g10
          have r10 : RI w10 z8 V10 wi (L.take c ++ [(p, x)]) := by first | exact r10 | simpa using r10
          obtain ⟨a10, d10, rfl⟩ := r10.shape
          obtain ⟨n10, hn10⟩ : ∃ k, k = (L.take c ++ [(p, x)]).length := ⟨_, rfl⟩
          rw [← hn10] at r10 ⊢
          have o1 := own_ne RA.out FA1.out (by decide)
          have o2 := own_ne RA.out FA2.out (by decide)
          have LW := Lib.hid (fun g (e : (Value.slice a9 n9 d9).ownBlock = some g) => (World.ownsRow.lt RA.out g e).1)
          have H1 := Lib.hid (FA1.out.keep g10 (Ne.symm o1))
          have H2 := Lib.hid (FA2.out.keep g10 (Ne.symm o2))
          have R10 := Lib.hid r10
          clear hn10
          have G10 := Lib.hid (gb_lows GA.out g10 fun g e => Nat.le_trans Z8.out (LW.out g e))
          have Z10 := Lib.hid (show z8 ≤ w10.heap.size from Nat.le_trans l4.out g10.size)
          clear r10 g10 o1 o2 LW l3 l4 SY y0 y1 y2
          have e1 := H1.out.cell 1
          dsimp at e1
          have SD2 := Lib.hid (SD.out _ G10.out)
          have l5 := Lib.hid (show (L.take c ++ [(p, x)]).length + (L.drop c).length ≤ 1000000 by have := HN.out; have := NB.out; first | (simp; done) | (simp; omega))
          go_wp2_with (at_builtin; refine pushI rfl _ _ rfl z8 _ wi (L.take c ++ [(p, x)]) rfl R10.out (some ⟨g, 0, none⟩) 0 0 (L.drop c) rfl SD2.out l5.out Z10.out ?_)
          intro V11 w11 r11 g11
          have r11 : RI w11 z8 V11 wi LL := by rw [JL.out]; first | exact r11 | simpa using r11
          obtain ⟨a11, d11, rfl⟩ := r11.shape
          obtain ⟨m6, hm6⟩ : ∃ m6, m6 = LL.length := ⟨_, rfl⟩
          have M6 := Lib.hid hm6
          rw [← hm6] at r11 ⊢
          clear hm6
          have o1 := own_ne R10.out H1.out (by decide)
          have o2 := own_ne R10.out H2.out (by decide)
          have LW := Lib.hid (fun g (e : (Value.slice a10 n10 d10).ownBlock = some g) => (World.ownsRow.lt R10.out g e).1)
          have q1 := H1.out.keep g11 (Ne.symm o1)
          have q2 := H2.out.keep g11 (Ne.symm o2)
          have Q1 := Lib.hid q1
          have R6 := Lib.hid r11
          have G11 := Lib.hid (gb_trans G6.out (gb_lows G10.out g11 fun g e => Nat.le_trans Z8.out (LW.out g e)))
          have h0 := q1.cell 0
          have h1 := q1.cell 1
          have h2 := q1.free 1
          dsimp at h0 h1
          have Y1 := q1.set 1 (.slice a11 m6 d11)
          have Y2 := q2.set_far (Ne.symm Z12.out) 1 (.slice a11 m6 d11)
          have h5 : (w11.setCell ⟨z1, 1, none⟩ (.slice a11 m6 d11)).cell? ⟨z1, 0, none⟩ = some (.int .i64 wi) := Y1.cell 0
          have h6 : (w11.setCell ⟨z1, 1, none⟩ (.slice a11 m6 d11)).cell? ⟨z1, 1, none⟩ = some (.slice a11 m6 d11) := Y1.cell 1
          have h7 := Y2.free 0
          have h9 : (w11.setCell ⟨z1, 1, none⟩ (.slice a11 m6 d11)).cell? ⟨z2, 0, none⟩ = some (.int .i64 0) := Y2.cell 0
          have h10 : (w11.setCell ⟨z1, 1, none⟩ (.slice a11 m6 d11)).cell? ⟨z2, 1, none⟩ = some (.slice none 0 0) := Y2.cell 1
          have h8 := Y2.free 1
          replace Y2 := Lib.hid Y2
          clear r11 g11 q1 q2 o1 o2 e1 Y1
          go_wp2
          (try simp only [Exit.inBlock, Exit.then])
          refine bodyPost_ret (v := .tuple #[.agg #[.int .i64 wi, .slice a11 m6 d11], .int .i64 0]) (by rw [results_cell_tmp rfl]; go_simp; try rfl) rfl ⟨a11, m6, d11, rfl, M6.out, ?_, gb_put (gb_put (gb_put G11.out Z1.out) Z2.out) Z2.out⟩
          exact own_kept (own_kept (own_kept R6.out.low Q1.out (by decide)) Y2.out (by decide)) (Y2.out.set 0 _) (by decide)
        · have ST := Lib.hid (fun (W : World) (k : w6.grownBy W none) => (SS.out W (gb_trans G6.out k)).pre (itI_3 wi) j JM)
          have SD := Lib.hid (show ∀ W, w6.grownBy W none → S3 (itI wi) W (some ⟨g, j * 3, none⟩) (n - j) (c - j) (L.drop j) from fun W k => by have q := (SS.out W (gb_trans G6.out k)).cut (itI_3 wi) j JM CP.out; rwa [if_neg hce] at q)
          have e1' := (E1.out.keep0 (gb_alloc w8 (.cells #[] 72) none)).cell 1
          dsimp at e1'
          have E0 := Lib.hid (show RI (w8.alloc (.cells #[] 72)) w8.heap.size (.slice (some ⟨w8.heap.size, 0, none⟩) 0 0) wi [] from World.ownsRow_lit (base := w8.heap.size) (e := 72) (size := 3) w8 #[] 0 (Nat.le_refl _) (by unfold maxLen; omega) (by simp))
          have SA := Lib.hid (ST.out _ (gb_trans G8.out (gb_alloc w8 (.cells #[] 72) none)))
          have l1 := Lib.hid (show ([] : List Ent).length + (L.take j).length ≤ 1000000 by have := HN.out; have := NB.out; first | (simp; done) | (simp; omega))
          have l2 := Lib.hid (show w8.heap.size ≤ (w8.alloc (.cells #[] 72)).heap.size by rw [sz_al]; omega)
          go_wp2_with (at_builtin; refine pushI rfl _ _ rfl w8.heap.size _ wi [] rfl E0.out (some ⟨g, 0, none⟩) j c (L.take j) rfl SA.out l1.out l2.out ?_)
          intro V9 w9 r9 g9
          have g10 : w8.grownBy w9 none := gb_new (gb_trans (gb_alloc w8 (.cells #[] 72) (some w8.heap.size)) g9) (Nat.le_refl _)
          have r9 : RI w9 w8.heap.size V9 wi (L.take j) := by simpa using r9
          obtain ⟨a9, d9, rfl⟩ := r9.shape
          obtain ⟨n9, hn9⟩ : ∃ k, k = (L.take j).length := ⟨_, rfl⟩
          rw [← hn9] at r9 ⊢
          have R9 := Lib.hid r9
          clear hn9
          have G9 := Lib.hid (gb_trans G8.out g10)
          have F1 := Lib.hid (E1.out.keep0 g10)
          have F2 := Lib.hid (E2.out.keep0 g10)
          have FY := Lib.hid (EY.out.keep0 g10)
          have Z8 := Lib.hid (show w6.heap.size ≤ w8.heap.size from G8.out.size)
          have Z9 := Lib.hid (show w8.heap.size ≤ w9.heap.size from g10.size)
          clear r9 g9 g10 e1' E0 SA l1 l2
          generalize w8.heap.size = z8 at *
          have y0 := FY.out.cell 0
          have y1 := FY.out.cell 1
          have y2 := FY.out.cell 2
          dsimp at y0 y1 y2
          have SY := Lib.hid (show S3 (itI wi) (w9.alloc (.cells #[.int .u32 pv, .int .i64 mm, .int .i64 x] 72)) (some ⟨w9.heap.size, 0, none⟩) 1 1 [(p, x)] from ⟨rfl, (by intro e; cases e), fun ad e j u hu => by injection e with e; subst e; exact new_cells _ _ _ (itI wi (p, x)) _ (IsB.new w9 72 #[.int .u32 pv, .int .i64 mm, .int .i64 x]) (by rw [I3.out]) j u (by simpa using hu)⟩)
          have RA := Lib.hid (R9.out.keep0 (gb_alloc w9 (.cells #[.int .u32 pv, .int .i64 mm, .int .i64 x] 72) none))
          have FA1 := Lib.hid (F1.out.keep0 (gb_alloc w9 (.cells #[.int .u32 pv, .int .i64 mm, .int .i64 x] 72) none))
          have FA2 := Lib.hid (F2.out.keep0 (gb_alloc w9 (.cells #[.int .u32 pv, .int .i64 mm, .int .i64 x] 72) none))
          have l3 := Lib.hid (show (L.take j).length + [(p, x)].length ≤ 1000000 by have := HN.out; have := NB.out; first | (simp; done) | (simp; omega))
          have l4 := Lib.hid (show z8 ≤ (w9.alloc (.cells #[.int .u32 pv, .int .i64 mm, .int .i64 x] 72)).heap.size by rw [sz_al]; exact Nat.le_succ_of_le Z9.out)
          have GA := Lib.hid (gb_trans G9.out (gb_alloc w9 (.cells #[.int .u32 pv, .int .i64 mm, .int .i64 x] 72) none))
          go_wp2_with (at_builtin; refine pushI rfl _ _ rfl z8 _ wi (L.take j) rfl RA.out (some ⟨w9.heap.size, 0, none⟩) 1 1 [(p, x)] rfl SY.out l3.out l4.out ?_)
          intro V10 w10 r10 g10
          have r10 : RI w10 z8 V10 wi (L.take j ++ [(p, x)]) := by first | exact r10 | simpa using r10
          obtain ⟨a10, d10, rfl⟩ := r10.shape
          obtain ⟨n10, hn10⟩ : ∃ k, k = (L.take j ++ [(p, x)]).length := ⟨_, rfl⟩
          rw [← hn10] at r10 ⊢
          have o1 := own_ne RA.out FA1.out (by decide)
          have o2 := own_ne RA.out FA2.out (by decide)
          have LW := Lib.hid (fun g (e : (Value.slice a9 n9 d9).ownBlock = some g) => (World.ownsRow.lt RA.out g e).1)
          have H1 := Lib.hid (FA1.out.keep g10 (Ne.symm o1))
          have H2 := Lib.hid (FA2.out.keep g10 (Ne.symm o2))
          have R10 := Lib.hid r10
          clear hn10
          have G10 := Lib.hid (gb_lows GA.out g10 fun g e => Nat.le_trans Z8.out (LW.out g e))
          have Z10 := Lib.hid (show z8 ≤ w10.heap.size from Nat.le_trans l4.out g10.size)
          clear r10 g10 o1 o2 LW l3 l4 SY y0 y1 y2
          have e1 := H1.out.cell 1
          dsimp at e1
          have SD2 := Lib.hid (SD.out _ G10.out)
          have l5 := Lib.hid (show (L.take j ++ [(p, x)]).length + (L.drop j).length ≤ 1000000 by have := HN.out; have := NB.out; first | (simp; done) | (simp; omega))
          go_wp2_with (at_builtin; refine pushI rfl _ _ rfl z8 _ wi (L.take j ++ [(p, x)]) rfl R10.out (some ⟨g, j * 3, none⟩) (n - j) (c - j) (L.drop j) rfl SD2.out l5.out Z10.out ?_)
          intro V11 w11 r11 g11
          have r11 : RI w11 z8 V11 wi LL := by rw [JL.out]; first | exact r11 | simpa using r11
          obtain ⟨a11, d11, rfl⟩ := r11.shape
          obtain ⟨m6, hm6⟩ : ∃ m6, m6 = LL.length := ⟨_, rfl⟩
          have M6 := Lib.hid hm6
          rw [← hm6] at r11 ⊢
          clear hm6
          have o1 := own_ne R10.out H1.out (by decide)
          have o2 := own_ne R10.out H2.out (by decide)
          have LW := Lib.hid (fun g (e : (Value.slice a10 n10 d10).ownBlock = some g) => (World.ownsRow.lt R10.out g e).1)
          have q1 := H1.out.keep g11 (Ne.symm o1)
          have q2 := H2.out.keep g11 (Ne.symm o2)
          have Q1 := Lib.hid q1
          have R6 := Lib.hid r11
          have G11 := Lib.hid (gb_trans G6.out (gb_lows G10.out g11 fun g e => Nat.le_trans Z8.out (LW.out g e)))
          have h0 := q1.cell 0
          have h1 := q1.cell 1
          have h2 := q1.free 1
          dsimp at h0 h1
          have Y1 := q1.set 1 (.slice a11 m6 d11)
          have Y2 := q2.set_far (Ne.symm Z12.out) 1 (.slice a11 m6 d11)
          have h5 : (w11.setCell ⟨z1, 1, none⟩ (.slice a11 m6 d11)).cell? ⟨z1, 0, none⟩ = some (.int .i64 wi) := Y1.cell 0
          have h6 : (w11.setCell ⟨z1, 1, none⟩ (.slice a11 m6 d11)).cell? ⟨z1, 1, none⟩ = some (.slice a11 m6 d11) := Y1.cell 1
          have h7 := Y2.free 0
          have h9 : (w11.setCell ⟨z1, 1, none⟩ (.slice a11 m6 d11)).cell? ⟨z2, 0, none⟩ = some (.int .i64 0) := Y2.cell 0
          have h10 : (w11.setCell ⟨z1, 1, none⟩ (.slice a11 m6 d11)).cell? ⟨z2, 1, none⟩ = some (.slice none 0 0) := Y2.cell 1
          have h8 := Y2.free 1
          replace Y2 := Lib.hid Y2
          clear r11 g11 q1 q2 o1 o2 e1 Y1
          go_wp2
          (try simp only [Exit.inBlock, Exit.then])
          refine bodyPost_ret (v := .tuple #[.agg #[.int .i64 wi, .slice a11 m6 d11], .int .i64 0]) (by rw [results_cell_tmp rfl]; go_simp; try rfl) rfl ⟨a11, m6, d11, rfl, M6.out, ?_, gb_put (gb_put (gb_put G11.out Z1.out) Z2.out) Z2.out⟩
          exact own_kept (own_kept (own_kept R6.out.low Q1.out (by decide)) Y2.out (by decide)) (Y2.out.set 0 _) (by decide)
end Go.Proofs.Ytidjggaffioekaa
