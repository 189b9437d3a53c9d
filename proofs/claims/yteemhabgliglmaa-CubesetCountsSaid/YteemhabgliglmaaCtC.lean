/- Cubeset: the program's Count, by what it itself does. -/
import Derived.Test.YteemhabgliglmaaCtB
import Derived.Test.YteemhabgliglmaaCsM
namespace Go.Proofs.Yteemhabgliglmaa
open Go.RowKit
set_option linter.unusedVariables false
theorem sc_pre {w : World} {ad : Addr} {n c : Nat} {L : List (Nat × Nat)} (h : SC w (some ad) n c L) (j : Nat) (hj : j ≤ n) : SC w (some ad) j j (L.take j) := by
  refine ⟨by rw [List.length_take, h.len]; omega, (fun e => by cases e), Nat.le_refl _, fun ad2 e t ht => ?_, fun p hp => h.wf p (List.mem_of_mem_take hp)⟩
  have k := h.cells ad2 e t (by omega)
  have e2 : (L.take j).getD t (0, 0) = L.getD t (0, 0) := by
    rw [List.getD_eq_getElem?_getD, List.getD_eq_getElem?_getD, List.getElem?_take, if_pos ht]
  rw [e2]
  exact k
/-- How many of the first k bits a cube leaves free. -/
def fbN (k : Nat) (p : Nat × Nat) : Nat := k - popTo k p.2
theorem fb_free (k : Nat) (h1 : 1 ≤ k) (h2 : k ≤ 64) (p : Nat × Nat) : freeN p.2 (k : Int) = (fbN k p : Int) := by
  unfold freeN fbN
  have := popTo_le k p.2
  rw [if_pos (by omega)]
  show (k : Int) - (popTo (k : Int).toNat p.2 : Nat) = _
  rw [Int.toNat_natCast]
  omega
def addF (k c : Nat) (p : Nat × Nat) : Nat := (c + 2 ^ fbN k p) % 18446744073709551616
/-- What the program counts of the last r cubes. -/
def pcG (k : Nat) (L : List (Nat × Nat)) : Nat → Nat → Nat × Int
  | 0, c => (c, 0)
  | r + 1, c => if (psL k [L.getD (L.length - (r + 1)) (0, 0)] (L.take (L.length - (r + 1)))).2 = 0 then pcG k L r ((psL k [L.getD (L.length - (r + 1)) (0, 0)] (L.take (L.length - (r + 1)))).1.foldl (addF k) c) else (0, (psL k [L.getD (L.length - (r + 1)) (0, 0)] (L.take (L.length - (r + 1)))).2)
def pcL (x : Int) (L : List (Nat × Nat)) : Nat × Int := if 1 ≤ x ∧ x ≤ 62 then pcG x.toNat L L.length 0 else (0, 10)
theorem psG_wf (k : Nat) (one : Bool) (h1 : 1 ≤ k) (h2 : k ≤ 64) : ∀ (M l : List (Nat × Nat)), (∀ p ∈ M, B64 p.1 ∧ B64 p.2) → (∀ p ∈ l, B64 p.1 ∧ B64 p.2) → (l.length ≤ 1024) → (∀ p ∈ (psG k one M l).1, B64 p.1 ∧ B64 p.2) ∧ (psG k one M l).1.length ≤ 1024 := by
  intro M
  induction M with
  | nil => intro l _ hl hn; exact ⟨hl, hn⟩
  | cons x t ih =>
    intro l hM hl hn
    have hr := wRow_wf k h1 h2 x l (hM x (by simp)) hl
    have hs := simpL_wf' _ hr
    have ht : ∀ p ∈ t, B64 p.1 ∧ B64 p.2 := fun p hp => hM p (by simp [hp])
    unfold psG
    split
    · split
      · exact ⟨fun p hp => (by cases hp), Nat.zero_le _⟩
      · exact ih _ ht hs (by omega)
    · split
      · exact ⟨fun p hp => (by cases hp), Nat.zero_le _⟩
      · exact ih _ ht hr (by omega)
theorem psL_wf (k : Nat) (h1 : 1 ≤ k) (h2 : k ≤ 64) (L M : List (Nat × Nat)) (hL : ∀ p ∈ L, B64 p.1 ∧ B64 p.2) (hM : ∀ p ∈ M, B64 p.1 ∧ B64 p.2) : (∀ p ∈ (psL k L M).1, B64 p.1 ∧ B64 p.2) ∧ (psL k L M).1.length ≤ 1024 := by
  unfold psL
  split
  · exact ⟨fun p hp => (by cases hp), Nat.zero_le _⟩
  · exact psG_wf k _ h1 h2 M _ hM (simpL_wf' _ (resP_wf k L hL)) (by omega)
def RetCnt (c : Nat) (er : Int) (w : World) (e : Ending) (w' : World) : Prop := e = .returned (.tuple #[.int .u64 (c : Int), .int .i64 er]) ∧ w.grownBy w' none
set_option maxRecDepth 100000 in
set_option maxHeartbeats 8000000 in
theorem pcount_list (w : World) (a : Option Addr) (n c k : Nat) (L : List (Nat × Nat)) (h : SC w a n c L) (hn : n ≤ 10000) (hk1 : 1 ≤ k) (hk2 : k ≤ 62) : Calls Try.prog 30 #[.slice a n c, .int .i64 (k : Int)] w (RetCnt (pcG k L n 0).1 (pcG k L n 0).2 w) := by
  have HH := Lib.hid h
  have HL := Lib.hid h.len
  have HC := Lib.hid h.cap
  obtain ⟨R, hR⟩ : ∃ R, R = pcG k L n 0 := ⟨_, rfl⟩
  rw [← hR]
  have HR := Lib.hid hR
  have K1 := Lib.hid hk1
  have K2 := Lib.hid hk2
  clear h hR
  have g1 : ¬ (k : Int) < 1 := by omega
  have g2 : ¬ (62 : Int) < (k : Int) := by omega
  clear hk1 hk2
  go_enter Try.func30, Try.ntmps30
  go_wp2
  go_loopw [6, 7, 9, 10, 21] (fun s6 s7 s9 s10 s21 wr => ∃ (j c0 : Nat), j ≤ n ∧ B64 c0 ∧ s21 = .int .i64 j ∧ s6 = .int .u64 c0 ∧ pcG k L (n - j) c0 = R ∧ w.grownBy wr none) (fun _ _ _ _ s21 _ => n - (intOf s21).toNat)
  case atStart => exact ⟨0, 0, Nat.zero_le _, (by unfold B64; decide), rfl, rfl, HR.out.symm, gb_refl _ _⟩
  case round =>
    obtain ⟨j, c0, hj, hc0, rfl, rfl, hp, hg⟩ := hrel
    have HP := Lib.hid hp
    have HG := Lib.hid hg
    have HC0 := Lib.hid hc0
    clear hp hg HR hc0
    by_cases hlt : j < n
    · obtain ⟨ad, rfl⟩ := HH.out.some (by omega)
      have i1 : (j : Int) < n := by omega
      have i0 : (0 : Int) ≤ (j : Int) := by omega
      have hcap := HC.out
      have ic : (j : Int) ≤ c := by omega
      obtain ⟨d0, d1⟩ := (HH.out.keep0 HG.out).cells ad rfl j hlt
      obtain ⟨b0, b1⟩ := HH.out.wfAt j hlt
      have B0 := Lib.hid b0
      have B1 := Lib.hid b1
      have ST := Lib.hid (show (if (psL k [L.getD j (0, 0)] (L.take j)).2 = 0 then pcG k L (n - j - 1) ((psL k [L.getD j (0, 0)] (L.take j)).1.foldl (addF k) c0) else (0, (psL k [L.getD j (0, 0)] (L.take j)).2)) = R by
        have := HP.out
        rw [show n - j = (n - j - 1) + 1 by omega] at this
        unfold pcG at this
        rw [show L.length - (n - j - 1 + 1) = j by rw [HL.out]; omega] at this
        exact this)
      have PW := Lib.hid (psL_wf k K1.out (by have := K2.out; omega) [L.getD j (0, 0)] (L.take j) (fun p hp => by rw [List.mem_singleton.1 hp]; exact ⟨b0, b1⟩) (fun p hp => HH.out.wf p (List.mem_of_mem_take hp)))
      obtain ⟨q, hq⟩ : ∃ q, q = L.getD j (0, 0) := ⟨_, rfl⟩
      rw [← hq] at d0 d1 B0 B1 ST PW
      obtain ⟨v, m⟩ := q
      have PX := Lib.hid (show psX (k : Int) [(v, m)] (L.take j) = psL k [(v, m)] (L.take j) by unfold psX; rw [if_pos (by have := K1.out; have := K2.out; omega), Int.toNat_natCast])
      obtain ⟨Y, hY⟩ : ∃ Y, Y = psL k [(v, m)] (L.take j) := ⟨_, rfl⟩
      rw [← hY] at ST PW PX
      obtain ⟨W2, hW⟩ : ∃ W2, W2 = wr.alloc (.cells #[.int .u64 (v : Int), .int .u64 (m : Int)] 49) := ⟨_, rfl⟩
      have bw : IsB W2 wr.heap.size 49 #[.int .u64 (v : Int), .int .u64 (m : Int)] := by rw [hW]; exact IsB.new wr _ _
      have GW := Lib.hid (show wr.grownBy W2 none by rw [hW]; exact gb_alloc wr _ none)
      have KS := Lib.hid (fun (w' : World) (g : W2.grownBy w' none) => (⟨by simpa using (bw.keep0 g).cell 0, by simpa using (bw.keep0 g).cell 1, g⟩ : (fun w' : World => w'.cell? ⟨wr.heap.size, 0, none⟩ = some (.int .u64 (v : Int)) ∧ w'.cell? ⟨wr.heap.size, 1, none⟩ = some (.int .u64 (m : Int)) ∧ W2.grownBy w' none) w'))
      clear hq b0 b1 hY bw HP
      go_upto_region 7 with fail
      rw [← hW]
      clear hW
      refine wp_region_held_drew (S := (fun w' : World => w'.cell? ⟨wr.heap.size, 0, none⟩ = some (.int .u64 (v : Int)) ∧ w'.cell? ⟨wr.heap.size, 1, none⟩ = some (.int .u64 (m : Int)) ∧ W2.grownBy w' none)) (by kernel_rfl) (KS.out _ (gb_drew W2 none)) (fun hH0 => ?_)
      refine wpAnyH_take (i := 0) (v := ?v1) rfl (by kernel_rfl) (by kernel_rfl) (by kernel_rfl) (fun _ _ _ h => h) (Or.inl ⟨by rfl, ?hy1⟩) (by assumption) ?rest1
      case hy1 => (intro wz hSw; (try dsimp only at hSw); first | (go_simp; done) | (go_simp; with_reducible rfl))
      try simp only [Act.put, List.getElem_toArray, List.getElem_cons_zero, List.setIfInBounds_toArray, List.set_cons_zero, List.set_cons_succ]
      refine wpAnyH_take (i := 2) (v := ?v2) rfl (by kernel_rfl) (by kernel_rfl) (by kernel_rfl) (fun _ _ _ h => h) (Or.inl ⟨by rfl, ?hy2⟩) (by assumption) ?rest2
      case hy2 => (intro wz hSw; (try dsimp only at hSw); first | (go_simp; done) | (go_simp; with_reducible rfl))
      try simp only [Act.put, List.getElem_toArray, List.getElem_cons_succ, List.getElem_cons_zero, List.setIfInBounds_toArray, List.set_cons_zero, List.set_cons_succ]
      refine wpAnyH_take (i := 3) (v := ?v3) rfl (by kernel_rfl) (by kernel_rfl) (by kernel_rfl) (fun _ _ _ h => h) (Or.inl ⟨by rfl, ?hy3⟩) (by assumption) ?rest3
      case hy3 => (intro wz hSw; (try dsimp only at hSw); first | (go_simp; done) | (go_simp; with_reducible rfl))
      try simp only [Act.put, List.getElem_toArray, List.getElem_cons_succ, List.getElem_cons_zero, List.setIfInBounds_toArray, List.set_cons_zero, List.set_cons_succ]
      refine wpAnyH_take (i := 4) (v := ?v4) rfl (by kernel_rfl) (by kernel_rfl) (by kernel_rfl) (fun _ _ _ h => h) (Or.inl ⟨by rfl, ?hy4⟩) (by assumption) ?rest4
      case hy4 => (intro wz hSw; (try dsimp only at hSw); first | (go_simp; done) | (go_simp; with_reducible rfl))
      try simp only [Act.put, List.getElem_toArray, List.getElem_cons_succ, List.getElem_cons_zero, List.setIfInBounds_toArray, List.set_cons_zero, List.set_cons_succ]
      refine wpAnyH_take (i := 5) (v := ?v5) rfl (by kernel_rfl) (by kernel_rfl) (by kernel_rfl) (fun _ _ _ h => h) (Or.inl ⟨by rfl, ?hy5⟩) (by assumption) ?rest5
      case hy5 => (intro wz hSw; (try dsimp only at hSw); first | (go_simp; done) | (go_simp; with_reducible rfl))
      try simp only [Act.put, List.getElem_toArray, List.getElem_cons_succ, List.getElem_cons_zero, List.setIfInBounds_toArray, List.set_cons_zero, List.set_cons_succ]
      refine wpAnyH_take (i := 6) (v := ?v6) rfl (by kernel_rfl) (by kernel_rfl) (by kernel_rfl) (fun _ _ _ h => h) (Or.inl ⟨by rfl, ?hy6⟩) (by assumption) ?rest6
      case hy6 => (intro wz hSw; (try dsimp only at hSw); first | (go_simp; done) | (go_simp; with_reducible rfl))
      try simp only [Act.put, List.getElem_toArray, List.getElem_cons_succ, List.getElem_cons_zero, List.setIfInBounds_toArray, List.set_cons_zero, List.set_cons_succ]
      refine wpAnyH_ready (rs := [1]) (by kernel_rfl) (by simp) ?_
      refine AllReadyH.cons (o := _) rfl (fun K hK => ?_) AllReadyH.nil
      go_simp
      refine (only_any _ v m B0.out B1.out).mono ?_
      rintro e w3 ⟨gg, rfl, s3, g3⟩
      try dsimp only
      have S3 := Lib.hid s3
      have g3' := gb_trans hH0.2.2 g3
      refine hK.out _ _ (KS.out _ g3') (fun hH1 => ?_)
      clear hK K hH0 g3 g3' s3
      try simp only [Act.put, List.getElem_toArray, List.getElem_cons_succ, List.getElem_cons_zero, List.setIfInBounds_toArray, List.set_cons_zero, List.set_cons_succ]
      refine wpAnyH_ready (rs := [7]) (by kernel_rfl) (by simp) ?_
      refine AllReadyH.cons (o := _) rfl (fun K hK => ?_) AllReadyH.nil
      go_simp
      have SP := sc_pre ((HH.out.keep0 (gb_trans HG.out GW.out)).keep0 hH1.2.2) j (by omega)
      have PC := psubX_any w3 (some ⟨gg, 0, none⟩) (some ad) 1 1 j j (k : Int) [(v, m)] (L.take j) S3.out SP (by omega) (by omega)
      rw [PX.out] at PC
      unfold RetCE at PC
      refine PC.mono ?_
      rintro e w4 ⟨V4, rfl, o4, g4⟩
      try dsimp only
      have g4' := gb_trans hH1.2.2 g4
      have O4 := Lib.hid o4
      refine hK.out _ _ (KS.out _ g4') (fun hH2 => ?_)
      clear hK K hH1 PC SP g4 g4' o4
      try simp only [Act.put, List.getElem_toArray, List.getElem_cons_succ, List.getElem_cons_zero, List.setIfInBounds_toArray, List.set_cons_zero, List.set_cons_succ]
      refine wpAnyH_take (i := 8) (v := ?v7) rfl (by kernel_rfl) (by kernel_rfl) (by kernel_rfl) (fun _ _ _ h => h) (Or.inl ⟨by rfl, ?hy7⟩) (by assumption) ?rest7
      case hy7 => (intro wz hSw; (try dsimp only at hSw); first | (go_simp; done) | (go_simp; with_reducible rfl))
      try simp only [Act.put, List.getElem_toArray, List.getElem_cons_succ, List.getElem_cons_zero, List.setIfInBounds_toArray, List.set_cons_zero, List.set_cons_succ]
      refine wpAnyH_take (i := 9) (v := ?v8) rfl (by kernel_rfl) (by kernel_rfl) (by kernel_rfl) (fun _ _ _ h => h) (Or.inl ⟨by rfl, ?hy8⟩) (by assumption) ?rest8
      case hy8 => (intro wz hSw; (try dsimp only at hSw); first | (go_simp; done) | (go_simp; with_reducible rfl))
      try simp only [Act.put, List.getElem_toArray, List.getElem_cons_succ, List.getElem_cons_zero, List.setIfInBounds_toArray, List.set_cons_zero, List.set_cons_succ]
      refine wpAnyH_take (i := 10) (v := ?v9) rfl (by kernel_rfl) (by kernel_rfl) (by kernel_rfl) (fun _ _ _ h => h) (Or.inl ⟨by rfl, ?hy9⟩) (by assumption) ?rest9
      case hy9 => (intro wz hSw; (try dsimp only at hSw); first | (go_simp; done) | (go_simp; with_reducible rfl))
      try simp only [Act.put, List.getElem_toArray, List.getElem_cons_succ, List.getElem_cons_zero, List.setIfInBounds_toArray, List.set_cons_zero, List.set_cons_succ]
      refine wpAnyH_take (i := 11) (v := ?v10) rfl (by kernel_rfl) (by kernel_rfl) (by kernel_rfl) (fun _ _ _ h => h) (Or.inl ⟨by rfl, ?hy10⟩) (by assumption) ?rest10
      case hy10 => (intro wz hSw; (try dsimp only at hSw); first | (go_simp; done) | (go_simp; with_reducible rfl))
      try simp only [Act.put, List.getElem_toArray, List.getElem_cons_succ, List.getElem_cons_zero, List.setIfInBounds_toArray, List.set_cons_zero, List.set_cons_succ]
      refine wpAnyH_take (i := 12) (v := ?v11) rfl (by kernel_rfl) (by kernel_rfl) (by kernel_rfl) (fun _ _ _ h => h) (Or.inl ⟨by rfl, ?hy11⟩) (by assumption) ?rest11
      case hy11 => (intro wz hSw; (try dsimp only at hSw); first | (go_simp; done) | (go_simp; with_reducible rfl))
      try simp only [Act.put, List.getElem_toArray, List.getElem_cons_succ, List.getElem_cons_zero, List.setIfInBounds_toArray, List.set_cons_zero, List.set_cons_succ]
      refine wpAnyH_done (by kernel_rfl) ?_ _
      have G4 := Lib.hid (gb_trans (gb_trans HG.out GW.out) hH2.2.2)
      obtain ⟨sa, sc, rfl⟩ := O4.out.shape
      clear hH2 KS S3
      obtain ⟨D, er⟩ := Y
      have PW2 := PW.out
      have ST2 := ST.out
      dsimp only at PW2 ST2 O4
      obtain ⟨wfd, lnd⟩ := PW2
      have WFD := Lib.hid wfd
      have S4 := Lib.hid (sc_own O4.out wfd)
      clear PW ST wfd PX
      by_cases her : er = 0
      · subst her
        rw [if_pos rfl] at ST2
        have ST3 := Lib.hid ST2
        clear ST2
        generalize hdl : D.length = dl at *
        have HDL := Lib.hid hdl
        clear hdl
        go_wp2
        go_loopw [6, 42] (fun s6 s42 wx => ∃ (t c1 : Nat), t ≤ dl ∧ s42 = .int .i64 t ∧ s6 = .int .u64 c1 ∧ c1 = (D.take t).foldl (addF k) c0 ∧ B64 c1 ∧ w4.grownBy wx none) (fun _ s42 _ => dl - (intOf s42).toNat)
        case atStart => exact ⟨0, c0, Nat.zero_le _, rfl, rfl, rfl, HC0.out, gb_refl _ _⟩
        case round =>
          obtain ⟨t, c1, ht, rfl, rfl, hc1, hb1, hgx⟩ := hrel
          have C1 := Lib.hid hc1
          have BC := Lib.hid hb1
          have GX := Lib.hid hgx
          clear hc1 hb1 hgx
          by_cases hlt2 : t < dl
          · obtain ⟨bd, rfl⟩ := S4.out.some (by omega)
            have j1 : (t : Int) < dl := by omega
            have j0 : (0 : Int) ≤ (t : Int) := by omega
            obtain ⟨x0, x1⟩ := (S4.out.keep0 GX.out).cells bd rfl t hlt2
            obtain ⟨y0, y1⟩ := S4.out.wfAt t hlt2
            have FS := Lib.hid (show (D.take (t + 1)).foldl (addF k) c0 = addF k ((D.take t).foldl (addF k) c0) (D.getD t (0, 0)) by rw [take_one D (0, 0) t (by rw [HDL.out]; exact hlt2), List.foldl_append]; rfl)
            have FF := fb_free k K1.out (by have := K2.out; omega) (D.getD t (0, 0))
            have FL : fbN k (D.getD t (0, 0)) ≤ 62 := by unfold fbN; have := K2.out; omega
            have AD : addF k c1 (D.getD t (0, 0)) = (c1 + 2 ^ fbN k (D.getD t (0, 0))) % 18446744073709551616 := rfl
            rw [← C1.out] at FS
            generalize fbN k (D.getD t (0, 0)) = f at *
            obtain ⟨q, hq⟩ : ∃ q, q = D.getD t (0, 0) := ⟨_, rfl⟩
            rw [← hq] at x0 x1 y0 y1 FF AD FS
            obtain ⟨qv, qm⟩ := q
            have FF2 : freeN qm (k : Int) = (f : Int) := FF
            have FC := Lib.hid (fun W => free_any W qv qm (k : Int) y0 y1)
            rw [FF2] at FC
            unfold RetV at FC
            obtain ⟨p2, hp2⟩ : ∃ p2, p2 = 2 ^ f := ⟨_, rfl⟩
            have bp : p2 < 9223372036854775808 := by rw [hp2]; exact Nat.lt_of_le_of_lt (Nat.pow_le_pow_right (by decide) FL) (by decide)
            have eb : IntKind.u64.wrap ((2 : Int) ^ f) = (p2 : Int) := by
              rw [hp2] at bp ⊢
              rw [← u64w (2 ^ f) (by unfold B64; omega)]; simp
            obtain ⟨c2, hc2⟩ : ∃ c2, c2 = (c1 + p2) % 18446744073709551616 := ⟨_, rfl⟩
            have ec : IntKind.u64.wrap ((c1 : Int) + (p2 : Int)) = (c2 : Int) := by rw [IntKind.wrap_u64, hc2]; omega
            have C2 := Lib.hid (show c2 = (D.take (t + 1)).foldl (addF k) c0 by rw [FS.out, AD, hc2, hp2])
            have B2 := Lib.hid (show B64 c2 by rw [hc2]; unfold B64; exact Nat.mod_lt _ (by decide))
            have f0 : (0 : Int) ≤ (f : Int) := by omega
            have f1 : ¬ (f : Int) < 0 := by omega
            clear hq y0 y1 FF FF2 AD FS hp2 bp hc2
            go_wp2_with fail
            refine (FC.out _).mono ?_
            rintro e w5 ⟨rfl, g5⟩
            have G5 := Lib.hid (gb_trans (gb_trans GX.out (gb_alloc _ _ none)) g5)
            clear g5 x0 x1
            go_wp2
            go_roundw
            case rel => exact ⟨t + 1, c2, by omega, by go_num, rfl, C2.out, B2.out, G5.out⟩
            case measure => simp [intOf]; omega
          · have hte : t = dl := by omega
            have ST4 := Lib.hid (show pcG k L (n - (j + 1)) c1 = R by
              have := ST3.out
              rw [show n - (j + 1) = n - j - 1 by omega, C1.out, List.take_of_length_le (by rw [HDL.out]; omega)]
              exact this)
            subst hte
            go_wp2
            go_roundw
            case rel => exact ⟨j + 1, c1, by omega, BC.out, by go_num, rfl, ST4.out, gb_trans G4.out GX.out⟩
            case measure => simp [intOf]; omega
      · have n1 : (er != 0) = true := by rw [bne_iff_ne]; exact her
        have n2 : ¬ er = 0 := her
        rw [if_neg her] at ST2
        have ST3 := Lib.hid ST2
        clear ST2 her
        go_wp2
        go_ret2
        exact ⟨by rw [← ST3.out] <;> rfl, G4.out⟩
    · have hje : j = n := by omega
      have R2 := Lib.hid (show (c0, (0 : Int)) = R by have := HP.out; rw [show n - j = 0 by omega] at this; exact this)
      subst hje
      go_wp2
      go_ret2
      exact ⟨by rw [← R2.out] <;> rfl, HG.out⟩
set_option maxRecDepth 100000 in
set_option maxHeartbeats 4000000 in
theorem pcount_any (w : World) (a : Option Addr) (n c : Nat) (x : Int) (L : List (Nat × Nat)) (h : SC w a n c L) (hn : n ≤ 10000) : Calls Try.prog 30 #[.slice a n c, .int .i64 x] w (RetCnt (pcL x L).1 (pcL x L).2 w) := by
  by_cases hw : 1 ≤ x ∧ x ≤ 62
  · obtain ⟨k, rfl⟩ : ∃ k : Nat, x = (k : Int) := ⟨x.toNat, by omega⟩
    have e : pcL (k : Int) L = pcG k L n 0 := by unfold pcL; rw [if_pos hw, Int.toNat_natCast, h.len]
    rw [e]
    exact pcount_list w a n c k L h hn (by omega) (by omega)
  · have e : pcL x L = (0, 10) := by unfold pcL; rw [if_neg hw]
    rw [e]
    clear h e
    go_enter Try.func30, Try.ntmps30
    by_cases h1 : x < 1
    · clear hw
      go_wp2
      go_ret2
      exact ⟨rfl, gb_refl _ _⟩
    · have h2 : 62 < x := by omega
      clear hw
      go_wp2
      go_ret2
      exact ⟨rfl, gb_refl _ _⟩
end Go.Proofs.Yteemhabgliglmaa
