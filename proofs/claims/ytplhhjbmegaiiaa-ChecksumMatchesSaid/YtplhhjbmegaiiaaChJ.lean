/- Laws on checksums and records: the walk of ChecksumReframes; no condition. -/
import Derived.Test.YtplhhjbmegaiiaaChI
import Derived.Deep.RegionHeld3
namespace Go.Proofs.Ytplhhjbmegaiiaa
open Go.RowKit
set_option linter.unusedVariables false

theorem cvp_of {w0 w : World} {ad : Addr} {n c : Nat} {bs : List Int} {m : Nat} (h : US w0 (some ad) n c bs w) (hm : m ≤ bs.length) :
    (convert 31 9 (.slice (some ad) m c)).run Try.prog w = .ok (.string (strOf (bs.take m))) w ∧
    (convert 31 9 (.slice (some ad) (m : Int).toNat c)).run Try.prog w = .ok (.string (strOf (bs.take m))) w ∧
    (convert 31 9 (.slice (some ad) ((m : Int) + 0).toNat c)).run Try.prog w = .ok (.string (strOf (bs.take m))) w := by
  have k := conv_str w _ _ _ _ (h.1.pre m hm)
  exact ⟨k, by simpa using k, by simpa using k⟩
theorem wpAnyH_more {P : Program} {md : Region.Mode} {ops : Array Oper} {Q : Exit → Act → World → Prop} {S S2 : World → Prop} (hS : ∀ w, S2 w → S w) : ∀ (fuel : Nat) (listed : Array Bool) (a : Act) (w : World), wpAnyH P md ops Q S2 fuel listed a w → wpAnyH P md ops Q S fuel listed a w
  | 0, _, _, _, h => h
  | fuel + 1, _, _, _, h => ⟨h.1, fun i hi => wpOp_mono (fun a' w' h' => ⟨hS w' h'.1, wpAnyH_more hS fuel _ a' w' h'.2⟩) (h.2 i hi)⟩
theorem frame_str (w : World) (a : Option Addr) (n c : Nat) (bs : List Int) (h : SlR w a n c (bs.map (Value.int .u8))) (hb : ∀ x ∈ bs, 0 ≤ x ∧ x ≤ 255) (hn : bs.length ≤ 100000) (F : List Int) (hF : frm bs = F) :
    Calls Try.prog 34 #[.slice a n c] w fun e w' => ∃ a c, e = .returned (.slice a F.length c) ∧ w.grownBy w' none ∧ SlR w' a F.length c (F.map (Value.int .u8)) :=
  (frame_any w a n c bs h hb hn).mono fun e w' ⟨V, he, o, g⟩ => by
    rw [hF] at o
    obtain ⟨a1, c1, rfl⟩ := o.shape
    exact ⟨a1, c1, he, g, o.slr⟩
set_option maxRecDepth 100000 in
set_option maxHeartbeats 4000000 in
theorem reframes_walk (a : Option Addr) (len cap : Nat) (z : List Int) (W : World) (h : IsRow .u8 W a len cap z) :
    Calls Try.prog 11 #[.slice a len cap] W (Holds W) := by
  have A1 := Lib.hid (arg_of h)
  have hl := (arg_of h).len
  clear h
  generalize z.take len = bs at *
  subst hl
  by_cases hc : bs.length ≤ 4000
  · have h1 := unframe_any W a _ cap bs A1.out.slr A1.out.rng (by omega) A1.out.cap
    have hs := unf_short A1.out.rng
    have hk := unf_back A1.out.rng
    rcases hU : unfR bs with ⟨er, x, nn⟩
    rw [hU] at h1 hs hk
    have H1 := Lib.hid h1
    clear h1
    by_cases he : er = 0
    · obtain ⟨N, hN, hN2, hF, hx, hxr⟩ := hk he
      clear hs hk
      simp only at hN hF hx hxr
      subst he
      subst hN
      have HXR := Lib.hid hxr
      have HF := Lib.hid hF
      have HX := Lib.hid hx
      clear hU hxr hF
      cases a with
      | none => exact absurd (A1.out.slr.2.1 rfl).1 (by omega)
      | some ad =>
        go_enter Try.func11, Try.ntmps11
        go_wp2_with fail
        refine H1.out.mono ?_
        rintro e w1 ⟨V1, rfl, o1, g1⟩
        obtain ⟨a1, c1, rfl⟩ := o1.shapen (n := N) hx.symm
        have X1 := Lib.hid (show SlR w1 a1 N c1 (x.map (Value.int .u8)) from o1.slrn hx.symm)
        have U1 := Lib.hid (show US W (some ad) bs.length cap bs w1 from ⟨A1.out.slr.keep0 g1, g1⟩)
        clear o1 g1 H1 hx
        have i0 : (8 : Int) ≤ (N : Int) + 8 := by omega
        have i1 : (N : Int) + 8 ≤ bs.length := by omega
        have i2 : (N : Int) + 8 ≤ cap := by have := A1.out.cap; omega
        have i3 : (0 : Int) ≤ (N : Int) + 8 := by omega
        obtain ⟨m, hm⟩ : ∃ m : Nat, m = N + 8 := ⟨_, rfl⟩
        have HM := Lib.hid hm
        have em : (N : Int) + 8 = (m : Int) := by omega
        rw [em] at i0 i1 i2 i3
        rw [← hm] at HF
        clear hm
        go_wp2_with fail
        clear em
        have CV := Lib.hid (fun (w' : World) (h : US W (some ad) bs.length cap bs w') => cvp_of (m := m) h (by have := HM.out; omega))
        obtain ⟨F, hFF⟩ : ∃ F, F = bs.take m := ⟨_, rfl⟩
        rw [← hFF] at HF CV
        clear hFF
        have hbeq : ((strOf F).toList == (strOf F).toList) = true := by rw [beq_iff_eq]
        have HX2 := Lib.hid (show x.length ≤ 100000 by have := HX.out; have := HM.out; omega)
        have XD := Lib.hid (X1.out.keep0 (gb_drew w1 none))
        refine wp_region_held_drew (S := fun w' => (convert 31 9 (.slice (some ad) m cap)).run Try.prog w' = .ok (.string (strOf F)) w' ∧ US W (some ad) bs.length cap bs w') (by kernel_rfl) ⟨(CV.out _ (U1.out.step (gb_drew _ _))).1, U1.out.step (gb_drew _ _)⟩ (fun hHeld => ?_)
        refine wpAnyH_take (i := 0) (v := ?v1) rfl (by kernel_rfl) (by kernel_rfl) (by kernel_rfl) (fun _ _ _ h => h) (Or.inl ⟨by rfl, ?hy1⟩) (by assumption) ?rest1
        case hy1 => (intro wz hSw; (try dsimp only at hSw); first | (go_simp; done) | (go_simp; with_reducible rfl))
        try simp only [Act.put, List.getElem_toArray, List.getElem_cons_zero, List.setIfInBounds_toArray, List.set_cons_zero, List.set_cons_succ]
        refine wpAnyH_take (i := 1) (v := ?v2) rfl (by kernel_rfl) (by kernel_rfl) (by kernel_rfl) (fun _ _ _ h => h) (Or.inl ⟨by rfl, ?hy2⟩) (by assumption) ?rest2
        case hy2 => (intro wz hSw; (try dsimp only at hSw); first | (go_simp; done) | (go_simp; with_reducible rfl))
        try simp only [Act.put, List.getElem_toArray, List.getElem_cons_succ, List.getElem_cons_zero, List.setIfInBounds_toArray, List.set_cons_zero, List.set_cons_succ]
        refine wpAnyH_take (i := 2) (v := ?v3) rfl (by kernel_rfl) (by kernel_rfl) (by kernel_rfl) (fun _ _ _ h => h) (Or.inl ⟨by rfl, ?hy3⟩) (by assumption) ?rest3
        case hy3 => (intro wz hSw; (try dsimp only at hSw); first | (go_simp; done) | (go_simp; with_reducible rfl))
        try simp only [Act.put, List.getElem_toArray, List.getElem_cons_succ, List.getElem_cons_zero, List.setIfInBounds_toArray, List.set_cons_zero, List.set_cons_succ]
        refine wpAnyH_take (i := 3) (v := ?v4) rfl (by kernel_rfl) (by kernel_rfl) (by kernel_rfl) (fun _ _ _ h => h) (Or.inl ⟨by rfl, ?hy4⟩) (by assumption) ?rest4
        case hy4 => (intro wz hSw; (try dsimp only at hSw); first | (go_simp; done) | (go_simp; with_reducible rfl))
        try simp only [Act.put, List.getElem_toArray, List.getElem_cons_succ, List.getElem_cons_zero, List.setIfInBounds_toArray, List.set_cons_zero, List.set_cons_succ]
        refine wpAnyH_take (i := 4) (v := ?v5) rfl (by kernel_rfl) (by kernel_rfl) (by kernel_rfl) (fun _ _ _ h => h) (Or.inl ⟨by rfl, ?hy5⟩) (by assumption) ?rest5
        case hy5 => (intro wz hSw; (try dsimp only at hSw); first | (go_simp; done) | (go_simp; with_reducible rfl))
        try simp only [Act.put, List.getElem_toArray, List.getElem_cons_succ, List.getElem_cons_zero, List.setIfInBounds_toArray, List.set_cons_zero, List.set_cons_succ]
        refine wpAnyH_take (i := 5) (v := ?v6) rfl (by kernel_rfl) (by kernel_rfl) (by kernel_rfl) (fun _ _ _ h => h) (Or.inl ⟨by rfl, ?hy6⟩) (by assumption) ?rest6
        case hy6 => (intro wz hSw; (try dsimp only at hSw); first | (go_simp; done) | (go_simp; with_reducible rfl))
        try simp only [Act.put, List.getElem_toArray, List.getElem_cons_succ, List.getElem_cons_zero, List.setIfInBounds_toArray, List.set_cons_zero, List.set_cons_succ]
        refine wpAnyH_take (i := 6) (v := ?v7) rfl (by kernel_rfl) (by kernel_rfl) (by kernel_rfl) (fun _ _ _ h => h) (Or.inl ⟨by rfl, ?hy7⟩) (by assumption) ?rest7
        case hy7 => (intro wz hSw; (try dsimp only at hSw); first | (go_simp; done) | (go_simp; with_reducible rfl))
        try simp only [Act.put, List.getElem_toArray, List.getElem_cons_succ, List.getElem_cons_zero, List.setIfInBounds_toArray, List.set_cons_zero, List.set_cons_succ]
        refine wpAnyH_take (i := 7) (v := ?v8) rfl (by kernel_rfl) (by kernel_rfl) (by kernel_rfl) (fun _ _ _ h => h) (Or.inl ⟨by rfl, ?hy8⟩) (by assumption) ?rest8
        case hy8 => (intro wz hSw; (try dsimp only at hSw); first | (go_simp; done) | (go_simp; with_reducible rfl))
        try simp only [Act.put, List.getElem_toArray, List.getElem_cons_succ, List.getElem_cons_zero, List.setIfInBounds_toArray, List.set_cons_zero, List.set_cons_succ]
        refine wpAnyH_take (i := 8) (v := ?v9) rfl (by kernel_rfl) (by kernel_rfl) (by kernel_rfl) (fun _ _ _ h => h) (Or.inl ⟨by rfl, ?hy9⟩) (by assumption) ?rest9
        case hy9 => (intro wz hSw; (try dsimp only at hSw); first | (go_simp; done) | (go_simp; with_reducible rfl))
        try simp only [Act.put, List.getElem_toArray, List.getElem_cons_succ, List.getElem_cons_zero, List.setIfInBounds_toArray, List.set_cons_zero, List.set_cons_succ]
        refine wpAnyH_take (i := 9) (v := ?v10) rfl (by kernel_rfl) (by kernel_rfl) (by kernel_rfl) (fun _ _ _ h => h) (Or.inl ⟨by rfl, ?hy10⟩) (by assumption) ?rest10
        case hy10 => (intro wz hSw; (try dsimp only at hSw); first | (go_simp; done) | (go_simp; with_reducible rfl))
        try simp only [Act.put, List.getElem_toArray, List.getElem_cons_succ, List.getElem_cons_zero, List.setIfInBounds_toArray, List.set_cons_zero, List.set_cons_succ]
        refine wpAnyH_take (i := 12) (v := ?v11) rfl (by kernel_rfl) (by kernel_rfl) (by kernel_rfl) (fun _ _ _ h => h) (Or.inl ⟨by rfl, ?hy11⟩) (by assumption) ?rest11
        case hy11 => (intro wz hSw; (try dsimp only at hSw); first | (go_simp; done) | (go_simp; with_reducible rfl))
        try simp only [Act.put, List.getElem_toArray, List.getElem_cons_succ, List.getElem_cons_zero, List.setIfInBounds_toArray, List.set_cons_zero, List.set_cons_succ]
        refine wpAnyH_take (i := 13) (v := ?v12) rfl (by kernel_rfl) (by kernel_rfl) (by kernel_rfl) (fun _ _ _ h => h) (Or.inl ⟨by rfl, ?hy12⟩) (by assumption) ?rest12
        case hy12 => (intro wz hSw; (try dsimp only at hSw); first | (go_simp; done) | (go_simp; with_reducible rfl))
        try simp only [Act.put, List.getElem_toArray, List.getElem_cons_succ, List.getElem_cons_zero, List.setIfInBounds_toArray, List.set_cons_zero, List.set_cons_succ]
        refine wpAnyH_take (i := 14) (v := ?v13) rfl (by kernel_rfl) (by kernel_rfl) (by kernel_rfl) (fun _ _ _ h => h) (Or.inl ⟨by rfl, ?hy13⟩) (by assumption) ?rest13
        case hy13 => (intro wz hSw; (try dsimp only at hSw); first | (go_simp; done) | (go_simp; with_reducible rfl))
        try simp only [Act.put, List.getElem_toArray, List.getElem_cons_succ, List.getElem_cons_zero, List.setIfInBounds_toArray, List.set_cons_zero, List.set_cons_succ]
        refine wpAnyH_take (i := 15) (v := ?v14) rfl (by kernel_rfl) (by kernel_rfl) (by kernel_rfl) (fun _ _ _ h => h) (Or.inl ⟨by rfl, ?hy14⟩) (by assumption) ?rest14
        case hy14 => (intro wz hSw; (try dsimp only at hSw); first | (go_simp; done) | (go_simp; with_reducible rfl))
        try simp only [Act.put, List.getElem_toArray, List.getElem_cons_succ, List.getElem_cons_zero, List.setIfInBounds_toArray, List.set_cons_zero, List.set_cons_succ]
        refine wpAnyH_ready (rs := [10]) (by kernel_rfl) (by simp) ?_
        refine AllReadyH.cons (o := _) rfl (fun K hK => ?_) AllReadyH.nil
        go_simp
        refine (frame_str _ a1 _ c1 x XD.out HXR.out HX2.out F HF.out).mono ?_
        rintro e w3 ⟨a3, c3, rfl, g, s3⟩
        have U3 := hHeld.2.step g
        try dsimp only
        refine hK.out _ _ ⟨(CV.out _ U3).1, U3⟩ (fun hHeld2 => ?_)
        clear hK K hHeld hHeld2 g XD
        refine wpAnyH_more (S2 := fun w' => (convert 31 9 (.slice (some ad) m cap)).run Try.prog w' = .ok (.string (strOf F)) w' ∧ (convert 31 9 (.slice a3 F.length c3)).run Try.prog w' = .ok (.string (strOf F)) w' ∧ US W (some ad) bs.length cap bs w') (fun _ h => ⟨h.1, h.2.2⟩) _ _ _ _ ?_
        have hHeld : (fun w' : World => (convert 31 9 (.slice (some ad) m cap)).run Try.prog w' = .ok (.string (strOf F)) w' ∧ (convert 31 9 (.slice a3 F.length c3)).run Try.prog w' = .ok (.string (strOf F)) w' ∧ US W (some ad) bs.length cap bs w') w3 := ⟨(CV.out _ U3).1, conv_str w3 _ _ _ _ s3, U3⟩
        refine wpAnyH_take (i := 11) (v := ?v15) rfl (by kernel_rfl) (by kernel_rfl) (by kernel_rfl) (fun _ _ _ h => h) (Or.inl ⟨by rfl, ?hy15⟩) (by assumption) ?rest15
        case hy15 => (intro wz hSw; (try dsimp only at hSw); first | (go_simp; done) | (go_simp; with_reducible rfl))
        try simp only [Act.put, List.getElem_toArray, List.getElem_cons_succ, List.getElem_cons_zero, List.setIfInBounds_toArray, List.set_cons_zero, List.set_cons_succ]
        refine wpAnyH_take (i := 16) (v := ?v16) rfl (by kernel_rfl) (by kernel_rfl) (by kernel_rfl) (fun _ _ _ h => h) (Or.inl ⟨by rfl, ?hy16⟩) (by assumption) ?rest16
        case hy16 => (intro wz hSw; (try dsimp only at hSw); first | (go_simp; done) | (go_simp; with_reducible rfl))
        try simp only [Act.put, List.getElem_toArray, List.getElem_cons_succ, List.getElem_cons_zero, List.setIfInBounds_toArray, List.set_cons_zero, List.set_cons_succ]
        refine wpAnyH_take (i := 17) (v := ?v17) rfl (by kernel_rfl) (by kernel_rfl) (by kernel_rfl) (fun _ _ _ h => h) (Or.inl ⟨by rfl, ?hy17⟩) (by assumption) ?rest17
        case hy17 => (intro wz hSw; (try dsimp only at hSw); first | (go_simp; done) | (go_simp; with_reducible rfl))
        try simp only [Act.put, List.getElem_toArray, List.getElem_cons_succ, List.getElem_cons_zero, List.setIfInBounds_toArray, List.set_cons_zero, List.set_cons_succ]
        refine wpAnyH_take (i := 18) (v := ?v18) rfl (by kernel_rfl) (by kernel_rfl) (by kernel_rfl) (fun _ _ _ h => h) (Or.inl ⟨by rfl, ?hy18⟩) (by assumption) ?rest18
        case hy18 => (intro wz hSw; (try dsimp only at hSw); first | (go_simp; done) | (go_simp; with_reducible rfl))
        try simp only [Act.put, List.getElem_toArray, List.getElem_cons_succ, List.getElem_cons_zero, List.setIfInBounds_toArray, List.set_cons_zero, List.set_cons_succ]
        refine wpAnyH_ready (rs := [19]) (by kernel_rfl) (by simp) ?_
        refine AllReadyH.cons (o := _) rfl (fun K hK => ?_) AllReadyH.nil
        go_simp
        refine (awake_any _).mono ?_
        rintro e w5 ⟨rfl, g, _⟩
        have U5 := hHeld.2.2.step g
        try dsimp only
        refine hK.out _ _ ⟨(CV.out _ U5).1, conv_str w5 _ _ _ _ (s3.keep0 g), U5⟩ (fun hHeld2 => ?_)
        have HU5 := Lib.hid U5
        clear hK K hHeld g U5 U3 s3
        refine wpAnyH_take (i := 20) (v := ?v19) rfl (by kernel_rfl) (by kernel_rfl) (by kernel_rfl) (fun _ _ _ h => h) (Or.inl ⟨by rfl, ?hy19⟩) (by assumption) ?rest19
        case hy19 => (intro wz hSw; (try dsimp only at hSw); first | (go_simp; done) | (go_simp; with_reducible rfl))
        try simp only [Act.put, List.getElem_toArray, List.getElem_cons_succ, List.getElem_cons_zero, List.setIfInBounds_toArray, List.set_cons_zero, List.set_cons_succ]
        refine wpAnyH_take (i := 21) (v := ?v20) rfl (by kernel_rfl) (by kernel_rfl) (by kernel_rfl) (fun _ _ _ h => h) (Or.inl ⟨by rfl, ?hy20⟩) (by assumption) ?rest20
        case hy20 => (intro wz hSw; (try dsimp only at hSw); first | (go_simp; done) | (go_simp; with_reducible rfl))
        try simp only [Act.put, List.getElem_toArray, List.getElem_cons_succ, List.getElem_cons_zero, List.setIfInBounds_toArray, List.set_cons_zero, List.set_cons_succ]
        refine wpAnyH_done (by kernel_rfl) ?_ _
        clear hHeld2
        go_wp2
        go_ret
        exact ⟨rfl, below_of HU5.out.2⟩
    · have hs2 := hs he
      simp only [Prod.mk.injEq] at hs2
      obtain ⟨rfl, rfl⟩ := hs2
      have hne : (er != 0) = true := by rw [bne_iff_ne]; exact he
      clear hs hk hU
      go_enter Try.func11, Try.ntmps11
      go_wp2_with fail
      refine H1.out.mono ?_
      rintro e w1 ⟨V1, rfl, o1, g1⟩
      obtain ⟨a1, c1, rfl⟩ := o1.shapen (n := 0) rfl
      have G1 := Lib.hid g1
      clear g1 o1 H1
      go_wp2_with fail
      refine (awake_any _).mono ?_
      rintro e w4 ⟨rfl, g4, _⟩
      have G4 := Lib.hid (gb_trans G1.out g4)
      clear g4
      go_wp2
      go_ret
      exact ⟨rfl, below_of G4.out⟩
  · go_enter Try.func11, Try.ntmps11
    go_wp2_with fail
    refine (awake_any _).mono ?_
    rintro e w4 ⟨rfl, g4, _⟩
    go_wp2
    go_ret
    exact ⟨rfl, below_of g4⟩
end Go.Proofs.Ytplhhjbmegaiiaa
