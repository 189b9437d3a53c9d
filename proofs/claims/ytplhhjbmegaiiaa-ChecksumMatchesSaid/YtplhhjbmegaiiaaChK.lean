/- Laws on checksums and records: the walk of ChecksumMatches; no condition. -/
import Derived.Test.YtplhhjbmegaiiaaChJ
namespace Go.Proofs.Ytplhhjbmegaiiaa
open Go.RowKit
set_option linter.unusedVariables false

/-- What the region keeps: the bytes read, and the two bodies. -/
def PS (W : World) (a : Option Addr) (len cap : Nat) (bs : List Int) (ax ay : Option Addr) (n cx cy : Nat) (X : List Int) (w : World) : Prop := US W a len cap bs w ∧ SlR w ax n cx (X.map (Value.int .u8)) ∧ SlR w ay n cy (X.map (Value.int .u8))
theorem PS.step {W w w2 : World} {a ax ay : Option Addr} {len cap n cx cy : Nat} {bs X : List Int} (h : PS W a len cap bs ax ay n cx cy X w) (k : w.grownBy w2 none) : PS W a len cap bs ax ay n cx cy X w2 :=
  ⟨h.1.step k, h.2.1.keep0 k, h.2.2.keep0 k⟩
theorem ps_conv {W w : World} {a ax ay : Option Addr} {len cap n cx cy : Nat} {bs X : List Int} (h : PS W a len cap bs ax ay n cx cy X w) :
    (convert 31 9 (.slice ax n cx)).run Try.prog w = .ok (.string (strOf X)) w ∧ (convert 31 9 (.slice ay n cy)).run Try.prog w = .ok (.string (strOf X)) w :=
  ⟨conv_str w _ _ _ _ h.2.1, conv_str w _ _ _ _ h.2.2⟩
theorem rframe_str (w : World) (a : Option Addr) (n c : Nat) (bs : List Int) (h : SlR w a n c (bs.map (Value.int .u8))) (hb : ∀ x ∈ bs, 0 ≤ x ∧ x ≤ 255) (hn : bs.length ≤ 100000) (F : List Int) (hF : frm bs = F) :
    Calls Try.prog 35 #[.slice a n c] w fun e w' => ∃ a c, e = .returned (.slice a F.length c) ∧ w.grownBy w' none ∧ SlR w' a F.length c (F.map (Value.int .u8)) :=
  (rframe_any w a n c bs h hb hn).mono fun e w' ⟨V, he, o, g⟩ => by
    rw [hF] at o
    obtain ⟨a1, c1, rfl⟩ := o.shape
    exact ⟨a1, c1, he, g, o.slr⟩
set_option maxRecDepth 100000 in
set_option maxHeartbeats 8000000 in
theorem matches_walk (a : Option Addr) (len cap : Nat) (z : List Int) (W : World) (h : IsRow .u8 W a len cap z) :
    Calls Try.prog 9 #[.slice a len cap] W (Holds W) := by
  have A1 := Lib.hid (arg_of h)
  have hl := (arg_of h).len
  clear h
  generalize z.take len = bs at *
  subst hl
  by_cases hc : bs.length ≤ 4000
  · have H1 := Lib.hid (unframe_any W a _ cap bs A1.out.slr A1.out.rng (by omega) A1.out.cap)
    have H2 := Lib.hid (fun w (s : US W a bs.length cap bs w) => runframe_any w a _ cap bs s.1 A1.out.rng (by omega) A1.out.cap)
    rcases hU : unfR bs with ⟨er, X, nn⟩
    rw [hU] at H1 H2
    clear hU
    go_enter Try.func9, Try.ntmps9
    go_wp2_with fail
    refine H1.out.mono ?_
    rintro e w1 ⟨V1, rfl, o1, g1⟩
    obtain ⟨n, hn⟩ : ∃ n, n = X.length := ⟨_, rfl⟩
    have HN := Lib.hid hn
    clear hn
    obtain ⟨ax, cx, rfl⟩ := o1.shapen (n := n) HN.out
    have X1 := Lib.hid (o1.slrn HN.out)
    have U1 := Lib.hid (show US W a bs.length cap bs w1 from ⟨A1.out.slr.keep0 g1, g1⟩)
    have H3 := Lib.hid (H2.out w1 U1.out)
    clear o1 g1 H1 H2
    go_wp2_with fail
    refine H3.out.mono ?_
    rintro e w2 ⟨V2, rfl, o2, g2⟩
    obtain ⟨ay, cy, rfl⟩ := o2.shapen (n := n) HN.out
    have P0 := Lib.hid (show PS W a bs.length cap bs ax ay n cx cy X w2.drew from PS.step ⟨U1.out.step g2, X1.out.keep0 g2, o2.slrn HN.out⟩ (gb_drew w2 none))
    clear o2 g2 H3 U1 X1
    have CV := Lib.hid (fun (w' : World) (h : PS W a bs.length cap bs ax ay n cx cy X w') => ps_conv h)
    have HF1 := Lib.hid (fun (w' : World) (h : PS W a bs.length cap bs ax ay n cx cy X w') => fnv_any w' a _ cap bs h.1.1 A1.out.rng (by omega))
    have HF2 := Lib.hid (fun (w' : World) (h : PS W a bs.length cap bs ax ay n cx cy X w') => rfnv_any w' a _ cap bs h.1.1 A1.out.rng (by omega))
    have HI1 := Lib.hid (fun (w' : World) (h : PS W a bs.length cap bs ax ay n cx cy X w') => inet_any w' a _ cap bs h.1.1 A1.out.rng (by omega))
    have HI2 := Lib.hid (fun (w' : World) (h : PS W a bs.length cap bs ax ay n cx cy X w') => rinet_any w' a _ cap bs h.1.1 A1.out.rng (by omega))
    obtain ⟨F, hF⟩ : ∃ F, frm bs = F := ⟨_, rfl⟩
    have HG1 := Lib.hid (fun (w' : World) (h : PS W a bs.length cap bs ax ay n cx cy X w') => frame_str w' a _ cap bs h.1.1 A1.out.rng (by omega) F hF)
    have HG2 := Lib.hid (fun (w' : World) (h : PS W a bs.length cap bs ax ay n cx cy X w') => rframe_str w' a _ cap bs h.1.1 A1.out.rng (by omega) F hF)
    have CZ := Lib.hid (fun (w' : World) (aa : Option Addr) (cc : Nat) (h : SlR w' aa F.length cc (F.map (Value.int .u8))) => conv_str w' aa _ cc F h)
    obtain ⟨Y, hY⟩ : ∃ Y, Y = strOf X := ⟨_, rfl⟩
    rw [← hY] at CV
    obtain ⟨Z, hZ⟩ : ∃ Z, Z = strOf F := ⟨_, rfl⟩
    rw [← hZ] at CZ
    obtain ⟨k, hk⟩ : ∃ k, k = F.length := ⟨_, rfl⟩
    rw [← hk] at HG1 HG2 CZ
    generalize fnv bs = v1 at *
    generalize inet bs = v2 at *
    clear hF hY hZ hk HN
    have q1 : (Y.toList == Y.toList) = true := by rw [beq_iff_eq]
    have q2 : (Z.toList == Z.toList) = true := by rw [beq_iff_eq]
    have q3 : (v1 == v1) = true := by rw [beq_iff_eq]
    have q4 : (v2 == v2) = true := by rw [beq_iff_eq]
    have q5 : (nn == nn) = true := by rw [beq_iff_eq]
    have q6 : (er == er) = true := by rw [beq_iff_eq]
    go_wp2_with fail
    refine wp_region_held_drew (S := fun w' : World => (convert 31 9 (.slice ax n cx)).run Try.prog w' = .ok (.string Y) w' ∧ (convert 31 9 (.slice ay n cy)).run Try.prog w' = .ok (.string Y) w' ∧ PS W a bs.length cap bs ax ay n cx cy X w') (by kernel_rfl) ⟨(CV.out _ P0.out).1, (CV.out _ P0.out).2, P0.out⟩ (fun hH0 => ?_)
    refine wpAnyH_take (i := 0) (v := ?v1) rfl (by kernel_rfl) (by kernel_rfl) (by kernel_rfl) (fun _ _ _ h => h) (Or.inl ⟨by rfl, ?hy1⟩) (by assumption) ?rest1
    case hy1 => (intro wz hSw; (try dsimp only at hSw); first | (go_simp; done) | (go_simp; with_reducible rfl))
    try simp only [Act.put, List.getElem_toArray, List.getElem_cons_zero, List.setIfInBounds_toArray, List.set_cons_zero, List.set_cons_succ]
    refine wpAnyH_take (i := 2) (v := ?v2) rfl (by kernel_rfl) (by kernel_rfl) (by kernel_rfl) (fun _ _ _ h => h) (Or.inl ⟨by rfl, ?hy2⟩) (by assumption) ?rest2
    case hy2 => (intro wz hSw; (try dsimp only at hSw); first | (go_simp; done) | (go_simp; with_reducible rfl))
    try simp only [Act.put, List.getElem_toArray, List.getElem_cons_succ, List.getElem_cons_zero, List.setIfInBounds_toArray, List.set_cons_zero, List.set_cons_succ]
    refine wpAnyH_ready (rs := [1]) (by kernel_rfl) (by simp) ?_
    refine AllReadyH.cons (o := _) rfl (fun K hK => ?_) AllReadyH.nil
    go_simp
    refine (HF1.out _ hH0.2.2).mono ?_
    rintro e w1 ⟨rfl, g, _⟩
    have P1 := hH0.2.2.step g
    try dsimp only
    refine hK.out _ _ ⟨(CV.out _ P1).1, (CV.out _ P1).2, P1⟩ (fun hH1 => ?_)
    clear hK K hH0
    refine wpAnyH_ready (rs := [3]) (by kernel_rfl) (by simp) ?_
    refine AllReadyH.cons (o := _) rfl (fun K hK => ?_) AllReadyH.nil
    go_simp
    refine (HF2.out _ hH1.2.2).mono ?_
    rintro e w2 ⟨rfl, g, _⟩
    have P2 := hH1.2.2.step g
    try dsimp only
    refine hK.out _ _ ⟨(CV.out _ P2).1, (CV.out _ P2).2, P2⟩ (fun hH2 => ?_)
    clear hK K hH1
    refine wpAnyH_take (i := 4) (v := ?v3) rfl (by kernel_rfl) (by kernel_rfl) (by kernel_rfl) (fun _ _ _ h => h) (Or.inl ⟨by rfl, ?hy3⟩) (by assumption) ?rest3
    case hy3 => (intro wz hSw; (try dsimp only at hSw); first | (go_simp; done) | (go_simp; with_reducible rfl))
    try simp only [Act.put, List.getElem_toArray, List.getElem_cons_succ, List.getElem_cons_zero, List.setIfInBounds_toArray, List.set_cons_zero, List.set_cons_succ]
    refine wpAnyH_take (i := 5) (v := ?v4) rfl (by kernel_rfl) (by kernel_rfl) (by kernel_rfl) (fun _ _ _ h => h) (Or.inl ⟨by rfl, ?hy4⟩) (by assumption) ?rest4
    case hy4 => (intro wz hSw; (try dsimp only at hSw); first | (go_simp; done) | (go_simp; with_reducible rfl))
    try simp only [Act.put, List.getElem_toArray, List.getElem_cons_succ, List.getElem_cons_zero, List.setIfInBounds_toArray, List.set_cons_zero, List.set_cons_succ]
    refine wpAnyH_take (i := 6) (v := ?v5) rfl (by kernel_rfl) (by kernel_rfl) (by kernel_rfl) (fun _ _ _ h => h) (Or.inl ⟨by rfl, ?hy5⟩) (by assumption) ?rest5
    case hy5 => (intro wz hSw; (try dsimp only at hSw); first | (go_simp; done) | (go_simp; with_reducible rfl))
    try simp only [Act.put, List.getElem_toArray, List.getElem_cons_succ, List.getElem_cons_zero, List.setIfInBounds_toArray, List.set_cons_zero, List.set_cons_succ]
    refine wpAnyH_take (i := 8) (v := ?v6) rfl (by kernel_rfl) (by kernel_rfl) (by kernel_rfl) (fun _ _ _ h => h) (Or.inl ⟨by rfl, ?hy6⟩) (by assumption) ?rest6
    case hy6 => (intro wz hSw; (try dsimp only at hSw); first | (go_simp; done) | (go_simp; with_reducible rfl))
    try simp only [Act.put, List.getElem_toArray, List.getElem_cons_succ, List.getElem_cons_zero, List.setIfInBounds_toArray, List.set_cons_zero, List.set_cons_succ]
    refine wpAnyH_ready (rs := [7]) (by kernel_rfl) (by simp) ?_
    refine AllReadyH.cons (o := _) rfl (fun K hK => ?_) AllReadyH.nil
    go_simp
    refine (HI1.out _ hH2.2.2).mono ?_
    rintro e w3 ⟨rfl, g, _⟩
    have P3 := hH2.2.2.step g
    try dsimp only
    refine hK.out _ _ ⟨(CV.out _ P3).1, (CV.out _ P3).2, P3⟩ (fun hH3 => ?_)
    clear hK K hH2
    refine wpAnyH_ready (rs := [9]) (by kernel_rfl) (by simp) ?_
    refine AllReadyH.cons (o := _) rfl (fun K hK => ?_) AllReadyH.nil
    go_simp
    refine (HI2.out _ hH3.2.2).mono ?_
    rintro e w4 ⟨rfl, g, _⟩
    have P4 := hH3.2.2.step g
    try dsimp only
    refine hK.out _ _ ⟨(CV.out _ P4).1, (CV.out _ P4).2, P4⟩ (fun hH4 => ?_)
    clear hK K hH3
    refine wpAnyH_take (i := 10) (v := ?v7) rfl (by kernel_rfl) (by kernel_rfl) (by kernel_rfl) (fun _ _ _ h => h) (Or.inl ⟨by rfl, ?hy7⟩) (by assumption) ?rest7
    case hy7 => (intro wz hSw; (try dsimp only at hSw); first | (go_simp; done) | (go_simp; with_reducible rfl))
    try simp only [Act.put, List.getElem_toArray, List.getElem_cons_succ, List.getElem_cons_zero, List.setIfInBounds_toArray, List.set_cons_zero, List.set_cons_succ]
    refine wpAnyH_take (i := 11) (v := ?v8) rfl (by kernel_rfl) (by kernel_rfl) (by kernel_rfl) (fun _ _ _ h => h) (Or.inl ⟨by rfl, ?hy8⟩) (by assumption) ?rest8
    case hy8 => (intro wz hSw; (try dsimp only at hSw); first | (go_simp; done) | (go_simp; with_reducible rfl))
    try simp only [Act.put, List.getElem_toArray, List.getElem_cons_succ, List.getElem_cons_zero, List.setIfInBounds_toArray, List.set_cons_zero, List.set_cons_succ]
    refine wpAnyH_take (i := 12) (v := ?v9) rfl (by kernel_rfl) (by kernel_rfl) (by kernel_rfl) (fun _ _ _ h => h) (Or.inl ⟨by rfl, ?hy9⟩) (by assumption) ?rest9
    case hy9 => (intro wz hSw; (try dsimp only at hSw); first | (go_simp; done) | (go_simp; with_reducible rfl))
    try simp only [Act.put, List.getElem_toArray, List.getElem_cons_succ, List.getElem_cons_zero, List.setIfInBounds_toArray, List.set_cons_zero, List.set_cons_succ]
    refine wpAnyH_take (i := 13) (v := ?v10) rfl (by kernel_rfl) (by kernel_rfl) (by kernel_rfl) (fun _ _ _ h => h) (Or.inl ⟨by rfl, ?hy10⟩) (by assumption) ?rest10
    case hy10 => (intro wz hSw; (try dsimp only at hSw); first | (go_simp; done) | (go_simp; with_reducible rfl))
    try simp only [Act.put, List.getElem_toArray, List.getElem_cons_succ, List.getElem_cons_zero, List.setIfInBounds_toArray, List.set_cons_zero, List.set_cons_succ]
    refine wpAnyH_take (i := 16) (v := ?v11) rfl (by kernel_rfl) (by kernel_rfl) (by kernel_rfl) (fun _ _ _ h => h) (Or.inl ⟨by rfl, ?hy11⟩) (by assumption) ?rest11
    case hy11 => (intro wz hSw; (try dsimp only at hSw); first | (go_simp; done) | (go_simp; with_reducible rfl))
    try simp only [Act.put, List.getElem_toArray, List.getElem_cons_succ, List.getElem_cons_zero, List.setIfInBounds_toArray, List.set_cons_zero, List.set_cons_succ]
    refine wpAnyH_ready (rs := [14]) (by kernel_rfl) (by simp) ?_
    refine AllReadyH.cons (o := _) rfl (fun K hK => ?_) AllReadyH.nil
    go_simp
    refine (HG1.out _ hH4.2.2).mono ?_
    rintro e w5 ⟨a5, c5, rfl, g, s5⟩
    have P5 := hH4.2.2.step g
    try dsimp only
    refine hK.out _ _ ⟨(CV.out _ P5).1, (CV.out _ P5).2, P5⟩ (fun hH5 => ?_)
    clear hK K hH4
    refine wpAnyH_more (S2 := fun w' : World => (convert 31 9 (.slice ax n cx)).run Try.prog w' = .ok (.string Y) w' ∧ (convert 31 9 (.slice ay n cy)).run Try.prog w' = .ok (.string Y) w' ∧ (convert 31 9 (.slice a5 k c5)).run Try.prog w' = .ok (.string Z) w' ∧ PS W a bs.length cap bs ax ay n cx cy X w') (fun _ h => ⟨h.1, h.2.1, h.2.2.2⟩) _ _ _ _ ?_
    have hK5 : (fun w' : World => (convert 31 9 (.slice ax n cx)).run Try.prog w' = .ok (.string Y) w' ∧ (convert 31 9 (.slice ay n cy)).run Try.prog w' = .ok (.string Y) w' ∧ (convert 31 9 (.slice a5 k c5)).run Try.prog w' = .ok (.string Z) w' ∧ PS W a bs.length cap bs ax ay n cx cy X w') w5 := ⟨(CV.out _ P5).1, (CV.out _ P5).2, CZ.out _ _ _ s5, P5⟩
    clear g
    clear hH5
    refine wpAnyH_take (i := 15) (v := ?v12) rfl (by kernel_rfl) (by kernel_rfl) (by kernel_rfl) (fun _ _ _ h => h) (Or.inl ⟨by rfl, ?hy12⟩) (by assumption) ?rest12
    case hy12 => (intro wz hSw; (try dsimp only at hSw); first | (go_simp; done) | (go_simp; with_reducible rfl))
    try simp only [Act.put, List.getElem_toArray, List.getElem_cons_succ, List.getElem_cons_zero, List.setIfInBounds_toArray, List.set_cons_zero, List.set_cons_succ]
    refine wpAnyH_ready (rs := [17]) (by kernel_rfl) (by simp) ?_
    refine AllReadyH.cons (o := _) rfl (fun K hK => ?_) AllReadyH.nil
    go_simp
    refine (HG2.out _ hK5.2.2.2).mono ?_
    rintro e w6 ⟨a6, c6, rfl, g, s6⟩
    have P6 := hK5.2.2.2.step g
    try dsimp only
    refine hK.out _ _ ⟨(CV.out _ P6).1, (CV.out _ P6).2, CZ.out _ _ _ (s5.keep0 g), P6⟩ (fun hH6 => ?_)
    clear hK K hK5
    refine wpAnyH_more (S2 := fun w' : World => (convert 31 9 (.slice ax n cx)).run Try.prog w' = .ok (.string Y) w' ∧ (convert 31 9 (.slice ay n cy)).run Try.prog w' = .ok (.string Y) w' ∧ (convert 31 9 (.slice a5 k c5)).run Try.prog w' = .ok (.string Z) w' ∧ (convert 31 9 (.slice a6 k c6)).run Try.prog w' = .ok (.string Z) w' ∧ PS W a bs.length cap bs ax ay n cx cy X w') (fun _ h => ⟨h.1, h.2.1, h.2.2.1, h.2.2.2.2⟩) _ _ _ _ ?_
    have hK6 : (fun w' : World => (convert 31 9 (.slice ax n cx)).run Try.prog w' = .ok (.string Y) w' ∧ (convert 31 9 (.slice ay n cy)).run Try.prog w' = .ok (.string Y) w' ∧ (convert 31 9 (.slice a5 k c5)).run Try.prog w' = .ok (.string Z) w' ∧ (convert 31 9 (.slice a6 k c6)).run Try.prog w' = .ok (.string Z) w' ∧ PS W a bs.length cap bs ax ay n cx cy X w') w6 := ⟨(CV.out _ P6).1, (CV.out _ P6).2, CZ.out _ _ _ (s5.keep0 g), CZ.out _ _ _ s6, P6⟩
    have s5' := s5.keep0 g
    clear hH6 s5 g
    refine wpAnyH_take (i := 18) (v := ?v13) rfl (by kernel_rfl) (by kernel_rfl) (by kernel_rfl) (fun _ _ _ h => h) (Or.inl ⟨by rfl, ?hy13⟩) (by assumption) ?rest13
    case hy13 => (intro wz hSw; (try dsimp only at hSw); first | (go_simp; done) | (go_simp; with_reducible rfl))
    try simp only [Act.put, List.getElem_toArray, List.getElem_cons_succ, List.getElem_cons_zero, List.setIfInBounds_toArray, List.set_cons_zero, List.set_cons_succ]
    refine wpAnyH_take (i := 19) (v := ?v14) rfl (by kernel_rfl) (by kernel_rfl) (by kernel_rfl) (fun _ _ _ h => h) (Or.inl ⟨by rfl, ?hy14⟩) (by assumption) ?rest14
    case hy14 => (intro wz hSw; (try dsimp only at hSw); first | (go_simp; done) | (go_simp; with_reducible rfl))
    try simp only [Act.put, List.getElem_toArray, List.getElem_cons_succ, List.getElem_cons_zero, List.setIfInBounds_toArray, List.set_cons_zero, List.set_cons_succ]
    refine wpAnyH_take (i := 20) (v := ?v15) rfl (by kernel_rfl) (by kernel_rfl) (by kernel_rfl) (fun _ _ _ h => h) (Or.inl ⟨by rfl, ?hy15⟩) (by assumption) ?rest15
    case hy15 => (intro wz hSw; (try dsimp only at hSw); first | (go_simp; done) | (go_simp; with_reducible rfl))
    try simp only [Act.put, List.getElem_toArray, List.getElem_cons_succ, List.getElem_cons_zero, List.setIfInBounds_toArray, List.set_cons_zero, List.set_cons_succ]
    refine wpAnyH_take (i := 21) (v := ?v16) rfl (by kernel_rfl) (by kernel_rfl) (by kernel_rfl) (fun _ _ _ h => h) (Or.inl ⟨by rfl, ?hy16⟩) (by assumption) ?rest16
    case hy16 => (intro wz hSw; (try dsimp only at hSw); first | (go_simp; done) | (go_simp; with_reducible rfl))
    try simp only [Act.put, List.getElem_toArray, List.getElem_cons_succ, List.getElem_cons_zero, List.setIfInBounds_toArray, List.set_cons_zero, List.set_cons_succ]
    refine wpAnyH_take (i := 22) (v := ?v17) rfl (by kernel_rfl) (by kernel_rfl) (by kernel_rfl) (fun _ _ _ h => h) (Or.inl ⟨by rfl, ?hy17⟩) (by assumption) ?rest17
    case hy17 => (intro wz hSw; (try dsimp only at hSw); first | (go_simp; done) | (go_simp; with_reducible rfl))
    try simp only [Act.put, List.getElem_toArray, List.getElem_cons_succ, List.getElem_cons_zero, List.setIfInBounds_toArray, List.set_cons_zero, List.set_cons_succ]
    refine wpAnyH_take (i := 23) (v := ?v18) rfl (by kernel_rfl) (by kernel_rfl) (by kernel_rfl) (fun _ _ _ h => h) (Or.inl ⟨by rfl, ?hy18⟩) (by assumption) ?rest18
    case hy18 => (intro wz hSw; (try dsimp only at hSw); first | (go_simp; done) | (go_simp; with_reducible rfl))
    try simp only [Act.put, List.getElem_toArray, List.getElem_cons_succ, List.getElem_cons_zero, List.setIfInBounds_toArray, List.set_cons_zero, List.set_cons_succ]
    refine wpAnyH_take (i := 24) (v := ?v19) rfl (by kernel_rfl) (by kernel_rfl) (by kernel_rfl) (fun _ _ _ h => h) (Or.inl ⟨by rfl, ?hy19⟩) (by assumption) ?rest19
    case hy19 => (intro wz hSw; (try dsimp only at hSw); first | (go_simp; done) | (go_simp; with_reducible rfl))
    try simp only [Act.put, List.getElem_toArray, List.getElem_cons_succ, List.getElem_cons_zero, List.setIfInBounds_toArray, List.set_cons_zero, List.set_cons_succ]
    refine wpAnyH_take (i := 25) (v := ?v20) rfl (by kernel_rfl) (by kernel_rfl) (by kernel_rfl) (fun _ _ _ h => h) (Or.inl ⟨by rfl, ?hy20⟩) (by assumption) ?rest20
    case hy20 => (intro wz hSw; (try dsimp only at hSw); first | (go_simp; done) | (go_simp; with_reducible rfl))
    try simp only [Act.put, List.getElem_toArray, List.getElem_cons_succ, List.getElem_cons_zero, List.setIfInBounds_toArray, List.set_cons_zero, List.set_cons_succ]
    refine wpAnyH_take (i := 26) (v := ?v21) rfl (by kernel_rfl) (by kernel_rfl) (by kernel_rfl) (fun _ _ _ h => h) (Or.inl ⟨by rfl, ?hy21⟩) (by assumption) ?rest21
    case hy21 => (intro wz hSw; (try dsimp only at hSw); first | (go_simp; done) | (go_simp; with_reducible rfl))
    try simp only [Act.put, List.getElem_toArray, List.getElem_cons_succ, List.getElem_cons_zero, List.setIfInBounds_toArray, List.set_cons_zero, List.set_cons_succ]
    refine wpAnyH_take (i := 27) (v := ?v22) rfl (by kernel_rfl) (by kernel_rfl) (by kernel_rfl) (fun _ _ _ h => h) (Or.inl ⟨by rfl, ?hy22⟩) (by assumption) ?rest22
    case hy22 => (intro wz hSw; (try dsimp only at hSw); first | (go_simp; done) | (go_simp; with_reducible rfl))
    try simp only [Act.put, List.getElem_toArray, List.getElem_cons_succ, List.getElem_cons_zero, List.setIfInBounds_toArray, List.set_cons_zero, List.set_cons_succ]
    refine wpAnyH_take (i := 28) (v := ?v23) rfl (by kernel_rfl) (by kernel_rfl) (by kernel_rfl) (fun _ _ _ h => h) (Or.inl ⟨by rfl, ?hy23⟩) (by assumption) ?rest23
    case hy23 => (intro wz hSw; (try dsimp only at hSw); first | (go_simp; done) | (go_simp; with_reducible rfl))
    try simp only [Act.put, List.getElem_toArray, List.getElem_cons_succ, List.getElem_cons_zero, List.setIfInBounds_toArray, List.set_cons_zero, List.set_cons_succ]
    refine wpAnyH_take (i := 29) (v := ?v24) rfl (by kernel_rfl) (by kernel_rfl) (by kernel_rfl) (fun _ _ _ h => h) (Or.inl ⟨by rfl, ?hy24⟩) (by assumption) ?rest24
    case hy24 => (intro wz hSw; (try dsimp only at hSw); first | (go_simp; done) | (go_simp; with_reducible rfl))
    try simp only [Act.put, List.getElem_toArray, List.getElem_cons_succ, List.getElem_cons_zero, List.setIfInBounds_toArray, List.set_cons_zero, List.set_cons_succ]
    refine wpAnyH_take (i := 30) (v := ?v25) rfl (by kernel_rfl) (by kernel_rfl) (by kernel_rfl) (fun _ _ _ h => h) (Or.inl ⟨by rfl, ?hy25⟩) (by assumption) ?rest25
    case hy25 => (intro wz hSw; (try dsimp only at hSw); first | (go_simp; done) | (go_simp; with_reducible rfl))
    try simp only [Act.put, List.getElem_toArray, List.getElem_cons_succ, List.getElem_cons_zero, List.setIfInBounds_toArray, List.set_cons_zero, List.set_cons_succ]
    refine wpAnyH_take (i := 31) (v := ?v26) rfl (by kernel_rfl) (by kernel_rfl) (by kernel_rfl) (fun _ _ _ h => h) (Or.inl ⟨by rfl, ?hy26⟩) (by assumption) ?rest26
    case hy26 => (intro wz hSw; (try dsimp only at hSw); first | (go_simp; done) | (go_simp; with_reducible rfl))
    try simp only [Act.put, List.getElem_toArray, List.getElem_cons_succ, List.getElem_cons_zero, List.setIfInBounds_toArray, List.set_cons_zero, List.set_cons_succ]
    refine wpAnyH_take (i := 32) (v := ?v27) rfl (by kernel_rfl) (by kernel_rfl) (by kernel_rfl) (fun _ _ _ h => h) (Or.inl ⟨by rfl, ?hy27⟩) (by assumption) ?rest27
    case hy27 => (intro wz hSw; (try dsimp only at hSw); first | (go_simp; done) | (go_simp; with_reducible rfl))
    try simp only [Act.put, List.getElem_toArray, List.getElem_cons_succ, List.getElem_cons_zero, List.setIfInBounds_toArray, List.set_cons_zero, List.set_cons_succ]
    refine wpAnyH_take (i := 33) (v := ?v28) rfl (by kernel_rfl) (by kernel_rfl) (by kernel_rfl) (fun _ _ _ h => h) (Or.inl ⟨by rfl, ?hy28⟩) (by assumption) ?rest28
    case hy28 => (intro wz hSw; (try dsimp only at hSw); first | (go_simp; done) | (go_simp; with_reducible rfl))
    try simp only [Act.put, List.getElem_toArray, List.getElem_cons_succ, List.getElem_cons_zero, List.setIfInBounds_toArray, List.set_cons_zero, List.set_cons_succ]
    refine wpAnyH_take (i := 34) (v := ?v29) rfl (by kernel_rfl) (by kernel_rfl) (by kernel_rfl) (fun _ _ _ h => h) (Or.inl ⟨by rfl, ?hy29⟩) (by assumption) ?rest29
    case hy29 => (intro wz hSw; (try dsimp only at hSw); first | (go_simp; done) | (go_simp; with_reducible rfl))
    try simp only [Act.put, List.getElem_toArray, List.getElem_cons_succ, List.getElem_cons_zero, List.setIfInBounds_toArray, List.set_cons_zero, List.set_cons_succ]
    refine wpAnyH_take (i := 35) (v := ?v30) rfl (by kernel_rfl) (by kernel_rfl) (by kernel_rfl) (fun _ _ _ h => h) (Or.inl ⟨by rfl, ?hy30⟩) (by assumption) ?rest30
    case hy30 => (intro wz hSw; (try dsimp only at hSw); first | (go_simp; done) | (go_simp; with_reducible rfl))
    try simp only [Act.put, List.getElem_toArray, List.getElem_cons_succ, List.getElem_cons_zero, List.setIfInBounds_toArray, List.set_cons_zero, List.set_cons_succ]
    refine wpAnyH_take (i := 36) (v := ?v31) rfl (by kernel_rfl) (by kernel_rfl) (by kernel_rfl) (fun _ _ _ h => h) (Or.inl ⟨by rfl, ?hy31⟩) (by assumption) ?rest31
    case hy31 => (intro wz hSw; (try dsimp only at hSw); first | (go_simp; done) | (go_simp; with_reducible rfl))
    try simp only [Act.put, List.getElem_toArray, List.getElem_cons_succ, List.getElem_cons_zero, List.setIfInBounds_toArray, List.set_cons_zero, List.set_cons_succ]
    refine wpAnyH_take (i := 37) (v := ?v32) rfl (by kernel_rfl) (by kernel_rfl) (by kernel_rfl) (fun _ _ _ h => h) (Or.inl ⟨by rfl, ?hy32⟩) (by assumption) ?rest32
    case hy32 => (intro wz hSw; (try dsimp only at hSw); first | (go_simp; done) | (go_simp; with_reducible rfl))
    try simp only [Act.put, List.getElem_toArray, List.getElem_cons_succ, List.getElem_cons_zero, List.setIfInBounds_toArray, List.set_cons_zero, List.set_cons_succ]
    refine wpAnyH_take (i := 38) (v := ?v33) rfl (by kernel_rfl) (by kernel_rfl) (by kernel_rfl) (fun _ _ _ h => h) (Or.inl ⟨by rfl, ?hy33⟩) (by assumption) ?rest33
    case hy33 => (intro wz hSw; (try dsimp only at hSw); first | (go_simp; done) | (go_simp; with_reducible rfl))
    try simp only [Act.put, List.getElem_toArray, List.getElem_cons_succ, List.getElem_cons_zero, List.setIfInBounds_toArray, List.set_cons_zero, List.set_cons_succ]
    refine wpAnyH_ready (rs := [39]) (by kernel_rfl) (by simp) ?_
    refine AllReadyH.cons (o := _) rfl (fun K hK => ?_) AllReadyH.nil
    go_simp
    refine (awake_any _).mono ?_
    rintro e w7 ⟨rfl, g, _⟩
    have P7 := hK6.2.2.2.2.step g
    try dsimp only
    refine hK.out _ _ ⟨(CV.out _ P7).1, (CV.out _ P7).2, CZ.out _ _ _ (s5'.keep0 g), CZ.out _ _ _ (s6.keep0 g), P7⟩ (fun hH7 => ?_)
    have G7 := Lib.hid P7.1.2
    clear hK K hK6 g
    refine wpAnyH_take (i := 40) (v := ?v34) rfl (by kernel_rfl) (by kernel_rfl) (by kernel_rfl) (fun _ _ _ h => h) (Or.inl ⟨by rfl, ?hy34⟩) (by assumption) ?rest34
    case hy34 => (intro wz hSw; (try dsimp only at hSw); first | (go_simp; done) | (go_simp; with_reducible rfl))
    try simp only [Act.put, List.getElem_toArray, List.getElem_cons_succ, List.getElem_cons_zero, List.setIfInBounds_toArray, List.set_cons_zero, List.set_cons_succ]
    refine wpAnyH_take (i := 41) (v := ?v35) rfl (by kernel_rfl) (by kernel_rfl) (by kernel_rfl) (fun _ _ _ h => h) (Or.inl ⟨by rfl, ?hy35⟩) (by assumption) ?rest35
    case hy35 => (intro wz hSw; (try dsimp only at hSw); first | (go_simp; done) | (go_simp; with_reducible rfl))
    try simp only [Act.put, List.getElem_toArray, List.getElem_cons_succ, List.getElem_cons_zero, List.setIfInBounds_toArray, List.set_cons_zero, List.set_cons_succ]
    refine wpAnyH_done (by kernel_rfl) ?_ _
    clear hH7 P1 P2 P3 P4 P5 P6 P7 s5' s6
    go_wp2
    go_ret
    exact ⟨rfl, below_of G7.out⟩
  · go_enter Try.func9, Try.ntmps9
    go_wp2_with fail
    refine (awake_any _).mono ?_
    rintro e w4 ⟨rfl, g4, _⟩
    go_wp2
    go_ret
    exact ⟨rfl, below_of g4⟩
end Go.Proofs.Ytplhhjbmegaiiaa
