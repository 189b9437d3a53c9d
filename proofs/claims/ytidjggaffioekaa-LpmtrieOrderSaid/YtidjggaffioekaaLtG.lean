/- Tries: Delete. -/
import Derived.Test.YtidjggaffioekaaLtF
namespace Go.Proofs.Ytidjggaffioekaa
open Go.RowKit
set_option linter.unusedVariables false

theorem delL_len {w : Nat} {p : List Bool} {x : Int} {L : List Ent} (h : Srt w L) (hm : (p, x) ∈ L) : (delL p L).length + 1 = L.length := by
  obtain ⟨i, hi, e⟩ := List.getElem_of_mem hm
  rw [← delL_at h hi (by rw [e])]
  simp; omega
theorem getT_some {p : List Bool} {x : Int} {T : Tr} (h : getT p T = some x) : ∃ b l r, sub T (desc p T) = .node b p true x l r := by
  rw [getT_N] at h
  cases hs : sub T (desc p T) with
  | nil => rw [hs] at h; simp [getN] at h
  | node b q st y l r =>
    rw [hs] at h
    simp only [getN] at h
    split at h
    · rename_i k
      obtain ⟨rfl, rfl⟩ := k
      injection h with h
      subst h
      exact ⟨b, l, r, rfl⟩
    · cases h
theorem getT_none {p : List Bool} {T : Tr} (h : getT p T = none) : fgt p (sub T (desc p T)) = .pointer none := by
  rw [getT_N] at h
  cases hs : sub T (desc p T) with
  | nil => rfl
  | node b q st y l r =>
    rw [hs] at h
    simp only [getN] at h
    simp only [fgt]
    split at h
    · cases h
    · rename_i k; rw [if_neg k]
def Bs (s : Nat) (T : Tr) (g : Nat) : Prop := g = s ∨ g ∈ blks T
def RetD (W : World) (q s wd : Nat) (T : Tr) (v : Value) (T2 : Tr) (w : World) (e : Ending) (w' : World) : Prop := e = .returned v ∧ LS W q s wd T2 w' ∧ Fx (Bs s T) w w'
set_option maxRecDepth 100000 in
theorem del_no (w : World) (v a b : Value) (h : Calls Try.prog 28 #[v] w (RetS (.bool false) w)) : Calls Try.prog 19 #[v, a, b] w (RetV (.bool false) w) := by
  have MD := Lib.hid h
  clear h
  go_enter Try.func19, Try.ntmps19
  go_wp2_with fail
  refine MD.out.mono ?_
  rintro e w1 ⟨rfl, rfl⟩
  go_wp2
  go_ret
  exact ⟨rfl, gb_refl _ _⟩
set_option maxRecDepth 100000 in
theorem del_bad (W w : World) (q s wd v : Nat) (T : Tr) (n : Int) (h : LS W q s wd T w) (hn : ¬ (v < 2 ^ wd ∧ 0 ≤ n ∧ n ≤ wd)) : Calls Try.prog 19 #[.pointer (some ⟨q, 0, none⟩), .int .u32 v, .int .i64 n] w (RetV (.bool false) w) := by
  have MD := Lib.hid (made_yes w q s h.qv)
  have c0 : w.cell? ⟨q, 0, none⟩ = some (.pointer (some ⟨s, 0, none⟩)) := h.qv.cell 0
  have GB := Lib.hid (sget_bad W w q s wd v T n h hn)
  clear h hn
  go_enter Try.func19, Try.ntmps19
  go_wp2_with fail
  refine MD.out.mono ?_
  rintro e w1 ⟨rfl, rfl⟩
  go_wp2_with fail
  refine GB.out.mono ?_
  rintro e w2 ⟨rfl, g⟩
  have G := Lib.hid g
  clear g
  go_wp2
  go_ret
  exact ⟨rfl, G.out⟩
set_option maxRecDepth 100000 in
theorem del_none (W w : World) (q s wd v n : Nat) (T : Tr) (p : List Bool) (h : LS W q s wd T w) (hv : v < 2 ^ wd) (hn : n ≤ wd) (hp : p = (bitsN wd v).take n) (hg : getT p T = none) : Calls Try.prog 19 #[.pointer (some ⟨q, 0, none⟩), .int .u32 v, .int .i64 n] w (RetV (.bool false) w) := by
  have MD := Lib.hid (made_yes w q s h.qv)
  have c0 : w.cell? ⟨q, 0, none⟩ = some (.pointer (some ⟨s, 0, none⟩)) := h.qv.cell 0
  have GB := Lib.hid (sget_ok W w q s wd v n T p h hv hn hp)
  rw [getT_none hg] at GB
  clear h hv hn hp hg
  go_enter Try.func19, Try.ntmps19
  go_wp2_with fail
  refine MD.out.mono ?_
  rintro e w1 ⟨rfl, rfl⟩
  go_wp2_with fail
  refine GB.out.mono ?_
  rintro e w2 ⟨rfl, g⟩
  have G := Lib.hid g
  clear g
  go_wp2
  go_ret
  exact ⟨rfl, G.out⟩
set_option maxRecDepth 100000 in
set_option maxHeartbeats 4000000 in
theorem del_some (W w : World) (q s wd v n : Nat) (T : Tr) (p : List Bool) (x : Int) (h : LS W q s wd T w) (hv : v < 2 ^ wd) (hn : n ≤ wd) (hp : p = (bitsN wd v).take n) (hg : getT p T = some x) (hN : (ents T).length ≤ 100000) :
    Calls Try.prog 19 #[.pointer (some ⟨q, 0, none⟩), .int .u32 v, .int .i64 n] w (RetD W q s wd T (.bool true) (delT p T) w) := by
  have pl : p.length ≤ wd := by rw [hp, List.length_take, bits_len]; omega
  have MD := Lib.hid (made_yes w q s h.qv)
  have c0 : w.cell? ⟨q, 0, none⟩ = some (.pointer (some ⟨s, 0, none⟩)) := h.qv.cell 0
  have GB := Lib.hid (sget_ok W w q s wd v n T p h hv hn hp)
  obtain ⟨b, l, r, hs⟩ := getT_some hg
  rw [hs, show fgt p (.node b p true x l r) = .pointer (some ⟨b, 0, none⟩) from by simp [fgt]] at GB
  have HM := (get_mem p x T h.ok).2 hg
  have HL := Lib.hid (delL_len h.ok.sorted HM)
  rw [← delT_ents h.ok] at HL
  have SB := Lib.hid h.sb
  have QB := Lib.hid h.qb
  have HH := Lib.hid h
  have NB0 := sub_tn T (desc p T) h.tn
  rw [hs] at NB0
  have N0 := Lib.hid NB0.1
  have WI0 := Lib.hid (fun (W2 : World) (k : w.grownBy W2 none) => without_any wd s p h.w1 h.w2 pl T W2 [] ((h.keep0 k).sv.cell 0) (h.keep0 k).tn h.nd h.sb h.ok (mem_has h.ok HM))
  unfold RetW at WI0
  unfold RetD
  have DS := Lib.hid (fun g (m : g ∈ blks (delT p T)) => (del_sub p T).subset m)
  have DN := Lib.hid ((del_sub p T).nodup h.nd)
  have OK2 := Lib.hid (delT_ok (p := p) h.ok)
  have NN := Lib.hid hN
  clear h hv hn hp hg hN pl hs HM NB0
  go_enter Try.func19, Try.ntmps19
  go_wp2_with fail
  refine MD.out.mono ?_
  rintro e w1 ⟨rfl, rfl⟩
  go_wp2_with fail
  refine GB.out.mono ?_
  rintro e w2 ⟨rfl, g⟩
  have G := Lib.hid g
  have H2 := Lib.hid (HH.out.keep0 g)
  have SV := Lib.hid H2.out.sv
  have QV := Lib.hid H2.out.qv
  have NB := Lib.hid (N0.out.keep0 g)
  have WI := Lib.hid (fun (W2 : World) (k : w2.grownBy W2 none) => WI0.out W2 (gb_trans G.out k))
  clear g c0 WI0 N0 MD GB
  go_upto_region 7 with fail
  have hF0 : (fun w' : World => w'.cell? ⟨s, 1, none⟩ = some (ptr T) ∧ w'.cell? ⟨b, 0, none⟩ = some (.int .u32 (E wd p)) ∧ w'.cell? ⟨b, 1, none⟩ = some (.int .i64 p.length)) w2.drew := ⟨(SV.out.keep0 (gb_drew w2 none)).cell 1, (NB.out.keep0 (gb_drew w2 none)).cell 0, (NB.out.keep0 (gb_drew w2 none)).cell 1⟩
  refine wp_region_S (fun w' : World => w'.cell? ⟨s, 1, none⟩ = some (ptr T) ∧ w'.cell? ⟨b, 0, none⟩ = some (.int .u32 (E wd p)) ∧ w'.cell? ⟨b, 1, none⟩ = some (.int .i64 p.length)) 13 (by kernel_rfl) ?_
  refine wpAnyS_pure (i := 0) (v := ?v1) rfl (by kernel_rfl) (by kernel_rfl) (by kernel_rfl) (by decide) (fun _ _ _ h => h) (Or.inl ⟨by rfl, ?hy1⟩) (Or.inr (by assumption)) ?rest1
  case hy1 => (intro wz hSw; (try dsimp only at hSw); first | (go_simp; done) | (go_simp; with_reducible rfl))
  try simp only [Act.put, List.getElem_toArray, List.getElem_cons_zero, List.setIfInBounds_toArray, List.set_cons_zero, List.set_cons_succ]
  refine wpAnyS_pure (i := 1) (v := ?v2) rfl (by kernel_rfl) (by kernel_rfl) (by kernel_rfl) (by decide) (fun _ _ _ h => h) (Or.inl ⟨by rfl, ?hy2⟩) (Or.inr (by assumption)) ?rest2
  case hy2 => (intro wz hSw; (try dsimp only at hSw); first | (go_simp; done) | (go_simp; with_reducible rfl))
  try simp only [Act.put, List.getElem_toArray, List.getElem_cons_succ, List.getElem_cons_zero, List.setIfInBounds_toArray, List.set_cons_zero, List.set_cons_succ]
  refine wpAnyS_pure (i := 2) (v := ?v3) rfl (by kernel_rfl) (by kernel_rfl) (by kernel_rfl) (by decide) (fun _ _ _ h => h) (Or.inl ⟨by rfl, ?hy3⟩) (Or.inr (by assumption)) ?rest3
  case hy3 => (intro wz hSw; (try dsimp only at hSw); first | (go_simp; done) | (go_simp; with_reducible rfl))
  try simp only [Act.put, List.getElem_toArray, List.getElem_cons_succ, List.getElem_cons_zero, List.setIfInBounds_toArray, List.set_cons_zero, List.set_cons_succ]
  refine wpAnyS_pure (i := 3) (v := ?v4) rfl (by kernel_rfl) (by kernel_rfl) (by kernel_rfl) (by decide) (fun _ _ _ h => h) (Or.inl ⟨by rfl, ?hy4⟩) (Or.inr (by assumption)) ?rest4
  case hy4 => (intro wz hSw; (try dsimp only at hSw); first | (go_simp; done) | (go_simp; with_reducible rfl))
  try simp only [Act.put, List.getElem_toArray, List.getElem_cons_succ, List.getElem_cons_zero, List.setIfInBounds_toArray, List.set_cons_zero, List.set_cons_succ]
  refine wpAnyS_pure (i := 4) (v := ?v5) rfl (by kernel_rfl) (by kernel_rfl) (by kernel_rfl) (by decide) (fun _ _ _ h => h) (Or.inl ⟨by rfl, ?hy5⟩) (Or.inr (by assumption)) ?rest5
  case hy5 => (intro wz hSw; (try dsimp only at hSw); first | (go_simp; done) | (go_simp; with_reducible rfl))
  try simp only [Act.put, List.getElem_toArray, List.getElem_cons_succ, List.getElem_cons_zero, List.setIfInBounds_toArray, List.set_cons_zero, List.set_cons_succ]
  refine wpAnyS_load 10 (i := 5) (v := ?v6) rfl (by kernel_rfl) (by kernel_rfl) (by kernel_rfl) (by kernel_rfl) (fun _ _ _ h => h) (Or.inl ⟨by rfl, ?hy6⟩) (by assumption) ?rest6
  case hy6 => (intro wz hSw; (try dsimp only at hSw); first | (go_simp; done) | (go_simp; with_reducible rfl))
  try simp only [Act.put, List.getElem_toArray, List.getElem_cons_succ, List.getElem_cons_zero, List.setIfInBounds_toArray, List.set_cons_zero, List.set_cons_succ]
  refine wpAnyS_pure (i := 6) (v := ?v7) rfl (by kernel_rfl) (by kernel_rfl) (by kernel_rfl) (by decide) (fun _ _ _ h => h) (Or.inl ⟨by rfl, ?hy7⟩) (Or.inr (by assumption)) ?rest7
  case hy7 => (intro wz hSw; (try dsimp only at hSw); first | (go_simp; done) | (go_simp; with_reducible rfl))
  try simp only [Act.put, List.getElem_toArray, List.getElem_cons_succ, List.getElem_cons_zero, List.setIfInBounds_toArray, List.set_cons_zero, List.set_cons_succ]
  refine wpAnyS_pure (i := 7) (v := ?v8) rfl (by kernel_rfl) (by kernel_rfl) (by kernel_rfl) (by decide) (fun _ _ _ h => h) (Or.inl ⟨by rfl, ?hy8⟩) (Or.inr (by assumption)) ?rest8
  case hy8 => (intro wz hSw; (try dsimp only at hSw); first | (go_simp; done) | (go_simp; with_reducible rfl))
  try simp only [Act.put, List.getElem_toArray, List.getElem_cons_succ, List.getElem_cons_zero, List.setIfInBounds_toArray, List.set_cons_zero, List.set_cons_succ]
  refine wpAnyS_pure (i := 8) (v := ?v9) rfl (by kernel_rfl) (by kernel_rfl) (by kernel_rfl) (by decide) (fun _ _ _ h => h) (Or.inl ⟨by rfl, ?hy9⟩) (Or.inr (by assumption)) ?rest9
  case hy9 => (intro wz hSw; (try dsimp only at hSw); first | (go_simp; done) | (go_simp; with_reducible rfl))
  try simp only [Act.put, List.getElem_toArray, List.getElem_cons_succ, List.getElem_cons_zero, List.setIfInBounds_toArray, List.set_cons_zero, List.set_cons_succ]
  refine wpAnyS_load 10 (i := 9) (v := ?v10) rfl (by kernel_rfl) (by kernel_rfl) (by kernel_rfl) (by kernel_rfl) (fun _ _ _ h => h) (Or.inl ⟨by rfl, ?hy10⟩) (by assumption) ?rest10
  case hy10 => (intro wz hSw; (try dsimp only at hSw); first | (go_simp; done) | (go_simp; with_reducible rfl))
  try simp only [Act.put, List.getElem_toArray, List.getElem_cons_succ, List.getElem_cons_zero, List.setIfInBounds_toArray, List.set_cons_zero, List.set_cons_succ]
  refine wpAnyS_one (i := 10) (o := _) (by kernel_rfl) rfl (fun K hK => ?_)
  go_simp
  (with_reducible refine (WI.out _ (gb_drew w2 none)).mono ?_)
  rintro e jw1 ⟨rfl, td, fx, kk⟩
  obtain ⟨po, hpo⟩ := ptr_pad (delT p T)
  obtain ⟨ko, hko⟩ := ptr_pad T
  rw [hpo]
  have HPO := Lib.hid hpo
  have TD := Lib.hid td
  have FX := Lib.hid fx
  have KX := Lib.hid (kk.cell (NB.out.keep0 (gb_drew w2 none)))
  clear td fx kk hpo
  have SX := Lib.hid (FX.out.isb (SV.out.keep0 (gb_drew w2 none)) SB.out)
  have QX := Lib.hid (FX.out.isb (QV.out.keep0 (gb_drew w2 none)) QB.out)
  have f1 := SX.out.free 1
  have c1 := SX.out.cell 1
  dsimp at c1
  rw [hko] at c1
  clear hko
  clear hF0
  have hF1 : (fun w' : World => w'.cell? ⟨s, 1, none⟩ = some (ptr T) ∧ w'.cell? ⟨b, 0, none⟩ = some (.int .u32 (E wd p)) ∧ w'.cell? ⟨b, 1, none⟩ = some (.int .i64 p.length)) jw1 := ⟨SX.out.cell 1, KX.out.1, KX.out.2⟩
  try dsimp only
  refine hK.out _ _ (Or.inr hF1) (fun _ => ?_)
  clear hK K
  try simp only [Act.put, List.getElem_toArray, List.getElem_cons_succ, List.getElem_cons_zero, List.setIfInBounds_toArray, List.set_cons_zero, List.set_cons_succ]
  refine wpAnyS_pure (i := 11) (v := ?v11) rfl (by kernel_rfl) (by kernel_rfl) (by kernel_rfl) (by decide) (fun _ _ _ h => h) (Or.inl ⟨by rfl, ?hy11⟩) (Or.inr (by assumption)) ?rest11
  case hy11 => (intro wz hSw; (try dsimp only at hSw); first | (go_simp; done) | (go_simp; with_reducible rfl))
  try simp only [Act.put, List.getElem_toArray, List.getElem_cons_succ, List.getElem_cons_zero, List.setIfInBounds_toArray, List.set_cons_zero, List.set_cons_succ]
  refine wpAnyS_pure (i := 12) (v := ?v12) rfl (by kernel_rfl) (by kernel_rfl) (by kernel_rfl) (by decide) (fun _ _ _ h => h) (Or.inl ⟨by rfl, ?hy12⟩) (Or.inr (by assumption)) ?rest12
  case hy12 => (intro wz hSw; (try dsimp only at hSw); first | (go_simp; done) | (go_simp; with_reducible rfl))
  try simp only [Act.put, List.getElem_toArray, List.getElem_cons_succ, List.getElem_cons_zero, List.setIfInBounds_toArray, List.set_cons_zero, List.set_cons_succ]
  refine wpAnyS_one (i := 13) (o := _) (by kernel_rfl) rfl (fun K hK => ?_)
  go_simp
  refine hK.out _ _ (Or.inl (by kernel_rfl)) (fun _ => ?_)
  clear hK K
  try simp only [Act.put, List.getElem_toArray, List.getElem_cons_succ, List.getElem_cons_zero, List.setIfInBounds_toArray, List.set_cons_zero, List.set_cons_succ]
  refine wpAnyS_done (by kernel_rfl) ?_ _
  clear hF1
  have SX2 := Lib.hid (SX.out.set 1 (.pointer po))
  have c2 := SX.out.cell 2
  have f2 := SX.out.free 2
  dsimp at c2
  obtain ⟨m, hm⟩ : ∃ m, m = (ents (delT p T)).length := ⟨_, rfl⟩
  have HL2 := HL.out
  rw [← hm] at HL2
  rw [← HL2] at c2
  have hw : IntKind.i64.wrap (((m + 1 : Nat) : Int) - 1) = (m : Int) := by have := NN.out; rw [IntKind.wrap_i64]; omega
  have hw3 : wrap64 (m : Int) = (m : Int) := by have := NN.out; exact IntWalk.wrap64_in _ (by omega)
  have HMM := Lib.hid hm
  have NN2 := Lib.hid HL2
  clear hm f1 c1 HL HL2
  go_wp2
  go_ret
  refine ⟨rfl, ⟨?_, ?_, ?_, DN.out, OK2.out, HH.out.w1, HH.out.w2, ?_, HH.out.lowq, HH.out.lows, fun g m => HH.out.lowb g (DS.out g m)⟩, ?_⟩
  · exact (QX.out.set_far HH.out.ne 1 _).set_far HH.out.ne 2 _
  · have := SX2.out.set 2 (.int .i64 m)
    rw [HMM.out] at this ⊢
    rw [← HPO.out] at this ⊢
    simpa using this
  · exact (TD.out.far (fun m => SB.out (DS.out _ m))).far (fun m => SB.out (DS.out _ m))
  · exact gb_put (gb_put (Fx.gbW (gb_trans HH.out.grown (gb_trans G.out (gb_drew w2 none))) FX.out (fun k m => HH.out.lowb k m)) HH.out.lows) HH.out.lows
  · exact ((((Fx.of (gb_trans G.out (gb_drew w2 none)) : Fx (Bs s T) _ _).trans (FX.out.mono fun g _ m => .inr m)).trans (Fx.set (.inl rfl))).trans (Fx.set (.inl rfl)))
end Go.Proofs.Ytidjggaffioekaa
