/- Units: the program's collect; the walk; no condition but the sizes. -/
import Derived.Test.YtfjeonoihdgdoaaUnH
import Derived.StillTailTactics
import Derived.WalkMore
namespace Go.Proofs.Ytfjeonoihdgdoaa
open Go.RowKit
set_option linter.unusedVariables false
def CndK (T : CT) : Prop := ∀ x ∈ T.pre, x.N.length ≤ 10000
theorem cndk_at {T : CT} {x : CV} {j : Nat} (hc : CndK T) (h : T.drop j = x.ct (T.drop (j + 1))) : x.N.length ≤ 10000 ∧ CndK x.th ∧ CndK x.el := by
  have hp : ∀ (T : CT) (j : Nat), ∀ y ∈ (T.drop j).pre, y ∈ T.pre := by
    intro T
    induction T with
    | nil => intro j y hy; rw [CT.drop_nil] at hy; exact hy
    | cons k t c N s th u el r i1 i2 i3 =>
      intro j y hy
      cases j with
      | zero => exact hy
      | succ j => exact List.mem_cons_of_mem _ (List.mem_append_right _ (List.mem_append_right _ (i3 j y hy)))
  have q := hp T j
  rw [pre_at h] at q
  exact ⟨hc x (q x (List.mem_cons_self ..)), fun y hy => hc y (q y (List.mem_cons_of_mem _ (List.mem_append_left _ hy))), fun y hy => hc y (q y (List.mem_cons_of_mem _ (List.mem_append_right _ (List.mem_append_left _ hy))))⟩
def RetCol (w0 : World) (lb fb base : Nat) (L : List Un) (P : List PU) (w : World) (e : Ending) (w' : World) : Prop := (∃ v, e = .returned v) ∧ ∃ V' L', UI w0 w' lb fb base V' (L ++ L') ∧ L'.map uv = P ∧ Kt (OwU lb base) w w'
set_option maxRecDepth 100000 in
set_option maxHeartbeats 16000000 in
theorem col_rec (w0 : World) (lb fb base : Nat) : ∀ (m : Nat) (T : CT) (s : Sl) (G : List Gd) (gs : Sl) (w : World) (L : List Un) (V : Value), T.cnt < m → T.cnt + L.length ≤ 1000 → G.length + T.cnt ≤ 2000 → CndK T → ST w0 s T →
    (∀ x ∈ G, -9223372036854775808 ≤ x.1 ∧ x.1 ≤ 9223372036854775807) → GL w base (.slice gs.a gs.n gs.c) G → UI w0 w lb fb base V L →
    Calls Try.prog 55 #[.slice s.a s.n s.c, .slice gs.a gs.n gs.c, .pointer (some ⟨lb, 0, none⟩), .pointer (some ⟨fb, 0, none⟩)] w (RetCol w0 lb fb base L (bldT T L.length G) w) := by
  intro m
  induction m with
  | zero => intro T s G gs w L V h; omega
  | succ m ih =>
    intro T s G gs w L V hm hL hG hcd hS hr hgl hU
    have HS := Lib.hid hS
    have HU := Lib.hid hU
    have HGL := Lib.hid hgl
    have RG := Lib.hid hr
    have HCD := Lib.hid hcd
    have GLN := Lib.hid (own_len hgl)
    have HM := Lib.hid hm
    have HLn := Lib.hid hL
    have GN := Lib.hid hG
    have SN0 := Lib.hid (show s.n ≤ 1000 by have := CT.len_cnt T; have := hS.len; omega)
    have hsn : s.n ≤ 1000 := SN0.out
    clear hm hL hG hcd hS hr hgl hU
    go_enter Try.func55, Try.ntmps55
    go_wp2
    go_loopw [11] (fun q wr => ∃ (j : Nat) (V2 : Value) (L2 : List Un), j ≤ s.n ∧ q = .int .i64 j ∧ UI w0 wr lb fb base V2 (L ++ L2) ∧ L2.map uv ++ bldT (T.drop j) (L.length + L2.length) G = bldT T L.length G ∧ L2.length + (T.drop j).cnt = T.cnt ∧ Kt (OwU lb base) w wr) (fun q _ => s.n - (intOf q).toNat)
    case atStart => exact ⟨0, V, [], Nat.zero_le _, rfl, by rw [List.append_nil]; exact HU.out, by rw [CT.drop_zero]; simp, by rw [CT.drop_zero]; simp, Kt.refl _ _⟩
    case round =>
      obtain ⟨j, V2, L2, hj, rfl, q1, q2, q3, q4⟩ := hrel
      obtain ⟨M, hM⟩ : ∃ M, M = L ++ L2 := ⟨_, rfl⟩
      have HM2 := Lib.hid hM
      have X1 := Lib.hid (show UI w0 wr lb fb base V2 M by rw [hM]; exact q1)
      have EQ := Lib.hid q2
      have CQ := Lib.hid q3
      have K1 := Lib.hid q4
      clear q1 q2 q3 q4 hM
      by_cases hlt : j < s.n
      · have i1 : (j : Int) < s.n := by omega
        obtain ⟨x, ad, hsa, hdr, ⟨c0, c1, c2, c3, c4⟩, vm⟩ := HS.out.at_ j hlt
        have c0 := X1.out.kc _ _ c0
        have c1 := X1.out.kc _ _ c1
        have c2 := X1.out.kc _ _ c2
        have c3 := X1.out.kc _ _ c3
        have c4 := X1.out.kc _ _ c4
        have HDR := Lib.hid hdr
        have cd := cndk_at HCD.out hdr
        have CDX := Lib.hid cd
        have VMX := Lib.hid vm
        have CNT := Lib.hid (show x.th.cnt < m ∧ x.el.cnt < m ∧ L2.length + (1 + x.th.cnt + x.el.cnt + (T.drop (j + 1)).cnt) = T.cnt ∧ T.cnt + L.length ≤ 1000 by
          have a := cnt_at hdr
          have b := cnt_th hdr
          have := CQ.out; have := HM.out; have := HLn.out
          exact ⟨by omega, by omega, by omega, by omega⟩)
        obtain ⟨a2, c2v, hv⟩ := own_shape X1.out.o
        obtain ⟨n0, hn0⟩ : ∃ n, n = M.length := ⟨_, rfl⟩
        rw [← hn0] at hv
        subst hv
        have NZ := Lib.hid (show n0 ≤ 1000 ∧ n0 = L.length + L2.length by rw [hn0, HM2.out, List.length_append]; have := CNT.out; omega)
        have HN0 := Lib.hid hn0
        clear hn0
        have nb : n0 ≤ 1000 := NZ.out.1
        have l0 : ∀ o, (wr.alloc o).cell? ⟨lb, 0, none⟩ = some (.slice a2 n0 c2v) := fun o => (X1.out.keep0 (gb_alloc wr o none)).l.cell 0
        rw [hsa]
        dsimp only [Sl.v] at c2 c3 c4
        have GA := Lib.hid (gb_alloc wr (.cells #[.int .i64 x.k, .int .i64 x.t, .slice x.c.a x.c.n x.c.c, .slice x.s.a x.s.n x.s.c, .slice x.u.a x.u.n x.u.c] 63) none)
        have BNw := IsB.new wr 63 #[.int .i64 x.k, .int .i64 x.t, .slice x.c.a x.c.n x.c.c, .slice x.s.a x.s.n x.s.c, .slice x.u.a x.u.n x.u.c]
        have XA := Lib.hid (X1.out.keep0 GA.out)
        have GSw := Lib.hid (own_keep0 (GL.kt HGL.out K1.out) GA.out)
        have SNx := Lib.hid ((VMX.out.c.keepc X1.out.kc).keep0 GA.out)
        go_upto_region 4 with fail
        obtain ⟨b7, hb7⟩ : ∃ q, q = wr.heap.size := ⟨_, rfl⟩
        rw [← hb7] at BNw ⊢
        have LB7 := Lib.hid (show base ≤ b7 by rw [hb7]; exact X1.out.lo.2.2.2)
        generalize wr.alloc (.cells #[.int .i64 x.k, .int .i64 x.t, .slice x.c.a x.c.n x.c.c, .slice x.s.a x.s.n x.s.c, .slice x.u.a x.u.n x.u.c] 63) = w2 at *
        clear hb7 c0 c1 c2 c3 c4 hsa hdr vm cd l0
        replace BNw := Lib.hid BNw
        have d0 := BNw.out.cell 0
        have d1 := BNw.out.cell 1
        have d2 := BNw.out.cell 2
        have d3 := BNw.out.cell 3
        have d4 := BNw.out.cell 4
        have l0 := XA.out.l.cell 0
        dsimp at d0 d1 d2 d3 d4 l0
        have UO := Lib.hid (unitof_any w2.drew x (SNx.out.keep0 (gb_drew _ none)) (by have := CDX.out.1; have := VMX.out.c.len; omega) gs G ((gl_sg GSw.out RG.out).keep0 (gb_drew _ none)) (by have := GLN.out; have := GN.out; omega))
        unfold RetUn at UO
        have hF0 : (fun w' : World => w'.cell? ⟨lb, 0, none⟩ = some (.slice a2 n0 c2v) ∧ w'.cell? ⟨b7, 0, none⟩ = some (.int .i64 x.k) ∧ w'.cell? ⟨b7, 1, none⟩ = some (.int .i64 x.t) ∧ w'.cell? ⟨b7, 2, none⟩ = some (.slice x.c.a x.c.n x.c.c) ∧ w'.cell? ⟨b7, 3, none⟩ = some (.slice x.s.a x.s.n x.s.c) ∧ w'.cell? ⟨b7, 4, none⟩ = some (.slice x.u.a x.u.n x.u.c)) w2.drew := ⟨(XA.out.keep0 (gb_drew _ none)).l.cell 0, (BNw.out.keep0 (gb_drew _ none)).cell 0, (BNw.out.keep0 (gb_drew _ none)).cell 1, (BNw.out.keep0 (gb_drew _ none)).cell 2, (BNw.out.keep0 (gb_drew _ none)).cell 3, (BNw.out.keep0 (gb_drew _ none)).cell 4⟩
        have FK := Lib.hid (fun (wz : World) (hl : IsB wz lb 69 #[.slice a2 n0 c2v]) (hb : IsB wz b7 63 #[.int .i64 x.k, .int .i64 x.t, .slice x.c.a x.c.n x.c.c, .slice x.s.a x.s.n x.s.c, .slice x.u.a x.u.n x.u.c]) => (⟨hl.cell 0, hb.cell 0, hb.cell 1, hb.cell 2, hb.cell 3, hb.cell 4⟩ : (fun w' : World => w'.cell? ⟨lb, 0, none⟩ = some (.slice a2 n0 c2v) ∧ w'.cell? ⟨b7, 0, none⟩ = some (.int .i64 x.k) ∧ w'.cell? ⟨b7, 1, none⟩ = some (.int .i64 x.t) ∧ w'.cell? ⟨b7, 2, none⟩ = some (.slice x.c.a x.c.n x.c.c) ∧ w'.cell? ⟨b7, 3, none⟩ = some (.slice x.s.a x.s.n x.s.c) ∧ w'.cell? ⟨b7, 4, none⟩ = some (.slice x.u.a x.u.n x.u.c)) wz))
        refine wp_region_S (fun w' : World => w'.cell? ⟨lb, 0, none⟩ = some (.slice a2 n0 c2v) ∧ w'.cell? ⟨b7, 0, none⟩ = some (.int .i64 x.k) ∧ w'.cell? ⟨b7, 1, none⟩ = some (.int .i64 x.t) ∧ w'.cell? ⟨b7, 2, none⟩ = some (.slice x.c.a x.c.n x.c.c) ∧ w'.cell? ⟨b7, 3, none⟩ = some (.slice x.s.a x.s.n x.s.c) ∧ w'.cell? ⟨b7, 4, none⟩ = some (.slice x.u.a x.u.n x.u.c)) 6 (by kernel_rfl) ?_
        refine wpAnyS_load0 (i := 0) (v := ?v61001) rfl (by kernel_rfl) (by kernel_rfl) (by kernel_rfl) (by kernel_rfl) (fun _ _ _ h => h) (Or.inl ⟨by rfl, ?hy61001⟩) (by assumption) ?rest61001
        case hy61001 => (intro wz hSw; (try dsimp only at hSw); first | (go_simp; done) | (go_simp; with_reducible rfl))
        try simp only [Act.put, List.getElem_toArray, List.getElem_cons_zero, List.setIfInBounds_toArray, List.set_cons_zero, List.set_cons_succ]
        refine wpAnyS_load0 (i := 1) (v := ?v61002) rfl (by kernel_rfl) (by kernel_rfl) (by kernel_rfl) (by kernel_rfl) (fun _ _ _ h => h) (Or.inl ⟨by rfl, ?hy61002⟩) (by assumption) ?rest61002
        case hy61002 => (intro wz hSw; (try dsimp only at hSw); first | (go_simp; done) | (go_simp; with_reducible rfl))
        try simp only [Act.put, List.getElem_toArray, List.getElem_cons_succ, List.getElem_cons_zero, List.setIfInBounds_toArray, List.set_cons_zero, List.set_cons_succ]
        refine wpAnyS_pure (i := 2) (v := ?v61003) rfl (by kernel_rfl) (by kernel_rfl) (by kernel_rfl) (by decide) (fun _ _ _ h => h) (Or.inl ⟨by rfl, ?hy61003⟩) (Or.inr (by assumption)) ?rest61003
        case hy61003 => (intro wz hSw; (try dsimp only at hSw); first | (go_simp; done) | (go_simp; with_reducible rfl))
        try simp only [Act.put, List.getElem_toArray, List.getElem_cons_succ, List.getElem_cons_zero, List.setIfInBounds_toArray, List.set_cons_zero, List.set_cons_succ]
        refine wpAnyS_one (i := 3) (o := _) (by kernel_rfl) rfl (fun K hK => ?_)
        go_simp
        refine UO.out.mono ?_
        rintro e w3 ⟨uc, ug, rfl, on, og, g3⟩
        have G3 := Lib.hid (gb_trans (gb_drew w2 none) g3)
        have UD := IsB.new w3 78 #[.int .i64 (utab x), .slice uc.a uc.n uc.c, .slice ug.a ug.n ug.c]
        have GB := gb_alloc w3 (.cells #[.int .i64 (utab x), .slice uc.a uc.n uc.c, .slice ug.a ug.n ug.c] 78) none
        have ON := Lib.hid (own_keep0 (own_low on (show base ≤ w2.drew.heap.size from XA.out.lo.2.2.2)) GB)
        have OG := Lib.hid (own_keep0 (own_low og (show base ≤ w2.drew.heap.size from XA.out.lo.2.2.2)) GB)
        have G4 := Lib.hid (gb_trans G3.out GB)
        have O4 := Lib.hid (show UR (w3.alloc (.cells #[.int .i64 (utab x), .slice uc.a uc.n uc.c, .slice ug.a ug.n ug.c] 78)) base (.slice a2 n0 c2v) M from own_keep0 XA.out.o G4.out)
        clear on og g3 UO d0 d1 d2 d3 d4 l0 hF0
        try dsimp only
        refine hK.out _ _ (Or.inr (FK.out w3 (XA.out.keep0 G3.out).l (BNw.out.keep0 G3.out))) (fun _ => ?_)
        clear hK K
        try simp only [Act.put, List.getElem_toArray, List.getElem_cons_succ, List.getElem_cons_zero, List.setIfInBounds_toArray, List.set_cons_zero, List.set_cons_succ]
        refine wpAnyS_one (i := 4) (o := _) (by kernel_rfl) rfl (fun K hK => ?_)
        go_simp
        try dsimp only
        refine hK.out _ _ (Or.inr (FK.out _ (XA.out.keep0 G4.out).l (BNw.out.keep0 G4.out))) (fun _ => ?_)
        clear hK K
        try simp only [Act.put, List.getElem_toArray, List.getElem_cons_succ, List.getElem_cons_zero, List.setIfInBounds_toArray, List.set_cons_zero, List.set_cons_succ]
        refine wpAnyS_one (i := 5) (o := _) (by kernel_rfl) rfl (fun K hK => ?_)
        refine step_unpush rfl _ _ rfl base _ M rfl O4.out ⟨utab x, uc, ucnd x, ug, G⟩ _ _ rfl UD (by have := NZ.out; have := HN0.out; omega) (by have := XA.out.lo.2.2.2; have := G4.out.size; omega) ?_
        intro V7 w7 o7 g7
        have PP := UI.push (U := ⟨utab x, uc, ucnd x, ug, G⟩) XA.out G4.out g7 o7 ON.out OG.out
        have L7 := (XA.out.keep0 G4.out).l.keep g7 (fun e => own_far (XA.out.keep0 G4.out).o XA.out.lo.2.1 e.symm)
        have fz := L7.free 0
        have lz := L7.cell 0
        have B7 := Lib.hid ((kt_urow (lb := lb) (show (w3.alloc (.cells #[.int .i64 (utab x), .slice uc.a uc.n uc.c, .slice ug.a ug.n ug.c] 78)).ownsRow base 78 3 (.slice a2 n0 c2v) _ _ from O4.out) g7).isb (BNw.out.keep0 G4.out) owu_cn)
        obtain ⟨a7, c7, hv7⟩ := own_shape o7
        obtain ⟨n1, hn1⟩ : ∃ n, n = (M ++ [(⟨utab x, uc, ucnd x, ug, G⟩ : Un)]).length := ⟨_, rfl⟩
        rw [← hn1] at hv7
        have HN1 := Lib.hid hn1
        clear hn1
        subst hv7
        dsimp at lz
        try dsimp only
        refine hK.out _ _ (Or.inr (FK.out w7 L7 B7.out)) (fun _ => ?_)
        clear hK K
        try simp only [Act.put, List.getElem_toArray, List.getElem_cons_succ, List.getElem_cons_zero, List.setIfInBounds_toArray, List.set_cons_zero, List.set_cons_succ]
        refine wpAnyS_one (i := 6) (o := _) (by kernel_rfl) rfl (fun K hK => ?_)
        go_simp
        refine hK.out _ _ (Or.inl (by kernel_rfl)) (fun _ => ?_)
        clear hK K
        try simp only [Act.put, List.getElem_toArray, List.getElem_cons_succ, List.getElem_cons_zero, List.setIfInBounds_toArray, List.set_cons_zero, List.set_cons_succ]
        refine wpAnyS_done (by kernel_rfl) ?_ _
        have X8 := Lib.hid PP.1
        have K8 := Lib.hid PP.2
        clear PP o7 g7 UD GB L7 FK B7
        go_upto_region 5 with fail
        generalize hw8 : w7.setCell ⟨lb, 0, none⟩ (.slice a7 n1 c7) = w8 at *
        clear hw8 fz lz
        have BNw8 := Lib.hid (K8.out.isb BNw.out owu_cn)
        have GSw8 := Lib.hid (GL.kt GSw.out K8.out)
        have LL8 := Lib.hid (show (M ++ [(⟨utab x, uc, ucnd x, ug, G⟩ : Un)]).length = n0 + 1 by rw [List.length_append, ← HN0.out]; rfl)
        have RG2 := Lib.hid (show ∀ b : Bool, ∀ y ∈ G ++ [((n0 : Int), b)], -9223372036854775808 ≤ y.1 ∧ y.1 ≤ 9223372036854775807 from fun b y hy => by
          rcases List.mem_append.1 hy with q | q
          · exact RG.out y q
          · rw [List.mem_singleton] at q; subst q; have := NZ.out; dsimp only; omega)
        have KSw10 := Lib.hid (fun (wz : World) (hf : IsB wz fb 123 #[.func (.func 55) #[] #[.pointer (some ⟨lb, 0, none⟩), .pointer (some ⟨fb, 0, none⟩)]]) (hb : IsB wz b7 63 #[.int .i64 x.k, .int .i64 x.t, .slice x.c.a x.c.n x.c.c, .slice x.s.a x.s.n x.s.c, .slice x.u.a x.u.n x.u.c]) => (⟨hf.cell 0, hb.cell 3⟩ : (fun w' : World => w'.cell? ⟨fb, 0, none⟩ = some (.func (.func 55) #[] #[.pointer (some ⟨lb, 0, none⟩), .pointer (some ⟨fb, 0, none⟩)]) ∧ w'.cell? ⟨b7, 3, none⟩ = some (.slice x.s.a x.s.n x.s.c)) wz))
        have GGw10 := Lib.hid (guarded_any w8.drew gs G ((gl_sg (GSw8.out) RG.out).keep0 (gb_drew _ none)) (by have := GN.out; have := GLN.out; omega) n0 true (by have := NZ.out; omega))
        unfold RetRow at GGw10
        refine wp_region_held_drew (S := (fun w' : World => w'.cell? ⟨fb, 0, none⟩ = some (.func (.func 55) #[] #[.pointer (some ⟨lb, 0, none⟩), .pointer (some ⟨fb, 0, none⟩)]) ∧ w'.cell? ⟨b7, 3, none⟩ = some (.slice x.s.a x.s.n x.s.c))) (by kernel_rfl) (KSw10.out _ (X8.out.f.keep0 (gb_drew _ none)) (BNw8.out.keep0 (gb_drew _ none))) (fun hH0 => ?_)
        refine wpAnyH_take (i := 0) (v := ?v62001) rfl (by kernel_rfl) (by kernel_rfl) (by kernel_rfl) (fun _ _ _ h => h) (Or.inl ⟨by rfl, ?hy62001⟩) (by assumption) ?rest62001
        case hy62001 => (intro wz hSw; (try dsimp only at hSw); first | (go_simp; done) | (go_simp; with_reducible rfl))
        try simp only [Act.put, List.getElem_toArray, List.getElem_cons_zero, List.setIfInBounds_toArray, List.set_cons_zero, List.set_cons_succ]
        refine wpAnyH_take (i := 1) (v := ?v62002) rfl (by kernel_rfl) (by kernel_rfl) (by kernel_rfl) (fun _ _ _ h => h) (Or.inl ⟨by rfl, ?hy62002⟩) (by assumption) ?rest62002
        case hy62002 => (intro wz hSw; (try dsimp only at hSw); first | (go_simp; done) | (go_simp; with_reducible rfl))
        try simp only [Act.put, List.getElem_toArray, List.getElem_cons_succ, List.getElem_cons_zero, List.setIfInBounds_toArray, List.set_cons_zero, List.set_cons_succ]
        refine wpAnyH_take (i := 2) (v := ?v62003) rfl (by kernel_rfl) (by kernel_rfl) (by kernel_rfl) (fun _ _ _ h => h) (Or.inl ⟨by rfl, ?hy62003⟩) (by assumption) ?rest62003
        case hy62003 => (intro wz hSw; (try dsimp only at hSw); first | (go_simp; done) | (go_simp; with_reducible rfl))
        try simp only [Act.put, List.getElem_toArray, List.getElem_cons_succ, List.getElem_cons_zero, List.setIfInBounds_toArray, List.set_cons_zero, List.set_cons_succ]
        refine wpAnyH_take (i := 3) (v := ?v62004) rfl (by kernel_rfl) (by kernel_rfl) (by kernel_rfl) (fun _ _ _ h => h) (Or.inl ⟨by rfl, ?hy62004⟩) (by assumption) ?rest62004
        case hy62004 => (intro wz hSw; (try dsimp only at hSw); first | (go_simp; done) | (go_simp; with_reducible rfl))
        try simp only [Act.put, List.getElem_toArray, List.getElem_cons_succ, List.getElem_cons_zero, List.setIfInBounds_toArray, List.set_cons_zero, List.set_cons_succ]
        refine wpAnyH_take (i := 4) (v := ?v62005) rfl (by kernel_rfl) (by kernel_rfl) (by kernel_rfl) (fun _ _ _ h => h) (Or.inl ⟨by rfl, ?hy62005⟩) (by assumption) ?rest62005
        case hy62005 => (intro wz hSw; (try dsimp only at hSw); first | (go_simp; done) | (go_simp; with_reducible rfl))
        try simp only [Act.put, List.getElem_toArray, List.getElem_cons_succ, List.getElem_cons_zero, List.setIfInBounds_toArray, List.set_cons_zero, List.set_cons_succ]
        refine wpAnyH_ready (rs := [5]) (by kernel_rfl) (by simp) ?_
        refine AllReadyH.cons (o := _) rfl (fun K hK => ?_) AllReadyH.nil
        go_simp
        refine GGw10.out.mono ?_
        rintro e w10a ⟨gaw10, gnw10, gcw10, rfl, ow10, gw10⟩
        have Gw10 := Lib.hid (gb_trans (gb_drew w8 none) gw10)
        have Ow10 := Lib.hid (own_low ow10 (show base ≤ w8.drew.heap.size from X8.out.lo.2.2.2))
        have Uw10 := Lib.hid (X8.out.keep0 Gw10.out)
        have Rw10 := Lib.hid (ih x.th x.s (G ++ [((n0 : Int), true)]) ⟨gaw10, gnw10, gcw10⟩ w10a (M ++ [(⟨utab x, uc, ucnd x, ug, G⟩ : Un)]) (.slice a7 n1 c7) (by have := CNT.out; omega) (by have := CNT.out; have := NZ.out; have := LL8.out; omega) (by have := CNT.out; have := GN.out; simp; omega) CDX.out.2.1 VMX.out.s (RG2.out true) Ow10.out Uw10.out)
        unfold RetCol at Rw10
        clear ow10 gw10 GGw10
        try dsimp only
        refine hK.out _ _ (KSw10.out _ Uw10.out.f (BNw8.out.keep0 Gw10.out)) (fun hH1 => ?_)
        clear hK K hH0
        try simp only [Act.put, List.getElem_toArray, List.getElem_cons_succ, List.getElem_cons_zero, List.setIfInBounds_toArray, List.set_cons_zero, List.set_cons_succ]
        refine wpAnyH_ready (rs := [6]) (by kernel_rfl) (by simp) ?_
        refine AllReadyH.cons (o := _) rfl (fun K hK => ?_) AllReadyH.nil
        go_simp
        refine Rw10.out.mono ?_
        rintro e w10 ⟨⟨vw10, rfl⟩, Vw10, Aw10, uw10, mw10, kw10⟩
        have Kw10 := Lib.hid ((Kt.of_gb Gw10.out).trans kw10)
        have Xw10 := Lib.hid uw10
        have Mw10 := Lib.hid mw10
        have BNw10 := Lib.hid (Kw10.out.isb BNw8.out owu_cn)
        have GSw10 := Lib.hid (GL.kt GSw8.out Kw10.out)
        clear uw10 mw10 kw10 Rw10
        try dsimp only
        refine hK.out _ _ (KSw10.out _ Xw10.out.f BNw10.out) (fun hH2 => ?_)
        clear hK K hH1
        try simp only [Act.put, List.getElem_toArray, List.getElem_cons_succ, List.getElem_cons_zero, List.setIfInBounds_toArray, List.set_cons_zero, List.set_cons_succ]
        refine wpAnyH_done (by kernel_rfl) ?_ _
        clear hH2 KSw10
        have AL10 := Lib.hid (show Aw10.length = x.th.cnt by
          have e := congrArg List.length Mw10.out
          rwa [List.length_map, bldT_len] at e)
        have LA10 := Lib.hid (show (M ++ [(⟨utab x, uc, ucnd x, ug, G⟩ : Un)] ++ Aw10).length = n0 + 1 + x.th.cnt by rw [List.length_append, LL8.out, AL10.out])
        go_upto_region 6 with fail
        have KSw11 := Lib.hid (fun (wz : World) (hf : IsB wz fb 123 #[.func (.func 55) #[] #[.pointer (some ⟨lb, 0, none⟩), .pointer (some ⟨fb, 0, none⟩)]]) (hb : IsB wz b7 63 #[.int .i64 x.k, .int .i64 x.t, .slice x.c.a x.c.n x.c.c, .slice x.s.a x.s.n x.s.c, .slice x.u.a x.u.n x.u.c]) => (⟨hf.cell 0, hb.cell 4⟩ : (fun w' : World => w'.cell? ⟨fb, 0, none⟩ = some (.func (.func 55) #[] #[.pointer (some ⟨lb, 0, none⟩), .pointer (some ⟨fb, 0, none⟩)]) ∧ w'.cell? ⟨b7, 4, none⟩ = some (.slice x.u.a x.u.n x.u.c)) wz))
        have GGw11 := Lib.hid (guarded_any w10.drew gs G ((gl_sg (GSw10.out) RG.out).keep0 (gb_drew _ none)) (by have := GN.out; have := GLN.out; omega) n0 false (by have := NZ.out; omega))
        unfold RetRow at GGw11
        refine wp_region_held_drew (S := (fun w' : World => w'.cell? ⟨fb, 0, none⟩ = some (.func (.func 55) #[] #[.pointer (some ⟨lb, 0, none⟩), .pointer (some ⟨fb, 0, none⟩)]) ∧ w'.cell? ⟨b7, 4, none⟩ = some (.slice x.u.a x.u.n x.u.c))) (by kernel_rfl) (KSw11.out _ (Xw10.out.f.keep0 (gb_drew _ none)) (BNw10.out.keep0 (gb_drew _ none))) (fun hH0 => ?_)
        refine wpAnyH_take (i := 0) (v := ?v62006) rfl (by kernel_rfl) (by kernel_rfl) (by kernel_rfl) (fun _ _ _ h => h) (Or.inl ⟨by rfl, ?hy62006⟩) (by assumption) ?rest62006
        case hy62006 => (intro wz hSw; (try dsimp only at hSw); first | (go_simp; done) | (go_simp; with_reducible rfl))
        try simp only [Act.put, List.getElem_toArray, List.getElem_cons_zero, List.setIfInBounds_toArray, List.set_cons_zero, List.set_cons_succ]
        refine wpAnyH_take (i := 1) (v := ?v62007) rfl (by kernel_rfl) (by kernel_rfl) (by kernel_rfl) (fun _ _ _ h => h) (Or.inl ⟨by rfl, ?hy62007⟩) (by assumption) ?rest62007
        case hy62007 => (intro wz hSw; (try dsimp only at hSw); first | (go_simp; done) | (go_simp; with_reducible rfl))
        try simp only [Act.put, List.getElem_toArray, List.getElem_cons_succ, List.getElem_cons_zero, List.setIfInBounds_toArray, List.set_cons_zero, List.set_cons_succ]
        refine wpAnyH_take (i := 2) (v := ?v62008) rfl (by kernel_rfl) (by kernel_rfl) (by kernel_rfl) (fun _ _ _ h => h) (Or.inl ⟨by rfl, ?hy62008⟩) (by assumption) ?rest62008
        case hy62008 => (intro wz hSw; (try dsimp only at hSw); first | (go_simp; done) | (go_simp; with_reducible rfl))
        try simp only [Act.put, List.getElem_toArray, List.getElem_cons_succ, List.getElem_cons_zero, List.setIfInBounds_toArray, List.set_cons_zero, List.set_cons_succ]
        refine wpAnyH_take (i := 3) (v := ?v62009) rfl (by kernel_rfl) (by kernel_rfl) (by kernel_rfl) (fun _ _ _ h => h) (Or.inl ⟨by rfl, ?hy62009⟩) (by assumption) ?rest62009
        case hy62009 => (intro wz hSw; (try dsimp only at hSw); first | (go_simp; done) | (go_simp; with_reducible rfl))
        try simp only [Act.put, List.getElem_toArray, List.getElem_cons_succ, List.getElem_cons_zero, List.setIfInBounds_toArray, List.set_cons_zero, List.set_cons_succ]
        refine wpAnyH_take (i := 4) (v := ?v62010) rfl (by kernel_rfl) (by kernel_rfl) (by kernel_rfl) (fun _ _ _ h => h) (Or.inl ⟨by rfl, ?hy62010⟩) (by assumption) ?rest62010
        case hy62010 => (intro wz hSw; (try dsimp only at hSw); first | (go_simp; done) | (go_simp; with_reducible rfl))
        try simp only [Act.put, List.getElem_toArray, List.getElem_cons_succ, List.getElem_cons_zero, List.setIfInBounds_toArray, List.set_cons_zero, List.set_cons_succ]
        refine wpAnyH_ready (rs := [5]) (by kernel_rfl) (by simp) ?_
        refine AllReadyH.cons (o := _) rfl (fun K hK => ?_) AllReadyH.nil
        go_simp
        refine GGw11.out.mono ?_
        rintro e w11a ⟨gaw11, gnw11, gcw11, rfl, ow11, gw11⟩
        have Gw11 := Lib.hid (gb_trans (gb_drew w10 none) gw11)
        have Ow11 := Lib.hid (own_low ow11 (show base ≤ w10.drew.heap.size from Xw10.out.lo.2.2.2))
        have Uw11 := Lib.hid (Xw10.out.keep0 Gw11.out)
        have Rw11 := Lib.hid (ih x.el x.u (G ++ [((n0 : Int), false)]) ⟨gaw11, gnw11, gcw11⟩ w11a (M ++ [(⟨utab x, uc, ucnd x, ug, G⟩ : Un)] ++ Aw10) Vw10 (by have := CNT.out; omega) (by have := CNT.out; have := NZ.out; have := LA10.out; omega) (by have := CNT.out; have := GN.out; simp; omega) CDX.out.2.2 VMX.out.u (RG2.out false) Ow11.out Uw11.out)
        unfold RetCol at Rw11
        clear ow11 gw11 GGw11
        try dsimp only
        refine hK.out _ _ (KSw11.out _ Uw11.out.f (BNw10.out.keep0 Gw11.out)) (fun hH1 => ?_)
        clear hK K hH0
        try simp only [Act.put, List.getElem_toArray, List.getElem_cons_succ, List.getElem_cons_zero, List.setIfInBounds_toArray, List.set_cons_zero, List.set_cons_succ]
        refine wpAnyH_ready (rs := [6]) (by kernel_rfl) (by simp) ?_
        refine AllReadyH.cons (o := _) rfl (fun K hK => ?_) AllReadyH.nil
        go_simp
        refine Rw11.out.mono ?_
        rintro e w11 ⟨⟨vw11, rfl⟩, Vw11, Aw11, uw11, mw11, kw11⟩
        have Kw11 := Lib.hid ((Kt.of_gb Gw11.out).trans kw11)
        have Xw11 := Lib.hid uw11
        have Mw11 := Lib.hid mw11
        have BNw11 := Lib.hid (Kw11.out.isb BNw10.out owu_cn)
        have GSw11 := Lib.hid (GL.kt GSw10.out Kw11.out)
        clear uw11 mw11 kw11 Rw11
        try dsimp only
        refine hK.out _ _ (KSw11.out _ Xw11.out.f BNw11.out) (fun hH2 => ?_)
        clear hK K hH1
        try simp only [Act.put, List.getElem_toArray, List.getElem_cons_succ, List.getElem_cons_zero, List.setIfInBounds_toArray, List.set_cons_zero, List.set_cons_succ]
        refine wpAnyH_done (by kernel_rfl) ?_ _
        clear hH2 KSw11
        have AL11 := Lib.hid (show Aw11.length = x.el.cnt by
          have e := congrArg List.length Mw11.out
          rwa [List.length_map, bldT_len] at e)
        have XE := Lib.hid (show UI w0 w11 lb fb base Vw11 (L ++ (L2 ++ ((⟨utab x, uc, ucnd x, ug, G⟩ : Un) :: (Aw10 ++ Aw11)))) by
          have q := Xw11.out
          rw [HM2.out] at q
          simpa using q)
        have NL := Lib.hid (show (L2 ++ ((⟨utab x, uc, ucnd x, ug, G⟩ : Un) :: (Aw10 ++ Aw11))).length = L2.length + (1 + x.th.cnt + x.el.cnt) by
          rw [List.length_append, List.length_cons, List.length_append, AL10.out, AL11.out]; omega)
        have EE := Lib.hid (show (L2 ++ ((⟨utab x, uc, ucnd x, ug, G⟩ : Un) :: (Aw10 ++ Aw11))).map uv ++ bldT (T.drop (j + 1)) (L.length + (L2 ++ ((⟨utab x, uc, ucnd x, ug, G⟩ : Un) :: (Aw10 ++ Aw11))).length) G = bldT T L.length G by
          rw [NL.out]
          have q := EQ.out
          rw [HDR.out, bldT_ct] at q
          have m1 := Mw10.out
          have m2 := Mw11.out
          rw [LL8.out] at m1
          rw [LA10.out] at m2
          have z := NZ.out.2
          rw [← q, List.map_append, List.map_cons, List.map_append, m1, m2, z]
          rw [show L.length + (L2.length + (1 + x.th.cnt + x.el.cnt)) = L.length + L2.length + 1 + x.th.cnt + x.el.cnt by omega]
          simp [uv])
        have KE := Lib.hid (K1.out.trans ((Kt.of_gb GA.out).trans (K8.out.trans (Kw10.out.trans Kw11.out))))
        go_wp2
        go_roundw
        case rel => exact ⟨j + 1, Vw11, _, by omega, by go_num, XE.out, EE.out, by rw [NL.out]; have := CNT.out; omega, KE.out⟩
        case measure => simp [intOf]; omega
      · have hje : j = s.n := by omega
        have i1 : ¬ (j : Int) < s.n := by omega
        have ED := Lib.hid (CT.drop_all T j (by rw [HS.out.len]; omega))
        go_wp2
        refine bodyPost_end (results_none rfl _ _ _) rfl ⟨⟨_, rfl⟩, V2, L2, by rw [← HM2.out]; exact X1.out, ?_, K1.out⟩
        have := EQ.out
        rw [ED.out] at this
        simpa [bldT] using this
end Go.Proofs.Ytfjeonoihdgdoaa
