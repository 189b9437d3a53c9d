/- Tries: without, Delete. -/
import Derived.Test.YtidjggaffioekaaLtE
import Derived.Test.YtidjggaffioekaaOrS
namespace Go.Proofs.Ytidjggaffioekaa
open Go.RowKit
set_option linter.unusedVariables false

theorem ptr_pad (T : Tr) : ∃ o, ptr T = .pointer o := by cases T <;> exact ⟨_, rfl⟩
theorem need_tn {w : World} {wd b : Nat} {p : List Bool} {st : Bool} {x : Int} {l r : Tr} (h : TN w wd (.node b p st x l r)) : TN w wd (need b p st x l r) := by
  cases l with
  | nil => cases r with
    | nil => cases st <;> first | trivial | exact h
    | node b2 p2 s2 x2 l2 r2 => cases st <;> first | exact h.2.2 | exact h
  | node b2 p2 s2 x2 l2 r2 => cases r with
    | nil => cases st <;> first | exact h.2.1 | exact h
    | node b3 p3 s3 x3 l3 r3 => exact h
theorem need_sub (b : Nat) (p : List Bool) (st : Bool) (x : Int) (l r : Tr) : (blks (need b p st x l r)).Sublist (b :: (blks l ++ blks r)) := by
  cases l with
  | nil => cases r with
    | nil => cases st <;> simp [need, blks]
    | node b2 p2 s2 x2 l2 r2 => cases st <;> simp [need, blks]
  | node b2 p2 s2 x2 l2 r2 => cases r with
    | nil => cases st <;> simp [need, blks]
    | node b3 p3 s3 x3 l3 r3 => simp [need, blks]
theorem del_sub (p : List Bool) : ∀ T : Tr, (blks (delT p T)).Sublist (blks T)
  | .nil => List.Sublist.refl _
  | .node b q st x l r => by
    have hl := del_sub p l
    have hr := del_sub p r
    simp only [delT]
    split
    · exact need_sub ..
    · split
      · exact (need_sub ..).trans (List.Sublist.cons_cons _ ((List.Sublist.refl _).append hr))
      · exact (need_sub ..).trans (List.Sublist.cons_cons _ (hl.append (List.Sublist.refl _)))
theorem TN.far {w : World} {wd : Nat} {T : Tr} {g i : Nat} {v : Value} (h : TN w wd T) (hg : g ∉ blks T) : TN (w.setCell ⟨g, i, none⟩ v) wd T :=
  h.keep fun k t cs q m => q.set_far (fun e => hg (by rw [← e]; exact m)) i v
theorem Fx.tn {B : Nat → Prop} {a b : World} {wd : Nat} {T : Tr} (h : Fx B a b) (k : TN a wd T) (hn : ∀ g ∈ blks T, ¬ B g) : TN b wd T :=
  k.keep fun g t cs q m => h.isb q (hn g m)
theorem cmp_no {eq e ql pl : Int} (h : eq ≠ e ∨ ql ≠ pl) (w : World) : Sem.run Try.prog (binOp BinOp.eql 79 (.agg #[.int .u32 eq, .int .i64 ql]) (.agg #[.int .u32 e, .int .i64 pl])) w = .ok (.bool false) w := by
  by_cases h1 : eq = e
  · have h2 : (ql == pl) = false := by rw [beq_eq_false_iff_ne]; exact h.resolve_left (fun k => k h1)
    go_simp
  · have h2 : (eq == e) = false := by rw [beq_eq_false_iff_ne]; exact h1
    go_simp
/-- The first two cells of each block are as they were. -/
def K01 (w w' : World) : Prop := ∀ g t cs, IsB w g t cs → ∃ cs', IsB w' g t cs' ∧ cs'[0]? = cs[0]? ∧ cs'[1]? = cs[1]?
theorem K01.of {a b : World} (h : a.grownBy b none) : K01 a b := fun g t cs k => ⟨cs, k.keep0 h, rfl, rfl⟩
theorem K01.trans {a b c : World} (h : K01 a b) (k : K01 b c) : K01 a c := fun g t cs q => by
  obtain ⟨c1, k1, e1, e2⟩ := h g t cs q
  obtain ⟨c2, k2, f1, f2⟩ := k g t c1 k1
  exact ⟨c2, k2, f1.trans e1, f2.trans e2⟩
theorem K01.set {a : World} {g i : Nat} {v : Value} (hi : 2 ≤ i) : K01 a (a.setCell ⟨g, i, none⟩ v) := fun k t cs q => by
  by_cases e : k = g
  · subst e
    exact ⟨_, q.set i v, by rw [Array.getElem?_setIfInBounds_ne (by omega)], by rw [Array.getElem?_setIfInBounds_ne (by omega)]⟩
  · exact ⟨cs, q.set_far e i v, rfl, rfl⟩
theorem K01.cell {a b : World} (h : K01 a b) {g : Nat} {t : TypeId} {cs : Array Value} (k : IsB a g t cs) : b.cell? ⟨g, 0, none⟩ = cs[0]? ∧ b.cell? ⟨g, 1, none⟩ = cs[1]? := by
  obtain ⟨c, q, e1, e2⟩ := h g t cs k
  exact ⟨(q.cell 0).trans e1, (q.cell 1).trans e2⟩
def RetW (wd : Nat) (p : List Bool) (T : Tr) (w : World) (e : Ending) (w' : World) : Prop := e = .returned (ptr (delT p T)) ∧ TN w' wd (delT p T) ∧ Fx (· ∈ blks T) w w' ∧ K01 w w'
set_option maxRecDepth 100000 in
set_option maxHeartbeats 4000000 in
theorem without_any (wd s : Nat) (p : List Bool) (h1 : 1 ≤ wd) (h2 : wd ≤ 32) (hp : p.length ≤ wd) (T : Tr) : ∀ (w : World) (q2 : List Bool), w.cell? ⟨s, 0, none⟩ = some (.int .i64 wd) → TN w wd T → (blks T).Nodup → s ∉ blks T → Ok wd q2 T → hasP p T →
    Calls Try.prog 35 #[.pointer (some ⟨s, 0, none⟩), ptr T, .agg #[.int .u32 (E wd p), .int .i64 p.length]] w (RetW wd p T w) := by
  induction T with
  | nil => exact fun _ _ _ _ _ _ _ hh => absurd hh (by simp [hasP])
  | node b q st x l r ihl ihr =>
    intro w q2 h0 tn nd hs ok hh
    have IL := Lib.hid ihl
    have IR := Lib.hid ihr
    clear ihl ihr
    have C0 := Lib.hid (fun (w' : World) (g : w.grownBy w' none) => (g.cell h0 (by simp) : w'.cell? ⟨s, 0, none⟩ = some (.int .i64 wd)))
    have TT := Lib.hid tn
    have OKR := Lib.hid ok
    have NDD := Lib.hid (by
      have k := nd
      simp only [blks, List.nodup_cons, List.mem_append, not_or, List.nodup_append] at k
      exact (⟨k.2.1, k.2.2.1, k.2.2.2, k.1⟩ : (blks l).Nodup ∧ (blks r).Nodup ∧ (∀ a, a ∈ blks l → ∀ b, b ∈ blks r → a ≠ b) ∧ b ∉ blks l ∧ b ∉ blks r))
    have G1 := Lib.hid (gb_alloc w (.cells #[.int .u32 (E wd p), .int .i64 p.length] 79) none)
    have B1 := Lib.hid (IsB.new w 79 #[.int .u32 (E wd p), .int .i64 p.length])
    have NE := Lib.hid (fun (hne : q ≠ p) => ne_parts hp ok.2.1 hne)
    clear h0 tn nd ok
    rw [show ptr (.node b q st x l r) = .pointer (some ⟨b, 0, none⟩) from rfl]
    unfold RetW
    go_enter Try.func35, Try.ntmps35
    go_upto_region 1 with fail
    generalize w.alloc (.cells #[.int .u32 (E wd p), .int .i64 p.length] 79) = w1 at *
    obtain ⟨z, hz⟩ : ∃ z, z = w.heap.size := ⟨_, rfl⟩
    have Lz := Lib.hid (show w.heap.size ≤ z by rw [hz]; exact Nat.le_refl _)
    rw [← hz] at B1 ⊢
    clear hz
    have d0 := B1.out.cell 0
    have d1 := B1.out.cell 1
    have n0 := (TT.out.1.keep0 G1.out).cell 0
    have n1 := (TT.out.1.keep0 G1.out).cell 1
    dsimp at d0 d1 n0 n1
    by_cases hq : q = p
    · subst hq
      have NB := Lib.hid (TT.out.1.keep0 G1.out)
      have f2 := NB.out.free 2
      have c2 := NB.out.cell 2
      dsimp at c2
      have hd : delT q (.node b q st x l r) = need b q false x l r := by simp [delT]
      have HD := Lib.hid hd
      have NN := Lib.hid (fun (W : World) (k : IsB W b 82 #[.int .u32 (E wd q), .int .i64 q.length, .bool false, .int .i64 x, ptr l, ptr r]) => need_any W wd b q false x l r k)
      clear hd hh hs h1 h2 hp
      generalize hE : E wd q = eq at *
      generalize hQ : q.length = ql at *
      go_quiet (fail)
      have G2 := Lib.hid (gb_trans G1.out (gb_drewN w1 nq none))
      have NX := Lib.hid ((NB.out.keep0 (gb_drewN w1 nq none)).set 2 (.bool false))
      have LT := Lib.hid ((TT.out.2.1.keep0 G2.out).far (g := b) (i := 2) (v := .bool false) NDD.out.2.2.2.1)
      have RT := Lib.hid ((TT.out.2.2.keep0 G2.out).far (g := b) (i := 2) (v := .bool false) NDD.out.2.2.2.2)
      have FF := Lib.hid ((Fx.of G2.out : Fx (· ∈ blks (.node b q st x l r)) w _).trans (Fx.set (i := 2) (v := .bool false) (by simp [blks] : b ∈ blks (.node b q st x l r))))
      have KK := Lib.hid ((K01.of G2.out).trans (K01.set (g := b) (i := 2) (v := .bool false) (by decide)))
      have NQ := Lib.hid (NN.out _ (by simpa using NX.out))
      go_wp2_with fail
      refine NQ.out.mono ?_
      rintro e w8 ⟨rfl, rfl⟩
      go_wp2
      go_ret
      exact ⟨by rw [HD.out]; rfl, by rw [HD.out]; exact need_tn ⟨by simpa [hE, hQ] using NX.out, LT.out, RT.out⟩, FF.out, KK.out⟩
    · have X := fun W => cmp_no (eq := E wd q) (e := E wd p) (ql := q.length) (pl := p.length) (by
        rcases NE.out hq with k | ⟨_, k⟩
        · exact .inr (by omega)
        · exact .inl k) W
      clear NE
      go_quiet (fail)
      have G2 := Lib.hid (gb_trans G1.out (gb_drewN w1 nq none))
      have B2 := Lib.hid (B1.out.keep0 (gb_drewN w1 nq none))
      clear X
      generalize w1.drewN nq = w2 at *
      cases hb : p.getD q.length false
      · have IH := Lib.hid (fun (W : World) (k : w2.grownBy W none) => IL.out W (q ++ [false]) (C0.out W (gb_trans G2.out k)) ((TT.out.2.1.keep0 (gb_trans G2.out k))) NDD.out.1 (fun m => hs (by simp [blks, m])) OKR.out.2.2.1 (by have := hh; simp only [hasP, if_neg hq, hb] at this; simpa using this))
        unfold RetW at IH
        have BT := Lib.hid (fun (W : World) (k : w2.grownBy W none) => show Calls Try.prog 42 #[.pointer (some ⟨s, 0, none⟩), .int .u32 (E wd p), .int .i64 q.length] W (RetV (.int .u32 0) W) from bit_any W s wd (enc wd p) q.length false (by rw [bits_getEnc wd p hp]; exact hb) (C0.out W (gb_trans G2.out k)) h1 h2 (enc_lt wd p) OKR.out.2.1)
        have ND := Lib.hid (⟨fun m => NDD.out.2.2.2.1 m, trivial⟩ : b ∉ blks l ∧ True)
        have OT := Lib.hid (fun (W : World) (k : w2.grownBy W none) => TT.out.2.2.keep0 (gb_trans G2.out k))
        have NB := Lib.hid (TT.out.1.keep0 G2.out)
        have BZ := Lib.hid B2.out
        have ZN := Lib.hid (show z ∉ blks l from fun m => by
          obtain ⟨cs, k⟩ := TT.out.2.1.blk z m
          have := k.lt
          have := Lz.out
          omega)
        have hd : delT p (.node b q st x l r) = need b q st x (delT p l) r := by simp only [delT]; rw [if_neg hq, hb]; rfl
        have NN := Lib.hid (fun (W : World) (k : IsB W b 82 #[.int .u32 (E wd q), .int .i64 q.length, .bool st, .int .i64 x, ptr (delT p l), ptr r]) => need_any W wd b q st x (delT p l) r k)
        have DS := Lib.hid (fun g (m : g ∈ blks (delT p l)) => (del_sub p l).subset m)
        have DJ := Lib.hid (fun g (m : g ∈ blks r) (m2 : g ∈ blks l) => NDD.out.2.2.1 g m2 g m rfl)
        have BO := Lib.hid (show b ∉ blks r from NDD.out.2.2.2.2)
        have FM := Lib.hid (show ∀ g, g ∈ blks l → g ∈ blks (.node b q st x l r) from fun g m => by simp [blks, m])
        have HD := Lib.hid hd
        clear hd hh hb hq h1 h2 hp hs d0 d1 n0 n1
        generalize E wd p = e at *
        generalize hE : E wd q = eq at *
        generalize p.length = pl at *
        generalize hQ : q.length = ql at *
        have HE := Lib.hid hE
        have HQ := Lib.hid hQ
        clear hE hQ
        go_upto_region 3 with fail
        have KS := Lib.hid (fun (w' : World) (q0 : w2.grownBy w' none) => (⟨(BZ.out.keep0 q0).cell 0, (NB.out.keep0 q0).cell 1, q0⟩ : (fun w' : World => w'.cell? ⟨z, 0, none⟩ = some (.int .u32 e) ∧ w'.cell? ⟨b, 1, none⟩ = some (.int .i64 ql) ∧ w2.grownBy w' none) w'))
        have H0 := Lib.hid (gb_drew w2 none)
        refine wp_region_held_drew (S := (fun w' : World => w'.cell? ⟨z, 0, none⟩ = some (.int .u32 e) ∧ w'.cell? ⟨b, 1, none⟩ = some (.int .i64 ql) ∧ w2.grownBy w' none)) (by kernel_rfl) (KS.out _ H0.out) (fun hH0 => ?_)
        refine wpAnyH_take (i := 0) (v := ?v1) rfl (by kernel_rfl) (by kernel_rfl) (by kernel_rfl) (fun _ _ _ h => h) (Or.inl ⟨by rfl, ?hy1⟩) (by assumption) ?rest1
        case hy1 => (intro wz hSw; (try dsimp only at hSw); first | (go_simp; done) | (go_simp; with_reducible rfl))
        try simp only [Act.put, List.getElem_toArray, List.getElem_cons_zero, List.setIfInBounds_toArray, List.set_cons_zero, List.set_cons_succ]
        refine wpAnyH_take (i := 1) (v := ?v2) rfl (by kernel_rfl) (by kernel_rfl) (by kernel_rfl) (fun _ _ _ h => h) (Or.inl ⟨by rfl, ?hy2⟩) (by assumption) ?rest2
        case hy2 => (intro wz hSw; (try dsimp only at hSw); first | (go_simp; done) | (go_simp; with_reducible rfl))
        try simp only [Act.put, List.getElem_toArray, List.getElem_cons_succ, List.getElem_cons_zero, List.setIfInBounds_toArray, List.set_cons_zero, List.set_cons_succ]
        refine wpAnyH_take (i := 2) (v := ?v3) rfl (by kernel_rfl) (by kernel_rfl) (by kernel_rfl) (fun _ _ _ h => h) (Or.inl ⟨by rfl, ?hy3⟩) (by assumption) ?rest3
        case hy3 => (intro wz hSw; (try dsimp only at hSw); first | (go_simp; done) | (go_simp; with_reducible rfl))
        try simp only [Act.put, List.getElem_toArray, List.getElem_cons_succ, List.getElem_cons_zero, List.setIfInBounds_toArray, List.set_cons_zero, List.set_cons_succ]
        refine wpAnyH_take (i := 3) (v := ?v4) rfl (by kernel_rfl) (by kernel_rfl) (by kernel_rfl) (fun _ _ _ h => h) (Or.inl ⟨by rfl, ?hy4⟩) (by assumption) ?rest4
        case hy4 => (intro wz hSw; (try dsimp only at hSw); first | (go_simp; done) | (go_simp; with_reducible rfl))
        try simp only [Act.put, List.getElem_toArray, List.getElem_cons_succ, List.getElem_cons_zero, List.setIfInBounds_toArray, List.set_cons_zero, List.set_cons_succ]
        refine wpAnyH_take (i := 4) (v := ?v5) rfl (by kernel_rfl) (by kernel_rfl) (by kernel_rfl) (fun _ _ _ h => h) (Or.inl ⟨by rfl, ?hy5⟩) (by assumption) ?rest5
        case hy5 => (intro wz hSw; (try dsimp only at hSw); first | (go_simp; done) | (go_simp; with_reducible rfl))
        try simp only [Act.put, List.getElem_toArray, List.getElem_cons_succ, List.getElem_cons_zero, List.setIfInBounds_toArray, List.set_cons_zero, List.set_cons_succ]
        refine wpAnyH_take (i := 5) (v := ?v6) rfl (by kernel_rfl) (by kernel_rfl) (by kernel_rfl) (fun _ _ _ h => h) (Or.inl ⟨by rfl, ?hy6⟩) (by assumption) ?rest6
        case hy6 => (intro wz hSw; (try dsimp only at hSw); first | (go_simp; done) | (go_simp; with_reducible rfl))
        try simp only [Act.put, List.getElem_toArray, List.getElem_cons_succ, List.getElem_cons_zero, List.setIfInBounds_toArray, List.set_cons_zero, List.set_cons_succ]
        refine wpAnyH_take (i := 6) (v := ?v7) rfl (by kernel_rfl) (by kernel_rfl) (by kernel_rfl) (fun _ _ _ h => h) (Or.inl ⟨by rfl, ?hy7⟩) (by assumption) ?rest7
        case hy7 => (intro wz hSw; (try dsimp only at hSw); first | (go_simp; done) | (go_simp; with_reducible rfl))
        try simp only [Act.put, List.getElem_toArray, List.getElem_cons_succ, List.getElem_cons_zero, List.setIfInBounds_toArray, List.set_cons_zero, List.set_cons_succ]
        refine wpAnyH_take (i := 7) (v := ?v8) rfl (by kernel_rfl) (by kernel_rfl) (by kernel_rfl) (fun _ _ _ h => h) (Or.inl ⟨by rfl, ?hy8⟩) (by assumption) ?rest8
        case hy8 => (intro wz hSw; (try dsimp only at hSw); first | (go_simp; done) | (go_simp; with_reducible rfl))
        try simp only [Act.put, List.getElem_toArray, List.getElem_cons_succ, List.getElem_cons_zero, List.setIfInBounds_toArray, List.set_cons_zero, List.set_cons_succ]
        refine wpAnyH_take (i := 8) (v := ?v9) rfl (by kernel_rfl) (by kernel_rfl) (by kernel_rfl) (fun _ _ _ h => h) (Or.inl ⟨by rfl, ?hy9⟩) (by assumption) ?rest9
        case hy9 => (intro wz hSw; (try dsimp only at hSw); first | (go_simp; done) | (go_simp; with_reducible rfl))
        try simp only [Act.put, List.getElem_toArray, List.getElem_cons_succ, List.getElem_cons_zero, List.setIfInBounds_toArray, List.set_cons_zero, List.set_cons_succ]
        refine wpAnyH_take (i := 10) (v := ?v10) rfl (by kernel_rfl) (by kernel_rfl) (by kernel_rfl) (fun _ _ _ h => h) (Or.inl ⟨by rfl, ?hy10⟩) (by assumption) ?rest10
        case hy10 => (intro wz hSw; (try dsimp only at hSw); first | (go_simp; done) | (go_simp; with_reducible rfl))
        try simp only [Act.put, List.getElem_toArray, List.getElem_cons_succ, List.getElem_cons_zero, List.setIfInBounds_toArray, List.set_cons_zero, List.set_cons_succ]
        refine wpAnyH_take (i := 11) (v := ?v11) rfl (by kernel_rfl) (by kernel_rfl) (by kernel_rfl) (fun _ _ _ h => h) (Or.inl ⟨by rfl, ?hy11⟩) (by assumption) ?rest11
        case hy11 => (intro wz hSw; (try dsimp only at hSw); first | (go_simp; done) | (go_simp; with_reducible rfl))
        try simp only [Act.put, List.getElem_toArray, List.getElem_cons_succ, List.getElem_cons_zero, List.setIfInBounds_toArray, List.set_cons_zero, List.set_cons_succ]
        refine wpAnyH_ready (rs := [9]) (by kernel_rfl) (by simp) ?_
        refine AllReadyH.cons (o := _) rfl (fun K hK => ?_) AllReadyH.nil
        go_simp
        (with_reducible refine (BT.out _ H0.out).mono ?_)
        rintro e hw1 ⟨rfl, g⟩
        have H1 := Lib.hid (gb_trans H0.out g)
        clear g
        try dsimp only
        refine hK.out _ _ (KS.out _ H1.out) (fun hH1 => ?_)
        clear hK K hH0
        try simp only [Act.put, List.getElem_toArray, List.getElem_cons_succ, List.getElem_cons_zero, List.setIfInBounds_toArray, List.set_cons_zero, List.set_cons_succ]
        refine wpAnyH_take (i := 12) (v := ?v12) rfl (by kernel_rfl) (by kernel_rfl) (by kernel_rfl) (fun _ _ _ h => h) (Or.inl ⟨by rfl, ?hy12⟩) (by assumption) ?rest12
        case hy12 => (intro wz hSw; (try dsimp only at hSw); first | (go_simp; done) | (go_simp; with_reducible rfl))
        try simp only [Act.put, List.getElem_toArray, List.getElem_cons_succ, List.getElem_cons_zero, List.setIfInBounds_toArray, List.set_cons_zero, List.set_cons_succ]
        refine wpAnyH_take (i := 13) (v := ?v13) rfl (by kernel_rfl) (by kernel_rfl) (by kernel_rfl) (fun _ _ _ h => h) (Or.inl ⟨by rfl, ?hy13⟩) (by assumption) ?rest13
        case hy13 => (intro wz hSw; (try dsimp only at hSw); first | (go_simp; done) | (go_simp; with_reducible rfl))
        try simp only [Act.put, List.getElem_toArray, List.getElem_cons_succ, List.getElem_cons_zero, List.setIfInBounds_toArray, List.set_cons_zero, List.set_cons_succ]
        refine wpAnyH_done (by kernel_rfl) ?_ _
        clear hH1
        clear BT
        go_upto_region 4 with fail
        have hF0 : (fun w' : World => w'.cell? ⟨b, 4, none⟩ = some (ptr l) ∧ w'.cell? ⟨z, 0, none⟩ = some (.int .u32 e) ∧ w'.cell? ⟨z, 1, none⟩ = some (.int .i64 pl)) hw1.drew := ⟨(NB.out.keep0 (gb_trans H1.out (gb_drew _ none))).cell 4, (BZ.out.keep0 (gb_trans H1.out (gb_drew _ none))).cell 0, (BZ.out.keep0 (gb_trans H1.out (gb_drew _ none))).cell 1⟩
        refine wp_region_S (fun w' : World => w'.cell? ⟨b, 4, none⟩ = some (ptr l) ∧ w'.cell? ⟨z, 0, none⟩ = some (.int .u32 e) ∧ w'.cell? ⟨z, 1, none⟩ = some (.int .i64 pl)) 8 (by kernel_rfl) ?_
        refine wpAnyS_pure (i := 0) (v := ?v14) rfl (by kernel_rfl) (by kernel_rfl) (by kernel_rfl) (by decide) (fun _ _ _ h => h) (Or.inl ⟨by rfl, ?hy14⟩) (Or.inr (by assumption)) ?rest14
        case hy14 => (intro wz hSw; (try dsimp only at hSw); first | (go_simp; done) | (go_simp; with_reducible rfl))
        try simp only [Act.put, List.getElem_toArray, List.getElem_cons_zero, List.setIfInBounds_toArray, List.set_cons_zero, List.set_cons_succ]
        refine wpAnyS_pure (i := 1) (v := ?v15) rfl (by kernel_rfl) (by kernel_rfl) (by kernel_rfl) (by decide) (fun _ _ _ h => h) (Or.inl ⟨by rfl, ?hy15⟩) (Or.inr (by assumption)) ?rest15
        case hy15 => (intro wz hSw; (try dsimp only at hSw); first | (go_simp; done) | (go_simp; with_reducible rfl))
        try simp only [Act.put, List.getElem_toArray, List.getElem_cons_succ, List.getElem_cons_zero, List.setIfInBounds_toArray, List.set_cons_zero, List.set_cons_succ]
        refine wpAnyS_pure (i := 2) (v := ?v16) rfl (by kernel_rfl) (by kernel_rfl) (by kernel_rfl) (by decide) (fun _ _ _ h => h) (Or.inl ⟨by rfl, ?hy16⟩) (Or.inr (by assumption)) ?rest16
        case hy16 => (intro wz hSw; (try dsimp only at hSw); first | (go_simp; done) | (go_simp; with_reducible rfl))
        try simp only [Act.put, List.getElem_toArray, List.getElem_cons_succ, List.getElem_cons_zero, List.setIfInBounds_toArray, List.set_cons_zero, List.set_cons_succ]
        refine wpAnyS_pure (i := 3) (v := ?v17) rfl (by kernel_rfl) (by kernel_rfl) (by kernel_rfl) (by decide) (fun _ _ _ h => h) (Or.inl ⟨by rfl, ?hy17⟩) (Or.inr (by assumption)) ?rest17
        case hy17 => (intro wz hSw; (try dsimp only at hSw); first | (go_simp; done) | (go_simp; with_reducible rfl))
        try simp only [Act.put, List.getElem_toArray, List.getElem_cons_succ, List.getElem_cons_zero, List.setIfInBounds_toArray, List.set_cons_zero, List.set_cons_succ]
        refine wpAnyS_load 6 (i := 4) (v := ?v18) rfl (by kernel_rfl) (by kernel_rfl) (by kernel_rfl) (by kernel_rfl) (fun _ _ _ h => h) (Or.inl ⟨by rfl, ?hy18⟩) (by assumption) ?rest18
        case hy18 => (intro wz hSw; (try dsimp only at hSw); first | (go_simp; done) | (go_simp; with_reducible rfl))
        try simp only [Act.put, List.getElem_toArray, List.getElem_cons_succ, List.getElem_cons_zero, List.setIfInBounds_toArray, List.set_cons_zero, List.set_cons_succ]
        refine wpAnyS_load 6 (i := 5) (v := ?v19) rfl (by kernel_rfl) (by kernel_rfl) (by kernel_rfl) (by kernel_rfl) (fun _ _ _ h => h) (Or.inl ⟨by rfl, ?hy19⟩) (by assumption) ?rest19
        case hy19 => (intro wz hSw; (try dsimp only at hSw); first | (go_simp; done) | (go_simp; with_reducible rfl))
        try simp only [Act.put, List.getElem_toArray, List.getElem_cons_succ, List.getElem_cons_zero, List.setIfInBounds_toArray, List.set_cons_zero, List.set_cons_succ]
        refine wpAnyS_one (i := 6) (o := _) (by kernel_rfl) rfl (fun K hK => ?_)
        go_simp
        (with_reducible refine (IH.out _ (gb_trans H1.out (gb_drew _ none))).mono ?_)
        rintro e jw1 ⟨rfl, td, fx, kk⟩
        obtain ⟨po, hpo⟩ := ptr_pad (delT p l)
        obtain ⟨ko, hko⟩ := ptr_pad l
        rw [hpo]
        have HPO := Lib.hid hpo
        clear hpo
        have TD := Lib.hid td
        have FX := Lib.hid fx
        have KX := Lib.hid kk
        clear td fx kk
        have NX := Lib.hid (FX.out.isb (NB.out.keep0 (gb_trans H1.out (gb_drew _ none))) ND.out.1)
        have BY := Lib.hid (FX.out.isb (BZ.out.keep0 (gb_trans H1.out (gb_drew _ none))) ZN.out)
        have f4 := NX.out.free 4
        have c4 := NX.out.cell 4
        dsimp at c4
        rw [hko] at c4
        clear hko
        clear hF0
        have hF1 : (fun w' : World => w'.cell? ⟨b, 4, none⟩ = some (ptr l) ∧ w'.cell? ⟨z, 0, none⟩ = some (.int .u32 e) ∧ w'.cell? ⟨z, 1, none⟩ = some (.int .i64 pl)) jw1 := ⟨NX.out.cell 4, BY.out.cell 0, BY.out.cell 1⟩
        try dsimp only
        refine hK.out _ _ (Or.inr hF1) (fun _ => ?_)
        clear hK K
        try simp only [Act.put, List.getElem_toArray, List.getElem_cons_succ, List.getElem_cons_zero, List.setIfInBounds_toArray, List.set_cons_zero, List.set_cons_succ]
        refine wpAnyS_pure (i := 7) (v := ?v20) rfl (by kernel_rfl) (by kernel_rfl) (by kernel_rfl) (by decide) (fun _ _ _ h => h) (Or.inl ⟨by rfl, ?hy20⟩) (Or.inr (by assumption)) ?rest20
        case hy20 => (intro wz hSw; (try dsimp only at hSw); first | (go_simp; done) | (go_simp; with_reducible rfl))
        try simp only [Act.put, List.getElem_toArray, List.getElem_cons_succ, List.getElem_cons_zero, List.setIfInBounds_toArray, List.set_cons_zero, List.set_cons_succ]
        refine wpAnyS_one (i := 8) (o := _) (by kernel_rfl) rfl (fun K hK => ?_)
        go_simp
        refine hK.out _ _ (Or.inl (by kernel_rfl)) (fun _ => ?_)
        clear hK K
        try simp only [Act.put, List.getElem_toArray, List.getElem_cons_succ, List.getElem_cons_zero, List.setIfInBounds_toArray, List.set_cons_zero, List.set_cons_succ]
        refine wpAnyS_done (by kernel_rfl) ?_ _
        clear hF1
        rw [← HPO.out]
        have NS := Lib.hid (NX.out.set 4 (ptr (delT p l)))
        have TS := Lib.hid (TD.out.far (g := b) (i := 4) (v := ptr (delT p l)) fun m => ND.out.1 (DS.out _ m))
        have OS := Lib.hid ((FX.out.tn (OT.out _ (gb_trans H1.out (gb_drew _ none))) (fun g m m2 => DJ.out g m m2)).far (g := b) (i := 4) (v := ptr (delT p l)) BO.out)
        have FF := Lib.hid ((((Fx.of (gb_trans G2.out (gb_trans H1.out (gb_drew _ none))) : Fx (· ∈ blks (.node b q st x l r)) w _).trans (FX.out.mono fun g _ m => FM.out g m))).trans (Fx.set (i := 4) (v := ptr (delT p l)) (by simp [blks] : b ∈ blks (.node b q st x l r))))
        have KK := Lib.hid (((K01.of (gb_trans G2.out (gb_trans H1.out (gb_drew _ none)))).trans KX.out).trans (K01.set (g := b) (i := 4) (v := ptr (delT p l)) (by decide)))
        clear f4 c4
        generalize jw1.setCell ⟨b, 4, none⟩ (ptr (delT p l)) = w7 at *
        have NQ := Lib.hid (NN.out w7 (by simpa using NS.out))
        go_wp2_with fail
        refine NQ.out.mono ?_
        rintro e w8 ⟨rfl, rfl⟩
        go_wp2
        go_ret
        exact ⟨by rw [HD.out]; rfl, by rw [HD.out]; exact need_tn ⟨by simpa [HE.out, HQ.out] using NS.out, TS.out, OS.out⟩, FF.out, KK.out⟩
      · have IH := Lib.hid (fun (W : World) (k : w2.grownBy W none) => IR.out W (q ++ [true]) (C0.out W (gb_trans G2.out k)) ((TT.out.2.2.keep0 (gb_trans G2.out k))) NDD.out.2.1 (fun m => hs (by simp [blks, m])) OKR.out.2.2.2 (by have := hh; simp only [hasP, if_neg hq, hb] at this; simpa using this))
        unfold RetW at IH
        have BT := Lib.hid (fun (W : World) (k : w2.grownBy W none) => show Calls Try.prog 42 #[.pointer (some ⟨s, 0, none⟩), .int .u32 (E wd p), .int .i64 q.length] W (RetV (.int .u32 1) W) from bit_any W s wd (enc wd p) q.length true (by rw [bits_getEnc wd p hp]; exact hb) (C0.out W (gb_trans G2.out k)) h1 h2 (enc_lt wd p) OKR.out.2.1)
        have ND := Lib.hid (⟨fun m => NDD.out.2.2.2.2 m, trivial⟩ : b ∉ blks r ∧ True)
        have OT := Lib.hid (fun (W : World) (k : w2.grownBy W none) => TT.out.2.1.keep0 (gb_trans G2.out k))
        have NB := Lib.hid (TT.out.1.keep0 G2.out)
        have BZ := Lib.hid B2.out
        have ZN := Lib.hid (show z ∉ blks r from fun m => by
          obtain ⟨cs, k⟩ := TT.out.2.2.blk z m
          have := k.lt
          have := Lz.out
          omega)
        have hd : delT p (.node b q st x l r) = need b q st x l (delT p r) := by simp only [delT]; rw [if_neg hq, hb]; rfl
        have NN := Lib.hid (fun (W : World) (k : IsB W b 82 #[.int .u32 (E wd q), .int .i64 q.length, .bool st, .int .i64 x, ptr l, ptr (delT p r)]) => need_any W wd b q st x l (delT p r) k)
        have DS := Lib.hid (fun g (m : g ∈ blks (delT p r)) => (del_sub p r).subset m)
        have DJ := Lib.hid (fun g (m : g ∈ blks l) (m2 : g ∈ blks r) => NDD.out.2.2.1 g m g m2 rfl)
        have BO := Lib.hid (show b ∉ blks l from NDD.out.2.2.2.1)
        have FM := Lib.hid (show ∀ g, g ∈ blks r → g ∈ blks (.node b q st x l r) from fun g m => by simp [blks, m])
        have HD := Lib.hid hd
        clear hd hh hb hq h1 h2 hp hs d0 d1 n0 n1
        generalize E wd p = e at *
        generalize hE : E wd q = eq at *
        generalize p.length = pl at *
        generalize hQ : q.length = ql at *
        have HE := Lib.hid hE
        have HQ := Lib.hid hQ
        clear hE hQ
        go_upto_region 3 with fail
        have KS := Lib.hid (fun (w' : World) (q0 : w2.grownBy w' none) => (⟨(BZ.out.keep0 q0).cell 0, (NB.out.keep0 q0).cell 1, q0⟩ : (fun w' : World => w'.cell? ⟨z, 0, none⟩ = some (.int .u32 e) ∧ w'.cell? ⟨b, 1, none⟩ = some (.int .i64 ql) ∧ w2.grownBy w' none) w'))
        have H0 := Lib.hid (gb_drew w2 none)
        refine wp_region_held_drew (S := (fun w' : World => w'.cell? ⟨z, 0, none⟩ = some (.int .u32 e) ∧ w'.cell? ⟨b, 1, none⟩ = some (.int .i64 ql) ∧ w2.grownBy w' none)) (by kernel_rfl) (KS.out _ H0.out) (fun hH0 => ?_)
        refine wpAnyH_take (i := 0) (v := ?v21) rfl (by kernel_rfl) (by kernel_rfl) (by kernel_rfl) (fun _ _ _ h => h) (Or.inl ⟨by rfl, ?hy21⟩) (by assumption) ?rest21
        case hy21 => (intro wz hSw; (try dsimp only at hSw); first | (go_simp; done) | (go_simp; with_reducible rfl))
        try simp only [Act.put, List.getElem_toArray, List.getElem_cons_zero, List.setIfInBounds_toArray, List.set_cons_zero, List.set_cons_succ]
        refine wpAnyH_take (i := 1) (v := ?v22) rfl (by kernel_rfl) (by kernel_rfl) (by kernel_rfl) (fun _ _ _ h => h) (Or.inl ⟨by rfl, ?hy22⟩) (by assumption) ?rest22
        case hy22 => (intro wz hSw; (try dsimp only at hSw); first | (go_simp; done) | (go_simp; with_reducible rfl))
        try simp only [Act.put, List.getElem_toArray, List.getElem_cons_succ, List.getElem_cons_zero, List.setIfInBounds_toArray, List.set_cons_zero, List.set_cons_succ]
        refine wpAnyH_take (i := 2) (v := ?v23) rfl (by kernel_rfl) (by kernel_rfl) (by kernel_rfl) (fun _ _ _ h => h) (Or.inl ⟨by rfl, ?hy23⟩) (by assumption) ?rest23
        case hy23 => (intro wz hSw; (try dsimp only at hSw); first | (go_simp; done) | (go_simp; with_reducible rfl))
        try simp only [Act.put, List.getElem_toArray, List.getElem_cons_succ, List.getElem_cons_zero, List.setIfInBounds_toArray, List.set_cons_zero, List.set_cons_succ]
        refine wpAnyH_take (i := 3) (v := ?v24) rfl (by kernel_rfl) (by kernel_rfl) (by kernel_rfl) (fun _ _ _ h => h) (Or.inl ⟨by rfl, ?hy24⟩) (by assumption) ?rest24
        case hy24 => (intro wz hSw; (try dsimp only at hSw); first | (go_simp; done) | (go_simp; with_reducible rfl))
        try simp only [Act.put, List.getElem_toArray, List.getElem_cons_succ, List.getElem_cons_zero, List.setIfInBounds_toArray, List.set_cons_zero, List.set_cons_succ]
        refine wpAnyH_take (i := 4) (v := ?v25) rfl (by kernel_rfl) (by kernel_rfl) (by kernel_rfl) (fun _ _ _ h => h) (Or.inl ⟨by rfl, ?hy25⟩) (by assumption) ?rest25
        case hy25 => (intro wz hSw; (try dsimp only at hSw); first | (go_simp; done) | (go_simp; with_reducible rfl))
        try simp only [Act.put, List.getElem_toArray, List.getElem_cons_succ, List.getElem_cons_zero, List.setIfInBounds_toArray, List.set_cons_zero, List.set_cons_succ]
        refine wpAnyH_take (i := 5) (v := ?v26) rfl (by kernel_rfl) (by kernel_rfl) (by kernel_rfl) (fun _ _ _ h => h) (Or.inl ⟨by rfl, ?hy26⟩) (by assumption) ?rest26
        case hy26 => (intro wz hSw; (try dsimp only at hSw); first | (go_simp; done) | (go_simp; with_reducible rfl))
        try simp only [Act.put, List.getElem_toArray, List.getElem_cons_succ, List.getElem_cons_zero, List.setIfInBounds_toArray, List.set_cons_zero, List.set_cons_succ]
        refine wpAnyH_take (i := 6) (v := ?v27) rfl (by kernel_rfl) (by kernel_rfl) (by kernel_rfl) (fun _ _ _ h => h) (Or.inl ⟨by rfl, ?hy27⟩) (by assumption) ?rest27
        case hy27 => (intro wz hSw; (try dsimp only at hSw); first | (go_simp; done) | (go_simp; with_reducible rfl))
        try simp only [Act.put, List.getElem_toArray, List.getElem_cons_succ, List.getElem_cons_zero, List.setIfInBounds_toArray, List.set_cons_zero, List.set_cons_succ]
        refine wpAnyH_take (i := 7) (v := ?v28) rfl (by kernel_rfl) (by kernel_rfl) (by kernel_rfl) (fun _ _ _ h => h) (Or.inl ⟨by rfl, ?hy28⟩) (by assumption) ?rest28
        case hy28 => (intro wz hSw; (try dsimp only at hSw); first | (go_simp; done) | (go_simp; with_reducible rfl))
        try simp only [Act.put, List.getElem_toArray, List.getElem_cons_succ, List.getElem_cons_zero, List.setIfInBounds_toArray, List.set_cons_zero, List.set_cons_succ]
        refine wpAnyH_take (i := 8) (v := ?v29) rfl (by kernel_rfl) (by kernel_rfl) (by kernel_rfl) (fun _ _ _ h => h) (Or.inl ⟨by rfl, ?hy29⟩) (by assumption) ?rest29
        case hy29 => (intro wz hSw; (try dsimp only at hSw); first | (go_simp; done) | (go_simp; with_reducible rfl))
        try simp only [Act.put, List.getElem_toArray, List.getElem_cons_succ, List.getElem_cons_zero, List.setIfInBounds_toArray, List.set_cons_zero, List.set_cons_succ]
        refine wpAnyH_take (i := 10) (v := ?v30) rfl (by kernel_rfl) (by kernel_rfl) (by kernel_rfl) (fun _ _ _ h => h) (Or.inl ⟨by rfl, ?hy30⟩) (by assumption) ?rest30
        case hy30 => (intro wz hSw; (try dsimp only at hSw); first | (go_simp; done) | (go_simp; with_reducible rfl))
        try simp only [Act.put, List.getElem_toArray, List.getElem_cons_succ, List.getElem_cons_zero, List.setIfInBounds_toArray, List.set_cons_zero, List.set_cons_succ]
        refine wpAnyH_take (i := 11) (v := ?v31) rfl (by kernel_rfl) (by kernel_rfl) (by kernel_rfl) (fun _ _ _ h => h) (Or.inl ⟨by rfl, ?hy31⟩) (by assumption) ?rest31
        case hy31 => (intro wz hSw; (try dsimp only at hSw); first | (go_simp; done) | (go_simp; with_reducible rfl))
        try simp only [Act.put, List.getElem_toArray, List.getElem_cons_succ, List.getElem_cons_zero, List.setIfInBounds_toArray, List.set_cons_zero, List.set_cons_succ]
        refine wpAnyH_ready (rs := [9]) (by kernel_rfl) (by simp) ?_
        refine AllReadyH.cons (o := _) rfl (fun K hK => ?_) AllReadyH.nil
        go_simp
        (with_reducible refine (BT.out _ H0.out).mono ?_)
        rintro e hw1 ⟨rfl, g⟩
        have H1 := Lib.hid (gb_trans H0.out g)
        clear g
        try dsimp only
        refine hK.out _ _ (KS.out _ H1.out) (fun hH1 => ?_)
        clear hK K hH0
        try simp only [Act.put, List.getElem_toArray, List.getElem_cons_succ, List.getElem_cons_zero, List.setIfInBounds_toArray, List.set_cons_zero, List.set_cons_succ]
        refine wpAnyH_take (i := 12) (v := ?v32) rfl (by kernel_rfl) (by kernel_rfl) (by kernel_rfl) (fun _ _ _ h => h) (Or.inl ⟨by rfl, ?hy32⟩) (by assumption) ?rest32
        case hy32 => (intro wz hSw; (try dsimp only at hSw); first | (go_simp; done) | (go_simp; with_reducible rfl))
        try simp only [Act.put, List.getElem_toArray, List.getElem_cons_succ, List.getElem_cons_zero, List.setIfInBounds_toArray, List.set_cons_zero, List.set_cons_succ]
        refine wpAnyH_take (i := 13) (v := ?v33) rfl (by kernel_rfl) (by kernel_rfl) (by kernel_rfl) (fun _ _ _ h => h) (Or.inl ⟨by rfl, ?hy33⟩) (by assumption) ?rest33
        case hy33 => (intro wz hSw; (try dsimp only at hSw); first | (go_simp; done) | (go_simp; with_reducible rfl))
        try simp only [Act.put, List.getElem_toArray, List.getElem_cons_succ, List.getElem_cons_zero, List.setIfInBounds_toArray, List.set_cons_zero, List.set_cons_succ]
        refine wpAnyH_done (by kernel_rfl) ?_ _
        clear hH1
        clear BT
        go_upto_region 4 with fail
        have hF0 : (fun w' : World => w'.cell? ⟨b, 5, none⟩ = some (ptr r) ∧ w'.cell? ⟨z, 0, none⟩ = some (.int .u32 e) ∧ w'.cell? ⟨z, 1, none⟩ = some (.int .i64 pl)) hw1.drew := ⟨(NB.out.keep0 (gb_trans H1.out (gb_drew _ none))).cell 5, (BZ.out.keep0 (gb_trans H1.out (gb_drew _ none))).cell 0, (BZ.out.keep0 (gb_trans H1.out (gb_drew _ none))).cell 1⟩
        refine wp_region_S (fun w' : World => w'.cell? ⟨b, 5, none⟩ = some (ptr r) ∧ w'.cell? ⟨z, 0, none⟩ = some (.int .u32 e) ∧ w'.cell? ⟨z, 1, none⟩ = some (.int .i64 pl)) 8 (by kernel_rfl) ?_
        refine wpAnyS_pure (i := 0) (v := ?v34) rfl (by kernel_rfl) (by kernel_rfl) (by kernel_rfl) (by decide) (fun _ _ _ h => h) (Or.inl ⟨by rfl, ?hy34⟩) (Or.inr (by assumption)) ?rest34
        case hy34 => (intro wz hSw; (try dsimp only at hSw); first | (go_simp; done) | (go_simp; with_reducible rfl))
        try simp only [Act.put, List.getElem_toArray, List.getElem_cons_zero, List.setIfInBounds_toArray, List.set_cons_zero, List.set_cons_succ]
        refine wpAnyS_pure (i := 1) (v := ?v35) rfl (by kernel_rfl) (by kernel_rfl) (by kernel_rfl) (by decide) (fun _ _ _ h => h) (Or.inl ⟨by rfl, ?hy35⟩) (Or.inr (by assumption)) ?rest35
        case hy35 => (intro wz hSw; (try dsimp only at hSw); first | (go_simp; done) | (go_simp; with_reducible rfl))
        try simp only [Act.put, List.getElem_toArray, List.getElem_cons_succ, List.getElem_cons_zero, List.setIfInBounds_toArray, List.set_cons_zero, List.set_cons_succ]
        refine wpAnyS_pure (i := 2) (v := ?v36) rfl (by kernel_rfl) (by kernel_rfl) (by kernel_rfl) (by decide) (fun _ _ _ h => h) (Or.inl ⟨by rfl, ?hy36⟩) (Or.inr (by assumption)) ?rest36
        case hy36 => (intro wz hSw; (try dsimp only at hSw); first | (go_simp; done) | (go_simp; with_reducible rfl))
        try simp only [Act.put, List.getElem_toArray, List.getElem_cons_succ, List.getElem_cons_zero, List.setIfInBounds_toArray, List.set_cons_zero, List.set_cons_succ]
        refine wpAnyS_pure (i := 3) (v := ?v37) rfl (by kernel_rfl) (by kernel_rfl) (by kernel_rfl) (by decide) (fun _ _ _ h => h) (Or.inl ⟨by rfl, ?hy37⟩) (Or.inr (by assumption)) ?rest37
        case hy37 => (intro wz hSw; (try dsimp only at hSw); first | (go_simp; done) | (go_simp; with_reducible rfl))
        try simp only [Act.put, List.getElem_toArray, List.getElem_cons_succ, List.getElem_cons_zero, List.setIfInBounds_toArray, List.set_cons_zero, List.set_cons_succ]
        refine wpAnyS_load 6 (i := 4) (v := ?v38) rfl (by kernel_rfl) (by kernel_rfl) (by kernel_rfl) (by kernel_rfl) (fun _ _ _ h => h) (Or.inl ⟨by rfl, ?hy38⟩) (by assumption) ?rest38
        case hy38 => (intro wz hSw; (try dsimp only at hSw); first | (go_simp; done) | (go_simp; with_reducible rfl))
        try simp only [Act.put, List.getElem_toArray, List.getElem_cons_succ, List.getElem_cons_zero, List.setIfInBounds_toArray, List.set_cons_zero, List.set_cons_succ]
        refine wpAnyS_load 6 (i := 5) (v := ?v39) rfl (by kernel_rfl) (by kernel_rfl) (by kernel_rfl) (by kernel_rfl) (fun _ _ _ h => h) (Or.inl ⟨by rfl, ?hy39⟩) (by assumption) ?rest39
        case hy39 => (intro wz hSw; (try dsimp only at hSw); first | (go_simp; done) | (go_simp; with_reducible rfl))
        try simp only [Act.put, List.getElem_toArray, List.getElem_cons_succ, List.getElem_cons_zero, List.setIfInBounds_toArray, List.set_cons_zero, List.set_cons_succ]
        refine wpAnyS_one (i := 6) (o := _) (by kernel_rfl) rfl (fun K hK => ?_)
        go_simp
        (with_reducible refine (IH.out _ (gb_trans H1.out (gb_drew _ none))).mono ?_)
        rintro e jw1 ⟨rfl, td, fx, kk⟩
        obtain ⟨po, hpo⟩ := ptr_pad (delT p r)
        obtain ⟨ko, hko⟩ := ptr_pad r
        rw [hpo]
        have HPO := Lib.hid hpo
        clear hpo
        have TD := Lib.hid td
        have FX := Lib.hid fx
        have KX := Lib.hid kk
        clear td fx kk
        have NX := Lib.hid (FX.out.isb (NB.out.keep0 (gb_trans H1.out (gb_drew _ none))) ND.out.1)
        have BY := Lib.hid (FX.out.isb (BZ.out.keep0 (gb_trans H1.out (gb_drew _ none))) ZN.out)
        have f4 := NX.out.free 5
        have c4 := NX.out.cell 5
        dsimp at c4
        rw [hko] at c4
        clear hko
        clear hF0
        have hF1 : (fun w' : World => w'.cell? ⟨b, 5, none⟩ = some (ptr r) ∧ w'.cell? ⟨z, 0, none⟩ = some (.int .u32 e) ∧ w'.cell? ⟨z, 1, none⟩ = some (.int .i64 pl)) jw1 := ⟨NX.out.cell 5, BY.out.cell 0, BY.out.cell 1⟩
        try dsimp only
        refine hK.out _ _ (Or.inr hF1) (fun _ => ?_)
        clear hK K
        try simp only [Act.put, List.getElem_toArray, List.getElem_cons_succ, List.getElem_cons_zero, List.setIfInBounds_toArray, List.set_cons_zero, List.set_cons_succ]
        refine wpAnyS_pure (i := 7) (v := ?v40) rfl (by kernel_rfl) (by kernel_rfl) (by kernel_rfl) (by decide) (fun _ _ _ h => h) (Or.inl ⟨by rfl, ?hy40⟩) (Or.inr (by assumption)) ?rest40
        case hy40 => (intro wz hSw; (try dsimp only at hSw); first | (go_simp; done) | (go_simp; with_reducible rfl))
        try simp only [Act.put, List.getElem_toArray, List.getElem_cons_succ, List.getElem_cons_zero, List.setIfInBounds_toArray, List.set_cons_zero, List.set_cons_succ]
        refine wpAnyS_one (i := 8) (o := _) (by kernel_rfl) rfl (fun K hK => ?_)
        go_simp
        refine hK.out _ _ (Or.inl (by kernel_rfl)) (fun _ => ?_)
        clear hK K
        try simp only [Act.put, List.getElem_toArray, List.getElem_cons_succ, List.getElem_cons_zero, List.setIfInBounds_toArray, List.set_cons_zero, List.set_cons_succ]
        refine wpAnyS_done (by kernel_rfl) ?_ _
        clear hF1
        rw [← HPO.out]
        have NS := Lib.hid (NX.out.set 5 (ptr (delT p r)))
        have TS := Lib.hid (TD.out.far (g := b) (i := 5) (v := ptr (delT p r)) fun m => ND.out.1 (DS.out _ m))
        have OS := Lib.hid ((FX.out.tn (OT.out _ (gb_trans H1.out (gb_drew _ none))) (fun g m m2 => DJ.out g m m2)).far (g := b) (i := 5) (v := ptr (delT p r)) BO.out)
        have FF := Lib.hid ((((Fx.of (gb_trans G2.out (gb_trans H1.out (gb_drew _ none))) : Fx (· ∈ blks (.node b q st x l r)) w _).trans (FX.out.mono fun g _ m => FM.out g m))).trans (Fx.set (i := 5) (v := ptr (delT p r)) (by simp [blks] : b ∈ blks (.node b q st x l r))))
        have KK := Lib.hid (((K01.of (gb_trans G2.out (gb_trans H1.out (gb_drew _ none)))).trans KX.out).trans (K01.set (g := b) (i := 5) (v := ptr (delT p r)) (by decide)))
        clear f4 c4
        generalize jw1.setCell ⟨b, 5, none⟩ (ptr (delT p r)) = w7 at *
        have NQ := Lib.hid (NN.out w7 (by simpa using NS.out))
        go_wp2_with fail
        refine NQ.out.mono ?_
        rintro e w8 ⟨rfl, rfl⟩
        go_wp2
        go_ret
        exact ⟨by rw [HD.out]; rfl, by rw [HD.out]; exact need_tn ⟨by simpa [HE.out, HQ.out] using NS.out, OS.out, TS.out⟩, FF.out, KK.out⟩
end Go.Proofs.Ytidjggaffioekaa
