/- Tries: the state of the law Order; no condition. -/
import Derived.Test.YtidjggaffioekaaLuC
namespace Go.Proofs.Ytidjggaffioekaa
open Go.RowKit
set_option linter.unusedVariables false

theorem LS.fxt {W w w2 : World} {q s wi : Nat} {T : Tr} {B : Nat → Prop} (h : LS W q s wi T w) (f : Fx B w w2) (hB : ∀ g t cs, IsB w g t cs → t = 61 ∨ t = 66 ∨ t = 82 → ¬ B g) (g : W.grownBy w2 none) : LS W q s wi T w2 := by
  refine ⟨f.isb h.qv (hB _ _ _ h.qv (.inl rfl)), f.isb h.sv (hB _ _ _ h.sv (.inr (.inl rfl))), h.tn.keep fun g t cs k m => ?_, h.nd, h.ok, h.w1, h.w2, g, h.lowq, h.lows, h.lowb⟩
  obtain ⟨cs2, k2⟩ := h.tn.blk g m
  exact f.isb k (hB _ _ _ k2 (.inr (.inr rfl)))
theorem row_fx {A C : World} {r : Option Nat} (g : A.grownBy C r) : Fx (fun x => r = some x) A C :=
  ⟨g.os, g.tape, g.output, g.size, fun i hi hn => g.block i hi (fun e => hn e.symm)⟩
theorem own_fx {B : Nat → Prop} {w w2 : World} {base n k : Nat} {e : TypeId} {V : Value} {xs : List Value} (r : w.ownsRow base e k V n xs) (f : Fx B w w2) (hB : ∀ g cs, IsB w g e cs → ¬ B g) : w2.ownsRow base e k V n xs := by
  refine ⟨r.1, ?_⟩
  rcases r.2 with q | ⟨g, cap, cur, h1, h2, h3, h4⟩
  · exact .inl q
  · exact .inr ⟨g, cap, cur, h1, h2, f.isb (show IsB w g e cur from h3) (hB g cur h3), h4⟩
structure Tw (W : World) (qa sa qb sb b gb wi : Nat) (go : Ac) (j : Nat) (w : World) (V : Value) (a : Option Addr) (n c : Nat) (D : List Ac) : Prop where
  ex : ∃ T, LS W qa sa wi T w ∧ RI w 0 (.slice a n c) wi (ents T) ∧ n = (ents T).length ∧ n ≤ j ∧ (blks T).length ≤ 2 * j ∧ DP wi D (ents T)
  lb : LS W qb sb wi .nil w
  box : IsB w b 30 #[.int .i64 wi, .slice a n c]
  bg : IsB w gb 37 #[.int .i64 go.1, .int .u32 (go.2.1 : Nat), .int .i64 go.2.2.1, .int .i64 go.2.2.2]
  row : DR w (W.heap.size + 1) V D
  dl : D.length ≤ j
  rg : ∀ z ∈ D, AcOk z
  low : W.heap.size ≤ b
  lowg : gb = W.heap.size
  ss : sa ≠ sb
theorem Tw.grown {W w : World} {qa sa qb sb b gb wi j n c : Nat} {go : Ac} {V : Value} {a : Option Addr} {D : List Ac} (h : Tw W qa sa qb sb b gb wi go j w V a n c D) : W.grownBy w none := h.lb.grown
theorem Tw.keep0 {W w w2 : World} {qa sa qb sb b gb wi j n c : Nat} {go : Ac} {V : Value} {a : Option Addr} {D : List Ac} (h : Tw W qa sa qb sb b gb wi go j w V a n c D) (k : w.grownBy w2 none) : Tw W qa sa qb sb b gb wi go j w2 V a n c D := by
  obtain ⟨T, h1, h2, h3, h4, h5, h6⟩ := h.ex
  exact ⟨⟨T, h1.keep0 k, h2.keep0 k, h3, h4, h5, h6⟩, h.lb.keep0 k, h.box.keep0 k, h.bg.keep0 k, h.row.keep0 k, h.dl, h.rg, h.low, h.lowg, h.ss⟩
theorem Tw.next {W w : World} {qa sa qb sb b gb wi j n c : Nat} {go : Ac} {V : Value} {a : Option Addr} {D : List Ac} (h : Tw W qa sa qb sb b gb wi go j w V a n c D) : Tw W qa sa qb sb b gb wi go (j + 1) w V a n c D := by
  obtain ⟨T, h1, h2, h3, h4, h5, h6⟩ := h.ex
  exact ⟨⟨T, h1, h2, h3, by omega, by omega, h6⟩, h.lb, h.box, h.bg, h.row, by have := h.dl; omega, h.rg, h.low, h.lowg, h.ss⟩
/-- Behind a successful insertion: the trie of the program and the reference's new row, all else as it was. -/
structure Ti (W : World) (qa sa qb sb b gb wi : Nat) (go : Ac) (j : Nat) (w : World) (V : Value) (a : Option Addr) (n c : Nat) (D : List Ac) (a2 : Option Addr) (n2 c2 : Nat) (z : Ac) : Prop where
  ex : ∃ T2, LS W qa sa wi T2 w ∧ RI w 0 (.slice a2 n2 c2) wi (ents T2) ∧ n2 = (ents T2).length ∧ n2 ≤ j + 1 ∧ (blks T2).length ≤ 2 * (j + 1) ∧ DP wi (D ++ [z]) (ents T2)
  lb : LS W qb sb wi .nil w
  box : IsB w b 30 #[.int .i64 wi, .slice a n c]
  bg : IsB w gb 37 #[.int .i64 go.1, .int .u32 (go.2.1 : Nat), .int .i64 go.2.2.1, .int .i64 go.2.2.2]
  row : DR w (W.heap.size + 1) V D
  dl : D.length ≤ j
  rg : ∀ z ∈ D, AcOk z
  low : W.heap.size ≤ b
  lowg : gb = W.heap.size
  ss : sa ≠ sb
theorem Ti.of {W w w8 w9 : World} {qa sa qb sb b gb wi j n c : Nat} {go : Ac} {V : Value} {a : Option Addr} {D : List Ac} (h : Tw W qa sa qb sb b gb wi go j w V a n c D) (k : w.grownBy w8 none) (T : Tr) (hT : LS W qa sa wi T w) (hD : DP wi D (ents T)) (hn : n = (ents T).length) (hj : n ≤ j) (hb : (blks T).length ≤ 2 * j) (z : Ac) (g : GA wi z) (hg : getT (eA wi z).1 T = none)
    {a2 : Option Addr} {n2 c2 : Nat} (e2 : n2 = (insL wi (eA wi z) (ents T)).length) (r2 : RI w8 0 (.slice a2 n2 c2) wi (insL wi (eA wi z) (ents T))) {p f : Nat} (l9 : LS W qa sa wi (insT p f (eA wi z).1 z.2.2.2 T) w9) (fx : Fx (Bs sa T) w8 w9) : Ti W qa sa qb sb b gb wi go j w9 V a n c D a2 n2 c2 z := by
  have he : ents (insT p f (eA wi z).1 z.2.2.2 T) = insL wi (eA wi z) (ents T) := insT_ents hT.ok (eA_len g) hg
  have h8 := hT.keep0 k
  have nb : ∀ g t cs, IsB w8 g t cs → t ≠ 66 → t ≠ 82 → ¬ Bs sa T g := fun g t cs q h1 h2 => h8.not_bs q h1 h2
  refine ⟨⟨_, l9, ?_, by rw [he]; exact e2, by rw [e2, ins_len]; omega, Nat.le_trans (ins_blks _ _ _ _ _) (by omega), by rw [he]; exact hD.snoc hT.ok g hg⟩, ?_, fx.isb (h.box.keep0 k) (nb _ _ _ (h.box.keep0 k) (by decide) (by decide)), fx.isb (h.bg.keep0 k) (nb _ _ _ (h.bg.keep0 k) (by decide) (by decide)), own_fx (h.row.keep0 k) fx (fun g cs q => nb _ _ _ q (by decide) (by decide)), h.dl, h.rg, h.low, h.lowg, h.ss⟩
  · rw [he]; exact RI.fx r2 fx h8
  · exact (h.lb.keep0 k).other h8 h.ss.symm (fun g hg => by cases hg) fx l9.grown
theorem Ti.set {W w : World} {qa sa qb sb b gb wi j n c n2 c2 : Nat} {go z : Ac} {V : Value} {a a2 : Option Addr} {D : List Ac} (h : Ti W qa sa qb sb b gb wi go j w V a n c D a2 n2 c2 z) : Ti W qa sa qb sb b gb wi go j ((w.setCell ⟨b, 0, none⟩ (.int .i64 wi)).setCell ⟨b, 1, none⟩ (.slice a2 n2 c2)) V a2 n2 c2 D a2 n2 c2 z := by
  obtain ⟨T, h1, h2, h3, h4, h5, h6⟩ := h.ex
  have b1 := h.box.set 0 (.int .i64 wi)
  have ne : gb ≠ b := IsB.ne h.bg h.box (by decide)
  refine ⟨⟨T, (h1.far h.box (by decide) (by decide) (by decide) h.low).far b1 (by decide) (by decide) (by decide) h.low, own_kept (own_kept h2 h.box (by decide)) b1 (by decide), h3, h4, h5, h6⟩, (h.lb.far h.box (by decide) (by decide) (by decide) h.low).far b1 (by decide) (by decide) (by decide) h.low, b1.set 1 _, (h.bg.set_far ne 0 _).set_far ne 1 _, ?_, h.dl, h.rg, h.low, h.lowg, h.ss⟩
  have k1 : DR (w.setCell ⟨b, 0, none⟩ (.int .i64 wi)) (W.heap.size + 1) V D := World.ownsRow.kept h.row (gb_set _ _ _ _) (.inr (own_ne h.row h.box (by decide)))
  exact World.ownsRow.kept k1 (gb_set _ _ _ _) (.inr (own_ne k1 b1 (by decide)))
theorem Ti.keep0 {W w w2 : World} {qa sa qb sb b gb wi j n c n2 c2 : Nat} {go z : Ac} {V : Value} {a a2 : Option Addr} {D : List Ac} (h : Ti W qa sa qb sb b gb wi go j w V a n c D a2 n2 c2 z) (k : w.grownBy w2 none) : Ti W qa sa qb sb b gb wi go j w2 V a n c D a2 n2 c2 z := by
  obtain ⟨T, h1, h2, h3, h4, h5, h6⟩ := h.ex
  exact ⟨⟨T, h1.keep0 k, h2.keep0 k, h3, h4, h5, h6⟩, h.lb.keep0 k, h.box.keep0 k, h.bg.keep0 k, h.row.keep0 k, h.dl, h.rg, h.low, h.lowg, h.ss⟩
theorem Ti.push {W w w2 : World} {qa sa qb sb b gb wi j n2 c2 : Nat} {go z : Ac} {V V2 : Value} {a2 : Option Addr} {D : List Ac} (h : Ti W qa sa qb sb b gb wi go j w V a2 n2 c2 D a2 n2 c2 z) (hz : AcOk z) (r : DR w2 (W.heap.size + 1) V2 (D ++ [z])) (g : w.grownBy w2 V.ownBlock) : Tw W qa sa qb sb b gb wi go (j + 1) w2 V2 a2 n2 c2 (D ++ [z]) := by
  obtain ⟨T, h1, h2, h3, h4, h5, h6⟩ := h.ex
  have fx := row_fx g
  have nt : ∀ x t cs, IsB w x t cs → t ≠ 37 → ¬ V.ownBlock = some x := fun x t cs q ht e => own_ne h.row q (Ne.symm ht) e
  have ng : V.ownBlock ≠ some gb := fun e => by
    have := (World.ownsRow.lt h.row gb e).1
    have := h.lowg
    omega
  have gW : W.grownBy w2 none := by
    cases e : V.ownBlock with
    | none => rw [e] at g; exact gb_trans h1.grown g
    | some x => rw [e] at g; exact gb_new (gb_trans (gb_any h1.grown) g) (by have := (World.ownsRow.lt h.row x e).1; omega)
  have tt : ∀ g t cs, IsB w g t cs → t = 61 ∨ t = 66 ∨ t = 82 → ¬ V.ownBlock = some g := fun g t cs q e => nt g t cs q (by rcases e with rfl | rfl | rfl <;> decide)
  refine ⟨⟨T, h1.fxt fx tt gW, own_fx h2 fx (fun g cs q => nt g _ cs q (by decide)), h3, h4, h5, h6⟩, h.lb.fxt fx tt gW, fx.isb h.box (nt _ _ _ h.box (by decide)), fx.isb h.bg ng, r, by rw [List.length_append]; have := h.dl; simp; omega, fun y hy => ?_, h.low, h.lowg, h.ss⟩
  rcases List.mem_append.1 hy with m | m
  · exact h.rg y m
  · simp at m; subst m; exact hz
/-- The second trie grows, from the end of the list. -/
structure Tb (W : World) (qa sa qb sb b wi N : Nat) (TA : Tr) (k : Nat) (w : World) (V : Value) (a : Option Addr) (n c : Nat) (D : List Ac) : Prop where
  la : LS W qa sa wi TA w
  ex : ∃ T, LS W qb sb wi T w ∧ DP wi (D.drop k) (ents T) ∧ (∀ g ∈ blks T, N ≤ g) ∧ (blks T).length + 2 * k ≤ 2 * D.length + 2 ∧ (ents T).length + k ≤ D.length
  ri : RI w 0 (.slice a n c) wi (ents TA)
  box : IsB w b 30 #[.int .i64 wi, .slice a n c]
  row : DR w (W.heap.size + 1) V D
  da : DP wi D (ents TA)
  dl : D.length ≤ 40
  rg : ∀ z ∈ D, AcOk z
  lt : ∀ g ∈ blks TA, g < N
  sz : N ≤ w.heap.size
  ss : sa ≠ sb
theorem Tb.keep0 {W w w2 : World} {qa sa qb sb b wi N k n c : Nat} {TA : Tr} {V : Value} {a : Option Addr} {D : List Ac} (h : Tb W qa sa qb sb b wi N TA k w V a n c D) (g : w.grownBy w2 none) : Tb W qa sa qb sb b wi N TA k w2 V a n c D := by
  obtain ⟨T, h1, h2, h3, h4, h5⟩ := h.ex
  exact ⟨h.la.keep0 g, ⟨T, h1.keep0 g, h2, h3, h4, h5⟩, h.ri.keep0 g, h.box.keep0 g, h.row.keep0 g, h.da, h.dl, h.rg, h.lt, Nat.le_trans h.sz g.size, h.ss⟩
/-- What a call on the second trie leaves alone. -/
theorem Tb.fx {W w w2 : World} {qa sa qb sb b wi N k n c : Nat} {TA T T2 : Tr} {V : Value} {a : Option Addr} {D : List Ac} (h : Tb W qa sa qb sb b wi N TA k w V a n c D) (lt : LS W qb sb wi T w) (hN : ∀ g ∈ blks T, N ≤ g) (f : Fx (Bs sb T) w w2) (l2 : LS W qb sb wi T2 w2) {k2 : Nat}
    (e2 : DP wi (D.drop k2) (ents T2)) (n2 : ∀ g ∈ blks T2, N ≤ g) (s2 : (blks T2).length + 2 * k2 ≤ 2 * D.length + 2) (s3 : (ents T2).length + k2 ≤ D.length) : Tb W qa sa qb sb b wi N TA k2 w2 V a n c D := by
  have nb : ∀ g t cs, IsB w g t cs → t ≠ 66 → t ≠ 82 → ¬ Bs sb T g := fun g t cs q h1 h2 => lt.not_bs q h1 h2
  exact ⟨h.la.other lt h.ss (fun g hg hq => by have := h.lt g hg; have := hN g hq; omega) f l2.grown, ⟨T2, l2, e2, n2, s2, s3⟩, RI.fx h.ri f lt, f.isb h.box (nb _ _ _ h.box (by decide) (by decide)), own_fx h.row f (fun g cs q => nb _ _ _ q (by decide) (by decide)), h.da, h.dl, h.rg, h.lt, Nat.le_trans h.sz f.size, h.ss⟩
def RetTb (W : World) (qa sa qb sb b wi N : Nat) (TA : Tr) (k : Nat) (V : Value) (a : Option Addr) (n c : Nat) (D : List Ac) (v : Value) (e : Ending) (w' : World) : Prop := e = .returned v ∧ Tb W qa sa qb sb b wi N TA k w' V a n c D
theorem Tb.ins {W w : World} {qa sa qb sb b wi N k n c : Nat} {TA : Tr} {V : Value} {a : Option Addr} {D : List Ac} (h : Tb W qa sa qb sb b wi N TA (k + 1) w V a n c D) (hk : k < D.length) :
    Calls Try.prog 17 #[.pointer (some ⟨qb, 0, none⟩), .int .u32 ((D.getD k az).2.1 : Nat), .int .i64 (D.getD k az).2.2.1, .int .i64 (D.getD k az).2.2.2] w (RetTb W qa sa qb sb b wi N TA k V a n c D (.int .i64 0)) := by
  obtain ⟨T, h1, h2, h3, h4, h5⟩ := h.ex
  have e0 : D.getD k az = D[k] := by rw [List.getD_eq_getElem?_getD, List.getElem?_eq_getElem hk]; rfl
  rw [e0]
  have hg := h.da.ga _ (List.getElem_mem hk)
  have hp := List.pairwise_iff_getElem.1 h.da.ne
  have hd : D.drop k = D[k] :: D.drop (k + 1) := List.drop_eq_getElem_cons hk
  have q := h2.cons h1.ok hg (fun y hy => by
    obtain ⟨i, hi, rfl⟩ := List.getElem_of_mem hy
    rw [List.getElem_drop]
    exact hp k (k + 1 + i) hk (by simp at hi; omega) (by omega))
  refine (ins_go W w qb sb wi D[k] T h1 hg q.1 (by have := h.dl; omega)).mono ?_
  rintro e w2 ⟨x, f, rfl, l2, fx, hx, hf⟩
  have he : ents (insT x f (eA wi D[k]).1 D[k].2.2.2 T) = insL wi (eA wi D[k]) (ents T) := insT_ents h1.ok (eA_len hg) q.1
  refine ⟨rfl, h.fx h1 h3 fx l2 (by rw [he, hd]; exact q.2) (fun g hg => ?_) ?_ ?_⟩
  · have := h.sz
    rcases ins_in _ _ _ _ _ g hg with m | rfl | rfl
    · exact h3 g m
    · omega
    · omega
  · have := ins_blks x f (eA wi D[k]).1 D[k].2.2.2 T
    omega
  · rw [he, ins_len]; omega
/-- The prefix that goes again. -/
theorem Tb.gone {W w : World} {qa sa qb sb b wi N n c : Nat} {TA : Tr} {V : Value} {a : Option Addr} {D : List Ac} (z : Ac) (h : Tb W qa sa qb sb b wi N TA D.length w V a n c D) (hz : AcOk z) (hB : LS W qb sb wi .nil w) :
    (∃ k : Int, k ≠ 0 ∧ Calls Try.prog 17 #[.pointer (some ⟨qb, 0, none⟩), .int .u32 (z.2.1 : Nat), .int .i64 z.2.2.1, .int .i64 z.2.2.2] w (RetTb W qa sa qb sb b wi N TA D.length V a n c D (.int .i64 k))) ∨
    (Calls Try.prog 17 #[.pointer (some ⟨qb, 0, none⟩), .int .u32 (z.2.1 : Nat), .int .i64 z.2.2.1, .int .i64 z.2.2.2] w (fun e w1 => e = .returned (.int .i64 0) ∧ W.grownBy w1 none ∧ (∀ g t cs, IsB w g t cs → t = 37 → IsB w1 g t cs) ∧ ∀ w2, w1.grownBy w2 none → Calls Try.prog 19 #[.pointer (some ⟨qb, 0, none⟩), .int .u32 (z.2.1 : Nat), .int .i64 z.2.2.1] w2 (RetTb W qa sa qb sb b wi N TA D.length V a n c D (.bool true)))) := by
  by_cases hg : GA wi z
  · refine .inr ((ins_go W w qb sb wi z .nil hB hg rfl (by simp [ents])).mono ?_)
    rintro e w1 ⟨x, f, rfl, l1, fx, hx, hf⟩
    have he : ents (insT x f (eA wi z).1 z.2.2.2 .nil) = insL wi (eA wi z) (ents .nil) := insT_ents hB.ok (eA_len hg) rfl
    have bl : ∀ g ∈ blks (insT x f (eA wi z).1 z.2.2.2 .nil), N ≤ g := fun g hg => by
      have := h.sz
      rcases ins_in _ _ _ _ _ g hg with m | rfl | rfl
      · cases m
      · omega
      · omega
    refine ⟨rfl, l1.grown, fun g t cs q e => fx.isb q (hB.not_bs q (by rw [e]; decide) (by rw [e]; decide)), fun w2 k => ?_⟩
    have l2 := l1.keep0 k
    obtain ⟨d, v, m, y⟩ := z
    obtain ⟨hb1, hb2, hb3⟩ := hg
    dsimp only at hb1 hb2 hb3 ⊢
    obtain ⟨mm, rfl⟩ : ∃ k : Nat, m = k := ⟨m.toNat, by omega⟩
    have gs : getT (eA wi (d, v, (mm : Int), y)).1 (insT x f (eA wi (d, v, (mm : Int), y)).1 y .nil) = some y := (get_mem _ _ _ l1.ok).1 (by rw [he]; exact (insL_mem _ _ _ _).2 (.inl rfl))
    refine (del_some W w2 qb sb wi v mm _ (eA wi (d, v, (mm : Int), y)).1 y l2 hb1 (by omega) (by simp [eA]) gs (by rw [he, ins_len]; simp [ents])).mono ?_
    rintro e w3 ⟨rfl, l3, f3⟩
    refine ⟨rfl, ?_⟩
    have hd : ents (delT (eA wi (d, v, (mm : Int), y)).1 (insT x f (eA wi (d, v, (mm : Int), y)).1 y .nil)) = [] := by
      rw [delT_ents l1.ok, he]
      simp [insL, ents, delL, eA]
    have sb2 := (del_sub (eA wi (d, v, (mm : Int), y)).1 (insT x f (eA wi (d, v, (mm : Int), y)).1 y .nil))
    have Z2 : Tb W qa sa qb sb b wi N TA D.length w2 V a n c D → True := fun _ => trivial
    have h1 : Tb W qa sa qb sb b wi N TA D.length w1 V a n c D ∨ True := .inr trivial
    have nb : ∀ g t cs, IsB w g t cs → t ≠ 66 → t ≠ 82 → ¬ Bs sb .nil g := fun g t cs q h1 h2 => hB.not_bs q h1 h2
    have nb2 : ∀ g t cs, IsB w2 g t cs → t ≠ 66 → t ≠ 82 → ¬ Bs sb (insT x f (eA wi (d, v, (mm : Int), y)).1 y .nil) g := fun g t cs q h1 h2 => l2.not_bs q h1 h2
    have la1 := h.la.other hB h.ss (fun g _ hq => by cases hq) fx l1.grown
    have la3 := (la1.keep0 k).other l2 h.ss (fun g hg hq => by have := h.lt g hg; have := bl g hq; omega) f3 l3.grown
    have bx1 := fx.isb h.box (nb _ _ _ h.box (by decide) (by decide))
    have rw1 : DR w1 (W.heap.size + 1) V D := own_fx h.row fx (fun g cs q => nb _ _ _ q (by decide) (by decide))
    refine ⟨la3, ⟨_, l3, by rw [hd, List.drop_length]; exact dp_nil wi, fun g hg => bl g (sb2.subset hg), ?_, by rw [hd]; simp⟩, RI.fx ((RI.fx h.ri fx hB).keep0 k) f3 l2, f3.isb (bx1.keep0 k) (nb2 _ _ _ (bx1.keep0 k) (by decide) (by decide)), own_fx (rw1.keep0 k) f3 (fun g cs q => nb2 _ _ _ q (by decide) (by decide)), h.da, h.dl, h.rg, h.lt, Nat.le_trans h.sz (Nat.le_trans fx.size (Nat.le_trans k.size f3.size)), h.ss⟩
    have s1 := sb2.length_le
    have s2 := ins_blks x f (eA wi (d, v, (mm : Int), y)).1 y .nil
    simp only [blks, List.length_nil] at s2
    have s4 : (blks (delT (eA wi (d, v, (mm : Int), y)).1 (insT x f (eA wi (d, v, (mm : Int), y)).1 y .nil))).length + 2 * D.length ≤ 2 * D.length + 2 := by omega
    exact s4
  · refine .inl ⟨9, by decide, (ins_bad W w qb sb wi z.2.1 .nil z.2.2.1 z.2.2.2 hB hg).mono fun e w2 q => ⟨q.1, h.keep0 q.2⟩⟩
end Go.Proofs.Ytidjggaffioekaa
