/- Units: the program's collect and Build: the state in memory, the list that is built; theory; no condition. -/
import Derived.Test.YtfjeonoihdgdoaaUnG
import Derived.Test.YtfjeonoihdgdoaaCnC
import Derived.Test.YtfjeonoihdgdoaaCnL
import Derived.Deep.RegionHeld
namespace Go.Proofs.Ytfjeonoihdgdoaa
open Go.RowKit
set_option linter.unusedVariables false
abbrev PU := Int × List Nd × List Gd
/-- The units of a block, the first of which has number n, under guards G. -/
def bldT : CT → Nat → List Gd → List PU
  | .nil, _, _ => []
  | .cons k t c N s th u el r, n, G => (utab ⟨k, t, c, N, s, th, u, el⟩, ucnd ⟨k, t, c, N, s, th, u, el⟩, G) :: (bldT th (n + 1) (G ++ [((n : Int), true)]) ++ (bldT el (n + 1 + th.cnt) (G ++ [((n : Int), false)]) ++ bldT r (n + 1 + th.cnt + el.cnt) G))
theorem bldT_ct (x : CV) (r : CT) (n : Nat) (G : List Gd) : bldT (x.ct r) n G = (utab x, ucnd x, G) :: (bldT x.th (n + 1) (G ++ [((n : Int), true)]) ++ (bldT x.el (n + 1 + x.th.cnt) (G ++ [((n : Int), false)]) ++ bldT r (n + 1 + x.th.cnt + x.el.cnt) G)) := rfl
theorem bldT_len : ∀ (T : CT) (n : Nat) (G : List Gd), (bldT T n G).length = T.cnt := by
  intro T
  induction T with
  | nil => intro n G; rfl
  | cons k t c N s th u el r i1 i2 i3 =>
    intro n G
    have hc : (CT.cons k t c N s th u el r).cnt = 1 + th.cnt + el.cnt + r.cnt := CV.cnt_ct ⟨k, t, c, N, s, th, u, el⟩ r
    rw [bldT, List.length_cons, List.length_append, List.length_append, i1, i2, i3, hc]
    omega
def uv (U : Un) : PU := (U.t, U.N, U.G)
def ucel (U : Un) : List Value := [.int .i64 U.t, .slice U.c.a U.c.n U.c.c, .slice U.g.a U.g.n U.g.c]
/-- A row of units of the call's own. -/
def UR (w : World) (base : Nat) (V : Value) (L : List Un) : Prop := w.ownsRow base 78 3 V L.length (L.flatMap ucel)
/-- What collecting may turn: the variable of the list, and rows of units. -/
def OwU (lb base : Nat) (k : Nat) : Obj → Prop
  | .cells _ t _ => (k = lb ∧ t = 69) ∨ (base ≤ k ∧ t = 78)
  | _ => False
/-- The list of units under construction: its variable lies at lb, collect's at fb, its rows at base or behind it; what lay in w0 lies as it lay. -/
structure UI (w0 w : World) (lb fb base : Nat) (V : Value) (L : List Un) : Prop where
  l : IsB w lb 69 #[V]
  f : IsB w fb 123 #[.func (.func 55) #[] #[.pointer (some ⟨lb, 0, none⟩), .pointer (some ⟨fb, 0, none⟩)]]
  o : UR w base V L
  m : ∀ U ∈ L, NDL w base (.slice U.c.a U.c.n U.c.c) U.N ∧ GL w base (.slice U.g.a U.g.n U.g.c) U.G
  kc : Kc w0 w
  lo : w0.heap.size ≤ lb ∧ lb < base ∧ fb < base ∧ base ≤ w.heap.size
theorem owu_gd {lb base g : Nat} {cs : Array Value} : ¬ OwU lb base g (.cells cs 80 (0, 0)) := fun q => by rcases q with ⟨_, q⟩ | ⟨_, q⟩ <;> exact absurd q (by decide)
theorem owu_nd {lb base g : Nat} {cs : Array Value} : ¬ OwU lb base g (.cells cs 51 (0, 0)) := fun q => by rcases q with ⟨_, q⟩ | ⟨_, q⟩ <;> exact absurd q (by decide)
theorem owu_cn {lb base g : Nat} {cs : Array Value} : ¬ OwU lb base g (.cells cs 63 (0, 0)) := fun q => by rcases q with ⟨_, q⟩ | ⟨_, q⟩ <;> exact absurd q (by decide)
theorem owu_fn {lb base g : Nat} {cs : Array Value} : ¬ OwU lb base g (.cells cs 123 (0, 0)) := fun q => by rcases q with ⟨_, q⟩ | ⟨_, q⟩ <;> exact absurd q (by decide)
theorem GL.kt {lb base b2 : Nat} {w w2 : World} {V : Value} {G : List Gd} (h : GL w b2 V G) (k : Kt (OwU lb base) w w2) : GL w2 b2 V G := k.row h (fun g cs _ => owu_gd)
theorem NDL.kt {lb base b2 : Nat} {w w2 : World} {V : Value} {N : List Nd} (h : NDL w b2 V N) (k : Kt (OwU lb base) w w2) : NDL w2 b2 V N := k.row h (fun g cs _ => owu_nd)
theorem kc_own {w0 w w2 : World} {lb base : Nat} (h : Kc w0 w) (k : Kt (OwU lb base) w w2) (h1 : w0.heap.size ≤ lb) (h2 : lb < base) : Kc w0 w2 :=
  kc_kt h k (fun k cs t m hk q => by rcases q with ⟨q, _⟩ | ⟨q, _⟩ <;> omega)
theorem UI.keep0 {w0 w w2 : World} {lb fb base : Nat} {V : Value} {L : List Un} (h : UI w0 w lb fb base V L) (g : w.grownBy w2 none) : UI w0 w2 lb fb base V L :=
  ⟨h.l.keep0 g, h.f.keep0 g, own_keep0 h.o g, fun U hU => ⟨own_keep0 (h.m U hU).1 g, own_keep0 (h.m U hU).2 g⟩, h.kc.trans (Kc.of_gb g), h.lo.1, h.lo.2.1, h.lo.2.2.1, Nat.le_trans h.lo.2.2.2 g.size⟩
theorem kt_urow {w w2 : World} {lb base n : Nat} {V : Value} {xs : List Value} (h : w.ownsRow base 78 3 V n xs) (g : w.grownBy w2 V.ownBlock) : Kt (OwU lb base) w w2 := by
  rcases h.2 with ⟨rfl, _⟩ | ⟨g0, cap, cur, rfl, hb, hg, _⟩
  · exact Kt.of_gb g
  · exact Kt.of_row (g := g0) g (fun o ho => by rw [hg] at ho; cases ho; exact .inr ⟨hb, rfl⟩)
theorem kt_lb {w : World} {lb base : Nat} {cs : Array Value} (h : IsB w lb 69 cs) (i : Nat) (v : Value) : Kt (OwU lb base) w (w.setCell ⟨lb, i, none⟩ v) :=
  Kt.of_row (g := lb) (gb_set w lb i v) (fun o ho => by rw [show w.heap[lb]? = _ from h] at ho; cases ho; exact .inl ⟨rfl, rfl⟩)
/-- A unit more: the row's append and the store into the list's variable. -/
theorem UI.push {w0 w wA w7 : World} {lb fb base : Nat} {V V7 : Value} {L : List Un} {U : Un} (h : UI w0 w lb fb base V L) (gA : w.grownBy wA none) (g7 : wA.grownBy w7 V.ownBlock) (o7 : UR w7 base V7 (L ++ [U]))
    (hc : NDL wA base (.slice U.c.a U.c.n U.c.c) U.N) (hg : GL wA base (.slice U.g.a U.g.n U.g.c) U.G) :
    UI w0 (w7.setCell ⟨lb, 0, none⟩ V7) lb fb base V7 (L ++ [U]) ∧ Kt (OwU lb base) w (w7.setCell ⟨lb, 0, none⟩ V7) := by
  have hA := h.keep0 gA
  obtain ⟨l1, l2, l3, l4⟩ := h.lo
  have k1 : Kt (OwU lb base) wA w7 := kt_urow hA.o g7
  have b7 : IsB w7 lb _ _ := hA.l.keep g7 (fun e => own_far hA.o l2 e.symm)
  have k2 : Kt (OwU lb base) wA (w7.setCell ⟨lb, 0, none⟩ V7) := k1.trans (kt_lb b7 0 V7)
  have k3 : Kt (OwU lb base) w (w7.setCell ⟨lb, 0, none⟩ V7) := (Kt.of_gb gA).trans k2
  refine ⟨⟨b7.set 0 V7, k2.isb hA.f owu_fn, ?_, fun W hW => ?_, kc_own h.kc k3 l1 l2, l1, l2, l3, Nat.le_trans l4 k3.size⟩, k3⟩
  · exact own_keepS o7 (gb_set _ _ _ _) b7 (by decide)
  · rcases List.mem_append.1 hW with q | q
    · exact ⟨(hA.m W q).1.kt k2, (hA.m W q).2.kt k2⟩
    · rw [List.mem_singleton] at q
      subst q
      exact ⟨hc.kt k2, hg.kt k2⟩
theorem infoUn : (Try.prog.info? 78).map (fun i => (i.zero, i.size, i.bytes)) = some (some (.agg #[.int .i64 0, .slice none 0 0, .slice none 0 0]), 3, 56) := by kernel_rfl
theorem ucels_one (M : List Un) : ∀ u ∈ M.flatMap ucel, u.oneCell' = true := by
  intro u hu
  obtain ⟨x, _, hx⟩ := List.mem_flatMap.1 hu
  simp only [ucel, List.mem_cons, List.not_mem_nil, or_false] at hx
  rcases hx with rfl | rfl | rfl <;> rfl
theorem ucel_len (M : List Un) : (M.flatMap ucel).length = M.length * 3 := by
  induction M with
  | nil => rfl
  | cons p M ih => rw [List.flatMap_cons, List.length_append, ih]; simp [ucel]; omega
theorem step_unpush {ops : Array Oper} {o : Oper} {a : Act} {w : World} {K : Act → World → Prop} {Q : Exit → Act → World → Prop} {E : Prop} (hgd : o.guard = none) (s x : Operand)
    (ho : o.op = .call { callee := .builtin .append, args := #[s, x], argTypes := #[69, 69] }) (base : Nat) (V : Value) (L : List Un) (hs : a.eval s = V) (hown : UR w base V L)
    (U : Un) (g c : Nat) (hx : a.eval x = .slice (some ⟨g, 0, none⟩) 1 c) (hU : IsB w g 78 #[.int .i64 U.t, .slice U.c.a U.c.n U.c.c, .slice U.g.a U.g.n U.g.c]) (hlen : L.length ≤ 1000000) (hbase : base ≤ w.heap.size)
    (h : ∀ V' w', UR w' base V' (L ++ [U]) → w.grownBy w' V.ownBlock → K (a.put o.dst V') w') : if Region.wanted o (yielded ops a.tmps) = true then Oper.wp Try.prog o a w K Q else E := by
  have hw : Region.wanted o (yielded ops a.tmps) = true := by simp [Region.wanted, hgd]
  rw [if_pos hw]
  obtain ⟨i0, hi, hz0, hz1, hz2⟩ := info_parts infoUn
  refine wp_append_own w s x 69 ho base 78 i0 _ 3 56 Try.underlying69 hi hz0 hz1 hz2 rfl (by decide) V L.length (L.flatMap ucel) hs hown ⟨g, 0, none⟩ 1 c ([U].flatMap ucel) hx (ucel_len [U]) (fun j u hu => ?_) (ucels_one [U]) (by unfold maxLen; omega) (by omega) hbase ?_
  · rw [addr0c, hU.cell]
    have e : [U].flatMap ucel = ucel U := by simp
    rw [e] at hu
    simpa [ucel] using hu
  · intro V' w' h1 h2 h3
    exact h V' w' (by unfold UR; rw [List.length_append, List.flatMap_append]; exact h1) h2
theorem gl_sg {w : World} {base : Nat} {s : Sl} {G : List Gd} (h : GL w base (.slice s.a s.n s.c) G) (hr : ∀ x ∈ G, -9223372036854775808 ≤ x.1 ∧ x.1 ≤ 9223372036854775807) : SGd w s G := GL.sg h (own_len h) hr
end Go.Proofs.Ytfjeonoihdgdoaa
