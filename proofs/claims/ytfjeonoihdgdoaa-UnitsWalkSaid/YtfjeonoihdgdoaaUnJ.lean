/- Units: the program's Build; no condition but the sizes. -/
import Derived.Test.YtfjeonoihdgdoaaUnI
import Derived.Test.YtfjeonoihdgdoaaMga
import Derived.Laws.EntriesVeiled
namespace Go.Proofs.Ytfjeonoihdgdoaa
open Go.RowKit
set_option linter.unusedVariables false
theorem flat3u (M : List Un) : ∀ (i r : Nat), i < M.length → r < 3 → (M.flatMap ucel)[i * 3 + r]? = (ucel (M.getD i uz))[r]? := by
  induction M with
  | nil => intro i r h; cases h
  | cons p M ih =>
    intro i r h hr
    rw [List.flatMap_cons]
    cases i with
    | zero =>
      rw [Nat.zero_mul, Nat.zero_add, List.getElem?_append_left (by simpa [ucel] using hr)]
      rfl
    | succ i =>
      rw [List.getElem?_append_right (by simp [ucel]; omega)]
      have e : (i + 1) * 3 + r - (ucel p).length = i * 3 + r := by simp [ucel]; omega
      rw [e, ih i r (by simpa using h) hr]
      rfl
def InR (u : Int) : Prop := -9223372036854775808 ≤ u ∧ u ≤ 9223372036854775807
theorem bldT_rng : ∀ (T : CT) (n : Nat) (G : List Gd), (∀ y ∈ G, InR y.1) → n + T.cnt ≤ 1000000 → ∀ q ∈ bldT T n G, (q.2.1 = [] ∨ ∃ x ∈ T.pre, q.2.1 = x.N) ∧ ∀ y ∈ q.2.2, InR y.1 := by
  intro T
  induction T with
  | nil => intro n G _ _ q hq; cases hq
  | cons k t c N s th u el r i1 i2 i3 =>
    intro n G hG hn q hq
    have hc : (CT.cons k t c N s th u el r).cnt = 1 + th.cnt + el.cnt + r.cnt := CV.cnt_ct ⟨k, t, c, N, s, th, u, el⟩ r
    have hp : (CT.cons k t c N s th u el r).pre = ⟨k, t, c, N, s, th, u, el⟩ :: (th.pre ++ (el.pre ++ r.pre)) := rfl
    have gr : ∀ b : Bool, ∀ y ∈ G ++ [((n : Int), b)], InR y.1 := fun b y hy => by
      rcases List.mem_append.1 hy with z | z
      · exact hG y z
      · rw [List.mem_singleton] at z; subst z; unfold InR; dsimp only; omega
    rw [bldT] at hq
    rcases List.mem_cons.1 hq with rfl | hq
    · refine ⟨?_, hG⟩
      dsimp only
      unfold ucnd
      split
      · exact .inr ⟨_, by rw [hp]; exact List.mem_cons_self .., rfl⟩
      · exact .inl rfl
    · rcases List.mem_append.1 hq with z | z
      · obtain ⟨a, b⟩ := i1 _ _ (gr true) (by omega) q z
        exact ⟨a.imp id fun ⟨x, hx, e⟩ => ⟨x, by rw [hp]; exact List.mem_cons_of_mem _ (List.mem_append_left _ hx), e⟩, b⟩
      · rcases List.mem_append.1 z with z | z
        · obtain ⟨a, b⟩ := i2 _ _ (gr false) (by omega) q z
          exact ⟨a.imp id fun ⟨x, hx, e⟩ => ⟨x, by rw [hp]; exact List.mem_cons_of_mem _ (List.mem_append_right _ (List.mem_append_left _ hx)), e⟩, b⟩
        · obtain ⟨a, b⟩ := i3 _ _ hG (by omega) q z
          exact ⟨a.imp id fun ⟨x, hx, e⟩ => ⟨x, by rw [hp]; exact List.mem_cons_of_mem _ (List.mem_append_right _ (List.mem_append_right _ hx)), e⟩, b⟩
/-- The list built reads as units. -/
theorem UI.sun {w0 w : World} {lb fb base n c : Nat} {a : Option Addr} {L : List Un} (h : UI w0 w lb fb base (.slice a n c) L) (hr : ∀ U ∈ L, (∀ x ∈ U.N, -9223372036854775808 ≤ x.2.1 ∧ x.2.1 ≤ 9223372036854775807) ∧ ∀ y ∈ U.G, InR y.1) : SUn w ⟨a, n, c⟩ L := by
  have ho : w.ownsRow base 78 3 (.slice a n c) L.length (L.flatMap ucel) := h.o
  have hl := own_len ho
  subst hl
  have cp := own_cap ho
  have mem : ∀ j, j < L.length → L.getD j uz ∈ L := fun j hj => by
    rw [List.getD_eq_getElem?_getD, List.getElem?_eq_getElem hj]; exact List.getElem_mem _
  refine ⟨rfl, ?_, cp, fun ad e j hj => ?_, fun j hj => ?_⟩
  · intro e
    dsimp only at e
    subst e
    rcases ho.2 with ⟨h', _⟩ | ⟨g', cap', cur, h', _⟩
    · injection h' with _ h1 h2
      exact ⟨h1, h2⟩
    · injection h' with h' _ _
      cases h'
  · dsimp only at e hj
    obtain ⟨g, cx, hv⟩ := own_head ho (by omega)
    injection hv with hv _ hc
    subst hc
    rw [e] at hv
    injection hv with hv
    subst hv e
    rw [addr0c]
    have z : ∀ r, r < 3 → w.cell? ⟨g, j * 3 + r, none⟩ = (ucel (L.getD j uz))[r]? := fun r hr => (ho.cellAt (j * 3 + r) (by omega)).trans (flat3u L j r hj hr)
    exact ⟨(z 0 (by decide)).trans rfl, (z 1 (by decide)).trans rfl, (z 2 (by decide)).trans rfl⟩
  · dsimp only at hj
    obtain ⟨m1, m2⟩ := h.m _ (mem j hj)
    obtain ⟨r1, r2⟩ := hr _ (mem j hj)
    exact ⟨NDL.sn m1 (own_len m1) r1, gl_sg m2 r2⟩
theorem own_adr {w : World} {base n c : Nat} {a : Option Addr} {L : List Un} (h : UR w base (.slice a n c) L) {ad : Addr} (e : a = some ad) : ∃ g, ad = ⟨g, 0, none⟩ := by
  rcases h.2 with ⟨h', _⟩ | ⟨g', cap', cur, h', _⟩
  · injection h' with h1 _ _
    rw [h1] at e; cases e
  · injection h' with h1 _ _
    rw [h1] at e
    injection e with e
    exact ⟨g', e.symm⟩
def bldP (H : List (ByteArray × List Fld)) (M : List Fld) (tn : Nat) (T : CT) : List PU := if (chkC H M tn T).2 = 0 then bldT T 0 [] else []
def RetBu (P : List PU) (w : World) (e : Ending) (w' : World) : Prop := ∃ (s : Sl) (L : List Un), e = .returned (.slice s.a s.n s.c) ∧ SUn w' s L ∧ L.map uv = P ∧ w.grownBy w' none ∧ ∀ ad, s.a = some ad → ∃ g, ad = ⟨g, 0, none⟩
theorem sun_nil (w : World) : SUn w ⟨none, 0, 0⟩ [] := ⟨rfl, fun _ => ⟨rfl, rfl⟩, Nat.le_refl _, (fun ad e => by cases e), fun j hj => absurd hj (Nat.not_lt_zero _)⟩
theorem chkC_cnt {H : List (ByteArray × List Fld)} {M : List Fld} {tn : Nat} {T : CT} (h : (chkC H M tn T).2 = 0) : T.cnt ≤ 24 := by
  unfold chkC at h
  by_cases c : 24 < T.cnt
  · rw [if_pos c] at h; exact absurd h (by decide)
  · omega
set_option maxRecDepth 100000 in
set_option maxHeartbeats 8000000 in
theorem build_any (w : World) (X : KX) (H : List (ByteArray × List Fld)) (M : List Fld) (T : CT) (hS : ST w ⟨X.a4, X.n4, X.c4⟩ T) (hp : PR w X H M) (hc : T.cnt ≤ 1000000) (hcd : CndK T) (hT : X.n2 ≤ 1000000) :
    Calls Try.prog 26 #[.agg #[.string X.nm, .slice X.ha X.hn X.hc, .slice X.ma X.mn X.mc, .slice X.a0 X.n0 X.c0, .slice X.a1 X.n1 X.c1, .slice X.a2 X.n2 X.c2, .slice X.a3 X.n3 X.c3, .slice X.a4 X.n4 X.c4, .slice X.a5 X.n5 X.c5]] w (RetBu (bldP H M X.n2 T) w) := by
  have HS := Lib.hid hS
  have HCD := Lib.hid hcd
  have GA := Lib.hid (gb_alloc w (.cells #[.string X.nm, .slice X.ha X.hn X.hc, .slice X.ma X.mn X.mc, .slice X.a0 X.n0 X.c0, .slice X.a1 X.n1 X.c1, .slice X.a2 X.n2 X.c2, .slice X.a3 X.n3 X.c3, .slice X.a4 X.n4 X.c4, .slice X.a5 X.n5 X.c5] 31) none)
  have BP := Lib.hid (IsB.new w 31 #[.string X.nm, .slice X.ha X.hn X.hc, .slice X.ma X.mn X.mc, .slice X.a0 X.n0 X.c0, .slice X.a1 X.n1 X.c1, .slice X.a2 X.n2 X.c2, .slice X.a3 X.n3 X.c3, .slice X.a4 X.n4 X.c4, .slice X.a5 X.n5 X.c5])
  have CK := Lib.hid (kchk_any _ X H M T (hS.keep0 GA.out) (hp.keep0 GA.out) hc hT)
  unfold RetCk at CK
  have CC := Lib.hid (fun h => chkC_cnt (H := H) (M := M) (tn := X.n2) (T := T) h)
  have BB := Lib.hid (show bldP H M X.n2 T = if (chkC H M X.n2 T).2 = 0 then bldT T 0 [] else [] from rfl)
  generalize chkC H M X.n2 T = r at *
  generalize bldP H M X.n2 T = P at *
  obtain ⟨r1, r2⟩ := r
  dsimp only at CK CC BB
  clear hS hp hcd
  go_enter Try.func26, Try.ntmps26
  go_wp2_with fail
  refine CK.out.mono ?_
  rintro e w2 ⟨rfl, g2⟩
  have G2 := Lib.hid (gb_trans GA.out g2)
  have BP2 := Lib.hid (BP.out.keep0 g2)
  clear CK g2 BP GA
  by_cases hr : r2 = 0
  · subst hr
    have HC := Lib.hid (CC.out rfl)
    have BE := Lib.hid (show P = bldT T 0 [] by rw [BB.out, if_pos rfl])
    clear CC BB
    have BL := (IsB.new w2 69 #[.slice none 0 0]).alloc (.cells #[.nilFunc] 123)
    have BF := IsB.new (w2.alloc (.cells #[.slice none 0 0] 69)) 123 #[.nilFunc]
    rw [sz_al] at BF
    have S4 : ((w2.alloc (.cells #[.slice none 0 0] 69)).alloc (.cells #[.nilFunc] 123)).heap.size = w2.heap.size + 1 + 1 := by rw [sz_al, sz_al]
    have G4 := gb_trans (gb_alloc w2 (.cells #[.slice none 0 0] 69) none) (gb_alloc _ (.cells #[.nilFunc] 123) none)
    go_upto_region 6 with fail
    generalize ((w2.alloc (.cells #[.slice none 0 0] 69)).alloc (.cells #[.nilFunc] 123)) = w4 at *
    obtain ⟨lb, hlb⟩ : ∃ q, q = w2.heap.size := ⟨_, rfl⟩
    have LB := Lib.hid hlb
    rw [← hlb] at BL BF S4 ⊢
    obtain ⟨bp, hbp⟩ : ∃ q, q = w.heap.size := ⟨_, rfl⟩
    have LP := Lib.hid (show bp < lb by have := BP2.out.lt; omega)
    have LPw := Lib.hid (show w.heap.size ≤ bp by omega)
    rw [← hbp] at BP2 ⊢
    clear hlb hbp
    have S4' := Lib.hid S4
    have G4' := Lib.hid G4
    have fz := BF.free 0
    have lz := BF.cell 0
    dsimp at lz
    have B5 := BF.set 0 (.func (.func 55) #[] #[.pointer (some ⟨lb, 0, none⟩), .pointer (some ⟨lb + 1, 0, none⟩)])
    have L5 := BL.set_far (show lb ≠ lb + 1 by omega) 0 (.func (.func 55) #[] #[.pointer (some ⟨lb, 0, none⟩), .pointer (some ⟨lb + 1, 0, none⟩)])
    have P5 := (BP2.out.keep0 G4).set_far (show bp ≠ lb + 1 by have := LP.out; omega) 0 (.func (.func 55) #[] #[.pointer (some ⟨lb, 0, none⟩), .pointer (some ⟨lb + 1, 0, none⟩)])
    have G5 := gb_put (i := 0) (u := (.func (.func 55) #[] #[.pointer (some ⟨lb, 0, none⟩), .pointer (some ⟨lb + 1, 0, none⟩)])) G4 (show w2.heap.size ≤ lb + 1 by have := LB.out; omega)
    have Z5 := (gb_set w4 (lb + 1) 0 (.func (.func 55) #[] #[.pointer (some ⟨lb, 0, none⟩), .pointer (some ⟨lb + 1, 0, none⟩)])).size
    have U5 := Lib.hid (show UI w2 (w4.setCell ⟨lb + 1, 0, none⟩ (.func (.func 55) #[] #[.pointer (some ⟨lb, 0, none⟩), .pointer (some ⟨lb + 1, 0, none⟩)])) lb (lb + 1) (lb + 1 + 1) (.slice none 0 0) [] from
      ⟨L5, B5, World.ownsRow_nil _ _ _ _, (fun U hU => by cases hU), Kc.of_gb G5, by have := LB.out; omega, by omega, by omega, by omega⟩)
    have f0 := B5.cell 0
    have p7 := P5.cell 7
    dsimp at f0 p7
    have CR := Lib.hid (col_rec w2 lb (lb + 1) (lb + 1 + 1) (T.cnt + 1) T ⟨X.a4, X.n4, X.c4⟩ [] ⟨none, 0, 0⟩ (w4.setCell ⟨lb + 1, 0, none⟩ (.func (.func 55) #[] #[.pointer (some ⟨lb, 0, none⟩), .pointer (some ⟨lb + 1, 0, none⟩)])) [] (.slice none 0 0) (by omega) (by have := HC.out; simp; omega) (by have := HC.out; simp; omega) HCD.out (HS.out.keep0 G2.out) (fun x hx => by cases hx) (World.ownsRow_nil _ _ _ _) U5.out)
    unfold RetCol at CR
    dsimp only [List.length_nil] at CR
    replace G5 := Lib.hid G5
    have RNG := Lib.hid (bldT_rng T 0 [] (fun y hy => by cases hy) (by have := HC.out; omega))
    have SVM := Lib.hid (show ∀ x ∈ T.pre, ∀ y ∈ x.N, -9223372036854775808 ≤ y.2.1 ∧ y.2.1 ≤ 9223372036854775807 from fun x hx => (HS.out.vm x hx).c.rng)
    clear BL BF S4 B5 L5 P5 G4 Z5
    go_wp2_with fail
    refine CR.out.mono ?_
    clear CR fz lz f0 p7
    rintro e w8 ⟨⟨v8, rfl⟩, V8, L8, u8', m8, k8⟩
    rw [List.nil_append] at u8'
    obtain ⟨a8, c8, hv8⟩ := own_shape (show w8.ownsRow _ 78 3 V8 L8.length (L8.flatMap ucel) from u8'.o)
    subst hv8
    have U8 := Lib.hid u8'
    have M8 := Lib.hid m8
    have K8 := Lib.hid k8
    have l8 := u8'.l.cell 0
    dsimp at l8
    clear u8' m8 k8
    have G8 := Lib.hid (show w.grownBy w8 none from Kt.gb (own := fun k _ => w.heap.size ≤ k) ((Kt.of_gb (gb_trans G2.out G5.out)).trans (K8.out.mono (fun k o q => by
      have := G2.out.size
      have := LB.out
      cases o <;> first | exact q.elim | (rcases q with ⟨q, _⟩ | ⟨q, _⟩ <;> omega)))) (fun k o hk q => by omega))
    go_wp2
    go_ret
    refine ⟨⟨a8, L8.length, c8⟩, L8, rfl, U8.out.sun (fun U hU => ?_), by rw [BE.out]; exact M8.out, G8.out, fun ad e => own_adr U8.out.o e⟩
    have hm : uv U ∈ bldT T 0 [] := by rw [← M8.out]; exact List.mem_map.2 ⟨U, hU, rfl⟩
    obtain ⟨r1, r2⟩ := RNG.out _ hm
    refine ⟨fun x hx => ?_, r2⟩
    rcases r1 with r1 | ⟨y, hy, r1⟩
    · have e : U.N = [] := r1
      rw [e] at hx; cases hx
    · have e : U.N = y.N := r1
      rw [e] at hx
      exact SVM.out y hy x hx
  · have BE := Lib.hid (show P = [] by rw [BB.out, if_neg hr])
    have b0 : (r2 != 0) = true := by simpa using hr
    clear CC BB
    go_wp2
    go_ret
    exact ⟨⟨none, 0, 0⟩, [], rfl, sun_nil _, by rw [BE.out]; rfl, G2.out, fun ad e => by cases e⟩
end Go.Proofs.Ytfjeonoihdgdoaa
