/- Parser: what one state reads back of what was written; plain facts; no condition. -/
import Derived.Test.YtjhknmklejkknaaDpG
import Derived.Test.YtjhknmklejkknaaGxH
import Derived.Test.YtjhknmklejkknaaPsO
namespace Go.Proofs.Ytjhknmklejkknaa
open Go.RowKit
set_option linter.unusedVariables false
/-- The packet with all its headers valid. -/
def allV (H : List (ByteArray × List Fld)) (L : EL) : EL := ⟨List.replicate H.length true, L.F, L.T, L.P⟩
/-- One header is taken over. -/
def tk1 (L A : EL) (d : Int) : EL := ⟨A.V.set d.toNat true, A.F.set d.toNat (L.F.getD d.toNat []), A.T, A.P⟩
/-- Headers are taken over, one by one. -/
def tkR (L A : EL) (D : List Int) : EL := D.foldl (tk1 L) A
theorem tkR_snoc (L A : EL) (D : List Int) (k : Nat) (hk : k < D.length) : tkR L A (D.take (k + 1)) = tk1 L (tkR L A (D.take k)) (D.getD k 0) := by
  unfold tkR
  rw [take_one D 0 k hk, List.foldl_append]; rfl
theorem allV_at (H : List (ByteArray × List Fld)) (L : EL) (n : Nat) (h : n < H.length) : (allV H L).V.getD n false = true := by simp [allV, h]
theorem allV_ok {H : List (ByteArray × List Fld)} {M : List Fld} {D : List Int} {L : EL} (he : envOk H M L) (ho : hdsOk H) (hd : dcOk H.length D) (hF : ∀ k, ∀ x ∈ L.F.getD k [], 0 ≤ x ∧ x < 4294967296) : DV H M D (allV H L) := by
  obtain ⟨s1, s2, s3, s4⟩ := (shP_iff H M L).1 he.1
  exact ⟨⟨(shP_iff H M _).2 ⟨by simp [allV], s2, s3, s4⟩, he.2.1, fun h hh => .inl (allV_at H L h (by rw [← s2]; exact hh))⟩, ho, hd, hF⟩
theorem ex_back {H : List (ByteArray × List Fld)} {M : List Fld} {D : List Int} {L : EL} (h : DV H M D (allV H L)) (hp : ∀ x ∈ L.P, 0 ≤ x ∧ x < 256) (A : EL) (k n : Nat) (hk : k < D.length) (hn : D.getD k 0 = (n : Int)) (hN : n < H.length) :
    pEx H (emit H M D (allV H L)) A (posD H (allV H L) D k) n = (0, tk1 L A (n : Int), posD H (allV H L) D (k + 1)) := by
  have q := rd_back h hp k n hk hn hN (allV_at H L n hN)
  unfold pEx
  rw [q, if_pos rfl]
  rfl
theorem exs_back {H : List (ByteArray × List Fld)} {M : List Fld} {D : List Int} {L : EL} (h : DV H M D (allV H L)) (hp : ∀ x ∈ L.P, 0 ≤ x ∧ x < 256) : ∀ (f k : Nat) (A : EL), k ≤ D.length → D.length - k = f →
    pExs H (emit H M D (allV H L)) (D.drop k) A (posD H (allV H L) D k) = (0, tkR L A (D.drop k), posD H (allV H L) D D.length) := by
  intro f
  induction f with
  | zero =>
    intro k A hk hf
    have e : k = D.length := by omega
    subst e
    rw [List.drop_length]; rfl
  | succ f ih =>
    intro k A hk hf
    have hl : k < D.length := by omega
    obtain ⟨n, e1, hN⟩ := isX_nat (dv_isx h _ (getD_mem' D 0 k hl))
    have eD : D.drop k = (n : Int) :: D.drop (k + 1) := by
      rw [List.drop_eq_getElem_cons hl, ← e1]
      rw [List.getD_eq_getElem?_getD, List.getElem?_eq_getElem hl]; rfl
    have q := ex_back h hp A k n hl e1 hN
    rw [eD]
    show (if (pEx H (emit H M D (allV H L)) A (posD H (allV H L) D k) ((n : Int)).toNat).1 = 0 then _ else _) = _
    rw [show ((n : Int)).toNat = n from rfl, q, if_pos rfl]
    exact ih (k + 1) (tk1 L A n) (by omega) (by omega)
/-- One state that takes all headers in an order. -/
theorem go_back {H : List (ByteArray × List Fld)} {M : List Fld} {D : List Int} {L : EL} (h : DV H M D (allV H L)) (hp : ∀ x ∈ L.P, 0 ≤ x ∧ x < 256) (S : List Pst) (h1 : (S.getD 0 psz).ex = D) (h2 : (S.getD 0 psz).cs = []) (h3 : (S.getD 0 psz).df = -1) (st : List Int) (A : EL) (f : Nat) :
    pGo H (emit H M D (allV H L)) S (f + 1) 0 st A 0 = (0, st, tkR L A D, posD H (allV H L) D D.length) := by
  have q := exs_back h hp _ 0 A (Nat.zero_le _) rfl
  rw [List.drop_zero, show posD H (allV H L) D 0 = 0 from rfl] at q
  have q2 : pExs H (emit H M D (allV H L)) (S.getD 0 psz).ex A 0 = (0, tkR L A D, posD H (allV H L) D D.length) := by rw [h1]; exact q
  rw [pGo_step _ q2 (-1) (by rw [h2, h3]; rfl), if_pos rfl, if_neg (by decide), if_pos rfl]
theorem run_back {H : List (ByteArray × List Fld)} {M : List Fld} {D : List Int} {L : EL} (h : DV H M D (allV H L)) (hp : ∀ x ∈ L.P, 0 ≤ x ∧ x < 256) (S : List Pst) (h1 : (S.getD 0 psz).ex = D) (h2 : (S.getD 0 psz).cs = []) (h3 : (S.getD 0 psz).df = -1) :
    pRun H M S (emit H M D (allV H L)) 0 = (⟨(tkR L (newE H M) D).V, (tkR L (newE H M) D).F, (tkR L (newE H M) D).T, L.P⟩, [0], 0) := by
  have q := go_back h hp S h1 h2 h3 [0] (newE H M) 11
  unfold pRun
  rw [if_neg (by simp), q, if_neg (by simp), rest_back h]
  rfl
/-- What has been taken over. -/
theorem tkR_len (L A : EL) (D : List Int) : (tkR L A D).V.length = A.V.length ∧ (tkR L A D).F.length = A.F.length ∧ (tkR L A D).T = A.T ∧ (tkR L A D).P = A.P := by
  induction D generalizing A with
  | nil => exact ⟨rfl, rfl, rfl, rfl⟩
  | cons d t ih =>
    obtain ⟨a, b, c, e⟩ := ih (tk1 L A d)
    exact ⟨a.trans (by simp [tk1]), b.trans (by simp [tk1]), c, e⟩
theorem tkR_V (L A : EL) (D : List Int) (hD : ∀ d ∈ D, ∃ k : Nat, d = (k : Int)) (n : Nat) (hn : n < A.V.length) : (tkR L A D).V.getD n false = true ↔ A.V.getD n false = true ∨ (n : Int) ∈ D := by
  induction D generalizing A with
  | nil => simp [tkR]
  | cons d t ih =>
    obtain ⟨k, rfl⟩ := hD d (by simp)
    have q := ih (tk1 L A (k : Int)) (fun x hx => hD x (by simp [hx])) (by simp [tk1]; exact hn)
    show (tkR L (tk1 L A (k : Int)) t).V.getD n false = true ↔ _
    rw [q]
    have e : (tk1 L A (k : Int)).V.getD n false = true ↔ A.V.getD n false = true ∨ n = k := by
      show (A.V.set k true).getD n false = true ↔ _
      by_cases h : k = n
      · subst h; simp [hn]
      · rw [List.getD_eq_getElem?_getD, List.getElem?_set_ne h, ← List.getD_eq_getElem?_getD]
        exact ⟨.inl, fun x => x.resolve_right (fun y => h y.symm)⟩
    rw [e, List.mem_cons, show ((n : Int) = (k : Int) ↔ n = k) from Int.ofNat_inj]
    exact or_assoc
/-- An order whose headers are new one by one is an order of a deparser. -/
theorem dc_of {nh : Nat} {D : List Int} (hl : D.length ≤ 8) (h : ∀ i, i < D.length → isX (D.getD i 0) nh = true ∧ D.getD i 0 ∉ D.take i) : dcOk nh D :=
  ⟨hl, fun i hi => by unfold dpX; rw [if_pos (h i hi).1, if_neg (h i hi).2]⟩
/-- A header is marked valid. -/
theorem OE.setV {w2 : World} {base gv : Nat} {X : EX} {L : EL} {Vs : List Value} (h2 : OE w2 base X L Vs) (ev : X.va = some ⟨gv, 0, none⟩) (k : Nat) : OE (w2.setCell ⟨gv, k, none⟩ (.bool true)) base X ⟨L.V.set k true, L.F, L.T, L.P⟩ Vs := by
  have v2 : w2.ownsRow base 4 1 (.slice (some ⟨gv, 0, none⟩) L.V.length X.vc) L.V.length (L.V.map Value.bool) := by have q := h2.v; unfold NB at q; rw [ev, ← h2.vl] at q; exact q
  have sv := World.ownsRow.stored v2 k (.bool true)
  obtain ⟨cv, bv⟩ := own_blk v2
  have f2 := h2.f
  refine ⟨?_, ⟨own_keepS f2.out sv.2 bv (by decide), fun x hx => own_keepS (f2.own x hx) sv.2 bv (by decide), f2.dis, f2.rng⟩, own_keepS h2.t sv.2 bv (by decide), own_keepS h2.p sv.2 bv (by decide), by rw [List.length_set]; exact h2.vl, h2.fl, h2.tl, h2.pl, h2.trng, h2.prng, h2.dis⟩
  have q := sv.1
  unfold NB
  rw [ev, List.length_set, List.map_set, ← h2.vl]
  exact q
/-- A header's values are stored: their row was not there at w. -/
theorem OE.setF {w w2 : World} {base gf : Nat} {X : EX} {L : EL} {Vs : List Value} (h : OE w base X L Vs) (h2 : OE w2 base X L Vs) (ef : X.fa = some ⟨gf, 0, none⟩) (k : Nat) (hf : k < X.fn) (V' : Value) (us : List Int) (o : NU w2 base V' us)
    (hb : ∀ q, V'.ownBlock = some q → w.heap.size ≤ q) (hr : ∀ y ∈ us, 0 ≤ y ∧ y < 4294967296) :
    OE (w2.setCell ⟨gf, k, none⟩ V') base X ⟨L.V, L.F.set k us, L.T, L.P⟩ (Vs.set k V') := by
  have f0 := h.f
  have f2 := h2.f
  rw [ef] at f0 f2
  have f4 := OR.put2 f0 f2 h2.fl k hf V' us o hb hr
  have fo : w2.ownsRow base 40 1 (.slice (some ⟨gf, 0, none⟩) L.F.length X.fc) L.F.length Vs := by have q := f2.out; rw [← h2.fl] at q; exact q
  obtain ⟨cf, bf⟩ := own_blk fo
  have gf2 := gb_set w2 gf k V'
  refine ⟨own_keepS h2.v gf2 bf (by decide), by rw [ef]; exact f4, own_keepS h2.t gf2 bf (by decide), own_keepS h2.p gf2 bf (by decide), h2.vl, by rw [List.length_set]; exact h2.fl, h2.tl, h2.pl, h2.trng, h2.prng, ?_⟩
  intro x hx q hq
  rw [List.length_set] at hx
  by_cases e : x = k
  · subst e
    rw [getD_set_at _ _ _ _ (by rw [f2.nV]; exact hx)] at hq
    intro ht
    have := (World.ownsRow.lt h.t q ht).2
    have := hb q hq
    omega
  · rw [getD_set_off _ _ _ _ _ e] at hq
    exact h2.dis x hx q hq
end Go.Proofs.Ytjhknmklejkknaa
