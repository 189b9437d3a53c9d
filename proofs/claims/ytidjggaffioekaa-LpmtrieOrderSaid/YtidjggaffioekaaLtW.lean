/- Tries: what both sides answer. -/
import Derived.Test.YtidjggaffioekaaLtV
import Derived.Test.YtidjggaffioekaaLtS
namespace Go.Proofs.Ytidjggaffioekaa
open Go.RowKit
set_option linter.unusedVariables false

theorem keep_len (a f : Nat) (p : List Bool) (x : Int) (B : Tr) : (blks (keep a f p x B)).length ≤ (blks B).length + 2 := by
  cases B with
  | nil => simp [keep, blks]
  | node b q st y l r =>
    simp only [keep]
    split
    · simp [blks]
    · split
      · split <;> simp [blks] <;> omega
      · split <;> simp [blks] <;> omega
theorem ins_blks (a f : Nat) (p : List Bool) (x : Int) (T : Tr) : (blks (insT a f p x T)).length ≤ (blks T).length + 2 := by
  obtain ⟨A, B, h1, h2⟩ := put_blks T (desc p T) (desc_in p T)
  unfold insT
  rw [h2, h1]
  have := keep_len a f p x (sub T (desc p T))
  simp only [List.length_append]
  omega
theorem Ok.few {w : Nat} {q : List Bool} {T : Tr} (h : Ok w q T) : Few w (ents T) := fun e he => (Ok.ent h e he).2
/-- What a call on a trie leaves. -/
def RetJ (W : World) (q s wi : Nat) (T : Tr) (L : List Ent) (v : Value) (w : World) (e : Ending) (w' : World) : Prop := ∃ T', e = .returned v ∧ ents T' = L ∧ (blks T').length ≤ (blks T).length + 2 ∧ LS W q s wi T' w' ∧ Fx (Bs s T) w w'
theorem RetJ.same {W : World} {q s wi : Nat} {T : Tr} {v : Value} {w : World} {e : Ending} {w' : World} (h : LS W q s wi T w) (k : RetV v w e w') : RetJ W q s wi T (ents T) v w e w' := ⟨T, k.1, rfl, by omega, h.keep0 k.2, Fx.of k.2⟩
theorem find_some {wi : Nat} {p : List Bool} {T : Tr} {y : Int} (ok : Ok wi [] T) (hg : getT p T = some y) : findL p (ents T) < (ents T).length := by
  have k := lookL_T ok p
  rw [hg] at k
  unfold lookL at k
  split at k
  · assumption
  · cases k
theorem find_none {wi : Nat} {p : List Bool} {T : Tr} (ok : Ok wi [] T) (hg : getT p T = none) : fv p (ents T) = -1 := by
  have k := lookL_T ok p
  rw [hg] at k
  unfold lookL at k
  split at k
  · cases k
  · rename_i h
    unfold fv
    rw [if_neg h]
theorem ins_both (W w : World) (q s wi v : Nat) (T : Tr) (m x : Int) (a : Option Addr) (n c : Nat) (h : LS W q s wi T w) (hv : v < 4294967296) (hN : (ents T).length ≤ 1000) (r : RI w 0 (.slice a n c) wi (ents T)) (hn : n = (ents T).length) :
    ∃ (k : Int) (L : List Ent), L.length ≤ (ents T).length + 1 ∧ (∀ w2, w.grownBy w2 none → Calls Try.prog 16 #[.agg #[.int .i64 wi, .slice a n c], .int .u32 v, .int .i64 m, .int .i64 x] w2 (RetR wi L (.int .i64 k) w2)) ∧ (∀ w2, w.grownBy w2 none → Calls Try.prog 17 #[.pointer (some ⟨q, 0, none⟩), .int .u32 v, .int .i64 m, .int .i64 x] w2 (RetJ W q s wi T L (.int .i64 k) w2)) := by
  by_cases hb : v < 2 ^ wi ∧ 0 ≤ m ∧ m ≤ wi
  · obtain ⟨hb1, hb2, hb3⟩ := hb
    obtain ⟨mm, rfl⟩ : ∃ k : Nat, m = k := ⟨m.toNat, by omega⟩
    have hm : mm ≤ wi := by omega
    have pl : ((bitsN wi v).take mm).length ≤ wi := by rw [List.length_take, bits_len]; omega
    cases hg : getT ((bitsN wi v).take mm) T with
    | some y =>
      have fs := find_some h.ok hg
      refine ⟨7, ents T, by omega, fun w2 k => ?_, fun w2 k => ?_⟩
      · refine rins_dup w2 v wi mm x a n c (ents T) (r.keep0 k) hn h.w2 (by omega) (by omega) hb1 fun W2 k2 => ⟨findL ((bitsN wi v).take mm) (ents T), ?_⟩
        have q := rfind_any W2 v wi mm 0 a n c (ents T) _ h.w1 h.w2 hb1 hm rfl ((r.keep0 k).keep0 k2) hn h.ok.few (by omega)
        unfold fv at q
        rwa [if_pos fs] at q
      · refine (ins_dup W w2 q s wi v mm T _ x (h.keep0 k) hb1 hm rfl (by rw [hg]; rfl)).mono ?_
        rintro e w3 ⟨e1, l, f⟩
        exact ⟨T, e1, rfl, by omega, l, f⟩
    | none =>
      refine ⟨0, insL wi ((bitsN wi v).take mm, x) (ents T), by rw [ins_len]; omega, fun w2 k => ?_, fun w2 k => ?_⟩
      · refine rins_ok w2 v wi mm x a n c (ents T) _ (r.keep0 k) hn h.w1 h.w2 hm hb1 rfl (by omega) fun W2 k2 => ⟨-1, by omega, ?_⟩
        have q := rfind_any W2 v wi mm 0 a n c (ents T) _ h.w1 h.w2 hb1 hm rfl ((r.keep0 k).keep0 k2) hn h.ok.few (by omega)
        rwa [find_none h.ok hg] at q
      · refine (ins_ok W w2 q s wi v mm T _ x (h.keep0 k) hb1 hm rfl hg (by omega)).mono ?_
        rintro e w3 ⟨b, f, e1, l, fx⟩
        exact ⟨_, e1, insT_ents h.ok pl hg, ins_blks _ _ _ _ _, l, fx⟩
  · exact ⟨9, ents T, by omega, fun w2 k => rins_bad w2 v wi m x a n c (ents T) (r.keep0 k) hn h.w2 hv hb, fun w2 k => (ins_bad W w2 q s wi v T m x (h.keep0 k) hb).mono fun _ _ z => RetJ.same (h.keep0 k) z⟩
theorem del_both (W w : World) (q s wi v : Nat) (T : Tr) (m : Int) (a : Option Addr) (n c : Nat) (h : LS W q s wi T w) (hv : v < 4294967296) (hN : (ents T).length ≤ 1000) (r : RI w 0 (.slice a n c) wi (ents T)) (hn : n = (ents T).length) :
    ∃ (k : Bool) (L : List Ent), L.length ≤ (ents T).length + 1 ∧ (∀ w2, w.grownBy w2 none → Calls Try.prog 23 #[.agg #[.int .i64 wi, .slice a n c], .int .u32 v, .int .i64 m] w2 (RetR wi L (.bool k) w2)) ∧ (∀ w2, w.grownBy w2 none → Calls Try.prog 19 #[.pointer (some ⟨q, 0, none⟩), .int .u32 v, .int .i64 m] w2 (RetJ W q s wi T L (.bool k) w2)) := by
  by_cases hb : v < 2 ^ wi ∧ 0 ≤ m ∧ m ≤ wi
  · obtain ⟨hb1, hb2, hb3⟩ := hb
    obtain ⟨mm, rfl⟩ : ∃ k : Nat, m = k := ⟨m.toNat, by omega⟩
    have hm : mm ≤ wi := by omega
    cases hg : getT ((bitsN wi v).take mm) T with
    | some y =>
      have fs := find_some h.ok hg
      have dl : (delL ((bitsN wi v).take mm) (ents T)).length ≤ (ents T).length := List.length_filter_le _ _
      refine ⟨true, delL ((bitsN wi v).take mm) (ents T), by omega, fun w2 k => ?_, fun w2 k => ?_⟩
      · refine rdel_some w2 v wi (findL ((bitsN wi v).take mm) (ents T)) mm a n c (ents T) _ (r.keep0 k) hn h.ok.sorted (by omega) fs (findL_at fs) fun W2 k2 => ?_
        have q := rfind_any W2 v wi mm 0 a n c (ents T) _ h.w1 h.w2 hb1 hm rfl ((r.keep0 k).keep0 k2) hn h.ok.few (by omega)
        unfold fv at q
        rwa [if_pos fs] at q
      · refine (del_some W w2 q s wi v mm T _ y (h.keep0 k) hb1 hm rfl hg (by omega)).mono ?_
        rintro e w3 ⟨e1, l, f⟩
        exact ⟨_, e1, delT_ents h.ok, Nat.le_trans (del_sub _ T).length_le (Nat.le_add_right _ _), l, f⟩
    | none =>
      refine ⟨false, ents T, by omega, fun w2 k => ?_, fun w2 k => ?_⟩
      · refine rdel_no w2 v wi mm a n c (ents T) (r.keep0 k) hn fun W2 k2 => ⟨-1, by omega, ?_⟩
        have q := rfind_any W2 v wi mm 0 a n c (ents T) _ h.w1 h.w2 hb1 hm rfl ((r.keep0 k).keep0 k2) hn h.ok.few (by omega)
        rwa [find_none h.ok hg] at q
      · exact (del_none W w2 q s wi v mm T _ (h.keep0 k) hb1 hm rfl hg).mono fun _ _ z => RetJ.same (h.keep0 k) z
  · exact ⟨false, ents T, by omega, fun w2 k => rdel_no w2 v wi m a n c (ents T) (r.keep0 k) hn fun W2 k2 => ⟨-1, by omega, rfind_bad W2 v wi m a n c h.w2 hv hb⟩, fun w2 k => (del_bad W w2 q s wi v T m (h.keep0 k) hb).mono fun _ _ z => RetJ.same (h.keep0 k) z⟩
theorem getV_shape (o : Option Int) : ∃ y b, getV o = .tuple #[.int .i64 y, .bool b] := by cases o <;> exact ⟨_, _, rfl⟩
theorem triV_shape (o : Option Ent) : ∃ (y k : Int) (b : Bool), triV o = .tuple #[.int .i64 y, .int .i64 k, .bool b] := by cases o <;> exact ⟨_, _, _, rfl⟩
theorem get_both (W w : World) (q s wi v : Nat) (T : Tr) (m : Int) (a : Option Addr) (n c : Nat) (h : LS W q s wi T w) (hv : v < 4294967296) (hN : (ents T).length ≤ 1000) (r : RI w 0 (.slice a n c) wi (ents T)) (hn : n = (ents T).length) :
    ∃ (y : Int) (b : Bool), (∀ w2, w.grownBy w2 none → Calls Try.prog 18 #[.agg #[.int .i64 wi, .slice a n c], .int .u32 v, .int .i64 m] w2 (RetV (.tuple #[.int .i64 y, .bool b]) w2)) ∧ (∀ w2, w.grownBy w2 none → Calls Try.prog 24 #[.pointer (some ⟨q, 0, none⟩), .int .u32 v, .int .i64 m] w2 (RetV (.tuple #[.int .i64 y, .bool b]) w2)) := by
  by_cases hb : v < 2 ^ wi ∧ 0 ≤ m ∧ m ≤ wi
  · obtain ⟨hb1, hb2, hb3⟩ := hb
    obtain ⟨mm, rfl⟩ : ∃ k : Nat, m = k := ⟨m.toNat, by omega⟩
    have hm : mm ≤ wi := by omega
    obtain ⟨y, b, e⟩ := getV_shape (getT ((bitsN wi v).take mm) T)
    refine ⟨y, b, fun w2 k => ?_, fun w2 k => ?_⟩
    · have q := rget_any w2 v wi mm 0 a n c (ents T) _ h.w1 h.w2 hb1 hm rfl (r.keep0 k) hn h.ok.few (by omega)
      rwa [lookL_T h.ok, e] at q
    · have z := get_ok W w2 q s wi v mm T _ (h.keep0 k) hb1 hm rfl
      rwa [e] at z
  · exact ⟨0, false, fun w2 k => rget_bad w2 v wi m a n c h.w2 hv hb, fun w2 k => get_bad W w2 q s wi v T m (h.keep0 k) hb⟩
theorem look_both (W w : World) (q s wi v : Nat) (T : Tr)  (a : Option Addr) (n c : Nat) (h : LS W q s wi T w) (hv : v < 4294967296) (hN : (ents T).length ≤ 1000) (r : RI w 0 (.slice a n c) wi (ents T)) (hn : n = (ents T).length) :
    ∃ (y k : Int) (b : Bool), (∀ w2, w.grownBy w2 none → Calls Try.prog 25 #[.agg #[.int .i64 wi, .slice a n c], .int .u32 v] w2 (RetV (.tuple #[.int .i64 y, .int .i64 k, .bool b]) w2)) ∧ (∀ w2, w.grownBy w2 none → Calls Try.prog 15 #[.pointer (some ⟨q, 0, none⟩), .int .u32 v] w2 (RetV (.tuple #[.int .i64 y, .int .i64 k, .bool b]) w2)) := by
  by_cases hb : v < 2 ^ wi
  · obtain ⟨y, k, b, e⟩ := triV_shape (lonT (bitsN wi v) T none)
    refine ⟨y, k, b, fun w2 k => ?_, fun w2 k => ?_⟩
    · have q := rlook_any w2 v wi 0 a n c (ents T) h.w1 h.w2 hb (r.keep0 k) hn h.ok.few (by omega)
      rwa [lonR_T h.ok (bits_len wi v), e] at q
    · have z := look_any W w2 q s wi v T (h.keep0 k) hb
      rwa [e] at z
  · exact ⟨0, 0, false, fun w2 k => rlook_bad w2 v wi a n c h.w2 hv hb, fun w2 k => look_bad W w2 q s wi v T (h.keep0 k) hb⟩
end Go.Proofs.Ytidjggaffioekaa
