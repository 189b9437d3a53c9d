/- Tries: prefixes as numbers; what the state's small functions answer; no condition. -/
import Derived.Test.YtidjggaffioekaaLtQ
import Derived.Test.YtidjggaffioekaaBvC
import Derived.Laws.BitsAllLaws
import Derived.Laws.ResultCell
import Derived.Deep.RegionHeld3
import Derived.Deep.RegionWith
import Derived.Deep.CutRange
import Derived.BigQuiet
namespace Go.Proofs.Ytidjggaffioekaa
open Go.RowKit
set_option linter.unusedVariables false

def RetS (v : Value) (w : World) (e : Ending) (w' : World) : Prop := e = .returned v ∧ w' = w
def RetV (v : Value) (w : World) (e : Ending) (w' : World) : Prop := e = .returned v ∧ w.grownBy w' none
theorem results_cell1 {fn : Func} {p : Tmp} {ty : TypeId} (h : fn.results = #[.cell p ty]) (tmps : Array Value) (P : Program) (w : World) :
    (results fn tmps).run P w = ((asAddr (tmps.getD p undef)).run P w).andThen fun a w₁ => ((loadVar ty a).run P w₁) := by
  simp only [results, h]
  simp [Sem.run_bind, Result.andThen]
theorem results3 {fn : Func} {s t u : Tmp} (h : fn.results = #[.tmp s, .tmp t, .tmp u]) (tmps : Array Value) (P : Program) (w : World) : (results fn tmps).run P w = .ok (.tuple #[tmps.getD s undef, tmps.getD t undef, tmps.getD u undef]) w := by
  simp [results, h]
theorem sz_al (w : World) (o : Obj) : (w.alloc o).heap.size = w.heap.size + 1 := by show (w.heap.push _).size = _; simp
theorem gb_put {W0 w : World} {g i : Nat} {u : Value} (h : W0.grownBy w none) (hg : W0.heap.size ≤ g) : W0.grownBy (w.setCell ⟨g, i, none⟩ u) none := gb_new (gb_trans (gb_any h) (gb_set _ _ _ _)) hg
/-- The number of a prefix, as the program has it. -/
def E (wd : Nat) (p : List Bool) : Int := ((enc wd p : Nat) : Int)
theorem E_rng (wd : Nat) (p : List Bool) (h : wd ≤ 32) : 0 ≤ E wd p ∧ E wd p < 4294967296 := by
  have := enc_lt wd p
  have : 2 ^ wd ≤ 2 ^ 32 := Nat.pow_le_pow_right (by decide) h
  unfold E; omega
theorem E_inj {wd : Nat} {p q : List Bool} (hp : p.length ≤ wd) (hq : q.length ≤ wd) (hl : p.length = q.length) (h : E wd p = E wd q) : p = q := by
  unfold E at h
  exact enc_inj wd hp hq hl (by omega)
theorem clamp_nat (n wd : Nat) (hn : n ≤ wd) : clampB n wd = n := by unfold clampB; omega
theorem pm_nat (n wd : Nat) (hn : n ≤ wd) (h1 : 1 ≤ wd) (h2 : wd ≤ 32) : pmB n wd = ((maskN n wd : Nat) : Int) := by
  unfold pmB maskN
  rw [if_pos ⟨by omega, by omega⟩, clamp_nat n wd hn]
  have e1 : ((wd : Int)).toNat = wd := by omega
  have e2 : ((wd : Int) - n).toNat = wd - n := by omega
  rw [e1, e2]
  have := Nat.pow_le_pow_right (n := 2) (by decide) (show wd - n ≤ wd by omega)
  rw [Int.natCast_sub this]; simp
theorem mask_lt (n wd : Nat) (h2 : wd ≤ 32) : maskN n wd < 4294967296 := by
  have : 2 ^ wd ≤ 2 ^ 32 := Nat.pow_le_pow_right (by decide) h2
  have : 0 < 2 ^ (wd - n) := Nat.two_pow_pos _
  unfold maskN; omega
theorem and_pm (v n wd : Nat) (hn : n ≤ wd) (h1 : 1 ≤ wd) (h2 : wd ≤ 32) (hv : v < 2 ^ wd) : bits .and .u32 (v : Int) (pmB n wd) = E wd ((bitsN wd v).take n) := by
  have : 2 ^ wd ≤ 2 ^ 32 := Nat.pow_le_pow_right (by decide) h2
  rw [pm_nat n wd hn h1 h2, u32_and_nat v _ (by omega) (mask_lt n wd h2), and_enc wd n v hn hv]; rfl
/-- Whether a list begins with p, asked as the program asks. -/
theorem take_pre {p k : List Bool} : k.take p.length = p ↔ p <+: k := by
  constructor
  · intro h; rw [← h]; exact List.take_prefix _ _
  · exact fun h => (List.prefix_iff_eq_take.1 h).symm
theorem has_iff (v wd : Nat) (p : List Bool) (hp : p.length ≤ wd) : E wd ((bitsN wd v).take p.length) = E wd p ↔ p <+: bitsN wd v := by
  rw [← take_pre]
  constructor
  · exact fun h => E_inj (by rw [List.length_take, bits_len]; omega) hp (by rw [List.length_take, bits_len]; omega) h
  · exact fun h => by rw [h]
theorem pre_enc {wd : Nat} {q p : List Bool} (hp : p.length ≤ wd) (hq : q.length ≤ p.length) : q <+: bitsN wd (enc wd p) ↔ q <+: p := by
  rw [bits_enc wd p hp]
  exact ⟨fun h => List.prefix_of_prefix_length_le h (List.prefix_append _ _) hq, fun h => h.trans (List.prefix_append _ _)⟩
set_option maxRecDepth 100000 in
set_option maxHeartbeats 4000000 in
theorem has_any (w : World) (s wd v : Nat) (q : List Bool) (b : Bool) (hb : decide (q <+: bitsN wd v) = b) (hs : w.cell? ⟨s, 0, none⟩ = some (.int .i64 wd)) (h1 : 1 ≤ wd) (h2 : wd ≤ 32) (hv : v < 2 ^ wd) (hq : q.length ≤ wd) :
    Calls Try.prog 41 #[.pointer (some ⟨s, 0, none⟩), .int .u32 v, .agg #[.int .u32 (E wd q), .int .i64 q.length]] w (RetV (.bool b) w) := by
  have HI := Lib.hid (has_iff v wd q hq)
  have AP := Lib.hid (and_pm v q.length wd hq h1 h2 hv)
  have PM := Lib.hid (fun w => pmask_any q.length wd w)
  have HB := Lib.hid hb
  generalize pmB q.length wd = pm at *
  generalize E wd ((bitsN wd v).take q.length) = m at *
  generalize E wd q = e at *
  generalize q.length = n at *
  clear hb h1 h2 hv hq
  have G1 := Lib.hid (gb_alloc w (.cells #[.int .u32 e, .int .i64 n] 79) none)
  have B1 := Lib.hid (IsB.new w 79 #[.int .u32 e, .int .i64 n])
  have CS := Lib.hid (fun (w' : World) (g : w.grownBy w' none) => (g.cell hs (by simp) : w'.cell? ⟨s, 0, none⟩ = some (.int .i64 wd)))
  clear hs
  go_enter Try.func41, Try.ntmps41
  go_upto_region 1 with fail
  generalize w.alloc (.cells #[.int .u32 e, .int .i64 n] 79) = w1 at *
  obtain ⟨z, hz⟩ : ∃ z, z = w.heap.size := ⟨_, rfl⟩
  have Lz := Lib.hid (show w.heap.size ≤ z by rw [hz]; exact Nat.le_refl _)
  rw [← hz] at B1 ⊢
  clear hz
  have KS := Lib.hid (fun (w' : World) (q0 : w1.grownBy w' none) => (⟨(B1.out.keep0 q0).cell 0, (B1.out.keep0 q0).cell 1, CS.out w' (gb_trans G1.out q0), q0⟩ : (fun w' : World => w'.cell? ⟨z, 0, none⟩ = some (.int .u32 e) ∧ w'.cell? ⟨z, 1, none⟩ = some (.int .i64 n) ∧ w'.cell? ⟨s, 0, none⟩ = some (.int .i64 wd) ∧ w1.grownBy w' none) w'))
  go_region_held3 (fun w' : World => w'.cell? ⟨z, 0, none⟩ = some (.int .u32 e) ∧ w'.cell? ⟨z, 1, none⟩ = some (.int .i64 n) ∧ w'.cell? ⟨s, 0, none⟩ = some (.int .i64 wd) ∧ w1.grownBy w' none)
    (first
      | assumption
      | exact KS.out _ (by repeat' first
                                | assumption
                                | exact (And.right (And.right (And.right (by assumption))))
                                | exact World.grownBy.refl _ _
                                | exact gb_drew _ _
                                | refine gb_trans ?_ (gb_drew _ _)
                                | refine gb_trans ?_ (gb_alloc _ _ _)
                                | refine gb_trans ?_ (gb_gr (by assumption) _)
                                | refine gb_trans ?_ (by assumption)))
    (first | (go_at_call 40; refine (PM.out _).mono ?_; rintro e w4 ⟨rfl, g4⟩))
  rename_i hH
  have G2 := Lib.hid (gb_trans G1.out hH.2.2.2)
  clear hH
  have X : (bits .and .u32 (v : Int) pm == e) = b := by
    rw [AP.out, ← HB.out, Bool.eq_iff_iff]; simp [HI.out]
  rw [X]
  go_wp2
  go_ret
  exact ⟨rfl, G2.out⟩
/-- A bit as a number. -/
def kI (c : Bool) : Int := if c then 1 else 0
theorem bit_val (v wd i : Nat) (c : Bool) (hc : (bitsN wd v).getD i false = c) (hi : i < wd) : sliceB v ((wd : Int) - 1 - i) 1 = kI c ∨ 32 < wd := by
  by_cases h : 32 < wd
  · exact .inr h
  · refine .inl ?_
    unfold sliceB redB
    rw [if_pos ⟨by omega, by omega, by omega⟩, if_pos ⟨by omega, by omega⟩]
    have q := bits_get wd v i hi
    rw [hc] at q
    have e : ((wd : Int) - 1 - i).toNat = wd - 1 - i := by omega
    have e2 : ((v : Int) / 2 ^ (wd - 1 - i)) % 2 ^ (1 : Int).toNat = ((v / 2 ^ (wd - 1 - i) % 2 : Nat) : Int) := by simp
    rw [e, e2, q]
    have : v / 2 ^ (wd - 1 - i) % 2 < 2 := Nat.mod_lt _ (by decide)
    unfold kI
    by_cases k : v / 2 ^ (wd - 1 - i) % 2 = 1
    · simp [k]
    · have : v / 2 ^ (wd - 1 - i) % 2 = 0 := by omega
      simp [this]
theorem getD_big (l : List Bool) (i : Nat) (h : l.length ≤ i) : l.getD i false = false := by simp [List.getD_eq_getElem?_getD, h]
theorem slice_any (a lo x : Int) (w : World) (h0 : 0 ≤ a) (h1 : a < 4294967296) : Calls Try.prog 47 #[.int .u32 a, .int .i64 lo, .int .i64 x] w (RetV (.int .u32 (sliceB a lo x)) w) := by
  by_cases h : (1 ≤ x ∧ x ≤ 32) ∧ 0 ≤ lo ∧ lo ≤ 32 - x
  · exact (slice_yes_any a lo x w h0 h1 h.1.1 h.1.2 h.2.1 h.2.2).mono fun _ _ k => ⟨k.1, gb_gr k.2 none⟩
  · exact (slice_no_any a lo x w h).mono fun _ _ k => ⟨k.1, gb_gr k.2 none⟩
set_option maxRecDepth 100000 in
theorem bit_any (w : World) (s wd v i : Nat) (c : Bool) (hc : (bitsN wd v).getD i false = c) (hs : w.cell? ⟨s, 0, none⟩ = some (.int .i64 wd)) (h1 : 1 ≤ wd) (h2 : wd ≤ 32) (hv : v < 2 ^ wd) (hi : i ≤ wd) :
    Calls Try.prog 42 #[.pointer (some ⟨s, 0, none⟩), .int .u32 v, .int .i64 i] w (RetV (.int .u32 (kI c)) w) := by
  have hb : 2 ^ wd ≤ 2 ^ 32 := Nat.pow_le_pow_right (by decide) h2
  have SL := slice_any v ((wd : Int) - 1 - i) 1 w (by omega) (by omega)
  have e : sliceB v ((wd : Int) - 1 - i) 1 = kI c := by
    by_cases h : i < wd
    · exact (bit_val v wd i c hc h).resolve_right (by omega)
    · have q := getD_big (bitsN wd v) i (by rw [bits_len]; omega)
      rw [hc] at q
      subst q
      have hn : ¬ ((1 ≤ (1 : Int) ∧ (1 : Int) ≤ 32) ∧ 0 ≤ (wd : Int) - 1 - i ∧ (wd : Int) - 1 - i ≤ 32 - 1) := by omega
      exact (slice_out _ _ _ hn).symm
  rw [e] at SL
  clear e
  have S := Lib.hid SL
  have w1 : IntKind.i64.wrap ((wd : Int) - 1) = (wd : Int) - 1 := by rw [IntKind.wrap_i64]; omega
  have w2 : IntKind.i64.wrap ((wd : Int) - 1 - i) = (wd : Int) - 1 - i := by rw [IntKind.wrap_i64]; omega
  clear SL hc hv hb h1 h2 hi
  go_enter Try.func42, Try.ntmps42
  go_wp2_with fail
  refine S.out.mono ?_
  rintro e w1 ⟨rfl, g⟩
  have G := Lib.hid g
  clear g
  go_wp2
  go_ret
  exact ⟨rfl, G.out⟩
end Go.Proofs.Ytidjggaffioekaa
